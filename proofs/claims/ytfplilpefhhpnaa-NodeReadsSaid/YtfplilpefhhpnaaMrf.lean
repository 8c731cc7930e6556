/- What the statements' walks use: ReadsW. -/

import Derived.Test.YtfplilpefhhpnaaMrb
import Derived.Test.YtfplilpefhhpnaaMre
/- NodeReads, any input (written by gennd28.py). -/
namespace Go.Proofs.Ytfplilpefhhpnaa
set_option linter.unusedVariables false
set_option linter.unusedSimpArgs false
open Go.RowKit Go.Shelf
/-- What stands ahead of the ranges. -/
structure LvN (W w X1 X2 X3 : World) (l s : Int) (lo le : Nat) (wy : Int) (gk gr gw ga gt : Nat) (many : Int) (v1 v2 : Value) (tv : Int) : Prop where
  rk : RowL W gk 3 [.int .i64 many]
  rr : RowL W gr 4 [.bool false]
  rw : RowL W gw 29 [.int .i64 l, .int .i64 s, .int .u64 (lo : Int), .int .u64 (le : Int), .int .i64 wy, v1]
  ra : RowL W ga 42 [v2]
  rt : RowL W gt 3 [.int .i64 tv]
  q1 : Below X1.heap.size X1 W
  q2 : Below X2.heap.size X2 W
  q3 : Below X3.heap.size X3 W
  bel : Below w.heap.size w W
theorem LvN.lift {W W' w X1 X2 X3 : World} {l s : Int} {lo le : Nat} {wy : Int} {gk gr gw ga gt : Nat} {many : Int} {v1 v2 : Value} {tv : Int} (h : LvN W w X1 X2 X3 l s lo le wy gk gr gw ga gt many v1 v2 tv) (hb : Below W.heap.size W W') : LvN W' w X1 X2 X3 l s lo le wy gk gr gw ga gt many v1 v2 tv :=
  ⟨h.rk.up hb, h.rr.up hb, h.rw.up hb, h.ra.up hb, h.rt.up hb, h.q1.trans (hb.mono h.q1.size), h.q2.trans (hb.mono h.q2.size), h.q3.trans (hb.mono h.q3.size), h.bel.trans (hb.mono h.bel.size)⟩
def rdR (g : Nat) (L : List (Nat × Pr)) (B : Nat) (W : World) : Prop := ∃ v2 X, RowL W g 42 [v2] ∧ (∀ Y, Below X.heap.size X Y → ReadsT iE 1 Y v2 (L.map (·.1))) ∧ Below X.heap.size X W ∧ X.heap.size ≤ B ∧ g < B
theorem rdR.up {g B : Nat} {L : List (Nat × Pr)} {W W' : World} (h : rdR g L B W) (b : Below W.heap.size W W') : rdR g L B W' := by
  obtain ⟨v2, X, r, o, bx, hx⟩ := h
  exact ⟨v2, X, r.up b, o, bx.trans (b.mono bx.size), hx⟩
theorem rdR.gr {g B go : Nat} {L : List (Nat × Pr)} {W W' : World} (h : rdR g L B W) (b : W.grownBy W' (some go)) (hgo : B ≤ go) : rdR g L B W' := by
  obtain ⟨v2, X, r, o, bx, hx, hg⟩ := h
  exact ⟨v2, X, r.gr b (by omega), o, bx.grown b bx.size (by rintro k ⟨⟩; omega), hx, hg⟩
theorem rdR.of {g : Nat} {L : List (Nat × Pr)} {W : World} {v2 : Value} (r : RowL W g 42 [v2]) (o : ReadsT iE 1 W v2 (L.map (·.1))) : rdR g L W.heap.size W := ⟨v2, W, r, fun _ b => o.up b, Below.refl _ _, Nat.le_refl _, r.lt⟩
theorem meetR {α β : Type} {A : α → β → World → Prop} {B : Prop} (F : α → β → World → Prop) (f : Later (∀ a b w, F a b w → A a b w) → B) (k : ∀ a b w, F a b w → A a b w) : B := f ⟨k⟩
set_option maxRecDepth 100000
set_option maxHeartbeats 16000000
theorem reads_gen (n : Nat) (a : Option Addr) (c : Nat) (ws : List Nat) (w : World) (hv : ReadsT uE 1 w (.slice a n c) ws) (hn : ws.length = n) (hc : n ≤ c) (hb : ∀ x ∈ ws, x < 18446744073709551616) (h70 : n ≤ 70) (many : Int) (er : Nat) (l s : Int) (lo le : Nat) (wy : Int) (L : List (Nat × Pr)) (hLl : L.length ≤ 64) (hOf : ∀ W u, ReadsT uE 1 W u ws → Calls Try.prog 9 #[u] W fun e w' => ∃ vo, e = .returned (.tuple #[nodeV l s lo le wy vo, .int .i64 (er : Int)]) ∧ ReadsT prE 2 w' vo (L.map (·.2)) ∧ Below W.heap.size W w') (hRf : ∀ W u, ReadsT uE 1 W u ws → Calls Try.prog 10 #[u] W fun e w' => ∃ vo, e = .returned (.tuple #[nodeV l s lo le wy vo, .int .i64 (er : Int)]) ∧ ReadsT prE 2 w' vo (L.map (·.2)) ∧ Below W.heap.size W w') (hEa : ∀ W u, ReadsT uE 1 W u ws → Calls Try.prog 15 #[u] W fun e w' => ∃ bk a c left E, e = .returned (.func (.func 75) #[] #[.pointer (some ⟨bk, 0, none⟩)]) ∧ RowL w' bk 96 [.slice a E.length c, .int .u64 ((left : Nat) : Int)] ∧ OwnsT uE 1 w' W.heap.size 25 (.slice a E.length c) E ∧ pairS left E = L ∧ E.length ≤ 1048576 ∧ W.heap.size ≤ bk ∧ Below W.heap.size W w') (hRd : er = 0 → nodeP ws ∧ pairS (gw ws 3) (ws.drop 8) = L) (hRn : er ≠ 0 → L = []) : Calls Try.prog 3 #[.slice a n c, .int .i64 many] w fun e w' => e = .returned (.bool true) ∧ Below w.heap.size w w' := by
  have q := Below.refl w.heap.size w
  have hvF : ∀ X, Below w.heap.size w X → ReadsT uE 1 X (.slice a n c) ws := fun X b => hv.up b
  clear hv
  obtain ⟨K, hK⟩ : ∃ K, L.length = K := ⟨_, rfl⟩
  have hK1 : (L.map (·.2)).length = K := by rw [List.length_map, hK]
  have hK2 : (L.map (·.1)).length = K := by rw [List.length_map, hK]
  have hlv := fun (W : World) (q : Below w.heap.size w W) => lent11_any n _ ws W (hvF _ q) hn (by omega)
  have hnc := fun W u (h : ReadsT uE 1 W u ws) => nCheck_any n u ws W h hn hb
  have hrc := fun W u (h : ReadsT uE 1 W u ws) => rCheck_any n u ws W h hn hb
  obtain ⟨ck, eck⟩ : ∃ k, chkN ws = k := ⟨_, rfl⟩
  rw [eck] at hnc hrc
  clear hb
  refine X.fnM Try.func3 rfl (n := 145) rfl rfl ?_
  refine CC.seq ?_
  refine CC.region ?_
  refine LL.box [Value.int IntKind.i64 many] rfl rfl rfl rfl rfl ?_
  intro W44 g45 eg45 r46 z47 b43
  replace q := q.trans (b43.mono q.size)
  have l96 := r46.lt
  refine LL.alloc ([Value.bool false]) rfl rfl rfl rfl rfl ?_
  intro W98 g99 eg99 r100 z101 b97
  replace r46 := r46.up b97
  replace b43 := b43.trans (b97.mono b43.size)
  replace q := q.trans (b97.mono q.size)
  refine LL.nilS ?_
  refine CC.seq ?_
  refine CC.seq ?_
  refine CC.region ?_
  refine LL.val (R.move rfl rfl) rfl rfl rfl ?_
  refine LL.val (R.len rfl rfl rfl rfl) rfl rfl rfl ?_
  refine LL.val (R.gtF rfl rfl rfl (by omega)) rfl rfl rfl ?_
  refine LL.nilS ?_
  refine CC.no rfl ?_
  refine CC.skip ?_
  refine EE.thenN ?_
  refine CC.seq ?_
  refine CC.region ?_
  refine LL.val (R.move rfl rfl) rfl rfl rfl ?_
  have l322 := r100.lt
  have l323 := r46.lt
  (refine LL.call (R.call rfl rfl rfl) rfl rfl rfl (hlv _ q) ?_; rintro e W321 ⟨gL, cL, rfl, hL, hcL, hgL, b318⟩; refine ⟨_, rfl, ?_⟩; obtain ⟨X3, hzX3, h3F, q3⟩ := exposeT hL; have zX3 := q3.size; clear hL)
  have zb318 := b318.size
  replace r100 := r100.up b318
  replace b97 := b97.trans (b318.mono b97.size)
  replace r46 := r46.up b318
  replace b43 := b43.trans (b318.mono b43.size)
  replace q := q.trans (b318.mono q.size)
  refine LL.val (R.assign rfl rfl) rfl rfl rfl ?_
  refine LL.nilS ?_
  refine CC.seq ?_
  refine CC.region ?_
  refine LL.val (R.move rfl rfl) rfl rfl rfl ?_
  have l448 := r100.lt
  have l449 := r46.lt
  (refine LL.call (R.call rfl rfl rfl) rfl rfl rfl (hOf _ _ (lentR hn (h3F _ q3) hcL)) ?_; rintro e W447 ⟨vo6, rfl, rd6, b444⟩; refine ⟨_, rfl, ?_⟩; obtain ⟨a6, c6, rfl, hc6⟩ := rd6.form hK1; obtain ⟨X6, hzX6, h6F, q6⟩ := exposeT rd6; have zX6 := q6.size; clear rd6)
  have zb444 := b444.size
  replace b318 := b318.trans (b444.mono b318.size)
  replace q3 := q3.trans (b444.mono q3.size)
  replace r100 := r100.up b444
  replace b97 := b97.trans (b444.mono b97.size)
  replace r46 := r46.up b444
  replace b43 := b43.trans (b444.mono b43.size)
  replace q := q.trans (b444.mono q.size)
  refine LL.val (R.move rfl rfl) rfl rfl rfl ?_
  refine LL.val (R.extract rfl rfl rfl) rfl rfl rfl ?_
  refine LL.val (R.extract rfl rfl rfl) rfl rfl rfl ?_
  have l669 := r100.lt
  have l670 := r46.lt
  refine LL.alloc ([Value.int IntKind.i64 0, Value.int IntKind.i64 0, Value.int IntKind.u64 0, Value.int IntKind.u64 0, Value.int IntKind.i64 0, Value.slice none 0 0]) rfl rfl rfl rfl rfl ?_
  intro W672 g673 eg673 r674 z675 b671
  replace b444 := b444.trans (b671.mono b444.size)
  replace q6 := q6.trans (b671.mono q6.size)
  replace b318 := b318.trans (b671.mono b318.size)
  replace q3 := q3.trans (b671.mono q3.size)
  replace r100 := r100.up b671
  replace b97 := b97.trans (b671.mono b97.size)
  replace r46 := r46.up b671
  replace b43 := b43.trans (b671.mono b43.size)
  replace q := q.trans (b671.mono q.size)
  refine LL.storeN (vs := [Value.int IntKind.i64 l, Value.int IntKind.i64 s, Value.int IntKind.u64 ↑lo, Value.int IntKind.u64 ↑le, Value.int IntKind.i64 wy, Value.slice a6 K c6]) rfl rfl rfl rfl r674 (by exact Nat.le_of_ble_eq_true rfl) (ones_of rfl) rfl rfl ?_
  intro W737 r738 b736 z739
  have hlb736 := r674.lt
  replace r738 : RowL W737 _ 29 [Value.int IntKind.i64 l, Value.int IntKind.i64 s, Value.int IntKind.u64 ↑lo, Value.int IntKind.u64 ↑le, Value.int IntKind.i64 wy, Value.slice a6 K c6] := r738
  clear r674
  replace b671 := b671.grown b736 b671.size (by rintro k ⟨⟩; omega)
  replace b444 := b444.grown b736 b444.size (by rintro k ⟨⟩; omega)
  replace q6 := q6.grown b736 q6.size (by rintro k ⟨⟩; omega)
  replace b318 := b318.grown b736 b318.size (by rintro k ⟨⟩; omega)
  replace q3 := q3.grown b736 q3.size (by rintro k ⟨⟩; omega)
  replace r100 := r100.gr b736 (by have := r100.lt; omega)
  replace b97 := b97.grown b736 b97.size (by rintro k ⟨⟩; omega)
  replace r46 := r46.gr b736 (by have := r46.lt; omega)
  replace b43 := b43.grown b736 b43.size (by rintro k ⟨⟩; omega)
  replace q := q.grown b736 q.size (by rintro k ⟨⟩; omega)
  have r674 := r738
  clear r738
  refine LL.val (R.assign rfl rfl) rfl rfl rfl ?_
  refine LL.nilS ?_
  refine CC.seq ?_
  refine CC.region ?_
  refine LL.val (R.move rfl rfl) rfl rfl rfl ?_
  have l884 := r100.lt
  have l885 := r46.lt
  have l886 := r674.lt
  (refine LL.call (R.call rfl rfl rfl) rfl rfl rfl (hRf _ _ (hvF _ q)) ?_; rintro e W883 ⟨vo1, rfl, rd1, b880⟩; refine ⟨_, rfl, ?_⟩; obtain ⟨av1, cv1, rfl, hc1⟩ := rd1.form hK1; obtain ⟨X1, hzX1, h1F, q1⟩ := exposeT rd1; have zX1 := q1.size; clear rd1)
  have zb880 := b880.size
  replace b671 := b671.trans (b880.mono b671.size)
  replace b444 := b444.trans (b880.mono b444.size)
  replace q6 := q6.trans (b880.mono q6.size)
  replace b318 := b318.trans (b880.mono b318.size)
  replace q3 := q3.trans (b880.mono q3.size)
  replace r100 := r100.up b880
  replace b97 := b97.trans (b880.mono b97.size)
  replace r46 := r46.up b880
  replace b43 := b43.trans (b880.mono b43.size)
  replace q := q.trans (b880.mono q.size)
  replace r674 := r674.up b880
  refine LL.val (R.move rfl rfl) rfl rfl rfl ?_
  refine LL.val (R.extract rfl rfl rfl) rfl rfl rfl ?_
  refine LL.val (R.extract rfl rfl rfl) rfl rfl rfl ?_
  have l1130 := r100.lt
  have l1131 := r46.lt
  have l1132 := r674.lt
  refine LL.alloc ([Value.int IntKind.i64 0, Value.int IntKind.i64 0, Value.int IntKind.u64 0, Value.int IntKind.u64 0, Value.int IntKind.i64 0, Value.slice none 0 0]) rfl rfl rfl rfl rfl ?_
  intro W1134 g1135 eg1135 r1136 z1137 b1133
  replace b880 := b880.trans (b1133.mono b880.size)
  replace q1 := q1.trans (b1133.mono q1.size)
  replace b671 := b671.trans (b1133.mono b671.size)
  replace b444 := b444.trans (b1133.mono b444.size)
  replace q6 := q6.trans (b1133.mono q6.size)
  replace b318 := b318.trans (b1133.mono b318.size)
  replace q3 := q3.trans (b1133.mono q3.size)
  replace r100 := r100.up b1133
  replace b97 := b97.trans (b1133.mono b97.size)
  replace r46 := r46.up b1133
  replace b43 := b43.trans (b1133.mono b43.size)
  replace q := q.trans (b1133.mono q.size)
  replace r674 := r674.up b1133
  refine LL.storeN (vs := [Value.int IntKind.i64 l, Value.int IntKind.i64 s, Value.int IntKind.u64 ↑lo, Value.int IntKind.u64 ↑le, Value.int IntKind.i64 wy, Value.slice av1 K cv1]) rfl rfl rfl rfl r1136 (by exact Nat.le_of_ble_eq_true rfl) (ones_of rfl) rfl rfl ?_
  intro W1205 r1206 b1204 z1207
  have hlb1204 := r1136.lt
  replace r1206 : RowL W1205 _ 29 [Value.int IntKind.i64 l, Value.int IntKind.i64 s, Value.int IntKind.u64 ↑lo, Value.int IntKind.u64 ↑le, Value.int IntKind.i64 wy, Value.slice av1 K cv1] := r1206
  clear r1136
  replace b1133 := b1133.grown b1204 b1133.size (by rintro k ⟨⟩; omega)
  replace b880 := b880.grown b1204 b880.size (by rintro k ⟨⟩; omega)
  replace q1 := q1.grown b1204 q1.size (by rintro k ⟨⟩; omega)
  replace b671 := b671.grown b1204 b671.size (by rintro k ⟨⟩; omega)
  replace b444 := b444.grown b1204 b444.size (by rintro k ⟨⟩; omega)
  replace q6 := q6.grown b1204 q6.size (by rintro k ⟨⟩; omega)
  replace b318 := b318.grown b1204 b318.size (by rintro k ⟨⟩; omega)
  replace q3 := q3.grown b1204 q3.size (by rintro k ⟨⟩; omega)
  replace r100 := r100.gr b1204 (by have := r100.lt; omega)
  replace b97 := b97.grown b1204 b97.size (by rintro k ⟨⟩; omega)
  replace r46 := r46.gr b1204 (by have := r46.lt; omega)
  replace b43 := b43.grown b1204 b43.size (by rintro k ⟨⟩; omega)
  replace q := q.grown b1204 q.size (by rintro k ⟨⟩; omega)
  replace r674 := r674.gr b1204 (by have := r674.lt; omega)
  have r1136 := r1206
  clear r1206
  refine LL.val (R.assign rfl rfl) rfl rfl rfl ?_
  refine LL.nilS ?_
  refine CC.seq ?_
  refine CC.seq ?_
  refine CC.region ?_
  refine LL.val (R.load rfl rfl (I.ldNc (vs := [Value.int IntKind.i64 l, Value.int IntKind.i64 s, Value.int IntKind.u64 ↑lo, Value.int IntKind.u64 ↑le, Value.int IntKind.i64 wy, Value.slice a6 K c6]) (RowL.cells r674 rfl) (by rfl) (by rfl))) rfl rfl rfl ?_
  refine LL.val (R.load rfl rfl (I.ldNc (vs := [Value.int IntKind.i64 l, Value.int IntKind.i64 s, Value.int IntKind.u64 ↑lo, Value.int IntKind.u64 ↑le, Value.int IntKind.i64 wy, Value.slice av1 K cv1]) (RowL.cells r1136 rfl) (by rfl) (by rfl))) rfl rfl rfl ?_
  have l1443 := r100.lt
  have l1444 := r46.lt
  have l1445 := r674.lt
  have l1446 := r1136.lt
  (refine LL.call (R.call rfl rfl rfl) rfl rfl rfl (nsame_T l s lo le wy _ _ _ _ (h6F _ q6) (h1F _ q1) (by omega)) ?_; rintro e W1442 ⟨rfl, b1439⟩; refine ⟨_, rfl, ?_⟩)
  have zb1439 := b1439.size
  replace b1133 := b1133.trans (b1439.mono b1133.size)
  replace b880 := b880.trans (b1439.mono b880.size)
  replace q1 := q1.trans (b1439.mono q1.size)
  replace b671 := b671.trans (b1439.mono b671.size)
  replace b444 := b444.trans (b1439.mono b444.size)
  replace q6 := q6.trans (b1439.mono q6.size)
  replace b318 := b318.trans (b1439.mono b318.size)
  replace q3 := q3.trans (b1439.mono q3.size)
  replace r100 := r100.up b1439
  replace b97 := b97.trans (b1439.mono b97.size)
  replace r46 := r46.up b1439
  replace b43 := b43.trans (b1439.mono b43.size)
  replace q := q.trans (b1439.mono q.size)
  replace r674 := r674.up b1439
  replace r1136 := r1136.up b1439
  refine LL.val (R.not rfl rfl) rfl rfl rfl ?_
  refine LL.val (R.move rfl rfl) rfl rfl rfl ?_
  refine LL.val (R.move rfl rfl) rfl rfl rfl ?_
  refine LL.call (R.call rfl rfl rfl) rfl rfl rfl (num11_any _ _) ?_
  rintro e W' ⟨rfl, rfl⟩
  refine ⟨_, rfl, ?_⟩
  refine LL.val (R.move rfl rfl) rfl rfl rfl ?_
  refine LL.val (R.neF rfl rfl rfl (by omega)) rfl rfl rfl ?_
  refine LL.val (R.pick rfl rfl rfl) rfl rfl rfl ?_
  refine LL.val (R.move rfl rfl) rfl rfl rfl ?_
  refine LL.val (R.move rfl rfl) rfl rfl rfl ?_
  have l2092 := r100.lt
  have l2093 := r46.lt
  have l2094 := r674.lt
  have l2095 := r1136.lt
  (refine LL.call (R.call rfl rfl rfl) rfl rfl rfl (hnc _ _ (lentR hn (h3F _ q3) hcL)) ?_; rintro e W2091 ⟨rfl, b2088⟩; refine ⟨_, rfl, ?_⟩)
  have zb2088 := b2088.size
  replace b1439 := b1439.trans (b2088.mono b1439.size)
  replace b1133 := b1133.trans (b2088.mono b1133.size)
  replace b880 := b880.trans (b2088.mono b880.size)
  replace q1 := q1.trans (b2088.mono q1.size)
  replace b671 := b671.trans (b2088.mono b671.size)
  replace b444 := b444.trans (b2088.mono b444.size)
  replace q6 := q6.trans (b2088.mono q6.size)
  replace b318 := b318.trans (b2088.mono b318.size)
  replace q3 := q3.trans (b2088.mono q3.size)
  replace r100 := r100.up b2088
  replace b97 := b97.trans (b2088.mono b97.size)
  replace r46 := r46.up b2088
  replace b43 := b43.trans (b2088.mono b43.size)
  replace q := q.trans (b2088.mono q.size)
  replace r674 := r674.up b2088
  replace r1136 := r1136.up b2088
  refine LL.call (R.call rfl rfl rfl) rfl rfl rfl (num11_any _ _) ?_
  rintro e W' ⟨rfl, rfl⟩
  refine ⟨_, rfl, ?_⟩
  refine LL.val (R.move rfl rfl) rfl rfl rfl ?_
  have l2290 := r100.lt
  have l2291 := r46.lt
  have l2292 := r674.lt
  have l2293 := r1136.lt
  (refine LL.call (R.call rfl rfl rfl) rfl rfl rfl (hrc _ _ (hvF _ q)) ?_; rintro e W2289 ⟨rfl, b2286⟩; refine ⟨_, rfl, ?_⟩)
  have zb2286 := b2286.size
  replace b2088 := b2088.trans (b2286.mono b2088.size)
  replace b1439 := b1439.trans (b2286.mono b1439.size)
  replace b1133 := b1133.trans (b2286.mono b1133.size)
  replace b880 := b880.trans (b2286.mono b880.size)
  replace q1 := q1.trans (b2286.mono q1.size)
  replace b671 := b671.trans (b2286.mono b671.size)
  replace b444 := b444.trans (b2286.mono b444.size)
  replace q6 := q6.trans (b2286.mono q6.size)
  replace b318 := b318.trans (b2286.mono b318.size)
  replace q3 := q3.trans (b2286.mono q3.size)
  replace r100 := r100.up b2286
  replace b97 := b97.trans (b2286.mono b97.size)
  replace r46 := r46.up b2286
  replace b43 := b43.trans (b2286.mono b43.size)
  replace q := q.trans (b2286.mono q.size)
  replace r674 := r674.up b2286
  replace r1136 := r1136.up b2286
  refine LL.val (R.neF rfl rfl rfl (by omega)) rfl rfl rfl ?_
  refine LL.val (R.pick rfl rfl rfl) rfl rfl rfl ?_
  refine LL.nilS ?_
  refine CC.no rfl ?_
  refine CC.skip ?_
  refine EE.thenN ?_
  refine CC.seq ?_
  refine CC.region ?_
  refine LL.val (R.move rfl rfl) rfl rfl rfl ?_
  refine LL.call (R.call rfl rfl rfl) rfl rfl rfl (hEa _ _ (lentR hn (h3F _ q3) hcL)) ?_
  rintro e W5 ⟨bk, a5, c5, left, E, rfl, rb, oE, hEL, hE20, hbk, b5⟩
  refine ⟨_, rfl, ?_⟩
  obtain ⟨bkl, hbl, hblt⟩ := bkl_row (oE.reads uEnc) bk
  have r5E := oE.reads uEnc
  have z5 := b5.size
  have lb5 := rb.lt
  have rk5 := r46.up b5
  have rr5 := r100.up b5
  have rw5 := r1136.up b5
  have q1 := q1.trans (b5.mono q1.size)
  have q3 := q3.trans (b5.mono q3.size)
  have q := q.trans (b5.mono q.size)
  have zq1 := q1.size
  have zq3 := q3.size
  have zq := q.size
  have lgk := rk5.lt
  have lgr := rr5.lt
  have lgw := rw5.lt
  have hord0 : w.heap.size ≤ g45 ∧ g45 < g99 ∧ g99 < g1135 := by omega
  clear b2286 b2088 b1439 b1133 b880 b671 b444 q6 b318 r100 b97 r46 b43 r674 r1136 b5 oE hnc hrc h6F hOf hRf hEa
  apply meetR (fun (ga gt : Nat) W0 => Below W5.heap.size W5 W0 ∧ rdR ga L gt W0 ∧ RowL W0 gt 3 [.int .i64 0] ∧ W5.heap.size ≤ ga ∧ ga < gt)
  case f =>
    intro lat
    have q5 := Below.refl W5.heap.size W5
    by_cases he : er = 0
    case pos =>
      obtain ⟨hP, eL⟩ := hRd he
      obtain ⟨bkv, off, c', e, hc64⟩ := sl64 (hvF _ q) hP.1
      have ea := (Value.slice.inj e).1
      have en := (Value.slice.inj e).2.1
      have ec := (Value.slice.inj e).2.2
      have hvF' : ∀ X, Below w.heap.size w X → ReadsT uE 1 X (.slice (some ⟨bkv, off, none⟩) 64 c) ws := fun X b => by
        have := hvF X b
        rw [ea, en] at this
        exact this
      have hix : ∀ (P : Program) (T e : TypeId) (w' : World), slB P T = some (e, 1) → (Instr.indexAt T (.slice a n c) (.int .i64 3)).run P w' = .ok (.pointer (some ⟨bkv, off + 3, none⟩)) w' := fun P T e w' h => by
        rw [ea]
        exact I.ixS1 (i := 3) h (by omega)
      have hsl : ∀ (P : Program) (T e : TypeId) (w' : World), slB P T = some (e, 1) → (Instr.sliceAt T (.slice a n c) (some (.int .i64 8)) none none).run P w' = .ok (.slice (some ⟨bkv, off + 8 * 1, none⟩) (64 - 8) (c - 8)) w' := fun P T e w' h => by
        rw [ea, en]
        exact I.slFrom (lo := 8) h (by omega) (by omega) (by omega)
      have c3F : ∀ W, Below w.heap.size w W → W.cell? ⟨bkv, off + 3, none⟩ = some (.int .u64 (gw ws 3 : Int)) := fun W b => cF_of (hvF' _ (Below.refl _ _)) hP.1 3 (by decide) W b
      have hs : ∀ W, Below w.heap.size w W → ReadsT uE 1 W (.slice (some ⟨bkv, off + 8 * 1, none⟩) (64 - 8) (c - 8)) (ws.drop 8) := fun W b => by
        have := (uE_reads (hvF' W b)).from 8 (by decide)
        rw [show (ints .u64 ws).drop 8 = ints .u64 (ws.drop 8) by simp [ints]] at this
        exact reads_uE this
      have hd8 : (ws.drop 8).length = 56 := by rw [List.length_drop, hP.1]
      have hrd := fun W (b : Below w.heap.size w W) => dread_any (gw ws 3) _ 56 (c - 8) (ws.drop 8) W (hs W b) hd8 (by decide)
      rw [eL] at hrd
      obtain ⟨x3, e3⟩ : ∃ x, gw ws 3 = x := ⟨_, rfl⟩
      rw [e3] at hrd c3F
      have he' : (er : Int) = 0 := by omega
      focus
        refine LL.val (R.assign rfl rfl) rfl rfl rfl ?_
        refine LL.nilS ?_
        refine CC.seq ?_
        refine CC.seq ?_
        refine CC.region ?_
        refine LL.val (R.move rfl rfl) rfl rfl rfl ?_
        refine LL.val (R.eqFn rfl rfl rfl rfl) rfl rfl rfl ?_
        refine LL.nilS ?_
        refine CC.no rfl ?_
        refine CC.skip ?_
        refine EE.thenN ?_
        refine CC.seq ?_
        refine CC.region ?_
        have la117 := rb.lt
        have la118 := rk5.lt
        have la119 := rr5.lt
        have la120 := rw5.lt
        refine LL.alloc ([Value.slice none 0 0]) rfl rfl rfl rfl rfl ?_
        intro Wa122 ga123 ega123 ra124 za125 ba121
        replace rb := rb.up ba121
        replace r5E := r5E.up ba121
        replace rk5 := rk5.up ba121
        replace rr5 := rr5.up ba121
        replace rw5 := rw5.up ba121
        replace q1 := q1.trans (ba121.mono q1.size)
        replace q3 := q3.trans (ba121.mono q3.size)
        replace q := q.trans (ba121.mono q.size)
        replace q5 := q5.trans (ba121.mono q5.size)
        refine LL.nilS ?_
        refine CC.seq ?_
        refine CC.seq ?_
        refine CC.region ?_
        refine LL.val (R.move rfl rfl) rfl rfl rfl ?_
        refine LL.val (R.eqT rfl rfl rfl (by omega)) rfl rfl rfl ?_
        refine LL.nilS ?_
        refine CC.yes rfl ?_
        refine CC.join (fun l_ Wa247 => l_ = [(0, Value.slice a n c), (1, Value.int IntKind.i64 many), (3, Value.pointer (some { block := g45, off := 0 })), (4, Value.pointer (some { block := g99, off := 0 })), (16, Value.slice a n c), (17, Value.int IntKind.i64 ↑n), (18, Value.bool false), (20, Value.slice a n c), (21, Value.slice (some { block := gL, off := 0 }) n cL), (5, Value.slice (some { block := gL, off := 0 }) n cL), (23, Value.slice (some { block := gL, off := 0 }) n cL), (24, Value.tuple #[nodeV l s lo le wy (Value.slice a6 K c6), Value.int IntKind.i64 ↑er]), (22, Value.tuple #[nodeV l s lo le wy (Value.slice a6 K c6), Value.int IntKind.i64 ↑er]), (25, Value.agg #[Value.int IntKind.i64 l, Value.int IntKind.i64 s, Value.int IntKind.u64 ↑lo, Value.int IntKind.u64 ↑le, Value.int IntKind.i64 wy, Value.slice a6 K c6]), (26, Value.int IntKind.i64 ↑er), (6, Value.pointer (some { block := g673, off := 0 })), (7, Value.int IntKind.i64 ↑er), (28, Value.slice a n c), (29, Value.tuple #[nodeV l s lo le wy (Value.slice av1 K cv1), Value.int IntKind.i64 ↑er]), (27, Value.tuple #[nodeV l s lo le wy (Value.slice av1 K cv1), Value.int IntKind.i64 ↑er]), (30, Value.agg #[Value.int IntKind.i64 l, Value.int IntKind.i64 s, Value.int IntKind.u64 ↑lo, Value.int IntKind.u64 ↑le, Value.int IntKind.i64 wy, Value.slice av1 K cv1]), (31, Value.int IntKind.i64 ↑er), (8, Value.pointer (some { block := g1135, off := 0 })), (9, Value.int IntKind.i64 ↑er), (32, Value.agg #[Value.int IntKind.i64 l, Value.int IntKind.i64 s, Value.int IntKind.u64 ↑lo, Value.int IntKind.u64 ↑le, Value.int IntKind.i64 wy, Value.slice a6 K c6]), (33, Value.agg #[Value.int IntKind.i64 l, Value.int IntKind.i64 s, Value.int IntKind.u64 ↑lo, Value.int IntKind.u64 ↑le, Value.int IntKind.i64 wy, Value.slice av1 K cv1]), (34, Value.bool true), (35, Value.bool !true), (36, Value.bool !true), (37, Value.int IntKind.i64 ↑er), (38, Value.int IntKind.i64 ↑er), (39, Value.int IntKind.i64 ↑er), (40, Value.bool false), (41, Value.bool false), (42, Value.bool false), (43, Value.slice (some { block := gL, off := 0 }) n cL), (44, Value.int IntKind.i64 ↑ck), (45, Value.int IntKind.i64 ↑ck), (46, Value.slice a n c), (47, Value.int IntKind.i64 ↑ck), (48, Value.bool false), (49, Value.bool false), (50, Value.slice (some { block := gL, off := 0 }) n cL), (51, Value.func (Fn.func 75) #[] #[Value.pointer (some { block := bk, off := 0 })]), (10, Value.func (Fn.func 75) #[] #[Value.pointer (some { block := bk, off := 0 })]), (52, Value.func (Fn.func 75) #[] #[Value.pointer (some { block := bk, off := 0 })]), (53, Value.bool false), (11, Value.pointer (some { block := ga123, off := 0 })), (54, Value.int IntKind.i64 ↑er), (55, Value.bool true)] ∧ (rdR ga123 L Wa247.heap.size Wa247) ∧ (Below W5.heap.size W5 Wa247) ∧ (RowL Wa247 bk 96 [Value.slice a5 E.length c5, Value.int IntKind.u64 ↑left]) ∧ (RowL Wa247 g45 3 [Value.int IntKind.i64 many]) ∧ (RowL Wa247 g99 4 [Value.bool false]) ∧ (RowL Wa247 g1135 29 [Value.int IntKind.i64 l, Value.int IntKind.i64 s, Value.int IntKind.u64 ↑lo, Value.int IntKind.u64 ↑le, Value.int IntKind.i64 wy, Value.slice av1 K cv1]) ∧ (Below X1.heap.size X1 Wa247) ∧ (Below X3.heap.size X3 Wa247) ∧ (Below w.heap.size w Wa247) ∧ (Below W5.heap.size W5 Wa247) ∧ (Wa122.heap.size ≤ Wa247.heap.size)) (fun Ja252 => ?_) ?restJa252
        case' restJa252 =>
          clear ba121
          clear rb
          clear rk5
          clear rr5
          clear rw5
          clear q1
          clear q3
          clear q
          clear q5
          rintro _ Wa247 ⟨rfl, hj, ba121, rb, rk5, rr5, rw5, q1, q3, q, q5, za251⟩
        refine EE.thenN ?_
        refine CC.seq ?_
        refine CC.seq ?_
        refine CC.region ?_
        have la282 := rb.lt
        have la283 := rk5.lt
        have la284 := rr5.lt
        have la285 := rw5.lt
        refine LL.alloc ([Value.int IntKind.i64 0]) rfl rfl rfl rfl rfl ?_
        intro Wa287 ga288 ega288 ra289 za290 ba286
        replace hj := hj.up ba286
        replace ba121 := ba121.trans (ba286.mono ba121.size)
        replace rb := rb.up ba286
        replace rk5 := rk5.up ba286
        replace rr5 := rr5.up ba286
        replace rw5 := rw5.up ba286
        replace q1 := q1.trans (ba286.mono q1.size)
        replace q3 := q3.trans (ba286.mono q3.size)
        replace q := q.trans (ba286.mono q.size)
        replace q5 := q5.trans (ba286.mono q5.size)
        refine LL.store rfl rfl rfl rfl ra289 (by exact Nat.le_of_ble_eq_true rfl) rfl rfl rfl rfl ?_
        intro Wa323 ra324 ba322 za325
        have hlba322 := ra289.lt
        replace ra324 : RowL Wa323 _ 3 [Value.int IntKind.i64 0] := ra324
        clear ra289
        replace ba286 := ba286.grown ba322 ba286.size (by rintro k ⟨⟩; omega)
        replace hj := hj.gr ba322 (by omega)
        replace ba121 := ba121.grown ba322 ba121.size (by rintro k ⟨⟩; omega)
        replace rb := rb.gr ba322 (by have := rb.lt; omega)
        replace rk5 := rk5.gr ba322 (by have := rk5.lt; omega)
        replace rr5 := rr5.gr ba322 (by have := rr5.lt; omega)
        replace rw5 := rw5.gr ba322 (by have := rw5.lt; omega)
        replace q1 := q1.grown ba322 q1.size (by rintro k ⟨⟩; omega)
        replace q3 := q3.grown ba322 q3.size (by rintro k ⟨⟩; omega)
        replace q := q.grown ba322 q.size (by rintro k ⟨⟩; omega)
        replace q5 := q5.grown ba322 q5.size (by rintro k ⟨⟩; omega)
        have ra289 := ra324
        clear ra324
        refine LL.nilS ?_
        refine CC.block ?_
        rotate_left
        refine CC.freeZ (fun W_ j => j < W_.heap.size ∧ (j ≠ ga123)) (by kernel_rfl) (by kernel_rfl) (fun Wa327 ba326 za328 => ?_)
        replace ra124 := ra124.up ba326
        replace ba121 := ba121.trans (ba326.mono ba121.size)
        replace rb := rb.up ba326
        replace r5E := r5E.up ba326
        replace rk5 := rk5.up ba326
        replace rr5 := rr5.up ba326
        replace rw5 := rw5.up ba326
        replace q1 := q1.trans (ba326.mono q1.size)
        replace q3 := q3.trans (ba326.mono q3.size)
        replace q := q.trans (ba326.mono q.size)
        replace q5 := q5.trans (ba326.mono q5.size)
        have hok : Kept (fun j => j < Wa327.heap.size ∧ (j ≠ ga123)) Wa327 Wa327 := Kept.refl _ _
        have fzrb := fzRow (K := fun j => j < Wa327.heap.size ∧ (j ≠ ga123)) rb ⟨rb.lt, (by first | trivial | omega)⟩
        have fzrk5 := fzRow (K := fun j => j < Wa327.heap.size ∧ (j ≠ ga123)) rk5 ⟨rk5.lt, (by first | trivial | omega)⟩
        have fzrr5 := fzRow (K := fun j => j < Wa327.heap.size ∧ (j ≠ ga123)) rr5 ⟨rr5.lt, (by first | trivial | omega)⟩
        have fzrw5 := fzRow (K := fun j => j < Wa327.heap.size ∧ (j ≠ ga123)) rw5 ⟨rw5.lt, (by first | trivial | omega)⟩
        refine AA.pure 0 rfl hok (by kernel_rfl) (fun w' b' => R.move rfl rfl) rfl rfl ?_
        refine AA.pure 3 rfl hok (by kernel_rfl) (fun w' b' => R.move rfl rfl) rfl rfl ?_
        refine AA.two 1 4 (by kernel_rfl) ?_ ?_
        (refine SR.val rfl (R.index rfl rfl rfl (hix _ _ _ _ rfl)) rfl rfl hok ?_)
        refine AA.two 2 4 (by kernel_rfl) ?_ ?_
        (refine SR.val rfl (R.load rfl rfl (I.ld1 rfl (c3F _ q))) rfl rfl hok ?_)
        refine AA.one 4 (by kernel_rfl) ?_
        (refine SR.val rfl (R.slice rfl rfl rfl rfl rfl (hsl _ _ _ _ rfl)) rfl rfl hok ?_)
        refine AA.one 5 (by kernel_rfl) ?_
        have la373 := ra124.lt
        have la374 := rb.lt
        have la375 := rk5.lt
        have la376 := rr5.lt
        have la377 := rw5.lt
        (refine SR.call rfl (R.call rfl rfl rfl) rfl rfl (hrd _ q) ?_; rintro e Wa372 ⟨v1, v2, rfl, o1, o2, hd, ba369⟩; refine ⟨_, rfl, ?_⟩; obtain ⟨a7, c7, rfl, hc7⟩ := (o1.reads prEnc).form rfl; obtain ⟨a8, c8, rfl, hc8⟩ := (o2.reads iEnc).form hK2; clear o1 hd)
        have zba369 := ba369.size
        replace ba326 := ba326.trans (ba369.mono ba326.size)
        replace ra124 := ra124.up ba369
        replace ba121 := ba121.trans (ba369.mono ba121.size)
        replace rb := rb.up ba369
        replace r5E := r5E.up ba369
        replace rk5 := rk5.up ba369
        replace rr5 := rr5.up ba369
        replace rw5 := rw5.up ba369
        replace q1 := q1.trans (ba369.mono q1.size)
        replace q3 := q3.trans (ba369.mono q3.size)
        replace q := q.trans (ba369.mono q.size)
        replace q5 := q5.trans (ba369.mono q5.size)
        replace hok := hok.trans (bkept ba369 (fun j h => by have := h.1; have := hok.size; omega))
        have ya381 := hok.size
        refine ⟨hok, ?_⟩
        refine AA.pure 6 rfl hok (by kernel_rfl) (fun w' b' => R.move rfl rfl) rfl rfl ?_
        refine AA.pure 7 rfl hok (by kernel_rfl) (fun w' b' => R.extract rfl rfl rfl) rfl rfl ?_
        refine AA.pure 8 rfl hok (by kernel_rfl) (fun w' b' => R.extract rfl rfl rfl) rfl rfl ?_
        refine AA.one 9 (by kernel_rfl) ?_
        (refine ZR.store rfl rfl rfl rfl rfl ra124 (by exact Nat.le_of_ble_eq_true rfl) rfl rfl rfl rfl ?_; intro Wa385 r9 gra383 zz9; have hj := rdR.of r9 ((o2.grown gra383 (own_ne o2 (by omega))).reads iEnc); clear r9 ra124 o2)
        have zgra383 := gra383.size
        replace ba121 := ba121.grown gra383 ba121.size (by rintro k ⟨⟩; omega)
        replace rb := rb.gr gra383 (by have := rb.lt; omega)
        replace rk5 := rk5.gr gra383 (by have := rk5.lt; omega)
        replace rr5 := rr5.gr gra383 (by have := rr5.lt; omega)
        replace rw5 := rw5.gr gra383 (by have := rw5.lt; omega)
        replace q1 := q1.grown gra383 q1.size (by rintro k ⟨⟩; omega)
        replace q3 := q3.grown gra383 q3.size (by rintro k ⟨⟩; omega)
        replace q := q.grown gra383 q.size (by rintro k ⟨⟩; omega)
        replace q5 := q5.grown gra383 q5.size (by rintro k ⟨⟩; omega)
        replace hok := hok.trans (grown_kept gra383 (fun j h => by have := h.1; have := hok.size; omega) (fun j h e => by cases e; have h2 := h.1; have h3 := h.2; omega))
        refine ⟨hok, ?_⟩
        refine AA.done rfl ?_
        clear fzrb fzrk5 fzrr5 fzrw5 hok
        exact EE.weak (Ja252 _ _ ⟨rfl, (by first | assumption | omega), (by first | assumption | omega), (by first | assumption | omega), (by first | assumption | omega), (by first | assumption | omega), (by first | assumption | omega), (by first | assumption | omega), (by first | assumption | omega), (by first | assumption | omega), (by first | assumption | omega), (by first | assumption | omega)⟩) ⟨rfl, rfl, rfl, rfl, rfl, rfl, rfl, rfl, rfl, rfl, rfl, rfl, rfl, rfl, rfl, rfl, rfl, rfl, rfl, rfl, rfl, rfl, rfl, rfl, rfl, rfl, rfl, rfl, rfl, rfl, rfl, rfl, rfl, rfl, rfl, rfl, rfl, rfl, rfl, rfl, rfl, rfl, rfl, rfl, rfl, rfl, rfl, rfl, rfl, rfl, trivial⟩
        (refine SR.val rfl (R.slice rfl rfl rfl rfl rfl (hsl _ _ _ _ rfl)) rfl rfl hok ?_)
        refine AA.one 2 (by kernel_rfl) ?_
        (refine SR.val rfl (R.load rfl rfl (I.ld1 rfl (c3F _ q))) rfl rfl hok ?_)
        refine AA.one 5 (by kernel_rfl) ?_
        have la426 := ra124.lt
        have la427 := rb.lt
        have la428 := rk5.lt
        have la429 := rr5.lt
        have la430 := rw5.lt
        (refine SR.call rfl (R.call rfl rfl rfl) rfl rfl (hrd _ q) ?_; rintro e Wa425 ⟨v1, v2, rfl, o1, o2, hd, ba422⟩; refine ⟨_, rfl, ?_⟩; obtain ⟨a7, c7, rfl, hc7⟩ := (o1.reads prEnc).form rfl; obtain ⟨a8, c8, rfl, hc8⟩ := (o2.reads iEnc).form hK2; clear o1 hd)
        have zba422 := ba422.size
        replace ba326 := ba326.trans (ba422.mono ba326.size)
        replace ra124 := ra124.up ba422
        replace ba121 := ba121.trans (ba422.mono ba121.size)
        replace rb := rb.up ba422
        replace r5E := r5E.up ba422
        replace rk5 := rk5.up ba422
        replace rr5 := rr5.up ba422
        replace rw5 := rw5.up ba422
        replace q1 := q1.trans (ba422.mono q1.size)
        replace q3 := q3.trans (ba422.mono q3.size)
        replace q := q.trans (ba422.mono q.size)
        replace q5 := q5.trans (ba422.mono q5.size)
        replace hok := hok.trans (bkept ba422 (fun j h => by have := h.1; have := hok.size; omega))
        have ya434 := hok.size
        refine ⟨hok, ?_⟩
        refine AA.pure 6 rfl hok (by kernel_rfl) (fun w' b' => R.move rfl rfl) rfl rfl ?_
        refine AA.pure 7 rfl hok (by kernel_rfl) (fun w' b' => R.extract rfl rfl rfl) rfl rfl ?_
        refine AA.pure 8 rfl hok (by kernel_rfl) (fun w' b' => R.extract rfl rfl rfl) rfl rfl ?_
        refine AA.one 9 (by kernel_rfl) ?_
        (refine ZR.store rfl rfl rfl rfl rfl ra124 (by exact Nat.le_of_ble_eq_true rfl) rfl rfl rfl rfl ?_; intro Wa438 r9 gra436 zz9; have hj := rdR.of r9 ((o2.grown gra436 (own_ne o2 (by omega))).reads iEnc); clear r9 ra124 o2)
        have zgra436 := gra436.size
        replace ba121 := ba121.grown gra436 ba121.size (by rintro k ⟨⟩; omega)
        replace rb := rb.gr gra436 (by have := rb.lt; omega)
        replace rk5 := rk5.gr gra436 (by have := rk5.lt; omega)
        replace rr5 := rr5.gr gra436 (by have := rr5.lt; omega)
        replace rw5 := rw5.gr gra436 (by have := rw5.lt; omega)
        replace q1 := q1.grown gra436 q1.size (by rintro k ⟨⟩; omega)
        replace q3 := q3.grown gra436 q3.size (by rintro k ⟨⟩; omega)
        replace q := q.grown gra436 q.size (by rintro k ⟨⟩; omega)
        replace q5 := q5.grown gra436 q5.size (by rintro k ⟨⟩; omega)
        replace hok := hok.trans (grown_kept gra436 (fun j h => by have := h.1; have := hok.size; omega) (fun j h e => by cases e; have h2 := h.1; have h3 := h.2; omega))
        refine ⟨hok, ?_⟩
        refine AA.done rfl ?_
        clear fzrb fzrk5 fzrr5 fzrw5 hok
        exact EE.weak (Ja252 _ _ ⟨rfl, (by first | assumption | omega), (by first | assumption | omega), (by first | assumption | omega), (by first | assumption | omega), (by first | assumption | omega), (by first | assumption | omega), (by first | assumption | omega), (by first | assumption | omega), (by first | assumption | omega), (by first | assumption | omega), (by first | assumption | omega)⟩) ⟨rfl, rfl, rfl, rfl, rfl, rfl, rfl, rfl, rfl, rfl, rfl, rfl, rfl, rfl, rfl, rfl, rfl, rfl, rfl, rfl, rfl, rfl, rfl, rfl, rfl, rfl, rfl, rfl, rfl, rfl, rfl, rfl, rfl, rfl, rfl, rfl, rfl, rfl, rfl, rfl, rfl, rfl, rfl, rfl, rfl, rfl, rfl, rfl, rfl, rfl, trivial⟩
        (refine SR.val rfl (R.slice rfl rfl rfl rfl rfl (hsl _ _ _ _ rfl)) rfl rfl hok ?_)
        refine AA.one 1 (by kernel_rfl) ?_
        (refine SR.val rfl (R.index rfl rfl rfl (hix _ _ _ _ rfl)) rfl rfl hok ?_)
        refine AA.one 2 (by kernel_rfl) ?_
        (refine SR.val rfl (R.load rfl rfl (I.ld1 rfl (c3F _ q))) rfl rfl hok ?_)
        refine AA.one 5 (by kernel_rfl) ?_
        have la486 := ra124.lt
        have la487 := rb.lt
        have la488 := rk5.lt
        have la489 := rr5.lt
        have la490 := rw5.lt
        (refine SR.call rfl (R.call rfl rfl rfl) rfl rfl (hrd _ q) ?_; rintro e Wa485 ⟨v1, v2, rfl, o1, o2, hd, ba482⟩; refine ⟨_, rfl, ?_⟩; obtain ⟨a7, c7, rfl, hc7⟩ := (o1.reads prEnc).form rfl; obtain ⟨a8, c8, rfl, hc8⟩ := (o2.reads iEnc).form hK2; clear o1 hd)
        have zba482 := ba482.size
        replace ba326 := ba326.trans (ba482.mono ba326.size)
        replace ra124 := ra124.up ba482
        replace ba121 := ba121.trans (ba482.mono ba121.size)
        replace rb := rb.up ba482
        replace r5E := r5E.up ba482
        replace rk5 := rk5.up ba482
        replace rr5 := rr5.up ba482
        replace rw5 := rw5.up ba482
        replace q1 := q1.trans (ba482.mono q1.size)
        replace q3 := q3.trans (ba482.mono q3.size)
        replace q := q.trans (ba482.mono q.size)
        replace q5 := q5.trans (ba482.mono q5.size)
        replace hok := hok.trans (bkept ba482 (fun j h => by have := h.1; have := hok.size; omega))
        have ya494 := hok.size
        refine ⟨hok, ?_⟩
        refine AA.pure 6 rfl hok (by kernel_rfl) (fun w' b' => R.move rfl rfl) rfl rfl ?_
        refine AA.pure 7 rfl hok (by kernel_rfl) (fun w' b' => R.extract rfl rfl rfl) rfl rfl ?_
        refine AA.pure 8 rfl hok (by kernel_rfl) (fun w' b' => R.extract rfl rfl rfl) rfl rfl ?_
        refine AA.one 9 (by kernel_rfl) ?_
        (refine ZR.store rfl rfl rfl rfl rfl ra124 (by exact Nat.le_of_ble_eq_true rfl) rfl rfl rfl rfl ?_; intro Wa498 r9 gra496 zz9; have hj := rdR.of r9 ((o2.grown gra496 (own_ne o2 (by omega))).reads iEnc); clear r9 ra124 o2)
        have zgra496 := gra496.size
        replace ba121 := ba121.grown gra496 ba121.size (by rintro k ⟨⟩; omega)
        replace rb := rb.gr gra496 (by have := rb.lt; omega)
        replace rk5 := rk5.gr gra496 (by have := rk5.lt; omega)
        replace rr5 := rr5.gr gra496 (by have := rr5.lt; omega)
        replace rw5 := rw5.gr gra496 (by have := rw5.lt; omega)
        replace q1 := q1.grown gra496 q1.size (by rintro k ⟨⟩; omega)
        replace q3 := q3.grown gra496 q3.size (by rintro k ⟨⟩; omega)
        replace q := q.grown gra496 q.size (by rintro k ⟨⟩; omega)
        replace q5 := q5.grown gra496 q5.size (by rintro k ⟨⟩; omega)
        replace hok := hok.trans (grown_kept gra496 (fun j h => by have := h.1; have := hok.size; omega) (fun j h e => by cases e; have h2 := h.1; have h3 := h.2; omega))
        refine ⟨hok, ?_⟩
        refine AA.done rfl ?_
        clear fzrb fzrk5 fzrr5 fzrw5 hok
        exact EE.weak (Ja252 _ _ ⟨rfl, (by first | assumption | omega), (by first | assumption | omega), (by first | assumption | omega), (by first | assumption | omega), (by first | assumption | omega), (by first | assumption | omega), (by first | assumption | omega), (by first | assumption | omega), (by first | assumption | omega), (by first | assumption | omega), (by first | assumption | omega)⟩) ⟨rfl, rfl, rfl, rfl, rfl, rfl, rfl, rfl, rfl, rfl, rfl, rfl, rfl, rfl, rfl, rfl, rfl, rfl, rfl, rfl, rfl, rfl, rfl, rfl, rfl, rfl, rfl, rfl, rfl, rfl, rfl, rfl, rfl, rfl, rfl, rfl, rfl, rfl, rfl, rfl, rfl, rfl, rfl, rfl, rfl, rfl, rfl, rfl, rfl, rfl, trivial⟩
      refine CC.keep [(0, .slice a n c), (3, .pointer (some ⟨g45, 0, none⟩)), (4, .pointer (some ⟨g99, 0, none⟩)), (5, .slice (some ⟨gL, 0, none⟩) n cL), (8, .pointer (some ⟨g1135, 0, none⟩)), (10, .func (.func 75) #[] [Value.pointer (some ⟨bk, 0, none⟩)].toArray), (11, .pointer (some ⟨ga123, 0, none⟩)), (12, .pointer (some ⟨ga288, 0, none⟩))] ⟨rfl, rfl, rfl, rfl, rfl, rfl, rfl, rfl, trivial⟩ ?_
      exact lat.out _ _ _ ⟨q5, (by have h9 := hj; rw [← ega288] at h9; exact h9), ra289, by omega, by omega⟩
    case neg =>
      have he' : (er : Int) ≠ 0 := by omega
      refine LL.val (R.assign rfl rfl) rfl rfl rfl ?_
      refine LL.nilS ?_
      refine CC.seq ?_
      refine CC.seq ?_
      refine CC.region ?_
      refine LL.val (R.move rfl rfl) rfl rfl rfl ?_
      refine LL.val (R.eqFn rfl rfl rfl rfl) rfl rfl rfl ?_
      refine LL.nilS ?_
      refine CC.no rfl ?_
      refine CC.skip ?_
      refine EE.thenN ?_
      refine CC.seq ?_
      refine CC.region ?_
      have lb1 := rb.lt
      have lb2 := rk5.lt
      have lb3 := rr5.lt
      have lb4 := rw5.lt
      refine LL.alloc ([Value.slice none 0 0]) rfl rfl rfl rfl rfl ?_
      intro Wb6 gb7 egb7 rb8 zb9 bb5
      replace rb := rb.up bb5
      replace r5E := r5E.up bb5
      replace rk5 := rk5.up bb5
      replace rr5 := rr5.up bb5
      replace rw5 := rw5.up bb5
      replace q1 := q1.trans (bb5.mono q1.size)
      replace q3 := q3.trans (bb5.mono q3.size)
      replace q := q.trans (bb5.mono q.size)
      replace q5 := q5.trans (bb5.mono q5.size)
      refine LL.nilS ?_
      refine CC.seq ?_
      refine CC.seq ?_
      refine CC.region ?_
      refine LL.val (R.move rfl rfl) rfl rfl rfl ?_
      refine LL.val (R.eqF rfl rfl rfl (by omega)) rfl rfl rfl ?_
      refine LL.nilS ?_
      refine CC.no rfl ?_
      refine CC.skip ?_
      refine EE.thenN ?_
      refine CC.seq ?_
      refine CC.seq ?_
      refine CC.region ?_
      have lb10 := rb8.lt
      have lb11 := rb.lt
      have lb12 := rk5.lt
      have lb13 := rr5.lt
      have lb14 := rw5.lt
      refine LL.alloc ([Value.int IntKind.i64 0]) rfl rfl rfl rfl rfl ?_
      intro Wb16 gb17 egb17 rb18 zb19 bb15
      replace rb8 := rb8.up bb15
      replace bb5 := bb5.trans (bb15.mono bb5.size)
      replace rb := rb.up bb15
      replace r5E := r5E.up bb15
      replace rk5 := rk5.up bb15
      replace rr5 := rr5.up bb15
      replace rw5 := rw5.up bb15
      replace q1 := q1.trans (bb15.mono q1.size)
      replace q3 := q3.trans (bb15.mono q3.size)
      replace q := q.trans (bb15.mono q.size)
      replace q5 := q5.trans (bb15.mono q5.size)
      refine LL.store rfl rfl rfl rfl rb18 (by exact Nat.le_of_ble_eq_true rfl) rfl rfl rfl rfl ?_
      intro Wb21 rb22 bb20 zb23
      have hlbb20 := rb18.lt
      replace rb22 : RowL Wb21 _ 3 [Value.int IntKind.i64 0] := rb22
      clear rb18
      replace bb15 := bb15.grown bb20 bb15.size (by rintro k ⟨⟩; omega)
      replace rb8 := rb8.gr bb20 (by have := rb8.lt; omega)
      replace bb5 := bb5.grown bb20 bb5.size (by rintro k ⟨⟩; omega)
      replace rb := rb.gr bb20 (by have := rb.lt; omega)
      replace rk5 := rk5.gr bb20 (by have := rk5.lt; omega)
      replace rr5 := rr5.gr bb20 (by have := rr5.lt; omega)
      replace rw5 := rw5.gr bb20 (by have := rw5.lt; omega)
      replace q1 := q1.grown bb20 q1.size (by rintro k ⟨⟩; omega)
      replace q3 := q3.grown bb20 q3.size (by rintro k ⟨⟩; omega)
      replace q := q.grown bb20 q.size (by rintro k ⟨⟩; omega)
      replace q5 := q5.grown bb20 q5.size (by rintro k ⟨⟩; omega)
      have rb18 := rb22
      clear rb22
      refine LL.nilS ?_
      refine CC.block ?_
      refine CC.keep [(0, .slice a n c), (3, .pointer (some ⟨g45, 0, none⟩)), (4, .pointer (some ⟨g99, 0, none⟩)), (5, .slice (some ⟨gL, 0, none⟩) n cL), (8, .pointer (some ⟨g1135, 0, none⟩)), (10, .func (.func 75) #[] [Value.pointer (some ⟨bk, 0, none⟩)].toArray), (11, .pointer (some ⟨gb7, 0, none⟩)), (12, .pointer (some ⟨gb17, 0, none⟩))] ⟨rfl, rfl, rfl, rfl, rfl, rfl, rfl, rfl, trivial⟩ ?_
      exact lat.out _ _ _ ⟨q5, ⟨_, W5, rb8, fun Y _ => by rw [hRn he]; exact ReadsT.nil _, q5, by omega, by omega⟩, rb18, by omega, by omega⟩
  case k =>
    rintro ga gt W0 ⟨b0, ⟨v2, X2, ra1, h2F, q2, hX2, hga2⟩, rt1, hga, hgt⟩
    obtain ⟨gk, ek⟩ : ∃ g, g = g45 := ⟨_, rfl⟩
    obtain ⟨gr, egr⟩ : ∃ g, g = g99 := ⟨_, rfl⟩
    obtain ⟨gw, ew⟩ : ∃ g, g = g1135 := ⟨_, rfl⟩
    subst ek egr ew
    have rk1 := rk5.up b0
    have rr1 := rr5.up b0
    have rw1 := rw5.up b0
    have q1 := q1.trans (b0.mono q1.size)
    have q3 := q3.trans (b0.mono q3.size)
    have q := q.trans (b0.mono q.size)
    have z0 := b0.size
    have hord : w.heap.size ≤ gk ∧ gk < gr ∧ gr < gw ∧ gw < gt ∧ ga < gt ∧ bk < gt ∧ bkl < gt ∧ X1.heap.size ≤ gt ∧ X2.heap.size ≤ gt ∧ X3.heap.size ≤ gt := by omega
    have hG := (each1_gives bk bkl a5 E.length c5 left E W0 (rb.up b0) (r5E.up b0) rfl hE20 hbl).z
    rw [hEL] at hG
    obtain ⟨av2, cv2, rfl, _⟩ := (h2F _ q2).form hK2
    have hV : LvN W0 w X1 X2 X3 l s lo le wy gk gr gw ga gt many (.slice av1 K cv1) (.slice av2 K cv2) 0 := ⟨rk1, rr1, rw1, ra1, rt1, q1, q2, q3, q⟩
    have qB := Below.refl W0.heap.size W0
    have jsz := q.size
    have jt := rt1.lt
    clear rk1 rr1 rw1 ra1 q q1 q2 q3 rb r5E rk5 rr5 rw5 b0 hRd hRn
    refine CC.keep [(0, .slice a n c), (3, .pointer (some ⟨gk, 0, none⟩)), (4, .pointer (some ⟨gr, 0, none⟩)), (5, .slice (some ⟨gL, 0, none⟩) n cL), (8, .pointer (some ⟨gw, 0, none⟩)), (10, .func (.func 75) #[] [Value.pointer (some ⟨bk, 0, none⟩)].toArray), (11, .pointer (some ⟨ga, 0, none⟩)), (12, .pointer (some ⟨gt, 0, none⟩))] ⟨rfl, rfl, rfl, rfl, rfl, rfl, rfl, rfl, trivial⟩ ?_
    refine CC.loopN 3 ?_
    refine RN.step ?_
    refine CC.seq ?_
    refine CC.seq ?_
    refine CC.region ?_
    refine LL.val (R.load rfl rfl (I.ld1 rfl (RowL.cell rt1 rfl))) rfl rfl rfl ?_
    refine LL.val (R.ltT rfl rfl rfl (by omega)) rfl rfl rfl ?_
    refine LL.nilS ?_
    refine CC.yes rfl ?_
    refine CC.skip ?_
    refine EE.thenN ?_
    refine CC.seq ?_
    refine CC.block ?_
    refine CC.seq ?_
    refine CC.region ?_
    have lc1 := rt1.lt
    refine LL.alloc ([Value.int IntKind.i64 0]) rfl rfl rfl rfl rfl ?_
    intro Wc3 gc4 egc4 rc5 zc6 bc2
    replace rt1 := rt1.up bc2
    replace qB := qB.trans (bc2.mono qB.size)
    refine LL.store rfl rfl rfl rfl rc5 (by exact Nat.le_of_ble_eq_true rfl) rfl rfl rfl rfl ?_
    intro Wc8 rc9 bc7 zc10
    have hlbc7 := rc5.lt
    replace rc9 : RowL Wc8 _ 3 [Value.int IntKind.i64 0] := rc9
    clear rc5
    replace bc2 := bc2.grown bc7 bc2.size (by rintro k ⟨⟩; omega)
    replace rt1 := rt1.gr bc7 (by have := rt1.lt; omega)
    replace qB := qB.grown bc7 qB.size (by rintro k ⟨⟩; omega)
    have rc5 := rc9
    clear rc9
    refine LL.nilS ?_
    refine CC.seq ?_
    refine CC.seq ?_
    refine CC.region ?_
    refine LL.val (R.move rfl rfl) rfl rfl rfl ?_
    refine LL.nilS ?_
    refine CC.block ?_
    have yB := qB.size
    have kn := rc5.lt
    clear rt1
    refine CC.rangeZ (γ := Nat) (gf := 75) (lb := [Value.pointer (some ⟨bk, 0, none⟩)]) (encs := spE) rfl rfl hG qB (fun k hk => by (try simp only at hk); omega) (fun _ => rfl) rfl
      (fun m (pre : List (Nat × Pr)) W' => Below W0.heap.size W0 W' ∧ Wc8.heap.size ≤ W'.heap.size ∧ RowL W' gc4 3 [.int .i64 (pre.length : Int)] ∧ (pre.length = 0 ∨ (pre.length : Int) < many))
      (fun m (pre : List (Nat × Pr)) W' => Below W0.heap.size W0 W' ∧ RowL W' gc4 3 [.int .i64 (pre.length : Int)] ∧ (many ≤ pre.length ∧ (pre.length = 1 ∨ (pre.length : Int) - 1 < many) ∧ 1 ≤ pre.length ∧ pre.length ≤ K))
      (fun W' => Below W0.heap.size W0 W' ∧ ∃ p : Nat, RowL W' gc4 3 [.int .i64 (p : Int)] ∧ ((p : Int) = (if (K : Int) < (if 1 < many then many else 1) then (K : Int) else (if 1 < many then many else 1))))
      (fun m m' s X Y hs ht hg => ⟨hs.1.trans (ht.below yB hs.1.size), by have := ht.size; omega, ht.row hs.2.2.1 (.inl kn), hs.2.2.2⟩)
      (fun m m' s X Y hs ht hg => ⟨hs.1.trans (ht.below yB hs.1.size), ht.row hs.2.1 (.inl kn), hs.2.2⟩)
      ⟨qB, Nat.le_refl _, rc5, .inl rfl⟩ ?hIA ?hIxA
      (fun x g => sl [(0, .slice a n c), (3, .pointer (some ⟨gk, 0, none⟩)), (4, .pointer (some ⟨gr, 0, none⟩)), (5, .slice (some ⟨gL, 0, none⟩) n cL), (8, .pointer (some ⟨gw, 0, none⟩)), (10, .func (.func 75) #[] [Value.pointer (some ⟨bk, 0, none⟩)].toArray), (11, .pointer (some ⟨ga, 0, none⟩)), (12, .pointer (some ⟨gt, 0, none⟩)), (13, .pointer (some ⟨gc4, 0, none⟩)), (14, .int .i64 (x.1 : Int)), (15, .pointer (some ⟨g, 0, none⟩))]) (fun x g W' => RowL W' g 46 (prE x.2) ∧ Wc8.heap.size ≤ g) (fun x g => fun _ W W' row h hg hr => ⟨RowL.own () W W' row h.1 hg hr, h.2⟩) ?assign ?body ?after
    case hIA =>
      rintro m xs W' rfl ⟨h1, hz, h2, h3⟩
      exact ⟨h1, _, h2, by rw [hK] at h3 ⊢; rcases h3 with h3 | h3 <;> split <;> (try split) <;> omega⟩
    case hIxA =>
      rintro m pre W' hp ⟨h1, h2, h3⟩
      exact ⟨h1, pre.length, h2, by split <;> (try split) <;> omega⟩
    case assign =>
      rintro l' m pre x W Kc hm ⟨h1, hz, h2, h3⟩ hKc
      have qa := Below.refl W.heap.size W
      have hup : ∀ X, Below W.heap.size W X → Below W0.heap.size W0 X ∧ Wc8.heap.size ≤ X.heap.size ∧ RowL X gc4 3 [.int .i64 (pre.length : Int)] ∧ ((pre.length = 0 ∨ (pre.length : Int) < many)) := fun X b => ⟨h1.trans (b.mono h1.size), by have := b.size; omega, h2.up b, h3⟩
      clear h1 h2 h3
      refine CC.seq ?_
      refine CC.region ?_
      refine LL.val (R.assign rfl rfl) rfl rfl rfl ?_
      refine LL.nilS ?_
      refine CC.region ?_
      refine LL.alloc ([Value.int IntKind.u64 0, Value.int IntKind.u64 0]) rfl rfl rfl rfl rfl ?_
      intro Wd2 gd3 egd3 rd4 zd5 bd1
      replace qa := qa.trans (bd1.mono qa.size)
      refine LL.storeN (vs := [Value.int IntKind.u64 ↑x.2.1, Value.int IntKind.u64 ↑x.2.2]) rfl rfl rfl rfl rd4 (by exact Nat.le_of_ble_eq_true rfl) (ones_of rfl) rfl rfl ?_
      intro Wd7 rd8 bd6 zd9
      have hlbd6 := rd4.lt
      replace rd8 : RowL Wd7 _ 46 [Value.int IntKind.u64 ↑x.2.1, Value.int IntKind.u64 ↑x.2.2] := rd8
      clear rd4
      replace bd1 := bd1.grown bd6 bd1.size (by rintro k ⟨⟩; omega)
      replace qa := qa.grown bd6 qa.size (by rintro k ⟨⟩; omega)
      have rd4 := rd8
      clear rd8
      refine LL.nil ?_
      exact EE.thenK fun a' F => hKc a' _ _ (StaysZ.of_below qa) (Keeps.of_below (fun k hk => by (try simp only at hk); omega) qa) (hup _ qa) (F.keep _ ⟨rfl, rfl, rfl, rfl, rfl, rfl, rfl, rfl, rfl, rfl, rfl, trivial⟩) ⟨by assumption, by omega⟩
    case body =>
      rintro l' m pre ⟨jx, kx, px⟩ g W hm hl' hrl ⟨h1, hz, hn', h3⟩ ⟨hx, hgB⟩ ⟨xs, hxs, tt, hp⟩
      rw [hxs] at hp
      have hget : L[pre.length]? = some (jx, kx, px) := by rw [← hp]; simp
      have hpk : pre.length < K := by rw [← hK]; exact (List.getElem?_eq_some_iff.1 hget).1
      have hxd : (pre ++ [(jx, kx, px)]).length = pre.length + 1 := by simp
      have ySz := h1.size
      obtain ⟨rk, rr, rw1, ra1, rt, q1, q2, q3, bel⟩ := hV.lift h1
      have hg1 : (L.map (·.2))[pre.length]? = some (kx, px) := by rw [List.getElem?_map, hget]; rfl
      have hg2 : (L.map (·.1))[pre.length]? = some jx := by rw [List.getElem?_map, hget]; rfl
      obtain ⟨b1, o1, rfl, _, _⟩ := (h1F _ q1).get prEnc hg1
      obtain ⟨b2, o2, rfl, _, hc2⟩ := (h2F _ q2).one iEnc hg2
      have c2 := hc2 _ rfl
      have m1 : CellsN W ⟨b1, o1 + pre.length * 2, none⟩ 2 [.int .u64 (kx : Int), .int .u64 (px : Int)] := (h1F W q1).elemN prEnc hg1
      have hx : RowL W g 46 [.int .u64 (kx : Int), .int .u64 (px : Int)] := hx
      have lx := hx.lt
      have st := StaysZ.refl Wc8.heap.size m W
      have kp := Keeps.refl (fun k => k = bk ∨ k = bkl) W
      have hbW : bk < W.heap.size ∧ bkl < W.heap.size := by omega
      have hbn : bk ≠ gc4 ∧ bkl ≠ gc4 := by omega
      clear hc2 bel hl' hrl hp hm hget hxs q1 q2 q3 rr
      by_cases hmany : many ≤ (pre.length : Int) + 1
      · refine CC.block ?_
        refine CC.seq ?_
        refine CC.seq ?_
        refine CC.quietB (by kernel_rfl) (by kernel_rfl) (fun We2 be1 ze3 => ?_)
        replace h1 := h1.trans (be1.mono h1.size)
        replace hn' := hn'.up be1
        replace hx := hx.up be1
        replace rk := rk.up be1
        replace rt := rt.up be1
        replace rw1 := rw1.up be1
        replace ra1 := ra1.up be1
        replace c2 := cell_up c2 be1
        replace m1 := m1.up be1
        replace st := st.trans (StaysZ.of_below be1)
        replace kp := kp.trans (Keeps.of_below (fun k hk => by (try simp only at hk); omega) be1)
        refine SS.val (R.load rfl rfl (I.ld1 rfl (RowL.cell hn' rfl))) rfl rfl ?_
        refine SS.val (R.field rfl rfl (I.fld rfl)) rfl rfl ?_
        refine SS.val (R.load rfl rfl (I.ld1 rfl (RowL.cell rw1 rfl))) rfl rfl ?_
        refine SS.val (R.len rfl rfl rfl rfl) rfl rfl ?_
        refine SS.val (R.geF rfl rfl rfl (by omega)) rfl rfl ?_
        refine SS.val (R.move rfl rfl) rfl rfl ?_
        refine SS.val (R.move rfl rfl) rfl rfl ?_
        refine SS.val (R.load rfl rfl (I.ld1 rfl (RowL.cell ra1 rfl))) rfl rfl ?_
        refine SS.val (R.load rfl rfl (I.ld1 rfl (RowL.cell hn' rfl))) rfl rfl ?_
        refine SS.val (R.index rfl rfl rfl (I.ixS1 rfl (by omega))) rfl rfl ?_
        refine SS.val (R.load rfl rfl (I.ld1 rfl (by assumption))) rfl rfl ?_
        refine SS.val (R.neF rfl rfl rfl (by omega)) rfl rfl ?_
        refine SS.val (R.pick rfl rfl rfl) rfl rfl ?_
        refine SS.val (R.move rfl rfl) rfl rfl ?_
        refine SS.val (R.load rfl rfl (I.ldNc (vs := [Value.int IntKind.u64 ↑kx, Value.int IntKind.u64 ↑px]) (RowL.cells hx rfl) (by rfl) (by rfl))) rfl rfl ?_
        refine SS.val (R.field rfl rfl (I.fld rfl)) rfl rfl ?_
        refine SS.val (R.load rfl rfl (I.ld1 rfl (RowL.cell rw1 rfl))) rfl rfl ?_
        refine SS.val (R.load rfl rfl (I.ld1 rfl (RowL.cell hn' rfl))) rfl rfl ?_
        refine SS.val (R.index rfl rfl rfl (I.ixS rfl (by omega))) rfl rfl ?_
        refine SS.val (R.load rfl rfl (I.ldM (by assumption) rfl rfl)) rfl rfl ?_
        refine SS.val (R.neST (p := (↑kx : Int) = ↑kx ∧ (↑px : Int) = ↑px) (bs := [decide ((↑kx : Int) = ↑kx), decide ((↑px : Int) = ↑px)]) rfl rfl rfl rfl (by kernel_rfl) (by kernel_rfl) (by simp) (by first | assumption | omega | exact ⟨rfl, rfl⟩ | exact fun h => h ⟨rfl, rfl⟩)) rfl rfl ?_
        refine SS.val (R.pick rfl rfl rfl) rfl rfl ?_
        refine SS.nilQ ?_
        refine EE.thenN ?_
        refine CC.no rfl ?_
        refine CC.skip ?_
        refine EE.thenN ?_
        refine CC.seq ?_
        refine CC.region ?_
        refine LL.val (R.load rfl rfl (I.ld1 rfl (RowL.cell hn' rfl))) rfl rfl rfl ?_
        refine LL.val (R.addNc rfl rfl rfl rfl (by omega)) rfl rfl rfl ?_
        refine LL.store rfl rfl rfl rfl hn' (by exact Nat.le_of_ble_eq_true rfl) rfl rfl rfl rfl ?_
        intro We5 re6 be4 ze7
        have hlbe4 := hn'.lt
        replace re6 : RowL We5 _ 3 [Value.int IntKind.i64 ↑(pre.length + 1)] := re6
        clear hn'
        replace h1 := h1.grown be4 h1.size (by rintro k ⟨⟩; omega)
        replace hx := hx.gr be4 (by have := hx.lt; omega)
        replace rk := rk.gr be4 (by have := rk.lt; omega)
        replace rt := rt.gr be4 (by have := rt.lt; omega)
        replace rw1 := rw1.gr be4 (by have := rw1.lt; omega)
        replace ra1 := ra1.gr be4 (by have := ra1.lt; omega)
        replace st := st.trans (StaysZ.of_grown be4 (by omega))
        replace kp := kp.trans (Keeps.of_grown be4 fun k hk => by (try simp only at hk); omega)
        have hn' := re6
        clear re6
        refine LL.nilS ?_
        refine CC.seq ?_
        refine CC.region ?_
        refine LL.val (R.load rfl rfl (I.ld1 rfl (RowL.cell rt rfl))) rfl rfl rfl ?_
        refine LL.val (R.eqT rfl rfl rfl (by omega)) rfl rfl rfl ?_
        refine LL.val (R.move rfl rfl) rfl rfl rfl ?_
        refine LL.val (R.load rfl rfl (I.ld1 rfl (RowL.cell hn' rfl))) rfl rfl rfl ?_
        refine LL.val (R.load rfl rfl (I.ld1 rfl (RowL.cell rk rfl))) rfl rfl rfl ?_
        refine LL.val (R.geT rfl rfl rfl (by omega)) rfl rfl rfl ?_
        refine LL.val (R.pick rfl rfl rfl) rfl rfl rfl ?_
        refine LL.nilS ?_
        refine CC.yes rfl ?_
        refine CC.exit ?_
        refine EE.inX' rfl ?_
        exact EE.roundXZ ⟨st, rfl, h1, by rw [hxd]; exact hn', by rw [hxd]; omega, by rw [hxd]; omega, by rw [hxd]; omega, by rw [hxd]; omega⟩
      · refine CC.block ?_
        refine CC.seq ?_
        refine CC.seq ?_
        refine CC.quietB (by kernel_rfl) (by kernel_rfl) (fun Wf2 bf1 zf3 => ?_)
        replace h1 := h1.trans (bf1.mono h1.size)
        replace hn' := hn'.up bf1
        replace hx := hx.up bf1
        replace rk := rk.up bf1
        replace rt := rt.up bf1
        replace rw1 := rw1.up bf1
        replace ra1 := ra1.up bf1
        replace c2 := cell_up c2 bf1
        replace m1 := m1.up bf1
        replace st := st.trans (StaysZ.of_below bf1)
        replace kp := kp.trans (Keeps.of_below (fun k hk => by (try simp only at hk); omega) bf1)
        refine SS.val (R.load rfl rfl (I.ld1 rfl (RowL.cell hn' rfl))) rfl rfl ?_
        refine SS.val (R.field rfl rfl (I.fld rfl)) rfl rfl ?_
        refine SS.val (R.load rfl rfl (I.ld1 rfl (RowL.cell rw1 rfl))) rfl rfl ?_
        refine SS.val (R.len rfl rfl rfl rfl) rfl rfl ?_
        refine SS.val (R.geF rfl rfl rfl (by omega)) rfl rfl ?_
        refine SS.val (R.move rfl rfl) rfl rfl ?_
        refine SS.val (R.move rfl rfl) rfl rfl ?_
        refine SS.val (R.load rfl rfl (I.ld1 rfl (RowL.cell ra1 rfl))) rfl rfl ?_
        refine SS.val (R.load rfl rfl (I.ld1 rfl (RowL.cell hn' rfl))) rfl rfl ?_
        refine SS.val (R.index rfl rfl rfl (I.ixS1 rfl (by omega))) rfl rfl ?_
        refine SS.val (R.load rfl rfl (I.ld1 rfl (by assumption))) rfl rfl ?_
        refine SS.val (R.neF rfl rfl rfl (by omega)) rfl rfl ?_
        refine SS.val (R.pick rfl rfl rfl) rfl rfl ?_
        refine SS.val (R.move rfl rfl) rfl rfl ?_
        refine SS.val (R.load rfl rfl (I.ldNc (vs := [Value.int IntKind.u64 ↑kx, Value.int IntKind.u64 ↑px]) (RowL.cells hx rfl) (by rfl) (by rfl))) rfl rfl ?_
        refine SS.val (R.field rfl rfl (I.fld rfl)) rfl rfl ?_
        refine SS.val (R.load rfl rfl (I.ld1 rfl (RowL.cell rw1 rfl))) rfl rfl ?_
        refine SS.val (R.load rfl rfl (I.ld1 rfl (RowL.cell hn' rfl))) rfl rfl ?_
        refine SS.val (R.index rfl rfl rfl (I.ixS rfl (by omega))) rfl rfl ?_
        refine SS.val (R.load rfl rfl (I.ldM (by assumption) rfl rfl)) rfl rfl ?_
        refine SS.val (R.neST (p := (↑kx : Int) = ↑kx ∧ (↑px : Int) = ↑px) (bs := [decide ((↑kx : Int) = ↑kx), decide ((↑px : Int) = ↑px)]) rfl rfl rfl rfl (by kernel_rfl) (by kernel_rfl) (by simp) (by first | assumption | omega | exact ⟨rfl, rfl⟩ | exact fun h => h ⟨rfl, rfl⟩)) rfl rfl ?_
        refine SS.val (R.pick rfl rfl rfl) rfl rfl ?_
        refine SS.nilQ ?_
        refine EE.thenN ?_
        refine CC.no rfl ?_
        refine CC.skip ?_
        refine EE.thenN ?_
        refine CC.seq ?_
        refine CC.region ?_
        refine LL.val (R.load rfl rfl (I.ld1 rfl (RowL.cell hn' rfl))) rfl rfl rfl ?_
        refine LL.val (R.addNc rfl rfl rfl rfl (by omega)) rfl rfl rfl ?_
        refine LL.store rfl rfl rfl rfl hn' (by exact Nat.le_of_ble_eq_true rfl) rfl rfl rfl rfl ?_
        intro Wf5 rf6 bf4 zf7
        have hlbf4 := hn'.lt
        replace rf6 : RowL Wf5 _ 3 [Value.int IntKind.i64 ↑(pre.length + 1)] := rf6
        clear hn'
        replace h1 := h1.grown bf4 h1.size (by rintro k ⟨⟩; omega)
        replace hx := hx.gr bf4 (by have := hx.lt; omega)
        replace rk := rk.gr bf4 (by have := rk.lt; omega)
        replace rt := rt.gr bf4 (by have := rt.lt; omega)
        replace rw1 := rw1.gr bf4 (by have := rw1.lt; omega)
        replace ra1 := ra1.gr bf4 (by have := ra1.lt; omega)
        replace st := st.trans (StaysZ.of_grown bf4 (by omega))
        replace kp := kp.trans (Keeps.of_grown bf4 fun k hk => by (try simp only at hk); omega)
        have hn' := rf6
        clear rf6
        refine LL.nilS ?_
        refine CC.seq ?_
        refine CC.region ?_
        refine LL.val (R.load rfl rfl (I.ld1 rfl (RowL.cell rt rfl))) rfl rfl rfl ?_
        refine LL.val (R.eqT rfl rfl rfl (by omega)) rfl rfl rfl ?_
        refine LL.val (R.move rfl rfl) rfl rfl rfl ?_
        refine LL.val (R.load rfl rfl (I.ld1 rfl (RowL.cell hn' rfl))) rfl rfl rfl ?_
        refine LL.val (R.load rfl rfl (I.ld1 rfl (RowL.cell rk rfl))) rfl rfl rfl ?_
        refine LL.val (R.geF rfl rfl rfl (by omega)) rfl rfl rfl ?_
        refine LL.val (R.pick rfl rfl rfl) rfl rfl rfl ?_
        refine LL.nilS ?_
        refine CC.no rfl ?_
        refine CC.skip ?_
        refine EE.inN ?_
        exact EE.roundNZ ⟨st, kp, h1, by omega, by rw [hxd]; exact hn', .inr (by rw [hxd]; omega)⟩
    case after =>
      rintro E0 W hE0 ⟨h1, p, hn', hcp⟩ hE01
      obtain ⟨rk, rr, rw1, ra1, rt, q1, q2, q3, bel⟩ := hV.lift h1
      have yz := h1.size
      have eE0 := (Array.getElem?_eq_some_iff.1 hE01).1
      refine EE.thenN ?_
      refine CC.seq ?_
      refine CC.region ?_
      refine LL.val (R.load rfl rfl (I.ld1 rfl (RowL.cell rt rfl))) rfl rfl rfl ?_
      refine LL.val (R.eqT rfl rfl rfl (by omega)) rfl rfl rfl ?_
      refine LL.val (R.move rfl rfl) rfl rfl rfl ?_
      refine LL.val (R.load rfl rfl (I.ld1 rfl (RowL.cell hn' rfl))) rfl rfl rfl ?_
      refine LL.val (R.field rfl rfl (I.fld rfl)) rfl rfl rfl ?_
      refine LL.val (R.load rfl rfl (I.ld1 rfl (RowL.cell rw1 rfl))) rfl rfl rfl ?_
      refine LL.val (R.len rfl rfl rfl rfl) rfl rfl rfl ?_
      refine LL.val (R.load rfl rfl (I.ld1 rfl (RowL.cell rk rfl))) rfl rfl rfl ?_
      refine LL.val (R.max rfl rfl) rfl rfl rfl ?_
      refine LL.val (R.min rfl rfl) rfl rfl rfl ?_
      refine LL.val (R.neF rfl rfl rfl (by omega)) rfl rfl rfl ?_
      refine LL.val (R.pick rfl rfl rfl) rfl rfl rfl ?_
      refine LL.val (R.move rfl rfl) rfl rfl rfl ?_
      refine LL.val (R.load rfl rfl (I.ld1 rfl (RowL.cell rt rfl))) rfl rfl rfl ?_
      refine LL.val (R.eqF rfl rfl rfl (by omega)) rfl rfl rfl ?_
      refine LL.val (R.move rfl rfl) rfl rfl rfl ?_
      refine LL.skip rfl rfl ?_
      refine LL.skip rfl rfl ?_
      refine LL.skip rfl rfl ?_
      refine LL.skip rfl rfl ?_
      refine LL.skip rfl rfl ?_
      refine LL.val (R.pick rfl rfl rfl) rfl rfl rfl ?_
      refine LL.val (R.pick rfl rfl rfl) rfl rfl rfl ?_
      refine LL.nilS ?_
      refine CC.no rfl ?_
      refine CC.skip ?_
      refine EE.inN ?_
      refine EE.thenN ?_
      refine CC.seq ?_
      refine CC.seq ?_
      refine CC.region ?_
      refine LL.val (R.load rfl rfl (I.ld1 rfl (RowL.cell rt rfl))) rfl rfl rfl ?_
      refine LL.nilS ?_
      refine CC.region ?_
      have lg1 := hn'.lt
      have lg2 := (Array.getElem?_eq_some_iff.1 hE01).1
      have lg3 := rk.lt
      have lg4 := rr.lt
      have lg5 := rw1.lt
      have lg6 := ra1.lt
      have lg7 := rt.lt
      refine LL.alloc ([Value.int IntKind.i64 0]) rfl rfl rfl rfl rfl ?_
      intro Wg9 gg10 egg10 rg11 zg12 bg8
      replace h1 := h1.trans (bg8.mono h1.size)
      replace hn' := hn'.up bg8
      replace hE01 := defer_up hE01 bg8
      replace rk := rk.up bg8
      replace rr := rr.up bg8
      replace rw1 := rw1.up bg8
      replace ra1 := ra1.up bg8
      replace rt := rt.up bg8
      replace q1 := q1.trans (bg8.mono q1.size)
      replace q2 := q2.trans (bg8.mono q2.size)
      replace q3 := q3.trans (bg8.mono q3.size)
      replace bel := bel.trans (bg8.mono bel.size)
      refine LL.store rfl rfl rfl rfl rg11 (by exact Nat.le_of_ble_eq_true rfl) rfl rfl rfl rfl ?_
      intro Wg14 rg15 bg13 zg16
      have hlbg13 := rg11.lt
      replace rg15 : RowL Wg14 _ 3 [Value.int IntKind.i64 0] := rg15
      clear rg11
      replace bg8 := bg8.grown bg13 bg8.size (by rintro k ⟨⟩; omega)
      replace h1 := h1.grown bg13 h1.size (by rintro k ⟨⟩; omega)
      replace hn' := hn'.gr bg13 (by have := hn'.lt; omega)
      replace hE01 := (bg13.block _ (Array.getElem?_eq_some_iff.1 hE01).1 (by simp; omega)).trans hE01
      replace rk := rk.gr bg13 (by have := rk.lt; omega)
      replace rr := rr.gr bg13 (by have := rr.lt; omega)
      replace rw1 := rw1.gr bg13 (by have := rw1.lt; omega)
      replace ra1 := ra1.gr bg13 (by have := ra1.lt; omega)
      replace rt := rt.gr bg13 (by have := rt.lt; omega)
      replace q1 := q1.grown bg13 q1.size (by rintro k ⟨⟩; omega)
      replace q2 := q2.grown bg13 q2.size (by rintro k ⟨⟩; omega)
      replace q3 := q3.grown bg13 q3.size (by rintro k ⟨⟩; omega)
      replace bel := bel.grown bg13 bel.size (by rintro k ⟨⟩; omega)
      have rg11 := rg15
      clear rg15
      refine LL.nilS ?_
      refine CC.region ?_
      refine LL.val (R.load rfl rfl (I.ld1 rfl (RowL.cell rg11 rfl))) rfl rfl rfl ?_
      refine LL.val (R.addIz (z := 1) rfl rfl rfl (by decide) (by decide)) rfl rfl rfl ?_
      refine LL.store rfl rfl rfl rfl rg11 (by exact Nat.le_of_ble_eq_true rfl) rfl rfl rfl rfl ?_
      intro Wg18 rg19 bg17 zg20
      have hlbg17 := rg11.lt
      replace rg19 : RowL Wg18 _ 3 [Value.int IntKind.i64 1] := rg19
      clear rg11
      replace bg8 := bg8.grown bg17 bg8.size (by rintro k ⟨⟩; omega)
      replace h1 := h1.grown bg17 h1.size (by rintro k ⟨⟩; omega)
      replace hn' := hn'.gr bg17 (by have := hn'.lt; omega)
      replace hE01 := (bg17.block _ (Array.getElem?_eq_some_iff.1 hE01).1 (by simp; omega)).trans hE01
      replace rk := rk.gr bg17 (by have := rk.lt; omega)
      replace rr := rr.gr bg17 (by have := rr.lt; omega)
      replace rw1 := rw1.gr bg17 (by have := rw1.lt; omega)
      replace ra1 := ra1.gr bg17 (by have := ra1.lt; omega)
      replace rt := rt.gr bg17 (by have := rt.lt; omega)
      replace q1 := q1.grown bg17 q1.size (by rintro k ⟨⟩; omega)
      replace q2 := q2.grown bg17 q2.size (by rintro k ⟨⟩; omega)
      replace q3 := q3.grown bg17 q3.size (by rintro k ⟨⟩; omega)
      replace bel := bel.grown bg17 bel.size (by rintro k ⟨⟩; omega)
      have rg11 := rg19
      clear rg19
      refine LL.nil ?_
      refine EE.again ?_
      have hV1 : LvN Wg18 w X1 X2 X3 l s lo le wy gk gr gw ga gg10 many (.slice av1 K cv1) (.slice av2 K cv2) 1 := ⟨rk, rr, rw1, ra1, rg11, q1, q2, q3, bel⟩
      have hE0k : ∀ W', Below Wg18.heap.size Wg18 W' → W'.heap[E0]? = some (.deferred (some [])) := fun W' h => defer_up hE01 h
      have qA := h1
      have qB := Below.refl Wg18.heap.size Wg18
      have jsz := bel.size
      have jE := (Array.getElem?_eq_some_iff.1 hE01).1
      have hord2 : ga < gg10 ∧ bk < gg10 ∧ bkl < gg10 ∧ X3.heap.size ≤ gg10 := by omega
      clear h1 hn' hcp rt bg8 bg13 bg17 kn hE01 yB rc5 bc2
      refine RN.keep [(0, .slice a n c), (3, .pointer (some ⟨gk, 0, none⟩)), (4, .pointer (some ⟨gr, 0, none⟩)), (5, .slice (some ⟨gL, 0, none⟩) n cL), (8, .pointer (some ⟨gw, 0, none⟩)), (10, .func (.func 75) #[] [Value.pointer (some ⟨bk, 0, none⟩)].toArray), (11, .pointer (some ⟨ga, 0, none⟩)), (12, .pointer (some ⟨gg10, 0, none⟩))] ⟨rfl, rfl, rfl, rfl, rfl, rfl, rfl, rfl, trivial⟩ ?_
      refine RN.step ?_
      refine CC.seq ?_
      refine CC.seq ?_
      refine CC.region ?_
      refine LL.val (R.load rfl rfl (I.ld1 rfl (RowL.cell rg11 rfl))) rfl rfl rfl ?_
      refine LL.val (R.ltT rfl rfl rfl (by omega)) rfl rfl rfl ?_
      refine LL.nilS ?_
      refine CC.yes rfl ?_
      refine CC.skip ?_
      refine EE.thenN ?_
      refine CC.seq ?_
      refine CC.block ?_
      refine CC.seq ?_
      refine CC.region ?_
      have lh1 := rk.lt
      have lh2 := rr.lt
      have lh3 := rw1.lt
      have lh4 := ra1.lt
      have lh5 := rg11.lt
      refine LL.alloc ([Value.int IntKind.i64 0]) rfl rfl rfl rfl rfl ?_
      intro Wh7 gh8 egh8 rh9 zh10 bh6
      replace rk := rk.up bh6
      replace rr := rr.up bh6
      replace rw1 := rw1.up bh6
      replace ra1 := ra1.up bh6
      replace q1 := q1.trans (bh6.mono q1.size)
      replace q2 := q2.trans (bh6.mono q2.size)
      replace q3 := q3.trans (bh6.mono q3.size)
      replace bel := bel.trans (bh6.mono bel.size)
      replace rg11 := rg11.up bh6
      replace qA := qA.trans (bh6.mono qA.size)
      replace qB := qB.trans (bh6.mono qB.size)
      refine LL.store rfl rfl rfl rfl rh9 (by exact Nat.le_of_ble_eq_true rfl) rfl rfl rfl rfl ?_
      intro Wh12 rh13 bh11 zh14
      have hlbh11 := rh9.lt
      replace rh13 : RowL Wh12 _ 3 [Value.int IntKind.i64 0] := rh13
      clear rh9
      replace bh6 := bh6.grown bh11 bh6.size (by rintro k ⟨⟩; omega)
      replace rk := rk.gr bh11 (by have := rk.lt; omega)
      replace rr := rr.gr bh11 (by have := rr.lt; omega)
      replace rw1 := rw1.gr bh11 (by have := rw1.lt; omega)
      replace ra1 := ra1.gr bh11 (by have := ra1.lt; omega)
      replace q1 := q1.grown bh11 q1.size (by rintro k ⟨⟩; omega)
      replace q2 := q2.grown bh11 q2.size (by rintro k ⟨⟩; omega)
      replace q3 := q3.grown bh11 q3.size (by rintro k ⟨⟩; omega)
      replace bel := bel.grown bh11 bel.size (by rintro k ⟨⟩; omega)
      replace rg11 := rg11.gr bh11 (by have := rg11.lt; omega)
      replace qA := qA.grown bh11 qA.size (by rintro k ⟨⟩; omega)
      replace qB := qB.grown bh11 qB.size (by rintro k ⟨⟩; omega)
      have rh9 := rh13
      clear rh13
      refine LL.nilS ?_
      refine CC.seq ?_
      refine CC.seq ?_
      refine CC.region ?_
      refine LL.val (R.move rfl rfl) rfl rfl rfl ?_
      refine LL.nilS ?_
      refine CC.block ?_
      have yB := qB.size
      have kn := rh9.lt
      clear rk rr rw1 ra1 rg11 bel q1 q2 q3
      refine CC.rangeZ (γ := Nat) (gf := 75) (lb := [Value.pointer (some ⟨bk, 0, none⟩)]) (encs := spE) rfl rfl hG qA (fun k hk => by (try simp only at hk); omega) (fun _ => rfl) rfl
        (fun m (pre : List (Nat × Pr)) W' => Below Wg18.heap.size Wg18 W' ∧ Wh12.heap.size ≤ W'.heap.size ∧ RowL W' gh8 3 [.int .i64 (pre.length : Int)] ∧ True)
        (fun m (pre : List (Nat × Pr)) W' => Below Wg18.heap.size Wg18 W' ∧ RowL W' gh8 3 [.int .i64 (pre.length : Int)] ∧ False)
        (fun W' => Below Wg18.heap.size Wg18 W' ∧ ∃ p : Nat, RowL W' gh8 3 [.int .i64 (p : Int)] ∧ ((p : Int) = (K : Int)))
        (fun m m' s X Y hs ht hg => ⟨hs.1.trans (ht.below yB hs.1.size), by have := ht.size; omega, ht.row hs.2.2.1 (.inl kn), hs.2.2.2⟩)
        (fun m m' s X Y hs ht hg => ⟨hs.1.trans (ht.below yB hs.1.size), ht.row hs.2.1 (.inl kn), hs.2.2⟩)
        ⟨qB, Nat.le_refl _, rh9, trivial⟩ ?hIA ?hIxA
        (fun x g => sl [(0, .slice a n c), (3, .pointer (some ⟨gk, 0, none⟩)), (4, .pointer (some ⟨gr, 0, none⟩)), (5, .slice (some ⟨gL, 0, none⟩) n cL), (8, .pointer (some ⟨gw, 0, none⟩)), (10, .func (.func 75) #[] [Value.pointer (some ⟨bk, 0, none⟩)].toArray), (11, .pointer (some ⟨ga, 0, none⟩)), (12, .pointer (some ⟨gg10, 0, none⟩)), (13, .pointer (some ⟨gh8, 0, none⟩)), (14, .int .i64 (x.1 : Int)), (15, .pointer (some ⟨g, 0, none⟩))]) (fun x g W' => RowL W' g 46 (prE x.2) ∧ Wh12.heap.size ≤ g) (fun x g => fun _ W W' row h hg hr => ⟨RowL.own () W W' row h.1 hg hr, h.2⟩) ?assign ?body ?after
      case hIA =>
        rintro m xs W' rfl ⟨h1, hz, h2, h3⟩
        exact ⟨h1, _, h2, by rw [hK]⟩
      case hIxA =>
        rintro m pre W' hp ⟨h1, h2, h3⟩
        exact h3.elim
      case assign =>
        rintro l' m pre x W Kc hm ⟨h1, hz, h2, h3⟩ hKc
        have qa := Below.refl W.heap.size W
        have hup : ∀ X, Below W.heap.size W X → Below Wg18.heap.size Wg18 X ∧ Wh12.heap.size ≤ X.heap.size ∧ RowL X gh8 3 [.int .i64 (pre.length : Int)] ∧ (True) := fun X b => ⟨h1.trans (b.mono h1.size), by have := b.size; omega, h2.up b, h3⟩
        clear h1 h2 h3
        refine CC.seq ?_
        refine CC.region ?_
        refine LL.val (R.assign rfl rfl) rfl rfl rfl ?_
        refine LL.nilS ?_
        refine CC.region ?_
        refine LL.alloc ([Value.int IntKind.u64 0, Value.int IntKind.u64 0]) rfl rfl rfl rfl rfl ?_
        intro Wi2 gi3 egi3 ri4 zi5 bi1
        replace qa := qa.trans (bi1.mono qa.size)
        refine LL.storeN (vs := [Value.int IntKind.u64 ↑x.2.1, Value.int IntKind.u64 ↑x.2.2]) rfl rfl rfl rfl ri4 (by exact Nat.le_of_ble_eq_true rfl) (ones_of rfl) rfl rfl ?_
        intro Wi7 ri8 bi6 zi9
        have hlbi6 := ri4.lt
        replace ri8 : RowL Wi7 _ 46 [Value.int IntKind.u64 ↑x.2.1, Value.int IntKind.u64 ↑x.2.2] := ri8
        clear ri4
        replace bi1 := bi1.grown bi6 bi1.size (by rintro k ⟨⟩; omega)
        replace qa := qa.grown bi6 qa.size (by rintro k ⟨⟩; omega)
        have ri4 := ri8
        clear ri8
        refine LL.nil ?_
        exact EE.thenK fun a' F => hKc a' _ _ (StaysZ.of_below qa) (Keeps.of_below (fun k hk => by (try simp only at hk); omega) qa) (hup _ qa) (F.keep _ ⟨rfl, rfl, rfl, rfl, rfl, rfl, rfl, rfl, rfl, rfl, rfl, trivial⟩) ⟨by assumption, by omega⟩
      case body =>
        rintro l' m pre ⟨jx, kx, px⟩ g W hm hl' hrl ⟨h1, hz, hn', h3⟩ ⟨hx, hgB⟩ ⟨xs, hxs, tt, hp⟩
        rw [hxs] at hp
        have hget : L[pre.length]? = some (jx, kx, px) := by rw [← hp]; simp
        have hpk : pre.length < K := by rw [← hK]; exact (List.getElem?_eq_some_iff.1 hget).1
        have hxd : (pre ++ [(jx, kx, px)]).length = pre.length + 1 := by simp
        have ySz := h1.size
        obtain ⟨rk, rr, rw1, ra1, rt, q1, q2, q3, bel⟩ := hV1.lift h1
        have hg1 : (L.map (·.2))[pre.length]? = some (kx, px) := by rw [List.getElem?_map, hget]; rfl
        have hg2 : (L.map (·.1))[pre.length]? = some jx := by rw [List.getElem?_map, hget]; rfl
        obtain ⟨b1, o1, rfl, _, _⟩ := (h1F _ q1).get prEnc hg1
        obtain ⟨b2, o2, rfl, _, hc2⟩ := (h2F _ q2).one iEnc hg2
        have c2 := hc2 _ rfl
        have m1 : CellsN W ⟨b1, o1 + pre.length * 2, none⟩ 2 [.int .u64 (kx : Int), .int .u64 (px : Int)] := (h1F W q1).elemN prEnc hg1
        have hx : RowL W g 46 [.int .u64 (kx : Int), .int .u64 (px : Int)] := hx
        have lx := hx.lt
        have st := StaysZ.refl Wh12.heap.size m W
        have kp := Keeps.refl (fun k => k = bk ∨ k = bkl) W
        have hbW : bk < W.heap.size ∧ bkl < W.heap.size := by omega
        have hbn : bk ≠ gh8 ∧ bkl ≠ gh8 := by omega
        clear hc2 bel hl' hrl hp hm hget hxs q1 q2 q3 rr
        refine CC.block ?_
        refine CC.seq ?_
        refine CC.seq ?_
        refine CC.quietB (by kernel_rfl) (by kernel_rfl) (fun Wj2 bj1 zj3 => ?_)
        replace h1 := h1.trans (bj1.mono h1.size)
        replace hn' := hn'.up bj1
        replace hx := hx.up bj1
        replace rk := rk.up bj1
        replace rt := rt.up bj1
        replace rw1 := rw1.up bj1
        replace ra1 := ra1.up bj1
        replace c2 := cell_up c2 bj1
        replace m1 := m1.up bj1
        replace st := st.trans (StaysZ.of_below bj1)
        replace kp := kp.trans (Keeps.of_below (fun k hk => by (try simp only at hk); omega) bj1)
        refine SS.val (R.load rfl rfl (I.ld1 rfl (RowL.cell hn' rfl))) rfl rfl ?_
        refine SS.val (R.field rfl rfl (I.fld rfl)) rfl rfl ?_
        refine SS.val (R.load rfl rfl (I.ld1 rfl (RowL.cell rw1 rfl))) rfl rfl ?_
        refine SS.val (R.len rfl rfl rfl rfl) rfl rfl ?_
        refine SS.val (R.geF rfl rfl rfl (by omega)) rfl rfl ?_
        refine SS.val (R.move rfl rfl) rfl rfl ?_
        refine SS.val (R.move rfl rfl) rfl rfl ?_
        refine SS.val (R.load rfl rfl (I.ld1 rfl (RowL.cell ra1 rfl))) rfl rfl ?_
        refine SS.val (R.load rfl rfl (I.ld1 rfl (RowL.cell hn' rfl))) rfl rfl ?_
        refine SS.val (R.index rfl rfl rfl (I.ixS1 rfl (by omega))) rfl rfl ?_
        refine SS.val (R.load rfl rfl (I.ld1 rfl (by assumption))) rfl rfl ?_
        refine SS.val (R.neF rfl rfl rfl (by omega)) rfl rfl ?_
        refine SS.val (R.pick rfl rfl rfl) rfl rfl ?_
        refine SS.val (R.move rfl rfl) rfl rfl ?_
        refine SS.val (R.load rfl rfl (I.ldNc (vs := [Value.int IntKind.u64 ↑kx, Value.int IntKind.u64 ↑px]) (RowL.cells hx rfl) (by rfl) (by rfl))) rfl rfl ?_
        refine SS.val (R.field rfl rfl (I.fld rfl)) rfl rfl ?_
        refine SS.val (R.load rfl rfl (I.ld1 rfl (RowL.cell rw1 rfl))) rfl rfl ?_
        refine SS.val (R.load rfl rfl (I.ld1 rfl (RowL.cell hn' rfl))) rfl rfl ?_
        refine SS.val (R.index rfl rfl rfl (I.ixS rfl (by omega))) rfl rfl ?_
        refine SS.val (R.load rfl rfl (I.ldM (by assumption) rfl rfl)) rfl rfl ?_
        refine SS.val (R.neST (p := (↑kx : Int) = ↑kx ∧ (↑px : Int) = ↑px) (bs := [decide ((↑kx : Int) = ↑kx), decide ((↑px : Int) = ↑px)]) rfl rfl rfl rfl (by kernel_rfl) (by kernel_rfl) (by simp) (by first | assumption | omega | exact ⟨rfl, rfl⟩ | exact fun h => h ⟨rfl, rfl⟩)) rfl rfl ?_
        refine SS.val (R.pick rfl rfl rfl) rfl rfl ?_
        refine SS.nilQ ?_
        refine EE.thenN ?_
        refine CC.no rfl ?_
        refine CC.skip ?_
        refine EE.thenN ?_
        refine CC.seq ?_
        refine CC.region ?_
        refine LL.val (R.load rfl rfl (I.ld1 rfl (RowL.cell hn' rfl))) rfl rfl rfl ?_
        refine LL.val (R.addNc rfl rfl rfl rfl (by omega)) rfl rfl rfl ?_
        refine LL.store rfl rfl rfl rfl hn' (by exact Nat.le_of_ble_eq_true rfl) rfl rfl rfl rfl ?_
        intro Wj5 rj6 bj4 zj7
        have hlbj4 := hn'.lt
        replace rj6 : RowL Wj5 _ 3 [Value.int IntKind.i64 ↑(pre.length + 1)] := rj6
        clear hn'
        replace h1 := h1.grown bj4 h1.size (by rintro k ⟨⟩; omega)
        replace hx := hx.gr bj4 (by have := hx.lt; omega)
        replace rk := rk.gr bj4 (by have := rk.lt; omega)
        replace rt := rt.gr bj4 (by have := rt.lt; omega)
        replace rw1 := rw1.gr bj4 (by have := rw1.lt; omega)
        replace ra1 := ra1.gr bj4 (by have := ra1.lt; omega)
        replace st := st.trans (StaysZ.of_grown bj4 (by omega))
        replace kp := kp.trans (Keeps.of_grown bj4 fun k hk => by (try simp only at hk); omega)
        have hn' := rj6
        clear rj6
        refine LL.nilS ?_
        refine CC.seq ?_
        refine CC.region ?_
        refine LL.val (R.load rfl rfl (I.ld1 rfl (RowL.cell rt rfl))) rfl rfl rfl ?_
        refine LL.val (R.eqF rfl rfl rfl (by omega)) rfl rfl rfl ?_
        refine LL.val (R.move rfl rfl) rfl rfl rfl ?_
        refine LL.skip rfl rfl ?_
        refine LL.skip rfl rfl ?_
        refine LL.skip rfl rfl ?_
        refine LL.val (R.pick rfl rfl rfl) rfl rfl rfl ?_
        refine LL.nilS ?_
        refine CC.no rfl ?_
        refine CC.skip ?_
        refine EE.inN ?_
        exact EE.roundNZ ⟨st, kp, h1, by omega, by rw [hxd]; exact hn', trivial⟩
      case after =>
        rintro E1 W hE1 ⟨h1, p, hn', hcp⟩ hE11
        obtain ⟨rk, rr, rw1, ra1, rt, q1, q2, q3, q⟩ := hV1.lift h1
        have yz := h1.size
        have hE01 := hE0k _ h1
        have eE01 := (Array.getElem?_eq_some_iff.1 hE01).1
        have eE1 := (Array.getElem?_eq_some_iff.1 hE11).1
        have c77F : ∀ X, Below X3.heap.size X3 X → X.cell? ⟨gL, 0 + n, none⟩ = some (.int .u64 ((77 : Nat) : Int)) := fun X hX => by
          obtain ⟨b, o, e, _, hc⟩ := (h3F X hX).one uEnc (i := n) (t := 77) (by rw [List.getElem?_append_right (by omega), hn, Nat.sub_self]; rfl)
          cases e
          exact hc _ rfl
        refine EE.thenN ?_
        refine CC.seq ?_
        refine CC.region ?_
        refine LL.val (R.load rfl rfl (I.ld1 rfl (RowL.cell rt rfl))) rfl rfl rfl ?_
        refine LL.val (R.eqF rfl rfl rfl (by omega)) rfl rfl rfl ?_
        refine LL.val (R.move rfl rfl) rfl rfl rfl ?_
        refine LL.skip rfl rfl ?_
        refine LL.skip rfl rfl ?_
        refine LL.skip rfl rfl ?_
        refine LL.skip rfl rfl ?_
        refine LL.skip rfl rfl ?_
        refine LL.skip rfl rfl ?_
        refine LL.skip rfl rfl ?_
        refine LL.skip rfl rfl ?_
        refine LL.val (R.pick rfl rfl rfl) rfl rfl rfl ?_
        refine LL.val (R.move rfl rfl) rfl rfl rfl ?_
        refine LL.val (R.load rfl rfl (I.ld1 rfl (RowL.cell rt rfl))) rfl rfl rfl ?_
        refine LL.val (R.eqT rfl rfl rfl (by omega)) rfl rfl rfl ?_
        refine LL.val (R.move rfl rfl) rfl rfl rfl ?_
        refine LL.val (R.load rfl rfl (I.ld1 rfl (RowL.cell hn' rfl))) rfl rfl rfl ?_
        refine LL.val (R.field rfl rfl (I.fld rfl)) rfl rfl rfl ?_
        refine LL.val (R.load rfl rfl (I.ld1 rfl (RowL.cell rw1 rfl))) rfl rfl rfl ?_
        refine LL.val (R.len rfl rfl rfl rfl) rfl rfl rfl ?_
        refine LL.val (R.neF rfl rfl rfl (by omega)) rfl rfl rfl ?_
        refine LL.val (R.pick rfl rfl rfl) rfl rfl rfl ?_
        refine LL.val (R.pick rfl rfl rfl) rfl rfl rfl ?_
        refine LL.nilS ?_
        refine CC.no rfl ?_
        refine CC.skip ?_
        refine EE.inN ?_
        refine EE.thenN ?_
        refine CC.seq ?_
        refine CC.seq ?_
        refine CC.region ?_
        refine LL.val (R.load rfl rfl (I.ld1 rfl (RowL.cell rt rfl))) rfl rfl rfl ?_
        refine LL.nilS ?_
        refine CC.region ?_
        have lk511 := hn'.lt
        have lk512 := (Array.getElem?_eq_some_iff.1 hE11).1
        have lk513 := rk.lt
        have lk514 := rr.lt
        have lk515 := rw1.lt
        have lk516 := ra1.lt
        have lk517 := rt.lt
        have lk518 := (Array.getElem?_eq_some_iff.1 hE01).1
        refine LL.alloc ([Value.int IntKind.i64 0]) rfl rfl rfl rfl rfl ?_
        intro Wk520 gk521 egk521 rk522 zk523 bk519
        replace h1 := h1.trans (bk519.mono h1.size)
        replace hn' := hn'.up bk519
        replace hE11 := defer_up hE11 bk519
        replace rk := rk.up bk519
        replace rr := rr.up bk519
        replace rw1 := rw1.up bk519
        replace ra1 := ra1.up bk519
        replace rt := rt.up bk519
        replace q1 := q1.trans (bk519.mono q1.size)
        replace q2 := q2.trans (bk519.mono q2.size)
        replace q3 := q3.trans (bk519.mono q3.size)
        replace q := q.trans (bk519.mono q.size)
        replace hE01 := defer_up hE01 bk519
        refine LL.store rfl rfl rfl rfl rk522 (by exact Nat.le_of_ble_eq_true rfl) rfl rfl rfl rfl ?_
        intro Wk557 rk558 bk556 zk559
        have hlbk556 := rk522.lt
        replace rk558 : RowL Wk557 _ 3 [Value.int IntKind.i64 1] := rk558
        clear rk522
        replace bk519 := bk519.grown bk556 bk519.size (by rintro k ⟨⟩; omega)
        replace h1 := h1.grown bk556 h1.size (by rintro k ⟨⟩; omega)
        replace hn' := hn'.gr bk556 (by have := hn'.lt; omega)
        replace hE11 := (bk556.block _ (Array.getElem?_eq_some_iff.1 hE11).1 (by simp; omega)).trans hE11
        replace rk := rk.gr bk556 (by have := rk.lt; omega)
        replace rr := rr.gr bk556 (by have := rr.lt; omega)
        replace rw1 := rw1.gr bk556 (by have := rw1.lt; omega)
        replace ra1 := ra1.gr bk556 (by have := ra1.lt; omega)
        replace rt := rt.gr bk556 (by have := rt.lt; omega)
        replace q1 := q1.grown bk556 q1.size (by rintro k ⟨⟩; omega)
        replace q2 := q2.grown bk556 q2.size (by rintro k ⟨⟩; omega)
        replace q3 := q3.grown bk556 q3.size (by rintro k ⟨⟩; omega)
        replace q := q.grown bk556 q.size (by rintro k ⟨⟩; omega)
        replace hE01 := (bk556.block _ (Array.getElem?_eq_some_iff.1 hE01).1 (by simp; omega)).trans hE01
        have rk522 := rk558
        clear rk558
        refine LL.nilS ?_
        refine CC.region ?_
        refine LL.val (R.load rfl rfl (I.ld1 rfl (RowL.cell rk522 rfl))) rfl rfl rfl ?_
        refine LL.val (R.addIz (z := 2) rfl rfl rfl (by decide) (by decide)) rfl rfl rfl ?_
        refine LL.store rfl rfl rfl rfl rk522 (by exact Nat.le_of_ble_eq_true rfl) rfl rfl rfl rfl ?_
        intro Wk657 rk658 bk656 zk659
        have hlbk656 := rk522.lt
        replace rk658 : RowL Wk657 _ 3 [Value.int IntKind.i64 2] := rk658
        clear rk522
        replace bk519 := bk519.grown bk656 bk519.size (by rintro k ⟨⟩; omega)
        replace h1 := h1.grown bk656 h1.size (by rintro k ⟨⟩; omega)
        replace hn' := hn'.gr bk656 (by have := hn'.lt; omega)
        replace hE11 := (bk656.block _ (Array.getElem?_eq_some_iff.1 hE11).1 (by simp; omega)).trans hE11
        replace rk := rk.gr bk656 (by have := rk.lt; omega)
        replace rr := rr.gr bk656 (by have := rr.lt; omega)
        replace rw1 := rw1.gr bk656 (by have := rw1.lt; omega)
        replace ra1 := ra1.gr bk656 (by have := ra1.lt; omega)
        replace rt := rt.gr bk656 (by have := rt.lt; omega)
        replace q1 := q1.grown bk656 q1.size (by rintro k ⟨⟩; omega)
        replace q2 := q2.grown bk656 q2.size (by rintro k ⟨⟩; omega)
        replace q3 := q3.grown bk656 q3.size (by rintro k ⟨⟩; omega)
        replace q := q.grown bk656 q.size (by rintro k ⟨⟩; omega)
        replace hE01 := (bk656.block _ (Array.getElem?_eq_some_iff.1 hE01).1 (by simp; omega)).trans hE01
        have rk522 := rk658
        clear rk658
        refine LL.nil ?_
        refine EE.again ?_
        refine RN.step ?_
        refine CC.seq ?_
        refine CC.seq ?_
        refine CC.region ?_
        refine LL.val (R.load rfl rfl (I.ld1 rfl (RowL.cell rk522 rfl))) rfl rfl rfl ?_
        refine LL.val (R.ltF rfl rfl rfl (by omega)) rfl rfl rfl ?_
        refine LL.nilS ?_
        refine CC.no rfl ?_
        refine CC.exit ?_
        refine EE.thenX ?_
        refine EE.thenX ?_
        refine EE.inX ?_
        refine EE.thenN ?_
        refine CC.seq ?_
        refine CC.region ?_
        refine LL.val (R.move rfl rfl) rfl rfl rfl ?_
        refine LL.val (R.move rfl rfl) rfl rfl rfl ?_
        have lk792 := hn'.lt
        have lk793 := (Array.getElem?_eq_some_iff.1 hE11).1
        have lk794 := rk.lt
        have lk795 := rr.lt
        have lk796 := rw1.lt
        have lk797 := ra1.lt
        have lk798 := rt.lt
        have lk799 := (Array.getElem?_eq_some_iff.1 hE01).1
        have lk800 := rk522.lt
        (refine LL.call (R.call rfl rfl rfl) rfl rfl rfl (usame_T _ _ ws _ (lentR hn (h3F _ q3) hcL) (hvF _ q) (by omega)) ?_; rintro e Wk791 ⟨rfl, bk788⟩; refine ⟨_, rfl, ?_⟩)
        have zbk788 := bk788.size
        replace bk519 := bk519.trans (bk788.mono bk519.size)
        replace h1 := h1.trans (bk788.mono h1.size)
        replace hn' := hn'.up bk788
        replace hE11 := defer_up hE11 bk788
        replace rk := rk.up bk788
        replace rr := rr.up bk788
        replace rw1 := rw1.up bk788
        replace ra1 := ra1.up bk788
        replace rt := rt.up bk788
        replace q1 := q1.trans (bk788.mono q1.size)
        replace q2 := q2.trans (bk788.mono q2.size)
        replace q3 := q3.trans (bk788.mono q3.size)
        replace q := q.trans (bk788.mono q.size)
        replace hE01 := defer_up hE01 bk788
        replace rk522 := rk522.up bk788
        refine LL.val (R.move rfl rfl) rfl rfl rfl ?_
        refine LL.val (R.move rfl rfl) rfl rfl rfl ?_
        refine LL.val (R.move rfl rfl) rfl rfl rfl ?_
        refine LL.val (R.len rfl rfl rfl rfl) rfl rfl rfl ?_
        refine LL.val (R.addNc rfl rfl rfl rfl (by omega)) rfl rfl rfl ?_
        refine LL.val (R.slice rfl rfl rfl rfl rfl (I.slTo rfl (by omega))) rfl rfl rfl ?_
        refine LL.val (R.move rfl rfl) rfl rfl rfl ?_
        refine LL.val (R.len rfl rfl rfl rfl) rfl rfl rfl ?_
        refine LL.val (R.index rfl rfl rfl (I.ixS1 rfl (by omega))) rfl rfl rfl ?_
        (refine LL.val (R.load rfl rfl (I.ld1 rfl (c77F _ q3))) rfl rfl rfl ?_)
        refine LL.val (R.eqT rfl rfl rfl (by omega)) rfl rfl rfl ?_
        refine LL.val (R.pick rfl rfl rfl) rfl rfl rfl ?_
        refine LL.val (R.move rfl rfl) rfl rfl rfl ?_
        have lk1240 := hn'.lt
        have lk1241 := (Array.getElem?_eq_some_iff.1 hE11).1
        have lk1242 := rk.lt
        have lk1243 := rr.lt
        have lk1244 := rw1.lt
        have lk1245 := ra1.lt
        have lk1246 := rt.lt
        have lk1247 := (Array.getElem?_eq_some_iff.1 hE01).1
        have lk1248 := rk522.lt
        (refine LL.call (R.call rfl rfl rfl) rfl rfl rfl (works11_any _) ?_; rintro e Wk1239 ⟨rfl, bk1236⟩; refine ⟨_, rfl, ?_⟩)
        have zbk1236 := bk1236.size
        replace bk788 := bk788.trans (bk1236.mono bk788.size)
        replace bk519 := bk519.trans (bk1236.mono bk519.size)
        replace h1 := h1.trans (bk1236.mono h1.size)
        replace hn' := hn'.up bk1236
        replace hE11 := defer_up hE11 bk1236
        replace rk := rk.up bk1236
        replace rr := rr.up bk1236
        replace rw1 := rw1.up bk1236
        replace ra1 := ra1.up bk1236
        replace rt := rt.up bk1236
        replace q1 := q1.trans (bk1236.mono q1.size)
        replace q2 := q2.trans (bk1236.mono q2.size)
        replace q3 := q3.trans (bk1236.mono q3.size)
        replace q := q.trans (bk1236.mono q.size)
        replace hE01 := defer_up hE01 bk1236
        replace rk522 := rk522.up bk1236
        refine LL.val (R.pick rfl rfl rfl) rfl rfl rfl ?_
        refine LL.store rfl rfl rfl rfl rr (by exact Nat.le_of_ble_eq_true rfl) rfl rfl rfl rfl ?_
        intro Wk1317 rk1318 bk1316 zk1319
        have hlbk1316 := rr.lt
        replace rk1318 : RowL Wk1317 _ 4 [Value.bool true] := rk1318
        clear rr
        replace hn' := hn'.gr bk1316 (by have := hn'.lt; omega)
        replace hE11 := (bk1316.block _ (Array.getElem?_eq_some_iff.1 hE11).1 (by simp; omega)).trans hE11
        replace rk := rk.gr bk1316 (by have := rk.lt; omega)
        replace rw1 := rw1.gr bk1316 (by have := rw1.lt; omega)
        replace ra1 := ra1.gr bk1316 (by have := ra1.lt; omega)
        replace rt := rt.gr bk1316 (by have := rt.lt; omega)
        replace q := q.grown bk1316 q.size (by rintro k ⟨⟩; omega)
        replace hE01 := (bk1316.block _ (Array.getElem?_eq_some_iff.1 hE01).1 (by simp; omega)).trans hE01
        replace rk522 := rk522.gr bk1316 (by have := rk522.lt; omega)
        have rr := rk1318
        clear rk1318
        refine LL.nilS ?_
        refine CC.ret ?_
        have hE9 : gr ≠ E1 := by omega
        refine EE.retNN hE01 hE11 (by omega) rfl ⟨_, rfl, lv1 rfl ((taken_up (taken_up rr hE9) (by omega)).cell rfl)⟩ ?_
        exact ⟨rfl, taken_bel (taken_bel q (by omega) (Nat.le_refl _)) (by omega) (Nat.le_refl _)⟩
theorem reads_far (n : Nat) (v : Value) (ws : List Nat) (w : World) (hv : ReadsT uE 1 w v ws) (hn : ws.length = n) (h70 : 70 < n) (many : Int) : Calls Try.prog 3 #[v, .int .i64 many] w fun e w' => e = .returned (.bool true) ∧ Below w.heap.size w w' := by
  have q := Below.refl w.heap.size w
  obtain ⟨a, c, rfl, hc⟩ := hv.form hn
  clear hv
  refine X.fnM Try.func3 rfl (n := 145) rfl rfl ?_
  refine CC.seq ?_
  refine CC.region ?_
  refine LL.box [Value.int IntKind.i64 many] rfl rfl rfl rfl rfl ?_
  intro W9 g10 eg10 r11 z12 b8
  replace q := q.trans (b8.mono q.size)
  have l21 := r11.lt
  refine LL.alloc ([Value.bool false]) rfl rfl rfl rfl rfl ?_
  intro W23 g24 eg24 r25 z26 b22
  replace r11 := r11.up b22
  replace b8 := b8.trans (b22.mono b8.size)
  replace q := q.trans (b22.mono q.size)
  refine LL.nilS ?_
  refine CC.seq ?_
  refine CC.seq ?_
  refine CC.region ?_
  refine LL.val (R.move rfl rfl) rfl rfl rfl ?_
  refine LL.val (R.len rfl rfl rfl rfl) rfl rfl rfl ?_
  refine LL.val (R.gtT rfl rfl rfl (by omega)) rfl rfl rfl ?_
  refine LL.nilS ?_
  refine CC.yes rfl ?_
  refine CC.seq ?_
  refine CC.region ?_
  have l58 := r25.lt
  have l59 := r11.lt
  (refine LL.call (R.call rfl rfl rfl) rfl rfl rfl (works11_any _) ?_; rintro e W57 ⟨rfl, b54⟩; refine ⟨_, rfl, ?_⟩)
  have zb54 := b54.size
  replace r25 := r25.up b54
  replace b22 := b22.trans (b54.mono b22.size)
  replace r11 := r11.up b54
  replace b8 := b8.trans (b54.mono b8.size)
  replace q := q.trans (b54.mono q.size)
  refine LL.store rfl rfl rfl rfl r25 (by exact Nat.le_of_ble_eq_true rfl) rfl rfl rfl rfl ?_
  intro W73 r74 b72 z75
  have hlb72 := r25.lt
  replace r74 : RowL W73 _ 4 [Value.bool true] := r74
  clear r25
  replace b22 := b22.grown b72 b22.size (by rintro k ⟨⟩; omega)
  replace r11 := r11.gr b72 (by have := r11.lt; omega)
  replace b8 := b8.grown b72 b8.size (by rintro k ⟨⟩; omega)
  replace q := q.grown b72 q.size (by rintro k ⟨⟩; omega)
  have r25 := r74
  clear r74
  refine LL.nilS ?_
  refine CC.ret ?_
  refine EE.thenR ?_
  refine EE.retM1 rfl ⟨_, rfl, lv1 rfl (RowL.cell (by assumption) rfl)⟩ ?_
  exact ⟨rfl, q⟩
theorem reads_walk (n : Nat) (v : Value) (ws : List Nat) (w : World) (hv : ReadsT uE 1 w v ws) (hn : ws.length = n) (hb : ∀ x ∈ ws, x < 18446744073709551616) (many : Int) : Calls Try.prog 3 #[v, .int .i64 many] w fun e w' => e = .returned (.bool true) ∧ Below w.heap.size w w' := by
  by_cases h70 : 70 < n
  · exact reads_far n v ws w hv hn h70 many
  obtain ⟨a, c, rfl, hc⟩ := hv.form hn
  by_cases hP : nodeP ws
  · have hd8 : (ws.drop 8).length = 56 := by rw [List.length_drop, hP.1]
    have eR : readF (gw ws 3) (ws.drop 8) = (pairS (gw ws 3) (ws.drop 8)).map (·.2) := readF_row (by rw [hd8]; exact hd_row hP.2 rfl)
    have h1 := fun W u (h : ReadsT uE 1 W u ws) => nOf_yes n u ws W h hn hb hP
    have h2 := fun W u (h : ReadsT uE 1 W u ws) => rOf_yes n u ws W h hn hb hP
    rw [eR] at h1 h2
    have hl : (pairS (gw ws 3) (ws.drop 8)).length ≤ 64 := by
      have := pairS_len (gw ws 3) (ws.drop 8)
      omega
    exact reads_gen n a c ws w hv hn hc hb (by omega) many 0 _ _ _ _ _ (pairS (gw ws 3) (ws.drop 8)) hl (fun W u h => (h1 W u h).mono fun e w' ⟨⟨vo, e1, oo⟩, b⟩ => ⟨vo, e1, oo.reads prEnc, b⟩) (fun W u h => (h2 W u h).mono fun e w' ⟨⟨vo, e1, oo⟩, b⟩ => ⟨vo, e1, oo.reads prEnc, b⟩) (fun W u h => nEach_is n u ws W h hn hb hP _ rfl) (fun _ => ⟨hP, rfl⟩) (fun h => absurd rfl h)
  · exact reads_gen n a c ws w hv hn hc hb (by omega) many 210 0 0 0 0 0 [] (by decide) (fun W u h => (nOf_no n u ws W h hn hb hP).mono fun e w' ⟨e1, b⟩ => ⟨_, e1, ReadsT.nil _, b⟩) (fun W u h => (rOf_no n u ws W h hn hb hP).mono fun e w' ⟨e1, b⟩ => ⟨_, e1, ReadsT.nil _, b⟩) (fun W u h => nEach_no n u ws W h hn hb hP [] rfl) (fun h => absurd h (by decide)) (fun _ => rfl)
end Go.Proofs.Ytfplilpefhhpnaa
