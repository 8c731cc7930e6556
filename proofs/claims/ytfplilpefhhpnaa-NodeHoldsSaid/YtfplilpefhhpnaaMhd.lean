/- What the statements' walks use: Nd5, Nd6, Nd7, Nd8, Nd9, Nd10, Nd11, Nd12, Nd13, Nd14, Nd15, So17, So18, So19, So20, So21, So22, So23, So24, So25, So26, So27, So28, So29, So30, So31, So32, Nd16, SameU, Nd17, Nd17w. -/

import Derived.Test.YtfplilpefhhpnaaMhb
import Derived.Test.YtfplilpefhhpnaaMhc
/- node: lay (written by gennd5.py). -/
namespace Go.Proofs.Ytfplilpefhhpnaa
set_option linter.unusedVariables false
set_option linter.unusedSimpArgs false
open Go.RowKit Go.Shelf
set_option maxRecDepth 100000
set_option maxHeartbeats 8000000
theorem Try.infou64 : (Try.prog.info? 25).map (fun i => (i.zero, i.size, i.bytes)) = some (some (.int .u64 0), 1, 8) := by kernel_rfl
theorem El64 : El Try.prog 22 25 (Value.int .u64 0) 8 := ⟨Try.underlying22, info_parts Try.infou64, rfl⟩

/-- Words of a node. -/
abbrev layH (m s lo le wy : Nat) : List Nat := [m, s, lo, le, wy, 0, 0, 0]
def flP (ps : List Pr) : List Nat := ps.flatMap fun p => [p.1, p.2]
def layW (h : List Nat) (ps : List Pr) : List Nat := h ++ flP ps ++ List.replicate (56 - 2 * ps.length) 0
theorem flP_len (ps : List Pr) : (flP ps).length = 2 * ps.length := by
  unfold flP
  induction ps with
  | nil => rfl
  | cons a t ih => rw [List.flatMap_cons, List.length_append, ih]; simp; omega
theorem layW_len {h : List Nat} {ps : List Pr} (hh : h.length = 8) (hp : ps.length ≤ 28) : (layW h ps).length = 64 := by
  unfold layW
  rw [List.length_append, List.length_append, flP_len, List.length_replicate, hh]
  omega
theorem layW_set {h : List Nat} {ps : List Pr} {i k p : Nat} (hh : h.length = 8) (hp : ps.length ≤ 28) (hx : ps[i]? = some (k, p)) : ((layW h (ps.take i)).set (8 + 2 * i) k).set (8 + 2 * i + 1) p = layW h (ps.take (i + 1)) := by
  have hi : i < ps.length := (List.getElem?_eq_some_iff.1 hx).1
  have ht : (ps.take i).length = i := by rw [List.length_take]; omega
  have ht1 : (ps.take (i + 1)).length = i + 1 := by rw [List.length_take]; omega
  have e : ps.take (i + 1) = ps.take i ++ [(k, p)] := by
    rw [List.take_add_one, hx]
    rfl
  have hA : (h ++ flP (ps.take i)).length = 8 + 2 * i := by rw [List.length_append, flP_len, hh, ht]
  have e2 : List.replicate (56 - 2 * i) 0 = 0 :: 0 :: List.replicate (54 - 2 * i) 0 := by
    rw [show 56 - 2 * i = (54 - 2 * i) + 1 + 1 by omega]
    rfl
  have e3 : flP (ps.take (i + 1)) = flP (ps.take i) ++ [k, p] := by
    rw [e]
    unfold flP
    rw [List.flatMap_append]
    rfl
  unfold layW
  rw [ht, ht1, e2, e3, List.set_append_right _ _ (by omega), hA, Nat.sub_self, List.set_cons_zero, List.set_append_right _ _ (by omega), hA, show 8 + 2 * i + 1 - (8 + 2 * i) = 1 by omega, show 56 - 2 * (i + 1) = 54 - 2 * i by omega]
  simp
theorem ints_set {l : List Nat} {i a : Nat} : (ints .u64 l).set i (.int .u64 (a : Int)) = ints .u64 (l.set i a) := by
  unfold ints
  rw [List.map_set]
theorem or_lo {m l : Nat} (hm : 256 * m < 18446744073709551616) (hl : l < 256) : 256 * m ||| l = 256 * m + l := (Nat.two_pow_add_eq_or_of_lt (i := 8) hl m).symm
theorem lay_any (l : Nat) (s : Int) (su lo le : Nat) (wy : Int) (wu : Nat) (ps : List Pr) (pv : Value) (w : World) (hv : ReadsT prE 2 w pv ps) (hl : l ≤ 12) (hn : ps.length ≤ 28) (hsu : IntKind.u64.wrap s = (su : Int)) (hwu : IntKind.u64.wrap wy = (wu : Int)) : Calls Try.prog 36 #[nodeV (l : Int) s lo le wy pv] w fun e w' => ∃ g, e = .returned (.slice (some ⟨g, 0, none⟩) 64 64) ∧ RowL w' g 25 (ints .u64 (layW (layH (7522529147838689024 + l) su lo le wu) ps)) ∧ w.heap.size ≤ g ∧ Below w.heap.size w w' := by
  have q := Below.refl w.heap.size w
  obtain ⟨N, hN⟩ : ∃ N, ps.length = N := ⟨_, rfl⟩
  obtain ⟨a, c, rfl, hc⟩ := hv.form hN
  have hF : ∀ W, Below w.heap.size w W → ReadsT prE 2 W (.slice a N c) ps := fun W b => hv.up b
  rw [hN] at hn
  clear hv
  have hwl : IntKind.u64.wrap (l : Int) = (l : Int) := by
    rw [IntKind.wrap_u64]
    omega
  have hor : 7522529147838689024 ||| l = 7522529147838689024 + l := or_lo (m := 29384879483744879) (by decide) (by omega)
  refine X.fn Try.func36 rfl (n := 56) rfl rfl ?_
  refine CC.seq ?_
  refine CC.region ?_
  refine LL.box [Value.int IntKind.i64 ↑l, Value.int IntKind.i64 s, Value.int IntKind.u64 ↑lo, Value.int IntKind.u64 ↑le, Value.int IntKind.i64 wy, Value.slice a N c] rfl rfl rfl rfl rfl ?_
  intro W9 g10 eg10 r11 z12 b8
  replace q := q.trans (b8.mono q.size)
  refine LL.val (R.assign rfl rfl) rfl rfl rfl ?_
  refine LL.nilS ?_
  refine CC.seq ?_
  refine CC.region ?_
  have l25 := r11.lt
  (refine LL.make (l := 64) (m := 64) El64 rfl rfl rfl (by omega) (by omega) (by omega) rfl rfl ?_; intro W24 g2 eg2 r2 zz2 b21)
  have zb21 := b21.size
  replace r11 := r11.up b21
  replace b8 := b8.trans (b21.mono b8.size)
  replace q := q.trans (b21.mono q.size)
  refine LL.val (R.assign rfl rfl) rfl rfl rfl ?_
  refine LL.nilS ?_
  refine CC.seq ?_
  refine CC.region ?_
  refine LL.val (R.move rfl rfl) rfl rfl rfl ?_
  refine LL.val (R.field rfl rfl (I.fld rfl)) rfl rfl rfl ?_
  refine LL.val (R.load rfl rfl (I.ld1 rfl (RowL.cell r11 rfl))) rfl rfl rfl ?_
  refine LL.val (R.convI rfl rfl rfl rfl hwl) rfl rfl rfl ?_
  refine LL.val (R.orE (a := 7522529147838689024) (b := l) (z := 7522529147838689024 + l) rfl rfl rfl (by decide) (by omega) hor) rfl rfl rfl ?_
  refine LL.val (R.index rfl rfl rfl (I.ixS1c rfl rfl (by omega))) rfl rfl rfl ?_
  refine LL.store rfl rfl rfl rfl r2 (by exact Nat.le_of_ble_eq_true rfl) rfl rfl rfl rfl ?_
  intro W102 r103 b101 z104
  have hlb101 := r2.lt
  replace r103 : RowL W102 _ 25 [Value.int IntKind.u64 ↑(7522529147838689024 + l), Value.int IntKind.u64 0, Value.int IntKind.u64 0, Value.int IntKind.u64 0, Value.int IntKind.u64 0, Value.int IntKind.u64 0, Value.int IntKind.u64 0, Value.int IntKind.u64 0, Value.int IntKind.u64 0, Value.int IntKind.u64 0, Value.int IntKind.u64 0, Value.int IntKind.u64 0, Value.int IntKind.u64 0, Value.int IntKind.u64 0, Value.int IntKind.u64 0, Value.int IntKind.u64 0, Value.int IntKind.u64 0, Value.int IntKind.u64 0, Value.int IntKind.u64 0, Value.int IntKind.u64 0, Value.int IntKind.u64 0, Value.int IntKind.u64 0, Value.int IntKind.u64 0, Value.int IntKind.u64 0, Value.int IntKind.u64 0, Value.int IntKind.u64 0, Value.int IntKind.u64 0, Value.int IntKind.u64 0, Value.int IntKind.u64 0, Value.int IntKind.u64 0, Value.int IntKind.u64 0, Value.int IntKind.u64 0, Value.int IntKind.u64 0, Value.int IntKind.u64 0, Value.int IntKind.u64 0, Value.int IntKind.u64 0, Value.int IntKind.u64 0, Value.int IntKind.u64 0, Value.int IntKind.u64 0, Value.int IntKind.u64 0, Value.int IntKind.u64 0, Value.int IntKind.u64 0, Value.int IntKind.u64 0, Value.int IntKind.u64 0, Value.int IntKind.u64 0, Value.int IntKind.u64 0, Value.int IntKind.u64 0, Value.int IntKind.u64 0, Value.int IntKind.u64 0, Value.int IntKind.u64 0, Value.int IntKind.u64 0, Value.int IntKind.u64 0, Value.int IntKind.u64 0, Value.int IntKind.u64 0, Value.int IntKind.u64 0, Value.int IntKind.u64 0, Value.int IntKind.u64 0, Value.int IntKind.u64 0, Value.int IntKind.u64 0, Value.int IntKind.u64 0, Value.int IntKind.u64 0, Value.int IntKind.u64 0, Value.int IntKind.u64 0, Value.int IntKind.u64 0] := r103
  clear r2
  replace b21 := b21.grown b101 b21.size (by rintro k ⟨⟩; omega)
  replace r11 := r11.gr b101 (by have := r11.lt; omega)
  replace b8 := b8.grown b101 b8.size (by rintro k ⟨⟩; omega)
  replace q := q.grown b101 q.size (by rintro k ⟨⟩; omega)
  have r2 := r103
  clear r103
  refine LL.nilS ?_
  refine CC.seq ?_
  refine CC.region ?_
  refine LL.val (R.move rfl rfl) rfl rfl rfl ?_
  refine LL.val (R.field rfl rfl (I.fld rfl)) rfl rfl rfl ?_
  refine LL.val (R.load rfl rfl (I.ld1 rfl (RowL.cell r11 rfl))) rfl rfl rfl ?_
  refine LL.val (R.convI rfl rfl rfl rfl hsu) rfl rfl rfl ?_
  refine LL.val (R.index rfl rfl rfl (I.ixS1c rfl rfl (by omega))) rfl rfl rfl ?_
  refine LL.store rfl rfl rfl rfl r2 (by exact Nat.le_of_ble_eq_true rfl) rfl rfl rfl rfl ?_
  intro W160 r161 b159 z162
  have hlb159 := r2.lt
  replace r161 : RowL W160 _ 25 [Value.int IntKind.u64 ↑(7522529147838689024 + l), Value.int IntKind.u64 ↑su, Value.int IntKind.u64 0, Value.int IntKind.u64 0, Value.int IntKind.u64 0, Value.int IntKind.u64 0, Value.int IntKind.u64 0, Value.int IntKind.u64 0, Value.int IntKind.u64 0, Value.int IntKind.u64 0, Value.int IntKind.u64 0, Value.int IntKind.u64 0, Value.int IntKind.u64 0, Value.int IntKind.u64 0, Value.int IntKind.u64 0, Value.int IntKind.u64 0, Value.int IntKind.u64 0, Value.int IntKind.u64 0, Value.int IntKind.u64 0, Value.int IntKind.u64 0, Value.int IntKind.u64 0, Value.int IntKind.u64 0, Value.int IntKind.u64 0, Value.int IntKind.u64 0, Value.int IntKind.u64 0, Value.int IntKind.u64 0, Value.int IntKind.u64 0, Value.int IntKind.u64 0, Value.int IntKind.u64 0, Value.int IntKind.u64 0, Value.int IntKind.u64 0, Value.int IntKind.u64 0, Value.int IntKind.u64 0, Value.int IntKind.u64 0, Value.int IntKind.u64 0, Value.int IntKind.u64 0, Value.int IntKind.u64 0, Value.int IntKind.u64 0, Value.int IntKind.u64 0, Value.int IntKind.u64 0, Value.int IntKind.u64 0, Value.int IntKind.u64 0, Value.int IntKind.u64 0, Value.int IntKind.u64 0, Value.int IntKind.u64 0, Value.int IntKind.u64 0, Value.int IntKind.u64 0, Value.int IntKind.u64 0, Value.int IntKind.u64 0, Value.int IntKind.u64 0, Value.int IntKind.u64 0, Value.int IntKind.u64 0, Value.int IntKind.u64 0, Value.int IntKind.u64 0, Value.int IntKind.u64 0, Value.int IntKind.u64 0, Value.int IntKind.u64 0, Value.int IntKind.u64 0, Value.int IntKind.u64 0, Value.int IntKind.u64 0, Value.int IntKind.u64 0, Value.int IntKind.u64 0, Value.int IntKind.u64 0, Value.int IntKind.u64 0] := r161
  clear r2
  replace b21 := b21.grown b159 b21.size (by rintro k ⟨⟩; omega)
  replace r11 := r11.gr b159 (by have := r11.lt; omega)
  replace b8 := b8.grown b159 b8.size (by rintro k ⟨⟩; omega)
  replace q := q.grown b159 q.size (by rintro k ⟨⟩; omega)
  have r2 := r161
  clear r161
  refine LL.nilS ?_
  refine CC.seq ?_
  refine CC.region ?_
  refine LL.val (R.move rfl rfl) rfl rfl rfl ?_
  refine LL.val (R.field rfl rfl (I.fld rfl)) rfl rfl rfl ?_
  refine LL.val (R.load rfl rfl (I.ld1 rfl (RowL.cell r11 rfl))) rfl rfl rfl ?_
  refine LL.val (R.index rfl rfl rfl (I.ixS1c rfl rfl (by omega))) rfl rfl rfl ?_
  refine LL.store rfl rfl rfl rfl r2 (by exact Nat.le_of_ble_eq_true rfl) rfl rfl rfl rfl ?_
  intro W209 r210 b208 z211
  have hlb208 := r2.lt
  replace r210 : RowL W209 _ 25 [Value.int IntKind.u64 ↑(7522529147838689024 + l), Value.int IntKind.u64 ↑su, Value.int IntKind.u64 ↑lo, Value.int IntKind.u64 0, Value.int IntKind.u64 0, Value.int IntKind.u64 0, Value.int IntKind.u64 0, Value.int IntKind.u64 0, Value.int IntKind.u64 0, Value.int IntKind.u64 0, Value.int IntKind.u64 0, Value.int IntKind.u64 0, Value.int IntKind.u64 0, Value.int IntKind.u64 0, Value.int IntKind.u64 0, Value.int IntKind.u64 0, Value.int IntKind.u64 0, Value.int IntKind.u64 0, Value.int IntKind.u64 0, Value.int IntKind.u64 0, Value.int IntKind.u64 0, Value.int IntKind.u64 0, Value.int IntKind.u64 0, Value.int IntKind.u64 0, Value.int IntKind.u64 0, Value.int IntKind.u64 0, Value.int IntKind.u64 0, Value.int IntKind.u64 0, Value.int IntKind.u64 0, Value.int IntKind.u64 0, Value.int IntKind.u64 0, Value.int IntKind.u64 0, Value.int IntKind.u64 0, Value.int IntKind.u64 0, Value.int IntKind.u64 0, Value.int IntKind.u64 0, Value.int IntKind.u64 0, Value.int IntKind.u64 0, Value.int IntKind.u64 0, Value.int IntKind.u64 0, Value.int IntKind.u64 0, Value.int IntKind.u64 0, Value.int IntKind.u64 0, Value.int IntKind.u64 0, Value.int IntKind.u64 0, Value.int IntKind.u64 0, Value.int IntKind.u64 0, Value.int IntKind.u64 0, Value.int IntKind.u64 0, Value.int IntKind.u64 0, Value.int IntKind.u64 0, Value.int IntKind.u64 0, Value.int IntKind.u64 0, Value.int IntKind.u64 0, Value.int IntKind.u64 0, Value.int IntKind.u64 0, Value.int IntKind.u64 0, Value.int IntKind.u64 0, Value.int IntKind.u64 0, Value.int IntKind.u64 0, Value.int IntKind.u64 0, Value.int IntKind.u64 0, Value.int IntKind.u64 0, Value.int IntKind.u64 0] := r210
  clear r2
  replace b21 := b21.grown b208 b21.size (by rintro k ⟨⟩; omega)
  replace r11 := r11.gr b208 (by have := r11.lt; omega)
  replace b8 := b8.grown b208 b8.size (by rintro k ⟨⟩; omega)
  replace q := q.grown b208 q.size (by rintro k ⟨⟩; omega)
  have r2 := r210
  clear r210
  refine LL.nilS ?_
  refine CC.seq ?_
  refine CC.region ?_
  refine LL.val (R.move rfl rfl) rfl rfl rfl ?_
  refine LL.val (R.field rfl rfl (I.fld rfl)) rfl rfl rfl ?_
  refine LL.val (R.load rfl rfl (I.ld1 rfl (RowL.cell r11 rfl))) rfl rfl rfl ?_
  refine LL.val (R.index rfl rfl rfl (I.ixS1c rfl rfl (by omega))) rfl rfl rfl ?_
  refine LL.store rfl rfl rfl rfl r2 (by exact Nat.le_of_ble_eq_true rfl) rfl rfl rfl rfl ?_
  intro W258 r259 b257 z260
  have hlb257 := r2.lt
  replace r259 : RowL W258 _ 25 [Value.int IntKind.u64 ↑(7522529147838689024 + l), Value.int IntKind.u64 ↑su, Value.int IntKind.u64 ↑lo, Value.int IntKind.u64 ↑le, Value.int IntKind.u64 0, Value.int IntKind.u64 0, Value.int IntKind.u64 0, Value.int IntKind.u64 0, Value.int IntKind.u64 0, Value.int IntKind.u64 0, Value.int IntKind.u64 0, Value.int IntKind.u64 0, Value.int IntKind.u64 0, Value.int IntKind.u64 0, Value.int IntKind.u64 0, Value.int IntKind.u64 0, Value.int IntKind.u64 0, Value.int IntKind.u64 0, Value.int IntKind.u64 0, Value.int IntKind.u64 0, Value.int IntKind.u64 0, Value.int IntKind.u64 0, Value.int IntKind.u64 0, Value.int IntKind.u64 0, Value.int IntKind.u64 0, Value.int IntKind.u64 0, Value.int IntKind.u64 0, Value.int IntKind.u64 0, Value.int IntKind.u64 0, Value.int IntKind.u64 0, Value.int IntKind.u64 0, Value.int IntKind.u64 0, Value.int IntKind.u64 0, Value.int IntKind.u64 0, Value.int IntKind.u64 0, Value.int IntKind.u64 0, Value.int IntKind.u64 0, Value.int IntKind.u64 0, Value.int IntKind.u64 0, Value.int IntKind.u64 0, Value.int IntKind.u64 0, Value.int IntKind.u64 0, Value.int IntKind.u64 0, Value.int IntKind.u64 0, Value.int IntKind.u64 0, Value.int IntKind.u64 0, Value.int IntKind.u64 0, Value.int IntKind.u64 0, Value.int IntKind.u64 0, Value.int IntKind.u64 0, Value.int IntKind.u64 0, Value.int IntKind.u64 0, Value.int IntKind.u64 0, Value.int IntKind.u64 0, Value.int IntKind.u64 0, Value.int IntKind.u64 0, Value.int IntKind.u64 0, Value.int IntKind.u64 0, Value.int IntKind.u64 0, Value.int IntKind.u64 0, Value.int IntKind.u64 0, Value.int IntKind.u64 0, Value.int IntKind.u64 0, Value.int IntKind.u64 0] := r259
  clear r2
  replace b21 := b21.grown b257 b21.size (by rintro k ⟨⟩; omega)
  replace r11 := r11.gr b257 (by have := r11.lt; omega)
  replace b8 := b8.grown b257 b8.size (by rintro k ⟨⟩; omega)
  replace q := q.grown b257 q.size (by rintro k ⟨⟩; omega)
  have r2 := r259
  clear r259
  refine LL.nilS ?_
  refine CC.seq ?_
  refine CC.region ?_
  refine LL.val (R.move rfl rfl) rfl rfl rfl ?_
  refine LL.val (R.field rfl rfl (I.fld rfl)) rfl rfl rfl ?_
  refine LL.val (R.load rfl rfl (I.ld1 rfl (RowL.cell r11 rfl))) rfl rfl rfl ?_
  refine LL.val (R.convI rfl rfl rfl rfl hwu) rfl rfl rfl ?_
  refine LL.val (R.index rfl rfl rfl (I.ixS1c rfl rfl (by omega))) rfl rfl rfl ?_
  refine LL.store rfl rfl rfl rfl r2 (by exact Nat.le_of_ble_eq_true rfl) rfl rfl rfl rfl ?_
  intro W316 r317 b315 z318
  have hlb315 := r2.lt
  replace r317 : RowL W316 _ 25 [Value.int IntKind.u64 ↑(7522529147838689024 + l), Value.int IntKind.u64 ↑su, Value.int IntKind.u64 ↑lo, Value.int IntKind.u64 ↑le, Value.int IntKind.u64 ↑wu, Value.int IntKind.u64 0, Value.int IntKind.u64 0, Value.int IntKind.u64 0, Value.int IntKind.u64 0, Value.int IntKind.u64 0, Value.int IntKind.u64 0, Value.int IntKind.u64 0, Value.int IntKind.u64 0, Value.int IntKind.u64 0, Value.int IntKind.u64 0, Value.int IntKind.u64 0, Value.int IntKind.u64 0, Value.int IntKind.u64 0, Value.int IntKind.u64 0, Value.int IntKind.u64 0, Value.int IntKind.u64 0, Value.int IntKind.u64 0, Value.int IntKind.u64 0, Value.int IntKind.u64 0, Value.int IntKind.u64 0, Value.int IntKind.u64 0, Value.int IntKind.u64 0, Value.int IntKind.u64 0, Value.int IntKind.u64 0, Value.int IntKind.u64 0, Value.int IntKind.u64 0, Value.int IntKind.u64 0, Value.int IntKind.u64 0, Value.int IntKind.u64 0, Value.int IntKind.u64 0, Value.int IntKind.u64 0, Value.int IntKind.u64 0, Value.int IntKind.u64 0, Value.int IntKind.u64 0, Value.int IntKind.u64 0, Value.int IntKind.u64 0, Value.int IntKind.u64 0, Value.int IntKind.u64 0, Value.int IntKind.u64 0, Value.int IntKind.u64 0, Value.int IntKind.u64 0, Value.int IntKind.u64 0, Value.int IntKind.u64 0, Value.int IntKind.u64 0, Value.int IntKind.u64 0, Value.int IntKind.u64 0, Value.int IntKind.u64 0, Value.int IntKind.u64 0, Value.int IntKind.u64 0, Value.int IntKind.u64 0, Value.int IntKind.u64 0, Value.int IntKind.u64 0, Value.int IntKind.u64 0, Value.int IntKind.u64 0, Value.int IntKind.u64 0, Value.int IntKind.u64 0, Value.int IntKind.u64 0, Value.int IntKind.u64 0, Value.int IntKind.u64 0] := r317
  clear r2
  replace b21 := b21.grown b315 b21.size (by rintro k ⟨⟩; omega)
  replace r11 := r11.gr b315 (by have := r11.lt; omega)
  replace b8 := b8.grown b315 b8.size (by rintro k ⟨⟩; omega)
  replace q := q.grown b315 q.size (by rintro k ⟨⟩; omega)
  have r2 := r317
  clear r317
  refine LL.nilS ?_
  refine CC.seq ?_
  refine CC.seq ?_
  refine CC.region ?_
  refine LL.val (R.field rfl rfl (I.fld rfl)) rfl rfl rfl ?_
  refine LL.val (R.load rfl rfl (I.ld1 rfl (RowL.cell r11 rfl))) rfl rfl rfl ?_
  refine LL.val (R.len rfl rfl rfl rfl) rfl rfl rfl ?_
  refine LL.val (R.move rfl rfl) rfl rfl rfl ?_
  refine LL.nilS ?_
  refine CC.block ?_
  have r3 : RowL W316 g2 25 (ints .u64 (layW (layH (7522529147838689024 + l) su lo le wu) (ps.take 0))) := r2
  have lg2 := r2.lt
  clear r2
  refine CC.loop (α := Nat) (fun i => [(3, .slice (some ⟨g2, 0, none⟩) 64 64), (32, .slice a N c), (33, .int .i64 (N : Int)), (34, .int .i64 (i : Int))]) (fun i W => i ≤ N ∧ Below w.heap.size w W ∧ RowL W g2 25 (ints .u64 (layW (layH (7522529147838689024 + l) su lo le wu) (ps.take i)))) (fun i => N - i) 0 ⟨rfl, rfl, rfl, rfl, trivial⟩ ⟨Nat.zero_le _, q, r3⟩ ?_
  clear q r3 hor hsu hwu hwl
  rintro i W ⟨hi, q, r2⟩
  show CC none Try.prog _ 56 [] (sl [(3, .slice (some ⟨g2, 0, none⟩) 64 64), (32, .slice a N c), (33, .int .i64 (N : Int)), (34, .int .i64 (i : Int))]) _ W
  by_cases hlt : i < N
  case neg =>
    obtain rfl : i = N := by omega
    have e : ps.take i = ps := List.take_of_length_le (by omega)
    rw [e] at r2
    refine CC.seq ?_
    refine CC.region ?_
    refine LL.val (R.ltF rfl rfl rfl (by omega)) rfl rfl rfl ?_
    refine LL.nilS ?_
    refine CC.seq ?_
    refine CC.no rfl ?_
    refine CC.exit ?_
    refine EE.thenX ?_
    refine EE.thenX ?_
    refine EE.inX ?_
    refine EE.thenN ?_
    refine CC.seq ?_
    refine CC.region ?_
    refine LL.val (R.move rfl rfl) rfl rfl rfl ?_
    refine LL.val (R.assign rfl rfl) rfl rfl rfl ?_
    refine LL.nilS ?_
    refine CC.ret ?_
    refine EE.ret _ rfl rfl ?_
    exact ⟨_, rfl, r2, by omega, q⟩
  obtain ⟨⟨k1, p1⟩, hx⟩ : ∃ x, ps[i]? = some x := ⟨_, List.getElem?_eq_getElem (by omega)⟩
  have rd := hF _ q
  obtain ⟨b1, o1, rfl, _, _⟩ := rd.get prEnc hx
  have m1 : CellsN W ⟨b1, o1 + i * 2, none⟩ 2 [.int .u64 (k1 : Int), .int .u64 (p1 : Int)] := rd.elemN prEnc hx
  have hlen : (layW (layH (7522529147838689024 + l) su lo le wu) (ps.take i)).length = 64 := layW_len rfl (by rw [List.length_take]; omega)
  have hst := layW_set (h := layH (7522529147838689024 + l) su lo le wu) rfl (by omega) hx
  obtain ⟨X, hX⟩ : ∃ X, layW (layH (7522529147838689024 + l) su lo le wu) (ps.take i) = X := ⟨_, rfl⟩
  rw [hX] at r2 hlen hst
  clear rd
  refine CC.seq ?_
  refine CC.region ?_
  refine LL.val (R.ltT rfl rfl rfl (by omega)) rfl rfl rfl ?_
  refine LL.nilS ?_
  refine CC.seq ?_
  refine CC.yes rfl ?_
  refine CC.skip ?_
  refine EE.thenN ?_
  refine CC.seq ?_
  refine CC.block ?_
  refine CC.seq ?_
  refine CC.region ?_
  refine LL.val (R.move rfl rfl) rfl rfl rfl ?_
  refine LL.val (R.index rfl rfl rfl (I.ixS rfl (by omega))) rfl rfl rfl ?_
  refine LL.val (R.load rfl rfl (I.ldNc (by assumption) rfl rfl)) rfl rfl rfl ?_
  have lb71 := r2.lt
  refine LL.alloc ([Value.int IntKind.u64 0, Value.int IntKind.u64 0]) rfl rfl rfl rfl rfl ?_
  intro Wb73 gb74 egb74 rb75 zb76 bb72
  replace q := q.trans (bb72.mono q.size)
  replace m1 := m1.up bb72
  replace r2 := r2.up bb72
  refine LL.val (R.assign rfl rfl) rfl rfl rfl ?_
  refine LL.storeN (vs := [Value.int IntKind.u64 ↑k1, Value.int IntKind.u64 ↑p1]) rfl rfl rfl rfl rb75 (by exact Nat.le_of_ble_eq_true rfl) (ones_of rfl) rfl rfl ?_
  intro Wb106 rb107 bb105 zb108
  have hlbb105 := rb75.lt
  replace rb107 : RowL Wb106 _ 46 [Value.int IntKind.u64 ↑k1, Value.int IntKind.u64 ↑p1] := rb107
  clear rb75
  replace bb72 := bb72.grown bb105 bb72.size (by rintro k ⟨⟩; omega)
  replace q := q.grown bb105 q.size (by rintro k ⟨⟩; omega)
  replace m1 := m1.gr bb105 (by have := m1.lt; omega)
  replace r2 := r2.gr bb105 (by have := r2.lt; omega)
  have rb75 := rb107
  clear rb107
  refine LL.nilS ?_
  refine CC.freeZ (fun W_ j => j < W_.heap.size ∧ (j ≠ g2)) (by kernel_rfl) (by kernel_rfl) (fun Wb110 bb109 zb111 => ?_)
  replace bb72 := bb72.trans (bb109.mono bb72.size)
  replace q := q.trans (bb109.mono q.size)
  replace m1 := m1.up bb109
  replace r2 := r2.up bb109
  replace rb75 := rb75.up bb109
  have hok : Kept (fun j => j < Wb110.heap.size ∧ (j ≠ g2)) Wb110 Wb110 := Kept.refl _ _
  have fzrb75 := fzRow (K := fun j => j < Wb110.heap.size ∧ (j ≠ g2)) rb75 ⟨rb75.lt, (by first | trivial | omega)⟩
  refine AA.pure 0 rfl hok (by kernel_rfl) (fun w' b' => R.move rfl rfl) rfl rfl ?_
  refine AA.pure 1 rfl hok (by kernel_rfl) (fun w' b' => R.move rfl rfl) rfl rfl ?_
  refine AA.pure 2 rfl hok (by kernel_rfl) (fun w' b' => R.mulcN rfl rfl rfl rfl (by omega)) rfl rfl ?_
  refine AA.pure 3 rfl hok (by kernel_rfl) (fun w' b' => R.addI rfl rfl rfl (by omega)) rfl rfl ?_
  refine AA.pure 4 rfl hok (by kernel_rfl) (fun w' b' => R.move rfl rfl) rfl rfl ?_
  refine AA.pure 5 rfl hok (by kernel_rfl) (fun w' b' => R.move rfl rfl) rfl rfl ?_
  refine AA.pure 6 rfl hok (by kernel_rfl) (fun w' b' => R.mulcN rfl rfl rfl rfl (by omega)) rfl rfl ?_
  refine AA.pure 7 rfl hok (by kernel_rfl) (fun w' b' => R.addI rfl rfl rfl (by omega)) rfl rfl ?_
  refine AA.pure 8 rfl hok (by kernel_rfl) (fun w' b' => R.addI rfl rfl rfl (by omega)) rfl rfl ?_
  refine AA.pure 9 rfl hok (by kernel_rfl) (fun w' b' => R.field rfl rfl (I.fld rfl)) rfl rfl ?_
  refine AA.pure 10 rfl hok (by kernel_rfl) (fun w' b' => R.load rfl rfl (I.ld1 rfl (RowL.cell (fzrb75 w' b') rfl))) rfl rfl ?_
  refine AA.pure 11 rfl hok (by kernel_rfl) (fun w' b' => R.field rfl rfl (I.fld rfl)) rfl rfl ?_
  refine AA.pure 12 rfl hok (by kernel_rfl) (fun w' b' => R.load rfl rfl (I.ld1 rfl (RowL.cell (fzrb75 w' b') rfl))) rfl rfl ?_
  refine AA.one 13 (by kernel_rfl) ?_
  (refine SR.val rfl (R.index rfl rfl rfl (I.ixS1 (i := 8 + 2 * i) rfl (by omega))) rfl rfl hok ?_)
  refine AA.one 14 (by kernel_rfl) ?_
  (refine ZR.store (off := 0 + (8 + 2 * i)) rfl rfl rfl rfl rfl r2 (by simp [ints]; omega) rfl rfl rfl rfl ?_; intro Wb115 r9 grb113 zz9; rw [Nat.zero_add, ints_set] at r9; clear r2)
  have zgrb113 := grb113.size
  replace q := q.grown grb113 q.size (by rintro k ⟨⟩; omega)
  replace rb75 := rb75.gr grb113 (by have := rb75.lt; omega)
  replace hok := hok.trans (grown_kept grb113 (fun j h => by have := h.1; have := hok.size; omega) (fun j h e => by cases e; have h2 := h.1; have h3 := h.2; omega))
  refine ⟨hok, ?_⟩
  refine AA.one 15 (by kernel_rfl) ?_
  (refine SR.val rfl (R.index rfl rfl rfl (I.ixS1 (i := 8 + 2 * i + 1) rfl (by omega))) rfl rfl hok ?_)
  refine AA.one 16 (by kernel_rfl) ?_
  (refine ZR.store (off := 0 + (8 + 2 * i + 1)) rfl rfl rfl rfl rfl r9 (by simp [ints]; omega) rfl rfl rfl rfl ?_; intro Wb129 r2 grb127 zz8; rw [Nat.zero_add, ints_set, hst] at r2; clear r9)
  have zgrb127 := grb127.size
  replace q := q.grown grb127 q.size (by rintro k ⟨⟩; omega)
  replace rb75 := rb75.gr grb127 (by have := rb75.lt; omega)
  replace hok := hok.trans (grown_kept grb127 (fun j h => by have := h.1; have := hok.size; omega) (fun j h e => by cases e; have h2 := h.1; have h3 := h.2; omega))
  refine ⟨hok, ?_⟩
  refine AA.done rfl ?_
  clear fzrb75 hok
  refine EE.inN ?_
  refine EE.thenN ?_
  refine CC.region ?_
  refine LL.val (R.addNc rfl rfl rfl rfl (by omega)) rfl rfl rfl ?_
  refine LL.val (R.move rfl rfl) rfl rfl rfl ?_
  refine LL.nil ?_
  exact EE.round (i + 1) ⟨rfl, rfl, rfl, rfl, trivial⟩ ⟨by show i + 1 ≤ N; omega, q, r2⟩ (by show N - (i + 1) < N - i; omega)
end Go.Proofs.Ytfplilpefhhpnaa
/- node: Make, upper (written by gennd6.py). -/
namespace Go.Proofs.Ytfplilpefhhpnaa
set_option linter.unusedVariables false
set_option linter.unusedSimpArgs false
open Go.RowKit Go.Shelf
set_option maxRecDepth 100000
set_option maxHeartbeats 8000000
theorem layW_lt {h : List Nat} {ps : List Pr} (hh : ∀ x ∈ h, x < 18446744073709551616) (hp : ∀ p ∈ ps, p.1 < 18446744073709551616 ∧ p.2 < 18446744073709551616) : ∀ x ∈ layW h ps, x < 18446744073709551616 := by
  intro x hx
  unfold layW flP at hx
  rw [List.mem_append, List.mem_append, List.mem_flatMap] at hx
  rcases hx with (hx | ⟨p, h1, h2⟩) | hx
  · exact hh x hx
  · have := hp p h1
    simp only [List.mem_cons, List.not_mem_nil, or_false] at h2
    rcases h2 with rfl | rfl
    · exact this.1
    · exact this.2
  · rw [(List.mem_replicate.1 hx).2]
    decide
theorem wrap_lt {s : Int} {u : Nat} (h : IntKind.u64.wrap s = (u : Int)) : u < 18446744073709551616 := by
  rw [IntKind.wrap_u64] at h
  omega
theorem row_uE {w : World} {g n : Nat} {ws : List Nat} (r : RowL w g 25 (ints .u64 ws)) (hn : ws.length = n) : ReadsT uE 1 w (.slice (some ⟨g, 0, none⟩) n n) ws := reads_uE (RowL.asInts r .u64 ws rfl hn)
section
variable (l : Nat) (s : Int) (su lo le : Nat) (wy : Int) (wu : Nat) (ps : List Pr) (pv : Value) (w : World) (hv : ReadsT prE 2 w pv ps) (hl : l ≤ 12) (hn : ps.length ≤ 27) (hsu : IntKind.u64.wrap s = (su : Int)) (hwu : IntKind.u64.wrap wy = (wu : Int)) (hlo : lo < 18446744073709551616) (hle : le < 18446744073709551616) (hpl : ∀ p ∈ ps, p.1 < 18446744073709551616 ∧ p.2 < 18446744073709551616)
include hv hl hn hsu hwu hlo hle hpl
theorem make_yes (hS : nodeS (layW (layH (7522529147838689024 + l) su lo le wu) ps)) (hR : (readF le ((layW (layH (7522529147838689024 + l) su lo le wu) ps).drop 8)).length = ps.length) : Calls Try.prog 25 #[nodeV (l : Int) s lo le wy pv] w fun e w' => (∃ g, e = .returned (.tuple #[.slice (some ⟨g, 0, none⟩) 64 64, .int .i64 0]) ∧ RowL w' g 25 (ints .u64 (layW (layH (7522529147838689024 + l) su lo le wu) ps)) ∧ w.heap.size ≤ g) ∧ Below w.heap.size w w' := by
  have q := Below.refl w.heap.size w
  obtain ⟨N, hN⟩ : ∃ N, ps.length = N := ⟨_, rfl⟩
  obtain ⟨a, c, rfl, hc⟩ := hv.form hN
  have hlay := fun W (b : Below w.heap.size w W) => lay_any l s su lo le wy wu ps (.slice a N c) W (hv.up b) hl (by omega) hsu hwu
  have hb : ∀ x ∈ layW (layH (7522529147838689024 + l) su lo le wu) ps, x < 18446744073709551616 := layW_lt (by
    have := wrap_lt hsu
    have := wrap_lt hwu
    intro x hx
    simp only [List.mem_cons, List.not_mem_nil, or_false] at hx
    rcases hx with rfl | rfl | rfl | rfl | rfl | rfl | rfl | rfl <;> omega) hpl
  have hlen : (layW (layH (7522529147838689024 + l) su lo le wu) ps).length = 64 := layW_len rfl (by omega)
  have hg3 : gw (layW (layH (7522529147838689024 + l) su lo le wu) ps) 3 = le := rfl
  rw [hN] at hn hR
  clear hv hsu hwu hpl
  obtain ⟨Y, hX⟩ : ∃ Y, layW (layH (7522529147838689024 + l) su lo le wu) ps = Y := ⟨_, rfl⟩
  rw [hX] at hlay hb hlen hg3 hS hR ⊢
  have hset := fun W g (r : RowL W g 25 (ints .u64 Y)) => (nsettled_any 64 _ Y W (row_uE r hlen) hlen hb).mono fun e w' h => (⟨h.1 hS, h.2.2.2⟩ : (∃ vo, e = .returned (.tuple #[vwV Y vo (.slice (some ⟨g, 0, none⟩) 64 64), .int .i64 0]) ∧ OwnsT prE 2 w' W.heap.size 46 vo (readF (gw Y 3) (Y.drop 8))) ∧ Below W.heap.size W w')
  rw [hg3] at hset
  refine X.fn Try.func25 rfl (n := 41) rfl rfl ?_
  refine CC.seq ?_
  refine CC.region ?_
  refine LL.box [Value.int IntKind.i64 ↑l, Value.int IntKind.i64 s, Value.int IntKind.u64 ↑lo, Value.int IntKind.u64 ↑le, Value.int IntKind.i64 wy, Value.slice a N c] rfl rfl rfl rfl rfl ?_
  intro W16 g17 eg17 r18 z19 b15
  replace q := q.trans (b15.mono q.size)
  refine LL.val (R.assign rfl rfl) rfl rfl rfl ?_
  refine LL.val (R.assign rfl rfl) rfl rfl rfl ?_
  refine LL.nilS ?_
  refine CC.seq ?_
  refine CC.seq ?_
  refine CC.region ?_
  refine LL.val (R.field rfl rfl (I.fld rfl)) rfl rfl rfl ?_
  refine LL.val (R.load rfl rfl (I.ld1 rfl (RowL.cell r18 rfl))) rfl rfl rfl ?_
  refine LL.val (R.ltF rfl rfl rfl (by omega)) rfl rfl rfl ?_
  refine LL.val (R.move rfl rfl) rfl rfl rfl ?_
  refine LL.val (R.field rfl rfl (I.fld rfl)) rfl rfl rfl ?_
  refine LL.val (R.load rfl rfl (I.ld1 rfl (RowL.cell r18 rfl))) rfl rfl rfl ?_
  refine LL.val (R.gtF rfl rfl rfl (by omega)) rfl rfl rfl ?_
  refine LL.val (R.pick rfl rfl rfl) rfl rfl rfl ?_
  refine LL.val (R.move rfl rfl) rfl rfl rfl ?_
  refine LL.val (R.field rfl rfl (I.fld rfl)) rfl rfl rfl ?_
  refine LL.val (R.load rfl rfl (I.ld1 rfl (RowL.cell r18 rfl))) rfl rfl rfl ?_
  refine LL.val (R.len rfl rfl rfl rfl) rfl rfl rfl ?_
  refine LL.val (R.gtF rfl rfl rfl (by omega)) rfl rfl rfl ?_
  refine LL.val (R.pick rfl rfl rfl) rfl rfl rfl ?_
  refine LL.nilS ?_
  refine CC.no rfl ?_
  refine CC.skip ?_
  refine EE.thenN ?_
  refine CC.seq ?_
  refine CC.region ?_
  refine LL.val (R.load rfl rfl (I.ldNc (vs := [Value.int IntKind.i64 ↑l, Value.int IntKind.i64 s, Value.int IntKind.u64 ↑lo, Value.int IntKind.u64 ↑le, Value.int IntKind.i64 wy, Value.slice a N c]) (RowL.cells r18 rfl) (by rfl) (by rfl))) rfl rfl rfl ?_
  have l296 := r18.lt
  (refine LL.call (R.call rfl rfl rfl) rfl rfl rfl (hlay _ q) ?_; rintro e W295 ⟨g7, rfl, r7, hg7, b292⟩; refine ⟨_, rfl, ?_⟩)
  have zb292 := b292.size
  replace r18 := r18.up b292
  replace b15 := b15.trans (b292.mono b15.size)
  replace q := q.trans (b292.mono q.size)
  refine LL.val (R.assign rfl rfl) rfl rfl rfl ?_
  refine LL.nilS ?_
  refine CC.seq ?_
  refine CC.region ?_
  refine LL.val (R.move rfl rfl) rfl rfl rfl ?_
  have l349 := r7.lt
  have l350 := r18.lt
  (refine LL.call (R.call rfl rfl rfl) rfl rfl rfl (hset _ _ r7) ?_; rintro e W348 ⟨⟨vo, rfl, oo⟩, b345⟩; refine ⟨_, rfl, ?_⟩; obtain ⟨av, cv, rfl, hcv⟩ := (oo.reads prEnc).form hR; clear oo)
  have zb345 := b345.size
  replace r7 := r7.up b345
  replace b292 := b292.trans (b345.mono b292.size)
  replace r18 := r18.up b345
  replace b15 := b15.trans (b345.mono b15.size)
  replace q := q.trans (b345.mono q.size)
  refine LL.val (R.move rfl rfl) rfl rfl rfl ?_
  refine LL.val (R.extract rfl rfl rfl) rfl rfl rfl ?_
  refine LL.val (R.extract rfl rfl rfl) rfl rfl rfl ?_
  have l426 := r7.lt
  have l427 := r18.lt
  refine LL.alloc ([Value.int IntKind.i64 0, Value.int IntKind.i64 0, Value.int IntKind.u64 0, Value.int IntKind.u64 0, Value.int IntKind.i64 0, Value.slice none 0 0, Value.slice none 0 0]) rfl rfl rfl rfl rfl ?_
  intro W429 g430 eg430 r431 z432 b428
  replace b345 := b345.trans (b428.mono b345.size)
  replace r7 := r7.up b428
  replace b292 := b292.trans (b428.mono b292.size)
  replace r18 := r18.up b428
  replace b15 := b15.trans (b428.mono b15.size)
  replace q := q.trans (b428.mono q.size)
  refine LL.storeN (vs := [Value.int IntKind.i64 ↑(gw Y 0 % 256), Value.int IntKind.i64 ↑(gw Y 1), Value.int IntKind.u64 ↑(gw Y 2), Value.int IntKind.u64 ↑(gw Y 3), Value.int IntKind.i64 ↑(gw Y 4), Value.slice av N cv, Value.slice (some { block := g7, off := 0 }) 64 64]) rfl rfl rfl rfl r431 (by exact Nat.le_of_ble_eq_true rfl) (ones_of rfl) rfl rfl ?_
  intro W454 r455 b453 z456
  have hlb453 := r431.lt
  replace r455 : RowL W454 _ 70 [Value.int IntKind.i64 ↑(gw Y 0 % 256), Value.int IntKind.i64 ↑(gw Y 1), Value.int IntKind.u64 ↑(gw Y 2), Value.int IntKind.u64 ↑(gw Y 3), Value.int IntKind.i64 ↑(gw Y 4), Value.slice av N cv, Value.slice (some { block := g7, off := 0 }) 64 64] := r455
  clear r431
  replace b428 := b428.grown b453 b428.size (by rintro k ⟨⟩; omega)
  replace b345 := b345.grown b453 b345.size (by rintro k ⟨⟩; omega)
  replace r7 := r7.gr b453 (by have := r7.lt; omega)
  replace b292 := b292.grown b453 b292.size (by rintro k ⟨⟩; omega)
  replace r18 := r18.gr b453 (by have := r18.lt; omega)
  replace b15 := b15.grown b453 b15.size (by rintro k ⟨⟩; omega)
  replace q := q.grown b453 q.size (by rintro k ⟨⟩; omega)
  have r431 := r455
  clear r455
  refine LL.val (R.assign rfl rfl) rfl rfl rfl ?_
  refine LL.nilS ?_
  refine CC.seq ?_
  refine CC.seq ?_
  refine CC.region ?_
  refine LL.val (R.move rfl rfl) rfl rfl rfl ?_
  refine LL.val (R.neF rfl rfl rfl (by omega)) rfl rfl rfl ?_
  refine LL.val (R.move rfl rfl) rfl rfl rfl ?_
  refine LL.val (R.field rfl rfl (I.fld rfl)) rfl rfl rfl ?_
  refine LL.val (R.field rfl rfl (I.fld rfl)) rfl rfl rfl ?_
  refine LL.val (R.load rfl rfl (I.ld1 rfl (RowL.cell r431 rfl))) rfl rfl rfl ?_
  refine LL.val (R.len rfl rfl rfl rfl) rfl rfl rfl ?_
  refine LL.val (R.field rfl rfl (I.fld rfl)) rfl rfl rfl ?_
  refine LL.val (R.load rfl rfl (I.ld1 rfl (RowL.cell r18 rfl))) rfl rfl rfl ?_
  refine LL.val (R.len rfl rfl rfl rfl) rfl rfl rfl ?_
  refine LL.val (R.neF rfl rfl rfl (by omega)) rfl rfl rfl ?_
  refine LL.val (R.pick rfl rfl rfl) rfl rfl rfl ?_
  refine LL.nilS ?_
  refine CC.no rfl ?_
  refine CC.skip ?_
  refine EE.thenN ?_
  refine CC.seq ?_
  refine CC.region ?_
  refine LL.val (R.move rfl rfl) rfl rfl rfl ?_
  refine LL.val (R.assign rfl rfl) rfl rfl rfl ?_
  refine LL.val (R.assign rfl rfl) rfl rfl rfl ?_
  refine LL.nilS ?_
  refine CC.ret ?_
  refine EE.ret _ rfl rfl ?_
  exact ⟨⟨_, rfl, by assumption, by omega⟩, q⟩
end
end Go.Proofs.Ytfplilpefhhpnaa
/- node: upper (written by gennd7.py). -/
namespace Go.Proofs.Ytfplilpefhhpnaa
set_option linter.unusedVariables false
set_option linter.unusedSimpArgs false
open Go.RowKit Go.Shelf
set_option maxRecDepth 100000
set_option maxHeartbeats 8000000
section
variable {P : Program} {T e : TypeId} {k : Nat} {w : World}
/-- A slice from one on, as ReadsT.from says it. -/
theorem I.slFromG {a : Option Addr} {len cap lo : Nat} (h : slB P T = some (e, k)) (h1 : lo ≤ len) : (Instr.sliceAt T (.slice a len cap) (some (.int .i64 (lo : Int))) none none).run P w = .ok (.slice (if cap = lo then a else a.map fun p => p.add (lo * k)) (len - lo) (cap - lo)) w := by
  refine slAt_sl h ?_
  obtain ⟨hu, hs⟩ := sl_of h
  obtain ⟨i, hi', hsz⟩ : ∃ i, P.info? e = some i ∧ i.size = k := by
    unfold szB at hs
    cases hq : P.info? e with
    | none => rw [hq] at hs; cases hs
    | some i => rw [hq] at hs; exact ⟨i, rfl, by simpa using hs⟩
  simp [Instr.slice, run_underlying hu, Instr.sliceBounds, run_sliceBound, sizeOf, typeInfo, hi', hsz, (by omega : (lo : Int) ≤ (len : Int))]
theorem I.slFromE {a : Option Addr} {len cap lo : Nat} (h : slB P T = some (e, k)) (h1 : lo ≤ len) (h2 : cap = lo) : (Instr.sliceAt T (.slice a len cap) (some (.int .i64 (lo : Int))) none none).run P w = .ok (.slice a (len - lo) (cap - lo)) w := by
  rw [I.slFromG h h1, if_pos h2]
end
abbrev drV (a : Option Addr) (N c m : Nat) : Value := .slice (if c = m then a else a.map fun p => p.add (m * 2)) (N - m) (c - m)
section
variable (gv : Nat) (l : Nat) (s : Int) (lo le : Nat) (wy : Int) (a : Option Addr) (N c : Nat) (vs : Value) (ps : List Pr) (m k p : Nat) (w : World) (r : RowL w gv 70 (viewL (l : Int) s lo le wy (.slice a N c) vs)) (hv : ReadsT prE 2 w (.slice a N c) ps) (hN : ps.length = N) (hb : N ≤ 1048576) (hx : ps[m]? = some (k, p))
include r hv hN hb hx
theorem upper_leaf (h0 : l = 0) : Calls Try.prog 37 #[.pointer (some ⟨gv, 0, none⟩), .int .i64 (m : Int)] w fun e w' => e = .returned (nodeV (l : Int) s k 9223372036854775808 0 (drV a N c m)) ∧ Below w.heap.size w w' := by
  have q := Below.refl w.heap.size w
  have _hb := hb
  have hm : m < N := by rw [← hN]; exact (List.getElem?_eq_some_iff.1 hx).1
  obtain ⟨a', c', ee, hc⟩ := hv.form hN
  cases ee
  obtain ⟨b1, o1, rfl, _, _⟩ := hv.get prEnc hx
  have c1 : w.cell? ⟨b1, o1 + m * 2, none⟩ = some (.int .u64 (k : Int)) := (hv.elemN prEnc hx).cell (j := 0) rfl
  have e : drV (some ⟨b1, o1, none⟩) N c m = .slice (some ⟨b1, o1 + m * 2, none⟩) (N - m) (c - m) := by
    unfold drV
    rw [if_neg (by omega)]
    simp [Addr.add]
  rw [e]
  clear hv e
  refine X.fn Try.func37 rfl (n := 59) rfl rfl ?_
  refine CC.seq ?_
  refine CC.region ?_
  have l1 := r.lt
  refine LL.alloc ([Value.int IntKind.i64 0, Value.int IntKind.i64 0, Value.int IntKind.u64 0, Value.int IntKind.u64 0, Value.int IntKind.i64 0, Value.slice none 0 0]) rfl rfl rfl rfl rfl ?_
  intro W3 g4 eg4 r5 z6 b2
  replace q := q.trans (b2.mono q.size)
  replace r := r.up b2
  replace c1 := cell_up c1 b2
  refine LL.nilS ?_
  refine CC.seq ?_
  refine CC.freeZ (fun W_ j => j < W_.heap.size ∧ (True)) (by kernel_rfl) (by kernel_rfl) (fun W8 b7 z9 => ?_)
  replace r5 := r5.up b7
  replace b2 := b2.trans (b7.mono b2.size)
  replace q := q.trans (b7.mono q.size)
  replace r := r.up b7
  replace c1 := cell_up c1 b7
  have hok : Kept (fun j => j < W8.heap.size ∧ (True)) W8 W8 := Kept.refl _ _
  have fzr5 := fzRow (K := fun j => j < W8.heap.size ∧ (True)) r5 ⟨r5.lt, (by first | trivial | omega)⟩
  have fzr := fzRow (K := fun j => j < W8.heap.size ∧ (True)) r ⟨r.lt, (by first | trivial | omega)⟩
  have fzc1 := fzCell (K := fun j => j < W8.heap.size ∧ (True)) c1 ⟨World.block_lt_of_cell? _ _ c1, (by first | trivial | omega)⟩
  refine AA.pure 0 rfl hok (by kernel_rfl) (fun w' b' => R.move rfl rfl) rfl rfl ?_
  refine AA.pure 1 rfl hok (by kernel_rfl) (fun w' b' => R.nil rfl rfl) rfl rfl ?_
  refine AA.pure 2 rfl hok (by kernel_rfl) (fun w' b' => R.field rfl rfl (I.fld rfl)) rfl rfl ?_
  refine AA.pure 3 rfl hok (by kernel_rfl) (fun w' b' => R.field rfl rfl (I.fld rfl)) rfl rfl ?_
  refine AA.pure 4 rfl hok (by kernel_rfl) (fun w' b' => R.load rfl rfl (I.ld1 rfl (RowL.cell (fzr w' b') rfl))) rfl rfl ?_
  refine AA.pure 5 rfl hok (by kernel_rfl) (fun w' b' => R.move rfl rfl) rfl rfl ?_
  refine AA.pure 6 rfl hok (by kernel_rfl) (fun w' b' => R.nil rfl rfl) rfl rfl ?_
  refine AA.pure 7 rfl hok (by kernel_rfl) (fun w' b' => R.field rfl rfl (I.fld rfl)) rfl rfl ?_
  refine AA.pure 8 rfl hok (by kernel_rfl) (fun w' b' => R.field rfl rfl (I.fld rfl)) rfl rfl ?_
  refine AA.pure 9 rfl hok (by kernel_rfl) (fun w' b' => R.load rfl rfl (I.ld1 rfl (RowL.cell (fzr w' b') rfl))) rfl rfl ?_
  refine AA.pure 10 rfl hok (by kernel_rfl) (fun w' b' => R.move rfl rfl) rfl rfl ?_
  refine AA.pure 11 rfl hok (by kernel_rfl) (fun w' b' => R.nil rfl rfl) rfl rfl ?_
  refine AA.pure 12 rfl hok (by kernel_rfl) (fun w' b' => R.field rfl rfl (I.fld rfl)) rfl rfl ?_
  refine AA.pure 13 rfl hok (by kernel_rfl) (fun w' b' => R.field rfl rfl (I.fld rfl)) rfl rfl ?_
  refine AA.pure 14 rfl hok (by kernel_rfl) (fun w' b' => R.load rfl rfl (I.ld1 rfl (RowL.cell (fzr w' b') rfl))) rfl rfl ?_
  refine AA.pure 15 rfl hok (by kernel_rfl) (fun w' b' => R.move rfl rfl) rfl rfl ?_
  refine AA.pure 16 rfl hok (by kernel_rfl) (fun w' b' => R.index rfl rfl rfl (I.ixS rfl (by omega))) rfl rfl ?_
  refine AA.pure 17 rfl hok (by kernel_rfl) (fun w' b' => R.field rfl rfl (I.fld rfl)) rfl rfl ?_
  refine AA.pure 18 rfl hok (by kernel_rfl) (fun w' b' => R.load rfl rfl (I.ld1 rfl (fzc1 w' b'))) rfl rfl ?_
  refine AA.pure 19 rfl hok (by kernel_rfl) (fun w' b' => R.move rfl rfl) rfl rfl ?_
  refine AA.pure 20 rfl hok (by kernel_rfl) (fun w' b' => R.nil rfl rfl) rfl rfl ?_
  refine AA.pure 21 rfl hok (by kernel_rfl) (fun w' b' => R.field rfl rfl (I.fld rfl)) rfl rfl ?_
  refine AA.pure 22 rfl hok (by kernel_rfl) (fun w' b' => R.field rfl rfl (I.fld rfl)) rfl rfl ?_
  refine AA.pure 23 rfl hok (by kernel_rfl) (fun w' b' => R.load rfl rfl (I.ld1 rfl (RowL.cell (fzr w' b') rfl))) rfl rfl ?_
  refine AA.pure 24 rfl hok (by kernel_rfl) (fun w' b' => R.move rfl rfl) rfl rfl ?_
  refine AA.pure 25 rfl hok (by kernel_rfl) (fun w' b' => R.slice rfl rfl rfl rfl rfl (I.slFrom rfl (by omega) (by omega) (by omega))) rfl rfl ?_
  refine AA.pure 26 rfl hok (by kernel_rfl) (fun w' b' => R.buildV rfl rfl (v := .agg #[Value.int IntKind.i64 ↑l, Value.int IntKind.i64 s, Value.int IntKind.u64 ↑k, Value.int IntKind.u64 9223372036854775808, Value.int IntKind.i64 0, Value.slice (some { block := b1, off := o1 + m * (fun x => x.size) Try.prog.types[46] }) (N - m) (c - m)]) (fun _ => by kernel_rfl)) rfl rfl ?_
  refine AA.one 27 (by kernel_rfl) ?_
  have l10 := r5.lt
  have l11 := r.lt
  refine ZR.alloc ([Value.int IntKind.i64 0, Value.int IntKind.i64 0, Value.int IntKind.u64 0, Value.int IntKind.u64 0, Value.int IntKind.i64 0, Value.slice none 0 0]) rfl rfl rfl rfl rfl rfl ?_
  intro W13 g14 eg14 r15 z16 b12
  replace b7 := b7.trans (b12.mono b7.size)
  replace r5 := r5.up b12
  replace b2 := b2.trans (b12.mono b2.size)
  replace q := q.trans (b12.mono q.size)
  replace r := r.up b12
  replace c1 := cell_up c1 b12
  replace hok := hok.trans (bkept b12 (fun j h => by have := h.1; have := hok.size; omega))
  have y17 := hok.size
  refine ⟨hok, ?_⟩
  refine AA.one 28 (by kernel_rfl) ?_
  refine ZR.storeN (vs := [Value.int IntKind.i64 ↑l, Value.int IntKind.i64 s, Value.int IntKind.u64 ↑k, Value.int IntKind.u64 9223372036854775808, Value.int IntKind.i64 0, Value.slice (some { block := b1, off := o1 + m * (fun x => x.size) Try.prog.types[46] }) (N - m) (c - m)]) rfl rfl rfl rfl rfl r15 (by exact Nat.le_of_ble_eq_true rfl) (ones_of rfl) rfl rfl ?_
  intro W19 r20 b18 z21
  have hlb18 := r15.lt
  replace r20 : RowL W19 _ 29 [Value.int IntKind.i64 ↑l, Value.int IntKind.i64 s, Value.int IntKind.u64 ↑k, Value.int IntKind.u64 9223372036854775808, Value.int IntKind.i64 0, Value.slice (some { block := b1, off := o1 + m * (fun x => x.size) Try.prog.types[46] }) (N - m) (c - m)] := r20
  clear r15
  replace b12 := b12.grown b18 b12.size (by rintro k ⟨⟩; omega)
  replace b7 := b7.grown b18 b7.size (by rintro k ⟨⟩; omega)
  replace r5 := r5.gr b18 (by have := r5.lt; omega)
  replace b2 := b2.grown b18 b2.size (by rintro k ⟨⟩; omega)
  replace q := q.grown b18 q.size (by rintro k ⟨⟩; omega)
  replace r := r.gr b18 (by have := r.lt; omega)
  replace c1 := cell_gr c1 b18 (by omega)
  replace hok := hok.trans (grown_kept b18 (fun j h => by have := h.1; have := hok.size; omega) (fun j h e => by cases e; have h2 := h.1; have h3 := h.2; omega))
  have r15 := r20
  clear r20
  refine ⟨hok, ?_⟩
  refine AA.done rfl ?_
  clear fzr5 fzr fzc1 hok
  refine EE.thenN ?_
  refine CC.seq ?_
  refine CC.seq ?_
  refine CC.region ?_
  refine LL.val (R.move rfl rfl) rfl rfl rfl ?_
  refine LL.val (R.nil rfl rfl) rfl rfl rfl ?_
  refine LL.val (R.field rfl rfl (I.fld rfl)) rfl rfl rfl ?_
  refine LL.val (R.field rfl rfl (I.fld rfl)) rfl rfl rfl ?_
  refine LL.val (R.load rfl rfl (I.ld1 rfl (RowL.cell r rfl))) rfl rfl rfl ?_
  refine LL.val (R.gtF rfl rfl rfl (by omega)) rfl rfl rfl ?_
  refine LL.nilS ?_
  refine CC.no rfl ?_
  refine CC.skip ?_
  refine EE.thenN ?_
  refine CC.seq ?_
  refine CC.region ?_
  refine LL.val (R.load rfl rfl (I.ldNc (vs := [Value.int IntKind.i64 ↑l, Value.int IntKind.i64 s, Value.int IntKind.u64 ↑k, Value.int IntKind.u64 9223372036854775808, Value.int IntKind.i64 0, Value.slice (some { block := b1, off := o1 + m * (fun x => x.size) Try.prog.types[46] }) (N - m) (c - m)]) (RowL.cells r15 rfl) (by rfl) (by rfl))) rfl rfl rfl ?_
  refine LL.storeN (vs := [Value.int IntKind.i64 ↑l, Value.int IntKind.i64 s, Value.int IntKind.u64 ↑k, Value.int IntKind.u64 9223372036854775808, Value.int IntKind.i64 0, Value.slice (some { block := b1, off := o1 + m * (fun x => x.size) Try.prog.types[46] }) (N - m) (c - m)]) rfl rfl rfl rfl r5 (by exact Nat.le_of_ble_eq_true rfl) (ones_of rfl) rfl rfl ?_
  intro W23 r24 b22 z25
  have hlb22 := r5.lt
  replace r24 : RowL W23 _ 29 [Value.int IntKind.i64 ↑l, Value.int IntKind.i64 s, Value.int IntKind.u64 ↑k, Value.int IntKind.u64 9223372036854775808, Value.int IntKind.i64 0, Value.slice (some { block := b1, off := o1 + m * (fun x => x.size) Try.prog.types[46] }) (N - m) (c - m)] := r24
  clear r5
  replace b2 := b2.grown b22 b2.size (by rintro k ⟨⟩; omega)
  replace q := q.grown b22 q.size (by rintro k ⟨⟩; omega)
  replace r := r.gr b22 (by have := r.lt; omega)
  replace c1 := cell_gr c1 b22 (by omega)
  replace r15 := r15.gr b22 (by have := r15.lt; omega)
  have r5 := r24
  clear r24
  refine LL.nilS ?_
  refine CC.ret ?_
  refine EE.retC rfl rfl (lvNc (RowL.cells0 (by assumption)) (by rfl) (by rfl)) ?_
  exact ⟨rfl, q⟩
theorem upper_in (h0 : 0 < l) : Calls Try.prog 37 #[.pointer (some ⟨gv, 0, none⟩), .int .i64 (m : Int)] w fun e w' => e = .returned (nodeV (l : Int) s k p 0 (drV a N c (m + 1))) ∧ Below w.heap.size w w' := by
  have q := Below.refl w.heap.size w
  have hm : m < N := by rw [← hN]; exact (List.getElem?_eq_some_iff.1 hx).1
  obtain ⟨a', c', ee, hc⟩ := hv.form hN
  cases ee
  obtain ⟨b1, o1, rfl, _, _⟩ := hv.get prEnc hx
  have c1 : w.cell? ⟨b1, o1 + m * 2, none⟩ = some (.int .u64 (k : Int)) := (hv.elemN prEnc hx).cell (j := 0) rfl
  have c2 : w.cell? ⟨b1, o1 + m * 2 + 1, none⟩ = some (.int .u64 (p : Int)) := (hv.elemN prEnc hx).cell (j := 1) rfl
  by_cases hc1 : c = m + 1
  · have e : drV (some ⟨b1, o1, none⟩) N c (m + 1) = .slice (some ⟨b1, o1, none⟩) (N - (m + 1)) (c - (m + 1)) := by
      unfold drV
      rw [if_pos hc1]
    rw [e]
    clear hv e
    refine X.fn Try.func37 rfl (n := 59) rfl rfl ?_
    refine CC.seq ?_
    refine CC.region ?_
    have l1 := r.lt
    refine LL.alloc ([Value.int IntKind.i64 0, Value.int IntKind.i64 0, Value.int IntKind.u64 0, Value.int IntKind.u64 0, Value.int IntKind.i64 0, Value.slice none 0 0]) rfl rfl rfl rfl rfl ?_
    intro W3 g4 eg4 r5 z6 b2
    replace q := q.trans (b2.mono q.size)
    replace r := r.up b2
    replace c1 := cell_up c1 b2
    replace c2 := cell_up c2 b2
    refine LL.nilS ?_
    refine CC.seq ?_
    refine CC.freeZ (fun W_ j => j < W_.heap.size ∧ (True)) (by kernel_rfl) (by kernel_rfl) (fun W8 b7 z9 => ?_)
    replace r5 := r5.up b7
    replace b2 := b2.trans (b7.mono b2.size)
    replace q := q.trans (b7.mono q.size)
    replace r := r.up b7
    replace c1 := cell_up c1 b7
    replace c2 := cell_up c2 b7
    have hok : Kept (fun j => j < W8.heap.size ∧ (True)) W8 W8 := Kept.refl _ _
    have fzr5 := fzRow (K := fun j => j < W8.heap.size ∧ (True)) r5 ⟨r5.lt, (by first | trivial | omega)⟩
    have fzr := fzRow (K := fun j => j < W8.heap.size ∧ (True)) r ⟨r.lt, (by first | trivial | omega)⟩
    have fzc1 := fzCell (K := fun j => j < W8.heap.size ∧ (True)) c1 ⟨World.block_lt_of_cell? _ _ c1, (by first | trivial | omega)⟩
    have fzc2 := fzCell (K := fun j => j < W8.heap.size ∧ (True)) c2 ⟨World.block_lt_of_cell? _ _ c2, (by first | trivial | omega)⟩
    refine AA.pure 0 rfl hok (by kernel_rfl) (fun w' b' => R.move rfl rfl) rfl rfl ?_
    refine AA.pure 1 rfl hok (by kernel_rfl) (fun w' b' => R.nil rfl rfl) rfl rfl ?_
    refine AA.pure 2 rfl hok (by kernel_rfl) (fun w' b' => R.field rfl rfl (I.fld rfl)) rfl rfl ?_
    refine AA.pure 3 rfl hok (by kernel_rfl) (fun w' b' => R.field rfl rfl (I.fld rfl)) rfl rfl ?_
    refine AA.pure 4 rfl hok (by kernel_rfl) (fun w' b' => R.load rfl rfl (I.ld1 rfl (RowL.cell (fzr w' b') rfl))) rfl rfl ?_
    refine AA.pure 5 rfl hok (by kernel_rfl) (fun w' b' => R.move rfl rfl) rfl rfl ?_
    refine AA.pure 6 rfl hok (by kernel_rfl) (fun w' b' => R.nil rfl rfl) rfl rfl ?_
    refine AA.pure 7 rfl hok (by kernel_rfl) (fun w' b' => R.field rfl rfl (I.fld rfl)) rfl rfl ?_
    refine AA.pure 8 rfl hok (by kernel_rfl) (fun w' b' => R.field rfl rfl (I.fld rfl)) rfl rfl ?_
    refine AA.pure 9 rfl hok (by kernel_rfl) (fun w' b' => R.load rfl rfl (I.ld1 rfl (RowL.cell (fzr w' b') rfl))) rfl rfl ?_
    refine AA.pure 10 rfl hok (by kernel_rfl) (fun w' b' => R.move rfl rfl) rfl rfl ?_
    refine AA.pure 11 rfl hok (by kernel_rfl) (fun w' b' => R.nil rfl rfl) rfl rfl ?_
    refine AA.pure 12 rfl hok (by kernel_rfl) (fun w' b' => R.field rfl rfl (I.fld rfl)) rfl rfl ?_
    refine AA.pure 13 rfl hok (by kernel_rfl) (fun w' b' => R.field rfl rfl (I.fld rfl)) rfl rfl ?_
    refine AA.pure 14 rfl hok (by kernel_rfl) (fun w' b' => R.load rfl rfl (I.ld1 rfl (RowL.cell (fzr w' b') rfl))) rfl rfl ?_
    refine AA.pure 15 rfl hok (by kernel_rfl) (fun w' b' => R.move rfl rfl) rfl rfl ?_
    refine AA.pure 16 rfl hok (by kernel_rfl) (fun w' b' => R.index rfl rfl rfl (I.ixS rfl (by omega))) rfl rfl ?_
    refine AA.pure 17 rfl hok (by kernel_rfl) (fun w' b' => R.field rfl rfl (I.fld rfl)) rfl rfl ?_
    refine AA.pure 18 rfl hok (by kernel_rfl) (fun w' b' => R.load rfl rfl (I.ld1 rfl (fzc1 w' b'))) rfl rfl ?_
    refine AA.pure 19 rfl hok (by kernel_rfl) (fun w' b' => R.move rfl rfl) rfl rfl ?_
    refine AA.pure 20 rfl hok (by kernel_rfl) (fun w' b' => R.nil rfl rfl) rfl rfl ?_
    refine AA.pure 21 rfl hok (by kernel_rfl) (fun w' b' => R.field rfl rfl (I.fld rfl)) rfl rfl ?_
    refine AA.pure 22 rfl hok (by kernel_rfl) (fun w' b' => R.field rfl rfl (I.fld rfl)) rfl rfl ?_
    refine AA.pure 23 rfl hok (by kernel_rfl) (fun w' b' => R.load rfl rfl (I.ld1 rfl (RowL.cell (fzr w' b') rfl))) rfl rfl ?_
    refine AA.pure 24 rfl hok (by kernel_rfl) (fun w' b' => R.move rfl rfl) rfl rfl ?_
    refine AA.pure 25 rfl hok (by kernel_rfl) (fun w' b' => R.slice rfl rfl rfl rfl rfl (I.slFrom rfl (by omega) (by omega) (by omega))) rfl rfl ?_
    refine AA.pure 26 rfl hok (by kernel_rfl) (fun w' b' => R.buildV rfl rfl (v := .agg #[Value.int IntKind.i64 ↑l, Value.int IntKind.i64 s, Value.int IntKind.u64 ↑k, Value.int IntKind.u64 9223372036854775808, Value.int IntKind.i64 0, Value.slice (some { block := b1, off := o1 + m * (fun x => x.size) Try.prog.types[46] }) (N - m) (c - m)]) (fun _ => by kernel_rfl)) rfl rfl ?_
    refine AA.one 27 (by kernel_rfl) ?_
    have l10 := r5.lt
    have l11 := r.lt
    refine ZR.alloc ([Value.int IntKind.i64 0, Value.int IntKind.i64 0, Value.int IntKind.u64 0, Value.int IntKind.u64 0, Value.int IntKind.i64 0, Value.slice none 0 0]) rfl rfl rfl rfl rfl rfl ?_
    intro W13 g14 eg14 r15 z16 b12
    replace b7 := b7.trans (b12.mono b7.size)
    replace r5 := r5.up b12
    replace b2 := b2.trans (b12.mono b2.size)
    replace q := q.trans (b12.mono q.size)
    replace r := r.up b12
    replace c1 := cell_up c1 b12
    replace c2 := cell_up c2 b12
    replace hok := hok.trans (bkept b12 (fun j h => by have := h.1; have := hok.size; omega))
    have y17 := hok.size
    refine ⟨hok, ?_⟩
    refine AA.one 28 (by kernel_rfl) ?_
    refine ZR.storeN (vs := [Value.int IntKind.i64 ↑l, Value.int IntKind.i64 s, Value.int IntKind.u64 ↑k, Value.int IntKind.u64 9223372036854775808, Value.int IntKind.i64 0, Value.slice (some { block := b1, off := o1 + m * (fun x => x.size) Try.prog.types[46] }) (N - m) (c - m)]) rfl rfl rfl rfl rfl r15 (by exact Nat.le_of_ble_eq_true rfl) (ones_of rfl) rfl rfl ?_
    intro W19 r20 b18 z21
    have hlb18 := r15.lt
    replace r20 : RowL W19 _ 29 [Value.int IntKind.i64 ↑l, Value.int IntKind.i64 s, Value.int IntKind.u64 ↑k, Value.int IntKind.u64 9223372036854775808, Value.int IntKind.i64 0, Value.slice (some { block := b1, off := o1 + m * (fun x => x.size) Try.prog.types[46] }) (N - m) (c - m)] := r20
    clear r15
    replace b12 := b12.grown b18 b12.size (by rintro k ⟨⟩; omega)
    replace b7 := b7.grown b18 b7.size (by rintro k ⟨⟩; omega)
    replace r5 := r5.gr b18 (by have := r5.lt; omega)
    replace b2 := b2.grown b18 b2.size (by rintro k ⟨⟩; omega)
    replace q := q.grown b18 q.size (by rintro k ⟨⟩; omega)
    replace r := r.gr b18 (by have := r.lt; omega)
    replace c1 := cell_gr c1 b18 (by omega)
    replace c2 := cell_gr c2 b18 (by omega)
    replace hok := hok.trans (grown_kept b18 (fun j h => by have := h.1; have := hok.size; omega) (fun j h e => by cases e; have h2 := h.1; have h3 := h.2; omega))
    have r15 := r20
    clear r20
    refine ⟨hok, ?_⟩
    refine AA.done rfl ?_
    clear fzr5 fzr fzc1 fzc2 hok
    refine EE.thenN ?_
    refine CC.seq ?_
    refine CC.seq ?_
    refine CC.region ?_
    refine LL.val (R.move rfl rfl) rfl rfl rfl ?_
    refine LL.val (R.nil rfl rfl) rfl rfl rfl ?_
    refine LL.val (R.field rfl rfl (I.fld rfl)) rfl rfl rfl ?_
    refine LL.val (R.field rfl rfl (I.fld rfl)) rfl rfl rfl ?_
    refine LL.val (R.load rfl rfl (I.ld1 rfl (RowL.cell r rfl))) rfl rfl rfl ?_
    refine LL.val (R.gtT rfl rfl rfl (by omega)) rfl rfl rfl ?_
    refine LL.nilS ?_
    refine CC.yes rfl ?_
    refine CC.freeZ (fun W_ j => j < W_.heap.size ∧ (j ≠ g14)) (by kernel_rfl) (by kernel_rfl) (fun W36 b35 z37 => ?_)
    replace b12 := b12.trans (b35.mono b12.size)
    replace b7 := b7.trans (b35.mono b7.size)
    replace r5 := r5.up b35
    replace b2 := b2.trans (b35.mono b2.size)
    replace q := q.trans (b35.mono q.size)
    replace r := r.up b35
    replace c1 := cell_up c1 b35
    replace c2 := cell_up c2 b35
    replace r15 := r15.up b35
    have hok : Kept (fun j => j < W36.heap.size ∧ (j ≠ g14)) W36 W36 := Kept.refl _ _
    have fzr5 := fzRow (K := fun j => j < W36.heap.size ∧ (j ≠ g14)) r5 ⟨r5.lt, (by first | trivial | omega)⟩
    have fzr := fzRow (K := fun j => j < W36.heap.size ∧ (j ≠ g14)) r ⟨r.lt, (by first | trivial | omega)⟩
    have fzc1 := fzCell (K := fun j => j < W36.heap.size ∧ (j ≠ g14)) c1 ⟨World.block_lt_of_cell? _ _ c1, (by first | trivial | omega)⟩
    have fzc2 := fzCell (K := fun j => j < W36.heap.size ∧ (j ≠ g14)) c2 ⟨World.block_lt_of_cell? _ _ c2, (by first | trivial | omega)⟩
    refine AA.pure 0 rfl hok (by kernel_rfl) (fun w' b' => R.move rfl rfl) rfl rfl ?_
    refine AA.pure 1 rfl hok (by kernel_rfl) (fun w' b' => R.nil rfl rfl) rfl rfl ?_
    refine AA.pure 2 rfl hok (by kernel_rfl) (fun w' b' => R.field rfl rfl (I.fld rfl)) rfl rfl ?_
    refine AA.pure 3 rfl hok (by kernel_rfl) (fun w' b' => R.field rfl rfl (I.fld rfl)) rfl rfl ?_
    refine AA.pure 4 rfl hok (by kernel_rfl) (fun w' b' => R.load rfl rfl (I.ld1 rfl (RowL.cell (fzr w' b') rfl))) rfl rfl ?_
    refine AA.pure 5 rfl hok (by kernel_rfl) (fun w' b' => R.move rfl rfl) rfl rfl ?_
    refine AA.pure 6 rfl hok (by kernel_rfl) (fun w' b' => R.index rfl rfl rfl (I.ixS rfl (by omega))) rfl rfl ?_
    refine AA.pure 7 rfl hok (by kernel_rfl) (fun w' b' => R.field rfl rfl (I.fld rfl)) rfl rfl ?_
    refine AA.pure 8 rfl hok (by kernel_rfl) (fun w' b' => R.load rfl rfl (I.ld1 rfl (cell_kept c2 b' (by refine ⟨?_, ?_⟩ <;> omega)))) rfl rfl ?_
    refine AA.pure 9 rfl hok (by kernel_rfl) (fun w' b' => R.move rfl rfl) rfl rfl ?_
    refine AA.pure 10 rfl hok (by kernel_rfl) (fun w' b' => R.nil rfl rfl) rfl rfl ?_
    refine AA.pure 11 rfl hok (by kernel_rfl) (fun w' b' => R.field rfl rfl (I.fld rfl)) rfl rfl ?_
    refine AA.pure 12 rfl hok (by kernel_rfl) (fun w' b' => R.field rfl rfl (I.fld rfl)) rfl rfl ?_
    refine AA.pure 13 rfl hok (by kernel_rfl) (fun w' b' => R.load rfl rfl (I.ld1 rfl (RowL.cell (fzr w' b') rfl))) rfl rfl ?_
    refine AA.pure 14 rfl hok (by kernel_rfl) (fun w' b' => R.move rfl rfl) rfl rfl ?_
    refine AA.pure 15 rfl hok (by kernel_rfl) (fun w' b' => R.addNc rfl rfl rfl rfl (by omega)) rfl rfl ?_
    refine AA.pure 17 rfl hok (by kernel_rfl) (fun w' b' => R.field rfl rfl (I.fld rfl)) rfl rfl ?_
    refine AA.two 16 18 (by kernel_rfl) ?_ ?_
    (refine SR.val rfl (R.slice rfl rfl rfl rfl rfl (I.slFromE (lo := m + 1) rfl (by omega) (by omega))) rfl rfl hok ?_)
    refine AA.one 18 (by kernel_rfl) ?_
    refine ZR.store rfl rfl rfl rfl rfl r15 (by exact Nat.le_of_ble_eq_true rfl) rfl rfl rfl rfl ?_
    intro W39 r40 b38 z41
    have hlb38 := r15.lt
    replace r40 : RowL W39 _ 29 [Value.int IntKind.i64 ↑l, Value.int IntKind.i64 s, Value.int IntKind.u64 ↑k, Value.int IntKind.u64 ↑p, Value.int IntKind.i64 0, Value.slice (some { block := b1, off := o1 + m * (fun x => x.size) Try.prog.types[46] }) (N - m) (c - m)] := r40
    clear r15
    replace b12 := b12.grown b38 b12.size (by rintro k ⟨⟩; omega)
    replace b7 := b7.grown b38 b7.size (by rintro k ⟨⟩; omega)
    replace r5 := r5.gr b38 (by have := r5.lt; omega)
    replace b2 := b2.grown b38 b2.size (by rintro k ⟨⟩; omega)
    replace q := q.grown b38 q.size (by rintro k ⟨⟩; omega)
    replace r := r.gr b38 (by have := r.lt; omega)
    replace c1 := cell_gr c1 b38 (by omega)
    replace c2 := cell_gr c2 b38 (by omega)
    replace hok := hok.trans (grown_kept b38 (fun j h => by have := h.1; have := hok.size; omega) (fun j h e => by cases e; have h2 := h.1; have h3 := h.2; omega))
    have r15 := r40
    clear r40
    refine ⟨hok, ?_⟩
    refine AA.pure 19 rfl hok (by kernel_rfl) (fun w' b' => R.field rfl rfl (I.fld rfl)) rfl rfl ?_
    refine AA.one 20 (by kernel_rfl) ?_
    refine ZR.store rfl rfl rfl rfl rfl r15 (by exact Nat.le_of_ble_eq_true rfl) rfl rfl rfl rfl ?_
    intro W43 r44 b42 z45
    have hlb42 := r15.lt
    replace r44 : RowL W43 _ 29 [Value.int IntKind.i64 ↑l, Value.int IntKind.i64 s, Value.int IntKind.u64 ↑k, Value.int IntKind.u64 ↑p, Value.int IntKind.i64 0, Value.slice (some { block := b1, off := o1 }) (N - (m + 1)) (c - (m + 1))] := r44
    clear r15
    replace b12 := b12.grown b42 b12.size (by rintro k ⟨⟩; omega)
    replace b7 := b7.grown b42 b7.size (by rintro k ⟨⟩; omega)
    replace r5 := r5.gr b42 (by have := r5.lt; omega)
    replace b2 := b2.grown b42 b2.size (by rintro k ⟨⟩; omega)
    replace q := q.grown b42 q.size (by rintro k ⟨⟩; omega)
    replace r := r.gr b42 (by have := r.lt; omega)
    replace c1 := cell_gr c1 b42 (by omega)
    replace c2 := cell_gr c2 b42 (by omega)
    replace hok := hok.trans (grown_kept b42 (fun j h => by have := h.1; have := hok.size; omega) (fun j h e => by cases e; have h2 := h.1; have h3 := h.2; omega))
    have r15 := r44
    clear r44
    refine ⟨hok, ?_⟩
    refine AA.done rfl ?_
    clear fzr5 fzr fzc1 fzc2 hok
    refine EE.thenN ?_
    refine CC.seq ?_
    refine CC.region ?_
    refine LL.val (R.load rfl rfl (I.ldNc (vs := [Value.int IntKind.i64 ↑l, Value.int IntKind.i64 s, Value.int IntKind.u64 ↑k, Value.int IntKind.u64 ↑p, Value.int IntKind.i64 0, Value.slice (some { block := b1, off := o1 }) (N - (m + 1)) (c - (m + 1))]) (RowL.cells r15 rfl) (by rfl) (by rfl))) rfl rfl rfl ?_
    refine LL.storeN (vs := [Value.int IntKind.i64 ↑l, Value.int IntKind.i64 s, Value.int IntKind.u64 ↑k, Value.int IntKind.u64 ↑p, Value.int IntKind.i64 0, Value.slice (some { block := b1, off := o1 }) (N - (m + 1)) (c - (m + 1))]) rfl rfl rfl rfl r5 (by exact Nat.le_of_ble_eq_true rfl) (ones_of rfl) rfl rfl ?_
    intro W47 r48 b46 z49
    have hlb46 := r5.lt
    replace r48 : RowL W47 _ 29 [Value.int IntKind.i64 ↑l, Value.int IntKind.i64 s, Value.int IntKind.u64 ↑k, Value.int IntKind.u64 ↑p, Value.int IntKind.i64 0, Value.slice (some { block := b1, off := o1 }) (N - (m + 1)) (c - (m + 1))] := r48
    clear r5
    replace b2 := b2.grown b46 b2.size (by rintro k ⟨⟩; omega)
    replace q := q.grown b46 q.size (by rintro k ⟨⟩; omega)
    replace r := r.gr b46 (by have := r.lt; omega)
    replace c1 := cell_gr c1 b46 (by omega)
    replace c2 := cell_gr c2 b46 (by omega)
    replace r15 := r15.gr b46 (by have := r15.lt; omega)
    have r5 := r48
    clear r48
    refine LL.nilS ?_
    refine CC.ret ?_
    refine EE.retC rfl rfl (lvNc (RowL.cells0 (by assumption)) (by rfl) (by rfl)) ?_
    exact ⟨rfl, q⟩
    refine ZR.store rfl rfl rfl rfl rfl r15 (by exact Nat.le_of_ble_eq_true rfl) rfl rfl rfl rfl ?_
    intro W51 r52 b50 z53
    have hlb50 := r15.lt
    replace r52 : RowL W51 _ 29 [Value.int IntKind.i64 ↑l, Value.int IntKind.i64 s, Value.int IntKind.u64 ↑k, Value.int IntKind.u64 ↑p, Value.int IntKind.i64 0, Value.slice (some { block := b1, off := o1 + m * (fun x => x.size) Try.prog.types[46] }) (N - m) (c - m)] := r52
    clear r15
    replace b12 := b12.grown b50 b12.size (by rintro k ⟨⟩; omega)
    replace b7 := b7.grown b50 b7.size (by rintro k ⟨⟩; omega)
    replace r5 := r5.gr b50 (by have := r5.lt; omega)
    replace b2 := b2.grown b50 b2.size (by rintro k ⟨⟩; omega)
    replace q := q.grown b50 q.size (by rintro k ⟨⟩; omega)
    replace r := r.gr b50 (by have := r.lt; omega)
    replace c1 := cell_gr c1 b50 (by omega)
    replace c2 := cell_gr c2 b50 (by omega)
    replace hok := hok.trans (grown_kept b50 (fun j h => by have := h.1; have := hok.size; omega) (fun j h e => by cases e; have h2 := h.1; have h3 := h.2; omega))
    have r15 := r52
    clear r52
    refine ⟨hok, ?_⟩
    refine AA.one 16 (by kernel_rfl) ?_
    (refine SR.val rfl (R.slice rfl rfl rfl rfl rfl (I.slFromE (lo := m + 1) rfl (by omega) (by omega))) rfl rfl hok ?_)
    refine AA.pure 19 rfl hok (by kernel_rfl) (fun w' b' => R.field rfl rfl (I.fld rfl)) rfl rfl ?_
    refine AA.one 20 (by kernel_rfl) ?_
    refine ZR.store rfl rfl rfl rfl rfl r15 (by exact Nat.le_of_ble_eq_true rfl) rfl rfl rfl rfl ?_
    intro W55 r56 b54 z57
    have hlb54 := r15.lt
    replace r56 : RowL W55 _ 29 [Value.int IntKind.i64 ↑l, Value.int IntKind.i64 s, Value.int IntKind.u64 ↑k, Value.int IntKind.u64 ↑p, Value.int IntKind.i64 0, Value.slice (some { block := b1, off := o1 }) (N - (m + 1)) (c - (m + 1))] := r56
    clear r15
    replace b12 := b12.grown b54 b12.size (by rintro k ⟨⟩; omega)
    replace b7 := b7.grown b54 b7.size (by rintro k ⟨⟩; omega)
    replace r5 := r5.gr b54 (by have := r5.lt; omega)
    replace b2 := b2.grown b54 b2.size (by rintro k ⟨⟩; omega)
    replace q := q.grown b54 q.size (by rintro k ⟨⟩; omega)
    replace r := r.gr b54 (by have := r.lt; omega)
    replace c1 := cell_gr c1 b54 (by omega)
    replace c2 := cell_gr c2 b54 (by omega)
    replace hok := hok.trans (grown_kept b54 (fun j h => by have := h.1; have := hok.size; omega) (fun j h e => by cases e; have h2 := h.1; have h3 := h.2; omega))
    have r15 := r56
    clear r56
    refine ⟨hok, ?_⟩
    refine AA.done rfl ?_
    clear fzr5 fzr fzc1 fzc2 hok
    refine EE.thenN ?_
    refine CC.seq ?_
    refine CC.region ?_
    refine LL.val (R.load rfl rfl (I.ldNc (vs := [Value.int IntKind.i64 ↑l, Value.int IntKind.i64 s, Value.int IntKind.u64 ↑k, Value.int IntKind.u64 ↑p, Value.int IntKind.i64 0, Value.slice (some { block := b1, off := o1 }) (N - (m + 1)) (c - (m + 1))]) (RowL.cells r15 rfl) (by rfl) (by rfl))) rfl rfl rfl ?_
    refine LL.storeN (vs := [Value.int IntKind.i64 ↑l, Value.int IntKind.i64 s, Value.int IntKind.u64 ↑k, Value.int IntKind.u64 ↑p, Value.int IntKind.i64 0, Value.slice (some { block := b1, off := o1 }) (N - (m + 1)) (c - (m + 1))]) rfl rfl rfl rfl r5 (by exact Nat.le_of_ble_eq_true rfl) (ones_of rfl) rfl rfl ?_
    intro W59 r60 b58 z61
    have hlb58 := r5.lt
    replace r60 : RowL W59 _ 29 [Value.int IntKind.i64 ↑l, Value.int IntKind.i64 s, Value.int IntKind.u64 ↑k, Value.int IntKind.u64 ↑p, Value.int IntKind.i64 0, Value.slice (some { block := b1, off := o1 }) (N - (m + 1)) (c - (m + 1))] := r60
    clear r5
    replace b2 := b2.grown b58 b2.size (by rintro k ⟨⟩; omega)
    replace q := q.grown b58 q.size (by rintro k ⟨⟩; omega)
    replace r := r.gr b58 (by have := r.lt; omega)
    replace c1 := cell_gr c1 b58 (by omega)
    replace c2 := cell_gr c2 b58 (by omega)
    replace r15 := r15.gr b58 (by have := r15.lt; omega)
    have r5 := r60
    clear r60
    refine LL.nilS ?_
    refine CC.ret ?_
    refine EE.retC rfl rfl (lvNc (RowL.cells0 (by assumption)) (by rfl) (by rfl)) ?_
    exact ⟨rfl, q⟩
  · have e : drV (some ⟨b1, o1, none⟩) N c (m + 1) = .slice (some ⟨b1, o1 + (m + 1) * 2, none⟩) (N - (m + 1)) (c - (m + 1)) := by
      unfold drV
      rw [if_neg hc1]
      simp [Addr.add]
    rw [e]
    clear hv e
    refine X.fn Try.func37 rfl (n := 59) rfl rfl ?_
    refine CC.seq ?_
    refine CC.region ?_
    have la1 := r.lt
    refine LL.alloc ([Value.int IntKind.i64 0, Value.int IntKind.i64 0, Value.int IntKind.u64 0, Value.int IntKind.u64 0, Value.int IntKind.i64 0, Value.slice none 0 0]) rfl rfl rfl rfl rfl ?_
    intro Wa3 ga4 ega4 ra5 za6 ba2
    replace q := q.trans (ba2.mono q.size)
    replace r := r.up ba2
    replace c1 := cell_up c1 ba2
    replace c2 := cell_up c2 ba2
    refine LL.nilS ?_
    refine CC.seq ?_
    refine CC.freeZ (fun W_ j => j < W_.heap.size ∧ (True)) (by kernel_rfl) (by kernel_rfl) (fun Wa8 ba7 za9 => ?_)
    replace ra5 := ra5.up ba7
    replace ba2 := ba2.trans (ba7.mono ba2.size)
    replace q := q.trans (ba7.mono q.size)
    replace r := r.up ba7
    replace c1 := cell_up c1 ba7
    replace c2 := cell_up c2 ba7
    have hok : Kept (fun j => j < Wa8.heap.size ∧ (True)) Wa8 Wa8 := Kept.refl _ _
    have fzra5 := fzRow (K := fun j => j < Wa8.heap.size ∧ (True)) ra5 ⟨ra5.lt, (by first | trivial | omega)⟩
    have fzr := fzRow (K := fun j => j < Wa8.heap.size ∧ (True)) r ⟨r.lt, (by first | trivial | omega)⟩
    have fzc1 := fzCell (K := fun j => j < Wa8.heap.size ∧ (True)) c1 ⟨World.block_lt_of_cell? _ _ c1, (by first | trivial | omega)⟩
    have fzc2 := fzCell (K := fun j => j < Wa8.heap.size ∧ (True)) c2 ⟨World.block_lt_of_cell? _ _ c2, (by first | trivial | omega)⟩
    refine AA.pure 0 rfl hok (by kernel_rfl) (fun w' b' => R.move rfl rfl) rfl rfl ?_
    refine AA.pure 1 rfl hok (by kernel_rfl) (fun w' b' => R.nil rfl rfl) rfl rfl ?_
    refine AA.pure 2 rfl hok (by kernel_rfl) (fun w' b' => R.field rfl rfl (I.fld rfl)) rfl rfl ?_
    refine AA.pure 3 rfl hok (by kernel_rfl) (fun w' b' => R.field rfl rfl (I.fld rfl)) rfl rfl ?_
    refine AA.pure 4 rfl hok (by kernel_rfl) (fun w' b' => R.load rfl rfl (I.ld1 rfl (RowL.cell (fzr w' b') rfl))) rfl rfl ?_
    refine AA.pure 5 rfl hok (by kernel_rfl) (fun w' b' => R.move rfl rfl) rfl rfl ?_
    refine AA.pure 6 rfl hok (by kernel_rfl) (fun w' b' => R.nil rfl rfl) rfl rfl ?_
    refine AA.pure 7 rfl hok (by kernel_rfl) (fun w' b' => R.field rfl rfl (I.fld rfl)) rfl rfl ?_
    refine AA.pure 8 rfl hok (by kernel_rfl) (fun w' b' => R.field rfl rfl (I.fld rfl)) rfl rfl ?_
    refine AA.pure 9 rfl hok (by kernel_rfl) (fun w' b' => R.load rfl rfl (I.ld1 rfl (RowL.cell (fzr w' b') rfl))) rfl rfl ?_
    refine AA.pure 10 rfl hok (by kernel_rfl) (fun w' b' => R.move rfl rfl) rfl rfl ?_
    refine AA.pure 11 rfl hok (by kernel_rfl) (fun w' b' => R.nil rfl rfl) rfl rfl ?_
    refine AA.pure 12 rfl hok (by kernel_rfl) (fun w' b' => R.field rfl rfl (I.fld rfl)) rfl rfl ?_
    refine AA.pure 13 rfl hok (by kernel_rfl) (fun w' b' => R.field rfl rfl (I.fld rfl)) rfl rfl ?_
    refine AA.pure 14 rfl hok (by kernel_rfl) (fun w' b' => R.load rfl rfl (I.ld1 rfl (RowL.cell (fzr w' b') rfl))) rfl rfl ?_
    refine AA.pure 15 rfl hok (by kernel_rfl) (fun w' b' => R.move rfl rfl) rfl rfl ?_
    refine AA.pure 16 rfl hok (by kernel_rfl) (fun w' b' => R.index rfl rfl rfl (I.ixS rfl (by omega))) rfl rfl ?_
    refine AA.pure 17 rfl hok (by kernel_rfl) (fun w' b' => R.field rfl rfl (I.fld rfl)) rfl rfl ?_
    refine AA.pure 18 rfl hok (by kernel_rfl) (fun w' b' => R.load rfl rfl (I.ld1 rfl (fzc1 w' b'))) rfl rfl ?_
    refine AA.pure 19 rfl hok (by kernel_rfl) (fun w' b' => R.move rfl rfl) rfl rfl ?_
    refine AA.pure 20 rfl hok (by kernel_rfl) (fun w' b' => R.nil rfl rfl) rfl rfl ?_
    refine AA.pure 21 rfl hok (by kernel_rfl) (fun w' b' => R.field rfl rfl (I.fld rfl)) rfl rfl ?_
    refine AA.pure 22 rfl hok (by kernel_rfl) (fun w' b' => R.field rfl rfl (I.fld rfl)) rfl rfl ?_
    refine AA.pure 23 rfl hok (by kernel_rfl) (fun w' b' => R.load rfl rfl (I.ld1 rfl (RowL.cell (fzr w' b') rfl))) rfl rfl ?_
    refine AA.pure 24 rfl hok (by kernel_rfl) (fun w' b' => R.move rfl rfl) rfl rfl ?_
    refine AA.pure 25 rfl hok (by kernel_rfl) (fun w' b' => R.slice rfl rfl rfl rfl rfl (I.slFrom rfl (by omega) (by omega) (by omega))) rfl rfl ?_
    refine AA.pure 26 rfl hok (by kernel_rfl) (fun w' b' => R.buildV rfl rfl (v := .agg #[Value.int IntKind.i64 ↑l, Value.int IntKind.i64 s, Value.int IntKind.u64 ↑k, Value.int IntKind.u64 9223372036854775808, Value.int IntKind.i64 0, Value.slice (some { block := b1, off := o1 + m * (fun x => x.size) Try.prog.types[46] }) (N - m) (c - m)]) (fun _ => by kernel_rfl)) rfl rfl ?_
    refine AA.one 27 (by kernel_rfl) ?_
    have la10 := ra5.lt
    have la11 := r.lt
    refine ZR.alloc ([Value.int IntKind.i64 0, Value.int IntKind.i64 0, Value.int IntKind.u64 0, Value.int IntKind.u64 0, Value.int IntKind.i64 0, Value.slice none 0 0]) rfl rfl rfl rfl rfl rfl ?_
    intro Wa13 ga14 ega14 ra15 za16 ba12
    replace ba7 := ba7.trans (ba12.mono ba7.size)
    replace ra5 := ra5.up ba12
    replace ba2 := ba2.trans (ba12.mono ba2.size)
    replace q := q.trans (ba12.mono q.size)
    replace r := r.up ba12
    replace c1 := cell_up c1 ba12
    replace c2 := cell_up c2 ba12
    replace hok := hok.trans (bkept ba12 (fun j h => by have := h.1; have := hok.size; omega))
    have ya17 := hok.size
    refine ⟨hok, ?_⟩
    refine AA.one 28 (by kernel_rfl) ?_
    refine ZR.storeN (vs := [Value.int IntKind.i64 ↑l, Value.int IntKind.i64 s, Value.int IntKind.u64 ↑k, Value.int IntKind.u64 9223372036854775808, Value.int IntKind.i64 0, Value.slice (some { block := b1, off := o1 + m * (fun x => x.size) Try.prog.types[46] }) (N - m) (c - m)]) rfl rfl rfl rfl rfl ra15 (by exact Nat.le_of_ble_eq_true rfl) (ones_of rfl) rfl rfl ?_
    intro Wa19 ra20 ba18 za21
    have hlba18 := ra15.lt
    replace ra20 : RowL Wa19 _ 29 [Value.int IntKind.i64 ↑l, Value.int IntKind.i64 s, Value.int IntKind.u64 ↑k, Value.int IntKind.u64 9223372036854775808, Value.int IntKind.i64 0, Value.slice (some { block := b1, off := o1 + m * (fun x => x.size) Try.prog.types[46] }) (N - m) (c - m)] := ra20
    clear ra15
    replace ba12 := ba12.grown ba18 ba12.size (by rintro k ⟨⟩; omega)
    replace ba7 := ba7.grown ba18 ba7.size (by rintro k ⟨⟩; omega)
    replace ra5 := ra5.gr ba18 (by have := ra5.lt; omega)
    replace ba2 := ba2.grown ba18 ba2.size (by rintro k ⟨⟩; omega)
    replace q := q.grown ba18 q.size (by rintro k ⟨⟩; omega)
    replace r := r.gr ba18 (by have := r.lt; omega)
    replace c1 := cell_gr c1 ba18 (by omega)
    replace c2 := cell_gr c2 ba18 (by omega)
    replace hok := hok.trans (grown_kept ba18 (fun j h => by have := h.1; have := hok.size; omega) (fun j h e => by cases e; have h2 := h.1; have h3 := h.2; omega))
    have ra15 := ra20
    clear ra20
    refine ⟨hok, ?_⟩
    refine AA.done rfl ?_
    clear fzra5 fzr fzc1 fzc2 hok
    refine EE.thenN ?_
    refine CC.seq ?_
    refine CC.seq ?_
    refine CC.region ?_
    refine LL.val (R.move rfl rfl) rfl rfl rfl ?_
    refine LL.val (R.nil rfl rfl) rfl rfl rfl ?_
    refine LL.val (R.field rfl rfl (I.fld rfl)) rfl rfl rfl ?_
    refine LL.val (R.field rfl rfl (I.fld rfl)) rfl rfl rfl ?_
    refine LL.val (R.load rfl rfl (I.ld1 rfl (RowL.cell r rfl))) rfl rfl rfl ?_
    refine LL.val (R.gtT rfl rfl rfl (by omega)) rfl rfl rfl ?_
    refine LL.nilS ?_
    refine CC.yes rfl ?_
    refine CC.freeZ (fun W_ j => j < W_.heap.size ∧ (j ≠ ga14)) (by kernel_rfl) (by kernel_rfl) (fun Wa23 ba22 za24 => ?_)
    replace ba12 := ba12.trans (ba22.mono ba12.size)
    replace ba7 := ba7.trans (ba22.mono ba7.size)
    replace ra5 := ra5.up ba22
    replace ba2 := ba2.trans (ba22.mono ba2.size)
    replace q := q.trans (ba22.mono q.size)
    replace r := r.up ba22
    replace c1 := cell_up c1 ba22
    replace c2 := cell_up c2 ba22
    replace ra15 := ra15.up ba22
    have hok : Kept (fun j => j < Wa23.heap.size ∧ (j ≠ ga14)) Wa23 Wa23 := Kept.refl _ _
    have fzra5 := fzRow (K := fun j => j < Wa23.heap.size ∧ (j ≠ ga14)) ra5 ⟨ra5.lt, (by first | trivial | omega)⟩
    have fzr := fzRow (K := fun j => j < Wa23.heap.size ∧ (j ≠ ga14)) r ⟨r.lt, (by first | trivial | omega)⟩
    have fzc1 := fzCell (K := fun j => j < Wa23.heap.size ∧ (j ≠ ga14)) c1 ⟨World.block_lt_of_cell? _ _ c1, (by first | trivial | omega)⟩
    have fzc2 := fzCell (K := fun j => j < Wa23.heap.size ∧ (j ≠ ga14)) c2 ⟨World.block_lt_of_cell? _ _ c2, (by first | trivial | omega)⟩
    refine AA.pure 0 rfl hok (by kernel_rfl) (fun w' b' => R.move rfl rfl) rfl rfl ?_
    refine AA.pure 1 rfl hok (by kernel_rfl) (fun w' b' => R.nil rfl rfl) rfl rfl ?_
    refine AA.pure 2 rfl hok (by kernel_rfl) (fun w' b' => R.field rfl rfl (I.fld rfl)) rfl rfl ?_
    refine AA.pure 3 rfl hok (by kernel_rfl) (fun w' b' => R.field rfl rfl (I.fld rfl)) rfl rfl ?_
    refine AA.pure 4 rfl hok (by kernel_rfl) (fun w' b' => R.load rfl rfl (I.ld1 rfl (RowL.cell (fzr w' b') rfl))) rfl rfl ?_
    refine AA.pure 5 rfl hok (by kernel_rfl) (fun w' b' => R.move rfl rfl) rfl rfl ?_
    refine AA.pure 6 rfl hok (by kernel_rfl) (fun w' b' => R.index rfl rfl rfl (I.ixS rfl (by omega))) rfl rfl ?_
    refine AA.pure 7 rfl hok (by kernel_rfl) (fun w' b' => R.field rfl rfl (I.fld rfl)) rfl rfl ?_
    refine AA.pure 8 rfl hok (by kernel_rfl) (fun w' b' => R.load rfl rfl (I.ld1 rfl (cell_kept c2 b' (by refine ⟨?_, ?_⟩ <;> omega)))) rfl rfl ?_
    refine AA.pure 9 rfl hok (by kernel_rfl) (fun w' b' => R.move rfl rfl) rfl rfl ?_
    refine AA.pure 10 rfl hok (by kernel_rfl) (fun w' b' => R.nil rfl rfl) rfl rfl ?_
    refine AA.pure 11 rfl hok (by kernel_rfl) (fun w' b' => R.field rfl rfl (I.fld rfl)) rfl rfl ?_
    refine AA.pure 12 rfl hok (by kernel_rfl) (fun w' b' => R.field rfl rfl (I.fld rfl)) rfl rfl ?_
    refine AA.pure 13 rfl hok (by kernel_rfl) (fun w' b' => R.load rfl rfl (I.ld1 rfl (RowL.cell (fzr w' b') rfl))) rfl rfl ?_
    refine AA.pure 14 rfl hok (by kernel_rfl) (fun w' b' => R.move rfl rfl) rfl rfl ?_
    refine AA.pure 15 rfl hok (by kernel_rfl) (fun w' b' => R.addNc rfl rfl rfl rfl (by omega)) rfl rfl ?_
    refine AA.pure 16 rfl hok (by kernel_rfl) (fun w' b' => R.slice rfl rfl rfl rfl rfl (I.slFrom rfl (by omega) (by omega) (by omega))) rfl rfl ?_
    refine AA.pure 17 rfl hok (by kernel_rfl) (fun w' b' => R.field rfl rfl (I.fld rfl)) rfl rfl ?_
    refine AA.one 18 (by kernel_rfl) ?_
    refine ZR.store rfl rfl rfl rfl rfl ra15 (by exact Nat.le_of_ble_eq_true rfl) rfl rfl rfl rfl ?_
    intro Wa26 ra27 ba25 za28
    have hlba25 := ra15.lt
    replace ra27 : RowL Wa26 _ 29 [Value.int IntKind.i64 ↑l, Value.int IntKind.i64 s, Value.int IntKind.u64 ↑k, Value.int IntKind.u64 ↑p, Value.int IntKind.i64 0, Value.slice (some { block := b1, off := o1 + m * (fun x => x.size) Try.prog.types[46] }) (N - m) (c - m)] := ra27
    clear ra15
    replace ba12 := ba12.grown ba25 ba12.size (by rintro k ⟨⟩; omega)
    replace ba7 := ba7.grown ba25 ba7.size (by rintro k ⟨⟩; omega)
    replace ra5 := ra5.gr ba25 (by have := ra5.lt; omega)
    replace ba2 := ba2.grown ba25 ba2.size (by rintro k ⟨⟩; omega)
    replace q := q.grown ba25 q.size (by rintro k ⟨⟩; omega)
    replace r := r.gr ba25 (by have := r.lt; omega)
    replace c1 := cell_gr c1 ba25 (by omega)
    replace c2 := cell_gr c2 ba25 (by omega)
    replace hok := hok.trans (grown_kept ba25 (fun j h => by have := h.1; have := hok.size; omega) (fun j h e => by cases e; have h2 := h.1; have h3 := h.2; omega))
    have ra15 := ra27
    clear ra27
    refine ⟨hok, ?_⟩
    refine AA.pure 19 rfl hok (by kernel_rfl) (fun w' b' => R.field rfl rfl (I.fld rfl)) rfl rfl ?_
    refine AA.one 20 (by kernel_rfl) ?_
    refine ZR.store rfl rfl rfl rfl rfl ra15 (by exact Nat.le_of_ble_eq_true rfl) rfl rfl rfl rfl ?_
    intro Wa30 ra31 ba29 za32
    have hlba29 := ra15.lt
    replace ra31 : RowL Wa30 _ 29 [Value.int IntKind.i64 ↑l, Value.int IntKind.i64 s, Value.int IntKind.u64 ↑k, Value.int IntKind.u64 ↑p, Value.int IntKind.i64 0, Value.slice (some { block := b1, off := o1 + (m + 1) * (fun x => x.size) Try.prog.types[46] }) (N - (m + 1)) (c - (m + 1))] := ra31
    clear ra15
    replace ba12 := ba12.grown ba29 ba12.size (by rintro k ⟨⟩; omega)
    replace ba7 := ba7.grown ba29 ba7.size (by rintro k ⟨⟩; omega)
    replace ra5 := ra5.gr ba29 (by have := ra5.lt; omega)
    replace ba2 := ba2.grown ba29 ba2.size (by rintro k ⟨⟩; omega)
    replace q := q.grown ba29 q.size (by rintro k ⟨⟩; omega)
    replace r := r.gr ba29 (by have := r.lt; omega)
    replace c1 := cell_gr c1 ba29 (by omega)
    replace c2 := cell_gr c2 ba29 (by omega)
    replace hok := hok.trans (grown_kept ba29 (fun j h => by have := h.1; have := hok.size; omega) (fun j h e => by cases e; have h2 := h.1; have h3 := h.2; omega))
    have ra15 := ra31
    clear ra31
    refine ⟨hok, ?_⟩
    refine AA.done rfl ?_
    clear fzra5 fzr fzc1 fzc2 hok
    refine EE.thenN ?_
    refine CC.seq ?_
    refine CC.region ?_
    refine LL.val (R.load rfl rfl (I.ldNc (vs := [Value.int IntKind.i64 ↑l, Value.int IntKind.i64 s, Value.int IntKind.u64 ↑k, Value.int IntKind.u64 ↑p, Value.int IntKind.i64 0, Value.slice (some { block := b1, off := o1 + (m + 1) * (fun x => x.size) Try.prog.types[46] }) (N - (m + 1)) (c - (m + 1))]) (RowL.cells ra15 rfl) (by rfl) (by rfl))) rfl rfl rfl ?_
    refine LL.storeN (vs := [Value.int IntKind.i64 ↑l, Value.int IntKind.i64 s, Value.int IntKind.u64 ↑k, Value.int IntKind.u64 ↑p, Value.int IntKind.i64 0, Value.slice (some { block := b1, off := o1 + (m + 1) * (fun x => x.size) Try.prog.types[46] }) (N - (m + 1)) (c - (m + 1))]) rfl rfl rfl rfl ra5 (by exact Nat.le_of_ble_eq_true rfl) (ones_of rfl) rfl rfl ?_
    intro Wa34 ra35 ba33 za36
    have hlba33 := ra5.lt
    replace ra35 : RowL Wa34 _ 29 [Value.int IntKind.i64 ↑l, Value.int IntKind.i64 s, Value.int IntKind.u64 ↑k, Value.int IntKind.u64 ↑p, Value.int IntKind.i64 0, Value.slice (some { block := b1, off := o1 + (m + 1) * (fun x => x.size) Try.prog.types[46] }) (N - (m + 1)) (c - (m + 1))] := ra35
    clear ra5
    replace ba2 := ba2.grown ba33 ba2.size (by rintro k ⟨⟩; omega)
    replace q := q.grown ba33 q.size (by rintro k ⟨⟩; omega)
    replace r := r.gr ba33 (by have := r.lt; omega)
    replace c1 := cell_gr c1 ba33 (by omega)
    replace c2 := cell_gr c2 ba33 (by omega)
    replace ra15 := ra15.gr ba33 (by have := ra15.lt; omega)
    have ra5 := ra35
    clear ra35
    refine LL.nilS ?_
    refine CC.ret ?_
    refine EE.retC rfl rfl (lvNc (RowL.cells0 (by assumption)) (by rfl) (by rfl)) ?_
    exact ⟨rfl, q⟩
end
end Go.Proofs.Ytfplilpefhhpnaa
/- node: Split (written by gennd8.py). -/
namespace Go.Proofs.Ytfplilpefhhpnaa
set_option linter.unusedVariables false
set_option linter.unusedSimpArgs false
open Go.RowKit Go.Shelf
set_option maxRecDepth 100000
set_option maxHeartbeats 8000000
/-- A split: the new node's words, the old one's stores. -/
def upW (ws : List Nat) (ps : List Pr) (k p m : Nat) : List Nat := layW (layH (7522529147838689024 + gw ws 0 % 256) (gw ws 1) k (if gw ws 0 % 256 = 0 then 9223372036854775808 else p) 0) (ps.drop (if gw ws 0 % 256 = 0 then m else m + 1))
def splN (blk N t : Nat) : List Pt := ((1 : Int), blk) :: (List.range t).map fun u => ((8 + ((2 * (N - 1 - u) : Nat) : Int) + 1 : Int), 0)
theorem splN_succ (blk N t : Nat) : splN blk N (t + 1) = splN blk N t ++ [((8 + ((2 * (N - 1 - t) : Nat) : Int) + 1 : Int), 0)] := by
  unfold splN
  rw [List.range_succ, List.map_append]
  rfl
theorem splN_len (blk N t : Nat) : (splN blk N t).length = t + 1 := by
  unfold splN
  simp
theorem split_yes (n : Nat) (v : Value) (ws : List Nat) (w : World) (hv : ReadsT uE 1 w v ws) (hn : ws.length = n) (hb : ∀ x ∈ ws, x < 18446744073709551616) (hS : nodeS ws) (blk N m k p : Nat) (hk : 1 ≤ blk ∧ blk ≤ 2047) (ps : List Pr) (eps : readF (gw ws 3) (ws.drop 8) = ps) (hN : ps.length = N) (h2 : 2 ≤ N) (hm : m = N / 2) (hx : ps[m]? = some (k, p)) : Calls Try.prog 18 #[v, .int .i64 (blk : Int)] w fun e w' => ∃ g v', e = .returned (.tuple #[.slice (some ⟨g, 0, none⟩) 64 64, v', .int .i64 0]) ∧ RowL w' g 25 (ints .u64 (upW ws ps k p m)) ∧ OwnsT pE 2 w' w.heap.size 68 v' (splN blk N (N - m)) ∧ w.heap.size ≤ g ∧ Below w.heap.size w w' := by
  have q := Below.refl w.heap.size w
  obtain ⟨a, c, rfl, hc⟩ := hv.form hn
  have hset : ∀ W, Below w.heap.size w W → Calls Try.prog 30 #[.slice a n c] W fun e w' => (∃ vo, e = .returned (.tuple #[vwV ws vo (.slice a n c), .int .i64 0]) ∧ OwnsT prE 2 w' W.heap.size 46 vo ps) ∧ Below W.heap.size W w' := fun W b => (nsettled_any n _ ws W (hv.up b) hn hb).mono fun e w' h => by
    rw [← eps]
    exact ⟨h.1 hS, h.2.2.2⟩
  have hN28 : N ≤ 28 := by
    rw [← hN, ← eps]
    have := readF_len (gw ws 3) (ws.drop 8)
    rw [List.length_drop, hS.1.1] at this
    omega
  have hl0 : gw ws 0 % 256 ≤ 12 := by
    have := hS.1.2.a
    unfold ru1 at this
    omega
  have hs1 : gw ws 1 ≤ 2047 := hS.1.2.b
  clear hv hb hS eps
  refine X.fn Try.func18 rfl (n := 66) rfl rfl ?_
  refine CC.seq ?_
  refine CC.region ?_
  refine LL.val (R.assign rfl rfl) rfl rfl rfl ?_
  refine LL.val (R.assign rfl rfl) rfl rfl rfl ?_
  refine LL.val (R.assign rfl rfl) rfl rfl rfl ?_
  refine LL.nilS ?_
  refine CC.fwd (l := 0) (α := Unit) (fun _ => []) (fun _ => []) (fun _ _ => False) rfl ?first ?pass
  case pass =>
    rintro _ W ⟨⟩
  case first =>
    have hcb : IntKind.u64.wrap (blk : Int) = (blk : Int) := by
      rw [IntKind.wrap_u64]
      omega
    refine CC.seq ?_
    refine CC.region ?_
    refine LL.val (R.assign rfl rfl) rfl rfl rfl ?_
    refine LL.nilS ?_
    refine CC.seq ?_
    refine CC.region ?_
    refine LL.val (R.assign rfl rfl) rfl rfl rfl ?_
    refine LL.nilS ?_
    refine CC.seq ?_
    refine CC.region ?_
    refine LL.val (R.move rfl rfl) rfl rfl rfl ?_
    (refine LL.call (R.call rfl rfl rfl) rfl rfl rfl (hset _ q) ?_; rintro e Wa25 ⟨⟨vo, rfl, oo⟩, ba22⟩; refine ⟨_, rfl, ?_⟩; obtain ⟨av, cv, rfl, hcv⟩ := (oo.reads prEnc).form hN; have ooF := fun X (b : Below Wa25.heap.size Wa25 X) => (oo.up b).reads prEnc; have qS := Below.refl Wa25.heap.size Wa25; clear oo)
    have zba22 := ba22.size
    replace q := q.trans (ba22.mono q.size)
    refine LL.val (R.move rfl rfl) rfl rfl rfl ?_
    refine LL.val (R.extract rfl rfl rfl) rfl rfl rfl ?_
    refine LL.val (R.extract rfl rfl rfl) rfl rfl rfl ?_
    refine LL.alloc ([Value.int IntKind.i64 0, Value.int IntKind.i64 0, Value.int IntKind.u64 0, Value.int IntKind.u64 0, Value.int IntKind.i64 0, Value.slice none 0 0, Value.slice none 0 0]) rfl rfl rfl rfl rfl ?_
    intro Wa58 ga59 ega59 ra60 za61 ba57
    replace ba22 := ba22.trans (ba57.mono ba22.size)
    replace qS := qS.trans (ba57.mono qS.size)
    replace q := q.trans (ba57.mono q.size)
    refine LL.storeN (vs := [Value.int IntKind.i64 ↑(gw ws 0 % 256), Value.int IntKind.i64 ↑(gw ws 1), Value.int IntKind.u64 ↑(gw ws 2), Value.int IntKind.u64 ↑(gw ws 3), Value.int IntKind.i64 ↑(gw ws 4), Value.slice av N cv, Value.slice a n c]) rfl rfl rfl rfl ra60 (by exact Nat.le_of_ble_eq_true rfl) (ones_of rfl) rfl rfl ?_
    intro Wa71 ra72 ba70 za73
    have hlba70 := ra60.lt
    replace ra72 : RowL Wa71 _ 70 [Value.int IntKind.i64 ↑(gw ws 0 % 256), Value.int IntKind.i64 ↑(gw ws 1), Value.int IntKind.u64 ↑(gw ws 2), Value.int IntKind.u64 ↑(gw ws 3), Value.int IntKind.i64 ↑(gw ws 4), Value.slice av N cv, Value.slice a n c] := ra72
    clear ra60
    replace ba57 := ba57.grown ba70 ba57.size (by rintro k ⟨⟩; omega)
    replace ba22 := ba22.grown ba70 ba22.size (by rintro k ⟨⟩; omega)
    replace qS := qS.grown ba70 qS.size (by rintro k ⟨⟩; omega)
    replace q := q.grown ba70 q.size (by rintro k ⟨⟩; omega)
    have ra60 := ra72
    clear ra72
    refine LL.val (R.assign rfl rfl) rfl rfl rfl ?_
    refine LL.nilS ?_
    refine CC.seq ?_
    refine CC.seq ?_
    refine CC.region ?_
    refine LL.val (R.move rfl rfl) rfl rfl rfl ?_
    refine LL.val (R.neF rfl rfl rfl (by omega)) rfl rfl rfl ?_
    refine LL.nilS ?_
    refine CC.no rfl ?_
    refine CC.skip ?_
    refine EE.thenN ?_
    refine CC.seq ?_
    refine CC.seq ?_
    refine CC.region ?_
    refine LL.val (R.move rfl rfl) rfl rfl rfl ?_
    refine LL.val (R.ltF rfl rfl rfl (by omega)) rfl rfl rfl ?_
    refine LL.val (R.move rfl rfl) rfl rfl rfl ?_
    refine LL.val (R.move rfl rfl) rfl rfl rfl ?_
    refine LL.val (R.geF rfl rfl rfl (by omega)) rfl rfl rfl ?_
    refine LL.val (R.pick rfl rfl rfl) rfl rfl rfl ?_
    refine LL.val (R.move rfl rfl) rfl rfl rfl ?_
    refine LL.val (R.field rfl rfl (I.fld rfl)) rfl rfl rfl ?_
    refine LL.val (R.field rfl rfl (I.fld rfl)) rfl rfl rfl ?_
    refine LL.val (R.load rfl rfl (I.ld1 rfl (RowL.cell ra60 rfl))) rfl rfl rfl ?_
    refine LL.val (R.len rfl rfl rfl rfl) rfl rfl rfl ?_
    refine LL.val (R.ltF rfl rfl rfl (by omega)) rfl rfl rfl ?_
    refine LL.val (R.pick rfl rfl rfl) rfl rfl rfl ?_
    refine LL.nilS ?_
    refine CC.no rfl ?_
    refine CC.skip ?_
    refine EE.thenN ?_
    refine CC.seq ?_
    refine CC.region ?_
    refine LL.val (R.field rfl rfl (I.fld rfl)) rfl rfl rfl ?_
    refine LL.val (R.field rfl rfl (I.fld rfl)) rfl rfl rfl ?_
    refine LL.val (R.load rfl rfl (I.ld1 rfl (RowL.cell ra60 rfl))) rfl rfl rfl ?_
    refine LL.val (R.len rfl rfl rfl rfl) rfl rfl rfl ?_
    refine LL.val (R.quoNc rfl rfl rfl rfl (by omega) (by omega)) rfl rfl rfl ?_
    refine LL.val (R.assign rfl rfl) rfl rfl rfl ?_
    refine LL.nilS ?_
    refine CC.seq ?_
    refine CC.region ?_
    refine LL.val (R.move rfl rfl) rfl rfl rfl ?_
    refine LL.val (R.move rfl rfl) rfl rfl rfl ?_
    refine LL.val (R.convI rfl rfl rfl rfl (wrapU (by omega) (by omega))) rfl rfl rfl ?_
    refine LL.val (R.buildV rfl rfl (v := .agg #[Value.int IntKind.i64 1, Value.int IntKind.u64 ↑blk]) (fun _ => by kernel_rfl)) rfl rfl rfl ?_
    have la290 := ra60.lt
    refine LL.lit (e := 68) [Value.int IntKind.i64 1, Value.int IntKind.u64 ↑blk] 1 rfl rfl (fun _ => by kernel_rfl) rfl rfl ?_
    intro Wa292 ga293 ega293 ra294 za295 ba291
    replace ba57 := ba57.trans (ba291.mono ba57.size)
    replace ba22 := ba22.trans (ba291.mono ba22.size)
    replace qS := qS.trans (ba291.mono qS.size)
    replace q := q.trans (ba291.mono q.size)
    replace ra60 := ra60.up ba291
    (have o0 : OwnsT pE 2 Wa292 (ga59 + 1) 68 (.slice none 0 0) [] := OwnsT.none _ _ _; refine LL.appendT2 rfl rfl pEnc ElPut o0 (us := [((1 : Int), blk)]) (RowL.readsT pEnc (ts := [((1 : Int), blk)]) (by assumption) 1 (Nat.le_refl _)) (by simp [maxLen]) (by simp) (by omega) rfl rfl ?_; intro v' Wz oa gra hva; replace q := q.grown gra q.size (fun g hg => by have := own_ge o0 g hg; omega); replace qS := qS.grown gra qS.size (fun g hg => by have := own_ge o0 g hg; omega); replace ra60 := ra60.grO gra (own_ne o0 (by omega)); clear o0 hva gra; replace oa : OwnsT pE 2 Wz (ga59 + 1) 68 v' (splN blk N 0) := oa; obtain ⟨a3, c3, rfl, hc3⟩ := (oa.reads pEnc).form (splN_len _ _ 0))
    refine LL.val (R.assign rfl rfl) rfl rfl rfl ?_
    refine LL.nilS ?_
    refine CC.seq ?_
    refine CC.seq ?_
    refine CC.region ?_
    refine LL.val (R.field rfl rfl (I.fld rfl)) rfl rfl rfl ?_
    refine LL.val (R.field rfl rfl (I.fld rfl)) rfl rfl rfl ?_
    refine LL.val (R.load rfl rfl (I.ld1 rfl (RowL.cell ra60 rfl))) rfl rfl rfl ?_
    refine LL.val (R.len rfl rfl rfl rfl) rfl rfl rfl ?_
    refine LL.val (R.subNc rfl rfl rfl rfl (by omega) (by omega)) rfl rfl rfl ?_
    refine LL.val (R.assign rfl rfl) rfl rfl rfl ?_
    refine LL.nilS ?_
    refine CC.block ?_
    refine CC.loop (α := Nat × Value) (fun s => [(7, s.2), (8, .int .i64 ((N / 2 : Nat) : Int)), (9, .pointer (some ⟨ga59, 0, none⟩)), (11, .int .i64 ((N - 1 - s.1 : Nat) : Int))]) (fun s W => s.1 ≤ N - N / 2 ∧ Below w.heap.size w W ∧ Below Wa25.heap.size Wa25 W ∧ RowL W ga59 70 (viewL ((gw ws 0 % 256 : Nat) : Int) (gw ws 1 : Int) (gw ws 2) (gw ws 3) (gw ws 4 : Int) (.slice av N cv) (.slice a n c)) ∧ OwnsT pE 2 W (ga59 + 1) 68 s.2 (splN blk N s.1)) (fun s => N - s.1) (0, .slice a3 1 c3) ⟨rfl, rfl, rfl, rfl, trivial⟩ ⟨Nat.zero_le _, q, qS, ra60, oa⟩ ?_
    clear q qS ra60 oa hc3 hcb
    rintro ⟨t, v⟩ W ⟨ht, q, qS, ra, oa⟩
    simp only at ht oa
    show CC none Try.prog _ 66 [] (sl [(7, v), (8, .int .i64 ((N / 2 : Nat) : Int)), (9, .pointer (some ⟨ga59, 0, none⟩)), (11, .int .i64 ((N - 1 - t : Nat) : Int))]) _ W
    obtain ⟨a3, c3, rfl, hc3⟩ := (oa.reads pEnc).form (splN_len _ _ t)
    have lw := qS.size
    have hw1 : IntKind.u64.wrap (gw ws 1 : Int) = (gw ws 1 : Int) := by
      rw [IntKind.wrap_u64]
      omega
    have hw0 : IntKind.u64.wrap (0 : Int) = ((0 : Nat) : Int) := by
      rw [IntKind.wrap_u64]
      rfl
    by_cases hlt : t < N - N / 2
    case neg =>
      obtain rfl : t = N - N / 2 := by omega
      subst hm
      by_cases h0 : gw ws 0 % 256 = 0
      · have eU : upW ws ps k p (N / 2) = layW (layH (7522529147838689024 + gw ws 0 % 256) (gw ws 1) k 9223372036854775808 0) (ps.drop (N / 2)) := by
          unfold upW
          rw [if_pos h0, if_pos h0]
        rw [eU]
        refine CC.seq ?_
        refine CC.seq ?_
        refine CC.region ?_
        refine LL.val (R.move rfl rfl) rfl rfl rfl ?_
        refine LL.val (R.move rfl rfl) rfl rfl rfl ?_
        refine LL.val (R.geF rfl rfl rfl (by omega)) rfl rfl rfl ?_
        refine LL.nilS ?_
        refine CC.no rfl ?_
        refine CC.exit ?_
        refine EE.thenX ?_
        refine EE.thenX ?_
        refine EE.inX ?_
        refine EE.thenN ?_
        refine CC.seq ?_
        refine CC.seq ?_
        refine CC.region ?_
        refine LL.val (R.move rfl rfl) rfl rfl rfl ?_
        have lb69 := ra.lt
        (refine LL.call (R.call rfl rfl rfl) rfl rfl rfl (upper_leaf _ _ _ _ _ _ _ _ _ _ ps _ k p _ (by assumption) (ooF _ qS) hN (by omega) hx h0) ?_; rintro e Wb68 ⟨rfl, bb65⟩; refine ⟨_, rfl, ?_⟩)
        have zbb65 := bb65.size
        replace q := q.trans (bb65.mono q.size)
        replace qS := qS.trans (bb65.mono qS.size)
        replace ra := ra.up bb65
        replace oa := oa.up bb65
        have lb85 := ra.lt
        (refine LL.call (R.call rfl rfl rfl) rfl rfl rfl (lay_any _ _ (gw ws 1) _ _ _ 0 (ps.drop (N / 2)) _ _ ((ooF _ qS).from prEnc (by omega)) hl0 (by rw [List.length_drop]; omega) hw1 hw0) ?_; rintro e Wb84 ⟨g8, rfl, r8, hg8, bb81⟩; refine ⟨_, rfl, ?_⟩)
        have zbb81 := bb81.size
        replace bb65 := bb65.trans (bb81.mono bb65.size)
        replace q := q.trans (bb81.mono q.size)
        replace qS := qS.trans (bb81.mono qS.size)
        replace ra := ra.up bb81
        replace oa := oa.up bb81
        refine LL.val (R.move rfl rfl) rfl rfl rfl ?_
        refine LL.val (R.assign rfl rfl) rfl rfl rfl ?_
        refine LL.val (R.assign rfl rfl) rfl rfl rfl ?_
        refine LL.val (R.assign rfl rfl) rfl rfl rfl ?_
        refine LL.nilS ?_
        refine CC.ret ?_
        refine EE.thenR ?_
        refine EE.jumpR ?_
        refine EE.ret _ rfl rfl ?_
        exact ⟨_, _, rfl, by assumption, OwnsT.lower (by assumption) (by omega), by omega, q⟩
      · have eU : upW ws ps k p (N / 2) = layW (layH (7522529147838689024 + gw ws 0 % 256) (gw ws 1) k p 0) (ps.drop (N / 2 + 1)) := by
          unfold upW
          rw [if_neg h0, if_neg h0]
        rw [eU]
        have h0' : 0 < gw ws 0 % 256 := by omega
        refine CC.seq ?_
        refine CC.seq ?_
        refine CC.region ?_
        refine LL.val (R.move rfl rfl) rfl rfl rfl ?_
        refine LL.val (R.move rfl rfl) rfl rfl rfl ?_
        refine LL.val (R.geF rfl rfl rfl (by omega)) rfl rfl rfl ?_
        refine LL.nilS ?_
        refine CC.no rfl ?_
        refine CC.exit ?_
        refine EE.thenX ?_
        refine EE.thenX ?_
        refine EE.inX ?_
        refine EE.thenN ?_
        refine CC.seq ?_
        refine CC.seq ?_
        refine CC.region ?_
        refine LL.val (R.move rfl rfl) rfl rfl rfl ?_
        have lc69 := ra.lt
        (refine LL.call (R.call rfl rfl rfl) rfl rfl rfl (upper_in _ _ _ _ _ _ _ _ _ _ ps _ k p _ (by assumption) (ooF _ qS) hN (by omega) hx h0') ?_; rintro e Wc68 ⟨rfl, bc65⟩; refine ⟨_, rfl, ?_⟩)
        have zbc65 := bc65.size
        replace q := q.trans (bc65.mono q.size)
        replace qS := qS.trans (bc65.mono qS.size)
        replace ra := ra.up bc65
        replace oa := oa.up bc65
        have lc85 := ra.lt
        (refine LL.call (R.call rfl rfl rfl) rfl rfl rfl (lay_any _ _ (gw ws 1) _ _ _ 0 (ps.drop (N / 2 + 1)) _ _ ((ooF _ qS).from prEnc (by omega)) hl0 (by rw [List.length_drop]; omega) hw1 hw0) ?_; rintro e Wc84 ⟨g8, rfl, r8, hg8, bc81⟩; refine ⟨_, rfl, ?_⟩)
        have zbc81 := bc81.size
        replace bc65 := bc65.trans (bc81.mono bc65.size)
        replace q := q.trans (bc81.mono q.size)
        replace qS := qS.trans (bc81.mono qS.size)
        replace ra := ra.up bc81
        replace oa := oa.up bc81
        refine LL.val (R.move rfl rfl) rfl rfl rfl ?_
        refine LL.val (R.assign rfl rfl) rfl rfl rfl ?_
        refine LL.val (R.assign rfl rfl) rfl rfl rfl ?_
        refine LL.val (R.assign rfl rfl) rfl rfl rfl ?_
        refine LL.nilS ?_
        refine CC.ret ?_
        refine EE.thenR ?_
        refine EE.jumpR ?_
        refine EE.ret _ rfl rfl ?_
        exact ⟨_, _, rfl, by assumption, OwnsT.lower (by assumption) (by omega), by omega, q⟩
    have e3 := splN_succ blk N t
    have hsl := splN_len blk N t
    refine CC.seq ?_
    refine CC.seq ?_
    refine CC.region ?_
    refine LL.val (R.move rfl rfl) rfl rfl rfl ?_
    refine LL.val (R.move rfl rfl) rfl rfl rfl ?_
    refine LL.val (R.geT rfl rfl rfl (by omega)) rfl rfl rfl ?_
    refine LL.nilS ?_
    refine CC.yes rfl ?_
    refine CC.skip ?_
    refine EE.thenN ?_
    refine CC.seq ?_
    refine CC.block ?_
    refine CC.region ?_
    refine LL.val (R.move rfl rfl) rfl rfl rfl ?_
    refine LL.val (R.move rfl rfl) rfl rfl rfl ?_
    refine LL.val (R.mulcN rfl rfl rfl rfl (by omega)) rfl rfl rfl ?_
    refine LL.val (R.addI rfl rfl rfl (by omega)) rfl rfl rfl ?_
    refine LL.val (R.addI rfl rfl rfl (by omega)) rfl rfl rfl ?_
    refine LL.val (R.buildV rfl rfl (v := .agg #[Value.int IntKind.i64 (8 + ↑(2 * (N - 1 - t)) + 1), Value.int IntKind.u64 0]) (fun _ => by kernel_rfl)) rfl rfl rfl ?_
    have ld1 := ra.lt
    refine LL.lit (e := 68) [Value.int IntKind.i64 (8 + ↑(2 * (N - 1 - t)) + 1), Value.int IntKind.u64 0] 1 rfl rfl (fun _ => by kernel_rfl) rfl rfl ?_
    intro Wd3 gd4 egd4 rd5 zd6 bd2
    replace q := q.trans (bd2.mono q.size)
    replace qS := qS.trans (bd2.mono qS.size)
    replace ra := ra.up bd2
    replace oa := oa.up bd2
    (refine LL.appendT2 rfl rfl pEnc ElPut oa (us := [((8 + ((2 * (N - 1 - t) : Nat) : Int) + 1 : Int), 0)]) (RowL.readsT pEnc (ts := [((8 + ((2 * (N - 1 - t) : Nat) : Int) + 1 : Int), 0)]) (by assumption) 1 (Nat.le_refl _)) (by simp [maxLen]; omega) (by simp; omega) (by omega) rfl rfl ?_; intro v' Wz ob gra hva; replace q := q.grown gra q.size (fun g hg => by have := own_ge oa g hg; omega); replace qS := qS.grown gra qS.size (fun g hg => by have := own_ge oa g hg; omega); replace ra := ra.grO gra (own_ne oa (by omega)); clear oa hva gra; rw [← e3] at ob)
    refine LL.val (R.assign rfl rfl) rfl rfl rfl ?_
    refine LL.nil ?_
    refine EE.inN ?_
    refine EE.thenN ?_
    refine CC.region ?_
    refine LL.val (R.move rfl rfl) rfl rfl rfl ?_
    refine LL.val (R.subNc rfl rfl rfl rfl (by omega) (by omega)) rfl rfl rfl ?_
    refine LL.val (R.assign rfl rfl) rfl rfl rfl ?_
    refine LL.nil ?_
    exact EE.round (t + 1, _) ⟨rfl, rfl, rfl, rfl, trivial⟩ ⟨by show t + 1 ≤ N - N / 2; omega, q, qS, ra, ob⟩ (by show N - (t + 1) < N - t; omega)
end Go.Proofs.Ytfplilpefhhpnaa
/- node: Split's refusals (written by gennd9.py). -/
namespace Go.Proofs.Ytfplilpefhhpnaa
set_option linter.unusedVariables false
set_option linter.unusedSimpArgs false
open Go.RowKit Go.Shelf
set_option maxRecDepth 100000
set_option maxHeartbeats 8000000
theorem split_bad (n : Nat) (v : Value) (ws : List Nat) (w : World) (hv : ReadsT uE 1 w v ws) (hn : ws.length = n) (hb : ∀ x ∈ ws, x < 18446744073709551616) (blk : Int) (er : Nat) (he : er ≠ 0) (h : (¬nodeP ws ∧ er = 210) ∨ (nodeP ws ∧ ¬nodeS ws ∧ er = 190)) : Calls Try.prog 18 #[v, .int .i64 blk] w fun e w' => e = .returned (.tuple #[nilV, nilV, .int .i64 (er : Int)]) ∧ Below w.heap.size w w' := by
  have q := Below.refl w.heap.size w
  obtain ⟨a, c, rfl, hc⟩ := hv.form hn
  have hset : ∀ W, Below w.heap.size w W → Calls Try.prog 30 #[.slice a n c] W fun e w' => e = .returned (.tuple #[nzV, .int .i64 (er : Int)]) ∧ Below W.heap.size W w' := fun W b => (nsettled_any n _ ws W (hv.up b) hn hb).mono fun e w' g => by
    rcases h with ⟨h1, rfl⟩ | ⟨h1, h2, rfl⟩
    · exact ⟨g.2.1 h1, g.2.2.2⟩
    · exact ⟨g.2.2.1 h1 h2, g.2.2.2⟩
  have he' : (er : Int) ≠ 0 := by omega
  clear hv hb h
  refine X.fn Try.func18 rfl (n := 66) rfl rfl ?_
  refine CC.seq ?_
  refine CC.region ?_
  refine LL.val (R.assign rfl rfl) rfl rfl rfl ?_
  refine LL.val (R.assign rfl rfl) rfl rfl rfl ?_
  refine LL.val (R.assign rfl rfl) rfl rfl rfl ?_
  refine LL.nilS ?_
  refine CC.fwd (l := 0) (α := Unit) (fun _ => []) (fun _ => [(10, .int .i64 (er : Int))]) (fun _ W => Below w.heap.size w W) rfl ?first ?pass
  case pass =>
    rintro _ W q
    refine CC.seq ?_
    refine CC.skip ?_
    refine EE.thenN ?_
    refine CC.seq ?_
    refine CC.region ?_
    refine LL.val (R.move rfl rfl) rfl rfl rfl ?_
    refine LL.val (R.assign rfl rfl) rfl rfl rfl ?_
    refine LL.val (R.assign rfl rfl) rfl rfl rfl ?_
    refine LL.val (R.assign rfl rfl) rfl rfl rfl ?_
    refine LL.nilS ?_
    refine CC.ret ?_
    refine EE.jumpR ?_
    refine EE.ret _ rfl rfl ?_
    exact ⟨rfl, q⟩
  case first =>
    refine CC.seq ?_
    refine CC.region ?_
    refine LL.val (R.assign rfl rfl) rfl rfl rfl ?_
    refine LL.nilS ?_
    refine CC.seq ?_
    refine CC.region ?_
    refine LL.val (R.assign rfl rfl) rfl rfl rfl ?_
    refine LL.nilS ?_
    refine CC.seq ?_
    refine CC.region ?_
    refine LL.val (R.move rfl rfl) rfl rfl rfl ?_
    (refine LL.call (R.call rfl rfl rfl) rfl rfl rfl (hset _ q) ?_; rintro e Wb25 ⟨rfl, bb22⟩; refine ⟨_, rfl, ?_⟩)
    have zbb22 := bb22.size
    replace q := q.trans (bb22.mono q.size)
    refine LL.val (R.move rfl rfl) rfl rfl rfl ?_
    refine LL.val (R.extract rfl rfl rfl) rfl rfl rfl ?_
    refine LL.val (R.extract rfl rfl rfl) rfl rfl rfl ?_
    refine LL.alloc ([Value.int IntKind.i64 0, Value.int IntKind.i64 0, Value.int IntKind.u64 0, Value.int IntKind.u64 0, Value.int IntKind.i64 0, Value.slice none 0 0, Value.slice none 0 0]) rfl rfl rfl rfl rfl ?_
    intro Wb58 gb59 egb59 rb60 zb61 bb57
    replace bb22 := bb22.trans (bb57.mono bb22.size)
    replace q := q.trans (bb57.mono q.size)
    refine LL.storeN (vs := [Value.int IntKind.i64 0, Value.int IntKind.i64 0, Value.int IntKind.u64 ↑0, Value.int IntKind.u64 ↑0, Value.int IntKind.i64 0, nilV, nilV]) rfl rfl rfl rfl rb60 (by exact Nat.le_of_ble_eq_true rfl) (ones_of rfl) rfl rfl ?_
    intro Wb71 rb72 bb70 zb73
    have hlbb70 := rb60.lt
    replace rb72 : RowL Wb71 _ 70 [Value.int IntKind.i64 0, Value.int IntKind.i64 0, Value.int IntKind.u64 ↑0, Value.int IntKind.u64 ↑0, Value.int IntKind.i64 0, nilV, nilV] := rb72
    clear rb60
    replace bb57 := bb57.grown bb70 bb57.size (by rintro k ⟨⟩; omega)
    replace bb22 := bb22.grown bb70 bb22.size (by rintro k ⟨⟩; omega)
    replace q := q.grown bb70 q.size (by rintro k ⟨⟩; omega)
    have rb60 := rb72
    clear rb72
    refine LL.val (R.assign rfl rfl) rfl rfl rfl ?_
    refine LL.nilS ?_
    refine CC.seq ?_
    refine CC.seq ?_
    refine CC.region ?_
    refine LL.val (R.move rfl rfl) rfl rfl rfl ?_
    refine LL.val (R.neT rfl rfl rfl (by omega)) rfl rfl rfl ?_
    refine LL.nilS ?_
    refine CC.yes rfl ?_
    refine CC.goto ?_
    refine EE.thenG ?_
    (refine EE.jumpTo () rfl ?_ q; exact ⟨rfl, trivial⟩)
theorem split_arg (n : Nat) (v : Value) (ws : List Nat) (w : World) (hv : ReadsT uE 1 w v ws) (hn : ws.length = n) (hb : ∀ x ∈ ws, x < 18446744073709551616) (hS : nodeS ws) (blk : Int) (N : Nat) (ps : List Pr) (eps : readF (gw ws 3) (ws.drop 8) = ps) (hN : ps.length = N) (h : ¬(1 ≤ blk ∧ blk ≤ 2047 ∧ 2 ≤ N)) : Calls Try.prog 18 #[v, .int .i64 blk] w fun e w' => e = .returned (.tuple #[nilV, nilV, .int .i64 2]) ∧ Below w.heap.size w w' := by
  have q := Below.refl w.heap.size w
  obtain ⟨a, c, rfl, hc⟩ := hv.form hn
  have hset : ∀ W, Below w.heap.size w W → Calls Try.prog 30 #[.slice a n c] W fun e w' => (∃ vo, e = .returned (.tuple #[vwV ws vo (.slice a n c), .int .i64 0]) ∧ OwnsT prE 2 w' W.heap.size 46 vo ps) ∧ Below W.heap.size W w' := fun W b => (nsettled_any n _ ws W (hv.up b) hn hb).mono fun e w' h => by
    rw [← eps]
    exact ⟨h.1 hS, h.2.2.2⟩
  clear hv hb hS eps
  refine X.fn Try.func18 rfl (n := 66) rfl rfl ?_
  refine CC.seq ?_
  refine CC.region ?_
  refine LL.val (R.assign rfl rfl) rfl rfl rfl ?_
  refine LL.val (R.assign rfl rfl) rfl rfl rfl ?_
  refine LL.val (R.assign rfl rfl) rfl rfl rfl ?_
  refine LL.nilS ?_
  refine CC.fwd (l := 0) (α := Unit) (fun _ => []) (fun _ => [(10, .int .i64 2)]) (fun _ W => Below w.heap.size w W) rfl ?first ?pass
  case pass =>
    rintro _ W q
    refine CC.seq ?_
    refine CC.skip ?_
    refine EE.thenN ?_
    refine CC.seq ?_
    refine CC.region ?_
    refine LL.val (R.move rfl rfl) rfl rfl rfl ?_
    refine LL.val (R.assign rfl rfl) rfl rfl rfl ?_
    refine LL.val (R.assign rfl rfl) rfl rfl rfl ?_
    refine LL.val (R.assign rfl rfl) rfl rfl rfl ?_
    refine LL.nilS ?_
    refine CC.ret ?_
    refine EE.jumpR ?_
    refine EE.ret _ rfl rfl ?_
    exact ⟨rfl, q⟩
  case first =>
    refine CC.seq ?_
    refine CC.region ?_
    refine LL.val (R.assign rfl rfl) rfl rfl rfl ?_
    refine LL.nilS ?_
    refine CC.seq ?_
    refine CC.region ?_
    refine LL.val (R.assign rfl rfl) rfl rfl rfl ?_
    refine LL.nilS ?_
    refine CC.seq ?_
    refine CC.region ?_
    refine LL.val (R.move rfl rfl) rfl rfl rfl ?_
    (refine LL.call (R.call rfl rfl rfl) rfl rfl rfl (hset _ q) ?_; rintro e Wb25 ⟨⟨vo, rfl, oo⟩, bb22⟩; refine ⟨_, rfl, ?_⟩; obtain ⟨av, cv, rfl, hcv⟩ := (oo.reads prEnc).form hN; clear oo)
    have zbb22 := bb22.size
    replace q := q.trans (bb22.mono q.size)
    refine LL.val (R.move rfl rfl) rfl rfl rfl ?_
    refine LL.val (R.extract rfl rfl rfl) rfl rfl rfl ?_
    refine LL.val (R.extract rfl rfl rfl) rfl rfl rfl ?_
    refine LL.alloc ([Value.int IntKind.i64 0, Value.int IntKind.i64 0, Value.int IntKind.u64 0, Value.int IntKind.u64 0, Value.int IntKind.i64 0, Value.slice none 0 0, Value.slice none 0 0]) rfl rfl rfl rfl rfl ?_
    intro Wb58 gb59 egb59 rb60 zb61 bb57
    replace bb22 := bb22.trans (bb57.mono bb22.size)
    replace q := q.trans (bb57.mono q.size)
    refine LL.storeN (vs := [Value.int IntKind.i64 ↑(gw ws 0 % 256), Value.int IntKind.i64 ↑(gw ws 1), Value.int IntKind.u64 ↑(gw ws 2), Value.int IntKind.u64 ↑(gw ws 3), Value.int IntKind.i64 ↑(gw ws 4), Value.slice av N cv, Value.slice a n c]) rfl rfl rfl rfl rb60 (by exact Nat.le_of_ble_eq_true rfl) (ones_of rfl) rfl rfl ?_
    intro Wb71 rb72 bb70 zb73
    have hlbb70 := rb60.lt
    replace rb72 : RowL Wb71 _ 70 [Value.int IntKind.i64 ↑(gw ws 0 % 256), Value.int IntKind.i64 ↑(gw ws 1), Value.int IntKind.u64 ↑(gw ws 2), Value.int IntKind.u64 ↑(gw ws 3), Value.int IntKind.i64 ↑(gw ws 4), Value.slice av N cv, Value.slice a n c] := rb72
    clear rb60
    replace bb57 := bb57.grown bb70 bb57.size (by rintro k ⟨⟩; omega)
    replace bb22 := bb22.grown bb70 bb22.size (by rintro k ⟨⟩; omega)
    replace q := q.grown bb70 q.size (by rintro k ⟨⟩; omega)
    have rb60 := rb72
    clear rb72
    refine LL.val (R.assign rfl rfl) rfl rfl rfl ?_
    refine LL.nilS ?_
    refine CC.seq ?_
    refine CC.seq ?_
    refine CC.region ?_
    refine LL.val (R.move rfl rfl) rfl rfl rfl ?_
    refine LL.val (R.neF rfl rfl rfl (by omega)) rfl rfl rfl ?_
    refine LL.nilS ?_
    refine CC.no rfl ?_
    refine CC.skip ?_
    refine EE.thenN ?_
    refine CC.seq ?_
    refine CC.seq ?_
    refine CC.region ?_
    refine LL.val (R.move rfl rfl) rfl rfl rfl ?_
    refine LL.vsplit (fun h => R.ltT rfl rfl rfl h) (fun h => R.ltF rfl rfl rfl (Int.not_lt.1 h)) rfl rfl rfl (fun cb114 => ?_) (fun cb114 => ?_)
    refine LL.val (R.move rfl rfl) rfl rfl rfl ?_
    refine LL.skip rfl rfl ?_
    refine LL.skip rfl rfl ?_
    refine LL.val (R.pick rfl rfl rfl) rfl rfl rfl ?_
    refine LL.val (R.move rfl rfl) rfl rfl rfl ?_
    refine LL.skip rfl rfl ?_
    refine LL.skip rfl rfl ?_
    refine LL.skip rfl rfl ?_
    refine LL.skip rfl rfl ?_
    refine LL.skip rfl rfl ?_
    refine LL.val (R.pick rfl rfl rfl) rfl rfl rfl ?_
    refine LL.nilS ?_
    refine CC.yes rfl ?_
    refine CC.seq ?_
    refine CC.region ?_
    refine LL.val (R.assign rfl rfl) rfl rfl rfl ?_
    refine LL.nilS ?_
    refine CC.goto ?_
    refine EE.thenG ?_
    (refine EE.jumpTo () rfl ?_ q; exact ⟨rfl, trivial⟩)
    refine LL.val (R.move rfl rfl) rfl rfl rfl ?_
    refine LL.val (R.move rfl rfl) rfl rfl rfl ?_
    refine LL.vsplit (fun h => R.geT rfl rfl rfl h) (fun h => R.geF rfl rfl rfl (Int.not_le.1 h)) rfl rfl rfl (fun cb179 => ?_) (fun cb179 => ?_)
    refine LL.val (R.pick rfl rfl rfl) rfl rfl rfl ?_
    refine LL.val (R.move rfl rfl) rfl rfl rfl ?_
    refine LL.skip rfl rfl ?_
    refine LL.skip rfl rfl ?_
    refine LL.skip rfl rfl ?_
    refine LL.skip rfl rfl ?_
    refine LL.skip rfl rfl ?_
    refine LL.val (R.pick rfl rfl rfl) rfl rfl rfl ?_
    refine LL.nilS ?_
    refine CC.yes rfl ?_
    refine CC.seq ?_
    refine CC.region ?_
    refine LL.val (R.assign rfl rfl) rfl rfl rfl ?_
    refine LL.nilS ?_
    refine CC.goto ?_
    refine EE.thenG ?_
    (refine EE.jumpTo () rfl ?_ q; exact ⟨rfl, trivial⟩)
    refine LL.val (R.pick rfl rfl rfl) rfl rfl rfl ?_
    refine LL.val (R.move rfl rfl) rfl rfl rfl ?_
    refine LL.val (R.field rfl rfl (I.fld rfl)) rfl rfl rfl ?_
    refine LL.val (R.field rfl rfl (I.fld rfl)) rfl rfl rfl ?_
    refine LL.val (R.load rfl rfl (I.ld1 rfl (RowL.cell rb60 rfl))) rfl rfl rfl ?_
    refine LL.val (R.len rfl rfl rfl rfl) rfl rfl rfl ?_
    refine LL.val (R.ltT rfl rfl rfl (by omega)) rfl rfl rfl ?_
    refine LL.val (R.pick rfl rfl rfl) rfl rfl rfl ?_
    refine LL.nilS ?_
    refine CC.yes rfl ?_
    refine CC.seq ?_
    refine CC.region ?_
    refine LL.val (R.assign rfl rfl) rfl rfl rfl ?_
    refine LL.nilS ?_
    refine CC.goto ?_
    refine EE.thenG ?_
    (refine EE.jumpTo () rfl ?_ q; exact ⟨rfl, trivial⟩)
end Go.Proofs.Ytfplilpefhhpnaa
/- node: forPair (written by gennd10.py). -/
namespace Go.Proofs.Ytfplilpefhhpnaa
set_option linter.unusedVariables false
set_option linter.unusedSimpArgs false
open Go.RowKit Go.Shelf
set_option maxRecDepth 100000
set_option maxHeartbeats 8000000
abbrev prV (k p : Nat) : Value := .agg #[.int .u64 (k : Int), .int .u64 (p : Int)]
theorem forPair_yes (n : Nat) (v : Value) (ws : List Nat) (w : World) (hv : ReadsT uE 1 w v ws) (hn : ws.length = n) (hb : ∀ x ∈ ws, x < 18446744073709551616) (hS : nodeS ws) (k p : Nat) (h1 : okP (gw ws 0 % 256) p) (h2 : okK (gw ws 0 % 256) (gw ws 2) k) : Calls Try.prog 39 #[v, prV k p] w fun e w' => (∃ vo, e = .returned (.tuple #[vwV ws vo v, .int .i64 0]) ∧ OwnsT prE 2 w' w.heap.size 46 vo (readF (gw ws 3) (ws.drop 8))) ∧ Below w.heap.size w w' := by
  have q := Below.refl w.heap.size w
  obtain ⟨a, c, rfl, hc⟩ := hv.form hn
  have hset : ∀ W, Below w.heap.size w W → Calls Try.prog 30 #[.slice a n c] W fun e w' => (∃ vo, e = .returned (.tuple #[vwV ws vo (.slice a n c), .int .i64 0]) ∧ OwnsT prE 2 w' W.heap.size 46 vo (readF (gw ws 3) (ws.drop 8))) ∧ Below W.heap.size W w' := fun W b => (nsettled_any n _ ws W (hv.up b) hn hb).mono fun e w' h => ⟨h.1 hS, h.2.2.2⟩
  clear hv hb hS
  refine X.fn Try.func39 rfl (n := 28) rfl rfl ?_
  refine CC.seq ?_
  refine CC.region ?_
  refine LL.box [Value.int IntKind.u64 ↑k, Value.int IntKind.u64 ↑p] rfl rfl rfl rfl rfl ?_
  intro W2 g3 eg3 r4 z5 b1
  replace q := q.trans (b1.mono q.size)
  have l6 := r4.lt
  refine LL.alloc ([Value.int IntKind.i64 0, Value.int IntKind.i64 0, Value.int IntKind.u64 0, Value.int IntKind.u64 0, Value.int IntKind.i64 0, Value.slice none 0 0, Value.slice none 0 0]) rfl rfl rfl rfl rfl ?_
  intro W8 g9 eg9 r10 z11 b7
  replace r4 := r4.up b7
  replace b1 := b1.trans (b7.mono b1.size)
  replace q := q.trans (b7.mono q.size)
  refine LL.val (R.assign rfl rfl) rfl rfl rfl ?_
  refine LL.nilS ?_
  refine CC.fwd (l := 0) (α := Unit) (fun _ => []) (fun _ => []) (fun _ _ => False) rfl ?first ?pass
  case pass =>
    rintro _ W ⟨⟩
  case first =>
    refine CC.seq ?_
    refine CC.region ?_
    refine LL.val (R.move rfl rfl) rfl rfl rfl ?_
    have la14 := r10.lt
    have la15 := r4.lt
    (refine LL.call (R.call rfl rfl rfl) rfl rfl rfl (hset _ q) ?_; rintro e Wa13 ⟨⟨vo, rfl, oo⟩, ba10⟩; refine ⟨_, rfl, ?_⟩; obtain ⟨av, cv, rfl, hcv⟩ := (oo.reads prEnc).form rfl; have hkk := Kept.refl (fun j => j < Wa13.heap.size ∧ w.heap.size + 1 < j) Wa13; have ooF := fun X (b : Kept (fun j => j < Wa13.heap.size ∧ w.heap.size + 1 < j) Wa13 X) => oo.kept b fun j h1 h2 => ⟨h2, by omega⟩; clear oo)
    have zba10 := ba10.size
    replace r10 := r10.up ba10
    replace b7 := b7.trans (ba10.mono b7.size)
    replace r4 := r4.up ba10
    replace b1 := b1.trans (ba10.mono b1.size)
    replace q := q.trans (ba10.mono q.size)
    refine LL.val (R.move rfl rfl) rfl rfl rfl ?_
    refine LL.val (R.extract rfl rfl rfl) rfl rfl rfl ?_
    refine LL.val (R.extract rfl rfl rfl) rfl rfl rfl ?_
    have la55 := r10.lt
    have la56 := r4.lt
    refine LL.alloc ([Value.int IntKind.i64 0, Value.int IntKind.i64 0, Value.int IntKind.u64 0, Value.int IntKind.u64 0, Value.int IntKind.i64 0, Value.slice none 0 0, Value.slice none 0 0]) rfl rfl rfl rfl rfl ?_
    intro Wa58 ga59 ega59 ra60 za61 ba57
    replace ba10 := ba10.trans (ba57.mono ba10.size)
    replace hkk := hkk.trans (bkept ba57 (fun j h => by have := h.1; have := hkk.size; omega))
    have ya62 := hkk.size
    replace r10 := r10.up ba57
    replace b7 := b7.trans (ba57.mono b7.size)
    replace r4 := r4.up ba57
    replace b1 := b1.trans (ba57.mono b1.size)
    replace q := q.trans (ba57.mono q.size)
    refine LL.storeN (vs := [Value.int IntKind.i64 ↑(gw ws 0 % 256), Value.int IntKind.i64 ↑(gw ws 1), Value.int IntKind.u64 ↑(gw ws 2), Value.int IntKind.u64 ↑(gw ws 3), Value.int IntKind.i64 ↑(gw ws 4), Value.slice av (readF (gw ws 3) (List.drop 8 ws)).length cv, Value.slice a n c]) rfl rfl rfl rfl ra60 (by exact Nat.le_of_ble_eq_true rfl) (ones_of rfl) rfl rfl ?_
    intro Wa74 ra75 ba73 za76
    have hlba73 := ra60.lt
    replace ra75 : RowL Wa74 _ 70 [Value.int IntKind.i64 ↑(gw ws 0 % 256), Value.int IntKind.i64 ↑(gw ws 1), Value.int IntKind.u64 ↑(gw ws 2), Value.int IntKind.u64 ↑(gw ws 3), Value.int IntKind.i64 ↑(gw ws 4), Value.slice av (readF (gw ws 3) (List.drop 8 ws)).length cv, Value.slice a n c] := ra75
    clear ra60
    replace ba57 := ba57.grown ba73 ba57.size (by rintro k ⟨⟩; omega)
    replace ba10 := ba10.grown ba73 ba10.size (by rintro k ⟨⟩; omega)
    replace hkk := hkk.trans (grown_kept ba73 (fun j h => by have := h.1; have := hkk.size; omega) (fun j h e => by cases e; have h2 := h.1; have h3 := h.2; omega))
    replace r10 := r10.gr ba73 (by have := r10.lt; omega)
    replace b7 := b7.grown ba73 b7.size (by rintro k ⟨⟩; omega)
    replace r4 := r4.gr ba73 (by have := r4.lt; omega)
    replace b1 := b1.grown ba73 b1.size (by rintro k ⟨⟩; omega)
    replace q := q.grown ba73 q.size (by rintro k ⟨⟩; omega)
    have ra60 := ra75
    clear ra75
    refine LL.val (R.assign rfl rfl) rfl rfl rfl ?_
    refine LL.nilS ?_
    refine CC.seq ?_
    refine CC.seq ?_
    refine CC.region ?_
    refine LL.val (R.move rfl rfl) rfl rfl rfl ?_
    refine LL.val (R.neF rfl rfl rfl (by omega)) rfl rfl rfl ?_
    refine LL.nilS ?_
    refine CC.no rfl ?_
    refine CC.skip ?_
    refine EE.thenN ?_
    refine CC.seq ?_
    refine CC.seq ?_
    refine CC.region ?_
    refine LL.val (R.field rfl rfl (I.fld rfl)) rfl rfl rfl ?_
    refine LL.val (R.load rfl rfl (I.ld1 rfl (RowL.cell r4 rfl))) rfl rfl rfl ?_
    refine LL.callBT (R.call rfl rfl rfl) rfl rfl rfl (vptr_d _ _ _ _ _ _ _ _ _ _ (by assumption)) (by first | assumption | omega) (fun Wa138 ba137 => ?_)
    have zba137 := ba137.size
    replace ba57 := ba57.trans (ba137.mono ba57.size)
    replace ba10 := ba10.trans (ba137.mono ba10.size)
    replace hkk := hkk.trans (bkept ba137 (fun j h => by have := h.1; have := hkk.size; omega))
    have ya139 := hkk.size
    replace r10 := r10.up ba137
    replace b7 := b7.trans (ba137.mono b7.size)
    replace r4 := r4.up ba137
    replace b1 := b1.trans (ba137.mono b1.size)
    replace q := q.trans (ba137.mono q.size)
    replace ra60 := ra60.up ba137
    refine LL.val (R.not rfl rfl) rfl rfl rfl ?_
    refine LL.val (R.move rfl rfl) rfl rfl rfl ?_
    refine LL.val (R.field rfl rfl (I.fld rfl)) rfl rfl rfl ?_
    refine LL.val (R.load rfl rfl (I.ld1 rfl (RowL.cell r4 rfl))) rfl rfl rfl ?_
    refine LL.callBT (R.call rfl rfl rfl) rfl rfl rfl (vkey_d _ _ _ _ _ _ _ _ _ _ (by assumption)) (by first | assumption | omega) (fun Wa191 ba190 => ?_)
    have zba190 := ba190.size
    replace ba137 := ba137.trans (ba190.mono ba137.size)
    replace ba57 := ba57.trans (ba190.mono ba57.size)
    replace ba10 := ba10.trans (ba190.mono ba10.size)
    replace hkk := hkk.trans (bkept ba190 (fun j h => by have := h.1; have := hkk.size; omega))
    have ya192 := hkk.size
    replace r10 := r10.up ba190
    replace b7 := b7.trans (ba190.mono b7.size)
    replace r4 := r4.up ba190
    replace b1 := b1.trans (ba190.mono b1.size)
    replace q := q.trans (ba190.mono q.size)
    replace ra60 := ra60.up ba190
    refine LL.val (R.not rfl rfl) rfl rfl rfl ?_
    refine LL.val (R.pick rfl rfl rfl) rfl rfl rfl ?_
    refine LL.nilS ?_
    refine CC.no rfl ?_
    refine CC.skip ?_
    refine EE.thenN ?_
    refine CC.seq ?_
    refine CC.seq ?_
    refine CC.region ?_
    refine LL.val (R.load rfl rfl (I.ldNc (vs := [Value.int IntKind.i64 ↑(gw ws 0 % 256), Value.int IntKind.i64 ↑(gw ws 1), Value.int IntKind.u64 ↑(gw ws 2), Value.int IntKind.u64 ↑(gw ws 3), Value.int IntKind.i64 ↑(gw ws 4), Value.slice av (readF (gw ws 3) (List.drop 8 ws)).length cv, Value.slice a n c]) (RowL.cells ra60 rfl) (by rfl) (by rfl))) rfl rfl rfl ?_
    refine LL.storeN (vs := [Value.int IntKind.i64 ↑(gw ws 0 % 256), Value.int IntKind.i64 ↑(gw ws 1), Value.int IntKind.u64 ↑(gw ws 2), Value.int IntKind.u64 ↑(gw ws 3), Value.int IntKind.i64 ↑(gw ws 4), Value.slice av (readF (gw ws 3) (List.drop 8 ws)).length cv, Value.slice a n c]) rfl rfl rfl rfl r10 (by exact Nat.le_of_ble_eq_true rfl) (ones_of rfl) rfl rfl ?_
    intro Wa234 ra235 ba233 za236
    have hlba233 := r10.lt
    replace ra235 : RowL Wa234 _ 70 [Value.int IntKind.i64 ↑(gw ws 0 % 256), Value.int IntKind.i64 ↑(gw ws 1), Value.int IntKind.u64 ↑(gw ws 2), Value.int IntKind.u64 ↑(gw ws 3), Value.int IntKind.i64 ↑(gw ws 4), Value.slice av (readF (gw ws 3) (List.drop 8 ws)).length cv, Value.slice a n c] := ra235
    clear r10
    replace hkk := hkk.trans (grown_kept ba233 (fun j h => by have := h.1; have := hkk.size; omega) (fun j h e => by cases e; have h2 := h.1; have h3 := h.2; omega))
    replace b7 := b7.grown ba233 b7.size (by rintro k ⟨⟩; omega)
    replace r4 := r4.gr ba233 (by have := r4.lt; omega)
    replace b1 := b1.grown ba233 b1.size (by rintro k ⟨⟩; omega)
    replace q := q.grown ba233 q.size (by rintro k ⟨⟩; omega)
    replace ra60 := ra60.gr ba233 (by have := ra60.lt; omega)
    have r10 := ra235
    clear ra235
    refine LL.val (R.assign rfl rfl) rfl rfl rfl ?_
    refine LL.nilS ?_
    refine CC.ret ?_
    refine EE.thenR ?_
    refine EE.jumpR ?_
    refine EE.ret2 rfl ⟨_, rfl, lvNc (RowL.cells0 (by assumption)) (by rfl) (by rfl)⟩ rfl ?_
    exact ⟨⟨_, rfl, OwnsT.lower (ooF _ hkk) (by omega)⟩, q⟩
end Go.Proofs.Ytfplilpefhhpnaa
/- node: moved, down (written by gennd11.py). -/
namespace Go.Proofs.Ytfplilpefhhpnaa
set_option linter.unusedVariables false
set_option linter.unusedSimpArgs false
open Go.RowKit Go.Shelf
set_option maxRecDepth 100000
set_option maxHeartbeats 8000000
abbrev ptV (a : Int) (v : Nat) : Value := .agg #[.int .i64 a, .int .u64 (v : Int)]
theorem down1_any (a : Int) (x : Nat) (w : World) (h : 0 ≤ a ∧ a ≤ 1000) : Calls Try.prog 78 #[ptV a x] w fun e w' => e = .returned (ptV (a + 8) x) ∧ Below w.heap.size w w' := by
  have q := Below.refl w.heap.size w
  refine X.fn Try.func78 rfl (n := 8) rfl rfl ?_
  refine CC.seq ?_
  refine CC.region ?_
  refine LL.box [Value.int IntKind.i64 a, Value.int IntKind.u64 ↑x] rfl rfl rfl rfl rfl ?_
  intro W2 g3 eg3 r4 z5 b1
  replace q := q.trans (b1.mono q.size)
  have l6 := r4.lt
  refine LL.alloc ([Value.int IntKind.i64 0, Value.int IntKind.u64 0]) rfl rfl rfl rfl rfl ?_
  intro W8 g9 eg9 r10 z11 b7
  replace r4 := r4.up b7
  replace b1 := b1.trans (b7.mono b1.size)
  replace q := q.trans (b7.mono q.size)
  refine LL.nilS ?_
  refine CC.seq ?_
  refine CC.region ?_
  refine LL.val (R.field rfl rfl (I.fld rfl)) rfl rfl rfl ?_
  refine LL.val (R.load rfl rfl (I.ld1 rfl (RowL.cell r4 rfl))) rfl rfl rfl ?_
  refine LL.val (R.addI rfl rfl rfl (by omega)) rfl rfl rfl ?_
  refine LL.val (R.field rfl rfl (I.fld rfl)) rfl rfl rfl ?_
  refine LL.store rfl rfl rfl rfl r4 (by exact Nat.le_of_ble_eq_true rfl) rfl rfl rfl rfl ?_
  intro W13 r14 b12 z15
  have hlb12 := r4.lt
  replace r14 : RowL W13 _ 68 [Value.int IntKind.i64 (a + 8), Value.int IntKind.u64 ↑x] := r14
  clear r4
  replace r10 := r10.gr b12 (by have := r10.lt; omega)
  replace b1 := b1.grown b12 b1.size (by rintro k ⟨⟩; omega)
  replace q := q.grown b12 q.size (by rintro k ⟨⟩; omega)
  have r4 := r14
  clear r14
  refine LL.nilS ?_
  refine CC.seq ?_
  refine CC.region ?_
  refine LL.val (R.load rfl rfl (I.ldNc (vs := [Value.int IntKind.i64 (a + 8), Value.int IntKind.u64 ↑x]) (RowL.cells r4 rfl) (by rfl) (by rfl))) rfl rfl rfl ?_
  refine LL.storeN (vs := [Value.int IntKind.i64 (a + 8), Value.int IntKind.u64 ↑x]) rfl rfl rfl rfl r10 (by exact Nat.le_of_ble_eq_true rfl) (ones_of rfl) rfl rfl ?_
  intro W17 r18 b16 z19
  have hlb16 := r10.lt
  replace r18 : RowL W17 _ 68 [Value.int IntKind.i64 (a + 8), Value.int IntKind.u64 ↑x] := r18
  clear r10
  replace b1 := b1.grown b16 b1.size (by rintro k ⟨⟩; omega)
  replace q := q.grown b16 q.size (by rintro k ⟨⟩; omega)
  replace r4 := r4.gr b16 (by have := r4.lt; omega)
  have r10 := r18
  clear r18
  refine LL.nilS ?_
  refine CC.ret ?_
  refine EE.retC rfl rfl (lvNc (RowL.cells0 (by assumption)) (by rfl) (by rfl)) ?_
  exact ⟨rfl, q⟩
def movP (os : List Pt) : List Pt := os.map fun p => (p.1 + 8, p.2)
theorem moved_any (os : List Pt) (v : Value) (w : World) (hv : ReadsT pE 2 w v os) (hl : os.length ≤ 2000) (hr : ∀ p ∈ os, 0 ≤ p.1 ∧ p.1 ≤ 1000) : Calls Try.prog 77 #[v, .func (.func 78) #[] #[]] w fun e w' => ∃ v', e = .returned v' ∧ OwnsT pE 2 w' w.heap.size 68 v' (movP os) ∧ Below w.heap.size w w' := by
  have q := Below.refl w.heap.size w
  obtain ⟨N, hN⟩ : ∃ N, os.length = N := ⟨_, rfl⟩
  obtain ⟨a, c, rfl, hc⟩ := hv.form hN
  rw [hN] at hl
  have hF : ∀ W, Below w.heap.size w W → ReadsT pE 2 W (.slice a N c) os := fun W b => hv.up b
  clear hv
  refine X.fn Try.func77 rfl (n := 22) rfl rfl ?_
  refine CC.seq ?_
  refine CC.region ?_
  refine LL.val (R.assign rfl rfl) rfl rfl rfl ?_
  refine LL.nilS ?_
  refine CC.seq ?_
  refine CC.region ?_
  refine LL.val (R.assign rfl rfl) rfl rfl rfl ?_
  refine LL.nilS ?_
  refine CC.seq ?_
  refine CC.seq ?_
  refine CC.region ?_
  refine LL.val (R.move rfl rfl) rfl rfl rfl ?_
  refine LL.val (R.len rfl rfl rfl rfl) rfl rfl rfl ?_
  refine LL.val (R.move rfl rfl) rfl rfl rfl ?_
  refine LL.nilS ?_
  refine CC.block ?_
  refine CC.loop (α := Nat × Value) (fun s => [(1, .func (.func 78) #[] #[]), (5, s.2), (8, .slice a N c), (9, .int .i64 (N : Int)), (10, .int .i64 (s.1 : Int))]) (fun s W => s.1 ≤ N ∧ Below w.heap.size w W ∧ OwnsT pE 2 W w.heap.size 68 s.2 (movP (os.take s.1))) (fun s => N - s.1) (0, .slice none 0 0) ⟨rfl, rfl, rfl, rfl, rfl, trivial⟩ ⟨Nat.zero_le _, q, OwnsT.none _ _ _⟩ ?_
  clear q
  rintro ⟨i, v⟩ W ⟨hi, q, oa⟩
  simp only at hi oa
  show CC none Try.prog _ 22 [] (sl [(1, .func (.func 78) #[] #[]), (5, v), (8, .slice a N c), (9, .int .i64 (N : Int)), (10, .int .i64 (i : Int))]) _ W
  have htl : (movP (os.take i)).length = i := by
    unfold movP
    rw [List.length_map, List.length_take]
    omega
  obtain ⟨a3, c3, rfl, hc3⟩ := (oa.reads pEnc).form htl
  by_cases hlt : i < N
  case neg =>
    obtain rfl : i = N := by omega
    have e : os.take i = os := List.take_of_length_le (by omega)
    rw [e] at oa
    refine CC.seq ?_
    refine CC.region ?_
    refine LL.val (R.ltF rfl rfl rfl (by omega)) rfl rfl rfl ?_
    refine LL.nilS ?_
    refine CC.seq ?_
    refine CC.no rfl ?_
    refine CC.exit ?_
    refine EE.thenX ?_
    refine EE.thenX ?_
    refine EE.inX ?_
    refine EE.thenN ?_
    refine CC.seq ?_
    refine CC.region ?_
    refine LL.val (R.move rfl rfl) rfl rfl rfl ?_
    refine LL.val (R.assign rfl rfl) rfl rfl rfl ?_
    refine LL.nilS ?_
    refine CC.ret ?_
    refine EE.ret _ rfl rfl ?_
    exact ⟨_, rfl, oa, q⟩
  obtain ⟨⟨x, y⟩, hx⟩ : ∃ x, os[i]? = some x := ⟨_, List.getElem?_eq_getElem (by omega)⟩
  have hxr := hr _ (List.mem_of_getElem? hx)
  simp only at hxr
  have rd := hF _ q
  obtain ⟨b1, o1, rfl, _, _⟩ := rd.get pEnc hx
  have m1 : CellsN W ⟨b1, o1 + i * 2, none⟩ 2 [.int .i64 x, .int .u64 (y : Int)] := rd.elemN pEnc hx
  have e3 : movP (os.take (i + 1)) = movP (os.take i) ++ [(x + 8, y)] := by
    unfold movP
    rw [List.take_add_one, hx, List.map_append]
    rfl
  have lw := q.size
  have hkk := Kept.refl (fun j => j < W.heap.size ∧ True) W
  have oaF := fun X (b : Kept (fun j => j < W.heap.size ∧ True) W X) => oa.kept b fun j h1 h2 => ⟨h2, trivial⟩
  clear rd hr oa
  refine CC.seq ?_
  refine CC.region ?_
  refine LL.val (R.ltT rfl rfl rfl (by omega)) rfl rfl rfl ?_
  refine LL.nilS ?_
  refine CC.seq ?_
  refine CC.yes rfl ?_
  refine CC.skip ?_
  refine EE.thenN ?_
  refine CC.seq ?_
  refine CC.block ?_
  refine CC.seq ?_
  refine CC.region ?_
  refine LL.val (R.index rfl rfl rfl (I.ixS rfl (by omega))) rfl rfl rfl ?_
  refine LL.val (R.load rfl rfl (I.ldNc (by assumption) rfl rfl)) rfl rfl rfl ?_
  refine LL.alloc ([Value.int IntKind.i64 0, Value.int IntKind.u64 0]) rfl rfl rfl rfl rfl ?_
  intro Wb2 gb3 egb3 rb4 zb5 bb1
  replace q := q.trans (bb1.mono q.size)
  replace m1 := m1.up bb1
  replace hkk := hkk.trans (bkept bb1 (fun j h => by have := h.1; have := hkk.size; omega))
  have yb6 := hkk.size
  refine LL.storeN (vs := [Value.int IntKind.i64 x, Value.int IntKind.u64 ↑y]) rfl rfl rfl rfl rb4 (by exact Nat.le_of_ble_eq_true rfl) (ones_of rfl) rfl rfl ?_
  intro Wb8 rb9 bb7 zb10
  have hlbb7 := rb4.lt
  replace rb9 : RowL Wb8 _ 68 [Value.int IntKind.i64 x, Value.int IntKind.u64 ↑y] := rb9
  clear rb4
  replace bb1 := bb1.grown bb7 bb1.size (by rintro k ⟨⟩; omega)
  replace q := q.grown bb7 q.size (by rintro k ⟨⟩; omega)
  replace m1 := m1.gr bb7 (by have := m1.lt; omega)
  replace hkk := hkk.trans (grown_kept bb7 (fun j h => by have := h.1; have := hkk.size; omega) (fun j h e => by cases e; have h2 := h.1; have h3 := h.2; omega))
  have rb4 := rb9
  clear rb9
  refine LL.nilS ?_
  refine CC.region ?_
  refine LL.val (R.move rfl rfl) rfl rfl rfl ?_
  refine LL.val (R.move rfl rfl) rfl rfl rfl ?_
  refine LL.val (R.load rfl rfl (I.ldNc (vs := [Value.int IntKind.i64 x, Value.int IntKind.u64 ↑y]) (RowL.cells rb4 rfl) (by rfl) (by rfl))) rfl rfl rfl ?_
  refine LL.call (R.callV rfl rfl rfl rfl) rfl rfl rfl (down1_any _ _ _ (by omega)) ?_
  rintro e Wb12 ⟨rfl, bb11⟩
  refine ⟨_, rfl, ?_⟩
  have zbb11 := bb11.size
  replace bb1 := bb1.trans (bb11.mono bb1.size)
  replace q := q.trans (bb11.mono q.size)
  replace m1 := m1.up bb11
  replace hkk := hkk.trans (bkept bb11 (fun j h => by have := h.1; have := hkk.size; omega))
  have yb14 := hkk.size
  replace rb4 := rb4.up bb11
  have lb15 := rb4.lt
  refine LL.lit (e := 68) [Value.int IntKind.i64 (x + 8), Value.int IntKind.u64 ↑y] 1 rfl rfl (fun _ => by kernel_rfl) rfl rfl ?_
  intro Wb17 gb18 egb18 rb19 zb20 bb16
  replace bb11 := bb11.trans (bb16.mono bb11.size)
  replace bb1 := bb1.trans (bb16.mono bb1.size)
  replace q := q.trans (bb16.mono q.size)
  replace m1 := m1.up bb16
  replace hkk := hkk.trans (bkept bb16 (fun j h => by have := h.1; have := hkk.size; omega))
  have yb21 := hkk.size
  replace rb4 := rb4.up bb16
  (have oa := oaF _ hkk; clear oaF hkk; refine LL.appendT2 rfl rfl pEnc ElPut oa (us := [((x + 8 : Int), y)]) (RowL.readsT pEnc (ts := [((x + 8 : Int), y)]) (by assumption) 1 (Nat.le_refl _)) (by simp [maxLen]; omega) (by simp; omega) (by have := q.size; omega) rfl rfl ?_; intro v' Wz ob gra hva; replace q := q.grown gra q.size (fun g hg => by have := own_ge oa g hg; omega); clear oa hva gra; rw [← e3] at ob)
  refine LL.val (R.assign rfl rfl) rfl rfl rfl ?_
  refine LL.nil ?_
  refine EE.inN ?_
  refine EE.thenN ?_
  refine CC.region ?_
  refine LL.val (R.addNc rfl rfl rfl rfl (by omega)) rfl rfl rfl ?_
  refine LL.val (R.move rfl rfl) rfl rfl rfl ?_
  refine LL.nil ?_
  exact EE.round (i + 1, _) ⟨rfl, rfl, rfl, rfl, rfl, trivial⟩ ⟨by show i + 1 ≤ N; omega, q, ob⟩ (by show N - (i + 1) < N - i; omega)
theorem down_any (os : List Pt) (v : Value) (w : World) (hv : ReadsT pE 2 w v os) (hl : os.length ≤ 2000) (hr : ∀ p ∈ os, 0 ≤ p.1 ∧ p.1 ≤ 1000) : Calls Try.prog 53 #[v] w fun e w' => ∃ v', e = .returned v' ∧ OwnsT pE 2 w' w.heap.size 68 v' (movP os) ∧ Below w.heap.size w w' := by
  have q := Below.refl w.heap.size w
  obtain ⟨a, c, rfl, hc⟩ := hv.form rfl
  refine X.fn Try.func53 rfl (n := 5) rfl rfl ?_
  refine CC.seq ?_
  refine CC.region ?_
  refine LL.val (R.assign rfl rfl) rfl rfl rfl ?_
  refine LL.nilS ?_
  refine CC.seq ?_
  refine CC.region ?_
  refine LL.val (R.move rfl rfl) rfl rfl rfl ?_
  (refine LL.call (R.call rfl rfl rfl) rfl rfl rfl (moved_any os _ _ (by assumption) hl hr) ?_; rintro e W18 ⟨v7, rfl, o7, b15⟩; refine ⟨_, rfl, ?_⟩; obtain ⟨a7, c7, rfl, hc7⟩ := (o7.reads pEnc).form rfl)
  have zb15 := b15.size
  replace q := q.trans (b15.mono q.size)
  replace hv := hv.up b15
  refine LL.val (R.assign rfl rfl) rfl rfl rfl ?_
  refine LL.nilS ?_
  refine CC.ret ?_
  refine EE.ret _ rfl rfl ?_
  exact ⟨_, rfl, OwnsT.lower (by assumption) (by omega), q⟩
end Go.Proofs.Ytfplilpefhhpnaa
/- node: the closure of Put (written by gennd12.py). -/
namespace Go.Proofs.Ytfplilpefhhpnaa
set_option linter.unusedVariables false
set_option linter.unusedSimpArgs false
open Go.RowKit Go.Shelf
set_option maxRecDepth 100000
set_option maxHeartbeats 8000000
theorem putC_any (left n k p gp : Nat) (v : Value) (s : List Nat) (w : World) (hv : ReadsT uE 1 w v s) (hn : s.length = n) (h80 : n ≤ 1048576) (r : RowL w gp 46 [.int .u64 (k : Int), .int .u64 (p : Int)]) : Calls Try.prog 41 #[.int .u64 (left : Int), v, .pointer (some ⟨gp, 0, none⟩)] w fun e w' => ∃ vo, e = .returned (.tuple #[vo, .int .i64 ((putF left s k p).1 : Int)]) ∧ OwnsT pE 2 w' w.heap.size 68 vo (putF left s k p).2 ∧ Below w.heap.size w w' := by
  have q := Below.refl w.heap.size w
  obtain ⟨a, c, rfl, hc⟩ := hv.form hn
  refine X.fn Try.func41 rfl (n := 13) rfl rfl ?_
  refine CC.seq ?_
  refine CC.region ?_
  refine LL.val (R.assign rfl rfl) rfl rfl rfl ?_
  refine LL.val (R.assign rfl rfl) rfl rfl rfl ?_
  refine LL.nilS ?_
  refine CC.seq ?_
  refine CC.region ?_
  refine LL.val (R.move rfl rfl) rfl rfl rfl ?_
  refine LL.val (R.move rfl rfl) rfl rfl rfl ?_
  refine LL.val (R.load rfl rfl (I.ldNc (vs := [Value.int IntKind.u64 ↑k, Value.int IntKind.u64 ↑p]) (RowL.cells r rfl) (by rfl) (by rfl))) rfl rfl rfl ?_
  have l45 := r.lt
  (refine LL.call (R.call rfl rfl rfl) rfl rfl rfl (put_any left n k p _ s _ (by assumption) hn h80) ?_; rintro e W44 ⟨vo, rfl, oo, b41⟩; refine ⟨_, rfl, ?_⟩; obtain ⟨av, cv, rfl, hcv⟩ := (oo.reads pEnc).form rfl)
  have zb41 := b41.size
  replace r := r.up b41
  replace q := q.trans (b41.mono q.size)
  replace hv := hv.up b41
  refine LL.val (R.extract rfl rfl rfl) rfl rfl rfl ?_
  refine LL.val (R.extract rfl rfl rfl) rfl rfl rfl ?_
  refine LL.val (R.assign rfl rfl) rfl rfl rfl ?_
  refine LL.val (R.assign rfl rfl) rfl rfl rfl ?_
  refine LL.nilS ?_
  refine CC.ret ?_
  refine EE.ret _ rfl rfl ?_
  exact ⟨_, rfl, OwnsT.lower (by assumption) (by omega), q⟩
end Go.Proofs.Ytfplilpefhhpnaa
/- node: change (written by gennd13.py). -/
namespace Go.Proofs.Ytfplilpefhhpnaa
set_option linter.unusedVariables false
set_option linter.unusedSimpArgs false
open Go.RowKit Go.Shelf
set_option maxRecDepth 100000
set_option maxHeartbeats 8000000
end Go.Proofs.Ytfplilpefhhpnaa
/- node: change that succeeds (written by gennd14.py). -/
namespace Go.Proofs.Ytfplilpefhhpnaa
set_option linter.unusedVariables false
set_option linter.unusedSimpArgs false
open Go.RowKit Go.Shelf
set_option maxRecDepth 100000
set_option maxHeartbeats 8000000
theorem movP_len (os : List Pt) : (movP os).length = os.length := List.length_map _
theorem change_other (gv : Nat) (l s : Int) (lo le : Nat) (wy way : Nat) (pv : Value) (bk off c : Nat) (F : FuncId) (cap : Array Value) (hE : entB Try.prog F = true) (w : World) (hc : 64 ≤ c) (r : RowL w gv 70 (viewL l s lo le (wy : Int) pv (.slice (some ⟨bk, off, none⟩) 64 c))) (os : List Pt) (hl : os.length ≤ 2000) (hr : ∀ p ∈ os, 0 ≤ p.1 ∧ p.1 ≤ 1000) (hw : wy ≠ way) (hy : wy ≤ 2 ∧ way ≤ 2) (hF : ∀ W, Below w.heap.size w W → Calls Try.prog F (#[.int .u64 (le : Int), .slice (some ⟨bk, off + 8 * 1, none⟩) (64 - 8) (c - 8)] ++ cap) W fun e w' => ∃ vo, e = .returned (.tuple #[vo, .int .i64 0]) ∧ OwnsT pE 2 w' W.heap.size 68 vo os ∧ Below W.heap.size W w') : Calls Try.prog 40 #[.pointer (some ⟨gv, 0, none⟩), .int .i64 (way : Int), .func (.func F) #[] cap] w fun e w' => ∃ v', e = .returned (.tuple #[v', .int .i64 0]) ∧ OwnsT pE 2 w' w.heap.size 68 v' (((4 : Int), way) :: movP os) ∧ Below w.heap.size w w' := by
  have q := Below.refl w.heap.size w
  have hml := movP_len os
  have hcb : IntKind.u64.wrap (way : Int) = (way : Int) := by
    rw [IntKind.wrap_u64]
    omega
  refine X.fn Try.func40 rfl (n := 46) rfl rfl ?_
  refine CC.seq ?_
  refine CC.region ?_
  refine LL.val (R.assign rfl rfl) rfl rfl rfl ?_
  refine LL.val (R.assign rfl rfl) rfl rfl rfl ?_
  refine LL.nilS ?_
  refine CC.seq ?_
  refine CC.freeZ (fun W_ j => j < W_.heap.size ∧ (True)) (by kernel_rfl) (by kernel_rfl) (fun W34 b33 z35 => ?_)
  replace r := r.up b33
  replace q := q.trans (b33.mono q.size)
  have hok : Kept (fun j => j < W34.heap.size ∧ (True)) W34 W34 := Kept.refl _ _
  have fzr := fzRow (K := fun j => j < W34.heap.size ∧ (True)) r ⟨r.lt, (by first | trivial | omega)⟩
  refine AA.pure 0 rfl hok (by kernel_rfl) (fun w' b' => R.move rfl rfl) rfl rfl ?_
  refine AA.pure 1 rfl hok (by kernel_rfl) (fun w' b' => R.move rfl rfl) rfl rfl ?_
  refine AA.pure 2 rfl hok (by kernel_rfl) (fun w' b' => R.nil rfl rfl) rfl rfl ?_
  refine AA.pure 3 rfl hok (by kernel_rfl) (fun w' b' => R.field rfl rfl (I.fld rfl)) rfl rfl ?_
  refine AA.pure 4 rfl hok (by kernel_rfl) (fun w' b' => R.field rfl rfl (I.fld rfl)) rfl rfl ?_
  refine AA.pure 5 rfl hok (by kernel_rfl) (fun w' b' => R.load rfl rfl (I.ld1 rfl (RowL.cell (fzr w' b') rfl))) rfl rfl ?_
  refine AA.pure 6 rfl hok (by kernel_rfl) (fun w' b' => R.move rfl rfl) rfl rfl ?_
  refine AA.pure 7 rfl hok (by kernel_rfl) (fun w' b' => R.nil rfl rfl) rfl rfl ?_
  refine AA.pure 8 rfl hok (by kernel_rfl) (fun w' b' => R.field rfl rfl (I.fld rfl)) rfl rfl ?_
  refine AA.pure 9 rfl hok (by kernel_rfl) (fun w' b' => R.load rfl rfl (I.ld1 rfl (RowL.cell (fzr w' b') rfl))) rfl rfl ?_
  refine AA.one 10 (by kernel_rfl) ?_
  (refine SR.val rfl (R.slice rfl rfl rfl rfl rfl (I.slFrom (lo := 8) rfl (by omega) (by omega) (by omega))) rfl rfl hok ?_)
  refine AA.one 11 (by kernel_rfl) ?_
  have l40 := r.lt
  (refine SR.call rfl (R.callV rfl rfl rfl hE) rfl rfl (hF _ q) ?_; rintro e W39 ⟨vo, rfl, oo, b36⟩; refine ⟨_, rfl, ?_⟩; obtain ⟨av, cv, rfl, hcv⟩ := (oo.reads pEnc).form rfl; have ooF := fun X (b : Below W39.heap.size W39 X) => (oo.up b).reads pEnc; have qS := Below.refl W39.heap.size W39; clear oo)
  have zb36 := b36.size
  replace b33 := b33.trans (b36.mono b33.size)
  replace r := r.up b36
  replace q := q.trans (b36.mono q.size)
  replace hok := hok.trans (bkept b36 (fun j h => by have := h.1; have := hok.size; omega))
  have y44 := hok.size
  refine ⟨hok, ?_⟩
  refine AA.pure 12 rfl hok (by kernel_rfl) (fun w' b' => R.move rfl rfl) rfl rfl ?_
  refine AA.pure 13 rfl hok (by kernel_rfl) (fun w' b' => R.extract rfl rfl rfl) rfl rfl ?_
  refine AA.pure 14 rfl hok (by kernel_rfl) (fun w' b' => R.extract rfl rfl rfl) rfl rfl ?_
  refine AA.pure 15 rfl hok (by kernel_rfl) (fun w' b' => R.assign rfl rfl) rfl rfl ?_
  refine AA.pure 16 rfl hok (by kernel_rfl) (fun w' b' => R.assign rfl rfl) rfl rfl ?_
  refine AA.done rfl ?_
  clear fzr hok
  refine EE.thenN ?_
  refine CC.seq ?_
  refine CC.seq ?_
  refine CC.region ?_
  refine LL.val (R.move rfl rfl) rfl rfl rfl ?_
  refine LL.val (R.neF rfl rfl rfl (by omega)) rfl rfl rfl ?_
  refine LL.nilS ?_
  refine CC.no rfl ?_
  refine CC.skip ?_
  refine EE.thenN ?_
  refine CC.seq ?_
  refine CC.region ?_
  refine LL.val (R.assign rfl rfl) rfl rfl rfl ?_
  refine LL.nilS ?_
  refine CC.seq ?_
  refine CC.seq ?_
  refine CC.region ?_
  refine LL.val (R.move rfl rfl) rfl rfl rfl ?_
  refine LL.val (R.nil rfl rfl) rfl rfl rfl ?_
  refine LL.val (R.field rfl rfl (I.fld rfl)) rfl rfl rfl ?_
  refine LL.val (R.field rfl rfl (I.fld rfl)) rfl rfl rfl ?_
  refine LL.val (R.load rfl rfl (I.ld1 rfl (RowL.cell r rfl))) rfl rfl rfl ?_
  refine LL.val (R.move rfl rfl) rfl rfl rfl ?_
  refine LL.val (R.neT rfl rfl rfl (by omega)) rfl rfl rfl ?_
  refine LL.nilS ?_
  refine CC.yes rfl ?_
  refine CC.region ?_
  refine LL.val (R.move rfl rfl) rfl rfl rfl ?_
  refine LL.val (R.move rfl rfl) rfl rfl rfl ?_
  refine LL.val (R.convI rfl rfl rfl rfl (wrapU (by omega) (by omega))) rfl rfl rfl ?_
  refine LL.val (R.buildV rfl rfl (v := .agg #[Value.int IntKind.i64 4, Value.int IntKind.u64 ↑way]) (fun _ => by kernel_rfl)) rfl rfl rfl ?_
  have l285 := r.lt
  refine LL.lit (e := 68) [Value.int IntKind.i64 4, Value.int IntKind.u64 ↑way] 1 rfl rfl (fun _ => by kernel_rfl) rfl rfl ?_
  intro W287 g288 eg288 r289 z290 b286
  replace b36 := b36.trans (b286.mono b36.size)
  replace qS := qS.trans (b286.mono qS.size)
  replace b33 := b33.trans (b286.mono b33.size)
  replace r := r.up b286
  replace q := q.trans (b286.mono q.size)
  (refine LL.appendT2 rfl rfl pEnc ElPut (OwnsT.none _ w.heap.size _) (us := [((4 : Int), way)]) (RowL.readsT pEnc (ts := [((4 : Int), way)]) (by assumption) 1 (Nat.le_refl _)) (by simp [maxLen]) (by simp) (by have := q.size; omega) rfl rfl ?_; intro v' Wz ob gra hva; replace q := q.grown gra q.size (fun g hg => by simp [Value.ownBlock] at hg); replace qS := qS.grown gra qS.size (fun g hg => by simp [Value.ownBlock] at hg); clear hva gra; replace ob : OwnsT pE 2 Wz w.heap.size 68 v' [((4 : Int), way)] := ob; obtain ⟨a3, c3, rfl, hc3⟩ := (ob.reads pEnc).form rfl)
  refine LL.val (R.assign rfl rfl) rfl rfl rfl ?_
  refine LL.nilS ?_
  refine CC.seq ?_
  refine CC.region ?_
  refine LL.val (R.move rfl rfl) rfl rfl rfl ?_
  refine LL.val (R.move rfl rfl) rfl rfl rfl ?_
  (refine LL.call (R.call rfl rfl rfl) rfl rfl rfl (down_any os _ _ (ooF _ qS) hl hr) ?_; rintro e W361 ⟨v7, rfl, o7, b358⟩; refine ⟨_, rfl, ?_⟩; obtain ⟨a7, c7, rfl, hc7⟩ := (o7.reads pEnc).form rfl)
  have zb358 := b358.size
  replace q := q.trans (b358.mono q.size)
  replace qS := qS.trans (b358.mono qS.size)
  replace ob := ob.up b358
  (refine LL.appendT2 rfl rfl pEnc ElPut ob (us := movP os) (o7.reads pEnc) (by simp [maxLen]; omega) (by simp; omega) (by have := q.size; omega) rfl rfl ?_; intro v' Wz oc gra hva; replace q := q.grown gra q.size (fun g hg => by have := own_ge ob g hg; omega); clear o7 hva gra)
  refine LL.val (R.assign rfl rfl) rfl rfl rfl ?_
  refine LL.val (R.assign rfl rfl) rfl rfl rfl ?_
  refine LL.nilS ?_
  refine CC.ret ?_
  refine EE.ret _ rfl rfl ?_
  exact ⟨_, rfl, oc, q⟩
end Go.Proofs.Ytfplilpefhhpnaa
/- node: Put (written by gennd15.py). -/
namespace Go.Proofs.Ytfplilpefhhpnaa
set_option linter.unusedVariables false
set_option linter.unusedSimpArgs false
open Go.RowKit Go.Shelf
set_option maxRecDepth 100000
set_option maxHeartbeats 8000000
theorem nPut_other (v : Value) (ws : List Nat) (w : World) (hv : ReadsT uE 1 w v ws) (hn : ws.length = 64) (hb : ∀ x ∈ ws, x < 18446744073709551616) (hS : nodeS ws) (k p : Nat) (h1 : okP (gw ws 0 % 256) p) (h2 : okK (gw ws 0 % 256) (gw ws 2) k) (hw : gw ws 4 ≠ 1) (os : List Pt) (hp : putF (gw ws 3) (ws.drop 8) k p = (0, os)) (hl : os.length ≤ 2000) (hr : ∀ p ∈ os, 0 ≤ p.1 ∧ p.1 ≤ 1000) : Calls Try.prog 27 #[v, prV k p] w fun e w' => ∃ v', e = .returned (.tuple #[v', .int .i64 0]) ∧ OwnsT pE 2 w' w.heap.size 68 v' (((4 : Int), 1) :: movP os) ∧ Below w.heap.size w w' := by
  have q := Below.refl w.heap.size w
  obtain ⟨bk, off, c, rfl, hc⟩ := sl64 hv hn
  have hfp := fun W (b : Below w.heap.size w W) => forPair_yes 64 _ ws W (hv.up b) hn hb hS k p h1 h2
  have hs : ∀ W, Below w.heap.size w W → ReadsT uE 1 W (.slice (some ⟨bk, off + 8 * 1, none⟩) (64 - 8) (c - 8)) (ws.drop 8) := fun W b => by
    have := ((uE_reads hv).below b).from 8 (by decide)
    rw [show (ints .u64 ws).drop 8 = ints .u64 (ws.drop 8) by simp [ints]] at this
    exact reads_uE this
  have hd8 : (ws.drop 8).length = 56 := by rw [List.length_drop, hn]
  have hpc := fun gp W (b : Below w.heap.size w W) (r : RowL W gp 46 [.int .u64 (k : Int), .int .u64 (p : Int)]) => putC_any (gw ws 3) 56 k p gp _ (ws.drop 8) W (hs W b) hd8 (by decide) r
  rw [hp] at hpc
  have hw4 : gw ws 4 ≤ 2 := hS.1.2.d
  clear hv hb hS h1 h2 hs hp
  refine X.fn Try.func27 rfl (n := 21) rfl rfl ?_
  refine CC.seq ?_
  refine CC.region ?_
  refine LL.box [Value.int IntKind.u64 ↑k, Value.int IntKind.u64 ↑p] rfl rfl rfl rfl rfl ?_
  intro W16 g17 eg17 r18 z19 b15
  replace q := q.trans (b15.mono q.size)
  refine LL.val (R.assign rfl rfl) rfl rfl rfl ?_
  refine LL.val (R.assign rfl rfl) rfl rfl rfl ?_
  refine LL.nilS ?_
  refine CC.seq ?_
  refine CC.region ?_
  refine LL.val (R.move rfl rfl) rfl rfl rfl ?_
  refine LL.val (R.load rfl rfl (I.ldNc (vs := [Value.int IntKind.u64 ↑k, Value.int IntKind.u64 ↑p]) (RowL.cells r18 rfl) (by rfl) (by rfl))) rfl rfl rfl ?_
  have l88 := r18.lt
  (refine LL.call (R.call rfl rfl rfl) rfl rfl rfl (hfp _ q) ?_; rintro e W87 ⟨⟨vo, rfl, oo⟩, b84⟩; refine ⟨_, rfl, ?_⟩; obtain ⟨av, cv, rfl, hcv⟩ := (oo.reads prEnc).form rfl; clear oo)
  have zb84 := b84.size
  replace r18 := r18.up b84
  replace b15 := b15.trans (b84.mono b15.size)
  replace q := q.trans (b84.mono q.size)
  refine LL.val (R.move rfl rfl) rfl rfl rfl ?_
  refine LL.val (R.extract rfl rfl rfl) rfl rfl rfl ?_
  refine LL.val (R.extract rfl rfl rfl) rfl rfl rfl ?_
  have l156 := r18.lt
  refine LL.alloc ([Value.int IntKind.i64 0, Value.int IntKind.i64 0, Value.int IntKind.u64 0, Value.int IntKind.u64 0, Value.int IntKind.i64 0, Value.slice none 0 0, Value.slice none 0 0]) rfl rfl rfl rfl rfl ?_
  intro W158 g159 eg159 r160 z161 b157
  replace b84 := b84.trans (b157.mono b84.size)
  replace r18 := r18.up b157
  replace b15 := b15.trans (b157.mono b15.size)
  replace q := q.trans (b157.mono q.size)
  refine LL.storeN (vs := [Value.int IntKind.i64 ↑(gw ws 0 % 256), Value.int IntKind.i64 ↑(gw ws 1), Value.int IntKind.u64 ↑(gw ws 2), Value.int IntKind.u64 ↑(gw ws 3), Value.int IntKind.i64 ↑(gw ws 4), Value.slice av (readF (gw ws 3) (List.drop 8 ws)).length cv, Value.slice (some { block := bk, off := off }) 64 c]) rfl rfl rfl rfl r160 (by exact Nat.le_of_ble_eq_true rfl) (ones_of rfl) rfl rfl ?_
  intro W181 r182 b180 z183
  have hlb180 := r160.lt
  replace r182 : RowL W181 _ 70 [Value.int IntKind.i64 ↑(gw ws 0 % 256), Value.int IntKind.i64 ↑(gw ws 1), Value.int IntKind.u64 ↑(gw ws 2), Value.int IntKind.u64 ↑(gw ws 3), Value.int IntKind.i64 ↑(gw ws 4), Value.slice av (readF (gw ws 3) (List.drop 8 ws)).length cv, Value.slice (some { block := bk, off := off }) 64 c] := r182
  clear r160
  replace b157 := b157.grown b180 b157.size (by rintro k ⟨⟩; omega)
  replace b84 := b84.grown b180 b84.size (by rintro k ⟨⟩; omega)
  replace r18 := r18.gr b180 (by have := r18.lt; omega)
  replace b15 := b15.grown b180 b15.size (by rintro k ⟨⟩; omega)
  replace q := q.grown b180 q.size (by rintro k ⟨⟩; omega)
  have r160 := r182
  clear r182
  refine LL.val (R.assign rfl rfl) rfl rfl rfl ?_
  refine LL.nilS ?_
  refine CC.seq ?_
  refine CC.seq ?_
  refine CC.region ?_
  refine LL.val (R.move rfl rfl) rfl rfl rfl ?_
  refine LL.val (R.neF rfl rfl rfl (by omega)) rfl rfl rfl ?_
  refine LL.nilS ?_
  refine CC.no rfl ?_
  refine CC.skip ?_
  refine EE.thenN ?_
  refine CC.seq ?_
  refine CC.region ?_
  refine LL.val (R.func rfl rfl rfl) rfl rfl rfl ?_
  have l269 := r18.lt
  have l270 := r160.lt
  (refine LL.call (R.call rfl rfl rfl) rfl rfl rfl (change_other _ _ _ _ _ _ 1 _ bk off c _ _ rfl _ hc (by assumption) os hl hr hw ⟨hw4, by omega⟩ (fun W' b => hpc _ W' (q.trans (b.mono q.size)) (RowL.up (by assumption) b))) ?_; rintro e W268 ⟨v9, rfl, o9, b265⟩; refine ⟨_, rfl, ?_⟩; obtain ⟨a9, c9, rfl, hc9⟩ := (o9.reads pEnc).form rfl)
  have zb265 := b265.size
  replace b157 := b157.trans (b265.mono b157.size)
  replace b84 := b84.trans (b265.mono b84.size)
  replace r18 := r18.up b265
  replace b15 := b15.trans (b265.mono b15.size)
  replace q := q.trans (b265.mono q.size)
  replace r160 := r160.up b265
  refine LL.val (R.extract rfl rfl rfl) rfl rfl rfl ?_
  refine LL.val (R.extract rfl rfl rfl) rfl rfl rfl ?_
  refine LL.val (R.assign rfl rfl) rfl rfl rfl ?_
  refine LL.val (R.assign rfl rfl) rfl rfl rfl ?_
  refine LL.nilS ?_
  refine CC.ret ?_
  refine EE.ret _ rfl rfl ?_
  exact ⟨_, rfl, OwnsT.lower (by assumption) (by omega), q⟩
end Go.Proofs.Ytfplilpefhhpnaa
/- slots: Each; the document's rows. -/
namespace Go.Proofs.Ytfplilpefhhpnaa
set_option linter.unusedVariables false
set_option linter.unusedSimpArgs false
open Go.RowKit Go.Shelf
set_option maxRecDepth 100000
set_option maxHeartbeats 4000000
end Go.Proofs.Ytfplilpefhhpnaa
/- slots: the document's rows, and what is read of them. -/
namespace Go.Proofs.Ytfplilpefhhpnaa
set_option linter.unusedVariables false
set_option linter.unusedSimpArgs false
open Go.RowKit Go.Shelf
set_option maxRecDepth 100000
set_option maxHeartbeats 4000000
--C ref09_Right | dright_F _ _ _ _ @w @p @p | S
theorem dright_F (left : Nat) (a : Option Addr) (n c : Nat) (w : World) (h : noRow left n) (hn : n ≤ 1048576) : Calls Try.prog 48 #[.int .u64 (left : Int), .slice a n c] w fun e w' => e = .returned (.bool false) ∧ w = w' := by
  have h2 : left = 0 ∨ n % 2 ≠ 0 ∨ n < 4 ∨ 56 < n := by
    unfold noRow at h
    omega
  clear h
  refine X.fn Try.func48 rfl (n := 23) rfl rfl ?_
  refine CC.seq ?_
  refine CC.region ?_
  refine LL.val (R.assign rfl rfl) rfl rfl rfl ?_
  refine LL.nilS ?_
  refine CC.seq ?_
  refine CC.region ?_
  refine LL.val (R.move rfl rfl) rfl rfl rfl ?_
  refine LL.vsplit (fun h => R.neT rfl rfl rfl h) (fun h => R.neF rfl rfl rfl (Decidable.not_not.1 h)) rfl rfl rfl (fun c1 => ?_) (fun c1 => ?_)
  refine LL.val (R.move rfl rfl) rfl rfl rfl ?_
  refine LL.val (R.move rfl rfl) rfl rfl rfl ?_
  refine LL.val (R.len rfl rfl rfl rfl) rfl rfl rfl ?_
  refine LL.val (R.remNc rfl rfl rfl rfl (by omega)) rfl rfl rfl ?_
  refine LL.vsplit (fun h => R.eqT rfl rfl rfl h) (fun h => R.eqF rfl rfl rfl h) rfl rfl rfl (fun c2 => ?_) (fun c2 => ?_)
  refine LL.val (R.pick rfl rfl rfl) rfl rfl rfl ?_
  refine LL.val (R.move rfl rfl) rfl rfl rfl ?_
  refine LL.val (R.move rfl rfl) rfl rfl rfl ?_
  refine LL.val (R.len rfl rfl rfl rfl) rfl rfl rfl ?_
  refine LL.vsplit (fun h => R.geT rfl rfl rfl h) (fun h => R.geF rfl rfl rfl (Int.not_le.1 h)) rfl rfl rfl (fun c3 => ?_) (fun c3 => ?_)
  refine LL.val (R.pick rfl rfl rfl) rfl rfl rfl ?_
  refine LL.val (R.move rfl rfl) rfl rfl rfl ?_
  refine LL.val (R.move rfl rfl) rfl rfl rfl ?_
  refine LL.val (R.len rfl rfl rfl rfl) rfl rfl rfl ?_
  refine LL.val (R.leF rfl rfl rfl (by omega)) rfl rfl rfl ?_
  refine LL.val (R.pick rfl rfl rfl) rfl rfl rfl ?_
  refine LL.val (R.assign rfl rfl) rfl rfl rfl ?_
  refine LL.nilS ?_
  refine CC.ret ?_
  refine EE.ret _ rfl rfl ?_
  exact ⟨rfl, rfl⟩
  refine LL.val (R.pick rfl rfl rfl) rfl rfl rfl ?_
  refine LL.val (R.move rfl rfl) rfl rfl rfl ?_
  refine LL.skip rfl rfl ?_
  refine LL.skip rfl rfl ?_
  refine LL.skip rfl rfl ?_
  refine LL.val (R.pick rfl rfl rfl) rfl rfl rfl ?_
  refine LL.val (R.assign rfl rfl) rfl rfl rfl ?_
  refine LL.nilS ?_
  refine CC.ret ?_
  refine EE.ret _ rfl rfl ?_
  exact ⟨rfl, rfl⟩
  refine LL.val (R.pick rfl rfl rfl) rfl rfl rfl ?_
  refine LL.val (R.move rfl rfl) rfl rfl rfl ?_
  refine LL.skip rfl rfl ?_
  refine LL.skip rfl rfl ?_
  refine LL.skip rfl rfl ?_
  refine LL.val (R.pick rfl rfl rfl) rfl rfl rfl ?_
  refine LL.val (R.move rfl rfl) rfl rfl rfl ?_
  refine LL.skip rfl rfl ?_
  refine LL.skip rfl rfl ?_
  refine LL.skip rfl rfl ?_
  refine LL.val (R.pick rfl rfl rfl) rfl rfl rfl ?_
  refine LL.val (R.assign rfl rfl) rfl rfl rfl ?_
  refine LL.nilS ?_
  refine CC.ret ?_
  refine EE.ret _ rfl rfl ?_
  exact ⟨rfl, rfl⟩
  refine LL.val (R.move rfl rfl) rfl rfl rfl ?_
  refine LL.skip rfl rfl ?_
  refine LL.skip rfl rfl ?_
  refine LL.skip rfl rfl ?_
  refine LL.skip rfl rfl ?_
  refine LL.val (R.pick rfl rfl rfl) rfl rfl rfl ?_
  refine LL.val (R.move rfl rfl) rfl rfl rfl ?_
  refine LL.skip rfl rfl ?_
  refine LL.skip rfl rfl ?_
  refine LL.skip rfl rfl ?_
  refine LL.val (R.pick rfl rfl rfl) rfl rfl rfl ?_
  refine LL.val (R.move rfl rfl) rfl rfl rfl ?_
  refine LL.skip rfl rfl ?_
  refine LL.skip rfl rfl ?_
  refine LL.skip rfl rfl ?_
  refine LL.val (R.pick rfl rfl rfl) rfl rfl rfl ?_
  refine LL.val (R.assign rfl rfl) rfl rfl rfl ?_
  refine LL.nilS ?_
  refine CC.ret ?_
  refine EE.ret _ rfl rfl ?_
  exact ⟨rfl, rfl⟩
theorem own_disj {v1 v2 : Value} (hd : ∀ g, v1.ownBlock = some g → v2.ownBlock ≠ some g) : v1.ownBlock = none ∨ v1.ownBlock ≠ v2.ownBlock := by
  cases h : v1.ownBlock with
  | none => exact .inl rfl
  | some g => exact .inr fun e => hd g h e.symm
theorem own_new2 {α : Type} {enc : α → List Value} {k base e : Nat} {ts : List α} {w : World} {v v' v2 : Value} (hva : v'.ownBlock = v.ownBlock ∨ ∃ b, v'.ownBlock = some b ∧ w.heap.size ≤ b) (hd : ∀ g, v.ownBlock = some g → v2.ownBlock ≠ some g) (o2 : OwnsT enc k w base e v2 ts) : ∀ g, v'.ownBlock = some g → v2.ownBlock ≠ some g := fun g hg h2 => by
  rcases hva with e1 | ⟨b, e1, hb⟩
  · exact hd g (by rw [← e1]; exact hg) h2
  · rw [e1] at hg; cases hg
    rcases own_lt o2 with e2 | ⟨b', e2, hb'⟩
    · rw [e2] at h2; cases h2
    · rw [e2] at h2; cases h2; omega
end Go.Proofs.Ytfplilpefhhpnaa
/- slots: the document's Same, has, fine, Check. -/
namespace Go.Proofs.Ytfplilpefhhpnaa
set_option linter.unusedVariables false
set_option linter.unusedSimpArgs false
open Go.RowKit Go.Shelf
set_option maxRecDepth 100000
set_option maxHeartbeats 4000000
theorem dprsame_any (va vb : Value) (xs ys : List Pr) (w : World) (ha : ReadsT prE 2 w va xs) (hb : ReadsT prE 2 w vb ys) (hlx : xs.length ≤ 1048576) (hly : ys.length ≤ 1048576) :
    Calls Try.prog 24 #[va, vb] w fun e w' => e = .returned (.bool (decide (xs = ys))) ∧ Below w.heap.size w w' := by
  have q := Below.refl w.heap.size w
  obtain ⟨N, hN⟩ : ∃ N, xs.length = N := ⟨_, rfl⟩
  obtain ⟨N2, hN2⟩ : ∃ N, ys.length = N := ⟨_, rfl⟩
  obtain ⟨a, cap, rfl, hc⟩ := ha.form hN
  obtain ⟨a2, cap2, rfl, hc2⟩ := hb.form hN2
  rw [hN] at hlx
  rw [hN2] at hly
  have hF1 : ∀ W, Below w.heap.size w W → ReadsT prE 2 W (.slice a N cap) xs := fun W b => ha.up b
  have hF2 : ∀ W, Below w.heap.size w W → ReadsT prE 2 W (.slice a2 N2 cap2) ys := fun W b => hb.up b
  clear ha hb
  by_cases hne : N = N2
  case neg =>
    rw [decide_eq_false fun e => hne (by rw [← hN, ← hN2, e])]
    refine X.fn Try.func24 rfl (n := 26) rfl rfl ?_
    refine CC.seq ?_
    refine CC.region ?_
    refine LL.val (R.assign rfl rfl) rfl rfl rfl ?_
    refine LL.nilS ?_
    refine CC.seq ?_
    refine CC.seq ?_
    refine CC.region ?_
    refine LL.val (R.move rfl rfl) rfl rfl rfl ?_
    refine LL.val (R.len rfl rfl rfl rfl) rfl rfl rfl ?_
    refine LL.val (R.move rfl rfl) rfl rfl rfl ?_
    refine LL.val (R.len rfl rfl rfl rfl) rfl rfl rfl ?_
    refine LL.val (R.neT rfl rfl rfl (by omega)) rfl rfl rfl ?_
    refine LL.nilS ?_
    refine CC.yes rfl ?_
    refine CC.seq ?_
    refine CC.region ?_
    refine LL.val (R.assign rfl rfl) rfl rfl rfl ?_
    refine LL.nilS ?_
    refine CC.ret ?_
    refine EE.thenR ?_
    refine EE.ret _ rfl rfl ?_
    exact ⟨rfl, q⟩
  subst hne
  refine X.fn Try.func24 rfl (n := 26) rfl rfl ?_
  refine CC.seq ?_
  refine CC.region ?_
  refine LL.val (R.assign rfl rfl) rfl rfl rfl ?_
  refine LL.nilS ?_
  refine CC.seq ?_
  refine CC.seq ?_
  refine CC.region ?_
  refine LL.val (R.move rfl rfl) rfl rfl rfl ?_
  refine LL.val (R.len rfl rfl rfl rfl) rfl rfl rfl ?_
  refine LL.val (R.move rfl rfl) rfl rfl rfl ?_
  refine LL.val (R.len rfl rfl rfl rfl) rfl rfl rfl ?_
  refine LL.val (R.neF rfl rfl rfl (by omega)) rfl rfl rfl ?_
  refine LL.nilS ?_
  refine CC.no rfl ?_
  refine CC.skip ?_
  refine EE.thenN ?_
  refine CC.seq ?_
  refine CC.seq ?_
  refine CC.region ?_
  refine LL.val (R.assign rfl rfl) rfl rfl rfl ?_
  refine LL.nilS ?_
  refine CC.block ?_
  refine CC.loop (α := Nat) (fun i => [(0, .slice a N cap), (1, .slice a2 N cap2), (5, .int .i64 (i : Int))]) (fun i W => i ≤ N ∧ Below w.heap.size w W ∧ xs.take i = ys.take i) (fun i => N - i) 0 ⟨rfl, rfl, rfl, trivial⟩ ⟨Nat.zero_le _, q, rfl⟩ ?_
  clear q
  rintro i W ⟨hi, q, ht⟩
  show CC none Try.prog _ 26 [] (sl [(0, .slice a N cap), (1, .slice a2 N cap2), (5, .int .i64 (i : Int))]) _ W
  by_cases hlt : i < N
  case neg =>
    obtain rfl : i = N := by omega
    rw [List.take_of_length_le (by omega), List.take_of_length_le (by omega)] at ht
    rw [decide_eq_true ht]
    refine CC.seq ?_
    refine CC.seq ?_
    refine CC.region ?_
    refine LL.val (R.move rfl rfl) rfl rfl rfl ?_
    refine LL.val (R.move rfl rfl) rfl rfl rfl ?_
    refine LL.val (R.len rfl rfl rfl rfl) rfl rfl rfl ?_
    refine LL.val (R.ltF rfl rfl rfl (by omega)) rfl rfl rfl ?_
    refine LL.nilS ?_
    refine CC.no rfl ?_
    refine CC.exit ?_
    refine EE.thenX ?_
    refine EE.thenX ?_
    refine EE.inX ?_
    refine EE.thenN ?_
    refine CC.seq ?_
    refine CC.region ?_
    refine LL.val (R.assign rfl rfl) rfl rfl rfl ?_
    refine LL.nilS ?_
    refine CC.ret ?_
    refine EE.ret _ rfl rfl ?_
    exact ⟨rfl, q⟩
  obtain ⟨⟨k1, p1⟩, hx⟩ : ∃ x, xs[i]? = some x := ⟨_, List.getElem?_eq_getElem (by omega)⟩
  obtain ⟨⟨k2, p2⟩, hy⟩ : ∃ y, ys[i]? = some y := ⟨_, List.getElem?_eq_getElem (by omega)⟩
  obtain ⟨b1, o1, rfl, _, _⟩ := (hF1 _ q).get prEnc hx
  obtain ⟨b2, o2, rfl, _, _⟩ := (hF2 _ q).get prEnc hy
  have m1 : CellsN W ⟨b1, o1 + i * 2, none⟩ 2 [.int .u64 (k1 : Int), .int .u64 (p1 : Int)] := (hF1 W q).elemN prEnc hx
  have m2 : CellsN W ⟨b2, o2 + i * 2, none⟩ 2 [.int .u64 (k2 : Int), .int .u64 (p2 : Int)] := (hF2 W q).elemN prEnc hy
  by_cases h1 : k1 = k2 ∧ p1 = p2
  · obtain ⟨rfl, rfl⟩ := h1
    refine CC.seq ?_
    refine CC.seq ?_
    refine CC.region ?_
    refine LL.val (R.move rfl rfl) rfl rfl rfl ?_
    refine LL.val (R.move rfl rfl) rfl rfl rfl ?_
    refine LL.val (R.len rfl rfl rfl rfl) rfl rfl rfl ?_
    refine LL.val (R.ltT rfl rfl rfl (by omega)) rfl rfl rfl ?_
    refine LL.nilS ?_
    refine CC.yes rfl ?_
    refine CC.skip ?_
    refine EE.thenN ?_
    refine CC.seq ?_
    refine CC.block ?_
    refine CC.seq ?_
    refine CC.quietB (by kernel_rfl) (by kernel_rfl) (fun Wc2 bc1 zc3 => ?_)
    replace q := q.trans (bc1.mono q.size)
    replace m1 := m1.up bc1
    replace m2 := m2.up bc1
    refine SS.val (R.move rfl rfl) rfl rfl ?_
    refine SS.val (R.move rfl rfl) rfl rfl ?_
    refine SS.val (R.index rfl rfl rfl (I.ixS rfl (by omega))) rfl rfl ?_
    refine SS.val (R.load rfl rfl (I.ldM (by assumption) rfl rfl)) rfl rfl ?_
    refine SS.val (R.move rfl rfl) rfl rfl ?_
    refine SS.val (R.move rfl rfl) rfl rfl ?_
    refine SS.val (R.index rfl rfl rfl (I.ixS rfl (by omega))) rfl rfl ?_
    refine SS.val (R.load rfl rfl (I.ldM (by assumption) rfl rfl)) rfl rfl ?_
    refine SS.val (R.neST (p := (↑k1 : Int) = ↑k1 ∧ (↑p1 : Int) = ↑p1) (bs := [decide ((↑k1 : Int) = ↑k1), decide ((↑p1 : Int) = ↑p1)]) rfl rfl rfl rfl (by kernel_rfl) (by kernel_rfl) (by simp) (by first | assumption | omega | exact ⟨rfl, rfl⟩ | exact fun h => h ⟨rfl, rfl⟩)) rfl rfl ?_
    refine SS.nilQ ?_
    refine EE.thenN ?_
    refine CC.no rfl ?_
    refine CC.skip ?_
    refine EE.inN ?_
    refine EE.thenN ?_
    refine CC.region ?_
    refine LL.val (R.move rfl rfl) rfl rfl rfl ?_
    refine LL.val (R.addNc rfl rfl rfl rfl (by omega)) rfl rfl rfl ?_
    refine LL.val (R.assign rfl rfl) rfl rfl rfl ?_
    refine LL.nil ?_
    exact EE.round (i + 1) ⟨rfl, rfl, rfl, trivial⟩ ⟨by show i + 1 ≤ N; omega, q, by rw [List.take_add_one, List.take_add_one, ht, hx, hy]⟩ (by show N - (i + 1) < N - i; omega)
  · have hne : xs ≠ ys := fun e => h1 (by rw [e, hy] at hx; cases hx; exact ⟨rfl, rfl⟩)
    rw [decide_eq_false hne]
    have h2 : (k1 : Int) ≠ k2 ∨ (p1 : Int) ≠ p2 := by omega
    clear h1
    rcases h2 with h2 | h2
    · refine CC.seq ?_
      refine CC.seq ?_
      refine CC.region ?_
      refine LL.val (R.move rfl rfl) rfl rfl rfl ?_
      refine LL.val (R.move rfl rfl) rfl rfl rfl ?_
      refine LL.val (R.len rfl rfl rfl rfl) rfl rfl rfl ?_
      refine LL.val (R.ltT rfl rfl rfl (by omega)) rfl rfl rfl ?_
      refine LL.nilS ?_
      refine CC.yes rfl ?_
      refine CC.skip ?_
      refine EE.thenN ?_
      refine CC.seq ?_
      refine CC.block ?_
      refine CC.seq ?_
      refine CC.quietB (by kernel_rfl) (by kernel_rfl) (fun Wd2 bd1 zd3 => ?_)
      replace q := q.trans (bd1.mono q.size)
      replace m1 := m1.up bd1
      replace m2 := m2.up bd1
      refine SS.val (R.move rfl rfl) rfl rfl ?_
      refine SS.val (R.move rfl rfl) rfl rfl ?_
      refine SS.val (R.index rfl rfl rfl (I.ixS rfl (by omega))) rfl rfl ?_
      refine SS.val (R.load rfl rfl (I.ldM (by assumption) rfl rfl)) rfl rfl ?_
      refine SS.val (R.move rfl rfl) rfl rfl ?_
      refine SS.val (R.move rfl rfl) rfl rfl ?_
      refine SS.val (R.index rfl rfl rfl (I.ixS rfl (by omega))) rfl rfl ?_
      refine SS.val (R.load rfl rfl (I.ldM (by assumption) rfl rfl)) rfl rfl ?_
      refine SS.val (R.neSF (p := (↑k1 : Int) = ↑k2 ∧ (↑p1 : Int) = ↑p2) (bs := [decide ((↑k1 : Int) = ↑k2), decide ((↑p1 : Int) = ↑p2)]) rfl rfl rfl rfl (by kernel_rfl) (by kernel_rfl) (by simp) (by first | assumption | omega | exact ⟨rfl, rfl⟩ | exact fun h => h ⟨rfl, rfl⟩)) rfl rfl ?_
      refine SS.nilQ ?_
      refine EE.thenN ?_
      refine CC.yes rfl ?_
      refine CC.seq ?_
      refine CC.region ?_
      refine LL.val (R.assign rfl rfl) rfl rfl rfl ?_
      refine LL.nilS ?_
      refine CC.ret ?_
      refine EE.inR ?_
      refine EE.thenR ?_
      refine EE.thenR ?_
      refine EE.inR ?_
      refine EE.thenR ?_
      refine EE.ret _ rfl rfl ?_
      exact ⟨rfl, q⟩
    · refine CC.seq ?_
      refine CC.seq ?_
      refine CC.region ?_
      refine LL.val (R.move rfl rfl) rfl rfl rfl ?_
      refine LL.val (R.move rfl rfl) rfl rfl rfl ?_
      refine LL.val (R.len rfl rfl rfl rfl) rfl rfl rfl ?_
      refine LL.val (R.ltT rfl rfl rfl (by omega)) rfl rfl rfl ?_
      refine LL.nilS ?_
      refine CC.yes rfl ?_
      refine CC.skip ?_
      refine EE.thenN ?_
      refine CC.seq ?_
      refine CC.block ?_
      refine CC.seq ?_
      refine CC.quietB (by kernel_rfl) (by kernel_rfl) (fun We2 be1 ze3 => ?_)
      replace q := q.trans (be1.mono q.size)
      replace m1 := m1.up be1
      replace m2 := m2.up be1
      refine SS.val (R.move rfl rfl) rfl rfl ?_
      refine SS.val (R.move rfl rfl) rfl rfl ?_
      refine SS.val (R.index rfl rfl rfl (I.ixS rfl (by omega))) rfl rfl ?_
      refine SS.val (R.load rfl rfl (I.ldM (by assumption) rfl rfl)) rfl rfl ?_
      refine SS.val (R.move rfl rfl) rfl rfl ?_
      refine SS.val (R.move rfl rfl) rfl rfl ?_
      refine SS.val (R.index rfl rfl rfl (I.ixS rfl (by omega))) rfl rfl ?_
      refine SS.val (R.load rfl rfl (I.ldM (by assumption) rfl rfl)) rfl rfl ?_
      refine SS.val (R.neSF (p := (↑k1 : Int) = ↑k2 ∧ (↑p1 : Int) = ↑p2) (bs := [decide ((↑k1 : Int) = ↑k2), decide ((↑p1 : Int) = ↑p2)]) rfl rfl rfl rfl (by kernel_rfl) (by kernel_rfl) (by simp) (by first | assumption | omega | exact ⟨rfl, rfl⟩ | exact fun h => h ⟨rfl, rfl⟩)) rfl rfl ?_
      refine SS.nilQ ?_
      refine EE.thenN ?_
      refine CC.yes rfl ?_
      refine CC.seq ?_
      refine CC.region ?_
      refine LL.val (R.assign rfl rfl) rfl rfl rfl ?_
      refine LL.nilS ?_
      refine CC.ret ?_
      refine EE.inR ?_
      refine EE.thenR ?_
      refine EE.thenR ?_
      refine EE.inR ?_
      refine EE.thenR ?_
      refine EE.ret _ rfl rfl ?_
      exact ⟨rfl, q⟩
end Go.Proofs.Ytfplilpefhhpnaa
/- slots: the document's Check. -/
namespace Go.Proofs.Ytfplilpefhhpnaa
set_option linter.unusedVariables false
set_option linter.unusedSimpArgs false
open Go.RowKit Go.Shelf
set_option maxRecDepth 100000
set_option maxHeartbeats 4000000
end Go.Proofs.Ytfplilpefhhpnaa
/- slots: the document's find, pointer, shift. -/
namespace Go.Proofs.Ytfplilpefhhpnaa
set_option linter.unusedVariables false
set_option linter.unusedSimpArgs false
open Go.RowKit Go.Shelf
set_option maxRecDepth 100000
set_option maxHeartbeats 4000000
end Go.Proofs.Ytfplilpefhhpnaa
/- slots: the document's shift. -/
namespace Go.Proofs.Ytfplilpefhhpnaa
set_option linter.unusedVariables false
set_option linter.unusedSimpArgs false
open Go.RowKit Go.Shelf
set_option maxRecDepth 100000
set_option maxHeartbeats 4000000
end Go.Proofs.Ytfplilpefhhpnaa
/- slots: the document's Take, Swap, Put (gen23.py writes this). -/
namespace Go.Proofs.Ytfplilpefhhpnaa
set_option linter.unusedVariables false
set_option linter.unusedSimpArgs false
open Go.RowKit Go.Shelf
set_option maxRecDepth 100000
set_option maxHeartbeats 4000000
end Go.Proofs.Ytfplilpefhhpnaa
/- slots: the document's Put (gen24.py writes this). -/
namespace Go.Proofs.Ytfplilpefhhpnaa
set_option linter.unusedVariables false
set_option linter.unusedSimpArgs false
open Go.RowKit Go.Shelf
set_option maxRecDepth 100000
set_option maxHeartbeats 4000000
end Go.Proofs.Ytfplilpefhhpnaa
/- slots: the document's Apply, empty. -/
namespace Go.Proofs.Ytfplilpefhhpnaa
set_option linter.unusedVariables false
set_option linter.unusedSimpArgs false
open Go.RowKit Go.Shelf
set_option maxRecDepth 100000
set_option maxHeartbeats 4000000
theorem dapply_any (n : Nat) (v vp : Value) (s : List Nat) (os : List Pt) (w : World) (hv : ReadsT uE 1 w v s) (hn : s.length = n) (h : n ≤ 1048576) (hp : ReadsT pE 2 w vp os) (hl : os.length ≤ 1048576) (h0 : ∀ p ∈ os, 0 ≤ p.1) : Calls Try.prog 21 #[v, vp] w fun e w' => ∃ vo, e = .returned vo ∧ OwnsT uE 1 w' w.heap.size 25 vo (applyS s os) ∧ Below w.heap.size w w' := by
  have q := Below.refl w.heap.size w
  obtain ⟨N, hN⟩ : ∃ N, os.length = N := ⟨_, rfl⟩
  obtain ⟨a, c, rfl, hc⟩ := hv.form hn
  obtain ⟨a2, c2, rfl, hc2⟩ := hp.form hN
  rw [hN] at hl
  have hvF : ∀ X, Below w.heap.size w X → ReadsT uE 1 X (.slice a n c) s := fun X b => hv.up b
  have hpF : ∀ X, Below w.heap.size w X → ReadsT pE 2 X (.slice a2 N c2) os := fun X b => hp.up b
  clear hv hp
  refine X.fn Try.func21 rfl (n := 45) rfl rfl ?_
  refine CC.seq ?_
  refine CC.region ?_
  refine LL.val (R.assign rfl rfl) rfl rfl rfl ?_
  refine LL.nilS ?_
  refine CC.seq ?_
  refine CC.region ?_
  refine LL.lit (e := 25) [] 0 rfl rfl (fun _ => by kernel_rfl) rfl rfl ?_
  intro W2 g3 eg3 r4 z5 b1
  replace q := q.trans (b1.mono q.size)
  refine LL.val (R.move rfl rfl) rfl rfl rfl ?_
  (refine LL.appendT2 rfl rfl uEnc ElU (RowL.ownsT (base := w.heap.size) uEnc (ts := []) (by assumption) (by omega) (by simp)) (us := s) (hvF _ q) (by simp [maxLen]; omega) (by simp; omega) (by have := q.size; omega) rfl rfl ?_; intro v' Wa oa gra hva; replace q := q.grown gra q.size (fun g hg => by cases hg; dsimp only; omega); clear hva gra; have o1 := oa; clear oa; rw [List.nil_append] at o1)
  refine LL.val (R.assign rfl rfl) rfl rfl rfl ?_
  refine LL.nilS ?_
  refine CC.seq ?_
  refine CC.seq ?_
  refine CC.region ?_
  refine LL.val (R.assign rfl rfl) rfl rfl rfl ?_
  refine LL.nilS ?_
  refine CC.block ?_
  have yq := q.size
  refine CC.loop (α := Nat) (fun i => [(1, .slice a2 N c2), (5, v'), (6, .int .i64 (i : Int))]) (fun i W => i ≤ N ∧ Below w.heap.size w W ∧ OwnsT uE 1 W w.heap.size 25 v' (applyS s (os.take i))) (fun i => N - i) 0 ⟨rfl, rfl, rfl, trivial⟩ ⟨Nat.zero_le _, q, o1⟩ ?_
  clear q o1
  rintro i W ⟨hi, q, o1⟩
  have yq := q.size
  show CC none Try.prog _ 45 [] (sl [(1, .slice a2 N c2), (5, v'), (6, .int .i64 (i : Int))]) _ W
  by_cases hlt : i < N
  case neg =>
    obtain rfl : i = N := by omega
    rw [List.take_of_length_le (by omega)] at o1
    refine CC.seq ?_
    refine CC.seq ?_
    refine CC.region ?_
    refine LL.val (R.move rfl rfl) rfl rfl rfl ?_
    refine LL.val (R.move rfl rfl) rfl rfl rfl ?_
    refine LL.val (R.len rfl rfl rfl rfl) rfl rfl rfl ?_
    refine LL.val (R.ltF rfl rfl rfl (by omega)) rfl rfl rfl ?_
    refine LL.nilS ?_
    refine CC.no rfl ?_
    refine CC.exit ?_
    refine EE.thenX ?_
    refine EE.thenX ?_
    refine EE.inX ?_
    refine EE.thenN ?_
    refine CC.seq ?_
    refine CC.region ?_
    refine LL.val (R.move rfl rfl) rfl rfl rfl ?_
    refine LL.val (R.assign rfl rfl) rfl rfl rfl ?_
    refine LL.nilS ?_
    refine CC.ret ?_
    refine EE.ret _ rfl rfl ?_
    exact ⟨_, rfl, o1, q⟩
  obtain ⟨⟨z, y⟩, hx⟩ : ∃ x, os[i]? = some x := ⟨_, List.getElem?_eq_getElem (by omega)⟩
  have hz := h0 _ (List.mem_of_getElem? hx)
  simp only at hz
  obtain ⟨j, rfl⟩ := Int.eq_ofNat_of_zero_le hz
  obtain ⟨b1, o1', rfl, _, _⟩ := (hpF _ q).get pEnc hx
  have c1 : W.cell? ⟨b1, o1' + i * 2, none⟩ = some (.int .i64 (j : Int)) := ((hpF W q).elemN pEnc hx).cell (j := 0) rfl
  have c2 : W.cell? ⟨b1, o1' + i * 2 + 1, none⟩ = some (.int .u64 (y : Int)) := ((hpF W q).elemN pEnc hx).cell (j := 1) rfl
  have hln : (applyS s (os.take i)).length = n := by rw [applyS_len]; exact hn
  have es : applyS s (os.take (i + 1)) = (applyS s (os.take i)).set j y := by
    rw [List.take_add_one, hx, applyS_app]
    exact applyS_one _ _ _
  obtain ⟨sx, esx⟩ : ∃ sx, applyS s (os.take i) = sx := ⟨_, rfl⟩
  rw [esx] at o1 hln es
  clear esx
  by_cases hj : j < n
  case neg =>
    have e2 : sx.set j y = sx := List.set_eq_of_length_le (by omega)
    rw [e2] at es
    obtain ⟨av, cv, rfl, hcv⟩ := (o1.reads uEnc).form hln
    refine CC.seq ?_
    refine CC.seq ?_
    refine CC.region ?_
    refine LL.val (R.move rfl rfl) rfl rfl rfl ?_
    refine LL.val (R.move rfl rfl) rfl rfl rfl ?_
    refine LL.val (R.len rfl rfl rfl rfl) rfl rfl rfl ?_
    refine LL.val (R.ltT rfl rfl rfl (by omega)) rfl rfl rfl ?_
    refine LL.nilS ?_
    refine CC.yes rfl ?_
    refine CC.skip ?_
    refine EE.thenN ?_
    refine CC.seq ?_
    refine CC.block ?_
    refine CC.seq ?_
    refine CC.region ?_
    refine LL.val (R.move rfl rfl) rfl rfl rfl ?_
    refine LL.val (R.move rfl rfl) rfl rfl rfl ?_
    refine LL.val (R.index rfl rfl rfl (I.ixS rfl (by omega))) rfl rfl rfl ?_
    refine LL.val (R.field rfl rfl (I.fld rfl)) rfl rfl rfl ?_
    refine LL.val (R.load rfl rfl (I.ld1 rfl (by assumption))) rfl rfl rfl ?_
    refine LL.val (R.geT rfl rfl rfl (by omega)) rfl rfl rfl ?_
    refine LL.val (R.move rfl rfl) rfl rfl rfl ?_
    refine LL.val (R.move rfl rfl) rfl rfl rfl ?_
    refine LL.val (R.move rfl rfl) rfl rfl rfl ?_
    refine LL.val (R.index rfl rfl rfl (I.ixS rfl (by omega))) rfl rfl rfl ?_
    refine LL.val (R.field rfl rfl (I.fld rfl)) rfl rfl rfl ?_
    refine LL.val (R.load rfl rfl (I.ld1 rfl (by assumption))) rfl rfl rfl ?_
    refine LL.val (R.move rfl rfl) rfl rfl rfl ?_
    refine LL.val (R.len rfl rfl rfl rfl) rfl rfl rfl ?_
    refine LL.val (R.ltF rfl rfl rfl (by omega)) rfl rfl rfl ?_
    refine LL.val (R.pick rfl rfl rfl) rfl rfl rfl ?_
    refine LL.nilS ?_
    refine CC.no rfl ?_
    refine CC.skip ?_
    refine EE.inN ?_
    refine EE.thenN ?_
    refine CC.region ?_
    refine LL.val (R.move rfl rfl) rfl rfl rfl ?_
    refine LL.val (R.addNc rfl rfl rfl rfl (by omega)) rfl rfl rfl ?_
    refine LL.val (R.assign rfl rfl) rfl rfl rfl ?_
    refine LL.nil ?_
    exact EE.round (i + 1) ⟨rfl, rfl, rfl, trivial⟩ ⟨by show i + 1 ≤ N; omega, q, by rw [es]; exact o1⟩ (by show N - (i + 1) < N - i; omega)
  obtain ⟨g, cg, rfl, hbg, hgw, hcg⟩ := ownsT_form o1 hln (by omega)
  obtain ⟨u, hu⟩ : ∃ u, sx[j]? = some u := ⟨_, List.getElem?_eq_getElem (by omega)⟩
  refine CC.seq ?_
  refine CC.seq ?_
  refine CC.region ?_
  refine LL.val (R.move rfl rfl) rfl rfl rfl ?_
  refine LL.val (R.move rfl rfl) rfl rfl rfl ?_
  refine LL.val (R.len rfl rfl rfl rfl) rfl rfl rfl ?_
  refine LL.val (R.ltT rfl rfl rfl (by omega)) rfl rfl rfl ?_
  refine LL.nilS ?_
  refine CC.yes rfl ?_
  refine CC.skip ?_
  refine EE.thenN ?_
  refine CC.seq ?_
  refine CC.block ?_
  refine CC.seq ?_
  refine CC.region ?_
  refine LL.val (R.move rfl rfl) rfl rfl rfl ?_
  refine LL.val (R.move rfl rfl) rfl rfl rfl ?_
  refine LL.val (R.index rfl rfl rfl (I.ixS rfl (by omega))) rfl rfl rfl ?_
  refine LL.val (R.field rfl rfl (I.fld rfl)) rfl rfl rfl ?_
  refine LL.val (R.load rfl rfl (I.ld1 rfl (by assumption))) rfl rfl rfl ?_
  refine LL.val (R.geT rfl rfl rfl (by omega)) rfl rfl rfl ?_
  refine LL.val (R.move rfl rfl) rfl rfl rfl ?_
  refine LL.val (R.move rfl rfl) rfl rfl rfl ?_
  refine LL.val (R.move rfl rfl) rfl rfl rfl ?_
  refine LL.val (R.index rfl rfl rfl (I.ixS rfl (by omega))) rfl rfl rfl ?_
  refine LL.val (R.field rfl rfl (I.fld rfl)) rfl rfl rfl ?_
  refine LL.val (R.load rfl rfl (I.ld1 rfl (by assumption))) rfl rfl rfl ?_
  refine LL.val (R.move rfl rfl) rfl rfl rfl ?_
  refine LL.val (R.len rfl rfl rfl rfl) rfl rfl rfl ?_
  refine LL.val (R.ltT rfl rfl rfl (by omega)) rfl rfl rfl ?_
  refine LL.val (R.pick rfl rfl rfl) rfl rfl rfl ?_
  refine LL.nilS ?_
  refine CC.yes rfl ?_
  refine CC.tailB 12 (by kernel_rfl) (by kernel_rfl) (fun Wc2 bc1 zc3 => ?_)
  replace q := q.trans (bc1.mono q.size)
  replace c1 := cell_up c1 bc1
  replace c2 := cell_up c2 bc1
  replace o1 := o1.up bc1
  refine SS.val (R.move rfl rfl) rfl rfl ?_
  refine SS.val (R.move rfl rfl) rfl rfl ?_
  refine SS.val (R.move rfl rfl) rfl rfl ?_
  refine SS.val (R.index rfl rfl rfl (I.ixS rfl (by omega))) rfl rfl ?_
  refine SS.val (R.field rfl rfl (I.fld rfl)) rfl rfl ?_
  refine SS.val (R.load rfl rfl (I.ld1 rfl (by assumption))) rfl rfl ?_
  refine SS.val (R.move rfl rfl) rfl rfl ?_
  refine SS.val (R.move rfl rfl) rfl rfl ?_
  refine SS.val (R.index rfl rfl rfl (I.ixS rfl (by omega))) rfl rfl ?_
  refine SS.val (R.field rfl rfl (I.fld rfl)) rfl rfl ?_
  refine SS.val (R.load rfl rfl (I.ld1 rfl (by assumption))) rfl rfl ?_
  refine SS.val (R.index rfl rfl rfl (I.ixS1 rfl (by omega))) rfl rfl ?_
  refine SS.nil ?_
  (refine LL.storeF j 0 u y rfl rfl rfl rfl (by simp) uEnc o1 hu (by decide) rfl rfl rfl rfl rfl ?_; intro Wa oa gra hsz; replace q := q.grown gra q.size (fun g hg => by cases hg; omega); clear gra o1; have o1 := oa; clear oa)
  refine LL.nil ?_
  refine EE.inN ?_
  refine EE.thenN ?_
  refine CC.region ?_
  refine LL.val (R.move rfl rfl) rfl rfl rfl ?_
  refine LL.val (R.addNc rfl rfl rfl rfl (by omega)) rfl rfl rfl ?_
  refine LL.val (R.assign rfl rfl) rfl rfl rfl ?_
  refine LL.nil ?_
  exact EE.round (i + 1) ⟨rfl, rfl, rfl, trivial⟩ ⟨by show i + 1 ≤ N; omega, q, by rw [es]; exact o1⟩ (by show N - (i + 1) < N - i; omega)
end Go.Proofs.Ytfplilpefhhpnaa
/- slots: the document's Tidy. -/
namespace Go.Proofs.Ytfplilpefhhpnaa
set_option linter.unusedVariables false
set_option linter.unusedSimpArgs false
open Go.RowKit Go.Shelf
set_option maxRecDepth 100000
set_option maxHeartbeats 8000000
end Go.Proofs.Ytfplilpefhhpnaa
/- slots: the laws' own functions. -/
namespace Go.Proofs.Ytfplilpefhhpnaa
set_option linter.unusedVariables false
set_option linter.unusedSimpArgs false
open Go.RowKit Go.Shelf
theorem beqNI (a b : Nat) : (((a : Nat) : Int) == ((b : Nat) : Int)) = decide (a = b) := by
  rw [Bool.eq_iff_iff]
  simp only [beq_iff_eq, decide_eq_true_eq]
  exact ⟨fun h => by omega, fun h => by omega⟩

theorem eqPut (a c b d : Int) (w : World) : (Op.equalIn 10000 68 (.agg #[.int .i64 a, .int .u64 b]) (.agg #[.int .i64 c, .int .u64 d])).run Try.prog w = .ok (a == c && b == d) w := by
  have u3 := Try.underlying3
  have u4 := Try.underlying25
  have a3 := Try.isAgg3
  have z3 := Try.sizeOf3
  have a4 := Try.isAgg25
  have z4 := Try.sizeOf25
  have hS : Try.prog.underlying 68 = some (.struct (Try.prog.fieldsOf 68)) := by kernel_rfl
  rw [show (10000 : Nat) = 9999 + 1 from rfl, run_equalIn_agg w 9999 68 _ _ hS (by kernel_rfl)]
  simp only [Program.fieldsOf, Try.underlying68]
  go_simp
  by_cases h1 : a = c <;> by_cases h2 : b = d <;> simp [h1, h2]

theorem R.nePut {n : Nat} {D : List Deferred} {M : Slots} {w : World} {o : Oper} {x y : Operand} {u : TypeId} {s t : Pt} {b : Bool} (ho : o.op = .binOp .neq 68 x y u) (hx : evM M x = some (.agg (pE s).toArray)) (hy : evM M y = some (.agg (pE t).toArray)) (hb : (!decide (s = t)) = b) : Runs Try.prog n D M o w (.value (.bool b)) w := R.bin ho hx hy (by
  subst hb
  simp only [Sem.run_bind, pE, run_eqGuard_agg w _ _ _ _ _ _ (show Try.prog.eqGuardType Try.prog.depth 68 = false by kernel_rfl), Result.andThen_ok, run_neq_struct, eqPut]
  obtain ⟨s1, s2⟩ := s
  obtain ⟨t1, t2⟩ := t
  simp only [beqNI]
  by_cases h1 : s1 = t1 <;> by_cases h2 : s2 = t2 <;> simp [h1, h2])

set_option maxRecDepth 100000 in
set_option maxHeartbeats 2000000 in
theorem psame_any (va vb : Value) (xs ys : List Pt) (w : World) (ha : ReadsT pE 2 w va xs) (hb : ReadsT pE 2 w vb ys) (hlx : xs.length ≤ 1048576) (hly : ys.length ≤ 1048576) :
    Calls Try.prog 20 #[va, vb] w fun e w' => e = .returned (.bool (decide (xs = ys))) ∧ Below w.heap.size w w' := by
  obtain ⟨N, hN⟩ : ∃ N, xs.length = N := ⟨_, rfl⟩
  obtain ⟨N2, hN2⟩ : ∃ N, ys.length = N := ⟨_, rfl⟩
  obtain ⟨a, cap, rfl, hc⟩ := ha.form hN
  obtain ⟨a2, cap2, rfl, hc2⟩ := hb.form hN2
  rw [hN] at hlx
  rw [hN2] at hly
  refine X.fn Try.func20 rfl (n := 26) rfl rfl ?_
  by_cases hne : N = N2
  · subst hne
    (repeat (first | (first | refine CC.seq ?_ | refine CC.region ?_ | refine LL.nilS ?_ | refine CC.yes rfl ?_ | refine CC.no rfl ?_ | refine CC.block ?_ | refine EE.thenN ?_ | refine LL.nil ?_ | refine CC.exit ?_ | refine CC.ret ?_ | refine CC.skip ?_ | refine EE.thenX ?_ | refine EE.thenR ?_ | refine EE.inN ?_ | refine EE.inX ?_ | refine EE.inX' rfl ?_ | refine EE.inR ?_ | refine CC.label ?_ | refine EE.thenG ?_ | refine EE.inG ?_) | (first | refine LL.val (R.move rfl rfl) rfl rfl rfl ?_ | refine LL.val (R.assign rfl rfl) rfl rfl rfl ?_ | refine LL.val (R.nil rfl rfl) rfl rfl rfl ?_ | refine LL.val (R.field rfl rfl (I.fld rfl)) rfl rfl rfl ?_ | refine LL.val (R.load rfl rfl (I.ld1 rfl (by assumption))) rfl rfl rfl ?_ | refine LL.val (R.load rfl rfl (I.ld1 rfl (RowL.cell (by assumption) rfl))) rfl rfl rfl ?_ | refine LL.val (R.index rfl rfl rfl (I.ixA1c rfl rfl (by first | omega | decide))) rfl rfl rfl ?_ | refine LL.val (R.index rfl rfl rfl (I.ixS1c rfl rfl (by omega))) rfl rfl rfl ?_ | refine LL.val (R.index rfl rfl rfl (I.ixAc rfl rfl (by first | omega | decide))) rfl rfl rfl ?_ | refine LL.val (R.index rfl rfl rfl (I.ixSc rfl rfl (by omega))) rfl rfl rfl ?_ | refine LL.val (R.index rfl rfl rfl (I.ixA1 rfl (by omega))) rfl rfl rfl ?_ | refine LL.val (R.index rfl rfl rfl (I.ixS1 rfl (by omega))) rfl rfl rfl ?_ | refine LL.val (R.index rfl rfl rfl (I.ixA rfl (by omega))) rfl rfl rfl ?_ | refine LL.val (R.index rfl rfl rfl (I.ixS rfl (by omega))) rfl rfl rfl ?_ | refine LL.val (R.ltT rfl rfl rfl (by omega)) rfl rfl rfl ?_ | refine LL.val (R.ltF rfl rfl rfl (by omega)) rfl rfl rfl ?_ | refine LL.val (R.addNc rfl rfl rfl rfl (by omega)) rfl rfl rfl ?_ | refine LL.val (R.subNc rfl rfl rfl rfl (by omega) (by omega)) rfl rfl rfl ?_ | refine LL.val (R.addN rfl rfl rfl (by omega)) rfl rfl rfl ?_ | refine LL.val (R.subN rfl rfl rfl (by omega) (by omega)) rfl rfl rfl ?_ | refine LL.val (R.subcN rfl rfl rfl rfl (by omega) (by omega)) rfl rfl rfl ?_ | refine LL.val (R.addI rfl rfl rfl (by omega)) rfl rfl rfl ?_ | refine LL.val (R.subI rfl rfl rfl (by omega)) rfl rfl rfl ?_ | refine LL.val (R.mulNc rfl rfl rfl rfl (by omega)) rfl rfl rfl ?_ | refine LL.val (R.mulcN rfl rfl rfl rfl (by omega)) rfl rfl rfl ?_ | refine LL.val (R.quoNc rfl rfl rfl rfl (by omega) (by omega)) rfl rfl rfl ?_ | refine LL.val (R.remNc rfl rfl rfl rfl (by omega)) rfl rfl rfl ?_ | refine LL.val (R.mulN rfl rfl rfl (by omega)) rfl rfl rfl ?_ | refine LL.val (R.quoN rfl rfl rfl (by omega) (by omega)) rfl rfl rfl ?_ | refine LL.val (R.remN rfl rfl rfl (by omega)) rfl rfl rfl ?_ | refine LL.val (R.leT rfl rfl rfl (by omega)) rfl rfl rfl ?_ | refine LL.val (R.leF rfl rfl rfl (by omega)) rfl rfl rfl ?_ | refine LL.val (R.gtT rfl rfl rfl (by omega)) rfl rfl rfl ?_ | refine LL.val (R.gtF rfl rfl rfl (by omega)) rfl rfl rfl ?_ | refine LL.val (R.geT rfl rfl rfl (by omega)) rfl rfl rfl ?_ | refine LL.val (R.geF rfl rfl rfl (by omega)) rfl rfl rfl ?_ | refine LL.val (R.eqT rfl rfl rfl (by omega)) rfl rfl rfl ?_ | refine LL.val (R.eqF rfl rfl rfl (by omega)) rfl rfl rfl ?_ | refine LL.val (R.neT rfl rfl rfl (by omega)) rfl rfl rfl ?_ | refine LL.val (R.neF rfl rfl rfl (by omega)) rfl rfl rfl ?_ | refine LL.val (R.eqPtr rfl rfl rfl rfl rfl) rfl rfl rfl ?_ | refine LL.val (R.nePtr rfl rfl rfl rfl rfl) rfl rfl rfl ?_ | refine LL.val (R.eqSl rfl rfl rfl rfl rfl) rfl rfl rfl ?_ | refine LL.val (R.neSl rfl rfl rfl rfl rfl) rfl rfl rfl ?_ | refine LL.val (R.eqFn rfl rfl rfl rfl) rfl rfl rfl ?_ | refine LL.val (R.eqBool rfl rfl rfl rfl rfl) rfl rfl rfl ?_ | refine LL.val (R.neBool rfl rfl rfl rfl rfl) rfl rfl rfl ?_ | refine LL.val (R.xorU rfl rfl rfl (by first | omega | decide) (by first | omega | decide)) rfl rfl rfl ?_ | refine LL.val (R.addUN rfl rfl rfl (by omega)) rfl rfl rfl ?_ | refine LL.val (R.not rfl rfl) rfl rfl rfl ?_ | refine LL.val (R.lenS rfl rfl rfl rfl) rfl rfl rfl ?_ | refine LL.val (R.len rfl rfl rfl rfl) rfl rfl rfl ?_ | refine LL.val (R.pick rfl rfl rfl) rfl rfl rfl ?_ | refine LL.val (R.extract rfl rfl rfl) rfl rfl rfl ?_ | refine LL.val (R.func rfl rfl rfl) rfl rfl rfl ?_ | refine LL.val (R.slice rfl rfl rfl rfl rfl (I.slA rfl)) rfl rfl rfl ?_ | refine LL.val (R.slice rfl rfl rfl rfl rfl (I.slAto rfl (by omega))) rfl rfl rfl ?_) | refine LL.skip rfl rfl ?_))
    refine CC.loop (α := Nat) (fun i => [(0, .slice a N cap), (1, .slice a2 N cap2), (4, .bool false), (5, .int .i64 (i : Int))]) (fun i wr => Below w.heap.size w wr ∧ i ≤ N ∧ xs.take i = ys.take i) (fun i => N - i) 0 ⟨rfl, rfl, rfl, rfl, trivial⟩ ⟨Below.refl _ _, by omega, by simp⟩ ?_
    intro i wr ⟨hbw, hi, ht⟩
    by_cases h1 : i < N
    · obtain ⟨s, hs⟩ : ∃ s, xs[i]? = some s := ⟨_, List.getElem?_eq_getElem (by omega)⟩
      obtain ⟨t, ht2⟩ : ∃ t, ys[i]? = some t := ⟨_, List.getElem?_eq_getElem (by omega)⟩
      obtain ⟨b, off, rfl, hbl, hcs⟩ := ha.get pEnc hs
      obtain ⟨b2, off2, rfl, hbl2, hcs2⟩ := hb.get pEnc ht2
      have hc1 := hcs.below hbw.drew hbl
      have hc3 := hcs2.below hbw.drew hbl2
      (repeat (first | (first | refine CC.seq ?_ | refine CC.region ?_ | refine LL.nilS ?_ | refine CC.yes rfl ?_ | refine CC.no rfl ?_ | refine CC.block ?_ | refine EE.thenN ?_ | refine LL.nil ?_ | refine CC.exit ?_ | refine CC.ret ?_ | refine CC.skip ?_ | refine EE.thenX ?_ | refine EE.thenR ?_ | refine EE.inN ?_ | refine EE.inX ?_ | refine EE.inX' rfl ?_ | refine EE.inR ?_ | refine CC.label ?_ | refine EE.thenG ?_ | refine EE.inG ?_) | (first | refine LL.val (R.move rfl rfl) rfl rfl rfl ?_ | refine LL.val (R.assign rfl rfl) rfl rfl rfl ?_ | refine LL.val (R.nil rfl rfl) rfl rfl rfl ?_ | refine LL.val (R.field rfl rfl (I.fld rfl)) rfl rfl rfl ?_ | refine LL.val (R.load rfl rfl (I.ld1 rfl (by assumption))) rfl rfl rfl ?_ | refine LL.val (R.load rfl rfl (I.ld1 rfl (RowL.cell (by assumption) rfl))) rfl rfl rfl ?_ | refine LL.val (R.index rfl rfl rfl (I.ixA1c rfl rfl (by first | omega | decide))) rfl rfl rfl ?_ | refine LL.val (R.index rfl rfl rfl (I.ixS1c rfl rfl (by omega))) rfl rfl rfl ?_ | refine LL.val (R.index rfl rfl rfl (I.ixAc rfl rfl (by first | omega | decide))) rfl rfl rfl ?_ | refine LL.val (R.index rfl rfl rfl (I.ixSc rfl rfl (by omega))) rfl rfl rfl ?_ | refine LL.val (R.index rfl rfl rfl (I.ixA1 rfl (by omega))) rfl rfl rfl ?_ | refine LL.val (R.index rfl rfl rfl (I.ixS1 rfl (by omega))) rfl rfl rfl ?_ | refine LL.val (R.index rfl rfl rfl (I.ixA rfl (by omega))) rfl rfl rfl ?_ | refine LL.val (R.index rfl rfl rfl (I.ixS rfl (by omega))) rfl rfl rfl ?_ | refine LL.val (R.ltT rfl rfl rfl (by omega)) rfl rfl rfl ?_ | refine LL.val (R.ltF rfl rfl rfl (by omega)) rfl rfl rfl ?_ | refine LL.val (R.addNc rfl rfl rfl rfl (by omega)) rfl rfl rfl ?_ | refine LL.val (R.subNc rfl rfl rfl rfl (by omega) (by omega)) rfl rfl rfl ?_ | refine LL.val (R.addN rfl rfl rfl (by omega)) rfl rfl rfl ?_ | refine LL.val (R.subN rfl rfl rfl (by omega) (by omega)) rfl rfl rfl ?_ | refine LL.val (R.subcN rfl rfl rfl rfl (by omega) (by omega)) rfl rfl rfl ?_ | refine LL.val (R.addI rfl rfl rfl (by omega)) rfl rfl rfl ?_ | refine LL.val (R.subI rfl rfl rfl (by omega)) rfl rfl rfl ?_ | refine LL.val (R.mulNc rfl rfl rfl rfl (by omega)) rfl rfl rfl ?_ | refine LL.val (R.mulcN rfl rfl rfl rfl (by omega)) rfl rfl rfl ?_ | refine LL.val (R.quoNc rfl rfl rfl rfl (by omega) (by omega)) rfl rfl rfl ?_ | refine LL.val (R.remNc rfl rfl rfl rfl (by omega)) rfl rfl rfl ?_ | refine LL.val (R.mulN rfl rfl rfl (by omega)) rfl rfl rfl ?_ | refine LL.val (R.quoN rfl rfl rfl (by omega) (by omega)) rfl rfl rfl ?_ | refine LL.val (R.remN rfl rfl rfl (by omega)) rfl rfl rfl ?_ | refine LL.val (R.leT rfl rfl rfl (by omega)) rfl rfl rfl ?_ | refine LL.val (R.leF rfl rfl rfl (by omega)) rfl rfl rfl ?_ | refine LL.val (R.gtT rfl rfl rfl (by omega)) rfl rfl rfl ?_ | refine LL.val (R.gtF rfl rfl rfl (by omega)) rfl rfl rfl ?_ | refine LL.val (R.geT rfl rfl rfl (by omega)) rfl rfl rfl ?_ | refine LL.val (R.geF rfl rfl rfl (by omega)) rfl rfl rfl ?_ | refine LL.val (R.eqT rfl rfl rfl (by omega)) rfl rfl rfl ?_ | refine LL.val (R.eqF rfl rfl rfl (by omega)) rfl rfl rfl ?_ | refine LL.val (R.neT rfl rfl rfl (by omega)) rfl rfl rfl ?_ | refine LL.val (R.neF rfl rfl rfl (by omega)) rfl rfl rfl ?_ | refine LL.val (R.eqPtr rfl rfl rfl rfl rfl) rfl rfl rfl ?_ | refine LL.val (R.nePtr rfl rfl rfl rfl rfl) rfl rfl rfl ?_ | refine LL.val (R.eqSl rfl rfl rfl rfl rfl) rfl rfl rfl ?_ | refine LL.val (R.neSl rfl rfl rfl rfl rfl) rfl rfl rfl ?_ | refine LL.val (R.eqFn rfl rfl rfl rfl) rfl rfl rfl ?_ | refine LL.val (R.eqBool rfl rfl rfl rfl rfl) rfl rfl rfl ?_ | refine LL.val (R.neBool rfl rfl rfl rfl rfl) rfl rfl rfl ?_ | refine LL.val (R.xorU rfl rfl rfl (by first | omega | decide) (by first | omega | decide)) rfl rfl rfl ?_ | refine LL.val (R.addUN rfl rfl rfl (by omega)) rfl rfl rfl ?_ | refine LL.val (R.not rfl rfl) rfl rfl rfl ?_ | refine LL.val (R.lenS rfl rfl rfl rfl) rfl rfl rfl ?_ | refine LL.val (R.len rfl rfl rfl rfl) rfl rfl rfl ?_ | refine LL.val (R.pick rfl rfl rfl) rfl rfl rfl ?_ | refine LL.val (R.extract rfl rfl rfl) rfl rfl rfl ?_ | refine LL.val (R.func rfl rfl rfl) rfl rfl rfl ?_ | refine LL.val (R.slice rfl rfl rfl rfl rfl (I.slA rfl)) rfl rfl rfl ?_ | refine LL.val (R.slice rfl rfl rfl rfl rfl (I.slAto rfl (by omega))) rfl rfl rfl ?_) | refine LL.skip rfl rfl ?_))
      refine CC.quiet (by kernel_rfl) (by kernel_rfl) ?_
      (repeat (first | refine SS.nil ?_ | refine SS.nilQ ?_ | refine SS.val (R.move rfl rfl) rfl rfl ?_ | refine SS.val (R.assign rfl rfl) rfl rfl ?_ | refine SS.val (R.nil rfl rfl) rfl rfl ?_ | refine SS.val (R.field rfl rfl (I.fld rfl)) rfl rfl ?_ | refine SS.val (R.load rfl rfl (I.ld1 rfl (by assumption))) rfl rfl ?_ | refine SS.val (R.load rfl rfl (I.ld1 rfl (RowL.cell (by assumption) rfl))) rfl rfl ?_ | refine SS.val (R.index rfl rfl rfl (I.ixA1c rfl rfl (by first | omega | decide))) rfl rfl ?_ | refine SS.val (R.index rfl rfl rfl (I.ixS1c rfl rfl (by omega))) rfl rfl ?_ | refine SS.val (R.index rfl rfl rfl (I.ixAc rfl rfl (by first | omega | decide))) rfl rfl ?_ | refine SS.val (R.index rfl rfl rfl (I.ixSc rfl rfl (by omega))) rfl rfl ?_ | refine SS.val (R.index rfl rfl rfl (I.ixA1 rfl (by omega))) rfl rfl ?_ | refine SS.val (R.index rfl rfl rfl (I.ixS1 rfl (by omega))) rfl rfl ?_ | refine SS.val (R.index rfl rfl rfl (I.ixA rfl (by omega))) rfl rfl ?_ | refine SS.val (R.index rfl rfl rfl (I.ixS rfl (by omega))) rfl rfl ?_ | refine SS.val (R.ltT rfl rfl rfl (by omega)) rfl rfl ?_ | refine SS.val (R.ltF rfl rfl rfl (by omega)) rfl rfl ?_ | refine SS.val (R.addNc rfl rfl rfl rfl (by omega)) rfl rfl ?_ | refine SS.val (R.subNc rfl rfl rfl rfl (by omega) (by omega)) rfl rfl ?_ | refine SS.val (R.addN rfl rfl rfl (by omega)) rfl rfl ?_ | refine SS.val (R.subN rfl rfl rfl (by omega) (by omega)) rfl rfl ?_ | refine SS.val (R.subcN rfl rfl rfl rfl (by omega) (by omega)) rfl rfl ?_ | refine SS.val (R.addI rfl rfl rfl (by omega)) rfl rfl ?_ | refine SS.val (R.subI rfl rfl rfl (by omega)) rfl rfl ?_ | refine SS.val (R.mulNc rfl rfl rfl rfl (by omega)) rfl rfl ?_ | refine SS.val (R.mulcN rfl rfl rfl rfl (by omega)) rfl rfl ?_ | refine SS.val (R.quoNc rfl rfl rfl rfl (by omega) (by omega)) rfl rfl ?_ | refine SS.val (R.remNc rfl rfl rfl rfl (by omega)) rfl rfl ?_ | refine SS.val (R.mulN rfl rfl rfl (by omega)) rfl rfl ?_ | refine SS.val (R.quoN rfl rfl rfl (by omega) (by omega)) rfl rfl ?_ | refine SS.val (R.remN rfl rfl rfl (by omega)) rfl rfl ?_ | refine SS.val (R.leT rfl rfl rfl (by omega)) rfl rfl ?_ | refine SS.val (R.leF rfl rfl rfl (by omega)) rfl rfl ?_ | refine SS.val (R.gtT rfl rfl rfl (by omega)) rfl rfl ?_ | refine SS.val (R.gtF rfl rfl rfl (by omega)) rfl rfl ?_ | refine SS.val (R.geT rfl rfl rfl (by omega)) rfl rfl ?_ | refine SS.val (R.geF rfl rfl rfl (by omega)) rfl rfl ?_ | refine SS.val (R.eqT rfl rfl rfl (by omega)) rfl rfl ?_ | refine SS.val (R.eqF rfl rfl rfl (by omega)) rfl rfl ?_ | refine SS.val (R.neT rfl rfl rfl (by omega)) rfl rfl ?_ | refine SS.val (R.neF rfl rfl rfl (by omega)) rfl rfl ?_ | refine SS.val (R.eqPtr rfl rfl rfl rfl rfl) rfl rfl ?_ | refine SS.val (R.nePtr rfl rfl rfl rfl rfl) rfl rfl ?_ | refine SS.val (R.eqSl rfl rfl rfl rfl rfl) rfl rfl ?_ | refine SS.val (R.neSl rfl rfl rfl rfl rfl) rfl rfl ?_ | refine SS.val (R.eqFn rfl rfl rfl rfl) rfl rfl ?_ | refine SS.val (R.eqBool rfl rfl rfl rfl rfl) rfl rfl ?_ | refine SS.val (R.neBool rfl rfl rfl rfl rfl) rfl rfl ?_ | refine SS.val (R.xorU rfl rfl rfl (by first | omega | decide) (by first | omega | decide)) rfl rfl ?_ | refine SS.val (R.addUN rfl rfl rfl (by omega)) rfl rfl ?_ | refine SS.val (R.not rfl rfl) rfl rfl ?_ | refine SS.val (R.lenS rfl rfl rfl rfl) rfl rfl ?_ | refine SS.val (R.len rfl rfl rfl rfl) rfl rfl ?_ | refine SS.val (R.pick rfl rfl rfl) rfl rfl ?_ | refine SS.val (R.extract rfl rfl rfl) rfl rfl ?_ | refine SS.val (R.func rfl rfl rfl) rfl rfl ?_ | refine SS.val (R.slice rfl rfl rfl rfl rfl (I.slA rfl)) rfl rfl ?_ | refine SS.val (R.slice rfl rfl rfl rfl rfl (I.slAto rfl (by omega))) rfl rfl ?_ | refine SS.skip rfl rfl ?_))
      refine SS.val (R.load rfl rfl (I.ldN (vs := pE s) rfl rfl hc1)) rfl rfl ?_
      (repeat (first | refine SS.nil ?_ | refine SS.nilQ ?_ | refine SS.val (R.move rfl rfl) rfl rfl ?_ | refine SS.val (R.assign rfl rfl) rfl rfl ?_ | refine SS.val (R.nil rfl rfl) rfl rfl ?_ | refine SS.val (R.field rfl rfl (I.fld rfl)) rfl rfl ?_ | refine SS.val (R.load rfl rfl (I.ld1 rfl (by assumption))) rfl rfl ?_ | refine SS.val (R.load rfl rfl (I.ld1 rfl (RowL.cell (by assumption) rfl))) rfl rfl ?_ | refine SS.val (R.index rfl rfl rfl (I.ixA1c rfl rfl (by first | omega | decide))) rfl rfl ?_ | refine SS.val (R.index rfl rfl rfl (I.ixS1c rfl rfl (by omega))) rfl rfl ?_ | refine SS.val (R.index rfl rfl rfl (I.ixAc rfl rfl (by first | omega | decide))) rfl rfl ?_ | refine SS.val (R.index rfl rfl rfl (I.ixSc rfl rfl (by omega))) rfl rfl ?_ | refine SS.val (R.index rfl rfl rfl (I.ixA1 rfl (by omega))) rfl rfl ?_ | refine SS.val (R.index rfl rfl rfl (I.ixS1 rfl (by omega))) rfl rfl ?_ | refine SS.val (R.index rfl rfl rfl (I.ixA rfl (by omega))) rfl rfl ?_ | refine SS.val (R.index rfl rfl rfl (I.ixS rfl (by omega))) rfl rfl ?_ | refine SS.val (R.ltT rfl rfl rfl (by omega)) rfl rfl ?_ | refine SS.val (R.ltF rfl rfl rfl (by omega)) rfl rfl ?_ | refine SS.val (R.addNc rfl rfl rfl rfl (by omega)) rfl rfl ?_ | refine SS.val (R.subNc rfl rfl rfl rfl (by omega) (by omega)) rfl rfl ?_ | refine SS.val (R.addN rfl rfl rfl (by omega)) rfl rfl ?_ | refine SS.val (R.subN rfl rfl rfl (by omega) (by omega)) rfl rfl ?_ | refine SS.val (R.subcN rfl rfl rfl rfl (by omega) (by omega)) rfl rfl ?_ | refine SS.val (R.addI rfl rfl rfl (by omega)) rfl rfl ?_ | refine SS.val (R.subI rfl rfl rfl (by omega)) rfl rfl ?_ | refine SS.val (R.mulNc rfl rfl rfl rfl (by omega)) rfl rfl ?_ | refine SS.val (R.mulcN rfl rfl rfl rfl (by omega)) rfl rfl ?_ | refine SS.val (R.quoNc rfl rfl rfl rfl (by omega) (by omega)) rfl rfl ?_ | refine SS.val (R.remNc rfl rfl rfl rfl (by omega)) rfl rfl ?_ | refine SS.val (R.mulN rfl rfl rfl (by omega)) rfl rfl ?_ | refine SS.val (R.quoN rfl rfl rfl (by omega) (by omega)) rfl rfl ?_ | refine SS.val (R.remN rfl rfl rfl (by omega)) rfl rfl ?_ | refine SS.val (R.leT rfl rfl rfl (by omega)) rfl rfl ?_ | refine SS.val (R.leF rfl rfl rfl (by omega)) rfl rfl ?_ | refine SS.val (R.gtT rfl rfl rfl (by omega)) rfl rfl ?_ | refine SS.val (R.gtF rfl rfl rfl (by omega)) rfl rfl ?_ | refine SS.val (R.geT rfl rfl rfl (by omega)) rfl rfl ?_ | refine SS.val (R.geF rfl rfl rfl (by omega)) rfl rfl ?_ | refine SS.val (R.eqT rfl rfl rfl (by omega)) rfl rfl ?_ | refine SS.val (R.eqF rfl rfl rfl (by omega)) rfl rfl ?_ | refine SS.val (R.neT rfl rfl rfl (by omega)) rfl rfl ?_ | refine SS.val (R.neF rfl rfl rfl (by omega)) rfl rfl ?_ | refine SS.val (R.eqPtr rfl rfl rfl rfl rfl) rfl rfl ?_ | refine SS.val (R.nePtr rfl rfl rfl rfl rfl) rfl rfl ?_ | refine SS.val (R.eqSl rfl rfl rfl rfl rfl) rfl rfl ?_ | refine SS.val (R.neSl rfl rfl rfl rfl rfl) rfl rfl ?_ | refine SS.val (R.eqFn rfl rfl rfl rfl) rfl rfl ?_ | refine SS.val (R.eqBool rfl rfl rfl rfl rfl) rfl rfl ?_ | refine SS.val (R.neBool rfl rfl rfl rfl rfl) rfl rfl ?_ | refine SS.val (R.xorU rfl rfl rfl (by first | omega | decide) (by first | omega | decide)) rfl rfl ?_ | refine SS.val (R.addUN rfl rfl rfl (by omega)) rfl rfl ?_ | refine SS.val (R.not rfl rfl) rfl rfl ?_ | refine SS.val (R.lenS rfl rfl rfl rfl) rfl rfl ?_ | refine SS.val (R.len rfl rfl rfl rfl) rfl rfl ?_ | refine SS.val (R.pick rfl rfl rfl) rfl rfl ?_ | refine SS.val (R.extract rfl rfl rfl) rfl rfl ?_ | refine SS.val (R.func rfl rfl rfl) rfl rfl ?_ | refine SS.val (R.slice rfl rfl rfl rfl rfl (I.slA rfl)) rfl rfl ?_ | refine SS.val (R.slice rfl rfl rfl rfl rfl (I.slAto rfl (by omega))) rfl rfl ?_ | refine SS.skip rfl rfl ?_))
      refine SS.val (R.load rfl rfl (I.ldN (vs := pE t) rfl rfl hc3)) rfl rfl ?_
      by_cases hst : s = t
      · refine SS.val (R.nePut (b := false) rfl rfl rfl (by simp [hst])) rfl rfl ?_
        (repeat (first | refine SS.nil ?_ | refine SS.nilQ ?_ | refine SS.val (R.move rfl rfl) rfl rfl ?_ | refine SS.val (R.assign rfl rfl) rfl rfl ?_ | refine SS.val (R.nil rfl rfl) rfl rfl ?_ | refine SS.val (R.field rfl rfl (I.fld rfl)) rfl rfl ?_ | refine SS.val (R.load rfl rfl (I.ld1 rfl (by assumption))) rfl rfl ?_ | refine SS.val (R.load rfl rfl (I.ld1 rfl (RowL.cell (by assumption) rfl))) rfl rfl ?_ | refine SS.val (R.index rfl rfl rfl (I.ixA1c rfl rfl (by first | omega | decide))) rfl rfl ?_ | refine SS.val (R.index rfl rfl rfl (I.ixS1c rfl rfl (by omega))) rfl rfl ?_ | refine SS.val (R.index rfl rfl rfl (I.ixAc rfl rfl (by first | omega | decide))) rfl rfl ?_ | refine SS.val (R.index rfl rfl rfl (I.ixSc rfl rfl (by omega))) rfl rfl ?_ | refine SS.val (R.index rfl rfl rfl (I.ixA1 rfl (by omega))) rfl rfl ?_ | refine SS.val (R.index rfl rfl rfl (I.ixS1 rfl (by omega))) rfl rfl ?_ | refine SS.val (R.index rfl rfl rfl (I.ixA rfl (by omega))) rfl rfl ?_ | refine SS.val (R.index rfl rfl rfl (I.ixS rfl (by omega))) rfl rfl ?_ | refine SS.val (R.ltT rfl rfl rfl (by omega)) rfl rfl ?_ | refine SS.val (R.ltF rfl rfl rfl (by omega)) rfl rfl ?_ | refine SS.val (R.addNc rfl rfl rfl rfl (by omega)) rfl rfl ?_ | refine SS.val (R.subNc rfl rfl rfl rfl (by omega) (by omega)) rfl rfl ?_ | refine SS.val (R.addN rfl rfl rfl (by omega)) rfl rfl ?_ | refine SS.val (R.subN rfl rfl rfl (by omega) (by omega)) rfl rfl ?_ | refine SS.val (R.subcN rfl rfl rfl rfl (by omega) (by omega)) rfl rfl ?_ | refine SS.val (R.addI rfl rfl rfl (by omega)) rfl rfl ?_ | refine SS.val (R.subI rfl rfl rfl (by omega)) rfl rfl ?_ | refine SS.val (R.mulNc rfl rfl rfl rfl (by omega)) rfl rfl ?_ | refine SS.val (R.mulcN rfl rfl rfl rfl (by omega)) rfl rfl ?_ | refine SS.val (R.quoNc rfl rfl rfl rfl (by omega) (by omega)) rfl rfl ?_ | refine SS.val (R.remNc rfl rfl rfl rfl (by omega)) rfl rfl ?_ | refine SS.val (R.mulN rfl rfl rfl (by omega)) rfl rfl ?_ | refine SS.val (R.quoN rfl rfl rfl (by omega) (by omega)) rfl rfl ?_ | refine SS.val (R.remN rfl rfl rfl (by omega)) rfl rfl ?_ | refine SS.val (R.leT rfl rfl rfl (by omega)) rfl rfl ?_ | refine SS.val (R.leF rfl rfl rfl (by omega)) rfl rfl ?_ | refine SS.val (R.gtT rfl rfl rfl (by omega)) rfl rfl ?_ | refine SS.val (R.gtF rfl rfl rfl (by omega)) rfl rfl ?_ | refine SS.val (R.geT rfl rfl rfl (by omega)) rfl rfl ?_ | refine SS.val (R.geF rfl rfl rfl (by omega)) rfl rfl ?_ | refine SS.val (R.eqT rfl rfl rfl (by omega)) rfl rfl ?_ | refine SS.val (R.eqF rfl rfl rfl (by omega)) rfl rfl ?_ | refine SS.val (R.neT rfl rfl rfl (by omega)) rfl rfl ?_ | refine SS.val (R.neF rfl rfl rfl (by omega)) rfl rfl ?_ | refine SS.val (R.eqPtr rfl rfl rfl rfl rfl) rfl rfl ?_ | refine SS.val (R.nePtr rfl rfl rfl rfl rfl) rfl rfl ?_ | refine SS.val (R.eqSl rfl rfl rfl rfl rfl) rfl rfl ?_ | refine SS.val (R.neSl rfl rfl rfl rfl rfl) rfl rfl ?_ | refine SS.val (R.eqFn rfl rfl rfl rfl) rfl rfl ?_ | refine SS.val (R.eqBool rfl rfl rfl rfl rfl) rfl rfl ?_ | refine SS.val (R.neBool rfl rfl rfl rfl rfl) rfl rfl ?_ | refine SS.val (R.xorU rfl rfl rfl (by first | omega | decide) (by first | omega | decide)) rfl rfl ?_ | refine SS.val (R.addUN rfl rfl rfl (by omega)) rfl rfl ?_ | refine SS.val (R.not rfl rfl) rfl rfl ?_ | refine SS.val (R.lenS rfl rfl rfl rfl) rfl rfl ?_ | refine SS.val (R.len rfl rfl rfl rfl) rfl rfl ?_ | refine SS.val (R.pick rfl rfl rfl) rfl rfl ?_ | refine SS.val (R.extract rfl rfl rfl) rfl rfl ?_ | refine SS.val (R.func rfl rfl rfl) rfl rfl ?_ | refine SS.val (R.slice rfl rfl rfl rfl rfl (I.slA rfl)) rfl rfl ?_ | refine SS.val (R.slice rfl rfl rfl rfl rfl (I.slAto rfl (by omega))) rfl rfl ?_ | refine SS.skip rfl rfl ?_))
        (repeat (first | (first | refine CC.seq ?_ | refine CC.region ?_ | refine LL.nilS ?_ | refine CC.yes rfl ?_ | refine CC.no rfl ?_ | refine CC.block ?_ | refine EE.thenN ?_ | refine LL.nil ?_ | refine CC.exit ?_ | refine CC.ret ?_ | refine CC.skip ?_ | refine EE.thenX ?_ | refine EE.thenR ?_ | refine EE.inN ?_ | refine EE.inX ?_ | refine EE.inX' rfl ?_ | refine EE.inR ?_ | refine CC.label ?_ | refine EE.thenG ?_ | refine EE.inG ?_) | (first | refine LL.val (R.move rfl rfl) rfl rfl rfl ?_ | refine LL.val (R.assign rfl rfl) rfl rfl rfl ?_ | refine LL.val (R.nil rfl rfl) rfl rfl rfl ?_ | refine LL.val (R.field rfl rfl (I.fld rfl)) rfl rfl rfl ?_ | refine LL.val (R.load rfl rfl (I.ld1 rfl (by assumption))) rfl rfl rfl ?_ | refine LL.val (R.load rfl rfl (I.ld1 rfl (RowL.cell (by assumption) rfl))) rfl rfl rfl ?_ | refine LL.val (R.index rfl rfl rfl (I.ixA1c rfl rfl (by first | omega | decide))) rfl rfl rfl ?_ | refine LL.val (R.index rfl rfl rfl (I.ixS1c rfl rfl (by omega))) rfl rfl rfl ?_ | refine LL.val (R.index rfl rfl rfl (I.ixAc rfl rfl (by first | omega | decide))) rfl rfl rfl ?_ | refine LL.val (R.index rfl rfl rfl (I.ixSc rfl rfl (by omega))) rfl rfl rfl ?_ | refine LL.val (R.index rfl rfl rfl (I.ixA1 rfl (by omega))) rfl rfl rfl ?_ | refine LL.val (R.index rfl rfl rfl (I.ixS1 rfl (by omega))) rfl rfl rfl ?_ | refine LL.val (R.index rfl rfl rfl (I.ixA rfl (by omega))) rfl rfl rfl ?_ | refine LL.val (R.index rfl rfl rfl (I.ixS rfl (by omega))) rfl rfl rfl ?_ | refine LL.val (R.ltT rfl rfl rfl (by omega)) rfl rfl rfl ?_ | refine LL.val (R.ltF rfl rfl rfl (by omega)) rfl rfl rfl ?_ | refine LL.val (R.addNc rfl rfl rfl rfl (by omega)) rfl rfl rfl ?_ | refine LL.val (R.subNc rfl rfl rfl rfl (by omega) (by omega)) rfl rfl rfl ?_ | refine LL.val (R.addN rfl rfl rfl (by omega)) rfl rfl rfl ?_ | refine LL.val (R.subN rfl rfl rfl (by omega) (by omega)) rfl rfl rfl ?_ | refine LL.val (R.subcN rfl rfl rfl rfl (by omega) (by omega)) rfl rfl rfl ?_ | refine LL.val (R.addI rfl rfl rfl (by omega)) rfl rfl rfl ?_ | refine LL.val (R.subI rfl rfl rfl (by omega)) rfl rfl rfl ?_ | refine LL.val (R.mulNc rfl rfl rfl rfl (by omega)) rfl rfl rfl ?_ | refine LL.val (R.mulcN rfl rfl rfl rfl (by omega)) rfl rfl rfl ?_ | refine LL.val (R.quoNc rfl rfl rfl rfl (by omega) (by omega)) rfl rfl rfl ?_ | refine LL.val (R.remNc rfl rfl rfl rfl (by omega)) rfl rfl rfl ?_ | refine LL.val (R.mulN rfl rfl rfl (by omega)) rfl rfl rfl ?_ | refine LL.val (R.quoN rfl rfl rfl (by omega) (by omega)) rfl rfl rfl ?_ | refine LL.val (R.remN rfl rfl rfl (by omega)) rfl rfl rfl ?_ | refine LL.val (R.leT rfl rfl rfl (by omega)) rfl rfl rfl ?_ | refine LL.val (R.leF rfl rfl rfl (by omega)) rfl rfl rfl ?_ | refine LL.val (R.gtT rfl rfl rfl (by omega)) rfl rfl rfl ?_ | refine LL.val (R.gtF rfl rfl rfl (by omega)) rfl rfl rfl ?_ | refine LL.val (R.geT rfl rfl rfl (by omega)) rfl rfl rfl ?_ | refine LL.val (R.geF rfl rfl rfl (by omega)) rfl rfl rfl ?_ | refine LL.val (R.eqT rfl rfl rfl (by omega)) rfl rfl rfl ?_ | refine LL.val (R.eqF rfl rfl rfl (by omega)) rfl rfl rfl ?_ | refine LL.val (R.neT rfl rfl rfl (by omega)) rfl rfl rfl ?_ | refine LL.val (R.neF rfl rfl rfl (by omega)) rfl rfl rfl ?_ | refine LL.val (R.eqPtr rfl rfl rfl rfl rfl) rfl rfl rfl ?_ | refine LL.val (R.nePtr rfl rfl rfl rfl rfl) rfl rfl rfl ?_ | refine LL.val (R.eqSl rfl rfl rfl rfl rfl) rfl rfl rfl ?_ | refine LL.val (R.neSl rfl rfl rfl rfl rfl) rfl rfl rfl ?_ | refine LL.val (R.eqFn rfl rfl rfl rfl) rfl rfl rfl ?_ | refine LL.val (R.eqBool rfl rfl rfl rfl rfl) rfl rfl rfl ?_ | refine LL.val (R.neBool rfl rfl rfl rfl rfl) rfl rfl rfl ?_ | refine LL.val (R.xorU rfl rfl rfl (by first | omega | decide) (by first | omega | decide)) rfl rfl rfl ?_ | refine LL.val (R.addUN rfl rfl rfl (by omega)) rfl rfl rfl ?_ | refine LL.val (R.not rfl rfl) rfl rfl rfl ?_ | refine LL.val (R.lenS rfl rfl rfl rfl) rfl rfl rfl ?_ | refine LL.val (R.len rfl rfl rfl rfl) rfl rfl rfl ?_ | refine LL.val (R.pick rfl rfl rfl) rfl rfl rfl ?_ | refine LL.val (R.extract rfl rfl rfl) rfl rfl rfl ?_ | refine LL.val (R.func rfl rfl rfl) rfl rfl rfl ?_ | refine LL.val (R.slice rfl rfl rfl rfl rfl (I.slA rfl)) rfl rfl rfl ?_ | refine LL.val (R.slice rfl rfl rfl rfl rfl (I.slAto rfl (by omega))) rfl rfl rfl ?_) | refine LL.skip rfl rfl ?_))
        exact EE.round (i + 1) ⟨rfl, rfl, rfl, rfl, trivial⟩ ⟨hbw.drew, by omega, by rw [List.take_add_one, List.take_add_one, ht, hs, ht2, hst]⟩ (by omega)
      · refine SS.val (R.nePut (b := true) rfl rfl rfl (by simp [hst])) rfl rfl ?_
        (repeat (first | refine SS.nil ?_ | refine SS.nilQ ?_ | refine SS.val (R.move rfl rfl) rfl rfl ?_ | refine SS.val (R.assign rfl rfl) rfl rfl ?_ | refine SS.val (R.nil rfl rfl) rfl rfl ?_ | refine SS.val (R.field rfl rfl (I.fld rfl)) rfl rfl ?_ | refine SS.val (R.load rfl rfl (I.ld1 rfl (by assumption))) rfl rfl ?_ | refine SS.val (R.load rfl rfl (I.ld1 rfl (RowL.cell (by assumption) rfl))) rfl rfl ?_ | refine SS.val (R.index rfl rfl rfl (I.ixA1c rfl rfl (by first | omega | decide))) rfl rfl ?_ | refine SS.val (R.index rfl rfl rfl (I.ixS1c rfl rfl (by omega))) rfl rfl ?_ | refine SS.val (R.index rfl rfl rfl (I.ixAc rfl rfl (by first | omega | decide))) rfl rfl ?_ | refine SS.val (R.index rfl rfl rfl (I.ixSc rfl rfl (by omega))) rfl rfl ?_ | refine SS.val (R.index rfl rfl rfl (I.ixA1 rfl (by omega))) rfl rfl ?_ | refine SS.val (R.index rfl rfl rfl (I.ixS1 rfl (by omega))) rfl rfl ?_ | refine SS.val (R.index rfl rfl rfl (I.ixA rfl (by omega))) rfl rfl ?_ | refine SS.val (R.index rfl rfl rfl (I.ixS rfl (by omega))) rfl rfl ?_ | refine SS.val (R.ltT rfl rfl rfl (by omega)) rfl rfl ?_ | refine SS.val (R.ltF rfl rfl rfl (by omega)) rfl rfl ?_ | refine SS.val (R.addNc rfl rfl rfl rfl (by omega)) rfl rfl ?_ | refine SS.val (R.subNc rfl rfl rfl rfl (by omega) (by omega)) rfl rfl ?_ | refine SS.val (R.addN rfl rfl rfl (by omega)) rfl rfl ?_ | refine SS.val (R.subN rfl rfl rfl (by omega) (by omega)) rfl rfl ?_ | refine SS.val (R.subcN rfl rfl rfl rfl (by omega) (by omega)) rfl rfl ?_ | refine SS.val (R.addI rfl rfl rfl (by omega)) rfl rfl ?_ | refine SS.val (R.subI rfl rfl rfl (by omega)) rfl rfl ?_ | refine SS.val (R.mulNc rfl rfl rfl rfl (by omega)) rfl rfl ?_ | refine SS.val (R.mulcN rfl rfl rfl rfl (by omega)) rfl rfl ?_ | refine SS.val (R.quoNc rfl rfl rfl rfl (by omega) (by omega)) rfl rfl ?_ | refine SS.val (R.remNc rfl rfl rfl rfl (by omega)) rfl rfl ?_ | refine SS.val (R.mulN rfl rfl rfl (by omega)) rfl rfl ?_ | refine SS.val (R.quoN rfl rfl rfl (by omega) (by omega)) rfl rfl ?_ | refine SS.val (R.remN rfl rfl rfl (by omega)) rfl rfl ?_ | refine SS.val (R.leT rfl rfl rfl (by omega)) rfl rfl ?_ | refine SS.val (R.leF rfl rfl rfl (by omega)) rfl rfl ?_ | refine SS.val (R.gtT rfl rfl rfl (by omega)) rfl rfl ?_ | refine SS.val (R.gtF rfl rfl rfl (by omega)) rfl rfl ?_ | refine SS.val (R.geT rfl rfl rfl (by omega)) rfl rfl ?_ | refine SS.val (R.geF rfl rfl rfl (by omega)) rfl rfl ?_ | refine SS.val (R.eqT rfl rfl rfl (by omega)) rfl rfl ?_ | refine SS.val (R.eqF rfl rfl rfl (by omega)) rfl rfl ?_ | refine SS.val (R.neT rfl rfl rfl (by omega)) rfl rfl ?_ | refine SS.val (R.neF rfl rfl rfl (by omega)) rfl rfl ?_ | refine SS.val (R.eqPtr rfl rfl rfl rfl rfl) rfl rfl ?_ | refine SS.val (R.nePtr rfl rfl rfl rfl rfl) rfl rfl ?_ | refine SS.val (R.eqSl rfl rfl rfl rfl rfl) rfl rfl ?_ | refine SS.val (R.neSl rfl rfl rfl rfl rfl) rfl rfl ?_ | refine SS.val (R.eqFn rfl rfl rfl rfl) rfl rfl ?_ | refine SS.val (R.eqBool rfl rfl rfl rfl rfl) rfl rfl ?_ | refine SS.val (R.neBool rfl rfl rfl rfl rfl) rfl rfl ?_ | refine SS.val (R.xorU rfl rfl rfl (by first | omega | decide) (by first | omega | decide)) rfl rfl ?_ | refine SS.val (R.addUN rfl rfl rfl (by omega)) rfl rfl ?_ | refine SS.val (R.not rfl rfl) rfl rfl ?_ | refine SS.val (R.lenS rfl rfl rfl rfl) rfl rfl ?_ | refine SS.val (R.len rfl rfl rfl rfl) rfl rfl ?_ | refine SS.val (R.pick rfl rfl rfl) rfl rfl ?_ | refine SS.val (R.extract rfl rfl rfl) rfl rfl ?_ | refine SS.val (R.func rfl rfl rfl) rfl rfl ?_ | refine SS.val (R.slice rfl rfl rfl rfl rfl (I.slA rfl)) rfl rfl ?_ | refine SS.val (R.slice rfl rfl rfl rfl rfl (I.slAto rfl (by omega))) rfl rfl ?_ | refine SS.skip rfl rfl ?_))
        (repeat (first | (first | refine CC.seq ?_ | refine CC.region ?_ | refine LL.nilS ?_ | refine CC.yes rfl ?_ | refine CC.no rfl ?_ | refine CC.block ?_ | refine EE.thenN ?_ | refine LL.nil ?_ | refine CC.exit ?_ | refine CC.ret ?_ | refine CC.skip ?_ | refine EE.thenX ?_ | refine EE.thenR ?_ | refine EE.inN ?_ | refine EE.inX ?_ | refine EE.inX' rfl ?_ | refine EE.inR ?_ | refine CC.label ?_ | refine EE.thenG ?_ | refine EE.inG ?_) | (first | refine LL.val (R.move rfl rfl) rfl rfl rfl ?_ | refine LL.val (R.assign rfl rfl) rfl rfl rfl ?_ | refine LL.val (R.nil rfl rfl) rfl rfl rfl ?_ | refine LL.val (R.field rfl rfl (I.fld rfl)) rfl rfl rfl ?_ | refine LL.val (R.load rfl rfl (I.ld1 rfl (by assumption))) rfl rfl rfl ?_ | refine LL.val (R.load rfl rfl (I.ld1 rfl (RowL.cell (by assumption) rfl))) rfl rfl rfl ?_ | refine LL.val (R.index rfl rfl rfl (I.ixA1c rfl rfl (by first | omega | decide))) rfl rfl rfl ?_ | refine LL.val (R.index rfl rfl rfl (I.ixS1c rfl rfl (by omega))) rfl rfl rfl ?_ | refine LL.val (R.index rfl rfl rfl (I.ixAc rfl rfl (by first | omega | decide))) rfl rfl rfl ?_ | refine LL.val (R.index rfl rfl rfl (I.ixSc rfl rfl (by omega))) rfl rfl rfl ?_ | refine LL.val (R.index rfl rfl rfl (I.ixA1 rfl (by omega))) rfl rfl rfl ?_ | refine LL.val (R.index rfl rfl rfl (I.ixS1 rfl (by omega))) rfl rfl rfl ?_ | refine LL.val (R.index rfl rfl rfl (I.ixA rfl (by omega))) rfl rfl rfl ?_ | refine LL.val (R.index rfl rfl rfl (I.ixS rfl (by omega))) rfl rfl rfl ?_ | refine LL.val (R.ltT rfl rfl rfl (by omega)) rfl rfl rfl ?_ | refine LL.val (R.ltF rfl rfl rfl (by omega)) rfl rfl rfl ?_ | refine LL.val (R.addNc rfl rfl rfl rfl (by omega)) rfl rfl rfl ?_ | refine LL.val (R.subNc rfl rfl rfl rfl (by omega) (by omega)) rfl rfl rfl ?_ | refine LL.val (R.addN rfl rfl rfl (by omega)) rfl rfl rfl ?_ | refine LL.val (R.subN rfl rfl rfl (by omega) (by omega)) rfl rfl rfl ?_ | refine LL.val (R.subcN rfl rfl rfl rfl (by omega) (by omega)) rfl rfl rfl ?_ | refine LL.val (R.addI rfl rfl rfl (by omega)) rfl rfl rfl ?_ | refine LL.val (R.subI rfl rfl rfl (by omega)) rfl rfl rfl ?_ | refine LL.val (R.mulNc rfl rfl rfl rfl (by omega)) rfl rfl rfl ?_ | refine LL.val (R.mulcN rfl rfl rfl rfl (by omega)) rfl rfl rfl ?_ | refine LL.val (R.quoNc rfl rfl rfl rfl (by omega) (by omega)) rfl rfl rfl ?_ | refine LL.val (R.remNc rfl rfl rfl rfl (by omega)) rfl rfl rfl ?_ | refine LL.val (R.mulN rfl rfl rfl (by omega)) rfl rfl rfl ?_ | refine LL.val (R.quoN rfl rfl rfl (by omega) (by omega)) rfl rfl rfl ?_ | refine LL.val (R.remN rfl rfl rfl (by omega)) rfl rfl rfl ?_ | refine LL.val (R.leT rfl rfl rfl (by omega)) rfl rfl rfl ?_ | refine LL.val (R.leF rfl rfl rfl (by omega)) rfl rfl rfl ?_ | refine LL.val (R.gtT rfl rfl rfl (by omega)) rfl rfl rfl ?_ | refine LL.val (R.gtF rfl rfl rfl (by omega)) rfl rfl rfl ?_ | refine LL.val (R.geT rfl rfl rfl (by omega)) rfl rfl rfl ?_ | refine LL.val (R.geF rfl rfl rfl (by omega)) rfl rfl rfl ?_ | refine LL.val (R.eqT rfl rfl rfl (by omega)) rfl rfl rfl ?_ | refine LL.val (R.eqF rfl rfl rfl (by omega)) rfl rfl rfl ?_ | refine LL.val (R.neT rfl rfl rfl (by omega)) rfl rfl rfl ?_ | refine LL.val (R.neF rfl rfl rfl (by omega)) rfl rfl rfl ?_ | refine LL.val (R.eqPtr rfl rfl rfl rfl rfl) rfl rfl rfl ?_ | refine LL.val (R.nePtr rfl rfl rfl rfl rfl) rfl rfl rfl ?_ | refine LL.val (R.eqSl rfl rfl rfl rfl rfl) rfl rfl rfl ?_ | refine LL.val (R.neSl rfl rfl rfl rfl rfl) rfl rfl rfl ?_ | refine LL.val (R.eqFn rfl rfl rfl rfl) rfl rfl rfl ?_ | refine LL.val (R.eqBool rfl rfl rfl rfl rfl) rfl rfl rfl ?_ | refine LL.val (R.neBool rfl rfl rfl rfl rfl) rfl rfl rfl ?_ | refine LL.val (R.xorU rfl rfl rfl (by first | omega | decide) (by first | omega | decide)) rfl rfl rfl ?_ | refine LL.val (R.addUN rfl rfl rfl (by omega)) rfl rfl rfl ?_ | refine LL.val (R.not rfl rfl) rfl rfl rfl ?_ | refine LL.val (R.lenS rfl rfl rfl rfl) rfl rfl rfl ?_ | refine LL.val (R.len rfl rfl rfl rfl) rfl rfl rfl ?_ | refine LL.val (R.pick rfl rfl rfl) rfl rfl rfl ?_ | refine LL.val (R.extract rfl rfl rfl) rfl rfl rfl ?_ | refine LL.val (R.func rfl rfl rfl) rfl rfl rfl ?_ | refine LL.val (R.slice rfl rfl rfl rfl rfl (I.slA rfl)) rfl rfl rfl ?_ | refine LL.val (R.slice rfl rfl rfl rfl rfl (I.slAto rfl (by omega))) rfl rfl rfl ?_) | refine LL.skip rfl rfl ?_))
        refine EE.ret _ rfl rfl ?_
        refine ⟨?_, hbw.drew⟩
        have : xs ≠ ys := fun e => hst (by rw [e, ht2] at hs; exact (Option.some.inj hs).symm)
        simp [resV, this]
    · obtain rfl : i = N := by omega
      rw [List.take_of_length_le (by omega), List.take_of_length_le (by omega)] at ht
      (repeat (first | (first | refine CC.seq ?_ | refine CC.region ?_ | refine LL.nilS ?_ | refine CC.yes rfl ?_ | refine CC.no rfl ?_ | refine CC.block ?_ | refine EE.thenN ?_ | refine LL.nil ?_ | refine CC.exit ?_ | refine CC.ret ?_ | refine CC.skip ?_ | refine EE.thenX ?_ | refine EE.thenR ?_ | refine EE.inN ?_ | refine EE.inX ?_ | refine EE.inX' rfl ?_ | refine EE.inR ?_ | refine CC.label ?_ | refine EE.thenG ?_ | refine EE.inG ?_) | (first | refine LL.val (R.move rfl rfl) rfl rfl rfl ?_ | refine LL.val (R.assign rfl rfl) rfl rfl rfl ?_ | refine LL.val (R.nil rfl rfl) rfl rfl rfl ?_ | refine LL.val (R.field rfl rfl (I.fld rfl)) rfl rfl rfl ?_ | refine LL.val (R.load rfl rfl (I.ld1 rfl (by assumption))) rfl rfl rfl ?_ | refine LL.val (R.load rfl rfl (I.ld1 rfl (RowL.cell (by assumption) rfl))) rfl rfl rfl ?_ | refine LL.val (R.index rfl rfl rfl (I.ixA1c rfl rfl (by first | omega | decide))) rfl rfl rfl ?_ | refine LL.val (R.index rfl rfl rfl (I.ixS1c rfl rfl (by omega))) rfl rfl rfl ?_ | refine LL.val (R.index rfl rfl rfl (I.ixAc rfl rfl (by first | omega | decide))) rfl rfl rfl ?_ | refine LL.val (R.index rfl rfl rfl (I.ixSc rfl rfl (by omega))) rfl rfl rfl ?_ | refine LL.val (R.index rfl rfl rfl (I.ixA1 rfl (by omega))) rfl rfl rfl ?_ | refine LL.val (R.index rfl rfl rfl (I.ixS1 rfl (by omega))) rfl rfl rfl ?_ | refine LL.val (R.index rfl rfl rfl (I.ixA rfl (by omega))) rfl rfl rfl ?_ | refine LL.val (R.index rfl rfl rfl (I.ixS rfl (by omega))) rfl rfl rfl ?_ | refine LL.val (R.ltT rfl rfl rfl (by omega)) rfl rfl rfl ?_ | refine LL.val (R.ltF rfl rfl rfl (by omega)) rfl rfl rfl ?_ | refine LL.val (R.addNc rfl rfl rfl rfl (by omega)) rfl rfl rfl ?_ | refine LL.val (R.subNc rfl rfl rfl rfl (by omega) (by omega)) rfl rfl rfl ?_ | refine LL.val (R.addN rfl rfl rfl (by omega)) rfl rfl rfl ?_ | refine LL.val (R.subN rfl rfl rfl (by omega) (by omega)) rfl rfl rfl ?_ | refine LL.val (R.subcN rfl rfl rfl rfl (by omega) (by omega)) rfl rfl rfl ?_ | refine LL.val (R.addI rfl rfl rfl (by omega)) rfl rfl rfl ?_ | refine LL.val (R.subI rfl rfl rfl (by omega)) rfl rfl rfl ?_ | refine LL.val (R.mulNc rfl rfl rfl rfl (by omega)) rfl rfl rfl ?_ | refine LL.val (R.mulcN rfl rfl rfl rfl (by omega)) rfl rfl rfl ?_ | refine LL.val (R.quoNc rfl rfl rfl rfl (by omega) (by omega)) rfl rfl rfl ?_ | refine LL.val (R.remNc rfl rfl rfl rfl (by omega)) rfl rfl rfl ?_ | refine LL.val (R.mulN rfl rfl rfl (by omega)) rfl rfl rfl ?_ | refine LL.val (R.quoN rfl rfl rfl (by omega) (by omega)) rfl rfl rfl ?_ | refine LL.val (R.remN rfl rfl rfl (by omega)) rfl rfl rfl ?_ | refine LL.val (R.leT rfl rfl rfl (by omega)) rfl rfl rfl ?_ | refine LL.val (R.leF rfl rfl rfl (by omega)) rfl rfl rfl ?_ | refine LL.val (R.gtT rfl rfl rfl (by omega)) rfl rfl rfl ?_ | refine LL.val (R.gtF rfl rfl rfl (by omega)) rfl rfl rfl ?_ | refine LL.val (R.geT rfl rfl rfl (by omega)) rfl rfl rfl ?_ | refine LL.val (R.geF rfl rfl rfl (by omega)) rfl rfl rfl ?_ | refine LL.val (R.eqT rfl rfl rfl (by omega)) rfl rfl rfl ?_ | refine LL.val (R.eqF rfl rfl rfl (by omega)) rfl rfl rfl ?_ | refine LL.val (R.neT rfl rfl rfl (by omega)) rfl rfl rfl ?_ | refine LL.val (R.neF rfl rfl rfl (by omega)) rfl rfl rfl ?_ | refine LL.val (R.eqPtr rfl rfl rfl rfl rfl) rfl rfl rfl ?_ | refine LL.val (R.nePtr rfl rfl rfl rfl rfl) rfl rfl rfl ?_ | refine LL.val (R.eqSl rfl rfl rfl rfl rfl) rfl rfl rfl ?_ | refine LL.val (R.neSl rfl rfl rfl rfl rfl) rfl rfl rfl ?_ | refine LL.val (R.eqFn rfl rfl rfl rfl) rfl rfl rfl ?_ | refine LL.val (R.eqBool rfl rfl rfl rfl rfl) rfl rfl rfl ?_ | refine LL.val (R.neBool rfl rfl rfl rfl rfl) rfl rfl rfl ?_ | refine LL.val (R.xorU rfl rfl rfl (by first | omega | decide) (by first | omega | decide)) rfl rfl rfl ?_ | refine LL.val (R.addUN rfl rfl rfl (by omega)) rfl rfl rfl ?_ | refine LL.val (R.not rfl rfl) rfl rfl rfl ?_ | refine LL.val (R.lenS rfl rfl rfl rfl) rfl rfl rfl ?_ | refine LL.val (R.len rfl rfl rfl rfl) rfl rfl rfl ?_ | refine LL.val (R.pick rfl rfl rfl) rfl rfl rfl ?_ | refine LL.val (R.extract rfl rfl rfl) rfl rfl rfl ?_ | refine LL.val (R.func rfl rfl rfl) rfl rfl rfl ?_ | refine LL.val (R.slice rfl rfl rfl rfl rfl (I.slA rfl)) rfl rfl rfl ?_ | refine LL.val (R.slice rfl rfl rfl rfl rfl (I.slAto rfl (by omega))) rfl rfl rfl ?_) | refine LL.skip rfl rfl ?_))
      refine EE.ret _ rfl rfl ?_
      exact ⟨by simp [resV, ht], hbw⟩
  · (repeat (first | (first | refine CC.seq ?_ | refine CC.region ?_ | refine LL.nilS ?_ | refine CC.yes rfl ?_ | refine CC.no rfl ?_ | refine CC.block ?_ | refine EE.thenN ?_ | refine LL.nil ?_ | refine CC.exit ?_ | refine CC.ret ?_ | refine CC.skip ?_ | refine EE.thenX ?_ | refine EE.thenR ?_ | refine EE.inN ?_ | refine EE.inX ?_ | refine EE.inX' rfl ?_ | refine EE.inR ?_ | refine CC.label ?_ | refine EE.thenG ?_ | refine EE.inG ?_) | (first | refine LL.val (R.move rfl rfl) rfl rfl rfl ?_ | refine LL.val (R.assign rfl rfl) rfl rfl rfl ?_ | refine LL.val (R.nil rfl rfl) rfl rfl rfl ?_ | refine LL.val (R.field rfl rfl (I.fld rfl)) rfl rfl rfl ?_ | refine LL.val (R.load rfl rfl (I.ld1 rfl (by assumption))) rfl rfl rfl ?_ | refine LL.val (R.load rfl rfl (I.ld1 rfl (RowL.cell (by assumption) rfl))) rfl rfl rfl ?_ | refine LL.val (R.index rfl rfl rfl (I.ixA1c rfl rfl (by first | omega | decide))) rfl rfl rfl ?_ | refine LL.val (R.index rfl rfl rfl (I.ixS1c rfl rfl (by omega))) rfl rfl rfl ?_ | refine LL.val (R.index rfl rfl rfl (I.ixAc rfl rfl (by first | omega | decide))) rfl rfl rfl ?_ | refine LL.val (R.index rfl rfl rfl (I.ixSc rfl rfl (by omega))) rfl rfl rfl ?_ | refine LL.val (R.index rfl rfl rfl (I.ixA1 rfl (by omega))) rfl rfl rfl ?_ | refine LL.val (R.index rfl rfl rfl (I.ixS1 rfl (by omega))) rfl rfl rfl ?_ | refine LL.val (R.index rfl rfl rfl (I.ixA rfl (by omega))) rfl rfl rfl ?_ | refine LL.val (R.index rfl rfl rfl (I.ixS rfl (by omega))) rfl rfl rfl ?_ | refine LL.val (R.ltT rfl rfl rfl (by omega)) rfl rfl rfl ?_ | refine LL.val (R.ltF rfl rfl rfl (by omega)) rfl rfl rfl ?_ | refine LL.val (R.addNc rfl rfl rfl rfl (by omega)) rfl rfl rfl ?_ | refine LL.val (R.subNc rfl rfl rfl rfl (by omega) (by omega)) rfl rfl rfl ?_ | refine LL.val (R.addN rfl rfl rfl (by omega)) rfl rfl rfl ?_ | refine LL.val (R.subN rfl rfl rfl (by omega) (by omega)) rfl rfl rfl ?_ | refine LL.val (R.subcN rfl rfl rfl rfl (by omega) (by omega)) rfl rfl rfl ?_ | refine LL.val (R.addI rfl rfl rfl (by omega)) rfl rfl rfl ?_ | refine LL.val (R.subI rfl rfl rfl (by omega)) rfl rfl rfl ?_ | refine LL.val (R.mulNc rfl rfl rfl rfl (by omega)) rfl rfl rfl ?_ | refine LL.val (R.mulcN rfl rfl rfl rfl (by omega)) rfl rfl rfl ?_ | refine LL.val (R.quoNc rfl rfl rfl rfl (by omega) (by omega)) rfl rfl rfl ?_ | refine LL.val (R.remNc rfl rfl rfl rfl (by omega)) rfl rfl rfl ?_ | refine LL.val (R.mulN rfl rfl rfl (by omega)) rfl rfl rfl ?_ | refine LL.val (R.quoN rfl rfl rfl (by omega) (by omega)) rfl rfl rfl ?_ | refine LL.val (R.remN rfl rfl rfl (by omega)) rfl rfl rfl ?_ | refine LL.val (R.leT rfl rfl rfl (by omega)) rfl rfl rfl ?_ | refine LL.val (R.leF rfl rfl rfl (by omega)) rfl rfl rfl ?_ | refine LL.val (R.gtT rfl rfl rfl (by omega)) rfl rfl rfl ?_ | refine LL.val (R.gtF rfl rfl rfl (by omega)) rfl rfl rfl ?_ | refine LL.val (R.geT rfl rfl rfl (by omega)) rfl rfl rfl ?_ | refine LL.val (R.geF rfl rfl rfl (by omega)) rfl rfl rfl ?_ | refine LL.val (R.eqT rfl rfl rfl (by omega)) rfl rfl rfl ?_ | refine LL.val (R.eqF rfl rfl rfl (by omega)) rfl rfl rfl ?_ | refine LL.val (R.neT rfl rfl rfl (by omega)) rfl rfl rfl ?_ | refine LL.val (R.neF rfl rfl rfl (by omega)) rfl rfl rfl ?_ | refine LL.val (R.eqPtr rfl rfl rfl rfl rfl) rfl rfl rfl ?_ | refine LL.val (R.nePtr rfl rfl rfl rfl rfl) rfl rfl rfl ?_ | refine LL.val (R.eqSl rfl rfl rfl rfl rfl) rfl rfl rfl ?_ | refine LL.val (R.neSl rfl rfl rfl rfl rfl) rfl rfl rfl ?_ | refine LL.val (R.eqFn rfl rfl rfl rfl) rfl rfl rfl ?_ | refine LL.val (R.eqBool rfl rfl rfl rfl rfl) rfl rfl rfl ?_ | refine LL.val (R.neBool rfl rfl rfl rfl rfl) rfl rfl rfl ?_ | refine LL.val (R.xorU rfl rfl rfl (by first | omega | decide) (by first | omega | decide)) rfl rfl rfl ?_ | refine LL.val (R.addUN rfl rfl rfl (by omega)) rfl rfl rfl ?_ | refine LL.val (R.not rfl rfl) rfl rfl rfl ?_ | refine LL.val (R.lenS rfl rfl rfl rfl) rfl rfl rfl ?_ | refine LL.val (R.len rfl rfl rfl rfl) rfl rfl rfl ?_ | refine LL.val (R.pick rfl rfl rfl) rfl rfl rfl ?_ | refine LL.val (R.extract rfl rfl rfl) rfl rfl rfl ?_ | refine LL.val (R.func rfl rfl rfl) rfl rfl rfl ?_ | refine LL.val (R.slice rfl rfl rfl rfl rfl (I.slA rfl)) rfl rfl rfl ?_ | refine LL.val (R.slice rfl rfl rfl rfl rfl (I.slAto rfl (by omega))) rfl rfl rfl ?_) | refine LL.skip rfl rfl ?_))
    refine EE.ret _ rfl rfl ?_
    have : xs ≠ ys := fun e => hne (by rw [← hN, ← hN2, e])
    exact ⟨by simp [resV, this], Below.refl _ _⟩

set_option maxRecDepth 100000
set_option maxHeartbeats 8000000
end Go.Proofs.Ytfplilpefhhpnaa
/- slots: SlotsPuts, SlotsTakes, SlotsSwaps: the walks. -/
namespace Go.Proofs.Ytfplilpefhhpnaa
set_option linter.unusedVariables false
set_option linter.unusedSimpArgs false
open Go.RowKit Go.Shelf
set_option maxRecDepth 100000
set_option maxHeartbeats 8000000
end Go.Proofs.Ytfplilpefhhpnaa
/- slots: rows as lists of pairs: what is read of them, behind each store. -/
namespace Go.Proofs.Ytfplilpefhhpnaa
set_option linter.unusedVariables false
set_option linter.unusedSimpArgs false
open Go.RowKit Go.Shelf
set_option maxRecDepth 100000
set_option maxHeartbeats 8000000
/-- What is read of a list of slots. -/
def rd : Nat → List Pr → List Pr
  | _, [] => []
  | p, x :: t => if x.2 = 0 then [] else if x.2 = p then rd p t else x :: rd x.2 t
def lp : Nat → List Pr → Nat
  | p, [] => p
  | _, x :: t => lp x.2 t
/-- A row as a list of slots. -/
def slP (s : List Nat) : List Pr := (List.range (s.length / 2)).map (prA s)
theorem slP_len (s : List Nat) : (slP s).length = s.length / 2 := by simp [slP]
theorem slP_get (s : List Nat) (j : Nat) : (slP s)[j]? = if j < s.length / 2 then some (prA s j) else none := by
  unfold slP
  rw [List.getElem?_map]
  by_cases h : j < s.length / 2
  · rw [if_pos h, List.getElem?_range h]; rfl
  · rw [if_neg h, List.getElem?_eq_none (by simpa using Nat.le_of_not_lt h)]; rfl
end Go.Proofs.Ytfplilpefhhpnaa
/- slots: Tidy keeps what is read, store by store, and settles. -/
namespace Go.Proofs.Ytfplilpefhhpnaa
set_option linter.unusedVariables false
set_option linter.unusedSimpArgs false
open Go.RowKit Go.Shelf
set_option maxRecDepth 100000
set_option maxHeartbeats 8000000
def preP (s : List Nat) (n : Nat) : List Pr := (List.range n).map (prA s)
def midP (s : List Nat) (d k : Nat) : List Pr := (List.range k).map fun i => prA s (d + i)
theorem preP_len (s : List Nat) (n : Nat) : (preP s n).length = n := by simp [preP]
theorem preP_split (s : List Nat) {d m : Nat} (h : d ≤ m) : preP s m = preP s d ++ midP s d (m - d) := by
  obtain ⟨k, rfl⟩ : ∃ k, m = d + k := ⟨m - d, by omega⟩
  unfold preP midP
  rw [List.range_add, List.map_append, List.map_map, show d + k - d = k by omega]
  rfl
theorem slP_split (s : List Nat) {d : Nat} (h : d ≤ s.length / 2) : slP s = preP s d ++ midP s d (s.length / 2 - d) := preP_split s h
theorem preP_succ (s : List Nat) (n : Nat) : preP s (n + 1) = preP s n ++ [prA s n] := by
  unfold preP
  rw [List.range_succ, List.map_append]
  rfl
end Go.Proofs.Ytfplilpefhhpnaa
/- slots: what is read behind each store of a change. -/
namespace Go.Proofs.Ytfplilpefhhpnaa
set_option linter.unusedVariables false
set_option linter.unusedSimpArgs false
open Go.RowKit Go.Shelf
set_option maxRecDepth 100000
set_option maxHeartbeats 8000000
/-- Pairs of a settled row. -/
def okB (left : Nat) (B : List Pr) : Prop := (∀ x ∈ B, x.2 ≠ 0 ∧ x.2 ≠ left) ∧ B.Pairwise fun x y => x.1 < y.1 ∧ x.2 ≠ y.2
theorem okB_pre {left m : Nat} {s : List Nat} (h : Stl left s m) : okB left (preP s m) := by
  refine ⟨fun x hx => ?_, ?_⟩
  · obtain ⟨j, hj, rfl⟩ := List.mem_map.1 hx
    have hj := List.mem_range.1 hj
    exact ⟨h.ne j hj, h.nl j hj⟩
  · refine List.pairwise_iff_getElem.2 fun i j hi hj hij => ?_
    have e : ∀ i (hi : i < (preP s m).length), (preP s m)[i] = prA s i := fun i hi => by simp [preP]
    rw [e i hi, e j hj]
    rw [preP_len] at hi hj
    exact ⟨h.rise i j hij hj, h.dis i j hij hj⟩
theorem stl_of {left : Nat} {s : List Nat} {B Z : List Pr} (h : slP s = B ++ Z) (hB : okB left B) (hZ : Z ≠ []) (hz : ∀ z ∈ Z, z.2 = 0) : Stl left s B.length := by
  have hl := congrArg List.length h
  rw [slP_len, List.length_append] at hl
  have hZl : 0 < Z.length := List.length_pos_iff.2 hZ
  have g : ∀ j (hj : j < B.length), prA s j = B[j] := fun j hj => by
    have h1 := slP_get s j
    rw [if_pos (by omega), h, List.getElem?_append_left hj, List.getElem?_eq_getElem hj] at h1
    exact (Option.some.inj h1).symm
  have hp := List.pairwise_iff_getElem.1 hB.2
  refine ⟨by omega, fun j hj => ?_, fun j h1 h2 => ?_, fun j hj => ?_, fun i j hij hj => ?_, fun j hj => ?_⟩
  · have := (hB.1 _ (List.getElem_mem hj)).1
    rw [← g j hj] at this
    exact this
  · have h3 := slP_get s j
    rw [if_pos h2, h, List.getElem?_append_right h1] at h3
    exact hz _ (List.mem_of_getElem? h3)
  · have := (hB.1 _ (List.getElem_mem hj)).2
    rw [← g j hj] at this
    exact this
  · have := (hp i j (by omega) hj hij).2
    rw [← g j hj, ← g i (by omega)] at this
    exact this
  · have := (hp j (j + 1) (by omega) hj (by omega)).1
    rw [← g j (by omega), ← g (j + 1) hj] at this
    exact this
end Go.Proofs.Ytfplilpefhhpnaa
/- slots: SlotsTidies: the walk. -/
namespace Go.Proofs.Ytfplilpefhhpnaa
set_option linter.unusedVariables false
set_option linter.unusedSimpArgs false
open Go.RowKit Go.Shelf
theorem exposeT {α : Type} {enc : α → List Value} {k : Nat} {W : World} {v : Value} {ts : List α} (h : ReadsT enc k W v ts) : ∃ X0 : World, W.heap.size ≤ X0.heap.size ∧ (∀ X, Below X0.heap.size X0 X → ReadsT enc k X v ts) ∧ Below X0.heap.size X0 W := ⟨W, Nat.le_refl _, fun X b => h.up b, Below.refl _ _⟩
theorem readF_row {left : Nat} {s : List Nat} (h : ¬ noRow left s.length) : readF left s = pairP left s := by
  unfold readF
  rw [if_neg h]
set_option maxRecDepth 100000
set_option maxHeartbeats 8000000
end Go.Proofs.Ytfplilpefhhpnaa
/- node: the words of a split, behind so many of its stores: the mathematics. -/
namespace Go.Proofs.Ytfplilpefhhpnaa
set_option linter.unusedVariables false
set_option linter.unusedSimpArgs false
open Go.RowKit Go.Shelf
set_option maxRecDepth 100000
set_option maxHeartbeats 8000000
theorem slP_cons (a b : Nat) (r : List Nat) : slP (a :: b :: r) = (a, b) :: slP r := by
  unfold slP
  rw [show (a :: b :: r).length / 2 = r.length / 2 + 1 by simp only [List.length_cons]; omega, List.range_succ_eq_map, List.map_cons, List.map_map]
  congr 1
theorem slP_flP (Z : List Nat) : ∀ P : List Pr, slP (flP P ++ Z) = P ++ slP Z
  | [] => rfl
  | p :: P => by
    show slP (p.1 :: p.2 :: (flP P ++ Z)) = _
    rw [slP_cons, slP_flP Z P]
    rfl
theorem slP_zero (n : Nat) : ∀ z ∈ slP (List.replicate n 0), z.2 = 0 := by
  intro z hz
  obtain ⟨j, hj, rfl⟩ := List.mem_map.1 hz
  show ptrN _ j = 0
  unfold ptrN
  rw [List.getElem?_replicate]
  split <;> rfl
theorem layW_drop {h : List Nat} {ps : List Pr} (hh : h.length = 8) : (layW h ps).drop 8 = flP ps ++ List.replicate (56 - 2 * ps.length) 0 := by
  unfold layW
  rw [List.append_assoc, List.drop_left' hh]
theorem lay_stl {le : Nat} {h : List Nat} {ps : List Pr} (hh : h.length = 8) (hp : ps.length ≤ 27) (hB : okB le ps) : Stl le ((layW h ps).drop 8) ps.length := by
  rw [layW_drop hh]
  refine stl_of (slP_flP _ ps) hB ?_ (slP_zero _)
  intro e
  have := congrArg List.length e
  rw [slP_len, List.length_replicate] at this
  simp at this
  omega
theorem stl_read {le n : Nat} {s : List Nat} (h : Stl le s n) (hr : ¬ noRow le s.length) : readF le s = preP s n := by
  rw [readF_row hr, h.pairP]
  rfl
theorem lay_read {le : Nat} {h : List Nat} {ps : List Pr} (hh : h.length = 8) (hp : ps.length ≤ 27) (hB : okB le ps) (hle : le ≠ 0) : readF le ((layW h ps).drop 8) = ps := by
  have hl : ((layW h ps).drop 8).length = 56 := by rw [List.length_drop, layW_len hh (by omega)]
  have hS := lay_stl (h := h) hh hp hB
  rw [stl_read hS (by rw [hl]; unfold noRow; omega)]
  have e := slP_split ((layW h ps).drop 8) (d := ps.length) (by rw [hl]; omega)
  rw [layW_drop hh] at e ⊢
  rw [slP_flP] at e
  exact (List.append_inj_left e (by rw [preP_len])).symm
theorem ptrN_set {s : List Nat} {n j : Nat} (h : 2 * n + 1 < s.length) : ptrN (s.set (2 * n + 1) 0) j = if j = n then 0 else ptrN s j := by
  unfold ptrN
  rw [List.getElem?_set]
  by_cases e : j = n
  · subst e
    rw [if_pos rfl, if_pos h, if_pos rfl]
    rfl
  · rw [if_neg (by omega), if_neg e]
theorem keyN_set {s : List Nat} {n j : Nat} : keyN (s.set (2 * n + 1) 0) j = keyN s j := by
  unfold keyN
  rw [List.getElem?_set, if_neg (by omega)]
theorem cut_stl {left n : Nat} {s : List Nat} (h : Stl left s (n + 1)) : Stl left (s.set (2 * n + 1) 0) n := by
  have hl := h.lt
  have hp : ∀ j, ptrN (s.set (2 * n + 1) 0) j = if j = n then 0 else ptrN s j := fun j => ptrN_set (by omega)
  refine ⟨by rw [List.length_set]; omega, fun j hj => ?_, fun j h1 h2 => ?_, fun j hj => ?_, fun i j hij hj => ?_, fun j hj => ?_⟩
  · rw [hp, if_neg (by omega)]
    exact h.ne j (by omega)
  · rw [List.length_set] at h2
    rw [hp]
    split
    · rfl
    · exact h.z j (by omega) h2
  · rw [hp, if_neg (by omega)]
    exact h.nl j (by omega)
  · rw [hp, hp, if_neg (by omega), if_neg (by omega)]
    exact h.dis i j hij (by omega)
  · rw [keyN_set, keyN_set]
    exact h.up j (by omega)
/-- A row whose last pointers are made zero. -/
def zrS (s : List Nat) (N : Nat) : Nat → List Nat
  | 0 => s
  | t + 1 => (zrS s N t).set (2 * (N - 1 - t) + 1) 0
theorem zrS_len (s : List Nat) (N : Nat) : ∀ t, (zrS s N t).length = s.length
  | 0 => rfl
  | t + 1 => by
    show ((zrS s N t).set _ _).length = _
    rw [List.length_set, zrS_len s N t]
theorem zrS_stl {left N : Nat} {s : List Nat} (h : Stl left s N) : ∀ {t}, t ≤ N → Stl left (zrS s N t) (N - t) ∧ preP (zrS s N t) (N - t) = (preP s N).take (N - t)
  | 0, _ => ⟨h, by rw [List.take_of_length_le (by rw [preP_len]; omega)]; rfl⟩
  | t + 1, ht => by
    obtain ⟨h1, h2⟩ := zrS_stl h (t := t) (by omega)
    obtain ⟨n, hn⟩ : ∃ n, N - t = n + 1 := ⟨N - t - 1, by omega⟩
    rw [hn] at h1 h2
    have e : zrS s N (t + 1) = (zrS s N t).set (2 * n + 1) 0 := by
      show (zrS s N t).set (2 * (N - 1 - t) + 1) 0 = _
      rw [show N - 1 - t = n by omega]
    rw [e, show N - (t + 1) = n by omega]
    refine ⟨cut_stl h1, ?_⟩
    have h3 := congrArg (List.take n) h2
    rw [List.take_take, Nat.min_eq_left (by omega), preP_succ, List.take_left' (preP_len _ _)] at h3
    rw [← h3]
    refine List.map_congr_left fun j hj => ?_
    have hj := List.mem_range.1 hj
    have hl := h1.lt
    unfold prA
    rw [keyN_set, ptrN_set (by omega), if_neg (by omega)]
theorem set_drop8 (ws : List Nat) (i x : Nat) : (ws.set (8 + i) x).drop 8 = (ws.drop 8).set i x := by
  rw [List.drop_set, if_neg (by omega)]
  congr 1
  omega
theorem gw_set {ws : List Nat} {i j x : Nat} (h : i ≠ j) : gw (ws.set i x) j = gw ws j := by
  unfold gw
  rw [List.getD_eq_getElem?_getD, List.getElem?_set, if_neg h, List.getD_eq_getElem?_getD]
theorem gw_set_eq {ws : List Nat} {i x : Nat} (h : i < ws.length) : gw (ws.set i x) i = x := by
  unfold gw
  rw [List.getD_eq_getElem?_getD, List.getElem?_set, if_pos rfl, if_pos h]
  rfl
theorem spl_drop {ws : List Nat} {blk N : Nat} : ∀ t, (applyS ws (splN blk N t)).drop 8 = zrS (ws.drop 8) N t
  | 0 => by
    show (ws.set 1 blk).drop 8 = ws.drop 8
    rw [List.drop_set, if_pos (by omega)]
  | t + 1 => by
    rw [splN_succ, applyS_app]
    show ((applyS ws (splN blk N t)).set ((8 + ((2 * (N - 1 - t) : Nat) : Int) + 1 : Int)).toNat 0).drop 8 = _
    rw [show ((8 + ((2 * (N - 1 - t) : Nat) : Int) + 1 : Int)).toNat = 8 + (2 * (N - 1 - t) + 1) by omega, set_drop8, spl_drop t]
    rfl
theorem spl_gw {ws : List Nat} {blk N i : Nat} (h64 : ws.length = 64) (hi : i < 8) : ∀ t, gw (applyS ws (splN blk N t)) i = if i = 1 then blk else gw ws i
  | 0 => by
    show gw (ws.set 1 blk) i = _
    by_cases e : i = 1
    · subst e
      rw [if_pos rfl, gw_set_eq (by omega)]
    · rw [if_neg e, gw_set (by omega)]
  | t + 1 => by
    rw [splN_succ, applyS_app]
    show gw ((applyS ws (splN blk N t)).set ((8 + ((2 * (N - 1 - t) : Nat) : Int) + 1 : Int)).toNat 0) i = _
    rw [gw_set (by omega), spl_gw h64 hi t]
theorem splN_take (blk N T t : Nat) (h : t ≤ T) : (splN blk N T).take (t + 1) = splN blk N t := by
  unfold splN
  rw [List.take_succ_cons, ← List.map_take, List.take_range, Nat.min_eq_left h]
/-- The node behind so many of a split's stores. -/
structure AtK (ws ws' : List Nat) (ps : List Pr) (N blk k : Nat) : Prop where
  len : ws'.length = 64
  p : nodeP ws'
  g0 : gw ws' 0 = gw ws 0
  g2 : gw ws' 2 = gw ws 2
  g3 : gw ws' 3 = gw ws 3
  g1 : 0 < k → gw ws' 1 = blk
  r : readF (gw ws 3) (ws'.drop 8) = ps.take (N - (k - 1))
theorem atK {ws : List Nat} {ps : List Pr} {N blk T k : Nat} (hS : nodeS ws) (eps : readF (gw ws 3) (ws.drop 8) = ps) (hN : ps.length = N) (hb : 1 ≤ blk ∧ blk ≤ 2047) (hT : T ≤ N) (hk : k ≤ T + 1) : AtK ws (applyS ws ((splN blk N T).take k)) ps N blk k := by
  have h64 := hS.1.1
  have h8 : (ws.drop 8).length = 56 := by rw [List.length_drop, h64]
  have hrow : ¬ noRow (gw ws 3) 56 := hd_row hS.1.2 rfl
  obtain ⟨n, hs⟩ := setP_iff.1 hS.2.1
  have e1 := stl_read hs (by rw [h8]; exact hrow)
  obtain rfl : n = N := by
    rw [← hN, ← eps, e1, preP_len]
  rw [e1] at eps
  cases k with
  | zero =>
    rw [List.take_zero]
    refine ⟨h64, hS.1, rfl, rfl, rfl, fun h => absurd h (by omega), ?_⟩
    show readF (gw ws 3) (ws.drop 8) = _
    rw [e1, eps, List.take_of_length_le (by omega)]
  | succ t =>
    rw [splN_take _ _ _ _ (by omega)]
    have hg := fun i (hi : i < 8) => spl_gw (blk := blk) (N := n) h64 hi t
    have hl : (applyS ws (splN blk n t)).length = 64 := by rw [applyS_len, h64]
    have z := zrS_stl hs (t := t) (by omega)
    refine ⟨hl, ⟨hl, ?_⟩, hg 0 (by omega), hg 2 (by omega), hg 3 (by omega), fun _ => hg 1 (by omega), ?_⟩
    · have h := hS.1.2
      rw [hg 0 (by omega), hg 1 (by omega), hg 3 (by omega), hg 4 (by omega), hg 5 (by omega), hg 6 (by omega), hg 7 (by omega)]
      exact ⟨h.a, hb.2, h.c, h.d, h.e, h.f, h.g⟩
    · rw [spl_drop, stl_read z.1 (by rw [zrS_len, h8]; exact hrow), z.2, eps]
      rfl
/-- The new node of a split. -/
structure UpK (ws U : List Nat) (ps : List Pr) (k p m : Nat) : Prop where
  len : U.length = 64
  lt : ∀ x ∈ U, x < 18446744073709551616
  nd : nodeP U
  g0 : gw U 0 % 256 = gw ws 0 % 256
  g1 : gw U 1 = gw ws 1
  g2 : gw U 2 = k
  l0 : gw ws 0 % 256 = 0 → readF (gw U 3) (U.drop 8) = ps.drop m
  l1 : 0 < gw ws 0 % 256 → gw U 3 = p ∧ readF (gw U 3) (U.drop 8) = ps.drop (m + 1)
theorem okB_drop {le : Nat} {B : List Pr} (h : okB le B) (m : Nat) : okB le (B.drop m) := ⟨fun x hx => h.1 x (List.mem_of_mem_drop hx), h.2.sublist (List.drop_sublist m B)⟩
theorem okB_next {le m k p : Nat} {B : List Pr} (h : okB le B) (hx : B[m]? = some (k, p)) : okB p (B.drop (m + 1)) := by
  have e : B.drop m = (k, p) :: B.drop (m + 1) := by
    obtain ⟨hm, e⟩ := List.getElem?_eq_some_iff.1 hx
    rw [← e, List.drop_eq_getElem_cons hm]
  have h2 := (okB_drop h m).2
  rw [e] at h2
  exact ⟨fun x hx => ⟨((okB_drop h (m + 1)).1 x hx).1, fun e => ((List.pairwise_cons.1 h2).1 x hx).2 e.symm⟩, (List.pairwise_cons.1 h2).2⟩
theorem upKs {ws : List Nat} {ps : List Pr} {N k p m : Nat} (hS : nodeS ws) (hb : ∀ x ∈ ws, x < 18446744073709551616) (eps : readF (gw ws 3) (ws.drop 8) = ps) (hN : ps.length = N) (hx : ps[m]? = some (k, p)) (hp64 : ∀ x ∈ ps, x.1 < 18446744073709551616 ∧ x.2 < 18446744073709551616) : UpK ws (upW ws ps k p m) ps k p m := by
  have h64 := hS.1.1
  have h8 : (ws.drop 8).length = 56 := by rw [List.length_drop, h64]
  have hrow : ¬ noRow (gw ws 3) 56 := hd_row hS.1.2 rfl
  obtain ⟨n, hs⟩ := setP_iff.1 hS.2.1
  have e1 := stl_read hs (by rw [h8]; exact hrow)
  obtain rfl : n = N := by
    rw [← hN, ← eps, e1, preP_len]
  have hok : ∀ x ∈ ps, okP (gw ws 0 % 256) x.2 := fun x hx => (hS.2.2 x (by rw [eps]; exact hx)).1
  have hB : okB (gw ws 3) ps := by
    have := okB_pre hs
    rw [e1] at eps
    rw [eps] at this
    exact this
  have hn := hs.lt
  rw [h8] at hn
  have ha := hS.1.2.a
  have hc := hS.1.2.c
  unfold ru1 at ha
  unfold ru3 at hc
  have hmem := List.mem_of_getElem? hx
  have hkp := hp64 _ hmem
  have hpo := hok _ hmem
  unfold okP at hpo
  simp only at hkp hpo
  have hs1 : gw ws 1 ≤ 2047 := hS.1.2.b
  obtain ⟨l, hl⟩ : ∃ l, gw ws 0 % 256 = l := ⟨_, rfl⟩
  unfold upW
  rw [hl] at ha hc hpo ⊢
  by_cases h0 : l = 0
  · rw [if_pos h0, if_pos h0]
    have hle : gw ws 3 = 9223372036854775808 := by omega
    have hlen : (layW (layH (7522529147838689024 + l) (gw ws 1) k 9223372036854775808 0) (ps.drop m)).length = 64 := layW_len rfl (by rw [List.length_drop]; omega)
    refine ⟨hlen, layW_lt (fun x hx => ?_) (fun x hx => hp64 x (List.mem_of_mem_drop hx)), ⟨hlen, ⟨?_, hs1, ?_, Nat.zero_le _, rfl, rfl, rfl⟩⟩, ?_, rfl, rfl, fun _ => lay_read rfl (by rw [List.length_drop]; omega) (by show okB 9223372036854775808 _; rw [← hle]; exact okB_drop hB m) (by show (9223372036854775808 : Nat) ≠ 0; decide), fun h => absurd h (by omega)⟩
    · simp only [List.mem_cons, List.not_mem_nil, or_false] at hx
      omega
    · show (7522529147838689024 + l) / 256 * 256 = 7522529147838689024 ∧ (7522529147838689024 + l) % 256 ≤ 12
      omega
    · show ((7522529147838689024 + l) % 256 = 0 ∧ (9223372036854775808 : Nat) = 9223372036854775808) ∨ _
      exact .inl ⟨by omega, rfl⟩
    · show (7522529147838689024 + l) % 256 = _
      omega
  · rw [if_neg h0, if_neg h0]
    have hlen : (layW (layH (7522529147838689024 + l) (gw ws 1) k p 0) (ps.drop (m + 1))).length = 64 := layW_len rfl (by rw [List.length_drop]; omega)
    refine ⟨hlen, layW_lt (fun x hx => ?_) (fun x hx => hp64 x (List.mem_of_mem_drop hx)), ⟨hlen, ⟨?_, hs1, ?_, Nat.zero_le _, rfl, rfl, rfl⟩⟩, ?_, rfl, rfl, fun h => absurd h (by omega), fun _ => ⟨rfl, lay_read rfl (by rw [List.length_drop]; omega) (okB_next hB hx) (by show p ≠ 0; omega)⟩⟩
    · simp only [List.mem_cons, List.not_mem_nil, or_false] at hx
      omega
    · show (7522529147838689024 + l) / 256 * 256 = 7522529147838689024 ∧ (7522529147838689024 + l) % 256 ≤ 12
      omega
    · show _ ∨ (0 < (7522529147838689024 + l) % 256 ∧ 1 ≤ p ∧ p ≤ 2047)
      exact .inr (by omega)
    · show (7522529147838689024 + l) % 256 = _
      omega
end Go.Proofs.Ytfplilpefhhpnaa
/- ref01.Same over slices of words: whether two lists are the same. -/
namespace Go.Proofs.Ytfplilpefhhpnaa
set_option linter.unusedVariables false
set_option linter.unusedSimpArgs false
open Go.RowKit Go.Shelf
set_option maxRecDepth 100000
set_option maxHeartbeats 8000000
theorem usame_any (a1 a2 : Option Addr) (n1 n2 c1 c2 : Nat) (l1 l2 : List Nat) (w : World) (h1 : ReadsT uE 1 w (.slice a1 n1 c1) l1) (h2 : ReadsT uE 1 w (.slice a2 n2 c2) l2) (e1 : l1.length = n1) (e2 : l2.length = n2) (hN : n1 ≤ 1048576) (hN2 : n2 ≤ 1048576) :
    Calls Try.prog 17 #[.slice a1 n1 c1, .slice a2 n2 c2] w fun e w' => e = .returned (.bool (decide (l1 = l2))) ∧ Below w.heap.size w w' := by
  have q := Below.refl w.heap.size w
  have hF1 : ∀ W, Below w.heap.size w W → ReadsT uE 1 W (.slice a1 n1 c1) l1 := fun W hb => h1.up hb
  have hF2 : ∀ W, Below w.heap.size w W → ReadsT uE 1 W (.slice a2 n2 c2) l2 := fun W hb => h2.up hb
  clear h1 h2
  by_cases hn : n1 = n2
  case neg =>
    rw [decide_eq_false fun e => hn (by rw [← e1, ← e2, e])]
    refine X.fn Try.func17 rfl (n := 26) rfl rfl ?_
    refine CC.seq ?_
    refine CC.region ?_
    refine LL.val (R.assign rfl rfl) rfl rfl rfl ?_
    refine LL.nilS ?_
    refine CC.seq ?_
    refine CC.seq ?_
    refine CC.region ?_
    refine LL.val (R.move rfl rfl) rfl rfl rfl ?_
    refine LL.val (R.len rfl rfl rfl rfl) rfl rfl rfl ?_
    refine LL.val (R.move rfl rfl) rfl rfl rfl ?_
    refine LL.val (R.len rfl rfl rfl rfl) rfl rfl rfl ?_
    refine LL.val (R.neT rfl rfl rfl (by omega)) rfl rfl rfl ?_
    refine LL.nilS ?_
    refine CC.yes rfl ?_
    refine CC.seq ?_
    refine CC.region ?_
    refine LL.val (R.assign rfl rfl) rfl rfl rfl ?_
    refine LL.nilS ?_
    refine CC.ret ?_
    refine EE.thenR ?_
    refine EE.ret _ rfl rfl ?_
    exact ⟨rfl, q⟩
  subst hn
  refine X.fn Try.func17 rfl (n := 26) rfl rfl ?_
  refine CC.seq ?_
  refine CC.region ?_
  refine LL.val (R.assign rfl rfl) rfl rfl rfl ?_
  refine LL.nilS ?_
  refine CC.seq ?_
  refine CC.seq ?_
  refine CC.region ?_
  refine LL.val (R.move rfl rfl) rfl rfl rfl ?_
  refine LL.val (R.len rfl rfl rfl rfl) rfl rfl rfl ?_
  refine LL.val (R.move rfl rfl) rfl rfl rfl ?_
  refine LL.val (R.len rfl rfl rfl rfl) rfl rfl rfl ?_
  refine LL.val (R.neF rfl rfl rfl (by omega)) rfl rfl rfl ?_
  refine LL.nilS ?_
  refine CC.no rfl ?_
  refine CC.skip ?_
  refine EE.thenN ?_
  refine CC.seq ?_
  refine CC.seq ?_
  refine CC.region ?_
  refine LL.val (R.assign rfl rfl) rfl rfl rfl ?_
  refine LL.nilS ?_
  refine CC.block ?_
  refine CC.loop (α := Nat) (fun i => [(0, .slice a1 n1 c1), (1, .slice a2 n1 c2), (5, .int .i64 (i : Int))]) (fun i W => i ≤ n1 ∧ Below w.heap.size w W ∧ l1.take i = l2.take i) (fun i => n1 - i) 0 ⟨rfl, rfl, rfl, trivial⟩ ⟨by show 0 ≤ n1; omega, q, rfl⟩ ?_
  clear q
  rintro i W ⟨hi, q, ht⟩
  show CC none Try.prog _ 26 [] (sl [(0, .slice a1 n1 c1), (1, .slice a2 n1 c2), (5, .int .i64 (i : Int))]) _ W
  by_cases hlt : i < n1
  case neg =>
    obtain rfl : i = n1 := by omega
    rw [List.take_of_length_le (by omega), List.take_of_length_le (by omega)] at ht
    rw [decide_eq_true ht]
    refine CC.seq ?_
    refine CC.seq ?_
    refine CC.region ?_
    refine LL.val (R.move rfl rfl) rfl rfl rfl ?_
    refine LL.val (R.move rfl rfl) rfl rfl rfl ?_
    refine LL.val (R.len rfl rfl rfl rfl) rfl rfl rfl ?_
    refine LL.val (R.ltF rfl rfl rfl (by omega)) rfl rfl rfl ?_
    refine LL.nilS ?_
    refine CC.no rfl ?_
    refine CC.exit ?_
    refine EE.thenX ?_
    refine EE.thenX ?_
    refine EE.inX ?_
    refine EE.thenN ?_
    refine CC.seq ?_
    refine CC.region ?_
    refine LL.val (R.assign rfl rfl) rfl rfl rfl ?_
    refine LL.nilS ?_
    refine CC.ret ?_
    refine EE.ret _ rfl rfl ?_
    exact ⟨rfl, q⟩
  obtain ⟨x, hx⟩ : ∃ x, l1[i]? = some x := ⟨_, List.getElem?_eq_getElem (by omega)⟩
  obtain ⟨y, hy⟩ : ∃ y, l2[i]? = some y := ⟨_, List.getElem?_eq_getElem (by omega)⟩
  obtain ⟨b1, o1, rfl, k1, _⟩ := (hF1 W q).one uEnc hx
  obtain ⟨b2, o2, rfl, k2, _⟩ := (hF2 W q).one uEnc hy
  have m1 : ∀ W', Below w.heap.size w W' → W'.cell? ⟨b1, o1 + i, none⟩ = some (.int .u64 (x : Int)) := fun W' b => by
    obtain ⟨_, _, e, _, cs⟩ := (hF1 W' b).one uEnc hx
    cases e
    exact cs _ rfl
  have m2 : ∀ W', Below w.heap.size w W' → W'.cell? ⟨b2, o2 + i, none⟩ = some (.int .u64 (y : Int)) := fun W' b => by
    obtain ⟨_, _, e, _, cs⟩ := (hF2 W' b).one uEnc hy
    cases e
    exact cs _ rfl
  by_cases hxy : x = y
  · refine CC.seq ?_
    refine CC.seq ?_
    refine CC.region ?_
    refine LL.val (R.move rfl rfl) rfl rfl rfl ?_
    refine LL.val (R.move rfl rfl) rfl rfl rfl ?_
    refine LL.val (R.len rfl rfl rfl rfl) rfl rfl rfl ?_
    refine LL.val (R.ltT rfl rfl rfl (by omega)) rfl rfl rfl ?_
    refine LL.nilS ?_
    refine CC.yes rfl ?_
    refine CC.skip ?_
    refine EE.thenN ?_
    refine CC.seq ?_
    refine CC.block ?_
    refine CC.seq ?_
    refine CC.quietB (by kernel_rfl) (by kernel_rfl) (fun Wc2 bc1 zc3 => ?_)
    replace q := q.trans (bc1.mono q.size)
    refine SS.val (R.move rfl rfl) rfl rfl ?_
    refine SS.val (R.move rfl rfl) rfl rfl ?_
    refine SS.val (R.index rfl rfl rfl (I.ixS1 rfl (by omega))) rfl rfl ?_
    (refine SS.val (R.load rfl rfl (I.ld1 rfl (m1 _ q))) rfl rfl ?_)
    refine SS.val (R.move rfl rfl) rfl rfl ?_
    refine SS.val (R.move rfl rfl) rfl rfl ?_
    refine SS.val (R.index rfl rfl rfl (I.ixS1 rfl (by omega))) rfl rfl ?_
    (refine SS.val (R.load rfl rfl (I.ld1 rfl (m2 _ q))) rfl rfl ?_)
    refine SS.val (R.neF rfl rfl rfl (by omega)) rfl rfl ?_
    refine SS.nilQ ?_
    refine EE.thenN ?_
    refine CC.no rfl ?_
    refine CC.skip ?_
    refine EE.inN ?_
    refine EE.thenN ?_
    refine CC.region ?_
    refine LL.val (R.move rfl rfl) rfl rfl rfl ?_
    refine LL.val (R.addNc rfl rfl rfl rfl (by omega)) rfl rfl rfl ?_
    refine LL.val (R.assign rfl rfl) rfl rfl rfl ?_
    refine LL.nil ?_
    exact EE.round (i + 1) ⟨rfl, rfl, rfl, trivial⟩ ⟨by show i + 1 ≤ n1; omega, q, by rw [List.take_add_one, List.take_add_one, hx, hy, ht, hxy]⟩ (by show n1 - (i + 1) < n1 - i; omega)
  · rw [decide_eq_false (fun e => hxy (by rw [e, hy] at hx; exact (Option.some.inj hx).symm))]
    refine CC.seq ?_
    refine CC.seq ?_
    refine CC.region ?_
    refine LL.val (R.move rfl rfl) rfl rfl rfl ?_
    refine LL.val (R.move rfl rfl) rfl rfl rfl ?_
    refine LL.val (R.len rfl rfl rfl rfl) rfl rfl rfl ?_
    refine LL.val (R.ltT rfl rfl rfl (by omega)) rfl rfl rfl ?_
    refine LL.nilS ?_
    refine CC.yes rfl ?_
    refine CC.skip ?_
    refine EE.thenN ?_
    refine CC.seq ?_
    refine CC.block ?_
    refine CC.seq ?_
    refine CC.quietB (by kernel_rfl) (by kernel_rfl) (fun Wd2 bd1 zd3 => ?_)
    replace q := q.trans (bd1.mono q.size)
    refine SS.val (R.move rfl rfl) rfl rfl ?_
    refine SS.val (R.move rfl rfl) rfl rfl ?_
    refine SS.val (R.index rfl rfl rfl (I.ixS1 rfl (by omega))) rfl rfl ?_
    (refine SS.val (R.load rfl rfl (I.ld1 rfl (m1 _ q))) rfl rfl ?_)
    refine SS.val (R.move rfl rfl) rfl rfl ?_
    refine SS.val (R.move rfl rfl) rfl rfl ?_
    refine SS.val (R.index rfl rfl rfl (I.ixS1 rfl (by omega))) rfl rfl ?_
    (refine SS.val (R.load rfl rfl (I.ld1 rfl (m2 _ q))) rfl rfl ?_)
    refine SS.val (R.neT rfl rfl rfl (by omega)) rfl rfl ?_
    refine SS.nilQ ?_
    refine EE.thenN ?_
    refine CC.yes rfl ?_
    refine CC.seq ?_
    refine CC.region ?_
    refine LL.val (R.assign rfl rfl) rfl rfl rfl ?_
    refine LL.nilS ?_
    refine CC.ret ?_
    refine EE.inR ?_
    refine EE.thenR ?_
    refine EE.thenR ?_
    refine EE.inR ?_
    refine EE.thenR ?_
    refine EE.ret _ rfl rfl ?_
    exact ⟨rfl, q⟩
theorem usame_d (v1 v2 : Value) (l1 l2 : List Nat) (w : World) (h1 : ReadsT uE 1 w v1 l1) (h2 : ReadsT uE 1 w v2 l2) (hN : l1.length ≤ 1048576) (hN2 : l2.length ≤ 1048576) : Calls Try.prog 17 #[v1, v2] w fun e w' => e = .returned (.bool (decide (l1 = l2))) ∧ Below w.heap.size w w' := by
  obtain ⟨a1, c1, rfl, _⟩ := h1.form rfl
  obtain ⟨a2, c2, rfl, _⟩ := h2.form rfl
  exact usame_any a1 a2 _ _ c1 c2 l1 l2 w h1 h2 rfl rfl hN hN2
theorem usame_T (v1 v2 : Value) (l : List Nat) (w : World) (h1 : ReadsT uE 1 w v1 l) (h2 : ReadsT uE 1 w v2 l) (hN : l.length ≤ 1048576) : Calls Try.prog 17 #[v1, v2] w fun e w' => e = .returned (.bool true) ∧ Below w.heap.size w w' := by
  have := usame_d v1 v2 l l w h1 h2 hN hN
  rwa [decide_eq_true rfl] at this
end Go.Proofs.Ytfplilpefhhpnaa
/- node: the laws' own functions: num, leaf, lent, works (written by gennd17.py). -/
namespace Go.Proofs.Ytfplilpefhhpnaa
set_option linter.unusedVariables false
set_option linter.unusedSimpArgs false
open Go.RowKit Go.Shelf
set_option maxRecDepth 100000
set_option maxHeartbeats 8000000
theorem num11_any (z : Int) (w : World) : Calls Try.prog 12 #[.int .i64 z] w fun e w' => e = .returned (.int .i64 z) ∧ w = w' := by
  refine X.fn Try.func12 rfl (n := 4) rfl rfl ?_
  refine CC.seq ?_
  refine CC.region ?_
  refine LL.val (R.assign rfl rfl) rfl rfl rfl ?_
  refine LL.nilS ?_
  refine CC.seq ?_
  refine CC.region ?_
  refine LL.val (R.move rfl rfl) rfl rfl rfl ?_
  refine LL.val (R.assign rfl rfl) rfl rfl rfl ?_
  refine LL.nilS ?_
  refine CC.ret ?_
  refine EE.ret _ rfl rfl ?_
  exact ⟨rfl, rfl⟩
theorem leaf_any (w : World) : Calls Try.prog 26 #[] w fun e w' => ∃ g, e = .returned (nodeV 0 0 5 9223372036854775808 0 (.slice (some ⟨g, 0, none⟩) 2 2)) ∧ RowL w' g 46 [.int .u64 5, .int .u64 1, .int .u64 9, .int .u64 2] ∧ w.heap.size ≤ g ∧ Below w.heap.size w w' := by
  have q := Below.refl w.heap.size w
  refine X.fn Try.func26 rfl (n := 5) rfl rfl ?_
  refine CC.seq ?_
  refine CC.region ?_
  refine LL.alloc ([Value.int IntKind.i64 0, Value.int IntKind.i64 0, Value.int IntKind.u64 0, Value.int IntKind.u64 0, Value.int IntKind.i64 0, Value.slice none 0 0]) rfl rfl rfl rfl rfl ?_
  intro W2 g3 eg3 r4 z5 b1
  replace q := q.trans (b1.mono q.size)
  refine LL.nilS ?_
  refine CC.seq ?_
  refine CC.region ?_
  refine LL.val (R.buildV rfl rfl (v := .agg #[Value.int IntKind.u64 5, Value.int IntKind.u64 1]) (fun _ => by kernel_rfl)) rfl rfl rfl ?_
  refine LL.val (R.buildV rfl rfl (v := .agg #[Value.int IntKind.u64 9, Value.int IntKind.u64 2]) (fun _ => by kernel_rfl)) rfl rfl rfl ?_
  have l6 := r4.lt
  refine LL.lit (e := 46) [Value.int IntKind.u64 5, Value.int IntKind.u64 1, Value.int IntKind.u64 9, Value.int IntKind.u64 2] 2 rfl rfl (fun _ => by kernel_rfl) rfl rfl ?_
  intro W8 g9 eg9 r10 z11 b7
  replace r4 := r4.up b7
  replace b1 := b1.trans (b7.mono b1.size)
  replace q := q.trans (b7.mono q.size)
  refine LL.val (R.buildV rfl rfl (v := .agg #[Value.int IntKind.i64 0, Value.int IntKind.i64 0, Value.int IntKind.u64 5, Value.int IntKind.u64 9223372036854775808, Value.int IntKind.i64 0, Value.slice (some { block := g9, off := 0 }) 2 2]) (fun _ => by kernel_rfl)) rfl rfl rfl ?_
  refine LL.storeN (vs := [Value.int IntKind.i64 0, Value.int IntKind.i64 0, Value.int IntKind.u64 5, Value.int IntKind.u64 9223372036854775808, Value.int IntKind.i64 0, Value.slice (some { block := g9, off := 0 }) 2 2]) rfl rfl rfl rfl r4 (by exact Nat.le_of_ble_eq_true rfl) (ones_of rfl) rfl rfl ?_
  intro W13 r14 b12 z15
  have hlb12 := r4.lt
  replace r14 : RowL W13 _ 29 [Value.int IntKind.i64 0, Value.int IntKind.i64 0, Value.int IntKind.u64 5, Value.int IntKind.u64 9223372036854775808, Value.int IntKind.i64 0, Value.slice (some { block := g9, off := 0 }) 2 2] := r14
  clear r4
  replace r10 := r10.gr b12 (by have := r10.lt; omega)
  replace b1 := b1.grown b12 b1.size (by rintro k ⟨⟩; omega)
  replace q := q.grown b12 q.size (by rintro k ⟨⟩; omega)
  have r4 := r14
  clear r14
  refine LL.nilS ?_
  refine CC.ret ?_
  refine EE.retC rfl rfl (lvNc (RowL.cells0 (by assumption)) (by rfl) (by rfl)) ?_
  exact ⟨_, rfl, by assumption, by omega, q⟩
abbrev psC : List Pr := [(5, 1), (9, 2)]
abbrev wsC : List Nat := layW (layH (7522529147838689024 + 0) 0 5 9223372036854775808 0) psC
abbrev wsD : List Nat := layW (layH (7522529147838689024 + 0) 0 9 9223372036854775808 0) [(9, 2)]
theorem okB_dec {le : Nat} {B : List Pr} (h : (∀ x ∈ B, x.2 ≠ 0 ∧ x.2 ≠ le) ∧ B.Pairwise fun x y => x.1 < y.1 ∧ x.2 ≠ y.2) : okB le B := h
theorem okC : okB 9223372036854775808 psC := okB_dec (by decide +kernel)
theorem rdC : readF 9223372036854775808 (wsC.drop 8) = psC := lay_read rfl (by decide +kernel) okC (by decide +kernel)
theorem hdC (lo : Nat) (ps : List Pr) (h : ps.length ≤ 27) : nodeP (layW (layH (7522529147838689024 + 0) 0 lo 9223372036854775808 0) ps) := ⟨layW_len rfl (by omega), ⟨by show (7522529147838689024 + 0) / 256 * 256 = 7522529147838689024 ∧ (7522529147838689024 + 0) % 256 ≤ 12; decide, Nat.zero_le _, .inl ⟨by show (7522529147838689024 + 0) % 256 = 0; decide, rfl⟩, Nat.zero_le _, rfl, rfl, rfl⟩⟩
theorem stC : nodeS wsC := ⟨hdC 5 psC (by decide +kernel), setP_iff.2 ⟨2, lay_stl (h := layH (7522529147838689024 + 0) 0 5 9223372036854775808 0) (ps := psC) rfl (by decide +kernel) okC⟩, fun p hp => by
  have hp : p ∈ psC := by
    rw [← rdC]
    exact hp
  simp only [List.mem_cons, List.not_mem_nil, or_false] at hp
  rcases hp with rfl | rfl
  · exact ⟨.inl (by decide +kernel), .inr ⟨rfl, rfl⟩⟩
  · exact ⟨.inl (by decide +kernel), .inl (by decide +kernel)⟩⟩
theorem ltC : ∀ x ∈ wsC, x < 18446744073709551616 := by decide +kernel
theorem ltD : ∀ x ∈ wsD, x < 18446744073709551616 := by decide +kernel
abbrev osC : List Pt := [(7, 0), (5, 2), (4, 9), (3, 1), (2, 7), (3, 3)]
theorem putC_eq : putF 9223372036854775808 (wsC.drop 8) 7 3 = (0, osC) := by
  unfold putF
  rw [if_neg (show ¬ noRow 9223372036854775808 (wsC.drop 8).length by unfold noRow; decide +kernel), if_neg (by decide), if_neg (fun h => h stC.2.1), if_neg (fun ⟨j, hj, e⟩ => (by decide +kernel : ∀ j, j < overN (wsC.drop 8) → ptrN (wsC.drop 8) j ≠ 3) j hj e), if_neg (fun ⟨j, hj, e⟩ => (by decide +kernel : ∀ j, j < overN (wsC.drop 8) → keyN (wsC.drop 8) j ≠ 7) j hj e), if_neg (by decide)]
  rfl
end Go.Proofs.Ytfplilpefhhpnaa
/- node: works (written by gennd17.py). -/
namespace Go.Proofs.Ytfplilpefhhpnaa
set_option linter.unusedVariables false
set_option linter.unusedSimpArgs false
open Go.RowKit Go.Shelf
set_option maxRecDepth 100000
set_option maxHeartbeats 8000000
abbrev clC : List Value := [.int .u64 7522529147838689024, .int .u64 0, .int .u64 5, .int .u64 9223372036854775808, .int .u64 0, .int .u64 0, .int .u64 0, .int .u64 0, .int .u64 5, .int .u64 1, .int .u64 9, .int .u64 2, .int .u64 0, .int .u64 0, .int .u64 0, .int .u64 0, .int .u64 0, .int .u64 0, .int .u64 0, .int .u64 0, .int .u64 0, .int .u64 0, .int .u64 0, .int .u64 0, .int .u64 0, .int .u64 0, .int .u64 0, .int .u64 0, .int .u64 0, .int .u64 0, .int .u64 0, .int .u64 0, .int .u64 0, .int .u64 0, .int .u64 0, .int .u64 0, .int .u64 0, .int .u64 0, .int .u64 0, .int .u64 0, .int .u64 0, .int .u64 0, .int .u64 0, .int .u64 0, .int .u64 0, .int .u64 0, .int .u64 0, .int .u64 0, .int .u64 0, .int .u64 0, .int .u64 0, .int .u64 0, .int .u64 0, .int .u64 0, .int .u64 0, .int .u64 0, .int .u64 0, .int .u64 0, .int .u64 0, .int .u64 0, .int .u64 0, .int .u64 0, .int .u64 0, .int .u64 0]
theorem clC_eq : ints .u64 wsC = clC := rfl
theorem r8_14 {w : World} {g : Nat} (r : RowL w g 25 clC) : ReadsT uE 1 w (.slice (some ⟨g, 0 + 8 * 1, none⟩) 6 56) [5, 1, 9, 2, 0, 0] := by
  have h := row_uE (ws := wsC) (n := 64) (by rw [clC_eq]; exact r) rfl
  have h2 := (uE_reads h).from 8 (by decide)
  rw [show (ints .u64 wsC).drop 8 = ints .u64 (wsC.drop 8) from rfl] at h2
  have h3 := (reads_uE h2).take uEnc 6 (by decide) 56 (by decide)
  exact h3
theorem nOfD (g : Nat) (W : World) (r : RowL W g 25 (ints .u64 wsD)) : Calls Try.prog 9 #[.slice (some ⟨g, 0, none⟩) 64 64] W fun e w' => (∃ vo, e = .returned (.tuple #[nodeV 0 0 9 9223372036854775808 0 vo, .int .i64 0]) ∧ OwnsT prE 2 w' W.heap.size 46 vo (readF (gw wsD 3) (wsD.drop 8))) ∧ Below W.heap.size W w' := nOf_yes 64 _ wsD W (row_uE r rfl) rfl ltD (hdC 9 [(9, 2)] (by decide))
theorem works11_any (w : World) : Calls Try.prog 7 #[] w fun e w' => e = .returned (.bool true) ∧ Below w.heap.size w w' := by
  have q := Below.refl w.heap.size w
  refine X.fn Try.func7 rfl (n := 105) rfl rfl ?_
  refine CC.seq ?_
  refine CC.region ?_
  refine LL.val (R.assign rfl rfl) rfl rfl rfl ?_
  refine LL.nilS ?_
  refine CC.seq ?_
  refine CC.region ?_
  (refine LL.call (R.call rfl rfl rfl) rfl rfl rfl (leaf_any _) ?_; rintro e W53 ⟨gp, rfl, rp, hgp, b50⟩; refine ⟨_, rfl, ?_⟩)
  have zb50 := b50.size
  replace q := q.trans (b50.mono q.size)
  have l69 := rp.lt
  (refine LL.call (R.call rfl rfl rfl) rfl rfl rfl (make_yes 0 0 0 5 9223372036854775808 0 0 psC _ _ (RowL.readsT prEnc (ts := psC) (by assumption) 2 (by decide)) (by decide) (by decide) (by rw [IntKind.wrap_u64]; rfl) (by rw [IntKind.wrap_u64]; rfl) (by decide) (by decide) (by decide) stC (by rw [rdC])) ?_; rintro e W68 ⟨⟨gw, rfl, rw0, hgw⟩, b65⟩; refine ⟨_, rfl, ?_⟩; replace rw0 : RowL W68 gw 25 clC := rw0)
  have zb65 := b65.size
  replace rp := rp.up b65
  replace b50 := b50.trans (b65.mono b50.size)
  replace q := q.trans (b65.mono q.size)
  refine LL.val (R.move rfl rfl) rfl rfl rfl ?_
  refine LL.val (R.extract rfl rfl rfl) rfl rfl rfl ?_
  refine LL.val (R.extract rfl rfl rfl) rfl rfl rfl ?_
  refine LL.val (R.assign rfl rfl) rfl rfl rfl ?_
  refine LL.val (R.assign rfl rfl) rfl rfl rfl ?_
  refine LL.nilS ?_
  refine CC.seq ?_
  refine CC.seq ?_
  refine CC.region ?_
  refine LL.val (R.move rfl rfl) rfl rfl rfl ?_
  refine LL.call (R.call rfl rfl rfl) rfl rfl rfl (num11_any _ _) ?_
  rintro e W' ⟨rfl, rfl⟩
  refine ⟨_, rfl, ?_⟩
  refine LL.val (R.neF rfl rfl rfl (by omega)) rfl rfl rfl ?_
  refine LL.val (R.move rfl rfl) rfl rfl rfl ?_
  refine LL.val (R.move rfl rfl) rfl rfl rfl ?_
  refine LL.val (R.len rfl rfl rfl rfl) rfl rfl rfl ?_
  refine LL.val (R.neF rfl rfl rfl (by omega)) rfl rfl rfl ?_
  refine LL.val (R.pick rfl rfl rfl) rfl rfl rfl ?_
  refine LL.val (R.move rfl rfl) rfl rfl rfl ?_
  refine LL.val (R.move rfl rfl) rfl rfl rfl ?_
  refine LL.val (R.index rfl rfl rfl (I.ixS1c rfl rfl (by omega))) rfl rfl rfl ?_
  refine LL.val (R.load rfl rfl (I.ld1 rfl (RowL.cell rw0 rfl))) rfl rfl rfl ?_
  refine LL.val (R.neF rfl rfl rfl (by omega)) rfl rfl rfl ?_
  refine LL.val (R.pick rfl rfl rfl) rfl rfl rfl ?_
  refine LL.val (R.move rfl rfl) rfl rfl rfl ?_
  refine LL.val (R.move rfl rfl) rfl rfl rfl ?_
  refine LL.val (R.index rfl rfl rfl (I.ixS1c rfl rfl (by omega))) rfl rfl rfl ?_
  refine LL.val (R.load rfl rfl (I.ld1 rfl (RowL.cell rw0 rfl))) rfl rfl rfl ?_
  refine LL.val (R.neF rfl rfl rfl (by omega)) rfl rfl rfl ?_
  refine LL.val (R.pick rfl rfl rfl) rfl rfl rfl ?_
  refine LL.val (R.move rfl rfl) rfl rfl rfl ?_
  refine LL.val (R.move rfl rfl) rfl rfl rfl ?_
  refine LL.val (R.index rfl rfl rfl (I.ixS1c rfl rfl (by omega))) rfl rfl rfl ?_
  refine LL.val (R.load rfl rfl (I.ld1 rfl (RowL.cell rw0 rfl))) rfl rfl rfl ?_
  refine LL.val (R.neF rfl rfl rfl (by omega)) rfl rfl rfl ?_
  refine LL.val (R.pick rfl rfl rfl) rfl rfl rfl ?_
  refine LL.val (R.move rfl rfl) rfl rfl rfl ?_
  refine LL.val (R.move rfl rfl) rfl rfl rfl ?_
  refine LL.val (R.slice rfl rfl rfl rfl rfl (I.slSc rfl rfl rfl (by omega) (by omega) (by omega))) rfl rfl rfl ?_
  have l2278 := rw0.lt
  have l2279 := rp.lt
  refine LL.lit (e := 25) [Value.int IntKind.u64 5, Value.int IntKind.u64 1, Value.int IntKind.u64 9, Value.int IntKind.u64 2, Value.int IntKind.u64 0, Value.int IntKind.u64 0] 6 rfl rfl (fun _ => by kernel_rfl) rfl rfl ?_
  intro W2281 g2282 eg2282 r2283 z2284 b2280
  replace b65 := b65.trans (b2280.mono b65.size)
  replace rw0 := rw0.up b2280
  replace rp := rp.up b2280
  replace b50 := b50.trans (b2280.mono b50.size)
  replace q := q.trans (b2280.mono q.size)
  have l2309 := r2283.lt
  have l2310 := rw0.lt
  have l2311 := rp.lt
  (refine LL.call (R.call rfl rfl rfl) rfl rfl rfl (usame_T _ _ [5, 1, 9, 2, 0, 0] _ (r8_14 (by assumption)) (RowL.readsT uEnc (ts := [5, 1, 9, 2, 0, 0]) (by assumption) 6 (by decide)) (by decide)) ?_; rintro e W2308 ⟨rfl, b2305⟩; refine ⟨_, rfl, ?_⟩)
  have zb2305 := b2305.size
  replace r2283 := r2283.up b2305
  replace b2280 := b2280.trans (b2305.mono b2280.size)
  replace b65 := b65.trans (b2305.mono b65.size)
  replace rw0 := rw0.up b2305
  replace rp := rp.up b2305
  replace b50 := b50.trans (b2305.mono b50.size)
  replace q := q.trans (b2305.mono q.size)
  refine LL.val (R.not rfl rfl) rfl rfl rfl ?_
  refine LL.val (R.pick rfl rfl rfl) rfl rfl rfl ?_
  refine LL.nilS ?_
  refine CC.no rfl ?_
  refine CC.skip ?_
  refine EE.thenN ?_
  refine CC.seq ?_
  refine CC.region ?_
  refine LL.val (R.move rfl rfl) rfl rfl rfl ?_
  refine LL.val (R.buildV rfl rfl (v := .agg #[Value.int IntKind.u64 7, Value.int IntKind.u64 3]) (fun _ => by kernel_rfl)) rfl rfl rfl ?_
  have l2629 := r2283.lt
  have l2630 := rw0.lt
  have l2631 := rp.lt
  (refine LL.call (R.call rfl rfl rfl) rfl rfl rfl (nPut_other _ wsC _ (row_uE (by rw [clC_eq]; assumption) rfl) rfl ltC stC 7 3 (.inl (by decide)) (.inl (by decide)) (by decide) osC putC_eq (by decide) (by decide)) ?_; rintro e W2628 ⟨va, rfl, oa, b2625⟩; refine ⟨_, rfl, ?_⟩; obtain ⟨av, cv, rfl, hcv⟩ := (oa.reads pEnc).form (n := 7) rfl; obtain ⟨bv, ov, rfl, _, _⟩ := (oa.reads pEnc).get pEnc (i := 0) rfl; obtain ⟨X1, hzX1, haF, q1⟩ := exposeT (oa.reads pEnc); have zX1 := q1.size; clear oa)
  have zb2625 := b2625.size
  replace b2305 := b2305.trans (b2625.mono b2305.size)
  replace r2283 := r2283.up b2625
  replace b2280 := b2280.trans (b2625.mono b2280.size)
  replace b65 := b65.trans (b2625.mono b65.size)
  replace rw0 := rw0.up b2625
  replace rp := rp.up b2625
  replace b50 := b50.trans (b2625.mono b50.size)
  replace q := q.trans (b2625.mono q.size)
  refine LL.val (R.move rfl rfl) rfl rfl rfl ?_
  refine LL.val (R.extract rfl rfl rfl) rfl rfl rfl ?_
  refine LL.val (R.extract rfl rfl rfl) rfl rfl rfl ?_
  refine LL.val (R.assign rfl rfl) rfl rfl rfl ?_
  refine LL.val (R.assign rfl rfl) rfl rfl rfl ?_
  refine LL.nilS ?_
  refine CC.seq ?_
  refine CC.region ?_
  refine LL.val (R.move rfl rfl) rfl rfl rfl ?_
  have l3099 := r2283.lt
  have l3100 := rw0.lt
  have l3101 := rp.lt
  (refine LL.call (R.call rfl rfl rfl) rfl rfl rfl (split_yes 64 _ wsC _ (row_uE (by rw [clC_eq]; assumption) rfl) rfl ltC stC 40 2 1 9 2 (by decide) psC rdC rfl (by decide) rfl rfl) ?_; rintro e W3098 ⟨gv, vm, rfl, rv, om, hgv, b3095⟩; refine ⟨_, rfl, ?_⟩; obtain ⟨am, cm, rfl, hcm⟩ := (om.reads pEnc).form (n := 2) rfl; obtain ⟨X2, hzX2, hmF, q2⟩ := exposeT (om.reads pEnc); have zX2 := q2.size; clear om)
  have zb3095 := b3095.size
  replace b2625 := b2625.trans (b3095.mono b2625.size)
  replace q1 := q1.trans (b3095.mono q1.size)
  replace b2305 := b2305.trans (b3095.mono b2305.size)
  replace r2283 := r2283.up b3095
  replace b2280 := b2280.trans (b3095.mono b2280.size)
  replace b65 := b65.trans (b3095.mono b65.size)
  replace rw0 := rw0.up b3095
  replace rp := rp.up b3095
  replace b50 := b50.trans (b3095.mono b50.size)
  replace q := q.trans (b3095.mono q.size)
  refine LL.val (R.move rfl rfl) rfl rfl rfl ?_
  refine LL.val (R.extract rfl rfl rfl) rfl rfl rfl ?_
  refine LL.val (R.extract rfl rfl rfl) rfl rfl rfl ?_
  refine LL.val (R.extract rfl rfl rfl) rfl rfl rfl ?_
  refine LL.val (R.assign rfl rfl) rfl rfl rfl ?_
  refine LL.val (R.assign rfl rfl) rfl rfl rfl ?_
  refine LL.val (R.assign rfl rfl) rfl rfl rfl ?_
  refine LL.nilS ?_
  refine CC.seq ?_
  refine CC.region ?_
  refine LL.val (R.move rfl rfl) rfl rfl rfl ?_
  have l3780 := rv.lt
  have l3781 := r2283.lt
  have l3782 := rw0.lt
  have l3783 := rp.lt
  (refine LL.call (R.call rfl rfl rfl) rfl rfl rfl (nOfD _ _ rv) ?_; rintro e W3779 ⟨⟨vo, rfl, oo⟩, b3776⟩; refine ⟨_, rfl, ?_⟩; obtain ⟨ao, co, rfl, hco⟩ := (oo.reads prEnc).form rfl; clear oo)
  have zb3776 := b3776.size
  replace rv := rv.up b3776
  replace b3095 := b3095.trans (b3776.mono b3095.size)
  replace q2 := q2.trans (b3776.mono q2.size)
  replace b2625 := b2625.trans (b3776.mono b2625.size)
  replace q1 := q1.trans (b3776.mono q1.size)
  replace b2305 := b2305.trans (b3776.mono b2305.size)
  replace r2283 := r2283.up b3776
  replace b2280 := b2280.trans (b3776.mono b2280.size)
  replace b65 := b65.trans (b3776.mono b65.size)
  replace rw0 := rw0.up b3776
  replace rp := rp.up b3776
  replace b50 := b50.trans (b3776.mono b50.size)
  replace q := q.trans (b3776.mono q.size)
  refine LL.val (R.move rfl rfl) rfl rfl rfl ?_
  refine LL.val (R.extract rfl rfl rfl) rfl rfl rfl ?_
  refine LL.val (R.extract rfl rfl rfl) rfl rfl rfl ?_
  have l4095 := rv.lt
  have l4096 := r2283.lt
  have l4097 := rw0.lt
  have l4098 := rp.lt
  refine LL.alloc ([Value.int IntKind.i64 0, Value.int IntKind.i64 0, Value.int IntKind.u64 0, Value.int IntKind.u64 0, Value.int IntKind.i64 0, Value.slice none 0 0]) rfl rfl rfl rfl rfl ?_
  intro W4100 g4101 eg4101 r4102 z4103 b4099
  replace b3776 := b3776.trans (b4099.mono b3776.size)
  replace rv := rv.up b4099
  replace b3095 := b3095.trans (b4099.mono b3095.size)
  replace q2 := q2.trans (b4099.mono q2.size)
  replace b2625 := b2625.trans (b4099.mono b2625.size)
  replace q1 := q1.trans (b4099.mono q1.size)
  replace b2305 := b2305.trans (b4099.mono b2305.size)
  replace r2283 := r2283.up b4099
  replace b2280 := b2280.trans (b4099.mono b2280.size)
  replace b65 := b65.trans (b4099.mono b65.size)
  replace rw0 := rw0.up b4099
  replace rp := rp.up b4099
  replace b50 := b50.trans (b4099.mono b50.size)
  replace q := q.trans (b4099.mono q.size)
  refine LL.storeN (vs := [Value.int IntKind.i64 0, Value.int IntKind.i64 0, Value.int IntKind.u64 ↑9, Value.int IntKind.u64 ↑9223372036854775808, Value.int IntKind.i64 0, Value.slice ao (readF (Ytfplilpefhhpnaa.gw wsD 3) (List.drop 8 wsD)).length co]) rfl rfl rfl rfl r4102 (by exact Nat.le_of_ble_eq_true rfl) (ones_of rfl) rfl rfl ?_
  intro W4189 r4190 b4188 z4191
  have hlb4188 := r4102.lt
  replace r4190 : RowL W4189 _ 29 [Value.int IntKind.i64 0, Value.int IntKind.i64 0, Value.int IntKind.u64 ↑9, Value.int IntKind.u64 ↑9223372036854775808, Value.int IntKind.i64 0, Value.slice ao (readF (Ytfplilpefhhpnaa.gw wsD 3) (List.drop 8 wsD)).length co] := r4190
  clear r4102
  replace b4099 := b4099.grown b4188 b4099.size (by rintro k ⟨⟩; omega)
  replace b3776 := b3776.grown b4188 b3776.size (by rintro k ⟨⟩; omega)
  replace rv := rv.gr b4188 (by have := rv.lt; omega)
  replace b3095 := b3095.grown b4188 b3095.size (by rintro k ⟨⟩; omega)
  replace q2 := q2.grown b4188 q2.size (by rintro k ⟨⟩; omega)
  replace b2625 := b2625.grown b4188 b2625.size (by rintro k ⟨⟩; omega)
  replace q1 := q1.grown b4188 q1.size (by rintro k ⟨⟩; omega)
  replace b2305 := b2305.grown b4188 b2305.size (by rintro k ⟨⟩; omega)
  replace r2283 := r2283.gr b4188 (by have := r2283.lt; omega)
  replace b2280 := b2280.grown b4188 b2280.size (by rintro k ⟨⟩; omega)
  replace b65 := b65.grown b4188 b65.size (by rintro k ⟨⟩; omega)
  replace rw0 := rw0.gr b4188 (by have := rw0.lt; omega)
  replace rp := rp.gr b4188 (by have := rp.lt; omega)
  replace b50 := b50.grown b4188 b50.size (by rintro k ⟨⟩; omega)
  replace q := q.grown b4188 q.size (by rintro k ⟨⟩; omega)
  have r4102 := r4190
  clear r4190
  refine LL.val (R.assign rfl rfl) rfl rfl rfl ?_
  refine LL.nilS ?_
  refine CC.seq ?_
  refine CC.region ?_
  refine LL.val (R.move rfl rfl) rfl rfl rfl ?_
  refine LL.call (R.call rfl rfl rfl) rfl rfl rfl (num11_any _ _) ?_
  rintro e W' ⟨rfl, rfl⟩
  refine ⟨_, rfl, ?_⟩
  refine LL.val (R.move rfl rfl) rfl rfl rfl ?_
  refine LL.call (R.call rfl rfl rfl) rfl rfl rfl (num11_any _ _) ?_
  rintro e W' ⟨rfl, rfl⟩
  refine ⟨_, rfl, ?_⟩
  refine LL.val (R.addIz (z := 0) rfl rfl rfl (by decide) (by decide)) rfl rfl rfl ?_
  refine LL.val (R.move rfl rfl) rfl rfl rfl ?_
  refine LL.call (R.call rfl rfl rfl) rfl rfl rfl (num11_any _ _) ?_
  rintro e W' ⟨rfl, rfl⟩
  refine ⟨_, rfl, ?_⟩
  refine LL.val (R.addIz (z := 0) rfl rfl rfl (by decide) (by decide)) rfl rfl rfl ?_
  refine LL.val (R.eqT rfl rfl rfl (by omega)) rfl rfl rfl ?_
  refine LL.val (R.move rfl rfl) rfl rfl rfl ?_
  refine LL.val (R.move rfl rfl) rfl rfl rfl ?_
  refine LL.val (R.len rfl rfl rfl rfl) rfl rfl rfl ?_
  refine LL.val (R.eqT rfl rfl rfl (by omega)) rfl rfl rfl ?_
  refine LL.val (R.pick rfl rfl rfl) rfl rfl rfl ?_
  refine LL.val (R.move rfl rfl) rfl rfl rfl ?_
  refine LL.val (R.move rfl rfl) rfl rfl rfl ?_
  refine LL.val (R.index rfl rfl rfl (I.ixSc rfl rfl (by omega))) rfl rfl rfl ?_
  (refine LL.val (R.load rfl rfl (I.ldNc ((haF _ q1).elemN pEnc (i := 0) rfl).at' rfl rfl)) rfl rfl rfl ?_)
  refine LL.val (R.buildV rfl rfl (v := .agg #[Value.int IntKind.i64 4, Value.int IntKind.u64 1]) (fun _ => by kernel_rfl)) rfl rfl rfl ?_
  refine LL.val (R.eqST (p := (4 : Int) = 4 ∧ (↑1 : Int) = 1) (bs := [decide ((4 : Int) = 4), decide ((↑1 : Int) = 1)]) rfl rfl rfl rfl (by kernel_rfl) (by kernel_rfl) (by simp) (by first | assumption | omega | exact ⟨rfl, rfl⟩ | exact fun h => h ⟨rfl, rfl⟩)) rfl rfl rfl ?_
  refine LL.val (R.pick rfl rfl rfl) rfl rfl rfl ?_
  refine LL.val (R.move rfl rfl) rfl rfl rfl ?_
  refine LL.val (R.move rfl rfl) rfl rfl rfl ?_
  refine LL.val (R.index rfl rfl rfl (I.ixSc rfl rfl (by omega))) rfl rfl rfl ?_
  (refine LL.val (R.load rfl rfl (I.ldNc ((haF _ q1).elemN pEnc (i := 1) rfl).at' rfl rfl)) rfl rfl rfl ?_)
  refine LL.val (R.buildV rfl rfl (v := .agg #[Value.int IntKind.i64 15, Value.int IntKind.u64 0]) (fun _ => by kernel_rfl)) rfl rfl rfl ?_
  refine LL.val (R.eqST (p := (7 + 8 : Int) = 15 ∧ (↑0 : Int) = 0) (bs := [decide ((7 + 8 : Int) = 15), decide ((↑0 : Int) = 0)]) rfl rfl rfl rfl (by kernel_rfl) (by kernel_rfl) (by simp) (by first | assumption | omega | exact ⟨rfl, rfl⟩ | exact fun h => h ⟨rfl, rfl⟩)) rfl rfl rfl ?_
  refine LL.val (R.pick rfl rfl rfl) rfl rfl rfl ?_
  refine LL.val (R.move rfl rfl) rfl rfl rfl ?_
  refine LL.val (R.field rfl rfl (I.fld rfl)) rfl rfl rfl ?_
  refine LL.val (R.load rfl rfl (I.ld1 rfl (RowL.cell r4102 rfl))) rfl rfl rfl ?_
  refine LL.val (R.eqT rfl rfl rfl (by omega)) rfl rfl rfl ?_
  refine LL.val (R.pick rfl rfl rfl) rfl rfl rfl ?_
  refine LL.val (R.move rfl rfl) rfl rfl rfl ?_
  refine LL.val (R.move rfl rfl) rfl rfl rfl ?_
  refine LL.val (R.buildV rfl rfl (v := .agg #[Value.int IntKind.i64 1, Value.int IntKind.u64 40]) (fun _ => by kernel_rfl)) rfl rfl rfl ?_
  refine LL.val (R.buildV rfl rfl (v := .agg #[Value.int IntKind.i64 11, Value.int IntKind.u64 0]) (fun _ => by kernel_rfl)) rfl rfl rfl ?_
  have l7444 := rv.lt
  have l7445 := r2283.lt
  have l7446 := rw0.lt
  have l7447 := rp.lt
  have l7448 := r4102.lt
  refine LL.lit (e := 68) [Value.int IntKind.i64 1, Value.int IntKind.u64 40, Value.int IntKind.i64 11, Value.int IntKind.u64 0] 2 rfl rfl (fun _ => by kernel_rfl) rfl rfl ?_
  intro W7450 g7451 eg7451 r7452 z7453 b7449
  replace b4099 := b4099.trans (b7449.mono b4099.size)
  replace b3776 := b3776.trans (b7449.mono b3776.size)
  replace rv := rv.up b7449
  replace b3095 := b3095.trans (b7449.mono b3095.size)
  replace q2 := q2.trans (b7449.mono q2.size)
  replace b2625 := b2625.trans (b7449.mono b2625.size)
  replace q1 := q1.trans (b7449.mono q1.size)
  replace b2305 := b2305.trans (b7449.mono b2305.size)
  replace r2283 := r2283.up b7449
  replace b2280 := b2280.trans (b7449.mono b2280.size)
  replace b65 := b65.trans (b7449.mono b65.size)
  replace rw0 := rw0.up b7449
  replace rp := rp.up b7449
  replace b50 := b50.trans (b7449.mono b50.size)
  replace q := q.trans (b7449.mono q.size)
  replace r4102 := r4102.up b7449
  have l7536 := r7452.lt
  have l7537 := rv.lt
  have l7538 := r2283.lt
  have l7539 := rw0.lt
  have l7540 := rp.lt
  have l7541 := r4102.lt
  (refine LL.call (R.call rfl rfl rfl) rfl rfl rfl (psame_any _ _ [((1 : Int), 40), ((11 : Int), 0)] [((1 : Int), 40), ((11 : Int), 0)] _ (hmF _ q2) (RowL.readsT pEnc (ts := [((1 : Int), 40), ((11 : Int), 0)]) (by assumption) 2 (by decide)) (by decide) (by decide)) ?_; rintro e W7535 ⟨rfl, b7532⟩; refine ⟨_, rfl, ?_⟩; rw [decide_eq_true rfl])
  have zb7532 := b7532.size
  replace r7452 := r7452.up b7532
  replace b7449 := b7449.trans (b7532.mono b7449.size)
  replace b4099 := b4099.trans (b7532.mono b4099.size)
  replace b3776 := b3776.trans (b7532.mono b3776.size)
  replace rv := rv.up b7532
  replace b3095 := b3095.trans (b7532.mono b3095.size)
  replace q2 := q2.trans (b7532.mono q2.size)
  replace b2625 := b2625.trans (b7532.mono b2625.size)
  replace q1 := q1.trans (b7532.mono q1.size)
  replace b2305 := b2305.trans (b7532.mono b2305.size)
  replace r2283 := r2283.up b7532
  replace b2280 := b2280.trans (b7532.mono b2280.size)
  replace b65 := b65.trans (b7532.mono b65.size)
  replace rw0 := rw0.up b7532
  replace rp := rp.up b7532
  replace b50 := b50.trans (b7532.mono b50.size)
  replace q := q.trans (b7532.mono q.size)
  replace r4102 := r4102.up b7532
  refine LL.val (R.pick rfl rfl rfl) rfl rfl rfl ?_
  refine LL.val (R.assign rfl rfl) rfl rfl rfl ?_
  refine LL.nilS ?_
  refine CC.ret ?_
  refine EE.ret _ rfl rfl ?_
  exact ⟨rfl, q⟩
end Go.Proofs.Ytfplilpefhhpnaa
