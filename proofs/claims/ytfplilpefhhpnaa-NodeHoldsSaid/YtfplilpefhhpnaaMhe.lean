/- What the statements' walks use: Nd18, Open, OpenI, SoS, HoldsW. -/
import Derived.Test.YtfplilpefhhpnaaRows
import Derived.ProofKit
import Derived.OpenShut
import Derived.ShutString
import Derived.ChangeOld
import Derived.ChangeSame
import Derived.Test.YtfplilpefhhpnaaMha
import Derived.Test.YtfplilpefhhpnaaMhd
/- node: NodeHolds (written by gennd18.py). -/
namespace Go.Proofs.Ytfplilpefhhpnaa
set_option linter.unusedVariables false
set_option linter.unusedSimpArgs false
open Go.RowKit Go.Shelf
theorem LL.keep {P : Program} {ops : Array Oper} {Q : Exit → Act → World → Prop} {n : Nat} {D : List Deferred} {M : Slots} {w : World} {r : Option Nat} {l : List Oper} (L : List (Nat × Value)) (hL : Fits M L) (h : LL r P ops Q n D (sl L) l w) : LL r P ops Q n D M l w := LL.mk fun a F => h.h a (F.keep L hL)

set_option maxRecDepth 100000
set_option maxHeartbeats 8000000
theorem pairF_mem {left : Nat} {s : List Nat} : ∀ {j : Nat}, ∀ x ∈ pairF left s j, ∃ i, x = (i, prA s i)
  | 0, x, h => absurd h (by simp [pairF])
  | j + 1, x, h => by
    rw [pairF_succ] at h
    split at h
    · exact pairF_mem x h
    · rcases List.mem_append.1 h with h | h
      · exact pairF_mem x h
      · exact ⟨j, List.mem_singleton.1 h⟩
theorem getD_lt {s : List Nat} (hb : ∀ x ∈ s, x < 18446744073709551616) (i : Nat) : (s[i]?).getD 0 < 18446744073709551616 := by
  cases h : s[i]? with
  | none => decide
  | some x => exact hb x (List.mem_of_getElem? h)
theorem readF_lt {left : Nat} {s : List Nat} (hb : ∀ x ∈ s, x < 18446744073709551616) : ∀ p ∈ readF left s, p.1 < 18446744073709551616 ∧ p.2 < 18446744073709551616 := by
  intro p hp
  unfold readF at hp
  split at hp
  · cases hp
  · obtain ⟨x, hx, rfl⟩ := List.mem_map.1 hp
    obtain ⟨i, rfl⟩ := pairF_mem x hx
    exact ⟨getD_lt hb _, getD_lt hb _⟩
theorem okB_mid {le m k p i k1 p1 : Nat} {B : List Pr} (h : okB le B) (hx : B[m]? = some (k, p)) (hi : B[i]? = some (k1, p1)) : k1 < k ↔ i < m := by
  obtain ⟨hm, e⟩ := List.getElem?_eq_some_iff.1 hx
  obtain ⟨hi', e'⟩ := List.getElem?_eq_some_iff.1 hi
  have h2 := List.pairwise_iff_getElem.1 h.2
  constructor
  · intro hk
    rcases Nat.lt_trichotomy i m with h | rfl | h
    · exact h
    · rw [e] at e'
      cases e'
      omega
    · have := (h2 m i hm hi' h).1
      rw [e, e'] at this
      dsimp only at this
      omega
  · intro h
    have := (h2 i m hi' hm h).1
    rw [e, e'] at this
    exact this
theorem applyS_lt : ∀ (os : List Pt), (∀ p ∈ os, p.2 < 18446744073709551616) → ∀ ws : List Nat, (∀ x ∈ ws, x < 18446744073709551616) → ∀ x ∈ applyS ws os, x < 18446744073709551616
  | [], _, ws, h, x, hx => h x hx
  | p :: os, ho, ws, h, x, hx => applyS_lt os (fun p hp => ho p (List.mem_cons_of_mem _ hp)) (ws.set p.1.toNat p.2) (fun y hy => by
    rcases List.mem_or_eq_of_mem_set hy with h1 | rfl
    · exact h y h1
    · exact ho p (List.mem_cons_self)) x hx
theorem splN_fine (blk N T : Nat) (hb : blk < 18446744073709551616) : ∀ p ∈ splN blk N T, 0 ≤ p.1 ∧ p.2 < 18446744073709551616 := by
  intro p hp
  unfold splN at hp
  rcases List.mem_cons.1 hp with rfl | hp
  · exact ⟨Int.natCast_nonneg 1, hb⟩
  · obtain ⟨u, _, rfl⟩ := List.mem_map.1 hp
    exact ⟨by show (0 : Int) ≤ 8 + ((2 * (N - 1 - u) : Nat) : Int) + 1; omega, Nat.le_of_ble_eq_true rfl⟩
/-- Ways that meet. -/
structure Later (A : Prop) : Prop where
  out : A
theorem meet3 {α β : Type} {A : α → β → World → Prop} {B : Prop} (F : α → β → World → Prop) (f : Later (∀ a b w, F a b w → A a b w) → B) (k : ∀ a b w, F a b w → A a b w) : B := f ⟨k⟩
theorem prsame_T (va vb : Value) (xs : List Pr) (w : World) (ha : ReadsT prE 2 w va xs) (hb : ReadsT prE 2 w vb xs) (hl : xs.length ≤ 1048576) : Calls Try.prog 24 #[va, vb] w fun e w' => e = .returned (.bool true) ∧ Below w.heap.size w w' := by
  have := dprsame_any va vb xs xs w ha hb hl hl
  rwa [decide_eq_true rfl] at this
theorem holds_no (n : Nat) (v : Value) (ws : List Nat) (w : World) (hv : ReadsT uE 1 w v ws) (hn : ws.length = n) (hb : ∀ x ∈ ws, x < 18446744073709551616) (blk : Int) (er : Nat) (he : er ≠ 0) (hsp : ∀ W, Below w.heap.size w W → Calls Try.prog 18 #[v, .int .i64 blk] W fun e w' => e = .returned (.tuple #[nilV, nilV, .int .i64 (er : Int)]) ∧ Below W.heap.size W w') : Calls Try.prog 6 #[v, .int .i64 blk] w fun e w' => e = .returned (.bool true) ∧ Below w.heap.size w w' := by
  have q := Below.refl w.heap.size w
  obtain ⟨a, c, rfl, hc⟩ := hv.form hn
  have he' : (er : Int) ≠ 0 := by omega
  clear hv hb
  by_cases h70 : 70 < n
  · refine X.fn Try.func6 rfl (n := 198) rfl rfl ?_
    refine CC.seq ?_
    refine CC.region ?_
    refine LL.val (R.assign rfl rfl) rfl rfl rfl ?_
    refine LL.nilS ?_
    refine CC.seq ?_
    refine CC.seq ?_
    refine CC.region ?_
    refine LL.val (R.move rfl rfl) rfl rfl rfl ?_
    refine LL.val (R.len rfl rfl rfl rfl) rfl rfl rfl ?_
    refine LL.val (R.gtT rfl rfl rfl (by omega)) rfl rfl rfl ?_
    refine LL.nilS ?_
    refine CC.yes rfl ?_
    refine CC.seq ?_
    refine CC.region ?_
    refine LL.call (R.call rfl rfl rfl) rfl rfl rfl (works11_any _) ?_
    rintro e W2 ⟨rfl, b1⟩
    refine ⟨_, rfl, ?_⟩
    have zb1 := b1.size
    replace q := q.trans (b1.mono q.size)
    refine LL.val (R.assign rfl rfl) rfl rfl rfl ?_
    refine LL.nilS ?_
    refine CC.ret ?_
    refine EE.thenR ?_
    refine EE.ret _ rfl rfl ?_
    exact ⟨rfl, q⟩
  refine X.fn Try.func6 rfl (n := 198) rfl rfl ?_
  refine CC.seq ?_
  refine CC.region ?_
  refine LL.val (R.assign rfl rfl) rfl rfl rfl ?_
  refine LL.nilS ?_
  refine CC.seq ?_
  refine CC.seq ?_
  refine CC.region ?_
  refine LL.val (R.move rfl rfl) rfl rfl rfl ?_
  refine LL.val (R.len rfl rfl rfl rfl) rfl rfl rfl ?_
  refine LL.val (R.gtF rfl rfl rfl (by omega)) rfl rfl rfl ?_
  refine LL.nilS ?_
  refine CC.no rfl ?_
  refine CC.skip ?_
  refine EE.thenN ?_
  refine CC.seq ?_
  refine CC.region ?_
  refine LL.val (R.move rfl rfl) rfl rfl rfl ?_
  refine LL.val (R.move rfl rfl) rfl rfl rfl ?_
  (refine LL.call (R.call rfl rfl rfl) rfl rfl rfl (hsp _ q) ?_; rintro e Wa46 ⟨rfl, ba43⟩; refine ⟨_, rfl, ?_⟩)
  have zba43 := ba43.size
  replace q := q.trans (ba43.mono q.size)
  refine LL.val (R.move rfl rfl) rfl rfl rfl ?_
  refine LL.val (R.extract rfl rfl rfl) rfl rfl rfl ?_
  refine LL.val (R.extract rfl rfl rfl) rfl rfl rfl ?_
  refine LL.val (R.extract rfl rfl rfl) rfl rfl rfl ?_
  refine LL.val (R.assign rfl rfl) rfl rfl rfl ?_
  refine LL.val (R.assign rfl rfl) rfl rfl rfl ?_
  refine LL.val (R.assign rfl rfl) rfl rfl rfl ?_
  refine LL.nilS ?_
  refine CC.seq ?_
  refine CC.seq ?_
  refine CC.region ?_
  refine LL.val (R.move rfl rfl) rfl rfl rfl ?_
  refine LL.call (R.call rfl rfl rfl) rfl rfl rfl (num11_any _ _) ?_
  rintro e W' ⟨rfl, rfl⟩
  refine ⟨_, rfl, ?_⟩
  refine LL.val (R.neT rfl rfl rfl (by omega)) rfl rfl rfl ?_
  refine LL.nilS ?_
  refine CC.yes rfl ?_
  refine CC.seq ?_
  refine CC.region ?_
  refine LL.call (R.call rfl rfl rfl) rfl rfl rfl (works11_any _) ?_
  rintro e Wa128 ⟨rfl, ba127⟩
  refine ⟨_, rfl, ?_⟩
  have zba127 := ba127.size
  replace ba43 := ba43.trans (ba127.mono ba43.size)
  replace q := q.trans (ba127.mono q.size)
  refine LL.val (R.assign rfl rfl) rfl rfl rfl ?_
  refine LL.nilS ?_
  refine CC.ret ?_
  refine EE.thenR ?_
  refine EE.ret _ rfl rfl ?_
  exact ⟨rfl, q⟩
--C ref09_Same | hsm6 @w (q6.trans (b'.mono q6.size)) (q2.trans (b'.mono q2.size)) | ⟨rfl, @b⟩
--C ref09_Same | hsm6 @w q6 q2 | ⟨rfl, @b⟩
theorem holds_yes (v : Value) (ws : List Nat) (w : World) (hv : ReadsT uE 1 w v ws) (hn : ws.length = 64) (hb : ∀ x ∈ ws, x < 18446744073709551616) (hS : nodeS ws) (blk N m k p : Nat) (hk : 1 ≤ blk ∧ blk ≤ 2047) (ps : List Pr) (eps : readF (gw ws 3) (ws.drop 8) = ps) (hN : ps.length = N) (h2 : 2 ≤ N) (hm : m = N / 2) (hx : ps[m]? = some (k, p)) : Calls Try.prog 6 #[v, .int .i64 (blk : Int)] w fun e w' => e = .returned (.bool true) ∧ Below w.heap.size w w' := by
  have q := Below.refl w.heap.size w
  obtain ⟨bk, off, c, rfl, hc⟩ := sl64 hv hn
  have hvF : ∀ X, Below w.heap.size w X → ReadsT uE 1 X (.slice (some ⟨bk, off, none⟩) 64 c) ws := fun X b => hv.up b
  clear hv
  have hp64 : ∀ x ∈ ps, x.1 < 18446744073709551616 ∧ x.2 < 18446744073709551616 := by
    rw [← eps]
    exact readF_lt fun x hx => hb x (List.mem_of_mem_drop hx)
  have U := upKs hS hb eps hN hx hp64
  have hN28 : N ≤ 28 := by
    rw [← hN, ← eps]
    have := readF_len (gw ws 3) (ws.drop 8)
    rw [List.length_drop, hn] at this
    omega
  have hA := fun t (ht : t ≤ N - m + 1) => atK (T := N - m) (k := t) hS eps hN hk (by omega) ht
  have hlt : ∀ os : List Pt, (∀ p ∈ os, p.2 < 18446744073709551616) → ∀ x ∈ applyS ws os, x < 18446744073709551616 := fun os => by
    intro h
    exact applyS_lt os h ws hb
  have hsl : ∀ p ∈ splN blk N (N - m), 0 ≤ p.1 ∧ p.2 < 18446744073709551616 := splN_fine blk N (N - m) (by omega)
  have hmid : ∀ i k1 p1, ps[i]? = some (k1, p1) → (k1 < k ↔ i < m) := fun i k1 p1 hi => by
    obtain ⟨n, hs⟩ := setP_iff.1 hS.2.1
    have h8 : (ws.drop 8).length = 56 := by rw [List.length_drop, hn]
    have e1 := stl_read hs (by rw [h8]; exact hd_row hS.1.2 rfl)
    have hB := okB_pre hs
    rw [← e1, eps] at hB
    exact okB_mid hB hx hi
  have hsp := fun W (b : Below w.heap.size w W) => split_yes 64 _ ws W (hvF W b) hn hb hS blk N m k p hk ps eps hN h2 hm hx
  obtain ⟨l0, hl0⟩ : ∃ l, gw ws 0 % 256 = l := ⟨_, rfl⟩
  obtain ⟨s1, hs1⟩ : ∃ l, gw ws 1 = l := ⟨_, rfl⟩
  obtain ⟨lo, hlo⟩ : ∃ l, gw ws 2 = l := ⟨_, rfl⟩
  obtain ⟨le, hle⟩ : ∃ l, gw ws 3 = l := ⟨_, rfl⟩
  obtain ⟨wy, hwy⟩ : ∃ l, gw ws 4 = l := ⟨_, rfl⟩
  have hwas : ∀ W, Below w.heap.size w W → Calls Try.prog 9 #[.slice (some ⟨bk, off, none⟩) 64 c] W fun e w' => (∃ vo, e = .returned (.tuple #[nodeV (l0 : Int) (s1 : Int) lo le (wy : Int) vo, .int .i64 0]) ∧ OwnsT prE 2 w' W.heap.size 46 vo ps) ∧ Below W.heap.size W w' := fun W b => by
    have := nOf_yes 64 _ ws W (hvF W b) hn hb hS.1
    rw [eps] at this
    unfold ndV at this
    rw [hl0, hs1, hlo, hle, hwy] at this
    exact this
  have hnow : ∀ t, t ≤ N - m + 1 → ∀ W v, ReadsT uE 1 W v (applyS ws ((splN blk N (N - m)).take t)) → Calls Try.prog 9 #[v] W fun e w' => (∃ vo s' wy', e = .returned (.tuple #[nodeV (l0 : Int) s' lo le wy' vo, .int .i64 0]) ∧ (0 < t → s' = (blk : Int)) ∧ OwnsT prE 2 w' W.heap.size 46 vo (ps.take (N - (t - 1)))) ∧ Below W.heap.size W w' := fun t ht W v h => by
    have A := hA t ht
    have := nOf_yes 64 _ _ W h A.len (hlt _ fun p hp => (hsl p (List.mem_of_mem_take hp)).2) A.p
    unfold ndV at this
    rw [A.g0, A.g2, A.g3, hl0, hlo, hle] at this
    have hr := A.r
    rw [hle] at hr
    rw [hr] at this
    exact this.mono fun e w' ⟨⟨vo, e1, oo⟩, b⟩ => ⟨⟨vo, _, _, e1, fun h0 => by rw [A.g1 h0], oo⟩, b⟩
  obtain ⟨Y, hY⟩ : ∃ Y, upW ws ps k p m = Y := ⟨_, rfl⟩
  rw [hY] at U hsp
  have hoth : ∀ W g, RowL W g 25 (ints .u64 Y) → Calls Try.prog 9 #[.slice (some ⟨g, 0, none⟩) 64 64] W fun e w' => (∃ vo le2 wy2 qs, e = .returned (.tuple #[nodeV (l0 : Int) (s1 : Int) k le2 wy2 vo, .int .i64 0]) ∧ (l0 = 0 → qs = ps.drop m) ∧ (0 < l0 → le2 = p ∧ qs = ps.drop (m + 1)) ∧ OwnsT prE 2 w' W.heap.size 46 vo qs) ∧ Below W.heap.size W w' := fun W g r => by
    have := nOf_yes 64 _ Y W (row_uE r U.len) U.len U.lt U.nd
    unfold ndV at this
    rw [U.g0, U.g1, U.g2, hl0, hs1] at this
    exact this.mono fun e w' ⟨⟨vo, e1, oo⟩, b⟩ => ⟨⟨vo, _, _, _, e1, fun h => U.l0 (by rw [hl0]; exact h), fun h => U.l1 (by rw [hl0]; exact h), oo⟩, b⟩
  clear U hY hA hS hl0 hs1 hlo hle hwy hb hlt
  obtain ⟨T, hT⟩ : ∃ T, N - m = T := ⟨_, rfl⟩
  rw [hT] at hsp hnow hsl
  have hspl := splN_len blk N T
  refine X.fn Try.func6 rfl (n := 198) rfl rfl ?_
  refine CC.seq ?_
  refine CC.region ?_
  refine LL.val (R.assign rfl rfl) rfl rfl rfl ?_
  refine LL.nilS ?_
  refine CC.seq ?_
  refine CC.seq ?_
  refine CC.region ?_
  refine LL.val (R.move rfl rfl) rfl rfl rfl ?_
  refine LL.val (R.len rfl rfl rfl rfl) rfl rfl rfl ?_
  refine LL.val (R.gtF rfl rfl rfl (by omega)) rfl rfl rfl ?_
  refine LL.nilS ?_
  refine CC.no rfl ?_
  refine CC.skip ?_
  refine EE.thenN ?_
  refine CC.seq ?_
  refine CC.region ?_
  refine LL.val (R.move rfl rfl) rfl rfl rfl ?_
  refine LL.val (R.move rfl rfl) rfl rfl rfl ?_
  (refine LL.call (R.call rfl rfl rfl) rfl rfl rfl (hsp _ q) ?_; rintro e W130 ⟨gv, vm, rfl, rv, om, hgv, b127⟩; refine ⟨_, rfl, ?_⟩; obtain ⟨am, cm, rfl, hcm⟩ := (om.reads pEnc).form hspl; obtain ⟨X1, hzX1, hmF, q1⟩ := exposeT (om.reads pEnc); have zX1 := q1.size; clear om)
  have zb127 := b127.size
  replace q := q.trans (b127.mono q.size)
  refine LL.val (R.move rfl rfl) rfl rfl rfl ?_
  refine LL.val (R.extract rfl rfl rfl) rfl rfl rfl ?_
  refine LL.val (R.extract rfl rfl rfl) rfl rfl rfl ?_
  refine LL.val (R.extract rfl rfl rfl) rfl rfl rfl ?_
  refine LL.val (R.assign rfl rfl) rfl rfl rfl ?_
  refine LL.val (R.assign rfl rfl) rfl rfl rfl ?_
  refine LL.val (R.assign rfl rfl) rfl rfl rfl ?_
  refine LL.nilS ?_
  refine CC.seq ?_
  refine CC.seq ?_
  refine CC.region ?_
  refine LL.val (R.move rfl rfl) rfl rfl rfl ?_
  refine LL.call (R.call rfl rfl rfl) rfl rfl rfl (num11_any _ _) ?_
  rintro e W' ⟨rfl, rfl⟩
  refine ⟨_, rfl, ?_⟩
  refine LL.val (R.neF rfl rfl rfl (by omega)) rfl rfl rfl ?_
  refine LL.nilS ?_
  refine CC.no rfl ?_
  refine CC.skip ?_
  refine EE.thenN ?_
  refine CC.seq ?_
  refine CC.region ?_
  refine LL.val (R.move rfl rfl) rfl rfl rfl ?_
  have l410 := rv.lt
  (refine LL.call (R.call rfl rfl rfl) rfl rfl rfl (hwas _ q) ?_; rintro e W409 ⟨⟨v2, rfl, o2⟩, b406⟩; refine ⟨_, rfl, ?_⟩; obtain ⟨a2, c2, rfl, hc2⟩ := (o2.reads prEnc).form hN; obtain ⟨X2, hzX2, h2F, q2⟩ := exposeT (o2.reads prEnc); have zX2 := q2.size; clear o2)
  have zb406 := b406.size
  replace rv := rv.up b406
  replace b127 := b127.trans (b406.mono b127.size)
  replace q1 := q1.trans (b406.mono q1.size)
  replace q := q.trans (b406.mono q.size)
  refine LL.val (R.move rfl rfl) rfl rfl rfl ?_
  refine LL.val (R.extract rfl rfl rfl) rfl rfl rfl ?_
  refine LL.val (R.extract rfl rfl rfl) rfl rfl rfl ?_
  have l510 := rv.lt
  refine LL.alloc ([Value.int IntKind.i64 0, Value.int IntKind.i64 0, Value.int IntKind.u64 0, Value.int IntKind.u64 0, Value.int IntKind.i64 0, Value.slice none 0 0]) rfl rfl rfl rfl rfl ?_
  intro W512 g513 eg513 r514 z515 b511
  replace b406 := b406.trans (b511.mono b406.size)
  replace q2 := q2.trans (b511.mono q2.size)
  replace rv := rv.up b511
  replace b127 := b127.trans (b511.mono b127.size)
  replace q1 := q1.trans (b511.mono q1.size)
  replace q := q.trans (b511.mono q.size)
  refine LL.storeN (vs := [Value.int IntKind.i64 ↑l0, Value.int IntKind.i64 ↑s1, Value.int IntKind.u64 ↑lo, Value.int IntKind.u64 ↑le, Value.int IntKind.i64 ↑wy, Value.slice a2 N c2]) rfl rfl rfl rfl r514 (by exact Nat.le_of_ble_eq_true rfl) (ones_of rfl) rfl rfl ?_
  intro W544 r545 b543 z546
  have hlb543 := r514.lt
  replace r545 : RowL W544 _ 29 [Value.int IntKind.i64 ↑l0, Value.int IntKind.i64 ↑s1, Value.int IntKind.u64 ↑lo, Value.int IntKind.u64 ↑le, Value.int IntKind.i64 ↑wy, Value.slice a2 N c2] := r545
  clear r514
  replace b511 := b511.grown b543 b511.size (by rintro k ⟨⟩; omega)
  replace b406 := b406.grown b543 b406.size (by rintro k ⟨⟩; omega)
  replace q2 := q2.grown b543 q2.size (by rintro k ⟨⟩; omega)
  replace rv := rv.gr b543 (by have := rv.lt; omega)
  replace b127 := b127.grown b543 b127.size (by rintro k ⟨⟩; omega)
  replace q1 := q1.grown b543 q1.size (by rintro k ⟨⟩; omega)
  replace q := q.grown b543 q.size (by rintro k ⟨⟩; omega)
  have r514 := r545
  clear r545
  refine LL.val (R.assign rfl rfl) rfl rfl rfl ?_
  refine LL.nilS ?_
  refine CC.seq ?_
  refine CC.region ?_
  refine LL.val (R.move rfl rfl) rfl rfl rfl ?_
  have l623 := rv.lt
  have l624 := r514.lt
  (refine LL.call (R.call rfl rfl rfl) rfl rfl rfl (hoth _ _ (by assumption)) ?_; rintro e W622 ⟨⟨v3, le2, wy2, qs, rfl, hq0, hq1, o3⟩, b619⟩; refine ⟨_, rfl, ?_⟩; obtain ⟨a3, c3, rfl, hc3⟩ := (o3.reads prEnc).form rfl; obtain ⟨X3, hzX3, h3F, q3⟩ := exposeT (o3.reads prEnc); have zX3 := q3.size; clear o3)
  have zb619 := b619.size
  replace b511 := b511.trans (b619.mono b511.size)
  replace b406 := b406.trans (b619.mono b406.size)
  replace q2 := q2.trans (b619.mono q2.size)
  replace rv := rv.up b619
  replace b127 := b127.trans (b619.mono b127.size)
  replace q1 := q1.trans (b619.mono q1.size)
  replace q := q.trans (b619.mono q.size)
  replace r514 := r514.up b619
  refine LL.val (R.move rfl rfl) rfl rfl rfl ?_
  refine LL.val (R.extract rfl rfl rfl) rfl rfl rfl ?_
  refine LL.val (R.extract rfl rfl rfl) rfl rfl rfl ?_
  have l736 := rv.lt
  have l737 := r514.lt
  refine LL.alloc ([Value.int IntKind.i64 0, Value.int IntKind.i64 0, Value.int IntKind.u64 0, Value.int IntKind.u64 0, Value.int IntKind.i64 0, Value.slice none 0 0]) rfl rfl rfl rfl rfl ?_
  intro W739 g740 eg740 r741 z742 b738
  replace b619 := b619.trans (b738.mono b619.size)
  replace q3 := q3.trans (b738.mono q3.size)
  replace b511 := b511.trans (b738.mono b511.size)
  replace b406 := b406.trans (b738.mono b406.size)
  replace q2 := q2.trans (b738.mono q2.size)
  replace rv := rv.up b738
  replace b127 := b127.trans (b738.mono b127.size)
  replace q1 := q1.trans (b738.mono q1.size)
  replace q := q.trans (b738.mono q.size)
  replace r514 := r514.up b738
  refine LL.storeN (vs := [Value.int IntKind.i64 ↑l0, Value.int IntKind.i64 ↑s1, Value.int IntKind.u64 ↑k, Value.int IntKind.u64 ↑le2, Value.int IntKind.i64 wy2, Value.slice a3 qs.length c3]) rfl rfl rfl rfl r741 (by exact Nat.le_of_ble_eq_true rfl) (ones_of rfl) rfl rfl ?_
  intro W774 r775 b773 z776
  have hlb773 := r741.lt
  replace r775 : RowL W774 _ 29 [Value.int IntKind.i64 ↑l0, Value.int IntKind.i64 ↑s1, Value.int IntKind.u64 ↑k, Value.int IntKind.u64 ↑le2, Value.int IntKind.i64 wy2, Value.slice a3 qs.length c3] := r775
  clear r741
  replace b738 := b738.grown b773 b738.size (by rintro k ⟨⟩; omega)
  replace b619 := b619.grown b773 b619.size (by rintro k ⟨⟩; omega)
  replace q3 := q3.grown b773 q3.size (by rintro k ⟨⟩; omega)
  replace b511 := b511.grown b773 b511.size (by rintro k ⟨⟩; omega)
  replace b406 := b406.grown b773 b406.size (by rintro k ⟨⟩; omega)
  replace q2 := q2.grown b773 q2.size (by rintro k ⟨⟩; omega)
  replace rv := rv.gr b773 (by have := rv.lt; omega)
  replace b127 := b127.grown b773 b127.size (by rintro k ⟨⟩; omega)
  replace q1 := q1.grown b773 q1.size (by rintro k ⟨⟩; omega)
  replace q := q.grown b773 q.size (by rintro k ⟨⟩; omega)
  replace r514 := r514.gr b773 (by have := r514.lt; omega)
  have r741 := r775
  clear r775
  refine LL.val (R.assign rfl rfl) rfl rfl rfl ?_
  refine LL.nilS ?_
  refine CC.seq ?_
  refine CC.seq ?_
  refine CC.region ?_
  refine LL.val (R.move rfl rfl) rfl rfl rfl ?_
  refine LL.call (R.call rfl rfl rfl) rfl rfl rfl (num11_any _ _) ?_
  rintro e W' ⟨rfl, rfl⟩
  refine ⟨_, rfl, ?_⟩
  refine LL.val (R.move rfl rfl) rfl rfl rfl ?_
  refine LL.call (R.call rfl rfl rfl) rfl rfl rfl (num11_any _ _) ?_
  rintro e W' ⟨rfl, rfl⟩
  refine ⟨_, rfl, ?_⟩
  refine LL.val (R.addIz (z := 0) rfl rfl rfl (by decide) (by decide)) rfl rfl rfl ?_
  refine LL.val (R.neF rfl rfl rfl (by omega)) rfl rfl rfl ?_
  refine LL.nilS ?_
  refine CC.no rfl ?_
  refine CC.skip ?_
  refine EE.thenN ?_
  refine CC.seq ?_
  refine CC.region ?_
  refine LL.val (R.assign rfl rfl) rfl rfl rfl ?_
  refine LL.val (R.assign rfl rfl) rfl rfl rfl ?_
  refine LL.nilS ?_
  refine CC.seq ?_
  refine CC.seq ?_
  refine CC.region ?_
  refine LL.val (R.assign rfl rfl) rfl rfl rfl ?_
  refine LL.nilS ?_
  refine CC.block ?_
  have hqn : (l0 = 0 → qs.length = T) ∧ (0 < l0 → qs.length + 1 = T) := ⟨fun h => by rw [hq0 h, List.length_drop, hN]; exact hT, fun h => by rw [(hq1 h).2, List.length_drop, hN]; omega⟩
  have ztop : g740 < W774.heap.size := by omega
  have yq := q.size
  have yg : g513 < g740 ∧ w.heap.size ≤ g513 ∧ X3.heap.size ≤ g740 ∧ X2.heap.size ≤ g740 ∧ X1.heap.size ≤ g740 := by omega
  refine CC.loop (α := Nat × Value × Value) (fun x => [(0, .slice (some ⟨bk, off, none⟩) 64 c), (1, .int .i64 (blk : Int)), (6, .slice am (T + 1) cm), (8, .pointer (some ⟨g513, 0, none⟩)), (10, .pointer (some ⟨g740, 0, none⟩)), (12, x.2.1), (13, x.2.2), (14, .int .i64 (x.1 : Int))]) (fun x W => x.1 ≤ N ∧ Below w.heap.size w W ∧ Below X1.heap.size X1 W ∧ Below X2.heap.size X2 W ∧ Below X3.heap.size X3 W ∧ RowL W g513 29 [.int .i64 (l0 : Int), .int .i64 (s1 : Int), .int .u64 (lo : Int), .int .u64 (le : Int), .int .i64 (wy : Int), .slice a2 N c2] ∧ RowL W g740 29 [.int .i64 (l0 : Int), .int .i64 (s1 : Int), .int .u64 (k : Int), .int .u64 (le2 : Int), .int .i64 wy2, .slice a3 qs.length c3] ∧ OwnsT prE 2 W (g740 + 1) 46 x.2.1 (ps.take (min x.1 m)) ∧ OwnsT prE 2 W (g740 + 1) 46 x.2.2 ((ps.take x.1).drop m) ∧ (∀ g, x.2.1.ownBlock = some g → x.2.2.ownBlock ≠ some g) ∧ g740 < W.heap.size) (fun x => N - x.1) (0, .slice none 0 0, .slice none 0 0) ⟨rfl, rfl, rfl, rfl, rfl, rfl, rfl, rfl, trivial⟩ ⟨Nat.zero_le _, q, q1, q2, q3, by assumption, by assumption, by rw [Nat.zero_min]; exact OwnsT.none _ _ _, by rw [List.take_zero, List.drop_nil]; exact OwnsT.none _ _ _, fun g hg => (by cases hg), ztop⟩ ?_
  clear q q1 q2 q3 b738 b619 b511 b406 rv b127 r514 r741 b773 b543 ztop yq
  rintro ⟨i, vb, va⟩ W ⟨hi, q, q1, q2, q3, rw1, rw2, ob, oa, hd, zt⟩
  simp only at hi ob oa hd
  have yq := q.size
  have yq1 := q1.size
  have yq2 := q2.size
  have yq3 := q3.size
  show CC none Try.prog _ 198 [] (sl [(0, .slice (some ⟨bk, off, none⟩) 64 c), (1, .int .i64 (blk : Int)), (6, .slice am (T + 1) cm), (8, .pointer (some ⟨g513, 0, none⟩)), (10, .pointer (some ⟨g740, 0, none⟩)), (12, vb), (13, va), (14, .int .i64 (i : Int))]) _ W
  have hlb : (ps.take (min i m)).length = min i m := by rw [List.length_take]; omega
  have hla : ((ps.take i).drop m).length = i - m := by rw [List.length_drop, List.length_take]; omega
  by_cases hlt : i < N
  case pos =>
    obtain ⟨⟨k1, p1⟩, hx1⟩ : ∃ x, ps[i]? = some x := ⟨_, List.getElem?_eq_getElem (by omega)⟩
    have hmi := hmid i k1 p1 hx1
    obtain ⟨b2, o2, rfl, lb2, _⟩ := (h2F _ q2).get prEnc hx1
    have m2 : CellsN W ⟨b2, o2 + i * 2, none⟩ 2 [.int .u64 (k1 : Int), .int .u64 (p1 : Int)] := (h2F W q2).elemN prEnc hx1
    have c0 : W.cell? ⟨b2, o2 + i * 2 + 0, none⟩ = some (.int .u64 (k1 : Int)) := m2.at'.at (j := 0) rfl
    have c1 : W.cell? ⟨b2, o2 + i * 2, none⟩ = some (.int .u64 (k1 : Int)) := c0
    obtain ⟨avb, cvb, rfl, hcvb⟩ := (ob.reads prEnc).form hlb
    obtain ⟨ava, cva, rfl, hcva⟩ := (oa.reads prEnc).form hla
    by_cases him : i < m
    · have hkk : k1 < k := hmi.2 him
      have eb : ps.take (min (i + 1) m) = ps.take (min i m) ++ [(k1, p1)] := by rw [Nat.min_eq_left (by omega), Nat.min_eq_left (by omega), List.take_add_one, hx1]; rfl
      have ea : (ps.take (i + 1)).drop m = (ps.take i).drop m := by rw [List.drop_eq_nil_of_le (by rw [List.length_take]; omega), List.drop_eq_nil_of_le (by rw [List.length_take]; omega)]
      clear hmi
      refine CC.seq ?_
      refine CC.seq ?_
      refine CC.region ?_
      refine LL.val (R.move rfl rfl) rfl rfl rfl ?_
      refine LL.val (R.field rfl rfl (I.fld rfl)) rfl rfl rfl ?_
      refine LL.val (R.load rfl rfl (I.ld1 rfl (RowL.cell rw1 rfl))) rfl rfl rfl ?_
      refine LL.val (R.len rfl rfl rfl rfl) rfl rfl rfl ?_
      refine LL.val (R.ltT rfl rfl rfl (by omega)) rfl rfl rfl ?_
      refine LL.nilS ?_
      refine CC.yes rfl ?_
      refine CC.skip ?_
      refine EE.thenN ?_
      refine CC.seq ?_
      refine CC.block ?_
      refine CC.seq ?_
      refine CC.quietB (by kernel_rfl) (by kernel_rfl) (fun Wa2 ba1 za3 => ?_)
      replace q := q.trans (ba1.mono q.size)
      replace q1 := q1.trans (ba1.mono q1.size)
      replace q2 := q2.trans (ba1.mono q2.size)
      replace q3 := q3.trans (ba1.mono q3.size)
      replace rw2 := rw2.up ba1
      replace rw1 := rw1.up ba1
      replace m2 := m2.up ba1
      replace c0 := cell_up c0 ba1
      replace c1 := cell_up c1 ba1
      replace ob := ob.up ba1
      replace oa := oa.up ba1
      refine SS.val (R.field rfl rfl (I.fld rfl)) rfl rfl ?_
      refine SS.val (R.load rfl rfl (I.ld1 rfl (RowL.cell rw1 rfl))) rfl rfl ?_
      refine SS.val (R.move rfl rfl) rfl rfl ?_
      refine SS.val (R.index rfl rfl rfl (I.ixS rfl (by omega))) rfl rfl ?_
      refine SS.val (R.field rfl rfl (I.fld rfl)) rfl rfl ?_
      refine SS.val (R.load rfl rfl (I.ld1 rfl (by assumption))) rfl rfl ?_
      refine SS.val (R.field rfl rfl (I.fld rfl)) rfl rfl ?_
      refine SS.val (R.load rfl rfl (I.ld1 rfl (RowL.cell rw2 rfl))) rfl rfl ?_
      refine SS.val (R.ltT rfl rfl rfl (by omega)) rfl rfl ?_
      refine SS.nilQ ?_
      refine EE.thenN ?_
      refine CC.yes rfl ?_
      refine CC.region ?_
      refine LL.val (R.move rfl rfl) rfl rfl rfl ?_
      refine LL.val (R.field rfl rfl (I.fld rfl)) rfl rfl rfl ?_
      refine LL.val (R.load rfl rfl (I.ld1 rfl (RowL.cell rw1 rfl))) rfl rfl rfl ?_
      refine LL.val (R.move rfl rfl) rfl rfl rfl ?_
      refine LL.val (R.index rfl rfl rfl (I.ixS rfl (by omega))) rfl rfl rfl ?_
      refine LL.val (R.load rfl rfl (I.ldM (by assumption) rfl rfl)) rfl rfl rfl ?_
      have la4 := rw2.lt
      have la5 := rw1.lt
      refine LL.lit (e := 46) [Value.int IntKind.u64 ↑k1, Value.int IntKind.u64 ↑p1] 1 rfl rfl (fun _ => by kernel_rfl) rfl rfl ?_
      intro Wa7 ga8 ega8 ra9 za10 ba6
      replace ba1 := ba1.trans (ba6.mono ba1.size)
      replace q := q.trans (ba6.mono q.size)
      replace q1 := q1.trans (ba6.mono q1.size)
      replace q2 := q2.trans (ba6.mono q2.size)
      replace q3 := q3.trans (ba6.mono q3.size)
      replace rw2 := rw2.up ba6
      replace rw1 := rw1.up ba6
      replace m2 := m2.up ba6
      replace c0 := cell_up c0 ba6
      replace c1 := cell_up c1 ba6
      replace ob := ob.up ba6
      replace oa := oa.up ba6
      (refine LL.appendT2 rfl rfl prEnc ElPr ob (us := [(k1, p1)]) (RowL.readsT (ts := [(k1, p1)]) prEnc (by assumption) 1 (by simp)) (by simp [maxLen]; omega) (by simp; omega) (by omega) rfl rfl ?_; intro v' Wz oz gra hva; have hd2 := own_new2 hva hd oa; replace oa := oa.apart2 gra (own_disj hd); replace q := q.grown gra q.size (fun g hg => by have := own_ge ob g hg; omega); replace q1 := q1.grown gra q1.size (fun g hg => by have := own_ge ob g hg; omega); replace q2 := q2.grown gra q2.size (fun g hg => by have := own_ge ob g hg; omega); replace q3 := q3.grown gra q3.size (fun g hg => by have := own_ge ob g hg; omega); replace rw1 := rw1.grO gra (own_ne ob (by omega)); replace rw2 := rw2.grO gra (own_ne ob (by omega)); have hsz := gra.size; clear ob hva gra; have ob := oz; clear oz)
      refine LL.val (R.assign rfl rfl) rfl rfl rfl ?_
      refine LL.nil ?_
      refine EE.inN ?_
      refine EE.thenN ?_
      refine CC.region ?_
      refine LL.val (R.move rfl rfl) rfl rfl rfl ?_
      refine LL.val (R.addNc rfl rfl rfl rfl (by omega)) rfl rfl rfl ?_
      refine LL.val (R.assign rfl rfl) rfl rfl rfl ?_
      refine LL.nil ?_
      exact EE.round (i + 1, _, _) ⟨rfl, rfl, rfl, rfl, rfl, rfl, rfl, rfl, trivial⟩ ⟨by show i + 1 ≤ N; omega, q, q1, q2, q3, by assumption, by assumption, by rw [eb]; exact ob, by rw [ea]; exact oa, hd2, by show g740 < _; omega⟩ (by show N - (i + 1) < N - i; omega)
    · have hkk : ¬(k1 < k) := fun h => him (hmi.1 h)
      have eb : ps.take (min (i + 1) m) = ps.take (min i m) := by rw [Nat.min_eq_right (by omega), Nat.min_eq_right (by omega)]
      have ea : (ps.take (i + 1)).drop m = (ps.take i).drop m ++ [(k1, p1)] := by rw [List.take_add_one, hx1, List.drop_append_of_le_length (by rw [List.length_take]; omega)]; rfl
      clear hmi
      refine CC.seq ?_
      refine CC.seq ?_
      refine CC.region ?_
      refine LL.val (R.move rfl rfl) rfl rfl rfl ?_
      refine LL.val (R.field rfl rfl (I.fld rfl)) rfl rfl rfl ?_
      refine LL.val (R.load rfl rfl (I.ld1 rfl (RowL.cell rw1 rfl))) rfl rfl rfl ?_
      refine LL.val (R.len rfl rfl rfl rfl) rfl rfl rfl ?_
      refine LL.val (R.ltT rfl rfl rfl (by omega)) rfl rfl rfl ?_
      refine LL.nilS ?_
      refine CC.yes rfl ?_
      refine CC.skip ?_
      refine EE.thenN ?_
      refine CC.seq ?_
      refine CC.block ?_
      refine CC.seq ?_
      refine CC.quietB (by kernel_rfl) (by kernel_rfl) (fun Wb2 bb1 zb3 => ?_)
      replace q := q.trans (bb1.mono q.size)
      replace q1 := q1.trans (bb1.mono q1.size)
      replace q2 := q2.trans (bb1.mono q2.size)
      replace q3 := q3.trans (bb1.mono q3.size)
      replace rw2 := rw2.up bb1
      replace rw1 := rw1.up bb1
      replace m2 := m2.up bb1
      replace c0 := cell_up c0 bb1
      replace c1 := cell_up c1 bb1
      replace ob := ob.up bb1
      replace oa := oa.up bb1
      refine SS.val (R.field rfl rfl (I.fld rfl)) rfl rfl ?_
      refine SS.val (R.load rfl rfl (I.ld1 rfl (RowL.cell rw1 rfl))) rfl rfl ?_
      refine SS.val (R.move rfl rfl) rfl rfl ?_
      refine SS.val (R.index rfl rfl rfl (I.ixS rfl (by omega))) rfl rfl ?_
      refine SS.val (R.field rfl rfl (I.fld rfl)) rfl rfl ?_
      refine SS.val (R.load rfl rfl (I.ld1 rfl (by assumption))) rfl rfl ?_
      refine SS.val (R.field rfl rfl (I.fld rfl)) rfl rfl ?_
      refine SS.val (R.load rfl rfl (I.ld1 rfl (RowL.cell rw2 rfl))) rfl rfl ?_
      refine SS.val (R.ltF rfl rfl rfl (by omega)) rfl rfl ?_
      refine SS.nilQ ?_
      refine EE.thenN ?_
      refine CC.no rfl ?_
      refine CC.region ?_
      refine LL.val (R.move rfl rfl) rfl rfl rfl ?_
      refine LL.val (R.field rfl rfl (I.fld rfl)) rfl rfl rfl ?_
      refine LL.val (R.load rfl rfl (I.ld1 rfl (RowL.cell rw1 rfl))) rfl rfl rfl ?_
      refine LL.val (R.move rfl rfl) rfl rfl rfl ?_
      refine LL.val (R.index rfl rfl rfl (I.ixS rfl (by omega))) rfl rfl rfl ?_
      refine LL.val (R.load rfl rfl (I.ldM (by assumption) rfl rfl)) rfl rfl rfl ?_
      have lb4 := rw2.lt
      have lb5 := rw1.lt
      refine LL.lit (e := 46) [Value.int IntKind.u64 ↑k1, Value.int IntKind.u64 ↑p1] 1 rfl rfl (fun _ => by kernel_rfl) rfl rfl ?_
      intro Wb7 gb8 egb8 rb9 zb10 bb6
      replace bb1 := bb1.trans (bb6.mono bb1.size)
      replace q := q.trans (bb6.mono q.size)
      replace q1 := q1.trans (bb6.mono q1.size)
      replace q2 := q2.trans (bb6.mono q2.size)
      replace q3 := q3.trans (bb6.mono q3.size)
      replace rw2 := rw2.up bb6
      replace rw1 := rw1.up bb6
      replace m2 := m2.up bb6
      replace c0 := cell_up c0 bb6
      replace c1 := cell_up c1 bb6
      replace ob := ob.up bb6
      replace oa := oa.up bb6
      (refine LL.appendT2 rfl rfl prEnc ElPr oa (us := [(k1, p1)]) (RowL.readsT (ts := [(k1, p1)]) prEnc (by assumption) 1 (by simp)) (by simp [maxLen]; omega) (by simp; omega) (by omega) rfl rfl ?_; intro v' Wz oz gra hva; have hd2 := own_new2 hva (fun g h1 h2 => hd g h2 h1) ob; replace ob := ob.apart2 gra (own_disj (fun g h1 h2 => hd g h2 h1)); replace q := q.grown gra q.size (fun g hg => by have := own_ge oa g hg; omega); replace q1 := q1.grown gra q1.size (fun g hg => by have := own_ge oa g hg; omega); replace q2 := q2.grown gra q2.size (fun g hg => by have := own_ge oa g hg; omega); replace q3 := q3.grown gra q3.size (fun g hg => by have := own_ge oa g hg; omega); replace rw1 := rw1.grO gra (own_ne oa (by omega)); replace rw2 := rw2.grO gra (own_ne oa (by omega)); have hsz := gra.size; clear oa hva gra; have oa := oz; clear oz)
      refine LL.val (R.assign rfl rfl) rfl rfl rfl ?_
      refine LL.nil ?_
      refine EE.inN ?_
      refine EE.thenN ?_
      refine CC.region ?_
      refine LL.val (R.move rfl rfl) rfl rfl rfl ?_
      refine LL.val (R.addNc rfl rfl rfl rfl (by omega)) rfl rfl rfl ?_
      refine LL.val (R.assign rfl rfl) rfl rfl rfl ?_
      refine LL.nil ?_
      exact EE.round (i + 1, _, _) ⟨rfl, rfl, rfl, rfl, rfl, rfl, rfl, rfl, trivial⟩ ⟨by show i + 1 ≤ N; omega, q, q1, q2, q3, by assumption, by assumption, by rw [eb]; exact ob, by rw [ea]; exact oa, fun g h1 h2 => hd2 g h2 h1, by show g740 < _; omega⟩ (by show N - (i + 1) < N - i; omega)
  obtain rfl : N = i := by omega
  rw [Nat.min_eq_right (by omega)] at ob hlb
  have etk : (ps.take N).drop m = ps.drop m := by rw [List.take_of_length_le (by omega)]
  rw [etk, hT] at hla
  rw [etk] at oa
  obtain ⟨avb, cvb, rfl, hcvb⟩ := (ob.reads prEnc).form hlb
  obtain ⟨ava, cva, rfl, hcva⟩ := (oa.reads prEnc).form hla
  obtain ⟨X4, hzX4, h4F, q4⟩ := exposeT (oa.reads prEnc)
  have zX4 := q4.size
  clear ob oa hd hmid etk hlt
  apply meet3 (fun (a : Option Addr) (cc : Nat) W' => Below W.heap.size W W' ∧ ReadsT prE 2 W' (.slice a T cc) (ps.drop m))
  case f =>
    intro lat
    have bW := Below.refl W.heap.size W
    by_cases h0 : ¬l0 = 0
    · have h0' : 0 < l0 := by omega
      have hq := (hq1 h0').2
      rw [(hq1 h0').1] at rw2
      have hqT := hqn.2 h0'
      have edr : [(k, p)] ++ qs = ps.drop m := by
        obtain ⟨hm', e⟩ := List.getElem?_eq_some_iff.1 hx
        rw [hq, List.drop_eq_getElem_cons hm', e]
        rfl
      refine CC.seq ?_
      refine CC.seq ?_
      refine CC.region ?_
      refine LL.val (R.move rfl rfl) rfl rfl rfl ?_
      refine LL.val (R.field rfl rfl (I.fld rfl)) rfl rfl rfl ?_
      refine LL.val (R.load rfl rfl (I.ld1 rfl (RowL.cell rw1 rfl))) rfl rfl rfl ?_
      refine LL.val (R.len rfl rfl rfl rfl) rfl rfl rfl ?_
      refine LL.val (R.ltF rfl rfl rfl (by omega)) rfl rfl rfl ?_
      refine LL.nilS ?_
      refine CC.no rfl ?_
      refine CC.exit ?_
      refine EE.thenX ?_
      refine EE.thenX ?_
      refine EE.inX ?_
      refine EE.thenN ?_
      refine CC.seq ?_
      refine CC.region ?_
      refine LL.val (R.field rfl rfl (I.fld rfl)) rfl rfl rfl ?_
      refine LL.val (R.load rfl rfl (I.ld1 rfl (RowL.cell rw2 rfl))) rfl rfl rfl ?_
      refine LL.val (R.assign rfl rfl) rfl rfl rfl ?_
      refine LL.nilS ?_
      refine CC.seq ?_
      refine CC.seq ?_
      refine CC.region ?_
      refine LL.val (R.field rfl rfl (I.fld rfl)) rfl rfl rfl ?_
      refine LL.val (R.load rfl rfl (I.ld1 rfl (RowL.cell rw1 rfl))) rfl rfl rfl ?_
      refine LL.val (R.gtT rfl rfl rfl (by omega)) rfl rfl rfl ?_
      refine LL.nilS ?_
      refine CC.yes rfl ?_
      refine CC.region ?_
      refine LL.val (R.field rfl rfl (I.fld rfl)) rfl rfl rfl ?_
      refine LL.val (R.load rfl rfl (I.ld1 rfl (RowL.cell rw2 rfl))) rfl rfl rfl ?_
      refine LL.val (R.field rfl rfl (I.fld rfl)) rfl rfl rfl ?_
      refine LL.val (R.load rfl rfl (I.ld1 rfl (RowL.cell rw2 rfl))) rfl rfl rfl ?_
      refine LL.val (R.buildV rfl rfl (v := .agg #[Value.int IntKind.u64 ↑k, Value.int IntKind.u64 ↑p]) (fun _ => by kernel_rfl)) rfl rfl rfl ?_
      have lc1 := rw1.lt
      have lc2 := rw2.lt
      have lc3 := rw2.lt
      refine LL.lit (e := 46) [Value.int IntKind.u64 ↑k, Value.int IntKind.u64 ↑p] 1 rfl rfl (fun _ => by kernel_rfl) rfl rfl ?_
      intro Wc5 gc6 egc6 rc7 zc8 bc4
      replace q := q.trans (bc4.mono q.size)
      replace q1 := q1.trans (bc4.mono q1.size)
      replace q2 := q2.trans (bc4.mono q2.size)
      replace q3 := q3.trans (bc4.mono q3.size)
      replace rw1 := rw1.up bc4
      replace rw2 := rw2.up bc4
      replace q4 := q4.trans (bc4.mono q4.size)
      replace bW := bW.trans (bc4.mono bW.size)
      refine LL.val (R.field rfl rfl (I.fld rfl)) rfl rfl rfl ?_
      refine LL.val (R.load rfl rfl (I.ld1 rfl (RowL.cell rw2 rfl))) rfl rfl rfl ?_
      (refine LL.appendT2 rfl rfl prEnc ElPr (RowL.ownsT (base := g740 + 1) (ts := [(k, p)]) prEnc (by assumption) (by omega) (by simp [maxLen])) (us := qs) (h3F _ q3) (by simp [maxLen]; omega) (by simp; omega) (by omega) rfl rfl ?_; intro v' Wz oz gra hva; rw [edr] at oz; have gsz := gra.size; replace bW := bW.grown gra (by omega) (fun g hg => by cases hg; dsimp only; omega); obtain ⟨ac, cc, rfl, hcc⟩ := (oz.reads prEnc).form hla; have oc := oz.reads prEnc; clear gra hva oz)
      refine LL.val (R.assign rfl rfl) rfl rfl rfl ?_
      refine LL.nilS ?_
      refine CC.seq ?_
      refine CC.seq ?_
      refine CC.region ?_
      (refine LL.keep [(0, .slice (some ⟨bk, off, none⟩) 64 c), (1, .int .i64 (blk : Int)), (6, .slice am (T + 1) cm), (8, .pointer (some ⟨g513, 0, none⟩)), (10, .pointer (some ⟨g740, 0, none⟩)), (12, .slice avb m cvb), (13, .slice ava T cva), (15, .slice _ T _), (85, .int .i64 (l0 : Int))] ⟨rfl, rfl, rfl, rfl, rfl, rfl, rfl, rfl, rfl, trivial⟩ ?_; exact lat.out _ _ _ ⟨bW, oc⟩)
    · have h0 := Classical.not_not.1 h0
      have hq := hq0 h0
      have hqT := hqn.1 h0
      rw [hqT] at rw2 h3F
      rw [hq] at h3F
      refine CC.seq ?_
      refine CC.seq ?_
      refine CC.region ?_
      refine LL.val (R.move rfl rfl) rfl rfl rfl ?_
      refine LL.val (R.field rfl rfl (I.fld rfl)) rfl rfl rfl ?_
      refine LL.val (R.load rfl rfl (I.ld1 rfl (RowL.cell rw1 rfl))) rfl rfl rfl ?_
      refine LL.val (R.len rfl rfl rfl rfl) rfl rfl rfl ?_
      refine LL.val (R.ltF rfl rfl rfl (by omega)) rfl rfl rfl ?_
      refine LL.nilS ?_
      refine CC.no rfl ?_
      refine CC.exit ?_
      refine EE.thenX ?_
      refine EE.thenX ?_
      refine EE.inX ?_
      refine EE.thenN ?_
      refine CC.seq ?_
      refine CC.region ?_
      refine LL.val (R.field rfl rfl (I.fld rfl)) rfl rfl rfl ?_
      refine LL.val (R.load rfl rfl (I.ld1 rfl (RowL.cell rw2 rfl))) rfl rfl rfl ?_
      refine LL.val (R.assign rfl rfl) rfl rfl rfl ?_
      refine LL.nilS ?_
      refine CC.seq ?_
      refine CC.seq ?_
      refine CC.region ?_
      refine LL.val (R.field rfl rfl (I.fld rfl)) rfl rfl rfl ?_
      refine LL.val (R.load rfl rfl (I.ld1 rfl (RowL.cell rw1 rfl))) rfl rfl rfl ?_
      refine LL.val (R.gtF rfl rfl rfl (by omega)) rfl rfl rfl ?_
      refine LL.nilS ?_
      refine CC.no rfl ?_
      refine CC.skip ?_
      refine EE.thenN ?_
      refine CC.seq ?_
      refine CC.seq ?_
      refine CC.region ?_
      (refine LL.keep [(0, .slice (some ⟨bk, off, none⟩) 64 c), (1, .int .i64 (blk : Int)), (6, .slice am (T + 1) cm), (8, .pointer (some ⟨g513, 0, none⟩)), (10, .pointer (some ⟨g740, 0, none⟩)), (12, .slice avb m cvb), (13, .slice ava T cva), (15, .slice _ T _), (85, .int .i64 (l0 : Int))] ⟨rfl, rfl, rfl, rfl, rfl, rfl, rfl, rfl, rfl, trivial⟩ ?_; exact lat.out _ _ _ ⟨bW, h3F _ q3⟩)
  case k =>
    intro aA cA W' ⟨bW, rA⟩
    have zbW := bW.size
    replace q := q.trans (bW.mono q.size)
    replace q1 := q1.trans (bW.mono q1.size)
    replace q2 := q2.trans (bW.mono q2.size)
    replace q4 := q4.trans (bW.mono q4.size)
    replace rw1 := rw1.up bW
    replace rw2 := rw2.up bW
    clear bW q3 hq0 hq1 h3F hqn hoth hsp
    have rAF := fun X (b : Below W'.heap.size W' X) => rA.up b
    have qA := Below.refl W'.heap.size W'
    clear rA
    refine LL.val (R.move rfl rfl) rfl rfl rfl ?_
    refine LL.val (R.move rfl rfl) rfl rfl rfl ?_
    have le23 := rw1.lt
    have le24 := rw2.lt
    (refine LL.call (R.call rfl rfl rfl) rfl rfl rfl (prsame_T _ _ (ps.drop m) _ (rAF _ qA) (h4F _ q4) (by omega)) ?_; rintro e We22 ⟨rfl, be19⟩; refine ⟨_, rfl, ?_⟩)
    have zbe19 := be19.size
    replace q := q.trans (be19.mono q.size)
    replace q1 := q1.trans (be19.mono q1.size)
    replace q2 := q2.trans (be19.mono q2.size)
    replace q4 := q4.trans (be19.mono q4.size)
    replace rw1 := rw1.up be19
    replace rw2 := rw2.up be19
    replace qA := qA.trans (be19.mono qA.size)
    refine LL.val (R.not rfl rfl) rfl rfl rfl ?_
    refine LL.val (R.move rfl rfl) rfl rfl rfl ?_
    refine LL.val (R.field rfl rfl (I.fld rfl)) rfl rfl rfl ?_
    refine LL.val (R.load rfl rfl (I.ld1 rfl (RowL.cell rw2 rfl))) rfl rfl rfl ?_
    refine LL.val (R.field rfl rfl (I.fld rfl)) rfl rfl rfl ?_
    refine LL.val (R.load rfl rfl (I.ld1 rfl (RowL.cell rw1 rfl))) rfl rfl rfl ?_
    refine LL.val (R.neF rfl rfl rfl (by omega)) rfl rfl rfl ?_
    refine LL.val (R.pick rfl rfl rfl) rfl rfl rfl ?_
    refine LL.val (R.move rfl rfl) rfl rfl rfl ?_
    refine LL.val (R.field rfl rfl (I.fld rfl)) rfl rfl rfl ?_
    refine LL.val (R.load rfl rfl (I.ld1 rfl (RowL.cell rw2 rfl))) rfl rfl rfl ?_
    refine LL.val (R.field rfl rfl (I.fld rfl)) rfl rfl rfl ?_
    refine LL.val (R.load rfl rfl (I.ld1 rfl (RowL.cell rw1 rfl))) rfl rfl rfl ?_
    refine LL.val (R.neF rfl rfl rfl (by omega)) rfl rfl rfl ?_
    refine LL.val (R.pick rfl rfl rfl) rfl rfl rfl ?_
    refine LL.nilS ?_
    refine CC.no rfl ?_
    refine CC.skip ?_
    refine EE.thenN ?_
    refine CC.seq ?_
    refine CC.seq ?_
    refine CC.region ?_
    refine LL.val (R.assign rfl rfl) rfl rfl rfl ?_
    refine LL.nilS ?_
    refine CC.block ?_
    refine CC.loop (α := Nat) (fun t => [(0, .slice (some ⟨bk, off, none⟩) 64 c), (1, .int .i64 (blk : Int)), (6, .slice am (T + 1) cm), (8, .pointer (some ⟨g513, 0, none⟩)), (12, .slice avb m cvb), (16, .int .i64 (t : Int))]) (fun t W => t ≤ T + 2 ∧ Below w.heap.size w W ∧ Below X1.heap.size X1 W ∧ Below X2.heap.size X2 W ∧ RowL W g513 29 [.int .i64 (l0 : Int), .int .i64 (s1 : Int), .int .u64 (lo : Int), .int .u64 (le : Int), .int .i64 (wy : Int), .slice a2 N c2]) (fun t => T + 2 - t) 0 ⟨rfl, rfl, rfl, rfl, rfl, rfl, trivial⟩ ⟨Nat.zero_le _, q, q1, q2, by assumption⟩ ?_
    clear q q1 q2 q4 qA rw1 rw2 zt yq yq1 yq2 yq3 hi hlb hla
    rintro t W ⟨ht, q, q1, q2, rw1⟩
    show CC none Try.prog _ 198 [] (sl [(0, .slice (some ⟨bk, off, none⟩) 64 c), (1, .int .i64 (blk : Int)), (6, .slice am (T + 1) cm), (8, .pointer (some ⟨g513, 0, none⟩)), (12, .slice avb m cvb), (16, .int .i64 (t : Int))]) _ W
    by_cases hlt : t ≤ T + 1
    case neg =>
      refine CC.seq ?_
      refine CC.seq ?_
      refine CC.region ?_
      refine LL.val (R.move rfl rfl) rfl rfl rfl ?_
      refine LL.val (R.move rfl rfl) rfl rfl rfl ?_
      refine LL.val (R.len rfl rfl rfl rfl) rfl rfl rfl ?_
      refine LL.val (R.leF rfl rfl rfl (by omega)) rfl rfl rfl ?_
      refine LL.nilS ?_
      refine CC.no rfl ?_
      refine CC.exit ?_
      refine EE.thenX ?_
      refine EE.thenX ?_
      refine EE.inX ?_
      refine EE.thenN ?_
      refine CC.seq ?_
      refine CC.region ?_
      refine LL.call (R.call rfl rfl rfl) rfl rfl rfl (works11_any _) ?_
      rintro e Wf2 ⟨rfl, bf1⟩
      refine ⟨_, rfl, ?_⟩
      have zbf1 := bf1.size
      replace q := q.trans (bf1.mono q.size)
      replace q1 := q1.trans (bf1.mono q1.size)
      replace q2 := q2.trans (bf1.mono q2.size)
      replace rw1 := rw1.up bf1
      refine LL.val (R.assign rfl rfl) rfl rfl rfl ?_
      refine LL.nilS ?_
      refine CC.ret ?_
      refine EE.ret _ rfl rfl ?_
      exact ⟨rfl, q⟩
    have htk : ((splN blk N T).take t).length = t := by rw [List.length_take, hspl]; omega
    have hlF := fun X b => (hmF X b).take pEnc t (by omega) cm (by omega)
    obtain ⟨os, eos⟩ : ∃ os, (splN blk N T).take t = os := ⟨_, rfl⟩
    have hnn : ∀ p ∈ os, 0 ≤ p.1 := fun p hp => (hsl p (List.mem_of_mem_take (by rw [eos]; exact hp))).1
    have hno := hnow t hlt
    rw [eos] at htk hlF hno
    obtain ⟨L, hL⟩ : ∃ L, N - (t - 1) = L := ⟨_, rfl⟩
    rw [hL] at hno
    have hPl : (ps.take L).length = L := by rw [List.length_take]; omega
    have hwF := fun X b => (h2F X b).take prEnc L (by omega) c2 (by omega)
    obtain ⟨P, eP⟩ : ∃ P, ps.take L = P := ⟨_, rfl⟩
    rw [eP] at hno hPl hwF
    have yq := q.size
    have yq1 := q1.size
    have yq2 := q2.size
    refine CC.seq ?_
    refine CC.seq ?_
    refine CC.region ?_
    refine LL.val (R.move rfl rfl) rfl rfl rfl ?_
    refine LL.val (R.move rfl rfl) rfl rfl rfl ?_
    refine LL.val (R.len rfl rfl rfl rfl) rfl rfl rfl ?_
    refine LL.val (R.leT rfl rfl rfl (by omega)) rfl rfl rfl ?_
    refine LL.nilS ?_
    refine CC.yes rfl ?_
    refine CC.skip ?_
    refine EE.thenN ?_
    refine CC.seq ?_
    refine CC.block ?_
    refine CC.seq ?_
    refine CC.region ?_
    refine LL.val (R.move rfl rfl) rfl rfl rfl ?_
    refine LL.val (R.move rfl rfl) rfl rfl rfl ?_
    refine LL.val (R.move rfl rfl) rfl rfl rfl ?_
    refine LL.val (R.slice rfl rfl rfl rfl rfl (I.slTo rfl (by omega))) rfl rfl rfl ?_
    have lg133 := rw1.lt
    (refine LL.call (R.call rfl rfl rfl) rfl rfl rfl (dapply_any 64 _ _ ws os _ (hvF _ q) hn (by omega) (hlF _ q1) (by omega) hnn) ?_; rintro e Wg132 ⟨v5, rfl, o5, bg129⟩; refine ⟨_, rfl, ?_⟩)
    have zbg129 := bg129.size
    replace q := q.trans (bg129.mono q.size)
    replace q1 := q1.trans (bg129.mono q1.size)
    replace q2 := q2.trans (bg129.mono q2.size)
    replace rw1 := rw1.up bg129
    have lg149 := rw1.lt
    (refine LL.call (R.call rfl rfl rfl) rfl rfl rfl (hno _ _ (o5.reads uEnc)) ?_; rintro e Wg148 ⟨⟨v6, s', wy', rfl, hs', o6⟩, bg145⟩; refine ⟨_, rfl, ?_⟩; obtain ⟨a6, c6, rfl, hc6⟩ := (o6.reads prEnc).form hPl; obtain ⟨X6, hzX6, h6F, q6⟩ := exposeT (o6.reads prEnc); have zX6 := q6.size; clear o6; have hsm6 := fun W (b1 : Below X6.heap.size X6 W) (b2 : Below X2.heap.size X2 W) => prsame_T (.slice a6 L c6) (.slice a2 L c2) P W (h6F _ b1) (hwF _ b2) (by omega))
    have zbg145 := bg145.size
    replace o5 := o5.up bg145
    replace bg129 := bg129.trans (bg145.mono bg129.size)
    replace q := q.trans (bg145.mono q.size)
    replace q1 := q1.trans (bg145.mono q1.size)
    replace q2 := q2.trans (bg145.mono q2.size)
    replace rw1 := rw1.up bg145
    refine LL.val (R.move rfl rfl) rfl rfl rfl ?_
    refine LL.val (R.extract rfl rfl rfl) rfl rfl rfl ?_
    refine LL.val (R.extract rfl rfl rfl) rfl rfl rfl ?_
    have lg217 := rw1.lt
    refine LL.alloc ([Value.int IntKind.i64 0, Value.int IntKind.i64 0, Value.int IntKind.u64 0, Value.int IntKind.u64 0, Value.int IntKind.i64 0, Value.slice none 0 0]) rfl rfl rfl rfl rfl ?_
    intro Wg219 gg220 egg220 rg221 zg222 bg218
    replace bg145 := bg145.trans (bg218.mono bg145.size)
    replace q6 := q6.trans (bg218.mono q6.size)
    replace o5 := o5.up bg218
    replace bg129 := bg129.trans (bg218.mono bg129.size)
    replace q := q.trans (bg218.mono q.size)
    replace q1 := q1.trans (bg218.mono q1.size)
    replace q2 := q2.trans (bg218.mono q2.size)
    replace rw1 := rw1.up bg218
    refine LL.storeN (vs := [Value.int IntKind.i64 ↑l0, Value.int IntKind.i64 s', Value.int IntKind.u64 ↑lo, Value.int IntKind.u64 ↑le, Value.int IntKind.i64 wy', Value.slice a6 L c6]) rfl rfl rfl rfl rg221 (by exact Nat.le_of_ble_eq_true rfl) (ones_of rfl) rfl rfl ?_
    intro Wg242 rg243 bg241 zg244
    have hlbg241 := rg221.lt
    replace rg243 : RowL Wg242 _ 29 [Value.int IntKind.i64 ↑l0, Value.int IntKind.i64 s', Value.int IntKind.u64 ↑lo, Value.int IntKind.u64 ↑le, Value.int IntKind.i64 wy', Value.slice a6 L c6] := rg243
    clear rg221
    replace bg218 := bg218.grown bg241 bg218.size (by rintro k ⟨⟩; omega)
    replace bg145 := bg145.grown bg241 bg145.size (by rintro k ⟨⟩; omega)
    replace q6 := q6.grown bg241 q6.size (by rintro k ⟨⟩; omega)
    replace bg129 := bg129.grown bg241 bg129.size (by rintro k ⟨⟩; omega)
    replace q := q.grown bg241 q.size (by rintro k ⟨⟩; omega)
    replace q1 := q1.grown bg241 q1.size (by rintro k ⟨⟩; omega)
    replace q2 := q2.grown bg241 q2.size (by rintro k ⟨⟩; omega)
    replace rw1 := rw1.gr bg241 (by have := rw1.lt; omega)
    have rg221 := rg243
    clear rg243
    refine LL.val (R.assign rfl rfl) rfl rfl rfl ?_
    refine LL.nilS ?_
    refine CC.seq ?_
    refine CC.seq ?_
    refine CC.region ?_
    refine LL.val (R.move rfl rfl) rfl rfl rfl ?_
    refine LL.call (R.call rfl rfl rfl) rfl rfl rfl (num11_any _ _) ?_
    rintro e W' ⟨rfl, rfl⟩
    refine ⟨_, rfl, ?_⟩
    refine LL.val (R.neF rfl rfl rfl (by omega)) rfl rfl rfl ?_
    refine LL.val (R.move rfl rfl) rfl rfl rfl ?_
    refine LL.val (R.field rfl rfl (I.fld rfl)) rfl rfl rfl ?_
    refine LL.val (R.load rfl rfl (I.ld1 rfl (RowL.cell rg221 rfl))) rfl rfl rfl ?_
    refine LL.val (R.field rfl rfl (I.fld rfl)) rfl rfl rfl ?_
    refine LL.val (R.load rfl rfl (I.ld1 rfl (RowL.cell rw1 rfl))) rfl rfl rfl ?_
    refine LL.val (R.neF rfl rfl rfl (by omega)) rfl rfl rfl ?_
    refine LL.val (R.pick rfl rfl rfl) rfl rfl rfl ?_
    refine LL.val (R.move rfl rfl) rfl rfl rfl ?_
    refine LL.val (R.field rfl rfl (I.fld rfl)) rfl rfl rfl ?_
    refine LL.val (R.load rfl rfl (I.ld1 rfl (RowL.cell rg221 rfl))) rfl rfl rfl ?_
    refine LL.val (R.field rfl rfl (I.fld rfl)) rfl rfl rfl ?_
    refine LL.val (R.load rfl rfl (I.ld1 rfl (RowL.cell rw1 rfl))) rfl rfl rfl ?_
    refine LL.val (R.neF rfl rfl rfl (by omega)) rfl rfl rfl ?_
    refine LL.val (R.pick rfl rfl rfl) rfl rfl rfl ?_
    refine LL.val (R.move rfl rfl) rfl rfl rfl ?_
    refine LL.val (R.move rfl rfl) rfl rfl rfl ?_
    refine LL.vsplit (fun h => R.gtT rfl rfl rfl h) (fun h => R.gtF rfl rfl rfl (Int.not_lt.1 h)) rfl rfl rfl (fun cg623 => ?_) (fun cg623 => ?_)
    refine LL.val (R.move rfl rfl) rfl rfl rfl ?_
    refine LL.val (R.field rfl rfl (I.fld rfl)) rfl rfl rfl ?_
    refine LL.val (R.load rfl rfl (I.ld1 rfl (RowL.cell rg221 rfl))) rfl rfl rfl ?_
    refine LL.val (R.move rfl rfl) rfl rfl rfl ?_
    refine LL.val (R.neF rfl rfl rfl (by omega)) rfl rfl rfl ?_
    refine LL.val (R.pick rfl rfl rfl) rfl rfl rfl ?_
    refine LL.val (R.pick rfl rfl rfl) rfl rfl rfl ?_
    refine LL.val (R.move rfl rfl) rfl rfl rfl ?_
    refine LL.val (R.field rfl rfl (I.fld rfl)) rfl rfl rfl ?_
    refine LL.val (R.load rfl rfl (I.ld1 rfl (RowL.cell rg221 rfl))) rfl rfl rfl ?_
    refine LL.val (R.len rfl rfl rfl rfl) rfl rfl rfl ?_
    refine LL.val (R.move rfl rfl) rfl rfl rfl ?_
    refine LL.val (R.len rfl rfl rfl rfl) rfl rfl rfl ?_
    refine LL.val (R.ltF rfl rfl rfl (by omega)) rfl rfl rfl ?_
    refine LL.val (R.pick rfl rfl rfl) rfl rfl rfl ?_
    refine LL.val (R.move rfl rfl) rfl rfl rfl ?_
    refine LL.val (R.field rfl rfl (I.fld rfl)) rfl rfl rfl ?_
    refine LL.val (R.load rfl rfl (I.ld1 rfl (RowL.cell rg221 rfl))) rfl rfl rfl ?_
    refine LL.val (R.len rfl rfl rfl rfl) rfl rfl rfl ?_
    refine LL.val (R.field rfl rfl (I.fld rfl)) rfl rfl rfl ?_
    refine LL.val (R.load rfl rfl (I.ld1 rfl (RowL.cell rw1 rfl))) rfl rfl rfl ?_
    refine LL.val (R.len rfl rfl rfl rfl) rfl rfl rfl ?_
    refine LL.val (R.gtF rfl rfl rfl (by omega)) rfl rfl rfl ?_
    refine LL.val (R.pick rfl rfl rfl) rfl rfl rfl ?_
    refine LL.nilS ?_
    refine CC.no rfl ?_
    refine CC.skip ?_
    refine EE.thenN ?_
    refine CC.seq ?_
    refine CC.grow (by kernel_rfl) (by kernel_rfl) ?_
    refine GG.val (fun w' b' => R.field rfl rfl (I.fld rfl)) rfl rfl ?_
    refine GG.val (fun w' b' => R.load rfl rfl (I.ld1 rfl (RowL.cell (rg221.up b') rfl))) rfl rfl ?_
    refine GG.val (fun w' b' => R.field rfl rfl (I.fld rfl)) rfl rfl ?_
    refine GG.val (fun w' b' => R.load rfl rfl (I.ld1 rfl (RowL.cell (rw1.up b') rfl))) rfl rfl ?_
    refine GG.val (fun w' b' => R.field rfl rfl (I.fld rfl)) rfl rfl ?_
    refine GG.val (fun w' b' => R.load rfl rfl (I.ld1 rfl (RowL.cell (rg221.up b') rfl))) rfl rfl ?_
    refine GG.val (fun w' b' => R.len rfl rfl rfl rfl) rfl rfl ?_
    refine GG.val (fun w' b' => R.slice rfl rfl rfl rfl rfl (I.slTo rfl (by omega))) rfl rfl ?_
    refine GG.call (fun w' => (R.call rfl rfl rfl)) rfl rfl (fun w' b' => (hsm6 w' (q6.trans (b'.mono q6.size)) (q2.trans (b'.mono q2.size))).mono fun e W' h => ⟨h.1, b'.trans (h.2.mono b'.size)⟩) ?_
    refine GG.val (fun w' b' => R.not rfl rfl) rfl rfl ?_
    refine GG.val (fun w' b' => R.move rfl rfl) rfl rfl ?_
    refine GG.val (fun w' b' => R.move rfl rfl) rfl rfl ?_
    refine GG.val (fun w' b' => R.move rfl rfl) rfl rfl ?_
    refine GG.val (fun w' b' => R.len rfl rfl rfl rfl) rfl rfl ?_
    refine GG.vsplit (fun h w' b' => (fun h => R.eqT rfl rfl rfl h) h) (fun h w' b' => (fun h => R.eqF rfl rfl rfl h) h) rfl rfl (fun cg1269 => ?_) (fun cg1269 => ?_)
    refine GG.val (fun w' b' => R.move rfl rfl) rfl rfl ?_
    refine GG.val (fun w' b' => R.field rfl rfl (I.fld rfl)) rfl rfl ?_
    refine GG.val (fun w' b' => R.load rfl rfl (I.ld1 rfl (RowL.cell (rg221.up b') rfl))) rfl rfl ?_
    refine GG.val (fun w' b' => R.len rfl rfl rfl rfl) rfl rfl ?_
    refine GG.val (fun w' b' => R.move rfl rfl) rfl rfl ?_
    refine GG.val (fun w' b' => R.len rfl rfl rfl rfl) rfl rfl ?_
    refine GG.val (fun w' b' => R.neF rfl rfl rfl (by omega)) rfl rfl ?_
    refine GG.val (fun w' b' => R.pick rfl rfl rfl) rfl rfl ?_
    refine GG.val (fun w' b' => R.pick rfl rfl rfl) rfl rfl ?_
    refine GG.nilQ (fun Wg1397 bg1396 => ?_)
    have zbg1396 := bg1396.size
    replace bg218 := bg218.trans (bg1396.mono bg218.size)
    replace bg145 := bg145.trans (bg1396.mono bg145.size)
    replace q6 := q6.trans (bg1396.mono q6.size)
    replace bg129 := bg129.trans (bg1396.mono bg129.size)
    replace q := q.trans (bg1396.mono q.size)
    replace q1 := q1.trans (bg1396.mono q1.size)
    replace q2 := q2.trans (bg1396.mono q2.size)
    replace rw1 := rw1.up bg1396
    replace rg221 := rg221.up bg1396
    refine EE.thenN ?_
    refine CC.no rfl ?_
    refine CC.skip ?_
    refine EE.inN ?_
    refine EE.thenN ?_
    refine CC.region ?_
    refine LL.val (R.move rfl rfl) rfl rfl rfl ?_
    refine LL.val (R.addNc rfl rfl rfl rfl (by omega)) rfl rfl rfl ?_
    refine LL.val (R.assign rfl rfl) rfl rfl rfl ?_
    refine LL.nil ?_
    exact EE.round (t + 1) ⟨rfl, rfl, rfl, rfl, rfl, rfl, trivial⟩ ⟨by show t + 1 ≤ T + 2; omega, q, q1, q2, by assumption⟩ (by show T + 2 - (t + 1) < T + 2 - t; omega)
    refine GG.val (fun w' b' => R.move rfl rfl) rfl rfl ?_
    refine GG.skip rfl rfl ?_
    refine GG.skip rfl rfl ?_
    refine GG.skip rfl rfl ?_
    refine GG.skip rfl rfl ?_
    refine GG.skip rfl rfl ?_
    refine GG.skip rfl rfl ?_
    refine GG.val (fun w' b' => R.pick rfl rfl rfl) rfl rfl ?_
    refine GG.val (fun w' b' => R.pick rfl rfl rfl) rfl rfl ?_
    refine GG.nilQ (fun Wg1495 bg1494 => ?_)
    have zbg1494 := bg1494.size
    replace bg218 := bg218.trans (bg1494.mono bg218.size)
    replace bg145 := bg145.trans (bg1494.mono bg145.size)
    replace q6 := q6.trans (bg1494.mono q6.size)
    replace bg129 := bg129.trans (bg1494.mono bg129.size)
    replace q := q.trans (bg1494.mono q.size)
    replace q1 := q1.trans (bg1494.mono q1.size)
    replace q2 := q2.trans (bg1494.mono q2.size)
    replace rw1 := rw1.up bg1494
    replace rg221 := rg221.up bg1494
    refine EE.thenN ?_
    refine CC.no rfl ?_
    refine CC.skip ?_
    refine EE.inN ?_
    refine EE.thenN ?_
    refine CC.region ?_
    refine LL.val (R.move rfl rfl) rfl rfl rfl ?_
    refine LL.val (R.addNc rfl rfl rfl rfl (by omega)) rfl rfl rfl ?_
    refine LL.val (R.assign rfl rfl) rfl rfl rfl ?_
    refine LL.nil ?_
    exact EE.round (t + 1) ⟨rfl, rfl, rfl, rfl, rfl, rfl, trivial⟩ ⟨by show t + 1 ≤ T + 2; omega, q, q1, q2, by assumption⟩ (by show T + 2 - (t + 1) < T + 2 - t; omega)
    refine LL.val (R.move rfl rfl) rfl rfl rfl ?_
    refine LL.skip rfl rfl ?_
    refine LL.skip rfl rfl ?_
    refine LL.skip rfl rfl ?_
    refine LL.skip rfl rfl ?_
    refine LL.val (R.pick rfl rfl rfl) rfl rfl rfl ?_
    refine LL.val (R.pick rfl rfl rfl) rfl rfl rfl ?_
    refine LL.val (R.move rfl rfl) rfl rfl rfl ?_
    refine LL.val (R.field rfl rfl (I.fld rfl)) rfl rfl rfl ?_
    refine LL.val (R.load rfl rfl (I.ld1 rfl (RowL.cell rg221 rfl))) rfl rfl rfl ?_
    refine LL.val (R.len rfl rfl rfl rfl) rfl rfl rfl ?_
    refine LL.val (R.move rfl rfl) rfl rfl rfl ?_
    refine LL.val (R.len rfl rfl rfl rfl) rfl rfl rfl ?_
    refine LL.val (R.ltF rfl rfl rfl (by omega)) rfl rfl rfl ?_
    refine LL.val (R.pick rfl rfl rfl) rfl rfl rfl ?_
    refine LL.val (R.move rfl rfl) rfl rfl rfl ?_
    refine LL.val (R.field rfl rfl (I.fld rfl)) rfl rfl rfl ?_
    refine LL.val (R.load rfl rfl (I.ld1 rfl (RowL.cell rg221 rfl))) rfl rfl rfl ?_
    refine LL.val (R.len rfl rfl rfl rfl) rfl rfl rfl ?_
    refine LL.val (R.field rfl rfl (I.fld rfl)) rfl rfl rfl ?_
    refine LL.val (R.load rfl rfl (I.ld1 rfl (RowL.cell rw1 rfl))) rfl rfl rfl ?_
    refine LL.val (R.len rfl rfl rfl rfl) rfl rfl rfl ?_
    refine LL.val (R.gtF rfl rfl rfl (by omega)) rfl rfl rfl ?_
    refine LL.val (R.pick rfl rfl rfl) rfl rfl rfl ?_
    refine LL.nilS ?_
    refine CC.no rfl ?_
    refine CC.skip ?_
    refine EE.thenN ?_
    refine CC.seq ?_
    refine CC.grow (by kernel_rfl) (by kernel_rfl) ?_
    refine GG.val (fun w' b' => R.field rfl rfl (I.fld rfl)) rfl rfl ?_
    refine GG.val (fun w' b' => R.load rfl rfl (I.ld1 rfl (RowL.cell (rg221.up b') rfl))) rfl rfl ?_
    refine GG.val (fun w' b' => R.field rfl rfl (I.fld rfl)) rfl rfl ?_
    refine GG.val (fun w' b' => R.load rfl rfl (I.ld1 rfl (RowL.cell (rw1.up b') rfl))) rfl rfl ?_
    refine GG.val (fun w' b' => R.field rfl rfl (I.fld rfl)) rfl rfl ?_
    refine GG.val (fun w' b' => R.load rfl rfl (I.ld1 rfl (RowL.cell (rg221.up b') rfl))) rfl rfl ?_
    refine GG.val (fun w' b' => R.len rfl rfl rfl rfl) rfl rfl ?_
    refine GG.val (fun w' b' => R.slice rfl rfl rfl rfl rfl (I.slTo rfl (by omega))) rfl rfl ?_
    refine GG.call (fun w' => (R.call rfl rfl rfl)) rfl rfl (fun w' b' => (hsm6 w' (q6.trans (b'.mono q6.size)) (q2.trans (b'.mono q2.size))).mono fun e W' h => ⟨h.1, b'.trans (h.2.mono b'.size)⟩) ?_
    refine GG.val (fun w' b' => R.not rfl rfl) rfl rfl ?_
    refine GG.val (fun w' b' => R.move rfl rfl) rfl rfl ?_
    refine GG.val (fun w' b' => R.move rfl rfl) rfl rfl ?_
    refine GG.val (fun w' b' => R.move rfl rfl) rfl rfl ?_
    refine GG.val (fun w' b' => R.len rfl rfl rfl rfl) rfl rfl ?_
    refine GG.val (fun w' b' => R.eqF rfl rfl rfl (by omega)) rfl rfl ?_
    refine GG.val (fun w' b' => R.move rfl rfl) rfl rfl ?_
    refine GG.skip rfl rfl ?_
    refine GG.skip rfl rfl ?_
    refine GG.skip rfl rfl ?_
    refine GG.skip rfl rfl ?_
    refine GG.skip rfl rfl ?_
    refine GG.skip rfl rfl ?_
    refine GG.val (fun w' b' => R.pick rfl rfl rfl) rfl rfl ?_
    refine GG.val (fun w' b' => R.pick rfl rfl rfl) rfl rfl ?_
    refine GG.nilQ (fun Wg2166 bg2165 => ?_)
    have zbg2165 := bg2165.size
    replace bg218 := bg218.trans (bg2165.mono bg218.size)
    replace bg145 := bg145.trans (bg2165.mono bg145.size)
    replace q6 := q6.trans (bg2165.mono q6.size)
    replace bg129 := bg129.trans (bg2165.mono bg129.size)
    replace q := q.trans (bg2165.mono q.size)
    replace q1 := q1.trans (bg2165.mono q1.size)
    replace q2 := q2.trans (bg2165.mono q2.size)
    replace rw1 := rw1.up bg2165
    replace rg221 := rg221.up bg2165
    refine EE.thenN ?_
    refine CC.no rfl ?_
    refine CC.skip ?_
    refine EE.inN ?_
    refine EE.thenN ?_
    refine CC.region ?_
    refine LL.val (R.move rfl rfl) rfl rfl rfl ?_
    refine LL.val (R.addNc rfl rfl rfl rfl (by omega)) rfl rfl rfl ?_
    refine LL.val (R.assign rfl rfl) rfl rfl rfl ?_
    refine LL.nil ?_
    exact EE.round (t + 1) ⟨rfl, rfl, rfl, rfl, rfl, rfl, trivial⟩ ⟨by show t + 1 ≤ T + 2; omega, q, q1, q2, by assumption⟩ (by show T + 2 - (t + 1) < T + 2 - t; omega)
end Go.Proofs.Ytfplilpefhhpnaa
/- Opening the arguments of a law: slices of numbers, pairs of numbers. -/
namespace Go.Proofs.Ytfplilpefhhpnaa
set_option linter.unusedVariables false
set_option linter.unusedSimpArgs false
open Go.RowKit Go.ChangeShapes Go.WideShapes Go.ChangeAt

theorem own : ownKnob Try.prog.godebug = none := by kernel_rfl
theorem laidOut : laidOutB Try.prog = true := by kernel_rfl

section
variable {H : Type} {enc : TypeId × Value → H} {P : Program} {w : World} {base : Nat} {spare : Nat → Bool} {held : Bool} {r : Reach} {b0 : Nat} {t : TypeId} {v : Value} {d : DataW H} {p : List MemPlace}

theorem wf_u64 {n : Int} (h : (Lit.int .u64 n).wf = true) : 0 ≤ n ∧ n < 18446744073709551616 := by
  simp [Lit.wf, IntKind.min, IntKind.max, IntKind.signed, IntKind.bits] at h; omega
/-- A slice of unsigned numbers. -/
theorem open_nats {e : TypeId} {k : IntKind} {M : Nat} (ht : P.underlying t = some (.slice e)) (he : P.underlying e = some (.int k)) (hc : P.cellsOf e = 1) (hk : ∀ n, (Lit.int k n).wf = true → 0 ≤ n ∧ n < (M : Int))
    (hv : Value.okWide P w r b0 t v) (h : DataW.Trod enc P w base spare held t v d p) : ∃ ns : List Nat, Reads w v (ints k ns) ∧ (∀ n ∈ ns, n < M) ∧ ns.length ≤ 9223372036854775807 := by
  obtain ⟨a, len, cap, rfl⟩ := okWide_slice ht hv
  obtain ⟨fuel, hf⟩ := h
  rcases open_ints ht he hc hf with ⟨hcs, _⟩ | ⟨x, l, c, zs, hcs, _, hl, hm, hz, _, hcell, hwz⟩
  · simp [Value.cells] at hcs
    obtain ⟨rfl, rfl, rfl⟩ := hcs
    exact ⟨[], Reads.nil w, by simp, by simp⟩
  · simp [Value.cells] at hcs
    obtain ⟨rfl, rfl, rfl⟩ := hcs
    have hlz : len ≤ zs.length := by rw [hz]; split <;> omega
    refine ⟨(zs.take len).map Int.toNat, ?_, ?_, ?_⟩
    · have hlen : ((zs.take len).map Int.toNat).length = len := by simp; omega
      refine ⟨some x, cap, by rw [List.length_map, hlen], by rw [List.length_map, hlen]; exact hl, fun hne => ?_⟩
      have h0 : 0 < len := by
        rcases Nat.eq_zero_or_pos len with h0 | h0
        · subst h0; simp at hne
        · exact h0
      obtain ⟨b, off, spot⟩ := x
      have hc0 := hcell 0 (by omega)
      have hspot : spot = none := by simpa [Addr.add] using World.cell?_spot hc0
      subst hspot
      have hblt : b < w.heap.size := by
        rcases Nat.lt_or_ge b w.heap.size with hb | hb
        · exact hb
        · simp [Addr.add, World.cell?, Array.getElem?_eq_none hb] at hc0
      refine ⟨b, off, rfl, hblt, fun j hj => ?_⟩
      rw [List.length_map, hlen] at hj
      have hcj := hcell j (by omega)
      have hjz : j < zs.length := by omega
      have hw := hk _ (hwz zs[j] (List.getElem_mem hjz))
      rw [Addr.add_lit] at hcj
      rw [hcj]
      simp [List.getElem?_take, hj, hjz, List.getD]
      omega
    · intro n hn
      simp only [List.mem_map] at hn
      obtain ⟨z, hz', rfl⟩ := hn
      have := hk _ (hwz z (List.mem_of_mem_take hz'))
      omega
    · simp only [List.length_map, List.length_take]
      unfold maxLen at hm
      omega

end
end Go.Proofs.Ytfplilpefhhpnaa
/- Opening the arguments of a law: structs and arrays of integers, and of such. Over any program. -/
namespace Go.Proofs.Ytfplilpefhhpnaa
set_option linter.unusedVariables false
set_option linter.unusedSimpArgs false
open Go.RowKit Go.ChangeShapes Go.WideShapes Go.ChangeAt
/-- Which kind of integer lies at a cell. -/
def atC (P : Program) : Nat → TypeId → Nat → Option IntKind
  | 0, _, _ => none
  | d + 1, t, j => match P.underlying t with
    | some (.struct fs) => fs.toList.findSome? fun f => if f.offset ≤ j ∧ j < f.offset + P.cellsOf f.type then atC P d f.type (j - f.offset) else none
    | some (.array n e) => if j / P.cellsOf e < n then atC P d e (j % P.cellsOf e) else none
    | some (.int k) => if j = 0 then some k else none
    | _ => none
section
variable {H : Type} {enc : TypeId × Value → H} {P : Program} {w : World} {base : Nat} {spare : Nat → Bool} {held : Bool} {r : Reach} {b0 : Nat} {t : TypeId} {v : Value} {d : DataW H} {p : List MemPlace}
theorem trod_at : ∀ (n : Nat) (t : TypeId) (j fuel : Nat) (cs : List Value) (x : DataW H × List MemPlace) (k : IntKind), atC P n t j = some k → DataW.trod enc P w base spare held fuel t cs = some x → ∃ z : Int, cs[j]? = some (.int k z) ∧ (Lit.int k z).wf = true
  | 0, _, _, _, _, _, _, h, _ => by cases h
  | n + 1, t, j, fuel, cs, x, k, h, hx => by
    cases hu : P.underlying t with
    | none => simp [atC, hu] at h
    | some kd =>
      cases kd <;> simp only [atC, hu] at h <;> try (cases h; done)
      case int q =>
        split at h
        · rename_i hj
          cases h
          subst hj
          obtain ⟨z, e, _, hw⟩ := DataW.trod_int hu hx
          exact ⟨z, by rw [e]; rfl, hw⟩
        · cases h
      case struct fs =>
        obtain ⟨f, hf, hfk⟩ := List.exists_of_findSome?_eq_some h
        split at hfk
        · rename_i hj
          obtain ⟨xs, m, _, rfl, hl, hlen, hf2⟩ := DataW.trod_struct hu hx
          obtain ⟨i, hi⟩ := List.mem_iff_getElem?.1 hf
          have h2 := hf2 i f (by simpa using hi)
          have hil : i < xs.length := by
            have := (List.getElem?_eq_some_iff.1 hi).1
            rw [Array.length_toList] at this
            omega
          rw [List.getElem?_eq_getElem hil] at h2
          obtain ⟨z, e, hw⟩ := trod_at n f.type (j - f.offset) _ _ _ k hfk h2
          refine ⟨z, ?_, hw⟩
          rw [List.getElem?_take] at e
          split at e
          · rw [List.getElem?_drop] at e
            rwa [show f.offset + (j - f.offset) = j by omega] at e
          · cases e
        · cases hfk
      case array m e =>
        split at h
        · rename_i hj
          obtain ⟨xs, m', _, rfl, hl, hlen, hi⟩ := DataW.trod_array hu hx
          have h2 := hi _ hj
          rw [List.getElem?_eq_getElem (by omega)] at h2
          obtain ⟨z, e', hw⟩ := trod_at n e (j % P.cellsOf e) _ _ _ k h h2
          refine ⟨z, ?_, hw⟩
          rw [List.getElem?_take] at e'
          split at e'
          · rw [List.getElem?_drop] at e'
            rwa [show j / P.cellsOf e * P.cellsOf e + j % P.cellsOf e = j by rw [Nat.mul_comm]; exact Nat.div_add_mod _ _] at e'
          · cases e'
        · cases h
theorem open_ints {c : Nat} (ks : Nat → IntKind) (hs : (match P.underlying t with | some (.struct _) | some (.array _ _) => true | _ => false) = true) (hc : P.cellsOf t = c) (hk : (List.range c).all (fun j => atC P 9 t j == some (ks j)) = true)
    (hv : Value.okWide P w r b0 t v) (h : DataW.Trod enc P w base spare held t v d p) : ∃ g : Nat → Int, v = .agg ((List.range c).map fun j => Value.int (ks j) (g j)).toArray ∧ ∀ j, j < c → (Lit.int (ks j) (g j)).wf = true := by
  have hg : ∃ cs, v = .agg cs ∧ cs.size = P.cellsOf t := by
    unfold Value.okWide at hv
    split at hv
    · obtain ⟨cs, h1, h2, _⟩ := hv; exact ⟨cs, h1, h2⟩
    · obtain ⟨cs, h1, h2, _⟩ := hv; exact ⟨cs, h1, h2⟩
    · rename_i h1 h2
      split at hs <;> simp_all
  obtain ⟨cs, rfl, hsz⟩ := hg
  obtain ⟨fuel, hf⟩ := h
  have key : ∀ j, ∃ z : Int, j < c → cs.toList[j]? = some (.int (ks j) z) ∧ (Lit.int (ks j) z).wf = true := by
    intro j
    by_cases hj : j < c
    · have hk' := List.all_eq_true.1 hk j (List.mem_range.2 hj)
      have hk'' : atC P 9 t j = some (ks j) := by simpa using hk'
      obtain ⟨z, h1, h2⟩ := trod_at 9 t j fuel _ _ _ hk'' hf
      exact ⟨z, fun _ => ⟨h1, h2⟩⟩
    · exact ⟨0, fun h => absurd h hj⟩
  refine ⟨fun j => Classical.choose (key j), ?_, fun j hj => (Classical.choose_spec (key j) hj).2⟩
  congr 1
  apply Array.ext'
  apply List.ext_getElem?
  intro j
  simp only [List.toList_toArray, List.getElem?_map]
  by_cases hj : j < c
  · rw [(Classical.choose_spec (key j) hj).1, List.getElem?_range hj]
    rfl
  · rw [List.getElem?_eq_none (by rw [Array.length_toList, hsz, hc]; omega), List.getElem?_eq_none (by simp; omega)]
    rfl
end
end Go.Proofs.Ytfplilpefhhpnaa
/- slots: what the shells hand over. -/
namespace Go.Proofs.Ytfplilpefhhpnaa
set_option linter.unusedVariables false
set_option linter.unusedSimpArgs false
open Go.RowKit Go.Shelf
set_option maxRecDepth 100000
set_option maxHeartbeats 8000000
end Go.Proofs.Ytfplilpefhhpnaa
/- NodeHolds, any input. -/
namespace Go.Proofs.Ytfplilpefhhpnaa
set_option linter.unusedVariables false
set_option linter.unusedSimpArgs false
open Go.RowKit Go.Shelf
set_option maxRecDepth 100000
set_option maxHeartbeats 4000000
theorem holds_walk (n : Nat) (v : Value) (ws : List Nat) (w : World) (hv : ReadsT uE 1 w v ws) (hn : ws.length = n) (hb : ∀ x ∈ ws, x < 18446744073709551616) (z : Int) : Calls Try.prog 6 #[v, .int .i64 z] w fun e w' => e = .returned (.bool true) ∧ Below w.heap.size w w' := by
  by_cases hP : nodeP ws
  case neg => exact holds_no n v ws w hv hn hb z 210 (by decide) fun W b => split_bad n v ws W (hv.up b) hn hb z 210 (by decide) (.inl ⟨hP, rfl⟩)
  by_cases hS : nodeS ws
  case neg => exact holds_no n v ws w hv hn hb z 190 (by decide) fun W b => split_bad n v ws W (hv.up b) hn hb z 190 (by decide) (.inr ⟨hP, hS, rfl⟩)
  by_cases h : 1 ≤ z ∧ z ≤ 2047 ∧ 2 ≤ (readF (gw ws 3) (ws.drop 8)).length
  case neg => exact holds_no n v ws w hv hn hb z 2 (by decide) fun W b => split_arg n v ws W (hv.up b) hn hb hS z _ _ rfl rfl h
  obtain ⟨blk, rfl⟩ : ∃ b : Nat, z = b := ⟨z.toNat, by omega⟩
  obtain ⟨⟨k, p⟩, hx⟩ : ∃ x, (readF (gw ws 3) (ws.drop 8))[(readF (gw ws 3) (ws.drop 8)).length / 2]? = some x := ⟨_, List.getElem?_eq_getElem (by omega)⟩
  exact holds_yes v ws w hv hP.1 hb hS blk _ _ k p (by omega) _ rfl rfl h.2.2 rfl hx
end Go.Proofs.Ytfplilpefhhpnaa
