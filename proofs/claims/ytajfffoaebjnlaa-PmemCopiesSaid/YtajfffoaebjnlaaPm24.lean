/- PmemCopies: the walk (written by tools/genpm.py). -/
import Derived.Test.YtajfffoaebjnlaaPm21
namespace Go.Proofs.Ytajfffoaebjnlaa
set_option linter.unusedVariables false
set_option linter.unusedSimpArgs false
open Go.RowKit Go.Shelf
theorem set_eq_iff {s : List Cl} {k : Nat} {c u : Cl} (hc : s[k]? = some c) : s.set k u = s ↔ u = c := by
  obtain ⟨hk, e⟩ := List.getElem?_eq_some_iff.1 hc
  constructor
  · intro h
    have := congrArg (fun l : List Cl => l[k]?) h
    simp only [List.getElem?_set_self hk, hc] at this
    exact Option.some.inj this
  · rintro rfl
    rw [← e]
    exact List.set_getElem_self hk
theorem wr_eq {c : Cl} {r v y : Nat} (hy : c.1.1[r]? = some y) : wrC c r v = c ↔ y = v := by
  obtain ⟨hk, e⟩ := List.getElem?_eq_some_iff.1 hy
  constructor
  · intro h
    have := congrArg (fun d : Cl => d.1.1[r]?) h
    simp only [wrC, List.getElem?_set_self hk, hy] at this
    exact (Option.some.inj this).symm
  · rintro rfl
    obtain ⟨⟨l, hl⟩, c2⟩ := c
    simp only [wrC]
    refine Prod.ext (Subtype.ext ?_) rfl
    show l.set r y = l
    simp only at e
    rw [← e]
    exact List.set_getElem_self hk
theorem eqC_ints8 {P : Program} {t : TypeId} {d m : Nat} {e : TypeId} {k kk : IntKind} {xa xb : List Int} (hu : P.underlying t = some (.array m e)) (he : P.underlying e = some (.int kk)) (hc : P.cellsOf e = 1) (hm : m ≠ 0) (ha : xa.length = m) (hb : xb.length = m) : ∃ cs, eqC P (d + 2) t (intsZ k xa) (intsZ k xb) = some cs ∧ cs.all id = decide (xa = xb) := by
  obtain ⟨cs, h1, h2⟩ := eqI_ints (P := P) (d := d) (k := k) (xa := xa) (xb := xb) he (List.range m) fun i hi => by
    have := List.mem_range.1 hi
    omega
  refine ⟨cs, ?_, ?_⟩
  · show eqC P ((d + 1) + 1) t _ _ = _
    simp only [eqC, hu, hm, if_false, hc]
    exact h1
  · rw [Bool.eq_iff_iff, h2, decide_eq_true_eq]
    constructor
    · intro h
      refine List.ext_getElem? fun i => ?_
      by_cases hi : i < m
      · exact h i (List.mem_range.2 hi)
      · rw [List.getElem?_eq_none (by omega), List.getElem?_eq_none (by omega)]
    · rintro rfl i _
      rfl
theorem ln_eqC (x y : Ln) : ∃ cs, eqC Try.prog 8 68 (lE x) (lE y) = some cs ∧ cs.all id = decide (x = y) := by
  rw [lE_ints, lE_ints]
  obtain ⟨cs, h1, h2⟩ := eqC_ints8 (P := Try.prog) (d := 6) (m := 8) (k := .u64) (xa := x.1.map fun n : Nat => (n : Int)) (xb := y.1.map fun n : Nat => (n : Int)) Try.underlying68 Try.underlying37 (by kernel_rfl) (by decide) (by rw [List.length_map]; exact x.2) (by rw [List.length_map]; exact y.2)
  exact ⟨cs, h1, by rw [h2]; simp only [ln_inj]⟩
theorem line_eq (c1 c2 : Cl) : ∃ bs, eqC Try.prog 9 70 (cE c1) (cE c2) = some bs ∧ bs.all id = decide (c1 = c2) := by
  obtain ⟨b1, h1, e1⟩ := ln_eqC c1.1 c2.1
  obtain ⟨b2, h2, e2⟩ := ln_eqC c1.2.1 c2.2.1
  obtain ⟨b3, h3, e3⟩ := ln_eqC (c1.2.2.getD zL) (c2.2.2.getD zL)
  refine ⟨b1 ++ (b2 ++ (b3 ++ ([c1.2.2.isSome == c2.2.2.isSome] ++ []))), ?_, ?_⟩
  · have hu := Try.underlying70
    show eqC Try.prog (8 + 1) _ _ _ = _
    unfold eqC
    rw [hu]
    simp only
    rw [if_neg (by rw [show Try.prog.stoodInHeld 70 = false by kernel_rfl]; decide)]
    have k8 : Try.prog.cellsOf 68 = 8 := by kernel_rfl
    have k1 : Try.prog.cellsOf 4 = 1 := by kernel_rfl
    have s0 : ∀ c : Cl, (cE c).take 8 = lE c.1 := fun c => List.take_left' (lE_len _)
    have s1 : ∀ c : Cl, ((cE c).drop 8).take 8 = lE c.2.1 := fun c => by
      rw [show (cE c).drop 8 = _ from List.drop_left' (lE_len _)]
      exact List.take_left' (lE_len _)
    have s2 : ∀ c : Cl, ((cE c).drop 16).take 8 = lE (c.2.2.getD zL) := fun c => by
      rw [show 16 = 8 + 8 from rfl, ← List.drop_drop, show (cE c).drop 8 = _ from List.drop_left' (lE_len _), List.drop_left' (lE_len _)]
      exact List.take_left' (lE_len _)
    have s3 : ∀ c : Cl, ((cE c).drop 24).take 1 = [.bool c.2.2.isSome] := fun c => by
      rw [show 24 = 8 + (8 + 8) from rfl, ← List.drop_drop, ← List.drop_drop, show (cE c).drop 8 = _ from List.drop_left' (lE_len _), List.drop_left' (lE_len _), List.drop_left' (lE_len _)]
      rfl
    have hb : ∀ a b : Bool, eqC Try.prog 8 4 [.bool a] [.bool b] = some [a == b] := fun a b => by
      show eqC Try.prog (7 + 1) _ _ _ = _
      unfold eqC
      rw [Try.underlying4]
    simp [eqF, k8, k1, s0, s1, s2, s3, h1, h2, h3, hb]
  · rw [List.all_append, List.all_append, List.all_append, e1, e2, e3]
    obtain ⟨x1, y1, q1⟩ := c1
    obtain ⟨x2, y2, q2⟩ := c2
    rw [Bool.eq_iff_iff]
    cases q1 <;> cases q2 <;> simp [Prod.ext_iff]
set_option maxRecDepth 100000
set_option maxHeartbeats 8000000
theorem copies_walk (v0 v1 : Value) (ws : List Nat) (xs : List (Int × Int × Int)) (w : World) (hv : ReadsT uE 1 w v0 ws) (hs : ReadsT actE 3 w v1 xs) (hx : ∀ x ∈ xs, 0 ≤ x.2.2) (hL : ws.length ≤ 9223372036854775807) (hn : xs.length ≤ 9223372036854775807) (at_ : Int) (vv : Nat) : Calls Try.prog 7 #[v0, v1, .int .i64 at_, .int .u64 (vv : Int)] w fun e w' => e = .returned (.bool true) ∧ Below w.heap.size w w' := by
  have q := Below.refl w.heap.size w
  obtain ⟨a0, c0, rfl, _⟩ := hv.form rfl
  obtain ⟨a1, c1, rfl, _⟩ := hs.form rfl
  obtain ⟨L, eL⟩ : ∃ L, ws.length = L := ⟨_, rfl⟩
  obtain ⟨n, en⟩ : ∃ n, xs.length = n := ⟨_, rfl⟩
  rw [eL] at hv hL ⊢
  rw [en] at hs hn ⊢
  have hvF : ∀ W, Below w.heap.size w W → ReadsT uE 1 W (.slice a0 L c0) ws := fun W b => hv.up b
  have hsF : ∀ W, Below w.heap.size w W → ReadsT actE 3 W (.slice a1 n c1) xs := fun W b => hs.up b
  clear hv hs
  by_cases h64 : L ≤ 64
  case neg =>
    refine X.fn Try.func7 rfl (n := 137) rfl rfl ?_
    refine CC.seq ?_
    refine CC.region ?_
    refine LL.val (R.assign rfl rfl) rfl rfl rfl ?_
    refine LL.nilS ?_
    refine CC.seq ?_
    refine CC.seq ?_
    refine CC.region ?_
    refine LL.val (R.move rfl rfl) rfl rfl rfl ?_
    refine LL.val (R.len rfl rfl rfl rfl) rfl rfl rfl ?_
    refine LL.val (R.gtT rfl rfl rfl (by omega)) rfl rfl rfl ?_
    refine LL.val (R.move rfl rfl) rfl rfl rfl ?_
    refine LL.skip rfl rfl ?_
    refine LL.skip rfl rfl ?_
    refine LL.skip rfl rfl ?_
    refine LL.skip rfl rfl ?_
    refine LL.val (R.pick rfl rfl rfl) rfl rfl rfl ?_
    refine LL.val (R.move rfl rfl) rfl rfl rfl ?_
    refine LL.skip rfl rfl ?_
    refine LL.skip rfl rfl ?_
    refine LL.skip rfl rfl ?_
    refine LL.val (R.pick rfl rfl rfl) rfl rfl rfl ?_
    refine LL.val (R.move rfl rfl) rfl rfl rfl ?_
    refine LL.skip rfl rfl ?_
    refine LL.skip rfl rfl ?_
    refine LL.val (R.pick rfl rfl rfl) rfl rfl rfl ?_
    refine LL.val (R.move rfl rfl) rfl rfl rfl ?_
    refine LL.skip rfl rfl ?_
    refine LL.skip rfl rfl ?_
    refine LL.skip rfl rfl ?_
    refine LL.skip rfl rfl ?_
    refine LL.val (R.pick rfl rfl rfl) rfl rfl rfl ?_
    refine LL.nilS ?_
    refine CC.yes rfl ?_
    refine CC.seq ?_
    refine CC.region ?_
    refine LL.call (R.call rfl rfl rfl) rfl rfl rfl (works_any _) ?_
    rintro e W2 ⟨rfl, b1⟩
    refine ⟨_, rfl, ?_⟩
    have zb1 := b1.size
    replace q := q.trans (b1.mono q.size)
    refine LL.val (R.assign rfl rfl) rfl rfl rfl ?_
    refine LL.nilS ?_
    refine CC.ret ?_
    refine EE.thenR ?_
    refine EE.ret _ rfl rfl ?_
    exact ⟨rfl, q⟩
  by_cases h8 : 8 ≤ L ∧ L % 8 = 0
  case neg =>
    have hr : (L : Int) < 8 ∨ 131072 < (L : Int) ∨ (L : Int) % 8 ≠ 0 := by omega
    clear h8
    refine X.fn Try.func7 rfl (n := 137) rfl rfl ?_
    refine CC.seq ?_
    refine CC.region ?_
    refine LL.val (R.assign rfl rfl) rfl rfl rfl ?_
    refine LL.nilS ?_
    refine CC.seq ?_
    refine CC.seq ?_
    refine CC.region ?_
    refine LL.val (R.move rfl rfl) rfl rfl rfl ?_
    refine LL.val (R.len rfl rfl rfl rfl) rfl rfl rfl ?_
    refine LL.val (R.gtF rfl rfl rfl (by omega)) rfl rfl rfl ?_
    refine LL.val (R.move rfl rfl) rfl rfl rfl ?_
    refine LL.val (R.move rfl rfl) rfl rfl rfl ?_
    refine LL.val (R.len rfl rfl rfl rfl) rfl rfl rfl ?_
    refine LL.call (R.call rfl rfl rfl) rfl rfl rfl (right_F _ _ (by first | assumption | omega)) ?_
    rintro e W' ⟨rfl, rfl⟩
    refine ⟨_, rfl, ?_⟩
    refine LL.val (R.not rfl rfl) rfl rfl rfl ?_
    refine LL.val (R.pick rfl rfl rfl) rfl rfl rfl ?_
    refine LL.val (R.move rfl rfl) rfl rfl rfl ?_
    refine LL.skip rfl rfl ?_
    refine LL.skip rfl rfl ?_
    refine LL.skip rfl rfl ?_
    refine LL.val (R.pick rfl rfl rfl) rfl rfl rfl ?_
    refine LL.val (R.move rfl rfl) rfl rfl rfl ?_
    refine LL.skip rfl rfl ?_
    refine LL.skip rfl rfl ?_
    refine LL.val (R.pick rfl rfl rfl) rfl rfl rfl ?_
    refine LL.val (R.move rfl rfl) rfl rfl rfl ?_
    refine LL.skip rfl rfl ?_
    refine LL.skip rfl rfl ?_
    refine LL.skip rfl rfl ?_
    refine LL.skip rfl rfl ?_
    refine LL.val (R.pick rfl rfl rfl) rfl rfl rfl ?_
    refine LL.nilS ?_
    refine CC.yes rfl ?_
    refine CC.seq ?_
    refine CC.region ?_
    refine LL.call (R.call rfl rfl rfl) rfl rfl rfl (works_any _) ?_
    rintro e Wa2 ⟨rfl, ba1⟩
    refine ⟨_, rfl, ?_⟩
    have zba1 := ba1.size
    replace q := q.trans (ba1.mono q.size)
    refine LL.val (R.assign rfl rfl) rfl rfl rfl ?_
    refine LL.nilS ?_
    refine CC.ret ?_
    refine EE.thenR ?_
    refine EE.ret _ rfl rfl ?_
    exact ⟨rfl, q⟩
  obtain ⟨N, rfl⟩ : ∃ N, L = N * 8 := ⟨L / 8, by omega⟩
  have h0 : 0 < N := by omega
  have hN : N ≤ 16384 := by omega
  clear h8
  by_cases h60 : n ≤ 40
  case neg =>
    refine X.fn Try.func7 rfl (n := 137) rfl rfl ?_
    refine CC.seq ?_
    refine CC.region ?_
    refine LL.val (R.assign rfl rfl) rfl rfl rfl ?_
    refine LL.nilS ?_
    refine CC.seq ?_
    refine CC.seq ?_
    refine CC.region ?_
    refine LL.val (R.move rfl rfl) rfl rfl rfl ?_
    refine LL.val (R.len rfl rfl rfl rfl) rfl rfl rfl ?_
    refine LL.val (R.gtF rfl rfl rfl (by omega)) rfl rfl rfl ?_
    refine LL.val (R.move rfl rfl) rfl rfl rfl ?_
    refine LL.val (R.move rfl rfl) rfl rfl rfl ?_
    refine LL.val (R.len rfl rfl rfl rfl) rfl rfl rfl ?_
    refine LL.call (R.call rfl rfl rfl) rfl rfl rfl (right_T _ _ (by first | assumption | omega)) ?_
    rintro e W' ⟨rfl, rfl⟩
    refine ⟨_, rfl, ?_⟩
    refine LL.val (R.not rfl rfl) rfl rfl rfl ?_
    refine LL.val (R.pick rfl rfl rfl) rfl rfl rfl ?_
    refine LL.val (R.move rfl rfl) rfl rfl rfl ?_
    refine LL.val (R.move rfl rfl) rfl rfl rfl ?_
    refine LL.val (R.len rfl rfl rfl rfl) rfl rfl rfl ?_
    refine LL.val (R.gtT rfl rfl rfl (by omega)) rfl rfl rfl ?_
    refine LL.val (R.pick rfl rfl rfl) rfl rfl rfl ?_
    refine LL.val (R.move rfl rfl) rfl rfl rfl ?_
    refine LL.skip rfl rfl ?_
    refine LL.skip rfl rfl ?_
    refine LL.val (R.pick rfl rfl rfl) rfl rfl rfl ?_
    refine LL.val (R.move rfl rfl) rfl rfl rfl ?_
    refine LL.skip rfl rfl ?_
    refine LL.skip rfl rfl ?_
    refine LL.skip rfl rfl ?_
    refine LL.skip rfl rfl ?_
    refine LL.val (R.pick rfl rfl rfl) rfl rfl rfl ?_
    refine LL.nilS ?_
    refine CC.yes rfl ?_
    refine CC.seq ?_
    refine CC.region ?_
    refine LL.call (R.call rfl rfl rfl) rfl rfl rfl (works_any _) ?_
    rintro e Wb2 ⟨rfl, bb1⟩
    refine ⟨_, rfl, ?_⟩
    have zbb1 := bb1.size
    replace q := q.trans (bb1.mono q.size)
    refine LL.val (R.assign rfl rfl) rfl rfl rfl ?_
    refine LL.nilS ?_
    refine CC.ret ?_
    refine EE.thenR ?_
    refine EE.ret _ rfl rfl ?_
    exact ⟨rfl, q⟩
  by_cases hat : 0 ≤ at_ ∧ at_ < ((N * 8 : Nat) : Int)
  case neg =>
    have hat' : at_ < 0 ∨ ((N * 8 : Nat) : Int) ≤ at_ := by omega
    clear hat
    by_cases hng : at_ < 0
    · refine X.fn Try.func7 rfl (n := 137) rfl rfl ?_
      refine CC.seq ?_
      refine CC.region ?_
      refine LL.val (R.assign rfl rfl) rfl rfl rfl ?_
      refine LL.nilS ?_
      refine CC.seq ?_
      refine CC.seq ?_
      refine CC.region ?_
      refine LL.val (R.move rfl rfl) rfl rfl rfl ?_
      refine LL.val (R.len rfl rfl rfl rfl) rfl rfl rfl ?_
      refine LL.val (R.gtF rfl rfl rfl (by omega)) rfl rfl rfl ?_
      refine LL.val (R.move rfl rfl) rfl rfl rfl ?_
      refine LL.val (R.move rfl rfl) rfl rfl rfl ?_
      refine LL.val (R.len rfl rfl rfl rfl) rfl rfl rfl ?_
      refine LL.call (R.call rfl rfl rfl) rfl rfl rfl (right_T _ _ (by first | assumption | omega)) ?_
      rintro e W' ⟨rfl, rfl⟩
      refine ⟨_, rfl, ?_⟩
      refine LL.val (R.not rfl rfl) rfl rfl rfl ?_
      refine LL.val (R.pick rfl rfl rfl) rfl rfl rfl ?_
      refine LL.val (R.move rfl rfl) rfl rfl rfl ?_
      refine LL.val (R.move rfl rfl) rfl rfl rfl ?_
      refine LL.val (R.len rfl rfl rfl rfl) rfl rfl rfl ?_
      refine LL.val (R.gtF rfl rfl rfl (by omega)) rfl rfl rfl ?_
      refine LL.val (R.pick rfl rfl rfl) rfl rfl rfl ?_
      refine LL.val (R.move rfl rfl) rfl rfl rfl ?_
      refine LL.val (R.move rfl rfl) rfl rfl rfl ?_
      refine LL.val (R.ltT rfl rfl rfl (by omega)) rfl rfl rfl ?_
      refine LL.val (R.pick rfl rfl rfl) rfl rfl rfl ?_
      refine LL.val (R.move rfl rfl) rfl rfl rfl ?_
      refine LL.skip rfl rfl ?_
      refine LL.skip rfl rfl ?_
      refine LL.skip rfl rfl ?_
      refine LL.skip rfl rfl ?_
      refine LL.val (R.pick rfl rfl rfl) rfl rfl rfl ?_
      refine LL.nilS ?_
      refine CC.yes rfl ?_
      refine CC.seq ?_
      refine CC.region ?_
      refine LL.call (R.call rfl rfl rfl) rfl rfl rfl (works_any _) ?_
      rintro e Wc2 ⟨rfl, bc1⟩
      refine ⟨_, rfl, ?_⟩
      have zbc1 := bc1.size
      replace q := q.trans (bc1.mono q.size)
      refine LL.val (R.assign rfl rfl) rfl rfl rfl ?_
      refine LL.nilS ?_
      refine CC.ret ?_
      refine EE.thenR ?_
      refine EE.ret _ rfl rfl ?_
      exact ⟨rfl, q⟩
    · refine X.fn Try.func7 rfl (n := 137) rfl rfl ?_
      refine CC.seq ?_
      refine CC.region ?_
      refine LL.val (R.assign rfl rfl) rfl rfl rfl ?_
      refine LL.nilS ?_
      refine CC.seq ?_
      refine CC.seq ?_
      refine CC.region ?_
      refine LL.val (R.move rfl rfl) rfl rfl rfl ?_
      refine LL.val (R.len rfl rfl rfl rfl) rfl rfl rfl ?_
      refine LL.val (R.gtF rfl rfl rfl (by omega)) rfl rfl rfl ?_
      refine LL.val (R.move rfl rfl) rfl rfl rfl ?_
      refine LL.val (R.move rfl rfl) rfl rfl rfl ?_
      refine LL.val (R.len rfl rfl rfl rfl) rfl rfl rfl ?_
      refine LL.call (R.call rfl rfl rfl) rfl rfl rfl (right_T _ _ (by first | assumption | omega)) ?_
      rintro e W' ⟨rfl, rfl⟩
      refine ⟨_, rfl, ?_⟩
      refine LL.val (R.not rfl rfl) rfl rfl rfl ?_
      refine LL.val (R.pick rfl rfl rfl) rfl rfl rfl ?_
      refine LL.val (R.move rfl rfl) rfl rfl rfl ?_
      refine LL.val (R.move rfl rfl) rfl rfl rfl ?_
      refine LL.val (R.len rfl rfl rfl rfl) rfl rfl rfl ?_
      refine LL.val (R.gtF rfl rfl rfl (by omega)) rfl rfl rfl ?_
      refine LL.val (R.pick rfl rfl rfl) rfl rfl rfl ?_
      refine LL.val (R.move rfl rfl) rfl rfl rfl ?_
      refine LL.val (R.move rfl rfl) rfl rfl rfl ?_
      refine LL.val (R.ltF rfl rfl rfl (by omega)) rfl rfl rfl ?_
      refine LL.val (R.pick rfl rfl rfl) rfl rfl rfl ?_
      refine LL.val (R.move rfl rfl) rfl rfl rfl ?_
      refine LL.val (R.move rfl rfl) rfl rfl rfl ?_
      refine LL.val (R.move rfl rfl) rfl rfl rfl ?_
      refine LL.val (R.len rfl rfl rfl rfl) rfl rfl rfl ?_
      refine LL.val (R.geT rfl rfl rfl (by omega)) rfl rfl rfl ?_
      refine LL.val (R.pick rfl rfl rfl) rfl rfl rfl ?_
      refine LL.nilS ?_
      refine CC.yes rfl ?_
      refine CC.seq ?_
      refine CC.region ?_
      refine LL.call (R.call rfl rfl rfl) rfl rfl rfl (works_any _) ?_
      rintro e Wd2 ⟨rfl, bd1⟩
      refine ⟨_, rfl, ?_⟩
      have zbd1 := bd1.size
      replace q := q.trans (bd1.mono q.size)
      refine LL.val (R.assign rfl rfl) rfl rfl rfl ?_
      refine LL.nilS ?_
      refine CC.ret ?_
      refine EE.thenR ?_
      refine EE.ret _ rfl rfl ?_
      exact ⟨rfl, q⟩
  obtain ⟨j, rfl⟩ : ∃ j : Nat, at_ = (j : Int) := ⟨at_.toNat, by omega⟩
  refine X.fn Try.func7 rfl (n := 137) rfl rfl ?_
  refine CC.seq ?_
  refine CC.region ?_
  refine LL.val (R.assign rfl rfl) rfl rfl rfl ?_
  refine LL.nilS ?_
  refine CC.seq ?_
  refine CC.seq ?_
  refine CC.region ?_
  refine LL.val (R.move rfl rfl) rfl rfl rfl ?_
  refine LL.val (R.len rfl rfl rfl rfl) rfl rfl rfl ?_
  refine LL.val (R.gtF rfl rfl rfl (by omega)) rfl rfl rfl ?_
  refine LL.val (R.move rfl rfl) rfl rfl rfl ?_
  refine LL.val (R.move rfl rfl) rfl rfl rfl ?_
  refine LL.val (R.len rfl rfl rfl rfl) rfl rfl rfl ?_
  refine LL.call (R.call rfl rfl rfl) rfl rfl rfl (right_T _ _ (by first | assumption | omega)) ?_
  rintro e W' ⟨rfl, rfl⟩
  refine ⟨_, rfl, ?_⟩
  refine LL.val (R.not rfl rfl) rfl rfl rfl ?_
  refine LL.val (R.pick rfl rfl rfl) rfl rfl rfl ?_
  refine LL.val (R.move rfl rfl) rfl rfl rfl ?_
  refine LL.val (R.move rfl rfl) rfl rfl rfl ?_
  refine LL.val (R.len rfl rfl rfl rfl) rfl rfl rfl ?_
  refine LL.val (R.gtF rfl rfl rfl (by omega)) rfl rfl rfl ?_
  refine LL.val (R.pick rfl rfl rfl) rfl rfl rfl ?_
  refine LL.val (R.move rfl rfl) rfl rfl rfl ?_
  refine LL.val (R.move rfl rfl) rfl rfl rfl ?_
  refine LL.val (R.ltF rfl rfl rfl (by omega)) rfl rfl rfl ?_
  refine LL.val (R.pick rfl rfl rfl) rfl rfl rfl ?_
  refine LL.val (R.move rfl rfl) rfl rfl rfl ?_
  refine LL.val (R.move rfl rfl) rfl rfl rfl ?_
  refine LL.val (R.move rfl rfl) rfl rfl rfl ?_
  refine LL.val (R.len rfl rfl rfl rfl) rfl rfl rfl ?_
  refine LL.val (R.geF rfl rfl rfl (by omega)) rfl rfl rfl ?_
  refine LL.val (R.pick rfl rfl rfl) rfl rfl rfl ?_
  refine LL.nilS ?_
  refine CC.no rfl ?_
  refine CC.skip ?_
  refine EE.thenN ?_
  refine CC.seq ?_
  refine CC.region ?_
  refine LL.val (R.move rfl rfl) rfl rfl rfl ?_
  (refine LL.call (R.call rfl rfl rfl) rfl rfl rfl (of_T a0 (N * 8) c0 N ws _ (hvF _ q) rfl h0 hN) ?_; rintro e We368 ⟨m, gn, gl, qb, rfl, M, lm, ln, ll, lq, be365⟩; refine ⟨_, rfl, ?_⟩; have lts := M.lts)
  have zbe365 := be365.size
  replace q := q.trans (be365.mono q.size)
  refine LL.val (R.move rfl rfl) rfl rfl rfl ?_
  refine LL.val (R.extract rfl rfl rfl) rfl rfl rfl ?_
  refine LL.val (R.extract rfl rfl rfl) rfl rfl rfl ?_
  refine LL.val (R.assign rfl rfl) rfl rfl rfl ?_
  refine LL.val (R.assign rfl rfl) rfl rfl rfl ?_
  refine LL.nilS ?_
  refine CC.seq ?_
  refine CC.region ?_
  refine LL.val (R.move rfl rfl) rfl rfl rfl ?_
  (refine LL.call (R.call rfl rfl rfl) rfl rfl rfl (dof_any a0 (N * 8) c0 N ws _ (hvF _ q) rfl h0 hN) ?_; rintro e We466 ⟨g, cap, rfl, hd, lg, lg2, be463⟩; refine ⟨_, rfl, ?_⟩)
  have zbe463 := be463.size
  replace M := M.up be463
  replace be365 := be365.trans (be463.mono be365.size)
  replace q := q.trans (be463.mono q.size)
  refine LL.val (R.assign rfl rfl) rfl rfl rfl ?_
  refine LL.nilS ?_
  refine CC.seq ?_
  refine CC.seq ?_
  refine CC.region ?_
  refine LL.val (R.move rfl rfl) rfl rfl rfl ?_
  refine LL.call (R.call rfl rfl rfl) rfl rfl rfl (num_any _ _) ?_
  rintro e W' ⟨rfl, rfl⟩
  refine ⟨_, rfl, ?_⟩
  refine LL.val (R.neF rfl rfl rfl (by omega)) rfl rfl rfl ?_
  refine LL.nilS ?_
  refine CC.no rfl ?_
  refine CC.skip ?_
  refine EE.thenN ?_
  refine CC.seq ?_
  refine CC.seq ?_
  refine CC.region ?_
  refine LL.val (R.assign rfl rfl) rfl rfl rfl ?_
  refine LL.nilS ?_
  refine CC.block ?_
  have yq := q.size
  refine CC.loop (α := PSt) (fun t => [(0, .slice a0 (N * 8) c0), (1, .slice a1 n c1), (2, .int .i64 (j : Int)), (3, .int .u64 (vv : Int)), (9, .pointer (some ⟨t.m, 0, none⟩)), (11, .slice (some ⟨t.g, 0, none⟩) N t.cap), (12, .int .i64 (t.i : Int))]) (PSt.I w N n) (fun t => n - t.i) ⟨0, ofS N ws, g, cap, m, gn, gl, qb⟩ ⟨rfl, rfl, rfl, rfl, rfl, rfl, rfl, trivial⟩ ⟨by show 0 ≤ n; omega, q, M, hd, ⟨by show g ≠ gn; omega, by show g ≠ gl; omega, by show g ≠ qb; omega, by show g < _; omega⟩, lm, ln, ll, lq, by show w.heap.size ≤ g; omega⟩ ?_
  clear q M hd
  rintro ⟨i, s, g, cap, m, gn, gl, qb⟩ W ⟨hi, q, M, hd, hg, lm, ln, ll, lq, lg⟩
  simp only at hi M hd hg lm ln ll lq lg
  show CC none Try.prog _ 137 [] (sl [(0, .slice a0 (N * 8) c0), (1, .slice a1 n c1), (2, .int .i64 (j : Int)), (3, .int .u64 (vv : Int)), (9, .pointer (some ⟨m, 0, none⟩)), (11, .slice (some ⟨g, 0, none⟩) N cap), (12, .int .i64 (i : Int))]) _ W
  have yw := q.size
  by_cases hlt : i < n
  case pos =>
    obtain ⟨⟨a, b, v⟩, hget⟩ : ∃ x, xs[i]? = some x := ⟨_, List.getElem?_eq_getElem (by omega)⟩
    have hv0 := hx _ (List.mem_of_getElem? hget)
    simp only at hv0
    obtain ⟨v, rfl⟩ : ∃ v' : Nat, v = (v' : Int) := ⟨v.toNat, by omega⟩
    obtain ⟨bs, os, rfl, lbs, _⟩ := (hsF w (Below.refl _ _)).get actEnc hget
    have m1 : CellsN W ⟨bs, os + i * 3, none⟩ 3 [.int .i64 a, .int .i64 b, .int .u64 (v : Int)] := (hsF W q).elemN actEnc hget
    refine CC.seq ?_
    refine CC.seq ?_
    refine CC.region ?_
    refine LL.val (R.move rfl rfl) rfl rfl rfl ?_
    refine LL.val (R.move rfl rfl) rfl rfl rfl ?_
    refine LL.val (R.len rfl rfl rfl rfl) rfl rfl rfl ?_
    refine LL.val (R.ltT rfl rfl rfl (by omega)) rfl rfl rfl ?_
    refine LL.nilS ?_
    refine CC.yes rfl ?_
    refine CC.skip ?_
    refine EE.thenN ?_
    refine CC.seq ?_
    refine CC.block ?_
    refine CC.seq ?_
    refine CC.region ?_
    refine LL.val (R.move rfl rfl) rfl rfl rfl ?_
    refine LL.val (R.move rfl rfl) rfl rfl rfl ?_
    refine LL.val (R.move rfl rfl) rfl rfl rfl ?_
    refine LL.val (R.move rfl rfl) rfl rfl rfl ?_
    refine LL.val (R.index rfl rfl rfl (I.ixS rfl (by omega))) rfl rfl rfl ?_
    refine LL.val (R.load rfl rfl (I.ldM (by assumption) rfl rfl)) rfl rfl rfl ?_
    (refine LL.call (R.call rfl rfl rfl) rfl rfl rfl (act_any m gn gl qb N g cap _ b v _ M hd hg) ?_; rintro e Wf74 ⟨s2, g2, cap2, rfl, M2, hd2, hg2, hg3, tf73⟩; refine ⟨_, rfl, ?_⟩; have lts := M.lts; clear M hd m1; have M := M2; have hd := hd2; clear M2 hd2)
    have ztf73 := tf73.size
    replace q := tf73.onB q (fun j hj => ⟨by have := q.size; omega, by omega⟩)
    refine LL.val (R.move rfl rfl) rfl rfl rfl ?_
    refine LL.val (R.extract rfl rfl rfl) rfl rfl rfl ?_
    refine LL.val (R.extract rfl rfl rfl) rfl rfl rfl ?_
    refine LL.val (R.assign rfl rfl) rfl rfl rfl ?_
    refine LL.val (R.assign rfl rfl) rfl rfl rfl ?_
    refine LL.nilS ?_
    refine CC.seq ?_
    refine CC.region ?_
    refine LL.val (R.move rfl rfl) rfl rfl rfl ?_
    refine LL.val (R.assign rfl rfl) rfl rfl rfl ?_
    refine LL.nilS ?_
    refine CC.seq ?_
    refine CC.region ?_
    refine LL.val (R.move rfl rfl) rfl rfl rfl ?_
    refine LL.val (R.not rfl rfl) rfl rfl rfl ?_
    refine LL.nilS ?_
    refine CC.no rfl ?_
    refine CC.skip ?_
    refine EE.inN ?_
    refine EE.thenN ?_
    refine CC.region ?_
    refine LL.val (R.move rfl rfl) rfl rfl rfl ?_
    refine LL.val (R.addNc rfl rfl rfl rfl (by omega)) rfl rfl rfl ?_
    refine LL.val (R.assign rfl rfl) rfl rfl rfl ?_
    refine LL.nil ?_
    exact EE.round ⟨i + 1, s2, g2, cap2, m, gn, gl, qb⟩ ⟨rfl, rfl, rfl, rfl, rfl, rfl, rfl, trivial⟩ ⟨by show i + 1 ≤ n; omega, q, M, hd, ⟨by show g2 ≠ gn; omega, by show g2 ≠ gl; omega, by show g2 ≠ qb; omega, by show g2 < _; omega⟩, lm, ln, ll, lq, by show w.heap.size ≤ g2; omega⟩ (by show n - (i + 1) < n - i; omega)
  obtain rfl : i = n := by omega
  have hl := M.len
  obtain ⟨c, hc⟩ : ∃ c, s[j / 8]? = some c := ⟨_, List.getElem?_eq_getElem (by omega)⟩
  obtain ⟨y, hy⟩ : ∃ y, c.1.1[j % 8]? = some y := ⟨_, List.getElem?_eq_getElem (by rw [c.1.2]; omega)⟩
  have m1 : CellsN W ⟨g, 0 + j / 8 * 25, none⟩ 25 (cX c.1 c.2.1 (c.2.2.getD zL) c.2.2.isSome) := hd.elemN cEnc hc
  have cw := m1.xn.w8 hy
  clear m1
  obtain ⟨bs, hle1, hle2⟩ := line_eq (flC c) c
  by_cases hfe : flC c = c
  · have hS2 : decide (s.set (j / 8) (flC c) = s) = true := decide_eq_true ((set_eq_iff hc).2 hfe)
    by_cases hyv : y = vv
    · have hS1 : decide (s.set (j / 8) (wrC c (j % 8) vv) = s) = true := decide_eq_true ((set_eq_iff hc).2 ((wr_eq hy).2 hyv))
      refine CC.seq ?_
      refine CC.seq ?_
      refine CC.region ?_
      refine LL.val (R.move rfl rfl) rfl rfl rfl ?_
      refine LL.val (R.move rfl rfl) rfl rfl rfl ?_
      refine LL.val (R.len rfl rfl rfl rfl) rfl rfl rfl ?_
      refine LL.val (R.ltF rfl rfl rfl (by omega)) rfl rfl rfl ?_
      refine LL.nilS ?_
      refine CC.no rfl ?_
      refine CC.exit ?_
      refine EE.thenX ?_
      refine EE.thenX ?_
      refine EE.inX ?_
      refine EE.thenN ?_
      refine CC.seq ?_
      refine CC.region ?_
      refine LL.val (R.move rfl rfl) rfl rfl rfl ?_
      (refine LL.call (R.call rfl rfl rfl) rfl rfl rfl (copy_any _ m gn gl qb N M) ?_; rintro e Wg284 ⟨m3, gn3, gl3, qb3, rfl, M3, lm3, ln3, ll3, lq3, bg281⟩; refine ⟨_, rfl, ?_⟩; have lts := M.lts; have lts3 := M3.lts)
      have zbg281 := bg281.size
      replace q := q.trans (bg281.mono q.size)
      replace M := M.up bg281
      replace hd := hd.up bg281
      replace cw := cell_up cw bg281
      refine LL.val (R.assign rfl rfl) rfl rfl rfl ?_
      refine LL.nilS ?_
      refine CC.seq ?_
      refine CC.seq ?_
      refine CC.freeZ (fun W_ j => j < W_.heap.size ∧ (j ≠ gn3 ∧ j ≠ gl3 ∧ j ≠ qb3)) (by kernel_rfl) (by kernel_rfl) (fun Wg345 bg344 zg346 => ?_)
      replace M3 := M3.up bg344
      replace bg281 := bg281.trans (bg344.mono bg281.size)
      replace q := q.trans (bg344.mono q.size)
      replace M := M.up bg344
      replace hd := hd.up bg344
      replace cw := cell_up cw bg344
      have hok : Kept (fun j => j < Wg345.heap.size ∧ (j ≠ gn3 ∧ j ≠ gl3 ∧ j ≠ qb3)) Wg345 Wg345 := Kept.refl _ _
      have fzcw := fzCell (K := fun j => j < Wg345.heap.size ∧ (j ≠ gn3 ∧ j ≠ gl3 ∧ j ≠ qb3)) cw ⟨World.block_lt_of_cell? _ _ cw, (by first | trivial | omega)⟩
      refine AA.pure 0 rfl hok (by kernel_rfl) (fun w' b' => R.move rfl rfl) rfl rfl ?_
      refine AA.pure 1 rfl hok (by kernel_rfl) (fun w' b' => R.move rfl rfl) rfl rfl ?_
      refine AA.one 2 (by kernel_rfl) ?_
      (refine SR.call rfl (R.call rfl rfl rfl) rfl rfl (same_any m3 gn3 gl3 qb3 m gn gl qb N s s _ M3 M) ?_; rintro e Wg357 ⟨rfl, bg354⟩; refine ⟨_, rfl, ?_⟩; rw [decide_eq_true rfl])
      have zbg354 := bg354.size
      replace bg344 := bg344.trans (bg354.mono bg344.size)
      replace M3 := M3.up bg354
      replace bg281 := bg281.trans (bg354.mono bg281.size)
      replace q := q.trans (bg354.mono q.size)
      replace M := M.up bg354
      replace hd := hd.up bg354
      replace cw := cell_up cw bg354
      replace hok := hok.trans (bkept bg354 (fun j h => by have := h.1; have := hok.size; omega))
      have yg361 := hok.size
      refine ⟨hok, ?_⟩
      refine AA.pure 3 rfl hok (by kernel_rfl) (fun w' b' => R.not rfl rfl) rfl rfl ?_
      refine AA.pure 4 rfl hok (by kernel_rfl) (fun w' b' => R.move rfl rfl) rfl rfl ?_
      refine AA.pure 5 rfl hok (by kernel_rfl) (fun w' b' => R.move rfl rfl) rfl rfl ?_
      refine AA.pure 6 rfl hok (by kernel_rfl) (fun w' b' => R.move rfl rfl) rfl rfl ?_
      refine AA.pure 7 rfl hok (by kernel_rfl) (fun w' b' => R.move rfl rfl) rfl rfl ?_
      refine AA.one 8 (by kernel_rfl) ?_
      (refine SR.call rfl (R.call rfl rfl rfl) rfl rfl (store_T _ m3 gn3 gl3 qb3 N j vv M3 hc) ?_; rintro e Wg379 ⟨rfl, M5, tg378⟩; refine ⟨_, rfl, ?_⟩; replace hok := hok.trans ((tg378).less fun j hj => ⟨by have := hj.1; have := hok.size; omega, hj.2⟩); replace M := M.kept tg378 (by omega) (by omega) (by omega) (by omega); replace hd := hd.kp tg378 (by omega); clear M3)
      have ztg378 := tg378.size
      replace bg281 := tg378.onB bg281 (fun j hj => ⟨by have := bg281.size; omega, by omega⟩)
      replace q := tg378.onB q (fun j hj => ⟨by have := q.size; omega, by omega⟩)
      replace cw := cell_kept cw tg378 ⟨World.block_lt_of_cell? _ _ cw, by omega⟩
      refine ⟨hok, ?_⟩
      refine AA.pureC 9 rfl hok (by kernel_rfl) (fun w' => (R.call rfl rfl rfl)) (fun w' b' => num_any _ w') rfl rfl ?_
      refine AA.pure 10 rfl hok (by kernel_rfl) (fun w' b' => R.neF rfl rfl rfl (by omega)) rfl rfl ?_
      refine AA.pure 11 rfl hok (by kernel_rfl) (fun w' b' => R.pick rfl rfl rfl) rfl rfl ?_
      refine AA.pure 12 rfl hok (by kernel_rfl) (fun w' b' => R.move rfl rfl) rfl rfl ?_
      refine AA.pure 13 rfl hok (by kernel_rfl) (fun w' b' => R.move rfl rfl) rfl rfl ?_
      refine AA.pure 14 rfl hok (by kernel_rfl) (fun w' b' => R.move rfl rfl) rfl rfl ?_
      refine AA.pure 16 rfl hok (by kernel_rfl) (fun w' b' => R.move rfl rfl) rfl rfl ?_
      refine AA.pure 17 rfl hok (by kernel_rfl) (fun w' b' => R.move rfl rfl) rfl rfl ?_
      refine AA.pure 18 rfl hok (by kernel_rfl) (fun w' b' => R.quoNc rfl rfl rfl rfl (by omega) (by omega)) rfl rfl ?_
      refine AA.pure 19 rfl hok (by kernel_rfl) (fun w' b' => R.move rfl rfl) rfl rfl ?_
      refine AA.pure 20 rfl hok (by kernel_rfl) (fun w' b' => R.remNc rfl rfl rfl rfl (by omega)) rfl rfl ?_
      refine AA.pure 21 rfl hok (by kernel_rfl) (fun w' b' => R.index rfl rfl rfl (I.ixS rfl (by omega))) rfl rfl ?_
      refine AA.pure 22 rfl hok (by kernel_rfl) (fun w' b' => R.field rfl rfl (I.fld rfl)) rfl rfl ?_
      refine AA.pure 23 rfl hok (by kernel_rfl) (fun w' b' => R.index rfl rfl rfl (I.ixA1 rfl (by omega))) rfl rfl ?_
      refine AA.pure 24 rfl hok (by kernel_rfl) (fun w' b' => R.load rfl rfl (I.ld1 rfl (fzcw w' b'))) rfl rfl ?_
      refine AA.pure 25 rfl hok (by kernel_rfl) (fun w' b' => R.move rfl rfl) rfl rfl ?_
      refine AA.pure 26 rfl hok (by kernel_rfl) (fun w' b' => R.eqT rfl rfl rfl (by omega)) rfl rfl ?_
      refine AA.one 15 (by kernel_rfl) ?_
      (refine SR.call rfl (R.call rfl rfl rfl) rfl rfl (same_any m3 gn3 gl3 qb3 m gn gl qb N _ s _ M5 M) ?_; rintro e Wg407 ⟨rfl, bg404⟩; refine ⟨_, rfl, ?_⟩; rw [hS1]; clear M5 cw)
      have zbg404 := bg404.size
      replace hok := hok.trans (bkept bg404 (fun j h => by have := h.1; have := hok.size; omega))
      have yg411 := hok.size
      replace M := M.up bg404
      replace hd := hd.up bg404
      replace bg281 := bg281.trans (bg404.mono bg281.size)
      replace q := q.trans (bg404.mono q.size)
      refine ⟨hok, ?_⟩
      refine AA.pure 27 rfl hok (by kernel_rfl) (fun w' b' => R.neBool rfl rfl rfl rfl rfl) rfl rfl ?_
      refine AA.pure 28 rfl hok (by kernel_rfl) (fun w' b' => R.pick rfl rfl rfl) rfl rfl ?_
      refine AA.pure 29 rfl hok (by kernel_rfl) (fun w' b' => R.move rfl rfl) rfl rfl ?_
      refine AA.pure 30 rfl hok (by kernel_rfl) (fun w' b' => R.move rfl rfl) rfl rfl ?_
      refine AA.pure 31 rfl hok (by kernel_rfl) (fun w' b' => R.move rfl rfl) rfl rfl ?_
      refine AA.one 32 (by kernel_rfl) ?_
      (refine SR.call rfl (R.call rfl rfl rfl) rfl rfl (is_any m gn gl qb N g cap _ M hd) ?_; rintro e Wg450 ⟨rfl, bg447⟩; refine ⟨_, rfl, ?_⟩)
      have zbg447 := bg447.size
      replace bg404 := bg404.trans (bg447.mono bg404.size)
      replace hok := hok.trans (bkept bg447 (fun j h => by have := h.1; have := hok.size; omega))
      have yg454 := hok.size
      replace M := M.up bg447
      replace hd := hd.up bg447
      replace bg281 := bg281.trans (bg447.mono bg281.size)
      replace q := q.trans (bg447.mono q.size)
      refine ⟨hok, ?_⟩
      refine AA.pure 33 rfl hok (by kernel_rfl) (fun w' b' => R.not rfl rfl) rfl rfl ?_
      refine AA.pure 34 rfl hok (by kernel_rfl) (fun w' b' => R.pick rfl rfl rfl) rfl rfl ?_
      refine AA.done rfl ?_
      clear fzcw hok
      refine EE.thenN ?_
      refine CC.no rfl ?_
      refine CC.skip ?_
      refine EE.thenN ?_
      refine CC.seq ?_
      refine CC.region ?_
      refine LL.val (R.move rfl rfl) rfl rfl rfl ?_
      (refine LL.call (R.call rfl rfl rfl) rfl rfl rfl (copy_any _ m gn gl qb N M) ?_; rintro e Wg514 ⟨m3, gn3, gl3, qb3, rfl, M3, lm3, ln3, ll3, lq3, bg511⟩; refine ⟨_, rfl, ?_⟩; have lts := M.lts; have lts3 := M3.lts)
      have zbg511 := bg511.size
      replace bg447 := bg447.trans (bg511.mono bg447.size)
      replace bg404 := bg404.trans (bg511.mono bg404.size)
      replace M := M.up bg511
      replace hd := hd.up bg511
      replace bg281 := bg281.trans (bg511.mono bg281.size)
      replace q := q.trans (bg511.mono q.size)
      refine LL.val (R.assign rfl rfl) rfl rfl rfl ?_
      refine LL.nilS ?_
      refine CC.seq ?_
      refine CC.region ?_
      refine LL.val (R.move rfl rfl) rfl rfl rfl ?_
      refine LL.val (R.move rfl rfl) rfl rfl rfl ?_
      refine LL.val (R.quoNc rfl rfl rfl rfl (by omega) (by omega)) rfl rfl rfl ?_
      (refine LL.call (R.call rfl rfl rfl) rfl rfl rfl (flush_T _ m3 gn3 gl3 qb3 N (j / 8) M3 hc) ?_; rintro e Wg787 ⟨rfl, M6, tg786⟩; refine ⟨_, rfl, ?_⟩; replace M := M.kept tg786 (by omega) (by omega) (by omega) (by omega); replace hd := hd.kp tg786 (by omega); clear M3)
      have ztg786 := tg786.size
      replace bg511 := tg786.onB bg511 (fun j hj => ⟨by have := bg511.size; omega, by omega⟩)
      replace bg447 := tg786.onB bg447 (fun j hj => ⟨by have := bg447.size; omega, by omega⟩)
      replace bg404 := tg786.onB bg404 (fun j hj => ⟨by have := bg404.size; omega, by omega⟩)
      replace bg281 := tg786.onB bg281 (fun j hj => ⟨by have := bg281.size; omega, by omega⟩)
      replace q := tg786.onB q (fun j hj => ⟨by have := q.size; omega, by omega⟩)
      refine LL.nilS ?_
      refine CC.seq ?_
      refine CC.region ?_
      refine LL.val (R.move rfl rfl) rfl rfl rfl ?_
      refine LL.val (R.move rfl rfl) rfl rfl rfl ?_
      refine LL.val (R.quoNc rfl rfl rfl rfl (by omega) (by omega)) rfl rfl rfl ?_
      (refine LL.call (R.call rfl rfl rfl) rfl rfl rfl (dflush_any s g N cap (j / 8) c _ hd hl hN hc) ?_; rintro e Wg1011 ⟨g2, cap2, rfl, hd2, lg2, lg3, bg1008⟩; refine ⟨_, rfl, ?_⟩; have m1 : CellsN _ ⟨g, 0 + j / 8 * 25, none⟩ 25 (cE c) := hd.elemN cEnc hc; have m2 : CellsN _ ⟨g2, 0 + j / 8 * 25, none⟩ 25 (cE (flC c)) := hd2.elemN cEnc (List.getElem?_set_self (by omega)); have lg5 : g < (Wg1011).heap.size := by omega)
      have zbg1008 := bg1008.size
      replace M6 := M6.up bg1008
      replace M := M.up bg1008
      replace hd := hd.up bg1008
      replace bg511 := bg511.trans (bg1008.mono bg511.size)
      replace bg447 := bg447.trans (bg1008.mono bg447.size)
      replace bg404 := bg404.trans (bg1008.mono bg404.size)
      replace bg281 := bg281.trans (bg1008.mono bg281.size)
      replace q := q.trans (bg1008.mono q.size)
      replace m1 := m1.up bg1008
      refine LL.val (R.assign rfl rfl) rfl rfl rfl ?_
      refine LL.nilS ?_
      refine CC.seq ?_
      refine CC.freeZ (fun W_ j => j < W_.heap.size ∧ (j ≠ gn3 ∧ j ≠ gl3 ∧ j ≠ qb3)) (by kernel_rfl) (by kernel_rfl) (fun Wg1072 bg1071 zg1073 => ?_)
      replace hd2 := hd2.up bg1071
      replace bg1008 := bg1008.trans (bg1071.mono bg1008.size)
      replace m2 := m2.up bg1071
      replace M6 := M6.up bg1071
      replace M := M.up bg1071
      replace hd := hd.up bg1071
      replace bg511 := bg511.trans (bg1071.mono bg511.size)
      replace bg447 := bg447.trans (bg1071.mono bg447.size)
      replace bg404 := bg404.trans (bg1071.mono bg404.size)
      replace bg281 := bg281.trans (bg1071.mono bg281.size)
      replace q := q.trans (bg1071.mono q.size)
      replace m1 := m1.up bg1071
      have hok : Kept (fun j => j < Wg1072.heap.size ∧ (j ≠ gn3 ∧ j ≠ gl3 ∧ j ≠ qb3)) Wg1072 Wg1072 := Kept.refl _ _
      refine AA.pure 0 rfl hok (by kernel_rfl) (fun w' b' => R.move rfl rfl) rfl rfl ?_
      refine AA.pure 1 rfl hok (by kernel_rfl) (fun w' b' => R.move rfl rfl) rfl rfl ?_
      refine AA.pure 3 rfl hok (by kernel_rfl) (fun w' b' => R.move rfl rfl) rfl rfl ?_
      refine AA.pure 4 rfl hok (by kernel_rfl) (fun w' b' => R.move rfl rfl) rfl rfl ?_
      refine AA.pure 5 rfl hok (by kernel_rfl) (fun w' b' => R.quoNc rfl rfl rfl rfl (by omega) (by omega)) rfl rfl ?_
      refine AA.pure 6 rfl hok (by kernel_rfl) (fun w' b' => R.index rfl rfl rfl (I.ixS rfl (by omega))) rfl rfl ?_
      refine AA.pure 7 rfl hok (by kernel_rfl) (fun w' b' => R.load rfl rfl (I.ldM (m2.kept b' (by omega)) rfl rfl)) rfl rfl ?_
      refine AA.pure 8 rfl hok (by kernel_rfl) (fun w' b' => R.move rfl rfl) rfl rfl ?_
      refine AA.pure 9 rfl hok (by kernel_rfl) (fun w' b' => R.move rfl rfl) rfl rfl ?_
      refine AA.pure 10 rfl hok (by kernel_rfl) (fun w' b' => R.quoNc rfl rfl rfl rfl (by omega) (by omega)) rfl rfl ?_
      refine AA.pure 11 rfl hok (by kernel_rfl) (fun w' b' => R.index rfl rfl rfl (I.ixS rfl (by omega))) rfl rfl ?_
      refine AA.pure 12 rfl hok (by kernel_rfl) (fun w' b' => R.load rfl rfl (I.ldM (m1.kept b' (by omega)) rfl rfl)) rfl rfl ?_
      refine AA.pure 13 rfl hok (by kernel_rfl) (fun w' b' => R.eqST rfl rfl rfl rfl (by kernel_rfl) hle1 hle2 hfe) rfl rfl ?_
      refine AA.one 2 (by kernel_rfl) ?_
      (refine SR.call rfl (R.call rfl rfl rfl) rfl rfl (same_any m3 gn3 gl3 qb3 m gn gl qb N _ s _ M6 M) ?_; rintro e Wg1105 ⟨rfl, bg1102⟩; refine ⟨_, rfl, ?_⟩; rw [hS2])
      have zbg1102 := bg1102.size
      replace bg1071 := bg1071.trans (bg1102.mono bg1071.size)
      replace hd2 := hd2.up bg1102
      replace bg1008 := bg1008.trans (bg1102.mono bg1008.size)
      replace m2 := m2.up bg1102
      replace M6 := M6.up bg1102
      replace M := M.up bg1102
      replace hd := hd.up bg1102
      replace bg511 := bg511.trans (bg1102.mono bg511.size)
      replace bg447 := bg447.trans (bg1102.mono bg447.size)
      replace bg404 := bg404.trans (bg1102.mono bg404.size)
      replace bg281 := bg281.trans (bg1102.mono bg281.size)
      replace q := q.trans (bg1102.mono q.size)
      replace m1 := m1.up bg1102
      replace hok := hok.trans (bkept bg1102 (fun j h => by have := h.1; have := hok.size; omega))
      have yg1109 := hok.size
      refine ⟨hok, ?_⟩
      refine AA.pure 14 rfl hok (by kernel_rfl) (fun w' b' => R.eqBool rfl rfl rfl rfl rfl) rfl rfl ?_
      refine AA.pure 15 rfl hok (by kernel_rfl) (fun w' b' => R.move rfl rfl) rfl rfl ?_
      refine AA.one 16 (by kernel_rfl) ?_
      refine SR.call rfl (R.call rfl rfl rfl) rfl rfl (works_any _) ?_
      rintro e Wg1167 ⟨rfl, bg1166⟩
      have zbg1166 := bg1166.size
      replace bg1102 := bg1102.trans (bg1166.mono bg1102.size)
      replace bg1071 := bg1071.trans (bg1166.mono bg1071.size)
      replace hd2 := hd2.up bg1166
      replace bg1008 := bg1008.trans (bg1166.mono bg1008.size)
      replace m2 := m2.up bg1166
      replace M6 := M6.up bg1166
      replace M := M.up bg1166
      replace hd := hd.up bg1166
      replace bg511 := bg511.trans (bg1166.mono bg511.size)
      replace bg447 := bg447.trans (bg1166.mono bg447.size)
      replace bg404 := bg404.trans (bg1166.mono bg404.size)
      replace bg281 := bg281.trans (bg1166.mono bg281.size)
      replace q := q.trans (bg1166.mono q.size)
      replace m1 := m1.up bg1166
      replace hok := hok.trans (bkept bg1166 (fun j h => by have := h.1; have := hok.size; omega))
      have yg1168 := hok.size
      refine ⟨_, rfl, hok, ?_⟩
      refine AA.pure 17 rfl hok (by kernel_rfl) (fun w' b' => R.pick rfl rfl rfl) rfl rfl ?_
      refine AA.pure 18 rfl hok (by kernel_rfl) (fun w' b' => R.assign rfl rfl) rfl rfl ?_
      refine AA.done rfl ?_
      clear hok
      refine EE.thenN ?_
      refine CC.ret ?_
      refine EE.ret _ rfl rfl ?_
      exact ⟨rfl, q⟩
    · have hS1 : decide (s.set (j / 8) (wrC c (j % 8) vv) = s) = false := decide_eq_false fun e => hyv ((wr_eq hy).1 ((set_eq_iff hc).1 e))
      refine CC.seq ?_
      refine CC.seq ?_
      refine CC.region ?_
      refine LL.val (R.move rfl rfl) rfl rfl rfl ?_
      refine LL.val (R.move rfl rfl) rfl rfl rfl ?_
      refine LL.val (R.len rfl rfl rfl rfl) rfl rfl rfl ?_
      refine LL.val (R.ltF rfl rfl rfl (by omega)) rfl rfl rfl ?_
      refine LL.nilS ?_
      refine CC.no rfl ?_
      refine CC.exit ?_
      refine EE.thenX ?_
      refine EE.thenX ?_
      refine EE.inX ?_
      refine EE.thenN ?_
      refine CC.seq ?_
      refine CC.region ?_
      refine LL.val (R.move rfl rfl) rfl rfl rfl ?_
      (refine LL.call (R.call rfl rfl rfl) rfl rfl rfl (copy_any _ m gn gl qb N M) ?_; rintro e Wh284 ⟨m3, gn3, gl3, qb3, rfl, M3, lm3, ln3, ll3, lq3, bh281⟩; refine ⟨_, rfl, ?_⟩; have lts := M.lts; have lts3 := M3.lts)
      have zbh281 := bh281.size
      replace q := q.trans (bh281.mono q.size)
      replace M := M.up bh281
      replace hd := hd.up bh281
      replace cw := cell_up cw bh281
      refine LL.val (R.assign rfl rfl) rfl rfl rfl ?_
      refine LL.nilS ?_
      refine CC.seq ?_
      refine CC.seq ?_
      refine CC.freeZ (fun W_ j => j < W_.heap.size ∧ (j ≠ gn3 ∧ j ≠ gl3 ∧ j ≠ qb3)) (by kernel_rfl) (by kernel_rfl) (fun Wh345 bh344 zh346 => ?_)
      replace M3 := M3.up bh344
      replace bh281 := bh281.trans (bh344.mono bh281.size)
      replace q := q.trans (bh344.mono q.size)
      replace M := M.up bh344
      replace hd := hd.up bh344
      replace cw := cell_up cw bh344
      have hok : Kept (fun j => j < Wh345.heap.size ∧ (j ≠ gn3 ∧ j ≠ gl3 ∧ j ≠ qb3)) Wh345 Wh345 := Kept.refl _ _
      have fzcw := fzCell (K := fun j => j < Wh345.heap.size ∧ (j ≠ gn3 ∧ j ≠ gl3 ∧ j ≠ qb3)) cw ⟨World.block_lt_of_cell? _ _ cw, (by first | trivial | omega)⟩
      refine AA.pure 0 rfl hok (by kernel_rfl) (fun w' b' => R.move rfl rfl) rfl rfl ?_
      refine AA.pure 1 rfl hok (by kernel_rfl) (fun w' b' => R.move rfl rfl) rfl rfl ?_
      refine AA.one 2 (by kernel_rfl) ?_
      (refine SR.call rfl (R.call rfl rfl rfl) rfl rfl (same_any m3 gn3 gl3 qb3 m gn gl qb N s s _ M3 M) ?_; rintro e Wh357 ⟨rfl, bh354⟩; refine ⟨_, rfl, ?_⟩; rw [decide_eq_true rfl])
      have zbh354 := bh354.size
      replace bh344 := bh344.trans (bh354.mono bh344.size)
      replace M3 := M3.up bh354
      replace bh281 := bh281.trans (bh354.mono bh281.size)
      replace q := q.trans (bh354.mono q.size)
      replace M := M.up bh354
      replace hd := hd.up bh354
      replace cw := cell_up cw bh354
      replace hok := hok.trans (bkept bh354 (fun j h => by have := h.1; have := hok.size; omega))
      have yh361 := hok.size
      refine ⟨hok, ?_⟩
      refine AA.pure 3 rfl hok (by kernel_rfl) (fun w' b' => R.not rfl rfl) rfl rfl ?_
      refine AA.pure 4 rfl hok (by kernel_rfl) (fun w' b' => R.move rfl rfl) rfl rfl ?_
      refine AA.pure 5 rfl hok (by kernel_rfl) (fun w' b' => R.move rfl rfl) rfl rfl ?_
      refine AA.pure 6 rfl hok (by kernel_rfl) (fun w' b' => R.move rfl rfl) rfl rfl ?_
      refine AA.pure 7 rfl hok (by kernel_rfl) (fun w' b' => R.move rfl rfl) rfl rfl ?_
      refine AA.one 8 (by kernel_rfl) ?_
      (refine SR.call rfl (R.call rfl rfl rfl) rfl rfl (store_T _ m3 gn3 gl3 qb3 N j vv M3 hc) ?_; rintro e Wh379 ⟨rfl, M5, th378⟩; refine ⟨_, rfl, ?_⟩; replace hok := hok.trans ((th378).less fun j hj => ⟨by have := hj.1; have := hok.size; omega, hj.2⟩); replace M := M.kept th378 (by omega) (by omega) (by omega) (by omega); replace hd := hd.kp th378 (by omega); clear M3)
      have zth378 := th378.size
      replace bh281 := th378.onB bh281 (fun j hj => ⟨by have := bh281.size; omega, by omega⟩)
      replace q := th378.onB q (fun j hj => ⟨by have := q.size; omega, by omega⟩)
      replace cw := cell_kept cw th378 ⟨World.block_lt_of_cell? _ _ cw, by omega⟩
      refine ⟨hok, ?_⟩
      refine AA.pureC 9 rfl hok (by kernel_rfl) (fun w' => (R.call rfl rfl rfl)) (fun w' b' => num_any _ w') rfl rfl ?_
      refine AA.pure 10 rfl hok (by kernel_rfl) (fun w' b' => R.neF rfl rfl rfl (by omega)) rfl rfl ?_
      refine AA.pure 11 rfl hok (by kernel_rfl) (fun w' b' => R.pick rfl rfl rfl) rfl rfl ?_
      refine AA.pure 12 rfl hok (by kernel_rfl) (fun w' b' => R.move rfl rfl) rfl rfl ?_
      refine AA.pure 13 rfl hok (by kernel_rfl) (fun w' b' => R.move rfl rfl) rfl rfl ?_
      refine AA.pure 14 rfl hok (by kernel_rfl) (fun w' b' => R.move rfl rfl) rfl rfl ?_
      refine AA.pure 16 rfl hok (by kernel_rfl) (fun w' b' => R.move rfl rfl) rfl rfl ?_
      refine AA.pure 17 rfl hok (by kernel_rfl) (fun w' b' => R.move rfl rfl) rfl rfl ?_
      refine AA.pure 18 rfl hok (by kernel_rfl) (fun w' b' => R.quoNc rfl rfl rfl rfl (by omega) (by omega)) rfl rfl ?_
      refine AA.pure 19 rfl hok (by kernel_rfl) (fun w' b' => R.move rfl rfl) rfl rfl ?_
      refine AA.pure 20 rfl hok (by kernel_rfl) (fun w' b' => R.remNc rfl rfl rfl rfl (by omega)) rfl rfl ?_
      refine AA.pure 21 rfl hok (by kernel_rfl) (fun w' b' => R.index rfl rfl rfl (I.ixS rfl (by omega))) rfl rfl ?_
      refine AA.pure 22 rfl hok (by kernel_rfl) (fun w' b' => R.field rfl rfl (I.fld rfl)) rfl rfl ?_
      refine AA.pure 23 rfl hok (by kernel_rfl) (fun w' b' => R.index rfl rfl rfl (I.ixA1 rfl (by omega))) rfl rfl ?_
      refine AA.pure 24 rfl hok (by kernel_rfl) (fun w' b' => R.load rfl rfl (I.ld1 rfl (fzcw w' b'))) rfl rfl ?_
      refine AA.pure 25 rfl hok (by kernel_rfl) (fun w' b' => R.move rfl rfl) rfl rfl ?_
      refine AA.pure 26 rfl hok (by kernel_rfl) (fun w' b' => R.eqF rfl rfl rfl (by omega)) rfl rfl ?_
      refine AA.one 15 (by kernel_rfl) ?_
      (refine SR.call rfl (R.call rfl rfl rfl) rfl rfl (same_any m3 gn3 gl3 qb3 m gn gl qb N _ s _ M5 M) ?_; rintro e Wh407 ⟨rfl, bh404⟩; refine ⟨_, rfl, ?_⟩; rw [hS1]; clear M5 cw)
      have zbh404 := bh404.size
      replace hok := hok.trans (bkept bh404 (fun j h => by have := h.1; have := hok.size; omega))
      have yh411 := hok.size
      replace M := M.up bh404
      replace hd := hd.up bh404
      replace bh281 := bh281.trans (bh404.mono bh281.size)
      replace q := q.trans (bh404.mono q.size)
      refine ⟨hok, ?_⟩
      refine AA.pure 27 rfl hok (by kernel_rfl) (fun w' b' => R.neBool rfl rfl rfl rfl rfl) rfl rfl ?_
      refine AA.pure 28 rfl hok (by kernel_rfl) (fun w' b' => R.pick rfl rfl rfl) rfl rfl ?_
      refine AA.pure 29 rfl hok (by kernel_rfl) (fun w' b' => R.move rfl rfl) rfl rfl ?_
      refine AA.pure 30 rfl hok (by kernel_rfl) (fun w' b' => R.move rfl rfl) rfl rfl ?_
      refine AA.pure 31 rfl hok (by kernel_rfl) (fun w' b' => R.move rfl rfl) rfl rfl ?_
      refine AA.one 32 (by kernel_rfl) ?_
      (refine SR.call rfl (R.call rfl rfl rfl) rfl rfl (is_any m gn gl qb N g cap _ M hd) ?_; rintro e Wh450 ⟨rfl, bh447⟩; refine ⟨_, rfl, ?_⟩)
      have zbh447 := bh447.size
      replace bh404 := bh404.trans (bh447.mono bh404.size)
      replace hok := hok.trans (bkept bh447 (fun j h => by have := h.1; have := hok.size; omega))
      have yh454 := hok.size
      replace M := M.up bh447
      replace hd := hd.up bh447
      replace bh281 := bh281.trans (bh447.mono bh281.size)
      replace q := q.trans (bh447.mono q.size)
      refine ⟨hok, ?_⟩
      refine AA.pure 33 rfl hok (by kernel_rfl) (fun w' b' => R.not rfl rfl) rfl rfl ?_
      refine AA.pure 34 rfl hok (by kernel_rfl) (fun w' b' => R.pick rfl rfl rfl) rfl rfl ?_
      refine AA.done rfl ?_
      clear fzcw hok
      refine EE.thenN ?_
      refine CC.no rfl ?_
      refine CC.skip ?_
      refine EE.thenN ?_
      refine CC.seq ?_
      refine CC.region ?_
      refine LL.val (R.move rfl rfl) rfl rfl rfl ?_
      (refine LL.call (R.call rfl rfl rfl) rfl rfl rfl (copy_any _ m gn gl qb N M) ?_; rintro e Wh514 ⟨m3, gn3, gl3, qb3, rfl, M3, lm3, ln3, ll3, lq3, bh511⟩; refine ⟨_, rfl, ?_⟩; have lts := M.lts; have lts3 := M3.lts)
      have zbh511 := bh511.size
      replace bh447 := bh447.trans (bh511.mono bh447.size)
      replace bh404 := bh404.trans (bh511.mono bh404.size)
      replace M := M.up bh511
      replace hd := hd.up bh511
      replace bh281 := bh281.trans (bh511.mono bh281.size)
      replace q := q.trans (bh511.mono q.size)
      refine LL.val (R.assign rfl rfl) rfl rfl rfl ?_
      refine LL.nilS ?_
      refine CC.seq ?_
      refine CC.region ?_
      refine LL.val (R.move rfl rfl) rfl rfl rfl ?_
      refine LL.val (R.move rfl rfl) rfl rfl rfl ?_
      refine LL.val (R.quoNc rfl rfl rfl rfl (by omega) (by omega)) rfl rfl rfl ?_
      (refine LL.call (R.call rfl rfl rfl) rfl rfl rfl (flush_T _ m3 gn3 gl3 qb3 N (j / 8) M3 hc) ?_; rintro e Wh787 ⟨rfl, M6, th786⟩; refine ⟨_, rfl, ?_⟩; replace M := M.kept th786 (by omega) (by omega) (by omega) (by omega); replace hd := hd.kp th786 (by omega); clear M3)
      have zth786 := th786.size
      replace bh511 := th786.onB bh511 (fun j hj => ⟨by have := bh511.size; omega, by omega⟩)
      replace bh447 := th786.onB bh447 (fun j hj => ⟨by have := bh447.size; omega, by omega⟩)
      replace bh404 := th786.onB bh404 (fun j hj => ⟨by have := bh404.size; omega, by omega⟩)
      replace bh281 := th786.onB bh281 (fun j hj => ⟨by have := bh281.size; omega, by omega⟩)
      replace q := th786.onB q (fun j hj => ⟨by have := q.size; omega, by omega⟩)
      refine LL.nilS ?_
      refine CC.seq ?_
      refine CC.region ?_
      refine LL.val (R.move rfl rfl) rfl rfl rfl ?_
      refine LL.val (R.move rfl rfl) rfl rfl rfl ?_
      refine LL.val (R.quoNc rfl rfl rfl rfl (by omega) (by omega)) rfl rfl rfl ?_
      (refine LL.call (R.call rfl rfl rfl) rfl rfl rfl (dflush_any s g N cap (j / 8) c _ hd hl hN hc) ?_; rintro e Wh1011 ⟨g2, cap2, rfl, hd2, lg2, lg3, bh1008⟩; refine ⟨_, rfl, ?_⟩; have m1 : CellsN _ ⟨g, 0 + j / 8 * 25, none⟩ 25 (cE c) := hd.elemN cEnc hc; have m2 : CellsN _ ⟨g2, 0 + j / 8 * 25, none⟩ 25 (cE (flC c)) := hd2.elemN cEnc (List.getElem?_set_self (by omega)); have lg5 : g < (Wh1011).heap.size := by omega)
      have zbh1008 := bh1008.size
      replace M6 := M6.up bh1008
      replace M := M.up bh1008
      replace hd := hd.up bh1008
      replace bh511 := bh511.trans (bh1008.mono bh511.size)
      replace bh447 := bh447.trans (bh1008.mono bh447.size)
      replace bh404 := bh404.trans (bh1008.mono bh404.size)
      replace bh281 := bh281.trans (bh1008.mono bh281.size)
      replace q := q.trans (bh1008.mono q.size)
      replace m1 := m1.up bh1008
      refine LL.val (R.assign rfl rfl) rfl rfl rfl ?_
      refine LL.nilS ?_
      refine CC.seq ?_
      refine CC.freeZ (fun W_ j => j < W_.heap.size ∧ (j ≠ gn3 ∧ j ≠ gl3 ∧ j ≠ qb3)) (by kernel_rfl) (by kernel_rfl) (fun Wh1072 bh1071 zh1073 => ?_)
      replace hd2 := hd2.up bh1071
      replace bh1008 := bh1008.trans (bh1071.mono bh1008.size)
      replace m2 := m2.up bh1071
      replace M6 := M6.up bh1071
      replace M := M.up bh1071
      replace hd := hd.up bh1071
      replace bh511 := bh511.trans (bh1071.mono bh511.size)
      replace bh447 := bh447.trans (bh1071.mono bh447.size)
      replace bh404 := bh404.trans (bh1071.mono bh404.size)
      replace bh281 := bh281.trans (bh1071.mono bh281.size)
      replace q := q.trans (bh1071.mono q.size)
      replace m1 := m1.up bh1071
      have hok : Kept (fun j => j < Wh1072.heap.size ∧ (j ≠ gn3 ∧ j ≠ gl3 ∧ j ≠ qb3)) Wh1072 Wh1072 := Kept.refl _ _
      refine AA.pure 0 rfl hok (by kernel_rfl) (fun w' b' => R.move rfl rfl) rfl rfl ?_
      refine AA.pure 1 rfl hok (by kernel_rfl) (fun w' b' => R.move rfl rfl) rfl rfl ?_
      refine AA.pure 3 rfl hok (by kernel_rfl) (fun w' b' => R.move rfl rfl) rfl rfl ?_
      refine AA.pure 4 rfl hok (by kernel_rfl) (fun w' b' => R.move rfl rfl) rfl rfl ?_
      refine AA.pure 5 rfl hok (by kernel_rfl) (fun w' b' => R.quoNc rfl rfl rfl rfl (by omega) (by omega)) rfl rfl ?_
      refine AA.pure 6 rfl hok (by kernel_rfl) (fun w' b' => R.index rfl rfl rfl (I.ixS rfl (by omega))) rfl rfl ?_
      refine AA.pure 7 rfl hok (by kernel_rfl) (fun w' b' => R.load rfl rfl (I.ldM (m2.kept b' (by omega)) rfl rfl)) rfl rfl ?_
      refine AA.pure 8 rfl hok (by kernel_rfl) (fun w' b' => R.move rfl rfl) rfl rfl ?_
      refine AA.pure 9 rfl hok (by kernel_rfl) (fun w' b' => R.move rfl rfl) rfl rfl ?_
      refine AA.pure 10 rfl hok (by kernel_rfl) (fun w' b' => R.quoNc rfl rfl rfl rfl (by omega) (by omega)) rfl rfl ?_
      refine AA.pure 11 rfl hok (by kernel_rfl) (fun w' b' => R.index rfl rfl rfl (I.ixS rfl (by omega))) rfl rfl ?_
      refine AA.pure 12 rfl hok (by kernel_rfl) (fun w' b' => R.load rfl rfl (I.ldM (m1.kept b' (by omega)) rfl rfl)) rfl rfl ?_
      refine AA.pure 13 rfl hok (by kernel_rfl) (fun w' b' => R.eqST rfl rfl rfl rfl (by kernel_rfl) hle1 hle2 hfe) rfl rfl ?_
      refine AA.one 2 (by kernel_rfl) ?_
      (refine SR.call rfl (R.call rfl rfl rfl) rfl rfl (same_any m3 gn3 gl3 qb3 m gn gl qb N _ s _ M6 M) ?_; rintro e Wh1105 ⟨rfl, bh1102⟩; refine ⟨_, rfl, ?_⟩; rw [hS2])
      have zbh1102 := bh1102.size
      replace bh1071 := bh1071.trans (bh1102.mono bh1071.size)
      replace hd2 := hd2.up bh1102
      replace bh1008 := bh1008.trans (bh1102.mono bh1008.size)
      replace m2 := m2.up bh1102
      replace M6 := M6.up bh1102
      replace M := M.up bh1102
      replace hd := hd.up bh1102
      replace bh511 := bh511.trans (bh1102.mono bh511.size)
      replace bh447 := bh447.trans (bh1102.mono bh447.size)
      replace bh404 := bh404.trans (bh1102.mono bh404.size)
      replace bh281 := bh281.trans (bh1102.mono bh281.size)
      replace q := q.trans (bh1102.mono q.size)
      replace m1 := m1.up bh1102
      replace hok := hok.trans (bkept bh1102 (fun j h => by have := h.1; have := hok.size; omega))
      have yh1109 := hok.size
      refine ⟨hok, ?_⟩
      refine AA.pure 14 rfl hok (by kernel_rfl) (fun w' b' => R.eqBool rfl rfl rfl rfl rfl) rfl rfl ?_
      refine AA.pure 15 rfl hok (by kernel_rfl) (fun w' b' => R.move rfl rfl) rfl rfl ?_
      refine AA.one 16 (by kernel_rfl) ?_
      refine SR.call rfl (R.call rfl rfl rfl) rfl rfl (works_any _) ?_
      rintro e Wh1167 ⟨rfl, bh1166⟩
      have zbh1166 := bh1166.size
      replace bh1102 := bh1102.trans (bh1166.mono bh1102.size)
      replace bh1071 := bh1071.trans (bh1166.mono bh1071.size)
      replace hd2 := hd2.up bh1166
      replace bh1008 := bh1008.trans (bh1166.mono bh1008.size)
      replace m2 := m2.up bh1166
      replace M6 := M6.up bh1166
      replace M := M.up bh1166
      replace hd := hd.up bh1166
      replace bh511 := bh511.trans (bh1166.mono bh511.size)
      replace bh447 := bh447.trans (bh1166.mono bh447.size)
      replace bh404 := bh404.trans (bh1166.mono bh404.size)
      replace bh281 := bh281.trans (bh1166.mono bh281.size)
      replace q := q.trans (bh1166.mono q.size)
      replace m1 := m1.up bh1166
      replace hok := hok.trans (bkept bh1166 (fun j h => by have := h.1; have := hok.size; omega))
      have yh1168 := hok.size
      refine ⟨_, rfl, hok, ?_⟩
      refine AA.pure 17 rfl hok (by kernel_rfl) (fun w' b' => R.pick rfl rfl rfl) rfl rfl ?_
      refine AA.pure 18 rfl hok (by kernel_rfl) (fun w' b' => R.assign rfl rfl) rfl rfl ?_
      refine AA.done rfl ?_
      clear hok
      refine EE.thenN ?_
      refine CC.ret ?_
      refine EE.ret _ rfl rfl ?_
      exact ⟨rfl, q⟩
  · have hS2 : decide (s.set (j / 8) (flC c) = s) = false := decide_eq_false fun e => hfe ((set_eq_iff hc).1 e)
    by_cases hyv : y = vv
    · have hS1 : decide (s.set (j / 8) (wrC c (j % 8) vv) = s) = true := decide_eq_true ((set_eq_iff hc).2 ((wr_eq hy).2 hyv))
      refine CC.seq ?_
      refine CC.seq ?_
      refine CC.region ?_
      refine LL.val (R.move rfl rfl) rfl rfl rfl ?_
      refine LL.val (R.move rfl rfl) rfl rfl rfl ?_
      refine LL.val (R.len rfl rfl rfl rfl) rfl rfl rfl ?_
      refine LL.val (R.ltF rfl rfl rfl (by omega)) rfl rfl rfl ?_
      refine LL.nilS ?_
      refine CC.no rfl ?_
      refine CC.exit ?_
      refine EE.thenX ?_
      refine EE.thenX ?_
      refine EE.inX ?_
      refine EE.thenN ?_
      refine CC.seq ?_
      refine CC.region ?_
      refine LL.val (R.move rfl rfl) rfl rfl rfl ?_
      (refine LL.call (R.call rfl rfl rfl) rfl rfl rfl (copy_any _ m gn gl qb N M) ?_; rintro e Wi284 ⟨m3, gn3, gl3, qb3, rfl, M3, lm3, ln3, ll3, lq3, bi281⟩; refine ⟨_, rfl, ?_⟩; have lts := M.lts; have lts3 := M3.lts)
      have zbi281 := bi281.size
      replace q := q.trans (bi281.mono q.size)
      replace M := M.up bi281
      replace hd := hd.up bi281
      replace cw := cell_up cw bi281
      refine LL.val (R.assign rfl rfl) rfl rfl rfl ?_
      refine LL.nilS ?_
      refine CC.seq ?_
      refine CC.seq ?_
      refine CC.freeZ (fun W_ j => j < W_.heap.size ∧ (j ≠ gn3 ∧ j ≠ gl3 ∧ j ≠ qb3)) (by kernel_rfl) (by kernel_rfl) (fun Wi345 bi344 zi346 => ?_)
      replace M3 := M3.up bi344
      replace bi281 := bi281.trans (bi344.mono bi281.size)
      replace q := q.trans (bi344.mono q.size)
      replace M := M.up bi344
      replace hd := hd.up bi344
      replace cw := cell_up cw bi344
      have hok : Kept (fun j => j < Wi345.heap.size ∧ (j ≠ gn3 ∧ j ≠ gl3 ∧ j ≠ qb3)) Wi345 Wi345 := Kept.refl _ _
      have fzcw := fzCell (K := fun j => j < Wi345.heap.size ∧ (j ≠ gn3 ∧ j ≠ gl3 ∧ j ≠ qb3)) cw ⟨World.block_lt_of_cell? _ _ cw, (by first | trivial | omega)⟩
      refine AA.pure 0 rfl hok (by kernel_rfl) (fun w' b' => R.move rfl rfl) rfl rfl ?_
      refine AA.pure 1 rfl hok (by kernel_rfl) (fun w' b' => R.move rfl rfl) rfl rfl ?_
      refine AA.one 2 (by kernel_rfl) ?_
      (refine SR.call rfl (R.call rfl rfl rfl) rfl rfl (same_any m3 gn3 gl3 qb3 m gn gl qb N s s _ M3 M) ?_; rintro e Wi357 ⟨rfl, bi354⟩; refine ⟨_, rfl, ?_⟩; rw [decide_eq_true rfl])
      have zbi354 := bi354.size
      replace bi344 := bi344.trans (bi354.mono bi344.size)
      replace M3 := M3.up bi354
      replace bi281 := bi281.trans (bi354.mono bi281.size)
      replace q := q.trans (bi354.mono q.size)
      replace M := M.up bi354
      replace hd := hd.up bi354
      replace cw := cell_up cw bi354
      replace hok := hok.trans (bkept bi354 (fun j h => by have := h.1; have := hok.size; omega))
      have yi361 := hok.size
      refine ⟨hok, ?_⟩
      refine AA.pure 3 rfl hok (by kernel_rfl) (fun w' b' => R.not rfl rfl) rfl rfl ?_
      refine AA.pure 4 rfl hok (by kernel_rfl) (fun w' b' => R.move rfl rfl) rfl rfl ?_
      refine AA.pure 5 rfl hok (by kernel_rfl) (fun w' b' => R.move rfl rfl) rfl rfl ?_
      refine AA.pure 6 rfl hok (by kernel_rfl) (fun w' b' => R.move rfl rfl) rfl rfl ?_
      refine AA.pure 7 rfl hok (by kernel_rfl) (fun w' b' => R.move rfl rfl) rfl rfl ?_
      refine AA.one 8 (by kernel_rfl) ?_
      (refine SR.call rfl (R.call rfl rfl rfl) rfl rfl (store_T _ m3 gn3 gl3 qb3 N j vv M3 hc) ?_; rintro e Wi379 ⟨rfl, M5, ti378⟩; refine ⟨_, rfl, ?_⟩; replace hok := hok.trans ((ti378).less fun j hj => ⟨by have := hj.1; have := hok.size; omega, hj.2⟩); replace M := M.kept ti378 (by omega) (by omega) (by omega) (by omega); replace hd := hd.kp ti378 (by omega); clear M3)
      have zti378 := ti378.size
      replace bi281 := ti378.onB bi281 (fun j hj => ⟨by have := bi281.size; omega, by omega⟩)
      replace q := ti378.onB q (fun j hj => ⟨by have := q.size; omega, by omega⟩)
      replace cw := cell_kept cw ti378 ⟨World.block_lt_of_cell? _ _ cw, by omega⟩
      refine ⟨hok, ?_⟩
      refine AA.pureC 9 rfl hok (by kernel_rfl) (fun w' => (R.call rfl rfl rfl)) (fun w' b' => num_any _ w') rfl rfl ?_
      refine AA.pure 10 rfl hok (by kernel_rfl) (fun w' b' => R.neF rfl rfl rfl (by omega)) rfl rfl ?_
      refine AA.pure 11 rfl hok (by kernel_rfl) (fun w' b' => R.pick rfl rfl rfl) rfl rfl ?_
      refine AA.pure 12 rfl hok (by kernel_rfl) (fun w' b' => R.move rfl rfl) rfl rfl ?_
      refine AA.pure 13 rfl hok (by kernel_rfl) (fun w' b' => R.move rfl rfl) rfl rfl ?_
      refine AA.pure 14 rfl hok (by kernel_rfl) (fun w' b' => R.move rfl rfl) rfl rfl ?_
      refine AA.pure 16 rfl hok (by kernel_rfl) (fun w' b' => R.move rfl rfl) rfl rfl ?_
      refine AA.pure 17 rfl hok (by kernel_rfl) (fun w' b' => R.move rfl rfl) rfl rfl ?_
      refine AA.pure 18 rfl hok (by kernel_rfl) (fun w' b' => R.quoNc rfl rfl rfl rfl (by omega) (by omega)) rfl rfl ?_
      refine AA.pure 19 rfl hok (by kernel_rfl) (fun w' b' => R.move rfl rfl) rfl rfl ?_
      refine AA.pure 20 rfl hok (by kernel_rfl) (fun w' b' => R.remNc rfl rfl rfl rfl (by omega)) rfl rfl ?_
      refine AA.pure 21 rfl hok (by kernel_rfl) (fun w' b' => R.index rfl rfl rfl (I.ixS rfl (by omega))) rfl rfl ?_
      refine AA.pure 22 rfl hok (by kernel_rfl) (fun w' b' => R.field rfl rfl (I.fld rfl)) rfl rfl ?_
      refine AA.pure 23 rfl hok (by kernel_rfl) (fun w' b' => R.index rfl rfl rfl (I.ixA1 rfl (by omega))) rfl rfl ?_
      refine AA.pure 24 rfl hok (by kernel_rfl) (fun w' b' => R.load rfl rfl (I.ld1 rfl (fzcw w' b'))) rfl rfl ?_
      refine AA.pure 25 rfl hok (by kernel_rfl) (fun w' b' => R.move rfl rfl) rfl rfl ?_
      refine AA.pure 26 rfl hok (by kernel_rfl) (fun w' b' => R.eqT rfl rfl rfl (by omega)) rfl rfl ?_
      refine AA.one 15 (by kernel_rfl) ?_
      (refine SR.call rfl (R.call rfl rfl rfl) rfl rfl (same_any m3 gn3 gl3 qb3 m gn gl qb N _ s _ M5 M) ?_; rintro e Wi407 ⟨rfl, bi404⟩; refine ⟨_, rfl, ?_⟩; rw [hS1]; clear M5 cw)
      have zbi404 := bi404.size
      replace hok := hok.trans (bkept bi404 (fun j h => by have := h.1; have := hok.size; omega))
      have yi411 := hok.size
      replace M := M.up bi404
      replace hd := hd.up bi404
      replace bi281 := bi281.trans (bi404.mono bi281.size)
      replace q := q.trans (bi404.mono q.size)
      refine ⟨hok, ?_⟩
      refine AA.pure 27 rfl hok (by kernel_rfl) (fun w' b' => R.neBool rfl rfl rfl rfl rfl) rfl rfl ?_
      refine AA.pure 28 rfl hok (by kernel_rfl) (fun w' b' => R.pick rfl rfl rfl) rfl rfl ?_
      refine AA.pure 29 rfl hok (by kernel_rfl) (fun w' b' => R.move rfl rfl) rfl rfl ?_
      refine AA.pure 30 rfl hok (by kernel_rfl) (fun w' b' => R.move rfl rfl) rfl rfl ?_
      refine AA.pure 31 rfl hok (by kernel_rfl) (fun w' b' => R.move rfl rfl) rfl rfl ?_
      refine AA.one 32 (by kernel_rfl) ?_
      (refine SR.call rfl (R.call rfl rfl rfl) rfl rfl (is_any m gn gl qb N g cap _ M hd) ?_; rintro e Wi450 ⟨rfl, bi447⟩; refine ⟨_, rfl, ?_⟩)
      have zbi447 := bi447.size
      replace bi404 := bi404.trans (bi447.mono bi404.size)
      replace hok := hok.trans (bkept bi447 (fun j h => by have := h.1; have := hok.size; omega))
      have yi454 := hok.size
      replace M := M.up bi447
      replace hd := hd.up bi447
      replace bi281 := bi281.trans (bi447.mono bi281.size)
      replace q := q.trans (bi447.mono q.size)
      refine ⟨hok, ?_⟩
      refine AA.pure 33 rfl hok (by kernel_rfl) (fun w' b' => R.not rfl rfl) rfl rfl ?_
      refine AA.pure 34 rfl hok (by kernel_rfl) (fun w' b' => R.pick rfl rfl rfl) rfl rfl ?_
      refine AA.done rfl ?_
      clear fzcw hok
      refine EE.thenN ?_
      refine CC.no rfl ?_
      refine CC.skip ?_
      refine EE.thenN ?_
      refine CC.seq ?_
      refine CC.region ?_
      refine LL.val (R.move rfl rfl) rfl rfl rfl ?_
      (refine LL.call (R.call rfl rfl rfl) rfl rfl rfl (copy_any _ m gn gl qb N M) ?_; rintro e Wi514 ⟨m3, gn3, gl3, qb3, rfl, M3, lm3, ln3, ll3, lq3, bi511⟩; refine ⟨_, rfl, ?_⟩; have lts := M.lts; have lts3 := M3.lts)
      have zbi511 := bi511.size
      replace bi447 := bi447.trans (bi511.mono bi447.size)
      replace bi404 := bi404.trans (bi511.mono bi404.size)
      replace M := M.up bi511
      replace hd := hd.up bi511
      replace bi281 := bi281.trans (bi511.mono bi281.size)
      replace q := q.trans (bi511.mono q.size)
      refine LL.val (R.assign rfl rfl) rfl rfl rfl ?_
      refine LL.nilS ?_
      refine CC.seq ?_
      refine CC.region ?_
      refine LL.val (R.move rfl rfl) rfl rfl rfl ?_
      refine LL.val (R.move rfl rfl) rfl rfl rfl ?_
      refine LL.val (R.quoNc rfl rfl rfl rfl (by omega) (by omega)) rfl rfl rfl ?_
      (refine LL.call (R.call rfl rfl rfl) rfl rfl rfl (flush_T _ m3 gn3 gl3 qb3 N (j / 8) M3 hc) ?_; rintro e Wi787 ⟨rfl, M6, ti786⟩; refine ⟨_, rfl, ?_⟩; replace M := M.kept ti786 (by omega) (by omega) (by omega) (by omega); replace hd := hd.kp ti786 (by omega); clear M3)
      have zti786 := ti786.size
      replace bi511 := ti786.onB bi511 (fun j hj => ⟨by have := bi511.size; omega, by omega⟩)
      replace bi447 := ti786.onB bi447 (fun j hj => ⟨by have := bi447.size; omega, by omega⟩)
      replace bi404 := ti786.onB bi404 (fun j hj => ⟨by have := bi404.size; omega, by omega⟩)
      replace bi281 := ti786.onB bi281 (fun j hj => ⟨by have := bi281.size; omega, by omega⟩)
      replace q := ti786.onB q (fun j hj => ⟨by have := q.size; omega, by omega⟩)
      refine LL.nilS ?_
      refine CC.seq ?_
      refine CC.region ?_
      refine LL.val (R.move rfl rfl) rfl rfl rfl ?_
      refine LL.val (R.move rfl rfl) rfl rfl rfl ?_
      refine LL.val (R.quoNc rfl rfl rfl rfl (by omega) (by omega)) rfl rfl rfl ?_
      (refine LL.call (R.call rfl rfl rfl) rfl rfl rfl (dflush_any s g N cap (j / 8) c _ hd hl hN hc) ?_; rintro e Wi1011 ⟨g2, cap2, rfl, hd2, lg2, lg3, bi1008⟩; refine ⟨_, rfl, ?_⟩; have m1 : CellsN _ ⟨g, 0 + j / 8 * 25, none⟩ 25 (cE c) := hd.elemN cEnc hc; have m2 : CellsN _ ⟨g2, 0 + j / 8 * 25, none⟩ 25 (cE (flC c)) := hd2.elemN cEnc (List.getElem?_set_self (by omega)); have lg5 : g < (Wi1011).heap.size := by omega)
      have zbi1008 := bi1008.size
      replace M6 := M6.up bi1008
      replace M := M.up bi1008
      replace hd := hd.up bi1008
      replace bi511 := bi511.trans (bi1008.mono bi511.size)
      replace bi447 := bi447.trans (bi1008.mono bi447.size)
      replace bi404 := bi404.trans (bi1008.mono bi404.size)
      replace bi281 := bi281.trans (bi1008.mono bi281.size)
      replace q := q.trans (bi1008.mono q.size)
      replace m1 := m1.up bi1008
      refine LL.val (R.assign rfl rfl) rfl rfl rfl ?_
      refine LL.nilS ?_
      refine CC.seq ?_
      refine CC.freeZ (fun W_ j => j < W_.heap.size ∧ (j ≠ gn3 ∧ j ≠ gl3 ∧ j ≠ qb3)) (by kernel_rfl) (by kernel_rfl) (fun Wi1072 bi1071 zi1073 => ?_)
      replace hd2 := hd2.up bi1071
      replace bi1008 := bi1008.trans (bi1071.mono bi1008.size)
      replace m2 := m2.up bi1071
      replace M6 := M6.up bi1071
      replace M := M.up bi1071
      replace hd := hd.up bi1071
      replace bi511 := bi511.trans (bi1071.mono bi511.size)
      replace bi447 := bi447.trans (bi1071.mono bi447.size)
      replace bi404 := bi404.trans (bi1071.mono bi404.size)
      replace bi281 := bi281.trans (bi1071.mono bi281.size)
      replace q := q.trans (bi1071.mono q.size)
      replace m1 := m1.up bi1071
      have hok : Kept (fun j => j < Wi1072.heap.size ∧ (j ≠ gn3 ∧ j ≠ gl3 ∧ j ≠ qb3)) Wi1072 Wi1072 := Kept.refl _ _
      refine AA.pure 0 rfl hok (by kernel_rfl) (fun w' b' => R.move rfl rfl) rfl rfl ?_
      refine AA.pure 1 rfl hok (by kernel_rfl) (fun w' b' => R.move rfl rfl) rfl rfl ?_
      refine AA.pure 3 rfl hok (by kernel_rfl) (fun w' b' => R.move rfl rfl) rfl rfl ?_
      refine AA.pure 4 rfl hok (by kernel_rfl) (fun w' b' => R.move rfl rfl) rfl rfl ?_
      refine AA.pure 5 rfl hok (by kernel_rfl) (fun w' b' => R.quoNc rfl rfl rfl rfl (by omega) (by omega)) rfl rfl ?_
      refine AA.pure 6 rfl hok (by kernel_rfl) (fun w' b' => R.index rfl rfl rfl (I.ixS rfl (by omega))) rfl rfl ?_
      refine AA.pure 7 rfl hok (by kernel_rfl) (fun w' b' => R.load rfl rfl (I.ldM (m2.kept b' (by omega)) rfl rfl)) rfl rfl ?_
      refine AA.pure 8 rfl hok (by kernel_rfl) (fun w' b' => R.move rfl rfl) rfl rfl ?_
      refine AA.pure 9 rfl hok (by kernel_rfl) (fun w' b' => R.move rfl rfl) rfl rfl ?_
      refine AA.pure 10 rfl hok (by kernel_rfl) (fun w' b' => R.quoNc rfl rfl rfl rfl (by omega) (by omega)) rfl rfl ?_
      refine AA.pure 11 rfl hok (by kernel_rfl) (fun w' b' => R.index rfl rfl rfl (I.ixS rfl (by omega))) rfl rfl ?_
      refine AA.pure 12 rfl hok (by kernel_rfl) (fun w' b' => R.load rfl rfl (I.ldM (m1.kept b' (by omega)) rfl rfl)) rfl rfl ?_
      refine AA.pure 13 rfl hok (by kernel_rfl) (fun w' b' => R.eqSF rfl rfl rfl rfl (by kernel_rfl) hle1 hle2 hfe) rfl rfl ?_
      refine AA.one 2 (by kernel_rfl) ?_
      (refine SR.call rfl (R.call rfl rfl rfl) rfl rfl (same_any m3 gn3 gl3 qb3 m gn gl qb N _ s _ M6 M) ?_; rintro e Wi1105 ⟨rfl, bi1102⟩; refine ⟨_, rfl, ?_⟩; rw [hS2])
      have zbi1102 := bi1102.size
      replace bi1071 := bi1071.trans (bi1102.mono bi1071.size)
      replace hd2 := hd2.up bi1102
      replace bi1008 := bi1008.trans (bi1102.mono bi1008.size)
      replace m2 := m2.up bi1102
      replace M6 := M6.up bi1102
      replace M := M.up bi1102
      replace hd := hd.up bi1102
      replace bi511 := bi511.trans (bi1102.mono bi511.size)
      replace bi447 := bi447.trans (bi1102.mono bi447.size)
      replace bi404 := bi404.trans (bi1102.mono bi404.size)
      replace bi281 := bi281.trans (bi1102.mono bi281.size)
      replace q := q.trans (bi1102.mono q.size)
      replace m1 := m1.up bi1102
      replace hok := hok.trans (bkept bi1102 (fun j h => by have := h.1; have := hok.size; omega))
      have yi1109 := hok.size
      refine ⟨hok, ?_⟩
      refine AA.pure 14 rfl hok (by kernel_rfl) (fun w' b' => R.eqBool rfl rfl rfl rfl rfl) rfl rfl ?_
      refine AA.pure 15 rfl hok (by kernel_rfl) (fun w' b' => R.move rfl rfl) rfl rfl ?_
      refine AA.one 16 (by kernel_rfl) ?_
      refine SR.call rfl (R.call rfl rfl rfl) rfl rfl (works_any _) ?_
      rintro e Wi1167 ⟨rfl, bi1166⟩
      have zbi1166 := bi1166.size
      replace bi1102 := bi1102.trans (bi1166.mono bi1102.size)
      replace bi1071 := bi1071.trans (bi1166.mono bi1071.size)
      replace hd2 := hd2.up bi1166
      replace bi1008 := bi1008.trans (bi1166.mono bi1008.size)
      replace m2 := m2.up bi1166
      replace M6 := M6.up bi1166
      replace M := M.up bi1166
      replace hd := hd.up bi1166
      replace bi511 := bi511.trans (bi1166.mono bi511.size)
      replace bi447 := bi447.trans (bi1166.mono bi447.size)
      replace bi404 := bi404.trans (bi1166.mono bi404.size)
      replace bi281 := bi281.trans (bi1166.mono bi281.size)
      replace q := q.trans (bi1166.mono q.size)
      replace m1 := m1.up bi1166
      replace hok := hok.trans (bkept bi1166 (fun j h => by have := h.1; have := hok.size; omega))
      have yi1168 := hok.size
      refine ⟨_, rfl, hok, ?_⟩
      refine AA.pure 17 rfl hok (by kernel_rfl) (fun w' b' => R.pick rfl rfl rfl) rfl rfl ?_
      refine AA.pure 18 rfl hok (by kernel_rfl) (fun w' b' => R.assign rfl rfl) rfl rfl ?_
      refine AA.done rfl ?_
      clear hok
      refine EE.thenN ?_
      refine CC.ret ?_
      refine EE.ret _ rfl rfl ?_
      exact ⟨rfl, q⟩
    · have hS1 : decide (s.set (j / 8) (wrC c (j % 8) vv) = s) = false := decide_eq_false fun e => hyv ((wr_eq hy).1 ((set_eq_iff hc).1 e))
      refine CC.seq ?_
      refine CC.seq ?_
      refine CC.region ?_
      refine LL.val (R.move rfl rfl) rfl rfl rfl ?_
      refine LL.val (R.move rfl rfl) rfl rfl rfl ?_
      refine LL.val (R.len rfl rfl rfl rfl) rfl rfl rfl ?_
      refine LL.val (R.ltF rfl rfl rfl (by omega)) rfl rfl rfl ?_
      refine LL.nilS ?_
      refine CC.no rfl ?_
      refine CC.exit ?_
      refine EE.thenX ?_
      refine EE.thenX ?_
      refine EE.inX ?_
      refine EE.thenN ?_
      refine CC.seq ?_
      refine CC.region ?_
      refine LL.val (R.move rfl rfl) rfl rfl rfl ?_
      (refine LL.call (R.call rfl rfl rfl) rfl rfl rfl (copy_any _ m gn gl qb N M) ?_; rintro e Wj284 ⟨m3, gn3, gl3, qb3, rfl, M3, lm3, ln3, ll3, lq3, bj281⟩; refine ⟨_, rfl, ?_⟩; have lts := M.lts; have lts3 := M3.lts)
      have zbj281 := bj281.size
      replace q := q.trans (bj281.mono q.size)
      replace M := M.up bj281
      replace hd := hd.up bj281
      replace cw := cell_up cw bj281
      refine LL.val (R.assign rfl rfl) rfl rfl rfl ?_
      refine LL.nilS ?_
      refine CC.seq ?_
      refine CC.seq ?_
      refine CC.freeZ (fun W_ j => j < W_.heap.size ∧ (j ≠ gn3 ∧ j ≠ gl3 ∧ j ≠ qb3)) (by kernel_rfl) (by kernel_rfl) (fun Wj345 bj344 zj346 => ?_)
      replace M3 := M3.up bj344
      replace bj281 := bj281.trans (bj344.mono bj281.size)
      replace q := q.trans (bj344.mono q.size)
      replace M := M.up bj344
      replace hd := hd.up bj344
      replace cw := cell_up cw bj344
      have hok : Kept (fun j => j < Wj345.heap.size ∧ (j ≠ gn3 ∧ j ≠ gl3 ∧ j ≠ qb3)) Wj345 Wj345 := Kept.refl _ _
      have fzcw := fzCell (K := fun j => j < Wj345.heap.size ∧ (j ≠ gn3 ∧ j ≠ gl3 ∧ j ≠ qb3)) cw ⟨World.block_lt_of_cell? _ _ cw, (by first | trivial | omega)⟩
      refine AA.pure 0 rfl hok (by kernel_rfl) (fun w' b' => R.move rfl rfl) rfl rfl ?_
      refine AA.pure 1 rfl hok (by kernel_rfl) (fun w' b' => R.move rfl rfl) rfl rfl ?_
      refine AA.one 2 (by kernel_rfl) ?_
      (refine SR.call rfl (R.call rfl rfl rfl) rfl rfl (same_any m3 gn3 gl3 qb3 m gn gl qb N s s _ M3 M) ?_; rintro e Wj357 ⟨rfl, bj354⟩; refine ⟨_, rfl, ?_⟩; rw [decide_eq_true rfl])
      have zbj354 := bj354.size
      replace bj344 := bj344.trans (bj354.mono bj344.size)
      replace M3 := M3.up bj354
      replace bj281 := bj281.trans (bj354.mono bj281.size)
      replace q := q.trans (bj354.mono q.size)
      replace M := M.up bj354
      replace hd := hd.up bj354
      replace cw := cell_up cw bj354
      replace hok := hok.trans (bkept bj354 (fun j h => by have := h.1; have := hok.size; omega))
      have yj361 := hok.size
      refine ⟨hok, ?_⟩
      refine AA.pure 3 rfl hok (by kernel_rfl) (fun w' b' => R.not rfl rfl) rfl rfl ?_
      refine AA.pure 4 rfl hok (by kernel_rfl) (fun w' b' => R.move rfl rfl) rfl rfl ?_
      refine AA.pure 5 rfl hok (by kernel_rfl) (fun w' b' => R.move rfl rfl) rfl rfl ?_
      refine AA.pure 6 rfl hok (by kernel_rfl) (fun w' b' => R.move rfl rfl) rfl rfl ?_
      refine AA.pure 7 rfl hok (by kernel_rfl) (fun w' b' => R.move rfl rfl) rfl rfl ?_
      refine AA.one 8 (by kernel_rfl) ?_
      (refine SR.call rfl (R.call rfl rfl rfl) rfl rfl (store_T _ m3 gn3 gl3 qb3 N j vv M3 hc) ?_; rintro e Wj379 ⟨rfl, M5, tj378⟩; refine ⟨_, rfl, ?_⟩; replace hok := hok.trans ((tj378).less fun j hj => ⟨by have := hj.1; have := hok.size; omega, hj.2⟩); replace M := M.kept tj378 (by omega) (by omega) (by omega) (by omega); replace hd := hd.kp tj378 (by omega); clear M3)
      have ztj378 := tj378.size
      replace bj281 := tj378.onB bj281 (fun j hj => ⟨by have := bj281.size; omega, by omega⟩)
      replace q := tj378.onB q (fun j hj => ⟨by have := q.size; omega, by omega⟩)
      replace cw := cell_kept cw tj378 ⟨World.block_lt_of_cell? _ _ cw, by omega⟩
      refine ⟨hok, ?_⟩
      refine AA.pureC 9 rfl hok (by kernel_rfl) (fun w' => (R.call rfl rfl rfl)) (fun w' b' => num_any _ w') rfl rfl ?_
      refine AA.pure 10 rfl hok (by kernel_rfl) (fun w' b' => R.neF rfl rfl rfl (by omega)) rfl rfl ?_
      refine AA.pure 11 rfl hok (by kernel_rfl) (fun w' b' => R.pick rfl rfl rfl) rfl rfl ?_
      refine AA.pure 12 rfl hok (by kernel_rfl) (fun w' b' => R.move rfl rfl) rfl rfl ?_
      refine AA.pure 13 rfl hok (by kernel_rfl) (fun w' b' => R.move rfl rfl) rfl rfl ?_
      refine AA.pure 14 rfl hok (by kernel_rfl) (fun w' b' => R.move rfl rfl) rfl rfl ?_
      refine AA.pure 16 rfl hok (by kernel_rfl) (fun w' b' => R.move rfl rfl) rfl rfl ?_
      refine AA.pure 17 rfl hok (by kernel_rfl) (fun w' b' => R.move rfl rfl) rfl rfl ?_
      refine AA.pure 18 rfl hok (by kernel_rfl) (fun w' b' => R.quoNc rfl rfl rfl rfl (by omega) (by omega)) rfl rfl ?_
      refine AA.pure 19 rfl hok (by kernel_rfl) (fun w' b' => R.move rfl rfl) rfl rfl ?_
      refine AA.pure 20 rfl hok (by kernel_rfl) (fun w' b' => R.remNc rfl rfl rfl rfl (by omega)) rfl rfl ?_
      refine AA.pure 21 rfl hok (by kernel_rfl) (fun w' b' => R.index rfl rfl rfl (I.ixS rfl (by omega))) rfl rfl ?_
      refine AA.pure 22 rfl hok (by kernel_rfl) (fun w' b' => R.field rfl rfl (I.fld rfl)) rfl rfl ?_
      refine AA.pure 23 rfl hok (by kernel_rfl) (fun w' b' => R.index rfl rfl rfl (I.ixA1 rfl (by omega))) rfl rfl ?_
      refine AA.pure 24 rfl hok (by kernel_rfl) (fun w' b' => R.load rfl rfl (I.ld1 rfl (fzcw w' b'))) rfl rfl ?_
      refine AA.pure 25 rfl hok (by kernel_rfl) (fun w' b' => R.move rfl rfl) rfl rfl ?_
      refine AA.pure 26 rfl hok (by kernel_rfl) (fun w' b' => R.eqF rfl rfl rfl (by omega)) rfl rfl ?_
      refine AA.one 15 (by kernel_rfl) ?_
      (refine SR.call rfl (R.call rfl rfl rfl) rfl rfl (same_any m3 gn3 gl3 qb3 m gn gl qb N _ s _ M5 M) ?_; rintro e Wj407 ⟨rfl, bj404⟩; refine ⟨_, rfl, ?_⟩; rw [hS1]; clear M5 cw)
      have zbj404 := bj404.size
      replace hok := hok.trans (bkept bj404 (fun j h => by have := h.1; have := hok.size; omega))
      have yj411 := hok.size
      replace M := M.up bj404
      replace hd := hd.up bj404
      replace bj281 := bj281.trans (bj404.mono bj281.size)
      replace q := q.trans (bj404.mono q.size)
      refine ⟨hok, ?_⟩
      refine AA.pure 27 rfl hok (by kernel_rfl) (fun w' b' => R.neBool rfl rfl rfl rfl rfl) rfl rfl ?_
      refine AA.pure 28 rfl hok (by kernel_rfl) (fun w' b' => R.pick rfl rfl rfl) rfl rfl ?_
      refine AA.pure 29 rfl hok (by kernel_rfl) (fun w' b' => R.move rfl rfl) rfl rfl ?_
      refine AA.pure 30 rfl hok (by kernel_rfl) (fun w' b' => R.move rfl rfl) rfl rfl ?_
      refine AA.pure 31 rfl hok (by kernel_rfl) (fun w' b' => R.move rfl rfl) rfl rfl ?_
      refine AA.one 32 (by kernel_rfl) ?_
      (refine SR.call rfl (R.call rfl rfl rfl) rfl rfl (is_any m gn gl qb N g cap _ M hd) ?_; rintro e Wj450 ⟨rfl, bj447⟩; refine ⟨_, rfl, ?_⟩)
      have zbj447 := bj447.size
      replace bj404 := bj404.trans (bj447.mono bj404.size)
      replace hok := hok.trans (bkept bj447 (fun j h => by have := h.1; have := hok.size; omega))
      have yj454 := hok.size
      replace M := M.up bj447
      replace hd := hd.up bj447
      replace bj281 := bj281.trans (bj447.mono bj281.size)
      replace q := q.trans (bj447.mono q.size)
      refine ⟨hok, ?_⟩
      refine AA.pure 33 rfl hok (by kernel_rfl) (fun w' b' => R.not rfl rfl) rfl rfl ?_
      refine AA.pure 34 rfl hok (by kernel_rfl) (fun w' b' => R.pick rfl rfl rfl) rfl rfl ?_
      refine AA.done rfl ?_
      clear fzcw hok
      refine EE.thenN ?_
      refine CC.no rfl ?_
      refine CC.skip ?_
      refine EE.thenN ?_
      refine CC.seq ?_
      refine CC.region ?_
      refine LL.val (R.move rfl rfl) rfl rfl rfl ?_
      (refine LL.call (R.call rfl rfl rfl) rfl rfl rfl (copy_any _ m gn gl qb N M) ?_; rintro e Wj514 ⟨m3, gn3, gl3, qb3, rfl, M3, lm3, ln3, ll3, lq3, bj511⟩; refine ⟨_, rfl, ?_⟩; have lts := M.lts; have lts3 := M3.lts)
      have zbj511 := bj511.size
      replace bj447 := bj447.trans (bj511.mono bj447.size)
      replace bj404 := bj404.trans (bj511.mono bj404.size)
      replace M := M.up bj511
      replace hd := hd.up bj511
      replace bj281 := bj281.trans (bj511.mono bj281.size)
      replace q := q.trans (bj511.mono q.size)
      refine LL.val (R.assign rfl rfl) rfl rfl rfl ?_
      refine LL.nilS ?_
      refine CC.seq ?_
      refine CC.region ?_
      refine LL.val (R.move rfl rfl) rfl rfl rfl ?_
      refine LL.val (R.move rfl rfl) rfl rfl rfl ?_
      refine LL.val (R.quoNc rfl rfl rfl rfl (by omega) (by omega)) rfl rfl rfl ?_
      (refine LL.call (R.call rfl rfl rfl) rfl rfl rfl (flush_T _ m3 gn3 gl3 qb3 N (j / 8) M3 hc) ?_; rintro e Wj787 ⟨rfl, M6, tj786⟩; refine ⟨_, rfl, ?_⟩; replace M := M.kept tj786 (by omega) (by omega) (by omega) (by omega); replace hd := hd.kp tj786 (by omega); clear M3)
      have ztj786 := tj786.size
      replace bj511 := tj786.onB bj511 (fun j hj => ⟨by have := bj511.size; omega, by omega⟩)
      replace bj447 := tj786.onB bj447 (fun j hj => ⟨by have := bj447.size; omega, by omega⟩)
      replace bj404 := tj786.onB bj404 (fun j hj => ⟨by have := bj404.size; omega, by omega⟩)
      replace bj281 := tj786.onB bj281 (fun j hj => ⟨by have := bj281.size; omega, by omega⟩)
      replace q := tj786.onB q (fun j hj => ⟨by have := q.size; omega, by omega⟩)
      refine LL.nilS ?_
      refine CC.seq ?_
      refine CC.region ?_
      refine LL.val (R.move rfl rfl) rfl rfl rfl ?_
      refine LL.val (R.move rfl rfl) rfl rfl rfl ?_
      refine LL.val (R.quoNc rfl rfl rfl rfl (by omega) (by omega)) rfl rfl rfl ?_
      (refine LL.call (R.call rfl rfl rfl) rfl rfl rfl (dflush_any s g N cap (j / 8) c _ hd hl hN hc) ?_; rintro e Wj1011 ⟨g2, cap2, rfl, hd2, lg2, lg3, bj1008⟩; refine ⟨_, rfl, ?_⟩; have m1 : CellsN _ ⟨g, 0 + j / 8 * 25, none⟩ 25 (cE c) := hd.elemN cEnc hc; have m2 : CellsN _ ⟨g2, 0 + j / 8 * 25, none⟩ 25 (cE (flC c)) := hd2.elemN cEnc (List.getElem?_set_self (by omega)); have lg5 : g < (Wj1011).heap.size := by omega)
      have zbj1008 := bj1008.size
      replace M6 := M6.up bj1008
      replace M := M.up bj1008
      replace hd := hd.up bj1008
      replace bj511 := bj511.trans (bj1008.mono bj511.size)
      replace bj447 := bj447.trans (bj1008.mono bj447.size)
      replace bj404 := bj404.trans (bj1008.mono bj404.size)
      replace bj281 := bj281.trans (bj1008.mono bj281.size)
      replace q := q.trans (bj1008.mono q.size)
      replace m1 := m1.up bj1008
      refine LL.val (R.assign rfl rfl) rfl rfl rfl ?_
      refine LL.nilS ?_
      refine CC.seq ?_
      refine CC.freeZ (fun W_ j => j < W_.heap.size ∧ (j ≠ gn3 ∧ j ≠ gl3 ∧ j ≠ qb3)) (by kernel_rfl) (by kernel_rfl) (fun Wj1072 bj1071 zj1073 => ?_)
      replace hd2 := hd2.up bj1071
      replace bj1008 := bj1008.trans (bj1071.mono bj1008.size)
      replace m2 := m2.up bj1071
      replace M6 := M6.up bj1071
      replace M := M.up bj1071
      replace hd := hd.up bj1071
      replace bj511 := bj511.trans (bj1071.mono bj511.size)
      replace bj447 := bj447.trans (bj1071.mono bj447.size)
      replace bj404 := bj404.trans (bj1071.mono bj404.size)
      replace bj281 := bj281.trans (bj1071.mono bj281.size)
      replace q := q.trans (bj1071.mono q.size)
      replace m1 := m1.up bj1071
      have hok : Kept (fun j => j < Wj1072.heap.size ∧ (j ≠ gn3 ∧ j ≠ gl3 ∧ j ≠ qb3)) Wj1072 Wj1072 := Kept.refl _ _
      refine AA.pure 0 rfl hok (by kernel_rfl) (fun w' b' => R.move rfl rfl) rfl rfl ?_
      refine AA.pure 1 rfl hok (by kernel_rfl) (fun w' b' => R.move rfl rfl) rfl rfl ?_
      refine AA.pure 3 rfl hok (by kernel_rfl) (fun w' b' => R.move rfl rfl) rfl rfl ?_
      refine AA.pure 4 rfl hok (by kernel_rfl) (fun w' b' => R.move rfl rfl) rfl rfl ?_
      refine AA.pure 5 rfl hok (by kernel_rfl) (fun w' b' => R.quoNc rfl rfl rfl rfl (by omega) (by omega)) rfl rfl ?_
      refine AA.pure 6 rfl hok (by kernel_rfl) (fun w' b' => R.index rfl rfl rfl (I.ixS rfl (by omega))) rfl rfl ?_
      refine AA.pure 7 rfl hok (by kernel_rfl) (fun w' b' => R.load rfl rfl (I.ldM (m2.kept b' (by omega)) rfl rfl)) rfl rfl ?_
      refine AA.pure 8 rfl hok (by kernel_rfl) (fun w' b' => R.move rfl rfl) rfl rfl ?_
      refine AA.pure 9 rfl hok (by kernel_rfl) (fun w' b' => R.move rfl rfl) rfl rfl ?_
      refine AA.pure 10 rfl hok (by kernel_rfl) (fun w' b' => R.quoNc rfl rfl rfl rfl (by omega) (by omega)) rfl rfl ?_
      refine AA.pure 11 rfl hok (by kernel_rfl) (fun w' b' => R.index rfl rfl rfl (I.ixS rfl (by omega))) rfl rfl ?_
      refine AA.pure 12 rfl hok (by kernel_rfl) (fun w' b' => R.load rfl rfl (I.ldM (m1.kept b' (by omega)) rfl rfl)) rfl rfl ?_
      refine AA.pure 13 rfl hok (by kernel_rfl) (fun w' b' => R.eqSF rfl rfl rfl rfl (by kernel_rfl) hle1 hle2 hfe) rfl rfl ?_
      refine AA.one 2 (by kernel_rfl) ?_
      (refine SR.call rfl (R.call rfl rfl rfl) rfl rfl (same_any m3 gn3 gl3 qb3 m gn gl qb N _ s _ M6 M) ?_; rintro e Wj1105 ⟨rfl, bj1102⟩; refine ⟨_, rfl, ?_⟩; rw [hS2])
      have zbj1102 := bj1102.size
      replace bj1071 := bj1071.trans (bj1102.mono bj1071.size)
      replace hd2 := hd2.up bj1102
      replace bj1008 := bj1008.trans (bj1102.mono bj1008.size)
      replace m2 := m2.up bj1102
      replace M6 := M6.up bj1102
      replace M := M.up bj1102
      replace hd := hd.up bj1102
      replace bj511 := bj511.trans (bj1102.mono bj511.size)
      replace bj447 := bj447.trans (bj1102.mono bj447.size)
      replace bj404 := bj404.trans (bj1102.mono bj404.size)
      replace bj281 := bj281.trans (bj1102.mono bj281.size)
      replace q := q.trans (bj1102.mono q.size)
      replace m1 := m1.up bj1102
      replace hok := hok.trans (bkept bj1102 (fun j h => by have := h.1; have := hok.size; omega))
      have yj1109 := hok.size
      refine ⟨hok, ?_⟩
      refine AA.pure 14 rfl hok (by kernel_rfl) (fun w' b' => R.eqBool rfl rfl rfl rfl rfl) rfl rfl ?_
      refine AA.pure 15 rfl hok (by kernel_rfl) (fun w' b' => R.move rfl rfl) rfl rfl ?_
      refine AA.one 16 (by kernel_rfl) ?_
      refine SR.call rfl (R.call rfl rfl rfl) rfl rfl (works_any _) ?_
      rintro e Wj1167 ⟨rfl, bj1166⟩
      have zbj1166 := bj1166.size
      replace bj1102 := bj1102.trans (bj1166.mono bj1102.size)
      replace bj1071 := bj1071.trans (bj1166.mono bj1071.size)
      replace hd2 := hd2.up bj1166
      replace bj1008 := bj1008.trans (bj1166.mono bj1008.size)
      replace m2 := m2.up bj1166
      replace M6 := M6.up bj1166
      replace M := M.up bj1166
      replace hd := hd.up bj1166
      replace bj511 := bj511.trans (bj1166.mono bj511.size)
      replace bj447 := bj447.trans (bj1166.mono bj447.size)
      replace bj404 := bj404.trans (bj1166.mono bj404.size)
      replace bj281 := bj281.trans (bj1166.mono bj281.size)
      replace q := q.trans (bj1166.mono q.size)
      replace m1 := m1.up bj1166
      replace hok := hok.trans (bkept bj1166 (fun j h => by have := h.1; have := hok.size; omega))
      have yj1168 := hok.size
      refine ⟨_, rfl, hok, ?_⟩
      refine AA.pure 17 rfl hok (by kernel_rfl) (fun w' b' => R.pick rfl rfl rfl) rfl rfl ?_
      refine AA.pure 18 rfl hok (by kernel_rfl) (fun w' b' => R.assign rfl rfl) rfl rfl ?_
      refine AA.done rfl ?_
      clear hok
      refine EE.thenN ?_
      refine CC.ret ?_
      refine EE.ret _ rfl rfl ?_
      exact ⟨rfl, q⟩
end Go.Proofs.Ytajfffoaebjnlaa
