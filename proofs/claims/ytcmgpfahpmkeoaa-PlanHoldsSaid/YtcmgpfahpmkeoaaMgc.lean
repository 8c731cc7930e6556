/- What the statements' walks use: Pb, Mesh, TNew, Pl, Phase, St, OrdM, Ord, Fwd. -/
import Derived.Deep.Upon
import Derived.Test.YtcmgpfahpmkeoaaProg
import Derived.Laws.StructEq
import Derived.WalkKit
import Derived.IntWalk
import Derived.Lib.Hide
import Derived.OneCell
import Derived.Tactics
import Derived.Tactics2
import Derived.Test.YtcmgpfahpmkeoaaMga
import Derived.Test.YtcmgpfahpmkeoaaMgb
/- pmem: Copy. pmem: equal lines, equal lists; Same. pmem: the open lines, one by one. pmem: values of a list, one by one; collected. pmem: what a crash may keep. pmem: Crash. -/
namespace Go.Proofs.Ytcmgpfahpmkeoaa
set_option linter.unusedVariables false
set_option linter.unusedSimpArgs false
open Go.RowKit Go.Shelf
set_option maxRecDepth 100000
set_option maxHeartbeats 4000000
theorem lE_ints (x : Ln) : lE x = intsZ .u64 (x.1.map fun n : Nat => (n : Int)) := by
  unfold lE ints intsZ
  rw [List.map_map]
  rfl
theorem ln_inj {x y : Ln} : (x.1.map fun n : Nat => (n : Int)) = y.1.map (fun n : Nat => (n : Int)) ↔ x = y := by
  constructor
  · intro h
    refine Subtype.ext ((List.map_inj_right (fun a b hab => ?_)).1 h)
    omega
  · rintro rfl
    rfl
section
variable {w : World} {n : Nat} {D : List Deferred} {M : Slots} {o : Oper} {a b : Operand} {t u : TypeId} {x y : Ln}
theorem R.neLT (ho : o.op = .binOp .neq t a b u) (hx : evM M a = some (.agg (lE x).toArray)) (hy : evM M b = some (.agg (lE y).toArray)) (hu : Try.prog.underlying t = some (.array 8 36)) (ht : aggB Try.prog t = true) (hg : Try.prog.eqGuardType Try.prog.depth t = false) (h : x = y) : Runs Try.prog n D M o w (.value (.bool false)) w := by
  rw [lE_ints] at hx hy
  exact R.neZT ho hx hy hu Try.underlying36 rfl (by decide) ht hg (by rw [List.length_map]; exact x.2) (by rw [List.length_map]; exact y.2) (ln_inj.2 h)
theorem R.neLF (ho : o.op = .binOp .neq t a b u) (hx : evM M a = some (.agg (lE x).toArray)) (hy : evM M b = some (.agg (lE y).toArray)) (hu : Try.prog.underlying t = some (.array 8 36)) (ht : aggB Try.prog t = true) (hg : Try.prog.eqGuardType Try.prog.depth t = false) (h : x ≠ y) : Runs Try.prog n D M o w (.value (.bool true)) w := by
  rw [lE_ints] at hx hy
  exact R.neZF ho hx hy hu Try.underlying36 rfl (by decide) ht hg (by rw [List.length_map]; exact x.2) (by rw [List.length_map]; exact y.2) (fun e => h (ln_inj.1 e))
end
set_option maxRecDepth 100000
set_option maxHeartbeats 4000000
theorem eqLs_any (a1 a2 : Option Addr) (N c1 c2 : Nat) (l1 l2 : List Ln) (w : World) (h1 : ReadsT lE 8 w (.slice a1 N c1) l1) (h2 : ReadsT lE 8 w (.slice a2 N c2) l2) (e1 : l1.length = N) (e2 : l2.length = N) (hN : N ≤ 16384) :
    Calls Try.prog 40 #[.slice a1 N c1, .slice a2 N c2] w fun e w' => e = .returned (.bool (decide (l1 = l2))) ∧ Below w.heap.size w w' := by
  have q := Below.refl w.heap.size w
  have hF1 : ∀ W, Below w.heap.size w W → ReadsT lE 8 W (.slice a1 N c1) l1 := fun W hb => h1.up hb
  have hF2 : ∀ W, Below w.heap.size w W → ReadsT lE 8 W (.slice a2 N c2) l2 := fun W hb => h2.up hb
  clear h1 h2
  refine X.fn Try.func40 rfl (n := 26) rfl rfl ?_
  refine CC.seq ?_
  refine CC.region ?_
  refine LL.val (R.assign rfl rfl) rfl rfl rfl ?_
  refine LL.nilS ?_
  refine CC.seq ?_
  refine CC.seq ?_
  refine CC.region ?_
  refine LL.val (R.move rfl rfl) rfl rfl rfl ?_
  refine LL.val (R.len rfl rfl rfl rfl) rfl rfl rfl ?_
  refine LL.val (R.move rfl rfl) rfl rfl rfl ?_
  refine LL.val (R.len rfl rfl rfl rfl) rfl rfl rfl ?_
  refine LL.val (R.neF rfl rfl rfl (by omega)) rfl rfl rfl ?_
  refine LL.nilS ?_
  refine CC.no rfl ?_
  refine CC.skip ?_
  refine EE.thenN ?_
  refine CC.seq ?_
  refine CC.seq ?_
  refine CC.region ?_
  refine LL.val (R.move rfl rfl) rfl rfl rfl ?_
  refine LL.val (R.len rfl rfl rfl rfl) rfl rfl rfl ?_
  refine LL.val (R.move rfl rfl) rfl rfl rfl ?_
  refine LL.nilS ?_
  refine CC.block ?_
  refine CC.loop (α := Nat) (fun i => [(0, .slice a1 N c1), (1, .slice a2 N c2), (12, .int .i64 (N : Int)), (13, .int .i64 (i : Int))]) (fun i W => i ≤ N ∧ Below w.heap.size w W ∧ l1.take i = l2.take i) (fun i => N - i) 0 ⟨rfl, rfl, rfl, rfl, trivial⟩ ⟨by show 0 ≤ N; omega, q, rfl⟩ ?_
  clear q
  rintro i W ⟨hi, q, ht⟩
  show CC none Try.prog _ 26 [] (sl [(0, .slice a1 N c1), (1, .slice a2 N c2), (12, .int .i64 (N : Int)), (13, .int .i64 (i : Int))]) _ W
  by_cases hlt : i < N
  case neg =>
    obtain rfl : i = N := by omega
    rw [List.take_of_length_le (by omega), List.take_of_length_le (by omega)] at ht
    rw [decide_eq_true ht]
    refine CC.seq ?_
    refine CC.region ?_
    refine LL.val (R.ltF rfl rfl rfl (by omega)) rfl rfl rfl ?_
    refine LL.nilS ?_
    refine CC.seq ?_
    refine CC.no rfl ?_
    refine CC.exit ?_
    refine EE.thenX ?_
    refine EE.thenX ?_
    refine EE.inX ?_
    refine EE.thenN ?_
    refine CC.seq ?_
    refine CC.region ?_
    refine LL.val (R.assign rfl rfl) rfl rfl rfl ?_
    refine LL.nilS ?_
    refine CC.ret ?_
    refine EE.ret _ rfl rfl ?_
    exact ⟨rfl, q⟩
  obtain ⟨x, hx⟩ : ∃ x, l1[i]? = some x := ⟨_, List.getElem?_eq_getElem (by omega)⟩
  obtain ⟨y, hy⟩ : ∃ y, l2[i]? = some y := ⟨_, List.getElem?_eq_getElem (by omega)⟩
  obtain ⟨b1, o1, rfl, k1, cs1⟩ := (hF1 W q).get lEnc hx
  obtain ⟨b2, o2, rfl, k2, cs2⟩ := (hF2 W q).get lEnc hy
  have m1 : CellsN W ⟨b1, o1 + i * 8, none⟩ 8 (lE x) := ⟨cs1, lE_len x⟩
  have m2 : CellsN W ⟨b2, o2 + i * 8, none⟩ 8 (lE y) := ⟨cs2, lE_len y⟩
  clear cs1 cs2
  by_cases hxy : x = y
  · refine CC.seq ?_
    refine CC.region ?_
    refine LL.val (R.ltT rfl rfl rfl (by omega)) rfl rfl rfl ?_
    refine LL.nilS ?_
    refine CC.seq ?_
    refine CC.yes rfl ?_
    refine CC.skip ?_
    refine EE.thenN ?_
    refine CC.seq ?_
    refine CC.block ?_
    refine CC.seq ?_
    refine CC.region ?_
    refine LL.val (R.move rfl rfl) rfl rfl rfl ?_
    refine LL.val (R.assign rfl rfl) rfl rfl rfl ?_
    refine LL.nilS ?_
    refine CC.seq ?_
    refine CC.quietB (by kernel_rfl) (by kernel_rfl) (fun Wb2 bb1 zb3 => ?_)
    replace q := q.trans (bb1.mono q.size)
    replace m1 := m1.up bb1
    replace m2 := m2.up bb1
    refine SS.val (R.move rfl rfl) rfl rfl ?_
    refine SS.val (R.move rfl rfl) rfl rfl ?_
    refine SS.val (R.index rfl rfl rfl (I.ixS rfl (by omega))) rfl rfl ?_
    refine SS.val (R.load rfl rfl (I.ldM (by assumption) rfl rfl)) rfl rfl ?_
    refine SS.val (R.move rfl rfl) rfl rfl ?_
    refine SS.val (R.move rfl rfl) rfl rfl ?_
    refine SS.val (R.index rfl rfl rfl (I.ixS rfl (by omega))) rfl rfl ?_
    refine SS.val (R.load rfl rfl (I.ldM (by assumption) rfl rfl)) rfl rfl ?_
    (refine SS.val (R.neLT rfl rfl rfl (by rfl) rfl (by kernel_rfl) hxy) rfl rfl ?_)
    refine SS.nilQ ?_
    refine EE.thenN ?_
    refine CC.no rfl ?_
    refine CC.skip ?_
    refine EE.inN ?_
    refine EE.thenN ?_
    refine CC.region ?_
    refine LL.val (R.addNc rfl rfl rfl rfl (by omega)) rfl rfl rfl ?_
    refine LL.val (R.move rfl rfl) rfl rfl rfl ?_
    refine LL.nil ?_
    exact EE.round (i + 1) ⟨rfl, rfl, rfl, rfl, trivial⟩ ⟨by show i + 1 ≤ N; omega, q, by rw [List.take_add_one, List.take_add_one, hx, hy, ht, hxy]⟩ (by show N - (i + 1) < N - i; omega)
  · rw [decide_eq_false (fun e => hxy (by rw [e, hy] at hx; exact (Option.some.inj hx).symm))]
    refine CC.seq ?_
    refine CC.region ?_
    refine LL.val (R.ltT rfl rfl rfl (by omega)) rfl rfl rfl ?_
    refine LL.nilS ?_
    refine CC.seq ?_
    refine CC.yes rfl ?_
    refine CC.skip ?_
    refine EE.thenN ?_
    refine CC.seq ?_
    refine CC.block ?_
    refine CC.seq ?_
    refine CC.region ?_
    refine LL.val (R.move rfl rfl) rfl rfl rfl ?_
    refine LL.val (R.assign rfl rfl) rfl rfl rfl ?_
    refine LL.nilS ?_
    refine CC.seq ?_
    refine CC.quietB (by kernel_rfl) (by kernel_rfl) (fun Wc2 bc1 zc3 => ?_)
    replace q := q.trans (bc1.mono q.size)
    replace m1 := m1.up bc1
    replace m2 := m2.up bc1
    refine SS.val (R.move rfl rfl) rfl rfl ?_
    refine SS.val (R.move rfl rfl) rfl rfl ?_
    refine SS.val (R.index rfl rfl rfl (I.ixS rfl (by omega))) rfl rfl ?_
    refine SS.val (R.load rfl rfl (I.ldM (by assumption) rfl rfl)) rfl rfl ?_
    refine SS.val (R.move rfl rfl) rfl rfl ?_
    refine SS.val (R.move rfl rfl) rfl rfl ?_
    refine SS.val (R.index rfl rfl rfl (I.ixS rfl (by omega))) rfl rfl ?_
    refine SS.val (R.load rfl rfl (I.ldM (by assumption) rfl rfl)) rfl rfl ?_
    (refine SS.val (R.neLF rfl rfl rfl (by rfl) rfl (by kernel_rfl) hxy) rfl rfl ?_)
    refine SS.nilQ ?_
    refine EE.thenN ?_
    refine CC.yes rfl ?_
    refine CC.seq ?_
    refine CC.region ?_
    refine LL.val (R.assign rfl rfl) rfl rfl rfl ?_
    refine LL.nilS ?_
    refine CC.ret ?_
    refine EE.inR ?_
    refine EE.thenR ?_
    refine EE.thenR ?_
    refine EE.inR ?_
    refine EE.thenR ?_
    refine EE.ret _ rfl rfl ?_
    exact ⟨rfl, q⟩
theorem q_eq : ∀ (s1 s2 : List Cl), s1.length = s2.length → (∀ (i : Nat) (c1 c2 : Cl), s1[i]? = some c1 → s2[i]? = some c2 → c1.2.2 ≠ none → c2.2.2 = c1.2.2) → nQ s1 ≤ nQ s2 ∧ (nQ s1 = nQ s2 → s1.map (fun c => c.2.2) = s2.map (fun c => c.2.2))
  | [], [], _, _ => ⟨Nat.le_refl _, fun _ => rfl⟩
  | [], _ :: _, h, _ => by simp at h
  | _ :: _, [], h, _ => by simp at h
  | c1 :: s1, c2 :: s2, hl, h => by
    have ih := q_eq s1 s2 (by simpa using hl) fun i d1 d2 h1 h2 => h (i + 1) d1 d2 (by simpa using h1) (by simpa using h2)
    have h0 := h 0 c1 c2 rfl rfl
    unfold nQ at *
    rw [List.countP_cons, List.countP_cons]
    cases e1 : c1.2.2 with
    | none =>
      simp only [Option.isSome_none, Bool.false_eq_true, if_false]
      cases e2 : c2.2.2 with
      | none =>
        simp only [Option.isSome_none, Bool.false_eq_true, if_false, List.map_cons, e1, e2]
        exact ⟨by omega, fun h => by rw [ih.2 (by omega)]⟩
      | some y =>
        simp only [Option.isSome_some, if_true]
        exact ⟨by omega, fun h => by omega⟩
    | some x =>
      have h2 := h0 (by rw [e1]; simp)
      rw [e1] at h2
      simp only [h2, Option.isSome_some, if_true, List.map_cons, e1]
      exact ⟨by omega, fun h => by rw [ih.2 (by omega)]⟩
theorem cl_ext {s1 s2 : List Cl} (h1 : s1.map (fun c => c.1) = s2.map (fun c => c.1)) (h2 : s1.map (fun c => c.2.1) = s2.map (fun c => c.2.1)) (h3 : s1.map (fun c => c.2.2) = s2.map (fun c => c.2.2)) : s1 = s2 := by
  have hl : s1.length = s2.length := by simpa using congrArg List.length h1
  refine List.ext_getElem hl fun i a b => ?_
  have g1 := congrArg (fun l => l[i]?) h1
  have g2 := congrArg (fun l => l[i]?) h2
  have g3 := congrArg (fun l => l[i]?) h3
  simp only [List.getElem?_map, List.getElem?_eq_getElem a, List.getElem?_eq_getElem b, Option.map_some, Option.some.injEq] at g1 g2 g3
  exact Prod.ext g1 (Prod.ext g2 g3)
theorem Mem.nowR {w : World} {m gn gl qb N : Nat} {s : List Cl} (M : Mem w m gn gl qb N s) : ReadsT lE 8 w (.slice (some ⟨gn, 0, none⟩) N N) (s.map fun c => c.1) := by
  have h : RowL w gn 85 ((s.map fun c => c.1).flatMap lE) := by rw [List.flatMap_map]; exact M.now
  have := h.readsT lEnc N (by rw [List.length_map, M.len]; exact Nat.le_refl _)
  rw [List.length_map, M.len] at this
  exact this
theorem Mem.lastR {w : World} {m gn gl qb N : Nat} {s : List Cl} (M : Mem w m gn gl qb N s) : ReadsT lE 8 w (.slice (some ⟨gl, 0, none⟩) N N) (s.map fun c => c.2.1) := by
  have h : RowL w gl 85 ((s.map fun c => c.2.1).flatMap lE) := by rw [List.flatMap_map]; exact M.last
  have := h.readsT lEnc N (by rw [List.length_map, M.len]; exact Nat.le_refl _)
  rw [List.length_map, M.len] at this
  exact this
theorem same_any (m1 gn1 gl1 qb1 m2 gn2 gl2 qb2 N : Nat) (s1 s2 : List Cl) (w : World) (M1 : Mem w m1 gn1 gl1 qb1 N s1) (M2 : Mem w m2 gn2 gl2 qb2 N s2) :
    Calls Try.prog 19 #[.pointer (some ⟨m1, 0, none⟩), .pointer (some ⟨m2, 0, none⟩)] w fun e w' => e = .returned (.bool (decide (s1 = s2))) ∧ Below w.heap.size w w' := by
  have q := Below.refl w.heap.size w
  have r1 := M1.row
  have r2 := M2.row
  have h0 := M1.pos
  have hN := M1.le
  have l1 := M1.len
  have l2 := M2.len
  have hM1 : ∀ W, Below w.heap.size w W → Mem W m1 gn1 gl1 qb1 N s1 := fun W b => M1.up b
  have hM2 : ∀ W, Below w.heap.size w W → Mem W m2 gn2 gl2 qb2 N s2 := fun W b => M2.up b
  have hE1 : ∀ W, Below w.heap.size w W → Calls Try.prog 40 #[.slice (some ⟨gn1, 0, none⟩) N N, .slice (some ⟨gn2, 0, none⟩) N N] W fun e w' => e = .returned (.bool (decide ((s1.map fun c => c.1) = s2.map fun c => c.1))) ∧ Below W.heap.size W w' := fun W b =>
    eqLs_any _ _ N N N _ _ W (hM1 W b).nowR (hM2 W b).nowR (by rw [List.length_map, l1]) (by rw [List.length_map, l2]) hN
  have hE2 : ∀ W, Below w.heap.size w W → Calls Try.prog 40 #[.slice (some ⟨gl1, 0, none⟩) N N, .slice (some ⟨gl2, 0, none⟩) N N] W fun e w' => e = .returned (.bool (decide ((s1.map fun c => c.2.1) = s2.map fun c => c.2.1))) ∧ Below W.heap.size W w' := fun W b =>
    eqLs_any _ _ N N N _ _ W (hM1 W b).lastR (hM2 W b).lastR (by rw [List.length_map, l1]) (by rw [List.length_map, l2]) hN
  clear M1 M2
  by_cases e1 : (s1.map fun c => c.1) = s2.map fun c => c.1
  case neg =>
    simp only [decide_eq_false e1] at hE1
    rw [decide_eq_false fun e => e1 (by rw [e])]
    refine X.fn Try.func19 rfl (n := 84) rfl rfl ?_
    refine CC.seq ?_
    refine CC.region ?_
    refine LL.val (R.assign rfl rfl) rfl rfl rfl ?_
    refine LL.nilS ?_
    refine CC.seq ?_
    refine CC.seq ?_
    refine CC.region ?_
    refine LL.val (R.move rfl rfl) rfl rfl rfl ?_
    refine LL.call (R.call rfl rfl rfl) rfl rfl rfl (none_F _ _ (by first | assumption | omega) (by first | assumption | omega)) ?_
    rintro e W' ⟨rfl, rfl⟩
    refine ⟨_, rfl, ?_⟩
    refine LL.val (R.move rfl rfl) rfl rfl rfl ?_
    refine LL.val (R.move rfl rfl) rfl rfl rfl ?_
    refine LL.call (R.call rfl rfl rfl) rfl rfl rfl (none_F _ _ (by first | assumption | omega) (by first | assumption | omega)) ?_
    rintro e W' ⟨rfl, rfl⟩
    refine ⟨_, rfl, ?_⟩
    refine LL.val (R.pick rfl rfl rfl) rfl rfl rfl ?_
    refine LL.nilS ?_
    refine CC.no rfl ?_
    refine CC.skip ?_
    refine EE.thenN ?_
    refine CC.seq ?_
    refine CC.seq ?_
    refine CC.grow (by kernel_rfl) (by kernel_rfl) ?_
    refine GG.val (fun w' b' => R.move rfl rfl) rfl rfl ?_
    refine GG.val (fun w' b' => R.nil rfl rfl) rfl rfl ?_
    refine GG.val (fun w' b' => R.field rfl rfl (I.fld rfl)) rfl rfl ?_
    refine GG.val (fun w' b' => R.field rfl rfl (I.fld rfl)) rfl rfl ?_
    refine GG.val (fun w' b' => R.load rfl rfl (I.ld1 rfl (RowL.cell (r1.up b') rfl))) rfl rfl ?_
    refine GG.val (fun w' b' => R.move rfl rfl) rfl rfl ?_
    refine GG.val (fun w' b' => R.nil rfl rfl) rfl rfl ?_
    refine GG.val (fun w' b' => R.field rfl rfl (I.fld rfl)) rfl rfl ?_
    refine GG.val (fun w' b' => R.field rfl rfl (I.fld rfl)) rfl rfl ?_
    refine GG.val (fun w' b' => R.load rfl rfl (I.ld1 rfl (RowL.cell (r2.up b') rfl))) rfl rfl ?_
    refine GG.call (fun w' => (R.call rfl rfl rfl)) rfl rfl (fun w' b' => (hE1 w' b').mono fun e W' h => ⟨h.1, b'.trans (h.2.mono b'.size)⟩) ?_
    refine GG.val (fun w' b' => R.not rfl rfl) rfl rfl ?_
    refine GG.val (fun w' b' => R.move rfl rfl) rfl rfl ?_
    refine GG.skip rfl rfl ?_
    refine GG.skip rfl rfl ?_
    refine GG.skip rfl rfl ?_
    refine GG.skip rfl rfl ?_
    refine GG.skip rfl rfl ?_
    refine GG.skip rfl rfl ?_
    refine GG.skip rfl rfl ?_
    refine GG.skip rfl rfl ?_
    refine GG.skip rfl rfl ?_
    refine GG.skip rfl rfl ?_
    refine GG.val (fun w' b' => R.pick rfl rfl rfl) rfl rfl ?_
    refine GG.val (fun w' b' => R.move rfl rfl) rfl rfl ?_
    refine GG.skip rfl rfl ?_
    refine GG.skip rfl rfl ?_
    refine GG.skip rfl rfl ?_
    refine GG.skip rfl rfl ?_
    refine GG.skip rfl rfl ?_
    refine GG.skip rfl rfl ?_
    refine GG.skip rfl rfl ?_
    refine GG.skip rfl rfl ?_
    refine GG.skip rfl rfl ?_
    refine GG.skip rfl rfl ?_
    refine GG.skip rfl rfl ?_
    refine GG.val (fun w' b' => R.pick rfl rfl rfl) rfl rfl ?_
    refine GG.nilQ (fun W5 b4 => ?_)
    have zb4 := b4.size
    replace q := q.trans (b4.mono q.size)
    replace r1 := r1.up b4
    replace r2 := r2.up b4
    refine EE.thenN ?_
    refine CC.yes rfl ?_
    refine CC.seq ?_
    refine CC.region ?_
    refine LL.val (R.assign rfl rfl) rfl rfl rfl ?_
    refine LL.nilS ?_
    refine CC.ret ?_
    refine EE.thenR ?_
    refine EE.ret _ rfl rfl ?_
    exact ⟨rfl, q⟩
  simp only [decide_eq_true e1] at hE1
  by_cases e2 : (s1.map fun c => c.2.1) = s2.map fun c => c.2.1
  case neg =>
    simp only [decide_eq_false e2] at hE2
    rw [decide_eq_false fun e => e2 (by rw [e])]
    refine X.fn Try.func19 rfl (n := 84) rfl rfl ?_
    refine CC.seq ?_
    refine CC.region ?_
    refine LL.val (R.assign rfl rfl) rfl rfl rfl ?_
    refine LL.nilS ?_
    refine CC.seq ?_
    refine CC.seq ?_
    refine CC.region ?_
    refine LL.val (R.move rfl rfl) rfl rfl rfl ?_
    refine LL.call (R.call rfl rfl rfl) rfl rfl rfl (none_F _ _ (by first | assumption | omega) (by first | assumption | omega)) ?_
    rintro e W' ⟨rfl, rfl⟩
    refine ⟨_, rfl, ?_⟩
    refine LL.val (R.move rfl rfl) rfl rfl rfl ?_
    refine LL.val (R.move rfl rfl) rfl rfl rfl ?_
    refine LL.call (R.call rfl rfl rfl) rfl rfl rfl (none_F _ _ (by first | assumption | omega) (by first | assumption | omega)) ?_
    rintro e W' ⟨rfl, rfl⟩
    refine ⟨_, rfl, ?_⟩
    refine LL.val (R.pick rfl rfl rfl) rfl rfl rfl ?_
    refine LL.nilS ?_
    refine CC.no rfl ?_
    refine CC.skip ?_
    refine EE.thenN ?_
    refine CC.seq ?_
    refine CC.seq ?_
    refine CC.grow (by kernel_rfl) (by kernel_rfl) ?_
    refine GG.val (fun w' b' => R.move rfl rfl) rfl rfl ?_
    refine GG.val (fun w' b' => R.nil rfl rfl) rfl rfl ?_
    refine GG.val (fun w' b' => R.field rfl rfl (I.fld rfl)) rfl rfl ?_
    refine GG.val (fun w' b' => R.field rfl rfl (I.fld rfl)) rfl rfl ?_
    refine GG.val (fun w' b' => R.load rfl rfl (I.ld1 rfl (RowL.cell (r1.up b') rfl))) rfl rfl ?_
    refine GG.val (fun w' b' => R.move rfl rfl) rfl rfl ?_
    refine GG.val (fun w' b' => R.nil rfl rfl) rfl rfl ?_
    refine GG.val (fun w' b' => R.field rfl rfl (I.fld rfl)) rfl rfl ?_
    refine GG.val (fun w' b' => R.field rfl rfl (I.fld rfl)) rfl rfl ?_
    refine GG.val (fun w' b' => R.load rfl rfl (I.ld1 rfl (RowL.cell (r2.up b') rfl))) rfl rfl ?_
    refine GG.call (fun w' => (R.call rfl rfl rfl)) rfl rfl (fun w' b' => (hE1 w' b').mono fun e W' h => ⟨h.1, b'.trans (h.2.mono b'.size)⟩) ?_
    refine GG.val (fun w' b' => R.not rfl rfl) rfl rfl ?_
    refine GG.val (fun w' b' => R.move rfl rfl) rfl rfl ?_
    refine GG.val (fun w' b' => R.move rfl rfl) rfl rfl ?_
    refine GG.val (fun w' b' => R.nil rfl rfl) rfl rfl ?_
    refine GG.val (fun w' b' => R.field rfl rfl (I.fld rfl)) rfl rfl ?_
    refine GG.val (fun w' b' => R.load rfl rfl (I.ld1 rfl (RowL.cell (r1.up b') rfl))) rfl rfl ?_
    refine GG.val (fun w' b' => R.move rfl rfl) rfl rfl ?_
    refine GG.val (fun w' b' => R.nil rfl rfl) rfl rfl ?_
    refine GG.val (fun w' b' => R.field rfl rfl (I.fld rfl)) rfl rfl ?_
    refine GG.val (fun w' b' => R.load rfl rfl (I.ld1 rfl (RowL.cell (r2.up b') rfl))) rfl rfl ?_
    refine GG.call (fun w' => (R.call rfl rfl rfl)) rfl rfl (fun w' b' => (hE2 w' b').mono fun e W' h => ⟨h.1, b'.trans (h.2.mono b'.size)⟩) ?_
    refine GG.val (fun w' b' => R.not rfl rfl) rfl rfl ?_
    refine GG.val (fun w' b' => R.pick rfl rfl rfl) rfl rfl ?_
    refine GG.val (fun w' b' => R.move rfl rfl) rfl rfl ?_
    refine GG.skip rfl rfl ?_
    refine GG.skip rfl rfl ?_
    refine GG.skip rfl rfl ?_
    refine GG.skip rfl rfl ?_
    refine GG.skip rfl rfl ?_
    refine GG.skip rfl rfl ?_
    refine GG.skip rfl rfl ?_
    refine GG.skip rfl rfl ?_
    refine GG.skip rfl rfl ?_
    refine GG.skip rfl rfl ?_
    refine GG.skip rfl rfl ?_
    refine GG.val (fun w' b' => R.pick rfl rfl rfl) rfl rfl ?_
    refine GG.nilQ (fun Wa5 ba4 => ?_)
    have zba4 := ba4.size
    replace q := q.trans (ba4.mono q.size)
    replace r1 := r1.up ba4
    replace r2 := r2.up ba4
    refine EE.thenN ?_
    refine CC.yes rfl ?_
    refine CC.seq ?_
    refine CC.region ?_
    refine LL.val (R.assign rfl rfl) rfl rfl rfl ?_
    refine LL.nilS ?_
    refine CC.ret ?_
    refine EE.thenR ?_
    refine EE.ret _ rfl rfl ?_
    exact ⟨rfl, q⟩
  simp only [decide_eq_true e2] at hE2
  by_cases e3 : (nQ s1 : Int) = (nQ s2 : Int)
  case neg =>
    rw [decide_eq_false fun e => e3 (by rw [e])]
    refine X.fn Try.func19 rfl (n := 84) rfl rfl ?_
    refine CC.seq ?_
    refine CC.region ?_
    refine LL.val (R.assign rfl rfl) rfl rfl rfl ?_
    refine LL.nilS ?_
    refine CC.seq ?_
    refine CC.seq ?_
    refine CC.region ?_
    refine LL.val (R.move rfl rfl) rfl rfl rfl ?_
    refine LL.call (R.call rfl rfl rfl) rfl rfl rfl (none_F _ _ (by first | assumption | omega) (by first | assumption | omega)) ?_
    rintro e W' ⟨rfl, rfl⟩
    refine ⟨_, rfl, ?_⟩
    refine LL.val (R.move rfl rfl) rfl rfl rfl ?_
    refine LL.val (R.move rfl rfl) rfl rfl rfl ?_
    refine LL.call (R.call rfl rfl rfl) rfl rfl rfl (none_F _ _ (by first | assumption | omega) (by first | assumption | omega)) ?_
    rintro e W' ⟨rfl, rfl⟩
    refine ⟨_, rfl, ?_⟩
    refine LL.val (R.pick rfl rfl rfl) rfl rfl rfl ?_
    refine LL.nilS ?_
    refine CC.no rfl ?_
    refine CC.skip ?_
    refine EE.thenN ?_
    refine CC.seq ?_
    refine CC.seq ?_
    refine CC.grow (by kernel_rfl) (by kernel_rfl) ?_
    refine GG.val (fun w' b' => R.move rfl rfl) rfl rfl ?_
    refine GG.val (fun w' b' => R.nil rfl rfl) rfl rfl ?_
    refine GG.val (fun w' b' => R.field rfl rfl (I.fld rfl)) rfl rfl ?_
    refine GG.val (fun w' b' => R.field rfl rfl (I.fld rfl)) rfl rfl ?_
    refine GG.val (fun w' b' => R.load rfl rfl (I.ld1 rfl (RowL.cell (r1.up b') rfl))) rfl rfl ?_
    refine GG.val (fun w' b' => R.move rfl rfl) rfl rfl ?_
    refine GG.val (fun w' b' => R.nil rfl rfl) rfl rfl ?_
    refine GG.val (fun w' b' => R.field rfl rfl (I.fld rfl)) rfl rfl ?_
    refine GG.val (fun w' b' => R.field rfl rfl (I.fld rfl)) rfl rfl ?_
    refine GG.val (fun w' b' => R.load rfl rfl (I.ld1 rfl (RowL.cell (r2.up b') rfl))) rfl rfl ?_
    refine GG.call (fun w' => (R.call rfl rfl rfl)) rfl rfl (fun w' b' => (hE1 w' b').mono fun e W' h => ⟨h.1, b'.trans (h.2.mono b'.size)⟩) ?_
    refine GG.val (fun w' b' => R.not rfl rfl) rfl rfl ?_
    refine GG.val (fun w' b' => R.move rfl rfl) rfl rfl ?_
    refine GG.val (fun w' b' => R.move rfl rfl) rfl rfl ?_
    refine GG.val (fun w' b' => R.nil rfl rfl) rfl rfl ?_
    refine GG.val (fun w' b' => R.field rfl rfl (I.fld rfl)) rfl rfl ?_
    refine GG.val (fun w' b' => R.load rfl rfl (I.ld1 rfl (RowL.cell (r1.up b') rfl))) rfl rfl ?_
    refine GG.val (fun w' b' => R.move rfl rfl) rfl rfl ?_
    refine GG.val (fun w' b' => R.nil rfl rfl) rfl rfl ?_
    refine GG.val (fun w' b' => R.field rfl rfl (I.fld rfl)) rfl rfl ?_
    refine GG.val (fun w' b' => R.load rfl rfl (I.ld1 rfl (RowL.cell (r2.up b') rfl))) rfl rfl ?_
    refine GG.call (fun w' => (R.call rfl rfl rfl)) rfl rfl (fun w' b' => (hE2 w' b').mono fun e W' h => ⟨h.1, b'.trans (h.2.mono b'.size)⟩) ?_
    refine GG.val (fun w' b' => R.not rfl rfl) rfl rfl ?_
    refine GG.val (fun w' b' => R.pick rfl rfl rfl) rfl rfl ?_
    refine GG.val (fun w' b' => R.move rfl rfl) rfl rfl ?_
    refine GG.val (fun w' b' => R.move rfl rfl) rfl rfl ?_
    refine GG.val (fun w' b' => R.nil rfl rfl) rfl rfl ?_
    refine GG.val (fun w' b' => R.field rfl rfl (I.fld rfl)) rfl rfl ?_
    refine GG.val (fun w' b' => R.load rfl rfl (I.ld1 rfl (RowL.cell (r1.up b') rfl))) rfl rfl ?_
    (refine GG.val (fun w' b' => R.mlen rfl rfl (by rfl) (hM1 w' b').qs) rfl rfl ?_)
    refine GG.val (fun w' b' => R.move rfl rfl) rfl rfl ?_
    refine GG.val (fun w' b' => R.nil rfl rfl) rfl rfl ?_
    refine GG.val (fun w' b' => R.field rfl rfl (I.fld rfl)) rfl rfl ?_
    refine GG.val (fun w' b' => R.load rfl rfl (I.ld1 rfl (RowL.cell (r2.up b') rfl))) rfl rfl ?_
    (refine GG.val (fun w' b' => R.mlen rfl rfl (by rfl) (hM2 w' b').qs) rfl rfl ?_)
    (refine GG.val (fun w' b' => R.neT rfl rfl rfl e3) rfl rfl ?_)
    refine GG.val (fun w' b' => R.pick rfl rfl rfl) rfl rfl ?_
    refine GG.nilQ (fun Wb5 bb4 => ?_)
    have zbb4 := bb4.size
    replace q := q.trans (bb4.mono q.size)
    replace r1 := r1.up bb4
    replace r2 := r2.up bb4
    refine EE.thenN ?_
    refine CC.yes rfl ?_
    refine CC.seq ?_
    refine CC.region ?_
    refine LL.val (R.assign rfl rfl) rfl rfl rfl ?_
    refine LL.nilS ?_
    refine CC.ret ?_
    refine EE.thenR ?_
    refine EE.ret _ rfl rfl ?_
    exact ⟨rfl, q⟩
  refine X.fn Try.func19 rfl (n := 84) rfl rfl ?_
  refine CC.seq ?_
  refine CC.region ?_
  refine LL.val (R.assign rfl rfl) rfl rfl rfl ?_
  refine LL.nilS ?_
  refine CC.seq ?_
  refine CC.seq ?_
  refine CC.region ?_
  refine LL.val (R.move rfl rfl) rfl rfl rfl ?_
  refine LL.call (R.call rfl rfl rfl) rfl rfl rfl (none_F _ _ (by first | assumption | omega) (by first | assumption | omega)) ?_
  rintro e W' ⟨rfl, rfl⟩
  refine ⟨_, rfl, ?_⟩
  refine LL.val (R.move rfl rfl) rfl rfl rfl ?_
  refine LL.val (R.move rfl rfl) rfl rfl rfl ?_
  refine LL.call (R.call rfl rfl rfl) rfl rfl rfl (none_F _ _ (by first | assumption | omega) (by first | assumption | omega)) ?_
  rintro e W' ⟨rfl, rfl⟩
  refine ⟨_, rfl, ?_⟩
  refine LL.val (R.pick rfl rfl rfl) rfl rfl rfl ?_
  refine LL.nilS ?_
  refine CC.no rfl ?_
  refine CC.skip ?_
  refine EE.thenN ?_
  refine CC.seq ?_
  refine CC.seq ?_
  refine CC.grow (by kernel_rfl) (by kernel_rfl) ?_
  refine GG.val (fun w' b' => R.move rfl rfl) rfl rfl ?_
  refine GG.val (fun w' b' => R.nil rfl rfl) rfl rfl ?_
  refine GG.val (fun w' b' => R.field rfl rfl (I.fld rfl)) rfl rfl ?_
  refine GG.val (fun w' b' => R.field rfl rfl (I.fld rfl)) rfl rfl ?_
  refine GG.val (fun w' b' => R.load rfl rfl (I.ld1 rfl (RowL.cell (r1.up b') rfl))) rfl rfl ?_
  refine GG.val (fun w' b' => R.move rfl rfl) rfl rfl ?_
  refine GG.val (fun w' b' => R.nil rfl rfl) rfl rfl ?_
  refine GG.val (fun w' b' => R.field rfl rfl (I.fld rfl)) rfl rfl ?_
  refine GG.val (fun w' b' => R.field rfl rfl (I.fld rfl)) rfl rfl ?_
  refine GG.val (fun w' b' => R.load rfl rfl (I.ld1 rfl (RowL.cell (r2.up b') rfl))) rfl rfl ?_
  refine GG.call (fun w' => (R.call rfl rfl rfl)) rfl rfl (fun w' b' => (hE1 w' b').mono fun e W' h => ⟨h.1, b'.trans (h.2.mono b'.size)⟩) ?_
  refine GG.val (fun w' b' => R.not rfl rfl) rfl rfl ?_
  refine GG.val (fun w' b' => R.move rfl rfl) rfl rfl ?_
  refine GG.val (fun w' b' => R.move rfl rfl) rfl rfl ?_
  refine GG.val (fun w' b' => R.nil rfl rfl) rfl rfl ?_
  refine GG.val (fun w' b' => R.field rfl rfl (I.fld rfl)) rfl rfl ?_
  refine GG.val (fun w' b' => R.load rfl rfl (I.ld1 rfl (RowL.cell (r1.up b') rfl))) rfl rfl ?_
  refine GG.val (fun w' b' => R.move rfl rfl) rfl rfl ?_
  refine GG.val (fun w' b' => R.nil rfl rfl) rfl rfl ?_
  refine GG.val (fun w' b' => R.field rfl rfl (I.fld rfl)) rfl rfl ?_
  refine GG.val (fun w' b' => R.load rfl rfl (I.ld1 rfl (RowL.cell (r2.up b') rfl))) rfl rfl ?_
  refine GG.call (fun w' => (R.call rfl rfl rfl)) rfl rfl (fun w' b' => (hE2 w' b').mono fun e W' h => ⟨h.1, b'.trans (h.2.mono b'.size)⟩) ?_
  refine GG.val (fun w' b' => R.not rfl rfl) rfl rfl ?_
  refine GG.val (fun w' b' => R.pick rfl rfl rfl) rfl rfl ?_
  refine GG.val (fun w' b' => R.move rfl rfl) rfl rfl ?_
  refine GG.val (fun w' b' => R.move rfl rfl) rfl rfl ?_
  refine GG.val (fun w' b' => R.nil rfl rfl) rfl rfl ?_
  refine GG.val (fun w' b' => R.field rfl rfl (I.fld rfl)) rfl rfl ?_
  refine GG.val (fun w' b' => R.load rfl rfl (I.ld1 rfl (RowL.cell (r1.up b') rfl))) rfl rfl ?_
  (refine GG.val (fun w' b' => R.mlen rfl rfl (by rfl) (hM1 w' b').qs) rfl rfl ?_)
  refine GG.val (fun w' b' => R.move rfl rfl) rfl rfl ?_
  refine GG.val (fun w' b' => R.nil rfl rfl) rfl rfl ?_
  refine GG.val (fun w' b' => R.field rfl rfl (I.fld rfl)) rfl rfl ?_
  refine GG.val (fun w' b' => R.load rfl rfl (I.ld1 rfl (RowL.cell (r2.up b') rfl))) rfl rfl ?_
  (refine GG.val (fun w' b' => R.mlen rfl rfl (by rfl) (hM2 w' b').qs) rfl rfl ?_)
  (refine GG.val (fun w' b' => R.neF rfl rfl rfl e3) rfl rfl ?_)
  refine GG.val (fun w' b' => R.pick rfl rfl rfl) rfl rfl ?_
  refine GG.nilQ (fun Wc306 bc305 => ?_)
  have zbc305 := bc305.size
  replace q := q.trans (bc305.mono q.size)
  replace r1 := r1.up bc305
  replace r2 := r2.up bc305
  refine EE.thenN ?_
  refine CC.no rfl ?_
  refine CC.skip ?_
  refine EE.thenN ?_
  refine CC.seq ?_
  refine CC.seq ?_
  refine CC.region ?_
  refine LL.val (R.move rfl rfl) rfl rfl rfl ?_
  refine LL.val (R.nil rfl rfl) rfl rfl rfl ?_
  refine LL.val (R.field rfl rfl (I.fld rfl)) rfl rfl rfl ?_
  refine LL.val (R.load rfl rfl (I.ld1 rfl (RowL.cell r1 rfl))) rfl rfl rfl ?_
  have lc347 := r1.lt
  have lc348 := r2.lt
  (refine LL.mrange rfl rfl iKeys rfl (hM1 _ q).qs rfl rfl ?_; intro Wc346 it eit rg bc343 zit)
  have zbc343 := bc343.size
  replace bc305 := bc305.trans (bc343.mono bc305.size)
  replace q := q.trans (bc343.mono q.size)
  replace r1 := r1.up bc343
  replace r2 := r2.up bc343
  refine LL.nilS ?_
  refine CC.block ?_
  have yk := q.size
  have lt2 := (hM2 _ (Below.refl _ _)).lts
  have lt1 := (hM1 _ (Below.refl _ _)).lts
  refine CC.loop (α := (Nat → Prop) × Nat) (fun _ => [(0, .pointer (some ⟨m1, 0, none⟩)), (1, .pointer (some ⟨m2, 0, none⟩)), (62, .pointer (some ⟨it, 0, none⟩))]) (fun st W => Below w.heap.size w W ∧ it < W.heap.size ∧ RangeK (.int .i64) iK lV W qb1 it (nQ s1) (qF s1) st.1 st.2 ∧ ∀ i, ¬ st.1 i → qF s1 i ≠ none → qF s2 i = qF s1 i) (fun st => st.2) ((fun i => qF s1 i ≠ none), nQ s1) ⟨rfl, rfl, rfl, trivial⟩
    ⟨q, by omega, rg, fun i h h2 => absurd h2 h⟩ ?_
  clear q rg r1 r2
  rintro ⟨left, cnt⟩ W ⟨q, hit, rg, hall⟩
  simp only at rg hall
  show CC none Try.prog _ 84 [] (sl [(0, .pointer (some ⟨m1, 0, none⟩)), (1, .pointer (some ⟨m2, 0, none⟩)), (62, .pointer (some ⟨it, 0, none⟩))]) _ W
  have yk2 := q.size
  refine CC.seq ?_
  refine CC.region ?_
  refine LL.mnext rfl rfl iKeys rg rfl rfl (fun hno => ?_) (fun i x W5 cn hlf hfi rg2 hcn g5 z5 hen => ?_)
  · have heq : s1 = s2 := by
      refine cl_ext e1 e2 ((q_eq s1 s2 (by omega) fun i c1 c2 h1 h2 h3 => ?_).2 (by omega))
      have := hall i (hno i) (by rw [qF_at h1]; exact h3)
      rwa [qF_at h1, qF_at h2] at this
    rw [decide_eq_true heq]
    clear rg
    refine LL.val (R.extract rfl rfl rfl) rfl rfl rfl ?_
    refine LL.nilS ?_
    refine CC.seq ?_
    refine CC.no rfl ?_
    refine CC.exit ?_
    refine EE.thenX ?_
    refine EE.thenX ?_
    refine EE.inX ?_
    refine EE.thenN ?_
    refine CC.seq ?_
    refine CC.region ?_
    refine LL.val (R.assign rfl rfl) rfl rfl rfl ?_
    refine LL.nilS ?_
    refine CC.ret ?_
    refine EE.ret _ rfl rfl ?_
    exact ⟨rfl, q⟩
  · replace q := q.grown g5 q.size (by rintro k ⟨⟩; omega)
    clear rg
    have r2 := (hM2 _ q).row
    cases hy : qF s2 i with
    | none =>
      rw [decide_eq_false fun e => by rw [e, hy] at hfi; cases hfi]
      have hq2 := (hM2 _ q).qs
      refine LL.val (R.extract rfl rfl rfl) rfl rfl rfl ?_
      refine LL.nilS ?_
      refine CC.seq ?_
      refine CC.yes rfl ?_
      refine CC.skip ?_
      refine EE.thenN ?_
      refine CC.block ?_
      refine CC.seq ?_
      refine CC.region ?_
      (refine LL.val (R.entry rfl rfl hen) rfl rfl rfl ?_)
      refine LL.val (R.extract rfl rfl rfl) rfl rfl rfl ?_
      refine LL.val (R.extract rfl rfl rfl) rfl rfl rfl ?_
      have lf29 := r2.lt
      refine LL.alloc ([Value.int IntKind.u64 0, Value.int IntKind.u64 0, Value.int IntKind.u64 0, Value.int IntKind.u64 0, Value.int IntKind.u64 0, Value.int IntKind.u64 0, Value.int IntKind.u64 0, Value.int IntKind.u64 0]) rfl rfl rfl rfl rfl ?_
      intro Wf31 gf32 egf32 rf33 zf34 bf30
      replace rg2 := rg2.up bf30
      replace q := q.trans (bf30.mono q.size)
      replace r2 := r2.up bf30
      replace hq2 := hq2.up bf30
      refine LL.val (R.assign rfl rfl) rfl rfl rfl ?_
      (refine LL.storeAll rfl rfl rfl rfl (lE_len _) (by assumption) rfl (lE_one _) rfl rfl ?_; intro Wf45 rxf46 grf43 zzf48; have cyf47 := ln_cells rxf46)
      have zgrf43 := grf43.size
      replace bf30 := bf30.grown grf43 bf30.size (by rintro k ⟨⟩; omega)
      replace rg2 := rg2.gr grf43 (by have := rg2.lt; omega)
      replace q := q.grown grf43 q.size (by rintro k ⟨⟩; omega)
      replace r2 := r2.gr grf43 (by have := r2.lt; omega)
      replace hq2 := hq2.gr grf43 (by have := hq2.lt; omega)
      refine LL.nilS ?_
      refine CC.seq ?_
      refine CC.region ?_
      refine LL.val (R.move rfl rfl) rfl rfl rfl ?_
      refine LL.val (R.nil rfl rfl) rfl rfl rfl ?_
      refine LL.val (R.field rfl rfl (I.fld rfl)) rfl rfl rfl ?_
      refine LL.val (R.load rfl rfl (I.ld1 rfl (RowL.cell r2 rfl))) rfl rfl rfl ?_
      refine LL.val (R.move rfl rfl) rfl rfl rfl ?_
      (refine LL.val (R.lookKF (z := lV zL) rfl rfl iKeys (by rfl) (by kernel_rfl) hq2 i rfl hy) rfl rfl rfl ?_)
      refine LL.val (R.move rfl rfl) rfl rfl rfl ?_
      refine LL.val (R.extract rfl rfl rfl) rfl rfl rfl ?_
      refine LL.val (R.extract rfl rfl rfl) rfl rfl rfl ?_
      have lf119 := rxf46.lt
      have lf120 := r2.lt
      refine LL.alloc ([Value.int IntKind.u64 0, Value.int IntKind.u64 0, Value.int IntKind.u64 0, Value.int IntKind.u64 0, Value.int IntKind.u64 0, Value.int IntKind.u64 0, Value.int IntKind.u64 0, Value.int IntKind.u64 0]) rfl rfl rfl rfl rfl ?_
      intro Wf122 gf123 egf123 rf124 zf125 bf121
      replace rxf46 := rxf46.up bf121
      replace cyf47 := cyf47.up bf121
      replace bf30 := bf30.trans (bf121.mono bf30.size)
      replace rg2 := rg2.up bf121
      replace q := q.trans (bf121.mono q.size)
      replace r2 := r2.up bf121
      replace hq2 := hq2.up bf121
      refine LL.storeN (vs := [(fun n => Value.int IntKind.u64 ↑n) 0, (fun n => Value.int IntKind.u64 ↑n) 0, (fun n => Value.int IntKind.u64 ↑n) 0, (fun n => Value.int IntKind.u64 ↑n) 0, (fun n => Value.int IntKind.u64 ↑n) 0, (fun n => Value.int IntKind.u64 ↑n) 0, (fun n => Value.int IntKind.u64 ↑n) 0, (fun n => Value.int IntKind.u64 ↑n) 0]) rfl rfl rfl rfl rf124 (by exact Nat.le_of_ble_eq_true rfl) (ones_of rfl) rfl rfl ?_
      intro Wf134 rf135 bf133 zf136
      have hlbf133 := rf124.lt
      replace rf135 : RowL Wf134 _ 85 [(fun n => Value.int IntKind.u64 ↑n) 0, (fun n => Value.int IntKind.u64 ↑n) 0, (fun n => Value.int IntKind.u64 ↑n) 0, (fun n => Value.int IntKind.u64 ↑n) 0, (fun n => Value.int IntKind.u64 ↑n) 0, (fun n => Value.int IntKind.u64 ↑n) 0, (fun n => Value.int IntKind.u64 ↑n) 0, (fun n => Value.int IntKind.u64 ↑n) 0] := rf135
      clear rf124
      replace bf121 := bf121.grown bf133 bf121.size (by rintro k ⟨⟩; omega)
      replace rxf46 := rxf46.gr bf133 (by have := rxf46.lt; omega)
      replace cyf47 := cyf47.gr bf133 (by have := cyf47.lt; omega)
      replace bf30 := bf30.grown bf133 bf30.size (by rintro k ⟨⟩; omega)
      replace rg2 := rg2.gr bf133 (by have := rg2.lt; omega)
      replace q := q.grown bf133 q.size (by rintro k ⟨⟩; omega)
      replace r2 := r2.gr bf133 (by have := r2.lt; omega)
      replace hq2 := hq2.gr bf133 (by have := hq2.lt; omega)
      have rf124 := rf135
      clear rf135
      refine LL.val (R.assign rfl rfl) rfl rfl rfl ?_
      refine LL.nilS ?_
      refine CC.seq ?_
      refine CC.region ?_
      refine LL.val (R.move rfl rfl) rfl rfl rfl ?_
      refine LL.val (R.not rfl rfl) rfl rfl rfl ?_
      refine LL.val (R.move rfl rfl) rfl rfl rfl ?_
      refine LL.skip rfl rfl ?_
      refine LL.skip rfl rfl ?_
      refine LL.skip rfl rfl ?_
      refine LL.val (R.pick rfl rfl rfl) rfl rfl rfl ?_
      refine LL.nilS ?_
      refine CC.yes rfl ?_
      refine CC.seq ?_
      refine CC.region ?_
      refine LL.val (R.assign rfl rfl) rfl rfl rfl ?_
      refine LL.nilS ?_
      refine CC.ret ?_
      refine EE.inR ?_
      refine EE.thenR ?_
      refine EE.inR ?_
      refine EE.thenR ?_
      refine EE.ret _ rfl rfl ?_
      exact ⟨rfl, q⟩
    | some y =>
      have hq2 := (hM2 _ q).qs
      by_cases hxy : y = x
      · refine LL.val (R.extract rfl rfl rfl) rfl rfl rfl ?_
        refine LL.nilS ?_
        refine CC.seq ?_
        refine CC.yes rfl ?_
        refine CC.skip ?_
        refine EE.thenN ?_
        refine CC.block ?_
        refine CC.seq ?_
        refine CC.region ?_
        (refine LL.val (R.entry rfl rfl hen) rfl rfl rfl ?_)
        refine LL.val (R.extract rfl rfl rfl) rfl rfl rfl ?_
        refine LL.val (R.extract rfl rfl rfl) rfl rfl rfl ?_
        have lg29 := r2.lt
        refine LL.alloc ([Value.int IntKind.u64 0, Value.int IntKind.u64 0, Value.int IntKind.u64 0, Value.int IntKind.u64 0, Value.int IntKind.u64 0, Value.int IntKind.u64 0, Value.int IntKind.u64 0, Value.int IntKind.u64 0]) rfl rfl rfl rfl rfl ?_
        intro Wg31 gg32 egg32 rg33 zg34 bg30
        replace rg2 := rg2.up bg30
        replace q := q.trans (bg30.mono q.size)
        replace r2 := r2.up bg30
        replace hq2 := hq2.up bg30
        refine LL.val (R.assign rfl rfl) rfl rfl rfl ?_
        (refine LL.storeAll rfl rfl rfl rfl (lE_len _) (by assumption) rfl (lE_one _) rfl rfl ?_; intro Wg45 rxg46 grg43 zzg48; have cyg47 := ln_cells rxg46)
        have zgrg43 := grg43.size
        replace bg30 := bg30.grown grg43 bg30.size (by rintro k ⟨⟩; omega)
        replace rg2 := rg2.gr grg43 (by have := rg2.lt; omega)
        replace q := q.grown grg43 q.size (by rintro k ⟨⟩; omega)
        replace r2 := r2.gr grg43 (by have := r2.lt; omega)
        replace hq2 := hq2.gr grg43 (by have := hq2.lt; omega)
        refine LL.nilS ?_
        refine CC.seq ?_
        refine CC.region ?_
        refine LL.val (R.move rfl rfl) rfl rfl rfl ?_
        refine LL.val (R.nil rfl rfl) rfl rfl rfl ?_
        refine LL.val (R.field rfl rfl (I.fld rfl)) rfl rfl rfl ?_
        refine LL.val (R.load rfl rfl (I.ld1 rfl (RowL.cell r2 rfl))) rfl rfl rfl ?_
        refine LL.val (R.move rfl rfl) rfl rfl rfl ?_
        (refine LL.val (R.lookKT rfl rfl iKeys (by rfl) (z := lV zL) (by kernel_rfl) hq2 i rfl hy) rfl rfl rfl ?_)
        refine LL.val (R.move rfl rfl) rfl rfl rfl ?_
        refine LL.val (R.extract rfl rfl rfl) rfl rfl rfl ?_
        refine LL.val (R.extract rfl rfl rfl) rfl rfl rfl ?_
        have lg119 := rxg46.lt
        have lg120 := r2.lt
        refine LL.alloc ([Value.int IntKind.u64 0, Value.int IntKind.u64 0, Value.int IntKind.u64 0, Value.int IntKind.u64 0, Value.int IntKind.u64 0, Value.int IntKind.u64 0, Value.int IntKind.u64 0, Value.int IntKind.u64 0]) rfl rfl rfl rfl rfl ?_
        intro Wg122 gg123 egg123 rg124 zg125 bg121
        replace rxg46 := rxg46.up bg121
        replace cyg47 := cyg47.up bg121
        replace bg30 := bg30.trans (bg121.mono bg30.size)
        replace rg2 := rg2.up bg121
        replace q := q.trans (bg121.mono q.size)
        replace r2 := r2.up bg121
        replace hq2 := hq2.up bg121
        (refine LL.storeAll rfl rfl rfl rfl (lE_len _) (by assumption) rfl (lE_one _) rfl rfl ?_; intro Wg129 rxg130 grg127 zzg132; have cyg131 := ln_cells rxg130)
        have zgrg127 := grg127.size
        replace bg121 := bg121.grown grg127 bg121.size (by rintro k ⟨⟩; omega)
        replace rxg46 := rxg46.gr grg127 (by have := rxg46.lt; omega)
        replace cyg47 := cyg47.gr grg127 (by have := cyg47.lt; omega)
        replace bg30 := bg30.grown grg127 bg30.size (by rintro k ⟨⟩; omega)
        replace rg2 := rg2.gr grg127 (by have := rg2.lt; omega)
        replace q := q.grown grg127 q.size (by rintro k ⟨⟩; omega)
        replace r2 := r2.gr grg127 (by have := r2.lt; omega)
        replace hq2 := hq2.gr grg127 (by have := hq2.lt; omega)
        refine LL.val (R.assign rfl rfl) rfl rfl rfl ?_
        refine LL.nilS ?_
        refine CC.seq ?_
        refine CC.region ?_
        refine LL.val (R.move rfl rfl) rfl rfl rfl ?_
        refine LL.val (R.not rfl rfl) rfl rfl rfl ?_
        refine LL.val (R.move rfl rfl) rfl rfl rfl ?_
        refine LL.val (R.load rfl rfl (I.ldM (by assumption) rfl rfl)) rfl rfl rfl ?_
        refine LL.val (R.load rfl rfl (I.ldM (by assumption) rfl rfl)) rfl rfl rfl ?_
        (refine LL.val (R.neLT rfl rfl rfl (by rfl) rfl (by kernel_rfl) hxy) rfl rfl rfl ?_)
        refine LL.val (R.pick rfl rfl rfl) rfl rfl rfl ?_
        refine LL.nilS ?_
        refine CC.no rfl ?_
        refine CC.skip ?_
        refine EE.inN ?_
        refine EE.round ((fun a => left a ∧ a ≠ i), cn) ⟨rfl, rfl, rfl, trivial⟩ ⟨q, by omega, rg2, ?_⟩ (by show cn < cnt; exact hcn)
        intro j h1 h2
        by_cases hj : j = i
        · subst hj
          rw [hy, hfi, hxy]
        · exact hall j (fun hl => h1 ⟨hl, hj⟩) h2
      · rw [decide_eq_false fun e => by rw [e, hy] at hfi; exact hxy (Option.some.inj hfi)]
        refine LL.val (R.extract rfl rfl rfl) rfl rfl rfl ?_
        refine LL.nilS ?_
        refine CC.seq ?_
        refine CC.yes rfl ?_
        refine CC.skip ?_
        refine EE.thenN ?_
        refine CC.block ?_
        refine CC.seq ?_
        refine CC.region ?_
        (refine LL.val (R.entry rfl rfl hen) rfl rfl rfl ?_)
        refine LL.val (R.extract rfl rfl rfl) rfl rfl rfl ?_
        refine LL.val (R.extract rfl rfl rfl) rfl rfl rfl ?_
        have lh29 := r2.lt
        refine LL.alloc ([Value.int IntKind.u64 0, Value.int IntKind.u64 0, Value.int IntKind.u64 0, Value.int IntKind.u64 0, Value.int IntKind.u64 0, Value.int IntKind.u64 0, Value.int IntKind.u64 0, Value.int IntKind.u64 0]) rfl rfl rfl rfl rfl ?_
        intro Wh31 gh32 egh32 rh33 zh34 bh30
        replace rg2 := rg2.up bh30
        replace q := q.trans (bh30.mono q.size)
        replace r2 := r2.up bh30
        replace hq2 := hq2.up bh30
        refine LL.val (R.assign rfl rfl) rfl rfl rfl ?_
        (refine LL.storeAll rfl rfl rfl rfl (lE_len _) (by assumption) rfl (lE_one _) rfl rfl ?_; intro Wh45 rxh46 grh43 zzh48; have cyh47 := ln_cells rxh46)
        have zgrh43 := grh43.size
        replace bh30 := bh30.grown grh43 bh30.size (by rintro k ⟨⟩; omega)
        replace rg2 := rg2.gr grh43 (by have := rg2.lt; omega)
        replace q := q.grown grh43 q.size (by rintro k ⟨⟩; omega)
        replace r2 := r2.gr grh43 (by have := r2.lt; omega)
        replace hq2 := hq2.gr grh43 (by have := hq2.lt; omega)
        refine LL.nilS ?_
        refine CC.seq ?_
        refine CC.region ?_
        refine LL.val (R.move rfl rfl) rfl rfl rfl ?_
        refine LL.val (R.nil rfl rfl) rfl rfl rfl ?_
        refine LL.val (R.field rfl rfl (I.fld rfl)) rfl rfl rfl ?_
        refine LL.val (R.load rfl rfl (I.ld1 rfl (RowL.cell r2 rfl))) rfl rfl rfl ?_
        refine LL.val (R.move rfl rfl) rfl rfl rfl ?_
        (refine LL.val (R.lookKT rfl rfl iKeys (by rfl) (z := lV zL) (by kernel_rfl) hq2 i rfl hy) rfl rfl rfl ?_)
        refine LL.val (R.move rfl rfl) rfl rfl rfl ?_
        refine LL.val (R.extract rfl rfl rfl) rfl rfl rfl ?_
        refine LL.val (R.extract rfl rfl rfl) rfl rfl rfl ?_
        have lh119 := rxh46.lt
        have lh120 := r2.lt
        refine LL.alloc ([Value.int IntKind.u64 0, Value.int IntKind.u64 0, Value.int IntKind.u64 0, Value.int IntKind.u64 0, Value.int IntKind.u64 0, Value.int IntKind.u64 0, Value.int IntKind.u64 0, Value.int IntKind.u64 0]) rfl rfl rfl rfl rfl ?_
        intro Wh122 gh123 egh123 rh124 zh125 bh121
        replace rxh46 := rxh46.up bh121
        replace cyh47 := cyh47.up bh121
        replace bh30 := bh30.trans (bh121.mono bh30.size)
        replace rg2 := rg2.up bh121
        replace q := q.trans (bh121.mono q.size)
        replace r2 := r2.up bh121
        replace hq2 := hq2.up bh121
        (refine LL.storeAll rfl rfl rfl rfl (lE_len _) (by assumption) rfl (lE_one _) rfl rfl ?_; intro Wh129 rxh130 grh127 zzh132; have cyh131 := ln_cells rxh130)
        have zgrh127 := grh127.size
        replace bh121 := bh121.grown grh127 bh121.size (by rintro k ⟨⟩; omega)
        replace rxh46 := rxh46.gr grh127 (by have := rxh46.lt; omega)
        replace cyh47 := cyh47.gr grh127 (by have := cyh47.lt; omega)
        replace bh30 := bh30.grown grh127 bh30.size (by rintro k ⟨⟩; omega)
        replace rg2 := rg2.gr grh127 (by have := rg2.lt; omega)
        replace q := q.grown grh127 q.size (by rintro k ⟨⟩; omega)
        replace r2 := r2.gr grh127 (by have := r2.lt; omega)
        replace hq2 := hq2.gr grh127 (by have := hq2.lt; omega)
        refine LL.val (R.assign rfl rfl) rfl rfl rfl ?_
        refine LL.nilS ?_
        refine CC.seq ?_
        refine CC.region ?_
        refine LL.val (R.move rfl rfl) rfl rfl rfl ?_
        refine LL.val (R.not rfl rfl) rfl rfl rfl ?_
        refine LL.val (R.move rfl rfl) rfl rfl rfl ?_
        refine LL.val (R.load rfl rfl (I.ldM (by assumption) rfl rfl)) rfl rfl rfl ?_
        refine LL.val (R.load rfl rfl (I.ldM (by assumption) rfl rfl)) rfl rfl rfl ?_
        (refine LL.val (R.neLF rfl rfl rfl (by rfl) rfl (by kernel_rfl) hxy) rfl rfl rfl ?_)
        refine LL.val (R.pick rfl rfl rfl) rfl rfl rfl ?_
        refine LL.nilS ?_
        refine CC.yes rfl ?_
        refine CC.seq ?_
        refine CC.region ?_
        refine LL.val (R.assign rfl rfl) rfl rfl rfl ?_
        refine LL.nilS ?_
        refine CC.ret ?_
        refine EE.inR ?_
        refine EE.thenR ?_
        refine EE.inR ?_
        refine EE.thenR ?_
        refine EE.ret _ rfl rfl ?_
        exact ⟨rfl, q⟩
/-- Is a line open? -/
def opC (c : Cl) : Prop := c.1 ≠ c.2.1 ∨ ∃ x, c.2.2 = some x ∧ x ≠ c.2.1
instance (c : Cl) : Decidable (opC c) := by
  unfold opC
  cases h : c.2.2 with
  | none => exact decidable_of_iff (c.1 ≠ c.2.1) ⟨.inl, fun h => h.elim id fun ⟨x, e, _⟩ => by cases e⟩
  | some x => exact decidable_of_iff (c.1 ≠ c.2.1 ∨ x ≠ c.2.1) ⟨fun h => h.imp id fun h => ⟨x, rfl, h⟩, fun h => h.imp id fun ⟨y, e, h⟩ => by cases e; exact h⟩
/-- The first k lines that are open. -/
def opF (s : List Cl) : Nat → List Nat
  | 0 => []
  | k + 1 => opF s k ++ match s[k]? with
    | some c => if opC c then [k] else []
    | none => []
def opS (s : List Cl) : List Nat := opF s s.length
theorem opF_pre (s : List Cl) (j k : Nat) (h : j ≤ k) : opF s j <+: opF s k := by
  induction k with
  | zero => obtain rfl : j = 0 := by omega
            exact List.prefix_refl _
  | succ k ih =>
    by_cases hj : j = k + 1
    · subst hj; exact List.prefix_refl _
    · exact (ih (by omega)).trans (List.prefix_append _ _)
theorem opF_yes {s : List Cl} {k : Nat} {c : Cl} (hc : s[k]? = some c) (h : opC c) : opF s (k + 1) = opF s k ++ [k] := by
  show opF s k ++ (match s[k]? with | some c => if opC c then [k] else [] | none => []) = _
  rw [hc]
  simp only [if_pos h]
theorem opF_no {s : List Cl} {k : Nat} {c : Cl} (hc : s[k]? = some c) (h : ¬opC c) : opF s (k + 1) = opF s k := by
  show opF s k ++ (match s[k]? with | some c => if opC c then [k] else [] | none => []) = _
  rw [hc]
  simp only [if_neg h, List.append_nil]
theorem opF_lt {s : List Cl} : ∀ {k : Nat}, ∀ i ∈ opF s k, i < k ∧ ∃ c, s[i]? = some c ∧ opC c
  | 0, i, h => by cases h
  | k + 1, i, h => by
    rcases List.mem_append.1 h with h | h
    · obtain ⟨h1, h2⟩ := opF_lt i h
      exact ⟨by omega, h2⟩
    · cases hc : s[k]? with
      | none => rw [hc] at h; cases h
      | some c =>
        rw [hc] at h
        simp only at h
        split at h
        · rename_i ho
          obtain rfl := List.mem_singleton.1 h
          exact ⟨by omega, c, hc, ho⟩
        · cases h
theorem opF_len {s : List Cl} : ∀ (k : Nat), (opF s k).length ≤ k
  | 0 => Nat.le_refl _
  | k + 1 => by
    have := opF_len (s := s) k
    show (opF s k ++ _).length ≤ _
    rw [List.length_append]
    have : (match s[k]? with | some c => if opC c then [k] else [] | none => [] : List Nat).length ≤ 1 := by
      split
      · split <;> simp
      · simp
    omega
theorem Mem.gr {w w' : World} {m gn gl qb N g : Nat} {s : List Cl} (M : Mem w m gn gl qb N s) (h : w.grownBy w' (some g)) (hne : m ≠ g ∧ gn ≠ g ∧ gl ≠ g ∧ qb ≠ g) : Mem w' m gn gl qb N s :=
  ⟨M.row.gr h hne.1, M.now.gr h hne.2.1, M.last.gr h hne.2.2.1, M.qs.gr h hne.2.2.2, M.len, M.pos, M.le, M.ne⟩
theorem Mem.keeps {w w' : World} {m gn gl qb N : Nat} {s : List Cl} {D : Nat → Prop} (M : Mem w m gn gl qb N s) (k : Keeps D w w') (h1 : D m) (h2 : D gn) (h3 : D gl) (h4 : D qb) : Mem w' m gn gl qb N s :=
  ⟨M.row.same (k.same m h1), M.now.same (k.same gn h2), M.last.same (k.same gl h3), M.qs.same (k.same qb h4), M.len, M.pos, M.le, M.ne⟩
def iE (n : Nat) : List Value := [.int .i64 (n : Int)]
set_option maxRecDepth 100000
set_option maxHeartbeats 8000000
theorem open1_gives (bk m gn gl qb N : Nat) (s : List Cl) (w : World) (hb : RowL w bk 45 [.pointer (some ⟨m, 0, none⟩)]) (M : Mem w m gn gl qb N s) :
    GivesZ Try.prog 62 [Value.pointer (some ⟨bk, 0, none⟩)].toArray (fun x => (iE x).toArray) (fun k => k = bk ∨ k = m ∨ k = gn ∨ k = gl ∨ k = qb) (fun xs => xs = opS s) w := by
  intro lp J Jx W hW hJ hJx hY h0
  replace hb := hb.up hW
  replace M := M.up hW
  have q := Below.refl W.heap.size W
  rw [show (#[.func (.yield lp) #[] #[]] ++ [Value.pointer (some ⟨bk, 0, none⟩)].toArray : Array Value) = #[.func (.yield lp) #[] #[], .pointer (some ⟨bk, 0, none⟩)] from rfl]
  have hr := M.row
  have hpos := M.pos
  have hN := M.le
  have hl := M.len
  have lts := M.lts
  have lb := hb.lt
  refine X.fn Try.func62 rfl (n := 51) rfl rfl ?_
  refine CC.seq ?_
  refine CC.region ?_
  refine LL.val (R.load rfl rfl (I.ld1 rfl (RowL.cell hb rfl))) rfl rfl rfl ?_
  refine LL.val (R.nil rfl rfl) rfl rfl rfl ?_
  refine LL.val (R.field rfl rfl (I.fld rfl)) rfl rfl rfl ?_
  refine LL.val (R.load rfl rfl (I.ld1 rfl (RowL.cell hr rfl))) rfl rfl rfl ?_
  refine LL.val (R.len rfl rfl rfl rfl) rfl rfl rfl ?_
  refine LL.val (R.move rfl rfl) rfl rfl rfl ?_
  refine LL.nilS ?_
  refine CC.block ?_
  refine CC.loop (α := Nat) (fun i => [(0, .func (.yield lp) #[] #[]), (1, .pointer (some ⟨bk, 0, none⟩)), (10, .slice (some ⟨gl, 0, none⟩) N N), (11, .int .i64 (N : Int)), (12, .int .i64 (i : Int))])
    (fun i wr => i ≤ N ∧ W.heap.size ≤ wr.heap.size ∧ J (fun _ => False) (opF s i) wr ∧ RowL wr bk 45 [.pointer (some ⟨m, 0, none⟩)] ∧ Mem wr m gn gl qb N s) (fun i => N - i)
    0 ⟨rfl, rfl, rfl, rfl, rfl, trivial⟩ ⟨by show 0 ≤ N; omega, Nat.le_refl _, h0, hb, M⟩ ?_
  clear h0 q hb M hr
  rintro i wr ⟨hi, hz, hJi, hb, M⟩
  show CC none Try.prog _ 51 [] (sl [(0, .func (.yield lp) #[] #[]), (1, .pointer (some ⟨bk, 0, none⟩)), (10, .slice (some ⟨gl, 0, none⟩) N N), (11, .int .i64 (N : Int)), (12, .int .i64 (i : Int))]) _ wr
  by_cases hlt : i < N
  case neg =>
    obtain rfl : i = N := by omega
    rw [← hl] at hJi
    refine CC.seq ?_
    refine CC.region ?_
    refine LL.val (R.ltF rfl rfl rfl (by omega)) rfl rfl rfl ?_
    refine LL.nilS ?_
    refine CC.seq ?_
    refine CC.no rfl ?_
    refine CC.exit ?_
    refine EE.thenX ?_
    refine EE.thenX ?_
    refine EE.inX ?_
    refine EE.end _ rfl rfl ?_
    exact ⟨⟨_, rfl⟩, .inl ⟨_, _, rfl, hJi⟩⟩
  obtain ⟨c, hc⟩ : ∃ c, s[i]? = some c := ⟨_, List.getElem?_eq_getElem (by omega)⟩
  have hr := M.row
  have hq := M.qs
  have qn := Below.refl wr.heap.size wr
  have m1 : CellsN wr ⟨gl, 0 + i * 8, none⟩ 8 (lE c.2.1) := by rw [Nat.zero_add]; exact RowL.elemN (enc := lastE) (x := c) lastEnc M.last hc
  have m2 : CellsN wr ⟨gn, 0 + i * 8, none⟩ 8 (lE c.1) := by rw [Nat.zero_add]; exact RowL.elemN (enc := nowE) (x := c) nowEnc M.now hc
  have hqa := qF_at hc
  have lw := M.lts
  have lbw := hb.lt
  by_cases ho : opC c
  case neg =>
    have hno := opF_no hc ho
    have h1 : c.1 = c.2.1 := Decidable.not_not.1 fun h => ho (.inl h)
    have fin : ∀ Wf, Below wr.heap.size wr Wf → RowL Wf bk 45 [.pointer (some ⟨m, 0, none⟩)] → Mem Wf m gn gl qb N s → W.heap.size ≤ Wf.heap.size ∧ J (fun _ => False) (opF s (i + 1)) Wf := fun Wf b _ _ => ⟨by have := b.size; omega, by rw [hno]; exact hJ _ _ _ _ _ hJi (.of_below b) fun k hk => hk.elim⟩
    cases hx : c.2.2 with
    | none =>
      rw [hx] at hqa
      refine CC.seq ?_
      refine CC.region ?_
      refine LL.val (R.ltT rfl rfl rfl (by omega)) rfl rfl rfl ?_
      refine LL.nilS ?_
      refine CC.seq ?_
      refine CC.yes rfl ?_
      refine CC.skip ?_
      refine EE.thenN ?_
      refine CC.seq ?_
      refine CC.block ?_
      refine CC.seq ?_
      refine CC.region ?_
      refine LL.val (R.move rfl rfl) rfl rfl rfl ?_
      refine LL.val (R.index rfl rfl rfl (I.ixS rfl (by omega))) rfl rfl rfl ?_
      refine LL.val (R.load rfl rfl (I.ldM (by assumption) rfl rfl)) rfl rfl rfl ?_
      have lb36 := hb.lt
      have lb37 := hr.lt
      refine LL.alloc ([Value.int IntKind.u64 0, Value.int IntKind.u64 0, Value.int IntKind.u64 0, Value.int IntKind.u64 0, Value.int IntKind.u64 0, Value.int IntKind.u64 0, Value.int IntKind.u64 0, Value.int IntKind.u64 0]) rfl rfl rfl rfl rfl ?_
      intro Wb39 gb40 egb40 rb41 zb42 bb38
      replace hb := hb.up bb38
      replace M := M.up bb38
      replace hr := hr.up bb38
      replace hq := hq.up bb38
      replace qn := qn.trans (bb38.mono qn.size)
      replace m1 := m1.up bb38
      replace m2 := m2.up bb38
      refine LL.val (R.assign rfl rfl) rfl rfl rfl ?_
      (refine LL.storeAll rfl rfl rfl rfl (lE_len _) (by assumption) rfl (lE_one _) rfl rfl ?_; intro Wb53 rxb54 grb51 zzb56; have cyb55 := ln_cells rxb54)
      have zgrb51 := grb51.size
      replace bb38 := bb38.grown grb51 bb38.size (by rintro k ⟨⟩; omega)
      replace hb := hb.gr grb51 (by have := hb.lt; omega)
      replace M := M.gr grb51 (by omega)
      replace hr := hr.gr grb51 (by have := hr.lt; omega)
      replace hq := hq.gr grb51 (by have := hq.lt; omega)
      replace qn := qn.grown grb51 qn.size (by rintro k ⟨⟩; omega)
      replace m1 := m1.gr grb51 (by have := m1.lt; omega)
      replace m2 := m2.gr grb51 (by have := m2.lt; omega)
      refine LL.nilS ?_
      refine CC.seq ?_
      refine CC.region ?_
      refine LL.val (R.load rfl rfl (I.ld1 rfl (RowL.cell hb rfl))) rfl rfl rfl ?_
      refine LL.val (R.nil rfl rfl) rfl rfl rfl ?_
      refine LL.val (R.field rfl rfl (I.fld rfl)) rfl rfl rfl ?_
      refine LL.val (R.load rfl rfl (I.ld1 rfl (RowL.cell hr rfl))) rfl rfl rfl ?_
      refine LL.val (R.move rfl rfl) rfl rfl rfl ?_
      (refine LL.val (R.lookKF (z := lV zL) rfl rfl iKeys (by rfl) (by kernel_rfl) hq i rfl hqa) rfl rfl rfl ?_)
      refine LL.val (R.move rfl rfl) rfl rfl rfl ?_
      refine LL.val (R.extract rfl rfl rfl) rfl rfl rfl ?_
      refine LL.val (R.extract rfl rfl rfl) rfl rfl rfl ?_
      have lb127 := rxb54.lt
      have lb128 := hb.lt
      have lb129 := hr.lt
      refine LL.alloc ([Value.int IntKind.u64 0, Value.int IntKind.u64 0, Value.int IntKind.u64 0, Value.int IntKind.u64 0, Value.int IntKind.u64 0, Value.int IntKind.u64 0, Value.int IntKind.u64 0, Value.int IntKind.u64 0]) rfl rfl rfl rfl rfl ?_
      intro Wb131 gb132 egb132 rb133 zb134 bb130
      replace rxb54 := rxb54.up bb130
      replace cyb55 := cyb55.up bb130
      replace bb38 := bb38.trans (bb130.mono bb38.size)
      replace hb := hb.up bb130
      replace M := M.up bb130
      replace hr := hr.up bb130
      replace hq := hq.up bb130
      replace qn := qn.trans (bb130.mono qn.size)
      replace m1 := m1.up bb130
      replace m2 := m2.up bb130
      refine LL.storeN (vs := [(fun n => Value.int IntKind.u64 ↑n) 0, (fun n => Value.int IntKind.u64 ↑n) 0, (fun n => Value.int IntKind.u64 ↑n) 0, (fun n => Value.int IntKind.u64 ↑n) 0, (fun n => Value.int IntKind.u64 ↑n) 0, (fun n => Value.int IntKind.u64 ↑n) 0, (fun n => Value.int IntKind.u64 ↑n) 0, (fun n => Value.int IntKind.u64 ↑n) 0]) rfl rfl rfl rfl rb133 (by exact Nat.le_of_ble_eq_true rfl) (ones_of rfl) rfl rfl ?_
      intro Wb143 rb144 bb142 zb145
      have hlbb142 := rb133.lt
      replace rb144 : RowL Wb143 _ 85 [(fun n => Value.int IntKind.u64 ↑n) 0, (fun n => Value.int IntKind.u64 ↑n) 0, (fun n => Value.int IntKind.u64 ↑n) 0, (fun n => Value.int IntKind.u64 ↑n) 0, (fun n => Value.int IntKind.u64 ↑n) 0, (fun n => Value.int IntKind.u64 ↑n) 0, (fun n => Value.int IntKind.u64 ↑n) 0, (fun n => Value.int IntKind.u64 ↑n) 0] := rb144
      clear rb133
      replace bb130 := bb130.grown bb142 bb130.size (by rintro k ⟨⟩; omega)
      replace rxb54 := rxb54.gr bb142 (by have := rxb54.lt; omega)
      replace cyb55 := cyb55.gr bb142 (by have := cyb55.lt; omega)
      replace bb38 := bb38.grown bb142 bb38.size (by rintro k ⟨⟩; omega)
      replace hb := hb.gr bb142 (by have := hb.lt; omega)
      replace M := M.gr bb142 (by omega)
      replace hr := hr.gr bb142 (by have := hr.lt; omega)
      replace hq := hq.gr bb142 (by have := hq.lt; omega)
      replace qn := qn.grown bb142 qn.size (by rintro k ⟨⟩; omega)
      replace m1 := m1.gr bb142 (by have := m1.lt; omega)
      replace m2 := m2.gr bb142 (by have := m2.lt; omega)
      have rb133 := rb144
      clear rb144
      refine LL.val (R.assign rfl rfl) rfl rfl rfl ?_
      refine LL.nilS ?_
      refine CC.seq ?_
      refine CC.growT 21 (by kernel_rfl) (by kernel_rfl) ?_
      refine GG.val (fun w' b' => R.load rfl rfl (I.ld1 rfl (RowL.cell (hb.up b') rfl))) rfl rfl ?_
      refine GG.val (fun w' b' => R.nil rfl rfl) rfl rfl ?_
      refine GG.val (fun w' b' => R.field rfl rfl (I.fld rfl)) rfl rfl ?_
      refine GG.val (fun w' b' => R.field rfl rfl (I.fld rfl)) rfl rfl ?_
      refine GG.val (fun w' b' => R.load rfl rfl (I.ld1 rfl (RowL.cell (hr.up b') rfl))) rfl rfl ?_
      refine GG.val (fun w' b' => R.move rfl rfl) rfl rfl ?_
      refine GG.val (fun w' b' => R.index rfl rfl rfl (I.ixS rfl (by omega))) rfl rfl ?_
      refine GG.val (fun w' b' => R.load rfl rfl (I.ldM (CellsN.up (by assumption) b') rfl rfl)) rfl rfl ?_
      refine GG.val (fun w' b' => R.load rfl rfl (I.ldM (CellsN.up (by assumption) b') rfl rfl)) rfl rfl ?_
      (refine GG.val (fun w' b' => R.neLT rfl rfl rfl (by rfl) rfl (by kernel_rfl) h1) rfl rfl ?_)
      refine GG.val (fun w' b' => R.move rfl rfl) rfl rfl ?_
      refine GG.val (fun w' b' => R.move rfl rfl) rfl rfl ?_
      refine GG.val (fun w' b' => R.move rfl rfl) rfl rfl ?_
      refine GG.skip rfl rfl ?_
      refine GG.skip rfl rfl ?_
      refine GG.skip rfl rfl ?_
      refine GG.val (fun w' b' => R.pick rfl rfl rfl) rfl rfl ?_
      refine GG.val (fun w' b' => R.pick rfl rfl rfl) rfl rfl ?_
      refine GG.val (fun w' b' => R.move rfl rfl) rfl rfl ?_
      refine GG.skip rfl rfl ?_
      refine GG.skip rfl rfl ?_
      refine GG.nil (fun Wb269 bb268 => ?_)
      have zbb268 := bb268.size
      replace bb130 := bb130.trans (bb268.mono bb130.size)
      replace rxb54 := rxb54.up bb268
      replace cyb55 := cyb55.up bb268
      replace bb38 := bb38.trans (bb268.mono bb38.size)
      replace hb := hb.up bb268
      replace M := M.up bb268
      replace hr := hr.up bb268
      replace hq := hq.up bb268
      replace qn := qn.trans (bb268.mono qn.size)
      replace m1 := m1.up bb268
      replace m2 := m2.up bb268
      replace rb133 := rb133.up bb268
      refine LL.skip rfl rfl ?_
      refine LL.skip rfl rfl ?_
      refine LL.val (R.pick rfl rfl rfl) rfl rfl rfl ?_
      refine LL.nilS ?_
      refine CC.no rfl ?_
      refine CC.skip ?_
      refine EE.inN ?_
      refine EE.thenN ?_
      refine CC.region ?_
      refine LL.val (R.addNc rfl rfl rfl rfl (by omega)) rfl rfl rfl ?_
      refine LL.val (R.move rfl rfl) rfl rfl rfl ?_
      refine LL.nil ?_
      exact EE.round (i + 1) ⟨rfl, rfl, rfl, rfl, rfl, trivial⟩ ⟨by show i + 1 ≤ N; omega, (fin _ qn hb M).1, (fin _ qn hb M).2, hb, M⟩ (by show N - (i + 1) < N - i; omega)
    | some x =>
      rw [hx] at hqa
      have h2 : x = c.2.1 := Decidable.not_not.1 fun h => ho (.inr ⟨x, hx, h⟩)
      refine CC.seq ?_
      refine CC.region ?_
      refine LL.val (R.ltT rfl rfl rfl (by omega)) rfl rfl rfl ?_
      refine LL.nilS ?_
      refine CC.seq ?_
      refine CC.yes rfl ?_
      refine CC.skip ?_
      refine EE.thenN ?_
      refine CC.seq ?_
      refine CC.block ?_
      refine CC.seq ?_
      refine CC.region ?_
      refine LL.val (R.move rfl rfl) rfl rfl rfl ?_
      refine LL.val (R.index rfl rfl rfl (I.ixS rfl (by omega))) rfl rfl rfl ?_
      refine LL.val (R.load rfl rfl (I.ldM (by assumption) rfl rfl)) rfl rfl rfl ?_
      have lc36 := hb.lt
      have lc37 := hr.lt
      refine LL.alloc ([Value.int IntKind.u64 0, Value.int IntKind.u64 0, Value.int IntKind.u64 0, Value.int IntKind.u64 0, Value.int IntKind.u64 0, Value.int IntKind.u64 0, Value.int IntKind.u64 0, Value.int IntKind.u64 0]) rfl rfl rfl rfl rfl ?_
      intro Wc39 gc40 egc40 rc41 zc42 bc38
      replace hb := hb.up bc38
      replace M := M.up bc38
      replace hr := hr.up bc38
      replace hq := hq.up bc38
      replace qn := qn.trans (bc38.mono qn.size)
      replace m1 := m1.up bc38
      replace m2 := m2.up bc38
      refine LL.val (R.assign rfl rfl) rfl rfl rfl ?_
      (refine LL.storeAll rfl rfl rfl rfl (lE_len _) (by assumption) rfl (lE_one _) rfl rfl ?_; intro Wc53 rxc54 grc51 zzc56; have cyc55 := ln_cells rxc54)
      have zgrc51 := grc51.size
      replace bc38 := bc38.grown grc51 bc38.size (by rintro k ⟨⟩; omega)
      replace hb := hb.gr grc51 (by have := hb.lt; omega)
      replace M := M.gr grc51 (by omega)
      replace hr := hr.gr grc51 (by have := hr.lt; omega)
      replace hq := hq.gr grc51 (by have := hq.lt; omega)
      replace qn := qn.grown grc51 qn.size (by rintro k ⟨⟩; omega)
      replace m1 := m1.gr grc51 (by have := m1.lt; omega)
      replace m2 := m2.gr grc51 (by have := m2.lt; omega)
      refine LL.nilS ?_
      refine CC.seq ?_
      refine CC.region ?_
      refine LL.val (R.load rfl rfl (I.ld1 rfl (RowL.cell hb rfl))) rfl rfl rfl ?_
      refine LL.val (R.nil rfl rfl) rfl rfl rfl ?_
      refine LL.val (R.field rfl rfl (I.fld rfl)) rfl rfl rfl ?_
      refine LL.val (R.load rfl rfl (I.ld1 rfl (RowL.cell hr rfl))) rfl rfl rfl ?_
      refine LL.val (R.move rfl rfl) rfl rfl rfl ?_
      (refine LL.val (R.lookKT rfl rfl iKeys (by rfl) (z := lV zL) (by kernel_rfl) hq i rfl hqa) rfl rfl rfl ?_)
      refine LL.val (R.move rfl rfl) rfl rfl rfl ?_
      refine LL.val (R.extract rfl rfl rfl) rfl rfl rfl ?_
      refine LL.val (R.extract rfl rfl rfl) rfl rfl rfl ?_
      have lc127 := rxc54.lt
      have lc128 := hb.lt
      have lc129 := hr.lt
      refine LL.alloc ([Value.int IntKind.u64 0, Value.int IntKind.u64 0, Value.int IntKind.u64 0, Value.int IntKind.u64 0, Value.int IntKind.u64 0, Value.int IntKind.u64 0, Value.int IntKind.u64 0, Value.int IntKind.u64 0]) rfl rfl rfl rfl rfl ?_
      intro Wc131 gc132 egc132 rc133 zc134 bc130
      replace rxc54 := rxc54.up bc130
      replace cyc55 := cyc55.up bc130
      replace bc38 := bc38.trans (bc130.mono bc38.size)
      replace hb := hb.up bc130
      replace M := M.up bc130
      replace hr := hr.up bc130
      replace hq := hq.up bc130
      replace qn := qn.trans (bc130.mono qn.size)
      replace m1 := m1.up bc130
      replace m2 := m2.up bc130
      (refine LL.storeAll rfl rfl rfl rfl (lE_len _) (by assumption) rfl (lE_one _) rfl rfl ?_; intro Wc138 rxc139 grc136 zzc141; have cyc140 := ln_cells rxc139)
      have zgrc136 := grc136.size
      replace bc130 := bc130.grown grc136 bc130.size (by rintro k ⟨⟩; omega)
      replace rxc54 := rxc54.gr grc136 (by have := rxc54.lt; omega)
      replace cyc55 := cyc55.gr grc136 (by have := cyc55.lt; omega)
      replace bc38 := bc38.grown grc136 bc38.size (by rintro k ⟨⟩; omega)
      replace hb := hb.gr grc136 (by have := hb.lt; omega)
      replace M := M.gr grc136 (by omega)
      replace hr := hr.gr grc136 (by have := hr.lt; omega)
      replace hq := hq.gr grc136 (by have := hq.lt; omega)
      replace qn := qn.grown grc136 qn.size (by rintro k ⟨⟩; omega)
      replace m1 := m1.gr grc136 (by have := m1.lt; omega)
      replace m2 := m2.gr grc136 (by have := m2.lt; omega)
      refine LL.val (R.assign rfl rfl) rfl rfl rfl ?_
      refine LL.nilS ?_
      refine CC.seq ?_
      refine CC.growT 21 (by kernel_rfl) (by kernel_rfl) ?_
      refine GG.val (fun w' b' => R.load rfl rfl (I.ld1 rfl (RowL.cell (hb.up b') rfl))) rfl rfl ?_
      refine GG.val (fun w' b' => R.nil rfl rfl) rfl rfl ?_
      refine GG.val (fun w' b' => R.field rfl rfl (I.fld rfl)) rfl rfl ?_
      refine GG.val (fun w' b' => R.field rfl rfl (I.fld rfl)) rfl rfl ?_
      refine GG.val (fun w' b' => R.load rfl rfl (I.ld1 rfl (RowL.cell (hr.up b') rfl))) rfl rfl ?_
      refine GG.val (fun w' b' => R.move rfl rfl) rfl rfl ?_
      refine GG.val (fun w' b' => R.index rfl rfl rfl (I.ixS rfl (by omega))) rfl rfl ?_
      refine GG.val (fun w' b' => R.load rfl rfl (I.ldM (CellsN.up (by assumption) b') rfl rfl)) rfl rfl ?_
      refine GG.val (fun w' b' => R.load rfl rfl (I.ldM (CellsN.up (by assumption) b') rfl rfl)) rfl rfl ?_
      (refine GG.val (fun w' b' => R.neLT rfl rfl rfl (by rfl) rfl (by kernel_rfl) h1) rfl rfl ?_)
      refine GG.val (fun w' b' => R.move rfl rfl) rfl rfl ?_
      refine GG.val (fun w' b' => R.move rfl rfl) rfl rfl ?_
      refine GG.val (fun w' b' => R.move rfl rfl) rfl rfl ?_
      refine GG.val (fun w' b' => R.load rfl rfl (I.ldM (CellsN.up (by assumption) b') rfl rfl)) rfl rfl ?_
      refine GG.val (fun w' b' => R.load rfl rfl (I.ldM (CellsN.up (by assumption) b') rfl rfl)) rfl rfl ?_
      (refine GG.val (fun w' b' => R.neLT rfl rfl rfl (by rfl) rfl (by kernel_rfl) h2) rfl rfl ?_)
      refine GG.val (fun w' b' => R.pick rfl rfl rfl) rfl rfl ?_
      refine GG.val (fun w' b' => R.pick rfl rfl rfl) rfl rfl ?_
      refine GG.val (fun w' b' => R.move rfl rfl) rfl rfl ?_
      refine GG.skip rfl rfl ?_
      refine GG.skip rfl rfl ?_
      refine GG.nil (fun Wc286 bc285 => ?_)
      have zbc285 := bc285.size
      replace rxc139 := rxc139.up bc285
      replace cyc140 := cyc140.up bc285
      replace bc130 := bc130.trans (bc285.mono bc130.size)
      replace rxc54 := rxc54.up bc285
      replace cyc55 := cyc55.up bc285
      replace bc38 := bc38.trans (bc285.mono bc38.size)
      replace hb := hb.up bc285
      replace M := M.up bc285
      replace hr := hr.up bc285
      replace hq := hq.up bc285
      replace qn := qn.trans (bc285.mono qn.size)
      replace m1 := m1.up bc285
      replace m2 := m2.up bc285
      refine LL.skip rfl rfl ?_
      refine LL.skip rfl rfl ?_
      refine LL.val (R.pick rfl rfl rfl) rfl rfl rfl ?_
      refine LL.nilS ?_
      refine CC.no rfl ?_
      refine CC.skip ?_
      refine EE.inN ?_
      refine EE.thenN ?_
      refine CC.region ?_
      refine LL.val (R.addNc rfl rfl rfl rfl (by omega)) rfl rfl rfl ?_
      refine LL.val (R.move rfl rfl) rfl rfl rfl ?_
      refine LL.nil ?_
      exact EE.round (i + 1) ⟨rfl, rfl, rfl, rfl, rfl, trivial⟩ ⟨by show i + 1 ≤ N; omega, (fin _ qn hb M).1, (fin _ qn hb M).2, hb, M⟩ (by show N - (i + 1) < N - i; omega)
  have hys := opF_yes hc ho
  have hpart : Part (fun xs => xs = opS s) (opF s i ++ [i]) := ⟨_, rfl, by rw [← hys]; exact opF_pre s _ _ (by omega)⟩
  have fin : ∀ Wf, Below wr.heap.size wr Wf → J (fun _ => False) (opF s i) Wf := fun Wf b => hJ _ _ _ _ _ hJi (.of_below b) fun k hk => hk.elim
  have key : ∀ Wf, Below wr.heap.size wr Wf → YieldAt Fence.wide 3 Try.prog lp (iE i).toArray Wf fun e W' => StaysZ W.heap.size (fun _ => False) Wf W' ∧ ((e = .returned (.bool true) ∧ J (fun _ => False) (opF s i ++ [i]) W' ∧ Keeps (fun k => k = bk ∨ k = m ∨ k = gn ∨ k = gl ∨ k = qb) Wf W') ∨ (e = .returned (.bool false) ∧ Jx (fun _ => False) (opF s i ++ [i]) W')) :=
    fun Wf b => hY _ _ _ Wf (fun k hk => hk.elim) (fin Wf b) hpart
  clear hJi
  have yield : ∀ Wf, Below wr.heap.size wr Wf → RowL Wf bk 45 [.pointer (some ⟨m, 0, none⟩)] → Mem Wf m gn gl qb N s → YieldAt Fence.wide 3 Try.prog lp (iE i).toArray Wf fun e W' => (e = .returned (.bool true) ∧ W.heap.size ≤ W'.heap.size ∧ J (fun _ => False) (opF s (i + 1)) W' ∧ RowL W' bk 45 [.pointer (some ⟨m, 0, none⟩)] ∧ Mem W' m gn gl qb N s) ∨ (e = .returned (.bool false) ∧ Jx (fun _ => False) (opF s i ++ [i]) W') := fun Wf b hb M => by
    obtain ⟨fn, tm, ag, bd, hy, hR⟩ := key Wf b
    refine ⟨fn, tm, ag, bd, hy, hR.mono ?_⟩
    rintro e W' ⟨hs, (⟨rfl, h1, h2⟩ | ⟨rfl, h1⟩)⟩
    · exact .inl ⟨rfl, by have := hs.size; have := b.size; omega, by rw [hys]; exact h1, hb.same (h2.same bk (.inl rfl)), M.keeps h2 (.inr (.inl rfl)) (.inr (.inr (.inl rfl))) (.inr (.inr (.inr (.inl rfl)))) (.inr (.inr (.inr (.inr rfl))))⟩
    · exact .inr ⟨rfl, h1⟩
  clear key fin
  by_cases h1 : c.1 = c.2.1
  · obtain ⟨x, hx, h2⟩ : ∃ x, c.2.2 = some x ∧ x ≠ c.2.1 := ho.elim (fun h => absurd h1 h) id
    rw [hx] at hqa
    refine CC.seq ?_
    refine CC.region ?_
    refine LL.val (R.ltT rfl rfl rfl (by omega)) rfl rfl rfl ?_
    refine LL.nilS ?_
    refine CC.seq ?_
    refine CC.yes rfl ?_
    refine CC.skip ?_
    refine EE.thenN ?_
    refine CC.seq ?_
    refine CC.block ?_
    refine CC.seq ?_
    refine CC.region ?_
    refine LL.val (R.move rfl rfl) rfl rfl rfl ?_
    refine LL.val (R.index rfl rfl rfl (I.ixS rfl (by omega))) rfl rfl rfl ?_
    refine LL.val (R.load rfl rfl (I.ldM (by assumption) rfl rfl)) rfl rfl rfl ?_
    have ld36 := hb.lt
    have ld37 := hr.lt
    refine LL.alloc ([Value.int IntKind.u64 0, Value.int IntKind.u64 0, Value.int IntKind.u64 0, Value.int IntKind.u64 0, Value.int IntKind.u64 0, Value.int IntKind.u64 0, Value.int IntKind.u64 0, Value.int IntKind.u64 0]) rfl rfl rfl rfl rfl ?_
    intro Wd39 gd40 egd40 rd41 zd42 bd38
    replace hb := hb.up bd38
    replace M := M.up bd38
    replace hr := hr.up bd38
    replace hq := hq.up bd38
    replace qn := qn.trans (bd38.mono qn.size)
    replace m1 := m1.up bd38
    replace m2 := m2.up bd38
    refine LL.val (R.assign rfl rfl) rfl rfl rfl ?_
    (refine LL.storeAll rfl rfl rfl rfl (lE_len _) (by assumption) rfl (lE_one _) rfl rfl ?_; intro Wd53 rxd54 grd51 zzd56; have cyd55 := ln_cells rxd54)
    have zgrd51 := grd51.size
    replace bd38 := bd38.grown grd51 bd38.size (by rintro k ⟨⟩; omega)
    replace hb := hb.gr grd51 (by have := hb.lt; omega)
    replace M := M.gr grd51 (by omega)
    replace hr := hr.gr grd51 (by have := hr.lt; omega)
    replace hq := hq.gr grd51 (by have := hq.lt; omega)
    replace qn := qn.grown grd51 qn.size (by rintro k ⟨⟩; omega)
    replace m1 := m1.gr grd51 (by have := m1.lt; omega)
    replace m2 := m2.gr grd51 (by have := m2.lt; omega)
    refine LL.nilS ?_
    refine CC.seq ?_
    refine CC.region ?_
    refine LL.val (R.load rfl rfl (I.ld1 rfl (RowL.cell hb rfl))) rfl rfl rfl ?_
    refine LL.val (R.nil rfl rfl) rfl rfl rfl ?_
    refine LL.val (R.field rfl rfl (I.fld rfl)) rfl rfl rfl ?_
    refine LL.val (R.load rfl rfl (I.ld1 rfl (RowL.cell hr rfl))) rfl rfl rfl ?_
    refine LL.val (R.move rfl rfl) rfl rfl rfl ?_
    (refine LL.val (R.lookKT rfl rfl iKeys (by rfl) (z := lV zL) (by kernel_rfl) hq i rfl hqa) rfl rfl rfl ?_)
    refine LL.val (R.move rfl rfl) rfl rfl rfl ?_
    refine LL.val (R.extract rfl rfl rfl) rfl rfl rfl ?_
    refine LL.val (R.extract rfl rfl rfl) rfl rfl rfl ?_
    have ld127 := rxd54.lt
    have ld128 := hb.lt
    have ld129 := hr.lt
    refine LL.alloc ([Value.int IntKind.u64 0, Value.int IntKind.u64 0, Value.int IntKind.u64 0, Value.int IntKind.u64 0, Value.int IntKind.u64 0, Value.int IntKind.u64 0, Value.int IntKind.u64 0, Value.int IntKind.u64 0]) rfl rfl rfl rfl rfl ?_
    intro Wd131 gd132 egd132 rd133 zd134 bd130
    replace rxd54 := rxd54.up bd130
    replace cyd55 := cyd55.up bd130
    replace bd38 := bd38.trans (bd130.mono bd38.size)
    replace hb := hb.up bd130
    replace M := M.up bd130
    replace hr := hr.up bd130
    replace hq := hq.up bd130
    replace qn := qn.trans (bd130.mono qn.size)
    replace m1 := m1.up bd130
    replace m2 := m2.up bd130
    (refine LL.storeAll rfl rfl rfl rfl (lE_len _) (by assumption) rfl (lE_one _) rfl rfl ?_; intro Wd138 rxd139 grd136 zzd141; have cyd140 := ln_cells rxd139)
    have zgrd136 := grd136.size
    replace bd130 := bd130.grown grd136 bd130.size (by rintro k ⟨⟩; omega)
    replace rxd54 := rxd54.gr grd136 (by have := rxd54.lt; omega)
    replace cyd55 := cyd55.gr grd136 (by have := cyd55.lt; omega)
    replace bd38 := bd38.grown grd136 bd38.size (by rintro k ⟨⟩; omega)
    replace hb := hb.gr grd136 (by have := hb.lt; omega)
    replace M := M.gr grd136 (by omega)
    replace hr := hr.gr grd136 (by have := hr.lt; omega)
    replace hq := hq.gr grd136 (by have := hq.lt; omega)
    replace qn := qn.grown grd136 qn.size (by rintro k ⟨⟩; omega)
    replace m1 := m1.gr grd136 (by have := m1.lt; omega)
    replace m2 := m2.gr grd136 (by have := m2.lt; omega)
    refine LL.val (R.assign rfl rfl) rfl rfl rfl ?_
    refine LL.nilS ?_
    refine CC.seq ?_
    refine CC.growT 21 (by kernel_rfl) (by kernel_rfl) ?_
    refine GG.val (fun w' b' => R.load rfl rfl (I.ld1 rfl (RowL.cell (hb.up b') rfl))) rfl rfl ?_
    refine GG.val (fun w' b' => R.nil rfl rfl) rfl rfl ?_
    refine GG.val (fun w' b' => R.field rfl rfl (I.fld rfl)) rfl rfl ?_
    refine GG.val (fun w' b' => R.field rfl rfl (I.fld rfl)) rfl rfl ?_
    refine GG.val (fun w' b' => R.load rfl rfl (I.ld1 rfl (RowL.cell (hr.up b') rfl))) rfl rfl ?_
    refine GG.val (fun w' b' => R.move rfl rfl) rfl rfl ?_
    refine GG.val (fun w' b' => R.index rfl rfl rfl (I.ixS rfl (by omega))) rfl rfl ?_
    refine GG.val (fun w' b' => R.load rfl rfl (I.ldM (CellsN.up (by assumption) b') rfl rfl)) rfl rfl ?_
    refine GG.val (fun w' b' => R.load rfl rfl (I.ldM (CellsN.up (by assumption) b') rfl rfl)) rfl rfl ?_
    (refine GG.val (fun w' b' => R.neLT rfl rfl rfl (by rfl) rfl (by kernel_rfl) h1) rfl rfl ?_)
    refine GG.val (fun w' b' => R.move rfl rfl) rfl rfl ?_
    refine GG.val (fun w' b' => R.move rfl rfl) rfl rfl ?_
    refine GG.val (fun w' b' => R.move rfl rfl) rfl rfl ?_
    refine GG.val (fun w' b' => R.load rfl rfl (I.ldM (CellsN.up (by assumption) b') rfl rfl)) rfl rfl ?_
    refine GG.val (fun w' b' => R.load rfl rfl (I.ldM (CellsN.up (by assumption) b') rfl rfl)) rfl rfl ?_
    (refine GG.val (fun w' b' => R.neLF rfl rfl rfl (by rfl) rfl (by kernel_rfl) h2) rfl rfl ?_)
    refine GG.val (fun w' b' => R.pick rfl rfl rfl) rfl rfl ?_
    refine GG.val (fun w' b' => R.pick rfl rfl rfl) rfl rfl ?_
    refine GG.val (fun w' b' => R.move rfl rfl) rfl rfl ?_
    refine GG.val (fun w' b' => R.move rfl rfl) rfl rfl ?_
    refine GG.val (fun w' b' => R.move rfl rfl) rfl rfl ?_
    refine GG.nil (fun Wd300 bd299 => ?_)
    have zbd299 := bd299.size
    replace rxd139 := rxd139.up bd299
    replace cyd140 := cyd140.up bd299
    replace bd130 := bd130.trans (bd299.mono bd130.size)
    replace rxd54 := rxd54.up bd299
    replace cyd55 := cyd55.up bd299
    replace bd38 := bd38.trans (bd299.mono bd38.size)
    replace hb := hb.up bd299
    replace M := M.up bd299
    replace hr := hr.up bd299
    replace hq := hq.up bd299
    replace qn := qn.trans (bd299.mono qn.size)
    replace m1 := m1.up bd299
    replace m2 := m2.up bd299
    refine LL.yield (vs := iE i) rfl rfl rfl rfl rfl (yield _ qn hb M) ?_
    rintro e W4 (⟨rfl, z4, hJ4, hb4, M4⟩ | ⟨rfl, hJx4⟩)
    · refine ⟨_, rfl, ?_⟩
      clear hb M qn m1 m2 hq hr
      refine LL.val (R.not rfl rfl) rfl rfl rfl ?_
      refine LL.val (R.pick rfl rfl rfl) rfl rfl rfl ?_
      refine LL.nilS ?_
      refine CC.no rfl ?_
      refine CC.skip ?_
      refine EE.inN ?_
      refine EE.thenN ?_
      refine CC.region ?_
      refine LL.val (R.addNc rfl rfl rfl rfl (by omega)) rfl rfl rfl ?_
      refine LL.val (R.move rfl rfl) rfl rfl rfl ?_
      refine LL.nil ?_
      exact EE.round (i + 1) ⟨rfl, rfl, rfl, rfl, rfl, trivial⟩ ⟨by show i + 1 ≤ N; omega, z4, hJ4, hb4, M4⟩ (by show N - (i + 1) < N - i; omega)
    · refine ⟨_, rfl, ?_⟩
      clear hb M qn m1 m2 hq hr
      refine LL.val (R.not rfl rfl) rfl rfl rfl ?_
      refine LL.val (R.pick rfl rfl rfl) rfl rfl rfl ?_
      refine LL.nilS ?_
      refine CC.yes rfl ?_
      refine CC.ret ?_
      refine EE.inR ?_
      refine EE.thenR ?_
      refine EE.thenR ?_
      refine EE.inR ?_
      refine EE.ret _ rfl rfl ?_
      exact ⟨⟨_, rfl⟩, .inr ⟨_, _, hpart, hJx4⟩⟩
  · cases hx : c.2.2 with
    | none =>
      rw [hx] at hqa
      refine CC.seq ?_
      refine CC.region ?_
      refine LL.val (R.ltT rfl rfl rfl (by omega)) rfl rfl rfl ?_
      refine LL.nilS ?_
      refine CC.seq ?_
      refine CC.yes rfl ?_
      refine CC.skip ?_
      refine EE.thenN ?_
      refine CC.seq ?_
      refine CC.block ?_
      refine CC.seq ?_
      refine CC.region ?_
      refine LL.val (R.move rfl rfl) rfl rfl rfl ?_
      refine LL.val (R.index rfl rfl rfl (I.ixS rfl (by omega))) rfl rfl rfl ?_
      refine LL.val (R.load rfl rfl (I.ldM (by assumption) rfl rfl)) rfl rfl rfl ?_
      have lg36 := hb.lt
      have lg37 := hr.lt
      refine LL.alloc ([Value.int IntKind.u64 0, Value.int IntKind.u64 0, Value.int IntKind.u64 0, Value.int IntKind.u64 0, Value.int IntKind.u64 0, Value.int IntKind.u64 0, Value.int IntKind.u64 0, Value.int IntKind.u64 0]) rfl rfl rfl rfl rfl ?_
      intro Wg39 gg40 egg40 rg41 zg42 bg38
      replace hb := hb.up bg38
      replace M := M.up bg38
      replace hr := hr.up bg38
      replace hq := hq.up bg38
      replace qn := qn.trans (bg38.mono qn.size)
      replace m1 := m1.up bg38
      replace m2 := m2.up bg38
      refine LL.val (R.assign rfl rfl) rfl rfl rfl ?_
      (refine LL.storeAll rfl rfl rfl rfl (lE_len _) (by assumption) rfl (lE_one _) rfl rfl ?_; intro Wg53 rxg54 grg51 zzg56; have cyg55 := ln_cells rxg54)
      have zgrg51 := grg51.size
      replace bg38 := bg38.grown grg51 bg38.size (by rintro k ⟨⟩; omega)
      replace hb := hb.gr grg51 (by have := hb.lt; omega)
      replace M := M.gr grg51 (by omega)
      replace hr := hr.gr grg51 (by have := hr.lt; omega)
      replace hq := hq.gr grg51 (by have := hq.lt; omega)
      replace qn := qn.grown grg51 qn.size (by rintro k ⟨⟩; omega)
      replace m1 := m1.gr grg51 (by have := m1.lt; omega)
      replace m2 := m2.gr grg51 (by have := m2.lt; omega)
      refine LL.nilS ?_
      refine CC.seq ?_
      refine CC.region ?_
      refine LL.val (R.load rfl rfl (I.ld1 rfl (RowL.cell hb rfl))) rfl rfl rfl ?_
      refine LL.val (R.nil rfl rfl) rfl rfl rfl ?_
      refine LL.val (R.field rfl rfl (I.fld rfl)) rfl rfl rfl ?_
      refine LL.val (R.load rfl rfl (I.ld1 rfl (RowL.cell hr rfl))) rfl rfl rfl ?_
      refine LL.val (R.move rfl rfl) rfl rfl rfl ?_
      (refine LL.val (R.lookKF (z := lV zL) rfl rfl iKeys (by rfl) (by kernel_rfl) hq i rfl hqa) rfl rfl rfl ?_)
      refine LL.val (R.move rfl rfl) rfl rfl rfl ?_
      refine LL.val (R.extract rfl rfl rfl) rfl rfl rfl ?_
      refine LL.val (R.extract rfl rfl rfl) rfl rfl rfl ?_
      have lg127 := rxg54.lt
      have lg128 := hb.lt
      have lg129 := hr.lt
      refine LL.alloc ([Value.int IntKind.u64 0, Value.int IntKind.u64 0, Value.int IntKind.u64 0, Value.int IntKind.u64 0, Value.int IntKind.u64 0, Value.int IntKind.u64 0, Value.int IntKind.u64 0, Value.int IntKind.u64 0]) rfl rfl rfl rfl rfl ?_
      intro Wg131 gg132 egg132 rg133 zg134 bg130
      replace rxg54 := rxg54.up bg130
      replace cyg55 := cyg55.up bg130
      replace bg38 := bg38.trans (bg130.mono bg38.size)
      replace hb := hb.up bg130
      replace M := M.up bg130
      replace hr := hr.up bg130
      replace hq := hq.up bg130
      replace qn := qn.trans (bg130.mono qn.size)
      replace m1 := m1.up bg130
      replace m2 := m2.up bg130
      refine LL.storeN (vs := [(fun n => Value.int IntKind.u64 ↑n) 0, (fun n => Value.int IntKind.u64 ↑n) 0, (fun n => Value.int IntKind.u64 ↑n) 0, (fun n => Value.int IntKind.u64 ↑n) 0, (fun n => Value.int IntKind.u64 ↑n) 0, (fun n => Value.int IntKind.u64 ↑n) 0, (fun n => Value.int IntKind.u64 ↑n) 0, (fun n => Value.int IntKind.u64 ↑n) 0]) rfl rfl rfl rfl rg133 (by exact Nat.le_of_ble_eq_true rfl) (ones_of rfl) rfl rfl ?_
      intro Wg143 rg144 bg142 zg145
      have hlbg142 := rg133.lt
      replace rg144 : RowL Wg143 _ 85 [(fun n => Value.int IntKind.u64 ↑n) 0, (fun n => Value.int IntKind.u64 ↑n) 0, (fun n => Value.int IntKind.u64 ↑n) 0, (fun n => Value.int IntKind.u64 ↑n) 0, (fun n => Value.int IntKind.u64 ↑n) 0, (fun n => Value.int IntKind.u64 ↑n) 0, (fun n => Value.int IntKind.u64 ↑n) 0, (fun n => Value.int IntKind.u64 ↑n) 0] := rg144
      clear rg133
      replace bg130 := bg130.grown bg142 bg130.size (by rintro k ⟨⟩; omega)
      replace rxg54 := rxg54.gr bg142 (by have := rxg54.lt; omega)
      replace cyg55 := cyg55.gr bg142 (by have := cyg55.lt; omega)
      replace bg38 := bg38.grown bg142 bg38.size (by rintro k ⟨⟩; omega)
      replace hb := hb.gr bg142 (by have := hb.lt; omega)
      replace M := M.gr bg142 (by omega)
      replace hr := hr.gr bg142 (by have := hr.lt; omega)
      replace hq := hq.gr bg142 (by have := hq.lt; omega)
      replace qn := qn.grown bg142 qn.size (by rintro k ⟨⟩; omega)
      replace m1 := m1.gr bg142 (by have := m1.lt; omega)
      replace m2 := m2.gr bg142 (by have := m2.lt; omega)
      have rg133 := rg144
      clear rg144
      refine LL.val (R.assign rfl rfl) rfl rfl rfl ?_
      refine LL.nilS ?_
      refine CC.seq ?_
      refine CC.growT 21 (by kernel_rfl) (by kernel_rfl) ?_
      refine GG.val (fun w' b' => R.load rfl rfl (I.ld1 rfl (RowL.cell (hb.up b') rfl))) rfl rfl ?_
      refine GG.val (fun w' b' => R.nil rfl rfl) rfl rfl ?_
      refine GG.val (fun w' b' => R.field rfl rfl (I.fld rfl)) rfl rfl ?_
      refine GG.val (fun w' b' => R.field rfl rfl (I.fld rfl)) rfl rfl ?_
      refine GG.val (fun w' b' => R.load rfl rfl (I.ld1 rfl (RowL.cell (hr.up b') rfl))) rfl rfl ?_
      refine GG.val (fun w' b' => R.move rfl rfl) rfl rfl ?_
      refine GG.val (fun w' b' => R.index rfl rfl rfl (I.ixS rfl (by omega))) rfl rfl ?_
      refine GG.val (fun w' b' => R.load rfl rfl (I.ldM (CellsN.up (by assumption) b') rfl rfl)) rfl rfl ?_
      refine GG.val (fun w' b' => R.load rfl rfl (I.ldM (CellsN.up (by assumption) b') rfl rfl)) rfl rfl ?_
      (refine GG.val (fun w' b' => R.neLF rfl rfl rfl (by rfl) rfl (by kernel_rfl) h1) rfl rfl ?_)
      refine GG.val (fun w' b' => R.move rfl rfl) rfl rfl ?_
      refine GG.skip rfl rfl ?_
      refine GG.skip rfl rfl ?_
      refine GG.skip rfl rfl ?_
      refine GG.skip rfl rfl ?_
      refine GG.skip rfl rfl ?_
      refine GG.skip rfl rfl ?_
      refine GG.val (fun w' b' => R.pick rfl rfl rfl) rfl rfl ?_
      refine GG.val (fun w' b' => R.move rfl rfl) rfl rfl ?_
      refine GG.val (fun w' b' => R.move rfl rfl) rfl rfl ?_
      refine GG.val (fun w' b' => R.move rfl rfl) rfl rfl ?_
      refine GG.nil (fun Wg262 bg261 => ?_)
      have zbg261 := bg261.size
      replace bg130 := bg130.trans (bg261.mono bg130.size)
      replace rxg54 := rxg54.up bg261
      replace cyg55 := cyg55.up bg261
      replace bg38 := bg38.trans (bg261.mono bg38.size)
      replace hb := hb.up bg261
      replace M := M.up bg261
      replace hr := hr.up bg261
      replace hq := hq.up bg261
      replace qn := qn.trans (bg261.mono qn.size)
      replace m1 := m1.up bg261
      replace m2 := m2.up bg261
      replace rg133 := rg133.up bg261
      refine LL.yield (vs := iE i) rfl rfl rfl rfl rfl (yield _ qn hb M) ?_
      rintro e W4 (⟨rfl, z4, hJ4, hb4, M4⟩ | ⟨rfl, hJx4⟩)
      · refine ⟨_, rfl, ?_⟩
        clear hb M qn m1 m2 hq hr
        refine LL.val (R.not rfl rfl) rfl rfl rfl ?_
        refine LL.val (R.pick rfl rfl rfl) rfl rfl rfl ?_
        refine LL.nilS ?_
        refine CC.no rfl ?_
        refine CC.skip ?_
        refine EE.inN ?_
        refine EE.thenN ?_
        refine CC.region ?_
        refine LL.val (R.addNc rfl rfl rfl rfl (by omega)) rfl rfl rfl ?_
        refine LL.val (R.move rfl rfl) rfl rfl rfl ?_
        refine LL.nil ?_
        exact EE.round (i + 1) ⟨rfl, rfl, rfl, rfl, rfl, trivial⟩ ⟨by show i + 1 ≤ N; omega, z4, hJ4, hb4, M4⟩ (by show N - (i + 1) < N - i; omega)
      · refine ⟨_, rfl, ?_⟩
        clear hb M qn m1 m2 hq hr
        refine LL.val (R.not rfl rfl) rfl rfl rfl ?_
        refine LL.val (R.pick rfl rfl rfl) rfl rfl rfl ?_
        refine LL.nilS ?_
        refine CC.yes rfl ?_
        refine CC.ret ?_
        refine EE.inR ?_
        refine EE.thenR ?_
        refine EE.thenR ?_
        refine EE.inR ?_
        refine EE.ret _ rfl rfl ?_
        exact ⟨⟨_, rfl⟩, .inr ⟨_, _, hpart, hJx4⟩⟩
    | some x =>
      rw [hx] at hqa
      refine CC.seq ?_
      refine CC.region ?_
      refine LL.val (R.ltT rfl rfl rfl (by omega)) rfl rfl rfl ?_
      refine LL.nilS ?_
      refine CC.seq ?_
      refine CC.yes rfl ?_
      refine CC.skip ?_
      refine EE.thenN ?_
      refine CC.seq ?_
      refine CC.block ?_
      refine CC.seq ?_
      refine CC.region ?_
      refine LL.val (R.move rfl rfl) rfl rfl rfl ?_
      refine LL.val (R.index rfl rfl rfl (I.ixS rfl (by omega))) rfl rfl rfl ?_
      refine LL.val (R.load rfl rfl (I.ldM (by assumption) rfl rfl)) rfl rfl rfl ?_
      have lj36 := hb.lt
      have lj37 := hr.lt
      refine LL.alloc ([Value.int IntKind.u64 0, Value.int IntKind.u64 0, Value.int IntKind.u64 0, Value.int IntKind.u64 0, Value.int IntKind.u64 0, Value.int IntKind.u64 0, Value.int IntKind.u64 0, Value.int IntKind.u64 0]) rfl rfl rfl rfl rfl ?_
      intro Wj39 gj40 egj40 rj41 zj42 bj38
      replace hb := hb.up bj38
      replace M := M.up bj38
      replace hr := hr.up bj38
      replace hq := hq.up bj38
      replace qn := qn.trans (bj38.mono qn.size)
      replace m1 := m1.up bj38
      replace m2 := m2.up bj38
      refine LL.val (R.assign rfl rfl) rfl rfl rfl ?_
      (refine LL.storeAll rfl rfl rfl rfl (lE_len _) (by assumption) rfl (lE_one _) rfl rfl ?_; intro Wj53 rxj54 grj51 zzj56; have cyj55 := ln_cells rxj54)
      have zgrj51 := grj51.size
      replace bj38 := bj38.grown grj51 bj38.size (by rintro k ⟨⟩; omega)
      replace hb := hb.gr grj51 (by have := hb.lt; omega)
      replace M := M.gr grj51 (by omega)
      replace hr := hr.gr grj51 (by have := hr.lt; omega)
      replace hq := hq.gr grj51 (by have := hq.lt; omega)
      replace qn := qn.grown grj51 qn.size (by rintro k ⟨⟩; omega)
      replace m1 := m1.gr grj51 (by have := m1.lt; omega)
      replace m2 := m2.gr grj51 (by have := m2.lt; omega)
      refine LL.nilS ?_
      refine CC.seq ?_
      refine CC.region ?_
      refine LL.val (R.load rfl rfl (I.ld1 rfl (RowL.cell hb rfl))) rfl rfl rfl ?_
      refine LL.val (R.nil rfl rfl) rfl rfl rfl ?_
      refine LL.val (R.field rfl rfl (I.fld rfl)) rfl rfl rfl ?_
      refine LL.val (R.load rfl rfl (I.ld1 rfl (RowL.cell hr rfl))) rfl rfl rfl ?_
      refine LL.val (R.move rfl rfl) rfl rfl rfl ?_
      (refine LL.val (R.lookKT rfl rfl iKeys (by rfl) (z := lV zL) (by kernel_rfl) hq i rfl hqa) rfl rfl rfl ?_)
      refine LL.val (R.move rfl rfl) rfl rfl rfl ?_
      refine LL.val (R.extract rfl rfl rfl) rfl rfl rfl ?_
      refine LL.val (R.extract rfl rfl rfl) rfl rfl rfl ?_
      have lj127 := rxj54.lt
      have lj128 := hb.lt
      have lj129 := hr.lt
      refine LL.alloc ([Value.int IntKind.u64 0, Value.int IntKind.u64 0, Value.int IntKind.u64 0, Value.int IntKind.u64 0, Value.int IntKind.u64 0, Value.int IntKind.u64 0, Value.int IntKind.u64 0, Value.int IntKind.u64 0]) rfl rfl rfl rfl rfl ?_
      intro Wj131 gj132 egj132 rj133 zj134 bj130
      replace rxj54 := rxj54.up bj130
      replace cyj55 := cyj55.up bj130
      replace bj38 := bj38.trans (bj130.mono bj38.size)
      replace hb := hb.up bj130
      replace M := M.up bj130
      replace hr := hr.up bj130
      replace hq := hq.up bj130
      replace qn := qn.trans (bj130.mono qn.size)
      replace m1 := m1.up bj130
      replace m2 := m2.up bj130
      (refine LL.storeAll rfl rfl rfl rfl (lE_len _) (by assumption) rfl (lE_one _) rfl rfl ?_; intro Wj138 rxj139 grj136 zzj141; have cyj140 := ln_cells rxj139)
      have zgrj136 := grj136.size
      replace bj130 := bj130.grown grj136 bj130.size (by rintro k ⟨⟩; omega)
      replace rxj54 := rxj54.gr grj136 (by have := rxj54.lt; omega)
      replace cyj55 := cyj55.gr grj136 (by have := cyj55.lt; omega)
      replace bj38 := bj38.grown grj136 bj38.size (by rintro k ⟨⟩; omega)
      replace hb := hb.gr grj136 (by have := hb.lt; omega)
      replace M := M.gr grj136 (by omega)
      replace hr := hr.gr grj136 (by have := hr.lt; omega)
      replace hq := hq.gr grj136 (by have := hq.lt; omega)
      replace qn := qn.grown grj136 qn.size (by rintro k ⟨⟩; omega)
      replace m1 := m1.gr grj136 (by have := m1.lt; omega)
      replace m2 := m2.gr grj136 (by have := m2.lt; omega)
      refine LL.val (R.assign rfl rfl) rfl rfl rfl ?_
      refine LL.nilS ?_
      refine CC.seq ?_
      refine CC.growT 21 (by kernel_rfl) (by kernel_rfl) ?_
      refine GG.val (fun w' b' => R.load rfl rfl (I.ld1 rfl (RowL.cell (hb.up b') rfl))) rfl rfl ?_
      refine GG.val (fun w' b' => R.nil rfl rfl) rfl rfl ?_
      refine GG.val (fun w' b' => R.field rfl rfl (I.fld rfl)) rfl rfl ?_
      refine GG.val (fun w' b' => R.field rfl rfl (I.fld rfl)) rfl rfl ?_
      refine GG.val (fun w' b' => R.load rfl rfl (I.ld1 rfl (RowL.cell (hr.up b') rfl))) rfl rfl ?_
      refine GG.val (fun w' b' => R.move rfl rfl) rfl rfl ?_
      refine GG.val (fun w' b' => R.index rfl rfl rfl (I.ixS rfl (by omega))) rfl rfl ?_
      refine GG.val (fun w' b' => R.load rfl rfl (I.ldM (CellsN.up (by assumption) b') rfl rfl)) rfl rfl ?_
      refine GG.val (fun w' b' => R.load rfl rfl (I.ldM (CellsN.up (by assumption) b') rfl rfl)) rfl rfl ?_
      (refine GG.val (fun w' b' => R.neLF rfl rfl rfl (by rfl) rfl (by kernel_rfl) h1) rfl rfl ?_)
      refine GG.val (fun w' b' => R.move rfl rfl) rfl rfl ?_
      refine GG.skip rfl rfl ?_
      refine GG.skip rfl rfl ?_
      refine GG.skip rfl rfl ?_
      refine GG.skip rfl rfl ?_
      refine GG.skip rfl rfl ?_
      refine GG.skip rfl rfl ?_
      refine GG.val (fun w' b' => R.pick rfl rfl rfl) rfl rfl ?_
      refine GG.val (fun w' b' => R.move rfl rfl) rfl rfl ?_
      refine GG.val (fun w' b' => R.move rfl rfl) rfl rfl ?_
      refine GG.val (fun w' b' => R.move rfl rfl) rfl rfl ?_
      refine GG.nil (fun Wj258 bj257 => ?_)
      have zbj257 := bj257.size
      replace rxj139 := rxj139.up bj257
      replace cyj140 := cyj140.up bj257
      replace bj130 := bj130.trans (bj257.mono bj130.size)
      replace rxj54 := rxj54.up bj257
      replace cyj55 := cyj55.up bj257
      replace bj38 := bj38.trans (bj257.mono bj38.size)
      replace hb := hb.up bj257
      replace M := M.up bj257
      replace hr := hr.up bj257
      replace hq := hq.up bj257
      replace qn := qn.trans (bj257.mono qn.size)
      replace m1 := m1.up bj257
      replace m2 := m2.up bj257
      refine LL.yield (vs := iE i) rfl rfl rfl rfl rfl (yield _ qn hb M) ?_
      rintro e W4 (⟨rfl, z4, hJ4, hb4, M4⟩ | ⟨rfl, hJx4⟩)
      · refine ⟨_, rfl, ?_⟩
        clear hb M qn m1 m2 hq hr
        refine LL.val (R.not rfl rfl) rfl rfl rfl ?_
        refine LL.val (R.pick rfl rfl rfl) rfl rfl rfl ?_
        refine LL.nilS ?_
        refine CC.no rfl ?_
        refine CC.skip ?_
        refine EE.inN ?_
        refine EE.thenN ?_
        refine CC.region ?_
        refine LL.val (R.addNc rfl rfl rfl rfl (by omega)) rfl rfl rfl ?_
        refine LL.val (R.move rfl rfl) rfl rfl rfl ?_
        refine LL.nil ?_
        exact EE.round (i + 1) ⟨rfl, rfl, rfl, rfl, rfl, trivial⟩ ⟨by show i + 1 ≤ N; omega, z4, hJ4, hb4, M4⟩ (by show N - (i + 1) < N - i; omega)
      · refine ⟨_, rfl, ?_⟩
        clear hb M qn m1 m2 hq hr
        refine LL.val (R.not rfl rfl) rfl rfl rfl ?_
        refine LL.val (R.pick rfl rfl rfl) rfl rfl rfl ?_
        refine LL.nilS ?_
        refine CC.yes rfl ?_
        refine CC.ret ?_
        refine EE.inR ?_
        refine EE.thenR ?_
        refine EE.thenR ?_
        refine EE.inR ?_
        refine EE.ret _ rfl rfl ?_
        exact ⟨⟨_, rfl⟩, .inr ⟨_, _, hpart, hJx4⟩⟩
theorem iEnc : Enc iE 1 := ⟨fun _ => rfl, fun t u hu => by
  simp only [iE, List.mem_cons, List.not_mem_nil, or_false] at hu
  subst hu
  rfl, by decide⟩
theorem Try.infoInt : (Try.prog.info? 3).map (fun i => (i.zero, i.size, i.bytes)) = some (some (.int .i64 0), 1, 8) := by kernel_rfl
theorem ElIn : ElT Try.prog 53 3 (.int .i64 0) 1 8 := info_parts_t Try.underlying53 Try.infoInt rfl
set_option maxRecDepth 100000
set_option maxHeartbeats 8000000
theorem open_any (m : Nat) (w : World) : Calls Try.prog 46 #[.pointer (some ⟨m, 0, none⟩)] w fun e w' => ∃ bk, e = .returned (.func (.func 62) #[] #[.pointer (some ⟨bk, 0, none⟩)]) ∧ RowL w' bk 45 [.pointer (some ⟨m, 0, none⟩)] ∧ w.heap.size ≤ bk ∧ Below w.heap.size w w' := by
  have q := Below.refl w.heap.size w
  refine X.fn Try.func46 rfl (n := 4) rfl rfl ?_
  refine CC.seq ?_
  refine CC.region ?_
  refine LL.box [Value.pointer (some { block := m, off := 0 })] rfl rfl rfl rfl rfl ?_
  intro W2 g3 eg3 r4 z5 b1
  replace q := q.trans (b1.mono q.size)
  refine LL.val (R.assign rfl rfl) rfl rfl rfl ?_
  refine LL.nilS ?_
  refine CC.seq ?_
  refine CC.region ?_
  refine LL.val (R.func rfl rfl rfl) rfl rfl rfl ?_
  refine LL.val (R.assign rfl rfl) rfl rfl rfl ?_
  refine LL.nilS ?_
  refine CC.ret ?_
  refine EE.ret _ rfl rfl ?_
  exact ⟨_, rfl, by assumption, by omega, q⟩
theorem opS_len {w : World} {m gn gl qb N : Nat} {s : List Cl} (M : Mem w m gn gl qb N s) : (opS s).length ≤ 16384 := by
  have := opF_len (s := s) s.length
  have h1 := M.len
  have h2 := M.le
  unfold opS
  omega
theorem bkl_own {w : World} {a : Option Addr} {N cap B bk : Nat} {l : List Nat} (hv : ReadsT iE 1 w (.slice a N cap) l) (hN : l.length = N) (hbo : ∀ b off, a = some ⟨b, off, none⟩ → 0 < N → B ≤ b) (h1 : B ≤ bk) (h2 : bk < w.heap.size) : ∃ bkl, (∀ b off, a = some ⟨b, off, none⟩ → 0 < N → b = bkl) ∧ B ≤ bkl ∧ bkl < w.heap.size := by
  by_cases h0 : 0 < N
  · obtain ⟨x, hx⟩ : ∃ x, l[0]? = some x := ⟨_, List.getElem?_eq_getElem (by omega)⟩
    obtain ⟨b, off, rfl, hb, _⟩ := hv.get iEnc hx
    exact ⟨b, fun b' off' e _ => by cases e; rfl, hbo b off rfl h0, hb⟩
  · exact ⟨bk, fun _ _ _ h => absurd h h0, h1, h2⟩
theorem Mem.turn {w w' : World} {m gn gl qb N B : Nat} {mm : Nat → Prop} {s : List Cl} (M : Mem w m gn gl qb N s) (ht : TurnsZ B mm w w') (hb : m < B ∧ gn < B ∧ gl < B ∧ qb < B) : Mem w' m gn gl qb N s := by
  refine ⟨ht.row M.row (.inl hb.1), ht.row M.now (.inl hb.2.1), ht.row M.last (.inl hb.2.2.1), M.qs.same ?_, M.len, M.pos, M.le, M.ne⟩
  have hx := Array.getElem?_eq_getElem M.qs.lt
  exact (ht.same qb _ hx (.inl hb.2.2.2)).trans hx.symm
set_option maxRecDepth 100000
set_option maxHeartbeats 8000000
theorem kept1_any (i bk m gn gl qb N : Nat) {s : List Cl} {c : Cl} (w : World) (hb : RowL w bk 45 [.pointer (some ⟨m, 0, none⟩)]) (M : Mem w m gn gl qb N s) (hc : s[i]? = some c) : Calls Try.prog 59 #[.int .i64 (i : Int), .pointer (some ⟨bk, 0, none⟩)] w fun e w' => e = .returned (lV c.2.1) ∧ Below w.heap.size w w' := by
  have q := Below.refl w.heap.size w
  have hr := M.row
  have hl := M.len
  have hi := (List.getElem?_eq_some_iff.1 hc).1
  have lts := M.lts
  have m1 : CellsN w ⟨gl, 0 + i * 8, none⟩ 8 (lE c.2.1) := by rw [Nat.zero_add]; exact RowL.elemN (enc := lastE) (x := c) lastEnc M.last hc
  refine X.fn Try.func59 rfl (n := 11) rfl rfl ?_
  refine CC.seq ?_
  refine CC.region ?_
  have l8 := hb.lt
  have l9 := hr.lt
  refine LL.alloc ([Value.int IntKind.u64 0, Value.int IntKind.u64 0, Value.int IntKind.u64 0, Value.int IntKind.u64 0, Value.int IntKind.u64 0, Value.int IntKind.u64 0, Value.int IntKind.u64 0, Value.int IntKind.u64 0]) rfl rfl rfl rfl rfl ?_
  intro W11 g12 eg12 r13 z14 b10
  replace hb := hb.up b10
  replace M := M.up b10
  replace q := q.trans (b10.mono q.size)
  replace hr := hr.up b10
  replace m1 := m1.up b10
  refine LL.nilS ?_
  refine CC.seq ?_
  refine CC.region ?_
  refine LL.val (R.load rfl rfl (I.ld1 rfl (RowL.cell hb rfl))) rfl rfl rfl ?_
  refine LL.val (R.nil rfl rfl) rfl rfl rfl ?_
  refine LL.val (R.field rfl rfl (I.fld rfl)) rfl rfl rfl ?_
  refine LL.val (R.load rfl rfl (I.ld1 rfl (RowL.cell hr rfl))) rfl rfl rfl ?_
  refine LL.val (R.move rfl rfl) rfl rfl rfl ?_
  refine LL.val (R.index rfl rfl rfl (I.ixS rfl (by omega))) rfl rfl rfl ?_
  refine LL.val (R.load rfl rfl (I.ldM (by assumption) rfl rfl)) rfl rfl rfl ?_
  (refine LL.storeAll rfl rfl rfl rfl (lE_len _) (by assumption) rfl (lE_one _) rfl rfl ?_; intro W67 rx68 gr65 zz70; have cr := ln_cells rx68)
  have zgr65 := gr65.size
  replace b10 := b10.grown gr65 b10.size (by rintro k ⟨⟩; omega)
  replace hb := hb.gr gr65 (by have := hb.lt; omega)
  replace M := M.gr gr65 (by omega)
  replace q := q.grown gr65 q.size (by rintro k ⟨⟩; omega)
  replace hr := hr.gr gr65 (by have := hr.lt; omega)
  replace m1 := m1.gr gr65 (by have := m1.lt; omega)
  refine LL.nilS ?_
  refine CC.ret ?_
  refine EE.retC rfl rfl (lvM cr rfl rfl) ?_
  exact ⟨rfl, q⟩
--C pmem_Memory_kept_2 | hK2 @w b' | ⟨rfl, @b⟩
theorem kept2_any (i bk m gn gl qb N : Nat) {s : List Cl} {c : Cl} (w : World) (hb : RowL w bk 45 [.pointer (some ⟨m, 0, none⟩)]) (M : Mem w m gn gl qb N s) (hc : s[i]? = some c) : Calls Try.prog 60 #[.int .i64 (i : Int), .pointer (some ⟨bk, 0, none⟩)] w fun e w' => e = .returned (lV (c.2.2.getD c.2.1)) ∧ Below w.heap.size w w' := by
  have q := Below.refl w.heap.size w
  have hr := M.row
  have hl := M.len
  have hi := (List.getElem?_eq_some_iff.1 hc).1
  have lts := M.lts
  have hq := M.qs
  have hqa := qF_at hc
  have m1 : CellsN w ⟨gl, 0 + i * 8, none⟩ 8 (lE c.2.1) := by rw [Nat.zero_add]; exact RowL.elemN (enc := lastE) (x := c) lastEnc M.last hc
  cases hx : c.2.2 with
  | none =>
    rw [hx] at hqa
    refine X.fn Try.func60 rfl (n := 24) rfl rfl ?_
    refine CC.seq ?_
    refine CC.region ?_
    have l8 := hb.lt
    have l9 := hr.lt
    refine LL.alloc ([Value.int IntKind.u64 0, Value.int IntKind.u64 0, Value.int IntKind.u64 0, Value.int IntKind.u64 0, Value.int IntKind.u64 0, Value.int IntKind.u64 0, Value.int IntKind.u64 0, Value.int IntKind.u64 0]) rfl rfl rfl rfl rfl ?_
    intro W11 g12 eg12 r13 z14 b10
    replace hb := hb.up b10
    replace M := M.up b10
    replace q := q.trans (b10.mono q.size)
    replace hr := hr.up b10
    replace hq := hq.up b10
    replace m1 := m1.up b10
    refine LL.nilS ?_
    refine CC.seq ?_
    refine CC.seq ?_
    refine CC.region ?_
    refine LL.val (R.load rfl rfl (I.ld1 rfl (RowL.cell hb rfl))) rfl rfl rfl ?_
    refine LL.val (R.nil rfl rfl) rfl rfl rfl ?_
    refine LL.val (R.field rfl rfl (I.fld rfl)) rfl rfl rfl ?_
    refine LL.val (R.load rfl rfl (I.ld1 rfl (RowL.cell hr rfl))) rfl rfl rfl ?_
    refine LL.val (R.move rfl rfl) rfl rfl rfl ?_
    (refine LL.val (R.lookKF (z := lV zL) rfl rfl iKeys (by rfl) (by kernel_rfl) hq i rfl hqa) rfl rfl rfl ?_)
    refine LL.val (R.move rfl rfl) rfl rfl rfl ?_
    refine LL.val (R.extract rfl rfl rfl) rfl rfl rfl ?_
    refine LL.val (R.extract rfl rfl rfl) rfl rfl rfl ?_
    have l85 := r13.lt
    have l86 := hb.lt
    have l87 := hr.lt
    refine LL.alloc ([Value.int IntKind.u64 0, Value.int IntKind.u64 0, Value.int IntKind.u64 0, Value.int IntKind.u64 0, Value.int IntKind.u64 0, Value.int IntKind.u64 0, Value.int IntKind.u64 0, Value.int IntKind.u64 0]) rfl rfl rfl rfl rfl ?_
    intro W89 g90 eg90 r91 z92 b88
    replace r13 := r13.up b88
    replace b10 := b10.trans (b88.mono b10.size)
    replace hb := hb.up b88
    replace M := M.up b88
    replace q := q.trans (b88.mono q.size)
    replace hr := hr.up b88
    replace hq := hq.up b88
    replace m1 := m1.up b88
    refine LL.storeN (vs := [(fun n => Value.int IntKind.u64 ↑n) 0, (fun n => Value.int IntKind.u64 ↑n) 0, (fun n => Value.int IntKind.u64 ↑n) 0, (fun n => Value.int IntKind.u64 ↑n) 0, (fun n => Value.int IntKind.u64 ↑n) 0, (fun n => Value.int IntKind.u64 ↑n) 0, (fun n => Value.int IntKind.u64 ↑n) 0, (fun n => Value.int IntKind.u64 ↑n) 0]) rfl rfl rfl rfl r91 (by exact Nat.le_of_ble_eq_true rfl) (ones_of rfl) rfl rfl ?_
    intro W101 r102 b100 z103
    have hlb100 := r91.lt
    replace r102 : RowL W101 _ 85 [(fun n => Value.int IntKind.u64 ↑n) 0, (fun n => Value.int IntKind.u64 ↑n) 0, (fun n => Value.int IntKind.u64 ↑n) 0, (fun n => Value.int IntKind.u64 ↑n) 0, (fun n => Value.int IntKind.u64 ↑n) 0, (fun n => Value.int IntKind.u64 ↑n) 0, (fun n => Value.int IntKind.u64 ↑n) 0, (fun n => Value.int IntKind.u64 ↑n) 0] := r102
    clear r91
    replace b88 := b88.grown b100 b88.size (by rintro k ⟨⟩; omega)
    replace r13 := r13.gr b100 (by have := r13.lt; omega)
    replace b10 := b10.grown b100 b10.size (by rintro k ⟨⟩; omega)
    replace hb := hb.gr b100 (by have := hb.lt; omega)
    replace M := M.gr b100 (by omega)
    replace q := q.grown b100 q.size (by rintro k ⟨⟩; omega)
    replace hr := hr.gr b100 (by have := hr.lt; omega)
    replace hq := hq.gr b100 (by have := hq.lt; omega)
    replace m1 := m1.gr b100 (by have := m1.lt; omega)
    have r91 := r102
    clear r102
    refine LL.val (R.assign rfl rfl) rfl rfl rfl ?_
    refine LL.nilS ?_
    refine CC.seq ?_
    refine CC.region ?_
    refine LL.val (R.move rfl rfl) rfl rfl rfl ?_
    refine LL.nilS ?_
    refine CC.no rfl ?_
    refine CC.skip ?_
    refine EE.thenN ?_
    refine CC.seq ?_
    refine CC.region ?_
    refine LL.val (R.load rfl rfl (I.ld1 rfl (RowL.cell hb rfl))) rfl rfl rfl ?_
    refine LL.val (R.nil rfl rfl) rfl rfl rfl ?_
    refine LL.val (R.field rfl rfl (I.fld rfl)) rfl rfl rfl ?_
    refine LL.val (R.load rfl rfl (I.ld1 rfl (RowL.cell hr rfl))) rfl rfl rfl ?_
    refine LL.val (R.move rfl rfl) rfl rfl rfl ?_
    refine LL.val (R.index rfl rfl rfl (I.ixS rfl (by omega))) rfl rfl rfl ?_
    refine LL.val (R.load rfl rfl (I.ldM (by assumption) rfl rfl)) rfl rfl rfl ?_
    (refine LL.storeAll rfl rfl rfl rfl (lE_len _) (by assumption) rfl (lE_one _) rfl rfl ?_; intro W170 rx171 gr168 zz173; have cy172 := ln_cells rx171)
    have zgr168 := gr168.size
    replace b10 := b10.grown gr168 b10.size (by rintro k ⟨⟩; omega)
    replace hb := hb.gr gr168 (by have := hb.lt; omega)
    replace M := M.gr gr168 (by omega)
    replace q := q.grown gr168 q.size (by rintro k ⟨⟩; omega)
    replace hr := hr.gr gr168 (by have := hr.lt; omega)
    replace hq := hq.gr gr168 (by have := hq.lt; omega)
    replace m1 := m1.gr gr168 (by have := m1.lt; omega)
    replace r91 := r91.gr gr168 (by have := r91.lt; omega)
    refine LL.nilS ?_
    refine CC.ret ?_
    refine EE.retC rfl rfl (lvM (by assumption) rfl rfl) ?_
    exact ⟨rfl, q⟩
  | some x =>
    rw [hx] at hqa
    refine X.fn Try.func60 rfl (n := 24) rfl rfl ?_
    refine CC.seq ?_
    refine CC.region ?_
    have la8 := hb.lt
    have la9 := hr.lt
    refine LL.alloc ([Value.int IntKind.u64 0, Value.int IntKind.u64 0, Value.int IntKind.u64 0, Value.int IntKind.u64 0, Value.int IntKind.u64 0, Value.int IntKind.u64 0, Value.int IntKind.u64 0, Value.int IntKind.u64 0]) rfl rfl rfl rfl rfl ?_
    intro Wa11 ga12 ega12 ra13 za14 ba10
    replace hb := hb.up ba10
    replace M := M.up ba10
    replace q := q.trans (ba10.mono q.size)
    replace hr := hr.up ba10
    replace hq := hq.up ba10
    replace m1 := m1.up ba10
    refine LL.nilS ?_
    refine CC.seq ?_
    refine CC.seq ?_
    refine CC.region ?_
    refine LL.val (R.load rfl rfl (I.ld1 rfl (RowL.cell hb rfl))) rfl rfl rfl ?_
    refine LL.val (R.nil rfl rfl) rfl rfl rfl ?_
    refine LL.val (R.field rfl rfl (I.fld rfl)) rfl rfl rfl ?_
    refine LL.val (R.load rfl rfl (I.ld1 rfl (RowL.cell hr rfl))) rfl rfl rfl ?_
    refine LL.val (R.move rfl rfl) rfl rfl rfl ?_
    (refine LL.val (R.lookKT rfl rfl iKeys (by rfl) (z := lV zL) (by kernel_rfl) hq i rfl hqa) rfl rfl rfl ?_)
    refine LL.val (R.move rfl rfl) rfl rfl rfl ?_
    refine LL.val (R.extract rfl rfl rfl) rfl rfl rfl ?_
    refine LL.val (R.extract rfl rfl rfl) rfl rfl rfl ?_
    have la85 := ra13.lt
    have la86 := hb.lt
    have la87 := hr.lt
    refine LL.alloc ([Value.int IntKind.u64 0, Value.int IntKind.u64 0, Value.int IntKind.u64 0, Value.int IntKind.u64 0, Value.int IntKind.u64 0, Value.int IntKind.u64 0, Value.int IntKind.u64 0, Value.int IntKind.u64 0]) rfl rfl rfl rfl rfl ?_
    intro Wa89 ga90 ega90 ra91 za92 ba88
    replace ra13 := ra13.up ba88
    replace ba10 := ba10.trans (ba88.mono ba10.size)
    replace hb := hb.up ba88
    replace M := M.up ba88
    replace q := q.trans (ba88.mono q.size)
    replace hr := hr.up ba88
    replace hq := hq.up ba88
    replace m1 := m1.up ba88
    (refine LL.storeAll rfl rfl rfl rfl (lE_len _) (by assumption) rfl (lE_one _) rfl rfl ?_; intro Wa96 rxa97 gra94 zza99; have cya98 := ln_cells rxa97)
    have zgra94 := gra94.size
    replace ba88 := ba88.grown gra94 ba88.size (by rintro k ⟨⟩; omega)
    replace ra13 := ra13.gr gra94 (by have := ra13.lt; omega)
    replace ba10 := ba10.grown gra94 ba10.size (by rintro k ⟨⟩; omega)
    replace hb := hb.gr gra94 (by have := hb.lt; omega)
    replace M := M.gr gra94 (by omega)
    replace q := q.grown gra94 q.size (by rintro k ⟨⟩; omega)
    replace hr := hr.gr gra94 (by have := hr.lt; omega)
    replace hq := hq.gr gra94 (by have := hq.lt; omega)
    replace m1 := m1.gr gra94 (by have := m1.lt; omega)
    refine LL.val (R.assign rfl rfl) rfl rfl rfl ?_
    refine LL.nilS ?_
    refine CC.seq ?_
    refine CC.region ?_
    refine LL.val (R.move rfl rfl) rfl rfl rfl ?_
    refine LL.nilS ?_
    refine CC.yes rfl ?_
    refine CC.seq ?_
    refine CC.region ?_
    refine LL.val (R.load rfl rfl (I.ldM (by assumption) rfl rfl)) rfl rfl rfl ?_
    (refine LL.storeAll rfl rfl rfl rfl (lE_len _) (by assumption) rfl (lE_one _) rfl rfl ?_; intro Wa124 rxa125 gra122 zza127; have cya126 := ln_cells rxa125)
    have zgra122 := gra122.size
    replace rxa97 := rxa97.gr gra122 (by have := rxa97.lt; omega)
    replace cya98 := cya98.gr gra122 (by have := cya98.lt; omega)
    replace ba10 := ba10.grown gra122 ba10.size (by rintro k ⟨⟩; omega)
    replace hb := hb.gr gra122 (by have := hb.lt; omega)
    replace M := M.gr gra122 (by omega)
    replace q := q.grown gra122 q.size (by rintro k ⟨⟩; omega)
    replace hr := hr.gr gra122 (by have := hr.lt; omega)
    replace hq := hq.gr gra122 (by have := hq.lt; omega)
    replace m1 := m1.gr gra122 (by have := m1.lt; omega)
    refine LL.nilS ?_
    refine CC.ret ?_
    refine EE.thenR ?_
    refine EE.retC rfl rfl (lvM (by assumption) rfl rfl) ?_
    exact ⟨rfl, q⟩
--C pmem_Memory_kept_3 | hK3 @w b' | ⟨rfl, @b⟩
theorem kept3_any (i bk m gn gl qb N : Nat) {s : List Cl} {c : Cl} (w : World) (hb : RowL w bk 45 [.pointer (some ⟨m, 0, none⟩)]) (M : Mem w m gn gl qb N s) (hc : s[i]? = some c) : Calls Try.prog 61 #[.int .i64 (i : Int), .pointer (some ⟨bk, 0, none⟩)] w fun e w' => e = .returned (lV c.1) ∧ Below w.heap.size w w' := by
  have q := Below.refl w.heap.size w
  have hr := M.row
  have hl := M.len
  have hi := (List.getElem?_eq_some_iff.1 hc).1
  have lts := M.lts
  have m1 : CellsN w ⟨gn, 0 + i * 8, none⟩ 8 (lE c.1) := by rw [Nat.zero_add]; exact RowL.elemN (enc := nowE) (x := c) nowEnc M.now hc
  refine X.fn Try.func61 rfl (n := 12) rfl rfl ?_
  refine CC.seq ?_
  refine CC.region ?_
  have l8 := hb.lt
  have l9 := hr.lt
  refine LL.alloc ([Value.int IntKind.u64 0, Value.int IntKind.u64 0, Value.int IntKind.u64 0, Value.int IntKind.u64 0, Value.int IntKind.u64 0, Value.int IntKind.u64 0, Value.int IntKind.u64 0, Value.int IntKind.u64 0]) rfl rfl rfl rfl rfl ?_
  intro W11 g12 eg12 r13 z14 b10
  replace hb := hb.up b10
  replace M := M.up b10
  replace q := q.trans (b10.mono q.size)
  replace hr := hr.up b10
  replace m1 := m1.up b10
  refine LL.nilS ?_
  refine CC.seq ?_
  refine CC.region ?_
  refine LL.val (R.load rfl rfl (I.ld1 rfl (RowL.cell hb rfl))) rfl rfl rfl ?_
  refine LL.val (R.nil rfl rfl) rfl rfl rfl ?_
  refine LL.val (R.field rfl rfl (I.fld rfl)) rfl rfl rfl ?_
  refine LL.val (R.field rfl rfl (I.fld rfl)) rfl rfl rfl ?_
  refine LL.val (R.load rfl rfl (I.ld1 rfl (RowL.cell hr rfl))) rfl rfl rfl ?_
  refine LL.val (R.move rfl rfl) rfl rfl rfl ?_
  refine LL.val (R.index rfl rfl rfl (I.ixS rfl (by omega))) rfl rfl rfl ?_
  refine LL.val (R.load rfl rfl (I.ldM (by assumption) rfl rfl)) rfl rfl rfl ?_
  (refine LL.storeAll rfl rfl rfl rfl (lE_len _) (by assumption) rfl (lE_one _) rfl rfl ?_; intro W74 rx75 gr72 zz77; have cr := ln_cells rx75)
  have zgr72 := gr72.size
  replace b10 := b10.grown gr72 b10.size (by rintro k ⟨⟩; omega)
  replace hb := hb.gr gr72 (by have := hb.lt; omega)
  replace M := M.gr gr72 (by omega)
  replace q := q.grown gr72 q.size (by rintro k ⟨⟩; omega)
  replace hr := hr.gr gr72 (by have := hr.lt; omega)
  replace m1 := m1.gr gr72 (by have := m1.lt; omega)
  refine LL.nilS ?_
  refine CC.ret ?_
  refine EE.retC rfl rfl (lvM cr rfl rfl) ?_
  exact ⟨rfl, q⟩
abbrev kfV (f bk : Nat) : Value := .func (.func f) #[] #[.pointer (some ⟨bk, 0, none⟩)]
theorem kept_any (m : Nat) (w : World) : Calls Try.prog 45 #[.pointer (some ⟨m, 0, none⟩)] w fun e w' => ∃ bk, e = .returned (.agg #[kfV 59 bk, kfV 60 bk, kfV 61 bk]) ∧ RowL w' bk 45 [.pointer (some ⟨m, 0, none⟩)] ∧ w.heap.size ≤ bk ∧ Below w.heap.size w w' := by
  have q := Below.refl w.heap.size w
  refine X.fn Try.func45 rfl (n := 7) rfl rfl ?_
  refine CC.seq ?_
  refine CC.region ?_
  refine LL.box [Value.pointer (some { block := m, off := 0 })] rfl rfl rfl rfl rfl ?_
  intro W2 g3 eg3 r4 z5 b1
  replace q := q.trans (b1.mono q.size)
  have l6 := r4.lt
  refine LL.alloc ([Value.nilFunc, Value.nilFunc, Value.nilFunc]) rfl rfl rfl rfl rfl ?_
  intro W8 g9 eg9 r10 z11 b7
  replace r4 := r4.up b7
  replace b1 := b1.trans (b7.mono b1.size)
  replace q := q.trans (b7.mono q.size)
  refine LL.nilS ?_
  refine CC.seq ?_
  refine CC.region ?_
  refine LL.val (R.func rfl rfl rfl) rfl rfl rfl ?_
  refine LL.val (R.func rfl rfl rfl) rfl rfl rfl ?_
  refine LL.val (R.func rfl rfl rfl) rfl rfl rfl ?_
  refine LL.val (R.buildV rfl rfl (v := .agg #[Value.func (Fn.func 59) #[] #[Value.pointer (some { block := g3, off := 0 })], Value.func (Fn.func 60) #[] #[Value.pointer (some { block := g3, off := 0 })], Value.func (Fn.func 61) #[] #[Value.pointer (some { block := g3, off := 0 })]]) (fun _ => by kernel_rfl)) rfl rfl rfl ?_
  refine LL.storeN (vs := [Value.func (Fn.func 59) #[] #[Value.pointer (some { block := g3, off := 0 })], Value.func (Fn.func 60) #[] #[Value.pointer (some { block := g3, off := 0 })], Value.func (Fn.func 61) #[] #[Value.pointer (some { block := g3, off := 0 })]]) rfl rfl rfl rfl r10 (by exact Nat.le_of_ble_eq_true rfl) (ones_of rfl) rfl rfl ?_
  intro W13 r14 b12 z15
  have hlb12 := r10.lt
  replace r14 : RowL W13 _ 96 [Value.func (Fn.func 59) #[] #[Value.pointer (some { block := g3, off := 0 })], Value.func (Fn.func 60) #[] #[Value.pointer (some { block := g3, off := 0 })], Value.func (Fn.func 61) #[] #[Value.pointer (some { block := g3, off := 0 })]] := r14
  clear r10
  replace b7 := b7.grown b12 b7.size (by rintro k ⟨⟩; omega)
  replace r4 := r4.gr b12 (by have := r4.lt; omega)
  replace b1 := b1.grown b12 b1.size (by rintro k ⟨⟩; omega)
  replace q := q.grown b12 q.size (by rintro k ⟨⟩; omega)
  have r10 := r14
  clear r14
  refine LL.nilS ?_
  refine CC.ret ?_
  refine EE.retC rfl rfl (lvNc (RowL.cells0 (by assumption)) (by rfl) (by rfl)) ?_
  exact ⟨_, rfl, by assumption, by omega, q⟩
def pkL (c : Cl) (p : Nat) : Ln := if p % 3 = 0 then c.2.1 else if p % 3 = 1 then c.2.2.getD c.2.1 else c.1
/-- What a crash leaves, behind j of the open lines. -/
def crJ (s : List Cl) (ps : List Nat) : Nat → List Ln
  | 0 => s.map fun c => c.2.1
  | j + 1 => match (opS s)[j]?, ps[j]? with
    | some k, some p => (match s[k]? with | some c => (crJ s ps j).set k (pkL c p) | none => crJ s ps j)
    | _, _ => crJ s ps j
def crS (s : List Cl) (ps : List Nat) : List Ln := crJ s ps (opS s).length
theorem crJ_len (s : List Cl) (ps : List Nat) : ∀ j, (crJ s ps j).length = s.length
  | 0 => by simp [crJ]
  | j + 1 => by
    have ih := crJ_len s ps j
    unfold crJ
    split
    · split
      · rw [List.length_set, ih]
      · exact ih
    · exact ih
theorem crJ_step {s : List Cl} {ps : List Nat} {j k p : Nat} {c : Cl} (hk : (opS s)[j]? = some k) (hp : ps[j]? = some p) (hc : s[k]? = some c) : crJ s ps (j + 1) = (crJ s ps j).set k (pkL c p) := by
  show (match (opS s)[j]?, ps[j]? with | some k, some p => (match s[k]? with | some c => (crJ s ps j).set k (pkL c p) | none => crJ s ps j) | _, _ => crJ s ps j) = _
  rw [hk, hp]
  simp only [hc]
theorem crJ_none {s : List Cl} {ps : List Nat} {j : Nat} (hp : ps[j]? = none) : crJ s ps (j + 1) = crJ s ps j := by
  show (match (opS s)[j]?, ps[j]? with | some k, some p => (match s[k]? with | some c => (crJ s ps j).set k (pkL c p) | none => crJ s ps j) | _, _ => crJ s ps j) = _
  rw [hp]
  cases (opS s)[j]? <;> rfl
theorem crJ_stop {s : List Cl} {ps : List Nat} {j : Nat} (h : ps.length ≤ j) : ∀ d, crJ s ps (j + d) = crJ s ps j
  | 0 => rfl
  | d + 1 => by rw [← Nat.add_assoc, crJ_none (List.getElem?_eq_none (by omega)), crJ_stop h d]
def yE (n : Nat) : List Value := [.int .u8 (n : Int)]
theorem yEnc : Enc yE 1 := ⟨fun _ => rfl, fun t u hu => by
  simp only [yE, List.mem_cons, List.not_mem_nil, or_false] at hu
  subst hu
  rfl, by decide⟩
theorem Mem.taken {w : World} {m gn gl qb N E : Nat} {s : List Cl} (M : Mem w m gn gl qb N s) (hE : w.heap[E]? = some (.deferred (some []))) : Mem (Go.Proofs.Ytcmgpfahpmkeoaa.taken E w) m gn gl qb N s := by
  have key : ∀ {g e : Nat} {xs : List Value}, RowL w g e xs → RowL (Go.Proofs.Ytcmgpfahpmkeoaa.taken E w) g e xs := fun {g e xs} h => h.same (World.putObj_heap_other (fun h2 => by subst h2; have h3 : w.heap[g]? = _ := h; rw [hE] at h3; cases h3))
  exact ⟨key M.row, key M.now, key M.last, M.qs.same (World.putObj_heap_other (fun h2 => by subst h2; obtain ⟨es, cl, h3, _⟩ := M.qs; rw [hE] at h3; cases h3)), M.len, M.pos, M.le, M.ne⟩
theorem pre_at {α : Type} {pre l : List α} {x : α} (h : pre ++ [x] <+: l) : l[pre.length]? = some x := by
  obtain ⟨t, rfl⟩ := h
  simp
set_option maxRecDepth 100000
set_option maxHeartbeats 8000000
theorem crash_any (m gn gl qb N : Nat) {s : List Cl} (a : Option Addr) (L cp : Nat) (ps : List Nat) (w : World) (M : Mem w m gn gl qb N s) (hps : ReadsT yE 1 w (.slice a L cp) ps) (hL : ps.length = L) (hL2 : L ≤ 1048576) (hb : ∀ p ∈ ps, p < 256) :
    Calls Try.prog 22 #[.pointer (some ⟨m, 0, none⟩), .slice a L cp] w fun e w' => ∃ m' gn' gl' qb', e = .returned (.tuple #[.pointer (some ⟨m', 0, none⟩), .int .i64 0]) ∧ Mem w' m' gn' gl' qb' N ((crS s ps).map nwC) ∧ w.heap.size ≤ m' ∧ w.heap.size ≤ gn' ∧ w.heap.size ≤ gl' ∧ w.heap.size ≤ qb' ∧ Below w.heap.size w w' := by
  have q := Below.refl w.heap.size w
  have hr := M.row
  have h0 := M.pos
  have hN := M.le
  have hl := M.len
  have hpF : ∀ W, Below w.heap.size w W → ReadsT yE 1 W (.slice a L cp) ps := fun W b => hps.up b
  have hMF : ∀ W, Below w.heap.size w W → Mem W m gn gl qb N s := fun W b => M.up b
  have lts := M.lts
  have hla : RowL w gl 85 ((s.map fun c => c.2.1).flatMap lE) := by rw [List.flatMap_map]; exact M.last
  have hll : (s.map fun c => c.2.1).length = N := by rw [List.length_map]; exact hl
  clear hps M
  refine X.fnM Try.func22 rfl (n := 43) rfl rfl ?_
  refine CC.seq ?_
  refine CC.region ?_
  have l1 := hr.lt
  have l2 := hla.lt
  refine LL.box [Value.slice a L cp] rfl rfl rfl rfl rfl ?_
  intro W4 g5 eg5 r6 z7 b3
  replace q := q.trans (b3.mono q.size)
  replace hr := hr.up b3
  replace hla := hla.up b3
  refine LL.val (R.assign rfl rfl) rfl rfl rfl ?_
  refine LL.val (R.assign rfl rfl) rfl rfl rfl ?_
  refine LL.nilS ?_
  refine CC.straight ?_
  refine CC.seq ?_
  refine CC.seq ?_
  refine CC.region ?_
  refine LL.val (R.move rfl rfl) rfl rfl rfl ?_
  refine LL.call (R.call rfl rfl rfl) rfl rfl rfl (none_F _ _ (by first | assumption | omega) (by first | assumption | omega)) ?_
  rintro e W' ⟨rfl, rfl⟩
  refine ⟨_, rfl, ?_⟩
  refine LL.nilS ?_
  refine CC.no rfl ?_
  refine CC.skip ?_
  refine EE.thenN ?_
  refine CC.seq ?_
  refine CC.region ?_
  refine LL.val (R.move rfl rfl) rfl rfl rfl ?_
  refine LL.val (R.nil rfl rfl) rfl rfl rfl ?_
  refine LL.val (R.field rfl rfl (I.fld rfl)) rfl rfl rfl ?_
  refine LL.val (R.load rfl rfl (I.ld1 rfl (RowL.cell hr rfl))) rfl rfl rfl ?_
  refine LL.call (R.call rfl rfl rfl) rfl rfl rfl (moved_any lEnc _ _ _ _ (by first | assumption | omega) (by first | assumption | omega) (by first | assumption | omega)) ?_
  rintro e W9 ⟨g10, rfl, r11, l12, o13, b8⟩
  refine ⟨_, rfl, ?_⟩
  have zb8 := b8.size
  replace r6 := r6.up b8
  replace b3 := b3.trans (b8.mono b3.size)
  replace q := q.trans (b8.mono q.size)
  replace hr := hr.up b8
  replace hla := hla.up b8
  have l15 := r11.lt
  have l16 := r6.lt
  have l17 := hr.lt
  have l18 := hla.lt
  refine LL.alloc ([Value.slice none 0 0]) rfl rfl rfl rfl rfl ?_
  intro W20 g21 eg21 r22 z23 b19
  replace r11 := r11.up b19
  replace b8 := b8.trans (b19.mono b8.size)
  replace r6 := r6.up b19
  replace b3 := b3.trans (b19.mono b3.size)
  replace q := q.trans (b19.mono q.size)
  replace hr := hr.up b19
  replace hla := hla.up b19
  refine LL.store rfl rfl rfl rfl r22 (by exact Nat.le_of_ble_eq_true rfl) rfl rfl rfl rfl ?_
  intro W25 r26 b24 z27
  have hlb24 := r22.lt
  replace r26 : RowL W25 _ 77 [Value.slice (some { block := g10, off := 0 }) N N] := r26
  clear r22
  replace b19 := b19.grown b24 b19.size (by rintro k ⟨⟩; omega)
  replace r11 := r11.gr b24 (by have := r11.lt; omega)
  replace b8 := b8.grown b24 b8.size (by rintro k ⟨⟩; omega)
  replace r6 := r6.gr b24 (by have := r6.lt; omega)
  replace b3 := b3.grown b24 b3.size (by rintro k ⟨⟩; omega)
  replace q := q.grown b24 q.size (by rintro k ⟨⟩; omega)
  replace hr := hr.gr b24 (by have := hr.lt; omega)
  replace hla := hla.gr b24 (by have := hla.lt; omega)
  have r22 := r26
  clear r26
  refine LL.nilS ?_
  refine CC.seq ?_
  refine CC.region ?_
  refine LL.val (R.move rfl rfl) rfl rfl rfl ?_
  refine LL.call (R.call rfl rfl rfl) rfl rfl rfl (kept_any _ _) ?_
  rintro e W29 ⟨g30, rfl, r31, l32, b28⟩
  refine ⟨_, rfl, ?_⟩
  have zb28 := b28.size
  replace b19 := b19.trans (b28.mono b19.size)
  replace r11 := r11.up b28
  replace b8 := b8.trans (b28.mono b8.size)
  replace r6 := r6.up b28
  replace b3 := b3.trans (b28.mono b3.size)
  replace q := q.trans (b28.mono q.size)
  replace hr := hr.up b28
  replace hla := hla.up b28
  replace r22 := r22.up b28
  have l34 := r31.lt
  have l35 := r11.lt
  have l36 := r6.lt
  have l37 := hr.lt
  have l38 := hla.lt
  have l39 := r22.lt
  refine LL.alloc ([Value.nilFunc, Value.nilFunc, Value.nilFunc]) rfl rfl rfl rfl rfl ?_
  intro W41 g42 eg42 r43 z44 b40
  replace r31 := r31.up b40
  replace b28 := b28.trans (b40.mono b28.size)
  replace b19 := b19.trans (b40.mono b19.size)
  replace r11 := r11.up b40
  replace b8 := b8.trans (b40.mono b8.size)
  replace r6 := r6.up b40
  replace b3 := b3.trans (b40.mono b3.size)
  replace q := q.trans (b40.mono q.size)
  replace hr := hr.up b40
  replace hla := hla.up b40
  replace r22 := r22.up b40
  refine LL.storeN (vs := [kfV 59 g30, kfV 60 g30, kfV 61 g30]) rfl rfl rfl rfl r43 (by exact Nat.le_of_ble_eq_true rfl) (ones_of rfl) rfl rfl ?_
  intro W46 r47 b45 z48
  have hlb45 := r43.lt
  replace r47 : RowL W46 _ 96 [kfV 59 g30, kfV 60 g30, kfV 61 g30] := r47
  clear r43
  replace b40 := b40.grown b45 b40.size (by rintro k ⟨⟩; omega)
  replace r31 := r31.gr b45 (by have := r31.lt; omega)
  replace b28 := b28.grown b45 b28.size (by rintro k ⟨⟩; omega)
  replace b19 := b19.grown b45 b19.size (by rintro k ⟨⟩; omega)
  replace r11 := r11.gr b45 (by have := r11.lt; omega)
  replace b8 := b8.grown b45 b8.size (by rintro k ⟨⟩; omega)
  replace r6 := r6.gr b45 (by have := r6.lt; omega)
  replace b3 := b3.grown b45 b3.size (by rintro k ⟨⟩; omega)
  replace q := q.grown b45 q.size (by rintro k ⟨⟩; omega)
  replace hr := hr.gr b45 (by have := hr.lt; omega)
  replace hla := hla.gr b45 (by have := hla.lt; omega)
  replace r22 := r22.gr b45 (by have := r22.lt; omega)
  have r43 := r47
  clear r47
  refine LL.nilS ?_
  refine CC.seq ?_
  refine CC.region ?_
  have l49 := r31.lt
  have l50 := r11.lt
  have l51 := r6.lt
  have l52 := hr.lt
  have l53 := hla.lt
  have l54 := r22.lt
  have l55 := r43.lt
  refine LL.alloc ([Value.int IntKind.i64 0]) rfl rfl rfl rfl rfl ?_
  intro W57 g58 eg58 r59 z60 b56
  replace b40 := b40.trans (b56.mono b40.size)
  replace r31 := r31.up b56
  replace b28 := b28.trans (b56.mono b28.size)
  replace b19 := b19.trans (b56.mono b19.size)
  replace r11 := r11.up b56
  replace b8 := b8.trans (b56.mono b8.size)
  replace r6 := r6.up b56
  replace b3 := b3.trans (b56.mono b3.size)
  replace q := q.trans (b56.mono q.size)
  replace hr := hr.up b56
  replace hla := hla.up b56
  replace r22 := r22.up b56
  replace r43 := r43.up b56
  refine LL.store rfl rfl rfl rfl r59 (by exact Nat.le_of_ble_eq_true rfl) rfl rfl rfl rfl ?_
  intro W62 r63 b61 z64
  have hlb61 := r59.lt
  replace r63 : RowL W62 _ 3 [Value.int IntKind.i64 0] := r63
  clear r59
  replace b56 := b56.grown b61 b56.size (by rintro k ⟨⟩; omega)
  replace b40 := b40.grown b61 b40.size (by rintro k ⟨⟩; omega)
  replace r31 := r31.gr b61 (by have := r31.lt; omega)
  replace b28 := b28.grown b61 b28.size (by rintro k ⟨⟩; omega)
  replace b19 := b19.grown b61 b19.size (by rintro k ⟨⟩; omega)
  replace r11 := r11.gr b61 (by have := r11.lt; omega)
  replace b8 := b8.grown b61 b8.size (by rintro k ⟨⟩; omega)
  replace r6 := r6.gr b61 (by have := r6.lt; omega)
  replace b3 := b3.grown b61 b3.size (by rintro k ⟨⟩; omega)
  replace q := q.grown b61 q.size (by rintro k ⟨⟩; omega)
  replace hr := hr.gr b61 (by have := hr.lt; omega)
  replace hla := hla.gr b61 (by have := hla.lt; omega)
  replace r22 := r22.gr b61 (by have := r22.lt; omega)
  replace r43 := r43.gr b61 (by have := r43.lt; omega)
  have r59 := r63
  clear r63
  refine LL.nilS ?_
  refine CC.seq ?_
  refine CC.label ?_
  refine EE.thenN ?_
  refine CC.seq ?_
  refine CC.seq ?_
  refine CC.region ?_
  refine LL.val (R.move rfl rfl) rfl rfl rfl ?_
  refine LL.call (R.call rfl rfl rfl) rfl rfl rfl (open_any _ _) ?_
  rintro e W66 ⟨g67, rfl, r68, l69, b65⟩
  refine ⟨_, rfl, ?_⟩
  have zb65 := b65.size
  replace b56 := b56.trans (b65.mono b56.size)
  replace b40 := b40.trans (b65.mono b40.size)
  replace r31 := r31.up b65
  replace b28 := b28.trans (b65.mono b28.size)
  replace b19 := b19.trans (b65.mono b19.size)
  replace r11 := r11.up b65
  replace b8 := b8.trans (b65.mono b8.size)
  replace r6 := r6.up b65
  replace b3 := b3.trans (b65.mono b3.size)
  replace q := q.trans (b65.mono q.size)
  replace hr := hr.up b65
  replace hla := hla.up b65
  replace r22 := r22.up b65
  replace r43 := r43.up b65
  replace r59 := r59.up b65
  refine LL.nilS ?_
  refine CC.block ?_
  have yB := q.size
  have l68 : g67 < W66.heap.size := r68.lt
  have hcl : ∀ (pre : List Nat) (x : Nat), Part (fun xs => xs = opS s) (pre ++ [x]) → (opS s)[pre.length]? = some x ∧ pre.length < 16384 ∧ ∃ c, s[x]? = some c := fun pre x hp => by
    obtain ⟨_, rfl, hp⟩ := hp
    have h1 := pre_at hp
    have h2 := opF_lt x (List.mem_of_getElem? h1)
    have h3 := opF_len (s := s) s.length
    have h4 := (List.getElem?_eq_some_iff.1 h1).1
    exact ⟨h1, by unfold opS at h4; omega, h2.2.imp fun c h => h.1⟩
  refine CC.rangeZ (γ := Unit) (gf := 62) (lb := [.pointer (some ⟨g67, 0, none⟩)]) (encs := iE) rfl rfl (open1_gives g67 m gn gl qb N s W66 r68 (hMF _ q)) (Below.refl _ _) (fun k hk => by have lr := r68.lt; (try simp only at hk); omega) (fun _ => rfl) rfl
    (fun mm (pre : List Nat) W' => Below w.heap.size w W' ∧ RowL W' g10 85 ((crJ s ps pre.length).flatMap lE) ∧ RowL W' g21 77 [.slice (some ⟨g10, 0, none⟩) N N] ∧ RowL W' g42 96 [kfV 59 g30, kfV 60 g30, kfV 61 g30] ∧ RowL W' g58 3 [.int .i64 (pre.length : Int)] ∧ RowL W' g5 54 [.slice a L cp] ∧ RowL W' g30 45 [.pointer (some ⟨m, 0, none⟩)] ∧ pre.length ≤ L)
    (fun mm (pre : List Nat) W' => Below w.heap.size w W' ∧ RowL W' g10 85 ((crS s ps).flatMap lE) ∧ RowL W' g21 77 [.slice (some ⟨g10, 0, none⟩) N N])
    (fun W' => Below w.heap.size w W' ∧ RowL W' g10 85 ((crS s ps).flatMap lE) ∧ RowL W' g21 77 [.slice (some ⟨g10, 0, none⟩) N N])
    (by
      rintro mm m' s' X Y ⟨h1, h2, h3, h4, h5, h6, h7, h8⟩ ht hg
      exact ⟨h1.trans (ht.below yB h1.size), ht.row h2 (.inl (by omega)), ht.row h3 (.inl (by omega)), ht.row h4 (.inl (by omega)), ht.row h5 (.inl (by omega)), ht.row h6 (.inl (by omega)), ht.row h7 (.inl (by omega)), h8⟩)
    (by
      rintro mm m' s' X Y ⟨h1, h2, h3⟩ ht hg
      exact ⟨h1.trans (ht.below yB h1.size), ht.row h2 (.inl (by omega)), ht.row h3 (.inl (by omega))⟩)
    ⟨q, by assumption, by assumption, by assumption, by assumption, by assumption, by assumption, Nat.zero_le _⟩ ?hIA ?hIxA
    (fun x _ => sl [(3, .pointer (some ⟨g5, 0, none⟩)), (6, .pointer (some ⟨g21, 0, none⟩)), (7, .pointer (some ⟨g42, 0, none⟩)), (8, .pointer (some ⟨g58, 0, none⟩)), (9, .int .i64 (x : Int))]) (fun _ _ _ => True) (fun x c => fun _ W W' row h hg hr => trivial) ?assign ?body ?after
  case hIA =>
    rintro mm xs W' rfl ⟨h1, h2, h3, _⟩
    exact ⟨h1, h2, h3⟩
  case hIxA =>
    rintro mm pre W' _ h
    exact h
  case assign =>
    rintro l' mm pre x W K hm hI hK
    refine CC.region ?_
    refine LL.val (R.assign rfl rfl) rfl rfl rfl ?_
    refine LL.nil ?_
    exact EE.thenK fun a' F => hK a' _ () (StaysZ.refl _ _ _) (Keeps.refl _ _) hI (F.keep _ ⟨rfl, rfl, rfl, rfl, rfl, trivial⟩) trivial
  case body =>
    rintro l' mm pre x c W hm hl' hrl ⟨q, r11, r22, r43, r59, r6, r31, hpl⟩ _ hpart
    obtain ⟨hx, hpn, c0, hc⟩ := hcl pre x hpart
    have st := StaysZ.refl W66.heap.size mm W
    have kp := Keeps.refl (fun k => k = g67 ∨ k = m ∨ k = gn ∨ k = gl ∨ k = qb) W
    have yq := q.size
    obtain ⟨_, hr0⟩ := hrl
    have hr1 := (Array.getElem?_eq_some_iff.1 hr0).1
    clear hr0
    have hxl := (List.getElem?_eq_some_iff.1 hc).1
    by_cases hend : pre.length = L
    · have hfin : crJ s ps pre.length = crS s ps := by
        have h1 := (List.getElem?_eq_some_iff.1 hx).1
        have h2 := crJ_stop (s := s) (ps := ps) (j := pre.length) (by omega) ((opS s).length - pre.length)
        rw [show pre.length + ((opS s).length - pre.length) = (opS s).length by omega] at h2
        exact h2.symm
      rw [hfin] at r11
      refine CC.block ?_
      refine CC.seq ?_
      refine CC.seq ?_
      refine CC.region ?_
      refine LL.val (R.load rfl rfl (I.ld1 rfl (RowL.cell r59 rfl))) rfl rfl rfl ?_
      refine LL.val (R.load rfl rfl (I.ld1 rfl (RowL.cell r6 rfl))) rfl rfl rfl ?_
      refine LL.val (R.len rfl rfl rfl rfl) rfl rfl rfl ?_
      refine LL.val (R.eqT rfl rfl rfl (by omega)) rfl rfl rfl ?_
      refine LL.nilS ?_
      refine CC.yes rfl ?_
      refine CC.exit ?_
      refine EE.thenX ?_
      refine EE.inX' rfl ?_
      exact EE.roundXZ ⟨st, rfl, q, r11, r22⟩
    obtain ⟨p, hp⟩ : ∃ p, ps[pre.length]? = some p := ⟨_, List.getElem?_eq_getElem (by omega)⟩
    have hp256 := hb p (List.mem_of_getElem? hp)
    obtain ⟨bp, offp, rfl, hbp, hcp⟩ := (hpF W q).one yEnc hp
    have c1 : W.cell? ⟨bp, offp + pre.length, none⟩ = some (.int .u8 (p : Int)) := hcp _ rfl
    have hcr := crJ_step hx hp hc
    have hM0 := hMF W q
    have lw := hM0.lts
    rcases (show p % 3 = 0 ∨ p % 3 = 1 ∨ p % 3 = 2 by omega) with h3 | h3 | h3
    · have c2 : W.cell? ⟨g42, 0 + p % 3, none⟩ = some (kfV 59 g30) := by rw [h3]; exact r43.cell rfl
      have hK1 := fun (w' : World) (b : Below W.heap.size W w') => kept1_any x g30 m gn gl qb N w' (r31.up b) (hMF w' (q.trans (b.mono q.size))) hc
      have hpk : pkL c0 p = c0.2.1 := by unfold pkL; rw [if_pos h3]
      refine CC.block ?_
      refine CC.seq ?_
      refine CC.seq ?_
      refine CC.region ?_
      refine LL.val (R.load rfl rfl (I.ld1 rfl (RowL.cell r59 rfl))) rfl rfl rfl ?_
      refine LL.val (R.load rfl rfl (I.ld1 rfl (RowL.cell r6 rfl))) rfl rfl rfl ?_
      refine LL.val (R.len rfl rfl rfl rfl) rfl rfl rfl ?_
      refine LL.val (R.eqF rfl rfl rfl (by omega)) rfl rfl rfl ?_
      refine LL.nilS ?_
      refine CC.no rfl ?_
      refine CC.skip ?_
      refine EE.thenN ?_
      refine CC.seq ?_
      refine CC.growT 13 (by kernel_rfl) (by kernel_rfl) ?_
      refine GG.val (fun w' b' => R.load rfl rfl (I.ld1 rfl (RowL.cell (r22.up b') rfl))) rfl rfl ?_
      refine GG.val (fun w' b' => R.move rfl rfl) rfl rfl ?_
      refine GG.val (fun w' b' => R.load rfl rfl (I.ld1 rfl (RowL.cell (r6.up b') rfl))) rfl rfl ?_
      refine GG.val (fun w' b' => R.load rfl rfl (I.ld1 rfl (RowL.cell (r59.up b') rfl))) rfl rfl ?_
      refine GG.val (fun w' b' => R.index rfl rfl rfl (I.ixS1 rfl (by omega))) rfl rfl ?_
      (refine GG.val (fun w' b' => R.load rfl rfl (I.ld1 rfl (cell_up c1 b'))) rfl rfl ?_)
      refine GG.val (fun w' b' => R.convI rfl rfl rfl rfl (wrapI (by omega) (by omega))) rfl rfl ?_
      refine GG.val (fun w' b' => R.remNc rfl rfl rfl rfl (by omega)) rfl rfl ?_
      refine GG.val (fun w' b' => R.index rfl rfl rfl (I.ixA1 rfl (by omega))) rfl rfl ?_
      (refine GG.val (fun w' b' => R.load rfl rfl (I.ld1 rfl (cell_up c2 b'))) rfl rfl ?_)
      refine GG.val (fun w' b' => R.move rfl rfl) rfl rfl ?_
      refine GG.call (fun w' => (R.callV rfl rfl rfl rfl)) rfl rfl (fun w' b' => (hK1 w' b').mono fun e W' h => ⟨h.1, b'.trans (h.2.mono b'.size)⟩) ?_
      refine GG.val (fun w' b' => R.index rfl rfl rfl (I.ixS rfl (by omega))) rfl rfl ?_
      refine GG.nil (fun Wc110 bc109 => ?_)
      have zbc109 := bc109.size
      replace q := q.trans (bc109.mono q.size)
      replace r11 := r11.up bc109
      replace r22 := r22.up bc109
      replace r43 := r43.up bc109
      replace r59 := r59.up bc109
      replace r31 := r31.up bc109
      replace st := st.trans (StaysZ.of_below bc109)
      replace kp := kp.trans (Keeps.of_below (fun k hk => by (try simp only at hk); omega) bc109)
      replace r6 := r6.up bc109
      replace c1 := cell_up c1 bc109
      replace hM0 := hM0.up bc109
      replace c2 := cell_up c2 bc109
      (refine LL.storeR (enc := lE) x (c0.2.1) rfl rfl (by show 0 + x * 8 = x * 8; omega) rfl rfl lEnc r11 (by rw [crJ_len]; omega) rfl rfl ?_; clear r11; intro Wc114 r11 grc112 zzc117)
      have zgrc112 := grc112.size
      replace q := q.grown grc112 q.size (by rintro k ⟨⟩; omega)
      replace r22 := r22.gr grc112 (by have := r22.lt; omega)
      replace r43 := r43.gr grc112 (by have := r43.lt; omega)
      replace r59 := r59.gr grc112 (by have := r59.lt; omega)
      replace r31 := r31.gr grc112 (by have := r31.lt; omega)
      replace st := st.trans (StaysZ.of_grown grc112 (by omega))
      replace kp := kp.trans (Keeps.of_grown grc112 fun k hk => by (try simp only at hk); omega)
      replace r6 := r6.gr grc112 (by have := r6.lt; omega)
      replace hM0 := hM0.gr grc112 (by omega)
      replace c2 := cell_gr c2 grc112 (by omega)
      refine LL.nilS ?_
      refine CC.region ?_
      refine LL.val (R.load rfl rfl (I.ld1 rfl (RowL.cell r59 rfl))) rfl rfl rfl ?_
      refine LL.val (R.addNc rfl rfl rfl rfl (by omega)) rfl rfl rfl ?_
      refine LL.store rfl rfl rfl rfl r59 (by exact Nat.le_of_ble_eq_true rfl) rfl rfl rfl rfl ?_
      intro Wc140 rc141 bc139 zc142
      have hlbc139 := r59.lt
      replace rc141 : RowL Wc140 _ 3 [Value.int IntKind.i64 ↑(pre.length + 1)] := rc141
      clear r59
      replace r11 := r11.gr bc139 (by have := r11.lt; omega)
      replace q := q.grown bc139 q.size (by rintro k ⟨⟩; omega)
      replace r22 := r22.gr bc139 (by have := r22.lt; omega)
      replace r43 := r43.gr bc139 (by have := r43.lt; omega)
      replace r31 := r31.gr bc139 (by have := r31.lt; omega)
      replace st := st.trans (StaysZ.of_grown bc139 (by omega))
      replace kp := kp.trans (Keeps.of_grown bc139 fun k hk => by (try simp only at hk); omega)
      replace r6 := r6.gr bc139 (by have := r6.lt; omega)
      replace hM0 := hM0.gr bc139 (by omega)
      replace c2 := cell_gr c2 bc139 (by omega)
      have r59 := rc141
      clear rc141
      refine LL.nil ?_
      refine EE.inN ?_
      exact EE.roundNZ ⟨st, kp, q, by rw [List.length_append, List.length_singleton, hcr, hpk]; exact r11, r22, r43, by rw [List.length_append, List.length_singleton]; exact r59, r6, r31, by rw [List.length_append, List.length_singleton]; omega⟩
    · have c2 : W.cell? ⟨g42, 0 + p % 3, none⟩ = some (kfV 60 g30) := by rw [h3]; exact r43.cell rfl
      have hK2 := fun (w' : World) (b : Below W.heap.size W w') => kept2_any x g30 m gn gl qb N w' (r31.up b) (hMF w' (q.trans (b.mono q.size))) hc
      have hpk : pkL c0 p = c0.2.2.getD c0.2.1 := by unfold pkL; rw [if_neg (by omega), if_pos h3]
      refine CC.block ?_
      refine CC.seq ?_
      refine CC.seq ?_
      refine CC.region ?_
      refine LL.val (R.load rfl rfl (I.ld1 rfl (RowL.cell r59 rfl))) rfl rfl rfl ?_
      refine LL.val (R.load rfl rfl (I.ld1 rfl (RowL.cell r6 rfl))) rfl rfl rfl ?_
      refine LL.val (R.len rfl rfl rfl rfl) rfl rfl rfl ?_
      refine LL.val (R.eqF rfl rfl rfl (by omega)) rfl rfl rfl ?_
      refine LL.nilS ?_
      refine CC.no rfl ?_
      refine CC.skip ?_
      refine EE.thenN ?_
      refine CC.seq ?_
      refine CC.growT 13 (by kernel_rfl) (by kernel_rfl) ?_
      refine GG.val (fun w' b' => R.load rfl rfl (I.ld1 rfl (RowL.cell (r22.up b') rfl))) rfl rfl ?_
      refine GG.val (fun w' b' => R.move rfl rfl) rfl rfl ?_
      refine GG.val (fun w' b' => R.load rfl rfl (I.ld1 rfl (RowL.cell (r6.up b') rfl))) rfl rfl ?_
      refine GG.val (fun w' b' => R.load rfl rfl (I.ld1 rfl (RowL.cell (r59.up b') rfl))) rfl rfl ?_
      refine GG.val (fun w' b' => R.index rfl rfl rfl (I.ixS1 rfl (by omega))) rfl rfl ?_
      (refine GG.val (fun w' b' => R.load rfl rfl (I.ld1 rfl (cell_up c1 b'))) rfl rfl ?_)
      refine GG.val (fun w' b' => R.convI rfl rfl rfl rfl (wrapI (by omega) (by omega))) rfl rfl ?_
      refine GG.val (fun w' b' => R.remNc rfl rfl rfl rfl (by omega)) rfl rfl ?_
      refine GG.val (fun w' b' => R.index rfl rfl rfl (I.ixA1 rfl (by omega))) rfl rfl ?_
      (refine GG.val (fun w' b' => R.load rfl rfl (I.ld1 rfl (cell_up c2 b'))) rfl rfl ?_)
      refine GG.val (fun w' b' => R.move rfl rfl) rfl rfl ?_
      refine GG.call (fun w' => (R.callV rfl rfl rfl rfl)) rfl rfl (fun w' b' => (hK2 w' b').mono fun e W' h => ⟨h.1, b'.trans (h.2.mono b'.size)⟩) ?_
      refine GG.val (fun w' b' => R.index rfl rfl rfl (I.ixS rfl (by omega))) rfl rfl ?_
      refine GG.nil (fun Wd110 bd109 => ?_)
      have zbd109 := bd109.size
      replace q := q.trans (bd109.mono q.size)
      replace r11 := r11.up bd109
      replace r22 := r22.up bd109
      replace r43 := r43.up bd109
      replace r59 := r59.up bd109
      replace r31 := r31.up bd109
      replace st := st.trans (StaysZ.of_below bd109)
      replace kp := kp.trans (Keeps.of_below (fun k hk => by (try simp only at hk); omega) bd109)
      replace r6 := r6.up bd109
      replace c1 := cell_up c1 bd109
      replace hM0 := hM0.up bd109
      replace c2 := cell_up c2 bd109
      (refine LL.storeR (enc := lE) x (c0.2.2.getD c0.2.1) rfl rfl (by show 0 + x * 8 = x * 8; omega) rfl rfl lEnc r11 (by rw [crJ_len]; omega) rfl rfl ?_; clear r11; intro Wd114 r11 grd112 zzd117)
      have zgrd112 := grd112.size
      replace q := q.grown grd112 q.size (by rintro k ⟨⟩; omega)
      replace r22 := r22.gr grd112 (by have := r22.lt; omega)
      replace r43 := r43.gr grd112 (by have := r43.lt; omega)
      replace r59 := r59.gr grd112 (by have := r59.lt; omega)
      replace r31 := r31.gr grd112 (by have := r31.lt; omega)
      replace st := st.trans (StaysZ.of_grown grd112 (by omega))
      replace kp := kp.trans (Keeps.of_grown grd112 fun k hk => by (try simp only at hk); omega)
      replace r6 := r6.gr grd112 (by have := r6.lt; omega)
      replace hM0 := hM0.gr grd112 (by omega)
      replace c2 := cell_gr c2 grd112 (by omega)
      refine LL.nilS ?_
      refine CC.region ?_
      refine LL.val (R.load rfl rfl (I.ld1 rfl (RowL.cell r59 rfl))) rfl rfl rfl ?_
      refine LL.val (R.addNc rfl rfl rfl rfl (by omega)) rfl rfl rfl ?_
      refine LL.store rfl rfl rfl rfl r59 (by exact Nat.le_of_ble_eq_true rfl) rfl rfl rfl rfl ?_
      intro Wd140 rd141 bd139 zd142
      have hlbd139 := r59.lt
      replace rd141 : RowL Wd140 _ 3 [Value.int IntKind.i64 ↑(pre.length + 1)] := rd141
      clear r59
      replace r11 := r11.gr bd139 (by have := r11.lt; omega)
      replace q := q.grown bd139 q.size (by rintro k ⟨⟩; omega)
      replace r22 := r22.gr bd139 (by have := r22.lt; omega)
      replace r43 := r43.gr bd139 (by have := r43.lt; omega)
      replace r31 := r31.gr bd139 (by have := r31.lt; omega)
      replace st := st.trans (StaysZ.of_grown bd139 (by omega))
      replace kp := kp.trans (Keeps.of_grown bd139 fun k hk => by (try simp only at hk); omega)
      replace r6 := r6.gr bd139 (by have := r6.lt; omega)
      replace hM0 := hM0.gr bd139 (by omega)
      replace c2 := cell_gr c2 bd139 (by omega)
      have r59 := rd141
      clear rd141
      refine LL.nil ?_
      refine EE.inN ?_
      exact EE.roundNZ ⟨st, kp, q, by rw [List.length_append, List.length_singleton, hcr, hpk]; exact r11, r22, r43, by rw [List.length_append, List.length_singleton]; exact r59, r6, r31, by rw [List.length_append, List.length_singleton]; omega⟩
    · have c2 : W.cell? ⟨g42, 0 + p % 3, none⟩ = some (kfV 61 g30) := by rw [h3]; exact r43.cell rfl
      have hK3 := fun (w' : World) (b : Below W.heap.size W w') => kept3_any x g30 m gn gl qb N w' (r31.up b) (hMF w' (q.trans (b.mono q.size))) hc
      have hpk : pkL c0 p = c0.1 := by unfold pkL; rw [if_neg (by omega), if_neg (by omega)]
      refine CC.block ?_
      refine CC.seq ?_
      refine CC.seq ?_
      refine CC.region ?_
      refine LL.val (R.load rfl rfl (I.ld1 rfl (RowL.cell r59 rfl))) rfl rfl rfl ?_
      refine LL.val (R.load rfl rfl (I.ld1 rfl (RowL.cell r6 rfl))) rfl rfl rfl ?_
      refine LL.val (R.len rfl rfl rfl rfl) rfl rfl rfl ?_
      refine LL.val (R.eqF rfl rfl rfl (by omega)) rfl rfl rfl ?_
      refine LL.nilS ?_
      refine CC.no rfl ?_
      refine CC.skip ?_
      refine EE.thenN ?_
      refine CC.seq ?_
      refine CC.growT 13 (by kernel_rfl) (by kernel_rfl) ?_
      refine GG.val (fun w' b' => R.load rfl rfl (I.ld1 rfl (RowL.cell (r22.up b') rfl))) rfl rfl ?_
      refine GG.val (fun w' b' => R.move rfl rfl) rfl rfl ?_
      refine GG.val (fun w' b' => R.load rfl rfl (I.ld1 rfl (RowL.cell (r6.up b') rfl))) rfl rfl ?_
      refine GG.val (fun w' b' => R.load rfl rfl (I.ld1 rfl (RowL.cell (r59.up b') rfl))) rfl rfl ?_
      refine GG.val (fun w' b' => R.index rfl rfl rfl (I.ixS1 rfl (by omega))) rfl rfl ?_
      (refine GG.val (fun w' b' => R.load rfl rfl (I.ld1 rfl (cell_up c1 b'))) rfl rfl ?_)
      refine GG.val (fun w' b' => R.convI rfl rfl rfl rfl (wrapI (by omega) (by omega))) rfl rfl ?_
      refine GG.val (fun w' b' => R.remNc rfl rfl rfl rfl (by omega)) rfl rfl ?_
      refine GG.val (fun w' b' => R.index rfl rfl rfl (I.ixA1 rfl (by omega))) rfl rfl ?_
      (refine GG.val (fun w' b' => R.load rfl rfl (I.ld1 rfl (cell_up c2 b'))) rfl rfl ?_)
      refine GG.val (fun w' b' => R.move rfl rfl) rfl rfl ?_
      refine GG.call (fun w' => (R.callV rfl rfl rfl rfl)) rfl rfl (fun w' b' => (hK3 w' b').mono fun e W' h => ⟨h.1, b'.trans (h.2.mono b'.size)⟩) ?_
      refine GG.val (fun w' b' => R.index rfl rfl rfl (I.ixS rfl (by omega))) rfl rfl ?_
      refine GG.nil (fun We110 be109 => ?_)
      have zbe109 := be109.size
      replace q := q.trans (be109.mono q.size)
      replace r11 := r11.up be109
      replace r22 := r22.up be109
      replace r43 := r43.up be109
      replace r59 := r59.up be109
      replace r31 := r31.up be109
      replace st := st.trans (StaysZ.of_below be109)
      replace kp := kp.trans (Keeps.of_below (fun k hk => by (try simp only at hk); omega) be109)
      replace r6 := r6.up be109
      replace c1 := cell_up c1 be109
      replace hM0 := hM0.up be109
      replace c2 := cell_up c2 be109
      (refine LL.storeR (enc := lE) x (c0.1) rfl rfl (by show 0 + x * 8 = x * 8; omega) rfl rfl lEnc r11 (by rw [crJ_len]; omega) rfl rfl ?_; clear r11; intro We114 r11 gre112 zze117)
      have zgre112 := gre112.size
      replace q := q.grown gre112 q.size (by rintro k ⟨⟩; omega)
      replace r22 := r22.gr gre112 (by have := r22.lt; omega)
      replace r43 := r43.gr gre112 (by have := r43.lt; omega)
      replace r59 := r59.gr gre112 (by have := r59.lt; omega)
      replace r31 := r31.gr gre112 (by have := r31.lt; omega)
      replace st := st.trans (StaysZ.of_grown gre112 (by omega))
      replace kp := kp.trans (Keeps.of_grown gre112 fun k hk => by (try simp only at hk); omega)
      replace r6 := r6.gr gre112 (by have := r6.lt; omega)
      replace hM0 := hM0.gr gre112 (by omega)
      replace c2 := cell_gr c2 gre112 (by omega)
      refine LL.nilS ?_
      refine CC.region ?_
      refine LL.val (R.load rfl rfl (I.ld1 rfl (RowL.cell r59 rfl))) rfl rfl rfl ?_
      refine LL.val (R.addNc rfl rfl rfl rfl (by omega)) rfl rfl rfl ?_
      refine LL.store rfl rfl rfl rfl r59 (by exact Nat.le_of_ble_eq_true rfl) rfl rfl rfl rfl ?_
      intro We140 re141 be139 ze142
      have hlbe139 := r59.lt
      replace re141 : RowL We140 _ 3 [Value.int IntKind.i64 ↑(pre.length + 1)] := re141
      clear r59
      replace r11 := r11.gr be139 (by have := r11.lt; omega)
      replace q := q.grown be139 q.size (by rintro k ⟨⟩; omega)
      replace r22 := r22.gr be139 (by have := r22.lt; omega)
      replace r43 := r43.gr be139 (by have := r43.lt; omega)
      replace r31 := r31.gr be139 (by have := r31.lt; omega)
      replace st := st.trans (StaysZ.of_grown be139 (by omega))
      replace kp := kp.trans (Keeps.of_grown be139 fun k hk => by (try simp only at hk); omega)
      replace r6 := r6.gr be139 (by have := r6.lt; omega)
      replace hM0 := hM0.gr be139 (by omega)
      replace c2 := cell_gr c2 be139 (by omega)
      have r59 := re141
      clear re141
      refine LL.nil ?_
      refine EE.inN ?_
      exact EE.roundNZ ⟨st, kp, q, by rw [List.length_append, List.length_singleton, hcr, hpk]; exact r11, r22, r43, by rw [List.length_append, List.length_singleton]; exact r59, r6, r31, by rw [List.length_append, List.length_singleton]; omega⟩
  case after =>
    rintro E W hE ⟨h1, r11, r22⟩ hE1
    have hcs : (crS s ps).length = N := by unfold crS; rw [crJ_len]; exact hl
    have yw := h1.size
    have lE1 := (Array.getElem?_eq_some_iff.1 hE1).1
    refine EE.thenN ?_
    refine CC.seq ?_
    refine CC.region ?_
    refine LL.val (R.load rfl rfl (I.ld1 rfl (RowL.cell r22 rfl))) rfl rfl rfl ?_
    have lf15 := r11.lt
    have lf16 := r22.lt
    have lf17 := (Array.getElem?_eq_some_iff.1 hE1).1
    (refine LL.call (R.call rfl rfl rfl) rfl rfl rfl (on_any g10 N (crS s ps) _ r11 hcs hN h0) ?_; rintro e Wf14 ⟨m', gl', qb', rfl, M', lm', ll', lq', bf11⟩; refine ⟨_, rfl, ?_⟩)
    have zbf11 := bf11.size
    replace h1 := h1.trans (bf11.mono h1.size)
    replace r11 := r11.up bf11
    replace r22 := r22.up bf11
    replace hE1 := defer_up hE1 bf11
    refine LL.val (R.assign rfl rfl) rfl rfl rfl ?_
    refine LL.val (R.assign rfl rfl) rfl rfl rfl ?_
    refine LL.nilS ?_
    refine CC.ret ?_
    refine EE.noR ?_
    refine EE.ret1 hE1 _ rfl rfl ?_
    exact ⟨m', g10, gl', qb', rfl, M'.taken hE1, by omega, by omega, by omega, by omega, taken_bel h1 (by omega) (Nat.le_refl _)⟩
end Go.Proofs.Ytcmgpfahpmkeoaa

/- Regions that draw their order: several steps that make memory, none of which harms what the others made: one goal for each step, not one for each order. -/
namespace Go.Proofs.Ytcmgpfahpmkeoaa
set_option linter.unusedVariables false
set_option linter.unusedSimpArgs false
open Go.RowKit Go.Shelf

/-- Each order goes through these steps, and ends with them all. -/
def meshB (ops : Array Oper) (acts : List Nat) (L1 : Array Bool) : Nat → Array Bool → Bool
  | 0, listed => listed == L1
  | k + 1, listed => match Region.ready .any ops listed with
    | [] => false
    | r => r.all fun i => acts.contains i && meshB ops acts L1 k (listed.setIfInBounds i true)
def dstO (ops : Array Oper) (i : Nat) : Option Nat := (ops[i]?).bind (·.dst)
/-- Steps write to slots of their own. -/
def ownB (ops : Array Oper) (L : List (Nat × Value)) : List Nat → Bool
  | [] => true
  | i :: is => (match dstO ops i with | some d => (L.all fun x => !Nat.beq x.1 d) && is.all (fun j => match dstO ops j with | some e => !Nat.beq e d | none => true) | none => true) && (ops[i]?).isSome && ownB ops L is
def depB (ops : Array Oper) (i j : Nat) : Bool := match ops[i]? with
  | some o => o.after.any fun e => Region.binds .any e && Nat.beq e.on j
  | none => false
def AtD (d : Option Nat) (a : Act) (v : Value) : Prop := ∀ s, d = some s → a.tmps.getD s undef = v

/-- One step: what it needs of the others, what it makes. -/
structure MS (P : Program) (ops : Array Oper) (ok : World → Prop) (acts : List Nat) (φ : Nat → Value → World → Prop) (i : Nat) (R : Value → World → Prop) (n : Nat) (D : List Deferred) (M : Slots) (w : World) : Prop where
  h : ∀ a o, ops[i]? = some o → Fr n D M a → (∀ j ∈ acts, depB ops i j = true → ∃ v, AtD (dstO ops j) a v ∧ φ j v w) → ∀ K : Act → World → Prop, (∀ v w', ok w' → R v w' → K (a.put o.dst v) w') → stepR P ops ok i K a w

section
variable {P : Program} {ops : Array Oper} {Q : Exit → Act → World → Prop} {ok : World → Prop} {acts : List Nat} {φ : Nat → Value → World → Prop} {n i : Nat} {D : List Deferred} {M : Slots} {w w' : World} {o : Oper} {v : Value} {R : Value → World → Prop}
theorem Fr.more {a : Act} (F : Fr n D M a) {d : Nat} (h : a.tmps.getD d undef = v) : Fr n D (up M d v) a := ⟨F.size, F.defers, fun s u hs => by
  simp only [up] at hs
  by_cases e : s = d
  · subst e; rw [Nat.beq_refl] at hs; cases hs; exact h
  · rw [beq_ne e] at hs; exact F.get s u hs⟩
/-- What another step made. -/
theorem MS.dep (j : Nat) {d : Nat} (hj : acts.contains j = true) (hd : depB ops i j = true) (hs : dstO ops j = some d) (k : ∀ v, φ j v w → MS P ops ok acts φ i R n D (up M d v) w) : MS P ops ok acts φ i R n D M w := MS.mk fun a o ho F hf K hK => by
  obtain ⟨v, h1, h2⟩ := hf j (by simpa using hj) hd
  exact (k v h2).h a o ho (F.more (h1 d hs)) hf K hK
theorem MS.val (hi : ops[i]? = some o) (hr : Runs P n D M o w (.value v) w') (hg : wantB ops M o.guard = some true) (hok : ok w') (h : R v w') : MS P ops ok acts φ i R n D M w := MS.mk fun a o' ho F _ K hK => by
  obtain rfl : o = o' := Option.some.inj (hi.symm.trans ho)
  unfold stepR
  simp only [hi]
  rw [if_pos (F.want hg)]
  exact .inl ⟨v, w', hr a F, hok, hK _ _ hok h⟩
theorem MS.call {g : FuncId} {args : Array Value} {R' : Ending → World → Prop} (hi : ops[i]? = some o) (hr : Runs P n D M o w (.enter g args) w) (hg : wantB ops M o.guard = some true) (hc : Calls P g args w R') (k : ∀ e w'', R' e w'' → ∃ v, e = .returned v ∧ ok w'' ∧ R v w'') : MS P ops ok acts φ i R n D M w := MS.mk fun a o' ho F _ K hK => by
  obtain rfl : o = o' := Option.some.inj (hi.symm.trans ho)
  unfold stepR
  simp only [hi]
  rw [if_pos (F.want hg)]
  exact .inr (.inr ⟨g, args, w, R', hr a F, hc, fun e w'' hR => by
    obtain ⟨v, he, h1, h2⟩ := k e w'' hR
    exact ⟨v, he, h1, hK _ _ h1 h2⟩⟩)

theorem meshB_ready {L1 : Array Bool} {k : Nat} {listed : Array Bool} (h : meshB ops acts L1 (k + 1) listed = true) : Region.ready .any ops listed ≠ [] ∧ ∀ j ∈ Region.ready .any ops listed, j ∈ acts ∧ meshB ops acts L1 k (listed.setIfInBounds j true) = true := by
  unfold meshB at h
  split at h
  · cases h
  · rename_i hne
    refine ⟨fun e => hne e, fun j hj => ?_⟩
    have := List.all_eq_true.1 h j hj
    simp only [Bool.and_eq_true] at this
    exact ⟨by simpa using this.1, this.2⟩
theorem ownB_get {L : List (Nat × Value)} : ∀ {is : List Nat}, ownB ops L is = true → ∀ j ∈ is, (∃ o, ops[j]? = some o) ∧ ∀ d, dstO ops j = some d → (∀ x ∈ L, x.1 ≠ d) ∧ ∀ j' ∈ is, j' ≠ j → dstO ops j' ≠ some d
  | [], _, j, hj => by cases hj
  | i :: is, h, j, hj => by
    simp only [ownB, Bool.and_eq_true] at h
    obtain ⟨⟨h1, h2⟩, h3⟩ := h
    rcases List.mem_cons.1 hj with rfl | hj'
    · refine ⟨Option.isSome_iff_exists.1 h2, fun d hd => ?_⟩
      rw [hd] at h1
      simp only [Bool.and_eq_true, List.all_eq_true] at h1
      refine ⟨fun x hx e => ?_, fun j' hj' hne e => ?_⟩
      · have := h1.1 x hx
        rw [e, Nat.beq_refl] at this
        cases this
      · rcases List.mem_cons.1 hj' with rfl | hj''
        · exact hne rfl
        · have := h1.2 j' hj''
          simp only [e, Nat.beq_refl] at this
          cases this
    · have ih := ownB_get h3 j hj'
      refine ⟨ih.1, fun d hd => ⟨(ih.2 d hd).1, fun j' hj'' hne e => ?_⟩⟩
      rcases List.mem_cons.1 hj'' with rfl | hj3
      · rw [e] at h1
        simp only [Bool.and_eq_true, List.all_eq_true] at h1
        have := h1.2 j hj'
        simp only [hd, Nat.beq_refl] at this
        cases this
      · exact (ih.2 d hd).2 j' hj3 hne e
theorem sl_mem : ∀ {L : List (Nat × Value)} {s : Nat} {v : Value}, sl L s = some v → ∃ x ∈ L, x.1 = s
  | [], s, v, h => by cases h
  | (t, u) :: l, s, v, h => by
    simp only [sl] at h
    by_cases e : s = t
    · exact ⟨(t, u), List.mem_cons_self .., e.symm⟩
    · rw [beq_ne e] at h
      obtain ⟨x, hx, hxs⟩ := sl_mem h
      exact ⟨x, List.mem_cons_of_mem _ hx, hxs⟩
theorem getD_tf {listed : Array Bool} {j : Nat} (h : listed.getD j false = true) : listed.getD j true = true := by
  rw [Array.getD_eq_getD_getElem?] at *
  cases hj : listed[j]? with
  | none => rfl
  | some b => rw [hj] at h; exact h
theorem getD_put_ne {a : Act} {d s : Nat} {v : Value} (h : s ≠ d) : (a.put (some d) v).tmps.getD s undef = a.tmps.getD s undef := by
  simp [Act.put, Array.getD_eq_getD_getElem?, Array.getElem?_setIfInBounds, Ne.symm h]
theorem getD_put_self {a : Act} {d : Nat} {v : Value} (h : d < a.tmps.size) : (a.put (some d) v).tmps.getD d undef = v := by
  simp [Act.put, Array.getD_eq_getD_getElem?, h]

/-- With what the steps made. -/
def actM (ops : Array Oper) (M : Slots) (vs : Nat → Value) : List Nat → Slots
  | [] => M
  | j :: js => match dstO ops j with | some d => up (actM ops M vs js) d (vs j) | none => actM ops M vs js
theorem Fr.withM {a : Act} {vs : Nat → Value} (F : Fr n D M a) : ∀ {is : List Nat}, (∀ j ∈ is, AtD (dstO ops j) a (vs j)) → Fr n D (actM ops M vs is) a
  | [], _ => F
  | j :: js, h => by
    have ih := Fr.withM F (fun i hi => h i (List.mem_cons_of_mem _ hi))
    unfold actM
    cases hd : dstO ops j with
    | none => exact ih
    | some d => exact ih.more (h j (List.mem_cons_self ..) d hd)
theorem AA.mesh {L : List (Nat × Value)} {listed : Array Bool} (stab : World → World → Prop) (acts : List Nat) (φ : Nat → Value → World → Prop) (k f1 : Nat) (L1 : Array Bool) (hL : Fits M L) (hB : meshB ops acts L1 k listed = true) (hO : ownB ops L acts = true) (hN : acts.all (fun i => dstB n (dstO ops i)) = true) (h0 : acts.all (fun i => !listed.getD i true) = true) (hA : acts.all (fun i => L1.getD i true) = true) (hok : ok w)
    (hst : ∀ j v w w', φ j v w → stab w w' → φ j v w')
    (hstep : ∀ i ∈ acts, ∀ w, ok w → MS P ops ok acts φ i (fun v w' => stab w w' ∧ φ i v w') n D (sl L) w)
    (rest : ∀ w', ok w' → ∀ vs : Nat → Value, (∀ j ∈ acts, φ j (vs j) w') → AA P ops ok Q n D (actM ops (sl L) vs acts) f1 L1 w') : AA P ops ok Q n D M (k + f1) listed w := AA.mk fun a F => by
  have key : ∀ k listed a w, meshB ops acts L1 k listed = true → Fr n D (sl L) a → ok w → (∀ j ∈ acts, listed.getD j true = true → ∃ v, AtD (dstO ops j) a v ∧ φ j v w) → (∀ j ∈ acts, L1.getD j true = true) → AnyR P ops ok Q (k + f1) listed a w := by
    intro k
    induction k with
    | zero =>
      intro listed a w hB F hok hf hall
      have hl : listed = L1 := by simpa [meshB] using hB
      subst hl
      rw [Nat.zero_add]
      have hv : ∀ j, ∃ v, j ∈ acts → AtD (dstO ops j) a v ∧ φ j v w := fun j => by
        by_cases hj : j ∈ acts
        · obtain ⟨v, h⟩ := hf j hj (hall j hj)
          exact ⟨v, fun _ => h⟩
        · exact ⟨undef, fun h => absurd h hj⟩
      exact (rest w hok (fun j => Classical.choose (hv j)) (fun j hj => (Classical.choose_spec (hv j) hj).2)).h a (Fr.withM F fun j hj => (Classical.choose_spec (hv j) hj).1)
    | succ k ih =>
      intro listed a w hB F hok hf hall
      obtain ⟨hne, hr⟩ := meshB_ready hB
      rw [show k + 1 + f1 = (k + f1) + 1 by omega]
      refine ⟨fun h => absurd h hne, fun i hi => ?_⟩
      obtain ⟨hia, hBi⟩ := hr i hi
      obtain ⟨⟨o, ho⟩, hd⟩ := ownB_get hO i hia
      obtain ⟨_, oi, hoi, hall2⟩ := mem_ready.1 hi
      obtain rfl : o = oi := Option.some.inj (ho.symm.trans hoi)
      have hdn : ∀ d, o.dst = some d → d < n := fun d e => by
        have h1 := List.all_eq_true.1 hN i hia
        have e2 : dstO ops i = some d := by unfold dstO; rw [ho]; exact e
        rw [e2] at h1
        simpa [dstB] using h1
      refine (hstep i hia w hok).h a o ho F (fun j hj hdep => ?_) _ fun v w' hok' ⟨hs', hφ'⟩ => ih _ _ _ hBi ?_ hok' ?_ hall
      · refine hf j hj ?_
        unfold depB at hdep
        rw [ho] at hdep
        obtain ⟨e, he, hb⟩ := Array.any_eq_true'.1 hdep
        simp only [Bool.and_eq_true] at hb
        have := hall2 e he hb.1
        rw [Nat.eq_of_beq_eq_true hb.2] at this
        exact getD_tf this
      · cases hod : o.dst with
        | none => exact F
        | some d =>
          have hdd := hd d (by unfold dstO; rw [ho]; exact hod)
          refine ⟨by simp [Act.put, F.size], F.defers, fun s u hsu => ?_⟩
          obtain ⟨x, hx, hxs⟩ := sl_mem hsu
          rw [getD_put_ne (by rw [← hxs]; exact hdd.1 x hx)]
          exact F.get s u hsu
      · intro j hj hlj
        by_cases hji : j = i
        · subst hji
          refine ⟨v, fun s hs => ?_, hφ'⟩
          have hs2 : o.dst = some s := by unfold dstO at hs; rw [ho] at hs; exact hs
          rw [hs2]
          exact getD_put_self (by rw [F.size]; exact hdn s hs2)
        · have hlj' : listed.getD j true = true := by rwa [getD_set_ne true (Ne.symm hji)] at hlj
          obtain ⟨u, h1, h2⟩ := hf j hj hlj'
          refine ⟨u, fun s hs => ?_, hst j u w w' h2 hs'⟩
          cases hod : o.dst with
          | none => exact h1 s hs
          | some d =>
            have hdd := hd d (by unfold dstO; rw [ho]; exact hod)
            have hsd : s ≠ d := fun e => hdd.2 j hj hji (by rw [hs, e])
            rw [getD_put_ne hsd]
            exact h1 s hs
  have hall : ∀ j ∈ acts, L1.getD j true = true := fun j hj => List.all_eq_true.1 hA j hj
  refine key k listed a w hB (F.keep L hL) hok (fun j hj hl => ?_) hall
  have := List.all_eq_true.1 h0 j hj
  rw [hl] at this
  cases this
end
end Go.Proofs.Ytcmgpfahpmkeoaa

/- append to a slice of structs without room, told that no row that was there is written; the steps of drawn regions that make memory. -/
namespace Go.Proofs.Ytcmgpfahpmkeoaa
set_option linter.unusedVariables false
set_option linter.unusedSimpArgs false
open Go.RowKit Go.Shelf

section
variable {α : Type} {enc : α → List Value} {k : Nat} {P : Program} {T e : TypeId} {z : Value} {bytes : Nat}
theorem run_append_t0 (E : Enc enc k) (I : ElT P T e z k bytes) (ty : TypeId) {base g : Nat} {vx : Value} {us : List α} {w : World} (hown : OwnsT enc k w base e (.slice (some ⟨g, 0, none⟩) 0 0) []) (hr : ReadsT enc k w vx us)
    (h63 : us.length ≤ maxLen) (hb : us.length * bytes ≤ 140737488355328) (hbase : base ≤ w.heap.size) :
    ∃ v' w', (Builtin.append_ #[T, T] ty #[.slice (some ⟨g, 0, none⟩) 0 0, vx]).run P w = .ok v' w' ∧ OwnsT enc k w' base e v' us ∧ Below w.heap.size w w' := by
  obtain ⟨i, hi, hz, hsz, hby⟩ := I.info
  obtain ⟨a, cap, rfl, hc, hcell⟩ := hr
  rcases Classical.em (us = []) with h0 | h0
  · subst h0
    refine ⟨_, w, run_append_nothing w T T ty e i I.under hi _ 0 0 (Nat.le_refl _) _ ?_, hown, Below.refl _ _⟩
    cases a with
    | none => exact Src.ofNil w I.under cap
    | some p => exact Src.ofSlice w I.under p 0 cap [] (by simp) (by simp) (by simp)
  · obtain ⟨b, off, rfl, _, hh⟩ := hcell h0
    have hnews : ∀ j u, (us.flatMap enc)[j]? = some u → w.cell? ((⟨b, off, none⟩ : Addr).add j) = some u := fun j u hj => by
      have hjl : j < us.length * k := by
        have := (List.getElem?_eq_some_iff.1 hj).1
        rwa [E.flat] at this
      rw [Addr.add_lit, hh j hjl, hj]
    obtain ⟨v', w', h1, h2, h3⟩ := run_append_arg_grows (P := P) (w := w) T ty e i z k bytes I.under hi hz hsz hby I.many E.pos ⟨g, 0, none⟩ 0 0 [] (by simp) (by simp) ⟨b, off, none⟩ us.length cap (us.flatMap enc) (E.flat us) hnews (by have := List.length_pos_iff.2 h0; omega) (by omega) (by simpa using hb)
    refine ⟨v', w', h1, ?_, ⟨h3.os, h3.tape, h3.output, h3.size, fun j hj => h3.block j hj (by simp)⟩⟩
    have h4 : OwnsT enc k w' w.heap.size e v' us := by
      unfold OwnsT
      simpa using h2
    exact h4.lower hbase
end

section
variable {α : Type} {enc : α → List Value} {k : Nat} {P : Program} {ops : Array Oper} {Q : Exit → Act → World → Prop} {ok : World → Prop} {acts : List Nat} {φ : Nat → Value → World → Prop} {n i f : Nat} {D : List Deferred} {M : Slots} {w w' : World} {o : Oper} {v : Value} {Rv : Value → World → Prop} {T e t : TypeId} {z : Value} {bytes : Nat} {listed listed1 : Array Bool} {K : Slots → World → Prop} {r : Option Nat} {rest : List Oper}
theorem LL.append0 {xs : Array Operand} {g base : Nat} {vx : Value} {us : List α} (ho : o.op = .call { callee := .builtin .append, args := xs, argTypes := #[T, T] }) (hx : evsM M xs.toList = some [.slice (some ⟨g, 0, none⟩) 0 0, vx]) (E : Enc enc k) (I : ElT P T e z k bytes) (hown : OwnsT enc k w base e (.slice (some ⟨g, 0, none⟩) 0 0) []) (hr : ReadsT enc k w vx us)
    (h63 : us.length ≤ maxLen) (hb : us.length * bytes ≤ 140737488355328) (hbase : base ≤ w.heap.size) (hd : dstB n o.dst = true) (hg : wantB ops M o.guard = some true)
    (c : ∀ v' w', OwnsT enc k w' base e v' us → Below w.heap.size w w' → LL r P ops Q n D (putM M o.dst v') rest w') : LL r P ops Q n D M (o :: rest) w := by
  obtain ⟨v', w', h1, h2, h3⟩ := run_append_t0 E I o.type hown hr h63 hb hbase
  refine LL.val (v := v') (R.builtin ho hx fun b => ?_) hd (by rw [ho]; rfl) hg (c v' w' h2 h3)
  unfold builtin
  simp only [Sem.run_bind, h1, Result.andThen_ok, Sem.run_pure]
theorem MS.append0 {xs : Array Operand} {g base : Nat} {vx : Value} {us : List α} (hi : ops[i]? = some o) (ho : o.op = .call { callee := .builtin .append, args := xs, argTypes := #[T, T] }) (hx : evsM M xs.toList = some [.slice (some ⟨g, 0, none⟩) 0 0, vx]) (E : Enc enc k) (I : ElT P T e z k bytes) (hown : OwnsT enc k w base e (.slice (some ⟨g, 0, none⟩) 0 0) []) (hr : ReadsT enc k w vx us)
    (h63 : us.length ≤ maxLen) (hb : us.length * bytes ≤ 140737488355328) (hbase : base ≤ w.heap.size) (hg : wantB ops M o.guard = some true)
    (c : ∀ v' w', OwnsT enc k w' base e v' us → Below w.heap.size w w' → ok w' ∧ Rv v' w') : MS P ops ok acts φ i Rv n D M w := by
  obtain ⟨v', w', h1, h2, h3⟩ := run_append_t0 E I o.type hown hr h63 hb hbase
  have h := c v' w' h2 h3
  refine MS.val (v := v') hi (R.builtin ho hx fun b => ?_) hg h.1 h.2
  unfold builtin
  simp only [Sem.run_bind, h1, Result.andThen_ok, Sem.run_pure]
theorem MS.lit {ps : Array (Nat × Operand)} {m : Nat} {vs : List (Nat × Value)} (cs : List Value) (len : Nat) (hi : ops[i]? = some o) (ho : o.op = .buildSlice t m ps) (hx : evpM M ps.toList = some vs) (hr : ∀ w, (Instr.buildSlice t m vs.toArray).run P w = .ok (.slice (some ⟨w.heap.size, 0, none⟩) len len) (w.alloc (.cells cs.toArray e))) (hg : wantB ops M o.guard = some true)
    (c : ∀ w1 g, g = w.heap.size → RowL w1 g e cs → Below w.heap.size w w1 → ok w1 ∧ Rv (.slice (some ⟨g, 0, none⟩) len len) w1) : MS P ops ok acts φ i Rv n D M w :=
  have h := c _ _ rfl (RowL.new w e cs) (Below.alloc0 w _)
  MS.val hi (R.buildSlice ho hx (hr w)) hg h.1 h.2
theorem AA.weak {L : List (Nat × Value)} (h : AA P ops ok Q n D (sl L) f listed1 w) (hL : Fits M L) (he : listed1 = listed) : AA P ops ok Q n D M f listed w := by
  subst he; exact AA.mk fun a F => h.h a (F.keep L hL)
theorem SR.lit {ps : Array (Nat × Operand)} {m : Nat} {vs : List (Nat × Value)} (cs : List Value) (len : Nat) (hi : ops[i]? = some o) (ho : o.op = .buildSlice t m ps) (hx : evpM M ps.toList = some vs) (hr : ∀ w, (Instr.buildSlice t m vs.toArray).run P w = .ok (.slice (some ⟨w.heap.size, 0, none⟩) len len) (w.alloc (.cells cs.toArray e))) (hd : dstB n o.dst = true) (hg : wantB ops M o.guard = some true)
    (c : ∀ w1 g, g = w.heap.size → RowL w1 g e cs → Below w.heap.size w w1 → ok w1 ∧ K (putM M o.dst (.slice (some ⟨g, 0, none⟩) len len)) w1) : SR P ops ok i K n D M w :=
  have h := c _ _ rfl (RowL.new w e cs) (Below.alloc0 w _)
  SR.val hi (R.buildSlice ho hx (hr w)) hd hg h.1 h.2
theorem SR.appendT2 {xs : Array Operand} {vx : Value} {base : Nat} {ts us : List α} (hi : ops[i]? = some o) (ho : o.op = .call { callee := .builtin .append, args := xs, argTypes := #[T, T] }) (hx : evsM M xs.toList = some [v, vx]) (E : Enc enc k) (I : ElT P T e z k bytes) (hown : OwnsT enc k w base e v ts) (hr : ReadsT enc k w vx us)
    (h63 : ts.length + us.length ≤ maxLen) (hb : (ts.length + us.length) * bytes ≤ 140737488355328) (hbase : base ≤ w.heap.size) (hd : dstB n o.dst = true) (hg : wantB ops M o.guard = some true)
    (c : ∀ v' w', OwnsT enc k w' base e v' (ts ++ us) → w.grownBy w' v.ownBlock → (v'.ownBlock = v.ownBlock ∨ ∃ b, v'.ownBlock = some b ∧ w.heap.size ≤ b) → ok w' ∧ K (putM M o.dst v') w') : SR P ops ok i K n D M w := by
  obtain ⟨v', w', h1, h2, h3, h4⟩ := run_append_t2 E I o.type hown hr h63 hb hbase
  have h := c v' w' h2 h3 h4
  refine SR.val (v := v') hi (R.builtin ho hx fun b => ?_) hd hg h.1 h.2
  unfold builtin
  simp only [Sem.run_bind, h1, Result.andThen_ok, Sem.run_pure]
/-- A store of one cell into a row that is known, as a step of a drawn region. -/
theorem SR.store {x y : Operand} {g off e : Nat} {xs : List Value} (hi : ops[i]? = some o) (ho : o.op = .store t x y) (hx : evM M x = some (.pointer (some ⟨g, off, none⟩))) (hy : evM M y = some v) (hz : szB P t = some 1) (hr : RowL w g e xs) (hl : off < xs.length) (h1 : v.oneCell' = true) (hcs : v.cells = #[v]) (hd : o.dst = none) (hg : wantB ops M o.guard = some true)
    (c : ∀ w1, RowL w1 g e (xs.set off v) → w.grownBy w1 (some g) → w1.heap.size = w.heap.size → ok w1 ∧ K M w1) : SR P ops ok i K n D M w := SR.mk fun K' hK a F => by
  have h := c _ (hr.set off v) (grown_set w _ v) (by simp [World.setCell])
  unfold stepR
  simp only [hi]
  rw [if_pos (F.want hg)]
  refine .inr (.inl ⟨_, R.store ho hx hy (I.st1R hz hr hl h1 hcs) a F, h.1, ?_⟩)
  rw [hd]
  exact hK _ _ h.2 _ F
end
end Go.Proofs.Ytcmgpfahpmkeoaa

/- plan: acts and stores, how they lie; equal ones; SameActs, SamePuts. -/
namespace Go.Proofs.Ytcmgpfahpmkeoaa
set_option linter.unusedVariables false
set_option linter.unusedSimpArgs false
open Go.RowKit Go.Shelf

/-- A store: where, and what. An act: its kind, where, and what. -/
abbrev Pt := Int × Nat
abbrev Ac := Int × Int × Nat
def pE (p : Pt) : List Value := [.int .i64 p.1, .int .u64 (p.2 : Int)]
def aE (a : Ac) : List Value := [.int .i64 a.1, .int .i64 a.2.1, .int .u64 (a.2.2 : Int)]
theorem pEnc : Enc pE 2 := ⟨fun _ => rfl, fun t u hu => by
  simp only [pE, List.mem_cons, List.not_mem_nil, or_false] at hu
  rcases hu with rfl | rfl <;> rfl, by decide⟩
theorem aEnc : Enc aE 3 := ⟨fun _ => rfl, fun t u hu => by
  simp only [aE, List.mem_cons, List.not_mem_nil, or_false] at hu
  rcases hu with rfl | rfl | rfl <;> rfl, by decide⟩

theorem Try.infoAct : (Try.prog.info? 38).map (fun i => (i.zero, i.size, i.bytes)) = some (some (.agg #[.int .i64 0, .int .i64 0, .int .u64 0]), 3, 24) := by kernel_rfl
theorem ElAct : ElT Try.prog 24 38 (.agg #[.int .i64 0, .int .i64 0, .int .u64 0]) 3 24 := info_parts_t Try.underlying24 Try.infoAct rfl
theorem Try.infoPut : (Try.prog.info? 56).map (fun i => (i.zero, i.size, i.bytes)) = some (some (.agg #[.int .i64 0, .int .u64 0]), 2, 16) := by kernel_rfl
theorem ElPut : ElT Try.prog 22 56 (.agg #[.int .i64 0, .int .u64 0]) 2 16 := info_parts_t Try.underlying22 Try.infoPut rfl
theorem beqNI (a b : Nat) : (((a : Nat) : Int) == ((b : Nat) : Int)) = decide (a = b) := by
  rw [Bool.eq_iff_iff]
  simp only [beq_iff_eq, decide_eq_true_eq]
  exact ⟨fun h => by omega, fun h => by omega⟩
theorem eqPut (a c b d : Int) (w : World) : (Op.equalIn 10000 56 (.agg #[.int .i64 a, .int .u64 b]) (.agg #[.int .i64 c, .int .u64 d])).run Try.prog w = .ok (a == c && b == d) w := by
  have u3 := Try.underlying3
  have u4 := Try.underlying36
  have a3 := Try.isAgg3
  have z3 := Try.sizeOf3
  have a4 := Try.isAgg36
  have z4 := Try.sizeOf36
  have hS : Try.prog.underlying 56 = some (.struct (Try.prog.fieldsOf 56)) := by kernel_rfl
  rw [show (10000 : Nat) = 9999 + 1 from rfl, run_equalIn_agg w 9999 56 _ _ hS (by kernel_rfl)]
  simp only [Program.fieldsOf, Try.underlying56]
  go_simp
  by_cases h1 : a = c <;> by_cases h2 : b = d <;> simp [h1, h2]
theorem eqAct (k l a c b d : Int) (w : World) : (Op.equalIn 10000 38 (.agg #[.int .i64 k, .int .i64 a, .int .u64 b]) (.agg #[.int .i64 l, .int .i64 c, .int .u64 d])).run Try.prog w = .ok (k == l && (a == c && b == d)) w := by
  have u2 := Try.underlying35
  have u3 := Try.underlying3
  have u4 := Try.underlying36
  have a2 := Try.isAgg35
  have z2 := Try.sizeOf35
  have a3 := Try.isAgg3
  have z3 := Try.sizeOf3
  have a4 := Try.isAgg36
  have z4 := Try.sizeOf36
  have hS : Try.prog.underlying 38 = some (.struct (Try.prog.fieldsOf 38)) := by kernel_rfl
  rw [show (10000 : Nat) = 9999 + 1 from rfl, run_equalIn_agg w 9999 38 _ _ hS (by kernel_rfl)]
  simp only [Program.fieldsOf, Try.underlying38]
  go_simp
  by_cases h0 : k = l <;> by_cases h1 : a = c <;> by_cases h2 : b = d <;> simp [h0, h1, h2]
theorem R.nePut {n : Nat} {D : List Deferred} {M : Slots} {w : World} {o : Oper} {x y : Operand} {u : TypeId} {s t : Pt} {b : Bool} (ho : o.op = .binOp .neq 56 x y u) (hx : evM M x = some (.agg (pE s).toArray)) (hy : evM M y = some (.agg (pE t).toArray)) (hb : (!decide (s = t)) = b) : Runs Try.prog n D M o w (.value (.bool b)) w := R.bin ho hx hy (by
  subst hb
  simp only [Sem.run_bind, pE, run_eqGuard_agg w _ _ _ _ _ _ (show Try.prog.eqGuardType Try.prog.depth 56 = false by kernel_rfl), Result.andThen_ok, run_neq_struct, eqPut]
  obtain ⟨s1, s2⟩ := s
  obtain ⟨t1, t2⟩ := t
  simp only [beqNI]
  by_cases h1 : s1 = t1 <;> by_cases h2 : s2 = t2 <;> simp [h1, h2])
theorem R.neAct {n : Nat} {D : List Deferred} {M : Slots} {w : World} {o : Oper} {x y : Operand} {u : TypeId} {s t : Ac} {b : Bool} (ho : o.op = .binOp .neq 38 x y u) (hx : evM M x = some (.agg (aE s).toArray)) (hy : evM M y = some (.agg (aE t).toArray)) (hb : (!decide (s = t)) = b) : Runs Try.prog n D M o w (.value (.bool b)) w := R.bin ho hx hy (by
  subst hb
  simp only [Sem.run_bind, aE, run_eqGuard_agg w _ _ _ _ _ _ (show Try.prog.eqGuardType Try.prog.depth 38 = false by kernel_rfl), Result.andThen_ok, run_neq_struct, eqAct]
  obtain ⟨s0, s1, s2⟩ := s
  obtain ⟨t0, t1, t2⟩ := t
  simp only [beqNI]
  by_cases h0 : s0 = t0 <;> by_cases h1 : s1 = t1 <;> by_cases h2 : s2 = t2 <;> simp [h0, h1, h2])

set_option maxRecDepth 100000 in
set_option maxHeartbeats 2000000 in
theorem asame_any (va vb : Value) (xs ys : List Ac) (w : World) (ha : ReadsT aE 3 w va xs) (hb : ReadsT aE 3 w vb ys) (hlx : xs.length ≤ 1048576) (hly : ys.length ≤ 1048576) :
    Calls Try.prog 10 #[va, vb] w fun e w' => e = .returned (.bool (decide (xs = ys))) ∧ Below w.heap.size w w' := by
  obtain ⟨N, hN⟩ : ∃ N, xs.length = N := ⟨_, rfl⟩
  obtain ⟨N2, hN2⟩ : ∃ N, ys.length = N := ⟨_, rfl⟩
  obtain ⟨a, cap, rfl, hc⟩ := ha.form hN
  obtain ⟨a2, cap2, rfl, hc2⟩ := hb.form hN2
  rw [hN] at hlx
  rw [hN2] at hly
  refine X.fn Try.func10 rfl (n := 26) rfl rfl ?_
  by_cases hne : N = N2
  · subst hne
    (refine CC.seq ?_; refine CC.region ?_; refine LL.val (R.assign rfl rfl) rfl rfl rfl ?_; refine LL.nilS ?_; refine CC.seq ?_; refine CC.seq ?_; refine CC.region ?_; refine LL.val (R.move rfl rfl) rfl rfl rfl ?_; refine LL.val (R.len rfl rfl rfl rfl) rfl rfl rfl ?_; refine LL.val (R.move rfl rfl) rfl rfl rfl ?_; refine LL.val (R.len rfl rfl rfl rfl) rfl rfl rfl ?_; refine LL.val (R.neF rfl rfl rfl (by omega)) rfl rfl rfl ?_; refine LL.nilS ?_; refine CC.no rfl ?_; refine CC.skip ?_; refine EE.thenN ?_; refine CC.seq ?_; refine CC.seq ?_; refine CC.region ?_; refine LL.val (R.assign rfl rfl) rfl rfl rfl ?_; refine LL.nilS ?_; refine CC.block ?_)
    refine CC.loop (α := Nat) (fun i => [(0, .slice a N cap), (1, .slice a2 N cap2), (4, .bool false), (5, .int .i64 (i : Int))]) (fun i wr => Below w.heap.size w wr ∧ i ≤ N ∧ xs.take i = ys.take i) (fun i => N - i) 0 ⟨rfl, rfl, rfl, rfl, trivial⟩ ⟨Below.refl _ _, by omega, by simp⟩ ?_
    intro i wr ⟨hbw, hi, ht⟩
    by_cases h1 : i < N
    · obtain ⟨s, hs⟩ : ∃ s, xs[i]? = some s := ⟨_, List.getElem?_eq_getElem (by omega)⟩
      obtain ⟨t, ht2⟩ : ∃ t, ys[i]? = some t := ⟨_, List.getElem?_eq_getElem (by omega)⟩
      obtain ⟨b, off, rfl, hbl, hcs⟩ := ha.get aEnc hs
      obtain ⟨b2, off2, rfl, hbl2, hcs2⟩ := hb.get aEnc ht2
      have hc1 := hcs.below hbw.drew hbl
      have hc3 := hcs2.below hbw.drew hbl2
      (refine CC.seq ?_; refine CC.seq ?_; refine CC.region ?_; refine LL.val (R.move rfl rfl) rfl rfl rfl ?_; refine LL.val (R.move rfl rfl) rfl rfl rfl ?_; refine LL.val (R.len rfl rfl rfl rfl) rfl rfl rfl ?_; refine LL.val (R.ltT rfl rfl rfl (by omega)) rfl rfl rfl ?_; refine LL.nilS ?_; refine CC.yes rfl ?_; refine CC.skip ?_; refine EE.thenN ?_; refine CC.seq ?_; refine CC.block ?_; refine CC.seq ?_)
      refine CC.quiet (by kernel_rfl) (by kernel_rfl) ?_
      (refine SS.val (R.move rfl rfl) rfl rfl ?_; refine SS.val (R.move rfl rfl) rfl rfl ?_; refine SS.val (R.index rfl rfl rfl (I.ixS rfl (by omega))) rfl rfl ?_)
      refine SS.val (R.load rfl rfl (I.ldN (vs := aE s) rfl rfl hc1)) rfl rfl ?_
      (refine SS.val (R.move rfl rfl) rfl rfl ?_; refine SS.val (R.move rfl rfl) rfl rfl ?_; refine SS.val (R.index rfl rfl rfl (I.ixS rfl (by omega))) rfl rfl ?_)
      refine SS.val (R.load rfl rfl (I.ldN (vs := aE t) rfl rfl hc3)) rfl rfl ?_
      by_cases hst : s = t
      · refine SS.val (R.neAct (b := false) rfl rfl rfl (by simp [hst])) rfl rfl ?_
        (refine SS.nilQ ?_)
        (refine EE.thenN ?_; refine CC.no rfl ?_; refine CC.skip ?_; refine EE.inN ?_; refine EE.thenN ?_; refine CC.region ?_; refine LL.val (R.move rfl rfl) rfl rfl rfl ?_; refine LL.val (R.addNc rfl rfl rfl rfl (by omega)) rfl rfl rfl ?_; refine LL.val (R.assign rfl rfl) rfl rfl rfl ?_; refine LL.nil ?_)
        exact EE.round (i + 1) ⟨rfl, rfl, rfl, rfl, trivial⟩ ⟨hbw.drew, by omega, by rw [List.take_add_one, List.take_add_one, ht, hs, ht2, hst]⟩ (by omega)
      · refine SS.val (R.neAct (b := true) rfl rfl rfl (by simp [hst])) rfl rfl ?_
        (refine SS.nilQ ?_)
        (refine EE.thenN ?_; refine CC.yes rfl ?_; refine CC.seq ?_; refine CC.region ?_; refine LL.val (R.assign rfl rfl) rfl rfl rfl ?_; refine LL.nilS ?_; refine CC.ret ?_; refine EE.inR ?_; refine EE.thenR ?_; refine EE.thenR ?_; refine EE.inR ?_; refine EE.thenR ?_)
        refine EE.ret _ rfl rfl ?_
        refine ⟨?_, hbw.drew⟩
        have : xs ≠ ys := fun e => hst (by rw [e, ht2] at hs; exact (Option.some.inj hs).symm)
        simp [resV, this]
    · obtain rfl : i = N := by omega
      rw [List.take_of_length_le (by omega), List.take_of_length_le (by omega)] at ht
      (refine CC.seq ?_; refine CC.seq ?_; refine CC.region ?_; refine LL.val (R.move rfl rfl) rfl rfl rfl ?_; refine LL.val (R.move rfl rfl) rfl rfl rfl ?_; refine LL.val (R.len rfl rfl rfl rfl) rfl rfl rfl ?_; refine LL.val (R.ltF rfl rfl rfl (by omega)) rfl rfl rfl ?_; refine LL.nilS ?_; refine CC.no rfl ?_; refine CC.exit ?_; refine EE.thenX ?_; refine EE.thenX ?_; refine EE.inX ?_; refine EE.thenN ?_; refine CC.seq ?_; refine CC.region ?_; refine LL.val (R.assign rfl rfl) rfl rfl rfl ?_; refine LL.nilS ?_; refine CC.ret ?_)
      refine EE.ret _ rfl rfl ?_
      exact ⟨by simp [resV, ht], hbw⟩
  · (refine CC.seq ?_; refine CC.region ?_; refine LL.val (R.assign rfl rfl) rfl rfl rfl ?_; refine LL.nilS ?_; refine CC.seq ?_; refine CC.seq ?_; refine CC.region ?_; refine LL.val (R.move rfl rfl) rfl rfl rfl ?_; refine LL.val (R.len rfl rfl rfl rfl) rfl rfl rfl ?_; refine LL.val (R.move rfl rfl) rfl rfl rfl ?_; refine LL.val (R.len rfl rfl rfl rfl) rfl rfl rfl ?_; refine LL.val (R.neT rfl rfl rfl (by omega)) rfl rfl rfl ?_; refine LL.nilS ?_; refine CC.yes rfl ?_; refine CC.seq ?_; refine CC.region ?_; refine LL.val (R.assign rfl rfl) rfl rfl rfl ?_; refine LL.nilS ?_; refine CC.ret ?_; refine EE.thenR ?_)
    refine EE.ret _ rfl rfl ?_
    have : xs ≠ ys := fun e => hne (by rw [← hN, ← hN2, e])
    exact ⟨by simp [resV, this], Below.refl _ _⟩

set_option maxRecDepth 100000 in
set_option maxHeartbeats 2000000 in
theorem psame_any (va vb : Value) (xs ys : List Pt) (w : World) (ha : ReadsT pE 2 w va xs) (hb : ReadsT pE 2 w vb ys) (hlx : xs.length ≤ 1048576) (hly : ys.length ≤ 1048576) :
    Calls Try.prog 13 #[va, vb] w fun e w' => e = .returned (.bool (decide (xs = ys))) ∧ Below w.heap.size w w' := by
  obtain ⟨N, hN⟩ : ∃ N, xs.length = N := ⟨_, rfl⟩
  obtain ⟨N2, hN2⟩ : ∃ N, ys.length = N := ⟨_, rfl⟩
  obtain ⟨a, cap, rfl, hc⟩ := ha.form hN
  obtain ⟨a2, cap2, rfl, hc2⟩ := hb.form hN2
  rw [hN] at hlx
  rw [hN2] at hly
  refine X.fn Try.func13 rfl (n := 26) rfl rfl ?_
  by_cases hne : N = N2
  · subst hne
    (refine CC.seq ?_; refine CC.region ?_; refine LL.val (R.assign rfl rfl) rfl rfl rfl ?_; refine LL.nilS ?_; refine CC.seq ?_; refine CC.seq ?_; refine CC.region ?_; refine LL.val (R.move rfl rfl) rfl rfl rfl ?_; refine LL.val (R.len rfl rfl rfl rfl) rfl rfl rfl ?_; refine LL.val (R.move rfl rfl) rfl rfl rfl ?_; refine LL.val (R.len rfl rfl rfl rfl) rfl rfl rfl ?_; refine LL.val (R.neF rfl rfl rfl (by omega)) rfl rfl rfl ?_; refine LL.nilS ?_; refine CC.no rfl ?_; refine CC.skip ?_; refine EE.thenN ?_; refine CC.seq ?_; refine CC.seq ?_; refine CC.region ?_; refine LL.val (R.assign rfl rfl) rfl rfl rfl ?_; refine LL.nilS ?_; refine CC.block ?_)
    refine CC.loop (α := Nat) (fun i => [(0, .slice a N cap), (1, .slice a2 N cap2), (4, .bool false), (5, .int .i64 (i : Int))]) (fun i wr => Below w.heap.size w wr ∧ i ≤ N ∧ xs.take i = ys.take i) (fun i => N - i) 0 ⟨rfl, rfl, rfl, rfl, trivial⟩ ⟨Below.refl _ _, by omega, by simp⟩ ?_
    intro i wr ⟨hbw, hi, ht⟩
    by_cases h1 : i < N
    · obtain ⟨s, hs⟩ : ∃ s, xs[i]? = some s := ⟨_, List.getElem?_eq_getElem (by omega)⟩
      obtain ⟨t, ht2⟩ : ∃ t, ys[i]? = some t := ⟨_, List.getElem?_eq_getElem (by omega)⟩
      obtain ⟨b, off, rfl, hbl, hcs⟩ := ha.get pEnc hs
      obtain ⟨b2, off2, rfl, hbl2, hcs2⟩ := hb.get pEnc ht2
      have hc1 := hcs.below hbw.drew hbl
      have hc3 := hcs2.below hbw.drew hbl2
      (refine CC.seq ?_; refine CC.seq ?_; refine CC.region ?_; refine LL.val (R.move rfl rfl) rfl rfl rfl ?_; refine LL.val (R.move rfl rfl) rfl rfl rfl ?_; refine LL.val (R.len rfl rfl rfl rfl) rfl rfl rfl ?_; refine LL.val (R.ltT rfl rfl rfl (by omega)) rfl rfl rfl ?_; refine LL.nilS ?_; refine CC.yes rfl ?_; refine CC.skip ?_; refine EE.thenN ?_; refine CC.seq ?_; refine CC.block ?_; refine CC.seq ?_)
      refine CC.quiet (by kernel_rfl) (by kernel_rfl) ?_
      (refine SS.val (R.move rfl rfl) rfl rfl ?_; refine SS.val (R.move rfl rfl) rfl rfl ?_; refine SS.val (R.index rfl rfl rfl (I.ixS rfl (by omega))) rfl rfl ?_)
      refine SS.val (R.load rfl rfl (I.ldN (vs := pE s) rfl rfl hc1)) rfl rfl ?_
      (refine SS.val (R.move rfl rfl) rfl rfl ?_; refine SS.val (R.move rfl rfl) rfl rfl ?_; refine SS.val (R.index rfl rfl rfl (I.ixS rfl (by omega))) rfl rfl ?_)
      refine SS.val (R.load rfl rfl (I.ldN (vs := pE t) rfl rfl hc3)) rfl rfl ?_
      by_cases hst : s = t
      · refine SS.val (R.nePut (b := false) rfl rfl rfl (by simp [hst])) rfl rfl ?_
        (refine SS.nilQ ?_)
        (refine EE.thenN ?_; refine CC.no rfl ?_; refine CC.skip ?_; refine EE.inN ?_; refine EE.thenN ?_; refine CC.region ?_; refine LL.val (R.move rfl rfl) rfl rfl rfl ?_; refine LL.val (R.addNc rfl rfl rfl rfl (by omega)) rfl rfl rfl ?_; refine LL.val (R.assign rfl rfl) rfl rfl rfl ?_; refine LL.nil ?_)
        exact EE.round (i + 1) ⟨rfl, rfl, rfl, rfl, trivial⟩ ⟨hbw.drew, by omega, by rw [List.take_add_one, List.take_add_one, ht, hs, ht2, hst]⟩ (by omega)
      · refine SS.val (R.nePut (b := true) rfl rfl rfl (by simp [hst])) rfl rfl ?_
        (refine SS.nilQ ?_)
        (refine EE.thenN ?_; refine CC.yes rfl ?_; refine CC.seq ?_; refine CC.region ?_; refine LL.val (R.assign rfl rfl) rfl rfl rfl ?_; refine LL.nilS ?_; refine CC.ret ?_; refine EE.inR ?_; refine EE.thenR ?_; refine EE.thenR ?_; refine EE.inR ?_; refine EE.thenR ?_)
        refine EE.ret _ rfl rfl ?_
        refine ⟨?_, hbw.drew⟩
        have : xs ≠ ys := fun e => hst (by rw [e, ht2] at hs; exact (Option.some.inj hs).symm)
        simp [resV, this]
    · obtain rfl : i = N := by omega
      rw [List.take_of_length_le (by omega), List.take_of_length_le (by omega)] at ht
      (refine CC.seq ?_; refine CC.seq ?_; refine CC.region ?_; refine LL.val (R.move rfl rfl) rfl rfl rfl ?_; refine LL.val (R.move rfl rfl) rfl rfl rfl ?_; refine LL.val (R.len rfl rfl rfl rfl) rfl rfl rfl ?_; refine LL.val (R.ltF rfl rfl rfl (by omega)) rfl rfl rfl ?_; refine LL.nilS ?_; refine CC.no rfl ?_; refine CC.exit ?_; refine EE.thenX ?_; refine EE.thenX ?_; refine EE.inX ?_; refine EE.thenN ?_; refine CC.seq ?_; refine CC.region ?_; refine LL.val (R.assign rfl rfl) rfl rfl rfl ?_; refine LL.nilS ?_; refine CC.ret ?_)
      refine EE.ret _ rfl rfl ?_
      exact ⟨by simp [resV, ht], hbw⟩
  · (refine CC.seq ?_; refine CC.region ?_; refine LL.val (R.assign rfl rfl) rfl rfl rfl ?_; refine LL.nilS ?_; refine CC.seq ?_; refine CC.seq ?_; refine CC.region ?_; refine LL.val (R.move rfl rfl) rfl rfl rfl ?_; refine LL.val (R.len rfl rfl rfl rfl) rfl rfl rfl ?_; refine LL.val (R.move rfl rfl) rfl rfl rfl ?_; refine LL.val (R.len rfl rfl rfl rfl) rfl rfl rfl ?_; refine LL.val (R.neT rfl rfl rfl (by omega)) rfl rfl rfl ?_; refine LL.nilS ?_; refine CC.yes rfl ?_; refine CC.seq ?_; refine CC.region ?_; refine LL.val (R.assign rfl rfl) rfl rfl rfl ?_; refine LL.nilS ?_; refine CC.ret ?_; refine EE.thenR ?_)
    refine EE.ret _ rfl rfl ?_
    have : xs ≠ ys := fun e => hne (by rw [← hN, ← hN2, e])
    exact ⟨by simp [resV, this], Below.refl _ _⟩
end Go.Proofs.Ytcmgpfahpmkeoaa

/- Regions that draw their order, of which the last steps come behind all others, in one order: first the others, in each order that may be, then these as a list. -/
namespace Go.Proofs.Ytcmgpfahpmkeoaa
set_option linter.unusedVariables false
set_option linter.unusedSimpArgs false
open Go.RowKit Go.Shelf

/-- The steps from m on come behind all ahead of m; no step waits for a later one. -/
def tailPB (ops : Array Oper) (m : Nat) : Bool :=
  (List.range ops.size).all fun j => match ops[j]? with
    | some o => (o.after.all fun e => !Region.binds .any e || Nat.blt e.on j) && (Nat.blt j m || (List.range m).all fun i => o.after.any fun e => Region.binds .any e && Nat.beq e.on i)
    | none => true
def laterL (m n : Nat) : Array Bool := (List.replicate m false ++ List.replicate (n - m) true).toArray
def doneL (m n : Nat) : Array Bool := (List.replicate m true ++ List.replicate (n - m) false).toArray
def unl (m : Nat) (lr : Array Bool) : Nat := ((List.range m).filter fun i => !(lr.getD i true)).length
theorem unl_set {m i : Nat} {lr : Array Bool} (hi : i < m) (h : lr.getD i true = false) : unl m (lr.setIfInBounds i true) + 1 = unl m lr := by
  have hn : ((List.range m).filter fun i => !(lr.getD i true)).Nodup := List.Nodup.sublist List.filter_sublist List.nodup_range
  have hm : i ∈ (List.range m).filter fun i => !(lr.getD i true) := List.mem_filter.2 ⟨List.mem_range.2 hi, by rw [h]; rfl⟩
  have he : (List.range m).filter (fun j => !((lr.setIfInBounds i true).getD j true)) = ((List.range m).filter fun i => !(lr.getD i true)).erase i := by
    rw [hn.erase_eq_filter, List.filter_filter]
    refine List.filter_congr fun j _ => ?_
    by_cases e : i = j
    · subst e
      have : (lr.setIfInBounds i true).getD i true = true := by
        rw [Array.getD_eq_getD_getElem?, Array.getElem?_setIfInBounds_self]
        split <;> rfl
      simp [this]
    · rw [getD_set_ne true e]
      simp [Ne.symm e]
  have hp := List.length_pos_of_mem hm
  unfold unl
  rw [he, List.length_erase_of_mem hm]
  omega
theorem unl_zero {m : Nat} {lr : Array Bool} (h : unl m lr = 0) : ∀ i, i < m → lr.getD i true = true := fun i hi => by
  have h0 := List.eq_nil_of_length_eq_zero h
  cases hg : lr.getD i true with
  | true => rfl
  | false =>
    have : i ∈ (List.range m).filter fun i => !(lr.getD i true) := List.mem_filter.2 ⟨List.mem_range.2 hi, by rw [hg]; rfl⟩
    rw [h0] at this
    cases this
theorem unl_least {m : Nat} {lr : Array Bool} (h : unl m lr ≠ 0) : ∃ i, i < m ∧ lr.getD i true = false ∧ ∀ j, j < i → lr.getD j true = true := by
  have key : ∀ k, k ≤ m → (∀ j, j < k → lr.getD j true = true) ∨ ∃ i, i < k ∧ lr.getD i true = false ∧ ∀ j, j < i → lr.getD j true = true := by
    intro k
    induction k with
    | zero => intro _; exact .inl fun j hj => absurd hj (by omega)
    | succ k ih =>
      intro hk
      rcases ih (by omega) with h1 | ⟨i, hi, h2⟩
      · cases hg : lr.getD k true with
        | true =>
          refine .inl fun j hj => ?_
          rcases Nat.lt_succ_iff_lt_or_eq.1 hj with h3 | rfl
          · exact h1 j h3
          · exact hg
        | false => exact .inr ⟨k, by omega, hg, h1⟩
      · exact .inr ⟨i, by omega, h2⟩
  rcases key m (Nat.le_refl _) with h1 | ⟨i, hi, h2⟩
  · exfalso
    apply h
    unfold unl
    have : (List.range m).filter (fun i => !(lr.getD i true)) = [] := by
      rw [List.filter_eq_nil_iff]
      intro i hi
      rw [h1 i (List.mem_range.1 hi)]
      simp
    rw [this]
    rfl
  · exact ⟨i, hi, h2⟩
/-- The same ahead of m; all done from m on, nothing done from m on. -/
structure Alike (m n : Nat) (lr lp : Array Bool) : Prop where
  s1 : lr.size = n
  s2 : lp.size = n
  lo : ∀ i, i < m → lp[i]? = lr[i]?
  hp : ∀ j, m ≤ j → j < n → lp[j]? = some true
  hr : ∀ j, m ≤ j → j < n → lr[j]? = some false
theorem Alike.set {m n i : Nat} {lr lp : Array Bool} (h : Alike m n lr lp) (hi : i < m) : Alike m n (lr.setIfInBounds i true) (lp.setIfInBounds i true) := by
  refine ⟨by simp [h.s1], by simp [h.s2], fun j hj => ?_, fun j hj hn => ?_, fun j hj hn => ?_⟩
  · by_cases e : i = j
    · subst e
      rw [Array.getElem?_setIfInBounds_self, Array.getElem?_setIfInBounds_self, h.s1, h.s2]
    · rw [Array.getElem?_setIfInBounds_ne e, Array.getElem?_setIfInBounds_ne e, h.lo j hj]
  · rw [Array.getElem?_setIfInBounds_ne (by omega), h.hp j hj hn]
  · rw [Array.getElem?_setIfInBounds_ne (by omega), h.hr j hj hn]
theorem alike_start (m n : Nat) (h : m ≤ n) : Alike m n (Array.replicate n false) (laterL m n) := by
  refine ⟨by simp, by simp [laterL]; omega, fun i hi => ?_, fun j hj hn => ?_, fun j hj hn => ?_⟩
  · simp [laterL, hi, List.getElem?_append, (by omega : i < n)]
  · simp only [laterL, List.getElem?_toArray]
    rw [List.getElem?_append_right (by simpa using hj), List.getElem?_replicate]
    rw [if_pos (by simp; omega)]
  · simp [hn]
theorem Alike.done {m n : Nat} {lr lp : Array Bool} (h : Alike m n lr lp) (hm : m ≤ n) (h0 : unl m lr = 0) : lr = doneL m n := by
  apply Array.ext_getElem?
  intro j
  by_cases hj : j < m
  · have := unl_zero h0 j hj
    rw [Array.getD_eq_getD_getElem?, Array.getElem?_eq_getElem (by rw [h.s1]; omega)] at this
    simp only [Option.getD_some] at this
    rw [Array.getElem?_eq_getElem (by rw [h.s1]; omega), this]
    simp [doneL, List.getElem?_append, hj]
  · by_cases hn : j < n
    · rw [h.hr j (by omega) hn]
      simp only [doneL, List.getElem?_toArray]
      rw [List.getElem?_append_right (by simp; omega), List.getElem?_replicate]
      rw [if_pos (by simp; omega)]
    · rw [Array.getElem?_eq_none (by rw [h.s1]; omega), Array.getElem?_eq_none (by simp [doneL]; omega)]

section
variable {P : Program} {l : List Oper} {Q : Exit → Act → World → Prop} {ok : World → Prop} {r : Option Nat} {n : Nat} {D : List Deferred} {M : Slots} {w : World}
theorem tail_spec {m : Nat} {ops : Array Oper} (h : tailPB ops m = true) {j : Nat} {o : Oper} (ho : ops[j]? = some o) : (∀ e ∈ o.after, Region.binds .any e = true → e.on < j) ∧ (m ≤ j → ∀ i, i < m → ∃ e ∈ o.after, Region.binds .any e = true ∧ e.on = i) := by
  have hj : j < ops.size := (Array.getElem?_eq_some_iff.1 ho).1
  have h1 := List.all_eq_true.1 h j (List.mem_range.2 hj)
  simp only [ho, Bool.and_eq_true] at h1
  refine ⟨fun e he hb => ?_, fun hmj i hi => ?_⟩
  · have h2 := Array.all_eq_true'.1 h1.1 e he
    rw [hb] at h2
    simpa using h2
  · rcases Bool.or_eq_true_iff.1 h1.2 with h3 | h3
    · have : j < m := by simpa using h3
      omega
    · have h4 := List.all_eq_true.1 h3 i (List.mem_range.2 hi)
      obtain ⟨e, he, hb⟩ := Array.any_eq_true'.1 h4
      simp only [Bool.and_eq_true] at hb
      exact ⟨e, he, hb.1, Nat.eq_of_beq_eq_true hb.2⟩
theorem CC.phase {id : Nat} (ok : World → Prop) (m : Nat) (hm : P.follows .mixedOrders = true) (hB : selB l = true) (hT : tailPB l.toArray m = true) (hml : Nat.ble m l.length = true) (hS : Region.seqB .any l.toArray (l.drop m).length m (doneL m l.length) = true)
    (h : AA P l.toArray ok (fun _ a w => wpListIn (Wr r) 3 P l.toArray Q (l.drop m) a w) n D M m (laterL m l.length) w.drew) : CC r P Q n D M (.region id l.toArray true) w := CC.mk fun a F => by
  have hml : m ≤ l.length := Nat.le_of_ble_eq_true hml
  have hdf : ∀ (j : Nat) (o : Oper), l.toArray[j]? = some o → dfB o.op = false := fun j o ho => by
    have := List.all_eq_true.1 hB o (by simpa using List.mem_of_getElem? (by simpa using ho))
    simpa using this
  have hend : ∀ lr lp a w, Alike m l.length lr lp → unl m lr = 0 → wpListIn (Wr r) 3 P l.toArray Q (l.drop m) a w → wpAnyIn (Wr r) 3 P .any l.toArray Q (l.drop m).length lr a w := by
    intro lr lp a w hA h0 hq
    rw [hA.done hml h0]
    exact wpAnyIn_of_seq (l.drop m) m _ a w (fun j => by simp) hS hq
  have key : ∀ k lr lp a w, Alike m l.length lr lp → unl m lr = k → AnyR P l.toArray ok (fun _ a w => wpListIn (Wr r) 3 P l.toArray Q (l.drop m) a w) k lp a w → wpAnyIn (Wr r) 3 P .any l.toArray Q (k + (l.drop m).length) lr a w := by
    intro k
    induction k with
    | zero =>
      intro lr lp a w hA h0 hR
      rw [Nat.zero_add]
      exact hend lr lp a w hA h0 hR.2
    | succ k ih =>
      intro lr lp a w hA hk hR
      obtain ⟨i0, hi0, hu0, hlow⟩ := unl_least (m := m) (lr := lr) (by omega)
      have hget : ∀ j, j < l.length → lr.getD j false = lr.getD j true := fun j hj => by
        rw [Array.getD_eq_getD_getElem?, Array.getD_eq_getD_getElem?, Array.getElem?_eq_getElem (by rw [hA.s1]; exact hj)]
        rfl
      have hr0 : i0 ∈ Region.ready .any l.toArray lr := by
        have hlt : i0 < l.length := by omega
        obtain ⟨o, ho⟩ : ∃ o, l.toArray[i0]? = some o := ⟨_, Array.getElem?_eq_getElem (by simpa using hlt)⟩
        refine mem_ready.2 ⟨hu0, o, ho, fun e he hb => ?_⟩
        have hlt2 := (tail_spec hT ho).1 e he hb
        rw [hget _ (by omega)]
        exact hlow _ hlt2
      rw [show k + 1 + (l.drop m).length = (k + (l.drop m).length) + 1 by omega]
      refine ⟨fun h0 => (by rw [h0] at hr0; cases hr0), fun i hi => ?_⟩
      obtain ⟨hui, o, ho, hall⟩ := mem_ready.1 hi
      have him : i < m := by
        rcases Nat.lt_or_ge i m with h1 | h1
        · exact h1
        · obtain ⟨e, he, hb, hon⟩ := (tail_spec hT ho).2 h1 i0 hi0
          have := hall e he hb
          rw [hon, hget _ (by omega), hu0] at this
          cases this
      have hil : i ∈ Region.ready .any l.toArray lp := by
        refine mem_ready.2 ⟨?_, o, ho, fun e he hb => ?_⟩
        · rw [Array.getD_eq_getD_getElem?, hA.lo i him, ← Array.getD_eq_getD_getElem?]
          exact hui
        · have h1 := hall e he hb
          have hlt := (tail_spec hT ho).1 e he hb
          rw [Array.getD_eq_getD_getElem?, hA.lo _ (by omega), ← Array.getD_eq_getD_getElem?]
          exact h1
      have h2 := hR.2 i hil
      have hrec : ∀ a' w', AnyR P l.toArray ok (fun _ a w => wpListIn (Wr r) 3 P l.toArray Q (l.drop m) a w) k (lp.setIfInBounds i true) a' w' → wpAnyIn (Wr r) 3 P .any l.toArray Q (k + (l.drop m).length) (lr.setIfInBounds i true) a' w' :=
        fun a' w' h' => ih _ _ a' w' (hA.set him) (by have := unl_set him hui; omega) h'
      unfold stepR at h2
      unfold wpOpIn
      split
      · rename_i hn; rw [ho] at hn; cases hn
      · rename_i o' ho'
        obtain rfl : o = o' := Option.some.inj (ho.symm.trans ho')
        simp only [ho] at h2
        split
        · rename_i hw
          rw [if_pos hw] at h2
          exact wpIn_of_actR (hdf _ _ ho) (actR_mono (fun a' w' hk => hrec a' w' hk.2) h2)
        · rename_i hw
          rw [if_neg hw] at h2
          exact ⟨about_wr a, hrec _ _ h2⟩
  refine wpIn_region_any hm ?_
  have hu : unl m (Array.replicate l.length false) = m := by
    unfold unl
    have : (List.range m).filter (fun i => !((Array.replicate l.length false).getD i true)) = List.range m := by
      rw [List.filter_eq_self]
      intro i hi
      have := List.mem_range.1 hi
      simp [Array.getD_eq_getD_getElem?, (by omega : i < l.length)]
    rw [this, List.length_range]
  have hlen : m + (l.drop m).length = l.length := by rw [List.length_drop]; omega
  have hfin := key m _ _ a w.drew (alike_start m l.length hml) hu (h.h a F)
  rw [hlen] at hfin
  simpa using hfin
theorem EE.tailL {ops : Array Oper} {t : List Oper} (h : LL r P ops Q n D M t w) : EE (fun _ a w => wpListIn (Wr r) 3 P ops Q t a w) n D M .normal w := EE.mk fun a F => h.h a F
end
end Go.Proofs.Ytcmgpfahpmkeoaa

/- plan: lineOf, settle, store. -/
namespace Go.Proofs.Ytcmgpfahpmkeoaa
set_option linter.unusedVariables false
set_option linter.unusedSimpArgs false
open Go.RowKit Go.Shelf

def lnP (p : Pt) : Nat := p.1.toNat / 8
def setA (k : Nat) : List Ac := [(2, (k : Int), 0), (3, 0, 0)]
def stA (p : Pt) : Ac := (1, p.1, p.2)

set_option maxRecDepth 100000 in
theorem line_any (a : Nat) (w : World) (ha : a ≤ 9223372036854775807) :
    Calls Try.prog 27 #[.int .i64 (a : Int)] w fun e w' => e = .returned (.int .i64 ((a / 8 : Nat) : Int)) ∧ w = w' := by
  refine X.fn Try.func27 rfl (n := 5) rfl rfl ?_
  (refine CC.seq ?_; refine CC.region ?_; refine LL.val (R.assign rfl rfl) rfl rfl rfl ?_; refine LL.nilS ?_; refine CC.seq ?_; refine CC.region ?_; refine LL.val (R.move rfl rfl) rfl rfl rfl ?_; refine LL.val (R.quoNc rfl rfl rfl rfl (by omega) (by omega)) rfl rfl rfl ?_; refine LL.val (R.assign rfl rfl) rfl rfl rfl ?_; refine LL.nilS ?_; refine CC.ret ?_)
  refine EE.ret _ rfl rfl ?_
  exact ⟨rfl, rfl⟩
set_option maxRecDepth 100000 in
theorem num_any (a : Int) (w : World) :
    Calls Try.prog 11 #[.int .i64 a] w fun e w' => e = .returned (.int .i64 a) ∧ w = w' := by
  refine X.fn Try.func11 rfl (n := 4) rfl rfl ?_
  (refine CC.seq ?_; refine CC.region ?_; refine LL.val (R.assign rfl rfl) rfl rfl rfl ?_; refine LL.nilS ?_; refine CC.seq ?_; refine CC.region ?_; refine LL.val (R.move rfl rfl) rfl rfl rfl ?_; refine LL.val (R.assign rfl rfl) rfl rfl rfl ?_; refine LL.nilS ?_; refine CC.ret ?_)
  refine EE.ret _ rfl rfl ?_
  exact ⟨rfl, rfl⟩

/-- A plan under way. -/
structure LayW (w : World) (g base : Nat) (v : Value) (line : Int) (ts : List Ac) : Prop where
  row : RowL w g 68 [v, .int .i64 line]
  own : OwnsT aE 3 w base 38 v ts
  ne : v.ownBlock ≠ some g
  le : base ≤ g
def LayAt (w : World) (g base : Nat) (line : Int) (ts : List Ac) : Prop := ∃ v, LayW w g base v line ts
theorem LayW.up {w w' : World} {g base : Nat} {v : Value} {line : Int} {ts : List Ac} (h : LayW w g base v line ts) (hb : Below w.heap.size w w') : LayW w' g base v line ts :=
  ⟨h.row.up hb, h.own.up hb, h.ne, h.le⟩
theorem LayAt.up {w w' : World} {g base : Nat} {line : Int} {ts : List Ac} (h : LayAt w g base line ts) (hb : Below w.heap.size w w') : LayAt w' g base line ts := by
  obtain ⟨v, h⟩ := h
  exact ⟨v, h.up hb⟩
theorem LayAt.lt {w : World} {g base : Nat} {line : Int} {ts : List Ac} (h : LayAt w g base line ts) : g < w.heap.size ∧ base ≤ g := by
  obtain ⟨v, h⟩ := h
  exact ⟨h.row.lt, h.le⟩

/-- Nothing but the plan under way is changed. -/
def KeepL (w w' : World) (g : Nat) (v : Value) : Prop := ∀ j, j < w.heap.size → j ≠ g → v.ownBlock ≠ some j → w'.heap[j]? = w.heap[j]?
set_option maxRecDepth 100000 in
set_option maxHeartbeats 4000000 in
theorem settle_any (g base : Nat) (v : Value) (line : Int) (k : Nat) (ts : List Ac) (w : World) (h : LayW w g base v line ts) (hlen : ts.length ≤ 4194304) :
    Calls Try.prog 28 #[.pointer (some ⟨g, 0, none⟩), .int .i64 (k : Int)] w fun e w' => (∃ v, e = .returned v) ∧ (∃ v', LayW w' g base v' line (ts ++ setA k) ∧ (v'.ownBlock = v.ownBlock ∨ ∃ b, v'.ownBlock = some b ∧ w.heap.size ≤ b)) ∧ Below base w w' ∧ KeepL w w' g v := by
  have hlt := h.row.lt
  have hle := h.le
  have c0 := h.row.cell (j := 0) rfl
  refine X.fn Try.func28 rfl (n := 16) rfl rfl ?_
  (refine CC.region ?_; refine LL.val (R.move rfl rfl) rfl rfl rfl ?_; refine LL.val (R.move rfl rfl) rfl rfl rfl ?_; refine LL.val (R.nil rfl rfl) rfl rfl rfl ?_; refine LL.val (R.field rfl rfl (I.fld rfl)) rfl rfl rfl ?_; refine LL.val (R.load rfl rfl (I.ld1 rfl (by assumption))) rfl rfl rfl ?_; refine LL.val (R.move rfl rfl) rfl rfl rfl ?_)
  refine LL.val (R.buildV rfl rfl (v := .agg (aE (2, (k : Int), 0)).toArray) (fun _ => by kernel_rfl)) rfl rfl rfl ?_
  refine LL.val (R.buildV rfl rfl (v := .agg (aE (3, 0, 0)).toArray) (fun _ => by kernel_rfl)) rfl rfl rfl ?_
  refine LL.lit (e := 38) (aE (2, (k : Int), 0) ++ aE (3, 0, 0)) 2 rfl rfl (fun _ => by kernel_rfl) rfl rfl ?_
  intro W2 g2 eg r2 zg b
  have rd : ReadsT aE 3 W2 (.slice (some ⟨g2, 0, none⟩) 2 2) (setA k) := RowL.readsT (ts := setA k) aEnc (by simpa [setA] using r2) 2 (by simp [setA])
  have hb := h.up b
  refine LL.appendT2 rfl rfl aEnc ElAct hb.own rd (by simp only [setA, List.length_cons, List.length_nil, maxLen]; omega) (by simp only [setA, List.length_cons, List.length_nil]; omega) (by have := b.size; omega) rfl rfl ?_
  intro v' W3 o3 g3 hw3
  have y2 := b.size
  have y3 := g3.size
  have row3 : RowL W3 g 68 [v, .int .i64 line] := hb.row.same (g3.block g (by omega) (by simpa using Ne.symm hb.ne))
  have hne3 : v'.ownBlock ≠ some g := by
    rcases hw3 with e | ⟨bb, e, hbb⟩
    · rw [e]; exact hb.ne
    · rw [e]; intro e2; cases e2; omega
  have q3 : Below base w W3 := (b.mono (by omega)).trans (hb.own.bel g3 (by omega))
  obtain ⟨a', cp', rfl, _⟩ := (o3.reads aEnc).form rfl
  (refine LL.val (R.nil rfl rfl) rfl rfl rfl ?_; refine LL.val (R.field rfl rfl (I.fld rfl)) rfl rfl rfl ?_)
  refine LL.store rfl rfl rfl rfl row3 (by exact Nat.le_of_ble_eq_true rfl) rfl rfl rfl rfl ?_
  intro W4 r4 g4 z4
  (refine LL.nil ?_)
  refine EE.end [] rfl rfl ?_
  refine ⟨⟨_, rfl⟩, ⟨_, ⟨r4, o3.grown g4 hne3, hne3, hle⟩, hw3.imp_right fun ⟨b, e, hb⟩ => ⟨b, e, by omega⟩⟩, q3.grown g4 (by omega) (by rintro k ⟨⟩; omega), fun j hj hjg hjv => ?_⟩
  exact ((g4.block j (by omega) (by simpa using hjg)).trans (g3.block j (by omega) (fun e => hjv e.symm))).trans (b.block j hj)
set_option maxRecDepth 100000 in
set_option maxHeartbeats 4000000 in
theorem store_any (g base : Nat) (v : Value) (line : Int) (p : Pt) (ts : List Ac) (w : World) (h : LayW w g base v line ts) (hlen : ts.length ≤ 4194304) :
    Calls Try.prog 29 #[.pointer (some ⟨g, 0, none⟩), .agg (pE p).toArray] w fun e w' => (∃ v, e = .returned v) ∧ (∃ v', LayW w' g base v' line (ts ++ [stA p]) ∧ (v'.ownBlock = v.ownBlock ∨ ∃ b, v'.ownBlock = some b ∧ w.heap.size ≤ b)) ∧ Below base w w' ∧ KeepL w w' g v := by
  have hlt := h.row.lt
  have hle := h.le
  refine X.fn Try.func29 rfl (n := 18) rfl rfl ?_
  (refine CC.seq ?_; refine CC.region ?_)
  refine LL.box (pE p) rfl rfl rfl rfl rfl ?_
  intro W1 g1 eg1 r1 zg1 b1
  have h1 := h.up b1
  have y1 := b1.size
  have q1 : Below base w W1 := b1.mono (by omega)
  (refine LL.nilS ?_)
  obtain ⟨okP, hokP⟩ : ∃ okP : World → Prop, okP = fun W' => RowL W' g 68 [v, .int .i64 line] ∧ RowL W' g1 56 (pE p) := ⟨_, rfl⟩
  have okE : ∀ {W'}, okP W' → RowL W' g 68 [v, .int .i64 line] ∧ RowL W' g1 56 (pE p) := fun h => by rw [hokP] at h; exact h
  have hok : okP W1.drew := by rw [hokP]; exact ⟨h1.row.drew, r1.drew⟩
  refine CC.phase okP 12 (by kernel_rfl) rfl (by kernel_rfl) rfl (by kernel_rfl) ?_
  (refine AA.pure 0 rfl (by assumption) (by kernel_rfl) (fun w' hw' => R.move rfl rfl) rfl rfl ?_)
  (refine AA.pure 1 rfl (by assumption) (by kernel_rfl) (fun w' hw' => R.move rfl rfl) rfl rfl ?_)
  (refine AA.pure 2 rfl (by assumption) (by kernel_rfl) (fun w' hw' => R.nil rfl rfl) rfl rfl ?_)
  (refine AA.pure 3 rfl (by assumption) (by kernel_rfl) (fun w' hw' => R.field rfl rfl (I.fld rfl)) rfl rfl ?_)
  refine AA.pure 4 rfl (by assumption) (by kernel_rfl) (fun w' hw' => R.load rfl rfl (I.ld1 rfl (RowL.cell (j := 0) (okE hw').1 rfl))) rfl rfl ?_
  (refine AA.pure 5 rfl (by assumption) (by kernel_rfl) (fun w' hw' => R.field rfl rfl (I.fld rfl)) rfl rfl ?_)
  refine AA.pure 6 rfl (by assumption) (by kernel_rfl) (fun w' hw' => R.load rfl rfl (I.ld1 rfl (RowL.cell (j := 0) (okE hw').2 rfl))) rfl rfl ?_
  (refine AA.pure 7 rfl (by assumption) (by kernel_rfl) (fun w' hw' => R.field rfl rfl (I.fld rfl)) rfl rfl ?_)
  refine AA.pure 8 rfl (by assumption) (by kernel_rfl) (fun w' hw' => R.load rfl rfl (I.ld1 rfl (RowL.cell (j := 1) (okE hw').2 rfl))) rfl rfl ?_
  refine AA.pure 9 rfl (by assumption) (by kernel_rfl) (fun w' hw' => R.buildV rfl rfl (v := .agg (aE (stA p)).toArray) (fun _ => by kernel_rfl)) rfl rfl ?_
  refine AA.one 10 (by kernel_rfl) ?_
  refine SR.lit (e := 38) (aE (stA p)) 1 rfl rfl rfl (fun _ => by kernel_rfl) rfl rfl ?_
  intro W2 g2 eg2 r2 b2
  have hd : LayW W1.drew g base v line ts := ⟨h1.row.drew, h1.own.up below_drew, h1.ne, h1.le⟩
  have h2 := hd.up b2
  refine ⟨by rw [hokP]; exact ⟨h2.row, (okE hok).2.up b2⟩, ?_⟩
  have r12 := (okE hok).2.up b2
  have rd : ReadsT aE 3 W2 (.slice (some ⟨g2, 0, none⟩) 1 1) [stA p] := RowL.readsT (ts := [stA p]) aEnc (by simpa using r2) 1 (by simp)
  have y2 := b2.size
  have yd : W1.drew.heap.size = W1.heap.size := rfl
  refine AA.one 11 (by kernel_rfl) ?_
  refine SR.appendT2 rfl rfl rfl aEnc ElAct h2.own rd (by simp only [List.length_cons, List.length_nil, maxLen]; omega) (by simp only [List.length_cons, List.length_nil]; omega) (by omega) rfl rfl ?_
  intro v' W3 o3 g3 hw3
  have y3 := g3.size
  have row3 : RowL W3 g 68 [v, .int .i64 line] := h2.row.same (g3.block g (by omega) (by simpa using Ne.symm h2.ne))
  have hne3 : v'.ownBlock ≠ some g := by
    rcases hw3 with e | ⟨bb, e, hbb⟩
    · rw [e]; exact h2.ne
    · rw [e]; intro e2; cases e2; omega
  have hne1 : v.ownBlock ≠ some g1 := by
    rcases h.own.above with h0 | ⟨b, h0, _, hb⟩
    · rw [h0]; simp
    · rw [h0]; intro e; cases e; omega
  have row13 : RowL W3 g1 56 (pE p) := r12.same (g3.block g1 (by have := r12.lt; omega) (by simpa using Ne.symm hne1))
  have q3 : Below base w W3 := ((q1.trans ((below_drew (w := W1)).mono (by omega))).trans (b2.mono (by omega))).trans (h2.own.bel g3 (by omega))
  refine ⟨by rw [hokP]; exact ⟨row3, row13⟩, ?_⟩
  refine AA.done (by kernel_rfl) ?_
  refine EE.tailL ?_
  obtain ⟨a', cp', rfl, _⟩ := (o3.reads aEnc).form rfl
  (refine LL.val (R.nil rfl rfl) rfl rfl rfl ?_; refine LL.val (R.field rfl rfl (I.fld rfl)) rfl rfl rfl ?_)
  refine LL.store rfl rfl rfl rfl row3 (by exact Nat.le_of_ble_eq_true rfl) rfl rfl rfl rfl ?_
  intro W4 r4 g4 z4
  (refine LL.nil ?_)
  refine EE.end [] rfl rfl ?_
  refine ⟨⟨_, rfl⟩, ⟨_, ⟨r4, o3.grown g4 hne3, hne3, hle⟩, hw3.imp_right fun ⟨b, e, hb⟩ => ⟨b, e, by omega⟩⟩, q3.grown g4 (by omega) (by rintro k ⟨⟩; omega), fun j hj hjg hjv => ?_⟩
  exact (((g4.block j (by omega) (by simpa using hjg)).trans (g3.block j (by omega) (fun e => hjv e.symm))).trans (b2.block j (by omega))).trans (b1.block j hj)
end Go.Proofs.Ytcmgpfahpmkeoaa

/- The plan of stores, as a list. -/
namespace Go.Proofs.Ytcmgpfahpmkeoaa
set_option linter.unusedVariables false
set_option linter.unusedSimpArgs false
open Go.RowKit Go.Shelf

def gapA (o : Option Nat) (p : Pt) : List Ac := match o with
  | some k => if lnP p = k then [] else setA k
  | none => []
def endA : Option Nat → List Ac
  | none => []
  | some k => setA k
def planP : Option Nat → List Pt → List Ac
  | o, [] => endA o
  | o, p :: l => gapA o p ++ stA p :: planP (some (lnP p)) l
def okPs (l : List Pt) : Bool := l.all fun p => decide (0 ≤ p.1)
def orderP (l : List Pt) : List Ac := if okPs l then planP none l else []
def orderN (l : List Pt) : Nat := if okPs l then 0 else 2
/-- The line of the store ahead of a place. -/
def prevL (l : List Pt) : Nat → Option Nat
  | 0 => none
  | i + 1 => (l[i]?).map lnP
structure PAt (l : List Pt) (i : Nat) (ts : List Ac) : Prop where
  le : i ≤ l.length
  all : ts ++ planP (prevL l i) (l.drop i) = planP none l
  nn : ∀ j, j < i → ∀ p, l[j]? = some p → 0 ≤ p.1
  len : ts.length ≤ 3 * i
theorem PAt.zero (l : List Pt) : PAt l 0 [] := ⟨by omega, by simp [prevL], fun j h => by omega, by simp⟩
theorem gapA_len (o : Option Nat) (p : Pt) : (gapA o p).length ≤ 2 := by
  unfold gapA
  split
  · split <;> simp [setA]
  · simp
theorem PAt.step {l : List Pt} {i : Nat} {ts : List Ac} {p : Pt} (h : PAt l i ts) (hp : l[i]? = some p) (h0 : 0 ≤ p.1) : PAt l (i + 1) (ts ++ gapA (prevL l i) p ++ [stA p]) := by
  obtain ⟨hi, hpi⟩ := List.getElem?_eq_some_iff.1 hp
  refine ⟨by omega, ?_, fun j hj q hq => ?_, ?_⟩
  · have hd : l.drop i = p :: l.drop (i + 1) := by rw [List.drop_eq_getElem_cons hi, hpi]
    have ha := h.all
    rw [hd] at ha
    simp only [planP] at ha
    have e : prevL l (i + 1) = some (lnP p) := by show (l[i]?).map lnP = _; rw [hp]; rfl
    rw [e, ← ha]
    simp only [List.append_assoc, List.cons_append, List.nil_append]
  · rcases Nat.lt_succ_iff_lt_or_eq.1 hj with h1 | h1
    · exact h.nn j h1 q hq
    · rw [h1, hp] at hq
      cases hq
      exact h0
  · have h1 := h.len
    have h2 := gapA_len (prevL l i) p
    simp only [List.length_append, List.length_cons, List.length_nil]
    omega
theorem PAt.neg {l : List Pt} {i : Nat} {p : Pt} (hp : l[i]? = some p) (h0 : p.1 < 0) : okPs l = false := by
  cases h : okPs l with
  | false => rfl
  | true =>
    have := List.all_eq_true.1 h p (List.mem_of_getElem? hp)
    simp at this
    omega
theorem PAt.ok {l : List Pt} {ts : List Ac} (h : PAt l l.length ts) : okPs l = true ∧ orderP l = ts ++ endA (prevL l l.length) ∧ orderN l = 0 := by
  have h1 : okPs l = true := List.all_eq_true.2 fun p hp => by
    obtain ⟨j, hj⟩ := List.mem_iff_getElem?.1 hp
    have := h.nn j (List.getElem?_eq_some_iff.1 hj).1 p hj
    simpa using this
  have ha := h.all
  rw [List.drop_length] at ha
  have e : planP (prevL l l.length) [] = endA (prevL l l.length) := by simp [planP]
  rw [e] at ha
  exact ⟨h1, by unfold orderP; rw [if_pos h1, ← ha], by unfold orderN; rw [if_pos h1]⟩
theorem planP_len : ∀ (l : List Pt) (o : Option Nat), (planP o l).length ≤ 3 * l.length + 2
  | [], o => by cases o <;> simp [planP, endA, setA]
  | p :: l, o => by
    have ih := planP_len l (some (lnP p))
    have := gapA_len o p
    simp only [planP, List.length_append, List.length_cons]
    omega
theorem orderP_len (l : List Pt) : (orderP l).length ≤ 3 * l.length + 2 := by
  unfold orderP
  split
  · exact planP_len l none
  · simp
theorem lnP_nat {n : Nat} {p : Pt} (h : p.1 = (n : Int)) : lnP p = n / 8 := by unfold lnP; rw [h]; rfl
end Go.Proofs.Ytcmgpfahpmkeoaa

/- plan.Order. -/
namespace Go.Proofs.Ytcmgpfahpmkeoaa
set_option linter.unusedVariables false
set_option linter.unusedSimpArgs false
open Go.RowKit Go.Shelf

/-- The line that the plan under way keeps. -/
def lineI (o : Option Nat) : Int := match o with
  | some k => (k : Int)
  | none => 0
theorem prevL_succ {l : List Pt} {i : Nat} {p : Pt} (hp : l[i]? = some p) : prevL l (i + 1) = some (lnP p) := by show (l[i]?).map lnP = _; rw [hp]; rfl
theorem prevL_pos {l : List Pt} {i : Nat} (h0 : 0 < i) (hi : i ≤ l.length) : ∃ p, l[i - 1]? = some p ∧ prevL l i = some (lnP p) := by
  obtain ⟨j, rfl⟩ : ∃ j, i = j + 1 := ⟨i - 1, by omega⟩
  have hj : l[j]? = some l[j] := List.getElem?_eq_getElem (by omega)
  exact ⟨_, by simp, prevL_succ hj⟩

set_option maxRecDepth 100000 in
set_option maxHeartbeats 8000000 in
theorem order_any (va : Value) (l : List Pt) (w : World) (ha : ReadsT pE 2 w va l) (hl : l.length ≤ 1048576) (hw : ∀ p ∈ l, p.1 ≤ 9223372036854775807) :
    Calls Try.prog 7 #[va] w fun e w' => ∃ v, e = .returned (.tuple #[v, .int .i64 (orderN l : Int)]) ∧ OwnsT aE 3 w' w.heap.size 38 v (orderP l) ∧ Below w.heap.size w w' := by
  have q := Below.refl w.heap.size w
  obtain ⟨N, hN⟩ : ∃ N, l.length = N := ⟨_, rfl⟩
  have har := ha
  obtain ⟨a, cap, rfl, hc⟩ := ha.form hN
  rw [hN] at hl
  refine X.fn Try.func7 rfl (n := 50) rfl rfl ?_
  (refine CC.seq ?_; refine CC.region ?_; refine LL.val (R.assign rfl rfl) rfl rfl rfl ?_; refine LL.val (R.assign rfl rfl) rfl rfl rfl ?_; refine LL.nilS ?_; refine CC.seq ?_; refine CC.region ?_)
  refine LL.val (R.buildV rfl rfl (v := .agg #[.slice none 0 0, .int .i64 0]) (fun _ => by kernel_rfl)) rfl rfl rfl ?_
  refine LL.alloc [.slice none 0 0, .int .i64 0] rfl rfl rfl rfl rfl ?_
  intro W0 g eg r0 zg b0
  skip
  refine LL.storeN (vs := [.slice none 0 0, .int .i64 0]) rfl rfl rfl rfl r0 (Nat.le_of_ble_eq_true rfl) (by simp [Value.oneCell']) rfl rfl ?_
  intro W1 r1 g1 z1
  have b1 : Below w.heap.size w W1 := b0.grown g1 b0.size (by rintro k ⟨⟩; omega)
  have lay1 : LayAt W1 g w.heap.size 0 [] := ⟨.slice none 0 0, r1, OwnsT.none _ _ _, by simp [Value.ownBlock], by omega⟩
  clear r0 r1 b0 g1 z1 zg
  (refine LL.nilS ?_; refine CC.seq ?_; refine CC.seq ?_; refine CC.region ?_; refine LL.val (R.move rfl rfl) rfl rfl rfl ?_; refine LL.val (R.len rfl rfl rfl rfl) rfl rfl rfl ?_; refine LL.val (R.move rfl rfl) rfl rfl rfl ?_; refine LL.nilS ?_; refine CC.block ?_)
  refine CC.loop (α := Nat × List Ac) (fun s => [(0, .slice a N cap), (4, .pointer (some ⟨g, 0, none⟩)), (8, .slice a N cap), (9, .int .i64 (N : Int)), (10, .int .i64 (s.1 : Int))]) (fun s W => PAt l s.1 s.2 ∧ Below w.heap.size w W ∧ LayAt W g w.heap.size (lineI (prevL l s.1)) s.2) (fun s => N - s.1) (0, []) ⟨rfl, rfl, rfl, rfl, rfl, trivial⟩ ⟨PAt.zero l, b1, lay1⟩ ?_
  rintro ⟨i, ts⟩ W ⟨hP, q, lay⟩
  simp only at hP lay
  show CC none Try.prog _ 50 [] (sl [(0, .slice a N cap), (4, .pointer (some ⟨g, 0, none⟩)), (8, .slice a N cap), (9, .int .i64 (N : Int)), (10, .int .i64 (i : Int))]) _ W
  have hi := hP.le
  rw [hN] at hi
  have hlen := hP.len
  have hg := lay.lt
  by_cases hlt : i < N
  case neg =>
    obtain rfl : i = l.length := by omega
    obtain ⟨h1, h2, h3⟩ := hP.ok
    rw [h2, h3]
    by_cases h0 : l.length = 0
    · have e0 : prevL l l.length = none := by rw [h0]; rfl
      rw [e0] at lay ⊢
      obtain ⟨v, lay⟩ := lay
      have c0 := lay.row.cell (j := 0) rfl
      (refine CC.seq ?_; refine CC.region ?_; refine LL.val (R.ltF rfl rfl rfl (by omega)) rfl rfl rfl ?_; refine LL.nilS ?_; refine CC.seq ?_; refine CC.no rfl ?_; refine CC.exit ?_; refine EE.thenX ?_; refine EE.thenX ?_; refine EE.inX ?_; refine EE.thenN ?_; refine CC.seq ?_; refine CC.seq ?_; refine CC.region ?_; refine LL.val (R.move rfl rfl) rfl rfl rfl ?_; refine LL.val (R.len rfl rfl rfl rfl) rfl rfl rfl ?_; refine LL.val (R.gtF rfl rfl rfl (by omega)) rfl rfl rfl ?_; refine LL.nilS ?_; refine CC.no rfl ?_; refine CC.skip ?_; refine EE.thenN ?_; refine CC.seq ?_; refine CC.region ?_; refine LL.val (R.field rfl rfl (I.fld rfl)) rfl rfl rfl ?_; refine LL.val (R.field rfl rfl (I.fld rfl)) rfl rfl rfl ?_; refine LL.val (R.load rfl rfl (I.ld1 rfl (by assumption))) rfl rfl rfl ?_; refine LL.val (R.assign rfl rfl) rfl rfl rfl ?_; refine LL.val (R.assign rfl rfl) rfl rfl rfl ?_; refine LL.nilS ?_; refine CC.ret ?_)
      refine EE.ret _ rfl rfl ?_
      refine ⟨v, rfl, ?_, q⟩
      simpa [endA] using lay.own
    · obtain ⟨p, _, e0⟩ := prevL_pos (l := l) (i := l.length) (by omega) (Nat.le_refl _)
      rw [e0] at lay ⊢
      have c1 : W.cell? ⟨g, 0 + 1, none⟩ = some (.int .i64 (lnP p : Int)) := by
        obtain ⟨v, lay⟩ := lay
        exact lay.row.cell (j := 1) rfl
      (refine CC.seq ?_; refine CC.region ?_; refine LL.val (R.ltF rfl rfl rfl (by omega)) rfl rfl rfl ?_; refine LL.nilS ?_; refine CC.seq ?_; refine CC.no rfl ?_; refine CC.exit ?_; refine EE.thenX ?_; refine EE.thenX ?_; refine EE.inX ?_; refine EE.thenN ?_; refine CC.seq ?_; refine CC.seq ?_; refine CC.region ?_; refine LL.val (R.move rfl rfl) rfl rfl rfl ?_; refine LL.val (R.len rfl rfl rfl rfl) rfl rfl rfl ?_; refine LL.val (R.gtT rfl rfl rfl (by omega)) rfl rfl rfl ?_; refine LL.nilS ?_; refine CC.yes rfl ?_; refine CC.region ?_; refine LL.val (R.field rfl rfl (I.fld rfl)) rfl rfl rfl ?_; refine LL.val (R.field rfl rfl (I.fld rfl)) rfl rfl rfl ?_; refine LL.val (R.load rfl rfl (I.ld1 rfl (by assumption))) rfl rfl rfl ?_)
      obtain ⟨v0, lay⟩ := lay
      refine LL.call (R.call rfl rfl rfl) rfl rfl rfl (settle_any g _ _ _ _ ts W lay (by omega)) ?_
      rintro e W2 ⟨⟨vv, rfl⟩, ⟨v, lay2, _⟩, b2, _⟩
      refine ⟨_, rfl, ?_⟩
      have c0 := lay2.row.cell (j := 0) rfl
      (refine LL.nilS ?_; refine CC.seq ?_; refine CC.region ?_; refine LL.val (R.field rfl rfl (I.fld rfl)) rfl rfl rfl ?_; refine LL.val (R.field rfl rfl (I.fld rfl)) rfl rfl rfl ?_; refine LL.val (R.load rfl rfl (I.ld1 rfl (by assumption))) rfl rfl rfl ?_; refine LL.val (R.assign rfl rfl) rfl rfl rfl ?_; refine LL.val (R.assign rfl rfl) rfl rfl rfl ?_; refine LL.nilS ?_; refine CC.ret ?_)
      refine EE.ret _ rfl rfl ?_
      exact ⟨v, rfl, lay2.own, q.trans b2⟩
  obtain ⟨p, hp⟩ : ∃ p, l[i]? = some p := ⟨_, List.getElem?_eq_getElem (by omega)⟩
  obtain ⟨bk, off, rfl, hbl, hcs⟩ := (har.up q).get pEnc hp
  (refine CC.seq ?_; refine CC.region ?_; refine LL.val (R.ltT rfl rfl rfl (by omega)) rfl rfl rfl ?_; refine LL.nilS ?_; refine CC.seq ?_; refine CC.yes rfl ?_; refine CC.skip ?_; refine EE.thenN ?_; refine CC.seq ?_; refine CC.block ?_; refine CC.seq ?_; refine CC.region ?_; refine LL.val (R.move rfl rfl) rfl rfl rfl ?_; refine LL.val (R.index rfl rfl rfl (I.ixS rfl (by omega))) rfl rfl rfl ?_)
  refine LL.val (R.load rfl rfl (I.ldN (vs := pE p) rfl rfl hcs)) rfl rfl rfl ?_
  refine LL.alloc [.int .i64 0, .int .u64 0] rfl rfl rfl rfl rfl ?_
  intro W2 g6 eg6 r6 zg6 b6
  (refine LL.val (R.assign rfl rfl) rfl rfl rfl ?_)
  refine LL.storeN (vs := pE p) rfl rfl rfl rfl r6 (Nat.le_of_ble_eq_true rfl) (pEnc.one _) rfl rfl ?_
  intro W3 r6 gr6 z6
  have q3 : Below w.heap.size w W3 := (q.trans (b6.mono q.size)).grown gr6 (by omega) (by rintro k ⟨⟩; have := q.size; omega)
  obtain ⟨v, lay⟩ := lay
  have lay3 := lay.up (b6.grown gr6 b6.size (by rintro k ⟨⟩; omega))
  have hv6 : v.ownBlock ≠ some g6 := by
    rcases lay.own.above with h0 | ⟨b, h0, _, hb⟩
    · rw [h0]; simp
    · rw [h0]; intro e; cases e; omega
  have r6 : RowL W3 g6 56 (pE p) := r6
  clear gr6 z6 b6
  have c6 := r6.cell (j := 0) rfl
  have hpw := hw p (List.mem_of_getElem? hp)
  by_cases hneg : p.1 < 0
  · have h1 := PAt.neg hp hneg
    have e1 : orderN l = 2 := by unfold orderN; rw [h1]; rfl
    have e2 : orderP l = [] := by unfold orderP; rw [h1]; rfl
    rw [e1, e2]
    (refine LL.nilS ?_; refine CC.seq ?_; refine CC.seq ?_; refine CC.region ?_; refine LL.val (R.field rfl rfl (I.fld rfl)) rfl rfl rfl ?_; refine LL.val (R.load rfl rfl (I.ld1 rfl (by assumption))) rfl rfl rfl ?_; refine LL.val (R.ltT rfl rfl rfl (by omega)) rfl rfl rfl ?_; refine LL.nilS ?_; refine CC.yes rfl ?_; refine CC.seq ?_; refine CC.region ?_; refine LL.val (R.assign rfl rfl) rfl rfl rfl ?_; refine LL.val (R.assign rfl rfl) rfl rfl rfl ?_; refine LL.nilS ?_; refine CC.ret ?_; refine EE.thenR ?_; refine EE.inR ?_; refine EE.thenR ?_; refine EE.thenR ?_; refine EE.inR ?_; refine EE.thenR ?_)
    refine EE.ret _ rfl rfl ?_
    exact ⟨_, rfl, OwnsT.none _ _ _, q3⟩
  obtain ⟨n, hn⟩ : ∃ n : Nat, p.1 = (n : Int) := ⟨p.1.toNat, by omega⟩
  have hln := lnP_nat hn
  have hst := hP.step hp (by omega)
  have hpc : (pE p) = [.int .i64 (n : Int), .int .u64 (p.2 : Int)] := by unfold pE; rw [hn]
  rw [hn] at c6 hpw
  have hps := prevL_succ hp
  have q3d := q3.trans ((below_drew (w := W3)).mono (by have := q3.size; omega))
  have layd := lay3.up (below_drew (w := W3))
  have r6d := r6.up (below_drew (w := W3))
  have c6d : W3.drew.cell? ⟨g6, 0, none⟩ = some (.int .i64 (n : Int)) := c6
  (refine LL.nilS ?_; refine CC.seq ?_; refine CC.seq ?_; refine CC.region ?_; refine LL.val (R.field rfl rfl (I.fld rfl)) rfl rfl rfl ?_; refine LL.val (R.load rfl rfl (I.ld1 rfl (by assumption))) rfl rfl rfl ?_; refine LL.val (R.ltF rfl rfl rfl (by omega)) rfl rfl rfl ?_; refine LL.nilS ?_; refine CC.no rfl ?_; refine CC.skip ?_; refine EE.thenN ?_; refine CC.seq ?_; refine CC.seq ?_)
  refine CC.quiet (by kernel_rfl) (by kernel_rfl) ?_
  have hway : ∃ o, prevL l i = o ∧ ((i = 0 ∧ o = none) ∨ (0 < i ∧ ∃ k, o = some k ∧ k = lnP p) ∨ (0 < i ∧ ∃ k, o = some k ∧ k ≠ lnP p)) := by
    refine ⟨_, rfl, ?_⟩
    rcases Nat.eq_zero_or_pos i with h0 | h0
    · exact .inl ⟨h0, by rw [h0]; rfl⟩
    · obtain ⟨p', _, e0⟩ := prevL_pos (l := l) (i := i) h0 (by omega)
      by_cases hk : lnP p' = lnP p
      · exact .inr (.inl ⟨h0, _, e0, hk⟩)
      · exact .inr (.inr ⟨h0, _, e0, hk⟩)
  obtain ⟨o, ho, hway⟩ := hway
  rw [ho] at hst layd
  rcases hway with ⟨h0, rfl⟩ | ⟨h0, k, rfl, hk⟩ | ⟨h0, k, rfl, hk⟩
  case' inl =>
    (refine SS.val (R.move rfl rfl) rfl rfl ?_; refine SS.val (R.gtF rfl rfl rfl (by omega)) rfl rfl ?_; refine SS.val (R.move rfl rfl) rfl rfl ?_; refine SS.skip rfl rfl ?_; refine SS.skip rfl rfl ?_; refine SS.skip rfl rfl ?_; refine SS.skip rfl rfl ?_; refine SS.skip rfl rfl ?_; refine SS.skip rfl rfl ?_; refine SS.val (R.pick rfl rfl rfl) rfl rfl ?_; refine SS.nilQ ?_)
    (refine EE.thenN ?_; refine CC.no rfl ?_; refine CC.skip ?_; refine EE.thenN ?_; refine CC.seq ?_; refine CC.region ?_; refine LL.val (R.field rfl rfl (I.fld rfl)) rfl rfl rfl ?_)
    obtain ⟨W4, hW4⟩ : ∃ X, X = W3.drew := ⟨_, rfl⟩
    rw [← hW4] at layd q3d r6d ⊢
    have lay4 : ∃ v, LayW W4 g w.heap.size v (lineI none) (ts ++ gapA none p) ∧ v.ownBlock ≠ some g6 := ⟨_, by simpa [gapA] using layd, hv6⟩
  case' inr.inl =>
    have cg : W3.drew.cell? ⟨g, 0 + 1, none⟩ = some (.int .i64 (k : Int)) := by
      exact layd.row.cell (j := 1) rfl
    have hkn : k = n / 8 := by omega
    (refine SS.val (R.move rfl rfl) rfl rfl ?_; refine SS.val (R.gtT rfl rfl rfl (by omega)) rfl rfl ?_; refine SS.val (R.move rfl rfl) rfl rfl ?_; refine SS.val (R.field rfl rfl (I.fld rfl)) rfl rfl ?_; refine SS.val (R.load rfl rfl (I.ld1 rfl (by assumption))) rfl rfl ?_)
    refine SS.call (R.call rfl rfl rfl) rfl rfl (line_any n _ (by omega)) ?_
    (refine SS.val (R.field rfl rfl (I.fld rfl)) rfl rfl ?_; refine SS.val (R.load rfl rfl (I.ld1 rfl (by assumption))) rfl rfl ?_; refine SS.val (R.neF rfl rfl rfl (by omega)) rfl rfl ?_; refine SS.val (R.pick rfl rfl rfl) rfl rfl ?_; refine SS.nilQ ?_)
    (refine EE.thenN ?_; refine CC.no rfl ?_; refine CC.skip ?_; refine EE.thenN ?_; refine CC.seq ?_; refine CC.region ?_; refine LL.val (R.field rfl rfl (I.fld rfl)) rfl rfl rfl ?_)
    obtain ⟨W4, hW4⟩ : ∃ X, X = W3.drew := ⟨_, rfl⟩
    rw [← hW4] at layd q3d r6d ⊢
    have lay4 : ∃ v, LayW W4 g w.heap.size v (lineI (some k)) (ts ++ gapA (some k) p) ∧ v.ownBlock ≠ some g6 := ⟨_, by simpa [gapA, hk] using layd, hv6⟩
  case' inr.inr =>
    have cg : W3.drew.cell? ⟨g, 0 + 1, none⟩ = some (.int .i64 (k : Int)) := by
      exact layd.row.cell (j := 1) rfl
    have hkn : k ≠ n / 8 := by omega
    (refine SS.val (R.move rfl rfl) rfl rfl ?_; refine SS.val (R.gtT rfl rfl rfl (by omega)) rfl rfl ?_; refine SS.val (R.move rfl rfl) rfl rfl ?_; refine SS.val (R.field rfl rfl (I.fld rfl)) rfl rfl ?_; refine SS.val (R.load rfl rfl (I.ld1 rfl (by assumption))) rfl rfl ?_)
    refine SS.call (R.call rfl rfl rfl) rfl rfl (line_any n _ (by omega)) ?_
    (refine SS.val (R.field rfl rfl (I.fld rfl)) rfl rfl ?_; refine SS.val (R.load rfl rfl (I.ld1 rfl (by assumption))) rfl rfl ?_; refine SS.val (R.neT rfl rfl rfl (by omega)) rfl rfl ?_; refine SS.val (R.pick rfl rfl rfl) rfl rfl ?_; refine SS.nilQ ?_)
    (refine EE.thenN ?_; refine CC.yes rfl ?_; refine CC.region ?_; refine LL.val (R.field rfl rfl (I.fld rfl)) rfl rfl rfl ?_; refine LL.val (R.field rfl rfl (I.fld rfl)) rfl rfl rfl ?_; refine LL.val (R.load rfl rfl (I.ld1 rfl (by assumption))) rfl rfl rfl ?_)
    refine LL.call (R.call rfl rfl rfl) rfl rfl rfl (settle_any g _ _ _ _ ts _ layd (by omega)) ?_
    rintro e W4 ⟨⟨vv, rfl⟩, ⟨v4, lay4', hv4'⟩, b4, kp4⟩
    refine ⟨_, rfl, ?_⟩
    have hgl := layd.row.lt
    have hg6l := r6d.lt
    have y4 := b4.size
    have yd : W3.drew.heap.size = W3.heap.size := rfl
    have hv4 : v4.ownBlock ≠ some g6 := by
      rcases hv4' with e | ⟨b, e, hb⟩
      · rw [e]; exact hv6
      · rw [e]; intro e2; cases e2; omega
    replace r6d : RowL W4 g6 56 (pE p) := r6d.same (kp4 g6 hg6l (by omega) hv6)
    replace q3d := q3d.trans b4
    have lay4 : ∃ v, LayW W4 g w.heap.size v (lineI (some k)) (ts ++ gapA (some k) p) ∧ v.ownBlock ≠ some g6 := ⟨v4, by simpa [gapA, Ne.symm hk] using lay4', hv4⟩
    (refine LL.nilS ?_; refine CC.seq ?_; refine CC.region ?_; refine LL.val (R.field rfl rfl (I.fld rfl)) rfl rfl rfl ?_)
  all_goals
    obtain ⟨v4, lay4, hv4⟩ := lay4
    refine LL.val (R.load rfl rfl (I.ldN (vs := pE p) rfl rfl (r6d.cells rfl))) rfl rfl rfl ?_
    refine LL.call (R.call rfl rfl rfl) rfl rfl rfl (store_any g _ _ _ p _ _ lay4 (by have := gapA_len (prevL l i) p; rw [ho] at this; rw [List.length_append]; omega)) ?_
    rintro e W5 ⟨⟨vv5, rfl⟩, ⟨v5, lay5, hv5⟩, b5, kp5⟩
    refine ⟨_, rfl, ?_⟩
    have hgl4 := lay4.row.lt
    have hg6l4 := r6d.lt
    have y5 := b5.size
    have r65 : RowL W5 g6 56 (pE p) := r6d.same (kp5 g6 hg6l4 (by omega) hv4)
    have q5 := q3d.trans b5
    have c65 : W5.cell? ⟨g6, 0 + 0, none⟩ = some (.int .i64 (n : Int)) := by rw [← hn]; exact r65.cell (j := 0) rfl
    (repeat (first | (first | refine CC.seq ?_ | refine CC.region ?_ | refine LL.nilS ?_ | refine CC.yes rfl ?_ | refine CC.no rfl ?_ | refine CC.block ?_ | refine EE.thenN ?_ | refine LL.nil ?_ | refine CC.exit ?_ | refine CC.ret ?_ | refine CC.skip ?_ | refine EE.thenX ?_ | refine EE.thenR ?_ | refine EE.inN ?_ | refine EE.inX ?_ | refine EE.inX' rfl ?_ | refine EE.inR ?_ | refine CC.label ?_ | refine EE.thenG ?_ | refine EE.inG ?_) | (first | refine LL.val (R.move rfl rfl) rfl rfl rfl ?_ | refine LL.val (R.assign rfl rfl) rfl rfl rfl ?_ | refine LL.val (R.nil rfl rfl) rfl rfl rfl ?_ | refine LL.val (R.field rfl rfl (I.fld rfl)) rfl rfl rfl ?_ | refine LL.val (R.load rfl rfl (I.ld1 rfl (by assumption))) rfl rfl rfl ?_ | refine LL.val (R.load rfl rfl (I.ld1 rfl (RowL.cell (by assumption) rfl))) rfl rfl rfl ?_ | refine LL.val (R.index rfl rfl rfl (I.ixA1c rfl rfl (by first | omega | decide))) rfl rfl rfl ?_ | refine LL.val (R.index rfl rfl rfl (I.ixS1c rfl rfl (by omega))) rfl rfl rfl ?_ | refine LL.val (R.index rfl rfl rfl (I.ixAc rfl rfl (by first | omega | decide))) rfl rfl rfl ?_ | refine LL.val (R.index rfl rfl rfl (I.ixSc rfl rfl (by omega))) rfl rfl rfl ?_ | refine LL.val (R.index rfl rfl rfl (I.ixA1 rfl (by omega))) rfl rfl rfl ?_ | refine LL.val (R.index rfl rfl rfl (I.ixS1 rfl (by omega))) rfl rfl rfl ?_ | refine LL.val (R.index rfl rfl rfl (I.ixA rfl (by omega))) rfl rfl rfl ?_ | refine LL.val (R.index rfl rfl rfl (I.ixS rfl (by omega))) rfl rfl rfl ?_ | refine LL.val (R.ltT rfl rfl rfl (by omega)) rfl rfl rfl ?_ | refine LL.val (R.ltF rfl rfl rfl (by omega)) rfl rfl rfl ?_ | refine LL.val (R.addNc rfl rfl rfl rfl (by omega)) rfl rfl rfl ?_ | refine LL.val (R.subNc rfl rfl rfl rfl (by omega) (by omega)) rfl rfl rfl ?_ | refine LL.val (R.addN rfl rfl rfl (by omega)) rfl rfl rfl ?_ | refine LL.val (R.subN rfl rfl rfl (by omega) (by omega)) rfl rfl rfl ?_ | refine LL.val (R.subcN rfl rfl rfl rfl (by omega) (by omega)) rfl rfl rfl ?_ | refine LL.val (R.addI rfl rfl rfl (by omega)) rfl rfl rfl ?_ | refine LL.val (R.subI rfl rfl rfl (by omega)) rfl rfl rfl ?_ | refine LL.val (R.mulNc rfl rfl rfl rfl (by omega)) rfl rfl rfl ?_ | refine LL.val (R.mulcN rfl rfl rfl rfl (by omega)) rfl rfl rfl ?_ | refine LL.val (R.quoNc rfl rfl rfl rfl (by omega) (by omega)) rfl rfl rfl ?_ | refine LL.val (R.remNc rfl rfl rfl rfl (by omega)) rfl rfl rfl ?_ | refine LL.val (R.mulN rfl rfl rfl (by omega)) rfl rfl rfl ?_ | refine LL.val (R.quoN rfl rfl rfl (by omega) (by omega)) rfl rfl rfl ?_ | refine LL.val (R.remN rfl rfl rfl (by omega)) rfl rfl rfl ?_ | refine LL.val (R.leT rfl rfl rfl (by omega)) rfl rfl rfl ?_ | refine LL.val (R.leF rfl rfl rfl (by omega)) rfl rfl rfl ?_ | refine LL.val (R.gtT rfl rfl rfl (by omega)) rfl rfl rfl ?_ | refine LL.val (R.gtF rfl rfl rfl (by omega)) rfl rfl rfl ?_ | refine LL.val (R.geT rfl rfl rfl (by omega)) rfl rfl rfl ?_ | refine LL.val (R.geF rfl rfl rfl (by omega)) rfl rfl rfl ?_ | refine LL.val (R.eqT rfl rfl rfl (by omega)) rfl rfl rfl ?_ | refine LL.val (R.eqF rfl rfl rfl (by omega)) rfl rfl rfl ?_ | refine LL.val (R.neT rfl rfl rfl (by omega)) rfl rfl rfl ?_ | refine LL.val (R.neF rfl rfl rfl (by omega)) rfl rfl rfl ?_ | refine LL.val (R.eqPtr rfl rfl rfl rfl rfl) rfl rfl rfl ?_ | refine LL.val (R.nePtr rfl rfl rfl rfl rfl) rfl rfl rfl ?_ | refine LL.val (R.eqSl rfl rfl rfl rfl rfl) rfl rfl rfl ?_ | refine LL.val (R.neSl rfl rfl rfl rfl rfl) rfl rfl rfl ?_ | refine LL.val (R.eqFn rfl rfl rfl rfl) rfl rfl rfl ?_ | refine LL.val (R.eqBool rfl rfl rfl rfl rfl) rfl rfl rfl ?_ | refine LL.val (R.neBool rfl rfl rfl rfl rfl) rfl rfl rfl ?_ | refine LL.val (R.xorU rfl rfl rfl (by first | omega | decide) (by first | omega | decide)) rfl rfl rfl ?_ | refine LL.val (R.addUN rfl rfl rfl (by omega)) rfl rfl rfl ?_ | refine LL.val (R.not rfl rfl) rfl rfl rfl ?_ | refine LL.val (R.lenS rfl rfl rfl rfl) rfl rfl rfl ?_ | refine LL.val (R.len rfl rfl rfl rfl) rfl rfl rfl ?_ | refine LL.val (R.pick rfl rfl rfl) rfl rfl rfl ?_ | refine LL.val (R.extract rfl rfl rfl) rfl rfl rfl ?_ | refine LL.val (R.func rfl rfl rfl) rfl rfl rfl ?_ | refine LL.val (R.slice rfl rfl rfl rfl rfl (I.slA rfl)) rfl rfl rfl ?_ | refine LL.val (R.slice rfl rfl rfl rfl rfl (I.slAto rfl (by omega))) rfl rfl rfl ?_) | refine LL.skip rfl rfl ?_))
    refine LL.call (R.call rfl rfl rfl) rfl rfl rfl (line_any n _ (by omega)) ?_
    rintro e W6 ⟨rfl, rfl⟩
    refine ⟨_, rfl, ?_⟩
    (repeat (first | (first | refine CC.seq ?_ | refine CC.region ?_ | refine LL.nilS ?_ | refine CC.yes rfl ?_ | refine CC.no rfl ?_ | refine CC.block ?_ | refine EE.thenN ?_ | refine LL.nil ?_ | refine CC.exit ?_ | refine CC.ret ?_ | refine CC.skip ?_ | refine EE.thenX ?_ | refine EE.thenR ?_ | refine EE.inN ?_ | refine EE.inX ?_ | refine EE.inX' rfl ?_ | refine EE.inR ?_ | refine CC.label ?_ | refine EE.thenG ?_ | refine EE.inG ?_) | (first | refine LL.val (R.move rfl rfl) rfl rfl rfl ?_ | refine LL.val (R.assign rfl rfl) rfl rfl rfl ?_ | refine LL.val (R.nil rfl rfl) rfl rfl rfl ?_ | refine LL.val (R.field rfl rfl (I.fld rfl)) rfl rfl rfl ?_ | refine LL.val (R.load rfl rfl (I.ld1 rfl (by assumption))) rfl rfl rfl ?_ | refine LL.val (R.load rfl rfl (I.ld1 rfl (RowL.cell (by assumption) rfl))) rfl rfl rfl ?_ | refine LL.val (R.index rfl rfl rfl (I.ixA1c rfl rfl (by first | omega | decide))) rfl rfl rfl ?_ | refine LL.val (R.index rfl rfl rfl (I.ixS1c rfl rfl (by omega))) rfl rfl rfl ?_ | refine LL.val (R.index rfl rfl rfl (I.ixAc rfl rfl (by first | omega | decide))) rfl rfl rfl ?_ | refine LL.val (R.index rfl rfl rfl (I.ixSc rfl rfl (by omega))) rfl rfl rfl ?_ | refine LL.val (R.index rfl rfl rfl (I.ixA1 rfl (by omega))) rfl rfl rfl ?_ | refine LL.val (R.index rfl rfl rfl (I.ixS1 rfl (by omega))) rfl rfl rfl ?_ | refine LL.val (R.index rfl rfl rfl (I.ixA rfl (by omega))) rfl rfl rfl ?_ | refine LL.val (R.index rfl rfl rfl (I.ixS rfl (by omega))) rfl rfl rfl ?_ | refine LL.val (R.ltT rfl rfl rfl (by omega)) rfl rfl rfl ?_ | refine LL.val (R.ltF rfl rfl rfl (by omega)) rfl rfl rfl ?_ | refine LL.val (R.addNc rfl rfl rfl rfl (by omega)) rfl rfl rfl ?_ | refine LL.val (R.subNc rfl rfl rfl rfl (by omega) (by omega)) rfl rfl rfl ?_ | refine LL.val (R.addN rfl rfl rfl (by omega)) rfl rfl rfl ?_ | refine LL.val (R.subN rfl rfl rfl (by omega) (by omega)) rfl rfl rfl ?_ | refine LL.val (R.subcN rfl rfl rfl rfl (by omega) (by omega)) rfl rfl rfl ?_ | refine LL.val (R.addI rfl rfl rfl (by omega)) rfl rfl rfl ?_ | refine LL.val (R.subI rfl rfl rfl (by omega)) rfl rfl rfl ?_ | refine LL.val (R.mulNc rfl rfl rfl rfl (by omega)) rfl rfl rfl ?_ | refine LL.val (R.mulcN rfl rfl rfl rfl (by omega)) rfl rfl rfl ?_ | refine LL.val (R.quoNc rfl rfl rfl rfl (by omega) (by omega)) rfl rfl rfl ?_ | refine LL.val (R.remNc rfl rfl rfl rfl (by omega)) rfl rfl rfl ?_ | refine LL.val (R.mulN rfl rfl rfl (by omega)) rfl rfl rfl ?_ | refine LL.val (R.quoN rfl rfl rfl (by omega) (by omega)) rfl rfl rfl ?_ | refine LL.val (R.remN rfl rfl rfl (by omega)) rfl rfl rfl ?_ | refine LL.val (R.leT rfl rfl rfl (by omega)) rfl rfl rfl ?_ | refine LL.val (R.leF rfl rfl rfl (by omega)) rfl rfl rfl ?_ | refine LL.val (R.gtT rfl rfl rfl (by omega)) rfl rfl rfl ?_ | refine LL.val (R.gtF rfl rfl rfl (by omega)) rfl rfl rfl ?_ | refine LL.val (R.geT rfl rfl rfl (by omega)) rfl rfl rfl ?_ | refine LL.val (R.geF rfl rfl rfl (by omega)) rfl rfl rfl ?_ | refine LL.val (R.eqT rfl rfl rfl (by omega)) rfl rfl rfl ?_ | refine LL.val (R.eqF rfl rfl rfl (by omega)) rfl rfl rfl ?_ | refine LL.val (R.neT rfl rfl rfl (by omega)) rfl rfl rfl ?_ | refine LL.val (R.neF rfl rfl rfl (by omega)) rfl rfl rfl ?_ | refine LL.val (R.eqPtr rfl rfl rfl rfl rfl) rfl rfl rfl ?_ | refine LL.val (R.nePtr rfl rfl rfl rfl rfl) rfl rfl rfl ?_ | refine LL.val (R.eqSl rfl rfl rfl rfl rfl) rfl rfl rfl ?_ | refine LL.val (R.neSl rfl rfl rfl rfl rfl) rfl rfl rfl ?_ | refine LL.val (R.eqFn rfl rfl rfl rfl) rfl rfl rfl ?_ | refine LL.val (R.eqBool rfl rfl rfl rfl rfl) rfl rfl rfl ?_ | refine LL.val (R.neBool rfl rfl rfl rfl rfl) rfl rfl rfl ?_ | refine LL.val (R.xorU rfl rfl rfl (by first | omega | decide) (by first | omega | decide)) rfl rfl rfl ?_ | refine LL.val (R.addUN rfl rfl rfl (by omega)) rfl rfl rfl ?_ | refine LL.val (R.not rfl rfl) rfl rfl rfl ?_ | refine LL.val (R.lenS rfl rfl rfl rfl) rfl rfl rfl ?_ | refine LL.val (R.len rfl rfl rfl rfl) rfl rfl rfl ?_ | refine LL.val (R.pick rfl rfl rfl) rfl rfl rfl ?_ | refine LL.val (R.extract rfl rfl rfl) rfl rfl rfl ?_ | refine LL.val (R.func rfl rfl rfl) rfl rfl rfl ?_ | refine LL.val (R.slice rfl rfl rfl rfl rfl (I.slA rfl)) rfl rfl rfl ?_ | refine LL.val (R.slice rfl rfl rfl rfl rfl (I.slAto rfl (by omega))) rfl rfl rfl ?_) | refine LL.skip rfl rfl ?_))
    refine LL.store rfl rfl rfl rfl lay5.row (by exact Nat.le_of_ble_eq_true rfl) rfl rfl rfl rfl ?_
    intro W7 r7 g7 z7
    (repeat (first | (first | refine CC.seq ?_ | refine CC.region ?_ | refine LL.nilS ?_ | refine CC.yes rfl ?_ | refine CC.no rfl ?_ | refine CC.block ?_ | refine EE.thenN ?_ | refine LL.nil ?_ | refine CC.exit ?_ | refine CC.ret ?_ | refine CC.skip ?_ | refine EE.thenX ?_ | refine EE.thenR ?_ | refine EE.inN ?_ | refine EE.inX ?_ | refine EE.inX' rfl ?_ | refine EE.inR ?_ | refine CC.label ?_ | refine EE.thenG ?_ | refine EE.inG ?_) | (first | refine LL.val (R.move rfl rfl) rfl rfl rfl ?_ | refine LL.val (R.assign rfl rfl) rfl rfl rfl ?_ | refine LL.val (R.nil rfl rfl) rfl rfl rfl ?_ | refine LL.val (R.field rfl rfl (I.fld rfl)) rfl rfl rfl ?_ | refine LL.val (R.load rfl rfl (I.ld1 rfl (by assumption))) rfl rfl rfl ?_ | refine LL.val (R.load rfl rfl (I.ld1 rfl (RowL.cell (by assumption) rfl))) rfl rfl rfl ?_ | refine LL.val (R.index rfl rfl rfl (I.ixA1c rfl rfl (by first | omega | decide))) rfl rfl rfl ?_ | refine LL.val (R.index rfl rfl rfl (I.ixS1c rfl rfl (by omega))) rfl rfl rfl ?_ | refine LL.val (R.index rfl rfl rfl (I.ixAc rfl rfl (by first | omega | decide))) rfl rfl rfl ?_ | refine LL.val (R.index rfl rfl rfl (I.ixSc rfl rfl (by omega))) rfl rfl rfl ?_ | refine LL.val (R.index rfl rfl rfl (I.ixA1 rfl (by omega))) rfl rfl rfl ?_ | refine LL.val (R.index rfl rfl rfl (I.ixS1 rfl (by omega))) rfl rfl rfl ?_ | refine LL.val (R.index rfl rfl rfl (I.ixA rfl (by omega))) rfl rfl rfl ?_ | refine LL.val (R.index rfl rfl rfl (I.ixS rfl (by omega))) rfl rfl rfl ?_ | refine LL.val (R.ltT rfl rfl rfl (by omega)) rfl rfl rfl ?_ | refine LL.val (R.ltF rfl rfl rfl (by omega)) rfl rfl rfl ?_ | refine LL.val (R.addNc rfl rfl rfl rfl (by omega)) rfl rfl rfl ?_ | refine LL.val (R.subNc rfl rfl rfl rfl (by omega) (by omega)) rfl rfl rfl ?_ | refine LL.val (R.addN rfl rfl rfl (by omega)) rfl rfl rfl ?_ | refine LL.val (R.subN rfl rfl rfl (by omega) (by omega)) rfl rfl rfl ?_ | refine LL.val (R.subcN rfl rfl rfl rfl (by omega) (by omega)) rfl rfl rfl ?_ | refine LL.val (R.addI rfl rfl rfl (by omega)) rfl rfl rfl ?_ | refine LL.val (R.subI rfl rfl rfl (by omega)) rfl rfl rfl ?_ | refine LL.val (R.mulNc rfl rfl rfl rfl (by omega)) rfl rfl rfl ?_ | refine LL.val (R.mulcN rfl rfl rfl rfl (by omega)) rfl rfl rfl ?_ | refine LL.val (R.quoNc rfl rfl rfl rfl (by omega) (by omega)) rfl rfl rfl ?_ | refine LL.val (R.remNc rfl rfl rfl rfl (by omega)) rfl rfl rfl ?_ | refine LL.val (R.mulN rfl rfl rfl (by omega)) rfl rfl rfl ?_ | refine LL.val (R.quoN rfl rfl rfl (by omega) (by omega)) rfl rfl rfl ?_ | refine LL.val (R.remN rfl rfl rfl (by omega)) rfl rfl rfl ?_ | refine LL.val (R.leT rfl rfl rfl (by omega)) rfl rfl rfl ?_ | refine LL.val (R.leF rfl rfl rfl (by omega)) rfl rfl rfl ?_ | refine LL.val (R.gtT rfl rfl rfl (by omega)) rfl rfl rfl ?_ | refine LL.val (R.gtF rfl rfl rfl (by omega)) rfl rfl rfl ?_ | refine LL.val (R.geT rfl rfl rfl (by omega)) rfl rfl rfl ?_ | refine LL.val (R.geF rfl rfl rfl (by omega)) rfl rfl rfl ?_ | refine LL.val (R.eqT rfl rfl rfl (by omega)) rfl rfl rfl ?_ | refine LL.val (R.eqF rfl rfl rfl (by omega)) rfl rfl rfl ?_ | refine LL.val (R.neT rfl rfl rfl (by omega)) rfl rfl rfl ?_ | refine LL.val (R.neF rfl rfl rfl (by omega)) rfl rfl rfl ?_ | refine LL.val (R.eqPtr rfl rfl rfl rfl rfl) rfl rfl rfl ?_ | refine LL.val (R.nePtr rfl rfl rfl rfl rfl) rfl rfl rfl ?_ | refine LL.val (R.eqSl rfl rfl rfl rfl rfl) rfl rfl rfl ?_ | refine LL.val (R.neSl rfl rfl rfl rfl rfl) rfl rfl rfl ?_ | refine LL.val (R.eqFn rfl rfl rfl rfl) rfl rfl rfl ?_ | refine LL.val (R.eqBool rfl rfl rfl rfl rfl) rfl rfl rfl ?_ | refine LL.val (R.neBool rfl rfl rfl rfl rfl) rfl rfl rfl ?_ | refine LL.val (R.xorU rfl rfl rfl (by first | omega | decide) (by first | omega | decide)) rfl rfl rfl ?_ | refine LL.val (R.addUN rfl rfl rfl (by omega)) rfl rfl rfl ?_ | refine LL.val (R.not rfl rfl) rfl rfl rfl ?_ | refine LL.val (R.lenS rfl rfl rfl rfl) rfl rfl rfl ?_ | refine LL.val (R.len rfl rfl rfl rfl) rfl rfl rfl ?_ | refine LL.val (R.pick rfl rfl rfl) rfl rfl rfl ?_ | refine LL.val (R.extract rfl rfl rfl) rfl rfl rfl ?_ | refine LL.val (R.func rfl rfl rfl) rfl rfl rfl ?_ | refine LL.val (R.slice rfl rfl rfl rfl rfl (I.slA rfl)) rfl rfl rfl ?_ | refine LL.val (R.slice rfl rfl rfl rfl rfl (I.slAto rfl (by omega))) rfl rfl rfl ?_) | refine LL.skip rfl rfl ?_))
    refine EE.round (i + 1, ts ++ gapA _ p ++ [stA p]) ⟨rfl, rfl, rfl, rfl, rfl, trivial⟩ ⟨hst, q5.grown g7 (by omega) (by rintro k ⟨⟩; omega), v5, ?_, lay5.own.grown g7 lay5.ne, lay5.ne, lay5.le⟩ (by show N - (i + 1) < N - i; omega)
    rw [hps]
    show RowL W7 g 68 [v5, .int .i64 (lnP p : Int)]
    rw [hln]
    exact r7
end Go.Proofs.Ytcmgpfahpmkeoaa

/- A scope in which the run jumps ahead to a label. Over any program. -/
namespace Go.Proofs.Ytcmgpfahpmkeoaa
set_option linter.unusedVariables false
set_option linter.unusedSimpArgs false
open Go.RowKit Go.Shelf

section
variable {P : Program} {w : World} {n : Nat} {D : List Deferred} {M : Slots} {Q : Exit → Act → World → Prop}
theorem CC.fwd {α : Type} {l : Nat} {c rest : Code} (Dx : α → List Deferred) (L : α → List (Nat × Value)) (I : α → World → Prop) (hf : findLabel c l = some rest)
    (first : CC none P (Exit.jump l (fun a' w' => ∃ x, Fr n (Dx x) (sl (L x)) a' ∧ I x w') Q) n D M c w)
    (pass : ∀ x w, I x w → CC none P (Exit.jump l (fun _ _ => False) Q) n (Dx x) (sl (L x)) rest w) : CC none P Q n D M (.scope c) w := CC.mk fun a F => by
  refine (wpIn_wide (n := 3)).2 (wp_scope_jumps l (fun a' w' => ∃ x, Fr n (Dx x) (sl (L x)) a' ∧ I x w') (fun _ _ => 0) hf ((wpIn_wide (n := 3)).1 (first.h a F)) ?_)
  rintro a w ⟨x, hF, hI⟩
  refine (wpIn_wide (n := 3)).1 (Code.wpIn_mono ?_ ((pass x w hI).h a hF))
  intro e a' w' hq
  cases e <;> try exact hq
  exact hq.2.elim
theorem EE.jumpTo {α : Type} {l : Nat} {Dx : α → List Deferred} {L : α → List (Nat × Value)} {I : α → World → Prop} (x : α) (hD : D = Dx x) (hL : Fits M (L x)) (hI : I x w) : EE (Exit.jump l (fun a' w' => ∃ x, Fr n (Dx x) (sl (L x)) a' ∧ I x w') Q) n D M (.goto l) w := EE.mk fun _ F => ⟨rfl, x, by subst hD; exact F.keep _ hL, hI⟩
end
end Go.Proofs.Ytcmgpfahpmkeoaa
