/- Which latches are the same; the statements' played. -/
import Derived.Test.YtcchffdnbamkoaaCopies
import Derived.ChangeKeysEq
namespace Go.Proofs.Ytcchffdnbamkoaa
set_option linter.unusedVariables false
set_option linter.unusedSimpArgs false
open Go.RowKit Go.Shelf

theorem eq_items (cl dl : List Nat) (d : Nat) (w : World) : ∀ is : List Nat, (∀ i ∈ is, i < cl.length ∧ i < dl.length) → (Op.eqItems (d + 1) 57 1 (ints .i64 cl).toArray (ints .i64 dl).toArray is).run Try.prog w = .ok (decide (∀ i ∈ is, cl[i]? = dl[i]?)) w
  | [], _ => by simp [Op.eqItems]
  | i :: is, h => by
    obtain ⟨h1, h2⟩ := h i (List.mem_cons_self ..)
    have ih := eq_items cl dl d w is fun j hj => h j (List.mem_cons_of_mem _ hj)
    have u3 := Try.underlying57
    have e1 : (ints .i64 cl).toArray[i]? = some (.int .i64 (cl[i] : Int)) := by simp [ints, h1]
    have e2 : (ints .i64 dl).toArray[i]? = some (.int .i64 (dl[i] : Int)) := by simp [ints, h2]
    have hp : Try.prog.plainKey 57 = true := by kernel_rfl
    have hq : (Op.equalIn (d + 1) 57 (.int .i64 (cl[i] : Int)) (.int .i64 (dl[i] : Int))).run Try.prog w = .ok (((cl[i] : Nat) : Int) == ((dl[i] : Nat) : Int)) w := by
      simp [Op.equalIn, run_underlying u3]
    have h3 : cl[i]? = some cl[i] := List.getElem?_eq_getElem h1
    have h4 : dl[i]? = some dl[i] := List.getElem?_eq_getElem h2
    simp only [Op.eqItems, Sem.run_bind, Nat.mul_one, run_part_plain w hp e1, run_part_plain w hp e2, Result.andThen_ok, hq]
    by_cases he : cl[i] = dl[i]
    · have hb : (((cl[i] : Nat) : Int) == ((dl[i] : Nat) : Int)) = true := by rw [he]; simp
      rw [hb]
      simp only [Bool.not_true, Bool.false_eq_true, if_false, ih]
      congr 1
      rw [Bool.eq_iff_iff, decide_eq_true_eq, decide_eq_true_eq]
      exact ⟨fun h5 j hj => by
        rcases List.mem_cons.1 hj with rfl | hj
        · rw [h3, h4, he]
        · exact h5 j hj, fun h5 j hj => h5 j (List.mem_cons_of_mem _ hj)⟩
    · have hb : (((cl[i] : Nat) : Int) == ((dl[i] : Nat) : Int)) = false := by
        rw [beqI]
        exact decide_eq_false fun e => he e.symm
      rw [hb]
      simp only [Bool.not_false, if_true, Sem.run_pure]
      congr 1
      symm
      apply decide_eq_false
      intro h5
      have := h5 i (List.mem_cons_self ..)
      rw [h3, h4] at this
      exact he (Option.some.inj this)
theorem eq_cl (cl dl : List Nat) (h : cl.length = 8) (h' : dl.length = 8) (w : World) : (Op.equalIn 10000 58 (.agg (ints .i64 cl).toArray) (.agg (ints .i64 dl).toArray)).run Try.prog w = .ok (decide (cl = dl)) w := by
  have hu : Try.prog.underlying 58 = some (.array 8 57) := by kernel_rfl
  obtain ⟨i, hi⟩ : ∃ i, Try.prog.info? 57 = some i := Option.isSome_iff_exists.1 (by kernel_rfl)
  have hc : Try.prog.cellsOf 57 = 1 := by kernel_rfl
  rw [show (10000 : Nat) = 9998 + 1 + 1 from rfl, run_equalIn_array w (9998 + 1) _ _ hu hi, hc, eq_items cl dl 9998 w (List.range 8) (by intro i hi; have := List.mem_range.1 hi; omega)]
  congr 1
  rw [Bool.eq_iff_iff, decide_eq_true_eq, decide_eq_true_eq]
  constructor
  · intro h5
    apply List.ext_getElem?
    intro i
    by_cases hi : i < 8
    · exact h5 i (List.mem_range.2 hi)
    · rw [List.getElem?_eq_none (by omega), List.getElem?_eq_none (by omega)]
  · rintro rfl i _
    rfl
theorem R.eqCl {n : Nat} {D : List Deferred} {M : Slots} {w : World} {o : Oper} {x y : Operand} {u : TypeId} {cl dl : List Nat} (ho : o.op = .binOp .eql 58 x y u) (hx : evM M x = some (.agg (ints .i64 cl).toArray)) (hy : evM M y = some (.agg (ints .i64 dl).toArray)) (h : cl.length = 8) (h' : dl.length = 8) : Runs Try.prog n D M o w (.value (.bool (decide (cl = dl)))) w := R.bin ho hx hy (by
  simp only [Sem.run_bind, run_eqGuard_agg w _ _ _ _ _ _ (show Try.prog.eqGuardType Try.prog.depth 58 = false by kernel_rfl), Result.andThen_ok, run_eql_struct, eq_cl cl dl h h'])

theorem lsame_nil (w : World) : Calls Try.prog 15 #[.pointer none, .pointer none] w fun e w' => e = .returned (.bool true) ∧ w = w' := by
  refine X.fn Try.func15 rfl (n := 50) rfl rfl ?_
  (refine CC.seq ?_; refine CC.region ?_; refine LL.val (R.assign rfl rfl) rfl rfl rfl ?_; refine LL.nilS ?_; refine CC.seq ?_; refine CC.seq ?_; refine CC.region ?_; refine LL.val (R.move rfl rfl) rfl rfl rfl ?_)
  refine LL.call (R.call rfl rfl rfl) rfl rfl rfl (lnone_nil _) ?_
  rintro e w1 ⟨rfl, rfl⟩
  refine ⟨_, rfl, ?_⟩
  (refine LL.val (R.move rfl rfl) rfl rfl rfl ?_; refine LL.skip rfl rfl ?_; refine LL.skip rfl rfl ?_; refine LL.val (R.pick rfl rfl rfl) rfl rfl rfl ?_; refine LL.nilS ?_; refine CC.yes rfl ?_; refine CC.seq ?_; refine CC.region ?_; refine LL.val (R.move rfl rfl) rfl rfl rfl ?_)
  refine LL.call (R.call rfl rfl rfl) rfl rfl rfl (lnone_nil _) ?_
  rintro e w1 ⟨rfl, rfl⟩
  refine ⟨_, rfl, ?_⟩
  (refine LL.val (R.move rfl rfl) rfl rfl rfl ?_; refine LL.val (R.move rfl rfl) rfl rfl rfl ?_)
  refine LL.call (R.call rfl rfl rfl) rfl rfl rfl (lnone_nil _) ?_
  rintro e w1 ⟨rfl, rfl⟩
  refine ⟨_, rfl, ?_⟩
  (refine LL.val (R.pick rfl rfl rfl) rfl rfl rfl ?_; refine LL.val (R.assign rfl rfl) rfl rfl rfl ?_; refine LL.nilS ?_; refine CC.ret ?_; refine EE.thenR ?_)
  refine EE.ret _ rfl rfl ?_
  exact ⟨rfl, rfl⟩
theorem lsame_none {K : Nat → Prop} {g : Nat} {vh vw : Value} {S : LS} (w : World) (h : LatchAt w K g vh vw (clP S) S.1 S.2) : Calls Try.prog 15 #[.pointer (some ⟨g, 0, none⟩), .pointer none] w fun e w' => e = .returned (.bool false) ∧ w = w' := by
  refine X.fn Try.func15 rfl (n := 50) rfl rfl ?_
  (refine CC.seq ?_; refine CC.region ?_; refine LL.val (R.assign rfl rfl) rfl rfl rfl ?_; refine LL.nilS ?_; refine CC.seq ?_; refine CC.seq ?_; refine CC.region ?_; refine LL.val (R.move rfl rfl) rfl rfl rfl ?_)
  refine LL.call (R.call rfl rfl rfl) rfl rfl rfl (lnone_made g _ _ _ _ h.len h.row) ?_
  rintro e w1 ⟨rfl, rfl⟩
  refine ⟨_, rfl, ?_⟩
  (refine LL.val (R.move rfl rfl) rfl rfl rfl ?_; refine LL.val (R.move rfl rfl) rfl rfl rfl ?_)
  refine LL.call (R.call rfl rfl rfl) rfl rfl rfl (lnone_nil _) ?_
  rintro e w1 ⟨rfl, rfl⟩
  refine ⟨_, rfl, ?_⟩
  (refine LL.val (R.pick rfl rfl rfl) rfl rfl rfl ?_; refine LL.nilS ?_; refine CC.yes rfl ?_; refine CC.seq ?_; refine CC.region ?_; refine LL.val (R.move rfl rfl) rfl rfl rfl ?_)
  refine LL.call (R.call rfl rfl rfl) rfl rfl rfl (lnone_made g _ _ _ _ h.len h.row) ?_
  rintro e w1 ⟨rfl, rfl⟩
  refine ⟨_, rfl, ?_⟩
  (refine LL.val (R.move rfl rfl) rfl rfl rfl ?_; refine LL.skip rfl rfl ?_; refine LL.skip rfl rfl ?_; refine LL.val (R.pick rfl rfl rfl) rfl rfl rfl ?_; refine LL.val (R.assign rfl rfl) rfl rfl rfl ?_; refine LL.nilS ?_; refine CC.ret ?_; refine EE.thenR ?_)
  refine EE.ret _ rfl rfl ?_
  exact ⟨rfl, rfl⟩

theorem laL_part {vh vw : Value} {cl : List Nat} (h : cl.length = 8) : ((laL vh vw cl).drop 2).take (ints .i64 cl).length = ints .i64 cl := by
  unfold laL
  rw [List.append_assoc]
  show List.take _ (ints .i64 cl ++ _) = _
  rw [List.take_left]

set_option maxRecDepth 100000 in
set_option maxHeartbeats 4000000 in
theorem lsame_any {K K' : Nat → Prop} {g g' : Nat} {vh vw vh' vw' : Value} {S S' : LS} (w : World) (h : LatchAt w K g vh vw (clP S) S.1 S.2) (hS : Good S) (h' : LatchAt w K' g' vh' vw' (clP S') S'.1 S'.2) (hS' : Good S') :
    Calls Try.prog 15 #[.pointer (some ⟨g, 0, none⟩), .pointer (some ⟨g', 0, none⟩)] w fun e w' => e = .returned (.bool (decide (S = S'))) ∧ Below w.heap.size w w' := by
  have hl8 := hS.len
  have hl8' := hS'.len
  have hgl := h.row.lt
  have hgl' := h'.row.lt
  have hil : (ints .i64 (clP S)).length = 8 := by simp [ints, clP_len]
  have hil' : (ints .i64 (clP S')).length = 8 := by simp [ints, clP_len]
  have hz1 : szB Try.prog 58 = some (ints .i64 (clP S)).length := by rw [hil]; rfl
  have hz2 : szB Try.prog 58 = some (ints .i64 (clP S')).length := by rw [hil']; rfl
  refine X.fn Try.func15 rfl (n := 50) rfl rfl ?_
  (refine CC.seq ?_; refine CC.region ?_; refine LL.val (R.assign rfl rfl) rfl rfl rfl ?_; refine LL.nilS ?_; refine CC.seq ?_; refine CC.seq ?_; refine CC.region ?_; refine LL.val (R.move rfl rfl) rfl rfl rfl ?_)
  refine LL.call (R.call rfl rfl rfl) rfl rfl rfl (lnone_made g _ _ _ _ h.len h.row) ?_
  rintro e w1 ⟨rfl, rfl⟩
  refine ⟨_, rfl, ?_⟩
  (refine LL.val (R.move rfl rfl) rfl rfl rfl ?_; refine LL.val (R.move rfl rfl) rfl rfl rfl ?_)
  refine LL.call (R.call rfl rfl rfl) rfl rfl rfl (lnone_made g' _ _ _ _ h'.len h'.row) ?_
  rintro e w1 ⟨rfl, rfl⟩
  refine ⟨_, rfl, ?_⟩
  (refine LL.val (R.pick rfl rfl rfl) rfl rfl rfl ?_; refine LL.nilS ?_; refine CC.no rfl ?_; refine CC.skip ?_; refine EE.thenN ?_; refine CC.seq ?_)
  have ok0 : Below w.heap.size w w.drew := below_drew
  have c0 : ∀ w', Below w.heap.size w w' → w'.cell? ⟨g, 0, none⟩ = some vh := fun w' hw' => (h.row.below hw' hgl).cell rfl
  have c1 : ∀ w', Below w.heap.size w w' → w'.cell? ⟨g, 1, none⟩ = some vw := fun w' hw' => (h.row.below hw' hgl).cell rfl
  have c2 : ∀ w', Below w.heap.size w w' → Cells w' ⟨g, 2, none⟩ (ints .i64 (clP S)) := fun w' hw' => (h.row.below hw' hgl).cells (laL_part h.len)
  have d0 : ∀ w', Below w.heap.size w w' → w'.cell? ⟨g', 0, none⟩ = some vh' := fun w' hw' => (h'.row.below hw' hgl').cell rfl
  have d1 : ∀ w', Below w.heap.size w w' → w'.cell? ⟨g', 1, none⟩ = some vw' := fun w' hw' => (h'.row.below hw' hgl').cell rfl
  have d2 : ∀ w', Below w.heap.size w w' → Cells w' ⟨g', 2, none⟩ (ints .i64 (clP S')) := fun w' hw' => (h'.row.below hw' hgl').cells (laL_part h'.len)
  refine CC.free (Below w.heap.size w) (by kernel_rfl) rfl ?_
  (refine AA.pure 0 rfl (by assumption) (by kernel_rfl) (fun w' hw' => R.move rfl rfl) rfl rfl ?_)
  (refine AA.pure 1 rfl (by assumption) (by kernel_rfl) (fun w' hw' => R.nil rfl rfl) rfl rfl ?_)
  (refine AA.pure 2 rfl (by assumption) (by kernel_rfl) (fun w' hw' => R.field rfl rfl (I.fld rfl)) rfl rfl ?_)
  refine AA.pure 3 rfl (by assumption) (by kernel_rfl) (fun w' hw' => R.load rfl rfl (I.ldN (vs := ints .i64 (clP S)) rfl hz1 (c2 w' hw'))) rfl rfl ?_
  (refine AA.pure 4 rfl (by assumption) (by kernel_rfl) (fun w' hw' => R.move rfl rfl) rfl rfl ?_)
  (refine AA.pure 5 rfl (by assumption) (by kernel_rfl) (fun w' hw' => R.nil rfl rfl) rfl rfl ?_)
  (refine AA.pure 6 rfl (by assumption) (by kernel_rfl) (fun w' hw' => R.field rfl rfl (I.fld rfl)) rfl rfl ?_)
  refine AA.pure 7 rfl (by assumption) (by kernel_rfl) (fun w' hw' => R.load rfl rfl (I.ldN (vs := ints .i64 (clP S')) rfl hz2 (d2 w' hw'))) rfl rfl ?_
  refine AA.pure 8 rfl (by assumption) (by kernel_rfl) (fun w' hw' => R.eqCl rfl rfl rfl (clP_len S) (clP_len S')) rfl rfl ?_
  (refine AA.pure 9 rfl (by assumption) (by kernel_rfl) (fun w' hw' => R.move rfl rfl) rfl rfl ?_)
  by_cases hc : clP S = clP S'
  · rw [decide_eq_true hc]
    (refine AA.pure 10 rfl (by assumption) (by kernel_rfl) (fun w' hw' => R.move rfl rfl) rfl rfl ?_)
    (refine AA.pure 11 rfl (by assumption) (by kernel_rfl) (fun w' hw' => R.nil rfl rfl) rfl rfl ?_)
    (refine AA.pure 12 rfl (by assumption) (by kernel_rfl) (fun w' hw' => R.field rfl rfl (I.fld rfl)) rfl rfl ?_)
    (refine AA.pure 13 rfl (by assumption) (by kernel_rfl) (fun w' hw' => R.field rfl rfl (I.fld rfl)) rfl rfl ?_)
    refine AA.pure 14 rfl (by assumption) (by kernel_rfl) (fun w' hw' => R.load rfl rfl (I.ld1 rfl (c0 w' hw'))) rfl rfl ?_
    (refine AA.pure 15 rfl (by assumption) (by kernel_rfl) (fun w' hw' => R.move rfl rfl) rfl rfl ?_)
    (refine AA.pure 16 rfl (by assumption) (by kernel_rfl) (fun w' hw' => R.nil rfl rfl) rfl rfl ?_)
    (refine AA.pure 17 rfl (by assumption) (by kernel_rfl) (fun w' hw' => R.field rfl rfl (I.fld rfl)) rfl rfl ?_)
    (refine AA.pure 18 rfl (by assumption) (by kernel_rfl) (fun w' hw' => R.field rfl rfl (I.fld rfl)) rfl rfl ?_)
    refine AA.pure 19 rfl (by assumption) (by kernel_rfl) (fun w' hw' => R.load rfl rfl (I.ld1 rfl (d0 w' hw'))) rfl rfl ?_
    refine AA.one 20 (by kernel_rfl) ?_
    refine SR.call rfl (R.call rfl rfl rfl) rfl rfl (equal_any vh vh' S.1 S'.1 w.drew ((h.held.reads tEnc).below ok0) ((h'.held.reads tEnc).below ok0) (by omega) (by omega)) ?_
    rintro e w3 ⟨rfl, b3⟩
    have q3 : Below w.heap.size w w3 := ok0.trans (b3.mono (Nat.le_refl _))
    refine ⟨_, rfl, q3, ?_⟩
    by_cases hh : S.1 = S'.1
    · rw [decide_eq_true hh]
      (refine AA.pure 21 rfl (by assumption) (by kernel_rfl) (fun w' hw' => R.pick rfl rfl rfl) rfl rfl ?_)
      (refine AA.pure 22 rfl (by assumption) (by kernel_rfl) (fun w' hw' => R.move rfl rfl) rfl rfl ?_)
      (refine AA.pure 23 rfl (by assumption) (by kernel_rfl) (fun w' hw' => R.move rfl rfl) rfl rfl ?_)
      (refine AA.pure 24 rfl (by assumption) (by kernel_rfl) (fun w' hw' => R.nil rfl rfl) rfl rfl ?_)
      (refine AA.pure 25 rfl (by assumption) (by kernel_rfl) (fun w' hw' => R.field rfl rfl (I.fld rfl)) rfl rfl ?_)
      refine AA.pure 26 rfl (by assumption) (by kernel_rfl) (fun w' hw' => R.load rfl rfl (I.ld1 rfl (c1 w' hw'))) rfl rfl ?_
      (refine AA.pure 27 rfl (by assumption) (by kernel_rfl) (fun w' hw' => R.move rfl rfl) rfl rfl ?_)
      (refine AA.pure 28 rfl (by assumption) (by kernel_rfl) (fun w' hw' => R.nil rfl rfl) rfl rfl ?_)
      (refine AA.pure 29 rfl (by assumption) (by kernel_rfl) (fun w' hw' => R.field rfl rfl (I.fld rfl)) rfl rfl ?_)
      refine AA.pure 30 rfl (by assumption) (by kernel_rfl) (fun w' hw' => R.load rfl rfl (I.ld1 rfl (d1 w' hw'))) rfl rfl ?_
      refine AA.one 31 (by kernel_rfl) ?_
      refine SR.call rfl (R.call rfl rfl rfl) rfl rfl (equal_any vw vw' S.2 S'.2 w3 ((h.waits.reads tEnc).below q3) ((h'.waits.reads tEnc).below q3) (by omega) (by omega)) ?_
      rintro e w4 ⟨rfl, b4⟩
      have q4 : Below w.heap.size w w4 := q3.trans (b4.mono q3.size)
      refine ⟨_, rfl, q4, ?_⟩
      have hd : decide (S = S') = decide (S.2 = S'.2) := by
        rw [Bool.eq_iff_iff, decide_eq_true_eq, decide_eq_true_eq]
        exact ⟨fun e => by rw [e], fun e => Prod.ext hh e⟩
      rw [hd]
      by_cases hw : S.2 = S'.2
      · rw [decide_eq_true hw]
        (refine AA.pure 32 rfl (by assumption) (by kernel_rfl) (fun w' hw' => R.pick rfl rfl rfl) rfl rfl ?_)
        (refine AA.pure 33 rfl (by assumption) (by kernel_rfl) (fun w' hw' => R.assign rfl rfl) rfl rfl ?_)
        refine AA.done (by kernel_rfl) ?_
        (refine EE.thenN ?_; refine CC.ret ?_)
        refine EE.ret _ rfl rfl ?_
        exact ⟨rfl, q4⟩
      · rw [decide_eq_false hw]
        (refine AA.pure 32 rfl (by assumption) (by kernel_rfl) (fun w' hw' => R.pick rfl rfl rfl) rfl rfl ?_)
        (refine AA.pure 33 rfl (by assumption) (by kernel_rfl) (fun w' hw' => R.assign rfl rfl) rfl rfl ?_)
        refine AA.done (by kernel_rfl) ?_
        (refine EE.thenN ?_; refine CC.ret ?_)
        refine EE.ret _ rfl rfl ?_
        exact ⟨rfl, q4⟩
    · rw [decide_eq_false hh]
      (refine AA.pure 21 rfl (by assumption) (by kernel_rfl) (fun w' hw' => R.pick rfl rfl rfl) rfl rfl ?_)
      (refine AA.pure 22 rfl (by assumption) (by kernel_rfl) (fun w' hw' => R.move rfl rfl) rfl rfl ?_)
      refine AA.off 23 rfl (by assumption) (by kernel_rfl) rfl rfl ?_
      refine AA.off 24 rfl (by assumption) (by kernel_rfl) rfl rfl ?_
      refine AA.off 25 rfl (by assumption) (by kernel_rfl) rfl rfl ?_
      refine AA.off 26 rfl (by assumption) (by kernel_rfl) rfl rfl ?_
      refine AA.off 27 rfl (by assumption) (by kernel_rfl) rfl rfl ?_
      refine AA.off 28 rfl (by assumption) (by kernel_rfl) rfl rfl ?_
      refine AA.off 29 rfl (by assumption) (by kernel_rfl) rfl rfl ?_
      refine AA.off 30 rfl (by assumption) (by kernel_rfl) rfl rfl ?_
      refine AA.off 31 rfl (by assumption) (by kernel_rfl) rfl rfl ?_
      (refine AA.pure 32 rfl (by assumption) (by kernel_rfl) (fun w' hw' => R.pick rfl rfl rfl) rfl rfl ?_)
      (refine AA.pure 33 rfl (by assumption) (by kernel_rfl) (fun w' hw' => R.assign rfl rfl) rfl rfl ?_)
      refine AA.done (by kernel_rfl) ?_
      (refine EE.thenN ?_; refine CC.ret ?_)
      refine EE.ret _ rfl rfl ?_
      exact ⟨by rw [decide_eq_false (fun e : S = S' => hh (by rw [e]))]; rfl, q3⟩
  · rw [decide_eq_false hc]
    refine AA.off 10 rfl (by assumption) (by kernel_rfl) rfl rfl ?_
    refine AA.off 11 rfl (by assumption) (by kernel_rfl) rfl rfl ?_
    refine AA.off 12 rfl (by assumption) (by kernel_rfl) rfl rfl ?_
    refine AA.off 13 rfl (by assumption) (by kernel_rfl) rfl rfl ?_
    refine AA.off 14 rfl (by assumption) (by kernel_rfl) rfl rfl ?_
    refine AA.off 15 rfl (by assumption) (by kernel_rfl) rfl rfl ?_
    refine AA.off 16 rfl (by assumption) (by kernel_rfl) rfl rfl ?_
    refine AA.off 17 rfl (by assumption) (by kernel_rfl) rfl rfl ?_
    refine AA.off 18 rfl (by assumption) (by kernel_rfl) rfl rfl ?_
    refine AA.off 19 rfl (by assumption) (by kernel_rfl) rfl rfl ?_
    refine AA.off 20 rfl (by assumption) (by kernel_rfl) rfl rfl ?_
    (refine AA.pure 21 rfl (by assumption) (by kernel_rfl) (fun w' hw' => R.pick rfl rfl rfl) rfl rfl ?_)
    (refine AA.pure 22 rfl (by assumption) (by kernel_rfl) (fun w' hw' => R.move rfl rfl) rfl rfl ?_)
    refine AA.off 23 rfl (by assumption) (by kernel_rfl) rfl rfl ?_
    refine AA.off 24 rfl (by assumption) (by kernel_rfl) rfl rfl ?_
    refine AA.off 25 rfl (by assumption) (by kernel_rfl) rfl rfl ?_
    refine AA.off 26 rfl (by assumption) (by kernel_rfl) rfl rfl ?_
    refine AA.off 27 rfl (by assumption) (by kernel_rfl) rfl rfl ?_
    refine AA.off 28 rfl (by assumption) (by kernel_rfl) rfl rfl ?_
    refine AA.off 29 rfl (by assumption) (by kernel_rfl) rfl rfl ?_
    refine AA.off 30 rfl (by assumption) (by kernel_rfl) rfl rfl ?_
    refine AA.off 31 rfl (by assumption) (by kernel_rfl) rfl rfl ?_
    (refine AA.pure 32 rfl (by assumption) (by kernel_rfl) (fun w' hw' => R.pick rfl rfl rfl) rfl rfl ?_)
    (refine AA.pure 33 rfl (by assumption) (by kernel_rfl) (fun w' hw' => R.assign rfl rfl) rfl rfl ?_)
    refine AA.done (by kernel_rfl) ?_
    (refine EE.thenN ?_; refine CC.ret ?_)
    refine EE.ret _ rfl rfl ?_
    exact ⟨by rw [decide_eq_false (fun e : S = S' => hc (by rw [e]))]; rfl, ok0⟩
end Go.Proofs.Ytcchffdnbamkoaa
