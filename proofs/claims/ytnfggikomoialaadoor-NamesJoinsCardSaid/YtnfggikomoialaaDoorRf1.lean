/- The document's names: dots, plain, Check, part, Parts. -/
import Derived.Test.YtnfggikomoialaaDoorNm6
namespace Go.Proofs.YtnfggikomoialaaDoor
set_option linter.unusedVariables false
set_option linter.unusedSimpArgs false
open Go.RowKit Go.Shelf

theorem rdots_any (l : Bs) (w : World) : Calls Tryd.prog 27 #[strV l] w fun e w' => e = .returned (.bool (dotsB l)) ∧ w = w' := by
  refine X.fn Tryd.func27 rfl (n := 9) rfl rfl ?_
  (refine CC.seq ?_; refine CC.region ?_; refine LL.val (R.assign rfl rfl) rfl rfl rfl ?_; refine LL.nilS ?_; refine CC.seq ?_; refine CC.region ?_; refine LL.val (R.move rfl rfl) rfl rfl rfl ?_)
  unfold dotsB
  by_cases h1 : l = [46]
  · refine LL.val (R.eqS (c := true) rfl rfl rfl (by simp [h1])) rfl rfl rfl ?_
    (refine LL.val (R.move rfl rfl) rfl rfl rfl ?_; refine LL.skip rfl rfl ?_; refine LL.skip rfl rfl ?_; refine LL.val (R.pick rfl rfl rfl) rfl rfl rfl ?_; refine LL.val (R.assign rfl rfl) rfl rfl rfl ?_; refine LL.nilS ?_; refine CC.ret ?_)
    refine EE.ret _ rfl rfl ?_
    exact ⟨by simp [h1, resV], rfl⟩
  · refine LL.val (R.eqS (c := false) rfl rfl rfl (by simp [h1])) rfl rfl rfl ?_
    (refine LL.val (R.move rfl rfl) rfl rfl rfl ?_; refine LL.val (R.move rfl rfl) rfl rfl rfl ?_)
    refine LL.val (R.eqS (c := decide (l = [46, 46])) rfl rfl rfl rfl) rfl rfl rfl ?_
    (refine LL.val (R.pick rfl rfl rfl) rfl rfl rfl ?_; refine LL.val (R.assign rfl rfl) rfl rfl rfl ?_; refine LL.nilS ?_; refine CC.ret ?_)
    refine EE.ret _ rfl rfl ?_
    exact ⟨by simp [h1, resV], rfl⟩
theorem u8_zero (c : UInt8) : (c.toNat : Int) = 0 ↔ c = 0 := by
  rw [← UInt8.toNat_inj]
  show ((c.toNat : Int) = 0) ↔ c.toNat = 0
  omega
theorem u8_47 (c : UInt8) : (c.toNat : Int) = 47 ↔ c = 47 := by
  rw [← UInt8.toNat_inj]
  show ((c.toNat : Int) = 47) ↔ c.toNat = 47
  omega
def plainB (l : Bs) : Bool := !(decide (0 ∈ l) || decide (47 ∈ l))
set_option maxHeartbeats 2000000 in
theorem rplain_any (l : Bs) (w : World) (hl : l.length ≤ 1048576) : Calls Tryd.prog 28 #[strV l] w fun e w' => e = .returned (.bool (plainB l)) ∧ w = w' := by
  obtain ⟨N, hN⟩ : ∃ N, l.length = N := ⟨_, rfl⟩
  refine X.fn Tryd.func28 rfl (n := 20) rfl rfl ?_
  (refine CC.seq ?_; refine CC.region ?_; refine LL.val (R.assign rfl rfl) rfl rfl rfl ?_; refine LL.nilS ?_; refine CC.seq ?_; refine CC.seq ?_; refine CC.region ?_; refine LL.val (R.assign rfl rfl) rfl rfl rfl ?_; refine LL.nilS ?_; refine CC.block ?_)
  refine CC.loop (α := Nat) (fun i => [(0, strV l), (3, .int .i64 (i : Int))]) (fun i W => i ≤ N ∧ w = W ∧ ∀ c ∈ l.take i, c ≠ 0 ∧ c ≠ 47) (fun i => N - i) 0 ⟨rfl, rfl, trivial⟩ ⟨by omega, rfl, fun c hc => by simp at hc⟩ ?_
  rintro i W ⟨hi, rfl, hno⟩
  by_cases hlt : i < N
  · obtain ⟨c, hc⟩ : ∃ c, l[i]? = some c := ⟨_, List.getElem?_eq_getElem (by omega)⟩
    have hmem := List.mem_of_getElem? hc
    by_cases h0 : c = 0
    · have hz := (u8_zero c).2 h0
      (refine CC.seq ?_; refine CC.seq ?_; refine CC.region ?_; refine LL.val (R.move rfl rfl) rfl rfl rfl ?_; refine LL.val (R.move rfl rfl) rfl rfl rfl ?_; refine LL.val (R.lenS rfl rfl rfl rfl) rfl rfl rfl ?_; refine LL.val (R.ltT rfl rfl rfl (by omega)) rfl rfl rfl ?_; refine LL.nilS ?_; refine CC.yes rfl ?_; refine CC.skip ?_; refine EE.thenN ?_; refine CC.seq ?_; refine CC.block ?_; refine CC.seq ?_; refine CC.region ?_; refine LL.val (R.move rfl rfl) rfl rfl rfl ?_; refine LL.val (R.move rfl rfl) rfl rfl rfl ?_)
      refine LL.val (R.ixS rfl rfl rfl rfl hc) rfl rfl rfl ?_
      (refine LL.val (R.eqT rfl rfl rfl (by omega)) rfl rfl rfl ?_; refine LL.val (R.move rfl rfl) rfl rfl rfl ?_; refine LL.skip rfl rfl ?_; refine LL.skip rfl rfl ?_; refine LL.skip rfl rfl ?_; refine LL.skip rfl rfl ?_; refine LL.val (R.pick rfl rfl rfl) rfl rfl rfl ?_; refine LL.nilS ?_; refine CC.yes rfl ?_; refine CC.seq ?_; refine CC.region ?_; refine LL.val (R.assign rfl rfl) rfl rfl rfl ?_; refine LL.nilS ?_; refine CC.ret ?_; refine EE.inR ?_; refine EE.thenR ?_; refine EE.thenR ?_; refine EE.inR ?_; refine EE.thenR ?_)
      refine EE.ret _ rfl rfl ?_
      refine ⟨?_, rfl⟩
      have : plainB l = false := by unfold plainB; rw [h0] at hmem; simp [hmem]
      rw [this]
      rfl
    · have hz := mt (u8_zero c).1 h0
      by_cases h1 : c = 47
      · have hz1 := (u8_47 c).2 h1
        (refine CC.seq ?_; refine CC.seq ?_; refine CC.region ?_; refine LL.val (R.move rfl rfl) rfl rfl rfl ?_; refine LL.val (R.move rfl rfl) rfl rfl rfl ?_; refine LL.val (R.lenS rfl rfl rfl rfl) rfl rfl rfl ?_; refine LL.val (R.ltT rfl rfl rfl (by omega)) rfl rfl rfl ?_; refine LL.nilS ?_; refine CC.yes rfl ?_; refine CC.skip ?_; refine EE.thenN ?_; refine CC.seq ?_; refine CC.block ?_; refine CC.seq ?_; refine CC.region ?_; refine LL.val (R.move rfl rfl) rfl rfl rfl ?_; refine LL.val (R.move rfl rfl) rfl rfl rfl ?_)
        refine LL.val (R.ixS rfl rfl rfl rfl hc) rfl rfl rfl ?_
        (refine LL.val (R.eqF rfl rfl rfl (by omega)) rfl rfl rfl ?_; refine LL.val (R.move rfl rfl) rfl rfl rfl ?_; refine LL.val (R.move rfl rfl) rfl rfl rfl ?_; refine LL.val (R.move rfl rfl) rfl rfl rfl ?_)
        refine LL.val (R.ixS rfl rfl rfl rfl hc) rfl rfl rfl ?_
        (refine LL.val (R.eqT rfl rfl rfl (by omega)) rfl rfl rfl ?_; refine LL.val (R.pick rfl rfl rfl) rfl rfl rfl ?_; refine LL.nilS ?_; refine CC.yes rfl ?_; refine CC.seq ?_; refine CC.region ?_; refine LL.val (R.assign rfl rfl) rfl rfl rfl ?_; refine LL.nilS ?_; refine CC.ret ?_; refine EE.inR ?_; refine EE.thenR ?_; refine EE.thenR ?_; refine EE.inR ?_; refine EE.thenR ?_)
        refine EE.ret _ rfl rfl ?_
        refine ⟨?_, rfl⟩
        have : plainB l = false := by unfold plainB; rw [h1] at hmem; simp [hmem]
        rw [this]
        rfl
      · have hz1 := mt (u8_47 c).1 h1
        (refine CC.seq ?_; refine CC.seq ?_; refine CC.region ?_; refine LL.val (R.move rfl rfl) rfl rfl rfl ?_; refine LL.val (R.move rfl rfl) rfl rfl rfl ?_; refine LL.val (R.lenS rfl rfl rfl rfl) rfl rfl rfl ?_; refine LL.val (R.ltT rfl rfl rfl (by omega)) rfl rfl rfl ?_; refine LL.nilS ?_; refine CC.yes rfl ?_; refine CC.skip ?_; refine EE.thenN ?_; refine CC.seq ?_; refine CC.block ?_; refine CC.seq ?_; refine CC.region ?_; refine LL.val (R.move rfl rfl) rfl rfl rfl ?_; refine LL.val (R.move rfl rfl) rfl rfl rfl ?_)
        refine LL.val (R.ixS rfl rfl rfl rfl hc) rfl rfl rfl ?_
        (refine LL.val (R.eqF rfl rfl rfl (by omega)) rfl rfl rfl ?_; refine LL.val (R.move rfl rfl) rfl rfl rfl ?_; refine LL.val (R.move rfl rfl) rfl rfl rfl ?_; refine LL.val (R.move rfl rfl) rfl rfl rfl ?_)
        refine LL.val (R.ixS rfl rfl rfl rfl hc) rfl rfl rfl ?_
        (refine LL.val (R.eqF rfl rfl rfl (by omega)) rfl rfl rfl ?_; refine LL.val (R.pick rfl rfl rfl) rfl rfl rfl ?_; refine LL.nilS ?_; refine CC.no rfl ?_; refine CC.skip ?_; refine EE.inN ?_; refine EE.thenN ?_; refine CC.region ?_; refine LL.val (R.move rfl rfl) rfl rfl rfl ?_; refine LL.val (R.addNc rfl rfl rfl rfl (by omega)) rfl rfl rfl ?_; refine LL.val (R.assign rfl rfl) rfl rfl rfl ?_; refine LL.nil ?_)
        exact EE.round (i + 1) ⟨rfl, rfl, trivial⟩ ⟨by omega, rfl, fun d hd => by
          rw [List.take_add_one, hc] at hd
          rcases List.mem_append.1 hd with h | h
          · exact hno d h
          · simp at h
            rw [h]
            exact ⟨h0, h1⟩⟩ (by omega)
  · rw [List.take_of_length_le (by omega)] at hno
    (refine CC.seq ?_; refine CC.seq ?_; refine CC.region ?_; refine LL.val (R.move rfl rfl) rfl rfl rfl ?_; refine LL.val (R.move rfl rfl) rfl rfl rfl ?_; refine LL.val (R.lenS rfl rfl rfl rfl) rfl rfl rfl ?_; refine LL.val (R.ltF rfl rfl rfl (by omega)) rfl rfl rfl ?_; refine LL.nilS ?_; refine CC.no rfl ?_; refine CC.exit ?_; refine EE.thenX ?_; refine EE.thenX ?_; refine EE.inX ?_; refine EE.thenN ?_; refine CC.seq ?_; refine CC.region ?_; refine LL.val (R.assign rfl rfl) rfl rfl rfl ?_; refine LL.nilS ?_; refine CC.ret ?_)
    refine EE.ret _ rfl rfl ?_
    refine ⟨?_, rfl⟩
    have : plainB l = true := by
      unfold plainB
      have h1 : ¬ (0 : UInt8) ∈ l := fun h => (hno 0 h).1 rfl
      have h2 : ¬ (47 : UInt8) ∈ l := fun h => (hno 47 h).2 rfl
      simp [h1, h2]
    rw [this]
    rfl
set_option maxHeartbeats 2000000 in
theorem rcheck_any (l : Bs) (w : World) (hl : l.length ≤ 1048576) : Calls Tryd.prog 12 #[strV l] w fun e w' => e = .returned (.int .i64 (nameN l : Int)) ∧ w = w' := by
  refine X.fn Tryd.func12 rfl (n := 17) rfl rfl ?_
  (refine CC.seq ?_; refine CC.region ?_; refine LL.val (R.assign rfl rfl) rfl rfl rfl ?_; refine LL.nilS ?_; refine CC.seq ?_; refine CC.seq ?_; refine CC.region ?_; refine LL.val (R.move rfl rfl) rfl rfl rfl ?_)
  by_cases h1 : l = []
  · have e0 : nameN l = 140 := by subst h1; rfl
    rw [e0]
    refine LL.val (R.eqS (b := []) (c := true) rfl rfl rfl (by simp [h1])) rfl rfl rfl ?_
    (refine LL.val (R.move rfl rfl) rfl rfl rfl ?_; refine LL.skip rfl rfl ?_; refine LL.skip rfl rfl ?_; refine LL.val (R.pick rfl rfl rfl) rfl rfl rfl ?_; refine LL.val (R.move rfl rfl) rfl rfl rfl ?_; refine LL.skip rfl rfl ?_; refine LL.skip rfl rfl ?_; refine LL.skip rfl rfl ?_; refine LL.val (R.pick rfl rfl rfl) rfl rfl rfl ?_; refine LL.nilS ?_; refine CC.yes rfl ?_; refine CC.seq ?_; refine CC.region ?_; refine LL.val (R.assign rfl rfl) rfl rfl rfl ?_; refine LL.nilS ?_; refine CC.ret ?_; refine EE.thenR ?_)
    refine EE.ret _ rfl rfl ?_
    exact ⟨rfl, rfl⟩
  · refine LL.val (R.eqS (b := []) (c := false) rfl rfl rfl (by simp [h1])) rfl rfl rfl ?_
    (refine LL.val (R.move rfl rfl) rfl rfl rfl ?_; refine LL.val (R.move rfl rfl) rfl rfl rfl ?_)
    refine LL.call (R.call rfl rfl rfl) rfl rfl rfl (rdots_any l _) ?_
    rintro e W ⟨rfl, rfl⟩
    refine ⟨_, rfl, ?_⟩
    cases h2 : dotsB l with
    | true =>
      have e0 : nameN l = 140 := by unfold nameN fltB; simp [h2]
      rw [e0]
      (refine LL.val (R.pick rfl rfl rfl) rfl rfl rfl ?_; refine LL.val (R.move rfl rfl) rfl rfl rfl ?_; refine LL.skip rfl rfl ?_; refine LL.skip rfl rfl ?_; refine LL.skip rfl rfl ?_; refine LL.val (R.pick rfl rfl rfl) rfl rfl rfl ?_; refine LL.nilS ?_; refine CC.yes rfl ?_; refine CC.seq ?_; refine CC.region ?_; refine LL.val (R.assign rfl rfl) rfl rfl rfl ?_; refine LL.nilS ?_; refine CC.ret ?_; refine EE.thenR ?_)
      refine EE.ret _ rfl rfl ?_
      exact ⟨rfl, rfl⟩
    | false =>
      (refine LL.val (R.pick rfl rfl rfl) rfl rfl rfl ?_; refine LL.val (R.move rfl rfl) rfl rfl rfl ?_; refine LL.val (R.move rfl rfl) rfl rfl rfl ?_)
      refine LL.call (R.call rfl rfl rfl) rfl rfl rfl (rplain_any l _ hl) ?_
      rintro e W ⟨rfl, rfl⟩
      refine ⟨_, rfl, ?_⟩
      cases h3 : plainB l with
      | false =>
        have e0 : nameN l = 140 := by
          unfold plainB at h3
          unfold nameN fltB
          simp only [Bool.not_eq_false', Bool.or_eq_true, decide_eq_true_eq] at h3
          rcases h3 with h | h <;> simp [h1, h2, h]
        rw [e0]
        (refine LL.val (R.not rfl rfl) rfl rfl rfl ?_; refine LL.val (R.pick rfl rfl rfl) rfl rfl rfl ?_; refine LL.nilS ?_; refine CC.yes rfl ?_; refine CC.seq ?_; refine CC.region ?_; refine LL.val (R.assign rfl rfl) rfl rfl rfl ?_; refine LL.nilS ?_; refine CC.ret ?_; refine EE.thenR ?_)
        refine EE.ret _ rfl rfl ?_
        exact ⟨rfl, rfl⟩
      | true =>
        have h4 : ¬ (0 : UInt8) ∈ l ∧ ¬ (47 : UInt8) ∈ l := by
          unfold plainB at h3
          simpa using h3
        by_cases h5 : 120 < l.length
        · have e0 : nameN l = 141 := by unfold nameN fltB; simp [h1, h2, h4.1, h4.2, h5]
          rw [e0]
          (refine LL.val (R.not rfl rfl) rfl rfl rfl ?_; refine LL.val (R.pick rfl rfl rfl) rfl rfl rfl ?_; refine LL.nilS ?_; refine CC.no rfl ?_; refine CC.skip ?_; refine EE.thenN ?_; refine CC.seq ?_; refine CC.seq ?_; refine CC.region ?_; refine LL.val (R.move rfl rfl) rfl rfl rfl ?_; refine LL.val (R.lenS rfl rfl rfl rfl) rfl rfl rfl ?_; refine LL.val (R.gtT rfl rfl rfl (by omega)) rfl rfl rfl ?_; refine LL.nilS ?_; refine CC.yes rfl ?_; refine CC.seq ?_; refine CC.region ?_; refine LL.val (R.assign rfl rfl) rfl rfl rfl ?_; refine LL.nilS ?_; refine CC.ret ?_; refine EE.thenR ?_)
          refine EE.ret _ rfl rfl ?_
          exact ⟨rfl, rfl⟩
        · have e0 : nameN l = 0 := by unfold nameN fltB; simp [h1, h2, h4.1, h4.2, h5]
          rw [e0]
          (refine LL.val (R.not rfl rfl) rfl rfl rfl ?_; refine LL.val (R.pick rfl rfl rfl) rfl rfl rfl ?_; refine LL.nilS ?_; refine CC.no rfl ?_; refine CC.skip ?_; refine EE.thenN ?_; refine CC.seq ?_; refine CC.seq ?_; refine CC.region ?_; refine LL.val (R.move rfl rfl) rfl rfl rfl ?_; refine LL.val (R.lenS rfl rfl rfl rfl) rfl rfl rfl ?_; refine LL.val (R.gtF rfl rfl rfl (by omega)) rfl rfl rfl ?_; refine LL.nilS ?_; refine CC.no rfl ?_; refine CC.skip ?_; refine EE.thenN ?_; refine CC.seq ?_; refine CC.region ?_; refine LL.val (R.assign rfl rfl) rfl rfl rfl ?_; refine LL.nilS ?_; refine CC.ret ?_)
          refine EE.ret _ rfl rfl ?_
          exact ⟨rfl, rfl⟩
theorem rpart_any (l : Bs) (w : World) (hl : l.length ≤ 1048576) : Calls Tryd.prog 33 #[strV l] w fun e w' => e = .returned (.int .i64 (partN l : Int)) ∧ w = w' := by
  refine X.fn Tryd.func33 rfl (n := 7) rfl rfl ?_
  (refine CC.seq ?_; refine CC.region ?_; refine LL.val (R.assign rfl rfl) rfl rfl rfl ?_; refine LL.nilS ?_; refine CC.seq ?_; refine CC.seq ?_; refine CC.region ?_; refine LL.val (R.move rfl rfl) rfl rfl rfl ?_)
  refine LL.call (R.call rfl rfl rfl) rfl rfl rfl (rdots_any l _) ?_
  rintro e W ⟨rfl, rfl⟩
  refine ⟨_, rfl, ?_⟩
  unfold partN
  cases h2 : dotsB l with
  | true =>
    (refine LL.nilS ?_; refine CC.yes rfl ?_; refine CC.seq ?_; refine CC.region ?_; refine LL.val (R.assign rfl rfl) rfl rfl rfl ?_; refine LL.nilS ?_; refine CC.ret ?_; refine EE.thenR ?_)
    refine EE.ret _ rfl rfl ?_
    exact ⟨rfl, rfl⟩
  | false =>
    (refine LL.nilS ?_; refine CC.no rfl ?_; refine CC.skip ?_; refine EE.thenN ?_; refine CC.seq ?_; refine CC.region ?_; refine LL.val (R.move rfl rfl) rfl rfl rfl ?_)
    refine LL.call (R.call rfl rfl rfl) rfl rfl rfl (rcheck_any l _ hl) ?_
    rintro e W ⟨rfl, rfl⟩
    refine ⟨_, rfl, ?_⟩
    (refine LL.val (R.assign rfl rfl) rfl rfl rfl ?_; refine LL.nilS ?_; refine CC.ret ?_)
    refine EE.ret _ rfl rfl ?_
    exact ⟨rfl, rfl⟩

/-! A path byte by byte. -/
theorem pcs_cur : ∀ (cur r : Bs), (∀ c ∈ cur, c ≠ 47) → pcs (cur ++ 47 :: r) = cur :: pcs r
  | [], r, _ => by simp [pcs]
  | b :: cur, r, h => by
    have ih := pcs_cur cur r (fun c hc => h c (List.mem_cons_of_mem _ hc))
    have hb := h b (List.mem_cons_self ..)
    show pcs (b :: (cur ++ 47 :: r)) = _
    conv => lhs; unfold pcs
    rw [if_neg hb, ih]
theorem pcs_end : ∀ (cur : Bs), (∀ c ∈ cur, c ≠ 47) → pcs cur = [cur]
  | [], _ => rfl
  | b :: cur, h => by
    have ih := pcs_end cur (fun c hc => h c (List.mem_cons_of_mem _ hc))
    have hb := h b (List.mem_cons_self ..)
    unfold pcs
    rw [if_neg hb, ih]
def oneP (cur : Bs) : List Bs := if cur = [] then [] else [cur]
theorem oneP_filter (cur : Bs) : ([cur].filter fun p : Bs => !p.isEmpty) = oneP cur := by
  cases cur with
  | nil => rfl
  | cons _ _ => rfl
theorem partsL_cur {cur r : Bs} (h : ∀ c ∈ cur, c ≠ 47) : partsL (cur ++ 47 :: r) = oneP cur ++ partsL r := by
  unfold partsL
  rw [pcs_cur cur r h, ← oneP_filter cur, ← List.filter_append]
  rfl
theorem partsL_end {cur : Bs} (h : ∀ c ∈ cur, c ≠ 47) : partsL cur = oneP cur := by
  unfold partsL
  rw [pcs_end cur h, oneP_filter]
def wideB (ps : List Bs) : Bool := ps.any fun p => decide (120 < p.length)
theorem wideB_snoc (ps : List Bs) (p : Bs) : wideB (ps ++ [p]) = (wideB ps || decide (120 < p.length)) := by simp [wideB]
/-- What lies between two places. -/
def sub (l : Bs) (f i : Nat) : Bs := (l.drop f).take (i - f)
theorem sub_len {l : Bs} {f i : Nat} (h1 : f ≤ i) (h2 : i ≤ l.length) : (sub l f i).length = i - f := by unfold sub; rw [List.length_take, List.length_drop]; omega
theorem sub_mem {l : Bs} {f i : Nat} {c : UInt8} (h : c ∈ sub l f i) : ∃ j, f ≤ j ∧ j < i ∧ l[j]? = some c := by
  unfold sub at h
  obtain ⟨k, hk⟩ := List.mem_iff_getElem?.1 h
  have hlt : k < i - f := by
    have := (List.getElem?_eq_some_iff.1 hk).1
    rw [List.length_take] at this
    omega
  rw [List.getElem?_take_of_lt hlt, List.getElem?_drop] at hk
  exact ⟨f + k, by omega, by omega, hk⟩
theorem sub_split {l : Bs} {f i : Nat} (h1 : f ≤ i) : l.drop f = sub l f i ++ l.drop i := by
  unfold sub
  conv => lhs; rw [← List.take_append_drop (i - f) (l.drop f)]
  rw [List.drop_drop, show f + (i - f) = i by omega]
end Go.Proofs.YtnfggikomoialaaDoor
