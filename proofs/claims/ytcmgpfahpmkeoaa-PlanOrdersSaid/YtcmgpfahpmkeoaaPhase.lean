/- Regions that draw their order, of which the last steps come behind all others, in one order: first the others, in each order that may be, then these as a list. -/
import Derived.Test.YtcmgpfahpmkeoaaFree
namespace Go.Proofs.Ytcmgpfahpmkeoaa
set_option linter.unusedVariables false
set_option linter.unusedSimpArgs false
open Go.RowKit Go.Shelf

/-- The steps from m on come behind all ahead of m; no step waits for a later one. -/
def tailB (ops : Array Oper) (m : Nat) : Bool :=
  (List.range ops.size).all fun j => match ops[j]? with
    | some o => (o.after.all fun e => !Region.binds .any e || Nat.blt e.on j) && (Nat.blt j m || (List.range m).all fun i => o.after.any fun e => Region.binds .any e && Nat.beq e.on i)
    | none => true
def laterL (m n : Nat) : Array Bool := (List.replicate m false ++ List.replicate (n - m) true).toArray
def doneL (m n : Nat) : Array Bool := (List.replicate m true ++ List.replicate (n - m) false).toArray
def unl (m : Nat) (lr : Array Bool) : Nat := ((List.range m).filter fun i => !(lr.getD i true)).length
theorem unl_set {m i : Nat} {lr : Array Bool} (hi : i < m) (h : lr.getD i true = false) : unl m (lr.setIfInBounds i true) + 1 = unl m lr := by
  have hn : ((List.range m).filter fun i => !(lr.getD i true)).Nodup := List.Nodup.sublist List.filter_sublist List.nodup_range
  have hm : i ∈ (List.range m).filter fun i => !(lr.getD i true) := List.mem_filter.2 ⟨List.mem_range.2 hi, by rw [h]; rfl⟩
  have he : (List.range m).filter (fun j => !((lr.setIfInBounds i true).getD j true)) = ((List.range m).filter fun i => !(lr.getD i true)).erase i := by
    rw [hn.erase_eq_filter, List.filter_filter]
    refine List.filter_congr fun j _ => ?_
    by_cases e : i = j
    · subst e
      have : (lr.setIfInBounds i true).getD i true = true := by
        rw [Array.getD_eq_getD_getElem?, Array.getElem?_setIfInBounds_self]
        split <;> rfl
      simp [this]
    · rw [getD_set_ne true e]
      simp [Ne.symm e]
  have hp := List.length_pos_of_mem hm
  unfold unl
  rw [he, List.length_erase_of_mem hm]
  omega
theorem unl_zero {m : Nat} {lr : Array Bool} (h : unl m lr = 0) : ∀ i, i < m → lr.getD i true = true := fun i hi => by
  have h0 := List.eq_nil_of_length_eq_zero h
  cases hg : lr.getD i true with
  | true => rfl
  | false =>
    have : i ∈ (List.range m).filter fun i => !(lr.getD i true) := List.mem_filter.2 ⟨List.mem_range.2 hi, by rw [hg]; rfl⟩
    rw [h0] at this
    cases this
theorem unl_least {m : Nat} {lr : Array Bool} (h : unl m lr ≠ 0) : ∃ i, i < m ∧ lr.getD i true = false ∧ ∀ j, j < i → lr.getD j true = true := by
  have key : ∀ k, k ≤ m → (∀ j, j < k → lr.getD j true = true) ∨ ∃ i, i < k ∧ lr.getD i true = false ∧ ∀ j, j < i → lr.getD j true = true := by
    intro k
    induction k with
    | zero => intro _; exact .inl fun j hj => absurd hj (by omega)
    | succ k ih =>
      intro hk
      rcases ih (by omega) with h1 | ⟨i, hi, h2⟩
      · cases hg : lr.getD k true with
        | true =>
          refine .inl fun j hj => ?_
          rcases Nat.lt_succ_iff_lt_or_eq.1 hj with h3 | rfl
          · exact h1 j h3
          · exact hg
        | false => exact .inr ⟨k, by omega, hg, h1⟩
      · exact .inr ⟨i, by omega, h2⟩
  rcases key m (Nat.le_refl _) with h1 | ⟨i, hi, h2⟩
  · exfalso
    apply h
    unfold unl
    have : (List.range m).filter (fun i => !(lr.getD i true)) = [] := by
      rw [List.filter_eq_nil_iff]
      intro i hi
      rw [h1 i (List.mem_range.1 hi)]
      simp
    rw [this]
    rfl
  · exact ⟨i, hi, h2⟩
/-- The same ahead of m; all done from m on, nothing done from m on. -/
structure Alike (m n : Nat) (lr lp : Array Bool) : Prop where
  s1 : lr.size = n
  s2 : lp.size = n
  lo : ∀ i, i < m → lp[i]? = lr[i]?
  hp : ∀ j, m ≤ j → j < n → lp[j]? = some true
  hr : ∀ j, m ≤ j → j < n → lr[j]? = some false
theorem Alike.set {m n i : Nat} {lr lp : Array Bool} (h : Alike m n lr lp) (hi : i < m) : Alike m n (lr.setIfInBounds i true) (lp.setIfInBounds i true) := by
  refine ⟨by simp [h.s1], by simp [h.s2], fun j hj => ?_, fun j hj hn => ?_, fun j hj hn => ?_⟩
  · by_cases e : i = j
    · subst e
      rw [Array.getElem?_setIfInBounds_self, Array.getElem?_setIfInBounds_self, h.s1, h.s2]
    · rw [Array.getElem?_setIfInBounds_ne e, Array.getElem?_setIfInBounds_ne e, h.lo j hj]
  · rw [Array.getElem?_setIfInBounds_ne (by omega), h.hp j hj hn]
  · rw [Array.getElem?_setIfInBounds_ne (by omega), h.hr j hj hn]
theorem alike_start (m n : Nat) (h : m ≤ n) : Alike m n (Array.replicate n false) (laterL m n) := by
  refine ⟨by simp, by simp [laterL]; omega, fun i hi => ?_, fun j hj hn => ?_, fun j hj hn => ?_⟩
  · simp [laterL, hi, List.getElem?_append, (by omega : i < n)]
  · simp only [laterL, List.getElem?_toArray]
    rw [List.getElem?_append_right (by simpa using hj), List.getElem?_replicate]
    rw [if_pos (by simp; omega)]
  · simp [hn]
theorem Alike.done {m n : Nat} {lr lp : Array Bool} (h : Alike m n lr lp) (hm : m ≤ n) (h0 : unl m lr = 0) : lr = doneL m n := by
  apply Array.ext_getElem?
  intro j
  by_cases hj : j < m
  · have := unl_zero h0 j hj
    rw [Array.getD_eq_getD_getElem?, Array.getElem?_eq_getElem (by rw [h.s1]; omega)] at this
    simp only [Option.getD_some] at this
    rw [Array.getElem?_eq_getElem (by rw [h.s1]; omega), this]
    simp [doneL, List.getElem?_append, hj]
  · by_cases hn : j < n
    · rw [h.hr j (by omega) hn]
      simp only [doneL, List.getElem?_toArray]
      rw [List.getElem?_append_right (by simp; omega), List.getElem?_replicate]
      rw [if_pos (by simp; omega)]
    · rw [Array.getElem?_eq_none (by rw [h.s1]; omega), Array.getElem?_eq_none (by simp [doneL]; omega)]

section
variable {P : Program} {l : List Oper} {Q : Exit → Act → World → Prop} {ok : World → Prop} {r : Option Nat} {n : Nat} {D : List Deferred} {M : Slots} {w : World}
theorem tail_spec {m : Nat} {ops : Array Oper} (h : tailB ops m = true) {j : Nat} {o : Oper} (ho : ops[j]? = some o) : (∀ e ∈ o.after, Region.binds .any e = true → e.on < j) ∧ (m ≤ j → ∀ i, i < m → ∃ e ∈ o.after, Region.binds .any e = true ∧ e.on = i) := by
  have hj : j < ops.size := (Array.getElem?_eq_some_iff.1 ho).1
  have h1 := List.all_eq_true.1 h j (List.mem_range.2 hj)
  simp only [ho, Bool.and_eq_true] at h1
  refine ⟨fun e he hb => ?_, fun hmj i hi => ?_⟩
  · have h2 := Array.all_eq_true'.1 h1.1 e he
    rw [hb] at h2
    simpa using h2
  · rcases Bool.or_eq_true_iff.1 h1.2 with h3 | h3
    · have : j < m := by simpa using h3
      omega
    · have h4 := List.all_eq_true.1 h3 i (List.mem_range.2 hi)
      obtain ⟨e, he, hb⟩ := Array.any_eq_true'.1 h4
      simp only [Bool.and_eq_true] at hb
      exact ⟨e, he, hb.1, Nat.eq_of_beq_eq_true hb.2⟩
theorem CC.phase {id : Nat} (ok : World → Prop) (m : Nat) (hm : P.follows .mixedOrders = true) (hB : selB l = true) (hT : tailB l.toArray m = true) (hml : Nat.ble m l.length = true) (hS : Region.seqB .any l.toArray (l.drop m).length m (doneL m l.length) = true)
    (h : AA P l.toArray ok (fun _ a w => wpListIn (Wr r) 3 P l.toArray Q (l.drop m) a w) n D M m (laterL m l.length) w.drew) : CC r P Q n D M (.region id l.toArray true) w := CC.mk fun a F => by
  have hml : m ≤ l.length := Nat.le_of_ble_eq_true hml
  have hdf : ∀ (j : Nat) (o : Oper), l.toArray[j]? = some o → dfB o.op = false := fun j o ho => by
    have := List.all_eq_true.1 hB o (by simpa using List.mem_of_getElem? (by simpa using ho))
    simpa using this
  have hend : ∀ lr lp a w, Alike m l.length lr lp → unl m lr = 0 → wpListIn (Wr r) 3 P l.toArray Q (l.drop m) a w → wpAnyIn (Wr r) 3 P .any l.toArray Q (l.drop m).length lr a w := by
    intro lr lp a w hA h0 hq
    rw [hA.done hml h0]
    exact wpAnyIn_of_seq (l.drop m) m _ a w (fun j => by simp) hS hq
  have key : ∀ k lr lp a w, Alike m l.length lr lp → unl m lr = k → AnyR P l.toArray ok (fun _ a w => wpListIn (Wr r) 3 P l.toArray Q (l.drop m) a w) k lp a w → wpAnyIn (Wr r) 3 P .any l.toArray Q (k + (l.drop m).length) lr a w := by
    intro k
    induction k with
    | zero =>
      intro lr lp a w hA h0 hR
      rw [Nat.zero_add]
      exact hend lr lp a w hA h0 hR.2
    | succ k ih =>
      intro lr lp a w hA hk hR
      obtain ⟨i0, hi0, hu0, hlow⟩ := unl_least (m := m) (lr := lr) (by omega)
      have hget : ∀ j, j < l.length → lr.getD j false = lr.getD j true := fun j hj => by
        rw [Array.getD_eq_getD_getElem?, Array.getD_eq_getD_getElem?, Array.getElem?_eq_getElem (by rw [hA.s1]; exact hj)]
        rfl
      have hr0 : i0 ∈ Region.ready .any l.toArray lr := by
        have hlt : i0 < l.length := by omega
        obtain ⟨o, ho⟩ : ∃ o, l.toArray[i0]? = some o := ⟨_, Array.getElem?_eq_getElem (by simpa using hlt)⟩
        refine mem_ready.2 ⟨hu0, o, ho, fun e he hb => ?_⟩
        have hlt2 := (tail_spec hT ho).1 e he hb
        rw [hget _ (by omega)]
        exact hlow _ hlt2
      rw [show k + 1 + (l.drop m).length = (k + (l.drop m).length) + 1 by omega]
      refine ⟨fun h0 => (by rw [h0] at hr0; cases hr0), fun i hi => ?_⟩
      obtain ⟨hui, o, ho, hall⟩ := mem_ready.1 hi
      have him : i < m := by
        rcases Nat.lt_or_ge i m with h1 | h1
        · exact h1
        · obtain ⟨e, he, hb, hon⟩ := (tail_spec hT ho).2 h1 i0 hi0
          have := hall e he hb
          rw [hon, hget _ (by omega), hu0] at this
          cases this
      have hil : i ∈ Region.ready .any l.toArray lp := by
        refine mem_ready.2 ⟨?_, o, ho, fun e he hb => ?_⟩
        · rw [Array.getD_eq_getD_getElem?, hA.lo i him, ← Array.getD_eq_getD_getElem?]
          exact hui
        · have h1 := hall e he hb
          have hlt := (tail_spec hT ho).1 e he hb
          rw [Array.getD_eq_getD_getElem?, hA.lo _ (by omega), ← Array.getD_eq_getD_getElem?]
          exact h1
      have h2 := hR.2 i hil
      have hrec : ∀ a' w', AnyR P l.toArray ok (fun _ a w => wpListIn (Wr r) 3 P l.toArray Q (l.drop m) a w) k (lp.setIfInBounds i true) a' w' → wpAnyIn (Wr r) 3 P .any l.toArray Q (k + (l.drop m).length) (lr.setIfInBounds i true) a' w' :=
        fun a' w' h' => ih _ _ a' w' (hA.set him) (by have := unl_set him hui; omega) h'
      unfold stepR at h2
      unfold wpOpIn
      split
      · rename_i hn; rw [ho] at hn; cases hn
      · rename_i o' ho'
        obtain rfl : o = o' := Option.some.inj (ho.symm.trans ho')
        simp only [ho] at h2
        split
        · rename_i hw
          rw [if_pos hw] at h2
          exact wpIn_of_actR (hdf _ _ ho) (actR_mono (fun a' w' hk => hrec a' w' hk.2) h2)
        · rename_i hw
          rw [if_neg hw] at h2
          exact ⟨about_wr a, hrec _ _ h2⟩
  refine wpIn_region_any hm ?_
  have hu : unl m (Array.replicate l.length false) = m := by
    unfold unl
    have : (List.range m).filter (fun i => !((Array.replicate l.length false).getD i true)) = List.range m := by
      rw [List.filter_eq_self]
      intro i hi
      have := List.mem_range.1 hi
      simp [Array.getD_eq_getD_getElem?, (by omega : i < l.length)]
    rw [this, List.length_range]
  have hlen : m + (l.drop m).length = l.length := by rw [List.length_drop]; omega
  have hfin := key m _ _ a w.drew (alike_start m l.length hml) hu (h.h a F)
  rw [hlen] at hfin
  simpa using hfin
theorem EE.tailL {ops : Array Oper} {t : List Oper} (h : LL r P ops Q n D M t w) : EE (fun _ a w => wpListIn (Wr r) 3 P ops Q t a w) n D M .normal w := EE.mk fun a F => h.h a F
end
end Go.Proofs.Ytcmgpfahpmkeoaa
