/- Paths and their parts, in plain lists. -/
import Derived.Test.YtefepklacchghaaBs
import Derived.Test.YtefepklacchghaaShelf
import Derived.Lib.SplitLaws
namespace Go.Proofs.Ytefepklacchghaa
set_option linter.unusedVariables false
set_option linter.unusedSimpArgs false

/-- What stands between slashes. -/
def pcs : Bs → List Bs
  | [] => [[]]
  | b :: l => if b = 47 then [] :: pcs l else match pcs l with | h :: t => (b :: h) :: t | [] => [[b]]
theorem pcs_ne : ∀ l, pcs l ≠ []
  | [] => by simp [pcs]
  | b :: l => by
    unfold pcs
    split
    · simp
    · split <;> simp
def partsL (l : Bs) : List Bs := (pcs l).filter fun p => !p.isEmpty
theorem splitK_pcs : ∀ l : Bs, Lib.splitK [47] 0 (Lib.count l [47]) l = pcs l
  | [] => by
    have h : Lib.index ([] : Bs) [47] = -1 := rfl
    rw [Lib.count_miss h]
    rfl
  | b :: l => by
    have ih := splitK_pcs l
    by_cases hb : b = 47
    · subst hb
      have h0 : Lib.index ((47 : UInt8) :: l) [47] = 0 := by simp [Lib.index, List.isPrefixOf]
      rw [Lib.count_cons_eq, Nat.add_comm]
      show (if Lib.index ((47 : UInt8) :: l) [47] == -1 then _ else _) = _
      rw [h0, if_neg (by decide)]
      have e : (Int.toNat 0) = 0 := rfl
      rw [e]
      simp only [pcs, if_pos]
      congr 1
    · rw [Lib.count_cons_ne b 47 l hb]
      have hx : Lib.index (b :: l) [47] = if Lib.index l [47] == -1 then -1 else Lib.index l [47] + 1 := by
        have h1 : ([47] : Bs).isPrefixOf (b :: l) = false := by
          simp only [List.isPrefixOf, Bool.and_eq_false_imp, beq_iff_eq]
          intro e
          exact absurd e.symm hb
        conv => lhs; unfold Lib.index
        rw [h1]
        rfl
      unfold pcs
      rw [if_neg hb, ← ih]
      have hge := Lib.index_ge l [47]
      cases hc : Lib.count l [47] with
      | zero => rfl
      | succ k =>
        by_cases hm : Lib.index l [47] = -1
        · rw [Lib.count_miss hm] at hc
          cases hc
        · obtain ⟨i, hi⟩ : ∃ i : Nat, Lib.index l [47] = i := ⟨(Lib.index l [47]).toNat, by omega⟩
          have hn : ((i : Int) == -1) = false := by rw [beq_eq_false_iff_ne]; omega
          have hn1 : ((i : Int) + 1 == -1) = false := by rw [beq_eq_false_iff_ne]; omega
          have e1 : Lib.splitK [47] 0 (k + 1) l = l.take (i + 0) :: Lib.splitK [47] 0 k (l.drop (i + 1)) := by
            show (if Lib.index l [47] == -1 then _ else _) = _
            rw [hi, hn]
            rfl
          have e2 : Lib.splitK [47] 0 (k + 1) (b :: l) = (b :: l).take (i + 1 + 0) :: Lib.splitK [47] 0 k ((b :: l).drop (i + 1 + 1)) := by
            show (if Lib.index (b :: l) [47] == -1 then _ else _) = _
            rw [hx, hi, hn]
            simp only [Bool.false_eq_true, if_false]
            rw [hn1]
            rfl
          rw [e1, e2]
          simp
/-- What strings.Split tells. -/
theorem splitB_pcs (l : Bs) : (Lib.splitB ⟨#[47]⟩ 0 (Lib.countB ⟨l.toArray⟩ ⟨#[47]⟩) ⟨l.toArray⟩).map Value.string = (pcs l).flatMap stE := by
  have h := Lib.splitB_data ⟨#[47]⟩ 0 (Lib.countB ⟨l.toArray⟩ ⟨#[47]⟩) ⟨l.toArray⟩
  have h2 : (Lib.splitB ⟨#[47]⟩ 0 (Lib.countB ⟨l.toArray⟩ ⟨#[47]⟩) ⟨l.toArray⟩).map (fun b => b.data.toList) = pcs l := by
    rw [← splitK_pcs l]
    exact h
  rw [← h2]
  generalize Lib.splitB ⟨#[47]⟩ 0 (Lib.countB ⟨l.toArray⟩ ⟨#[47]⟩) ⟨l.toArray⟩ = L
  induction L with
  | nil => rfl
  | cons s L ih =>
    rw [List.map_cons, List.map_cons, List.flatMap_cons, ih]
    show _ :: _ = strV s.data.toList :: _
    rw [show strV s.data.toList = Value.string s by rw [strV, ← bs_data]]
    rfl
theorem splitB_len (l : Bs) : Lib.countB ⟨l.toArray⟩ ⟨#[47]⟩ + 1 = (pcs l).length := by
  have h1 := congrArg List.length (splitB_pcs l)
  rw [List.length_map, Lib.splitB_all ⟨#[47]⟩ (by decide) 0 _ _ rfl, stEnc.flat, Nat.mul_one] at h1
  exact h1
end Go.Proofs.Ytefepklacchghaa
