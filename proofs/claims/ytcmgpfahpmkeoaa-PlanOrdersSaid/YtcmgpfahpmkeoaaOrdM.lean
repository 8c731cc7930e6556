/- The plan of stores, as a list. -/
import Derived.Test.YtcmgpfahpmkeoaaSt
namespace Go.Proofs.Ytcmgpfahpmkeoaa
set_option linter.unusedVariables false
set_option linter.unusedSimpArgs false
open Go.RowKit Go.Shelf

def gapA (o : Option Nat) (p : Pt) : List Ac := match o with
  | some k => if lnP p = k then [] else setA k
  | none => []
def endA : Option Nat → List Ac
  | none => []
  | some k => setA k
def planP : Option Nat → List Pt → List Ac
  | o, [] => endA o
  | o, p :: l => gapA o p ++ stA p :: planP (some (lnP p)) l
def okPs (l : List Pt) : Bool := l.all fun p => decide (0 ≤ p.1)
def orderP (l : List Pt) : List Ac := if okPs l then planP none l else []
def orderN (l : List Pt) : Nat := if okPs l then 0 else 2
/-- The line of the store ahead of a place. -/
def prevL (l : List Pt) : Nat → Option Nat
  | 0 => none
  | i + 1 => (l[i]?).map lnP
structure PAt (l : List Pt) (i : Nat) (ts : List Ac) : Prop where
  le : i ≤ l.length
  all : ts ++ planP (prevL l i) (l.drop i) = planP none l
  nn : ∀ j, j < i → ∀ p, l[j]? = some p → 0 ≤ p.1
  len : ts.length ≤ 3 * i
theorem PAt.zero (l : List Pt) : PAt l 0 [] := ⟨by omega, by simp [prevL], fun j h => by omega, by simp⟩
theorem gapA_len (o : Option Nat) (p : Pt) : (gapA o p).length ≤ 2 := by
  unfold gapA
  split
  · split <;> simp [setA]
  · simp
theorem PAt.step {l : List Pt} {i : Nat} {ts : List Ac} {p : Pt} (h : PAt l i ts) (hp : l[i]? = some p) (h0 : 0 ≤ p.1) : PAt l (i + 1) (ts ++ gapA (prevL l i) p ++ [stA p]) := by
  obtain ⟨hi, hpi⟩ := List.getElem?_eq_some_iff.1 hp
  refine ⟨by omega, ?_, fun j hj q hq => ?_, ?_⟩
  · have hd : l.drop i = p :: l.drop (i + 1) := by rw [List.drop_eq_getElem_cons hi, hpi]
    have ha := h.all
    rw [hd] at ha
    simp only [planP] at ha
    have e : prevL l (i + 1) = some (lnP p) := by show (l[i]?).map lnP = _; rw [hp]; rfl
    rw [e, ← ha]
    simp only [List.append_assoc, List.cons_append, List.nil_append]
  · rcases Nat.lt_succ_iff_lt_or_eq.1 hj with h1 | h1
    · exact h.nn j h1 q hq
    · rw [h1, hp] at hq
      cases hq
      exact h0
  · have h1 := h.len
    have h2 := gapA_len (prevL l i) p
    simp only [List.length_append, List.length_cons, List.length_nil]
    omega
theorem PAt.neg {l : List Pt} {i : Nat} {p : Pt} (hp : l[i]? = some p) (h0 : p.1 < 0) : okPs l = false := by
  cases h : okPs l with
  | false => rfl
  | true =>
    have := List.all_eq_true.1 h p (List.mem_of_getElem? hp)
    simp at this
    omega
theorem PAt.ok {l : List Pt} {ts : List Ac} (h : PAt l l.length ts) : okPs l = true ∧ orderP l = ts ++ endA (prevL l l.length) ∧ orderN l = 0 := by
  have h1 : okPs l = true := List.all_eq_true.2 fun p hp => by
    obtain ⟨j, hj⟩ := List.mem_iff_getElem?.1 hp
    have := h.nn j (List.getElem?_eq_some_iff.1 hj).1 p hj
    simpa using this
  have ha := h.all
  rw [List.drop_length] at ha
  have e : planP (prevL l l.length) [] = endA (prevL l l.length) := by simp [planP]
  rw [e] at ha
  exact ⟨h1, by unfold orderP; rw [if_pos h1, ← ha], by unfold orderN; rw [if_pos h1]⟩
theorem planP_len : ∀ (l : List Pt) (o : Option Nat), (planP o l).length ≤ 3 * l.length + 2
  | [], o => by cases o <;> simp [planP, endA, setA]
  | p :: l, o => by
    have ih := planP_len l (some (lnP p))
    have := gapA_len o p
    simp only [planP, List.length_append, List.length_cons]
    omega
theorem orderP_len (l : List Pt) : (orderP l).length ≤ 3 * l.length + 2 := by
  unfold orderP
  split
  · exact planP_len l none
  · simp
theorem lnP_nat {n : Nat} {p : Pt} (h : p.1 = (n : Int)) : lnP p = n / 8 := by unfold lnP; rw [h]; rfl
end Go.Proofs.Ytcmgpfahpmkeoaa
