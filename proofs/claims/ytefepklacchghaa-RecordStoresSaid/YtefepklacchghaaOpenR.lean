/- Opening the arguments of a law: a struct of an int and a string. Over any program. -/
import Derived.Test.YtefepklacchghaaOpen
import Derived.ChangeSame
namespace Go.Proofs.Ytefepklacchghaa
set_option linter.unusedVariables false
set_option linter.unusedSimpArgs false
open Go.RowKit Go.ChangeShapes Go.WideShapes Go.ChangeAt
section
variable {H : Type} {enc : TypeId × Value → H} {P : Program} {w : World} {base : Nat} {spare : Nat → Bool} {held : Bool} {r : Reach} {b0 : Nat} {t : TypeId} {v : Value} {d : DataW H} {p : List MemPlace}
theorem open_is {fs : Array Field} {f0 f1 : Field} (hu : P.underlying t = some (.struct fs)) (h0 : fs.toList[0]? = some f0) (h1 : fs.toList[1]? = some f1) (o0 : f0.offset = 0) (o1 : f1.offset = 1) (hti : P.underlying f0.type = some (.int .i64)) (hts : P.underlying f1.type = some .string) (hc : P.cellsOf t = 2) (hc0 : P.cellsOf f0.type = 1) (hc1 : P.cellsOf f1.type = 1)
    (hv : Value.okWide P w r b0 t v) (h : DataW.Trod enc P w base spare held t v d p) : ∃ (a : Int) (s : ByteArray), v = .agg #[.int .i64 a, .string s] ∧ (Lit.int .i64 a).wf = true ∧ s.size ≤ maxLen := by
  have hg : ∃ cs, v = .agg cs ∧ cs.size = P.cellsOf t := by
    unfold Value.okWide at hv
    rw [hu] at hv
    obtain ⟨cs, h1, h2, _⟩ := hv
    exact ⟨cs, h1, h2⟩
  obtain ⟨cs, rfl, hsz⟩ := hg
  rw [hc] at hsz
  obtain ⟨fuel, hf⟩ := h
  obtain ⟨xs, m, _, e0, hl, hlen, hf2⟩ := DataW.trod_struct hu hf
  have hx0 : 0 < xs.length := by
    have := (List.getElem?_eq_some_iff.1 h0).1
    rw [Array.length_toList] at this
    omega
  have hx1 : 1 < xs.length := by
    have := (List.getElem?_eq_some_iff.1 h1).1
    rw [Array.length_toList] at this
    omega
  have g0 := hf2 0 f0 (by simpa using h0)
  have g1 := hf2 1 f1 (by simpa using h1)
  rw [List.getElem?_eq_getElem hx0] at g0
  rw [List.getElem?_eq_getElem hx1] at g1
  rw [o0, hc0] at g0
  rw [o1, hc1] at g1
  obtain ⟨z, ez, _, hw⟩ := DataW.trod_int hti g0
  obtain ⟨s, es, _, hs⟩ := DataW.trod_string hts g1
  refine ⟨z, s, ?_, hw, hs⟩
  congr 1
  apply Array.ext'
  have hlen2 : cs.toList.length = 2 := by rw [Array.length_toList, hsz]
  have ec : (Value.agg cs).cells.toList = cs.toList := rfl
  rw [ec] at ez es
  match hcs : cs.toList, hlen2 with
  | [a, b], _ =>
    rw [hcs] at ez es
    simp only [List.drop_zero, List.take_succ_cons, List.take_zero, List.cons.injEq, and_true, List.drop_succ_cons] at ez es
    rw [ez, es]
end
end Go.Proofs.Ytefepklacchghaa
