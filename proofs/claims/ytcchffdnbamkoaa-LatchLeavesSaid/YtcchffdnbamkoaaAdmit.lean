/- admit: a holder more. -/
import Derived.Test.YtcchffdnbamkoaaFits
import Derived.Test.YtcchffdnbamkoaaTGrow
namespace Go.Proofs.Ytcchffdnbamkoaa
set_option linter.unusedVariables false
set_option linter.unusedSimpArgs false
open Go.RowKit Go.Shelf

theorem OwnsT.grownO {α : Type} {enc : α → List Value} {k : Nat} {w1 w2 : World} {base e : Nat} {r : Option Nat} {v : Value} {ts : List α} (h : OwnsT enc k w1 base e v ts) (hg : w1.grownBy w2 r) (hne : ∀ b, r = some b → v.ownBlock ≠ some b) : OwnsT enc k w2 base e v ts := by
  refine ⟨h.1, ?_⟩
  rcases h.2 with h2 | ⟨g', cap, cur, rfl, hbg, hb, h3⟩
  · exact .inl h2
  · refine .inr ⟨g', cap, cur, rfl, hbg, (hg.block g' (Array.getElem?_eq_some_iff.1 hb).1 ?_).trans hb, h3⟩
    intro e
    first
      | exact hne g' e rfl
      | exact hne g' e.symm rfl

set_option maxRecDepth 100000 in
set_option maxHeartbeats 2000000 in
theorem admit_any {K : Nat → Prop} {g : Nat} {vh vw vt : Value} {cl : List Nat} {hs ws ts : List Tn} (w : World) (h : LatchAt w K g vh vw cl hs ws) (ht : ReadsTn w vt ts) (hl : hs.length + ts.length ≤ 1048576) :
    Calls Try.prog 36 #[.pointer (some ⟨g, 0, none⟩), vt] w fun e w' => e = .returned (.tuple #[]) ∧ ∃ vh', LatchAt w' K g vh' vw cl (hs ++ ts) ws ∧ Kept K w w' := by
  have c0 : w.cell? ⟨g, 0, none⟩ = some vh := h.row.cell rfl
  have hgl := h.row.lt
  refine X.fn Try.func36 rfl (n := 13) rfl rfl ?_
  (refine CC.region ?_; refine LL.val (R.move rfl rfl) rfl rfl rfl ?_; refine LL.val (R.move rfl rfl) rfl rfl rfl ?_; refine LL.val (R.nil rfl rfl) rfl rfl rfl ?_; refine LL.val (R.field rfl rfl (I.fld rfl)) rfl rfl rfl ?_; refine LL.val (R.load rfl rfl (I.ld1 rfl (by assumption))) rfl rfl rfl ?_; refine LL.val (R.move rfl rfl) rfl rfl rfl ?_)
  refine LL.appendT2 rfl rfl tEnc ElTurn h.held ht (by simp [maxLen]; omega) (by omega) (Nat.zero_le _) rfl rfl ?_
  intro v2 w2 o2 g2 hwhere
  have y2 := g2.size
  have row2 : RowL w2 g 60 (laL vh vw cl) := h.row.same (g2.block g hgl (by first | exact h.gh | exact fun e => h.gh e.symm))
  have wt2 : OwnsT tE 2 w2 0 51 vw ws := h.waits.grownO g2 h.hw
  have hne2 : v2.ownBlock ≠ some g := by
    rcases hwhere with e | ⟨b, e, hbb⟩
    · rw [e]; exact h.gh
    · rw [e]; intro e2; cases e2; omega
  have hw2 : ∀ b, v2.ownBlock = some b → vw.ownBlock ≠ some b := by
    intro b hb2 hb3
    rcases hwhere with e | ⟨b', e, hbb⟩
    · exact h.hw b (e.symm.trans hb2) hb3
    · rcases h.waits.above with h0 | ⟨b4, h0, _, h1⟩
      · rw [h0] at hb3; cases hb3
      · rw [h0] at hb3; rw [e] at hb2
        cases hb3; cases hb2; omega
  have bel2 : Kept K w w2 := grown_kept g2 h.kl h.kh
  have kh2 : ∀ j, K j → v2.ownBlock ≠ some j := by
    intro j hj
    rcases hwhere with e | ⟨b, e, hbb⟩
    · rw [e]; exact h.kh j hj
    · rw [e]; intro e2; cases e2; have := h.kl _ hj; omega
  obtain ⟨a, cp, rfl, _⟩ := (o2.reads tEnc).form rfl
  (refine LL.val (R.nil rfl rfl) rfl rfl rfl ?_; refine LL.val (R.field rfl rfl (I.fld rfl)) rfl rfl rfl ?_)
  refine LL.store rfl rfl rfl rfl row2 (by rw [laL_len h.len]; decide) rfl rfl rfl rfl ?_
  intro w3 r3 g3 z3
  (refine LL.nil ?_)
  refine EE.end _ rfl rfl ?_
  refine ⟨rfl, _, ⟨r3, h.len, o2.grown g3 hne2, wt2.grown g3 h.gw, hne2, h.gw, hw2, fun j hj => by have := h.kl j hj; have := g3.size; omega, h.kg, kh2, h.kw⟩, bel2.trans (grown_kept g3 (fun j hj => by have := h.kl j hj; omega) (fun j hj e => h.kg (by cases e; exact hj)))⟩
end Go.Proofs.Ytcchffdnbamkoaa
