/- A range over a function, outermost, of which a round may leave by any way: break, goto, return. Over any program. -/
import Derived.Test.YtojoaplbgcdapaaSeq
namespace Go.Proofs.Ytojoaplbgcdapaa
set_option linter.unusedVariables false
set_option linter.unusedSimpArgs false
open Go.RowKit Go.Shelf

section
variable {α γ : Type} {P : Program} {n : Nat} {D : List Deferred} {M : Slots}
theorem CC.rangeA {gf : Nat} {Dk : Nat → Prop} {g : Operand} {ps : Array Tmp} {assign body : Code} {Q : Exit → Act → World → Prop} {w w0 : World} {lb : List Value} {encs : α → List Value} {S : List α → Prop}
    (hg : evM M g = some (.func (.func gf) #[] lb.toArray)) (eg : entB P gf = true) (hseq : GivesM P gf lb.toArray (fun x => (encs x).toArray) Dk S w0) (hb : Below w0.heap.size w0 w) (hn : ∀ k, Dk k → k < w.heap.size) (hps : ∀ x, (encs x).length = ps.size) (hpn : (ps.toList.all fun p => Nat.blt p n) = true)
    (I : Nat → List α → World → Prop) (Ix : Code → Nat → List α → World → Prop) (hI : ∀ m, Abides w.heap.size m (I m)) (hIx : ∀ c m, Abides w.heap.size m (Ix c m)) (h0 : ∀ m, I m [] w)
    (Mx : α → γ → Slots) (Ax : α → γ → World → Prop) (hAx : ∀ x c, OwnFrom w.heap.size (fun (_ : Unit) W => Ax x c W))
    (hassign : ∀ (l m : Nat) pre x W (K : Act → World → Prop), w.heap.size ≤ m → m ≤ W.heap.size → I m pre W → (∀ a' W' c, Stays w.heap.size m W W' → Keeps Dk W W' → I m pre W' → Fr n [] (Mx x c) a' → Ax x c W' → K a' W') → CC (some l) P (Exit.then K (fun _ _ _ => False)) n [] (psM M ps.toList (encs x)) assign W)
    (hbody : ∀ (l m : Nat) pre x c W, w.heap.size ≤ m → m ≤ W.heap.size → w.heap.size ≤ l → (∃ r, W.heap[l]? = some (.loop r)) → I m pre W → Ax x c W → Part S (pre ++ [x]) → CC (some l) P (roundP w.heap.size m Dk I Ix (pre ++ [x]) W) n [] (Mx x c) body W)
    (hafter : ∀ (E m : Nat) xs W, w.heap.size ≤ E → S xs → I m xs W → W.heap[E]? = some (.deferred (some [])) → EE Q n (mark E :: D) M .normal W)
    (hstop : ∀ (E : Nat) (c : Code) (m : Nat) pre W, w.heap.size ≤ E → Part S pre → Ix c m pre W → W.heap[E]? = some (.deferred (some [])) → CC none P Q n (mark E :: D) M c W) :
    CC none P Q n D M (.rangeFunc g ps assign body) w := CC.mk fun a F => by
  refine rangeM_out (gf := gf) (lb := lb.toArray) (F.ev hg) (ent_of eg) hseq hb hn (fun x => by simpa using hps x) I Ix hI hIx h0 (fun x a' W => ∃ c, Fr n [] (Mx x c) a' ∧ Ax x c W) (fun x a' _ W W' row hs hg hr => by
    obtain ⟨c, hF, hc⟩ := hs
    exact ⟨c, hF, hAx x c () W W' row hc hg hr⟩) ?_ ?_ ?_ ?_
  · intro l m pre x W K hm hm2 hi hK
    refine (hassign l m pre x W K hm hm2 hi fun a' W' c h1 h2 h3 h4 h5 => hK a' W' h1 h2 h3 ⟨c, h4, h5⟩).h _ ?_
    have F0 : Fr n [] M ⟨a.tmps, []⟩ := ⟨F.size, rfl, F.get⟩
    have := psM_fr ps.toList (encs x) M a.tmps [] F0 hpn
    have e : (ps.zip (encs x).toArray).foldl (fun t (p, v) => t.setIfInBounds p v) a.tmps = (ps.toList.zip (encs x)).foldl (fun t (p, v) => t.setIfInBounds p v) a.tmps := by
      obtain ⟨l⟩ := ps
      rw [← Array.foldl_toList]
      simp
    rw [e]
    exact this
  · intro l m pre x a' W hm hm2 hl hr hi hax hp
    obtain ⟨c, hF, hc⟩ := hax
    exact (hbody l m pre x c W hm hm2 hl hr hi hc hp).h a' hF
  · intro E m xs W hE hS hi hd
    exact (hafter E m xs W hE hS hi hd).h _ ⟨F.size, by rw [F.defers]; rfl, F.get⟩
  · intro E c m pre W hE hp hi hd
    exact (hstop E c m pre W hE hp hi hd).h _ ⟨F.size, by rw [F.defers]; rfl, F.get⟩
theorem EE.roundG {B m id : Nat} {Dk : Nat → Prop} {I : Nat → List α → World → Prop} {Ix : Code → Nat → List α → World → Prop} {xs : List α} {W w : World} (h : Stays B m W w ∧ Ix (.goto id) m xs w) : EE (roundP B m Dk I Ix xs W) n D M (.goto id) w := EE.mk fun _ _ => h
end
end Go.Proofs.Ytojoaplbgcdapaa
