/- The statements' played and works. -/
import Derived.Test.YtcchffdnbamkoaaSameL
namespace Go.Proofs.Ytcchffdnbamkoaa
set_option linter.unusedVariables false
set_option linter.unusedSimpArgs false
open Go.RowKit Go.Shelf

/-- A call: what, of whom. -/
abbrev Ac := Int × Int
def aE (a : Ac) : List Value := [.int .i64 a.1, .int .i64 a.2]
theorem aEnc : Enc aE 2 := ⟨fun _ => rfl, fun a u hu => by
  simp only [aE, List.mem_cons, List.not_mem_nil, or_false] at hu
  rcases hu with rfl | rfl <;> rfl, by decide⟩
abbrev ReadsA (w : World) (v : Value) (xs : List Ac) : Prop := ReadsT aE 2 w v xs
def stepP (S : LS) (a : Ac) : LS := actP S a.1 a.2
def playP (xs : List Ac) : LS := xs.foldl stepP ([], [])
theorem playP_step {xs : List Ac} {i : Nat} {a : Ac} (h : xs[i]? = some a) : playP (xs.take (i + 1)) = actP (playP (xs.take i)) a.1 a.2 := by
  unfold playP
  rw [List.take_add_one, h, List.foldl_append]
  rfl
theorem playP_good (xs : List Ac) : Good (playP xs) := by
  have : ∀ (xs : List Ac) (S : LS), Good S → Good (xs.foldl stepP S) := by
    intro xs
    induction xs with
    | nil => intro S h; exact h
    | cons a xs ih => intro S h; exact ih _ (h.act _ _)
  exact this xs _ good_none
theorem clP_none : clP ([], []) = [0, 0, 0, 0, 0, 0, 0, 0] := by decide
theorem latch_new {w w' : World} {g : Nat} (e : w.heap.size = g) (h : RowL w' g 60 (laL (.slice none 0 0) (.slice none 0 0) [0, 0, 0, 0, 0, 0, 0, 0])) (hb : Below w.heap.size w w') : LatchAt w' (· < w.heap.size) g (.slice none 0 0) (.slice none 0 0) (clP ([], [])) [] [] := by
  rw [clP_none]
  refine ⟨h, rfl, OwnsT.none _ _ _, OwnsT.none _ _ _, by simp [Value.ownBlock], by simp [Value.ownBlock], fun b hb => ?_, fun j hj => ?_, by omega, fun j _ => by simp [Value.ownBlock], fun j _ => by simp [Value.ownBlock]⟩
  · simp [Value.ownBlock] at hb
  · have := hb.size; omega

set_option maxRecDepth 100000 in
set_option maxHeartbeats 4000000 in
theorem played_any (v : Value) (xs : List Ac) (w : World) (ha : ReadsA w v xs) (hl : xs.length ≤ 1000) :
    Calls Try.prog 12 #[v] w fun e w' => ∃ g vh vw, e = .returned (.pointer (some ⟨g, 0, none⟩)) ∧ w.heap.size ≤ g ∧ LatchAt w' (· < w.heap.size) g vh vw (clP (playP xs)) (playP xs).1 (playP xs).2 ∧ Below w.heap.size w w' := by
  obtain ⟨N, hN⟩ : ∃ N, xs.length = N := ⟨_, rfl⟩
  obtain ⟨a, cap, rfl, hc⟩ := ha.form hN
  rw [hN] at hl
  refine X.fn Try.func12 rfl (n := 20) rfl rfl ?_
  (refine CC.seq ?_; refine CC.region ?_; refine LL.val (R.assign rfl rfl) rfl rfl rfl ?_; refine LL.nilS ?_; refine CC.seq ?_; refine CC.region ?_)
  refine LL.call (R.call rfl rfl rfl) rfl rfl rfl (lnew_any w) ?_
  rintro e w1 ⟨g, rfl, e1, r1, b1⟩
  refine ⟨_, rfl, ?_⟩
  have hL1 := latch_new e1 r1 b1
  (refine LL.val (R.assign rfl rfl) rfl rfl rfl ?_; refine LL.nilS ?_; refine CC.seq ?_; refine CC.seq ?_; refine CC.region ?_; refine LL.val (R.assign rfl rfl) rfl rfl rfl ?_; refine LL.nilS ?_; refine CC.block ?_)
  refine CC.loop (α := Nat) (fun i => [(0, .slice a N cap), (3, .pointer (some ⟨g, 0, none⟩)), (4, .int .i64 (i : Int))]) (fun i wr => i ≤ N ∧ Below w.heap.size w wr ∧ ∃ vh vw, LatchAt wr (· < w.heap.size) g vh vw (clP (playP (xs.take i))) (playP (xs.take i)).1 (playP (xs.take i)).2) (fun i => N - i) 0 ⟨rfl, rfl, rfl, trivial⟩ ⟨by omega, b1, _, _, hL1⟩ ?_
  rintro i wr ⟨hi, hbw, vh, vw, hL⟩
  by_cases h1 : i < N
  · obtain ⟨s, hs⟩ : ∃ s, xs[i]? = some s := ⟨_, List.getElem?_eq_getElem (by omega)⟩
    obtain ⟨b, off, rfl, hbl, hcs⟩ := ha.get aEnc hs
    have hc1 := hcs.below hbw hbl
    (refine CC.seq ?_; refine CC.seq ?_; refine CC.region ?_; refine LL.val (R.move rfl rfl) rfl rfl rfl ?_; refine LL.val (R.move rfl rfl) rfl rfl rfl ?_; refine LL.val (R.len rfl rfl rfl rfl) rfl rfl rfl ?_; refine LL.val (R.ltT rfl rfl rfl (by omega)) rfl rfl rfl ?_; refine LL.nilS ?_; refine CC.yes rfl ?_; refine CC.skip ?_; refine EE.thenN ?_; refine CC.seq ?_; refine CC.block ?_; refine CC.region ?_; refine LL.val (R.move rfl rfl) rfl rfl rfl ?_)
    refine LL.val (R.buildV rfl rfl (v := .agg #[.slice none 0 0, .slice none 0 0]) (fun _ => by kernel_rfl)) rfl rfl rfl ?_
    (refine LL.val (R.move rfl rfl) rfl rfl rfl ?_; refine LL.val (R.move rfl rfl) rfl rfl rfl ?_; refine LL.val (R.index rfl rfl rfl (I.ixS rfl (by omega))) rfl rfl rfl ?_)
    refine LL.val (R.load rfl rfl (I.ldN (vs := aE s) rfl rfl hc1)) rfl rfl rfl ?_
    refine LL.call (R.call rfl rfl rfl) rfl rfl rfl (act_any s.1 s.2 wr hL (playP_good _) DocAt.none (by simp)) ?_
    rintro e w3 ⟨uh', uw', vh', vw', K', rfl, hK, hL3, _, k3⟩
    refine ⟨_, rfl, ?_⟩
    rw [← playP_step hs] at hL3
    (refine LL.nil ?_; refine EE.inN ?_; refine EE.thenN ?_; refine CC.region ?_; refine LL.val (R.move rfl rfl) rfl rfl rfl ?_; refine LL.val (R.addNc rfl rfl rfl rfl (by omega)) rfl rfl rfl ?_; refine LL.val (R.assign rfl rfl) rfl rfl rfl ?_; refine LL.nil ?_)
    exact EE.round (i + 1) ⟨rfl, rfl, rfl, trivial⟩ ⟨by omega, hbw.trans (k3.bel), _, _, hL3.keeps hK⟩ (by omega)
  · obtain rfl : i = N := by omega
    rw [List.take_of_length_le (by omega)] at hL
    (refine CC.seq ?_; refine CC.seq ?_; refine CC.region ?_; refine LL.val (R.move rfl rfl) rfl rfl rfl ?_; refine LL.val (R.move rfl rfl) rfl rfl rfl ?_; refine LL.val (R.len rfl rfl rfl rfl) rfl rfl rfl ?_; refine LL.val (R.ltF rfl rfl rfl (by omega)) rfl rfl rfl ?_; refine LL.nilS ?_; refine CC.no rfl ?_; refine CC.exit ?_; refine EE.thenX ?_; refine EE.thenX ?_; refine EE.inX ?_; refine EE.thenN ?_; refine CC.seq ?_; refine CC.region ?_; refine LL.val (R.move rfl rfl) rfl rfl rfl ?_; refine LL.val (R.assign rfl rfl) rfl rfl rfl ?_; refine LL.nilS ?_; refine CC.ret ?_)
    refine EE.ret _ rfl rfl ?_
    exact ⟨g, vh, vw, rfl, by omega, hL, hbw⟩
end Go.Proofs.Ytcchffdnbamkoaa
