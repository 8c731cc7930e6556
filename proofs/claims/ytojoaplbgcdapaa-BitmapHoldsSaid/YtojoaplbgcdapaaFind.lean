/- bitmap: Find, Runs. -/
import Derived.Test.YtojoaplbgcdapaaFirst
namespace Go.Proofs.Ytojoaplbgcdapaa
set_option linter.unusedVariables false
set_option linter.unusedSimpArgs false
open Go.RowKit Go.Shelf

/-- What Find tells. -/
def findP (P : Nat → Bool) (bits : Nat) (many fr : Int) : Nat × Nat :=
  if many < 1 then (0, 2) else if fr < 0 ∨ (bits : Int) ≤ fr then (0, 4) else
    match firstP P fr.toNat (bits - fr.toNat) many.toNat with
    | some r => (r.1, 0)
    | none => match firstP P 0 bits many.toNat with
      | some r => (r.1, 0)
      | none => (0, 5)
theorem firstP_le {P : Nat → Bool} {a n many : Nat} {r : Rn} (h : firstP P a n many = some r) : a ≤ r.1 ∧ r.1 + r.2 ≤ a + n ∧ many ≤ r.2 := by
  have h1 := List.find?_some h
  have h2 := runsP_in n r (List.mem_of_find?_eq_some h)
  simp only [decide_eq_true_eq] at h1
  omega

theorem find_nil (p : Option Addr) (many fr : Int) (w : World) (h : Calls Try.prog 29 #[.pointer p] w fun e w' => e = .returned (.bool true) ∧ w = w') : Calls Try.prog 19 #[.pointer p, .int .i64 many, .int .i64 fr] w fun e w' => e = .returned (.tuple #[.int .i64 0, .int .i64 1]) ∧ w = w' := by
  refine X.fn Try.func19 rfl (n := 42) rfl rfl ?_
  (refine CC.seq ?_; refine CC.region ?_; refine LL.val (R.assign rfl rfl) rfl rfl rfl ?_; refine LL.val (R.assign rfl rfl) rfl rfl rfl ?_; refine LL.nilS ?_; refine CC.seq ?_; refine CC.seq ?_; refine CC.region ?_; refine LL.val (R.move rfl rfl) rfl rfl rfl ?_)
  refine LL.call (R.call rfl rfl rfl) rfl rfl rfl h ?_
  rintro e w1 ⟨rfl, rfl⟩
  refine ⟨_, rfl, ?_⟩
  (refine LL.nilS ?_; refine CC.yes rfl ?_; refine CC.seq ?_; refine CC.region ?_; refine LL.val (R.assign rfl rfl) rfl rfl rfl ?_; refine LL.val (R.assign rfl rfl) rfl rfl rfl ?_; refine LL.nilS ?_; refine CC.ret ?_; refine EE.thenR ?_)
  refine EE.ret _ rfl rfl ?_
  exact ⟨rfl, rfl⟩
set_option maxRecDepth 100000 in
set_option maxHeartbeats 2000000 in
theorem find_made {K : Nat → Prop} {g bits : Nat} {v : Value} {ws : List Nat} (many fr : Int) (w : World) (h : BmAt w K g v bits ws) :
    Calls Try.prog 19 #[.pointer (some ⟨g, 0, none⟩), .int .i64 many, .int .i64 fr] w fun e w' => e = .returned (.tuple #[.int .i64 ((findP (fun i => wb ws i == false) bits many fr).1 : Int), .int .i64 ((findP (fun i => wb ws i == false) bits many fr).2 : Int)]) ∧ Below w.heap.size w w' := by
  have c1 : w.cell? ⟨g, 1, none⟩ = some (.int .i64 (bits : Int)) := h.row.cell rfl
  have hlo := h.lo
  have hhi := h.hi
  obtain ⟨P, hP⟩ : ∃ P : Nat → Bool, (fun i => wb ws i == false) = P := ⟨_, rfl⟩
  rw [hP]
  refine X.fn Try.func19 rfl (n := 42) rfl rfl ?_
  (refine CC.seq ?_; refine CC.region ?_; refine LL.val (R.assign rfl rfl) rfl rfl rfl ?_; refine LL.val (R.assign rfl rfl) rfl rfl rfl ?_; refine LL.nilS ?_; refine CC.seq ?_; refine CC.seq ?_; refine CC.region ?_; refine LL.val (R.move rfl rfl) rfl rfl rfl ?_)
  refine LL.call (R.call rfl rfl rfl) rfl rfl rfl (bnone_made _ h) ?_
  rintro e w1 ⟨rfl, rfl⟩
  refine ⟨_, rfl, ?_⟩
  by_cases h0 : many < 1
  · have e0 : findP P bits many fr = (0, 2) := by unfold findP; rw [if_pos h0]
    rw [e0]
    (refine LL.nilS ?_; refine CC.no rfl ?_; refine CC.skip ?_; refine EE.thenN ?_; refine CC.seq ?_; refine CC.seq ?_; refine CC.region ?_; refine LL.val (R.move rfl rfl) rfl rfl rfl ?_; refine LL.val (R.ltT rfl rfl rfl (by omega)) rfl rfl rfl ?_; refine LL.nilS ?_; refine CC.yes rfl ?_; refine CC.seq ?_; refine CC.region ?_; refine LL.val (R.assign rfl rfl) rfl rfl rfl ?_; refine LL.val (R.assign rfl rfl) rfl rfl rfl ?_; refine LL.nilS ?_; refine CC.ret ?_; refine EE.thenR ?_)
    refine EE.ret _ rfl rfl ?_
    exact ⟨rfl, Below.refl _ _⟩
  obtain ⟨mm, rfl⟩ : ∃ n : Nat, many = n := ⟨many.toNat, by omega⟩
  by_cases h1 : fr < 0
  · have e0 : findP P bits mm fr = (0, 4) := by unfold findP; rw [if_neg h0, if_pos (.inl h1)]
    rw [e0]
    (refine LL.nilS ?_; refine CC.no rfl ?_; refine CC.skip ?_; refine EE.thenN ?_; refine CC.seq ?_; refine CC.seq ?_; refine CC.region ?_; refine LL.val (R.move rfl rfl) rfl rfl rfl ?_; refine LL.val (R.ltF rfl rfl rfl (by omega)) rfl rfl rfl ?_; refine LL.nilS ?_; refine CC.no rfl ?_; refine CC.skip ?_; refine EE.thenN ?_; refine CC.seq ?_; refine CC.seq ?_; refine CC.region ?_; refine LL.val (R.move rfl rfl) rfl rfl rfl ?_; refine LL.val (R.ltT rfl rfl rfl (by omega)) rfl rfl rfl ?_; refine LL.val (R.move rfl rfl) rfl rfl rfl ?_; refine LL.skip rfl rfl ?_; refine LL.skip rfl rfl ?_; refine LL.skip rfl rfl ?_; refine LL.skip rfl rfl ?_; refine LL.skip rfl rfl ?_; refine LL.skip rfl rfl ?_; refine LL.val (R.pick rfl rfl rfl) rfl rfl rfl ?_; refine LL.nilS ?_; refine CC.yes rfl ?_; refine CC.seq ?_; refine CC.region ?_; refine LL.val (R.assign rfl rfl) rfl rfl rfl ?_; refine LL.val (R.assign rfl rfl) rfl rfl rfl ?_; refine LL.nilS ?_; refine CC.ret ?_; refine EE.thenR ?_)
    refine EE.ret _ rfl rfl ?_
    exact ⟨rfl, Below.refl _ _⟩
  obtain ⟨n, rfl⟩ : ∃ n : Nat, fr = n := ⟨fr.toNat, by omega⟩
  by_cases h2 : (bits : Int) ≤ n
  · have e0 : findP P bits mm n = (0, 4) := by unfold findP; rw [if_neg h0, if_pos (.inr h2)]
    rw [e0]
    (refine LL.nilS ?_; refine CC.no rfl ?_; refine CC.skip ?_; refine EE.thenN ?_; refine CC.seq ?_; refine CC.seq ?_; refine CC.region ?_; refine LL.val (R.move rfl rfl) rfl rfl rfl ?_; refine LL.val (R.ltF rfl rfl rfl (by omega)) rfl rfl rfl ?_; refine LL.nilS ?_; refine CC.no rfl ?_; refine CC.skip ?_; refine EE.thenN ?_; refine CC.seq ?_; refine CC.seq ?_; refine CC.region ?_; refine LL.val (R.move rfl rfl) rfl rfl rfl ?_; refine LL.val (R.ltF rfl rfl rfl (by omega)) rfl rfl rfl ?_; refine LL.val (R.move rfl rfl) rfl rfl rfl ?_; refine LL.val (R.move rfl rfl) rfl rfl rfl ?_; refine LL.val (R.move rfl rfl) rfl rfl rfl ?_; refine LL.val (R.nil rfl rfl) rfl rfl rfl ?_; refine LL.val (R.field rfl rfl (I.fld rfl)) rfl rfl rfl ?_; refine LL.val (R.load rfl rfl (I.ld1 rfl (by assumption))) rfl rfl rfl ?_; refine LL.val (R.geT rfl rfl rfl (by omega)) rfl rfl rfl ?_; refine LL.val (R.pick rfl rfl rfl) rfl rfl rfl ?_; refine LL.nilS ?_; refine CC.yes rfl ?_; refine CC.seq ?_; refine CC.region ?_; refine LL.val (R.assign rfl rfl) rfl rfl rfl ?_; refine LL.val (R.assign rfl rfl) rfl rfl rfl ?_; refine LL.nilS ?_; refine CC.ret ?_; refine EE.thenR ?_)
    refine EE.ret _ rfl rfl ?_
    exact ⟨rfl, Below.refl _ _⟩
  have e0 : findP P bits mm n = match firstP P n (bits - n) mm with | some r => (r.1, 0) | none => match firstP P 0 bits mm with | some r => (r.1, 0) | none => (0, 5) := by
    unfold findP; rw [if_neg h0, if_neg (by omega)]; rfl
  rw [e0]
  (refine LL.nilS ?_; refine CC.no rfl ?_; refine CC.skip ?_; refine EE.thenN ?_; refine CC.seq ?_; refine CC.seq ?_; refine CC.region ?_; refine LL.val (R.move rfl rfl) rfl rfl rfl ?_; refine LL.val (R.ltF rfl rfl rfl (by omega)) rfl rfl rfl ?_; refine LL.nilS ?_; refine CC.no rfl ?_; refine CC.skip ?_; refine EE.thenN ?_; refine CC.seq ?_; refine CC.seq ?_; refine CC.region ?_; refine LL.val (R.move rfl rfl) rfl rfl rfl ?_; refine LL.val (R.ltF rfl rfl rfl (by omega)) rfl rfl rfl ?_; refine LL.val (R.move rfl rfl) rfl rfl rfl ?_; refine LL.val (R.move rfl rfl) rfl rfl rfl ?_; refine LL.val (R.move rfl rfl) rfl rfl rfl ?_; refine LL.val (R.nil rfl rfl) rfl rfl rfl ?_; refine LL.val (R.field rfl rfl (I.fld rfl)) rfl rfl rfl ?_; refine LL.val (R.load rfl rfl (I.ld1 rfl (by assumption))) rfl rfl rfl ?_; refine LL.val (R.geF rfl rfl rfl (by omega)) rfl rfl rfl ?_; refine LL.val (R.pick rfl rfl rfl) rfl rfl rfl ?_; refine LL.nilS ?_; refine CC.no rfl ?_; refine CC.skip ?_; refine EE.thenN ?_; refine CC.seq ?_; refine CC.region ?_; refine LL.val (R.move rfl rfl) rfl rfl rfl ?_; refine LL.val (R.move rfl rfl) rfl rfl rfl ?_; refine LL.val (R.move rfl rfl) rfl rfl rfl ?_)
  refine LL.call (R.call rfl rfl rfl) rfl rfl rfl (first_any mm n w h (by omega)) ?_
  rintro e w2 ⟨rfl, b2⟩
  rw [hP]
  refine ⟨_, rfl, ?_⟩
  have h2' := h.below b2
  cases hf : firstP P n (bits - n) mm with
  | some r =>
    have hr := firstP_le hf
    (refine LL.val (R.move rfl rfl) rfl rfl rfl ?_; refine LL.val (R.extract rfl rfl rfl) rfl rfl rfl ?_; refine LL.val (R.extract rfl rfl rfl) rfl rfl rfl ?_; refine LL.val (R.assign rfl rfl) rfl rfl rfl ?_; refine LL.val (R.assign rfl rfl) rfl rfl rfl ?_; refine LL.nilS ?_; refine CC.seq ?_; refine CC.seq ?_; refine CC.region ?_; refine LL.val (R.move rfl rfl) rfl rfl rfl ?_; refine LL.val (R.not rfl rfl) rfl rfl rfl ?_; refine LL.nilS ?_; refine CC.no rfl ?_; refine CC.skip ?_; refine EE.thenN ?_; refine CC.seq ?_; refine CC.seq ?_; refine CC.region ?_; refine LL.val (R.move rfl rfl) rfl rfl rfl ?_; refine LL.val (R.not rfl rfl) rfl rfl rfl ?_; refine LL.nilS ?_; refine CC.no rfl ?_; refine CC.skip ?_; refine EE.thenN ?_; refine CC.seq ?_; refine CC.region ?_; refine LL.val (R.move rfl rfl) rfl rfl rfl ?_; refine LL.val (R.assign rfl rfl) rfl rfl rfl ?_; refine LL.val (R.assign rfl rfl) rfl rfl rfl ?_; refine LL.nilS ?_; refine CC.ret ?_)
    refine EE.ret _ rfl rfl ?_
    exact ⟨rfl, b2⟩
  | none =>
    (refine LL.val (R.move rfl rfl) rfl rfl rfl ?_; refine LL.val (R.extract rfl rfl rfl) rfl rfl rfl ?_; refine LL.val (R.extract rfl rfl rfl) rfl rfl rfl ?_; refine LL.val (R.assign rfl rfl) rfl rfl rfl ?_; refine LL.val (R.assign rfl rfl) rfl rfl rfl ?_; refine LL.nilS ?_; refine CC.seq ?_; refine CC.seq ?_; refine CC.region ?_; refine LL.val (R.move rfl rfl) rfl rfl rfl ?_; refine LL.val (R.not rfl rfl) rfl rfl rfl ?_; refine LL.nilS ?_; refine CC.yes rfl ?_; refine CC.region ?_; refine LL.val (R.move rfl rfl) rfl rfl rfl ?_; refine LL.val (R.move rfl rfl) rfl rfl rfl ?_)
    refine LL.call (R.call rfl rfl rfl) rfl rfl rfl (first_any mm 0 w2 h2' (by omega)) ?_
    rintro e w3 ⟨rfl, b3⟩
    rw [hP]
    refine ⟨_, rfl, ?_⟩
    rw [Nat.sub_zero]
    have q3 : Below w.heap.size w w3 := b2.trans (b3.mono b2.size)
    cases hf2 : firstP P 0 bits mm with
    | some r =>
      (refine LL.val (R.move rfl rfl) rfl rfl rfl ?_; refine LL.val (R.extract rfl rfl rfl) rfl rfl rfl ?_; refine LL.val (R.extract rfl rfl rfl) rfl rfl rfl ?_; refine LL.val (R.assign rfl rfl) rfl rfl rfl ?_; refine LL.val (R.assign rfl rfl) rfl rfl rfl ?_; refine LL.nilS ?_; refine CC.seq ?_; refine CC.seq ?_; refine CC.region ?_; refine LL.val (R.move rfl rfl) rfl rfl rfl ?_; refine LL.val (R.not rfl rfl) rfl rfl rfl ?_; refine LL.nilS ?_; refine CC.no rfl ?_; refine CC.skip ?_; refine EE.thenN ?_; refine CC.seq ?_; refine CC.region ?_; refine LL.val (R.move rfl rfl) rfl rfl rfl ?_; refine LL.val (R.assign rfl rfl) rfl rfl rfl ?_; refine LL.val (R.assign rfl rfl) rfl rfl rfl ?_; refine LL.nilS ?_; refine CC.ret ?_)
      refine EE.ret _ rfl rfl ?_
      exact ⟨rfl, q3⟩
    | none =>
      (refine LL.val (R.move rfl rfl) rfl rfl rfl ?_; refine LL.val (R.extract rfl rfl rfl) rfl rfl rfl ?_; refine LL.val (R.extract rfl rfl rfl) rfl rfl rfl ?_; refine LL.val (R.assign rfl rfl) rfl rfl rfl ?_; refine LL.val (R.assign rfl rfl) rfl rfl rfl ?_; refine LL.nilS ?_; refine CC.seq ?_; refine CC.seq ?_; refine CC.region ?_; refine LL.val (R.move rfl rfl) rfl rfl rfl ?_; refine LL.val (R.not rfl rfl) rfl rfl rfl ?_; refine LL.nilS ?_; refine CC.yes rfl ?_; refine CC.seq ?_; refine CC.region ?_; refine LL.val (R.assign rfl rfl) rfl rfl rfl ?_; refine LL.val (R.assign rfl rfl) rfl rfl rfl ?_; refine LL.nilS ?_; refine CC.ret ?_; refine EE.thenR ?_)
      refine EE.ret _ rfl rfl ?_
      exact ⟨rfl, q3⟩

theorem runs_none (p : Option Addr) (w : World) (h : Calls Try.prog 29 #[.pointer p] w fun e w' => e = .returned (.bool true) ∧ w = w') : Calls Try.prog 20 #[.pointer p] w fun e w' => e = .returned (.func (.func 37) #[] #[]) ∧ w = w' := by
  refine X.fn Try.func20 rfl (n := 10) rfl rfl ?_
  (refine CC.seq ?_; refine CC.region ?_; refine LL.val (R.assign rfl rfl) rfl rfl rfl ?_; refine LL.nilS ?_; refine CC.seq ?_; refine CC.region ?_; refine LL.val (R.move rfl rfl) rfl rfl rfl ?_)
  refine LL.call (R.call rfl rfl rfl) rfl rfl rfl (bcopy_none _ _ h) ?_
  rintro e w1 ⟨rfl, rfl⟩
  refine ⟨_, rfl, ?_⟩
  (refine LL.val (R.assign rfl rfl) rfl rfl rfl ?_; refine LL.nilS ?_; refine CC.seq ?_; refine CC.seq ?_; refine CC.region ?_; refine LL.val (R.move rfl rfl) rfl rfl rfl ?_; refine LL.val (R.eqPtr rfl rfl rfl rfl rfl) rfl rfl rfl ?_; refine LL.nilS ?_; refine CC.yes rfl ?_; refine CC.seq ?_; refine CC.region ?_; refine LL.val (R.assign rfl rfl) rfl rfl rfl ?_; refine LL.nilS ?_; refine CC.ret ?_; refine EE.thenR ?_)
  refine EE.ret _ rfl rfl ?_
  exact ⟨rfl, rfl⟩
theorem noruns_gives (D : Nat → Prop) (w : World) : GivesM Try.prog 37 ([] : List Value).toArray (fun r => (encR r).toArray) D (fun xs => xs = []) w := by
  intro l J Jx W hW hJ hJx hY h0
  rw [show (#[.func (.yield l) #[] #[]] ++ ([] : List Value).toArray : Array Value) = #[.func (.yield l) #[] #[]] from rfl]
  refine X.fn Try.func37 rfl (n := 2) rfl rfl ?_
  (refine CC.skip ?_)
  refine EE.end [] rfl rfl ?_
  exact ⟨⟨_, rfl⟩, .inl ⟨0, _, rfl, h0 0⟩⟩
theorem runs_made {K : Nat → Prop} {g bits : Nat} {v : Value} {ws : List Nat} (w : World) (h : BmAt w K g v bits ws) :
    Calls Try.prog 20 #[.pointer (some ⟨g, 0, none⟩)] w fun e w' => ∃ g' v' b3 b4 b5, e = .returned (.func (.func 50) #[] [Value.pointer (some ⟨b5, 0, none⟩), .pointer (some ⟨b3, 0, none⟩), .pointer (some ⟨b4, 0, none⟩)].toArray) ∧
      SpAt w' g' b3 b4 v' bits ws true ∧ RowL w' b5 3 [.int .i64 ((0 : Nat) : Int)] ∧ w.heap.size ≤ b5 ∧ (∀ k, spD g' b3 b4 v' k → w.heap.size ≤ k) ∧ Below w.heap.size w w' := by
  refine X.fn Try.func20 rfl (n := 10) rfl rfl ?_
  (refine CC.seq ?_; refine CC.region ?_; refine LL.val (R.assign rfl rfl) rfl rfl rfl ?_; refine LL.nilS ?_; refine CC.seq ?_; refine CC.region ?_; refine LL.val (R.move rfl rfl) rfl rfl rfl ?_)
  refine LL.call (R.call rfl rfl rfl) rfl rfl rfl (bcopy_made _ h) ?_
  rintro e w1 ⟨g', v', rfl, h1, hg, b1⟩
  refine ⟨_, rfl, ?_⟩
  (refine LL.val (R.assign rfl rfl) rfl rfl rfl ?_; refine LL.nilS ?_; refine CC.seq ?_; refine CC.seq ?_; refine CC.region ?_; refine LL.val (R.move rfl rfl) rfl rfl rfl ?_; refine LL.val (R.eqPtr rfl rfl rfl rfl rfl) rfl rfl rfl ?_; refine LL.nilS ?_; refine CC.no rfl ?_; refine CC.skip ?_; refine EE.thenN ?_; refine CC.seq ?_; refine CC.region ?_; refine LL.val (R.move rfl rfl) rfl rfl rfl ?_)
  refine LL.call (R.call rfl rfl rfl) rfl rfl rfl (spans_any true 0 w1 h1 (by omega)) ?_
  rintro e w2 ⟨b3, b4, b5, rfl, hS, h5, l3, l4, l5, b2⟩
  refine ⟨_, rfl, ?_⟩
  have y1 := b1.size
  (refine LL.val (R.assign rfl rfl) rfl rfl rfl ?_; refine LL.nilS ?_; refine CC.ret ?_)
  refine EE.ret _ rfl rfl ?_
  refine ⟨g', v', b3, b4, b5, rfl, hS, h5, by omega, ?_, b1.trans (b2.mono y1)⟩
  rintro k (rfl | rfl | rfl | hk)
  · exact hg
  · omega
  · omega
  · rcases Nat.lt_or_ge k w.heap.size with hlt | hge
    · exact absurd hk (h1.kv k hlt)
    · exact hge
end Go.Proofs.Ytojoaplbgcdapaa
