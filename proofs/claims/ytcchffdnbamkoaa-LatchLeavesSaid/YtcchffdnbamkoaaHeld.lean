/- Held, Holds. -/
import Derived.Test.YtcchffdnbamkoaaDelete
namespace Go.Proofs.Ytcchffdnbamkoaa
set_option linter.unusedVariables false
set_option linter.unusedSimpArgs false
open Go.RowKit Go.Shelf

theorem held_nil (w : World) : Calls Try.prog 14 #[.pointer none] w fun e w' => e = .returned (.slice none 0 0) ∧ w = w' := by
  refine X.fn Try.func14 rfl (n := 11) rfl rfl ?_
  (refine CC.seq ?_; refine CC.region ?_; refine LL.val (R.assign rfl rfl) rfl rfl rfl ?_; refine LL.nilS ?_; refine CC.seq ?_; refine CC.seq ?_; refine CC.region ?_; refine LL.val (R.move rfl rfl) rfl rfl rfl ?_)
  refine LL.call (R.call rfl rfl rfl) rfl rfl rfl (lnone_nil _) ?_
  rintro e w1 ⟨rfl, rfl⟩
  refine ⟨_, rfl, ?_⟩
  (refine LL.nilS ?_; refine CC.yes rfl ?_; refine CC.seq ?_; refine CC.region ?_; refine LL.val (R.assign rfl rfl) rfl rfl rfl ?_; refine LL.nilS ?_; refine CC.ret ?_; refine EE.thenR ?_)
  refine EE.ret _ rfl rfl ?_
  exact ⟨rfl, rfl⟩
theorem held_any {K : Nat → Prop} {g : Nat} {vh vw : Value} {cl : List Nat} {hs ws : List Tn} (w : World) (h : LatchAt w K g vh vw cl hs ws) (hl : hs.length ≤ 1048576) :
    Calls Try.prog 14 #[.pointer (some ⟨g, 0, none⟩)] w fun e w' => ∃ v', e = .returned v' ∧ OwnsT tE 2 w' w.heap.size 51 v' hs ∧ Below w.heap.size w w' := by
  have c0 : w.cell? ⟨g, 0, none⟩ = some vh := h.row.cell rfl
  refine X.fn Try.func14 rfl (n := 11) rfl rfl ?_
  (refine CC.seq ?_; refine CC.region ?_; refine LL.val (R.assign rfl rfl) rfl rfl rfl ?_; refine LL.nilS ?_; refine CC.seq ?_; refine CC.seq ?_; refine CC.region ?_; refine LL.val (R.move rfl rfl) rfl rfl rfl ?_)
  refine LL.call (R.call rfl rfl rfl) rfl rfl rfl (lnone_made g vh vw cl _ h.len h.row) ?_
  rintro e w1 ⟨rfl, rfl⟩
  refine ⟨_, rfl, ?_⟩
  (refine LL.nilS ?_; refine CC.no rfl ?_; refine CC.skip ?_; refine EE.thenN ?_; refine CC.seq ?_; refine CC.region ?_; refine LL.val (R.move rfl rfl) rfl rfl rfl ?_; refine LL.val (R.nil rfl rfl) rfl rfl rfl ?_; refine LL.val (R.field rfl rfl (I.fld rfl)) rfl rfl rfl ?_; refine LL.val (R.field rfl rfl (I.fld rfl)) rfl rfl rfl ?_; refine LL.val (R.load rfl rfl (I.ld1 rfl (by assumption))) rfl rfl rfl ?_)
  refine LL.call (R.call rfl rfl rfl) rfl rfl rfl (clone_any vh hs w (h.held.reads tEnc) hl) ?_
  rintro e w2 ⟨v2, rfl, o2, b2⟩
  refine ⟨_, rfl, ?_⟩
  (refine LL.val (R.assign rfl rfl) rfl rfl rfl ?_; refine LL.nilS ?_; refine CC.ret ?_)
  refine EE.ret _ rfl rfl ?_
  exact ⟨v2, rfl, o2, b2⟩
theorem holds_nil (n : Int) (w : World) : Calls Try.prog 20 #[.pointer none, .int .i64 n] w fun e w' => e = .returned (.bool false) ∧ w = w' := by
  refine X.fn Try.func20 rfl (n := 18) rfl rfl ?_
  (refine CC.seq ?_; refine CC.region ?_; refine LL.val (R.assign rfl rfl) rfl rfl rfl ?_; refine LL.nilS ?_; refine CC.seq ?_; refine CC.region ?_; refine LL.val (R.move rfl rfl) rfl rfl rfl ?_; refine LL.val (R.move rfl rfl) rfl rfl rfl ?_)
  refine LL.call (R.call rfl rfl rfl) rfl rfl rfl (client_nil n _) ?_
  rintro e w1 ⟨rfl, rfl⟩
  refine ⟨_, rfl, ?_⟩
  (refine LL.val (R.eqF rfl rfl rfl (by omega)) rfl rfl rfl ?_; refine LL.val (R.move rfl rfl) rfl rfl rfl ?_; refine LL.skip rfl rfl ?_; refine LL.skip rfl rfl ?_; refine LL.skip rfl rfl ?_; refine LL.skip rfl rfl ?_; refine LL.skip rfl rfl ?_; refine LL.skip rfl rfl ?_; refine LL.skip rfl rfl ?_; refine LL.val (R.pick rfl rfl rfl) rfl rfl rfl ?_; refine LL.val (R.assign rfl rfl) rfl rfl rfl ?_; refine LL.nilS ?_; refine CC.ret ?_)
  refine EE.ret _ rfl rfl ?_
  exact ⟨rfl, rfl⟩
theorem holds_bad {K : Nat → Prop} {g : Nat} {vh vw : Value} {cl : List Nat} {hs ws : List Tn} (n : Int) (w : World) (h : LatchAt w K g vh vw cl hs ws) (hn : n < 0 ∨ 8 ≤ n) :
    Calls Try.prog 20 #[.pointer (some ⟨g, 0, none⟩), .int .i64 n] w fun e w' => e = .returned (.bool false) ∧ w = w' := by
  refine X.fn Try.func20 rfl (n := 18) rfl rfl ?_
  (refine CC.seq ?_; refine CC.region ?_; refine LL.val (R.assign rfl rfl) rfl rfl rfl ?_; refine LL.nilS ?_; refine CC.seq ?_; refine CC.region ?_; refine LL.val (R.move rfl rfl) rfl rfl rfl ?_; refine LL.val (R.move rfl rfl) rfl rfl rfl ?_)
  refine LL.call (R.call rfl rfl rfl) rfl rfl rfl (client_made g vh vw cl n _ h.len h.row) ?_
  rintro e w1 ⟨rfl, rfl⟩
  refine ⟨_, rfl, ?_⟩
  rw [if_pos hn]
  (refine LL.val (R.eqF rfl rfl rfl (by omega)) rfl rfl rfl ?_; refine LL.val (R.move rfl rfl) rfl rfl rfl ?_; refine LL.skip rfl rfl ?_; refine LL.skip rfl rfl ?_; refine LL.skip rfl rfl ?_; refine LL.skip rfl rfl ?_; refine LL.skip rfl rfl ?_; refine LL.skip rfl rfl ?_; refine LL.skip rfl rfl ?_; refine LL.val (R.pick rfl rfl rfl) rfl rfl rfl ?_; refine LL.val (R.assign rfl rfl) rfl rfl rfl ?_; refine LL.nilS ?_; refine CC.ret ?_)
  refine EE.ret _ rfl rfl ?_
  exact ⟨rfl, rfl⟩
theorem holds_any {K : Nat → Prop} {g : Nat} {vh vw : Value} {cl : List Nat} {hs ws : List Tn} (c x : Nat) (w : World) (h : LatchAt w K g vh vw cl hs ws) (hc : cl[c]? = some x) :
    Calls Try.prog 20 #[.pointer (some ⟨g, 0, none⟩), .int .i64 (c : Int)] w fun e w' => e = .returned (.bool (decide (x = 1))) ∧ w = w' := by
  have hc8 : c < 8 := by have := (List.getElem?_eq_some_iff.1 hc).1; rwa [h.len] at this
  have c0 : w.cell? ⟨g, 2 + c, none⟩ = some (.int .i64 (x : Int)) := h.row.cell (laL_cl hc)
  refine X.fn Try.func20 rfl (n := 18) rfl rfl ?_
  (refine CC.seq ?_; refine CC.region ?_; refine LL.val (R.assign rfl rfl) rfl rfl rfl ?_; refine LL.nilS ?_; refine CC.seq ?_; refine CC.region ?_; refine LL.val (R.move rfl rfl) rfl rfl rfl ?_; refine LL.val (R.move rfl rfl) rfl rfl rfl ?_)
  refine LL.call (R.call rfl rfl rfl) rfl rfl rfl (client_made g vh vw cl c _ h.len h.row) ?_
  rintro e w1 ⟨rfl, rfl⟩
  refine ⟨_, rfl, ?_⟩
  rw [if_neg (by omega)]
  by_cases hx : x = 1
  · (refine LL.val (R.eqT rfl rfl rfl (by omega)) rfl rfl rfl ?_; refine LL.val (R.move rfl rfl) rfl rfl rfl ?_; refine LL.val (R.move rfl rfl) rfl rfl rfl ?_; refine LL.val (R.move rfl rfl) rfl rfl rfl ?_; refine LL.val (R.nil rfl rfl) rfl rfl rfl ?_; refine LL.val (R.field rfl rfl (I.fld rfl)) rfl rfl rfl ?_; refine LL.val (R.index rfl rfl rfl (I.ixA1 rfl (by omega))) rfl rfl rfl ?_; refine LL.val (R.load rfl rfl (I.ld1 rfl (by assumption))) rfl rfl rfl ?_; refine LL.val (R.eqT rfl rfl rfl (by omega)) rfl rfl rfl ?_; refine LL.val (R.pick rfl rfl rfl) rfl rfl rfl ?_; refine LL.val (R.assign rfl rfl) rfl rfl rfl ?_; refine LL.nilS ?_; refine CC.ret ?_)
    refine EE.ret _ rfl rfl ?_
    exact ⟨by simp [resV, hx], rfl⟩
  · (refine LL.val (R.eqT rfl rfl rfl (by omega)) rfl rfl rfl ?_; refine LL.val (R.move rfl rfl) rfl rfl rfl ?_; refine LL.val (R.move rfl rfl) rfl rfl rfl ?_; refine LL.val (R.move rfl rfl) rfl rfl rfl ?_; refine LL.val (R.nil rfl rfl) rfl rfl rfl ?_; refine LL.val (R.field rfl rfl (I.fld rfl)) rfl rfl rfl ?_; refine LL.val (R.index rfl rfl rfl (I.ixA1 rfl (by omega))) rfl rfl rfl ?_; refine LL.val (R.load rfl rfl (I.ld1 rfl (by assumption))) rfl rfl rfl ?_; refine LL.val (R.eqF rfl rfl rfl (by omega)) rfl rfl rfl ?_; refine LL.val (R.pick rfl rfl rfl) rfl rfl rfl ?_; refine LL.val (R.assign rfl rfl) rfl rfl rfl ?_; refine LL.nilS ?_; refine CC.ret ?_)
    refine EE.ret _ rfl rfl ?_
    exact ⟨by simp [resV, hx], rfl⟩
end Go.Proofs.Ytcchffdnbamkoaa
