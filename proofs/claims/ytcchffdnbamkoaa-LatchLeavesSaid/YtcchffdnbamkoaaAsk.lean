/- Ask, Free. -/
import Derived.Test.YtcchffdnbamkoaaGive
namespace Go.Proofs.Ytcchffdnbamkoaa
set_option linter.unusedVariables false
set_option linter.unusedSimpArgs false
open Go.RowKit Go.Shelf

set_option maxRecDepth 100000 in
set_option maxHeartbeats 4000000 in
theorem ask_any {K : Nat → Prop} {g : Nat} {vh vw : Value} {S : LS} (c : Int) (wr : Bool) (w : World) (h : LatchAt w K g vh vw (clP S) S.1 S.2) (hS : Good S) :
    Calls Try.prog 18 #[.pointer (some ⟨g, 0, none⟩), .int .i64 c, .bool wr] w fun e w' => e = .returned (.int .i64 ((askP S c wr).2 : Int)) ∧ ∃ vh' vw', LatchAt w' K g vh' vw' (clP (askP S c wr).1) (askP S c wr).1.1 (askP S c wr).1.2 ∧ Kept K w w' := by
  have hl8 := hS.len
  refine X.fn Try.func18 rfl (n := 40) rfl rfl ?_
  (refine CC.seq ?_; refine CC.region ?_; refine LL.val (R.assign rfl rfl) rfl rfl rfl ?_; refine LL.nilS ?_; refine CC.seq ?_; refine CC.seq ?_; refine CC.region ?_; refine LL.val (R.move rfl rfl) rfl rfl rfl ?_; refine LL.val (R.move rfl rfl) rfl rfl rfl ?_)
  refine LL.call (R.call rfl rfl rfl) rfl rfl rfl (client_made g vh vw (clP S) c _ h.len h.row) ?_
  rintro e w1 ⟨rfl, rfl⟩
  refine ⟨_, rfl, ?_⟩
  by_cases h1 : c < 0 ∨ 8 ≤ c
  · have e1 : askP S c wr = (S, 2) := by unfold askP; rw [if_pos h1]
    rw [if_pos h1, e1]
    (refine LL.val (R.assign rfl rfl) rfl rfl rfl ?_; refine LL.nilS ?_; refine CC.seq ?_; refine CC.region ?_; refine LL.val (R.move rfl rfl) rfl rfl rfl ?_; refine LL.val (R.neT rfl rfl rfl (by omega)) rfl rfl rfl ?_; refine LL.nilS ?_; refine CC.yes rfl ?_; refine CC.seq ?_; refine CC.region ?_; refine LL.val (R.move rfl rfl) rfl rfl rfl ?_; refine LL.val (R.assign rfl rfl) rfl rfl rfl ?_; refine LL.nilS ?_; refine CC.ret ?_; refine EE.thenR ?_)
    refine EE.ret _ rfl rfl ?_
    exact ⟨rfl, vh, vw, h, Kept.refl _ _⟩
  rw [if_neg h1]
  obtain ⟨n, rfl⟩ : ∃ n : Nat, c = n := ⟨c.toNat, by omega⟩
  have hn : n < 8 := by omega
  have c2 : w.cell? ⟨g, 2 + n, none⟩ = some (.int .i64 (stP S n : Int)) := h.row.cell (laL_cl (clP_get S hn))
  by_cases h2 : hasP (S.1 ++ S.2) n
  · have e1 : askP S n wr = (S, 191) := by unfold askP; rw [if_neg h1, if_pos h2]
    have hne : stP S n ≠ 0 := fun e => (stP_zero.1 e) h2
    rw [e1]
    (refine LL.val (R.assign rfl rfl) rfl rfl rfl ?_; refine LL.nilS ?_; refine CC.seq ?_; refine CC.region ?_; refine LL.val (R.move rfl rfl) rfl rfl rfl ?_; refine LL.val (R.neF rfl rfl rfl (by omega)) rfl rfl rfl ?_; refine LL.nilS ?_; refine CC.no rfl ?_; refine CC.skip ?_; refine EE.thenN ?_; refine CC.seq ?_; refine CC.seq ?_; refine CC.region ?_; refine LL.val (R.move rfl rfl) rfl rfl rfl ?_; refine LL.val (R.move rfl rfl) rfl rfl rfl ?_; refine LL.val (R.nil rfl rfl) rfl rfl rfl ?_; refine LL.val (R.field rfl rfl (I.fld rfl)) rfl rfl rfl ?_; refine LL.val (R.index rfl rfl rfl (I.ixA1 rfl (by omega))) rfl rfl rfl ?_; refine LL.val (R.load rfl rfl (I.ld1 rfl (by assumption))) rfl rfl rfl ?_; refine LL.val (R.neT rfl rfl rfl (by omega)) rfl rfl rfl ?_; refine LL.nilS ?_; refine CC.yes rfl ?_; refine CC.seq ?_; refine CC.region ?_; refine LL.val (R.assign rfl rfl) rfl rfl rfl ?_; refine LL.nilS ?_; refine CC.ret ?_; refine EE.thenR ?_)
    refine EE.ret _ rfl rfl ?_
    exact ⟨rfl, vh, vw, h, Kept.refl _ _⟩
  have e1 : askP S n wr = (giveP S.1 (S.2 ++ [(n, wr)]), 0) := by unfold askP; rw [if_neg h1, if_neg h2]; simp
  have h0 : stP S n = 0 := stP_zero.2 h2
  rw [h0] at c2
  rw [e1]
  (refine LL.val (R.assign rfl rfl) rfl rfl rfl ?_; refine LL.nilS ?_; refine CC.seq ?_; refine CC.region ?_; refine LL.val (R.move rfl rfl) rfl rfl rfl ?_; refine LL.val (R.neF rfl rfl rfl (by omega)) rfl rfl rfl ?_; refine LL.nilS ?_; refine CC.no rfl ?_; refine CC.skip ?_; refine EE.thenN ?_; refine CC.seq ?_; refine CC.seq ?_; refine CC.region ?_; refine LL.val (R.move rfl rfl) rfl rfl rfl ?_; refine LL.val (R.move rfl rfl) rfl rfl rfl ?_; refine LL.val (R.nil rfl rfl) rfl rfl rfl ?_; refine LL.val (R.field rfl rfl (I.fld rfl)) rfl rfl rfl ?_; refine LL.val (R.index rfl rfl rfl (I.ixA1 rfl (by omega))) rfl rfl rfl ?_; refine LL.val (R.load rfl rfl (I.ld1 rfl (by assumption))) rfl rfl rfl ?_; refine LL.val (R.neF rfl rfl rfl (by omega)) rfl rfl rfl ?_; refine LL.nilS ?_; refine CC.no rfl ?_; refine CC.skip ?_; refine EE.thenN ?_; refine CC.seq ?_; refine CC.region ?_; refine LL.val (R.move rfl rfl) rfl rfl rfl ?_; refine LL.val (R.move rfl rfl) rfl rfl rfl ?_; refine LL.val (R.nil rfl rfl) rfl rfl rfl ?_; refine LL.val (R.field rfl rfl (I.fld rfl)) rfl rfl rfl ?_; refine LL.val (R.index rfl rfl rfl (I.ixA1 rfl (by omega))) rfl rfl rfl ?_)
  refine LL.store (v := .int .i64 2) rfl rfl rfl rfl h.row (by rw [laL_len h.len]; show 2 + n < 11; omega) rfl rfl rfl rfl ?_
  intro w1 r1 g1 z1
  obtain ⟨hL1, k1⟩ := h.setCl (x := 2) hn (by simpa [Nat.add_comm] using r1) g1
  rw [clP_ask wr h2] at hL1
  have c3 : w1.cell? ⟨g, 1, none⟩ = some vw := hL1.row.cell rfl
  (refine LL.nilS ?_; refine CC.seq ?_; refine CC.region ?_; refine LL.val (R.move rfl rfl) rfl rfl rfl ?_; refine LL.val (R.move rfl rfl) rfl rfl rfl ?_; refine LL.val (R.nil rfl rfl) rfl rfl rfl ?_; refine LL.val (R.field rfl rfl (I.fld rfl)) rfl rfl rfl ?_; refine LL.val (R.load rfl rfl (I.ld1 rfl (by assumption))) rfl rfl rfl ?_; refine LL.val (R.move rfl rfl) rfl rfl rfl ?_; refine LL.val (R.move rfl rfl) rfl rfl rfl ?_)
  refine LL.val (R.buildV rfl rfl (v := .agg (tE (n, wr)).toArray) (fun _ => by kernel_rfl)) rfl rfl rfl ?_
  refine LL.lit (e := 51) (tE (n, wr)) 1 rfl rfl (fun _ => by kernel_rfl) rfl rfl ?_
  intro w2 g2 e2 r2 z2 b2
  have hL2 := hL1.below b2
  have rd : ReadsTn w2 (.slice (some ⟨g2, 0, none⟩) 1 1) [(n, wr)] := RowL.readsT (ts := [(n, wr)]) tEnc (by simpa using r2) 1 (by simp)
  refine LL.appendT2 rfl rfl tEnc ElTurn hL2.waits rd (by simp [maxLen]; omega) (by simp; omega) (Nat.zero_le _) rfl rfl ?_
  intro v3 w3 o3 g3 hwhere
  have r3 : RowL w3 g 60 (laL vh vw (clP (S.1, S.2 ++ [(n, wr)]))) := hL2.row.same (g3.block g hL2.row.lt (by first | exact hL2.gw | exact fun e => hL2.gw e.symm))
  obtain ⟨a, cp, rfl, _⟩ := (o3.reads tEnc).form rfl
  (refine LL.val (R.nil rfl rfl) rfl rfl rfl ?_; refine LL.val (R.field rfl rfl (I.fld rfl)) rfl rfl rfl ?_)
  refine LL.store rfl rfl rfl rfl r3 (by rw [laL_len hL2.len]; decide) rfl rfl rfl rfl ?_
  intro w4 r4 g4 z4
  obtain ⟨hL4, k4⟩ := hL2.setW o3 hwhere g3 r4 g4
  (refine LL.nilS ?_; refine CC.seq ?_; refine CC.region ?_; refine LL.val (R.move rfl rfl) rfl rfl rfl ?_)
  refine LL.call (R.call rfl rfl rfl) rfl rfl rfl (give_any (S := (S.1, S.2 ++ [(n, wr)])) w4 hL4 (hS.more wr hn h2)) ?_
  rintro e w5 ⟨rfl, vh5, vw5, hL5, k5⟩
  refine ⟨_, rfl, ?_⟩
  (refine LL.nilS ?_; refine CC.seq ?_; refine CC.region ?_; refine LL.val (R.assign rfl rfl) rfl rfl rfl ?_; refine LL.nilS ?_; refine CC.ret ?_)
  refine EE.ret _ rfl rfl ?_
  exact ⟨rfl, vh5, vw5, hL5, (k1.trans (bkept b2 hL1.kl)).trans (k4.trans k5)⟩

set_option maxRecDepth 100000 in
set_option maxHeartbeats 4000000 in
theorem free_any {K : Nat → Prop} {g : Nat} {vh vw : Value} {S : LS} (c : Int) (w : World) (h : LatchAt w K g vh vw (clP S) S.1 S.2) (hS : Good S) :
    Calls Try.prog 19 #[.pointer (some ⟨g, 0, none⟩), .int .i64 c] w fun e w' => e = .returned (.int .i64 ((freeP S c).2 : Int)) ∧ ∃ vh' vw', LatchAt w' K g vh' vw' (clP (freeP S c).1) (freeP S c).1.1 (freeP S c).1.2 ∧ Kept K w w' := by
  have hl8 := hS.len
  refine X.fn Try.func19 rfl (n := 46) rfl rfl ?_
  (refine CC.seq ?_; refine CC.region ?_; refine LL.val (R.assign rfl rfl) rfl rfl rfl ?_; refine LL.nilS ?_; refine CC.seq ?_; refine CC.seq ?_; refine CC.region ?_; refine LL.val (R.move rfl rfl) rfl rfl rfl ?_; refine LL.val (R.move rfl rfl) rfl rfl rfl ?_)
  refine LL.call (R.call rfl rfl rfl) rfl rfl rfl (client_made g vh vw (clP S) c _ h.len h.row) ?_
  rintro e w1 ⟨rfl, rfl⟩
  refine ⟨_, rfl, ?_⟩
  by_cases h1 : c < 0 ∨ 8 ≤ c
  · have e1 : freeP S c = (S, 2) := by unfold freeP; rw [if_pos h1]
    rw [if_pos h1, e1]
    (refine LL.val (R.assign rfl rfl) rfl rfl rfl ?_; refine LL.nilS ?_; refine CC.seq ?_; refine CC.region ?_; refine LL.val (R.move rfl rfl) rfl rfl rfl ?_; refine LL.val (R.neT rfl rfl rfl (by omega)) rfl rfl rfl ?_; refine LL.nilS ?_; refine CC.yes rfl ?_; refine CC.seq ?_; refine CC.region ?_; refine LL.val (R.move rfl rfl) rfl rfl rfl ?_; refine LL.val (R.assign rfl rfl) rfl rfl rfl ?_; refine LL.nilS ?_; refine CC.ret ?_; refine EE.thenR ?_)
    refine EE.ret _ rfl rfl ?_
    exact ⟨rfl, vh, vw, h, Kept.refl _ _⟩
  rw [if_neg h1]
  obtain ⟨n, rfl⟩ : ∃ n : Nat, c = n := ⟨c.toNat, by omega⟩
  have hn : n < 8 := by omega
  have c2 : w.cell? ⟨g, 2 + n, none⟩ = some (.int .i64 (stP S n : Int)) := h.row.cell (laL_cl (clP_get S hn))
  by_cases h2n : ¬ hasP (S.1 ++ S.2) n
  · have e1 : freeP S n = (S, 5) := by unfold freeP; rw [if_neg h1, if_neg h2n]
    have h0 : stP S n = 0 := stP_zero.2 h2n
    rw [h0] at c2
    rw [e1]
    (refine LL.val (R.assign rfl rfl) rfl rfl rfl ?_; refine LL.nilS ?_; refine CC.seq ?_; refine CC.region ?_; refine LL.val (R.move rfl rfl) rfl rfl rfl ?_; refine LL.val (R.neF rfl rfl rfl (by omega)) rfl rfl rfl ?_; refine LL.nilS ?_; refine CC.no rfl ?_; refine CC.skip ?_; refine EE.thenN ?_; refine CC.seq ?_; refine CC.seq ?_; refine CC.region ?_; refine LL.val (R.move rfl rfl) rfl rfl rfl ?_; refine LL.val (R.move rfl rfl) rfl rfl rfl ?_; refine LL.val (R.nil rfl rfl) rfl rfl rfl ?_; refine LL.val (R.field rfl rfl (I.fld rfl)) rfl rfl rfl ?_; refine LL.val (R.index rfl rfl rfl (I.ixA1 rfl (by omega))) rfl rfl rfl ?_; refine LL.val (R.load rfl rfl (I.ld1 rfl (by assumption))) rfl rfl rfl ?_; refine LL.val (R.eqT rfl rfl rfl (by omega)) rfl rfl rfl ?_; refine LL.nilS ?_; refine CC.yes rfl ?_; refine CC.seq ?_; refine CC.region ?_; refine LL.val (R.assign rfl rfl) rfl rfl rfl ?_; refine LL.nilS ?_; refine CC.ret ?_; refine EE.thenR ?_)
    refine EE.ret _ rfl rfl ?_
    exact ⟨rfl, vh, vw, h, Kept.refl _ _⟩
  have h2 := Classical.not_not.1 h2n
  have e1 : freeP S n = (giveP (outP S.1 n) (outP S.2 n), 0) := by unfold freeP; rw [if_neg h1, if_pos h2]
  have hne : stP S n ≠ 0 := fun e => (stP_zero.1 e) h2
  rw [e1]
  (refine LL.val (R.assign rfl rfl) rfl rfl rfl ?_; refine LL.nilS ?_; refine CC.seq ?_; refine CC.region ?_; refine LL.val (R.move rfl rfl) rfl rfl rfl ?_; refine LL.val (R.neF rfl rfl rfl (by omega)) rfl rfl rfl ?_; refine LL.nilS ?_; refine CC.no rfl ?_; refine CC.skip ?_; refine EE.thenN ?_; refine CC.seq ?_; refine CC.seq ?_; refine CC.region ?_; refine LL.val (R.move rfl rfl) rfl rfl rfl ?_; refine LL.val (R.move rfl rfl) rfl rfl rfl ?_; refine LL.val (R.nil rfl rfl) rfl rfl rfl ?_; refine LL.val (R.field rfl rfl (I.fld rfl)) rfl rfl rfl ?_; refine LL.val (R.index rfl rfl rfl (I.ixA1 rfl (by omega))) rfl rfl rfl ?_; refine LL.val (R.load rfl rfl (I.ld1 rfl (by assumption))) rfl rfl rfl ?_; refine LL.val (R.eqF rfl rfl rfl (by omega)) rfl rfl rfl ?_; refine LL.nilS ?_; refine CC.no rfl ?_; refine CC.skip ?_; refine EE.thenN ?_; refine CC.seq ?_; refine CC.region ?_; refine LL.val (R.move rfl rfl) rfl rfl rfl ?_; refine LL.val (R.move rfl rfl) rfl rfl rfl ?_; refine LL.val (R.nil rfl rfl) rfl rfl rfl ?_; refine LL.val (R.field rfl rfl (I.fld rfl)) rfl rfl rfl ?_; refine LL.val (R.index rfl rfl rfl (I.ixA1 rfl (by omega))) rfl rfl rfl ?_)
  refine LL.store (v := .int .i64 0) rfl rfl rfl rfl h.row (by rw [laL_len h.len]; show 2 + n < 11; omega) rfl rfl rfl rfl ?_
  intro w1 r1 g1 z1
  obtain ⟨hL1, k1⟩ := h.setCl (x := 0) hn (by simpa [Nat.add_comm] using r1) g1
  rw [clP_out S n] at hL1
  have c3 : w1.cell? ⟨g, 0, none⟩ = some vh := hL1.row.cell rfl
  (refine LL.nilS ?_; refine CC.seq ?_; refine CC.region ?_; refine LL.val (R.move rfl rfl) rfl rfl rfl ?_; refine LL.val (R.move rfl rfl) rfl rfl rfl ?_; refine LL.val (R.nil rfl rfl) rfl rfl rfl ?_; refine LL.val (R.field rfl rfl (I.fld rfl)) rfl rfl rfl ?_; refine LL.val (R.field rfl rfl (I.fld rfl)) rfl rfl rfl ?_; refine LL.val (R.load rfl rfl (I.ld1 rfl (by assumption))) rfl rfl rfl ?_; refine LL.val (R.move rfl rfl) rfl rfl rfl ?_)
  refine LL.call (R.call rfl rfl rfl) rfl rfl rfl (lwithout_any vh S.1 n w1 hL1.held (by omega)) ?_
  rintro e w2 ⟨v2, rfl, o2, hv2, g2⟩
  refine ⟨_, rfl, ?_⟩
  have r2 : RowL w2 g 60 (laL vh vw (clP (outP S.1 n, outP S.2 n))) := hL1.row.same (g2.block g hL1.row.lt (by first | exact hL1.gh | exact fun e => hL1.gh e.symm))
  obtain ⟨a, cp, rfl, _⟩ := (o2.reads tEnc).form rfl
  (refine LL.val (R.nil rfl rfl) rfl rfl rfl ?_; refine LL.val (R.field rfl rfl (I.fld rfl)) rfl rfl rfl ?_; refine LL.val (R.field rfl rfl (I.fld rfl)) rfl rfl rfl ?_)
  refine LL.store rfl rfl rfl rfl r2 (by rw [laL_len hL1.len]; decide) rfl rfl rfl rfl ?_
  intro w3 r3 g3 z3
  obtain ⟨hL3, k3⟩ := hL1.setH o2 (.inl hv2) g2 r3 g3
  have c4 : w3.cell? ⟨g, 1, none⟩ = some vw := hL3.row.cell rfl
  (refine LL.nilS ?_; refine CC.seq ?_; refine CC.region ?_; refine LL.val (R.move rfl rfl) rfl rfl rfl ?_; refine LL.val (R.move rfl rfl) rfl rfl rfl ?_; refine LL.val (R.nil rfl rfl) rfl rfl rfl ?_; refine LL.val (R.field rfl rfl (I.fld rfl)) rfl rfl rfl ?_; refine LL.val (R.load rfl rfl (I.ld1 rfl (by assumption))) rfl rfl rfl ?_; refine LL.val (R.move rfl rfl) rfl rfl rfl ?_)
  refine LL.call (R.call rfl rfl rfl) rfl rfl rfl (lwithout_any vw S.2 n w3 hL3.waits (by omega)) ?_
  rintro e w4 ⟨v4, rfl, o4, hv4, g4⟩
  refine ⟨_, rfl, ?_⟩
  have r4 := hL3.row.same (g4.block g hL3.row.lt (by first | exact hL3.gw | exact fun e => hL3.gw e.symm))
  obtain ⟨a4, cp4, rfl, _⟩ := (o4.reads tEnc).form rfl
  (refine LL.val (R.nil rfl rfl) rfl rfl rfl ?_; refine LL.val (R.field rfl rfl (I.fld rfl)) rfl rfl rfl ?_)
  refine LL.store rfl rfl rfl rfl r4 (by rw [laL_len hL3.len]; decide) rfl rfl rfl rfl ?_
  intro w5 r5 g5 z5
  obtain ⟨hL5, k5⟩ := hL3.setW o4 (.inl hv4) g4 r5 g5
  (refine LL.nilS ?_; refine CC.seq ?_; refine CC.region ?_; refine LL.val (R.move rfl rfl) rfl rfl rfl ?_)
  refine LL.call (R.call rfl rfl rfl) rfl rfl rfl (give_any (S := (outP S.1 n, outP S.2 n)) w5 hL5 (hS.out n)) ?_
  rintro e w6 ⟨rfl, vh6, vw6, hL6, k6⟩
  refine ⟨_, rfl, ?_⟩
  (refine LL.nilS ?_; refine CC.seq ?_; refine CC.region ?_; refine LL.val (R.assign rfl rfl) rfl rfl rfl ?_; refine LL.nilS ?_; refine CC.ret ?_)
  refine EE.ret _ rfl rfl ?_
  exact ⟨rfl, vh6, vw6, hL6, k1.trans (k3.trans (k5.trans k6))⟩
end Go.Proofs.Ytcchffdnbamkoaa
