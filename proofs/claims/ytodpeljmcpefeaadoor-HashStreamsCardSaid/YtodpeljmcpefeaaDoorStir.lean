/- A round of the program, so many rounds, a word of eight bytes taken in. -/
import Derived.Test.YtodpeljmcpefeaaDoorHs
import Derived.Test.YtodpeljmcpefeaaDoorRot
import Derived.Test.YtodpeljmcpefeaaDoorWV
namespace Go.Proofs.YtodpeljmcpefeaaDoor
set_option linter.unusedVariables false
set_option linter.unusedSimpArgs false
open Go.RowKit Go.Shelf

/-- What the turns' variable holds. -/
def Tu (w : World) : Prop := ∀ (i : Nat) (v : Nat), [13, 32, 16, 21, 17, 32][i]? = some v → w.cell? ⟨0, i, none⟩ = some (.int .i64 (v : Int))
theorem Tu.grown {w w' : World} {B : Nat} (h : Tu w) (g : w.grownBy w' (some B)) (hB : B ≠ 0) : Tu w' := fun i v hv => grown_cell (h i v hv) g (by simpa using Ne.symm hB)
theorem Tu.below {w w' : World} (h : Tu w) (g : Below w.heap.size w w') : Tu w' := fun i v hv => (g.cell (p := ⟨0, i, none⟩) (by
  obtain ⟨o, ho, _⟩ := cells_of_cell (h i v hv); exact (Array.getElem?_eq_some_iff.1 ho).1)).trans (h i v hv)
theorem grown_below {w w' : World} (h : Below w.heap.size w w') (r : Option Nat) : w.grownBy w' r := ⟨h.os, h.tape, h.output, h.size, fun k hk _ => h.block k hk⟩
/-- The state's block, and what is known beside it. -/
structure LnW (w0 w : World) (rb B : Nat) (s : St) (rest : List Value) : Prop where
  hR : w.cell? ⟨rb, 0, none⟩ = some (.pointer (some ⟨B, 0, none⟩))
  row : RowL w B 46 (L4 s ++ rest)
  tu : Tu w
  gr : w0.grownBy w (some B)
  hRB : rb ≠ B
  hB : B ≠ 0
section
variable {w0 w w' : World} {rb B : Nat} {s s' : St} {rest : List Value}
theorem LnW.drew (h : LnW w0 w rb B s rest) : LnW w0 w.drew rb B s rest := ⟨h.hR, h.row.drew, h.tu, ⟨h.gr.os, h.gr.tape, h.gr.output, h.gr.size, h.gr.block⟩, h.hRB, h.hB⟩
theorem LnW.set (h : LnW w0 w rb B s rest) (hr : RowL w' B 46 (L4 s' ++ rest)) (hg : w.grownBy w' (some B)) : LnW w0 w' rb B s' rest :=
  ⟨grown_cell h.hR hg (by simpa using h.hRB), hr, h.tu.grown hg h.hB, grown_trans h.gr hg, h.hRB, h.hB⟩
end
theorem RaddE {P : Program} {w : World} {o : Oper} {n : Nat} {D : List Deferred} {M : Slots} {x y : Operand} {t u : TypeId} {a b z : Nat} (ho : o.op = .binOp .add t x y u) (hx : evM M x = some (.int .u64 (a : Int))) (hy : evM M y = some (.int .u64 (b : Int))) (e : addU a b = z) : Runs P n D M o w (.value (.int .u64 (z : Int))) w := R.addU ho hx hy e
theorem RxorE {P : Program} {w : World} {o : Oper} {n : Nat} {D : List Deferred} {M : Slots} {x y : Operand} {t u : TypeId} {a b z : Nat} (ho : o.op = .binOp .xor t x y u) (hx : evM M x = some (.int .u64 (a : Int))) (hy : evM M y = some (.int .u64 (b : Int))) (ha : a < 18446744073709551616) (hb : b < 18446744073709551616) (e : a ^^^ b = z) : Runs P n D M o w (.value (.int .u64 (z : Int))) w := by
  subst e; exact R.xorU ho hx hy ha hb
theorem rotE {x n z : Nat} (hx : x < 18446744073709551616) (h0 : 0 < n) (hn : n < 64) (e : rotl x n = z) (w : World) : Calls Tryd.prog 27 #[.int .u64 x, .int .i64 n] w fun e w' => e = .returned (.int .u64 (z : Nat)) ∧ w = w' := by
  subst e; exact rot_any x n w hx h0 hn
set_option maxRecDepth 100000 in
set_option maxHeartbeats 1000000 in
theorem stir1_any (rb B a b c d : Nat) (rest : List Value) (w0 w : World) (h : LnW w0 w rb B (a, b, c, d) rest) (b_a : a < 18446744073709551616) (b_b : b < 18446744073709551616) (b_c : c < 18446744073709551616) (b_d : d < 18446744073709551616) :
    Calls Tryd.prog 26 #[.pointer (some ⟨rb, 0, none⟩)] w fun e w' => (∃ v, e = .returned v) ∧ LnW w0 w' rb B (round4 (a, b, c, d)) rest := by
  refine X.fn Tryd.func26 rfl (n := 125) rfl rfl ?_
  obtain ⟨a1, e_a1⟩ : ∃ z, addU a b = z := ⟨_, rfl⟩
  have b_a1 : a1 < 18446744073709551616 := by rw [← e_a1]; exact addU_lt _ _
  refine CC.seq ?_
  refine CC.tail 11 (by kernel_rfl) (by kernel_rfl) ?_
  replace h := h.drew
  obtain ⟨u0, hv⟩ : ∃ v, w.drew = v := ⟨_, rfl⟩
  rw [hv] at h ⊢
  clear hv w
  refine SS.val (R.load rfl rfl (I.ld1 rfl h.hR)) rfl rfl ?_
  refine SS.val (R.nil rfl rfl) rfl rfl ?_
  refine SS.val (R.index rfl rfl rfl (I.ixA1c rfl rfl (by decide))) rfl rfl ?_
  refine SS.val (R.load rfl rfl (I.ld1 rfl (h.row.cell rfl))) rfl rfl ?_
  refine SS.val (R.load rfl rfl (I.ld1 rfl h.hR)) rfl rfl ?_
  refine SS.val (R.nil rfl rfl) rfl rfl ?_
  refine SS.val (R.index rfl rfl rfl (I.ixA1c rfl rfl (by decide))) rfl rfl ?_
  refine SS.val (R.load rfl rfl (I.ld1 rfl (h.row.cell rfl))) rfl rfl ?_
  refine SS.val (RaddE rfl rfl rfl e_a1) rfl rfl ?_
  refine SS.val (R.nil rfl rfl) rfl rfl ?_
  refine SS.val (R.index rfl rfl rfl (I.ixA1c rfl rfl (by decide))) rfl rfl ?_
  refine SS.nil ?_
  refine LL.store rfl rfl rfl rfl h.row (Nat.le_of_ble_eq_true rfl) rfl rfl rfl rfl ?_
  intro v0 hrow hgr hsz
  replace h := h.set (s' := (a1, b, c, d)) hrow hgr
  clear hrow hgr hsz u0
  refine LL.nilS ?_
  refine CC.keep [(0, .pointer (some ⟨rb, 0, none⟩))] ⟨rfl, trivial⟩ ?_
  obtain ⟨r1, e_r1⟩ : ∃ z, rotl b 13 = z := ⟨_, rfl⟩
  have b_r1 : r1 < 18446744073709551616 := by rw [← e_r1]; exact rotl_lt b_b
  obtain ⟨b1, e_b1⟩ : ∃ z, r1 ^^^ a1 = z := ⟨_, rfl⟩
  have b_b1 : b1 < 18446744073709551616 := by rw [← e_b1]; exact xor64 b_r1 b_a1
  refine CC.seq ?_
  refine CC.tail 15 (by kernel_rfl) (by kernel_rfl) ?_
  replace h := h.drew
  obtain ⟨u1, hv⟩ : ∃ v, v0.drew = v := ⟨_, rfl⟩
  rw [hv] at h ⊢
  clear hv v0
  refine SS.val (R.load rfl rfl (I.ld1 rfl h.hR)) rfl rfl ?_
  refine SS.val (R.load rfl rfl (I.ld1 rfl h.hR)) rfl rfl ?_
  refine SS.val (R.nil rfl rfl) rfl rfl ?_
  refine SS.val (R.index rfl rfl rfl (I.ixA1c rfl rfl (by decide))) rfl rfl ?_
  refine SS.val (R.load rfl rfl (I.ld1 rfl (h.row.cell rfl))) rfl rfl ?_
  refine SS.val (R.index rfl rfl rfl (I.ixA1c rfl rfl (by decide))) rfl rfl ?_
  refine SS.val (R.load rfl rfl (I.ld1 rfl (h.tu 0 _ rfl))) rfl rfl ?_
  refine SS.call (R.call rfl rfl rfl) rfl rfl (rotE b_b (by decide) (by decide) e_r1 _) ?_
  refine SS.val (R.load rfl rfl (I.ld1 rfl h.hR)) rfl rfl ?_
  refine SS.val (R.nil rfl rfl) rfl rfl ?_
  refine SS.val (R.index rfl rfl rfl (I.ixA1c rfl rfl (by decide))) rfl rfl ?_
  refine SS.val (R.load rfl rfl (I.ld1 rfl (h.row.cell rfl))) rfl rfl ?_
  refine SS.val (RxorE rfl rfl rfl b_r1 b_a1 e_b1) rfl rfl ?_
  refine SS.val (R.nil rfl rfl) rfl rfl ?_
  refine SS.val (R.index rfl rfl rfl (I.ixA1c rfl rfl (by decide))) rfl rfl ?_
  refine SS.nil ?_
  refine LL.store rfl rfl rfl rfl h.row (Nat.le_of_ble_eq_true rfl) rfl rfl rfl rfl ?_
  intro v1 hrow hgr hsz
  replace h := h.set (s' := (a1, b1, c, d)) hrow hgr
  clear hrow hgr hsz u1
  refine LL.nilS ?_
  refine CC.keep [(0, .pointer (some ⟨rb, 0, none⟩))] ⟨rfl, trivial⟩ ?_
  obtain ⟨a2, e_a2⟩ : ∃ z, rotl a1 32 = z := ⟨_, rfl⟩
  have b_a2 : a2 < 18446744073709551616 := by rw [← e_a2]; exact rotl_lt b_a1
  refine CC.seq ?_
  refine CC.tail 10 (by kernel_rfl) (by kernel_rfl) ?_
  replace h := h.drew
  obtain ⟨u2, hv⟩ : ∃ v, v1.drew = v := ⟨_, rfl⟩
  rw [hv] at h ⊢
  clear hv v1
  refine SS.val (R.load rfl rfl (I.ld1 rfl h.hR)) rfl rfl ?_
  refine SS.val (R.load rfl rfl (I.ld1 rfl h.hR)) rfl rfl ?_
  refine SS.val (R.nil rfl rfl) rfl rfl ?_
  refine SS.val (R.index rfl rfl rfl (I.ixA1c rfl rfl (by decide))) rfl rfl ?_
  refine SS.val (R.load rfl rfl (I.ld1 rfl (h.row.cell rfl))) rfl rfl ?_
  refine SS.val (R.index rfl rfl rfl (I.ixA1c rfl rfl (by decide))) rfl rfl ?_
  refine SS.val (R.load rfl rfl (I.ld1 rfl (h.tu 1 _ rfl))) rfl rfl ?_
  refine SS.call (R.call rfl rfl rfl) rfl rfl (rotE b_a1 (by decide) (by decide) e_a2 _) ?_
  refine SS.val (R.nil rfl rfl) rfl rfl ?_
  refine SS.val (R.index rfl rfl rfl (I.ixA1c rfl rfl (by decide))) rfl rfl ?_
  refine SS.nil ?_
  refine LL.store rfl rfl rfl rfl h.row (Nat.le_of_ble_eq_true rfl) rfl rfl rfl rfl ?_
  intro v2 hrow hgr hsz
  replace h := h.set (s' := (a2, b1, c, d)) hrow hgr
  clear hrow hgr hsz u2
  refine LL.nilS ?_
  refine CC.keep [(0, .pointer (some ⟨rb, 0, none⟩))] ⟨rfl, trivial⟩ ?_
  obtain ⟨c1, e_c1⟩ : ∃ z, addU c d = z := ⟨_, rfl⟩
  have b_c1 : c1 < 18446744073709551616 := by rw [← e_c1]; exact addU_lt _ _
  refine CC.seq ?_
  refine CC.tail 11 (by kernel_rfl) (by kernel_rfl) ?_
  replace h := h.drew
  obtain ⟨u3, hv⟩ : ∃ v, v2.drew = v := ⟨_, rfl⟩
  rw [hv] at h ⊢
  clear hv v2
  refine SS.val (R.load rfl rfl (I.ld1 rfl h.hR)) rfl rfl ?_
  refine SS.val (R.nil rfl rfl) rfl rfl ?_
  refine SS.val (R.index rfl rfl rfl (I.ixA1c rfl rfl (by decide))) rfl rfl ?_
  refine SS.val (R.load rfl rfl (I.ld1 rfl (h.row.cell rfl))) rfl rfl ?_
  refine SS.val (R.load rfl rfl (I.ld1 rfl h.hR)) rfl rfl ?_
  refine SS.val (R.nil rfl rfl) rfl rfl ?_
  refine SS.val (R.index rfl rfl rfl (I.ixA1c rfl rfl (by decide))) rfl rfl ?_
  refine SS.val (R.load rfl rfl (I.ld1 rfl (h.row.cell rfl))) rfl rfl ?_
  refine SS.val (RaddE rfl rfl rfl e_c1) rfl rfl ?_
  refine SS.val (R.nil rfl rfl) rfl rfl ?_
  refine SS.val (R.index rfl rfl rfl (I.ixA1c rfl rfl (by decide))) rfl rfl ?_
  refine SS.nil ?_
  refine LL.store rfl rfl rfl rfl h.row (Nat.le_of_ble_eq_true rfl) rfl rfl rfl rfl ?_
  intro v3 hrow hgr hsz
  replace h := h.set (s' := (a2, b1, c1, d)) hrow hgr
  clear hrow hgr hsz u3
  refine LL.nilS ?_
  refine CC.keep [(0, .pointer (some ⟨rb, 0, none⟩))] ⟨rfl, trivial⟩ ?_
  obtain ⟨r4, e_r4⟩ : ∃ z, rotl d 16 = z := ⟨_, rfl⟩
  have b_r4 : r4 < 18446744073709551616 := by rw [← e_r4]; exact rotl_lt b_d
  obtain ⟨d1, e_d1⟩ : ∃ z, r4 ^^^ c1 = z := ⟨_, rfl⟩
  have b_d1 : d1 < 18446744073709551616 := by rw [← e_d1]; exact xor64 b_r4 b_c1
  refine CC.seq ?_
  refine CC.tail 15 (by kernel_rfl) (by kernel_rfl) ?_
  replace h := h.drew
  obtain ⟨u4, hv⟩ : ∃ v, v3.drew = v := ⟨_, rfl⟩
  rw [hv] at h ⊢
  clear hv v3
  refine SS.val (R.load rfl rfl (I.ld1 rfl h.hR)) rfl rfl ?_
  refine SS.val (R.load rfl rfl (I.ld1 rfl h.hR)) rfl rfl ?_
  refine SS.val (R.nil rfl rfl) rfl rfl ?_
  refine SS.val (R.index rfl rfl rfl (I.ixA1c rfl rfl (by decide))) rfl rfl ?_
  refine SS.val (R.load rfl rfl (I.ld1 rfl (h.row.cell rfl))) rfl rfl ?_
  refine SS.val (R.index rfl rfl rfl (I.ixA1c rfl rfl (by decide))) rfl rfl ?_
  refine SS.val (R.load rfl rfl (I.ld1 rfl (h.tu 2 _ rfl))) rfl rfl ?_
  refine SS.call (R.call rfl rfl rfl) rfl rfl (rotE b_d (by decide) (by decide) e_r4 _) ?_
  refine SS.val (R.load rfl rfl (I.ld1 rfl h.hR)) rfl rfl ?_
  refine SS.val (R.nil rfl rfl) rfl rfl ?_
  refine SS.val (R.index rfl rfl rfl (I.ixA1c rfl rfl (by decide))) rfl rfl ?_
  refine SS.val (R.load rfl rfl (I.ld1 rfl (h.row.cell rfl))) rfl rfl ?_
  refine SS.val (RxorE rfl rfl rfl b_r4 b_c1 e_d1) rfl rfl ?_
  refine SS.val (R.nil rfl rfl) rfl rfl ?_
  refine SS.val (R.index rfl rfl rfl (I.ixA1c rfl rfl (by decide))) rfl rfl ?_
  refine SS.nil ?_
  refine LL.store rfl rfl rfl rfl h.row (Nat.le_of_ble_eq_true rfl) rfl rfl rfl rfl ?_
  intro v4 hrow hgr hsz
  replace h := h.set (s' := (a2, b1, c1, d1)) hrow hgr
  clear hrow hgr hsz u4
  refine LL.nilS ?_
  refine CC.keep [(0, .pointer (some ⟨rb, 0, none⟩))] ⟨rfl, trivial⟩ ?_
  obtain ⟨a3, e_a3⟩ : ∃ z, addU a2 d1 = z := ⟨_, rfl⟩
  have b_a3 : a3 < 18446744073709551616 := by rw [← e_a3]; exact addU_lt _ _
  refine CC.seq ?_
  refine CC.tail 11 (by kernel_rfl) (by kernel_rfl) ?_
  replace h := h.drew
  obtain ⟨u5, hv⟩ : ∃ v, v4.drew = v := ⟨_, rfl⟩
  rw [hv] at h ⊢
  clear hv v4
  refine SS.val (R.load rfl rfl (I.ld1 rfl h.hR)) rfl rfl ?_
  refine SS.val (R.nil rfl rfl) rfl rfl ?_
  refine SS.val (R.index rfl rfl rfl (I.ixA1c rfl rfl (by decide))) rfl rfl ?_
  refine SS.val (R.load rfl rfl (I.ld1 rfl (h.row.cell rfl))) rfl rfl ?_
  refine SS.val (R.load rfl rfl (I.ld1 rfl h.hR)) rfl rfl ?_
  refine SS.val (R.nil rfl rfl) rfl rfl ?_
  refine SS.val (R.index rfl rfl rfl (I.ixA1c rfl rfl (by decide))) rfl rfl ?_
  refine SS.val (R.load rfl rfl (I.ld1 rfl (h.row.cell rfl))) rfl rfl ?_
  refine SS.val (RaddE rfl rfl rfl e_a3) rfl rfl ?_
  refine SS.val (R.nil rfl rfl) rfl rfl ?_
  refine SS.val (R.index rfl rfl rfl (I.ixA1c rfl rfl (by decide))) rfl rfl ?_
  refine SS.nil ?_
  refine LL.store rfl rfl rfl rfl h.row (Nat.le_of_ble_eq_true rfl) rfl rfl rfl rfl ?_
  intro v5 hrow hgr hsz
  replace h := h.set (s' := (a3, b1, c1, d1)) hrow hgr
  clear hrow hgr hsz u5
  refine LL.nilS ?_
  refine CC.keep [(0, .pointer (some ⟨rb, 0, none⟩))] ⟨rfl, trivial⟩ ?_
  obtain ⟨r6, e_r6⟩ : ∃ z, rotl d1 21 = z := ⟨_, rfl⟩
  have b_r6 : r6 < 18446744073709551616 := by rw [← e_r6]; exact rotl_lt b_d1
  obtain ⟨d2, e_d2⟩ : ∃ z, r6 ^^^ a3 = z := ⟨_, rfl⟩
  have b_d2 : d2 < 18446744073709551616 := by rw [← e_d2]; exact xor64 b_r6 b_a3
  refine CC.seq ?_
  refine CC.tail 15 (by kernel_rfl) (by kernel_rfl) ?_
  replace h := h.drew
  obtain ⟨u6, hv⟩ : ∃ v, v5.drew = v := ⟨_, rfl⟩
  rw [hv] at h ⊢
  clear hv v5
  refine SS.val (R.load rfl rfl (I.ld1 rfl h.hR)) rfl rfl ?_
  refine SS.val (R.load rfl rfl (I.ld1 rfl h.hR)) rfl rfl ?_
  refine SS.val (R.nil rfl rfl) rfl rfl ?_
  refine SS.val (R.index rfl rfl rfl (I.ixA1c rfl rfl (by decide))) rfl rfl ?_
  refine SS.val (R.load rfl rfl (I.ld1 rfl (h.row.cell rfl))) rfl rfl ?_
  refine SS.val (R.index rfl rfl rfl (I.ixA1c rfl rfl (by decide))) rfl rfl ?_
  refine SS.val (R.load rfl rfl (I.ld1 rfl (h.tu 3 _ rfl))) rfl rfl ?_
  refine SS.call (R.call rfl rfl rfl) rfl rfl (rotE b_d1 (by decide) (by decide) e_r6 _) ?_
  refine SS.val (R.load rfl rfl (I.ld1 rfl h.hR)) rfl rfl ?_
  refine SS.val (R.nil rfl rfl) rfl rfl ?_
  refine SS.val (R.index rfl rfl rfl (I.ixA1c rfl rfl (by decide))) rfl rfl ?_
  refine SS.val (R.load rfl rfl (I.ld1 rfl (h.row.cell rfl))) rfl rfl ?_
  refine SS.val (RxorE rfl rfl rfl b_r6 b_a3 e_d2) rfl rfl ?_
  refine SS.val (R.nil rfl rfl) rfl rfl ?_
  refine SS.val (R.index rfl rfl rfl (I.ixA1c rfl rfl (by decide))) rfl rfl ?_
  refine SS.nil ?_
  refine LL.store rfl rfl rfl rfl h.row (Nat.le_of_ble_eq_true rfl) rfl rfl rfl rfl ?_
  intro v6 hrow hgr hsz
  replace h := h.set (s' := (a3, b1, c1, d2)) hrow hgr
  clear hrow hgr hsz u6
  refine LL.nilS ?_
  refine CC.keep [(0, .pointer (some ⟨rb, 0, none⟩))] ⟨rfl, trivial⟩ ?_
  obtain ⟨c2, e_c2⟩ : ∃ z, addU c1 b1 = z := ⟨_, rfl⟩
  have b_c2 : c2 < 18446744073709551616 := by rw [← e_c2]; exact addU_lt _ _
  refine CC.seq ?_
  refine CC.tail 11 (by kernel_rfl) (by kernel_rfl) ?_
  replace h := h.drew
  obtain ⟨u7, hv⟩ : ∃ v, v6.drew = v := ⟨_, rfl⟩
  rw [hv] at h ⊢
  clear hv v6
  refine SS.val (R.load rfl rfl (I.ld1 rfl h.hR)) rfl rfl ?_
  refine SS.val (R.nil rfl rfl) rfl rfl ?_
  refine SS.val (R.index rfl rfl rfl (I.ixA1c rfl rfl (by decide))) rfl rfl ?_
  refine SS.val (R.load rfl rfl (I.ld1 rfl (h.row.cell rfl))) rfl rfl ?_
  refine SS.val (R.load rfl rfl (I.ld1 rfl h.hR)) rfl rfl ?_
  refine SS.val (R.nil rfl rfl) rfl rfl ?_
  refine SS.val (R.index rfl rfl rfl (I.ixA1c rfl rfl (by decide))) rfl rfl ?_
  refine SS.val (R.load rfl rfl (I.ld1 rfl (h.row.cell rfl))) rfl rfl ?_
  refine SS.val (RaddE rfl rfl rfl e_c2) rfl rfl ?_
  refine SS.val (R.nil rfl rfl) rfl rfl ?_
  refine SS.val (R.index rfl rfl rfl (I.ixA1c rfl rfl (by decide))) rfl rfl ?_
  refine SS.nil ?_
  refine LL.store rfl rfl rfl rfl h.row (Nat.le_of_ble_eq_true rfl) rfl rfl rfl rfl ?_
  intro v7 hrow hgr hsz
  replace h := h.set (s' := (a3, b1, c2, d2)) hrow hgr
  clear hrow hgr hsz u7
  refine LL.nilS ?_
  refine CC.keep [(0, .pointer (some ⟨rb, 0, none⟩))] ⟨rfl, trivial⟩ ?_
  obtain ⟨r8, e_r8⟩ : ∃ z, rotl b1 17 = z := ⟨_, rfl⟩
  have b_r8 : r8 < 18446744073709551616 := by rw [← e_r8]; exact rotl_lt b_b1
  obtain ⟨b2, e_b2⟩ : ∃ z, r8 ^^^ c2 = z := ⟨_, rfl⟩
  have b_b2 : b2 < 18446744073709551616 := by rw [← e_b2]; exact xor64 b_r8 b_c2
  refine CC.seq ?_
  refine CC.tail 15 (by kernel_rfl) (by kernel_rfl) ?_
  replace h := h.drew
  obtain ⟨u8, hv⟩ : ∃ v, v7.drew = v := ⟨_, rfl⟩
  rw [hv] at h ⊢
  clear hv v7
  refine SS.val (R.load rfl rfl (I.ld1 rfl h.hR)) rfl rfl ?_
  refine SS.val (R.load rfl rfl (I.ld1 rfl h.hR)) rfl rfl ?_
  refine SS.val (R.nil rfl rfl) rfl rfl ?_
  refine SS.val (R.index rfl rfl rfl (I.ixA1c rfl rfl (by decide))) rfl rfl ?_
  refine SS.val (R.load rfl rfl (I.ld1 rfl (h.row.cell rfl))) rfl rfl ?_
  refine SS.val (R.index rfl rfl rfl (I.ixA1c rfl rfl (by decide))) rfl rfl ?_
  refine SS.val (R.load rfl rfl (I.ld1 rfl (h.tu 4 _ rfl))) rfl rfl ?_
  refine SS.call (R.call rfl rfl rfl) rfl rfl (rotE b_b1 (by decide) (by decide) e_r8 _) ?_
  refine SS.val (R.load rfl rfl (I.ld1 rfl h.hR)) rfl rfl ?_
  refine SS.val (R.nil rfl rfl) rfl rfl ?_
  refine SS.val (R.index rfl rfl rfl (I.ixA1c rfl rfl (by decide))) rfl rfl ?_
  refine SS.val (R.load rfl rfl (I.ld1 rfl (h.row.cell rfl))) rfl rfl ?_
  refine SS.val (RxorE rfl rfl rfl b_r8 b_c2 e_b2) rfl rfl ?_
  refine SS.val (R.nil rfl rfl) rfl rfl ?_
  refine SS.val (R.index rfl rfl rfl (I.ixA1c rfl rfl (by decide))) rfl rfl ?_
  refine SS.nil ?_
  refine LL.store rfl rfl rfl rfl h.row (Nat.le_of_ble_eq_true rfl) rfl rfl rfl rfl ?_
  intro v8 hrow hgr hsz
  replace h := h.set (s' := (a3, b2, c2, d2)) hrow hgr
  clear hrow hgr hsz u8
  refine LL.nilS ?_
  refine CC.keep [(0, .pointer (some ⟨rb, 0, none⟩))] ⟨rfl, trivial⟩ ?_
  obtain ⟨c3, e_c3⟩ : ∃ z, rotl c2 32 = z := ⟨_, rfl⟩
  have b_c3 : c3 < 18446744073709551616 := by rw [← e_c3]; exact rotl_lt b_c2
  refine CC.tail 10 (by kernel_rfl) (by kernel_rfl) ?_
  replace h := h.drew
  obtain ⟨u9, hv⟩ : ∃ v, v8.drew = v := ⟨_, rfl⟩
  rw [hv] at h ⊢
  clear hv v8
  refine SS.val (R.load rfl rfl (I.ld1 rfl h.hR)) rfl rfl ?_
  refine SS.val (R.load rfl rfl (I.ld1 rfl h.hR)) rfl rfl ?_
  refine SS.val (R.nil rfl rfl) rfl rfl ?_
  refine SS.val (R.index rfl rfl rfl (I.ixA1c rfl rfl (by decide))) rfl rfl ?_
  refine SS.val (R.load rfl rfl (I.ld1 rfl (h.row.cell rfl))) rfl rfl ?_
  refine SS.val (R.index rfl rfl rfl (I.ixA1c rfl rfl (by decide))) rfl rfl ?_
  refine SS.val (R.load rfl rfl (I.ld1 rfl (h.tu 5 _ rfl))) rfl rfl ?_
  refine SS.call (R.call rfl rfl rfl) rfl rfl (rotE b_c2 (by decide) (by decide) e_c3 _) ?_
  refine SS.val (R.nil rfl rfl) rfl rfl ?_
  refine SS.val (R.index rfl rfl rfl (I.ixA1c rfl rfl (by decide))) rfl rfl ?_
  refine SS.nil ?_
  refine LL.store rfl rfl rfl rfl h.row (Nat.le_of_ble_eq_true rfl) rfl rfl rfl rfl ?_
  intro v9 hrow hgr hsz
  replace h := h.set (s' := (a3, b2, c3, d2)) hrow hgr
  clear hrow hgr hsz u9
  have HR : round4 (a, b, c, d) = (a3, b2, c3, d2) := by simp only [round4, e_a1, e_r1, e_b1, e_a2, e_c1, e_r4, e_d1, e_a3, e_r6, e_d2, e_c2, e_r8, e_b2, e_c3]
  rw [HR]
  refine LL.nil ?_
  refine EE.end [] rfl rfl ?_
  exact ⟨⟨_, rfl⟩, h⟩

/-- So many rounds. -/
def rounds4 : Nat → St → St
  | 0, s => s
  | n + 1, s => round4 (rounds4 n s)
theorem rounds4_ok {s : St} (h : okS s) : ∀ n, okS (rounds4 n s)
  | 0 => h
  | n + 1 => round4_ok (rounds4_ok h n)

theorem stir_any (B k : Nat) (s : St) (rest : List Value) (w : World) (hk : k ≤ 100) (hs : okS s) (hrow : RowL w B 46 (L4 s ++ rest)) (htu : Tu w) (hB : B ≠ 0) :
    Calls Tryd.prog 20 #[.pointer (some ⟨B, 0, none⟩), .int .i64 k] w fun e w' => (∃ v, e = .returned v) ∧ RowL w' B 46 (L4 (rounds4 k s) ++ rest) ∧ w.grownBy w' (some B) := by
  refine X.fn Tryd.func20 rfl (n := 12) rfl rfl ?_
  (repeat (first | (first | refine CC.seq ?_ | refine CC.region ?_ | refine LL.nilS ?_ | refine CC.yes rfl ?_ | refine CC.no rfl ?_ | refine CC.block ?_ | refine EE.thenN ?_ | refine LL.nil ?_ | refine CC.exit ?_ | refine CC.ret ?_ | refine CC.skip ?_ | refine EE.thenX ?_ | refine EE.thenR ?_ | refine EE.inN ?_ | refine EE.inX ?_ | refine EE.inX' rfl ?_ | refine EE.inR ?_ | refine CC.label ?_ | refine EE.thenG ?_ | refine EE.inG ?_) | (first | refine LL.val (R.move rfl rfl) rfl rfl rfl ?_ | refine LL.val (R.assign rfl rfl) rfl rfl rfl ?_ | refine LL.val (R.nil rfl rfl) rfl rfl rfl ?_ | refine LL.val (R.field rfl rfl (I.fld rfl)) rfl rfl rfl ?_ | refine LL.val (R.load rfl rfl (I.ld1 rfl (by assumption))) rfl rfl rfl ?_ | refine LL.val (R.load rfl rfl (I.ld1 rfl (RowL.cell (by assumption) rfl))) rfl rfl rfl ?_ | refine LL.val (R.index rfl rfl rfl (I.ixA1c rfl rfl (by first | omega | decide))) rfl rfl rfl ?_ | refine LL.val (R.index rfl rfl rfl (I.ixS1c rfl rfl (by omega))) rfl rfl rfl ?_ | refine LL.val (R.index rfl rfl rfl (I.ixAc rfl rfl (by first | omega | decide))) rfl rfl rfl ?_ | refine LL.val (R.index rfl rfl rfl (I.ixSc rfl rfl (by omega))) rfl rfl rfl ?_ | refine LL.val (R.index rfl rfl rfl (I.ixA1 rfl (by omega))) rfl rfl rfl ?_ | refine LL.val (R.index rfl rfl rfl (I.ixS1 rfl (by omega))) rfl rfl rfl ?_ | refine LL.val (R.index rfl rfl rfl (I.ixA rfl (by omega))) rfl rfl rfl ?_ | refine LL.val (R.index rfl rfl rfl (I.ixS rfl (by omega))) rfl rfl rfl ?_ | refine LL.val (R.ltT rfl rfl rfl (by omega)) rfl rfl rfl ?_ | refine LL.val (R.ltF rfl rfl rfl (by omega)) rfl rfl rfl ?_ | refine LL.val (R.addNc rfl rfl rfl rfl (by omega)) rfl rfl rfl ?_ | refine LL.val (R.subNc rfl rfl rfl rfl (by omega) (by omega)) rfl rfl rfl ?_ | refine LL.val (R.addN rfl rfl rfl (by omega)) rfl rfl rfl ?_ | refine LL.val (R.subN rfl rfl rfl (by omega) (by omega)) rfl rfl rfl ?_ | refine LL.val (R.subcN rfl rfl rfl rfl (by omega) (by omega)) rfl rfl rfl ?_ | refine LL.val (R.addI rfl rfl rfl (by omega)) rfl rfl rfl ?_ | refine LL.val (R.subI rfl rfl rfl (by omega)) rfl rfl rfl ?_ | refine LL.val (R.mulNc rfl rfl rfl rfl (by omega)) rfl rfl rfl ?_ | refine LL.val (R.mulcN rfl rfl rfl rfl (by omega)) rfl rfl rfl ?_ | refine LL.val (R.quoNc rfl rfl rfl rfl (by omega) (by omega)) rfl rfl rfl ?_ | refine LL.val (R.remNc rfl rfl rfl rfl (by omega)) rfl rfl rfl ?_ | refine LL.val (R.mulN rfl rfl rfl (by omega)) rfl rfl rfl ?_ | refine LL.val (R.quoN rfl rfl rfl (by omega) (by omega)) rfl rfl rfl ?_ | refine LL.val (R.remN rfl rfl rfl (by omega)) rfl rfl rfl ?_ | refine LL.val (R.leT rfl rfl rfl (by omega)) rfl rfl rfl ?_ | refine LL.val (R.leF rfl rfl rfl (by omega)) rfl rfl rfl ?_ | refine LL.val (R.gtT rfl rfl rfl (by omega)) rfl rfl rfl ?_ | refine LL.val (R.gtF rfl rfl rfl (by omega)) rfl rfl rfl ?_ | refine LL.val (R.geT rfl rfl rfl (by omega)) rfl rfl rfl ?_ | refine LL.val (R.geF rfl rfl rfl (by omega)) rfl rfl rfl ?_ | refine LL.val (R.eqT rfl rfl rfl (by omega)) rfl rfl rfl ?_ | refine LL.val (R.eqF rfl rfl rfl (by omega)) rfl rfl rfl ?_ | refine LL.val (R.neT rfl rfl rfl (by omega)) rfl rfl rfl ?_ | refine LL.val (R.neF rfl rfl rfl (by omega)) rfl rfl rfl ?_ | refine LL.val (R.eqPtr rfl rfl rfl rfl rfl) rfl rfl rfl ?_ | refine LL.val (R.nePtr rfl rfl rfl rfl rfl) rfl rfl rfl ?_ | refine LL.val (R.eqSl rfl rfl rfl rfl rfl) rfl rfl rfl ?_ | refine LL.val (R.neSl rfl rfl rfl rfl rfl) rfl rfl rfl ?_ | refine LL.val (R.eqFn rfl rfl rfl rfl) rfl rfl rfl ?_ | refine LL.val (R.eqBool rfl rfl rfl rfl rfl) rfl rfl rfl ?_ | refine LL.val (R.neBool rfl rfl rfl rfl rfl) rfl rfl rfl ?_ | refine LL.val (R.xorU rfl rfl rfl (by first | omega | decide) (by first | omega | decide)) rfl rfl rfl ?_ | refine LL.val (R.addUN rfl rfl rfl (by omega)) rfl rfl rfl ?_ | refine LL.val (R.not rfl rfl) rfl rfl rfl ?_ | refine LL.val (R.len rfl rfl rfl rfl) rfl rfl rfl ?_ | refine LL.val (R.pick rfl rfl rfl) rfl rfl rfl ?_ | refine LL.val (R.extract rfl rfl rfl) rfl rfl rfl ?_ | refine LL.val (R.func rfl rfl rfl) rfl rfl rfl ?_ | refine LL.val (R.slice rfl rfl rfl rfl rfl (I.slA rfl)) rfl rfl rfl ?_ | refine LL.val (R.slice rfl rfl rfl rfl rfl (I.slAto rfl (by omega))) rfl rfl rfl ?_) | refine LL.skip rfl rfl ?_))
  refine LL.box [.pointer (some ⟨B, 0, none⟩)] rfl rfl rfl rfl rfl ?_
  intro w1 g1 e1 r1 z1 b1
  have hBl := hrow.lt
  have h0 : LnW w1 w1 g1 B s rest := ⟨r1.cell rfl, hrow.below b1 hBl, htu.below b1, grown_refl _ _, by omega, hB⟩
  (repeat (first | (first | refine CC.seq ?_ | refine CC.region ?_ | refine LL.nilS ?_ | refine CC.yes rfl ?_ | refine CC.no rfl ?_ | refine CC.block ?_ | refine EE.thenN ?_ | refine LL.nil ?_ | refine CC.exit ?_ | refine CC.ret ?_ | refine CC.skip ?_ | refine EE.thenX ?_ | refine EE.thenR ?_ | refine EE.inN ?_ | refine EE.inX ?_ | refine EE.inX' rfl ?_ | refine EE.inR ?_ | refine CC.label ?_ | refine EE.thenG ?_ | refine EE.inG ?_) | (first | refine LL.val (R.move rfl rfl) rfl rfl rfl ?_ | refine LL.val (R.assign rfl rfl) rfl rfl rfl ?_ | refine LL.val (R.nil rfl rfl) rfl rfl rfl ?_ | refine LL.val (R.field rfl rfl (I.fld rfl)) rfl rfl rfl ?_ | refine LL.val (R.load rfl rfl (I.ld1 rfl (by assumption))) rfl rfl rfl ?_ | refine LL.val (R.load rfl rfl (I.ld1 rfl (RowL.cell (by assumption) rfl))) rfl rfl rfl ?_ | refine LL.val (R.index rfl rfl rfl (I.ixA1c rfl rfl (by first | omega | decide))) rfl rfl rfl ?_ | refine LL.val (R.index rfl rfl rfl (I.ixS1c rfl rfl (by omega))) rfl rfl rfl ?_ | refine LL.val (R.index rfl rfl rfl (I.ixAc rfl rfl (by first | omega | decide))) rfl rfl rfl ?_ | refine LL.val (R.index rfl rfl rfl (I.ixSc rfl rfl (by omega))) rfl rfl rfl ?_ | refine LL.val (R.index rfl rfl rfl (I.ixA1 rfl (by omega))) rfl rfl rfl ?_ | refine LL.val (R.index rfl rfl rfl (I.ixS1 rfl (by omega))) rfl rfl rfl ?_ | refine LL.val (R.index rfl rfl rfl (I.ixA rfl (by omega))) rfl rfl rfl ?_ | refine LL.val (R.index rfl rfl rfl (I.ixS rfl (by omega))) rfl rfl rfl ?_ | refine LL.val (R.ltT rfl rfl rfl (by omega)) rfl rfl rfl ?_ | refine LL.val (R.ltF rfl rfl rfl (by omega)) rfl rfl rfl ?_ | refine LL.val (R.addNc rfl rfl rfl rfl (by omega)) rfl rfl rfl ?_ | refine LL.val (R.subNc rfl rfl rfl rfl (by omega) (by omega)) rfl rfl rfl ?_ | refine LL.val (R.addN rfl rfl rfl (by omega)) rfl rfl rfl ?_ | refine LL.val (R.subN rfl rfl rfl (by omega) (by omega)) rfl rfl rfl ?_ | refine LL.val (R.subcN rfl rfl rfl rfl (by omega) (by omega)) rfl rfl rfl ?_ | refine LL.val (R.addI rfl rfl rfl (by omega)) rfl rfl rfl ?_ | refine LL.val (R.subI rfl rfl rfl (by omega)) rfl rfl rfl ?_ | refine LL.val (R.mulNc rfl rfl rfl rfl (by omega)) rfl rfl rfl ?_ | refine LL.val (R.mulcN rfl rfl rfl rfl (by omega)) rfl rfl rfl ?_ | refine LL.val (R.quoNc rfl rfl rfl rfl (by omega) (by omega)) rfl rfl rfl ?_ | refine LL.val (R.remNc rfl rfl rfl rfl (by omega)) rfl rfl rfl ?_ | refine LL.val (R.mulN rfl rfl rfl (by omega)) rfl rfl rfl ?_ | refine LL.val (R.quoN rfl rfl rfl (by omega) (by omega)) rfl rfl rfl ?_ | refine LL.val (R.remN rfl rfl rfl (by omega)) rfl rfl rfl ?_ | refine LL.val (R.leT rfl rfl rfl (by omega)) rfl rfl rfl ?_ | refine LL.val (R.leF rfl rfl rfl (by omega)) rfl rfl rfl ?_ | refine LL.val (R.gtT rfl rfl rfl (by omega)) rfl rfl rfl ?_ | refine LL.val (R.gtF rfl rfl rfl (by omega)) rfl rfl rfl ?_ | refine LL.val (R.geT rfl rfl rfl (by omega)) rfl rfl rfl ?_ | refine LL.val (R.geF rfl rfl rfl (by omega)) rfl rfl rfl ?_ | refine LL.val (R.eqT rfl rfl rfl (by omega)) rfl rfl rfl ?_ | refine LL.val (R.eqF rfl rfl rfl (by omega)) rfl rfl rfl ?_ | refine LL.val (R.neT rfl rfl rfl (by omega)) rfl rfl rfl ?_ | refine LL.val (R.neF rfl rfl rfl (by omega)) rfl rfl rfl ?_ | refine LL.val (R.eqPtr rfl rfl rfl rfl rfl) rfl rfl rfl ?_ | refine LL.val (R.nePtr rfl rfl rfl rfl rfl) rfl rfl rfl ?_ | refine LL.val (R.eqSl rfl rfl rfl rfl rfl) rfl rfl rfl ?_ | refine LL.val (R.neSl rfl rfl rfl rfl rfl) rfl rfl rfl ?_ | refine LL.val (R.eqFn rfl rfl rfl rfl) rfl rfl rfl ?_ | refine LL.val (R.eqBool rfl rfl rfl rfl rfl) rfl rfl rfl ?_ | refine LL.val (R.neBool rfl rfl rfl rfl rfl) rfl rfl rfl ?_ | refine LL.val (R.xorU rfl rfl rfl (by first | omega | decide) (by first | omega | decide)) rfl rfl rfl ?_ | refine LL.val (R.addUN rfl rfl rfl (by omega)) rfl rfl rfl ?_ | refine LL.val (R.not rfl rfl) rfl rfl rfl ?_ | refine LL.val (R.len rfl rfl rfl rfl) rfl rfl rfl ?_ | refine LL.val (R.pick rfl rfl rfl) rfl rfl rfl ?_ | refine LL.val (R.extract rfl rfl rfl) rfl rfl rfl ?_ | refine LL.val (R.func rfl rfl rfl) rfl rfl rfl ?_ | refine LL.val (R.slice rfl rfl rfl rfl rfl (I.slA rfl)) rfl rfl rfl ?_ | refine LL.val (R.slice rfl rfl rfl rfl rfl (I.slAto rfl (by omega))) rfl rfl rfl ?_) | refine LL.skip rfl rfl ?_))
  refine CC.loop (α := Nat) (fun i => [(4, .func (.func 26) #[] #[.pointer (some ⟨g1, 0, none⟩)]), (6, .int .i64 k), (7, .int .i64 (i : Int))]) (fun i w' => i ≤ k ∧ LnW w1 w' g1 B (rounds4 i s) rest) (fun i => k - i) 0 ⟨rfl, rfl, rfl, trivial⟩ ⟨by omega, h0⟩ ?_
  intro i wr ⟨hi, hr⟩
  by_cases hlt : i < k
  · (repeat (first | (first | refine CC.seq ?_ | refine CC.region ?_ | refine LL.nilS ?_ | refine CC.yes rfl ?_ | refine CC.no rfl ?_ | refine CC.block ?_ | refine EE.thenN ?_ | refine LL.nil ?_ | refine CC.exit ?_ | refine CC.ret ?_ | refine CC.skip ?_ | refine EE.thenX ?_ | refine EE.thenR ?_ | refine EE.inN ?_ | refine EE.inX ?_ | refine EE.inX' rfl ?_ | refine EE.inR ?_ | refine CC.label ?_ | refine EE.thenG ?_ | refine EE.inG ?_) | (first | refine LL.val (R.move rfl rfl) rfl rfl rfl ?_ | refine LL.val (R.assign rfl rfl) rfl rfl rfl ?_ | refine LL.val (R.nil rfl rfl) rfl rfl rfl ?_ | refine LL.val (R.field rfl rfl (I.fld rfl)) rfl rfl rfl ?_ | refine LL.val (R.load rfl rfl (I.ld1 rfl (by assumption))) rfl rfl rfl ?_ | refine LL.val (R.load rfl rfl (I.ld1 rfl (RowL.cell (by assumption) rfl))) rfl rfl rfl ?_ | refine LL.val (R.index rfl rfl rfl (I.ixA1c rfl rfl (by first | omega | decide))) rfl rfl rfl ?_ | refine LL.val (R.index rfl rfl rfl (I.ixS1c rfl rfl (by omega))) rfl rfl rfl ?_ | refine LL.val (R.index rfl rfl rfl (I.ixAc rfl rfl (by first | omega | decide))) rfl rfl rfl ?_ | refine LL.val (R.index rfl rfl rfl (I.ixSc rfl rfl (by omega))) rfl rfl rfl ?_ | refine LL.val (R.index rfl rfl rfl (I.ixA1 rfl (by omega))) rfl rfl rfl ?_ | refine LL.val (R.index rfl rfl rfl (I.ixS1 rfl (by omega))) rfl rfl rfl ?_ | refine LL.val (R.index rfl rfl rfl (I.ixA rfl (by omega))) rfl rfl rfl ?_ | refine LL.val (R.index rfl rfl rfl (I.ixS rfl (by omega))) rfl rfl rfl ?_ | refine LL.val (R.ltT rfl rfl rfl (by omega)) rfl rfl rfl ?_ | refine LL.val (R.ltF rfl rfl rfl (by omega)) rfl rfl rfl ?_ | refine LL.val (R.addNc rfl rfl rfl rfl (by omega)) rfl rfl rfl ?_ | refine LL.val (R.subNc rfl rfl rfl rfl (by omega) (by omega)) rfl rfl rfl ?_ | refine LL.val (R.addN rfl rfl rfl (by omega)) rfl rfl rfl ?_ | refine LL.val (R.subN rfl rfl rfl (by omega) (by omega)) rfl rfl rfl ?_ | refine LL.val (R.subcN rfl rfl rfl rfl (by omega) (by omega)) rfl rfl rfl ?_ | refine LL.val (R.addI rfl rfl rfl (by omega)) rfl rfl rfl ?_ | refine LL.val (R.subI rfl rfl rfl (by omega)) rfl rfl rfl ?_ | refine LL.val (R.mulNc rfl rfl rfl rfl (by omega)) rfl rfl rfl ?_ | refine LL.val (R.mulcN rfl rfl rfl rfl (by omega)) rfl rfl rfl ?_ | refine LL.val (R.quoNc rfl rfl rfl rfl (by omega) (by omega)) rfl rfl rfl ?_ | refine LL.val (R.remNc rfl rfl rfl rfl (by omega)) rfl rfl rfl ?_ | refine LL.val (R.mulN rfl rfl rfl (by omega)) rfl rfl rfl ?_ | refine LL.val (R.quoN rfl rfl rfl (by omega) (by omega)) rfl rfl rfl ?_ | refine LL.val (R.remN rfl rfl rfl (by omega)) rfl rfl rfl ?_ | refine LL.val (R.leT rfl rfl rfl (by omega)) rfl rfl rfl ?_ | refine LL.val (R.leF rfl rfl rfl (by omega)) rfl rfl rfl ?_ | refine LL.val (R.gtT rfl rfl rfl (by omega)) rfl rfl rfl ?_ | refine LL.val (R.gtF rfl rfl rfl (by omega)) rfl rfl rfl ?_ | refine LL.val (R.geT rfl rfl rfl (by omega)) rfl rfl rfl ?_ | refine LL.val (R.geF rfl rfl rfl (by omega)) rfl rfl rfl ?_ | refine LL.val (R.eqT rfl rfl rfl (by omega)) rfl rfl rfl ?_ | refine LL.val (R.eqF rfl rfl rfl (by omega)) rfl rfl rfl ?_ | refine LL.val (R.neT rfl rfl rfl (by omega)) rfl rfl rfl ?_ | refine LL.val (R.neF rfl rfl rfl (by omega)) rfl rfl rfl ?_ | refine LL.val (R.eqPtr rfl rfl rfl rfl rfl) rfl rfl rfl ?_ | refine LL.val (R.nePtr rfl rfl rfl rfl rfl) rfl rfl rfl ?_ | refine LL.val (R.eqSl rfl rfl rfl rfl rfl) rfl rfl rfl ?_ | refine LL.val (R.neSl rfl rfl rfl rfl rfl) rfl rfl rfl ?_ | refine LL.val (R.eqFn rfl rfl rfl rfl) rfl rfl rfl ?_ | refine LL.val (R.eqBool rfl rfl rfl rfl rfl) rfl rfl rfl ?_ | refine LL.val (R.neBool rfl rfl rfl rfl rfl) rfl rfl rfl ?_ | refine LL.val (R.xorU rfl rfl rfl (by first | omega | decide) (by first | omega | decide)) rfl rfl rfl ?_ | refine LL.val (R.addUN rfl rfl rfl (by omega)) rfl rfl rfl ?_ | refine LL.val (R.not rfl rfl) rfl rfl rfl ?_ | refine LL.val (R.len rfl rfl rfl rfl) rfl rfl rfl ?_ | refine LL.val (R.pick rfl rfl rfl) rfl rfl rfl ?_ | refine LL.val (R.extract rfl rfl rfl) rfl rfl rfl ?_ | refine LL.val (R.func rfl rfl rfl) rfl rfl rfl ?_ | refine LL.val (R.slice rfl rfl rfl rfl rfl (I.slA rfl)) rfl rfl rfl ?_ | refine LL.val (R.slice rfl rfl rfl rfl rfl (I.slAto rfl (by omega))) rfl rfl rfl ?_) | refine LL.skip rfl rfl ?_))
    have ho := rounds4_ok hs i
    refine LL.call (R.callV rfl rfl rfl rfl) rfl rfl rfl (stir1_any g1 B _ _ _ _ rest w1 wr hr ho.1 ho.2.1 ho.2.2.1 ho.2.2.2) ?_
    rintro e w2 ⟨⟨v, rfl⟩, h2⟩
    refine ⟨v, rfl, ?_⟩
    (repeat (first | (first | refine CC.seq ?_ | refine CC.region ?_ | refine LL.nilS ?_ | refine CC.yes rfl ?_ | refine CC.no rfl ?_ | refine CC.block ?_ | refine EE.thenN ?_ | refine LL.nil ?_ | refine CC.exit ?_ | refine CC.ret ?_ | refine CC.skip ?_ | refine EE.thenX ?_ | refine EE.thenR ?_ | refine EE.inN ?_ | refine EE.inX ?_ | refine EE.inX' rfl ?_ | refine EE.inR ?_ | refine CC.label ?_ | refine EE.thenG ?_ | refine EE.inG ?_) | (first | refine LL.val (R.move rfl rfl) rfl rfl rfl ?_ | refine LL.val (R.assign rfl rfl) rfl rfl rfl ?_ | refine LL.val (R.nil rfl rfl) rfl rfl rfl ?_ | refine LL.val (R.field rfl rfl (I.fld rfl)) rfl rfl rfl ?_ | refine LL.val (R.load rfl rfl (I.ld1 rfl (by assumption))) rfl rfl rfl ?_ | refine LL.val (R.load rfl rfl (I.ld1 rfl (RowL.cell (by assumption) rfl))) rfl rfl rfl ?_ | refine LL.val (R.index rfl rfl rfl (I.ixA1c rfl rfl (by first | omega | decide))) rfl rfl rfl ?_ | refine LL.val (R.index rfl rfl rfl (I.ixS1c rfl rfl (by omega))) rfl rfl rfl ?_ | refine LL.val (R.index rfl rfl rfl (I.ixAc rfl rfl (by first | omega | decide))) rfl rfl rfl ?_ | refine LL.val (R.index rfl rfl rfl (I.ixSc rfl rfl (by omega))) rfl rfl rfl ?_ | refine LL.val (R.index rfl rfl rfl (I.ixA1 rfl (by omega))) rfl rfl rfl ?_ | refine LL.val (R.index rfl rfl rfl (I.ixS1 rfl (by omega))) rfl rfl rfl ?_ | refine LL.val (R.index rfl rfl rfl (I.ixA rfl (by omega))) rfl rfl rfl ?_ | refine LL.val (R.index rfl rfl rfl (I.ixS rfl (by omega))) rfl rfl rfl ?_ | refine LL.val (R.ltT rfl rfl rfl (by omega)) rfl rfl rfl ?_ | refine LL.val (R.ltF rfl rfl rfl (by omega)) rfl rfl rfl ?_ | refine LL.val (R.addNc rfl rfl rfl rfl (by omega)) rfl rfl rfl ?_ | refine LL.val (R.subNc rfl rfl rfl rfl (by omega) (by omega)) rfl rfl rfl ?_ | refine LL.val (R.addN rfl rfl rfl (by omega)) rfl rfl rfl ?_ | refine LL.val (R.subN rfl rfl rfl (by omega) (by omega)) rfl rfl rfl ?_ | refine LL.val (R.subcN rfl rfl rfl rfl (by omega) (by omega)) rfl rfl rfl ?_ | refine LL.val (R.addI rfl rfl rfl (by omega)) rfl rfl rfl ?_ | refine LL.val (R.subI rfl rfl rfl (by omega)) rfl rfl rfl ?_ | refine LL.val (R.mulNc rfl rfl rfl rfl (by omega)) rfl rfl rfl ?_ | refine LL.val (R.mulcN rfl rfl rfl rfl (by omega)) rfl rfl rfl ?_ | refine LL.val (R.quoNc rfl rfl rfl rfl (by omega) (by omega)) rfl rfl rfl ?_ | refine LL.val (R.remNc rfl rfl rfl rfl (by omega)) rfl rfl rfl ?_ | refine LL.val (R.mulN rfl rfl rfl (by omega)) rfl rfl rfl ?_ | refine LL.val (R.quoN rfl rfl rfl (by omega) (by omega)) rfl rfl rfl ?_ | refine LL.val (R.remN rfl rfl rfl (by omega)) rfl rfl rfl ?_ | refine LL.val (R.leT rfl rfl rfl (by omega)) rfl rfl rfl ?_ | refine LL.val (R.leF rfl rfl rfl (by omega)) rfl rfl rfl ?_ | refine LL.val (R.gtT rfl rfl rfl (by omega)) rfl rfl rfl ?_ | refine LL.val (R.gtF rfl rfl rfl (by omega)) rfl rfl rfl ?_ | refine LL.val (R.geT rfl rfl rfl (by omega)) rfl rfl rfl ?_ | refine LL.val (R.geF rfl rfl rfl (by omega)) rfl rfl rfl ?_ | refine LL.val (R.eqT rfl rfl rfl (by omega)) rfl rfl rfl ?_ | refine LL.val (R.eqF rfl rfl rfl (by omega)) rfl rfl rfl ?_ | refine LL.val (R.neT rfl rfl rfl (by omega)) rfl rfl rfl ?_ | refine LL.val (R.neF rfl rfl rfl (by omega)) rfl rfl rfl ?_ | refine LL.val (R.eqPtr rfl rfl rfl rfl rfl) rfl rfl rfl ?_ | refine LL.val (R.nePtr rfl rfl rfl rfl rfl) rfl rfl rfl ?_ | refine LL.val (R.eqSl rfl rfl rfl rfl rfl) rfl rfl rfl ?_ | refine LL.val (R.neSl rfl rfl rfl rfl rfl) rfl rfl rfl ?_ | refine LL.val (R.eqFn rfl rfl rfl rfl) rfl rfl rfl ?_ | refine LL.val (R.eqBool rfl rfl rfl rfl rfl) rfl rfl rfl ?_ | refine LL.val (R.neBool rfl rfl rfl rfl rfl) rfl rfl rfl ?_ | refine LL.val (R.xorU rfl rfl rfl (by first | omega | decide) (by first | omega | decide)) rfl rfl rfl ?_ | refine LL.val (R.addUN rfl rfl rfl (by omega)) rfl rfl rfl ?_ | refine LL.val (R.not rfl rfl) rfl rfl rfl ?_ | refine LL.val (R.len rfl rfl rfl rfl) rfl rfl rfl ?_ | refine LL.val (R.pick rfl rfl rfl) rfl rfl rfl ?_ | refine LL.val (R.extract rfl rfl rfl) rfl rfl rfl ?_ | refine LL.val (R.func rfl rfl rfl) rfl rfl rfl ?_ | refine LL.val (R.slice rfl rfl rfl rfl rfl (I.slA rfl)) rfl rfl rfl ?_ | refine LL.val (R.slice rfl rfl rfl rfl rfl (I.slAto rfl (by omega))) rfl rfl rfl ?_) | refine LL.skip rfl rfl ?_))
    refine EE.round (i + 1) ⟨rfl, rfl, rfl, trivial⟩ ⟨by omega, h2⟩ (by omega)
  · obtain rfl : i = k := by omega
    (repeat (first | (first | refine CC.seq ?_ | refine CC.region ?_ | refine LL.nilS ?_ | refine CC.yes rfl ?_ | refine CC.no rfl ?_ | refine CC.block ?_ | refine EE.thenN ?_ | refine LL.nil ?_ | refine CC.exit ?_ | refine CC.ret ?_ | refine CC.skip ?_ | refine EE.thenX ?_ | refine EE.thenR ?_ | refine EE.inN ?_ | refine EE.inX ?_ | refine EE.inX' rfl ?_ | refine EE.inR ?_ | refine CC.label ?_ | refine EE.thenG ?_ | refine EE.inG ?_) | (first | refine LL.val (R.move rfl rfl) rfl rfl rfl ?_ | refine LL.val (R.assign rfl rfl) rfl rfl rfl ?_ | refine LL.val (R.nil rfl rfl) rfl rfl rfl ?_ | refine LL.val (R.field rfl rfl (I.fld rfl)) rfl rfl rfl ?_ | refine LL.val (R.load rfl rfl (I.ld1 rfl (by assumption))) rfl rfl rfl ?_ | refine LL.val (R.load rfl rfl (I.ld1 rfl (RowL.cell (by assumption) rfl))) rfl rfl rfl ?_ | refine LL.val (R.index rfl rfl rfl (I.ixA1c rfl rfl (by first | omega | decide))) rfl rfl rfl ?_ | refine LL.val (R.index rfl rfl rfl (I.ixS1c rfl rfl (by omega))) rfl rfl rfl ?_ | refine LL.val (R.index rfl rfl rfl (I.ixAc rfl rfl (by first | omega | decide))) rfl rfl rfl ?_ | refine LL.val (R.index rfl rfl rfl (I.ixSc rfl rfl (by omega))) rfl rfl rfl ?_ | refine LL.val (R.index rfl rfl rfl (I.ixA1 rfl (by omega))) rfl rfl rfl ?_ | refine LL.val (R.index rfl rfl rfl (I.ixS1 rfl (by omega))) rfl rfl rfl ?_ | refine LL.val (R.index rfl rfl rfl (I.ixA rfl (by omega))) rfl rfl rfl ?_ | refine LL.val (R.index rfl rfl rfl (I.ixS rfl (by omega))) rfl rfl rfl ?_ | refine LL.val (R.ltT rfl rfl rfl (by omega)) rfl rfl rfl ?_ | refine LL.val (R.ltF rfl rfl rfl (by omega)) rfl rfl rfl ?_ | refine LL.val (R.addNc rfl rfl rfl rfl (by omega)) rfl rfl rfl ?_ | refine LL.val (R.subNc rfl rfl rfl rfl (by omega) (by omega)) rfl rfl rfl ?_ | refine LL.val (R.addN rfl rfl rfl (by omega)) rfl rfl rfl ?_ | refine LL.val (R.subN rfl rfl rfl (by omega) (by omega)) rfl rfl rfl ?_ | refine LL.val (R.subcN rfl rfl rfl rfl (by omega) (by omega)) rfl rfl rfl ?_ | refine LL.val (R.addI rfl rfl rfl (by omega)) rfl rfl rfl ?_ | refine LL.val (R.subI rfl rfl rfl (by omega)) rfl rfl rfl ?_ | refine LL.val (R.mulNc rfl rfl rfl rfl (by omega)) rfl rfl rfl ?_ | refine LL.val (R.mulcN rfl rfl rfl rfl (by omega)) rfl rfl rfl ?_ | refine LL.val (R.quoNc rfl rfl rfl rfl (by omega) (by omega)) rfl rfl rfl ?_ | refine LL.val (R.remNc rfl rfl rfl rfl (by omega)) rfl rfl rfl ?_ | refine LL.val (R.mulN rfl rfl rfl (by omega)) rfl rfl rfl ?_ | refine LL.val (R.quoN rfl rfl rfl (by omega) (by omega)) rfl rfl rfl ?_ | refine LL.val (R.remN rfl rfl rfl (by omega)) rfl rfl rfl ?_ | refine LL.val (R.leT rfl rfl rfl (by omega)) rfl rfl rfl ?_ | refine LL.val (R.leF rfl rfl rfl (by omega)) rfl rfl rfl ?_ | refine LL.val (R.gtT rfl rfl rfl (by omega)) rfl rfl rfl ?_ | refine LL.val (R.gtF rfl rfl rfl (by omega)) rfl rfl rfl ?_ | refine LL.val (R.geT rfl rfl rfl (by omega)) rfl rfl rfl ?_ | refine LL.val (R.geF rfl rfl rfl (by omega)) rfl rfl rfl ?_ | refine LL.val (R.eqT rfl rfl rfl (by omega)) rfl rfl rfl ?_ | refine LL.val (R.eqF rfl rfl rfl (by omega)) rfl rfl rfl ?_ | refine LL.val (R.neT rfl rfl rfl (by omega)) rfl rfl rfl ?_ | refine LL.val (R.neF rfl rfl rfl (by omega)) rfl rfl rfl ?_ | refine LL.val (R.eqPtr rfl rfl rfl rfl rfl) rfl rfl rfl ?_ | refine LL.val (R.nePtr rfl rfl rfl rfl rfl) rfl rfl rfl ?_ | refine LL.val (R.eqSl rfl rfl rfl rfl rfl) rfl rfl rfl ?_ | refine LL.val (R.neSl rfl rfl rfl rfl rfl) rfl rfl rfl ?_ | refine LL.val (R.eqFn rfl rfl rfl rfl) rfl rfl rfl ?_ | refine LL.val (R.eqBool rfl rfl rfl rfl rfl) rfl rfl rfl ?_ | refine LL.val (R.neBool rfl rfl rfl rfl rfl) rfl rfl rfl ?_ | refine LL.val (R.xorU rfl rfl rfl (by first | omega | decide) (by first | omega | decide)) rfl rfl rfl ?_ | refine LL.val (R.addUN rfl rfl rfl (by omega)) rfl rfl rfl ?_ | refine LL.val (R.not rfl rfl) rfl rfl rfl ?_ | refine LL.val (R.len rfl rfl rfl rfl) rfl rfl rfl ?_ | refine LL.val (R.pick rfl rfl rfl) rfl rfl rfl ?_ | refine LL.val (R.extract rfl rfl rfl) rfl rfl rfl ?_ | refine LL.val (R.func rfl rfl rfl) rfl rfl rfl ?_ | refine LL.val (R.slice rfl rfl rfl rfl rfl (I.slA rfl)) rfl rfl rfl ?_ | refine LL.val (R.slice rfl rfl rfl rfl rfl (I.slAto rfl (by omega))) rfl rfl rfl ?_) | refine LL.skip rfl rfl ?_))
    refine EE.end [] rfl rfl ?_
    exact ⟨⟨_, rfl⟩, hr.row, grown_trans (grown_below b1 _) hr.gr⟩
end Go.Proofs.YtodpeljmcpefeaaDoor
