/- SipHash over lists of bytes: plain numbers. -/
import Derived.WalkKit
import Derived.Test.YtodpeljmcpefeaaDoorRot
import Derived.Test.YtodpeljmcpefeaaDoorWV
namespace Go.Proofs.YtodpeljmcpefeaaDoor
set_option linter.unusedVariables false
set_option linter.unusedSimpArgs false

abbrev St := Nat × Nat × Nat × Nat
/-- A word of eight bytes stirred in. -/
def stirW (s : St) (m : Nat) : St :=
  let t := round4 (round4 (s.1, s.2.1, s.2.2.1, s.2.2.2 ^^^ m))
  (t.1 ^^^ m, t.2.1, t.2.2.1, t.2.2.2)
def begin4 (k0 k1 : Nat) : St := (k0 ^^^ 8317987319222330741, k1 ^^^ 7237128888997146477, k0 ^^^ 7816392313619706465, k1 ^^^ 8387220255154660723)
/-- The first so many words of eight bytes. -/
def lanesN (k0 k1 : Nat) (bs : List Nat) (n : Nat) : St := (List.range n).foldl (fun s i => stirW s (valL ((bs.drop (8 * i)).take 8))) (begin4 k0 k1)
def lanesL (k0 k1 : Nat) (bs : List Nat) : St := lanesN k0 k1 bs (bs.length / 8)
def finish4 (s : St) : Nat :=
  let t := round4 (round4 (round4 (round4 (s.1, s.2.1, s.2.2.1 ^^^ 255, s.2.2.2))))
  t.1 ^^^ t.2.1 ^^^ t.2.2.1 ^^^ t.2.2.2
def lastW (bs : List Nat) : Nat := valL (bs.drop (8 * (bs.length / 8))) + bs.length % 256 * 72057594037927936
def sip (k0 k1 : Nat) (bs : List Nat) : Nat := finish4 (stirW (lanesL k0 k1 bs) (lastW bs))

def okS (s : St) : Prop := s.1 < 18446744073709551616 ∧ s.2.1 < 18446744073709551616 ∧ s.2.2.1 < 18446744073709551616 ∧ s.2.2.2 < 18446744073709551616
theorem xor64 {x y : Nat} (hx : x < 18446744073709551616) (hy : y < 18446744073709551616) : x ^^^ y < 18446744073709551616 := Nat.xor_lt_two_pow (n := 64) hx hy
theorem addU_lt (x y : Nat) : addU x y < 18446744073709551616 := Nat.mod_lt _ (by decide)
theorem round4_ok {s : St} (h : okS s) : okS (round4 s) := by
  obtain ⟨a, b, c, d⟩ := s
  obtain ⟨ha, hb, hc, hd⟩ := h
  have r := fun {x n : Nat} (hx : x < 18446744073709551616) => rotl_lt (n := n) hx
  refine ⟨addU_lt _ _, ?_, r (addU_lt _ _), ?_⟩
  · exact xor64 (r (xor64 (r hb) (addU_lt _ _))) (addU_lt _ _)
  · exact xor64 (r (xor64 (r hd) (addU_lt _ _))) (addU_lt _ _)
theorem stirW_ok {s : St} {m : Nat} (h : okS s) (hm : m < 18446744073709551616) : okS (stirW s m) := by
  have h2 := round4_ok (round4_ok (s := (s.1, s.2.1, s.2.2.1, s.2.2.2 ^^^ m)) ⟨h.1, h.2.1, h.2.2.1, xor64 h.2.2.2 hm⟩)
  obtain ⟨g1, g2, g3, g4⟩ := h2
  exact ⟨xor64 g1 hm, g2, g3, g4⟩
theorem begin4_ok {k0 k1 : Nat} (h0 : k0 < 18446744073709551616) (h1 : k1 < 18446744073709551616) : okS (begin4 k0 k1) :=
  ⟨xor64 h0 (by decide), xor64 h1 (by decide), xor64 h0 (by decide), xor64 h1 (by decide)⟩
theorem val8_lt (l : List Nat) (h : ∀ x ∈ l, x < 256) (hl : l.length ≤ 8) : valL l < 18446744073709551616 :=
  Nat.lt_of_lt_of_le (valL_lt l h) (Nat.pow_le_pow_right (n := 256) (j := 8) (by decide) hl)
theorem word8_lt (bs : List Nat) (h : ∀ x ∈ bs, x < 256) (i : Nat) : valL ((bs.drop i).take 8) < 18446744073709551616 :=
  val8_lt _ (fun x hx => h x (List.mem_of_mem_drop (List.mem_of_mem_take hx))) (by simp; omega)
theorem lanesN_succ (k0 k1 : Nat) (bs : List Nat) (n : Nat) : lanesN k0 k1 bs (n + 1) = stirW (lanesN k0 k1 bs n) (valL ((bs.drop (8 * n)).take 8)) := by
  simp [lanesN, List.range_succ]
theorem lanesN_ok {k0 k1 : Nat} (h0 : k0 < 18446744073709551616) (h1 : k1 < 18446744073709551616) (bs : List Nat) (h : ∀ x ∈ bs, x < 256) (n : Nat) : okS (lanesN k0 k1 bs n) := by
  induction n with
  | zero => rw [show lanesN k0 k1 bs 0 = begin4 k0 k1 by simp [lanesN]]; exact begin4_ok h0 h1
  | succ n ih => rw [lanesN_succ]; exact stirW_ok ih (word8_lt _ h _)
theorem finish4_lt {s : St} (h : okS s) : finish4 s < 18446744073709551616 := by
  have h2 := round4_ok (round4_ok (round4_ok (round4_ok (s := (s.1, s.2.1, s.2.2.1 ^^^ 255, s.2.2.2)) ⟨h.1, h.2.1, xor64 h.2.2.1 (by decide), h.2.2.2⟩)))
  exact xor64 (xor64 (xor64 h2.1 h2.2.1) h2.2.2.1) h2.2.2.2
theorem lanesN_app (k0 k1 : Nat) (bs cs : List Nat) (n : Nat) (h : 8 * n ≤ bs.length) : lanesN k0 k1 (bs ++ cs) n = lanesN k0 k1 bs n := by
  induction n with
  | zero => simp [lanesN]
  | succ n ih =>
    rw [lanesN_succ, lanesN_succ, ih (by omega), List.drop_append_of_le_length (by omega), List.take_append_of_le_length (by simp; omega)]
theorem lastW_lt (bs : List Nat) (h : ∀ x ∈ bs, x < 256) : lastW bs < 18446744073709551616 := by
  have h1 := valL_lt (bs.drop (8 * (bs.length / 8))) (fun x hx => h x (List.mem_of_mem_drop hx))
  have h2 : (256 : Nat) ^ (bs.drop (8 * (bs.length / 8))).length ≤ 256 ^ 7 := Nat.pow_le_pow_right (by decide) (by simp; omega)
  have h3 : bs.length % 256 < 256 := Nat.mod_lt _ (by decide)
  unfold lastW
  have : (256 : Nat) ^ 7 = 72057594037927936 := by decide
  omega
theorem sip_lt {k0 k1 : Nat} (h0 : k0 < 18446744073709551616) (h1 : k1 < 18446744073709551616) (bs : List Nat) (h : ∀ x ∈ bs, x < 256) : sip k0 k1 bs < 18446744073709551616 :=
  finish4_lt (stirW_ok (lanesN_ok h0 h1 bs h _) (lastW_lt bs h))

/-- What stands in the rest: the bytes behind the last whole word. -/
def restL (bs : List Nat) : List Nat := bs.drop (8 * (bs.length / 8))
theorem restL_length (bs : List Nat) : (restL bs).length = bs.length % 8 := by simp [restL]; omega
/-- One byte more: not the eighth. -/
theorem lanesL_more (k0 k1 : Nat) (bs : List Nat) (c : Nat) (h : (bs.length + 1) % 8 ≠ 0) : lanesL k0 k1 (bs ++ [c]) = lanesL k0 k1 bs ∧ restL (bs ++ [c]) = restL bs ++ [c] := by
  have e : (bs ++ [c]).length / 8 = bs.length / 8 := by simp; omega
  constructor
  · unfold lanesL; rw [e]; exact lanesN_app _ _ _ _ _ (by omega)
  · unfold restL; rw [e, List.drop_append_of_le_length (by omega)]
/-- One byte more: the eighth. -/
theorem lanesL_eighth (k0 k1 : Nat) (bs : List Nat) (c : Nat) (h : (bs.length + 1) % 8 = 0) : lanesL k0 k1 (bs ++ [c]) = stirW (lanesL k0 k1 bs) (valL (restL bs ++ [c])) ∧ restL (bs ++ [c]) = [] := by
  have e : (bs ++ [c]).length / 8 = bs.length / 8 + 1 := by simp; omega
  constructor
  · unfold lanesL
    rw [e, lanesN_succ, lanesN_app _ _ _ _ _ (by omega), List.drop_append_of_le_length (by omega), List.take_of_length_le (by simp; omega)]
    rfl
  · unfold restL; rw [e]; exact List.drop_eq_nil_of_le (by simp; omega)
/-- The last word as it is laid: the rest, noughts, the count. -/
theorem valL_zeros (n : Nat) : valL (List.replicate n 0) = 0 := by
  induction n with
  | zero => rfl
  | succ n ih => simp [List.replicate_succ, valL, ih]
theorem last_val (bs : List Nat) : valL (restL bs ++ List.replicate (7 - bs.length % 8) 0 ++ [bs.length % 256]) = lastW bs := by
  rw [valL_append, valL_append, valL_zeros, List.length_append, restL_length, List.length_replicate]
  have : bs.length % 8 + (7 - bs.length % 8) = 7 := by omega
  rw [this]
  simp [valL, lastW, restL]
  rw [Nat.mul_comm]
end Go.Proofs.YtodpeljmcpefeaaDoor
