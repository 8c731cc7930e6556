/- The document's Round. -/
import Derived.Test.YtodpeljmcpefeaaDoorRot
namespace Go.Proofs.YtodpeljmcpefeaaDoor
set_option linter.unusedVariables false
set_option linter.unusedSimpArgs false
open Go.RowKit

set_option maxRecDepth 100000 in
set_option maxHeartbeats 1000000 in
theorem rnd_any (a b c d : Nat) (w : World) (b_a : a < 18446744073709551616) (b_b : b < 18446744073709551616) (b_c : c < 18446744073709551616) (b_d : d < 18446744073709551616) :
    Calls Tryd.prog 23 #[.agg #[.int .u64 a, .int .u64 b, .int .u64 c, .int .u64 d]] w fun e w' =>
      e = .returned (.agg #[.int .u64 (round4 (a, b, c, d)).1, .int .u64 (round4 (a, b, c, d)).2.1, .int .u64 (round4 (a, b, c, d)).2.2.1, .int .u64 (round4 (a, b, c, d)).2.2.2]) ∧ Below w.heap.size w w' := by
  have b_a1 : addU a b < 18446744073709551616 := Nat.mod_lt _ (by decide)
  have f_a1 : IntKind.u64.wrap ((a : Int) + (b : Int)) = ((addU a b : Nat) : Int) := by rw [IntKind.wrap_u64]; unfold addU; omega
  obtain ⟨a1, e_a1⟩ : ∃ z, addU a b = z := ⟨_, rfl⟩
  rw [e_a1] at b_a1 f_a1
  have b_r1 := rotl_lt (n := 13) b_b
  have t_r1 := fun w => turn_any b 13 w b_b (by decide) (by decide)
  obtain ⟨r1, e_r1⟩ : ∃ z, rotl b 13 = z := ⟨_, rfl⟩
  rw [e_r1] at b_r1 t_r1
  have b_b1 : r1 ^^^ a1 < 18446744073709551616 := Nat.xor_lt_two_pow (n := 64) b_r1 b_a1
  have f_b1 := u64_xor_nat r1 a1 b_r1 b_a1
  obtain ⟨b1, e_b1⟩ : ∃ z, r1 ^^^ a1 = z := ⟨_, rfl⟩
  rw [e_b1] at b_b1 f_b1
  have b_a2 := rotl_lt (n := 32) b_a1
  have t_a2 := fun w => turn_any a1 32 w b_a1 (by decide) (by decide)
  obtain ⟨a2, e_a2⟩ : ∃ z, rotl a1 32 = z := ⟨_, rfl⟩
  rw [e_a2] at b_a2 t_a2
  have b_c1 : addU c d < 18446744073709551616 := Nat.mod_lt _ (by decide)
  have f_c1 : IntKind.u64.wrap ((c : Int) + (d : Int)) = ((addU c d : Nat) : Int) := by rw [IntKind.wrap_u64]; unfold addU; omega
  obtain ⟨c1, e_c1⟩ : ∃ z, addU c d = z := ⟨_, rfl⟩
  rw [e_c1] at b_c1 f_c1
  have b_r2 := rotl_lt (n := 16) b_d
  have t_r2 := fun w => turn_any d 16 w b_d (by decide) (by decide)
  obtain ⟨r2, e_r2⟩ : ∃ z, rotl d 16 = z := ⟨_, rfl⟩
  rw [e_r2] at b_r2 t_r2
  have b_d1 : r2 ^^^ c1 < 18446744073709551616 := Nat.xor_lt_two_pow (n := 64) b_r2 b_c1
  have f_d1 := u64_xor_nat r2 c1 b_r2 b_c1
  obtain ⟨d1, e_d1⟩ : ∃ z, r2 ^^^ c1 = z := ⟨_, rfl⟩
  rw [e_d1] at b_d1 f_d1
  have b_a3 : addU a2 d1 < 18446744073709551616 := Nat.mod_lt _ (by decide)
  have f_a3 : IntKind.u64.wrap ((a2 : Int) + (d1 : Int)) = ((addU a2 d1 : Nat) : Int) := by rw [IntKind.wrap_u64]; unfold addU; omega
  obtain ⟨a3, e_a3⟩ : ∃ z, addU a2 d1 = z := ⟨_, rfl⟩
  rw [e_a3] at b_a3 f_a3
  have b_r3 := rotl_lt (n := 21) b_d1
  have t_r3 := fun w => turn_any d1 21 w b_d1 (by decide) (by decide)
  obtain ⟨r3, e_r3⟩ : ∃ z, rotl d1 21 = z := ⟨_, rfl⟩
  rw [e_r3] at b_r3 t_r3
  have b_d2 : r3 ^^^ a3 < 18446744073709551616 := Nat.xor_lt_two_pow (n := 64) b_r3 b_a3
  have f_d2 := u64_xor_nat r3 a3 b_r3 b_a3
  obtain ⟨d2, e_d2⟩ : ∃ z, r3 ^^^ a3 = z := ⟨_, rfl⟩
  rw [e_d2] at b_d2 f_d2
  have b_c2 : addU c1 b1 < 18446744073709551616 := Nat.mod_lt _ (by decide)
  have f_c2 : IntKind.u64.wrap ((c1 : Int) + (b1 : Int)) = ((addU c1 b1 : Nat) : Int) := by rw [IntKind.wrap_u64]; unfold addU; omega
  obtain ⟨c2, e_c2⟩ : ∃ z, addU c1 b1 = z := ⟨_, rfl⟩
  rw [e_c2] at b_c2 f_c2
  have b_r4 := rotl_lt (n := 17) b_b1
  have t_r4 := fun w => turn_any b1 17 w b_b1 (by decide) (by decide)
  obtain ⟨r4, e_r4⟩ : ∃ z, rotl b1 17 = z := ⟨_, rfl⟩
  rw [e_r4] at b_r4 t_r4
  have b_b2 : r4 ^^^ c2 < 18446744073709551616 := Nat.xor_lt_two_pow (n := 64) b_r4 b_c2
  have f_b2 := u64_xor_nat r4 c2 b_r4 b_c2
  obtain ⟨b2, e_b2⟩ : ∃ z, r4 ^^^ c2 = z := ⟨_, rfl⟩
  rw [e_b2] at b_b2 f_b2
  have b_c3 := rotl_lt (n := 32) b_c2
  have t_c3 := fun w => turn_any c2 32 w b_c2 (by decide) (by decide)
  obtain ⟨c3, e_c3⟩ : ∃ z, rotl c2 32 = z := ⟨_, rfl⟩
  rw [e_c3] at b_c3 t_c3
  have HR : Hid (round4 (a, b, c, d) = (a3, b2, c3, d2)) := Lib.hid (by simp only [round4, e_a1, e_r1, e_b1, e_a2, e_c1, e_r2, e_d1, e_a3, e_r3, e_d2, e_c2, e_r4, e_b2, e_c3])
  clear e_a1 e_r1 e_b1 e_a2 e_c1 e_r2 e_d1 e_a3 e_r3 e_d2 e_c2 e_r4 e_b2 e_c3 b_a1 b_r1 b_b1 b_a2 b_c1 b_r2 b_d1 b_a3 b_r3 b_d2 b_c2 b_r4 b_b2 b_c3
  rw [HR.out]
  obtain ⟨W0, hW0⟩ : ∃ W0, (w.alloc (.cells #[.int .u64 a, .int .u64 b, .int .u64 c, .int .u64 d] 41)).alloc (.cells #[.int .u64 0, .int .u64 0, .int .u64 0, .int .u64 0] 41) = W0 := ⟨_, rfl⟩
  have hB0 : Below w.heap.size w W0 := by rw [← hW0]; exact (by repeat (first | exact Below.refl _ _ | assumption | refine Below.drewN ?_ _ | refine Below.drew ?_ | refine Below.alloc ?_ (by first | omega | (simp; done) | (simp; omega)) _))
  have hc : ∀ i, i < 4 → W0.drew.cell? ⟨w.heap.size, i, none⟩ = #[.int .u64 a, .int .u64 b, .int .u64 c, .int .u64 d][i]? := by
    intro i hi
    have h1 := (Below.heap_alloc (w.alloc (.cells #[.int .u64 a, .int .u64 b, .int .u64 c, .int .u64 d] 41)) (.cells #[.int .u64 0, .int .u64 0, .int .u64 0, .int .u64 0] 41) w.heap.size (by simp)).trans (World.alloc_heap_new w _)
    rw [hW0] at h1
    show W0.cell? _ = _
    simp only [World.cell?, h1]
    rfl
  have h0 := hc 0 (by decide)
  have h1 := hc 1 (by decide)
  have h2 := hc 2 (by decide)
  have h3 := hc 3 (by decide)
  simp at h0 h1 h2 h3
  have hz : ∀ n i, i < 4 → (W0.drewN n).cell? ⟨w.heap.size + 1, i, none⟩ = some (.int .u64 0) ∧ (W0.drewN n).frozen? ⟨w.heap.size + 1, i, none⟩ = false := by
    intro n i hi
    have h1 := World.alloc_heap_new (w.alloc (.cells #[.int .u64 a, .int .u64 b, .int .u64 c, .int .u64 d] 41)) (.cells #[.int .u64 0, .int .u64 0, .int .u64 0, .int .u64 0] 41)
    rw [World.size_alloc, hW0] at h1
    refine ⟨?_, ?_⟩
    · show W0.cell? _ = _
      simp only [World.cell?, h1]
      rcases (by omega : i = 0 ∨ i = 1 ∨ i = 2 ∨ i = 3) with rfl | rfl | rfl | rfl <;> rfl
    · show W0.frozen? _ = _
      simp only [World.frozen?, h1]
      rfl
  have z0 := fun n => (hz n 0 (by decide)).1
  have z1 := fun n => (hz n 1 (by decide)).1
  have z2 := fun n => (hz n 2 (by decide)).1
  have z3 := fun n => (hz n 3 (by decide)).1
  have y0 := fun n => (hz n 0 (by decide)).2
  have y1 := fun n => (hz n 1 (by decide)).2
  have y2 := fun n => (hz n 2 (by decide)).2
  have y3 := fun n => (hz n 3 (by decide)).2
  clear hc hz
  go_enter Tryd.func23, Tryd.ntmps23
  go_wp2_with fail
  go_quiet (fail)
  go_wp2_with (go_at_call 28; (first | (refine (t_r1 _).mono ?_; clear t_r1) | (refine (t_a2 _).mono ?_; clear t_a2) | (refine (t_r2 _).mono ?_; clear t_r2) | (refine (t_r3 _).mono ?_; clear t_r3) | (refine (t_r4 _).mono ?_; clear t_r4) | (refine (t_c3 _).mono ?_; clear t_c3)); rintro e w' ⟨rfl, rfl⟩)
  refine bodyPost_ret (v := .agg #[.int .u64 a3, .int .u64 b2, .int .u64 c3, .int .u64 d2]) ?_ rfl ⟨rfl, ?_⟩
  · simp [results, Tryd.f23, go_sem, z0, z1, z2, z3, World.cell?_setCell_other]
  · exact ((((⟨hB0.os, hB0.tape, hB0.output, hB0.size, hB0.block⟩ : Below w.heap.size w (W0.drewN _)).setCell (by simp) _).setCell (by simp) _).setCell (by simp) _).setCell (by simp) _
end Go.Proofs.YtodpeljmcpefeaaDoor
