/- A word turned left: the library's and the document's. -/
import Derived.Test.YtodpeljmcpefeaaDoorProg
import Derived.Test.YtodpeljmcpefeaaDoorMath
import Derived.Test.YtodpeljmcpefeaaDoorKit
import Derived.WalkKit
import Derived.IntWalk
import Derived.Lib.Hide
import Derived.Deep.QuietTactic
import Derived.BigQuiet
namespace Go.Proofs.YtodpeljmcpefeaaDoor
set_option linter.unusedVariables false
set_option linter.unusedSimpArgs false
open Go.RowKit

/-- A word turned left by n, 0 < n < 64. -/
def rotl (x n : Nat) : Nat := x * 2 ^ n % 18446744073709551616 ||| x / 2 ^ (64 - n)

theorem rotl_lt {x n : Nat} (hx : x < 18446744073709551616) : rotl x n < 18446744073709551616 :=
  Nat.or_lt_two_pow (n := 64) (Nat.mod_lt _ (by decide)) (Nat.lt_of_le_of_lt (Nat.div_le_self _ _) hx)

theorem rotl_bits (x n : Nat) (hx : x < 18446744073709551616) : bits .or .u64 (IntKind.u64.wrap ((x : Int) * 2 ^ n)) ((x : Int) / 2 ^ (64 - n)) = ((rotl x n : Nat) : Int) := by
  have e1 : IntKind.u64.wrap ((x : Int) * 2 ^ n) = ((x * 2 ^ n % 18446744073709551616 : Nat) : Int) := by rw [IntKind.wrap_u64]; simp
  have e2 : ((x : Int) / 2 ^ (64 - n)) = ((x / 2 ^ (64 - n) : Nat) : Int) := by simp
  rw [e1, e2, u64_or_nat _ _ (Nat.mod_lt _ (by decide)) (Nat.lt_of_le_of_lt (Nat.div_le_self _ _) hx)]
  rfl

theorem turn_any (x n : Nat) (w : World) (hx : x < 18446744073709551616) (h0 : 0 < n) (hn : n < 64) : Calls Tryd.prog 28 #[.int .u64 x, .int .u64 n] w fun e w' => e = .returned (.int .u64 (rotl x n)) ∧ w = w' := by
  have hw1 : IntKind.u64.wrap (64 - (n : Int)) = ((64 - n : Nat) : Int) := by rw [IntKind.wrap_u64]; omega
  have hr := rotl_bits x n hx
  go_enter Tryd.func28, Tryd.ntmps28
  go_wp2
  go_ret
  exact ⟨by first | rfl | simp [hr], rfl⟩

theorem rot_any (x n : Nat) (w : World) (hx : x < 18446744073709551616) (h0 : 0 < n) (hn : n < 64) : Calls Tryd.prog 27 #[.int .u64 x, .int .i64 n] w fun e w' => e = .returned (.int .u64 (rotl x n)) ∧ w = w' := by
  have hw1 : IntKind.u64.wrap (64 - (n : Int)) = ((64 - n : Nat) : Int) := by rw [IntKind.wrap_u64]; omega
  have hr := rotl_bits x n hx
  have ha : bits .and .u64 (n : Int) 63 = (n : Int) := (u64_and_nat n 63 (by omega) (by decide)).trans (by rw [show (63 : Nat) = 2 ^ 6 - 1 by rfl, Nat.and_two_pow_sub_one_of_lt_two_pow (n := 6) (by omega)])
  go_enter Tryd.func27, Tryd.ntmps27
  go_wp2
  go_ret
  exact ⟨by first | rfl | simp [hr], rfl⟩

/-- A round over the four words. -/
def addU (x y : Nat) : Nat := (x + y) % 18446744073709551616
def round4 : Nat × Nat × Nat × Nat → Nat × Nat × Nat × Nat
  | (a, b, c, d) =>
    let a1 := addU a b
    let b1 := rotl b 13 ^^^ a1
    let a2 := rotl a1 32
    let c1 := addU c d
    let d1 := rotl d 16 ^^^ c1
    let a3 := addU a2 d1
    let d2 := rotl d1 21 ^^^ a3
    let c2 := addU c1 b1
    let b2 := rotl b1 17 ^^^ c2
    let c3 := rotl c2 32
    (a3, b2, c3, d2)
end Go.Proofs.YtodpeljmcpefeaaDoor
