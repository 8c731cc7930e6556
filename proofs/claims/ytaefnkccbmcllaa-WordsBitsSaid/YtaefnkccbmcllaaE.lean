/- Contracts of layer 1: the chapter's rows (works). -/
import Derived.Test.YtaefnkccbmcllaaD
namespace Go.Proofs.Ytaefnkccbmcllaa
open Go.RowKit

/-- 'string(b)' at a plain region's list. -/
theorem list_str {ops : Array Oper} {rest : List Oper} {o : Oper} {a : Act} {w : World} {Q : Exit → Act → World → Prop} {x : Operand} {v : Value} {bs : List Nat} (hw : Region.wanted o (yielded ops a.tmps) = true)
    (ho : o.op = .convert 24 9 x) (hx : a.eval x = v) (hr : Reads w v (ints .u8 bs)) (h : wpList Try.prog ops Q rest (a.put o.dst (.string (strB bs))) w) : wpList Try.prog ops Q (o :: rest) a w :=
  list_run hw (by
    unfold execOp
    simp only [ho, hx, Sem.run_bind]
    rw [run_str Try.underlying24 Try.underlying5 Try.underlying9 hr]
    rfl) h

theorem quiet_bel {P : Program} {f : FuncId} {args : Array Value} {w : World} {v : Value} (h : Calls P f args w fun e w' => e = .returned v ∧ ∃ n, w' = w.drewN n) : Calls P f args w fun e w' => e = .returned v ∧ Below w.heap.size w w' :=
  h.mono fun _ _ ⟨he, n, hw⟩ => ⟨he, by subst hw; exact ⟨rfl, rfl, rfl, Nat.le_refl _, fun _ _ => rfl⟩⟩

theorem Below.drewN {B : Nat} {a w : World} (h : Below B a w) (n : Nat) : Below B a (w.drewN n) := ⟨h.os, h.tape, h.output, h.size, h.block⟩
theorem lay_abc : layL [97, 98, 99] = [6513249] := by decide
theorem take3 : zerosB ((bytesL [6513249]).drop 3) = true ∧ (bytesL [6513249]).take 3 = [97, 98, 99] := by decide
theorem take2 : zerosB ((bytesL [6513249]).drop 2) = false := by decide
theorem bytes258 : bytesL [258] = [2, 1, 0, 0, 0, 0, 0, 0] := by decide
theorem str_abc : (strB [97, 98, 99]).toList = [97, 98, 99] := by rw [ByteArray.toList_eq]; decide
theorem str_258 : (strB [2, 1, 0, 0, 0, 0, 0, 0]).toList = [2, 1, 0, 0, 0, 0, 0, 0] := by rw [ByteArray.toList_eq]; decide

set_option maxRecDepth 100000 in
set_option maxHeartbeats 2000000 in
theorem works_any (w : World) : Calls Try.prog 10 #[] w fun e w' => e = .returned (.bool true) ∧ Below w.heap.size w w' := by
  have hm9 := run_mk El8 9 9 (by decide) (by decide) (by decide) 9 9 rfl rfl
  have kc := fun (C : Array Value) (n c : Nat) => Lib.run_convert_bytes_const (P := Try.prog) (w.alloc (.cells (madeCells #[.int .u8 0] 9) 5)) 24 5 C n c Try.underlying24 Try.underlying5
  rw [World.size_alloc] at kc
  have hs1 := str_abc
  have hs2 := str_258
  go_enter Try.func10, Try.ntmps10
  go_wp2_with fail
  refine (words_bad _ (List.replicate 9 0) _ (by simpa using (RowL.made w 5 (.int .u8 0) 9).reads 9 (by simp)) (by simp) (by simp)).mono ?_
  rintro e w' ⟨rfl, rfl⟩
  go_wp2_with fail
  refine (lay_any _ [97, 98, 99] 1 _ (by simpa using reads_new (w.alloc (.cells (madeCells #[.int .u8 0] 9) 5)) 5 (ints .u8 [97, 98, 99]) (3, 4) 3 (by decide)) (by decide) (by decide) (by decide)).mono ?_
  rintro e w3 ⟨g, rfl, hg, hrow, hb3⟩
  rw [lay_abc] at hrow
  have hb3' : Below w.heap.size w w3 := (((Below.refl _ w).alloc (Nat.le_refl _) _).alloc (by simp) _).trans (hb3.mono (by simp; omega))
  clear hb3 hg
  have hrd3 : Hid (Reads w3 (.slice (some ⟨g, 0, none⟩) 1 1) (ints .u64 [6513249])) := hrow.reads 1 (by decide)
  clear hrow
  go_wp2_with fail
  refine (take_any _ [6513249] 3 _ hrd3.out (by decide) (by decide)).mono ?_
  rintro e w4 ⟨v4, no4, rfl, hb4, ⟨_, rfl, hrd4⟩ | ⟨hz, _, _⟩⟩
  case inr => rw [take3.1] at hz; cases hz
  rw [take3.2] at hrd4
  have hrd4' : Hid (Reads w4 v4 (ints .u8 [97, 98, 99])) := hrd4
  have hrd34 : Hid (Reads w4 (.slice (some ⟨g, 0, none⟩) 1 1) (ints .u64 [6513249])) := hrd3.out.below hb4
  have hb4' : Below w.heap.size w w4 := hb3'.trans (hb4.mono hb3'.size)
  clear hrd3 hrd4 hb4 hb3'
  go_wp2_with fail
  refine (take_any _ [6513249] 2 _ hrd34.out (by decide) (by decide)).mono ?_
  rintro e w5 ⟨v5, no5, rfl, hb5, ⟨hz, _, _⟩ | ⟨_, rfl, rfl⟩⟩
  case inl => rw [take2] at hz; cases hz
  have hrd45 : Hid (Reads w5 v4 (ints .u8 [97, 98, 99])) := hrd4'.out.below hb5
  have hrd35 : Hid (Reads w5 (.slice (some ⟨g, 0, none⟩) 1 1) (ints .u64 [6513249])) := hrd34.out.below hb5
  have hb5' : Below w.heap.size w w5 := hb4'.trans (hb5.mono hb4'.size)
  clear hrd4' hrd34 hb5 hb4'
  go_wp2_with fail
  refine (field_ok 258 8 8 (by decide) (by decide) (by decide) _).mono ?_
  rintro e w' ⟨rfl, rfl⟩
  go_wp2_with fail
  refine (with_ok 0 4 4 9 (by decide) (by decide) (by decide) (by decide) _).mono ?_
  rintro e w6 ⟨rfl, n6, rfl⟩
  go_wp2_with fail
  refine (with_range 0 4 4 16 (by decide) (by decide) (by decide) _).mono ?_
  rintro e w6 ⟨rfl, rfl⟩
  go_wp2_with fail
  refine (field_bad 1 60 5 (by decide) _).mono ?_
  rintro e w6 ⟨rfl, rfl⟩
  go_wp2_with fail
  refine (bytes_any _ [258] _ (by simpa using reads_new (w5.drewN n6) 40 (ints .u64 [258]) (0, 0) 1 (by decide)) (by decide)).mono ?_
  rintro e w7 ⟨v7, rfl, hown7, hb7⟩
  rw [bytes258] at hown7
  have hrd7 : Hid (Reads w7 v7 (ints .u8 [2, 1, 0, 0, 0, 0, 0, 0])) := reads_of_owns hown7
  have hb57 : Below w5.heap.size w5 w7 := ((Below.drewN (Below.refl _ w5) n6).alloc (Nat.le_refl _) _).trans (hb7.mono (by simp))
  have hrd47 : Hid (Reads w7 v4 (ints .u8 [97, 98, 99])) := hrd45.out.below hb57
  have hrd37 : Hid (Reads w7 (.slice (some ⟨g, 0, none⟩) 1 1) (ints .u64 [6513249])) := hrd35.out.below hb57
  have hb7' : Below w.heap.size w w7 := hb5'.trans (hb57.mono hb5'.size)
  clear hrd45 hrd35 hown7 hb7 hb57 hb5'
  go_wp2_with (first | (refine list_str (bs := [2, 1, 0, 0, 0, 0, 0, 0]) rfl rfl rfl hrd7.out ?_) | (go_at_call 15; refine (num_any _ _).mono ?_; rintro e w' ⟨rfl, rfl⟩))
  refine (same_any _ _ [6513249] [6513249] _ (hrd37.out.alloc _) (by simpa using reads_new w7 40 (ints .u64 [6513249]) (0, 0) 1 (by decide)) (by decide) (by decide)).mono ?_
  rintro e w8 ⟨rfl, n8, rfl⟩
  go_wp2_with (first | (refine list_str (bs := [97, 98, 99]) rfl rfl rfl (hrd47.out.alloc _) ?_) | (go_at_call 15; refine (num_any _ _).mono ?_; rintro e w' ⟨rfl, rfl⟩))
  go_ret
  exact ⟨rfl, hb7'.trans (Below.drewN ((Below.refl _ w7).alloc hb7'.size _) n8)⟩
end Go.Proofs.Ytaefnkccbmcllaa
