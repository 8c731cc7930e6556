/- record: the record of words. -/
import Derived.Test.YtefepklacchghaaRec3
import Derived.Test.YtefepklacchghaaFwd
namespace Go.Proofs.Ytefepklacchghaa
set_option linter.unusedVariables false
set_option linter.unusedSimpArgs false
open Go.RowKit Go.Shelf
section
variable (g bk off cap x k : Nat) (ws : List Nat) (l : Bs) (w : World)
theorem m1_T (n : Int) (hr : RowL w g 62 (undR n l (.slice (some ⟨bk, off, none⟩) 16 cap))) (hN : 16 ≤ cap) (c1 : w.cell? ⟨bk, off + 0, none⟩ = some (.int .u64 (x : Int))) (h : x ≠ 0) : Calls Try.prog 34 #[.pointer (some ⟨g, 0, none⟩)] w fun e w' => e = .returned (.bool true) ∧ w = w' := by
  have := m1_any g bk off cap x n l w hr hN c1
  rwa [decide_eq_true h] at this
theorem m1_Z (n : Int) (hr : RowL w g 62 (undR n l (.slice (some ⟨bk, off, none⟩) 16 cap))) (hN : 16 ≤ cap) (c1 : w.cell? ⟨bk, off + 0, none⟩ = some (.int .u64 (x : Int))) (h : x = 0) : Calls Try.prog 34 #[.pointer (some ⟨g, 0, none⟩)] w fun e w' => e = .returned (.bool false) ∧ w = w' := by
  have := m1_any g bk off cap x n l w hr hN c1
  rwa [decide_eq_false (by omega)] at this
theorem m2_T (n : Int) (hr : RowL w g 62 (undR n l (.slice (some ⟨bk, off, none⟩) 16 cap))) (hN : 16 ≤ cap) (c1 : w.cell? ⟨bk, off + 0, none⟩ = some (.int .u64 (x : Int))) (hx : x < 18446744073709551616) (hbk : bk ≠ g) (h : 1 ≤ x % 65536 ∧ x % 65536 ≤ 256) : Calls Try.prog 35 #[.pointer (some ⟨g, 0, none⟩)] w fun e w' => e = .returned (.bool true) ∧ RowL w' g 62 (undR ((x % 65536 : Nat) : Int) l (.slice (some ⟨bk, off, none⟩) 16 cap)) ∧ keepR g w w' := by
  have := m2_any g bk off cap x n l w hr hN c1 hx hbk
  rwa [decide_eq_true h] at this
theorem m2_F (n : Int) (hr : RowL w g 62 (undR n l (.slice (some ⟨bk, off, none⟩) 16 cap))) (hN : 16 ≤ cap) (c1 : w.cell? ⟨bk, off + 0, none⟩ = some (.int .u64 (x : Int))) (hx : x < 18446744073709551616) (hbk : bk ≠ g) (h : ¬(1 ≤ x % 65536 ∧ x % 65536 ≤ 256)) : Calls Try.prog 35 #[.pointer (some ⟨g, 0, none⟩)] w fun e w' => e = .returned (.bool false) ∧ RowL w' g 62 (undR ((x % 65536 : Nat) : Int) l (.slice (some ⟨bk, off, none⟩) 16 cap)) ∧ keepR g w w' := by
  have := m2_any g bk off cap x n l w hr hN c1 hx hbk
  rwa [decide_eq_false h] at this
theorem m3_T (n : Int) (hr : RowL w g 62 (undR n l (.slice (some ⟨bk, off, none⟩) 16 cap))) (hN : 16 ≤ cap) (hR : Reads w (.slice (some ⟨bk, off, none⟩) 16 cap) (ints .u64 ws)) (hws : ws.length = 16) (c1 : w.cell? ⟨bk, off + 0, none⟩ = some (.int .u64 (x : Int))) (hx : x < 18446744073709551616) (hk : x / 65536 % 256 = k) (hlong : 1 ≤ k ∧ k ≤ 120) (hbk : bk ≠ g) (hz : zerosB ((bytesL ((ws.drop 1).take ((k + 7) / 8))).drop k) = true) : Calls Try.prog 37 #[.pointer (some ⟨g, 0, none⟩)] w fun e w' => e = .returned (.bool true) ∧ RowL w' g 62 (undR n (nmW ws k) (.slice (some ⟨bk, off, none⟩) 16 cap)) ∧ keepR g w w' := by
  refine (m3_any g bk off cap x k ws n l w hr hN hR hws c1 hx hk hlong hbk).mono ?_
  rintro e w' ⟨b, rfl, h1, h2, h3⟩
  rw [h2 hz] at h1 ⊢
  exact ⟨rfl, (h1 rfl).2, h3⟩
theorem m3_Z (n : Int) (hr : RowL w g 62 (undR n l (.slice (some ⟨bk, off, none⟩) 16 cap))) (hN : 16 ≤ cap) (hR : Reads w (.slice (some ⟨bk, off, none⟩) 16 cap) (ints .u64 ws)) (hws : ws.length = 16) (c1 : w.cell? ⟨bk, off + 0, none⟩ = some (.int .u64 (x : Int))) (hx : x < 18446744073709551616) (hk : x / 65536 % 256 = k) (hlong : 1 ≤ k ∧ k ≤ 120) (hbk : bk ≠ g) (hz : zerosB ((bytesL ((ws.drop 1).take ((k + 7) / 8))).drop k) = false) : Calls Try.prog 37 #[.pointer (some ⟨g, 0, none⟩)] w fun e w' => e = .returned (.bool false) ∧ keepR g w w' := by
  refine (m3_any g bk off cap x k ws n l w hr hN hR hws c1 hx hk hlong hbk).mono ?_
  rintro e w' ⟨b, rfl, h1, h2, h3⟩
  cases b with
  | false => exact ⟨rfl, h3⟩
  | true => rw [(h1 rfl).1] at hz; cases hz
theorem m4_T (n : Nat) (hr : RowL w g 62 (undR n l (.slice (some ⟨bk, off, none⟩) 16 cap))) (hR : Reads w (.slice (some ⟨bk, off, none⟩) 16 cap) (ints .u64 ws)) (hws : ws.length = 16) (h : okR n l) (he : recW n l = ws) : Calls Try.prog 39 #[.pointer (some ⟨g, 0, none⟩)] w fun e w' => e = .returned (.bool true) ∧ Below w.heap.size w w' := by
  have := m4_any g bk off cap n l ws w hr hR hws h
  rwa [decide_eq_true he] at this
/-- These words are not those of this record: told so that nothing looks into it. -/
def notW (n : Nat) (l : Bs) (ws : List Nat) : Prop := ¬(okR n l ∧ recW n l = ws) ∧ l.length ≤ 1048576
theorem m4_N (n : Nat) (hr : RowL w g 62 (undR n l (.slice (some ⟨bk, off, none⟩) 16 cap))) (hR : Reads w (.slice (some ⟨bk, off, none⟩) 16 cap) (ints .u64 ws)) (hws : ws.length = 16) (h : notW n l ws) : Calls Try.prog 39 #[.pointer (some ⟨g, 0, none⟩)] w fun e w' => e = .returned (.bool false) ∧ Below w.heap.size w w' := by
  by_cases ho : okR n l
  · have := m4_any g bk off cap n l ws w hr hR hws ho
    rwa [decide_eq_false (fun he => h.1 ⟨ho, he⟩)] at this
  · exact m4_F g bk off cap n l w hr h.2 ho
end
/-- The first word of a record. -/
def wd0 (ws : List Nat) : Nat := ws[0]?.getD 0
theorem recW_head (n : Nat) (l : Bs) : wd0 (recW n l) = headR n l := by simp [wd0, recW, padL]
theorem recW_name {n : Nat} {l : Bs} (h : 1 ≤ l.length ∧ l.length ≤ 120) : ((recW n l).drop 1).take ((l.length + 7) / 8) = layL (nbL l) := by
  unfold recW padL
  rw [List.cons_append, List.drop_one, List.tail_cons, List.take_append_of_le_length (by rw [layL_len]; omega), List.take_of_length_le (by rw [layL_len]; omega)]
theorem rec_facts {n : Nat} {l : Bs} (h : okR n l) : wd0 (recW n l) ≠ 0 ∧ wd0 (recW n l) % 65536 = n ∧ wd0 (recW n l) / 65536 % 256 = l.length ∧ zerosB ((bytesL (((recW n l).drop 1).take ((l.length + 7) / 8))).drop l.length) = true ∧ nmW (recW n l) l.length = l := by
  have hl := nameN_len h.2
  rw [recW_head]
  refine ⟨by unfold headR; omega, by unfold headR; omega, by unfold headR; omega, ?_, ?_⟩
  · rw [recW_name hl]
    have := lay_drop (nbL l) (nbL_lt l)
    rwa [nbL_len] at this
  · unfold nmW
    rw [recW_name hl]
    have := lay_take (nbL l) (nbL_lt l)
    rw [nbL_len] at this
    rw [this, ofN_nbL]
set_option maxRecDepth 100000 in
set_option maxHeartbeats 8000000 in
theorem of_T (v : Value) (ws : List Nat) (n : Nat) (l : Bs) (w : World) (hv : Reads w v (ints .u64 ws)) (ho : okR n l) (he : ws = recW n l) : Calls Try.prog 13 #[v] w fun e w' => e = .returned (.tuple #[recV n l, .int .i64 0]) ∧ Below w.heap.size w w' := by
  have q := Below.refl w.heap.size w
  have hl := nameN_len ho.2
  have hws : ws.length = 16 := by rw [he]; exact recW_len hl.2
  obtain ⟨f1, f2, f3, f4, f5⟩ := rec_facts ho
  rw [← he] at f1 f2 f3 f4 f5
  obtain ⟨a, cap, rfl, hcap, hcells⟩ := hv.intsN hws
  obtain ⟨bk, off, rfl, hbk, hc⟩ := hcells (by omega)
  have c1 : w.cell? ⟨bk, off + 0, none⟩ = some (.int .u64 (wd0 ws : Int)) := hc 0 (by omega)
  have hx : wd0 ws < 18446744073709551616 := by rw [he, recW_head]; unfold headR; omega
  have hre := he.symm
  obtain ⟨x, hxd⟩ : ∃ x, wd0 ws = x := ⟨_, rfl⟩
  rw [hxd] at f1 f2 f3 c1 hx
  have ho2 : okR ((x % 65536 : Nat) : Int) (nmW ws l.length) := by rw [f2, f5]; exact ho
  have hre2 : recW (x % 65536) (nmW ws l.length) = ws := by rw [f2, f5]; exact hre
  clear hc hcells he hxd ho
  refine X.fn Try.func13 rfl (n := 22) rfl rfl ?_
  refine CC.seq ?_
  refine CC.region ?_
  refine LL.alloc ([Value.int IntKind.i64 0, Value.string { data := { toList := [] } }]) rfl rfl rfl rfl rfl ?_
  intro W2 g3 eg3 r4 z5 b1
  replace q := q.trans (b1.mono q.size)
  replace hv := hv.up b1
  replace c1 := cell_up c1 b1
  refine LL.val (R.assign rfl rfl) rfl rfl rfl ?_
  refine LL.nilS ?_
  refine CC.fwd (l := 0) (α := Unit) (fun _ => []) (fun _ => []) (fun _ W => False) rfl ?first (fun _ _ h => h.elim)
  refine CC.seq ?_
  refine CC.region ?_
  refine LL.val (R.move rfl rfl) rfl rfl rfl ?_
  refine LL.val (R.buildV rfl rfl (v := .agg #[Value.int IntKind.i64 0, Value.string { data := #[] }, Value.slice (some { block := bk, off := off }) 16 cap]) (fun _ => by kernel_rfl)) rfl rfl rfl ?_
  have la1 := r4.lt
  refine LL.alloc ([Value.int IntKind.i64 0, Value.string { data := { toList := [] } }, Value.slice none 0 0]) rfl rfl rfl rfl rfl ?_
  intro Wa3 ga4 ega4 ra5 za6 ba2
  replace r4 := r4.up ba2
  replace b1 := b1.trans (ba2.mono b1.size)
  replace q := q.trans (ba2.mono q.size)
  replace hv := hv.up ba2
  replace c1 := cell_up c1 ba2
  refine LL.storeN (vs := [Value.int IntKind.i64 0, Value.string { data := #[] }, Value.slice (some { block := bk, off := off }) 16 cap]) rfl rfl rfl rfl ra5 (by exact Nat.le_of_ble_eq_true rfl) (ones_of rfl) rfl rfl ?_
  intro Wa8 ra9 ba7 za10
  have hlba7 := ra5.lt
  replace ra9 : RowL Wa8 _ 62 [Value.int IntKind.i64 0, Value.string { data := #[] }, Value.slice (some { block := bk, off := off }) 16 cap] := ra9
  clear ra5
  replace ba2 := ba2.grown ba7 ba2.size (by rintro k ⟨⟩; omega)
  replace r4 := r4.gr ba7 (by have := r4.lt; omega)
  replace b1 := b1.grown ba7 b1.size (by rintro k ⟨⟩; omega)
  replace q := q.grown ba7 q.size (by rintro k ⟨⟩; omega)
  replace hv := hv.gr ba7 (by omega)
  replace c1 := cell_gr c1 ba7 (by omega)
  have ra5 := ra9
  clear ra9
  refine LL.nilS ?_
  refine CC.seq ?_
  refine CC.seq ?_
  refine CC.region ?_
  refine LL.call (R.call rfl rfl rfl) rfl rfl rfl (musts_any _) ?_
  rintro e Wa12 ⟨ga13, rfl, ra14, la15, ba11⟩
  refine ⟨_, rfl, ?_⟩
  have zba11 := ba11.size
  replace ba2 := ba2.trans (ba11.mono ba2.size)
  replace r4 := r4.up ba11
  replace b1 := b1.trans (ba11.mono b1.size)
  replace q := q.trans (ba11.mono q.size)
  replace hv := hv.up ba11
  replace c1 := cell_up c1 ba11
  replace ra5 := ra5.up ba11
  refine LL.val (R.len rfl rfl rfl rfl) rfl rfl rfl ?_
  refine LL.val (R.move rfl rfl) rfl rfl rfl ?_
  refine LL.nilS ?_
  refine CC.block ?_
  refine CC.loopN 6 ?_
  refine RN.step ?_
  refine CC.seq ?_
  refine CC.region ?_
  refine LL.val (R.ltT rfl rfl rfl (by omega)) rfl rfl rfl ?_
  refine LL.nilS ?_
  refine CC.seq ?_
  refine CC.yes rfl ?_
  refine CC.skip ?_
  refine EE.thenN ?_
  refine CC.seq ?_
  refine CC.block ?_
  refine CC.seq ?_
  refine CC.region ?_
  refine LL.val (R.index rfl rfl rfl (I.ixS1c rfl rfl (by omega))) rfl rfl rfl ?_
  refine LL.val (R.load rfl rfl (I.ld1 rfl (RowL.cell ra14 rfl))) rfl rfl rfl ?_
  refine LL.val (R.assign rfl rfl) rfl rfl rfl ?_
  refine LL.nilS ?_
  refine CC.seq ?_
  refine CC.region ?_
  refine LL.val (R.move rfl rfl) rfl rfl rfl ?_
  refine LL.call (R.callV rfl rfl rfl rfl) rfl rfl rfl (m1_T _ _ _ _ _ _ _ _ (by assumption) (by omega) (by assumption) (by omega)) ?_
  rintro e W' ⟨rfl, rfl⟩
  refine ⟨_, rfl, ?_⟩
  refine LL.val (R.not rfl rfl) rfl rfl rfl ?_
  refine LL.nilS ?_
  refine CC.no rfl ?_
  refine CC.skip ?_
  refine EE.inN ?_
  refine EE.thenN ?_
  refine CC.region ?_
  refine LL.val (R.addIz (z := 1) rfl rfl rfl (by decide) (by decide)) rfl rfl rfl ?_
  refine LL.val (R.move rfl rfl) rfl rfl rfl ?_
  refine LL.nil ?_
  refine EE.again ?_
  refine RN.step ?_
  refine CC.seq ?_
  refine CC.region ?_
  refine LL.val (R.ltT rfl rfl rfl (by omega)) rfl rfl rfl ?_
  refine LL.nilS ?_
  refine CC.seq ?_
  refine CC.yes rfl ?_
  refine CC.skip ?_
  refine EE.thenN ?_
  refine CC.seq ?_
  refine CC.block ?_
  refine CC.seq ?_
  refine CC.region ?_
  refine LL.val (R.index rfl rfl rfl (I.ixS1c rfl rfl (by omega))) rfl rfl rfl ?_
  refine LL.val (R.load rfl rfl (I.ld1 rfl (RowL.cell ra14 rfl))) rfl rfl rfl ?_
  refine LL.val (R.assign rfl rfl) rfl rfl rfl ?_
  refine LL.nilS ?_
  refine CC.seq ?_
  refine CC.region ?_
  refine LL.val (R.move rfl rfl) rfl rfl rfl ?_
  refine LL.call (R.callV rfl rfl rfl rfl) rfl rfl rfl (m2_T _ _ _ _ _ _ _ _ (by assumption) (by omega) (by assumption) (by omega) (by omega) (by omega)) ?_
  rintro e Wa18 ⟨rfl, ra19, ta20⟩
  refine ⟨_, rfl, ?_⟩
  have zta20 := ta20.size
  replace ra14 := ra14.kept ta20 ⟨ra14.lt, by omega⟩
  replace ba2 := ta20.onB ba2 (fun j hj => ⟨by have := ba2.size; omega, by omega⟩)
  replace r4 := r4.kept ta20 ⟨r4.lt, by omega⟩
  replace b1 := ta20.onB b1 (fun j hj => ⟨by have := b1.size; omega, by omega⟩)
  replace q := ta20.onB q (fun j hj => ⟨by have := q.size; omega, by omega⟩)
  replace hv := hv.kept ta20 ⟨by omega, by omega⟩
  replace c1 := cell_kept c1 ta20 ⟨World.block_lt_of_cell? _ _ c1, by omega⟩
  refine LL.val (R.not rfl rfl) rfl rfl rfl ?_
  refine LL.nilS ?_
  refine CC.no rfl ?_
  refine CC.skip ?_
  refine EE.inN ?_
  refine EE.thenN ?_
  refine CC.region ?_
  refine LL.val (R.addIz (z := 2) rfl rfl rfl (by decide) (by decide)) rfl rfl rfl ?_
  refine LL.val (R.move rfl rfl) rfl rfl rfl ?_
  refine LL.nil ?_
  refine EE.again ?_
  refine RN.step ?_
  refine CC.seq ?_
  refine CC.region ?_
  refine LL.val (R.ltT rfl rfl rfl (by omega)) rfl rfl rfl ?_
  refine LL.nilS ?_
  refine CC.seq ?_
  refine CC.yes rfl ?_
  refine CC.skip ?_
  refine EE.thenN ?_
  refine CC.seq ?_
  refine CC.block ?_
  refine CC.seq ?_
  refine CC.region ?_
  refine LL.val (R.index rfl rfl rfl (I.ixS1c rfl rfl (by omega))) rfl rfl rfl ?_
  refine LL.val (R.load rfl rfl (I.ld1 rfl (RowL.cell ra14 rfl))) rfl rfl rfl ?_
  refine LL.val (R.assign rfl rfl) rfl rfl rfl ?_
  refine LL.nilS ?_
  refine CC.seq ?_
  refine CC.region ?_
  refine LL.val (R.move rfl rfl) rfl rfl rfl ?_
  refine LL.call (R.callV rfl rfl rfl rfl) rfl rfl rfl (m3_T _ _ _ _ _ _ _ _ _ _ (by assumption) (by omega) (by assumption) (by omega) (by assumption) (by omega) (by assumption) (by omega) (by omega) (by assumption)) ?_
  rintro e Wa22 ⟨rfl, ra23, ta24⟩
  refine ⟨_, rfl, ?_⟩
  have zta24 := ta24.size
  replace ra14 := ra14.kept ta24 ⟨ra14.lt, by omega⟩
  replace ba2 := ta24.onB ba2 (fun j hj => ⟨by have := ba2.size; omega, by omega⟩)
  replace r4 := r4.kept ta24 ⟨r4.lt, by omega⟩
  replace b1 := ta24.onB b1 (fun j hj => ⟨by have := b1.size; omega, by omega⟩)
  replace q := ta24.onB q (fun j hj => ⟨by have := q.size; omega, by omega⟩)
  replace hv := hv.kept ta24 ⟨by omega, by omega⟩
  replace c1 := cell_kept c1 ta24 ⟨World.block_lt_of_cell? _ _ c1, by omega⟩
  refine LL.val (R.not rfl rfl) rfl rfl rfl ?_
  refine LL.nilS ?_
  refine CC.no rfl ?_
  refine CC.skip ?_
  refine EE.inN ?_
  refine EE.thenN ?_
  refine CC.region ?_
  refine LL.val (R.addIz (z := 3) rfl rfl rfl (by decide) (by decide)) rfl rfl rfl ?_
  refine LL.val (R.move rfl rfl) rfl rfl rfl ?_
  refine LL.nil ?_
  refine EE.again ?_
  refine RN.step ?_
  refine CC.seq ?_
  refine CC.region ?_
  refine LL.val (R.ltT rfl rfl rfl (by omega)) rfl rfl rfl ?_
  refine LL.nilS ?_
  refine CC.seq ?_
  refine CC.yes rfl ?_
  refine CC.skip ?_
  refine EE.thenN ?_
  refine CC.seq ?_
  refine CC.block ?_
  refine CC.seq ?_
  refine CC.region ?_
  refine LL.val (R.index rfl rfl rfl (I.ixS1c rfl rfl (by omega))) rfl rfl rfl ?_
  refine LL.val (R.load rfl rfl (I.ld1 rfl (RowL.cell ra14 rfl))) rfl rfl rfl ?_
  refine LL.val (R.assign rfl rfl) rfl rfl rfl ?_
  refine LL.nilS ?_
  refine CC.seq ?_
  refine CC.region ?_
  refine LL.val (R.move rfl rfl) rfl rfl rfl ?_
  refine LL.call (R.callV rfl rfl rfl rfl) rfl rfl rfl (m4_T _ _ _ _ _ _ _ _ (by assumption) (by assumption) (by omega) (by assumption) (by assumption)) ?_
  rintro e Wa26 ⟨rfl, ba25⟩
  refine ⟨_, rfl, ?_⟩
  have zba25 := ba25.size
  replace ra23 := ra23.up ba25
  replace ra14 := ra14.up ba25
  replace ba2 := ba2.trans (ba25.mono ba2.size)
  replace r4 := r4.up ba25
  replace b1 := b1.trans (ba25.mono b1.size)
  replace q := q.trans (ba25.mono q.size)
  replace hv := hv.up ba25
  replace c1 := cell_up c1 ba25
  refine LL.val (R.not rfl rfl) rfl rfl rfl ?_
  refine LL.nilS ?_
  refine CC.no rfl ?_
  refine CC.skip ?_
  refine EE.inN ?_
  refine EE.thenN ?_
  refine CC.region ?_
  refine LL.val (R.addIz (z := 4) rfl rfl rfl (by decide) (by decide)) rfl rfl rfl ?_
  refine LL.val (R.move rfl rfl) rfl rfl rfl ?_
  refine LL.nil ?_
  refine EE.again ?_
  refine RN.step ?_
  refine CC.seq ?_
  refine CC.region ?_
  refine LL.val (R.ltF rfl rfl rfl (by omega)) rfl rfl rfl ?_
  refine LL.nilS ?_
  refine CC.seq ?_
  refine CC.no rfl ?_
  refine CC.exit ?_
  refine EE.thenX ?_
  refine EE.thenX ?_
  refine EE.inX ?_
  refine EE.thenN ?_
  refine CC.seq ?_
  refine CC.seq ?_
  refine CC.region ?_
  refine LL.val (R.field rfl rfl (I.fld rfl)) rfl rfl rfl ?_
  refine LL.val (R.load rfl rfl (I.ldNc (vs := [Value.int IntKind.i64 ↑(x % 65536), strV (nmW ws (List.length l))]) (RowL.cells ra23 rfl) (by rfl) (by rfl))) rfl rfl rfl ?_
  refine LL.storeN (vs := [Value.int IntKind.i64 ↑(x % 65536), strV (nmW ws (List.length l))]) rfl rfl rfl rfl r4 (by exact Nat.le_of_ble_eq_true rfl) (ones_of rfl) rfl rfl ?_
  intro Wa29 ra30 ba28 za31
  have hlba28 := r4.lt
  replace ra30 : RowL Wa29 _ 23 [Value.int IntKind.i64 ↑(x % 65536), strV (nmW ws (List.length l))] := ra30
  clear r4
  replace ra23 := ra23.gr ba28 (by have := ra23.lt; omega)
  replace ra14 := ra14.gr ba28 (by have := ra14.lt; omega)
  replace b1 := b1.grown ba28 b1.size (by rintro k ⟨⟩; omega)
  replace q := q.grown ba28 q.size (by rintro k ⟨⟩; omega)
  replace hv := hv.gr ba28 (by omega)
  replace c1 := cell_gr c1 ba28 (by omega)
  have r4 := ra30
  clear ra30
  refine LL.val (R.assign rfl rfl) rfl rfl rfl ?_
  refine LL.nilS ?_
  refine CC.ret ?_
  refine EE.thenR ?_
  refine EE.jumpR ?_
  refine EE.ret2 rfl ⟨_, rfl, lvNc (RowL.cells0 (by assumption)) (by rfl) (by rfl)⟩ rfl ?_
  exact ⟨by rw [f2, f5], q⟩
--C record_musts_1 | m1_F _ _ _ _ _ _ @w (by assumption) (by omega) | S
set_option maxRecDepth 100000 in
set_option maxHeartbeats 8000000 in
theorem of_F16 (v : Value) (ws : List Nat) (w : World) (hv : Reads w v (ints .u64 ws)) (hws : ws.length ≠ 16) (hlen : ws.length ≤ 1048576) : Calls Try.prog 13 #[v] w fun e w' => e = .returned (.tuple #[recV 0 [], .int .i64 250]) ∧ Below w.heap.size w w' := by
  have q := Below.refl w.heap.size w
  obtain ⟨N, hN⟩ : ∃ N, ws.length = N := ⟨_, rfl⟩
  rw [hN] at hws hlen
  obtain ⟨a, cap, rfl, hcap, hcells⟩ := hv.intsN hN
  clear hv hcells
  refine X.fn Try.func13 rfl (n := 22) rfl rfl ?_
  refine CC.seq ?_
  refine CC.region ?_
  refine LL.alloc ([Value.int IntKind.i64 0, Value.string { data := { toList := [] } }]) rfl rfl rfl rfl rfl ?_
  intro W2 g3 eg3 r4 z5 b1
  replace q := q.trans (b1.mono q.size)
  refine LL.val (R.assign rfl rfl) rfl rfl rfl ?_
  refine LL.nilS ?_
  refine CC.fwd (l := 0) (α := Unit) (fun _ => []) (fun _ => [(2, .pointer (some ⟨g3, 0, none⟩))]) (fun _ W => Below w.heap.size w W ∧ RowL W g3 23 [.int .i64 0, strV []]) rfl ?first ?pass
  case pass =>
    rintro _ W ⟨q, r4⟩
    refine CC.seq ?_
    refine CC.skip ?_
    refine EE.thenN ?_
    refine CC.seq ?_
    refine CC.region ?_
    refine LL.val (R.buildV rfl rfl (v := .agg #[Value.int IntKind.i64 0, Value.string { data := #[] }]) (fun _ => by kernel_rfl)) rfl rfl rfl ?_
    refine LL.storeN (vs := [Value.int IntKind.i64 0, Value.string { data := #[] }]) rfl rfl rfl rfl r4 (by exact Nat.le_of_ble_eq_true rfl) (ones_of rfl) rfl rfl ?_
    intro Wa2 ra3 ba1 za4
    have hlba1 := r4.lt
    replace ra3 : RowL Wa2 _ 23 [Value.int IntKind.i64 0, Value.string { data := #[] }] := ra3
    clear r4
    replace q := q.grown ba1 q.size (by rintro k ⟨⟩; omega)
    have r4 := ra3
    clear ra3
    refine LL.val (R.assign rfl rfl) rfl rfl rfl ?_
    refine LL.nilS ?_
    refine CC.ret ?_
    refine EE.jumpR ?_
    refine EE.ret2 rfl ⟨_, rfl, lvNc (RowL.cells0 (by assumption)) (by rfl) (by rfl)⟩ rfl ?_
    exact ⟨rfl, q⟩
  case first =>
    refine CC.seq ?_
    refine CC.region ?_
    refine LL.val (R.move rfl rfl) rfl rfl rfl ?_
    refine LL.val (R.buildV rfl rfl (v := .agg #[Value.int IntKind.i64 0, Value.string { data := #[] }, Value.slice a N cap]) (fun _ => by kernel_rfl)) rfl rfl rfl ?_
    have lb1 := r4.lt
    refine LL.alloc ([Value.int IntKind.i64 0, Value.string { data := { toList := [] } }, Value.slice none 0 0]) rfl rfl rfl rfl rfl ?_
    intro Wb3 gb4 egb4 rb5 zb6 bb2
    replace r4 := r4.up bb2
    replace b1 := b1.trans (bb2.mono b1.size)
    replace q := q.trans (bb2.mono q.size)
    refine LL.storeN (vs := [Value.int IntKind.i64 0, Value.string { data := #[] }, Value.slice a N cap]) rfl rfl rfl rfl rb5 (by exact Nat.le_of_ble_eq_true rfl) (ones_of rfl) rfl rfl ?_
    intro Wb8 rb9 bb7 zb10
    have hlbb7 := rb5.lt
    replace rb9 : RowL Wb8 _ 62 [Value.int IntKind.i64 0, Value.string { data := #[] }, Value.slice a N cap] := rb9
    clear rb5
    replace bb2 := bb2.grown bb7 bb2.size (by rintro k ⟨⟩; omega)
    replace r4 := r4.gr bb7 (by have := r4.lt; omega)
    replace b1 := b1.grown bb7 b1.size (by rintro k ⟨⟩; omega)
    replace q := q.grown bb7 q.size (by rintro k ⟨⟩; omega)
    have rb5 := rb9
    clear rb9
    refine LL.nilS ?_
    refine CC.seq ?_
    refine CC.seq ?_
    refine CC.region ?_
    refine LL.call (R.call rfl rfl rfl) rfl rfl rfl (musts_any _) ?_
    rintro e Wb12 ⟨gb13, rfl, rb14, lb15, bb11⟩
    refine ⟨_, rfl, ?_⟩
    have zbb11 := bb11.size
    replace bb2 := bb2.trans (bb11.mono bb2.size)
    replace r4 := r4.up bb11
    replace b1 := b1.trans (bb11.mono b1.size)
    replace q := q.trans (bb11.mono q.size)
    replace rb5 := rb5.up bb11
    refine LL.val (R.len rfl rfl rfl rfl) rfl rfl rfl ?_
    refine LL.val (R.move rfl rfl) rfl rfl rfl ?_
    refine LL.nilS ?_
    refine CC.block ?_
    refine CC.loopN 6 ?_
    refine RN.step ?_
    refine CC.seq ?_
    refine CC.region ?_
    refine LL.val (R.ltT rfl rfl rfl (by omega)) rfl rfl rfl ?_
    refine LL.nilS ?_
    refine CC.seq ?_
    refine CC.yes rfl ?_
    refine CC.skip ?_
    refine EE.thenN ?_
    refine CC.seq ?_
    refine CC.block ?_
    refine CC.seq ?_
    refine CC.region ?_
    refine LL.val (R.index rfl rfl rfl (I.ixS1c rfl rfl (by omega))) rfl rfl rfl ?_
    refine LL.val (R.load rfl rfl (I.ld1 rfl (RowL.cell rb14 rfl))) rfl rfl rfl ?_
    refine LL.val (R.assign rfl rfl) rfl rfl rfl ?_
    refine LL.nilS ?_
    refine CC.seq ?_
    refine CC.region ?_
    refine LL.val (R.move rfl rfl) rfl rfl rfl ?_
    refine LL.call (R.callV rfl rfl rfl rfl) rfl rfl rfl (m1_F _ _ _ _ _ _ _ (by assumption) (by omega)) ?_
    rintro e W' ⟨rfl, rfl⟩
    refine ⟨_, rfl, ?_⟩
    refine LL.val (R.not rfl rfl) rfl rfl rfl ?_
    refine LL.nilS ?_
    refine CC.yes rfl ?_
    refine CC.goto ?_
    refine EE.inG ?_
    refine EE.thenG ?_
    refine EE.thenG ?_
    refine EE.inG ?_
    refine EE.thenG ?_
    (refine EE.jumpTo () rfl ?_ ⟨q, r4⟩; exact ⟨rfl, trivial⟩)
set_option maxRecDepth 100000 in
set_option maxHeartbeats 8000000 in
theorem of_F1 (v : Value) (ws : List Nat) (w : World) (x : Nat) (hv : Reads w v (ints .u64 ws)) (hws : ws.length = 16) (hxd : wd0 ws = x) (hx : x < 18446744073709551616) (h : x = 0) : Calls Try.prog 13 #[v] w fun e w' => e = .returned (.tuple #[recV 0 [], .int .i64 250]) ∧ Below w.heap.size w w' := by
  have q := Below.refl w.heap.size w
  obtain ⟨a, cap, rfl, hcap, hcells⟩ := hv.intsN hws
  obtain ⟨bk, off, rfl, hbk, hc⟩ := hcells (by omega)
  have c1 : w.cell? ⟨bk, off + 0, none⟩ = some (.int .u64 (x : Int)) := by rw [← hxd]; exact hc 0 (by omega)
  clear hc hcells hxd
  refine X.fn Try.func13 rfl (n := 22) rfl rfl ?_
  refine CC.seq ?_
  refine CC.region ?_
  refine LL.alloc ([Value.int IntKind.i64 0, Value.string { data := { toList := [] } }]) rfl rfl rfl rfl rfl ?_
  intro W2 g3 eg3 r4 z5 b1
  replace q := q.trans (b1.mono q.size)
  replace hv := hv.up b1
  replace c1 := cell_up c1 b1
  refine LL.val (R.assign rfl rfl) rfl rfl rfl ?_
  refine LL.nilS ?_
  refine CC.fwd (l := 0) (α := Unit) (fun _ => []) (fun _ => [(2, .pointer (some ⟨g3, 0, none⟩))]) (fun _ W => Below w.heap.size w W ∧ RowL W g3 23 [.int .i64 0, strV []]) rfl ?first ?pass
  case pass =>
    rintro _ W ⟨q, r4⟩
    refine CC.seq ?_
    refine CC.skip ?_
    refine EE.thenN ?_
    refine CC.seq ?_
    refine CC.region ?_
    refine LL.val (R.buildV rfl rfl (v := .agg #[Value.int IntKind.i64 0, Value.string { data := #[] }]) (fun _ => by kernel_rfl)) rfl rfl rfl ?_
    refine LL.storeN (vs := [Value.int IntKind.i64 0, Value.string { data := #[] }]) rfl rfl rfl rfl r4 (by exact Nat.le_of_ble_eq_true rfl) (ones_of rfl) rfl rfl ?_
    intro Wa2 ra3 ba1 za4
    have hlba1 := r4.lt
    replace ra3 : RowL Wa2 _ 23 [Value.int IntKind.i64 0, Value.string { data := #[] }] := ra3
    clear r4
    replace q := q.grown ba1 q.size (by rintro k ⟨⟩; omega)
    have r4 := ra3
    clear ra3
    refine LL.val (R.assign rfl rfl) rfl rfl rfl ?_
    refine LL.nilS ?_
    refine CC.ret ?_
    refine EE.jumpR ?_
    refine EE.ret2 rfl ⟨_, rfl, lvNc (RowL.cells0 (by assumption)) (by rfl) (by rfl)⟩ rfl ?_
    exact ⟨rfl, q⟩
  case first =>
    refine CC.seq ?_
    refine CC.region ?_
    refine LL.val (R.move rfl rfl) rfl rfl rfl ?_
    refine LL.val (R.buildV rfl rfl (v := .agg #[Value.int IntKind.i64 0, Value.string { data := #[] }, Value.slice (some { block := bk, off := off }) 16 cap]) (fun _ => by kernel_rfl)) rfl rfl rfl ?_
    have lb1 := r4.lt
    refine LL.alloc ([Value.int IntKind.i64 0, Value.string { data := { toList := [] } }, Value.slice none 0 0]) rfl rfl rfl rfl rfl ?_
    intro Wb3 gb4 egb4 rb5 zb6 bb2
    replace r4 := r4.up bb2
    replace b1 := b1.trans (bb2.mono b1.size)
    replace q := q.trans (bb2.mono q.size)
    replace hv := hv.up bb2
    replace c1 := cell_up c1 bb2
    refine LL.storeN (vs := [Value.int IntKind.i64 0, Value.string { data := #[] }, Value.slice (some { block := bk, off := off }) 16 cap]) rfl rfl rfl rfl rb5 (by exact Nat.le_of_ble_eq_true rfl) (ones_of rfl) rfl rfl ?_
    intro Wb8 rb9 bb7 zb10
    have hlbb7 := rb5.lt
    replace rb9 : RowL Wb8 _ 62 [Value.int IntKind.i64 0, Value.string { data := #[] }, Value.slice (some { block := bk, off := off }) 16 cap] := rb9
    clear rb5
    replace bb2 := bb2.grown bb7 bb2.size (by rintro k ⟨⟩; omega)
    replace r4 := r4.gr bb7 (by have := r4.lt; omega)
    replace b1 := b1.grown bb7 b1.size (by rintro k ⟨⟩; omega)
    replace q := q.grown bb7 q.size (by rintro k ⟨⟩; omega)
    replace hv := hv.gr bb7 (by omega)
    replace c1 := cell_gr c1 bb7 (by omega)
    have rb5 := rb9
    clear rb9
    refine LL.nilS ?_
    refine CC.seq ?_
    refine CC.seq ?_
    refine CC.region ?_
    refine LL.call (R.call rfl rfl rfl) rfl rfl rfl (musts_any _) ?_
    rintro e Wb12 ⟨gb13, rfl, rb14, lb15, bb11⟩
    refine ⟨_, rfl, ?_⟩
    have zbb11 := bb11.size
    replace bb2 := bb2.trans (bb11.mono bb2.size)
    replace r4 := r4.up bb11
    replace b1 := b1.trans (bb11.mono b1.size)
    replace q := q.trans (bb11.mono q.size)
    replace hv := hv.up bb11
    replace c1 := cell_up c1 bb11
    replace rb5 := rb5.up bb11
    refine LL.val (R.len rfl rfl rfl rfl) rfl rfl rfl ?_
    refine LL.val (R.move rfl rfl) rfl rfl rfl ?_
    refine LL.nilS ?_
    refine CC.block ?_
    refine CC.loopN 6 ?_
    refine RN.step ?_
    refine CC.seq ?_
    refine CC.region ?_
    refine LL.val (R.ltT rfl rfl rfl (by omega)) rfl rfl rfl ?_
    refine LL.nilS ?_
    refine CC.seq ?_
    refine CC.yes rfl ?_
    refine CC.skip ?_
    refine EE.thenN ?_
    refine CC.seq ?_
    refine CC.block ?_
    refine CC.seq ?_
    refine CC.region ?_
    refine LL.val (R.index rfl rfl rfl (I.ixS1c rfl rfl (by omega))) rfl rfl rfl ?_
    refine LL.val (R.load rfl rfl (I.ld1 rfl (RowL.cell rb14 rfl))) rfl rfl rfl ?_
    refine LL.val (R.assign rfl rfl) rfl rfl rfl ?_
    refine LL.nilS ?_
    refine CC.seq ?_
    refine CC.region ?_
    refine LL.val (R.move rfl rfl) rfl rfl rfl ?_
    refine LL.call (R.callV rfl rfl rfl rfl) rfl rfl rfl (m1_Z _ _ _ _ _ _ _ _ (by assumption) (by omega) (by assumption) (by omega)) ?_
    rintro e W' ⟨rfl, rfl⟩
    refine ⟨_, rfl, ?_⟩
    refine LL.val (R.not rfl rfl) rfl rfl rfl ?_
    refine LL.nilS ?_
    refine CC.yes rfl ?_
    refine CC.goto ?_
    refine EE.inG ?_
    refine EE.thenG ?_
    refine EE.thenG ?_
    refine EE.inG ?_
    refine EE.thenG ?_
    (refine EE.jumpTo () rfl ?_ ⟨q, r4⟩; exact ⟨rfl, trivial⟩)
set_option maxRecDepth 100000 in
set_option maxHeartbeats 8000000 in
theorem of_F2 (v : Value) (ws : List Nat) (w : World) (x : Nat) (hv : Reads w v (ints .u64 ws)) (hws : ws.length = 16) (hxd : wd0 ws = x) (hx : x < 18446744073709551616) (h0 : x ≠ 0) (h : ¬(1 ≤ x % 65536 ∧ x % 65536 ≤ 256)) : Calls Try.prog 13 #[v] w fun e w' => e = .returned (.tuple #[recV 0 [], .int .i64 250]) ∧ Below w.heap.size w w' := by
  have q := Below.refl w.heap.size w
  obtain ⟨a, cap, rfl, hcap, hcells⟩ := hv.intsN hws
  obtain ⟨bk, off, rfl, hbk, hc⟩ := hcells (by omega)
  have c1 : w.cell? ⟨bk, off + 0, none⟩ = some (.int .u64 (x : Int)) := by rw [← hxd]; exact hc 0 (by omega)
  clear hc hcells hxd
  refine X.fn Try.func13 rfl (n := 22) rfl rfl ?_
  refine CC.seq ?_
  refine CC.region ?_
  refine LL.alloc ([Value.int IntKind.i64 0, Value.string { data := { toList := [] } }]) rfl rfl rfl rfl rfl ?_
  intro W2 g3 eg3 r4 z5 b1
  replace q := q.trans (b1.mono q.size)
  replace hv := hv.up b1
  replace c1 := cell_up c1 b1
  refine LL.val (R.assign rfl rfl) rfl rfl rfl ?_
  refine LL.nilS ?_
  refine CC.fwd (l := 0) (α := Unit) (fun _ => []) (fun _ => [(2, .pointer (some ⟨g3, 0, none⟩))]) (fun _ W => Below w.heap.size w W ∧ RowL W g3 23 [.int .i64 0, strV []]) rfl ?first ?pass
  case pass =>
    rintro _ W ⟨q, r4⟩
    refine CC.seq ?_
    refine CC.skip ?_
    refine EE.thenN ?_
    refine CC.seq ?_
    refine CC.region ?_
    refine LL.val (R.buildV rfl rfl (v := .agg #[Value.int IntKind.i64 0, Value.string { data := #[] }]) (fun _ => by kernel_rfl)) rfl rfl rfl ?_
    refine LL.storeN (vs := [Value.int IntKind.i64 0, Value.string { data := #[] }]) rfl rfl rfl rfl r4 (by exact Nat.le_of_ble_eq_true rfl) (ones_of rfl) rfl rfl ?_
    intro Wa2 ra3 ba1 za4
    have hlba1 := r4.lt
    replace ra3 : RowL Wa2 _ 23 [Value.int IntKind.i64 0, Value.string { data := #[] }] := ra3
    clear r4
    replace q := q.grown ba1 q.size (by rintro k ⟨⟩; omega)
    have r4 := ra3
    clear ra3
    refine LL.val (R.assign rfl rfl) rfl rfl rfl ?_
    refine LL.nilS ?_
    refine CC.ret ?_
    refine EE.jumpR ?_
    refine EE.ret2 rfl ⟨_, rfl, lvNc (RowL.cells0 (by assumption)) (by rfl) (by rfl)⟩ rfl ?_
    exact ⟨rfl, q⟩
  case first =>
    refine CC.seq ?_
    refine CC.region ?_
    refine LL.val (R.move rfl rfl) rfl rfl rfl ?_
    refine LL.val (R.buildV rfl rfl (v := .agg #[Value.int IntKind.i64 0, Value.string { data := #[] }, Value.slice (some { block := bk, off := off }) 16 cap]) (fun _ => by kernel_rfl)) rfl rfl rfl ?_
    have lb1 := r4.lt
    refine LL.alloc ([Value.int IntKind.i64 0, Value.string { data := { toList := [] } }, Value.slice none 0 0]) rfl rfl rfl rfl rfl ?_
    intro Wb3 gb4 egb4 rb5 zb6 bb2
    replace r4 := r4.up bb2
    replace b1 := b1.trans (bb2.mono b1.size)
    replace q := q.trans (bb2.mono q.size)
    replace hv := hv.up bb2
    replace c1 := cell_up c1 bb2
    refine LL.storeN (vs := [Value.int IntKind.i64 0, Value.string { data := #[] }, Value.slice (some { block := bk, off := off }) 16 cap]) rfl rfl rfl rfl rb5 (by exact Nat.le_of_ble_eq_true rfl) (ones_of rfl) rfl rfl ?_
    intro Wb8 rb9 bb7 zb10
    have hlbb7 := rb5.lt
    replace rb9 : RowL Wb8 _ 62 [Value.int IntKind.i64 0, Value.string { data := #[] }, Value.slice (some { block := bk, off := off }) 16 cap] := rb9
    clear rb5
    replace bb2 := bb2.grown bb7 bb2.size (by rintro k ⟨⟩; omega)
    replace r4 := r4.gr bb7 (by have := r4.lt; omega)
    replace b1 := b1.grown bb7 b1.size (by rintro k ⟨⟩; omega)
    replace q := q.grown bb7 q.size (by rintro k ⟨⟩; omega)
    replace hv := hv.gr bb7 (by omega)
    replace c1 := cell_gr c1 bb7 (by omega)
    have rb5 := rb9
    clear rb9
    refine LL.nilS ?_
    refine CC.seq ?_
    refine CC.seq ?_
    refine CC.region ?_
    refine LL.call (R.call rfl rfl rfl) rfl rfl rfl (musts_any _) ?_
    rintro e Wb12 ⟨gb13, rfl, rb14, lb15, bb11⟩
    refine ⟨_, rfl, ?_⟩
    have zbb11 := bb11.size
    replace bb2 := bb2.trans (bb11.mono bb2.size)
    replace r4 := r4.up bb11
    replace b1 := b1.trans (bb11.mono b1.size)
    replace q := q.trans (bb11.mono q.size)
    replace hv := hv.up bb11
    replace c1 := cell_up c1 bb11
    replace rb5 := rb5.up bb11
    refine LL.val (R.len rfl rfl rfl rfl) rfl rfl rfl ?_
    refine LL.val (R.move rfl rfl) rfl rfl rfl ?_
    refine LL.nilS ?_
    refine CC.block ?_
    refine CC.loopN 6 ?_
    refine RN.step ?_
    refine CC.seq ?_
    refine CC.region ?_
    refine LL.val (R.ltT rfl rfl rfl (by omega)) rfl rfl rfl ?_
    refine LL.nilS ?_
    refine CC.seq ?_
    refine CC.yes rfl ?_
    refine CC.skip ?_
    refine EE.thenN ?_
    refine CC.seq ?_
    refine CC.block ?_
    refine CC.seq ?_
    refine CC.region ?_
    refine LL.val (R.index rfl rfl rfl (I.ixS1c rfl rfl (by omega))) rfl rfl rfl ?_
    refine LL.val (R.load rfl rfl (I.ld1 rfl (RowL.cell rb14 rfl))) rfl rfl rfl ?_
    refine LL.val (R.assign rfl rfl) rfl rfl rfl ?_
    refine LL.nilS ?_
    refine CC.seq ?_
    refine CC.region ?_
    refine LL.val (R.move rfl rfl) rfl rfl rfl ?_
    refine LL.call (R.callV rfl rfl rfl rfl) rfl rfl rfl (m1_T _ _ _ _ _ _ _ _ (by assumption) (by omega) (by assumption) (by omega)) ?_
    rintro e W' ⟨rfl, rfl⟩
    refine ⟨_, rfl, ?_⟩
    refine LL.val (R.not rfl rfl) rfl rfl rfl ?_
    refine LL.nilS ?_
    refine CC.no rfl ?_
    refine CC.skip ?_
    refine EE.inN ?_
    refine EE.thenN ?_
    refine CC.region ?_
    refine LL.val (R.addIz (z := 1) rfl rfl rfl (by decide) (by decide)) rfl rfl rfl ?_
    refine LL.val (R.move rfl rfl) rfl rfl rfl ?_
    refine LL.nil ?_
    refine EE.again ?_
    refine RN.step ?_
    refine CC.seq ?_
    refine CC.region ?_
    refine LL.val (R.ltT rfl rfl rfl (by omega)) rfl rfl rfl ?_
    refine LL.nilS ?_
    refine CC.seq ?_
    refine CC.yes rfl ?_
    refine CC.skip ?_
    refine EE.thenN ?_
    refine CC.seq ?_
    refine CC.block ?_
    refine CC.seq ?_
    refine CC.region ?_
    refine LL.val (R.index rfl rfl rfl (I.ixS1c rfl rfl (by omega))) rfl rfl rfl ?_
    refine LL.val (R.load rfl rfl (I.ld1 rfl (RowL.cell rb14 rfl))) rfl rfl rfl ?_
    refine LL.val (R.assign rfl rfl) rfl rfl rfl ?_
    refine LL.nilS ?_
    refine CC.seq ?_
    refine CC.region ?_
    refine LL.val (R.move rfl rfl) rfl rfl rfl ?_
    refine LL.call (R.callV rfl rfl rfl rfl) rfl rfl rfl (m2_F _ _ _ _ _ _ _ _ (by assumption) (by omega) (by assumption) (by omega) (by omega) (by omega)) ?_
    rintro e Wb18 ⟨rfl, rb19, tb20⟩
    refine ⟨_, rfl, ?_⟩
    have ztb20 := tb20.size
    replace rb14 := rb14.kept tb20 ⟨rb14.lt, by omega⟩
    replace bb2 := tb20.onB bb2 (fun j hj => ⟨by have := bb2.size; omega, by omega⟩)
    replace r4 := r4.kept tb20 ⟨r4.lt, by omega⟩
    replace b1 := tb20.onB b1 (fun j hj => ⟨by have := b1.size; omega, by omega⟩)
    replace q := tb20.onB q (fun j hj => ⟨by have := q.size; omega, by omega⟩)
    replace hv := hv.kept tb20 ⟨by omega, by omega⟩
    replace c1 := cell_kept c1 tb20 ⟨World.block_lt_of_cell? _ _ c1, by omega⟩
    refine LL.val (R.not rfl rfl) rfl rfl rfl ?_
    refine LL.nilS ?_
    refine CC.yes rfl ?_
    refine CC.goto ?_
    refine EE.inG ?_
    refine EE.thenG ?_
    refine EE.thenG ?_
    refine EE.inG ?_
    refine EE.thenG ?_
    (refine EE.jumpTo () rfl ?_ ⟨q, r4⟩; exact ⟨rfl, trivial⟩)
set_option maxRecDepth 100000 in
set_option maxHeartbeats 8000000 in
theorem of_F3 (v : Value) (ws : List Nat) (w : World) (x : Nat) (hv : Reads w v (ints .u64 ws)) (hws : ws.length = 16) (hxd : wd0 ws = x) (hx : x < 18446744073709551616) (h0 : x ≠ 0) (h1 : 1 ≤ x % 65536 ∧ x % 65536 ≤ 256) (h : ¬(1 ≤ x / 65536 % 256 ∧ x / 65536 % 256 ≤ 120)) : Calls Try.prog 13 #[v] w fun e w' => e = .returned (.tuple #[recV 0 [], .int .i64 250]) ∧ Below w.heap.size w w' := by
  have q := Below.refl w.heap.size w
  obtain ⟨a, cap, rfl, hcap, hcells⟩ := hv.intsN hws
  obtain ⟨bk, off, rfl, hbk, hc⟩ := hcells (by omega)
  have c1 : w.cell? ⟨bk, off + 0, none⟩ = some (.int .u64 (x : Int)) := by rw [← hxd]; exact hc 0 (by omega)
  clear hc hcells hxd
  refine X.fn Try.func13 rfl (n := 22) rfl rfl ?_
  refine CC.seq ?_
  refine CC.region ?_
  refine LL.alloc ([Value.int IntKind.i64 0, Value.string { data := { toList := [] } }]) rfl rfl rfl rfl rfl ?_
  intro W2 g3 eg3 r4 z5 b1
  replace q := q.trans (b1.mono q.size)
  replace hv := hv.up b1
  replace c1 := cell_up c1 b1
  refine LL.val (R.assign rfl rfl) rfl rfl rfl ?_
  refine LL.nilS ?_
  refine CC.fwd (l := 0) (α := Unit) (fun _ => []) (fun _ => [(2, .pointer (some ⟨g3, 0, none⟩))]) (fun _ W => Below w.heap.size w W ∧ RowL W g3 23 [.int .i64 0, strV []]) rfl ?first ?pass
  case pass =>
    rintro _ W ⟨q, r4⟩
    refine CC.seq ?_
    refine CC.skip ?_
    refine EE.thenN ?_
    refine CC.seq ?_
    refine CC.region ?_
    refine LL.val (R.buildV rfl rfl (v := .agg #[Value.int IntKind.i64 0, Value.string { data := #[] }]) (fun _ => by kernel_rfl)) rfl rfl rfl ?_
    refine LL.storeN (vs := [Value.int IntKind.i64 0, Value.string { data := #[] }]) rfl rfl rfl rfl r4 (by exact Nat.le_of_ble_eq_true rfl) (ones_of rfl) rfl rfl ?_
    intro Wa2 ra3 ba1 za4
    have hlba1 := r4.lt
    replace ra3 : RowL Wa2 _ 23 [Value.int IntKind.i64 0, Value.string { data := #[] }] := ra3
    clear r4
    replace q := q.grown ba1 q.size (by rintro k ⟨⟩; omega)
    have r4 := ra3
    clear ra3
    refine LL.val (R.assign rfl rfl) rfl rfl rfl ?_
    refine LL.nilS ?_
    refine CC.ret ?_
    refine EE.jumpR ?_
    refine EE.ret2 rfl ⟨_, rfl, lvNc (RowL.cells0 (by assumption)) (by rfl) (by rfl)⟩ rfl ?_
    exact ⟨rfl, q⟩
  case first =>
    refine CC.seq ?_
    refine CC.region ?_
    refine LL.val (R.move rfl rfl) rfl rfl rfl ?_
    refine LL.val (R.buildV rfl rfl (v := .agg #[Value.int IntKind.i64 0, Value.string { data := #[] }, Value.slice (some { block := bk, off := off }) 16 cap]) (fun _ => by kernel_rfl)) rfl rfl rfl ?_
    have lb1 := r4.lt
    refine LL.alloc ([Value.int IntKind.i64 0, Value.string { data := { toList := [] } }, Value.slice none 0 0]) rfl rfl rfl rfl rfl ?_
    intro Wb3 gb4 egb4 rb5 zb6 bb2
    replace r4 := r4.up bb2
    replace b1 := b1.trans (bb2.mono b1.size)
    replace q := q.trans (bb2.mono q.size)
    replace hv := hv.up bb2
    replace c1 := cell_up c1 bb2
    refine LL.storeN (vs := [Value.int IntKind.i64 0, Value.string { data := #[] }, Value.slice (some { block := bk, off := off }) 16 cap]) rfl rfl rfl rfl rb5 (by exact Nat.le_of_ble_eq_true rfl) (ones_of rfl) rfl rfl ?_
    intro Wb8 rb9 bb7 zb10
    have hlbb7 := rb5.lt
    replace rb9 : RowL Wb8 _ 62 [Value.int IntKind.i64 0, Value.string { data := #[] }, Value.slice (some { block := bk, off := off }) 16 cap] := rb9
    clear rb5
    replace bb2 := bb2.grown bb7 bb2.size (by rintro k ⟨⟩; omega)
    replace r4 := r4.gr bb7 (by have := r4.lt; omega)
    replace b1 := b1.grown bb7 b1.size (by rintro k ⟨⟩; omega)
    replace q := q.grown bb7 q.size (by rintro k ⟨⟩; omega)
    replace hv := hv.gr bb7 (by omega)
    replace c1 := cell_gr c1 bb7 (by omega)
    have rb5 := rb9
    clear rb9
    refine LL.nilS ?_
    refine CC.seq ?_
    refine CC.seq ?_
    refine CC.region ?_
    refine LL.call (R.call rfl rfl rfl) rfl rfl rfl (musts_any _) ?_
    rintro e Wb12 ⟨gb13, rfl, rb14, lb15, bb11⟩
    refine ⟨_, rfl, ?_⟩
    have zbb11 := bb11.size
    replace bb2 := bb2.trans (bb11.mono bb2.size)
    replace r4 := r4.up bb11
    replace b1 := b1.trans (bb11.mono b1.size)
    replace q := q.trans (bb11.mono q.size)
    replace hv := hv.up bb11
    replace c1 := cell_up c1 bb11
    replace rb5 := rb5.up bb11
    refine LL.val (R.len rfl rfl rfl rfl) rfl rfl rfl ?_
    refine LL.val (R.move rfl rfl) rfl rfl rfl ?_
    refine LL.nilS ?_
    refine CC.block ?_
    refine CC.loopN 6 ?_
    refine RN.step ?_
    refine CC.seq ?_
    refine CC.region ?_
    refine LL.val (R.ltT rfl rfl rfl (by omega)) rfl rfl rfl ?_
    refine LL.nilS ?_
    refine CC.seq ?_
    refine CC.yes rfl ?_
    refine CC.skip ?_
    refine EE.thenN ?_
    refine CC.seq ?_
    refine CC.block ?_
    refine CC.seq ?_
    refine CC.region ?_
    refine LL.val (R.index rfl rfl rfl (I.ixS1c rfl rfl (by omega))) rfl rfl rfl ?_
    refine LL.val (R.load rfl rfl (I.ld1 rfl (RowL.cell rb14 rfl))) rfl rfl rfl ?_
    refine LL.val (R.assign rfl rfl) rfl rfl rfl ?_
    refine LL.nilS ?_
    refine CC.seq ?_
    refine CC.region ?_
    refine LL.val (R.move rfl rfl) rfl rfl rfl ?_
    refine LL.call (R.callV rfl rfl rfl rfl) rfl rfl rfl (m1_T _ _ _ _ _ _ _ _ (by assumption) (by omega) (by assumption) (by omega)) ?_
    rintro e W' ⟨rfl, rfl⟩
    refine ⟨_, rfl, ?_⟩
    refine LL.val (R.not rfl rfl) rfl rfl rfl ?_
    refine LL.nilS ?_
    refine CC.no rfl ?_
    refine CC.skip ?_
    refine EE.inN ?_
    refine EE.thenN ?_
    refine CC.region ?_
    refine LL.val (R.addIz (z := 1) rfl rfl rfl (by decide) (by decide)) rfl rfl rfl ?_
    refine LL.val (R.move rfl rfl) rfl rfl rfl ?_
    refine LL.nil ?_
    refine EE.again ?_
    refine RN.step ?_
    refine CC.seq ?_
    refine CC.region ?_
    refine LL.val (R.ltT rfl rfl rfl (by omega)) rfl rfl rfl ?_
    refine LL.nilS ?_
    refine CC.seq ?_
    refine CC.yes rfl ?_
    refine CC.skip ?_
    refine EE.thenN ?_
    refine CC.seq ?_
    refine CC.block ?_
    refine CC.seq ?_
    refine CC.region ?_
    refine LL.val (R.index rfl rfl rfl (I.ixS1c rfl rfl (by omega))) rfl rfl rfl ?_
    refine LL.val (R.load rfl rfl (I.ld1 rfl (RowL.cell rb14 rfl))) rfl rfl rfl ?_
    refine LL.val (R.assign rfl rfl) rfl rfl rfl ?_
    refine LL.nilS ?_
    refine CC.seq ?_
    refine CC.region ?_
    refine LL.val (R.move rfl rfl) rfl rfl rfl ?_
    refine LL.call (R.callV rfl rfl rfl rfl) rfl rfl rfl (m2_T _ _ _ _ _ _ _ _ (by assumption) (by omega) (by assumption) (by omega) (by omega) (by omega)) ?_
    rintro e Wb18 ⟨rfl, rb19, tb20⟩
    refine ⟨_, rfl, ?_⟩
    have ztb20 := tb20.size
    replace rb14 := rb14.kept tb20 ⟨rb14.lt, by omega⟩
    replace bb2 := tb20.onB bb2 (fun j hj => ⟨by have := bb2.size; omega, by omega⟩)
    replace r4 := r4.kept tb20 ⟨r4.lt, by omega⟩
    replace b1 := tb20.onB b1 (fun j hj => ⟨by have := b1.size; omega, by omega⟩)
    replace q := tb20.onB q (fun j hj => ⟨by have := q.size; omega, by omega⟩)
    replace hv := hv.kept tb20 ⟨by omega, by omega⟩
    replace c1 := cell_kept c1 tb20 ⟨World.block_lt_of_cell? _ _ c1, by omega⟩
    refine LL.val (R.not rfl rfl) rfl rfl rfl ?_
    refine LL.nilS ?_
    refine CC.no rfl ?_
    refine CC.skip ?_
    refine EE.inN ?_
    refine EE.thenN ?_
    refine CC.region ?_
    refine LL.val (R.addIz (z := 2) rfl rfl rfl (by decide) (by decide)) rfl rfl rfl ?_
    refine LL.val (R.move rfl rfl) rfl rfl rfl ?_
    refine LL.nil ?_
    refine EE.again ?_
    refine RN.step ?_
    refine CC.seq ?_
    refine CC.region ?_
    refine LL.val (R.ltT rfl rfl rfl (by omega)) rfl rfl rfl ?_
    refine LL.nilS ?_
    refine CC.seq ?_
    refine CC.yes rfl ?_
    refine CC.skip ?_
    refine EE.thenN ?_
    refine CC.seq ?_
    refine CC.block ?_
    refine CC.seq ?_
    refine CC.region ?_
    refine LL.val (R.index rfl rfl rfl (I.ixS1c rfl rfl (by omega))) rfl rfl rfl ?_
    refine LL.val (R.load rfl rfl (I.ld1 rfl (RowL.cell rb14 rfl))) rfl rfl rfl ?_
    refine LL.val (R.assign rfl rfl) rfl rfl rfl ?_
    refine LL.nilS ?_
    refine CC.seq ?_
    refine CC.region ?_
    refine LL.val (R.move rfl rfl) rfl rfl rfl ?_
    refine LL.call (R.callV rfl rfl rfl rfl) rfl rfl rfl (m3_F _ _ _ _ _ _ _ _ (by assumption) (by omega) (by assumption) (by omega) (by omega)) ?_
    rintro e W' ⟨rfl, rfl⟩
    refine ⟨_, rfl, ?_⟩
    refine LL.val (R.not rfl rfl) rfl rfl rfl ?_
    refine LL.nilS ?_
    refine CC.yes rfl ?_
    refine CC.goto ?_
    refine EE.inG ?_
    refine EE.thenG ?_
    refine EE.thenG ?_
    refine EE.inG ?_
    refine EE.thenG ?_
    (refine EE.jumpTo () rfl ?_ ⟨q, r4⟩; exact ⟨rfl, trivial⟩)
set_option maxRecDepth 100000 in
set_option maxHeartbeats 8000000 in
theorem of_F4 (v : Value) (ws : List Nat) (w : World) (x : Nat) (hv : Reads w v (ints .u64 ws)) (hws : ws.length = 16) (hxd : wd0 ws = x) (hx : x < 18446744073709551616) (k : Nat) (hk : x / 65536 % 256 = k) (h0 : x ≠ 0) (h1 : 1 ≤ x % 65536 ∧ x % 65536 ≤ 256) (hlong : 1 ≤ k ∧ k ≤ 120) (hz : zerosB ((bytesL ((ws.drop 1).take ((k + 7) / 8))).drop k) = false) : Calls Try.prog 13 #[v] w fun e w' => e = .returned (.tuple #[recV 0 [], .int .i64 250]) ∧ Below w.heap.size w w' := by
  have q := Below.refl w.heap.size w
  obtain ⟨a, cap, rfl, hcap, hcells⟩ := hv.intsN hws
  obtain ⟨bk, off, rfl, hbk, hc⟩ := hcells (by omega)
  have c1 : w.cell? ⟨bk, off + 0, none⟩ = some (.int .u64 (x : Int)) := by rw [← hxd]; exact hc 0 (by omega)
  clear hc hcells hxd
  refine X.fn Try.func13 rfl (n := 22) rfl rfl ?_
  refine CC.seq ?_
  refine CC.region ?_
  refine LL.alloc ([Value.int IntKind.i64 0, Value.string { data := { toList := [] } }]) rfl rfl rfl rfl rfl ?_
  intro W2 g3 eg3 r4 z5 b1
  replace q := q.trans (b1.mono q.size)
  replace hv := hv.up b1
  replace c1 := cell_up c1 b1
  refine LL.val (R.assign rfl rfl) rfl rfl rfl ?_
  refine LL.nilS ?_
  refine CC.fwd (l := 0) (α := Unit) (fun _ => []) (fun _ => [(2, .pointer (some ⟨g3, 0, none⟩))]) (fun _ W => Below w.heap.size w W ∧ RowL W g3 23 [.int .i64 0, strV []]) rfl ?first ?pass
  case pass =>
    rintro _ W ⟨q, r4⟩
    refine CC.seq ?_
    refine CC.skip ?_
    refine EE.thenN ?_
    refine CC.seq ?_
    refine CC.region ?_
    refine LL.val (R.buildV rfl rfl (v := .agg #[Value.int IntKind.i64 0, Value.string { data := #[] }]) (fun _ => by kernel_rfl)) rfl rfl rfl ?_
    refine LL.storeN (vs := [Value.int IntKind.i64 0, Value.string { data := #[] }]) rfl rfl rfl rfl r4 (by exact Nat.le_of_ble_eq_true rfl) (ones_of rfl) rfl rfl ?_
    intro Wa2 ra3 ba1 za4
    have hlba1 := r4.lt
    replace ra3 : RowL Wa2 _ 23 [Value.int IntKind.i64 0, Value.string { data := #[] }] := ra3
    clear r4
    replace q := q.grown ba1 q.size (by rintro k ⟨⟩; omega)
    have r4 := ra3
    clear ra3
    refine LL.val (R.assign rfl rfl) rfl rfl rfl ?_
    refine LL.nilS ?_
    refine CC.ret ?_
    refine EE.jumpR ?_
    refine EE.ret2 rfl ⟨_, rfl, lvNc (RowL.cells0 (by assumption)) (by rfl) (by rfl)⟩ rfl ?_
    exact ⟨rfl, q⟩
  case first =>
    refine CC.seq ?_
    refine CC.region ?_
    refine LL.val (R.move rfl rfl) rfl rfl rfl ?_
    refine LL.val (R.buildV rfl rfl (v := .agg #[Value.int IntKind.i64 0, Value.string { data := #[] }, Value.slice (some { block := bk, off := off }) 16 cap]) (fun _ => by kernel_rfl)) rfl rfl rfl ?_
    have lb1 := r4.lt
    refine LL.alloc ([Value.int IntKind.i64 0, Value.string { data := { toList := [] } }, Value.slice none 0 0]) rfl rfl rfl rfl rfl ?_
    intro Wb3 gb4 egb4 rb5 zb6 bb2
    replace r4 := r4.up bb2
    replace b1 := b1.trans (bb2.mono b1.size)
    replace q := q.trans (bb2.mono q.size)
    replace hv := hv.up bb2
    replace c1 := cell_up c1 bb2
    refine LL.storeN (vs := [Value.int IntKind.i64 0, Value.string { data := #[] }, Value.slice (some { block := bk, off := off }) 16 cap]) rfl rfl rfl rfl rb5 (by exact Nat.le_of_ble_eq_true rfl) (ones_of rfl) rfl rfl ?_
    intro Wb8 rb9 bb7 zb10
    have hlbb7 := rb5.lt
    replace rb9 : RowL Wb8 _ 62 [Value.int IntKind.i64 0, Value.string { data := #[] }, Value.slice (some { block := bk, off := off }) 16 cap] := rb9
    clear rb5
    replace bb2 := bb2.grown bb7 bb2.size (by rintro k ⟨⟩; omega)
    replace r4 := r4.gr bb7 (by have := r4.lt; omega)
    replace b1 := b1.grown bb7 b1.size (by rintro k ⟨⟩; omega)
    replace q := q.grown bb7 q.size (by rintro k ⟨⟩; omega)
    replace hv := hv.gr bb7 (by omega)
    replace c1 := cell_gr c1 bb7 (by omega)
    have rb5 := rb9
    clear rb9
    refine LL.nilS ?_
    refine CC.seq ?_
    refine CC.seq ?_
    refine CC.region ?_
    refine LL.call (R.call rfl rfl rfl) rfl rfl rfl (musts_any _) ?_
    rintro e Wb12 ⟨gb13, rfl, rb14, lb15, bb11⟩
    refine ⟨_, rfl, ?_⟩
    have zbb11 := bb11.size
    replace bb2 := bb2.trans (bb11.mono bb2.size)
    replace r4 := r4.up bb11
    replace b1 := b1.trans (bb11.mono b1.size)
    replace q := q.trans (bb11.mono q.size)
    replace hv := hv.up bb11
    replace c1 := cell_up c1 bb11
    replace rb5 := rb5.up bb11
    refine LL.val (R.len rfl rfl rfl rfl) rfl rfl rfl ?_
    refine LL.val (R.move rfl rfl) rfl rfl rfl ?_
    refine LL.nilS ?_
    refine CC.block ?_
    refine CC.loopN 6 ?_
    refine RN.step ?_
    refine CC.seq ?_
    refine CC.region ?_
    refine LL.val (R.ltT rfl rfl rfl (by omega)) rfl rfl rfl ?_
    refine LL.nilS ?_
    refine CC.seq ?_
    refine CC.yes rfl ?_
    refine CC.skip ?_
    refine EE.thenN ?_
    refine CC.seq ?_
    refine CC.block ?_
    refine CC.seq ?_
    refine CC.region ?_
    refine LL.val (R.index rfl rfl rfl (I.ixS1c rfl rfl (by omega))) rfl rfl rfl ?_
    refine LL.val (R.load rfl rfl (I.ld1 rfl (RowL.cell rb14 rfl))) rfl rfl rfl ?_
    refine LL.val (R.assign rfl rfl) rfl rfl rfl ?_
    refine LL.nilS ?_
    refine CC.seq ?_
    refine CC.region ?_
    refine LL.val (R.move rfl rfl) rfl rfl rfl ?_
    refine LL.call (R.callV rfl rfl rfl rfl) rfl rfl rfl (m1_T _ _ _ _ _ _ _ _ (by assumption) (by omega) (by assumption) (by omega)) ?_
    rintro e W' ⟨rfl, rfl⟩
    refine ⟨_, rfl, ?_⟩
    refine LL.val (R.not rfl rfl) rfl rfl rfl ?_
    refine LL.nilS ?_
    refine CC.no rfl ?_
    refine CC.skip ?_
    refine EE.inN ?_
    refine EE.thenN ?_
    refine CC.region ?_
    refine LL.val (R.addIz (z := 1) rfl rfl rfl (by decide) (by decide)) rfl rfl rfl ?_
    refine LL.val (R.move rfl rfl) rfl rfl rfl ?_
    refine LL.nil ?_
    refine EE.again ?_
    refine RN.step ?_
    refine CC.seq ?_
    refine CC.region ?_
    refine LL.val (R.ltT rfl rfl rfl (by omega)) rfl rfl rfl ?_
    refine LL.nilS ?_
    refine CC.seq ?_
    refine CC.yes rfl ?_
    refine CC.skip ?_
    refine EE.thenN ?_
    refine CC.seq ?_
    refine CC.block ?_
    refine CC.seq ?_
    refine CC.region ?_
    refine LL.val (R.index rfl rfl rfl (I.ixS1c rfl rfl (by omega))) rfl rfl rfl ?_
    refine LL.val (R.load rfl rfl (I.ld1 rfl (RowL.cell rb14 rfl))) rfl rfl rfl ?_
    refine LL.val (R.assign rfl rfl) rfl rfl rfl ?_
    refine LL.nilS ?_
    refine CC.seq ?_
    refine CC.region ?_
    refine LL.val (R.move rfl rfl) rfl rfl rfl ?_
    refine LL.call (R.callV rfl rfl rfl rfl) rfl rfl rfl (m2_T _ _ _ _ _ _ _ _ (by assumption) (by omega) (by assumption) (by omega) (by omega) (by omega)) ?_
    rintro e Wb18 ⟨rfl, rb19, tb20⟩
    refine ⟨_, rfl, ?_⟩
    have ztb20 := tb20.size
    replace rb14 := rb14.kept tb20 ⟨rb14.lt, by omega⟩
    replace bb2 := tb20.onB bb2 (fun j hj => ⟨by have := bb2.size; omega, by omega⟩)
    replace r4 := r4.kept tb20 ⟨r4.lt, by omega⟩
    replace b1 := tb20.onB b1 (fun j hj => ⟨by have := b1.size; omega, by omega⟩)
    replace q := tb20.onB q (fun j hj => ⟨by have := q.size; omega, by omega⟩)
    replace hv := hv.kept tb20 ⟨by omega, by omega⟩
    replace c1 := cell_kept c1 tb20 ⟨World.block_lt_of_cell? _ _ c1, by omega⟩
    refine LL.val (R.not rfl rfl) rfl rfl rfl ?_
    refine LL.nilS ?_
    refine CC.no rfl ?_
    refine CC.skip ?_
    refine EE.inN ?_
    refine EE.thenN ?_
    refine CC.region ?_
    refine LL.val (R.addIz (z := 2) rfl rfl rfl (by decide) (by decide)) rfl rfl rfl ?_
    refine LL.val (R.move rfl rfl) rfl rfl rfl ?_
    refine LL.nil ?_
    refine EE.again ?_
    refine RN.step ?_
    refine CC.seq ?_
    refine CC.region ?_
    refine LL.val (R.ltT rfl rfl rfl (by omega)) rfl rfl rfl ?_
    refine LL.nilS ?_
    refine CC.seq ?_
    refine CC.yes rfl ?_
    refine CC.skip ?_
    refine EE.thenN ?_
    refine CC.seq ?_
    refine CC.block ?_
    refine CC.seq ?_
    refine CC.region ?_
    refine LL.val (R.index rfl rfl rfl (I.ixS1c rfl rfl (by omega))) rfl rfl rfl ?_
    refine LL.val (R.load rfl rfl (I.ld1 rfl (RowL.cell rb14 rfl))) rfl rfl rfl ?_
    refine LL.val (R.assign rfl rfl) rfl rfl rfl ?_
    refine LL.nilS ?_
    refine CC.seq ?_
    refine CC.region ?_
    refine LL.val (R.move rfl rfl) rfl rfl rfl ?_
    refine LL.call (R.callV rfl rfl rfl rfl) rfl rfl rfl (m3_Z _ _ _ _ _ _ _ _ _ _ (by assumption) (by omega) (by assumption) (by omega) (by assumption) (by omega) (by assumption) (by omega) (by omega) (by assumption)) ?_
    rintro e Wb22 ⟨rfl, tb23⟩
    refine ⟨_, rfl, ?_⟩
    have ztb23 := tb23.size
    replace rb14 := rb14.kept tb23 ⟨rb14.lt, by omega⟩
    replace bb2 := tb23.onB bb2 (fun j hj => ⟨by have := bb2.size; omega, by omega⟩)
    replace r4 := r4.kept tb23 ⟨r4.lt, by omega⟩
    replace b1 := tb23.onB b1 (fun j hj => ⟨by have := b1.size; omega, by omega⟩)
    replace q := tb23.onB q (fun j hj => ⟨by have := q.size; omega, by omega⟩)
    replace hv := hv.kept tb23 ⟨by omega, by omega⟩
    replace c1 := cell_kept c1 tb23 ⟨World.block_lt_of_cell? _ _ c1, by omega⟩
    refine LL.val (R.not rfl rfl) rfl rfl rfl ?_
    refine LL.nilS ?_
    refine CC.yes rfl ?_
    refine CC.goto ?_
    refine EE.inG ?_
    refine EE.thenG ?_
    refine EE.thenG ?_
    refine EE.inG ?_
    refine EE.thenG ?_
    (refine EE.jumpTo () rfl ?_ ⟨q, r4⟩; exact ⟨rfl, trivial⟩)
set_option maxRecDepth 100000 in
set_option maxHeartbeats 8000000 in
theorem of_F5 (v : Value) (ws : List Nat) (w : World) (x : Nat) (hv : Reads w v (ints .u64 ws)) (hws : ws.length = 16) (hxd : wd0 ws = x) (hx : x < 18446744073709551616) (k : Nat) (hk : x / 65536 % 256 = k) (h0 : x ≠ 0) (h1 : 1 ≤ x % 65536 ∧ x % 65536 ≤ 256) (hlong : 1 ≤ k ∧ k ≤ 120) (hz : zerosB ((bytesL ((ws.drop 1).take ((k + 7) / 8))).drop k) = true) (hn : notW (x % 65536) (nmW ws k) ws) : Calls Try.prog 13 #[v] w fun e w' => e = .returned (.tuple #[recV 0 [], .int .i64 250]) ∧ Below w.heap.size w w' := by
  have q := Below.refl w.heap.size w
  obtain ⟨a, cap, rfl, hcap, hcells⟩ := hv.intsN hws
  obtain ⟨bk, off, rfl, hbk, hc⟩ := hcells (by omega)
  have c1 : w.cell? ⟨bk, off + 0, none⟩ = some (.int .u64 (x : Int)) := by rw [← hxd]; exact hc 0 (by omega)
  clear hc hcells hxd
  refine X.fn Try.func13 rfl (n := 22) rfl rfl ?_
  refine CC.seq ?_
  refine CC.region ?_
  refine LL.alloc ([Value.int IntKind.i64 0, Value.string { data := { toList := [] } }]) rfl rfl rfl rfl rfl ?_
  intro W2 g3 eg3 r4 z5 b1
  replace q := q.trans (b1.mono q.size)
  replace hv := hv.up b1
  replace c1 := cell_up c1 b1
  refine LL.val (R.assign rfl rfl) rfl rfl rfl ?_
  refine LL.nilS ?_
  refine CC.fwd (l := 0) (α := Unit) (fun _ => []) (fun _ => [(2, .pointer (some ⟨g3, 0, none⟩))]) (fun _ W => Below w.heap.size w W ∧ RowL W g3 23 [.int .i64 0, strV []]) rfl ?first ?pass
  case pass =>
    rintro _ W ⟨q, r4⟩
    refine CC.seq ?_
    refine CC.skip ?_
    refine EE.thenN ?_
    refine CC.seq ?_
    refine CC.region ?_
    refine LL.val (R.buildV rfl rfl (v := .agg #[Value.int IntKind.i64 0, Value.string { data := #[] }]) (fun _ => by kernel_rfl)) rfl rfl rfl ?_
    refine LL.storeN (vs := [Value.int IntKind.i64 0, Value.string { data := #[] }]) rfl rfl rfl rfl r4 (by exact Nat.le_of_ble_eq_true rfl) (ones_of rfl) rfl rfl ?_
    intro Wa2 ra3 ba1 za4
    have hlba1 := r4.lt
    replace ra3 : RowL Wa2 _ 23 [Value.int IntKind.i64 0, Value.string { data := #[] }] := ra3
    clear r4
    replace q := q.grown ba1 q.size (by rintro k ⟨⟩; omega)
    have r4 := ra3
    clear ra3
    refine LL.val (R.assign rfl rfl) rfl rfl rfl ?_
    refine LL.nilS ?_
    refine CC.ret ?_
    refine EE.jumpR ?_
    refine EE.ret2 rfl ⟨_, rfl, lvNc (RowL.cells0 (by assumption)) (by rfl) (by rfl)⟩ rfl ?_
    exact ⟨rfl, q⟩
  case first =>
    refine CC.seq ?_
    refine CC.region ?_
    refine LL.val (R.move rfl rfl) rfl rfl rfl ?_
    refine LL.val (R.buildV rfl rfl (v := .agg #[Value.int IntKind.i64 0, Value.string { data := #[] }, Value.slice (some { block := bk, off := off }) 16 cap]) (fun _ => by kernel_rfl)) rfl rfl rfl ?_
    have lb1 := r4.lt
    refine LL.alloc ([Value.int IntKind.i64 0, Value.string { data := { toList := [] } }, Value.slice none 0 0]) rfl rfl rfl rfl rfl ?_
    intro Wb3 gb4 egb4 rb5 zb6 bb2
    replace r4 := r4.up bb2
    replace b1 := b1.trans (bb2.mono b1.size)
    replace q := q.trans (bb2.mono q.size)
    replace hv := hv.up bb2
    replace c1 := cell_up c1 bb2
    refine LL.storeN (vs := [Value.int IntKind.i64 0, Value.string { data := #[] }, Value.slice (some { block := bk, off := off }) 16 cap]) rfl rfl rfl rfl rb5 (by exact Nat.le_of_ble_eq_true rfl) (ones_of rfl) rfl rfl ?_
    intro Wb8 rb9 bb7 zb10
    have hlbb7 := rb5.lt
    replace rb9 : RowL Wb8 _ 62 [Value.int IntKind.i64 0, Value.string { data := #[] }, Value.slice (some { block := bk, off := off }) 16 cap] := rb9
    clear rb5
    replace bb2 := bb2.grown bb7 bb2.size (by rintro k ⟨⟩; omega)
    replace r4 := r4.gr bb7 (by have := r4.lt; omega)
    replace b1 := b1.grown bb7 b1.size (by rintro k ⟨⟩; omega)
    replace q := q.grown bb7 q.size (by rintro k ⟨⟩; omega)
    replace hv := hv.gr bb7 (by omega)
    replace c1 := cell_gr c1 bb7 (by omega)
    have rb5 := rb9
    clear rb9
    refine LL.nilS ?_
    refine CC.seq ?_
    refine CC.seq ?_
    refine CC.region ?_
    refine LL.call (R.call rfl rfl rfl) rfl rfl rfl (musts_any _) ?_
    rintro e Wb12 ⟨gb13, rfl, rb14, lb15, bb11⟩
    refine ⟨_, rfl, ?_⟩
    have zbb11 := bb11.size
    replace bb2 := bb2.trans (bb11.mono bb2.size)
    replace r4 := r4.up bb11
    replace b1 := b1.trans (bb11.mono b1.size)
    replace q := q.trans (bb11.mono q.size)
    replace hv := hv.up bb11
    replace c1 := cell_up c1 bb11
    replace rb5 := rb5.up bb11
    refine LL.val (R.len rfl rfl rfl rfl) rfl rfl rfl ?_
    refine LL.val (R.move rfl rfl) rfl rfl rfl ?_
    refine LL.nilS ?_
    refine CC.block ?_
    refine CC.loopN 6 ?_
    refine RN.step ?_
    refine CC.seq ?_
    refine CC.region ?_
    refine LL.val (R.ltT rfl rfl rfl (by omega)) rfl rfl rfl ?_
    refine LL.nilS ?_
    refine CC.seq ?_
    refine CC.yes rfl ?_
    refine CC.skip ?_
    refine EE.thenN ?_
    refine CC.seq ?_
    refine CC.block ?_
    refine CC.seq ?_
    refine CC.region ?_
    refine LL.val (R.index rfl rfl rfl (I.ixS1c rfl rfl (by omega))) rfl rfl rfl ?_
    refine LL.val (R.load rfl rfl (I.ld1 rfl (RowL.cell rb14 rfl))) rfl rfl rfl ?_
    refine LL.val (R.assign rfl rfl) rfl rfl rfl ?_
    refine LL.nilS ?_
    refine CC.seq ?_
    refine CC.region ?_
    refine LL.val (R.move rfl rfl) rfl rfl rfl ?_
    refine LL.call (R.callV rfl rfl rfl rfl) rfl rfl rfl (m1_T _ _ _ _ _ _ _ _ (by assumption) (by omega) (by assumption) (by omega)) ?_
    rintro e W' ⟨rfl, rfl⟩
    refine ⟨_, rfl, ?_⟩
    refine LL.val (R.not rfl rfl) rfl rfl rfl ?_
    refine LL.nilS ?_
    refine CC.no rfl ?_
    refine CC.skip ?_
    refine EE.inN ?_
    refine EE.thenN ?_
    refine CC.region ?_
    refine LL.val (R.addIz (z := 1) rfl rfl rfl (by decide) (by decide)) rfl rfl rfl ?_
    refine LL.val (R.move rfl rfl) rfl rfl rfl ?_
    refine LL.nil ?_
    refine EE.again ?_
    refine RN.step ?_
    refine CC.seq ?_
    refine CC.region ?_
    refine LL.val (R.ltT rfl rfl rfl (by omega)) rfl rfl rfl ?_
    refine LL.nilS ?_
    refine CC.seq ?_
    refine CC.yes rfl ?_
    refine CC.skip ?_
    refine EE.thenN ?_
    refine CC.seq ?_
    refine CC.block ?_
    refine CC.seq ?_
    refine CC.region ?_
    refine LL.val (R.index rfl rfl rfl (I.ixS1c rfl rfl (by omega))) rfl rfl rfl ?_
    refine LL.val (R.load rfl rfl (I.ld1 rfl (RowL.cell rb14 rfl))) rfl rfl rfl ?_
    refine LL.val (R.assign rfl rfl) rfl rfl rfl ?_
    refine LL.nilS ?_
    refine CC.seq ?_
    refine CC.region ?_
    refine LL.val (R.move rfl rfl) rfl rfl rfl ?_
    refine LL.call (R.callV rfl rfl rfl rfl) rfl rfl rfl (m2_T _ _ _ _ _ _ _ _ (by assumption) (by omega) (by assumption) (by omega) (by omega) (by omega)) ?_
    rintro e Wb18 ⟨rfl, rb19, tb20⟩
    refine ⟨_, rfl, ?_⟩
    have ztb20 := tb20.size
    replace rb14 := rb14.kept tb20 ⟨rb14.lt, by omega⟩
    replace bb2 := tb20.onB bb2 (fun j hj => ⟨by have := bb2.size; omega, by omega⟩)
    replace r4 := r4.kept tb20 ⟨r4.lt, by omega⟩
    replace b1 := tb20.onB b1 (fun j hj => ⟨by have := b1.size; omega, by omega⟩)
    replace q := tb20.onB q (fun j hj => ⟨by have := q.size; omega, by omega⟩)
    replace hv := hv.kept tb20 ⟨by omega, by omega⟩
    replace c1 := cell_kept c1 tb20 ⟨World.block_lt_of_cell? _ _ c1, by omega⟩
    refine LL.val (R.not rfl rfl) rfl rfl rfl ?_
    refine LL.nilS ?_
    refine CC.no rfl ?_
    refine CC.skip ?_
    refine EE.inN ?_
    refine EE.thenN ?_
    refine CC.region ?_
    refine LL.val (R.addIz (z := 2) rfl rfl rfl (by decide) (by decide)) rfl rfl rfl ?_
    refine LL.val (R.move rfl rfl) rfl rfl rfl ?_
    refine LL.nil ?_
    refine EE.again ?_
    refine RN.step ?_
    refine CC.seq ?_
    refine CC.region ?_
    refine LL.val (R.ltT rfl rfl rfl (by omega)) rfl rfl rfl ?_
    refine LL.nilS ?_
    refine CC.seq ?_
    refine CC.yes rfl ?_
    refine CC.skip ?_
    refine EE.thenN ?_
    refine CC.seq ?_
    refine CC.block ?_
    refine CC.seq ?_
    refine CC.region ?_
    refine LL.val (R.index rfl rfl rfl (I.ixS1c rfl rfl (by omega))) rfl rfl rfl ?_
    refine LL.val (R.load rfl rfl (I.ld1 rfl (RowL.cell rb14 rfl))) rfl rfl rfl ?_
    refine LL.val (R.assign rfl rfl) rfl rfl rfl ?_
    refine LL.nilS ?_
    refine CC.seq ?_
    refine CC.region ?_
    refine LL.val (R.move rfl rfl) rfl rfl rfl ?_
    refine LL.call (R.callV rfl rfl rfl rfl) rfl rfl rfl (m3_T _ _ _ _ _ _ _ _ _ _ (by assumption) (by omega) (by assumption) (by omega) (by assumption) (by omega) (by assumption) (by omega) (by omega) (by assumption)) ?_
    rintro e Wb22 ⟨rfl, rb23, tb24⟩
    refine ⟨_, rfl, ?_⟩
    have ztb24 := tb24.size
    replace rb14 := rb14.kept tb24 ⟨rb14.lt, by omega⟩
    replace bb2 := tb24.onB bb2 (fun j hj => ⟨by have := bb2.size; omega, by omega⟩)
    replace r4 := r4.kept tb24 ⟨r4.lt, by omega⟩
    replace b1 := tb24.onB b1 (fun j hj => ⟨by have := b1.size; omega, by omega⟩)
    replace q := tb24.onB q (fun j hj => ⟨by have := q.size; omega, by omega⟩)
    replace hv := hv.kept tb24 ⟨by omega, by omega⟩
    replace c1 := cell_kept c1 tb24 ⟨World.block_lt_of_cell? _ _ c1, by omega⟩
    refine LL.val (R.not rfl rfl) rfl rfl rfl ?_
    refine LL.nilS ?_
    refine CC.no rfl ?_
    refine CC.skip ?_
    refine EE.inN ?_
    refine EE.thenN ?_
    refine CC.region ?_
    refine LL.val (R.addIz (z := 3) rfl rfl rfl (by decide) (by decide)) rfl rfl rfl ?_
    refine LL.val (R.move rfl rfl) rfl rfl rfl ?_
    refine LL.nil ?_
    refine EE.again ?_
    refine RN.step ?_
    refine CC.seq ?_
    refine CC.region ?_
    refine LL.val (R.ltT rfl rfl rfl (by omega)) rfl rfl rfl ?_
    refine LL.nilS ?_
    refine CC.seq ?_
    refine CC.yes rfl ?_
    refine CC.skip ?_
    refine EE.thenN ?_
    refine CC.seq ?_
    refine CC.block ?_
    refine CC.seq ?_
    refine CC.region ?_
    refine LL.val (R.index rfl rfl rfl (I.ixS1c rfl rfl (by omega))) rfl rfl rfl ?_
    refine LL.val (R.load rfl rfl (I.ld1 rfl (RowL.cell rb14 rfl))) rfl rfl rfl ?_
    refine LL.val (R.assign rfl rfl) rfl rfl rfl ?_
    refine LL.nilS ?_
    refine CC.seq ?_
    refine CC.region ?_
    refine LL.val (R.move rfl rfl) rfl rfl rfl ?_
    refine LL.call (R.callV rfl rfl rfl rfl) rfl rfl rfl (m4_N _ _ _ _ _ _ _ _ (by assumption) (by assumption) (by omega) (by assumption)) ?_
    rintro e Wb26 ⟨rfl, bb25⟩
    refine ⟨_, rfl, ?_⟩
    have zbb25 := bb25.size
    replace rb23 := rb23.up bb25
    replace rb14 := rb14.up bb25
    replace bb2 := bb2.trans (bb25.mono bb2.size)
    replace r4 := r4.up bb25
    replace b1 := b1.trans (bb25.mono b1.size)
    replace q := q.trans (bb25.mono q.size)
    replace hv := hv.up bb25
    replace c1 := cell_up c1 bb25
    refine LL.val (R.not rfl rfl) rfl rfl rfl ?_
    refine LL.nilS ?_
    refine CC.yes rfl ?_
    refine CC.goto ?_
    refine EE.inG ?_
    refine EE.thenG ?_
    refine EE.thenG ?_
    refine EE.inG ?_
    refine EE.thenG ?_
    (refine EE.jumpTo () rfl ?_ ⟨q, r4⟩; exact ⟨rfl, trivial⟩)
/-- No record's words. -/
def noRec (ws : List Nat) : Prop := ∀ (n : Nat) (l : Bs), okR n l → recW n l ≠ ws
theorem of_F (v : Value) (ws : List Nat) (w : World) (hv : Reads w v (ints .u64 ws)) (hw : ∀ x ∈ ws, x < 18446744073709551616) (hlen : ws.length ≤ 1048576) (h : noRec ws) : Calls Try.prog 13 #[v] w fun e w' => e = .returned (.tuple #[recV 0 [], .int .i64 250]) ∧ Below w.heap.size w w' := by
  by_cases hws : ws.length = 16
  case neg => exact of_F16 v ws w hv hws hlen
  have hx : wd0 ws < 18446744073709551616 := by
    unfold wd0
    rw [List.getElem?_eq_getElem (by omega)]
    exact hw _ (List.getElem_mem _)
  by_cases h0 : wd0 ws = 0
  · exact of_F1 v ws w _ hv hws rfl hx h0
  by_cases h1 : 1 ≤ wd0 ws % 65536 ∧ wd0 ws % 65536 ≤ 256
  case neg => exact of_F2 v ws w _ hv hws rfl hx h0 h1
  by_cases h2 : 1 ≤ wd0 ws / 65536 % 256 ∧ wd0 ws / 65536 % 256 ≤ 120
  case neg => exact of_F3 v ws w _ hv hws rfl hx h0 h1 h2
  by_cases hz : zerosB ((bytesL ((ws.drop 1).take ((wd0 ws / 65536 % 256 + 7) / 8))).drop (wd0 ws / 65536 % 256)) = true
  case neg => exact of_F4 v ws w _ hv hws rfl hx _ rfl h0 h1 h2 (by simpa using hz)
  refine of_F5 v ws w _ hv hws rfl hx _ rfl h0 h1 h2 hz ⟨fun hh => h _ _ hh.1 hh.2, ?_⟩
  unfold nmW ofN
  rw [List.length_map, List.length_take]
  omega
end Go.Proofs.Ytefepklacchghaa
