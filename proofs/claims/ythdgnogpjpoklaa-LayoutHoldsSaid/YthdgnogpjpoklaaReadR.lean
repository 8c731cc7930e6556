/- layout: the document's Read. -/
import Derived.Test.YthdgnogpjpoklaaReadM
import Derived.Test.YthdgnogpjpoklaaSupersW
import Derived.Test.YthdgnogpjpoklaaFreeZ
namespace Go.Proofs.Ythdgnogpjpoklaa
set_option linter.unusedVariables false
set_option linter.unusedSimpArgs false
open Go.RowKit Go.Shelf
abbrev rdT (b i r t k1 k2 : Nat) : Value := .tuple #[layV b i r t k1 k2 9 (9 + (i : Int) / 4) (9 + (i : Int) / 4 + (r : Int) / 4) (10 + (i : Int) / 4 + (r : Int) / 4), .int .i64 0]
abbrev rdN : Value := .tuple #[layV 0 0 0 0 0 0 0 0 0 0, .int .i64 230]
/-- No device: told so that no arithmetic looks into it. -/
def notR (ws : List Nat) : Prop := ¬rdOk ws
def notK (b i r t : Nat) : Prop := ¬okF b i r t
set_option maxRecDepth 100000 in
set_option maxHeartbeats 8000000 in
theorem rread_short (v : Value) (ws : List Nat) (w : World) (hv : Reads w v (ints .u64 ws)) (h64 : ws.length < 64) : Calls Try.prog 23 #[v] w fun x w' => x = .returned rdN ∧ Below w.heap.size w w' := by
  have q := Below.refl w.heap.size w
  obtain ⟨a, cap, rfl, hcap, _⟩ := hv.ints
  refine X.fn Try.func23 rfl (n := 93) rfl rfl ?_
  refine CC.seq ?_
  refine CC.region ?_
  refine LL.alloc ([Value.int IntKind.i64 0, Value.int IntKind.i64 0, Value.int IntKind.i64 0, Value.int IntKind.i64 0, Value.int IntKind.u64 0, Value.int IntKind.u64 0, Value.int IntKind.i64 0, Value.int IntKind.i64 0, Value.int IntKind.i64 0, Value.int IntKind.i64 0]) rfl rfl rfl rfl rfl ?_
  intro W2 g3 eg3 r4 z5 b1
  replace q := q.trans (b1.mono q.size)
  replace hv := hv.up b1
  refine LL.val (R.assign rfl rfl) rfl rfl rfl ?_
  refine LL.nilS ?_
  refine CC.seq ?_
  refine CC.seq ?_
  refine CC.region ?_
  refine LL.val (R.move rfl rfl) rfl rfl rfl ?_
  refine LL.val (R.len rfl rfl rfl rfl) rfl rfl rfl ?_
  refine LL.val (R.ltT rfl rfl rfl (by omega)) rfl rfl rfl ?_
  refine LL.val (R.move rfl rfl) rfl rfl rfl ?_
  refine LL.skip rfl rfl ?_
  refine LL.skip rfl rfl ?_
  refine LL.skip rfl rfl ?_
  refine LL.skip rfl rfl ?_
  refine LL.val (R.pick rfl rfl rfl) rfl rfl rfl ?_
  refine LL.val (R.move rfl rfl) rfl rfl rfl ?_
  refine LL.skip rfl rfl ?_
  refine LL.skip rfl rfl ?_
  refine LL.skip rfl rfl ?_
  refine LL.skip rfl rfl ?_
  refine LL.val (R.pick rfl rfl rfl) rfl rfl rfl ?_
  refine LL.val (R.move rfl rfl) rfl rfl rfl ?_
  refine LL.skip rfl rfl ?_
  refine LL.skip rfl rfl ?_
  refine LL.skip rfl rfl ?_
  refine LL.skip rfl rfl ?_
  refine LL.val (R.pick rfl rfl rfl) rfl rfl rfl ?_
  refine LL.val (R.move rfl rfl) rfl rfl rfl ?_
  refine LL.skip rfl rfl ?_
  refine LL.skip rfl rfl ?_
  refine LL.skip rfl rfl ?_
  refine LL.skip rfl rfl ?_
  refine LL.val (R.pick rfl rfl rfl) rfl rfl rfl ?_
  refine LL.nilS ?_
  refine CC.yes rfl ?_
  refine CC.seq ?_
  refine CC.region ?_
  refine LL.val (R.buildV rfl rfl (v := .agg #[Value.int IntKind.i64 0, Value.int IntKind.i64 0, Value.int IntKind.i64 0, Value.int IntKind.i64 0, Value.int IntKind.u64 0, Value.int IntKind.u64 0, Value.int IntKind.i64 0, Value.int IntKind.i64 0, Value.int IntKind.i64 0, Value.int IntKind.i64 0]) (fun _ => by kernel_rfl)) rfl rfl rfl ?_
  refine LL.storeN (vs := [Value.int IntKind.i64 0, Value.int IntKind.i64 0, Value.int IntKind.i64 0, Value.int IntKind.i64 0, Value.int IntKind.u64 0, Value.int IntKind.u64 0, Value.int IntKind.i64 0, Value.int IntKind.i64 0, Value.int IntKind.i64 0, Value.int IntKind.i64 0]) rfl rfl rfl rfl r4 (by exact Nat.le_of_ble_eq_true rfl) (ones_of rfl) rfl rfl ?_
  intro W7 r8 b6 z9
  have hlb6 := r4.lt
  replace r8 : RowL W7 _ 27 [Value.int IntKind.i64 0, Value.int IntKind.i64 0, Value.int IntKind.i64 0, Value.int IntKind.i64 0, Value.int IntKind.u64 0, Value.int IntKind.u64 0, Value.int IntKind.i64 0, Value.int IntKind.i64 0, Value.int IntKind.i64 0, Value.int IntKind.i64 0] := r8
  clear r4
  replace b1 := b1.grown b6 b1.size (by rintro k ⟨⟩; omega)
  replace q := q.grown b6 q.size (by rintro k ⟨⟩; omega)
  have r4 := r8
  clear r8
  refine LL.val (R.assign rfl rfl) rfl rfl rfl ?_
  refine LL.nilS ?_
  refine CC.ret ?_
  refine EE.thenR ?_
  refine EE.ret2 rfl ⟨_, rfl, lvNc (RowL.cells0 (by assumption)) (by rfl) (by rfl)⟩ rfl ?_
  exact ⟨rfl, q⟩
set_option maxRecDepth 100000 in
set_option maxHeartbeats 8000000 in
theorem rread_long (v : Value) (ws : List Nat) (w : World) (hv : Reads w v (ints .u64 ws)) (hw : ∀ x ∈ ws, x < 18446744073709551616) (h64 : ¬ws.length < 64) (hlen : ws.length ≤ 1048576) (ok : Bool) (hiff : ok = true ↔ rdOk ws) : Calls Try.prog 23 #[v] w fun x w' => x = .returned (if ok then rdT (wd ws 1) (wd ws 2) (wd ws 3) (wd ws 4) (wd ws 5) (wd ws 6) else rdN) ∧ Below w.heap.size w w' := by
  have q := Below.refl w.heap.size w
  obtain ⟨N, hN⟩ : ∃ N, ws.length = N := ⟨_, rfl⟩
  obtain ⟨a, cap, rfl, hcap, hcells⟩ := hv.intsN hN
  rw [hN] at h64 hlen
  obtain ⟨bk, off, rfl, hbk, hc⟩ := hcells (by omega)
  have c1 : w.cell? ⟨bk, off + 1, none⟩ = some (.int .u64 (wd ws 1 : Int)) := hc 1 (by omega)
  have c2 : w.cell? ⟨bk, off + 2, none⟩ = some (.int .u64 (wd ws 2 : Int)) := hc 2 (by omega)
  have c3 : w.cell? ⟨bk, off + 3, none⟩ = some (.int .u64 (wd ws 3 : Int)) := hc 3 (by omega)
  have c4 : w.cell? ⟨bk, off + 4, none⟩ = some (.int .u64 (wd ws 4 : Int)) := hc 4 (by omega)
  have c5 : w.cell? ⟨bk, off + 5, none⟩ = some (.int .u64 (wd ws 5 : Int)) := hc 5 (by omega)
  have c6 : w.cell? ⟨bk, off + 6, none⟩ = some (.int .u64 (wd ws 6 : Int)) := hc 6 (by omega)
  have hwl : ∀ j, wd ws j < 18446744073709551616 := by
    intro j
    unfold wd
    cases hj : ws[j]? with
    | none => simp
    | some x => exact hw x (List.mem_of_getElem? hj)
  have w1 := hwl 1
  have w2 := hwl 2
  have w3 := hwl 3
  have w4 := hwl 4
  have w5 := hwl 5
  have w6 := hwl 6
  by_cases hbig : wd ws 1 ≤ 2048 ∧ wd ws 2 ≤ 256 ∧ wd ws 3 ≤ 1024 ∧ wd ws 4 ≤ 40
  case neg =>
    have hfalse : ok = false := by
      cases ok with
      | false => rfl
      | true => exfalso; have := (hiff.1 rfl).2.1; omega
    rw [hfalse]
    clear hiff
    refine X.fn Try.func23 rfl (n := 93) rfl rfl ?_
    refine CC.seq ?_
    refine CC.region ?_
    refine LL.alloc ([Value.int IntKind.i64 0, Value.int IntKind.i64 0, Value.int IntKind.i64 0, Value.int IntKind.i64 0, Value.int IntKind.u64 0, Value.int IntKind.u64 0, Value.int IntKind.i64 0, Value.int IntKind.i64 0, Value.int IntKind.i64 0, Value.int IntKind.i64 0]) rfl rfl rfl rfl rfl ?_
    intro W2 g3 eg3 r4 z5 b1
    replace q := q.trans (b1.mono q.size)
    replace hv := hv.up b1
    replace c1 := cell_up c1 b1
    replace c2 := cell_up c2 b1
    replace c3 := cell_up c3 b1
    replace c4 := cell_up c4 b1
    replace c5 := cell_up c5 b1
    replace c6 := cell_up c6 b1
    refine LL.val (R.assign rfl rfl) rfl rfl rfl ?_
    refine LL.nilS ?_
    refine CC.seq ?_
    refine CC.seq ?_
    refine CC.region ?_
    refine LL.val (R.move rfl rfl) rfl rfl rfl ?_
    refine LL.val (R.len rfl rfl rfl rfl) rfl rfl rfl ?_
    refine LL.val (R.ltF rfl rfl rfl (by omega)) rfl rfl rfl ?_
    refine LL.val (R.move rfl rfl) rfl rfl rfl ?_
    refine LL.val (R.move rfl rfl) rfl rfl rfl ?_
    refine LL.val (R.index rfl rfl rfl (I.ixS1c rfl rfl (by omega))) rfl rfl rfl ?_
    refine LL.val (R.load rfl rfl (I.ld1 rfl (by assumption))) rfl rfl rfl ?_
    refine LL.vsplit (fun h => R.gtT rfl rfl rfl h) (fun h => R.gtF rfl rfl rfl (Int.not_lt.1 h)) rfl rfl rfl (fun c6 => ?_) (fun c6 => ?_)
    refine LL.val (R.pick rfl rfl rfl) rfl rfl rfl ?_
    refine LL.val (R.move rfl rfl) rfl rfl rfl ?_
    refine LL.skip rfl rfl ?_
    refine LL.skip rfl rfl ?_
    refine LL.skip rfl rfl ?_
    refine LL.skip rfl rfl ?_
    refine LL.val (R.pick rfl rfl rfl) rfl rfl rfl ?_
    refine LL.val (R.move rfl rfl) rfl rfl rfl ?_
    refine LL.skip rfl rfl ?_
    refine LL.skip rfl rfl ?_
    refine LL.skip rfl rfl ?_
    refine LL.skip rfl rfl ?_
    refine LL.val (R.pick rfl rfl rfl) rfl rfl rfl ?_
    refine LL.val (R.move rfl rfl) rfl rfl rfl ?_
    refine LL.skip rfl rfl ?_
    refine LL.skip rfl rfl ?_
    refine LL.skip rfl rfl ?_
    refine LL.skip rfl rfl ?_
    refine LL.val (R.pick rfl rfl rfl) rfl rfl rfl ?_
    refine LL.nilS ?_
    refine CC.yes rfl ?_
    refine CC.seq ?_
    refine CC.region ?_
    refine LL.val (R.buildV rfl rfl (v := .agg #[Value.int IntKind.i64 0, Value.int IntKind.i64 0, Value.int IntKind.i64 0, Value.int IntKind.i64 0, Value.int IntKind.u64 0, Value.int IntKind.u64 0, Value.int IntKind.i64 0, Value.int IntKind.i64 0, Value.int IntKind.i64 0, Value.int IntKind.i64 0]) (fun _ => by kernel_rfl)) rfl rfl rfl ?_
    refine LL.storeN (vs := [Value.int IntKind.i64 0, Value.int IntKind.i64 0, Value.int IntKind.i64 0, Value.int IntKind.i64 0, Value.int IntKind.u64 0, Value.int IntKind.u64 0, Value.int IntKind.i64 0, Value.int IntKind.i64 0, Value.int IntKind.i64 0, Value.int IntKind.i64 0]) rfl rfl rfl rfl r4 (by exact Nat.le_of_ble_eq_true rfl) (ones_of rfl) rfl rfl ?_
    intro W8 r9 b7 z10
    have hlb7 := r4.lt
    replace r9 : RowL W8 _ 27 [Value.int IntKind.i64 0, Value.int IntKind.i64 0, Value.int IntKind.i64 0, Value.int IntKind.i64 0, Value.int IntKind.u64 0, Value.int IntKind.u64 0, Value.int IntKind.i64 0, Value.int IntKind.i64 0, Value.int IntKind.i64 0, Value.int IntKind.i64 0] := r9
    clear r4
    replace b1 := b1.grown b7 b1.size (by rintro k ⟨⟩; omega)
    replace q := q.grown b7 q.size (by rintro k ⟨⟩; omega)
    replace hv := hv.gr b7 (by omega)
    replace c1 := cell_gr c1 b7 (by omega)
    replace c2 := cell_gr c2 b7 (by omega)
    replace c3 := cell_gr c3 b7 (by omega)
    replace c4 := cell_gr c4 b7 (by omega)
    replace c5 := cell_gr c5 b7 (by omega)
    have r4 := r9
    clear r9
    refine LL.val (R.assign rfl rfl) rfl rfl rfl ?_
    refine LL.nilS ?_
    refine CC.ret ?_
    refine EE.thenR ?_
    refine EE.ret2 rfl ⟨_, rfl, lvNc (RowL.cells0 (by assumption)) (by rfl) (by rfl)⟩ rfl ?_
    exact ⟨rfl, q⟩
    refine LL.val (R.pick rfl rfl rfl) rfl rfl rfl ?_
    refine LL.val (R.move rfl rfl) rfl rfl rfl ?_
    refine LL.val (R.move rfl rfl) rfl rfl rfl ?_
    refine LL.val (R.index rfl rfl rfl (I.ixS1c rfl rfl (by omega))) rfl rfl rfl ?_
    refine LL.val (R.load rfl rfl (I.ld1 rfl (by assumption))) rfl rfl rfl ?_
    refine LL.vsplit (fun h => R.gtT rfl rfl rfl h) (fun h => R.gtF rfl rfl rfl (Int.not_lt.1 h)) rfl rfl rfl (fun c11 => ?_) (fun c11 => ?_)
    refine LL.val (R.pick rfl rfl rfl) rfl rfl rfl ?_
    refine LL.val (R.move rfl rfl) rfl rfl rfl ?_
    refine LL.skip rfl rfl ?_
    refine LL.skip rfl rfl ?_
    refine LL.skip rfl rfl ?_
    refine LL.skip rfl rfl ?_
    refine LL.val (R.pick rfl rfl rfl) rfl rfl rfl ?_
    refine LL.val (R.move rfl rfl) rfl rfl rfl ?_
    refine LL.skip rfl rfl ?_
    refine LL.skip rfl rfl ?_
    refine LL.skip rfl rfl ?_
    refine LL.skip rfl rfl ?_
    refine LL.val (R.pick rfl rfl rfl) rfl rfl rfl ?_
    refine LL.nilS ?_
    refine CC.yes rfl ?_
    refine CC.seq ?_
    refine CC.region ?_
    refine LL.val (R.buildV rfl rfl (v := .agg #[Value.int IntKind.i64 0, Value.int IntKind.i64 0, Value.int IntKind.i64 0, Value.int IntKind.i64 0, Value.int IntKind.u64 0, Value.int IntKind.u64 0, Value.int IntKind.i64 0, Value.int IntKind.i64 0, Value.int IntKind.i64 0, Value.int IntKind.i64 0]) (fun _ => by kernel_rfl)) rfl rfl rfl ?_
    refine LL.storeN (vs := [Value.int IntKind.i64 0, Value.int IntKind.i64 0, Value.int IntKind.i64 0, Value.int IntKind.i64 0, Value.int IntKind.u64 0, Value.int IntKind.u64 0, Value.int IntKind.i64 0, Value.int IntKind.i64 0, Value.int IntKind.i64 0, Value.int IntKind.i64 0]) rfl rfl rfl rfl r4 (by exact Nat.le_of_ble_eq_true rfl) (ones_of rfl) rfl rfl ?_
    intro W13 r14 b12 z15
    have hlb12 := r4.lt
    replace r14 : RowL W13 _ 27 [Value.int IntKind.i64 0, Value.int IntKind.i64 0, Value.int IntKind.i64 0, Value.int IntKind.i64 0, Value.int IntKind.u64 0, Value.int IntKind.u64 0, Value.int IntKind.i64 0, Value.int IntKind.i64 0, Value.int IntKind.i64 0, Value.int IntKind.i64 0] := r14
    clear r4
    replace b1 := b1.grown b12 b1.size (by rintro k ⟨⟩; omega)
    replace q := q.grown b12 q.size (by rintro k ⟨⟩; omega)
    replace hv := hv.gr b12 (by omega)
    replace c1 := cell_gr c1 b12 (by omega)
    replace c2 := cell_gr c2 b12 (by omega)
    replace c3 := cell_gr c3 b12 (by omega)
    replace c4 := cell_gr c4 b12 (by omega)
    replace c5 := cell_gr c5 b12 (by omega)
    have r4 := r14
    clear r14
    refine LL.val (R.assign rfl rfl) rfl rfl rfl ?_
    refine LL.nilS ?_
    refine CC.ret ?_
    refine EE.thenR ?_
    refine EE.ret2 rfl ⟨_, rfl, lvNc (RowL.cells0 (by assumption)) (by rfl) (by rfl)⟩ rfl ?_
    exact ⟨rfl, q⟩
    refine LL.val (R.pick rfl rfl rfl) rfl rfl rfl ?_
    refine LL.val (R.move rfl rfl) rfl rfl rfl ?_
    refine LL.val (R.move rfl rfl) rfl rfl rfl ?_
    refine LL.val (R.index rfl rfl rfl (I.ixS1c rfl rfl (by omega))) rfl rfl rfl ?_
    refine LL.val (R.load rfl rfl (I.ld1 rfl (by assumption))) rfl rfl rfl ?_
    refine LL.vsplit (fun h => R.gtT rfl rfl rfl h) (fun h => R.gtF rfl rfl rfl (Int.not_lt.1 h)) rfl rfl rfl (fun c16 => ?_) (fun c16 => ?_)
    refine LL.val (R.pick rfl rfl rfl) rfl rfl rfl ?_
    refine LL.val (R.move rfl rfl) rfl rfl rfl ?_
    refine LL.skip rfl rfl ?_
    refine LL.skip rfl rfl ?_
    refine LL.skip rfl rfl ?_
    refine LL.skip rfl rfl ?_
    refine LL.val (R.pick rfl rfl rfl) rfl rfl rfl ?_
    refine LL.nilS ?_
    refine CC.yes rfl ?_
    refine CC.seq ?_
    refine CC.region ?_
    refine LL.val (R.buildV rfl rfl (v := .agg #[Value.int IntKind.i64 0, Value.int IntKind.i64 0, Value.int IntKind.i64 0, Value.int IntKind.i64 0, Value.int IntKind.u64 0, Value.int IntKind.u64 0, Value.int IntKind.i64 0, Value.int IntKind.i64 0, Value.int IntKind.i64 0, Value.int IntKind.i64 0]) (fun _ => by kernel_rfl)) rfl rfl rfl ?_
    refine LL.storeN (vs := [Value.int IntKind.i64 0, Value.int IntKind.i64 0, Value.int IntKind.i64 0, Value.int IntKind.i64 0, Value.int IntKind.u64 0, Value.int IntKind.u64 0, Value.int IntKind.i64 0, Value.int IntKind.i64 0, Value.int IntKind.i64 0, Value.int IntKind.i64 0]) rfl rfl rfl rfl r4 (by exact Nat.le_of_ble_eq_true rfl) (ones_of rfl) rfl rfl ?_
    intro W18 r19 b17 z20
    have hlb17 := r4.lt
    replace r19 : RowL W18 _ 27 [Value.int IntKind.i64 0, Value.int IntKind.i64 0, Value.int IntKind.i64 0, Value.int IntKind.i64 0, Value.int IntKind.u64 0, Value.int IntKind.u64 0, Value.int IntKind.i64 0, Value.int IntKind.i64 0, Value.int IntKind.i64 0, Value.int IntKind.i64 0] := r19
    clear r4
    replace b1 := b1.grown b17 b1.size (by rintro k ⟨⟩; omega)
    replace q := q.grown b17 q.size (by rintro k ⟨⟩; omega)
    replace hv := hv.gr b17 (by omega)
    replace c1 := cell_gr c1 b17 (by omega)
    replace c2 := cell_gr c2 b17 (by omega)
    replace c3 := cell_gr c3 b17 (by omega)
    replace c4 := cell_gr c4 b17 (by omega)
    replace c5 := cell_gr c5 b17 (by omega)
    have r4 := r19
    clear r19
    refine LL.val (R.assign rfl rfl) rfl rfl rfl ?_
    refine LL.nilS ?_
    refine CC.ret ?_
    refine EE.thenR ?_
    refine EE.ret2 rfl ⟨_, rfl, lvNc (RowL.cells0 (by assumption)) (by rfl) (by rfl)⟩ rfl ?_
    exact ⟨rfl, q⟩
    refine LL.val (R.pick rfl rfl rfl) rfl rfl rfl ?_
    refine LL.val (R.move rfl rfl) rfl rfl rfl ?_
    refine LL.val (R.move rfl rfl) rfl rfl rfl ?_
    refine LL.val (R.index rfl rfl rfl (I.ixS1c rfl rfl (by omega))) rfl rfl rfl ?_
    refine LL.val (R.load rfl rfl (I.ld1 rfl (by assumption))) rfl rfl rfl ?_
    refine LL.val (R.gtT rfl rfl rfl (by omega)) rfl rfl rfl ?_
    refine LL.val (R.pick rfl rfl rfl) rfl rfl rfl ?_
    refine LL.nilS ?_
    refine CC.yes rfl ?_
    refine CC.seq ?_
    refine CC.region ?_
    refine LL.val (R.buildV rfl rfl (v := .agg #[Value.int IntKind.i64 0, Value.int IntKind.i64 0, Value.int IntKind.i64 0, Value.int IntKind.i64 0, Value.int IntKind.u64 0, Value.int IntKind.u64 0, Value.int IntKind.i64 0, Value.int IntKind.i64 0, Value.int IntKind.i64 0, Value.int IntKind.i64 0]) (fun _ => by kernel_rfl)) rfl rfl rfl ?_
    refine LL.storeN (vs := [Value.int IntKind.i64 0, Value.int IntKind.i64 0, Value.int IntKind.i64 0, Value.int IntKind.i64 0, Value.int IntKind.u64 0, Value.int IntKind.u64 0, Value.int IntKind.i64 0, Value.int IntKind.i64 0, Value.int IntKind.i64 0, Value.int IntKind.i64 0]) rfl rfl rfl rfl r4 (by exact Nat.le_of_ble_eq_true rfl) (ones_of rfl) rfl rfl ?_
    intro W22 r23 b21 z24
    have hlb21 := r4.lt
    replace r23 : RowL W22 _ 27 [Value.int IntKind.i64 0, Value.int IntKind.i64 0, Value.int IntKind.i64 0, Value.int IntKind.i64 0, Value.int IntKind.u64 0, Value.int IntKind.u64 0, Value.int IntKind.i64 0, Value.int IntKind.i64 0, Value.int IntKind.i64 0, Value.int IntKind.i64 0] := r23
    clear r4
    replace b1 := b1.grown b21 b1.size (by rintro k ⟨⟩; omega)
    replace q := q.grown b21 q.size (by rintro k ⟨⟩; omega)
    replace hv := hv.gr b21 (by omega)
    replace c1 := cell_gr c1 b21 (by omega)
    replace c2 := cell_gr c2 b21 (by omega)
    replace c3 := cell_gr c3 b21 (by omega)
    replace c4 := cell_gr c4 b21 (by omega)
    replace c5 := cell_gr c5 b21 (by omega)
    have r4 := r23
    clear r23
    refine LL.val (R.assign rfl rfl) rfl rfl rfl ?_
    refine LL.nilS ?_
    refine CC.ret ?_
    refine EE.thenR ?_
    refine EE.ret2 rfl ⟨_, rfl, lvNc (RowL.cells0 (by assumption)) (by rfl) (by rfl)⟩ rfl ?_
    exact ⟨rfl, q⟩
  by_cases hof : okF (wd ws 1) (wd ws 2) (wd ws 3) (wd ws 4)
  case neg =>
    have hfalse : ok = false := by
      cases ok with
      | false => rfl
      | true => exact absurd ((hiff.1 rfl).2.1) hof
    rw [hfalse]
    clear hiff
    refine X.fn Try.func23 rfl (n := 93) rfl rfl ?_
    refine CC.seq ?_
    refine CC.region ?_
    refine LL.alloc ([Value.int IntKind.i64 0, Value.int IntKind.i64 0, Value.int IntKind.i64 0, Value.int IntKind.i64 0, Value.int IntKind.u64 0, Value.int IntKind.u64 0, Value.int IntKind.i64 0, Value.int IntKind.i64 0, Value.int IntKind.i64 0, Value.int IntKind.i64 0]) rfl rfl rfl rfl rfl ?_
    intro Wa2 ga3 ega3 ra4 za5 ba1
    replace q := q.trans (ba1.mono q.size)
    replace hv := hv.up ba1
    replace c1 := cell_up c1 ba1
    replace c2 := cell_up c2 ba1
    replace c3 := cell_up c3 ba1
    replace c4 := cell_up c4 ba1
    replace c5 := cell_up c5 ba1
    replace c6 := cell_up c6 ba1
    refine LL.val (R.assign rfl rfl) rfl rfl rfl ?_
    refine LL.nilS ?_
    refine CC.seq ?_
    refine CC.seq ?_
    refine CC.region ?_
    refine LL.val (R.move rfl rfl) rfl rfl rfl ?_
    refine LL.val (R.len rfl rfl rfl rfl) rfl rfl rfl ?_
    refine LL.val (R.ltF rfl rfl rfl (by omega)) rfl rfl rfl ?_
    refine LL.val (R.move rfl rfl) rfl rfl rfl ?_
    refine LL.val (R.move rfl rfl) rfl rfl rfl ?_
    refine LL.val (R.index rfl rfl rfl (I.ixS1c rfl rfl (by omega))) rfl rfl rfl ?_
    refine LL.val (R.load rfl rfl (I.ld1 rfl (by assumption))) rfl rfl rfl ?_
    refine LL.val (R.gtF rfl rfl rfl (by omega)) rfl rfl rfl ?_
    refine LL.val (R.pick rfl rfl rfl) rfl rfl rfl ?_
    refine LL.val (R.move rfl rfl) rfl rfl rfl ?_
    refine LL.val (R.move rfl rfl) rfl rfl rfl ?_
    refine LL.val (R.index rfl rfl rfl (I.ixS1c rfl rfl (by omega))) rfl rfl rfl ?_
    refine LL.val (R.load rfl rfl (I.ld1 rfl (by assumption))) rfl rfl rfl ?_
    refine LL.val (R.gtF rfl rfl rfl (by omega)) rfl rfl rfl ?_
    refine LL.val (R.pick rfl rfl rfl) rfl rfl rfl ?_
    refine LL.val (R.move rfl rfl) rfl rfl rfl ?_
    refine LL.val (R.move rfl rfl) rfl rfl rfl ?_
    refine LL.val (R.index rfl rfl rfl (I.ixS1c rfl rfl (by omega))) rfl rfl rfl ?_
    refine LL.val (R.load rfl rfl (I.ld1 rfl (by assumption))) rfl rfl rfl ?_
    refine LL.val (R.gtF rfl rfl rfl (by omega)) rfl rfl rfl ?_
    refine LL.val (R.pick rfl rfl rfl) rfl rfl rfl ?_
    refine LL.val (R.move rfl rfl) rfl rfl rfl ?_
    refine LL.val (R.move rfl rfl) rfl rfl rfl ?_
    refine LL.val (R.index rfl rfl rfl (I.ixS1c rfl rfl (by omega))) rfl rfl rfl ?_
    refine LL.val (R.load rfl rfl (I.ld1 rfl (by assumption))) rfl rfl rfl ?_
    refine LL.val (R.gtF rfl rfl rfl (by omega)) rfl rfl rfl ?_
    refine LL.val (R.pick rfl rfl rfl) rfl rfl rfl ?_
    refine LL.nilS ?_
    refine CC.no rfl ?_
    refine CC.skip ?_
    refine EE.thenN ?_
    refine CC.seq ?_
    refine CC.join (fun l_ Wa22 => ∃ (ga17 : Nat), l_ = [(0, Value.slice (some { block := bk, off := off }) N cap), (2, Value.pointer (some { block := ga3, off := 0 })), (3, Value.int IntKind.i64 0), (8, Value.slice (some { block := bk, off := off }) N cap), (9, Value.int IntKind.i64 ↑N), (10, Value.bool false), (11, Value.bool false), (12, Value.slice (some { block := bk, off := off }) N cap), (13, Value.pointer (some { block := bk, off := off + 1 })), (14, Value.int IntKind.u64 ↑(wd ws 1)), (15, Value.bool false), (16, Value.bool false), (17, Value.bool false), (18, Value.slice (some { block := bk, off := off }) N cap), (19, Value.pointer (some { block := bk, off := off + 2 })), (20, Value.int IntKind.u64 ↑(wd ws 2)), (21, Value.bool false), (22, Value.bool false), (23, Value.bool false), (24, Value.slice (some { block := bk, off := off }) N cap), (25, Value.pointer (some { block := bk, off := off + 3 })), (26, Value.int IntKind.u64 ↑(wd ws 3)), (27, Value.bool false), (28, Value.bool false), (29, Value.bool false), (30, Value.slice (some { block := bk, off := off }) N cap), (31, Value.pointer (some { block := bk, off := off + 4 })), (32, Value.int IntKind.u64 ↑(wd ws 4)), (33, Value.bool false), (34, Value.bool false), (4, Value.pointer (some { block := ga17, off := 0 })), (5, Value.int IntKind.i64 2)] ∧ (Below Wa2.heap.size Wa2 Wa22) ∧ (RowL Wa22 ga3 27 [Value.int IntKind.i64 0, Value.int IntKind.i64 0, Value.int IntKind.i64 0, Value.int IntKind.i64 0, Value.int IntKind.u64 0, Value.int IntKind.u64 0, Value.int IntKind.i64 0, Value.int IntKind.i64 0, Value.int IntKind.i64 0, Value.int IntKind.i64 0]) ∧ (Below w.heap.size w Wa22) ∧ (Below w.heap.size w Wa22) ∧ (Reads Wa22 (Value.slice (some { block := bk, off := off }) N cap) (ints IntKind.u64 ws)) ∧ (Wa22.cell? { block := bk, off := off + 1 } = some (Value.int IntKind.u64 ↑(wd ws 1))) ∧ (Wa22.cell? { block := bk, off := off + 2 } = some (Value.int IntKind.u64 ↑(wd ws 2))) ∧ (Wa22.cell? { block := bk, off := off + 3 } = some (Value.int IntKind.u64 ↑(wd ws 3))) ∧ (Wa22.cell? { block := bk, off := off + 4 } = some (Value.int IntKind.u64 ↑(wd ws 4))) ∧ (Wa22.cell? { block := bk, off := off + 5 } = some (Value.int IntKind.u64 ↑(wd ws 5))) ∧ (Wa22.cell? { block := bk, off := off + 6 } = some (Value.int IntKind.u64 ↑(wd ws 6))) ∧ (RowL Wa22 ga17 27 [Value.int IntKind.i64 0, Value.int IntKind.i64 0, Value.int IntKind.i64 0, Value.int IntKind.i64 0, Value.int IntKind.u64 0, Value.int IntKind.u64 0, Value.int IntKind.i64 0, Value.int IntKind.i64 0, Value.int IntKind.i64 0, Value.int IntKind.i64 0]) ∧ (Wa2.heap.size ≤ Wa22.heap.size) ∧ (Wa2.heap.size ≤ ga17)) (fun Ja27 => ?_) ?restJa27
    case' restJa27 =>
      clear ra4
      clear ba1
      clear q
      clear hv
      clear c1
      clear c2
      clear c3
      clear c4
      clear c5
      clear c6
      rintro _ Wa22 ⟨ga17, rfl, ba6, ra4, ba1, q, hv, c1, c2, c3, c4, c5, c6, ra18, za25, za26⟩
    refine EE.thenN ?_
    refine CC.seq ?_
    refine CC.seq ?_
    refine CC.region ?_
    refine LL.val (R.move rfl rfl) rfl rfl rfl ?_
    refine LL.val (R.neT rfl rfl rfl (by omega)) rfl rfl rfl ?_
    refine LL.val (R.move rfl rfl) rfl rfl rfl ?_
    refine LL.skip rfl rfl ?_
    refine LL.skip rfl rfl ?_
    refine LL.skip rfl rfl ?_
    refine LL.skip rfl rfl ?_
    refine LL.skip rfl rfl ?_
    refine LL.skip rfl rfl ?_
    refine LL.skip rfl rfl ?_
    refine LL.val (R.pick rfl rfl rfl) rfl rfl rfl ?_
    refine LL.nilS ?_
    refine CC.yes rfl ?_
    refine CC.seq ?_
    refine CC.region ?_
    refine LL.val (R.buildV rfl rfl (v := .agg #[Value.int IntKind.i64 0, Value.int IntKind.i64 0, Value.int IntKind.i64 0, Value.int IntKind.i64 0, Value.int IntKind.u64 0, Value.int IntKind.u64 0, Value.int IntKind.i64 0, Value.int IntKind.i64 0, Value.int IntKind.i64 0, Value.int IntKind.i64 0]) (fun _ => by kernel_rfl)) rfl rfl rfl ?_
    refine LL.storeN (vs := [Value.int IntKind.i64 0, Value.int IntKind.i64 0, Value.int IntKind.i64 0, Value.int IntKind.i64 0, Value.int IntKind.u64 0, Value.int IntKind.u64 0, Value.int IntKind.i64 0, Value.int IntKind.i64 0, Value.int IntKind.i64 0, Value.int IntKind.i64 0]) rfl rfl rfl rfl ra4 (by exact Nat.le_of_ble_eq_true rfl) (ones_of rfl) rfl rfl ?_
    intro Wa29 ra30 ba28 za31
    have hlba28 := ra4.lt
    replace ra30 : RowL Wa29 _ 27 [Value.int IntKind.i64 0, Value.int IntKind.i64 0, Value.int IntKind.i64 0, Value.int IntKind.i64 0, Value.int IntKind.u64 0, Value.int IntKind.u64 0, Value.int IntKind.i64 0, Value.int IntKind.i64 0, Value.int IntKind.i64 0, Value.int IntKind.i64 0] := ra30
    clear ra4
    replace ba1 := ba1.grown ba28 ba1.size (by rintro k ⟨⟩; omega)
    replace q := q.grown ba28 q.size (by rintro k ⟨⟩; omega)
    replace hv := hv.gr ba28 (by omega)
    replace c1 := cell_gr c1 ba28 (by omega)
    replace c2 := cell_gr c2 ba28 (by omega)
    replace c3 := cell_gr c3 ba28 (by omega)
    replace c4 := cell_gr c4 ba28 (by omega)
    replace c5 := cell_gr c5 ba28 (by omega)
    replace c6 := cell_gr c6 ba28 (by omega)
    replace ra18 := ra18.gr ba28 (by have := ra18.lt; omega)
    have ra4 := ra30
    clear ra30
    refine LL.val (R.assign rfl rfl) rfl rfl rfl ?_
    refine LL.nilS ?_
    refine CC.ret ?_
    refine EE.thenR ?_
    refine EE.ret2 rfl ⟨_, rfl, lvNc (RowL.cells0 (by assumption)) (by rfl) (by rfl)⟩ rfl ?_
    exact ⟨rfl, q⟩
    refine CC.freeZ (fun W_ j => j < W_.heap.size ∧ (True)) (by kernel_rfl) (by kernel_rfl) (fun Wa33 ba32 za34 => ?_)
    replace ra4 := ra4.up ba32
    replace ba1 := ba1.trans (ba32.mono ba1.size)
    replace q := q.trans (ba32.mono q.size)
    replace hv := hv.up ba32
    replace c1 := cell_up c1 ba32
    replace c2 := cell_up c2 ba32
    replace c3 := cell_up c3 ba32
    replace c4 := cell_up c4 ba32
    replace c5 := cell_up c5 ba32
    replace c6 := cell_up c6 ba32
    have hok : Kept (fun j => j < Wa33.heap.size ∧ (True)) Wa33 Wa33 := Kept.refl _ _
    have fzra4 := fzRow (K := fun j => j < Wa33.heap.size ∧ (True)) ra4 ⟨ra4.lt, (by first | trivial | omega)⟩
    have fzc1 := fzCell (K := fun j => j < Wa33.heap.size ∧ (True)) c1 ⟨World.block_lt_of_cell? _ _ c1, (by first | trivial | omega)⟩
    have fzc2 := fzCell (K := fun j => j < Wa33.heap.size ∧ (True)) c2 ⟨World.block_lt_of_cell? _ _ c2, (by first | trivial | omega)⟩
    have fzc3 := fzCell (K := fun j => j < Wa33.heap.size ∧ (True)) c3 ⟨World.block_lt_of_cell? _ _ c3, (by first | trivial | omega)⟩
    have fzc4 := fzCell (K := fun j => j < Wa33.heap.size ∧ (True)) c4 ⟨World.block_lt_of_cell? _ _ c4, (by first | trivial | omega)⟩
    have fzc5 := fzCell (K := fun j => j < Wa33.heap.size ∧ (True)) c5 ⟨World.block_lt_of_cell? _ _ c5, (by first | trivial | omega)⟩
    have fzc6 := fzCell (K := fun j => j < Wa33.heap.size ∧ (True)) c6 ⟨World.block_lt_of_cell? _ _ c6, (by first | trivial | omega)⟩
    refine AA.pure 0 rfl hok (by kernel_rfl) (fun w' b' => R.move rfl rfl) rfl rfl ?_
    refine AA.pure 1 rfl hok (by kernel_rfl) (fun w' b' => R.index rfl rfl rfl (I.ixS1c rfl rfl (by omega))) rfl rfl ?_
    refine AA.pure 2 rfl hok (by kernel_rfl) (fun w' b' => R.load rfl rfl (I.ld1 rfl (fzc1 w' b'))) rfl rfl ?_
    refine AA.pure 3 rfl hok (by kernel_rfl) (fun w' b' => R.convI rfl rfl rfl rfl (wrapI (by omega) (by omega))) rfl rfl ?_
    refine AA.pure 4 rfl hok (by kernel_rfl) (fun w' b' => R.move rfl rfl) rfl rfl ?_
    refine AA.pure 5 rfl hok (by kernel_rfl) (fun w' b' => R.index rfl rfl rfl (I.ixS1c rfl rfl (by omega))) rfl rfl ?_
    refine AA.pure 6 rfl hok (by kernel_rfl) (fun w' b' => R.load rfl rfl (I.ld1 rfl (fzc2 w' b'))) rfl rfl ?_
    refine AA.pure 7 rfl hok (by kernel_rfl) (fun w' b' => R.convI rfl rfl rfl rfl (wrapI (by omega) (by omega))) rfl rfl ?_
    refine AA.pure 8 rfl hok (by kernel_rfl) (fun w' b' => R.move rfl rfl) rfl rfl ?_
    refine AA.pure 9 rfl hok (by kernel_rfl) (fun w' b' => R.index rfl rfl rfl (I.ixS1c rfl rfl (by omega))) rfl rfl ?_
    refine AA.pure 10 rfl hok (by kernel_rfl) (fun w' b' => R.load rfl rfl (I.ld1 rfl (fzc3 w' b'))) rfl rfl ?_
    refine AA.pure 11 rfl hok (by kernel_rfl) (fun w' b' => R.convI rfl rfl rfl rfl (wrapI (by omega) (by omega))) rfl rfl ?_
    refine AA.pure 12 rfl hok (by kernel_rfl) (fun w' b' => R.move rfl rfl) rfl rfl ?_
    refine AA.pure 13 rfl hok (by kernel_rfl) (fun w' b' => R.index rfl rfl rfl (I.ixS1c rfl rfl (by omega))) rfl rfl ?_
    refine AA.pure 14 rfl hok (by kernel_rfl) (fun w' b' => R.load rfl rfl (I.ld1 rfl (fzc4 w' b'))) rfl rfl ?_
    refine AA.pure 15 rfl hok (by kernel_rfl) (fun w' b' => R.convI rfl rfl rfl rfl (wrapI (by omega) (by omega))) rfl rfl ?_
    refine AA.pure 16 rfl hok (by kernel_rfl) (fun w' b' => R.buildV rfl rfl (v := .agg #[Value.int IntKind.i64 ↑(wd ws 1), Value.int IntKind.i64 ↑(wd ws 2), Value.int IntKind.i64 ↑(wd ws 3), Value.int IntKind.i64 ↑(wd ws 4)]) (fun _ => by kernel_rfl)) rfl rfl ?_
    refine AA.pure 17 rfl hok (by kernel_rfl) (fun w' b' => R.move rfl rfl) rfl rfl ?_
    refine AA.pure 18 rfl hok (by kernel_rfl) (fun w' b' => R.index rfl rfl rfl (I.ixS1c rfl rfl (by omega))) rfl rfl ?_
    refine AA.pure 19 rfl hok (by kernel_rfl) (fun w' b' => R.load rfl rfl (I.ld1 rfl (fzc5 w' b'))) rfl rfl ?_
    refine AA.pure 20 rfl hok (by kernel_rfl) (fun w' b' => R.move rfl rfl) rfl rfl ?_
    refine AA.pure 21 rfl hok (by kernel_rfl) (fun w' b' => R.index rfl rfl rfl (I.ixS1c rfl rfl (by omega))) rfl rfl ?_
    refine AA.pure 22 rfl hok (by kernel_rfl) (fun w' b' => R.load rfl rfl (I.ld1 rfl (fzc6 w' b'))) rfl rfl ?_
    refine AA.pure 23 rfl hok (by kernel_rfl) (fun w' b' => R.buildV rfl rfl (v := .agg #[Value.int IntKind.u64 ↑(wd ws 5), Value.int IntKind.u64 ↑(wd ws 6)]) (fun _ => by kernel_rfl)) rfl rfl ?_
    refine AA.two 24 28 (by kernel_rfl) ?_ ?_
    refine SR.call rfl (R.call rfl rfl rfl) rfl rfl (rof_F _ _ _ _ _ _ _ (by first | assumption | omega)) ?_
    rintro e Wa38 ⟨rfl, ba37⟩
    have zba37 := ba37.size
    replace ba32 := ba32.trans (ba37.mono ba32.size)
    replace ra4 := ra4.up ba37
    replace ba1 := ba1.trans (ba37.mono ba1.size)
    replace q := q.trans (ba37.mono q.size)
    replace hv := hv.up ba37
    replace c1 := cell_up c1 ba37
    replace c2 := cell_up c2 ba37
    replace c3 := cell_up c3 ba37
    replace c4 := cell_up c4 ba37
    replace c5 := cell_up c5 ba37
    replace c6 := cell_up c6 ba37
    replace hok := hok.trans (bkept ba37 (fun j h => by have := h.1; have := hok.size; omega))
    have ya39 := hok.size
    refine ⟨_, rfl, hok, ?_⟩
    refine AA.pure 25 rfl hok (by kernel_rfl) (fun w' b' => R.move rfl rfl) rfl rfl ?_
    refine AA.pure 26 rfl hok (by kernel_rfl) (fun w' b' => R.extract rfl rfl rfl) rfl rfl ?_
    refine AA.pure 27 rfl hok (by kernel_rfl) (fun w' b' => R.extract rfl rfl rfl) rfl rfl ?_
    refine AA.one 28 (by kernel_rfl) ?_
    have la40 := ra4.lt
    refine ZR.alloc ([Value.int IntKind.i64 0, Value.int IntKind.i64 0, Value.int IntKind.i64 0, Value.int IntKind.i64 0, Value.int IntKind.u64 0, Value.int IntKind.u64 0, Value.int IntKind.i64 0, Value.int IntKind.i64 0, Value.int IntKind.i64 0, Value.int IntKind.i64 0]) rfl rfl rfl rfl rfl rfl ?_
    intro Wa42 ga43 ega43 ra44 za45 ba41
    replace ba37 := ba37.trans (ba41.mono ba37.size)
    replace ba32 := ba32.trans (ba41.mono ba32.size)
    replace ra4 := ra4.up ba41
    replace ba1 := ba1.trans (ba41.mono ba1.size)
    replace q := q.trans (ba41.mono q.size)
    replace hv := hv.up ba41
    replace c1 := cell_up c1 ba41
    replace c2 := cell_up c2 ba41
    replace c3 := cell_up c3 ba41
    replace c4 := cell_up c4 ba41
    replace c5 := cell_up c5 ba41
    replace c6 := cell_up c6 ba41
    replace hok := hok.trans (bkept ba41 (fun j h => by have := h.1; have := hok.size; omega))
    have ya46 := hok.size
    refine ⟨hok, ?_⟩
    refine AA.one 29 (by kernel_rfl) ?_
    refine ZR.storeN (vs := [Value.int IntKind.i64 0, Value.int IntKind.i64 0, Value.int IntKind.i64 0, Value.int IntKind.i64 0, Value.int IntKind.u64 ↑0, Value.int IntKind.u64 ↑0, Value.int IntKind.i64 0, Value.int IntKind.i64 0, Value.int IntKind.i64 0, Value.int IntKind.i64 0]) rfl rfl rfl rfl rfl ra44 (by exact Nat.le_of_ble_eq_true rfl) (ones_of rfl) rfl rfl ?_
    intro Wa48 ra49 ba47 za50
    have hlba47 := ra44.lt
    replace ra49 : RowL Wa48 _ 27 [Value.int IntKind.i64 0, Value.int IntKind.i64 0, Value.int IntKind.i64 0, Value.int IntKind.i64 0, Value.int IntKind.u64 ↑0, Value.int IntKind.u64 ↑0, Value.int IntKind.i64 0, Value.int IntKind.i64 0, Value.int IntKind.i64 0, Value.int IntKind.i64 0] := ra49
    clear ra44
    replace ba41 := ba41.grown ba47 ba41.size (by rintro k ⟨⟩; omega)
    replace ba37 := ba37.grown ba47 ba37.size (by rintro k ⟨⟩; omega)
    replace ba32 := ba32.grown ba47 ba32.size (by rintro k ⟨⟩; omega)
    replace ra4 := ra4.gr ba47 (by have := ra4.lt; omega)
    replace ba1 := ba1.grown ba47 ba1.size (by rintro k ⟨⟩; omega)
    replace q := q.grown ba47 q.size (by rintro k ⟨⟩; omega)
    replace hv := hv.gr ba47 (by omega)
    replace c1 := cell_gr c1 ba47 (by omega)
    replace c2 := cell_gr c2 ba47 (by omega)
    replace c3 := cell_gr c3 ba47 (by omega)
    replace c4 := cell_gr c4 ba47 (by omega)
    replace c5 := cell_gr c5 ba47 (by omega)
    replace c6 := cell_gr c6 ba47 (by omega)
    replace hok := hok.trans (grown_kept ba47 (fun j h => by have := h.1; have := hok.size; omega) (fun j h e => by cases e; have h2 := h.1; have h3 := h.2; omega))
    have ra44 := ra49
    clear ra49
    refine ⟨hok, ?_⟩
    refine AA.pure 30 rfl hok (by kernel_rfl) (fun w' b' => R.assign rfl rfl) rfl rfl ?_
    refine AA.done rfl ?_
    clear fzra4 fzc1 fzc2 fzc3 fzc4 fzc5 fzc6 hok
    exact EE.weak (Ja27 _ _ ⟨_, rfl, (by first | assumption | omega), (by first | assumption | omega), (by first | assumption | omega), (by first | assumption | omega), (by first | assumption | omega), (by first | assumption | omega), (by first | assumption | omega), (by first | assumption | omega), (by first | assumption | omega), (by first | assumption | omega), (by first | assumption | omega), (by first | assumption | omega), (by first | assumption | omega), (by first | assumption | omega)⟩) ⟨rfl, rfl, rfl, rfl, rfl, rfl, rfl, rfl, rfl, rfl, rfl, rfl, rfl, rfl, rfl, rfl, rfl, rfl, rfl, rfl, rfl, rfl, rfl, rfl, rfl, rfl, rfl, rfl, rfl, rfl, rfl, rfl, trivial⟩
    have la51 := ra4.lt
    refine ZR.alloc ([Value.int IntKind.i64 0, Value.int IntKind.i64 0, Value.int IntKind.i64 0, Value.int IntKind.i64 0, Value.int IntKind.u64 0, Value.int IntKind.u64 0, Value.int IntKind.i64 0, Value.int IntKind.i64 0, Value.int IntKind.i64 0, Value.int IntKind.i64 0]) rfl rfl rfl rfl rfl rfl ?_
    intro Wa53 ga54 ega54 ra55 za56 ba52
    replace ba32 := ba32.trans (ba52.mono ba32.size)
    replace ra4 := ra4.up ba52
    replace ba1 := ba1.trans (ba52.mono ba1.size)
    replace q := q.trans (ba52.mono q.size)
    replace hv := hv.up ba52
    replace c1 := cell_up c1 ba52
    replace c2 := cell_up c2 ba52
    replace c3 := cell_up c3 ba52
    replace c4 := cell_up c4 ba52
    replace c5 := cell_up c5 ba52
    replace c6 := cell_up c6 ba52
    replace hok := hok.trans (bkept ba52 (fun j h => by have := h.1; have := hok.size; omega))
    have ya57 := hok.size
    refine ⟨hok, ?_⟩
    refine AA.one 24 (by kernel_rfl) ?_
    refine SR.call rfl (R.call rfl rfl rfl) rfl rfl (rof_F _ _ _ _ _ _ _ (by first | assumption | omega)) ?_
    rintro e Wa61 ⟨rfl, ba60⟩
    have zba60 := ba60.size
    replace ra55 := ra55.up ba60
    replace ba52 := ba52.trans (ba60.mono ba52.size)
    replace ba32 := ba32.trans (ba60.mono ba32.size)
    replace ra4 := ra4.up ba60
    replace ba1 := ba1.trans (ba60.mono ba1.size)
    replace q := q.trans (ba60.mono q.size)
    replace hv := hv.up ba60
    replace c1 := cell_up c1 ba60
    replace c2 := cell_up c2 ba60
    replace c3 := cell_up c3 ba60
    replace c4 := cell_up c4 ba60
    replace c5 := cell_up c5 ba60
    replace c6 := cell_up c6 ba60
    replace hok := hok.trans (bkept ba60 (fun j h => by have := h.1; have := hok.size; omega))
    have ya62 := hok.size
    refine ⟨_, rfl, hok, ?_⟩
    refine AA.pure 25 rfl hok (by kernel_rfl) (fun w' b' => R.move rfl rfl) rfl rfl ?_
    refine AA.pure 26 rfl hok (by kernel_rfl) (fun w' b' => R.extract rfl rfl rfl) rfl rfl ?_
    refine AA.pure 27 rfl hok (by kernel_rfl) (fun w' b' => R.extract rfl rfl rfl) rfl rfl ?_
    refine AA.one 29 (by kernel_rfl) ?_
    refine ZR.storeN (vs := [Value.int IntKind.i64 0, Value.int IntKind.i64 0, Value.int IntKind.i64 0, Value.int IntKind.i64 0, Value.int IntKind.u64 ↑0, Value.int IntKind.u64 ↑0, Value.int IntKind.i64 0, Value.int IntKind.i64 0, Value.int IntKind.i64 0, Value.int IntKind.i64 0]) rfl rfl rfl rfl rfl ra55 (by exact Nat.le_of_ble_eq_true rfl) (ones_of rfl) rfl rfl ?_
    intro Wa64 ra65 ba63 za66
    have hlba63 := ra55.lt
    replace ra65 : RowL Wa64 _ 27 [Value.int IntKind.i64 0, Value.int IntKind.i64 0, Value.int IntKind.i64 0, Value.int IntKind.i64 0, Value.int IntKind.u64 ↑0, Value.int IntKind.u64 ↑0, Value.int IntKind.i64 0, Value.int IntKind.i64 0, Value.int IntKind.i64 0, Value.int IntKind.i64 0] := ra65
    clear ra55
    replace ba52 := ba52.grown ba63 ba52.size (by rintro k ⟨⟩; omega)
    replace ba32 := ba32.grown ba63 ba32.size (by rintro k ⟨⟩; omega)
    replace ra4 := ra4.gr ba63 (by have := ra4.lt; omega)
    replace ba1 := ba1.grown ba63 ba1.size (by rintro k ⟨⟩; omega)
    replace q := q.grown ba63 q.size (by rintro k ⟨⟩; omega)
    replace hv := hv.gr ba63 (by omega)
    replace c1 := cell_gr c1 ba63 (by omega)
    replace c2 := cell_gr c2 ba63 (by omega)
    replace c3 := cell_gr c3 ba63 (by omega)
    replace c4 := cell_gr c4 ba63 (by omega)
    replace c5 := cell_gr c5 ba63 (by omega)
    replace c6 := cell_gr c6 ba63 (by omega)
    replace hok := hok.trans (grown_kept ba63 (fun j h => by have := h.1; have := hok.size; omega) (fun j h e => by cases e; have h2 := h.1; have h3 := h.2; omega))
    have ra55 := ra65
    clear ra65
    refine ⟨hok, ?_⟩
    refine AA.pure 30 rfl hok (by kernel_rfl) (fun w' b' => R.assign rfl rfl) rfl rfl ?_
    refine AA.done rfl ?_
    clear fzra4 fzc1 fzc2 fzc3 fzc4 fzc5 fzc6 hok
    exact EE.weak (Ja27 _ _ ⟨_, rfl, (by first | assumption | omega), (by first | assumption | omega), (by first | assumption | omega), (by first | assumption | omega), (by first | assumption | omega), (by first | assumption | omega), (by first | assumption | omega), (by first | assumption | omega), (by first | assumption | omega), (by first | assumption | omega), (by first | assumption | omega), (by first | assumption | omega), (by first | assumption | omega), (by first | assumption | omega)⟩) ⟨rfl, rfl, rfl, rfl, rfl, rfl, rfl, rfl, rfl, rfl, rfl, rfl, rfl, rfl, rfl, rfl, rfl, rfl, rfl, rfl, rfl, rfl, rfl, rfl, rfl, rfl, rfl, rfl, rfl, rfl, rfl, rfl, trivial⟩
  by_cases hN64 : N = 64 * wd ws 1
  case neg =>
    have hfalse : ok = false := by
      cases ok with
      | false => rfl
      | true => exact absurd ((hiff.1 rfl).2.2.1) (by omega)
    rw [hfalse]
    clear hiff
    refine X.fn Try.func23 rfl (n := 93) rfl rfl ?_
    refine CC.seq ?_
    refine CC.region ?_
    refine LL.alloc ([Value.int IntKind.i64 0, Value.int IntKind.i64 0, Value.int IntKind.i64 0, Value.int IntKind.i64 0, Value.int IntKind.u64 0, Value.int IntKind.u64 0, Value.int IntKind.i64 0, Value.int IntKind.i64 0, Value.int IntKind.i64 0, Value.int IntKind.i64 0]) rfl rfl rfl rfl rfl ?_
    intro Wb2 gb3 egb3 rb4 zb5 bb1
    replace q := q.trans (bb1.mono q.size)
    replace hv := hv.up bb1
    replace c1 := cell_up c1 bb1
    replace c2 := cell_up c2 bb1
    replace c3 := cell_up c3 bb1
    replace c4 := cell_up c4 bb1
    replace c5 := cell_up c5 bb1
    replace c6 := cell_up c6 bb1
    refine LL.val (R.assign rfl rfl) rfl rfl rfl ?_
    refine LL.nilS ?_
    refine CC.seq ?_
    refine CC.seq ?_
    refine CC.region ?_
    refine LL.val (R.move rfl rfl) rfl rfl rfl ?_
    refine LL.val (R.len rfl rfl rfl rfl) rfl rfl rfl ?_
    refine LL.val (R.ltF rfl rfl rfl (by omega)) rfl rfl rfl ?_
    refine LL.val (R.move rfl rfl) rfl rfl rfl ?_
    refine LL.val (R.move rfl rfl) rfl rfl rfl ?_
    refine LL.val (R.index rfl rfl rfl (I.ixS1c rfl rfl (by omega))) rfl rfl rfl ?_
    refine LL.val (R.load rfl rfl (I.ld1 rfl (by assumption))) rfl rfl rfl ?_
    refine LL.val (R.gtF rfl rfl rfl (by omega)) rfl rfl rfl ?_
    refine LL.val (R.pick rfl rfl rfl) rfl rfl rfl ?_
    refine LL.val (R.move rfl rfl) rfl rfl rfl ?_
    refine LL.val (R.move rfl rfl) rfl rfl rfl ?_
    refine LL.val (R.index rfl rfl rfl (I.ixS1c rfl rfl (by omega))) rfl rfl rfl ?_
    refine LL.val (R.load rfl rfl (I.ld1 rfl (by assumption))) rfl rfl rfl ?_
    refine LL.val (R.gtF rfl rfl rfl (by omega)) rfl rfl rfl ?_
    refine LL.val (R.pick rfl rfl rfl) rfl rfl rfl ?_
    refine LL.val (R.move rfl rfl) rfl rfl rfl ?_
    refine LL.val (R.move rfl rfl) rfl rfl rfl ?_
    refine LL.val (R.index rfl rfl rfl (I.ixS1c rfl rfl (by omega))) rfl rfl rfl ?_
    refine LL.val (R.load rfl rfl (I.ld1 rfl (by assumption))) rfl rfl rfl ?_
    refine LL.val (R.gtF rfl rfl rfl (by omega)) rfl rfl rfl ?_
    refine LL.val (R.pick rfl rfl rfl) rfl rfl rfl ?_
    refine LL.val (R.move rfl rfl) rfl rfl rfl ?_
    refine LL.val (R.move rfl rfl) rfl rfl rfl ?_
    refine LL.val (R.index rfl rfl rfl (I.ixS1c rfl rfl (by omega))) rfl rfl rfl ?_
    refine LL.val (R.load rfl rfl (I.ld1 rfl (by assumption))) rfl rfl rfl ?_
    refine LL.val (R.gtF rfl rfl rfl (by omega)) rfl rfl rfl ?_
    refine LL.val (R.pick rfl rfl rfl) rfl rfl rfl ?_
    refine LL.nilS ?_
    refine CC.no rfl ?_
    refine CC.skip ?_
    refine EE.thenN ?_
    refine CC.seq ?_
    refine CC.join (fun l_ Wb20 => ∃ (gb15 : Nat), l_ = [(0, Value.slice (some { block := bk, off := off }) N cap), (2, Value.pointer (some { block := gb3, off := 0 })), (3, Value.int IntKind.i64 0), (8, Value.slice (some { block := bk, off := off }) N cap), (9, Value.int IntKind.i64 ↑N), (10, Value.bool false), (11, Value.bool false), (12, Value.slice (some { block := bk, off := off }) N cap), (13, Value.pointer (some { block := bk, off := off + 1 })), (14, Value.int IntKind.u64 ↑(wd ws 1)), (15, Value.bool false), (16, Value.bool false), (17, Value.bool false), (18, Value.slice (some { block := bk, off := off }) N cap), (19, Value.pointer (some { block := bk, off := off + 2 })), (20, Value.int IntKind.u64 ↑(wd ws 2)), (21, Value.bool false), (22, Value.bool false), (23, Value.bool false), (24, Value.slice (some { block := bk, off := off }) N cap), (25, Value.pointer (some { block := bk, off := off + 3 })), (26, Value.int IntKind.u64 ↑(wd ws 3)), (27, Value.bool false), (28, Value.bool false), (29, Value.bool false), (30, Value.slice (some { block := bk, off := off }) N cap), (31, Value.pointer (some { block := bk, off := off + 4 })), (32, Value.int IntKind.u64 ↑(wd ws 4)), (33, Value.bool false), (34, Value.bool false), (4, Value.pointer (some { block := gb15, off := 0 })), (5, Value.int IntKind.i64 0)] ∧ (Below Wb2.heap.size Wb2 Wb20) ∧ (RowL Wb20 gb3 27 [Value.int IntKind.i64 0, Value.int IntKind.i64 0, Value.int IntKind.i64 0, Value.int IntKind.i64 0, Value.int IntKind.u64 0, Value.int IntKind.u64 0, Value.int IntKind.i64 0, Value.int IntKind.i64 0, Value.int IntKind.i64 0, Value.int IntKind.i64 0]) ∧ (Below w.heap.size w Wb20) ∧ (Below w.heap.size w Wb20) ∧ (Reads Wb20 (Value.slice (some { block := bk, off := off }) N cap) (ints IntKind.u64 ws)) ∧ (Wb20.cell? { block := bk, off := off + 1 } = some (Value.int IntKind.u64 ↑(wd ws 1))) ∧ (Wb20.cell? { block := bk, off := off + 2 } = some (Value.int IntKind.u64 ↑(wd ws 2))) ∧ (Wb20.cell? { block := bk, off := off + 3 } = some (Value.int IntKind.u64 ↑(wd ws 3))) ∧ (Wb20.cell? { block := bk, off := off + 4 } = some (Value.int IntKind.u64 ↑(wd ws 4))) ∧ (Wb20.cell? { block := bk, off := off + 5 } = some (Value.int IntKind.u64 ↑(wd ws 5))) ∧ (Wb20.cell? { block := bk, off := off + 6 } = some (Value.int IntKind.u64 ↑(wd ws 6))) ∧ (RowL Wb20 gb15 27 [Value.int IntKind.i64 ↑(wd ws 1), Value.int IntKind.i64 ↑(wd ws 2), Value.int IntKind.i64 ↑(wd ws 3), Value.int IntKind.i64 ↑(wd ws 4), Value.int IntKind.u64 ↑(wd ws 5), Value.int IntKind.u64 ↑(wd ws 6), Value.int IntKind.i64 9, Value.int IntKind.i64 (9 + ↑(wd ws 2) / 4), Value.int IntKind.i64 (9 + ↑(wd ws 2) / 4 + ↑(wd ws 3) / 4), Value.int IntKind.i64 (10 + ↑(wd ws 2) / 4 + ↑(wd ws 3) / 4)]) ∧ (Wb2.heap.size ≤ Wb20.heap.size) ∧ (Wb2.heap.size ≤ gb15)) (fun Jb25 => ?_) ?restJb25
    case' restJb25 =>
      clear rb4
      clear bb1
      clear q
      clear hv
      clear c1
      clear c2
      clear c3
      clear c4
      clear c5
      clear c6
      rintro _ Wb20 ⟨gb15, rfl, bb6, rb4, bb1, q, hv, c1, c2, c3, c4, c5, c6, rb16, zb23, zb24⟩
    refine EE.thenN ?_
    refine CC.seq ?_
    refine CC.seq ?_
    refine CC.region ?_
    refine LL.val (R.move rfl rfl) rfl rfl rfl ?_
    refine LL.val (R.neF rfl rfl rfl (by omega)) rfl rfl rfl ?_
    refine LL.val (R.move rfl rfl) rfl rfl rfl ?_
    refine LL.val (R.move rfl rfl) rfl rfl rfl ?_
    refine LL.val (R.len rfl rfl rfl rfl) rfl rfl rfl ?_
    refine LL.val (R.field rfl rfl (I.fld rfl)) rfl rfl rfl ?_
    refine LL.val (R.field rfl rfl (I.fld rfl)) rfl rfl rfl ?_
    refine LL.val (R.load rfl rfl (I.ld1 rfl (RowL.cell rb16 rfl))) rfl rfl rfl ?_
    refine LL.val (R.mulcN rfl rfl rfl rfl (by omega)) rfl rfl rfl ?_
    refine LL.val (R.neT rfl rfl rfl (by omega)) rfl rfl rfl ?_
    refine LL.val (R.pick rfl rfl rfl) rfl rfl rfl ?_
    refine LL.nilS ?_
    refine CC.yes rfl ?_
    refine CC.seq ?_
    refine CC.region ?_
    refine LL.val (R.buildV rfl rfl (v := .agg #[Value.int IntKind.i64 0, Value.int IntKind.i64 0, Value.int IntKind.i64 0, Value.int IntKind.i64 0, Value.int IntKind.u64 0, Value.int IntKind.u64 0, Value.int IntKind.i64 0, Value.int IntKind.i64 0, Value.int IntKind.i64 0, Value.int IntKind.i64 0]) (fun _ => by kernel_rfl)) rfl rfl rfl ?_
    refine LL.storeN (vs := [Value.int IntKind.i64 0, Value.int IntKind.i64 0, Value.int IntKind.i64 0, Value.int IntKind.i64 0, Value.int IntKind.u64 0, Value.int IntKind.u64 0, Value.int IntKind.i64 0, Value.int IntKind.i64 0, Value.int IntKind.i64 0, Value.int IntKind.i64 0]) rfl rfl rfl rfl rb4 (by exact Nat.le_of_ble_eq_true rfl) (ones_of rfl) rfl rfl ?_
    intro Wb27 rb28 bb26 zb29
    have hlbb26 := rb4.lt
    replace rb28 : RowL Wb27 _ 27 [Value.int IntKind.i64 0, Value.int IntKind.i64 0, Value.int IntKind.i64 0, Value.int IntKind.i64 0, Value.int IntKind.u64 0, Value.int IntKind.u64 0, Value.int IntKind.i64 0, Value.int IntKind.i64 0, Value.int IntKind.i64 0, Value.int IntKind.i64 0] := rb28
    clear rb4
    replace bb1 := bb1.grown bb26 bb1.size (by rintro k ⟨⟩; omega)
    replace q := q.grown bb26 q.size (by rintro k ⟨⟩; omega)
    replace hv := hv.gr bb26 (by omega)
    replace c1 := cell_gr c1 bb26 (by omega)
    replace c2 := cell_gr c2 bb26 (by omega)
    replace c3 := cell_gr c3 bb26 (by omega)
    replace c4 := cell_gr c4 bb26 (by omega)
    replace c5 := cell_gr c5 bb26 (by omega)
    replace c6 := cell_gr c6 bb26 (by omega)
    replace rb16 := rb16.gr bb26 (by have := rb16.lt; omega)
    have rb4 := rb28
    clear rb28
    refine LL.val (R.assign rfl rfl) rfl rfl rfl ?_
    refine LL.nilS ?_
    refine CC.ret ?_
    refine EE.thenR ?_
    refine EE.ret2 rfl ⟨_, rfl, lvNc (RowL.cells0 (by assumption)) (by rfl) (by rfl)⟩ rfl ?_
    exact ⟨rfl, q⟩
    refine CC.freeZ (fun W_ j => j < W_.heap.size ∧ (True)) (by kernel_rfl) (by kernel_rfl) (fun Wb31 bb30 zb32 => ?_)
    replace rb4 := rb4.up bb30
    replace bb1 := bb1.trans (bb30.mono bb1.size)
    replace q := q.trans (bb30.mono q.size)
    replace hv := hv.up bb30
    replace c1 := cell_up c1 bb30
    replace c2 := cell_up c2 bb30
    replace c3 := cell_up c3 bb30
    replace c4 := cell_up c4 bb30
    replace c5 := cell_up c5 bb30
    replace c6 := cell_up c6 bb30
    have hok : Kept (fun j => j < Wb31.heap.size ∧ (True)) Wb31 Wb31 := Kept.refl _ _
    have fzrb4 := fzRow (K := fun j => j < Wb31.heap.size ∧ (True)) rb4 ⟨rb4.lt, (by first | trivial | omega)⟩
    have fzc1 := fzCell (K := fun j => j < Wb31.heap.size ∧ (True)) c1 ⟨World.block_lt_of_cell? _ _ c1, (by first | trivial | omega)⟩
    have fzc2 := fzCell (K := fun j => j < Wb31.heap.size ∧ (True)) c2 ⟨World.block_lt_of_cell? _ _ c2, (by first | trivial | omega)⟩
    have fzc3 := fzCell (K := fun j => j < Wb31.heap.size ∧ (True)) c3 ⟨World.block_lt_of_cell? _ _ c3, (by first | trivial | omega)⟩
    have fzc4 := fzCell (K := fun j => j < Wb31.heap.size ∧ (True)) c4 ⟨World.block_lt_of_cell? _ _ c4, (by first | trivial | omega)⟩
    have fzc5 := fzCell (K := fun j => j < Wb31.heap.size ∧ (True)) c5 ⟨World.block_lt_of_cell? _ _ c5, (by first | trivial | omega)⟩
    have fzc6 := fzCell (K := fun j => j < Wb31.heap.size ∧ (True)) c6 ⟨World.block_lt_of_cell? _ _ c6, (by first | trivial | omega)⟩
    refine AA.pure 0 rfl hok (by kernel_rfl) (fun w' b' => R.move rfl rfl) rfl rfl ?_
    refine AA.pure 1 rfl hok (by kernel_rfl) (fun w' b' => R.index rfl rfl rfl (I.ixS1c rfl rfl (by omega))) rfl rfl ?_
    refine AA.pure 2 rfl hok (by kernel_rfl) (fun w' b' => R.load rfl rfl (I.ld1 rfl (fzc1 w' b'))) rfl rfl ?_
    refine AA.pure 3 rfl hok (by kernel_rfl) (fun w' b' => R.convI rfl rfl rfl rfl (wrapI (by omega) (by omega))) rfl rfl ?_
    refine AA.pure 4 rfl hok (by kernel_rfl) (fun w' b' => R.move rfl rfl) rfl rfl ?_
    refine AA.pure 5 rfl hok (by kernel_rfl) (fun w' b' => R.index rfl rfl rfl (I.ixS1c rfl rfl (by omega))) rfl rfl ?_
    refine AA.pure 6 rfl hok (by kernel_rfl) (fun w' b' => R.load rfl rfl (I.ld1 rfl (fzc2 w' b'))) rfl rfl ?_
    refine AA.pure 7 rfl hok (by kernel_rfl) (fun w' b' => R.convI rfl rfl rfl rfl (wrapI (by omega) (by omega))) rfl rfl ?_
    refine AA.pure 8 rfl hok (by kernel_rfl) (fun w' b' => R.move rfl rfl) rfl rfl ?_
    refine AA.pure 9 rfl hok (by kernel_rfl) (fun w' b' => R.index rfl rfl rfl (I.ixS1c rfl rfl (by omega))) rfl rfl ?_
    refine AA.pure 10 rfl hok (by kernel_rfl) (fun w' b' => R.load rfl rfl (I.ld1 rfl (fzc3 w' b'))) rfl rfl ?_
    refine AA.pure 11 rfl hok (by kernel_rfl) (fun w' b' => R.convI rfl rfl rfl rfl (wrapI (by omega) (by omega))) rfl rfl ?_
    refine AA.pure 12 rfl hok (by kernel_rfl) (fun w' b' => R.move rfl rfl) rfl rfl ?_
    refine AA.pure 13 rfl hok (by kernel_rfl) (fun w' b' => R.index rfl rfl rfl (I.ixS1c rfl rfl (by omega))) rfl rfl ?_
    refine AA.pure 14 rfl hok (by kernel_rfl) (fun w' b' => R.load rfl rfl (I.ld1 rfl (fzc4 w' b'))) rfl rfl ?_
    refine AA.pure 15 rfl hok (by kernel_rfl) (fun w' b' => R.convI rfl rfl rfl rfl (wrapI (by omega) (by omega))) rfl rfl ?_
    refine AA.pure 16 rfl hok (by kernel_rfl) (fun w' b' => R.buildV rfl rfl (v := .agg #[Value.int IntKind.i64 ↑(wd ws 1), Value.int IntKind.i64 ↑(wd ws 2), Value.int IntKind.i64 ↑(wd ws 3), Value.int IntKind.i64 ↑(wd ws 4)]) (fun _ => by kernel_rfl)) rfl rfl ?_
    refine AA.pure 17 rfl hok (by kernel_rfl) (fun w' b' => R.move rfl rfl) rfl rfl ?_
    refine AA.pure 18 rfl hok (by kernel_rfl) (fun w' b' => R.index rfl rfl rfl (I.ixS1c rfl rfl (by omega))) rfl rfl ?_
    refine AA.pure 19 rfl hok (by kernel_rfl) (fun w' b' => R.load rfl rfl (I.ld1 rfl (fzc5 w' b'))) rfl rfl ?_
    refine AA.pure 20 rfl hok (by kernel_rfl) (fun w' b' => R.move rfl rfl) rfl rfl ?_
    refine AA.pure 21 rfl hok (by kernel_rfl) (fun w' b' => R.index rfl rfl rfl (I.ixS1c rfl rfl (by omega))) rfl rfl ?_
    refine AA.pure 22 rfl hok (by kernel_rfl) (fun w' b' => R.load rfl rfl (I.ld1 rfl (fzc6 w' b'))) rfl rfl ?_
    refine AA.pure 23 rfl hok (by kernel_rfl) (fun w' b' => R.buildV rfl rfl (v := .agg #[Value.int IntKind.u64 ↑(wd ws 5), Value.int IntKind.u64 ↑(wd ws 6)]) (fun _ => by kernel_rfl)) rfl rfl ?_
    refine AA.two 24 28 (by kernel_rfl) ?_ ?_
    refine SR.call rfl (R.call rfl rfl rfl) rfl rfl (rof_T _ _ _ _ _ _ _ (by first | assumption | omega)) ?_
    rintro e Wb34 ⟨rfl, bb33⟩
    have zbb33 := bb33.size
    replace bb30 := bb30.trans (bb33.mono bb30.size)
    replace rb4 := rb4.up bb33
    replace bb1 := bb1.trans (bb33.mono bb1.size)
    replace q := q.trans (bb33.mono q.size)
    replace hv := hv.up bb33
    replace c1 := cell_up c1 bb33
    replace c2 := cell_up c2 bb33
    replace c3 := cell_up c3 bb33
    replace c4 := cell_up c4 bb33
    replace c5 := cell_up c5 bb33
    replace c6 := cell_up c6 bb33
    replace hok := hok.trans (bkept bb33 (fun j h => by have := h.1; have := hok.size; omega))
    have yb35 := hok.size
    refine ⟨_, rfl, hok, ?_⟩
    refine AA.pure 25 rfl hok (by kernel_rfl) (fun w' b' => R.move rfl rfl) rfl rfl ?_
    refine AA.pure 26 rfl hok (by kernel_rfl) (fun w' b' => R.extract rfl rfl rfl) rfl rfl ?_
    refine AA.pure 27 rfl hok (by kernel_rfl) (fun w' b' => R.extract rfl rfl rfl) rfl rfl ?_
    refine AA.one 28 (by kernel_rfl) ?_
    have lb36 := rb4.lt
    refine ZR.alloc ([Value.int IntKind.i64 0, Value.int IntKind.i64 0, Value.int IntKind.i64 0, Value.int IntKind.i64 0, Value.int IntKind.u64 0, Value.int IntKind.u64 0, Value.int IntKind.i64 0, Value.int IntKind.i64 0, Value.int IntKind.i64 0, Value.int IntKind.i64 0]) rfl rfl rfl rfl rfl rfl ?_
    intro Wb38 gb39 egb39 rb40 zb41 bb37
    replace bb33 := bb33.trans (bb37.mono bb33.size)
    replace bb30 := bb30.trans (bb37.mono bb30.size)
    replace rb4 := rb4.up bb37
    replace bb1 := bb1.trans (bb37.mono bb1.size)
    replace q := q.trans (bb37.mono q.size)
    replace hv := hv.up bb37
    replace c1 := cell_up c1 bb37
    replace c2 := cell_up c2 bb37
    replace c3 := cell_up c3 bb37
    replace c4 := cell_up c4 bb37
    replace c5 := cell_up c5 bb37
    replace c6 := cell_up c6 bb37
    replace hok := hok.trans (bkept bb37 (fun j h => by have := h.1; have := hok.size; omega))
    have yb42 := hok.size
    refine ⟨hok, ?_⟩
    refine AA.one 29 (by kernel_rfl) ?_
    refine ZR.storeN (vs := [Value.int IntKind.i64 ↑(wd ws 1), Value.int IntKind.i64 ↑(wd ws 2), Value.int IntKind.i64 ↑(wd ws 3), Value.int IntKind.i64 ↑(wd ws 4), Value.int IntKind.u64 ↑(wd ws 5), Value.int IntKind.u64 ↑(wd ws 6), Value.int IntKind.i64 9, Value.int IntKind.i64 (9 + ↑(wd ws 2) / 4), Value.int IntKind.i64 (9 + ↑(wd ws 2) / 4 + ↑(wd ws 3) / 4), Value.int IntKind.i64 (10 + ↑(wd ws 2) / 4 + ↑(wd ws 3) / 4)]) rfl rfl rfl rfl rfl rb40 (by exact Nat.le_of_ble_eq_true rfl) (ones_of rfl) rfl rfl ?_
    intro Wb44 rb45 bb43 zb46
    have hlbb43 := rb40.lt
    replace rb45 : RowL Wb44 _ 27 [Value.int IntKind.i64 ↑(wd ws 1), Value.int IntKind.i64 ↑(wd ws 2), Value.int IntKind.i64 ↑(wd ws 3), Value.int IntKind.i64 ↑(wd ws 4), Value.int IntKind.u64 ↑(wd ws 5), Value.int IntKind.u64 ↑(wd ws 6), Value.int IntKind.i64 9, Value.int IntKind.i64 (9 + ↑(wd ws 2) / 4), Value.int IntKind.i64 (9 + ↑(wd ws 2) / 4 + ↑(wd ws 3) / 4), Value.int IntKind.i64 (10 + ↑(wd ws 2) / 4 + ↑(wd ws 3) / 4)] := rb45
    clear rb40
    replace bb37 := bb37.grown bb43 bb37.size (by rintro k ⟨⟩; omega)
    replace bb33 := bb33.grown bb43 bb33.size (by rintro k ⟨⟩; omega)
    replace bb30 := bb30.grown bb43 bb30.size (by rintro k ⟨⟩; omega)
    replace rb4 := rb4.gr bb43 (by have := rb4.lt; omega)
    replace bb1 := bb1.grown bb43 bb1.size (by rintro k ⟨⟩; omega)
    replace q := q.grown bb43 q.size (by rintro k ⟨⟩; omega)
    replace hv := hv.gr bb43 (by omega)
    replace c1 := cell_gr c1 bb43 (by omega)
    replace c2 := cell_gr c2 bb43 (by omega)
    replace c3 := cell_gr c3 bb43 (by omega)
    replace c4 := cell_gr c4 bb43 (by omega)
    replace c5 := cell_gr c5 bb43 (by omega)
    replace c6 := cell_gr c6 bb43 (by omega)
    replace hok := hok.trans (grown_kept bb43 (fun j h => by have := h.1; have := hok.size; omega) (fun j h e => by cases e; have h2 := h.1; have h3 := h.2; omega))
    have rb40 := rb45
    clear rb45
    refine ⟨hok, ?_⟩
    refine AA.pure 30 rfl hok (by kernel_rfl) (fun w' b' => R.assign rfl rfl) rfl rfl ?_
    refine AA.done rfl ?_
    clear fzrb4 fzc1 fzc2 fzc3 fzc4 fzc5 fzc6 hok
    exact EE.weak (Jb25 _ _ ⟨_, rfl, (by first | assumption | omega), (by first | assumption | omega), (by first | assumption | omega), (by first | assumption | omega), (by first | assumption | omega), (by first | assumption | omega), (by first | assumption | omega), (by first | assumption | omega), (by first | assumption | omega), (by first | assumption | omega), (by first | assumption | omega), (by first | assumption | omega), (by first | assumption | omega), (by first | assumption | omega)⟩) ⟨rfl, rfl, rfl, rfl, rfl, rfl, rfl, rfl, rfl, rfl, rfl, rfl, rfl, rfl, rfl, rfl, rfl, rfl, rfl, rfl, rfl, rfl, rfl, rfl, rfl, rfl, rfl, rfl, rfl, rfl, rfl, rfl, trivial⟩
    have lb47 := rb4.lt
    refine ZR.alloc ([Value.int IntKind.i64 0, Value.int IntKind.i64 0, Value.int IntKind.i64 0, Value.int IntKind.i64 0, Value.int IntKind.u64 0, Value.int IntKind.u64 0, Value.int IntKind.i64 0, Value.int IntKind.i64 0, Value.int IntKind.i64 0, Value.int IntKind.i64 0]) rfl rfl rfl rfl rfl rfl ?_
    intro Wb49 gb50 egb50 rb51 zb52 bb48
    replace bb30 := bb30.trans (bb48.mono bb30.size)
    replace rb4 := rb4.up bb48
    replace bb1 := bb1.trans (bb48.mono bb1.size)
    replace q := q.trans (bb48.mono q.size)
    replace hv := hv.up bb48
    replace c1 := cell_up c1 bb48
    replace c2 := cell_up c2 bb48
    replace c3 := cell_up c3 bb48
    replace c4 := cell_up c4 bb48
    replace c5 := cell_up c5 bb48
    replace c6 := cell_up c6 bb48
    replace hok := hok.trans (bkept bb48 (fun j h => by have := h.1; have := hok.size; omega))
    have yb53 := hok.size
    refine ⟨hok, ?_⟩
    refine AA.one 24 (by kernel_rfl) ?_
    refine SR.call rfl (R.call rfl rfl rfl) rfl rfl (rof_T _ _ _ _ _ _ _ (by first | assumption | omega)) ?_
    rintro e Wb55 ⟨rfl, bb54⟩
    have zbb54 := bb54.size
    replace rb51 := rb51.up bb54
    replace bb48 := bb48.trans (bb54.mono bb48.size)
    replace bb30 := bb30.trans (bb54.mono bb30.size)
    replace rb4 := rb4.up bb54
    replace bb1 := bb1.trans (bb54.mono bb1.size)
    replace q := q.trans (bb54.mono q.size)
    replace hv := hv.up bb54
    replace c1 := cell_up c1 bb54
    replace c2 := cell_up c2 bb54
    replace c3 := cell_up c3 bb54
    replace c4 := cell_up c4 bb54
    replace c5 := cell_up c5 bb54
    replace c6 := cell_up c6 bb54
    replace hok := hok.trans (bkept bb54 (fun j h => by have := h.1; have := hok.size; omega))
    have yb56 := hok.size
    refine ⟨_, rfl, hok, ?_⟩
    refine AA.pure 25 rfl hok (by kernel_rfl) (fun w' b' => R.move rfl rfl) rfl rfl ?_
    refine AA.pure 26 rfl hok (by kernel_rfl) (fun w' b' => R.extract rfl rfl rfl) rfl rfl ?_
    refine AA.pure 27 rfl hok (by kernel_rfl) (fun w' b' => R.extract rfl rfl rfl) rfl rfl ?_
    refine AA.one 29 (by kernel_rfl) ?_
    refine ZR.storeN (vs := [Value.int IntKind.i64 ↑(wd ws 1), Value.int IntKind.i64 ↑(wd ws 2), Value.int IntKind.i64 ↑(wd ws 3), Value.int IntKind.i64 ↑(wd ws 4), Value.int IntKind.u64 ↑(wd ws 5), Value.int IntKind.u64 ↑(wd ws 6), Value.int IntKind.i64 9, Value.int IntKind.i64 (9 + ↑(wd ws 2) / 4), Value.int IntKind.i64 (9 + ↑(wd ws 2) / 4 + ↑(wd ws 3) / 4), Value.int IntKind.i64 (10 + ↑(wd ws 2) / 4 + ↑(wd ws 3) / 4)]) rfl rfl rfl rfl rfl rb51 (by exact Nat.le_of_ble_eq_true rfl) (ones_of rfl) rfl rfl ?_
    intro Wb58 rb59 bb57 zb60
    have hlbb57 := rb51.lt
    replace rb59 : RowL Wb58 _ 27 [Value.int IntKind.i64 ↑(wd ws 1), Value.int IntKind.i64 ↑(wd ws 2), Value.int IntKind.i64 ↑(wd ws 3), Value.int IntKind.i64 ↑(wd ws 4), Value.int IntKind.u64 ↑(wd ws 5), Value.int IntKind.u64 ↑(wd ws 6), Value.int IntKind.i64 9, Value.int IntKind.i64 (9 + ↑(wd ws 2) / 4), Value.int IntKind.i64 (9 + ↑(wd ws 2) / 4 + ↑(wd ws 3) / 4), Value.int IntKind.i64 (10 + ↑(wd ws 2) / 4 + ↑(wd ws 3) / 4)] := rb59
    clear rb51
    replace bb48 := bb48.grown bb57 bb48.size (by rintro k ⟨⟩; omega)
    replace bb30 := bb30.grown bb57 bb30.size (by rintro k ⟨⟩; omega)
    replace rb4 := rb4.gr bb57 (by have := rb4.lt; omega)
    replace bb1 := bb1.grown bb57 bb1.size (by rintro k ⟨⟩; omega)
    replace q := q.grown bb57 q.size (by rintro k ⟨⟩; omega)
    replace hv := hv.gr bb57 (by omega)
    replace c1 := cell_gr c1 bb57 (by omega)
    replace c2 := cell_gr c2 bb57 (by omega)
    replace c3 := cell_gr c3 bb57 (by omega)
    replace c4 := cell_gr c4 bb57 (by omega)
    replace c5 := cell_gr c5 bb57 (by omega)
    replace c6 := cell_gr c6 bb57 (by omega)
    replace hok := hok.trans (grown_kept bb57 (fun j h => by have := h.1; have := hok.size; omega) (fun j h e => by cases e; have h2 := h.1; have h3 := h.2; omega))
    have rb51 := rb59
    clear rb59
    refine ⟨hok, ?_⟩
    refine AA.pure 30 rfl hok (by kernel_rfl) (fun w' b' => R.assign rfl rfl) rfl rfl ?_
    refine AA.done rfl ?_
    clear fzrb4 fzc1 fzc2 fzc3 fzc4 fzc5 fzc6 hok
    exact EE.weak (Jb25 _ _ ⟨_, rfl, (by first | assumption | omega), (by first | assumption | omega), (by first | assumption | omega), (by first | assumption | omega), (by first | assumption | omega), (by first | assumption | omega), (by first | assumption | omega), (by first | assumption | omega), (by first | assumption | omega), (by first | assumption | omega), (by first | assumption | omega), (by first | assumption | omega), (by first | assumption | omega), (by first | assumption | omega)⟩) ⟨rfl, rfl, rfl, rfl, rfl, rfl, rfl, rfl, rfl, rfl, rfl, rfl, rfl, rfl, rfl, rfl, rfl, rfl, rfl, rfl, rfl, rfl, rfl, rfl, rfl, rfl, rfl, rfl, rfl, rfl, rfl, rfl, trivial⟩
  focus
    refine X.fn Try.func23 rfl (n := 93) rfl rfl ?_
    refine CC.seq ?_
    refine CC.region ?_
    refine LL.alloc ([Value.int IntKind.i64 0, Value.int IntKind.i64 0, Value.int IntKind.i64 0, Value.int IntKind.i64 0, Value.int IntKind.u64 0, Value.int IntKind.u64 0, Value.int IntKind.i64 0, Value.int IntKind.i64 0, Value.int IntKind.i64 0, Value.int IntKind.i64 0]) rfl rfl rfl rfl rfl ?_
    intro Wc2 gc3 egc3 rc4 zc5 bc1
    replace q := q.trans (bc1.mono q.size)
    replace hv := hv.up bc1
    replace c1 := cell_up c1 bc1
    replace c2 := cell_up c2 bc1
    replace c3 := cell_up c3 bc1
    replace c4 := cell_up c4 bc1
    replace c5 := cell_up c5 bc1
    replace c6 := cell_up c6 bc1
    refine LL.val (R.assign rfl rfl) rfl rfl rfl ?_
    refine LL.nilS ?_
    refine CC.seq ?_
    refine CC.seq ?_
    refine CC.region ?_
    refine LL.val (R.move rfl rfl) rfl rfl rfl ?_
    refine LL.val (R.len rfl rfl rfl rfl) rfl rfl rfl ?_
    refine LL.val (R.ltF rfl rfl rfl (by omega)) rfl rfl rfl ?_
    refine LL.val (R.move rfl rfl) rfl rfl rfl ?_
    refine LL.val (R.move rfl rfl) rfl rfl rfl ?_
    refine LL.val (R.index rfl rfl rfl (I.ixS1c rfl rfl (by omega))) rfl rfl rfl ?_
    refine LL.val (R.load rfl rfl (I.ld1 rfl (by assumption))) rfl rfl rfl ?_
    refine LL.val (R.gtF rfl rfl rfl (by omega)) rfl rfl rfl ?_
    refine LL.val (R.pick rfl rfl rfl) rfl rfl rfl ?_
    refine LL.val (R.move rfl rfl) rfl rfl rfl ?_
    refine LL.val (R.move rfl rfl) rfl rfl rfl ?_
    refine LL.val (R.index rfl rfl rfl (I.ixS1c rfl rfl (by omega))) rfl rfl rfl ?_
    refine LL.val (R.load rfl rfl (I.ld1 rfl (by assumption))) rfl rfl rfl ?_
    refine LL.val (R.gtF rfl rfl rfl (by omega)) rfl rfl rfl ?_
    refine LL.val (R.pick rfl rfl rfl) rfl rfl rfl ?_
    refine LL.val (R.move rfl rfl) rfl rfl rfl ?_
    refine LL.val (R.move rfl rfl) rfl rfl rfl ?_
    refine LL.val (R.index rfl rfl rfl (I.ixS1c rfl rfl (by omega))) rfl rfl rfl ?_
    refine LL.val (R.load rfl rfl (I.ld1 rfl (by assumption))) rfl rfl rfl ?_
    refine LL.val (R.gtF rfl rfl rfl (by omega)) rfl rfl rfl ?_
    refine LL.val (R.pick rfl rfl rfl) rfl rfl rfl ?_
    refine LL.val (R.move rfl rfl) rfl rfl rfl ?_
    refine LL.val (R.move rfl rfl) rfl rfl rfl ?_
    refine LL.val (R.index rfl rfl rfl (I.ixS1c rfl rfl (by omega))) rfl rfl rfl ?_
    refine LL.val (R.load rfl rfl (I.ld1 rfl (by assumption))) rfl rfl rfl ?_
    refine LL.val (R.gtF rfl rfl rfl (by omega)) rfl rfl rfl ?_
    refine LL.val (R.pick rfl rfl rfl) rfl rfl rfl ?_
    refine LL.nilS ?_
    refine CC.no rfl ?_
    refine CC.skip ?_
    refine EE.thenN ?_
    refine CC.seq ?_
    refine CC.join (fun l_ Wc20 => ∃ (gc15 : Nat), l_ = [(0, Value.slice (some { block := bk, off := off }) N cap), (2, Value.pointer (some { block := gc3, off := 0 })), (3, Value.int IntKind.i64 0), (8, Value.slice (some { block := bk, off := off }) N cap), (9, Value.int IntKind.i64 ↑N), (10, Value.bool false), (11, Value.bool false), (12, Value.slice (some { block := bk, off := off }) N cap), (13, Value.pointer (some { block := bk, off := off + 1 })), (14, Value.int IntKind.u64 ↑(wd ws 1)), (15, Value.bool false), (16, Value.bool false), (17, Value.bool false), (18, Value.slice (some { block := bk, off := off }) N cap), (19, Value.pointer (some { block := bk, off := off + 2 })), (20, Value.int IntKind.u64 ↑(wd ws 2)), (21, Value.bool false), (22, Value.bool false), (23, Value.bool false), (24, Value.slice (some { block := bk, off := off }) N cap), (25, Value.pointer (some { block := bk, off := off + 3 })), (26, Value.int IntKind.u64 ↑(wd ws 3)), (27, Value.bool false), (28, Value.bool false), (29, Value.bool false), (30, Value.slice (some { block := bk, off := off }) N cap), (31, Value.pointer (some { block := bk, off := off + 4 })), (32, Value.int IntKind.u64 ↑(wd ws 4)), (33, Value.bool false), (34, Value.bool false), (4, Value.pointer (some { block := gc15, off := 0 })), (5, Value.int IntKind.i64 0)] ∧ (Below Wc2.heap.size Wc2 Wc20) ∧ (RowL Wc20 gc3 27 [Value.int IntKind.i64 0, Value.int IntKind.i64 0, Value.int IntKind.i64 0, Value.int IntKind.i64 0, Value.int IntKind.u64 0, Value.int IntKind.u64 0, Value.int IntKind.i64 0, Value.int IntKind.i64 0, Value.int IntKind.i64 0, Value.int IntKind.i64 0]) ∧ (Below w.heap.size w Wc20) ∧ (Below w.heap.size w Wc20) ∧ (Reads Wc20 (Value.slice (some { block := bk, off := off }) N cap) (ints IntKind.u64 ws)) ∧ (Wc20.cell? { block := bk, off := off + 1 } = some (Value.int IntKind.u64 ↑(wd ws 1))) ∧ (Wc20.cell? { block := bk, off := off + 2 } = some (Value.int IntKind.u64 ↑(wd ws 2))) ∧ (Wc20.cell? { block := bk, off := off + 3 } = some (Value.int IntKind.u64 ↑(wd ws 3))) ∧ (Wc20.cell? { block := bk, off := off + 4 } = some (Value.int IntKind.u64 ↑(wd ws 4))) ∧ (Wc20.cell? { block := bk, off := off + 5 } = some (Value.int IntKind.u64 ↑(wd ws 5))) ∧ (Wc20.cell? { block := bk, off := off + 6 } = some (Value.int IntKind.u64 ↑(wd ws 6))) ∧ (RowL Wc20 gc15 27 [Value.int IntKind.i64 ↑(wd ws 1), Value.int IntKind.i64 ↑(wd ws 2), Value.int IntKind.i64 ↑(wd ws 3), Value.int IntKind.i64 ↑(wd ws 4), Value.int IntKind.u64 ↑(wd ws 5), Value.int IntKind.u64 ↑(wd ws 6), Value.int IntKind.i64 9, Value.int IntKind.i64 (9 + ↑(wd ws 2) / 4), Value.int IntKind.i64 (9 + ↑(wd ws 2) / 4 + ↑(wd ws 3) / 4), Value.int IntKind.i64 (10 + ↑(wd ws 2) / 4 + ↑(wd ws 3) / 4)]) ∧ (Wc2.heap.size ≤ Wc20.heap.size) ∧ (Wc2.heap.size ≤ gc15)) (fun Jc25 => ?_) ?restJc25
    case' restJc25 =>
      clear rc4
      clear bc1
      clear q
      clear hv
      clear c1
      clear c2
      clear c3
      clear c4
      clear c5
      clear c6
      rintro _ Wc20 ⟨gc15, rfl, bc6, rc4, bc1, q, hv, c1, c2, c3, c4, c5, c6, rc16, zc23, zc24⟩
    refine EE.thenN ?_
    refine CC.seq ?_
    refine CC.seq ?_
    refine CC.region ?_
    refine LL.val (R.move rfl rfl) rfl rfl rfl ?_
    refine LL.val (R.neF rfl rfl rfl (by omega)) rfl rfl rfl ?_
    refine LL.val (R.move rfl rfl) rfl rfl rfl ?_
    refine LL.val (R.move rfl rfl) rfl rfl rfl ?_
    refine LL.val (R.len rfl rfl rfl rfl) rfl rfl rfl ?_
    refine LL.val (R.field rfl rfl (I.fld rfl)) rfl rfl rfl ?_
    refine LL.val (R.field rfl rfl (I.fld rfl)) rfl rfl rfl ?_
    refine LL.val (R.load rfl rfl (I.ld1 rfl (RowL.cell rc16 rfl))) rfl rfl rfl ?_
    refine LL.val (R.mulcN rfl rfl rfl rfl (by omega)) rfl rfl rfl ?_
    refine LL.val (R.neF rfl rfl rfl (by omega)) rfl rfl rfl ?_
    refine LL.val (R.pick rfl rfl rfl) rfl rfl rfl ?_
    refine LL.nilS ?_
    refine CC.no rfl ?_
    refine CC.skip ?_
    refine EE.thenN ?_
    refine CC.seq ?_
    refine CC.region ?_
    refine LL.val (R.load rfl rfl (I.ldNc (vs := [Value.int IntKind.i64 ↑(wd ws 1), Value.int IntKind.i64 ↑(wd ws 2), Value.int IntKind.i64 ↑(wd ws 3), Value.int IntKind.i64 ↑(wd ws 4), Value.int IntKind.u64 ↑(wd ws 5), Value.int IntKind.u64 ↑(wd ws 6), Value.int IntKind.i64 9, Value.int IntKind.i64 (9 + ↑(wd ws 2) / 4), Value.int IntKind.i64 (9 + ↑(wd ws 2) / 4 + ↑(wd ws 3) / 4), Value.int IntKind.i64 (10 + ↑(wd ws 2) / 4 + ↑(wd ws 3) / 4)]) (RowL.cells rc16 rfl) (by rfl) (by rfl))) rfl rfl rfl ?_
    rotate_left
    refine CC.freeZ (fun W_ j => j < W_.heap.size ∧ (True)) (by kernel_rfl) (by kernel_rfl) (fun Wc27 bc26 zc28 => ?_)
    replace rc4 := rc4.up bc26
    replace bc1 := bc1.trans (bc26.mono bc1.size)
    replace q := q.trans (bc26.mono q.size)
    replace hv := hv.up bc26
    replace c1 := cell_up c1 bc26
    replace c2 := cell_up c2 bc26
    replace c3 := cell_up c3 bc26
    replace c4 := cell_up c4 bc26
    replace c5 := cell_up c5 bc26
    replace c6 := cell_up c6 bc26
    have hok : Kept (fun j => j < Wc27.heap.size ∧ (True)) Wc27 Wc27 := Kept.refl _ _
    have fzrc4 := fzRow (K := fun j => j < Wc27.heap.size ∧ (True)) rc4 ⟨rc4.lt, (by first | trivial | omega)⟩
    have fzc1 := fzCell (K := fun j => j < Wc27.heap.size ∧ (True)) c1 ⟨World.block_lt_of_cell? _ _ c1, (by first | trivial | omega)⟩
    have fzc2 := fzCell (K := fun j => j < Wc27.heap.size ∧ (True)) c2 ⟨World.block_lt_of_cell? _ _ c2, (by first | trivial | omega)⟩
    have fzc3 := fzCell (K := fun j => j < Wc27.heap.size ∧ (True)) c3 ⟨World.block_lt_of_cell? _ _ c3, (by first | trivial | omega)⟩
    have fzc4 := fzCell (K := fun j => j < Wc27.heap.size ∧ (True)) c4 ⟨World.block_lt_of_cell? _ _ c4, (by first | trivial | omega)⟩
    have fzc5 := fzCell (K := fun j => j < Wc27.heap.size ∧ (True)) c5 ⟨World.block_lt_of_cell? _ _ c5, (by first | trivial | omega)⟩
    have fzc6 := fzCell (K := fun j => j < Wc27.heap.size ∧ (True)) c6 ⟨World.block_lt_of_cell? _ _ c6, (by first | trivial | omega)⟩
    refine AA.pure 0 rfl hok (by kernel_rfl) (fun w' b' => R.move rfl rfl) rfl rfl ?_
    refine AA.pure 1 rfl hok (by kernel_rfl) (fun w' b' => R.index rfl rfl rfl (I.ixS1c rfl rfl (by omega))) rfl rfl ?_
    refine AA.pure 2 rfl hok (by kernel_rfl) (fun w' b' => R.load rfl rfl (I.ld1 rfl (fzc1 w' b'))) rfl rfl ?_
    refine AA.pure 3 rfl hok (by kernel_rfl) (fun w' b' => R.convI rfl rfl rfl rfl (wrapI (by omega) (by omega))) rfl rfl ?_
    refine AA.pure 4 rfl hok (by kernel_rfl) (fun w' b' => R.move rfl rfl) rfl rfl ?_
    refine AA.pure 5 rfl hok (by kernel_rfl) (fun w' b' => R.index rfl rfl rfl (I.ixS1c rfl rfl (by omega))) rfl rfl ?_
    refine AA.pure 6 rfl hok (by kernel_rfl) (fun w' b' => R.load rfl rfl (I.ld1 rfl (fzc2 w' b'))) rfl rfl ?_
    refine AA.pure 7 rfl hok (by kernel_rfl) (fun w' b' => R.convI rfl rfl rfl rfl (wrapI (by omega) (by omega))) rfl rfl ?_
    refine AA.pure 8 rfl hok (by kernel_rfl) (fun w' b' => R.move rfl rfl) rfl rfl ?_
    refine AA.pure 9 rfl hok (by kernel_rfl) (fun w' b' => R.index rfl rfl rfl (I.ixS1c rfl rfl (by omega))) rfl rfl ?_
    refine AA.pure 10 rfl hok (by kernel_rfl) (fun w' b' => R.load rfl rfl (I.ld1 rfl (fzc3 w' b'))) rfl rfl ?_
    refine AA.pure 11 rfl hok (by kernel_rfl) (fun w' b' => R.convI rfl rfl rfl rfl (wrapI (by omega) (by omega))) rfl rfl ?_
    refine AA.pure 12 rfl hok (by kernel_rfl) (fun w' b' => R.move rfl rfl) rfl rfl ?_
    refine AA.pure 13 rfl hok (by kernel_rfl) (fun w' b' => R.index rfl rfl rfl (I.ixS1c rfl rfl (by omega))) rfl rfl ?_
    refine AA.pure 14 rfl hok (by kernel_rfl) (fun w' b' => R.load rfl rfl (I.ld1 rfl (fzc4 w' b'))) rfl rfl ?_
    refine AA.pure 15 rfl hok (by kernel_rfl) (fun w' b' => R.convI rfl rfl rfl rfl (wrapI (by omega) (by omega))) rfl rfl ?_
    refine AA.pure 16 rfl hok (by kernel_rfl) (fun w' b' => R.buildV rfl rfl (v := .agg #[Value.int IntKind.i64 ↑(wd ws 1), Value.int IntKind.i64 ↑(wd ws 2), Value.int IntKind.i64 ↑(wd ws 3), Value.int IntKind.i64 ↑(wd ws 4)]) (fun _ => by kernel_rfl)) rfl rfl ?_
    refine AA.pure 17 rfl hok (by kernel_rfl) (fun w' b' => R.move rfl rfl) rfl rfl ?_
    refine AA.pure 18 rfl hok (by kernel_rfl) (fun w' b' => R.index rfl rfl rfl (I.ixS1c rfl rfl (by omega))) rfl rfl ?_
    refine AA.pure 19 rfl hok (by kernel_rfl) (fun w' b' => R.load rfl rfl (I.ld1 rfl (fzc5 w' b'))) rfl rfl ?_
    refine AA.pure 20 rfl hok (by kernel_rfl) (fun w' b' => R.move rfl rfl) rfl rfl ?_
    refine AA.pure 21 rfl hok (by kernel_rfl) (fun w' b' => R.index rfl rfl rfl (I.ixS1c rfl rfl (by omega))) rfl rfl ?_
    refine AA.pure 22 rfl hok (by kernel_rfl) (fun w' b' => R.load rfl rfl (I.ld1 rfl (fzc6 w' b'))) rfl rfl ?_
    refine AA.pure 23 rfl hok (by kernel_rfl) (fun w' b' => R.buildV rfl rfl (v := .agg #[Value.int IntKind.u64 ↑(wd ws 5), Value.int IntKind.u64 ↑(wd ws 6)]) (fun _ => by kernel_rfl)) rfl rfl ?_
    refine AA.two 24 28 (by kernel_rfl) ?_ ?_
    refine SR.call rfl (R.call rfl rfl rfl) rfl rfl (rof_T _ _ _ _ _ _ _ (by first | assumption | omega)) ?_
    rintro e Wc30 ⟨rfl, bc29⟩
    have zbc29 := bc29.size
    replace bc26 := bc26.trans (bc29.mono bc26.size)
    replace rc4 := rc4.up bc29
    replace bc1 := bc1.trans (bc29.mono bc1.size)
    replace q := q.trans (bc29.mono q.size)
    replace hv := hv.up bc29
    replace c1 := cell_up c1 bc29
    replace c2 := cell_up c2 bc29
    replace c3 := cell_up c3 bc29
    replace c4 := cell_up c4 bc29
    replace c5 := cell_up c5 bc29
    replace c6 := cell_up c6 bc29
    replace hok := hok.trans (bkept bc29 (fun j h => by have := h.1; have := hok.size; omega))
    have yc31 := hok.size
    refine ⟨_, rfl, hok, ?_⟩
    refine AA.pure 25 rfl hok (by kernel_rfl) (fun w' b' => R.move rfl rfl) rfl rfl ?_
    refine AA.pure 26 rfl hok (by kernel_rfl) (fun w' b' => R.extract rfl rfl rfl) rfl rfl ?_
    refine AA.pure 27 rfl hok (by kernel_rfl) (fun w' b' => R.extract rfl rfl rfl) rfl rfl ?_
    refine AA.one 28 (by kernel_rfl) ?_
    have lc32 := rc4.lt
    refine ZR.alloc ([Value.int IntKind.i64 0, Value.int IntKind.i64 0, Value.int IntKind.i64 0, Value.int IntKind.i64 0, Value.int IntKind.u64 0, Value.int IntKind.u64 0, Value.int IntKind.i64 0, Value.int IntKind.i64 0, Value.int IntKind.i64 0, Value.int IntKind.i64 0]) rfl rfl rfl rfl rfl rfl ?_
    intro Wc34 gc35 egc35 rc36 zc37 bc33
    replace bc29 := bc29.trans (bc33.mono bc29.size)
    replace bc26 := bc26.trans (bc33.mono bc26.size)
    replace rc4 := rc4.up bc33
    replace bc1 := bc1.trans (bc33.mono bc1.size)
    replace q := q.trans (bc33.mono q.size)
    replace hv := hv.up bc33
    replace c1 := cell_up c1 bc33
    replace c2 := cell_up c2 bc33
    replace c3 := cell_up c3 bc33
    replace c4 := cell_up c4 bc33
    replace c5 := cell_up c5 bc33
    replace c6 := cell_up c6 bc33
    replace hok := hok.trans (bkept bc33 (fun j h => by have := h.1; have := hok.size; omega))
    have yc38 := hok.size
    refine ⟨hok, ?_⟩
    refine AA.one 29 (by kernel_rfl) ?_
    refine ZR.storeN (vs := [Value.int IntKind.i64 ↑(wd ws 1), Value.int IntKind.i64 ↑(wd ws 2), Value.int IntKind.i64 ↑(wd ws 3), Value.int IntKind.i64 ↑(wd ws 4), Value.int IntKind.u64 ↑(wd ws 5), Value.int IntKind.u64 ↑(wd ws 6), Value.int IntKind.i64 9, Value.int IntKind.i64 (9 + ↑(wd ws 2) / 4), Value.int IntKind.i64 (9 + ↑(wd ws 2) / 4 + ↑(wd ws 3) / 4), Value.int IntKind.i64 (10 + ↑(wd ws 2) / 4 + ↑(wd ws 3) / 4)]) rfl rfl rfl rfl rfl rc36 (by exact Nat.le_of_ble_eq_true rfl) (ones_of rfl) rfl rfl ?_
    intro Wc40 rc41 bc39 zc42
    have hlbc39 := rc36.lt
    replace rc41 : RowL Wc40 _ 27 [Value.int IntKind.i64 ↑(wd ws 1), Value.int IntKind.i64 ↑(wd ws 2), Value.int IntKind.i64 ↑(wd ws 3), Value.int IntKind.i64 ↑(wd ws 4), Value.int IntKind.u64 ↑(wd ws 5), Value.int IntKind.u64 ↑(wd ws 6), Value.int IntKind.i64 9, Value.int IntKind.i64 (9 + ↑(wd ws 2) / 4), Value.int IntKind.i64 (9 + ↑(wd ws 2) / 4 + ↑(wd ws 3) / 4), Value.int IntKind.i64 (10 + ↑(wd ws 2) / 4 + ↑(wd ws 3) / 4)] := rc41
    clear rc36
    replace bc33 := bc33.grown bc39 bc33.size (by rintro k ⟨⟩; omega)
    replace bc29 := bc29.grown bc39 bc29.size (by rintro k ⟨⟩; omega)
    replace bc26 := bc26.grown bc39 bc26.size (by rintro k ⟨⟩; omega)
    replace rc4 := rc4.gr bc39 (by have := rc4.lt; omega)
    replace bc1 := bc1.grown bc39 bc1.size (by rintro k ⟨⟩; omega)
    replace q := q.grown bc39 q.size (by rintro k ⟨⟩; omega)
    replace hv := hv.gr bc39 (by omega)
    replace c1 := cell_gr c1 bc39 (by omega)
    replace c2 := cell_gr c2 bc39 (by omega)
    replace c3 := cell_gr c3 bc39 (by omega)
    replace c4 := cell_gr c4 bc39 (by omega)
    replace c5 := cell_gr c5 bc39 (by omega)
    replace c6 := cell_gr c6 bc39 (by omega)
    replace hok := hok.trans (grown_kept bc39 (fun j h => by have := h.1; have := hok.size; omega) (fun j h e => by cases e; have h2 := h.1; have h3 := h.2; omega))
    have rc36 := rc41
    clear rc41
    refine ⟨hok, ?_⟩
    refine AA.pure 30 rfl hok (by kernel_rfl) (fun w' b' => R.assign rfl rfl) rfl rfl ?_
    refine AA.done rfl ?_
    clear fzrc4 fzc1 fzc2 fzc3 fzc4 fzc5 fzc6 hok
    exact EE.weak (Jc25 _ _ ⟨_, rfl, (by first | assumption | omega), (by first | assumption | omega), (by first | assumption | omega), (by first | assumption | omega), (by first | assumption | omega), (by first | assumption | omega), (by first | assumption | omega), (by first | assumption | omega), (by first | assumption | omega), (by first | assumption | omega), (by first | assumption | omega), (by first | assumption | omega), (by first | assumption | omega), (by first | assumption | omega)⟩) ⟨rfl, rfl, rfl, rfl, rfl, rfl, rfl, rfl, rfl, rfl, rfl, rfl, rfl, rfl, rfl, rfl, rfl, rfl, rfl, rfl, rfl, rfl, rfl, rfl, rfl, rfl, rfl, rfl, rfl, rfl, rfl, rfl, trivial⟩
    have lc43 := rc4.lt
    refine ZR.alloc ([Value.int IntKind.i64 0, Value.int IntKind.i64 0, Value.int IntKind.i64 0, Value.int IntKind.i64 0, Value.int IntKind.u64 0, Value.int IntKind.u64 0, Value.int IntKind.i64 0, Value.int IntKind.i64 0, Value.int IntKind.i64 0, Value.int IntKind.i64 0]) rfl rfl rfl rfl rfl rfl ?_
    intro Wc45 gc46 egc46 rc47 zc48 bc44
    replace bc26 := bc26.trans (bc44.mono bc26.size)
    replace rc4 := rc4.up bc44
    replace bc1 := bc1.trans (bc44.mono bc1.size)
    replace q := q.trans (bc44.mono q.size)
    replace hv := hv.up bc44
    replace c1 := cell_up c1 bc44
    replace c2 := cell_up c2 bc44
    replace c3 := cell_up c3 bc44
    replace c4 := cell_up c4 bc44
    replace c5 := cell_up c5 bc44
    replace c6 := cell_up c6 bc44
    replace hok := hok.trans (bkept bc44 (fun j h => by have := h.1; have := hok.size; omega))
    have yc49 := hok.size
    refine ⟨hok, ?_⟩
    refine AA.one 24 (by kernel_rfl) ?_
    refine SR.call rfl (R.call rfl rfl rfl) rfl rfl (rof_T _ _ _ _ _ _ _ (by first | assumption | omega)) ?_
    rintro e Wc51 ⟨rfl, bc50⟩
    have zbc50 := bc50.size
    replace rc47 := rc47.up bc50
    replace bc44 := bc44.trans (bc50.mono bc44.size)
    replace bc26 := bc26.trans (bc50.mono bc26.size)
    replace rc4 := rc4.up bc50
    replace bc1 := bc1.trans (bc50.mono bc1.size)
    replace q := q.trans (bc50.mono q.size)
    replace hv := hv.up bc50
    replace c1 := cell_up c1 bc50
    replace c2 := cell_up c2 bc50
    replace c3 := cell_up c3 bc50
    replace c4 := cell_up c4 bc50
    replace c5 := cell_up c5 bc50
    replace c6 := cell_up c6 bc50
    replace hok := hok.trans (bkept bc50 (fun j h => by have := h.1; have := hok.size; omega))
    have yc52 := hok.size
    refine ⟨_, rfl, hok, ?_⟩
    refine AA.pure 25 rfl hok (by kernel_rfl) (fun w' b' => R.move rfl rfl) rfl rfl ?_
    refine AA.pure 26 rfl hok (by kernel_rfl) (fun w' b' => R.extract rfl rfl rfl) rfl rfl ?_
    refine AA.pure 27 rfl hok (by kernel_rfl) (fun w' b' => R.extract rfl rfl rfl) rfl rfl ?_
    refine AA.one 29 (by kernel_rfl) ?_
    refine ZR.storeN (vs := [Value.int IntKind.i64 ↑(wd ws 1), Value.int IntKind.i64 ↑(wd ws 2), Value.int IntKind.i64 ↑(wd ws 3), Value.int IntKind.i64 ↑(wd ws 4), Value.int IntKind.u64 ↑(wd ws 5), Value.int IntKind.u64 ↑(wd ws 6), Value.int IntKind.i64 9, Value.int IntKind.i64 (9 + ↑(wd ws 2) / 4), Value.int IntKind.i64 (9 + ↑(wd ws 2) / 4 + ↑(wd ws 3) / 4), Value.int IntKind.i64 (10 + ↑(wd ws 2) / 4 + ↑(wd ws 3) / 4)]) rfl rfl rfl rfl rfl rc47 (by exact Nat.le_of_ble_eq_true rfl) (ones_of rfl) rfl rfl ?_
    intro Wc54 rc55 bc53 zc56
    have hlbc53 := rc47.lt
    replace rc55 : RowL Wc54 _ 27 [Value.int IntKind.i64 ↑(wd ws 1), Value.int IntKind.i64 ↑(wd ws 2), Value.int IntKind.i64 ↑(wd ws 3), Value.int IntKind.i64 ↑(wd ws 4), Value.int IntKind.u64 ↑(wd ws 5), Value.int IntKind.u64 ↑(wd ws 6), Value.int IntKind.i64 9, Value.int IntKind.i64 (9 + ↑(wd ws 2) / 4), Value.int IntKind.i64 (9 + ↑(wd ws 2) / 4 + ↑(wd ws 3) / 4), Value.int IntKind.i64 (10 + ↑(wd ws 2) / 4 + ↑(wd ws 3) / 4)] := rc55
    clear rc47
    replace bc44 := bc44.grown bc53 bc44.size (by rintro k ⟨⟩; omega)
    replace bc26 := bc26.grown bc53 bc26.size (by rintro k ⟨⟩; omega)
    replace rc4 := rc4.gr bc53 (by have := rc4.lt; omega)
    replace bc1 := bc1.grown bc53 bc1.size (by rintro k ⟨⟩; omega)
    replace q := q.grown bc53 q.size (by rintro k ⟨⟩; omega)
    replace hv := hv.gr bc53 (by omega)
    replace c1 := cell_gr c1 bc53 (by omega)
    replace c2 := cell_gr c2 bc53 (by omega)
    replace c3 := cell_gr c3 bc53 (by omega)
    replace c4 := cell_gr c4 bc53 (by omega)
    replace c5 := cell_gr c5 bc53 (by omega)
    replace c6 := cell_gr c6 bc53 (by omega)
    replace hok := hok.trans (grown_kept bc53 (fun j h => by have := h.1; have := hok.size; omega) (fun j h e => by cases e; have h2 := h.1; have h3 := h.2; omega))
    have rc47 := rc55
    clear rc55
    refine ⟨hok, ?_⟩
    refine AA.pure 30 rfl hok (by kernel_rfl) (fun w' b' => R.assign rfl rfl) rfl rfl ?_
    refine AA.done rfl ?_
    clear fzrc4 fzc1 fzc2 fzc3 fzc4 fzc5 fzc6 hok
    exact EE.weak (Jc25 _ _ ⟨_, rfl, (by first | assumption | omega), (by first | assumption | omega), (by first | assumption | omega), (by first | assumption | omega), (by first | assumption | omega), (by first | assumption | omega), (by first | assumption | omega), (by first | assumption | omega), (by first | assumption | omega), (by first | assumption | omega), (by first | assumption | omega), (by first | assumption | omega), (by first | assumption | omega), (by first | assumption | omega)⟩) ⟨rfl, rfl, rfl, rfl, rfl, rfl, rfl, rfl, rfl, rfl, rfl, rfl, rfl, rfl, rfl, rfl, rfl, rfl, rfl, rfl, rfl, rfl, rfl, rfl, rfl, rfl, rfl, rfl, rfl, rfl, rfl, rfl, trivial⟩
  refine LL.call (R.call rfl rfl rfl) rfl rfl rfl (rsuper_any (wd ws 1) (wd ws 2) (wd ws 3) (wd ws 4) (wd ws 5) (wd ws 6) _ _ _ _ _ (by omega)) ?_
  rintro e2 W1 ⟨v, rfl, o, b1⟩
  refine ⟨_, rfl, ?_⟩
  replace q := q.trans (b1.mono q.size)
  replace rc4 := rc4.up b1
  replace rc16 := rc16.up b1
  have h1 := reads_of_owns o
  obtain ⟨a2, cap2, rfl, hcap2, hcells2⟩ := h1.intsN (n := 64) (supL_len _ _ _ _ _ _)
  obtain ⟨b2, off2, rfl, hbl2, hc2⟩ := hcells2 (by omega)
  clear c1 c2 c3 c4 c5 c6 o h1 hcells2
  obtain ⟨S, hS⟩ : ∃ S, supL (wd ws 1) (wd ws 2) (wd ws 3) (wd ws 4) (wd ws 5) (wd ws 6) = S := ⟨_, rfl⟩
  have hSl : S.length = 64 := by rw [← hS]; exact supL_len _ _ _ _ _ _
  rw [hS] at hc2
  have hok2 : ok = true ↔ ws.take 64 = S := by
    rw [hiff]
    unfold rdOk
    rw [hS]
    exact ⟨fun h => h.2.2.2, fun h => ⟨by omega, hof, by omega, h⟩⟩
  clear hiff hof hv
  refine LL.val (R.assign rfl rfl) rfl rfl rfl ?_
  refine LL.nilS ?_
  refine CC.seq ?_
  refine CC.seq ?_
  refine CC.region ?_
  refine LL.val (R.assign rfl rfl) rfl rfl rfl ?_
  refine LL.nilS ?_
  refine CC.block ?_
  refine CC.loop (α := Nat) (fun i => [(0, .slice (some ⟨bk, off, none⟩) N cap), (2, .pointer (some ⟨gc3, 0, none⟩)), (4, .pointer (some ⟨gc15, 0, none⟩)), (6, .slice (some ⟨b2, off2, none⟩) 64 cap2), (7, .int .i64 (i : Int))]) (fun i W => i ≤ 64 ∧ Below W1.heap.size W1 W ∧ ws.take i = S.take i) (fun i => 64 - i) 0 ⟨rfl, rfl, rfl, rfl, rfl, trivial⟩ ⟨by omega, Below.refl _ _, by simp⟩ ?_
  rintro i W ⟨hi, b3, ht⟩
  replace rc4 := rc4.up b3
  replace rc16 := rc16.up b3
  replace q := q.trans (b3.mono q.size)
  by_cases hlt : i < 64
  case neg =>
    obtain rfl : i = 64 := by omega
    rw [List.take_of_length_le (l := S) (by omega)] at ht
    rw [hok2.2 ht]
    refine CC.seq ?_
    refine CC.seq ?_
    refine CC.region ?_
    refine LL.val (R.move rfl rfl) rfl rfl rfl ?_
    refine LL.val (R.ltF rfl rfl rfl (by omega)) rfl rfl rfl ?_
    refine LL.nilS ?_
    refine CC.no rfl ?_
    refine CC.exit ?_
    refine EE.thenX ?_
    refine EE.thenX ?_
    refine EE.inX ?_
    refine EE.thenN ?_
    refine CC.seq ?_
    refine CC.region ?_
    refine LL.val (R.load rfl rfl (I.ldNc (vs := [Value.int IntKind.i64 ↑(wd ws 1), Value.int IntKind.i64 ↑(wd ws 2), Value.int IntKind.i64 ↑(wd ws 3), Value.int IntKind.i64 ↑(wd ws 4), Value.int IntKind.u64 ↑(wd ws 5), Value.int IntKind.u64 ↑(wd ws 6), Value.int IntKind.i64 9, Value.int IntKind.i64 (9 + ↑(wd ws 2) / 4), Value.int IntKind.i64 (9 + ↑(wd ws 2) / 4 + ↑(wd ws 3) / 4), Value.int IntKind.i64 (10 + ↑(wd ws 2) / 4 + ↑(wd ws 3) / 4)]) (RowL.cells rc16 rfl) (by rfl) (by rfl))) rfl rfl rfl ?_
    refine LL.storeN (vs := [Value.int IntKind.i64 ↑(wd ws 1), Value.int IntKind.i64 ↑(wd ws 2), Value.int IntKind.i64 ↑(wd ws 3), Value.int IntKind.i64 ↑(wd ws 4), Value.int IntKind.u64 ↑(wd ws 5), Value.int IntKind.u64 ↑(wd ws 6), Value.int IntKind.i64 9, Value.int IntKind.i64 (9 + ↑(wd ws 2) / 4), Value.int IntKind.i64 (9 + ↑(wd ws 2) / 4 + ↑(wd ws 3) / 4), Value.int IntKind.i64 (10 + ↑(wd ws 2) / 4 + ↑(wd ws 3) / 4)]) rfl rfl rfl rfl rc4 (by exact Nat.le_of_ble_eq_true rfl) (ones_of rfl) rfl rfl ?_
    intro We2 re3 be1 ze4
    have hlbe1 := rc4.lt
    replace re3 : RowL We2 _ 27 [Value.int IntKind.i64 ↑(wd ws 1), Value.int IntKind.i64 ↑(wd ws 2), Value.int IntKind.i64 ↑(wd ws 3), Value.int IntKind.i64 ↑(wd ws 4), Value.int IntKind.u64 ↑(wd ws 5), Value.int IntKind.u64 ↑(wd ws 6), Value.int IntKind.i64 9, Value.int IntKind.i64 (9 + ↑(wd ws 2) / 4), Value.int IntKind.i64 (9 + ↑(wd ws 2) / 4 + ↑(wd ws 3) / 4), Value.int IntKind.i64 (10 + ↑(wd ws 2) / 4 + ↑(wd ws 3) / 4)] := re3
    clear rc4
    replace rc16 := rc16.gr be1 (by have := rc16.lt; omega)
    replace q := q.grown be1 q.size (by rintro k ⟨⟩; omega)
    have rc4 := re3
    clear re3
    refine LL.val (R.assign rfl rfl) rfl rfl rfl ?_
    refine LL.nilS ?_
    refine CC.ret ?_
    refine EE.ret2 rfl ⟨_, rfl, lvNc (RowL.cells0 (by assumption)) (by rfl) (by rfl)⟩ rfl ?_
    exact ⟨rfl, q⟩
  have hbw : W.heap[bk]? = w.heap[bk]? := q.block bk hbk
  have c1 : W.cell? ⟨bk, off + i, none⟩ = some (.int .u64 ((ws[i]?.getD 0 : Nat) : Int)) := by rw [World.cell?_of_block hbw]; exact hc i (by omega)
  have c2 : W.cell? ⟨b2, off2 + i, none⟩ = some (.int .u64 ((S[i]?.getD 0 : Nat) : Int)) := (World.cell?_of_block (b3.block b2 hbl2)).trans (hc2 i hlt)
  by_cases hst : ws[i]?.getD 0 = S[i]?.getD 0
  · have hm := take_more ht (by omega) (by omega) hst
    refine CC.seq ?_
    refine CC.seq ?_
    refine CC.region ?_
    refine LL.val (R.move rfl rfl) rfl rfl rfl ?_
    refine LL.val (R.ltT rfl rfl rfl (by omega)) rfl rfl rfl ?_
    refine LL.nilS ?_
    refine CC.yes rfl ?_
    refine CC.skip ?_
    refine EE.thenN ?_
    refine CC.seq ?_
    refine CC.block ?_
    refine CC.seq ?_
    refine CC.quietB (by kernel_rfl) (by kernel_rfl) (fun Wf2 bf1 zf3 => ?_)
    replace b3 := b3.trans (bf1.mono b3.size)
    replace rc4 := rc4.up bf1
    replace rc16 := rc16.up bf1
    replace q := q.trans (bf1.mono q.size)
    replace c1 := cell_up c1 bf1
    replace c2 := cell_up c2 bf1
    refine SS.val (R.move rfl rfl) rfl rfl ?_
    refine SS.val (R.move rfl rfl) rfl rfl ?_
    refine SS.val (R.index rfl rfl rfl (I.ixS1 rfl (by omega))) rfl rfl ?_
    refine SS.val (R.load rfl rfl (I.ld1 rfl (by assumption))) rfl rfl ?_
    refine SS.val (R.move rfl rfl) rfl rfl ?_
    refine SS.val (R.move rfl rfl) rfl rfl ?_
    refine SS.val (R.index rfl rfl rfl (I.ixS1 rfl (by omega))) rfl rfl ?_
    refine SS.val (R.load rfl rfl (I.ld1 rfl (by assumption))) rfl rfl ?_
    refine SS.val (R.neF rfl rfl rfl (by omega)) rfl rfl ?_
    refine SS.nilQ ?_
    refine EE.thenN ?_
    refine CC.no rfl ?_
    refine CC.skip ?_
    refine EE.inN ?_
    refine EE.thenN ?_
    refine CC.region ?_
    refine LL.val (R.move rfl rfl) rfl rfl rfl ?_
    refine LL.val (R.addNc rfl rfl rfl rfl (by omega)) rfl rfl rfl ?_
    refine LL.val (R.assign rfl rfl) rfl rfl rfl ?_
    refine LL.nil ?_
    exact EE.round (i + 1) ⟨rfl, rfl, rfl, rfl, rfl, trivial⟩ ⟨by omega, by assumption, hm⟩ (by omega)
  · have hd : ok = false := by
      cases ok with
      | false => rfl
      | true =>
        exfalso
        apply hst
        have h := hok2.1 rfl
        rw [← h, List.getElem?_take, if_pos hlt]
    rw [hd]
    refine CC.seq ?_
    refine CC.seq ?_
    refine CC.region ?_
    refine LL.val (R.move rfl rfl) rfl rfl rfl ?_
    refine LL.val (R.ltT rfl rfl rfl (by omega)) rfl rfl rfl ?_
    refine LL.nilS ?_
    refine CC.yes rfl ?_
    refine CC.skip ?_
    refine EE.thenN ?_
    refine CC.seq ?_
    refine CC.block ?_
    refine CC.seq ?_
    refine CC.quietB (by kernel_rfl) (by kernel_rfl) (fun Wg2 bg1 zg3 => ?_)
    replace b3 := b3.trans (bg1.mono b3.size)
    replace rc4 := rc4.up bg1
    replace rc16 := rc16.up bg1
    replace q := q.trans (bg1.mono q.size)
    replace c1 := cell_up c1 bg1
    replace c2 := cell_up c2 bg1
    refine SS.val (R.move rfl rfl) rfl rfl ?_
    refine SS.val (R.move rfl rfl) rfl rfl ?_
    refine SS.val (R.index rfl rfl rfl (I.ixS1 rfl (by omega))) rfl rfl ?_
    refine SS.val (R.load rfl rfl (I.ld1 rfl (by assumption))) rfl rfl ?_
    refine SS.val (R.move rfl rfl) rfl rfl ?_
    refine SS.val (R.move rfl rfl) rfl rfl ?_
    refine SS.val (R.index rfl rfl rfl (I.ixS1 rfl (by omega))) rfl rfl ?_
    refine SS.val (R.load rfl rfl (I.ld1 rfl (by assumption))) rfl rfl ?_
    refine SS.val (R.neT rfl rfl rfl (by omega)) rfl rfl ?_
    refine SS.nilQ ?_
    refine EE.thenN ?_
    refine CC.yes rfl ?_
    refine CC.seq ?_
    refine CC.region ?_
    refine LL.val (R.buildV rfl rfl (v := .agg #[Value.int IntKind.i64 0, Value.int IntKind.i64 0, Value.int IntKind.i64 0, Value.int IntKind.i64 0, Value.int IntKind.u64 0, Value.int IntKind.u64 0, Value.int IntKind.i64 0, Value.int IntKind.i64 0, Value.int IntKind.i64 0, Value.int IntKind.i64 0]) (fun _ => by kernel_rfl)) rfl rfl rfl ?_
    refine LL.storeN (vs := [Value.int IntKind.i64 0, Value.int IntKind.i64 0, Value.int IntKind.i64 0, Value.int IntKind.i64 0, Value.int IntKind.u64 0, Value.int IntKind.u64 0, Value.int IntKind.i64 0, Value.int IntKind.i64 0, Value.int IntKind.i64 0, Value.int IntKind.i64 0]) rfl rfl rfl rfl rc4 (by exact Nat.le_of_ble_eq_true rfl) (ones_of rfl) rfl rfl ?_
    intro Wg5 rg6 bg4 zg7
    have hlbg4 := rc4.lt
    replace rg6 : RowL Wg5 _ 27 [Value.int IntKind.i64 0, Value.int IntKind.i64 0, Value.int IntKind.i64 0, Value.int IntKind.i64 0, Value.int IntKind.u64 0, Value.int IntKind.u64 0, Value.int IntKind.i64 0, Value.int IntKind.i64 0, Value.int IntKind.i64 0, Value.int IntKind.i64 0] := rg6
    clear rc4
    replace rc16 := rc16.gr bg4 (by have := rc16.lt; omega)
    replace q := q.grown bg4 q.size (by rintro k ⟨⟩; omega)
    replace c1 := cell_gr c1 bg4 (by omega)
    have rc4 := rg6
    clear rg6
    refine LL.val (R.assign rfl rfl) rfl rfl rfl ?_
    refine LL.nilS ?_
    refine CC.ret ?_
    refine EE.inR ?_
    refine EE.thenR ?_
    refine EE.thenR ?_
    refine EE.inR ?_
    refine EE.thenR ?_
    refine EE.ret2 rfl ⟨_, rfl, lvNc (RowL.cells0 (by assumption)) (by rfl) (by rfl)⟩ rfl ?_
    exact ⟨rfl, q⟩
end Go.Proofs.Ythdgnogpjpoklaa
