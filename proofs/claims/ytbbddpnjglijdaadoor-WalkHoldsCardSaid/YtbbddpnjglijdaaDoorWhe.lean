/- What the statements' walks use: Wk6, Wk7, TClear, TSet, TFld, CellE, Wk8, Wk9, Wk10, Wk12, Wk14, Open, OpenC, EndsW, HoldsW, Lw, ChecksW, Door. -/
import Derived.Test.YtbbddpnjglijdaaDoorRows
import Derived.ProofKit
import Derived.OpenShut
import Derived.ShutString
import Derived.ChangeOld
import Derived.ChangeSame
import Derived.Deep.Slices
import Derived.LaidMore
import Derived.Stop.Joined
import Derived.Lib.LaidTab
import Derived.Shelf.Vars
import Derived.Test.YtbbddpnjglijdaaDoorWha
import Derived.Test.YtbbddpnjglijdaaDoorWhc
import Derived.Test.YtbbddpnjglijdaaDoorWhd
/- walk: doing, Give, Miss (written by genwk6.py). -/
namespace Go.Proofs.YtbbddpnjglijdaaDoor
set_option linter.unusedVariables false
set_option linter.unusedSimpArgs false
open Go.RowKit Go.Shelf
set_option maxRecDepth 100000
set_option maxHeartbeats 8000000
theorem zKeys : KeyE Tryd.prog 29 (.int .i64) (fun z : Int => .int .i64 z) := ⟨by kernel_rfl, fun _ => rfl, fun a b h => by
  simp only [Value.int.injEq, true_and] at h
  exact h⟩
def fK (f : Nat) : Value := .func (.func f) #[] #[]
def doF : Int → Option Nat := putMap (putMap (fun _ => none) 3 (some 50)) 2 (some 51)
theorem doing_any (w : World) : Calls Tryd.prog 40 #[] w fun e w' => ∃ m n, e = .returned (.map (some m)) ∧ MapK (.int .i64) (fun z : Int => .int .i64 z) fK w' m n doF ∧ Below w.heap.size w w' := by
  have q := Below.refl w.heap.size w
  refine X.fn Tryd.func40 rfl (n := 3) rfl rfl ?_
  refine CC.seq ?_
  refine CC.region ?_
  refine LL.val (R.assign rfl rfl) rfl rfl rfl ?_
  refine LL.nilS ?_
  refine CC.seq ?_
  refine CC.region ?_
  (refine LL.makeMap (R.makeMap0 rfl) rfl rfl rfl ?_; intro W25 qb eqb mk zqb b22; replace mk := mk Int Nat (.int .i64) (fun z : Int => .int .i64 z) fK)
  have zb22 := b22.size
  replace q := q.trans (b22.mono q.size)
  (refine LL.mput (.inr rfl) rfl zKeys rfl mk (3 : Int) 50 rfl rfl rfl rfl rfl ?_; intro W39 mq gr37 zz5; replace mk := mq; clear mq)
  have zgr37 := gr37.size
  replace b22 := b22.grown gr37 b22.size (by rintro k ⟨⟩; omega)
  replace q := q.grown gr37 q.size (by rintro k ⟨⟩; omega)
  (refine LL.mput (.inr rfl) rfl zKeys rfl mk (2 : Int) 51 rfl rfl rfl rfl rfl ?_; intro W60 mq gr58 zz5; replace mk := mq; clear mq)
  have zgr58 := gr58.size
  replace b22 := b22.grown gr58 b22.size (by rintro k ⟨⟩; omega)
  replace q := q.grown gr58 q.size (by rintro k ⟨⟩; omega)
  refine LL.val (R.move rfl rfl) rfl rfl rfl ?_
  refine LL.val (R.assign rfl rfl) rfl rfl rfl ?_
  refine LL.nilS ?_
  refine CC.ret ?_
  refine EE.ret _ rfl rfl ?_
  exact ⟨_, _, rfl, mk, q⟩
theorem PsAt.head {w : World} {B g n c : Nat} {a : Option Addr} {p : Bs} {r : List Bs} (h : PsAt w B g (.slice a n c) (p :: r)) : ∃ b off, a = some ⟨b, off, none⟩ ∧ b < B ∧ b ≠ g ∧ ∀ X, PsAt X B g (.slice a n c) (p :: r) → X.cell? ⟨b, off + 0, none⟩ = some (strV p) := by
  obtain ⟨b, off, rfl, hb, cs⟩ := h.r.one stEnc (i := 0) (t := p) rfl
  have hn : 0 < n := by
    obtain ⟨a', c', e, _⟩ := h.r.form rfl
    cases e
    exact Nat.succ_pos _
  have := h.ne _ _ _ rfl hn
  refine ⟨b, off, rfl, this.1, this.2, fun X hX => ?_⟩
  obtain ⟨_, _, e, _, cs⟩ := hX.r.one stEnc (i := 0) (t := p) rfl
  cases e
  exact cs _ rfl
section
variable (g : Nat) {fol : Bool} {dir : Int} {links : Nat} {lv : Value} {p : Bs} {r : List Bs} {w : World} {B : Nat}
theorem miss_run (h : RowL w g 60 (wkL wdZ false dir lv links fol true)) (hp : PsAt w B g lv (p :: r)) (hl : r.length ≤ 50000) : Calls Tryd.prog 13 #[.pointer (some ⟨g, 0, none⟩)] w fun e w' => e = .returned (.int .i64 0) ∧ WkAt w' g (Wk.miss ⟨dir, p :: r, links, fol, none⟩) ∧ Kept (fun j => j < w.heap.size ∧ j ≠ g) w w' := by
  have gw := Gw.refl g w
  have hB := hp.hB
  have hg := h.lt
  obtain ⟨a, c, rfl⟩ := hp.len
  obtain ⟨n, hn⟩ : ∃ n, (p :: r).length = n := ⟨_, rfl⟩
  rw [hn] at h hp
  have hn1 : 0 < n := by rw [← hn]; exact Nat.succ_pos _
  have hrn : r.length = n - 1 := by rw [← hn]; rfl
  obtain ⟨b, off, rfl, hbB, hbg, hc0⟩ := hp.head
  cases r with
  | nil =>
    obtain rfl : 1 = n := hn
    refine X.fn Tryd.func13 rfl (n := 32) rfl rfl ?_
    refine CC.seq ?_
    refine CC.region ?_
    refine LL.val (R.assign rfl rfl) rfl rfl rfl ?_
    refine LL.nilS ?_
    refine CC.seq ?_
    refine CC.seq ?_
    refine CC.region ?_
    refine LL.val (R.move rfl rfl) rfl rfl rfl ?_
    (refine LL.call (R.call rfl rfl rfl) rfl rfl rfl (answered_run g (by assumption)) ?_; rintro e W' ⟨rfl, rfl⟩; refine ⟨_, rfl, ?_⟩)
    refine LL.val (R.assign rfl rfl) rfl rfl rfl ?_
    refine LL.nilS ?_
    refine CC.seq ?_
    refine CC.region ?_
    refine LL.val (R.move rfl rfl) rfl rfl rfl ?_
    refine LL.val (R.neF rfl rfl rfl (by omega)) rfl rfl rfl ?_
    refine LL.nilS ?_
    refine CC.no rfl ?_
    refine CC.skip ?_
    refine EE.thenN ?_
    refine CC.seq ?_
    refine CC.region ?_
    refine LL.val (R.buildV rfl rfl (v := .agg #[Value.int IntKind.i64 270, Value.int IntKind.i64 0, Value.string { data := #[] }, Value.int IntKind.i64 0, Value.int IntKind.i64 0]) (fun _ => by kernel_rfl)) rfl rfl rfl ?_
    have l50 := h.lt
    refine LL.alloc ([Value.int IntKind.i64 0, Value.int IntKind.i64 0, Value.string { data := { toList := [] } }, Value.int IntKind.i64 0, Value.int IntKind.i64 0]) rfl rfl rfl rfl rfl ?_
    intro W52 g53 eg53 r54 z55 b51
    replace gw := gw.up b51
    replace h := h.up b51
    replace hp := hp.up b51
    refine LL.storeN (vs := [Value.int IntKind.i64 270, Value.int IntKind.i64 0, Value.string { data := #[] }, Value.int IntKind.i64 0, Value.int IntKind.i64 0]) rfl rfl rfl rfl r54 (by exact Nat.le_of_ble_eq_true rfl) (ones_of rfl) rfl rfl ?_
    intro W64 r65 b63 z66
    have hlb63 := r54.lt
    replace r65 : RowL W64 _ 31 [Value.int IntKind.i64 270, Value.int IntKind.i64 0, Value.string { data := #[] }, Value.int IntKind.i64 0, Value.int IntKind.i64 0] := r65
    clear r54
    replace b51 := b51.grown b63 b51.size (by rintro k ⟨⟩; omega)
    replace gw := gw.gr b63 (by omega)
    replace h := h.gr b63 (by have := h.lt; omega)
    replace hp := hp.gr b63 (by omega)
    have r54 := r65
    clear r65
    refine LL.nilS ?_
    refine CC.seq ?_
    refine CC.seq ?_
    refine CC.region ?_
    refine LL.val (R.move rfl rfl) rfl rfl rfl ?_
    refine LL.val (R.nil rfl rfl) rfl rfl rfl ?_
    refine LL.val (R.field rfl rfl (I.fld rfl)) rfl rfl rfl ?_
    refine LL.val (R.load rfl rfl (I.ld1 rfl (RowL.cell h rfl))) rfl rfl rfl ?_
    refine LL.val (R.len rfl rfl rfl rfl) rfl rfl rfl ?_
    refine LL.val (R.eqT rfl rfl rfl (by omega)) rfl rfl rfl ?_
    refine LL.nilS ?_
    refine CC.yes rfl ?_
    refine CC.freeZ (fun W_ j => j < W_.heap.size ∧ (j ≠ g53)) (by kernel_rfl) (by kernel_rfl) (fun W110 b109 z111 => ?_)
    replace b51 := b51.trans (b109.mono b51.size)
    replace gw := gw.up b109
    replace h := h.up b109
    replace hp := hp.up b109
    replace r54 := r54.up b109
    have hok : Kept (fun j => j < W110.heap.size ∧ (j ≠ g53)) W110 W110 := Kept.refl _ _
    have fzh := fzRow (K := fun j => j < W110.heap.size ∧ (j ≠ g53)) h ⟨h.lt, (by first | trivial | omega)⟩
    refine AA.pure 0 rfl hok (by kernel_rfl) (fun w' b' => R.move rfl rfl) rfl rfl ?_
    refine AA.pure 1 rfl hok (by kernel_rfl) (fun w' b' => R.nil rfl rfl) rfl rfl ?_
    refine AA.pure 2 rfl hok (by kernel_rfl) (fun w' b' => R.field rfl rfl (I.fld rfl)) rfl rfl ?_
    refine AA.pure 3 rfl hok (by kernel_rfl) (fun w' b' => R.load rfl rfl (I.ld1 rfl (RowL.cell (fzh w' b') rfl))) rfl rfl ?_
    refine AA.pure 4 rfl hok (by kernel_rfl) (fun w' b' => R.move rfl rfl) rfl rfl ?_
    refine AA.pure 5 rfl hok (by kernel_rfl) (fun w' b' => R.nil rfl rfl) rfl rfl ?_
    refine AA.pure 6 rfl hok (by kernel_rfl) (fun w' b' => R.field rfl rfl (I.fld rfl)) rfl rfl ?_
    refine AA.pure 7 rfl hok (by kernel_rfl) (fun w' b' => R.load rfl rfl (I.ld1 rfl (RowL.cell (fzh w' b') rfl))) rfl rfl ?_
    refine AA.pure 8 rfl hok (by kernel_rfl) (fun w' b' => R.index rfl rfl rfl (I.ixS1c rfl rfl (by omega))) rfl rfl ?_
    refine AA.pure 9 rfl hok (by kernel_rfl) (fun w' b' => R.load rfl rfl (I.ld1 rfl (hc0 _ (hp.keepG b' fun j h1 h2 => ⟨by omega, by omega⟩)))) rfl rfl ?_
    refine AA.pure 10 rfl hok (by kernel_rfl) (fun w' b' => R.field rfl rfl (I.fld rfl)) rfl rfl ?_
    refine AA.one 11 (by kernel_rfl) ?_
    refine ZR.store rfl rfl rfl rfl rfl r54 (by exact Nat.le_of_ble_eq_true rfl) rfl rfl rfl rfl ?_
    intro W120 r121 b119 z122
    have hlb119 := r54.lt
    replace r121 : RowL W120 _ 31 [Value.int IntKind.i64 270, Value.int IntKind.i64 dir, Value.string { data := #[] }, Value.int IntKind.i64 0, Value.int IntKind.i64 0] := r121
    clear r54
    replace b51 := b51.grown b119 b51.size (by rintro k ⟨⟩; omega)
    replace gw := gw.gr b119 (by omega)
    replace h := h.gr b119 (by have := h.lt; omega)
    replace hp := hp.gr b119 (by omega)
    replace hok := hok.trans (grown_kept b119 (fun j h => by have := h.1; have := hok.size; omega) (fun j h e => by cases e; have h2 := h.1; have h3 := h.2; omega))
    have r54 := r121
    clear r121
    refine ⟨hok, ?_⟩
    refine AA.pure 12 rfl hok (by kernel_rfl) (fun w' b' => R.field rfl rfl (I.fld rfl)) rfl rfl ?_
    refine AA.one 13 (by kernel_rfl) ?_
    refine ZR.store rfl rfl rfl rfl rfl r54 (by exact Nat.le_of_ble_eq_true rfl) rfl rfl rfl rfl ?_
    intro W131 r132 b130 z133
    have hlb130 := r54.lt
    replace r132 : RowL W131 _ 31 [Value.int IntKind.i64 270, Value.int IntKind.i64 dir, Value.string { data := List.toArray p }, Value.int IntKind.i64 0, Value.int IntKind.i64 0] := r132
    clear r54
    replace b51 := b51.grown b130 b51.size (by rintro k ⟨⟩; omega)
    replace gw := gw.gr b130 (by omega)
    replace h := h.gr b130 (by have := h.lt; omega)
    replace hp := hp.gr b130 (by omega)
    replace hok := hok.trans (grown_kept b130 (fun j h => by have := h.1; have := hok.size; omega) (fun j h e => by cases e; have h2 := h.1; have h3 := h.2; omega))
    have r54 := r132
    clear r132
    refine ⟨hok, ?_⟩
    refine AA.done rfl ?_
    clear fzh hok
    refine EE.thenN ?_
    refine CC.seq ?_
    refine CC.region ?_
    refine LL.val (R.move rfl rfl) rfl rfl rfl ?_
    refine LL.val (R.load rfl rfl (I.ldNc (vs := [Value.int IntKind.i64 270, Value.int IntKind.i64 dir, Value.string { data := List.toArray p }, Value.int IntKind.i64 0, Value.int IntKind.i64 0]) (RowL.cells r54 rfl) (by rfl) (by rfl))) rfl rfl rfl ?_
    (refine LL.call (R.call rfl rfl rfl) rfl rfl rfl (end_any g (270, dir, p, 0, 0) h) ?_; rintro e W151 ⟨rfl, hN, t150⟩; clear h; have h := hN; clear hN; refine ⟨_, rfl, ?_⟩)
    have zt150 := t150.size
    replace gw := gw.kept t150 ⟨by omega, by omega⟩
    replace hp := hp.kept t150 ⟨by omega, by omega⟩
    replace r54 := r54.kept t150 ⟨r54.lt, by omega⟩
    refine LL.nilS ?_
    refine CC.seq ?_
    refine CC.region ?_
    refine LL.val (R.assign rfl rfl) rfl rfl rfl ?_
    refine LL.nilS ?_
    refine CC.ret ?_
    refine EE.ret _ rfl rfl ?_
    exact ⟨rfl, WkAt.fin h hp (by simp) _ _ _ rfl, gw⟩
  | cons p2 r2 =>
    have hn2 : 1 < n := by rw [← hn]; simp
    refine X.fn Tryd.func13 rfl (n := 32) rfl rfl ?_
    refine CC.seq ?_
    refine CC.region ?_
    refine LL.val (R.assign rfl rfl) rfl rfl rfl ?_
    refine LL.nilS ?_
    refine CC.seq ?_
    refine CC.seq ?_
    refine CC.region ?_
    refine LL.val (R.move rfl rfl) rfl rfl rfl ?_
    (refine LL.call (R.call rfl rfl rfl) rfl rfl rfl (answered_run g (by assumption)) ?_; rintro e W' ⟨rfl, rfl⟩; refine ⟨_, rfl, ?_⟩)
    refine LL.val (R.assign rfl rfl) rfl rfl rfl ?_
    refine LL.nilS ?_
    refine CC.seq ?_
    refine CC.region ?_
    refine LL.val (R.move rfl rfl) rfl rfl rfl ?_
    refine LL.val (R.neF rfl rfl rfl (by omega)) rfl rfl rfl ?_
    refine LL.nilS ?_
    refine CC.no rfl ?_
    refine CC.skip ?_
    refine EE.thenN ?_
    refine CC.seq ?_
    refine CC.region ?_
    refine LL.val (R.buildV rfl rfl (v := .agg #[Value.int IntKind.i64 270, Value.int IntKind.i64 0, Value.string { data := #[] }, Value.int IntKind.i64 0, Value.int IntKind.i64 0]) (fun _ => by kernel_rfl)) rfl rfl rfl ?_
    have la50 := h.lt
    refine LL.alloc ([Value.int IntKind.i64 0, Value.int IntKind.i64 0, Value.string { data := { toList := [] } }, Value.int IntKind.i64 0, Value.int IntKind.i64 0]) rfl rfl rfl rfl rfl ?_
    intro Wa52 ga53 ega53 ra54 za55 ba51
    replace gw := gw.up ba51
    replace h := h.up ba51
    replace hp := hp.up ba51
    refine LL.storeN (vs := [Value.int IntKind.i64 270, Value.int IntKind.i64 0, Value.string { data := #[] }, Value.int IntKind.i64 0, Value.int IntKind.i64 0]) rfl rfl rfl rfl ra54 (by exact Nat.le_of_ble_eq_true rfl) (ones_of rfl) rfl rfl ?_
    intro Wa64 ra65 ba63 za66
    have hlba63 := ra54.lt
    replace ra65 : RowL Wa64 _ 31 [Value.int IntKind.i64 270, Value.int IntKind.i64 0, Value.string { data := #[] }, Value.int IntKind.i64 0, Value.int IntKind.i64 0] := ra65
    clear ra54
    replace ba51 := ba51.grown ba63 ba51.size (by rintro k ⟨⟩; omega)
    replace gw := gw.gr ba63 (by omega)
    replace h := h.gr ba63 (by have := h.lt; omega)
    replace hp := hp.gr ba63 (by omega)
    have ra54 := ra65
    clear ra65
    refine LL.nilS ?_
    refine CC.seq ?_
    refine CC.seq ?_
    refine CC.region ?_
    refine LL.val (R.move rfl rfl) rfl rfl rfl ?_
    refine LL.val (R.nil rfl rfl) rfl rfl rfl ?_
    refine LL.val (R.field rfl rfl (I.fld rfl)) rfl rfl rfl ?_
    refine LL.val (R.load rfl rfl (I.ld1 rfl (RowL.cell h rfl))) rfl rfl rfl ?_
    refine LL.val (R.len rfl rfl rfl rfl) rfl rfl rfl ?_
    refine LL.val (R.eqF rfl rfl rfl (by omega)) rfl rfl rfl ?_
    refine LL.nilS ?_
    refine CC.no rfl ?_
    refine CC.skip ?_
    refine EE.thenN ?_
    refine CC.seq ?_
    refine CC.region ?_
    refine LL.val (R.move rfl rfl) rfl rfl rfl ?_
    refine LL.val (R.load rfl rfl (I.ldNc (vs := [Value.int IntKind.i64 270, Value.int IntKind.i64 0, Value.string { data := #[] }, Value.int IntKind.i64 0, Value.int IntKind.i64 0]) (RowL.cells ra54 rfl) (by rfl) (by rfl))) rfl rfl rfl ?_
    (refine LL.call (R.call rfl rfl rfl) rfl rfl rfl (end_any g (270, 0, [], 0, 0) h) ?_; rintro e Wa126 ⟨rfl, hN, ta125⟩; clear h; have h := hN; clear hN; refine ⟨_, rfl, ?_⟩)
    have zta125 := ta125.size
    replace gw := gw.kept ta125 ⟨by omega, by omega⟩
    replace hp := hp.kept ta125 ⟨by omega, by omega⟩
    replace ra54 := ra54.kept ta125 ⟨ra54.lt, by omega⟩
    refine LL.nilS ?_
    refine CC.seq ?_
    refine CC.region ?_
    refine LL.val (R.assign rfl rfl) rfl rfl rfl ?_
    refine LL.nilS ?_
    refine CC.ret ?_
    refine EE.ret _ rfl rfl ?_
    exact ⟨rfl, WkAt.fin h hp (by rw [hn]; omega) _ _ _ rfl, gw⟩
theorem give_run (f : Fd) (h : RowL w g 60 (wkL wdZ false dir lv links fol true)) (hp : PsAt w B g lv (p :: r)) (hl : r.length ≤ 40000) (hm : Mx w) (hg0 : 0 < g) (hk : links ≤ 8) (ht : f.2.1 = 3 → f.2.2.length ≤ 1048576) : Calls Tryd.prog 14 #[.pointer (some ⟨g, 0, none⟩), fdV f] w fun e w' => e = .returned (.int .i64 0) ∧ WkAt w' g (Wk.give ⟨dir, p :: r, links, fol, none⟩ f) ∧ Kept (fun j => j < w.heap.size ∧ j ≠ g) w w' := by
  have gw := Gw.refl g w
  have hB := hp.hB
  have hg := h.lt
  obtain ⟨a, c, rfl⟩ := hp.len
  obtain ⟨n, hn⟩ : ∃ n, (p :: r).length = n := ⟨_, rfl⟩
  rw [hn] at h hp
  have hn1 : 0 < n := by rw [← hn]; exact Nat.succ_pos _
  have hrn : r.length = n - 1 := by rw [← hn]; rfl
  obtain ⟨b, off, rfl, hbB, hbg, hc0⟩ := hp.head
  obtain ⟨a', c', hsl, htl⟩ := tail_ex hp hn
  unfold Wk.give
  dsimp only
  by_cases hup : p = [46, 46]
  · rw [if_pos hup]
    refine X.fn Tryd.func14 rfl (n := 51) rfl rfl ?_
    refine CC.seq ?_
    refine CC.region ?_
    have l8 := h.lt
    refine LL.box [Value.int IntKind.i64 f.1, Value.int IntKind.i64 f.2.1, strV f.2.2] rfl rfl rfl rfl rfl ?_
    intro W10 g11 eg11 r12 z13 b9
    replace hm := hm.up b9
    replace gw := gw.up b9
    replace hp := hp.up b9
    replace h := h.up b9
    refine LL.val (R.assign rfl rfl) rfl rfl rfl ?_
    refine LL.nilS ?_
    refine CC.seq ?_
    refine CC.seq ?_
    refine CC.region ?_
    refine LL.val (R.move rfl rfl) rfl rfl rfl ?_
    (refine LL.call (R.call rfl rfl rfl) rfl rfl rfl (answered_run g (by assumption)) ?_; rintro e W' ⟨rfl, rfl⟩; refine ⟨_, rfl, ?_⟩)
    refine LL.val (R.assign rfl rfl) rfl rfl rfl ?_
    refine LL.nilS ?_
    refine CC.seq ?_
    refine CC.region ?_
    refine LL.val (R.move rfl rfl) rfl rfl rfl ?_
    refine LL.val (R.neF rfl rfl rfl (by omega)) rfl rfl rfl ?_
    refine LL.nilS ?_
    refine CC.no rfl ?_
    refine CC.skip ?_
    refine EE.thenN ?_
    refine CC.seq ?_
    refine CC.region ?_
    refine LL.val (R.move rfl rfl) rfl rfl rfl ?_
    refine LL.val (R.nil rfl rfl) rfl rfl rfl ?_
    refine LL.val (R.field rfl rfl (I.fld rfl)) rfl rfl rfl ?_
    refine LL.val (R.load rfl rfl (I.ld1 rfl (RowL.cell h rfl))) rfl rfl rfl ?_
    refine LL.val (R.index rfl rfl rfl (I.ixS1c rfl rfl (by omega))) rfl rfl rfl ?_
    (refine LL.val (R.load rfl rfl (I.ld1 rfl (hc0 _ hp))) rfl rfl rfl ?_)
    refine LL.val (R.assign rfl rfl) rfl rfl rfl ?_
    refine LL.nilS ?_
    refine CC.seq ?_
    refine CC.region ?_
    refine LL.val (R.move rfl rfl) rfl rfl rfl ?_
    refine LL.val (R.move rfl rfl) rfl rfl rfl ?_
    refine LL.val (R.nil rfl rfl) rfl rfl rfl ?_
    refine LL.val (R.field rfl rfl (I.fld rfl)) rfl rfl rfl ?_
    refine LL.val (R.load rfl rfl (I.ld1 rfl (RowL.cell h rfl))) rfl rfl rfl ?_
    (refine LL.val (R.slice rfl rfl rfl rfl rfl (hsl _ _ _ _ rfl)) rfl rfl rfl ?_)
    refine LL.val (R.nil rfl rfl) rfl rfl rfl ?_
    refine LL.val (R.field rfl rfl (I.fld rfl)) rfl rfl rfl ?_
    refine LL.store rfl rfl rfl rfl h (by exact Nat.le_of_ble_eq_true rfl) rfl rfl rfl rfl ?_
    intro W155 r156 b154 z157
    have hlb154 := h.lt
    replace r156 : RowL W155 _ 60 [Value.int IntKind.i64 0, Value.int IntKind.i64 0, strV [], Value.int IntKind.i64 0, Value.int IntKind.i64 0, Value.bool false, Value.int IntKind.i64 dir, Value.slice a' (n - 1) c', Value.int IntKind.i64 ↑links, Value.bool fol, Value.bool true] := r156
    clear h
    replace r12 := r12.gr b154 (by have := r12.lt; omega)
    replace hm := hm.gr b154 (by have := hm.lt; omega)
    replace gw := gw.gr b154 (by omega)
    replace hp := hp.gr b154 (by omega)
    have h := r156
    clear r156
    refine LL.nilS ?_
    refine CC.seq ?_
    refine CC.seq ?_
    refine CC.region ?_
    refine LL.val (R.move rfl rfl) rfl rfl rfl ?_
    (refine LL.val (R.eqS (a := p) (b := [46, 46]) (c := true) rfl rfl rfl (by simp [hup])) rfl rfl rfl ?_)
    refine LL.nilS ?_
    refine CC.yes rfl ?_
    refine CC.seq ?_
    refine CC.region ?_
    refine LL.val (R.move rfl rfl) rfl rfl rfl ?_
    refine LL.val (R.field rfl rfl (I.fld rfl)) rfl rfl rfl ?_
    refine LL.val (R.load rfl rfl (I.ld1 rfl (RowL.cell r12 rfl))) rfl rfl rfl ?_
    refine LL.val (R.nil rfl rfl) rfl rfl rfl ?_
    refine LL.val (R.field rfl rfl (I.fld rfl)) rfl rfl rfl ?_
    refine LL.store rfl rfl rfl rfl h (by exact Nat.le_of_ble_eq_true rfl) rfl rfl rfl rfl ?_
    intro W208 r209 b207 z210
    have hlb207 := h.lt
    replace r209 : RowL W208 _ 60 [Value.int IntKind.i64 0, Value.int IntKind.i64 0, strV [], Value.int IntKind.i64 0, Value.int IntKind.i64 0, Value.bool false, Value.int IntKind.i64 f.1, Value.slice a' (n - 1) c', Value.int IntKind.i64 ↑links, Value.bool fol, Value.bool true] := r209
    clear h
    replace r12 := r12.gr b207 (by have := r12.lt; omega)
    replace hm := hm.gr b207 (by have := hm.lt; omega)
    replace gw := gw.gr b207 (by omega)
    replace hp := hp.gr b207 (by omega)
    have h := r209
    clear r209
    refine LL.nilS ?_
    refine CC.seq ?_
    refine CC.region ?_
    refine LL.val (R.move rfl rfl) rfl rfl rfl ?_
    (refine LL.call (R.call rfl rfl rfl) rfl rfl rfl (on_any g h (htl _ hp) (by omega)) ?_; rintro e W221 ⟨rfl, hW, t220⟩; refine ⟨_, rfl, ?_⟩)
    have zt220 := t220.size
    replace r12 := r12.kept t220 ⟨r12.lt, by omega⟩
    replace hm := hm.kept t220 ⟨by omega, by omega⟩
    replace gw := gw.kept t220 ⟨by omega, by omega⟩
    replace hp := hp.kept t220 ⟨by omega, by omega⟩
    refine LL.nilS ?_
    refine CC.seq ?_
    refine CC.region ?_
    refine LL.val (R.assign rfl rfl) rfl rfl rfl ?_
    refine LL.nilS ?_
    refine CC.ret ?_
    refine EE.thenR ?_
    refine EE.ret _ rfl rfl ?_
    exact ⟨rfl, hW, gw⟩
  rw [if_neg hup]
  have L3 : doF 3 = some 50 := rfl
  have L2 : doF 2 = some 51 := rfl
  by_cases h3 : f.2.1 = 3
  · by_cases hg2 : r ≠ [] ∨ fol = true
    · rw [if_pos ⟨h3, hg2⟩]
      refine X.fn Tryd.func14 rfl (n := 51) rfl rfl ?_
      refine CC.seq ?_
      refine CC.region ?_
      have la8 := h.lt
      refine LL.box [Value.int IntKind.i64 f.1, Value.int IntKind.i64 f.2.1, strV f.2.2] rfl rfl rfl rfl rfl ?_
      intro Wa10 ga11 ega11 ra12 za13 ba9
      replace hm := hm.up ba9
      replace gw := gw.up ba9
      replace hp := hp.up ba9
      replace h := h.up ba9
      refine LL.val (R.assign rfl rfl) rfl rfl rfl ?_
      refine LL.nilS ?_
      refine CC.seq ?_
      refine CC.seq ?_
      refine CC.region ?_
      refine LL.val (R.move rfl rfl) rfl rfl rfl ?_
      (refine LL.call (R.call rfl rfl rfl) rfl rfl rfl (answered_run g (by assumption)) ?_; rintro e W' ⟨rfl, rfl⟩; refine ⟨_, rfl, ?_⟩)
      refine LL.val (R.assign rfl rfl) rfl rfl rfl ?_
      refine LL.nilS ?_
      refine CC.seq ?_
      refine CC.region ?_
      refine LL.val (R.move rfl rfl) rfl rfl rfl ?_
      refine LL.val (R.neF rfl rfl rfl (by omega)) rfl rfl rfl ?_
      refine LL.nilS ?_
      refine CC.no rfl ?_
      refine CC.skip ?_
      refine EE.thenN ?_
      refine CC.seq ?_
      refine CC.region ?_
      refine LL.val (R.move rfl rfl) rfl rfl rfl ?_
      refine LL.val (R.nil rfl rfl) rfl rfl rfl ?_
      refine LL.val (R.field rfl rfl (I.fld rfl)) rfl rfl rfl ?_
      refine LL.val (R.load rfl rfl (I.ld1 rfl (RowL.cell h rfl))) rfl rfl rfl ?_
      refine LL.val (R.index rfl rfl rfl (I.ixS1c rfl rfl (by omega))) rfl rfl rfl ?_
      (refine LL.val (R.load rfl rfl (I.ld1 rfl (hc0 _ hp))) rfl rfl rfl ?_)
      refine LL.val (R.assign rfl rfl) rfl rfl rfl ?_
      refine LL.nilS ?_
      refine CC.seq ?_
      refine CC.region ?_
      refine LL.val (R.move rfl rfl) rfl rfl rfl ?_
      refine LL.val (R.move rfl rfl) rfl rfl rfl ?_
      refine LL.val (R.nil rfl rfl) rfl rfl rfl ?_
      refine LL.val (R.field rfl rfl (I.fld rfl)) rfl rfl rfl ?_
      refine LL.val (R.load rfl rfl (I.ld1 rfl (RowL.cell h rfl))) rfl rfl rfl ?_
      (refine LL.val (R.slice rfl rfl rfl rfl rfl (hsl _ _ _ _ rfl)) rfl rfl rfl ?_)
      refine LL.val (R.nil rfl rfl) rfl rfl rfl ?_
      refine LL.val (R.field rfl rfl (I.fld rfl)) rfl rfl rfl ?_
      refine LL.store rfl rfl rfl rfl h (by exact Nat.le_of_ble_eq_true rfl) rfl rfl rfl rfl ?_
      intro Wa155 ra156 ba154 za157
      have hlba154 := h.lt
      replace ra156 : RowL Wa155 _ 60 [Value.int IntKind.i64 0, Value.int IntKind.i64 0, strV [], Value.int IntKind.i64 0, Value.int IntKind.i64 0, Value.bool false, Value.int IntKind.i64 dir, Value.slice a' (n - 1) c', Value.int IntKind.i64 ↑links, Value.bool fol, Value.bool true] := ra156
      clear h
      replace ra12 := ra12.gr ba154 (by have := ra12.lt; omega)
      replace hm := hm.gr ba154 (by have := hm.lt; omega)
      replace gw := gw.gr ba154 (by omega)
      replace hp := hp.gr ba154 (by omega)
      have h := ra156
      clear ra156
      refine LL.nilS ?_
      refine CC.seq ?_
      refine CC.seq ?_
      refine CC.region ?_
      refine LL.val (R.move rfl rfl) rfl rfl rfl ?_
      (refine LL.val (R.eqS (a := p) (b := [46, 46]) (c := false) rfl rfl rfl (by simp [hup])) rfl rfl rfl ?_)
      refine LL.nilS ?_
      refine CC.no rfl ?_
      refine CC.skip ?_
      refine EE.thenN ?_
      refine CC.seq ?_
      refine CC.freeZ (fun W_ j => j < W_.heap.size ∧ (True)) (by kernel_rfl) (by kernel_rfl) (fun Wa166 ba165 za167 => ?_)
      replace ra12 := ra12.up ba165
      replace hm := hm.up ba165
      replace gw := gw.up ba165
      replace hp := hp.up ba165
      replace h := h.up ba165
      have hok : Kept (fun j => j < Wa166.heap.size ∧ (True)) Wa166 Wa166 := Kept.refl _ _
      have fzra12 := fzRow (K := fun j => j < Wa166.heap.size ∧ (True)) ra12 ⟨ra12.lt, (by first | trivial | omega)⟩
      have fzh := fzRow (K := fun j => j < Wa166.heap.size ∧ (True)) h ⟨h.lt, (by first | trivial | omega)⟩
      refine AA.pure 1 rfl hok (by kernel_rfl) (fun w' b' => R.field rfl rfl (I.fld rfl)) rfl rfl ?_
      refine AA.pure 2 rfl hok (by kernel_rfl) (fun w' b' => R.load rfl rfl (I.ld1 rfl (RowL.cell (fzra12 w' b') rfl))) rfl rfl ?_
      refine AA.one 0 (by kernel_rfl) ?_
      refine SR.call rfl (R.call rfl rfl rfl) rfl rfl (doing_any _) ?_
      rintro e Wa176 ⟨ga178, ka179, rfl, ha177, ba175⟩
      have zba175 := ba175.size
      replace ba165 := ba165.trans (ba175.mono ba165.size)
      replace ra12 := ra12.up ba175
      replace hm := hm.up ba175
      replace gw := gw.up ba175
      replace hp := hp.up ba175
      replace h := h.up ba175
      replace hok := hok.trans (bkept ba175 (fun j h => by have := h.1; have := hok.size; omega))
      have ya180 := hok.size
      refine ⟨_, rfl, hok, ?_⟩
      refine AA.one 3 (by kernel_rfl) ?_
      (refine SR.val rfl (R.lookKT rfl rfl zKeys rfl rfl (by assumption) (3 : Int) (by first | rfl | (show _ = some (Value.int .i64 3); rw [← h3]; rfl)) (v := 50) L3) rfl rfl hok ?_)
      refine AA.pure 4 rfl hok (by kernel_rfl) (fun w' b' => R.move rfl rfl) rfl rfl ?_
      refine AA.pure 5 rfl hok (by kernel_rfl) (fun w' b' => R.extract rfl rfl rfl) rfl rfl ?_
      refine AA.pure 6 rfl hok (by kernel_rfl) (fun w' b' => R.extract rfl rfl rfl) rfl rfl ?_
      refine AA.pure 7 rfl hok (by kernel_rfl) (fun w' b' => R.assign rfl rfl) rfl rfl ?_
      refine AA.pure 8 rfl hok (by kernel_rfl) (fun w' b' => R.assign rfl rfl) rfl rfl ?_
      refine AA.done rfl ?_
      clear fzra12 fzh hok
      refine EE.thenN ?_
      refine CC.seq ?_
      refine CC.seq ?_
      refine CC.region ?_
      refine LL.val (R.move rfl rfl) rfl rfl rfl ?_
      refine LL.val (R.not rfl rfl) rfl rfl rfl ?_
      refine LL.nilS ?_
      refine CC.no rfl ?_
      refine CC.skip ?_
      refine EE.thenN ?_
      refine CC.seq ?_
      refine CC.region ?_
      refine LL.val (R.move rfl rfl) rfl rfl rfl ?_
      refine LL.val (R.move rfl rfl) rfl rfl rfl ?_
      refine LL.val (R.move rfl rfl) rfl rfl rfl ?_
      refine LL.val (R.load rfl rfl (I.ldNc (vs := [Value.int IntKind.i64 f.1, Value.int IntKind.i64 f.2.1, strV f.2.2]) (RowL.cells ra12 rfl) (by rfl) (by rfl))) rfl rfl rfl ?_
      (refine LL.call (R.callV rfl rfl rfl rfl) rfl rfl rfl (link_go g p f h (htl _ hp) (by omega) hg2 (by assumption) hg0 hk (ht h3)) ?_; rintro e Wa240 ⟨rfl, hW, ta239⟩; refine ⟨_, rfl, ?_⟩)
      have zta239 := ta239.size
      replace ra12 := ra12.kept ta239 ⟨ra12.lt, by omega⟩
      replace hm := hm.kept ta239 ⟨by omega, by omega⟩
      replace gw := gw.kept ta239 ⟨by omega, by omega⟩
      replace hp := hp.kept ta239 ⟨by omega, by omega⟩
      refine LL.nilS ?_
      refine CC.seq ?_
      refine CC.region ?_
      refine LL.val (R.assign rfl rfl) rfl rfl rfl ?_
      refine LL.nilS ?_
      refine CC.ret ?_
      refine EE.ret _ rfl rfl ?_
      exact ⟨rfl, hW, gw⟩
    · rw [if_neg fun k => hg2 k.2, if_neg fun k => by rw [h3] at k; exact absurd k.1 (by decide)]
      have hr : r = [] := Classical.not_not.1 fun k => hg2 (.inl k)
      have hf : fol = false := by cases fol with | false => rfl | true => exact absurd (.inr rfl) hg2
      rw [if_neg fun k => k hr]
      refine X.fn Tryd.func14 rfl (n := 51) rfl rfl ?_
      refine CC.seq ?_
      refine CC.region ?_
      have lb8 := h.lt
      refine LL.box [Value.int IntKind.i64 f.1, Value.int IntKind.i64 f.2.1, strV f.2.2] rfl rfl rfl rfl rfl ?_
      intro Wb10 gb11 egb11 rb12 zb13 bb9
      replace hm := hm.up bb9
      replace gw := gw.up bb9
      replace hp := hp.up bb9
      replace h := h.up bb9
      refine LL.val (R.assign rfl rfl) rfl rfl rfl ?_
      refine LL.nilS ?_
      refine CC.seq ?_
      refine CC.seq ?_
      refine CC.region ?_
      refine LL.val (R.move rfl rfl) rfl rfl rfl ?_
      (refine LL.call (R.call rfl rfl rfl) rfl rfl rfl (answered_run g (by assumption)) ?_; rintro e W' ⟨rfl, rfl⟩; refine ⟨_, rfl, ?_⟩)
      refine LL.val (R.assign rfl rfl) rfl rfl rfl ?_
      refine LL.nilS ?_
      refine CC.seq ?_
      refine CC.region ?_
      refine LL.val (R.move rfl rfl) rfl rfl rfl ?_
      refine LL.val (R.neF rfl rfl rfl (by omega)) rfl rfl rfl ?_
      refine LL.nilS ?_
      refine CC.no rfl ?_
      refine CC.skip ?_
      refine EE.thenN ?_
      refine CC.seq ?_
      refine CC.region ?_
      refine LL.val (R.move rfl rfl) rfl rfl rfl ?_
      refine LL.val (R.nil rfl rfl) rfl rfl rfl ?_
      refine LL.val (R.field rfl rfl (I.fld rfl)) rfl rfl rfl ?_
      refine LL.val (R.load rfl rfl (I.ld1 rfl (RowL.cell h rfl))) rfl rfl rfl ?_
      refine LL.val (R.index rfl rfl rfl (I.ixS1c rfl rfl (by omega))) rfl rfl rfl ?_
      (refine LL.val (R.load rfl rfl (I.ld1 rfl (hc0 _ hp))) rfl rfl rfl ?_)
      refine LL.val (R.assign rfl rfl) rfl rfl rfl ?_
      refine LL.nilS ?_
      refine CC.seq ?_
      refine CC.region ?_
      refine LL.val (R.move rfl rfl) rfl rfl rfl ?_
      refine LL.val (R.move rfl rfl) rfl rfl rfl ?_
      refine LL.val (R.nil rfl rfl) rfl rfl rfl ?_
      refine LL.val (R.field rfl rfl (I.fld rfl)) rfl rfl rfl ?_
      refine LL.val (R.load rfl rfl (I.ld1 rfl (RowL.cell h rfl))) rfl rfl rfl ?_
      (refine LL.val (R.slice rfl rfl rfl rfl rfl (hsl _ _ _ _ rfl)) rfl rfl rfl ?_)
      refine LL.val (R.nil rfl rfl) rfl rfl rfl ?_
      refine LL.val (R.field rfl rfl (I.fld rfl)) rfl rfl rfl ?_
      refine LL.store rfl rfl rfl rfl h (by exact Nat.le_of_ble_eq_true rfl) rfl rfl rfl rfl ?_
      intro Wb155 rb156 bb154 zb157
      have hlbb154 := h.lt
      replace rb156 : RowL Wb155 _ 60 [Value.int IntKind.i64 0, Value.int IntKind.i64 0, strV [], Value.int IntKind.i64 0, Value.int IntKind.i64 0, Value.bool false, Value.int IntKind.i64 dir, Value.slice a' (n - 1) c', Value.int IntKind.i64 ↑links, Value.bool fol, Value.bool true] := rb156
      clear h
      replace rb12 := rb12.gr bb154 (by have := rb12.lt; omega)
      replace hm := hm.gr bb154 (by have := hm.lt; omega)
      replace gw := gw.gr bb154 (by omega)
      replace hp := hp.gr bb154 (by omega)
      have h := rb156
      clear rb156
      refine LL.nilS ?_
      refine CC.seq ?_
      refine CC.seq ?_
      refine CC.region ?_
      refine LL.val (R.move rfl rfl) rfl rfl rfl ?_
      (refine LL.val (R.eqS (a := p) (b := [46, 46]) (c := false) rfl rfl rfl (by simp [hup])) rfl rfl rfl ?_)
      refine LL.nilS ?_
      refine CC.no rfl ?_
      refine CC.skip ?_
      refine EE.thenN ?_
      refine CC.seq ?_
      refine CC.freeZ (fun W_ j => j < W_.heap.size ∧ (True)) (by kernel_rfl) (by kernel_rfl) (fun Wb166 bb165 zb167 => ?_)
      replace rb12 := rb12.up bb165
      replace hm := hm.up bb165
      replace gw := gw.up bb165
      replace hp := hp.up bb165
      replace h := h.up bb165
      have hok : Kept (fun j => j < Wb166.heap.size ∧ (True)) Wb166 Wb166 := Kept.refl _ _
      have fzrb12 := fzRow (K := fun j => j < Wb166.heap.size ∧ (True)) rb12 ⟨rb12.lt, (by first | trivial | omega)⟩
      have fzh := fzRow (K := fun j => j < Wb166.heap.size ∧ (True)) h ⟨h.lt, (by first | trivial | omega)⟩
      refine AA.pure 1 rfl hok (by kernel_rfl) (fun w' b' => R.field rfl rfl (I.fld rfl)) rfl rfl ?_
      refine AA.pure 2 rfl hok (by kernel_rfl) (fun w' b' => R.load rfl rfl (I.ld1 rfl (RowL.cell (fzrb12 w' b') rfl))) rfl rfl ?_
      refine AA.one 0 (by kernel_rfl) ?_
      refine SR.call rfl (R.call rfl rfl rfl) rfl rfl (doing_any _) ?_
      rintro e Wb176 ⟨gb178, kb179, rfl, hb177, bb175⟩
      have zbb175 := bb175.size
      replace bb165 := bb165.trans (bb175.mono bb165.size)
      replace rb12 := rb12.up bb175
      replace hm := hm.up bb175
      replace gw := gw.up bb175
      replace hp := hp.up bb175
      replace h := h.up bb175
      replace hok := hok.trans (bkept bb175 (fun j h => by have := h.1; have := hok.size; omega))
      have yb180 := hok.size
      refine ⟨_, rfl, hok, ?_⟩
      refine AA.one 3 (by kernel_rfl) ?_
      (refine SR.val rfl (R.lookKT rfl rfl zKeys rfl rfl (by assumption) (3 : Int) (by first | rfl | (show _ = some (Value.int .i64 3); rw [← h3]; rfl)) (v := 50) L3) rfl rfl hok ?_)
      refine AA.pure 4 rfl hok (by kernel_rfl) (fun w' b' => R.move rfl rfl) rfl rfl ?_
      refine AA.pure 5 rfl hok (by kernel_rfl) (fun w' b' => R.extract rfl rfl rfl) rfl rfl ?_
      refine AA.pure 6 rfl hok (by kernel_rfl) (fun w' b' => R.extract rfl rfl rfl) rfl rfl ?_
      refine AA.pure 7 rfl hok (by kernel_rfl) (fun w' b' => R.assign rfl rfl) rfl rfl ?_
      refine AA.pure 8 rfl hok (by kernel_rfl) (fun w' b' => R.assign rfl rfl) rfl rfl ?_
      refine AA.done rfl ?_
      clear fzrb12 fzh hok
      refine EE.thenN ?_
      refine CC.seq ?_
      refine CC.seq ?_
      refine CC.region ?_
      refine LL.val (R.move rfl rfl) rfl rfl rfl ?_
      refine LL.val (R.not rfl rfl) rfl rfl rfl ?_
      refine LL.nilS ?_
      refine CC.no rfl ?_
      refine CC.skip ?_
      refine EE.thenN ?_
      refine CC.seq ?_
      refine CC.region ?_
      refine LL.val (R.move rfl rfl) rfl rfl rfl ?_
      refine LL.val (R.move rfl rfl) rfl rfl rfl ?_
      refine LL.val (R.move rfl rfl) rfl rfl rfl ?_
      refine LL.val (R.load rfl rfl (I.ldNc (vs := [Value.int IntKind.i64 f.1, Value.int IntKind.i64 f.2.1, strV f.2.2]) (RowL.cells rb12 rfl) (by rfl) (by rfl))) rfl rfl rfl ?_
      (refine LL.call (R.callV rfl rfl rfl rfl) rfl rfl rfl (link_stop g p f h (htl _ hp) hr hf) ?_; rintro e Wb240 ⟨rfl, hW, tb239⟩; refine ⟨_, rfl, ?_⟩)
      have ztb239 := tb239.size
      replace rb12 := rb12.kept tb239 ⟨rb12.lt, by omega⟩
      replace hm := hm.kept tb239 ⟨by omega, by omega⟩
      replace gw := gw.kept tb239 ⟨by omega, by omega⟩
      replace hp := hp.kept tb239 ⟨by omega, by omega⟩
      refine LL.nilS ?_
      refine CC.seq ?_
      refine CC.region ?_
      refine LL.val (R.assign rfl rfl) rfl rfl rfl ?_
      refine LL.nilS ?_
      refine CC.ret ?_
      refine EE.ret _ rfl rfl ?_
      exact ⟨rfl, hW, gw⟩
  rw [if_neg fun k => h3 k.1]
  by_cases h2 : f.2.1 = 2
  · by_cases hr : r = []
    · rw [if_neg fun k => k.2 hr, if_neg fun k => k hr]
      refine X.fn Tryd.func14 rfl (n := 51) rfl rfl ?_
      refine CC.seq ?_
      refine CC.region ?_
      have lc8 := h.lt
      refine LL.box [Value.int IntKind.i64 f.1, Value.int IntKind.i64 f.2.1, strV f.2.2] rfl rfl rfl rfl rfl ?_
      intro Wc10 gc11 egc11 rc12 zc13 bc9
      replace hm := hm.up bc9
      replace gw := gw.up bc9
      replace hp := hp.up bc9
      replace h := h.up bc9
      refine LL.val (R.assign rfl rfl) rfl rfl rfl ?_
      refine LL.nilS ?_
      refine CC.seq ?_
      refine CC.seq ?_
      refine CC.region ?_
      refine LL.val (R.move rfl rfl) rfl rfl rfl ?_
      (refine LL.call (R.call rfl rfl rfl) rfl rfl rfl (answered_run g (by assumption)) ?_; rintro e W' ⟨rfl, rfl⟩; refine ⟨_, rfl, ?_⟩)
      refine LL.val (R.assign rfl rfl) rfl rfl rfl ?_
      refine LL.nilS ?_
      refine CC.seq ?_
      refine CC.region ?_
      refine LL.val (R.move rfl rfl) rfl rfl rfl ?_
      refine LL.val (R.neF rfl rfl rfl (by omega)) rfl rfl rfl ?_
      refine LL.nilS ?_
      refine CC.no rfl ?_
      refine CC.skip ?_
      refine EE.thenN ?_
      refine CC.seq ?_
      refine CC.region ?_
      refine LL.val (R.move rfl rfl) rfl rfl rfl ?_
      refine LL.val (R.nil rfl rfl) rfl rfl rfl ?_
      refine LL.val (R.field rfl rfl (I.fld rfl)) rfl rfl rfl ?_
      refine LL.val (R.load rfl rfl (I.ld1 rfl (RowL.cell h rfl))) rfl rfl rfl ?_
      refine LL.val (R.index rfl rfl rfl (I.ixS1c rfl rfl (by omega))) rfl rfl rfl ?_
      (refine LL.val (R.load rfl rfl (I.ld1 rfl (hc0 _ hp))) rfl rfl rfl ?_)
      refine LL.val (R.assign rfl rfl) rfl rfl rfl ?_
      refine LL.nilS ?_
      refine CC.seq ?_
      refine CC.region ?_
      refine LL.val (R.move rfl rfl) rfl rfl rfl ?_
      refine LL.val (R.move rfl rfl) rfl rfl rfl ?_
      refine LL.val (R.nil rfl rfl) rfl rfl rfl ?_
      refine LL.val (R.field rfl rfl (I.fld rfl)) rfl rfl rfl ?_
      refine LL.val (R.load rfl rfl (I.ld1 rfl (RowL.cell h rfl))) rfl rfl rfl ?_
      (refine LL.val (R.slice rfl rfl rfl rfl rfl (hsl _ _ _ _ rfl)) rfl rfl rfl ?_)
      refine LL.val (R.nil rfl rfl) rfl rfl rfl ?_
      refine LL.val (R.field rfl rfl (I.fld rfl)) rfl rfl rfl ?_
      refine LL.store rfl rfl rfl rfl h (by exact Nat.le_of_ble_eq_true rfl) rfl rfl rfl rfl ?_
      intro Wc155 rc156 bc154 zc157
      have hlbc154 := h.lt
      replace rc156 : RowL Wc155 _ 60 [Value.int IntKind.i64 0, Value.int IntKind.i64 0, strV [], Value.int IntKind.i64 0, Value.int IntKind.i64 0, Value.bool false, Value.int IntKind.i64 dir, Value.slice a' (n - 1) c', Value.int IntKind.i64 ↑links, Value.bool fol, Value.bool true] := rc156
      clear h
      replace rc12 := rc12.gr bc154 (by have := rc12.lt; omega)
      replace hm := hm.gr bc154 (by have := hm.lt; omega)
      replace gw := gw.gr bc154 (by omega)
      replace hp := hp.gr bc154 (by omega)
      have h := rc156
      clear rc156
      refine LL.nilS ?_
      refine CC.seq ?_
      refine CC.seq ?_
      refine CC.region ?_
      refine LL.val (R.move rfl rfl) rfl rfl rfl ?_
      (refine LL.val (R.eqS (a := p) (b := [46, 46]) (c := false) rfl rfl rfl (by simp [hup])) rfl rfl rfl ?_)
      refine LL.nilS ?_
      refine CC.no rfl ?_
      refine CC.skip ?_
      refine EE.thenN ?_
      refine CC.seq ?_
      refine CC.freeZ (fun W_ j => j < W_.heap.size ∧ (True)) (by kernel_rfl) (by kernel_rfl) (fun Wc166 bc165 zc167 => ?_)
      replace rc12 := rc12.up bc165
      replace hm := hm.up bc165
      replace gw := gw.up bc165
      replace hp := hp.up bc165
      replace h := h.up bc165
      have hok : Kept (fun j => j < Wc166.heap.size ∧ (True)) Wc166 Wc166 := Kept.refl _ _
      have fzrc12 := fzRow (K := fun j => j < Wc166.heap.size ∧ (True)) rc12 ⟨rc12.lt, (by first | trivial | omega)⟩
      have fzh := fzRow (K := fun j => j < Wc166.heap.size ∧ (True)) h ⟨h.lt, (by first | trivial | omega)⟩
      refine AA.pure 1 rfl hok (by kernel_rfl) (fun w' b' => R.field rfl rfl (I.fld rfl)) rfl rfl ?_
      refine AA.pure 2 rfl hok (by kernel_rfl) (fun w' b' => R.load rfl rfl (I.ld1 rfl (RowL.cell (fzrc12 w' b') rfl))) rfl rfl ?_
      refine AA.one 0 (by kernel_rfl) ?_
      refine SR.call rfl (R.call rfl rfl rfl) rfl rfl (doing_any _) ?_
      rintro e Wc176 ⟨gc178, kc179, rfl, hc177, bc175⟩
      have zbc175 := bc175.size
      replace bc165 := bc165.trans (bc175.mono bc165.size)
      replace rc12 := rc12.up bc175
      replace hm := hm.up bc175
      replace gw := gw.up bc175
      replace hp := hp.up bc175
      replace h := h.up bc175
      replace hok := hok.trans (bkept bc175 (fun j h => by have := h.1; have := hok.size; omega))
      have yc180 := hok.size
      refine ⟨_, rfl, hok, ?_⟩
      refine AA.one 3 (by kernel_rfl) ?_
      (refine SR.val rfl (R.lookKT rfl rfl zKeys rfl rfl (by assumption) (2 : Int) (by first | rfl | (show _ = some (Value.int .i64 2); rw [← h2]; rfl)) (v := 51) L2) rfl rfl hok ?_)
      refine AA.pure 4 rfl hok (by kernel_rfl) (fun w' b' => R.move rfl rfl) rfl rfl ?_
      refine AA.pure 5 rfl hok (by kernel_rfl) (fun w' b' => R.extract rfl rfl rfl) rfl rfl ?_
      refine AA.pure 6 rfl hok (by kernel_rfl) (fun w' b' => R.extract rfl rfl rfl) rfl rfl ?_
      refine AA.pure 7 rfl hok (by kernel_rfl) (fun w' b' => R.assign rfl rfl) rfl rfl ?_
      refine AA.pure 8 rfl hok (by kernel_rfl) (fun w' b' => R.assign rfl rfl) rfl rfl ?_
      refine AA.done rfl ?_
      clear fzrc12 fzh hok
      refine EE.thenN ?_
      refine CC.seq ?_
      refine CC.seq ?_
      refine CC.region ?_
      refine LL.val (R.move rfl rfl) rfl rfl rfl ?_
      refine LL.val (R.not rfl rfl) rfl rfl rfl ?_
      refine LL.nilS ?_
      refine CC.no rfl ?_
      refine CC.skip ?_
      refine EE.thenN ?_
      refine CC.seq ?_
      refine CC.region ?_
      refine LL.val (R.move rfl rfl) rfl rfl rfl ?_
      refine LL.val (R.move rfl rfl) rfl rfl rfl ?_
      refine LL.val (R.move rfl rfl) rfl rfl rfl ?_
      refine LL.val (R.load rfl rfl (I.ldNc (vs := [Value.int IntKind.i64 f.1, Value.int IntKind.i64 f.2.1, strV f.2.2]) (RowL.cells rc12 rfl) (by rfl) (by rfl))) rfl rfl rfl ?_
      (refine LL.call (R.callV rfl rfl rfl rfl) rfl rfl rfl (enter_stop g p f h (htl _ hp) hr) ?_; rintro e Wc240 ⟨rfl, hW, tc239⟩; refine ⟨_, rfl, ?_⟩)
      have ztc239 := tc239.size
      replace rc12 := rc12.kept tc239 ⟨rc12.lt, by omega⟩
      replace hm := hm.kept tc239 ⟨by omega, by omega⟩
      replace gw := gw.kept tc239 ⟨by omega, by omega⟩
      replace hp := hp.kept tc239 ⟨by omega, by omega⟩
      refine LL.nilS ?_
      refine CC.seq ?_
      refine CC.region ?_
      refine LL.val (R.assign rfl rfl) rfl rfl rfl ?_
      refine LL.nilS ?_
      refine CC.ret ?_
      refine EE.ret _ rfl rfl ?_
      exact ⟨rfl, hW, gw⟩
    · rw [if_pos ⟨h2, hr⟩]
      refine X.fn Tryd.func14 rfl (n := 51) rfl rfl ?_
      refine CC.seq ?_
      refine CC.region ?_
      have ld8 := h.lt
      refine LL.box [Value.int IntKind.i64 f.1, Value.int IntKind.i64 f.2.1, strV f.2.2] rfl rfl rfl rfl rfl ?_
      intro Wd10 gd11 egd11 rd12 zd13 bd9
      replace hm := hm.up bd9
      replace gw := gw.up bd9
      replace hp := hp.up bd9
      replace h := h.up bd9
      refine LL.val (R.assign rfl rfl) rfl rfl rfl ?_
      refine LL.nilS ?_
      refine CC.seq ?_
      refine CC.seq ?_
      refine CC.region ?_
      refine LL.val (R.move rfl rfl) rfl rfl rfl ?_
      (refine LL.call (R.call rfl rfl rfl) rfl rfl rfl (answered_run g (by assumption)) ?_; rintro e W' ⟨rfl, rfl⟩; refine ⟨_, rfl, ?_⟩)
      refine LL.val (R.assign rfl rfl) rfl rfl rfl ?_
      refine LL.nilS ?_
      refine CC.seq ?_
      refine CC.region ?_
      refine LL.val (R.move rfl rfl) rfl rfl rfl ?_
      refine LL.val (R.neF rfl rfl rfl (by omega)) rfl rfl rfl ?_
      refine LL.nilS ?_
      refine CC.no rfl ?_
      refine CC.skip ?_
      refine EE.thenN ?_
      refine CC.seq ?_
      refine CC.region ?_
      refine LL.val (R.move rfl rfl) rfl rfl rfl ?_
      refine LL.val (R.nil rfl rfl) rfl rfl rfl ?_
      refine LL.val (R.field rfl rfl (I.fld rfl)) rfl rfl rfl ?_
      refine LL.val (R.load rfl rfl (I.ld1 rfl (RowL.cell h rfl))) rfl rfl rfl ?_
      refine LL.val (R.index rfl rfl rfl (I.ixS1c rfl rfl (by omega))) rfl rfl rfl ?_
      (refine LL.val (R.load rfl rfl (I.ld1 rfl (hc0 _ hp))) rfl rfl rfl ?_)
      refine LL.val (R.assign rfl rfl) rfl rfl rfl ?_
      refine LL.nilS ?_
      refine CC.seq ?_
      refine CC.region ?_
      refine LL.val (R.move rfl rfl) rfl rfl rfl ?_
      refine LL.val (R.move rfl rfl) rfl rfl rfl ?_
      refine LL.val (R.nil rfl rfl) rfl rfl rfl ?_
      refine LL.val (R.field rfl rfl (I.fld rfl)) rfl rfl rfl ?_
      refine LL.val (R.load rfl rfl (I.ld1 rfl (RowL.cell h rfl))) rfl rfl rfl ?_
      (refine LL.val (R.slice rfl rfl rfl rfl rfl (hsl _ _ _ _ rfl)) rfl rfl rfl ?_)
      refine LL.val (R.nil rfl rfl) rfl rfl rfl ?_
      refine LL.val (R.field rfl rfl (I.fld rfl)) rfl rfl rfl ?_
      refine LL.store rfl rfl rfl rfl h (by exact Nat.le_of_ble_eq_true rfl) rfl rfl rfl rfl ?_
      intro Wd155 rd156 bd154 zd157
      have hlbd154 := h.lt
      replace rd156 : RowL Wd155 _ 60 [Value.int IntKind.i64 0, Value.int IntKind.i64 0, strV [], Value.int IntKind.i64 0, Value.int IntKind.i64 0, Value.bool false, Value.int IntKind.i64 dir, Value.slice a' (n - 1) c', Value.int IntKind.i64 ↑links, Value.bool fol, Value.bool true] := rd156
      clear h
      replace rd12 := rd12.gr bd154 (by have := rd12.lt; omega)
      replace hm := hm.gr bd154 (by have := hm.lt; omega)
      replace gw := gw.gr bd154 (by omega)
      replace hp := hp.gr bd154 (by omega)
      have h := rd156
      clear rd156
      refine LL.nilS ?_
      refine CC.seq ?_
      refine CC.seq ?_
      refine CC.region ?_
      refine LL.val (R.move rfl rfl) rfl rfl rfl ?_
      (refine LL.val (R.eqS (a := p) (b := [46, 46]) (c := false) rfl rfl rfl (by simp [hup])) rfl rfl rfl ?_)
      refine LL.nilS ?_
      refine CC.no rfl ?_
      refine CC.skip ?_
      refine EE.thenN ?_
      refine CC.seq ?_
      refine CC.freeZ (fun W_ j => j < W_.heap.size ∧ (True)) (by kernel_rfl) (by kernel_rfl) (fun Wd166 bd165 zd167 => ?_)
      replace rd12 := rd12.up bd165
      replace hm := hm.up bd165
      replace gw := gw.up bd165
      replace hp := hp.up bd165
      replace h := h.up bd165
      have hok : Kept (fun j => j < Wd166.heap.size ∧ (True)) Wd166 Wd166 := Kept.refl _ _
      have fzrd12 := fzRow (K := fun j => j < Wd166.heap.size ∧ (True)) rd12 ⟨rd12.lt, (by first | trivial | omega)⟩
      have fzh := fzRow (K := fun j => j < Wd166.heap.size ∧ (True)) h ⟨h.lt, (by first | trivial | omega)⟩
      refine AA.pure 1 rfl hok (by kernel_rfl) (fun w' b' => R.field rfl rfl (I.fld rfl)) rfl rfl ?_
      refine AA.pure 2 rfl hok (by kernel_rfl) (fun w' b' => R.load rfl rfl (I.ld1 rfl (RowL.cell (fzrd12 w' b') rfl))) rfl rfl ?_
      refine AA.one 0 (by kernel_rfl) ?_
      refine SR.call rfl (R.call rfl rfl rfl) rfl rfl (doing_any _) ?_
      rintro e Wd176 ⟨gd178, kd179, rfl, hd177, bd175⟩
      have zbd175 := bd175.size
      replace bd165 := bd165.trans (bd175.mono bd165.size)
      replace rd12 := rd12.up bd175
      replace hm := hm.up bd175
      replace gw := gw.up bd175
      replace hp := hp.up bd175
      replace h := h.up bd175
      replace hok := hok.trans (bkept bd175 (fun j h => by have := h.1; have := hok.size; omega))
      have yd180 := hok.size
      refine ⟨_, rfl, hok, ?_⟩
      refine AA.one 3 (by kernel_rfl) ?_
      (refine SR.val rfl (R.lookKT rfl rfl zKeys rfl rfl (by assumption) (2 : Int) (by first | rfl | (show _ = some (Value.int .i64 2); rw [← h2]; rfl)) (v := 51) L2) rfl rfl hok ?_)
      refine AA.pure 4 rfl hok (by kernel_rfl) (fun w' b' => R.move rfl rfl) rfl rfl ?_
      refine AA.pure 5 rfl hok (by kernel_rfl) (fun w' b' => R.extract rfl rfl rfl) rfl rfl ?_
      refine AA.pure 6 rfl hok (by kernel_rfl) (fun w' b' => R.extract rfl rfl rfl) rfl rfl ?_
      refine AA.pure 7 rfl hok (by kernel_rfl) (fun w' b' => R.assign rfl rfl) rfl rfl ?_
      refine AA.pure 8 rfl hok (by kernel_rfl) (fun w' b' => R.assign rfl rfl) rfl rfl ?_
      refine AA.done rfl ?_
      clear fzrd12 fzh hok
      refine EE.thenN ?_
      refine CC.seq ?_
      refine CC.seq ?_
      refine CC.region ?_
      refine LL.val (R.move rfl rfl) rfl rfl rfl ?_
      refine LL.val (R.not rfl rfl) rfl rfl rfl ?_
      refine LL.nilS ?_
      refine CC.no rfl ?_
      refine CC.skip ?_
      refine EE.thenN ?_
      refine CC.seq ?_
      refine CC.region ?_
      refine LL.val (R.move rfl rfl) rfl rfl rfl ?_
      refine LL.val (R.move rfl rfl) rfl rfl rfl ?_
      refine LL.val (R.move rfl rfl) rfl rfl rfl ?_
      refine LL.val (R.load rfl rfl (I.ldNc (vs := [Value.int IntKind.i64 f.1, Value.int IntKind.i64 f.2.1, strV f.2.2]) (RowL.cells rd12 rfl) (by rfl) (by rfl))) rfl rfl rfl ?_
      (refine LL.call (R.callV rfl rfl rfl rfl) rfl rfl rfl (enter_on g p f h (htl _ hp) (by omega) hr) ?_; rintro e Wd240 ⟨rfl, hW, td239⟩; refine ⟨_, rfl, ?_⟩)
      have ztd239 := td239.size
      replace rd12 := rd12.kept td239 ⟨rd12.lt, by omega⟩
      replace hm := hm.kept td239 ⟨by omega, by omega⟩
      replace gw := gw.kept td239 ⟨by omega, by omega⟩
      replace hp := hp.kept td239 ⟨by omega, by omega⟩
      refine LL.nilS ?_
      refine CC.seq ?_
      refine CC.region ?_
      refine LL.val (R.assign rfl rfl) rfl rfl rfl ?_
      refine LL.nilS ?_
      refine CC.ret ?_
      refine EE.ret _ rfl rfl ?_
      exact ⟨rfl, hW, gw⟩
  rw [if_neg fun k => h2 k.1]
  have LF : doF f.2.1 = none := by
    unfold doF putMap
    simp [h2, h3]
  by_cases hr : r = []
  · rw [if_neg fun k => k hr]
    refine X.fn Tryd.func14 rfl (n := 51) rfl rfl ?_
    refine CC.seq ?_
    refine CC.region ?_
    have le8 := h.lt
    refine LL.box [Value.int IntKind.i64 f.1, Value.int IntKind.i64 f.2.1, strV f.2.2] rfl rfl rfl rfl rfl ?_
    intro We10 ge11 ege11 re12 ze13 be9
    replace hm := hm.up be9
    replace gw := gw.up be9
    replace hp := hp.up be9
    replace h := h.up be9
    refine LL.val (R.assign rfl rfl) rfl rfl rfl ?_
    refine LL.nilS ?_
    refine CC.seq ?_
    refine CC.seq ?_
    refine CC.region ?_
    refine LL.val (R.move rfl rfl) rfl rfl rfl ?_
    (refine LL.call (R.call rfl rfl rfl) rfl rfl rfl (answered_run g (by assumption)) ?_; rintro e W' ⟨rfl, rfl⟩; refine ⟨_, rfl, ?_⟩)
    refine LL.val (R.assign rfl rfl) rfl rfl rfl ?_
    refine LL.nilS ?_
    refine CC.seq ?_
    refine CC.region ?_
    refine LL.val (R.move rfl rfl) rfl rfl rfl ?_
    refine LL.val (R.neF rfl rfl rfl (by omega)) rfl rfl rfl ?_
    refine LL.nilS ?_
    refine CC.no rfl ?_
    refine CC.skip ?_
    refine EE.thenN ?_
    refine CC.seq ?_
    refine CC.region ?_
    refine LL.val (R.move rfl rfl) rfl rfl rfl ?_
    refine LL.val (R.nil rfl rfl) rfl rfl rfl ?_
    refine LL.val (R.field rfl rfl (I.fld rfl)) rfl rfl rfl ?_
    refine LL.val (R.load rfl rfl (I.ld1 rfl (RowL.cell h rfl))) rfl rfl rfl ?_
    refine LL.val (R.index rfl rfl rfl (I.ixS1c rfl rfl (by omega))) rfl rfl rfl ?_
    (refine LL.val (R.load rfl rfl (I.ld1 rfl (hc0 _ hp))) rfl rfl rfl ?_)
    refine LL.val (R.assign rfl rfl) rfl rfl rfl ?_
    refine LL.nilS ?_
    refine CC.seq ?_
    refine CC.region ?_
    refine LL.val (R.move rfl rfl) rfl rfl rfl ?_
    refine LL.val (R.move rfl rfl) rfl rfl rfl ?_
    refine LL.val (R.nil rfl rfl) rfl rfl rfl ?_
    refine LL.val (R.field rfl rfl (I.fld rfl)) rfl rfl rfl ?_
    refine LL.val (R.load rfl rfl (I.ld1 rfl (RowL.cell h rfl))) rfl rfl rfl ?_
    (refine LL.val (R.slice rfl rfl rfl rfl rfl (hsl _ _ _ _ rfl)) rfl rfl rfl ?_)
    refine LL.val (R.nil rfl rfl) rfl rfl rfl ?_
    refine LL.val (R.field rfl rfl (I.fld rfl)) rfl rfl rfl ?_
    refine LL.store rfl rfl rfl rfl h (by exact Nat.le_of_ble_eq_true rfl) rfl rfl rfl rfl ?_
    intro We155 re156 be154 ze157
    have hlbe154 := h.lt
    replace re156 : RowL We155 _ 60 [Value.int IntKind.i64 0, Value.int IntKind.i64 0, strV [], Value.int IntKind.i64 0, Value.int IntKind.i64 0, Value.bool false, Value.int IntKind.i64 dir, Value.slice a' (n - 1) c', Value.int IntKind.i64 ↑links, Value.bool fol, Value.bool true] := re156
    clear h
    replace re12 := re12.gr be154 (by have := re12.lt; omega)
    replace hm := hm.gr be154 (by have := hm.lt; omega)
    replace gw := gw.gr be154 (by omega)
    replace hp := hp.gr be154 (by omega)
    have h := re156
    clear re156
    refine LL.nilS ?_
    refine CC.seq ?_
    refine CC.seq ?_
    refine CC.region ?_
    refine LL.val (R.move rfl rfl) rfl rfl rfl ?_
    (refine LL.val (R.eqS (a := p) (b := [46, 46]) (c := false) rfl rfl rfl (by simp [hup])) rfl rfl rfl ?_)
    refine LL.nilS ?_
    refine CC.no rfl ?_
    refine CC.skip ?_
    refine EE.thenN ?_
    refine CC.seq ?_
    refine CC.freeZ (fun W_ j => j < W_.heap.size ∧ (True)) (by kernel_rfl) (by kernel_rfl) (fun We166 be165 ze167 => ?_)
    replace re12 := re12.up be165
    replace hm := hm.up be165
    replace gw := gw.up be165
    replace hp := hp.up be165
    replace h := h.up be165
    have hok : Kept (fun j => j < We166.heap.size ∧ (True)) We166 We166 := Kept.refl _ _
    have fzre12 := fzRow (K := fun j => j < We166.heap.size ∧ (True)) re12 ⟨re12.lt, (by first | trivial | omega)⟩
    have fzh := fzRow (K := fun j => j < We166.heap.size ∧ (True)) h ⟨h.lt, (by first | trivial | omega)⟩
    refine AA.pure 1 rfl hok (by kernel_rfl) (fun w' b' => R.field rfl rfl (I.fld rfl)) rfl rfl ?_
    refine AA.pure 2 rfl hok (by kernel_rfl) (fun w' b' => R.load rfl rfl (I.ld1 rfl (RowL.cell (fzre12 w' b') rfl))) rfl rfl ?_
    refine AA.one 0 (by kernel_rfl) ?_
    refine SR.call rfl (R.call rfl rfl rfl) rfl rfl (doing_any _) ?_
    rintro e We176 ⟨ge178, ke179, rfl, he177, be175⟩
    have zbe175 := be175.size
    replace be165 := be165.trans (be175.mono be165.size)
    replace re12 := re12.up be175
    replace hm := hm.up be175
    replace gw := gw.up be175
    replace hp := hp.up be175
    replace h := h.up be175
    replace hok := hok.trans (bkept be175 (fun j h => by have := h.1; have := hok.size; omega))
    have ye180 := hok.size
    refine ⟨_, rfl, hok, ?_⟩
    refine AA.one 3 (by kernel_rfl) ?_
    (refine SR.val rfl (R.lookKF rfl rfl zKeys rfl rfl (by assumption) (f.2.1 : Int) rfl LF) rfl rfl hok ?_)
    refine AA.pure 4 rfl hok (by kernel_rfl) (fun w' b' => R.move rfl rfl) rfl rfl ?_
    refine AA.pure 5 rfl hok (by kernel_rfl) (fun w' b' => R.extract rfl rfl rfl) rfl rfl ?_
    refine AA.pure 6 rfl hok (by kernel_rfl) (fun w' b' => R.extract rfl rfl rfl) rfl rfl ?_
    refine AA.pure 7 rfl hok (by kernel_rfl) (fun w' b' => R.assign rfl rfl) rfl rfl ?_
    refine AA.pure 8 rfl hok (by kernel_rfl) (fun w' b' => R.assign rfl rfl) rfl rfl ?_
    refine AA.done rfl ?_
    clear fzre12 fzh hok
    refine EE.thenN ?_
    refine CC.seq ?_
    refine CC.seq ?_
    refine CC.region ?_
    refine LL.val (R.move rfl rfl) rfl rfl rfl ?_
    refine LL.val (R.not rfl rfl) rfl rfl rfl ?_
    refine LL.nilS ?_
    refine CC.yes rfl ?_
    refine CC.region ?_
    refine LL.val (R.assign rfl rfl) rfl rfl rfl ?_
    refine LL.nilS ?_
    refine CC.seq ?_
    refine CC.region ?_
    refine LL.val (R.move rfl rfl) rfl rfl rfl ?_
    refine LL.val (R.move rfl rfl) rfl rfl rfl ?_
    refine LL.val (R.move rfl rfl) rfl rfl rfl ?_
    refine LL.val (R.load rfl rfl (I.ldNc (vs := [Value.int IntKind.i64 f.1, Value.int IntKind.i64 f.2.1, strV f.2.2]) (RowL.cells re12 rfl) (by rfl) (by rfl))) rfl rfl rfl ?_
    (refine LL.call (R.callV rfl rfl rfl rfl) rfl rfl rfl (stop_yes g p f h (htl _ hp) hr) ?_; rintro e We247 ⟨rfl, hW, te246⟩; refine ⟨_, rfl, ?_⟩)
    have zte246 := te246.size
    replace re12 := re12.kept te246 ⟨re12.lt, by omega⟩
    replace hm := hm.kept te246 ⟨by omega, by omega⟩
    replace gw := gw.kept te246 ⟨by omega, by omega⟩
    replace hp := hp.kept te246 ⟨by omega, by omega⟩
    refine LL.nilS ?_
    refine CC.seq ?_
    refine CC.region ?_
    refine LL.val (R.assign rfl rfl) rfl rfl rfl ?_
    refine LL.nilS ?_
    refine CC.ret ?_
    refine EE.ret _ rfl rfl ?_
    exact ⟨rfl, hW, gw⟩
  · rw [if_pos hr]
    refine X.fn Tryd.func14 rfl (n := 51) rfl rfl ?_
    refine CC.seq ?_
    refine CC.region ?_
    have lf8 := h.lt
    refine LL.box [Value.int IntKind.i64 f.1, Value.int IntKind.i64 f.2.1, strV f.2.2] rfl rfl rfl rfl rfl ?_
    intro Wf10 gf11 egf11 rf12 zf13 bf9
    replace hm := hm.up bf9
    replace gw := gw.up bf9
    replace hp := hp.up bf9
    replace h := h.up bf9
    refine LL.val (R.assign rfl rfl) rfl rfl rfl ?_
    refine LL.nilS ?_
    refine CC.seq ?_
    refine CC.seq ?_
    refine CC.region ?_
    refine LL.val (R.move rfl rfl) rfl rfl rfl ?_
    (refine LL.call (R.call rfl rfl rfl) rfl rfl rfl (answered_run g (by assumption)) ?_; rintro e W' ⟨rfl, rfl⟩; refine ⟨_, rfl, ?_⟩)
    refine LL.val (R.assign rfl rfl) rfl rfl rfl ?_
    refine LL.nilS ?_
    refine CC.seq ?_
    refine CC.region ?_
    refine LL.val (R.move rfl rfl) rfl rfl rfl ?_
    refine LL.val (R.neF rfl rfl rfl (by omega)) rfl rfl rfl ?_
    refine LL.nilS ?_
    refine CC.no rfl ?_
    refine CC.skip ?_
    refine EE.thenN ?_
    refine CC.seq ?_
    refine CC.region ?_
    refine LL.val (R.move rfl rfl) rfl rfl rfl ?_
    refine LL.val (R.nil rfl rfl) rfl rfl rfl ?_
    refine LL.val (R.field rfl rfl (I.fld rfl)) rfl rfl rfl ?_
    refine LL.val (R.load rfl rfl (I.ld1 rfl (RowL.cell h rfl))) rfl rfl rfl ?_
    refine LL.val (R.index rfl rfl rfl (I.ixS1c rfl rfl (by omega))) rfl rfl rfl ?_
    (refine LL.val (R.load rfl rfl (I.ld1 rfl (hc0 _ hp))) rfl rfl rfl ?_)
    refine LL.val (R.assign rfl rfl) rfl rfl rfl ?_
    refine LL.nilS ?_
    refine CC.seq ?_
    refine CC.region ?_
    refine LL.val (R.move rfl rfl) rfl rfl rfl ?_
    refine LL.val (R.move rfl rfl) rfl rfl rfl ?_
    refine LL.val (R.nil rfl rfl) rfl rfl rfl ?_
    refine LL.val (R.field rfl rfl (I.fld rfl)) rfl rfl rfl ?_
    refine LL.val (R.load rfl rfl (I.ld1 rfl (RowL.cell h rfl))) rfl rfl rfl ?_
    (refine LL.val (R.slice rfl rfl rfl rfl rfl (hsl _ _ _ _ rfl)) rfl rfl rfl ?_)
    refine LL.val (R.nil rfl rfl) rfl rfl rfl ?_
    refine LL.val (R.field rfl rfl (I.fld rfl)) rfl rfl rfl ?_
    refine LL.store rfl rfl rfl rfl h (by exact Nat.le_of_ble_eq_true rfl) rfl rfl rfl rfl ?_
    intro Wf155 rf156 bf154 zf157
    have hlbf154 := h.lt
    replace rf156 : RowL Wf155 _ 60 [Value.int IntKind.i64 0, Value.int IntKind.i64 0, strV [], Value.int IntKind.i64 0, Value.int IntKind.i64 0, Value.bool false, Value.int IntKind.i64 dir, Value.slice a' (n - 1) c', Value.int IntKind.i64 ↑links, Value.bool fol, Value.bool true] := rf156
    clear h
    replace rf12 := rf12.gr bf154 (by have := rf12.lt; omega)
    replace hm := hm.gr bf154 (by have := hm.lt; omega)
    replace gw := gw.gr bf154 (by omega)
    replace hp := hp.gr bf154 (by omega)
    have h := rf156
    clear rf156
    refine LL.nilS ?_
    refine CC.seq ?_
    refine CC.seq ?_
    refine CC.region ?_
    refine LL.val (R.move rfl rfl) rfl rfl rfl ?_
    (refine LL.val (R.eqS (a := p) (b := [46, 46]) (c := false) rfl rfl rfl (by simp [hup])) rfl rfl rfl ?_)
    refine LL.nilS ?_
    refine CC.no rfl ?_
    refine CC.skip ?_
    refine EE.thenN ?_
    refine CC.seq ?_
    refine CC.freeZ (fun W_ j => j < W_.heap.size ∧ (True)) (by kernel_rfl) (by kernel_rfl) (fun Wf166 bf165 zf167 => ?_)
    replace rf12 := rf12.up bf165
    replace hm := hm.up bf165
    replace gw := gw.up bf165
    replace hp := hp.up bf165
    replace h := h.up bf165
    have hok : Kept (fun j => j < Wf166.heap.size ∧ (True)) Wf166 Wf166 := Kept.refl _ _
    have fzrf12 := fzRow (K := fun j => j < Wf166.heap.size ∧ (True)) rf12 ⟨rf12.lt, (by first | trivial | omega)⟩
    have fzh := fzRow (K := fun j => j < Wf166.heap.size ∧ (True)) h ⟨h.lt, (by first | trivial | omega)⟩
    refine AA.pure 1 rfl hok (by kernel_rfl) (fun w' b' => R.field rfl rfl (I.fld rfl)) rfl rfl ?_
    refine AA.pure 2 rfl hok (by kernel_rfl) (fun w' b' => R.load rfl rfl (I.ld1 rfl (RowL.cell (fzrf12 w' b') rfl))) rfl rfl ?_
    refine AA.one 0 (by kernel_rfl) ?_
    refine SR.call rfl (R.call rfl rfl rfl) rfl rfl (doing_any _) ?_
    rintro e Wf176 ⟨gf178, kf179, rfl, hf177, bf175⟩
    have zbf175 := bf175.size
    replace bf165 := bf165.trans (bf175.mono bf165.size)
    replace rf12 := rf12.up bf175
    replace hm := hm.up bf175
    replace gw := gw.up bf175
    replace hp := hp.up bf175
    replace h := h.up bf175
    replace hok := hok.trans (bkept bf175 (fun j h => by have := h.1; have := hok.size; omega))
    have yf180 := hok.size
    refine ⟨_, rfl, hok, ?_⟩
    refine AA.one 3 (by kernel_rfl) ?_
    (refine SR.val rfl (R.lookKF rfl rfl zKeys rfl rfl (by assumption) (f.2.1 : Int) rfl LF) rfl rfl hok ?_)
    refine AA.pure 4 rfl hok (by kernel_rfl) (fun w' b' => R.move rfl rfl) rfl rfl ?_
    refine AA.pure 5 rfl hok (by kernel_rfl) (fun w' b' => R.extract rfl rfl rfl) rfl rfl ?_
    refine AA.pure 6 rfl hok (by kernel_rfl) (fun w' b' => R.extract rfl rfl rfl) rfl rfl ?_
    refine AA.pure 7 rfl hok (by kernel_rfl) (fun w' b' => R.assign rfl rfl) rfl rfl ?_
    refine AA.pure 8 rfl hok (by kernel_rfl) (fun w' b' => R.assign rfl rfl) rfl rfl ?_
    refine AA.done rfl ?_
    clear fzrf12 fzh hok
    refine EE.thenN ?_
    refine CC.seq ?_
    refine CC.seq ?_
    refine CC.region ?_
    refine LL.val (R.move rfl rfl) rfl rfl rfl ?_
    refine LL.val (R.not rfl rfl) rfl rfl rfl ?_
    refine LL.nilS ?_
    refine CC.yes rfl ?_
    refine CC.region ?_
    refine LL.val (R.assign rfl rfl) rfl rfl rfl ?_
    refine LL.nilS ?_
    refine CC.seq ?_
    refine CC.region ?_
    refine LL.val (R.move rfl rfl) rfl rfl rfl ?_
    refine LL.val (R.move rfl rfl) rfl rfl rfl ?_
    refine LL.val (R.move rfl rfl) rfl rfl rfl ?_
    refine LL.val (R.load rfl rfl (I.ldNc (vs := [Value.int IntKind.i64 f.1, Value.int IntKind.i64 f.2.1, strV f.2.2]) (RowL.cells rf12 rfl) (by rfl) (by rfl))) rfl rfl rfl ?_
    (refine LL.call (R.callV rfl rfl rfl rfl) rfl rfl rfl (stop_no g p f h (htl _ hp) (by omega) hr) ?_; rintro e Wf247 ⟨rfl, hW, tf246⟩; refine ⟨_, rfl, ?_⟩)
    have ztf246 := tf246.size
    replace rf12 := rf12.kept tf246 ⟨rf12.lt, by omega⟩
    replace hm := hm.kept tf246 ⟨by omega, by omega⟩
    replace gw := gw.kept tf246 ⟨by omega, by omega⟩
    replace hp := hp.kept tf246 ⟨by omega, by omega⟩
    refine LL.nilS ?_
    refine CC.seq ?_
    refine CC.region ?_
    refine LL.val (R.assign rfl rfl) rfl rfl rfl ?_
    refine LL.nilS ?_
    refine CC.ret ?_
    refine EE.ret _ rfl rfl ?_
    exact ⟨rfl, hW, gw⟩
end
end Go.Proofs.YtbbddpnjglijdaaDoor
/- walk: Left, Copy, New; calls over a walker's state (written by genwk7.py). -/
namespace Go.Proofs.YtbbddpnjglijdaaDoor
set_option linter.unusedVariables false
set_option linter.unusedSimpArgs false
open Go.RowKit Go.Shelf
set_option maxRecDepth 100000
set_option maxHeartbeats 8000000
section
variable (g : Nat) {x0 : Wd} {dn fol mk : Bool} {dir links : Int} {lv : Value} {ls : List Bs} {w : World} {B : Nat}
theorem new_bad (path : Bs) (er : Nat) (he : pathN path = er) (h0 : er ≠ 0) (hm : Mx w) (hl : path.length ≤ 9223372036854775807) : Calls Tryd.prog 9 #[strV path, .bool fol] w fun e w' => e = .returned (.tuple #[.pointer none, .int .i64 (er : Int)]) ∧ Below w.heap.size w w' := by
  have q := Below.refl w.heap.size w
  have he' : (er : Int) ≠ 0 := by omega
  refine X.fn Tryd.func9 rfl (n := 26) rfl rfl ?_
  refine CC.seq ?_
  refine CC.region ?_
  refine LL.val (R.assign rfl rfl) rfl rfl rfl ?_
  refine LL.val (R.assign rfl rfl) rfl rfl rfl ?_
  refine LL.nilS ?_
  refine CC.seq ?_
  refine CC.region ?_
  refine LL.val (R.move rfl rfl) rfl rfl rfl ?_
  (refine LL.call (R.call rfl rfl rfl) rfl rfl rfl (wparts_any path _ (by assumption) hl) ?_; rintro e W25 ⟨vp, rfl, op, b22⟩; refine ⟨_, rfl, ?_⟩; rw [he, if_neg h0] at op; rw [he]; obtain ⟨ap, cp, rfl, hcp⟩ := (op.reads stEnc).form rfl)
  have zb22 := b22.size
  replace hm := hm.up b22
  replace q := q.trans (b22.mono q.size)
  refine LL.val (R.move rfl rfl) rfl rfl rfl ?_
  refine LL.val (R.extract rfl rfl rfl) rfl rfl rfl ?_
  refine LL.val (R.extract rfl rfl rfl) rfl rfl rfl ?_
  refine LL.val (R.assign rfl rfl) rfl rfl rfl ?_
  refine LL.val (R.assign rfl rfl) rfl rfl rfl ?_
  refine LL.nilS ?_
  refine CC.seq ?_
  refine CC.seq ?_
  refine CC.region ?_
  refine LL.val (R.move rfl rfl) rfl rfl rfl ?_
  refine LL.val (R.neT rfl rfl rfl (by omega)) rfl rfl rfl ?_
  refine LL.nilS ?_
  refine CC.yes rfl ?_
  refine CC.seq ?_
  refine CC.region ?_
  refine LL.val (R.move rfl rfl) rfl rfl rfl ?_
  refine LL.val (R.assign rfl rfl) rfl rfl rfl ?_
  refine LL.val (R.assign rfl rfl) rfl rfl rfl ?_
  refine LL.nilS ?_
  refine CC.ret ?_
  refine EE.thenR ?_
  refine EE.ret _ rfl rfl ?_
  exact ⟨rfl, q⟩
theorem new_yes (path : Bs) (hz : pathN path = 0) (hm : Mx w) (hl : path.length ≤ 9223372036854775807) : Calls Tryd.prog 9 #[strV path, .bool fol] w fun e w' => ∃ g, e = .returned (.tuple #[.pointer (some ⟨g, 0, none⟩), .int .i64 0]) ∧ WkAt w' g (newW path fol) ∧ w.heap.size ≤ g ∧ Below w.heap.size w w' := by
  have q := Below.refl w.heap.size w
  have hpl := partsL_len0 hz
  refine X.fn Tryd.func9 rfl (n := 26) rfl rfl ?_
  refine CC.seq ?_
  refine CC.region ?_
  refine LL.val (R.assign rfl rfl) rfl rfl rfl ?_
  refine LL.val (R.assign rfl rfl) rfl rfl rfl ?_
  refine LL.nilS ?_
  refine CC.seq ?_
  refine CC.region ?_
  refine LL.val (R.move rfl rfl) rfl rfl rfl ?_
  (refine LL.call (R.call rfl rfl rfl) rfl rfl rfl (wparts_any path _ (by assumption) hl) ?_; rintro e W67 ⟨vp, rfl, op, b64⟩; refine ⟨_, rfl, ?_⟩; rw [hz, if_pos rfl] at op; rw [hz]; obtain ⟨ap, cp, rfl, hcp⟩ := (op.reads stEnc).form rfl)
  have zb64 := b64.size
  replace hm := hm.up b64
  replace q := q.trans (b64.mono q.size)
  refine LL.val (R.move rfl rfl) rfl rfl rfl ?_
  refine LL.val (R.extract rfl rfl rfl) rfl rfl rfl ?_
  refine LL.val (R.extract rfl rfl rfl) rfl rfl rfl ?_
  refine LL.val (R.assign rfl rfl) rfl rfl rfl ?_
  refine LL.val (R.assign rfl rfl) rfl rfl rfl ?_
  refine LL.nilS ?_
  refine CC.seq ?_
  refine CC.seq ?_
  refine CC.region ?_
  refine LL.val (R.move rfl rfl) rfl rfl rfl ?_
  refine LL.val (R.neF rfl rfl rfl (by omega)) rfl rfl rfl ?_
  refine LL.nilS ?_
  refine CC.no rfl ?_
  refine CC.skip ?_
  refine EE.thenN ?_
  refine CC.seq ?_
  refine CC.region ?_
  refine LL.val (R.move rfl rfl) rfl rfl rfl ?_
  refine LL.val (R.buildV rfl rfl (v := .agg #[Value.int IntKind.i64 0, Value.int IntKind.i64 0, Value.string { data := #[] }, Value.int IntKind.i64 0, Value.int IntKind.i64 0, Value.bool false, Value.int IntKind.i64 1, Value.slice none 0 0, Value.int IntKind.i64 0, Value.bool fol, Value.bool true]) (fun _ => by kernel_rfl)) rfl rfl rfl ?_
  refine LL.box [Value.int IntKind.i64 0, Value.int IntKind.i64 0, Value.string { data := #[] }, Value.int IntKind.i64 0, Value.int IntKind.i64 0, Value.bool false, Value.int IntKind.i64 1, Value.slice none 0 0, Value.int IntKind.i64 0, Value.bool fol, Value.bool true] rfl rfl rfl rfl rfl ?_
  intro W282 g283 eg283 r284 z285 b281
  replace b64 := b64.trans (b281.mono b64.size)
  replace op := op.up b281
  replace hm := hm.up b281
  replace q := q.trans (b281.mono q.size)
  refine LL.val (R.assign rfl rfl) rfl rfl rfl ?_
  refine LL.nilS ?_
  refine CC.seq ?_
  refine CC.region ?_
  refine LL.val (R.move rfl rfl) rfl rfl rfl ?_
  refine LL.val (R.move rfl rfl) rfl rfl rfl ?_
  (refine LL.call (R.call rfl rfl rfl) rfl rfl rfl (lead_any _ _ (partsL path) [] (by assumption) (op.reads stEnc) (B := 0) ⟨ReadsT.nil _, (fun x n c e => by cases e), Nat.zero_le _⟩ (by omega) (Nat.zero_le _)) ?_; rintro e W363 ⟨rfl, ⟨v2, B2, hN, hp2⟩, t362⟩; refine ⟨_, rfl, ?_⟩; rw [List.append_nil] at hp2; clear op)
  have zt362 := t362.size
  replace b281 := t362.onB b281 (fun j hj => ⟨by have := b281.size; omega, by omega⟩)
  replace b64 := t362.onB b64 (fun j hj => ⟨by have := b64.size; omega, by omega⟩)
  replace q := t362.onB q (fun j hj => ⟨by have := q.size; omega, by omega⟩)
  refine LL.nilS ?_
  refine CC.seq ?_
  refine CC.region ?_
  refine LL.val (R.move rfl rfl) rfl rfl rfl ?_
  (refine LL.call (R.call rfl rfl rfl) rfl rfl rfl (on_any _ (links := 0) hN hp2 (by omega)) ?_; rintro e W407 ⟨rfl, hW, t406⟩; refine ⟨_, rfl, ?_⟩)
  have zt406 := t406.size
  replace hp2 := hp2.kept t406 ⟨by omega, by omega⟩
  replace b281 := t406.onB b281 (fun j hj => ⟨by have := b281.size; omega, by omega⟩)
  replace b64 := t406.onB b64 (fun j hj => ⟨by have := b64.size; omega, by omega⟩)
  replace q := t406.onB q (fun j hj => ⟨by have := q.size; omega, by omega⟩)
  refine LL.nilS ?_
  refine CC.seq ?_
  refine CC.region ?_
  refine LL.val (R.move rfl rfl) rfl rfl rfl ?_
  refine LL.val (R.assign rfl rfl) rfl rfl rfl ?_
  refine LL.val (R.assign rfl rfl) rfl rfl rfl ?_
  refine LL.nilS ?_
  refine CC.ret ?_
  refine EE.ret _ rfl rfl ?_
  exact ⟨_, rfl, hW, by omega, q⟩
end
end Go.Proofs.YtbbddpnjglijdaaDoor
/- clear behind the end of a slice of structs that the call owns; s[lo:hi]. -/
namespace Go.Proofs.YtbbddpnjglijdaaDoor
set_option linter.unusedVariables false
set_option linter.unusedSimpArgs false
open Go.RowKit Go.Shelf

section
variable {α : Type} {enc : α → List Value} {k : Nat} {P : Program} {T e : TypeId} {z : Value} {bytes : Nat}
end
end Go.Proofs.YtbbddpnjglijdaaDoor
/- An element of a slice of structs that the call owns, stored anew; the first elements of one. -/
namespace Go.Proofs.YtbbddpnjglijdaaDoor
set_option linter.unusedVariables false
set_option linter.unusedSimpArgs false
open Go.RowKit Go.Shelf

section
variable {α : Type} {enc : α → List Value} {k : Nat}
theorem Enc.set (E : Enc enc k) (ts : List α) (i : Nat) (t : α) (h : i < ts.length) : (ts.set i t).flatMap enc = (ts.flatMap enc).take (i * k) ++ enc t ++ (ts.flatMap enc).drop (i * k + k) := by
  have hp : i * k + k = (i + 1) * k := by rw [Nat.add_mul]; omega
  rw [List.set_eq_take_append_cons_drop, if_pos h, List.flatMap_append, List.flatMap_cons, hp, E.drop, E.take, List.append_assoc]
theorem OwnsT.block {w : World} {base e : Nat} {v : Value} {ts : List α} (h : OwnsT enc k w base e v ts) : (v = .slice Option.none 0 0 ∧ ts = []) ∨ ∃ g cap, v = .slice (some ⟨g, 0, Option.none⟩) ts.length cap ∧ ts.length ≤ cap ∧ base ≤ g ∧ g < w.heap.size := by
  rcases h.2 with ⟨e1, h0⟩ | ⟨g, cap, cur, e1, hbg, hg, hnc, _⟩
  · exact .inl ⟨e1, List.eq_nil_of_length_eq_zero h0⟩
  · exact .inr ⟨g, cap, e1, hnc, hbg, (Array.getElem?_eq_some_iff.1 hg).1⟩
end

section
variable {α : Type} {enc : α → List Value} {k : Nat} {P : Program} {w : World} {o : Oper} {n : Nat} {D : List Deferred} {M : Slots} {T e : TypeId} {z : Value} {bytes : Nat} {r : Option Nat} {ops : Array Oper} {Q : Exit → Act → World → Prop} {rest : List Oper}
end
end Go.Proofs.YtbbddpnjglijdaaDoor
/- A field of an element of a slice of structs that the call owns, stored anew. -/
namespace Go.Proofs.YtbbddpnjglijdaaDoor
set_option linter.unusedVariables false
set_option linter.unusedSimpArgs false
open Go.RowKit Go.Shelf

section
variable {α : Type} {enc : α → List Value} {k : Nat} {P : Program} {e : TypeId} {r : Option Nat} {ops : Array Oper} {Q : Exit → Act → World → Prop} {rest : List Oper} {w : World} {n : Nat} {D : List Deferred} {M : Slots} {o : Oper}
end
end Go.Proofs.YtbbddpnjglijdaaDoor
/- Slices whose elements have many cells: made, copied; parts of elements loaded and stored. Over any program. -/
namespace Go.Proofs.YtbbddpnjglijdaaDoor
set_option linter.unusedVariables false
set_option linter.unusedSimpArgs false
open Go.RowKit Go.Shelf

/-- k cells from a place on. -/
structure CellsN (w : World) (p : Addr) (k : Nat) (vs : List Value) : Prop where
  at' : Cells w p vs
  len : vs.length = k
section
variable {w w' : World} {p : Addr} {k b o : Nat} {vs : List Value} {P : Program} {t : TypeId}
theorem CellsN.lt (h : CellsN w ⟨b, o, none⟩ k vs) (hk : 0 < k) : b < w.heap.size := by
  have hl := h.len
  obtain ⟨u, hu⟩ : ∃ u, vs[0]? = some u := ⟨_, List.getElem?_eq_getElem (by omega)⟩
  have := h.at' 0 u hu
  rw [add_plain] at this
  exact World.block_lt_of_cell? _ _ this
theorem CellsN.up (h : CellsN w ⟨b, o, none⟩ k vs) (hb : Below w.heap.size w w') : CellsN w' ⟨b, o, none⟩ k vs := ⟨fun j u hu => by
  have h1 := h.at' j u hu
  rw [add_plain] at *
  exact (hb.cell (p := ⟨b, o + j, none⟩) (World.block_lt_of_cell? _ _ h1)).trans h1, h.len⟩
theorem CellsN.gr {r : Nat} (h : CellsN w ⟨b, o, none⟩ k vs) (hg : w.grownBy w' (some r)) (hne : b ≠ r) : CellsN w' ⟨b, o, none⟩ k vs := ⟨fun j u hu => by
  have h1 := h.at' j u hu
  rw [add_plain] at *
  exact (World.cell?_of_block (hg.block b (World.block_lt_of_cell? _ _ h1) (by simpa using hne))).trans h1, h.len⟩
theorem CellsN.kept {K : Nat → Prop} (h : CellsN w ⟨b, o, none⟩ k vs) (hk : Kept K w w') (hb : K b) : CellsN w' ⟨b, o, none⟩ k vs := ⟨fun j u hu => by
  have h1 := h.at' j u hu
  rw [add_plain] at *
  exact (World.cell?_of_block (hk.block b hb)).trans h1, h.len⟩
/-- A part. -/
theorem CellsN.part {us : List Value} (h : CellsN w ⟨b, o, none⟩ k vs) (c : Nat) {k' : Nat} (hu : (vs.drop c).take k' = us) (hl : c + k' ≤ k) : CellsN w ⟨b, o + c, none⟩ k' us := by
  have hv := h.len
  subst hu
  refine ⟨fun j u hj => ?_, by rw [List.length_take, List.length_drop]; omega⟩
  have hlt := (List.getElem?_eq_some_iff.1 hj).1
  rw [List.length_take, List.length_drop] at hlt
  rw [List.getElem?_take, if_pos (by omega), List.getElem?_drop] at hj
  have := h.at' _ u hj
  rw [add_plain] at *
  rw [Nat.add_assoc]
  exact this
theorem CellsN.cell {u : Value} (h : CellsN w ⟨b, o, none⟩ k vs) {j : Nat} (hu : vs[j]? = some u) : w.cell? ⟨b, o + j, none⟩ = some u := by
  have := h.at' j u hu
  rwa [add_plain] at this
theorem I.ldM (h : CellsN w p k vs) (hT : aggB P t = true) (hz : szB P t = some k) : (Instr.loadAt t (.pointer (some p))).run P w = .ok (.agg vs.toArray) w := I.ldN hT (by rw [hz, h.len]) h.at'
theorem RowL.cellsN {g e off : Nat} {xs : List Value} (h : RowL w g e xs) (hv : (xs.drop off).take k = vs) (hl : off + k ≤ xs.length) : CellsN w ⟨g, off, none⟩ k vs := by
  have hlen : vs.length = k := by rw [← hv, List.length_take, List.length_drop]; omega
  exact ⟨h.cells (by rw [hlen]; exact hv), hlen⟩
theorem RowL.elemN {α : Type} {enc : α → List Value} {g e i : Nat} {ts : List α} {x : α} (E : Enc enc k) (h : RowL w g e (ts.flatMap enc)) (hx : ts[i]? = some x) : CellsN w ⟨g, i * k, none⟩ k (enc x) := by
  have hi := (List.getElem?_eq_some_iff.1 hx).1
  have hf := E.flat ts
  have hin : i * k + k ≤ ts.length * k := by
    have : (i + 1) * k ≤ ts.length * k := Nat.mul_le_mul_right _ hi
    rw [Nat.add_mul] at this
    omega
  refine h.cellsN ?_ (by omega)
  rw [E.drop, ← Nat.one_mul k, E.take]
  rw [show ts.drop i = x :: ts.drop (i + 1) by rw [← (List.getElem?_eq_some_iff.1 hx).2]; exact List.drop_eq_getElem_cons hi]
  simp
theorem ReadsT.elemN {α : Type} {enc : α → List Value} (E : Enc enc k) {off n cap i : Nat} {ts : List α} {x : α} (h : ReadsT enc k w (.slice (some ⟨b, off, none⟩) n cap) ts) (hx : ts[i]? = some x) : CellsN w ⟨b, off + i * k, none⟩ k (enc x) := by
  obtain ⟨b', off', e, _, hc⟩ := h.get E hx
  simp only [Option.some.injEq, Addr.mk.injEq] at e
  obtain ⟨rfl, rfl, _⟩ := e
  exact ⟨hc, E.len x⟩
end

section
variable {α : Type} {enc : α → List Value} {k : Nat} {P : Program} {w : World} {o : Oper} {n : Nat} {D : List Deferred} {M : Slots} {T e : TypeId} {z : Value} {bytes : Nat} {r : Option Nat} {ops : Array Oper} {Q : Exit → Act → World → Prop} {rest : List Oper}
end
end Go.Proofs.YtbbddpnjglijdaaDoor
/- walk: places, Find; calls over a walker's state (written by genwk8.py). -/
namespace Go.Proofs.YtbbddpnjglijdaaDoor
set_option linter.unusedVariables false
set_option linter.unusedSimpArgs false
open Go.RowKit Go.Shelf
set_option maxRecDepth 100000
set_option maxHeartbeats 8000000
/-- A place: a directory, a name in it, what it is. -/
abbrev Pl := Int × Bs × Fd
def plE (p : Pl) : List Value := [.int .i64 p.1, strV p.2.1, .int .i64 p.2.2.1, .int .i64 p.2.2.2.1, strV p.2.2.2.2]
theorem plEnc : Enc plE 5 := ⟨fun _ => rfl, fun t u hu => by
  simp only [plE, List.mem_cons, List.not_mem_nil, or_false] at hu
  rcases hu with rfl | rfl | rfl | rfl | rfl <;> rfl, by decide⟩
theorem cells_sub {w : World} {b o k : Nat} {vs us : List Value} (h : Cells w ⟨b, o, none⟩ vs) (e : vs.drop k = us) : Cells w ⟨b, o + k, none⟩ us := fun j u hu => by
  subst e
  rw [List.getElem?_drop] at hu
  have := h.at (j := k + j) hu
  rw [← Nat.add_assoc] at this
  have e : Addr.add ⟨b, o + k, none⟩ j = ⟨b, o + k + j, none⟩ := by simp [Addr.add]
  rw [e]
  exact this
def plB (d : Int) (nm : Bs) (p : Pl) : Bool := decide (p.1 = d) && decide (p.2.1 = nm)
def findP (l : List Pl) (d : Int) (nm : Bs) : Option Fd := (l.find? (plB d nm)).map (·.2.2)
theorem findP_none {l : List Pl} {d : Int} {nm : Bs} (h : l.find? (plB d nm) = none) : findP l d nm = none := by
  unfold findP
  rw [h]
  rfl
theorem findP_at {l : List Pl} {d : Int} {nm : Bs} {i : Nat} {x : Pl} (h : (l.take i).find? (plB d nm) = none) (hx : l[i]? = some x) (hb : plB d nm x = true) : findP l d nm = some x.2.2 := by
  unfold findP
  obtain ⟨hi, e⟩ := List.getElem?_eq_some_iff.1 hx
  have e2 : l = l.take i ++ x :: l.drop (i + 1) := by
    rw [← e, ← List.drop_eq_getElem_cons hi, List.take_append_drop]
  rw [e2, List.find?_append, h, List.find?_cons_of_pos hb]
  rfl
theorem find_step {l : List Pl} {d : Int} {nm : Bs} {i : Nat} {x : Pl} (h : (l.take i).find? (plB d nm) = none) (hx : l[i]? = some x) (hb : plB d nm x = false) : (l.take (i + 1)).find? (plB d nm) = none := by
  rw [List.take_add_one, hx, List.find?_append, h]
  simp [hb]
theorem find_any (d : Int) (nm : Bs) (v : Value) (l : List Pl) (w : World) (hv : ReadsT plE 5 w v l) (hl : l.length ≤ 1048576) : Calls Tryd.prog 27 #[v, .int .i64 d, strV nm] w fun e w' => e = .returned (.tuple #[fdV ((findP l d nm).getD (0, 0, [])), .bool (findP l d nm).isSome]) ∧ Below w.heap.size w w' := by
  have q := Below.refl w.heap.size w
  obtain ⟨N, hN⟩ : ∃ N, l.length = N := ⟨_, rfl⟩
  obtain ⟨a, cap, rfl, hc⟩ := hv.form hN
  have hF : ∀ W, Below w.heap.size w W → ReadsT plE 5 W (.slice a N cap) l := fun W b => hv.up b
  rw [hN] at hl
  clear hv
  refine X.fn Tryd.func27 rfl (n := 37) rfl rfl ?_
  refine CC.seq ?_
  refine CC.region ?_
  refine LL.alloc ([Value.int IntKind.i64 0, Value.int IntKind.i64 0, Value.string { data := { toList := [] } }]) rfl rfl rfl rfl rfl ?_
  intro W2 g3 eg3 r4 z5 b1
  replace q := q.trans (b1.mono q.size)
  refine LL.val (R.assign rfl rfl) rfl rfl rfl ?_
  refine LL.nilS ?_
  refine CC.seq ?_
  refine CC.seq ?_
  refine CC.region ?_
  refine LL.val (R.assign rfl rfl) rfl rfl rfl ?_
  refine LL.nilS ?_
  refine CC.block ?_
  have rr := r4
  have jq := q.size
  have jr := r4.lt
  obtain ⟨g0, eg⟩ : ∃ g, g = g3 := ⟨_, rfl⟩
  subst eg
  refine CC.loop (α := Nat) (fun i => [(0, .slice a N cap), (1, .int .i64 d), (2, strV nm), (6, .pointer (some ⟨g0, 0, none⟩)), (8, .int .i64 (i : Int))]) (fun i W => i ≤ N ∧ Below w.heap.size w W ∧ RowL W g0 38 [.int .i64 0, .int .i64 0, strV []] ∧ (l.take i).find? (plB d nm) = none) (fun i => N - i) 0 ⟨rfl, rfl, rfl, rfl, rfl, trivial⟩ ⟨Nat.zero_le _, q, rr, rfl⟩ ?_
  clear q rr r4 jr
  rintro i W ⟨hi, q, rr, hnone⟩
  have jq := q.size
  have jr := rr.lt
  show CC none Tryd.prog _ 37 [] (sl [(0, .slice a N cap), (1, .int .i64 d), (2, strV nm), (6, .pointer (some ⟨g0, 0, none⟩)), (8, .int .i64 (i : Int))]) _ W
  by_cases hlt : i < N
  case neg =>
    obtain rfl : N = i := by omega
    rw [List.take_of_length_le (by omega)] at hnone
    rw [findP_none hnone]
    refine CC.seq ?_
    refine CC.seq ?_
    refine CC.region ?_
    refine LL.val (R.move rfl rfl) rfl rfl rfl ?_
    refine LL.val (R.move rfl rfl) rfl rfl rfl ?_
    refine LL.val (R.len rfl rfl rfl rfl) rfl rfl rfl ?_
    refine LL.val (R.ltF rfl rfl rfl (by omega)) rfl rfl rfl ?_
    refine LL.nilS ?_
    refine CC.no rfl ?_
    refine CC.exit ?_
    refine EE.thenX ?_
    refine EE.thenX ?_
    refine EE.inX ?_
    refine EE.thenN ?_
    refine CC.seq ?_
    refine CC.region ?_
    refine LL.val (R.buildV rfl rfl (v := .agg #[Value.int IntKind.i64 0, Value.int IntKind.i64 0, Value.string { data := #[] }]) (fun _ => by kernel_rfl)) rfl rfl rfl ?_
    refine LL.storeN (vs := [Value.int IntKind.i64 0, Value.int IntKind.i64 0, Value.string { data := #[] }]) rfl rfl rfl rfl rr (by exact Nat.le_of_ble_eq_true rfl) (ones_of rfl) rfl rfl ?_
    intro Wa2 ra3 ba1 za4
    have hlba1 := rr.lt
    replace ra3 : RowL Wa2 _ 38 [Value.int IntKind.i64 0, Value.int IntKind.i64 0, Value.string { data := #[] }] := ra3
    clear rr
    replace q := q.grown ba1 q.size (by rintro k ⟨⟩; omega)
    have rr := ra3
    clear ra3
    refine LL.val (R.assign rfl rfl) rfl rfl rfl ?_
    refine LL.nilS ?_
    refine CC.ret ?_
    refine EE.ret2 rfl ⟨_, rfl, lvNc (RowL.cells0 (by assumption)) (by rfl) (by rfl)⟩ rfl ?_
    exact ⟨rfl, q⟩
  obtain ⟨⟨pd, pn, fi, fk, ft⟩, hx⟩ : ∃ x, l[i]? = some x := ⟨_, List.getElem?_eq_getElem (by omega)⟩
  obtain ⟨b1, o1, rfl, lb1, _⟩ := (hF _ q).get plEnc hx
  have m1 : CellsN W ⟨b1, o1 + i * 5, none⟩ 5 [.int .i64 pd, strV pn, .int .i64 fi, .int .i64 fk, strV ft] := (hF W q).elemN plEnc hx
  have m3 : CellsN W ⟨b1, o1 + i * 5 + 2, none⟩ 3 [.int .i64 fi, .int .i64 fk, strV ft] := ⟨cells_sub m1.at' rfl, rfl⟩
  have c0 : W.cell? ⟨b1, o1 + i * 5 + 0, none⟩ = some (.int .i64 pd) := m1.at'.at (j := 0) rfl
  have c1 : W.cell? ⟨b1, o1 + i * 5 + 1, none⟩ = some (strV pn) := m1.at'.at (j := 1) rfl
  have c2 : W.cell? ⟨b1, o1 + i * 5, none⟩ = some (.int .i64 pd) := c0
  by_cases hd : pd = d
  · by_cases hn : pn = nm
    · have hb : plB d nm (pd, pn, fi, fk, ft) = true := by unfold plB; simp [hd, hn]
      rw [findP_at hnone hx hb]
      clear hb hnone
      refine CC.seq ?_
      refine CC.seq ?_
      refine CC.region ?_
      refine LL.val (R.move rfl rfl) rfl rfl rfl ?_
      refine LL.val (R.move rfl rfl) rfl rfl rfl ?_
      refine LL.val (R.len rfl rfl rfl rfl) rfl rfl rfl ?_
      refine LL.val (R.ltT rfl rfl rfl (by omega)) rfl rfl rfl ?_
      refine LL.nilS ?_
      refine CC.yes rfl ?_
      refine CC.skip ?_
      refine EE.thenN ?_
      refine CC.seq ?_
      refine CC.block ?_
      refine CC.seq ?_
      refine CC.region ?_
      refine LL.val (R.move rfl rfl) rfl rfl rfl ?_
      refine LL.val (R.move rfl rfl) rfl rfl rfl ?_
      refine LL.val (R.index rfl rfl rfl (I.ixS rfl (by omega))) rfl rfl rfl ?_
      refine LL.val (R.field rfl rfl (I.fld rfl)) rfl rfl rfl ?_
      refine LL.val (R.load rfl rfl (I.ld1 rfl (by assumption))) rfl rfl rfl ?_
      refine LL.val (R.move rfl rfl) rfl rfl rfl ?_
      refine LL.val (R.eqT rfl rfl rfl (by omega)) rfl rfl rfl ?_
      refine LL.val (R.move rfl rfl) rfl rfl rfl ?_
      refine LL.val (R.move rfl rfl) rfl rfl rfl ?_
      refine LL.val (R.move rfl rfl) rfl rfl rfl ?_
      refine LL.val (R.index rfl rfl rfl (I.ixS rfl (by omega))) rfl rfl rfl ?_
      refine LL.val (R.field rfl rfl (I.fld rfl)) rfl rfl rfl ?_
      refine LL.val (R.load rfl rfl (I.ld1 rfl (by assumption))) rfl rfl rfl ?_
      refine LL.val (R.move rfl rfl) rfl rfl rfl ?_
      (refine LL.val (R.eqS (a := pn) (b := nm) (c := true) rfl rfl rfl (by simp [hn])) rfl rfl rfl ?_)
      refine LL.val (R.pick rfl rfl rfl) rfl rfl rfl ?_
      refine LL.nilS ?_
      refine CC.yes rfl ?_
      refine CC.seq ?_
      refine CC.region ?_
      refine LL.val (R.move rfl rfl) rfl rfl rfl ?_
      refine LL.val (R.move rfl rfl) rfl rfl rfl ?_
      refine LL.val (R.index rfl rfl rfl (I.ixS rfl (by omega))) rfl rfl rfl ?_
      refine LL.val (R.field rfl rfl (I.fld rfl)) rfl rfl rfl ?_
      refine LL.val (R.load rfl rfl (I.ldM (by assumption) rfl rfl)) rfl rfl rfl ?_
      refine LL.storeN (vs := [Value.int IntKind.i64 fi, Value.int IntKind.i64 fk, strV ft]) rfl rfl rfl rfl rr (by exact Nat.le_of_ble_eq_true rfl) (ones_of rfl) rfl rfl ?_
      intro Wb2 rb3 bb1 zb4
      have hlbb1 := rr.lt
      replace rb3 : RowL Wb2 _ 38 [Value.int IntKind.i64 fi, Value.int IntKind.i64 fk, strV ft] := rb3
      clear rr
      replace q := q.grown bb1 q.size (by rintro k ⟨⟩; omega)
      have rr := rb3
      clear rb3
      refine LL.val (R.assign rfl rfl) rfl rfl rfl ?_
      refine LL.nilS ?_
      refine CC.ret ?_
      refine EE.inR ?_
      refine EE.thenR ?_
      refine EE.thenR ?_
      refine EE.inR ?_
      refine EE.thenR ?_
      refine EE.ret2 rfl ⟨_, rfl, lvNc (RowL.cells0 (by assumption)) (by rfl) (by rfl)⟩ rfl ?_
      exact ⟨rfl, q⟩
    · have hb : plB d nm (pd, pn, fi, fk, ft) = false := by unfold plB; simp [hd, hn]
      have hst := find_step hnone hx hb
      clear hb hnone
      refine CC.seq ?_
      refine CC.seq ?_
      refine CC.region ?_
      refine LL.val (R.move rfl rfl) rfl rfl rfl ?_
      refine LL.val (R.move rfl rfl) rfl rfl rfl ?_
      refine LL.val (R.len rfl rfl rfl rfl) rfl rfl rfl ?_
      refine LL.val (R.ltT rfl rfl rfl (by omega)) rfl rfl rfl ?_
      refine LL.nilS ?_
      refine CC.yes rfl ?_
      refine CC.skip ?_
      refine EE.thenN ?_
      refine CC.seq ?_
      refine CC.block ?_
      refine CC.seq ?_
      refine CC.region ?_
      refine LL.val (R.move rfl rfl) rfl rfl rfl ?_
      refine LL.val (R.move rfl rfl) rfl rfl rfl ?_
      refine LL.val (R.index rfl rfl rfl (I.ixS rfl (by omega))) rfl rfl rfl ?_
      refine LL.val (R.field rfl rfl (I.fld rfl)) rfl rfl rfl ?_
      refine LL.val (R.load rfl rfl (I.ld1 rfl (by assumption))) rfl rfl rfl ?_
      refine LL.val (R.move rfl rfl) rfl rfl rfl ?_
      refine LL.val (R.eqT rfl rfl rfl (by omega)) rfl rfl rfl ?_
      refine LL.val (R.move rfl rfl) rfl rfl rfl ?_
      refine LL.val (R.move rfl rfl) rfl rfl rfl ?_
      refine LL.val (R.move rfl rfl) rfl rfl rfl ?_
      refine LL.val (R.index rfl rfl rfl (I.ixS rfl (by omega))) rfl rfl rfl ?_
      refine LL.val (R.field rfl rfl (I.fld rfl)) rfl rfl rfl ?_
      refine LL.val (R.load rfl rfl (I.ld1 rfl (by assumption))) rfl rfl rfl ?_
      refine LL.val (R.move rfl rfl) rfl rfl rfl ?_
      (refine LL.val (R.eqS (a := pn) (b := nm) (c := false) rfl rfl rfl (by simp [hn])) rfl rfl rfl ?_)
      refine LL.val (R.pick rfl rfl rfl) rfl rfl rfl ?_
      refine LL.nilS ?_
      refine CC.no rfl ?_
      refine CC.skip ?_
      refine EE.inN ?_
      refine EE.thenN ?_
      refine CC.region ?_
      refine LL.val (R.move rfl rfl) rfl rfl rfl ?_
      refine LL.val (R.addNc rfl rfl rfl rfl (by omega)) rfl rfl rfl ?_
      refine LL.val (R.assign rfl rfl) rfl rfl rfl ?_
      refine LL.nil ?_
      exact EE.round (i + 1) ⟨rfl, rfl, rfl, rfl, rfl, trivial⟩ ⟨by show i + 1 ≤ N; omega, q, rr, hst⟩ (by show N - (i + 1) < N - i; omega)
  · have hb : plB d nm (pd, pn, fi, fk, ft) = false := by unfold plB; simp [hd]
    have hst := find_step hnone hx hb
    clear hb hnone
    refine CC.seq ?_
    refine CC.seq ?_
    refine CC.region ?_
    refine LL.val (R.move rfl rfl) rfl rfl rfl ?_
    refine LL.val (R.move rfl rfl) rfl rfl rfl ?_
    refine LL.val (R.len rfl rfl rfl rfl) rfl rfl rfl ?_
    refine LL.val (R.ltT rfl rfl rfl (by omega)) rfl rfl rfl ?_
    refine LL.nilS ?_
    refine CC.yes rfl ?_
    refine CC.skip ?_
    refine EE.thenN ?_
    refine CC.seq ?_
    refine CC.block ?_
    refine CC.seq ?_
    refine CC.region ?_
    refine LL.val (R.move rfl rfl) rfl rfl rfl ?_
    refine LL.val (R.move rfl rfl) rfl rfl rfl ?_
    refine LL.val (R.index rfl rfl rfl (I.ixS rfl (by omega))) rfl rfl rfl ?_
    refine LL.val (R.field rfl rfl (I.fld rfl)) rfl rfl rfl ?_
    refine LL.val (R.load rfl rfl (I.ld1 rfl (by assumption))) rfl rfl rfl ?_
    refine LL.val (R.move rfl rfl) rfl rfl rfl ?_
    refine LL.val (R.eqF rfl rfl rfl (by omega)) rfl rfl rfl ?_
    refine LL.val (R.move rfl rfl) rfl rfl rfl ?_
    refine LL.skip rfl rfl ?_
    refine LL.skip rfl rfl ?_
    refine LL.skip rfl rfl ?_
    refine LL.skip rfl rfl ?_
    refine LL.skip rfl rfl ?_
    refine LL.skip rfl rfl ?_
    refine LL.skip rfl rfl ?_
    refine LL.val (R.pick rfl rfl rfl) rfl rfl rfl ?_
    refine LL.nilS ?_
    refine CC.no rfl ?_
    refine CC.skip ?_
    refine EE.inN ?_
    refine EE.thenN ?_
    refine CC.region ?_
    refine LL.val (R.move rfl rfl) rfl rfl rfl ?_
    refine LL.val (R.addNc rfl rfl rfl rfl (by omega)) rfl rfl rfl ?_
    refine LL.val (R.assign rfl rfl) rfl rfl rfl ?_
    refine LL.nil ?_
    exact EE.round (i + 1) ⟨rfl, rfl, rfl, rfl, rfl, trivial⟩ ⟨by show i + 1 ≤ N; omega, q, rr, hst⟩ (by show N - (i + 1) < N - i; omega)
section
variable (g : Nat) {s : Wk} {w : World}
theorem asksW (A : WkAt w g s) (p : Bs) (r : List Bs) (hf : s.fin = none) (hp : s.ps = p :: r) : Calls Tryd.prog 24 #[.pointer (some ⟨g, 0, none⟩)] w fun e w' => e = .returned (.tuple #[.int .i64 s.dir, strV p, .bool true]) ∧ Below w.heap.size w w' := by
  obtain ⟨d, k, lv, ls, B, h1, h2, h3, h4⟩ := A.out
  obtain ⟨rfl, rfl, rfl⟩ := h4 hf
  rw [hf] at h1
  rw [hp] at h2
  obtain ⟨a, c, rfl⟩ := h2.len
  exact asks_run g p r _ _ _ rfl h1 h2.r
theorem asksD (A : WkAt w g s) (x : Wd) (hf : s.fin = some x) : Calls Tryd.prog 24 #[.pointer (some ⟨g, 0, none⟩)] w fun e w' => e = .returned (.tuple #[.int .i64 0, strV [], .bool false]) ∧ Below w.heap.size w w' := by
  obtain ⟨d, k, lv, ls, B, h1, h2, h3, h4⟩ := A.out
  rw [hf] at h1
  exact asks_done g h1
theorem doneD (A : WkAt w g s) (x : Wd) (hf : s.fin = some x) : Calls Tryd.prog 25 #[.pointer (some ⟨g, 0, none⟩)] w fun e w' => e = .returned (.tuple #[wdV x, .bool true]) ∧ Below w.heap.size w w' := by
  obtain ⟨d, k, lv, ls, B, h1, h2, h3, h4⟩ := A.out
  rw [hf] at h1
  exact done_done g h1
theorem missW (A : WkAt w g s) (p : Bs) (r : List Bs) (hf : s.fin = none) (hp : s.ps = p :: r) (hk : s.ok) : Calls Tryd.prog 13 #[.pointer (some ⟨g, 0, none⟩)] w fun e w' => e = .returned (.int .i64 0) ∧ WkAt w' g s.miss ∧ Kept (fun j => j < w.heap.size ∧ j ≠ g) w w' := by
  have hb := hk.big
  obtain ⟨dir, ps, links, fol, fin⟩ := s
  dsimp only at hf hp hb
  subst hf hp
  obtain ⟨d, k, lv, ls, B, h1, h2, h3, h4⟩ := A.out
  obtain ⟨rfl, rfl, rfl⟩ := h4 rfl
  exact miss_run g h1 h2 (by simp only [List.length_cons] at hb; omega)
theorem giveW (A : WkAt w g s) (p : Bs) (r : List Bs) (hf : s.fin = none) (hp : s.ps = p :: r) (hk : s.ok) (f : Fd) (hm : Mx w) (hg0 : 0 < g) (ht : f.2.1 = 3 → f.2.2.length ≤ 1048576) : Calls Tryd.prog 14 #[.pointer (some ⟨g, 0, none⟩), fdV f] w fun e w' => e = .returned (.int .i64 0) ∧ WkAt w' g (s.give f) ∧ Kept (fun j => j < w.heap.size ∧ j ≠ g) w w' := by
  have hb := hk.big
  have h8 := hk.links
  obtain ⟨dir, ps, links, fol, fin⟩ := s
  dsimp only at hf hp hb h8
  subst hf hp
  obtain ⟨d, k, lv, ls, B, h1, h2, h3, h4⟩ := A.out
  obtain ⟨rfl, rfl, rfl⟩ := h4 rfl
  exact give_run g f h1 h2 (by simp only [List.length_cons] at hb; omega) hm hg0 h8 ht
end
end Go.Proofs.YtbbddpnjglijdaaDoor
/- walk: goes (written by genwk9.py). -/
namespace Go.Proofs.YtbbddpnjglijdaaDoor
set_option linter.unusedVariables false
set_option linter.unusedSimpArgs false
open Go.RowKit Go.Shelf
set_option maxRecDepth 100000
set_option maxHeartbeats 8000000
/-- An answer, by places. -/
def stepP (l : List Pl) (s : Wk) : Wk := match s.fin with
  | some _ => s
  | none => match s.ps with
    | [] => s
    | p :: _ => match findP l s.dir p with
      | some f => s.give f
      | none => s.miss
def iterP (l : List Pl) : Nat → Wk → Wk
  | 0, s => s
  | n + 1, s => stepP l (iterP l n s)
theorem step_done {l : List Pl} {s : Wk} {x : Wd} (h : s.fin = some x) : stepP l s = s := by
  unfold stepP
  rw [h]
theorem iter_done {l : List Pl} {s : Wk} {x : Wd} {k : Nat} (h : (iterP l k s).fin = some x) : ∀ {n}, k ≤ n → iterP l n s = iterP l k s
  | 0, hk => by
    obtain rfl : k = 0 := by omega
    rfl
  | n + 1, hk => by
    by_cases e : k = n + 1
    · rw [e]
    · have ih := iter_done h (n := n) (by omega)
      show stepP l (iterP l n s) = _
      rw [ih, step_done h]
theorem miss_asks (s : Wk) : s.miss.asks := done_asks _ _
theorem step_ok {l : List Pl} {s : Wk} (h : s.ok) : (stepP l s).ok := by
  unfold stepP
  repeat' split
  · exact h
  · exact h
  · exact give_ok h _
  · exact miss_ok h
theorem step_asks {l : List Pl} {s : Wk} (h : s.asks) : (stepP l s).asks := by
  unfold stepP
  repeat' split
  · exact h
  · exact h
  · exact give_asks h _
  · exact miss_asks _
theorem iter_ok {l : List Pl} {s : Wk} (h : s.ok) : ∀ n, (iterP l n s).ok
  | 0 => h
  | n + 1 => step_ok (iter_ok h n)
theorem iter_asks {l : List Pl} {s : Wk} (h : s.asks) : ∀ n, (iterP l n s).asks
  | 0 => h
  | n + 1 => step_asks (iter_asks h n)
theorem findP_mem {l : List Pl} {d : Int} {nm : Bs} {f : Fd} (h : findP l d nm = some f) : ∃ x ∈ l, x.2.2 = f := by
  unfold findP at h
  cases e : l.find? (plB d nm) with
  | none => rw [e] at h; cases h
  | some x => rw [e] at h; exact ⟨x, List.mem_of_find?_eq_some e, Option.some.inj h⟩
theorem num17_any (z : Int) (w : World) : Calls Tryd.prog 11 #[.int .i64 z] w fun e w' => e = .returned (.int .i64 z) ∧ w = w' := by
  refine X.fn Tryd.func11 rfl (n := 4) rfl rfl ?_
  refine CC.seq ?_
  refine CC.region ?_
  refine LL.val (R.assign rfl rfl) rfl rfl rfl ?_
  refine LL.nilS ?_
  refine CC.seq ?_
  refine CC.region ?_
  refine LL.val (R.move rfl rfl) rfl rfl rfl ?_
  refine LL.val (R.assign rfl rfl) rfl rfl rfl ?_
  refine LL.nilS ?_
  refine CC.ret ?_
  refine EE.ret _ rfl rfl ?_
  exact ⟨rfl, rfl⟩
theorem goes_fin (path : Bs) (fol : Bool) (v : Value) (l : List Pl) (w : World) (hm : Mx w) (hl : path.length ≤ 9223372036854775807) (hz : pathN path = 0) (hv : ReadsT plE 5 w v l) (hN : l.length ≤ 1048576) (hT : ∀ p ∈ l, p.2.2.2.1 = 3 → p.2.2.2.2.length ≤ 1048576) (x : Wd) (hx : (iterP l 20000 (newW path fol)).fin = some x) : Calls Tryd.prog 19 #[strV path, .bool fol, v] w fun e w' => e = .returned (.tuple #[wdV x, .int .i64 0]) ∧ Below w.heap.size w w' := by
  have q := Below.refl w.heap.size w
  have hF : ∀ W, Below w.heap.size w W → ReadsT plE 5 W v l := fun W b => hv.up b
  have hok := iter_ok (l := l) (new_ok fol hz)
  have has := iter_asks (l := l) (s := newW path fol) (on_asks _)
  clear hv
  refine X.fn Tryd.func19 rfl (n := 64) rfl rfl ?_
  refine CC.seq ?_
  refine CC.region ?_
  refine LL.alloc ([Value.int IntKind.i64 0, Value.int IntKind.i64 0, Value.string { data := { toList := [] } }, Value.int IntKind.i64 0, Value.int IntKind.i64 0]) rfl rfl rfl rfl rfl ?_
  intro W9 g10 eg10 r11 z12 b8
  replace hm := hm.up b8
  replace q := q.trans (b8.mono q.size)
  refine LL.val (R.assign rfl rfl) rfl rfl rfl ?_
  refine LL.nilS ?_
  refine CC.seq ?_
  refine CC.region ?_
  refine LL.val (R.move rfl rfl) rfl rfl rfl ?_
  refine LL.val (R.move rfl rfl) rfl rfl rfl ?_
  have l41 := r11.lt
  (refine LL.call (R.call rfl rfl rfl) rfl rfl rfl (new_yes path hz (by assumption) hl) ?_; rintro e W40 ⟨g, rfl, A, hg, b37⟩; refine ⟨_, rfl, ?_⟩)
  have zb37 := b37.size
  replace r11 := r11.up b37
  replace b8 := b8.trans (b37.mono b8.size)
  replace hm := hm.up b37
  replace q := q.trans (b37.mono q.size)
  refine LL.val (R.move rfl rfl) rfl rfl rfl ?_
  refine LL.val (R.extract rfl rfl rfl) rfl rfl rfl ?_
  refine LL.val (R.extract rfl rfl rfl) rfl rfl rfl ?_
  refine LL.val (R.assign rfl rfl) rfl rfl rfl ?_
  refine LL.val (R.assign rfl rfl) rfl rfl rfl ?_
  refine LL.nilS ?_
  refine CC.seq ?_
  refine CC.seq ?_
  refine CC.region ?_
  refine LL.val (R.move rfl rfl) rfl rfl rfl ?_
  refine LL.call (R.call rfl rfl rfl) rfl rfl rfl (num17_any _ _) ?_
  rintro e W' ⟨rfl, rfl⟩
  refine ⟨_, rfl, ?_⟩
  refine LL.val (R.neF rfl rfl rfl (by omega)) rfl rfl rfl ?_
  refine LL.nilS ?_
  refine CC.no rfl ?_
  refine CC.skip ?_
  refine EE.thenN ?_
  refine CC.seq ?_
  refine CC.seq ?_
  refine CC.region ?_
  refine LL.val (R.assign rfl rfl) rfl rfl rfl ?_
  refine LL.nilS ?_
  refine CC.block ?_
  obtain ⟨S, hS⟩ : ∃ S, newW path fol = S := ⟨_, rfl⟩
  rw [hS] at hok has hx A
  have hgp : 0 < g ∧ g10 < g ∧ w.heap.size ≤ g10 := by have := hm.lt; omega
  have rr : RowL W40 g10 31 [.int .i64 0, .int .i64 0, strV [], .int .i64 0, .int .i64 0] := r11
  refine CC.loop (α := Nat) (fun t => [(2, v), (6, .pointer (some ⟨g10, 0, none⟩)), (8, .pointer (some ⟨g, 0, none⟩)), (10, .int .i64 (t : Int))]) (fun t W => t ≤ 20000 ∧ Below w.heap.size w W ∧ WkAt W g (iterP l t S) ∧ Mx W ∧ RowL W g10 31 [.int .i64 0, .int .i64 0, strV [], .int .i64 0, .int .i64 0]) (fun t => 20000 - t) 0 ⟨rfl, rfl, rfl, rfl, trivial⟩ ⟨Nat.zero_le _, q, A, hm, rr⟩ ?_
  clear q A hm rr r11 b37 b8
  rintro t W ⟨ht, q, A, hm, rr⟩
  have jq := q.size
  have jA := A.lt
  show CC none Tryd.prog _ 64 [] (sl [(2, v), (6, .pointer (some ⟨g10, 0, none⟩)), (8, .pointer (some ⟨g, 0, none⟩)), (10, .int .i64 (t : Int))]) _ W
  have hnx : iterP l (t + 1) S = stepP l (iterP l t S) := rfl
  have hot := hok t
  have hat := has t
  obtain ⟨st, hst⟩ : ∃ s, iterP l t S = s := ⟨_, rfl⟩
  rw [hst] at A hnx hot hat
  have AF := fun X (b : Below W.heap.size W X) => A.up b
  have qW := Below.refl W.heap.size W
  clear A
  cases hf : st.fin with
  | some y =>
    obtain rfl : y = x := by
      have h1 : (iterP l t S).fin = some y := by rw [hst]; exact hf
      have h2 := iter_done h1 ht
      rw [h2, h1] at hx
      exact Option.some.inj hx
    by_cases hlt : t < 20000
    · refine CC.seq ?_
      refine CC.seq ?_
      refine CC.region ?_
      refine LL.val (R.move rfl rfl) rfl rfl rfl ?_
      refine LL.val (R.ltT rfl rfl rfl (by omega)) rfl rfl rfl ?_
      refine LL.nilS ?_
      refine CC.yes rfl ?_
      refine CC.skip ?_
      refine EE.thenN ?_
      refine CC.seq ?_
      refine CC.block ?_
      refine CC.seq ?_
      refine CC.region ?_
      refine LL.val (R.move rfl rfl) rfl rfl rfl ?_
      have la53 := rr.lt
      (refine LL.call (R.call rfl rfl rfl) rfl rfl rfl (asksD g (AF _ qW) y hf) ?_; rintro e Wa52 ⟨rfl, ba49⟩; refine ⟨_, rfl, ?_⟩)
      have zba49 := ba49.size
      replace q := q.trans (ba49.mono q.size)
      replace hm := hm.up ba49
      replace rr := rr.up ba49
      replace qW := qW.trans (ba49.mono qW.size)
      refine LL.val (R.move rfl rfl) rfl rfl rfl ?_
      refine LL.val (R.extract rfl rfl rfl) rfl rfl rfl ?_
      refine LL.val (R.extract rfl rfl rfl) rfl rfl rfl ?_
      refine LL.val (R.extract rfl rfl rfl) rfl rfl rfl ?_
      refine LL.val (R.assign rfl rfl) rfl rfl rfl ?_
      refine LL.val (R.assign rfl rfl) rfl rfl rfl ?_
      refine LL.val (R.assign rfl rfl) rfl rfl rfl ?_
      refine LL.nilS ?_
      refine CC.seq ?_
      refine CC.seq ?_
      refine CC.region ?_
      refine LL.val (R.move rfl rfl) rfl rfl rfl ?_
      refine LL.val (R.not rfl rfl) rfl rfl rfl ?_
      refine LL.nilS ?_
      refine CC.yes rfl ?_
      refine CC.exit ?_
      refine EE.thenX ?_
      refine EE.inX' rfl ?_
      refine EE.thenX ?_
      refine EE.thenX ?_
      refine EE.inX ?_
      refine EE.thenN ?_
      refine CC.seq ?_
      refine CC.region ?_
      refine LL.val (R.move rfl rfl) rfl rfl rfl ?_
      have la229 := rr.lt
      (refine LL.call (R.call rfl rfl rfl) rfl rfl rfl (doneD g (AF _ qW) y hf) ?_; rintro e Wa228 ⟨rfl, ba225⟩; refine ⟨_, rfl, ?_⟩)
      have zba225 := ba225.size
      replace ba49 := ba49.trans (ba225.mono ba49.size)
      replace q := q.trans (ba225.mono q.size)
      replace hm := hm.up ba225
      replace rr := rr.up ba225
      replace qW := qW.trans (ba225.mono qW.size)
      refine LL.val (R.move rfl rfl) rfl rfl rfl ?_
      refine LL.val (R.extract rfl rfl rfl) rfl rfl rfl ?_
      refine LL.val (R.extract rfl rfl rfl) rfl rfl rfl ?_
      have la297 := rr.lt
      refine LL.alloc ([Value.int IntKind.i64 0, Value.int IntKind.i64 0, Value.string { data := { toList := [] } }, Value.int IntKind.i64 0, Value.int IntKind.i64 0]) rfl rfl rfl rfl rfl ?_
      intro Wa299 ga300 ega300 ra301 za302 ba298
      replace ba225 := ba225.trans (ba298.mono ba225.size)
      replace ba49 := ba49.trans (ba298.mono ba49.size)
      replace q := q.trans (ba298.mono q.size)
      replace hm := hm.up ba298
      replace rr := rr.up ba298
      replace qW := qW.trans (ba298.mono qW.size)
      refine LL.storeN (vs := [Value.int IntKind.i64 y.1, Value.int IntKind.i64 y.2.1, strV y.2.2.1, Value.int IntKind.i64 y.2.2.2.1, Value.int IntKind.i64 y.2.2.2.2]) rfl rfl rfl rfl ra301 (by exact Nat.le_of_ble_eq_true rfl) (ones_of rfl) rfl rfl ?_
      intro Wa322 ra323 ba321 za324
      have hlba321 := ra301.lt
      replace ra323 : RowL Wa322 _ 31 [Value.int IntKind.i64 y.1, Value.int IntKind.i64 y.2.1, strV y.2.2.1, Value.int IntKind.i64 y.2.2.2.1, Value.int IntKind.i64 y.2.2.2.2] := ra323
      clear ra301
      replace ba298 := ba298.grown ba321 ba298.size (by rintro k ⟨⟩; omega)
      replace ba225 := ba225.grown ba321 ba225.size (by rintro k ⟨⟩; omega)
      replace ba49 := ba49.grown ba321 ba49.size (by rintro k ⟨⟩; omega)
      replace q := q.grown ba321 q.size (by rintro k ⟨⟩; omega)
      replace hm := hm.gr ba321 (by have := hm.lt; omega)
      replace rr := rr.gr ba321 (by have := rr.lt; omega)
      replace qW := qW.grown ba321 qW.size (by rintro k ⟨⟩; omega)
      have ra301 := ra323
      clear ra323
      refine LL.val (R.assign rfl rfl) rfl rfl rfl ?_
      refine LL.nilS ?_
      refine CC.seq ?_
      refine CC.seq ?_
      refine CC.region ?_
      refine LL.val (R.move rfl rfl) rfl rfl rfl ?_
      refine LL.val (R.not rfl rfl) rfl rfl rfl ?_
      refine LL.nilS ?_
      refine CC.no rfl ?_
      refine CC.skip ?_
      refine EE.thenN ?_
      refine CC.seq ?_
      refine CC.region ?_
      refine LL.val (R.load rfl rfl (I.ldNc (vs := [Value.int IntKind.i64 y.1, Value.int IntKind.i64 y.2.1, strV y.2.2.1, Value.int IntKind.i64 y.2.2.2.1, Value.int IntKind.i64 y.2.2.2.2]) (RowL.cells ra301 rfl) (by rfl) (by rfl))) rfl rfl rfl ?_
      refine LL.storeN (vs := [Value.int IntKind.i64 y.1, Value.int IntKind.i64 y.2.1, strV y.2.2.1, Value.int IntKind.i64 y.2.2.2.1, Value.int IntKind.i64 y.2.2.2.2]) rfl rfl rfl rfl rr (by exact Nat.le_of_ble_eq_true rfl) (ones_of rfl) rfl rfl ?_
      intro Wa416 ra417 ba415 za418
      have hlba415 := rr.lt
      replace ra417 : RowL Wa416 _ 31 [Value.int IntKind.i64 y.1, Value.int IntKind.i64 y.2.1, strV y.2.2.1, Value.int IntKind.i64 y.2.2.2.1, Value.int IntKind.i64 y.2.2.2.2] := ra417
      clear rr
      replace q := q.grown ba415 q.size (by rintro k ⟨⟩; omega)
      replace ra301 := ra301.gr ba415 (by have := ra301.lt; omega)
      have rr := ra417
      clear ra417
      refine LL.val (R.assign rfl rfl) rfl rfl rfl ?_
      refine LL.nilS ?_
      refine CC.ret ?_
      refine EE.ret2 rfl ⟨_, rfl, lvNc (RowL.cells0 (by assumption)) (by rfl) (by rfl)⟩ rfl ?_
      exact ⟨rfl, q⟩
    · refine CC.seq ?_
      refine CC.seq ?_
      refine CC.region ?_
      refine LL.val (R.move rfl rfl) rfl rfl rfl ?_
      refine LL.val (R.ltF rfl rfl rfl (by omega)) rfl rfl rfl ?_
      refine LL.nilS ?_
      refine CC.no rfl ?_
      refine CC.exit ?_
      refine EE.thenX ?_
      refine EE.thenX ?_
      refine EE.inX ?_
      refine EE.thenN ?_
      refine CC.seq ?_
      refine CC.region ?_
      refine LL.val (R.move rfl rfl) rfl rfl rfl ?_
      have lb29 := rr.lt
      (refine LL.call (R.call rfl rfl rfl) rfl rfl rfl (doneD g (AF _ qW) y hf) ?_; rintro e Wb28 ⟨rfl, bb25⟩; refine ⟨_, rfl, ?_⟩)
      have zbb25 := bb25.size
      replace q := q.trans (bb25.mono q.size)
      replace hm := hm.up bb25
      replace rr := rr.up bb25
      replace qW := qW.trans (bb25.mono qW.size)
      refine LL.val (R.move rfl rfl) rfl rfl rfl ?_
      refine LL.val (R.extract rfl rfl rfl) rfl rfl rfl ?_
      refine LL.val (R.extract rfl rfl rfl) rfl rfl rfl ?_
      have lb65 := rr.lt
      refine LL.alloc ([Value.int IntKind.i64 0, Value.int IntKind.i64 0, Value.string { data := { toList := [] } }, Value.int IntKind.i64 0, Value.int IntKind.i64 0]) rfl rfl rfl rfl rfl ?_
      intro Wb67 gb68 egb68 rb69 zb70 bb66
      replace bb25 := bb25.trans (bb66.mono bb25.size)
      replace q := q.trans (bb66.mono q.size)
      replace hm := hm.up bb66
      replace rr := rr.up bb66
      replace qW := qW.trans (bb66.mono qW.size)
      refine LL.storeN (vs := [Value.int IntKind.i64 y.1, Value.int IntKind.i64 y.2.1, strV y.2.2.1, Value.int IntKind.i64 y.2.2.2.1, Value.int IntKind.i64 y.2.2.2.2]) rfl rfl rfl rfl rb69 (by exact Nat.le_of_ble_eq_true rfl) (ones_of rfl) rfl rfl ?_
      intro Wb81 rb82 bb80 zb83
      have hlbb80 := rb69.lt
      replace rb82 : RowL Wb81 _ 31 [Value.int IntKind.i64 y.1, Value.int IntKind.i64 y.2.1, strV y.2.2.1, Value.int IntKind.i64 y.2.2.2.1, Value.int IntKind.i64 y.2.2.2.2] := rb82
      clear rb69
      replace bb66 := bb66.grown bb80 bb66.size (by rintro k ⟨⟩; omega)
      replace bb25 := bb25.grown bb80 bb25.size (by rintro k ⟨⟩; omega)
      replace q := q.grown bb80 q.size (by rintro k ⟨⟩; omega)
      replace hm := hm.gr bb80 (by have := hm.lt; omega)
      replace rr := rr.gr bb80 (by have := rr.lt; omega)
      replace qW := qW.grown bb80 qW.size (by rintro k ⟨⟩; omega)
      have rb69 := rb82
      clear rb82
      refine LL.val (R.assign rfl rfl) rfl rfl rfl ?_
      refine LL.nilS ?_
      refine CC.seq ?_
      refine CC.seq ?_
      refine CC.region ?_
      refine LL.val (R.move rfl rfl) rfl rfl rfl ?_
      refine LL.val (R.not rfl rfl) rfl rfl rfl ?_
      refine LL.nilS ?_
      refine CC.no rfl ?_
      refine CC.skip ?_
      refine EE.thenN ?_
      refine CC.seq ?_
      refine CC.region ?_
      refine LL.val (R.load rfl rfl (I.ldNc (vs := [Value.int IntKind.i64 y.1, Value.int IntKind.i64 y.2.1, strV y.2.2.1, Value.int IntKind.i64 y.2.2.2.1, Value.int IntKind.i64 y.2.2.2.2]) (RowL.cells rb69 rfl) (by rfl) (by rfl))) rfl rfl rfl ?_
      refine LL.storeN (vs := [Value.int IntKind.i64 y.1, Value.int IntKind.i64 y.2.1, strV y.2.2.1, Value.int IntKind.i64 y.2.2.2.1, Value.int IntKind.i64 y.2.2.2.2]) rfl rfl rfl rfl rr (by exact Nat.le_of_ble_eq_true rfl) (ones_of rfl) rfl rfl ?_
      intro Wb130 rb131 bb129 zb132
      have hlbb129 := rr.lt
      replace rb131 : RowL Wb130 _ 31 [Value.int IntKind.i64 y.1, Value.int IntKind.i64 y.2.1, strV y.2.2.1, Value.int IntKind.i64 y.2.2.2.1, Value.int IntKind.i64 y.2.2.2.2] := rb131
      clear rr
      replace q := q.grown bb129 q.size (by rintro k ⟨⟩; omega)
      replace rb69 := rb69.gr bb129 (by have := rb69.lt; omega)
      have rr := rb131
      clear rb131
      refine LL.val (R.assign rfl rfl) rfl rfl rfl ?_
      refine LL.nilS ?_
      refine CC.ret ?_
      refine EE.ret2 rfl ⟨_, rfl, lvNc (RowL.cells0 (by assumption)) (by rfl) (by rfl)⟩ rfl ?_
      exact ⟨rfl, q⟩
  | none =>
    have hlt : t < 20000 := by
      rcases Nat.lt_or_ge t 20000 with h | h
      · exact h
      · obtain rfl : t = 20000 := by omega
        rw [hst, hf] at hx
        cases hx
    obtain ⟨p, r, hp, _⟩ := hat hf
    cases hfi : findP l st.dir p with
    | some f =>
      have hft : f.2.1 = 3 → f.2.2.length ≤ 1048576 := by
        obtain ⟨z, hz1, hz2⟩ := findP_mem hfi
        rw [← hz2]
        exact hT z hz1
      have hs1 : iterP l (t + 1) S = st.give f := by
        rw [hnx]
        unfold stepP
        rw [hf, hp]
        dsimp only
        rw [hfi]
      have hfa := fun W (b : Below w.heap.size w W) => find_any st.dir p v l W (hF W b) hN
      rw [hfi] at hfa
      simp only [Option.getD_some, Option.getD_none, Option.isSome_some, Option.isSome_none] at hfa
      refine CC.seq ?_
      refine CC.seq ?_
      refine CC.region ?_
      refine LL.val (R.move rfl rfl) rfl rfl rfl ?_
      refine LL.val (R.ltT rfl rfl rfl (by omega)) rfl rfl rfl ?_
      refine LL.nilS ?_
      refine CC.yes rfl ?_
      refine CC.skip ?_
      refine EE.thenN ?_
      refine CC.seq ?_
      refine CC.block ?_
      refine CC.seq ?_
      refine CC.region ?_
      refine LL.val (R.move rfl rfl) rfl rfl rfl ?_
      have lc74 := rr.lt
      (refine LL.call (R.call rfl rfl rfl) rfl rfl rfl (asksW g (AF _ qW) p r hf hp) ?_; rintro e Wc73 ⟨rfl, bc70⟩; refine ⟨_, rfl, ?_⟩)
      have zbc70 := bc70.size
      replace q := q.trans (bc70.mono q.size)
      replace hm := hm.up bc70
      replace rr := rr.up bc70
      replace qW := qW.trans (bc70.mono qW.size)
      refine LL.val (R.move rfl rfl) rfl rfl rfl ?_
      refine LL.val (R.extract rfl rfl rfl) rfl rfl rfl ?_
      refine LL.val (R.extract rfl rfl rfl) rfl rfl rfl ?_
      refine LL.val (R.extract rfl rfl rfl) rfl rfl rfl ?_
      refine LL.val (R.assign rfl rfl) rfl rfl rfl ?_
      refine LL.val (R.assign rfl rfl) rfl rfl rfl ?_
      refine LL.val (R.assign rfl rfl) rfl rfl rfl ?_
      refine LL.nilS ?_
      refine CC.seq ?_
      refine CC.seq ?_
      refine CC.region ?_
      refine LL.val (R.move rfl rfl) rfl rfl rfl ?_
      refine LL.val (R.not rfl rfl) rfl rfl rfl ?_
      refine LL.nilS ?_
      refine CC.no rfl ?_
      refine CC.skip ?_
      refine EE.thenN ?_
      refine CC.seq ?_
      refine CC.region ?_
      refine LL.val (R.move rfl rfl) rfl rfl rfl ?_
      refine LL.val (R.move rfl rfl) rfl rfl rfl ?_
      refine LL.val (R.move rfl rfl) rfl rfl rfl ?_
      have lc366 := rr.lt
      (refine LL.call (R.call rfl rfl rfl) rfl rfl rfl (hfa _ q) ?_; rintro e Wc365 ⟨rfl, bc362⟩; refine ⟨_, rfl, ?_⟩)
      have zbc362 := bc362.size
      replace bc70 := bc70.trans (bc362.mono bc70.size)
      replace q := q.trans (bc362.mono q.size)
      replace hm := hm.up bc362
      replace rr := rr.up bc362
      replace qW := qW.trans (bc362.mono qW.size)
      refine LL.val (R.move rfl rfl) rfl rfl rfl ?_
      refine LL.val (R.extract rfl rfl rfl) rfl rfl rfl ?_
      refine LL.val (R.extract rfl rfl rfl) rfl rfl rfl ?_
      have lc462 := rr.lt
      refine LL.alloc ([Value.int IntKind.i64 0, Value.int IntKind.i64 0, Value.string { data := { toList := [] } }]) rfl rfl rfl rfl rfl ?_
      intro Wc464 gc465 egc465 rc466 zc467 bc463
      replace bc362 := bc362.trans (bc463.mono bc362.size)
      replace bc70 := bc70.trans (bc463.mono bc70.size)
      replace q := q.trans (bc463.mono q.size)
      replace hm := hm.up bc463
      replace rr := rr.up bc463
      replace qW := qW.trans (bc463.mono qW.size)
      refine LL.storeN (vs := [Value.int IntKind.i64 f.1, Value.int IntKind.i64 f.2.1, strV f.2.2]) rfl rfl rfl rfl rc466 (by exact Nat.le_of_ble_eq_true rfl) (ones_of rfl) rfl rfl ?_
      intro Wc494 rc495 bc493 zc496
      have hlbc493 := rc466.lt
      replace rc495 : RowL Wc494 _ 38 [Value.int IntKind.i64 f.1, Value.int IntKind.i64 f.2.1, strV f.2.2] := rc495
      clear rc466
      replace bc463 := bc463.grown bc493 bc463.size (by rintro k ⟨⟩; omega)
      replace bc362 := bc362.grown bc493 bc362.size (by rintro k ⟨⟩; omega)
      replace bc70 := bc70.grown bc493 bc70.size (by rintro k ⟨⟩; omega)
      replace q := q.grown bc493 q.size (by rintro k ⟨⟩; omega)
      replace hm := hm.gr bc493 (by have := hm.lt; omega)
      replace rr := rr.gr bc493 (by have := rr.lt; omega)
      replace qW := qW.grown bc493 qW.size (by rintro k ⟨⟩; omega)
      have rc466 := rc495
      clear rc495
      refine LL.val (R.assign rfl rfl) rfl rfl rfl ?_
      refine LL.nilS ?_
      refine CC.seq ?_
      refine CC.region ?_
      refine LL.val (R.move rfl rfl) rfl rfl rfl ?_
      refine LL.nilS ?_
      refine CC.yes rfl ?_
      refine CC.region ?_
      refine LL.val (R.move rfl rfl) rfl rfl rfl ?_
      refine LL.val (R.load rfl rfl (I.ldNc (vs := [Value.int IntKind.i64 f.1, Value.int IntKind.i64 f.2.1, strV f.2.2]) (RowL.cells rc466 rfl) (by rfl) (by rfl))) rfl rfl rfl ?_
      (refine LL.call (R.call rfl rfl rfl) rfl rfl rfl (giveW g (AF _ qW) p r hf hp hot f (by assumption) hgp.1 hft) ?_; rintro e Wc618 ⟨rfl, hW, tc617⟩; clear qW; refine ⟨_, rfl, ?_⟩)
      have ztc617 := tc617.size
      replace q := tc617.onB q (fun j hj => ⟨by have := q.size; omega, by omega⟩)
      replace hm := hm.kept tc617 ⟨by omega, by omega⟩
      replace rr := rr.kept tc617 ⟨rr.lt, by omega⟩
      replace rc466 := rc466.kept tc617 ⟨rc466.lt, by omega⟩
      refine LL.nil ?_
      refine EE.inN ?_
      refine EE.thenN ?_
      refine CC.region ?_
      refine LL.val (R.move rfl rfl) rfl rfl rfl ?_
      refine LL.val (R.addNc rfl rfl rfl rfl (by omega)) rfl rfl rfl ?_
      refine LL.val (R.assign rfl rfl) rfl rfl rfl ?_
      refine LL.nil ?_
      exact EE.round (t + 1) ⟨rfl, rfl, rfl, rfl, trivial⟩ ⟨by show t + 1 ≤ 20000; omega, q, by rw [hs1]; exact hW, by assumption, by assumption⟩ (by show 20000 - (t + 1) < 20000 - t; omega)
    | none =>
      have hs1 : iterP l (t + 1) S = st.miss := by
        rw [hnx]
        unfold stepP
        rw [hf, hp]
        dsimp only
        rw [hfi]
      have hfa := fun W (b : Below w.heap.size w W) => find_any st.dir p v l W (hF W b) hN
      rw [hfi] at hfa
      simp only [Option.getD_some, Option.getD_none, Option.isSome_some, Option.isSome_none] at hfa
      refine CC.seq ?_
      refine CC.seq ?_
      refine CC.region ?_
      refine LL.val (R.move rfl rfl) rfl rfl rfl ?_
      refine LL.val (R.ltT rfl rfl rfl (by omega)) rfl rfl rfl ?_
      refine LL.nilS ?_
      refine CC.yes rfl ?_
      refine CC.skip ?_
      refine EE.thenN ?_
      refine CC.seq ?_
      refine CC.block ?_
      refine CC.seq ?_
      refine CC.region ?_
      refine LL.val (R.move rfl rfl) rfl rfl rfl ?_
      have ld74 := rr.lt
      (refine LL.call (R.call rfl rfl rfl) rfl rfl rfl (asksW g (AF _ qW) p r hf hp) ?_; rintro e Wd73 ⟨rfl, bd70⟩; refine ⟨_, rfl, ?_⟩)
      have zbd70 := bd70.size
      replace q := q.trans (bd70.mono q.size)
      replace hm := hm.up bd70
      replace rr := rr.up bd70
      replace qW := qW.trans (bd70.mono qW.size)
      refine LL.val (R.move rfl rfl) rfl rfl rfl ?_
      refine LL.val (R.extract rfl rfl rfl) rfl rfl rfl ?_
      refine LL.val (R.extract rfl rfl rfl) rfl rfl rfl ?_
      refine LL.val (R.extract rfl rfl rfl) rfl rfl rfl ?_
      refine LL.val (R.assign rfl rfl) rfl rfl rfl ?_
      refine LL.val (R.assign rfl rfl) rfl rfl rfl ?_
      refine LL.val (R.assign rfl rfl) rfl rfl rfl ?_
      refine LL.nilS ?_
      refine CC.seq ?_
      refine CC.seq ?_
      refine CC.region ?_
      refine LL.val (R.move rfl rfl) rfl rfl rfl ?_
      refine LL.val (R.not rfl rfl) rfl rfl rfl ?_
      refine LL.nilS ?_
      refine CC.no rfl ?_
      refine CC.skip ?_
      refine EE.thenN ?_
      refine CC.seq ?_
      refine CC.region ?_
      refine LL.val (R.move rfl rfl) rfl rfl rfl ?_
      refine LL.val (R.move rfl rfl) rfl rfl rfl ?_
      refine LL.val (R.move rfl rfl) rfl rfl rfl ?_
      have ld366 := rr.lt
      (refine LL.call (R.call rfl rfl rfl) rfl rfl rfl (hfa _ q) ?_; rintro e Wd365 ⟨rfl, bd362⟩; refine ⟨_, rfl, ?_⟩)
      have zbd362 := bd362.size
      replace bd70 := bd70.trans (bd362.mono bd70.size)
      replace q := q.trans (bd362.mono q.size)
      replace hm := hm.up bd362
      replace rr := rr.up bd362
      replace qW := qW.trans (bd362.mono qW.size)
      refine LL.val (R.move rfl rfl) rfl rfl rfl ?_
      refine LL.val (R.extract rfl rfl rfl) rfl rfl rfl ?_
      refine LL.val (R.extract rfl rfl rfl) rfl rfl rfl ?_
      have ld462 := rr.lt
      refine LL.alloc ([Value.int IntKind.i64 0, Value.int IntKind.i64 0, Value.string { data := { toList := [] } }]) rfl rfl rfl rfl rfl ?_
      intro Wd464 gd465 egd465 rd466 zd467 bd463
      replace bd362 := bd362.trans (bd463.mono bd362.size)
      replace bd70 := bd70.trans (bd463.mono bd70.size)
      replace q := q.trans (bd463.mono q.size)
      replace hm := hm.up bd463
      replace rr := rr.up bd463
      replace qW := qW.trans (bd463.mono qW.size)
      refine LL.storeN (vs := [Value.int IntKind.i64 0, Value.int IntKind.i64 0, strV []]) rfl rfl rfl rfl rd466 (by exact Nat.le_of_ble_eq_true rfl) (ones_of rfl) rfl rfl ?_
      intro Wd494 rd495 bd493 zd496
      have hlbd493 := rd466.lt
      replace rd495 : RowL Wd494 _ 38 [Value.int IntKind.i64 0, Value.int IntKind.i64 0, strV []] := rd495
      clear rd466
      replace bd463 := bd463.grown bd493 bd463.size (by rintro k ⟨⟩; omega)
      replace bd362 := bd362.grown bd493 bd362.size (by rintro k ⟨⟩; omega)
      replace bd70 := bd70.grown bd493 bd70.size (by rintro k ⟨⟩; omega)
      replace q := q.grown bd493 q.size (by rintro k ⟨⟩; omega)
      replace hm := hm.gr bd493 (by have := hm.lt; omega)
      replace rr := rr.gr bd493 (by have := rr.lt; omega)
      replace qW := qW.grown bd493 qW.size (by rintro k ⟨⟩; omega)
      have rd466 := rd495
      clear rd495
      refine LL.val (R.assign rfl rfl) rfl rfl rfl ?_
      refine LL.nilS ?_
      refine CC.seq ?_
      refine CC.region ?_
      refine LL.val (R.move rfl rfl) rfl rfl rfl ?_
      refine LL.nilS ?_
      refine CC.no rfl ?_
      refine CC.region ?_
      refine LL.val (R.move rfl rfl) rfl rfl rfl ?_
      (refine LL.call (R.call rfl rfl rfl) rfl rfl rfl (missW g (AF _ qW) p r hf hp hot) ?_; rintro e Wd593 ⟨rfl, hW, td592⟩; clear qW; refine ⟨_, rfl, ?_⟩)
      have ztd592 := td592.size
      replace q := td592.onB q (fun j hj => ⟨by have := q.size; omega, by omega⟩)
      replace hm := hm.kept td592 ⟨by omega, by omega⟩
      replace rr := rr.kept td592 ⟨rr.lt, by omega⟩
      replace rd466 := rd466.kept td592 ⟨rd466.lt, by omega⟩
      refine LL.nil ?_
      refine EE.inN ?_
      refine EE.thenN ?_
      refine CC.region ?_
      refine LL.val (R.move rfl rfl) rfl rfl rfl ?_
      refine LL.val (R.addNc rfl rfl rfl rfl (by omega)) rfl rfl rfl ?_
      refine LL.val (R.assign rfl rfl) rfl rfl rfl ?_
      refine LL.nil ?_
      exact EE.round (t + 1) ⟨rfl, rfl, rfl, rfl, trivial⟩ ⟨by show t + 1 ≤ 20000; omega, q, by rw [hs1]; exact hW, by assumption, by assumption⟩ (by show 20000 - (t + 1) < 20000 - t; omega)
end Go.Proofs.YtbbddpnjglijdaaDoor
/- walk: small, end, works (written by genwk10.py). -/
namespace Go.Proofs.YtbbddpnjglijdaaDoor
set_option linter.unusedVariables false
set_option linter.unusedSimpArgs false
open Go.RowKit Go.Shelf
set_option maxRecDepth 100000
set_option maxHeartbeats 8000000
abbrev smL : List Pl := [(1, [97], 2, 2, []), (1, [108], 4, 3, [97]), (2, [98], 3, 1, []), (2, [46, 46], 1, 2, [])]
theorem small_any (w : World) : Calls Tryd.prog 23 #[] w fun e w' => ∃ g, e = .returned (.slice (some ⟨g, 0, none⟩) 4 4) ∧ RowL w' g 70 (smL.flatMap plE) ∧ w.heap.size ≤ g ∧ Below w.heap.size w w' := by
  have q := Below.refl w.heap.size w
  refine X.fn Tryd.func23 rfl (n := 10) rfl rfl ?_
  refine CC.seq ?_
  refine CC.region ?_
  refine LL.val (R.assign rfl rfl) rfl rfl rfl ?_
  refine LL.nilS ?_
  refine CC.seq ?_
  refine CC.region ?_
  refine LL.val (R.buildV rfl rfl (v := .agg #[Value.int IntKind.i64 2, Value.int IntKind.i64 2, Value.string { data := #[] }]) (fun _ => by kernel_rfl)) rfl rfl rfl ?_
  refine LL.val (R.buildV rfl rfl (v := .agg #[Value.int IntKind.i64 1, Value.string { data := #[97] }, Value.int IntKind.i64 2, Value.int IntKind.i64 2, Value.string { data := #[] }]) (fun _ => by kernel_rfl)) rfl rfl rfl ?_
  refine LL.val (R.buildV rfl rfl (v := .agg #[Value.int IntKind.i64 4, Value.int IntKind.i64 3, Value.string { data := #[97] }]) (fun _ => by kernel_rfl)) rfl rfl rfl ?_
  refine LL.val (R.buildV rfl rfl (v := .agg #[Value.int IntKind.i64 1, Value.string { data := #[108] }, Value.int IntKind.i64 4, Value.int IntKind.i64 3, Value.string { data := #[97] }]) (fun _ => by kernel_rfl)) rfl rfl rfl ?_
  refine LL.val (R.buildV rfl rfl (v := .agg #[Value.int IntKind.i64 3, Value.int IntKind.i64 1, Value.string { data := #[] }]) (fun _ => by kernel_rfl)) rfl rfl rfl ?_
  refine LL.val (R.buildV rfl rfl (v := .agg #[Value.int IntKind.i64 2, Value.string { data := #[98] }, Value.int IntKind.i64 3, Value.int IntKind.i64 1, Value.string { data := #[] }]) (fun _ => by kernel_rfl)) rfl rfl rfl ?_
  refine LL.val (R.buildV rfl rfl (v := .agg #[Value.int IntKind.i64 1, Value.int IntKind.i64 2, Value.string { data := #[] }]) (fun _ => by kernel_rfl)) rfl rfl rfl ?_
  refine LL.val (R.buildV rfl rfl (v := .agg #[Value.int IntKind.i64 2, Value.string { data := #[46, 46] }, Value.int IntKind.i64 1, Value.int IntKind.i64 2, Value.string { data := #[] }]) (fun _ => by kernel_rfl)) rfl rfl rfl ?_
  refine LL.lit (e := 70) [Value.int IntKind.i64 1, Value.string { data := #[97] }, Value.int IntKind.i64 2, Value.int IntKind.i64 2, Value.string { data := #[] }, Value.int IntKind.i64 1, Value.string { data := #[108] }, Value.int IntKind.i64 4, Value.int IntKind.i64 3, Value.string { data := #[97] }, Value.int IntKind.i64 2, Value.string { data := #[98] }, Value.int IntKind.i64 3, Value.int IntKind.i64 1, Value.string { data := #[] }, Value.int IntKind.i64 2, Value.string { data := #[46, 46] }, Value.int IntKind.i64 1, Value.int IntKind.i64 2, Value.string { data := #[] }] 4 rfl rfl (fun _ => by kernel_rfl) rfl rfl ?_
  intro W2 g3 eg3 r4 z5 b1
  replace q := q.trans (b1.mono q.size)
  refine LL.val (R.assign rfl rfl) rfl rfl rfl ?_
  refine LL.nilS ?_
  refine CC.ret ?_
  refine EE.ret _ rfl rfl ?_
  exact ⟨_, rfl, by assumption, by omega, q⟩
theorem end_T (path : Bs) (fol : Bool) (x : Wd) (k : Nat) (w : World) (hm : Mx w) (hl : path.length ≤ 1000) (hz : pathN path = 0) (hk : k ≤ 20000) (hx : (iterP smL k (newW path fol)).fin = some x) : Calls Tryd.prog 31 #[strV path, .bool fol, wdV x] w fun e w' => e = .returned (.bool true) ∧ Below w.heap.size w w' := by
  have q := Below.refl w.heap.size w
  have hx2 : (iterP smL 20000 (newW path fol)).fin = some x := by rw [iter_done hx hk]; exact hx
  have hgo := fun W u (h : ReadsT plE 5 W u smL) (m : Mx W) => goes_fin path fol u smL W m (by omega) hz h (by decide) (by decide) x hx2
  clear hx hx2
  refine X.fn Tryd.func31 rfl (n := 23) rfl rfl ?_
  refine CC.seq ?_
  refine CC.region ?_
  refine LL.box [Value.int IntKind.i64 x.1, Value.int IntKind.i64 x.2.1, strV x.2.2.1, Value.int IntKind.i64 x.2.2.2.1, Value.int IntKind.i64 x.2.2.2.2] rfl rfl rfl rfl rfl ?_
  intro W9 g10 eg10 r11 z12 b8
  replace hm := hm.up b8
  replace q := q.trans (b8.mono q.size)
  refine LL.val (R.assign rfl rfl) rfl rfl rfl ?_
  refine LL.nilS ?_
  refine CC.seq ?_
  refine CC.region ?_
  refine LL.val (R.move rfl rfl) rfl rfl rfl ?_
  refine LL.val (R.move rfl rfl) rfl rfl rfl ?_
  refine LL.call (R.call rfl rfl rfl) rfl rfl rfl (small_any _) ?_
  rintro e W46 ⟨g47, rfl, r48, l49, b45⟩
  refine ⟨_, rfl, ?_⟩
  have zb45 := b45.size
  replace r11 := r11.up b45
  replace b8 := b8.trans (b45.mono b8.size)
  replace hm := hm.up b45
  replace q := q.trans (b45.mono q.size)
  have l55 := r48.lt
  have l56 := r11.lt
  (refine LL.call (R.call rfl rfl rfl) rfl rfl rfl (hgo _ _ (RowL.readsT plEnc (ts := smL) (by assumption) 4 (by decide)) (by assumption)) ?_; rintro e W54 ⟨rfl, b51⟩; refine ⟨_, rfl, ?_⟩)
  have zb51 := b51.size
  replace r48 := r48.up b51
  replace b45 := b45.trans (b51.mono b45.size)
  replace r11 := r11.up b51
  replace b8 := b8.trans (b51.mono b8.size)
  replace hm := hm.up b51
  replace q := q.trans (b51.mono q.size)
  refine LL.val (R.move rfl rfl) rfl rfl rfl ?_
  refine LL.val (R.extract rfl rfl rfl) rfl rfl rfl ?_
  refine LL.val (R.extract rfl rfl rfl) rfl rfl rfl ?_
  have l96 := r48.lt
  have l97 := r11.lt
  refine LL.alloc ([Value.int IntKind.i64 0, Value.int IntKind.i64 0, Value.string { data := { toList := [] } }, Value.int IntKind.i64 0, Value.int IntKind.i64 0]) rfl rfl rfl rfl rfl ?_
  intro W99 g100 eg100 r101 z102 b98
  replace b51 := b51.trans (b98.mono b51.size)
  replace r48 := r48.up b98
  replace b45 := b45.trans (b98.mono b45.size)
  replace r11 := r11.up b98
  replace b8 := b8.trans (b98.mono b8.size)
  replace hm := hm.up b98
  replace q := q.trans (b98.mono q.size)
  refine LL.storeN (vs := [Value.int IntKind.i64 x.1, Value.int IntKind.i64 x.2.1, strV x.2.2.1, Value.int IntKind.i64 x.2.2.2.1, Value.int IntKind.i64 x.2.2.2.2]) rfl rfl rfl rfl r101 (by exact Nat.le_of_ble_eq_true rfl) (ones_of rfl) rfl rfl ?_
  intro W114 r115 b113 z116
  have hlb113 := r101.lt
  replace r115 : RowL W114 _ 31 [Value.int IntKind.i64 x.1, Value.int IntKind.i64 x.2.1, strV x.2.2.1, Value.int IntKind.i64 x.2.2.2.1, Value.int IntKind.i64 x.2.2.2.2] := r115
  clear r101
  replace b98 := b98.grown b113 b98.size (by rintro k ⟨⟩; omega)
  replace b51 := b51.grown b113 b51.size (by rintro k ⟨⟩; omega)
  replace r48 := r48.gr b113 (by have := r48.lt; omega)
  replace b45 := b45.grown b113 b45.size (by rintro k ⟨⟩; omega)
  replace r11 := r11.gr b113 (by have := r11.lt; omega)
  replace b8 := b8.grown b113 b8.size (by rintro k ⟨⟩; omega)
  replace hm := hm.gr b113 (by have := hm.lt; omega)
  replace q := q.grown b113 q.size (by rintro k ⟨⟩; omega)
  have r101 := r115
  clear r115
  refine LL.val (R.assign rfl rfl) rfl rfl rfl ?_
  refine LL.nilS ?_
  refine CC.seq ?_
  refine CC.region ?_
  refine LL.val (R.move rfl rfl) rfl rfl rfl ?_
  refine LL.val (R.eqT rfl rfl rfl (by omega)) rfl rfl rfl ?_
  refine LL.val (R.move rfl rfl) rfl rfl rfl ?_
  refine LL.val (R.load rfl rfl (I.ldNc (vs := [Value.int IntKind.i64 x.1, Value.int IntKind.i64 x.2.1, strV x.2.2.1, Value.int IntKind.i64 x.2.2.2.1, Value.int IntKind.i64 x.2.2.2.2]) (RowL.cells r101 rfl) (by rfl) (by rfl))) rfl rfl rfl ?_
  refine LL.val (R.load rfl rfl (I.ldNc (vs := [Value.int IntKind.i64 x.1, Value.int IntKind.i64 x.2.1, strV x.2.2.1, Value.int IntKind.i64 x.2.2.2.1, Value.int IntKind.i64 x.2.2.2.2]) (RowL.cells r11 rfl) (by rfl) (by rfl))) rfl rfl rfl ?_
  refine LL.vsplit (fun h => R.eqST (p := (x.1 : Int) = x.1 ∧ (x.2.1 : Int) = x.2.1 ∧ ({ data := List.toArray x.2.2.1 } : ByteArray).toList = ({ data := List.toArray x.2.2.1 } : ByteArray).toList ∧ (x.2.2.2.1 : Int) = x.2.2.2.1 ∧ (x.2.2.2.2 : Int) = x.2.2.2.2) (bs := [decide ((x.1 : Int) = x.1), decide ((x.2.1 : Int) = x.2.1), ({ data := List.toArray x.2.2.1 } : ByteArray).toList == ({ data := List.toArray x.2.2.1 } : ByteArray).toList, decide ((x.2.2.2.1 : Int) = x.2.2.2.1), decide ((x.2.2.2.2 : Int) = x.2.2.2.2)]) rfl rfl rfl rfl (by kernel_rfl) (by kernel_rfl) (by simp) h) (fun h => R.eqSF (p := (x.1 : Int) = x.1 ∧ (x.2.1 : Int) = x.2.1 ∧ ({ data := List.toArray x.2.2.1 } : ByteArray).toList = ({ data := List.toArray x.2.2.1 } : ByteArray).toList ∧ (x.2.2.2.1 : Int) = x.2.2.2.1 ∧ (x.2.2.2.2 : Int) = x.2.2.2.2) (bs := [decide ((x.1 : Int) = x.1), decide ((x.2.1 : Int) = x.2.1), ({ data := List.toArray x.2.2.1 } : ByteArray).toList == ({ data := List.toArray x.2.2.1 } : ByteArray).toList, decide ((x.2.2.2.1 : Int) = x.2.2.2.1), decide ((x.2.2.2.2 : Int) = x.2.2.2.2)]) rfl rfl rfl rfl (by kernel_rfl) (by kernel_rfl) (by simp) h) rfl rfl rfl (fun c187 => ?_) (fun c187 => ?_)
  refine LL.val (R.pick rfl rfl rfl) rfl rfl rfl ?_
  refine LL.val (R.assign rfl rfl) rfl rfl rfl ?_
  refine LL.nilS ?_
  refine CC.ret ?_
  refine EE.ret _ rfl rfl ?_
  exact ⟨rfl, q⟩
  refine LL.val (R.pick rfl rfl rfl) rfl rfl rfl ?_
  refine LL.val (R.assign rfl rfl) rfl rfl rfl ?_
  refine LL.nilS ?_
  refine CC.ret ?_
  refine EE.ret _ rfl rfl ?_
  exact absurd ⟨rfl, rfl, rfl, rfl, rfl⟩ c187
theorem works17_any (w : World) (hm : Mx w) : Calls Tryd.prog 8 #[] w fun e w' => e = .returned (.bool true) ∧ Below w.heap.size w w' := by
  have q := Below.refl w.heap.size w
  refine X.fn Tryd.func8 rfl (n := 38) rfl rfl ?_
  refine CC.seq ?_
  refine CC.region ?_
  refine LL.val (R.assign rfl rfl) rfl rfl rfl ?_
  refine LL.nilS ?_
  refine CC.seq ?_
  refine CC.region ?_
  (refine LL.call (R.call rfl rfl rfl) rfl rfl rfl (new_bad [98] 140 (by decide +kernel) (by decide) (by assumption) (by decide)) ?_; rintro e W60 ⟨rfl, b57⟩; refine ⟨_, rfl, ?_⟩)
  have zb57 := b57.size
  replace hm := hm.up b57
  replace q := q.trans (b57.mono q.size)
  refine LL.val (R.move rfl rfl) rfl rfl rfl ?_
  refine LL.val (R.extract rfl rfl rfl) rfl rfl rfl ?_
  refine LL.val (R.extract rfl rfl rfl) rfl rfl rfl ?_
  refine LL.val (R.assign rfl rfl) rfl rfl rfl ?_
  refine LL.val (R.assign rfl rfl) rfl rfl rfl ?_
  refine LL.nilS ?_
  refine CC.seq ?_
  refine CC.region ?_
  refine LL.val (R.buildV rfl rfl (v := .agg #[Value.int IntKind.i64 0, Value.int IntKind.i64 2, Value.string { data := #[98] }, Value.int IntKind.i64 3, Value.int IntKind.i64 1]) (fun _ => by kernel_rfl)) rfl rfl rfl ?_
  (refine LL.call (R.call rfl rfl rfl) rfl rfl rfl (end_T [47, 97, 47, 98] false (0, 2, [98], 3, 1) 6 _ (by assumption) (by decide) (by decide +kernel) (by decide) (by decide +kernel)) ?_; rintro e W410 ⟨rfl, b407⟩; refine ⟨_, rfl, ?_⟩)
  have zb407 := b407.size
  replace b57 := b57.trans (b407.mono b57.size)
  replace hm := hm.up b407
  replace q := q.trans (b407.mono q.size)
  refine LL.val (R.move rfl rfl) rfl rfl rfl ?_
  refine LL.val (R.buildV rfl rfl (v := .agg #[Value.int IntKind.i64 0, Value.int IntKind.i64 1, Value.string { data := #[97] }, Value.int IntKind.i64 2, Value.int IntKind.i64 2]) (fun _ => by kernel_rfl)) rfl rfl rfl ?_
  (refine LL.call (R.call rfl rfl rfl) rfl rfl rfl (end_T [47, 108] true (0, 1, [97], 2, 2) 6 _ (by assumption) (by decide) (by decide +kernel) (by decide) (by decide +kernel)) ?_; rintro e W543 ⟨rfl, b540⟩; refine ⟨_, rfl, ?_⟩)
  have zb540 := b540.size
  replace b407 := b407.trans (b540.mono b407.size)
  replace b57 := b57.trans (b540.mono b57.size)
  replace hm := hm.up b540
  replace q := q.trans (b540.mono q.size)
  refine LL.val (R.pick rfl rfl rfl) rfl rfl rfl ?_
  refine LL.val (R.move rfl rfl) rfl rfl rfl ?_
  refine LL.val (R.buildV rfl rfl (v := .agg #[Value.int IntKind.i64 0, Value.int IntKind.i64 1, Value.string { data := #[108] }, Value.int IntKind.i64 4, Value.int IntKind.i64 3]) (fun _ => by kernel_rfl)) rfl rfl rfl ?_
  (refine LL.call (R.call rfl rfl rfl) rfl rfl rfl (end_T [47, 108] false (0, 1, [108], 4, 3) 6 _ (by assumption) (by decide) (by decide +kernel) (by decide) (by decide +kernel)) ?_; rintro e W739 ⟨rfl, b736⟩; refine ⟨_, rfl, ?_⟩)
  have zb736 := b736.size
  replace b540 := b540.trans (b736.mono b540.size)
  replace b407 := b407.trans (b736.mono b407.size)
  replace b57 := b57.trans (b736.mono b57.size)
  replace hm := hm.up b736
  replace q := q.trans (b736.mono q.size)
  refine LL.val (R.pick rfl rfl rfl) rfl rfl rfl ?_
  refine LL.val (R.move rfl rfl) rfl rfl rfl ?_
  refine LL.val (R.buildV rfl rfl (v := .agg #[Value.int IntKind.i64 270, Value.int IntKind.i64 2, Value.string { data := #[99] }, Value.int IntKind.i64 0, Value.int IntKind.i64 0]) (fun _ => by kernel_rfl)) rfl rfl rfl ?_
  (refine LL.call (R.call rfl rfl rfl) rfl rfl rfl (end_T [47, 97, 47, 99] false (270, 2, [99], 0, 0) 6 _ (by assumption) (by decide) (by decide +kernel) (by decide) (by decide +kernel)) ?_; rintro e W942 ⟨rfl, b939⟩; refine ⟨_, rfl, ?_⟩)
  have zb939 := b939.size
  replace b736 := b736.trans (b939.mono b736.size)
  replace b540 := b540.trans (b939.mono b540.size)
  replace b407 := b407.trans (b939.mono b407.size)
  replace b57 := b57.trans (b939.mono b57.size)
  replace hm := hm.up b939
  replace q := q.trans (b939.mono q.size)
  refine LL.val (R.pick rfl rfl rfl) rfl rfl rfl ?_
  refine LL.val (R.move rfl rfl) rfl rfl rfl ?_
  refine LL.val (R.buildV rfl rfl (v := .agg #[Value.int IntKind.i64 270, Value.int IntKind.i64 0, Value.string { data := #[] }, Value.int IntKind.i64 0, Value.int IntKind.i64 0]) (fun _ => by kernel_rfl)) rfl rfl rfl ?_
  (refine LL.call (R.call rfl rfl rfl) rfl rfl rfl (end_T [47, 99, 47, 98] false (270, 0, [], 0, 0) 6 _ (by assumption) (by decide) (by decide +kernel) (by decide) (by decide +kernel)) ?_; rintro e W1152 ⟨rfl, b1149⟩; refine ⟨_, rfl, ?_⟩)
  have zb1149 := b1149.size
  replace b939 := b939.trans (b1149.mono b939.size)
  replace b736 := b736.trans (b1149.mono b736.size)
  replace b540 := b540.trans (b1149.mono b540.size)
  replace b407 := b407.trans (b1149.mono b407.size)
  replace b57 := b57.trans (b1149.mono b57.size)
  replace hm := hm.up b1149
  replace q := q.trans (b1149.mono q.size)
  refine LL.val (R.pick rfl rfl rfl) rfl rfl rfl ?_
  refine LL.val (R.move rfl rfl) rfl rfl rfl ?_
  refine LL.val (R.buildV rfl rfl (v := .agg #[Value.int IntKind.i64 271, Value.int IntKind.i64 0, Value.string { data := #[] }, Value.int IntKind.i64 0, Value.int IntKind.i64 0]) (fun _ => by kernel_rfl)) rfl rfl rfl ?_
  (refine LL.call (R.call rfl rfl rfl) rfl rfl rfl (end_T [47, 97, 47, 98, 47, 99] false (271, 0, [], 0, 0) 6 _ (by assumption) (by decide) (by decide +kernel) (by decide) (by decide +kernel)) ?_; rintro e W1369 ⟨rfl, b1366⟩; refine ⟨_, rfl, ?_⟩)
  have zb1366 := b1366.size
  replace b1149 := b1149.trans (b1366.mono b1149.size)
  replace b939 := b939.trans (b1366.mono b939.size)
  replace b736 := b736.trans (b1366.mono b736.size)
  replace b540 := b540.trans (b1366.mono b540.size)
  replace b407 := b407.trans (b1366.mono b407.size)
  replace b57 := b57.trans (b1366.mono b57.size)
  replace hm := hm.up b1366
  replace q := q.trans (b1366.mono q.size)
  refine LL.val (R.pick rfl rfl rfl) rfl rfl rfl ?_
  refine LL.val (R.move rfl rfl) rfl rfl rfl ?_
  refine LL.val (R.buildV rfl rfl (v := .agg #[Value.int IntKind.i64 0, Value.int IntKind.i64 0, Value.string { data := #[] }, Value.int IntKind.i64 1, Value.int IntKind.i64 2]) (fun _ => by kernel_rfl)) rfl rfl rfl ?_
  (refine LL.call (R.call rfl rfl rfl) rfl rfl rfl (end_T [47, 97, 47, 46, 46] false (0, 0, [], 1, 2) 6 _ (by assumption) (by decide) (by decide +kernel) (by decide) (by decide +kernel)) ?_; rintro e W1593 ⟨rfl, b1590⟩; refine ⟨_, rfl, ?_⟩)
  have zb1590 := b1590.size
  replace b1366 := b1366.trans (b1590.mono b1366.size)
  replace b1149 := b1149.trans (b1590.mono b1149.size)
  replace b939 := b939.trans (b1590.mono b939.size)
  replace b736 := b736.trans (b1590.mono b736.size)
  replace b540 := b540.trans (b1590.mono b540.size)
  replace b407 := b407.trans (b1590.mono b407.size)
  replace b57 := b57.trans (b1590.mono b57.size)
  replace hm := hm.up b1590
  replace q := q.trans (b1590.mono q.size)
  refine LL.val (R.pick rfl rfl rfl) rfl rfl rfl ?_
  refine LL.val (R.move rfl rfl) rfl rfl rfl ?_
  refine LL.val (R.move rfl rfl) rfl rfl rfl ?_
  refine LL.call (R.call rfl rfl rfl) rfl rfl rfl (num17_any _ _) ?_
  rintro e W' ⟨rfl, rfl⟩
  refine ⟨_, rfl, ?_⟩
  refine LL.val (R.eqT rfl rfl rfl (by omega)) rfl rfl rfl ?_
  refine LL.val (R.pick rfl rfl rfl) rfl rfl rfl ?_
  refine LL.val (R.assign rfl rfl) rfl rfl rfl ?_
  refine LL.nilS ?_
  refine CC.ret ?_
  refine EE.ret _ rfl rfl ?_
  exact ⟨rfl, q⟩
end Go.Proofs.YtbbddpnjglijdaaDoor
/- walk: a walker is done behind so many answers; few (written by genwk12.py). -/
namespace Go.Proofs.YtbbddpnjglijdaaDoor
set_option linter.unusedVariables false
set_option linter.unusedSimpArgs false
open Go.RowKit Go.Shelf
set_option maxRecDepth 100000
set_option maxHeartbeats 8000000
end Go.Proofs.YtbbddpnjglijdaaDoor
/- walk: where nothing is a link: the mathematics. -/
namespace Go.Proofs.YtbbddpnjglijdaaDoor
set_option linter.unusedVariables false
set_option linter.unusedSimpArgs false
open Go.RowKit Go.Shelf
set_option maxRecDepth 100000
set_option maxHeartbeats 8000000
/-- How a way ends where nothing is a link. -/
def runP (l : List Pl) : Int → List Bs → Wd
  | d, [] => (0, 0, [], d, 2)
  | d, p :: r => if p = [46] then runP l d r else match findP l d p with
    | none => (270, if r = [] then d else 0, if r = [] then p else [], 0, 0)
    | some f => if p = [46, 46] then runP l f.1 r else if r = [] then (0, d, p, f.1, f.2.1) else if f.2.1 = 2 then runP l f.1 r else (271, 0, [], 0, 0)
theorem iter_succ' (l : List Pl) (s : Wk) : ∀ k, iterP l (k + 1) s = iterP l k (stepP l s)
  | 0 => rfl
  | k + 1 => by
    show stepP l (iterP l (k + 1) s) = stepP l (iterP l k (stepP l s))
    rw [iter_succ' l s k]
def noL (l : List Pl) : Prop := ∀ p ∈ l, p.2.2.2.1 ≠ 3
theorem on_skip (d : Int) (r : List Bs) (k : Nat) (fol : Bool) : Wk.on ⟨d, [46] :: r, k, fol, none⟩ = Wk.on ⟨d, r, k, fol, none⟩ := rfl
theorem on_head (d : Int) {p : Bs} (r : List Bs) (k : Nat) (fol : Bool) (h : p ≠ [46]) : Wk.on ⟨d, p :: r, k, fol, none⟩ = ⟨d, p :: r, k, fol, none⟩ := by
  have e : skipD (p :: r) = p :: r := by
    show (if p = [46] then skipD r else p :: r) = _
    rw [if_neg h]
  unfold Wk.on
  dsimp only
  rw [e]
theorem run_iter {l : List Pl} (hn : noL l) : ∀ (ps : List Bs) (d : Int) (k0 : Nat), ∃ k, k ≤ ps.length ∧ (iterP l k (Wk.on ⟨d, ps, k0, false, none⟩)).fin = some (runP l d ps)
  | [], d, k0 => ⟨0, Nat.le_refl _, rfl⟩
  | p :: r, d, k0 => by
    by_cases h46 : p = [46]
    · subst h46
      obtain ⟨k, hk, e⟩ := run_iter hn r d k0
      refine ⟨k, Nat.le_succ_of_le hk, ?_⟩
      rw [on_skip, e]
      show _ = some (if ([46] : Bs) = [46] then runP l d r else _)
      rw [if_pos rfl]
    rw [on_head d r k0 false h46]
    have hr : runP l d (p :: r) = (match findP l d p with
      | none => (270, if r = [] then d else 0, if r = [] then p else [], 0, 0)
      | some f => if p = [46, 46] then runP l f.1 r else if r = [] then (0, d, p, f.1, f.2.1) else if f.2.1 = 2 then runP l f.1 r else (271, 0, [], 0, 0)) := by
      show (if p = [46] then _ else _) = _
      rw [if_neg h46]
    rw [hr]
    have hst : stepP l ⟨d, p :: r, k0, false, none⟩ = (match findP l d p with
      | some f => Wk.give ⟨d, p :: r, k0, false, none⟩ f
      | none => Wk.miss ⟨d, p :: r, k0, false, none⟩) := rfl
    cases hf : findP l d p with
    | none =>
      rw [hf] at hst
      refine ⟨1, by simp, ?_⟩
      rw [iter_succ', hst]
      cases r with
      | nil => rfl
      | cons q r2 => rfl
    | some f =>
      rw [hf] at hst
      dsimp only at hst ⊢
      have h3 : f.2.1 ≠ 3 := by
        obtain ⟨z, hz1, hz2⟩ := findP_mem hf
        rw [← hz2]
        exact hn z hz1
      have hg : Wk.give ⟨d, p :: r, k0, false, none⟩ f = (if p = [46, 46] then Wk.on ⟨f.1, r, k0, false, none⟩ else if f.2.1 = 2 ∧ r ≠ [] then Wk.on ⟨f.1, r, k0, false, none⟩ else if r ≠ [] then Wk.done ⟨d, p :: r, k0, false, none⟩ (271, 0, [], 0, 0) else Wk.done ⟨d, p :: r, k0, false, none⟩ (0, d, p, f.1, f.2.1)) := by
        show (if p = [46, 46] then Wk.on ⟨f.1, r, k0, false, none⟩ else if f.2.1 = 3 ∧ (r ≠ [] ∨ false = true) then _ else _) = _
        rw [if_neg (fun h => h3 h.1 : ¬(f.2.1 = 3 ∧ (r ≠ [] ∨ false = true)))]
      rw [hg] at hst
      by_cases h2 : p = [46, 46]
      · rw [if_pos h2] at hst
        obtain ⟨k, hk, e⟩ := run_iter hn r f.1 k0
        refine ⟨k + 1, by simp; exact hk, ?_⟩
        rw [iter_succ', hst, e, if_pos h2]
      rw [if_neg h2] at hst ⊢
      by_cases hr0 : r = []
      · rw [if_neg (fun h => h.2 hr0), if_neg (fun h => h hr0)] at hst
        rw [if_pos hr0]
        refine ⟨1, by simp, ?_⟩
        rw [iter_succ', hst]
        rfl
      rw [if_neg hr0]
      by_cases hk2 : f.2.1 = 2
      · rw [if_pos ⟨hk2, hr0⟩] at hst
        rw [if_pos hk2]
        obtain ⟨k, hk, e⟩ := run_iter hn r f.1 k0
        refine ⟨k + 1, by simp; exact hk, ?_⟩
        rw [iter_succ', hst, e]
      · rw [if_neg (fun h => hk2 h.1), if_pos hr0] at hst
        rw [if_neg hk2]
        refine ⟨1, by simp, ?_⟩
        rw [iter_succ', hst]
        rfl
theorem run_new {l : List Pl} (hn : noL l) {path : Bs} (hz : pathN path = 0) : (iterP l 20000 (newW path false)).fin = some (runP l 1 (partsL path)) := by
  obtain ⟨k, hk, e⟩ := run_iter hn (partsL path) 1 0
  have := partsL_len0 hz
  rw [iter_done (s := newW path false) e (by omega)]
  exact e
theorem run_one (l : List Pl) (d : Int) {nm : Bs} (h1 : nm ≠ [46]) (h2 : nm ≠ [46, 46]) : runP l d [nm] = (match findP l d nm with
    | none => (270, d, nm, 0, 0)
    | some f => (0, d, nm, f.1, f.2.1)) := by
  show (if nm = [46] then _ else _) = _
  rw [if_neg h1]
  cases findP l d nm with
  | none => rfl
  | some f =>
    show (if nm = [46, 46] then _ else _) = _
    rw [if_neg h2]
    rfl
theorem run_app (l : List Pl) (nm : Bs) : ∀ (init : List Bs) (d : Int), ((runP l d init).1 ≠ 0 → (runP l d (init ++ [nm])).1 = (runP l d init).1 ∧ (runP l d (init ++ [nm])).2.2.2.1 = 0) ∧ ((runP l d init).1 = 0 → (runP l d init).2.2.2.2 ≠ 2 → (runP l d (init ++ [nm])).1 = 271) ∧ ((runP l d init).1 = 0 → (runP l d init).2.2.2.2 = 2 → runP l d (init ++ [nm]) = runP l (runP l d init).2.2.2.1 [nm])
  | [], d => ⟨fun h => absurd rfl h, fun _ h => absurd rfl h, fun _ _ => rfl⟩
  | p :: r, d => by
    by_cases h46 : p = [46]
    · have e1 : runP l d (p :: r) = runP l d r := by
        show (if p = [46] then _ else _) = _
        rw [if_pos h46]
      have e2 : runP l d (p :: r ++ [nm]) = runP l d (r ++ [nm]) := by
        show (if p = [46] then _ else _) = _
        rw [if_pos h46]
        rfl
      rw [e1, e2]
      exact run_app l nm r d
    have e : ∀ r', runP l d (p :: r') = (match findP l d p with
      | none => (270, if r' = [] then d else 0, if r' = [] then p else [], 0, 0)
      | some f => if p = [46, 46] then runP l f.1 r' else if r' = [] then (0, d, p, f.1, f.2.1) else if f.2.1 = 2 then runP l f.1 r' else (271, 0, [], 0, 0)) := fun r' => by
      show (if p = [46] then _ else _) = _
      rw [if_neg h46]
    have hne : r ++ [nm] ≠ [] := by simp
    rw [List.cons_append, e r, e (r ++ [nm])]
    cases hf : findP l d p with
    | none => exact ⟨fun _ => ⟨rfl, rfl⟩, fun h => absurd (show (270 : Int) = 0 from h) (by decide), fun h => absurd (show (270 : Int) = 0 from h) (by decide)⟩
    | some f =>
      dsimp only
      by_cases h2 : p = [46, 46]
      · rw [if_pos h2, if_pos h2]
        exact run_app l nm r f.1
      rw [if_neg h2, if_neg h2, if_neg hne]
      by_cases hr0 : r = []
      · subst hr0
        rw [if_pos rfl]
        by_cases hk : f.2.1 = 2
        · rw [if_pos hk]
          exact ⟨fun h => absurd rfl h, fun _ h => absurd hk h, fun _ _ => rfl⟩
        · rw [if_neg hk]
          exact ⟨fun h => absurd rfl h, fun _ _ => rfl, fun _ h => absurd h hk⟩
      rw [if_neg hr0]
      by_cases hk : f.2.1 = 2
      · rw [if_pos hk, if_pos hk]
        exact run_app l nm r f.1
      · rw [if_neg hk, if_neg hk]
        exact ⟨fun _ => ⟨rfl, rfl⟩, fun h => absurd h (by decide), fun h => absurd h (by decide)⟩
end Go.Proofs.YtbbddpnjglijdaaDoor
/- Opening the arguments of a law: slices of numbers, pairs of numbers. -/
namespace Go.Proofs.YtbbddpnjglijdaaDoor
set_option linter.unusedVariables false
set_option linter.unusedSimpArgs false
open Go.RowKit Go.ChangeShapes Go.WideShapes Go.ChangeAt

theorem own : ownKnob Tryd.prog.godebug = none := by kernel_rfl
theorem laidOut : laidOutB Tryd.prog = true := by kernel_rfl

section
variable {H : Type} {enc : TypeId × Value → H} {P : Program} {w : World} {base : Nat} {spare : Nat → Bool} {held : Bool} {r : Reach} {b0 : Nat} {t : TypeId} {v : Value} {d : DataW H} {p : List MemPlace}

end
end Go.Proofs.YtbbddpnjglijdaaDoor
/- Opening the arguments of a law: structs, arrays and slices of them, of integers, truth values and strings. Over any program. -/
namespace Go.Proofs.YtbbddpnjglijdaaDoor
set_option linter.unusedVariables false
set_option linter.unusedSimpArgs false
open Go.RowKit Go.ChangeShapes Go.WideShapes Go.ChangeAt Go.Deep
/-- What lies at a cell: an integer of a kind, a truth value, a string. -/
inductive Ckd where
  | int (k : IntKind)
  | bool
  | str
deriving DecidableEq
def atQ (P : Program) : Nat → TypeId → Nat → Option Ckd
  | 0, _, _ => none
  | d + 1, t, j => match P.underlying t with
    | some (.struct fs) => fs.toList.findSome? fun f => if f.offset ≤ j ∧ j < f.offset + P.cellsOf f.type then atQ P d f.type (j - f.offset) else none
    | some (.array n e) => if j / P.cellsOf e < n then atQ P d e (j % P.cellsOf e) else none
    | some (.int k) => if j = 0 then some (.int k) else none
    | some .bool => if j = 0 then some .bool else none
    | some .string => if j = 0 then some .str else none
    | _ => none
abbrev ZBS := Int × Bool × ByteArray
def cellQ : Ckd → ZBS → Value
  | .int k, z => .int k z.1
  | .bool, z => .bool z.2.1
  | .str, z => .string z.2.2
def wfQ : Ckd → ZBS → Prop
  | .int k, z => (Lit.int k z.1).wf = true
  | .bool, _ => True
  | .str, z => z.2.2.size ≤ maxLen
section
variable {α : Type} {encT : α → List Value} {H : Type} {enc : TypeId × Value → H} {P : Program} {w : World} {base : Nat} {spare : Nat → Bool} {held : Bool} {r : Reach} {b0 : Nat} {t : TypeId} {v : Value} {d : DataW H} {p : List MemPlace}
theorem trod_atQ : ∀ (n : Nat) (t : TypeId) (j fuel : Nat) (cs : List Value) (x : DataW H × List MemPlace) (k : Ckd), atQ P n t j = some k → DataW.trod enc P w base spare held fuel t cs = some x → ∃ z : ZBS, cs[j]? = some (cellQ k z) ∧ wfQ k z
  | 0, _, _, _, _, _, _, h, _ => by cases h
  | n + 1, t, j, fuel, cs, x, k, h, hx => by
    cases hu : P.underlying t with
    | none => simp [atQ, hu] at h
    | some kd =>
      cases kd <;> simp only [atQ, hu] at h <;> try (cases h; done)
      case int q =>
        split at h
        · rename_i hj
          cases h
          subst hj
          obtain ⟨z, e, _, hw⟩ := DataW.trod_int hu hx
          exact ⟨(z, false, ByteArray.empty), by rw [e]; rfl, hw⟩
        · cases h
      case bool =>
        split at h
        · rename_i hj
          cases h
          subst hj
          obtain ⟨b, e, _⟩ := DataW.trod_bool hu hx
          exact ⟨(0, b, ByteArray.empty), by rw [e]; rfl, trivial⟩
        · cases h
      case string =>
        split at h
        · rename_i hj
          cases h
          subst hj
          obtain ⟨s, e, _, hs⟩ := DataW.trod_string hu hx
          exact ⟨(0, false, s), by rw [e]; rfl, hs⟩
        · cases h
      case struct fs =>
        obtain ⟨f, hf, hfk⟩ := List.exists_of_findSome?_eq_some h
        split at hfk
        · rename_i hj
          obtain ⟨xs, m, _, rfl, hl, hlen, hf2⟩ := DataW.trod_struct hu hx
          obtain ⟨i, hi⟩ := List.mem_iff_getElem?.1 hf
          have h2 := hf2 i f (by simpa using hi)
          have hil : i < xs.length := by
            have := (List.getElem?_eq_some_iff.1 hi).1
            rw [Array.length_toList] at this
            omega
          rw [List.getElem?_eq_getElem hil] at h2
          obtain ⟨z, e, hw⟩ := trod_atQ n f.type (j - f.offset) _ _ _ k hfk h2
          refine ⟨z, ?_, hw⟩
          rw [List.getElem?_take] at e
          split at e
          · rw [List.getElem?_drop] at e
            rwa [show f.offset + (j - f.offset) = j by omega] at e
          · cases e
        · cases hfk
      case array m e =>
        split at h
        · rename_i hj
          obtain ⟨xs, m', _, rfl, hl, hlen, hi⟩ := DataW.trod_array hu hx
          have h2 := hi _ hj
          rw [List.getElem?_eq_getElem (by omega)] at h2
          obtain ⟨z, e', hw⟩ := trod_atQ n e (j % P.cellsOf e) _ _ _ k h h2
          refine ⟨z, ?_, hw⟩
          rw [List.getElem?_take] at e'
          split at e'
          · rw [List.getElem?_drop] at e'
            rwa [show j / P.cellsOf e * P.cellsOf e + j % P.cellsOf e = j by rw [Nat.mul_comm]; exact Nat.div_add_mod _ _] at e'
          · cases e'
        · cases h
theorem open_rowsQ {e c : Nat} (ks : Nat → Ckd) (E : Enc encT c) (f : (Nat → ZBS) → α) (hf : ∀ g, encT (f g) = (List.range c).map fun j => cellQ (ks j) (g j)) (ht : P.underlying t = some (.slice e)) (ce : P.cellsOf e = c) (hk : (List.range c).all (fun j => atQ P 9 e j == some (ks j)) = true)
    (hv : Value.okWide P w r b0 t v) (h : DataW.Trod enc P w base spare held t v d p) : ∃ gs : List (Nat → ZBS), ReadsT encT c w v (gs.map f) ∧ (∀ g ∈ gs, ∀ j, j < c → wfQ (ks j) (g j)) ∧ gs.length ≤ 9223372036854775807 := by
  obtain ⟨a, len, cap, rfl⟩ := okWide_slice ht hv
  obtain ⟨fuel, hfu⟩ := h
  rcases open_slice ht hfu with ⟨hcs, _⟩ | ⟨x, l, c', m, n, D, Pl, hcs, hb, hl, hm, hmm, _, hx⟩
  · simp [Value.cells] at hcs
    obtain ⟨rfl, rfl, rfl⟩ := hcs
    exact ⟨[], ReadsT.nil w, by simp, by simp⟩
  · simp [Value.cells] at hcs
    obtain ⟨rfl, rfl, rfl⟩ := hcs
    have hlm : len ≤ m := by rw [hmm]; split <;> omega
    have each : ∀ i, i < len → ∃ g : Nat → ZBS, ∀ j, j < c → w.cell? (x.add (i * c + j)) = some (cellQ (ks j) (g j)) ∧ wfQ (ks j) (g j) := by
      intro i hi
      obtain ⟨cs', h1, h2⟩ := hx i (by omega)
      rw [ce] at h1
      obtain ⟨_, hlen, hcell⟩ := World.cells?_some h1
      have hj : ∀ j, ∃ z : ZBS, j < c → cs'[j]? = some (cellQ (ks j) z) ∧ wfQ (ks j) z := fun j => by
        by_cases hjc : j < c
        · have hkj := List.all_eq_true.1 hk j (List.mem_range.2 hjc)
          obtain ⟨z, h3, h4⟩ := trod_atQ 9 e j n cs' (D i, Pl i) (ks j) (by simpa using hkj) h2
          exact ⟨z, fun _ => ⟨h3, h4⟩⟩
        · exact ⟨(0, false, ByteArray.empty), fun h => absurd h hjc⟩
      refine ⟨fun j => Classical.choose (hj j), fun j hjc => ?_⟩
      have hs := Classical.choose_spec (hj j) hjc
      refine ⟨?_, hs.2⟩
      have := hcell j (by omega)
      rw [add_add] at this
      rw [this]
      exact hs.1
    obtain ⟨G, hG⟩ := choose_lt each
    have hlen : (((List.range len).map G).map f).length = len := by simp
    refine ⟨(List.range len).map G, ⟨some x, cap, by rw [hlen], by rw [hlen]; exact hl, fun hne => ?_⟩, ?_, ?_⟩
    · have h0 : 0 < len := by
        rcases Nat.eq_zero_or_pos len with h0 | h0
        · subst h0; simp at hne
        · exact h0
      have hcp := E.pos
      obtain ⟨b, off, spot⟩ := x
      have hc0 := (hG 0 h0 0 hcp).1
      have hspot : spot = none := by simpa [Addr.add] using World.cell?_spot hc0
      subst hspot
      have hblt : b < w.heap.size := by
        rcases Nat.lt_or_ge b w.heap.size with hb | hb
        · exact hb
        · simp [Addr.add, World.cell?, Array.getElem?_eq_none hb] at hc0
      refine ⟨b, off, rfl, hblt, fun j hj => ?_⟩
      rw [hlen] at hj
      have hil : j / c < len := (Nat.div_lt_iff_lt_mul hcp).2 hj
      have hrl : j % c < c := Nat.mod_lt _ hcp
      have hc1 := (hG (j / c) hil (j % c) hrl).1
      rw [Addr.add_lit] at hc1
      have hje : j / c * c + j % c = j := by rw [Nat.mul_comm]; exact Nat.div_add_mod _ _
      have hget : (((List.range len).map G).map f)[j / c]? = some (f (G (j / c))) := by simp [hil]
      have hg := E.get _ (j / c) _ hget (j % c) hrl
      rw [hje] at hg hc1
      rw [hg, hf, hc1]
      simp [hrl]
    · intro g hg j hj
      obtain ⟨i, hi, rfl⟩ := List.mem_map.1 hg
      exact (hG i (List.mem_range.1 hi) j hj).2
    · simp only [List.length_map, List.length_range]
      unfold maxLen at hm
      omega
end
end Go.Proofs.YtbbddpnjglijdaaDoor
/- WalkEnds, any input (written by genwk13.py). -/
namespace Go.Proofs.YtbbddpnjglijdaaDoor
set_option linter.unusedVariables false
set_option linter.unusedSimpArgs false
open Go.RowKit Go.Shelf
set_option maxRecDepth 100000
set_option maxHeartbeats 8000000
def plKs (j : Nat) : Ckd := if j = 1 ∨ j = 4 then .str else .int .i64
def plOf (g : Nat → ZBS) : Pl := ((g 0).1, (g 1).2.2.data.toList, (g 2).1, (g 3).1, (g 4).2.2.data.toList)
theorem plOf_enc (g : Nat → ZBS) : plE (plOf g) = (List.range 5).map fun j => cellQ (plKs j) (g j) := by
  show [Value.int .i64 (g 0).1, strV _, .int .i64 (g 2).1, .int .i64 (g 3).1, strV _] = [Value.int .i64 (g 0).1, .string (g 1).2.2, .int .i64 (g 2).1, .int .i64 (g 3).1, .string (g 4).2.2]
  rw [bs_data (g 1).2.2, bs_data (g 4).2.2]
  rfl
end Go.Proofs.YtbbddpnjglijdaaDoor
/- WalkHolds, any input (written by genwk15.py). -/
namespace Go.Proofs.YtbbddpnjglijdaaDoor
set_option linter.unusedVariables false
set_option linter.unusedSimpArgs false
open Go.RowKit Go.Shelf
set_option maxRecDepth 100000
set_option maxHeartbeats 8000000
theorem Tryd.infoPl : (Tryd.prog.info? 70).map (fun i => (i.zero, i.size, i.bytes)) = some (some (.agg #[.int .i64 0, strV [], .int .i64 0, .int .i64 0, strV []]), 5, 56) := by kernel_rfl
theorem ElPl : ElT Tryd.prog 48 70 (.agg #[.int .i64 0, strV [], .int .i64 0, .int .i64 0, strV []]) 5 56 := info_parts_t Tryd.underlying48 Tryd.infoPl rfl
theorem exposeT17 {α : Type} {enc : α → List Value} {k : Nat} {W : World} {v : Value} {ts : List α} (h : ReadsT enc k W v ts) : ∃ X0 : World, W.heap.size ≤ X0.heap.size ∧ (∀ X, Below X0.heap.size X0 X → ReadsT enc k X v ts) ∧ Below X0.heap.size X0 W := ⟨W, Nat.le_refl _, fun X b => h.up b, Below.refl _ _⟩
def ownP (l : List Pl) : List Pl := l.filter fun p => !decide (p.2.2.2.1 = 3)
theorem own_noL (l : List Pl) : noL (ownP l) := fun p hp => by
  have := (List.mem_filter.1 hp).2
  simpa using this
theorem own_snoc (l : List Pl) (p : Pl) : ownP (l ++ [p]) = if p.2.2.2.1 = 3 then ownP l else ownP l ++ [p] := by
  unfold ownP
  rw [List.filter_append]
  by_cases h : p.2.2.2.1 = 3
  · rw [if_pos h]
    simp [h]
  · rw [if_neg h]
    simp [h]
theorem own_len (l : List Pl) : (ownP l).length ≤ l.length := List.length_filter_le _ _
theorem split_dots {l d n : Bs} (h : pathN l = 0) (hs : splitN l = (d, n, 0)) : n ≠ [46] ∧ n ≠ [46, 46] := by
  unfold splitN at hs
  rw [if_pos h] at hs
  cases e : (partsL l).getLast? with
  | none =>
    rw [e] at hs
    simp at hs
  | some p =>
    rw [e] at hs
    dsimp only at hs
    cases hd : dotsB p with
    | true =>
      rw [hd] at hs
      simp at hs
    | false =>
      rw [hd] at hs
      simp only [Bool.false_eq_true, if_false, Prod.mk.injEq] at hs
      obtain ⟨_, rfl, _⟩ := hs
      unfold dotsB at hd
      simp only [Bool.or_eq_false_iff, decide_eq_false_iff_not] at hd
      exact hd
theorem holds_walk (path : Bs) (v : Value) (l : List Pl) (w : World) (hm : Mx w) (hv : ReadsT plE 5 w v l) (hp : path.length ≤ 9223372036854775807) : Calls Tryd.prog 7 #[strV path, v] w fun e w' => e = .returned (.bool true) ∧ Below w.heap.size w w' := by
  have q := Below.refl w.heap.size w
  have hm0 := hm.lt
  have hmw := hm
  obtain ⟨N, hN⟩ : ∃ N, l.length = N := ⟨_, rfl⟩
  obtain ⟨a, cap, rfl, hc⟩ := hv.form hN
  have hF : ∀ W, Below w.heap.size w W → ReadsT plE 5 W (.slice a N cap) l := fun W b => hv.up b
  clear hv
  obtain ⟨np, hnp⟩ : ∃ n, path.length = n := ⟨_, rfl⟩
  by_cases h1 : 1000 < np
  · refine X.fn Tryd.func7 rfl (n := 157) rfl rfl ?_
    refine CC.seq ?_
    refine CC.region ?_
    refine LL.val (R.assign rfl rfl) rfl rfl rfl ?_
    refine LL.nilS ?_
    refine CC.seq ?_
    refine CC.seq ?_
    refine CC.region ?_
    refine LL.val (R.move rfl rfl) rfl rfl rfl ?_
    refine LL.val (R.lenS rfl rfl rfl rfl) rfl rfl rfl ?_
    refine LL.val (R.gtT rfl rfl rfl (by omega)) rfl rfl rfl ?_
    refine LL.val (R.move rfl rfl) rfl rfl rfl ?_
    refine LL.skip rfl rfl ?_
    refine LL.skip rfl rfl ?_
    refine LL.skip rfl rfl ?_
    refine LL.val (R.pick rfl rfl rfl) rfl rfl rfl ?_
    refine LL.nilS ?_
    refine CC.yes rfl ?_
    refine CC.seq ?_
    refine CC.region ?_
    (refine LL.call (R.call rfl rfl rfl) rfl rfl rfl (works17_any _ (hmw.up q)) ?_; rintro e W46 ⟨rfl, b43⟩; refine ⟨_, rfl, ?_⟩)
    have zb43 := b43.size
    replace hm := hm.up b43
    replace q := q.trans (b43.mono q.size)
    replace hmw := hmw.up b43
    refine LL.val (R.assign rfl rfl) rfl rfl rfl ?_
    refine LL.nilS ?_
    refine CC.ret ?_
    refine EE.thenR ?_
    refine EE.ret _ rfl rfl ?_
    exact ⟨rfl, q⟩
  by_cases h60 : 60 < N
  · refine X.fn Tryd.func7 rfl (n := 157) rfl rfl ?_
    refine CC.seq ?_
    refine CC.region ?_
    refine LL.val (R.assign rfl rfl) rfl rfl rfl ?_
    refine LL.nilS ?_
    refine CC.seq ?_
    refine CC.seq ?_
    refine CC.region ?_
    refine LL.val (R.move rfl rfl) rfl rfl rfl ?_
    refine LL.val (R.lenS rfl rfl rfl rfl) rfl rfl rfl ?_
    refine LL.val (R.gtF rfl rfl rfl (by omega)) rfl rfl rfl ?_
    refine LL.val (R.move rfl rfl) rfl rfl rfl ?_
    refine LL.val (R.move rfl rfl) rfl rfl rfl ?_
    refine LL.val (R.len rfl rfl rfl rfl) rfl rfl rfl ?_
    refine LL.val (R.gtT rfl rfl rfl (by omega)) rfl rfl rfl ?_
    refine LL.val (R.pick rfl rfl rfl) rfl rfl rfl ?_
    refine LL.nilS ?_
    refine CC.yes rfl ?_
    refine CC.seq ?_
    refine CC.region ?_
    (refine LL.call (R.call rfl rfl rfl) rfl rfl rfl (works17_any _ (hmw.up q)) ?_; rintro e Wa67 ⟨rfl, ba64⟩; refine ⟨_, rfl, ?_⟩)
    have zba64 := ba64.size
    replace hm := hm.up ba64
    replace q := q.trans (ba64.mono q.size)
    replace hmw := hmw.up ba64
    refine LL.val (R.assign rfl rfl) rfl rfl rfl ?_
    refine LL.nilS ?_
    refine CC.ret ?_
    refine EE.thenR ?_
    refine EE.ret _ rfl rfl ?_
    exact ⟨rfl, q⟩
  refine X.fn Tryd.func7 rfl (n := 157) rfl rfl ?_
  refine CC.seq ?_
  refine CC.region ?_
  refine LL.val (R.assign rfl rfl) rfl rfl rfl ?_
  refine LL.nilS ?_
  refine CC.seq ?_
  refine CC.seq ?_
  refine CC.region ?_
  refine LL.val (R.move rfl rfl) rfl rfl rfl ?_
  refine LL.val (R.lenS rfl rfl rfl rfl) rfl rfl rfl ?_
  refine LL.val (R.gtF rfl rfl rfl (by omega)) rfl rfl rfl ?_
  refine LL.val (R.move rfl rfl) rfl rfl rfl ?_
  refine LL.val (R.move rfl rfl) rfl rfl rfl ?_
  refine LL.val (R.len rfl rfl rfl rfl) rfl rfl rfl ?_
  refine LL.val (R.gtF rfl rfl rfl (by omega)) rfl rfl rfl ?_
  refine LL.val (R.pick rfl rfl rfl) rfl rfl rfl ?_
  refine LL.nilS ?_
  refine CC.no rfl ?_
  refine CC.skip ?_
  refine EE.thenN ?_
  refine CC.seq ?_
  refine CC.region ?_
  refine LL.val (R.assign rfl rfl) rfl rfl rfl ?_
  refine LL.nilS ?_
  refine CC.seq ?_
  refine CC.seq ?_
  refine CC.region ?_
  refine LL.val (R.assign rfl rfl) rfl rfl rfl ?_
  refine LL.nilS ?_
  refine CC.block ?_
  refine CC.loop (α := Nat × Value) (fun s => [(0, strV path), (1, .slice a N cap), (5, s.2), (6, .int .i64 (s.1 : Int))]) (fun s W => s.1 ≤ N ∧ Below w.heap.size w W ∧ Mx W ∧ OwnsT plE 5 W w.heap.size 70 s.2 (ownP (l.take s.1))) (fun s => N - s.1) (0, .slice none 0 0) ⟨rfl, rfl, rfl, rfl, trivial⟩ ⟨Nat.zero_le _, q, hm, OwnsT.none _ _ _⟩ ?_
  have hmF := fun X (b : Below w.heap.size w X) => hmw.up b
  clear q hm
  rintro ⟨i, vo⟩ W ⟨hi, q, _, oo⟩
  simp only at hi oo
  have jq := q.size
  show CC none Tryd.prog _ 157 [] (sl [(0, strV path), (1, .slice a N cap), (5, vo), (6, .int .i64 (i : Int))]) _ W
  have holl : (ownP (l.take i)).length ≤ 60 := Nat.le_trans (own_len _) (by rw [List.length_take]; omega)
  by_cases hlt : i < N
  case pos =>
    obtain ⟨⟨pd, pn, fi, fk, ft⟩, hx⟩ : ∃ x, l[i]? = some x := ⟨_, List.getElem?_eq_getElem (by omega)⟩
    obtain ⟨b1, o1, rfl, lb1, _⟩ := (hF _ q).get plEnc hx
    have m1 : CellsN W ⟨b1, o1 + i * 5, none⟩ 5 [.int .i64 pd, strV pn, .int .i64 fi, .int .i64 fk, strV ft] := (hF W q).elemN plEnc hx
    have c0 : W.cell? ⟨b1, o1 + i * 5 + 2 + 1, none⟩ = some (.int .i64 fk) := m1.at'.at (j := 3) rfl
    have etk : l.take (i + 1) = l.take i ++ [(pd, pn, fi, fk, ft)] := by rw [List.take_add_one, hx]; rfl
    have est := own_snoc (l.take i) (pd, pn, fi, fk, ft)
    rw [← etk] at est
    dsimp only at est
    obtain ⟨K, hK⟩ : ∃ K, (ownP (l.take i)).length = K := ⟨_, rfl⟩
    rw [hK] at holl
    obtain ⟨ao, co, rfl, hco⟩ := (oo.reads plEnc).form hK
    by_cases hk : fk = 3
    · rw [if_pos hk] at est
      clear etk
      refine CC.seq ?_
      refine CC.seq ?_
      refine CC.region ?_
      refine LL.val (R.move rfl rfl) rfl rfl rfl ?_
      refine LL.val (R.move rfl rfl) rfl rfl rfl ?_
      refine LL.val (R.len rfl rfl rfl rfl) rfl rfl rfl ?_
      refine LL.val (R.ltT rfl rfl rfl (by omega)) rfl rfl rfl ?_
      refine LL.nilS ?_
      refine CC.yes rfl ?_
      refine CC.skip ?_
      refine EE.thenN ?_
      refine CC.seq ?_
      refine CC.block ?_
      refine CC.seq ?_
      refine CC.region ?_
      refine LL.val (R.move rfl rfl) rfl rfl rfl ?_
      refine LL.val (R.move rfl rfl) rfl rfl rfl ?_
      refine LL.val (R.index rfl rfl rfl (I.ixS rfl (by omega))) rfl rfl rfl ?_
      refine LL.val (R.field rfl rfl (I.fld rfl)) rfl rfl rfl ?_
      refine LL.val (R.field rfl rfl (I.fld rfl)) rfl rfl rfl ?_
      refine LL.val (R.load rfl rfl (I.ld1 rfl (by assumption))) rfl rfl rfl ?_
      refine LL.val (R.neF rfl rfl rfl (by omega)) rfl rfl rfl ?_
      refine LL.nilS ?_
      refine CC.no rfl ?_
      refine CC.skip ?_
      refine EE.inN ?_
      refine EE.thenN ?_
      refine CC.region ?_
      refine LL.val (R.move rfl rfl) rfl rfl rfl ?_
      refine LL.val (R.addNc rfl rfl rfl rfl (by omega)) rfl rfl rfl ?_
      refine LL.val (R.assign rfl rfl) rfl rfl rfl ?_
      refine LL.nil ?_
      exact EE.round (i + 1, _) ⟨rfl, rfl, rfl, rfl, trivial⟩ ⟨by show i + 1 ≤ N; omega, q, hmF _ q, by rw [est]; exact oo⟩ (by show N - (i + 1) < N - i; omega)
    · rw [if_neg hk] at est
      clear etk
      refine CC.seq ?_
      refine CC.seq ?_
      refine CC.region ?_
      refine LL.val (R.move rfl rfl) rfl rfl rfl ?_
      refine LL.val (R.move rfl rfl) rfl rfl rfl ?_
      refine LL.val (R.len rfl rfl rfl rfl) rfl rfl rfl ?_
      refine LL.val (R.ltT rfl rfl rfl (by omega)) rfl rfl rfl ?_
      refine LL.nilS ?_
      refine CC.yes rfl ?_
      refine CC.skip ?_
      refine EE.thenN ?_
      refine CC.seq ?_
      refine CC.block ?_
      refine CC.seq ?_
      refine CC.region ?_
      refine LL.val (R.move rfl rfl) rfl rfl rfl ?_
      refine LL.val (R.move rfl rfl) rfl rfl rfl ?_
      refine LL.val (R.index rfl rfl rfl (I.ixS rfl (by omega))) rfl rfl rfl ?_
      refine LL.val (R.field rfl rfl (I.fld rfl)) rfl rfl rfl ?_
      refine LL.val (R.field rfl rfl (I.fld rfl)) rfl rfl rfl ?_
      refine LL.val (R.load rfl rfl (I.ld1 rfl (by assumption))) rfl rfl rfl ?_
      refine LL.val (R.neT rfl rfl rfl (by omega)) rfl rfl rfl ?_
      refine LL.nilS ?_
      refine CC.yes rfl ?_
      refine CC.region ?_
      refine LL.val (R.move rfl rfl) rfl rfl rfl ?_
      refine LL.val (R.move rfl rfl) rfl rfl rfl ?_
      refine LL.val (R.move rfl rfl) rfl rfl rfl ?_
      refine LL.val (R.index rfl rfl rfl (I.ixS rfl (by omega))) rfl rfl rfl ?_
      refine LL.val (R.load rfl rfl (I.ldNc (by assumption) rfl rfl)) rfl rfl rfl ?_
      refine LL.lit (e := 70) [Value.int IntKind.i64 pd, strV pn, Value.int IntKind.i64 fi, Value.int IntKind.i64 fk, strV ft] 1 rfl rfl (fun _ => by kernel_rfl) rfl rfl ?_
      intro Wd2 gd3 egd3 rd4 zd5 bd1
      replace q := q.trans (bd1.mono q.size)
      replace m1 := m1.up bd1
      replace c0 := cell_up c0 bd1
      replace oo := oo.up bd1
      (refine LL.appendT2 rfl rfl plEnc ElPl oo (us := [(pd, pn, fi, fk, ft)]) (RowL.readsT (ts := [(pd, pn, fi, fk, ft)]) plEnc (by assumption) 1 (by simp)) (by simp [maxLen]; omega) (by simp; omega) (by omega) rfl rfl ?_; intro v' Wz oz gra hva; have gsz := gra.size; replace q := q.grown gra q.size (fun g hg => by have := own_ge oo g hg; omega); clear oo hva gra)
      refine LL.val (R.assign rfl rfl) rfl rfl rfl ?_
      refine LL.nil ?_
      refine EE.inN ?_
      refine EE.thenN ?_
      refine CC.region ?_
      refine LL.val (R.move rfl rfl) rfl rfl rfl ?_
      refine LL.val (R.addNc rfl rfl rfl rfl (by omega)) rfl rfl rfl ?_
      refine LL.val (R.assign rfl rfl) rfl rfl rfl ?_
      refine LL.nil ?_
      exact EE.round (i + 1, _) ⟨rfl, rfl, rfl, rfl, trivial⟩ ⟨by show i + 1 ≤ N; omega, q, hmF _ q, by rw [est]; exact oz⟩ (by show N - (i + 1) < N - i; omega)
  obtain rfl : N = i := by omega
  rw [List.take_of_length_le (by omega)] at oo holl
  have hno := own_noL l
  obtain ⟨ow, how⟩ : ∃ x, ownP l = x := ⟨_, rfl⟩
  rw [how] at oo holl hno
  obtain ⟨X1, hzX1, hoF, q1⟩ := exposeT17 (oo.reads plEnc)
  obtain ⟨K, hK⟩ : ∃ K, ow.length = K := ⟨_, rfl⟩
  obtain ⟨ao, co, rfl, hco⟩ := (oo.reads plEnc).form hK
  rw [hK] at holl
  have zX1 := q1.size
  clear oo how hlt
  have hgo := fun p2 (h0 : p2.length ≤ 9223372036854775807) (hz : pathN p2 = 0) W (m : Mx W) (b : Below X1.heap.size X1 W) => goes_fin p2 false _ ow W m h0 hz (hoF W b) (by omega) (fun p hp h => absurd h (hno p hp)) _ (run_new hno hz)
  by_cases hz : pathN path = 0
  case neg =>
    obtain ⟨er, her⟩ : ∃ er, pathN path = er := ⟨_, rfl⟩
    have her0 : (er : Int) ≠ 0 := by omega
    refine CC.seq ?_
    refine CC.seq ?_
    refine CC.region ?_
    refine LL.val (R.move rfl rfl) rfl rfl rfl ?_
    refine LL.val (R.move rfl rfl) rfl rfl rfl ?_
    refine LL.val (R.len rfl rfl rfl rfl) rfl rfl rfl ?_
    refine LL.val (R.ltF rfl rfl rfl (by omega)) rfl rfl rfl ?_
    refine LL.nilS ?_
    refine CC.no rfl ?_
    refine CC.exit ?_
    refine EE.thenX ?_
    refine EE.thenX ?_
    refine EE.inX ?_
    refine EE.thenN ?_
    refine CC.seq ?_
    refine CC.region ?_
    refine LL.val (R.move rfl rfl) rfl rfl rfl ?_
    (refine LL.call (R.call rfl rfl rfl) rfl rfl rfl (rparts_any path _ (by omega)) ?_; rintro e We74 ⟨v2, rfl, o2, be71⟩; refine ⟨_, rfl, ?_⟩; rw [her] at *; obtain ⟨a2, c2, rfl, hc2⟩ := (o2.reads stEnc).form rfl; clear o2)
    have zbe71 := be71.size
    replace q := q.trans (be71.mono q.size)
    replace q1 := q1.trans (be71.mono q1.size)
    refine LL.val (R.move rfl rfl) rfl rfl rfl ?_
    refine LL.val (R.extract rfl rfl rfl) rfl rfl rfl ?_
    refine LL.val (R.extract rfl rfl rfl) rfl rfl rfl ?_
    refine LL.val (R.assign rfl rfl) rfl rfl rfl ?_
    refine LL.val (R.assign rfl rfl) rfl rfl rfl ?_
    refine LL.nilS ?_
    refine CC.seq ?_
    refine CC.seq ?_
    refine CC.region ?_
    refine LL.val (R.move rfl rfl) rfl rfl rfl ?_
    refine LL.val (R.neT rfl rfl rfl (by omega)) rfl rfl rfl ?_
    refine LL.nilS ?_
    refine CC.yes rfl ?_
    refine CC.seq ?_
    refine CC.region ?_
    (refine LL.call (R.call rfl rfl rfl) rfl rfl rfl (works17_any _ (hmw.up q)) ?_; rintro e We186 ⟨rfl, be183⟩; refine ⟨_, rfl, ?_⟩)
    have zbe183 := be183.size
    replace be71 := be71.trans (be183.mono be71.size)
    replace q := q.trans (be183.mono q.size)
    replace q1 := q1.trans (be183.mono q1.size)
    refine LL.val (R.assign rfl rfl) rfl rfl rfl ?_
    refine LL.nilS ?_
    refine CC.ret ?_
    refine EE.thenR ?_
    refine EE.ret _ rfl rfl ?_
    exact ⟨rfl, q⟩
  have hgs := glue_short hz
  obtain ⟨hz2, hps2⟩ := short_path hz
  have hg1 := hgo path hp hz
  have hg2 := hgo (glueL (partsL path)) (by omega) hz2
  rw [hps2] at hg2
  have hsp := fun W => rsplit_any path W (by omega)
  have hspp : ∀ d nm, splitN path = (d, nm, 0) → pathN d = 0 ∧ partsL d ++ [nm] = partsL path := fun d nm h => ⟨(split_path hz h).1, (split_path hz h).2.1⟩
  have hspd : ∀ d nm, splitN path = (d, nm, 0) → d.length ≤ 1000 ∧ nm ≠ [46] ∧ nm ≠ [46, 46] := fun d nm h => ⟨pathN_long (hspp d nm h).1, split_dots hz h⟩
  obtain ⟨⟨d, nm, er⟩, hsv⟩ : ∃ x, splitN path = x := ⟨_, rfl⟩
  rw [hsv] at hsp hspp hspd
  obtain ⟨x, hx⟩ : ∃ x, runP ow 1 (partsL path) = x := ⟨_, rfl⟩
  rw [hx] at hg1 hg2
  obtain ⟨gp, hgp⟩ : ∃ x, glueL (partsL path) = x := ⟨_, rfl⟩
  by_cases her : er = 0
  case neg =>
    have her0 : (er : Int) ≠ 0 := by omega
    obtain ⟨xe, xd, xn, xi, xk⟩ := x
    clear hx hspp hspd hgo
    refine CC.seq ?_
    refine CC.seq ?_
    refine CC.region ?_
    refine LL.val (R.move rfl rfl) rfl rfl rfl ?_
    refine LL.val (R.move rfl rfl) rfl rfl rfl ?_
    refine LL.val (R.len rfl rfl rfl rfl) rfl rfl rfl ?_
    refine LL.val (R.ltF rfl rfl rfl (by omega)) rfl rfl rfl ?_
    refine LL.nilS ?_
    refine CC.no rfl ?_
    refine CC.exit ?_
    refine EE.thenX ?_
    refine EE.thenX ?_
    refine EE.inX ?_
    refine EE.thenN ?_
    refine CC.seq ?_
    refine CC.region ?_
    refine LL.val (R.move rfl rfl) rfl rfl rfl ?_
    (refine LL.call (R.call rfl rfl rfl) rfl rfl rfl (rparts_any path _ (by omega)) ?_; rintro e Wf179 ⟨v2, rfl, o2, bf176⟩; refine ⟨_, rfl, ?_⟩; rw [hz, if_pos rfl] at o2; rw [hz]; obtain ⟨a2, c2, rfl, hc2⟩ := (o2.reads stEnc).form rfl; obtain ⟨X2, hzX2, h2F, q2⟩ := exposeT17 (o2.reads stEnc); have zX2 := q2.size; clear o2)
    have zbf176 := bf176.size
    replace q := q.trans (bf176.mono q.size)
    replace q1 := q1.trans (bf176.mono q1.size)
    refine LL.val (R.move rfl rfl) rfl rfl rfl ?_
    refine LL.val (R.extract rfl rfl rfl) rfl rfl rfl ?_
    refine LL.val (R.extract rfl rfl rfl) rfl rfl rfl ?_
    refine LL.val (R.assign rfl rfl) rfl rfl rfl ?_
    refine LL.val (R.assign rfl rfl) rfl rfl rfl ?_
    refine LL.nilS ?_
    refine CC.seq ?_
    refine CC.seq ?_
    refine CC.region ?_
    refine LL.val (R.move rfl rfl) rfl rfl rfl ?_
    refine LL.val (R.neF rfl rfl rfl (by omega)) rfl rfl rfl ?_
    refine LL.nilS ?_
    refine CC.no rfl ?_
    refine CC.skip ?_
    refine EE.thenN ?_
    refine CC.seq ?_
    refine CC.region ?_
    refine LL.val (R.move rfl rfl) rfl rfl rfl ?_
    refine LL.val (R.move rfl rfl) rfl rfl rfl ?_
    (refine LL.call (R.call rfl rfl rfl) rfl rfl rfl (hg1 _ (hmw.up q) q1) ?_; rintro e Wf508 ⟨rfl, bf505⟩; refine ⟨_, rfl, ?_⟩)
    have zbf505 := bf505.size
    replace bf176 := bf176.trans (bf505.mono bf176.size)
    replace q2 := q2.trans (bf505.mono q2.size)
    replace q := q.trans (bf505.mono q.size)
    replace q1 := q1.trans (bf505.mono q1.size)
    refine LL.val (R.move rfl rfl) rfl rfl rfl ?_
    refine LL.val (R.extract rfl rfl rfl) rfl rfl rfl ?_
    refine LL.val (R.extract rfl rfl rfl) rfl rfl rfl ?_
    refine LL.alloc ([Value.int IntKind.i64 0, Value.int IntKind.i64 0, Value.string { data := { toList := [] } }, Value.int IntKind.i64 0, Value.int IntKind.i64 0]) rfl rfl rfl rfl rfl ?_
    intro Wf653 gf654 egf654 rf655 zf656 bf652
    replace bf505 := bf505.trans (bf652.mono bf505.size)
    replace bf176 := bf176.trans (bf652.mono bf176.size)
    replace q2 := q2.trans (bf652.mono q2.size)
    replace q := q.trans (bf652.mono q.size)
    replace q1 := q1.trans (bf652.mono q1.size)
    refine LL.storeN (vs := [Value.int IntKind.i64 xe, Value.int IntKind.i64 xd, strV xn, Value.int IntKind.i64 xi, Value.int IntKind.i64 xk]) rfl rfl rfl rfl rf655 (by exact Nat.le_of_ble_eq_true rfl) (ones_of rfl) rfl rfl ?_
    intro Wf698 rf699 bf697 zf700
    have hlbf697 := rf655.lt
    replace rf699 : RowL Wf698 _ 31 [Value.int IntKind.i64 xe, Value.int IntKind.i64 xd, strV xn, Value.int IntKind.i64 xi, Value.int IntKind.i64 xk] := rf699
    clear rf655
    replace bf652 := bf652.grown bf697 bf652.size (by rintro k ⟨⟩; omega)
    replace bf505 := bf505.grown bf697 bf505.size (by rintro k ⟨⟩; omega)
    replace bf176 := bf176.grown bf697 bf176.size (by rintro k ⟨⟩; omega)
    replace q2 := q2.grown bf697 q2.size (by rintro k ⟨⟩; omega)
    replace q := q.grown bf697 q.size (by rintro k ⟨⟩; omega)
    replace q1 := q1.grown bf697 q1.size (by rintro k ⟨⟩; omega)
    have rf655 := rf699
    clear rf699
    refine LL.val (R.assign rfl rfl) rfl rfl rfl ?_
    refine LL.nilS ?_
    refine CC.seq ?_
    refine CC.region ?_
    refine LL.val (R.move rfl rfl) rfl rfl rfl ?_
    (refine LL.call (R.call rfl rfl rfl) rfl rfl rfl (rjoined_any _ (partsL path) _ (h2F _ q2) (by omega)) ?_; rintro e W' ⟨rfl, rfl⟩; refine ⟨_, rfl, ?_⟩)
    refine LL.val (R.move rfl rfl) rfl rfl rfl ?_
    have lf857 := rf655.lt
    (refine LL.call (R.call rfl rfl rfl) rfl rfl rfl (hg2 _ (hmw.up q) q1) ?_; rintro e Wf856 ⟨rfl, bf853⟩; refine ⟨_, rfl, ?_⟩)
    have zbf853 := bf853.size
    replace bf652 := bf652.trans (bf853.mono bf652.size)
    replace bf505 := bf505.trans (bf853.mono bf505.size)
    replace bf176 := bf176.trans (bf853.mono bf176.size)
    replace q2 := q2.trans (bf853.mono q2.size)
    replace q := q.trans (bf853.mono q.size)
    replace q1 := q1.trans (bf853.mono q1.size)
    replace rf655 := rf655.up bf853
    refine LL.val (R.move rfl rfl) rfl rfl rfl ?_
    refine LL.val (R.extract rfl rfl rfl) rfl rfl rfl ?_
    refine LL.val (R.extract rfl rfl rfl) rfl rfl rfl ?_
    have lf1021 := rf655.lt
    refine LL.alloc ([Value.int IntKind.i64 0, Value.int IntKind.i64 0, Value.string { data := { toList := [] } }, Value.int IntKind.i64 0, Value.int IntKind.i64 0]) rfl rfl rfl rfl rfl ?_
    intro Wf1023 gf1024 egf1024 rf1025 zf1026 bf1022
    replace bf853 := bf853.trans (bf1022.mono bf853.size)
    replace bf652 := bf652.trans (bf1022.mono bf652.size)
    replace bf505 := bf505.trans (bf1022.mono bf505.size)
    replace bf176 := bf176.trans (bf1022.mono bf176.size)
    replace q2 := q2.trans (bf1022.mono q2.size)
    replace q := q.trans (bf1022.mono q.size)
    replace q1 := q1.trans (bf1022.mono q1.size)
    replace rf655 := rf655.up bf1022
    refine LL.storeN (vs := [Value.int IntKind.i64 xe, Value.int IntKind.i64 xd, strV xn, Value.int IntKind.i64 xi, Value.int IntKind.i64 xk]) rfl rfl rfl rfl rf1025 (by exact Nat.le_of_ble_eq_true rfl) (ones_of rfl) rfl rfl ?_
    intro Wf1073 rf1074 bf1072 zf1075
    have hlbf1072 := rf1025.lt
    replace rf1074 : RowL Wf1073 _ 31 [Value.int IntKind.i64 xe, Value.int IntKind.i64 xd, strV xn, Value.int IntKind.i64 xi, Value.int IntKind.i64 xk] := rf1074
    clear rf1025
    replace bf1022 := bf1022.grown bf1072 bf1022.size (by rintro k ⟨⟩; omega)
    replace bf853 := bf853.grown bf1072 bf853.size (by rintro k ⟨⟩; omega)
    replace bf652 := bf652.grown bf1072 bf652.size (by rintro k ⟨⟩; omega)
    replace bf505 := bf505.grown bf1072 bf505.size (by rintro k ⟨⟩; omega)
    replace bf176 := bf176.grown bf1072 bf176.size (by rintro k ⟨⟩; omega)
    replace q2 := q2.grown bf1072 q2.size (by rintro k ⟨⟩; omega)
    replace q := q.grown bf1072 q.size (by rintro k ⟨⟩; omega)
    replace q1 := q1.grown bf1072 q1.size (by rintro k ⟨⟩; omega)
    replace rf655 := rf655.gr bf1072 (by have := rf655.lt; omega)
    have rf1025 := rf1074
    clear rf1074
    refine LL.val (R.assign rfl rfl) rfl rfl rfl ?_
    refine LL.nilS ?_
    refine CC.seq ?_
    refine CC.seq ?_
    refine CC.region ?_
    refine LL.val (R.move rfl rfl) rfl rfl rfl ?_
    refine LL.val (R.neF rfl rfl rfl (by omega)) rfl rfl rfl ?_
    refine LL.val (R.move rfl rfl) rfl rfl rfl ?_
    refine LL.val (R.move rfl rfl) rfl rfl rfl ?_
    refine LL.val (R.neF rfl rfl rfl (by omega)) rfl rfl rfl ?_
    refine LL.val (R.pick rfl rfl rfl) rfl rfl rfl ?_
    refine LL.val (R.move rfl rfl) rfl rfl rfl ?_
    refine LL.val (R.load rfl rfl (I.ldNc (vs := [Value.int IntKind.i64 xe, Value.int IntKind.i64 xd, strV xn, Value.int IntKind.i64 xi, Value.int IntKind.i64 xk]) (RowL.cells rf655 rfl) (by rfl) (by rfl))) rfl rfl rfl ?_
    refine LL.val (R.load rfl rfl (I.ldNc (vs := [Value.int IntKind.i64 xe, Value.int IntKind.i64 xd, strV xn, Value.int IntKind.i64 xi, Value.int IntKind.i64 xk]) (RowL.cells rf1025 rfl) (by rfl) (by rfl))) rfl rfl rfl ?_
    (refine LL.val (R.neST (p := True) rfl rfl rfl rfl (by kernel_rfl) rfl (by simp) trivial) rfl rfl rfl ?_)
    refine LL.val (R.pick rfl rfl rfl) rfl rfl rfl ?_
    refine LL.nilS ?_
    refine CC.no rfl ?_
    refine CC.skip ?_
    refine EE.thenN ?_
    refine CC.seq ?_
    refine CC.region ?_
    refine LL.val (R.move rfl rfl) rfl rfl rfl ?_
    have lf1683 := rf655.lt
    have lf1684 := rf1025.lt
    (refine LL.call (R.call rfl rfl rfl) rfl rfl rfl (hsp _) ?_; rintro e Wf1682 ⟨rfl, bf1679⟩; refine ⟨_, rfl, ?_⟩)
    have zbf1679 := bf1679.size
    replace bf1022 := bf1022.trans (bf1679.mono bf1022.size)
    replace bf853 := bf853.trans (bf1679.mono bf853.size)
    replace bf652 := bf652.trans (bf1679.mono bf652.size)
    replace bf505 := bf505.trans (bf1679.mono bf505.size)
    replace bf176 := bf176.trans (bf1679.mono bf176.size)
    replace q2 := q2.trans (bf1679.mono q2.size)
    replace q := q.trans (bf1679.mono q.size)
    replace q1 := q1.trans (bf1679.mono q1.size)
    replace rf655 := rf655.up bf1679
    replace rf1025 := rf1025.up bf1679
    refine LL.val (R.move rfl rfl) rfl rfl rfl ?_
    refine LL.val (R.extract rfl rfl rfl) rfl rfl rfl ?_
    refine LL.val (R.extract rfl rfl rfl) rfl rfl rfl ?_
    refine LL.val (R.extract rfl rfl rfl) rfl rfl rfl ?_
    refine LL.val (R.assign rfl rfl) rfl rfl rfl ?_
    refine LL.val (R.assign rfl rfl) rfl rfl rfl ?_
    refine LL.val (R.assign rfl rfl) rfl rfl rfl ?_
    refine LL.nilS ?_
    refine CC.seq ?_
    refine CC.seq ?_
    refine CC.region ?_
    refine LL.val (R.move rfl rfl) rfl rfl rfl ?_
    refine LL.val (R.neT rfl rfl rfl (by omega)) rfl rfl rfl ?_
    refine LL.nilS ?_
    refine CC.yes rfl ?_
    refine CC.seq ?_
    refine CC.region ?_
    have lf2133 := rf655.lt
    have lf2134 := rf1025.lt
    (refine LL.call (R.call rfl rfl rfl) rfl rfl rfl (works17_any _ (hmw.up q)) ?_; rintro e Wf2132 ⟨rfl, bf2129⟩; refine ⟨_, rfl, ?_⟩)
    have zbf2129 := bf2129.size
    replace bf1679 := bf1679.trans (bf2129.mono bf1679.size)
    replace bf1022 := bf1022.trans (bf2129.mono bf1022.size)
    replace bf853 := bf853.trans (bf2129.mono bf853.size)
    replace bf652 := bf652.trans (bf2129.mono bf652.size)
    replace bf505 := bf505.trans (bf2129.mono bf505.size)
    replace bf176 := bf176.trans (bf2129.mono bf176.size)
    replace q2 := q2.trans (bf2129.mono q2.size)
    replace q := q.trans (bf2129.mono q.size)
    replace q1 := q1.trans (bf2129.mono q1.size)
    replace rf655 := rf655.up bf2129
    replace rf1025 := rf1025.up bf2129
    refine LL.val (R.assign rfl rfl) rfl rfl rfl ?_
    refine LL.nilS ?_
    refine CC.ret ?_
    refine EE.thenR ?_
    refine EE.ret _ rfl rfl ?_
    exact ⟨rfl, q⟩
  subst her
  obtain ⟨hdz, hdp⟩ := hspp d nm rfl
  obtain ⟨hdl, hn1, hn2⟩ := hspd d nm rfl
  have hg3 := hgo d (by omega) hdz
  have hra := run_app ow nm (partsL d) 1
  rw [hdp, hx] at hra
  obtain ⟨z, hzz⟩ : ∃ z, runP ow 1 (partsL d) = z := ⟨_, rfl⟩
  rw [hzz] at hg3 hra
  obtain ⟨ze, zd, zn, zi, zk⟩ := z
  dsimp only at hra
  have hone := run_one ow zi hn1 hn2
  clear hx hspp hspd hgo hzz hdp hn1 hn2 hsv
  by_cases hze : ze = 0
  case neg =>
    obtain ⟨xe, xd, xn, xi, xk⟩ := x
    obtain ⟨h1x, h2x⟩ := hra.1 hze
    dsimp only at h1x h2x
    subst h1x h2x
    clear hra hone
    refine CC.seq ?_
    refine CC.seq ?_
    refine CC.region ?_
    refine LL.val (R.move rfl rfl) rfl rfl rfl ?_
    refine LL.val (R.move rfl rfl) rfl rfl rfl ?_
    refine LL.val (R.len rfl rfl rfl rfl) rfl rfl rfl ?_
    refine LL.val (R.ltF rfl rfl rfl (by omega)) rfl rfl rfl ?_
    refine LL.nilS ?_
    refine CC.no rfl ?_
    refine CC.exit ?_
    refine EE.thenX ?_
    refine EE.thenX ?_
    refine EE.inX ?_
    refine EE.thenN ?_
    refine CC.seq ?_
    refine CC.region ?_
    refine LL.val (R.move rfl rfl) rfl rfl rfl ?_
    (refine LL.call (R.call rfl rfl rfl) rfl rfl rfl (rparts_any path _ (by omega)) ?_; rintro e Wg214 ⟨v2, rfl, o2, bg211⟩; refine ⟨_, rfl, ?_⟩; rw [hz, if_pos rfl] at o2; rw [hz]; obtain ⟨a2, c2, rfl, hc2⟩ := (o2.reads stEnc).form rfl; obtain ⟨X2, hzX2, h2F, q2⟩ := exposeT17 (o2.reads stEnc); have zX2 := q2.size; clear o2)
    have zbg211 := bg211.size
    replace q := q.trans (bg211.mono q.size)
    replace q1 := q1.trans (bg211.mono q1.size)
    refine LL.val (R.move rfl rfl) rfl rfl rfl ?_
    refine LL.val (R.extract rfl rfl rfl) rfl rfl rfl ?_
    refine LL.val (R.extract rfl rfl rfl) rfl rfl rfl ?_
    refine LL.val (R.assign rfl rfl) rfl rfl rfl ?_
    refine LL.val (R.assign rfl rfl) rfl rfl rfl ?_
    refine LL.nilS ?_
    refine CC.seq ?_
    refine CC.seq ?_
    refine CC.region ?_
    refine LL.val (R.move rfl rfl) rfl rfl rfl ?_
    refine LL.val (R.neF rfl rfl rfl (by omega)) rfl rfl rfl ?_
    refine LL.nilS ?_
    refine CC.no rfl ?_
    refine CC.skip ?_
    refine EE.thenN ?_
    refine CC.seq ?_
    refine CC.region ?_
    refine LL.val (R.move rfl rfl) rfl rfl rfl ?_
    refine LL.val (R.move rfl rfl) rfl rfl rfl ?_
    (refine LL.call (R.call rfl rfl rfl) rfl rfl rfl (hg1 _ (hmw.up q) q1) ?_; rintro e Wg606 ⟨rfl, bg603⟩; refine ⟨_, rfl, ?_⟩)
    have zbg603 := bg603.size
    replace bg211 := bg211.trans (bg603.mono bg211.size)
    replace q2 := q2.trans (bg603.mono q2.size)
    replace q := q.trans (bg603.mono q.size)
    replace q1 := q1.trans (bg603.mono q1.size)
    refine LL.val (R.move rfl rfl) rfl rfl rfl ?_
    refine LL.val (R.extract rfl rfl rfl) rfl rfl rfl ?_
    refine LL.val (R.extract rfl rfl rfl) rfl rfl rfl ?_
    refine LL.alloc ([Value.int IntKind.i64 0, Value.int IntKind.i64 0, Value.string { data := { toList := [] } }, Value.int IntKind.i64 0, Value.int IntKind.i64 0]) rfl rfl rfl rfl rfl ?_
    intro Wg779 gg780 egg780 rg781 zg782 bg778
    replace bg603 := bg603.trans (bg778.mono bg603.size)
    replace bg211 := bg211.trans (bg778.mono bg211.size)
    replace q2 := q2.trans (bg778.mono q2.size)
    replace q := q.trans (bg778.mono q.size)
    replace q1 := q1.trans (bg778.mono q1.size)
    refine LL.storeN (vs := [Value.int IntKind.i64 xe, Value.int IntKind.i64 xd, strV xn, Value.int IntKind.i64 0, Value.int IntKind.i64 xk]) rfl rfl rfl rfl rg781 (by exact Nat.le_of_ble_eq_true rfl) (ones_of rfl) rfl rfl ?_
    intro Wg832 rg833 bg831 zg834
    have hlbg831 := rg781.lt
    replace rg833 : RowL Wg832 _ 31 [Value.int IntKind.i64 xe, Value.int IntKind.i64 xd, strV xn, Value.int IntKind.i64 0, Value.int IntKind.i64 xk] := rg833
    clear rg781
    replace bg778 := bg778.grown bg831 bg778.size (by rintro k ⟨⟩; omega)
    replace bg603 := bg603.grown bg831 bg603.size (by rintro k ⟨⟩; omega)
    replace bg211 := bg211.grown bg831 bg211.size (by rintro k ⟨⟩; omega)
    replace q2 := q2.grown bg831 q2.size (by rintro k ⟨⟩; omega)
    replace q := q.grown bg831 q.size (by rintro k ⟨⟩; omega)
    replace q1 := q1.grown bg831 q1.size (by rintro k ⟨⟩; omega)
    have rg781 := rg833
    clear rg833
    refine LL.val (R.assign rfl rfl) rfl rfl rfl ?_
    refine LL.nilS ?_
    refine CC.seq ?_
    refine CC.region ?_
    refine LL.val (R.move rfl rfl) rfl rfl rfl ?_
    (refine LL.call (R.call rfl rfl rfl) rfl rfl rfl (rjoined_any _ (partsL path) _ (h2F _ q2) (by omega)) ?_; rintro e W' ⟨rfl, rfl⟩; refine ⟨_, rfl, ?_⟩)
    refine LL.val (R.move rfl rfl) rfl rfl rfl ?_
    have lg1015 := rg781.lt
    (refine LL.call (R.call rfl rfl rfl) rfl rfl rfl (hg2 _ (hmw.up q) q1) ?_; rintro e Wg1014 ⟨rfl, bg1011⟩; refine ⟨_, rfl, ?_⟩)
    have zbg1011 := bg1011.size
    replace bg778 := bg778.trans (bg1011.mono bg778.size)
    replace bg603 := bg603.trans (bg1011.mono bg603.size)
    replace bg211 := bg211.trans (bg1011.mono bg211.size)
    replace q2 := q2.trans (bg1011.mono q2.size)
    replace q := q.trans (bg1011.mono q.size)
    replace q1 := q1.trans (bg1011.mono q1.size)
    replace rg781 := rg781.up bg1011
    refine LL.val (R.move rfl rfl) rfl rfl rfl ?_
    refine LL.val (R.extract rfl rfl rfl) rfl rfl rfl ?_
    refine LL.val (R.extract rfl rfl rfl) rfl rfl rfl ?_
    have lg1211 := rg781.lt
    refine LL.alloc ([Value.int IntKind.i64 0, Value.int IntKind.i64 0, Value.string { data := { toList := [] } }, Value.int IntKind.i64 0, Value.int IntKind.i64 0]) rfl rfl rfl rfl rfl ?_
    intro Wg1213 gg1214 egg1214 rg1215 zg1216 bg1212
    replace bg1011 := bg1011.trans (bg1212.mono bg1011.size)
    replace bg778 := bg778.trans (bg1212.mono bg778.size)
    replace bg603 := bg603.trans (bg1212.mono bg603.size)
    replace bg211 := bg211.trans (bg1212.mono bg211.size)
    replace q2 := q2.trans (bg1212.mono q2.size)
    replace q := q.trans (bg1212.mono q.size)
    replace q1 := q1.trans (bg1212.mono q1.size)
    replace rg781 := rg781.up bg1212
    refine LL.storeN (vs := [Value.int IntKind.i64 xe, Value.int IntKind.i64 xd, strV xn, Value.int IntKind.i64 0, Value.int IntKind.i64 xk]) rfl rfl rfl rfl rg1215 (by exact Nat.le_of_ble_eq_true rfl) (ones_of rfl) rfl rfl ?_
    intro Wg1272 rg1273 bg1271 zg1274
    have hlbg1271 := rg1215.lt
    replace rg1273 : RowL Wg1272 _ 31 [Value.int IntKind.i64 xe, Value.int IntKind.i64 xd, strV xn, Value.int IntKind.i64 0, Value.int IntKind.i64 xk] := rg1273
    clear rg1215
    replace bg1212 := bg1212.grown bg1271 bg1212.size (by rintro k ⟨⟩; omega)
    replace bg1011 := bg1011.grown bg1271 bg1011.size (by rintro k ⟨⟩; omega)
    replace bg778 := bg778.grown bg1271 bg778.size (by rintro k ⟨⟩; omega)
    replace bg603 := bg603.grown bg1271 bg603.size (by rintro k ⟨⟩; omega)
    replace bg211 := bg211.grown bg1271 bg211.size (by rintro k ⟨⟩; omega)
    replace q2 := q2.grown bg1271 q2.size (by rintro k ⟨⟩; omega)
    replace q := q.grown bg1271 q.size (by rintro k ⟨⟩; omega)
    replace q1 := q1.grown bg1271 q1.size (by rintro k ⟨⟩; omega)
    replace rg781 := rg781.gr bg1271 (by have := rg781.lt; omega)
    have rg1215 := rg1273
    clear rg1273
    refine LL.val (R.assign rfl rfl) rfl rfl rfl ?_
    refine LL.nilS ?_
    refine CC.seq ?_
    refine CC.seq ?_
    refine CC.region ?_
    refine LL.val (R.move rfl rfl) rfl rfl rfl ?_
    refine LL.val (R.neF rfl rfl rfl (by omega)) rfl rfl rfl ?_
    refine LL.val (R.move rfl rfl) rfl rfl rfl ?_
    refine LL.val (R.move rfl rfl) rfl rfl rfl ?_
    refine LL.val (R.neF rfl rfl rfl (by omega)) rfl rfl rfl ?_
    refine LL.val (R.pick rfl rfl rfl) rfl rfl rfl ?_
    refine LL.val (R.move rfl rfl) rfl rfl rfl ?_
    refine LL.val (R.load rfl rfl (I.ldNc (vs := [Value.int IntKind.i64 xe, Value.int IntKind.i64 xd, strV xn, Value.int IntKind.i64 0, Value.int IntKind.i64 xk]) (RowL.cells rg781 rfl) (by rfl) (by rfl))) rfl rfl rfl ?_
    refine LL.val (R.load rfl rfl (I.ldNc (vs := [Value.int IntKind.i64 xe, Value.int IntKind.i64 xd, strV xn, Value.int IntKind.i64 0, Value.int IntKind.i64 xk]) (RowL.cells rg1215 rfl) (by rfl) (by rfl))) rfl rfl rfl ?_
    (refine LL.val (R.neST (p := True) rfl rfl rfl rfl (by kernel_rfl) rfl (by simp) trivial) rfl rfl rfl ?_)
    refine LL.val (R.pick rfl rfl rfl) rfl rfl rfl ?_
    refine LL.nilS ?_
    refine CC.no rfl ?_
    refine CC.skip ?_
    refine EE.thenN ?_
    refine CC.seq ?_
    refine CC.region ?_
    refine LL.val (R.move rfl rfl) rfl rfl rfl ?_
    have lg1990 := rg781.lt
    have lg1991 := rg1215.lt
    (refine LL.call (R.call rfl rfl rfl) rfl rfl rfl (hsp _) ?_; rintro e Wg1989 ⟨rfl, bg1986⟩; refine ⟨_, rfl, ?_⟩)
    have zbg1986 := bg1986.size
    replace bg1212 := bg1212.trans (bg1986.mono bg1212.size)
    replace bg1011 := bg1011.trans (bg1986.mono bg1011.size)
    replace bg778 := bg778.trans (bg1986.mono bg778.size)
    replace bg603 := bg603.trans (bg1986.mono bg603.size)
    replace bg211 := bg211.trans (bg1986.mono bg211.size)
    replace q2 := q2.trans (bg1986.mono q2.size)
    replace q := q.trans (bg1986.mono q.size)
    replace q1 := q1.trans (bg1986.mono q1.size)
    replace rg781 := rg781.up bg1986
    replace rg1215 := rg1215.up bg1986
    refine LL.val (R.move rfl rfl) rfl rfl rfl ?_
    refine LL.val (R.extract rfl rfl rfl) rfl rfl rfl ?_
    refine LL.val (R.extract rfl rfl rfl) rfl rfl rfl ?_
    refine LL.val (R.extract rfl rfl rfl) rfl rfl rfl ?_
    refine LL.val (R.assign rfl rfl) rfl rfl rfl ?_
    refine LL.val (R.assign rfl rfl) rfl rfl rfl ?_
    refine LL.val (R.assign rfl rfl) rfl rfl rfl ?_
    refine LL.nilS ?_
    refine CC.seq ?_
    refine CC.seq ?_
    refine CC.region ?_
    refine LL.val (R.move rfl rfl) rfl rfl rfl ?_
    refine LL.vsplit (fun h => R.neT rfl rfl rfl h) (fun h => R.neF rfl rfl rfl (Decidable.not_not.1 h)) rfl rfl rfl (fun cg2481 => ?_) (fun cg2481 => ?_)
    refine LL.nilS ?_
    refine CC.yes rfl ?_
    refine CC.seq ?_
    refine CC.region ?_
    have lg2531 := rg781.lt
    have lg2532 := rg1215.lt
    (refine LL.call (R.call rfl rfl rfl) rfl rfl rfl (works17_any _ (hmw.up q)) ?_; rintro e Wg2530 ⟨rfl, bg2527⟩; refine ⟨_, rfl, ?_⟩)
    have zbg2527 := bg2527.size
    replace bg1986 := bg1986.trans (bg2527.mono bg1986.size)
    replace bg1212 := bg1212.trans (bg2527.mono bg1212.size)
    replace bg1011 := bg1011.trans (bg2527.mono bg1011.size)
    replace bg778 := bg778.trans (bg2527.mono bg778.size)
    replace bg603 := bg603.trans (bg2527.mono bg603.size)
    replace bg211 := bg211.trans (bg2527.mono bg211.size)
    replace q2 := q2.trans (bg2527.mono q2.size)
    replace q := q.trans (bg2527.mono q.size)
    replace q1 := q1.trans (bg2527.mono q1.size)
    replace rg781 := rg781.up bg2527
    replace rg1215 := rg1215.up bg2527
    refine LL.val (R.assign rfl rfl) rfl rfl rfl ?_
    refine LL.nilS ?_
    refine CC.ret ?_
    refine EE.thenR ?_
    refine EE.ret _ rfl rfl ?_
    exact ⟨rfl, q⟩
    refine LL.nilS ?_
    refine CC.no rfl ?_
    refine CC.skip ?_
    refine EE.thenN ?_
    refine CC.seq ?_
    refine CC.region ?_
    refine LL.val (R.move rfl rfl) rfl rfl rfl ?_
    refine LL.val (R.move rfl rfl) rfl rfl rfl ?_
    have lg2738 := rg781.lt
    have lg2739 := rg1215.lt
    (refine LL.call (R.call rfl rfl rfl) rfl rfl rfl (hg3 _ (hmw.up q) q1) ?_; rintro e Wg2737 ⟨rfl, bg2734⟩; refine ⟨_, rfl, ?_⟩)
    have zbg2734 := bg2734.size
    replace bg1986 := bg1986.trans (bg2734.mono bg1986.size)
    replace bg1212 := bg1212.trans (bg2734.mono bg1212.size)
    replace bg1011 := bg1011.trans (bg2734.mono bg1011.size)
    replace bg778 := bg778.trans (bg2734.mono bg778.size)
    replace bg603 := bg603.trans (bg2734.mono bg603.size)
    replace bg211 := bg211.trans (bg2734.mono bg211.size)
    replace q2 := q2.trans (bg2734.mono q2.size)
    replace q := q.trans (bg2734.mono q.size)
    replace q1 := q1.trans (bg2734.mono q1.size)
    replace rg781 := rg781.up bg2734
    replace rg1215 := rg1215.up bg2734
    refine LL.val (R.move rfl rfl) rfl rfl rfl ?_
    refine LL.val (R.extract rfl rfl rfl) rfl rfl rfl ?_
    refine LL.val (R.extract rfl rfl rfl) rfl rfl rfl ?_
    have lg2959 := rg781.lt
    have lg2960 := rg1215.lt
    refine LL.alloc ([Value.int IntKind.i64 0, Value.int IntKind.i64 0, Value.string { data := { toList := [] } }, Value.int IntKind.i64 0, Value.int IntKind.i64 0]) rfl rfl rfl rfl rfl ?_
    intro Wg2962 gg2963 egg2963 rg2964 zg2965 bg2961
    replace bg2734 := bg2734.trans (bg2961.mono bg2734.size)
    replace bg1986 := bg1986.trans (bg2961.mono bg1986.size)
    replace bg1212 := bg1212.trans (bg2961.mono bg1212.size)
    replace bg1011 := bg1011.trans (bg2961.mono bg1011.size)
    replace bg778 := bg778.trans (bg2961.mono bg778.size)
    replace bg603 := bg603.trans (bg2961.mono bg603.size)
    replace bg211 := bg211.trans (bg2961.mono bg211.size)
    replace q2 := q2.trans (bg2961.mono q2.size)
    replace q := q.trans (bg2961.mono q.size)
    replace q1 := q1.trans (bg2961.mono q1.size)
    replace rg781 := rg781.up bg2961
    replace rg1215 := rg1215.up bg2961
    refine LL.storeN (vs := [Value.int IntKind.i64 xe, Value.int IntKind.i64 zd, strV zn, Value.int IntKind.i64 zi, Value.int IntKind.i64 zk]) rfl rfl rfl rfl rg2964 (by exact Nat.le_of_ble_eq_true rfl) (ones_of rfl) rfl rfl ?_
    intro Wg3027 rg3028 bg3026 zg3029
    have hlbg3026 := rg2964.lt
    replace rg3028 : RowL Wg3027 _ 31 [Value.int IntKind.i64 xe, Value.int IntKind.i64 zd, strV zn, Value.int IntKind.i64 zi, Value.int IntKind.i64 zk] := rg3028
    clear rg2964
    replace bg2961 := bg2961.grown bg3026 bg2961.size (by rintro k ⟨⟩; omega)
    replace bg2734 := bg2734.grown bg3026 bg2734.size (by rintro k ⟨⟩; omega)
    replace bg1986 := bg1986.grown bg3026 bg1986.size (by rintro k ⟨⟩; omega)
    replace bg1212 := bg1212.grown bg3026 bg1212.size (by rintro k ⟨⟩; omega)
    replace bg1011 := bg1011.grown bg3026 bg1011.size (by rintro k ⟨⟩; omega)
    replace bg778 := bg778.grown bg3026 bg778.size (by rintro k ⟨⟩; omega)
    replace bg603 := bg603.grown bg3026 bg603.size (by rintro k ⟨⟩; omega)
    replace bg211 := bg211.grown bg3026 bg211.size (by rintro k ⟨⟩; omega)
    replace q2 := q2.grown bg3026 q2.size (by rintro k ⟨⟩; omega)
    replace q := q.grown bg3026 q.size (by rintro k ⟨⟩; omega)
    replace q1 := q1.grown bg3026 q1.size (by rintro k ⟨⟩; omega)
    replace rg781 := rg781.gr bg3026 (by have := rg781.lt; omega)
    replace rg1215 := rg1215.gr bg3026 (by have := rg1215.lt; omega)
    have rg2964 := rg3028
    clear rg3028
    refine LL.val (R.assign rfl rfl) rfl rfl rfl ?_
    refine LL.nilS ?_
    refine CC.seq ?_
    refine CC.seq ?_
    refine CC.region ?_
    refine LL.val (R.move rfl rfl) rfl rfl rfl ?_
    refine LL.val (R.neF rfl rfl rfl (by omega)) rfl rfl rfl ?_
    refine LL.nilS ?_
    refine CC.no rfl ?_
    refine CC.skip ?_
    refine EE.thenN ?_
    refine CC.seq ?_
    refine CC.seq ?_
    refine CC.region ?_
    refine LL.val (R.field rfl rfl (I.fld rfl)) rfl rfl rfl ?_
    refine LL.val (R.load rfl rfl (I.ld1 rfl (RowL.cell rg2964 rfl))) rfl rfl rfl ?_
    refine LL.call (R.call rfl rfl rfl) rfl rfl rfl (num17_any _ _) ?_
    rintro e W' ⟨rfl, rfl⟩
    refine ⟨_, rfl, ?_⟩
    refine LL.val (R.neT rfl rfl rfl (by omega)) rfl rfl rfl ?_
    refine LL.nilS ?_
    refine CC.yes rfl ?_
    refine CC.seq ?_
    refine CC.region ?_
    refine LL.val (R.field rfl rfl (I.fld rfl)) rfl rfl rfl ?_
    refine LL.val (R.load rfl rfl (I.ld1 rfl (RowL.cell rg781 rfl))) rfl rfl rfl ?_
    refine LL.val (R.field rfl rfl (I.fld rfl)) rfl rfl rfl ?_
    refine LL.val (R.load rfl rfl (I.ld1 rfl (RowL.cell rg2964 rfl))) rfl rfl rfl ?_
    refine LL.val (R.eqT rfl rfl rfl (by omega)) rfl rfl rfl ?_
    refine LL.val (R.move rfl rfl) rfl rfl rfl ?_
    refine LL.val (R.field rfl rfl (I.fld rfl)) rfl rfl rfl ?_
    refine LL.val (R.load rfl rfl (I.ld1 rfl (RowL.cell rg781 rfl))) rfl rfl rfl ?_
    refine LL.val (R.eqT rfl rfl rfl (by omega)) rfl rfl rfl ?_
    refine LL.val (R.pick rfl rfl rfl) rfl rfl rfl ?_
    refine LL.val (R.move rfl rfl) rfl rfl rfl ?_
    have lg4164 := rg781.lt
    have lg4165 := rg1215.lt
    have lg4166 := rg2964.lt
    (refine LL.call (R.call rfl rfl rfl) rfl rfl rfl (works17_any _ (hmw.up q)) ?_; rintro e Wg4163 ⟨rfl, bg4160⟩; refine ⟨_, rfl, ?_⟩)
    have zbg4160 := bg4160.size
    replace bg2961 := bg2961.trans (bg4160.mono bg2961.size)
    replace bg2734 := bg2734.trans (bg4160.mono bg2734.size)
    replace bg1986 := bg1986.trans (bg4160.mono bg1986.size)
    replace bg1212 := bg1212.trans (bg4160.mono bg1212.size)
    replace bg1011 := bg1011.trans (bg4160.mono bg1011.size)
    replace bg778 := bg778.trans (bg4160.mono bg778.size)
    replace bg603 := bg603.trans (bg4160.mono bg603.size)
    replace bg211 := bg211.trans (bg4160.mono bg211.size)
    replace q2 := q2.trans (bg4160.mono q2.size)
    replace q := q.trans (bg4160.mono q.size)
    replace q1 := q1.trans (bg4160.mono q1.size)
    replace rg781 := rg781.up bg4160
    replace rg1215 := rg1215.up bg4160
    replace rg2964 := rg2964.up bg4160
    refine LL.val (R.pick rfl rfl rfl) rfl rfl rfl ?_
    refine LL.val (R.assign rfl rfl) rfl rfl rfl ?_
    refine LL.nilS ?_
    refine CC.ret ?_
    refine EE.thenR ?_
    refine EE.ret _ rfl rfl ?_
    exact ⟨rfl, q⟩
  subst hze
  by_cases hzk : zk = 2
  case neg =>
    obtain ⟨xe, xd, xn, xi, xk⟩ := x
    have h1x := hra.2.1 rfl hzk
    dsimp only at h1x
    subst h1x
    clear hra hone
    refine CC.seq ?_
    refine CC.seq ?_
    refine CC.region ?_
    refine LL.val (R.move rfl rfl) rfl rfl rfl ?_
    refine LL.val (R.move rfl rfl) rfl rfl rfl ?_
    refine LL.val (R.len rfl rfl rfl rfl) rfl rfl rfl ?_
    refine LL.val (R.ltF rfl rfl rfl (by omega)) rfl rfl rfl ?_
    refine LL.nilS ?_
    refine CC.no rfl ?_
    refine CC.exit ?_
    refine EE.thenX ?_
    refine EE.thenX ?_
    refine EE.inX ?_
    refine EE.thenN ?_
    refine CC.seq ?_
    refine CC.region ?_
    refine LL.val (R.move rfl rfl) rfl rfl rfl ?_
    (refine LL.call (R.call rfl rfl rfl) rfl rfl rfl (rparts_any path _ (by omega)) ?_; rintro e Wh214 ⟨v2, rfl, o2, bh211⟩; refine ⟨_, rfl, ?_⟩; rw [hz, if_pos rfl] at o2; rw [hz]; obtain ⟨a2, c2, rfl, hc2⟩ := (o2.reads stEnc).form rfl; obtain ⟨X2, hzX2, h2F, q2⟩ := exposeT17 (o2.reads stEnc); have zX2 := q2.size; clear o2)
    have zbh211 := bh211.size
    replace q := q.trans (bh211.mono q.size)
    replace q1 := q1.trans (bh211.mono q1.size)
    refine LL.val (R.move rfl rfl) rfl rfl rfl ?_
    refine LL.val (R.extract rfl rfl rfl) rfl rfl rfl ?_
    refine LL.val (R.extract rfl rfl rfl) rfl rfl rfl ?_
    refine LL.val (R.assign rfl rfl) rfl rfl rfl ?_
    refine LL.val (R.assign rfl rfl) rfl rfl rfl ?_
    refine LL.nilS ?_
    refine CC.seq ?_
    refine CC.seq ?_
    refine CC.region ?_
    refine LL.val (R.move rfl rfl) rfl rfl rfl ?_
    refine LL.val (R.neF rfl rfl rfl (by omega)) rfl rfl rfl ?_
    refine LL.nilS ?_
    refine CC.no rfl ?_
    refine CC.skip ?_
    refine EE.thenN ?_
    refine CC.seq ?_
    refine CC.region ?_
    refine LL.val (R.move rfl rfl) rfl rfl rfl ?_
    refine LL.val (R.move rfl rfl) rfl rfl rfl ?_
    (refine LL.call (R.call rfl rfl rfl) rfl rfl rfl (hg1 _ (hmw.up q) q1) ?_; rintro e Wh606 ⟨rfl, bh603⟩; refine ⟨_, rfl, ?_⟩)
    have zbh603 := bh603.size
    replace bh211 := bh211.trans (bh603.mono bh211.size)
    replace q2 := q2.trans (bh603.mono q2.size)
    replace q := q.trans (bh603.mono q.size)
    replace q1 := q1.trans (bh603.mono q1.size)
    refine LL.val (R.move rfl rfl) rfl rfl rfl ?_
    refine LL.val (R.extract rfl rfl rfl) rfl rfl rfl ?_
    refine LL.val (R.extract rfl rfl rfl) rfl rfl rfl ?_
    refine LL.alloc ([Value.int IntKind.i64 0, Value.int IntKind.i64 0, Value.string { data := { toList := [] } }, Value.int IntKind.i64 0, Value.int IntKind.i64 0]) rfl rfl rfl rfl rfl ?_
    intro Wh779 gh780 egh780 rh781 zh782 bh778
    replace bh603 := bh603.trans (bh778.mono bh603.size)
    replace bh211 := bh211.trans (bh778.mono bh211.size)
    replace q2 := q2.trans (bh778.mono q2.size)
    replace q := q.trans (bh778.mono q.size)
    replace q1 := q1.trans (bh778.mono q1.size)
    refine LL.storeN (vs := [Value.int IntKind.i64 271, Value.int IntKind.i64 xd, strV xn, Value.int IntKind.i64 xi, Value.int IntKind.i64 xk]) rfl rfl rfl rfl rh781 (by exact Nat.le_of_ble_eq_true rfl) (ones_of rfl) rfl rfl ?_
    intro Wh832 rh833 bh831 zh834
    have hlbh831 := rh781.lt
    replace rh833 : RowL Wh832 _ 31 [Value.int IntKind.i64 271, Value.int IntKind.i64 xd, strV xn, Value.int IntKind.i64 xi, Value.int IntKind.i64 xk] := rh833
    clear rh781
    replace bh778 := bh778.grown bh831 bh778.size (by rintro k ⟨⟩; omega)
    replace bh603 := bh603.grown bh831 bh603.size (by rintro k ⟨⟩; omega)
    replace bh211 := bh211.grown bh831 bh211.size (by rintro k ⟨⟩; omega)
    replace q2 := q2.grown bh831 q2.size (by rintro k ⟨⟩; omega)
    replace q := q.grown bh831 q.size (by rintro k ⟨⟩; omega)
    replace q1 := q1.grown bh831 q1.size (by rintro k ⟨⟩; omega)
    have rh781 := rh833
    clear rh833
    refine LL.val (R.assign rfl rfl) rfl rfl rfl ?_
    refine LL.nilS ?_
    refine CC.seq ?_
    refine CC.region ?_
    refine LL.val (R.move rfl rfl) rfl rfl rfl ?_
    (refine LL.call (R.call rfl rfl rfl) rfl rfl rfl (rjoined_any _ (partsL path) _ (h2F _ q2) (by omega)) ?_; rintro e W' ⟨rfl, rfl⟩; refine ⟨_, rfl, ?_⟩)
    refine LL.val (R.move rfl rfl) rfl rfl rfl ?_
    have lh1015 := rh781.lt
    (refine LL.call (R.call rfl rfl rfl) rfl rfl rfl (hg2 _ (hmw.up q) q1) ?_; rintro e Wh1014 ⟨rfl, bh1011⟩; refine ⟨_, rfl, ?_⟩)
    have zbh1011 := bh1011.size
    replace bh778 := bh778.trans (bh1011.mono bh778.size)
    replace bh603 := bh603.trans (bh1011.mono bh603.size)
    replace bh211 := bh211.trans (bh1011.mono bh211.size)
    replace q2 := q2.trans (bh1011.mono q2.size)
    replace q := q.trans (bh1011.mono q.size)
    replace q1 := q1.trans (bh1011.mono q1.size)
    replace rh781 := rh781.up bh1011
    refine LL.val (R.move rfl rfl) rfl rfl rfl ?_
    refine LL.val (R.extract rfl rfl rfl) rfl rfl rfl ?_
    refine LL.val (R.extract rfl rfl rfl) rfl rfl rfl ?_
    have lh1211 := rh781.lt
    refine LL.alloc ([Value.int IntKind.i64 0, Value.int IntKind.i64 0, Value.string { data := { toList := [] } }, Value.int IntKind.i64 0, Value.int IntKind.i64 0]) rfl rfl rfl rfl rfl ?_
    intro Wh1213 gh1214 egh1214 rh1215 zh1216 bh1212
    replace bh1011 := bh1011.trans (bh1212.mono bh1011.size)
    replace bh778 := bh778.trans (bh1212.mono bh778.size)
    replace bh603 := bh603.trans (bh1212.mono bh603.size)
    replace bh211 := bh211.trans (bh1212.mono bh211.size)
    replace q2 := q2.trans (bh1212.mono q2.size)
    replace q := q.trans (bh1212.mono q.size)
    replace q1 := q1.trans (bh1212.mono q1.size)
    replace rh781 := rh781.up bh1212
    refine LL.storeN (vs := [Value.int IntKind.i64 271, Value.int IntKind.i64 xd, strV xn, Value.int IntKind.i64 xi, Value.int IntKind.i64 xk]) rfl rfl rfl rfl rh1215 (by exact Nat.le_of_ble_eq_true rfl) (ones_of rfl) rfl rfl ?_
    intro Wh1272 rh1273 bh1271 zh1274
    have hlbh1271 := rh1215.lt
    replace rh1273 : RowL Wh1272 _ 31 [Value.int IntKind.i64 271, Value.int IntKind.i64 xd, strV xn, Value.int IntKind.i64 xi, Value.int IntKind.i64 xk] := rh1273
    clear rh1215
    replace bh1212 := bh1212.grown bh1271 bh1212.size (by rintro k ⟨⟩; omega)
    replace bh1011 := bh1011.grown bh1271 bh1011.size (by rintro k ⟨⟩; omega)
    replace bh778 := bh778.grown bh1271 bh778.size (by rintro k ⟨⟩; omega)
    replace bh603 := bh603.grown bh1271 bh603.size (by rintro k ⟨⟩; omega)
    replace bh211 := bh211.grown bh1271 bh211.size (by rintro k ⟨⟩; omega)
    replace q2 := q2.grown bh1271 q2.size (by rintro k ⟨⟩; omega)
    replace q := q.grown bh1271 q.size (by rintro k ⟨⟩; omega)
    replace q1 := q1.grown bh1271 q1.size (by rintro k ⟨⟩; omega)
    replace rh781 := rh781.gr bh1271 (by have := rh781.lt; omega)
    have rh1215 := rh1273
    clear rh1273
    refine LL.val (R.assign rfl rfl) rfl rfl rfl ?_
    refine LL.nilS ?_
    refine CC.seq ?_
    refine CC.seq ?_
    refine CC.region ?_
    refine LL.val (R.move rfl rfl) rfl rfl rfl ?_
    refine LL.val (R.neF rfl rfl rfl (by omega)) rfl rfl rfl ?_
    refine LL.val (R.move rfl rfl) rfl rfl rfl ?_
    refine LL.val (R.move rfl rfl) rfl rfl rfl ?_
    refine LL.val (R.neF rfl rfl rfl (by omega)) rfl rfl rfl ?_
    refine LL.val (R.pick rfl rfl rfl) rfl rfl rfl ?_
    refine LL.val (R.move rfl rfl) rfl rfl rfl ?_
    refine LL.val (R.load rfl rfl (I.ldNc (vs := [Value.int IntKind.i64 271, Value.int IntKind.i64 xd, strV xn, Value.int IntKind.i64 xi, Value.int IntKind.i64 xk]) (RowL.cells rh781 rfl) (by rfl) (by rfl))) rfl rfl rfl ?_
    refine LL.val (R.load rfl rfl (I.ldNc (vs := [Value.int IntKind.i64 271, Value.int IntKind.i64 xd, strV xn, Value.int IntKind.i64 xi, Value.int IntKind.i64 xk]) (RowL.cells rh1215 rfl) (by rfl) (by rfl))) rfl rfl rfl ?_
    (refine LL.val (R.neST (p := True) rfl rfl rfl rfl (by kernel_rfl) rfl (by simp) trivial) rfl rfl rfl ?_)
    refine LL.val (R.pick rfl rfl rfl) rfl rfl rfl ?_
    refine LL.nilS ?_
    refine CC.no rfl ?_
    refine CC.skip ?_
    refine EE.thenN ?_
    refine CC.seq ?_
    refine CC.region ?_
    refine LL.val (R.move rfl rfl) rfl rfl rfl ?_
    have lh1990 := rh781.lt
    have lh1991 := rh1215.lt
    (refine LL.call (R.call rfl rfl rfl) rfl rfl rfl (hsp _) ?_; rintro e Wh1989 ⟨rfl, bh1986⟩; refine ⟨_, rfl, ?_⟩)
    have zbh1986 := bh1986.size
    replace bh1212 := bh1212.trans (bh1986.mono bh1212.size)
    replace bh1011 := bh1011.trans (bh1986.mono bh1011.size)
    replace bh778 := bh778.trans (bh1986.mono bh778.size)
    replace bh603 := bh603.trans (bh1986.mono bh603.size)
    replace bh211 := bh211.trans (bh1986.mono bh211.size)
    replace q2 := q2.trans (bh1986.mono q2.size)
    replace q := q.trans (bh1986.mono q.size)
    replace q1 := q1.trans (bh1986.mono q1.size)
    replace rh781 := rh781.up bh1986
    replace rh1215 := rh1215.up bh1986
    refine LL.val (R.move rfl rfl) rfl rfl rfl ?_
    refine LL.val (R.extract rfl rfl rfl) rfl rfl rfl ?_
    refine LL.val (R.extract rfl rfl rfl) rfl rfl rfl ?_
    refine LL.val (R.extract rfl rfl rfl) rfl rfl rfl ?_
    refine LL.val (R.assign rfl rfl) rfl rfl rfl ?_
    refine LL.val (R.assign rfl rfl) rfl rfl rfl ?_
    refine LL.val (R.assign rfl rfl) rfl rfl rfl ?_
    refine LL.nilS ?_
    refine CC.seq ?_
    refine CC.seq ?_
    refine CC.region ?_
    refine LL.val (R.move rfl rfl) rfl rfl rfl ?_
    refine LL.vsplit (fun h => R.neT rfl rfl rfl h) (fun h => R.neF rfl rfl rfl (Decidable.not_not.1 h)) rfl rfl rfl (fun ch2481 => ?_) (fun ch2481 => ?_)
    refine LL.nilS ?_
    refine CC.yes rfl ?_
    refine CC.seq ?_
    refine CC.region ?_
    have lh2531 := rh781.lt
    have lh2532 := rh1215.lt
    (refine LL.call (R.call rfl rfl rfl) rfl rfl rfl (works17_any _ (hmw.up q)) ?_; rintro e Wh2530 ⟨rfl, bh2527⟩; refine ⟨_, rfl, ?_⟩)
    have zbh2527 := bh2527.size
    replace bh1986 := bh1986.trans (bh2527.mono bh1986.size)
    replace bh1212 := bh1212.trans (bh2527.mono bh1212.size)
    replace bh1011 := bh1011.trans (bh2527.mono bh1011.size)
    replace bh778 := bh778.trans (bh2527.mono bh778.size)
    replace bh603 := bh603.trans (bh2527.mono bh603.size)
    replace bh211 := bh211.trans (bh2527.mono bh211.size)
    replace q2 := q2.trans (bh2527.mono q2.size)
    replace q := q.trans (bh2527.mono q.size)
    replace q1 := q1.trans (bh2527.mono q1.size)
    replace rh781 := rh781.up bh2527
    replace rh1215 := rh1215.up bh2527
    refine LL.val (R.assign rfl rfl) rfl rfl rfl ?_
    refine LL.nilS ?_
    refine CC.ret ?_
    refine EE.thenR ?_
    refine EE.ret _ rfl rfl ?_
    exact ⟨rfl, q⟩
    refine LL.nilS ?_
    refine CC.no rfl ?_
    refine CC.skip ?_
    refine EE.thenN ?_
    refine CC.seq ?_
    refine CC.region ?_
    refine LL.val (R.move rfl rfl) rfl rfl rfl ?_
    refine LL.val (R.move rfl rfl) rfl rfl rfl ?_
    have lh2738 := rh781.lt
    have lh2739 := rh1215.lt
    (refine LL.call (R.call rfl rfl rfl) rfl rfl rfl (hg3 _ (hmw.up q) q1) ?_; rintro e Wh2737 ⟨rfl, bh2734⟩; refine ⟨_, rfl, ?_⟩)
    have zbh2734 := bh2734.size
    replace bh1986 := bh1986.trans (bh2734.mono bh1986.size)
    replace bh1212 := bh1212.trans (bh2734.mono bh1212.size)
    replace bh1011 := bh1011.trans (bh2734.mono bh1011.size)
    replace bh778 := bh778.trans (bh2734.mono bh778.size)
    replace bh603 := bh603.trans (bh2734.mono bh603.size)
    replace bh211 := bh211.trans (bh2734.mono bh211.size)
    replace q2 := q2.trans (bh2734.mono q2.size)
    replace q := q.trans (bh2734.mono q.size)
    replace q1 := q1.trans (bh2734.mono q1.size)
    replace rh781 := rh781.up bh2734
    replace rh1215 := rh1215.up bh2734
    refine LL.val (R.move rfl rfl) rfl rfl rfl ?_
    refine LL.val (R.extract rfl rfl rfl) rfl rfl rfl ?_
    refine LL.val (R.extract rfl rfl rfl) rfl rfl rfl ?_
    have lh2959 := rh781.lt
    have lh2960 := rh1215.lt
    refine LL.alloc ([Value.int IntKind.i64 0, Value.int IntKind.i64 0, Value.string { data := { toList := [] } }, Value.int IntKind.i64 0, Value.int IntKind.i64 0]) rfl rfl rfl rfl rfl ?_
    intro Wh2962 gh2963 egh2963 rh2964 zh2965 bh2961
    replace bh2734 := bh2734.trans (bh2961.mono bh2734.size)
    replace bh1986 := bh1986.trans (bh2961.mono bh1986.size)
    replace bh1212 := bh1212.trans (bh2961.mono bh1212.size)
    replace bh1011 := bh1011.trans (bh2961.mono bh1011.size)
    replace bh778 := bh778.trans (bh2961.mono bh778.size)
    replace bh603 := bh603.trans (bh2961.mono bh603.size)
    replace bh211 := bh211.trans (bh2961.mono bh211.size)
    replace q2 := q2.trans (bh2961.mono q2.size)
    replace q := q.trans (bh2961.mono q.size)
    replace q1 := q1.trans (bh2961.mono q1.size)
    replace rh781 := rh781.up bh2961
    replace rh1215 := rh1215.up bh2961
    refine LL.storeN (vs := [Value.int IntKind.i64 0, Value.int IntKind.i64 zd, strV zn, Value.int IntKind.i64 zi, Value.int IntKind.i64 zk]) rfl rfl rfl rfl rh2964 (by exact Nat.le_of_ble_eq_true rfl) (ones_of rfl) rfl rfl ?_
    intro Wh3027 rh3028 bh3026 zh3029
    have hlbh3026 := rh2964.lt
    replace rh3028 : RowL Wh3027 _ 31 [Value.int IntKind.i64 0, Value.int IntKind.i64 zd, strV zn, Value.int IntKind.i64 zi, Value.int IntKind.i64 zk] := rh3028
    clear rh2964
    replace bh2961 := bh2961.grown bh3026 bh2961.size (by rintro k ⟨⟩; omega)
    replace bh2734 := bh2734.grown bh3026 bh2734.size (by rintro k ⟨⟩; omega)
    replace bh1986 := bh1986.grown bh3026 bh1986.size (by rintro k ⟨⟩; omega)
    replace bh1212 := bh1212.grown bh3026 bh1212.size (by rintro k ⟨⟩; omega)
    replace bh1011 := bh1011.grown bh3026 bh1011.size (by rintro k ⟨⟩; omega)
    replace bh778 := bh778.grown bh3026 bh778.size (by rintro k ⟨⟩; omega)
    replace bh603 := bh603.grown bh3026 bh603.size (by rintro k ⟨⟩; omega)
    replace bh211 := bh211.grown bh3026 bh211.size (by rintro k ⟨⟩; omega)
    replace q2 := q2.grown bh3026 q2.size (by rintro k ⟨⟩; omega)
    replace q := q.grown bh3026 q.size (by rintro k ⟨⟩; omega)
    replace q1 := q1.grown bh3026 q1.size (by rintro k ⟨⟩; omega)
    replace rh781 := rh781.gr bh3026 (by have := rh781.lt; omega)
    replace rh1215 := rh1215.gr bh3026 (by have := rh1215.lt; omega)
    have rh2964 := rh3028
    clear rh3028
    refine LL.val (R.assign rfl rfl) rfl rfl rfl ?_
    refine LL.nilS ?_
    refine CC.seq ?_
    refine CC.seq ?_
    refine CC.region ?_
    refine LL.val (R.move rfl rfl) rfl rfl rfl ?_
    refine LL.val (R.neF rfl rfl rfl (by omega)) rfl rfl rfl ?_
    refine LL.nilS ?_
    refine CC.no rfl ?_
    refine CC.skip ?_
    refine EE.thenN ?_
    refine CC.seq ?_
    refine CC.seq ?_
    refine CC.region ?_
    refine LL.val (R.field rfl rfl (I.fld rfl)) rfl rfl rfl ?_
    refine LL.val (R.load rfl rfl (I.ld1 rfl (RowL.cell rh2964 rfl))) rfl rfl rfl ?_
    refine LL.call (R.call rfl rfl rfl) rfl rfl rfl (num17_any _ _) ?_
    rintro e W' ⟨rfl, rfl⟩
    refine ⟨_, rfl, ?_⟩
    refine LL.val (R.neF rfl rfl rfl (by omega)) rfl rfl rfl ?_
    refine LL.nilS ?_
    refine CC.no rfl ?_
    refine CC.skip ?_
    refine EE.thenN ?_
    refine CC.seq ?_
    refine CC.seq ?_
    refine CC.region ?_
    refine LL.val (R.field rfl rfl (I.fld rfl)) rfl rfl rfl ?_
    refine LL.val (R.load rfl rfl (I.ld1 rfl (RowL.cell rh2964 rfl))) rfl rfl rfl ?_
    refine LL.val (R.neT rfl rfl rfl (by omega)) rfl rfl rfl ?_
    refine LL.nilS ?_
    refine CC.yes rfl ?_
    refine CC.seq ?_
    refine CC.region ?_
    refine LL.val (R.field rfl rfl (I.fld rfl)) rfl rfl rfl ?_
    refine LL.val (R.load rfl rfl (I.ld1 rfl (RowL.cell rh781 rfl))) rfl rfl rfl ?_
    refine LL.call (R.call rfl rfl rfl) rfl rfl rfl (num17_any _ _) ?_
    rintro e W' ⟨rfl, rfl⟩
    refine ⟨_, rfl, ?_⟩
    refine LL.val (R.eqT rfl rfl rfl (by omega)) rfl rfl rfl ?_
    refine LL.val (R.move rfl rfl) rfl rfl rfl ?_
    have lh3984 := rh781.lt
    have lh3985 := rh1215.lt
    have lh3986 := rh2964.lt
    (refine LL.call (R.call rfl rfl rfl) rfl rfl rfl (works17_any _ (hmw.up q)) ?_; rintro e Wh3983 ⟨rfl, bh3980⟩; refine ⟨_, rfl, ?_⟩)
    have zbh3980 := bh3980.size
    replace bh2961 := bh2961.trans (bh3980.mono bh2961.size)
    replace bh2734 := bh2734.trans (bh3980.mono bh2734.size)
    replace bh1986 := bh1986.trans (bh3980.mono bh1986.size)
    replace bh1212 := bh1212.trans (bh3980.mono bh1212.size)
    replace bh1011 := bh1011.trans (bh3980.mono bh1011.size)
    replace bh778 := bh778.trans (bh3980.mono bh778.size)
    replace bh603 := bh603.trans (bh3980.mono bh603.size)
    replace bh211 := bh211.trans (bh3980.mono bh211.size)
    replace q2 := q2.trans (bh3980.mono q2.size)
    replace q := q.trans (bh3980.mono q.size)
    replace q1 := q1.trans (bh3980.mono q1.size)
    replace rh781 := rh781.up bh3980
    replace rh1215 := rh1215.up bh3980
    replace rh2964 := rh2964.up bh3980
    refine LL.val (R.pick rfl rfl rfl) rfl rfl rfl ?_
    refine LL.val (R.assign rfl rfl) rfl rfl rfl ?_
    refine LL.nilS ?_
    refine CC.ret ?_
    refine EE.thenR ?_
    refine EE.ret _ rfl rfl ?_
    exact ⟨rfl, q⟩
  subst hzk
  have hx := hra.2.2 rfl rfl
  rw [hone] at hx
  clear hra hone
  have hfa := fun W (b : Below X1.heap.size X1 W) => find_any zi nm _ ow W (hoF W b) (by omega)
  cases hfi : findP ow zi nm with
  | none =>
    rw [hfi] at hx hfa
    subst hx
    simp only [Option.getD_some, Option.getD_none, Option.isSome_some, Option.isSome_none] at hfa
    refine CC.seq ?_
    refine CC.seq ?_
    refine CC.region ?_
    refine LL.val (R.move rfl rfl) rfl rfl rfl ?_
    refine LL.val (R.move rfl rfl) rfl rfl rfl ?_
    refine LL.val (R.len rfl rfl rfl rfl) rfl rfl rfl ?_
    refine LL.val (R.ltF rfl rfl rfl (by omega)) rfl rfl rfl ?_
    refine LL.nilS ?_
    refine CC.no rfl ?_
    refine CC.exit ?_
    refine EE.thenX ?_
    refine EE.thenX ?_
    refine EE.inX ?_
    refine EE.thenN ?_
    refine CC.seq ?_
    refine CC.region ?_
    refine LL.val (R.move rfl rfl) rfl rfl rfl ?_
    (refine LL.call (R.call rfl rfl rfl) rfl rfl rfl (rparts_any path _ (by omega)) ?_; rintro e Wi249 ⟨v2, rfl, o2, bi246⟩; refine ⟨_, rfl, ?_⟩; rw [hz, if_pos rfl] at o2; rw [hz]; obtain ⟨a2, c2, rfl, hc2⟩ := (o2.reads stEnc).form rfl; obtain ⟨X2, hzX2, h2F, q2⟩ := exposeT17 (o2.reads stEnc); have zX2 := q2.size; clear o2)
    have zbi246 := bi246.size
    replace q := q.trans (bi246.mono q.size)
    replace q1 := q1.trans (bi246.mono q1.size)
    refine LL.val (R.move rfl rfl) rfl rfl rfl ?_
    refine LL.val (R.extract rfl rfl rfl) rfl rfl rfl ?_
    refine LL.val (R.extract rfl rfl rfl) rfl rfl rfl ?_
    refine LL.val (R.assign rfl rfl) rfl rfl rfl ?_
    refine LL.val (R.assign rfl rfl) rfl rfl rfl ?_
    refine LL.nilS ?_
    refine CC.seq ?_
    refine CC.seq ?_
    refine CC.region ?_
    refine LL.val (R.move rfl rfl) rfl rfl rfl ?_
    refine LL.val (R.neF rfl rfl rfl (by omega)) rfl rfl rfl ?_
    refine LL.nilS ?_
    refine CC.no rfl ?_
    refine CC.skip ?_
    refine EE.thenN ?_
    refine CC.seq ?_
    refine CC.region ?_
    refine LL.val (R.move rfl rfl) rfl rfl rfl ?_
    refine LL.val (R.move rfl rfl) rfl rfl rfl ?_
    (refine LL.call (R.call rfl rfl rfl) rfl rfl rfl (hg1 _ (hmw.up q) q1) ?_; rintro e Wi704 ⟨rfl, bi701⟩; refine ⟨_, rfl, ?_⟩)
    have zbi701 := bi701.size
    replace bi246 := bi246.trans (bi701.mono bi246.size)
    replace q2 := q2.trans (bi701.mono q2.size)
    replace q := q.trans (bi701.mono q.size)
    replace q1 := q1.trans (bi701.mono q1.size)
    refine LL.val (R.move rfl rfl) rfl rfl rfl ?_
    refine LL.val (R.extract rfl rfl rfl) rfl rfl rfl ?_
    refine LL.val (R.extract rfl rfl rfl) rfl rfl rfl ?_
    refine LL.alloc ([Value.int IntKind.i64 0, Value.int IntKind.i64 0, Value.string { data := { toList := [] } }, Value.int IntKind.i64 0, Value.int IntKind.i64 0]) rfl rfl rfl rfl rfl ?_
    intro Wi905 gi906 egi906 ri907 zi908 bi904
    replace bi701 := bi701.trans (bi904.mono bi701.size)
    replace bi246 := bi246.trans (bi904.mono bi246.size)
    replace q2 := q2.trans (bi904.mono q2.size)
    replace q := q.trans (bi904.mono q.size)
    replace q1 := q1.trans (bi904.mono q1.size)
    refine LL.storeN (vs := [Value.int IntKind.i64 270, Value.int IntKind.i64 zi, strV nm, Value.int IntKind.i64 0, Value.int IntKind.i64 0]) rfl rfl rfl rfl ri907 (by exact Nat.le_of_ble_eq_true rfl) (ones_of rfl) rfl rfl ?_
    intro Wi966 ri967 bi965 zi968
    have hlbi965 := ri907.lt
    replace ri967 : RowL Wi966 _ 31 [Value.int IntKind.i64 270, Value.int IntKind.i64 zi, strV nm, Value.int IntKind.i64 0, Value.int IntKind.i64 0] := ri967
    clear ri907
    replace bi904 := bi904.grown bi965 bi904.size (by rintro k ⟨⟩; omega)
    replace bi701 := bi701.grown bi965 bi701.size (by rintro k ⟨⟩; omega)
    replace bi246 := bi246.grown bi965 bi246.size (by rintro k ⟨⟩; omega)
    replace q2 := q2.grown bi965 q2.size (by rintro k ⟨⟩; omega)
    replace q := q.grown bi965 q.size (by rintro k ⟨⟩; omega)
    replace q1 := q1.grown bi965 q1.size (by rintro k ⟨⟩; omega)
    have ri907 := ri967
    clear ri967
    refine LL.val (R.assign rfl rfl) rfl rfl rfl ?_
    refine LL.nilS ?_
    refine CC.seq ?_
    refine CC.region ?_
    refine LL.val (R.move rfl rfl) rfl rfl rfl ?_
    (refine LL.call (R.call rfl rfl rfl) rfl rfl rfl (rjoined_any _ (partsL path) _ (h2F _ q2) (by omega)) ?_; rintro e W' ⟨rfl, rfl⟩; refine ⟨_, rfl, ?_⟩)
    refine LL.val (R.move rfl rfl) rfl rfl rfl ?_
    have li1173 := ri907.lt
    (refine LL.call (R.call rfl rfl rfl) rfl rfl rfl (hg2 _ (hmw.up q) q1) ?_; rintro e Wi1172 ⟨rfl, bi1169⟩; refine ⟨_, rfl, ?_⟩)
    have zbi1169 := bi1169.size
    replace bi904 := bi904.trans (bi1169.mono bi904.size)
    replace bi701 := bi701.trans (bi1169.mono bi701.size)
    replace bi246 := bi246.trans (bi1169.mono bi246.size)
    replace q2 := q2.trans (bi1169.mono q2.size)
    replace q := q.trans (bi1169.mono q.size)
    replace q1 := q1.trans (bi1169.mono q1.size)
    replace ri907 := ri907.up bi1169
    refine LL.val (R.move rfl rfl) rfl rfl rfl ?_
    refine LL.val (R.extract rfl rfl rfl) rfl rfl rfl ?_
    refine LL.val (R.extract rfl rfl rfl) rfl rfl rfl ?_
    have li1401 := ri907.lt
    refine LL.alloc ([Value.int IntKind.i64 0, Value.int IntKind.i64 0, Value.string { data := { toList := [] } }, Value.int IntKind.i64 0, Value.int IntKind.i64 0]) rfl rfl rfl rfl rfl ?_
    intro Wi1403 gi1404 egi1404 ri1405 zi1406 bi1402
    replace bi1169 := bi1169.trans (bi1402.mono bi1169.size)
    replace bi904 := bi904.trans (bi1402.mono bi904.size)
    replace bi701 := bi701.trans (bi1402.mono bi701.size)
    replace bi246 := bi246.trans (bi1402.mono bi246.size)
    replace q2 := q2.trans (bi1402.mono q2.size)
    replace q := q.trans (bi1402.mono q.size)
    replace q1 := q1.trans (bi1402.mono q1.size)
    replace ri907 := ri907.up bi1402
    refine LL.storeN (vs := [Value.int IntKind.i64 270, Value.int IntKind.i64 zi, strV nm, Value.int IntKind.i64 0, Value.int IntKind.i64 0]) rfl rfl rfl rfl ri1405 (by exact Nat.le_of_ble_eq_true rfl) (ones_of rfl) rfl rfl ?_
    intro Wi1471 ri1472 bi1470 zi1473
    have hlbi1470 := ri1405.lt
    replace ri1472 : RowL Wi1471 _ 31 [Value.int IntKind.i64 270, Value.int IntKind.i64 zi, strV nm, Value.int IntKind.i64 0, Value.int IntKind.i64 0] := ri1472
    clear ri1405
    replace bi1402 := bi1402.grown bi1470 bi1402.size (by rintro k ⟨⟩; omega)
    replace bi1169 := bi1169.grown bi1470 bi1169.size (by rintro k ⟨⟩; omega)
    replace bi904 := bi904.grown bi1470 bi904.size (by rintro k ⟨⟩; omega)
    replace bi701 := bi701.grown bi1470 bi701.size (by rintro k ⟨⟩; omega)
    replace bi246 := bi246.grown bi1470 bi246.size (by rintro k ⟨⟩; omega)
    replace q2 := q2.grown bi1470 q2.size (by rintro k ⟨⟩; omega)
    replace q := q.grown bi1470 q.size (by rintro k ⟨⟩; omega)
    replace q1 := q1.grown bi1470 q1.size (by rintro k ⟨⟩; omega)
    replace ri907 := ri907.gr bi1470 (by have := ri907.lt; omega)
    have ri1405 := ri1472
    clear ri1472
    refine LL.val (R.assign rfl rfl) rfl rfl rfl ?_
    refine LL.nilS ?_
    refine CC.seq ?_
    refine CC.seq ?_
    refine CC.region ?_
    refine LL.val (R.move rfl rfl) rfl rfl rfl ?_
    refine LL.val (R.neF rfl rfl rfl (by omega)) rfl rfl rfl ?_
    refine LL.val (R.move rfl rfl) rfl rfl rfl ?_
    refine LL.val (R.move rfl rfl) rfl rfl rfl ?_
    refine LL.val (R.neF rfl rfl rfl (by omega)) rfl rfl rfl ?_
    refine LL.val (R.pick rfl rfl rfl) rfl rfl rfl ?_
    refine LL.val (R.move rfl rfl) rfl rfl rfl ?_
    refine LL.val (R.load rfl rfl (I.ldNc (vs := [Value.int IntKind.i64 270, Value.int IntKind.i64 zi, strV nm, Value.int IntKind.i64 0, Value.int IntKind.i64 0]) (RowL.cells ri907 rfl) (by rfl) (by rfl))) rfl rfl rfl ?_
    refine LL.val (R.load rfl rfl (I.ldNc (vs := [Value.int IntKind.i64 270, Value.int IntKind.i64 zi, strV nm, Value.int IntKind.i64 0, Value.int IntKind.i64 0]) (RowL.cells ri1405 rfl) (by rfl) (by rfl))) rfl rfl rfl ?_
    (refine LL.val (R.neST (p := True) rfl rfl rfl rfl (by kernel_rfl) rfl (by simp) trivial) rfl rfl rfl ?_)
    refine LL.val (R.pick rfl rfl rfl) rfl rfl rfl ?_
    refine LL.nilS ?_
    refine CC.no rfl ?_
    refine CC.skip ?_
    refine EE.thenN ?_
    refine CC.seq ?_
    refine CC.region ?_
    refine LL.val (R.move rfl rfl) rfl rfl rfl ?_
    have li2297 := ri907.lt
    have li2298 := ri1405.lt
    (refine LL.call (R.call rfl rfl rfl) rfl rfl rfl (hsp _) ?_; rintro e Wi2296 ⟨rfl, bi2293⟩; refine ⟨_, rfl, ?_⟩)
    have zbi2293 := bi2293.size
    replace bi1402 := bi1402.trans (bi2293.mono bi1402.size)
    replace bi1169 := bi1169.trans (bi2293.mono bi1169.size)
    replace bi904 := bi904.trans (bi2293.mono bi904.size)
    replace bi701 := bi701.trans (bi2293.mono bi701.size)
    replace bi246 := bi246.trans (bi2293.mono bi246.size)
    replace q2 := q2.trans (bi2293.mono q2.size)
    replace q := q.trans (bi2293.mono q.size)
    replace q1 := q1.trans (bi2293.mono q1.size)
    replace ri907 := ri907.up bi2293
    replace ri1405 := ri1405.up bi2293
    refine LL.val (R.move rfl rfl) rfl rfl rfl ?_
    refine LL.val (R.extract rfl rfl rfl) rfl rfl rfl ?_
    refine LL.val (R.extract rfl rfl rfl) rfl rfl rfl ?_
    refine LL.val (R.extract rfl rfl rfl) rfl rfl rfl ?_
    refine LL.val (R.assign rfl rfl) rfl rfl rfl ?_
    refine LL.val (R.assign rfl rfl) rfl rfl rfl ?_
    refine LL.val (R.assign rfl rfl) rfl rfl rfl ?_
    refine LL.nilS ?_
    refine CC.seq ?_
    refine CC.seq ?_
    refine CC.region ?_
    refine LL.val (R.move rfl rfl) rfl rfl rfl ?_
    refine LL.vsplit (fun h => R.neT rfl rfl rfl h) (fun h => R.neF rfl rfl rfl (Decidable.not_not.1 h)) rfl rfl rfl (fun ci2869 => ?_) (fun ci2869 => ?_)
    refine LL.nilS ?_
    refine CC.yes rfl ?_
    refine CC.seq ?_
    refine CC.region ?_
    have li2928 := ri907.lt
    have li2929 := ri1405.lt
    (refine LL.call (R.call rfl rfl rfl) rfl rfl rfl (works17_any _ (hmw.up q)) ?_; rintro e Wi2927 ⟨rfl, bi2924⟩; refine ⟨_, rfl, ?_⟩)
    have zbi2924 := bi2924.size
    replace bi2293 := bi2293.trans (bi2924.mono bi2293.size)
    replace bi1402 := bi1402.trans (bi2924.mono bi1402.size)
    replace bi1169 := bi1169.trans (bi2924.mono bi1169.size)
    replace bi904 := bi904.trans (bi2924.mono bi904.size)
    replace bi701 := bi701.trans (bi2924.mono bi701.size)
    replace bi246 := bi246.trans (bi2924.mono bi246.size)
    replace q2 := q2.trans (bi2924.mono q2.size)
    replace q := q.trans (bi2924.mono q.size)
    replace q1 := q1.trans (bi2924.mono q1.size)
    replace ri907 := ri907.up bi2924
    replace ri1405 := ri1405.up bi2924
    refine LL.val (R.assign rfl rfl) rfl rfl rfl ?_
    refine LL.nilS ?_
    refine CC.ret ?_
    refine EE.thenR ?_
    refine EE.ret _ rfl rfl ?_
    exact ⟨rfl, q⟩
    refine LL.nilS ?_
    refine CC.no rfl ?_
    refine CC.skip ?_
    refine EE.thenN ?_
    refine CC.seq ?_
    refine CC.region ?_
    refine LL.val (R.move rfl rfl) rfl rfl rfl ?_
    refine LL.val (R.move rfl rfl) rfl rfl rfl ?_
    have li3162 := ri907.lt
    have li3163 := ri1405.lt
    (refine LL.call (R.call rfl rfl rfl) rfl rfl rfl (hg3 _ (hmw.up q) q1) ?_; rintro e Wi3161 ⟨rfl, bi3158⟩; refine ⟨_, rfl, ?_⟩)
    have zbi3158 := bi3158.size
    replace bi2293 := bi2293.trans (bi3158.mono bi2293.size)
    replace bi1402 := bi1402.trans (bi3158.mono bi1402.size)
    replace bi1169 := bi1169.trans (bi3158.mono bi1169.size)
    replace bi904 := bi904.trans (bi3158.mono bi904.size)
    replace bi701 := bi701.trans (bi3158.mono bi701.size)
    replace bi246 := bi246.trans (bi3158.mono bi246.size)
    replace q2 := q2.trans (bi3158.mono q2.size)
    replace q := q.trans (bi3158.mono q.size)
    replace q1 := q1.trans (bi3158.mono q1.size)
    replace ri907 := ri907.up bi3158
    replace ri1405 := ri1405.up bi3158
    refine LL.val (R.move rfl rfl) rfl rfl rfl ?_
    refine LL.val (R.extract rfl rfl rfl) rfl rfl rfl ?_
    refine LL.val (R.extract rfl rfl rfl) rfl rfl rfl ?_
    have li3419 := ri907.lt
    have li3420 := ri1405.lt
    refine LL.alloc ([Value.int IntKind.i64 0, Value.int IntKind.i64 0, Value.string { data := { toList := [] } }, Value.int IntKind.i64 0, Value.int IntKind.i64 0]) rfl rfl rfl rfl rfl ?_
    intro Wi3422 gi3423 egi3423 ri3424 zi3425 bi3421
    replace bi3158 := bi3158.trans (bi3421.mono bi3158.size)
    replace bi2293 := bi2293.trans (bi3421.mono bi2293.size)
    replace bi1402 := bi1402.trans (bi3421.mono bi1402.size)
    replace bi1169 := bi1169.trans (bi3421.mono bi1169.size)
    replace bi904 := bi904.trans (bi3421.mono bi904.size)
    replace bi701 := bi701.trans (bi3421.mono bi701.size)
    replace bi246 := bi246.trans (bi3421.mono bi246.size)
    replace q2 := q2.trans (bi3421.mono q2.size)
    replace q := q.trans (bi3421.mono q.size)
    replace q1 := q1.trans (bi3421.mono q1.size)
    replace ri907 := ri907.up bi3421
    replace ri1405 := ri1405.up bi3421
    refine LL.storeN (vs := [Value.int IntKind.i64 0, Value.int IntKind.i64 zd, strV zn, Value.int IntKind.i64 zi, Value.int IntKind.i64 2]) rfl rfl rfl rfl ri3424 (by exact Nat.le_of_ble_eq_true rfl) (ones_of rfl) rfl rfl ?_
    intro Wi3497 ri3498 bi3496 zi3499
    have hlbi3496 := ri3424.lt
    replace ri3498 : RowL Wi3497 _ 31 [Value.int IntKind.i64 0, Value.int IntKind.i64 zd, strV zn, Value.int IntKind.i64 zi, Value.int IntKind.i64 2] := ri3498
    clear ri3424
    replace bi3421 := bi3421.grown bi3496 bi3421.size (by rintro k ⟨⟩; omega)
    replace bi3158 := bi3158.grown bi3496 bi3158.size (by rintro k ⟨⟩; omega)
    replace bi2293 := bi2293.grown bi3496 bi2293.size (by rintro k ⟨⟩; omega)
    replace bi1402 := bi1402.grown bi3496 bi1402.size (by rintro k ⟨⟩; omega)
    replace bi1169 := bi1169.grown bi3496 bi1169.size (by rintro k ⟨⟩; omega)
    replace bi904 := bi904.grown bi3496 bi904.size (by rintro k ⟨⟩; omega)
    replace bi701 := bi701.grown bi3496 bi701.size (by rintro k ⟨⟩; omega)
    replace bi246 := bi246.grown bi3496 bi246.size (by rintro k ⟨⟩; omega)
    replace q2 := q2.grown bi3496 q2.size (by rintro k ⟨⟩; omega)
    replace q := q.grown bi3496 q.size (by rintro k ⟨⟩; omega)
    replace q1 := q1.grown bi3496 q1.size (by rintro k ⟨⟩; omega)
    replace ri907 := ri907.gr bi3496 (by have := ri907.lt; omega)
    replace ri1405 := ri1405.gr bi3496 (by have := ri1405.lt; omega)
    have ri3424 := ri3498
    clear ri3498
    refine LL.val (R.assign rfl rfl) rfl rfl rfl ?_
    refine LL.nilS ?_
    refine CC.seq ?_
    refine CC.seq ?_
    refine CC.region ?_
    refine LL.val (R.move rfl rfl) rfl rfl rfl ?_
    refine LL.val (R.neF rfl rfl rfl (by omega)) rfl rfl rfl ?_
    refine LL.nilS ?_
    refine CC.no rfl ?_
    refine CC.skip ?_
    refine EE.thenN ?_
    refine CC.seq ?_
    refine CC.seq ?_
    refine CC.region ?_
    refine LL.val (R.field rfl rfl (I.fld rfl)) rfl rfl rfl ?_
    refine LL.val (R.load rfl rfl (I.ld1 rfl (RowL.cell ri3424 rfl))) rfl rfl rfl ?_
    refine LL.call (R.call rfl rfl rfl) rfl rfl rfl (num17_any _ _) ?_
    rintro e W' ⟨rfl, rfl⟩
    refine ⟨_, rfl, ?_⟩
    refine LL.val (R.neF rfl rfl rfl (by omega)) rfl rfl rfl ?_
    refine LL.nilS ?_
    refine CC.no rfl ?_
    refine CC.skip ?_
    refine EE.thenN ?_
    refine CC.seq ?_
    refine CC.seq ?_
    refine CC.region ?_
    refine LL.val (R.field rfl rfl (I.fld rfl)) rfl rfl rfl ?_
    refine LL.val (R.load rfl rfl (I.ld1 rfl (RowL.cell ri3424 rfl))) rfl rfl rfl ?_
    refine LL.val (R.neF rfl rfl rfl (by omega)) rfl rfl rfl ?_
    refine LL.nilS ?_
    refine CC.no rfl ?_
    refine CC.skip ?_
    refine EE.thenN ?_
    refine CC.seq ?_
    refine CC.region ?_
    refine LL.val (R.move rfl rfl) rfl rfl rfl ?_
    refine LL.val (R.field rfl rfl (I.fld rfl)) rfl rfl rfl ?_
    refine LL.val (R.load rfl rfl (I.ld1 rfl (RowL.cell ri3424 rfl))) rfl rfl rfl ?_
    refine LL.val (R.move rfl rfl) rfl rfl rfl ?_
    have li4534 := ri907.lt
    have li4535 := ri1405.lt
    have li4536 := ri3424.lt
    (refine LL.call (R.call rfl rfl rfl) rfl rfl rfl (hfa _ q1) ?_; rintro e Wi4533 ⟨rfl, bi4530⟩; refine ⟨_, rfl, ?_⟩)
    have zbi4530 := bi4530.size
    replace bi3421 := bi3421.trans (bi4530.mono bi3421.size)
    replace bi3158 := bi3158.trans (bi4530.mono bi3158.size)
    replace bi2293 := bi2293.trans (bi4530.mono bi2293.size)
    replace bi1402 := bi1402.trans (bi4530.mono bi1402.size)
    replace bi1169 := bi1169.trans (bi4530.mono bi1169.size)
    replace bi904 := bi904.trans (bi4530.mono bi904.size)
    replace bi701 := bi701.trans (bi4530.mono bi701.size)
    replace bi246 := bi246.trans (bi4530.mono bi246.size)
    replace q2 := q2.trans (bi4530.mono q2.size)
    replace q := q.trans (bi4530.mono q.size)
    replace q1 := q1.trans (bi4530.mono q1.size)
    replace ri907 := ri907.up bi4530
    replace ri1405 := ri1405.up bi4530
    replace ri3424 := ri3424.up bi4530
    refine LL.val (R.move rfl rfl) rfl rfl rfl ?_
    refine LL.val (R.extract rfl rfl rfl) rfl rfl rfl ?_
    refine LL.val (R.extract rfl rfl rfl) rfl rfl rfl ?_
    have li4820 := ri907.lt
    have li4821 := ri1405.lt
    have li4822 := ri3424.lt
    refine LL.alloc ([Value.int IntKind.i64 0, Value.int IntKind.i64 0, Value.string { data := { toList := [] } }]) rfl rfl rfl rfl rfl ?_
    intro Wi4824 gi4825 egi4825 ri4826 zi4827 bi4823
    replace bi4530 := bi4530.trans (bi4823.mono bi4530.size)
    replace bi3421 := bi3421.trans (bi4823.mono bi3421.size)
    replace bi3158 := bi3158.trans (bi4823.mono bi3158.size)
    replace bi2293 := bi2293.trans (bi4823.mono bi2293.size)
    replace bi1402 := bi1402.trans (bi4823.mono bi1402.size)
    replace bi1169 := bi1169.trans (bi4823.mono bi1169.size)
    replace bi904 := bi904.trans (bi4823.mono bi904.size)
    replace bi701 := bi701.trans (bi4823.mono bi701.size)
    replace bi246 := bi246.trans (bi4823.mono bi246.size)
    replace q2 := q2.trans (bi4823.mono q2.size)
    replace q := q.trans (bi4823.mono q.size)
    replace q1 := q1.trans (bi4823.mono q1.size)
    replace ri907 := ri907.up bi4823
    replace ri1405 := ri1405.up bi4823
    replace ri3424 := ri3424.up bi4823
    refine LL.storeN (vs := [Value.int IntKind.i64 0, Value.int IntKind.i64 0, strV []]) rfl rfl rfl rfl ri4826 (by exact Nat.le_of_ble_eq_true rfl) (ones_of rfl) rfl rfl ?_
    intro Wi4906 ri4907 bi4905 zi4908
    have hlbi4905 := ri4826.lt
    replace ri4907 : RowL Wi4906 _ 38 [Value.int IntKind.i64 0, Value.int IntKind.i64 0, strV []] := ri4907
    clear ri4826
    replace bi4823 := bi4823.grown bi4905 bi4823.size (by rintro k ⟨⟩; omega)
    replace bi4530 := bi4530.grown bi4905 bi4530.size (by rintro k ⟨⟩; omega)
    replace bi3421 := bi3421.grown bi4905 bi3421.size (by rintro k ⟨⟩; omega)
    replace bi3158 := bi3158.grown bi4905 bi3158.size (by rintro k ⟨⟩; omega)
    replace bi2293 := bi2293.grown bi4905 bi2293.size (by rintro k ⟨⟩; omega)
    replace bi1402 := bi1402.grown bi4905 bi1402.size (by rintro k ⟨⟩; omega)
    replace bi1169 := bi1169.grown bi4905 bi1169.size (by rintro k ⟨⟩; omega)
    replace bi904 := bi904.grown bi4905 bi904.size (by rintro k ⟨⟩; omega)
    replace bi701 := bi701.grown bi4905 bi701.size (by rintro k ⟨⟩; omega)
    replace bi246 := bi246.grown bi4905 bi246.size (by rintro k ⟨⟩; omega)
    replace q2 := q2.grown bi4905 q2.size (by rintro k ⟨⟩; omega)
    replace q := q.grown bi4905 q.size (by rintro k ⟨⟩; omega)
    replace q1 := q1.grown bi4905 q1.size (by rintro k ⟨⟩; omega)
    replace ri907 := ri907.gr bi4905 (by have := ri907.lt; omega)
    replace ri1405 := ri1405.gr bi4905 (by have := ri1405.lt; omega)
    replace ri3424 := ri3424.gr bi4905 (by have := ri3424.lt; omega)
    have ri4826 := ri4907
    clear ri4907
    refine LL.val (R.assign rfl rfl) rfl rfl rfl ?_
    refine LL.nilS ?_
    refine CC.seq ?_
    refine CC.seq ?_
    refine CC.region ?_
    refine LL.val (R.move rfl rfl) rfl rfl rfl ?_
    refine LL.val (R.not rfl rfl) rfl rfl rfl ?_
    refine LL.nilS ?_
    refine CC.yes rfl ?_
    refine CC.seq ?_
    refine CC.region ?_
    refine LL.val (R.load rfl rfl (I.ldNc (vs := [Value.int IntKind.i64 270, Value.int IntKind.i64 zi, strV nm, Value.int IntKind.i64 0, Value.int IntKind.i64 0]) (RowL.cells ri907 rfl) (by rfl) (by rfl))) rfl rfl rfl ?_
    refine LL.val (R.field rfl rfl (I.fld rfl)) rfl rfl rfl ?_
    refine LL.val (R.load rfl rfl (I.ld1 rfl (RowL.cell ri3424 rfl))) rfl rfl rfl ?_
    refine LL.val (R.move rfl rfl) rfl rfl rfl ?_
    refine LL.val (R.buildV rfl rfl (v := .agg #[Value.int IntKind.i64 270, Value.int IntKind.i64 zi, Value.string { data := List.toArray nm }, Value.int IntKind.i64 0, Value.int IntKind.i64 0]) (fun _ => by kernel_rfl)) rfl rfl rfl ?_
    (refine LL.val (R.eqST (p := True) rfl rfl rfl rfl (by kernel_rfl) rfl (by simp) trivial) rfl rfl rfl ?_)
    refine LL.val (R.move rfl rfl) rfl rfl rfl ?_
    have li5738 := ri907.lt
    have li5739 := ri1405.lt
    have li5740 := ri3424.lt
    have li5741 := ri4826.lt
    (refine LL.call (R.call rfl rfl rfl) rfl rfl rfl (works17_any _ (hmw.up q)) ?_; rintro e Wi5737 ⟨rfl, bi5734⟩; refine ⟨_, rfl, ?_⟩)
    have zbi5734 := bi5734.size
    replace bi4823 := bi4823.trans (bi5734.mono bi4823.size)
    replace bi4530 := bi4530.trans (bi5734.mono bi4530.size)
    replace bi3421 := bi3421.trans (bi5734.mono bi3421.size)
    replace bi3158 := bi3158.trans (bi5734.mono bi3158.size)
    replace bi2293 := bi2293.trans (bi5734.mono bi2293.size)
    replace bi1402 := bi1402.trans (bi5734.mono bi1402.size)
    replace bi1169 := bi1169.trans (bi5734.mono bi1169.size)
    replace bi904 := bi904.trans (bi5734.mono bi904.size)
    replace bi701 := bi701.trans (bi5734.mono bi701.size)
    replace bi246 := bi246.trans (bi5734.mono bi246.size)
    replace q2 := q2.trans (bi5734.mono q2.size)
    replace q := q.trans (bi5734.mono q.size)
    replace q1 := q1.trans (bi5734.mono q1.size)
    replace ri907 := ri907.up bi5734
    replace ri1405 := ri1405.up bi5734
    replace ri3424 := ri3424.up bi5734
    replace ri4826 := ri4826.up bi5734
    refine LL.val (R.pick rfl rfl rfl) rfl rfl rfl ?_
    refine LL.val (R.assign rfl rfl) rfl rfl rfl ?_
    refine LL.nilS ?_
    refine CC.ret ?_
    refine EE.thenR ?_
    refine EE.ret _ rfl rfl ?_
    exact ⟨rfl, q⟩
  | some f =>
    rw [hfi] at hx hfa
    subst hx
    simp only [Option.getD_some, Option.getD_none, Option.isSome_some, Option.isSome_none] at hfa
    refine CC.seq ?_
    refine CC.seq ?_
    refine CC.region ?_
    refine LL.val (R.move rfl rfl) rfl rfl rfl ?_
    refine LL.val (R.move rfl rfl) rfl rfl rfl ?_
    refine LL.val (R.len rfl rfl rfl rfl) rfl rfl rfl ?_
    refine LL.val (R.ltF rfl rfl rfl (by omega)) rfl rfl rfl ?_
    refine LL.nilS ?_
    refine CC.no rfl ?_
    refine CC.exit ?_
    refine EE.thenX ?_
    refine EE.thenX ?_
    refine EE.inX ?_
    refine EE.thenN ?_
    refine CC.seq ?_
    refine CC.region ?_
    refine LL.val (R.move rfl rfl) rfl rfl rfl ?_
    (refine LL.call (R.call rfl rfl rfl) rfl rfl rfl (rparts_any path _ (by omega)) ?_; rintro e Wj249 ⟨v2, rfl, o2, bj246⟩; refine ⟨_, rfl, ?_⟩; rw [hz, if_pos rfl] at o2; rw [hz]; obtain ⟨a2, c2, rfl, hc2⟩ := (o2.reads stEnc).form rfl; obtain ⟨X2, hzX2, h2F, q2⟩ := exposeT17 (o2.reads stEnc); have zX2 := q2.size; clear o2)
    have zbj246 := bj246.size
    replace q := q.trans (bj246.mono q.size)
    replace q1 := q1.trans (bj246.mono q1.size)
    refine LL.val (R.move rfl rfl) rfl rfl rfl ?_
    refine LL.val (R.extract rfl rfl rfl) rfl rfl rfl ?_
    refine LL.val (R.extract rfl rfl rfl) rfl rfl rfl ?_
    refine LL.val (R.assign rfl rfl) rfl rfl rfl ?_
    refine LL.val (R.assign rfl rfl) rfl rfl rfl ?_
    refine LL.nilS ?_
    refine CC.seq ?_
    refine CC.seq ?_
    refine CC.region ?_
    refine LL.val (R.move rfl rfl) rfl rfl rfl ?_
    refine LL.val (R.neF rfl rfl rfl (by omega)) rfl rfl rfl ?_
    refine LL.nilS ?_
    refine CC.no rfl ?_
    refine CC.skip ?_
    refine EE.thenN ?_
    refine CC.seq ?_
    refine CC.region ?_
    refine LL.val (R.move rfl rfl) rfl rfl rfl ?_
    refine LL.val (R.move rfl rfl) rfl rfl rfl ?_
    (refine LL.call (R.call rfl rfl rfl) rfl rfl rfl (hg1 _ (hmw.up q) q1) ?_; rintro e Wj704 ⟨rfl, bj701⟩; refine ⟨_, rfl, ?_⟩)
    have zbj701 := bj701.size
    replace bj246 := bj246.trans (bj701.mono bj246.size)
    replace q2 := q2.trans (bj701.mono q2.size)
    replace q := q.trans (bj701.mono q.size)
    replace q1 := q1.trans (bj701.mono q1.size)
    refine LL.val (R.move rfl rfl) rfl rfl rfl ?_
    refine LL.val (R.extract rfl rfl rfl) rfl rfl rfl ?_
    refine LL.val (R.extract rfl rfl rfl) rfl rfl rfl ?_
    refine LL.alloc ([Value.int IntKind.i64 0, Value.int IntKind.i64 0, Value.string { data := { toList := [] } }, Value.int IntKind.i64 0, Value.int IntKind.i64 0]) rfl rfl rfl rfl rfl ?_
    intro Wj905 gj906 egj906 rj907 zj908 bj904
    replace bj701 := bj701.trans (bj904.mono bj701.size)
    replace bj246 := bj246.trans (bj904.mono bj246.size)
    replace q2 := q2.trans (bj904.mono q2.size)
    replace q := q.trans (bj904.mono q.size)
    replace q1 := q1.trans (bj904.mono q1.size)
    refine LL.storeN (vs := [Value.int IntKind.i64 0, Value.int IntKind.i64 zi, strV nm, Value.int IntKind.i64 f.1, Value.int IntKind.i64 f.2.1]) rfl rfl rfl rfl rj907 (by exact Nat.le_of_ble_eq_true rfl) (ones_of rfl) rfl rfl ?_
    intro Wj966 rj967 bj965 zj968
    have hlbj965 := rj907.lt
    replace rj967 : RowL Wj966 _ 31 [Value.int IntKind.i64 0, Value.int IntKind.i64 zi, strV nm, Value.int IntKind.i64 f.1, Value.int IntKind.i64 f.2.1] := rj967
    clear rj907
    replace bj904 := bj904.grown bj965 bj904.size (by rintro k ⟨⟩; omega)
    replace bj701 := bj701.grown bj965 bj701.size (by rintro k ⟨⟩; omega)
    replace bj246 := bj246.grown bj965 bj246.size (by rintro k ⟨⟩; omega)
    replace q2 := q2.grown bj965 q2.size (by rintro k ⟨⟩; omega)
    replace q := q.grown bj965 q.size (by rintro k ⟨⟩; omega)
    replace q1 := q1.grown bj965 q1.size (by rintro k ⟨⟩; omega)
    have rj907 := rj967
    clear rj967
    refine LL.val (R.assign rfl rfl) rfl rfl rfl ?_
    refine LL.nilS ?_
    refine CC.seq ?_
    refine CC.region ?_
    refine LL.val (R.move rfl rfl) rfl rfl rfl ?_
    (refine LL.call (R.call rfl rfl rfl) rfl rfl rfl (rjoined_any _ (partsL path) _ (h2F _ q2) (by omega)) ?_; rintro e W' ⟨rfl, rfl⟩; refine ⟨_, rfl, ?_⟩)
    refine LL.val (R.move rfl rfl) rfl rfl rfl ?_
    have lj1173 := rj907.lt
    (refine LL.call (R.call rfl rfl rfl) rfl rfl rfl (hg2 _ (hmw.up q) q1) ?_; rintro e Wj1172 ⟨rfl, bj1169⟩; refine ⟨_, rfl, ?_⟩)
    have zbj1169 := bj1169.size
    replace bj904 := bj904.trans (bj1169.mono bj904.size)
    replace bj701 := bj701.trans (bj1169.mono bj701.size)
    replace bj246 := bj246.trans (bj1169.mono bj246.size)
    replace q2 := q2.trans (bj1169.mono q2.size)
    replace q := q.trans (bj1169.mono q.size)
    replace q1 := q1.trans (bj1169.mono q1.size)
    replace rj907 := rj907.up bj1169
    refine LL.val (R.move rfl rfl) rfl rfl rfl ?_
    refine LL.val (R.extract rfl rfl rfl) rfl rfl rfl ?_
    refine LL.val (R.extract rfl rfl rfl) rfl rfl rfl ?_
    have lj1401 := rj907.lt
    refine LL.alloc ([Value.int IntKind.i64 0, Value.int IntKind.i64 0, Value.string { data := { toList := [] } }, Value.int IntKind.i64 0, Value.int IntKind.i64 0]) rfl rfl rfl rfl rfl ?_
    intro Wj1403 gj1404 egj1404 rj1405 zj1406 bj1402
    replace bj1169 := bj1169.trans (bj1402.mono bj1169.size)
    replace bj904 := bj904.trans (bj1402.mono bj904.size)
    replace bj701 := bj701.trans (bj1402.mono bj701.size)
    replace bj246 := bj246.trans (bj1402.mono bj246.size)
    replace q2 := q2.trans (bj1402.mono q2.size)
    replace q := q.trans (bj1402.mono q.size)
    replace q1 := q1.trans (bj1402.mono q1.size)
    replace rj907 := rj907.up bj1402
    refine LL.storeN (vs := [Value.int IntKind.i64 0, Value.int IntKind.i64 zi, strV nm, Value.int IntKind.i64 f.1, Value.int IntKind.i64 f.2.1]) rfl rfl rfl rfl rj1405 (by exact Nat.le_of_ble_eq_true rfl) (ones_of rfl) rfl rfl ?_
    intro Wj1471 rj1472 bj1470 zj1473
    have hlbj1470 := rj1405.lt
    replace rj1472 : RowL Wj1471 _ 31 [Value.int IntKind.i64 0, Value.int IntKind.i64 zi, strV nm, Value.int IntKind.i64 f.1, Value.int IntKind.i64 f.2.1] := rj1472
    clear rj1405
    replace bj1402 := bj1402.grown bj1470 bj1402.size (by rintro k ⟨⟩; omega)
    replace bj1169 := bj1169.grown bj1470 bj1169.size (by rintro k ⟨⟩; omega)
    replace bj904 := bj904.grown bj1470 bj904.size (by rintro k ⟨⟩; omega)
    replace bj701 := bj701.grown bj1470 bj701.size (by rintro k ⟨⟩; omega)
    replace bj246 := bj246.grown bj1470 bj246.size (by rintro k ⟨⟩; omega)
    replace q2 := q2.grown bj1470 q2.size (by rintro k ⟨⟩; omega)
    replace q := q.grown bj1470 q.size (by rintro k ⟨⟩; omega)
    replace q1 := q1.grown bj1470 q1.size (by rintro k ⟨⟩; omega)
    replace rj907 := rj907.gr bj1470 (by have := rj907.lt; omega)
    have rj1405 := rj1472
    clear rj1472
    refine LL.val (R.assign rfl rfl) rfl rfl rfl ?_
    refine LL.nilS ?_
    refine CC.seq ?_
    refine CC.seq ?_
    refine CC.region ?_
    refine LL.val (R.move rfl rfl) rfl rfl rfl ?_
    refine LL.val (R.neF rfl rfl rfl (by omega)) rfl rfl rfl ?_
    refine LL.val (R.move rfl rfl) rfl rfl rfl ?_
    refine LL.val (R.move rfl rfl) rfl rfl rfl ?_
    refine LL.val (R.neF rfl rfl rfl (by omega)) rfl rfl rfl ?_
    refine LL.val (R.pick rfl rfl rfl) rfl rfl rfl ?_
    refine LL.val (R.move rfl rfl) rfl rfl rfl ?_
    refine LL.val (R.load rfl rfl (I.ldNc (vs := [Value.int IntKind.i64 0, Value.int IntKind.i64 zi, strV nm, Value.int IntKind.i64 f.1, Value.int IntKind.i64 f.2.1]) (RowL.cells rj907 rfl) (by rfl) (by rfl))) rfl rfl rfl ?_
    refine LL.val (R.load rfl rfl (I.ldNc (vs := [Value.int IntKind.i64 0, Value.int IntKind.i64 zi, strV nm, Value.int IntKind.i64 f.1, Value.int IntKind.i64 f.2.1]) (RowL.cells rj1405 rfl) (by rfl) (by rfl))) rfl rfl rfl ?_
    (refine LL.val (R.neST (p := True) rfl rfl rfl rfl (by kernel_rfl) rfl (by simp) trivial) rfl rfl rfl ?_)
    refine LL.val (R.pick rfl rfl rfl) rfl rfl rfl ?_
    refine LL.nilS ?_
    refine CC.no rfl ?_
    refine CC.skip ?_
    refine EE.thenN ?_
    refine CC.seq ?_
    refine CC.region ?_
    refine LL.val (R.move rfl rfl) rfl rfl rfl ?_
    have lj2297 := rj907.lt
    have lj2298 := rj1405.lt
    (refine LL.call (R.call rfl rfl rfl) rfl rfl rfl (hsp _) ?_; rintro e Wj2296 ⟨rfl, bj2293⟩; refine ⟨_, rfl, ?_⟩)
    have zbj2293 := bj2293.size
    replace bj1402 := bj1402.trans (bj2293.mono bj1402.size)
    replace bj1169 := bj1169.trans (bj2293.mono bj1169.size)
    replace bj904 := bj904.trans (bj2293.mono bj904.size)
    replace bj701 := bj701.trans (bj2293.mono bj701.size)
    replace bj246 := bj246.trans (bj2293.mono bj246.size)
    replace q2 := q2.trans (bj2293.mono q2.size)
    replace q := q.trans (bj2293.mono q.size)
    replace q1 := q1.trans (bj2293.mono q1.size)
    replace rj907 := rj907.up bj2293
    replace rj1405 := rj1405.up bj2293
    refine LL.val (R.move rfl rfl) rfl rfl rfl ?_
    refine LL.val (R.extract rfl rfl rfl) rfl rfl rfl ?_
    refine LL.val (R.extract rfl rfl rfl) rfl rfl rfl ?_
    refine LL.val (R.extract rfl rfl rfl) rfl rfl rfl ?_
    refine LL.val (R.assign rfl rfl) rfl rfl rfl ?_
    refine LL.val (R.assign rfl rfl) rfl rfl rfl ?_
    refine LL.val (R.assign rfl rfl) rfl rfl rfl ?_
    refine LL.nilS ?_
    refine CC.seq ?_
    refine CC.seq ?_
    refine CC.region ?_
    refine LL.val (R.move rfl rfl) rfl rfl rfl ?_
    refine LL.vsplit (fun h => R.neT rfl rfl rfl h) (fun h => R.neF rfl rfl rfl (Decidable.not_not.1 h)) rfl rfl rfl (fun cj2869 => ?_) (fun cj2869 => ?_)
    refine LL.nilS ?_
    refine CC.yes rfl ?_
    refine CC.seq ?_
    refine CC.region ?_
    have lj2928 := rj907.lt
    have lj2929 := rj1405.lt
    (refine LL.call (R.call rfl rfl rfl) rfl rfl rfl (works17_any _ (hmw.up q)) ?_; rintro e Wj2927 ⟨rfl, bj2924⟩; refine ⟨_, rfl, ?_⟩)
    have zbj2924 := bj2924.size
    replace bj2293 := bj2293.trans (bj2924.mono bj2293.size)
    replace bj1402 := bj1402.trans (bj2924.mono bj1402.size)
    replace bj1169 := bj1169.trans (bj2924.mono bj1169.size)
    replace bj904 := bj904.trans (bj2924.mono bj904.size)
    replace bj701 := bj701.trans (bj2924.mono bj701.size)
    replace bj246 := bj246.trans (bj2924.mono bj246.size)
    replace q2 := q2.trans (bj2924.mono q2.size)
    replace q := q.trans (bj2924.mono q.size)
    replace q1 := q1.trans (bj2924.mono q1.size)
    replace rj907 := rj907.up bj2924
    replace rj1405 := rj1405.up bj2924
    refine LL.val (R.assign rfl rfl) rfl rfl rfl ?_
    refine LL.nilS ?_
    refine CC.ret ?_
    refine EE.thenR ?_
    refine EE.ret _ rfl rfl ?_
    exact ⟨rfl, q⟩
    refine LL.nilS ?_
    refine CC.no rfl ?_
    refine CC.skip ?_
    refine EE.thenN ?_
    refine CC.seq ?_
    refine CC.region ?_
    refine LL.val (R.move rfl rfl) rfl rfl rfl ?_
    refine LL.val (R.move rfl rfl) rfl rfl rfl ?_
    have lj3162 := rj907.lt
    have lj3163 := rj1405.lt
    (refine LL.call (R.call rfl rfl rfl) rfl rfl rfl (hg3 _ (hmw.up q) q1) ?_; rintro e Wj3161 ⟨rfl, bj3158⟩; refine ⟨_, rfl, ?_⟩)
    have zbj3158 := bj3158.size
    replace bj2293 := bj2293.trans (bj3158.mono bj2293.size)
    replace bj1402 := bj1402.trans (bj3158.mono bj1402.size)
    replace bj1169 := bj1169.trans (bj3158.mono bj1169.size)
    replace bj904 := bj904.trans (bj3158.mono bj904.size)
    replace bj701 := bj701.trans (bj3158.mono bj701.size)
    replace bj246 := bj246.trans (bj3158.mono bj246.size)
    replace q2 := q2.trans (bj3158.mono q2.size)
    replace q := q.trans (bj3158.mono q.size)
    replace q1 := q1.trans (bj3158.mono q1.size)
    replace rj907 := rj907.up bj3158
    replace rj1405 := rj1405.up bj3158
    refine LL.val (R.move rfl rfl) rfl rfl rfl ?_
    refine LL.val (R.extract rfl rfl rfl) rfl rfl rfl ?_
    refine LL.val (R.extract rfl rfl rfl) rfl rfl rfl ?_
    have lj3419 := rj907.lt
    have lj3420 := rj1405.lt
    refine LL.alloc ([Value.int IntKind.i64 0, Value.int IntKind.i64 0, Value.string { data := { toList := [] } }, Value.int IntKind.i64 0, Value.int IntKind.i64 0]) rfl rfl rfl rfl rfl ?_
    intro Wj3422 gj3423 egj3423 rj3424 zj3425 bj3421
    replace bj3158 := bj3158.trans (bj3421.mono bj3158.size)
    replace bj2293 := bj2293.trans (bj3421.mono bj2293.size)
    replace bj1402 := bj1402.trans (bj3421.mono bj1402.size)
    replace bj1169 := bj1169.trans (bj3421.mono bj1169.size)
    replace bj904 := bj904.trans (bj3421.mono bj904.size)
    replace bj701 := bj701.trans (bj3421.mono bj701.size)
    replace bj246 := bj246.trans (bj3421.mono bj246.size)
    replace q2 := q2.trans (bj3421.mono q2.size)
    replace q := q.trans (bj3421.mono q.size)
    replace q1 := q1.trans (bj3421.mono q1.size)
    replace rj907 := rj907.up bj3421
    replace rj1405 := rj1405.up bj3421
    refine LL.storeN (vs := [Value.int IntKind.i64 0, Value.int IntKind.i64 zd, strV zn, Value.int IntKind.i64 zi, Value.int IntKind.i64 2]) rfl rfl rfl rfl rj3424 (by exact Nat.le_of_ble_eq_true rfl) (ones_of rfl) rfl rfl ?_
    intro Wj3497 rj3498 bj3496 zj3499
    have hlbj3496 := rj3424.lt
    replace rj3498 : RowL Wj3497 _ 31 [Value.int IntKind.i64 0, Value.int IntKind.i64 zd, strV zn, Value.int IntKind.i64 zi, Value.int IntKind.i64 2] := rj3498
    clear rj3424
    replace bj3421 := bj3421.grown bj3496 bj3421.size (by rintro k ⟨⟩; omega)
    replace bj3158 := bj3158.grown bj3496 bj3158.size (by rintro k ⟨⟩; omega)
    replace bj2293 := bj2293.grown bj3496 bj2293.size (by rintro k ⟨⟩; omega)
    replace bj1402 := bj1402.grown bj3496 bj1402.size (by rintro k ⟨⟩; omega)
    replace bj1169 := bj1169.grown bj3496 bj1169.size (by rintro k ⟨⟩; omega)
    replace bj904 := bj904.grown bj3496 bj904.size (by rintro k ⟨⟩; omega)
    replace bj701 := bj701.grown bj3496 bj701.size (by rintro k ⟨⟩; omega)
    replace bj246 := bj246.grown bj3496 bj246.size (by rintro k ⟨⟩; omega)
    replace q2 := q2.grown bj3496 q2.size (by rintro k ⟨⟩; omega)
    replace q := q.grown bj3496 q.size (by rintro k ⟨⟩; omega)
    replace q1 := q1.grown bj3496 q1.size (by rintro k ⟨⟩; omega)
    replace rj907 := rj907.gr bj3496 (by have := rj907.lt; omega)
    replace rj1405 := rj1405.gr bj3496 (by have := rj1405.lt; omega)
    have rj3424 := rj3498
    clear rj3498
    refine LL.val (R.assign rfl rfl) rfl rfl rfl ?_
    refine LL.nilS ?_
    refine CC.seq ?_
    refine CC.seq ?_
    refine CC.region ?_
    refine LL.val (R.move rfl rfl) rfl rfl rfl ?_
    refine LL.val (R.neF rfl rfl rfl (by omega)) rfl rfl rfl ?_
    refine LL.nilS ?_
    refine CC.no rfl ?_
    refine CC.skip ?_
    refine EE.thenN ?_
    refine CC.seq ?_
    refine CC.seq ?_
    refine CC.region ?_
    refine LL.val (R.field rfl rfl (I.fld rfl)) rfl rfl rfl ?_
    refine LL.val (R.load rfl rfl (I.ld1 rfl (RowL.cell rj3424 rfl))) rfl rfl rfl ?_
    refine LL.call (R.call rfl rfl rfl) rfl rfl rfl (num17_any _ _) ?_
    rintro e W' ⟨rfl, rfl⟩
    refine ⟨_, rfl, ?_⟩
    refine LL.val (R.neF rfl rfl rfl (by omega)) rfl rfl rfl ?_
    refine LL.nilS ?_
    refine CC.no rfl ?_
    refine CC.skip ?_
    refine EE.thenN ?_
    refine CC.seq ?_
    refine CC.seq ?_
    refine CC.region ?_
    refine LL.val (R.field rfl rfl (I.fld rfl)) rfl rfl rfl ?_
    refine LL.val (R.load rfl rfl (I.ld1 rfl (RowL.cell rj3424 rfl))) rfl rfl rfl ?_
    refine LL.val (R.neF rfl rfl rfl (by omega)) rfl rfl rfl ?_
    refine LL.nilS ?_
    refine CC.no rfl ?_
    refine CC.skip ?_
    refine EE.thenN ?_
    refine CC.seq ?_
    refine CC.region ?_
    refine LL.val (R.move rfl rfl) rfl rfl rfl ?_
    refine LL.val (R.field rfl rfl (I.fld rfl)) rfl rfl rfl ?_
    refine LL.val (R.load rfl rfl (I.ld1 rfl (RowL.cell rj3424 rfl))) rfl rfl rfl ?_
    refine LL.val (R.move rfl rfl) rfl rfl rfl ?_
    have lj4534 := rj907.lt
    have lj4535 := rj1405.lt
    have lj4536 := rj3424.lt
    (refine LL.call (R.call rfl rfl rfl) rfl rfl rfl (hfa _ q1) ?_; rintro e Wj4533 ⟨rfl, bj4530⟩; refine ⟨_, rfl, ?_⟩)
    have zbj4530 := bj4530.size
    replace bj3421 := bj3421.trans (bj4530.mono bj3421.size)
    replace bj3158 := bj3158.trans (bj4530.mono bj3158.size)
    replace bj2293 := bj2293.trans (bj4530.mono bj2293.size)
    replace bj1402 := bj1402.trans (bj4530.mono bj1402.size)
    replace bj1169 := bj1169.trans (bj4530.mono bj1169.size)
    replace bj904 := bj904.trans (bj4530.mono bj904.size)
    replace bj701 := bj701.trans (bj4530.mono bj701.size)
    replace bj246 := bj246.trans (bj4530.mono bj246.size)
    replace q2 := q2.trans (bj4530.mono q2.size)
    replace q := q.trans (bj4530.mono q.size)
    replace q1 := q1.trans (bj4530.mono q1.size)
    replace rj907 := rj907.up bj4530
    replace rj1405 := rj1405.up bj4530
    replace rj3424 := rj3424.up bj4530
    refine LL.val (R.move rfl rfl) rfl rfl rfl ?_
    refine LL.val (R.extract rfl rfl rfl) rfl rfl rfl ?_
    refine LL.val (R.extract rfl rfl rfl) rfl rfl rfl ?_
    have lj4820 := rj907.lt
    have lj4821 := rj1405.lt
    have lj4822 := rj3424.lt
    refine LL.alloc ([Value.int IntKind.i64 0, Value.int IntKind.i64 0, Value.string { data := { toList := [] } }]) rfl rfl rfl rfl rfl ?_
    intro Wj4824 gj4825 egj4825 rj4826 zj4827 bj4823
    replace bj4530 := bj4530.trans (bj4823.mono bj4530.size)
    replace bj3421 := bj3421.trans (bj4823.mono bj3421.size)
    replace bj3158 := bj3158.trans (bj4823.mono bj3158.size)
    replace bj2293 := bj2293.trans (bj4823.mono bj2293.size)
    replace bj1402 := bj1402.trans (bj4823.mono bj1402.size)
    replace bj1169 := bj1169.trans (bj4823.mono bj1169.size)
    replace bj904 := bj904.trans (bj4823.mono bj904.size)
    replace bj701 := bj701.trans (bj4823.mono bj701.size)
    replace bj246 := bj246.trans (bj4823.mono bj246.size)
    replace q2 := q2.trans (bj4823.mono q2.size)
    replace q := q.trans (bj4823.mono q.size)
    replace q1 := q1.trans (bj4823.mono q1.size)
    replace rj907 := rj907.up bj4823
    replace rj1405 := rj1405.up bj4823
    replace rj3424 := rj3424.up bj4823
    refine LL.storeN (vs := [Value.int IntKind.i64 f.1, Value.int IntKind.i64 f.2.1, strV f.2.2]) rfl rfl rfl rfl rj4826 (by exact Nat.le_of_ble_eq_true rfl) (ones_of rfl) rfl rfl ?_
    intro Wj4906 rj4907 bj4905 zj4908
    have hlbj4905 := rj4826.lt
    replace rj4907 : RowL Wj4906 _ 38 [Value.int IntKind.i64 f.1, Value.int IntKind.i64 f.2.1, strV f.2.2] := rj4907
    clear rj4826
    replace bj4823 := bj4823.grown bj4905 bj4823.size (by rintro k ⟨⟩; omega)
    replace bj4530 := bj4530.grown bj4905 bj4530.size (by rintro k ⟨⟩; omega)
    replace bj3421 := bj3421.grown bj4905 bj3421.size (by rintro k ⟨⟩; omega)
    replace bj3158 := bj3158.grown bj4905 bj3158.size (by rintro k ⟨⟩; omega)
    replace bj2293 := bj2293.grown bj4905 bj2293.size (by rintro k ⟨⟩; omega)
    replace bj1402 := bj1402.grown bj4905 bj1402.size (by rintro k ⟨⟩; omega)
    replace bj1169 := bj1169.grown bj4905 bj1169.size (by rintro k ⟨⟩; omega)
    replace bj904 := bj904.grown bj4905 bj904.size (by rintro k ⟨⟩; omega)
    replace bj701 := bj701.grown bj4905 bj701.size (by rintro k ⟨⟩; omega)
    replace bj246 := bj246.grown bj4905 bj246.size (by rintro k ⟨⟩; omega)
    replace q2 := q2.grown bj4905 q2.size (by rintro k ⟨⟩; omega)
    replace q := q.grown bj4905 q.size (by rintro k ⟨⟩; omega)
    replace q1 := q1.grown bj4905 q1.size (by rintro k ⟨⟩; omega)
    replace rj907 := rj907.gr bj4905 (by have := rj907.lt; omega)
    replace rj1405 := rj1405.gr bj4905 (by have := rj1405.lt; omega)
    replace rj3424 := rj3424.gr bj4905 (by have := rj3424.lt; omega)
    have rj4826 := rj4907
    clear rj4907
    refine LL.val (R.assign rfl rfl) rfl rfl rfl ?_
    refine LL.nilS ?_
    refine CC.seq ?_
    refine CC.seq ?_
    refine CC.region ?_
    refine LL.val (R.move rfl rfl) rfl rfl rfl ?_
    refine LL.val (R.not rfl rfl) rfl rfl rfl ?_
    refine LL.nilS ?_
    refine CC.no rfl ?_
    refine CC.skip ?_
    refine EE.thenN ?_
    refine CC.seq ?_
    refine CC.region ?_
    refine LL.val (R.load rfl rfl (I.ldNc (vs := [Value.int IntKind.i64 0, Value.int IntKind.i64 zi, strV nm, Value.int IntKind.i64 f.1, Value.int IntKind.i64 f.2.1]) (RowL.cells rj907 rfl) (by rfl) (by rfl))) rfl rfl rfl ?_
    refine LL.val (R.field rfl rfl (I.fld rfl)) rfl rfl rfl ?_
    refine LL.val (R.load rfl rfl (I.ld1 rfl (RowL.cell rj3424 rfl))) rfl rfl rfl ?_
    refine LL.val (R.move rfl rfl) rfl rfl rfl ?_
    refine LL.val (R.field rfl rfl (I.fld rfl)) rfl rfl rfl ?_
    refine LL.val (R.load rfl rfl (I.ld1 rfl (RowL.cell rj4826 rfl))) rfl rfl rfl ?_
    refine LL.val (R.field rfl rfl (I.fld rfl)) rfl rfl rfl ?_
    refine LL.val (R.load rfl rfl (I.ld1 rfl (RowL.cell rj4826 rfl))) rfl rfl rfl ?_
    refine LL.val (R.buildV rfl rfl (v := .agg #[Value.int IntKind.i64 0, Value.int IntKind.i64 zi, Value.string { data := List.toArray nm }, Value.int IntKind.i64 f.1, Value.int IntKind.i64 f.2.1]) (fun _ => by kernel_rfl)) rfl rfl rfl ?_
    (refine LL.val (R.eqST (p := True) rfl rfl rfl rfl (by kernel_rfl) rfl (by simp) trivial) rfl rfl rfl ?_)
    refine LL.val (R.move rfl rfl) rfl rfl rfl ?_
    have lj6046 := rj907.lt
    have lj6047 := rj1405.lt
    have lj6048 := rj3424.lt
    have lj6049 := rj4826.lt
    (refine LL.call (R.call rfl rfl rfl) rfl rfl rfl (works17_any _ (hmw.up q)) ?_; rintro e Wj6045 ⟨rfl, bj6042⟩; refine ⟨_, rfl, ?_⟩)
    have zbj6042 := bj6042.size
    replace bj4823 := bj4823.trans (bj6042.mono bj4823.size)
    replace bj4530 := bj4530.trans (bj6042.mono bj4530.size)
    replace bj3421 := bj3421.trans (bj6042.mono bj3421.size)
    replace bj3158 := bj3158.trans (bj6042.mono bj3158.size)
    replace bj2293 := bj2293.trans (bj6042.mono bj2293.size)
    replace bj1402 := bj1402.trans (bj6042.mono bj1402.size)
    replace bj1169 := bj1169.trans (bj6042.mono bj1169.size)
    replace bj904 := bj904.trans (bj6042.mono bj904.size)
    replace bj701 := bj701.trans (bj6042.mono bj701.size)
    replace bj246 := bj246.trans (bj6042.mono bj246.size)
    replace q2 := q2.trans (bj6042.mono q2.size)
    replace q := q.trans (bj6042.mono q.size)
    replace q1 := q1.trans (bj6042.mono q1.size)
    replace rj907 := rj907.up bj6042
    replace rj1405 := rj1405.up bj6042
    replace rj3424 := rj3424.up bj6042
    replace rj4826 := rj4826.up bj6042
    refine LL.val (R.pick rfl rfl rfl) rfl rfl rfl ?_
    refine LL.val (R.assign rfl rfl) rfl rfl rfl ?_
    refine LL.nilS ?_
    refine CC.ret ?_
    refine EE.ret _ rfl rfl ?_
    exact ⟨rfl, q⟩
theorem holds_shell (a0 : ByteArray) (v : Value) (gs : List (Nat → ZBS)) (w : World) (hm : Mx w) (hv : ReadsT plE 5 w v (gs.map plOf)) (h0 : a0.size ≤ maxLen) : Calls Tryd.prog 7 #[.string a0, v] w fun e w' => e = .returned (.bool true) ∧ Below w.heap.size w w' := by
  rw [bs_data a0]
  have hp : a0.data.toList.length ≤ 9223372036854775807 := by
    rw [Array.length_toList]
    exact h0
  exact holds_walk a0.data.toList v _ w hm hv hp
end Go.Proofs.YtbbddpnjglijdaaDoor
/- The statements' num, works. -/
namespace Go.Proofs.YtbbddpnjglijdaaDoor
set_option linter.unusedVariables false
set_option linter.unusedSimpArgs false
open Go.RowKit Go.Shelf
set_option maxRecDepth 100000
set_option maxHeartbeats 8000000

end Go.Proofs.YtbbddpnjglijdaaDoor
/- The walks of NamesChecks, NamesUnder, NamesShorts. -/
namespace Go.Proofs.YtbbddpnjglijdaaDoor
set_option linter.unusedVariables false
set_option linter.unusedSimpArgs false
open Go.RowKit Go.Shelf
set_option maxRecDepth 100000
set_option maxHeartbeats 8000000

end Go.Proofs.YtbbddpnjglijdaaDoor
/- What the package's variables hold when the call begins. -/
namespace Go.Proofs.YtbbddpnjglijdaaDoor
set_option linter.unusedVariables false
set_option linter.unusedSimpArgs false
open Go.ChangeShapes Go.WideShapes Go.ChangeAt Go.WideMaps Go.WideElems Go.RowKit

def laidHere : List (String × DataW Unit) := [("unicode/utf8.acceptRanges", Rows.laid_unicode_utf8_acceptRanges), ("unicode/utf8.first", Rows.laid_unicode_utf8_first)]
theorem mx_of {W : World} (h : W.ShapedOpen Tryd.prog) : Mx W := by
  have hg : ∃ m, W.cell? ⟨0, 0, none⟩ = some (.int .i64 m) := Go.Proofs.cell_of_shapedOpen_int (zero := #[.int .i64 0]) (t := 3) h (of_decide_eq_true (by kernel_rfl)) (by kernel_rfl) rfl (by kernel_rfl) (by kernel_rfl) Tryd.underlying3
  obtain ⟨m, hm⟩ := hg
  obtain ⟨o, ho, _⟩ := cells_of_cell hm
  exact ⟨⟨m, hm⟩, (Array.getElem?_eq_some_iff.1 ho).1⟩
variable {H : Type} {enc : TypeId × Value → H}
/-- The wrap with the variables' datum and the world's shape. -/
theorem handed_laid_shaped {a : Assume} {C : Checked} {os : Os} {f : FuncId} {fn : Func} {s : ChangeSpec} {conds : List PathCond} {apart fresh handsOn again : Bool} {X : World → Array Value → Prop}
    (own : ownKnob C.prog.godebug = none) (started : os.Started) (noInit : C.prog.inits.idxOf? f = none) (hfn : C.prog.funcs[f]? = some fn)
    (witness : ∃ (w : World) (tape : Tape) (i : Input), w.os = os ∧ (w.forCall tape i).Shaped C.prog ∧ i.vars = [] ∧ Input.okWide C.prog (w.forCall tape i) .any w.heap.size f i ∧
      ((s.pre enc C.prog fn conds apart (w.forCall tape i).memory i.args ∧ X (w.forCall tape i).memory i.args) ∧ sizedMet enc C.prog fn (OpenSpec.ofChange s) apart (w.forCall tape i).memory i.args) ∧ a.holds C.prog (lone (Frame.enter C.prog f i.args .normal) [] (w.forCall tape i)))
    (contract : ∀ (W : World) (base : Nat) (args : Array Value) (ds gs : List (DataW H)) (before : List MemPlace),
      (∀ (j : Nat) t v, fn.params[j]? = some t → args[j]? = some v → Value.okWide C.prog W .any base t v) →
      DataW.Whole enc C.prog fn.params.toList s.vars apart W args.toList ds gs before →
      W.ShapedOpen C.prog →
      Calls C.prog f args W fun e W' => ∃ v, e = .returned v ∧ s.post enc C.prog fn apart fresh handsOn again W args v W') :
    ReturnsInHanded a C os f .any (fun w args => (s.pre enc C.prog fn conds apart w args ∧ X w args) ∧ sizedMet enc C.prog fn (OpenSpec.ofChange s) apart w args) (s.post enc C.prog fn apart fresh handsOn again) := by
  refine returnsInHanded_of_calls own started noInit witness ?_
  intro w tape i _ hsh _ hok hpre _
  obtain ⟨_, _, _, fn', hfn', _, _, _, _, hval⟩ := hok
  obtain rfl : fn' = fn := Option.some.inj (hfn'.symm.trans hfn)
  obtain ⟨⟨⟨ds, gs, before, hw, _⟩, _⟩, _⟩ := hpre
  refine (contract (w.forCall tape i) w.heap.size i.args ds gs before hval (DataW.Whole.of_heap (w' := w.forCall tape i) (by rfl) hw) hsh).mono fun e W' ⟨v, he, hp⟩ => ?_
  subst he
  exact ChangeSpec.post_blind hp
end Go.Proofs.YtbbddpnjglijdaaDoor
