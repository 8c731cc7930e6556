/- What the statements' walks use: In11, In12, In13, In14, WEq, In15, In16, In17, SameW, Open, OpenI, OpenT, OpenR, OpenN, Door. -/
import Derived.Test.YtnoefalgmekjbaaDoorProg
import Derived.Test.YtnoefalgmekjbaaDoorRows
import Derived.ProofKit
import Derived.OpenShut
import Derived.ShutString
import Derived.ChangeOld
import Derived.ChangeSame
import Derived.Deep.Slices
import Derived.LaidMore
import Derived.Stop.Joined
import Derived.Lib.LaidTab
import Derived.Test.YtnoefalgmekjbaaDoorMsa
import Derived.Test.YtnoefalgmekjbaaDoorMsb
import Derived.Test.YtnoefalgmekjbaaDoorMsc
/- inode: the words of an inode that may be (written by gen11.py). -/
namespace Go.Proofs.YtnoefalgmekjbaaDoor
set_option linter.unusedVariables false
set_option linter.unusedSimpArgs false
open Go.RowKit Go.Shelf
set_option maxRecDepth 100000
set_option maxHeartbeats 8000000
theorem Tryd.infoU14 : (Tryd.prog.info? 41).map (fun i => (i.zero, i.size, i.bytes)) = some (some (.int .u64 0), 1, 8) := by kernel_rfl
theorem ElU14 : ElT Tryd.prog 28 41 (.int .u64 0) 1 8 := info_parts_t Tryd.underlying28 Tryd.infoU14 rfl
theorem or_add8 {k y : Nat} (h : k < 256) : k ||| 256 * y = k + 256 * y := by
  rw [Nat.or_comm, show 256 * y = 2 ^ 8 * y from rfl, ← Nat.two_pow_add_eq_or_of_lt (show k < 2 ^ 8 from h), Nat.add_comm]
/-- The first word, and noughts. -/
def hdN (k l : Nat) : List Nat := (k + 256 * l) :: List.replicate 15 0
abbrev KW (w : World) (go : Nat) (i : Nat) : Prop := i < w.heap.size ∧ i ≠ go
def wordsP (go : Nat) (ws : List Nat) (w0 : World) (e : Ending) (w : World) : Prop := e = .returned (.tuple #[]) ∧ (∃ gw, RowL w go 28 [.slice (some ⟨gw, 0, none⟩) 16 16] ∧ RowL w gw 41 (ints .u64 ws) ∧ w0.heap.size ≤ gw) ∧ Kept (KW w0 go) w0 w
theorem words1_1 (l z : Nat) (x : Option Addr) (n c : Nat) (m : List Ex) (go gn : Nat) (v0 : Value) (w : World) (hS : Start w) (hv : ReadsT eE 3 w (.slice x n c) m) (hlen : m.length ≤ 1048576) (hl : l ≤ 65535) (h : okF (z : Int) m) (hn : RowL w gn 25 (inL 1 (l : Int) (z : Int) (.slice x n c) 0 0 [])) (ho : RowL w go 28 [v0]) (hne : go ≠ gn ∧ 0 < go) : Calls Tryd.prog 28 #[.pointer (some ⟨gn, 0, none⟩), .pointer (some ⟨go, 0, none⟩)] w (wordsP go (layF (hdN 1 l) z m) w) := by
  unfold wordsP
  have hkk := Kept.refl (KW w go) w
  have lgn := hn.lt
  have lgo := ho.lt
  have hS0 := hS.pos
  have hvF : ∀ X, Below w.heap.size w X → ReadsT eE 3 X (.slice x n c) m := fun X b => hv.up b
  have hSF : ∀ X, Below w.heap.size w X → Start X := fun X b => hS.up b
  have q := Below.refl w.heap.size w
  clear hv hS
  refine X.fn Tryd.func28 rfl (n := 25) rfl rfl ?_
  refine CC.seq ?_
  refine CC.region ?_
  refine LL.val (R.load rfl rfl (I.ldNc (vs := [Value.int IntKind.i64 1, Value.int IntKind.i64 ↑l, Value.int IntKind.i64 ↑z, Value.slice x n c, Value.int IntKind.i64 0, Value.int IntKind.i64 0, strV []]) (RowL.cells hn rfl) (by rfl) (by rfl))) rfl rfl rfl ?_
  have l30 := hn.lt
  have l31 := ho.lt
  (refine LL.call (R.call rfl rfl rfl) rfl rfl rfl (check1_T _ _ _ _ _ m _ (hvF _ q) (by omega) h) ?_; rintro e W29 ⟨rfl, b26⟩; refine ⟨_, rfl, ?_⟩)
  have zb26 := b26.size
  replace hn := hn.up b26
  replace ho := ho.up b26
  replace hkk := hkk.trans (bkept b26 (fun j h => by have := h.1; have := hkk.size; omega))
  have y35 := hkk.size
  replace q := q.trans (b26.mono q.size)
  have l61 := hn.lt
  have l62 := ho.lt
  refine LL.alloc ([Value.nilFunc, Value.nilFunc, Value.nilFunc, Value.nilFunc]) rfl rfl rfl rfl rfl ?_
  intro W64 g65 eg65 r66 z67 b63
  replace b26 := b26.trans (b63.mono b26.size)
  replace hn := hn.up b63
  replace ho := ho.up b63
  replace hkk := hkk.trans (bkept b63 (fun j h => by have := h.1; have := hkk.size; omega))
  have y68 := hkk.size
  replace q := q.trans (b63.mono q.size)
  refine LL.storeN (vs := [fnV kd1.1, fnV kd1.2.1, fnV kd1.2.2.1, fnV kd1.2.2.2]) rfl rfl rfl rfl r66 (by exact Nat.le_of_ble_eq_true rfl) (ones_of rfl) rfl rfl ?_
  intro W97 r98 b96 z99
  have hlb96 := r66.lt
  replace r98 : RowL W97 _ 68 [fnV kd1.1, fnV kd1.2.1, fnV kd1.2.2.1, fnV kd1.2.2.2] := r98
  clear r66
  replace b63 := b63.grown b96 b63.size (by rintro k ⟨⟩; omega)
  replace b26 := b26.grown b96 b26.size (by rintro k ⟨⟩; omega)
  replace hn := hn.gr b96 (by have := hn.lt; omega)
  replace ho := ho.gr b96 (by have := ho.lt; omega)
  replace hkk := hkk.trans (grown_kept b96 (fun j h => by have := h.1; have := hkk.size; omega) (fun j h e => by cases e; have h2 := h.1; have h3 := h.2; omega))
  replace q := q.grown b96 q.size (by rintro k ⟨⟩; omega)
  have r66 := r98
  clear r98
  refine LL.nilS ?_
  refine CC.seq ?_
  refine CC.region ?_
  have l114 := hn.lt
  have l115 := ho.lt
  have l116 := r66.lt
  (refine LL.makeE (l := 16) (m := 16) ElU14 rfl (by decide) rfl rfl rfl (Nat.le_refl _) (by decide) (by decide) rfl rfl ?_; intro W113 g1 eg1 r1 zg1 b110; replace r1 : RowL W113 g1 41 (ints .u64 (List.replicate 16 0)) := r1)
  have zb110 := b110.size
  replace b63 := b63.trans (b110.mono b63.size)
  replace b26 := b26.trans (b110.mono b26.size)
  replace hn := hn.up b110
  replace ho := ho.up b110
  replace hkk := hkk.trans (bkept b110 (fun j h => by have := h.1; have := hkk.size; omega))
  have y120 := hkk.size
  replace q := q.trans (b110.mono q.size)
  replace r66 := r66.up b110
  have l150 := r1.lt
  have l151 := hn.lt
  have l152 := ho.lt
  have l153 := r66.lt
  refine LL.alloc ([Value.slice none 0 0]) rfl rfl rfl rfl rfl ?_
  intro W155 g156 eg156 r157 z158 b154
  replace b110 := b110.trans (b154.mono b110.size)
  replace r1 := r1.up b154
  replace b63 := b63.trans (b154.mono b63.size)
  replace b26 := b26.trans (b154.mono b26.size)
  replace hn := hn.up b154
  replace ho := ho.up b154
  replace hkk := hkk.trans (bkept b154 (fun j h => by have := h.1; have := hkk.size; omega))
  have y159 := hkk.size
  replace q := q.trans (b154.mono q.size)
  replace r66 := r66.up b154
  refine LL.store rfl rfl rfl rfl r157 (by exact Nat.le_of_ble_eq_true rfl) rfl rfl rfl rfl ?_
  intro W192 r193 b191 z194
  have hlb191 := r157.lt
  replace r193 : RowL W192 _ 28 [Value.slice (some { block := g1, off := 0 }) 16 16] := r193
  clear r157
  replace b154 := b154.grown b191 b154.size (by rintro k ⟨⟩; omega)
  replace b110 := b110.grown b191 b110.size (by rintro k ⟨⟩; omega)
  replace r1 := r1.gr b191 (by have := r1.lt; omega)
  replace b63 := b63.grown b191 b63.size (by rintro k ⟨⟩; omega)
  replace b26 := b26.grown b191 b26.size (by rintro k ⟨⟩; omega)
  replace hn := hn.gr b191 (by have := hn.lt; omega)
  replace ho := ho.gr b191 (by have := ho.lt; omega)
  replace hkk := hkk.trans (grown_kept b191 (fun j h => by have := h.1; have := hkk.size; omega) (fun j h e => by cases e; have h2 := h.1; have h3 := h.2; omega))
  replace q := q.grown b191 q.size (by rintro k ⟨⟩; omega)
  replace r66 := r66.gr b191 (by have := r66.lt; omega)
  have r157 := r193
  clear r193
  refine LL.nilS ?_
  refine CC.seq ?_
  refine CC.region ?_
  refine LL.val (R.load rfl rfl (I.ld1 rfl (RowL.cell r157 rfl))) rfl rfl rfl ?_
  refine LL.val (R.field rfl rfl (I.fld rfl)) rfl rfl rfl ?_
  refine LL.val (R.load rfl rfl (I.ld1 rfl (RowL.cell hn rfl))) rfl rfl rfl ?_
  refine LL.val (R.convI rfl rfl rfl rfl (wrapU (by omega) (by omega))) rfl rfl rfl ?_
  refine LL.val (R.field rfl rfl (I.fld rfl)) rfl rfl rfl ?_
  refine LL.val (R.load rfl rfl (I.ld1 rfl (RowL.cell hn rfl))) rfl rfl rfl ?_
  refine LL.val (R.convI rfl rfl rfl rfl (wrapU (by omega) (by omega))) rfl rfl rfl ?_
  refine LL.val (R.shlE (b := 8) (z := 256 * l) rfl rfl rfl (by decide) (by omega) (by omega)) rfl rfl rfl ?_
  refine LL.val (R.orE (a := 1) (b := 256 * l) (z := 1 + 256 * l) rfl rfl rfl (by decide) (by omega) (or_add8 (by decide))) rfl rfl rfl ?_
  refine LL.val (R.index rfl rfl rfl (I.ixS1c rfl rfl (by omega))) rfl rfl rfl ?_
  refine LL.store rfl rfl rfl rfl r1 (by exact Nat.le_of_ble_eq_true rfl) rfl rfl rfl rfl ?_
  intro W499 r500 b498 z501
  have hlb498 := r1.lt
  replace r500 : RowL W499 _ 41 [Value.int IntKind.u64 ↑(1 + 256 * l), (fun n => Value.int IntKind.u64 ↑n) 0, (fun n => Value.int IntKind.u64 ↑n) 0, (fun n => Value.int IntKind.u64 ↑n) 0, (fun n => Value.int IntKind.u64 ↑n) 0, (fun n => Value.int IntKind.u64 ↑n) 0, (fun n => Value.int IntKind.u64 ↑n) 0, (fun n => Value.int IntKind.u64 ↑n) 0, (fun n => Value.int IntKind.u64 ↑n) 0, (fun n => Value.int IntKind.u64 ↑n) 0, (fun n => Value.int IntKind.u64 ↑n) 0, (fun n => Value.int IntKind.u64 ↑n) 0, (fun n => Value.int IntKind.u64 ↑n) 0, (fun n => Value.int IntKind.u64 ↑n) 0, (fun n => Value.int IntKind.u64 ↑n) 0, (fun n => Value.int IntKind.u64 ↑n) 0] := r500
  clear r1
  replace b110 := b110.grown b498 b110.size (by rintro k ⟨⟩; omega)
  replace b63 := b63.grown b498 b63.size (by rintro k ⟨⟩; omega)
  replace b26 := b26.grown b498 b26.size (by rintro k ⟨⟩; omega)
  replace hn := hn.gr b498 (by have := hn.lt; omega)
  replace ho := ho.gr b498 (by have := ho.lt; omega)
  replace hkk := hkk.trans (grown_kept b498 (fun j h => by have := h.1; have := hkk.size; omega) (fun j h e => by cases e; have h2 := h.1; have h3 := h.2; omega))
  replace q := q.grown b498 q.size (by rintro k ⟨⟩; omega)
  replace r66 := r66.gr b498 (by have := r66.lt; omega)
  replace r157 := r157.gr b498 (by have := r157.lt; omega)
  have r1 := r500
  clear r500
  refine LL.nilS ?_
  refine CC.seq ?_
  refine CC.region ?_
  have l533 := hn.lt
  have l534 := ho.lt
  have l535 := r66.lt
  have l536 := r157.lt
  have l537 := r1.lt
  refine LL.alloc ([Value.int IntKind.i64 0]) rfl rfl rfl rfl rfl ?_
  intro W539 g540 eg540 r541 z542 b538
  replace b110 := b110.trans (b538.mono b110.size)
  replace b63 := b63.trans (b538.mono b63.size)
  replace b26 := b26.trans (b538.mono b26.size)
  replace hn := hn.up b538
  replace ho := ho.up b538
  replace hkk := hkk.trans (bkept b538 (fun j h => by have := h.1; have := hkk.size; omega))
  have y543 := hkk.size
  replace q := q.trans (b538.mono q.size)
  replace r66 := r66.up b538
  replace r157 := r157.up b538
  replace r1 := r1.up b538
  refine LL.store rfl rfl rfl rfl r541 (by exact Nat.le_of_ble_eq_true rfl) rfl rfl rfl rfl ?_
  intro W578 r579 b577 z580
  have hlb577 := r541.lt
  replace r579 : RowL W578 _ 3 [Value.int IntKind.i64 1] := r579
  clear r541
  replace b538 := b538.grown b577 b538.size (by rintro k ⟨⟩; omega)
  replace b110 := b110.grown b577 b110.size (by rintro k ⟨⟩; omega)
  replace b63 := b63.grown b577 b63.size (by rintro k ⟨⟩; omega)
  replace b26 := b26.grown b577 b26.size (by rintro k ⟨⟩; omega)
  replace hn := hn.gr b577 (by have := hn.lt; omega)
  replace ho := ho.gr b577 (by have := ho.lt; omega)
  replace hkk := hkk.trans (grown_kept b577 (fun j h => by have := h.1; have := hkk.size; omega) (fun j h e => by cases e; have h2 := h.1; have h3 := h.2; omega))
  replace q := q.grown b577 q.size (by rintro k ⟨⟩; omega)
  replace r66 := r66.gr b577 (by have := r66.lt; omega)
  replace r157 := r157.gr b577 (by have := r157.lt; omega)
  replace r1 := r1.gr b577 (by have := r1.lt; omega)
  have r541 := r579
  clear r579
  refine LL.nilS ?_
  refine CC.seq ?_
  refine CC.region ?_
  refine LL.val (R.field rfl rfl (I.fld rfl)) rfl rfl rfl ?_
  refine LL.val (R.load rfl rfl (I.ld1 rfl (RowL.cell r66 rfl))) rfl rfl rfl ?_
  refine LL.val (R.load rfl rfl (I.ldNc (vs := [Value.int IntKind.i64 1, Value.int IntKind.i64 ↑l, Value.int IntKind.i64 ↑z, Value.slice x n c, Value.int IntKind.i64 0, Value.int IntKind.i64 0, strV []]) (RowL.cells hn rfl) (by rfl) (by rfl))) rfl rfl rfl ?_
  refine LL.val (R.buildV rfl rfl (v := .agg #[Value.int IntKind.i64 1, Value.int IntKind.i64 ↑l, Value.int IntKind.i64 ↑z, Value.slice x n c, Value.int IntKind.i64 0, Value.int IntKind.i64 0, strV []]) (fun _ => by kernel_rfl)) rfl rfl rfl ?_
  refine LL.val (R.func rfl rfl rfl) rfl rfl rfl ?_
  (refine LL.call (R.callV rfl rfl rfl rfl) rfl rfl rfl (ly1_any 1 l z x n c 0 0 [] m _ g1 _ (hdN 1 l) _ (hSF _ q) ⟨by omega, by omega⟩ (hvF _ q) h.2.1 (by have := h.1; omega) ⟨by assumption, by assumption, (show RowL _ g1 41 (ints .u64 (hdN 1 l)) from by assumption), rfl, by omega, by omega, by omega⟩) ?_; rintro e W775 ⟨rfl, ⟨at8, O8⟩, t774⟩; refine ⟨_, rfl, ?_⟩; clear r1; replace hkk := hkk.trans (t774.less fun j hj => ⟨by have := hj.1; omega, by have := hj.1; omega, by have := hj.1; omega⟩); have rv8 := O8.rv; have rw8 := O8.rw_; clear O8)
  have zt774 := t774.size
  replace b110 := t774.onB b110 (fun j hj => ⟨by have := b110.size; omega, by omega⟩)
  replace b63 := t774.onB b63 (fun j hj => ⟨by have := b63.size; omega, by omega⟩)
  replace b26 := t774.onB b26 (fun j hj => ⟨by have := b26.size; omega, by omega⟩)
  replace hn := hn.kept t774 ⟨hn.lt, by omega⟩
  replace ho := ho.kept t774 ⟨ho.lt, by omega⟩
  replace q := t774.onB q (fun j hj => ⟨by have := q.size; omega, by omega⟩)
  replace r66 := r66.kept t774 ⟨r66.lt, by omega⟩
  replace r157 := r157.kept t774 ⟨r157.lt, by omega⟩
  refine LL.nilS ?_
  refine CC.region ?_
  refine LL.val (R.load rfl rfl (I.ld1 rfl (RowL.cell r157 rfl))) rfl rfl rfl ?_
  refine LL.store rfl rfl rfl rfl ho (by exact Nat.le_of_ble_eq_true rfl) rfl rfl rfl rfl ?_
  intro W846 r847 b845 z848
  have hlb845 := ho.lt
  replace r847 : RowL W846 _ 28 [Value.slice (some { block := g1, off := 0 }) 16 16] := r847
  clear ho
  replace hkk := hkk.trans (grown_kept b845 (fun j h => by have := h.1; have := hkk.size; omega) (fun j h e => by cases e; have h2 := h.1; have h3 := h.2; omega))
  replace rv8 := rv8.gr b845 (by have := rv8.lt; omega)
  replace rw8 := rw8.gr b845 (by have := rw8.lt; omega)
  replace hn := hn.gr b845 (by have := hn.lt; omega)
  replace r66 := r66.gr b845 (by have := r66.lt; omega)
  replace r157 := r157.gr b845 (by have := r157.lt; omega)
  have ho := r847
  clear r847
  refine LL.nil ?_
  refine EE.end _ rfl rfl ?_
  exact ⟨rfl, ⟨g1, by assumption, by assumption, by omega⟩, hkk⟩
theorem words1_2 (l r p : Nat) (x : Option Addr) (n c : Nat) (m : List Ex) (go gn : Nat) (v0 : Value) (w : World) (hS : Start w) (hv : ReadsT eE 3 w (.slice x n c) m) (hlen : m.length ≤ 1048576) (hm0 : m = []) (hl : l ≤ 65535) (h : (1 ≤ r ∧ r ≤ 2047) ∧ 1 ≤ p ∧ p ≤ 256) (hn : RowL w gn 25 (inL 2 (l : Int) 0 (.slice x n c) (r : Int) (p : Int) [])) (ho : RowL w go 28 [v0]) (hne : go ≠ gn ∧ 0 < go) : Calls Tryd.prog 28 #[.pointer (some ⟨gn, 0, none⟩), .pointer (some ⟨go, 0, none⟩)] w (wordsP go (layD (hdN 2 l) r p) w) := by
  unfold wordsP
  have hkk := Kept.refl (KW w go) w
  have lgn := hn.lt
  have lgo := ho.lt
  have hS0 := hS.pos
  have hvF : ∀ X, Below w.heap.size w X → ReadsT eE 3 X (.slice x n c) m := fun X b => hv.up b
  have hSF : ∀ X, Below w.heap.size w X → Start X := fun X b => hS.up b
  have q := Below.refl w.heap.size w
  clear hv hS
  refine X.fn Tryd.func28 rfl (n := 25) rfl rfl ?_
  refine CC.seq ?_
  refine CC.region ?_
  refine LL.val (R.load rfl rfl (I.ldNc (vs := [Value.int IntKind.i64 2, Value.int IntKind.i64 ↑l, Value.int IntKind.i64 0, Value.slice x n c, Value.int IntKind.i64 ↑r, Value.int IntKind.i64 ↑p, strV []]) (RowL.cells hn rfl) (by rfl) (by rfl))) rfl rfl rfl ?_
  have l30 := hn.lt
  have l31 := ho.lt
  (refine LL.call (R.call rfl rfl rfl) rfl rfl rfl (check2_T l r p x n c m _ (hvF _ q) hlen hm0 (by omega) (by omega)) ?_; rintro e W29 ⟨rfl, b26⟩; refine ⟨_, rfl, ?_⟩)
  have zb26 := b26.size
  replace hn := hn.up b26
  replace ho := ho.up b26
  replace hkk := hkk.trans (bkept b26 (fun j h => by have := h.1; have := hkk.size; omega))
  have y35 := hkk.size
  replace q := q.trans (b26.mono q.size)
  have l61 := hn.lt
  have l62 := ho.lt
  refine LL.alloc ([Value.nilFunc, Value.nilFunc, Value.nilFunc, Value.nilFunc]) rfl rfl rfl rfl rfl ?_
  intro W64 g65 eg65 r66 z67 b63
  replace b26 := b26.trans (b63.mono b26.size)
  replace hn := hn.up b63
  replace ho := ho.up b63
  replace hkk := hkk.trans (bkept b63 (fun j h => by have := h.1; have := hkk.size; omega))
  have y68 := hkk.size
  replace q := q.trans (b63.mono q.size)
  refine LL.storeN (vs := [fnV kd2.1, fnV kd2.2.1, fnV kd2.2.2.1, fnV kd2.2.2.2]) rfl rfl rfl rfl r66 (by exact Nat.le_of_ble_eq_true rfl) (ones_of rfl) rfl rfl ?_
  intro W97 r98 b96 z99
  have hlb96 := r66.lt
  replace r98 : RowL W97 _ 68 [fnV kd2.1, fnV kd2.2.1, fnV kd2.2.2.1, fnV kd2.2.2.2] := r98
  clear r66
  replace b63 := b63.grown b96 b63.size (by rintro k ⟨⟩; omega)
  replace b26 := b26.grown b96 b26.size (by rintro k ⟨⟩; omega)
  replace hn := hn.gr b96 (by have := hn.lt; omega)
  replace ho := ho.gr b96 (by have := ho.lt; omega)
  replace hkk := hkk.trans (grown_kept b96 (fun j h => by have := h.1; have := hkk.size; omega) (fun j h e => by cases e; have h2 := h.1; have h3 := h.2; omega))
  replace q := q.grown b96 q.size (by rintro k ⟨⟩; omega)
  have r66 := r98
  clear r98
  refine LL.nilS ?_
  refine CC.seq ?_
  refine CC.region ?_
  have l114 := hn.lt
  have l115 := ho.lt
  have l116 := r66.lt
  (refine LL.makeE (l := 16) (m := 16) ElU14 rfl (by decide) rfl rfl rfl (Nat.le_refl _) (by decide) (by decide) rfl rfl ?_; intro W113 g1 eg1 r1 zg1 b110; replace r1 : RowL W113 g1 41 (ints .u64 (List.replicate 16 0)) := r1)
  have zb110 := b110.size
  replace b63 := b63.trans (b110.mono b63.size)
  replace b26 := b26.trans (b110.mono b26.size)
  replace hn := hn.up b110
  replace ho := ho.up b110
  replace hkk := hkk.trans (bkept b110 (fun j h => by have := h.1; have := hkk.size; omega))
  have y120 := hkk.size
  replace q := q.trans (b110.mono q.size)
  replace r66 := r66.up b110
  have l150 := r1.lt
  have l151 := hn.lt
  have l152 := ho.lt
  have l153 := r66.lt
  refine LL.alloc ([Value.slice none 0 0]) rfl rfl rfl rfl rfl ?_
  intro W155 g156 eg156 r157 z158 b154
  replace b110 := b110.trans (b154.mono b110.size)
  replace r1 := r1.up b154
  replace b63 := b63.trans (b154.mono b63.size)
  replace b26 := b26.trans (b154.mono b26.size)
  replace hn := hn.up b154
  replace ho := ho.up b154
  replace hkk := hkk.trans (bkept b154 (fun j h => by have := h.1; have := hkk.size; omega))
  have y159 := hkk.size
  replace q := q.trans (b154.mono q.size)
  replace r66 := r66.up b154
  refine LL.store rfl rfl rfl rfl r157 (by exact Nat.le_of_ble_eq_true rfl) rfl rfl rfl rfl ?_
  intro W192 r193 b191 z194
  have hlb191 := r157.lt
  replace r193 : RowL W192 _ 28 [Value.slice (some { block := g1, off := 0 }) 16 16] := r193
  clear r157
  replace b154 := b154.grown b191 b154.size (by rintro k ⟨⟩; omega)
  replace b110 := b110.grown b191 b110.size (by rintro k ⟨⟩; omega)
  replace r1 := r1.gr b191 (by have := r1.lt; omega)
  replace b63 := b63.grown b191 b63.size (by rintro k ⟨⟩; omega)
  replace b26 := b26.grown b191 b26.size (by rintro k ⟨⟩; omega)
  replace hn := hn.gr b191 (by have := hn.lt; omega)
  replace ho := ho.gr b191 (by have := ho.lt; omega)
  replace hkk := hkk.trans (grown_kept b191 (fun j h => by have := h.1; have := hkk.size; omega) (fun j h e => by cases e; have h2 := h.1; have h3 := h.2; omega))
  replace q := q.grown b191 q.size (by rintro k ⟨⟩; omega)
  replace r66 := r66.gr b191 (by have := r66.lt; omega)
  have r157 := r193
  clear r193
  refine LL.nilS ?_
  refine CC.seq ?_
  refine CC.region ?_
  refine LL.val (R.load rfl rfl (I.ld1 rfl (RowL.cell r157 rfl))) rfl rfl rfl ?_
  refine LL.val (R.field rfl rfl (I.fld rfl)) rfl rfl rfl ?_
  refine LL.val (R.load rfl rfl (I.ld1 rfl (RowL.cell hn rfl))) rfl rfl rfl ?_
  refine LL.val (R.convI rfl rfl rfl rfl (wrapU (by omega) (by omega))) rfl rfl rfl ?_
  refine LL.val (R.field rfl rfl (I.fld rfl)) rfl rfl rfl ?_
  refine LL.val (R.load rfl rfl (I.ld1 rfl (RowL.cell hn rfl))) rfl rfl rfl ?_
  refine LL.val (R.convI rfl rfl rfl rfl (wrapU (by omega) (by omega))) rfl rfl rfl ?_
  refine LL.val (R.shlE (b := 8) (z := 256 * l) rfl rfl rfl (by decide) (by omega) (by omega)) rfl rfl rfl ?_
  refine LL.val (R.orE (a := 2) (b := 256 * l) (z := 2 + 256 * l) rfl rfl rfl (by decide) (by omega) (or_add8 (by decide))) rfl rfl rfl ?_
  refine LL.val (R.index rfl rfl rfl (I.ixS1c rfl rfl (by omega))) rfl rfl rfl ?_
  refine LL.store rfl rfl rfl rfl r1 (by exact Nat.le_of_ble_eq_true rfl) rfl rfl rfl rfl ?_
  intro W499 r500 b498 z501
  have hlb498 := r1.lt
  replace r500 : RowL W499 _ 41 [Value.int IntKind.u64 ↑(2 + 256 * l), (fun n => Value.int IntKind.u64 ↑n) 0, (fun n => Value.int IntKind.u64 ↑n) 0, (fun n => Value.int IntKind.u64 ↑n) 0, (fun n => Value.int IntKind.u64 ↑n) 0, (fun n => Value.int IntKind.u64 ↑n) 0, (fun n => Value.int IntKind.u64 ↑n) 0, (fun n => Value.int IntKind.u64 ↑n) 0, (fun n => Value.int IntKind.u64 ↑n) 0, (fun n => Value.int IntKind.u64 ↑n) 0, (fun n => Value.int IntKind.u64 ↑n) 0, (fun n => Value.int IntKind.u64 ↑n) 0, (fun n => Value.int IntKind.u64 ↑n) 0, (fun n => Value.int IntKind.u64 ↑n) 0, (fun n => Value.int IntKind.u64 ↑n) 0, (fun n => Value.int IntKind.u64 ↑n) 0] := r500
  clear r1
  replace b110 := b110.grown b498 b110.size (by rintro k ⟨⟩; omega)
  replace b63 := b63.grown b498 b63.size (by rintro k ⟨⟩; omega)
  replace b26 := b26.grown b498 b26.size (by rintro k ⟨⟩; omega)
  replace hn := hn.gr b498 (by have := hn.lt; omega)
  replace ho := ho.gr b498 (by have := ho.lt; omega)
  replace hkk := hkk.trans (grown_kept b498 (fun j h => by have := h.1; have := hkk.size; omega) (fun j h e => by cases e; have h2 := h.1; have h3 := h.2; omega))
  replace q := q.grown b498 q.size (by rintro k ⟨⟩; omega)
  replace r66 := r66.gr b498 (by have := r66.lt; omega)
  replace r157 := r157.gr b498 (by have := r157.lt; omega)
  have r1 := r500
  clear r500
  refine LL.nilS ?_
  refine CC.seq ?_
  refine CC.region ?_
  have l533 := hn.lt
  have l534 := ho.lt
  have l535 := r66.lt
  have l536 := r157.lt
  have l537 := r1.lt
  refine LL.alloc ([Value.int IntKind.i64 0]) rfl rfl rfl rfl rfl ?_
  intro W539 g540 eg540 r541 z542 b538
  replace b110 := b110.trans (b538.mono b110.size)
  replace b63 := b63.trans (b538.mono b63.size)
  replace b26 := b26.trans (b538.mono b26.size)
  replace hn := hn.up b538
  replace ho := ho.up b538
  replace hkk := hkk.trans (bkept b538 (fun j h => by have := h.1; have := hkk.size; omega))
  have y543 := hkk.size
  replace q := q.trans (b538.mono q.size)
  replace r66 := r66.up b538
  replace r157 := r157.up b538
  replace r1 := r1.up b538
  refine LL.store rfl rfl rfl rfl r541 (by exact Nat.le_of_ble_eq_true rfl) rfl rfl rfl rfl ?_
  intro W578 r579 b577 z580
  have hlb577 := r541.lt
  replace r579 : RowL W578 _ 3 [Value.int IntKind.i64 1] := r579
  clear r541
  replace b538 := b538.grown b577 b538.size (by rintro k ⟨⟩; omega)
  replace b110 := b110.grown b577 b110.size (by rintro k ⟨⟩; omega)
  replace b63 := b63.grown b577 b63.size (by rintro k ⟨⟩; omega)
  replace b26 := b26.grown b577 b26.size (by rintro k ⟨⟩; omega)
  replace hn := hn.gr b577 (by have := hn.lt; omega)
  replace ho := ho.gr b577 (by have := ho.lt; omega)
  replace hkk := hkk.trans (grown_kept b577 (fun j h => by have := h.1; have := hkk.size; omega) (fun j h e => by cases e; have h2 := h.1; have h3 := h.2; omega))
  replace q := q.grown b577 q.size (by rintro k ⟨⟩; omega)
  replace r66 := r66.gr b577 (by have := r66.lt; omega)
  replace r157 := r157.gr b577 (by have := r157.lt; omega)
  replace r1 := r1.gr b577 (by have := r1.lt; omega)
  have r541 := r579
  clear r579
  refine LL.nilS ?_
  refine CC.seq ?_
  refine CC.region ?_
  refine LL.val (R.field rfl rfl (I.fld rfl)) rfl rfl rfl ?_
  refine LL.val (R.load rfl rfl (I.ld1 rfl (RowL.cell r66 rfl))) rfl rfl rfl ?_
  refine LL.val (R.load rfl rfl (I.ldNc (vs := [Value.int IntKind.i64 2, Value.int IntKind.i64 ↑l, Value.int IntKind.i64 0, Value.slice x n c, Value.int IntKind.i64 ↑r, Value.int IntKind.i64 ↑p, strV []]) (RowL.cells hn rfl) (by rfl) (by rfl))) rfl rfl rfl ?_
  refine LL.val (R.buildV rfl rfl (v := .agg #[Value.int IntKind.i64 2, Value.int IntKind.i64 ↑l, Value.int IntKind.i64 0, Value.slice x n c, Value.int IntKind.i64 ↑r, Value.int IntKind.i64 ↑p, strV []]) (fun _ => by kernel_rfl)) rfl rfl rfl ?_
  refine LL.val (R.func rfl rfl rfl) rfl rfl rfl ?_
  (refine LL.call (R.callV rfl rfl rfl rfl) rfl rfl rfl (ly2_any 2 l 0 _ r p [] _ g1 _ (hdN 2 l) _ ⟨_, _, _, rfl⟩ (by omega) (by omega) ⟨by assumption, by assumption, (show RowL _ g1 41 (ints .u64 (hdN 2 l)) from by assumption), rfl, by omega, by omega, by omega⟩) ?_; rintro e W775 ⟨rfl, ⟨at8, O8⟩, t774⟩; refine ⟨_, rfl, ?_⟩; clear r1; replace hkk := hkk.trans (t774.less fun j hj => ⟨by have := hj.1; omega, by have := hj.1; omega, by have := hj.1; omega⟩); have rv8 := O8.rv; have rw8 := O8.rw_; clear O8)
  have zt774 := t774.size
  replace b110 := t774.onB b110 (fun j hj => ⟨by have := b110.size; omega, by omega⟩)
  replace b63 := t774.onB b63 (fun j hj => ⟨by have := b63.size; omega, by omega⟩)
  replace b26 := t774.onB b26 (fun j hj => ⟨by have := b26.size; omega, by omega⟩)
  replace hn := hn.kept t774 ⟨hn.lt, by omega⟩
  replace ho := ho.kept t774 ⟨ho.lt, by omega⟩
  replace q := t774.onB q (fun j hj => ⟨by have := q.size; omega, by omega⟩)
  replace r66 := r66.kept t774 ⟨r66.lt, by omega⟩
  replace r157 := r157.kept t774 ⟨r157.lt, by omega⟩
  refine LL.nilS ?_
  refine CC.region ?_
  refine LL.val (R.load rfl rfl (I.ld1 rfl (RowL.cell r157 rfl))) rfl rfl rfl ?_
  refine LL.store rfl rfl rfl rfl ho (by exact Nat.le_of_ble_eq_true rfl) rfl rfl rfl rfl ?_
  intro W846 r847 b845 z848
  have hlb845 := ho.lt
  replace r847 : RowL W846 _ 28 [Value.slice (some { block := g1, off := 0 }) 16 16] := r847
  clear ho
  replace hkk := hkk.trans (grown_kept b845 (fun j h => by have := h.1; have := hkk.size; omega) (fun j h e => by cases e; have h2 := h.1; have h3 := h.2; omega))
  replace rv8 := rv8.gr b845 (by have := rv8.lt; omega)
  replace rw8 := rw8.gr b845 (by have := rw8.lt; omega)
  replace hn := hn.gr b845 (by have := hn.lt; omega)
  replace r66 := r66.gr b845 (by have := r66.lt; omega)
  replace r157 := r157.gr b845 (by have := r157.lt; omega)
  have ho := r847
  clear r847
  refine LL.nil ?_
  refine EE.end _ rfl rfl ?_
  exact ⟨rfl, ⟨g1, by assumption, by assumption, by omega⟩, hkk⟩
theorem words1_3 (l : Nat) (t : Bs) (x : Option Addr) (n c : Nat) (m : List Ex) (go gn : Nat) (v0 : Value) (w : World) (hS : Start w) (hv : ReadsT eE 3 w (.slice x n c) m) (hlen : m.length ≤ 1048576) (hm0 : m = []) (hl : l ≤ 65535) (h : (1 ≤ t.length ∧ t.length ≤ 112) ∧ (0 : UInt8) ∉ t) (hn : RowL w gn 25 (inL 3 (l : Int) 0 (.slice x n c) 0 0 t)) (ho : RowL w go 28 [v0]) (hne : go ≠ gn ∧ 0 < go) : Calls Tryd.prog 28 #[.pointer (some ⟨gn, 0, none⟩), .pointer (some ⟨go, 0, none⟩)] w (wordsP go (layK (hdN 3 l) t) w) := by
  unfold wordsP
  have hkk := Kept.refl (KW w go) w
  have lgn := hn.lt
  have lgo := ho.lt
  have hS0 := hS.pos
  have hvF : ∀ X, Below w.heap.size w X → ReadsT eE 3 X (.slice x n c) m := fun X b => hv.up b
  have hSF : ∀ X, Below w.heap.size w X → Start X := fun X b => hS.up b
  have q := Below.refl w.heap.size w
  clear hv hS
  refine X.fn Tryd.func28 rfl (n := 25) rfl rfl ?_
  refine CC.seq ?_
  refine CC.region ?_
  refine LL.val (R.load rfl rfl (I.ldNc (vs := [Value.int IntKind.i64 3, Value.int IntKind.i64 ↑l, Value.int IntKind.i64 0, Value.slice x n c, Value.int IntKind.i64 0, Value.int IntKind.i64 0, strV t]) (RowL.cells hn rfl) (by rfl) (by rfl))) rfl rfl rfl ?_
  have l30 := hn.lt
  have l31 := ho.lt
  (refine LL.call (R.call rfl rfl rfl) rfl rfl rfl (check3_T l t x n c m _ (hvF _ q) hlen hm0 (by omega) h) ?_; rintro e W29 ⟨rfl, b26⟩; refine ⟨_, rfl, ?_⟩)
  have zb26 := b26.size
  replace hn := hn.up b26
  replace ho := ho.up b26
  replace hkk := hkk.trans (bkept b26 (fun j h => by have := h.1; have := hkk.size; omega))
  have y35 := hkk.size
  replace q := q.trans (b26.mono q.size)
  have l61 := hn.lt
  have l62 := ho.lt
  refine LL.alloc ([Value.nilFunc, Value.nilFunc, Value.nilFunc, Value.nilFunc]) rfl rfl rfl rfl rfl ?_
  intro W64 g65 eg65 r66 z67 b63
  replace b26 := b26.trans (b63.mono b26.size)
  replace hn := hn.up b63
  replace ho := ho.up b63
  replace hkk := hkk.trans (bkept b63 (fun j h => by have := h.1; have := hkk.size; omega))
  have y68 := hkk.size
  replace q := q.trans (b63.mono q.size)
  refine LL.storeN (vs := [fnV kd3.1, fnV kd3.2.1, fnV kd3.2.2.1, fnV kd3.2.2.2]) rfl rfl rfl rfl r66 (by exact Nat.le_of_ble_eq_true rfl) (ones_of rfl) rfl rfl ?_
  intro W97 r98 b96 z99
  have hlb96 := r66.lt
  replace r98 : RowL W97 _ 68 [fnV kd3.1, fnV kd3.2.1, fnV kd3.2.2.1, fnV kd3.2.2.2] := r98
  clear r66
  replace b63 := b63.grown b96 b63.size (by rintro k ⟨⟩; omega)
  replace b26 := b26.grown b96 b26.size (by rintro k ⟨⟩; omega)
  replace hn := hn.gr b96 (by have := hn.lt; omega)
  replace ho := ho.gr b96 (by have := ho.lt; omega)
  replace hkk := hkk.trans (grown_kept b96 (fun j h => by have := h.1; have := hkk.size; omega) (fun j h e => by cases e; have h2 := h.1; have h3 := h.2; omega))
  replace q := q.grown b96 q.size (by rintro k ⟨⟩; omega)
  have r66 := r98
  clear r98
  refine LL.nilS ?_
  refine CC.seq ?_
  refine CC.region ?_
  have l114 := hn.lt
  have l115 := ho.lt
  have l116 := r66.lt
  (refine LL.makeE (l := 16) (m := 16) ElU14 rfl (by decide) rfl rfl rfl (Nat.le_refl _) (by decide) (by decide) rfl rfl ?_; intro W113 g1 eg1 r1 zg1 b110; replace r1 : RowL W113 g1 41 (ints .u64 (List.replicate 16 0)) := r1)
  have zb110 := b110.size
  replace b63 := b63.trans (b110.mono b63.size)
  replace b26 := b26.trans (b110.mono b26.size)
  replace hn := hn.up b110
  replace ho := ho.up b110
  replace hkk := hkk.trans (bkept b110 (fun j h => by have := h.1; have := hkk.size; omega))
  have y120 := hkk.size
  replace q := q.trans (b110.mono q.size)
  replace r66 := r66.up b110
  have l150 := r1.lt
  have l151 := hn.lt
  have l152 := ho.lt
  have l153 := r66.lt
  refine LL.alloc ([Value.slice none 0 0]) rfl rfl rfl rfl rfl ?_
  intro W155 g156 eg156 r157 z158 b154
  replace b110 := b110.trans (b154.mono b110.size)
  replace r1 := r1.up b154
  replace b63 := b63.trans (b154.mono b63.size)
  replace b26 := b26.trans (b154.mono b26.size)
  replace hn := hn.up b154
  replace ho := ho.up b154
  replace hkk := hkk.trans (bkept b154 (fun j h => by have := h.1; have := hkk.size; omega))
  have y159 := hkk.size
  replace q := q.trans (b154.mono q.size)
  replace r66 := r66.up b154
  refine LL.store rfl rfl rfl rfl r157 (by exact Nat.le_of_ble_eq_true rfl) rfl rfl rfl rfl ?_
  intro W192 r193 b191 z194
  have hlb191 := r157.lt
  replace r193 : RowL W192 _ 28 [Value.slice (some { block := g1, off := 0 }) 16 16] := r193
  clear r157
  replace b154 := b154.grown b191 b154.size (by rintro k ⟨⟩; omega)
  replace b110 := b110.grown b191 b110.size (by rintro k ⟨⟩; omega)
  replace r1 := r1.gr b191 (by have := r1.lt; omega)
  replace b63 := b63.grown b191 b63.size (by rintro k ⟨⟩; omega)
  replace b26 := b26.grown b191 b26.size (by rintro k ⟨⟩; omega)
  replace hn := hn.gr b191 (by have := hn.lt; omega)
  replace ho := ho.gr b191 (by have := ho.lt; omega)
  replace hkk := hkk.trans (grown_kept b191 (fun j h => by have := h.1; have := hkk.size; omega) (fun j h e => by cases e; have h2 := h.1; have h3 := h.2; omega))
  replace q := q.grown b191 q.size (by rintro k ⟨⟩; omega)
  replace r66 := r66.gr b191 (by have := r66.lt; omega)
  have r157 := r193
  clear r193
  refine LL.nilS ?_
  refine CC.seq ?_
  refine CC.region ?_
  refine LL.val (R.load rfl rfl (I.ld1 rfl (RowL.cell r157 rfl))) rfl rfl rfl ?_
  refine LL.val (R.field rfl rfl (I.fld rfl)) rfl rfl rfl ?_
  refine LL.val (R.load rfl rfl (I.ld1 rfl (RowL.cell hn rfl))) rfl rfl rfl ?_
  refine LL.val (R.convI rfl rfl rfl rfl (wrapU (by omega) (by omega))) rfl rfl rfl ?_
  refine LL.val (R.field rfl rfl (I.fld rfl)) rfl rfl rfl ?_
  refine LL.val (R.load rfl rfl (I.ld1 rfl (RowL.cell hn rfl))) rfl rfl rfl ?_
  refine LL.val (R.convI rfl rfl rfl rfl (wrapU (by omega) (by omega))) rfl rfl rfl ?_
  refine LL.val (R.shlE (b := 8) (z := 256 * l) rfl rfl rfl (by decide) (by omega) (by omega)) rfl rfl rfl ?_
  refine LL.val (R.orE (a := 3) (b := 256 * l) (z := 3 + 256 * l) rfl rfl rfl (by decide) (by omega) (or_add8 (by decide))) rfl rfl rfl ?_
  refine LL.val (R.index rfl rfl rfl (I.ixS1c rfl rfl (by omega))) rfl rfl rfl ?_
  refine LL.store rfl rfl rfl rfl r1 (by exact Nat.le_of_ble_eq_true rfl) rfl rfl rfl rfl ?_
  intro W499 r500 b498 z501
  have hlb498 := r1.lt
  replace r500 : RowL W499 _ 41 [Value.int IntKind.u64 ↑(3 + 256 * l), (fun n => Value.int IntKind.u64 ↑n) 0, (fun n => Value.int IntKind.u64 ↑n) 0, (fun n => Value.int IntKind.u64 ↑n) 0, (fun n => Value.int IntKind.u64 ↑n) 0, (fun n => Value.int IntKind.u64 ↑n) 0, (fun n => Value.int IntKind.u64 ↑n) 0, (fun n => Value.int IntKind.u64 ↑n) 0, (fun n => Value.int IntKind.u64 ↑n) 0, (fun n => Value.int IntKind.u64 ↑n) 0, (fun n => Value.int IntKind.u64 ↑n) 0, (fun n => Value.int IntKind.u64 ↑n) 0, (fun n => Value.int IntKind.u64 ↑n) 0, (fun n => Value.int IntKind.u64 ↑n) 0, (fun n => Value.int IntKind.u64 ↑n) 0, (fun n => Value.int IntKind.u64 ↑n) 0] := r500
  clear r1
  replace b110 := b110.grown b498 b110.size (by rintro k ⟨⟩; omega)
  replace b63 := b63.grown b498 b63.size (by rintro k ⟨⟩; omega)
  replace b26 := b26.grown b498 b26.size (by rintro k ⟨⟩; omega)
  replace hn := hn.gr b498 (by have := hn.lt; omega)
  replace ho := ho.gr b498 (by have := ho.lt; omega)
  replace hkk := hkk.trans (grown_kept b498 (fun j h => by have := h.1; have := hkk.size; omega) (fun j h e => by cases e; have h2 := h.1; have h3 := h.2; omega))
  replace q := q.grown b498 q.size (by rintro k ⟨⟩; omega)
  replace r66 := r66.gr b498 (by have := r66.lt; omega)
  replace r157 := r157.gr b498 (by have := r157.lt; omega)
  have r1 := r500
  clear r500
  refine LL.nilS ?_
  refine CC.seq ?_
  refine CC.region ?_
  have l533 := hn.lt
  have l534 := ho.lt
  have l535 := r66.lt
  have l536 := r157.lt
  have l537 := r1.lt
  refine LL.alloc ([Value.int IntKind.i64 0]) rfl rfl rfl rfl rfl ?_
  intro W539 g540 eg540 r541 z542 b538
  replace b110 := b110.trans (b538.mono b110.size)
  replace b63 := b63.trans (b538.mono b63.size)
  replace b26 := b26.trans (b538.mono b26.size)
  replace hn := hn.up b538
  replace ho := ho.up b538
  replace hkk := hkk.trans (bkept b538 (fun j h => by have := h.1; have := hkk.size; omega))
  have y543 := hkk.size
  replace q := q.trans (b538.mono q.size)
  replace r66 := r66.up b538
  replace r157 := r157.up b538
  replace r1 := r1.up b538
  refine LL.store rfl rfl rfl rfl r541 (by exact Nat.le_of_ble_eq_true rfl) rfl rfl rfl rfl ?_
  intro W578 r579 b577 z580
  have hlb577 := r541.lt
  replace r579 : RowL W578 _ 3 [Value.int IntKind.i64 1] := r579
  clear r541
  replace b538 := b538.grown b577 b538.size (by rintro k ⟨⟩; omega)
  replace b110 := b110.grown b577 b110.size (by rintro k ⟨⟩; omega)
  replace b63 := b63.grown b577 b63.size (by rintro k ⟨⟩; omega)
  replace b26 := b26.grown b577 b26.size (by rintro k ⟨⟩; omega)
  replace hn := hn.gr b577 (by have := hn.lt; omega)
  replace ho := ho.gr b577 (by have := ho.lt; omega)
  replace hkk := hkk.trans (grown_kept b577 (fun j h => by have := h.1; have := hkk.size; omega) (fun j h e => by cases e; have h2 := h.1; have h3 := h.2; omega))
  replace q := q.grown b577 q.size (by rintro k ⟨⟩; omega)
  replace r66 := r66.gr b577 (by have := r66.lt; omega)
  replace r157 := r157.gr b577 (by have := r157.lt; omega)
  replace r1 := r1.gr b577 (by have := r1.lt; omega)
  have r541 := r579
  clear r579
  refine LL.nilS ?_
  refine CC.seq ?_
  refine CC.region ?_
  refine LL.val (R.field rfl rfl (I.fld rfl)) rfl rfl rfl ?_
  refine LL.val (R.load rfl rfl (I.ld1 rfl (RowL.cell r66 rfl))) rfl rfl rfl ?_
  refine LL.val (R.load rfl rfl (I.ldNc (vs := [Value.int IntKind.i64 3, Value.int IntKind.i64 ↑l, Value.int IntKind.i64 0, Value.slice x n c, Value.int IntKind.i64 0, Value.int IntKind.i64 0, strV t]) (RowL.cells hn rfl) (by rfl) (by rfl))) rfl rfl rfl ?_
  refine LL.val (R.buildV rfl rfl (v := .agg #[Value.int IntKind.i64 3, Value.int IntKind.i64 ↑l, Value.int IntKind.i64 0, Value.slice x n c, Value.int IntKind.i64 0, Value.int IntKind.i64 0, strV t]) (fun _ => by kernel_rfl)) rfl rfl rfl ?_
  refine LL.val (R.func rfl rfl rfl) rfl rfl rfl ?_
  (refine LL.call (R.callV rfl rfl rfl rfl) rfl rfl rfl (ly3_any 3 l 0 _ 0 0 t _ g1 _ (hdN 3 l) _ ⟨_, _, _, rfl⟩ h.1 ⟨by assumption, by assumption, (show RowL _ g1 41 (ints .u64 (hdN 3 l)) from by assumption), rfl, by omega, by omega, by omega⟩) ?_; rintro e W775 ⟨rfl, ⟨at8, O8⟩, t774⟩; refine ⟨_, rfl, ?_⟩; clear r1; replace hkk := hkk.trans (t774.less fun j hj => ⟨by have := hj.1; omega, by have := hj.1; omega, by have := hj.1; omega⟩); have rv8 := O8.rv; have rw8 := O8.rw_; clear O8)
  have zt774 := t774.size
  replace b110 := t774.onB b110 (fun j hj => ⟨by have := b110.size; omega, by omega⟩)
  replace b63 := t774.onB b63 (fun j hj => ⟨by have := b63.size; omega, by omega⟩)
  replace b26 := t774.onB b26 (fun j hj => ⟨by have := b26.size; omega, by omega⟩)
  replace hn := hn.kept t774 ⟨hn.lt, by omega⟩
  replace ho := ho.kept t774 ⟨ho.lt, by omega⟩
  replace q := t774.onB q (fun j hj => ⟨by have := q.size; omega, by omega⟩)
  replace r66 := r66.kept t774 ⟨r66.lt, by omega⟩
  replace r157 := r157.kept t774 ⟨r157.lt, by omega⟩
  refine LL.nilS ?_
  refine CC.region ?_
  refine LL.val (R.load rfl rfl (I.ld1 rfl (RowL.cell r157 rfl))) rfl rfl rfl ?_
  refine LL.store rfl rfl rfl rfl ho (by exact Nat.le_of_ble_eq_true rfl) rfl rfl rfl rfl ?_
  intro W846 r847 b845 z848
  have hlb845 := ho.lt
  replace r847 : RowL W846 _ 28 [Value.slice (some { block := g1, off := 0 }) 16 16] := r847
  clear ho
  replace hkk := hkk.trans (grown_kept b845 (fun j h => by have := h.1; have := hkk.size; omega) (fun j h e => by cases e; have h2 := h.1; have h3 := h.2; omega))
  replace rv8 := rv8.gr b845 (by have := rv8.lt; omega)
  replace rw8 := rw8.gr b845 (by have := rw8.lt; omega)
  replace hn := hn.gr b845 (by have := hn.lt; omega)
  replace r66 := r66.gr b845 (by have := r66.lt; omega)
  replace r157 := r157.gr b845 (by have := r157.lt; omega)
  have ho := r847
  clear r847
  refine LL.nil ?_
  refine EE.end _ rfl rfl ?_
  exact ⟨rfl, ⟨g1, by assumption, by assumption, by omega⟩, hkk⟩
theorem words1_0  (x : Option Addr) (n c : Nat) (m : List Ex) (go gn : Nat) (v0 : Value) (w : World) (hS : Start w) (hv : ReadsT eE 3 w (.slice x n c) m) (hlen : m.length ≤ 1048576) (hm0 : m = []) (hn : RowL w gn 25 (inL 0 0 0 (.slice x n c) 0 0 [])) (ho : RowL w go 28 [v0]) (hne : go ≠ gn ∧ 0 < go) : Calls Tryd.prog 28 #[.pointer (some ⟨gn, 0, none⟩), .pointer (some ⟨go, 0, none⟩)] w (wordsP go (hdN 0 0) w) := by
  unfold wordsP
  have hkk := Kept.refl (KW w go) w
  have lgn := hn.lt
  have lgo := ho.lt
  have hS0 := hS.pos
  have hvF : ∀ X, Below w.heap.size w X → ReadsT eE 3 X (.slice x n c) m := fun X b => hv.up b
  have hSF : ∀ X, Below w.heap.size w X → Start X := fun X b => hS.up b
  have q := Below.refl w.heap.size w
  clear hv hS
  refine X.fn Tryd.func28 rfl (n := 25) rfl rfl ?_
  refine CC.seq ?_
  refine CC.region ?_
  refine LL.val (R.load rfl rfl (I.ldNc (vs := [Value.int IntKind.i64 0, Value.int IntKind.i64 0, Value.int IntKind.i64 0, Value.slice x n c, Value.int IntKind.i64 0, Value.int IntKind.i64 0, strV []]) (RowL.cells hn rfl) (by rfl) (by rfl))) rfl rfl rfl ?_
  have l30 := hn.lt
  have l31 := ho.lt
  (refine LL.call (R.call rfl rfl rfl) rfl rfl rfl (check0_T x n c m _ (hvF _ q) hlen hm0) ?_; rintro e W29 ⟨rfl, b26⟩; refine ⟨_, rfl, ?_⟩)
  have zb26 := b26.size
  replace hn := hn.up b26
  replace ho := ho.up b26
  replace hkk := hkk.trans (bkept b26 (fun j h => by have := h.1; have := hkk.size; omega))
  have y35 := hkk.size
  replace q := q.trans (b26.mono q.size)
  have l61 := hn.lt
  have l62 := ho.lt
  refine LL.alloc ([Value.nilFunc, Value.nilFunc, Value.nilFunc, Value.nilFunc]) rfl rfl rfl rfl rfl ?_
  intro W64 g65 eg65 r66 z67 b63
  replace b26 := b26.trans (b63.mono b26.size)
  replace hn := hn.up b63
  replace ho := ho.up b63
  replace hkk := hkk.trans (bkept b63 (fun j h => by have := h.1; have := hkk.size; omega))
  have y68 := hkk.size
  replace q := q.trans (b63.mono q.size)
  refine LL.storeN (vs := [fnV kd0.1, fnV kd0.2.1, fnV kd0.2.2.1, fnV kd0.2.2.2]) rfl rfl rfl rfl r66 (by exact Nat.le_of_ble_eq_true rfl) (ones_of rfl) rfl rfl ?_
  intro W97 r98 b96 z99
  have hlb96 := r66.lt
  replace r98 : RowL W97 _ 68 [fnV kd0.1, fnV kd0.2.1, fnV kd0.2.2.1, fnV kd0.2.2.2] := r98
  clear r66
  replace b63 := b63.grown b96 b63.size (by rintro k ⟨⟩; omega)
  replace b26 := b26.grown b96 b26.size (by rintro k ⟨⟩; omega)
  replace hn := hn.gr b96 (by have := hn.lt; omega)
  replace ho := ho.gr b96 (by have := ho.lt; omega)
  replace hkk := hkk.trans (grown_kept b96 (fun j h => by have := h.1; have := hkk.size; omega) (fun j h e => by cases e; have h2 := h.1; have h3 := h.2; omega))
  replace q := q.grown b96 q.size (by rintro k ⟨⟩; omega)
  have r66 := r98
  clear r98
  refine LL.nilS ?_
  refine CC.seq ?_
  refine CC.region ?_
  have l114 := hn.lt
  have l115 := ho.lt
  have l116 := r66.lt
  (refine LL.makeE (l := 16) (m := 16) ElU14 rfl (by decide) rfl rfl rfl (Nat.le_refl _) (by decide) (by decide) rfl rfl ?_; intro W113 g1 eg1 r1 zg1 b110; replace r1 : RowL W113 g1 41 (ints .u64 (List.replicate 16 0)) := r1)
  have zb110 := b110.size
  replace b63 := b63.trans (b110.mono b63.size)
  replace b26 := b26.trans (b110.mono b26.size)
  replace hn := hn.up b110
  replace ho := ho.up b110
  replace hkk := hkk.trans (bkept b110 (fun j h => by have := h.1; have := hkk.size; omega))
  have y120 := hkk.size
  replace q := q.trans (b110.mono q.size)
  replace r66 := r66.up b110
  have l150 := r1.lt
  have l151 := hn.lt
  have l152 := ho.lt
  have l153 := r66.lt
  refine LL.alloc ([Value.slice none 0 0]) rfl rfl rfl rfl rfl ?_
  intro W155 g156 eg156 r157 z158 b154
  replace b110 := b110.trans (b154.mono b110.size)
  replace r1 := r1.up b154
  replace b63 := b63.trans (b154.mono b63.size)
  replace b26 := b26.trans (b154.mono b26.size)
  replace hn := hn.up b154
  replace ho := ho.up b154
  replace hkk := hkk.trans (bkept b154 (fun j h => by have := h.1; have := hkk.size; omega))
  have y159 := hkk.size
  replace q := q.trans (b154.mono q.size)
  replace r66 := r66.up b154
  refine LL.store rfl rfl rfl rfl r157 (by exact Nat.le_of_ble_eq_true rfl) rfl rfl rfl rfl ?_
  intro W192 r193 b191 z194
  have hlb191 := r157.lt
  replace r193 : RowL W192 _ 28 [Value.slice (some { block := g1, off := 0 }) 16 16] := r193
  clear r157
  replace b154 := b154.grown b191 b154.size (by rintro k ⟨⟩; omega)
  replace b110 := b110.grown b191 b110.size (by rintro k ⟨⟩; omega)
  replace r1 := r1.gr b191 (by have := r1.lt; omega)
  replace b63 := b63.grown b191 b63.size (by rintro k ⟨⟩; omega)
  replace b26 := b26.grown b191 b26.size (by rintro k ⟨⟩; omega)
  replace hn := hn.gr b191 (by have := hn.lt; omega)
  replace ho := ho.gr b191 (by have := ho.lt; omega)
  replace hkk := hkk.trans (grown_kept b191 (fun j h => by have := h.1; have := hkk.size; omega) (fun j h e => by cases e; have h2 := h.1; have h3 := h.2; omega))
  replace q := q.grown b191 q.size (by rintro k ⟨⟩; omega)
  replace r66 := r66.gr b191 (by have := r66.lt; omega)
  have r157 := r193
  clear r193
  refine LL.nilS ?_
  refine CC.seq ?_
  refine CC.region ?_
  refine LL.val (R.load rfl rfl (I.ld1 rfl (RowL.cell r157 rfl))) rfl rfl rfl ?_
  refine LL.val (R.field rfl rfl (I.fld rfl)) rfl rfl rfl ?_
  refine LL.val (R.load rfl rfl (I.ld1 rfl (RowL.cell hn rfl))) rfl rfl rfl ?_
  refine LL.val (R.convI rfl rfl rfl rfl (wrapU (by omega) (by omega))) rfl rfl rfl ?_
  refine LL.val (R.field rfl rfl (I.fld rfl)) rfl rfl rfl ?_
  refine LL.val (R.load rfl rfl (I.ld1 rfl (RowL.cell hn rfl))) rfl rfl rfl ?_
  refine LL.val (R.convI rfl rfl rfl rfl (wrapU (by omega) (by omega))) rfl rfl rfl ?_
  refine LL.val (R.shlE (a := 0) (b := 8) (z := 256 * 0) rfl rfl rfl (by decide) (by omega) (by omega)) rfl rfl rfl ?_
  refine LL.val (R.orE (a := 0) (b := 256 * 0) (z := 0 + 256 * 0) rfl rfl rfl (by decide) (by omega) (or_add8 (by decide))) rfl rfl rfl ?_
  refine LL.val (R.index rfl rfl rfl (I.ixS1c rfl rfl (by omega))) rfl rfl rfl ?_
  refine LL.store rfl rfl rfl rfl r1 (by exact Nat.le_of_ble_eq_true rfl) rfl rfl rfl rfl ?_
  intro W499 r500 b498 z501
  have hlb498 := r1.lt
  replace r500 : RowL W499 _ 41 [Value.int IntKind.u64 ↑(0 + 256 * 0), (fun n => Value.int IntKind.u64 ↑n) 0, (fun n => Value.int IntKind.u64 ↑n) 0, (fun n => Value.int IntKind.u64 ↑n) 0, (fun n => Value.int IntKind.u64 ↑n) 0, (fun n => Value.int IntKind.u64 ↑n) 0, (fun n => Value.int IntKind.u64 ↑n) 0, (fun n => Value.int IntKind.u64 ↑n) 0, (fun n => Value.int IntKind.u64 ↑n) 0, (fun n => Value.int IntKind.u64 ↑n) 0, (fun n => Value.int IntKind.u64 ↑n) 0, (fun n => Value.int IntKind.u64 ↑n) 0, (fun n => Value.int IntKind.u64 ↑n) 0, (fun n => Value.int IntKind.u64 ↑n) 0, (fun n => Value.int IntKind.u64 ↑n) 0, (fun n => Value.int IntKind.u64 ↑n) 0] := r500
  clear r1
  replace b110 := b110.grown b498 b110.size (by rintro k ⟨⟩; omega)
  replace b63 := b63.grown b498 b63.size (by rintro k ⟨⟩; omega)
  replace b26 := b26.grown b498 b26.size (by rintro k ⟨⟩; omega)
  replace hn := hn.gr b498 (by have := hn.lt; omega)
  replace ho := ho.gr b498 (by have := ho.lt; omega)
  replace hkk := hkk.trans (grown_kept b498 (fun j h => by have := h.1; have := hkk.size; omega) (fun j h e => by cases e; have h2 := h.1; have h3 := h.2; omega))
  replace q := q.grown b498 q.size (by rintro k ⟨⟩; omega)
  replace r66 := r66.gr b498 (by have := r66.lt; omega)
  replace r157 := r157.gr b498 (by have := r157.lt; omega)
  have r1 := r500
  clear r500
  refine LL.nilS ?_
  refine CC.seq ?_
  refine CC.region ?_
  have l533 := hn.lt
  have l534 := ho.lt
  have l535 := r66.lt
  have l536 := r157.lt
  have l537 := r1.lt
  refine LL.alloc ([Value.int IntKind.i64 0]) rfl rfl rfl rfl rfl ?_
  intro W539 g540 eg540 r541 z542 b538
  replace b110 := b110.trans (b538.mono b110.size)
  replace b63 := b63.trans (b538.mono b63.size)
  replace b26 := b26.trans (b538.mono b26.size)
  replace hn := hn.up b538
  replace ho := ho.up b538
  replace hkk := hkk.trans (bkept b538 (fun j h => by have := h.1; have := hkk.size; omega))
  have y543 := hkk.size
  replace q := q.trans (b538.mono q.size)
  replace r66 := r66.up b538
  replace r157 := r157.up b538
  replace r1 := r1.up b538
  refine LL.store rfl rfl rfl rfl r541 (by exact Nat.le_of_ble_eq_true rfl) rfl rfl rfl rfl ?_
  intro W578 r579 b577 z580
  have hlb577 := r541.lt
  replace r579 : RowL W578 _ 3 [Value.int IntKind.i64 1] := r579
  clear r541
  replace b538 := b538.grown b577 b538.size (by rintro k ⟨⟩; omega)
  replace b110 := b110.grown b577 b110.size (by rintro k ⟨⟩; omega)
  replace b63 := b63.grown b577 b63.size (by rintro k ⟨⟩; omega)
  replace b26 := b26.grown b577 b26.size (by rintro k ⟨⟩; omega)
  replace hn := hn.gr b577 (by have := hn.lt; omega)
  replace ho := ho.gr b577 (by have := ho.lt; omega)
  replace hkk := hkk.trans (grown_kept b577 (fun j h => by have := h.1; have := hkk.size; omega) (fun j h e => by cases e; have h2 := h.1; have h3 := h.2; omega))
  replace q := q.grown b577 q.size (by rintro k ⟨⟩; omega)
  replace r66 := r66.gr b577 (by have := r66.lt; omega)
  replace r157 := r157.gr b577 (by have := r157.lt; omega)
  replace r1 := r1.gr b577 (by have := r1.lt; omega)
  have r541 := r579
  clear r579
  refine LL.nilS ?_
  refine CC.seq ?_
  refine CC.region ?_
  refine LL.val (R.field rfl rfl (I.fld rfl)) rfl rfl rfl ?_
  refine LL.val (R.load rfl rfl (I.ld1 rfl (RowL.cell r66 rfl))) rfl rfl rfl ?_
  refine LL.val (R.load rfl rfl (I.ldNc (vs := [Value.int IntKind.i64 0, Value.int IntKind.i64 0, Value.int IntKind.i64 0, Value.slice x n c, Value.int IntKind.i64 0, Value.int IntKind.i64 0, strV []]) (RowL.cells hn rfl) (by rfl) (by rfl))) rfl rfl rfl ?_
  refine LL.val (R.buildV rfl rfl (v := .agg #[Value.int IntKind.i64 0, Value.int IntKind.i64 0, Value.int IntKind.i64 0, Value.slice x n c, Value.int IntKind.i64 0, Value.int IntKind.i64 0, strV []]) (fun _ => by kernel_rfl)) rfl rfl rfl ?_
  refine LL.val (R.func rfl rfl rfl) rfl rfl rfl ?_
  (refine LL.call (R.callV rfl rfl rfl rfl) rfl rfl rfl (ly0_any 0 0 0 _ 0 0 [] _ g1 _ 1 (hdN 0 0) _ ⟨_, _, _, rfl⟩ ⟨by assumption, by assumption, (show RowL _ g1 41 (ints .u64 (hdN 0 0)) from by assumption), rfl, by omega, by omega, by omega⟩) ?_; rintro e W775 ⟨rfl, ⟨at8, O8⟩, t774⟩; refine ⟨_, rfl, ?_⟩; clear r1; replace hkk := hkk.trans (t774.less fun j hj => ⟨by have := hj.1; omega, by have := hj.1; omega, by have := hj.1; omega⟩); have rv8 := O8.rv; have rw8 := O8.rw_; clear O8)
  have zt774 := t774.size
  replace b110 := t774.onB b110 (fun j hj => ⟨by have := b110.size; omega, by omega⟩)
  replace b63 := t774.onB b63 (fun j hj => ⟨by have := b63.size; omega, by omega⟩)
  replace b26 := t774.onB b26 (fun j hj => ⟨by have := b26.size; omega, by omega⟩)
  replace hn := hn.kept t774 ⟨hn.lt, by omega⟩
  replace ho := ho.kept t774 ⟨ho.lt, by omega⟩
  replace q := t774.onB q (fun j hj => ⟨by have := q.size; omega, by omega⟩)
  replace r66 := r66.kept t774 ⟨r66.lt, by omega⟩
  replace r157 := r157.kept t774 ⟨r157.lt, by omega⟩
  refine LL.nilS ?_
  refine CC.region ?_
  refine LL.val (R.load rfl rfl (I.ld1 rfl (RowL.cell r157 rfl))) rfl rfl rfl ?_
  refine LL.store rfl rfl rfl rfl ho (by exact Nat.le_of_ble_eq_true rfl) rfl rfl rfl rfl ?_
  intro W846 r847 b845 z848
  have hlb845 := ho.lt
  replace r847 : RowL W846 _ 28 [Value.slice (some { block := g1, off := 0 }) 16 16] := r847
  clear ho
  replace hkk := hkk.trans (grown_kept b845 (fun j h => by have := h.1; have := hkk.size; omega) (fun j h e => by cases e; have h2 := h.1; have h3 := h.2; omega))
  replace rv8 := rv8.gr b845 (by have := rv8.lt; omega)
  replace rw8 := rw8.gr b845 (by have := rw8.lt; omega)
  replace hn := hn.gr b845 (by have := hn.lt; omega)
  replace r66 := r66.gr b845 (by have := r66.lt; omega)
  replace r157 := r157.gr b845 (by have := r157.lt; omega)
  have ho := r847
  clear r847
  refine LL.nil ?_
  refine EE.end _ rfl rfl ?_
  exact ⟨rfl, ⟨g1, by assumption, by assumption, by omega⟩, hkk⟩
end Go.Proofs.YtnoefalgmekjbaaDoor


/- inode: work that may give up; Check, Words. -/
namespace Go.Proofs.YtnoefalgmekjbaaDoor
set_option linter.unusedVariables false
set_option linter.unusedSimpArgs false
open Go.RowKit Go.Shelf
set_option maxRecDepth 100000
set_option maxHeartbeats 8000000
theorem grd1_calm (ge : Nat) (w : World) : CallsDIn Fence.wide 2 Tryd.prog 49 [Value.pointer (some ⟨ge, 0, none⟩)].toArray .returning w fun e u' w' => (∃ v, e = .returned v) ∧ u' = .returning ∧ w = w' := by
  refine X.recovers (n := 17) (d := 4) (e := 1) Tryd.func49 rfl rfl rfl rfl rfl rfl rfl rfl rfl rfl rfl (recover_calm) ?_
  refine CC.seq ?_
  refine CC.region ?_
  refine LL.val (R.move rfl rfl) rfl rfl rfl ?_
  refine LL.val (R.eqNilI rfl rfl (by kernel_rfl)) rfl rfl rfl ?_
  refine LL.nilS ?_
  refine CC.no rfl ?_
  refine CC.skip ?_
  refine EE.end _ rfl rfl ?_
  exact ⟨⟨_, rfl⟩, rfl, rfl⟩
theorem grd1_pan (ge : Nat) (x0 : Int) (w : World) (h2 : RowL w ge 29 [.int .i64 x0]) : CallsDIn Fence.wide 2 Tryd.prog 49 [Value.pointer (some ⟨ge, 0, none⟩)].toArray (.panicking (chain1 refV)) w fun e u' w' => (∃ v, e = .returned v) ∧ u' = .panicking [{ v := refV, recovered := true }] ∧ RowL w' ge 29 [.int .i64 240] ∧ Kept (fun i => i < w.heap.size ∧ i ≠ ge) w w' := by
  refine X.recovers (n := 17) (d := 4) (e := 1) Tryd.func49 rfl rfl rfl rfl rfl rfl rfl rfl rfl rfl rfl (recover_one refV) ?_
  have hkk := Kept.refl (fun i => i < w.heap.size ∧ i ≠ ge) w
  have lge := h2.lt
  refine CC.seq ?_
  refine CC.region ?_
  refine LL.val (R.move rfl rfl) rfl rfl rfl ?_
  refine LL.val (R.neNilI rfl rfl rfl (by kernel_rfl)) rfl rfl rfl ?_
  refine LL.nilS ?_
  refine CC.yes rfl ?_
  refine CC.seq ?_
  refine CC.region ?_
  refine LL.val (R.move rfl rfl) rfl rfl rfl ?_
  refine LL.val (R.assertT rfl rfl (by kernel_rfl)) rfl rfl rfl ?_
  refine LL.val (R.move rfl rfl) rfl rfl rfl ?_
  refine LL.val (R.extract rfl rfl rfl) rfl rfl rfl ?_
  refine LL.val (R.extract rfl rfl rfl) rfl rfl rfl ?_
  have l1 := h2.lt
  refine LL.alloc ([Value.int IntKind.i64 0]) rfl rfl rfl rfl rfl ?_
  intro W3 g4 eg4 r5 z6 b2
  replace h2 := h2.up b2
  replace hkk := hkk.trans (bkept b2 (fun j h => by have := h.1; have := hkk.size; omega))
  have y7 := hkk.size
  refine LL.storeN (vs := [Value.int IntKind.i64 240]) rfl rfl rfl rfl r5 (by exact Nat.le_of_ble_eq_true rfl) (ones_of rfl) rfl rfl ?_
  intro W9 r10 b8 z11
  have hlb8 := r5.lt
  replace r10 : RowL W9 _ 100 [Value.int IntKind.i64 240] := r10
  clear r5
  replace b2 := b2.grown b8 b2.size (by rintro k ⟨⟩; omega)
  replace h2 := h2.gr b8 (by have := h2.lt; omega)
  replace hkk := hkk.trans (grown_kept b8 (fun j h => by have := h.1; have := hkk.size; omega) (fun j h e => by cases e; have h2 := h.1; have h3 := h.2; omega))
  have r5 := r10
  clear r10
  refine LL.val (R.assign rfl rfl) rfl rfl rfl ?_
  refine LL.nilS ?_
  refine CC.seq ?_
  refine CC.seq ?_
  refine CC.region ?_
  refine LL.val (R.move rfl rfl) rfl rfl rfl ?_
  refine LL.val (R.not rfl rfl) rfl rfl rfl ?_
  refine LL.nilS ?_
  refine CC.no rfl ?_
  refine CC.skip ?_
  refine EE.thenN ?_
  refine CC.region ?_
  refine LL.val (R.field rfl rfl (I.fld rfl)) rfl rfl rfl ?_
  refine LL.val (R.load rfl rfl (I.ld1 rfl (RowL.cell r5 rfl))) rfl rfl rfl ?_
  refine LL.store rfl rfl rfl rfl h2 (by exact Nat.le_of_ble_eq_true rfl) rfl rfl rfl rfl ?_
  intro W13 r14 b12 z15
  have hlb12 := h2.lt
  replace r14 : RowL W13 _ 29 [Value.int IntKind.i64 240] := r14
  clear h2
  replace hkk := hkk.trans (grown_kept b12 (fun j h => by have := h.1; have := hkk.size; omega) (fun j h e => by cases e; have h2 := h.1; have h3 := h.2; omega))
  replace r5 := r5.gr b12 (by have := r5.lt; omega)
  have h2 := r14
  clear r14
  refine LL.nil ?_
  refine EE.end _ rfl rfl ?_
  exact ⟨⟨_, rfl⟩, rfl, h2, hkk⟩
theorem callsA {P : Program} {f : FuncId} {a b : Array Value} {w : World} {R : Ending → World → Prop} (h : a = b) (c : Calls P f a w R) : Calls P f b w R := h ▸ c
theorem guarded_R (F : FuncId) (cap : List Value) (eF : entB Tryd.prog F = true) (go : Nat) (Rp : Nat → World → Prop) (w : World) (hgo : go < w.heap.size)
    (hR : ∀ n X Y b, Rp n X → w.heap.size ≤ b → b < n → X.grownBy Y (some b) → Rp n Y)
    (hwork : ∀ W, Below w.heap.size w W → Calls Tryd.prog F cap.toArray W fun e W' => e = .returned (.tuple #[]) ∧ Rp W.heap.size W' ∧ Kept (KW W go) W W') :
    Calls Tryd.prog 27 #[.func (.func F) #[] cap.toArray] w fun e w' => e = .returned (.int .i64 0) ∧ (∃ n, w.heap.size ≤ n ∧ Rp n w') ∧ Kept (KW w go) w w' := by
  have q := Below.refl w.heap.size w
  have hkk := Kept.refl (KW w go) w
  refine X.fnP Tryd.func27 rfl (n := 6) rfl rfl ?_
  refine CC.seq ?_
  refine CC.region ?_
  refine LL.alloc ([Value.int IntKind.i64 0]) rfl rfl rfl rfl rfl ?_
  intro W2 g3 eg3 r4 z5 b1
  replace q := q.trans (b1.mono q.size)
  replace hkk := hkk.trans (bkept b1 (fun j h => by have := h.1; have := hkk.size; omega))
  have y6 := hkk.size
  refine LL.nilS ?_
  refine CC.seq ?_
  refine CC.region ?_
  refine LL.val (R.func rfl rfl rfl) rfl rfl rfl ?_
  refine LL.defer rfl rfl rfl rfl rfl rfl ?_
  refine LL.nilS ?_
  refine CC.seq ?_
  refine CC.region ?_
  refine LL.val (R.move rfl rfl) rfl rfl rfl ?_
  have lr4 := r4.lt
  refine LL.call (R.callV rfl rfl rfl eF) rfl rfl rfl (callsA (by simp) (hwork _ q)) ?_
  rintro e W5 ⟨rfl, hr5, t5⟩
  refine ⟨_, rfl, ?_⟩
  replace r4 := r4.kept t5 ⟨r4.lt, by omega⟩
  have zt5 := t5.size
  replace hkk := hkk.trans (t5.less fun j hj => ⟨by have := hj.1; omega, hj.2⟩)
  have hlo : w.heap.size ≤ W2.heap.size := by omega
  have hb3 : g3 < W2.heap.size := by omega
  obtain ⟨N2, hN2⟩ : ∃ N, W2.heap.size = N := ⟨_, rfl⟩
  rw [hN2] at hr5 hlo hb3
  clear t5
  refine LL.nilS ?_
  refine CC.seq ?_
  refine CC.region ?_
  refine LL.store rfl rfl rfl rfl r4 (by exact Nat.le_of_ble_eq_true rfl) rfl rfl rfl rfl ?_
  intro Wa2 ra3 ba1 za4
  have hlba1 := r4.lt
  replace ra3 : RowL Wa2 _ 29 [Value.int IntKind.i64 0] := ra3
  clear r4
  replace hkk := hkk.trans (grown_kept ba1 (fun j h => by have := h.1; have := hkk.size; omega) (fun j h e => by cases e; have h2 := h.1; have h3 := h.2; omega))
  have r4 := ra3
  clear ra3
  refine LL.nilS ?_
  refine CC.ret ?_
  (refine EE.retD (by kernel_rfl) (grd1_calm g3 _) rfl ?_; rintro e u' W6 ⟨hv, rfl, rfl⟩; exact ⟨hv, rfl, _, ⟨_, rfl, lv1 rfl (RowL.cell r4 rfl)⟩, rfl, ⟨N2, hlo, hR N2 _ _ g3 hr5 (by omega) hb3 (by assumption)⟩, hkk⟩)
theorem guarded_P (F : FuncId) (cap : List Value) (eF : entB Tryd.prog F = true) (go : Nat) (w : World) (hgo : go < w.heap.size)
    (hwork : ∀ W, Below w.heap.size w W → Calls Tryd.prog F cap.toArray W fun e W' => e = .panicked (chain1 refV) ∧ Kept (KW W go) W W') :
    Calls Tryd.prog 27 #[.func (.func F) #[] cap.toArray] w fun e w' => e = .returned (.int .i64 240) ∧ Kept (KW w go) w w' := by
  have q := Below.refl w.heap.size w
  have hkk := Kept.refl (KW w go) w
  refine X.fnP Tryd.func27 rfl (n := 6) rfl rfl ?_
  refine CC.seq ?_
  refine CC.region ?_
  refine LL.alloc ([Value.int IntKind.i64 0]) rfl rfl rfl rfl rfl ?_
  intro W2 g3 eg3 r4 z5 b1
  replace q := q.trans (b1.mono q.size)
  replace hkk := hkk.trans (bkept b1 (fun j h => by have := h.1; have := hkk.size; omega))
  have y6 := hkk.size
  refine LL.nilS ?_
  refine CC.seq ?_
  refine CC.region ?_
  refine LL.val (R.func rfl rfl rfl) rfl rfl rfl ?_
  refine LL.defer rfl rfl rfl rfl rfl rfl ?_
  refine LL.nilS ?_
  refine CC.seq ?_
  refine CC.region ?_
  refine LL.val (R.move rfl rfl) rfl rfl rfl ?_
  have lr4 := r4.lt
  refine LL.callP (R.callV rfl rfl rfl eF) rfl rfl (callsA (by simp) (hwork _ q)) ?_
  rintro e W5 ⟨rfl, t5⟩
  refine ⟨_, rfl, ?_⟩
  replace r4 := r4.kept t5 ⟨r4.lt, by omega⟩
  have zt5 := t5.size
  replace hkk := hkk.trans (t5.less fun j hj => ⟨by have := hj.1; omega, hj.2⟩)
  refine EE.thenP ?_
  (refine EE.panD (by kernel_rfl) (grd1_pan g3 _ _ r4) rfl ?_; rintro e u' W6 ⟨hv, rfl, h2, hk⟩; exact ⟨hv, rfl, _, ⟨_, rfl, lv1 rfl (RowL.cell h2 rfl)⟩, rfl, hkk.trans (hk.less fun j hj => ⟨by have := hj.1; omega, by have := hj.1; omega⟩)⟩)
end Go.Proofs.YtnoefalgmekjbaaDoor


/- inode: Check, Words. -/
namespace Go.Proofs.YtnoefalgmekjbaaDoor
set_option linter.unusedVariables false
set_option linter.unusedSimpArgs false
open Go.RowKit Go.Shelf
set_option maxRecDepth 100000
set_option maxHeartbeats 8000000
/-- An inode's words. -/
def inoW (k l z : Int) (m : List Ex) (r p : Int) (t : Bs) : List Nat :=
  if k = 1 then layF (hdN 1 l.toNat) z.toNat m else if k = 2 then layD (hdN 2 l.toNat) r.toNat p.toNat else if k = 3 then layK (hdN 3 l.toNat) t else hdN 0 0
theorem words1_any (k l z : Int) (x : Option Addr) (n c : Nat) (m : List Ex) (r p : Int) (t : Bs) (go gn : Nat) (v0 : Value) (w : World) (hS : Start w) (hv : ReadsT eE 3 w (.slice x n c) m) (hlen : m.length ≤ 1048576) (h : okI k l z m r p t) (hn : RowL w gn 25 (inL k l z (.slice x n c) r p t)) (ho : RowL w go 28 [v0]) (hne : go ≠ gn ∧ 0 < go) : Calls Tryd.prog 28 #[.pointer (some ⟨gn, 0, none⟩), .pointer (some ⟨go, 0, none⟩)] w (wordsP go (inoW k l z m r p t) w) := by
  obtain ⟨hl, ⟨rfl, rfl, rfl, hm, rfl, rfl, rfl⟩ | ⟨rfl, rfl, rfl, rfl, hf⟩ | ⟨rfl, rfl, hm, rfl, h1⟩ | ⟨rfl, rfl, hm, rfl, rfl, h1⟩⟩ := h
  · exact words1_0 x n c m go gn v0 w hS hv hlen hm hn ho hne
  · obtain ⟨l, rfl⟩ : ∃ y : Nat, l = (y : Int) := ⟨l.toNat, by omega⟩
    have hz := hf.1
    obtain ⟨z, rfl⟩ : ∃ y : Nat, z = (y : Int) := ⟨z.toNat, by omega⟩
    exact words1_1 l z x n c m go gn v0 w hS hv hlen (by omega) hf hn ho hne
  · obtain ⟨l, rfl⟩ : ∃ y : Nat, l = (y : Int) := ⟨l.toNat, by omega⟩
    obtain ⟨r, rfl⟩ : ∃ y : Nat, r = (y : Int) := ⟨r.toNat, by omega⟩
    obtain ⟨p, rfl⟩ : ∃ y : Nat, p = (y : Int) := ⟨p.toNat, by omega⟩
    exact words1_2 l r p x n c m go gn v0 w hS hv hlen hm (by omega) (by omega) hn ho hne
  · obtain ⟨l, rfl⟩ : ∃ y : Nat, l = (y : Int) := ⟨l.toNat, by omega⟩
    exact words1_3 l t x n c m go gn v0 w hS hv hlen hm (by omega) h1 hn ho hne
section
variable (k l z : Int) (x : Option Addr) (n c : Nat) (m : List Ex) (r p : Int) (t : Bs)
end
end Go.Proofs.YtnoefalgmekjbaaDoor


/- inode: Words; Check refused. -/
namespace Go.Proofs.YtnoefalgmekjbaaDoor
set_option linter.unusedVariables false
set_option linter.unusedSimpArgs false
open Go.RowKit Go.Shelf
set_option maxRecDepth 100000
set_option maxHeartbeats 8000000
section
variable (k l z : Int) (x : Option Addr) (n c : Nat) (m : List Ex) (r p : Int) (t : Bs)
/-- What Words hands back. -/
def wsP (ws : List Nat) (w0 : World) (e : Ending) (w : World) : Prop := ∃ g, e = .returned (.tuple #[.slice (some ⟨g, 0, none⟩) 16 16, .int .i64 0]) ∧ RowL w g 41 (ints .u64 ws) ∧ w0.heap.size ≤ g ∧ Below w0.heap.size w0 w
theorem words_ok (w : World) (hS : Start w) (hv : ReadsT eE 3 w (.slice x n c) m) (hlen : m.length ≤ 1048576) (h : okI k l z m r p t) : Calls Tryd.prog 11 #[inV k l z (.slice x n c) r p t] w (wsP (inoW k l z m r p t) w) := by
  unfold wsP
  have q := Below.refl w.heap.size w
  have hS0 := hS.pos
  have hvF : ∀ X, Below w.heap.size w X → ReadsT eE 3 X (.slice x n c) m := fun X b => hv.up b
  have hSF : ∀ X, Below w.heap.size w X → Start X := fun X b => hS.up b
  clear hv hS
  refine X.fn Tryd.func11 rfl (n := 10) rfl rfl ?_
  refine CC.seq ?_
  refine CC.region ?_
  refine LL.box [Value.int IntKind.i64 k, Value.int IntKind.i64 l, Value.int IntKind.i64 z, Value.slice x n c, Value.int IntKind.i64 r, Value.int IntKind.i64 p, strV t] rfl rfl rfl rfl rfl ?_
  intro W2 g3 eg3 r4 z5 b1
  replace q := q.trans (b1.mono q.size)
  refine LL.val (R.assign rfl rfl) rfl rfl rfl ?_
  refine LL.val (R.assign rfl rfl) rfl rfl rfl ?_
  refine LL.nilS ?_
  refine CC.seq ?_
  refine CC.region ?_
  have l6 := r4.lt
  refine LL.alloc ([Value.slice none 0 0]) rfl rfl rfl rfl rfl ?_
  intro W8 g9 eg9 r10 z11 b7
  replace r4 := r4.up b7
  replace b1 := b1.trans (b7.mono b1.size)
  replace q := q.trans (b7.mono q.size)
  refine LL.nilS ?_
  refine CC.seq ?_
  refine CC.region ?_
  refine LL.val (R.func rfl rfl rfl) rfl rfl rfl ?_
  (have lg4 := r4.lt; have lg10 := r10.lt; refine LL.call (R.call rfl rfl rfl) rfl rfl rfl (guarded_R _ [Value.pointer (some ⟨g3, 0, none⟩), .pointer (some ⟨g9, 0, none⟩)] (by kernel_rfl) g9 (fun n X => ∃ gw, RowL X g9 28 [.slice (some ⟨gw, 0, none⟩) 16 16] ∧ RowL X gw 41 (ints .u64 (inoW k l z m r p t)) ∧ n ≤ gw) _ (by omega) (fun n X Y b ⟨gw, h1, h2, h3⟩ hb1 hb2 hg => ⟨gw, h1.gr hg (by omega), h2.gr hg (by omega), h3⟩) (fun W' b' => words1_any k l z x n c m r p t g9 g3 _ W' (hSF _ (q.trans (b'.mono q.size))) (hvF _ (q.trans (b'.mono q.size))) hlen h (r4.up b') (r10.up b') ⟨by omega, by omega⟩)) ?_; rintro e @W ⟨rfl, ⟨n9, hn9, gw, r91, r92, h93⟩, t9⟩; refine ⟨_, rfl, ?_⟩; replace q := t9.onB q (fun j hj => ⟨by omega, by omega⟩); clear r4 b1 b7 r10)
  refine LL.val (R.assign rfl rfl) rfl rfl rfl ?_
  refine LL.nilS ?_
  refine CC.seq ?_
  refine CC.region ?_
  refine LL.val (R.load rfl rfl (I.ld1 rfl (RowL.cell r91 rfl))) rfl rfl rfl ?_
  refine LL.val (R.move rfl rfl) rfl rfl rfl ?_
  refine LL.val (R.assign rfl rfl) rfl rfl rfl ?_
  refine LL.val (R.assign rfl rfl) rfl rfl rfl ?_
  refine LL.nilS ?_
  refine CC.ret ?_
  refine EE.ret _ rfl rfl ?_
  exact ⟨gw, rfl, r92, by omega, q⟩
end
theorem fld_k (x : Nat) (hx : x < 18446744073709551616) (w : World) : Calls Tryd.prog 39 #[.int .u64 (x : Int), .int .i64 0, .int .i64 8] w fun e w' => e = .returned (.tuple #[.int .u64 ((x % 256 : Nat) : Int), .int .i64 0]) ∧ w = w' := by
  have h := field_ok x 0 8 hx (by omega) (by omega) w
  rw [show x / 2 ^ 0 % 2 ^ 8 = x % 256 by simp] at h
  exact h
end Go.Proofs.YtnoefalgmekjbaaDoor


/- slices.Equal of words. -/
namespace Go.Proofs.YtnoefalgmekjbaaDoor
set_option linter.unusedVariables false
set_option linter.unusedSimpArgs false
open Go.RowKit Go.Shelf
end Go.Proofs.YtnoefalgmekjbaaDoor


/- inode: Of's work (written by gen15.py). -/
namespace Go.Proofs.YtnoefalgmekjbaaDoor
set_option linter.unusedVariables false
set_option linter.unusedSimpArgs false
open Go.RowKit Go.Shelf
set_option maxRecDepth 100000
set_option maxHeartbeats 8000000
theorem WdsAt.kept {W X : World} {bk off gu : Nat} {ws : List Nat} (h : WdsAt W bk off ws) (k : Kept (KU W gu) W X) (hne : bk ≠ gu) : WdsAt X bk off ws :=
  ⟨fun j x hj => (World.cell?_of_block (k.block bk ⟨h.lt, hne⟩)).trans (h.cells j x hj), Nat.lt_of_lt_of_le h.lt k.size⟩
theorem WdsAt.up {W X : World} {bk off : Nat} {ws : List Nat} (h : WdsAt W bk off ws) (b : Below W.heap.size W X) : WdsAt X bk off ws :=
  ⟨fun j x hj => cell_up (h.cells j x hj) b, Nat.lt_of_lt_of_le h.lt b.size⟩
theorem inoW_len {k l z : Int} {m : List Ex} {r p : Int} {t : Bs} (h : okI k l z m r p t) : (inoW k l z m r p t).length = 16 := by
  have hd : ∀ k l, (hdN k l).length = 16 := fun k l => by simp [hdN]
  obtain ⟨hl, ⟨rfl, rfl, rfl, hm, rfl, rfl, rfl⟩ | ⟨rfl, rfl, rfl, rfl, hf⟩ | ⟨rfl, rfl, hm, rfl, h1⟩ | ⟨rfl, rfl, hm, rfl, rfl, h1⟩⟩ := h
  · exact hd 0 0
  · show (layF _ _ _).length = 16
    have := wrdN_len hf.2.1
    exact putL_len (putL_len (hd 1 _) (by simp)) (by omega)
  · show (layD _ _ _).length = 16
    exact putL_len (hd 2 _) (by simp)
  · show (layK _ _).length = 16
    have := layL_len t
    exact putL_len (putL_len (hd 3 _) (by simp)) (by omega)
theorem WdsAt.all {X : World} {bk off cap : Nat} {ws : List Nat} (h : WdsAt X bk off ws) (hl : ws.length = 16) (hc : 16 ≤ cap) : Reads X (.slice (some ⟨bk, off, none⟩) 16 cap) (ints .u64 ws) := by
  have h2 := h.reads 0 16 cap (by omega) hc
  rw [show (ws.drop 0).take 16 = ws by rw [List.drop_zero, List.take_of_length_le (by omega)]] at h2
  exact h2
/-- What Of's work leaves. -/
def ofP (go : Nat) (k l z : Int) (m : List Ex) (r p : Int) (t : Bs) (w0 : World) (e : Ending) (w : World) : Prop := e = .returned (.tuple #[]) ∧ (∃ v, RowL w go 25 (inL k l z v r p t) ∧ ReadsT eE 3 w v m ∧ ∀ b off n c, v = .slice (some ⟨b, off, none⟩) n c → w0.heap.size ≤ b) ∧ Kept (KW w0 go) w0 w
theorem of1_Z (gs go bk off cap : Nat) (ws : List Nat) (w : World) (hS : Start w) (hws : ws.length = 16) (hwb : ∀ x ∈ ws, x < 18446744073709551616) (hcap : 16 ≤ cap) (hs : RowL w gs 28 [.slice (some ⟨bk, off, none⟩) 16 cap]) (hW : WdsAt w bk off ws) (ho : RowL w go 25 (inL 0 0 0 (.slice none 0 0) 0 0 [])) (hne : go ≠ gs ∧ 0 < go ∧ bk ≠ go) (x0 : Nat) (h0 : ws[0]? = some x0) (hx0 : x0 = 0) : Calls Tryd.prog 37 #[.pointer (some ⟨gs, 0, none⟩), .pointer (some ⟨go, 0, none⟩)] w (ofP go 0 0 0 [] 0 0 [] w) := by
  unfold ofP
  have hkk := Kept.refl (KW w go) w
  have lgs := hs.lt
  have lgo := ho.lt
  have lbk := hW.lt
  have hS0 := hS.pos
  have hWF : ∀ X, Below w.heap.size w X → WdsAt X bk off ws := fun X b => hW.up b
  have hSF : ∀ X, Below w.heap.size w X → Start X := fun X b => hS.up b
  have hx64 := hwb x0 (List.mem_of_getElem? h0)
  have c0 : w.cell? ⟨bk, off + 0, none⟩ = some (.int .u64 (x0 : Int)) := hW.cells 0 x0 h0
  have q := Below.refl w.heap.size w
  clear hW hS
  refine X.fn Tryd.func37 rfl (n := 70) rfl rfl ?_
  refine CC.seq ?_
  refine CC.region ?_
  refine LL.val (R.load rfl rfl (I.ld1 rfl (RowL.cell hs rfl))) rfl rfl rfl ?_
  refine LL.val (R.len rfl rfl rfl rfl) rfl rfl rfl ?_
  refine LL.val (R.neF rfl rfl rfl (by omega)) rfl rfl rfl ?_
  refine LL.call (R.call rfl rfl rfl) rfl rfl rfl (refuse_F _) ?_
  rintro e W' ⟨rfl, rfl⟩
  refine ⟨_, rfl, ?_⟩
  refine LL.nilS ?_
  refine CC.seq ?_
  refine CC.seq ?_
  refine CC.region ?_
  refine LL.val (R.load rfl rfl (I.ld1 rfl (RowL.cell hs rfl))) rfl rfl rfl ?_
  refine LL.val (R.index rfl rfl rfl (I.ixS1c rfl rfl (by omega))) rfl rfl rfl ?_
  refine LL.val (R.load rfl rfl (I.ld1 rfl (by assumption))) rfl rfl rfl ?_
  refine LL.val (R.eqT rfl rfl rfl (by omega)) rfl rfl rfl ?_
  refine LL.nilS ?_
  refine CC.yes rfl ?_
  refine CC.ret ?_
  refine EE.thenR ?_
  refine EE.ret _ rfl rfl ?_
  exact ⟨rfl, ⟨_, ho, ReadsT.nil _, fun b off n c e => by cases e⟩, hkk⟩
theorem of1_L (gk gs go : Nat) (a : Option Addr) (n c : Nat) (w : World) (hs : RowL w gs 28 [.slice a n c]) (hn : n ≠ 16) : Calls Tryd.prog 37 #[.pointer (some ⟨gs, 0, none⟩), .pointer (some ⟨go, 0, none⟩)] w fun e w' => e = .panicked (chain1 refV) ∧ Kept (KW w gk) w w' := by
  have hkk := Kept.refl (KW w gk) w
  refine X.fnP Tryd.func37 rfl (n := 70) rfl rfl ?_
  refine CC.seq ?_
  refine CC.region ?_
  refine LL.val (R.load rfl rfl (I.ld1 rfl (RowL.cell hs rfl))) rfl rfl rfl ?_
  refine LL.val (R.len rfl rfl rfl rfl) rfl rfl rfl ?_
  refine LL.val (R.neT rfl rfl rfl (by omega)) rfl rfl rfl ?_
  refine LL.callP (R.call rfl rfl rfl) rfl rfl (refuse_T _) ?_
  rintro e W2 ⟨rfl, rfl⟩
  refine ⟨_, rfl, ?_⟩
  refine EE.thenP ?_
  refine EE.panM ?_
  exact ⟨rfl, hkk⟩
end Go.Proofs.YtnoefalgmekjbaaDoor


/- inode: Of; Linked. -/
namespace Go.Proofs.YtnoefalgmekjbaaDoor
set_option linter.unusedVariables false
set_option linter.unusedSimpArgs false
open Go.RowKit Go.Shelf
set_option maxRecDepth 100000
set_option maxHeartbeats 8000000
section
variable {P : Program} {w : World} {t u T : TypeId} {o : Oper} {x y : Operand} {n e k : Nat} {D : List Deferred} {M : Slots}
end
def ofR (k l z : Int) (m : List Ex) (r p : Int) (t : Bs) (w0 : World) (e : Ending) (w : World) : Prop := ∃ v, e = .returned (.tuple #[inV k l z v r p t, .int .i64 0]) ∧ ReadsT eE 3 w v m ∧ Below w0.heap.size w0 w
theorem of_run (a : Option Addr) (n c : Nat) (k l z : Int) (m : List Ex) (r p : Int) (t : Bs) (w : World) (hS0 : 0 < w.heap.size)
    (hwork : ∀ W gs go, Below w.heap.size w W → w.heap.size ≤ gs → w.heap.size ≤ go → go ≠ gs → RowL W gs 28 [.slice a n c] → RowL W go 25 (inL 0 0 0 (.slice none 0 0) 0 0 []) → Calls Tryd.prog 37 #[.pointer (some ⟨gs, 0, none⟩), .pointer (some ⟨go, 0, none⟩)] W (ofP go k l z m r p t W)) :
    Calls Tryd.prog 17 #[.slice a n c] w (ofR k l z m r p t w) := by
  unfold ofR
  have q := Below.refl w.heap.size w
  refine X.fn Tryd.func17 rfl (n := 10) rfl rfl ?_
  refine CC.seq ?_
  refine CC.region ?_
  refine LL.box [Value.slice a n c] rfl rfl rfl rfl rfl ?_
  intro W2 g3 eg3 r4 z5 b1
  replace q := q.trans (b1.mono q.size)
  have l6 := r4.lt
  refine LL.alloc ([Value.int IntKind.i64 0, Value.int IntKind.i64 0, Value.int IntKind.i64 0, Value.slice none 0 0, Value.int IntKind.i64 0, Value.int IntKind.i64 0, Value.string { data := { toList := [] } }]) rfl rfl rfl rfl rfl ?_
  intro W8 g9 eg9 r10 z11 b7
  replace r4 := r4.up b7
  replace b1 := b1.trans (b7.mono b1.size)
  replace q := q.trans (b7.mono q.size)
  refine LL.val (R.assign rfl rfl) rfl rfl rfl ?_
  refine LL.nilS ?_
  refine CC.seq ?_
  refine CC.region ?_
  have l12 := r10.lt
  have l13 := r4.lt
  refine LL.alloc ([Value.int IntKind.i64 0, Value.int IntKind.i64 0, Value.int IntKind.i64 0, Value.slice none 0 0, Value.int IntKind.i64 0, Value.int IntKind.i64 0, Value.string { data := { toList := [] } }]) rfl rfl rfl rfl rfl ?_
  intro W15 g16 eg16 r17 z18 b14
  replace r10 := r10.up b14
  replace b7 := b7.trans (b14.mono b7.size)
  replace r4 := r4.up b14
  replace b1 := b1.trans (b14.mono b1.size)
  replace q := q.trans (b14.mono q.size)
  refine LL.nilS ?_
  refine CC.seq ?_
  refine CC.region ?_
  refine LL.val (R.func rfl rfl rfl) rfl rfl rfl ?_
  have lg4 := r4.lt
  have lg17 := r17.lt
  refine LL.call (R.call rfl rfl rfl) rfl rfl rfl (guarded_R _ [Value.pointer (some ⟨g3, 0, none⟩), .pointer (some ⟨g16, 0, none⟩)] (by kernel_rfl) g16 (fun n X => ∃ v, RowL X g16 25 (inL k l z v r p t) ∧ ReadsT eE 3 X v m ∧ ∀ b off n' c', v = .slice (some ⟨b, off, none⟩) n' c' → n ≤ b) _ (by omega) (fun n X Y b ⟨v, h1, h2, h3⟩ hb1 hb2 hg => ⟨v, h1.gr hg (by omega), readsT_far h2 (grown_kept (K := fun i => i < X.heap.size ∧ i ≠ b) hg (fun k hk => hk.1) (fun k hk e => by cases e; exact hk.2 rfl)) (fun b2 off n2 c2 e hlt => ⟨hlt, by have := h3 b2 off n2 c2 e; omega⟩), h3⟩) (fun W' b' => hwork W' g3 g16 (q.trans (b'.mono q.size)) (by omega) (by omega) (by omega) (r4.up b') (r17.up b'))) ?_
  rintro e W9 ⟨rfl, ⟨n9, hn9, v9, r91, rd9, hge9⟩, t9⟩
  refine ⟨_, rfl, ?_⟩
  replace q := t9.onB q (fun j hj => ⟨by omega, by omega⟩)
  replace r10 := r10.kept t9 ⟨by omega, by omega⟩
  clear r4 r17 b1 b7 b14
  obtain ⟨x9, c9, rfl, _⟩ := rd9.form rfl
  have hk9 := Kept.refl (fun i => i < W9.heap.size ∧ i ≠ g9) W9
  have rd9F := fun X (b : Below W9.heap.size W9 X) => rd9.up b
  clear rd9
  have zt9 := t9.size
  refine LL.val (R.assign rfl rfl) rfl rfl rfl ?_
  refine LL.nilS ?_
  refine CC.seq ?_
  refine CC.region ?_
  refine LL.val (R.load rfl rfl (I.ldNc (vs := [Value.int IntKind.i64 k, Value.int IntKind.i64 l, Value.int IntKind.i64 z, Value.slice x9 m.length c9, Value.int IntKind.i64 r, Value.int IntKind.i64 p, strV t]) (RowL.cells r91 rfl) (by rfl) (by rfl))) rfl rfl rfl ?_
  refine LL.val (R.move rfl rfl) rfl rfl rfl ?_
  refine LL.storeN (vs := [Value.int IntKind.i64 k, Value.int IntKind.i64 l, Value.int IntKind.i64 z, Value.slice x9 m.length c9, Value.int IntKind.i64 r, Value.int IntKind.i64 p, strV t]) rfl rfl rfl rfl r10 (by exact Nat.le_of_ble_eq_true rfl) (ones_of rfl) rfl rfl ?_
  intro Wa2 ra3 ba1 za4
  have hlba1 := r10.lt
  replace ra3 : RowL Wa2 _ 25 [Value.int IntKind.i64 k, Value.int IntKind.i64 l, Value.int IntKind.i64 z, Value.slice x9 m.length c9, Value.int IntKind.i64 r, Value.int IntKind.i64 p, strV t] := ra3
  clear r10
  replace q := q.grown ba1 q.size (by rintro k ⟨⟩; omega)
  replace r91 := r91.gr ba1 (by have := r91.lt; omega)
  replace hk9 := hk9.trans (grown_kept ba1 (fun j h => by have := h.1; have := hk9.size; omega) (fun j h e => by cases e; have h2 := h.1; have h3 := h.2; omega))
  have r10 := ra3
  clear ra3
  refine LL.val (R.assign rfl rfl) rfl rfl rfl ?_
  refine LL.nilS ?_
  refine CC.ret ?_
  refine EE.ret2 rfl ⟨_, rfl, lvNc (RowL.cells0 (by assumption)) (by rfl) (by rfl)⟩ rfl ?_
  exact ⟨_, rfl, readsT_far (rd9F _ (Below.refl _ _)) hk9 (fun b off n c e hlt => ⟨hlt, by have := hge9 b off n c e; omega⟩), q⟩
theorem of_pan (a : Option Addr) (n c : Nat) (w : World)
    (hwork : ∀ W gs go gk, Below w.heap.size w W → w.heap.size ≤ gs → w.heap.size ≤ go → go ≠ gs → RowL W gs 28 [.slice a n c] → RowL W go 25 (inL 0 0 0 (.slice none 0 0) 0 0 []) → Calls Tryd.prog 37 #[.pointer (some ⟨gs, 0, none⟩), .pointer (some ⟨go, 0, none⟩)] W fun e W' => e = .panicked (chain1 refV) ∧ Kept (KW W gk) W W') :
    Calls Tryd.prog 17 #[.slice a n c] w fun e w' => e = .returned (.tuple #[inV 0 0 0 (.slice none 0 0) 0 0 [], .int .i64 240]) ∧ Below w.heap.size w w' := by
  have q := Below.refl w.heap.size w
  refine X.fn Tryd.func17 rfl (n := 10) rfl rfl ?_
  refine CC.seq ?_
  refine CC.region ?_
  refine LL.box [Value.slice a n c] rfl rfl rfl rfl rfl ?_
  intro W2 g3 eg3 r4 z5 b1
  replace q := q.trans (b1.mono q.size)
  have l6 := r4.lt
  refine LL.alloc ([Value.int IntKind.i64 0, Value.int IntKind.i64 0, Value.int IntKind.i64 0, Value.slice none 0 0, Value.int IntKind.i64 0, Value.int IntKind.i64 0, Value.string { data := { toList := [] } }]) rfl rfl rfl rfl rfl ?_
  intro W8 g9 eg9 r10 z11 b7
  replace r4 := r4.up b7
  replace b1 := b1.trans (b7.mono b1.size)
  replace q := q.trans (b7.mono q.size)
  refine LL.val (R.assign rfl rfl) rfl rfl rfl ?_
  refine LL.nilS ?_
  refine CC.seq ?_
  refine CC.region ?_
  have l12 := r10.lt
  have l13 := r4.lt
  refine LL.alloc ([Value.int IntKind.i64 0, Value.int IntKind.i64 0, Value.int IntKind.i64 0, Value.slice none 0 0, Value.int IntKind.i64 0, Value.int IntKind.i64 0, Value.string { data := { toList := [] } }]) rfl rfl rfl rfl rfl ?_
  intro W15 g16 eg16 r17 z18 b14
  replace r10 := r10.up b14
  replace b7 := b7.trans (b14.mono b7.size)
  replace r4 := r4.up b14
  replace b1 := b1.trans (b14.mono b1.size)
  replace q := q.trans (b14.mono q.size)
  refine LL.nilS ?_
  refine CC.seq ?_
  refine CC.region ?_
  refine LL.val (R.func rfl rfl rfl) rfl rfl rfl ?_
  have lg4 := r4.lt
  have lg17 := r17.lt
  refine LL.call (R.call rfl rfl rfl) rfl rfl rfl (guarded_P _ [Value.pointer (some ⟨g3, 0, none⟩), .pointer (some ⟨g16, 0, none⟩)] (by kernel_rfl) g3 _ (by omega) (fun W' b' => hwork W' g3 g16 g3 (q.trans (b'.mono q.size)) (by omega) (by omega) (by omega) (r4.up b') (r17.up b'))) ?_
  rintro e W9 ⟨rfl, t9⟩
  refine ⟨_, rfl, ?_⟩
  replace q := t9.onB q (fun j hj => ⟨by omega, by omega⟩)
  replace r10 := r10.kept t9 ⟨by omega, by omega⟩
  replace r17 := r17.kept t9 ⟨by omega, by omega⟩
  clear r4 b1 b7 b14
  refine LL.val (R.assign rfl rfl) rfl rfl rfl ?_
  refine LL.nilS ?_
  refine CC.seq ?_
  refine CC.region ?_
  refine LL.val (R.load rfl rfl (I.ldNc (vs := [Value.int IntKind.i64 0, Value.int IntKind.i64 0, Value.int IntKind.i64 0, Value.slice none 0 0, Value.int IntKind.i64 0, Value.int IntKind.i64 0, Value.string { data := { toList := [] } }]) (RowL.cells r17 rfl) (by rfl) (by rfl))) rfl rfl rfl ?_
  refine LL.val (R.move rfl rfl) rfl rfl rfl ?_
  refine LL.storeN (vs := [Value.int IntKind.i64 0, Value.int IntKind.i64 0, Value.int IntKind.i64 0, Value.slice none 0 0, Value.int IntKind.i64 0, Value.int IntKind.i64 0, Value.string { data := { toList := [] } }]) rfl rfl rfl rfl r10 (by exact Nat.le_of_ble_eq_true rfl) (ones_of rfl) rfl rfl ?_
  intro Wa2 ra3 ba1 za4
  have hlba1 := r10.lt
  replace ra3 : RowL Wa2 _ 25 [Value.int IntKind.i64 0, Value.int IntKind.i64 0, Value.int IntKind.i64 0, Value.slice none 0 0, Value.int IntKind.i64 0, Value.int IntKind.i64 0, Value.string { data := { toList := [] } }] := ra3
  clear r10
  replace q := q.grown ba1 q.size (by rintro k ⟨⟩; omega)
  replace r17 := r17.gr ba1 (by have := r17.lt; omega)
  have r10 := ra3
  clear ra3
  refine LL.val (R.assign rfl rfl) rfl rfl rfl ?_
  refine LL.nilS ?_
  refine CC.ret ?_
  refine EE.ret2 rfl ⟨_, rfl, lvNc (RowL.cells0 (by assumption)) (by rfl) (by rfl)⟩ rfl ?_
  exact ⟨rfl, q⟩
theorem fld_h (x : Nat) (hx : x < 18446744073709551616) (w : World) : Calls Tryd.prog 39 #[.int .u64 (x : Int), .int .i64 32, .int .i64 32] w fun e w' => e = .returned (.tuple #[.int .u64 ((x / 4294967296 : Nat) : Int), .int .i64 0]) ∧ w = w' := by
  have h := field_ok x 32 32 hx (by omega) (by omega) w
  rw [show x / 2 ^ 32 % 2 ^ 32 = x / 4294967296 by simp; omega] at h
  exact h
theorem with_l (x v : Nat) (w : World) (hx : x < 4294967296) (hv : v < 16777216) : Calls Tryd.prog 47 #[.int .u64 (x : Int), .int .i64 8, .int .i64 24, .int .u64 (v : Int)] w fun e w' => e = .returned (.tuple #[.int .u64 ((x % 256 + 256 * v : Nat) : Int), .int .i64 0]) ∧ Below w.heap.size w w' :=
  (with_ok x 8 24 v (by omega) (by omega) (by omega) (by omega) w).mono fun e w' ⟨he, n, hn⟩ => by
    rw [show x - x / 2 ^ 8 % 2 ^ 24 * 2 ^ 8 + v * 2 ^ 8 = x % 256 + 256 * v by simp; omega] at he
    exact ⟨he, by rw [hn]; exact Below.drewN (Below.refl _ _) n⟩
theorem linked_T (x l : Nat) (w : World) (hx : x < 4294967296) (hk : 1 ≤ x % 256 ∧ x % 256 ≤ 3) (hl : l ≤ 65535) : Calls Tryd.prog 23 #[.int .u64 (x : Int), .int .i64 (l : Int)] w fun e w' => e = .returned (.tuple #[.int .u64 ((x % 256 + 256 * l : Nat) : Int), .int .i64 0]) ∧ Below w.heap.size w w' := by
  have q := Below.refl w.heap.size w
  refine X.fn Tryd.func23 rfl (n := 43) rfl rfl ?_
  refine CC.seq ?_
  refine CC.region ?_
  refine LL.val (R.assign rfl rfl) rfl rfl rfl ?_
  refine LL.val (R.assign rfl rfl) rfl rfl rfl ?_
  refine LL.nilS ?_
  refine CC.seq ?_
  refine CC.region ?_
  refine LL.val (R.move rfl rfl) rfl rfl rfl ?_
  refine LL.call (R.call rfl rfl rfl) rfl rfl rfl (fld_k _ (by first | assumption | omega) _) ?_
  rintro e W' ⟨rfl, rfl⟩
  refine ⟨_, rfl, ?_⟩
  refine LL.val (R.move rfl rfl) rfl rfl rfl ?_
  refine LL.val (R.extract rfl rfl rfl) rfl rfl rfl ?_
  refine LL.val (R.extract rfl rfl rfl) rfl rfl rfl ?_
  refine LL.val (R.assign rfl rfl) rfl rfl rfl ?_
  refine LL.val (R.assign rfl rfl) rfl rfl rfl ?_
  refine LL.nilS ?_
  refine CC.seq ?_
  refine CC.region ?_
  refine LL.val (R.move rfl rfl) rfl rfl rfl ?_
  refine LL.call (R.call rfl rfl rfl) rfl rfl rfl (fld_h _ (by first | assumption | omega) _) ?_
  rintro e W' ⟨rfl, rfl⟩
  refine ⟨_, rfl, ?_⟩
  refine LL.val (R.move rfl rfl) rfl rfl rfl ?_
  refine LL.val (R.extract rfl rfl rfl) rfl rfl rfl ?_
  refine LL.val (R.extract rfl rfl rfl) rfl rfl rfl ?_
  refine LL.val (R.assign rfl rfl) rfl rfl rfl ?_
  refine LL.val (R.assign rfl rfl) rfl rfl rfl ?_
  refine LL.nilS ?_
  refine CC.seq ?_
  refine CC.seq ?_
  refine CC.region ?_
  refine LL.val (R.move rfl rfl) rfl rfl rfl ?_
  refine LL.val (R.neF rfl rfl rfl (by omega)) rfl rfl rfl ?_
  refine LL.val (R.move rfl rfl) rfl rfl rfl ?_
  refine LL.val (R.move rfl rfl) rfl rfl rfl ?_
  refine LL.val (R.convI rfl rfl rfl rfl (wrapI (by omega) (by omega))) rfl rfl rfl ?_
  refine LL.call (R.call rfl rfl rfl) rfl rfl rfl (kwithin_T _ _ _ _ (by first | assumption | omega)) ?_
  rintro e W' ⟨rfl, rfl⟩
  refine ⟨_, rfl, ?_⟩
  refine LL.val (R.not rfl rfl) rfl rfl rfl ?_
  refine LL.val (R.pick rfl rfl rfl) rfl rfl rfl ?_
  refine LL.val (R.move rfl rfl) rfl rfl rfl ?_
  refine LL.val (R.move rfl rfl) rfl rfl rfl ?_
  refine LL.call (R.call rfl rfl rfl) rfl rfl rfl (within_T _ _ _ _ (by first | assumption | omega)) ?_
  rintro e W' ⟨rfl, rfl⟩
  refine ⟨_, rfl, ?_⟩
  refine LL.val (R.not rfl rfl) rfl rfl rfl ?_
  refine LL.val (R.pick rfl rfl rfl) rfl rfl rfl ?_
  refine LL.nilS ?_
  refine CC.no rfl ?_
  refine CC.skip ?_
  refine EE.thenN ?_
  refine CC.seq ?_
  refine CC.region ?_
  refine LL.val (R.move rfl rfl) rfl rfl rfl ?_
  refine LL.val (R.move rfl rfl) rfl rfl rfl ?_
  refine LL.val (R.convI rfl rfl rfl rfl (wrapU (by omega) (by omega))) rfl rfl rfl ?_
  (refine LL.call (R.call rfl rfl rfl) rfl rfl rfl (with_l x l _ hx (by omega)) ?_; rintro e W228 ⟨rfl, b225⟩; refine ⟨_, rfl, ?_⟩)
  have zb225 := b225.size
  replace q := q.trans (b225.mono q.size)
  refine LL.val (R.move rfl rfl) rfl rfl rfl ?_
  refine LL.val (R.extract rfl rfl rfl) rfl rfl rfl ?_
  refine LL.val (R.extract rfl rfl rfl) rfl rfl rfl ?_
  refine LL.val (R.assign rfl rfl) rfl rfl rfl ?_
  refine LL.val (R.assign rfl rfl) rfl rfl rfl ?_
  refine LL.nilS ?_
  refine CC.seq ?_
  refine CC.region ?_
  refine LL.val (R.move rfl rfl) rfl rfl rfl ?_
  refine LL.val (R.assign rfl rfl) rfl rfl rfl ?_
  refine LL.val (R.assign rfl rfl) rfl rfl rfl ?_
  refine LL.nilS ?_
  refine CC.ret ?_
  refine EE.ret _ rfl rfl ?_
  exact ⟨rfl, q⟩
end Go.Proofs.YtnoefalgmekjbaaDoor


/- inode: begins; the chapter's rows. -/
namespace Go.Proofs.YtnoefalgmekjbaaDoor
set_option linter.unusedVariables false
set_option linter.unusedSimpArgs false
open Go.RowKit Go.Shelf
set_option maxRecDepth 100000
set_option maxHeartbeats 8000000
theorem wsame_any (v1 v2 : Value) (xs ys : List Nat) (w : World) (h1 : Reads w v1 (ints .u64 xs)) (h2 : Reads w v2 (ints .u64 ys)) (hx : xs.length ≤ 1048576) (hy : ys.length ≤ 1048576) :
    Calls Tryd.prog 16 #[v1, v2] w fun e w' => e = .returned (.bool (decide (xs = ys))) ∧ Below w.heap.size w w' := by
  refine (same_any v1 v2 xs ys w h1 h2 hx hy).mono ?_
  rintro e w' ⟨rfl, n, rfl⟩
  exact ⟨rfl, Below.drewN (Below.refl _ _) n⟩
theorem num_any (a : Int) (w : World) : Calls Tryd.prog 13 #[.int .i64 a] w fun e w' => e = .returned (.int .i64 a) ∧ w = w' := by
  refine X.fn Tryd.func13 rfl (n := 4) rfl rfl ?_
  refine CC.seq ?_
  refine CC.region ?_
  refine LL.val (R.assign rfl rfl) rfl rfl rfl ?_
  refine LL.nilS ?_
  refine CC.seq ?_
  refine CC.region ?_
  refine LL.val (R.move rfl rfl) rfl rfl rfl ?_
  refine LL.val (R.assign rfl rfl) rfl rfl rfl ?_
  refine LL.nilS ?_
  refine CC.ret ?_
  refine EE.ret _ rfl rfl ?_
  exact ⟨rfl, rfl⟩
theorem wsame_T (v1 v2 : Value) (xs ys : List Nat) (w : World) (h1 : Reads w v1 (ints .u64 xs)) (h2 : Reads w v2 (ints .u64 ys)) (hx : xs.length ≤ 1048576) (e : ys = xs) :
    Calls Tryd.prog 16 #[v1, v2] w fun e w' => e = .returned (.bool true) ∧ Below w.heap.size w w' := by
  subst e
  have := wsame_any v1 v2 ys ys w h1 h2 hx hx
  simpa using this
theorem beg_T (g : Nat) (a2 : Option Addr) (n2 c2 : Nat) (ws l : List Nat) (w : World) (h1 : Reads w (.slice (some ⟨g, 0, none⟩) 16 16) (ints .u64 ws)) (h2 : Reads w (.slice a2 n2 c2) (ints .u64 l)) (hn : ws.length = 16) (hle : n2 ≤ 16) (ht : l = ws.take n2) : Calls Tryd.prog 26 #[.slice (some ⟨g, 0, none⟩) 16 16, .slice a2 n2 c2] w fun e w' => e = .returned (.bool true) ∧ Below w.heap.size w w' := by
  have q := Below.refl w.heap.size w
  have h3 : Reads w (.slice (some ⟨g, 0, none⟩) n2 16) (ints .u64 (ws.take n2)) := by
    have := h1.take n2 (by omega) 16 (by omega)
    rwa [show (ints .u64 ws).take n2 = ints .u64 (ws.take n2) by simp [ints]] at this
  have h3F := fun X (b : Below w.heap.size w X) => h3.up b
  have h2F := fun X (b : Below w.heap.size w X) => h2.up b
  clear h1 h2 h3
  have hl : (ws.take n2).length ≤ 1048576 := by simp; omega
  refine X.fn Tryd.func26 rfl (n := 18) rfl rfl ?_
  refine CC.seq ?_
  refine CC.region ?_
  refine LL.val (R.assign rfl rfl) rfl rfl rfl ?_
  refine LL.nilS ?_
  refine CC.seq ?_
  refine CC.region ?_
  refine LL.val (R.move rfl rfl) rfl rfl rfl ?_
  refine LL.val (R.len rfl rfl rfl rfl) rfl rfl rfl ?_
  refine LL.val (R.move rfl rfl) rfl rfl rfl ?_
  refine LL.val (R.len rfl rfl rfl rfl) rfl rfl rfl ?_
  refine LL.val (R.geT rfl rfl rfl (by omega)) rfl rfl rfl ?_
  refine LL.val (R.move rfl rfl) rfl rfl rfl ?_
  refine LL.val (R.move rfl rfl) rfl rfl rfl ?_
  refine LL.val (R.move rfl rfl) rfl rfl rfl ?_
  refine LL.val (R.len rfl rfl rfl rfl) rfl rfl rfl ?_
  refine LL.val (R.slice rfl rfl rfl rfl rfl (I.slTo rfl (by omega))) rfl rfl rfl ?_
  refine LL.val (R.move rfl rfl) rfl rfl rfl ?_
  refine LL.call (R.call rfl rfl rfl) rfl rfl rfl (wsame_T _ _ _ _ _ (h3F _ q) (h2F _ q) hl ht) ?_
  rintro e W2 ⟨rfl, b1⟩
  refine ⟨_, rfl, ?_⟩
  have zb1 := b1.size
  replace q := q.trans (b1.mono q.size)
  refine LL.val (R.pick rfl rfl rfl) rfl rfl rfl ?_
  refine LL.val (R.assign rfl rfl) rfl rfl rfl ?_
  refine LL.nilS ?_
  refine CC.ret ?_
  refine EE.ret _ rfl rfl ?_
  exact ⟨rfl, q⟩
theorem of_Z (bk off cap : Nat) (ws : List Nat) (w : World) (hS : Start w) (hws : ws.length = 16) (hwb : ∀ x ∈ ws, x < 18446744073709551616) (hcap : 16 ≤ cap) (hW : WdsAt w bk off ws) (h0 : ws[0]? = some 0) : Calls Tryd.prog 17 #[.slice (some ⟨bk, off, none⟩) 16 cap] w (ofR 0 0 0 [] 0 0 [] w) :=
  of_run _ 16 cap 0 0 0 [] 0 0 [] w hS.pos (fun W gs go b hgs hgo hne hs ho => of1_Z gs go bk off cap ws W (hS.up b) hws hwb hcap hs (hW.up b) ho ⟨hne, by have := hS.pos; omega, by have := hW.lt; omega⟩ 0 h0 rfl)
theorem of_L (a : Option Addr) (n c : Nat) (w : World) (hn : n ≠ 16) : Calls Tryd.prog 17 #[.slice a n c] w fun e w' => e = .returned (.tuple #[inV 0 0 0 (.slice none 0 0) 0 0 [], .int .i64 240]) ∧ Below w.heap.size w w' :=
  of_pan a n c w (fun W gs go gk b hgs hgo hne hs ho => of1_L gk gs go a n c W hs hn)
theorem okD : okI 2 1 0 [] 20 1 [] := by unfold okI; simp
theorem okK : okI 3 2 0 [] 0 0 [97] := by unfold okI; simp
theorem begD : [258, 0, 20, 1] = (inoW 2 1 0 [] 20 1 []).take 4 := by decide +kernel
theorem begK : [515, 1, 97] = (inoW 3 2 0 [] 0 0 [97]).take 3 := by decide +kernel
theorem beg_R (g g2 n2 : Nat) (ws l : List Nat) (L : List Value) (w : World) (h1 : RowL w g 41 (ints .u64 ws)) (h2 : RowL w g2 41 L) (eL : L = ints .u64 l) (hn : ws.length = 16) (hle : n2 ≤ 16) (hl : l.length = n2) (ht : l = ws.take n2) : Calls Tryd.prog 26 #[.slice (some ⟨g, 0, none⟩) 16 16, .slice (some ⟨g2, 0, none⟩) n2 n2] w fun e w' => e = .returned (.bool true) ∧ Below w.heap.size w w' := by
  subst eL
  exact beg_T g _ n2 n2 ws l w (RowL.asInts h1 .u64 _ rfl hn) (RowL.asInts h2 .u64 _ rfl hl) hn hle ht
theorem same0 : (true = true) ↔ sameI 0 0 0 [] 0 0 [] 0 0 0 [] 0 0 [] := by simp [sameI]
def oddL : List Nat := [0, 7, 0, 0, 0, 0, 0, 0, 0, 0, 0, 0, 0, 0, 0, 0]
theorem works_any (w : World) (hS : Start w) : Calls Tryd.prog 10 #[] w fun x w' => x = .returned (.bool true) ∧ Below w.heap.size w w' := by
  have q := Below.refl w.heap.size w
  have hSF : ∀ X, Below w.heap.size w X → Start X := fun X b => hS.up b
  refine X.fn Tryd.func10 rfl (n := 81) rfl rfl ?_
  refine CC.seq ?_
  refine CC.region ?_
  refine LL.val (R.assign rfl rfl) rfl rfl rfl ?_
  refine LL.nilS ?_
  refine CC.seq ?_
  refine CC.region ?_
  refine LL.val (R.buildV rfl rfl (v := .agg #[Value.int IntKind.i64 2, Value.int IntKind.i64 1, Value.int IntKind.i64 0, Value.slice none 0 0, Value.int IntKind.i64 20, Value.int IntKind.i64 1, Value.string { data := #[] }]) (fun _ => by kernel_rfl)) rfl rfl rfl ?_
  (refine LL.call (R.call rfl rfl rfl) rfl rfl rfl (words_ok 2 1 0 none 0 0 [] 20 1 [] _ (hSF _ q) (ReadsT.nil _) (by decide) okD) ?_; rintro e W32 ⟨g8, rfl, r81, hg8, b29⟩; refine ⟨_, rfl, ?_⟩)
  have zb29 := b29.size
  replace hS := hS.up b29
  replace q := q.trans (b29.mono q.size)
  refine LL.val (R.move rfl rfl) rfl rfl rfl ?_
  refine LL.val (R.extract rfl rfl rfl) rfl rfl rfl ?_
  refine LL.val (R.extract rfl rfl rfl) rfl rfl rfl ?_
  refine LL.val (R.assign rfl rfl) rfl rfl rfl ?_
  refine LL.val (R.assign rfl rfl) rfl rfl rfl ?_
  refine LL.nilS ?_
  refine CC.seq ?_
  refine CC.region ?_
  refine LL.val (R.buildV rfl rfl (v := .agg #[Value.int IntKind.i64 3, Value.int IntKind.i64 2, Value.int IntKind.i64 0, Value.slice none 0 0, Value.int IntKind.i64 0, Value.int IntKind.i64 0, Value.string { data := #[97] }]) (fun _ => by kernel_rfl)) rfl rfl rfl ?_
  have l144 := r81.lt
  (refine LL.call (R.call rfl rfl rfl) rfl rfl rfl (words_ok 3 2 0 none 0 0 [] 0 0 [97] _ (hSF _ q) (ReadsT.nil _) (by decide) okK) ?_; rintro e W143 ⟨g9, rfl, r91, hg9, b140⟩; refine ⟨_, rfl, ?_⟩)
  have zb140 := b140.size
  replace r81 := r81.up b140
  replace b29 := b29.trans (b140.mono b29.size)
  replace hS := hS.up b140
  replace q := q.trans (b140.mono q.size)
  refine LL.val (R.move rfl rfl) rfl rfl rfl ?_
  refine LL.val (R.extract rfl rfl rfl) rfl rfl rfl ?_
  refine LL.val (R.extract rfl rfl rfl) rfl rfl rfl ?_
  refine LL.val (R.assign rfl rfl) rfl rfl rfl ?_
  refine LL.val (R.assign rfl rfl) rfl rfl rfl ?_
  refine LL.nilS ?_
  refine CC.seq ?_
  refine CC.region ?_
  have l81 := r81.lt
  have l91 := r91.lt
  refine LL.make (l := 16) (m := 16) El64 rfl rfl rfl (by omega) (by omega) (by omega) rfl rfl ?_
  intro Wm gm egm rm zm bm
  replace q := q.trans (bm.mono q.size)
  replace r81 := r81.up bm
  replace r91 := r91.up bm
  have lgm := rm.lt
  clear b140 zb140 b29 bm hS
  refine LL.val (R.assign rfl rfl) rfl rfl rfl ?_
  refine LL.nilS ?_
  refine CC.seq ?_
  refine CC.region ?_
  refine LL.val (R.move rfl rfl) rfl rfl rfl ?_
  refine LL.val (R.index rfl rfl rfl (I.ixS1c rfl rfl (by omega))) rfl rfl rfl ?_
  refine LL.store rfl rfl rfl rfl rm (by exact Nat.le_of_ble_eq_true rfl) rfl rfl rfl rfl ?_
  intro Wa2 ra3 ba1 za4
  have hlba1 := rm.lt
  replace ra3 : RowL Wa2 _ 41 [Value.int IntKind.u64 0, Value.int IntKind.u64 7, Value.int IntKind.u64 0, Value.int IntKind.u64 0, Value.int IntKind.u64 0, Value.int IntKind.u64 0, Value.int IntKind.u64 0, Value.int IntKind.u64 0, Value.int IntKind.u64 0, Value.int IntKind.u64 0, Value.int IntKind.u64 0, Value.int IntKind.u64 0, Value.int IntKind.u64 0, Value.int IntKind.u64 0, Value.int IntKind.u64 0, Value.int IntKind.u64 0] := ra3
  clear rm
  replace q := q.grown ba1 q.size (by rintro k ⟨⟩; omega)
  replace r81 := r81.gr ba1 (by have := r81.lt; omega)
  replace r91 := r91.gr ba1 (by have := r91.lt; omega)
  have rm := ra3
  clear ra3
  refine LL.nilS ?_
  refine CC.seq ?_
  refine CC.region ?_
  refine LL.val (R.move rfl rfl) rfl rfl rfl ?_
  have hO : WdsAt Wa2 gm 0 oddL := ⟨fun j x hj => by rw [Nat.zero_add]; exact RowL.cell (xs := ints .u64 oddL) rm (by simp [ints, hj]), rm.lt⟩
  clear rm
  refine LL.call (R.call rfl rfl rfl) rfl rfl rfl (of_Z gm 0 16 oddL Wa2 (hSF _ q) rfl (by decide) (by omega) hO rfl) ?_
  rintro e W4 ⟨v4, rfl, rd4, b4⟩
  refine ⟨_, rfl, ?_⟩
  have zb4 := b4.size
  have hO3 := hO.lt
  replace q := q.trans (b4.mono q.size)
  replace r81 := r81.up b4
  replace r91 := r91.up b4
  clear hO b4
  obtain ⟨x4, c4, rfl, _⟩ := rd4.form rfl
  have rd4F := fun X (b : Below W4.heap.size W4 X) => rd4.up b
  clear rd4
  have hlt8 := r81.lt
  have hlt9 := r91.lt
  refine LL.val (R.move rfl rfl) rfl rfl rfl ?_
  refine LL.val (R.extract rfl rfl rfl) rfl rfl rfl ?_
  refine LL.val (R.extract rfl rfl rfl) rfl rfl rfl ?_
  have lb181 := r81.lt
  have lb182 := r91.lt
  refine LL.alloc ([Value.int IntKind.i64 0, Value.int IntKind.i64 0, Value.int IntKind.i64 0, Value.slice none 0 0, Value.int IntKind.i64 0, Value.int IntKind.i64 0, Value.string { data := { toList := [] } }]) rfl rfl rfl rfl rfl ?_
  intro Wb184 gb185 egb185 rb186 zb187 bb183
  replace q := q.trans (bb183.mono q.size)
  replace r81 := r81.up bb183
  replace r91 := r91.up bb183
  refine LL.storeN (vs := [Value.int IntKind.i64 0, Value.int IntKind.i64 0, Value.int IntKind.i64 0, Value.slice x4 [].length c4, Value.int IntKind.i64 0, Value.int IntKind.i64 0, strV []]) rfl rfl rfl rfl rb186 (by exact Nat.le_of_ble_eq_true rfl) (ones_of rfl) rfl rfl ?_
  intro Wb239 rb240 bb238 zb241
  have hlbb238 := rb186.lt
  replace rb240 : RowL Wb239 _ 25 [Value.int IntKind.i64 0, Value.int IntKind.i64 0, Value.int IntKind.i64 0, Value.slice x4 [].length c4, Value.int IntKind.i64 0, Value.int IntKind.i64 0, strV []] := rb240
  clear rb186
  replace bb183 := bb183.grown bb238 bb183.size (by rintro k ⟨⟩; omega)
  replace q := q.grown bb238 q.size (by rintro k ⟨⟩; omega)
  replace r81 := r81.gr bb238 (by have := r81.lt; omega)
  replace r91 := r91.gr bb238 (by have := r91.lt; omega)
  have rb186 := rb240
  clear rb240
  refine LL.val (R.assign rfl rfl) rfl rfl rfl ?_
  refine LL.nilS ?_
  refine CC.seq ?_
  refine CC.region ?_
  refine LL.val (R.move rfl rfl) rfl rfl rfl ?_
  refine LL.val (R.slice rfl rfl rfl rfl rfl (I.slToc rfl rfl (by omega))) rfl rfl rfl ?_
  have lb396 := r81.lt
  have lb397 := r91.lt
  have lb398 := rb186.lt
  (refine LL.call (R.call rfl rfl rfl) rfl rfl rfl (of_L _ 15 16 _ (by decide)) ?_; rintro e Wb395 ⟨rfl, bb392⟩; refine ⟨_, rfl, ?_⟩)
  have zbb392 := bb392.size
  replace bb183 := bb183.trans (bb392.mono bb183.size)
  replace q := q.trans (bb392.mono q.size)
  replace r81 := r81.up bb392
  replace r91 := r91.up bb392
  replace rb186 := rb186.up bb392
  refine LL.val (R.move rfl rfl) rfl rfl rfl ?_
  refine LL.val (R.extract rfl rfl rfl) rfl rfl rfl ?_
  refine LL.val (R.extract rfl rfl rfl) rfl rfl rfl ?_
  have lb602 := r81.lt
  have lb603 := r91.lt
  have lb604 := rb186.lt
  refine LL.alloc ([Value.int IntKind.i64 0, Value.int IntKind.i64 0, Value.int IntKind.i64 0, Value.slice none 0 0, Value.int IntKind.i64 0, Value.int IntKind.i64 0, Value.string { data := { toList := [] } }]) rfl rfl rfl rfl rfl ?_
  intro Wb606 gb607 egb607 rb608 zb609 bb605
  replace bb392 := bb392.trans (bb605.mono bb392.size)
  replace bb183 := bb183.trans (bb605.mono bb183.size)
  replace q := q.trans (bb605.mono q.size)
  replace r81 := r81.up bb605
  replace r91 := r91.up bb605
  replace rb186 := rb186.up bb605
  refine LL.storeN (vs := [Value.int IntKind.i64 0, Value.int IntKind.i64 0, Value.int IntKind.i64 0, Value.slice none 0 0, Value.int IntKind.i64 0, Value.int IntKind.i64 0, strV []]) rfl rfl rfl rfl rb608 (by exact Nat.le_of_ble_eq_true rfl) (ones_of rfl) rfl rfl ?_
  intro Wb666 rb667 bb665 zb668
  have hlbb665 := rb608.lt
  replace rb667 : RowL Wb666 _ 25 [Value.int IntKind.i64 0, Value.int IntKind.i64 0, Value.int IntKind.i64 0, Value.slice none 0 0, Value.int IntKind.i64 0, Value.int IntKind.i64 0, strV []] := rb667
  clear rb608
  replace bb605 := bb605.grown bb665 bb605.size (by rintro k ⟨⟩; omega)
  replace bb392 := bb392.grown bb665 bb392.size (by rintro k ⟨⟩; omega)
  replace bb183 := bb183.grown bb665 bb183.size (by rintro k ⟨⟩; omega)
  replace q := q.grown bb665 q.size (by rintro k ⟨⟩; omega)
  replace r81 := r81.gr bb665 (by have := r81.lt; omega)
  replace r91 := r91.gr bb665 (by have := r91.lt; omega)
  replace rb186 := rb186.gr bb665 (by have := rb186.lt; omega)
  have rb608 := rb667
  clear rb667
  refine LL.val (R.assign rfl rfl) rfl rfl rfl ?_
  refine LL.nilS ?_
  refine CC.seq ?_
  refine CC.region ?_
  have lb739 := r81.lt
  have lb740 := r91.lt
  have lb741 := rb186.lt
  have lb742 := rb608.lt
  (refine LL.call (R.call rfl rfl rfl) rfl rfl rfl (linked_T 258 3 _ (by decide) (by decide) (by decide)) ?_; rintro e Wb738 ⟨rfl, bb735⟩; refine ⟨_, rfl, ?_⟩)
  have zbb735 := bb735.size
  replace bb605 := bb605.trans (bb735.mono bb605.size)
  replace bb392 := bb392.trans (bb735.mono bb392.size)
  replace bb183 := bb183.trans (bb735.mono bb183.size)
  replace q := q.trans (bb735.mono q.size)
  replace r81 := r81.up bb735
  replace r91 := r91.up bb735
  replace rb186 := rb186.up bb735
  replace rb608 := rb608.up bb735
  refine LL.val (R.move rfl rfl) rfl rfl rfl ?_
  refine LL.val (R.extract rfl rfl rfl) rfl rfl rfl ?_
  refine LL.val (R.extract rfl rfl rfl) rfl rfl rfl ?_
  refine LL.val (R.assign rfl rfl) rfl rfl rfl ?_
  refine LL.val (R.assign rfl rfl) rfl rfl rfl ?_
  refine LL.nilS ?_
  refine CC.seq ?_
  refine CC.region ?_
  refine LL.val (R.move rfl rfl) rfl rfl rfl ?_
  refine LL.call (R.call rfl rfl rfl) rfl rfl rfl (num_any _ _) ?_
  rintro e W' ⟨rfl, rfl⟩
  refine ⟨_, rfl, ?_⟩
  refine LL.val (R.move rfl rfl) rfl rfl rfl ?_
  refine LL.call (R.call rfl rfl rfl) rfl rfl rfl (num_any _ _) ?_
  rintro e W' ⟨rfl, rfl⟩
  refine ⟨_, rfl, ?_⟩
  refine LL.val (R.addIz (z := 0) rfl rfl rfl (by decide) (by decide)) rfl rfl rfl ?_
  refine LL.val (R.move rfl rfl) rfl rfl rfl ?_
  refine LL.call (R.call rfl rfl rfl) rfl rfl rfl (num_any _ _) ?_
  rintro e W' ⟨rfl, rfl⟩
  refine ⟨_, rfl, ?_⟩
  refine LL.val (R.addIz (z := 0) rfl rfl rfl (by decide) (by decide)) rfl rfl rfl ?_
  refine LL.val (R.move rfl rfl) rfl rfl rfl ?_
  refine LL.call (R.call rfl rfl rfl) rfl rfl rfl (num_any _ _) ?_
  rintro e W' ⟨rfl, rfl⟩
  refine ⟨_, rfl, ?_⟩
  refine LL.val (R.addIz (z := 0) rfl rfl rfl (by decide) (by decide)) rfl rfl rfl ?_
  refine LL.val (R.eqT rfl rfl rfl (by omega)) rfl rfl rfl ?_
  refine LL.val (R.move rfl rfl) rfl rfl rfl ?_
  refine LL.val (R.move rfl rfl) rfl rfl rfl ?_
  have lb1846 := r81.lt
  have lb1847 := r91.lt
  have lb1848 := rb186.lt
  have lb1849 := rb608.lt
  refine LL.lit (e := 41) [Value.int IntKind.u64 258, Value.int IntKind.u64 0, Value.int IntKind.u64 20, Value.int IntKind.u64 1] 4 rfl rfl (fun _ => by kernel_rfl) rfl rfl ?_
  intro Wb1851 gb1852 egb1852 rb1853 zb1854 bb1850
  replace bb735 := bb735.trans (bb1850.mono bb735.size)
  replace bb605 := bb605.trans (bb1850.mono bb605.size)
  replace bb392 := bb392.trans (bb1850.mono bb392.size)
  replace bb183 := bb183.trans (bb1850.mono bb183.size)
  replace q := q.trans (bb1850.mono q.size)
  replace r81 := r81.up bb1850
  replace r91 := r91.up bb1850
  replace rb186 := rb186.up bb1850
  replace rb608 := rb608.up bb1850
  have lb1883 := rb1853.lt
  have lb1884 := r81.lt
  have lb1885 := r91.lt
  have lb1886 := rb186.lt
  have lb1887 := rb608.lt
  (refine LL.call (R.call rfl rfl rfl) rfl rfl rfl (beg_R g8 _ 4 (inoW 2 1 0 [] 20 1 []) [258, 0, 20, 1] _ _ r81 (by assumption) rfl (inoW_len okD) (by decide) rfl begD) ?_; rintro e Wb1882 ⟨rfl, bb1879⟩; refine ⟨_, rfl, ?_⟩)
  have zbb1879 := bb1879.size
  replace rb1853 := rb1853.up bb1879
  replace bb1850 := bb1850.trans (bb1879.mono bb1850.size)
  replace bb735 := bb735.trans (bb1879.mono bb735.size)
  replace bb605 := bb605.trans (bb1879.mono bb605.size)
  replace bb392 := bb392.trans (bb1879.mono bb392.size)
  replace bb183 := bb183.trans (bb1879.mono bb183.size)
  replace q := q.trans (bb1879.mono q.size)
  replace r81 := r81.up bb1879
  replace r91 := r91.up bb1879
  replace rb186 := rb186.up bb1879
  replace rb608 := rb608.up bb1879
  refine LL.val (R.pick rfl rfl rfl) rfl rfl rfl ?_
  refine LL.val (R.move rfl rfl) rfl rfl rfl ?_
  refine LL.val (R.move rfl rfl) rfl rfl rfl ?_
  refine LL.val (R.len rfl rfl rfl rfl) rfl rfl rfl ?_
  refine LL.val (R.eqT rfl rfl rfl (by omega)) rfl rfl rfl ?_
  refine LL.val (R.pick rfl rfl rfl) rfl rfl rfl ?_
  refine LL.val (R.move rfl rfl) rfl rfl rfl ?_
  refine LL.val (R.move rfl rfl) rfl rfl rfl ?_
  have lb2431 := rb1853.lt
  have lb2432 := r81.lt
  have lb2433 := r91.lt
  have lb2434 := rb186.lt
  have lb2435 := rb608.lt
  refine LL.lit (e := 41) [Value.int IntKind.u64 515, Value.int IntKind.u64 1, Value.int IntKind.u64 97] 3 rfl rfl (fun _ => by kernel_rfl) rfl rfl ?_
  intro Wb2437 gb2438 egb2438 rb2439 zb2440 bb2436
  replace bb1879 := bb1879.trans (bb2436.mono bb1879.size)
  replace rb1853 := rb1853.up bb2436
  replace bb1850 := bb1850.trans (bb2436.mono bb1850.size)
  replace bb735 := bb735.trans (bb2436.mono bb735.size)
  replace bb605 := bb605.trans (bb2436.mono bb605.size)
  replace bb392 := bb392.trans (bb2436.mono bb392.size)
  replace bb183 := bb183.trans (bb2436.mono bb183.size)
  replace q := q.trans (bb2436.mono q.size)
  replace r81 := r81.up bb2436
  replace r91 := r91.up bb2436
  replace rb186 := rb186.up bb2436
  replace rb608 := rb608.up bb2436
  have lb2484 := rb2439.lt
  have lb2485 := rb1853.lt
  have lb2486 := r81.lt
  have lb2487 := r91.lt
  have lb2488 := rb186.lt
  have lb2489 := rb608.lt
  (refine LL.call (R.call rfl rfl rfl) rfl rfl rfl (beg_R g9 _ 3 (inoW 3 2 0 [] 0 0 [97]) [515, 1, 97] _ _ r91 (by assumption) rfl (inoW_len okK) (by decide) rfl begK) ?_; rintro e Wb2483 ⟨rfl, bb2480⟩; refine ⟨_, rfl, ?_⟩)
  have zbb2480 := bb2480.size
  replace rb2439 := rb2439.up bb2480
  replace bb2436 := bb2436.trans (bb2480.mono bb2436.size)
  replace bb1879 := bb1879.trans (bb2480.mono bb1879.size)
  replace rb1853 := rb1853.up bb2480
  replace bb1850 := bb1850.trans (bb2480.mono bb1850.size)
  replace bb735 := bb735.trans (bb2480.mono bb735.size)
  replace bb605 := bb605.trans (bb2480.mono bb605.size)
  replace bb392 := bb392.trans (bb2480.mono bb392.size)
  replace bb183 := bb183.trans (bb2480.mono bb183.size)
  replace q := q.trans (bb2480.mono q.size)
  replace r81 := r81.up bb2480
  replace r91 := r91.up bb2480
  replace rb186 := rb186.up bb2480
  replace rb608 := rb608.up bb2480
  refine LL.val (R.pick rfl rfl rfl) rfl rfl rfl ?_
  refine LL.val (R.move rfl rfl) rfl rfl rfl ?_
  refine LL.val (R.load rfl rfl (I.ldNc (vs := [Value.int IntKind.i64 0, Value.int IntKind.i64 0, Value.int IntKind.i64 0, Value.slice x4 [].length c4, Value.int IntKind.i64 0, Value.int IntKind.i64 0, strV []]) (RowL.cells rb186 rfl) (by rfl) (by rfl))) rfl rfl rfl ?_
  refine LL.val (R.buildV rfl rfl (v := .agg #[Value.int IntKind.i64 0, Value.int IntKind.i64 0, Value.int IntKind.i64 0, Value.slice none 0 0, Value.int IntKind.i64 0, Value.int IntKind.i64 0, Value.string { data := #[] }]) (fun _ => by kernel_rfl)) rfl rfl rfl ?_
  have lb2809 := rb2439.lt
  have lb2810 := rb1853.lt
  have lb2811 := r81.lt
  have lb2812 := r91.lt
  have lb2813 := rb186.lt
  have lb2814 := rb608.lt
  (refine LL.call (R.call rfl rfl rfl) rfl rfl rfl (dinsame_any 0 0 0 _ [] 0 0 [] 0 0 0 _ [] 0 0 [] _ (rd4F _ (by assumption)) (ReadsT.nil _) (by decide) (by decide) true same0) ?_; rintro e Wb2808 ⟨rfl, bb2805⟩; refine ⟨_, rfl, ?_⟩)
  have zbb2805 := bb2805.size
  replace bb2480 := bb2480.trans (bb2805.mono bb2480.size)
  replace rb2439 := rb2439.up bb2805
  replace bb2436 := bb2436.trans (bb2805.mono bb2436.size)
  replace bb1879 := bb1879.trans (bb2805.mono bb1879.size)
  replace rb1853 := rb1853.up bb2805
  replace bb1850 := bb1850.trans (bb2805.mono bb1850.size)
  replace bb735 := bb735.trans (bb2805.mono bb735.size)
  replace bb605 := bb605.trans (bb2805.mono bb605.size)
  replace bb392 := bb392.trans (bb2805.mono bb392.size)
  replace bb183 := bb183.trans (bb2805.mono bb183.size)
  replace q := q.trans (bb2805.mono q.size)
  replace r81 := r81.up bb2805
  replace r91 := r91.up bb2805
  replace rb186 := rb186.up bb2805
  replace rb608 := rb608.up bb2805
  refine LL.val (R.pick rfl rfl rfl) rfl rfl rfl ?_
  refine LL.val (R.move rfl rfl) rfl rfl rfl ?_
  refine LL.val (R.move rfl rfl) rfl rfl rfl ?_
  refine LL.call (R.call rfl rfl rfl) rfl rfl rfl (num_any _ _) ?_
  rintro e W' ⟨rfl, rfl⟩
  refine ⟨_, rfl, ?_⟩
  refine LL.val (R.eqT rfl rfl rfl (by omega)) rfl rfl rfl ?_
  refine LL.val (R.pick rfl rfl rfl) rfl rfl rfl ?_
  refine LL.val (R.move rfl rfl) rfl rfl rfl ?_
  refine LL.val (R.move rfl rfl) rfl rfl rfl ?_
  refine LL.val (R.eqT rfl rfl rfl (by omega)) rfl rfl rfl ?_
  refine LL.val (R.pick rfl rfl rfl) rfl rfl rfl ?_
  refine LL.val (R.assign rfl rfl) rfl rfl rfl ?_
  refine LL.nilS ?_
  refine CC.ret ?_
  refine EE.ret _ rfl rfl ?_
  exact ⟨rfl, q⟩
end Go.Proofs.YtnoefalgmekjbaaDoor


/- InodeSame: the walk. -/
namespace Go.Proofs.YtnoefalgmekjbaaDoor
set_option linter.unusedVariables false
set_option linter.unusedSimpArgs false
open Go.RowKit Go.Shelf
set_option maxRecDepth 100000
set_option maxHeartbeats 8000000
theorem few_any (k l z : Int) (x : Option Addr) (n c : Nat) (r p : Int) (t : Bs) (w : World) (hn : n ≤ 9223372036854775807) (ht : t.length ≤ 9223372036854775807) (b : Bool) (hb : b = decide (n ≤ 30 ∧ t.length ≤ 300)) : Calls Tryd.prog 9 #[inV k l z (.slice x n c) r p t] w fun e w' => e = .returned (.bool b) ∧ Below w.heap.size w w' := by
  have q := Below.refl w.heap.size w
  by_cases hA : n ≤ 30
  · by_cases hB : t.length ≤ 300
    · rw [decide_eq_true ⟨hA, hB⟩] at hb
      subst hb
      refine X.fn Tryd.func9 rfl (n := 13) rfl rfl ?_
      refine CC.seq ?_
      refine CC.region ?_
      refine LL.box [Value.int IntKind.i64 k, Value.int IntKind.i64 l, Value.int IntKind.i64 z, Value.slice x n c, Value.int IntKind.i64 r, Value.int IntKind.i64 p, strV t] rfl rfl rfl rfl rfl ?_
      intro W2 g3 eg3 r4 z5 b1
      replace q := q.trans (b1.mono q.size)
      refine LL.val (R.assign rfl rfl) rfl rfl rfl ?_
      refine LL.nilS ?_
      refine CC.seq ?_
      refine CC.region ?_
      refine LL.val (R.field rfl rfl (I.fld rfl)) rfl rfl rfl ?_
      refine LL.val (R.load rfl rfl (I.ld1 rfl (RowL.cell r4 rfl))) rfl rfl rfl ?_
      refine LL.val (R.len rfl rfl rfl rfl) rfl rfl rfl ?_
      refine LL.val (R.leT rfl rfl rfl (by omega)) rfl rfl rfl ?_
      refine LL.val (R.move rfl rfl) rfl rfl rfl ?_
      refine LL.val (R.field rfl rfl (I.fld rfl)) rfl rfl rfl ?_
      refine LL.val (R.load rfl rfl (I.ld1 rfl (RowL.cell r4 rfl))) rfl rfl rfl ?_
      refine LL.val (R.lenS rfl rfl rfl rfl) rfl rfl rfl ?_
      refine LL.val (R.leT rfl rfl rfl (by omega)) rfl rfl rfl ?_
      refine LL.val (R.pick rfl rfl rfl) rfl rfl rfl ?_
      refine LL.val (R.assign rfl rfl) rfl rfl rfl ?_
      refine LL.nilS ?_
      refine CC.ret ?_
      refine EE.ret _ rfl rfl ?_
      exact ⟨rfl, q⟩
    · rw [decide_eq_false (fun h => hB h.2)] at hb
      subst hb
      refine X.fn Tryd.func9 rfl (n := 13) rfl rfl ?_
      refine CC.seq ?_
      refine CC.region ?_
      refine LL.box [Value.int IntKind.i64 k, Value.int IntKind.i64 l, Value.int IntKind.i64 z, Value.slice x n c, Value.int IntKind.i64 r, Value.int IntKind.i64 p, strV t] rfl rfl rfl rfl rfl ?_
      intro Wa2 ga3 ega3 ra4 za5 ba1
      replace q := q.trans (ba1.mono q.size)
      refine LL.val (R.assign rfl rfl) rfl rfl rfl ?_
      refine LL.nilS ?_
      refine CC.seq ?_
      refine CC.region ?_
      refine LL.val (R.field rfl rfl (I.fld rfl)) rfl rfl rfl ?_
      refine LL.val (R.load rfl rfl (I.ld1 rfl (RowL.cell ra4 rfl))) rfl rfl rfl ?_
      refine LL.val (R.len rfl rfl rfl rfl) rfl rfl rfl ?_
      refine LL.val (R.leT rfl rfl rfl (by omega)) rfl rfl rfl ?_
      refine LL.val (R.move rfl rfl) rfl rfl rfl ?_
      refine LL.val (R.field rfl rfl (I.fld rfl)) rfl rfl rfl ?_
      refine LL.val (R.load rfl rfl (I.ld1 rfl (RowL.cell ra4 rfl))) rfl rfl rfl ?_
      refine LL.val (R.lenS rfl rfl rfl rfl) rfl rfl rfl ?_
      refine LL.val (R.leF rfl rfl rfl (by omega)) rfl rfl rfl ?_
      refine LL.val (R.pick rfl rfl rfl) rfl rfl rfl ?_
      refine LL.val (R.assign rfl rfl) rfl rfl rfl ?_
      refine LL.nilS ?_
      refine CC.ret ?_
      refine EE.ret _ rfl rfl ?_
      exact ⟨rfl, q⟩
  · rw [decide_eq_false (fun h => hA h.1)] at hb
    subst hb
    refine X.fn Tryd.func9 rfl (n := 13) rfl rfl ?_
    refine CC.seq ?_
    refine CC.region ?_
    refine LL.box [Value.int IntKind.i64 k, Value.int IntKind.i64 l, Value.int IntKind.i64 z, Value.slice x n c, Value.int IntKind.i64 r, Value.int IntKind.i64 p, strV t] rfl rfl rfl rfl rfl ?_
    intro Wb2 gb3 egb3 rb4 zb5 bb1
    replace q := q.trans (bb1.mono q.size)
    refine LL.val (R.assign rfl rfl) rfl rfl rfl ?_
    refine LL.nilS ?_
    refine CC.seq ?_
    refine CC.region ?_
    refine LL.val (R.field rfl rfl (I.fld rfl)) rfl rfl rfl ?_
    refine LL.val (R.load rfl rfl (I.ld1 rfl (RowL.cell rb4 rfl))) rfl rfl rfl ?_
    refine LL.val (R.len rfl rfl rfl rfl) rfl rfl rfl ?_
    refine LL.val (R.leF rfl rfl rfl (by omega)) rfl rfl rfl ?_
    refine LL.val (R.move rfl rfl) rfl rfl rfl ?_
    refine LL.skip rfl rfl ?_
    refine LL.skip rfl rfl ?_
    refine LL.skip rfl rfl ?_
    refine LL.skip rfl rfl ?_
    refine LL.val (R.pick rfl rfl rfl) rfl rfl rfl ?_
    refine LL.val (R.assign rfl rfl) rfl rfl rfl ?_
    refine LL.nilS ?_
    refine CC.ret ?_
    refine EE.ret _ rfl rfl ?_
    exact ⟨rfl, q⟩
--C law14_few | hfa @w | ⟨rfl, @b⟩
--C law14_few | hfb @w | ⟨rfl, @b⟩
--C inode_Same | hsa @w (q.trans (b'.mono q.size)) | ⟨rfl, @b⟩
--C inode_Same | hss @w (q.trans (b'.mono q.size)) | ⟨rfl, @b⟩
--C ref14_Same | hsr @w (q.trans (b'.mono q.size)) | ⟨rfl, @b⟩
--C law14_works | works_any @w (hSF _ q) | ⟨rfl, @b⟩
--C law14_works | works_any @w (hSF _ (q.trans (b'.mono q.size))) | ⟨rfl, @b⟩
theorem insame_walk (k l z : Int) (x : Option Addr) (n c : Nat) (m : List Ex) (r p : Int) (t : Bs) (k' l' z' : Int) (x' : Option Addr) (n' c' : Nat) (m' : List Ex) (r' p' : Int) (t' : Bs) (w : World) (hS : Start w) (hv : ReadsT eE 3 w (.slice x n c) m) (hu : ReadsT eE 3 w (.slice x' n' c') m') (hn : n ≤ 9223372036854775807) (hn' : n' ≤ 9223372036854775807) (hml : m.length = n) (hml' : m'.length = n') (ht : t.length ≤ 9223372036854775807) (ht' : t'.length ≤ 9223372036854775807) : Calls Tryd.prog 7 #[inV k l z (.slice x n c) r p t, inV k' l' z' (.slice x' n' c') r' p' t'] w fun e w' => e = .returned (.bool true) ∧ Below w.heap.size w w' := by
  have q := Below.refl w.heap.size w
  have hSF : ∀ X, Below w.heap.size w X → Start X := fun X b => hS.up b
  clear hS
  obtain ⟨f1, e1⟩ : ∃ f : Bool, f = decide (n ≤ 30 ∧ t.length ≤ 300) := ⟨_, rfl⟩
  obtain ⟨f2, e2⟩ : ∃ f : Bool, f = decide (n' ≤ 30 ∧ t'.length ≤ 300) := ⟨_, rfl⟩
  have hfa := fun W => few_any k l z x n c r p t W hn ht f1 e1
  have hfb := fun W => few_any k' l' z' x' n' c' r' p' t' W hn' ht' f2 e2
  cases f1 with
  | false =>
    clear hfb
    refine X.fn Tryd.func7 rfl (n := 29) rfl rfl ?_
    refine CC.seq ?_
    refine CC.region ?_
    refine LL.box [Value.int IntKind.i64 k, Value.int IntKind.i64 l, Value.int IntKind.i64 z, Value.slice x n c, Value.int IntKind.i64 r, Value.int IntKind.i64 p, strV t] rfl rfl rfl rfl rfl ?_
    intro W2 g3 eg3 r4 z5 b1
    replace hv := hv.up b1
    replace hu := hu.up b1
    replace q := q.trans (b1.mono q.size)
    have l6 := r4.lt
    refine LL.box [Value.int IntKind.i64 k', Value.int IntKind.i64 l', Value.int IntKind.i64 z', Value.slice x' n' c', Value.int IntKind.i64 r', Value.int IntKind.i64 p', strV t'] rfl rfl rfl rfl rfl ?_
    intro W8 g9 eg9 r10 z11 b7
    replace r4 := r4.up b7
    replace b1 := b1.trans (b7.mono b1.size)
    replace hv := hv.up b7
    replace hu := hu.up b7
    replace q := q.trans (b7.mono q.size)
    refine LL.val (R.assign rfl rfl) rfl rfl rfl ?_
    refine LL.nilS ?_
    refine CC.seq ?_
    refine CC.seq ?_
    refine CC.region ?_
    refine LL.val (R.load rfl rfl (I.ldNc (vs := [Value.int IntKind.i64 k, Value.int IntKind.i64 l, Value.int IntKind.i64 z, Value.slice x n c, Value.int IntKind.i64 r, Value.int IntKind.i64 p, strV t]) (RowL.cells r4 rfl) (by rfl) (by rfl))) rfl rfl rfl ?_
    refine LL.call (R.call rfl rfl rfl) rfl rfl rfl (hfa _) ?_
    rintro e W13 ⟨rfl, b12⟩
    refine ⟨_, rfl, ?_⟩
    have zb12 := b12.size
    replace r10 := r10.up b12
    replace b7 := b7.trans (b12.mono b7.size)
    replace r4 := r4.up b12
    replace b1 := b1.trans (b12.mono b1.size)
    replace hv := hv.up b12
    replace hu := hu.up b12
    replace q := q.trans (b12.mono q.size)
    refine LL.val (R.not rfl rfl) rfl rfl rfl ?_
    refine LL.val (R.move rfl rfl) rfl rfl rfl ?_
    refine LL.skip rfl rfl ?_
    refine LL.skip rfl rfl ?_
    refine LL.skip rfl rfl ?_
    refine LL.val (R.pick rfl rfl rfl) rfl rfl rfl ?_
    refine LL.nilS ?_
    refine CC.yes rfl ?_
    refine CC.seq ?_
    refine CC.region ?_
    refine LL.call (R.call rfl rfl rfl) rfl rfl rfl (works_any _ (hSF _ q)) ?_
    rintro e W16 ⟨rfl, b15⟩
    refine ⟨_, rfl, ?_⟩
    have zb15 := b15.size
    replace b12 := b12.trans (b15.mono b12.size)
    replace r10 := r10.up b15
    replace b7 := b7.trans (b15.mono b7.size)
    replace r4 := r4.up b15
    replace b1 := b1.trans (b15.mono b1.size)
    replace hv := hv.up b15
    replace hu := hu.up b15
    replace q := q.trans (b15.mono q.size)
    refine LL.val (R.assign rfl rfl) rfl rfl rfl ?_
    refine LL.nilS ?_
    refine CC.ret ?_
    refine EE.thenR ?_
    refine EE.ret _ rfl rfl ?_
    exact ⟨rfl, q⟩
  | true =>
    cases f2 with
    | false =>
      refine X.fn Tryd.func7 rfl (n := 29) rfl rfl ?_
      refine CC.seq ?_
      refine CC.region ?_
      refine LL.box [Value.int IntKind.i64 k, Value.int IntKind.i64 l, Value.int IntKind.i64 z, Value.slice x n c, Value.int IntKind.i64 r, Value.int IntKind.i64 p, strV t] rfl rfl rfl rfl rfl ?_
      intro Wa2 ga3 ega3 ra4 za5 ba1
      replace hv := hv.up ba1
      replace hu := hu.up ba1
      replace q := q.trans (ba1.mono q.size)
      have la6 := ra4.lt
      refine LL.box [Value.int IntKind.i64 k', Value.int IntKind.i64 l', Value.int IntKind.i64 z', Value.slice x' n' c', Value.int IntKind.i64 r', Value.int IntKind.i64 p', strV t'] rfl rfl rfl rfl rfl ?_
      intro Wa8 ga9 ega9 ra10 za11 ba7
      replace ra4 := ra4.up ba7
      replace ba1 := ba1.trans (ba7.mono ba1.size)
      replace hv := hv.up ba7
      replace hu := hu.up ba7
      replace q := q.trans (ba7.mono q.size)
      refine LL.val (R.assign rfl rfl) rfl rfl rfl ?_
      refine LL.nilS ?_
      refine CC.seq ?_
      refine CC.seq ?_
      refine CC.region ?_
      refine LL.val (R.load rfl rfl (I.ldNc (vs := [Value.int IntKind.i64 k, Value.int IntKind.i64 l, Value.int IntKind.i64 z, Value.slice x n c, Value.int IntKind.i64 r, Value.int IntKind.i64 p, strV t]) (RowL.cells ra4 rfl) (by rfl) (by rfl))) rfl rfl rfl ?_
      refine LL.call (R.call rfl rfl rfl) rfl rfl rfl (hfa _) ?_
      rintro e Wa13 ⟨rfl, ba12⟩
      refine ⟨_, rfl, ?_⟩
      have zba12 := ba12.size
      replace ra10 := ra10.up ba12
      replace ba7 := ba7.trans (ba12.mono ba7.size)
      replace ra4 := ra4.up ba12
      replace ba1 := ba1.trans (ba12.mono ba1.size)
      replace hv := hv.up ba12
      replace hu := hu.up ba12
      replace q := q.trans (ba12.mono q.size)
      refine LL.val (R.not rfl rfl) rfl rfl rfl ?_
      refine LL.val (R.move rfl rfl) rfl rfl rfl ?_
      refine LL.val (R.load rfl rfl (I.ldNc (vs := [Value.int IntKind.i64 k', Value.int IntKind.i64 l', Value.int IntKind.i64 z', Value.slice x' n' c', Value.int IntKind.i64 r', Value.int IntKind.i64 p', strV t']) (RowL.cells ra10 rfl) (by rfl) (by rfl))) rfl rfl rfl ?_
      refine LL.call (R.call rfl rfl rfl) rfl rfl rfl (hfb _) ?_
      rintro e Wa16 ⟨rfl, ba15⟩
      refine ⟨_, rfl, ?_⟩
      have zba15 := ba15.size
      replace ba12 := ba12.trans (ba15.mono ba12.size)
      replace ra10 := ra10.up ba15
      replace ba7 := ba7.trans (ba15.mono ba7.size)
      replace ra4 := ra4.up ba15
      replace ba1 := ba1.trans (ba15.mono ba1.size)
      replace hv := hv.up ba15
      replace hu := hu.up ba15
      replace q := q.trans (ba15.mono q.size)
      refine LL.val (R.not rfl rfl) rfl rfl rfl ?_
      refine LL.val (R.pick rfl rfl rfl) rfl rfl rfl ?_
      refine LL.nilS ?_
      refine CC.yes rfl ?_
      refine CC.seq ?_
      refine CC.region ?_
      refine LL.call (R.call rfl rfl rfl) rfl rfl rfl (works_any _ (hSF _ q)) ?_
      rintro e Wa19 ⟨rfl, ba18⟩
      refine ⟨_, rfl, ?_⟩
      have zba18 := ba18.size
      replace ba15 := ba15.trans (ba18.mono ba15.size)
      replace ba12 := ba12.trans (ba18.mono ba12.size)
      replace ra10 := ra10.up ba18
      replace ba7 := ba7.trans (ba18.mono ba7.size)
      replace ra4 := ra4.up ba18
      replace ba1 := ba1.trans (ba18.mono ba1.size)
      replace hv := hv.up ba18
      replace hu := hu.up ba18
      replace q := q.trans (ba18.mono q.size)
      refine LL.val (R.assign rfl rfl) rfl rfl rfl ?_
      refine LL.nilS ?_
      refine CC.ret ?_
      refine EE.thenR ?_
      refine EE.ret _ rfl rfl ?_
      exact ⟨rfl, q⟩
    | true =>
      have hlm : m.length ≤ 1048576 := by have := of_decide_eq_true e1.symm; omega
      have hlm' : m'.length ≤ 1048576 := by have := of_decide_eq_true e2.symm; omega
      obtain ⟨b, hb⟩ : ∃ b : Bool, b = true ↔ sameI k l z m r p t k' l' z' m' r' p' t' := by
        by_cases h : sameI k l z m r p t k' l' z' m' r' p' t'
        · exact ⟨true, by simp [h]⟩
        · exact ⟨false, by simp [h]⟩
      have hsa := fun W (bW : Below w.heap.size w W) => insame_any k l z (.slice x n c) m r p t k' l' z' (.slice x' n' c') m' r' p' t' W (hv.up bW) (hu.up bW) hlm hlm' b hb
      have hsr := fun W (bW : Below w.heap.size w W) => dinsame_any k l z (.slice x n c) m r p t k' l' z' (.slice x' n' c') m' r' p' t' W (hv.up bW) (hu.up bW) hlm hlm' b hb
      have hss := fun W (bW : Below w.heap.size w W) => insame_any k l z (.slice x n c) m r p t k l z (.slice x n c) m r p t W (hv.up bW) (hv.up bW) hlm hlm true (by simp [sameI])
      clear hv hu hb e1 e2
      cases b with
      | true =>
        refine X.fn Tryd.func7 rfl (n := 29) rfl rfl ?_
        refine CC.seq ?_
        refine CC.region ?_
        refine LL.box [Value.int IntKind.i64 k, Value.int IntKind.i64 l, Value.int IntKind.i64 z, Value.slice x n c, Value.int IntKind.i64 r, Value.int IntKind.i64 p, strV t] rfl rfl rfl rfl rfl ?_
        intro Wb2 gb3 egb3 rb4 zb5 bb1
        replace q := q.trans (bb1.mono q.size)
        have lb6 := rb4.lt
        refine LL.box [Value.int IntKind.i64 k', Value.int IntKind.i64 l', Value.int IntKind.i64 z', Value.slice x' n' c', Value.int IntKind.i64 r', Value.int IntKind.i64 p', strV t'] rfl rfl rfl rfl rfl ?_
        intro Wb8 gb9 egb9 rb10 zb11 bb7
        replace rb4 := rb4.up bb7
        replace bb1 := bb1.trans (bb7.mono bb1.size)
        replace q := q.trans (bb7.mono q.size)
        refine LL.val (R.assign rfl rfl) rfl rfl rfl ?_
        refine LL.nilS ?_
        refine CC.seq ?_
        refine CC.seq ?_
        refine CC.region ?_
        refine LL.val (R.load rfl rfl (I.ldNc (vs := [Value.int IntKind.i64 k, Value.int IntKind.i64 l, Value.int IntKind.i64 z, Value.slice x n c, Value.int IntKind.i64 r, Value.int IntKind.i64 p, strV t]) (RowL.cells rb4 rfl) (by rfl) (by rfl))) rfl rfl rfl ?_
        refine LL.call (R.call rfl rfl rfl) rfl rfl rfl (hfa _) ?_
        rintro e Wb13 ⟨rfl, bb12⟩
        refine ⟨_, rfl, ?_⟩
        have zbb12 := bb12.size
        replace rb10 := rb10.up bb12
        replace bb7 := bb7.trans (bb12.mono bb7.size)
        replace rb4 := rb4.up bb12
        replace bb1 := bb1.trans (bb12.mono bb1.size)
        replace q := q.trans (bb12.mono q.size)
        refine LL.val (R.not rfl rfl) rfl rfl rfl ?_
        refine LL.val (R.move rfl rfl) rfl rfl rfl ?_
        refine LL.val (R.load rfl rfl (I.ldNc (vs := [Value.int IntKind.i64 k', Value.int IntKind.i64 l', Value.int IntKind.i64 z', Value.slice x' n' c', Value.int IntKind.i64 r', Value.int IntKind.i64 p', strV t']) (RowL.cells rb10 rfl) (by rfl) (by rfl))) rfl rfl rfl ?_
        refine LL.call (R.call rfl rfl rfl) rfl rfl rfl (hfb _) ?_
        rintro e Wb16 ⟨rfl, bb15⟩
        refine ⟨_, rfl, ?_⟩
        have zbb15 := bb15.size
        replace bb12 := bb12.trans (bb15.mono bb12.size)
        replace rb10 := rb10.up bb15
        replace bb7 := bb7.trans (bb15.mono bb7.size)
        replace rb4 := rb4.up bb15
        replace bb1 := bb1.trans (bb15.mono bb1.size)
        replace q := q.trans (bb15.mono q.size)
        refine LL.val (R.not rfl rfl) rfl rfl rfl ?_
        refine LL.val (R.pick rfl rfl rfl) rfl rfl rfl ?_
        refine LL.nilS ?_
        refine CC.no rfl ?_
        refine CC.skip ?_
        refine EE.thenN ?_
        refine CC.seq ?_
        refine CC.grow (by kernel_rfl) (by kernel_rfl) ?_
        refine GG.val (fun w' b' => R.load rfl rfl (I.ldNc (vs := [Value.int IntKind.i64 k, Value.int IntKind.i64 l, Value.int IntKind.i64 z, Value.slice x n c, Value.int IntKind.i64 r, Value.int IntKind.i64 p, strV t]) (RowL.cells (rb4.up b') rfl) (by rfl) (by rfl))) rfl rfl ?_
        refine GG.val (fun w' b' => R.load rfl rfl (I.ldNc (vs := [Value.int IntKind.i64 k', Value.int IntKind.i64 l', Value.int IntKind.i64 z', Value.slice x' n' c', Value.int IntKind.i64 r', Value.int IntKind.i64 p', strV t']) (RowL.cells (rb10.up b') rfl) (by rfl) (by rfl))) rfl rfl ?_
        refine GG.call (fun w' => (R.call rfl rfl rfl)) rfl rfl (fun w' b' => (hsa w' (q.trans (b'.mono q.size))).mono fun e W' h => ⟨h.1, b'.trans (h.2.mono b'.size)⟩) ?_
        refine GG.val (fun w' b' => R.load rfl rfl (I.ldNc (vs := [Value.int IntKind.i64 k, Value.int IntKind.i64 l, Value.int IntKind.i64 z, Value.slice x n c, Value.int IntKind.i64 r, Value.int IntKind.i64 p, strV t]) (RowL.cells (rb4.up b') rfl) (by rfl) (by rfl))) rfl rfl ?_
        refine GG.val (fun w' b' => R.load rfl rfl (I.ldNc (vs := [Value.int IntKind.i64 k', Value.int IntKind.i64 l', Value.int IntKind.i64 z', Value.slice x' n' c', Value.int IntKind.i64 r', Value.int IntKind.i64 p', strV t']) (RowL.cells (rb10.up b') rfl) (by rfl) (by rfl))) rfl rfl ?_
        refine GG.call (fun w' => (R.call rfl rfl rfl)) rfl rfl (fun w' b' => (hsr w' (q.trans (b'.mono q.size))).mono fun e W' h => ⟨h.1, b'.trans (h.2.mono b'.size)⟩) ?_
        refine GG.val (fun w' b' => R.eqBool rfl rfl rfl rfl rfl) rfl rfl ?_
        refine GG.val (fun w' b' => R.move rfl rfl) rfl rfl ?_
        refine GG.val (fun w' b' => R.load rfl rfl (I.ldNc (vs := [Value.int IntKind.i64 k, Value.int IntKind.i64 l, Value.int IntKind.i64 z, Value.slice x n c, Value.int IntKind.i64 r, Value.int IntKind.i64 p, strV t]) (RowL.cells (rb4.up b') rfl) (by rfl) (by rfl))) rfl rfl ?_
        refine GG.val (fun w' b' => R.load rfl rfl (I.ldNc (vs := [Value.int IntKind.i64 k, Value.int IntKind.i64 l, Value.int IntKind.i64 z, Value.slice x n c, Value.int IntKind.i64 r, Value.int IntKind.i64 p, strV t]) (RowL.cells (rb4.up b') rfl) (by rfl) (by rfl))) rfl rfl ?_
        refine GG.call (fun w' => (R.call rfl rfl rfl)) rfl rfl (fun w' b' => (hss w' (q.trans (b'.mono q.size))).mono fun e W' h => ⟨h.1, b'.trans (h.2.mono b'.size)⟩) ?_
        refine GG.val (fun w' b' => R.pick rfl rfl rfl) rfl rfl ?_
        refine GG.val (fun w' b' => R.move rfl rfl) rfl rfl ?_
        refine GG.call (fun w' => (R.call rfl rfl rfl)) rfl rfl (fun w' b' => (works_any w' (hSF _ (q.trans (b'.mono q.size)))).mono fun e W' h => ⟨h.1, b'.trans (h.2.mono b'.size)⟩) ?_
        refine GG.val (fun w' b' => R.pick rfl rfl rfl) rfl rfl ?_
        refine GG.val (fun w' b' => R.assign rfl rfl) rfl rfl ?_
        refine GG.nilQ (fun Wb22 bb21 => ?_)
        have zbb21 := bb21.size
        replace bb15 := bb15.trans (bb21.mono bb15.size)
        replace bb12 := bb12.trans (bb21.mono bb12.size)
        replace rb10 := rb10.up bb21
        replace bb7 := bb7.trans (bb21.mono bb7.size)
        replace rb4 := rb4.up bb21
        replace bb1 := bb1.trans (bb21.mono bb1.size)
        replace q := q.trans (bb21.mono q.size)
        refine EE.thenN ?_
        refine CC.ret ?_
        refine EE.ret _ rfl rfl ?_
        exact ⟨rfl, q⟩
      | false =>
        refine X.fn Tryd.func7 rfl (n := 29) rfl rfl ?_
        refine CC.seq ?_
        refine CC.region ?_
        refine LL.box [Value.int IntKind.i64 k, Value.int IntKind.i64 l, Value.int IntKind.i64 z, Value.slice x n c, Value.int IntKind.i64 r, Value.int IntKind.i64 p, strV t] rfl rfl rfl rfl rfl ?_
        intro Wc2 gc3 egc3 rc4 zc5 bc1
        replace q := q.trans (bc1.mono q.size)
        have lc6 := rc4.lt
        refine LL.box [Value.int IntKind.i64 k', Value.int IntKind.i64 l', Value.int IntKind.i64 z', Value.slice x' n' c', Value.int IntKind.i64 r', Value.int IntKind.i64 p', strV t'] rfl rfl rfl rfl rfl ?_
        intro Wc8 gc9 egc9 rc10 zc11 bc7
        replace rc4 := rc4.up bc7
        replace bc1 := bc1.trans (bc7.mono bc1.size)
        replace q := q.trans (bc7.mono q.size)
        refine LL.val (R.assign rfl rfl) rfl rfl rfl ?_
        refine LL.nilS ?_
        refine CC.seq ?_
        refine CC.seq ?_
        refine CC.region ?_
        refine LL.val (R.load rfl rfl (I.ldNc (vs := [Value.int IntKind.i64 k, Value.int IntKind.i64 l, Value.int IntKind.i64 z, Value.slice x n c, Value.int IntKind.i64 r, Value.int IntKind.i64 p, strV t]) (RowL.cells rc4 rfl) (by rfl) (by rfl))) rfl rfl rfl ?_
        refine LL.call (R.call rfl rfl rfl) rfl rfl rfl (hfa _) ?_
        rintro e Wc13 ⟨rfl, bc12⟩
        refine ⟨_, rfl, ?_⟩
        have zbc12 := bc12.size
        replace rc10 := rc10.up bc12
        replace bc7 := bc7.trans (bc12.mono bc7.size)
        replace rc4 := rc4.up bc12
        replace bc1 := bc1.trans (bc12.mono bc1.size)
        replace q := q.trans (bc12.mono q.size)
        refine LL.val (R.not rfl rfl) rfl rfl rfl ?_
        refine LL.val (R.move rfl rfl) rfl rfl rfl ?_
        refine LL.val (R.load rfl rfl (I.ldNc (vs := [Value.int IntKind.i64 k', Value.int IntKind.i64 l', Value.int IntKind.i64 z', Value.slice x' n' c', Value.int IntKind.i64 r', Value.int IntKind.i64 p', strV t']) (RowL.cells rc10 rfl) (by rfl) (by rfl))) rfl rfl rfl ?_
        refine LL.call (R.call rfl rfl rfl) rfl rfl rfl (hfb _) ?_
        rintro e Wc16 ⟨rfl, bc15⟩
        refine ⟨_, rfl, ?_⟩
        have zbc15 := bc15.size
        replace bc12 := bc12.trans (bc15.mono bc12.size)
        replace rc10 := rc10.up bc15
        replace bc7 := bc7.trans (bc15.mono bc7.size)
        replace rc4 := rc4.up bc15
        replace bc1 := bc1.trans (bc15.mono bc1.size)
        replace q := q.trans (bc15.mono q.size)
        refine LL.val (R.not rfl rfl) rfl rfl rfl ?_
        refine LL.val (R.pick rfl rfl rfl) rfl rfl rfl ?_
        refine LL.nilS ?_
        refine CC.no rfl ?_
        refine CC.skip ?_
        refine EE.thenN ?_
        refine CC.seq ?_
        refine CC.grow (by kernel_rfl) (by kernel_rfl) ?_
        refine GG.val (fun w' b' => R.load rfl rfl (I.ldNc (vs := [Value.int IntKind.i64 k, Value.int IntKind.i64 l, Value.int IntKind.i64 z, Value.slice x n c, Value.int IntKind.i64 r, Value.int IntKind.i64 p, strV t]) (RowL.cells (rc4.up b') rfl) (by rfl) (by rfl))) rfl rfl ?_
        refine GG.val (fun w' b' => R.load rfl rfl (I.ldNc (vs := [Value.int IntKind.i64 k', Value.int IntKind.i64 l', Value.int IntKind.i64 z', Value.slice x' n' c', Value.int IntKind.i64 r', Value.int IntKind.i64 p', strV t']) (RowL.cells (rc10.up b') rfl) (by rfl) (by rfl))) rfl rfl ?_
        refine GG.call (fun w' => (R.call rfl rfl rfl)) rfl rfl (fun w' b' => (hsa w' (q.trans (b'.mono q.size))).mono fun e W' h => ⟨h.1, b'.trans (h.2.mono b'.size)⟩) ?_
        refine GG.val (fun w' b' => R.load rfl rfl (I.ldNc (vs := [Value.int IntKind.i64 k, Value.int IntKind.i64 l, Value.int IntKind.i64 z, Value.slice x n c, Value.int IntKind.i64 r, Value.int IntKind.i64 p, strV t]) (RowL.cells (rc4.up b') rfl) (by rfl) (by rfl))) rfl rfl ?_
        refine GG.val (fun w' b' => R.load rfl rfl (I.ldNc (vs := [Value.int IntKind.i64 k', Value.int IntKind.i64 l', Value.int IntKind.i64 z', Value.slice x' n' c', Value.int IntKind.i64 r', Value.int IntKind.i64 p', strV t']) (RowL.cells (rc10.up b') rfl) (by rfl) (by rfl))) rfl rfl ?_
        refine GG.call (fun w' => (R.call rfl rfl rfl)) rfl rfl (fun w' b' => (hsr w' (q.trans (b'.mono q.size))).mono fun e W' h => ⟨h.1, b'.trans (h.2.mono b'.size)⟩) ?_
        refine GG.val (fun w' b' => R.eqBool rfl rfl rfl rfl rfl) rfl rfl ?_
        refine GG.val (fun w' b' => R.move rfl rfl) rfl rfl ?_
        refine GG.val (fun w' b' => R.load rfl rfl (I.ldNc (vs := [Value.int IntKind.i64 k, Value.int IntKind.i64 l, Value.int IntKind.i64 z, Value.slice x n c, Value.int IntKind.i64 r, Value.int IntKind.i64 p, strV t]) (RowL.cells (rc4.up b') rfl) (by rfl) (by rfl))) rfl rfl ?_
        refine GG.val (fun w' b' => R.load rfl rfl (I.ldNc (vs := [Value.int IntKind.i64 k, Value.int IntKind.i64 l, Value.int IntKind.i64 z, Value.slice x n c, Value.int IntKind.i64 r, Value.int IntKind.i64 p, strV t]) (RowL.cells (rc4.up b') rfl) (by rfl) (by rfl))) rfl rfl ?_
        refine GG.call (fun w' => (R.call rfl rfl rfl)) rfl rfl (fun w' b' => (hss w' (q.trans (b'.mono q.size))).mono fun e W' h => ⟨h.1, b'.trans (h.2.mono b'.size)⟩) ?_
        refine GG.val (fun w' b' => R.pick rfl rfl rfl) rfl rfl ?_
        refine GG.val (fun w' b' => R.move rfl rfl) rfl rfl ?_
        refine GG.call (fun w' => (R.call rfl rfl rfl)) rfl rfl (fun w' b' => (works_any w' (hSF _ (q.trans (b'.mono q.size)))).mono fun e W' h => ⟨h.1, b'.trans (h.2.mono b'.size)⟩) ?_
        refine GG.val (fun w' b' => R.pick rfl rfl rfl) rfl rfl ?_
        refine GG.val (fun w' b' => R.assign rfl rfl) rfl rfl ?_
        refine GG.nilQ (fun Wc22 bc21 => ?_)
        have zbc21 := bc21.size
        replace bc15 := bc15.trans (bc21.mono bc15.size)
        replace bc12 := bc12.trans (bc21.mono bc12.size)
        replace rc10 := rc10.up bc21
        replace bc7 := bc7.trans (bc21.mono bc7.size)
        replace rc4 := rc4.up bc21
        replace bc1 := bc1.trans (bc21.mono bc1.size)
        replace q := q.trans (bc21.mono q.size)
        refine EE.thenN ?_
        refine CC.ret ?_
        refine EE.ret _ rfl rfl ?_
        exact ⟨rfl, q⟩
theorem insame_shell (k l z : Int) (x : Option Addr) (n c : Nat) (m : List Ex) (r p : Int) (s : ByteArray) (k' l' z' : Int) (x' : Option Addr) (n' c' : Nat) (m' : List Ex) (r' p' : Int) (s' : ByteArray) (w : World) (hS : Start w) (hv : ReadsT eE 3 w (.slice x n c) m) (hu : ReadsT eE 3 w (.slice x' n' c') m') (hl : m.length ≤ 9223372036854775807) (hl' : m'.length ≤ 9223372036854775807) (hs : s.size ≤ maxLen) (hs' : s'.size ≤ maxLen) : Calls Tryd.prog 7 #[.agg #[.int .i64 k, .int .i64 l, .int .i64 z, .slice x n c, .int .i64 r, .int .i64 p, .string s], .agg #[.int .i64 k', .int .i64 l', .int .i64 z', .slice x' n' c', .int .i64 r', .int .i64 p', .string s']] w fun e w' => e = .returned (.bool true) ∧ Below w.heap.size w w' := by
  obtain ⟨t, rfl⟩ : ∃ l : Bs, s = ⟨l.toArray⟩ := ⟨s.data.toList, bs_data s⟩
  obtain ⟨t', rfl⟩ : ∃ l : Bs, s' = ⟨l.toArray⟩ := ⟨s'.data.toList, bs_data s'⟩
  obtain ⟨_, _, e, _⟩ := hv.form rfl
  obtain ⟨_, _, e', _⟩ := hu.form rfl
  cases e
  cases e'
  exact insame_walk k l z x _ c m r p t k' l' z' x' _ c' m' r' p' t' w hS hv hu hl hl' rfl rfl (by simpa [ByteArray.size, maxLen] using hs) (by simpa [ByteArray.size, maxLen] using hs')
end Go.Proofs.YtnoefalgmekjbaaDoor


/- Opening the arguments of a law: slices of numbers, pairs of numbers. -/
namespace Go.Proofs.YtnoefalgmekjbaaDoor
set_option linter.unusedVariables false
set_option linter.unusedSimpArgs false
open Go.RowKit Go.ChangeShapes Go.WideShapes Go.ChangeAt

theorem own : ownKnob Tryd.prog.godebug = none := by kernel_rfl
theorem laidOut : laidOutB Tryd.prog = true := by kernel_rfl

section
variable {H : Type} {enc : TypeId × Value → H} {P : Program} {w : World} {base : Nat} {spare : Nat → Bool} {held : Bool} {r : Reach} {b0 : Nat} {t : TypeId} {v : Value} {d : DataW H} {p : List MemPlace}

end
end Go.Proofs.YtnoefalgmekjbaaDoor


/- Opening the arguments of a law: structs and arrays of integers, and of such. Over any program. -/
namespace Go.Proofs.YtnoefalgmekjbaaDoor
set_option linter.unusedVariables false
set_option linter.unusedSimpArgs false
open Go.RowKit Go.ChangeShapes Go.WideShapes Go.ChangeAt
/-- Which kind of integer lies at a cell. -/
def atC (P : Program) : Nat → TypeId → Nat → Option IntKind
  | 0, _, _ => none
  | d + 1, t, j => match P.underlying t with
    | some (.struct fs) => fs.toList.findSome? fun f => if f.offset ≤ j ∧ j < f.offset + P.cellsOf f.type then atC P d f.type (j - f.offset) else none
    | some (.array n e) => if j / P.cellsOf e < n then atC P d e (j % P.cellsOf e) else none
    | some (.int k) => if j = 0 then some k else none
    | _ => none
section
variable {H : Type} {enc : TypeId × Value → H} {P : Program} {w : World} {base : Nat} {spare : Nat → Bool} {held : Bool} {r : Reach} {b0 : Nat} {t : TypeId} {v : Value} {d : DataW H} {p : List MemPlace}
theorem trod_at : ∀ (n : Nat) (t : TypeId) (j fuel : Nat) (cs : List Value) (x : DataW H × List MemPlace) (k : IntKind), atC P n t j = some k → DataW.trod enc P w base spare held fuel t cs = some x → ∃ z : Int, cs[j]? = some (.int k z) ∧ (Lit.int k z).wf = true
  | 0, _, _, _, _, _, _, h, _ => by cases h
  | n + 1, t, j, fuel, cs, x, k, h, hx => by
    cases hu : P.underlying t with
    | none => simp [atC, hu] at h
    | some kd =>
      cases kd <;> simp only [atC, hu] at h <;> try (cases h; done)
      case int q =>
        split at h
        · rename_i hj
          cases h
          subst hj
          obtain ⟨z, e, _, hw⟩ := DataW.trod_int hu hx
          exact ⟨z, by rw [e]; rfl, hw⟩
        · cases h
      case struct fs =>
        obtain ⟨f, hf, hfk⟩ := List.exists_of_findSome?_eq_some h
        split at hfk
        · rename_i hj
          obtain ⟨xs, m, _, rfl, hl, hlen, hf2⟩ := DataW.trod_struct hu hx
          obtain ⟨i, hi⟩ := List.mem_iff_getElem?.1 hf
          have h2 := hf2 i f (by simpa using hi)
          have hil : i < xs.length := by
            have := (List.getElem?_eq_some_iff.1 hi).1
            rw [Array.length_toList] at this
            omega
          rw [List.getElem?_eq_getElem hil] at h2
          obtain ⟨z, e, hw⟩ := trod_at n f.type (j - f.offset) _ _ _ k hfk h2
          refine ⟨z, ?_, hw⟩
          rw [List.getElem?_take] at e
          split at e
          · rw [List.getElem?_drop] at e
            rwa [show f.offset + (j - f.offset) = j by omega] at e
          · cases e
        · cases hfk
      case array m e =>
        split at h
        · rename_i hj
          obtain ⟨xs, m', _, rfl, hl, hlen, hi⟩ := DataW.trod_array hu hx
          have h2 := hi _ hj
          rw [List.getElem?_eq_getElem (by omega)] at h2
          obtain ⟨z, e', hw⟩ := trod_at n e (j % P.cellsOf e) _ _ _ k h h2
          refine ⟨z, ?_, hw⟩
          rw [List.getElem?_take] at e'
          split at e'
          · rw [List.getElem?_drop] at e'
            rwa [show j / P.cellsOf e * P.cellsOf e + j % P.cellsOf e = j by rw [Nat.mul_comm]; exact Nat.div_add_mod _ _] at e'
          · cases e'
        · cases h
end
end Go.Proofs.YtnoefalgmekjbaaDoor


/- Opening the arguments of a law: slices of structs of integers. Over any program. -/
namespace Go.Proofs.YtnoefalgmekjbaaDoor
set_option linter.unusedVariables false
set_option linter.unusedSimpArgs false
open Go.RowKit Go.ChangeShapes Go.WideShapes Go.ChangeAt Go.Deep
section
variable {α : Type} {encT : α → List Value} {H : Type} {enc : TypeId × Value → H} {P : Program} {w : World} {base : Nat} {spare : Nat → Bool} {held : Bool} {r : Reach} {b0 : Nat} {t : TypeId} {v : Value} {d : DataW H} {p : List MemPlace}
end
end Go.Proofs.YtnoefalgmekjbaaDoor


/- Opening the arguments of a law: a struct of an int and a string. Over any program. -/
namespace Go.Proofs.YtnoefalgmekjbaaDoor
set_option linter.unusedVariables false
set_option linter.unusedSimpArgs false
open Go.RowKit Go.ChangeShapes Go.WideShapes Go.ChangeAt
section
variable {H : Type} {enc : TypeId × Value → H} {P : Program} {w : World} {base : Nat} {spare : Nat → Bool} {held : Bool} {r : Reach} {b0 : Nat} {t : TypeId} {v : Value} {d : DataW H} {p : List MemPlace}
end
end Go.Proofs.YtnoefalgmekjbaaDoor


/- Opening an inode: a struct of numbers, a slice of structs of numbers, a string. Over any program. -/
namespace Go.Proofs.YtnoefalgmekjbaaDoor
set_option linter.unusedVariables false
set_option linter.unusedSimpArgs false
open Go.RowKit Go.ChangeShapes Go.WideShapes Go.ChangeAt Go.Deep
section
variable {α : Type} {encT : α → List Value} {H : Type} {enc : TypeId × Value → H} {P : Program} {w : World} {base : Nat} {spare : Nat → Bool} {held : Bool} {r : Reach} {b0 : Nat} {t : TypeId} {v : Value} {d : DataW H} {p : List MemPlace}
theorem open_rowsC {e c fuel : Nat} {cs : List Value} {x0 : DataW H × List MemPlace} (ks : Nat → IntKind) (E : Enc encT c) (f : (Nat → Int) → α) (hf : ∀ g, encT (f g) = (List.range c).map fun j => Value.int (ks j) (g j)) (ht : P.underlying t = some (.slice e)) (ce : P.cellsOf e = c) (hk : (List.range c).all (fun j => atC P 9 e j == some (ks j)) = true)
    (hfu : DataW.trod enc P w base spare held fuel t cs = some x0) : ∃ (a : Option Addr) (n k : Nat) (gs : List (Nat → Int)), cs = [.slice a n k] ∧ ReadsT encT c w (.slice a n k) (gs.map f) ∧ (∀ g ∈ gs, ∀ j, j < c → (Lit.int (ks j) (g j)).wf = true) ∧ gs.length ≤ 9223372036854775807 := by
  rcases open_slice ht hfu with ⟨rfl, _⟩ | ⟨x, len, cap, m, n, D, Pl, rfl, hb, hl, hm, hmm, _, hx⟩
  · exact ⟨none, 0, 0, [], rfl, ReadsT.nil w, by simp, by simp⟩
  · have hlm : len ≤ m := by rw [hmm]; split <;> omega
    have each : ∀ i, i < len → ∃ g : Nat → Int, ∀ j, j < c → w.cell? (x.add (i * c + j)) = some (.int (ks j) (g j)) ∧ (Lit.int (ks j) (g j)).wf = true := by
      intro i hi
      obtain ⟨cs', h1, h2⟩ := hx i (by omega)
      rw [ce] at h1
      obtain ⟨_, hlen, hcell⟩ := World.cells?_some h1
      have hj : ∀ j, ∃ z : Int, j < c → cs'[j]? = some (.int (ks j) z) ∧ (Lit.int (ks j) z).wf = true := fun j => by
        by_cases hjc : j < c
        · have hkj := List.all_eq_true.1 hk j (List.mem_range.2 hjc)
          obtain ⟨z, h3, h4⟩ := trod_at 9 e j n cs' (D i, Pl i) (ks j) (by simpa using hkj) h2
          exact ⟨z, fun _ => ⟨h3, h4⟩⟩
        · exact ⟨0, fun h => absurd h hjc⟩
      refine ⟨fun j => Classical.choose (hj j), fun j hjc => ?_⟩
      have hs := Classical.choose_spec (hj j) hjc
      refine ⟨?_, hs.2⟩
      have := hcell j (by omega)
      rw [add_add] at this
      rw [this]
      exact hs.1
    obtain ⟨G, hG⟩ := choose_lt each
    have hlen : (((List.range len).map G).map f).length = len := by simp
    refine ⟨some x, len, cap, (List.range len).map G, rfl, ⟨some x, cap, by rw [hlen], by rw [hlen]; exact hl, fun hne => ?_⟩, ?_, ?_⟩
    · have h0 : 0 < len := by
        rcases Nat.eq_zero_or_pos len with h0 | h0
        · subst h0; simp at hne
        · exact h0
      have hcp := E.pos
      obtain ⟨b, off, spot⟩ := x
      have hc0 := (hG 0 h0 0 hcp).1
      have hspot : spot = none := by simpa [Addr.add] using World.cell?_spot hc0
      subst hspot
      have hblt : b < w.heap.size := by
        rcases Nat.lt_or_ge b w.heap.size with hb | hb
        · exact hb
        · simp [Addr.add, World.cell?, Array.getElem?_eq_none hb] at hc0
      refine ⟨b, off, rfl, hblt, fun j hj => ?_⟩
      rw [hlen] at hj
      have hil : j / c < len := (Nat.div_lt_iff_lt_mul hcp).2 hj
      have hrl : j % c < c := Nat.mod_lt _ hcp
      have hc1 := (hG (j / c) hil (j % c) hrl).1
      rw [Addr.add_lit] at hc1
      have hje : j / c * c + j % c = j := by rw [Nat.mul_comm]; exact Nat.div_add_mod _ _
      have hget : (((List.range len).map G).map f)[j / c]? = some (f (G (j / c))) := by simp [hil]
      have hg := E.get _ (j / c) _ hget (j % c) hrl
      rw [hje] at hg hc1
      rw [hg, hf, hc1]
      simp [hrl]
    · intro g hg j hj
      obtain ⟨i, hi, rfl⟩ := List.mem_map.1 hg
      exact (hG i (List.mem_range.1 hi) j hj).2
    · simp only [List.length_map, List.length_range]
      unfold maxLen at hm
      omega
theorem fld_at {fs : Array Field} {f : Field} {i n : Nat} {cs : List Value} {xs : List (DataW H × List MemPlace)} (hf2 : ∀ (i : Nat) (f : Field), fs[i]? = some f → DataW.trod enc P w base spare held n f.type ((cs.drop f.offset).take (P.cellsOf f.type)) = xs[i]?) (hlen : xs.length = fs.size) (hi : fs.toList[i]? = some f) (ho : f.offset = i) (hc : P.cellsOf f.type = 1) : ∃ y, DataW.trod enc P w base spare held n f.type ((cs.drop i).take 1) = some y := by
  have hx : i < xs.length := by
    have := (List.getElem?_eq_some_iff.1 hi).1
    rw [Array.length_toList] at this
    omega
  have g := hf2 i f (by simpa using hi)
  rw [List.getElem?_eq_getElem hx, ho, hc] at g
  exact ⟨_, g⟩
theorem open_in {fs : Array Field} {f0 f1 f2 f3 f4 f5 f6 : Field} {e c : Nat} (ks : Nat → IntKind) (E : Enc encT c) (f : (Nat → Int) → α) (hf : ∀ g, encT (f g) = (List.range c).map fun j => Value.int (ks j) (g j)) (hu : P.underlying t = some (.struct fs)) (h0 : fs.toList[0]? = some f0) (h1 : fs.toList[1]? = some f1) (h2 : fs.toList[2]? = some f2) (h3 : fs.toList[3]? = some f3) (h4 : fs.toList[4]? = some f4) (h5 : fs.toList[5]? = some f5) (h6 : fs.toList[6]? = some f6) (o0 : f0.offset = 0) (o1 : f1.offset = 1) (o2 : f2.offset = 2) (o3 : f3.offset = 3) (o4 : f4.offset = 4) (o5 : f5.offset = 5) (o6 : f6.offset = 6) (t0 : P.underlying f0.type = some (.int .i64)) (t1 : P.underlying f1.type = some (.int .i64)) (t2 : P.underlying f2.type = some (.int .i64)) (t3 : P.underlying f3.type = some (.slice e)) (t4 : P.underlying f4.type = some (.int .i64)) (t5 : P.underlying f5.type = some (.int .i64)) (t6 : P.underlying f6.type = some (.string)) (c0 : P.cellsOf f0.type = 1) (c1 : P.cellsOf f1.type = 1) (c2 : P.cellsOf f2.type = 1) (c3 : P.cellsOf f3.type = 1) (c4 : P.cellsOf f4.type = 1) (c5 : P.cellsOf f5.type = 1) (c6 : P.cellsOf f6.type = 1) (hc : P.cellsOf t = 7) (ce : P.cellsOf e = c) (hk : (List.range c).all (fun j => atC P 9 e j == some (ks j)) = true)
    (hv : Value.okWide P w r b0 t v) (h : DataW.Trod enc P w base spare held t v d p) : ∃ (k l z : Int) (a : Option Addr) (n m : Nat) (gs : List (Nat → Int)) (rr pp : Int) (s : ByteArray), v = .agg #[.int .i64 k, .int .i64 l, .int .i64 z, .slice a n m, .int .i64 rr, .int .i64 pp, .string s] ∧ ReadsT encT c w (.slice a n m) (gs.map f) ∧ gs.length ≤ 9223372036854775807 ∧ ((Lit.int .i64 k).wf = true ∧ (Lit.int .i64 l).wf = true ∧ (Lit.int .i64 z).wf = true ∧ (Lit.int .i64 rr).wf = true ∧ (Lit.int .i64 pp).wf = true) ∧ (∀ g ∈ gs, ∀ j, j < c → (Lit.int (ks j) (g j)).wf = true) ∧ s.size ≤ maxLen := by
  have hg : ∃ cs, v = .agg cs ∧ cs.size = P.cellsOf t := by
    unfold Value.okWide at hv
    rw [hu] at hv
    obtain ⟨cs, h1, h2, _⟩ := hv
    exact ⟨cs, h1, h2⟩
  obtain ⟨cs, rfl, hsz⟩ := hg
  rw [hc] at hsz
  obtain ⟨fuel, hfu⟩ := h
  obtain ⟨xs, m, _, e0, hl, hlen, hf2⟩ := DataW.trod_struct hu hfu
  obtain ⟨y0, g0⟩ := fld_at hf2 hlen h0 o0 c0
  obtain ⟨y1, g1⟩ := fld_at hf2 hlen h1 o1 c1
  obtain ⟨y2, g2⟩ := fld_at hf2 hlen h2 o2 c2
  obtain ⟨y3, g3⟩ := fld_at hf2 hlen h3 o3 c3
  obtain ⟨y4, g4⟩ := fld_at hf2 hlen h4 o4 c4
  obtain ⟨y5, g5⟩ := fld_at hf2 hlen h5 o5 c5
  obtain ⟨y6, g6⟩ := fld_at hf2 hlen h6 o6 c6
  obtain ⟨z0, e10, _, w0⟩ := DataW.trod_int t0 g0
  obtain ⟨z1, e11, _, w1⟩ := DataW.trod_int t1 g1
  obtain ⟨z2, e12, _, w2⟩ := DataW.trod_int t2 g2
  obtain ⟨z4, e14, _, w4⟩ := DataW.trod_int t4 g4
  obtain ⟨z5, e15, _, w5⟩ := DataW.trod_int t5 g5
  obtain ⟨s, e16, _, hs⟩ := DataW.trod_string t6 g6
  obtain ⟨a, n, k, gs, e13, hr, hw, hgl⟩ := open_rowsC ks E f hf t3 ce hk g3
  refine ⟨z0, z1, z2, a, n, k, gs, z4, z5, s, ?_, hr, hgl, ⟨w0, w1, w2, w4, w5⟩, hw, hs⟩
  congr 1
  apply Array.ext'
  have hlen2 : cs.toList.length = 7 := by rw [Array.length_toList, hsz]
  have ec : (Value.agg cs).cells.toList = cs.toList := rfl
  rw [ec] at e10 e11 e12 e13 e14 e15 e16
  match hcs : cs.toList, hlen2 with
  | [a0, a1, a2, a3, a4, a5, a6], _ =>
    rw [hcs] at e10 e11 e12 e13 e14 e15 e16
    simp only [List.drop_zero, List.take_succ_cons, List.take_zero, List.cons.injEq, and_true, List.drop_succ_cons] at e10 e11 e12 e13 e14 e15 e16
    rw [e10, e11, e12, e13, e14, e15, e16]
end
end Go.Proofs.YtnoefalgmekjbaaDoor


/- What the package's variable holds when the call begins. -/
namespace Go.Proofs.YtnoefalgmekjbaaDoor
set_option linter.unusedVariables false
set_option linter.unusedSimpArgs false
open Go.ChangeShapes Go.WideShapes Go.ChangeAt Go.WideMaps Go.WideElems Go.RowKit

def laidHere : List (String × DataW Unit) := [("hedgerow/extents.widths", Rows.laid_hedgerow_extents_widths)]
theorem gTurns : Tryd.prog.globalNamed "hedgerow/extents.widths" = some 0 := by kernel_rfl
theorem tTurns : (Tryd.prog.globals[0]?).map (·.type) = some 133 := by kernel_rfl
theorem door_met (os : Os) (args : Array Value) : laidMetH Tryd.prog laidHere ((World.doorLaid Tryd.prog 14 os).forCall (fun _ _ => 0) ⟨#[], args, []⟩).memory :=
  laidMetH_of_parts3 (fuel := 8) (laidMet_of_run' 8 (by kernel_rfl) (by kernel_rfl)) (by kernel_rfl) (by kernel_rfl)
theorem of_laid {W : World} (h : laidMetH Tryd.prog laidHere W) : Start W := by
  rw [MakeChecks.laidMetH_plain _ _ _ (by kernel_rfl)] at h
  have hT := Lib.tabIs_of_head (k := .i64) (zs := [16, 24, 16]) gTurns tTurns Tryd.underlying133 Tryd.underlying3 (by kernel_rfl) (by kernel_rfl) h
  have hc : ∀ i, i < 3 → W.cell? ⟨0, i, none⟩ = some (.int .i64 ([16, 24, 16].getD i 0)) := fun i hi => hT.cell gTurns i hi
  refine ⟨hc 0 (by decide), hc 1 (by decide), hc 2 (by decide), ?_⟩
  obtain ⟨o, ho, _⟩ := cells_of_cell (hc 0 (by decide))
  exact (Array.getElem?_eq_some_iff.1 ho).1
end Go.Proofs.YtnoefalgmekjbaaDoor

