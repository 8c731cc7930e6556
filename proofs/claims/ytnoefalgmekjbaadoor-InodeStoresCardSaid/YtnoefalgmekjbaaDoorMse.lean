/- What the statements' walks use: In11, In12, In13, In14, WEq, In15, In16, In17, In18, In19, In20, In21, In22, In23, In24, In25, In26, In27, In28, SameW, WordsW, In29, In30, In32, In33, In31, In31a, In31b, In31c, In34, ReadsW, In35, In36. -/
import Derived.Test.YtnoefalgmekjbaaDoorProg
import Derived.Laws.StructEq
import Derived.Test.YtnoefalgmekjbaaDoorMsa
import Derived.Test.YtnoefalgmekjbaaDoorMsb
import Derived.Test.YtnoefalgmekjbaaDoorMsc
import Derived.Test.YtnoefalgmekjbaaDoorMsd
/- inode: the words of an inode that may be (written by gen11.py). -/
namespace Go.Proofs.YtnoefalgmekjbaaDoor
set_option linter.unusedVariables false
set_option linter.unusedSimpArgs false
open Go.RowKit Go.Shelf
set_option maxRecDepth 100000
set_option maxHeartbeats 8000000
theorem Tryd.infoU14 : (Tryd.prog.info? 41).map (fun i => (i.zero, i.size, i.bytes)) = some (some (.int .u64 0), 1, 8) := by kernel_rfl
theorem ElU14 : ElT Tryd.prog 28 41 (.int .u64 0) 1 8 := info_parts_t Tryd.underlying28 Tryd.infoU14 rfl
theorem or_add8 {k y : Nat} (h : k < 256) : k ||| 256 * y = k + 256 * y := by
  rw [Nat.or_comm, show 256 * y = 2 ^ 8 * y from rfl, ← Nat.two_pow_add_eq_or_of_lt (show k < 2 ^ 8 from h), Nat.add_comm]
/-- The first word, and noughts. -/
def hdN (k l : Nat) : List Nat := (k + 256 * l) :: List.replicate 15 0
abbrev KW (w : World) (go : Nat) (i : Nat) : Prop := i < w.heap.size ∧ i ≠ go
def wordsP (go : Nat) (ws : List Nat) (w0 : World) (e : Ending) (w : World) : Prop := e = .returned (.tuple #[]) ∧ (∃ gw, RowL w go 28 [.slice (some ⟨gw, 0, none⟩) 16 16] ∧ RowL w gw 41 (ints .u64 ws) ∧ w0.heap.size ≤ gw) ∧ Kept (KW w0 go) w0 w
theorem words1_1 (l z : Nat) (x : Option Addr) (n c : Nat) (m : List Ex) (go gn : Nat) (v0 : Value) (w : World) (hS : Start w) (hv : ReadsT eE 3 w (.slice x n c) m) (hlen : m.length ≤ 1048576) (hl : l ≤ 65535) (h : okF (z : Int) m) (hn : RowL w gn 25 (inL 1 (l : Int) (z : Int) (.slice x n c) 0 0 [])) (ho : RowL w go 28 [v0]) (hne : go ≠ gn ∧ 0 < go) : Calls Tryd.prog 28 #[.pointer (some ⟨gn, 0, none⟩), .pointer (some ⟨go, 0, none⟩)] w (wordsP go (layF (hdN 1 l) z m) w) := by
  unfold wordsP
  have hkk := Kept.refl (KW w go) w
  have lgn := hn.lt; have lgo := ho.lt
  have hS0 := hS.pos
  have hvF : ∀ X, Below w.heap.size w X → ReadsT eE 3 X (.slice x n c) m := fun X b => hv.up b
  have hSF : ∀ X, Below w.heap.size w X → Start X := fun X b => hS.up b
  have q := Below.refl w.heap.size w
  clear hv hS
  refine X.fn Tryd.func28 rfl (n := 25) rfl rfl ?_
  refine Zr ?_; refine Zv hn ?_; have l30 := hn.lt; have l31 := ho.lt
  (refine LL.call (R.call rfl rfl rfl) rfl rfl rfl (check1_T _ _ _ _ _ m _ (hvF _ q) (by omega) h) ?_; rintro e W29 ⟨rfl, b26⟩; refine ⟨_, rfl, ?_⟩)
  have zb26 := b26.size; replace hn := hn.up b26; replace ho := ho.up b26; replace hkk := Zh hkk b26; have y35 := hkk.size; replace q := Zu q b26; have l61 := hn.lt; have l62 := ho.lt
  refine LL.alloc ([Value.nilFunc, Value.nilFunc, Value.nilFunc, Value.nilFunc]) rfl rfl rfl rfl rfl ?_
  intro W64 g65 eg65 r66 z67 b63
  replace b26 := Zu b26 b63; replace hn := hn.up b63; replace ho := ho.up b63; replace hkk := Zh hkk b63; have y68 := hkk.size; replace q := Zu q b63
  refine LL.storeN (vs := [fnV kd1.1, fnV kd1.2.1, fnV kd1.2.2.1, fnV kd1.2.2.2]) rfl rfl rfl rfl r66 (by exact Nat.le_of_ble_eq_true rfl) (ones_of rfl) rfl rfl ?_
  intro W97 r98 b96 z99
  have hlb96 := r66.lt
  replace r98 : RowL W97 _ 68 [fnV kd1.1, fnV kd1.2.1, fnV kd1.2.2.1, fnV kd1.2.2.2] := r98
  clear r66
  replace b63 := Zg b63 b96; replace b26 := Zg b26 b96; replace hn := Zd hn b96; replace ho := Zd ho b96; replace hkk := Zo hkk b96; replace q := Zg q b96
  have r66 := r98
  clear r98
  refine Zq ?_; refine Zr ?_; have l114 := hn.lt; have l115 := ho.lt; have l116 := r66.lt
  (refine LL.makeE (l := 16) (m := 16) ElU14 rfl (by decide) rfl rfl rfl (Nat.le_refl _) (by decide) (by decide) rfl rfl ?_; intro W113 g1 eg1 r1 zg1 b110; replace r1 : RowL W113 g1 41 (ints .u64 (List.replicate 16 0)) := r1)
  have zb110 := b110.size; replace b63 := Zu b63 b110; replace b26 := Zu b26 b110; replace hn := hn.up b110; replace ho := ho.up b110; replace hkk := Zh hkk b110; have y120 := hkk.size; replace q := Zu q b110; replace r66 := r66.up b110; have l150 := r1.lt; have l151 := hn.lt; have l152 := ho.lt; have l153 := r66.lt
  refine LL.alloc ([Value.slice none 0 0]) rfl rfl rfl rfl rfl ?_
  intro W155 g156 eg156 r157 z158 b154
  replace b110 := Zu b110 b154; replace r1 := r1.up b154; replace b63 := Zu b63 b154; replace b26 := Zu b26 b154; replace hn := hn.up b154; replace ho := ho.up b154; replace hkk := Zh hkk b154; have y159 := hkk.size; replace q := Zu q b154; replace r66 := r66.up b154
  refine LL.store rfl rfl rfl rfl r157 (by exact Nat.le_of_ble_eq_true rfl) rfl rfl rfl rfl ?_
  intro W192 r193 b191 z194
  have hlb191 := r157.lt
  replace r193 : RowL W192 _ 28 [Value.slice (some { block := g1, off := 0 }) 16 16] := r193
  clear r157
  replace b154 := Zg b154 b191; replace b110 := Zg b110 b191; replace r1 := Zd r1 b191; replace b63 := Zg b63 b191; replace b26 := Zg b26 b191; replace hn := Zd hn b191; replace ho := Zd ho b191; replace hkk := Zo hkk b191; replace q := Zg q b191; replace r66 := Zd r66 b191
  have r157 := r193
  clear r193
  refine Zq ?_; refine Zr ?_; refine Zl r157 ?_; refine Zf ?_; refine Zl hn ?_
  refine LL.val (R.convI rfl rfl rfl rfl (wrapU (by omega) (by omega))) rfl rfl rfl ?_
  refine Zf ?_; refine Zl hn ?_
  refine LL.val (R.convI rfl rfl rfl rfl (wrapU (by omega) (by omega))) rfl rfl rfl ?_
  refine LL.val (R.shlE (b := 8) (z := 256 * l) rfl rfl rfl (by decide) (by omega) (by omega)) rfl rfl rfl ?_
  refine LL.val (R.orE (a := 1) (b := 256 * l) (z := 1 + 256 * l) rfl rfl rfl (by decide) (by omega) (or_add8 (by decide))) rfl rfl rfl ?_
  refine Zi ?_
  refine LL.store rfl rfl rfl rfl r1 (by exact Nat.le_of_ble_eq_true rfl) rfl rfl rfl rfl ?_
  intro W499 r500 b498 z501
  have hlb498 := r1.lt
  replace r500 : RowL W499 _ 41 [Value.int IntKind.u64 ↑(1 + 256 * l), (fun n => Value.int IntKind.u64 ↑n) 0, (fun n => Value.int IntKind.u64 ↑n) 0, (fun n => Value.int IntKind.u64 ↑n) 0, (fun n => Value.int IntKind.u64 ↑n) 0, (fun n => Value.int IntKind.u64 ↑n) 0, (fun n => Value.int IntKind.u64 ↑n) 0, (fun n => Value.int IntKind.u64 ↑n) 0, (fun n => Value.int IntKind.u64 ↑n) 0, (fun n => Value.int IntKind.u64 ↑n) 0, (fun n => Value.int IntKind.u64 ↑n) 0, (fun n => Value.int IntKind.u64 ↑n) 0, (fun n => Value.int IntKind.u64 ↑n) 0, (fun n => Value.int IntKind.u64 ↑n) 0, (fun n => Value.int IntKind.u64 ↑n) 0, (fun n => Value.int IntKind.u64 ↑n) 0] := r500
  clear r1
  replace b110 := Zg b110 b498; replace b63 := Zg b63 b498; replace b26 := Zg b26 b498; replace hn := Zd hn b498; replace ho := Zd ho b498; replace hkk := Zo hkk b498; replace q := Zg q b498; replace r66 := Zd r66 b498; replace r157 := Zd r157 b498
  have r1 := r500
  clear r500
  refine Zq ?_; refine Zr ?_; have l533 := hn.lt; have l534 := ho.lt; have l535 := r66.lt; have l536 := r157.lt; have l537 := r1.lt
  refine LL.alloc ([Value.int IntKind.i64 0]) rfl rfl rfl rfl rfl ?_
  intro W539 g540 eg540 r541 z542 b538
  replace b110 := Zu b110 b538; replace b63 := Zu b63 b538; replace b26 := Zu b26 b538; replace hn := hn.up b538; replace ho := ho.up b538; replace hkk := Zh hkk b538; have y543 := hkk.size; replace q := Zu q b538; replace r66 := r66.up b538; replace r157 := r157.up b538; replace r1 := r1.up b538
  refine LL.store rfl rfl rfl rfl r541 (by exact Nat.le_of_ble_eq_true rfl) rfl rfl rfl rfl ?_
  intro W578 r579 b577 z580
  have hlb577 := r541.lt
  replace r579 : RowL W578 _ 3 [Value.int IntKind.i64 1] := r579
  clear r541
  replace b538 := Zg b538 b577; replace b110 := Zg b110 b577; replace b63 := Zg b63 b577; replace b26 := Zg b26 b577; replace hn := Zd hn b577; replace ho := Zd ho b577; replace hkk := Zo hkk b577; replace q := Zg q b577; replace r66 := Zd r66 b577; replace r157 := Zd r157 b577; replace r1 := Zd r1 b577
  have r541 := r579
  clear r579
  refine Zq ?_; refine Zr ?_; refine Zf ?_; refine Zl r66 ?_; refine Zv hn ?_
  refine LL.val (R.buildV rfl rfl (v := .agg #[Value.int IntKind.i64 1, Value.int IntKind.i64 ↑l, Value.int IntKind.i64 ↑z, Value.slice x n c, Value.int IntKind.i64 0, Value.int IntKind.i64 0, strV []]) (fun _ => by kernel_rfl)) rfl rfl rfl ?_
  refine LL.val (R.func rfl rfl rfl) rfl rfl rfl ?_
  (refine LL.call (R.callV rfl rfl rfl rfl) rfl rfl rfl (ly1_any 1 l z x n c 0 0 [] m _ g1 _ (hdN 1 l) _ (hSF _ q) ⟨by omega, by omega⟩ (hvF _ q) h.2.1 (by have := h.1; omega) ⟨by assumption, by assumption, (show RowL _ g1 41 (ints .u64 (hdN 1 l)) from by assumption), rfl, by omega, by omega, by omega⟩) ?_; rintro e W775 ⟨rfl, ⟨at8, O8⟩, t774⟩; refine ⟨_, rfl, ?_⟩; clear r1; replace hkk := hkk.trans (t774.less fun j hj => ⟨by have := hj.1; omega, by have := hj.1; omega, by have := hj.1; omega⟩); have rv8 := O8.rv; have rw8 := O8.rw_; clear O8)
  have zt774 := t774.size
  replace b110 := t774.onB b110 (fun j hj => ⟨by have := b110.size; omega, by omega⟩)
  replace b63 := t774.onB b63 (fun j hj => ⟨by have := b63.size; omega, by omega⟩)
  replace b26 := t774.onB b26 (fun j hj => ⟨by have := b26.size; omega, by omega⟩)
  replace hn := hn.kept t774 ⟨hn.lt, by omega⟩
  replace ho := ho.kept t774 ⟨ho.lt, by omega⟩
  replace q := t774.onB q (fun j hj => ⟨by have := q.size; omega, by omega⟩)
  replace r66 := r66.kept t774 ⟨r66.lt, by omega⟩
  replace r157 := r157.kept t774 ⟨r157.lt, by omega⟩
  refine Zq ?_; refine CC.region ?_; refine Zl r157 ?_
  refine LL.store rfl rfl rfl rfl ho (by exact Nat.le_of_ble_eq_true rfl) rfl rfl rfl rfl ?_
  intro W846 r847 b845 z848
  have hlb845 := ho.lt
  replace r847 : RowL W846 _ 28 [Value.slice (some { block := g1, off := 0 }) 16 16] := r847
  clear ho
  replace hkk := Zo hkk b845; replace rv8 := Zd rv8 b845; replace rw8 := Zd rw8 b845; replace hn := Zd hn b845; replace r66 := Zd r66 b845; replace r157 := Zd r157 b845
  have ho := r847
  clear r847
  refine LL.nil ?_; refine EE.end _ rfl rfl ?_
  exact ⟨rfl, ⟨g1, by assumption, by assumption, by omega⟩, hkk⟩
theorem words1_2 (l r p : Nat) (x : Option Addr) (n c : Nat) (m : List Ex) (go gn : Nat) (v0 : Value) (w : World) (hS : Start w) (hv : ReadsT eE 3 w (.slice x n c) m) (hlen : m.length ≤ 1048576) (hm0 : m = []) (hl : l ≤ 65535) (h : (1 ≤ r ∧ r ≤ 2047) ∧ 1 ≤ p ∧ p ≤ 256) (hn : RowL w gn 25 (inL 2 (l : Int) 0 (.slice x n c) (r : Int) (p : Int) [])) (ho : RowL w go 28 [v0]) (hne : go ≠ gn ∧ 0 < go) : Calls Tryd.prog 28 #[.pointer (some ⟨gn, 0, none⟩), .pointer (some ⟨go, 0, none⟩)] w (wordsP go (layD (hdN 2 l) r p) w) := by
  unfold wordsP
  have hkk := Kept.refl (KW w go) w
  have lgn := hn.lt; have lgo := ho.lt
  have hS0 := hS.pos
  have hvF : ∀ X, Below w.heap.size w X → ReadsT eE 3 X (.slice x n c) m := fun X b => hv.up b
  have hSF : ∀ X, Below w.heap.size w X → Start X := fun X b => hS.up b
  have q := Below.refl w.heap.size w
  clear hv hS
  refine X.fn Tryd.func28 rfl (n := 25) rfl rfl ?_
  refine Zr ?_; refine Zv hn ?_; have l30 := hn.lt; have l31 := ho.lt
  (refine LL.call (R.call rfl rfl rfl) rfl rfl rfl (check2_T l r p x n c m _ (hvF _ q) hlen hm0 (by omega) (by omega)) ?_; rintro e W29 ⟨rfl, b26⟩; refine ⟨_, rfl, ?_⟩)
  have zb26 := b26.size; replace hn := hn.up b26; replace ho := ho.up b26; replace hkk := Zh hkk b26; have y35 := hkk.size; replace q := Zu q b26; have l61 := hn.lt; have l62 := ho.lt
  refine LL.alloc ([Value.nilFunc, Value.nilFunc, Value.nilFunc, Value.nilFunc]) rfl rfl rfl rfl rfl ?_
  intro W64 g65 eg65 r66 z67 b63
  replace b26 := Zu b26 b63; replace hn := hn.up b63; replace ho := ho.up b63; replace hkk := Zh hkk b63; have y68 := hkk.size; replace q := Zu q b63
  refine LL.storeN (vs := [fnV kd2.1, fnV kd2.2.1, fnV kd2.2.2.1, fnV kd2.2.2.2]) rfl rfl rfl rfl r66 (by exact Nat.le_of_ble_eq_true rfl) (ones_of rfl) rfl rfl ?_
  intro W97 r98 b96 z99
  have hlb96 := r66.lt
  replace r98 : RowL W97 _ 68 [fnV kd2.1, fnV kd2.2.1, fnV kd2.2.2.1, fnV kd2.2.2.2] := r98
  clear r66
  replace b63 := Zg b63 b96; replace b26 := Zg b26 b96; replace hn := Zd hn b96; replace ho := Zd ho b96; replace hkk := Zo hkk b96; replace q := Zg q b96
  have r66 := r98
  clear r98
  refine Zq ?_; refine Zr ?_; have l114 := hn.lt; have l115 := ho.lt; have l116 := r66.lt
  (refine LL.makeE (l := 16) (m := 16) ElU14 rfl (by decide) rfl rfl rfl (Nat.le_refl _) (by decide) (by decide) rfl rfl ?_; intro W113 g1 eg1 r1 zg1 b110; replace r1 : RowL W113 g1 41 (ints .u64 (List.replicate 16 0)) := r1)
  have zb110 := b110.size; replace b63 := Zu b63 b110; replace b26 := Zu b26 b110; replace hn := hn.up b110; replace ho := ho.up b110; replace hkk := Zh hkk b110; have y120 := hkk.size; replace q := Zu q b110; replace r66 := r66.up b110; have l150 := r1.lt; have l151 := hn.lt; have l152 := ho.lt; have l153 := r66.lt
  refine LL.alloc ([Value.slice none 0 0]) rfl rfl rfl rfl rfl ?_
  intro W155 g156 eg156 r157 z158 b154
  replace b110 := Zu b110 b154; replace r1 := r1.up b154; replace b63 := Zu b63 b154; replace b26 := Zu b26 b154; replace hn := hn.up b154; replace ho := ho.up b154; replace hkk := Zh hkk b154; have y159 := hkk.size; replace q := Zu q b154; replace r66 := r66.up b154
  refine LL.store rfl rfl rfl rfl r157 (by exact Nat.le_of_ble_eq_true rfl) rfl rfl rfl rfl ?_
  intro W192 r193 b191 z194
  have hlb191 := r157.lt
  replace r193 : RowL W192 _ 28 [Value.slice (some { block := g1, off := 0 }) 16 16] := r193
  clear r157
  replace b154 := Zg b154 b191; replace b110 := Zg b110 b191; replace r1 := Zd r1 b191; replace b63 := Zg b63 b191; replace b26 := Zg b26 b191; replace hn := Zd hn b191; replace ho := Zd ho b191; replace hkk := Zo hkk b191; replace q := Zg q b191; replace r66 := Zd r66 b191
  have r157 := r193
  clear r193
  refine Zq ?_; refine Zr ?_; refine Zl r157 ?_; refine Zf ?_; refine Zl hn ?_
  refine LL.val (R.convI rfl rfl rfl rfl (wrapU (by omega) (by omega))) rfl rfl rfl ?_
  refine Zf ?_; refine Zl hn ?_
  refine LL.val (R.convI rfl rfl rfl rfl (wrapU (by omega) (by omega))) rfl rfl rfl ?_
  refine LL.val (R.shlE (b := 8) (z := 256 * l) rfl rfl rfl (by decide) (by omega) (by omega)) rfl rfl rfl ?_
  refine LL.val (R.orE (a := 2) (b := 256 * l) (z := 2 + 256 * l) rfl rfl rfl (by decide) (by omega) (or_add8 (by decide))) rfl rfl rfl ?_
  refine Zi ?_
  refine LL.store rfl rfl rfl rfl r1 (by exact Nat.le_of_ble_eq_true rfl) rfl rfl rfl rfl ?_
  intro W499 r500 b498 z501
  have hlb498 := r1.lt
  replace r500 : RowL W499 _ 41 [Value.int IntKind.u64 ↑(2 + 256 * l), (fun n => Value.int IntKind.u64 ↑n) 0, (fun n => Value.int IntKind.u64 ↑n) 0, (fun n => Value.int IntKind.u64 ↑n) 0, (fun n => Value.int IntKind.u64 ↑n) 0, (fun n => Value.int IntKind.u64 ↑n) 0, (fun n => Value.int IntKind.u64 ↑n) 0, (fun n => Value.int IntKind.u64 ↑n) 0, (fun n => Value.int IntKind.u64 ↑n) 0, (fun n => Value.int IntKind.u64 ↑n) 0, (fun n => Value.int IntKind.u64 ↑n) 0, (fun n => Value.int IntKind.u64 ↑n) 0, (fun n => Value.int IntKind.u64 ↑n) 0, (fun n => Value.int IntKind.u64 ↑n) 0, (fun n => Value.int IntKind.u64 ↑n) 0, (fun n => Value.int IntKind.u64 ↑n) 0] := r500
  clear r1
  replace b110 := Zg b110 b498; replace b63 := Zg b63 b498; replace b26 := Zg b26 b498; replace hn := Zd hn b498; replace ho := Zd ho b498; replace hkk := Zo hkk b498; replace q := Zg q b498; replace r66 := Zd r66 b498; replace r157 := Zd r157 b498
  have r1 := r500
  clear r500
  refine Zq ?_; refine Zr ?_; have l533 := hn.lt; have l534 := ho.lt; have l535 := r66.lt; have l536 := r157.lt; have l537 := r1.lt
  refine LL.alloc ([Value.int IntKind.i64 0]) rfl rfl rfl rfl rfl ?_
  intro W539 g540 eg540 r541 z542 b538
  replace b110 := Zu b110 b538; replace b63 := Zu b63 b538; replace b26 := Zu b26 b538; replace hn := hn.up b538; replace ho := ho.up b538; replace hkk := Zh hkk b538; have y543 := hkk.size; replace q := Zu q b538; replace r66 := r66.up b538; replace r157 := r157.up b538; replace r1 := r1.up b538
  refine LL.store rfl rfl rfl rfl r541 (by exact Nat.le_of_ble_eq_true rfl) rfl rfl rfl rfl ?_
  intro W578 r579 b577 z580
  have hlb577 := r541.lt
  replace r579 : RowL W578 _ 3 [Value.int IntKind.i64 1] := r579
  clear r541
  replace b538 := Zg b538 b577; replace b110 := Zg b110 b577; replace b63 := Zg b63 b577; replace b26 := Zg b26 b577; replace hn := Zd hn b577; replace ho := Zd ho b577; replace hkk := Zo hkk b577; replace q := Zg q b577; replace r66 := Zd r66 b577; replace r157 := Zd r157 b577; replace r1 := Zd r1 b577
  have r541 := r579
  clear r579
  refine Zq ?_; refine Zr ?_; refine Zf ?_; refine Zl r66 ?_; refine Zv hn ?_
  refine LL.val (R.buildV rfl rfl (v := .agg #[Value.int IntKind.i64 2, Value.int IntKind.i64 ↑l, Value.int IntKind.i64 0, Value.slice x n c, Value.int IntKind.i64 ↑r, Value.int IntKind.i64 ↑p, strV []]) (fun _ => by kernel_rfl)) rfl rfl rfl ?_
  refine LL.val (R.func rfl rfl rfl) rfl rfl rfl ?_
  (refine LL.call (R.callV rfl rfl rfl rfl) rfl rfl rfl (ly2_any 2 l 0 _ r p [] _ g1 _ (hdN 2 l) _ ⟨_, _, _, rfl⟩ (by omega) (by omega) ⟨by assumption, by assumption, (show RowL _ g1 41 (ints .u64 (hdN 2 l)) from by assumption), rfl, by omega, by omega, by omega⟩) ?_; rintro e W775 ⟨rfl, ⟨at8, O8⟩, t774⟩; refine ⟨_, rfl, ?_⟩; clear r1; replace hkk := hkk.trans (t774.less fun j hj => ⟨by have := hj.1; omega, by have := hj.1; omega, by have := hj.1; omega⟩); have rv8 := O8.rv; have rw8 := O8.rw_; clear O8)
  have zt774 := t774.size
  replace b110 := t774.onB b110 (fun j hj => ⟨by have := b110.size; omega, by omega⟩)
  replace b63 := t774.onB b63 (fun j hj => ⟨by have := b63.size; omega, by omega⟩)
  replace b26 := t774.onB b26 (fun j hj => ⟨by have := b26.size; omega, by omega⟩)
  replace hn := hn.kept t774 ⟨hn.lt, by omega⟩
  replace ho := ho.kept t774 ⟨ho.lt, by omega⟩
  replace q := t774.onB q (fun j hj => ⟨by have := q.size; omega, by omega⟩)
  replace r66 := r66.kept t774 ⟨r66.lt, by omega⟩
  replace r157 := r157.kept t774 ⟨r157.lt, by omega⟩
  refine Zq ?_; refine CC.region ?_; refine Zl r157 ?_
  refine LL.store rfl rfl rfl rfl ho (by exact Nat.le_of_ble_eq_true rfl) rfl rfl rfl rfl ?_
  intro W846 r847 b845 z848
  have hlb845 := ho.lt
  replace r847 : RowL W846 _ 28 [Value.slice (some { block := g1, off := 0 }) 16 16] := r847
  clear ho
  replace hkk := Zo hkk b845; replace rv8 := Zd rv8 b845; replace rw8 := Zd rw8 b845; replace hn := Zd hn b845; replace r66 := Zd r66 b845; replace r157 := Zd r157 b845
  have ho := r847
  clear r847
  refine LL.nil ?_; refine EE.end _ rfl rfl ?_
  exact ⟨rfl, ⟨g1, by assumption, by assumption, by omega⟩, hkk⟩
theorem words1_3 (l : Nat) (t : Bs) (x : Option Addr) (n c : Nat) (m : List Ex) (go gn : Nat) (v0 : Value) (w : World) (hS : Start w) (hv : ReadsT eE 3 w (.slice x n c) m) (hlen : m.length ≤ 1048576) (hm0 : m = []) (hl : l ≤ 65535) (h : (1 ≤ t.length ∧ t.length ≤ 112) ∧ (0 : UInt8) ∉ t) (hn : RowL w gn 25 (inL 3 (l : Int) 0 (.slice x n c) 0 0 t)) (ho : RowL w go 28 [v0]) (hne : go ≠ gn ∧ 0 < go) : Calls Tryd.prog 28 #[.pointer (some ⟨gn, 0, none⟩), .pointer (some ⟨go, 0, none⟩)] w (wordsP go (layK (hdN 3 l) t) w) := by
  unfold wordsP
  have hkk := Kept.refl (KW w go) w
  have lgn := hn.lt; have lgo := ho.lt
  have hS0 := hS.pos
  have hvF : ∀ X, Below w.heap.size w X → ReadsT eE 3 X (.slice x n c) m := fun X b => hv.up b
  have hSF : ∀ X, Below w.heap.size w X → Start X := fun X b => hS.up b
  have q := Below.refl w.heap.size w
  clear hv hS
  refine X.fn Tryd.func28 rfl (n := 25) rfl rfl ?_
  refine Zr ?_; refine Zv hn ?_; have l30 := hn.lt; have l31 := ho.lt
  (refine LL.call (R.call rfl rfl rfl) rfl rfl rfl (check3_T l t x n c m _ (hvF _ q) hlen hm0 (by omega) h) ?_; rintro e W29 ⟨rfl, b26⟩; refine ⟨_, rfl, ?_⟩)
  have zb26 := b26.size; replace hn := hn.up b26; replace ho := ho.up b26; replace hkk := Zh hkk b26; have y35 := hkk.size; replace q := Zu q b26; have l61 := hn.lt; have l62 := ho.lt
  refine LL.alloc ([Value.nilFunc, Value.nilFunc, Value.nilFunc, Value.nilFunc]) rfl rfl rfl rfl rfl ?_
  intro W64 g65 eg65 r66 z67 b63
  replace b26 := Zu b26 b63; replace hn := hn.up b63; replace ho := ho.up b63; replace hkk := Zh hkk b63; have y68 := hkk.size; replace q := Zu q b63
  refine LL.storeN (vs := [fnV kd3.1, fnV kd3.2.1, fnV kd3.2.2.1, fnV kd3.2.2.2]) rfl rfl rfl rfl r66 (by exact Nat.le_of_ble_eq_true rfl) (ones_of rfl) rfl rfl ?_
  intro W97 r98 b96 z99
  have hlb96 := r66.lt
  replace r98 : RowL W97 _ 68 [fnV kd3.1, fnV kd3.2.1, fnV kd3.2.2.1, fnV kd3.2.2.2] := r98
  clear r66
  replace b63 := Zg b63 b96; replace b26 := Zg b26 b96; replace hn := Zd hn b96; replace ho := Zd ho b96; replace hkk := Zo hkk b96; replace q := Zg q b96
  have r66 := r98
  clear r98
  refine Zq ?_; refine Zr ?_; have l114 := hn.lt; have l115 := ho.lt; have l116 := r66.lt
  (refine LL.makeE (l := 16) (m := 16) ElU14 rfl (by decide) rfl rfl rfl (Nat.le_refl _) (by decide) (by decide) rfl rfl ?_; intro W113 g1 eg1 r1 zg1 b110; replace r1 : RowL W113 g1 41 (ints .u64 (List.replicate 16 0)) := r1)
  have zb110 := b110.size; replace b63 := Zu b63 b110; replace b26 := Zu b26 b110; replace hn := hn.up b110; replace ho := ho.up b110; replace hkk := Zh hkk b110; have y120 := hkk.size; replace q := Zu q b110; replace r66 := r66.up b110; have l150 := r1.lt; have l151 := hn.lt; have l152 := ho.lt; have l153 := r66.lt
  refine LL.alloc ([Value.slice none 0 0]) rfl rfl rfl rfl rfl ?_
  intro W155 g156 eg156 r157 z158 b154
  replace b110 := Zu b110 b154; replace r1 := r1.up b154; replace b63 := Zu b63 b154; replace b26 := Zu b26 b154; replace hn := hn.up b154; replace ho := ho.up b154; replace hkk := Zh hkk b154; have y159 := hkk.size; replace q := Zu q b154; replace r66 := r66.up b154
  refine LL.store rfl rfl rfl rfl r157 (by exact Nat.le_of_ble_eq_true rfl) rfl rfl rfl rfl ?_
  intro W192 r193 b191 z194
  have hlb191 := r157.lt
  replace r193 : RowL W192 _ 28 [Value.slice (some { block := g1, off := 0 }) 16 16] := r193
  clear r157
  replace b154 := Zg b154 b191; replace b110 := Zg b110 b191; replace r1 := Zd r1 b191; replace b63 := Zg b63 b191; replace b26 := Zg b26 b191; replace hn := Zd hn b191; replace ho := Zd ho b191; replace hkk := Zo hkk b191; replace q := Zg q b191; replace r66 := Zd r66 b191
  have r157 := r193
  clear r193
  refine Zq ?_; refine Zr ?_; refine Zl r157 ?_; refine Zf ?_; refine Zl hn ?_
  refine LL.val (R.convI rfl rfl rfl rfl (wrapU (by omega) (by omega))) rfl rfl rfl ?_
  refine Zf ?_; refine Zl hn ?_
  refine LL.val (R.convI rfl rfl rfl rfl (wrapU (by omega) (by omega))) rfl rfl rfl ?_
  refine LL.val (R.shlE (b := 8) (z := 256 * l) rfl rfl rfl (by decide) (by omega) (by omega)) rfl rfl rfl ?_
  refine LL.val (R.orE (a := 3) (b := 256 * l) (z := 3 + 256 * l) rfl rfl rfl (by decide) (by omega) (or_add8 (by decide))) rfl rfl rfl ?_
  refine Zi ?_
  refine LL.store rfl rfl rfl rfl r1 (by exact Nat.le_of_ble_eq_true rfl) rfl rfl rfl rfl ?_
  intro W499 r500 b498 z501
  have hlb498 := r1.lt
  replace r500 : RowL W499 _ 41 [Value.int IntKind.u64 ↑(3 + 256 * l), (fun n => Value.int IntKind.u64 ↑n) 0, (fun n => Value.int IntKind.u64 ↑n) 0, (fun n => Value.int IntKind.u64 ↑n) 0, (fun n => Value.int IntKind.u64 ↑n) 0, (fun n => Value.int IntKind.u64 ↑n) 0, (fun n => Value.int IntKind.u64 ↑n) 0, (fun n => Value.int IntKind.u64 ↑n) 0, (fun n => Value.int IntKind.u64 ↑n) 0, (fun n => Value.int IntKind.u64 ↑n) 0, (fun n => Value.int IntKind.u64 ↑n) 0, (fun n => Value.int IntKind.u64 ↑n) 0, (fun n => Value.int IntKind.u64 ↑n) 0, (fun n => Value.int IntKind.u64 ↑n) 0, (fun n => Value.int IntKind.u64 ↑n) 0, (fun n => Value.int IntKind.u64 ↑n) 0] := r500
  clear r1
  replace b110 := Zg b110 b498; replace b63 := Zg b63 b498; replace b26 := Zg b26 b498; replace hn := Zd hn b498; replace ho := Zd ho b498; replace hkk := Zo hkk b498; replace q := Zg q b498; replace r66 := Zd r66 b498; replace r157 := Zd r157 b498
  have r1 := r500
  clear r500
  refine Zq ?_; refine Zr ?_; have l533 := hn.lt; have l534 := ho.lt; have l535 := r66.lt; have l536 := r157.lt; have l537 := r1.lt
  refine LL.alloc ([Value.int IntKind.i64 0]) rfl rfl rfl rfl rfl ?_
  intro W539 g540 eg540 r541 z542 b538
  replace b110 := Zu b110 b538; replace b63 := Zu b63 b538; replace b26 := Zu b26 b538; replace hn := hn.up b538; replace ho := ho.up b538; replace hkk := Zh hkk b538; have y543 := hkk.size; replace q := Zu q b538; replace r66 := r66.up b538; replace r157 := r157.up b538; replace r1 := r1.up b538
  refine LL.store rfl rfl rfl rfl r541 (by exact Nat.le_of_ble_eq_true rfl) rfl rfl rfl rfl ?_
  intro W578 r579 b577 z580
  have hlb577 := r541.lt
  replace r579 : RowL W578 _ 3 [Value.int IntKind.i64 1] := r579
  clear r541
  replace b538 := Zg b538 b577; replace b110 := Zg b110 b577; replace b63 := Zg b63 b577; replace b26 := Zg b26 b577; replace hn := Zd hn b577; replace ho := Zd ho b577; replace hkk := Zo hkk b577; replace q := Zg q b577; replace r66 := Zd r66 b577; replace r157 := Zd r157 b577; replace r1 := Zd r1 b577
  have r541 := r579
  clear r579
  refine Zq ?_; refine Zr ?_; refine Zf ?_; refine Zl r66 ?_; refine Zv hn ?_
  refine LL.val (R.buildV rfl rfl (v := .agg #[Value.int IntKind.i64 3, Value.int IntKind.i64 ↑l, Value.int IntKind.i64 0, Value.slice x n c, Value.int IntKind.i64 0, Value.int IntKind.i64 0, strV t]) (fun _ => by kernel_rfl)) rfl rfl rfl ?_
  refine LL.val (R.func rfl rfl rfl) rfl rfl rfl ?_
  (refine LL.call (R.callV rfl rfl rfl rfl) rfl rfl rfl (ly3_any 3 l 0 _ 0 0 t _ g1 _ (hdN 3 l) _ ⟨_, _, _, rfl⟩ h.1 ⟨by assumption, by assumption, (show RowL _ g1 41 (ints .u64 (hdN 3 l)) from by assumption), rfl, by omega, by omega, by omega⟩) ?_; rintro e W775 ⟨rfl, ⟨at8, O8⟩, t774⟩; refine ⟨_, rfl, ?_⟩; clear r1; replace hkk := hkk.trans (t774.less fun j hj => ⟨by have := hj.1; omega, by have := hj.1; omega, by have := hj.1; omega⟩); have rv8 := O8.rv; have rw8 := O8.rw_; clear O8)
  have zt774 := t774.size
  replace b110 := t774.onB b110 (fun j hj => ⟨by have := b110.size; omega, by omega⟩)
  replace b63 := t774.onB b63 (fun j hj => ⟨by have := b63.size; omega, by omega⟩)
  replace b26 := t774.onB b26 (fun j hj => ⟨by have := b26.size; omega, by omega⟩)
  replace hn := hn.kept t774 ⟨hn.lt, by omega⟩
  replace ho := ho.kept t774 ⟨ho.lt, by omega⟩
  replace q := t774.onB q (fun j hj => ⟨by have := q.size; omega, by omega⟩)
  replace r66 := r66.kept t774 ⟨r66.lt, by omega⟩
  replace r157 := r157.kept t774 ⟨r157.lt, by omega⟩
  refine Zq ?_; refine CC.region ?_; refine Zl r157 ?_
  refine LL.store rfl rfl rfl rfl ho (by exact Nat.le_of_ble_eq_true rfl) rfl rfl rfl rfl ?_
  intro W846 r847 b845 z848
  have hlb845 := ho.lt
  replace r847 : RowL W846 _ 28 [Value.slice (some { block := g1, off := 0 }) 16 16] := r847
  clear ho
  replace hkk := Zo hkk b845; replace rv8 := Zd rv8 b845; replace rw8 := Zd rw8 b845; replace hn := Zd hn b845; replace r66 := Zd r66 b845; replace r157 := Zd r157 b845
  have ho := r847
  clear r847
  refine LL.nil ?_; refine EE.end _ rfl rfl ?_
  exact ⟨rfl, ⟨g1, by assumption, by assumption, by omega⟩, hkk⟩
theorem words1_0  (x : Option Addr) (n c : Nat) (m : List Ex) (go gn : Nat) (v0 : Value) (w : World) (hS : Start w) (hv : ReadsT eE 3 w (.slice x n c) m) (hlen : m.length ≤ 1048576) (hm0 : m = []) (hn : RowL w gn 25 (inL 0 0 0 (.slice x n c) 0 0 [])) (ho : RowL w go 28 [v0]) (hne : go ≠ gn ∧ 0 < go) : Calls Tryd.prog 28 #[.pointer (some ⟨gn, 0, none⟩), .pointer (some ⟨go, 0, none⟩)] w (wordsP go (hdN 0 0) w) := by
  unfold wordsP
  have hkk := Kept.refl (KW w go) w
  have lgn := hn.lt; have lgo := ho.lt
  have hS0 := hS.pos
  have hvF : ∀ X, Below w.heap.size w X → ReadsT eE 3 X (.slice x n c) m := fun X b => hv.up b
  have hSF : ∀ X, Below w.heap.size w X → Start X := fun X b => hS.up b
  have q := Below.refl w.heap.size w
  clear hv hS
  refine X.fn Tryd.func28 rfl (n := 25) rfl rfl ?_
  refine Zr ?_; refine Zv hn ?_; have l30 := hn.lt; have l31 := ho.lt
  (refine LL.call (R.call rfl rfl rfl) rfl rfl rfl (check0_T x n c m _ (hvF _ q) hlen hm0) ?_; rintro e W29 ⟨rfl, b26⟩; refine ⟨_, rfl, ?_⟩)
  have zb26 := b26.size; replace hn := hn.up b26; replace ho := ho.up b26; replace hkk := Zh hkk b26; have y35 := hkk.size; replace q := Zu q b26; have l61 := hn.lt; have l62 := ho.lt
  refine LL.alloc ([Value.nilFunc, Value.nilFunc, Value.nilFunc, Value.nilFunc]) rfl rfl rfl rfl rfl ?_
  intro W64 g65 eg65 r66 z67 b63
  replace b26 := Zu b26 b63; replace hn := hn.up b63; replace ho := ho.up b63; replace hkk := Zh hkk b63; have y68 := hkk.size; replace q := Zu q b63
  refine LL.storeN (vs := [fnV kd0.1, fnV kd0.2.1, fnV kd0.2.2.1, fnV kd0.2.2.2]) rfl rfl rfl rfl r66 (by exact Nat.le_of_ble_eq_true rfl) (ones_of rfl) rfl rfl ?_
  intro W97 r98 b96 z99
  have hlb96 := r66.lt
  replace r98 : RowL W97 _ 68 [fnV kd0.1, fnV kd0.2.1, fnV kd0.2.2.1, fnV kd0.2.2.2] := r98
  clear r66
  replace b63 := Zg b63 b96; replace b26 := Zg b26 b96; replace hn := Zd hn b96; replace ho := Zd ho b96; replace hkk := Zo hkk b96; replace q := Zg q b96
  have r66 := r98
  clear r98
  refine Zq ?_; refine Zr ?_; have l114 := hn.lt; have l115 := ho.lt; have l116 := r66.lt
  (refine LL.makeE (l := 16) (m := 16) ElU14 rfl (by decide) rfl rfl rfl (Nat.le_refl _) (by decide) (by decide) rfl rfl ?_; intro W113 g1 eg1 r1 zg1 b110; replace r1 : RowL W113 g1 41 (ints .u64 (List.replicate 16 0)) := r1)
  have zb110 := b110.size; replace b63 := Zu b63 b110; replace b26 := Zu b26 b110; replace hn := hn.up b110; replace ho := ho.up b110; replace hkk := Zh hkk b110; have y120 := hkk.size; replace q := Zu q b110; replace r66 := r66.up b110; have l150 := r1.lt; have l151 := hn.lt; have l152 := ho.lt; have l153 := r66.lt
  refine LL.alloc ([Value.slice none 0 0]) rfl rfl rfl rfl rfl ?_
  intro W155 g156 eg156 r157 z158 b154
  replace b110 := Zu b110 b154; replace r1 := r1.up b154; replace b63 := Zu b63 b154; replace b26 := Zu b26 b154; replace hn := hn.up b154; replace ho := ho.up b154; replace hkk := Zh hkk b154; have y159 := hkk.size; replace q := Zu q b154; replace r66 := r66.up b154
  refine LL.store rfl rfl rfl rfl r157 (by exact Nat.le_of_ble_eq_true rfl) rfl rfl rfl rfl ?_
  intro W192 r193 b191 z194
  have hlb191 := r157.lt
  replace r193 : RowL W192 _ 28 [Value.slice (some { block := g1, off := 0 }) 16 16] := r193
  clear r157
  replace b154 := Zg b154 b191; replace b110 := Zg b110 b191; replace r1 := Zd r1 b191; replace b63 := Zg b63 b191; replace b26 := Zg b26 b191; replace hn := Zd hn b191; replace ho := Zd ho b191; replace hkk := Zo hkk b191; replace q := Zg q b191; replace r66 := Zd r66 b191
  have r157 := r193
  clear r193
  refine Zq ?_; refine Zr ?_; refine Zl r157 ?_; refine Zf ?_; refine Zl hn ?_
  refine LL.val (R.convI rfl rfl rfl rfl (wrapU (by omega) (by omega))) rfl rfl rfl ?_
  refine Zf ?_; refine Zl hn ?_
  refine LL.val (R.convI rfl rfl rfl rfl (wrapU (by omega) (by omega))) rfl rfl rfl ?_
  refine LL.val (R.shlE (a := 0) (b := 8) (z := 256 * 0) rfl rfl rfl (by decide) (by omega) (by omega)) rfl rfl rfl ?_
  refine LL.val (R.orE (a := 0) (b := 256 * 0) (z := 0 + 256 * 0) rfl rfl rfl (by decide) (by omega) (or_add8 (by decide))) rfl rfl rfl ?_
  refine Zi ?_
  refine LL.store rfl rfl rfl rfl r1 (by exact Nat.le_of_ble_eq_true rfl) rfl rfl rfl rfl ?_
  intro W499 r500 b498 z501
  have hlb498 := r1.lt
  replace r500 : RowL W499 _ 41 [Value.int IntKind.u64 ↑(0 + 256 * 0), (fun n => Value.int IntKind.u64 ↑n) 0, (fun n => Value.int IntKind.u64 ↑n) 0, (fun n => Value.int IntKind.u64 ↑n) 0, (fun n => Value.int IntKind.u64 ↑n) 0, (fun n => Value.int IntKind.u64 ↑n) 0, (fun n => Value.int IntKind.u64 ↑n) 0, (fun n => Value.int IntKind.u64 ↑n) 0, (fun n => Value.int IntKind.u64 ↑n) 0, (fun n => Value.int IntKind.u64 ↑n) 0, (fun n => Value.int IntKind.u64 ↑n) 0, (fun n => Value.int IntKind.u64 ↑n) 0, (fun n => Value.int IntKind.u64 ↑n) 0, (fun n => Value.int IntKind.u64 ↑n) 0, (fun n => Value.int IntKind.u64 ↑n) 0, (fun n => Value.int IntKind.u64 ↑n) 0] := r500
  clear r1
  replace b110 := Zg b110 b498; replace b63 := Zg b63 b498; replace b26 := Zg b26 b498; replace hn := Zd hn b498; replace ho := Zd ho b498; replace hkk := Zo hkk b498; replace q := Zg q b498; replace r66 := Zd r66 b498; replace r157 := Zd r157 b498
  have r1 := r500
  clear r500
  refine Zq ?_; refine Zr ?_; have l533 := hn.lt; have l534 := ho.lt; have l535 := r66.lt; have l536 := r157.lt; have l537 := r1.lt
  refine LL.alloc ([Value.int IntKind.i64 0]) rfl rfl rfl rfl rfl ?_
  intro W539 g540 eg540 r541 z542 b538
  replace b110 := Zu b110 b538; replace b63 := Zu b63 b538; replace b26 := Zu b26 b538; replace hn := hn.up b538; replace ho := ho.up b538; replace hkk := Zh hkk b538; have y543 := hkk.size; replace q := Zu q b538; replace r66 := r66.up b538; replace r157 := r157.up b538; replace r1 := r1.up b538
  refine LL.store rfl rfl rfl rfl r541 (by exact Nat.le_of_ble_eq_true rfl) rfl rfl rfl rfl ?_
  intro W578 r579 b577 z580
  have hlb577 := r541.lt
  replace r579 : RowL W578 _ 3 [Value.int IntKind.i64 1] := r579
  clear r541
  replace b538 := Zg b538 b577; replace b110 := Zg b110 b577; replace b63 := Zg b63 b577; replace b26 := Zg b26 b577; replace hn := Zd hn b577; replace ho := Zd ho b577; replace hkk := Zo hkk b577; replace q := Zg q b577; replace r66 := Zd r66 b577; replace r157 := Zd r157 b577; replace r1 := Zd r1 b577
  have r541 := r579
  clear r579
  refine Zq ?_; refine Zr ?_; refine Zf ?_; refine Zl r66 ?_; refine Zv hn ?_
  refine LL.val (R.buildV rfl rfl (v := .agg #[Value.int IntKind.i64 0, Value.int IntKind.i64 0, Value.int IntKind.i64 0, Value.slice x n c, Value.int IntKind.i64 0, Value.int IntKind.i64 0, strV []]) (fun _ => by kernel_rfl)) rfl rfl rfl ?_
  refine LL.val (R.func rfl rfl rfl) rfl rfl rfl ?_
  (refine LL.call (R.callV rfl rfl rfl rfl) rfl rfl rfl (ly0_any 0 0 0 _ 0 0 [] _ g1 _ 1 (hdN 0 0) _ ⟨_, _, _, rfl⟩ ⟨by assumption, by assumption, (show RowL _ g1 41 (ints .u64 (hdN 0 0)) from by assumption), rfl, by omega, by omega, by omega⟩) ?_; rintro e W775 ⟨rfl, ⟨at8, O8⟩, t774⟩; refine ⟨_, rfl, ?_⟩; clear r1; replace hkk := hkk.trans (t774.less fun j hj => ⟨by have := hj.1; omega, by have := hj.1; omega, by have := hj.1; omega⟩); have rv8 := O8.rv; have rw8 := O8.rw_; clear O8)
  have zt774 := t774.size
  replace b110 := t774.onB b110 (fun j hj => ⟨by have := b110.size; omega, by omega⟩)
  replace b63 := t774.onB b63 (fun j hj => ⟨by have := b63.size; omega, by omega⟩)
  replace b26 := t774.onB b26 (fun j hj => ⟨by have := b26.size; omega, by omega⟩)
  replace hn := hn.kept t774 ⟨hn.lt, by omega⟩
  replace ho := ho.kept t774 ⟨ho.lt, by omega⟩
  replace q := t774.onB q (fun j hj => ⟨by have := q.size; omega, by omega⟩)
  replace r66 := r66.kept t774 ⟨r66.lt, by omega⟩
  replace r157 := r157.kept t774 ⟨r157.lt, by omega⟩
  refine Zq ?_; refine CC.region ?_; refine Zl r157 ?_
  refine LL.store rfl rfl rfl rfl ho (by exact Nat.le_of_ble_eq_true rfl) rfl rfl rfl rfl ?_
  intro W846 r847 b845 z848
  have hlb845 := ho.lt
  replace r847 : RowL W846 _ 28 [Value.slice (some { block := g1, off := 0 }) 16 16] := r847
  clear ho
  replace hkk := Zo hkk b845; replace rv8 := Zd rv8 b845; replace rw8 := Zd rw8 b845; replace hn := Zd hn b845; replace r66 := Zd r66 b845; replace r157 := Zd r157 b845
  have ho := r847
  clear r847
  refine LL.nil ?_; refine EE.end _ rfl rfl ?_
  exact ⟨rfl, ⟨g1, by assumption, by assumption, by omega⟩, hkk⟩
end Go.Proofs.YtnoefalgmekjbaaDoor

/- inode: work that may give up; Check, Words. -/
namespace Go.Proofs.YtnoefalgmekjbaaDoor
set_option linter.unusedVariables false
set_option linter.unusedSimpArgs false
open Go.RowKit Go.Shelf
set_option maxRecDepth 100000
set_option maxHeartbeats 8000000
theorem grd1_calm (ge : Nat) (w : World) : CallsDIn Fence.wide 2 Tryd.prog 49 [Value.pointer (some ⟨ge, 0, none⟩)].toArray .returning w fun e u' w' => (∃ v, e = .returned v) ∧ u' = .returning ∧ w = w' := by
  refine X.recovers (n := 17) (d := 4) (e := 1) Tryd.func49 rfl rfl rfl rfl rfl rfl rfl rfl rfl rfl rfl (recover_calm) ?_
  refine Zr ?_; refine Zm ?_
  refine LL.val (R.eqNilI rfl rfl (by kernel_rfl)) rfl rfl rfl ?_
  refine Zq ?_; refine CC.no rfl ?_; refine CC.skip ?_; refine EE.end _ rfl rfl ?_
  exact ⟨⟨_, rfl⟩, rfl, rfl⟩
theorem grd1_pan (ge : Nat) (x0 : Int) (w : World) (h2 : RowL w ge 29 [.int .i64 x0]) : CallsDIn Fence.wide 2 Tryd.prog 49 [Value.pointer (some ⟨ge, 0, none⟩)].toArray (.panicking (chain1 refV)) w fun e u' w' => (∃ v, e = .returned v) ∧ u' = .panicking [{ v := refV, recovered := true }] ∧ RowL w' ge 29 [.int .i64 240] ∧ Kept (fun i => i < w.heap.size ∧ i ≠ ge) w w' := by
  refine X.recovers (n := 17) (d := 4) (e := 1) Tryd.func49 rfl rfl rfl rfl rfl rfl rfl rfl rfl rfl rfl (recover_one refV) ?_
  have hkk := Kept.refl (fun i => i < w.heap.size ∧ i ≠ ge) w
  have lge := h2.lt; refine Zr ?_; refine Zm ?_
  refine LL.val (R.neNilI rfl rfl rfl (by kernel_rfl)) rfl rfl rfl ?_
  refine Zq ?_; refine CC.yes rfl ?_; refine Zr ?_; refine Zm ?_
  refine LL.val (R.assertT rfl rfl (by kernel_rfl)) rfl rfl rfl ?_
  refine Zm ?_; refine Zx ?_; refine Zx ?_; have l1 := h2.lt
  refine LL.alloc ([Value.int IntKind.i64 0]) rfl rfl rfl rfl rfl ?_
  intro W3 g4 eg4 r5 z6 b2
  replace h2 := h2.up b2; replace hkk := Zh hkk b2; have y7 := hkk.size
  refine LL.storeN (vs := [Value.int IntKind.i64 240]) rfl rfl rfl rfl r5 (by exact Nat.le_of_ble_eq_true rfl) (ones_of rfl) rfl rfl ?_
  intro W9 r10 b8 z11
  have hlb8 := r5.lt
  replace r10 : RowL W9 _ 100 [Value.int IntKind.i64 240] := r10
  clear r5
  replace b2 := Zg b2 b8; replace h2 := Zd h2 b8; replace hkk := Zo hkk b8
  have r5 := r10
  clear r10
  refine Za ?_; refine Zq ?_; refine Zc ?_; refine Zr ?_; refine Zm ?_; refine Zt ?_; refine Zq ?_; refine CC.no rfl ?_; refine CC.skip ?_; refine EE.thenN ?_; refine CC.region ?_; refine Zf ?_; refine Zl r5 ?_
  refine LL.store rfl rfl rfl rfl h2 (by exact Nat.le_of_ble_eq_true rfl) rfl rfl rfl rfl ?_
  intro W13 r14 b12 z15
  have hlb12 := h2.lt
  replace r14 : RowL W13 _ 29 [Value.int IntKind.i64 240] := r14
  clear h2
  replace hkk := Zo hkk b12; replace r5 := Zd r5 b12
  have h2 := r14
  clear r14
  refine LL.nil ?_; refine EE.end _ rfl rfl ?_
  exact ⟨⟨_, rfl⟩, rfl, h2, hkk⟩
theorem callsA {P : Program} {f : FuncId} {a b : Array Value} {w : World} {R : Ending → World → Prop} (h : a = b) (c : Calls P f a w R) : Calls P f b w R := h ▸ c
theorem guarded_R (F : FuncId) (cap : List Value) (eF : entB Tryd.prog F = true) (go : Nat) (Rp : Nat → World → Prop) (w : World) (hgo : go < w.heap.size)
    (hR : ∀ n X Y b, Rp n X → w.heap.size ≤ b → b < n → X.grownBy Y (some b) → Rp n Y)
    (hwork : ∀ W, Below w.heap.size w W → Calls Tryd.prog F cap.toArray W fun e W' => e = .returned (.tuple #[]) ∧ Rp W.heap.size W' ∧ Kept (KW W go) W W') :
    Calls Tryd.prog 27 #[.func (.func F) #[] cap.toArray] w fun e w' => e = .returned (.int .i64 0) ∧ (∃ n, w.heap.size ≤ n ∧ Rp n w') ∧ Kept (KW w go) w w' := by
  have q := Below.refl w.heap.size w
  have hkk := Kept.refl (KW w go) w
  refine X.fnP Tryd.func27 rfl (n := 6) rfl rfl ?_
  refine Zr ?_
  refine LL.alloc ([Value.int IntKind.i64 0]) rfl rfl rfl rfl rfl ?_
  intro W2 g3 eg3 r4 z5 b1
  replace q := Zu q b1; replace hkk := Zh hkk b1; have y6 := hkk.size; refine Zq ?_; refine Zr ?_
  refine LL.val (R.func rfl rfl rfl) rfl rfl rfl ?_
  refine LL.defer rfl rfl rfl rfl rfl rfl ?_; refine Zq ?_; refine Zr ?_; refine Zm ?_; have lr4 := r4.lt
  refine LL.call (R.callV rfl rfl rfl eF) rfl rfl rfl (callsA (by simp) (hwork _ q)) ?_
  rintro e W5 ⟨rfl, hr5, t5⟩
  refine ⟨_, rfl, ?_⟩
  replace r4 := r4.kept t5 ⟨r4.lt, by omega⟩
  have zt5 := t5.size
  replace hkk := hkk.trans (t5.less fun j hj => ⟨by have := hj.1; omega, hj.2⟩)
  have hlo : w.heap.size ≤ W2.heap.size := by omega
  have hb3 : g3 < W2.heap.size := by omega
  obtain ⟨N2, hN2⟩ : ∃ N, W2.heap.size = N := ⟨_, rfl⟩
  rw [hN2] at hr5 hlo hb3
  clear t5
  refine Zq ?_; refine Zr ?_
  refine LL.store rfl rfl rfl rfl r4 (by exact Nat.le_of_ble_eq_true rfl) rfl rfl rfl rfl ?_
  intro Wa2 ra3 ba1 za4
  have hlba1 := r4.lt
  replace ra3 : RowL Wa2 _ 29 [Value.int IntKind.i64 0] := ra3
  clear r4
  replace hkk := Zo hkk ba1
  have r4 := ra3
  clear ra3
  refine Zq ?_; refine CC.ret ?_
  (refine EE.retD (by kernel_rfl) (grd1_calm g3 _) rfl ?_; rintro e u' W6 ⟨hv, rfl, rfl⟩; exact ⟨hv, rfl, _, ⟨_, rfl, lv1 rfl (RowL.cell r4 rfl)⟩, rfl, ⟨N2, hlo, hR N2 _ _ g3 hr5 (by omega) hb3 (by assumption)⟩, hkk⟩)
theorem guarded_P (F : FuncId) (cap : List Value) (eF : entB Tryd.prog F = true) (go : Nat) (w : World) (hgo : go < w.heap.size)
    (hwork : ∀ W, Below w.heap.size w W → Calls Tryd.prog F cap.toArray W fun e W' => e = .panicked (chain1 refV) ∧ Kept (KW W go) W W') :
    Calls Tryd.prog 27 #[.func (.func F) #[] cap.toArray] w fun e w' => e = .returned (.int .i64 240) ∧ Kept (KW w go) w w' := by
  have q := Below.refl w.heap.size w
  have hkk := Kept.refl (KW w go) w
  refine X.fnP Tryd.func27 rfl (n := 6) rfl rfl ?_
  refine Zr ?_
  refine LL.alloc ([Value.int IntKind.i64 0]) rfl rfl rfl rfl rfl ?_
  intro W2 g3 eg3 r4 z5 b1
  replace q := Zu q b1; replace hkk := Zh hkk b1; have y6 := hkk.size; refine Zq ?_; refine Zr ?_
  refine LL.val (R.func rfl rfl rfl) rfl rfl rfl ?_
  refine LL.defer rfl rfl rfl rfl rfl rfl ?_; refine Zq ?_; refine Zr ?_; refine Zm ?_; have lr4 := r4.lt
  refine LL.callP (R.callV rfl rfl rfl eF) rfl rfl (callsA (by simp) (hwork _ q)) ?_
  rintro e W5 ⟨rfl, t5⟩
  refine ⟨_, rfl, ?_⟩
  replace r4 := r4.kept t5 ⟨r4.lt, by omega⟩
  have zt5 := t5.size
  replace hkk := hkk.trans (t5.less fun j hj => ⟨by have := hj.1; omega, hj.2⟩)
  refine EE.thenP ?_
  (refine EE.panD (by kernel_rfl) (grd1_pan g3 _ _ r4) rfl ?_; rintro e u' W6 ⟨hv, rfl, h2, hk⟩; exact ⟨hv, rfl, _, ⟨_, rfl, lv1 rfl (RowL.cell h2 rfl)⟩, rfl, hkk.trans (hk.less fun j hj => ⟨by have := hj.1; omega, by have := hj.1; omega⟩)⟩)
theorem check_F' (k l z : Int) (x : Option Addr) (n c : Nat) (m : List Ex) (r p : Int) (t : Bs) (w : World) (hv : ReadsT eE 3 w (.slice x n c) m) (hlen : m.length ≤ 1048576) (htl : t.length ≤ 1048576) (h : ¬okI k l z m r p t) : Calls Tryd.prog 29 #[inV k l z (.slice x n c) r p t] w fun e w' => e = .panicked (chain1 refV) ∧ Below w.heap.size w w' := by
  by_cases hk : k < 0 ∨ 3 < k
  · exact checkK_F k l z r p t x n c m w hv hlen hk
  rcases (by omega : k = 0 ∨ k = 1 ∨ k = 2 ∨ k = 3) with rfl | rfl | rfl | rfl
  · by_cases hl : l < 0 ∨ 65535 < l
    · exact check0_L l z r p t x n c m w hv hlen hl
    · by_cases hn : sameI 0 l z m r p t 0 0 0 [] 0 0 []
      · obtain ⟨_, rfl, rfl, rfl, rfl, rfl, rfl⟩ := hn
        exact absurd ⟨by omega, .inl ⟨rfl, rfl, rfl, rfl, rfl, rfl, rfl⟩⟩ h
      · exact check0_N l z r p t x n c m w hv hlen (by omega) hn
  · by_cases hl : l < 0 ∨ 65535 < l
    · exact check1_L l z r p t x n c m w hv hlen hl
    · by_cases hn : sameI 1 l z m r p t 1 l z m 0 0 []
      · obtain ⟨_, _, _, _, rfl, rfl, rfl⟩ := hn
        exact check1_M l z x n c m w hv hlen (by omega) fun hf => h ⟨by omega, .inr (.inl ⟨rfl, rfl, rfl, rfl, hf⟩)⟩
      · exact check1_N l z r p t x n c m w hv hlen (by omega) hn
  · by_cases hl : l < 0 ∨ 65535 < l
    · exact check2_L l z r p t x n c m w hv hlen hl
    · by_cases hn : sameI 2 l z m r p t 2 l 0 [] r p []
      · obtain ⟨_, _, rfl, rfl, _, _, rfl⟩ := hn
        exact check2_M l r p x n c [] w hv hlen rfl (by omega) fun hf => h ⟨by omega, .inr (.inr (.inl ⟨rfl, rfl, rfl, rfl, hf⟩))⟩
      · exact check2_N l z r p t x n c m w hv hlen (by omega) hn
  · by_cases hl : l < 0 ∨ 65535 < l
    · exact check3_L l z r p t x n c m w hv hlen hl
    · by_cases hn : sameI 3 l z m r p t 3 l 0 [] 0 0 t
      · obtain ⟨_, _, rfl, rfl, rfl, rfl, _⟩ := hn
        exact check3_M l t x n c [] w hv hlen rfl (by omega) htl fun hf => h ⟨by omega, .inr (.inr (.inr ⟨rfl, rfl, rfl, rfl, rfl, hf⟩))⟩
      · exact check3_N l z r p t x n c m w hv hlen (by omega) hn
end Go.Proofs.YtnoefalgmekjbaaDoor

/- inode: Check, Words. -/
namespace Go.Proofs.YtnoefalgmekjbaaDoor
set_option linter.unusedVariables false
set_option linter.unusedSimpArgs false
open Go.RowKit Go.Shelf
set_option maxRecDepth 100000
set_option maxHeartbeats 8000000
/-- An inode's words. -/
def inoW (k l z : Int) (m : List Ex) (r p : Int) (t : Bs) : List Nat :=
  if k = 1 then layF (hdN 1 l.toNat) z.toNat m else if k = 2 then layD (hdN 2 l.toNat) r.toNat p.toNat else if k = 3 then layK (hdN 3 l.toNat) t else hdN 0 0
theorem words1_any (k l z : Int) (x : Option Addr) (n c : Nat) (m : List Ex) (r p : Int) (t : Bs) (go gn : Nat) (v0 : Value) (w : World) (hS : Start w) (hv : ReadsT eE 3 w (.slice x n c) m) (hlen : m.length ≤ 1048576) (h : okI k l z m r p t) (hn : RowL w gn 25 (inL k l z (.slice x n c) r p t)) (ho : RowL w go 28 [v0]) (hne : go ≠ gn ∧ 0 < go) : Calls Tryd.prog 28 #[.pointer (some ⟨gn, 0, none⟩), .pointer (some ⟨go, 0, none⟩)] w (wordsP go (inoW k l z m r p t) w) := by
  obtain ⟨hl, ⟨rfl, rfl, rfl, hm, rfl, rfl, rfl⟩ | ⟨rfl, rfl, rfl, rfl, hf⟩ | ⟨rfl, rfl, hm, rfl, h1⟩ | ⟨rfl, rfl, hm, rfl, rfl, h1⟩⟩ := h
  · exact words1_0 x n c m go gn v0 w hS hv hlen hm hn ho hne
  · obtain ⟨l, rfl⟩ : ∃ y : Nat, l = (y : Int) := ⟨l.toNat, by omega⟩
    have hz := hf.1
    obtain ⟨z, rfl⟩ : ∃ y : Nat, z = (y : Int) := ⟨z.toNat, by omega⟩
    exact words1_1 l z x n c m go gn v0 w hS hv hlen (by omega) hf hn ho hne
  · obtain ⟨l, rfl⟩ : ∃ y : Nat, l = (y : Int) := ⟨l.toNat, by omega⟩
    obtain ⟨r, rfl⟩ : ∃ y : Nat, r = (y : Int) := ⟨r.toNat, by omega⟩
    obtain ⟨p, rfl⟩ : ∃ y : Nat, p = (y : Int) := ⟨p.toNat, by omega⟩
    exact words1_2 l r p x n c m go gn v0 w hS hv hlen hm (by omega) (by omega) hn ho hne
  · obtain ⟨l, rfl⟩ : ∃ y : Nat, l = (y : Int) := ⟨l.toNat, by omega⟩
    exact words1_3 l t x n c m go gn v0 w hS hv hlen hm (by omega) h1 hn ho hne
section
variable (k l z : Int) (x : Option Addr) (n c : Nat) (m : List Ex) (r p : Int) (t : Bs)
theorem words1_bad (go gn gk : Nat) (w : World) (hv : ReadsT eE 3 w (.slice x n c) m) (hlen : m.length ≤ 1048576) (htl : t.length ≤ 1048576) (h : ¬okI k l z m r p t) (hn : RowL w gn 25 (inL k l z (.slice x n c) r p t)) : Calls Tryd.prog 28 #[.pointer (some ⟨gn, 0, none⟩), .pointer (some ⟨go, 0, none⟩)] w fun e w' => e = .panicked (chain1 refV) ∧ Kept (KW w gk) w w' := by
  have hkk := Kept.refl (KW w gk) w
  have q := Below.refl w.heap.size w
  refine X.fnP Tryd.func28 rfl (n := 25) rfl rfl ?_
  refine Zr ?_; refine Zv hn ?_
  (refine LL.callP (R.call rfl rfl rfl) rfl rfl (check_F' k l z x n c m r p t _ (hv.up q) hlen htl h) ?_; rintro e @W ⟨rfl, b9⟩; refine ⟨_, rfl, ?_⟩; replace hkk := hkk.trans (bkept b9 (fun j hj => hj.1)))
  refine EE.thenP ?_; refine EE.panM ?_
  exact ⟨rfl, hkk⟩
end
end Go.Proofs.YtnoefalgmekjbaaDoor

/- inode: Words; Check refused. -/
namespace Go.Proofs.YtnoefalgmekjbaaDoor
set_option linter.unusedVariables false
set_option linter.unusedSimpArgs false
open Go.RowKit Go.Shelf
set_option maxRecDepth 100000
set_option maxHeartbeats 8000000
section
variable (k l z : Int) (x : Option Addr) (n c : Nat) (m : List Ex) (r p : Int) (t : Bs)
/-- What Words hands back. -/
def wsP (ws : List Nat) (w0 : World) (e : Ending) (w : World) : Prop := ∃ g, e = .returned (.tuple #[.slice (some ⟨g, 0, none⟩) 16 16, .int .i64 0]) ∧ RowL w g 41 (ints .u64 ws) ∧ w0.heap.size ≤ g ∧ Below w0.heap.size w0 w
theorem words_ok (w : World) (hS : Start w) (hv : ReadsT eE 3 w (.slice x n c) m) (hlen : m.length ≤ 1048576) (h : okI k l z m r p t) : Calls Tryd.prog 11 #[inV k l z (.slice x n c) r p t] w (wsP (inoW k l z m r p t) w) := by
  unfold wsP
  have q := Below.refl w.heap.size w
  have hS0 := hS.pos
  have hvF : ∀ X, Below w.heap.size w X → ReadsT eE 3 X (.slice x n c) m := fun X b => hv.up b
  have hSF : ∀ X, Below w.heap.size w X → Start X := fun X b => hS.up b
  clear hv hS
  refine X.fn Tryd.func11 rfl (n := 10) rfl rfl ?_
  refine Zr ?_
  refine LL.box [Value.int IntKind.i64 k, Value.int IntKind.i64 l, Value.int IntKind.i64 z, Value.slice x n c, Value.int IntKind.i64 r, Value.int IntKind.i64 p, strV t] rfl rfl rfl rfl rfl ?_
  intro W2 g3 eg3 r4 z5 b1
  replace q := Zu q b1; refine Za ?_; refine Za ?_; refine Zq ?_; refine Zr ?_; have l6 := r4.lt
  refine LL.alloc ([Value.slice none 0 0]) rfl rfl rfl rfl rfl ?_
  intro W8 g9 eg9 r10 z11 b7
  replace r4 := r4.up b7; replace b1 := Zu b1 b7; replace q := Zu q b7; refine Zq ?_; refine Zr ?_
  refine LL.val (R.func rfl rfl rfl) rfl rfl rfl ?_
  (have lg4 := r4.lt; have lg10 := r10.lt; refine LL.call (R.call rfl rfl rfl) rfl rfl rfl (guarded_R _ [Value.pointer (some ⟨g3, 0, none⟩), .pointer (some ⟨g9, 0, none⟩)] (by kernel_rfl) g9 (fun n X => ∃ gw, RowL X g9 28 [.slice (some ⟨gw, 0, none⟩) 16 16] ∧ RowL X gw 41 (ints .u64 (inoW k l z m r p t)) ∧ n ≤ gw) _ (by omega) (fun n X Y b ⟨gw, h1, h2, h3⟩ hb1 hb2 hg => ⟨gw, h1.gr hg (by omega), h2.gr hg (by omega), h3⟩) (fun W' b' => words1_any k l z x n c m r p t g9 g3 _ W' (hSF _ (q.trans (b'.mono q.size))) (hvF _ (q.trans (b'.mono q.size))) hlen h (r4.up b') (r10.up b') ⟨by omega, by omega⟩)) ?_; rintro e @W ⟨rfl, ⟨n9, hn9, gw, r91, r92, h93⟩, t9⟩; refine ⟨_, rfl, ?_⟩; replace q := t9.onB q (fun j hj => ⟨by omega, by omega⟩); clear r4 b1 b7 r10)
  refine Za ?_; refine Zq ?_; refine Zr ?_; refine Zl r91 ?_; refine Zm ?_; refine Za ?_; refine Za ?_; refine Zq ?_; refine CC.ret ?_; refine EE.ret _ rfl rfl ?_
  exact ⟨gw, rfl, r92, by omega, q⟩
theorem words_no (w : World) (hv : ReadsT eE 3 w (.slice x n c) m) (hlen : m.length ≤ 1048576) (htl : t.length ≤ 1048576) (h : ¬okI k l z m r p t) : Calls Tryd.prog 11 #[inV k l z (.slice x n c) r p t] w fun e w' => e = .returned (.tuple #[.slice none 0 0, .int .i64 240]) ∧ Below w.heap.size w w' := by
  have q := Below.refl w.heap.size w
  have hvF : ∀ X, Below w.heap.size w X → ReadsT eE 3 X (.slice x n c) m := fun X b => hv.up b
  clear hv
  refine X.fn Tryd.func11 rfl (n := 10) rfl rfl ?_
  refine Zr ?_
  refine LL.box [Value.int IntKind.i64 k, Value.int IntKind.i64 l, Value.int IntKind.i64 z, Value.slice x n c, Value.int IntKind.i64 r, Value.int IntKind.i64 p, strV t] rfl rfl rfl rfl rfl ?_
  intro W2 g3 eg3 r4 z5 b1
  replace q := Zu q b1; refine Za ?_; refine Za ?_; refine Zq ?_; refine Zr ?_; have l6 := r4.lt
  refine LL.alloc ([Value.slice none 0 0]) rfl rfl rfl rfl rfl ?_
  intro W8 g9 eg9 r10 z11 b7
  replace r4 := r4.up b7; replace b1 := Zu b1 b7; replace q := Zu q b7; refine Zq ?_; refine Zr ?_
  refine LL.val (R.func rfl rfl rfl) rfl rfl rfl ?_
  (have lg4 := r4.lt; have lg10 := r10.lt; refine LL.call (R.call rfl rfl rfl) rfl rfl rfl (guarded_P _ [Value.pointer (some ⟨g3, 0, none⟩), .pointer (some ⟨g9, 0, none⟩)] (by kernel_rfl) g3 _ (by omega) (fun W' b' => words1_bad k l z x n c m r p t g9 g3 g3 W' (hvF _ (q.trans (b'.mono q.size))) hlen htl h (r4.up b'))) ?_; rintro e @W ⟨rfl, t9⟩; refine ⟨_, rfl, ?_⟩; replace q := t9.onB q (fun j hj => ⟨by omega, by omega⟩); replace r10 := r10.kept t9 ⟨by omega, by omega⟩; clear r4 b1 b7)
  refine Za ?_; refine Zq ?_; refine Zr ?_; refine Zl r10 ?_; refine Zm ?_; refine Za ?_; refine Za ?_; refine Zq ?_; refine CC.ret ?_; refine EE.ret _ rfl rfl ?_
  exact ⟨rfl, q⟩
end
theorem fld_k (x : Nat) (hx : x < 18446744073709551616) (w : World) : Calls Tryd.prog 39 #[.int .u64 (x : Int), .int .i64 0, .int .i64 8] w fun e w' => e = .returned (.tuple #[.int .u64 ((x % 256 : Nat) : Int), .int .i64 0]) ∧ w = w' := by
  have h := field_ok x 0 8 hx (by omega) (by omega) w
  rw [show x / 2 ^ 0 % 2 ^ 8 = x % 256 by simp] at h
  exact h
end Go.Proofs.YtnoefalgmekjbaaDoor

/- slices.Equal of words. -/
namespace Go.Proofs.YtnoefalgmekjbaaDoor
set_option linter.unusedVariables false
set_option linter.unusedSimpArgs false
open Go.RowKit Go.Shelf
end Go.Proofs.YtnoefalgmekjbaaDoor


/- inode: Of's work (written by gen15.py). -/
namespace Go.Proofs.YtnoefalgmekjbaaDoor
set_option linter.unusedVariables false
set_option linter.unusedSimpArgs false
open Go.RowKit Go.Shelf
set_option maxRecDepth 100000
set_option maxHeartbeats 8000000
theorem WdsAt.kept {W X : World} {bk off gu : Nat} {ws : List Nat} (h : WdsAt W bk off ws) (k : Kept (KU W gu) W X) (hne : bk ≠ gu) : WdsAt X bk off ws :=
  ⟨fun j x hj => (World.cell?_of_block (k.block bk ⟨h.lt, hne⟩)).trans (h.cells j x hj), Nat.lt_of_lt_of_le h.lt k.size⟩
theorem WdsAt.up {W X : World} {bk off : Nat} {ws : List Nat} (h : WdsAt W bk off ws) (b : Below W.heap.size W X) : WdsAt X bk off ws :=
  ⟨fun j x hj => cell_up (h.cells j x hj) b, Nat.lt_of_lt_of_le h.lt b.size⟩
theorem inoW_len {k l z : Int} {m : List Ex} {r p : Int} {t : Bs} (h : okI k l z m r p t) : (inoW k l z m r p t).length = 16 := by
  have hd : ∀ k l, (hdN k l).length = 16 := fun k l => by simp [hdN]
  obtain ⟨hl, ⟨rfl, rfl, rfl, hm, rfl, rfl, rfl⟩ | ⟨rfl, rfl, rfl, rfl, hf⟩ | ⟨rfl, rfl, hm, rfl, h1⟩ | ⟨rfl, rfl, hm, rfl, rfl, h1⟩⟩ := h
  · exact hd 0 0
  · show (layF _ _ _).length = 16
    have := wrdN_len hf.2.1
    exact putL_len (putL_len (hd 1 _) (by simp)) (by omega)
  · show (layD _ _ _).length = 16
    exact putL_len (hd 2 _) (by simp)
  · show (layK _ _).length = 16
    have := layL_len t
    exact putL_len (putL_len (hd 3 _) (by simp)) (by omega)
theorem WdsAt.all {X : World} {bk off cap : Nat} {ws : List Nat} (h : WdsAt X bk off ws) (hl : ws.length = 16) (hc : 16 ≤ cap) : Reads X (.slice (some ⟨bk, off, none⟩) 16 cap) (ints .u64 ws) := by
  have h2 := h.reads 0 16 cap (by omega) hc
  rw [show (ws.drop 0).take 16 = ws by rw [List.drop_zero, List.take_of_length_le (by omega)]] at h2
  exact h2
/-- What Of's work leaves. -/
def ofP (go : Nat) (k l z : Int) (m : List Ex) (r p : Int) (t : Bs) (w0 : World) (e : Ending) (w : World) : Prop := e = .returned (.tuple #[]) ∧ (∃ v, RowL w go 25 (inL k l z v r p t) ∧ ReadsT eE 3 w v m ∧ ∀ b off n c, v = .slice (some ⟨b, off, none⟩) n c → w0.heap.size ≤ b) ∧ Kept (KW w0 go) w0 w
theorem of1_Z (gs go bk off cap : Nat) (ws : List Nat) (w : World) (hS : Start w) (hws : ws.length = 16) (hwb : ∀ x ∈ ws, x < 18446744073709551616) (hcap : 16 ≤ cap) (hs : RowL w gs 28 [.slice (some ⟨bk, off, none⟩) 16 cap]) (hW : WdsAt w bk off ws) (ho : RowL w go 25 (inL 0 0 0 (.slice none 0 0) 0 0 [])) (hne : go ≠ gs ∧ 0 < go ∧ bk ≠ go) (x0 : Nat) (h0 : ws[0]? = some x0) (hx0 : x0 = 0) : Calls Tryd.prog 37 #[.pointer (some ⟨gs, 0, none⟩), .pointer (some ⟨go, 0, none⟩)] w (ofP go 0 0 0 [] 0 0 [] w) := by
  unfold ofP
  have hkk := Kept.refl (KW w go) w
  have lgs := hs.lt; have lgo := ho.lt; have lbk := hW.lt
  have hS0 := hS.pos
  have hWF : ∀ X, Below w.heap.size w X → WdsAt X bk off ws := fun X b => hW.up b
  have hSF : ∀ X, Below w.heap.size w X → Start X := fun X b => hS.up b
  have hx64 := hwb x0 (List.mem_of_getElem? h0)
  have c0 : w.cell? ⟨bk, off + 0, none⟩ = some (.int .u64 (x0 : Int)) := hW.cells 0 x0 h0
  have q := Below.refl w.heap.size w
  clear hW hS
  refine X.fn Tryd.func37 rfl (n := 70) rfl rfl ?_
  refine Zr ?_; refine Zl hs ?_; refine Zn ?_; refine ZneF ?_
  refine LL.call (R.call rfl rfl rfl) rfl rfl rfl (refuse_F _) ?_
  rintro e W' ⟨rfl, rfl⟩
  refine ⟨_, rfl, ?_⟩; refine Zq ?_; refine Zc ?_; refine Zr ?_; refine Zl hs ?_; refine Zi ?_; refine Zk ?_; refine ZeqT ?_; refine Zq ?_; refine CC.yes rfl ?_; refine CC.ret ?_; refine EE.thenR ?_; refine EE.ret _ rfl rfl ?_
  exact ⟨rfl, ⟨_, ho, ReadsT.nil _, fun b off n c e => by cases e⟩, hkk⟩
theorem of1_L (gk gs go : Nat) (a : Option Addr) (n c : Nat) (w : World) (hs : RowL w gs 28 [.slice a n c]) (hn : n ≠ 16) : Calls Tryd.prog 37 #[.pointer (some ⟨gs, 0, none⟩), .pointer (some ⟨go, 0, none⟩)] w fun e w' => e = .panicked (chain1 refV) ∧ Kept (KW w gk) w w' := by
  have hkk := Kept.refl (KW w gk) w
  refine X.fnP Tryd.func37 rfl (n := 70) rfl rfl ?_
  refine Zr ?_; refine Zl hs ?_; refine Zn ?_; refine ZneT ?_
  refine LL.callP (R.call rfl rfl rfl) rfl rfl (refuse_T _) ?_
  rintro e W2 ⟨rfl, rfl⟩
  refine ⟨_, rfl, ?_⟩; refine EE.thenP ?_; refine EE.panM ?_
  exact ⟨rfl, hkk⟩
end Go.Proofs.YtnoefalgmekjbaaDoor

/- inode: Of; Linked. -/
namespace Go.Proofs.YtnoefalgmekjbaaDoor
set_option linter.unusedVariables false
set_option linter.unusedSimpArgs false
open Go.RowKit Go.Shelf
set_option maxRecDepth 100000
set_option maxHeartbeats 8000000
section
variable {P : Program} {w : World} {t u T : TypeId} {o : Oper} {x y : Operand} {n e k : Nat} {D : List Deferred} {M : Slots}
end
def ofR (k l z : Int) (m : List Ex) (r p : Int) (t : Bs) (w0 : World) (e : Ending) (w : World) : Prop := ∃ v, e = .returned (.tuple #[inV k l z v r p t, .int .i64 0]) ∧ ReadsT eE 3 w v m ∧ Below w0.heap.size w0 w
theorem of_run (a : Option Addr) (n c : Nat) (k l z : Int) (m : List Ex) (r p : Int) (t : Bs) (w : World) (hS0 : 0 < w.heap.size)
    (hwork : ∀ W gs go, Below w.heap.size w W → w.heap.size ≤ gs → w.heap.size ≤ go → go ≠ gs → RowL W gs 28 [.slice a n c] → RowL W go 25 (inL 0 0 0 (.slice none 0 0) 0 0 []) → Calls Tryd.prog 37 #[.pointer (some ⟨gs, 0, none⟩), .pointer (some ⟨go, 0, none⟩)] W (ofP go k l z m r p t W)) :
    Calls Tryd.prog 17 #[.slice a n c] w (ofR k l z m r p t w) := by
  unfold ofR
  have q := Below.refl w.heap.size w
  refine X.fn Tryd.func17 rfl (n := 10) rfl rfl ?_
  refine Zr ?_
  refine LL.box [Value.slice a n c] rfl rfl rfl rfl rfl ?_
  intro W2 g3 eg3 r4 z5 b1
  replace q := Zu q b1; have l6 := r4.lt
  refine LL.alloc ([Value.int IntKind.i64 0, Value.int IntKind.i64 0, Value.int IntKind.i64 0, Value.slice none 0 0, Value.int IntKind.i64 0, Value.int IntKind.i64 0, Value.string { data := { toList := [] } }]) rfl rfl rfl rfl rfl ?_
  intro W8 g9 eg9 r10 z11 b7
  replace r4 := r4.up b7; replace b1 := Zu b1 b7; replace q := Zu q b7; refine Za ?_; refine Zq ?_; refine Zr ?_; have l12 := r10.lt; have l13 := r4.lt
  refine LL.alloc ([Value.int IntKind.i64 0, Value.int IntKind.i64 0, Value.int IntKind.i64 0, Value.slice none 0 0, Value.int IntKind.i64 0, Value.int IntKind.i64 0, Value.string { data := { toList := [] } }]) rfl rfl rfl rfl rfl ?_
  intro W15 g16 eg16 r17 z18 b14
  replace r10 := r10.up b14; replace b7 := Zu b7 b14; replace r4 := r4.up b14; replace b1 := Zu b1 b14; replace q := Zu q b14; refine Zq ?_; refine Zr ?_
  refine LL.val (R.func rfl rfl rfl) rfl rfl rfl ?_
  have lg4 := r4.lt; have lg17 := r17.lt
  refine LL.call (R.call rfl rfl rfl) rfl rfl rfl (guarded_R _ [Value.pointer (some ⟨g3, 0, none⟩), .pointer (some ⟨g16, 0, none⟩)] (by kernel_rfl) g16 (fun n X => ∃ v, RowL X g16 25 (inL k l z v r p t) ∧ ReadsT eE 3 X v m ∧ ∀ b off n' c', v = .slice (some ⟨b, off, none⟩) n' c' → n ≤ b) _ (by omega) (fun n X Y b ⟨v, h1, h2, h3⟩ hb1 hb2 hg => ⟨v, h1.gr hg (by omega), readsT_far h2 (grown_kept (K := fun i => i < X.heap.size ∧ i ≠ b) hg (fun k hk => hk.1) (fun k hk e => by cases e; exact hk.2 rfl)) (fun b2 off n2 c2 e hlt => ⟨hlt, by have := h3 b2 off n2 c2 e; omega⟩), h3⟩) (fun W' b' => hwork W' g3 g16 (q.trans (b'.mono q.size)) (by omega) (by omega) (by omega) (r4.up b') (r17.up b'))) ?_
  rintro e W9 ⟨rfl, ⟨n9, hn9, v9, r91, rd9, hge9⟩, t9⟩
  refine ⟨_, rfl, ?_⟩
  replace q := t9.onB q (fun j hj => ⟨by omega, by omega⟩)
  replace r10 := r10.kept t9 ⟨by omega, by omega⟩
  clear r4 r17 b1 b7 b14
  obtain ⟨x9, c9, rfl, _⟩ := rd9.form rfl
  have hk9 := Kept.refl (fun i => i < W9.heap.size ∧ i ≠ g9) W9
  have rd9F := fun X (b : Below W9.heap.size W9 X) => rd9.up b
  clear rd9
  have zt9 := t9.size; refine Za ?_; refine Zq ?_; refine Zr ?_; refine Zv r91 ?_; refine Zm ?_
  refine LL.storeN (vs := [Value.int IntKind.i64 k, Value.int IntKind.i64 l, Value.int IntKind.i64 z, Value.slice x9 m.length c9, Value.int IntKind.i64 r, Value.int IntKind.i64 p, strV t]) rfl rfl rfl rfl r10 (by exact Nat.le_of_ble_eq_true rfl) (ones_of rfl) rfl rfl ?_
  intro Wa2 ra3 ba1 za4
  have hlba1 := r10.lt
  replace ra3 : RowL Wa2 _ 25 [Value.int IntKind.i64 k, Value.int IntKind.i64 l, Value.int IntKind.i64 z, Value.slice x9 m.length c9, Value.int IntKind.i64 r, Value.int IntKind.i64 p, strV t] := ra3
  clear r10
  replace q := Zg q ba1; replace r91 := Zd r91 ba1; replace hk9 := Zo hk9 ba1
  have r10 := ra3
  clear ra3
  refine Za ?_; refine Zq ?_; refine CC.ret ?_
  refine EE.ret2 rfl ⟨_, rfl, lvNc (RowL.cells0 (by assumption)) (by rfl) (by rfl)⟩ rfl ?_
  exact ⟨_, rfl, readsT_far (rd9F _ (Below.refl _ _)) hk9 (fun b off n c e hlt => ⟨hlt, by have := hge9 b off n c e; omega⟩), q⟩
theorem of_pan (a : Option Addr) (n c : Nat) (w : World)
    (hwork : ∀ W gs go gk, Below w.heap.size w W → w.heap.size ≤ gs → w.heap.size ≤ go → go ≠ gs → RowL W gs 28 [.slice a n c] → RowL W go 25 (inL 0 0 0 (.slice none 0 0) 0 0 []) → Calls Tryd.prog 37 #[.pointer (some ⟨gs, 0, none⟩), .pointer (some ⟨go, 0, none⟩)] W fun e W' => e = .panicked (chain1 refV) ∧ Kept (KW W gk) W W') :
    Calls Tryd.prog 17 #[.slice a n c] w fun e w' => e = .returned (.tuple #[inV 0 0 0 (.slice none 0 0) 0 0 [], .int .i64 240]) ∧ Below w.heap.size w w' := by
  have q := Below.refl w.heap.size w
  refine X.fn Tryd.func17 rfl (n := 10) rfl rfl ?_
  refine Zr ?_
  refine LL.box [Value.slice a n c] rfl rfl rfl rfl rfl ?_
  intro W2 g3 eg3 r4 z5 b1
  replace q := Zu q b1; have l6 := r4.lt
  refine LL.alloc ([Value.int IntKind.i64 0, Value.int IntKind.i64 0, Value.int IntKind.i64 0, Value.slice none 0 0, Value.int IntKind.i64 0, Value.int IntKind.i64 0, Value.string { data := { toList := [] } }]) rfl rfl rfl rfl rfl ?_
  intro W8 g9 eg9 r10 z11 b7
  replace r4 := r4.up b7; replace b1 := Zu b1 b7; replace q := Zu q b7; refine Za ?_; refine Zq ?_; refine Zr ?_; have l12 := r10.lt; have l13 := r4.lt
  refine LL.alloc ([Value.int IntKind.i64 0, Value.int IntKind.i64 0, Value.int IntKind.i64 0, Value.slice none 0 0, Value.int IntKind.i64 0, Value.int IntKind.i64 0, Value.string { data := { toList := [] } }]) rfl rfl rfl rfl rfl ?_
  intro W15 g16 eg16 r17 z18 b14
  replace r10 := r10.up b14; replace b7 := Zu b7 b14; replace r4 := r4.up b14; replace b1 := Zu b1 b14; replace q := Zu q b14; refine Zq ?_; refine Zr ?_
  refine LL.val (R.func rfl rfl rfl) rfl rfl rfl ?_
  have lg4 := r4.lt; have lg17 := r17.lt
  refine LL.call (R.call rfl rfl rfl) rfl rfl rfl (guarded_P _ [Value.pointer (some ⟨g3, 0, none⟩), .pointer (some ⟨g16, 0, none⟩)] (by kernel_rfl) g3 _ (by omega) (fun W' b' => hwork W' g3 g16 g3 (q.trans (b'.mono q.size)) (by omega) (by omega) (by omega) (r4.up b') (r17.up b'))) ?_
  rintro e W9 ⟨rfl, t9⟩
  refine ⟨_, rfl, ?_⟩
  replace q := t9.onB q (fun j hj => ⟨by omega, by omega⟩)
  replace r10 := r10.kept t9 ⟨by omega, by omega⟩
  replace r17 := r17.kept t9 ⟨by omega, by omega⟩
  clear r4 b1 b7 b14
  refine Za ?_; refine Zq ?_; refine Zr ?_; refine Zv r17 ?_; refine Zm ?_
  refine LL.storeN (vs := [Value.int IntKind.i64 0, Value.int IntKind.i64 0, Value.int IntKind.i64 0, Value.slice none 0 0, Value.int IntKind.i64 0, Value.int IntKind.i64 0, Value.string { data := { toList := [] } }]) rfl rfl rfl rfl r10 (by exact Nat.le_of_ble_eq_true rfl) (ones_of rfl) rfl rfl ?_
  intro Wa2 ra3 ba1 za4
  have hlba1 := r10.lt
  replace ra3 : RowL Wa2 _ 25 [Value.int IntKind.i64 0, Value.int IntKind.i64 0, Value.int IntKind.i64 0, Value.slice none 0 0, Value.int IntKind.i64 0, Value.int IntKind.i64 0, Value.string { data := { toList := [] } }] := ra3
  clear r10
  replace q := Zg q ba1; replace r17 := Zd r17 ba1
  have r10 := ra3
  clear ra3
  refine Za ?_; refine Zq ?_; refine CC.ret ?_
  refine EE.ret2 rfl ⟨_, rfl, lvNc (RowL.cells0 (by assumption)) (by rfl) (by rfl)⟩ rfl ?_
  exact ⟨rfl, q⟩
theorem fld_h (x : Nat) (hx : x < 18446744073709551616) (w : World) : Calls Tryd.prog 39 #[.int .u64 (x : Int), .int .i64 32, .int .i64 32] w fun e w' => e = .returned (.tuple #[.int .u64 ((x / 4294967296 : Nat) : Int), .int .i64 0]) ∧ w = w' := by
  have h := field_ok x 32 32 hx (by omega) (by omega) w
  rw [show x / 2 ^ 32 % 2 ^ 32 = x / 4294967296 by simp; omega] at h
  exact h
theorem with_l (x v : Nat) (w : World) (hx : x < 4294967296) (hv : v < 16777216) : Calls Tryd.prog 47 #[.int .u64 (x : Int), .int .i64 8, .int .i64 24, .int .u64 (v : Int)] w fun e w' => e = .returned (.tuple #[.int .u64 ((x % 256 + 256 * v : Nat) : Int), .int .i64 0]) ∧ Below w.heap.size w w' :=
  (with_ok x 8 24 v (by omega) (by omega) (by omega) (by omega) w).mono fun e w' ⟨he, n, hn⟩ => by
    rw [show x - x / 2 ^ 8 % 2 ^ 24 * 2 ^ 8 + v * 2 ^ 8 = x % 256 + 256 * v by simp; omega] at he
    exact ⟨he, by rw [hn]; exact Below.drewN (Below.refl _ _) n⟩
theorem linked_T (x l : Nat) (w : World) (hx : x < 4294967296) (hk : 1 ≤ x % 256 ∧ x % 256 ≤ 3) (hl : l ≤ 65535) : Calls Tryd.prog 23 #[.int .u64 (x : Int), .int .i64 (l : Int)] w fun e w' => e = .returned (.tuple #[.int .u64 ((x % 256 + 256 * l : Nat) : Int), .int .i64 0]) ∧ Below w.heap.size w w' := by
  have q := Below.refl w.heap.size w
  refine X.fn Tryd.func23 rfl (n := 43) rfl rfl ?_
  refine Zr ?_; refine Za ?_; refine Za ?_; refine Zq ?_; refine Zr ?_; refine Zm ?_
  refine LL.call (R.call rfl rfl rfl) rfl rfl rfl (fld_k _ (by first | assumption | omega) _) ?_
  rintro e W' ⟨rfl, rfl⟩
  refine ⟨_, rfl, ?_⟩; refine Zm ?_; refine Zx ?_; refine Zx ?_; refine Za ?_; refine Za ?_; refine Zq ?_; refine Zr ?_; refine Zm ?_
  refine LL.call (R.call rfl rfl rfl) rfl rfl rfl (fld_h _ (by first | assumption | omega) _) ?_
  rintro e W' ⟨rfl, rfl⟩
  refine ⟨_, rfl, ?_⟩; refine Zm ?_; refine Zx ?_; refine Zx ?_; refine Za ?_; refine Za ?_; refine Zq ?_; refine Zc ?_; refine Zr ?_; refine Zm ?_; refine ZneF ?_; refine Zm ?_; refine Zm ?_
  refine LL.val (R.convI rfl rfl rfl rfl (wrapI (by omega) (by omega))) rfl rfl rfl ?_
  refine LL.call (R.call rfl rfl rfl) rfl rfl rfl (kwithin_T _ _ _ _ (by first | assumption | omega)) ?_
  rintro e W' ⟨rfl, rfl⟩
  refine ⟨_, rfl, ?_⟩; refine Zt ?_; refine Zp ?_; refine Zm ?_; refine Zm ?_
  refine LL.call (R.call rfl rfl rfl) rfl rfl rfl (within_T _ _ _ _ (by first | assumption | omega)) ?_
  rintro e W' ⟨rfl, rfl⟩
  refine ⟨_, rfl, ?_⟩; refine Zt ?_; refine Zp ?_; refine Zq ?_; refine CC.no rfl ?_; refine CC.skip ?_; refine EE.thenN ?_; refine Zr ?_; refine Zm ?_; refine Zm ?_
  refine LL.val (R.convI rfl rfl rfl rfl (wrapU (by omega) (by omega))) rfl rfl rfl ?_
  (refine LL.call (R.call rfl rfl rfl) rfl rfl rfl (with_l x l _ hx (by omega)) ?_; rintro e W228 ⟨rfl, b225⟩; refine ⟨_, rfl, ?_⟩)
  have zb225 := b225.size; replace q := Zu q b225; refine Zm ?_; refine Zx ?_; refine Zx ?_; refine Za ?_; refine Za ?_; refine Zq ?_; refine Zr ?_; refine Zm ?_; refine Za ?_; refine Za ?_; refine Zq ?_; refine CC.ret ?_; refine EE.ret _ rfl rfl ?_
  exact ⟨rfl, q⟩
end Go.Proofs.YtnoefalgmekjbaaDoor

/- inode: begins; the chapter's rows. -/
namespace Go.Proofs.YtnoefalgmekjbaaDoor
set_option linter.unusedVariables false
set_option linter.unusedSimpArgs false
open Go.RowKit Go.Shelf
set_option maxRecDepth 100000
set_option maxHeartbeats 8000000
theorem wsame_any (v1 v2 : Value) (xs ys : List Nat) (w : World) (h1 : Reads w v1 (ints .u64 xs)) (h2 : Reads w v2 (ints .u64 ys)) (hx : xs.length ≤ 1048576) (hy : ys.length ≤ 1048576) :
    Calls Tryd.prog 16 #[v1, v2] w fun e w' => e = .returned (.bool (decide (xs = ys))) ∧ Below w.heap.size w w' := by
  refine (same_any v1 v2 xs ys w h1 h2 hx hy).mono ?_
  rintro e w' ⟨rfl, n, rfl⟩
  exact ⟨rfl, Below.drewN (Below.refl _ _) n⟩
theorem num_any (a : Int) (w : World) : Calls Tryd.prog 13 #[.int .i64 a] w fun e w' => e = .returned (.int .i64 a) ∧ w = w' := by
  refine X.fn Tryd.func13 rfl (n := 4) rfl rfl ?_
  refine Zr ?_; refine Za ?_; refine Zq ?_; refine Zr ?_; refine Zm ?_; refine Za ?_; refine Zq ?_; refine CC.ret ?_; refine EE.ret _ rfl rfl ?_
  exact ⟨rfl, rfl⟩
theorem wsame_T (v1 v2 : Value) (xs ys : List Nat) (w : World) (h1 : Reads w v1 (ints .u64 xs)) (h2 : Reads w v2 (ints .u64 ys)) (hx : xs.length ≤ 1048576) (e : ys = xs) :
    Calls Tryd.prog 16 #[v1, v2] w fun e w' => e = .returned (.bool true) ∧ Below w.heap.size w w' := by
  subst e
  have := wsame_any v1 v2 ys ys w h1 h2 hx hx
  simpa using this
theorem beg_T (g : Nat) (a2 : Option Addr) (n2 c2 : Nat) (ws l : List Nat) (w : World) (h1 : Reads w (.slice (some ⟨g, 0, none⟩) 16 16) (ints .u64 ws)) (h2 : Reads w (.slice a2 n2 c2) (ints .u64 l)) (hn : ws.length = 16) (hle : n2 ≤ 16) (ht : l = ws.take n2) : Calls Tryd.prog 26 #[.slice (some ⟨g, 0, none⟩) 16 16, .slice a2 n2 c2] w fun e w' => e = .returned (.bool true) ∧ Below w.heap.size w w' := by
  have q := Below.refl w.heap.size w
  have h3 : Reads w (.slice (some ⟨g, 0, none⟩) n2 16) (ints .u64 (ws.take n2)) := by
    have := h1.take n2 (by omega) 16 (by omega)
    rwa [show (ints .u64 ws).take n2 = ints .u64 (ws.take n2) by simp [ints]] at this
  have h3F := fun X (b : Below w.heap.size w X) => h3.up b
  have h2F := fun X (b : Below w.heap.size w X) => h2.up b
  clear h1 h2 h3
  have hl : (ws.take n2).length ≤ 1048576 := by simp; omega
  refine X.fn Tryd.func26 rfl (n := 18) rfl rfl ?_
  refine Zr ?_; refine Za ?_; refine Zq ?_; refine Zr ?_; refine Zm ?_; refine Zn ?_; refine Zm ?_; refine Zn ?_; refine ZgeT ?_; refine Zm ?_; refine Zm ?_; refine Zm ?_; refine Zn ?_
  refine LL.val (R.slice rfl rfl rfl rfl rfl (I.slTo rfl (by omega))) rfl rfl rfl ?_
  refine Zm ?_
  refine LL.call (R.call rfl rfl rfl) rfl rfl rfl (wsame_T _ _ _ _ _ (h3F _ q) (h2F _ q) hl ht) ?_
  rintro e W2 ⟨rfl, b1⟩
  refine ⟨_, rfl, ?_⟩; have zb1 := b1.size; replace q := Zu q b1; refine Zp ?_; refine Za ?_; refine Zq ?_; refine CC.ret ?_; refine EE.ret _ rfl rfl ?_
  exact ⟨rfl, q⟩
theorem of_Z (bk off cap : Nat) (ws : List Nat) (w : World) (hS : Start w) (hws : ws.length = 16) (hwb : ∀ x ∈ ws, x < 18446744073709551616) (hcap : 16 ≤ cap) (hW : WdsAt w bk off ws) (h0 : ws[0]? = some 0) : Calls Tryd.prog 17 #[.slice (some ⟨bk, off, none⟩) 16 cap] w (ofR 0 0 0 [] 0 0 [] w) :=
  of_run _ 16 cap 0 0 0 [] 0 0 [] w hS.pos (fun W gs go b hgs hgo hne hs ho => of1_Z gs go bk off cap ws W (hS.up b) hws hwb hcap hs (hW.up b) ho ⟨hne, by have := hS.pos; omega, by have := hW.lt; omega⟩ 0 h0 rfl)
theorem of_L (a : Option Addr) (n c : Nat) (w : World) (hn : n ≠ 16) : Calls Tryd.prog 17 #[.slice a n c] w fun e w' => e = .returned (.tuple #[inV 0 0 0 (.slice none 0 0) 0 0 [], .int .i64 240]) ∧ Below w.heap.size w w' :=
  of_pan a n c w (fun W gs go gk b hgs hgo hne hs ho => of1_L gk gs go a n c W hs hn)
theorem okD : okI 2 1 0 [] 20 1 [] := by unfold okI; simp
theorem okK : okI 3 2 0 [] 0 0 [97] := by unfold okI; simp
theorem begD : [258, 0, 20, 1] = (inoW 2 1 0 [] 20 1 []).take 4 := by decide +kernel
theorem begK : [515, 1, 97] = (inoW 3 2 0 [] 0 0 [97]).take 3 := by decide +kernel
theorem beg_R (g g2 n2 : Nat) (ws l : List Nat) (L : List Value) (w : World) (h1 : RowL w g 41 (ints .u64 ws)) (h2 : RowL w g2 41 L) (eL : L = ints .u64 l) (hn : ws.length = 16) (hle : n2 ≤ 16) (hl : l.length = n2) (ht : l = ws.take n2) : Calls Tryd.prog 26 #[.slice (some ⟨g, 0, none⟩) 16 16, .slice (some ⟨g2, 0, none⟩) n2 n2] w fun e w' => e = .returned (.bool true) ∧ Below w.heap.size w w' := by
  subst eL
  exact beg_T g _ n2 n2 ws l w (RowL.asInts h1 .u64 _ rfl hn) (RowL.asInts h2 .u64 _ rfl hl) hn hle ht
theorem same0 : (true = true) ↔ sameI 0 0 0 [] 0 0 [] 0 0 0 [] 0 0 [] := by simp [sameI]
def oddL : List Nat := [0, 7, 0, 0, 0, 0, 0, 0, 0, 0, 0, 0, 0, 0, 0, 0]
theorem works_any (w : World) (hS : Start w) : Calls Tryd.prog 10 #[] w fun x w' => x = .returned (.bool true) ∧ Below w.heap.size w w' := by
  have q := Below.refl w.heap.size w
  have hSF : ∀ X, Below w.heap.size w X → Start X := fun X b => hS.up b
  refine X.fn Tryd.func10 rfl (n := 81) rfl rfl ?_
  refine Zr ?_; refine Za ?_; refine Zq ?_; refine Zr ?_
  refine LL.val (R.buildV rfl rfl (v := .agg #[Value.int IntKind.i64 2, Value.int IntKind.i64 1, Value.int IntKind.i64 0, Value.slice none 0 0, Value.int IntKind.i64 20, Value.int IntKind.i64 1, Value.string { data := #[] }]) (fun _ => by kernel_rfl)) rfl rfl rfl ?_
  (refine LL.call (R.call rfl rfl rfl) rfl rfl rfl (words_ok 2 1 0 none 0 0 [] 20 1 [] _ (hSF _ q) (ReadsT.nil _) (by decide) okD) ?_; rintro e W32 ⟨g8, rfl, r81, hg8, b29⟩; refine ⟨_, rfl, ?_⟩)
  have zb29 := b29.size; replace hS := hS.up b29; replace q := Zu q b29; refine Zm ?_; refine Zx ?_; refine Zx ?_; refine Za ?_; refine Za ?_; refine Zq ?_; refine Zr ?_
  refine LL.val (R.buildV rfl rfl (v := .agg #[Value.int IntKind.i64 3, Value.int IntKind.i64 2, Value.int IntKind.i64 0, Value.slice none 0 0, Value.int IntKind.i64 0, Value.int IntKind.i64 0, Value.string { data := #[97] }]) (fun _ => by kernel_rfl)) rfl rfl rfl ?_
  have l144 := r81.lt
  (refine LL.call (R.call rfl rfl rfl) rfl rfl rfl (words_ok 3 2 0 none 0 0 [] 0 0 [97] _ (hSF _ q) (ReadsT.nil _) (by decide) okK) ?_; rintro e W143 ⟨g9, rfl, r91, hg9, b140⟩; refine ⟨_, rfl, ?_⟩)
  have zb140 := b140.size; replace r81 := r81.up b140; replace b29 := Zu b29 b140; replace hS := hS.up b140; replace q := Zu q b140; refine Zm ?_; refine Zx ?_; refine Zx ?_; refine Za ?_; refine Za ?_; refine Zq ?_; refine Zr ?_; have l81 := r81.lt; have l91 := r91.lt
  refine LL.make (l := 16) (m := 16) El64 rfl rfl rfl (by omega) (by omega) (by omega) rfl rfl ?_
  intro Wm gm egm rm zm bm
  replace q := Zu q bm; replace r81 := r81.up bm; replace r91 := r91.up bm; have lgm := rm.lt
  clear b140 zb140 b29 bm hS
  refine Za ?_; refine Zq ?_; refine Zr ?_; refine Zm ?_; refine Zi ?_
  refine LL.store rfl rfl rfl rfl rm (by exact Nat.le_of_ble_eq_true rfl) rfl rfl rfl rfl ?_
  intro Wa2 ra3 ba1 za4
  have hlba1 := rm.lt
  replace ra3 : RowL Wa2 _ 41 [Value.int IntKind.u64 0, Value.int IntKind.u64 7, Value.int IntKind.u64 0, Value.int IntKind.u64 0, Value.int IntKind.u64 0, Value.int IntKind.u64 0, Value.int IntKind.u64 0, Value.int IntKind.u64 0, Value.int IntKind.u64 0, Value.int IntKind.u64 0, Value.int IntKind.u64 0, Value.int IntKind.u64 0, Value.int IntKind.u64 0, Value.int IntKind.u64 0, Value.int IntKind.u64 0, Value.int IntKind.u64 0] := ra3
  clear rm
  replace q := Zg q ba1; replace r81 := Zd r81 ba1; replace r91 := Zd r91 ba1
  have rm := ra3
  clear ra3
  refine Zq ?_; refine Zr ?_; refine Zm ?_
  have hO : WdsAt Wa2 gm 0 oddL := ⟨fun j x hj => by rw [Nat.zero_add]; exact RowL.cell (xs := ints .u64 oddL) rm (by simp [ints, hj]), rm.lt⟩
  clear rm
  refine LL.call (R.call rfl rfl rfl) rfl rfl rfl (of_Z gm 0 16 oddL Wa2 (hSF _ q) rfl (by decide) (by omega) hO rfl) ?_
  rintro e W4 ⟨v4, rfl, rd4, b4⟩
  refine ⟨_, rfl, ?_⟩; have zb4 := b4.size; have hO3 := hO.lt; replace q := Zu q b4; replace r81 := r81.up b4; replace r91 := r91.up b4
  clear hO b4
  obtain ⟨x4, c4, rfl, _⟩ := rd4.form rfl
  have rd4F := fun X (b : Below W4.heap.size W4 X) => rd4.up b
  clear rd4
  have hlt8 := r81.lt; have hlt9 := r91.lt; refine Zm ?_; refine Zx ?_; refine Zx ?_; have lb181 := r81.lt; have lb182 := r91.lt
  refine LL.alloc ([Value.int IntKind.i64 0, Value.int IntKind.i64 0, Value.int IntKind.i64 0, Value.slice none 0 0, Value.int IntKind.i64 0, Value.int IntKind.i64 0, Value.string { data := { toList := [] } }]) rfl rfl rfl rfl rfl ?_
  intro Wb184 gb185 egb185 rb186 zb187 bb183
  replace q := Zu q bb183; replace r81 := r81.up bb183; replace r91 := r91.up bb183
  refine LL.storeN (vs := [Value.int IntKind.i64 0, Value.int IntKind.i64 0, Value.int IntKind.i64 0, Value.slice x4 [].length c4, Value.int IntKind.i64 0, Value.int IntKind.i64 0, strV []]) rfl rfl rfl rfl rb186 (by exact Nat.le_of_ble_eq_true rfl) (ones_of rfl) rfl rfl ?_
  intro Wb239 rb240 bb238 zb241
  have hlbb238 := rb186.lt
  replace rb240 : RowL Wb239 _ 25 [Value.int IntKind.i64 0, Value.int IntKind.i64 0, Value.int IntKind.i64 0, Value.slice x4 [].length c4, Value.int IntKind.i64 0, Value.int IntKind.i64 0, strV []] := rb240
  clear rb186
  replace bb183 := Zg bb183 bb238; replace q := Zg q bb238; replace r81 := Zd r81 bb238; replace r91 := Zd r91 bb238
  have rb186 := rb240
  clear rb240
  refine Za ?_; refine Zq ?_; refine Zr ?_; refine Zm ?_
  refine LL.val (R.slice rfl rfl rfl rfl rfl (I.slToc rfl rfl (by omega))) rfl rfl rfl ?_
  have lb396 := r81.lt; have lb397 := r91.lt; have lb398 := rb186.lt
  (refine LL.call (R.call rfl rfl rfl) rfl rfl rfl (of_L _ 15 16 _ (by decide)) ?_; rintro e Wb395 ⟨rfl, bb392⟩; refine ⟨_, rfl, ?_⟩)
  have zbb392 := bb392.size; replace bb183 := Zu bb183 bb392; replace q := Zu q bb392; replace r81 := r81.up bb392; replace r91 := r91.up bb392; replace rb186 := rb186.up bb392; refine Zm ?_; refine Zx ?_; refine Zx ?_; have lb602 := r81.lt; have lb603 := r91.lt; have lb604 := rb186.lt
  refine LL.alloc ([Value.int IntKind.i64 0, Value.int IntKind.i64 0, Value.int IntKind.i64 0, Value.slice none 0 0, Value.int IntKind.i64 0, Value.int IntKind.i64 0, Value.string { data := { toList := [] } }]) rfl rfl rfl rfl rfl ?_
  intro Wb606 gb607 egb607 rb608 zb609 bb605
  replace bb392 := Zu bb392 bb605; replace bb183 := Zu bb183 bb605; replace q := Zu q bb605; replace r81 := r81.up bb605; replace r91 := r91.up bb605; replace rb186 := rb186.up bb605
  refine LL.storeN (vs := [Value.int IntKind.i64 0, Value.int IntKind.i64 0, Value.int IntKind.i64 0, Value.slice none 0 0, Value.int IntKind.i64 0, Value.int IntKind.i64 0, strV []]) rfl rfl rfl rfl rb608 (by exact Nat.le_of_ble_eq_true rfl) (ones_of rfl) rfl rfl ?_
  intro Wb666 rb667 bb665 zb668
  have hlbb665 := rb608.lt
  replace rb667 : RowL Wb666 _ 25 [Value.int IntKind.i64 0, Value.int IntKind.i64 0, Value.int IntKind.i64 0, Value.slice none 0 0, Value.int IntKind.i64 0, Value.int IntKind.i64 0, strV []] := rb667
  clear rb608
  replace bb605 := Zg bb605 bb665; replace bb392 := Zg bb392 bb665; replace bb183 := Zg bb183 bb665; replace q := Zg q bb665; replace r81 := Zd r81 bb665; replace r91 := Zd r91 bb665; replace rb186 := Zd rb186 bb665
  have rb608 := rb667
  clear rb667
  refine Za ?_; refine Zq ?_; refine Zr ?_; have lb739 := r81.lt; have lb740 := r91.lt; have lb741 := rb186.lt; have lb742 := rb608.lt
  (refine LL.call (R.call rfl rfl rfl) rfl rfl rfl (linked_T 258 3 _ (by decide) (by decide) (by decide)) ?_; rintro e Wb738 ⟨rfl, bb735⟩; refine ⟨_, rfl, ?_⟩)
  have zbb735 := bb735.size; replace bb605 := Zu bb605 bb735; replace bb392 := Zu bb392 bb735; replace bb183 := Zu bb183 bb735; replace q := Zu q bb735; replace r81 := r81.up bb735; replace r91 := r91.up bb735; replace rb186 := rb186.up bb735; replace rb608 := rb608.up bb735; refine Zm ?_; refine Zx ?_; refine Zx ?_; refine Za ?_; refine Za ?_; refine Zq ?_; refine Zr ?_; refine Zm ?_
  refine LL.call (R.call rfl rfl rfl) rfl rfl rfl (num_any _ _) ?_
  rintro e W' ⟨rfl, rfl⟩
  refine ⟨_, rfl, ?_⟩; refine Zm ?_
  refine LL.call (R.call rfl rfl rfl) rfl rfl rfl (num_any _ _) ?_
  rintro e W' ⟨rfl, rfl⟩
  refine ⟨_, rfl, ?_⟩
  refine LL.val (R.addIz (z := 0) rfl rfl rfl (by decide) (by decide)) rfl rfl rfl ?_
  refine Zm ?_
  refine LL.call (R.call rfl rfl rfl) rfl rfl rfl (num_any _ _) ?_
  rintro e W' ⟨rfl, rfl⟩
  refine ⟨_, rfl, ?_⟩
  refine LL.val (R.addIz (z := 0) rfl rfl rfl (by decide) (by decide)) rfl rfl rfl ?_
  refine Zm ?_
  refine LL.call (R.call rfl rfl rfl) rfl rfl rfl (num_any _ _) ?_
  rintro e W' ⟨rfl, rfl⟩
  refine ⟨_, rfl, ?_⟩
  refine LL.val (R.addIz (z := 0) rfl rfl rfl (by decide) (by decide)) rfl rfl rfl ?_
  refine ZeqT ?_; refine Zm ?_; refine Zm ?_; have lb1846 := r81.lt; have lb1847 := r91.lt; have lb1848 := rb186.lt; have lb1849 := rb608.lt
  refine LL.lit (e := 41) [Value.int IntKind.u64 258, Value.int IntKind.u64 0, Value.int IntKind.u64 20, Value.int IntKind.u64 1] 4 rfl rfl (fun _ => by kernel_rfl) rfl rfl ?_
  intro Wb1851 gb1852 egb1852 rb1853 zb1854 bb1850
  replace bb735 := Zu bb735 bb1850; replace bb605 := Zu bb605 bb1850; replace bb392 := Zu bb392 bb1850; replace bb183 := Zu bb183 bb1850; replace q := Zu q bb1850; replace r81 := r81.up bb1850; replace r91 := r91.up bb1850; replace rb186 := rb186.up bb1850; replace rb608 := rb608.up bb1850; have lb1883 := rb1853.lt; have lb1884 := r81.lt; have lb1885 := r91.lt; have lb1886 := rb186.lt; have lb1887 := rb608.lt
  (refine LL.call (R.call rfl rfl rfl) rfl rfl rfl (beg_R g8 _ 4 (inoW 2 1 0 [] 20 1 []) [258, 0, 20, 1] _ _ r81 (by assumption) rfl (inoW_len okD) (by decide) rfl begD) ?_; rintro e Wb1882 ⟨rfl, bb1879⟩; refine ⟨_, rfl, ?_⟩)
  have zbb1879 := bb1879.size; replace rb1853 := rb1853.up bb1879; replace bb1850 := Zu bb1850 bb1879; replace bb735 := Zu bb735 bb1879; replace bb605 := Zu bb605 bb1879; replace bb392 := Zu bb392 bb1879; replace bb183 := Zu bb183 bb1879; replace q := Zu q bb1879; replace r81 := r81.up bb1879; replace r91 := r91.up bb1879; replace rb186 := rb186.up bb1879; replace rb608 := rb608.up bb1879; refine Zp ?_
  refine Zm ?_; refine Zm ?_; refine Zn ?_; refine ZeqT ?_; refine Zp ?_; refine Zm ?_; refine Zm ?_; have lb2431 := rb1853.lt; have lb2432 := r81.lt; have lb2433 := r91.lt; have lb2434 := rb186.lt; have lb2435 := rb608.lt
  refine LL.lit (e := 41) [Value.int IntKind.u64 515, Value.int IntKind.u64 1, Value.int IntKind.u64 97] 3 rfl rfl (fun _ => by kernel_rfl) rfl rfl ?_
  intro Wb2437 gb2438 egb2438 rb2439 zb2440 bb2436
  replace bb1879 := Zu bb1879 bb2436; replace rb1853 := rb1853.up bb2436; replace bb1850 := Zu bb1850 bb2436; replace bb735 := Zu bb735 bb2436; replace bb605 := Zu bb605 bb2436; replace bb392 := Zu bb392 bb2436; replace bb183 := Zu bb183 bb2436; replace q := Zu q bb2436; replace r81 := r81.up bb2436; replace r91 := r91.up bb2436; replace rb186 := rb186.up bb2436; replace rb608 := rb608.up bb2436; have lb2484 := rb2439.lt
  have lb2485 := rb1853.lt; have lb2486 := r81.lt; have lb2487 := r91.lt; have lb2488 := rb186.lt; have lb2489 := rb608.lt
  (refine LL.call (R.call rfl rfl rfl) rfl rfl rfl (beg_R g9 _ 3 (inoW 3 2 0 [] 0 0 [97]) [515, 1, 97] _ _ r91 (by assumption) rfl (inoW_len okK) (by decide) rfl begK) ?_; rintro e Wb2483 ⟨rfl, bb2480⟩; refine ⟨_, rfl, ?_⟩)
  have zbb2480 := bb2480.size; replace rb2439 := rb2439.up bb2480; replace bb2436 := Zu bb2436 bb2480; replace bb1879 := Zu bb1879 bb2480; replace rb1853 := rb1853.up bb2480; replace bb1850 := Zu bb1850 bb2480; replace bb735 := Zu bb735 bb2480; replace bb605 := Zu bb605 bb2480; replace bb392 := Zu bb392 bb2480; replace bb183 := Zu bb183 bb2480; replace q := Zu q bb2480; replace r81 := r81.up bb2480
  replace r91 := r91.up bb2480; replace rb186 := rb186.up bb2480; replace rb608 := rb608.up bb2480; refine Zp ?_; refine Zm ?_; refine Zv rb186 ?_
  refine LL.val (R.buildV rfl rfl (v := .agg #[Value.int IntKind.i64 0, Value.int IntKind.i64 0, Value.int IntKind.i64 0, Value.slice none 0 0, Value.int IntKind.i64 0, Value.int IntKind.i64 0, Value.string { data := #[] }]) (fun _ => by kernel_rfl)) rfl rfl rfl ?_
  have lb2809 := rb2439.lt; have lb2810 := rb1853.lt; have lb2811 := r81.lt; have lb2812 := r91.lt; have lb2813 := rb186.lt; have lb2814 := rb608.lt
  (refine LL.call (R.call rfl rfl rfl) rfl rfl rfl (dinsame_any 0 0 0 _ [] 0 0 [] 0 0 0 _ [] 0 0 [] _ (rd4F _ (by assumption)) (ReadsT.nil _) (by decide) (by decide) true same0) ?_; rintro e Wb2808 ⟨rfl, bb2805⟩; refine ⟨_, rfl, ?_⟩)
  have zbb2805 := bb2805.size; replace bb2480 := Zu bb2480 bb2805; replace rb2439 := rb2439.up bb2805; replace bb2436 := Zu bb2436 bb2805; replace bb1879 := Zu bb1879 bb2805; replace rb1853 := rb1853.up bb2805; replace bb1850 := Zu bb1850 bb2805; replace bb735 := Zu bb735 bb2805; replace bb605 := Zu bb605 bb2805; replace bb392 := Zu bb392 bb2805; replace bb183 := Zu bb183 bb2805; replace q := Zu q bb2805
  replace r81 := r81.up bb2805; replace r91 := r91.up bb2805; replace rb186 := rb186.up bb2805; replace rb608 := rb608.up bb2805; refine Zp ?_; refine Zm ?_; refine Zm ?_
  refine LL.call (R.call rfl rfl rfl) rfl rfl rfl (num_any _ _) ?_
  rintro e W' ⟨rfl, rfl⟩
  refine ⟨_, rfl, ?_⟩; refine ZeqT ?_; refine Zp ?_; refine Zm ?_; refine Zm ?_; refine ZeqT ?_; refine Zp ?_; refine Za ?_; refine Zq ?_; refine CC.ret ?_; refine EE.ret _ rfl rfl ?_
  exact ⟨rfl, q⟩
end Go.Proofs.YtnoefalgmekjbaaDoor

/- inode: the document's zero, plain. -/
namespace Go.Proofs.YtnoefalgmekjbaaDoor
set_option linter.unusedVariables false
set_option linter.unusedSimpArgs false
open Go.RowKit Go.Shelf
set_option maxRecDepth 100000
set_option maxHeartbeats 8000000
def zeroOk (f d l : Bool) (z : Int) (n : Nat) (r p : Int) (t : Bs) : Prop := (f = true ∨ z = 0 ∧ n = 0) ∧ (d = true ∨ r = 0 ∧ p = 0) ∧ (l = true ∨ t = [])
theorem zero_T (k l z : Int) (x : Option Addr) (n c : Nat) (r p : Int) (t : Bs) (f d li : Bool) (w : World) (hn : n ≤ 9223372036854775807) (h : zeroOk f d li z n r p t) : Calls Tryd.prog 34 #[inV k l z (.slice x n c) r p t, .bool f, .bool d, .bool li] w fun e w' => e = .returned (.bool true) ∧ Below w.heap.size w w' := by
  have q := Below.refl w.heap.size w
  obtain ⟨hF, hD, hL⟩ := h
  cases f <;> cases d <;> cases li <;> simp only [true_or, false_or, Bool.false_eq_true, reduceCtorEq] at hF hD hL
  all_goals (try (obtain ⟨hz0, hn0⟩ := hF; subst hz0 hn0))
  all_goals (try (obtain ⟨hr0, hp0⟩ := hD; subst hr0 hp0))
  all_goals (try subst hL)
  · refine X.fn Tryd.func34 rfl (n := 45) rfl rfl ?_
    refine Zr ?_
    refine LL.box [Value.int IntKind.i64 k, Value.int IntKind.i64 l, Value.int IntKind.i64 0, Value.slice x 0 c, Value.int IntKind.i64 0, Value.int IntKind.i64 0, strV []] rfl rfl rfl rfl rfl ?_
    intro W2 g3 eg3 r4 z5 b1
    replace q := Zu q b1; refine Za ?_; refine Zq ?_; refine Zc ?_; refine Zr ?_; refine Zm ?_; refine Zt ?_; refine Zm ?_; refine Zf ?_; refine Zl r4 ?_; refine ZneF ?_; refine Zm ?_; refine Zf ?_; refine Zl r4 ?_; refine Zn ?_; refine ZneF ?_; refine Zp ?_; refine Zp ?_; refine Zm ?_; refine Zm ?_; refine Zt ?_; refine Zm ?_; refine Zf ?_; refine Zl r4 ?_; refine ZneF ?_; refine Zm ?_; refine Zf ?_
    refine Zl r4 ?_; refine ZneF ?_; refine Zp ?_; refine Zp ?_; refine Zp ?_; refine Zm ?_; refine Zm ?_; refine Zt ?_; refine Zm ?_; refine Zf ?_; refine Zl r4 ?_
    refine LL.val (R.neS (a := ([] : Bs)) (b := []) (c := false) rfl rfl rfl (by decide)) rfl rfl rfl ?_
    refine Zp ?_; refine Zp ?_; refine Zq ?_; refine CC.no rfl ?_; refine CC.skip ?_; refine EE.thenN ?_; refine Zr ?_; refine Za ?_; refine Zq ?_; refine CC.ret ?_; refine EE.ret _ rfl rfl ?_
    exact ⟨rfl, q⟩
  · refine X.fn Tryd.func34 rfl (n := 45) rfl rfl ?_
    refine Zr ?_
    refine LL.box [Value.int IntKind.i64 k, Value.int IntKind.i64 l, Value.int IntKind.i64 0, Value.slice x 0 c, Value.int IntKind.i64 0, Value.int IntKind.i64 0, strV t] rfl rfl rfl rfl rfl ?_
    intro Wa2 ga3 ega3 ra4 za5 ba1
    replace q := Zu q ba1; refine Za ?_; refine Zq ?_; refine Zc ?_; refine Zr ?_; refine Zm ?_; refine Zt ?_; refine Zm ?_; refine Zf ?_; refine Zl ra4 ?_; refine ZneF ?_; refine Zm ?_; refine Zf ?_; refine Zl ra4 ?_; refine Zn ?_; refine ZneF ?_; refine Zp ?_; refine Zp ?_; refine Zm ?_; refine Zm ?_; refine Zt ?_; refine Zm ?_; refine Zf ?_; refine Zl ra4 ?_; refine ZneF ?_; refine Zm ?_; refine Zf ?_
    refine Zl ra4 ?_; refine ZneF ?_; refine Zp ?_; refine Zp ?_; refine Zp ?_; refine Zm ?_; refine Zm ?_; refine Zt ?_; refine Zm ?_; refine Zs ?_; refine Zs ?_; refine Zs ?_; refine Zp ?_; refine Zp ?_; refine Zq ?_; refine CC.no rfl ?_; refine CC.skip ?_; refine EE.thenN ?_; refine Zr ?_; refine Za ?_; refine Zq ?_; refine CC.ret ?_; refine EE.ret _ rfl rfl ?_
    exact ⟨rfl, q⟩
  · refine X.fn Tryd.func34 rfl (n := 45) rfl rfl ?_
    refine Zr ?_
    refine LL.box [Value.int IntKind.i64 k, Value.int IntKind.i64 l, Value.int IntKind.i64 0, Value.slice x 0 c, Value.int IntKind.i64 r, Value.int IntKind.i64 p, strV []] rfl rfl rfl rfl rfl ?_
    intro Wb2 gb3 egb3 rb4 zb5 bb1
    replace q := Zu q bb1; refine Za ?_; refine Zq ?_; refine Zc ?_; refine Zr ?_; refine Zm ?_; refine Zt ?_; refine Zm ?_; refine Zf ?_; refine Zl rb4 ?_; refine ZneF ?_; refine Zm ?_; refine Zf ?_; refine Zl rb4 ?_; refine Zn ?_; refine ZneF ?_; refine Zp ?_; refine Zp ?_; refine Zm ?_; refine Zm ?_; refine Zt ?_; refine Zm ?_; refine Zs ?_; refine Zs ?_; refine Zs ?_; refine Zs ?_; refine Zs ?_
    refine Zs ?_; refine Zs ?_; refine Zs ?_; refine Zp ?_; refine Zp ?_; refine Zm ?_; refine Zm ?_; refine Zt ?_; refine Zm ?_; refine Zf ?_; refine Zl rb4 ?_
    refine LL.val (R.neS (a := ([] : Bs)) (b := []) (c := false) rfl rfl rfl (by decide)) rfl rfl rfl ?_
    refine Zp ?_; refine Zp ?_; refine Zq ?_; refine CC.no rfl ?_; refine CC.skip ?_; refine EE.thenN ?_; refine Zr ?_; refine Za ?_; refine Zq ?_; refine CC.ret ?_; refine EE.ret _ rfl rfl ?_
    exact ⟨rfl, q⟩
  · refine X.fn Tryd.func34 rfl (n := 45) rfl rfl ?_
    refine Zr ?_
    refine LL.box [Value.int IntKind.i64 k, Value.int IntKind.i64 l, Value.int IntKind.i64 0, Value.slice x 0 c, Value.int IntKind.i64 r, Value.int IntKind.i64 p, strV t] rfl rfl rfl rfl rfl ?_
    intro Wc2 gc3 egc3 rc4 zc5 bc1
    replace q := Zu q bc1; refine Za ?_; refine Zq ?_; refine Zc ?_; refine Zr ?_; refine Zm ?_; refine Zt ?_; refine Zm ?_; refine Zf ?_; refine Zl rc4 ?_; refine ZneF ?_; refine Zm ?_; refine Zf ?_; refine Zl rc4 ?_; refine Zn ?_; refine ZneF ?_; refine Zp ?_; refine Zp ?_; refine Zm ?_; refine Zm ?_; refine Zt ?_; refine Zm ?_; refine Zs ?_; refine Zs ?_; refine Zs ?_; refine Zs ?_; refine Zs ?_
    refine Zs ?_; refine Zs ?_; refine Zs ?_; refine Zp ?_; refine Zp ?_; refine Zm ?_; refine Zm ?_; refine Zt ?_; refine Zm ?_; refine Zs ?_; refine Zs ?_; refine Zs ?_; refine Zp ?_; refine Zp ?_; refine Zq ?_; refine CC.no rfl ?_; refine CC.skip ?_; refine EE.thenN ?_; refine Zr ?_; refine Za ?_; refine Zq ?_; refine CC.ret ?_; refine EE.ret _ rfl rfl ?_
    exact ⟨rfl, q⟩
  · refine X.fn Tryd.func34 rfl (n := 45) rfl rfl ?_
    refine Zr ?_
    refine LL.box [Value.int IntKind.i64 k, Value.int IntKind.i64 l, Value.int IntKind.i64 z, Value.slice x n c, Value.int IntKind.i64 0, Value.int IntKind.i64 0, strV []] rfl rfl rfl rfl rfl ?_
    intro Wd2 gd3 egd3 rd4 zd5 bd1
    replace q := Zu q bd1; refine Za ?_; refine Zq ?_; refine Zc ?_; refine Zr ?_; refine Zm ?_; refine Zt ?_; refine Zm ?_; refine Zs ?_; refine Zs ?_; refine Zs ?_; refine Zs ?_; refine Zs ?_; refine Zs ?_; refine Zs ?_; refine Zs ?_; refine Zs ?_; refine Zp ?_; refine Zm ?_; refine Zm ?_; refine Zt ?_; refine Zm ?_; refine Zf ?_; refine Zl rd4 ?_; refine ZneF ?_; refine Zm ?_; refine Zf ?_; refine Zl rd4 ?_
    refine ZneF ?_; refine Zp ?_; refine Zp ?_; refine Zp ?_; refine Zm ?_; refine Zm ?_; refine Zt ?_; refine Zm ?_; refine Zf ?_; refine Zl rd4 ?_
    refine LL.val (R.neS (a := ([] : Bs)) (b := []) (c := false) rfl rfl rfl (by decide)) rfl rfl rfl ?_
    refine Zp ?_; refine Zp ?_; refine Zq ?_; refine CC.no rfl ?_; refine CC.skip ?_; refine EE.thenN ?_; refine Zr ?_; refine Za ?_; refine Zq ?_; refine CC.ret ?_; refine EE.ret _ rfl rfl ?_
    exact ⟨rfl, q⟩
  · refine X.fn Tryd.func34 rfl (n := 45) rfl rfl ?_
    refine Zr ?_
    refine LL.box [Value.int IntKind.i64 k, Value.int IntKind.i64 l, Value.int IntKind.i64 z, Value.slice x n c, Value.int IntKind.i64 0, Value.int IntKind.i64 0, strV t] rfl rfl rfl rfl rfl ?_
    intro We2 ge3 ege3 re4 ze5 be1
    replace q := Zu q be1; refine Za ?_; refine Zq ?_; refine Zc ?_; refine Zr ?_; refine Zm ?_; refine Zt ?_; refine Zm ?_; refine Zs ?_; refine Zs ?_; refine Zs ?_; refine Zs ?_; refine Zs ?_; refine Zs ?_; refine Zs ?_; refine Zs ?_; refine Zs ?_; refine Zp ?_; refine Zm ?_; refine Zm ?_; refine Zt ?_; refine Zm ?_; refine Zf ?_; refine Zl re4 ?_; refine ZneF ?_; refine Zm ?_; refine Zf ?_; refine Zl re4 ?_
    refine ZneF ?_; refine Zp ?_; refine Zp ?_; refine Zp ?_; refine Zm ?_; refine Zm ?_; refine Zt ?_; refine Zm ?_; refine Zs ?_; refine Zs ?_; refine Zs ?_; refine Zp ?_; refine Zp ?_; refine Zq ?_; refine CC.no rfl ?_; refine CC.skip ?_; refine EE.thenN ?_; refine Zr ?_; refine Za ?_; refine Zq ?_; refine CC.ret ?_; refine EE.ret _ rfl rfl ?_
    exact ⟨rfl, q⟩
  · refine X.fn Tryd.func34 rfl (n := 45) rfl rfl ?_
    refine Zr ?_
    refine LL.box [Value.int IntKind.i64 k, Value.int IntKind.i64 l, Value.int IntKind.i64 z, Value.slice x n c, Value.int IntKind.i64 r, Value.int IntKind.i64 p, strV []] rfl rfl rfl rfl rfl ?_
    intro Wf2 gf3 egf3 rf4 zf5 bf1
    replace q := Zu q bf1; refine Za ?_; refine Zq ?_; refine Zc ?_; refine Zr ?_; refine Zm ?_; refine Zt ?_; refine Zm ?_; refine Zs ?_; refine Zs ?_; refine Zs ?_; refine Zs ?_; refine Zs ?_; refine Zs ?_; refine Zs ?_; refine Zs ?_; refine Zs ?_; refine Zp ?_; refine Zm ?_; refine Zm ?_; refine Zt ?_; refine Zm ?_; refine Zs ?_; refine Zs ?_; refine Zs ?_; refine Zs ?_; refine Zs ?_; refine Zs ?_
    refine Zs ?_; refine Zs ?_; refine Zp ?_; refine Zp ?_; refine Zm ?_; refine Zm ?_; refine Zt ?_; refine Zm ?_; refine Zf ?_; refine Zl rf4 ?_
    refine LL.val (R.neS (a := ([] : Bs)) (b := []) (c := false) rfl rfl rfl (by decide)) rfl rfl rfl ?_
    refine Zp ?_; refine Zp ?_; refine Zq ?_; refine CC.no rfl ?_; refine CC.skip ?_; refine EE.thenN ?_; refine Zr ?_; refine Za ?_; refine Zq ?_; refine CC.ret ?_; refine EE.ret _ rfl rfl ?_
    exact ⟨rfl, q⟩
  · refine X.fn Tryd.func34 rfl (n := 45) rfl rfl ?_
    refine Zr ?_
    refine LL.box [Value.int IntKind.i64 k, Value.int IntKind.i64 l, Value.int IntKind.i64 z, Value.slice x n c, Value.int IntKind.i64 r, Value.int IntKind.i64 p, strV t] rfl rfl rfl rfl rfl ?_
    intro Wg2 gg3 egg3 rg4 zg5 bg1
    replace q := Zu q bg1; refine Za ?_; refine Zq ?_; refine Zc ?_; refine Zr ?_; refine Zm ?_; refine Zt ?_; refine Zm ?_; refine Zs ?_; refine Zs ?_; refine Zs ?_; refine Zs ?_; refine Zs ?_; refine Zs ?_; refine Zs ?_; refine Zs ?_; refine Zs ?_; refine Zp ?_; refine Zm ?_; refine Zm ?_; refine Zt ?_; refine Zm ?_; refine Zs ?_; refine Zs ?_; refine Zs ?_; refine Zs ?_; refine Zs ?_; refine Zs ?_
    refine Zs ?_; refine Zs ?_; refine Zp ?_; refine Zp ?_; refine Zm ?_; refine Zm ?_; refine Zt ?_; refine Zm ?_; refine Zs ?_; refine Zs ?_; refine Zs ?_; refine Zp ?_; refine Zp ?_; refine Zq ?_; refine CC.no rfl ?_; refine CC.skip ?_; refine EE.thenN ?_; refine Zr ?_; refine Za ?_; refine Zq ?_; refine CC.ret ?_; refine EE.ret _ rfl rfl ?_
    exact ⟨rfl, q⟩
theorem zero_F (k l z : Int) (x : Option Addr) (n c : Nat) (r p : Int) (t : Bs) (f d li : Bool) (w : World) (hn : n ≤ 9223372036854775807) (h : ¬zeroOk f d li z n r p t) : Calls Tryd.prog 34 #[inV k l z (.slice x n c) r p t, .bool f, .bool d, .bool li] w fun e w' => e = .returned (.bool false) ∧ Below w.heap.size w w' := by
  have q := Below.refl w.heap.size w
  by_cases hF : f = true ∨ z = 0 ∧ n = 0
  · by_cases hD : d = true ∨ r = 0 ∧ p = 0
    · have hL : li = false ∧ t ≠ [] := by
        refine ⟨?_, fun e => h ⟨hF, hD, .inr e⟩⟩
        cases li with
        | false => rfl
        | true => exact absurd ⟨hF, hD, .inl rfl⟩ h
      obtain ⟨rfl, hL⟩ := hL
      clear h
      cases f <;> cases d <;> simp only [true_or, false_or, Bool.false_eq_true, reduceCtorEq] at hF hD
      all_goals (try (obtain ⟨hz0, hn0⟩ := hF; subst hz0 hn0))
      all_goals (try (obtain ⟨hr0, hp0⟩ := hD; subst hr0 hp0))
      · refine X.fn Tryd.func34 rfl (n := 45) rfl rfl ?_
        refine Zr ?_
        refine LL.box [Value.int IntKind.i64 k, Value.int IntKind.i64 l, Value.int IntKind.i64 0, Value.slice x 0 c, Value.int IntKind.i64 0, Value.int IntKind.i64 0, strV t] rfl rfl rfl rfl rfl ?_
        intro W2 g3 eg3 r4 z5 b1
        replace q := Zu q b1; refine Za ?_; refine Zq ?_; refine Zc ?_; refine Zr ?_; refine Zm ?_; refine Zt ?_; refine Zm ?_; refine Zf ?_; refine Zl r4 ?_; refine ZneF ?_; refine Zm ?_; refine Zf ?_; refine Zl r4 ?_; refine Zn ?_; refine ZneF ?_; refine Zp ?_; refine Zp ?_; refine Zm ?_; refine Zm ?_; refine Zt ?_; refine Zm ?_; refine Zf ?_; refine Zl r4 ?_; refine ZneF ?_; refine Zm ?_; refine Zf ?_
        refine Zl r4 ?_; refine ZneF ?_; refine Zp ?_; refine Zp ?_; refine Zp ?_; refine Zm ?_; refine Zm ?_; refine Zt ?_; refine Zm ?_; refine Zf ?_; refine Zl r4 ?_
        refine LL.val (R.neS (a := t) (b := []) (c := true) rfl rfl rfl (by simp [hL])) rfl rfl rfl ?_
        refine Zp ?_; refine Zp ?_; refine Zq ?_; refine CC.yes rfl ?_; refine Zr ?_; refine Za ?_; refine Zq ?_; refine CC.ret ?_; refine EE.thenR ?_; refine EE.ret _ rfl rfl ?_
        exact ⟨rfl, q⟩
      · refine X.fn Tryd.func34 rfl (n := 45) rfl rfl ?_
        refine Zr ?_
        refine LL.box [Value.int IntKind.i64 k, Value.int IntKind.i64 l, Value.int IntKind.i64 0, Value.slice x 0 c, Value.int IntKind.i64 r, Value.int IntKind.i64 p, strV t] rfl rfl rfl rfl rfl ?_
        intro Wa2 ga3 ega3 ra4 za5 ba1
        replace q := Zu q ba1; refine Za ?_; refine Zq ?_; refine Zc ?_; refine Zr ?_; refine Zm ?_; refine Zt ?_; refine Zm ?_; refine Zf ?_; refine Zl ra4 ?_; refine ZneF ?_; refine Zm ?_; refine Zf ?_; refine Zl ra4 ?_; refine Zn ?_; refine ZneF ?_; refine Zp ?_; refine Zp ?_; refine Zm ?_; refine Zm ?_; refine Zt ?_; refine Zm ?_; refine Zs ?_; refine Zs ?_; refine Zs ?_; refine Zs ?_; refine Zs ?_
        refine Zs ?_; refine Zs ?_; refine Zs ?_; refine Zp ?_; refine Zp ?_; refine Zm ?_; refine Zm ?_; refine Zt ?_; refine Zm ?_; refine Zf ?_; refine Zl ra4 ?_
        refine LL.val (R.neS (a := t) (b := []) (c := true) rfl rfl rfl (by simp [hL])) rfl rfl rfl ?_
        refine Zp ?_; refine Zp ?_; refine Zq ?_; refine CC.yes rfl ?_; refine Zr ?_; refine Za ?_; refine Zq ?_; refine CC.ret ?_; refine EE.thenR ?_; refine EE.ret _ rfl rfl ?_
        exact ⟨rfl, q⟩
      · refine X.fn Tryd.func34 rfl (n := 45) rfl rfl ?_
        refine Zr ?_
        refine LL.box [Value.int IntKind.i64 k, Value.int IntKind.i64 l, Value.int IntKind.i64 z, Value.slice x n c, Value.int IntKind.i64 0, Value.int IntKind.i64 0, strV t] rfl rfl rfl rfl rfl ?_
        intro Wb2 gb3 egb3 rb4 zb5 bb1
        replace q := Zu q bb1; refine Za ?_; refine Zq ?_; refine Zc ?_; refine Zr ?_; refine Zm ?_; refine Zt ?_; refine Zm ?_; refine Zs ?_; refine Zs ?_; refine Zs ?_; refine Zs ?_; refine Zs ?_; refine Zs ?_; refine Zs ?_; refine Zs ?_; refine Zs ?_; refine Zp ?_; refine Zm ?_; refine Zm ?_; refine Zt ?_; refine Zm ?_; refine Zf ?_; refine Zl rb4 ?_; refine ZneF ?_; refine Zm ?_; refine Zf ?_; refine Zl rb4 ?_
        refine ZneF ?_; refine Zp ?_; refine Zp ?_; refine Zp ?_; refine Zm ?_; refine Zm ?_; refine Zt ?_; refine Zm ?_; refine Zf ?_; refine Zl rb4 ?_
        refine LL.val (R.neS (a := t) (b := []) (c := true) rfl rfl rfl (by simp [hL])) rfl rfl rfl ?_
        refine Zp ?_; refine Zp ?_; refine Zq ?_; refine CC.yes rfl ?_; refine Zr ?_; refine Za ?_; refine Zq ?_; refine CC.ret ?_; refine EE.thenR ?_; refine EE.ret _ rfl rfl ?_
        exact ⟨rfl, q⟩
      · refine X.fn Tryd.func34 rfl (n := 45) rfl rfl ?_
        refine Zr ?_
        refine LL.box [Value.int IntKind.i64 k, Value.int IntKind.i64 l, Value.int IntKind.i64 z, Value.slice x n c, Value.int IntKind.i64 r, Value.int IntKind.i64 p, strV t] rfl rfl rfl rfl rfl ?_
        intro Wc2 gc3 egc3 rc4 zc5 bc1
        replace q := Zu q bc1; refine Za ?_; refine Zq ?_; refine Zc ?_; refine Zr ?_; refine Zm ?_; refine Zt ?_; refine Zm ?_; refine Zs ?_; refine Zs ?_; refine Zs ?_; refine Zs ?_; refine Zs ?_; refine Zs ?_; refine Zs ?_; refine Zs ?_; refine Zs ?_; refine Zp ?_; refine Zm ?_; refine Zm ?_; refine Zt ?_; refine Zm ?_; refine Zs ?_; refine Zs ?_; refine Zs ?_; refine Zs ?_; refine Zs ?_; refine Zs ?_
        refine Zs ?_; refine Zs ?_; refine Zp ?_; refine Zp ?_; refine Zm ?_; refine Zm ?_; refine Zt ?_; refine Zm ?_; refine Zf ?_; refine Zl rc4 ?_
        refine LL.val (R.neS (a := t) (b := []) (c := true) rfl rfl rfl (by simp [hL])) rfl rfl rfl ?_
        refine Zp ?_; refine Zp ?_; refine Zq ?_; refine CC.yes rfl ?_; refine Zr ?_; refine Za ?_; refine Zq ?_; refine CC.ret ?_; refine EE.thenR ?_; refine EE.ret _ rfl rfl ?_
        exact ⟨rfl, q⟩
    · have hd : d = false := by
        cases d with
        | false => rfl
        | true => exact absurd (.inl rfl) hD
      subst hd
      have hrp : ¬(r = 0 ∧ p = 0) := fun e => hD (.inr e)
      clear h hD
      cases f <;> simp only [true_or, false_or, Bool.false_eq_true, reduceCtorEq] at hF
      all_goals (try (obtain ⟨hz0, hn0⟩ := hF; subst hz0 hn0))
      · by_cases hr0 : r = 0
        · subst hr0
          have hp0 : p ≠ 0 := fun e => hrp ⟨rfl, e⟩
          refine X.fn Tryd.func34 rfl (n := 45) rfl rfl ?_
          refine Zr ?_
          refine LL.box [Value.int IntKind.i64 k, Value.int IntKind.i64 l, Value.int IntKind.i64 0, Value.slice x 0 c, Value.int IntKind.i64 0, Value.int IntKind.i64 p, strV t] rfl rfl rfl rfl rfl ?_
          intro Wd2 gd3 egd3 rd4 zd5 bd1
          replace q := Zu q bd1; refine Za ?_; refine Zq ?_; refine Zc ?_; refine Zr ?_; refine Zm ?_; refine Zt ?_; refine Zm ?_; refine Zf ?_; refine Zl rd4 ?_; refine ZneF ?_; refine Zm ?_; refine Zf ?_; refine Zl rd4 ?_; refine Zn ?_; refine ZneF ?_; refine Zp ?_; refine Zp ?_; refine Zm ?_; refine Zm ?_; refine Zt ?_; refine Zm ?_; refine Zf ?_; refine Zl rd4 ?_; refine ZneF ?_; refine Zm ?_; refine Zf ?_
          refine Zl rd4 ?_; refine ZneT ?_; refine Zp ?_; refine Zp ?_; refine Zp ?_; refine Zm ?_; refine Zs ?_; refine Zs ?_; refine Zs ?_; refine Zs ?_; refine Zs ?_; refine Zs ?_; refine Zs ?_; refine Zp ?_; refine Zq ?_; refine CC.yes rfl ?_; refine Zr ?_; refine Za ?_; refine Zq ?_; refine CC.ret ?_; refine EE.thenR ?_; refine EE.ret _ rfl rfl ?_
          exact ⟨rfl, q⟩
        · refine X.fn Tryd.func34 rfl (n := 45) rfl rfl ?_
          refine Zr ?_
          refine LL.box [Value.int IntKind.i64 k, Value.int IntKind.i64 l, Value.int IntKind.i64 0, Value.slice x 0 c, Value.int IntKind.i64 r, Value.int IntKind.i64 p, strV t] rfl rfl rfl rfl rfl ?_
          intro We2 ge3 ege3 re4 ze5 be1
          replace q := Zu q be1; refine Za ?_; refine Zq ?_; refine Zc ?_; refine Zr ?_; refine Zm ?_; refine Zt ?_; refine Zm ?_; refine Zf ?_; refine Zl re4 ?_; refine ZneF ?_; refine Zm ?_; refine Zf ?_; refine Zl re4 ?_; refine Zn ?_; refine ZneF ?_; refine Zp ?_; refine Zp ?_; refine Zm ?_; refine Zm ?_; refine Zt ?_; refine Zm ?_; refine Zf ?_; refine Zl re4 ?_; refine ZneT ?_; refine Zm ?_; refine Zs ?_
          refine Zs ?_; refine Zs ?_; refine Zp ?_; refine Zp ?_; refine Zp ?_; refine Zm ?_; refine Zs ?_; refine Zs ?_; refine Zs ?_; refine Zs ?_; refine Zs ?_; refine Zs ?_; refine Zs ?_; refine Zp ?_; refine Zq ?_; refine CC.yes rfl ?_; refine Zr ?_; refine Za ?_; refine Zq ?_; refine CC.ret ?_; refine EE.thenR ?_; refine EE.ret _ rfl rfl ?_
          exact ⟨rfl, q⟩
      · by_cases hr0 : r = 0
        · subst hr0
          have hp0 : p ≠ 0 := fun e => hrp ⟨rfl, e⟩
          refine X.fn Tryd.func34 rfl (n := 45) rfl rfl ?_
          refine Zr ?_
          refine LL.box [Value.int IntKind.i64 k, Value.int IntKind.i64 l, Value.int IntKind.i64 z, Value.slice x n c, Value.int IntKind.i64 0, Value.int IntKind.i64 p, strV t] rfl rfl rfl rfl rfl ?_
          intro Wf2 gf3 egf3 rf4 zf5 bf1
          replace q := Zu q bf1; refine Za ?_; refine Zq ?_; refine Zc ?_; refine Zr ?_; refine Zm ?_; refine Zt ?_; refine Zm ?_; refine Zs ?_; refine Zs ?_; refine Zs ?_; refine Zs ?_; refine Zs ?_; refine Zs ?_; refine Zs ?_; refine Zs ?_; refine Zs ?_; refine Zp ?_; refine Zm ?_; refine Zm ?_; refine Zt ?_; refine Zm ?_; refine Zf ?_; refine Zl rf4 ?_; refine ZneF ?_; refine Zm ?_; refine Zf ?_
          refine Zl rf4 ?_; refine ZneT ?_; refine Zp ?_; refine Zp ?_; refine Zp ?_; refine Zm ?_; refine Zs ?_; refine Zs ?_; refine Zs ?_; refine Zs ?_; refine Zs ?_; refine Zs ?_; refine Zs ?_; refine Zp ?_; refine Zq ?_; refine CC.yes rfl ?_; refine Zr ?_; refine Za ?_; refine Zq ?_; refine CC.ret ?_; refine EE.thenR ?_; refine EE.ret _ rfl rfl ?_
          exact ⟨rfl, q⟩
        · refine X.fn Tryd.func34 rfl (n := 45) rfl rfl ?_
          refine Zr ?_
          refine LL.box [Value.int IntKind.i64 k, Value.int IntKind.i64 l, Value.int IntKind.i64 z, Value.slice x n c, Value.int IntKind.i64 r, Value.int IntKind.i64 p, strV t] rfl rfl rfl rfl rfl ?_
          intro Wg2 gg3 egg3 rg4 zg5 bg1
          replace q := Zu q bg1; refine Za ?_; refine Zq ?_; refine Zc ?_; refine Zr ?_; refine Zm ?_; refine Zt ?_; refine Zm ?_; refine Zs ?_; refine Zs ?_; refine Zs ?_; refine Zs ?_; refine Zs ?_; refine Zs ?_; refine Zs ?_; refine Zs ?_; refine Zs ?_; refine Zp ?_; refine Zm ?_; refine Zm ?_; refine Zt ?_; refine Zm ?_; refine Zf ?_; refine Zl rg4 ?_; refine ZneT ?_; refine Zm ?_; refine Zs ?_
          refine Zs ?_; refine Zs ?_; refine Zp ?_; refine Zp ?_; refine Zp ?_; refine Zm ?_; refine Zs ?_; refine Zs ?_; refine Zs ?_; refine Zs ?_; refine Zs ?_; refine Zs ?_; refine Zs ?_; refine Zp ?_; refine Zq ?_; refine CC.yes rfl ?_; refine Zr ?_; refine Za ?_; refine Zq ?_; refine CC.ret ?_; refine EE.thenR ?_; refine EE.ret _ rfl rfl ?_
          exact ⟨rfl, q⟩
  · have hf : f = false := by
      cases f with
      | false => rfl
      | true => exact absurd (.inl rfl) hF
    subst hf
    have hzn : ¬(z = 0 ∧ n = 0) := fun e => hF (.inr e)
    clear h hF
    by_cases hz0 : z = 0
    · subst hz0
      have hn0 : n ≠ 0 := fun e => hzn ⟨rfl, e⟩
      refine X.fn Tryd.func34 rfl (n := 45) rfl rfl ?_
      refine Zr ?_
      refine LL.box [Value.int IntKind.i64 k, Value.int IntKind.i64 l, Value.int IntKind.i64 0, Value.slice x n c, Value.int IntKind.i64 r, Value.int IntKind.i64 p, strV t] rfl rfl rfl rfl rfl ?_
      intro Wh2 gh3 egh3 rh4 zh5 bh1
      replace q := Zu q bh1; refine Za ?_; refine Zq ?_; refine Zc ?_; refine Zr ?_; refine Zm ?_; refine Zt ?_; refine Zm ?_; refine Zf ?_; refine Zl rh4 ?_; refine ZneF ?_; refine Zm ?_; refine Zf ?_; refine Zl rh4 ?_; refine Zn ?_; refine ZneT ?_; refine Zp ?_; refine Zp ?_; refine Zm ?_; refine Zs ?_; refine Zs ?_; refine Zs ?_; refine Zs ?_; refine Zs ?_; refine Zs ?_; refine Zs ?_; refine Zs ?_
      refine Zs ?_; refine Zs ?_; refine Zs ?_; refine Zs ?_; refine Zp ?_; refine Zm ?_; refine Zs ?_; refine Zs ?_; refine Zs ?_; refine Zs ?_; refine Zs ?_; refine Zs ?_; refine Zs ?_; refine Zp ?_; refine Zq ?_; refine CC.yes rfl ?_; refine Zr ?_; refine Za ?_; refine Zq ?_; refine CC.ret ?_; refine EE.thenR ?_; refine EE.ret _ rfl rfl ?_
      exact ⟨rfl, q⟩
    · refine X.fn Tryd.func34 rfl (n := 45) rfl rfl ?_
      refine Zr ?_
      refine LL.box [Value.int IntKind.i64 k, Value.int IntKind.i64 l, Value.int IntKind.i64 z, Value.slice x n c, Value.int IntKind.i64 r, Value.int IntKind.i64 p, strV t] rfl rfl rfl rfl rfl ?_
      intro Wi2 gi3 egi3 ri4 zi5 bi1
      replace q := Zu q bi1; refine Za ?_; refine Zq ?_; refine Zc ?_; refine Zr ?_; refine Zm ?_; refine Zt ?_; refine Zm ?_; refine Zf ?_; refine Zl ri4 ?_; refine ZneT ?_; refine Zm ?_; refine Zs ?_; refine Zs ?_; refine Zs ?_; refine Zs ?_; refine Zp ?_; refine Zp ?_; refine Zm ?_; refine Zs ?_; refine Zs ?_; refine Zs ?_; refine Zs ?_; refine Zs ?_; refine Zs ?_; refine Zs ?_; refine Zs ?_; refine Zs ?_
      refine Zs ?_; refine Zs ?_; refine Zs ?_; refine Zp ?_; refine Zm ?_; refine Zs ?_; refine Zs ?_; refine Zs ?_; refine Zs ?_; refine Zs ?_; refine Zs ?_; refine Zs ?_; refine Zp ?_; refine Zq ?_; refine CC.yes rfl ?_; refine Zr ?_; refine Za ?_; refine Zq ?_; refine CC.ret ?_; refine EE.thenR ?_; refine EE.ret _ rfl rfl ?_
      exact ⟨rfl, q⟩
end Go.Proofs.YtnoefalgmekjbaaDoor

/- inode: the document's plain. -/
namespace Go.Proofs.YtnoefalgmekjbaaDoor
set_option linter.unusedVariables false
set_option linter.unusedSimpArgs false
open Go.RowKit Go.Shelf
set_option maxRecDepth 100000
set_option maxHeartbeats 8000000
theorem plain_any (t : Bs) (w : World) (ht : t.length ≤ 9223372036854775807) (b : Bool) (hb : b = decide ((0 : UInt8) ∉ t)) : Calls Tryd.prog 36 #[strV t] w fun e w' => e = .returned (.bool b) ∧ w = w' := by
  refine X.fn Tryd.func36 rfl (n := 14) rfl rfl ?_
  refine Zr ?_; refine Za ?_; refine Zq ?_; refine Zc ?_; refine Zr ?_; refine Za ?_; refine Zq ?_; refine CC.block ?_
  refine CC.loop (α := Nat) (fun i => [(0, strV t), (2, .bool false), (3, .int .i64 (i : Int))]) (fun i wr => i ≤ t.length ∧ (∀ j, j < i → t[j]? ≠ some 0) ∧ w = wr) (fun i => t.length - i) 0 ⟨rfl, rfl, rfl, trivial⟩ ⟨by omega, fun j h => by omega, rfl⟩ ?_
  rintro i wr ⟨hi, hno, rfl⟩
  by_cases hlt : i < t.length
  · obtain ⟨cc, hcc⟩ : ∃ cc, t[i]? = some cc := ⟨_, List.getElem?_eq_getElem hlt⟩
    by_cases hz : cc = 0
    · have hmem : (0 : UInt8) ∈ t := hz ▸ List.mem_of_getElem? hcc
      have hcn : cc.toNat = 0 := by rw [hz]; rfl
      rw [decide_eq_false (fun h => h hmem)] at hb
      subst hb
      refine Zc ?_; refine Zr ?_; refine Zm ?_; refine Zm ?_
      refine LL.val (R.lenS rfl rfl rfl rfl) rfl rfl rfl ?_
      refine ZltT ?_; refine Zq ?_; refine CC.yes rfl ?_; refine CC.skip ?_; refine EE.thenN ?_; refine Zc ?_; refine CC.block ?_; refine Zr ?_; refine Zm ?_; refine Zm ?_
      refine LL.val (R.ixS rfl rfl rfl rfl hcc) rfl rfl rfl ?_
      refine ZeqT ?_; refine Zq ?_; refine CC.yes rfl ?_; refine Zr ?_; refine Za ?_; refine Zq ?_; refine CC.ret ?_; refine EE.inR ?_; refine EE.thenR ?_; refine EE.thenR ?_; refine EE.inR ?_; refine EE.thenR ?_; refine EE.ret _ rfl rfl ?_
      exact ⟨rfl, rfl⟩
    · have hcn : cc.toNat ≠ 0 := fun e => hz (UInt8.toNat_inj.1 e)
      refine Zc ?_; refine Zr ?_; refine Zm ?_; refine Zm ?_
      refine LL.val (R.lenS rfl rfl rfl rfl) rfl rfl rfl ?_
      refine ZltT ?_; refine Zq ?_; refine CC.yes rfl ?_; refine CC.skip ?_; refine EE.thenN ?_; refine Zc ?_; refine CC.block ?_; refine Zr ?_; refine Zm ?_; refine Zm ?_
      refine LL.val (R.ixS rfl rfl rfl rfl hcc) rfl rfl rfl ?_
      refine ZeqF ?_; refine Zq ?_; refine CC.no rfl ?_; refine CC.skip ?_; refine EE.inN ?_; refine EE.thenN ?_; refine CC.region ?_; refine Zm ?_
      refine LL.val (R.addNc rfl rfl rfl rfl (by omega)) rfl rfl rfl ?_
      refine Za ?_; refine LL.nil ?_
      exact EE.round (i + 1) ⟨rfl, rfl, rfl, trivial⟩ ⟨by omega, fun j hj e => by rcases (by omega : j < i ∨ j = i) with h | rfl; exact hno j h e; rw [hcc] at e; exact hz (Option.some.inj e), rfl⟩ (by omega)
  · have hmem : (0 : UInt8) ∉ t := fun h => by
      obtain ⟨j, hj⟩ := List.getElem?_of_mem h
      have := (List.getElem?_eq_some_iff.1 hj).1
      exact hno j (by omega) hj
    rw [decide_eq_true hmem] at hb
    subst hb
    refine Zc ?_; refine Zr ?_; refine Zm ?_; refine Zm ?_
    refine LL.val (R.lenS rfl rfl rfl rfl) rfl rfl rfl ?_
    refine ZltF ?_; refine Zq ?_; refine CC.no rfl ?_; refine CC.exit ?_; refine EE.thenX ?_; refine EE.thenX ?_; refine EE.inX ?_; refine EE.thenN ?_; refine Zr ?_; refine Za ?_; refine Zq ?_; refine CC.ret ?_; refine EE.ret _ rfl rfl ?_
    exact ⟨rfl, rfl⟩
end Go.Proofs.YtnoefalgmekjbaaDoor

/- inode: the document's Check, but for files. -/
namespace Go.Proofs.YtnoefalgmekjbaaDoor
set_option linter.unusedVariables false
set_option linter.unusedSimpArgs false
open Go.RowKit Go.Shelf
set_option maxRecDepth 100000
set_option maxHeartbeats 8000000
theorem rcheck_0T (l : Int) (x : Option Addr) (c : Nat) (w : World) (hl : l = 0) : Calls Tryd.prog 15 #[inV 0 l 0 (.slice x 0 c) 0 0 []] w fun e w' => e = .returned (.int .i64 0) ∧ Below w.heap.size w w' := by
  have q := Below.refl w.heap.size w
  subst hl
  have hz0 := fun W => zero_T 0 0 0 x 0 c 0 0 [] false false false W (by omega) ⟨.inr ⟨rfl, rfl⟩, .inr ⟨rfl, rfl⟩, .inr rfl⟩
  refine X.fn Tryd.func15 rfl (n := 130) rfl rfl ?_
  refine Zr ?_
  refine LL.box [Value.int IntKind.i64 0, Value.int IntKind.i64 0, Value.int IntKind.i64 0, Value.slice x 0 c, Value.int IntKind.i64 0, Value.int IntKind.i64 0, strV []] rfl rfl rfl rfl rfl ?_
  intro W2 g3 eg3 r4 z5 b1
  replace q := Zu q b1; refine Za ?_; refine Zq ?_; refine Zr ?_; refine Zf ?_; refine Zl r4 ?_; refine Za ?_; refine Zq ?_; refine Zr ?_; refine Zm ?_; refine ZgeT ?_; refine Zm ?_; refine Zm ?_; refine ZleT ?_; refine Zp ?_; refine Zm ?_; refine Zf ?_; refine Zl r4 ?_; refine ZgeT ?_; refine Zp ?_; refine Zm ?_; refine Zf ?_; refine Zl r4 ?_; refine ZleT ?_; refine Zp ?_; refine Zm ?_; refine Zv r4 ?_
  refine Zm ?_; refine ZeqF ?_; refine Zm ?_; refine ZeqF ?_; refine Zm ?_; refine ZeqF ?_
  refine LL.call (R.call rfl rfl rfl) rfl rfl rfl (hz0 _) ?_
  rintro e W7 ⟨rfl, b6⟩
  refine ⟨_, rfl, ?_⟩; have zb6 := b6.size; replace r4 := r4.up b6; replace b1 := Zu b1 b6; replace q := Zu q b6; refine Zp ?_; refine Za ?_; refine Zq ?_; refine Zc ?_; refine Zr ?_; refine Zm ?_; refine Zq ?_; refine CC.block ?_; refine Zr ?_; refine ZeqT ?_; refine Za ?_; refine Zq ?_; refine CC.yes rfl ?_; refine CC.region ?_; refine Zm ?_; refine Zm ?_; refine Zf ?_; refine Zl r4 ?_; refine ZeqT ?_
  refine Zp ?_; refine Za ?_; refine LL.nil ?_; refine EE.inN ?_; refine EE.thenN ?_; refine Zc ?_; refine Zr ?_; refine Zm ?_; refine Zt ?_; refine Zq ?_; refine CC.no rfl ?_; refine CC.skip ?_; refine EE.thenN ?_; refine Zr ?_; refine Za ?_; refine Zq ?_; refine CC.ret ?_; refine EE.ret _ rfl rfl ?_
  exact ⟨rfl, q⟩
theorem rcheck_2T (l : Int) (x : Option Addr) (c : Nat) (r p : Int) (w : World) (hl : 0 ≤ l ∧ l ≤ 65535) (hr : 1 ≤ r ∧ r ≤ 2047) (hp : 1 ≤ p ∧ p ≤ 256) : Calls Tryd.prog 15 #[inV 2 l 0 (.slice x 0 c) r p []] w fun e w' => e = .returned (.int .i64 0) ∧ Below w.heap.size w w' := by
  have q := Below.refl w.heap.size w
  have hz0 := fun W => zero_T 2 l 0 x 0 c r p [] false true false W (by omega) ⟨.inr ⟨rfl, rfl⟩, .inl rfl, .inr rfl⟩
  refine X.fn Tryd.func15 rfl (n := 130) rfl rfl ?_
  refine Zr ?_
  refine LL.box [Value.int IntKind.i64 2, Value.int IntKind.i64 l, Value.int IntKind.i64 0, Value.slice x 0 c, Value.int IntKind.i64 r, Value.int IntKind.i64 p, strV []] rfl rfl rfl rfl rfl ?_
  intro W2 g3 eg3 r4 z5 b1
  replace q := Zu q b1; refine Za ?_; refine Zq ?_; refine Zr ?_; refine Zf ?_; refine Zl r4 ?_; refine Za ?_; refine Zq ?_; refine Zr ?_; refine Zm ?_; refine ZgeT ?_; refine Zm ?_; refine Zm ?_; refine ZleT ?_; refine Zp ?_; refine Zm ?_; refine Zf ?_; refine Zl r4 ?_; refine ZgeT ?_; refine Zp ?_; refine Zm ?_; refine Zf ?_; refine Zl r4 ?_; refine ZleT ?_; refine Zp ?_; refine Zm ?_; refine Zv r4 ?_
  refine Zm ?_; refine ZeqF ?_; refine Zm ?_; refine ZeqT ?_; refine Zm ?_; refine ZeqF ?_
  refine LL.call (R.call rfl rfl rfl) rfl rfl rfl (hz0 _) ?_
  rintro e W7 ⟨rfl, b6⟩
  refine ⟨_, rfl, ?_⟩; have zb6 := b6.size; replace r4 := r4.up b6; replace b1 := Zu b1 b6; replace q := Zu q b6; refine Zp ?_; refine Za ?_; refine Zq ?_; refine Zc ?_; refine Zr ?_; refine Zm ?_; refine Zq ?_; refine CC.block ?_; refine Zr ?_; refine ZeqF ?_; refine Za ?_; refine Zq ?_; refine CC.no rfl ?_; refine Zr ?_; refine ZeqF ?_; refine Za ?_; refine Zq ?_; refine CC.no rfl ?_; refine Zr ?_
  refine ZeqT ?_; refine Za ?_; refine Zq ?_; refine CC.yes rfl ?_; refine CC.region ?_; refine Zm ?_; refine Zm ?_; refine Zf ?_; refine Zl r4 ?_; refine ZgeT ?_; refine Zp ?_; refine Zm ?_; refine Zf ?_; refine Zl r4 ?_; refine ZleT ?_; refine Zp ?_; refine Zm ?_; refine Zf ?_; refine Zl r4 ?_; refine ZgeT ?_; refine Zp ?_; refine Zm ?_; refine Zf ?_; refine Zl r4 ?_; refine ZleT ?_; refine Zp ?_
  refine Za ?_; refine LL.nil ?_; refine EE.inN ?_; refine EE.thenN ?_; refine Zc ?_; refine Zr ?_; refine Zm ?_; refine Zt ?_; refine Zq ?_; refine CC.no rfl ?_; refine CC.skip ?_; refine EE.thenN ?_; refine Zr ?_; refine Za ?_; refine Zq ?_; refine CC.ret ?_; refine EE.ret _ rfl rfl ?_
  exact ⟨rfl, q⟩
theorem rcheck_3T (l : Int) (x : Option Addr) (c : Nat) (t : Bs) (w : World) (hl : 0 ≤ l ∧ l ≤ 65535) (ht : 1 ≤ t.length ∧ t.length ≤ 112) (h0 : (0 : UInt8) ∉ t) : Calls Tryd.prog 15 #[inV 3 l 0 (.slice x 0 c) 0 0 t] w fun e w' => e = .returned (.int .i64 0) ∧ Below w.heap.size w w' := by
  have q := Below.refl w.heap.size w
  have hz0 := fun W => zero_T 3 l 0 x 0 c 0 0 t false false true W (by omega) ⟨.inr ⟨rfl, rfl⟩, .inr ⟨rfl, rfl⟩, .inl rfl⟩
  have hpl := fun W => plain_any t W (by omega) true (decide_eq_true h0).symm
  refine X.fn Tryd.func15 rfl (n := 130) rfl rfl ?_
  refine Zr ?_
  refine LL.box [Value.int IntKind.i64 3, Value.int IntKind.i64 l, Value.int IntKind.i64 0, Value.slice x 0 c, Value.int IntKind.i64 0, Value.int IntKind.i64 0, strV t] rfl rfl rfl rfl rfl ?_
  intro W2 g3 eg3 r4 z5 b1
  replace q := Zu q b1; refine Za ?_; refine Zq ?_; refine Zr ?_; refine Zf ?_; refine Zl r4 ?_; refine Za ?_; refine Zq ?_; refine Zr ?_; refine Zm ?_; refine ZgeT ?_; refine Zm ?_; refine Zm ?_; refine ZleT ?_; refine Zp ?_; refine Zm ?_; refine Zf ?_; refine Zl r4 ?_; refine ZgeT ?_; refine Zp ?_; refine Zm ?_; refine Zf ?_; refine Zl r4 ?_; refine ZleT ?_; refine Zp ?_; refine Zm ?_; refine Zv r4 ?_
  refine Zm ?_; refine ZeqF ?_; refine Zm ?_; refine ZeqF ?_; refine Zm ?_; refine ZeqT ?_
  refine LL.call (R.call rfl rfl rfl) rfl rfl rfl (hz0 _) ?_
  rintro e W7 ⟨rfl, b6⟩
  refine ⟨_, rfl, ?_⟩; have zb6 := b6.size; replace r4 := r4.up b6; replace b1 := Zu b1 b6; replace q := Zu q b6; refine Zp ?_; refine Za ?_; refine Zq ?_; refine Zc ?_; refine Zr ?_; refine Zm ?_; refine Zq ?_; refine CC.block ?_; refine Zr ?_; refine ZeqF ?_; refine Za ?_; refine Zq ?_; refine CC.no rfl ?_; refine Zr ?_; refine ZeqF ?_; refine Za ?_; refine Zq ?_; refine CC.no rfl ?_; refine Zr ?_
  refine ZeqF ?_; refine Za ?_; refine Zq ?_; refine CC.no rfl ?_; refine Zr ?_; refine ZeqT ?_; refine Za ?_; refine Zq ?_; refine CC.yes rfl ?_; refine CC.region ?_; refine Zm ?_; refine Zm ?_; refine Zf ?_; refine Zl r4 ?_
  refine LL.val (R.lenS rfl rfl rfl rfl) rfl rfl rfl ?_
  refine ZgeT ?_; refine Zp ?_; refine Zm ?_; refine Zf ?_; refine Zl r4 ?_
  refine LL.val (R.lenS rfl rfl rfl rfl) rfl rfl rfl ?_
  refine ZleT ?_; refine Zp ?_; refine Zm ?_; refine Zf ?_; refine Zl r4 ?_
  refine LL.call (R.call rfl rfl rfl) rfl rfl rfl (hpl _) ?_
  rintro e W' ⟨rfl, rfl⟩
  refine ⟨_, rfl, ?_⟩; refine Zp ?_; refine Za ?_; refine LL.nil ?_; refine EE.inN ?_; refine EE.thenN ?_; refine Zc ?_; refine Zr ?_; refine Zm ?_; refine Zt ?_; refine Zq ?_; refine CC.no rfl ?_; refine CC.skip ?_; refine EE.thenN ?_; refine Zr ?_; refine Za ?_; refine Zq ?_; refine CC.ret ?_; refine EE.ret _ rfl rfl ?_
  exact ⟨rfl, q⟩
end Go.Proofs.YtnoefalgmekjbaaDoor

/- inode: the document's Check, but for files, where it says no. -/
namespace Go.Proofs.YtnoefalgmekjbaaDoor
set_option linter.unusedVariables false
set_option linter.unusedSimpArgs false
open Go.RowKit Go.Shelf
set_option maxRecDepth 100000
set_option maxHeartbeats 8000000
theorem rcheck_kF (k l z : Int) (x : Option Addr) (n c : Nat) (r p : Int) (t : Bs) (w : World) (hk : k < 0 ∨ 3 < k) : Calls Tryd.prog 15 #[inV k l z (.slice x n c) r p t] w fun e w' => e = .returned (.int .i64 240) ∧ Below w.heap.size w w' := by
  have q := Below.refl w.heap.size w
  by_cases hA : k < 0
  · refine X.fn Tryd.func15 rfl (n := 130) rfl rfl ?_
    refine Zr ?_
    refine LL.box [Value.int IntKind.i64 k, Value.int IntKind.i64 l, Value.int IntKind.i64 z, Value.slice x n c, Value.int IntKind.i64 r, Value.int IntKind.i64 p, strV t] rfl rfl rfl rfl rfl ?_
    intro W2 g3 eg3 r4 z5 b1
    replace q := Zu q b1; refine Za ?_; refine Zq ?_; refine Zr ?_; refine Zf ?_; refine Zl r4 ?_; refine Za ?_; refine Zq ?_; refine Zr ?_; refine Zm ?_; refine ZgeF ?_; refine Zm ?_; refine Zs ?_; refine Zs ?_; refine Zp ?_; refine Zm ?_; refine Zs ?_; refine Zs ?_; refine Zs ?_; refine Zp ?_; refine Zm ?_; refine Zs ?_; refine Zs ?_; refine Zs ?_; refine Zp ?_; refine Zm ?_; refine Zs ?_; refine Zs ?_
    refine Zs ?_; refine Zs ?_; refine Zs ?_; refine Zs ?_; refine Zs ?_; refine Zs ?_; refine Zp ?_; refine Za ?_; refine Zq ?_; refine Zc ?_; refine Zr ?_; refine Zm ?_; refine Zq ?_; refine CC.block ?_; refine Zr ?_; refine ZeqF ?_; refine Za ?_; refine Zq ?_; refine CC.no rfl ?_; refine Zr ?_; refine ZeqF ?_; refine Za ?_; refine Zq ?_; refine CC.no rfl ?_; refine Zr ?_; refine ZeqF ?_; refine Za ?_
    refine Zq ?_; refine CC.no rfl ?_; refine Zr ?_; refine ZeqF ?_; refine Za ?_; refine Zq ?_; refine CC.no rfl ?_; refine CC.skip ?_; refine EE.inN ?_; refine EE.thenN ?_; refine Zc ?_; refine Zr ?_; refine Zm ?_; refine Zt ?_; refine Zq ?_; refine CC.yes rfl ?_; refine Zr ?_; refine Za ?_; refine Zq ?_; refine CC.ret ?_; refine EE.thenR ?_; refine EE.ret _ rfl rfl ?_
    exact ⟨rfl, q⟩
  · refine X.fn Tryd.func15 rfl (n := 130) rfl rfl ?_
    refine Zr ?_
    refine LL.box [Value.int IntKind.i64 k, Value.int IntKind.i64 l, Value.int IntKind.i64 z, Value.slice x n c, Value.int IntKind.i64 r, Value.int IntKind.i64 p, strV t] rfl rfl rfl rfl rfl ?_
    intro Wa2 ga3 ega3 ra4 za5 ba1
    replace q := Zu q ba1; refine Za ?_; refine Zq ?_; refine Zr ?_; refine Zf ?_; refine Zl ra4 ?_; refine Za ?_; refine Zq ?_; refine Zr ?_; refine Zm ?_; refine ZgeT ?_; refine Zm ?_; refine Zm ?_; refine ZleF ?_; refine Zp ?_; refine Zm ?_; refine Zs ?_; refine Zs ?_; refine Zs ?_; refine Zp ?_; refine Zm ?_; refine Zs ?_; refine Zs ?_; refine Zs ?_; refine Zp ?_; refine Zm ?_; refine Zs ?_; refine Zs ?_
    refine Zs ?_; refine Zs ?_; refine Zs ?_; refine Zs ?_; refine Zs ?_; refine Zs ?_; refine Zp ?_; refine Za ?_; refine Zq ?_; refine Zc ?_; refine Zr ?_; refine Zm ?_; refine Zq ?_; refine CC.block ?_; refine Zr ?_; refine ZeqF ?_; refine Za ?_; refine Zq ?_; refine CC.no rfl ?_; refine Zr ?_; refine ZeqF ?_; refine Za ?_; refine Zq ?_; refine CC.no rfl ?_; refine Zr ?_; refine ZeqF ?_; refine Za ?_
    refine Zq ?_; refine CC.no rfl ?_; refine Zr ?_; refine ZeqF ?_; refine Za ?_; refine Zq ?_; refine CC.no rfl ?_; refine CC.skip ?_; refine EE.inN ?_; refine EE.thenN ?_; refine Zc ?_; refine Zr ?_; refine Zm ?_; refine Zt ?_; refine Zq ?_; refine CC.yes rfl ?_; refine Zr ?_; refine Za ?_; refine Zq ?_; refine CC.ret ?_; refine EE.thenR ?_; refine EE.ret _ rfl rfl ?_
    exact ⟨rfl, q⟩
theorem rcheck_0F (l z : Int) (x : Option Addr) (n c : Nat) (r p : Int) (t : Bs) (w : World) (hn : n ≤ 9223372036854775807) (h : ¬(l = 0 ∧ zeroOk false false false z n r p t)) : Calls Tryd.prog 15 #[inV 0 l z (.slice x n c) r p t] w fun e w' => e = .returned (.int .i64 240) ∧ Below w.heap.size w w' := by
  have q := Below.refl w.heap.size w
  by_cases hA : l < 0
  · refine X.fn Tryd.func15 rfl (n := 130) rfl rfl ?_
    refine Zr ?_
    refine LL.box [Value.int IntKind.i64 0, Value.int IntKind.i64 l, Value.int IntKind.i64 z, Value.slice x n c, Value.int IntKind.i64 r, Value.int IntKind.i64 p, strV t] rfl rfl rfl rfl rfl ?_
    intro W2 g3 eg3 r4 z5 b1
    replace q := Zu q b1; refine Za ?_; refine Zq ?_; refine Zr ?_; refine Zf ?_; refine Zl r4 ?_; refine Za ?_; refine Zq ?_; refine Zr ?_; refine Zm ?_; refine ZgeT ?_; refine Zm ?_; refine Zm ?_; refine ZleT ?_; refine Zp ?_; refine Zm ?_; refine Zf ?_; refine Zl r4 ?_; refine ZgeF ?_; refine Zp ?_; refine Zm ?_; refine Zs ?_; refine Zs ?_; refine Zs ?_; refine Zp ?_; refine Zm ?_; refine Zs ?_
    refine Zs ?_; refine Zs ?_; refine Zs ?_; refine Zs ?_; refine Zs ?_; refine Zs ?_; refine Zs ?_; refine Zp ?_; refine Za ?_; refine Zq ?_; refine Zc ?_; refine Zr ?_; refine Zm ?_; refine Zq ?_; refine CC.block ?_; refine Zr ?_; refine ZeqT ?_; refine Za ?_; refine Zq ?_; refine CC.yes rfl ?_; refine CC.region ?_; refine Zm ?_; refine Zm ?_; refine Zs ?_; refine Zs ?_; refine Zs ?_; refine Zp ?_
    refine Za ?_; refine LL.nil ?_; refine EE.inN ?_; refine EE.thenN ?_; refine Zc ?_; refine Zr ?_; refine Zm ?_; refine Zt ?_; refine Zq ?_; refine CC.yes rfl ?_; refine Zr ?_; refine Za ?_; refine Zq ?_; refine CC.ret ?_; refine EE.thenR ?_; refine EE.ret _ rfl rfl ?_
    exact ⟨rfl, q⟩
  by_cases hB : 65535 < l
  · refine X.fn Tryd.func15 rfl (n := 130) rfl rfl ?_
    refine Zr ?_
    refine LL.box [Value.int IntKind.i64 0, Value.int IntKind.i64 l, Value.int IntKind.i64 z, Value.slice x n c, Value.int IntKind.i64 r, Value.int IntKind.i64 p, strV t] rfl rfl rfl rfl rfl ?_
    intro Wa2 ga3 ega3 ra4 za5 ba1
    replace q := Zu q ba1; refine Za ?_; refine Zq ?_; refine Zr ?_; refine Zf ?_; refine Zl ra4 ?_; refine Za ?_; refine Zq ?_; refine Zr ?_; refine Zm ?_; refine ZgeT ?_; refine Zm ?_; refine Zm ?_; refine ZleT ?_; refine Zp ?_; refine Zm ?_; refine Zf ?_; refine Zl ra4 ?_; refine ZgeT ?_; refine Zp ?_; refine Zm ?_; refine Zf ?_; refine Zl ra4 ?_; refine ZleF ?_; refine Zp ?_; refine Zm ?_; refine Zs ?_
    refine Zs ?_; refine Zs ?_; refine Zs ?_; refine Zs ?_; refine Zs ?_; refine Zs ?_; refine Zs ?_; refine Zp ?_; refine Za ?_; refine Zq ?_; refine Zc ?_; refine Zr ?_; refine Zm ?_; refine Zq ?_; refine CC.block ?_; refine Zr ?_; refine ZeqT ?_; refine Za ?_; refine Zq ?_; refine CC.yes rfl ?_; refine CC.region ?_; refine Zm ?_; refine Zm ?_; refine Zs ?_; refine Zs ?_; refine Zs ?_; refine Zp ?_
    refine Za ?_; refine LL.nil ?_; refine EE.inN ?_; refine EE.thenN ?_; refine Zc ?_; refine Zr ?_; refine Zm ?_; refine Zt ?_; refine Zq ?_; refine CC.yes rfl ?_; refine Zr ?_; refine Za ?_; refine Zq ?_; refine CC.ret ?_; refine EE.thenR ?_; refine EE.ret _ rfl rfl ?_
    exact ⟨rfl, q⟩
  by_cases hZ : zeroOk false false false z n r p t
  · have hz0 := fun W => zero_T 0 l z x n c r p t false false false W hn hZ
    have hl : l ≠ 0 := fun e => h ⟨e, hZ⟩
    clear h hZ
    refine X.fn Tryd.func15 rfl (n := 130) rfl rfl ?_
    refine Zr ?_
    refine LL.box [Value.int IntKind.i64 0, Value.int IntKind.i64 l, Value.int IntKind.i64 z, Value.slice x n c, Value.int IntKind.i64 r, Value.int IntKind.i64 p, strV t] rfl rfl rfl rfl rfl ?_
    intro Wb2 gb3 egb3 rb4 zb5 bb1
    replace q := Zu q bb1; refine Za ?_; refine Zq ?_; refine Zr ?_; refine Zf ?_; refine Zl rb4 ?_; refine Za ?_; refine Zq ?_; refine Zr ?_; refine Zm ?_; refine ZgeT ?_; refine Zm ?_; refine Zm ?_; refine ZleT ?_; refine Zp ?_; refine Zm ?_; refine Zf ?_; refine Zl rb4 ?_; refine ZgeT ?_; refine Zp ?_; refine Zm ?_; refine Zf ?_; refine Zl rb4 ?_; refine ZleT ?_; refine Zp ?_; refine Zm ?_; refine Zv rb4 ?_
    refine Zm ?_; refine ZeqF ?_; refine Zm ?_; refine ZeqF ?_; refine Zm ?_; refine ZeqF ?_
    refine LL.call (R.call rfl rfl rfl) rfl rfl rfl (hz0 _) ?_
    rintro e Wb7 ⟨rfl, bb6⟩
    refine ⟨_, rfl, ?_⟩; have zbb6 := bb6.size; replace rb4 := rb4.up bb6; replace bb1 := Zu bb1 bb6; replace q := Zu q bb6; refine Zp ?_; refine Za ?_; refine Zq ?_; refine Zc ?_; refine Zr ?_; refine Zm ?_; refine Zq ?_; refine CC.block ?_; refine Zr ?_; refine ZeqT ?_; refine Za ?_; refine Zq ?_; refine CC.yes rfl ?_; refine CC.region ?_; refine Zm ?_; refine Zm ?_; refine Zf ?_; refine Zl rb4 ?_
    refine ZeqF ?_; refine Zp ?_; refine Za ?_; refine LL.nil ?_; refine EE.inN ?_; refine EE.thenN ?_; refine Zc ?_; refine Zr ?_; refine Zm ?_; refine Zt ?_; refine Zq ?_; refine CC.yes rfl ?_; refine Zr ?_; refine Za ?_; refine Zq ?_; refine CC.ret ?_; refine EE.thenR ?_; refine EE.ret _ rfl rfl ?_
    exact ⟨rfl, q⟩
  · have hz0 := fun W => zero_F 0 l z x n c r p t false false false W hn hZ
    clear h hZ
    refine X.fn Tryd.func15 rfl (n := 130) rfl rfl ?_
    refine Zr ?_
    refine LL.box [Value.int IntKind.i64 0, Value.int IntKind.i64 l, Value.int IntKind.i64 z, Value.slice x n c, Value.int IntKind.i64 r, Value.int IntKind.i64 p, strV t] rfl rfl rfl rfl rfl ?_
    intro Wc2 gc3 egc3 rc4 zc5 bc1
    replace q := Zu q bc1; refine Za ?_; refine Zq ?_; refine Zr ?_; refine Zf ?_; refine Zl rc4 ?_; refine Za ?_; refine Zq ?_; refine Zr ?_; refine Zm ?_; refine ZgeT ?_; refine Zm ?_; refine Zm ?_; refine ZleT ?_; refine Zp ?_; refine Zm ?_; refine Zf ?_; refine Zl rc4 ?_; refine ZgeT ?_; refine Zp ?_; refine Zm ?_; refine Zf ?_; refine Zl rc4 ?_; refine ZleT ?_; refine Zp ?_; refine Zm ?_; refine Zv rc4 ?_
    refine Zm ?_; refine ZeqF ?_; refine Zm ?_; refine ZeqF ?_; refine Zm ?_; refine ZeqF ?_
    refine LL.call (R.call rfl rfl rfl) rfl rfl rfl (hz0 _) ?_
    rintro e Wc7 ⟨rfl, bc6⟩
    refine ⟨_, rfl, ?_⟩; have zbc6 := bc6.size; replace rc4 := rc4.up bc6; replace bc1 := Zu bc1 bc6; replace q := Zu q bc6; refine Zp ?_; refine Za ?_; refine Zq ?_; refine Zc ?_; refine Zr ?_; refine Zm ?_; refine Zq ?_; refine CC.block ?_; refine Zr ?_; refine ZeqT ?_; refine Za ?_; refine Zq ?_; refine CC.yes rfl ?_; refine CC.region ?_; refine Zm ?_; refine Zm ?_; refine Zs ?_; refine Zs ?_; refine Zs ?_
    refine Zp ?_; refine Za ?_; refine LL.nil ?_; refine EE.inN ?_; refine EE.thenN ?_; refine Zc ?_; refine Zr ?_; refine Zm ?_; refine Zt ?_; refine Zq ?_; refine CC.yes rfl ?_; refine Zr ?_; refine Za ?_; refine Zq ?_; refine CC.ret ?_; refine EE.thenR ?_; refine EE.ret _ rfl rfl ?_
    exact ⟨rfl, q⟩
theorem rcheck_2F (l z : Int) (x : Option Addr) (n c : Nat) (r p : Int) (t : Bs) (w : World) (hn : n ≤ 9223372036854775807) (h : ¬((0 ≤ l ∧ l ≤ 65535) ∧ zeroOk false true false z n r p t ∧ (1 ≤ r ∧ r ≤ 2047) ∧ 1 ≤ p ∧ p ≤ 256)) : Calls Tryd.prog 15 #[inV 2 l z (.slice x n c) r p t] w fun e w' => e = .returned (.int .i64 240) ∧ Below w.heap.size w w' := by
  have q := Below.refl w.heap.size w
  by_cases hA : l < 0
  · refine X.fn Tryd.func15 rfl (n := 130) rfl rfl ?_
    refine Zr ?_
    refine LL.box [Value.int IntKind.i64 2, Value.int IntKind.i64 l, Value.int IntKind.i64 z, Value.slice x n c, Value.int IntKind.i64 r, Value.int IntKind.i64 p, strV t] rfl rfl rfl rfl rfl ?_
    intro W2 g3 eg3 r4 z5 b1
    replace q := Zu q b1; refine Za ?_; refine Zq ?_; refine Zr ?_; refine Zf ?_; refine Zl r4 ?_; refine Za ?_; refine Zq ?_; refine Zr ?_; refine Zm ?_; refine ZgeT ?_; refine Zm ?_; refine Zm ?_; refine ZleT ?_; refine Zp ?_; refine Zm ?_; refine Zf ?_; refine Zl r4 ?_; refine ZgeF ?_; refine Zp ?_; refine Zm ?_; refine Zs ?_; refine Zs ?_; refine Zs ?_; refine Zp ?_; refine Zm ?_; refine Zs ?_
    refine Zs ?_; refine Zs ?_; refine Zs ?_; refine Zs ?_; refine Zs ?_; refine Zs ?_; refine Zs ?_; refine Zp ?_; refine Za ?_; refine Zq ?_; refine Zc ?_; refine Zr ?_; refine Zm ?_; refine Zq ?_; refine CC.block ?_; refine Zr ?_; refine ZeqF ?_; refine Za ?_; refine Zq ?_; refine CC.no rfl ?_; refine Zr ?_; refine ZeqF ?_; refine Za ?_; refine Zq ?_; refine CC.no rfl ?_; refine Zr ?_; refine ZeqT ?_
    refine Za ?_; refine Zq ?_; refine CC.yes rfl ?_; refine CC.region ?_; refine Zm ?_; refine Zm ?_; refine Zs ?_; refine Zs ?_; refine Zs ?_; refine Zp ?_; refine Zm ?_; refine Zs ?_; refine Zs ?_; refine Zs ?_; refine Zp ?_; refine Zm ?_; refine Zs ?_; refine Zs ?_; refine Zs ?_; refine Zp ?_; refine Zm ?_; refine Zs ?_; refine Zs ?_; refine Zs ?_; refine Zp ?_; refine Za ?_; refine LL.nil ?_; refine EE.inN ?_
    refine EE.thenN ?_; refine Zc ?_; refine Zr ?_; refine Zm ?_; refine Zt ?_; refine Zq ?_; refine CC.yes rfl ?_; refine Zr ?_; refine Za ?_; refine Zq ?_; refine CC.ret ?_; refine EE.thenR ?_; refine EE.ret _ rfl rfl ?_
    exact ⟨rfl, q⟩
  by_cases hB : 65535 < l
  · refine X.fn Tryd.func15 rfl (n := 130) rfl rfl ?_
    refine Zr ?_
    refine LL.box [Value.int IntKind.i64 2, Value.int IntKind.i64 l, Value.int IntKind.i64 z, Value.slice x n c, Value.int IntKind.i64 r, Value.int IntKind.i64 p, strV t] rfl rfl rfl rfl rfl ?_
    intro Wa2 ga3 ega3 ra4 za5 ba1
    replace q := Zu q ba1; refine Za ?_; refine Zq ?_; refine Zr ?_; refine Zf ?_; refine Zl ra4 ?_; refine Za ?_; refine Zq ?_; refine Zr ?_; refine Zm ?_; refine ZgeT ?_; refine Zm ?_; refine Zm ?_; refine ZleT ?_; refine Zp ?_; refine Zm ?_; refine Zf ?_; refine Zl ra4 ?_; refine ZgeT ?_; refine Zp ?_; refine Zm ?_; refine Zf ?_; refine Zl ra4 ?_; refine ZleF ?_; refine Zp ?_; refine Zm ?_; refine Zs ?_
    refine Zs ?_; refine Zs ?_; refine Zs ?_; refine Zs ?_; refine Zs ?_; refine Zs ?_; refine Zs ?_; refine Zp ?_; refine Za ?_; refine Zq ?_; refine Zc ?_; refine Zr ?_; refine Zm ?_; refine Zq ?_; refine CC.block ?_; refine Zr ?_; refine ZeqF ?_; refine Za ?_; refine Zq ?_; refine CC.no rfl ?_; refine Zr ?_; refine ZeqF ?_; refine Za ?_; refine Zq ?_; refine CC.no rfl ?_; refine Zr ?_; refine ZeqT ?_
    refine Za ?_; refine Zq ?_; refine CC.yes rfl ?_; refine CC.region ?_; refine Zm ?_; refine Zm ?_; refine Zs ?_; refine Zs ?_; refine Zs ?_; refine Zp ?_; refine Zm ?_; refine Zs ?_; refine Zs ?_; refine Zs ?_; refine Zp ?_; refine Zm ?_; refine Zs ?_; refine Zs ?_; refine Zs ?_; refine Zp ?_; refine Zm ?_; refine Zs ?_; refine Zs ?_; refine Zs ?_; refine Zp ?_; refine Za ?_; refine LL.nil ?_; refine EE.inN ?_
    refine EE.thenN ?_; refine Zc ?_; refine Zr ?_; refine Zm ?_; refine Zt ?_; refine Zq ?_; refine CC.yes rfl ?_; refine Zr ?_; refine Za ?_; refine Zq ?_; refine CC.ret ?_; refine EE.thenR ?_; refine EE.ret _ rfl rfl ?_
    exact ⟨rfl, q⟩
  by_cases hZ : zeroOk false true false z n r p t
  · have hz0 := fun W => zero_T 2 l z x n c r p t false true false W hn hZ
    have hl : ¬((1 ≤ r ∧ r ≤ 2047) ∧ 1 ≤ p ∧ p ≤ 256) := fun e => h ⟨by omega, hZ, e⟩
    clear h hZ
    by_cases hC : r < 1
    · refine X.fn Tryd.func15 rfl (n := 130) rfl rfl ?_
      refine Zr ?_
      refine LL.box [Value.int IntKind.i64 2, Value.int IntKind.i64 l, Value.int IntKind.i64 z, Value.slice x n c, Value.int IntKind.i64 r, Value.int IntKind.i64 p, strV t] rfl rfl rfl rfl rfl ?_
      intro Wb2 gb3 egb3 rb4 zb5 bb1
      replace q := Zu q bb1; refine Za ?_; refine Zq ?_; refine Zr ?_; refine Zf ?_; refine Zl rb4 ?_; refine Za ?_; refine Zq ?_; refine Zr ?_; refine Zm ?_; refine ZgeT ?_; refine Zm ?_; refine Zm ?_; refine ZleT ?_; refine Zp ?_; refine Zm ?_; refine Zf ?_; refine Zl rb4 ?_; refine ZgeT ?_; refine Zp ?_; refine Zm ?_; refine Zf ?_; refine Zl rb4 ?_; refine ZleT ?_; refine Zp ?_; refine Zm ?_; refine Zv rb4 ?_
      refine Zm ?_; refine ZeqF ?_; refine Zm ?_; refine ZeqT ?_; refine Zm ?_; refine ZeqF ?_
      refine LL.call (R.call rfl rfl rfl) rfl rfl rfl (hz0 _) ?_
      rintro e Wb7 ⟨rfl, bb6⟩
      refine ⟨_, rfl, ?_⟩; have zbb6 := bb6.size; replace rb4 := rb4.up bb6; replace bb1 := Zu bb1 bb6; replace q := Zu q bb6; refine Zp ?_; refine Za ?_; refine Zq ?_; refine Zc ?_; refine Zr ?_; refine Zm ?_; refine Zq ?_; refine CC.block ?_; refine Zr ?_; refine ZeqF ?_; refine Za ?_; refine Zq ?_; refine CC.no rfl ?_; refine Zr ?_; refine ZeqF ?_; refine Za ?_; refine Zq ?_; refine CC.no rfl ?_
      refine Zr ?_; refine ZeqT ?_; refine Za ?_; refine Zq ?_; refine CC.yes rfl ?_; refine CC.region ?_; refine Zm ?_; refine Zm ?_; refine Zf ?_; refine Zl rb4 ?_; refine ZgeF ?_; refine Zp ?_; refine Zm ?_; refine Zs ?_; refine Zs ?_; refine Zs ?_; refine Zp ?_; refine Zm ?_; refine Zs ?_; refine Zs ?_; refine Zs ?_; refine Zp ?_; refine Zm ?_; refine Zs ?_; refine Zs ?_; refine Zs ?_; refine Zp ?_
      refine Za ?_; refine LL.nil ?_; refine EE.inN ?_; refine EE.thenN ?_; refine Zc ?_; refine Zr ?_; refine Zm ?_; refine Zt ?_; refine Zq ?_; refine CC.yes rfl ?_; refine Zr ?_; refine Za ?_; refine Zq ?_; refine CC.ret ?_; refine EE.thenR ?_; refine EE.ret _ rfl rfl ?_
      exact ⟨rfl, q⟩
    by_cases hD : 2047 < r
    · refine X.fn Tryd.func15 rfl (n := 130) rfl rfl ?_
      refine Zr ?_
      refine LL.box [Value.int IntKind.i64 2, Value.int IntKind.i64 l, Value.int IntKind.i64 z, Value.slice x n c, Value.int IntKind.i64 r, Value.int IntKind.i64 p, strV t] rfl rfl rfl rfl rfl ?_
      intro Wc2 gc3 egc3 rc4 zc5 bc1
      replace q := Zu q bc1; refine Za ?_; refine Zq ?_; refine Zr ?_; refine Zf ?_; refine Zl rc4 ?_; refine Za ?_; refine Zq ?_; refine Zr ?_; refine Zm ?_; refine ZgeT ?_; refine Zm ?_; refine Zm ?_; refine ZleT ?_; refine Zp ?_; refine Zm ?_; refine Zf ?_; refine Zl rc4 ?_; refine ZgeT ?_; refine Zp ?_; refine Zm ?_; refine Zf ?_; refine Zl rc4 ?_; refine ZleT ?_; refine Zp ?_; refine Zm ?_; refine Zv rc4 ?_
      refine Zm ?_; refine ZeqF ?_; refine Zm ?_; refine ZeqT ?_; refine Zm ?_; refine ZeqF ?_
      refine LL.call (R.call rfl rfl rfl) rfl rfl rfl (hz0 _) ?_
      rintro e Wc7 ⟨rfl, bc6⟩
      refine ⟨_, rfl, ?_⟩; have zbc6 := bc6.size; replace rc4 := rc4.up bc6; replace bc1 := Zu bc1 bc6; replace q := Zu q bc6; refine Zp ?_; refine Za ?_; refine Zq ?_; refine Zc ?_; refine Zr ?_; refine Zm ?_; refine Zq ?_; refine CC.block ?_; refine Zr ?_; refine ZeqF ?_; refine Za ?_; refine Zq ?_; refine CC.no rfl ?_; refine Zr ?_; refine ZeqF ?_; refine Za ?_; refine Zq ?_; refine CC.no rfl ?_
      refine Zr ?_; refine ZeqT ?_; refine Za ?_; refine Zq ?_; refine CC.yes rfl ?_; refine CC.region ?_; refine Zm ?_; refine Zm ?_; refine Zf ?_; refine Zl rc4 ?_; refine ZgeT ?_; refine Zp ?_; refine Zm ?_; refine Zf ?_; refine Zl rc4 ?_; refine ZleF ?_; refine Zp ?_; refine Zm ?_; refine Zs ?_; refine Zs ?_; refine Zs ?_; refine Zp ?_; refine Zm ?_; refine Zs ?_; refine Zs ?_; refine Zs ?_; refine Zp ?_
      refine Za ?_; refine LL.nil ?_; refine EE.inN ?_; refine EE.thenN ?_; refine Zc ?_; refine Zr ?_; refine Zm ?_; refine Zt ?_; refine Zq ?_; refine CC.yes rfl ?_; refine Zr ?_; refine Za ?_; refine Zq ?_; refine CC.ret ?_; refine EE.thenR ?_; refine EE.ret _ rfl rfl ?_
      exact ⟨rfl, q⟩
    by_cases hE : p < 1
    · refine X.fn Tryd.func15 rfl (n := 130) rfl rfl ?_
      refine Zr ?_
      refine LL.box [Value.int IntKind.i64 2, Value.int IntKind.i64 l, Value.int IntKind.i64 z, Value.slice x n c, Value.int IntKind.i64 r, Value.int IntKind.i64 p, strV t] rfl rfl rfl rfl rfl ?_
      intro Wd2 gd3 egd3 rd4 zd5 bd1
      replace q := Zu q bd1; refine Za ?_; refine Zq ?_; refine Zr ?_; refine Zf ?_; refine Zl rd4 ?_; refine Za ?_; refine Zq ?_; refine Zr ?_; refine Zm ?_; refine ZgeT ?_; refine Zm ?_; refine Zm ?_; refine ZleT ?_; refine Zp ?_; refine Zm ?_; refine Zf ?_; refine Zl rd4 ?_; refine ZgeT ?_; refine Zp ?_; refine Zm ?_; refine Zf ?_; refine Zl rd4 ?_; refine ZleT ?_; refine Zp ?_; refine Zm ?_; refine Zv rd4 ?_
      refine Zm ?_; refine ZeqF ?_; refine Zm ?_; refine ZeqT ?_; refine Zm ?_; refine ZeqF ?_
      refine LL.call (R.call rfl rfl rfl) rfl rfl rfl (hz0 _) ?_
      rintro e Wd7 ⟨rfl, bd6⟩
      refine ⟨_, rfl, ?_⟩; have zbd6 := bd6.size; replace rd4 := rd4.up bd6; replace bd1 := Zu bd1 bd6; replace q := Zu q bd6; refine Zp ?_; refine Za ?_; refine Zq ?_; refine Zc ?_; refine Zr ?_; refine Zm ?_; refine Zq ?_; refine CC.block ?_; refine Zr ?_; refine ZeqF ?_; refine Za ?_; refine Zq ?_; refine CC.no rfl ?_; refine Zr ?_; refine ZeqF ?_; refine Za ?_; refine Zq ?_; refine CC.no rfl ?_
      refine Zr ?_; refine ZeqT ?_; refine Za ?_; refine Zq ?_; refine CC.yes rfl ?_; refine CC.region ?_; refine Zm ?_; refine Zm ?_; refine Zf ?_; refine Zl rd4 ?_; refine ZgeT ?_; refine Zp ?_; refine Zm ?_; refine Zf ?_; refine Zl rd4 ?_; refine ZleT ?_; refine Zp ?_; refine Zm ?_; refine Zf ?_; refine Zl rd4 ?_; refine ZgeF ?_; refine Zp ?_; refine Zm ?_; refine Zs ?_; refine Zs ?_; refine Zs ?_
      refine Zp ?_; refine Za ?_; refine LL.nil ?_; refine EE.inN ?_; refine EE.thenN ?_; refine Zc ?_; refine Zr ?_; refine Zm ?_; refine Zt ?_; refine Zq ?_; refine CC.yes rfl ?_; refine Zr ?_; refine Za ?_; refine Zq ?_; refine CC.ret ?_; refine EE.thenR ?_; refine EE.ret _ rfl rfl ?_
      exact ⟨rfl, q⟩
    · have hG : 256 < p := by omega
      refine X.fn Tryd.func15 rfl (n := 130) rfl rfl ?_
      refine Zr ?_
      refine LL.box [Value.int IntKind.i64 2, Value.int IntKind.i64 l, Value.int IntKind.i64 z, Value.slice x n c, Value.int IntKind.i64 r, Value.int IntKind.i64 p, strV t] rfl rfl rfl rfl rfl ?_
      intro We2 ge3 ege3 re4 ze5 be1
      replace q := Zu q be1; refine Za ?_; refine Zq ?_; refine Zr ?_; refine Zf ?_; refine Zl re4 ?_; refine Za ?_; refine Zq ?_; refine Zr ?_; refine Zm ?_; refine ZgeT ?_; refine Zm ?_; refine Zm ?_; refine ZleT ?_; refine Zp ?_; refine Zm ?_; refine Zf ?_; refine Zl re4 ?_; refine ZgeT ?_; refine Zp ?_; refine Zm ?_; refine Zf ?_; refine Zl re4 ?_; refine ZleT ?_; refine Zp ?_; refine Zm ?_; refine Zv re4 ?_
      refine Zm ?_; refine ZeqF ?_; refine Zm ?_; refine ZeqT ?_; refine Zm ?_; refine ZeqF ?_
      refine LL.call (R.call rfl rfl rfl) rfl rfl rfl (hz0 _) ?_
      rintro e We7 ⟨rfl, be6⟩
      refine ⟨_, rfl, ?_⟩; have zbe6 := be6.size; replace re4 := re4.up be6; replace be1 := Zu be1 be6; replace q := Zu q be6; refine Zp ?_; refine Za ?_; refine Zq ?_; refine Zc ?_; refine Zr ?_; refine Zm ?_; refine Zq ?_; refine CC.block ?_; refine Zr ?_; refine ZeqF ?_; refine Za ?_; refine Zq ?_; refine CC.no rfl ?_; refine Zr ?_; refine ZeqF ?_; refine Za ?_; refine Zq ?_; refine CC.no rfl ?_
      refine Zr ?_; refine ZeqT ?_; refine Za ?_; refine Zq ?_; refine CC.yes rfl ?_; refine CC.region ?_; refine Zm ?_; refine Zm ?_; refine Zf ?_; refine Zl re4 ?_; refine ZgeT ?_; refine Zp ?_; refine Zm ?_; refine Zf ?_; refine Zl re4 ?_; refine ZleT ?_; refine Zp ?_; refine Zm ?_; refine Zf ?_; refine Zl re4 ?_; refine ZgeT ?_; refine Zp ?_; refine Zm ?_; refine Zf ?_; refine Zl re4 ?_; refine ZleF ?_
      refine Zp ?_; refine Za ?_; refine LL.nil ?_; refine EE.inN ?_; refine EE.thenN ?_; refine Zc ?_; refine Zr ?_; refine Zm ?_; refine Zt ?_; refine Zq ?_; refine CC.yes rfl ?_; refine Zr ?_; refine Za ?_; refine Zq ?_; refine CC.ret ?_; refine EE.thenR ?_; refine EE.ret _ rfl rfl ?_
      exact ⟨rfl, q⟩
  · have hz0 := fun W => zero_F 2 l z x n c r p t false true false W hn hZ
    clear h hZ
    refine X.fn Tryd.func15 rfl (n := 130) rfl rfl ?_
    refine Zr ?_
    refine LL.box [Value.int IntKind.i64 2, Value.int IntKind.i64 l, Value.int IntKind.i64 z, Value.slice x n c, Value.int IntKind.i64 r, Value.int IntKind.i64 p, strV t] rfl rfl rfl rfl rfl ?_
    intro Wf2 gf3 egf3 rf4 zf5 bf1
    replace q := Zu q bf1; refine Za ?_; refine Zq ?_; refine Zr ?_; refine Zf ?_; refine Zl rf4 ?_; refine Za ?_; refine Zq ?_; refine Zr ?_; refine Zm ?_; refine ZgeT ?_; refine Zm ?_; refine Zm ?_; refine ZleT ?_; refine Zp ?_; refine Zm ?_; refine Zf ?_; refine Zl rf4 ?_; refine ZgeT ?_; refine Zp ?_; refine Zm ?_; refine Zf ?_; refine Zl rf4 ?_; refine ZleT ?_; refine Zp ?_; refine Zm ?_; refine Zv rf4 ?_
    refine Zm ?_; refine ZeqF ?_; refine Zm ?_; refine ZeqT ?_; refine Zm ?_; refine ZeqF ?_
    refine LL.call (R.call rfl rfl rfl) rfl rfl rfl (hz0 _) ?_
    rintro e Wf7 ⟨rfl, bf6⟩
    refine ⟨_, rfl, ?_⟩; have zbf6 := bf6.size; replace rf4 := rf4.up bf6; replace bf1 := Zu bf1 bf6; replace q := Zu q bf6; refine Zp ?_; refine Za ?_; refine Zq ?_; refine Zc ?_; refine Zr ?_; refine Zm ?_; refine Zq ?_; refine CC.block ?_; refine Zr ?_; refine ZeqF ?_; refine Za ?_; refine Zq ?_; refine CC.no rfl ?_; refine Zr ?_; refine ZeqF ?_; refine Za ?_; refine Zq ?_; refine CC.no rfl ?_; refine Zr ?_
    refine ZeqT ?_; refine Za ?_; refine Zq ?_; refine CC.yes rfl ?_; refine CC.region ?_; refine Zm ?_; refine Zm ?_; refine Zs ?_; refine Zs ?_; refine Zs ?_; refine Zp ?_; refine Zm ?_; refine Zs ?_; refine Zs ?_; refine Zs ?_; refine Zp ?_; refine Zm ?_; refine Zs ?_; refine Zs ?_; refine Zs ?_; refine Zp ?_; refine Zm ?_; refine Zs ?_; refine Zs ?_; refine Zs ?_; refine Zp ?_; refine Za ?_; refine LL.nil ?_
    refine EE.inN ?_; refine EE.thenN ?_; refine Zc ?_; refine Zr ?_; refine Zm ?_; refine Zt ?_; refine Zq ?_; refine CC.yes rfl ?_; refine Zr ?_; refine Za ?_; refine Zq ?_; refine CC.ret ?_; refine EE.thenR ?_; refine EE.ret _ rfl rfl ?_
    exact ⟨rfl, q⟩
theorem rcheck_3F (l z : Int) (x : Option Addr) (n c : Nat) (r p : Int) (t : Bs) (w : World) (hn : n ≤ 9223372036854775807) (htl : t.length ≤ 9223372036854775807) (h : ¬((0 ≤ l ∧ l ≤ 65535) ∧ zeroOk false false true z n r p t ∧ (1 ≤ t.length ∧ t.length ≤ 112) ∧ (0 : UInt8) ∉ t)) : Calls Tryd.prog 15 #[inV 3 l z (.slice x n c) r p t] w fun e w' => e = .returned (.int .i64 240) ∧ Below w.heap.size w w' := by
  have q := Below.refl w.heap.size w
  by_cases hA : l < 0
  · refine X.fn Tryd.func15 rfl (n := 130) rfl rfl ?_
    refine Zr ?_
    refine LL.box [Value.int IntKind.i64 3, Value.int IntKind.i64 l, Value.int IntKind.i64 z, Value.slice x n c, Value.int IntKind.i64 r, Value.int IntKind.i64 p, strV t] rfl rfl rfl rfl rfl ?_
    intro W2 g3 eg3 r4 z5 b1
    replace q := Zu q b1; refine Za ?_; refine Zq ?_; refine Zr ?_; refine Zf ?_; refine Zl r4 ?_; refine Za ?_; refine Zq ?_; refine Zr ?_; refine Zm ?_; refine ZgeT ?_; refine Zm ?_; refine Zm ?_; refine ZleT ?_; refine Zp ?_; refine Zm ?_; refine Zf ?_; refine Zl r4 ?_; refine ZgeF ?_; refine Zp ?_; refine Zm ?_; refine Zs ?_; refine Zs ?_; refine Zs ?_; refine Zp ?_; refine Zm ?_; refine Zs ?_
    refine Zs ?_; refine Zs ?_; refine Zs ?_; refine Zs ?_; refine Zs ?_; refine Zs ?_; refine Zs ?_; refine Zp ?_; refine Za ?_; refine Zq ?_; refine Zc ?_; refine Zr ?_; refine Zm ?_; refine Zq ?_; refine CC.block ?_; refine Zr ?_; refine ZeqF ?_; refine Za ?_; refine Zq ?_; refine CC.no rfl ?_; refine Zr ?_; refine ZeqF ?_; refine Za ?_; refine Zq ?_; refine CC.no rfl ?_; refine Zr ?_; refine ZeqF ?_
    refine Za ?_; refine Zq ?_; refine CC.no rfl ?_; refine Zr ?_; refine ZeqT ?_; refine Za ?_; refine Zq ?_; refine CC.yes rfl ?_; refine CC.region ?_; refine Zm ?_; refine Zm ?_; refine Zs ?_; refine Zs ?_; refine Zs ?_; refine Zs ?_; refine Zp ?_; refine Zm ?_; refine Zs ?_; refine Zs ?_; refine Zs ?_; refine Zs ?_; refine Zp ?_; refine Zm ?_; refine Zs ?_; refine Zs ?_; refine Zs ?_; refine Zp ?_
    refine Za ?_; refine LL.nil ?_; refine EE.inN ?_; refine EE.thenN ?_; refine Zc ?_; refine Zr ?_; refine Zm ?_; refine Zt ?_; refine Zq ?_; refine CC.yes rfl ?_; refine Zr ?_; refine Za ?_; refine Zq ?_; refine CC.ret ?_; refine EE.thenR ?_; refine EE.ret _ rfl rfl ?_
    exact ⟨rfl, q⟩
  by_cases hB : 65535 < l
  · refine X.fn Tryd.func15 rfl (n := 130) rfl rfl ?_
    refine Zr ?_
    refine LL.box [Value.int IntKind.i64 3, Value.int IntKind.i64 l, Value.int IntKind.i64 z, Value.slice x n c, Value.int IntKind.i64 r, Value.int IntKind.i64 p, strV t] rfl rfl rfl rfl rfl ?_
    intro Wa2 ga3 ega3 ra4 za5 ba1
    replace q := Zu q ba1; refine Za ?_; refine Zq ?_; refine Zr ?_; refine Zf ?_; refine Zl ra4 ?_; refine Za ?_; refine Zq ?_; refine Zr ?_; refine Zm ?_; refine ZgeT ?_; refine Zm ?_; refine Zm ?_; refine ZleT ?_; refine Zp ?_; refine Zm ?_; refine Zf ?_; refine Zl ra4 ?_; refine ZgeT ?_; refine Zp ?_; refine Zm ?_; refine Zf ?_; refine Zl ra4 ?_; refine ZleF ?_; refine Zp ?_; refine Zm ?_; refine Zs ?_
    refine Zs ?_; refine Zs ?_; refine Zs ?_; refine Zs ?_; refine Zs ?_; refine Zs ?_; refine Zs ?_; refine Zp ?_; refine Za ?_; refine Zq ?_; refine Zc ?_; refine Zr ?_; refine Zm ?_; refine Zq ?_; refine CC.block ?_; refine Zr ?_; refine ZeqF ?_; refine Za ?_; refine Zq ?_; refine CC.no rfl ?_; refine Zr ?_; refine ZeqF ?_; refine Za ?_; refine Zq ?_; refine CC.no rfl ?_; refine Zr ?_; refine ZeqF ?_
    refine Za ?_; refine Zq ?_; refine CC.no rfl ?_; refine Zr ?_; refine ZeqT ?_; refine Za ?_; refine Zq ?_; refine CC.yes rfl ?_; refine CC.region ?_; refine Zm ?_; refine Zm ?_; refine Zs ?_; refine Zs ?_; refine Zs ?_; refine Zs ?_; refine Zp ?_; refine Zm ?_; refine Zs ?_; refine Zs ?_; refine Zs ?_; refine Zs ?_; refine Zp ?_; refine Zm ?_; refine Zs ?_; refine Zs ?_; refine Zs ?_; refine Zp ?_
    refine Za ?_; refine LL.nil ?_; refine EE.inN ?_; refine EE.thenN ?_; refine Zc ?_; refine Zr ?_; refine Zm ?_; refine Zt ?_; refine Zq ?_; refine CC.yes rfl ?_; refine Zr ?_; refine Za ?_; refine Zq ?_; refine CC.ret ?_; refine EE.thenR ?_; refine EE.ret _ rfl rfl ?_
    exact ⟨rfl, q⟩
  by_cases hZ : zeroOk false false true z n r p t
  · have hz0 := fun W => zero_T 3 l z x n c r p t false false true W hn hZ
    by_cases hC : t.length < 1
    · refine X.fn Tryd.func15 rfl (n := 130) rfl rfl ?_
      refine Zr ?_
      refine LL.box [Value.int IntKind.i64 3, Value.int IntKind.i64 l, Value.int IntKind.i64 z, Value.slice x n c, Value.int IntKind.i64 r, Value.int IntKind.i64 p, strV t] rfl rfl rfl rfl rfl ?_
      intro Wb2 gb3 egb3 rb4 zb5 bb1
      replace q := Zu q bb1; refine Za ?_; refine Zq ?_; refine Zr ?_; refine Zf ?_; refine Zl rb4 ?_; refine Za ?_; refine Zq ?_; refine Zr ?_; refine Zm ?_; refine ZgeT ?_; refine Zm ?_; refine Zm ?_; refine ZleT ?_; refine Zp ?_; refine Zm ?_; refine Zf ?_; refine Zl rb4 ?_; refine ZgeT ?_; refine Zp ?_; refine Zm ?_; refine Zf ?_; refine Zl rb4 ?_; refine ZleT ?_; refine Zp ?_; refine Zm ?_; refine Zv rb4 ?_
      refine Zm ?_; refine ZeqF ?_; refine Zm ?_; refine ZeqF ?_; refine Zm ?_; refine ZeqT ?_
      refine LL.call (R.call rfl rfl rfl) rfl rfl rfl (hz0 _) ?_
      rintro e Wb7 ⟨rfl, bb6⟩
      refine ⟨_, rfl, ?_⟩; have zbb6 := bb6.size; replace rb4 := rb4.up bb6; replace bb1 := Zu bb1 bb6; replace q := Zu q bb6; refine Zp ?_; refine Za ?_; refine Zq ?_; refine Zc ?_; refine Zr ?_; refine Zm ?_; refine Zq ?_; refine CC.block ?_; refine Zr ?_; refine ZeqF ?_; refine Za ?_; refine Zq ?_; refine CC.no rfl ?_; refine Zr ?_; refine ZeqF ?_; refine Za ?_; refine Zq ?_; refine CC.no rfl ?_
      refine Zr ?_; refine ZeqF ?_; refine Za ?_; refine Zq ?_; refine CC.no rfl ?_; refine Zr ?_; refine ZeqT ?_; refine Za ?_; refine Zq ?_; refine CC.yes rfl ?_; refine CC.region ?_; refine Zm ?_; refine Zm ?_; refine Zf ?_; refine Zl rb4 ?_
      refine LL.val (R.lenS rfl rfl rfl rfl) rfl rfl rfl ?_
      refine ZgeF ?_; refine Zp ?_; refine Zm ?_; refine Zs ?_; refine Zs ?_; refine Zs ?_; refine Zs ?_; refine Zp ?_; refine Zm ?_; refine Zs ?_; refine Zs ?_; refine Zs ?_; refine Zp ?_; refine Za ?_; refine LL.nil ?_; refine EE.inN ?_; refine EE.thenN ?_; refine Zc ?_; refine Zr ?_; refine Zm ?_; refine Zt ?_; refine Zq ?_; refine CC.yes rfl ?_; refine Zr ?_; refine Za ?_; refine Zq ?_; refine CC.ret ?_
      refine EE.thenR ?_; refine EE.ret _ rfl rfl ?_
      exact ⟨rfl, q⟩
    by_cases hD : 112 < t.length
    · refine X.fn Tryd.func15 rfl (n := 130) rfl rfl ?_
      refine Zr ?_
      refine LL.box [Value.int IntKind.i64 3, Value.int IntKind.i64 l, Value.int IntKind.i64 z, Value.slice x n c, Value.int IntKind.i64 r, Value.int IntKind.i64 p, strV t] rfl rfl rfl rfl rfl ?_
      intro Wc2 gc3 egc3 rc4 zc5 bc1
      replace q := Zu q bc1; refine Za ?_; refine Zq ?_; refine Zr ?_; refine Zf ?_; refine Zl rc4 ?_; refine Za ?_; refine Zq ?_; refine Zr ?_; refine Zm ?_; refine ZgeT ?_; refine Zm ?_; refine Zm ?_; refine ZleT ?_; refine Zp ?_; refine Zm ?_; refine Zf ?_; refine Zl rc4 ?_; refine ZgeT ?_; refine Zp ?_; refine Zm ?_; refine Zf ?_; refine Zl rc4 ?_; refine ZleT ?_; refine Zp ?_; refine Zm ?_; refine Zv rc4 ?_
      refine Zm ?_; refine ZeqF ?_; refine Zm ?_; refine ZeqF ?_; refine Zm ?_; refine ZeqT ?_
      refine LL.call (R.call rfl rfl rfl) rfl rfl rfl (hz0 _) ?_
      rintro e Wc7 ⟨rfl, bc6⟩
      refine ⟨_, rfl, ?_⟩; have zbc6 := bc6.size; replace rc4 := rc4.up bc6; replace bc1 := Zu bc1 bc6; replace q := Zu q bc6; refine Zp ?_; refine Za ?_; refine Zq ?_; refine Zc ?_; refine Zr ?_; refine Zm ?_; refine Zq ?_; refine CC.block ?_; refine Zr ?_; refine ZeqF ?_; refine Za ?_; refine Zq ?_; refine CC.no rfl ?_; refine Zr ?_; refine ZeqF ?_; refine Za ?_; refine Zq ?_; refine CC.no rfl ?_
      refine Zr ?_; refine ZeqF ?_; refine Za ?_; refine Zq ?_; refine CC.no rfl ?_; refine Zr ?_; refine ZeqT ?_; refine Za ?_; refine Zq ?_; refine CC.yes rfl ?_; refine CC.region ?_; refine Zm ?_; refine Zm ?_; refine Zf ?_; refine Zl rc4 ?_
      refine LL.val (R.lenS rfl rfl rfl rfl) rfl rfl rfl ?_
      refine ZgeT ?_; refine Zp ?_; refine Zm ?_; refine Zf ?_; refine Zl rc4 ?_
      refine LL.val (R.lenS rfl rfl rfl rfl) rfl rfl rfl ?_
      refine ZleF ?_; refine Zp ?_; refine Zm ?_; refine Zs ?_; refine Zs ?_; refine Zs ?_; refine Zp ?_; refine Za ?_; refine LL.nil ?_; refine EE.inN ?_; refine EE.thenN ?_; refine Zc ?_; refine Zr ?_; refine Zm ?_; refine Zt ?_; refine Zq ?_; refine CC.yes rfl ?_; refine Zr ?_; refine Za ?_; refine Zq ?_; refine CC.ret ?_; refine EE.thenR ?_; refine EE.ret _ rfl rfl ?_
      exact ⟨rfl, q⟩
    · have hpl := fun W => plain_any t W htl false (decide_eq_false (fun e => h ⟨by omega, hZ, by omega, e⟩)).symm
      clear h hZ
      refine X.fn Tryd.func15 rfl (n := 130) rfl rfl ?_
      refine Zr ?_
      refine LL.box [Value.int IntKind.i64 3, Value.int IntKind.i64 l, Value.int IntKind.i64 z, Value.slice x n c, Value.int IntKind.i64 r, Value.int IntKind.i64 p, strV t] rfl rfl rfl rfl rfl ?_
      intro Wd2 gd3 egd3 rd4 zd5 bd1
      replace q := Zu q bd1; refine Za ?_; refine Zq ?_; refine Zr ?_; refine Zf ?_; refine Zl rd4 ?_; refine Za ?_; refine Zq ?_; refine Zr ?_; refine Zm ?_; refine ZgeT ?_; refine Zm ?_; refine Zm ?_; refine ZleT ?_; refine Zp ?_; refine Zm ?_; refine Zf ?_; refine Zl rd4 ?_; refine ZgeT ?_; refine Zp ?_; refine Zm ?_; refine Zf ?_; refine Zl rd4 ?_; refine ZleT ?_; refine Zp ?_; refine Zm ?_; refine Zv rd4 ?_
      refine Zm ?_; refine ZeqF ?_; refine Zm ?_; refine ZeqF ?_; refine Zm ?_; refine ZeqT ?_
      refine LL.call (R.call rfl rfl rfl) rfl rfl rfl (hz0 _) ?_
      rintro e Wd7 ⟨rfl, bd6⟩
      refine ⟨_, rfl, ?_⟩; have zbd6 := bd6.size; replace rd4 := rd4.up bd6; replace bd1 := Zu bd1 bd6; replace q := Zu q bd6; refine Zp ?_; refine Za ?_; refine Zq ?_; refine Zc ?_; refine Zr ?_; refine Zm ?_; refine Zq ?_; refine CC.block ?_; refine Zr ?_; refine ZeqF ?_; refine Za ?_; refine Zq ?_; refine CC.no rfl ?_; refine Zr ?_; refine ZeqF ?_; refine Za ?_; refine Zq ?_; refine CC.no rfl ?_
      refine Zr ?_; refine ZeqF ?_; refine Za ?_; refine Zq ?_; refine CC.no rfl ?_; refine Zr ?_; refine ZeqT ?_; refine Za ?_; refine Zq ?_; refine CC.yes rfl ?_; refine CC.region ?_; refine Zm ?_; refine Zm ?_; refine Zf ?_; refine Zl rd4 ?_
      refine LL.val (R.lenS rfl rfl rfl rfl) rfl rfl rfl ?_
      refine ZgeT ?_; refine Zp ?_; refine Zm ?_; refine Zf ?_; refine Zl rd4 ?_
      refine LL.val (R.lenS rfl rfl rfl rfl) rfl rfl rfl ?_
      refine ZleT ?_; refine Zp ?_; refine Zm ?_; refine Zf ?_; refine Zl rd4 ?_
      refine LL.call (R.call rfl rfl rfl) rfl rfl rfl (hpl _) ?_
      rintro e W' ⟨rfl, rfl⟩
      refine ⟨_, rfl, ?_⟩; refine Zp ?_; refine Za ?_; refine LL.nil ?_; refine EE.inN ?_; refine EE.thenN ?_; refine Zc ?_; refine Zr ?_; refine Zm ?_; refine Zt ?_; refine Zq ?_; refine CC.yes rfl ?_; refine Zr ?_; refine Za ?_; refine Zq ?_; refine CC.ret ?_; refine EE.thenR ?_; refine EE.ret _ rfl rfl ?_
      exact ⟨rfl, q⟩
  · have hz0 := fun W => zero_F 3 l z x n c r p t false false true W hn hZ
    clear h hZ
    refine X.fn Tryd.func15 rfl (n := 130) rfl rfl ?_
    refine Zr ?_
    refine LL.box [Value.int IntKind.i64 3, Value.int IntKind.i64 l, Value.int IntKind.i64 z, Value.slice x n c, Value.int IntKind.i64 r, Value.int IntKind.i64 p, strV t] rfl rfl rfl rfl rfl ?_
    intro We2 ge3 ege3 re4 ze5 be1
    replace q := Zu q be1; refine Za ?_; refine Zq ?_; refine Zr ?_; refine Zf ?_; refine Zl re4 ?_; refine Za ?_; refine Zq ?_; refine Zr ?_; refine Zm ?_; refine ZgeT ?_; refine Zm ?_; refine Zm ?_; refine ZleT ?_; refine Zp ?_; refine Zm ?_; refine Zf ?_; refine Zl re4 ?_; refine ZgeT ?_; refine Zp ?_; refine Zm ?_; refine Zf ?_; refine Zl re4 ?_; refine ZleT ?_; refine Zp ?_; refine Zm ?_; refine Zv re4 ?_
    refine Zm ?_; refine ZeqF ?_; refine Zm ?_; refine ZeqF ?_; refine Zm ?_; refine ZeqT ?_
    refine LL.call (R.call rfl rfl rfl) rfl rfl rfl (hz0 _) ?_
    rintro e We7 ⟨rfl, be6⟩
    refine ⟨_, rfl, ?_⟩; have zbe6 := be6.size; replace re4 := re4.up be6; replace be1 := Zu be1 be6; replace q := Zu q be6; refine Zp ?_; refine Za ?_; refine Zq ?_; refine Zc ?_; refine Zr ?_; refine Zm ?_; refine Zq ?_; refine CC.block ?_; refine Zr ?_; refine ZeqF ?_; refine Za ?_; refine Zq ?_; refine CC.no rfl ?_; refine Zr ?_; refine ZeqF ?_; refine Za ?_; refine Zq ?_; refine CC.no rfl ?_; refine Zr ?_
    refine ZeqF ?_; refine Za ?_; refine Zq ?_; refine CC.no rfl ?_; refine Zr ?_; refine ZeqT ?_; refine Za ?_; refine Zq ?_; refine CC.yes rfl ?_; refine CC.region ?_; refine Zm ?_; refine Zm ?_; refine Zs ?_; refine Zs ?_; refine Zs ?_; refine Zs ?_; refine Zp ?_; refine Zm ?_; refine Zs ?_; refine Zs ?_; refine Zs ?_; refine Zs ?_; refine Zp ?_; refine Zm ?_; refine Zs ?_; refine Zs ?_; refine Zs ?_
    refine Zp ?_; refine Za ?_; refine LL.nil ?_; refine EE.inN ?_; refine EE.thenN ?_; refine Zc ?_; refine Zr ?_; refine Zm ?_; refine Zt ?_; refine Zq ?_; refine CC.yes rfl ?_; refine Zr ?_; refine Za ?_; refine Zq ?_; refine CC.ret ?_; refine EE.thenR ?_; refine EE.ret _ rfl rfl ?_
    exact ⟨rfl, q⟩
end Go.Proofs.YtnoefalgmekjbaaDoor

/- inode: what an inode's words tell. -/
namespace Go.Proofs.YtnoefalgmekjbaaDoor
set_option linter.unusedVariables false
set_option linter.unusedSimpArgs false
open Go.RowKit Go.Shelf
set_option maxRecDepth 100000
set_option maxHeartbeats 8000000
theorem fit_iff {z : Int} {m : List Ex} (h : vL m) : fitF z m ↔ ∀ i : Nat, i < 128 → ((plL m)[i]?).getD 0 = 0 ∨ 512 * (i : Int) < z := by
  have hz := vL_nz h
  constructor
  · intro hf i hi
    by_cases h0 : ((plL m)[i]?).getD 0 = 0
    · exact .inl h0
    · right
      have hm : ((i : Int), ((plL m)[i]?).getD 0) ∈ blS m := by rw [← hz, nz, mem_nzF]; exact ⟨i, hi, h0, rfl⟩
      obtain ⟨x, hx, hb⟩ := List.mem_flatMap.1 hm
      obtain ⟨j, hj, e⟩ := mem_blE.1 hb
      have := hf x hx
      have e1 : (i : Int) = x.1 + j := congrArg Prod.fst e
      omega
  · intro hf x hx
    have he := h.2.1 x hx
    unfold mayE at he
    have hb : (x.1 + ((x.2.2 - 1).toNat : Nat), x.2.1 + ((x.2.2 - 1).toNat : Nat)) ∈ blS m := List.mem_flatMap.2 ⟨x, hx, mem_blE.2 ⟨_, by omega, rfl⟩⟩
    rw [← hz, nz, mem_nzF] at hb
    obtain ⟨i, hi, h0, e⟩ := hb
    have e1 : x.1 + ((x.2.2 - 1).toNat : Nat) = (i : Int) := congrArg Prod.fst e
    rcases hf i hi with h | h
    · exact absurd h h0
    · omega
theorem inoW_1 (l z : Int) (m : List Ex) (r p : Int) (t : Bs) (h : vL m) : inoW 1 l z m r p t = (1 + 256 * l.toNat) :: z.toNat :: (wrdN m ++ List.replicate 4 0) := by
  unfold inoW layF putL hdN
  simp [wrdN_len h]
theorem inoW_2 (l z : Int) (m : List Ex) (r p : Int) (t : Bs) : inoW 2 l z m r p t = (2 + 256 * l.toNat) :: 0 :: r.toNat :: p.toNat :: List.replicate 12 0 := by
  unfold inoW layD putL hdN
  simp
theorem inoW_3 (l z : Int) (m : List Ex) (r p : Int) (t : Bs) (h : t.length ≤ 112) : inoW 3 l z m r p t = (3 + 256 * l.toNat) :: t.length :: (layL (nbL t) ++ List.replicate (14 - (t.length + 7) / 8) 0) := by
  unfold inoW layK putL hdN
  simp only [show ¬((3 : Int) = 1) by decide, show ¬((3 : Int) = 2) by decide, if_false, if_true, List.replicate, List.take_succ_cons, List.take_zero, List.drop_succ_cons, List.drop_zero, List.length_cons, List.length_nil, List.cons_append, List.nil_append, layL_len]
  rw [Nat.add_comm 2]
  show (3 + 256 * l.toNat) :: t.length :: (layL (nbL t) ++ List.drop ((t.length + 7) / 8) (List.replicate 14 0)) = _
  rw [List.drop_replicate]
theorem inoW_0 (l z : Int) (m : List Ex) (r p : Int) (t : Bs) : inoW 0 l z m r p t = List.replicate 16 0 := by
  unfold inoW hdN
  simp [List.replicate]
theorem wrdN_Z {m : List Ex} (h : ∀ x ∈ m, mayE x) : (wrdN m).map (fun n : Nat => (n : Int)) = wrdZ m := by
  unfold wrdN
  rw [List.map_map]
  conv => rhs; rw [← List.map_id (wrdZ m)]
  refine List.map_congr_left fun z hz => ?_
  obtain ⟨i, hi⟩ := List.mem_iff_getElem?.1 hz
  have := (wrdZ_bnd h i z hi).1
  simp only [Function.comp_apply, id_eq]
  exact Int.toNat_of_nonneg this
end Go.Proofs.YtnoefalgmekjbaaDoor

/- inode: the document's Check, for files. -/
namespace Go.Proofs.YtnoefalgmekjbaaDoor
set_option linter.unusedVariables false
set_option linter.unusedSimpArgs false
open Go.RowKit Go.Shelf
set_option maxRecDepth 100000
set_option maxHeartbeats 8000000
theorem rcheck_1L (l z : Int) (x : Option Addr) (n c : Nat) (m : List Ex) (w : World) (hv : ReadsT eE 3 w (.slice x n c) m) (hlen : m.length ≤ 1048576) (hl : 0 ≤ l ∧ l ≤ 65535) (hz : 0 ≤ z ∧ z ≤ 65536) (hvl : vL m) (rs : Int) (hR : (fitF z m → rs = 0) ∧ (¬fitF z m → rs = 240)) : Calls Tryd.prog 15 #[inV 1 l z (.slice x n c) 0 0 []] w fun e w' => e = .returned (.int .i64 rs) ∧ Below w.heap.size w w' := by
  have q := Below.refl w.heap.size w
  have hvF : ∀ X, Below w.heap.size w X → ReadsT eE 3 X (.slice x n c) m := fun X b => hv.up b
  have hn : n ≤ 9223372036854775807 := by
    have := hvl.1
    obtain ⟨_, _, e, _⟩ := hv
    cases e
    omega
  have hz0 := fun W => zero_T 1 l z x n c 0 0 [] true false false W hn ⟨.inl rfl, .inr ⟨rfl, rfl⟩, .inr rfl⟩
  have hfit := fit_iff (z := z) hvl
  have hpl := plL_len m
  clear hv
  refine X.fn Tryd.func15 rfl (n := 130) rfl rfl ?_
  refine Zr ?_
  refine LL.box [Value.int IntKind.i64 1, Value.int IntKind.i64 l, Value.int IntKind.i64 z, Value.slice x n c, Value.int IntKind.i64 0, Value.int IntKind.i64 0, strV []] rfl rfl rfl rfl rfl ?_
  intro W2 g3 eg3 r4 z5 b1
  replace q := Zu q b1; refine Za ?_; refine Zq ?_; refine Zr ?_; refine Zf ?_; refine Zl r4 ?_; refine Za ?_; refine Zq ?_; refine Zr ?_; refine Zm ?_; refine ZgeT ?_; refine Zm ?_; refine Zm ?_; refine ZleT ?_; refine Zp ?_; refine Zm ?_; refine Zf ?_; refine Zl r4 ?_; refine ZgeT ?_; refine Zp ?_; refine Zm ?_; refine Zf ?_; refine Zl r4 ?_; refine ZleT ?_; refine Zp ?_; refine Zm ?_; refine Zv r4 ?_
  refine Zm ?_; refine ZeqT ?_; refine Zm ?_; refine ZeqF ?_; refine Zm ?_; refine ZeqF ?_
  refine LL.call (R.call rfl rfl rfl) rfl rfl rfl (hz0 _) ?_
  rintro e W7 ⟨rfl, b6⟩
  refine ⟨_, rfl, ?_⟩; have zb6 := b6.size; replace r4 := r4.up b6; replace b1 := Zu b1 b6; replace q := Zu q b6; refine Zp ?_; refine Za ?_; refine Zq ?_; refine Zc ?_; refine Zr ?_; refine Zm ?_; refine Zq ?_; refine CC.block ?_; refine Zr ?_; refine ZeqF ?_; refine Za ?_; refine Zq ?_; refine CC.no rfl ?_; refine Zr ?_; refine ZeqT ?_; refine Za ?_; refine Zq ?_; refine CC.yes rfl ?_; refine Zr ?_
  refine Zf ?_; refine Zl r4 ?_
  refine LL.call (R.call rfl rfl rfl) rfl rfl rfl (rof_T m _ _ (hvF _ q) hlen hvl) ?_
  rintro e W10 ⟨rfl, b9⟩
  refine ⟨_, rfl, ?_⟩; have zb9 := b9.size; replace b6 := Zu b6 b9; replace r4 := r4.up b9; replace b1 := Zu b1 b9; replace q := Zu q b9; refine Zm ?_; refine Zx ?_; refine Zx ?_; have l12 := r4.lt
  refine LL.alloc (intsZ .i64 (List.replicate 128 0)) rfl rfl rfl rfl rfl ?_
  intro W14 g15 eg15 r16 z17 b13
  replace b9 := Zu b9 b13; replace b6 := Zu b6 b13; replace r4 := r4.up b13; replace b1 := Zu b1 b13; replace q := Zu q b13
  refine LL.storeAZ rfl rfl rfl rfl (by first | assumption | exact List.length_replicate | exact plL_len _ | exact plOf_len _ | simp) r16 (by first | (rw [List.length_map]; exact (by first | assumption | exact List.length_replicate | exact plL_len _ | exact plOf_len _ | simp)) | simp) rfl rfl ?_
  intro W19 r20 b18 z21
  have hlb18 := r16.lt
  clear r16
  replace b13 := Zg b13 b18; replace b9 := Zg b9 b18; replace b6 := Zg b6 b18; replace r4 := Zd r4 b18; replace b1 := Zg b1 b18; replace q := Zg q b18
  have r16 := r20
  clear r20
  refine Za ?_; refine Zq ?_; refine Zr ?_; refine Zm ?_; refine Zm ?_; refine Zm ?_; refine Zp ?_; refine Zm ?_; refine Zf ?_; refine Zl r4 ?_; refine ZgeT ?_; refine Zp ?_; refine Zm ?_; refine Zf ?_; refine Zl r4 ?_; refine ZleT ?_; refine Zp ?_; refine Za ?_; refine Zq ?_; refine Zr ?_; refine Za ?_; refine Zq ?_; refine CC.block ?_
  refine CC.loop (α := Nat × Bool) (fun s => [(1, .pointer (some ⟨g3, 0, none⟩)), (4, .bool s.2), (5, .pointer (some ⟨g15, 0, none⟩)), (7, .int .i64 (s.1 : Int))]) (fun s W => s.1 ≤ 128 ∧ Below w.heap.size w W ∧ RowL W g3 25 (inL 1 l z (.slice x n c) 0 0 []) ∧ RowL W g15 80 (intsZ .i64 (plL m)) ∧ (s.2 = true → ∀ j : Nat, j < s.1 → ((plL m)[j]?).getD 0 = 0 ∨ 512 * (j : Int) < z) ∧ (s.2 = false → ¬fitF z m)) (fun s => 129 - s.1) (0, true) ⟨rfl, rfl, rfl, rfl, trivial⟩ ⟨by show 0 ≤ 128; omega, q, r4, r16, fun _ j hj => absurd hj (Nat.not_lt_zero j), fun e => by cases e⟩ ?_
  clear q r4 r16 b1 b6 b9 b13 b18
  rintro ⟨i, b⟩ W ⟨hi, q, r4, r16, hT, hF⟩
  simp only at hi hT hF
  show CC none Tryd.prog _ 130 [] (sl [(1, .pointer (some ⟨g3, 0, none⟩)), (4, .bool b), (5, .pointer (some ⟨g15, 0, none⟩)), (7, .int .i64 (i : Int))]) _ W
  have yq := q.size
  cases b with
  | false =>
    have := hR.2 (hF rfl)
    subst this
    clear hR hF hT hfit
    refine Zc ?_; refine Zr ?_; refine Zm ?_
    refine LL.vsplit (fun h => R.ltT rfl rfl rfl h) (fun h => R.ltF rfl rfl rfl (Int.not_lt.1 h)) rfl rfl rfl (fun ca1 => ?_) (fun ca1 => ?_)
    refine Zm ?_; refine Zm ?_; refine Zp ?_; refine Zq ?_; refine CC.no rfl ?_; refine CC.exit ?_; refine EE.thenX ?_; refine EE.thenX ?_; refine EE.inX ?_; refine EE.inN ?_; refine EE.thenN ?_; refine Zc ?_; refine Zr ?_; refine Zm ?_; refine Zt ?_; refine Zq ?_; refine CC.yes rfl ?_; refine Zr ?_; refine Za ?_; refine Zq ?_; refine CC.ret ?_; refine EE.thenR ?_; refine EE.ret _ rfl rfl ?_
    exact ⟨rfl, q⟩
    refine Zm ?_; refine Zs ?_; refine Zp ?_; refine Zq ?_; refine CC.no rfl ?_; refine CC.exit ?_; refine EE.thenX ?_; refine EE.thenX ?_; refine EE.inX ?_; refine EE.inN ?_; refine EE.thenN ?_; refine Zc ?_; refine Zr ?_; refine Zm ?_; refine Zt ?_; refine Zq ?_; refine CC.yes rfl ?_; refine Zr ?_; refine Za ?_; refine Zq ?_; refine CC.ret ?_; refine EE.thenR ?_; refine EE.ret _ rfl rfl ?_
    exact ⟨rfl, q⟩
  | true =>
    by_cases hlt : i < 128
    case neg =>
      obtain rfl : i = 128 := by omega
      have := hR.1 (hfit.2 (hT rfl))
      subst this
      clear hR hF hT hfit
      refine Zc ?_; refine Zr ?_; refine Zm ?_; refine ZltF ?_; refine Zm ?_; refine Zs ?_; refine Zp ?_; refine Zq ?_; refine CC.no rfl ?_; refine CC.exit ?_; refine EE.thenX ?_; refine EE.thenX ?_; refine EE.inX ?_; refine EE.inN ?_; refine EE.thenN ?_; refine Zc ?_; refine Zr ?_; refine Zm ?_; refine Zt ?_; refine Zq ?_; refine CC.no rfl ?_; refine CC.skip ?_; refine EE.thenN ?_; refine Zr ?_; refine Za ?_
      refine Zq ?_; refine CC.ret ?_; refine EE.ret _ rfl rfl ?_
      exact ⟨rfl, q⟩
    obtain ⟨y, hy⟩ : ∃ y, (plL m)[i]? = some y := ⟨_, List.getElem?_eq_getElem (by omega)⟩
    have c1 : W.cell? ⟨g15, 0 + i, none⟩ = some (.int .i64 y) := RowL.cell r16 (by rw [show 0 + i = i by omega]; simp [hy])
    have hT' := hT rfl
    clear hT hF
    by_cases h0 : y = 0
    · have hT2 : ∀ j : Nat, j < i + 1 → ((plL m)[j]?).getD 0 = 0 ∨ 512 * (j : Int) < z := fun j hj => by
        rcases (by omega : j < i ∨ j = i) with h | rfl
        · exact hT' j h
        · left; rw [hy]; exact h0
      clear hT' hR hfit
      refine Zc ?_; refine Zr ?_; refine Zm ?_; refine ZltT ?_; refine Zm ?_; refine Zm ?_; refine Zp ?_; refine Zq ?_; refine CC.yes rfl ?_; refine CC.skip ?_; refine EE.thenN ?_; refine Zc ?_; refine CC.block ?_; refine CC.region ?_; refine Zm ?_
      refine LL.val (R.index rfl rfl rfl (I.ixA1 rfl (by omega))) rfl rfl rfl ?_
      refine Zk ?_; refine ZeqT ?_; refine Zm ?_; refine Zs ?_; refine Zs ?_; refine Zs ?_; refine Zs ?_; refine Zs ?_; refine Zp ?_; refine Za ?_; refine LL.nil ?_; refine EE.inN ?_; refine EE.thenN ?_; refine CC.region ?_; refine Zm ?_
      refine LL.val (R.addNc rfl rfl rfl rfl (by omega)) rfl rfl rfl ?_
      refine Za ?_; refine LL.nil ?_
      exact EE.round (i + 1, true) ⟨rfl, rfl, rfl, rfl, trivial⟩ ⟨by show i + 1 ≤ 128; omega, q, r4, r16, fun _ => hT2, fun e => by cases e⟩ (by show 129 - (i + 1) < 129 - i; omega)
    · by_cases hs : 512 * (i : Int) < z
      · have hT2 : ∀ j : Nat, j < i + 1 → ((plL m)[j]?).getD 0 = 0 ∨ 512 * (j : Int) < z := fun j hj => by
          rcases (by omega : j < i ∨ j = i) with h | rfl
          · exact hT' j h
          · exact .inr hs
        clear hT' hR hfit
        refine Zc ?_; refine Zr ?_; refine Zm ?_; refine ZltT ?_; refine Zm ?_; refine Zm ?_; refine Zp ?_; refine Zq ?_; refine CC.yes rfl ?_; refine CC.skip ?_; refine EE.thenN ?_; refine Zc ?_; refine CC.block ?_; refine CC.region ?_; refine Zm ?_
        refine LL.val (R.index rfl rfl rfl (I.ixA1 rfl (by omega))) rfl rfl rfl ?_
        refine Zk ?_; refine ZeqF ?_; refine Zm ?_; refine Zm ?_
        refine LL.val (R.mulcN rfl rfl rfl rfl (by omega)) rfl rfl rfl ?_
        refine Zf ?_; refine Zl r4 ?_; refine ZltT ?_; refine Zp ?_; refine Za ?_; refine LL.nil ?_; refine EE.inN ?_; refine EE.thenN ?_; refine CC.region ?_; refine Zm ?_
        refine LL.val (R.addNc rfl rfl rfl rfl (by omega)) rfl rfl rfl ?_
        refine Za ?_; refine LL.nil ?_
        exact EE.round (i + 1, true) ⟨rfl, rfl, rfl, rfl, trivial⟩ ⟨by show i + 1 ≤ 128; omega, q, r4, r16, fun _ => hT2, fun e => by cases e⟩ (by show 129 - (i + 1) < 129 - i; omega)
      · have hno : ¬fitF z m := fun hf => by
          rcases hfit.1 hf i hlt with h | h
          · rw [hy] at h; exact h0 h
          · exact hs h
        clear hT' hR hfit
        refine Zc ?_; refine Zr ?_; refine Zm ?_; refine ZltT ?_; refine Zm ?_; refine Zm ?_; refine Zp ?_; refine Zq ?_; refine CC.yes rfl ?_; refine CC.skip ?_; refine EE.thenN ?_; refine Zc ?_; refine CC.block ?_; refine CC.region ?_; refine Zm ?_
        refine LL.val (R.index rfl rfl rfl (I.ixA1 rfl (by omega))) rfl rfl rfl ?_
        refine Zk ?_; refine ZeqF ?_; refine Zm ?_; refine Zm ?_
        refine LL.val (R.mulcN rfl rfl rfl rfl (by omega)) rfl rfl rfl ?_
        refine Zf ?_; refine Zl r4 ?_; refine ZltF ?_; refine Zp ?_; refine Za ?_; refine LL.nil ?_; refine EE.inN ?_; refine EE.thenN ?_; refine CC.region ?_; refine Zm ?_
        refine LL.val (R.addNc rfl rfl rfl rfl (by omega)) rfl rfl rfl ?_
        refine Za ?_; refine LL.nil ?_
        exact EE.round (i + 1, false) ⟨rfl, rfl, rfl, rfl, trivial⟩ ⟨by show i + 1 ≤ 128; omega, q, r4, r16, fun e => by (cases e), fun _ => hno⟩ (by show 129 - (i + 1) < 129 - i; omega)
end Go.Proofs.YtnoefalgmekjbaaDoor

/- inode: the document's Check, for files, where it says no; for all inodes (written by gen24.py). -/
namespace Go.Proofs.YtnoefalgmekjbaaDoor
set_option linter.unusedVariables false
set_option linter.unusedSimpArgs false
open Go.RowKit Go.Shelf
set_option maxRecDepth 100000
set_option maxHeartbeats 8000000
theorem rof_mb (l : List Ex) (v : Value) (w : World) (hv : ReadsT eE 3 w v l) (hlen : l.length ≤ 1048576) : Calls Tryd.prog 35 #[v] w fun e w' => ∃ (ms : List Int) (b : Bool), e = .returned (.tuple #[plV ms, .bool b]) ∧ ms.length = 128 ∧ Below w.heap.size w w' :=
  (rof_any l v w hv hlen).mono fun e w' ⟨⟨ms, b, he, _, _, hl⟩, hw⟩ => ⟨ms, b, he, hl, hw⟩
theorem rof_mf (l : List Ex) (v : Value) (w : World) (hv : ReadsT eE 3 w v l) (hlen : l.length ≤ 1048576) (h : ¬vL l) : Calls Tryd.prog 35 #[v] w fun e w' => ∃ (ms : List Int) (b : Bool), e = .returned (.tuple #[plV ms, .bool false]) ∧ ms.length = 128 ∧ Below w.heap.size w w' :=
  (rof_F l v w hv hlen h).mono fun e w' ⟨ms, he, hl, hw⟩ => ⟨ms, false, he, hl, hw⟩
theorem rof_mt (l : List Ex) (v : Value) (w : World) (hv : ReadsT eE 3 w v l) (hlen : l.length ≤ 1048576) (h : vL l) : Calls Tryd.prog 35 #[v] w fun e w' => ∃ (ms : List Int) (b : Bool), e = .returned (.tuple #[plV ms, .bool true]) ∧ ms.length = 128 ∧ Below w.heap.size w w' :=
  (rof_T l v w hv hlen h).mono fun e w' ⟨he, hw⟩ => ⟨plL l, true, he, plL_len l, hw⟩
theorem rcheck_1F (l z : Int) (x : Option Addr) (n c : Nat) (m : List Ex) (r p : Int) (t : Bs) (w : World) (hv : ReadsT eE 3 w (.slice x n c) m) (hlen : m.length ≤ 1048576) (h : ¬((0 ≤ l ∧ l ≤ 65535) ∧ zeroOk true false false z n r p t ∧ okF z m)) : Calls Tryd.prog 15 #[inV 1 l z (.slice x n c) r p t] w fun e w' => e = .returned (.int .i64 240) ∧ Below w.heap.size w w' := by
  have q := Below.refl w.heap.size w
  have hvF : ∀ X, Below w.heap.size w X → ReadsT eE 3 X (.slice x n c) m := fun X b => hv.up b
  have hn : n ≤ 9223372036854775807 := by
    have hl := hv
    obtain ⟨_, _, e, _⟩ := hl
    cases e
    omega
  by_cases hA : l < 0
  · have hof := fun (W : World) (hv : ReadsT eE 3 W (.slice x n c) m) => rof_mb m _ W hv hlen
    clear h hv
    refine X.fn Tryd.func15 rfl (n := 130) rfl rfl ?_
    refine Zr ?_
    refine LL.box [Value.int IntKind.i64 1, Value.int IntKind.i64 l, Value.int IntKind.i64 z, Value.slice x n c, Value.int IntKind.i64 r, Value.int IntKind.i64 p, strV t] rfl rfl rfl rfl rfl ?_
    intro W2 g3 eg3 r4 z5 b1
    replace q := Zu q b1; refine Za ?_; refine Zq ?_; refine Zr ?_; refine Zf ?_; refine Zl r4 ?_; refine Za ?_; refine Zq ?_; refine Zr ?_; refine Zm ?_; refine ZgeT ?_; refine Zm ?_; refine Zm ?_; refine ZleT ?_; refine Zp ?_; refine Zm ?_; refine Zf ?_; refine Zl r4 ?_; refine ZgeF ?_; refine Zp ?_; refine Zm ?_; refine Zs ?_; refine Zs ?_; refine Zs ?_; refine Zp ?_; refine Zm ?_; refine Zs ?_
    refine Zs ?_; refine Zs ?_; refine Zs ?_; refine Zs ?_; refine Zs ?_; refine Zs ?_; refine Zs ?_; refine Zp ?_; refine Za ?_; refine Zq ?_; refine Zc ?_; refine Zr ?_; refine Zm ?_; refine Zq ?_; refine CC.block ?_; refine Zr ?_; refine ZeqF ?_; refine Za ?_; refine Zq ?_; refine CC.no rfl ?_; refine Zr ?_; refine ZeqT ?_; refine Za ?_; refine Zq ?_; refine CC.yes rfl ?_; refine Zr ?_; refine Zf ?_
    refine Zl r4 ?_
    refine LL.call (R.call rfl rfl rfl) rfl rfl rfl (hof _ (hvF _ q)) ?_
    rintro e W7 ⟨v9, k10, rfl, l8, b6⟩
    refine ⟨_, rfl, ?_⟩; have zb6 := b6.size; replace r4 := r4.up b6; replace b1 := Zu b1 b6; replace q := Zu q b6; refine Zm ?_; refine Zx ?_; refine Zx ?_; have l12 := r4.lt
    refine LL.alloc (intsZ .i64 (List.replicate 128 0)) rfl rfl rfl rfl rfl ?_
    intro W14 g15 eg15 r16 z17 b13
    replace b6 := Zu b6 b13; replace r4 := r4.up b13; replace b1 := Zu b1 b13; replace q := Zu q b13
    refine LL.storeAZ rfl rfl rfl rfl (by first | assumption | exact List.length_replicate | exact plL_len _ | exact plOf_len _ | simp) r16 (by first | (rw [List.length_map]; exact (by first | assumption | exact List.length_replicate | exact plL_len _ | exact plOf_len _ | simp)) | simp) rfl rfl ?_
    intro W19 r20 b18 z21
    have hlb18 := r16.lt
    clear r16
    replace b13 := Zg b13 b18; replace b6 := Zg b6 b18; replace r4 := Zd r4 b18; replace b1 := Zg b1 b18; replace q := Zg q b18
    have r16 := r20
    clear r20
    refine Za ?_; refine Zq ?_; refine Zr ?_; refine Zm ?_; refine Zm ?_; refine Zs ?_; refine Zp ?_; refine Zm ?_; refine Zs ?_; refine Zs ?_; refine Zs ?_; refine Zp ?_; refine Zm ?_; refine Zs ?_; refine Zs ?_; refine Zs ?_; refine Zp ?_; refine Za ?_; refine Zq ?_; refine Zr ?_; refine Za ?_; refine Zq ?_; refine CC.block ?_
    refine CC.loop (α := Unit) (fun s => [(1, .pointer (some ⟨g3, 0, none⟩)), (4, .bool false), (5, .pointer (some ⟨g15, 0, none⟩)), (7, .int .i64 0)]) (fun s W => Below w.heap.size w W) (fun s => 0) () ⟨rfl, rfl, rfl, rfl, trivial⟩ q ?_
    rintro _ W q
    show CC none Tryd.prog _ 130 [] (sl [(1, .pointer (some ⟨g3, 0, none⟩)), (4, .bool false), (5, .pointer (some ⟨g15, 0, none⟩)), (7, .int .i64 0)]) _ W
    refine Zc ?_; refine Zr ?_; refine Zm ?_; refine ZltT ?_; refine Zm ?_; refine Zm ?_; refine Zp ?_; refine Zq ?_; refine CC.no rfl ?_; refine CC.exit ?_; refine EE.thenX ?_; refine EE.thenX ?_; refine EE.inX ?_; refine EE.inN ?_; refine EE.thenN ?_; refine Zc ?_; refine Zr ?_; refine Zm ?_; refine Zt ?_; refine Zq ?_; refine CC.yes rfl ?_; refine Zr ?_; refine Za ?_; refine Zq ?_; refine CC.ret ?_
    refine EE.thenR ?_; refine EE.ret _ rfl rfl ?_
    exact ⟨rfl, q⟩
  by_cases hB : 65535 < l
  · have hof := fun (W : World) (hv : ReadsT eE 3 W (.slice x n c) m) => rof_mb m _ W hv hlen
    clear h hv
    refine X.fn Tryd.func15 rfl (n := 130) rfl rfl ?_
    refine Zr ?_
    refine LL.box [Value.int IntKind.i64 1, Value.int IntKind.i64 l, Value.int IntKind.i64 z, Value.slice x n c, Value.int IntKind.i64 r, Value.int IntKind.i64 p, strV t] rfl rfl rfl rfl rfl ?_
    intro Wb2 gb3 egb3 rb4 zb5 bb1
    replace q := Zu q bb1; refine Za ?_; refine Zq ?_; refine Zr ?_; refine Zf ?_; refine Zl rb4 ?_; refine Za ?_; refine Zq ?_; refine Zr ?_; refine Zm ?_; refine ZgeT ?_; refine Zm ?_; refine Zm ?_; refine ZleT ?_; refine Zp ?_; refine Zm ?_; refine Zf ?_; refine Zl rb4 ?_; refine ZgeT ?_; refine Zp ?_; refine Zm ?_; refine Zf ?_; refine Zl rb4 ?_; refine ZleF ?_; refine Zp ?_; refine Zm ?_; refine Zs ?_
    refine Zs ?_; refine Zs ?_; refine Zs ?_; refine Zs ?_; refine Zs ?_; refine Zs ?_; refine Zs ?_; refine Zp ?_; refine Za ?_; refine Zq ?_; refine Zc ?_; refine Zr ?_; refine Zm ?_; refine Zq ?_; refine CC.block ?_; refine Zr ?_; refine ZeqF ?_; refine Za ?_; refine Zq ?_; refine CC.no rfl ?_; refine Zr ?_; refine ZeqT ?_; refine Za ?_; refine Zq ?_; refine CC.yes rfl ?_; refine Zr ?_; refine Zf ?_
    refine Zl rb4 ?_
    refine LL.call (R.call rfl rfl rfl) rfl rfl rfl (hof _ (hvF _ q)) ?_
    rintro e Wb7 ⟨vb9, kb10, rfl, lb8, bb6⟩
    refine ⟨_, rfl, ?_⟩; have zbb6 := bb6.size; replace rb4 := rb4.up bb6; replace bb1 := Zu bb1 bb6; replace q := Zu q bb6; refine Zm ?_; refine Zx ?_; refine Zx ?_; have lb12 := rb4.lt
    refine LL.alloc (intsZ .i64 (List.replicate 128 0)) rfl rfl rfl rfl rfl ?_
    intro Wb14 gb15 egb15 rb16 zb17 bb13
    replace bb6 := Zu bb6 bb13; replace rb4 := rb4.up bb13; replace bb1 := Zu bb1 bb13; replace q := Zu q bb13
    refine LL.storeAZ rfl rfl rfl rfl (by first | assumption | exact List.length_replicate | exact plL_len _ | exact plOf_len _ | simp) rb16 (by first | (rw [List.length_map]; exact (by first | assumption | exact List.length_replicate | exact plL_len _ | exact plOf_len _ | simp)) | simp) rfl rfl ?_
    intro Wb19 rb20 bb18 zb21
    have hlbb18 := rb16.lt
    clear rb16
    replace bb13 := Zg bb13 bb18; replace bb6 := Zg bb6 bb18; replace rb4 := Zd rb4 bb18; replace bb1 := Zg bb1 bb18; replace q := Zg q bb18
    have rb16 := rb20
    clear rb20
    refine Za ?_; refine Zq ?_; refine Zr ?_; refine Zm ?_; refine Zm ?_; refine Zs ?_; refine Zp ?_; refine Zm ?_; refine Zs ?_; refine Zs ?_; refine Zs ?_; refine Zp ?_; refine Zm ?_; refine Zs ?_; refine Zs ?_; refine Zs ?_; refine Zp ?_; refine Za ?_; refine Zq ?_; refine Zr ?_; refine Za ?_; refine Zq ?_; refine CC.block ?_
    refine CC.loop (α := Unit) (fun s => [(1, .pointer (some ⟨gb3, 0, none⟩)), (4, .bool false), (5, .pointer (some ⟨gb15, 0, none⟩)), (7, .int .i64 0)]) (fun s W => Below w.heap.size w W) (fun s => 0) () ⟨rfl, rfl, rfl, rfl, trivial⟩ q ?_
    rintro _ W q
    show CC none Tryd.prog _ 130 [] (sl [(1, .pointer (some ⟨gb3, 0, none⟩)), (4, .bool false), (5, .pointer (some ⟨gb15, 0, none⟩)), (7, .int .i64 0)]) _ W
    refine Zc ?_; refine Zr ?_; refine Zm ?_; refine ZltT ?_; refine Zm ?_; refine Zm ?_; refine Zp ?_; refine Zq ?_; refine CC.no rfl ?_; refine CC.exit ?_; refine EE.thenX ?_; refine EE.thenX ?_; refine EE.inX ?_; refine EE.inN ?_; refine EE.thenN ?_; refine Zc ?_; refine Zr ?_; refine Zm ?_; refine Zt ?_; refine Zq ?_; refine CC.yes rfl ?_; refine Zr ?_; refine Za ?_; refine Zq ?_; refine CC.ret ?_
    refine EE.thenR ?_; refine EE.ret _ rfl rfl ?_
    exact ⟨rfl, q⟩
  by_cases hZ : zeroOk true false false z n r p t
  case neg =>
    have hz0 := fun W => zero_F 1 l z x n c r p t true false false W hn hZ
    have hof := fun (W : World) (hv : ReadsT eE 3 W (.slice x n c) m) => rof_mb m _ W hv hlen
    clear h hZ hv
    refine X.fn Tryd.func15 rfl (n := 130) rfl rfl ?_
    refine Zr ?_
    refine LL.box [Value.int IntKind.i64 1, Value.int IntKind.i64 l, Value.int IntKind.i64 z, Value.slice x n c, Value.int IntKind.i64 r, Value.int IntKind.i64 p, strV t] rfl rfl rfl rfl rfl ?_
    intro Wd2 gd3 egd3 rd4 zd5 bd1
    replace q := Zu q bd1; refine Za ?_; refine Zq ?_; refine Zr ?_; refine Zf ?_; refine Zl rd4 ?_; refine Za ?_; refine Zq ?_; refine Zr ?_; refine Zm ?_; refine ZgeT ?_; refine Zm ?_; refine Zm ?_; refine ZleT ?_; refine Zp ?_; refine Zm ?_; refine Zf ?_; refine Zl rd4 ?_; refine ZgeT ?_; refine Zp ?_; refine Zm ?_; refine Zf ?_; refine Zl rd4 ?_; refine ZleT ?_; refine Zp ?_; refine Zm ?_; refine Zv rd4 ?_
    refine Zm ?_; refine ZeqT ?_; refine Zm ?_; refine ZeqF ?_; refine Zm ?_; refine ZeqF ?_
    refine LL.call (R.call rfl rfl rfl) rfl rfl rfl (hz0 _) ?_
    rintro e Wd7 ⟨rfl, bd6⟩
    refine ⟨_, rfl, ?_⟩; have zbd6 := bd6.size; replace rd4 := rd4.up bd6; replace bd1 := Zu bd1 bd6; replace q := Zu q bd6; refine Zp ?_; refine Za ?_; refine Zq ?_; refine Zc ?_; refine Zr ?_; refine Zm ?_; refine Zq ?_; refine CC.block ?_; refine Zr ?_; refine ZeqF ?_; refine Za ?_; refine Zq ?_; refine CC.no rfl ?_; refine Zr ?_; refine ZeqT ?_; refine Za ?_; refine Zq ?_; refine CC.yes rfl ?_
    refine Zr ?_; refine Zf ?_; refine Zl rd4 ?_
    refine LL.call (R.call rfl rfl rfl) rfl rfl rfl (hof _ (hvF _ q)) ?_
    rintro e Wd10 ⟨vd12, kd13, rfl, ld11, bd9⟩
    refine ⟨_, rfl, ?_⟩; have zbd9 := bd9.size; replace bd6 := Zu bd6 bd9; replace rd4 := rd4.up bd9; replace bd1 := Zu bd1 bd9; replace q := Zu q bd9; refine Zm ?_; refine Zx ?_; refine Zx ?_; have ld15 := rd4.lt
    refine LL.alloc (intsZ .i64 (List.replicate 128 0)) rfl rfl rfl rfl rfl ?_
    intro Wd17 gd18 egd18 rd19 zd20 bd16
    replace bd9 := Zu bd9 bd16; replace bd6 := Zu bd6 bd16; replace rd4 := rd4.up bd16; replace bd1 := Zu bd1 bd16; replace q := Zu q bd16
    refine LL.storeAZ rfl rfl rfl rfl (by first | assumption | exact List.length_replicate | exact plL_len _ | exact plOf_len _ | simp) rd19 (by first | (rw [List.length_map]; exact (by first | assumption | exact List.length_replicate | exact plL_len _ | exact plOf_len _ | simp)) | simp) rfl rfl ?_
    intro Wd22 rd23 bd21 zd24
    have hlbd21 := rd19.lt
    clear rd19
    replace bd16 := Zg bd16 bd21; replace bd9 := Zg bd9 bd21; replace bd6 := Zg bd6 bd21; replace rd4 := Zd rd4 bd21; replace bd1 := Zg bd1 bd21; replace q := Zg q bd21
    have rd19 := rd23
    clear rd23
    refine Za ?_; refine Zq ?_; refine Zr ?_; refine Zm ?_; refine Zm ?_; refine Zs ?_; refine Zp ?_; refine Zm ?_; refine Zs ?_; refine Zs ?_; refine Zs ?_; refine Zp ?_; refine Zm ?_; refine Zs ?_; refine Zs ?_; refine Zs ?_; refine Zp ?_; refine Za ?_; refine Zq ?_; refine Zr ?_; refine Za ?_; refine Zq ?_; refine CC.block ?_
    refine CC.loop (α := Unit) (fun s => [(1, .pointer (some ⟨gd3, 0, none⟩)), (4, .bool false), (5, .pointer (some ⟨gd18, 0, none⟩)), (7, .int .i64 0)]) (fun s W => Below w.heap.size w W) (fun s => 0) () ⟨rfl, rfl, rfl, rfl, trivial⟩ q ?_
    rintro _ W q
    show CC none Tryd.prog _ 130 [] (sl [(1, .pointer (some ⟨gd3, 0, none⟩)), (4, .bool false), (5, .pointer (some ⟨gd18, 0, none⟩)), (7, .int .i64 0)]) _ W
    refine Zc ?_; refine Zr ?_; refine Zm ?_; refine ZltT ?_; refine Zm ?_; refine Zm ?_; refine Zp ?_; refine Zq ?_; refine CC.no rfl ?_; refine CC.exit ?_; refine EE.thenX ?_; refine EE.thenX ?_; refine EE.inX ?_; refine EE.inN ?_; refine EE.thenN ?_; refine Zc ?_; refine Zr ?_; refine Zm ?_; refine Zt ?_; refine Zq ?_; refine CC.yes rfl ?_; refine Zr ?_; refine Za ?_; refine Zq ?_; refine CC.ret ?_
    refine EE.thenR ?_; refine EE.ret _ rfl rfl ?_
    exact ⟨rfl, q⟩
  by_cases hV : vL m
  case neg =>
    have hz0 := fun W => zero_T 1 l z x n c r p t true false false W hn hZ
    have hof := fun (W : World) (hv : ReadsT eE 3 W (.slice x n c) m) => rof_mf m _ W hv hlen hV
    clear h hZ hv
    refine X.fn Tryd.func15 rfl (n := 130) rfl rfl ?_
    refine Zr ?_
    refine LL.box [Value.int IntKind.i64 1, Value.int IntKind.i64 l, Value.int IntKind.i64 z, Value.slice x n c, Value.int IntKind.i64 r, Value.int IntKind.i64 p, strV t] rfl rfl rfl rfl rfl ?_
    intro Wf2 gf3 egf3 rf4 zf5 bf1
    replace q := Zu q bf1; refine Za ?_; refine Zq ?_; refine Zr ?_; refine Zf ?_; refine Zl rf4 ?_; refine Za ?_; refine Zq ?_; refine Zr ?_; refine Zm ?_; refine ZgeT ?_; refine Zm ?_; refine Zm ?_; refine ZleT ?_; refine Zp ?_; refine Zm ?_; refine Zf ?_; refine Zl rf4 ?_; refine ZgeT ?_; refine Zp ?_; refine Zm ?_; refine Zf ?_; refine Zl rf4 ?_; refine ZleT ?_; refine Zp ?_; refine Zm ?_; refine Zv rf4 ?_
    refine Zm ?_; refine ZeqT ?_; refine Zm ?_; refine ZeqF ?_; refine Zm ?_; refine ZeqF ?_
    refine LL.call (R.call rfl rfl rfl) rfl rfl rfl (hz0 _) ?_
    rintro e Wf7 ⟨rfl, bf6⟩
    refine ⟨_, rfl, ?_⟩; have zbf6 := bf6.size; replace rf4 := rf4.up bf6; replace bf1 := Zu bf1 bf6; replace q := Zu q bf6; refine Zp ?_; refine Za ?_; refine Zq ?_; refine Zc ?_; refine Zr ?_; refine Zm ?_; refine Zq ?_; refine CC.block ?_; refine Zr ?_; refine ZeqF ?_; refine Za ?_; refine Zq ?_; refine CC.no rfl ?_; refine Zr ?_; refine ZeqT ?_; refine Za ?_; refine Zq ?_; refine CC.yes rfl ?_
    refine Zr ?_; refine Zf ?_; refine Zl rf4 ?_
    refine LL.call (R.call rfl rfl rfl) rfl rfl rfl (hof _ (hvF _ q)) ?_
    rintro e Wf10 ⟨vf12, kf13, rfl, lf11, bf9⟩
    refine ⟨_, rfl, ?_⟩; have zbf9 := bf9.size; replace bf6 := Zu bf6 bf9; replace rf4 := rf4.up bf9; replace bf1 := Zu bf1 bf9; replace q := Zu q bf9; refine Zm ?_; refine Zx ?_; refine Zx ?_; have lf15 := rf4.lt
    refine LL.alloc (intsZ .i64 (List.replicate 128 0)) rfl rfl rfl rfl rfl ?_
    intro Wf17 gf18 egf18 rf19 zf20 bf16
    replace bf9 := Zu bf9 bf16; replace bf6 := Zu bf6 bf16; replace rf4 := rf4.up bf16; replace bf1 := Zu bf1 bf16; replace q := Zu q bf16
    refine LL.storeAZ rfl rfl rfl rfl (by first | assumption | exact List.length_replicate | exact plL_len _ | exact plOf_len _ | simp) rf19 (by first | (rw [List.length_map]; exact (by first | assumption | exact List.length_replicate | exact plL_len _ | exact plOf_len _ | simp)) | simp) rfl rfl ?_
    intro Wf22 rf23 bf21 zf24
    have hlbf21 := rf19.lt
    clear rf19
    replace bf16 := Zg bf16 bf21; replace bf9 := Zg bf9 bf21; replace bf6 := Zg bf6 bf21; replace rf4 := Zd rf4 bf21; replace bf1 := Zg bf1 bf21; replace q := Zg q bf21
    have rf19 := rf23
    clear rf23
    refine Za ?_; refine Zq ?_; refine Zr ?_; refine Zm ?_; refine Zm ?_; refine Zm ?_; refine Zp ?_; refine Zm ?_; refine Zs ?_; refine Zs ?_; refine Zs ?_; refine Zp ?_; refine Zm ?_; refine Zs ?_; refine Zs ?_; refine Zs ?_; refine Zp ?_; refine Za ?_; refine Zq ?_; refine Zr ?_; refine Za ?_; refine Zq ?_; refine CC.block ?_
    refine CC.loop (α := Unit) (fun s => [(1, .pointer (some ⟨gf3, 0, none⟩)), (4, .bool false), (5, .pointer (some ⟨gf18, 0, none⟩)), (7, .int .i64 0)]) (fun s W => Below w.heap.size w W) (fun s => 0) () ⟨rfl, rfl, rfl, rfl, trivial⟩ q ?_
    rintro _ W q
    show CC none Tryd.prog _ 130 [] (sl [(1, .pointer (some ⟨gf3, 0, none⟩)), (4, .bool false), (5, .pointer (some ⟨gf18, 0, none⟩)), (7, .int .i64 0)]) _ W
    refine Zc ?_; refine Zr ?_; refine Zm ?_; refine ZltT ?_; refine Zm ?_; refine Zm ?_; refine Zp ?_; refine Zq ?_; refine CC.no rfl ?_; refine CC.exit ?_; refine EE.thenX ?_; refine EE.thenX ?_; refine EE.inX ?_; refine EE.inN ?_; refine EE.thenN ?_; refine Zc ?_; refine Zr ?_; refine Zm ?_; refine Zt ?_; refine Zq ?_; refine CC.yes rfl ?_; refine Zr ?_; refine Za ?_; refine Zq ?_; refine CC.ret ?_
    refine EE.thenR ?_; refine EE.ret _ rfl rfl ?_
    exact ⟨rfl, q⟩
  by_cases hC : z < 0
  · have hz0 := fun W => zero_T 1 l z x n c r p t true false false W hn hZ
    have hof := fun (W : World) (hv : ReadsT eE 3 W (.slice x n c) m) => rof_mt m _ W hv hlen hV
    clear h hZ hv
    refine X.fn Tryd.func15 rfl (n := 130) rfl rfl ?_
    refine Zr ?_
    refine LL.box [Value.int IntKind.i64 1, Value.int IntKind.i64 l, Value.int IntKind.i64 z, Value.slice x n c, Value.int IntKind.i64 r, Value.int IntKind.i64 p, strV t] rfl rfl rfl rfl rfl ?_
    intro Wh2 gh3 egh3 rh4 zh5 bh1
    replace q := Zu q bh1; refine Za ?_; refine Zq ?_; refine Zr ?_; refine Zf ?_; refine Zl rh4 ?_; refine Za ?_; refine Zq ?_; refine Zr ?_; refine Zm ?_; refine ZgeT ?_; refine Zm ?_; refine Zm ?_; refine ZleT ?_; refine Zp ?_; refine Zm ?_; refine Zf ?_; refine Zl rh4 ?_; refine ZgeT ?_; refine Zp ?_; refine Zm ?_; refine Zf ?_; refine Zl rh4 ?_; refine ZleT ?_; refine Zp ?_; refine Zm ?_; refine Zv rh4 ?_
    refine Zm ?_; refine ZeqT ?_; refine Zm ?_; refine ZeqF ?_; refine Zm ?_; refine ZeqF ?_
    refine LL.call (R.call rfl rfl rfl) rfl rfl rfl (hz0 _) ?_
    rintro e Wh7 ⟨rfl, bh6⟩
    refine ⟨_, rfl, ?_⟩; have zbh6 := bh6.size; replace rh4 := rh4.up bh6; replace bh1 := Zu bh1 bh6; replace q := Zu q bh6; refine Zp ?_; refine Za ?_; refine Zq ?_; refine Zc ?_; refine Zr ?_; refine Zm ?_; refine Zq ?_; refine CC.block ?_; refine Zr ?_; refine ZeqF ?_; refine Za ?_; refine Zq ?_; refine CC.no rfl ?_; refine Zr ?_; refine ZeqT ?_; refine Za ?_; refine Zq ?_; refine CC.yes rfl ?_
    refine Zr ?_; refine Zf ?_; refine Zl rh4 ?_
    refine LL.call (R.call rfl rfl rfl) rfl rfl rfl (hof _ (hvF _ q)) ?_
    rintro e Wh10 ⟨vh12, kh13, rfl, lh11, bh9⟩
    refine ⟨_, rfl, ?_⟩; have zbh9 := bh9.size; replace bh6 := Zu bh6 bh9; replace rh4 := rh4.up bh9; replace bh1 := Zu bh1 bh9; replace q := Zu q bh9; refine Zm ?_; refine Zx ?_; refine Zx ?_; have lh15 := rh4.lt
    refine LL.alloc (intsZ .i64 (List.replicate 128 0)) rfl rfl rfl rfl rfl ?_
    intro Wh17 gh18 egh18 rh19 zh20 bh16
    replace bh9 := Zu bh9 bh16; replace bh6 := Zu bh6 bh16; replace rh4 := rh4.up bh16; replace bh1 := Zu bh1 bh16; replace q := Zu q bh16
    refine LL.storeAZ rfl rfl rfl rfl (by first | assumption | exact List.length_replicate | exact plL_len _ | exact plOf_len _ | simp) rh19 (by first | (rw [List.length_map]; exact (by first | assumption | exact List.length_replicate | exact plL_len _ | exact plOf_len _ | simp)) | simp) rfl rfl ?_
    intro Wh22 rh23 bh21 zh24
    have hlbh21 := rh19.lt
    clear rh19
    replace bh16 := Zg bh16 bh21; replace bh9 := Zg bh9 bh21; replace bh6 := Zg bh6 bh21; replace rh4 := Zd rh4 bh21; replace bh1 := Zg bh1 bh21; replace q := Zg q bh21
    have rh19 := rh23
    clear rh23
    refine Za ?_; refine Zq ?_; refine Zr ?_; refine Zm ?_; refine Zm ?_; refine Zm ?_; refine Zp ?_; refine Zm ?_; refine Zf ?_; refine Zl rh4 ?_; refine ZgeF ?_; refine Zp ?_; refine Zm ?_; refine Zs ?_; refine Zs ?_; refine Zs ?_; refine Zp ?_; refine Za ?_; refine Zq ?_; refine Zr ?_; refine Za ?_; refine Zq ?_; refine CC.block ?_
    refine CC.loop (α := Unit) (fun s => [(1, .pointer (some ⟨gh3, 0, none⟩)), (4, .bool false), (5, .pointer (some ⟨gh18, 0, none⟩)), (7, .int .i64 0)]) (fun s W => Below w.heap.size w W) (fun s => 0) () ⟨rfl, rfl, rfl, rfl, trivial⟩ q ?_
    rintro _ W q
    show CC none Tryd.prog _ 130 [] (sl [(1, .pointer (some ⟨gh3, 0, none⟩)), (4, .bool false), (5, .pointer (some ⟨gh18, 0, none⟩)), (7, .int .i64 0)]) _ W
    refine Zc ?_; refine Zr ?_; refine Zm ?_; refine ZltT ?_; refine Zm ?_; refine Zm ?_; refine Zp ?_; refine Zq ?_; refine CC.no rfl ?_; refine CC.exit ?_; refine EE.thenX ?_; refine EE.thenX ?_; refine EE.inX ?_; refine EE.inN ?_; refine EE.thenN ?_; refine Zc ?_; refine Zr ?_; refine Zm ?_; refine Zt ?_; refine Zq ?_; refine CC.yes rfl ?_; refine Zr ?_; refine Za ?_; refine Zq ?_; refine CC.ret ?_
    refine EE.thenR ?_; refine EE.ret _ rfl rfl ?_
    exact ⟨rfl, q⟩
  by_cases hD : 65536 < z
  · have hz0 := fun W => zero_T 1 l z x n c r p t true false false W hn hZ
    have hof := fun (W : World) (hv : ReadsT eE 3 W (.slice x n c) m) => rof_mt m _ W hv hlen hV
    clear h hZ hv
    refine X.fn Tryd.func15 rfl (n := 130) rfl rfl ?_
    refine Zr ?_
    refine LL.box [Value.int IntKind.i64 1, Value.int IntKind.i64 l, Value.int IntKind.i64 z, Value.slice x n c, Value.int IntKind.i64 r, Value.int IntKind.i64 p, strV t] rfl rfl rfl rfl rfl ?_
    intro Wj2 gj3 egj3 rj4 zj5 bj1
    replace q := Zu q bj1; refine Za ?_; refine Zq ?_; refine Zr ?_; refine Zf ?_; refine Zl rj4 ?_; refine Za ?_; refine Zq ?_; refine Zr ?_; refine Zm ?_; refine ZgeT ?_; refine Zm ?_; refine Zm ?_; refine ZleT ?_; refine Zp ?_; refine Zm ?_; refine Zf ?_; refine Zl rj4 ?_; refine ZgeT ?_; refine Zp ?_; refine Zm ?_; refine Zf ?_; refine Zl rj4 ?_; refine ZleT ?_; refine Zp ?_; refine Zm ?_; refine Zv rj4 ?_
    refine Zm ?_; refine ZeqT ?_; refine Zm ?_; refine ZeqF ?_; refine Zm ?_; refine ZeqF ?_
    refine LL.call (R.call rfl rfl rfl) rfl rfl rfl (hz0 _) ?_
    rintro e Wj7 ⟨rfl, bj6⟩
    refine ⟨_, rfl, ?_⟩; have zbj6 := bj6.size; replace rj4 := rj4.up bj6; replace bj1 := Zu bj1 bj6; replace q := Zu q bj6; refine Zp ?_; refine Za ?_; refine Zq ?_; refine Zc ?_; refine Zr ?_; refine Zm ?_; refine Zq ?_; refine CC.block ?_; refine Zr ?_; refine ZeqF ?_; refine Za ?_; refine Zq ?_; refine CC.no rfl ?_; refine Zr ?_; refine ZeqT ?_; refine Za ?_; refine Zq ?_; refine CC.yes rfl ?_
    refine Zr ?_; refine Zf ?_; refine Zl rj4 ?_
    refine LL.call (R.call rfl rfl rfl) rfl rfl rfl (hof _ (hvF _ q)) ?_
    rintro e Wj10 ⟨vj12, kj13, rfl, lj11, bj9⟩
    refine ⟨_, rfl, ?_⟩; have zbj9 := bj9.size; replace bj6 := Zu bj6 bj9; replace rj4 := rj4.up bj9; replace bj1 := Zu bj1 bj9; replace q := Zu q bj9; refine Zm ?_; refine Zx ?_; refine Zx ?_; have lj15 := rj4.lt
    refine LL.alloc (intsZ .i64 (List.replicate 128 0)) rfl rfl rfl rfl rfl ?_
    intro Wj17 gj18 egj18 rj19 zj20 bj16
    replace bj9 := Zu bj9 bj16; replace bj6 := Zu bj6 bj16; replace rj4 := rj4.up bj16; replace bj1 := Zu bj1 bj16; replace q := Zu q bj16
    refine LL.storeAZ rfl rfl rfl rfl (by first | assumption | exact List.length_replicate | exact plL_len _ | exact plOf_len _ | simp) rj19 (by first | (rw [List.length_map]; exact (by first | assumption | exact List.length_replicate | exact plL_len _ | exact plOf_len _ | simp)) | simp) rfl rfl ?_
    intro Wj22 rj23 bj21 zj24
    have hlbj21 := rj19.lt
    clear rj19
    replace bj16 := Zg bj16 bj21; replace bj9 := Zg bj9 bj21; replace bj6 := Zg bj6 bj21; replace rj4 := Zd rj4 bj21; replace bj1 := Zg bj1 bj21; replace q := Zg q bj21
    have rj19 := rj23
    clear rj23
    refine Za ?_; refine Zq ?_; refine Zr ?_; refine Zm ?_; refine Zm ?_; refine Zm ?_; refine Zp ?_; refine Zm ?_; refine Zf ?_; refine Zl rj4 ?_; refine ZgeT ?_; refine Zp ?_; refine Zm ?_; refine Zf ?_; refine Zl rj4 ?_; refine ZleF ?_; refine Zp ?_; refine Za ?_; refine Zq ?_; refine Zr ?_; refine Za ?_; refine Zq ?_; refine CC.block ?_
    refine CC.loop (α := Unit) (fun s => [(1, .pointer (some ⟨gj3, 0, none⟩)), (4, .bool false), (5, .pointer (some ⟨gj18, 0, none⟩)), (7, .int .i64 0)]) (fun s W => Below w.heap.size w W) (fun s => 0) () ⟨rfl, rfl, rfl, rfl, trivial⟩ q ?_
    rintro _ W q
    show CC none Tryd.prog _ 130 [] (sl [(1, .pointer (some ⟨gj3, 0, none⟩)), (4, .bool false), (5, .pointer (some ⟨gj18, 0, none⟩)), (7, .int .i64 0)]) _ W
    refine Zc ?_; refine Zr ?_; refine Zm ?_; refine ZltT ?_; refine Zm ?_; refine Zm ?_; refine Zp ?_; refine Zq ?_; refine CC.no rfl ?_; refine CC.exit ?_; refine EE.thenX ?_; refine EE.thenX ?_; refine EE.inX ?_; refine EE.inN ?_; refine EE.thenN ?_; refine Zc ?_; refine Zr ?_; refine Zm ?_; refine Zt ?_; refine Zq ?_; refine CC.yes rfl ?_; refine Zr ?_; refine Za ?_; refine Zq ?_; refine CC.ret ?_
    refine EE.thenR ?_; refine EE.ret _ rfl rfl ?_
    exact ⟨rfl, q⟩
  obtain ⟨hr0, hp0, ht0⟩ : r = 0 ∧ p = 0 ∧ t = [] := by
    obtain ⟨_, h2, h3⟩ := hZ
    simp only [Bool.false_eq_true, false_or] at h2 h3
    exact ⟨h2.1, h2.2, h3⟩
  subst hr0 hp0 ht0
  have hno : ¬fitF z m := fun hf => h ⟨by omega, hZ, by omega, hV, hf⟩
  exact rcheck_1L l z x n c m w hv hlen (by omega) (by omega) hV 240 ⟨fun hf => absurd hf hno, fun _ => rfl⟩
theorem rcheck_T (k l z : Int) (x : Option Addr) (n c : Nat) (m : List Ex) (r p : Int) (t : Bs) (w : World) (hv : ReadsT eE 3 w (.slice x n c) m) (hlen : m.length ≤ 1048576) (h : okI k l z m r p t) : Calls Tryd.prog 15 #[inV k l z (.slice x n c) r p t] w fun e w' => e = .returned (.int .i64 0) ∧ Below w.heap.size w w' := by
  have hn : m.length = n := by obtain ⟨_, _, e, _⟩ := hv; cases e; rfl
  obtain ⟨hl, ⟨rfl, rfl, rfl, rfl, rfl, rfl, rfl⟩ | ⟨rfl, rfl, rfl, rfl, hf⟩ | ⟨rfl, rfl, rfl, rfl, h1⟩ | ⟨rfl, rfl, rfl, rfl, rfl, h1⟩⟩ := h
  · obtain rfl : n = 0 := by simpa using hn.symm
    exact rcheck_0T 0 x c w rfl
  · exact rcheck_1L l z x n c m w hv hlen hl hf.1 hf.2.1 0 ⟨fun _ => rfl, fun h => absurd hf.2.2 h⟩
  · obtain rfl : n = 0 := by simpa using hn.symm
    exact rcheck_2T l x c r p w hl h1.1 h1.2
  · obtain rfl : n = 0 := by simpa using hn.symm
    exact rcheck_3T l x c t w hl h1.1 h1.2
theorem rcheck_F (k l z : Int) (x : Option Addr) (n c : Nat) (m : List Ex) (r p : Int) (t : Bs) (w : World) (hv : ReadsT eE 3 w (.slice x n c) m) (hlen : m.length ≤ 1048576) (htl : t.length ≤ 1048576) (h : ¬okI k l z m r p t) : Calls Tryd.prog 15 #[inV k l z (.slice x n c) r p t] w fun e w' => e = .returned (.int .i64 240) ∧ Below w.heap.size w w' := by
  have hn : m.length = n := by obtain ⟨_, _, e, _⟩ := hv; cases e; rfl
  have hmn : n = 0 ↔ m = [] := by rw [← hn]; exact List.length_eq_zero_iff
  by_cases hk : k < 0 ∨ 3 < k
  · exact rcheck_kF k l z x n c r p t w hk
  rcases (by omega : k = 0 ∨ k = 1 ∨ k = 2 ∨ k = 3) with rfl | rfl | rfl | rfl
  · refine rcheck_0F l z x n c r p t w (by omega) fun ⟨h1, h2, h3, h4⟩ => h ?_
    simp only [Bool.false_eq_true, false_or] at h2 h3 h4
    subst h1
    exact ⟨by omega, .inl ⟨rfl, rfl, h2.1, hmn.1 h2.2, h3.1, h3.2, h4⟩⟩
  · refine rcheck_1F l z x n c m r p t w hv hlen fun ⟨h1, ⟨h2, h3, h4⟩, h5⟩ => h ?_
    simp only [Bool.false_eq_true, false_or] at h3 h4
    exact ⟨h1, .inr (.inl ⟨rfl, h3.1, h3.2, h4, h5⟩)⟩
  · refine rcheck_2F l z x n c r p t w (by omega) fun ⟨h1, ⟨h2, h3, h4⟩, h5⟩ => h ?_
    simp only [Bool.false_eq_true, false_or] at h2 h4
    exact ⟨h1, .inr (.inr (.inl ⟨rfl, h2.1, hmn.1 h2.2, h4, h5⟩))⟩
  · refine rcheck_3F l z x n c r p t w (by omega) (by omega) fun ⟨h1, ⟨h2, h3, h4⟩, h5⟩ => h ?_
    simp only [Bool.false_eq_true, false_or] at h2 h3
    exact ⟨h1, .inr (.inr (.inr ⟨rfl, h2.1, hmn.1 h2.2, h3.1, h3.2, h5⟩))⟩
end Go.Proofs.YtnoefalgmekjbaaDoor

/- inode: the document's Words. -/
namespace Go.Proofs.YtnoefalgmekjbaaDoor
set_option linter.unusedVariables false
set_option linter.unusedSimpArgs false
open Go.RowKit Go.Shelf
set_option maxRecDepth 100000
set_option maxHeartbeats 8000000
theorem rlay_own (v : Value) (l : Bs) (w : World) (hv : Reads w v (ints .u8 (nbL l))) (hl : l.length ≤ 1048576) : Calls Tryd.prog 32 #[v] w fun e w' => ∃ v', e = .returned v' ∧ OwnW w' w.heap.size 41 v' ((l.length + 7) / 8) (ints .u64 (layL (nbL l))) ∧ Below w.heap.size w w' := by
  have h := rlay_any v (nbL l) w hv (nbL_lt l) (by rw [nbL_len]; omega)
  rw [nbL_len] at h
  exact h

theorem rinW_no (k l z : Int) (x : Option Addr) (n c : Nat) (m : List Ex) (r p : Int) (t : Bs) (w : World) (hv : ReadsT eE 3 w (.slice x n c) m) (hlen : m.length ≤ 1048576) (htl : t.length ≤ 1048576) (h : ¬okI k l z m r p t) : Calls Tryd.prog 12 #[inV k l z (.slice x n c) r p t] w fun e w' => e = .returned (.tuple #[.slice none 0 0, .int .i64 240]) ∧ Below w.heap.size w w' := by
  have q := Below.refl w.heap.size w
  have hvF : ∀ X, Below w.heap.size w X → ReadsT eE 3 X (.slice x n c) m := fun X b => hv.up b
  clear hv
  refine X.fn Tryd.func12 rfl (n := 85) rfl rfl ?_
  refine Zr ?_
  refine LL.box [Value.int IntKind.i64 k, Value.int IntKind.i64 l, Value.int IntKind.i64 z, Value.slice x n c, Value.int IntKind.i64 r, Value.int IntKind.i64 p, strV t] rfl rfl rfl rfl rfl ?_
  intro W2 g3 eg3 r4 z5 b1
  replace q := Zu q b1; refine Za ?_; refine Za ?_; refine Zq ?_; refine Zc ?_; refine Zr ?_; refine Zv r4 ?_
  refine LL.call (R.call rfl rfl rfl) rfl rfl rfl (rcheck_F k l z x n c m r p t _ (hvF _ q) hlen htl h) ?_
  rintro e W7 ⟨rfl, b6⟩
  refine ⟨_, rfl, ?_⟩; have zb6 := b6.size; replace r4 := r4.up b6; replace b1 := Zu b1 b6; replace q := Zu q b6; refine ZneT ?_; refine Zq ?_; refine CC.yes rfl ?_; refine Zr ?_; refine Za ?_; refine Za ?_; refine Zq ?_; refine CC.ret ?_; refine EE.thenR ?_; refine EE.ret _ rfl rfl ?_
  exact ⟨rfl, q⟩
--C ref14_Check | hck @w (hvF _ q) | ⟨rfl, @b⟩
--C ref06_Words | rwords_T m _ @w (hvF _ q) hvl | ⟨rfl, @b⟩
theorem rinW_0 (x : Option Addr) (c : Nat) (w : World) : Calls Tryd.prog 12 #[inV 0 0 0 (.slice x 0 c) 0 0 []] w (wsP (inoW 0 0 0 [] 0 0 []) w) := by
  unfold wsP
  have q := Below.refl w.heap.size w
  have hvF : ∀ X, Below w.heap.size w X → True := fun X b => trivial
  have hck := fun W (_ : True) => rcheck_0T 0 x c W rfl
  rw [inoW_0]
  refine X.fn Tryd.func12 rfl (n := 85) rfl rfl ?_
  refine Zr ?_
  refine LL.box [Value.int IntKind.i64 0, Value.int IntKind.i64 0, Value.int IntKind.i64 0, Value.slice x 0 c, Value.int IntKind.i64 0, Value.int IntKind.i64 0, strV []] rfl rfl rfl rfl rfl ?_
  intro W9 g10 eg10 r11 z12 b8
  replace q := Zu q b8; refine Za ?_; refine Za ?_; refine Zq ?_; refine Zc ?_; refine Zr ?_; refine Zv r11 ?_
  refine LL.call (R.call rfl rfl rfl) rfl rfl rfl (hck _ (hvF _ q)) ?_
  rintro e W46 ⟨rfl, b45⟩
  refine ⟨_, rfl, ?_⟩; have zb45 := b45.size; replace r11 := r11.up b45; replace b8 := Zu b8 b45; replace q := Zu q b45; refine ZneF ?_; refine Zq ?_; refine CC.no rfl ?_; refine CC.skip ?_; refine EE.thenN ?_; refine Zr ?_; have l60 := r11.lt
  (refine LL.makeE (l := 16) (m := 16) ElU14 rfl (by decide) rfl rfl rfl (Nat.le_refl _) (by decide) (by decide) rfl rfl ?_; intro W59 g1 eg1 r1 zg1 b56; replace r1 : RowL W59 g1 41 (ints .u64 (List.replicate 16 0)) := r1)
  have zb56 := b56.size; replace b45 := Zu b45 b56; replace r11 := r11.up b56; replace b8 := Zu b8 b56; replace q := Zu q b56; refine Za ?_; refine Zq ?_; refine Zr ?_; refine Zm ?_; refine Zf ?_; refine Zl r11 ?_
  refine LL.val (R.convI rfl rfl rfl rfl (wrapU (by omega) (by omega))) rfl rfl rfl ?_
  refine Zf ?_; refine Zl r11 ?_
  refine LL.val (R.convI rfl rfl rfl rfl (wrapU (by omega) (by omega))) rfl rfl rfl ?_
  refine LL.val (R.mulUE (a := 256) (b := 0) rfl rfl rfl rfl (by omega)) rfl rfl rfl ?_
  refine LL.val (R.addUE (a := 0) (b := 256 * 0) rfl rfl rfl rfl (by omega)) rfl rfl rfl ?_
  refine Zi ?_
  refine LL.store rfl rfl rfl rfl r1 (by exact Nat.le_of_ble_eq_true rfl) rfl rfl rfl rfl ?_
  intro W173 r174 b172 z175
  have hlb172 := r1.lt
  replace r174 : RowL W173 _ 41 [Value.int IntKind.u64 ↑(0 + 256 * 0), (fun n => Value.int IntKind.u64 ↑n) 0, (fun n => Value.int IntKind.u64 ↑n) 0, (fun n => Value.int IntKind.u64 ↑n) 0, (fun n => Value.int IntKind.u64 ↑n) 0, (fun n => Value.int IntKind.u64 ↑n) 0, (fun n => Value.int IntKind.u64 ↑n) 0, (fun n => Value.int IntKind.u64 ↑n) 0, (fun n => Value.int IntKind.u64 ↑n) 0, (fun n => Value.int IntKind.u64 ↑n) 0, (fun n => Value.int IntKind.u64 ↑n) 0, (fun n => Value.int IntKind.u64 ↑n) 0, (fun n => Value.int IntKind.u64 ↑n) 0, (fun n => Value.int IntKind.u64 ↑n) 0, (fun n => Value.int IntKind.u64 ↑n) 0, (fun n => Value.int IntKind.u64 ↑n) 0] := r174
  clear r1
  replace b56 := Zg b56 b172; replace b45 := Zg b45 b172; replace r11 := Zd r11 b172; replace b8 := Zg b8 b172; replace q := Zg q b172
  have r1 := r174
  clear r174
  refine Zq ?_; refine Zc ?_; refine Zr ?_; refine Zf ?_; refine Zl r11 ?_; refine Zq ?_; refine CC.block ?_; refine Zr ?_; refine ZeqF ?_; refine Za ?_; refine Zq ?_; refine CC.no rfl ?_; refine Zr ?_; refine ZeqF ?_; refine Za ?_; refine Zq ?_; refine CC.no rfl ?_; refine Zr ?_; refine ZeqF ?_; refine Za ?_; refine Zq ?_; refine CC.no rfl ?_; refine CC.skip ?_; refine EE.inN ?_; refine EE.thenN ?_
  refine Zr ?_; refine Zm ?_; refine Za ?_; refine Za ?_; refine Zq ?_; refine CC.ret ?_; refine EE.ret _ rfl rfl ?_
  exact ⟨_, rfl, by assumption, by omega, q⟩
theorem rinW_2 (l r p : Nat) (x : Option Addr) (c : Nat) (w : World) (hl : l ≤ 65535) (hr : 1 ≤ r ∧ r ≤ 2047) (hp : 1 ≤ p ∧ p ≤ 256) : Calls Tryd.prog 12 #[inV 2 (l : Int) 0 (.slice x 0 c) (r : Int) (p : Int) []] w (wsP (inoW 2 (l : Int) 0 [] (r : Int) (p : Int) []) w) := by
  unfold wsP
  have q := Below.refl w.heap.size w
  have hvF : ∀ X, Below w.heap.size w X → True := fun X b => trivial
  have hck := fun W (_ : True) => rcheck_2T (l : Int) x c (r : Int) (p : Int) W (by omega) (by omega) (by omega)
  rw [inoW_2]
  refine X.fn Tryd.func12 rfl (n := 85) rfl rfl ?_
  refine Zr ?_
  refine LL.box [Value.int IntKind.i64 2, Value.int IntKind.i64 ↑l, Value.int IntKind.i64 0, Value.slice x 0 c, Value.int IntKind.i64 ↑r, Value.int IntKind.i64 ↑p, strV []] rfl rfl rfl rfl rfl ?_
  intro W9 g10 eg10 r11 z12 b8
  replace q := Zu q b8; refine Za ?_; refine Za ?_; refine Zq ?_; refine Zc ?_; refine Zr ?_; refine Zv r11 ?_
  refine LL.call (R.call rfl rfl rfl) rfl rfl rfl (hck _ (hvF _ q)) ?_
  rintro e W46 ⟨rfl, b45⟩
  refine ⟨_, rfl, ?_⟩; have zb45 := b45.size; replace r11 := r11.up b45; replace b8 := Zu b8 b45; replace q := Zu q b45; refine ZneF ?_; refine Zq ?_; refine CC.no rfl ?_; refine CC.skip ?_; refine EE.thenN ?_; refine Zr ?_; have l60 := r11.lt
  (refine LL.makeE (l := 16) (m := 16) ElU14 rfl (by decide) rfl rfl rfl (Nat.le_refl _) (by decide) (by decide) rfl rfl ?_; intro W59 g1 eg1 r1 zg1 b56; replace r1 : RowL W59 g1 41 (ints .u64 (List.replicate 16 0)) := r1)
  have zb56 := b56.size; replace b45 := Zu b45 b56; replace r11 := r11.up b56; replace b8 := Zu b8 b56; replace q := Zu q b56; refine Za ?_; refine Zq ?_; refine Zr ?_; refine Zm ?_; refine Zf ?_; refine Zl r11 ?_
  refine LL.val (R.convI rfl rfl rfl rfl (wrapU (by omega) (by omega))) rfl rfl rfl ?_
  refine Zf ?_; refine Zl r11 ?_
  refine LL.val (R.convI rfl rfl rfl rfl (wrapU (by omega) (by omega))) rfl rfl rfl ?_
  refine LL.val (R.mulUE (a := 256) (b := l) rfl rfl rfl rfl (by omega)) rfl rfl rfl ?_
  refine LL.val (R.addUE (a := 2) (b := 256 * l) rfl rfl rfl rfl (by omega)) rfl rfl rfl ?_
  refine Zi ?_
  refine LL.store rfl rfl rfl rfl r1 (by exact Nat.le_of_ble_eq_true rfl) rfl rfl rfl rfl ?_
  intro W173 r174 b172 z175
  have hlb172 := r1.lt
  replace r174 : RowL W173 _ 41 [Value.int IntKind.u64 ↑(2 + 256 * l), (fun n => Value.int IntKind.u64 ↑n) 0, (fun n => Value.int IntKind.u64 ↑n) 0, (fun n => Value.int IntKind.u64 ↑n) 0, (fun n => Value.int IntKind.u64 ↑n) 0, (fun n => Value.int IntKind.u64 ↑n) 0, (fun n => Value.int IntKind.u64 ↑n) 0, (fun n => Value.int IntKind.u64 ↑n) 0, (fun n => Value.int IntKind.u64 ↑n) 0, (fun n => Value.int IntKind.u64 ↑n) 0, (fun n => Value.int IntKind.u64 ↑n) 0, (fun n => Value.int IntKind.u64 ↑n) 0, (fun n => Value.int IntKind.u64 ↑n) 0, (fun n => Value.int IntKind.u64 ↑n) 0, (fun n => Value.int IntKind.u64 ↑n) 0, (fun n => Value.int IntKind.u64 ↑n) 0] := r174
  clear r1
  replace b56 := Zg b56 b172; replace b45 := Zg b45 b172; replace r11 := Zd r11 b172; replace b8 := Zg b8 b172; replace q := Zg q b172
  have r1 := r174
  clear r174
  refine Zq ?_; refine Zc ?_; refine Zr ?_; refine Zf ?_; refine Zl r11 ?_; refine Zq ?_; refine CC.block ?_; refine Zr ?_; refine ZeqF ?_; refine Za ?_; refine Zq ?_; refine CC.no rfl ?_; refine Zr ?_; refine ZeqT ?_; refine Za ?_; refine Zq ?_; refine CC.yes rfl ?_
  refine CC.freeZ (fun W_ j => j < W_.heap.size ∧ (j ≠ g1)) (by kernel_rfl) (by kernel_rfl) (fun W231 b230 z232 => ?_)
  replace b56 := Zu b56 b230; replace b45 := Zu b45 b230; replace r11 := r11.up b230; replace b8 := Zu b8 b230; replace q := Zu q b230; replace r1 := r1.up b230
  have hok : Kept (fun j => j < W231.heap.size ∧ (j ≠ g1)) W231 W231 := Kept.refl _ _
  have fzr11 := fzRow (K := fun j => j < W231.heap.size ∧ (j ≠ g1)) r11 ⟨r11.lt, (by first | trivial | omega)⟩
  refine AA.pure 0 rfl hok (by kernel_rfl) (fun w' b' => R.move rfl rfl) rfl rfl ?_
  refine AA.pure 1 rfl hok (by kernel_rfl) (fun w' b' => R.move rfl rfl) rfl rfl ?_
  refine AA.pure 2 rfl hok (by kernel_rfl) (fun w' b' => R.field rfl rfl (I.fld rfl)) rfl rfl ?_
  refine AA.pure 3 rfl hok (by kernel_rfl) (fun w' b' => R.load rfl rfl (I.ld1 rfl (RowL.cell (fzr11 w' b') rfl))) rfl rfl ?_
  refine AA.pure 4 rfl hok (by kernel_rfl) (fun w' b' => R.convI rfl rfl rfl rfl (wrapU (by omega) (by omega))) rfl rfl ?_
  refine AA.pure 5 rfl hok (by kernel_rfl) (fun w' b' => R.field rfl rfl (I.fld rfl)) rfl rfl ?_
  refine AA.pure 6 rfl hok (by kernel_rfl) (fun w' b' => R.load rfl rfl (I.ld1 rfl (RowL.cell (fzr11 w' b') rfl))) rfl rfl ?_
  refine AA.pure 7 rfl hok (by kernel_rfl) (fun w' b' => R.convI rfl rfl rfl rfl (wrapU (by omega) (by omega))) rfl rfl ?_
  refine AA.pure 8 rfl hok (by kernel_rfl) (fun w' b' => R.index rfl rfl rfl (I.ixS1c rfl rfl (by omega))) rfl rfl ?_
  refine AA.one 9 (by kernel_rfl) ?_
  refine ZR.store rfl rfl rfl rfl rfl r1 (by exact Nat.le_of_ble_eq_true rfl) rfl rfl rfl rfl ?_
  intro W243 r244 b242 z245
  have hlb242 := r1.lt
  replace r244 : RowL W243 _ 41 [Value.int IntKind.u64 ↑(2 + 256 * l), (fun n => Value.int IntKind.u64 n) 0, Value.int IntKind.u64 ↑r, (fun n => Value.int IntKind.u64 n) 0, (fun n => Value.int IntKind.u64 n) 0, (fun n => Value.int IntKind.u64 n) 0, (fun n => Value.int IntKind.u64 n) 0, (fun n => Value.int IntKind.u64 n) 0, (fun n => Value.int IntKind.u64 n) 0, (fun n => Value.int IntKind.u64 n) 0, (fun n => Value.int IntKind.u64 n) 0, (fun n => Value.int IntKind.u64 n) 0, (fun n => Value.int IntKind.u64 n) 0, (fun n => Value.int IntKind.u64 n) 0, (fun n => Value.int IntKind.u64 n) 0, (fun n => Value.int IntKind.u64 n) 0] := r244
  clear r1
  replace b56 := Zg b56 b242; replace b45 := Zg b45 b242; replace r11 := Zd r11 b242; replace b8 := Zg b8 b242; replace q := Zg q b242; replace hok := Zo hok b242
  have r1 := r244
  clear r244
  refine ⟨hok, ?_⟩
  refine AA.pure 10 rfl hok (by kernel_rfl) (fun w' b' => R.index rfl rfl rfl (I.ixS1c rfl rfl (by omega))) rfl rfl ?_
  refine AA.one 11 (by kernel_rfl) ?_
  refine ZR.store rfl rfl rfl rfl rfl r1 (by exact Nat.le_of_ble_eq_true rfl) rfl rfl rfl rfl ?_
  intro W256 r257 b255 z258
  have hlb255 := r1.lt
  replace r257 : RowL W256 _ 41 [Value.int IntKind.u64 ↑(2 + 256 * l), (fun n => Value.int IntKind.u64 n) 0, Value.int IntKind.u64 ↑r, Value.int IntKind.u64 ↑p, (fun n => Value.int IntKind.u64 n) 0, (fun n => Value.int IntKind.u64 n) 0, (fun n => Value.int IntKind.u64 n) 0, (fun n => Value.int IntKind.u64 n) 0, (fun n => Value.int IntKind.u64 n) 0, (fun n => Value.int IntKind.u64 n) 0, (fun n => Value.int IntKind.u64 n) 0, (fun n => Value.int IntKind.u64 n) 0, (fun n => Value.int IntKind.u64 n) 0, (fun n => Value.int IntKind.u64 n) 0, (fun n => Value.int IntKind.u64 n) 0, (fun n => Value.int IntKind.u64 n) 0] := r257
  clear r1
  replace b56 := Zg b56 b255; replace b45 := Zg b45 b255; replace r11 := Zd r11 b255; replace b8 := Zg b8 b255; replace q := Zg q b255; replace hok := Zo hok b255
  have r1 := r257
  clear r257
  refine ⟨hok, ?_⟩
  refine AA.done rfl ?_
  clear fzr11 hok
  refine EE.inN ?_; refine EE.thenN ?_; refine Zr ?_; refine Zm ?_; refine Za ?_; refine Za ?_; refine Zq ?_; refine CC.ret ?_; refine EE.ret _ rfl rfl ?_
  exact ⟨_, rfl, by assumption, by omega, q⟩
end Go.Proofs.YtnoefalgmekjbaaDoor

/- inode: the document's Words, of files and links. -/
namespace Go.Proofs.YtnoefalgmekjbaaDoor
set_option linter.unusedVariables false
set_option linter.unusedSimpArgs false
open Go.RowKit Go.Shelf
set_option maxRecDepth 100000
set_option maxHeartbeats 8000000
/-- Sixteen words of which so many are filled in. -/
def filL (a b : Nat) (xs : List Nat) (i : Nat) : List Nat := a :: b :: (xs.take i ++ List.replicate (14 - i) 0)
theorem filL_len (a b : Nat) (xs : List Nat) (i : Nat) (h : i ≤ xs.length) (h2 : i ≤ 14) : (filL a b xs i).length = 16 := by
  simp [filL]
  omega
theorem filL_set (a b : Nat) (xs : List Nat) (i v : Nat) (h : i < xs.length) (h2 : i < 14) (hv : xs[i]? = some v) : (filL a b xs i).set (2 + i) v = filL a b xs (i + 1) := by
  unfold filL
  rw [Nat.add_comm 2 i]
  show a :: b :: ((xs.take i ++ List.replicate (14 - i) 0).set i v) = _
  have hl : (xs.take i).length = i := by simp; omega
  rw [List.set_append_right _ _ (by omega), hl, Nat.sub_self]
  obtain ⟨k, hk⟩ : ∃ k, 14 - i = k + 1 := ⟨14 - i - 1, by omega⟩
  rw [hk, show 14 - (i + 1) = k by omega, List.replicate_succ, List.set_cons_zero, List.take_add_one, hv]
  simp
theorem filL_setE (a b : Nat) (xs : List Nat) (i v : Nat) (h : i < xs.length) (h2 : i < 14) (hv : xs[i]? = some v) : (ints .u64 (filL a b xs i)).set (2 + i) (.int .u64 (v : Int)) = ints .u64 (filL a b xs (i + 1)) := by
  rw [← filL_set a b xs i v h h2 hv]
  simp [ints]
theorem filL_all (a b : Nat) (xs : List Nat) : filL a b xs xs.length = a :: b :: (xs ++ List.replicate (14 - xs.length) 0) := by simp [filL]
theorem rinW_1 (l z : Nat) (x : Option Addr) (n c : Nat) (m : List Ex) (w : World) (hv : ReadsT eE 3 w (.slice x n c) m) (hlen : m.length ≤ 1048576) (hl : l ≤ 65535) (hf : okF (z : Int) m) : Calls Tryd.prog 12 #[inV 1 (l : Int) (z : Int) (.slice x n c) 0 0 []] w (wsP (inoW 1 (l : Int) (z : Int) m 0 0 []) w) := by
  unfold wsP
  have q := Below.refl w.heap.size w
  have hvF : ∀ X, Below w.heap.size w X → ReadsT eE 3 X (.slice x n c) m := fun X b => hv.up b
  have hck := fun W (h : ReadsT eE 3 W (.slice x n c) m) => rcheck_T 1 (l : Int) (z : Int) x n c m 0 0 [] W h hlen ⟨by omega, .inr (.inl ⟨rfl, rfl, rfl, rfl, hf⟩)⟩
  have hvl := hf.2.1
  have hz := hf.1
  have hxl := wrdN_len hvl
  have hxz := wrdN_Z hvl.2.1
  have hwl : (wrdZ m).length = 10 := wrdZ_len hvl.1
  rw [inoW_1 _ _ _ _ _ _ hvl]
  clear hv
  refine X.fn Tryd.func12 rfl (n := 85) rfl rfl ?_
  refine Zr ?_
  refine LL.box [Value.int IntKind.i64 1, Value.int IntKind.i64 ↑l, Value.int IntKind.i64 ↑z, Value.slice x n c, Value.int IntKind.i64 0, Value.int IntKind.i64 0, strV []] rfl rfl rfl rfl rfl ?_
  intro W9 g10 eg10 r11 z12 b8
  replace q := Zu q b8; refine Za ?_; refine Za ?_; refine Zq ?_; refine Zc ?_; refine Zr ?_; refine Zv r11 ?_
  refine LL.call (R.call rfl rfl rfl) rfl rfl rfl (hck _ (hvF _ q)) ?_
  rintro e W46 ⟨rfl, b45⟩
  refine ⟨_, rfl, ?_⟩; have zb45 := b45.size; replace r11 := r11.up b45; replace b8 := Zu b8 b45; replace q := Zu q b45; refine ZneF ?_; refine Zq ?_; refine CC.no rfl ?_; refine CC.skip ?_; refine EE.thenN ?_; refine Zr ?_; have l60 := r11.lt
  (refine LL.makeE (l := 16) (m := 16) ElU14 rfl (by decide) rfl rfl rfl (Nat.le_refl _) (by decide) (by decide) rfl rfl ?_; intro W59 g1 eg1 r1 zg1 b56; replace r1 : RowL W59 g1 41 (ints .u64 (List.replicate 16 0)) := r1)
  have zb56 := b56.size; replace b45 := Zu b45 b56; replace r11 := r11.up b56; replace b8 := Zu b8 b56; replace q := Zu q b56; refine Za ?_; refine Zq ?_; refine Zr ?_; refine Zm ?_; refine Zf ?_; refine Zl r11 ?_
  refine LL.val (R.convI rfl rfl rfl rfl (wrapU (by omega) (by omega))) rfl rfl rfl ?_
  refine Zf ?_; refine Zl r11 ?_
  refine LL.val (R.convI rfl rfl rfl rfl (wrapU (by omega) (by omega))) rfl rfl rfl ?_
  refine LL.val (R.mulUE (a := 256) (b := l) rfl rfl rfl rfl (by omega)) rfl rfl rfl ?_
  refine LL.val (R.addUE (a := 1) (b := 256 * l) rfl rfl rfl rfl (by omega)) rfl rfl rfl ?_
  refine Zi ?_
  refine LL.store rfl rfl rfl rfl r1 (by exact Nat.le_of_ble_eq_true rfl) rfl rfl rfl rfl ?_
  intro W173 r174 b172 z175
  have hlb172 := r1.lt
  replace r174 : RowL W173 _ 41 [Value.int IntKind.u64 ↑(1 + 256 * l), (fun n => Value.int IntKind.u64 ↑n) 0, (fun n => Value.int IntKind.u64 ↑n) 0, (fun n => Value.int IntKind.u64 ↑n) 0, (fun n => Value.int IntKind.u64 ↑n) 0, (fun n => Value.int IntKind.u64 ↑n) 0, (fun n => Value.int IntKind.u64 ↑n) 0, (fun n => Value.int IntKind.u64 ↑n) 0, (fun n => Value.int IntKind.u64 ↑n) 0, (fun n => Value.int IntKind.u64 ↑n) 0, (fun n => Value.int IntKind.u64 ↑n) 0, (fun n => Value.int IntKind.u64 ↑n) 0, (fun n => Value.int IntKind.u64 ↑n) 0, (fun n => Value.int IntKind.u64 ↑n) 0, (fun n => Value.int IntKind.u64 ↑n) 0, (fun n => Value.int IntKind.u64 ↑n) 0] := r174
  clear r1
  replace b56 := Zg b56 b172; replace b45 := Zg b45 b172; replace r11 := Zd r11 b172; replace b8 := Zg b8 b172; replace q := Zg q b172
  have r1 := r174
  clear r174
  refine Zq ?_; refine Zc ?_; refine Zr ?_; refine Zf ?_; refine Zl r11 ?_; refine Zq ?_; refine CC.block ?_; refine Zr ?_; refine ZeqT ?_; refine Za ?_; refine Zq ?_; refine CC.yes rfl ?_; refine Zr ?_; refine Zm ?_; refine Zf ?_; refine Zl r11 ?_
  refine LL.val (R.convI rfl rfl rfl rfl (wrapU (by omega) (by omega))) rfl rfl rfl ?_
  refine Zi ?_
  refine LL.store rfl rfl rfl rfl r1 (by exact Nat.le_of_ble_eq_true rfl) rfl rfl rfl rfl ?_
  intro W267 r268 b266 z269
  have hlb266 := r1.lt
  replace r268 : RowL W267 _ 41 [Value.int IntKind.u64 ↑(1 + 256 * l), Value.int IntKind.u64 ↑z, (fun n => Value.int IntKind.u64 n) 0, (fun n => Value.int IntKind.u64 n) 0, (fun n => Value.int IntKind.u64 n) 0, (fun n => Value.int IntKind.u64 n) 0, (fun n => Value.int IntKind.u64 n) 0, (fun n => Value.int IntKind.u64 n) 0, (fun n => Value.int IntKind.u64 n) 0, (fun n => Value.int IntKind.u64 n) 0, (fun n => Value.int IntKind.u64 n) 0, (fun n => Value.int IntKind.u64 n) 0, (fun n => Value.int IntKind.u64 n) 0, (fun n => Value.int IntKind.u64 n) 0, (fun n => Value.int IntKind.u64 n) 0, (fun n => Value.int IntKind.u64 n) 0] := r268
  clear r1
  replace b56 := Zg b56 b266; replace b45 := Zg b45 b266; replace r11 := Zd r11 b266; replace b8 := Zg b8 b266; replace q := Zg q b266
  have r1 := r268
  clear r268
  refine Zq ?_; refine Zr ?_; refine Zf ?_; refine Zl r11 ?_
  refine LL.call (R.call rfl rfl rfl) rfl rfl rfl (rwords_T m _ _ (hvF _ q) hvl) ?_
  rintro e W298 ⟨rfl, b297⟩
  refine ⟨_, rfl, ?_⟩; have zb297 := b297.size; replace b56 := Zu b56 b297; replace b45 := Zu b45 b297; replace r11 := r11.up b297; replace b8 := Zu b8 b297; replace q := Zu q b297; replace r1 := r1.up b297; have l309 := r11.lt; have l310 := r1.lt
  refine LL.alloc (intsZ .u64 (List.replicate 10 0)) rfl rfl rfl rfl rfl ?_
  intro W312 g313 eg313 r314 z315 b311
  replace b297 := Zu b297 b311; replace b56 := Zu b56 b311; replace b45 := Zu b45 b311; replace r11 := r11.up b311; replace b8 := Zu b8 b311; replace q := Zu q b311; replace r1 := r1.up b311
  refine LL.storeAZ rfl rfl rfl rfl (by first | assumption | exact List.length_replicate | exact plL_len _ | exact plOf_len _ | simp) r314 (by first | (rw [List.length_map]; exact (by first | assumption | exact List.length_replicate | exact plL_len _ | exact plOf_len _ | simp)) | simp) rfl rfl ?_
  intro W327 r328 b326 z329
  have hlb326 := r314.lt
  clear r314
  replace b311 := Zg b311 b326; replace b297 := Zg b297 b326; replace b56 := Zg b56 b326; replace b45 := Zg b45 b326; replace r11 := Zd r11 b326; replace b8 := Zg b8 b326; replace q := Zg q b326; replace r1 := Zd r1 b326
  have r314 := r328
  clear r328
  refine Zq ?_; refine Zr ?_; refine Za ?_; refine Zq ?_; refine CC.block ?_
  have r1b : RowL W327 g1 41 (ints .u64 (filL (1 + 256 * l) z (wrdN m) 0)) := r1
  have hg1 : w.heap.size ≤ g1 := by omega
  have hne : g1 ≠ g313 := by omega
  clear r1
  refine CC.loop (α := Nat) (fun i => [(4, .slice (some ⟨g1, 0, none⟩) 16 16), (5, .pointer (some ⟨g313, 0, none⟩)), (6, .int .i64 (i : Int))]) (fun i W => i ≤ 10 ∧ Below w.heap.size w W ∧ RowL W g1 41 (ints .u64 (filL (1 + 256 * l) z (wrdN m) i)) ∧ RowL W g313 74 (intsZ .u64 (wrdZ m))) (fun i => 10 - i) 0 ⟨rfl, rfl, rfl, trivial⟩ ⟨by omega, q, r1b, r314⟩ ?_
  clear q r1b r314 r11 b8 b45 b56 b297 b311 b326
  rintro i W ⟨hi, q, r1, r2⟩
  show CC none Tryd.prog _ 85 [] (sl [(4, .slice (some ⟨g1, 0, none⟩) 16 16), (5, .pointer (some ⟨g313, 0, none⟩)), (6, .int .i64 (i : Int))]) _ W
  have yq := q.size
  by_cases hlt : i < 10
  case neg =>
    obtain rfl : i = 10 := by omega
    rw [show filL (1 + 256 * l) z (wrdN m) 10 = (1 + 256 * l) :: z :: (wrdN m ++ List.replicate 4 0) by have := filL_all (1 + 256 * l) z (wrdN m); rwa [hxl] at this] at r1
    refine Zc ?_; refine Zr ?_; refine Zm ?_; refine ZltF ?_; refine Zq ?_; refine CC.no rfl ?_; refine CC.exit ?_; refine EE.thenX ?_; refine EE.thenX ?_; refine EE.inX ?_; refine EE.inN ?_; refine EE.thenN ?_; refine Zr ?_; refine Zm ?_; refine Za ?_; refine Za ?_; refine Zq ?_; refine CC.ret ?_; refine EE.ret _ rfl rfl ?_
    exact ⟨_, rfl, r1, hg1, q⟩
  obtain ⟨y, hy⟩ : ∃ y, (wrdN m)[i]? = some y := ⟨_, List.getElem?_eq_getElem (by omega)⟩
  have hyz : (wrdZ m)[i]? = some (y : Int) := by rw [← hxz, List.getElem?_map, hy]; rfl
  have c1 : W.cell? ⟨g313, 0 + i, none⟩ = some (.int .u64 (y : Int)) := RowL.cell r2 (by rw [show 0 + i = i by omega]; simp [hyz])
  have hst := filL_setE (1 + 256 * l) z (wrdN m) i y (by omega) (by omega) hy
  have hfl : (ints .u64 (filL (1 + 256 * l) z (wrdN m) i)).length = 16 := by simp [ints, filL_len (1 + 256 * l) z (wrdN m) i (by omega) (by omega)]
  refine Zc ?_; refine Zr ?_; refine Zm ?_; refine ZltT ?_; refine Zq ?_; refine CC.yes rfl ?_; refine CC.skip ?_; refine EE.thenN ?_; refine Zc ?_; refine CC.block ?_; refine CC.region ?_; refine Zm ?_; refine Zm ?_
  (refine LL.val (R.addN (a := 2) (b := i) rfl rfl rfl (by omega)) rfl rfl rfl ?_)
  refine Zm ?_
  refine LL.val (R.index rfl rfl rfl (I.ixA1 rfl (by omega))) rfl rfl rfl ?_
  refine Zk ?_
  refine LL.val (R.index rfl rfl rfl (I.ixS1 rfl (by omega))) rfl rfl rfl ?_
  (refine LL.store rfl rfl rfl rfl r1 (by rw [hfl]; omega) rfl rfl rfl rfl ?_; intro Wb60 r9 grb58 zz9; rw [Nat.zero_add, hst] at r9; clear r1; have r1 := r9; clear r9)
  have zgrb58 := grb58.size; replace q := Zg q grb58; replace r2 := Zd r2 grb58; replace c1 := Ze c1 grb58; refine LL.nil ?_; refine EE.inN ?_; refine EE.thenN ?_; refine CC.region ?_; refine Zm ?_
  refine LL.val (R.addNc rfl rfl rfl rfl (by omega)) rfl rfl rfl ?_
  refine Za ?_; refine LL.nil ?_
  exact EE.round (i + 1) ⟨rfl, rfl, rfl, trivial⟩ ⟨by omega, q, r1, r2⟩ (by omega)
  all_goals trace_state
end Go.Proofs.YtnoefalgmekjbaaDoor

/- inode: the document's Words, of links; of all inodes. -/
namespace Go.Proofs.YtnoefalgmekjbaaDoor
set_option linter.unusedVariables false
set_option linter.unusedSimpArgs false
open Go.RowKit Go.Shelf
set_option maxRecDepth 100000
set_option maxHeartbeats 8000000
theorem rlay_form (v : Value) (l : Bs) (w : World) (hv : Reads w v (ints .u8 (nbL l))) (hl : l.length ≤ 1048576) (h1 : 1 ≤ l.length) : Calls Tryd.prog 32 #[v] w fun e w' => ∃ g c, e = .returned (.slice (some ⟨g, 0, none⟩) ((l.length + 7) / 8) c) ∧ Reads w' (.slice (some ⟨g, 0, none⟩) ((l.length + 7) / 8) c) (ints .u64 (layL (nbL l))) ∧ w.heap.size ≤ g ∧ g < w'.heap.size ∧ Below w.heap.size w w' := by
  refine (rlay_own v l w hv hl).mono ?_
  rintro e w' ⟨v', rfl, o, b⟩
  have hr := o.reads
  rcases o.2 with ⟨_, h0⟩ | ⟨g, cap, cur, rfl, hbg, hg, _⟩
  · omega
  · exact ⟨g, cap, rfl, hr, hbg, (Array.getElem?_eq_some_iff.1 hg).1, b⟩
theorem rinW_3 (l : Nat) (t : Bs) (x : Option Addr) (c : Nat) (w : World) (hl : l ≤ 65535) (h : (1 ≤ t.length ∧ t.length ≤ 112) ∧ (0 : UInt8) ∉ t) : Calls Tryd.prog 12 #[inV 3 (l : Int) 0 (.slice x 0 c) 0 0 t] w (wsP (inoW 3 (l : Int) 0 [] 0 0 t) w) := by
  unfold wsP
  have q := Below.refl w.heap.size w
  have hck := fun W => rcheck_3T (l : Int) x c t W (by omega) h.1 h.2
  have ht := h.1
  have hxl := layL_len t
  rw [inoW_3 _ _ _ _ _ _ ht.2]
  clear h
  refine X.fn Tryd.func12 rfl (n := 85) rfl rfl ?_
  refine Zr ?_
  refine LL.box [Value.int IntKind.i64 3, Value.int IntKind.i64 ↑l, Value.int IntKind.i64 0, Value.slice x 0 c, Value.int IntKind.i64 0, Value.int IntKind.i64 0, strV t] rfl rfl rfl rfl rfl ?_
  intro W16 g17 eg17 r18 z19 b15
  replace q := Zu q b15; refine Za ?_; refine Za ?_; refine Zq ?_; refine Zc ?_; refine Zr ?_; refine Zv r18 ?_
  refine LL.call (R.call rfl rfl rfl) rfl rfl rfl (hck _) ?_
  rintro e W85 ⟨rfl, b84⟩
  refine ⟨_, rfl, ?_⟩; have zb84 := b84.size; replace r18 := r18.up b84; replace b15 := Zu b15 b84; replace q := Zu q b84; refine ZneF ?_; refine Zq ?_; refine CC.no rfl ?_; refine CC.skip ?_; refine EE.thenN ?_; refine Zr ?_; have l107 := r18.lt
  (refine LL.makeE (l := 16) (m := 16) ElU14 rfl (by decide) rfl rfl rfl (Nat.le_refl _) (by decide) (by decide) rfl rfl ?_; intro W106 g1 eg1 r1 zg1 b103; replace r1 : RowL W106 g1 41 (ints .u64 (List.replicate 16 0)) := r1)
  have zb103 := b103.size; replace b84 := Zu b84 b103; replace r18 := r18.up b103; replace b15 := Zu b15 b103; replace q := Zu q b103; refine Za ?_; refine Zq ?_; refine Zr ?_; refine Zm ?_; refine Zf ?_; refine Zl r18 ?_
  refine LL.val (R.convI rfl rfl rfl rfl (wrapU (by omega) (by omega))) rfl rfl rfl ?_
  refine Zf ?_; refine Zl r18 ?_
  refine LL.val (R.convI rfl rfl rfl rfl (wrapU (by omega) (by omega))) rfl rfl rfl ?_
  refine LL.val (R.mulUE (a := 256) (b := l) rfl rfl rfl rfl (by omega)) rfl rfl rfl ?_
  refine LL.val (R.addUE (a := 3) (b := 256 * l) rfl rfl rfl rfl (by omega)) rfl rfl rfl ?_
  refine Zi ?_
  refine LL.store rfl rfl rfl rfl r1 (by exact Nat.le_of_ble_eq_true rfl) rfl rfl rfl rfl ?_
  intro W310 r311 b309 z312
  have hlb309 := r1.lt
  replace r311 : RowL W310 _ 41 [Value.int IntKind.u64 ↑(3 + 256 * l), (fun n => Value.int IntKind.u64 ↑n) 0, (fun n => Value.int IntKind.u64 ↑n) 0, (fun n => Value.int IntKind.u64 ↑n) 0, (fun n => Value.int IntKind.u64 ↑n) 0, (fun n => Value.int IntKind.u64 ↑n) 0, (fun n => Value.int IntKind.u64 ↑n) 0, (fun n => Value.int IntKind.u64 ↑n) 0, (fun n => Value.int IntKind.u64 ↑n) 0, (fun n => Value.int IntKind.u64 ↑n) 0, (fun n => Value.int IntKind.u64 ↑n) 0, (fun n => Value.int IntKind.u64 ↑n) 0, (fun n => Value.int IntKind.u64 ↑n) 0, (fun n => Value.int IntKind.u64 ↑n) 0, (fun n => Value.int IntKind.u64 ↑n) 0, (fun n => Value.int IntKind.u64 ↑n) 0] := r311
  clear r1
  replace b103 := Zg b103 b309; replace b84 := Zg b84 b309; replace r18 := Zd r18 b309; replace b15 := Zg b15 b309; replace q := Zg q b309
  have r1 := r311
  clear r311
  refine Zq ?_; refine Zc ?_; refine Zr ?_; refine Zf ?_; refine Zl r18 ?_; refine Zq ?_; refine CC.block ?_; refine Zr ?_; refine ZeqF ?_; refine Za ?_; refine Zq ?_; refine CC.no rfl ?_; refine Zr ?_; refine ZeqF ?_; refine Za ?_; refine Zq ?_; refine CC.no rfl ?_; refine Zr ?_; refine ZeqT ?_; refine Za ?_; refine Zq ?_; refine CC.yes rfl ?_; refine Zr ?_; refine Zm ?_; refine Zf ?_; refine Zl r18 ?_
  refine LL.val (R.lenS rfl rfl rfl rfl) rfl rfl rfl ?_
  refine LL.val (R.convI rfl rfl rfl rfl (wrapU (by omega) (by omega))) rfl rfl rfl ?_
  refine Zi ?_
  refine LL.store rfl rfl rfl rfl r1 (by exact Nat.le_of_ble_eq_true rfl) rfl rfl rfl rfl ?_
  intro W584 r585 b583 z586
  have hlb583 := r1.lt
  replace r585 : RowL W584 _ 41 [Value.int IntKind.u64 ↑(3 + 256 * l), Value.int IntKind.u64 ↑(List.length t), (fun n => Value.int IntKind.u64 n) 0, (fun n => Value.int IntKind.u64 n) 0, (fun n => Value.int IntKind.u64 n) 0, (fun n => Value.int IntKind.u64 n) 0, (fun n => Value.int IntKind.u64 n) 0, (fun n => Value.int IntKind.u64 n) 0, (fun n => Value.int IntKind.u64 n) 0, (fun n => Value.int IntKind.u64 n) 0, (fun n => Value.int IntKind.u64 n) 0, (fun n => Value.int IntKind.u64 n) 0, (fun n => Value.int IntKind.u64 n) 0, (fun n => Value.int IntKind.u64 n) 0, (fun n => Value.int IntKind.u64 n) 0, (fun n => Value.int IntKind.u64 n) 0] := r585
  clear r1
  replace b103 := Zg b103 b583; replace b84 := Zg b84 b583; replace r18 := Zd r18 b583; replace b15 := Zg b15 b583; replace q := Zg q b583
  have r1 := r585
  clear r585
  refine Zq ?_; refine Zr ?_; refine Zf ?_; refine Zl r18 ?_; have l641 := r18.lt; have l642 := r1.lt
  refine LL.strBytes (t) rfl rfl Go.Proofs.Tryd.underlying9 Go.Proofs.Tryd.underlying77 Go.Proofs.Tryd.underlying5 rfl rfl ?_
  intro v645 W644 k646 ev645 r647 b643
  replace b103 := Zu b103 b643; replace b84 := Zu b84 b643; replace r18 := r18.up b643; replace b15 := Zu b15 b643; replace q := Zu q b643; replace r1 := r1.up b643; have l661 := r18.lt; have l662 := r1.lt
  (refine LL.call (R.call rfl rfl rfl) rfl rfl rfl (rlay_form _ t _ (by assumption) (by omega) (by omega)) ?_; rintro e W660 ⟨g8, c8, rfl, o8, hg8, hl8, b657⟩; refine ⟨_, rfl, ?_⟩)
  have zb657 := b657.size; replace r647 := r647.up b657; replace b643 := Zu b643 b657; replace b103 := Zu b103 b657; replace b84 := Zu b84 b657; replace r18 := r18.up b657; replace b15 := Zu b15 b657; replace q := Zu q b657; replace r1 := r1.up b657; refine Za ?_; refine Zq ?_; refine Zr ?_; refine Za ?_; refine Zq ?_; refine CC.block ?_
  have r1b : RowL W660 g1 41 (ints .u64 (filL (3 + 256 * l) t.length (layL (nbL t)) 0)) := r1
  have hg1 : w.heap.size ≤ g1 := by omega
  have hne : g8 ≠ g1 := by omega
  clear r1
  obtain ⟨N, hN⟩ : ∃ N, (t.length + 7) / 8 = N := ⟨_, rfl⟩
  rw [hN] at o8 hxl ⊢
  have hN14 : N ≤ 14 := by omega
  refine CC.loop (α := Nat) (fun i => [(4, .slice (some ⟨g1, 0, none⟩) 16 16), (7, .slice (some ⟨g8, 0, none⟩) N c8), (8, .int .i64 (i : Int))]) (fun i W => i ≤ N ∧ Below w.heap.size w W ∧ RowL W g1 41 (ints .u64 (filL (3 + 256 * l) t.length (layL (nbL t)) i)) ∧ Reads W (.slice (some ⟨g8, 0, none⟩) N c8) (ints .u64 (layL (nbL t)))) (fun i => N - i) 0 ⟨rfl, rfl, rfl, trivial⟩ ⟨by omega, q, r1b, o8⟩ ?_
  clear q r1b o8 r18 b15 b84 b103 b643 b657 r647
  rintro i W ⟨hi, q, r1, r2⟩
  show CC none Tryd.prog _ 85 [] (sl [(4, .slice (some ⟨g1, 0, none⟩) 16 16), (7, .slice (some ⟨g8, 0, none⟩) N c8), (8, .int .i64 (i : Int))]) _ W
  have yq := q.size
  by_cases hlt : i < N
  case neg =>
    obtain rfl : i = N := by omega
    have hfa := filL_all (3 + 256 * l) t.length (layL (nbL t))
    rw [hxl] at hfa
    rw [hfa] at r1
    refine Zc ?_; refine Zr ?_; refine Zm ?_; refine Zm ?_; refine Zn ?_; refine ZltF ?_; refine Zq ?_; refine CC.no rfl ?_; refine CC.exit ?_; refine EE.thenX ?_; refine EE.thenX ?_; refine EE.inX ?_; refine EE.inN ?_; refine EE.thenN ?_; refine Zr ?_; refine Zm ?_; refine Za ?_; refine Za ?_; refine Zq ?_; refine CC.ret ?_; refine EE.ret _ rfl rfl ?_
    exact ⟨_, rfl, r1, hg1, q⟩
  obtain ⟨y, hy⟩ : ∃ y, (layL (nbL t))[i]? = some y := ⟨_, List.getElem?_eq_getElem (by omega)⟩
  have c1 : W.cell? ⟨g8, 0 + i, none⟩ = some (.int .u64 (y : Int)) := by
    obtain ⟨_, _, h3⟩ := r2.at
    obtain ⟨b, off, e, _, h4⟩ := h3 (by omega)
    cases e
    rw [h4 i (by omega)]
    simp [ints, hy]
  have hst := filL_setE (3 + 256 * l) t.length (layL (nbL t)) i y (by omega) (by omega) hy
  have hfl : (ints .u64 (filL (3 + 256 * l) t.length (layL (nbL t)) i)).length = 16 := by simp [ints, filL_len (3 + 256 * l) t.length (layL (nbL t)) i (by omega) (by omega)]
  refine Zc ?_; refine Zr ?_; refine Zm ?_; refine Zm ?_; refine Zn ?_; refine ZltT ?_; refine Zq ?_; refine CC.yes rfl ?_; refine CC.skip ?_; refine EE.thenN ?_; refine Zc ?_; refine CC.block ?_; refine CC.region ?_; refine Zm ?_; refine Zm ?_
  (refine LL.val (R.addN (a := 2) (b := i) rfl rfl rfl (by omega)) rfl rfl rfl ?_)
  refine Zm ?_; refine Zm ?_
  refine LL.val (R.index rfl rfl rfl (I.ixS1 rfl (by omega))) rfl rfl rfl ?_
  refine Zk ?_
  refine LL.val (R.index rfl rfl rfl (I.ixS1 rfl (by omega))) rfl rfl rfl ?_
  (refine LL.store rfl rfl rfl rfl r1 (by rw [hfl]; omega) rfl rfl rfl rfl ?_; intro Wb81 r9 grb79 zz9; rw [Nat.zero_add, hst] at r9; clear r1; have r1 := r9; clear r9)
  have zgrb79 := grb79.size; replace q := Zg q grb79
  replace r2 := r2.gr grb79 (by omega)
  replace c1 := Ze c1 grb79; refine LL.nil ?_; refine EE.inN ?_; refine EE.thenN ?_; refine CC.region ?_; refine Zm ?_
  refine LL.val (R.addNc rfl rfl rfl rfl (by omega)) rfl rfl rfl ?_
  refine Za ?_; refine LL.nil ?_
  exact EE.round (i + 1) ⟨rfl, rfl, rfl, trivial⟩ ⟨by omega, q, r1, r2⟩ (by omega)
theorem rinW_ok (k l z : Int) (x : Option Addr) (n c : Nat) (m : List Ex) (r p : Int) (t : Bs) (w : World) (hv : ReadsT eE 3 w (.slice x n c) m) (hlen : m.length ≤ 1048576) (h : okI k l z m r p t) : Calls Tryd.prog 12 #[inV k l z (.slice x n c) r p t] w (wsP (inoW k l z m r p t) w) := by
  have hn : m.length = n := by obtain ⟨_, _, e, _⟩ := hv; cases e; rfl
  obtain ⟨hl, ⟨rfl, rfl, rfl, rfl, rfl, rfl, rfl⟩ | ⟨rfl, rfl, rfl, rfl, hf⟩ | ⟨rfl, rfl, rfl, rfl, h1⟩ | ⟨rfl, rfl, rfl, rfl, rfl, h1⟩⟩ := h
  · obtain rfl : n = 0 := by simpa using hn.symm
    exact rinW_0 x c w
  · obtain ⟨l, rfl⟩ : ∃ y : Nat, l = (y : Int) := ⟨l.toNat, by omega⟩
    have hz := hf.1
    obtain ⟨z, rfl⟩ : ∃ y : Nat, z = (y : Int) := ⟨z.toNat, by omega⟩
    exact rinW_1 l z x n c m w hv hlen (by omega) hf
  · obtain rfl : n = 0 := by simpa using hn.symm
    obtain ⟨l, rfl⟩ : ∃ y : Nat, l = (y : Int) := ⟨l.toNat, by omega⟩
    obtain ⟨r, rfl⟩ : ∃ y : Nat, r = (y : Int) := ⟨r.toNat, by omega⟩
    obtain ⟨p, rfl⟩ : ∃ y : Nat, p = (y : Int) := ⟨p.toNat, by omega⟩
    exact rinW_2 l r p x c w (by omega) (by omega) (by omega)
  · obtain rfl : n = 0 := by simpa using hn.symm
    obtain ⟨l, rfl⟩ : ∃ y : Nat, l = (y : Int) := ⟨l.toNat, by omega⟩
    exact rinW_3 l t x c w (by omega) h1
end Go.Proofs.YtnoefalgmekjbaaDoor

/- inode: Of of an inode's words, of none's. -/
namespace Go.Proofs.YtnoefalgmekjbaaDoor
set_option linter.unusedVariables false
set_option linter.unusedSimpArgs false
open Go.RowKit Go.Shelf
set_option maxRecDepth 100000
set_option maxHeartbeats 8000000
theorem wrdN_lt {m : List Ex} (h : ∀ x ∈ m, mayE x) : ∀ x ∈ wrdN m, x < 18446744073709551616 := by
  intro x hx
  unfold wrdN at hx
  obtain ⟨z, hz, rfl⟩ := List.mem_map.1 hx
  obtain ⟨i, hi⟩ := List.mem_iff_getElem?.1 hz
  have := wrdZ_bnd h i z hi
  omega
theorem inoW_lt {k l z : Int} {m : List Ex} {r p : Int} {t : Bs} (h : okI k l z m r p t) : ∀ x ∈ inoW k l z m r p t, x < 18446744073709551616 := by
  obtain ⟨hl, ⟨rfl, rfl, rfl, rfl, rfl, rfl, rfl⟩ | ⟨rfl, rfl, rfl, rfl, hf⟩ | ⟨rfl, rfl, rfl, rfl, h1⟩ | ⟨rfl, rfl, rfl, rfl, rfl, h1⟩⟩ := h
  · rw [inoW_0]
    intro x hx
    rw [(List.mem_replicate.1 hx).2]
    decide
  · rw [inoW_1 _ _ _ _ _ _ hf.2.1]
    have hz := hf.1
    intro x hx
    simp only [List.mem_cons, List.mem_append] at hx
    rcases hx with rfl | rfl | hx | hx
    · omega
    · omega
    · exact wrdN_lt hf.2.1.2.1 x hx
    · rw [(List.mem_replicate.1 hx).2]
      decide
  · rw [inoW_2]
    intro x hx
    simp only [List.mem_cons] at hx
    rcases hx with rfl | rfl | rfl | rfl | hx
    · omega
    · decide
    · omega
    · omega
    · rw [(List.mem_replicate.1 hx).2]
      decide
  · rw [inoW_3 _ _ _ _ _ _ h1.1.2]
    intro x hx
    simp only [List.mem_cons, List.mem_append] at hx
    rcases hx with rfl | rfl | hx | hx
    · omega
    · omega
    · exact lay_small _ (nbL_lt t) x hx
    · rw [(List.mem_replicate.1 hx).2]
      decide
end Go.Proofs.YtnoefalgmekjbaaDoor

/- InodeSame: the walk. -/
namespace Go.Proofs.YtnoefalgmekjbaaDoor
set_option linter.unusedVariables false
set_option linter.unusedSimpArgs false
open Go.RowKit Go.Shelf
set_option maxRecDepth 100000
set_option maxHeartbeats 8000000
theorem few_any (k l z : Int) (x : Option Addr) (n c : Nat) (r p : Int) (t : Bs) (w : World) (hn : n ≤ 9223372036854775807) (ht : t.length ≤ 9223372036854775807) (b : Bool) (hb : b = decide (n ≤ 30 ∧ t.length ≤ 300)) : Calls Tryd.prog 9 #[inV k l z (.slice x n c) r p t] w fun e w' => e = .returned (.bool b) ∧ Below w.heap.size w w' := by
  have q := Below.refl w.heap.size w
  by_cases hA : n ≤ 30
  · by_cases hB : t.length ≤ 300
    · rw [decide_eq_true ⟨hA, hB⟩] at hb
      subst hb
      refine X.fn Tryd.func9 rfl (n := 13) rfl rfl ?_
      refine Zr ?_
      refine LL.box [Value.int IntKind.i64 k, Value.int IntKind.i64 l, Value.int IntKind.i64 z, Value.slice x n c, Value.int IntKind.i64 r, Value.int IntKind.i64 p, strV t] rfl rfl rfl rfl rfl ?_
      intro W2 g3 eg3 r4 z5 b1
      replace q := Zu q b1; refine Za ?_; refine Zq ?_; refine Zr ?_; refine Zf ?_; refine Zl r4 ?_; refine Zn ?_; refine ZleT ?_; refine Zm ?_; refine Zf ?_; refine Zl r4 ?_
      refine LL.val (R.lenS rfl rfl rfl rfl) rfl rfl rfl ?_
      refine ZleT ?_; refine Zp ?_; refine Za ?_; refine Zq ?_; refine CC.ret ?_; refine EE.ret _ rfl rfl ?_
      exact ⟨rfl, q⟩
    · rw [decide_eq_false (fun h => hB h.2)] at hb
      subst hb
      refine X.fn Tryd.func9 rfl (n := 13) rfl rfl ?_
      refine Zr ?_
      refine LL.box [Value.int IntKind.i64 k, Value.int IntKind.i64 l, Value.int IntKind.i64 z, Value.slice x n c, Value.int IntKind.i64 r, Value.int IntKind.i64 p, strV t] rfl rfl rfl rfl rfl ?_
      intro Wa2 ga3 ega3 ra4 za5 ba1
      replace q := Zu q ba1; refine Za ?_; refine Zq ?_; refine Zr ?_; refine Zf ?_; refine Zl ra4 ?_; refine Zn ?_; refine ZleT ?_; refine Zm ?_; refine Zf ?_; refine Zl ra4 ?_
      refine LL.val (R.lenS rfl rfl rfl rfl) rfl rfl rfl ?_
      refine ZleF ?_; refine Zp ?_; refine Za ?_; refine Zq ?_; refine CC.ret ?_; refine EE.ret _ rfl rfl ?_
      exact ⟨rfl, q⟩
  · rw [decide_eq_false (fun h => hA h.1)] at hb
    subst hb
    refine X.fn Tryd.func9 rfl (n := 13) rfl rfl ?_
    refine Zr ?_
    refine LL.box [Value.int IntKind.i64 k, Value.int IntKind.i64 l, Value.int IntKind.i64 z, Value.slice x n c, Value.int IntKind.i64 r, Value.int IntKind.i64 p, strV t] rfl rfl rfl rfl rfl ?_
    intro Wb2 gb3 egb3 rb4 zb5 bb1
    replace q := Zu q bb1; refine Za ?_; refine Zq ?_; refine Zr ?_; refine Zf ?_; refine Zl rb4 ?_; refine Zn ?_; refine ZleF ?_; refine Zm ?_; refine Zs ?_; refine Zs ?_; refine Zs ?_; refine Zs ?_; refine Zp ?_; refine Za ?_; refine Zq ?_; refine CC.ret ?_; refine EE.ret _ rfl rfl ?_
    exact ⟨rfl, q⟩
--C law14_few | hfa @w | ⟨rfl, @b⟩
--C law14_few | hfb @w | ⟨rfl, @b⟩
--C inode_Same | hsa @w (q.trans (b'.mono q.size)) | ⟨rfl, @b⟩
--C inode_Same | hss @w (q.trans (b'.mono q.size)) | ⟨rfl, @b⟩
--C ref14_Same | hsr @w (q.trans (b'.mono q.size)) | ⟨rfl, @b⟩
--C law14_works | works_any @w (hSF _ q) | ⟨rfl, @b⟩
--C law14_works | works_any @w (hSF _ (q.trans (b'.mono q.size))) | ⟨rfl, @b⟩
end Go.Proofs.YtnoefalgmekjbaaDoor

/- InodeWords: the walk. -/
namespace Go.Proofs.YtnoefalgmekjbaaDoor
set_option linter.unusedVariables false
set_option linter.unusedSimpArgs false
open Go.RowKit Go.Shelf
set_option maxRecDepth 100000
set_option maxHeartbeats 8000000
end Go.Proofs.YtnoefalgmekjbaaDoor

/- inode: the document's Of (written by gen29.py). -/
namespace Go.Proofs.YtnoefalgmekjbaaDoor
set_option linter.unusedVariables false
set_option linter.unusedSimpArgs false
open Go.RowKit Go.Shelf
set_option maxRecDepth 100000
set_option maxHeartbeats 8000000
section
variable {P : Program} {w : World} {t u T : TypeId} {o : Oper} {x y : Operand} {n e k : Nat} {D : List Deferred} {M : Slots}
end
section
variable (bk off cap : Nat) (ws : List Nat) (w : World) (x0 x1 x2 x3 l : Nat)
end
end Go.Proofs.YtnoefalgmekjbaaDoor

/- inode: the document's Of, of directories (written by gen29.py). -/
namespace Go.Proofs.YtnoefalgmekjbaaDoor
set_option linter.unusedVariables false
set_option linter.unusedSimpArgs false
open Go.RowKit Go.Shelf
set_option maxRecDepth 100000
set_option maxHeartbeats 8000000
end Go.Proofs.YtnoefalgmekjbaaDoor

/- inode: the document's Read once more: what it gives back is new. -/
namespace Go.Proofs.YtnoefalgmekjbaaDoor
set_option linter.unusedVariables false
set_option linter.unusedSimpArgs false
open Go.RowKit Go.Shelf
set_option maxRecDepth 100000
set_option maxHeartbeats 8000000
end Go.Proofs.YtnoefalgmekjbaaDoor

/- inode: the document's Of, of files (written by gen29.py). -/
namespace Go.Proofs.YtnoefalgmekjbaaDoor
set_option linter.unusedVariables false
set_option linter.unusedSimpArgs false
open Go.RowKit Go.Shelf
set_option maxRecDepth 100000
set_option maxHeartbeats 8000000
end Go.Proofs.YtnoefalgmekjbaaDoor

/- inode: the document's Of, of links (written by gen29.py). -/
namespace Go.Proofs.YtnoefalgmekjbaaDoor
set_option linter.unusedVariables false
set_option linter.unusedSimpArgs false
open Go.RowKit Go.Shelf
set_option maxRecDepth 100000
set_option maxHeartbeats 8000000
end Go.Proofs.YtnoefalgmekjbaaDoor

/- inode: the document's Of, of links (written by gen29.py). -/
namespace Go.Proofs.YtnoefalgmekjbaaDoor
set_option linter.unusedVariables false
set_option linter.unusedSimpArgs false
open Go.RowKit Go.Shelf
set_option maxRecDepth 100000
set_option maxHeartbeats 8000000
end Go.Proofs.YtnoefalgmekjbaaDoor

/- inode: the document's Of, of links (written by gen29.py). -/
namespace Go.Proofs.YtnoefalgmekjbaaDoor
set_option linter.unusedVariables false
set_option linter.unusedSimpArgs false
open Go.RowKit Go.Shelf
set_option maxRecDepth 100000
set_option maxHeartbeats 8000000
end Go.Proofs.YtnoefalgmekjbaaDoor

/- inode: the document's Of, of links (written by gen29.py). -/
namespace Go.Proofs.YtnoefalgmekjbaaDoor
set_option linter.unusedVariables false
set_option linter.unusedSimpArgs false
open Go.RowKit Go.Shelf
set_option maxRecDepth 100000
set_option maxHeartbeats 8000000
end Go.Proofs.YtnoefalgmekjbaaDoor

/- inode: the document's Of of an inode's words, of none's. -/
namespace Go.Proofs.YtnoefalgmekjbaaDoor
set_option linter.unusedVariables false
set_option linter.unusedSimpArgs false
open Go.RowKit Go.Shelf
set_option maxRecDepth 100000
set_option maxHeartbeats 8000000
end Go.Proofs.YtnoefalgmekjbaaDoor

/- InodeReads: the walk. -/
namespace Go.Proofs.YtnoefalgmekjbaaDoor
set_option linter.unusedVariables false
set_option linter.unusedSimpArgs false
open Go.RowKit Go.Shelf
set_option maxRecDepth 100000
set_option maxHeartbeats 8000000
theorem reads_wds {a : Option Addr} {cap : Nat} {ws : List Nat} {w : World} (h : Reads w (.slice a 16 cap) (ints .u64 ws)) (hl : ws.length = 16) : ∃ bk off, a = some ⟨bk, off, none⟩ ∧ WdsAt w bk off ws ∧ 16 ≤ cap := by
  obtain ⟨a', c', e, hc, h3⟩ := h.intsN hl
  obtain ⟨b, off, rfl, hb, h4⟩ := h3 (by omega)
  cases e
  refine ⟨b, off, rfl, ⟨fun j x hj => ?_, hb⟩, hc⟩
  have := (List.getElem?_eq_some_iff.1 hj).1
  rw [h4 j (by omega), hj]
  rfl
--C ref01_Same | hsN @w _ (r81.up b') (hWF _ (q.trans (b'.mono q.size))) | ⟨rfl, @b⟩
--C ref01_Same | hsN @w _ r81 (hWF _ q) | ⟨rfl, @b⟩
end Go.Proofs.YtnoefalgmekjbaaDoor

/- inode: Stores. -/
namespace Go.Proofs.YtnoefalgmekjbaaDoor
set_option linter.unusedVariables false
set_option linter.unusedSimpArgs false
open Go.RowKit Go.Shelf
set_option maxRecDepth 100000
set_option maxHeartbeats 8000000
/-- A store: where, and what. An act: its kind, where, and what. -/
abbrev Pt := Int × Nat

def pE (p : Pt) : List Value := [.int .i64 p.1, .int .u64 (p.2 : Int)]

theorem pEnc : Enc pE 2 := ⟨fun _ => rfl, fun t u hu => by
  simp only [pE, List.mem_cons, List.not_mem_nil, or_false] at hu
  rcases hu with rfl | rfl <;> rfl, by decide⟩

theorem Tryd.infoPut : (Tryd.prog.info? 59).map (fun i => (i.zero, i.size, i.bytes)) = some (some (.agg #[.int .i64 0, .int .u64 0]), 2, 16) := by kernel_rfl

theorem ElPut : ElT Tryd.prog 45 59 (.agg #[.int .i64 0, .int .u64 0]) 2 16 := info_parts_t Tryd.underlying45 Tryd.infoPut rfl

/-- The stores that make words these, of the first so many. -/
def difS (a : Nat) (ws was : List Nat) (i : Nat) : List Pt := (List.range i).filterMap fun j => if (ws[j]?).getD 0 = (was[j]?).getD 0 then none else some (((a + j : Nat) : Int), (ws[j]?).getD 0)
theorem difS_succ {a : Nat} {ws was : List Nat} {i x y : Nat} (hx : ws[i]? = some x) (hy : was[i]? = some y) : difS a ws was (i + 1) = difS a ws was i ++ if x = y then [] else [(((a + i : Nat) : Int), x)] := by
  unfold difS
  rw [List.range_succ, List.filterMap_append]
  congr 1
  rw [List.filterMap_cons, hx, hy]
  simp only [Option.getD_some]
  by_cases h : x = y
  · rw [if_pos h, if_pos h]; rfl
  · rw [if_neg h, if_neg h]; rfl
theorem difS_len (a : Nat) (ws was : List Nat) (i : Nat) : (difS a ws was i).length ≤ i := by
  unfold difS
  refine Nat.le_trans (List.length_filterMap_le _ _) (by simp)
theorem stI_F (a : Nat) (x1 : Option Addr) (n1 c1 : Nat) (k l z : Int) (x : Option Addr) (n c : Nat) (m : List Ex) (r p : Int) (t : Bs) (w : World) (hv : ReadsT eE 3 w (.slice x n c) m) (hlen : m.length ≤ 1048576) (htl : t.length ≤ 1048576) (h : ¬okI k l z m r p t) : Calls Tryd.prog 20 #[.int .i64 (a : Int), .slice x1 n1 c1, inV k l z (.slice x n c) r p t] w fun e w' => e = .returned (.tuple #[.slice none 0 0, .int .i64 240]) ∧ Below w.heap.size w w' := by
  have q := Below.refl w.heap.size w
  have hwn := fun W (b : Below w.heap.size w W) => words_no k l z x n c m r p t W (hv.up b) hlen htl h
  clear hv
  refine X.fn Tryd.func20 rfl (n := 48) rfl rfl ?_
  refine Zr ?_
  refine LL.box [Value.int IntKind.i64 k, Value.int IntKind.i64 l, Value.int IntKind.i64 z, Value.slice x n c, Value.int IntKind.i64 r, Value.int IntKind.i64 p, strV t] rfl rfl rfl rfl rfl ?_
  intro W2 g3 eg3 r4 z5 b1
  replace q := Zu q b1; refine Za ?_; refine Za ?_; refine Zq ?_; refine Zr ?_; refine Zv r4 ?_
  refine LL.call (R.call rfl rfl rfl) rfl rfl rfl (hwn _ q) ?_
  rintro e W7 ⟨rfl, b6⟩
  refine ⟨_, rfl, ?_⟩; have zb6 := b6.size; replace r4 := r4.up b6; replace b1 := Zu b1 b6; replace q := Zu q b6; refine Zm ?_; refine Zx ?_; refine Zx ?_; refine Za ?_; refine Za ?_; refine Zq ?_; refine Zc ?_; refine Zr ?_; refine Zm ?_; refine ZneT ?_; refine Zm ?_; refine Zs ?_; refine Zs ?_; refine Zs ?_; refine Zp ?_; refine Zq ?_; refine CC.yes rfl ?_; refine Zr ?_; refine Za ?_; refine Za ?_
  refine Zq ?_; refine CC.ret ?_; refine EE.thenR ?_; refine EE.ret _ rfl rfl ?_
  exact ⟨rfl, q⟩
theorem stI_L (a : Nat) (x1 : Option Addr) (n1 c1 : Nat) (hn : n1 ≠ 16) (hn2 : n1 ≤ 1048576) (k l z : Int) (x : Option Addr) (n c : Nat) (m : List Ex) (r p : Int) (t : Bs) (w : World) (hS : Start w) (hv : ReadsT eE 3 w (.slice x n c) m) (hlen : m.length ≤ 1048576) (h : okI k l z m r p t) : Calls Tryd.prog 20 #[.int .i64 (a : Int), .slice x1 n1 c1, inV k l z (.slice x n c) r p t] w fun e w' => e = .returned (.tuple #[.slice none 0 0, .int .i64 240]) ∧ Below w.heap.size w w' := by
  have q := Below.refl w.heap.size w
  have hwy := fun W (b : Below w.heap.size w W) => words_ok k l z x n c m r p t W (hS.up b) (hv.up b) hlen h
  unfold wsP at hwy
  clear hv hS
  refine X.fn Tryd.func20 rfl (n := 48) rfl rfl ?_
  refine Zr ?_
  refine LL.box [Value.int IntKind.i64 k, Value.int IntKind.i64 l, Value.int IntKind.i64 z, Value.slice x n c, Value.int IntKind.i64 r, Value.int IntKind.i64 p, strV t] rfl rfl rfl rfl rfl ?_
  intro W9 g10 eg10 r11 z12 b8
  replace q := Zu q b8; refine Za ?_; refine Za ?_; refine Zq ?_; refine Zr ?_; refine Zv r11 ?_; have l41 := r11.lt
  (refine LL.call (R.call rfl rfl rfl) rfl rfl rfl (hwy _ q) ?_; rintro e W40 ⟨g8, rfl, r81, hg8, b37⟩; refine ⟨_, rfl, ?_⟩)
  have zb37 := b37.size; replace r11 := r11.up b37; replace b8 := Zu b8 b37; replace q := Zu q b37; refine Zm ?_; refine Zx ?_; refine Zx ?_; refine Za ?_; refine Za ?_; refine Zq ?_; refine Zc ?_; refine Zr ?_; refine Zm ?_; refine ZneF ?_; refine Zm ?_; refine Zm ?_; refine Zn ?_; refine ZneT ?_; refine Zp ?_; refine Zq ?_; refine CC.yes rfl ?_; refine Zr ?_; refine Za ?_; refine Za ?_; refine Zq ?_
  refine CC.ret ?_; refine EE.thenR ?_; refine EE.ret _ rfl rfl ?_
  exact ⟨rfl, q⟩
theorem stI_T (a bk off c1 : Nat) (was : List Nat) (k l z : Int) (x : Option Addr) (n c : Nat) (m : List Ex) (r p : Int) (t : Bs) (w : World) (hS : Start w) (hv : ReadsT eE 3 w (.slice x n c) m) (hlen : m.length ≤ 1048576) (h : okI k l z m r p t) (ha : a ≤ 1099511627776) (hW : WdsAt w bk off was) (hwl : was.length = 16) : Calls Tryd.prog 20 #[.int .i64 (a : Int), .slice (some ⟨bk, off, none⟩) 16 c1, inV k l z (.slice x n c) r p t] w fun e w' => ∃ v, e = .returned (.tuple #[v, .int .i64 0]) ∧ OwnsT pE 2 w' w.heap.size 59 v (difS a (inoW k l z m r p t) was 16) ∧ Below w.heap.size w w' := by
  have q := Below.refl w.heap.size w
  have hwy := fun W (b : Below w.heap.size w W) => words_ok k l z x n c m r p t W (hS.up b) (hv.up b) hlen h
  have hWF := fun X (b : Below w.heap.size w X) => hW.up b
  have hxl := inoW_len h
  have hxb := inoW_lt h
  obtain ⟨ws, ews⟩ : ∃ ws, inoW k l z m r p t = ws := ⟨_, rfl⟩
  unfold wsP at hwy
  rw [ews] at hwy hxl hxb ⊢
  clear hv hS hW
  refine X.fn Tryd.func20 rfl (n := 48) rfl rfl ?_
  refine Zr ?_
  refine LL.box [Value.int IntKind.i64 k, Value.int IntKind.i64 l, Value.int IntKind.i64 z, Value.slice x n c, Value.int IntKind.i64 r, Value.int IntKind.i64 p, strV t] rfl rfl rfl rfl rfl ?_
  intro W9 g10 eg10 r11 z12 b8
  replace q := Zu q b8; refine Za ?_; refine Za ?_; refine Zq ?_; refine Zr ?_; refine Zv r11 ?_; have l41 := r11.lt
  (refine LL.call (R.call rfl rfl rfl) rfl rfl rfl (hwy _ q) ?_; rintro e W40 ⟨g8, rfl, r81, hg8, b37⟩; refine ⟨_, rfl, ?_⟩)
  have zb37 := b37.size; replace r11 := r11.up b37; replace b8 := Zu b8 b37; replace q := Zu q b37; refine Zm ?_; refine Zx ?_; refine Zx ?_; refine Za ?_; refine Za ?_; refine Zq ?_; refine Zc ?_; refine Zr ?_; refine Zm ?_; refine ZneF ?_; refine Zm ?_; refine Zm ?_; refine Zn ?_; refine ZneF ?_; refine Zp ?_; refine Zq ?_; refine CC.no rfl ?_; refine CC.skip ?_; refine EE.thenN ?_; refine Zr ?_
  refine Za ?_; refine Zq ?_; refine Zc ?_; refine Zr ?_; refine Zm ?_; refine Zn ?_; refine Zm ?_; refine Zq ?_; refine CC.block ?_
  have hwg : w.heap.size ≤ W40.heap.size := q.size
  have l8 := r81.lt
  have hbk := (hWF w (Below.refl _ _)).lt
  obtain ⟨B, hB⟩ : ∃ B, W40.heap.size = B := ⟨_, rfl⟩
  rw [hB] at hwg l8
  refine CC.loop (α := Nat × Value) (fun s => [(0, .int .i64 (a : Int)), (1, .slice (some ⟨bk, off, none⟩) 16 c1), (10, s.2), (25, .slice (some ⟨g8, 0, none⟩) 16 16), (26, .int .i64 16), (27, .int .i64 (s.1 : Int))]) (fun s W => s.1 ≤ 16 ∧ Below w.heap.size w W ∧ B ≤ W.heap.size ∧ RowL W g8 41 (ints .u64 ws) ∧ OwnsT pE 2 W B 59 s.2 (difS a ws was s.1)) (fun s => 16 - s.1) (0, .slice none 0 0) ⟨rfl, rfl, rfl, rfl, rfl, rfl, trivial⟩ ⟨by show 0 ≤ 16; omega, q, by omega, r81, OwnsT.none _ _ _⟩ ?_
  clear q r81 r11 b37 b8
  rintro ⟨i, v⟩ W ⟨hi, q, yB, r81, o⟩
  simp only at hi o yB r81
  show CC none Tryd.prog _ 48 [] (sl [(0, .int .i64 (a : Int)), (1, .slice (some ⟨bk, off, none⟩) 16 c1), (10, v), (25, .slice (some ⟨g8, 0, none⟩) 16 16), (26, .int .i64 16), (27, .int .i64 (i : Int))]) _ W
  have yq := q.size
  by_cases hlt : i < 16
  case neg =>
    obtain rfl : i = 16 := by omega
    have o2 := o.lower hwg
    refine Zr ?_; refine ZltF ?_; refine Zq ?_; refine Zc ?_; refine CC.no rfl ?_; refine CC.exit ?_; refine EE.thenX ?_; refine EE.thenX ?_; refine EE.inX ?_; refine EE.thenN ?_; refine Zr ?_; refine Zm ?_; refine Za ?_; refine Za ?_; refine Zq ?_; refine CC.ret ?_; refine EE.ret _ rfl rfl ?_
    exact ⟨_, rfl, o2, q⟩
  obtain ⟨u, hu⟩ : ∃ u, ws[i]? = some u := ⟨_, List.getElem?_eq_getElem (by omega)⟩
  obtain ⟨y, hy⟩ : ∃ y, was[i]? = some y := ⟨_, List.getElem?_eq_getElem (by omega)⟩
  have hst := difS_succ (a := a) hu hy
  have hdl := difS_len a ws was i
  have hub := hxb u (List.mem_of_getElem? hu)
  have c1 : W.cell? ⟨g8, 0 + i, none⟩ = some (.int .u64 (u : Int)) := RowL.cell r81 (by rw [show 0 + i = i by omega]; simp [ints, hu])
  have c2 := (hWF W q).cells _ _ hy
  by_cases huy : u = y
  · rw [if_pos huy, List.append_nil] at hst
    refine Zr ?_; refine ZltT ?_; refine Zq ?_; refine Zc ?_; refine CC.yes rfl ?_; refine CC.skip ?_; refine EE.thenN ?_; refine Zc ?_; refine CC.block ?_; refine Zr ?_; refine Zm ?_
    refine LL.val (R.index rfl rfl rfl (I.ixS1 rfl (by omega))) rfl rfl rfl ?_
    refine Zk ?_; refine Za ?_; refine Za ?_; refine Zq ?_; refine Zr ?_; refine Zm ?_; refine Zm ?_; refine Zm ?_
    refine LL.val (R.index rfl rfl rfl (I.ixS1 rfl (by omega))) rfl rfl rfl ?_
    refine Zk ?_; refine ZneF ?_; refine Zq ?_; refine CC.no rfl ?_; refine CC.skip ?_; refine EE.inN ?_; refine EE.thenN ?_; refine CC.region ?_
    refine LL.val (R.addNc rfl rfl rfl rfl (by omega)) rfl rfl rfl ?_
    refine Zm ?_; refine LL.nil ?_
    exact EE.round (i + 1, v) ⟨rfl, rfl, rfl, rfl, rfl, rfl, trivial⟩ ⟨by show i + 1 ≤ 16; omega, q, yB, r81, by show OwnsT pE 2 _ _ _ v (difS a ws was (i + 1)); rw [hst]; exact o⟩ (by show 16 - (i + 1) < 16 - i; omega)
  rw [if_neg huy] at hst
  refine Zr ?_; refine ZltT ?_; refine Zq ?_; refine Zc ?_; refine CC.yes rfl ?_; refine CC.skip ?_; refine EE.thenN ?_; refine Zc ?_; refine CC.block ?_; refine Zr ?_; refine Zm ?_
  refine LL.val (R.index rfl rfl rfl (I.ixS1 rfl (by omega))) rfl rfl rfl ?_
  refine Zk ?_; refine Za ?_; refine Za ?_; refine Zq ?_; refine Zr ?_; refine Zm ?_; refine Zm ?_; refine Zm ?_
  refine LL.val (R.index rfl rfl rfl (I.ixS1 rfl (by omega))) rfl rfl rfl ?_
  refine Zk ?_; refine ZneT ?_; refine Zq ?_; refine CC.yes rfl ?_; refine CC.region ?_; refine Zm ?_; refine Zm ?_; refine Zm ?_
  refine LL.val (R.addN rfl rfl rfl (by omega)) rfl rfl rfl ?_
  refine Zm ?_
  refine LL.val (R.buildV rfl rfl (v := .agg #[Value.int IntKind.i64 ↑(a + i), Value.int IntKind.u64 ↑u]) (fun _ => by kernel_rfl)) rfl rfl rfl ?_
  have lc1 := r81.lt
  refine LL.lit (e := 59) [Value.int IntKind.i64 ↑(a + i), Value.int IntKind.u64 ↑u] 1 rfl rfl (fun _ => by kernel_rfl) rfl rfl ?_
  intro Wc3 gc4 egc4 rc5 zc6 bc2
  replace q := Zu q bc2; replace r81 := r81.up bc2; replace o := o.up bc2; replace c1 := cell_up c1 bc2; replace c2 := cell_up c2 bc2
  (refine LL.appendT2 rfl rfl pEnc ElPut o (RowL.readsT (ts := [(((a + i : Nat) : Int), u)]) pEnc (by assumption) 1 (by simp)) (by simp [maxLen]; omega) (by simp; omega) (by have := q.size; omega) rfl rfl ?_; intro v' Wa oa gra hva; have yz := q.size; replace q := q.grown gra yz (fun g hg => by have := own_ge o g hg; omega); replace r81 := r81.grO gra (own_ne o l8); have hsz := gra.size; rw [← hst] at oa)
  refine Za ?_; refine LL.nil ?_; refine EE.inN ?_; refine EE.thenN ?_; refine CC.region ?_
  refine LL.val (R.addNc rfl rfl rfl rfl (by omega)) rfl rfl rfl ?_
  refine Zm ?_; refine LL.nil ?_
  exact EE.round (i + 1, v') ⟨rfl, rfl, rfl, rfl, rfl, rfl, trivial⟩ ⟨by show i + 1 ≤ 16; omega, q, by show B ≤ _; omega, r81, oa⟩ (by show 16 - (i + 1) < 16 - i; omega)
end Go.Proofs.YtnoefalgmekjbaaDoor

/- inode: the document's Stores. -/
namespace Go.Proofs.YtnoefalgmekjbaaDoor
set_option linter.unusedVariables false
set_option linter.unusedSimpArgs false
open Go.RowKit Go.Shelf
set_option maxRecDepth 100000
set_option maxHeartbeats 8000000
theorem stD_F (a : Nat) (x1 : Option Addr) (n1 c1 : Nat) (k l z : Int) (x : Option Addr) (n c : Nat) (m : List Ex) (r p : Int) (t : Bs) (w : World) (hv : ReadsT eE 3 w (.slice x n c) m) (hlen : m.length ≤ 1048576) (htl : t.length ≤ 1048576) (h : ¬okI k l z m r p t) : Calls Tryd.prog 21 #[.int .i64 (a : Int), .slice x1 n1 c1, inV k l z (.slice x n c) r p t] w fun e w' => e = .returned (.tuple #[.slice none 0 0, .int .i64 240]) ∧ Below w.heap.size w w' := by
  have q := Below.refl w.heap.size w
  have hwn := fun W (b : Below w.heap.size w W) => rinW_no k l z x n c m r p t W (hv.up b) hlen htl h
  clear hv
  refine X.fn Tryd.func21 rfl (n := 49) rfl rfl ?_
  refine Zr ?_
  refine LL.box [Value.int IntKind.i64 k, Value.int IntKind.i64 l, Value.int IntKind.i64 z, Value.slice x n c, Value.int IntKind.i64 r, Value.int IntKind.i64 p, strV t] rfl rfl rfl rfl rfl ?_
  intro W2 g3 eg3 r4 z5 b1
  replace q := Zu q b1; refine Za ?_; refine Za ?_; refine Zq ?_; refine Zr ?_; refine Zv r4 ?_
  refine LL.call (R.call rfl rfl rfl) rfl rfl rfl (hwn _ q) ?_
  rintro e W7 ⟨rfl, b6⟩
  refine ⟨_, rfl, ?_⟩; have zb6 := b6.size; replace r4 := r4.up b6; replace b1 := Zu b1 b6; replace q := Zu q b6; refine Zm ?_; refine Zx ?_; refine Zx ?_; refine Za ?_; refine Za ?_; refine Zq ?_; refine Zc ?_; refine Zr ?_; refine Zm ?_; refine ZneT ?_; refine Zm ?_; refine Zs ?_; refine Zs ?_; refine Zs ?_; refine Zp ?_; refine Zq ?_; refine CC.yes rfl ?_; refine Zr ?_; refine Za ?_; refine Za ?_
  refine Zq ?_; refine CC.ret ?_; refine EE.thenR ?_; refine EE.ret _ rfl rfl ?_
  exact ⟨rfl, q⟩
theorem stD_L (a : Nat) (x1 : Option Addr) (n1 c1 : Nat) (hn : n1 ≠ 16) (hn2 : n1 ≤ 1048576) (k l z : Int) (x : Option Addr) (n c : Nat) (m : List Ex) (r p : Int) (t : Bs) (w : World) (hv : ReadsT eE 3 w (.slice x n c) m) (hlen : m.length ≤ 1048576) (h : okI k l z m r p t) : Calls Tryd.prog 21 #[.int .i64 (a : Int), .slice x1 n1 c1, inV k l z (.slice x n c) r p t] w fun e w' => e = .returned (.tuple #[.slice none 0 0, .int .i64 240]) ∧ Below w.heap.size w w' := by
  have q := Below.refl w.heap.size w
  have hwy := fun W (b : Below w.heap.size w W) => rinW_ok k l z x n c m r p t W (hv.up b) hlen h
  unfold wsP at hwy
  clear hv
  refine X.fn Tryd.func21 rfl (n := 49) rfl rfl ?_
  refine Zr ?_
  refine LL.box [Value.int IntKind.i64 k, Value.int IntKind.i64 l, Value.int IntKind.i64 z, Value.slice x n c, Value.int IntKind.i64 r, Value.int IntKind.i64 p, strV t] rfl rfl rfl rfl rfl ?_
  intro W9 g10 eg10 r11 z12 b8
  replace q := Zu q b8; refine Za ?_; refine Za ?_; refine Zq ?_; refine Zr ?_; refine Zv r11 ?_; have l41 := r11.lt
  (refine LL.call (R.call rfl rfl rfl) rfl rfl rfl (hwy _ q) ?_; rintro e W40 ⟨g8, rfl, r81, hg8, b37⟩; refine ⟨_, rfl, ?_⟩)
  have zb37 := b37.size; replace r11 := r11.up b37; replace b8 := Zu b8 b37; replace q := Zu q b37; refine Zm ?_; refine Zx ?_; refine Zx ?_; refine Za ?_; refine Za ?_; refine Zq ?_; refine Zc ?_; refine Zr ?_; refine Zm ?_; refine ZneF ?_; refine Zm ?_; refine Zm ?_; refine Zn ?_; refine ZneT ?_; refine Zp ?_; refine Zq ?_; refine CC.yes rfl ?_; refine Zr ?_; refine Za ?_; refine Za ?_; refine Zq ?_
  refine CC.ret ?_; refine EE.thenR ?_; refine EE.ret _ rfl rfl ?_
  exact ⟨rfl, q⟩
theorem stD_T (a bk off c1 : Nat) (was : List Nat) (k l z : Int) (x : Option Addr) (n c : Nat) (m : List Ex) (r p : Int) (t : Bs) (w : World) (hv : ReadsT eE 3 w (.slice x n c) m) (hlen : m.length ≤ 1048576) (h : okI k l z m r p t) (ha : a ≤ 1099511627776) (hW : WdsAt w bk off was) (hwl : was.length = 16) : Calls Tryd.prog 21 #[.int .i64 (a : Int), .slice (some ⟨bk, off, none⟩) 16 c1, inV k l z (.slice x n c) r p t] w fun e w' => ∃ v, e = .returned (.tuple #[v, .int .i64 0]) ∧ OwnsT pE 2 w' w.heap.size 59 v (difS a (inoW k l z m r p t) was 16) ∧ Below w.heap.size w w' := by
  have q := Below.refl w.heap.size w
  have hwy := fun W (b : Below w.heap.size w W) => rinW_ok k l z x n c m r p t W (hv.up b) hlen h
  have hWF := fun X (b : Below w.heap.size w X) => hW.up b
  have hxl := inoW_len h
  have hxb := inoW_lt h
  obtain ⟨ws, ews⟩ : ∃ ws, inoW k l z m r p t = ws := ⟨_, rfl⟩
  unfold wsP at hwy
  rw [ews] at hwy hxl hxb ⊢
  clear hv hW
  refine X.fn Tryd.func21 rfl (n := 49) rfl rfl ?_
  refine Zr ?_
  refine LL.box [Value.int IntKind.i64 k, Value.int IntKind.i64 l, Value.int IntKind.i64 z, Value.slice x n c, Value.int IntKind.i64 r, Value.int IntKind.i64 p, strV t] rfl rfl rfl rfl rfl ?_
  intro W9 g10 eg10 r11 z12 b8
  replace q := Zu q b8; refine Za ?_; refine Za ?_; refine Zq ?_; refine Zr ?_; refine Zv r11 ?_; have l41 := r11.lt
  (refine LL.call (R.call rfl rfl rfl) rfl rfl rfl (hwy _ q) ?_; rintro e W40 ⟨g8, rfl, r81, hg8, b37⟩; refine ⟨_, rfl, ?_⟩)
  have zb37 := b37.size; replace r11 := r11.up b37; replace b8 := Zu b8 b37; replace q := Zu q b37; refine Zm ?_; refine Zx ?_; refine Zx ?_; refine Za ?_; refine Za ?_; refine Zq ?_; refine Zc ?_; refine Zr ?_; refine Zm ?_; refine ZneF ?_; refine Zm ?_; refine Zm ?_; refine Zn ?_; refine ZneF ?_; refine Zp ?_; refine Zq ?_; refine CC.no rfl ?_; refine CC.skip ?_; refine EE.thenN ?_; refine Zr ?_
  refine Za ?_; refine Zq ?_; refine Zc ?_; refine Zr ?_; refine Za ?_; refine Zq ?_; refine CC.block ?_
  have hwg : w.heap.size ≤ W40.heap.size := q.size
  have l8 := r81.lt
  have hbk := (hWF w (Below.refl _ _)).lt
  obtain ⟨B, hB⟩ : ∃ B, W40.heap.size = B := ⟨_, rfl⟩
  rw [hB] at hwg l8
  refine CC.loop (α := Nat × Value) (fun s => [(0, .int .i64 (a : Int)), (1, .slice (some ⟨bk, off, none⟩) 16 c1), (8, .slice (some ⟨g8, 0, none⟩) 16 16), (10, s.2), (11, .int .i64 (s.1 : Int))]) (fun s W => s.1 ≤ 16 ∧ Below w.heap.size w W ∧ B ≤ W.heap.size ∧ RowL W g8 41 (ints .u64 ws) ∧ OwnsT pE 2 W B 59 s.2 (difS a ws was s.1)) (fun s => 16 - s.1) (0, .slice none 0 0) ⟨rfl, rfl, rfl, rfl, rfl, trivial⟩ ⟨by show 0 ≤ 16; omega, q, by omega, r81, OwnsT.none _ _ _⟩ ?_
  clear q r81 r11 b37 b8
  rintro ⟨i, v⟩ W ⟨hi, q, yB, r81, o⟩
  simp only at hi o yB r81
  show CC none Tryd.prog _ 49 [] (sl [(0, .int .i64 (a : Int)), (1, .slice (some ⟨bk, off, none⟩) 16 c1), (8, .slice (some ⟨g8, 0, none⟩) 16 16), (10, v), (11, .int .i64 (i : Int))]) _ W
  have yq := q.size
  by_cases hlt : i < 16
  case neg =>
    obtain rfl : i = 16 := by omega
    have o2 := o.lower hwg
    refine Zc ?_; refine Zr ?_; refine Zm ?_; refine ZltF ?_; refine Zq ?_; refine CC.no rfl ?_; refine CC.exit ?_; refine EE.thenX ?_; refine EE.thenX ?_; refine EE.inX ?_; refine EE.thenN ?_; refine Zr ?_; refine Zm ?_; refine Za ?_; refine Za ?_; refine Zq ?_; refine CC.ret ?_; refine EE.ret _ rfl rfl ?_
    exact ⟨_, rfl, o2, q⟩
  obtain ⟨u, hu⟩ : ∃ u, ws[i]? = some u := ⟨_, List.getElem?_eq_getElem (by omega)⟩
  obtain ⟨y, hy⟩ : ∃ y, was[i]? = some y := ⟨_, List.getElem?_eq_getElem (by omega)⟩
  have hst := difS_succ (a := a) hu hy
  have hdl := difS_len a ws was i
  have hub := hxb u (List.mem_of_getElem? hu)
  have c1 : W.cell? ⟨g8, 0 + i, none⟩ = some (.int .u64 (u : Int)) := RowL.cell r81 (by rw [show 0 + i = i by omega]; simp [ints, hu])
  have c2 := (hWF W q).cells _ _ hy
  by_cases huy : u = y
  · rw [if_pos huy, List.append_nil] at hst
    refine Zc ?_; refine Zr ?_; refine Zm ?_; refine ZltT ?_; refine Zq ?_; refine CC.yes rfl ?_; refine CC.skip ?_; refine EE.thenN ?_; refine Zc ?_; refine CC.block ?_; refine Zc ?_
    refine CC.quietB (by kernel_rfl) (by kernel_rfl) (fun Wb2 bb1 zb3 => ?_)
    replace q := Zu q bb1; replace r81 := r81.up bb1; replace o := o.up bb1; replace c1 := cell_up c1 bb1; replace c2 := cell_up c2 bb1
    refine SS.val (R.move rfl rfl) rfl rfl ?_
    refine SS.val (R.move rfl rfl) rfl rfl ?_
    refine SS.val (R.index rfl rfl rfl (I.ixS1 rfl (by omega))) rfl rfl ?_
    refine SS.val (R.load rfl rfl (I.ld1 rfl (by assumption))) rfl rfl ?_
    refine SS.val (R.move rfl rfl) rfl rfl ?_
    refine SS.val (R.move rfl rfl) rfl rfl ?_
    refine SS.val (R.index rfl rfl rfl (I.ixS1 rfl (by omega))) rfl rfl ?_
    refine SS.val (R.load rfl rfl (I.ld1 rfl (by assumption))) rfl rfl ?_
    refine SS.val (R.neF rfl rfl rfl (by omega)) rfl rfl ?_
    refine SS.nilQ ?_
    refine EE.thenN ?_; refine CC.no rfl ?_; refine CC.skip ?_; refine EE.inN ?_; refine EE.thenN ?_; refine CC.region ?_; refine Zm ?_
    refine LL.val (R.addNc rfl rfl rfl rfl (by omega)) rfl rfl rfl ?_
    refine Za ?_; refine LL.nil ?_
    exact EE.round (i + 1, v) ⟨rfl, rfl, rfl, rfl, rfl, trivial⟩ ⟨by show i + 1 ≤ 16; omega, q, by show B ≤ _; omega, r81, by show OwnsT pE 2 _ _ _ v (difS a ws was (i + 1)); rw [hst]; exact o⟩ (by show 16 - (i + 1) < 16 - i; omega)
  rw [if_neg huy] at hst
  refine Zc ?_; refine Zr ?_; refine Zm ?_; refine ZltT ?_; refine Zq ?_; refine CC.yes rfl ?_; refine CC.skip ?_; refine EE.thenN ?_; refine Zc ?_; refine CC.block ?_; refine Zc ?_
  refine CC.quietB (by kernel_rfl) (by kernel_rfl) (fun Wc2 bc1 zc3 => ?_)
  replace q := Zu q bc1; replace r81 := r81.up bc1; replace o := o.up bc1; replace c1 := cell_up c1 bc1; replace c2 := cell_up c2 bc1
  refine SS.val (R.move rfl rfl) rfl rfl ?_
  refine SS.val (R.move rfl rfl) rfl rfl ?_
  refine SS.val (R.index rfl rfl rfl (I.ixS1 rfl (by omega))) rfl rfl ?_
  refine SS.val (R.load rfl rfl (I.ld1 rfl (by assumption))) rfl rfl ?_
  refine SS.val (R.move rfl rfl) rfl rfl ?_
  refine SS.val (R.move rfl rfl) rfl rfl ?_
  refine SS.val (R.index rfl rfl rfl (I.ixS1 rfl (by omega))) rfl rfl ?_
  refine SS.val (R.load rfl rfl (I.ld1 rfl (by assumption))) rfl rfl ?_
  refine SS.val (R.neT rfl rfl rfl (by omega)) rfl rfl ?_
  refine SS.nilQ ?_
  refine EE.thenN ?_; refine CC.yes rfl ?_; refine CC.region ?_; refine Zm ?_; refine Zm ?_; refine Zm ?_
  refine LL.val (R.addN rfl rfl rfl (by omega)) rfl rfl rfl ?_
  refine Zm ?_; refine Zm ?_
  refine LL.val (R.index rfl rfl rfl (I.ixS1 rfl (by omega))) rfl rfl rfl ?_
  refine Zk ?_
  refine LL.val (R.buildV rfl rfl (v := .agg #[Value.int IntKind.i64 ↑(a + i), Value.int IntKind.u64 ↑u]) (fun _ => by kernel_rfl)) rfl rfl rfl ?_
  have lc4 := r81.lt
  refine LL.lit (e := 59) [Value.int IntKind.i64 ↑(a + i), Value.int IntKind.u64 ↑u] 1 rfl rfl (fun _ => by kernel_rfl) rfl rfl ?_
  intro Wc6 gc7 egc7 rc8 zc9 bc5
  replace bc1 := Zu bc1 bc5; replace q := Zu q bc5; replace r81 := r81.up bc5; replace o := o.up bc5; replace c1 := cell_up c1 bc5; replace c2 := cell_up c2 bc5
  (refine LL.appendT2 rfl rfl pEnc ElPut o (RowL.readsT (ts := [(((a + i : Nat) : Int), u)]) pEnc (by assumption) 1 (by simp)) (by simp [maxLen]; omega) (by simp; omega) (by have := q.size; omega) rfl rfl ?_; intro v' Wa oa gra hva; have yz := q.size; replace q := q.grown gra yz (fun g hg => by have := own_ge o g hg; omega); replace r81 := r81.grO gra (own_ne o l8); have hsz := gra.size; rw [← hst] at oa)
  refine Za ?_; refine LL.nil ?_; refine EE.inN ?_; refine EE.thenN ?_; refine CC.region ?_; refine Zm ?_
  refine LL.val (R.addNc rfl rfl rfl rfl (by omega)) rfl rfl rfl ?_
  refine Za ?_; refine LL.nil ?_
  exact EE.round (i + 1, v') ⟨rfl, rfl, rfl, rfl, rfl, trivial⟩ ⟨by show i + 1 ≤ 16; omega, q, by show B ≤ _; omega, r81, oa⟩ (by show 16 - (i + 1) < 16 - i; omega)
end Go.Proofs.YtnoefalgmekjbaaDoor
