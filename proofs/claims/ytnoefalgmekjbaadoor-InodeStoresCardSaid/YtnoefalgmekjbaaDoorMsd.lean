/- What the statements' walks use: In10. -/

import Derived.Test.YtnoefalgmekjbaaDoorMsa
import Derived.Test.YtnoefalgmekjbaaDoorMsc
/- inode: check, for all kinds, both ways (written by gen10.py). -/
namespace Go.Proofs.YtnoefalgmekjbaaDoor
set_option linter.unusedVariables false
set_option linter.unusedSimpArgs false
open Go.RowKit Go.Shelf
set_option maxRecDepth 100000
set_option maxHeartbeats 8000000
theorem check0_T (x : Option Addr) (n c : Nat) (m : List Ex) (w : World) (hv : ReadsT eE 3 w (.slice x n c) m) (hlen : m.length ≤ 1048576) (hm0 : m = []) : Calls Tryd.prog 29 #[inV 0 0 0 (.slice x n c) 0 0 []] w fun e w' => e = .returned (kdV kd0) ∧ Below w.heap.size w w' := by
  have q := Below.refl w.heap.size w
  have hvF : ∀ X, Below w.heap.size w X → ReadsT eE 3 X (.slice x n c) m := fun X b => hv.up b
  clear hv
  have hsm : true = true ↔ sameI 0 0 0 m 0 0 [] 0 0 0 [] 0 0 [] := ⟨fun _ => ⟨rfl, rfl, rfl, hm0, rfl, rfl, rfl⟩, fun _ => rfl⟩
  refine X.fn Tryd.func29 rfl (n := 38) rfl rfl ?_
  refine Zr ?_
  refine LL.box [Value.int IntKind.i64 0, Value.int IntKind.i64 0, Value.int IntKind.i64 0, Value.slice x n c, Value.int IntKind.i64 0, Value.int IntKind.i64 0, strV []] rfl rfl rfl rfl rfl ?_
  intro W2 g3 eg3 r4 z5 b1
  replace q := Zu q b1; have l6 := r4.lt
  refine LL.alloc ([Value.nilFunc, Value.nilFunc, Value.nilFunc, Value.nilFunc]) rfl rfl rfl rfl rfl ?_
  intro W8 g9 eg9 r10 z11 b7
  replace r4 := r4.up b7; replace b1 := Zu b1 b7; replace q := Zu q b7; refine Zq ?_; refine Zc ?_
  refine CC.freeZ (fun W_ j => j < W_.heap.size ∧ (True)) (by kernel_rfl) (by kernel_rfl) (fun W22 b21 z23 => ?_)
  replace r10 := r10.up b21; replace b7 := Zu b7 b21; replace r4 := r4.up b21; replace b1 := Zu b1 b21; replace q := Zu q b21
  have hok : Kept (fun j => j < W22.heap.size ∧ (True)) W22 W22 := Kept.refl _ _
  have fzr10 := fzRow (K := fun j => j < W22.heap.size ∧ (True)) r10 ⟨r10.lt, (by first | trivial | omega)⟩
  have fzr4 := fzRow (K := fun j => j < W22.heap.size ∧ (True)) r4 ⟨r4.lt, (by first | trivial | omega)⟩
  refine AA.pure 1 rfl hok (by kernel_rfl) (fun w' b' => R.field rfl rfl (I.fld rfl)) rfl rfl ?_
  refine AA.pure 2 rfl hok (by kernel_rfl) (fun w' b' => R.load rfl rfl (I.ld1 rfl (RowL.cell (fzr4 w' b') rfl))) rfl rfl ?_
  refine AA.two 0 7 (by kernel_rfl) ?_ ?_
  refine SR.call rfl (R.call rfl rfl rfl) rfl rfl (kinds_any _) ?_
  rintro e W25 ⟨g27, k28, rfl, h26, b24⟩
  have zb24 := b24.size; replace b21 := Zu b21 b24; replace r10 := r10.up b24; replace b7 := Zu b7 b24; replace r4 := r4.up b24; replace b1 := Zu b1 b24; replace q := Zu q b24; replace hok := Zh hok b24; have y29 := hok.size
  refine ⟨_, rfl, hok, ?_⟩
  refine AA.two 3 7 (by kernel_rfl) ?_ ?_
  (refine SR.val rfl (R.lookKT rfl rfl zKeys (by rfl) (z := kdZ) (by kernel_rfl) (by assumption) (0 : Int) rfl kF_0) rfl rfl hok ?_)
  refine AA.pure 4 rfl hok (by kernel_rfl) (fun w' b' => R.move rfl rfl) rfl rfl ?_
  refine AA.pure 5 rfl hok (by kernel_rfl) (fun w' b' => R.extract rfl rfl rfl) rfl rfl ?_
  refine AA.pure 6 rfl hok (by kernel_rfl) (fun w' b' => R.extract rfl rfl rfl) rfl rfl ?_
  refine AA.one 7 (by kernel_rfl) ?_
  have l30 := r10.lt; have l31 := r4.lt
  refine ZR.alloc ([Value.nilFunc, Value.nilFunc, Value.nilFunc, Value.nilFunc]) rfl rfl rfl rfl rfl rfl ?_
  intro W33 g34 eg34 r35 z36 b32
  replace h26 := h26.up b32; replace b24 := Zu b24 b32; replace b21 := Zu b21 b32; replace r10 := r10.up b32; replace b7 := Zu b7 b32; replace r4 := r4.up b32; replace b1 := Zu b1 b32; replace q := Zu q b32; replace hok := Zh hok b32; have y37 := hok.size
  refine ⟨hok, ?_⟩
  refine AA.one 8 (by kernel_rfl) ?_
  refine ZR.storeN (vs := [fnV kd0.1, fnV kd0.2.1, fnV kd0.2.2.1, fnV kd0.2.2.2]) rfl rfl rfl rfl rfl r35 (by exact Nat.le_of_ble_eq_true rfl) (ones_of rfl) rfl rfl ?_
  intro W39 r40 b38 z41
  have hlb38 := r35.lt
  replace r40 : RowL W39 _ 68 [fnV kd0.1, fnV kd0.2.1, fnV kd0.2.2.1, fnV kd0.2.2.2] := r40
  clear r35
  replace b32 := Zg b32 b38; replace b24 := Zg b24 b38; replace b21 := Zg b21 b38; replace r10 := Zd r10 b38; replace b7 := Zg b7 b38; replace r4 := Zd r4 b38; replace b1 := Zg b1 b38; replace q := Zg q b38; replace hok := Zo hok b38
  have r35 := r40
  clear r40
  refine ⟨hok, ?_⟩
  refine AA.pure 9 rfl hok (by kernel_rfl) (fun w' b' => R.assign rfl rfl) rfl rfl ?_
  refine AA.done rfl ?_
  clear fzr10 fzr4 hok
  refine EE.thenN ?_; refine Zr ?_; refine Zm ?_; refine Zt ?_; refine Zm ?_; refine Zf ?_; refine Zl r4 ?_
  refine LL.call (R.call rfl rfl rfl) rfl rfl rfl (within_T _ _ _ _ (by first | assumption | omega)) ?_
  rintro e W' ⟨rfl, rfl⟩
  refine ⟨_, rfl, ?_⟩; refine Zt ?_; refine Zp ?_
  refine LL.call (R.call rfl rfl rfl) rfl rfl rfl (refuse_F _) ?_
  rintro e W' ⟨rfl, rfl⟩
  refine ⟨_, rfl, ?_⟩; refine Zq ?_; refine Zc ?_
  refine CC.growT 15 (by kernel_rfl) (by kernel_rfl) ?_
  refine GG.val (fun w' b' => R.load rfl rfl (I.ldNc (vs := [Value.int IntKind.i64 0, Value.int IntKind.i64 0, Value.int IntKind.i64 0, Value.slice x n c, Value.int IntKind.i64 0, Value.int IntKind.i64 0, strV []]) (RowL.cells (r4.up b') rfl) (by rfl) (by rfl))) rfl rfl ?_
  refine GG.val (fun w' b' => R.field rfl rfl (I.fld rfl)) rfl rfl ?_
  refine GG.val (fun w' b' => R.load rfl rfl (I.ld1 rfl (RowL.cell (r35.up b') rfl))) rfl rfl ?_
  refine GG.val (fun w' b' => R.load rfl rfl (I.ldNc (vs := [Value.int IntKind.i64 0, Value.int IntKind.i64 0, Value.int IntKind.i64 0, Value.slice x n c, Value.int IntKind.i64 0, Value.int IntKind.i64 0, strV []]) (RowL.cells (r4.up b') rfl) (by rfl) (by rfl))) rfl rfl ?_
  refine GG.call (fun w' => (R.callV rfl rfl rfl rfl)) rfl rfl (fun w' b' => (nm0_any _ _ _ _ _ _ _ w').mono fun e W' h => ⟨h.1, b'.trans (h.2.mono b'.size)⟩) ?_
  refine GG.call (fun w' => (R.call rfl rfl rfl)) rfl rfl (fun w' b' => (insame_any _ _ _ _ m _ _ _ _ _ _ _ [] _ _ _ w' (hvF _ (q.trans (b'.mono q.size))) (ReadsT.nil _) hlen (by decide) true hsm).mono fun e W' h => ⟨h.1, b'.trans (h.2.mono b'.size)⟩) ?_
  refine GG.val (fun w' b' => R.not rfl rfl) rfl rfl ?_
  refine GG.val (fun w' b' => R.move rfl rfl) rfl rfl ?_
  refine GG.val (fun w' b' => R.field rfl rfl (I.fld rfl)) rfl rfl ?_
  refine GG.val (fun w' b' => R.load rfl rfl (I.ld1 rfl (RowL.cell (r35.up b') rfl))) rfl rfl ?_
  refine GG.val (fun w' b' => R.load rfl rfl (I.ldNc (vs := [Value.int IntKind.i64 0, Value.int IntKind.i64 0, Value.int IntKind.i64 0, Value.slice x n c, Value.int IntKind.i64 0, Value.int IntKind.i64 0, strV []]) (RowL.cells (r4.up b') rfl) (by rfl) (by rfl))) rfl rfl ?_
  refine GG.val (fun w' b' => R.buildV rfl rfl (v := .agg #[Value.int IntKind.i64 0, Value.int IntKind.i64 0, Value.int IntKind.i64 0, Value.slice x n c, Value.int IntKind.i64 0, Value.int IntKind.i64 0, strV []]) (fun _ => by kernel_rfl)) rfl rfl ?_
  refine GG.call (fun w' => (R.callV rfl rfl rfl rfl)) rfl rfl (fun w' b' => (my0_any _ _ _ _ _ _ _ w' ⟨_, _, _, rfl⟩).mono fun e W' h => ⟨h.1, b'.trans (h.2.mono b'.size)⟩) ?_
  refine GG.val (fun w' b' => R.not rfl rfl) rfl rfl ?_
  refine GG.val (fun w' b' => R.pick rfl rfl rfl) rfl rfl ?_
  refine GG.nil (fun W46 b45 => ?_)
  have zb45 := b45.size; replace b32 := Zu b32 b45; replace b24 := Zu b24 b45; replace b21 := Zu b21 b45; replace r10 := r10.up b45; replace b7 := Zu b7 b45; replace r4 := r4.up b45; replace b1 := Zu b1 b45; replace q := Zu q b45; replace r35 := r35.up b45
  refine LL.call (R.call rfl rfl rfl) rfl rfl rfl (refuse_F _) ?_
  rintro e W' ⟨rfl, rfl⟩
  refine ⟨_, rfl, ?_⟩; refine Zq ?_; refine Zr ?_; refine Zv r35 ?_
  refine LL.storeN (vs := [fnV kd0.1, fnV kd0.2.1, fnV kd0.2.2.1, fnV kd0.2.2.2]) rfl rfl rfl rfl r10 (by exact Nat.le_of_ble_eq_true rfl) (ones_of rfl) rfl rfl ?_
  intro W48 r49 b47 z50
  have hlb47 := r10.lt
  replace r49 : RowL W48 _ 68 [fnV kd0.1, fnV kd0.2.1, fnV kd0.2.2.1, fnV kd0.2.2.2] := r49
  clear r10
  replace b7 := Zg b7 b47; replace r4 := Zd r4 b47; replace b1 := Zg b1 b47; replace q := Zg q b47; replace r35 := Zd r35 b47
  have r10 := r49
  clear r49
  refine Zq ?_; refine CC.ret ?_
  refine EE.retC rfl rfl (lvNc (RowL.cells0 (by assumption)) (by rfl) (by rfl)) ?_
  exact ⟨rfl, q⟩
  have l51 := r10.lt; have l52 := r4.lt
  refine ZR.alloc ([Value.nilFunc, Value.nilFunc, Value.nilFunc, Value.nilFunc]) rfl rfl rfl rfl rfl rfl ?_
  intro W54 g55 eg55 r56 z57 b53
  replace h26 := h26.up b53; replace b24 := Zu b24 b53; replace b21 := Zu b21 b53; replace r10 := r10.up b53; replace b7 := Zu b7 b53; replace r4 := r4.up b53; replace b1 := Zu b1 b53; replace q := Zu q b53; replace hok := Zh hok b53; have y58 := hok.size
  refine ⟨hok, ?_⟩
  refine AA.one 3 (by kernel_rfl) ?_
  (refine SR.val rfl (R.lookKT rfl rfl zKeys (by rfl) (z := kdZ) (by kernel_rfl) (by assumption) (0 : Int) rfl kF_0) rfl rfl hok ?_)
  refine AA.pure 4 rfl hok (by kernel_rfl) (fun w' b' => R.move rfl rfl) rfl rfl ?_
  refine AA.pure 5 rfl hok (by kernel_rfl) (fun w' b' => R.extract rfl rfl rfl) rfl rfl ?_
  refine AA.pure 6 rfl hok (by kernel_rfl) (fun w' b' => R.extract rfl rfl rfl) rfl rfl ?_
  refine AA.one 8 (by kernel_rfl) ?_
  refine ZR.storeN (vs := [fnV kd0.1, fnV kd0.2.1, fnV kd0.2.2.1, fnV kd0.2.2.2]) rfl rfl rfl rfl rfl r56 (by exact Nat.le_of_ble_eq_true rfl) (ones_of rfl) rfl rfl ?_
  intro W60 r61 b59 z62
  have hlb59 := r56.lt
  replace r61 : RowL W60 _ 68 [fnV kd0.1, fnV kd0.2.1, fnV kd0.2.2.1, fnV kd0.2.2.2] := r61
  clear r56
  replace b53 := Zg b53 b59; replace b24 := Zg b24 b59; replace b21 := Zg b21 b59; replace r10 := Zd r10 b59; replace b7 := Zg b7 b59; replace r4 := Zd r4 b59; replace b1 := Zg b1 b59; replace q := Zg q b59; replace hok := Zo hok b59
  have r56 := r61
  clear r61
  refine ⟨hok, ?_⟩
  refine AA.pure 9 rfl hok (by kernel_rfl) (fun w' b' => R.assign rfl rfl) rfl rfl ?_
  refine AA.done rfl ?_
  clear fzr10 fzr4 hok
  refine EE.thenN ?_; refine Zr ?_; refine Zm ?_; refine Zt ?_; refine Zm ?_; refine Zf ?_; refine Zl r4 ?_
  refine LL.call (R.call rfl rfl rfl) rfl rfl rfl (within_T _ _ _ _ (by first | assumption | omega)) ?_
  rintro e W' ⟨rfl, rfl⟩
  refine ⟨_, rfl, ?_⟩; refine Zt ?_; refine Zp ?_
  refine LL.call (R.call rfl rfl rfl) rfl rfl rfl (refuse_F _) ?_
  rintro e W' ⟨rfl, rfl⟩
  refine ⟨_, rfl, ?_⟩; refine Zq ?_; refine Zc ?_
  refine CC.growT 15 (by kernel_rfl) (by kernel_rfl) ?_
  refine GG.val (fun w' b' => R.load rfl rfl (I.ldNc (vs := [Value.int IntKind.i64 0, Value.int IntKind.i64 0, Value.int IntKind.i64 0, Value.slice x n c, Value.int IntKind.i64 0, Value.int IntKind.i64 0, strV []]) (RowL.cells (r4.up b') rfl) (by rfl) (by rfl))) rfl rfl ?_
  refine GG.val (fun w' b' => R.field rfl rfl (I.fld rfl)) rfl rfl ?_
  refine GG.val (fun w' b' => R.load rfl rfl (I.ld1 rfl (RowL.cell (r56.up b') rfl))) rfl rfl ?_
  refine GG.val (fun w' b' => R.load rfl rfl (I.ldNc (vs := [Value.int IntKind.i64 0, Value.int IntKind.i64 0, Value.int IntKind.i64 0, Value.slice x n c, Value.int IntKind.i64 0, Value.int IntKind.i64 0, strV []]) (RowL.cells (r4.up b') rfl) (by rfl) (by rfl))) rfl rfl ?_
  refine GG.call (fun w' => (R.callV rfl rfl rfl rfl)) rfl rfl (fun w' b' => (nm0_any _ _ _ _ _ _ _ w').mono fun e W' h => ⟨h.1, b'.trans (h.2.mono b'.size)⟩) ?_
  refine GG.call (fun w' => (R.call rfl rfl rfl)) rfl rfl (fun w' b' => (insame_any _ _ _ _ m _ _ _ _ _ _ _ [] _ _ _ w' (hvF _ (q.trans (b'.mono q.size))) (ReadsT.nil _) hlen (by decide) true hsm).mono fun e W' h => ⟨h.1, b'.trans (h.2.mono b'.size)⟩) ?_
  refine GG.val (fun w' b' => R.not rfl rfl) rfl rfl ?_
  refine GG.val (fun w' b' => R.move rfl rfl) rfl rfl ?_
  refine GG.val (fun w' b' => R.field rfl rfl (I.fld rfl)) rfl rfl ?_
  refine GG.val (fun w' b' => R.load rfl rfl (I.ld1 rfl (RowL.cell (r56.up b') rfl))) rfl rfl ?_
  refine GG.val (fun w' b' => R.load rfl rfl (I.ldNc (vs := [Value.int IntKind.i64 0, Value.int IntKind.i64 0, Value.int IntKind.i64 0, Value.slice x n c, Value.int IntKind.i64 0, Value.int IntKind.i64 0, strV []]) (RowL.cells (r4.up b') rfl) (by rfl) (by rfl))) rfl rfl ?_
  refine GG.val (fun w' b' => R.buildV rfl rfl (v := .agg #[Value.int IntKind.i64 0, Value.int IntKind.i64 0, Value.int IntKind.i64 0, Value.slice x n c, Value.int IntKind.i64 0, Value.int IntKind.i64 0, strV []]) (fun _ => by kernel_rfl)) rfl rfl ?_
  refine GG.call (fun w' => (R.callV rfl rfl rfl rfl)) rfl rfl (fun w' b' => (my0_any _ _ _ _ _ _ _ w' ⟨_, _, _, rfl⟩).mono fun e W' h => ⟨h.1, b'.trans (h.2.mono b'.size)⟩) ?_
  refine GG.val (fun w' b' => R.not rfl rfl) rfl rfl ?_
  refine GG.val (fun w' b' => R.pick rfl rfl rfl) rfl rfl ?_
  refine GG.nil (fun W67 b66 => ?_)
  have zb66 := b66.size; replace b53 := Zu b53 b66; replace b24 := Zu b24 b66; replace b21 := Zu b21 b66; replace r10 := r10.up b66; replace b7 := Zu b7 b66; replace r4 := r4.up b66; replace b1 := Zu b1 b66; replace q := Zu q b66; replace r56 := r56.up b66
  refine LL.call (R.call rfl rfl rfl) rfl rfl rfl (refuse_F _) ?_
  rintro e W' ⟨rfl, rfl⟩
  refine ⟨_, rfl, ?_⟩; refine Zq ?_; refine Zr ?_; refine Zv r56 ?_
  refine LL.storeN (vs := [fnV kd0.1, fnV kd0.2.1, fnV kd0.2.2.1, fnV kd0.2.2.2]) rfl rfl rfl rfl r10 (by exact Nat.le_of_ble_eq_true rfl) (ones_of rfl) rfl rfl ?_
  intro W69 r70 b68 z71
  have hlb68 := r10.lt
  replace r70 : RowL W69 _ 68 [fnV kd0.1, fnV kd0.2.1, fnV kd0.2.2.1, fnV kd0.2.2.2] := r70
  clear r10
  replace b7 := Zg b7 b68; replace r4 := Zd r4 b68; replace b1 := Zg b1 b68; replace q := Zg q b68; replace r56 := Zd r56 b68
  have r10 := r70
  clear r70
  refine Zq ?_; refine CC.ret ?_
  refine EE.retC rfl rfl (lvNc (RowL.cells0 (by assumption)) (by rfl) (by rfl)) ?_
  exact ⟨rfl, q⟩
  have l72 := r10.lt; have l73 := r4.lt
  refine ZR.alloc ([Value.nilFunc, Value.nilFunc, Value.nilFunc, Value.nilFunc]) rfl rfl rfl rfl rfl rfl ?_
  intro W75 g76 eg76 r77 z78 b74
  replace b21 := Zu b21 b74; replace r10 := r10.up b74; replace b7 := Zu b7 b74; replace r4 := r4.up b74; replace b1 := Zu b1 b74; replace q := Zu q b74; replace hok := Zh hok b74; have y79 := hok.size
  refine ⟨hok, ?_⟩
  refine AA.one 0 (by kernel_rfl) ?_
  refine SR.call rfl (R.call rfl rfl rfl) rfl rfl (kinds_any _) ?_
  rintro e W81 ⟨g83, k84, rfl, h82, b80⟩
  have zb80 := b80.size; replace r77 := r77.up b80; replace b74 := Zu b74 b80; replace b21 := Zu b21 b80; replace r10 := r10.up b80; replace b7 := Zu b7 b80; replace r4 := r4.up b80; replace b1 := Zu b1 b80; replace q := Zu q b80; replace hok := Zh hok b80; have y85 := hok.size
  refine ⟨_, rfl, hok, ?_⟩
  refine AA.one 3 (by kernel_rfl) ?_
  (refine SR.val rfl (R.lookKT rfl rfl zKeys (by rfl) (z := kdZ) (by kernel_rfl) (by assumption) (0 : Int) rfl kF_0) rfl rfl hok ?_)
  refine AA.pure 4 rfl hok (by kernel_rfl) (fun w' b' => R.move rfl rfl) rfl rfl ?_
  refine AA.pure 5 rfl hok (by kernel_rfl) (fun w' b' => R.extract rfl rfl rfl) rfl rfl ?_
  refine AA.pure 6 rfl hok (by kernel_rfl) (fun w' b' => R.extract rfl rfl rfl) rfl rfl ?_
  refine AA.one 8 (by kernel_rfl) ?_
  refine ZR.storeN (vs := [fnV kd0.1, fnV kd0.2.1, fnV kd0.2.2.1, fnV kd0.2.2.2]) rfl rfl rfl rfl rfl r77 (by exact Nat.le_of_ble_eq_true rfl) (ones_of rfl) rfl rfl ?_
  intro W87 r88 b86 z89
  have hlb86 := r77.lt
  replace r88 : RowL W87 _ 68 [fnV kd0.1, fnV kd0.2.1, fnV kd0.2.2.1, fnV kd0.2.2.2] := r88
  clear r77
  replace b74 := Zg b74 b86; replace b21 := Zg b21 b86; replace r10 := Zd r10 b86; replace b7 := Zg b7 b86; replace r4 := Zd r4 b86; replace b1 := Zg b1 b86; replace q := Zg q b86; replace hok := Zo hok b86
  have r77 := r88
  clear r88
  refine ⟨hok, ?_⟩
  refine AA.pure 9 rfl hok (by kernel_rfl) (fun w' b' => R.assign rfl rfl) rfl rfl ?_
  refine AA.done rfl ?_
  clear fzr10 fzr4 hok
  refine EE.thenN ?_; refine Zr ?_; refine Zm ?_; refine Zt ?_; refine Zm ?_; refine Zf ?_; refine Zl r4 ?_
  refine LL.call (R.call rfl rfl rfl) rfl rfl rfl (within_T _ _ _ _ (by first | assumption | omega)) ?_
  rintro e W' ⟨rfl, rfl⟩
  refine ⟨_, rfl, ?_⟩; refine Zt ?_; refine Zp ?_
  refine LL.call (R.call rfl rfl rfl) rfl rfl rfl (refuse_F _) ?_
  rintro e W' ⟨rfl, rfl⟩
  refine ⟨_, rfl, ?_⟩; refine Zq ?_; refine Zc ?_
  refine CC.growT 15 (by kernel_rfl) (by kernel_rfl) ?_
  refine GG.val (fun w' b' => R.load rfl rfl (I.ldNc (vs := [Value.int IntKind.i64 0, Value.int IntKind.i64 0, Value.int IntKind.i64 0, Value.slice x n c, Value.int IntKind.i64 0, Value.int IntKind.i64 0, strV []]) (RowL.cells (r4.up b') rfl) (by rfl) (by rfl))) rfl rfl ?_
  refine GG.val (fun w' b' => R.field rfl rfl (I.fld rfl)) rfl rfl ?_
  refine GG.val (fun w' b' => R.load rfl rfl (I.ld1 rfl (RowL.cell (r77.up b') rfl))) rfl rfl ?_
  refine GG.val (fun w' b' => R.load rfl rfl (I.ldNc (vs := [Value.int IntKind.i64 0, Value.int IntKind.i64 0, Value.int IntKind.i64 0, Value.slice x n c, Value.int IntKind.i64 0, Value.int IntKind.i64 0, strV []]) (RowL.cells (r4.up b') rfl) (by rfl) (by rfl))) rfl rfl ?_
  refine GG.call (fun w' => (R.callV rfl rfl rfl rfl)) rfl rfl (fun w' b' => (nm0_any _ _ _ _ _ _ _ w').mono fun e W' h => ⟨h.1, b'.trans (h.2.mono b'.size)⟩) ?_
  refine GG.call (fun w' => (R.call rfl rfl rfl)) rfl rfl (fun w' b' => (insame_any _ _ _ _ m _ _ _ _ _ _ _ [] _ _ _ w' (hvF _ (q.trans (b'.mono q.size))) (ReadsT.nil _) hlen (by decide) true hsm).mono fun e W' h => ⟨h.1, b'.trans (h.2.mono b'.size)⟩) ?_
  refine GG.val (fun w' b' => R.not rfl rfl) rfl rfl ?_
  refine GG.val (fun w' b' => R.move rfl rfl) rfl rfl ?_
  refine GG.val (fun w' b' => R.field rfl rfl (I.fld rfl)) rfl rfl ?_
  refine GG.val (fun w' b' => R.load rfl rfl (I.ld1 rfl (RowL.cell (r77.up b') rfl))) rfl rfl ?_
  refine GG.val (fun w' b' => R.load rfl rfl (I.ldNc (vs := [Value.int IntKind.i64 0, Value.int IntKind.i64 0, Value.int IntKind.i64 0, Value.slice x n c, Value.int IntKind.i64 0, Value.int IntKind.i64 0, strV []]) (RowL.cells (r4.up b') rfl) (by rfl) (by rfl))) rfl rfl ?_
  refine GG.val (fun w' b' => R.buildV rfl rfl (v := .agg #[Value.int IntKind.i64 0, Value.int IntKind.i64 0, Value.int IntKind.i64 0, Value.slice x n c, Value.int IntKind.i64 0, Value.int IntKind.i64 0, strV []]) (fun _ => by kernel_rfl)) rfl rfl ?_
  refine GG.call (fun w' => (R.callV rfl rfl rfl rfl)) rfl rfl (fun w' b' => (my0_any _ _ _ _ _ _ _ w' ⟨_, _, _, rfl⟩).mono fun e W' h => ⟨h.1, b'.trans (h.2.mono b'.size)⟩) ?_
  refine GG.val (fun w' b' => R.not rfl rfl) rfl rfl ?_
  refine GG.val (fun w' b' => R.pick rfl rfl rfl) rfl rfl ?_
  refine GG.nil (fun W94 b93 => ?_)
  have zb93 := b93.size; replace b74 := Zu b74 b93; replace b21 := Zu b21 b93; replace r10 := r10.up b93; replace b7 := Zu b7 b93; replace r4 := r4.up b93; replace b1 := Zu b1 b93; replace q := Zu q b93; replace r77 := r77.up b93
  refine LL.call (R.call rfl rfl rfl) rfl rfl rfl (refuse_F _) ?_
  rintro e W' ⟨rfl, rfl⟩
  refine ⟨_, rfl, ?_⟩; refine Zq ?_; refine Zr ?_; refine Zv r77 ?_
  refine LL.storeN (vs := [fnV kd0.1, fnV kd0.2.1, fnV kd0.2.2.1, fnV kd0.2.2.2]) rfl rfl rfl rfl r10 (by exact Nat.le_of_ble_eq_true rfl) (ones_of rfl) rfl rfl ?_
  intro W96 r97 b95 z98
  have hlb95 := r10.lt
  replace r97 : RowL W96 _ 68 [fnV kd0.1, fnV kd0.2.1, fnV kd0.2.2.1, fnV kd0.2.2.2] := r97
  clear r10
  replace b7 := Zg b7 b95; replace r4 := Zd r4 b95; replace b1 := Zg b1 b95; replace q := Zg q b95; replace r77 := Zd r77 b95
  have r10 := r97
  clear r97
  refine Zq ?_; refine CC.ret ?_
  refine EE.retC rfl rfl (lvNc (RowL.cells0 (by assumption)) (by rfl) (by rfl)) ?_
  exact ⟨rfl, q⟩
theorem check2_T (l r p : Int) (x : Option Addr) (n c : Nat) (m : List Ex) (w : World) (hv : ReadsT eE 3 w (.slice x n c) m) (hlen : m.length ≤ 1048576) (hm0 : m = []) (hl : 0 ≤ l ∧ l ≤ 65535) (hmy : (1 ≤ r ∧ r ≤ 2047) ∧ 1 ≤ p ∧ p ≤ 256) : Calls Tryd.prog 29 #[inV 2 l 0 (.slice x n c) r p []] w fun e w' => e = .returned (kdV kd2) ∧ Below w.heap.size w w' := by
  have q := Below.refl w.heap.size w
  have hvF : ∀ X, Below w.heap.size w X → ReadsT eE 3 X (.slice x n c) m := fun X b => hv.up b
  clear hv
  have hsm : true = true ↔ sameI 2 l 0 m r p [] 2 l 0 [] r p [] := ⟨fun _ => ⟨rfl, rfl, rfl, hm0, rfl, rfl, rfl⟩, fun _ => rfl⟩
  refine X.fn Tryd.func29 rfl (n := 38) rfl rfl ?_
  refine Zr ?_
  refine LL.box [Value.int IntKind.i64 2, Value.int IntKind.i64 l, Value.int IntKind.i64 0, Value.slice x n c, Value.int IntKind.i64 r, Value.int IntKind.i64 p, strV []] rfl rfl rfl rfl rfl ?_
  intro W2 g3 eg3 r4 z5 b1
  replace q := Zu q b1; have l6 := r4.lt
  refine LL.alloc ([Value.nilFunc, Value.nilFunc, Value.nilFunc, Value.nilFunc]) rfl rfl rfl rfl rfl ?_
  intro W8 g9 eg9 r10 z11 b7
  replace r4 := r4.up b7; replace b1 := Zu b1 b7; replace q := Zu q b7; refine Zq ?_; refine Zc ?_
  refine CC.freeZ (fun W_ j => j < W_.heap.size ∧ (True)) (by kernel_rfl) (by kernel_rfl) (fun W22 b21 z23 => ?_)
  replace r10 := r10.up b21; replace b7 := Zu b7 b21; replace r4 := r4.up b21; replace b1 := Zu b1 b21; replace q := Zu q b21
  have hok : Kept (fun j => j < W22.heap.size ∧ (True)) W22 W22 := Kept.refl _ _
  have fzr10 := fzRow (K := fun j => j < W22.heap.size ∧ (True)) r10 ⟨r10.lt, (by first | trivial | omega)⟩
  have fzr4 := fzRow (K := fun j => j < W22.heap.size ∧ (True)) r4 ⟨r4.lt, (by first | trivial | omega)⟩
  refine AA.pure 1 rfl hok (by kernel_rfl) (fun w' b' => R.field rfl rfl (I.fld rfl)) rfl rfl ?_
  refine AA.pure 2 rfl hok (by kernel_rfl) (fun w' b' => R.load rfl rfl (I.ld1 rfl (RowL.cell (fzr4 w' b') rfl))) rfl rfl ?_
  refine AA.two 0 7 (by kernel_rfl) ?_ ?_
  refine SR.call rfl (R.call rfl rfl rfl) rfl rfl (kinds_any _) ?_
  rintro e W25 ⟨g27, k28, rfl, h26, b24⟩
  have zb24 := b24.size; replace b21 := Zu b21 b24; replace r10 := r10.up b24; replace b7 := Zu b7 b24; replace r4 := r4.up b24; replace b1 := Zu b1 b24; replace q := Zu q b24; replace hok := Zh hok b24; have y29 := hok.size
  refine ⟨_, rfl, hok, ?_⟩
  refine AA.two 3 7 (by kernel_rfl) ?_ ?_
  (refine SR.val rfl (R.lookKT rfl rfl zKeys (by rfl) (z := kdZ) (by kernel_rfl) (by assumption) (2 : Int) rfl kF_2) rfl rfl hok ?_)
  refine AA.pure 4 rfl hok (by kernel_rfl) (fun w' b' => R.move rfl rfl) rfl rfl ?_
  refine AA.pure 5 rfl hok (by kernel_rfl) (fun w' b' => R.extract rfl rfl rfl) rfl rfl ?_
  refine AA.pure 6 rfl hok (by kernel_rfl) (fun w' b' => R.extract rfl rfl rfl) rfl rfl ?_
  refine AA.one 7 (by kernel_rfl) ?_
  have l30 := r10.lt; have l31 := r4.lt
  refine ZR.alloc ([Value.nilFunc, Value.nilFunc, Value.nilFunc, Value.nilFunc]) rfl rfl rfl rfl rfl rfl ?_
  intro W33 g34 eg34 r35 z36 b32
  replace h26 := h26.up b32; replace b24 := Zu b24 b32; replace b21 := Zu b21 b32; replace r10 := r10.up b32; replace b7 := Zu b7 b32; replace r4 := r4.up b32; replace b1 := Zu b1 b32; replace q := Zu q b32; replace hok := Zh hok b32; have y37 := hok.size
  refine ⟨hok, ?_⟩
  refine AA.one 8 (by kernel_rfl) ?_
  refine ZR.storeN (vs := [fnV kd2.1, fnV kd2.2.1, fnV kd2.2.2.1, fnV kd2.2.2.2]) rfl rfl rfl rfl rfl r35 (by exact Nat.le_of_ble_eq_true rfl) (ones_of rfl) rfl rfl ?_
  intro W39 r40 b38 z41
  have hlb38 := r35.lt
  replace r40 : RowL W39 _ 68 [fnV kd2.1, fnV kd2.2.1, fnV kd2.2.2.1, fnV kd2.2.2.2] := r40
  clear r35
  replace b32 := Zg b32 b38; replace b24 := Zg b24 b38; replace b21 := Zg b21 b38; replace r10 := Zd r10 b38; replace b7 := Zg b7 b38; replace r4 := Zd r4 b38; replace b1 := Zg b1 b38; replace q := Zg q b38; replace hok := Zo hok b38
  have r35 := r40
  clear r40
  refine ⟨hok, ?_⟩
  refine AA.pure 9 rfl hok (by kernel_rfl) (fun w' b' => R.assign rfl rfl) rfl rfl ?_
  refine AA.done rfl ?_
  clear fzr10 fzr4 hok
  refine EE.thenN ?_; refine Zr ?_; refine Zm ?_; refine Zt ?_; refine Zm ?_; refine Zf ?_; refine Zl r4 ?_
  refine LL.call (R.call rfl rfl rfl) rfl rfl rfl (within_T _ _ _ _ (by first | assumption | omega)) ?_
  rintro e W' ⟨rfl, rfl⟩
  refine ⟨_, rfl, ?_⟩; refine Zt ?_; refine Zp ?_
  refine LL.call (R.call rfl rfl rfl) rfl rfl rfl (refuse_F _) ?_
  rintro e W' ⟨rfl, rfl⟩
  refine ⟨_, rfl, ?_⟩; refine Zq ?_; refine Zc ?_
  refine CC.growT 15 (by kernel_rfl) (by kernel_rfl) ?_
  refine GG.val (fun w' b' => R.load rfl rfl (I.ldNc (vs := [Value.int IntKind.i64 2, Value.int IntKind.i64 l, Value.int IntKind.i64 0, Value.slice x n c, Value.int IntKind.i64 r, Value.int IntKind.i64 p, strV []]) (RowL.cells (r4.up b') rfl) (by rfl) (by rfl))) rfl rfl ?_
  refine GG.val (fun w' b' => R.field rfl rfl (I.fld rfl)) rfl rfl ?_
  refine GG.val (fun w' b' => R.load rfl rfl (I.ld1 rfl (RowL.cell (r35.up b') rfl))) rfl rfl ?_
  refine GG.val (fun w' b' => R.load rfl rfl (I.ldNc (vs := [Value.int IntKind.i64 2, Value.int IntKind.i64 l, Value.int IntKind.i64 0, Value.slice x n c, Value.int IntKind.i64 r, Value.int IntKind.i64 p, strV []]) (RowL.cells (r4.up b') rfl) (by rfl) (by rfl))) rfl rfl ?_
  refine GG.call (fun w' => (R.callV rfl rfl rfl rfl)) rfl rfl (fun w' b' => (nm2_any _ _ _ _ _ _ _ w' ⟨_, _, _, rfl⟩).mono fun e W' h => ⟨h.1, b'.trans (h.2.mono b'.size)⟩) ?_
  refine GG.call (fun w' => (R.call rfl rfl rfl)) rfl rfl (fun w' b' => (insame_any _ _ _ _ m _ _ _ _ _ _ _ [] _ _ _ w' (hvF _ (q.trans (b'.mono q.size))) (ReadsT.nil _) hlen (by decide) true hsm).mono fun e W' h => ⟨h.1, b'.trans (h.2.mono b'.size)⟩) ?_
  refine GG.val (fun w' b' => R.not rfl rfl) rfl rfl ?_
  refine GG.val (fun w' b' => R.move rfl rfl) rfl rfl ?_
  refine GG.val (fun w' b' => R.field rfl rfl (I.fld rfl)) rfl rfl ?_
  refine GG.val (fun w' b' => R.load rfl rfl (I.ld1 rfl (RowL.cell (r35.up b') rfl))) rfl rfl ?_
  refine GG.val (fun w' b' => R.load rfl rfl (I.ldNc (vs := [Value.int IntKind.i64 2, Value.int IntKind.i64 l, Value.int IntKind.i64 0, Value.slice x n c, Value.int IntKind.i64 r, Value.int IntKind.i64 p, strV []]) (RowL.cells (r4.up b') rfl) (by rfl) (by rfl))) rfl rfl ?_
  refine GG.val (fun w' b' => R.buildV rfl rfl (v := .agg #[Value.int IntKind.i64 2, Value.int IntKind.i64 l, Value.int IntKind.i64 0, Value.slice x n c, Value.int IntKind.i64 r, Value.int IntKind.i64 p, strV []]) (fun _ => by kernel_rfl)) rfl rfl ?_
  refine GG.call (fun w' => (R.callV rfl rfl rfl rfl)) rfl rfl (fun w' b' => (my2_T _ _ _ _ _ _ _ w' ⟨_, _, _, rfl⟩ hmy).mono fun e W' h => ⟨h.1, b'.trans (h.2.mono b'.size)⟩) ?_
  refine GG.val (fun w' b' => R.not rfl rfl) rfl rfl ?_
  refine GG.val (fun w' b' => R.pick rfl rfl rfl) rfl rfl ?_
  refine GG.nil (fun W46 b45 => ?_)
  have zb45 := b45.size; replace b32 := Zu b32 b45; replace b24 := Zu b24 b45; replace b21 := Zu b21 b45; replace r10 := r10.up b45; replace b7 := Zu b7 b45; replace r4 := r4.up b45; replace b1 := Zu b1 b45; replace q := Zu q b45; replace r35 := r35.up b45
  refine LL.call (R.call rfl rfl rfl) rfl rfl rfl (refuse_F _) ?_
  rintro e W' ⟨rfl, rfl⟩
  refine ⟨_, rfl, ?_⟩; refine Zq ?_; refine Zr ?_; refine Zv r35 ?_
  refine LL.storeN (vs := [fnV kd2.1, fnV kd2.2.1, fnV kd2.2.2.1, fnV kd2.2.2.2]) rfl rfl rfl rfl r10 (by exact Nat.le_of_ble_eq_true rfl) (ones_of rfl) rfl rfl ?_
  intro W48 r49 b47 z50
  have hlb47 := r10.lt
  replace r49 : RowL W48 _ 68 [fnV kd2.1, fnV kd2.2.1, fnV kd2.2.2.1, fnV kd2.2.2.2] := r49
  clear r10
  replace b7 := Zg b7 b47; replace r4 := Zd r4 b47; replace b1 := Zg b1 b47; replace q := Zg q b47; replace r35 := Zd r35 b47
  have r10 := r49
  clear r49
  refine Zq ?_; refine CC.ret ?_
  refine EE.retC rfl rfl (lvNc (RowL.cells0 (by assumption)) (by rfl) (by rfl)) ?_
  exact ⟨rfl, q⟩
  have l51 := r10.lt; have l52 := r4.lt
  refine ZR.alloc ([Value.nilFunc, Value.nilFunc, Value.nilFunc, Value.nilFunc]) rfl rfl rfl rfl rfl rfl ?_
  intro W54 g55 eg55 r56 z57 b53
  replace h26 := h26.up b53; replace b24 := Zu b24 b53; replace b21 := Zu b21 b53; replace r10 := r10.up b53; replace b7 := Zu b7 b53; replace r4 := r4.up b53; replace b1 := Zu b1 b53; replace q := Zu q b53; replace hok := Zh hok b53; have y58 := hok.size
  refine ⟨hok, ?_⟩
  refine AA.one 3 (by kernel_rfl) ?_
  (refine SR.val rfl (R.lookKT rfl rfl zKeys (by rfl) (z := kdZ) (by kernel_rfl) (by assumption) (2 : Int) rfl kF_2) rfl rfl hok ?_)
  refine AA.pure 4 rfl hok (by kernel_rfl) (fun w' b' => R.move rfl rfl) rfl rfl ?_
  refine AA.pure 5 rfl hok (by kernel_rfl) (fun w' b' => R.extract rfl rfl rfl) rfl rfl ?_
  refine AA.pure 6 rfl hok (by kernel_rfl) (fun w' b' => R.extract rfl rfl rfl) rfl rfl ?_
  refine AA.one 8 (by kernel_rfl) ?_
  refine ZR.storeN (vs := [fnV kd2.1, fnV kd2.2.1, fnV kd2.2.2.1, fnV kd2.2.2.2]) rfl rfl rfl rfl rfl r56 (by exact Nat.le_of_ble_eq_true rfl) (ones_of rfl) rfl rfl ?_
  intro W60 r61 b59 z62
  have hlb59 := r56.lt
  replace r61 : RowL W60 _ 68 [fnV kd2.1, fnV kd2.2.1, fnV kd2.2.2.1, fnV kd2.2.2.2] := r61
  clear r56
  replace b53 := Zg b53 b59; replace b24 := Zg b24 b59; replace b21 := Zg b21 b59; replace r10 := Zd r10 b59; replace b7 := Zg b7 b59; replace r4 := Zd r4 b59; replace b1 := Zg b1 b59; replace q := Zg q b59; replace hok := Zo hok b59
  have r56 := r61
  clear r61
  refine ⟨hok, ?_⟩
  refine AA.pure 9 rfl hok (by kernel_rfl) (fun w' b' => R.assign rfl rfl) rfl rfl ?_
  refine AA.done rfl ?_
  clear fzr10 fzr4 hok
  refine EE.thenN ?_; refine Zr ?_; refine Zm ?_; refine Zt ?_; refine Zm ?_; refine Zf ?_; refine Zl r4 ?_
  refine LL.call (R.call rfl rfl rfl) rfl rfl rfl (within_T _ _ _ _ (by first | assumption | omega)) ?_
  rintro e W' ⟨rfl, rfl⟩
  refine ⟨_, rfl, ?_⟩; refine Zt ?_; refine Zp ?_
  refine LL.call (R.call rfl rfl rfl) rfl rfl rfl (refuse_F _) ?_
  rintro e W' ⟨rfl, rfl⟩
  refine ⟨_, rfl, ?_⟩; refine Zq ?_; refine Zc ?_
  refine CC.growT 15 (by kernel_rfl) (by kernel_rfl) ?_
  refine GG.val (fun w' b' => R.load rfl rfl (I.ldNc (vs := [Value.int IntKind.i64 2, Value.int IntKind.i64 l, Value.int IntKind.i64 0, Value.slice x n c, Value.int IntKind.i64 r, Value.int IntKind.i64 p, strV []]) (RowL.cells (r4.up b') rfl) (by rfl) (by rfl))) rfl rfl ?_
  refine GG.val (fun w' b' => R.field rfl rfl (I.fld rfl)) rfl rfl ?_
  refine GG.val (fun w' b' => R.load rfl rfl (I.ld1 rfl (RowL.cell (r56.up b') rfl))) rfl rfl ?_
  refine GG.val (fun w' b' => R.load rfl rfl (I.ldNc (vs := [Value.int IntKind.i64 2, Value.int IntKind.i64 l, Value.int IntKind.i64 0, Value.slice x n c, Value.int IntKind.i64 r, Value.int IntKind.i64 p, strV []]) (RowL.cells (r4.up b') rfl) (by rfl) (by rfl))) rfl rfl ?_
  refine GG.call (fun w' => (R.callV rfl rfl rfl rfl)) rfl rfl (fun w' b' => (nm2_any _ _ _ _ _ _ _ w' ⟨_, _, _, rfl⟩).mono fun e W' h => ⟨h.1, b'.trans (h.2.mono b'.size)⟩) ?_
  refine GG.call (fun w' => (R.call rfl rfl rfl)) rfl rfl (fun w' b' => (insame_any _ _ _ _ m _ _ _ _ _ _ _ [] _ _ _ w' (hvF _ (q.trans (b'.mono q.size))) (ReadsT.nil _) hlen (by decide) true hsm).mono fun e W' h => ⟨h.1, b'.trans (h.2.mono b'.size)⟩) ?_
  refine GG.val (fun w' b' => R.not rfl rfl) rfl rfl ?_
  refine GG.val (fun w' b' => R.move rfl rfl) rfl rfl ?_
  refine GG.val (fun w' b' => R.field rfl rfl (I.fld rfl)) rfl rfl ?_
  refine GG.val (fun w' b' => R.load rfl rfl (I.ld1 rfl (RowL.cell (r56.up b') rfl))) rfl rfl ?_
  refine GG.val (fun w' b' => R.load rfl rfl (I.ldNc (vs := [Value.int IntKind.i64 2, Value.int IntKind.i64 l, Value.int IntKind.i64 0, Value.slice x n c, Value.int IntKind.i64 r, Value.int IntKind.i64 p, strV []]) (RowL.cells (r4.up b') rfl) (by rfl) (by rfl))) rfl rfl ?_
  refine GG.val (fun w' b' => R.buildV rfl rfl (v := .agg #[Value.int IntKind.i64 2, Value.int IntKind.i64 l, Value.int IntKind.i64 0, Value.slice x n c, Value.int IntKind.i64 r, Value.int IntKind.i64 p, strV []]) (fun _ => by kernel_rfl)) rfl rfl ?_
  refine GG.call (fun w' => (R.callV rfl rfl rfl rfl)) rfl rfl (fun w' b' => (my2_T _ _ _ _ _ _ _ w' ⟨_, _, _, rfl⟩ hmy).mono fun e W' h => ⟨h.1, b'.trans (h.2.mono b'.size)⟩) ?_
  refine GG.val (fun w' b' => R.not rfl rfl) rfl rfl ?_
  refine GG.val (fun w' b' => R.pick rfl rfl rfl) rfl rfl ?_
  refine GG.nil (fun W67 b66 => ?_)
  have zb66 := b66.size; replace b53 := Zu b53 b66; replace b24 := Zu b24 b66; replace b21 := Zu b21 b66; replace r10 := r10.up b66; replace b7 := Zu b7 b66; replace r4 := r4.up b66; replace b1 := Zu b1 b66; replace q := Zu q b66; replace r56 := r56.up b66
  refine LL.call (R.call rfl rfl rfl) rfl rfl rfl (refuse_F _) ?_
  rintro e W' ⟨rfl, rfl⟩
  refine ⟨_, rfl, ?_⟩; refine Zq ?_; refine Zr ?_; refine Zv r56 ?_
  refine LL.storeN (vs := [fnV kd2.1, fnV kd2.2.1, fnV kd2.2.2.1, fnV kd2.2.2.2]) rfl rfl rfl rfl r10 (by exact Nat.le_of_ble_eq_true rfl) (ones_of rfl) rfl rfl ?_
  intro W69 r70 b68 z71
  have hlb68 := r10.lt
  replace r70 : RowL W69 _ 68 [fnV kd2.1, fnV kd2.2.1, fnV kd2.2.2.1, fnV kd2.2.2.2] := r70
  clear r10
  replace b7 := Zg b7 b68; replace r4 := Zd r4 b68; replace b1 := Zg b1 b68; replace q := Zg q b68; replace r56 := Zd r56 b68
  have r10 := r70
  clear r70
  refine Zq ?_; refine CC.ret ?_
  refine EE.retC rfl rfl (lvNc (RowL.cells0 (by assumption)) (by rfl) (by rfl)) ?_
  exact ⟨rfl, q⟩
  have l72 := r10.lt; have l73 := r4.lt
  refine ZR.alloc ([Value.nilFunc, Value.nilFunc, Value.nilFunc, Value.nilFunc]) rfl rfl rfl rfl rfl rfl ?_
  intro W75 g76 eg76 r77 z78 b74
  replace b21 := Zu b21 b74; replace r10 := r10.up b74; replace b7 := Zu b7 b74; replace r4 := r4.up b74; replace b1 := Zu b1 b74; replace q := Zu q b74; replace hok := Zh hok b74; have y79 := hok.size
  refine ⟨hok, ?_⟩
  refine AA.one 0 (by kernel_rfl) ?_
  refine SR.call rfl (R.call rfl rfl rfl) rfl rfl (kinds_any _) ?_
  rintro e W81 ⟨g83, k84, rfl, h82, b80⟩
  have zb80 := b80.size; replace r77 := r77.up b80; replace b74 := Zu b74 b80; replace b21 := Zu b21 b80; replace r10 := r10.up b80; replace b7 := Zu b7 b80; replace r4 := r4.up b80; replace b1 := Zu b1 b80; replace q := Zu q b80; replace hok := Zh hok b80; have y85 := hok.size
  refine ⟨_, rfl, hok, ?_⟩
  refine AA.one 3 (by kernel_rfl) ?_
  (refine SR.val rfl (R.lookKT rfl rfl zKeys (by rfl) (z := kdZ) (by kernel_rfl) (by assumption) (2 : Int) rfl kF_2) rfl rfl hok ?_)
  refine AA.pure 4 rfl hok (by kernel_rfl) (fun w' b' => R.move rfl rfl) rfl rfl ?_
  refine AA.pure 5 rfl hok (by kernel_rfl) (fun w' b' => R.extract rfl rfl rfl) rfl rfl ?_
  refine AA.pure 6 rfl hok (by kernel_rfl) (fun w' b' => R.extract rfl rfl rfl) rfl rfl ?_
  refine AA.one 8 (by kernel_rfl) ?_
  refine ZR.storeN (vs := [fnV kd2.1, fnV kd2.2.1, fnV kd2.2.2.1, fnV kd2.2.2.2]) rfl rfl rfl rfl rfl r77 (by exact Nat.le_of_ble_eq_true rfl) (ones_of rfl) rfl rfl ?_
  intro W87 r88 b86 z89
  have hlb86 := r77.lt
  replace r88 : RowL W87 _ 68 [fnV kd2.1, fnV kd2.2.1, fnV kd2.2.2.1, fnV kd2.2.2.2] := r88
  clear r77
  replace b74 := Zg b74 b86; replace b21 := Zg b21 b86; replace r10 := Zd r10 b86; replace b7 := Zg b7 b86; replace r4 := Zd r4 b86; replace b1 := Zg b1 b86; replace q := Zg q b86; replace hok := Zo hok b86
  have r77 := r88
  clear r88
  refine ⟨hok, ?_⟩
  refine AA.pure 9 rfl hok (by kernel_rfl) (fun w' b' => R.assign rfl rfl) rfl rfl ?_
  refine AA.done rfl ?_
  clear fzr10 fzr4 hok
  refine EE.thenN ?_; refine Zr ?_; refine Zm ?_; refine Zt ?_; refine Zm ?_; refine Zf ?_; refine Zl r4 ?_
  refine LL.call (R.call rfl rfl rfl) rfl rfl rfl (within_T _ _ _ _ (by first | assumption | omega)) ?_
  rintro e W' ⟨rfl, rfl⟩
  refine ⟨_, rfl, ?_⟩; refine Zt ?_; refine Zp ?_
  refine LL.call (R.call rfl rfl rfl) rfl rfl rfl (refuse_F _) ?_
  rintro e W' ⟨rfl, rfl⟩
  refine ⟨_, rfl, ?_⟩; refine Zq ?_; refine Zc ?_
  refine CC.growT 15 (by kernel_rfl) (by kernel_rfl) ?_
  refine GG.val (fun w' b' => R.load rfl rfl (I.ldNc (vs := [Value.int IntKind.i64 2, Value.int IntKind.i64 l, Value.int IntKind.i64 0, Value.slice x n c, Value.int IntKind.i64 r, Value.int IntKind.i64 p, strV []]) (RowL.cells (r4.up b') rfl) (by rfl) (by rfl))) rfl rfl ?_
  refine GG.val (fun w' b' => R.field rfl rfl (I.fld rfl)) rfl rfl ?_
  refine GG.val (fun w' b' => R.load rfl rfl (I.ld1 rfl (RowL.cell (r77.up b') rfl))) rfl rfl ?_
  refine GG.val (fun w' b' => R.load rfl rfl (I.ldNc (vs := [Value.int IntKind.i64 2, Value.int IntKind.i64 l, Value.int IntKind.i64 0, Value.slice x n c, Value.int IntKind.i64 r, Value.int IntKind.i64 p, strV []]) (RowL.cells (r4.up b') rfl) (by rfl) (by rfl))) rfl rfl ?_
  refine GG.call (fun w' => (R.callV rfl rfl rfl rfl)) rfl rfl (fun w' b' => (nm2_any _ _ _ _ _ _ _ w' ⟨_, _, _, rfl⟩).mono fun e W' h => ⟨h.1, b'.trans (h.2.mono b'.size)⟩) ?_
  refine GG.call (fun w' => (R.call rfl rfl rfl)) rfl rfl (fun w' b' => (insame_any _ _ _ _ m _ _ _ _ _ _ _ [] _ _ _ w' (hvF _ (q.trans (b'.mono q.size))) (ReadsT.nil _) hlen (by decide) true hsm).mono fun e W' h => ⟨h.1, b'.trans (h.2.mono b'.size)⟩) ?_
  refine GG.val (fun w' b' => R.not rfl rfl) rfl rfl ?_
  refine GG.val (fun w' b' => R.move rfl rfl) rfl rfl ?_
  refine GG.val (fun w' b' => R.field rfl rfl (I.fld rfl)) rfl rfl ?_
  refine GG.val (fun w' b' => R.load rfl rfl (I.ld1 rfl (RowL.cell (r77.up b') rfl))) rfl rfl ?_
  refine GG.val (fun w' b' => R.load rfl rfl (I.ldNc (vs := [Value.int IntKind.i64 2, Value.int IntKind.i64 l, Value.int IntKind.i64 0, Value.slice x n c, Value.int IntKind.i64 r, Value.int IntKind.i64 p, strV []]) (RowL.cells (r4.up b') rfl) (by rfl) (by rfl))) rfl rfl ?_
  refine GG.val (fun w' b' => R.buildV rfl rfl (v := .agg #[Value.int IntKind.i64 2, Value.int IntKind.i64 l, Value.int IntKind.i64 0, Value.slice x n c, Value.int IntKind.i64 r, Value.int IntKind.i64 p, strV []]) (fun _ => by kernel_rfl)) rfl rfl ?_
  refine GG.call (fun w' => (R.callV rfl rfl rfl rfl)) rfl rfl (fun w' b' => (my2_T _ _ _ _ _ _ _ w' ⟨_, _, _, rfl⟩ hmy).mono fun e W' h => ⟨h.1, b'.trans (h.2.mono b'.size)⟩) ?_
  refine GG.val (fun w' b' => R.not rfl rfl) rfl rfl ?_
  refine GG.val (fun w' b' => R.pick rfl rfl rfl) rfl rfl ?_
  refine GG.nil (fun W94 b93 => ?_)
  have zb93 := b93.size; replace b74 := Zu b74 b93; replace b21 := Zu b21 b93; replace r10 := r10.up b93; replace b7 := Zu b7 b93; replace r4 := r4.up b93; replace b1 := Zu b1 b93; replace q := Zu q b93; replace r77 := r77.up b93
  refine LL.call (R.call rfl rfl rfl) rfl rfl rfl (refuse_F _) ?_
  rintro e W' ⟨rfl, rfl⟩
  refine ⟨_, rfl, ?_⟩; refine Zq ?_; refine Zr ?_; refine Zv r77 ?_
  refine LL.storeN (vs := [fnV kd2.1, fnV kd2.2.1, fnV kd2.2.2.1, fnV kd2.2.2.2]) rfl rfl rfl rfl r10 (by exact Nat.le_of_ble_eq_true rfl) (ones_of rfl) rfl rfl ?_
  intro W96 r97 b95 z98
  have hlb95 := r10.lt
  replace r97 : RowL W96 _ 68 [fnV kd2.1, fnV kd2.2.1, fnV kd2.2.2.1, fnV kd2.2.2.2] := r97
  clear r10
  replace b7 := Zg b7 b95; replace r4 := Zd r4 b95; replace b1 := Zg b1 b95; replace q := Zg q b95; replace r77 := Zd r77 b95
  have r10 := r97
  clear r97
  refine Zq ?_; refine CC.ret ?_
  refine EE.retC rfl rfl (lvNc (RowL.cells0 (by assumption)) (by rfl) (by rfl)) ?_
  exact ⟨rfl, q⟩
theorem check3_T (l : Int) (t : Bs) (x : Option Addr) (n c : Nat) (m : List Ex) (w : World) (hv : ReadsT eE 3 w (.slice x n c) m) (hlen : m.length ≤ 1048576) (hm0 : m = []) (hl : 0 ≤ l ∧ l ≤ 65535) (hmy : (1 ≤ t.length ∧ t.length ≤ 112) ∧ (0 : UInt8) ∉ t) : Calls Tryd.prog 29 #[inV 3 l 0 (.slice x n c) 0 0 t] w fun e w' => e = .returned (kdV kd3) ∧ Below w.heap.size w w' := by
  have q := Below.refl w.heap.size w
  have hvF : ∀ X, Below w.heap.size w X → ReadsT eE 3 X (.slice x n c) m := fun X b => hv.up b
  clear hv
  have hsm : true = true ↔ sameI 3 l 0 m 0 0 t 3 l 0 [] 0 0 t := ⟨fun _ => ⟨rfl, rfl, rfl, hm0, rfl, rfl, rfl⟩, fun _ => rfl⟩
  refine X.fn Tryd.func29 rfl (n := 38) rfl rfl ?_
  refine Zr ?_
  refine LL.box [Value.int IntKind.i64 3, Value.int IntKind.i64 l, Value.int IntKind.i64 0, Value.slice x n c, Value.int IntKind.i64 0, Value.int IntKind.i64 0, strV t] rfl rfl rfl rfl rfl ?_
  intro W2 g3 eg3 r4 z5 b1
  replace q := Zu q b1; have l6 := r4.lt
  refine LL.alloc ([Value.nilFunc, Value.nilFunc, Value.nilFunc, Value.nilFunc]) rfl rfl rfl rfl rfl ?_
  intro W8 g9 eg9 r10 z11 b7
  replace r4 := r4.up b7; replace b1 := Zu b1 b7; replace q := Zu q b7; refine Zq ?_; refine Zc ?_
  refine CC.freeZ (fun W_ j => j < W_.heap.size ∧ (True)) (by kernel_rfl) (by kernel_rfl) (fun W22 b21 z23 => ?_)
  replace r10 := r10.up b21; replace b7 := Zu b7 b21; replace r4 := r4.up b21; replace b1 := Zu b1 b21; replace q := Zu q b21
  have hok : Kept (fun j => j < W22.heap.size ∧ (True)) W22 W22 := Kept.refl _ _
  have fzr10 := fzRow (K := fun j => j < W22.heap.size ∧ (True)) r10 ⟨r10.lt, (by first | trivial | omega)⟩
  have fzr4 := fzRow (K := fun j => j < W22.heap.size ∧ (True)) r4 ⟨r4.lt, (by first | trivial | omega)⟩
  refine AA.pure 1 rfl hok (by kernel_rfl) (fun w' b' => R.field rfl rfl (I.fld rfl)) rfl rfl ?_
  refine AA.pure 2 rfl hok (by kernel_rfl) (fun w' b' => R.load rfl rfl (I.ld1 rfl (RowL.cell (fzr4 w' b') rfl))) rfl rfl ?_
  refine AA.two 0 7 (by kernel_rfl) ?_ ?_
  refine SR.call rfl (R.call rfl rfl rfl) rfl rfl (kinds_any _) ?_
  rintro e W25 ⟨g27, k28, rfl, h26, b24⟩
  have zb24 := b24.size; replace b21 := Zu b21 b24; replace r10 := r10.up b24; replace b7 := Zu b7 b24; replace r4 := r4.up b24; replace b1 := Zu b1 b24; replace q := Zu q b24; replace hok := Zh hok b24; have y29 := hok.size
  refine ⟨_, rfl, hok, ?_⟩
  refine AA.two 3 7 (by kernel_rfl) ?_ ?_
  (refine SR.val rfl (R.lookKT rfl rfl zKeys (by rfl) (z := kdZ) (by kernel_rfl) (by assumption) (3 : Int) rfl kF_3) rfl rfl hok ?_)
  refine AA.pure 4 rfl hok (by kernel_rfl) (fun w' b' => R.move rfl rfl) rfl rfl ?_
  refine AA.pure 5 rfl hok (by kernel_rfl) (fun w' b' => R.extract rfl rfl rfl) rfl rfl ?_
  refine AA.pure 6 rfl hok (by kernel_rfl) (fun w' b' => R.extract rfl rfl rfl) rfl rfl ?_
  refine AA.one 7 (by kernel_rfl) ?_
  have l30 := r10.lt; have l31 := r4.lt
  refine ZR.alloc ([Value.nilFunc, Value.nilFunc, Value.nilFunc, Value.nilFunc]) rfl rfl rfl rfl rfl rfl ?_
  intro W33 g34 eg34 r35 z36 b32
  replace h26 := h26.up b32; replace b24 := Zu b24 b32; replace b21 := Zu b21 b32; replace r10 := r10.up b32; replace b7 := Zu b7 b32; replace r4 := r4.up b32; replace b1 := Zu b1 b32; replace q := Zu q b32; replace hok := Zh hok b32; have y37 := hok.size
  refine ⟨hok, ?_⟩
  refine AA.one 8 (by kernel_rfl) ?_
  refine ZR.storeN (vs := [fnV kd3.1, fnV kd3.2.1, fnV kd3.2.2.1, fnV kd3.2.2.2]) rfl rfl rfl rfl rfl r35 (by exact Nat.le_of_ble_eq_true rfl) (ones_of rfl) rfl rfl ?_
  intro W39 r40 b38 z41
  have hlb38 := r35.lt
  replace r40 : RowL W39 _ 68 [fnV kd3.1, fnV kd3.2.1, fnV kd3.2.2.1, fnV kd3.2.2.2] := r40
  clear r35
  replace b32 := Zg b32 b38; replace b24 := Zg b24 b38; replace b21 := Zg b21 b38; replace r10 := Zd r10 b38; replace b7 := Zg b7 b38; replace r4 := Zd r4 b38; replace b1 := Zg b1 b38; replace q := Zg q b38; replace hok := Zo hok b38
  have r35 := r40
  clear r40
  refine ⟨hok, ?_⟩
  refine AA.pure 9 rfl hok (by kernel_rfl) (fun w' b' => R.assign rfl rfl) rfl rfl ?_
  refine AA.done rfl ?_
  clear fzr10 fzr4 hok
  refine EE.thenN ?_; refine Zr ?_; refine Zm ?_; refine Zt ?_; refine Zm ?_; refine Zf ?_; refine Zl r4 ?_
  refine LL.call (R.call rfl rfl rfl) rfl rfl rfl (within_T _ _ _ _ (by first | assumption | omega)) ?_
  rintro e W' ⟨rfl, rfl⟩
  refine ⟨_, rfl, ?_⟩; refine Zt ?_; refine Zp ?_
  refine LL.call (R.call rfl rfl rfl) rfl rfl rfl (refuse_F _) ?_
  rintro e W' ⟨rfl, rfl⟩
  refine ⟨_, rfl, ?_⟩; refine Zq ?_; refine Zc ?_
  refine CC.growT 15 (by kernel_rfl) (by kernel_rfl) ?_
  refine GG.val (fun w' b' => R.load rfl rfl (I.ldNc (vs := [Value.int IntKind.i64 3, Value.int IntKind.i64 l, Value.int IntKind.i64 0, Value.slice x n c, Value.int IntKind.i64 0, Value.int IntKind.i64 0, strV t]) (RowL.cells (r4.up b') rfl) (by rfl) (by rfl))) rfl rfl ?_
  refine GG.val (fun w' b' => R.field rfl rfl (I.fld rfl)) rfl rfl ?_
  refine GG.val (fun w' b' => R.load rfl rfl (I.ld1 rfl (RowL.cell (r35.up b') rfl))) rfl rfl ?_
  refine GG.val (fun w' b' => R.load rfl rfl (I.ldNc (vs := [Value.int IntKind.i64 3, Value.int IntKind.i64 l, Value.int IntKind.i64 0, Value.slice x n c, Value.int IntKind.i64 0, Value.int IntKind.i64 0, strV t]) (RowL.cells (r4.up b') rfl) (by rfl) (by rfl))) rfl rfl ?_
  refine GG.call (fun w' => (R.callV rfl rfl rfl rfl)) rfl rfl (fun w' b' => (nm3_any _ _ _ _ _ _ _ w' ⟨_, _, _, rfl⟩).mono fun e W' h => ⟨h.1, b'.trans (h.2.mono b'.size)⟩) ?_
  refine GG.call (fun w' => (R.call rfl rfl rfl)) rfl rfl (fun w' b' => (insame_any _ _ _ _ m _ _ _ _ _ _ _ [] _ _ _ w' (hvF _ (q.trans (b'.mono q.size))) (ReadsT.nil _) hlen (by decide) true hsm).mono fun e W' h => ⟨h.1, b'.trans (h.2.mono b'.size)⟩) ?_
  refine GG.val (fun w' b' => R.not rfl rfl) rfl rfl ?_
  refine GG.val (fun w' b' => R.move rfl rfl) rfl rfl ?_
  refine GG.val (fun w' b' => R.field rfl rfl (I.fld rfl)) rfl rfl ?_
  refine GG.val (fun w' b' => R.load rfl rfl (I.ld1 rfl (RowL.cell (r35.up b') rfl))) rfl rfl ?_
  refine GG.val (fun w' b' => R.load rfl rfl (I.ldNc (vs := [Value.int IntKind.i64 3, Value.int IntKind.i64 l, Value.int IntKind.i64 0, Value.slice x n c, Value.int IntKind.i64 0, Value.int IntKind.i64 0, strV t]) (RowL.cells (r4.up b') rfl) (by rfl) (by rfl))) rfl rfl ?_
  refine GG.val (fun w' b' => R.buildV rfl rfl (v := .agg #[Value.int IntKind.i64 3, Value.int IntKind.i64 l, Value.int IntKind.i64 0, Value.slice x n c, Value.int IntKind.i64 0, Value.int IntKind.i64 0, strV t]) (fun _ => by kernel_rfl)) rfl rfl ?_
  refine GG.call (fun w' => (R.callV rfl rfl rfl rfl)) rfl rfl (fun w' b' => (my3_T _ _ _ _ _ _ _ w' ⟨_, _, _, rfl⟩ hmy).mono fun e W' h => ⟨h.1, b'.trans (h.2.mono b'.size)⟩) ?_
  refine GG.val (fun w' b' => R.not rfl rfl) rfl rfl ?_
  refine GG.val (fun w' b' => R.pick rfl rfl rfl) rfl rfl ?_
  refine GG.nil (fun W46 b45 => ?_)
  have zb45 := b45.size; replace b32 := Zu b32 b45; replace b24 := Zu b24 b45; replace b21 := Zu b21 b45; replace r10 := r10.up b45; replace b7 := Zu b7 b45; replace r4 := r4.up b45; replace b1 := Zu b1 b45; replace q := Zu q b45; replace r35 := r35.up b45
  refine LL.call (R.call rfl rfl rfl) rfl rfl rfl (refuse_F _) ?_
  rintro e W' ⟨rfl, rfl⟩
  refine ⟨_, rfl, ?_⟩; refine Zq ?_; refine Zr ?_; refine Zv r35 ?_
  refine LL.storeN (vs := [fnV kd3.1, fnV kd3.2.1, fnV kd3.2.2.1, fnV kd3.2.2.2]) rfl rfl rfl rfl r10 (by exact Nat.le_of_ble_eq_true rfl) (ones_of rfl) rfl rfl ?_
  intro W48 r49 b47 z50
  have hlb47 := r10.lt
  replace r49 : RowL W48 _ 68 [fnV kd3.1, fnV kd3.2.1, fnV kd3.2.2.1, fnV kd3.2.2.2] := r49
  clear r10
  replace b7 := Zg b7 b47; replace r4 := Zd r4 b47; replace b1 := Zg b1 b47; replace q := Zg q b47; replace r35 := Zd r35 b47
  have r10 := r49
  clear r49
  refine Zq ?_; refine CC.ret ?_
  refine EE.retC rfl rfl (lvNc (RowL.cells0 (by assumption)) (by rfl) (by rfl)) ?_
  exact ⟨rfl, q⟩
  have l51 := r10.lt; have l52 := r4.lt
  refine ZR.alloc ([Value.nilFunc, Value.nilFunc, Value.nilFunc, Value.nilFunc]) rfl rfl rfl rfl rfl rfl ?_
  intro W54 g55 eg55 r56 z57 b53
  replace h26 := h26.up b53; replace b24 := Zu b24 b53; replace b21 := Zu b21 b53; replace r10 := r10.up b53; replace b7 := Zu b7 b53; replace r4 := r4.up b53; replace b1 := Zu b1 b53; replace q := Zu q b53; replace hok := Zh hok b53; have y58 := hok.size
  refine ⟨hok, ?_⟩
  refine AA.one 3 (by kernel_rfl) ?_
  (refine SR.val rfl (R.lookKT rfl rfl zKeys (by rfl) (z := kdZ) (by kernel_rfl) (by assumption) (3 : Int) rfl kF_3) rfl rfl hok ?_)
  refine AA.pure 4 rfl hok (by kernel_rfl) (fun w' b' => R.move rfl rfl) rfl rfl ?_
  refine AA.pure 5 rfl hok (by kernel_rfl) (fun w' b' => R.extract rfl rfl rfl) rfl rfl ?_
  refine AA.pure 6 rfl hok (by kernel_rfl) (fun w' b' => R.extract rfl rfl rfl) rfl rfl ?_
  refine AA.one 8 (by kernel_rfl) ?_
  refine ZR.storeN (vs := [fnV kd3.1, fnV kd3.2.1, fnV kd3.2.2.1, fnV kd3.2.2.2]) rfl rfl rfl rfl rfl r56 (by exact Nat.le_of_ble_eq_true rfl) (ones_of rfl) rfl rfl ?_
  intro W60 r61 b59 z62
  have hlb59 := r56.lt
  replace r61 : RowL W60 _ 68 [fnV kd3.1, fnV kd3.2.1, fnV kd3.2.2.1, fnV kd3.2.2.2] := r61
  clear r56
  replace b53 := Zg b53 b59; replace b24 := Zg b24 b59; replace b21 := Zg b21 b59; replace r10 := Zd r10 b59; replace b7 := Zg b7 b59; replace r4 := Zd r4 b59; replace b1 := Zg b1 b59; replace q := Zg q b59; replace hok := Zo hok b59
  have r56 := r61
  clear r61
  refine ⟨hok, ?_⟩
  refine AA.pure 9 rfl hok (by kernel_rfl) (fun w' b' => R.assign rfl rfl) rfl rfl ?_
  refine AA.done rfl ?_
  clear fzr10 fzr4 hok
  refine EE.thenN ?_; refine Zr ?_; refine Zm ?_; refine Zt ?_; refine Zm ?_; refine Zf ?_; refine Zl r4 ?_
  refine LL.call (R.call rfl rfl rfl) rfl rfl rfl (within_T _ _ _ _ (by first | assumption | omega)) ?_
  rintro e W' ⟨rfl, rfl⟩
  refine ⟨_, rfl, ?_⟩; refine Zt ?_; refine Zp ?_
  refine LL.call (R.call rfl rfl rfl) rfl rfl rfl (refuse_F _) ?_
  rintro e W' ⟨rfl, rfl⟩
  refine ⟨_, rfl, ?_⟩; refine Zq ?_; refine Zc ?_
  refine CC.growT 15 (by kernel_rfl) (by kernel_rfl) ?_
  refine GG.val (fun w' b' => R.load rfl rfl (I.ldNc (vs := [Value.int IntKind.i64 3, Value.int IntKind.i64 l, Value.int IntKind.i64 0, Value.slice x n c, Value.int IntKind.i64 0, Value.int IntKind.i64 0, strV t]) (RowL.cells (r4.up b') rfl) (by rfl) (by rfl))) rfl rfl ?_
  refine GG.val (fun w' b' => R.field rfl rfl (I.fld rfl)) rfl rfl ?_
  refine GG.val (fun w' b' => R.load rfl rfl (I.ld1 rfl (RowL.cell (r56.up b') rfl))) rfl rfl ?_
  refine GG.val (fun w' b' => R.load rfl rfl (I.ldNc (vs := [Value.int IntKind.i64 3, Value.int IntKind.i64 l, Value.int IntKind.i64 0, Value.slice x n c, Value.int IntKind.i64 0, Value.int IntKind.i64 0, strV t]) (RowL.cells (r4.up b') rfl) (by rfl) (by rfl))) rfl rfl ?_
  refine GG.call (fun w' => (R.callV rfl rfl rfl rfl)) rfl rfl (fun w' b' => (nm3_any _ _ _ _ _ _ _ w' ⟨_, _, _, rfl⟩).mono fun e W' h => ⟨h.1, b'.trans (h.2.mono b'.size)⟩) ?_
  refine GG.call (fun w' => (R.call rfl rfl rfl)) rfl rfl (fun w' b' => (insame_any _ _ _ _ m _ _ _ _ _ _ _ [] _ _ _ w' (hvF _ (q.trans (b'.mono q.size))) (ReadsT.nil _) hlen (by decide) true hsm).mono fun e W' h => ⟨h.1, b'.trans (h.2.mono b'.size)⟩) ?_
  refine GG.val (fun w' b' => R.not rfl rfl) rfl rfl ?_
  refine GG.val (fun w' b' => R.move rfl rfl) rfl rfl ?_
  refine GG.val (fun w' b' => R.field rfl rfl (I.fld rfl)) rfl rfl ?_
  refine GG.val (fun w' b' => R.load rfl rfl (I.ld1 rfl (RowL.cell (r56.up b') rfl))) rfl rfl ?_
  refine GG.val (fun w' b' => R.load rfl rfl (I.ldNc (vs := [Value.int IntKind.i64 3, Value.int IntKind.i64 l, Value.int IntKind.i64 0, Value.slice x n c, Value.int IntKind.i64 0, Value.int IntKind.i64 0, strV t]) (RowL.cells (r4.up b') rfl) (by rfl) (by rfl))) rfl rfl ?_
  refine GG.val (fun w' b' => R.buildV rfl rfl (v := .agg #[Value.int IntKind.i64 3, Value.int IntKind.i64 l, Value.int IntKind.i64 0, Value.slice x n c, Value.int IntKind.i64 0, Value.int IntKind.i64 0, strV t]) (fun _ => by kernel_rfl)) rfl rfl ?_
  refine GG.call (fun w' => (R.callV rfl rfl rfl rfl)) rfl rfl (fun w' b' => (my3_T _ _ _ _ _ _ _ w' ⟨_, _, _, rfl⟩ hmy).mono fun e W' h => ⟨h.1, b'.trans (h.2.mono b'.size)⟩) ?_
  refine GG.val (fun w' b' => R.not rfl rfl) rfl rfl ?_
  refine GG.val (fun w' b' => R.pick rfl rfl rfl) rfl rfl ?_
  refine GG.nil (fun W67 b66 => ?_)
  have zb66 := b66.size; replace b53 := Zu b53 b66; replace b24 := Zu b24 b66; replace b21 := Zu b21 b66; replace r10 := r10.up b66; replace b7 := Zu b7 b66; replace r4 := r4.up b66; replace b1 := Zu b1 b66; replace q := Zu q b66; replace r56 := r56.up b66
  refine LL.call (R.call rfl rfl rfl) rfl rfl rfl (refuse_F _) ?_
  rintro e W' ⟨rfl, rfl⟩
  refine ⟨_, rfl, ?_⟩; refine Zq ?_; refine Zr ?_; refine Zv r56 ?_
  refine LL.storeN (vs := [fnV kd3.1, fnV kd3.2.1, fnV kd3.2.2.1, fnV kd3.2.2.2]) rfl rfl rfl rfl r10 (by exact Nat.le_of_ble_eq_true rfl) (ones_of rfl) rfl rfl ?_
  intro W69 r70 b68 z71
  have hlb68 := r10.lt
  replace r70 : RowL W69 _ 68 [fnV kd3.1, fnV kd3.2.1, fnV kd3.2.2.1, fnV kd3.2.2.2] := r70
  clear r10
  replace b7 := Zg b7 b68; replace r4 := Zd r4 b68; replace b1 := Zg b1 b68; replace q := Zg q b68; replace r56 := Zd r56 b68
  have r10 := r70
  clear r70
  refine Zq ?_; refine CC.ret ?_
  refine EE.retC rfl rfl (lvNc (RowL.cells0 (by assumption)) (by rfl) (by rfl)) ?_
  exact ⟨rfl, q⟩
  have l72 := r10.lt; have l73 := r4.lt
  refine ZR.alloc ([Value.nilFunc, Value.nilFunc, Value.nilFunc, Value.nilFunc]) rfl rfl rfl rfl rfl rfl ?_
  intro W75 g76 eg76 r77 z78 b74
  replace b21 := Zu b21 b74; replace r10 := r10.up b74; replace b7 := Zu b7 b74; replace r4 := r4.up b74; replace b1 := Zu b1 b74; replace q := Zu q b74; replace hok := Zh hok b74; have y79 := hok.size
  refine ⟨hok, ?_⟩
  refine AA.one 0 (by kernel_rfl) ?_
  refine SR.call rfl (R.call rfl rfl rfl) rfl rfl (kinds_any _) ?_
  rintro e W81 ⟨g83, k84, rfl, h82, b80⟩
  have zb80 := b80.size; replace r77 := r77.up b80; replace b74 := Zu b74 b80; replace b21 := Zu b21 b80; replace r10 := r10.up b80; replace b7 := Zu b7 b80; replace r4 := r4.up b80; replace b1 := Zu b1 b80; replace q := Zu q b80; replace hok := Zh hok b80; have y85 := hok.size
  refine ⟨_, rfl, hok, ?_⟩
  refine AA.one 3 (by kernel_rfl) ?_
  (refine SR.val rfl (R.lookKT rfl rfl zKeys (by rfl) (z := kdZ) (by kernel_rfl) (by assumption) (3 : Int) rfl kF_3) rfl rfl hok ?_)
  refine AA.pure 4 rfl hok (by kernel_rfl) (fun w' b' => R.move rfl rfl) rfl rfl ?_
  refine AA.pure 5 rfl hok (by kernel_rfl) (fun w' b' => R.extract rfl rfl rfl) rfl rfl ?_
  refine AA.pure 6 rfl hok (by kernel_rfl) (fun w' b' => R.extract rfl rfl rfl) rfl rfl ?_
  refine AA.one 8 (by kernel_rfl) ?_
  refine ZR.storeN (vs := [fnV kd3.1, fnV kd3.2.1, fnV kd3.2.2.1, fnV kd3.2.2.2]) rfl rfl rfl rfl rfl r77 (by exact Nat.le_of_ble_eq_true rfl) (ones_of rfl) rfl rfl ?_
  intro W87 r88 b86 z89
  have hlb86 := r77.lt
  replace r88 : RowL W87 _ 68 [fnV kd3.1, fnV kd3.2.1, fnV kd3.2.2.1, fnV kd3.2.2.2] := r88
  clear r77
  replace b74 := Zg b74 b86; replace b21 := Zg b21 b86; replace r10 := Zd r10 b86; replace b7 := Zg b7 b86; replace r4 := Zd r4 b86; replace b1 := Zg b1 b86; replace q := Zg q b86; replace hok := Zo hok b86
  have r77 := r88
  clear r88
  refine ⟨hok, ?_⟩
  refine AA.pure 9 rfl hok (by kernel_rfl) (fun w' b' => R.assign rfl rfl) rfl rfl ?_
  refine AA.done rfl ?_
  clear fzr10 fzr4 hok
  refine EE.thenN ?_; refine Zr ?_; refine Zm ?_; refine Zt ?_; refine Zm ?_; refine Zf ?_; refine Zl r4 ?_
  refine LL.call (R.call rfl rfl rfl) rfl rfl rfl (within_T _ _ _ _ (by first | assumption | omega)) ?_
  rintro e W' ⟨rfl, rfl⟩
  refine ⟨_, rfl, ?_⟩; refine Zt ?_; refine Zp ?_
  refine LL.call (R.call rfl rfl rfl) rfl rfl rfl (refuse_F _) ?_
  rintro e W' ⟨rfl, rfl⟩
  refine ⟨_, rfl, ?_⟩; refine Zq ?_; refine Zc ?_
  refine CC.growT 15 (by kernel_rfl) (by kernel_rfl) ?_
  refine GG.val (fun w' b' => R.load rfl rfl (I.ldNc (vs := [Value.int IntKind.i64 3, Value.int IntKind.i64 l, Value.int IntKind.i64 0, Value.slice x n c, Value.int IntKind.i64 0, Value.int IntKind.i64 0, strV t]) (RowL.cells (r4.up b') rfl) (by rfl) (by rfl))) rfl rfl ?_
  refine GG.val (fun w' b' => R.field rfl rfl (I.fld rfl)) rfl rfl ?_
  refine GG.val (fun w' b' => R.load rfl rfl (I.ld1 rfl (RowL.cell (r77.up b') rfl))) rfl rfl ?_
  refine GG.val (fun w' b' => R.load rfl rfl (I.ldNc (vs := [Value.int IntKind.i64 3, Value.int IntKind.i64 l, Value.int IntKind.i64 0, Value.slice x n c, Value.int IntKind.i64 0, Value.int IntKind.i64 0, strV t]) (RowL.cells (r4.up b') rfl) (by rfl) (by rfl))) rfl rfl ?_
  refine GG.call (fun w' => (R.callV rfl rfl rfl rfl)) rfl rfl (fun w' b' => (nm3_any _ _ _ _ _ _ _ w' ⟨_, _, _, rfl⟩).mono fun e W' h => ⟨h.1, b'.trans (h.2.mono b'.size)⟩) ?_
  refine GG.call (fun w' => (R.call rfl rfl rfl)) rfl rfl (fun w' b' => (insame_any _ _ _ _ m _ _ _ _ _ _ _ [] _ _ _ w' (hvF _ (q.trans (b'.mono q.size))) (ReadsT.nil _) hlen (by decide) true hsm).mono fun e W' h => ⟨h.1, b'.trans (h.2.mono b'.size)⟩) ?_
  refine GG.val (fun w' b' => R.not rfl rfl) rfl rfl ?_
  refine GG.val (fun w' b' => R.move rfl rfl) rfl rfl ?_
  refine GG.val (fun w' b' => R.field rfl rfl (I.fld rfl)) rfl rfl ?_
  refine GG.val (fun w' b' => R.load rfl rfl (I.ld1 rfl (RowL.cell (r77.up b') rfl))) rfl rfl ?_
  refine GG.val (fun w' b' => R.load rfl rfl (I.ldNc (vs := [Value.int IntKind.i64 3, Value.int IntKind.i64 l, Value.int IntKind.i64 0, Value.slice x n c, Value.int IntKind.i64 0, Value.int IntKind.i64 0, strV t]) (RowL.cells (r4.up b') rfl) (by rfl) (by rfl))) rfl rfl ?_
  refine GG.val (fun w' b' => R.buildV rfl rfl (v := .agg #[Value.int IntKind.i64 3, Value.int IntKind.i64 l, Value.int IntKind.i64 0, Value.slice x n c, Value.int IntKind.i64 0, Value.int IntKind.i64 0, strV t]) (fun _ => by kernel_rfl)) rfl rfl ?_
  refine GG.call (fun w' => (R.callV rfl rfl rfl rfl)) rfl rfl (fun w' b' => (my3_T _ _ _ _ _ _ _ w' ⟨_, _, _, rfl⟩ hmy).mono fun e W' h => ⟨h.1, b'.trans (h.2.mono b'.size)⟩) ?_
  refine GG.val (fun w' b' => R.not rfl rfl) rfl rfl ?_
  refine GG.val (fun w' b' => R.pick rfl rfl rfl) rfl rfl ?_
  refine GG.nil (fun W94 b93 => ?_)
  have zb93 := b93.size; replace b74 := Zu b74 b93; replace b21 := Zu b21 b93; replace r10 := r10.up b93; replace b7 := Zu b7 b93; replace r4 := r4.up b93; replace b1 := Zu b1 b93; replace q := Zu q b93; replace r77 := r77.up b93
  refine LL.call (R.call rfl rfl rfl) rfl rfl rfl (refuse_F _) ?_
  rintro e W' ⟨rfl, rfl⟩
  refine ⟨_, rfl, ?_⟩; refine Zq ?_; refine Zr ?_; refine Zv r77 ?_
  refine LL.storeN (vs := [fnV kd3.1, fnV kd3.2.1, fnV kd3.2.2.1, fnV kd3.2.2.2]) rfl rfl rfl rfl r10 (by exact Nat.le_of_ble_eq_true rfl) (ones_of rfl) rfl rfl ?_
  intro W96 r97 b95 z98
  have hlb95 := r10.lt
  replace r97 : RowL W96 _ 68 [fnV kd3.1, fnV kd3.2.1, fnV kd3.2.2.1, fnV kd3.2.2.2] := r97
  clear r10
  replace b7 := Zg b7 b95; replace r4 := Zd r4 b95; replace b1 := Zg b1 b95; replace q := Zg q b95; replace r77 := Zd r77 b95
  have r10 := r97
  clear r97
  refine Zq ?_; refine CC.ret ?_
  refine EE.retC rfl rfl (lvNc (RowL.cells0 (by assumption)) (by rfl) (by rfl)) ?_
  exact ⟨rfl, q⟩
theorem checkK_F (k l z r p : Int) (t : Bs) (x : Option Addr) (n c : Nat) (m : List Ex) (w : World) (hv : ReadsT eE 3 w (.slice x n c) m) (hlen : m.length ≤ 1048576) (hk : k < 0 ∨ 3 < k) : Calls Tryd.prog 29 #[inV k l z (.slice x n c) r p t] w fun e w' => e = .panicked (chain1 refV) ∧ Below w.heap.size w w' := by
  have q := Below.refl w.heap.size w
  have hvF : ∀ X, Below w.heap.size w X → ReadsT eE 3 X (.slice x n c) m := fun X b => hv.up b
  clear hv
  have kN := kinds_none hk
  refine X.fnP Tryd.func29 rfl (n := 38) rfl rfl ?_
  refine Zr ?_
  refine LL.box [Value.int IntKind.i64 k, Value.int IntKind.i64 l, Value.int IntKind.i64 z, Value.slice x n c, Value.int IntKind.i64 r, Value.int IntKind.i64 p, strV t] rfl rfl rfl rfl rfl ?_
  intro W2 g3 eg3 r4 z5 b1
  replace q := Zu q b1; have l6 := r4.lt
  refine LL.alloc ([Value.nilFunc, Value.nilFunc, Value.nilFunc, Value.nilFunc]) rfl rfl rfl rfl rfl ?_
  intro W8 g9 eg9 r10 z11 b7
  replace r4 := r4.up b7; replace b1 := Zu b1 b7; replace q := Zu q b7; refine Zq ?_; refine Zc ?_
  refine CC.freeZ (fun W_ j => j < W_.heap.size ∧ (True)) (by kernel_rfl) (by kernel_rfl) (fun W22 b21 z23 => ?_)
  replace r10 := r10.up b21; replace b7 := Zu b7 b21; replace r4 := r4.up b21; replace b1 := Zu b1 b21; replace q := Zu q b21
  have hok : Kept (fun j => j < W22.heap.size ∧ (True)) W22 W22 := Kept.refl _ _
  have fzr10 := fzRow (K := fun j => j < W22.heap.size ∧ (True)) r10 ⟨r10.lt, (by first | trivial | omega)⟩
  have fzr4 := fzRow (K := fun j => j < W22.heap.size ∧ (True)) r4 ⟨r4.lt, (by first | trivial | omega)⟩
  refine AA.pure 1 rfl hok (by kernel_rfl) (fun w' b' => R.field rfl rfl (I.fld rfl)) rfl rfl ?_
  refine AA.pure 2 rfl hok (by kernel_rfl) (fun w' b' => R.load rfl rfl (I.ld1 rfl (RowL.cell (fzr4 w' b') rfl))) rfl rfl ?_
  refine AA.two 0 7 (by kernel_rfl) ?_ ?_
  refine SR.call rfl (R.call rfl rfl rfl) rfl rfl (kinds_any _) ?_
  rintro e W25 ⟨g27, k28, rfl, h26, b24⟩
  have zb24 := b24.size; replace b21 := Zu b21 b24; replace r10 := r10.up b24; replace b7 := Zu b7 b24; replace r4 := r4.up b24; replace b1 := Zu b1 b24; replace q := Zu q b24; replace hok := Zh hok b24; have y29 := hok.size
  refine ⟨_, rfl, hok, ?_⟩
  refine AA.two 3 7 (by kernel_rfl) ?_ ?_
  (refine SR.val rfl (R.lookKF rfl rfl zKeys (by rfl) (z := kdZ) (by kernel_rfl) (by assumption) k rfl kN) rfl rfl hok ?_)
  refine AA.pure 4 rfl hok (by kernel_rfl) (fun w' b' => R.move rfl rfl) rfl rfl ?_
  refine AA.pure 5 rfl hok (by kernel_rfl) (fun w' b' => R.extract rfl rfl rfl) rfl rfl ?_
  refine AA.pure 6 rfl hok (by kernel_rfl) (fun w' b' => R.extract rfl rfl rfl) rfl rfl ?_
  refine AA.one 7 (by kernel_rfl) ?_
  have l30 := r10.lt; have l31 := r4.lt
  refine ZR.alloc ([Value.nilFunc, Value.nilFunc, Value.nilFunc, Value.nilFunc]) rfl rfl rfl rfl rfl rfl ?_
  intro W33 g34 eg34 r35 z36 b32
  replace h26 := h26.up b32; replace b24 := Zu b24 b32; replace b21 := Zu b21 b32; replace r10 := r10.up b32; replace b7 := Zu b7 b32; replace r4 := r4.up b32; replace b1 := Zu b1 b32; replace q := Zu q b32; replace hok := Zh hok b32; have y37 := hok.size
  refine ⟨hok, ?_⟩
  refine AA.one 8 (by kernel_rfl) ?_
  refine ZR.storeN (vs := [Value.nilFunc, Value.nilFunc, Value.nilFunc, Value.nilFunc]) rfl rfl rfl rfl rfl r35 (by exact Nat.le_of_ble_eq_true rfl) (ones_of rfl) rfl rfl ?_
  intro W39 r40 b38 z41
  have hlb38 := r35.lt
  replace r40 : RowL W39 _ 68 [Value.nilFunc, Value.nilFunc, Value.nilFunc, Value.nilFunc] := r40
  clear r35
  replace b32 := Zg b32 b38; replace b24 := Zg b24 b38; replace b21 := Zg b21 b38; replace r10 := Zd r10 b38; replace b7 := Zg b7 b38; replace r4 := Zd r4 b38; replace b1 := Zg b1 b38; replace q := Zg q b38; replace hok := Zo hok b38
  have r35 := r40
  clear r40
  refine ⟨hok, ?_⟩
  refine AA.pure 9 rfl hok (by kernel_rfl) (fun w' b' => R.assign rfl rfl) rfl rfl ?_
  refine AA.done rfl ?_
  clear fzr10 fzr4 hok
  refine EE.thenN ?_; refine Zr ?_; refine Zm ?_; refine Zt ?_; refine Zm ?_; refine Zs ?_; refine Zs ?_; refine Zs ?_; refine Zs ?_; refine Zp ?_
  refine LL.callP (R.call rfl rfl rfl) rfl rfl (refuse_T _) ?_
  rintro e W43 ⟨rfl, rfl⟩
  refine ⟨_, rfl, ?_⟩; refine EE.thenP ?_; refine EE.panM ?_
  exact ⟨rfl, q⟩
  have l44 := r10.lt; have l45 := r4.lt
  refine ZR.alloc ([Value.nilFunc, Value.nilFunc, Value.nilFunc, Value.nilFunc]) rfl rfl rfl rfl rfl rfl ?_
  intro W47 g48 eg48 r49 z50 b46
  replace h26 := h26.up b46; replace b24 := Zu b24 b46; replace b21 := Zu b21 b46; replace r10 := r10.up b46; replace b7 := Zu b7 b46; replace r4 := r4.up b46; replace b1 := Zu b1 b46; replace q := Zu q b46; replace hok := Zh hok b46; have y51 := hok.size
  refine ⟨hok, ?_⟩
  refine AA.one 3 (by kernel_rfl) ?_
  (refine SR.val rfl (R.lookKF rfl rfl zKeys (by rfl) (z := kdZ) (by kernel_rfl) (by assumption) k rfl kN) rfl rfl hok ?_)
  refine AA.pure 4 rfl hok (by kernel_rfl) (fun w' b' => R.move rfl rfl) rfl rfl ?_
  refine AA.pure 5 rfl hok (by kernel_rfl) (fun w' b' => R.extract rfl rfl rfl) rfl rfl ?_
  refine AA.pure 6 rfl hok (by kernel_rfl) (fun w' b' => R.extract rfl rfl rfl) rfl rfl ?_
  refine AA.one 8 (by kernel_rfl) ?_
  refine ZR.storeN (vs := [Value.nilFunc, Value.nilFunc, Value.nilFunc, Value.nilFunc]) rfl rfl rfl rfl rfl r49 (by exact Nat.le_of_ble_eq_true rfl) (ones_of rfl) rfl rfl ?_
  intro W53 r54 b52 z55
  have hlb52 := r49.lt
  replace r54 : RowL W53 _ 68 [Value.nilFunc, Value.nilFunc, Value.nilFunc, Value.nilFunc] := r54
  clear r49
  replace b46 := Zg b46 b52; replace b24 := Zg b24 b52; replace b21 := Zg b21 b52; replace r10 := Zd r10 b52; replace b7 := Zg b7 b52; replace r4 := Zd r4 b52; replace b1 := Zg b1 b52; replace q := Zg q b52; replace hok := Zo hok b52
  have r49 := r54
  clear r54
  refine ⟨hok, ?_⟩
  refine AA.pure 9 rfl hok (by kernel_rfl) (fun w' b' => R.assign rfl rfl) rfl rfl ?_
  refine AA.done rfl ?_
  clear fzr10 fzr4 hok
  refine EE.thenN ?_; refine Zr ?_; refine Zm ?_; refine Zt ?_; refine Zm ?_; refine Zs ?_; refine Zs ?_; refine Zs ?_; refine Zs ?_; refine Zp ?_
  refine LL.callP (R.call rfl rfl rfl) rfl rfl (refuse_T _) ?_
  rintro e W57 ⟨rfl, rfl⟩
  refine ⟨_, rfl, ?_⟩; refine EE.thenP ?_; refine EE.panM ?_
  exact ⟨rfl, q⟩
  have l58 := r10.lt; have l59 := r4.lt
  refine ZR.alloc ([Value.nilFunc, Value.nilFunc, Value.nilFunc, Value.nilFunc]) rfl rfl rfl rfl rfl rfl ?_
  intro W61 g62 eg62 r63 z64 b60
  replace b21 := Zu b21 b60; replace r10 := r10.up b60; replace b7 := Zu b7 b60; replace r4 := r4.up b60; replace b1 := Zu b1 b60; replace q := Zu q b60; replace hok := Zh hok b60; have y65 := hok.size
  refine ⟨hok, ?_⟩
  refine AA.one 0 (by kernel_rfl) ?_
  refine SR.call rfl (R.call rfl rfl rfl) rfl rfl (kinds_any _) ?_
  rintro e W67 ⟨g69, k70, rfl, h68, b66⟩
  have zb66 := b66.size; replace r63 := r63.up b66; replace b60 := Zu b60 b66; replace b21 := Zu b21 b66; replace r10 := r10.up b66; replace b7 := Zu b7 b66; replace r4 := r4.up b66; replace b1 := Zu b1 b66; replace q := Zu q b66; replace hok := Zh hok b66; have y71 := hok.size
  refine ⟨_, rfl, hok, ?_⟩
  refine AA.one 3 (by kernel_rfl) ?_
  (refine SR.val rfl (R.lookKF rfl rfl zKeys (by rfl) (z := kdZ) (by kernel_rfl) (by assumption) k rfl kN) rfl rfl hok ?_)
  refine AA.pure 4 rfl hok (by kernel_rfl) (fun w' b' => R.move rfl rfl) rfl rfl ?_
  refine AA.pure 5 rfl hok (by kernel_rfl) (fun w' b' => R.extract rfl rfl rfl) rfl rfl ?_
  refine AA.pure 6 rfl hok (by kernel_rfl) (fun w' b' => R.extract rfl rfl rfl) rfl rfl ?_
  refine AA.one 8 (by kernel_rfl) ?_
  refine ZR.storeN (vs := [Value.nilFunc, Value.nilFunc, Value.nilFunc, Value.nilFunc]) rfl rfl rfl rfl rfl r63 (by exact Nat.le_of_ble_eq_true rfl) (ones_of rfl) rfl rfl ?_
  intro W73 r74 b72 z75
  have hlb72 := r63.lt
  replace r74 : RowL W73 _ 68 [Value.nilFunc, Value.nilFunc, Value.nilFunc, Value.nilFunc] := r74
  clear r63
  replace b60 := Zg b60 b72; replace b21 := Zg b21 b72; replace r10 := Zd r10 b72; replace b7 := Zg b7 b72; replace r4 := Zd r4 b72; replace b1 := Zg b1 b72; replace q := Zg q b72; replace hok := Zo hok b72
  have r63 := r74
  clear r74
  refine ⟨hok, ?_⟩
  refine AA.pure 9 rfl hok (by kernel_rfl) (fun w' b' => R.assign rfl rfl) rfl rfl ?_
  refine AA.done rfl ?_
  clear fzr10 fzr4 hok
  refine EE.thenN ?_; refine Zr ?_; refine Zm ?_; refine Zt ?_; refine Zm ?_; refine Zs ?_; refine Zs ?_; refine Zs ?_; refine Zs ?_; refine Zp ?_
  refine LL.callP (R.call rfl rfl rfl) rfl rfl (refuse_T _) ?_
  rintro e W77 ⟨rfl, rfl⟩
  refine ⟨_, rfl, ?_⟩; refine EE.thenP ?_; refine EE.panM ?_
  exact ⟨rfl, q⟩
theorem check0_L (l z r p : Int) (t : Bs) (x : Option Addr) (n c : Nat) (m : List Ex) (w : World) (hv : ReadsT eE 3 w (.slice x n c) m) (hlen : m.length ≤ 1048576) (hl : l < 0 ∨ 65535 < l) : Calls Tryd.prog 29 #[inV 0 l z (.slice x n c) r p t] w fun e w' => e = .panicked (chain1 refV) ∧ Below w.heap.size w w' := by
  have q := Below.refl w.heap.size w
  have hvF : ∀ X, Below w.heap.size w X → ReadsT eE 3 X (.slice x n c) m := fun X b => hv.up b
  clear hv
  refine X.fnP Tryd.func29 rfl (n := 38) rfl rfl ?_
  refine Zr ?_
  refine LL.box [Value.int IntKind.i64 0, Value.int IntKind.i64 l, Value.int IntKind.i64 z, Value.slice x n c, Value.int IntKind.i64 r, Value.int IntKind.i64 p, strV t] rfl rfl rfl rfl rfl ?_
  intro W2 g3 eg3 r4 z5 b1
  replace q := Zu q b1; have l6 := r4.lt
  refine LL.alloc ([Value.nilFunc, Value.nilFunc, Value.nilFunc, Value.nilFunc]) rfl rfl rfl rfl rfl ?_
  intro W8 g9 eg9 r10 z11 b7
  replace r4 := r4.up b7; replace b1 := Zu b1 b7; replace q := Zu q b7; refine Zq ?_; refine Zc ?_
  refine CC.freeZ (fun W_ j => j < W_.heap.size ∧ (True)) (by kernel_rfl) (by kernel_rfl) (fun W22 b21 z23 => ?_)
  replace r10 := r10.up b21; replace b7 := Zu b7 b21; replace r4 := r4.up b21; replace b1 := Zu b1 b21; replace q := Zu q b21
  have hok : Kept (fun j => j < W22.heap.size ∧ (True)) W22 W22 := Kept.refl _ _
  have fzr10 := fzRow (K := fun j => j < W22.heap.size ∧ (True)) r10 ⟨r10.lt, (by first | trivial | omega)⟩
  have fzr4 := fzRow (K := fun j => j < W22.heap.size ∧ (True)) r4 ⟨r4.lt, (by first | trivial | omega)⟩
  refine AA.pure 1 rfl hok (by kernel_rfl) (fun w' b' => R.field rfl rfl (I.fld rfl)) rfl rfl ?_
  refine AA.pure 2 rfl hok (by kernel_rfl) (fun w' b' => R.load rfl rfl (I.ld1 rfl (RowL.cell (fzr4 w' b') rfl))) rfl rfl ?_
  refine AA.two 0 7 (by kernel_rfl) ?_ ?_
  refine SR.call rfl (R.call rfl rfl rfl) rfl rfl (kinds_any _) ?_
  rintro e W25 ⟨g27, k28, rfl, h26, b24⟩
  have zb24 := b24.size; replace b21 := Zu b21 b24; replace r10 := r10.up b24; replace b7 := Zu b7 b24; replace r4 := r4.up b24; replace b1 := Zu b1 b24; replace q := Zu q b24; replace hok := Zh hok b24; have y29 := hok.size
  refine ⟨_, rfl, hok, ?_⟩
  refine AA.two 3 7 (by kernel_rfl) ?_ ?_
  (refine SR.val rfl (R.lookKT rfl rfl zKeys (by rfl) (z := kdZ) (by kernel_rfl) (by assumption) (0 : Int) rfl kF_0) rfl rfl hok ?_)
  refine AA.pure 4 rfl hok (by kernel_rfl) (fun w' b' => R.move rfl rfl) rfl rfl ?_
  refine AA.pure 5 rfl hok (by kernel_rfl) (fun w' b' => R.extract rfl rfl rfl) rfl rfl ?_
  refine AA.pure 6 rfl hok (by kernel_rfl) (fun w' b' => R.extract rfl rfl rfl) rfl rfl ?_
  refine AA.one 7 (by kernel_rfl) ?_
  have l30 := r10.lt; have l31 := r4.lt
  refine ZR.alloc ([Value.nilFunc, Value.nilFunc, Value.nilFunc, Value.nilFunc]) rfl rfl rfl rfl rfl rfl ?_
  intro W33 g34 eg34 r35 z36 b32
  replace h26 := h26.up b32; replace b24 := Zu b24 b32; replace b21 := Zu b21 b32; replace r10 := r10.up b32; replace b7 := Zu b7 b32; replace r4 := r4.up b32; replace b1 := Zu b1 b32; replace q := Zu q b32; replace hok := Zh hok b32; have y37 := hok.size
  refine ⟨hok, ?_⟩
  refine AA.one 8 (by kernel_rfl) ?_
  refine ZR.storeN (vs := [fnV kd0.1, fnV kd0.2.1, fnV kd0.2.2.1, fnV kd0.2.2.2]) rfl rfl rfl rfl rfl r35 (by exact Nat.le_of_ble_eq_true rfl) (ones_of rfl) rfl rfl ?_
  intro W39 r40 b38 z41
  have hlb38 := r35.lt
  replace r40 : RowL W39 _ 68 [fnV kd0.1, fnV kd0.2.1, fnV kd0.2.2.1, fnV kd0.2.2.2] := r40
  clear r35
  replace b32 := Zg b32 b38; replace b24 := Zg b24 b38; replace b21 := Zg b21 b38; replace r10 := Zd r10 b38; replace b7 := Zg b7 b38; replace r4 := Zd r4 b38; replace b1 := Zg b1 b38; replace q := Zg q b38; replace hok := Zo hok b38
  have r35 := r40
  clear r40
  refine ⟨hok, ?_⟩
  refine AA.pure 9 rfl hok (by kernel_rfl) (fun w' b' => R.assign rfl rfl) rfl rfl ?_
  refine AA.done rfl ?_
  clear fzr10 fzr4 hok
  refine EE.thenN ?_; refine Zr ?_; refine Zm ?_; refine Zt ?_; refine Zm ?_; refine Zf ?_; refine Zl r4 ?_
  refine LL.call (R.call rfl rfl rfl) rfl rfl rfl (within_F _ _ _ _ (by first | assumption | omega)) ?_
  rintro e W' ⟨rfl, rfl⟩
  refine ⟨_, rfl, ?_⟩; refine Zt ?_; refine Zp ?_
  refine LL.callP (R.call rfl rfl rfl) rfl rfl (refuse_T _) ?_
  rintro e W43 ⟨rfl, rfl⟩
  refine ⟨_, rfl, ?_⟩; refine EE.thenP ?_; refine EE.panM ?_
  exact ⟨rfl, q⟩
  have l44 := r10.lt; have l45 := r4.lt
  refine ZR.alloc ([Value.nilFunc, Value.nilFunc, Value.nilFunc, Value.nilFunc]) rfl rfl rfl rfl rfl rfl ?_
  intro W47 g48 eg48 r49 z50 b46
  replace h26 := h26.up b46; replace b24 := Zu b24 b46; replace b21 := Zu b21 b46; replace r10 := r10.up b46; replace b7 := Zu b7 b46; replace r4 := r4.up b46; replace b1 := Zu b1 b46; replace q := Zu q b46; replace hok := Zh hok b46; have y51 := hok.size
  refine ⟨hok, ?_⟩
  refine AA.one 3 (by kernel_rfl) ?_
  (refine SR.val rfl (R.lookKT rfl rfl zKeys (by rfl) (z := kdZ) (by kernel_rfl) (by assumption) (0 : Int) rfl kF_0) rfl rfl hok ?_)
  refine AA.pure 4 rfl hok (by kernel_rfl) (fun w' b' => R.move rfl rfl) rfl rfl ?_
  refine AA.pure 5 rfl hok (by kernel_rfl) (fun w' b' => R.extract rfl rfl rfl) rfl rfl ?_
  refine AA.pure 6 rfl hok (by kernel_rfl) (fun w' b' => R.extract rfl rfl rfl) rfl rfl ?_
  refine AA.one 8 (by kernel_rfl) ?_
  refine ZR.storeN (vs := [fnV kd0.1, fnV kd0.2.1, fnV kd0.2.2.1, fnV kd0.2.2.2]) rfl rfl rfl rfl rfl r49 (by exact Nat.le_of_ble_eq_true rfl) (ones_of rfl) rfl rfl ?_
  intro W53 r54 b52 z55
  have hlb52 := r49.lt
  replace r54 : RowL W53 _ 68 [fnV kd0.1, fnV kd0.2.1, fnV kd0.2.2.1, fnV kd0.2.2.2] := r54
  clear r49
  replace b46 := Zg b46 b52; replace b24 := Zg b24 b52; replace b21 := Zg b21 b52; replace r10 := Zd r10 b52; replace b7 := Zg b7 b52; replace r4 := Zd r4 b52; replace b1 := Zg b1 b52; replace q := Zg q b52; replace hok := Zo hok b52
  have r49 := r54
  clear r54
  refine ⟨hok, ?_⟩
  refine AA.pure 9 rfl hok (by kernel_rfl) (fun w' b' => R.assign rfl rfl) rfl rfl ?_
  refine AA.done rfl ?_
  clear fzr10 fzr4 hok
  refine EE.thenN ?_; refine Zr ?_; refine Zm ?_; refine Zt ?_; refine Zm ?_; refine Zf ?_; refine Zl r4 ?_
  refine LL.call (R.call rfl rfl rfl) rfl rfl rfl (within_F _ _ _ _ (by first | assumption | omega)) ?_
  rintro e W' ⟨rfl, rfl⟩
  refine ⟨_, rfl, ?_⟩; refine Zt ?_; refine Zp ?_
  refine LL.callP (R.call rfl rfl rfl) rfl rfl (refuse_T _) ?_
  rintro e W57 ⟨rfl, rfl⟩
  refine ⟨_, rfl, ?_⟩; refine EE.thenP ?_; refine EE.panM ?_
  exact ⟨rfl, q⟩
  have l58 := r10.lt; have l59 := r4.lt
  refine ZR.alloc ([Value.nilFunc, Value.nilFunc, Value.nilFunc, Value.nilFunc]) rfl rfl rfl rfl rfl rfl ?_
  intro W61 g62 eg62 r63 z64 b60
  replace b21 := Zu b21 b60; replace r10 := r10.up b60; replace b7 := Zu b7 b60; replace r4 := r4.up b60; replace b1 := Zu b1 b60; replace q := Zu q b60; replace hok := Zh hok b60; have y65 := hok.size
  refine ⟨hok, ?_⟩
  refine AA.one 0 (by kernel_rfl) ?_
  refine SR.call rfl (R.call rfl rfl rfl) rfl rfl (kinds_any _) ?_
  rintro e W67 ⟨g69, k70, rfl, h68, b66⟩
  have zb66 := b66.size; replace r63 := r63.up b66; replace b60 := Zu b60 b66; replace b21 := Zu b21 b66; replace r10 := r10.up b66; replace b7 := Zu b7 b66; replace r4 := r4.up b66; replace b1 := Zu b1 b66; replace q := Zu q b66; replace hok := Zh hok b66; have y71 := hok.size
  refine ⟨_, rfl, hok, ?_⟩
  refine AA.one 3 (by kernel_rfl) ?_
  (refine SR.val rfl (R.lookKT rfl rfl zKeys (by rfl) (z := kdZ) (by kernel_rfl) (by assumption) (0 : Int) rfl kF_0) rfl rfl hok ?_)
  refine AA.pure 4 rfl hok (by kernel_rfl) (fun w' b' => R.move rfl rfl) rfl rfl ?_
  refine AA.pure 5 rfl hok (by kernel_rfl) (fun w' b' => R.extract rfl rfl rfl) rfl rfl ?_
  refine AA.pure 6 rfl hok (by kernel_rfl) (fun w' b' => R.extract rfl rfl rfl) rfl rfl ?_
  refine AA.one 8 (by kernel_rfl) ?_
  refine ZR.storeN (vs := [fnV kd0.1, fnV kd0.2.1, fnV kd0.2.2.1, fnV kd0.2.2.2]) rfl rfl rfl rfl rfl r63 (by exact Nat.le_of_ble_eq_true rfl) (ones_of rfl) rfl rfl ?_
  intro W73 r74 b72 z75
  have hlb72 := r63.lt
  replace r74 : RowL W73 _ 68 [fnV kd0.1, fnV kd0.2.1, fnV kd0.2.2.1, fnV kd0.2.2.2] := r74
  clear r63
  replace b60 := Zg b60 b72; replace b21 := Zg b21 b72; replace r10 := Zd r10 b72; replace b7 := Zg b7 b72; replace r4 := Zd r4 b72; replace b1 := Zg b1 b72; replace q := Zg q b72; replace hok := Zo hok b72
  have r63 := r74
  clear r74
  refine ⟨hok, ?_⟩
  refine AA.pure 9 rfl hok (by kernel_rfl) (fun w' b' => R.assign rfl rfl) rfl rfl ?_
  refine AA.done rfl ?_
  clear fzr10 fzr4 hok
  refine EE.thenN ?_; refine Zr ?_; refine Zm ?_; refine Zt ?_; refine Zm ?_; refine Zf ?_; refine Zl r4 ?_
  refine LL.call (R.call rfl rfl rfl) rfl rfl rfl (within_F _ _ _ _ (by first | assumption | omega)) ?_
  rintro e W' ⟨rfl, rfl⟩
  refine ⟨_, rfl, ?_⟩; refine Zt ?_; refine Zp ?_
  refine LL.callP (R.call rfl rfl rfl) rfl rfl (refuse_T _) ?_
  rintro e W77 ⟨rfl, rfl⟩
  refine ⟨_, rfl, ?_⟩; refine EE.thenP ?_; refine EE.panM ?_
  exact ⟨rfl, q⟩
theorem check0_N (l z r p : Int) (t : Bs) (x : Option Addr) (n c : Nat) (m : List Ex) (w : World) (hv : ReadsT eE 3 w (.slice x n c) m) (hlen : m.length ≤ 1048576) (hl : 0 ≤ l ∧ l ≤ 65535) (hn : ¬sameI 0 l z m r p t 0 0 0 [] 0 0 []) : Calls Tryd.prog 29 #[inV 0 l z (.slice x n c) r p t] w fun e w' => e = .panicked (chain1 refV) ∧ Below w.heap.size w w' := by
  have q := Below.refl w.heap.size w
  have hvF : ∀ X, Below w.heap.size w X → ReadsT eE 3 X (.slice x n c) m := fun X b => hv.up b
  clear hv
  have hsm : false = true ↔ sameI 0 l z m r p t 0 0 0 [] 0 0 [] := ⟨fun h => (by cases h), fun h => absurd h hn⟩
  refine X.fnP Tryd.func29 rfl (n := 38) rfl rfl ?_
  refine Zr ?_
  refine LL.box [Value.int IntKind.i64 0, Value.int IntKind.i64 l, Value.int IntKind.i64 z, Value.slice x n c, Value.int IntKind.i64 r, Value.int IntKind.i64 p, strV t] rfl rfl rfl rfl rfl ?_
  intro W2 g3 eg3 r4 z5 b1
  replace q := Zu q b1; have l6 := r4.lt
  refine LL.alloc ([Value.nilFunc, Value.nilFunc, Value.nilFunc, Value.nilFunc]) rfl rfl rfl rfl rfl ?_
  intro W8 g9 eg9 r10 z11 b7
  replace r4 := r4.up b7; replace b1 := Zu b1 b7; replace q := Zu q b7; refine Zq ?_; refine Zc ?_
  refine CC.freeZ (fun W_ j => j < W_.heap.size ∧ (True)) (by kernel_rfl) (by kernel_rfl) (fun W22 b21 z23 => ?_)
  replace r10 := r10.up b21; replace b7 := Zu b7 b21; replace r4 := r4.up b21; replace b1 := Zu b1 b21; replace q := Zu q b21
  have hok : Kept (fun j => j < W22.heap.size ∧ (True)) W22 W22 := Kept.refl _ _
  have fzr10 := fzRow (K := fun j => j < W22.heap.size ∧ (True)) r10 ⟨r10.lt, (by first | trivial | omega)⟩
  have fzr4 := fzRow (K := fun j => j < W22.heap.size ∧ (True)) r4 ⟨r4.lt, (by first | trivial | omega)⟩
  refine AA.pure 1 rfl hok (by kernel_rfl) (fun w' b' => R.field rfl rfl (I.fld rfl)) rfl rfl ?_
  refine AA.pure 2 rfl hok (by kernel_rfl) (fun w' b' => R.load rfl rfl (I.ld1 rfl (RowL.cell (fzr4 w' b') rfl))) rfl rfl ?_
  refine AA.two 0 7 (by kernel_rfl) ?_ ?_
  refine SR.call rfl (R.call rfl rfl rfl) rfl rfl (kinds_any _) ?_
  rintro e W25 ⟨g27, k28, rfl, h26, b24⟩
  have zb24 := b24.size; replace b21 := Zu b21 b24; replace r10 := r10.up b24; replace b7 := Zu b7 b24; replace r4 := r4.up b24; replace b1 := Zu b1 b24; replace q := Zu q b24; replace hok := Zh hok b24; have y29 := hok.size
  refine ⟨_, rfl, hok, ?_⟩
  refine AA.two 3 7 (by kernel_rfl) ?_ ?_
  (refine SR.val rfl (R.lookKT rfl rfl zKeys (by rfl) (z := kdZ) (by kernel_rfl) (by assumption) (0 : Int) rfl kF_0) rfl rfl hok ?_)
  refine AA.pure 4 rfl hok (by kernel_rfl) (fun w' b' => R.move rfl rfl) rfl rfl ?_
  refine AA.pure 5 rfl hok (by kernel_rfl) (fun w' b' => R.extract rfl rfl rfl) rfl rfl ?_
  refine AA.pure 6 rfl hok (by kernel_rfl) (fun w' b' => R.extract rfl rfl rfl) rfl rfl ?_
  refine AA.one 7 (by kernel_rfl) ?_
  have l30 := r10.lt; have l31 := r4.lt
  refine ZR.alloc ([Value.nilFunc, Value.nilFunc, Value.nilFunc, Value.nilFunc]) rfl rfl rfl rfl rfl rfl ?_
  intro W33 g34 eg34 r35 z36 b32
  replace h26 := h26.up b32; replace b24 := Zu b24 b32; replace b21 := Zu b21 b32; replace r10 := r10.up b32; replace b7 := Zu b7 b32; replace r4 := r4.up b32; replace b1 := Zu b1 b32; replace q := Zu q b32; replace hok := Zh hok b32; have y37 := hok.size
  refine ⟨hok, ?_⟩
  refine AA.one 8 (by kernel_rfl) ?_
  refine ZR.storeN (vs := [fnV kd0.1, fnV kd0.2.1, fnV kd0.2.2.1, fnV kd0.2.2.2]) rfl rfl rfl rfl rfl r35 (by exact Nat.le_of_ble_eq_true rfl) (ones_of rfl) rfl rfl ?_
  intro W39 r40 b38 z41
  have hlb38 := r35.lt
  replace r40 : RowL W39 _ 68 [fnV kd0.1, fnV kd0.2.1, fnV kd0.2.2.1, fnV kd0.2.2.2] := r40
  clear r35
  replace b32 := Zg b32 b38; replace b24 := Zg b24 b38; replace b21 := Zg b21 b38; replace r10 := Zd r10 b38; replace b7 := Zg b7 b38; replace r4 := Zd r4 b38; replace b1 := Zg b1 b38; replace q := Zg q b38; replace hok := Zo hok b38
  have r35 := r40
  clear r40
  refine ⟨hok, ?_⟩
  refine AA.pure 9 rfl hok (by kernel_rfl) (fun w' b' => R.assign rfl rfl) rfl rfl ?_
  refine AA.done rfl ?_
  clear fzr10 fzr4 hok
  refine EE.thenN ?_; refine Zr ?_; refine Zm ?_; refine Zt ?_; refine Zm ?_; refine Zf ?_; refine Zl r4 ?_
  refine LL.call (R.call rfl rfl rfl) rfl rfl rfl (within_T _ _ _ _ (by first | assumption | omega)) ?_
  rintro e W' ⟨rfl, rfl⟩
  refine ⟨_, rfl, ?_⟩; refine Zt ?_; refine Zp ?_
  refine LL.call (R.call rfl rfl rfl) rfl rfl rfl (refuse_F _) ?_
  rintro e W' ⟨rfl, rfl⟩
  refine ⟨_, rfl, ?_⟩; refine Zq ?_; refine Zc ?_
  refine CC.growT 15 (by kernel_rfl) (by kernel_rfl) ?_
  refine GG.val (fun w' b' => R.load rfl rfl (I.ldNc (vs := [Value.int IntKind.i64 0, Value.int IntKind.i64 l, Value.int IntKind.i64 z, Value.slice x n c, Value.int IntKind.i64 r, Value.int IntKind.i64 p, strV t]) (RowL.cells (r4.up b') rfl) (by rfl) (by rfl))) rfl rfl ?_
  refine GG.val (fun w' b' => R.field rfl rfl (I.fld rfl)) rfl rfl ?_
  refine GG.val (fun w' b' => R.load rfl rfl (I.ld1 rfl (RowL.cell (r35.up b') rfl))) rfl rfl ?_
  refine GG.val (fun w' b' => R.load rfl rfl (I.ldNc (vs := [Value.int IntKind.i64 0, Value.int IntKind.i64 l, Value.int IntKind.i64 z, Value.slice x n c, Value.int IntKind.i64 r, Value.int IntKind.i64 p, strV t]) (RowL.cells (r4.up b') rfl) (by rfl) (by rfl))) rfl rfl ?_
  refine GG.call (fun w' => (R.callV rfl rfl rfl rfl)) rfl rfl (fun w' b' => (nm0_any _ _ _ _ _ _ _ w').mono fun e W' h => ⟨h.1, b'.trans (h.2.mono b'.size)⟩) ?_
  refine GG.call (fun w' => (R.call rfl rfl rfl)) rfl rfl (fun w' b' => (insame_any _ _ _ _ m _ _ _ _ _ _ _ [] _ _ _ w' (hvF _ (q.trans (b'.mono q.size))) (ReadsT.nil _) hlen (by decide) false hsm).mono fun e W' h => ⟨h.1, b'.trans (h.2.mono b'.size)⟩) ?_
  refine GG.val (fun w' b' => R.not rfl rfl) rfl rfl ?_
  refine GG.val (fun w' b' => R.move rfl rfl) rfl rfl ?_
  refine GG.skip rfl rfl ?_
  refine GG.skip rfl rfl ?_
  refine GG.skip rfl rfl ?_
  refine GG.skip rfl rfl ?_
  refine GG.skip rfl rfl ?_
  refine GG.skip rfl rfl ?_
  refine GG.val (fun w' b' => R.pick rfl rfl rfl) rfl rfl ?_
  refine GG.nil (fun W46 b45 => ?_)
  have zb45 := b45.size; replace b32 := Zu b32 b45; replace b24 := Zu b24 b45; replace b21 := Zu b21 b45; replace r10 := r10.up b45; replace b7 := Zu b7 b45; replace r4 := r4.up b45; replace b1 := Zu b1 b45; replace q := Zu q b45; replace r35 := r35.up b45
  refine LL.callP (R.call rfl rfl rfl) rfl rfl (refuse_T _) ?_
  rintro e W48 ⟨rfl, rfl⟩
  refine ⟨_, rfl, ?_⟩; refine EE.thenP ?_; refine EE.panM ?_
  exact ⟨rfl, q⟩
  have l49 := r10.lt; have l50 := r4.lt
  refine ZR.alloc ([Value.nilFunc, Value.nilFunc, Value.nilFunc, Value.nilFunc]) rfl rfl rfl rfl rfl rfl ?_
  intro W52 g53 eg53 r54 z55 b51
  replace h26 := h26.up b51; replace b24 := Zu b24 b51; replace b21 := Zu b21 b51; replace r10 := r10.up b51; replace b7 := Zu b7 b51; replace r4 := r4.up b51; replace b1 := Zu b1 b51; replace q := Zu q b51; replace hok := Zh hok b51; have y56 := hok.size
  refine ⟨hok, ?_⟩
  refine AA.one 3 (by kernel_rfl) ?_
  (refine SR.val rfl (R.lookKT rfl rfl zKeys (by rfl) (z := kdZ) (by kernel_rfl) (by assumption) (0 : Int) rfl kF_0) rfl rfl hok ?_)
  refine AA.pure 4 rfl hok (by kernel_rfl) (fun w' b' => R.move rfl rfl) rfl rfl ?_
  refine AA.pure 5 rfl hok (by kernel_rfl) (fun w' b' => R.extract rfl rfl rfl) rfl rfl ?_
  refine AA.pure 6 rfl hok (by kernel_rfl) (fun w' b' => R.extract rfl rfl rfl) rfl rfl ?_
  refine AA.one 8 (by kernel_rfl) ?_
  refine ZR.storeN (vs := [fnV kd0.1, fnV kd0.2.1, fnV kd0.2.2.1, fnV kd0.2.2.2]) rfl rfl rfl rfl rfl r54 (by exact Nat.le_of_ble_eq_true rfl) (ones_of rfl) rfl rfl ?_
  intro W58 r59 b57 z60
  have hlb57 := r54.lt
  replace r59 : RowL W58 _ 68 [fnV kd0.1, fnV kd0.2.1, fnV kd0.2.2.1, fnV kd0.2.2.2] := r59
  clear r54
  replace b51 := Zg b51 b57; replace b24 := Zg b24 b57; replace b21 := Zg b21 b57; replace r10 := Zd r10 b57; replace b7 := Zg b7 b57; replace r4 := Zd r4 b57; replace b1 := Zg b1 b57; replace q := Zg q b57; replace hok := Zo hok b57
  have r54 := r59
  clear r59
  refine ⟨hok, ?_⟩
  refine AA.pure 9 rfl hok (by kernel_rfl) (fun w' b' => R.assign rfl rfl) rfl rfl ?_
  refine AA.done rfl ?_
  clear fzr10 fzr4 hok
  refine EE.thenN ?_; refine Zr ?_; refine Zm ?_; refine Zt ?_; refine Zm ?_; refine Zf ?_; refine Zl r4 ?_
  refine LL.call (R.call rfl rfl rfl) rfl rfl rfl (within_T _ _ _ _ (by first | assumption | omega)) ?_
  rintro e W' ⟨rfl, rfl⟩
  refine ⟨_, rfl, ?_⟩; refine Zt ?_; refine Zp ?_
  refine LL.call (R.call rfl rfl rfl) rfl rfl rfl (refuse_F _) ?_
  rintro e W' ⟨rfl, rfl⟩
  refine ⟨_, rfl, ?_⟩; refine Zq ?_; refine Zc ?_
  refine CC.growT 15 (by kernel_rfl) (by kernel_rfl) ?_
  refine GG.val (fun w' b' => R.load rfl rfl (I.ldNc (vs := [Value.int IntKind.i64 0, Value.int IntKind.i64 l, Value.int IntKind.i64 z, Value.slice x n c, Value.int IntKind.i64 r, Value.int IntKind.i64 p, strV t]) (RowL.cells (r4.up b') rfl) (by rfl) (by rfl))) rfl rfl ?_
  refine GG.val (fun w' b' => R.field rfl rfl (I.fld rfl)) rfl rfl ?_
  refine GG.val (fun w' b' => R.load rfl rfl (I.ld1 rfl (RowL.cell (r54.up b') rfl))) rfl rfl ?_
  refine GG.val (fun w' b' => R.load rfl rfl (I.ldNc (vs := [Value.int IntKind.i64 0, Value.int IntKind.i64 l, Value.int IntKind.i64 z, Value.slice x n c, Value.int IntKind.i64 r, Value.int IntKind.i64 p, strV t]) (RowL.cells (r4.up b') rfl) (by rfl) (by rfl))) rfl rfl ?_
  refine GG.call (fun w' => (R.callV rfl rfl rfl rfl)) rfl rfl (fun w' b' => (nm0_any _ _ _ _ _ _ _ w').mono fun e W' h => ⟨h.1, b'.trans (h.2.mono b'.size)⟩) ?_
  refine GG.call (fun w' => (R.call rfl rfl rfl)) rfl rfl (fun w' b' => (insame_any _ _ _ _ m _ _ _ _ _ _ _ [] _ _ _ w' (hvF _ (q.trans (b'.mono q.size))) (ReadsT.nil _) hlen (by decide) false hsm).mono fun e W' h => ⟨h.1, b'.trans (h.2.mono b'.size)⟩) ?_
  refine GG.val (fun w' b' => R.not rfl rfl) rfl rfl ?_
  refine GG.val (fun w' b' => R.move rfl rfl) rfl rfl ?_
  refine GG.skip rfl rfl ?_
  refine GG.skip rfl rfl ?_
  refine GG.skip rfl rfl ?_
  refine GG.skip rfl rfl ?_
  refine GG.skip rfl rfl ?_
  refine GG.skip rfl rfl ?_
  refine GG.val (fun w' b' => R.pick rfl rfl rfl) rfl rfl ?_
  refine GG.nil (fun W65 b64 => ?_)
  have zb64 := b64.size; replace b51 := Zu b51 b64; replace b24 := Zu b24 b64; replace b21 := Zu b21 b64; replace r10 := r10.up b64; replace b7 := Zu b7 b64; replace r4 := r4.up b64; replace b1 := Zu b1 b64; replace q := Zu q b64; replace r54 := r54.up b64
  refine LL.callP (R.call rfl rfl rfl) rfl rfl (refuse_T _) ?_
  rintro e W67 ⟨rfl, rfl⟩
  refine ⟨_, rfl, ?_⟩; refine EE.thenP ?_; refine EE.panM ?_
  exact ⟨rfl, q⟩
  have l68 := r10.lt; have l69 := r4.lt
  refine ZR.alloc ([Value.nilFunc, Value.nilFunc, Value.nilFunc, Value.nilFunc]) rfl rfl rfl rfl rfl rfl ?_
  intro W71 g72 eg72 r73 z74 b70
  replace b21 := Zu b21 b70; replace r10 := r10.up b70; replace b7 := Zu b7 b70; replace r4 := r4.up b70; replace b1 := Zu b1 b70; replace q := Zu q b70; replace hok := Zh hok b70; have y75 := hok.size
  refine ⟨hok, ?_⟩
  refine AA.one 0 (by kernel_rfl) ?_
  refine SR.call rfl (R.call rfl rfl rfl) rfl rfl (kinds_any _) ?_
  rintro e W77 ⟨g79, k80, rfl, h78, b76⟩
  have zb76 := b76.size; replace r73 := r73.up b76; replace b70 := Zu b70 b76; replace b21 := Zu b21 b76; replace r10 := r10.up b76; replace b7 := Zu b7 b76; replace r4 := r4.up b76; replace b1 := Zu b1 b76; replace q := Zu q b76; replace hok := Zh hok b76; have y81 := hok.size
  refine ⟨_, rfl, hok, ?_⟩
  refine AA.one 3 (by kernel_rfl) ?_
  (refine SR.val rfl (R.lookKT rfl rfl zKeys (by rfl) (z := kdZ) (by kernel_rfl) (by assumption) (0 : Int) rfl kF_0) rfl rfl hok ?_)
  refine AA.pure 4 rfl hok (by kernel_rfl) (fun w' b' => R.move rfl rfl) rfl rfl ?_
  refine AA.pure 5 rfl hok (by kernel_rfl) (fun w' b' => R.extract rfl rfl rfl) rfl rfl ?_
  refine AA.pure 6 rfl hok (by kernel_rfl) (fun w' b' => R.extract rfl rfl rfl) rfl rfl ?_
  refine AA.one 8 (by kernel_rfl) ?_
  refine ZR.storeN (vs := [fnV kd0.1, fnV kd0.2.1, fnV kd0.2.2.1, fnV kd0.2.2.2]) rfl rfl rfl rfl rfl r73 (by exact Nat.le_of_ble_eq_true rfl) (ones_of rfl) rfl rfl ?_
  intro W83 r84 b82 z85
  have hlb82 := r73.lt
  replace r84 : RowL W83 _ 68 [fnV kd0.1, fnV kd0.2.1, fnV kd0.2.2.1, fnV kd0.2.2.2] := r84
  clear r73
  replace b70 := Zg b70 b82; replace b21 := Zg b21 b82; replace r10 := Zd r10 b82; replace b7 := Zg b7 b82; replace r4 := Zd r4 b82; replace b1 := Zg b1 b82; replace q := Zg q b82; replace hok := Zo hok b82
  have r73 := r84
  clear r84
  refine ⟨hok, ?_⟩
  refine AA.pure 9 rfl hok (by kernel_rfl) (fun w' b' => R.assign rfl rfl) rfl rfl ?_
  refine AA.done rfl ?_
  clear fzr10 fzr4 hok
  refine EE.thenN ?_; refine Zr ?_; refine Zm ?_; refine Zt ?_; refine Zm ?_; refine Zf ?_; refine Zl r4 ?_
  refine LL.call (R.call rfl rfl rfl) rfl rfl rfl (within_T _ _ _ _ (by first | assumption | omega)) ?_
  rintro e W' ⟨rfl, rfl⟩
  refine ⟨_, rfl, ?_⟩; refine Zt ?_; refine Zp ?_
  refine LL.call (R.call rfl rfl rfl) rfl rfl rfl (refuse_F _) ?_
  rintro e W' ⟨rfl, rfl⟩
  refine ⟨_, rfl, ?_⟩; refine Zq ?_; refine Zc ?_
  refine CC.growT 15 (by kernel_rfl) (by kernel_rfl) ?_
  refine GG.val (fun w' b' => R.load rfl rfl (I.ldNc (vs := [Value.int IntKind.i64 0, Value.int IntKind.i64 l, Value.int IntKind.i64 z, Value.slice x n c, Value.int IntKind.i64 r, Value.int IntKind.i64 p, strV t]) (RowL.cells (r4.up b') rfl) (by rfl) (by rfl))) rfl rfl ?_
  refine GG.val (fun w' b' => R.field rfl rfl (I.fld rfl)) rfl rfl ?_
  refine GG.val (fun w' b' => R.load rfl rfl (I.ld1 rfl (RowL.cell (r73.up b') rfl))) rfl rfl ?_
  refine GG.val (fun w' b' => R.load rfl rfl (I.ldNc (vs := [Value.int IntKind.i64 0, Value.int IntKind.i64 l, Value.int IntKind.i64 z, Value.slice x n c, Value.int IntKind.i64 r, Value.int IntKind.i64 p, strV t]) (RowL.cells (r4.up b') rfl) (by rfl) (by rfl))) rfl rfl ?_
  refine GG.call (fun w' => (R.callV rfl rfl rfl rfl)) rfl rfl (fun w' b' => (nm0_any _ _ _ _ _ _ _ w').mono fun e W' h => ⟨h.1, b'.trans (h.2.mono b'.size)⟩) ?_
  refine GG.call (fun w' => (R.call rfl rfl rfl)) rfl rfl (fun w' b' => (insame_any _ _ _ _ m _ _ _ _ _ _ _ [] _ _ _ w' (hvF _ (q.trans (b'.mono q.size))) (ReadsT.nil _) hlen (by decide) false hsm).mono fun e W' h => ⟨h.1, b'.trans (h.2.mono b'.size)⟩) ?_
  refine GG.val (fun w' b' => R.not rfl rfl) rfl rfl ?_
  refine GG.val (fun w' b' => R.move rfl rfl) rfl rfl ?_
  refine GG.skip rfl rfl ?_
  refine GG.skip rfl rfl ?_
  refine GG.skip rfl rfl ?_
  refine GG.skip rfl rfl ?_
  refine GG.skip rfl rfl ?_
  refine GG.skip rfl rfl ?_
  refine GG.val (fun w' b' => R.pick rfl rfl rfl) rfl rfl ?_
  refine GG.nil (fun W90 b89 => ?_)
  have zb89 := b89.size; replace b70 := Zu b70 b89; replace b21 := Zu b21 b89; replace r10 := r10.up b89; replace b7 := Zu b7 b89; replace r4 := r4.up b89; replace b1 := Zu b1 b89; replace q := Zu q b89; replace r73 := r73.up b89
  refine LL.callP (R.call rfl rfl rfl) rfl rfl (refuse_T _) ?_
  rintro e W92 ⟨rfl, rfl⟩
  refine ⟨_, rfl, ?_⟩; refine EE.thenP ?_; refine EE.panM ?_
  exact ⟨rfl, q⟩
theorem check1_L (l z r p : Int) (t : Bs) (x : Option Addr) (n c : Nat) (m : List Ex) (w : World) (hv : ReadsT eE 3 w (.slice x n c) m) (hlen : m.length ≤ 1048576) (hl : l < 0 ∨ 65535 < l) : Calls Tryd.prog 29 #[inV 1 l z (.slice x n c) r p t] w fun e w' => e = .panicked (chain1 refV) ∧ Below w.heap.size w w' := by
  have q := Below.refl w.heap.size w
  have hvF : ∀ X, Below w.heap.size w X → ReadsT eE 3 X (.slice x n c) m := fun X b => hv.up b
  clear hv
  refine X.fnP Tryd.func29 rfl (n := 38) rfl rfl ?_
  refine Zr ?_
  refine LL.box [Value.int IntKind.i64 1, Value.int IntKind.i64 l, Value.int IntKind.i64 z, Value.slice x n c, Value.int IntKind.i64 r, Value.int IntKind.i64 p, strV t] rfl rfl rfl rfl rfl ?_
  intro W2 g3 eg3 r4 z5 b1
  replace q := Zu q b1; have l6 := r4.lt
  refine LL.alloc ([Value.nilFunc, Value.nilFunc, Value.nilFunc, Value.nilFunc]) rfl rfl rfl rfl rfl ?_
  intro W8 g9 eg9 r10 z11 b7
  replace r4 := r4.up b7; replace b1 := Zu b1 b7; replace q := Zu q b7; refine Zq ?_; refine Zc ?_
  refine CC.freeZ (fun W_ j => j < W_.heap.size ∧ (True)) (by kernel_rfl) (by kernel_rfl) (fun W22 b21 z23 => ?_)
  replace r10 := r10.up b21; replace b7 := Zu b7 b21; replace r4 := r4.up b21; replace b1 := Zu b1 b21; replace q := Zu q b21
  have hok : Kept (fun j => j < W22.heap.size ∧ (True)) W22 W22 := Kept.refl _ _
  have fzr10 := fzRow (K := fun j => j < W22.heap.size ∧ (True)) r10 ⟨r10.lt, (by first | trivial | omega)⟩
  have fzr4 := fzRow (K := fun j => j < W22.heap.size ∧ (True)) r4 ⟨r4.lt, (by first | trivial | omega)⟩
  refine AA.pure 1 rfl hok (by kernel_rfl) (fun w' b' => R.field rfl rfl (I.fld rfl)) rfl rfl ?_
  refine AA.pure 2 rfl hok (by kernel_rfl) (fun w' b' => R.load rfl rfl (I.ld1 rfl (RowL.cell (fzr4 w' b') rfl))) rfl rfl ?_
  refine AA.two 0 7 (by kernel_rfl) ?_ ?_
  refine SR.call rfl (R.call rfl rfl rfl) rfl rfl (kinds_any _) ?_
  rintro e W25 ⟨g27, k28, rfl, h26, b24⟩
  have zb24 := b24.size; replace b21 := Zu b21 b24; replace r10 := r10.up b24; replace b7 := Zu b7 b24; replace r4 := r4.up b24; replace b1 := Zu b1 b24; replace q := Zu q b24; replace hok := Zh hok b24; have y29 := hok.size
  refine ⟨_, rfl, hok, ?_⟩
  refine AA.two 3 7 (by kernel_rfl) ?_ ?_
  (refine SR.val rfl (R.lookKT rfl rfl zKeys (by rfl) (z := kdZ) (by kernel_rfl) (by assumption) (1 : Int) rfl kF_1) rfl rfl hok ?_)
  refine AA.pure 4 rfl hok (by kernel_rfl) (fun w' b' => R.move rfl rfl) rfl rfl ?_
  refine AA.pure 5 rfl hok (by kernel_rfl) (fun w' b' => R.extract rfl rfl rfl) rfl rfl ?_
  refine AA.pure 6 rfl hok (by kernel_rfl) (fun w' b' => R.extract rfl rfl rfl) rfl rfl ?_
  refine AA.one 7 (by kernel_rfl) ?_
  have l30 := r10.lt; have l31 := r4.lt
  refine ZR.alloc ([Value.nilFunc, Value.nilFunc, Value.nilFunc, Value.nilFunc]) rfl rfl rfl rfl rfl rfl ?_
  intro W33 g34 eg34 r35 z36 b32
  replace h26 := h26.up b32; replace b24 := Zu b24 b32; replace b21 := Zu b21 b32; replace r10 := r10.up b32; replace b7 := Zu b7 b32; replace r4 := r4.up b32; replace b1 := Zu b1 b32; replace q := Zu q b32; replace hok := Zh hok b32; have y37 := hok.size
  refine ⟨hok, ?_⟩
  refine AA.one 8 (by kernel_rfl) ?_
  refine ZR.storeN (vs := [fnV kd1.1, fnV kd1.2.1, fnV kd1.2.2.1, fnV kd1.2.2.2]) rfl rfl rfl rfl rfl r35 (by exact Nat.le_of_ble_eq_true rfl) (ones_of rfl) rfl rfl ?_
  intro W39 r40 b38 z41
  have hlb38 := r35.lt
  replace r40 : RowL W39 _ 68 [fnV kd1.1, fnV kd1.2.1, fnV kd1.2.2.1, fnV kd1.2.2.2] := r40
  clear r35
  replace b32 := Zg b32 b38; replace b24 := Zg b24 b38; replace b21 := Zg b21 b38; replace r10 := Zd r10 b38; replace b7 := Zg b7 b38; replace r4 := Zd r4 b38; replace b1 := Zg b1 b38; replace q := Zg q b38; replace hok := Zo hok b38
  have r35 := r40
  clear r40
  refine ⟨hok, ?_⟩
  refine AA.pure 9 rfl hok (by kernel_rfl) (fun w' b' => R.assign rfl rfl) rfl rfl ?_
  refine AA.done rfl ?_
  clear fzr10 fzr4 hok
  refine EE.thenN ?_; refine Zr ?_; refine Zm ?_; refine Zt ?_; refine Zm ?_; refine Zf ?_; refine Zl r4 ?_
  refine LL.call (R.call rfl rfl rfl) rfl rfl rfl (within_F _ _ _ _ (by first | assumption | omega)) ?_
  rintro e W' ⟨rfl, rfl⟩
  refine ⟨_, rfl, ?_⟩; refine Zt ?_; refine Zp ?_
  refine LL.callP (R.call rfl rfl rfl) rfl rfl (refuse_T _) ?_
  rintro e W43 ⟨rfl, rfl⟩
  refine ⟨_, rfl, ?_⟩; refine EE.thenP ?_; refine EE.panM ?_
  exact ⟨rfl, q⟩
  have l44 := r10.lt; have l45 := r4.lt
  refine ZR.alloc ([Value.nilFunc, Value.nilFunc, Value.nilFunc, Value.nilFunc]) rfl rfl rfl rfl rfl rfl ?_
  intro W47 g48 eg48 r49 z50 b46
  replace h26 := h26.up b46; replace b24 := Zu b24 b46; replace b21 := Zu b21 b46; replace r10 := r10.up b46; replace b7 := Zu b7 b46; replace r4 := r4.up b46; replace b1 := Zu b1 b46; replace q := Zu q b46; replace hok := Zh hok b46; have y51 := hok.size
  refine ⟨hok, ?_⟩
  refine AA.one 3 (by kernel_rfl) ?_
  (refine SR.val rfl (R.lookKT rfl rfl zKeys (by rfl) (z := kdZ) (by kernel_rfl) (by assumption) (1 : Int) rfl kF_1) rfl rfl hok ?_)
  refine AA.pure 4 rfl hok (by kernel_rfl) (fun w' b' => R.move rfl rfl) rfl rfl ?_
  refine AA.pure 5 rfl hok (by kernel_rfl) (fun w' b' => R.extract rfl rfl rfl) rfl rfl ?_
  refine AA.pure 6 rfl hok (by kernel_rfl) (fun w' b' => R.extract rfl rfl rfl) rfl rfl ?_
  refine AA.one 8 (by kernel_rfl) ?_
  refine ZR.storeN (vs := [fnV kd1.1, fnV kd1.2.1, fnV kd1.2.2.1, fnV kd1.2.2.2]) rfl rfl rfl rfl rfl r49 (by exact Nat.le_of_ble_eq_true rfl) (ones_of rfl) rfl rfl ?_
  intro W53 r54 b52 z55
  have hlb52 := r49.lt
  replace r54 : RowL W53 _ 68 [fnV kd1.1, fnV kd1.2.1, fnV kd1.2.2.1, fnV kd1.2.2.2] := r54
  clear r49
  replace b46 := Zg b46 b52; replace b24 := Zg b24 b52; replace b21 := Zg b21 b52; replace r10 := Zd r10 b52; replace b7 := Zg b7 b52; replace r4 := Zd r4 b52; replace b1 := Zg b1 b52; replace q := Zg q b52; replace hok := Zo hok b52
  have r49 := r54
  clear r54
  refine ⟨hok, ?_⟩
  refine AA.pure 9 rfl hok (by kernel_rfl) (fun w' b' => R.assign rfl rfl) rfl rfl ?_
  refine AA.done rfl ?_
  clear fzr10 fzr4 hok
  refine EE.thenN ?_; refine Zr ?_; refine Zm ?_; refine Zt ?_; refine Zm ?_; refine Zf ?_; refine Zl r4 ?_
  refine LL.call (R.call rfl rfl rfl) rfl rfl rfl (within_F _ _ _ _ (by first | assumption | omega)) ?_
  rintro e W' ⟨rfl, rfl⟩
  refine ⟨_, rfl, ?_⟩; refine Zt ?_; refine Zp ?_
  refine LL.callP (R.call rfl rfl rfl) rfl rfl (refuse_T _) ?_
  rintro e W57 ⟨rfl, rfl⟩
  refine ⟨_, rfl, ?_⟩; refine EE.thenP ?_; refine EE.panM ?_
  exact ⟨rfl, q⟩
  have l58 := r10.lt; have l59 := r4.lt
  refine ZR.alloc ([Value.nilFunc, Value.nilFunc, Value.nilFunc, Value.nilFunc]) rfl rfl rfl rfl rfl rfl ?_
  intro W61 g62 eg62 r63 z64 b60
  replace b21 := Zu b21 b60; replace r10 := r10.up b60; replace b7 := Zu b7 b60; replace r4 := r4.up b60; replace b1 := Zu b1 b60; replace q := Zu q b60; replace hok := Zh hok b60; have y65 := hok.size
  refine ⟨hok, ?_⟩
  refine AA.one 0 (by kernel_rfl) ?_
  refine SR.call rfl (R.call rfl rfl rfl) rfl rfl (kinds_any _) ?_
  rintro e W67 ⟨g69, k70, rfl, h68, b66⟩
  have zb66 := b66.size; replace r63 := r63.up b66; replace b60 := Zu b60 b66; replace b21 := Zu b21 b66; replace r10 := r10.up b66; replace b7 := Zu b7 b66; replace r4 := r4.up b66; replace b1 := Zu b1 b66; replace q := Zu q b66; replace hok := Zh hok b66; have y71 := hok.size
  refine ⟨_, rfl, hok, ?_⟩
  refine AA.one 3 (by kernel_rfl) ?_
  (refine SR.val rfl (R.lookKT rfl rfl zKeys (by rfl) (z := kdZ) (by kernel_rfl) (by assumption) (1 : Int) rfl kF_1) rfl rfl hok ?_)
  refine AA.pure 4 rfl hok (by kernel_rfl) (fun w' b' => R.move rfl rfl) rfl rfl ?_
  refine AA.pure 5 rfl hok (by kernel_rfl) (fun w' b' => R.extract rfl rfl rfl) rfl rfl ?_
  refine AA.pure 6 rfl hok (by kernel_rfl) (fun w' b' => R.extract rfl rfl rfl) rfl rfl ?_
  refine AA.one 8 (by kernel_rfl) ?_
  refine ZR.storeN (vs := [fnV kd1.1, fnV kd1.2.1, fnV kd1.2.2.1, fnV kd1.2.2.2]) rfl rfl rfl rfl rfl r63 (by exact Nat.le_of_ble_eq_true rfl) (ones_of rfl) rfl rfl ?_
  intro W73 r74 b72 z75
  have hlb72 := r63.lt
  replace r74 : RowL W73 _ 68 [fnV kd1.1, fnV kd1.2.1, fnV kd1.2.2.1, fnV kd1.2.2.2] := r74
  clear r63
  replace b60 := Zg b60 b72; replace b21 := Zg b21 b72; replace r10 := Zd r10 b72; replace b7 := Zg b7 b72; replace r4 := Zd r4 b72; replace b1 := Zg b1 b72; replace q := Zg q b72; replace hok := Zo hok b72
  have r63 := r74
  clear r74
  refine ⟨hok, ?_⟩
  refine AA.pure 9 rfl hok (by kernel_rfl) (fun w' b' => R.assign rfl rfl) rfl rfl ?_
  refine AA.done rfl ?_
  clear fzr10 fzr4 hok
  refine EE.thenN ?_; refine Zr ?_; refine Zm ?_; refine Zt ?_; refine Zm ?_; refine Zf ?_; refine Zl r4 ?_
  refine LL.call (R.call rfl rfl rfl) rfl rfl rfl (within_F _ _ _ _ (by first | assumption | omega)) ?_
  rintro e W' ⟨rfl, rfl⟩
  refine ⟨_, rfl, ?_⟩; refine Zt ?_; refine Zp ?_
  refine LL.callP (R.call rfl rfl rfl) rfl rfl (refuse_T _) ?_
  rintro e W77 ⟨rfl, rfl⟩
  refine ⟨_, rfl, ?_⟩; refine EE.thenP ?_; refine EE.panM ?_
  exact ⟨rfl, q⟩
theorem check1_N (l z r p : Int) (t : Bs) (x : Option Addr) (n c : Nat) (m : List Ex) (w : World) (hv : ReadsT eE 3 w (.slice x n c) m) (hlen : m.length ≤ 1048576) (hl : 0 ≤ l ∧ l ≤ 65535) (hn : ¬sameI 1 l z m r p t 1 l z m 0 0 []) : Calls Tryd.prog 29 #[inV 1 l z (.slice x n c) r p t] w fun e w' => e = .panicked (chain1 refV) ∧ Below w.heap.size w w' := by
  have q := Below.refl w.heap.size w
  have hvF : ∀ X, Below w.heap.size w X → ReadsT eE 3 X (.slice x n c) m := fun X b => hv.up b
  clear hv
  have hsm : false = true ↔ sameI 1 l z m r p t 1 l z m 0 0 [] := ⟨fun h => (by cases h), fun h => absurd h hn⟩
  refine X.fnP Tryd.func29 rfl (n := 38) rfl rfl ?_
  refine Zr ?_
  refine LL.box [Value.int IntKind.i64 1, Value.int IntKind.i64 l, Value.int IntKind.i64 z, Value.slice x n c, Value.int IntKind.i64 r, Value.int IntKind.i64 p, strV t] rfl rfl rfl rfl rfl ?_
  intro W2 g3 eg3 r4 z5 b1
  replace q := Zu q b1; have l6 := r4.lt
  refine LL.alloc ([Value.nilFunc, Value.nilFunc, Value.nilFunc, Value.nilFunc]) rfl rfl rfl rfl rfl ?_
  intro W8 g9 eg9 r10 z11 b7
  replace r4 := r4.up b7; replace b1 := Zu b1 b7; replace q := Zu q b7; refine Zq ?_; refine Zc ?_
  refine CC.freeZ (fun W_ j => j < W_.heap.size ∧ (True)) (by kernel_rfl) (by kernel_rfl) (fun W22 b21 z23 => ?_)
  replace r10 := r10.up b21; replace b7 := Zu b7 b21; replace r4 := r4.up b21; replace b1 := Zu b1 b21; replace q := Zu q b21
  have hok : Kept (fun j => j < W22.heap.size ∧ (True)) W22 W22 := Kept.refl _ _
  have fzr10 := fzRow (K := fun j => j < W22.heap.size ∧ (True)) r10 ⟨r10.lt, (by first | trivial | omega)⟩
  have fzr4 := fzRow (K := fun j => j < W22.heap.size ∧ (True)) r4 ⟨r4.lt, (by first | trivial | omega)⟩
  refine AA.pure 1 rfl hok (by kernel_rfl) (fun w' b' => R.field rfl rfl (I.fld rfl)) rfl rfl ?_
  refine AA.pure 2 rfl hok (by kernel_rfl) (fun w' b' => R.load rfl rfl (I.ld1 rfl (RowL.cell (fzr4 w' b') rfl))) rfl rfl ?_
  refine AA.two 0 7 (by kernel_rfl) ?_ ?_
  refine SR.call rfl (R.call rfl rfl rfl) rfl rfl (kinds_any _) ?_
  rintro e W25 ⟨g27, k28, rfl, h26, b24⟩
  have zb24 := b24.size; replace b21 := Zu b21 b24; replace r10 := r10.up b24; replace b7 := Zu b7 b24; replace r4 := r4.up b24; replace b1 := Zu b1 b24; replace q := Zu q b24; replace hok := Zh hok b24; have y29 := hok.size
  refine ⟨_, rfl, hok, ?_⟩
  refine AA.two 3 7 (by kernel_rfl) ?_ ?_
  (refine SR.val rfl (R.lookKT rfl rfl zKeys (by rfl) (z := kdZ) (by kernel_rfl) (by assumption) (1 : Int) rfl kF_1) rfl rfl hok ?_)
  refine AA.pure 4 rfl hok (by kernel_rfl) (fun w' b' => R.move rfl rfl) rfl rfl ?_
  refine AA.pure 5 rfl hok (by kernel_rfl) (fun w' b' => R.extract rfl rfl rfl) rfl rfl ?_
  refine AA.pure 6 rfl hok (by kernel_rfl) (fun w' b' => R.extract rfl rfl rfl) rfl rfl ?_
  refine AA.one 7 (by kernel_rfl) ?_
  have l30 := r10.lt; have l31 := r4.lt
  refine ZR.alloc ([Value.nilFunc, Value.nilFunc, Value.nilFunc, Value.nilFunc]) rfl rfl rfl rfl rfl rfl ?_
  intro W33 g34 eg34 r35 z36 b32
  replace h26 := h26.up b32; replace b24 := Zu b24 b32; replace b21 := Zu b21 b32; replace r10 := r10.up b32; replace b7 := Zu b7 b32; replace r4 := r4.up b32; replace b1 := Zu b1 b32; replace q := Zu q b32; replace hok := Zh hok b32; have y37 := hok.size
  refine ⟨hok, ?_⟩
  refine AA.one 8 (by kernel_rfl) ?_
  refine ZR.storeN (vs := [fnV kd1.1, fnV kd1.2.1, fnV kd1.2.2.1, fnV kd1.2.2.2]) rfl rfl rfl rfl rfl r35 (by exact Nat.le_of_ble_eq_true rfl) (ones_of rfl) rfl rfl ?_
  intro W39 r40 b38 z41
  have hlb38 := r35.lt
  replace r40 : RowL W39 _ 68 [fnV kd1.1, fnV kd1.2.1, fnV kd1.2.2.1, fnV kd1.2.2.2] := r40
  clear r35
  replace b32 := Zg b32 b38; replace b24 := Zg b24 b38; replace b21 := Zg b21 b38; replace r10 := Zd r10 b38; replace b7 := Zg b7 b38; replace r4 := Zd r4 b38; replace b1 := Zg b1 b38; replace q := Zg q b38; replace hok := Zo hok b38
  have r35 := r40
  clear r40
  refine ⟨hok, ?_⟩
  refine AA.pure 9 rfl hok (by kernel_rfl) (fun w' b' => R.assign rfl rfl) rfl rfl ?_
  refine AA.done rfl ?_
  clear fzr10 fzr4 hok
  refine EE.thenN ?_; refine Zr ?_; refine Zm ?_; refine Zt ?_; refine Zm ?_; refine Zf ?_; refine Zl r4 ?_
  refine LL.call (R.call rfl rfl rfl) rfl rfl rfl (within_T _ _ _ _ (by first | assumption | omega)) ?_
  rintro e W' ⟨rfl, rfl⟩
  refine ⟨_, rfl, ?_⟩; refine Zt ?_; refine Zp ?_
  refine LL.call (R.call rfl rfl rfl) rfl rfl rfl (refuse_F _) ?_
  rintro e W' ⟨rfl, rfl⟩
  refine ⟨_, rfl, ?_⟩; refine Zq ?_; refine Zc ?_
  refine CC.growT 15 (by kernel_rfl) (by kernel_rfl) ?_
  refine GG.val (fun w' b' => R.load rfl rfl (I.ldNc (vs := [Value.int IntKind.i64 1, Value.int IntKind.i64 l, Value.int IntKind.i64 z, Value.slice x n c, Value.int IntKind.i64 r, Value.int IntKind.i64 p, strV t]) (RowL.cells (r4.up b') rfl) (by rfl) (by rfl))) rfl rfl ?_
  refine GG.val (fun w' b' => R.field rfl rfl (I.fld rfl)) rfl rfl ?_
  refine GG.val (fun w' b' => R.load rfl rfl (I.ld1 rfl (RowL.cell (r35.up b') rfl))) rfl rfl ?_
  refine GG.val (fun w' b' => R.load rfl rfl (I.ldNc (vs := [Value.int IntKind.i64 1, Value.int IntKind.i64 l, Value.int IntKind.i64 z, Value.slice x n c, Value.int IntKind.i64 r, Value.int IntKind.i64 p, strV t]) (RowL.cells (r4.up b') rfl) (by rfl) (by rfl))) rfl rfl ?_
  refine GG.call (fun w' => (R.callV rfl rfl rfl rfl)) rfl rfl (fun w' b' => (nm1_any _ _ _ _ _ _ _ w' ⟨_, _, _, rfl⟩).mono fun e W' h => ⟨h.1, b'.trans (h.2.mono b'.size)⟩) ?_
  refine GG.call (fun w' => (R.call rfl rfl rfl)) rfl rfl (fun w' b' => (insame_any _ _ _ _ m _ _ _ _ _ _ _ m _ _ _ w' (hvF _ (q.trans (b'.mono q.size))) (hvF _ (q.trans (b'.mono q.size))) hlen hlen false hsm).mono fun e W' h => ⟨h.1, b'.trans (h.2.mono b'.size)⟩) ?_
  refine GG.val (fun w' b' => R.not rfl rfl) rfl rfl ?_
  refine GG.val (fun w' b' => R.move rfl rfl) rfl rfl ?_
  refine GG.skip rfl rfl ?_
  refine GG.skip rfl rfl ?_
  refine GG.skip rfl rfl ?_
  refine GG.skip rfl rfl ?_
  refine GG.skip rfl rfl ?_
  refine GG.skip rfl rfl ?_
  refine GG.val (fun w' b' => R.pick rfl rfl rfl) rfl rfl ?_
  refine GG.nil (fun W46 b45 => ?_)
  have zb45 := b45.size; replace b32 := Zu b32 b45; replace b24 := Zu b24 b45; replace b21 := Zu b21 b45; replace r10 := r10.up b45; replace b7 := Zu b7 b45; replace r4 := r4.up b45; replace b1 := Zu b1 b45; replace q := Zu q b45; replace r35 := r35.up b45
  refine LL.callP (R.call rfl rfl rfl) rfl rfl (refuse_T _) ?_
  rintro e W48 ⟨rfl, rfl⟩
  refine ⟨_, rfl, ?_⟩; refine EE.thenP ?_; refine EE.panM ?_
  exact ⟨rfl, q⟩
  have l49 := r10.lt; have l50 := r4.lt
  refine ZR.alloc ([Value.nilFunc, Value.nilFunc, Value.nilFunc, Value.nilFunc]) rfl rfl rfl rfl rfl rfl ?_
  intro W52 g53 eg53 r54 z55 b51
  replace h26 := h26.up b51; replace b24 := Zu b24 b51; replace b21 := Zu b21 b51; replace r10 := r10.up b51; replace b7 := Zu b7 b51; replace r4 := r4.up b51; replace b1 := Zu b1 b51; replace q := Zu q b51; replace hok := Zh hok b51; have y56 := hok.size
  refine ⟨hok, ?_⟩
  refine AA.one 3 (by kernel_rfl) ?_
  (refine SR.val rfl (R.lookKT rfl rfl zKeys (by rfl) (z := kdZ) (by kernel_rfl) (by assumption) (1 : Int) rfl kF_1) rfl rfl hok ?_)
  refine AA.pure 4 rfl hok (by kernel_rfl) (fun w' b' => R.move rfl rfl) rfl rfl ?_
  refine AA.pure 5 rfl hok (by kernel_rfl) (fun w' b' => R.extract rfl rfl rfl) rfl rfl ?_
  refine AA.pure 6 rfl hok (by kernel_rfl) (fun w' b' => R.extract rfl rfl rfl) rfl rfl ?_
  refine AA.one 8 (by kernel_rfl) ?_
  refine ZR.storeN (vs := [fnV kd1.1, fnV kd1.2.1, fnV kd1.2.2.1, fnV kd1.2.2.2]) rfl rfl rfl rfl rfl r54 (by exact Nat.le_of_ble_eq_true rfl) (ones_of rfl) rfl rfl ?_
  intro W58 r59 b57 z60
  have hlb57 := r54.lt
  replace r59 : RowL W58 _ 68 [fnV kd1.1, fnV kd1.2.1, fnV kd1.2.2.1, fnV kd1.2.2.2] := r59
  clear r54
  replace b51 := Zg b51 b57; replace b24 := Zg b24 b57; replace b21 := Zg b21 b57; replace r10 := Zd r10 b57; replace b7 := Zg b7 b57; replace r4 := Zd r4 b57; replace b1 := Zg b1 b57; replace q := Zg q b57; replace hok := Zo hok b57
  have r54 := r59
  clear r59
  refine ⟨hok, ?_⟩
  refine AA.pure 9 rfl hok (by kernel_rfl) (fun w' b' => R.assign rfl rfl) rfl rfl ?_
  refine AA.done rfl ?_
  clear fzr10 fzr4 hok
  refine EE.thenN ?_; refine Zr ?_; refine Zm ?_; refine Zt ?_; refine Zm ?_; refine Zf ?_; refine Zl r4 ?_
  refine LL.call (R.call rfl rfl rfl) rfl rfl rfl (within_T _ _ _ _ (by first | assumption | omega)) ?_
  rintro e W' ⟨rfl, rfl⟩
  refine ⟨_, rfl, ?_⟩; refine Zt ?_; refine Zp ?_
  refine LL.call (R.call rfl rfl rfl) rfl rfl rfl (refuse_F _) ?_
  rintro e W' ⟨rfl, rfl⟩
  refine ⟨_, rfl, ?_⟩; refine Zq ?_; refine Zc ?_
  refine CC.growT 15 (by kernel_rfl) (by kernel_rfl) ?_
  refine GG.val (fun w' b' => R.load rfl rfl (I.ldNc (vs := [Value.int IntKind.i64 1, Value.int IntKind.i64 l, Value.int IntKind.i64 z, Value.slice x n c, Value.int IntKind.i64 r, Value.int IntKind.i64 p, strV t]) (RowL.cells (r4.up b') rfl) (by rfl) (by rfl))) rfl rfl ?_
  refine GG.val (fun w' b' => R.field rfl rfl (I.fld rfl)) rfl rfl ?_
  refine GG.val (fun w' b' => R.load rfl rfl (I.ld1 rfl (RowL.cell (r54.up b') rfl))) rfl rfl ?_
  refine GG.val (fun w' b' => R.load rfl rfl (I.ldNc (vs := [Value.int IntKind.i64 1, Value.int IntKind.i64 l, Value.int IntKind.i64 z, Value.slice x n c, Value.int IntKind.i64 r, Value.int IntKind.i64 p, strV t]) (RowL.cells (r4.up b') rfl) (by rfl) (by rfl))) rfl rfl ?_
  refine GG.call (fun w' => (R.callV rfl rfl rfl rfl)) rfl rfl (fun w' b' => (nm1_any _ _ _ _ _ _ _ w' ⟨_, _, _, rfl⟩).mono fun e W' h => ⟨h.1, b'.trans (h.2.mono b'.size)⟩) ?_
  refine GG.call (fun w' => (R.call rfl rfl rfl)) rfl rfl (fun w' b' => (insame_any _ _ _ _ m _ _ _ _ _ _ _ m _ _ _ w' (hvF _ (q.trans (b'.mono q.size))) (hvF _ (q.trans (b'.mono q.size))) hlen hlen false hsm).mono fun e W' h => ⟨h.1, b'.trans (h.2.mono b'.size)⟩) ?_
  refine GG.val (fun w' b' => R.not rfl rfl) rfl rfl ?_
  refine GG.val (fun w' b' => R.move rfl rfl) rfl rfl ?_
  refine GG.skip rfl rfl ?_
  refine GG.skip rfl rfl ?_
  refine GG.skip rfl rfl ?_
  refine GG.skip rfl rfl ?_
  refine GG.skip rfl rfl ?_
  refine GG.skip rfl rfl ?_
  refine GG.val (fun w' b' => R.pick rfl rfl rfl) rfl rfl ?_
  refine GG.nil (fun W65 b64 => ?_)
  have zb64 := b64.size; replace b51 := Zu b51 b64; replace b24 := Zu b24 b64; replace b21 := Zu b21 b64; replace r10 := r10.up b64; replace b7 := Zu b7 b64; replace r4 := r4.up b64; replace b1 := Zu b1 b64; replace q := Zu q b64; replace r54 := r54.up b64
  refine LL.callP (R.call rfl rfl rfl) rfl rfl (refuse_T _) ?_
  rintro e W67 ⟨rfl, rfl⟩
  refine ⟨_, rfl, ?_⟩; refine EE.thenP ?_; refine EE.panM ?_
  exact ⟨rfl, q⟩
  have l68 := r10.lt; have l69 := r4.lt
  refine ZR.alloc ([Value.nilFunc, Value.nilFunc, Value.nilFunc, Value.nilFunc]) rfl rfl rfl rfl rfl rfl ?_
  intro W71 g72 eg72 r73 z74 b70
  replace b21 := Zu b21 b70; replace r10 := r10.up b70; replace b7 := Zu b7 b70; replace r4 := r4.up b70; replace b1 := Zu b1 b70; replace q := Zu q b70; replace hok := Zh hok b70; have y75 := hok.size
  refine ⟨hok, ?_⟩
  refine AA.one 0 (by kernel_rfl) ?_
  refine SR.call rfl (R.call rfl rfl rfl) rfl rfl (kinds_any _) ?_
  rintro e W77 ⟨g79, k80, rfl, h78, b76⟩
  have zb76 := b76.size; replace r73 := r73.up b76; replace b70 := Zu b70 b76; replace b21 := Zu b21 b76; replace r10 := r10.up b76; replace b7 := Zu b7 b76; replace r4 := r4.up b76; replace b1 := Zu b1 b76; replace q := Zu q b76; replace hok := Zh hok b76; have y81 := hok.size
  refine ⟨_, rfl, hok, ?_⟩
  refine AA.one 3 (by kernel_rfl) ?_
  (refine SR.val rfl (R.lookKT rfl rfl zKeys (by rfl) (z := kdZ) (by kernel_rfl) (by assumption) (1 : Int) rfl kF_1) rfl rfl hok ?_)
  refine AA.pure 4 rfl hok (by kernel_rfl) (fun w' b' => R.move rfl rfl) rfl rfl ?_
  refine AA.pure 5 rfl hok (by kernel_rfl) (fun w' b' => R.extract rfl rfl rfl) rfl rfl ?_
  refine AA.pure 6 rfl hok (by kernel_rfl) (fun w' b' => R.extract rfl rfl rfl) rfl rfl ?_
  refine AA.one 8 (by kernel_rfl) ?_
  refine ZR.storeN (vs := [fnV kd1.1, fnV kd1.2.1, fnV kd1.2.2.1, fnV kd1.2.2.2]) rfl rfl rfl rfl rfl r73 (by exact Nat.le_of_ble_eq_true rfl) (ones_of rfl) rfl rfl ?_
  intro W83 r84 b82 z85
  have hlb82 := r73.lt
  replace r84 : RowL W83 _ 68 [fnV kd1.1, fnV kd1.2.1, fnV kd1.2.2.1, fnV kd1.2.2.2] := r84
  clear r73
  replace b70 := Zg b70 b82; replace b21 := Zg b21 b82; replace r10 := Zd r10 b82; replace b7 := Zg b7 b82; replace r4 := Zd r4 b82; replace b1 := Zg b1 b82; replace q := Zg q b82; replace hok := Zo hok b82
  have r73 := r84
  clear r84
  refine ⟨hok, ?_⟩
  refine AA.pure 9 rfl hok (by kernel_rfl) (fun w' b' => R.assign rfl rfl) rfl rfl ?_
  refine AA.done rfl ?_
  clear fzr10 fzr4 hok
  refine EE.thenN ?_; refine Zr ?_; refine Zm ?_; refine Zt ?_; refine Zm ?_; refine Zf ?_; refine Zl r4 ?_
  refine LL.call (R.call rfl rfl rfl) rfl rfl rfl (within_T _ _ _ _ (by first | assumption | omega)) ?_
  rintro e W' ⟨rfl, rfl⟩
  refine ⟨_, rfl, ?_⟩; refine Zt ?_; refine Zp ?_
  refine LL.call (R.call rfl rfl rfl) rfl rfl rfl (refuse_F _) ?_
  rintro e W' ⟨rfl, rfl⟩
  refine ⟨_, rfl, ?_⟩; refine Zq ?_; refine Zc ?_
  refine CC.growT 15 (by kernel_rfl) (by kernel_rfl) ?_
  refine GG.val (fun w' b' => R.load rfl rfl (I.ldNc (vs := [Value.int IntKind.i64 1, Value.int IntKind.i64 l, Value.int IntKind.i64 z, Value.slice x n c, Value.int IntKind.i64 r, Value.int IntKind.i64 p, strV t]) (RowL.cells (r4.up b') rfl) (by rfl) (by rfl))) rfl rfl ?_
  refine GG.val (fun w' b' => R.field rfl rfl (I.fld rfl)) rfl rfl ?_
  refine GG.val (fun w' b' => R.load rfl rfl (I.ld1 rfl (RowL.cell (r73.up b') rfl))) rfl rfl ?_
  refine GG.val (fun w' b' => R.load rfl rfl (I.ldNc (vs := [Value.int IntKind.i64 1, Value.int IntKind.i64 l, Value.int IntKind.i64 z, Value.slice x n c, Value.int IntKind.i64 r, Value.int IntKind.i64 p, strV t]) (RowL.cells (r4.up b') rfl) (by rfl) (by rfl))) rfl rfl ?_
  refine GG.call (fun w' => (R.callV rfl rfl rfl rfl)) rfl rfl (fun w' b' => (nm1_any _ _ _ _ _ _ _ w' ⟨_, _, _, rfl⟩).mono fun e W' h => ⟨h.1, b'.trans (h.2.mono b'.size)⟩) ?_
  refine GG.call (fun w' => (R.call rfl rfl rfl)) rfl rfl (fun w' b' => (insame_any _ _ _ _ m _ _ _ _ _ _ _ m _ _ _ w' (hvF _ (q.trans (b'.mono q.size))) (hvF _ (q.trans (b'.mono q.size))) hlen hlen false hsm).mono fun e W' h => ⟨h.1, b'.trans (h.2.mono b'.size)⟩) ?_
  refine GG.val (fun w' b' => R.not rfl rfl) rfl rfl ?_
  refine GG.val (fun w' b' => R.move rfl rfl) rfl rfl ?_
  refine GG.skip rfl rfl ?_
  refine GG.skip rfl rfl ?_
  refine GG.skip rfl rfl ?_
  refine GG.skip rfl rfl ?_
  refine GG.skip rfl rfl ?_
  refine GG.skip rfl rfl ?_
  refine GG.val (fun w' b' => R.pick rfl rfl rfl) rfl rfl ?_
  refine GG.nil (fun W90 b89 => ?_)
  have zb89 := b89.size; replace b70 := Zu b70 b89; replace b21 := Zu b21 b89; replace r10 := r10.up b89; replace b7 := Zu b7 b89; replace r4 := r4.up b89; replace b1 := Zu b1 b89; replace q := Zu q b89; replace r73 := r73.up b89
  refine LL.callP (R.call rfl rfl rfl) rfl rfl (refuse_T _) ?_
  rintro e W92 ⟨rfl, rfl⟩
  refine ⟨_, rfl, ?_⟩; refine EE.thenP ?_; refine EE.panM ?_
  exact ⟨rfl, q⟩
theorem check2_L (l z r p : Int) (t : Bs) (x : Option Addr) (n c : Nat) (m : List Ex) (w : World) (hv : ReadsT eE 3 w (.slice x n c) m) (hlen : m.length ≤ 1048576) (hl : l < 0 ∨ 65535 < l) : Calls Tryd.prog 29 #[inV 2 l z (.slice x n c) r p t] w fun e w' => e = .panicked (chain1 refV) ∧ Below w.heap.size w w' := by
  have q := Below.refl w.heap.size w
  have hvF : ∀ X, Below w.heap.size w X → ReadsT eE 3 X (.slice x n c) m := fun X b => hv.up b
  clear hv
  refine X.fnP Tryd.func29 rfl (n := 38) rfl rfl ?_
  refine Zr ?_
  refine LL.box [Value.int IntKind.i64 2, Value.int IntKind.i64 l, Value.int IntKind.i64 z, Value.slice x n c, Value.int IntKind.i64 r, Value.int IntKind.i64 p, strV t] rfl rfl rfl rfl rfl ?_
  intro W2 g3 eg3 r4 z5 b1
  replace q := Zu q b1; have l6 := r4.lt
  refine LL.alloc ([Value.nilFunc, Value.nilFunc, Value.nilFunc, Value.nilFunc]) rfl rfl rfl rfl rfl ?_
  intro W8 g9 eg9 r10 z11 b7
  replace r4 := r4.up b7; replace b1 := Zu b1 b7; replace q := Zu q b7; refine Zq ?_; refine Zc ?_
  refine CC.freeZ (fun W_ j => j < W_.heap.size ∧ (True)) (by kernel_rfl) (by kernel_rfl) (fun W22 b21 z23 => ?_)
  replace r10 := r10.up b21; replace b7 := Zu b7 b21; replace r4 := r4.up b21; replace b1 := Zu b1 b21; replace q := Zu q b21
  have hok : Kept (fun j => j < W22.heap.size ∧ (True)) W22 W22 := Kept.refl _ _
  have fzr10 := fzRow (K := fun j => j < W22.heap.size ∧ (True)) r10 ⟨r10.lt, (by first | trivial | omega)⟩
  have fzr4 := fzRow (K := fun j => j < W22.heap.size ∧ (True)) r4 ⟨r4.lt, (by first | trivial | omega)⟩
  refine AA.pure 1 rfl hok (by kernel_rfl) (fun w' b' => R.field rfl rfl (I.fld rfl)) rfl rfl ?_
  refine AA.pure 2 rfl hok (by kernel_rfl) (fun w' b' => R.load rfl rfl (I.ld1 rfl (RowL.cell (fzr4 w' b') rfl))) rfl rfl ?_
  refine AA.two 0 7 (by kernel_rfl) ?_ ?_
  refine SR.call rfl (R.call rfl rfl rfl) rfl rfl (kinds_any _) ?_
  rintro e W25 ⟨g27, k28, rfl, h26, b24⟩
  have zb24 := b24.size; replace b21 := Zu b21 b24; replace r10 := r10.up b24; replace b7 := Zu b7 b24; replace r4 := r4.up b24; replace b1 := Zu b1 b24; replace q := Zu q b24; replace hok := Zh hok b24; have y29 := hok.size
  refine ⟨_, rfl, hok, ?_⟩
  refine AA.two 3 7 (by kernel_rfl) ?_ ?_
  (refine SR.val rfl (R.lookKT rfl rfl zKeys (by rfl) (z := kdZ) (by kernel_rfl) (by assumption) (2 : Int) rfl kF_2) rfl rfl hok ?_)
  refine AA.pure 4 rfl hok (by kernel_rfl) (fun w' b' => R.move rfl rfl) rfl rfl ?_
  refine AA.pure 5 rfl hok (by kernel_rfl) (fun w' b' => R.extract rfl rfl rfl) rfl rfl ?_
  refine AA.pure 6 rfl hok (by kernel_rfl) (fun w' b' => R.extract rfl rfl rfl) rfl rfl ?_
  refine AA.one 7 (by kernel_rfl) ?_
  have l30 := r10.lt; have l31 := r4.lt
  refine ZR.alloc ([Value.nilFunc, Value.nilFunc, Value.nilFunc, Value.nilFunc]) rfl rfl rfl rfl rfl rfl ?_
  intro W33 g34 eg34 r35 z36 b32
  replace h26 := h26.up b32; replace b24 := Zu b24 b32; replace b21 := Zu b21 b32; replace r10 := r10.up b32; replace b7 := Zu b7 b32; replace r4 := r4.up b32; replace b1 := Zu b1 b32; replace q := Zu q b32; replace hok := Zh hok b32; have y37 := hok.size
  refine ⟨hok, ?_⟩
  refine AA.one 8 (by kernel_rfl) ?_
  refine ZR.storeN (vs := [fnV kd2.1, fnV kd2.2.1, fnV kd2.2.2.1, fnV kd2.2.2.2]) rfl rfl rfl rfl rfl r35 (by exact Nat.le_of_ble_eq_true rfl) (ones_of rfl) rfl rfl ?_
  intro W39 r40 b38 z41
  have hlb38 := r35.lt
  replace r40 : RowL W39 _ 68 [fnV kd2.1, fnV kd2.2.1, fnV kd2.2.2.1, fnV kd2.2.2.2] := r40
  clear r35
  replace b32 := Zg b32 b38; replace b24 := Zg b24 b38; replace b21 := Zg b21 b38; replace r10 := Zd r10 b38; replace b7 := Zg b7 b38; replace r4 := Zd r4 b38; replace b1 := Zg b1 b38; replace q := Zg q b38; replace hok := Zo hok b38
  have r35 := r40
  clear r40
  refine ⟨hok, ?_⟩
  refine AA.pure 9 rfl hok (by kernel_rfl) (fun w' b' => R.assign rfl rfl) rfl rfl ?_
  refine AA.done rfl ?_
  clear fzr10 fzr4 hok
  refine EE.thenN ?_; refine Zr ?_; refine Zm ?_; refine Zt ?_; refine Zm ?_; refine Zf ?_; refine Zl r4 ?_
  refine LL.call (R.call rfl rfl rfl) rfl rfl rfl (within_F _ _ _ _ (by first | assumption | omega)) ?_
  rintro e W' ⟨rfl, rfl⟩
  refine ⟨_, rfl, ?_⟩; refine Zt ?_; refine Zp ?_
  refine LL.callP (R.call rfl rfl rfl) rfl rfl (refuse_T _) ?_
  rintro e W43 ⟨rfl, rfl⟩
  refine ⟨_, rfl, ?_⟩; refine EE.thenP ?_; refine EE.panM ?_
  exact ⟨rfl, q⟩
  have l44 := r10.lt; have l45 := r4.lt
  refine ZR.alloc ([Value.nilFunc, Value.nilFunc, Value.nilFunc, Value.nilFunc]) rfl rfl rfl rfl rfl rfl ?_
  intro W47 g48 eg48 r49 z50 b46
  replace h26 := h26.up b46; replace b24 := Zu b24 b46; replace b21 := Zu b21 b46; replace r10 := r10.up b46; replace b7 := Zu b7 b46; replace r4 := r4.up b46; replace b1 := Zu b1 b46; replace q := Zu q b46; replace hok := Zh hok b46; have y51 := hok.size
  refine ⟨hok, ?_⟩
  refine AA.one 3 (by kernel_rfl) ?_
  (refine SR.val rfl (R.lookKT rfl rfl zKeys (by rfl) (z := kdZ) (by kernel_rfl) (by assumption) (2 : Int) rfl kF_2) rfl rfl hok ?_)
  refine AA.pure 4 rfl hok (by kernel_rfl) (fun w' b' => R.move rfl rfl) rfl rfl ?_
  refine AA.pure 5 rfl hok (by kernel_rfl) (fun w' b' => R.extract rfl rfl rfl) rfl rfl ?_
  refine AA.pure 6 rfl hok (by kernel_rfl) (fun w' b' => R.extract rfl rfl rfl) rfl rfl ?_
  refine AA.one 8 (by kernel_rfl) ?_
  refine ZR.storeN (vs := [fnV kd2.1, fnV kd2.2.1, fnV kd2.2.2.1, fnV kd2.2.2.2]) rfl rfl rfl rfl rfl r49 (by exact Nat.le_of_ble_eq_true rfl) (ones_of rfl) rfl rfl ?_
  intro W53 r54 b52 z55
  have hlb52 := r49.lt
  replace r54 : RowL W53 _ 68 [fnV kd2.1, fnV kd2.2.1, fnV kd2.2.2.1, fnV kd2.2.2.2] := r54
  clear r49
  replace b46 := Zg b46 b52; replace b24 := Zg b24 b52; replace b21 := Zg b21 b52; replace r10 := Zd r10 b52; replace b7 := Zg b7 b52; replace r4 := Zd r4 b52; replace b1 := Zg b1 b52; replace q := Zg q b52; replace hok := Zo hok b52
  have r49 := r54
  clear r54
  refine ⟨hok, ?_⟩
  refine AA.pure 9 rfl hok (by kernel_rfl) (fun w' b' => R.assign rfl rfl) rfl rfl ?_
  refine AA.done rfl ?_
  clear fzr10 fzr4 hok
  refine EE.thenN ?_; refine Zr ?_; refine Zm ?_; refine Zt ?_; refine Zm ?_; refine Zf ?_; refine Zl r4 ?_
  refine LL.call (R.call rfl rfl rfl) rfl rfl rfl (within_F _ _ _ _ (by first | assumption | omega)) ?_
  rintro e W' ⟨rfl, rfl⟩
  refine ⟨_, rfl, ?_⟩; refine Zt ?_; refine Zp ?_
  refine LL.callP (R.call rfl rfl rfl) rfl rfl (refuse_T _) ?_
  rintro e W57 ⟨rfl, rfl⟩
  refine ⟨_, rfl, ?_⟩; refine EE.thenP ?_; refine EE.panM ?_
  exact ⟨rfl, q⟩
  have l58 := r10.lt; have l59 := r4.lt
  refine ZR.alloc ([Value.nilFunc, Value.nilFunc, Value.nilFunc, Value.nilFunc]) rfl rfl rfl rfl rfl rfl ?_
  intro W61 g62 eg62 r63 z64 b60
  replace b21 := Zu b21 b60; replace r10 := r10.up b60; replace b7 := Zu b7 b60; replace r4 := r4.up b60; replace b1 := Zu b1 b60; replace q := Zu q b60; replace hok := Zh hok b60; have y65 := hok.size
  refine ⟨hok, ?_⟩
  refine AA.one 0 (by kernel_rfl) ?_
  refine SR.call rfl (R.call rfl rfl rfl) rfl rfl (kinds_any _) ?_
  rintro e W67 ⟨g69, k70, rfl, h68, b66⟩
  have zb66 := b66.size; replace r63 := r63.up b66; replace b60 := Zu b60 b66; replace b21 := Zu b21 b66; replace r10 := r10.up b66; replace b7 := Zu b7 b66; replace r4 := r4.up b66; replace b1 := Zu b1 b66; replace q := Zu q b66; replace hok := Zh hok b66; have y71 := hok.size
  refine ⟨_, rfl, hok, ?_⟩
  refine AA.one 3 (by kernel_rfl) ?_
  (refine SR.val rfl (R.lookKT rfl rfl zKeys (by rfl) (z := kdZ) (by kernel_rfl) (by assumption) (2 : Int) rfl kF_2) rfl rfl hok ?_)
  refine AA.pure 4 rfl hok (by kernel_rfl) (fun w' b' => R.move rfl rfl) rfl rfl ?_
  refine AA.pure 5 rfl hok (by kernel_rfl) (fun w' b' => R.extract rfl rfl rfl) rfl rfl ?_
  refine AA.pure 6 rfl hok (by kernel_rfl) (fun w' b' => R.extract rfl rfl rfl) rfl rfl ?_
  refine AA.one 8 (by kernel_rfl) ?_
  refine ZR.storeN (vs := [fnV kd2.1, fnV kd2.2.1, fnV kd2.2.2.1, fnV kd2.2.2.2]) rfl rfl rfl rfl rfl r63 (by exact Nat.le_of_ble_eq_true rfl) (ones_of rfl) rfl rfl ?_
  intro W73 r74 b72 z75
  have hlb72 := r63.lt
  replace r74 : RowL W73 _ 68 [fnV kd2.1, fnV kd2.2.1, fnV kd2.2.2.1, fnV kd2.2.2.2] := r74
  clear r63
  replace b60 := Zg b60 b72; replace b21 := Zg b21 b72; replace r10 := Zd r10 b72; replace b7 := Zg b7 b72; replace r4 := Zd r4 b72; replace b1 := Zg b1 b72; replace q := Zg q b72; replace hok := Zo hok b72
  have r63 := r74
  clear r74
  refine ⟨hok, ?_⟩
  refine AA.pure 9 rfl hok (by kernel_rfl) (fun w' b' => R.assign rfl rfl) rfl rfl ?_
  refine AA.done rfl ?_
  clear fzr10 fzr4 hok
  refine EE.thenN ?_; refine Zr ?_; refine Zm ?_; refine Zt ?_; refine Zm ?_; refine Zf ?_; refine Zl r4 ?_
  refine LL.call (R.call rfl rfl rfl) rfl rfl rfl (within_F _ _ _ _ (by first | assumption | omega)) ?_
  rintro e W' ⟨rfl, rfl⟩
  refine ⟨_, rfl, ?_⟩; refine Zt ?_; refine Zp ?_
  refine LL.callP (R.call rfl rfl rfl) rfl rfl (refuse_T _) ?_
  rintro e W77 ⟨rfl, rfl⟩
  refine ⟨_, rfl, ?_⟩; refine EE.thenP ?_; refine EE.panM ?_
  exact ⟨rfl, q⟩
theorem check2_N (l z r p : Int) (t : Bs) (x : Option Addr) (n c : Nat) (m : List Ex) (w : World) (hv : ReadsT eE 3 w (.slice x n c) m) (hlen : m.length ≤ 1048576) (hl : 0 ≤ l ∧ l ≤ 65535) (hn : ¬sameI 2 l z m r p t 2 l 0 [] r p []) : Calls Tryd.prog 29 #[inV 2 l z (.slice x n c) r p t] w fun e w' => e = .panicked (chain1 refV) ∧ Below w.heap.size w w' := by
  have q := Below.refl w.heap.size w
  have hvF : ∀ X, Below w.heap.size w X → ReadsT eE 3 X (.slice x n c) m := fun X b => hv.up b
  clear hv
  have hsm : false = true ↔ sameI 2 l z m r p t 2 l 0 [] r p [] := ⟨fun h => (by cases h), fun h => absurd h hn⟩
  refine X.fnP Tryd.func29 rfl (n := 38) rfl rfl ?_
  refine Zr ?_
  refine LL.box [Value.int IntKind.i64 2, Value.int IntKind.i64 l, Value.int IntKind.i64 z, Value.slice x n c, Value.int IntKind.i64 r, Value.int IntKind.i64 p, strV t] rfl rfl rfl rfl rfl ?_
  intro W2 g3 eg3 r4 z5 b1
  replace q := Zu q b1; have l6 := r4.lt
  refine LL.alloc ([Value.nilFunc, Value.nilFunc, Value.nilFunc, Value.nilFunc]) rfl rfl rfl rfl rfl ?_
  intro W8 g9 eg9 r10 z11 b7
  replace r4 := r4.up b7; replace b1 := Zu b1 b7; replace q := Zu q b7; refine Zq ?_; refine Zc ?_
  refine CC.freeZ (fun W_ j => j < W_.heap.size ∧ (True)) (by kernel_rfl) (by kernel_rfl) (fun W22 b21 z23 => ?_)
  replace r10 := r10.up b21; replace b7 := Zu b7 b21; replace r4 := r4.up b21; replace b1 := Zu b1 b21; replace q := Zu q b21
  have hok : Kept (fun j => j < W22.heap.size ∧ (True)) W22 W22 := Kept.refl _ _
  have fzr10 := fzRow (K := fun j => j < W22.heap.size ∧ (True)) r10 ⟨r10.lt, (by first | trivial | omega)⟩
  have fzr4 := fzRow (K := fun j => j < W22.heap.size ∧ (True)) r4 ⟨r4.lt, (by first | trivial | omega)⟩
  refine AA.pure 1 rfl hok (by kernel_rfl) (fun w' b' => R.field rfl rfl (I.fld rfl)) rfl rfl ?_
  refine AA.pure 2 rfl hok (by kernel_rfl) (fun w' b' => R.load rfl rfl (I.ld1 rfl (RowL.cell (fzr4 w' b') rfl))) rfl rfl ?_
  refine AA.two 0 7 (by kernel_rfl) ?_ ?_
  refine SR.call rfl (R.call rfl rfl rfl) rfl rfl (kinds_any _) ?_
  rintro e W25 ⟨g27, k28, rfl, h26, b24⟩
  have zb24 := b24.size; replace b21 := Zu b21 b24; replace r10 := r10.up b24; replace b7 := Zu b7 b24; replace r4 := r4.up b24; replace b1 := Zu b1 b24; replace q := Zu q b24; replace hok := Zh hok b24; have y29 := hok.size
  refine ⟨_, rfl, hok, ?_⟩
  refine AA.two 3 7 (by kernel_rfl) ?_ ?_
  (refine SR.val rfl (R.lookKT rfl rfl zKeys (by rfl) (z := kdZ) (by kernel_rfl) (by assumption) (2 : Int) rfl kF_2) rfl rfl hok ?_)
  refine AA.pure 4 rfl hok (by kernel_rfl) (fun w' b' => R.move rfl rfl) rfl rfl ?_
  refine AA.pure 5 rfl hok (by kernel_rfl) (fun w' b' => R.extract rfl rfl rfl) rfl rfl ?_
  refine AA.pure 6 rfl hok (by kernel_rfl) (fun w' b' => R.extract rfl rfl rfl) rfl rfl ?_
  refine AA.one 7 (by kernel_rfl) ?_
  have l30 := r10.lt; have l31 := r4.lt
  refine ZR.alloc ([Value.nilFunc, Value.nilFunc, Value.nilFunc, Value.nilFunc]) rfl rfl rfl rfl rfl rfl ?_
  intro W33 g34 eg34 r35 z36 b32
  replace h26 := h26.up b32; replace b24 := Zu b24 b32; replace b21 := Zu b21 b32; replace r10 := r10.up b32; replace b7 := Zu b7 b32; replace r4 := r4.up b32; replace b1 := Zu b1 b32; replace q := Zu q b32; replace hok := Zh hok b32; have y37 := hok.size
  refine ⟨hok, ?_⟩
  refine AA.one 8 (by kernel_rfl) ?_
  refine ZR.storeN (vs := [fnV kd2.1, fnV kd2.2.1, fnV kd2.2.2.1, fnV kd2.2.2.2]) rfl rfl rfl rfl rfl r35 (by exact Nat.le_of_ble_eq_true rfl) (ones_of rfl) rfl rfl ?_
  intro W39 r40 b38 z41
  have hlb38 := r35.lt
  replace r40 : RowL W39 _ 68 [fnV kd2.1, fnV kd2.2.1, fnV kd2.2.2.1, fnV kd2.2.2.2] := r40
  clear r35
  replace b32 := Zg b32 b38; replace b24 := Zg b24 b38; replace b21 := Zg b21 b38; replace r10 := Zd r10 b38; replace b7 := Zg b7 b38; replace r4 := Zd r4 b38; replace b1 := Zg b1 b38; replace q := Zg q b38; replace hok := Zo hok b38
  have r35 := r40
  clear r40
  refine ⟨hok, ?_⟩
  refine AA.pure 9 rfl hok (by kernel_rfl) (fun w' b' => R.assign rfl rfl) rfl rfl ?_
  refine AA.done rfl ?_
  clear fzr10 fzr4 hok
  refine EE.thenN ?_; refine Zr ?_; refine Zm ?_; refine Zt ?_; refine Zm ?_; refine Zf ?_; refine Zl r4 ?_
  refine LL.call (R.call rfl rfl rfl) rfl rfl rfl (within_T _ _ _ _ (by first | assumption | omega)) ?_
  rintro e W' ⟨rfl, rfl⟩
  refine ⟨_, rfl, ?_⟩; refine Zt ?_; refine Zp ?_
  refine LL.call (R.call rfl rfl rfl) rfl rfl rfl (refuse_F _) ?_
  rintro e W' ⟨rfl, rfl⟩
  refine ⟨_, rfl, ?_⟩; refine Zq ?_; refine Zc ?_
  refine CC.growT 15 (by kernel_rfl) (by kernel_rfl) ?_
  refine GG.val (fun w' b' => R.load rfl rfl (I.ldNc (vs := [Value.int IntKind.i64 2, Value.int IntKind.i64 l, Value.int IntKind.i64 z, Value.slice x n c, Value.int IntKind.i64 r, Value.int IntKind.i64 p, strV t]) (RowL.cells (r4.up b') rfl) (by rfl) (by rfl))) rfl rfl ?_
  refine GG.val (fun w' b' => R.field rfl rfl (I.fld rfl)) rfl rfl ?_
  refine GG.val (fun w' b' => R.load rfl rfl (I.ld1 rfl (RowL.cell (r35.up b') rfl))) rfl rfl ?_
  refine GG.val (fun w' b' => R.load rfl rfl (I.ldNc (vs := [Value.int IntKind.i64 2, Value.int IntKind.i64 l, Value.int IntKind.i64 z, Value.slice x n c, Value.int IntKind.i64 r, Value.int IntKind.i64 p, strV t]) (RowL.cells (r4.up b') rfl) (by rfl) (by rfl))) rfl rfl ?_
  refine GG.call (fun w' => (R.callV rfl rfl rfl rfl)) rfl rfl (fun w' b' => (nm2_any _ _ _ _ _ _ _ w' ⟨_, _, _, rfl⟩).mono fun e W' h => ⟨h.1, b'.trans (h.2.mono b'.size)⟩) ?_
  refine GG.call (fun w' => (R.call rfl rfl rfl)) rfl rfl (fun w' b' => (insame_any _ _ _ _ m _ _ _ _ _ _ _ [] _ _ _ w' (hvF _ (q.trans (b'.mono q.size))) (ReadsT.nil _) hlen (by decide) false hsm).mono fun e W' h => ⟨h.1, b'.trans (h.2.mono b'.size)⟩) ?_
  refine GG.val (fun w' b' => R.not rfl rfl) rfl rfl ?_
  refine GG.val (fun w' b' => R.move rfl rfl) rfl rfl ?_
  refine GG.skip rfl rfl ?_
  refine GG.skip rfl rfl ?_
  refine GG.skip rfl rfl ?_
  refine GG.skip rfl rfl ?_
  refine GG.skip rfl rfl ?_
  refine GG.skip rfl rfl ?_
  refine GG.val (fun w' b' => R.pick rfl rfl rfl) rfl rfl ?_
  refine GG.nil (fun W46 b45 => ?_)
  have zb45 := b45.size; replace b32 := Zu b32 b45; replace b24 := Zu b24 b45; replace b21 := Zu b21 b45; replace r10 := r10.up b45; replace b7 := Zu b7 b45; replace r4 := r4.up b45; replace b1 := Zu b1 b45; replace q := Zu q b45; replace r35 := r35.up b45
  refine LL.callP (R.call rfl rfl rfl) rfl rfl (refuse_T _) ?_
  rintro e W48 ⟨rfl, rfl⟩
  refine ⟨_, rfl, ?_⟩; refine EE.thenP ?_; refine EE.panM ?_
  exact ⟨rfl, q⟩
  have l49 := r10.lt; have l50 := r4.lt
  refine ZR.alloc ([Value.nilFunc, Value.nilFunc, Value.nilFunc, Value.nilFunc]) rfl rfl rfl rfl rfl rfl ?_
  intro W52 g53 eg53 r54 z55 b51
  replace h26 := h26.up b51; replace b24 := Zu b24 b51; replace b21 := Zu b21 b51; replace r10 := r10.up b51; replace b7 := Zu b7 b51; replace r4 := r4.up b51; replace b1 := Zu b1 b51; replace q := Zu q b51; replace hok := Zh hok b51; have y56 := hok.size
  refine ⟨hok, ?_⟩
  refine AA.one 3 (by kernel_rfl) ?_
  (refine SR.val rfl (R.lookKT rfl rfl zKeys (by rfl) (z := kdZ) (by kernel_rfl) (by assumption) (2 : Int) rfl kF_2) rfl rfl hok ?_)
  refine AA.pure 4 rfl hok (by kernel_rfl) (fun w' b' => R.move rfl rfl) rfl rfl ?_
  refine AA.pure 5 rfl hok (by kernel_rfl) (fun w' b' => R.extract rfl rfl rfl) rfl rfl ?_
  refine AA.pure 6 rfl hok (by kernel_rfl) (fun w' b' => R.extract rfl rfl rfl) rfl rfl ?_
  refine AA.one 8 (by kernel_rfl) ?_
  refine ZR.storeN (vs := [fnV kd2.1, fnV kd2.2.1, fnV kd2.2.2.1, fnV kd2.2.2.2]) rfl rfl rfl rfl rfl r54 (by exact Nat.le_of_ble_eq_true rfl) (ones_of rfl) rfl rfl ?_
  intro W58 r59 b57 z60
  have hlb57 := r54.lt
  replace r59 : RowL W58 _ 68 [fnV kd2.1, fnV kd2.2.1, fnV kd2.2.2.1, fnV kd2.2.2.2] := r59
  clear r54
  replace b51 := Zg b51 b57; replace b24 := Zg b24 b57; replace b21 := Zg b21 b57; replace r10 := Zd r10 b57; replace b7 := Zg b7 b57; replace r4 := Zd r4 b57; replace b1 := Zg b1 b57; replace q := Zg q b57; replace hok := Zo hok b57
  have r54 := r59
  clear r59
  refine ⟨hok, ?_⟩
  refine AA.pure 9 rfl hok (by kernel_rfl) (fun w' b' => R.assign rfl rfl) rfl rfl ?_
  refine AA.done rfl ?_
  clear fzr10 fzr4 hok
  refine EE.thenN ?_; refine Zr ?_; refine Zm ?_; refine Zt ?_; refine Zm ?_; refine Zf ?_; refine Zl r4 ?_
  refine LL.call (R.call rfl rfl rfl) rfl rfl rfl (within_T _ _ _ _ (by first | assumption | omega)) ?_
  rintro e W' ⟨rfl, rfl⟩
  refine ⟨_, rfl, ?_⟩; refine Zt ?_; refine Zp ?_
  refine LL.call (R.call rfl rfl rfl) rfl rfl rfl (refuse_F _) ?_
  rintro e W' ⟨rfl, rfl⟩
  refine ⟨_, rfl, ?_⟩; refine Zq ?_; refine Zc ?_
  refine CC.growT 15 (by kernel_rfl) (by kernel_rfl) ?_
  refine GG.val (fun w' b' => R.load rfl rfl (I.ldNc (vs := [Value.int IntKind.i64 2, Value.int IntKind.i64 l, Value.int IntKind.i64 z, Value.slice x n c, Value.int IntKind.i64 r, Value.int IntKind.i64 p, strV t]) (RowL.cells (r4.up b') rfl) (by rfl) (by rfl))) rfl rfl ?_
  refine GG.val (fun w' b' => R.field rfl rfl (I.fld rfl)) rfl rfl ?_
  refine GG.val (fun w' b' => R.load rfl rfl (I.ld1 rfl (RowL.cell (r54.up b') rfl))) rfl rfl ?_
  refine GG.val (fun w' b' => R.load rfl rfl (I.ldNc (vs := [Value.int IntKind.i64 2, Value.int IntKind.i64 l, Value.int IntKind.i64 z, Value.slice x n c, Value.int IntKind.i64 r, Value.int IntKind.i64 p, strV t]) (RowL.cells (r4.up b') rfl) (by rfl) (by rfl))) rfl rfl ?_
  refine GG.call (fun w' => (R.callV rfl rfl rfl rfl)) rfl rfl (fun w' b' => (nm2_any _ _ _ _ _ _ _ w' ⟨_, _, _, rfl⟩).mono fun e W' h => ⟨h.1, b'.trans (h.2.mono b'.size)⟩) ?_
  refine GG.call (fun w' => (R.call rfl rfl rfl)) rfl rfl (fun w' b' => (insame_any _ _ _ _ m _ _ _ _ _ _ _ [] _ _ _ w' (hvF _ (q.trans (b'.mono q.size))) (ReadsT.nil _) hlen (by decide) false hsm).mono fun e W' h => ⟨h.1, b'.trans (h.2.mono b'.size)⟩) ?_
  refine GG.val (fun w' b' => R.not rfl rfl) rfl rfl ?_
  refine GG.val (fun w' b' => R.move rfl rfl) rfl rfl ?_
  refine GG.skip rfl rfl ?_
  refine GG.skip rfl rfl ?_
  refine GG.skip rfl rfl ?_
  refine GG.skip rfl rfl ?_
  refine GG.skip rfl rfl ?_
  refine GG.skip rfl rfl ?_
  refine GG.val (fun w' b' => R.pick rfl rfl rfl) rfl rfl ?_
  refine GG.nil (fun W65 b64 => ?_)
  have zb64 := b64.size; replace b51 := Zu b51 b64; replace b24 := Zu b24 b64; replace b21 := Zu b21 b64; replace r10 := r10.up b64; replace b7 := Zu b7 b64; replace r4 := r4.up b64; replace b1 := Zu b1 b64; replace q := Zu q b64; replace r54 := r54.up b64
  refine LL.callP (R.call rfl rfl rfl) rfl rfl (refuse_T _) ?_
  rintro e W67 ⟨rfl, rfl⟩
  refine ⟨_, rfl, ?_⟩; refine EE.thenP ?_; refine EE.panM ?_
  exact ⟨rfl, q⟩
  have l68 := r10.lt; have l69 := r4.lt
  refine ZR.alloc ([Value.nilFunc, Value.nilFunc, Value.nilFunc, Value.nilFunc]) rfl rfl rfl rfl rfl rfl ?_
  intro W71 g72 eg72 r73 z74 b70
  replace b21 := Zu b21 b70; replace r10 := r10.up b70; replace b7 := Zu b7 b70; replace r4 := r4.up b70; replace b1 := Zu b1 b70; replace q := Zu q b70; replace hok := Zh hok b70; have y75 := hok.size
  refine ⟨hok, ?_⟩
  refine AA.one 0 (by kernel_rfl) ?_
  refine SR.call rfl (R.call rfl rfl rfl) rfl rfl (kinds_any _) ?_
  rintro e W77 ⟨g79, k80, rfl, h78, b76⟩
  have zb76 := b76.size; replace r73 := r73.up b76; replace b70 := Zu b70 b76; replace b21 := Zu b21 b76; replace r10 := r10.up b76; replace b7 := Zu b7 b76; replace r4 := r4.up b76; replace b1 := Zu b1 b76; replace q := Zu q b76; replace hok := Zh hok b76; have y81 := hok.size
  refine ⟨_, rfl, hok, ?_⟩
  refine AA.one 3 (by kernel_rfl) ?_
  (refine SR.val rfl (R.lookKT rfl rfl zKeys (by rfl) (z := kdZ) (by kernel_rfl) (by assumption) (2 : Int) rfl kF_2) rfl rfl hok ?_)
  refine AA.pure 4 rfl hok (by kernel_rfl) (fun w' b' => R.move rfl rfl) rfl rfl ?_
  refine AA.pure 5 rfl hok (by kernel_rfl) (fun w' b' => R.extract rfl rfl rfl) rfl rfl ?_
  refine AA.pure 6 rfl hok (by kernel_rfl) (fun w' b' => R.extract rfl rfl rfl) rfl rfl ?_
  refine AA.one 8 (by kernel_rfl) ?_
  refine ZR.storeN (vs := [fnV kd2.1, fnV kd2.2.1, fnV kd2.2.2.1, fnV kd2.2.2.2]) rfl rfl rfl rfl rfl r73 (by exact Nat.le_of_ble_eq_true rfl) (ones_of rfl) rfl rfl ?_
  intro W83 r84 b82 z85
  have hlb82 := r73.lt
  replace r84 : RowL W83 _ 68 [fnV kd2.1, fnV kd2.2.1, fnV kd2.2.2.1, fnV kd2.2.2.2] := r84
  clear r73
  replace b70 := Zg b70 b82; replace b21 := Zg b21 b82; replace r10 := Zd r10 b82; replace b7 := Zg b7 b82; replace r4 := Zd r4 b82; replace b1 := Zg b1 b82; replace q := Zg q b82; replace hok := Zo hok b82
  have r73 := r84
  clear r84
  refine ⟨hok, ?_⟩
  refine AA.pure 9 rfl hok (by kernel_rfl) (fun w' b' => R.assign rfl rfl) rfl rfl ?_
  refine AA.done rfl ?_
  clear fzr10 fzr4 hok
  refine EE.thenN ?_; refine Zr ?_; refine Zm ?_; refine Zt ?_; refine Zm ?_; refine Zf ?_; refine Zl r4 ?_
  refine LL.call (R.call rfl rfl rfl) rfl rfl rfl (within_T _ _ _ _ (by first | assumption | omega)) ?_
  rintro e W' ⟨rfl, rfl⟩
  refine ⟨_, rfl, ?_⟩; refine Zt ?_; refine Zp ?_
  refine LL.call (R.call rfl rfl rfl) rfl rfl rfl (refuse_F _) ?_
  rintro e W' ⟨rfl, rfl⟩
  refine ⟨_, rfl, ?_⟩; refine Zq ?_; refine Zc ?_
  refine CC.growT 15 (by kernel_rfl) (by kernel_rfl) ?_
  refine GG.val (fun w' b' => R.load rfl rfl (I.ldNc (vs := [Value.int IntKind.i64 2, Value.int IntKind.i64 l, Value.int IntKind.i64 z, Value.slice x n c, Value.int IntKind.i64 r, Value.int IntKind.i64 p, strV t]) (RowL.cells (r4.up b') rfl) (by rfl) (by rfl))) rfl rfl ?_
  refine GG.val (fun w' b' => R.field rfl rfl (I.fld rfl)) rfl rfl ?_
  refine GG.val (fun w' b' => R.load rfl rfl (I.ld1 rfl (RowL.cell (r73.up b') rfl))) rfl rfl ?_
  refine GG.val (fun w' b' => R.load rfl rfl (I.ldNc (vs := [Value.int IntKind.i64 2, Value.int IntKind.i64 l, Value.int IntKind.i64 z, Value.slice x n c, Value.int IntKind.i64 r, Value.int IntKind.i64 p, strV t]) (RowL.cells (r4.up b') rfl) (by rfl) (by rfl))) rfl rfl ?_
  refine GG.call (fun w' => (R.callV rfl rfl rfl rfl)) rfl rfl (fun w' b' => (nm2_any _ _ _ _ _ _ _ w' ⟨_, _, _, rfl⟩).mono fun e W' h => ⟨h.1, b'.trans (h.2.mono b'.size)⟩) ?_
  refine GG.call (fun w' => (R.call rfl rfl rfl)) rfl rfl (fun w' b' => (insame_any _ _ _ _ m _ _ _ _ _ _ _ [] _ _ _ w' (hvF _ (q.trans (b'.mono q.size))) (ReadsT.nil _) hlen (by decide) false hsm).mono fun e W' h => ⟨h.1, b'.trans (h.2.mono b'.size)⟩) ?_
  refine GG.val (fun w' b' => R.not rfl rfl) rfl rfl ?_
  refine GG.val (fun w' b' => R.move rfl rfl) rfl rfl ?_
  refine GG.skip rfl rfl ?_
  refine GG.skip rfl rfl ?_
  refine GG.skip rfl rfl ?_
  refine GG.skip rfl rfl ?_
  refine GG.skip rfl rfl ?_
  refine GG.skip rfl rfl ?_
  refine GG.val (fun w' b' => R.pick rfl rfl rfl) rfl rfl ?_
  refine GG.nil (fun W90 b89 => ?_)
  have zb89 := b89.size; replace b70 := Zu b70 b89; replace b21 := Zu b21 b89; replace r10 := r10.up b89; replace b7 := Zu b7 b89; replace r4 := r4.up b89; replace b1 := Zu b1 b89; replace q := Zu q b89; replace r73 := r73.up b89
  refine LL.callP (R.call rfl rfl rfl) rfl rfl (refuse_T _) ?_
  rintro e W92 ⟨rfl, rfl⟩
  refine ⟨_, rfl, ?_⟩; refine EE.thenP ?_; refine EE.panM ?_
  exact ⟨rfl, q⟩
theorem check3_L (l z r p : Int) (t : Bs) (x : Option Addr) (n c : Nat) (m : List Ex) (w : World) (hv : ReadsT eE 3 w (.slice x n c) m) (hlen : m.length ≤ 1048576) (hl : l < 0 ∨ 65535 < l) : Calls Tryd.prog 29 #[inV 3 l z (.slice x n c) r p t] w fun e w' => e = .panicked (chain1 refV) ∧ Below w.heap.size w w' := by
  have q := Below.refl w.heap.size w
  have hvF : ∀ X, Below w.heap.size w X → ReadsT eE 3 X (.slice x n c) m := fun X b => hv.up b
  clear hv
  refine X.fnP Tryd.func29 rfl (n := 38) rfl rfl ?_
  refine Zr ?_
  refine LL.box [Value.int IntKind.i64 3, Value.int IntKind.i64 l, Value.int IntKind.i64 z, Value.slice x n c, Value.int IntKind.i64 r, Value.int IntKind.i64 p, strV t] rfl rfl rfl rfl rfl ?_
  intro W2 g3 eg3 r4 z5 b1
  replace q := Zu q b1; have l6 := r4.lt
  refine LL.alloc ([Value.nilFunc, Value.nilFunc, Value.nilFunc, Value.nilFunc]) rfl rfl rfl rfl rfl ?_
  intro W8 g9 eg9 r10 z11 b7
  replace r4 := r4.up b7; replace b1 := Zu b1 b7; replace q := Zu q b7; refine Zq ?_; refine Zc ?_
  refine CC.freeZ (fun W_ j => j < W_.heap.size ∧ (True)) (by kernel_rfl) (by kernel_rfl) (fun W22 b21 z23 => ?_)
  replace r10 := r10.up b21; replace b7 := Zu b7 b21; replace r4 := r4.up b21; replace b1 := Zu b1 b21; replace q := Zu q b21
  have hok : Kept (fun j => j < W22.heap.size ∧ (True)) W22 W22 := Kept.refl _ _
  have fzr10 := fzRow (K := fun j => j < W22.heap.size ∧ (True)) r10 ⟨r10.lt, (by first | trivial | omega)⟩
  have fzr4 := fzRow (K := fun j => j < W22.heap.size ∧ (True)) r4 ⟨r4.lt, (by first | trivial | omega)⟩
  refine AA.pure 1 rfl hok (by kernel_rfl) (fun w' b' => R.field rfl rfl (I.fld rfl)) rfl rfl ?_
  refine AA.pure 2 rfl hok (by kernel_rfl) (fun w' b' => R.load rfl rfl (I.ld1 rfl (RowL.cell (fzr4 w' b') rfl))) rfl rfl ?_
  refine AA.two 0 7 (by kernel_rfl) ?_ ?_
  refine SR.call rfl (R.call rfl rfl rfl) rfl rfl (kinds_any _) ?_
  rintro e W25 ⟨g27, k28, rfl, h26, b24⟩
  have zb24 := b24.size; replace b21 := Zu b21 b24; replace r10 := r10.up b24; replace b7 := Zu b7 b24; replace r4 := r4.up b24; replace b1 := Zu b1 b24; replace q := Zu q b24; replace hok := Zh hok b24; have y29 := hok.size
  refine ⟨_, rfl, hok, ?_⟩
  refine AA.two 3 7 (by kernel_rfl) ?_ ?_
  (refine SR.val rfl (R.lookKT rfl rfl zKeys (by rfl) (z := kdZ) (by kernel_rfl) (by assumption) (3 : Int) rfl kF_3) rfl rfl hok ?_)
  refine AA.pure 4 rfl hok (by kernel_rfl) (fun w' b' => R.move rfl rfl) rfl rfl ?_
  refine AA.pure 5 rfl hok (by kernel_rfl) (fun w' b' => R.extract rfl rfl rfl) rfl rfl ?_
  refine AA.pure 6 rfl hok (by kernel_rfl) (fun w' b' => R.extract rfl rfl rfl) rfl rfl ?_
  refine AA.one 7 (by kernel_rfl) ?_
  have l30 := r10.lt; have l31 := r4.lt
  refine ZR.alloc ([Value.nilFunc, Value.nilFunc, Value.nilFunc, Value.nilFunc]) rfl rfl rfl rfl rfl rfl ?_
  intro W33 g34 eg34 r35 z36 b32
  replace h26 := h26.up b32; replace b24 := Zu b24 b32; replace b21 := Zu b21 b32; replace r10 := r10.up b32; replace b7 := Zu b7 b32; replace r4 := r4.up b32; replace b1 := Zu b1 b32; replace q := Zu q b32; replace hok := Zh hok b32; have y37 := hok.size
  refine ⟨hok, ?_⟩
  refine AA.one 8 (by kernel_rfl) ?_
  refine ZR.storeN (vs := [fnV kd3.1, fnV kd3.2.1, fnV kd3.2.2.1, fnV kd3.2.2.2]) rfl rfl rfl rfl rfl r35 (by exact Nat.le_of_ble_eq_true rfl) (ones_of rfl) rfl rfl ?_
  intro W39 r40 b38 z41
  have hlb38 := r35.lt
  replace r40 : RowL W39 _ 68 [fnV kd3.1, fnV kd3.2.1, fnV kd3.2.2.1, fnV kd3.2.2.2] := r40
  clear r35
  replace b32 := Zg b32 b38; replace b24 := Zg b24 b38; replace b21 := Zg b21 b38; replace r10 := Zd r10 b38; replace b7 := Zg b7 b38; replace r4 := Zd r4 b38; replace b1 := Zg b1 b38; replace q := Zg q b38; replace hok := Zo hok b38
  have r35 := r40
  clear r40
  refine ⟨hok, ?_⟩
  refine AA.pure 9 rfl hok (by kernel_rfl) (fun w' b' => R.assign rfl rfl) rfl rfl ?_
  refine AA.done rfl ?_
  clear fzr10 fzr4 hok
  refine EE.thenN ?_; refine Zr ?_; refine Zm ?_; refine Zt ?_; refine Zm ?_; refine Zf ?_; refine Zl r4 ?_
  refine LL.call (R.call rfl rfl rfl) rfl rfl rfl (within_F _ _ _ _ (by first | assumption | omega)) ?_
  rintro e W' ⟨rfl, rfl⟩
  refine ⟨_, rfl, ?_⟩; refine Zt ?_; refine Zp ?_
  refine LL.callP (R.call rfl rfl rfl) rfl rfl (refuse_T _) ?_
  rintro e W43 ⟨rfl, rfl⟩
  refine ⟨_, rfl, ?_⟩; refine EE.thenP ?_; refine EE.panM ?_
  exact ⟨rfl, q⟩
  have l44 := r10.lt; have l45 := r4.lt
  refine ZR.alloc ([Value.nilFunc, Value.nilFunc, Value.nilFunc, Value.nilFunc]) rfl rfl rfl rfl rfl rfl ?_
  intro W47 g48 eg48 r49 z50 b46
  replace h26 := h26.up b46; replace b24 := Zu b24 b46; replace b21 := Zu b21 b46; replace r10 := r10.up b46; replace b7 := Zu b7 b46; replace r4 := r4.up b46; replace b1 := Zu b1 b46; replace q := Zu q b46; replace hok := Zh hok b46; have y51 := hok.size
  refine ⟨hok, ?_⟩
  refine AA.one 3 (by kernel_rfl) ?_
  (refine SR.val rfl (R.lookKT rfl rfl zKeys (by rfl) (z := kdZ) (by kernel_rfl) (by assumption) (3 : Int) rfl kF_3) rfl rfl hok ?_)
  refine AA.pure 4 rfl hok (by kernel_rfl) (fun w' b' => R.move rfl rfl) rfl rfl ?_
  refine AA.pure 5 rfl hok (by kernel_rfl) (fun w' b' => R.extract rfl rfl rfl) rfl rfl ?_
  refine AA.pure 6 rfl hok (by kernel_rfl) (fun w' b' => R.extract rfl rfl rfl) rfl rfl ?_
  refine AA.one 8 (by kernel_rfl) ?_
  refine ZR.storeN (vs := [fnV kd3.1, fnV kd3.2.1, fnV kd3.2.2.1, fnV kd3.2.2.2]) rfl rfl rfl rfl rfl r49 (by exact Nat.le_of_ble_eq_true rfl) (ones_of rfl) rfl rfl ?_
  intro W53 r54 b52 z55
  have hlb52 := r49.lt
  replace r54 : RowL W53 _ 68 [fnV kd3.1, fnV kd3.2.1, fnV kd3.2.2.1, fnV kd3.2.2.2] := r54
  clear r49
  replace b46 := Zg b46 b52; replace b24 := Zg b24 b52; replace b21 := Zg b21 b52; replace r10 := Zd r10 b52; replace b7 := Zg b7 b52; replace r4 := Zd r4 b52; replace b1 := Zg b1 b52; replace q := Zg q b52; replace hok := Zo hok b52
  have r49 := r54
  clear r54
  refine ⟨hok, ?_⟩
  refine AA.pure 9 rfl hok (by kernel_rfl) (fun w' b' => R.assign rfl rfl) rfl rfl ?_
  refine AA.done rfl ?_
  clear fzr10 fzr4 hok
  refine EE.thenN ?_; refine Zr ?_; refine Zm ?_; refine Zt ?_; refine Zm ?_; refine Zf ?_; refine Zl r4 ?_
  refine LL.call (R.call rfl rfl rfl) rfl rfl rfl (within_F _ _ _ _ (by first | assumption | omega)) ?_
  rintro e W' ⟨rfl, rfl⟩
  refine ⟨_, rfl, ?_⟩; refine Zt ?_; refine Zp ?_
  refine LL.callP (R.call rfl rfl rfl) rfl rfl (refuse_T _) ?_
  rintro e W57 ⟨rfl, rfl⟩
  refine ⟨_, rfl, ?_⟩; refine EE.thenP ?_; refine EE.panM ?_
  exact ⟨rfl, q⟩
  have l58 := r10.lt; have l59 := r4.lt
  refine ZR.alloc ([Value.nilFunc, Value.nilFunc, Value.nilFunc, Value.nilFunc]) rfl rfl rfl rfl rfl rfl ?_
  intro W61 g62 eg62 r63 z64 b60
  replace b21 := Zu b21 b60; replace r10 := r10.up b60; replace b7 := Zu b7 b60; replace r4 := r4.up b60; replace b1 := Zu b1 b60; replace q := Zu q b60; replace hok := Zh hok b60; have y65 := hok.size
  refine ⟨hok, ?_⟩
  refine AA.one 0 (by kernel_rfl) ?_
  refine SR.call rfl (R.call rfl rfl rfl) rfl rfl (kinds_any _) ?_
  rintro e W67 ⟨g69, k70, rfl, h68, b66⟩
  have zb66 := b66.size; replace r63 := r63.up b66; replace b60 := Zu b60 b66; replace b21 := Zu b21 b66; replace r10 := r10.up b66; replace b7 := Zu b7 b66; replace r4 := r4.up b66; replace b1 := Zu b1 b66; replace q := Zu q b66; replace hok := Zh hok b66; have y71 := hok.size
  refine ⟨_, rfl, hok, ?_⟩
  refine AA.one 3 (by kernel_rfl) ?_
  (refine SR.val rfl (R.lookKT rfl rfl zKeys (by rfl) (z := kdZ) (by kernel_rfl) (by assumption) (3 : Int) rfl kF_3) rfl rfl hok ?_)
  refine AA.pure 4 rfl hok (by kernel_rfl) (fun w' b' => R.move rfl rfl) rfl rfl ?_
  refine AA.pure 5 rfl hok (by kernel_rfl) (fun w' b' => R.extract rfl rfl rfl) rfl rfl ?_
  refine AA.pure 6 rfl hok (by kernel_rfl) (fun w' b' => R.extract rfl rfl rfl) rfl rfl ?_
  refine AA.one 8 (by kernel_rfl) ?_
  refine ZR.storeN (vs := [fnV kd3.1, fnV kd3.2.1, fnV kd3.2.2.1, fnV kd3.2.2.2]) rfl rfl rfl rfl rfl r63 (by exact Nat.le_of_ble_eq_true rfl) (ones_of rfl) rfl rfl ?_
  intro W73 r74 b72 z75
  have hlb72 := r63.lt
  replace r74 : RowL W73 _ 68 [fnV kd3.1, fnV kd3.2.1, fnV kd3.2.2.1, fnV kd3.2.2.2] := r74
  clear r63
  replace b60 := Zg b60 b72; replace b21 := Zg b21 b72; replace r10 := Zd r10 b72; replace b7 := Zg b7 b72; replace r4 := Zd r4 b72; replace b1 := Zg b1 b72; replace q := Zg q b72; replace hok := Zo hok b72
  have r63 := r74
  clear r74
  refine ⟨hok, ?_⟩
  refine AA.pure 9 rfl hok (by kernel_rfl) (fun w' b' => R.assign rfl rfl) rfl rfl ?_
  refine AA.done rfl ?_
  clear fzr10 fzr4 hok
  refine EE.thenN ?_; refine Zr ?_; refine Zm ?_; refine Zt ?_; refine Zm ?_; refine Zf ?_; refine Zl r4 ?_
  refine LL.call (R.call rfl rfl rfl) rfl rfl rfl (within_F _ _ _ _ (by first | assumption | omega)) ?_
  rintro e W' ⟨rfl, rfl⟩
  refine ⟨_, rfl, ?_⟩; refine Zt ?_; refine Zp ?_
  refine LL.callP (R.call rfl rfl rfl) rfl rfl (refuse_T _) ?_
  rintro e W77 ⟨rfl, rfl⟩
  refine ⟨_, rfl, ?_⟩; refine EE.thenP ?_; refine EE.panM ?_
  exact ⟨rfl, q⟩
theorem check3_N (l z r p : Int) (t : Bs) (x : Option Addr) (n c : Nat) (m : List Ex) (w : World) (hv : ReadsT eE 3 w (.slice x n c) m) (hlen : m.length ≤ 1048576) (hl : 0 ≤ l ∧ l ≤ 65535) (hn : ¬sameI 3 l z m r p t 3 l 0 [] 0 0 t) : Calls Tryd.prog 29 #[inV 3 l z (.slice x n c) r p t] w fun e w' => e = .panicked (chain1 refV) ∧ Below w.heap.size w w' := by
  have q := Below.refl w.heap.size w
  have hvF : ∀ X, Below w.heap.size w X → ReadsT eE 3 X (.slice x n c) m := fun X b => hv.up b
  clear hv
  have hsm : false = true ↔ sameI 3 l z m r p t 3 l 0 [] 0 0 t := ⟨fun h => (by cases h), fun h => absurd h hn⟩
  refine X.fnP Tryd.func29 rfl (n := 38) rfl rfl ?_
  refine Zr ?_
  refine LL.box [Value.int IntKind.i64 3, Value.int IntKind.i64 l, Value.int IntKind.i64 z, Value.slice x n c, Value.int IntKind.i64 r, Value.int IntKind.i64 p, strV t] rfl rfl rfl rfl rfl ?_
  intro W2 g3 eg3 r4 z5 b1
  replace q := Zu q b1; have l6 := r4.lt
  refine LL.alloc ([Value.nilFunc, Value.nilFunc, Value.nilFunc, Value.nilFunc]) rfl rfl rfl rfl rfl ?_
  intro W8 g9 eg9 r10 z11 b7
  replace r4 := r4.up b7; replace b1 := Zu b1 b7; replace q := Zu q b7; refine Zq ?_; refine Zc ?_
  refine CC.freeZ (fun W_ j => j < W_.heap.size ∧ (True)) (by kernel_rfl) (by kernel_rfl) (fun W22 b21 z23 => ?_)
  replace r10 := r10.up b21; replace b7 := Zu b7 b21; replace r4 := r4.up b21; replace b1 := Zu b1 b21; replace q := Zu q b21
  have hok : Kept (fun j => j < W22.heap.size ∧ (True)) W22 W22 := Kept.refl _ _
  have fzr10 := fzRow (K := fun j => j < W22.heap.size ∧ (True)) r10 ⟨r10.lt, (by first | trivial | omega)⟩
  have fzr4 := fzRow (K := fun j => j < W22.heap.size ∧ (True)) r4 ⟨r4.lt, (by first | trivial | omega)⟩
  refine AA.pure 1 rfl hok (by kernel_rfl) (fun w' b' => R.field rfl rfl (I.fld rfl)) rfl rfl ?_
  refine AA.pure 2 rfl hok (by kernel_rfl) (fun w' b' => R.load rfl rfl (I.ld1 rfl (RowL.cell (fzr4 w' b') rfl))) rfl rfl ?_
  refine AA.two 0 7 (by kernel_rfl) ?_ ?_
  refine SR.call rfl (R.call rfl rfl rfl) rfl rfl (kinds_any _) ?_
  rintro e W25 ⟨g27, k28, rfl, h26, b24⟩
  have zb24 := b24.size; replace b21 := Zu b21 b24; replace r10 := r10.up b24; replace b7 := Zu b7 b24; replace r4 := r4.up b24; replace b1 := Zu b1 b24; replace q := Zu q b24; replace hok := Zh hok b24; have y29 := hok.size
  refine ⟨_, rfl, hok, ?_⟩
  refine AA.two 3 7 (by kernel_rfl) ?_ ?_
  (refine SR.val rfl (R.lookKT rfl rfl zKeys (by rfl) (z := kdZ) (by kernel_rfl) (by assumption) (3 : Int) rfl kF_3) rfl rfl hok ?_)
  refine AA.pure 4 rfl hok (by kernel_rfl) (fun w' b' => R.move rfl rfl) rfl rfl ?_
  refine AA.pure 5 rfl hok (by kernel_rfl) (fun w' b' => R.extract rfl rfl rfl) rfl rfl ?_
  refine AA.pure 6 rfl hok (by kernel_rfl) (fun w' b' => R.extract rfl rfl rfl) rfl rfl ?_
  refine AA.one 7 (by kernel_rfl) ?_
  have l30 := r10.lt; have l31 := r4.lt
  refine ZR.alloc ([Value.nilFunc, Value.nilFunc, Value.nilFunc, Value.nilFunc]) rfl rfl rfl rfl rfl rfl ?_
  intro W33 g34 eg34 r35 z36 b32
  replace h26 := h26.up b32; replace b24 := Zu b24 b32; replace b21 := Zu b21 b32; replace r10 := r10.up b32; replace b7 := Zu b7 b32; replace r4 := r4.up b32; replace b1 := Zu b1 b32; replace q := Zu q b32; replace hok := Zh hok b32; have y37 := hok.size
  refine ⟨hok, ?_⟩
  refine AA.one 8 (by kernel_rfl) ?_
  refine ZR.storeN (vs := [fnV kd3.1, fnV kd3.2.1, fnV kd3.2.2.1, fnV kd3.2.2.2]) rfl rfl rfl rfl rfl r35 (by exact Nat.le_of_ble_eq_true rfl) (ones_of rfl) rfl rfl ?_
  intro W39 r40 b38 z41
  have hlb38 := r35.lt
  replace r40 : RowL W39 _ 68 [fnV kd3.1, fnV kd3.2.1, fnV kd3.2.2.1, fnV kd3.2.2.2] := r40
  clear r35
  replace b32 := Zg b32 b38; replace b24 := Zg b24 b38; replace b21 := Zg b21 b38; replace r10 := Zd r10 b38; replace b7 := Zg b7 b38; replace r4 := Zd r4 b38; replace b1 := Zg b1 b38; replace q := Zg q b38; replace hok := Zo hok b38
  have r35 := r40
  clear r40
  refine ⟨hok, ?_⟩
  refine AA.pure 9 rfl hok (by kernel_rfl) (fun w' b' => R.assign rfl rfl) rfl rfl ?_
  refine AA.done rfl ?_
  clear fzr10 fzr4 hok
  refine EE.thenN ?_; refine Zr ?_; refine Zm ?_; refine Zt ?_; refine Zm ?_; refine Zf ?_; refine Zl r4 ?_
  refine LL.call (R.call rfl rfl rfl) rfl rfl rfl (within_T _ _ _ _ (by first | assumption | omega)) ?_
  rintro e W' ⟨rfl, rfl⟩
  refine ⟨_, rfl, ?_⟩; refine Zt ?_; refine Zp ?_
  refine LL.call (R.call rfl rfl rfl) rfl rfl rfl (refuse_F _) ?_
  rintro e W' ⟨rfl, rfl⟩
  refine ⟨_, rfl, ?_⟩; refine Zq ?_; refine Zc ?_
  refine CC.growT 15 (by kernel_rfl) (by kernel_rfl) ?_
  refine GG.val (fun w' b' => R.load rfl rfl (I.ldNc (vs := [Value.int IntKind.i64 3, Value.int IntKind.i64 l, Value.int IntKind.i64 z, Value.slice x n c, Value.int IntKind.i64 r, Value.int IntKind.i64 p, strV t]) (RowL.cells (r4.up b') rfl) (by rfl) (by rfl))) rfl rfl ?_
  refine GG.val (fun w' b' => R.field rfl rfl (I.fld rfl)) rfl rfl ?_
  refine GG.val (fun w' b' => R.load rfl rfl (I.ld1 rfl (RowL.cell (r35.up b') rfl))) rfl rfl ?_
  refine GG.val (fun w' b' => R.load rfl rfl (I.ldNc (vs := [Value.int IntKind.i64 3, Value.int IntKind.i64 l, Value.int IntKind.i64 z, Value.slice x n c, Value.int IntKind.i64 r, Value.int IntKind.i64 p, strV t]) (RowL.cells (r4.up b') rfl) (by rfl) (by rfl))) rfl rfl ?_
  refine GG.call (fun w' => (R.callV rfl rfl rfl rfl)) rfl rfl (fun w' b' => (nm3_any _ _ _ _ _ _ _ w' ⟨_, _, _, rfl⟩).mono fun e W' h => ⟨h.1, b'.trans (h.2.mono b'.size)⟩) ?_
  refine GG.call (fun w' => (R.call rfl rfl rfl)) rfl rfl (fun w' b' => (insame_any _ _ _ _ m _ _ _ _ _ _ _ [] _ _ _ w' (hvF _ (q.trans (b'.mono q.size))) (ReadsT.nil _) hlen (by decide) false hsm).mono fun e W' h => ⟨h.1, b'.trans (h.2.mono b'.size)⟩) ?_
  refine GG.val (fun w' b' => R.not rfl rfl) rfl rfl ?_
  refine GG.val (fun w' b' => R.move rfl rfl) rfl rfl ?_
  refine GG.skip rfl rfl ?_
  refine GG.skip rfl rfl ?_
  refine GG.skip rfl rfl ?_
  refine GG.skip rfl rfl ?_
  refine GG.skip rfl rfl ?_
  refine GG.skip rfl rfl ?_
  refine GG.val (fun w' b' => R.pick rfl rfl rfl) rfl rfl ?_
  refine GG.nil (fun W46 b45 => ?_)
  have zb45 := b45.size; replace b32 := Zu b32 b45; replace b24 := Zu b24 b45; replace b21 := Zu b21 b45; replace r10 := r10.up b45; replace b7 := Zu b7 b45; replace r4 := r4.up b45; replace b1 := Zu b1 b45; replace q := Zu q b45; replace r35 := r35.up b45
  refine LL.callP (R.call rfl rfl rfl) rfl rfl (refuse_T _) ?_
  rintro e W48 ⟨rfl, rfl⟩
  refine ⟨_, rfl, ?_⟩; refine EE.thenP ?_; refine EE.panM ?_
  exact ⟨rfl, q⟩
  have l49 := r10.lt; have l50 := r4.lt
  refine ZR.alloc ([Value.nilFunc, Value.nilFunc, Value.nilFunc, Value.nilFunc]) rfl rfl rfl rfl rfl rfl ?_
  intro W52 g53 eg53 r54 z55 b51
  replace h26 := h26.up b51; replace b24 := Zu b24 b51; replace b21 := Zu b21 b51; replace r10 := r10.up b51; replace b7 := Zu b7 b51; replace r4 := r4.up b51; replace b1 := Zu b1 b51; replace q := Zu q b51; replace hok := Zh hok b51; have y56 := hok.size
  refine ⟨hok, ?_⟩
  refine AA.one 3 (by kernel_rfl) ?_
  (refine SR.val rfl (R.lookKT rfl rfl zKeys (by rfl) (z := kdZ) (by kernel_rfl) (by assumption) (3 : Int) rfl kF_3) rfl rfl hok ?_)
  refine AA.pure 4 rfl hok (by kernel_rfl) (fun w' b' => R.move rfl rfl) rfl rfl ?_
  refine AA.pure 5 rfl hok (by kernel_rfl) (fun w' b' => R.extract rfl rfl rfl) rfl rfl ?_
  refine AA.pure 6 rfl hok (by kernel_rfl) (fun w' b' => R.extract rfl rfl rfl) rfl rfl ?_
  refine AA.one 8 (by kernel_rfl) ?_
  refine ZR.storeN (vs := [fnV kd3.1, fnV kd3.2.1, fnV kd3.2.2.1, fnV kd3.2.2.2]) rfl rfl rfl rfl rfl r54 (by exact Nat.le_of_ble_eq_true rfl) (ones_of rfl) rfl rfl ?_
  intro W58 r59 b57 z60
  have hlb57 := r54.lt
  replace r59 : RowL W58 _ 68 [fnV kd3.1, fnV kd3.2.1, fnV kd3.2.2.1, fnV kd3.2.2.2] := r59
  clear r54
  replace b51 := Zg b51 b57; replace b24 := Zg b24 b57; replace b21 := Zg b21 b57; replace r10 := Zd r10 b57; replace b7 := Zg b7 b57; replace r4 := Zd r4 b57; replace b1 := Zg b1 b57; replace q := Zg q b57; replace hok := Zo hok b57
  have r54 := r59
  clear r59
  refine ⟨hok, ?_⟩
  refine AA.pure 9 rfl hok (by kernel_rfl) (fun w' b' => R.assign rfl rfl) rfl rfl ?_
  refine AA.done rfl ?_
  clear fzr10 fzr4 hok
  refine EE.thenN ?_; refine Zr ?_; refine Zm ?_; refine Zt ?_; refine Zm ?_; refine Zf ?_; refine Zl r4 ?_
  refine LL.call (R.call rfl rfl rfl) rfl rfl rfl (within_T _ _ _ _ (by first | assumption | omega)) ?_
  rintro e W' ⟨rfl, rfl⟩
  refine ⟨_, rfl, ?_⟩; refine Zt ?_; refine Zp ?_
  refine LL.call (R.call rfl rfl rfl) rfl rfl rfl (refuse_F _) ?_
  rintro e W' ⟨rfl, rfl⟩
  refine ⟨_, rfl, ?_⟩; refine Zq ?_; refine Zc ?_
  refine CC.growT 15 (by kernel_rfl) (by kernel_rfl) ?_
  refine GG.val (fun w' b' => R.load rfl rfl (I.ldNc (vs := [Value.int IntKind.i64 3, Value.int IntKind.i64 l, Value.int IntKind.i64 z, Value.slice x n c, Value.int IntKind.i64 r, Value.int IntKind.i64 p, strV t]) (RowL.cells (r4.up b') rfl) (by rfl) (by rfl))) rfl rfl ?_
  refine GG.val (fun w' b' => R.field rfl rfl (I.fld rfl)) rfl rfl ?_
  refine GG.val (fun w' b' => R.load rfl rfl (I.ld1 rfl (RowL.cell (r54.up b') rfl))) rfl rfl ?_
  refine GG.val (fun w' b' => R.load rfl rfl (I.ldNc (vs := [Value.int IntKind.i64 3, Value.int IntKind.i64 l, Value.int IntKind.i64 z, Value.slice x n c, Value.int IntKind.i64 r, Value.int IntKind.i64 p, strV t]) (RowL.cells (r4.up b') rfl) (by rfl) (by rfl))) rfl rfl ?_
  refine GG.call (fun w' => (R.callV rfl rfl rfl rfl)) rfl rfl (fun w' b' => (nm3_any _ _ _ _ _ _ _ w' ⟨_, _, _, rfl⟩).mono fun e W' h => ⟨h.1, b'.trans (h.2.mono b'.size)⟩) ?_
  refine GG.call (fun w' => (R.call rfl rfl rfl)) rfl rfl (fun w' b' => (insame_any _ _ _ _ m _ _ _ _ _ _ _ [] _ _ _ w' (hvF _ (q.trans (b'.mono q.size))) (ReadsT.nil _) hlen (by decide) false hsm).mono fun e W' h => ⟨h.1, b'.trans (h.2.mono b'.size)⟩) ?_
  refine GG.val (fun w' b' => R.not rfl rfl) rfl rfl ?_
  refine GG.val (fun w' b' => R.move rfl rfl) rfl rfl ?_
  refine GG.skip rfl rfl ?_
  refine GG.skip rfl rfl ?_
  refine GG.skip rfl rfl ?_
  refine GG.skip rfl rfl ?_
  refine GG.skip rfl rfl ?_
  refine GG.skip rfl rfl ?_
  refine GG.val (fun w' b' => R.pick rfl rfl rfl) rfl rfl ?_
  refine GG.nil (fun W65 b64 => ?_)
  have zb64 := b64.size; replace b51 := Zu b51 b64; replace b24 := Zu b24 b64; replace b21 := Zu b21 b64; replace r10 := r10.up b64; replace b7 := Zu b7 b64; replace r4 := r4.up b64; replace b1 := Zu b1 b64; replace q := Zu q b64; replace r54 := r54.up b64
  refine LL.callP (R.call rfl rfl rfl) rfl rfl (refuse_T _) ?_
  rintro e W67 ⟨rfl, rfl⟩
  refine ⟨_, rfl, ?_⟩; refine EE.thenP ?_; refine EE.panM ?_
  exact ⟨rfl, q⟩
  have l68 := r10.lt; have l69 := r4.lt
  refine ZR.alloc ([Value.nilFunc, Value.nilFunc, Value.nilFunc, Value.nilFunc]) rfl rfl rfl rfl rfl rfl ?_
  intro W71 g72 eg72 r73 z74 b70
  replace b21 := Zu b21 b70; replace r10 := r10.up b70; replace b7 := Zu b7 b70; replace r4 := r4.up b70; replace b1 := Zu b1 b70; replace q := Zu q b70; replace hok := Zh hok b70; have y75 := hok.size
  refine ⟨hok, ?_⟩
  refine AA.one 0 (by kernel_rfl) ?_
  refine SR.call rfl (R.call rfl rfl rfl) rfl rfl (kinds_any _) ?_
  rintro e W77 ⟨g79, k80, rfl, h78, b76⟩
  have zb76 := b76.size; replace r73 := r73.up b76; replace b70 := Zu b70 b76; replace b21 := Zu b21 b76; replace r10 := r10.up b76; replace b7 := Zu b7 b76; replace r4 := r4.up b76; replace b1 := Zu b1 b76; replace q := Zu q b76; replace hok := Zh hok b76; have y81 := hok.size
  refine ⟨_, rfl, hok, ?_⟩
  refine AA.one 3 (by kernel_rfl) ?_
  (refine SR.val rfl (R.lookKT rfl rfl zKeys (by rfl) (z := kdZ) (by kernel_rfl) (by assumption) (3 : Int) rfl kF_3) rfl rfl hok ?_)
  refine AA.pure 4 rfl hok (by kernel_rfl) (fun w' b' => R.move rfl rfl) rfl rfl ?_
  refine AA.pure 5 rfl hok (by kernel_rfl) (fun w' b' => R.extract rfl rfl rfl) rfl rfl ?_
  refine AA.pure 6 rfl hok (by kernel_rfl) (fun w' b' => R.extract rfl rfl rfl) rfl rfl ?_
  refine AA.one 8 (by kernel_rfl) ?_
  refine ZR.storeN (vs := [fnV kd3.1, fnV kd3.2.1, fnV kd3.2.2.1, fnV kd3.2.2.2]) rfl rfl rfl rfl rfl r73 (by exact Nat.le_of_ble_eq_true rfl) (ones_of rfl) rfl rfl ?_
  intro W83 r84 b82 z85
  have hlb82 := r73.lt
  replace r84 : RowL W83 _ 68 [fnV kd3.1, fnV kd3.2.1, fnV kd3.2.2.1, fnV kd3.2.2.2] := r84
  clear r73
  replace b70 := Zg b70 b82; replace b21 := Zg b21 b82; replace r10 := Zd r10 b82; replace b7 := Zg b7 b82; replace r4 := Zd r4 b82; replace b1 := Zg b1 b82; replace q := Zg q b82; replace hok := Zo hok b82
  have r73 := r84
  clear r84
  refine ⟨hok, ?_⟩
  refine AA.pure 9 rfl hok (by kernel_rfl) (fun w' b' => R.assign rfl rfl) rfl rfl ?_
  refine AA.done rfl ?_
  clear fzr10 fzr4 hok
  refine EE.thenN ?_; refine Zr ?_; refine Zm ?_; refine Zt ?_; refine Zm ?_; refine Zf ?_; refine Zl r4 ?_
  refine LL.call (R.call rfl rfl rfl) rfl rfl rfl (within_T _ _ _ _ (by first | assumption | omega)) ?_
  rintro e W' ⟨rfl, rfl⟩
  refine ⟨_, rfl, ?_⟩; refine Zt ?_; refine Zp ?_
  refine LL.call (R.call rfl rfl rfl) rfl rfl rfl (refuse_F _) ?_
  rintro e W' ⟨rfl, rfl⟩
  refine ⟨_, rfl, ?_⟩; refine Zq ?_; refine Zc ?_
  refine CC.growT 15 (by kernel_rfl) (by kernel_rfl) ?_
  refine GG.val (fun w' b' => R.load rfl rfl (I.ldNc (vs := [Value.int IntKind.i64 3, Value.int IntKind.i64 l, Value.int IntKind.i64 z, Value.slice x n c, Value.int IntKind.i64 r, Value.int IntKind.i64 p, strV t]) (RowL.cells (r4.up b') rfl) (by rfl) (by rfl))) rfl rfl ?_
  refine GG.val (fun w' b' => R.field rfl rfl (I.fld rfl)) rfl rfl ?_
  refine GG.val (fun w' b' => R.load rfl rfl (I.ld1 rfl (RowL.cell (r73.up b') rfl))) rfl rfl ?_
  refine GG.val (fun w' b' => R.load rfl rfl (I.ldNc (vs := [Value.int IntKind.i64 3, Value.int IntKind.i64 l, Value.int IntKind.i64 z, Value.slice x n c, Value.int IntKind.i64 r, Value.int IntKind.i64 p, strV t]) (RowL.cells (r4.up b') rfl) (by rfl) (by rfl))) rfl rfl ?_
  refine GG.call (fun w' => (R.callV rfl rfl rfl rfl)) rfl rfl (fun w' b' => (nm3_any _ _ _ _ _ _ _ w' ⟨_, _, _, rfl⟩).mono fun e W' h => ⟨h.1, b'.trans (h.2.mono b'.size)⟩) ?_
  refine GG.call (fun w' => (R.call rfl rfl rfl)) rfl rfl (fun w' b' => (insame_any _ _ _ _ m _ _ _ _ _ _ _ [] _ _ _ w' (hvF _ (q.trans (b'.mono q.size))) (ReadsT.nil _) hlen (by decide) false hsm).mono fun e W' h => ⟨h.1, b'.trans (h.2.mono b'.size)⟩) ?_
  refine GG.val (fun w' b' => R.not rfl rfl) rfl rfl ?_
  refine GG.val (fun w' b' => R.move rfl rfl) rfl rfl ?_
  refine GG.skip rfl rfl ?_
  refine GG.skip rfl rfl ?_
  refine GG.skip rfl rfl ?_
  refine GG.skip rfl rfl ?_
  refine GG.skip rfl rfl ?_
  refine GG.skip rfl rfl ?_
  refine GG.val (fun w' b' => R.pick rfl rfl rfl) rfl rfl ?_
  refine GG.nil (fun W90 b89 => ?_)
  have zb89 := b89.size; replace b70 := Zu b70 b89; replace b21 := Zu b21 b89; replace r10 := r10.up b89; replace b7 := Zu b7 b89; replace r4 := r4.up b89; replace b1 := Zu b1 b89; replace q := Zu q b89; replace r73 := r73.up b89
  refine LL.callP (R.call rfl rfl rfl) rfl rfl (refuse_T _) ?_
  rintro e W92 ⟨rfl, rfl⟩
  refine ⟨_, rfl, ?_⟩; refine EE.thenP ?_; refine EE.panM ?_
  exact ⟨rfl, q⟩
theorem check1_M (l z : Int) (x : Option Addr) (n c : Nat) (m : List Ex) (w : World) (hv : ReadsT eE 3 w (.slice x n c) m) (hlen : m.length ≤ 1048576) (hl : 0 ≤ l ∧ l ≤ 65535) (hn : ¬okF z m) : Calls Tryd.prog 29 #[inV 1 l z (.slice x n c) 0 0 []] w fun e w' => e = .panicked (chain1 refV) ∧ Below w.heap.size w w' := by
  have q := Below.refl w.heap.size w
  have hvF : ∀ X, Below w.heap.size w X → ReadsT eE 3 X (.slice x n c) m := fun X b => hv.up b
  clear hv
  have hsm : true = true ↔ sameI 1 l z m 0 0 [] 1 l z m 0 0 [] := ⟨fun _ => ⟨rfl, rfl, rfl, rfl, rfl, rfl, rfl⟩, fun _ => rfl⟩
  by_cases hz : 0 ≤ z ∧ z ≤ 65536
  · by_cases hm : vL m
    · have hbm : false = true ↔ fitF z m := ⟨fun h => (by cases h), fun h => absurd ⟨hz, hm, h⟩ hn⟩
      clear hn
      refine X.fnP Tryd.func29 rfl (n := 38) rfl rfl ?_
      refine Zr ?_
      refine LL.box [Value.int IntKind.i64 1, Value.int IntKind.i64 l, Value.int IntKind.i64 z, Value.slice x n c, Value.int IntKind.i64 0, Value.int IntKind.i64 0, strV []] rfl rfl rfl rfl rfl ?_
      intro W2 g3 eg3 r4 z5 b1
      replace q := Zu q b1; have l6 := r4.lt
      refine LL.alloc ([Value.nilFunc, Value.nilFunc, Value.nilFunc, Value.nilFunc]) rfl rfl rfl rfl rfl ?_
      intro W8 g9 eg9 r10 z11 b7
      replace r4 := r4.up b7; replace b1 := Zu b1 b7; replace q := Zu q b7; refine Zq ?_; refine Zc ?_
      refine CC.freeZ (fun W_ j => j < W_.heap.size ∧ (True)) (by kernel_rfl) (by kernel_rfl) (fun W22 b21 z23 => ?_)
      replace r10 := r10.up b21; replace b7 := Zu b7 b21; replace r4 := r4.up b21; replace b1 := Zu b1 b21; replace q := Zu q b21
      have hok : Kept (fun j => j < W22.heap.size ∧ (True)) W22 W22 := Kept.refl _ _
      have fzr10 := fzRow (K := fun j => j < W22.heap.size ∧ (True)) r10 ⟨r10.lt, (by first | trivial | omega)⟩
      have fzr4 := fzRow (K := fun j => j < W22.heap.size ∧ (True)) r4 ⟨r4.lt, (by first | trivial | omega)⟩
      refine AA.pure 1 rfl hok (by kernel_rfl) (fun w' b' => R.field rfl rfl (I.fld rfl)) rfl rfl ?_
      refine AA.pure 2 rfl hok (by kernel_rfl) (fun w' b' => R.load rfl rfl (I.ld1 rfl (RowL.cell (fzr4 w' b') rfl))) rfl rfl ?_
      refine AA.two 0 7 (by kernel_rfl) ?_ ?_
      refine SR.call rfl (R.call rfl rfl rfl) rfl rfl (kinds_any _) ?_
      rintro e W25 ⟨g27, k28, rfl, h26, b24⟩
      have zb24 := b24.size; replace b21 := Zu b21 b24; replace r10 := r10.up b24; replace b7 := Zu b7 b24; replace r4 := r4.up b24; replace b1 := Zu b1 b24; replace q := Zu q b24; replace hok := Zh hok b24; have y29 := hok.size
      refine ⟨_, rfl, hok, ?_⟩
      refine AA.two 3 7 (by kernel_rfl) ?_ ?_
      (refine SR.val rfl (R.lookKT rfl rfl zKeys (by rfl) (z := kdZ) (by kernel_rfl) (by assumption) (1 : Int) rfl kF_1) rfl rfl hok ?_)
      refine AA.pure 4 rfl hok (by kernel_rfl) (fun w' b' => R.move rfl rfl) rfl rfl ?_
      refine AA.pure 5 rfl hok (by kernel_rfl) (fun w' b' => R.extract rfl rfl rfl) rfl rfl ?_
      refine AA.pure 6 rfl hok (by kernel_rfl) (fun w' b' => R.extract rfl rfl rfl) rfl rfl ?_
      refine AA.one 7 (by kernel_rfl) ?_
      have l30 := r10.lt; have l31 := r4.lt
      refine ZR.alloc ([Value.nilFunc, Value.nilFunc, Value.nilFunc, Value.nilFunc]) rfl rfl rfl rfl rfl rfl ?_
      intro W33 g34 eg34 r35 z36 b32
      replace h26 := h26.up b32; replace b24 := Zu b24 b32; replace b21 := Zu b21 b32; replace r10 := r10.up b32; replace b7 := Zu b7 b32; replace r4 := r4.up b32; replace b1 := Zu b1 b32; replace q := Zu q b32; replace hok := Zh hok b32; have y37 := hok.size
      refine ⟨hok, ?_⟩
      refine AA.one 8 (by kernel_rfl) ?_
      refine ZR.storeN (vs := [fnV kd1.1, fnV kd1.2.1, fnV kd1.2.2.1, fnV kd1.2.2.2]) rfl rfl rfl rfl rfl r35 (by exact Nat.le_of_ble_eq_true rfl) (ones_of rfl) rfl rfl ?_
      intro W39 r40 b38 z41
      have hlb38 := r35.lt
      replace r40 : RowL W39 _ 68 [fnV kd1.1, fnV kd1.2.1, fnV kd1.2.2.1, fnV kd1.2.2.2] := r40
      clear r35
      replace b32 := Zg b32 b38; replace b24 := Zg b24 b38; replace b21 := Zg b21 b38; replace r10 := Zd r10 b38; replace b7 := Zg b7 b38; replace r4 := Zd r4 b38; replace b1 := Zg b1 b38; replace q := Zg q b38; replace hok := Zo hok b38
      have r35 := r40
      clear r40
      refine ⟨hok, ?_⟩
      refine AA.pure 9 rfl hok (by kernel_rfl) (fun w' b' => R.assign rfl rfl) rfl rfl ?_
      refine AA.done rfl ?_
      clear fzr10 fzr4 hok
      refine EE.thenN ?_; refine Zr ?_; refine Zm ?_; refine Zt ?_; refine Zm ?_; refine Zf ?_; refine Zl r4 ?_
      refine LL.call (R.call rfl rfl rfl) rfl rfl rfl (within_T _ _ _ _ (by first | assumption | omega)) ?_
      rintro e W' ⟨rfl, rfl⟩
      refine ⟨_, rfl, ?_⟩; refine Zt ?_; refine Zp ?_
      refine LL.call (R.call rfl rfl rfl) rfl rfl rfl (refuse_F _) ?_
      rintro e W' ⟨rfl, rfl⟩
      refine ⟨_, rfl, ?_⟩; refine Zq ?_; refine Zc ?_
      refine CC.growT 15 (by kernel_rfl) (by kernel_rfl) ?_
      refine GG.val (fun w' b' => R.load rfl rfl (I.ldNc (vs := [Value.int IntKind.i64 1, Value.int IntKind.i64 l, Value.int IntKind.i64 z, Value.slice x n c, Value.int IntKind.i64 0, Value.int IntKind.i64 0, strV []]) (RowL.cells (r4.up b') rfl) (by rfl) (by rfl))) rfl rfl ?_
      refine GG.val (fun w' b' => R.field rfl rfl (I.fld rfl)) rfl rfl ?_
      refine GG.val (fun w' b' => R.load rfl rfl (I.ld1 rfl (RowL.cell (r35.up b') rfl))) rfl rfl ?_
      refine GG.val (fun w' b' => R.load rfl rfl (I.ldNc (vs := [Value.int IntKind.i64 1, Value.int IntKind.i64 l, Value.int IntKind.i64 z, Value.slice x n c, Value.int IntKind.i64 0, Value.int IntKind.i64 0, strV []]) (RowL.cells (r4.up b') rfl) (by rfl) (by rfl))) rfl rfl ?_
      refine GG.call (fun w' => (R.callV rfl rfl rfl rfl)) rfl rfl (fun w' b' => (nm1_any _ _ _ _ _ _ _ w' ⟨_, _, _, rfl⟩).mono fun e W' h => ⟨h.1, b'.trans (h.2.mono b'.size)⟩) ?_
      refine GG.call (fun w' => (R.call rfl rfl rfl)) rfl rfl (fun w' b' => (insame_any _ _ _ _ m _ _ _ _ _ _ _ m _ _ _ w' (hvF _ (q.trans (b'.mono q.size))) (hvF _ (q.trans (b'.mono q.size))) hlen hlen true hsm).mono fun e W' h => ⟨h.1, b'.trans (h.2.mono b'.size)⟩) ?_
      refine GG.val (fun w' b' => R.not rfl rfl) rfl rfl ?_
      refine GG.val (fun w' b' => R.move rfl rfl) rfl rfl ?_
      refine GG.val (fun w' b' => R.field rfl rfl (I.fld rfl)) rfl rfl ?_
      refine GG.val (fun w' b' => R.load rfl rfl (I.ld1 rfl (RowL.cell (r35.up b') rfl))) rfl rfl ?_
      refine GG.val (fun w' b' => R.load rfl rfl (I.ldNc (vs := [Value.int IntKind.i64 1, Value.int IntKind.i64 l, Value.int IntKind.i64 z, Value.slice x n c, Value.int IntKind.i64 0, Value.int IntKind.i64 0, strV []]) (RowL.cells (r4.up b') rfl) (by rfl) (by rfl))) rfl rfl ?_
      refine GG.val (fun w' b' => R.buildV rfl rfl (v := .agg #[Value.int IntKind.i64 1, Value.int IntKind.i64 l, Value.int IntKind.i64 z, Value.slice x n c, Value.int IntKind.i64 0, Value.int IntKind.i64 0, strV []]) (fun _ => by kernel_rfl)) rfl rfl ?_
      refine GG.call (fun w' => (R.callV rfl rfl rfl rfl)) rfl rfl (fun w' b' => (my1_any _ _ _ _ _ _ _ _ _ m w' (hvF _ (q.trans (b'.mono q.size))) hz hm false hbm).mono fun e W' h => ⟨h.1, b'.trans (h.2.mono b'.size)⟩) ?_
      refine GG.val (fun w' b' => R.not rfl rfl) rfl rfl ?_
      refine GG.val (fun w' b' => R.pick rfl rfl rfl) rfl rfl ?_
      refine GG.nil (fun W46 b45 => ?_)
      have zb45 := b45.size; replace b32 := Zu b32 b45; replace b24 := Zu b24 b45; replace b21 := Zu b21 b45; replace r10 := r10.up b45; replace b7 := Zu b7 b45; replace r4 := r4.up b45; replace b1 := Zu b1 b45; replace q := Zu q b45; replace r35 := r35.up b45
      refine LL.callP (R.call rfl rfl rfl) rfl rfl (refuse_T _) ?_
      rintro e W48 ⟨rfl, rfl⟩
      refine ⟨_, rfl, ?_⟩; refine EE.thenP ?_; refine EE.panM ?_
      exact ⟨rfl, q⟩
      have l49 := r10.lt; have l50 := r4.lt
      refine ZR.alloc ([Value.nilFunc, Value.nilFunc, Value.nilFunc, Value.nilFunc]) rfl rfl rfl rfl rfl rfl ?_
      intro W52 g53 eg53 r54 z55 b51
      replace h26 := h26.up b51; replace b24 := Zu b24 b51; replace b21 := Zu b21 b51; replace r10 := r10.up b51; replace b7 := Zu b7 b51; replace r4 := r4.up b51; replace b1 := Zu b1 b51; replace q := Zu q b51; replace hok := Zh hok b51; have y56 := hok.size
      refine ⟨hok, ?_⟩
      refine AA.one 3 (by kernel_rfl) ?_
      (refine SR.val rfl (R.lookKT rfl rfl zKeys (by rfl) (z := kdZ) (by kernel_rfl) (by assumption) (1 : Int) rfl kF_1) rfl rfl hok ?_)
      refine AA.pure 4 rfl hok (by kernel_rfl) (fun w' b' => R.move rfl rfl) rfl rfl ?_
      refine AA.pure 5 rfl hok (by kernel_rfl) (fun w' b' => R.extract rfl rfl rfl) rfl rfl ?_
      refine AA.pure 6 rfl hok (by kernel_rfl) (fun w' b' => R.extract rfl rfl rfl) rfl rfl ?_
      refine AA.one 8 (by kernel_rfl) ?_
      refine ZR.storeN (vs := [fnV kd1.1, fnV kd1.2.1, fnV kd1.2.2.1, fnV kd1.2.2.2]) rfl rfl rfl rfl rfl r54 (by exact Nat.le_of_ble_eq_true rfl) (ones_of rfl) rfl rfl ?_
      intro W58 r59 b57 z60
      have hlb57 := r54.lt
      replace r59 : RowL W58 _ 68 [fnV kd1.1, fnV kd1.2.1, fnV kd1.2.2.1, fnV kd1.2.2.2] := r59
      clear r54
      replace b51 := Zg b51 b57; replace b24 := Zg b24 b57; replace b21 := Zg b21 b57; replace r10 := Zd r10 b57; replace b7 := Zg b7 b57; replace r4 := Zd r4 b57; replace b1 := Zg b1 b57; replace q := Zg q b57; replace hok := Zo hok b57
      have r54 := r59
      clear r59
      refine ⟨hok, ?_⟩
      refine AA.pure 9 rfl hok (by kernel_rfl) (fun w' b' => R.assign rfl rfl) rfl rfl ?_
      refine AA.done rfl ?_
      clear fzr10 fzr4 hok
      refine EE.thenN ?_; refine Zr ?_; refine Zm ?_; refine Zt ?_; refine Zm ?_; refine Zf ?_; refine Zl r4 ?_
      refine LL.call (R.call rfl rfl rfl) rfl rfl rfl (within_T _ _ _ _ (by first | assumption | omega)) ?_
      rintro e W' ⟨rfl, rfl⟩
      refine ⟨_, rfl, ?_⟩; refine Zt ?_; refine Zp ?_
      refine LL.call (R.call rfl rfl rfl) rfl rfl rfl (refuse_F _) ?_
      rintro e W' ⟨rfl, rfl⟩
      refine ⟨_, rfl, ?_⟩; refine Zq ?_; refine Zc ?_
      refine CC.growT 15 (by kernel_rfl) (by kernel_rfl) ?_
      refine GG.val (fun w' b' => R.load rfl rfl (I.ldNc (vs := [Value.int IntKind.i64 1, Value.int IntKind.i64 l, Value.int IntKind.i64 z, Value.slice x n c, Value.int IntKind.i64 0, Value.int IntKind.i64 0, strV []]) (RowL.cells (r4.up b') rfl) (by rfl) (by rfl))) rfl rfl ?_
      refine GG.val (fun w' b' => R.field rfl rfl (I.fld rfl)) rfl rfl ?_
      refine GG.val (fun w' b' => R.load rfl rfl (I.ld1 rfl (RowL.cell (r54.up b') rfl))) rfl rfl ?_
      refine GG.val (fun w' b' => R.load rfl rfl (I.ldNc (vs := [Value.int IntKind.i64 1, Value.int IntKind.i64 l, Value.int IntKind.i64 z, Value.slice x n c, Value.int IntKind.i64 0, Value.int IntKind.i64 0, strV []]) (RowL.cells (r4.up b') rfl) (by rfl) (by rfl))) rfl rfl ?_
      refine GG.call (fun w' => (R.callV rfl rfl rfl rfl)) rfl rfl (fun w' b' => (nm1_any _ _ _ _ _ _ _ w' ⟨_, _, _, rfl⟩).mono fun e W' h => ⟨h.1, b'.trans (h.2.mono b'.size)⟩) ?_
      refine GG.call (fun w' => (R.call rfl rfl rfl)) rfl rfl (fun w' b' => (insame_any _ _ _ _ m _ _ _ _ _ _ _ m _ _ _ w' (hvF _ (q.trans (b'.mono q.size))) (hvF _ (q.trans (b'.mono q.size))) hlen hlen true hsm).mono fun e W' h => ⟨h.1, b'.trans (h.2.mono b'.size)⟩) ?_
      refine GG.val (fun w' b' => R.not rfl rfl) rfl rfl ?_
      refine GG.val (fun w' b' => R.move rfl rfl) rfl rfl ?_
      refine GG.val (fun w' b' => R.field rfl rfl (I.fld rfl)) rfl rfl ?_
      refine GG.val (fun w' b' => R.load rfl rfl (I.ld1 rfl (RowL.cell (r54.up b') rfl))) rfl rfl ?_
      refine GG.val (fun w' b' => R.load rfl rfl (I.ldNc (vs := [Value.int IntKind.i64 1, Value.int IntKind.i64 l, Value.int IntKind.i64 z, Value.slice x n c, Value.int IntKind.i64 0, Value.int IntKind.i64 0, strV []]) (RowL.cells (r4.up b') rfl) (by rfl) (by rfl))) rfl rfl ?_
      refine GG.val (fun w' b' => R.buildV rfl rfl (v := .agg #[Value.int IntKind.i64 1, Value.int IntKind.i64 l, Value.int IntKind.i64 z, Value.slice x n c, Value.int IntKind.i64 0, Value.int IntKind.i64 0, strV []]) (fun _ => by kernel_rfl)) rfl rfl ?_
      refine GG.call (fun w' => (R.callV rfl rfl rfl rfl)) rfl rfl (fun w' b' => (my1_any _ _ _ _ _ _ _ _ _ m w' (hvF _ (q.trans (b'.mono q.size))) hz hm false hbm).mono fun e W' h => ⟨h.1, b'.trans (h.2.mono b'.size)⟩) ?_
      refine GG.val (fun w' b' => R.not rfl rfl) rfl rfl ?_
      refine GG.val (fun w' b' => R.pick rfl rfl rfl) rfl rfl ?_
      refine GG.nil (fun W65 b64 => ?_)
      have zb64 := b64.size; replace b51 := Zu b51 b64; replace b24 := Zu b24 b64; replace b21 := Zu b21 b64; replace r10 := r10.up b64; replace b7 := Zu b7 b64; replace r4 := r4.up b64; replace b1 := Zu b1 b64; replace q := Zu q b64; replace r54 := r54.up b64
      refine LL.callP (R.call rfl rfl rfl) rfl rfl (refuse_T _) ?_
      rintro e W67 ⟨rfl, rfl⟩
      refine ⟨_, rfl, ?_⟩; refine EE.thenP ?_; refine EE.panM ?_
      exact ⟨rfl, q⟩
      have l68 := r10.lt; have l69 := r4.lt
      refine ZR.alloc ([Value.nilFunc, Value.nilFunc, Value.nilFunc, Value.nilFunc]) rfl rfl rfl rfl rfl rfl ?_
      intro W71 g72 eg72 r73 z74 b70
      replace b21 := Zu b21 b70; replace r10 := r10.up b70; replace b7 := Zu b7 b70; replace r4 := r4.up b70; replace b1 := Zu b1 b70; replace q := Zu q b70; replace hok := Zh hok b70; have y75 := hok.size
      refine ⟨hok, ?_⟩
      refine AA.one 0 (by kernel_rfl) ?_
      refine SR.call rfl (R.call rfl rfl rfl) rfl rfl (kinds_any _) ?_
      rintro e W77 ⟨g79, k80, rfl, h78, b76⟩
      have zb76 := b76.size; replace r73 := r73.up b76; replace b70 := Zu b70 b76; replace b21 := Zu b21 b76; replace r10 := r10.up b76; replace b7 := Zu b7 b76; replace r4 := r4.up b76; replace b1 := Zu b1 b76; replace q := Zu q b76; replace hok := Zh hok b76; have y81 := hok.size
      refine ⟨_, rfl, hok, ?_⟩
      refine AA.one 3 (by kernel_rfl) ?_
      (refine SR.val rfl (R.lookKT rfl rfl zKeys (by rfl) (z := kdZ) (by kernel_rfl) (by assumption) (1 : Int) rfl kF_1) rfl rfl hok ?_)
      refine AA.pure 4 rfl hok (by kernel_rfl) (fun w' b' => R.move rfl rfl) rfl rfl ?_
      refine AA.pure 5 rfl hok (by kernel_rfl) (fun w' b' => R.extract rfl rfl rfl) rfl rfl ?_
      refine AA.pure 6 rfl hok (by kernel_rfl) (fun w' b' => R.extract rfl rfl rfl) rfl rfl ?_
      refine AA.one 8 (by kernel_rfl) ?_
      refine ZR.storeN (vs := [fnV kd1.1, fnV kd1.2.1, fnV kd1.2.2.1, fnV kd1.2.2.2]) rfl rfl rfl rfl rfl r73 (by exact Nat.le_of_ble_eq_true rfl) (ones_of rfl) rfl rfl ?_
      intro W83 r84 b82 z85
      have hlb82 := r73.lt
      replace r84 : RowL W83 _ 68 [fnV kd1.1, fnV kd1.2.1, fnV kd1.2.2.1, fnV kd1.2.2.2] := r84
      clear r73
      replace b70 := Zg b70 b82; replace b21 := Zg b21 b82; replace r10 := Zd r10 b82; replace b7 := Zg b7 b82; replace r4 := Zd r4 b82; replace b1 := Zg b1 b82; replace q := Zg q b82; replace hok := Zo hok b82
      have r73 := r84
      clear r84
      refine ⟨hok, ?_⟩
      refine AA.pure 9 rfl hok (by kernel_rfl) (fun w' b' => R.assign rfl rfl) rfl rfl ?_
      refine AA.done rfl ?_
      clear fzr10 fzr4 hok
      refine EE.thenN ?_; refine Zr ?_; refine Zm ?_; refine Zt ?_; refine Zm ?_; refine Zf ?_; refine Zl r4 ?_
      refine LL.call (R.call rfl rfl rfl) rfl rfl rfl (within_T _ _ _ _ (by first | assumption | omega)) ?_
      rintro e W' ⟨rfl, rfl⟩
      refine ⟨_, rfl, ?_⟩; refine Zt ?_; refine Zp ?_
      refine LL.call (R.call rfl rfl rfl) rfl rfl rfl (refuse_F _) ?_
      rintro e W' ⟨rfl, rfl⟩
      refine ⟨_, rfl, ?_⟩; refine Zq ?_; refine Zc ?_
      refine CC.growT 15 (by kernel_rfl) (by kernel_rfl) ?_
      refine GG.val (fun w' b' => R.load rfl rfl (I.ldNc (vs := [Value.int IntKind.i64 1, Value.int IntKind.i64 l, Value.int IntKind.i64 z, Value.slice x n c, Value.int IntKind.i64 0, Value.int IntKind.i64 0, strV []]) (RowL.cells (r4.up b') rfl) (by rfl) (by rfl))) rfl rfl ?_
      refine GG.val (fun w' b' => R.field rfl rfl (I.fld rfl)) rfl rfl ?_
      refine GG.val (fun w' b' => R.load rfl rfl (I.ld1 rfl (RowL.cell (r73.up b') rfl))) rfl rfl ?_
      refine GG.val (fun w' b' => R.load rfl rfl (I.ldNc (vs := [Value.int IntKind.i64 1, Value.int IntKind.i64 l, Value.int IntKind.i64 z, Value.slice x n c, Value.int IntKind.i64 0, Value.int IntKind.i64 0, strV []]) (RowL.cells (r4.up b') rfl) (by rfl) (by rfl))) rfl rfl ?_
      refine GG.call (fun w' => (R.callV rfl rfl rfl rfl)) rfl rfl (fun w' b' => (nm1_any _ _ _ _ _ _ _ w' ⟨_, _, _, rfl⟩).mono fun e W' h => ⟨h.1, b'.trans (h.2.mono b'.size)⟩) ?_
      refine GG.call (fun w' => (R.call rfl rfl rfl)) rfl rfl (fun w' b' => (insame_any _ _ _ _ m _ _ _ _ _ _ _ m _ _ _ w' (hvF _ (q.trans (b'.mono q.size))) (hvF _ (q.trans (b'.mono q.size))) hlen hlen true hsm).mono fun e W' h => ⟨h.1, b'.trans (h.2.mono b'.size)⟩) ?_
      refine GG.val (fun w' b' => R.not rfl rfl) rfl rfl ?_
      refine GG.val (fun w' b' => R.move rfl rfl) rfl rfl ?_
      refine GG.val (fun w' b' => R.field rfl rfl (I.fld rfl)) rfl rfl ?_
      refine GG.val (fun w' b' => R.load rfl rfl (I.ld1 rfl (RowL.cell (r73.up b') rfl))) rfl rfl ?_
      refine GG.val (fun w' b' => R.load rfl rfl (I.ldNc (vs := [Value.int IntKind.i64 1, Value.int IntKind.i64 l, Value.int IntKind.i64 z, Value.slice x n c, Value.int IntKind.i64 0, Value.int IntKind.i64 0, strV []]) (RowL.cells (r4.up b') rfl) (by rfl) (by rfl))) rfl rfl ?_
      refine GG.val (fun w' b' => R.buildV rfl rfl (v := .agg #[Value.int IntKind.i64 1, Value.int IntKind.i64 l, Value.int IntKind.i64 z, Value.slice x n c, Value.int IntKind.i64 0, Value.int IntKind.i64 0, strV []]) (fun _ => by kernel_rfl)) rfl rfl ?_
      refine GG.call (fun w' => (R.callV rfl rfl rfl rfl)) rfl rfl (fun w' b' => (my1_any _ _ _ _ _ _ _ _ _ m w' (hvF _ (q.trans (b'.mono q.size))) hz hm false hbm).mono fun e W' h => ⟨h.1, b'.trans (h.2.mono b'.size)⟩) ?_
      refine GG.val (fun w' b' => R.not rfl rfl) rfl rfl ?_
      refine GG.val (fun w' b' => R.pick rfl rfl rfl) rfl rfl ?_
      refine GG.nil (fun W90 b89 => ?_)
      have zb89 := b89.size; replace b70 := Zu b70 b89; replace b21 := Zu b21 b89; replace r10 := r10.up b89; replace b7 := Zu b7 b89; replace r4 := r4.up b89; replace b1 := Zu b1 b89; replace q := Zu q b89; replace r73 := r73.up b89
      refine LL.callP (R.call rfl rfl rfl) rfl rfl (refuse_T _) ?_
      rintro e W92 ⟨rfl, rfl⟩
      refine ⟨_, rfl, ?_⟩; refine EE.thenP ?_; refine EE.panM ?_
      exact ⟨rfl, q⟩
    · have hbad : z < 0 ∨ 65536 < z ∨ ¬vL m := .inr (.inr hm)
      clear hn hm hz
      refine X.fnP Tryd.func29 rfl (n := 38) rfl rfl ?_
      refine Zr ?_
      refine LL.box [Value.int IntKind.i64 1, Value.int IntKind.i64 l, Value.int IntKind.i64 z, Value.slice x n c, Value.int IntKind.i64 0, Value.int IntKind.i64 0, strV []] rfl rfl rfl rfl rfl ?_
      intro Wa2 ga3 ega3 ra4 za5 ba1
      replace q := Zu q ba1; have la6 := ra4.lt
      refine LL.alloc ([Value.nilFunc, Value.nilFunc, Value.nilFunc, Value.nilFunc]) rfl rfl rfl rfl rfl ?_
      intro Wa8 ga9 ega9 ra10 za11 ba7
      replace ra4 := ra4.up ba7; replace ba1 := Zu ba1 ba7; replace q := Zu q ba7; refine Zq ?_; refine Zc ?_
      refine CC.freeZ (fun W_ j => j < W_.heap.size ∧ (True)) (by kernel_rfl) (by kernel_rfl) (fun Wa22 ba21 za23 => ?_)
      replace ra10 := ra10.up ba21; replace ba7 := Zu ba7 ba21; replace ra4 := ra4.up ba21; replace ba1 := Zu ba1 ba21; replace q := Zu q ba21
      have hok : Kept (fun j => j < Wa22.heap.size ∧ (True)) Wa22 Wa22 := Kept.refl _ _
      have fzra10 := fzRow (K := fun j => j < Wa22.heap.size ∧ (True)) ra10 ⟨ra10.lt, (by first | trivial | omega)⟩
      have fzra4 := fzRow (K := fun j => j < Wa22.heap.size ∧ (True)) ra4 ⟨ra4.lt, (by first | trivial | omega)⟩
      refine AA.pure 1 rfl hok (by kernel_rfl) (fun w' b' => R.field rfl rfl (I.fld rfl)) rfl rfl ?_
      refine AA.pure 2 rfl hok (by kernel_rfl) (fun w' b' => R.load rfl rfl (I.ld1 rfl (RowL.cell (fzra4 w' b') rfl))) rfl rfl ?_
      refine AA.two 0 7 (by kernel_rfl) ?_ ?_
      refine SR.call rfl (R.call rfl rfl rfl) rfl rfl (kinds_any _) ?_
      rintro e Wa25 ⟨ga27, ka28, rfl, ha26, ba24⟩
      have zba24 := ba24.size; replace ba21 := Zu ba21 ba24; replace ra10 := ra10.up ba24; replace ba7 := Zu ba7 ba24; replace ra4 := ra4.up ba24; replace ba1 := Zu ba1 ba24; replace q := Zu q ba24; replace hok := Zh hok ba24; have ya29 := hok.size
      refine ⟨_, rfl, hok, ?_⟩
      refine AA.two 3 7 (by kernel_rfl) ?_ ?_
      (refine SR.val rfl (R.lookKT rfl rfl zKeys (by rfl) (z := kdZ) (by kernel_rfl) (by assumption) (1 : Int) rfl kF_1) rfl rfl hok ?_)
      refine AA.pure 4 rfl hok (by kernel_rfl) (fun w' b' => R.move rfl rfl) rfl rfl ?_
      refine AA.pure 5 rfl hok (by kernel_rfl) (fun w' b' => R.extract rfl rfl rfl) rfl rfl ?_
      refine AA.pure 6 rfl hok (by kernel_rfl) (fun w' b' => R.extract rfl rfl rfl) rfl rfl ?_
      refine AA.one 7 (by kernel_rfl) ?_
      have la30 := ra10.lt; have la31 := ra4.lt
      refine ZR.alloc ([Value.nilFunc, Value.nilFunc, Value.nilFunc, Value.nilFunc]) rfl rfl rfl rfl rfl rfl ?_
      intro Wa33 ga34 ega34 ra35 za36 ba32
      replace ha26 := ha26.up ba32; replace ba24 := Zu ba24 ba32; replace ba21 := Zu ba21 ba32; replace ra10 := ra10.up ba32; replace ba7 := Zu ba7 ba32; replace ra4 := ra4.up ba32; replace ba1 := Zu ba1 ba32; replace q := Zu q ba32; replace hok := Zh hok ba32; have ya37 := hok.size
      refine ⟨hok, ?_⟩
      refine AA.one 8 (by kernel_rfl) ?_
      refine ZR.storeN (vs := [fnV kd1.1, fnV kd1.2.1, fnV kd1.2.2.1, fnV kd1.2.2.2]) rfl rfl rfl rfl rfl ra35 (by exact Nat.le_of_ble_eq_true rfl) (ones_of rfl) rfl rfl ?_
      intro Wa39 ra40 ba38 za41
      have hlba38 := ra35.lt
      replace ra40 : RowL Wa39 _ 68 [fnV kd1.1, fnV kd1.2.1, fnV kd1.2.2.1, fnV kd1.2.2.2] := ra40
      clear ra35
      replace ba32 := Zg ba32 ba38; replace ba24 := Zg ba24 ba38; replace ba21 := Zg ba21 ba38; replace ra10 := Zd ra10 ba38; replace ba7 := Zg ba7 ba38; replace ra4 := Zd ra4 ba38; replace ba1 := Zg ba1 ba38; replace q := Zg q ba38; replace hok := Zo hok ba38
      have ra35 := ra40
      clear ra40
      refine ⟨hok, ?_⟩
      refine AA.pure 9 rfl hok (by kernel_rfl) (fun w' b' => R.assign rfl rfl) rfl rfl ?_
      refine AA.done rfl ?_
      clear fzra10 fzra4 hok
      refine EE.thenN ?_; refine Zr ?_; refine Zm ?_; refine Zt ?_; refine Zm ?_; refine Zf ?_; refine Zl ra4 ?_
      refine LL.call (R.call rfl rfl rfl) rfl rfl rfl (within_T _ _ _ _ (by first | assumption | omega)) ?_
      rintro e W' ⟨rfl, rfl⟩
      refine ⟨_, rfl, ?_⟩; refine Zt ?_; refine Zp ?_
      refine LL.call (R.call rfl rfl rfl) rfl rfl rfl (refuse_F _) ?_
      rintro e W' ⟨rfl, rfl⟩
      refine ⟨_, rfl, ?_⟩; refine Zq ?_; refine Zc ?_
      refine CC.growT 15 (by kernel_rfl) (by kernel_rfl) ?_
      refine GG.val (fun w' b' => R.load rfl rfl (I.ldNc (vs := [Value.int IntKind.i64 1, Value.int IntKind.i64 l, Value.int IntKind.i64 z, Value.slice x n c, Value.int IntKind.i64 0, Value.int IntKind.i64 0, strV []]) (RowL.cells (ra4.up b') rfl) (by rfl) (by rfl))) rfl rfl ?_
      refine GG.val (fun w' b' => R.field rfl rfl (I.fld rfl)) rfl rfl ?_
      refine GG.val (fun w' b' => R.load rfl rfl (I.ld1 rfl (RowL.cell (ra35.up b') rfl))) rfl rfl ?_
      refine GG.val (fun w' b' => R.load rfl rfl (I.ldNc (vs := [Value.int IntKind.i64 1, Value.int IntKind.i64 l, Value.int IntKind.i64 z, Value.slice x n c, Value.int IntKind.i64 0, Value.int IntKind.i64 0, strV []]) (RowL.cells (ra4.up b') rfl) (by rfl) (by rfl))) rfl rfl ?_
      refine GG.call (fun w' => (R.callV rfl rfl rfl rfl)) rfl rfl (fun w' b' => (nm1_any _ _ _ _ _ _ _ w' ⟨_, _, _, rfl⟩).mono fun e W' h => ⟨h.1, b'.trans (h.2.mono b'.size)⟩) ?_
      refine GG.call (fun w' => (R.call rfl rfl rfl)) rfl rfl (fun w' b' => (insame_any _ _ _ _ m _ _ _ _ _ _ _ m _ _ _ w' (hvF _ (q.trans (b'.mono q.size))) (hvF _ (q.trans (b'.mono q.size))) hlen hlen true hsm).mono fun e W' h => ⟨h.1, b'.trans (h.2.mono b'.size)⟩) ?_
      refine GG.val (fun w' b' => R.not rfl rfl) rfl rfl ?_
      refine GG.val (fun w' b' => R.move rfl rfl) rfl rfl ?_
      refine GG.val (fun w' b' => R.field rfl rfl (I.fld rfl)) rfl rfl ?_
      refine GG.val (fun w' b' => R.load rfl rfl (I.ld1 rfl (RowL.cell (ra35.up b') rfl))) rfl rfl ?_
      refine GG.val (fun w' b' => R.load rfl rfl (I.ldNc (vs := [Value.int IntKind.i64 1, Value.int IntKind.i64 l, Value.int IntKind.i64 z, Value.slice x n c, Value.int IntKind.i64 0, Value.int IntKind.i64 0, strV []]) (RowL.cells (ra4.up b') rfl) (by rfl) (by rfl))) rfl rfl ?_
      refine GG.val (fun w' b' => R.buildV rfl rfl (v := .agg #[Value.int IntKind.i64 1, Value.int IntKind.i64 l, Value.int IntKind.i64 z, Value.slice x n c, Value.int IntKind.i64 0, Value.int IntKind.i64 0, strV []]) (fun _ => by kernel_rfl)) rfl rfl ?_
      refine GG.call (fun w' => (R.callV rfl rfl rfl rfl)) rfl rfl (fun w' b' => (my1_bad _ _ _ _ _ _ _ _ _ m w' (hvF _ (q.trans (b'.mono q.size))) hlen hbad).mono fun e W' h => ⟨h.1, b'.trans (h.2.mono b'.size)⟩) ?_
      refine GG.val (fun w' b' => R.not rfl rfl) rfl rfl ?_
      refine GG.val (fun w' b' => R.pick rfl rfl rfl) rfl rfl ?_
      refine GG.nil (fun Wa46 ba45 => ?_)
      have zba45 := ba45.size; replace ba32 := Zu ba32 ba45; replace ba24 := Zu ba24 ba45; replace ba21 := Zu ba21 ba45; replace ra10 := ra10.up ba45; replace ba7 := Zu ba7 ba45; replace ra4 := ra4.up ba45; replace ba1 := Zu ba1 ba45; replace q := Zu q ba45; replace ra35 := ra35.up ba45
      refine LL.callP (R.call rfl rfl rfl) rfl rfl (refuse_T _) ?_
      rintro e Wa48 ⟨rfl, rfl⟩
      refine ⟨_, rfl, ?_⟩; refine EE.thenP ?_; refine EE.panM ?_
      exact ⟨rfl, q⟩
      have la49 := ra10.lt; have la50 := ra4.lt
      refine ZR.alloc ([Value.nilFunc, Value.nilFunc, Value.nilFunc, Value.nilFunc]) rfl rfl rfl rfl rfl rfl ?_
      intro Wa52 ga53 ega53 ra54 za55 ba51
      replace ha26 := ha26.up ba51; replace ba24 := Zu ba24 ba51; replace ba21 := Zu ba21 ba51; replace ra10 := ra10.up ba51; replace ba7 := Zu ba7 ba51; replace ra4 := ra4.up ba51; replace ba1 := Zu ba1 ba51; replace q := Zu q ba51; replace hok := Zh hok ba51; have ya56 := hok.size
      refine ⟨hok, ?_⟩
      refine AA.one 3 (by kernel_rfl) ?_
      (refine SR.val rfl (R.lookKT rfl rfl zKeys (by rfl) (z := kdZ) (by kernel_rfl) (by assumption) (1 : Int) rfl kF_1) rfl rfl hok ?_)
      refine AA.pure 4 rfl hok (by kernel_rfl) (fun w' b' => R.move rfl rfl) rfl rfl ?_
      refine AA.pure 5 rfl hok (by kernel_rfl) (fun w' b' => R.extract rfl rfl rfl) rfl rfl ?_
      refine AA.pure 6 rfl hok (by kernel_rfl) (fun w' b' => R.extract rfl rfl rfl) rfl rfl ?_
      refine AA.one 8 (by kernel_rfl) ?_
      refine ZR.storeN (vs := [fnV kd1.1, fnV kd1.2.1, fnV kd1.2.2.1, fnV kd1.2.2.2]) rfl rfl rfl rfl rfl ra54 (by exact Nat.le_of_ble_eq_true rfl) (ones_of rfl) rfl rfl ?_
      intro Wa58 ra59 ba57 za60
      have hlba57 := ra54.lt
      replace ra59 : RowL Wa58 _ 68 [fnV kd1.1, fnV kd1.2.1, fnV kd1.2.2.1, fnV kd1.2.2.2] := ra59
      clear ra54
      replace ba51 := Zg ba51 ba57; replace ba24 := Zg ba24 ba57; replace ba21 := Zg ba21 ba57; replace ra10 := Zd ra10 ba57; replace ba7 := Zg ba7 ba57; replace ra4 := Zd ra4 ba57; replace ba1 := Zg ba1 ba57; replace q := Zg q ba57; replace hok := Zo hok ba57
      have ra54 := ra59
      clear ra59
      refine ⟨hok, ?_⟩
      refine AA.pure 9 rfl hok (by kernel_rfl) (fun w' b' => R.assign rfl rfl) rfl rfl ?_
      refine AA.done rfl ?_
      clear fzra10 fzra4 hok
      refine EE.thenN ?_; refine Zr ?_; refine Zm ?_; refine Zt ?_; refine Zm ?_; refine Zf ?_; refine Zl ra4 ?_
      refine LL.call (R.call rfl rfl rfl) rfl rfl rfl (within_T _ _ _ _ (by first | assumption | omega)) ?_
      rintro e W' ⟨rfl, rfl⟩
      refine ⟨_, rfl, ?_⟩; refine Zt ?_; refine Zp ?_
      refine LL.call (R.call rfl rfl rfl) rfl rfl rfl (refuse_F _) ?_
      rintro e W' ⟨rfl, rfl⟩
      refine ⟨_, rfl, ?_⟩; refine Zq ?_; refine Zc ?_
      refine CC.growT 15 (by kernel_rfl) (by kernel_rfl) ?_
      refine GG.val (fun w' b' => R.load rfl rfl (I.ldNc (vs := [Value.int IntKind.i64 1, Value.int IntKind.i64 l, Value.int IntKind.i64 z, Value.slice x n c, Value.int IntKind.i64 0, Value.int IntKind.i64 0, strV []]) (RowL.cells (ra4.up b') rfl) (by rfl) (by rfl))) rfl rfl ?_
      refine GG.val (fun w' b' => R.field rfl rfl (I.fld rfl)) rfl rfl ?_
      refine GG.val (fun w' b' => R.load rfl rfl (I.ld1 rfl (RowL.cell (ra54.up b') rfl))) rfl rfl ?_
      refine GG.val (fun w' b' => R.load rfl rfl (I.ldNc (vs := [Value.int IntKind.i64 1, Value.int IntKind.i64 l, Value.int IntKind.i64 z, Value.slice x n c, Value.int IntKind.i64 0, Value.int IntKind.i64 0, strV []]) (RowL.cells (ra4.up b') rfl) (by rfl) (by rfl))) rfl rfl ?_
      refine GG.call (fun w' => (R.callV rfl rfl rfl rfl)) rfl rfl (fun w' b' => (nm1_any _ _ _ _ _ _ _ w' ⟨_, _, _, rfl⟩).mono fun e W' h => ⟨h.1, b'.trans (h.2.mono b'.size)⟩) ?_
      refine GG.call (fun w' => (R.call rfl rfl rfl)) rfl rfl (fun w' b' => (insame_any _ _ _ _ m _ _ _ _ _ _ _ m _ _ _ w' (hvF _ (q.trans (b'.mono q.size))) (hvF _ (q.trans (b'.mono q.size))) hlen hlen true hsm).mono fun e W' h => ⟨h.1, b'.trans (h.2.mono b'.size)⟩) ?_
      refine GG.val (fun w' b' => R.not rfl rfl) rfl rfl ?_
      refine GG.val (fun w' b' => R.move rfl rfl) rfl rfl ?_
      refine GG.val (fun w' b' => R.field rfl rfl (I.fld rfl)) rfl rfl ?_
      refine GG.val (fun w' b' => R.load rfl rfl (I.ld1 rfl (RowL.cell (ra54.up b') rfl))) rfl rfl ?_
      refine GG.val (fun w' b' => R.load rfl rfl (I.ldNc (vs := [Value.int IntKind.i64 1, Value.int IntKind.i64 l, Value.int IntKind.i64 z, Value.slice x n c, Value.int IntKind.i64 0, Value.int IntKind.i64 0, strV []]) (RowL.cells (ra4.up b') rfl) (by rfl) (by rfl))) rfl rfl ?_
      refine GG.val (fun w' b' => R.buildV rfl rfl (v := .agg #[Value.int IntKind.i64 1, Value.int IntKind.i64 l, Value.int IntKind.i64 z, Value.slice x n c, Value.int IntKind.i64 0, Value.int IntKind.i64 0, strV []]) (fun _ => by kernel_rfl)) rfl rfl ?_
      refine GG.call (fun w' => (R.callV rfl rfl rfl rfl)) rfl rfl (fun w' b' => (my1_bad _ _ _ _ _ _ _ _ _ m w' (hvF _ (q.trans (b'.mono q.size))) hlen hbad).mono fun e W' h => ⟨h.1, b'.trans (h.2.mono b'.size)⟩) ?_
      refine GG.val (fun w' b' => R.not rfl rfl) rfl rfl ?_
      refine GG.val (fun w' b' => R.pick rfl rfl rfl) rfl rfl ?_
      refine GG.nil (fun Wa65 ba64 => ?_)
      have zba64 := ba64.size; replace ba51 := Zu ba51 ba64; replace ba24 := Zu ba24 ba64; replace ba21 := Zu ba21 ba64; replace ra10 := ra10.up ba64; replace ba7 := Zu ba7 ba64; replace ra4 := ra4.up ba64; replace ba1 := Zu ba1 ba64; replace q := Zu q ba64; replace ra54 := ra54.up ba64
      refine LL.callP (R.call rfl rfl rfl) rfl rfl (refuse_T _) ?_
      rintro e Wa67 ⟨rfl, rfl⟩
      refine ⟨_, rfl, ?_⟩; refine EE.thenP ?_; refine EE.panM ?_
      exact ⟨rfl, q⟩
      have la68 := ra10.lt; have la69 := ra4.lt
      refine ZR.alloc ([Value.nilFunc, Value.nilFunc, Value.nilFunc, Value.nilFunc]) rfl rfl rfl rfl rfl rfl ?_
      intro Wa71 ga72 ega72 ra73 za74 ba70
      replace ba21 := Zu ba21 ba70; replace ra10 := ra10.up ba70; replace ba7 := Zu ba7 ba70; replace ra4 := ra4.up ba70; replace ba1 := Zu ba1 ba70; replace q := Zu q ba70; replace hok := Zh hok ba70; have ya75 := hok.size
      refine ⟨hok, ?_⟩
      refine AA.one 0 (by kernel_rfl) ?_
      refine SR.call rfl (R.call rfl rfl rfl) rfl rfl (kinds_any _) ?_
      rintro e Wa77 ⟨ga79, ka80, rfl, ha78, ba76⟩
      have zba76 := ba76.size; replace ra73 := ra73.up ba76; replace ba70 := Zu ba70 ba76; replace ba21 := Zu ba21 ba76; replace ra10 := ra10.up ba76; replace ba7 := Zu ba7 ba76; replace ra4 := ra4.up ba76; replace ba1 := Zu ba1 ba76; replace q := Zu q ba76; replace hok := Zh hok ba76; have ya81 := hok.size
      refine ⟨_, rfl, hok, ?_⟩
      refine AA.one 3 (by kernel_rfl) ?_
      (refine SR.val rfl (R.lookKT rfl rfl zKeys (by rfl) (z := kdZ) (by kernel_rfl) (by assumption) (1 : Int) rfl kF_1) rfl rfl hok ?_)
      refine AA.pure 4 rfl hok (by kernel_rfl) (fun w' b' => R.move rfl rfl) rfl rfl ?_
      refine AA.pure 5 rfl hok (by kernel_rfl) (fun w' b' => R.extract rfl rfl rfl) rfl rfl ?_
      refine AA.pure 6 rfl hok (by kernel_rfl) (fun w' b' => R.extract rfl rfl rfl) rfl rfl ?_
      refine AA.one 8 (by kernel_rfl) ?_
      refine ZR.storeN (vs := [fnV kd1.1, fnV kd1.2.1, fnV kd1.2.2.1, fnV kd1.2.2.2]) rfl rfl rfl rfl rfl ra73 (by exact Nat.le_of_ble_eq_true rfl) (ones_of rfl) rfl rfl ?_
      intro Wa83 ra84 ba82 za85
      have hlba82 := ra73.lt
      replace ra84 : RowL Wa83 _ 68 [fnV kd1.1, fnV kd1.2.1, fnV kd1.2.2.1, fnV kd1.2.2.2] := ra84
      clear ra73
      replace ba70 := Zg ba70 ba82; replace ba21 := Zg ba21 ba82; replace ra10 := Zd ra10 ba82; replace ba7 := Zg ba7 ba82; replace ra4 := Zd ra4 ba82; replace ba1 := Zg ba1 ba82; replace q := Zg q ba82; replace hok := Zo hok ba82
      have ra73 := ra84
      clear ra84
      refine ⟨hok, ?_⟩
      refine AA.pure 9 rfl hok (by kernel_rfl) (fun w' b' => R.assign rfl rfl) rfl rfl ?_
      refine AA.done rfl ?_
      clear fzra10 fzra4 hok
      refine EE.thenN ?_; refine Zr ?_; refine Zm ?_; refine Zt ?_; refine Zm ?_; refine Zf ?_; refine Zl ra4 ?_
      refine LL.call (R.call rfl rfl rfl) rfl rfl rfl (within_T _ _ _ _ (by first | assumption | omega)) ?_
      rintro e W' ⟨rfl, rfl⟩
      refine ⟨_, rfl, ?_⟩; refine Zt ?_; refine Zp ?_
      refine LL.call (R.call rfl rfl rfl) rfl rfl rfl (refuse_F _) ?_
      rintro e W' ⟨rfl, rfl⟩
      refine ⟨_, rfl, ?_⟩; refine Zq ?_; refine Zc ?_
      refine CC.growT 15 (by kernel_rfl) (by kernel_rfl) ?_
      refine GG.val (fun w' b' => R.load rfl rfl (I.ldNc (vs := [Value.int IntKind.i64 1, Value.int IntKind.i64 l, Value.int IntKind.i64 z, Value.slice x n c, Value.int IntKind.i64 0, Value.int IntKind.i64 0, strV []]) (RowL.cells (ra4.up b') rfl) (by rfl) (by rfl))) rfl rfl ?_
      refine GG.val (fun w' b' => R.field rfl rfl (I.fld rfl)) rfl rfl ?_
      refine GG.val (fun w' b' => R.load rfl rfl (I.ld1 rfl (RowL.cell (ra73.up b') rfl))) rfl rfl ?_
      refine GG.val (fun w' b' => R.load rfl rfl (I.ldNc (vs := [Value.int IntKind.i64 1, Value.int IntKind.i64 l, Value.int IntKind.i64 z, Value.slice x n c, Value.int IntKind.i64 0, Value.int IntKind.i64 0, strV []]) (RowL.cells (ra4.up b') rfl) (by rfl) (by rfl))) rfl rfl ?_
      refine GG.call (fun w' => (R.callV rfl rfl rfl rfl)) rfl rfl (fun w' b' => (nm1_any _ _ _ _ _ _ _ w' ⟨_, _, _, rfl⟩).mono fun e W' h => ⟨h.1, b'.trans (h.2.mono b'.size)⟩) ?_
      refine GG.call (fun w' => (R.call rfl rfl rfl)) rfl rfl (fun w' b' => (insame_any _ _ _ _ m _ _ _ _ _ _ _ m _ _ _ w' (hvF _ (q.trans (b'.mono q.size))) (hvF _ (q.trans (b'.mono q.size))) hlen hlen true hsm).mono fun e W' h => ⟨h.1, b'.trans (h.2.mono b'.size)⟩) ?_
      refine GG.val (fun w' b' => R.not rfl rfl) rfl rfl ?_
      refine GG.val (fun w' b' => R.move rfl rfl) rfl rfl ?_
      refine GG.val (fun w' b' => R.field rfl rfl (I.fld rfl)) rfl rfl ?_
      refine GG.val (fun w' b' => R.load rfl rfl (I.ld1 rfl (RowL.cell (ra73.up b') rfl))) rfl rfl ?_
      refine GG.val (fun w' b' => R.load rfl rfl (I.ldNc (vs := [Value.int IntKind.i64 1, Value.int IntKind.i64 l, Value.int IntKind.i64 z, Value.slice x n c, Value.int IntKind.i64 0, Value.int IntKind.i64 0, strV []]) (RowL.cells (ra4.up b') rfl) (by rfl) (by rfl))) rfl rfl ?_
      refine GG.val (fun w' b' => R.buildV rfl rfl (v := .agg #[Value.int IntKind.i64 1, Value.int IntKind.i64 l, Value.int IntKind.i64 z, Value.slice x n c, Value.int IntKind.i64 0, Value.int IntKind.i64 0, strV []]) (fun _ => by kernel_rfl)) rfl rfl ?_
      refine GG.call (fun w' => (R.callV rfl rfl rfl rfl)) rfl rfl (fun w' b' => (my1_bad _ _ _ _ _ _ _ _ _ m w' (hvF _ (q.trans (b'.mono q.size))) hlen hbad).mono fun e W' h => ⟨h.1, b'.trans (h.2.mono b'.size)⟩) ?_
      refine GG.val (fun w' b' => R.not rfl rfl) rfl rfl ?_
      refine GG.val (fun w' b' => R.pick rfl rfl rfl) rfl rfl ?_
      refine GG.nil (fun Wa90 ba89 => ?_)
      have zba89 := ba89.size; replace ba70 := Zu ba70 ba89; replace ba21 := Zu ba21 ba89; replace ra10 := ra10.up ba89; replace ba7 := Zu ba7 ba89; replace ra4 := ra4.up ba89; replace ba1 := Zu ba1 ba89; replace q := Zu q ba89; replace ra73 := ra73.up ba89
      refine LL.callP (R.call rfl rfl rfl) rfl rfl (refuse_T _) ?_
      rintro e Wa92 ⟨rfl, rfl⟩
      refine ⟨_, rfl, ?_⟩; refine EE.thenP ?_; refine EE.panM ?_
      exact ⟨rfl, q⟩
  · have hbad : z < 0 ∨ 65536 < z ∨ ¬vL m := by omega
    clear hn hz
    refine X.fnP Tryd.func29 rfl (n := 38) rfl rfl ?_
    refine Zr ?_
    refine LL.box [Value.int IntKind.i64 1, Value.int IntKind.i64 l, Value.int IntKind.i64 z, Value.slice x n c, Value.int IntKind.i64 0, Value.int IntKind.i64 0, strV []] rfl rfl rfl rfl rfl ?_
    intro Wb2 gb3 egb3 rb4 zb5 bb1
    replace q := Zu q bb1; have lb6 := rb4.lt
    refine LL.alloc ([Value.nilFunc, Value.nilFunc, Value.nilFunc, Value.nilFunc]) rfl rfl rfl rfl rfl ?_
    intro Wb8 gb9 egb9 rb10 zb11 bb7
    replace rb4 := rb4.up bb7; replace bb1 := Zu bb1 bb7; replace q := Zu q bb7; refine Zq ?_; refine Zc ?_
    refine CC.freeZ (fun W_ j => j < W_.heap.size ∧ (True)) (by kernel_rfl) (by kernel_rfl) (fun Wb22 bb21 zb23 => ?_)
    replace rb10 := rb10.up bb21; replace bb7 := Zu bb7 bb21; replace rb4 := rb4.up bb21; replace bb1 := Zu bb1 bb21; replace q := Zu q bb21
    have hok : Kept (fun j => j < Wb22.heap.size ∧ (True)) Wb22 Wb22 := Kept.refl _ _
    have fzrb10 := fzRow (K := fun j => j < Wb22.heap.size ∧ (True)) rb10 ⟨rb10.lt, (by first | trivial | omega)⟩
    have fzrb4 := fzRow (K := fun j => j < Wb22.heap.size ∧ (True)) rb4 ⟨rb4.lt, (by first | trivial | omega)⟩
    refine AA.pure 1 rfl hok (by kernel_rfl) (fun w' b' => R.field rfl rfl (I.fld rfl)) rfl rfl ?_
    refine AA.pure 2 rfl hok (by kernel_rfl) (fun w' b' => R.load rfl rfl (I.ld1 rfl (RowL.cell (fzrb4 w' b') rfl))) rfl rfl ?_
    refine AA.two 0 7 (by kernel_rfl) ?_ ?_
    refine SR.call rfl (R.call rfl rfl rfl) rfl rfl (kinds_any _) ?_
    rintro e Wb25 ⟨gb27, kb28, rfl, hb26, bb24⟩
    have zbb24 := bb24.size; replace bb21 := Zu bb21 bb24; replace rb10 := rb10.up bb24; replace bb7 := Zu bb7 bb24; replace rb4 := rb4.up bb24; replace bb1 := Zu bb1 bb24; replace q := Zu q bb24; replace hok := Zh hok bb24; have yb29 := hok.size
    refine ⟨_, rfl, hok, ?_⟩
    refine AA.two 3 7 (by kernel_rfl) ?_ ?_
    (refine SR.val rfl (R.lookKT rfl rfl zKeys (by rfl) (z := kdZ) (by kernel_rfl) (by assumption) (1 : Int) rfl kF_1) rfl rfl hok ?_)
    refine AA.pure 4 rfl hok (by kernel_rfl) (fun w' b' => R.move rfl rfl) rfl rfl ?_
    refine AA.pure 5 rfl hok (by kernel_rfl) (fun w' b' => R.extract rfl rfl rfl) rfl rfl ?_
    refine AA.pure 6 rfl hok (by kernel_rfl) (fun w' b' => R.extract rfl rfl rfl) rfl rfl ?_
    refine AA.one 7 (by kernel_rfl) ?_
    have lb30 := rb10.lt; have lb31 := rb4.lt
    refine ZR.alloc ([Value.nilFunc, Value.nilFunc, Value.nilFunc, Value.nilFunc]) rfl rfl rfl rfl rfl rfl ?_
    intro Wb33 gb34 egb34 rb35 zb36 bb32
    replace hb26 := hb26.up bb32; replace bb24 := Zu bb24 bb32; replace bb21 := Zu bb21 bb32; replace rb10 := rb10.up bb32; replace bb7 := Zu bb7 bb32; replace rb4 := rb4.up bb32; replace bb1 := Zu bb1 bb32; replace q := Zu q bb32; replace hok := Zh hok bb32; have yb37 := hok.size
    refine ⟨hok, ?_⟩
    refine AA.one 8 (by kernel_rfl) ?_
    refine ZR.storeN (vs := [fnV kd1.1, fnV kd1.2.1, fnV kd1.2.2.1, fnV kd1.2.2.2]) rfl rfl rfl rfl rfl rb35 (by exact Nat.le_of_ble_eq_true rfl) (ones_of rfl) rfl rfl ?_
    intro Wb39 rb40 bb38 zb41
    have hlbb38 := rb35.lt
    replace rb40 : RowL Wb39 _ 68 [fnV kd1.1, fnV kd1.2.1, fnV kd1.2.2.1, fnV kd1.2.2.2] := rb40
    clear rb35
    replace bb32 := Zg bb32 bb38; replace bb24 := Zg bb24 bb38; replace bb21 := Zg bb21 bb38; replace rb10 := Zd rb10 bb38; replace bb7 := Zg bb7 bb38; replace rb4 := Zd rb4 bb38; replace bb1 := Zg bb1 bb38; replace q := Zg q bb38; replace hok := Zo hok bb38
    have rb35 := rb40
    clear rb40
    refine ⟨hok, ?_⟩
    refine AA.pure 9 rfl hok (by kernel_rfl) (fun w' b' => R.assign rfl rfl) rfl rfl ?_
    refine AA.done rfl ?_
    clear fzrb10 fzrb4 hok
    refine EE.thenN ?_; refine Zr ?_; refine Zm ?_; refine Zt ?_; refine Zm ?_; refine Zf ?_; refine Zl rb4 ?_
    refine LL.call (R.call rfl rfl rfl) rfl rfl rfl (within_T _ _ _ _ (by first | assumption | omega)) ?_
    rintro e W' ⟨rfl, rfl⟩
    refine ⟨_, rfl, ?_⟩; refine Zt ?_; refine Zp ?_
    refine LL.call (R.call rfl rfl rfl) rfl rfl rfl (refuse_F _) ?_
    rintro e W' ⟨rfl, rfl⟩
    refine ⟨_, rfl, ?_⟩; refine Zq ?_; refine Zc ?_
    refine CC.growT 15 (by kernel_rfl) (by kernel_rfl) ?_
    refine GG.val (fun w' b' => R.load rfl rfl (I.ldNc (vs := [Value.int IntKind.i64 1, Value.int IntKind.i64 l, Value.int IntKind.i64 z, Value.slice x n c, Value.int IntKind.i64 0, Value.int IntKind.i64 0, strV []]) (RowL.cells (rb4.up b') rfl) (by rfl) (by rfl))) rfl rfl ?_
    refine GG.val (fun w' b' => R.field rfl rfl (I.fld rfl)) rfl rfl ?_
    refine GG.val (fun w' b' => R.load rfl rfl (I.ld1 rfl (RowL.cell (rb35.up b') rfl))) rfl rfl ?_
    refine GG.val (fun w' b' => R.load rfl rfl (I.ldNc (vs := [Value.int IntKind.i64 1, Value.int IntKind.i64 l, Value.int IntKind.i64 z, Value.slice x n c, Value.int IntKind.i64 0, Value.int IntKind.i64 0, strV []]) (RowL.cells (rb4.up b') rfl) (by rfl) (by rfl))) rfl rfl ?_
    refine GG.call (fun w' => (R.callV rfl rfl rfl rfl)) rfl rfl (fun w' b' => (nm1_any _ _ _ _ _ _ _ w' ⟨_, _, _, rfl⟩).mono fun e W' h => ⟨h.1, b'.trans (h.2.mono b'.size)⟩) ?_
    refine GG.call (fun w' => (R.call rfl rfl rfl)) rfl rfl (fun w' b' => (insame_any _ _ _ _ m _ _ _ _ _ _ _ m _ _ _ w' (hvF _ (q.trans (b'.mono q.size))) (hvF _ (q.trans (b'.mono q.size))) hlen hlen true hsm).mono fun e W' h => ⟨h.1, b'.trans (h.2.mono b'.size)⟩) ?_
    refine GG.val (fun w' b' => R.not rfl rfl) rfl rfl ?_
    refine GG.val (fun w' b' => R.move rfl rfl) rfl rfl ?_
    refine GG.val (fun w' b' => R.field rfl rfl (I.fld rfl)) rfl rfl ?_
    refine GG.val (fun w' b' => R.load rfl rfl (I.ld1 rfl (RowL.cell (rb35.up b') rfl))) rfl rfl ?_
    refine GG.val (fun w' b' => R.load rfl rfl (I.ldNc (vs := [Value.int IntKind.i64 1, Value.int IntKind.i64 l, Value.int IntKind.i64 z, Value.slice x n c, Value.int IntKind.i64 0, Value.int IntKind.i64 0, strV []]) (RowL.cells (rb4.up b') rfl) (by rfl) (by rfl))) rfl rfl ?_
    refine GG.val (fun w' b' => R.buildV rfl rfl (v := .agg #[Value.int IntKind.i64 1, Value.int IntKind.i64 l, Value.int IntKind.i64 z, Value.slice x n c, Value.int IntKind.i64 0, Value.int IntKind.i64 0, strV []]) (fun _ => by kernel_rfl)) rfl rfl ?_
    refine GG.call (fun w' => (R.callV rfl rfl rfl rfl)) rfl rfl (fun w' b' => (my1_bad _ _ _ _ _ _ _ _ _ m w' (hvF _ (q.trans (b'.mono q.size))) hlen hbad).mono fun e W' h => ⟨h.1, b'.trans (h.2.mono b'.size)⟩) ?_
    refine GG.val (fun w' b' => R.not rfl rfl) rfl rfl ?_
    refine GG.val (fun w' b' => R.pick rfl rfl rfl) rfl rfl ?_
    refine GG.nil (fun Wb46 bb45 => ?_)
    have zbb45 := bb45.size; replace bb32 := Zu bb32 bb45; replace bb24 := Zu bb24 bb45; replace bb21 := Zu bb21 bb45; replace rb10 := rb10.up bb45; replace bb7 := Zu bb7 bb45; replace rb4 := rb4.up bb45; replace bb1 := Zu bb1 bb45; replace q := Zu q bb45; replace rb35 := rb35.up bb45
    refine LL.callP (R.call rfl rfl rfl) rfl rfl (refuse_T _) ?_
    rintro e Wb48 ⟨rfl, rfl⟩
    refine ⟨_, rfl, ?_⟩; refine EE.thenP ?_; refine EE.panM ?_
    exact ⟨rfl, q⟩
    have lb49 := rb10.lt; have lb50 := rb4.lt
    refine ZR.alloc ([Value.nilFunc, Value.nilFunc, Value.nilFunc, Value.nilFunc]) rfl rfl rfl rfl rfl rfl ?_
    intro Wb52 gb53 egb53 rb54 zb55 bb51
    replace hb26 := hb26.up bb51; replace bb24 := Zu bb24 bb51; replace bb21 := Zu bb21 bb51; replace rb10 := rb10.up bb51; replace bb7 := Zu bb7 bb51; replace rb4 := rb4.up bb51; replace bb1 := Zu bb1 bb51; replace q := Zu q bb51; replace hok := Zh hok bb51; have yb56 := hok.size
    refine ⟨hok, ?_⟩
    refine AA.one 3 (by kernel_rfl) ?_
    (refine SR.val rfl (R.lookKT rfl rfl zKeys (by rfl) (z := kdZ) (by kernel_rfl) (by assumption) (1 : Int) rfl kF_1) rfl rfl hok ?_)
    refine AA.pure 4 rfl hok (by kernel_rfl) (fun w' b' => R.move rfl rfl) rfl rfl ?_
    refine AA.pure 5 rfl hok (by kernel_rfl) (fun w' b' => R.extract rfl rfl rfl) rfl rfl ?_
    refine AA.pure 6 rfl hok (by kernel_rfl) (fun w' b' => R.extract rfl rfl rfl) rfl rfl ?_
    refine AA.one 8 (by kernel_rfl) ?_
    refine ZR.storeN (vs := [fnV kd1.1, fnV kd1.2.1, fnV kd1.2.2.1, fnV kd1.2.2.2]) rfl rfl rfl rfl rfl rb54 (by exact Nat.le_of_ble_eq_true rfl) (ones_of rfl) rfl rfl ?_
    intro Wb58 rb59 bb57 zb60
    have hlbb57 := rb54.lt
    replace rb59 : RowL Wb58 _ 68 [fnV kd1.1, fnV kd1.2.1, fnV kd1.2.2.1, fnV kd1.2.2.2] := rb59
    clear rb54
    replace bb51 := Zg bb51 bb57; replace bb24 := Zg bb24 bb57; replace bb21 := Zg bb21 bb57; replace rb10 := Zd rb10 bb57; replace bb7 := Zg bb7 bb57; replace rb4 := Zd rb4 bb57; replace bb1 := Zg bb1 bb57; replace q := Zg q bb57; replace hok := Zo hok bb57
    have rb54 := rb59
    clear rb59
    refine ⟨hok, ?_⟩
    refine AA.pure 9 rfl hok (by kernel_rfl) (fun w' b' => R.assign rfl rfl) rfl rfl ?_
    refine AA.done rfl ?_
    clear fzrb10 fzrb4 hok
    refine EE.thenN ?_; refine Zr ?_; refine Zm ?_; refine Zt ?_; refine Zm ?_; refine Zf ?_; refine Zl rb4 ?_
    refine LL.call (R.call rfl rfl rfl) rfl rfl rfl (within_T _ _ _ _ (by first | assumption | omega)) ?_
    rintro e W' ⟨rfl, rfl⟩
    refine ⟨_, rfl, ?_⟩; refine Zt ?_; refine Zp ?_
    refine LL.call (R.call rfl rfl rfl) rfl rfl rfl (refuse_F _) ?_
    rintro e W' ⟨rfl, rfl⟩
    refine ⟨_, rfl, ?_⟩; refine Zq ?_; refine Zc ?_
    refine CC.growT 15 (by kernel_rfl) (by kernel_rfl) ?_
    refine GG.val (fun w' b' => R.load rfl rfl (I.ldNc (vs := [Value.int IntKind.i64 1, Value.int IntKind.i64 l, Value.int IntKind.i64 z, Value.slice x n c, Value.int IntKind.i64 0, Value.int IntKind.i64 0, strV []]) (RowL.cells (rb4.up b') rfl) (by rfl) (by rfl))) rfl rfl ?_
    refine GG.val (fun w' b' => R.field rfl rfl (I.fld rfl)) rfl rfl ?_
    refine GG.val (fun w' b' => R.load rfl rfl (I.ld1 rfl (RowL.cell (rb54.up b') rfl))) rfl rfl ?_
    refine GG.val (fun w' b' => R.load rfl rfl (I.ldNc (vs := [Value.int IntKind.i64 1, Value.int IntKind.i64 l, Value.int IntKind.i64 z, Value.slice x n c, Value.int IntKind.i64 0, Value.int IntKind.i64 0, strV []]) (RowL.cells (rb4.up b') rfl) (by rfl) (by rfl))) rfl rfl ?_
    refine GG.call (fun w' => (R.callV rfl rfl rfl rfl)) rfl rfl (fun w' b' => (nm1_any _ _ _ _ _ _ _ w' ⟨_, _, _, rfl⟩).mono fun e W' h => ⟨h.1, b'.trans (h.2.mono b'.size)⟩) ?_
    refine GG.call (fun w' => (R.call rfl rfl rfl)) rfl rfl (fun w' b' => (insame_any _ _ _ _ m _ _ _ _ _ _ _ m _ _ _ w' (hvF _ (q.trans (b'.mono q.size))) (hvF _ (q.trans (b'.mono q.size))) hlen hlen true hsm).mono fun e W' h => ⟨h.1, b'.trans (h.2.mono b'.size)⟩) ?_
    refine GG.val (fun w' b' => R.not rfl rfl) rfl rfl ?_
    refine GG.val (fun w' b' => R.move rfl rfl) rfl rfl ?_
    refine GG.val (fun w' b' => R.field rfl rfl (I.fld rfl)) rfl rfl ?_
    refine GG.val (fun w' b' => R.load rfl rfl (I.ld1 rfl (RowL.cell (rb54.up b') rfl))) rfl rfl ?_
    refine GG.val (fun w' b' => R.load rfl rfl (I.ldNc (vs := [Value.int IntKind.i64 1, Value.int IntKind.i64 l, Value.int IntKind.i64 z, Value.slice x n c, Value.int IntKind.i64 0, Value.int IntKind.i64 0, strV []]) (RowL.cells (rb4.up b') rfl) (by rfl) (by rfl))) rfl rfl ?_
    refine GG.val (fun w' b' => R.buildV rfl rfl (v := .agg #[Value.int IntKind.i64 1, Value.int IntKind.i64 l, Value.int IntKind.i64 z, Value.slice x n c, Value.int IntKind.i64 0, Value.int IntKind.i64 0, strV []]) (fun _ => by kernel_rfl)) rfl rfl ?_
    refine GG.call (fun w' => (R.callV rfl rfl rfl rfl)) rfl rfl (fun w' b' => (my1_bad _ _ _ _ _ _ _ _ _ m w' (hvF _ (q.trans (b'.mono q.size))) hlen hbad).mono fun e W' h => ⟨h.1, b'.trans (h.2.mono b'.size)⟩) ?_
    refine GG.val (fun w' b' => R.not rfl rfl) rfl rfl ?_
    refine GG.val (fun w' b' => R.pick rfl rfl rfl) rfl rfl ?_
    refine GG.nil (fun Wb65 bb64 => ?_)
    have zbb64 := bb64.size; replace bb51 := Zu bb51 bb64; replace bb24 := Zu bb24 bb64; replace bb21 := Zu bb21 bb64; replace rb10 := rb10.up bb64; replace bb7 := Zu bb7 bb64; replace rb4 := rb4.up bb64; replace bb1 := Zu bb1 bb64; replace q := Zu q bb64; replace rb54 := rb54.up bb64
    refine LL.callP (R.call rfl rfl rfl) rfl rfl (refuse_T _) ?_
    rintro e Wb67 ⟨rfl, rfl⟩
    refine ⟨_, rfl, ?_⟩; refine EE.thenP ?_; refine EE.panM ?_
    exact ⟨rfl, q⟩
    have lb68 := rb10.lt; have lb69 := rb4.lt
    refine ZR.alloc ([Value.nilFunc, Value.nilFunc, Value.nilFunc, Value.nilFunc]) rfl rfl rfl rfl rfl rfl ?_
    intro Wb71 gb72 egb72 rb73 zb74 bb70
    replace bb21 := Zu bb21 bb70; replace rb10 := rb10.up bb70; replace bb7 := Zu bb7 bb70; replace rb4 := rb4.up bb70; replace bb1 := Zu bb1 bb70; replace q := Zu q bb70; replace hok := Zh hok bb70; have yb75 := hok.size
    refine ⟨hok, ?_⟩
    refine AA.one 0 (by kernel_rfl) ?_
    refine SR.call rfl (R.call rfl rfl rfl) rfl rfl (kinds_any _) ?_
    rintro e Wb77 ⟨gb79, kb80, rfl, hb78, bb76⟩
    have zbb76 := bb76.size; replace rb73 := rb73.up bb76; replace bb70 := Zu bb70 bb76; replace bb21 := Zu bb21 bb76; replace rb10 := rb10.up bb76; replace bb7 := Zu bb7 bb76; replace rb4 := rb4.up bb76; replace bb1 := Zu bb1 bb76; replace q := Zu q bb76; replace hok := Zh hok bb76; have yb81 := hok.size
    refine ⟨_, rfl, hok, ?_⟩
    refine AA.one 3 (by kernel_rfl) ?_
    (refine SR.val rfl (R.lookKT rfl rfl zKeys (by rfl) (z := kdZ) (by kernel_rfl) (by assumption) (1 : Int) rfl kF_1) rfl rfl hok ?_)
    refine AA.pure 4 rfl hok (by kernel_rfl) (fun w' b' => R.move rfl rfl) rfl rfl ?_
    refine AA.pure 5 rfl hok (by kernel_rfl) (fun w' b' => R.extract rfl rfl rfl) rfl rfl ?_
    refine AA.pure 6 rfl hok (by kernel_rfl) (fun w' b' => R.extract rfl rfl rfl) rfl rfl ?_
    refine AA.one 8 (by kernel_rfl) ?_
    refine ZR.storeN (vs := [fnV kd1.1, fnV kd1.2.1, fnV kd1.2.2.1, fnV kd1.2.2.2]) rfl rfl rfl rfl rfl rb73 (by exact Nat.le_of_ble_eq_true rfl) (ones_of rfl) rfl rfl ?_
    intro Wb83 rb84 bb82 zb85
    have hlbb82 := rb73.lt
    replace rb84 : RowL Wb83 _ 68 [fnV kd1.1, fnV kd1.2.1, fnV kd1.2.2.1, fnV kd1.2.2.2] := rb84
    clear rb73
    replace bb70 := Zg bb70 bb82; replace bb21 := Zg bb21 bb82; replace rb10 := Zd rb10 bb82; replace bb7 := Zg bb7 bb82; replace rb4 := Zd rb4 bb82; replace bb1 := Zg bb1 bb82; replace q := Zg q bb82; replace hok := Zo hok bb82
    have rb73 := rb84
    clear rb84
    refine ⟨hok, ?_⟩
    refine AA.pure 9 rfl hok (by kernel_rfl) (fun w' b' => R.assign rfl rfl) rfl rfl ?_
    refine AA.done rfl ?_
    clear fzrb10 fzrb4 hok
    refine EE.thenN ?_; refine Zr ?_; refine Zm ?_; refine Zt ?_; refine Zm ?_; refine Zf ?_; refine Zl rb4 ?_
    refine LL.call (R.call rfl rfl rfl) rfl rfl rfl (within_T _ _ _ _ (by first | assumption | omega)) ?_
    rintro e W' ⟨rfl, rfl⟩
    refine ⟨_, rfl, ?_⟩; refine Zt ?_; refine Zp ?_
    refine LL.call (R.call rfl rfl rfl) rfl rfl rfl (refuse_F _) ?_
    rintro e W' ⟨rfl, rfl⟩
    refine ⟨_, rfl, ?_⟩; refine Zq ?_; refine Zc ?_
    refine CC.growT 15 (by kernel_rfl) (by kernel_rfl) ?_
    refine GG.val (fun w' b' => R.load rfl rfl (I.ldNc (vs := [Value.int IntKind.i64 1, Value.int IntKind.i64 l, Value.int IntKind.i64 z, Value.slice x n c, Value.int IntKind.i64 0, Value.int IntKind.i64 0, strV []]) (RowL.cells (rb4.up b') rfl) (by rfl) (by rfl))) rfl rfl ?_
    refine GG.val (fun w' b' => R.field rfl rfl (I.fld rfl)) rfl rfl ?_
    refine GG.val (fun w' b' => R.load rfl rfl (I.ld1 rfl (RowL.cell (rb73.up b') rfl))) rfl rfl ?_
    refine GG.val (fun w' b' => R.load rfl rfl (I.ldNc (vs := [Value.int IntKind.i64 1, Value.int IntKind.i64 l, Value.int IntKind.i64 z, Value.slice x n c, Value.int IntKind.i64 0, Value.int IntKind.i64 0, strV []]) (RowL.cells (rb4.up b') rfl) (by rfl) (by rfl))) rfl rfl ?_
    refine GG.call (fun w' => (R.callV rfl rfl rfl rfl)) rfl rfl (fun w' b' => (nm1_any _ _ _ _ _ _ _ w' ⟨_, _, _, rfl⟩).mono fun e W' h => ⟨h.1, b'.trans (h.2.mono b'.size)⟩) ?_
    refine GG.call (fun w' => (R.call rfl rfl rfl)) rfl rfl (fun w' b' => (insame_any _ _ _ _ m _ _ _ _ _ _ _ m _ _ _ w' (hvF _ (q.trans (b'.mono q.size))) (hvF _ (q.trans (b'.mono q.size))) hlen hlen true hsm).mono fun e W' h => ⟨h.1, b'.trans (h.2.mono b'.size)⟩) ?_
    refine GG.val (fun w' b' => R.not rfl rfl) rfl rfl ?_
    refine GG.val (fun w' b' => R.move rfl rfl) rfl rfl ?_
    refine GG.val (fun w' b' => R.field rfl rfl (I.fld rfl)) rfl rfl ?_
    refine GG.val (fun w' b' => R.load rfl rfl (I.ld1 rfl (RowL.cell (rb73.up b') rfl))) rfl rfl ?_
    refine GG.val (fun w' b' => R.load rfl rfl (I.ldNc (vs := [Value.int IntKind.i64 1, Value.int IntKind.i64 l, Value.int IntKind.i64 z, Value.slice x n c, Value.int IntKind.i64 0, Value.int IntKind.i64 0, strV []]) (RowL.cells (rb4.up b') rfl) (by rfl) (by rfl))) rfl rfl ?_
    refine GG.val (fun w' b' => R.buildV rfl rfl (v := .agg #[Value.int IntKind.i64 1, Value.int IntKind.i64 l, Value.int IntKind.i64 z, Value.slice x n c, Value.int IntKind.i64 0, Value.int IntKind.i64 0, strV []]) (fun _ => by kernel_rfl)) rfl rfl ?_
    refine GG.call (fun w' => (R.callV rfl rfl rfl rfl)) rfl rfl (fun w' b' => (my1_bad _ _ _ _ _ _ _ _ _ m w' (hvF _ (q.trans (b'.mono q.size))) hlen hbad).mono fun e W' h => ⟨h.1, b'.trans (h.2.mono b'.size)⟩) ?_
    refine GG.val (fun w' b' => R.not rfl rfl) rfl rfl ?_
    refine GG.val (fun w' b' => R.pick rfl rfl rfl) rfl rfl ?_
    refine GG.nil (fun Wb90 bb89 => ?_)
    have zbb89 := bb89.size; replace bb70 := Zu bb70 bb89; replace bb21 := Zu bb21 bb89; replace rb10 := rb10.up bb89; replace bb7 := Zu bb7 bb89; replace rb4 := rb4.up bb89; replace bb1 := Zu bb1 bb89; replace q := Zu q bb89; replace rb73 := rb73.up bb89
    refine LL.callP (R.call rfl rfl rfl) rfl rfl (refuse_T _) ?_
    rintro e Wb92 ⟨rfl, rfl⟩
    refine ⟨_, rfl, ?_⟩; refine EE.thenP ?_; refine EE.panM ?_
    exact ⟨rfl, q⟩
theorem check2_M (l r p : Int) (x : Option Addr) (n c : Nat) (m : List Ex) (w : World) (hv : ReadsT eE 3 w (.slice x n c) m) (hlen : m.length ≤ 1048576) (hm0 : m = []) (hl : 0 ≤ l ∧ l ≤ 65535) (hmy : ¬((1 ≤ r ∧ r ≤ 2047) ∧ 1 ≤ p ∧ p ≤ 256)) : Calls Tryd.prog 29 #[inV 2 l 0 (.slice x n c) r p []] w fun e w' => e = .panicked (chain1 refV) ∧ Below w.heap.size w w' := by
  have q := Below.refl w.heap.size w
  have hvF : ∀ X, Below w.heap.size w X → ReadsT eE 3 X (.slice x n c) m := fun X b => hv.up b
  clear hv
  have hsm : true = true ↔ sameI 2 l 0 m r p [] 2 l 0 [] r p [] := ⟨fun _ => ⟨rfl, rfl, rfl, hm0, rfl, rfl, rfl⟩, fun _ => rfl⟩
  refine X.fnP Tryd.func29 rfl (n := 38) rfl rfl ?_
  refine Zr ?_
  refine LL.box [Value.int IntKind.i64 2, Value.int IntKind.i64 l, Value.int IntKind.i64 0, Value.slice x n c, Value.int IntKind.i64 r, Value.int IntKind.i64 p, strV []] rfl rfl rfl rfl rfl ?_
  intro W2 g3 eg3 r4 z5 b1
  replace q := Zu q b1; have l6 := r4.lt
  refine LL.alloc ([Value.nilFunc, Value.nilFunc, Value.nilFunc, Value.nilFunc]) rfl rfl rfl rfl rfl ?_
  intro W8 g9 eg9 r10 z11 b7
  replace r4 := r4.up b7; replace b1 := Zu b1 b7; replace q := Zu q b7; refine Zq ?_; refine Zc ?_
  refine CC.freeZ (fun W_ j => j < W_.heap.size ∧ (True)) (by kernel_rfl) (by kernel_rfl) (fun W22 b21 z23 => ?_)
  replace r10 := r10.up b21; replace b7 := Zu b7 b21; replace r4 := r4.up b21; replace b1 := Zu b1 b21; replace q := Zu q b21
  have hok : Kept (fun j => j < W22.heap.size ∧ (True)) W22 W22 := Kept.refl _ _
  have fzr10 := fzRow (K := fun j => j < W22.heap.size ∧ (True)) r10 ⟨r10.lt, (by first | trivial | omega)⟩
  have fzr4 := fzRow (K := fun j => j < W22.heap.size ∧ (True)) r4 ⟨r4.lt, (by first | trivial | omega)⟩
  refine AA.pure 1 rfl hok (by kernel_rfl) (fun w' b' => R.field rfl rfl (I.fld rfl)) rfl rfl ?_
  refine AA.pure 2 rfl hok (by kernel_rfl) (fun w' b' => R.load rfl rfl (I.ld1 rfl (RowL.cell (fzr4 w' b') rfl))) rfl rfl ?_
  refine AA.two 0 7 (by kernel_rfl) ?_ ?_
  refine SR.call rfl (R.call rfl rfl rfl) rfl rfl (kinds_any _) ?_
  rintro e W25 ⟨g27, k28, rfl, h26, b24⟩
  have zb24 := b24.size; replace b21 := Zu b21 b24; replace r10 := r10.up b24; replace b7 := Zu b7 b24; replace r4 := r4.up b24; replace b1 := Zu b1 b24; replace q := Zu q b24; replace hok := Zh hok b24; have y29 := hok.size
  refine ⟨_, rfl, hok, ?_⟩
  refine AA.two 3 7 (by kernel_rfl) ?_ ?_
  (refine SR.val rfl (R.lookKT rfl rfl zKeys (by rfl) (z := kdZ) (by kernel_rfl) (by assumption) (2 : Int) rfl kF_2) rfl rfl hok ?_)
  refine AA.pure 4 rfl hok (by kernel_rfl) (fun w' b' => R.move rfl rfl) rfl rfl ?_
  refine AA.pure 5 rfl hok (by kernel_rfl) (fun w' b' => R.extract rfl rfl rfl) rfl rfl ?_
  refine AA.pure 6 rfl hok (by kernel_rfl) (fun w' b' => R.extract rfl rfl rfl) rfl rfl ?_
  refine AA.one 7 (by kernel_rfl) ?_
  have l30 := r10.lt; have l31 := r4.lt
  refine ZR.alloc ([Value.nilFunc, Value.nilFunc, Value.nilFunc, Value.nilFunc]) rfl rfl rfl rfl rfl rfl ?_
  intro W33 g34 eg34 r35 z36 b32
  replace h26 := h26.up b32; replace b24 := Zu b24 b32; replace b21 := Zu b21 b32; replace r10 := r10.up b32; replace b7 := Zu b7 b32; replace r4 := r4.up b32; replace b1 := Zu b1 b32; replace q := Zu q b32; replace hok := Zh hok b32; have y37 := hok.size
  refine ⟨hok, ?_⟩
  refine AA.one 8 (by kernel_rfl) ?_
  refine ZR.storeN (vs := [fnV kd2.1, fnV kd2.2.1, fnV kd2.2.2.1, fnV kd2.2.2.2]) rfl rfl rfl rfl rfl r35 (by exact Nat.le_of_ble_eq_true rfl) (ones_of rfl) rfl rfl ?_
  intro W39 r40 b38 z41
  have hlb38 := r35.lt
  replace r40 : RowL W39 _ 68 [fnV kd2.1, fnV kd2.2.1, fnV kd2.2.2.1, fnV kd2.2.2.2] := r40
  clear r35
  replace b32 := Zg b32 b38; replace b24 := Zg b24 b38; replace b21 := Zg b21 b38; replace r10 := Zd r10 b38; replace b7 := Zg b7 b38; replace r4 := Zd r4 b38; replace b1 := Zg b1 b38; replace q := Zg q b38; replace hok := Zo hok b38
  have r35 := r40
  clear r40
  refine ⟨hok, ?_⟩
  refine AA.pure 9 rfl hok (by kernel_rfl) (fun w' b' => R.assign rfl rfl) rfl rfl ?_
  refine AA.done rfl ?_
  clear fzr10 fzr4 hok
  refine EE.thenN ?_; refine Zr ?_; refine Zm ?_; refine Zt ?_; refine Zm ?_; refine Zf ?_; refine Zl r4 ?_
  refine LL.call (R.call rfl rfl rfl) rfl rfl rfl (within_T _ _ _ _ (by first | assumption | omega)) ?_
  rintro e W' ⟨rfl, rfl⟩
  refine ⟨_, rfl, ?_⟩; refine Zt ?_; refine Zp ?_
  refine LL.call (R.call rfl rfl rfl) rfl rfl rfl (refuse_F _) ?_
  rintro e W' ⟨rfl, rfl⟩
  refine ⟨_, rfl, ?_⟩; refine Zq ?_; refine Zc ?_
  refine CC.growT 15 (by kernel_rfl) (by kernel_rfl) ?_
  refine GG.val (fun w' b' => R.load rfl rfl (I.ldNc (vs := [Value.int IntKind.i64 2, Value.int IntKind.i64 l, Value.int IntKind.i64 0, Value.slice x n c, Value.int IntKind.i64 r, Value.int IntKind.i64 p, strV []]) (RowL.cells (r4.up b') rfl) (by rfl) (by rfl))) rfl rfl ?_
  refine GG.val (fun w' b' => R.field rfl rfl (I.fld rfl)) rfl rfl ?_
  refine GG.val (fun w' b' => R.load rfl rfl (I.ld1 rfl (RowL.cell (r35.up b') rfl))) rfl rfl ?_
  refine GG.val (fun w' b' => R.load rfl rfl (I.ldNc (vs := [Value.int IntKind.i64 2, Value.int IntKind.i64 l, Value.int IntKind.i64 0, Value.slice x n c, Value.int IntKind.i64 r, Value.int IntKind.i64 p, strV []]) (RowL.cells (r4.up b') rfl) (by rfl) (by rfl))) rfl rfl ?_
  refine GG.call (fun w' => (R.callV rfl rfl rfl rfl)) rfl rfl (fun w' b' => (nm2_any _ _ _ _ _ _ _ w' ⟨_, _, _, rfl⟩).mono fun e W' h => ⟨h.1, b'.trans (h.2.mono b'.size)⟩) ?_
  refine GG.call (fun w' => (R.call rfl rfl rfl)) rfl rfl (fun w' b' => (insame_any _ _ _ _ m _ _ _ _ _ _ _ [] _ _ _ w' (hvF _ (q.trans (b'.mono q.size))) (ReadsT.nil _) hlen (by decide) true hsm).mono fun e W' h => ⟨h.1, b'.trans (h.2.mono b'.size)⟩) ?_
  refine GG.val (fun w' b' => R.not rfl rfl) rfl rfl ?_
  refine GG.val (fun w' b' => R.move rfl rfl) rfl rfl ?_
  refine GG.val (fun w' b' => R.field rfl rfl (I.fld rfl)) rfl rfl ?_
  refine GG.val (fun w' b' => R.load rfl rfl (I.ld1 rfl (RowL.cell (r35.up b') rfl))) rfl rfl ?_
  refine GG.val (fun w' b' => R.load rfl rfl (I.ldNc (vs := [Value.int IntKind.i64 2, Value.int IntKind.i64 l, Value.int IntKind.i64 0, Value.slice x n c, Value.int IntKind.i64 r, Value.int IntKind.i64 p, strV []]) (RowL.cells (r4.up b') rfl) (by rfl) (by rfl))) rfl rfl ?_
  refine GG.val (fun w' b' => R.buildV rfl rfl (v := .agg #[Value.int IntKind.i64 2, Value.int IntKind.i64 l, Value.int IntKind.i64 0, Value.slice x n c, Value.int IntKind.i64 r, Value.int IntKind.i64 p, strV []]) (fun _ => by kernel_rfl)) rfl rfl ?_
  refine GG.call (fun w' => (R.callV rfl rfl rfl rfl)) rfl rfl (fun w' b' => (my2_F _ _ _ _ _ _ _ w' ⟨_, _, _, rfl⟩ hmy).mono fun e W' h => ⟨h.1, b'.trans (h.2.mono b'.size)⟩) ?_
  refine GG.val (fun w' b' => R.not rfl rfl) rfl rfl ?_
  refine GG.val (fun w' b' => R.pick rfl rfl rfl) rfl rfl ?_
  refine GG.nil (fun W46 b45 => ?_)
  have zb45 := b45.size; replace b32 := Zu b32 b45; replace b24 := Zu b24 b45; replace b21 := Zu b21 b45; replace r10 := r10.up b45; replace b7 := Zu b7 b45; replace r4 := r4.up b45; replace b1 := Zu b1 b45; replace q := Zu q b45; replace r35 := r35.up b45
  refine LL.callP (R.call rfl rfl rfl) rfl rfl (refuse_T _) ?_
  rintro e W48 ⟨rfl, rfl⟩
  refine ⟨_, rfl, ?_⟩; refine EE.thenP ?_; refine EE.panM ?_
  exact ⟨rfl, q⟩
  have l49 := r10.lt; have l50 := r4.lt
  refine ZR.alloc ([Value.nilFunc, Value.nilFunc, Value.nilFunc, Value.nilFunc]) rfl rfl rfl rfl rfl rfl ?_
  intro W52 g53 eg53 r54 z55 b51
  replace h26 := h26.up b51; replace b24 := Zu b24 b51; replace b21 := Zu b21 b51; replace r10 := r10.up b51; replace b7 := Zu b7 b51; replace r4 := r4.up b51; replace b1 := Zu b1 b51; replace q := Zu q b51; replace hok := Zh hok b51; have y56 := hok.size
  refine ⟨hok, ?_⟩
  refine AA.one 3 (by kernel_rfl) ?_
  (refine SR.val rfl (R.lookKT rfl rfl zKeys (by rfl) (z := kdZ) (by kernel_rfl) (by assumption) (2 : Int) rfl kF_2) rfl rfl hok ?_)
  refine AA.pure 4 rfl hok (by kernel_rfl) (fun w' b' => R.move rfl rfl) rfl rfl ?_
  refine AA.pure 5 rfl hok (by kernel_rfl) (fun w' b' => R.extract rfl rfl rfl) rfl rfl ?_
  refine AA.pure 6 rfl hok (by kernel_rfl) (fun w' b' => R.extract rfl rfl rfl) rfl rfl ?_
  refine AA.one 8 (by kernel_rfl) ?_
  refine ZR.storeN (vs := [fnV kd2.1, fnV kd2.2.1, fnV kd2.2.2.1, fnV kd2.2.2.2]) rfl rfl rfl rfl rfl r54 (by exact Nat.le_of_ble_eq_true rfl) (ones_of rfl) rfl rfl ?_
  intro W58 r59 b57 z60
  have hlb57 := r54.lt
  replace r59 : RowL W58 _ 68 [fnV kd2.1, fnV kd2.2.1, fnV kd2.2.2.1, fnV kd2.2.2.2] := r59
  clear r54
  replace b51 := Zg b51 b57; replace b24 := Zg b24 b57; replace b21 := Zg b21 b57; replace r10 := Zd r10 b57; replace b7 := Zg b7 b57; replace r4 := Zd r4 b57; replace b1 := Zg b1 b57; replace q := Zg q b57; replace hok := Zo hok b57
  have r54 := r59
  clear r59
  refine ⟨hok, ?_⟩
  refine AA.pure 9 rfl hok (by kernel_rfl) (fun w' b' => R.assign rfl rfl) rfl rfl ?_
  refine AA.done rfl ?_
  clear fzr10 fzr4 hok
  refine EE.thenN ?_; refine Zr ?_; refine Zm ?_; refine Zt ?_; refine Zm ?_; refine Zf ?_; refine Zl r4 ?_
  refine LL.call (R.call rfl rfl rfl) rfl rfl rfl (within_T _ _ _ _ (by first | assumption | omega)) ?_
  rintro e W' ⟨rfl, rfl⟩
  refine ⟨_, rfl, ?_⟩; refine Zt ?_; refine Zp ?_
  refine LL.call (R.call rfl rfl rfl) rfl rfl rfl (refuse_F _) ?_
  rintro e W' ⟨rfl, rfl⟩
  refine ⟨_, rfl, ?_⟩; refine Zq ?_; refine Zc ?_
  refine CC.growT 15 (by kernel_rfl) (by kernel_rfl) ?_
  refine GG.val (fun w' b' => R.load rfl rfl (I.ldNc (vs := [Value.int IntKind.i64 2, Value.int IntKind.i64 l, Value.int IntKind.i64 0, Value.slice x n c, Value.int IntKind.i64 r, Value.int IntKind.i64 p, strV []]) (RowL.cells (r4.up b') rfl) (by rfl) (by rfl))) rfl rfl ?_
  refine GG.val (fun w' b' => R.field rfl rfl (I.fld rfl)) rfl rfl ?_
  refine GG.val (fun w' b' => R.load rfl rfl (I.ld1 rfl (RowL.cell (r54.up b') rfl))) rfl rfl ?_
  refine GG.val (fun w' b' => R.load rfl rfl (I.ldNc (vs := [Value.int IntKind.i64 2, Value.int IntKind.i64 l, Value.int IntKind.i64 0, Value.slice x n c, Value.int IntKind.i64 r, Value.int IntKind.i64 p, strV []]) (RowL.cells (r4.up b') rfl) (by rfl) (by rfl))) rfl rfl ?_
  refine GG.call (fun w' => (R.callV rfl rfl rfl rfl)) rfl rfl (fun w' b' => (nm2_any _ _ _ _ _ _ _ w' ⟨_, _, _, rfl⟩).mono fun e W' h => ⟨h.1, b'.trans (h.2.mono b'.size)⟩) ?_
  refine GG.call (fun w' => (R.call rfl rfl rfl)) rfl rfl (fun w' b' => (insame_any _ _ _ _ m _ _ _ _ _ _ _ [] _ _ _ w' (hvF _ (q.trans (b'.mono q.size))) (ReadsT.nil _) hlen (by decide) true hsm).mono fun e W' h => ⟨h.1, b'.trans (h.2.mono b'.size)⟩) ?_
  refine GG.val (fun w' b' => R.not rfl rfl) rfl rfl ?_
  refine GG.val (fun w' b' => R.move rfl rfl) rfl rfl ?_
  refine GG.val (fun w' b' => R.field rfl rfl (I.fld rfl)) rfl rfl ?_
  refine GG.val (fun w' b' => R.load rfl rfl (I.ld1 rfl (RowL.cell (r54.up b') rfl))) rfl rfl ?_
  refine GG.val (fun w' b' => R.load rfl rfl (I.ldNc (vs := [Value.int IntKind.i64 2, Value.int IntKind.i64 l, Value.int IntKind.i64 0, Value.slice x n c, Value.int IntKind.i64 r, Value.int IntKind.i64 p, strV []]) (RowL.cells (r4.up b') rfl) (by rfl) (by rfl))) rfl rfl ?_
  refine GG.val (fun w' b' => R.buildV rfl rfl (v := .agg #[Value.int IntKind.i64 2, Value.int IntKind.i64 l, Value.int IntKind.i64 0, Value.slice x n c, Value.int IntKind.i64 r, Value.int IntKind.i64 p, strV []]) (fun _ => by kernel_rfl)) rfl rfl ?_
  refine GG.call (fun w' => (R.callV rfl rfl rfl rfl)) rfl rfl (fun w' b' => (my2_F _ _ _ _ _ _ _ w' ⟨_, _, _, rfl⟩ hmy).mono fun e W' h => ⟨h.1, b'.trans (h.2.mono b'.size)⟩) ?_
  refine GG.val (fun w' b' => R.not rfl rfl) rfl rfl ?_
  refine GG.val (fun w' b' => R.pick rfl rfl rfl) rfl rfl ?_
  refine GG.nil (fun W65 b64 => ?_)
  have zb64 := b64.size; replace b51 := Zu b51 b64; replace b24 := Zu b24 b64; replace b21 := Zu b21 b64; replace r10 := r10.up b64; replace b7 := Zu b7 b64; replace r4 := r4.up b64; replace b1 := Zu b1 b64; replace q := Zu q b64; replace r54 := r54.up b64
  refine LL.callP (R.call rfl rfl rfl) rfl rfl (refuse_T _) ?_
  rintro e W67 ⟨rfl, rfl⟩
  refine ⟨_, rfl, ?_⟩; refine EE.thenP ?_; refine EE.panM ?_
  exact ⟨rfl, q⟩
  have l68 := r10.lt; have l69 := r4.lt
  refine ZR.alloc ([Value.nilFunc, Value.nilFunc, Value.nilFunc, Value.nilFunc]) rfl rfl rfl rfl rfl rfl ?_
  intro W71 g72 eg72 r73 z74 b70
  replace b21 := Zu b21 b70; replace r10 := r10.up b70; replace b7 := Zu b7 b70; replace r4 := r4.up b70; replace b1 := Zu b1 b70; replace q := Zu q b70; replace hok := Zh hok b70; have y75 := hok.size
  refine ⟨hok, ?_⟩
  refine AA.one 0 (by kernel_rfl) ?_
  refine SR.call rfl (R.call rfl rfl rfl) rfl rfl (kinds_any _) ?_
  rintro e W77 ⟨g79, k80, rfl, h78, b76⟩
  have zb76 := b76.size; replace r73 := r73.up b76; replace b70 := Zu b70 b76; replace b21 := Zu b21 b76; replace r10 := r10.up b76; replace b7 := Zu b7 b76; replace r4 := r4.up b76; replace b1 := Zu b1 b76; replace q := Zu q b76; replace hok := Zh hok b76; have y81 := hok.size
  refine ⟨_, rfl, hok, ?_⟩
  refine AA.one 3 (by kernel_rfl) ?_
  (refine SR.val rfl (R.lookKT rfl rfl zKeys (by rfl) (z := kdZ) (by kernel_rfl) (by assumption) (2 : Int) rfl kF_2) rfl rfl hok ?_)
  refine AA.pure 4 rfl hok (by kernel_rfl) (fun w' b' => R.move rfl rfl) rfl rfl ?_
  refine AA.pure 5 rfl hok (by kernel_rfl) (fun w' b' => R.extract rfl rfl rfl) rfl rfl ?_
  refine AA.pure 6 rfl hok (by kernel_rfl) (fun w' b' => R.extract rfl rfl rfl) rfl rfl ?_
  refine AA.one 8 (by kernel_rfl) ?_
  refine ZR.storeN (vs := [fnV kd2.1, fnV kd2.2.1, fnV kd2.2.2.1, fnV kd2.2.2.2]) rfl rfl rfl rfl rfl r73 (by exact Nat.le_of_ble_eq_true rfl) (ones_of rfl) rfl rfl ?_
  intro W83 r84 b82 z85
  have hlb82 := r73.lt
  replace r84 : RowL W83 _ 68 [fnV kd2.1, fnV kd2.2.1, fnV kd2.2.2.1, fnV kd2.2.2.2] := r84
  clear r73
  replace b70 := Zg b70 b82; replace b21 := Zg b21 b82; replace r10 := Zd r10 b82; replace b7 := Zg b7 b82; replace r4 := Zd r4 b82; replace b1 := Zg b1 b82; replace q := Zg q b82; replace hok := Zo hok b82
  have r73 := r84
  clear r84
  refine ⟨hok, ?_⟩
  refine AA.pure 9 rfl hok (by kernel_rfl) (fun w' b' => R.assign rfl rfl) rfl rfl ?_
  refine AA.done rfl ?_
  clear fzr10 fzr4 hok
  refine EE.thenN ?_; refine Zr ?_; refine Zm ?_; refine Zt ?_; refine Zm ?_; refine Zf ?_; refine Zl r4 ?_
  refine LL.call (R.call rfl rfl rfl) rfl rfl rfl (within_T _ _ _ _ (by first | assumption | omega)) ?_
  rintro e W' ⟨rfl, rfl⟩
  refine ⟨_, rfl, ?_⟩; refine Zt ?_; refine Zp ?_
  refine LL.call (R.call rfl rfl rfl) rfl rfl rfl (refuse_F _) ?_
  rintro e W' ⟨rfl, rfl⟩
  refine ⟨_, rfl, ?_⟩; refine Zq ?_; refine Zc ?_
  refine CC.growT 15 (by kernel_rfl) (by kernel_rfl) ?_
  refine GG.val (fun w' b' => R.load rfl rfl (I.ldNc (vs := [Value.int IntKind.i64 2, Value.int IntKind.i64 l, Value.int IntKind.i64 0, Value.slice x n c, Value.int IntKind.i64 r, Value.int IntKind.i64 p, strV []]) (RowL.cells (r4.up b') rfl) (by rfl) (by rfl))) rfl rfl ?_
  refine GG.val (fun w' b' => R.field rfl rfl (I.fld rfl)) rfl rfl ?_
  refine GG.val (fun w' b' => R.load rfl rfl (I.ld1 rfl (RowL.cell (r73.up b') rfl))) rfl rfl ?_
  refine GG.val (fun w' b' => R.load rfl rfl (I.ldNc (vs := [Value.int IntKind.i64 2, Value.int IntKind.i64 l, Value.int IntKind.i64 0, Value.slice x n c, Value.int IntKind.i64 r, Value.int IntKind.i64 p, strV []]) (RowL.cells (r4.up b') rfl) (by rfl) (by rfl))) rfl rfl ?_
  refine GG.call (fun w' => (R.callV rfl rfl rfl rfl)) rfl rfl (fun w' b' => (nm2_any _ _ _ _ _ _ _ w' ⟨_, _, _, rfl⟩).mono fun e W' h => ⟨h.1, b'.trans (h.2.mono b'.size)⟩) ?_
  refine GG.call (fun w' => (R.call rfl rfl rfl)) rfl rfl (fun w' b' => (insame_any _ _ _ _ m _ _ _ _ _ _ _ [] _ _ _ w' (hvF _ (q.trans (b'.mono q.size))) (ReadsT.nil _) hlen (by decide) true hsm).mono fun e W' h => ⟨h.1, b'.trans (h.2.mono b'.size)⟩) ?_
  refine GG.val (fun w' b' => R.not rfl rfl) rfl rfl ?_
  refine GG.val (fun w' b' => R.move rfl rfl) rfl rfl ?_
  refine GG.val (fun w' b' => R.field rfl rfl (I.fld rfl)) rfl rfl ?_
  refine GG.val (fun w' b' => R.load rfl rfl (I.ld1 rfl (RowL.cell (r73.up b') rfl))) rfl rfl ?_
  refine GG.val (fun w' b' => R.load rfl rfl (I.ldNc (vs := [Value.int IntKind.i64 2, Value.int IntKind.i64 l, Value.int IntKind.i64 0, Value.slice x n c, Value.int IntKind.i64 r, Value.int IntKind.i64 p, strV []]) (RowL.cells (r4.up b') rfl) (by rfl) (by rfl))) rfl rfl ?_
  refine GG.val (fun w' b' => R.buildV rfl rfl (v := .agg #[Value.int IntKind.i64 2, Value.int IntKind.i64 l, Value.int IntKind.i64 0, Value.slice x n c, Value.int IntKind.i64 r, Value.int IntKind.i64 p, strV []]) (fun _ => by kernel_rfl)) rfl rfl ?_
  refine GG.call (fun w' => (R.callV rfl rfl rfl rfl)) rfl rfl (fun w' b' => (my2_F _ _ _ _ _ _ _ w' ⟨_, _, _, rfl⟩ hmy).mono fun e W' h => ⟨h.1, b'.trans (h.2.mono b'.size)⟩) ?_
  refine GG.val (fun w' b' => R.not rfl rfl) rfl rfl ?_
  refine GG.val (fun w' b' => R.pick rfl rfl rfl) rfl rfl ?_
  refine GG.nil (fun W90 b89 => ?_)
  have zb89 := b89.size; replace b70 := Zu b70 b89; replace b21 := Zu b21 b89; replace r10 := r10.up b89; replace b7 := Zu b7 b89; replace r4 := r4.up b89; replace b1 := Zu b1 b89; replace q := Zu q b89; replace r73 := r73.up b89
  refine LL.callP (R.call rfl rfl rfl) rfl rfl (refuse_T _) ?_
  rintro e W92 ⟨rfl, rfl⟩
  refine ⟨_, rfl, ?_⟩; refine EE.thenP ?_; refine EE.panM ?_
  exact ⟨rfl, q⟩
theorem check3_M (l : Int) (t : Bs) (x : Option Addr) (n c : Nat) (m : List Ex) (w : World) (hv : ReadsT eE 3 w (.slice x n c) m) (hlen : m.length ≤ 1048576) (hm0 : m = []) (hl : 0 ≤ l ∧ l ≤ 65535) (htl : t.length ≤ 1048576) (hmy : ¬((1 ≤ t.length ∧ t.length ≤ 112) ∧ (0 : UInt8) ∉ t)) : Calls Tryd.prog 29 #[inV 3 l 0 (.slice x n c) 0 0 t] w fun e w' => e = .panicked (chain1 refV) ∧ Below w.heap.size w w' := by
  have q := Below.refl w.heap.size w
  have hvF : ∀ X, Below w.heap.size w X → ReadsT eE 3 X (.slice x n c) m := fun X b => hv.up b
  clear hv
  have hsm : true = true ↔ sameI 3 l 0 m 0 0 t 3 l 0 [] 0 0 t := ⟨fun _ => ⟨rfl, rfl, rfl, hm0, rfl, rfl, rfl⟩, fun _ => rfl⟩
  refine X.fnP Tryd.func29 rfl (n := 38) rfl rfl ?_
  refine Zr ?_
  refine LL.box [Value.int IntKind.i64 3, Value.int IntKind.i64 l, Value.int IntKind.i64 0, Value.slice x n c, Value.int IntKind.i64 0, Value.int IntKind.i64 0, strV t] rfl rfl rfl rfl rfl ?_
  intro W2 g3 eg3 r4 z5 b1
  replace q := Zu q b1; have l6 := r4.lt
  refine LL.alloc ([Value.nilFunc, Value.nilFunc, Value.nilFunc, Value.nilFunc]) rfl rfl rfl rfl rfl ?_
  intro W8 g9 eg9 r10 z11 b7
  replace r4 := r4.up b7; replace b1 := Zu b1 b7; replace q := Zu q b7; refine Zq ?_; refine Zc ?_
  refine CC.freeZ (fun W_ j => j < W_.heap.size ∧ (True)) (by kernel_rfl) (by kernel_rfl) (fun W22 b21 z23 => ?_)
  replace r10 := r10.up b21; replace b7 := Zu b7 b21; replace r4 := r4.up b21; replace b1 := Zu b1 b21; replace q := Zu q b21
  have hok : Kept (fun j => j < W22.heap.size ∧ (True)) W22 W22 := Kept.refl _ _
  have fzr10 := fzRow (K := fun j => j < W22.heap.size ∧ (True)) r10 ⟨r10.lt, (by first | trivial | omega)⟩
  have fzr4 := fzRow (K := fun j => j < W22.heap.size ∧ (True)) r4 ⟨r4.lt, (by first | trivial | omega)⟩
  refine AA.pure 1 rfl hok (by kernel_rfl) (fun w' b' => R.field rfl rfl (I.fld rfl)) rfl rfl ?_
  refine AA.pure 2 rfl hok (by kernel_rfl) (fun w' b' => R.load rfl rfl (I.ld1 rfl (RowL.cell (fzr4 w' b') rfl))) rfl rfl ?_
  refine AA.two 0 7 (by kernel_rfl) ?_ ?_
  refine SR.call rfl (R.call rfl rfl rfl) rfl rfl (kinds_any _) ?_
  rintro e W25 ⟨g27, k28, rfl, h26, b24⟩
  have zb24 := b24.size; replace b21 := Zu b21 b24; replace r10 := r10.up b24; replace b7 := Zu b7 b24; replace r4 := r4.up b24; replace b1 := Zu b1 b24; replace q := Zu q b24; replace hok := Zh hok b24; have y29 := hok.size
  refine ⟨_, rfl, hok, ?_⟩
  refine AA.two 3 7 (by kernel_rfl) ?_ ?_
  (refine SR.val rfl (R.lookKT rfl rfl zKeys (by rfl) (z := kdZ) (by kernel_rfl) (by assumption) (3 : Int) rfl kF_3) rfl rfl hok ?_)
  refine AA.pure 4 rfl hok (by kernel_rfl) (fun w' b' => R.move rfl rfl) rfl rfl ?_
  refine AA.pure 5 rfl hok (by kernel_rfl) (fun w' b' => R.extract rfl rfl rfl) rfl rfl ?_
  refine AA.pure 6 rfl hok (by kernel_rfl) (fun w' b' => R.extract rfl rfl rfl) rfl rfl ?_
  refine AA.one 7 (by kernel_rfl) ?_
  have l30 := r10.lt; have l31 := r4.lt
  refine ZR.alloc ([Value.nilFunc, Value.nilFunc, Value.nilFunc, Value.nilFunc]) rfl rfl rfl rfl rfl rfl ?_
  intro W33 g34 eg34 r35 z36 b32
  replace h26 := h26.up b32; replace b24 := Zu b24 b32; replace b21 := Zu b21 b32; replace r10 := r10.up b32; replace b7 := Zu b7 b32; replace r4 := r4.up b32; replace b1 := Zu b1 b32; replace q := Zu q b32; replace hok := Zh hok b32; have y37 := hok.size
  refine ⟨hok, ?_⟩
  refine AA.one 8 (by kernel_rfl) ?_
  refine ZR.storeN (vs := [fnV kd3.1, fnV kd3.2.1, fnV kd3.2.2.1, fnV kd3.2.2.2]) rfl rfl rfl rfl rfl r35 (by exact Nat.le_of_ble_eq_true rfl) (ones_of rfl) rfl rfl ?_
  intro W39 r40 b38 z41
  have hlb38 := r35.lt
  replace r40 : RowL W39 _ 68 [fnV kd3.1, fnV kd3.2.1, fnV kd3.2.2.1, fnV kd3.2.2.2] := r40
  clear r35
  replace b32 := Zg b32 b38; replace b24 := Zg b24 b38; replace b21 := Zg b21 b38; replace r10 := Zd r10 b38; replace b7 := Zg b7 b38; replace r4 := Zd r4 b38; replace b1 := Zg b1 b38; replace q := Zg q b38; replace hok := Zo hok b38
  have r35 := r40
  clear r40
  refine ⟨hok, ?_⟩
  refine AA.pure 9 rfl hok (by kernel_rfl) (fun w' b' => R.assign rfl rfl) rfl rfl ?_
  refine AA.done rfl ?_
  clear fzr10 fzr4 hok
  refine EE.thenN ?_; refine Zr ?_; refine Zm ?_; refine Zt ?_; refine Zm ?_; refine Zf ?_; refine Zl r4 ?_
  refine LL.call (R.call rfl rfl rfl) rfl rfl rfl (within_T _ _ _ _ (by first | assumption | omega)) ?_
  rintro e W' ⟨rfl, rfl⟩
  refine ⟨_, rfl, ?_⟩; refine Zt ?_; refine Zp ?_
  refine LL.call (R.call rfl rfl rfl) rfl rfl rfl (refuse_F _) ?_
  rintro e W' ⟨rfl, rfl⟩
  refine ⟨_, rfl, ?_⟩; refine Zq ?_; refine Zc ?_
  refine CC.growT 15 (by kernel_rfl) (by kernel_rfl) ?_
  refine GG.val (fun w' b' => R.load rfl rfl (I.ldNc (vs := [Value.int IntKind.i64 3, Value.int IntKind.i64 l, Value.int IntKind.i64 0, Value.slice x n c, Value.int IntKind.i64 0, Value.int IntKind.i64 0, strV t]) (RowL.cells (r4.up b') rfl) (by rfl) (by rfl))) rfl rfl ?_
  refine GG.val (fun w' b' => R.field rfl rfl (I.fld rfl)) rfl rfl ?_
  refine GG.val (fun w' b' => R.load rfl rfl (I.ld1 rfl (RowL.cell (r35.up b') rfl))) rfl rfl ?_
  refine GG.val (fun w' b' => R.load rfl rfl (I.ldNc (vs := [Value.int IntKind.i64 3, Value.int IntKind.i64 l, Value.int IntKind.i64 0, Value.slice x n c, Value.int IntKind.i64 0, Value.int IntKind.i64 0, strV t]) (RowL.cells (r4.up b') rfl) (by rfl) (by rfl))) rfl rfl ?_
  refine GG.call (fun w' => (R.callV rfl rfl rfl rfl)) rfl rfl (fun w' b' => (nm3_any _ _ _ _ _ _ _ w' ⟨_, _, _, rfl⟩).mono fun e W' h => ⟨h.1, b'.trans (h.2.mono b'.size)⟩) ?_
  refine GG.call (fun w' => (R.call rfl rfl rfl)) rfl rfl (fun w' b' => (insame_any _ _ _ _ m _ _ _ _ _ _ _ [] _ _ _ w' (hvF _ (q.trans (b'.mono q.size))) (ReadsT.nil _) hlen (by decide) true hsm).mono fun e W' h => ⟨h.1, b'.trans (h.2.mono b'.size)⟩) ?_
  refine GG.val (fun w' b' => R.not rfl rfl) rfl rfl ?_
  refine GG.val (fun w' b' => R.move rfl rfl) rfl rfl ?_
  refine GG.val (fun w' b' => R.field rfl rfl (I.fld rfl)) rfl rfl ?_
  refine GG.val (fun w' b' => R.load rfl rfl (I.ld1 rfl (RowL.cell (r35.up b') rfl))) rfl rfl ?_
  refine GG.val (fun w' b' => R.load rfl rfl (I.ldNc (vs := [Value.int IntKind.i64 3, Value.int IntKind.i64 l, Value.int IntKind.i64 0, Value.slice x n c, Value.int IntKind.i64 0, Value.int IntKind.i64 0, strV t]) (RowL.cells (r4.up b') rfl) (by rfl) (by rfl))) rfl rfl ?_
  refine GG.val (fun w' b' => R.buildV rfl rfl (v := .agg #[Value.int IntKind.i64 3, Value.int IntKind.i64 l, Value.int IntKind.i64 0, Value.slice x n c, Value.int IntKind.i64 0, Value.int IntKind.i64 0, strV t]) (fun _ => by kernel_rfl)) rfl rfl ?_
  refine GG.call (fun w' => (R.callV rfl rfl rfl rfl)) rfl rfl (fun w' b' => (my3_F _ _ _ _ _ _ _ w' ⟨_, _, _, rfl⟩ htl hmy).mono fun e W' h => ⟨h.1, b'.trans (h.2.mono b'.size)⟩) ?_
  refine GG.val (fun w' b' => R.not rfl rfl) rfl rfl ?_
  refine GG.val (fun w' b' => R.pick rfl rfl rfl) rfl rfl ?_
  refine GG.nil (fun W46 b45 => ?_)
  have zb45 := b45.size; replace b32 := Zu b32 b45; replace b24 := Zu b24 b45; replace b21 := Zu b21 b45; replace r10 := r10.up b45; replace b7 := Zu b7 b45; replace r4 := r4.up b45; replace b1 := Zu b1 b45; replace q := Zu q b45; replace r35 := r35.up b45
  refine LL.callP (R.call rfl rfl rfl) rfl rfl (refuse_T _) ?_
  rintro e W48 ⟨rfl, rfl⟩
  refine ⟨_, rfl, ?_⟩; refine EE.thenP ?_; refine EE.panM ?_
  exact ⟨rfl, q⟩
  have l49 := r10.lt; have l50 := r4.lt
  refine ZR.alloc ([Value.nilFunc, Value.nilFunc, Value.nilFunc, Value.nilFunc]) rfl rfl rfl rfl rfl rfl ?_
  intro W52 g53 eg53 r54 z55 b51
  replace h26 := h26.up b51; replace b24 := Zu b24 b51; replace b21 := Zu b21 b51; replace r10 := r10.up b51; replace b7 := Zu b7 b51; replace r4 := r4.up b51; replace b1 := Zu b1 b51; replace q := Zu q b51; replace hok := Zh hok b51; have y56 := hok.size
  refine ⟨hok, ?_⟩
  refine AA.one 3 (by kernel_rfl) ?_
  (refine SR.val rfl (R.lookKT rfl rfl zKeys (by rfl) (z := kdZ) (by kernel_rfl) (by assumption) (3 : Int) rfl kF_3) rfl rfl hok ?_)
  refine AA.pure 4 rfl hok (by kernel_rfl) (fun w' b' => R.move rfl rfl) rfl rfl ?_
  refine AA.pure 5 rfl hok (by kernel_rfl) (fun w' b' => R.extract rfl rfl rfl) rfl rfl ?_
  refine AA.pure 6 rfl hok (by kernel_rfl) (fun w' b' => R.extract rfl rfl rfl) rfl rfl ?_
  refine AA.one 8 (by kernel_rfl) ?_
  refine ZR.storeN (vs := [fnV kd3.1, fnV kd3.2.1, fnV kd3.2.2.1, fnV kd3.2.2.2]) rfl rfl rfl rfl rfl r54 (by exact Nat.le_of_ble_eq_true rfl) (ones_of rfl) rfl rfl ?_
  intro W58 r59 b57 z60
  have hlb57 := r54.lt
  replace r59 : RowL W58 _ 68 [fnV kd3.1, fnV kd3.2.1, fnV kd3.2.2.1, fnV kd3.2.2.2] := r59
  clear r54
  replace b51 := Zg b51 b57; replace b24 := Zg b24 b57; replace b21 := Zg b21 b57; replace r10 := Zd r10 b57; replace b7 := Zg b7 b57; replace r4 := Zd r4 b57; replace b1 := Zg b1 b57; replace q := Zg q b57; replace hok := Zo hok b57
  have r54 := r59
  clear r59
  refine ⟨hok, ?_⟩
  refine AA.pure 9 rfl hok (by kernel_rfl) (fun w' b' => R.assign rfl rfl) rfl rfl ?_
  refine AA.done rfl ?_
  clear fzr10 fzr4 hok
  refine EE.thenN ?_; refine Zr ?_; refine Zm ?_; refine Zt ?_; refine Zm ?_; refine Zf ?_; refine Zl r4 ?_
  refine LL.call (R.call rfl rfl rfl) rfl rfl rfl (within_T _ _ _ _ (by first | assumption | omega)) ?_
  rintro e W' ⟨rfl, rfl⟩
  refine ⟨_, rfl, ?_⟩; refine Zt ?_; refine Zp ?_
  refine LL.call (R.call rfl rfl rfl) rfl rfl rfl (refuse_F _) ?_
  rintro e W' ⟨rfl, rfl⟩
  refine ⟨_, rfl, ?_⟩; refine Zq ?_; refine Zc ?_
  refine CC.growT 15 (by kernel_rfl) (by kernel_rfl) ?_
  refine GG.val (fun w' b' => R.load rfl rfl (I.ldNc (vs := [Value.int IntKind.i64 3, Value.int IntKind.i64 l, Value.int IntKind.i64 0, Value.slice x n c, Value.int IntKind.i64 0, Value.int IntKind.i64 0, strV t]) (RowL.cells (r4.up b') rfl) (by rfl) (by rfl))) rfl rfl ?_
  refine GG.val (fun w' b' => R.field rfl rfl (I.fld rfl)) rfl rfl ?_
  refine GG.val (fun w' b' => R.load rfl rfl (I.ld1 rfl (RowL.cell (r54.up b') rfl))) rfl rfl ?_
  refine GG.val (fun w' b' => R.load rfl rfl (I.ldNc (vs := [Value.int IntKind.i64 3, Value.int IntKind.i64 l, Value.int IntKind.i64 0, Value.slice x n c, Value.int IntKind.i64 0, Value.int IntKind.i64 0, strV t]) (RowL.cells (r4.up b') rfl) (by rfl) (by rfl))) rfl rfl ?_
  refine GG.call (fun w' => (R.callV rfl rfl rfl rfl)) rfl rfl (fun w' b' => (nm3_any _ _ _ _ _ _ _ w' ⟨_, _, _, rfl⟩).mono fun e W' h => ⟨h.1, b'.trans (h.2.mono b'.size)⟩) ?_
  refine GG.call (fun w' => (R.call rfl rfl rfl)) rfl rfl (fun w' b' => (insame_any _ _ _ _ m _ _ _ _ _ _ _ [] _ _ _ w' (hvF _ (q.trans (b'.mono q.size))) (ReadsT.nil _) hlen (by decide) true hsm).mono fun e W' h => ⟨h.1, b'.trans (h.2.mono b'.size)⟩) ?_
  refine GG.val (fun w' b' => R.not rfl rfl) rfl rfl ?_
  refine GG.val (fun w' b' => R.move rfl rfl) rfl rfl ?_
  refine GG.val (fun w' b' => R.field rfl rfl (I.fld rfl)) rfl rfl ?_
  refine GG.val (fun w' b' => R.load rfl rfl (I.ld1 rfl (RowL.cell (r54.up b') rfl))) rfl rfl ?_
  refine GG.val (fun w' b' => R.load rfl rfl (I.ldNc (vs := [Value.int IntKind.i64 3, Value.int IntKind.i64 l, Value.int IntKind.i64 0, Value.slice x n c, Value.int IntKind.i64 0, Value.int IntKind.i64 0, strV t]) (RowL.cells (r4.up b') rfl) (by rfl) (by rfl))) rfl rfl ?_
  refine GG.val (fun w' b' => R.buildV rfl rfl (v := .agg #[Value.int IntKind.i64 3, Value.int IntKind.i64 l, Value.int IntKind.i64 0, Value.slice x n c, Value.int IntKind.i64 0, Value.int IntKind.i64 0, strV t]) (fun _ => by kernel_rfl)) rfl rfl ?_
  refine GG.call (fun w' => (R.callV rfl rfl rfl rfl)) rfl rfl (fun w' b' => (my3_F _ _ _ _ _ _ _ w' ⟨_, _, _, rfl⟩ htl hmy).mono fun e W' h => ⟨h.1, b'.trans (h.2.mono b'.size)⟩) ?_
  refine GG.val (fun w' b' => R.not rfl rfl) rfl rfl ?_
  refine GG.val (fun w' b' => R.pick rfl rfl rfl) rfl rfl ?_
  refine GG.nil (fun W65 b64 => ?_)
  have zb64 := b64.size; replace b51 := Zu b51 b64; replace b24 := Zu b24 b64; replace b21 := Zu b21 b64; replace r10 := r10.up b64; replace b7 := Zu b7 b64; replace r4 := r4.up b64; replace b1 := Zu b1 b64; replace q := Zu q b64; replace r54 := r54.up b64
  refine LL.callP (R.call rfl rfl rfl) rfl rfl (refuse_T _) ?_
  rintro e W67 ⟨rfl, rfl⟩
  refine ⟨_, rfl, ?_⟩; refine EE.thenP ?_; refine EE.panM ?_
  exact ⟨rfl, q⟩
  have l68 := r10.lt; have l69 := r4.lt
  refine ZR.alloc ([Value.nilFunc, Value.nilFunc, Value.nilFunc, Value.nilFunc]) rfl rfl rfl rfl rfl rfl ?_
  intro W71 g72 eg72 r73 z74 b70
  replace b21 := Zu b21 b70; replace r10 := r10.up b70; replace b7 := Zu b7 b70; replace r4 := r4.up b70; replace b1 := Zu b1 b70; replace q := Zu q b70; replace hok := Zh hok b70; have y75 := hok.size
  refine ⟨hok, ?_⟩
  refine AA.one 0 (by kernel_rfl) ?_
  refine SR.call rfl (R.call rfl rfl rfl) rfl rfl (kinds_any _) ?_
  rintro e W77 ⟨g79, k80, rfl, h78, b76⟩
  have zb76 := b76.size; replace r73 := r73.up b76; replace b70 := Zu b70 b76; replace b21 := Zu b21 b76; replace r10 := r10.up b76; replace b7 := Zu b7 b76; replace r4 := r4.up b76; replace b1 := Zu b1 b76; replace q := Zu q b76; replace hok := Zh hok b76; have y81 := hok.size
  refine ⟨_, rfl, hok, ?_⟩
  refine AA.one 3 (by kernel_rfl) ?_
  (refine SR.val rfl (R.lookKT rfl rfl zKeys (by rfl) (z := kdZ) (by kernel_rfl) (by assumption) (3 : Int) rfl kF_3) rfl rfl hok ?_)
  refine AA.pure 4 rfl hok (by kernel_rfl) (fun w' b' => R.move rfl rfl) rfl rfl ?_
  refine AA.pure 5 rfl hok (by kernel_rfl) (fun w' b' => R.extract rfl rfl rfl) rfl rfl ?_
  refine AA.pure 6 rfl hok (by kernel_rfl) (fun w' b' => R.extract rfl rfl rfl) rfl rfl ?_
  refine AA.one 8 (by kernel_rfl) ?_
  refine ZR.storeN (vs := [fnV kd3.1, fnV kd3.2.1, fnV kd3.2.2.1, fnV kd3.2.2.2]) rfl rfl rfl rfl rfl r73 (by exact Nat.le_of_ble_eq_true rfl) (ones_of rfl) rfl rfl ?_
  intro W83 r84 b82 z85
  have hlb82 := r73.lt
  replace r84 : RowL W83 _ 68 [fnV kd3.1, fnV kd3.2.1, fnV kd3.2.2.1, fnV kd3.2.2.2] := r84
  clear r73
  replace b70 := Zg b70 b82; replace b21 := Zg b21 b82; replace r10 := Zd r10 b82; replace b7 := Zg b7 b82; replace r4 := Zd r4 b82; replace b1 := Zg b1 b82; replace q := Zg q b82; replace hok := Zo hok b82
  have r73 := r84
  clear r84
  refine ⟨hok, ?_⟩
  refine AA.pure 9 rfl hok (by kernel_rfl) (fun w' b' => R.assign rfl rfl) rfl rfl ?_
  refine AA.done rfl ?_
  clear fzr10 fzr4 hok
  refine EE.thenN ?_; refine Zr ?_; refine Zm ?_; refine Zt ?_; refine Zm ?_; refine Zf ?_; refine Zl r4 ?_
  refine LL.call (R.call rfl rfl rfl) rfl rfl rfl (within_T _ _ _ _ (by first | assumption | omega)) ?_
  rintro e W' ⟨rfl, rfl⟩
  refine ⟨_, rfl, ?_⟩; refine Zt ?_; refine Zp ?_
  refine LL.call (R.call rfl rfl rfl) rfl rfl rfl (refuse_F _) ?_
  rintro e W' ⟨rfl, rfl⟩
  refine ⟨_, rfl, ?_⟩; refine Zq ?_; refine Zc ?_
  refine CC.growT 15 (by kernel_rfl) (by kernel_rfl) ?_
  refine GG.val (fun w' b' => R.load rfl rfl (I.ldNc (vs := [Value.int IntKind.i64 3, Value.int IntKind.i64 l, Value.int IntKind.i64 0, Value.slice x n c, Value.int IntKind.i64 0, Value.int IntKind.i64 0, strV t]) (RowL.cells (r4.up b') rfl) (by rfl) (by rfl))) rfl rfl ?_
  refine GG.val (fun w' b' => R.field rfl rfl (I.fld rfl)) rfl rfl ?_
  refine GG.val (fun w' b' => R.load rfl rfl (I.ld1 rfl (RowL.cell (r73.up b') rfl))) rfl rfl ?_
  refine GG.val (fun w' b' => R.load rfl rfl (I.ldNc (vs := [Value.int IntKind.i64 3, Value.int IntKind.i64 l, Value.int IntKind.i64 0, Value.slice x n c, Value.int IntKind.i64 0, Value.int IntKind.i64 0, strV t]) (RowL.cells (r4.up b') rfl) (by rfl) (by rfl))) rfl rfl ?_
  refine GG.call (fun w' => (R.callV rfl rfl rfl rfl)) rfl rfl (fun w' b' => (nm3_any _ _ _ _ _ _ _ w' ⟨_, _, _, rfl⟩).mono fun e W' h => ⟨h.1, b'.trans (h.2.mono b'.size)⟩) ?_
  refine GG.call (fun w' => (R.call rfl rfl rfl)) rfl rfl (fun w' b' => (insame_any _ _ _ _ m _ _ _ _ _ _ _ [] _ _ _ w' (hvF _ (q.trans (b'.mono q.size))) (ReadsT.nil _) hlen (by decide) true hsm).mono fun e W' h => ⟨h.1, b'.trans (h.2.mono b'.size)⟩) ?_
  refine GG.val (fun w' b' => R.not rfl rfl) rfl rfl ?_
  refine GG.val (fun w' b' => R.move rfl rfl) rfl rfl ?_
  refine GG.val (fun w' b' => R.field rfl rfl (I.fld rfl)) rfl rfl ?_
  refine GG.val (fun w' b' => R.load rfl rfl (I.ld1 rfl (RowL.cell (r73.up b') rfl))) rfl rfl ?_
  refine GG.val (fun w' b' => R.load rfl rfl (I.ldNc (vs := [Value.int IntKind.i64 3, Value.int IntKind.i64 l, Value.int IntKind.i64 0, Value.slice x n c, Value.int IntKind.i64 0, Value.int IntKind.i64 0, strV t]) (RowL.cells (r4.up b') rfl) (by rfl) (by rfl))) rfl rfl ?_
  refine GG.val (fun w' b' => R.buildV rfl rfl (v := .agg #[Value.int IntKind.i64 3, Value.int IntKind.i64 l, Value.int IntKind.i64 0, Value.slice x n c, Value.int IntKind.i64 0, Value.int IntKind.i64 0, strV t]) (fun _ => by kernel_rfl)) rfl rfl ?_
  refine GG.call (fun w' => (R.callV rfl rfl rfl rfl)) rfl rfl (fun w' b' => (my3_F _ _ _ _ _ _ _ w' ⟨_, _, _, rfl⟩ htl hmy).mono fun e W' h => ⟨h.1, b'.trans (h.2.mono b'.size)⟩) ?_
  refine GG.val (fun w' b' => R.not rfl rfl) rfl rfl ?_
  refine GG.val (fun w' b' => R.pick rfl rfl rfl) rfl rfl ?_
  refine GG.nil (fun W90 b89 => ?_)
  have zb89 := b89.size; replace b70 := Zu b70 b89; replace b21 := Zu b21 b89; replace r10 := r10.up b89; replace b7 := Zu b7 b89; replace r4 := r4.up b89; replace b1 := Zu b1 b89; replace q := Zu q b89; replace r73 := r73.up b89
  refine LL.callP (R.call rfl rfl rfl) rfl rfl (refuse_T _) ?_
  rintro e W92 ⟨rfl, rfl⟩
  refine ⟨_, rfl, ?_⟩; refine EE.thenP ?_; refine EE.panM ?_
  exact ⟨rfl, q⟩
end Go.Proofs.YtnoefalgmekjbaaDoor
