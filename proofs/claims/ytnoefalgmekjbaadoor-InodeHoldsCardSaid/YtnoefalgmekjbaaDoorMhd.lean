/- What the statements' walks use: In10, In11, In12, In13, In14, WEq, In15, In16, In17, In18, In19, In20, In21, In22, In23. -/
import Derived.Test.YtnoefalgmekjbaaDoorProg
import Derived.Test.YtnoefalgmekjbaaDoorMha
import Derived.Test.YtnoefalgmekjbaaDoorMhb
import Derived.Test.YtnoefalgmekjbaaDoorMhc
/- inode: check, for all kinds, both ways (written by gen10.py). -/
namespace Go.Proofs.YtnoefalgmekjbaaDoor
set_option linter.unusedVariables false
set_option linter.unusedSimpArgs false
open Go.RowKit Go.Shelf
set_option maxRecDepth 100000
set_option maxHeartbeats 8000000
theorem check_gT (k l z r p : Int) (t : Bs) (x : Option Addr) (n c : Nat) (w : World) (f1 f2 f3 f4 : Nat) (hkF : kindsF k = some (f1, f2, f3, f4)) (e1 : entB Tryd.prog f1 = true) (e2 : entB Tryd.prog f2 = true) (k' l' z' r' p' : Int) (t' : Bs) (x' : Option Addr) (n' c' : Nat) (cN : ∀ W, Calls Tryd.prog f1 #[inV k l z (.slice x n c) r p t] W fun e w' => e = .returned (inV k' l' z' (.slice x' n' c') r' p' t') ∧ Below W.heap.size W w') (hl : 0 ≤ l ∧ l ≤ 65535) (hsm : ∀ W, Below w.heap.size w W → Calls Tryd.prog 25 #[inV k l z (.slice x n c) r p t, inV k' l' z' (.slice x' n' c') r' p' t'] W fun e w' => e = .returned (.bool true) ∧ Below W.heap.size W w') (cM : ∀ W, Below w.heap.size w W → Calls Tryd.prog f2 #[inV k l z (.slice x n c) r p t] W fun e w' => e = .returned (.bool true) ∧ Below W.heap.size W w') : Calls Tryd.prog 29 #[inV k l z (.slice x n c) r p t] w fun e w' => e = .returned (kdV (f1, f2, f3, f4)) ∧ Below w.heap.size w w' := by
  have q := Below.refl w.heap.size w
  refine X.fn Tryd.func29 rfl (n := 38) rfl rfl ?_
  refine Zr ?_
  refine LL.box [.int .i64 k, .int .i64 l, .int .i64 z, .slice x n c, .int .i64 r, .int .i64 p, strV t] rfl rfl rfl rfl rfl ?_
  intro W2 g3 eg3 r4 z5 b1
  replace q := Zu q b1; have l6 := r4.lt
  refine LL.alloc ([Value.nilFunc, Value.nilFunc, Value.nilFunc, Value.nilFunc]) rfl rfl rfl rfl rfl ?_
  intro W8 g9 eg9 r10 z11 b7
  replace r4 := r4.up b7; replace b1 := Zu b1 b7; replace q := Zu q b7; refine Zq ?_; refine Zc ?_
  refine CC.freeZ (fun W_ j => j < W_.heap.size ∧ (True)) (by kernel_rfl) (by kernel_rfl) (fun W22 b21 z23 => ?_)
  replace r10 := r10.up b21; replace b7 := Zu b7 b21; replace r4 := r4.up b21; replace b1 := Zu b1 b21; replace q := Zu q b21
  have hok : Kept (fun j => j < W22.heap.size ∧ (True)) W22 W22 := Kept.refl _ _
  have fzr10 := fzRow (K := fun j => j < W22.heap.size ∧ (True)) r10 ⟨r10.lt, (by first | trivial | omega)⟩
  have fzr4 := fzRow (K := fun j => j < W22.heap.size ∧ (True)) r4 ⟨r4.lt, (by first | trivial | omega)⟩
  refine AA.pure 1 rfl hok (by kernel_rfl) (fun w' b' => R.field rfl rfl (I.fld rfl)) rfl rfl ?_
  refine AA.pure 2 rfl hok (by kernel_rfl) (fun w' b' => R.load rfl rfl (I.ld1 rfl (RowL.cell (fzr4 w' b') rfl))) rfl rfl ?_
  refine AA.two 0 7 (by kernel_rfl) ?_ ?_
  refine SR.call rfl (R.call rfl rfl rfl) rfl rfl (kinds_any _) ?_
  rintro e W25 ⟨g27, k28, rfl, h26, b24⟩
  have zb24 := b24.size; replace b21 := Zu b21 b24; replace r10 := r10.up b24; replace b7 := Zu b7 b24; replace r4 := r4.up b24; replace b1 := Zu b1 b24; replace q := Zu q b24; replace hok := Zh hok b24; have y29 := hok.size
  refine ⟨_, rfl, hok, ?_⟩
  refine AA.two 3 7 (by kernel_rfl) ?_ ?_
  (refine SR.val rfl (R.lookKT rfl rfl zKeys (by rfl) (z := kdZ) (by kernel_rfl) (by assumption) k rfl hkF) rfl rfl hok ?_)
  refine AA.pure 4 rfl hok (by kernel_rfl) (fun w' b' => R.move rfl rfl) rfl rfl ?_
  refine AA.pure 5 rfl hok (by kernel_rfl) (fun w' b' => R.extract rfl rfl rfl) rfl rfl ?_
  refine AA.pure 6 rfl hok (by kernel_rfl) (fun w' b' => R.extract rfl rfl rfl) rfl rfl ?_
  refine AA.one 7 (by kernel_rfl) ?_
  have l30 := r10.lt; have l31 := r4.lt
  refine ZR.alloc ([Value.nilFunc, Value.nilFunc, Value.nilFunc, Value.nilFunc]) rfl rfl rfl rfl rfl rfl ?_
  intro W33 g34 eg34 r35 z36 b32
  replace h26 := h26.up b32; replace b24 := Zu b24 b32; replace b21 := Zu b21 b32; replace r10 := r10.up b32; replace b7 := Zu b7 b32; replace r4 := r4.up b32; replace b1 := Zu b1 b32; replace q := Zu q b32; replace hok := Zh hok b32; have y37 := hok.size
  refine ⟨hok, ?_⟩
  refine AA.one 8 (by kernel_rfl) ?_
  refine ZR.storeN (vs := [fnV f1, fnV f2, fnV f3, fnV f4]) rfl rfl rfl rfl rfl r35 (by exact Nat.le_of_ble_eq_true rfl) (ones_of rfl) rfl rfl ?_
  intro W39 r40 b38 z41
  have hlb38 := r35.lt
  replace r40 : RowL W39 _ 68 [fnV f1, fnV f2, fnV f3, fnV f4] := r40
  clear r35
  replace b32 := Zg b32 b38; replace b24 := Zg b24 b38; replace b21 := Zg b21 b38; replace r10 := Zd r10 b38; replace b7 := Zg b7 b38; replace r4 := Zd r4 b38; replace b1 := Zg b1 b38; replace q := Zg q b38; replace hok := Zo hok b38
  have r35 := r40
  clear r40
  refine ⟨hok, ?_⟩
  refine AA.pure 9 rfl hok (by kernel_rfl) (fun w' b' => R.assign rfl rfl) rfl rfl ?_
  refine AA.done rfl ?_
  clear fzr10 fzr4 hok
  refine ZT ?_; refine Zr ?_; refine Zm ?_; refine Zt ?_; refine Zm ?_; refine Zf ?_; refine Zl r4 ?_
  refine Zy (R.call rfl rfl rfl) (within_T _ _ _ _ (by first | assumption | omega)) ?_
  rintro e W' ⟨rfl, rfl⟩
  refine ⟨_, rfl, ?_⟩; refine Zt ?_; refine Zp ?_
  refine Zy (R.call rfl rfl rfl) (refuse_F _) ?_
  rintro e W' ⟨rfl, rfl⟩
  refine ⟨_, rfl, ?_⟩; refine Zq ?_; refine Zc ?_
  refine CC.growT 15 (by kernel_rfl) (by kernel_rfl) ?_
  refine Gv r4 ?_
  refine Gf ?_
  refine Gl r35 ?_
  refine Gv r4 ?_
  refine GG.call (fun w' => (R.callV rfl rfl rfl e1)) rfl rfl (fun w' b' => (cN w').mono fun e W' h => ⟨h.1, b'.trans (h.2.mono b'.size)⟩) ?_
  refine Gc (fun w' b' => hsm w' (q.trans (b'.mono q.size))) ?_
  refine Gt ?_
  refine Gm ?_
  refine Gf ?_
  refine Gl r35 ?_
  refine Gv r4 ?_
  refine GG.val (fun w' b' => R.buildV rfl rfl (v := .agg #[Value.int IntKind.i64 k, Value.int IntKind.i64 l, Value.int IntKind.i64 z, Value.slice x n c, Value.int IntKind.i64 r, Value.int IntKind.i64 p, strV t]) (fun _ => by kernel_rfl)) rfl rfl ?_
  refine GG.call (fun w' => (R.callV rfl rfl rfl e2)) rfl rfl (fun w' b' => (cM w' (q.trans (b'.mono q.size))).mono fun e W' h => ⟨h.1, b'.trans (h.2.mono b'.size)⟩) ?_
  refine Gt ?_
  refine GG.val (fun w' b' => R.pick rfl rfl rfl) rfl rfl ?_
  refine GG.nil (fun W46 b45 => ?_)
  have zb45 := b45.size; replace b32 := Zu b32 b45; replace b24 := Zu b24 b45; replace b21 := Zu b21 b45; replace r10 := r10.up b45; replace b7 := Zu b7 b45; replace r4 := r4.up b45; replace b1 := Zu b1 b45; replace q := Zu q b45; replace r35 := r35.up b45
  refine Zy (R.call rfl rfl rfl) (refuse_F _) ?_
  rintro e W' ⟨rfl, rfl⟩
  refine ⟨_, rfl, ?_⟩; refine Zq ?_; refine Zr ?_; refine Zv r35 ?_
  refine LL.storeN (vs := [fnV f1, fnV f2, fnV f3, fnV f4]) rfl rfl rfl rfl r10 (by exact Nat.le_of_ble_eq_true rfl) (ones_of rfl) rfl rfl ?_
  intro W48 r49 b47 z50
  have hlb47 := r10.lt
  replace r49 : RowL W48 _ 68 [fnV f1, fnV f2, fnV f3, fnV f4] := r49
  clear r10
  replace b7 := Zg b7 b47; replace r4 := Zd r4 b47; replace b1 := Zg b1 b47; replace q := Zg q b47; replace r35 := Zd r35 b47
  have r10 := r49
  clear r49
  refine Zq ?_; refine ZR ?_
  refine EE.retC rfl rfl (lvNc (RowL.cells0 (by assumption)) (by rfl) (by rfl)) ?_
  exact ⟨rfl, q⟩
  have l51 := r10.lt; have l52 := r4.lt
  refine ZR.alloc ([Value.nilFunc, Value.nilFunc, Value.nilFunc, Value.nilFunc]) rfl rfl rfl rfl rfl rfl ?_
  intro W54 g55 eg55 r56 z57 b53
  replace h26 := h26.up b53; replace b24 := Zu b24 b53; replace b21 := Zu b21 b53; replace r10 := r10.up b53; replace b7 := Zu b7 b53; replace r4 := r4.up b53; replace b1 := Zu b1 b53; replace q := Zu q b53; replace hok := Zh hok b53; have y58 := hok.size
  refine ⟨hok, ?_⟩
  refine AA.one 3 (by kernel_rfl) ?_
  (refine SR.val rfl (R.lookKT rfl rfl zKeys (by rfl) (z := kdZ) (by kernel_rfl) (by assumption) k rfl hkF) rfl rfl hok ?_)
  refine AA.pure 4 rfl hok (by kernel_rfl) (fun w' b' => R.move rfl rfl) rfl rfl ?_
  refine AA.pure 5 rfl hok (by kernel_rfl) (fun w' b' => R.extract rfl rfl rfl) rfl rfl ?_
  refine AA.pure 6 rfl hok (by kernel_rfl) (fun w' b' => R.extract rfl rfl rfl) rfl rfl ?_
  refine AA.one 8 (by kernel_rfl) ?_
  refine ZR.storeN (vs := [fnV f1, fnV f2, fnV f3, fnV f4]) rfl rfl rfl rfl rfl r56 (by exact Nat.le_of_ble_eq_true rfl) (ones_of rfl) rfl rfl ?_
  intro W60 r61 b59 z62
  have hlb59 := r56.lt
  replace r61 : RowL W60 _ 68 [fnV f1, fnV f2, fnV f3, fnV f4] := r61
  clear r56
  replace b53 := Zg b53 b59; replace b24 := Zg b24 b59; replace b21 := Zg b21 b59; replace r10 := Zd r10 b59; replace b7 := Zg b7 b59; replace r4 := Zd r4 b59; replace b1 := Zg b1 b59; replace q := Zg q b59; replace hok := Zo hok b59
  have r56 := r61
  clear r61
  refine ⟨hok, ?_⟩
  refine AA.pure 9 rfl hok (by kernel_rfl) (fun w' b' => R.assign rfl rfl) rfl rfl ?_
  refine AA.done rfl ?_
  clear fzr10 fzr4 hok
  refine ZT ?_; refine Zr ?_; refine Zm ?_; refine Zt ?_; refine Zm ?_; refine Zf ?_; refine Zl r4 ?_
  refine Zy (R.call rfl rfl rfl) (within_T _ _ _ _ (by first | assumption | omega)) ?_
  rintro e W' ⟨rfl, rfl⟩
  refine ⟨_, rfl, ?_⟩; refine Zt ?_; refine Zp ?_
  refine Zy (R.call rfl rfl rfl) (refuse_F _) ?_
  rintro e W' ⟨rfl, rfl⟩
  refine ⟨_, rfl, ?_⟩; refine Zq ?_; refine Zc ?_
  refine CC.growT 15 (by kernel_rfl) (by kernel_rfl) ?_
  refine Gv r4 ?_
  refine Gf ?_
  refine Gl r56 ?_
  refine Gv r4 ?_
  refine GG.call (fun w' => (R.callV rfl rfl rfl e1)) rfl rfl (fun w' b' => (cN w').mono fun e W' h => ⟨h.1, b'.trans (h.2.mono b'.size)⟩) ?_
  refine Gc (fun w' b' => hsm w' (q.trans (b'.mono q.size))) ?_
  refine Gt ?_
  refine Gm ?_
  refine Gf ?_
  refine Gl r56 ?_
  refine Gv r4 ?_
  refine GG.val (fun w' b' => R.buildV rfl rfl (v := .agg #[Value.int IntKind.i64 k, Value.int IntKind.i64 l, Value.int IntKind.i64 z, Value.slice x n c, Value.int IntKind.i64 r, Value.int IntKind.i64 p, strV t]) (fun _ => by kernel_rfl)) rfl rfl ?_
  refine GG.call (fun w' => (R.callV rfl rfl rfl e2)) rfl rfl (fun w' b' => (cM w' (q.trans (b'.mono q.size))).mono fun e W' h => ⟨h.1, b'.trans (h.2.mono b'.size)⟩) ?_
  refine Gt ?_
  refine GG.val (fun w' b' => R.pick rfl rfl rfl) rfl rfl ?_
  refine GG.nil (fun W67 b66 => ?_)
  have zb66 := b66.size; replace b53 := Zu b53 b66; replace b24 := Zu b24 b66; replace b21 := Zu b21 b66; replace r10 := r10.up b66; replace b7 := Zu b7 b66; replace r4 := r4.up b66; replace b1 := Zu b1 b66; replace q := Zu q b66; replace r56 := r56.up b66
  refine Zy (R.call rfl rfl rfl) (refuse_F _) ?_
  rintro e W' ⟨rfl, rfl⟩
  refine ⟨_, rfl, ?_⟩; refine Zq ?_; refine Zr ?_; refine Zv r56 ?_
  refine LL.storeN (vs := [fnV f1, fnV f2, fnV f3, fnV f4]) rfl rfl rfl rfl r10 (by exact Nat.le_of_ble_eq_true rfl) (ones_of rfl) rfl rfl ?_
  intro W69 r70 b68 z71
  have hlb68 := r10.lt
  replace r70 : RowL W69 _ 68 [fnV f1, fnV f2, fnV f3, fnV f4] := r70
  clear r10
  replace b7 := Zg b7 b68; replace r4 := Zd r4 b68; replace b1 := Zg b1 b68; replace q := Zg q b68; replace r56 := Zd r56 b68
  have r10 := r70
  clear r70
  refine Zq ?_; refine ZR ?_
  refine EE.retC rfl rfl (lvNc (RowL.cells0 (by assumption)) (by rfl) (by rfl)) ?_
  exact ⟨rfl, q⟩
  have l72 := r10.lt; have l73 := r4.lt
  refine ZR.alloc ([Value.nilFunc, Value.nilFunc, Value.nilFunc, Value.nilFunc]) rfl rfl rfl rfl rfl rfl ?_
  intro W75 g76 eg76 r77 z78 b74
  replace b21 := Zu b21 b74; replace r10 := r10.up b74; replace b7 := Zu b7 b74; replace r4 := r4.up b74; replace b1 := Zu b1 b74; replace q := Zu q b74; replace hok := Zh hok b74; have y79 := hok.size
  refine ⟨hok, ?_⟩
  refine AA.one 0 (by kernel_rfl) ?_
  refine SR.call rfl (R.call rfl rfl rfl) rfl rfl (kinds_any _) ?_
  rintro e W81 ⟨g83, k84, rfl, h82, b80⟩
  have zb80 := b80.size; replace r77 := r77.up b80; replace b74 := Zu b74 b80; replace b21 := Zu b21 b80; replace r10 := r10.up b80; replace b7 := Zu b7 b80; replace r4 := r4.up b80; replace b1 := Zu b1 b80; replace q := Zu q b80; replace hok := Zh hok b80; have y85 := hok.size
  refine ⟨_, rfl, hok, ?_⟩
  refine AA.one 3 (by kernel_rfl) ?_
  (refine SR.val rfl (R.lookKT rfl rfl zKeys (by rfl) (z := kdZ) (by kernel_rfl) (by assumption) k rfl hkF) rfl rfl hok ?_)
  refine AA.pure 4 rfl hok (by kernel_rfl) (fun w' b' => R.move rfl rfl) rfl rfl ?_
  refine AA.pure 5 rfl hok (by kernel_rfl) (fun w' b' => R.extract rfl rfl rfl) rfl rfl ?_
  refine AA.pure 6 rfl hok (by kernel_rfl) (fun w' b' => R.extract rfl rfl rfl) rfl rfl ?_
  refine AA.one 8 (by kernel_rfl) ?_
  refine ZR.storeN (vs := [fnV f1, fnV f2, fnV f3, fnV f4]) rfl rfl rfl rfl rfl r77 (by exact Nat.le_of_ble_eq_true rfl) (ones_of rfl) rfl rfl ?_
  intro W87 r88 b86 z89
  have hlb86 := r77.lt
  replace r88 : RowL W87 _ 68 [fnV f1, fnV f2, fnV f3, fnV f4] := r88
  clear r77
  replace b74 := Zg b74 b86; replace b21 := Zg b21 b86; replace r10 := Zd r10 b86; replace b7 := Zg b7 b86; replace r4 := Zd r4 b86; replace b1 := Zg b1 b86; replace q := Zg q b86; replace hok := Zo hok b86
  have r77 := r88
  clear r88
  refine ⟨hok, ?_⟩
  refine AA.pure 9 rfl hok (by kernel_rfl) (fun w' b' => R.assign rfl rfl) rfl rfl ?_
  refine AA.done rfl ?_
  clear fzr10 fzr4 hok
  refine ZT ?_; refine Zr ?_; refine Zm ?_; refine Zt ?_; refine Zm ?_; refine Zf ?_; refine Zl r4 ?_
  refine Zy (R.call rfl rfl rfl) (within_T _ _ _ _ (by first | assumption | omega)) ?_
  rintro e W' ⟨rfl, rfl⟩
  refine ⟨_, rfl, ?_⟩; refine Zt ?_; refine Zp ?_
  refine Zy (R.call rfl rfl rfl) (refuse_F _) ?_
  rintro e W' ⟨rfl, rfl⟩
  refine ⟨_, rfl, ?_⟩; refine Zq ?_; refine Zc ?_
  refine CC.growT 15 (by kernel_rfl) (by kernel_rfl) ?_
  refine Gv r4 ?_
  refine Gf ?_
  refine Gl r77 ?_
  refine Gv r4 ?_
  refine GG.call (fun w' => (R.callV rfl rfl rfl e1)) rfl rfl (fun w' b' => (cN w').mono fun e W' h => ⟨h.1, b'.trans (h.2.mono b'.size)⟩) ?_
  refine Gc (fun w' b' => hsm w' (q.trans (b'.mono q.size))) ?_
  refine Gt ?_
  refine Gm ?_
  refine Gf ?_
  refine Gl r77 ?_
  refine Gv r4 ?_
  refine GG.val (fun w' b' => R.buildV rfl rfl (v := .agg #[Value.int IntKind.i64 k, Value.int IntKind.i64 l, Value.int IntKind.i64 z, Value.slice x n c, Value.int IntKind.i64 r, Value.int IntKind.i64 p, strV t]) (fun _ => by kernel_rfl)) rfl rfl ?_
  refine GG.call (fun w' => (R.callV rfl rfl rfl e2)) rfl rfl (fun w' b' => (cM w' (q.trans (b'.mono q.size))).mono fun e W' h => ⟨h.1, b'.trans (h.2.mono b'.size)⟩) ?_
  refine Gt ?_
  refine GG.val (fun w' b' => R.pick rfl rfl rfl) rfl rfl ?_
  refine GG.nil (fun W94 b93 => ?_)
  have zb93 := b93.size; replace b74 := Zu b74 b93; replace b21 := Zu b21 b93; replace r10 := r10.up b93; replace b7 := Zu b7 b93; replace r4 := r4.up b93; replace b1 := Zu b1 b93; replace q := Zu q b93; replace r77 := r77.up b93
  refine Zy (R.call rfl rfl rfl) (refuse_F _) ?_
  rintro e W' ⟨rfl, rfl⟩
  refine ⟨_, rfl, ?_⟩; refine Zq ?_; refine Zr ?_; refine Zv r77 ?_
  refine LL.storeN (vs := [fnV f1, fnV f2, fnV f3, fnV f4]) rfl rfl rfl rfl r10 (by exact Nat.le_of_ble_eq_true rfl) (ones_of rfl) rfl rfl ?_
  intro W96 r97 b95 z98
  have hlb95 := r10.lt
  replace r97 : RowL W96 _ 68 [fnV f1, fnV f2, fnV f3, fnV f4] := r97
  clear r10
  replace b7 := Zg b7 b95; replace r4 := Zd r4 b95; replace b1 := Zg b1 b95; replace q := Zg q b95; replace r77 := Zd r77 b95
  have r10 := r97
  clear r97
  refine Zq ?_; refine ZR ?_
  refine EE.retC rfl rfl (lvNc (RowL.cells0 (by assumption)) (by rfl) (by rfl)) ?_
  exact ⟨rfl, q⟩
theorem check_gM (k l z r p : Int) (t : Bs) (x : Option Addr) (n c : Nat) (w : World) (f1 f2 f3 f4 : Nat) (hkF : kindsF k = some (f1, f2, f3, f4)) (e1 : entB Tryd.prog f1 = true) (e2 : entB Tryd.prog f2 = true) (k' l' z' r' p' : Int) (t' : Bs) (x' : Option Addr) (n' c' : Nat) (cN : ∀ W, Calls Tryd.prog f1 #[inV k l z (.slice x n c) r p t] W fun e w' => e = .returned (inV k' l' z' (.slice x' n' c') r' p' t') ∧ Below W.heap.size W w') (hl : 0 ≤ l ∧ l ≤ 65535) (hsm : ∀ W, Below w.heap.size w W → Calls Tryd.prog 25 #[inV k l z (.slice x n c) r p t, inV k' l' z' (.slice x' n' c') r' p' t'] W fun e w' => e = .returned (.bool true) ∧ Below W.heap.size W w') (cM : ∀ W, Below w.heap.size w W → Calls Tryd.prog f2 #[inV k l z (.slice x n c) r p t] W fun e w' => e = .returned (.bool false) ∧ Below W.heap.size W w') : Calls Tryd.prog 29 #[inV k l z (.slice x n c) r p t] w fun e w' => e = .panicked (chain1 refV) ∧ Below w.heap.size w w' := by
  have q := Below.refl w.heap.size w
  refine X.fnP Tryd.func29 rfl (n := 38) rfl rfl ?_
  refine Zr ?_
  refine LL.box [.int .i64 k, .int .i64 l, .int .i64 z, .slice x n c, .int .i64 r, .int .i64 p, strV t] rfl rfl rfl rfl rfl ?_
  intro W2 g3 eg3 r4 z5 b1
  replace q := Zu q b1; have l6 := r4.lt
  refine LL.alloc ([Value.nilFunc, Value.nilFunc, Value.nilFunc, Value.nilFunc]) rfl rfl rfl rfl rfl ?_
  intro W8 g9 eg9 r10 z11 b7
  replace r4 := r4.up b7; replace b1 := Zu b1 b7; replace q := Zu q b7; refine Zq ?_; refine Zc ?_
  refine CC.freeZ (fun W_ j => j < W_.heap.size ∧ (True)) (by kernel_rfl) (by kernel_rfl) (fun W22 b21 z23 => ?_)
  replace r10 := r10.up b21; replace b7 := Zu b7 b21; replace r4 := r4.up b21; replace b1 := Zu b1 b21; replace q := Zu q b21
  have hok : Kept (fun j => j < W22.heap.size ∧ (True)) W22 W22 := Kept.refl _ _
  have fzr10 := fzRow (K := fun j => j < W22.heap.size ∧ (True)) r10 ⟨r10.lt, (by first | trivial | omega)⟩
  have fzr4 := fzRow (K := fun j => j < W22.heap.size ∧ (True)) r4 ⟨r4.lt, (by first | trivial | omega)⟩
  refine AA.pure 1 rfl hok (by kernel_rfl) (fun w' b' => R.field rfl rfl (I.fld rfl)) rfl rfl ?_
  refine AA.pure 2 rfl hok (by kernel_rfl) (fun w' b' => R.load rfl rfl (I.ld1 rfl (RowL.cell (fzr4 w' b') rfl))) rfl rfl ?_
  refine AA.two 0 7 (by kernel_rfl) ?_ ?_
  refine SR.call rfl (R.call rfl rfl rfl) rfl rfl (kinds_any _) ?_
  rintro e W25 ⟨g27, k28, rfl, h26, b24⟩
  have zb24 := b24.size; replace b21 := Zu b21 b24; replace r10 := r10.up b24; replace b7 := Zu b7 b24; replace r4 := r4.up b24; replace b1 := Zu b1 b24; replace q := Zu q b24; replace hok := Zh hok b24; have y29 := hok.size
  refine ⟨_, rfl, hok, ?_⟩
  refine AA.two 3 7 (by kernel_rfl) ?_ ?_
  (refine SR.val rfl (R.lookKT rfl rfl zKeys (by rfl) (z := kdZ) (by kernel_rfl) (by assumption) k rfl hkF) rfl rfl hok ?_)
  refine AA.pure 4 rfl hok (by kernel_rfl) (fun w' b' => R.move rfl rfl) rfl rfl ?_
  refine AA.pure 5 rfl hok (by kernel_rfl) (fun w' b' => R.extract rfl rfl rfl) rfl rfl ?_
  refine AA.pure 6 rfl hok (by kernel_rfl) (fun w' b' => R.extract rfl rfl rfl) rfl rfl ?_
  refine AA.one 7 (by kernel_rfl) ?_
  have l30 := r10.lt; have l31 := r4.lt
  refine ZR.alloc ([Value.nilFunc, Value.nilFunc, Value.nilFunc, Value.nilFunc]) rfl rfl rfl rfl rfl rfl ?_
  intro W33 g34 eg34 r35 z36 b32
  replace h26 := h26.up b32; replace b24 := Zu b24 b32; replace b21 := Zu b21 b32; replace r10 := r10.up b32; replace b7 := Zu b7 b32; replace r4 := r4.up b32; replace b1 := Zu b1 b32; replace q := Zu q b32; replace hok := Zh hok b32; have y37 := hok.size
  refine ⟨hok, ?_⟩
  refine AA.one 8 (by kernel_rfl) ?_
  refine ZR.storeN (vs := [fnV f1, fnV f2, fnV f3, fnV f4]) rfl rfl rfl rfl rfl r35 (by exact Nat.le_of_ble_eq_true rfl) (ones_of rfl) rfl rfl ?_
  intro W39 r40 b38 z41
  have hlb38 := r35.lt
  replace r40 : RowL W39 _ 68 [fnV f1, fnV f2, fnV f3, fnV f4] := r40
  clear r35
  replace b32 := Zg b32 b38; replace b24 := Zg b24 b38; replace b21 := Zg b21 b38; replace r10 := Zd r10 b38; replace b7 := Zg b7 b38; replace r4 := Zd r4 b38; replace b1 := Zg b1 b38; replace q := Zg q b38; replace hok := Zo hok b38
  have r35 := r40
  clear r40
  refine ⟨hok, ?_⟩
  refine AA.pure 9 rfl hok (by kernel_rfl) (fun w' b' => R.assign rfl rfl) rfl rfl ?_
  refine AA.done rfl ?_
  clear fzr10 fzr4 hok
  refine ZT ?_; refine Zr ?_; refine Zm ?_; refine Zt ?_; refine Zm ?_; refine Zf ?_; refine Zl r4 ?_
  refine Zy (R.call rfl rfl rfl) (within_T _ _ _ _ (by first | assumption | omega)) ?_
  rintro e W' ⟨rfl, rfl⟩
  refine ⟨_, rfl, ?_⟩; refine Zt ?_; refine Zp ?_
  refine Zy (R.call rfl rfl rfl) (refuse_F _) ?_
  rintro e W' ⟨rfl, rfl⟩
  refine ⟨_, rfl, ?_⟩; refine Zq ?_; refine Zc ?_
  refine CC.growT 15 (by kernel_rfl) (by kernel_rfl) ?_
  refine Gv r4 ?_
  refine Gf ?_
  refine Gl r35 ?_
  refine Gv r4 ?_
  refine GG.call (fun w' => (R.callV rfl rfl rfl e1)) rfl rfl (fun w' b' => (cN w').mono fun e W' h => ⟨h.1, b'.trans (h.2.mono b'.size)⟩) ?_
  refine Gc (fun w' b' => hsm w' (q.trans (b'.mono q.size))) ?_
  refine Gt ?_
  refine Gm ?_
  refine Gf ?_
  refine Gl r35 ?_
  refine Gv r4 ?_
  refine GG.val (fun w' b' => R.buildV rfl rfl (v := .agg #[Value.int IntKind.i64 k, Value.int IntKind.i64 l, Value.int IntKind.i64 z, Value.slice x n c, Value.int IntKind.i64 r, Value.int IntKind.i64 p, strV t]) (fun _ => by kernel_rfl)) rfl rfl ?_
  refine GG.call (fun w' => (R.callV rfl rfl rfl e2)) rfl rfl (fun w' b' => (cM w' (q.trans (b'.mono q.size))).mono fun e W' h => ⟨h.1, b'.trans (h.2.mono b'.size)⟩) ?_
  refine Gt ?_
  refine GG.val (fun w' b' => R.pick rfl rfl rfl) rfl rfl ?_
  refine GG.nil (fun W46 b45 => ?_)
  have zb45 := b45.size; replace b32 := Zu b32 b45; replace b24 := Zu b24 b45; replace b21 := Zu b21 b45; replace r10 := r10.up b45; replace b7 := Zu b7 b45; replace r4 := r4.up b45; replace b1 := Zu b1 b45; replace q := Zu q b45; replace r35 := r35.up b45
  refine LL.callP (R.call rfl rfl rfl) rfl rfl (refuse_T _) ?_
  rintro e W48 ⟨rfl, rfl⟩
  refine ⟨_, rfl, ?_⟩; refine EE.thenP ?_; refine EE.panM ?_
  exact ⟨rfl, q⟩
  have l49 := r10.lt; have l50 := r4.lt
  refine ZR.alloc ([Value.nilFunc, Value.nilFunc, Value.nilFunc, Value.nilFunc]) rfl rfl rfl rfl rfl rfl ?_
  intro W52 g53 eg53 r54 z55 b51
  replace h26 := h26.up b51; replace b24 := Zu b24 b51; replace b21 := Zu b21 b51; replace r10 := r10.up b51; replace b7 := Zu b7 b51; replace r4 := r4.up b51; replace b1 := Zu b1 b51; replace q := Zu q b51; replace hok := Zh hok b51; have y56 := hok.size
  refine ⟨hok, ?_⟩
  refine AA.one 3 (by kernel_rfl) ?_
  (refine SR.val rfl (R.lookKT rfl rfl zKeys (by rfl) (z := kdZ) (by kernel_rfl) (by assumption) k rfl hkF) rfl rfl hok ?_)
  refine AA.pure 4 rfl hok (by kernel_rfl) (fun w' b' => R.move rfl rfl) rfl rfl ?_
  refine AA.pure 5 rfl hok (by kernel_rfl) (fun w' b' => R.extract rfl rfl rfl) rfl rfl ?_
  refine AA.pure 6 rfl hok (by kernel_rfl) (fun w' b' => R.extract rfl rfl rfl) rfl rfl ?_
  refine AA.one 8 (by kernel_rfl) ?_
  refine ZR.storeN (vs := [fnV f1, fnV f2, fnV f3, fnV f4]) rfl rfl rfl rfl rfl r54 (by exact Nat.le_of_ble_eq_true rfl) (ones_of rfl) rfl rfl ?_
  intro W58 r59 b57 z60
  have hlb57 := r54.lt
  replace r59 : RowL W58 _ 68 [fnV f1, fnV f2, fnV f3, fnV f4] := r59
  clear r54
  replace b51 := Zg b51 b57; replace b24 := Zg b24 b57; replace b21 := Zg b21 b57; replace r10 := Zd r10 b57; replace b7 := Zg b7 b57; replace r4 := Zd r4 b57; replace b1 := Zg b1 b57; replace q := Zg q b57; replace hok := Zo hok b57
  have r54 := r59
  clear r59
  refine ⟨hok, ?_⟩
  refine AA.pure 9 rfl hok (by kernel_rfl) (fun w' b' => R.assign rfl rfl) rfl rfl ?_
  refine AA.done rfl ?_
  clear fzr10 fzr4 hok
  refine ZT ?_; refine Zr ?_; refine Zm ?_; refine Zt ?_; refine Zm ?_; refine Zf ?_; refine Zl r4 ?_
  refine Zy (R.call rfl rfl rfl) (within_T _ _ _ _ (by first | assumption | omega)) ?_
  rintro e W' ⟨rfl, rfl⟩
  refine ⟨_, rfl, ?_⟩; refine Zt ?_; refine Zp ?_
  refine Zy (R.call rfl rfl rfl) (refuse_F _) ?_
  rintro e W' ⟨rfl, rfl⟩
  refine ⟨_, rfl, ?_⟩; refine Zq ?_; refine Zc ?_
  refine CC.growT 15 (by kernel_rfl) (by kernel_rfl) ?_
  refine Gv r4 ?_
  refine Gf ?_
  refine Gl r54 ?_
  refine Gv r4 ?_
  refine GG.call (fun w' => (R.callV rfl rfl rfl e1)) rfl rfl (fun w' b' => (cN w').mono fun e W' h => ⟨h.1, b'.trans (h.2.mono b'.size)⟩) ?_
  refine Gc (fun w' b' => hsm w' (q.trans (b'.mono q.size))) ?_
  refine Gt ?_
  refine Gm ?_
  refine Gf ?_
  refine Gl r54 ?_
  refine Gv r4 ?_
  refine GG.val (fun w' b' => R.buildV rfl rfl (v := .agg #[Value.int IntKind.i64 k, Value.int IntKind.i64 l, Value.int IntKind.i64 z, Value.slice x n c, Value.int IntKind.i64 r, Value.int IntKind.i64 p, strV t]) (fun _ => by kernel_rfl)) rfl rfl ?_
  refine GG.call (fun w' => (R.callV rfl rfl rfl e2)) rfl rfl (fun w' b' => (cM w' (q.trans (b'.mono q.size))).mono fun e W' h => ⟨h.1, b'.trans (h.2.mono b'.size)⟩) ?_
  refine Gt ?_
  refine GG.val (fun w' b' => R.pick rfl rfl rfl) rfl rfl ?_
  refine GG.nil (fun W65 b64 => ?_)
  have zb64 := b64.size; replace b51 := Zu b51 b64; replace b24 := Zu b24 b64; replace b21 := Zu b21 b64; replace r10 := r10.up b64; replace b7 := Zu b7 b64; replace r4 := r4.up b64; replace b1 := Zu b1 b64; replace q := Zu q b64; replace r54 := r54.up b64
  refine LL.callP (R.call rfl rfl rfl) rfl rfl (refuse_T _) ?_
  rintro e W67 ⟨rfl, rfl⟩
  refine ⟨_, rfl, ?_⟩; refine EE.thenP ?_; refine EE.panM ?_
  exact ⟨rfl, q⟩
  have l68 := r10.lt; have l69 := r4.lt
  refine ZR.alloc ([Value.nilFunc, Value.nilFunc, Value.nilFunc, Value.nilFunc]) rfl rfl rfl rfl rfl rfl ?_
  intro W71 g72 eg72 r73 z74 b70
  replace b21 := Zu b21 b70; replace r10 := r10.up b70; replace b7 := Zu b7 b70; replace r4 := r4.up b70; replace b1 := Zu b1 b70; replace q := Zu q b70; replace hok := Zh hok b70; have y75 := hok.size
  refine ⟨hok, ?_⟩
  refine AA.one 0 (by kernel_rfl) ?_
  refine SR.call rfl (R.call rfl rfl rfl) rfl rfl (kinds_any _) ?_
  rintro e W77 ⟨g79, k80, rfl, h78, b76⟩
  have zb76 := b76.size; replace r73 := r73.up b76; replace b70 := Zu b70 b76; replace b21 := Zu b21 b76; replace r10 := r10.up b76; replace b7 := Zu b7 b76; replace r4 := r4.up b76; replace b1 := Zu b1 b76; replace q := Zu q b76; replace hok := Zh hok b76; have y81 := hok.size
  refine ⟨_, rfl, hok, ?_⟩
  refine AA.one 3 (by kernel_rfl) ?_
  (refine SR.val rfl (R.lookKT rfl rfl zKeys (by rfl) (z := kdZ) (by kernel_rfl) (by assumption) k rfl hkF) rfl rfl hok ?_)
  refine AA.pure 4 rfl hok (by kernel_rfl) (fun w' b' => R.move rfl rfl) rfl rfl ?_
  refine AA.pure 5 rfl hok (by kernel_rfl) (fun w' b' => R.extract rfl rfl rfl) rfl rfl ?_
  refine AA.pure 6 rfl hok (by kernel_rfl) (fun w' b' => R.extract rfl rfl rfl) rfl rfl ?_
  refine AA.one 8 (by kernel_rfl) ?_
  refine ZR.storeN (vs := [fnV f1, fnV f2, fnV f3, fnV f4]) rfl rfl rfl rfl rfl r73 (by exact Nat.le_of_ble_eq_true rfl) (ones_of rfl) rfl rfl ?_
  intro W83 r84 b82 z85
  have hlb82 := r73.lt
  replace r84 : RowL W83 _ 68 [fnV f1, fnV f2, fnV f3, fnV f4] := r84
  clear r73
  replace b70 := Zg b70 b82; replace b21 := Zg b21 b82; replace r10 := Zd r10 b82; replace b7 := Zg b7 b82; replace r4 := Zd r4 b82; replace b1 := Zg b1 b82; replace q := Zg q b82; replace hok := Zo hok b82
  have r73 := r84
  clear r84
  refine ⟨hok, ?_⟩
  refine AA.pure 9 rfl hok (by kernel_rfl) (fun w' b' => R.assign rfl rfl) rfl rfl ?_
  refine AA.done rfl ?_
  clear fzr10 fzr4 hok
  refine ZT ?_; refine Zr ?_; refine Zm ?_; refine Zt ?_; refine Zm ?_; refine Zf ?_; refine Zl r4 ?_
  refine Zy (R.call rfl rfl rfl) (within_T _ _ _ _ (by first | assumption | omega)) ?_
  rintro e W' ⟨rfl, rfl⟩
  refine ⟨_, rfl, ?_⟩; refine Zt ?_; refine Zp ?_
  refine Zy (R.call rfl rfl rfl) (refuse_F _) ?_
  rintro e W' ⟨rfl, rfl⟩
  refine ⟨_, rfl, ?_⟩; refine Zq ?_; refine Zc ?_
  refine CC.growT 15 (by kernel_rfl) (by kernel_rfl) ?_
  refine Gv r4 ?_
  refine Gf ?_
  refine Gl r73 ?_
  refine Gv r4 ?_
  refine GG.call (fun w' => (R.callV rfl rfl rfl e1)) rfl rfl (fun w' b' => (cN w').mono fun e W' h => ⟨h.1, b'.trans (h.2.mono b'.size)⟩) ?_
  refine Gc (fun w' b' => hsm w' (q.trans (b'.mono q.size))) ?_
  refine Gt ?_
  refine Gm ?_
  refine Gf ?_
  refine Gl r73 ?_
  refine Gv r4 ?_
  refine GG.val (fun w' b' => R.buildV rfl rfl (v := .agg #[Value.int IntKind.i64 k, Value.int IntKind.i64 l, Value.int IntKind.i64 z, Value.slice x n c, Value.int IntKind.i64 r, Value.int IntKind.i64 p, strV t]) (fun _ => by kernel_rfl)) rfl rfl ?_
  refine GG.call (fun w' => (R.callV rfl rfl rfl e2)) rfl rfl (fun w' b' => (cM w' (q.trans (b'.mono q.size))).mono fun e W' h => ⟨h.1, b'.trans (h.2.mono b'.size)⟩) ?_
  refine Gt ?_
  refine GG.val (fun w' b' => R.pick rfl rfl rfl) rfl rfl ?_
  refine GG.nil (fun W90 b89 => ?_)
  have zb89 := b89.size; replace b70 := Zu b70 b89; replace b21 := Zu b21 b89; replace r10 := r10.up b89; replace b7 := Zu b7 b89; replace r4 := r4.up b89; replace b1 := Zu b1 b89; replace q := Zu q b89; replace r73 := r73.up b89
  refine LL.callP (R.call rfl rfl rfl) rfl rfl (refuse_T _) ?_
  rintro e W92 ⟨rfl, rfl⟩
  refine ⟨_, rfl, ?_⟩; refine EE.thenP ?_; refine EE.panM ?_
  exact ⟨rfl, q⟩
theorem check_gN (k l z r p : Int) (t : Bs) (x : Option Addr) (n c : Nat) (w : World) (f1 f2 f3 f4 : Nat) (hkF : kindsF k = some (f1, f2, f3, f4)) (e1 : entB Tryd.prog f1 = true) (e2 : entB Tryd.prog f2 = true) (k' l' z' r' p' : Int) (t' : Bs) (x' : Option Addr) (n' c' : Nat) (cN : ∀ W, Calls Tryd.prog f1 #[inV k l z (.slice x n c) r p t] W fun e w' => e = .returned (inV k' l' z' (.slice x' n' c') r' p' t') ∧ Below W.heap.size W w') (hl : 0 ≤ l ∧ l ≤ 65535) (hsm : ∀ W, Below w.heap.size w W → Calls Tryd.prog 25 #[inV k l z (.slice x n c) r p t, inV k' l' z' (.slice x' n' c') r' p' t'] W fun e w' => e = .returned (.bool false) ∧ Below W.heap.size W w') : Calls Tryd.prog 29 #[inV k l z (.slice x n c) r p t] w fun e w' => e = .panicked (chain1 refV) ∧ Below w.heap.size w w' := by
  have q := Below.refl w.heap.size w
  refine X.fnP Tryd.func29 rfl (n := 38) rfl rfl ?_
  refine Zr ?_
  refine LL.box [.int .i64 k, .int .i64 l, .int .i64 z, .slice x n c, .int .i64 r, .int .i64 p, strV t] rfl rfl rfl rfl rfl ?_
  intro W2 g3 eg3 r4 z5 b1
  replace q := Zu q b1; have l6 := r4.lt
  refine LL.alloc ([Value.nilFunc, Value.nilFunc, Value.nilFunc, Value.nilFunc]) rfl rfl rfl rfl rfl ?_
  intro W8 g9 eg9 r10 z11 b7
  replace r4 := r4.up b7; replace b1 := Zu b1 b7; replace q := Zu q b7; refine Zq ?_; refine Zc ?_
  refine CC.freeZ (fun W_ j => j < W_.heap.size ∧ (True)) (by kernel_rfl) (by kernel_rfl) (fun W22 b21 z23 => ?_)
  replace r10 := r10.up b21; replace b7 := Zu b7 b21; replace r4 := r4.up b21; replace b1 := Zu b1 b21; replace q := Zu q b21
  have hok : Kept (fun j => j < W22.heap.size ∧ (True)) W22 W22 := Kept.refl _ _
  have fzr10 := fzRow (K := fun j => j < W22.heap.size ∧ (True)) r10 ⟨r10.lt, (by first | trivial | omega)⟩
  have fzr4 := fzRow (K := fun j => j < W22.heap.size ∧ (True)) r4 ⟨r4.lt, (by first | trivial | omega)⟩
  refine AA.pure 1 rfl hok (by kernel_rfl) (fun w' b' => R.field rfl rfl (I.fld rfl)) rfl rfl ?_
  refine AA.pure 2 rfl hok (by kernel_rfl) (fun w' b' => R.load rfl rfl (I.ld1 rfl (RowL.cell (fzr4 w' b') rfl))) rfl rfl ?_
  refine AA.two 0 7 (by kernel_rfl) ?_ ?_
  refine SR.call rfl (R.call rfl rfl rfl) rfl rfl (kinds_any _) ?_
  rintro e W25 ⟨g27, k28, rfl, h26, b24⟩
  have zb24 := b24.size; replace b21 := Zu b21 b24; replace r10 := r10.up b24; replace b7 := Zu b7 b24; replace r4 := r4.up b24; replace b1 := Zu b1 b24; replace q := Zu q b24; replace hok := Zh hok b24; have y29 := hok.size
  refine ⟨_, rfl, hok, ?_⟩
  refine AA.two 3 7 (by kernel_rfl) ?_ ?_
  (refine SR.val rfl (R.lookKT rfl rfl zKeys (by rfl) (z := kdZ) (by kernel_rfl) (by assumption) k rfl hkF) rfl rfl hok ?_)
  refine AA.pure 4 rfl hok (by kernel_rfl) (fun w' b' => R.move rfl rfl) rfl rfl ?_
  refine AA.pure 5 rfl hok (by kernel_rfl) (fun w' b' => R.extract rfl rfl rfl) rfl rfl ?_
  refine AA.pure 6 rfl hok (by kernel_rfl) (fun w' b' => R.extract rfl rfl rfl) rfl rfl ?_
  refine AA.one 7 (by kernel_rfl) ?_
  have l30 := r10.lt; have l31 := r4.lt
  refine ZR.alloc ([Value.nilFunc, Value.nilFunc, Value.nilFunc, Value.nilFunc]) rfl rfl rfl rfl rfl rfl ?_
  intro W33 g34 eg34 r35 z36 b32
  replace h26 := h26.up b32; replace b24 := Zu b24 b32; replace b21 := Zu b21 b32; replace r10 := r10.up b32; replace b7 := Zu b7 b32; replace r4 := r4.up b32; replace b1 := Zu b1 b32; replace q := Zu q b32; replace hok := Zh hok b32; have y37 := hok.size
  refine ⟨hok, ?_⟩
  refine AA.one 8 (by kernel_rfl) ?_
  refine ZR.storeN (vs := [fnV f1, fnV f2, fnV f3, fnV f4]) rfl rfl rfl rfl rfl r35 (by exact Nat.le_of_ble_eq_true rfl) (ones_of rfl) rfl rfl ?_
  intro W39 r40 b38 z41
  have hlb38 := r35.lt
  replace r40 : RowL W39 _ 68 [fnV f1, fnV f2, fnV f3, fnV f4] := r40
  clear r35
  replace b32 := Zg b32 b38; replace b24 := Zg b24 b38; replace b21 := Zg b21 b38; replace r10 := Zd r10 b38; replace b7 := Zg b7 b38; replace r4 := Zd r4 b38; replace b1 := Zg b1 b38; replace q := Zg q b38; replace hok := Zo hok b38
  have r35 := r40
  clear r40
  refine ⟨hok, ?_⟩
  refine AA.pure 9 rfl hok (by kernel_rfl) (fun w' b' => R.assign rfl rfl) rfl rfl ?_
  refine AA.done rfl ?_
  clear fzr10 fzr4 hok
  refine ZT ?_; refine Zr ?_; refine Zm ?_; refine Zt ?_; refine Zm ?_; refine Zf ?_; refine Zl r4 ?_
  refine Zy (R.call rfl rfl rfl) (within_T _ _ _ _ (by first | assumption | omega)) ?_
  rintro e W' ⟨rfl, rfl⟩
  refine ⟨_, rfl, ?_⟩; refine Zt ?_; refine Zp ?_
  refine Zy (R.call rfl rfl rfl) (refuse_F _) ?_
  rintro e W' ⟨rfl, rfl⟩
  refine ⟨_, rfl, ?_⟩; refine Zq ?_; refine Zc ?_
  refine CC.growT 15 (by kernel_rfl) (by kernel_rfl) ?_
  refine Gv r4 ?_
  refine Gf ?_
  refine Gl r35 ?_
  refine Gv r4 ?_
  refine GG.call (fun w' => (R.callV rfl rfl rfl e1)) rfl rfl (fun w' b' => (cN w').mono fun e W' h => ⟨h.1, b'.trans (h.2.mono b'.size)⟩) ?_
  refine Gc (fun w' b' => hsm w' (q.trans (b'.mono q.size))) ?_
  refine Gt ?_
  refine Gm ?_
  refine GG.skip rfl rfl ?_
  refine GG.skip rfl rfl ?_
  refine GG.skip rfl rfl ?_
  refine GG.skip rfl rfl ?_
  refine GG.skip rfl rfl ?_
  refine GG.skip rfl rfl ?_
  refine GG.val (fun w' b' => R.pick rfl rfl rfl) rfl rfl ?_
  refine GG.nil (fun W46 b45 => ?_)
  have zb45 := b45.size; replace b32 := Zu b32 b45; replace b24 := Zu b24 b45; replace b21 := Zu b21 b45; replace r10 := r10.up b45; replace b7 := Zu b7 b45; replace r4 := r4.up b45; replace b1 := Zu b1 b45; replace q := Zu q b45; replace r35 := r35.up b45
  refine LL.callP (R.call rfl rfl rfl) rfl rfl (refuse_T _) ?_
  rintro e W48 ⟨rfl, rfl⟩
  refine ⟨_, rfl, ?_⟩; refine EE.thenP ?_; refine EE.panM ?_
  exact ⟨rfl, q⟩
  have l49 := r10.lt; have l50 := r4.lt
  refine ZR.alloc ([Value.nilFunc, Value.nilFunc, Value.nilFunc, Value.nilFunc]) rfl rfl rfl rfl rfl rfl ?_
  intro W52 g53 eg53 r54 z55 b51
  replace h26 := h26.up b51; replace b24 := Zu b24 b51; replace b21 := Zu b21 b51; replace r10 := r10.up b51; replace b7 := Zu b7 b51; replace r4 := r4.up b51; replace b1 := Zu b1 b51; replace q := Zu q b51; replace hok := Zh hok b51; have y56 := hok.size
  refine ⟨hok, ?_⟩
  refine AA.one 3 (by kernel_rfl) ?_
  (refine SR.val rfl (R.lookKT rfl rfl zKeys (by rfl) (z := kdZ) (by kernel_rfl) (by assumption) k rfl hkF) rfl rfl hok ?_)
  refine AA.pure 4 rfl hok (by kernel_rfl) (fun w' b' => R.move rfl rfl) rfl rfl ?_
  refine AA.pure 5 rfl hok (by kernel_rfl) (fun w' b' => R.extract rfl rfl rfl) rfl rfl ?_
  refine AA.pure 6 rfl hok (by kernel_rfl) (fun w' b' => R.extract rfl rfl rfl) rfl rfl ?_
  refine AA.one 8 (by kernel_rfl) ?_
  refine ZR.storeN (vs := [fnV f1, fnV f2, fnV f3, fnV f4]) rfl rfl rfl rfl rfl r54 (by exact Nat.le_of_ble_eq_true rfl) (ones_of rfl) rfl rfl ?_
  intro W58 r59 b57 z60
  have hlb57 := r54.lt
  replace r59 : RowL W58 _ 68 [fnV f1, fnV f2, fnV f3, fnV f4] := r59
  clear r54
  replace b51 := Zg b51 b57; replace b24 := Zg b24 b57; replace b21 := Zg b21 b57; replace r10 := Zd r10 b57; replace b7 := Zg b7 b57; replace r4 := Zd r4 b57; replace b1 := Zg b1 b57; replace q := Zg q b57; replace hok := Zo hok b57
  have r54 := r59
  clear r59
  refine ⟨hok, ?_⟩
  refine AA.pure 9 rfl hok (by kernel_rfl) (fun w' b' => R.assign rfl rfl) rfl rfl ?_
  refine AA.done rfl ?_
  clear fzr10 fzr4 hok
  refine ZT ?_; refine Zr ?_; refine Zm ?_; refine Zt ?_; refine Zm ?_; refine Zf ?_; refine Zl r4 ?_
  refine Zy (R.call rfl rfl rfl) (within_T _ _ _ _ (by first | assumption | omega)) ?_
  rintro e W' ⟨rfl, rfl⟩
  refine ⟨_, rfl, ?_⟩; refine Zt ?_; refine Zp ?_
  refine Zy (R.call rfl rfl rfl) (refuse_F _) ?_
  rintro e W' ⟨rfl, rfl⟩
  refine ⟨_, rfl, ?_⟩; refine Zq ?_; refine Zc ?_
  refine CC.growT 15 (by kernel_rfl) (by kernel_rfl) ?_
  refine Gv r4 ?_
  refine Gf ?_
  refine Gl r54 ?_
  refine Gv r4 ?_
  refine GG.call (fun w' => (R.callV rfl rfl rfl e1)) rfl rfl (fun w' b' => (cN w').mono fun e W' h => ⟨h.1, b'.trans (h.2.mono b'.size)⟩) ?_
  refine Gc (fun w' b' => hsm w' (q.trans (b'.mono q.size))) ?_
  refine Gt ?_
  refine Gm ?_
  refine GG.skip rfl rfl ?_
  refine GG.skip rfl rfl ?_
  refine GG.skip rfl rfl ?_
  refine GG.skip rfl rfl ?_
  refine GG.skip rfl rfl ?_
  refine GG.skip rfl rfl ?_
  refine GG.val (fun w' b' => R.pick rfl rfl rfl) rfl rfl ?_
  refine GG.nil (fun W65 b64 => ?_)
  have zb64 := b64.size; replace b51 := Zu b51 b64; replace b24 := Zu b24 b64; replace b21 := Zu b21 b64; replace r10 := r10.up b64; replace b7 := Zu b7 b64; replace r4 := r4.up b64; replace b1 := Zu b1 b64; replace q := Zu q b64; replace r54 := r54.up b64
  refine LL.callP (R.call rfl rfl rfl) rfl rfl (refuse_T _) ?_
  rintro e W67 ⟨rfl, rfl⟩
  refine ⟨_, rfl, ?_⟩; refine EE.thenP ?_; refine EE.panM ?_
  exact ⟨rfl, q⟩
  have l68 := r10.lt; have l69 := r4.lt
  refine ZR.alloc ([Value.nilFunc, Value.nilFunc, Value.nilFunc, Value.nilFunc]) rfl rfl rfl rfl rfl rfl ?_
  intro W71 g72 eg72 r73 z74 b70
  replace b21 := Zu b21 b70; replace r10 := r10.up b70; replace b7 := Zu b7 b70; replace r4 := r4.up b70; replace b1 := Zu b1 b70; replace q := Zu q b70; replace hok := Zh hok b70; have y75 := hok.size
  refine ⟨hok, ?_⟩
  refine AA.one 0 (by kernel_rfl) ?_
  refine SR.call rfl (R.call rfl rfl rfl) rfl rfl (kinds_any _) ?_
  rintro e W77 ⟨g79, k80, rfl, h78, b76⟩
  have zb76 := b76.size; replace r73 := r73.up b76; replace b70 := Zu b70 b76; replace b21 := Zu b21 b76; replace r10 := r10.up b76; replace b7 := Zu b7 b76; replace r4 := r4.up b76; replace b1 := Zu b1 b76; replace q := Zu q b76; replace hok := Zh hok b76; have y81 := hok.size
  refine ⟨_, rfl, hok, ?_⟩
  refine AA.one 3 (by kernel_rfl) ?_
  (refine SR.val rfl (R.lookKT rfl rfl zKeys (by rfl) (z := kdZ) (by kernel_rfl) (by assumption) k rfl hkF) rfl rfl hok ?_)
  refine AA.pure 4 rfl hok (by kernel_rfl) (fun w' b' => R.move rfl rfl) rfl rfl ?_
  refine AA.pure 5 rfl hok (by kernel_rfl) (fun w' b' => R.extract rfl rfl rfl) rfl rfl ?_
  refine AA.pure 6 rfl hok (by kernel_rfl) (fun w' b' => R.extract rfl rfl rfl) rfl rfl ?_
  refine AA.one 8 (by kernel_rfl) ?_
  refine ZR.storeN (vs := [fnV f1, fnV f2, fnV f3, fnV f4]) rfl rfl rfl rfl rfl r73 (by exact Nat.le_of_ble_eq_true rfl) (ones_of rfl) rfl rfl ?_
  intro W83 r84 b82 z85
  have hlb82 := r73.lt
  replace r84 : RowL W83 _ 68 [fnV f1, fnV f2, fnV f3, fnV f4] := r84
  clear r73
  replace b70 := Zg b70 b82; replace b21 := Zg b21 b82; replace r10 := Zd r10 b82; replace b7 := Zg b7 b82; replace r4 := Zd r4 b82; replace b1 := Zg b1 b82; replace q := Zg q b82; replace hok := Zo hok b82
  have r73 := r84
  clear r84
  refine ⟨hok, ?_⟩
  refine AA.pure 9 rfl hok (by kernel_rfl) (fun w' b' => R.assign rfl rfl) rfl rfl ?_
  refine AA.done rfl ?_
  clear fzr10 fzr4 hok
  refine ZT ?_; refine Zr ?_; refine Zm ?_; refine Zt ?_; refine Zm ?_; refine Zf ?_; refine Zl r4 ?_
  refine Zy (R.call rfl rfl rfl) (within_T _ _ _ _ (by first | assumption | omega)) ?_
  rintro e W' ⟨rfl, rfl⟩
  refine ⟨_, rfl, ?_⟩; refine Zt ?_; refine Zp ?_
  refine Zy (R.call rfl rfl rfl) (refuse_F _) ?_
  rintro e W' ⟨rfl, rfl⟩
  refine ⟨_, rfl, ?_⟩; refine Zq ?_; refine Zc ?_
  refine CC.growT 15 (by kernel_rfl) (by kernel_rfl) ?_
  refine Gv r4 ?_
  refine Gf ?_
  refine Gl r73 ?_
  refine Gv r4 ?_
  refine GG.call (fun w' => (R.callV rfl rfl rfl e1)) rfl rfl (fun w' b' => (cN w').mono fun e W' h => ⟨h.1, b'.trans (h.2.mono b'.size)⟩) ?_
  refine Gc (fun w' b' => hsm w' (q.trans (b'.mono q.size))) ?_
  refine Gt ?_
  refine Gm ?_
  refine GG.skip rfl rfl ?_
  refine GG.skip rfl rfl ?_
  refine GG.skip rfl rfl ?_
  refine GG.skip rfl rfl ?_
  refine GG.skip rfl rfl ?_
  refine GG.skip rfl rfl ?_
  refine GG.val (fun w' b' => R.pick rfl rfl rfl) rfl rfl ?_
  refine GG.nil (fun W90 b89 => ?_)
  have zb89 := b89.size; replace b70 := Zu b70 b89; replace b21 := Zu b21 b89; replace r10 := r10.up b89; replace b7 := Zu b7 b89; replace r4 := r4.up b89; replace b1 := Zu b1 b89; replace q := Zu q b89; replace r73 := r73.up b89
  refine LL.callP (R.call rfl rfl rfl) rfl rfl (refuse_T _) ?_
  rintro e W92 ⟨rfl, rfl⟩
  refine ⟨_, rfl, ?_⟩; refine EE.thenP ?_; refine EE.panM ?_
  exact ⟨rfl, q⟩
theorem check_gL (k l z r p : Int) (t : Bs) (x : Option Addr) (n c : Nat) (w : World) (f1 f2 f3 f4 : Nat) (hkF : kindsF k = some (f1, f2, f3, f4)) (e1 : entB Tryd.prog f1 = true) (e2 : entB Tryd.prog f2 = true) (hl : l < 0 ∨ 65535 < l) : Calls Tryd.prog 29 #[inV k l z (.slice x n c) r p t] w fun e w' => e = .panicked (chain1 refV) ∧ Below w.heap.size w w' := by
  have q := Below.refl w.heap.size w
  refine X.fnP Tryd.func29 rfl (n := 38) rfl rfl ?_
  refine Zr ?_
  refine LL.box [.int .i64 k, .int .i64 l, .int .i64 z, .slice x n c, .int .i64 r, .int .i64 p, strV t] rfl rfl rfl rfl rfl ?_
  intro W2 g3 eg3 r4 z5 b1
  replace q := Zu q b1; have l6 := r4.lt
  refine LL.alloc ([Value.nilFunc, Value.nilFunc, Value.nilFunc, Value.nilFunc]) rfl rfl rfl rfl rfl ?_
  intro W8 g9 eg9 r10 z11 b7
  replace r4 := r4.up b7; replace b1 := Zu b1 b7; replace q := Zu q b7; refine Zq ?_; refine Zc ?_
  refine CC.freeZ (fun W_ j => j < W_.heap.size ∧ (True)) (by kernel_rfl) (by kernel_rfl) (fun W22 b21 z23 => ?_)
  replace r10 := r10.up b21; replace b7 := Zu b7 b21; replace r4 := r4.up b21; replace b1 := Zu b1 b21; replace q := Zu q b21
  have hok : Kept (fun j => j < W22.heap.size ∧ (True)) W22 W22 := Kept.refl _ _
  have fzr10 := fzRow (K := fun j => j < W22.heap.size ∧ (True)) r10 ⟨r10.lt, (by first | trivial | omega)⟩
  have fzr4 := fzRow (K := fun j => j < W22.heap.size ∧ (True)) r4 ⟨r4.lt, (by first | trivial | omega)⟩
  refine AA.pure 1 rfl hok (by kernel_rfl) (fun w' b' => R.field rfl rfl (I.fld rfl)) rfl rfl ?_
  refine AA.pure 2 rfl hok (by kernel_rfl) (fun w' b' => R.load rfl rfl (I.ld1 rfl (RowL.cell (fzr4 w' b') rfl))) rfl rfl ?_
  refine AA.two 0 7 (by kernel_rfl) ?_ ?_
  refine SR.call rfl (R.call rfl rfl rfl) rfl rfl (kinds_any _) ?_
  rintro e W25 ⟨g27, k28, rfl, h26, b24⟩
  have zb24 := b24.size; replace b21 := Zu b21 b24; replace r10 := r10.up b24; replace b7 := Zu b7 b24; replace r4 := r4.up b24; replace b1 := Zu b1 b24; replace q := Zu q b24; replace hok := Zh hok b24; have y29 := hok.size
  refine ⟨_, rfl, hok, ?_⟩
  refine AA.two 3 7 (by kernel_rfl) ?_ ?_
  (refine SR.val rfl (R.lookKT rfl rfl zKeys (by rfl) (z := kdZ) (by kernel_rfl) (by assumption) k rfl hkF) rfl rfl hok ?_)
  refine AA.pure 4 rfl hok (by kernel_rfl) (fun w' b' => R.move rfl rfl) rfl rfl ?_
  refine AA.pure 5 rfl hok (by kernel_rfl) (fun w' b' => R.extract rfl rfl rfl) rfl rfl ?_
  refine AA.pure 6 rfl hok (by kernel_rfl) (fun w' b' => R.extract rfl rfl rfl) rfl rfl ?_
  refine AA.one 7 (by kernel_rfl) ?_
  have l30 := r10.lt; have l31 := r4.lt
  refine ZR.alloc ([Value.nilFunc, Value.nilFunc, Value.nilFunc, Value.nilFunc]) rfl rfl rfl rfl rfl rfl ?_
  intro W33 g34 eg34 r35 z36 b32
  replace h26 := h26.up b32; replace b24 := Zu b24 b32; replace b21 := Zu b21 b32; replace r10 := r10.up b32; replace b7 := Zu b7 b32; replace r4 := r4.up b32; replace b1 := Zu b1 b32; replace q := Zu q b32; replace hok := Zh hok b32; have y37 := hok.size
  refine ⟨hok, ?_⟩
  refine AA.one 8 (by kernel_rfl) ?_
  refine ZR.storeN (vs := [fnV f1, fnV f2, fnV f3, fnV f4]) rfl rfl rfl rfl rfl r35 (by exact Nat.le_of_ble_eq_true rfl) (ones_of rfl) rfl rfl ?_
  intro W39 r40 b38 z41
  have hlb38 := r35.lt
  replace r40 : RowL W39 _ 68 [fnV f1, fnV f2, fnV f3, fnV f4] := r40
  clear r35
  replace b32 := Zg b32 b38; replace b24 := Zg b24 b38; replace b21 := Zg b21 b38; replace r10 := Zd r10 b38; replace b7 := Zg b7 b38; replace r4 := Zd r4 b38; replace b1 := Zg b1 b38; replace q := Zg q b38; replace hok := Zo hok b38
  have r35 := r40
  clear r40
  refine ⟨hok, ?_⟩
  refine AA.pure 9 rfl hok (by kernel_rfl) (fun w' b' => R.assign rfl rfl) rfl rfl ?_
  refine AA.done rfl ?_
  clear fzr10 fzr4 hok
  refine ZT ?_; refine Zr ?_; refine Zm ?_; refine Zt ?_; refine Zm ?_; refine Zf ?_; refine Zl r4 ?_
  refine Zy (R.call rfl rfl rfl) (within_F _ _ _ _ (by first | assumption | omega)) ?_
  rintro e W' ⟨rfl, rfl⟩
  refine ⟨_, rfl, ?_⟩; refine Zt ?_; refine Zp ?_
  refine LL.callP (R.call rfl rfl rfl) rfl rfl (refuse_T _) ?_
  rintro e W43 ⟨rfl, rfl⟩
  refine ⟨_, rfl, ?_⟩; refine EE.thenP ?_; refine EE.panM ?_
  exact ⟨rfl, q⟩
  have l44 := r10.lt; have l45 := r4.lt
  refine ZR.alloc ([Value.nilFunc, Value.nilFunc, Value.nilFunc, Value.nilFunc]) rfl rfl rfl rfl rfl rfl ?_
  intro W47 g48 eg48 r49 z50 b46
  replace h26 := h26.up b46; replace b24 := Zu b24 b46; replace b21 := Zu b21 b46; replace r10 := r10.up b46; replace b7 := Zu b7 b46; replace r4 := r4.up b46; replace b1 := Zu b1 b46; replace q := Zu q b46; replace hok := Zh hok b46; have y51 := hok.size
  refine ⟨hok, ?_⟩
  refine AA.one 3 (by kernel_rfl) ?_
  (refine SR.val rfl (R.lookKT rfl rfl zKeys (by rfl) (z := kdZ) (by kernel_rfl) (by assumption) k rfl hkF) rfl rfl hok ?_)
  refine AA.pure 4 rfl hok (by kernel_rfl) (fun w' b' => R.move rfl rfl) rfl rfl ?_
  refine AA.pure 5 rfl hok (by kernel_rfl) (fun w' b' => R.extract rfl rfl rfl) rfl rfl ?_
  refine AA.pure 6 rfl hok (by kernel_rfl) (fun w' b' => R.extract rfl rfl rfl) rfl rfl ?_
  refine AA.one 8 (by kernel_rfl) ?_
  refine ZR.storeN (vs := [fnV f1, fnV f2, fnV f3, fnV f4]) rfl rfl rfl rfl rfl r49 (by exact Nat.le_of_ble_eq_true rfl) (ones_of rfl) rfl rfl ?_
  intro W53 r54 b52 z55
  have hlb52 := r49.lt
  replace r54 : RowL W53 _ 68 [fnV f1, fnV f2, fnV f3, fnV f4] := r54
  clear r49
  replace b46 := Zg b46 b52; replace b24 := Zg b24 b52; replace b21 := Zg b21 b52; replace r10 := Zd r10 b52; replace b7 := Zg b7 b52; replace r4 := Zd r4 b52; replace b1 := Zg b1 b52; replace q := Zg q b52; replace hok := Zo hok b52
  have r49 := r54
  clear r54
  refine ⟨hok, ?_⟩
  refine AA.pure 9 rfl hok (by kernel_rfl) (fun w' b' => R.assign rfl rfl) rfl rfl ?_
  refine AA.done rfl ?_
  clear fzr10 fzr4 hok
  refine ZT ?_; refine Zr ?_; refine Zm ?_; refine Zt ?_; refine Zm ?_; refine Zf ?_; refine Zl r4 ?_
  refine Zy (R.call rfl rfl rfl) (within_F _ _ _ _ (by first | assumption | omega)) ?_
  rintro e W' ⟨rfl, rfl⟩
  refine ⟨_, rfl, ?_⟩; refine Zt ?_; refine Zp ?_
  refine LL.callP (R.call rfl rfl rfl) rfl rfl (refuse_T _) ?_
  rintro e W57 ⟨rfl, rfl⟩
  refine ⟨_, rfl, ?_⟩; refine EE.thenP ?_; refine EE.panM ?_
  exact ⟨rfl, q⟩
  have l58 := r10.lt; have l59 := r4.lt
  refine ZR.alloc ([Value.nilFunc, Value.nilFunc, Value.nilFunc, Value.nilFunc]) rfl rfl rfl rfl rfl rfl ?_
  intro W61 g62 eg62 r63 z64 b60
  replace b21 := Zu b21 b60; replace r10 := r10.up b60; replace b7 := Zu b7 b60; replace r4 := r4.up b60; replace b1 := Zu b1 b60; replace q := Zu q b60; replace hok := Zh hok b60; have y65 := hok.size
  refine ⟨hok, ?_⟩
  refine AA.one 0 (by kernel_rfl) ?_
  refine SR.call rfl (R.call rfl rfl rfl) rfl rfl (kinds_any _) ?_
  rintro e W67 ⟨g69, k70, rfl, h68, b66⟩
  have zb66 := b66.size; replace r63 := r63.up b66; replace b60 := Zu b60 b66; replace b21 := Zu b21 b66; replace r10 := r10.up b66; replace b7 := Zu b7 b66; replace r4 := r4.up b66; replace b1 := Zu b1 b66; replace q := Zu q b66; replace hok := Zh hok b66; have y71 := hok.size
  refine ⟨_, rfl, hok, ?_⟩
  refine AA.one 3 (by kernel_rfl) ?_
  (refine SR.val rfl (R.lookKT rfl rfl zKeys (by rfl) (z := kdZ) (by kernel_rfl) (by assumption) k rfl hkF) rfl rfl hok ?_)
  refine AA.pure 4 rfl hok (by kernel_rfl) (fun w' b' => R.move rfl rfl) rfl rfl ?_
  refine AA.pure 5 rfl hok (by kernel_rfl) (fun w' b' => R.extract rfl rfl rfl) rfl rfl ?_
  refine AA.pure 6 rfl hok (by kernel_rfl) (fun w' b' => R.extract rfl rfl rfl) rfl rfl ?_
  refine AA.one 8 (by kernel_rfl) ?_
  refine ZR.storeN (vs := [fnV f1, fnV f2, fnV f3, fnV f4]) rfl rfl rfl rfl rfl r63 (by exact Nat.le_of_ble_eq_true rfl) (ones_of rfl) rfl rfl ?_
  intro W73 r74 b72 z75
  have hlb72 := r63.lt
  replace r74 : RowL W73 _ 68 [fnV f1, fnV f2, fnV f3, fnV f4] := r74
  clear r63
  replace b60 := Zg b60 b72; replace b21 := Zg b21 b72; replace r10 := Zd r10 b72; replace b7 := Zg b7 b72; replace r4 := Zd r4 b72; replace b1 := Zg b1 b72; replace q := Zg q b72; replace hok := Zo hok b72
  have r63 := r74
  clear r74
  refine ⟨hok, ?_⟩
  refine AA.pure 9 rfl hok (by kernel_rfl) (fun w' b' => R.assign rfl rfl) rfl rfl ?_
  refine AA.done rfl ?_
  clear fzr10 fzr4 hok
  refine ZT ?_; refine Zr ?_; refine Zm ?_; refine Zt ?_; refine Zm ?_; refine Zf ?_; refine Zl r4 ?_
  refine Zy (R.call rfl rfl rfl) (within_F _ _ _ _ (by first | assumption | omega)) ?_
  rintro e W' ⟨rfl, rfl⟩
  refine ⟨_, rfl, ?_⟩; refine Zt ?_; refine Zp ?_
  refine LL.callP (R.call rfl rfl rfl) rfl rfl (refuse_T _) ?_
  rintro e W77 ⟨rfl, rfl⟩
  refine ⟨_, rfl, ?_⟩; refine EE.thenP ?_; refine EE.panM ?_
  exact ⟨rfl, q⟩
theorem check0_T (x : Option Addr) (n c : Nat) (m : List Ex) (w : World) (hv : ReadsT eE 3 w (.slice x n c) m) (hlen : m.length ≤ 1048576) (hm0 : m = []) : Calls Tryd.prog 29 #[inV 0 0 0 (.slice x n c) 0 0 []] w fun e w' => e = .returned (kdV kd0) ∧ Below w.heap.size w w' := by
  have hsm : true = true ↔ sameI 0 0 0 m 0 0 [] 0 0 0 [] 0 0 [] := ⟨fun _ => ⟨rfl, rfl, rfl, hm0, rfl, rfl, rfl⟩, fun _ => rfl⟩
  exact check_gT 0 0 0 0 0 [] x n c w _ _ _ _ kF_0 (by kernel_rfl) (by kernel_rfl) 0 0 0 0 0 [] none 0 0 (fun W => nm0_any 0 0 0 (.slice x n c) 0 0 [] W) (by decide) (fun W b => insame_any 0 0 0 (.slice x n c) m 0 0 [] 0 0 0 (.slice none 0 0) [] 0 0 [] W (hv.up b) (ReadsT.nil _) hlen (by decide) true hsm) (fun W _ => my0_any _ _ _ _ _ _ _ W ⟨_, _, _, rfl⟩)
theorem check1_T (l z : Int) (x : Option Addr) (n c : Nat) (m : List Ex) (w : World) (hv : ReadsT eE 3 w (.slice x n c) m) (hl : 0 ≤ l ∧ l ≤ 65535) (h : okF z m) : Calls Tryd.prog 29 #[inV 1 l z (.slice x n c) 0 0 []] w fun e w' => e = .returned (kdV kd1) ∧ Below w.heap.size w w' := by
  have hlen : m.length ≤ 1048576 := by have := h.2.1.1; omega
  have hsm : true = true ↔ sameI 1 l z m 0 0 [] 1 l z m 0 0 [] := ⟨fun _ => ⟨rfl, rfl, rfl, rfl, rfl, rfl, rfl⟩, fun _ => rfl⟩
  exact check_gT 1 l z 0 0 [] x n c w _ _ _ _ kF_1 (by kernel_rfl) (by kernel_rfl) 1 l z 0 0 [] x n c (fun W => nm1_any 1 l z (.slice x n c) 0 0 [] W ⟨_, _, _, rfl⟩) hl (fun W b => insame_any 1 l z (.slice x n c) m 0 0 [] 1 l z (.slice x n c) m 0 0 [] W (hv.up b) (hv.up b) hlen hlen true hsm) (fun W b => my1_any _ _ _ _ _ _ _ _ _ m W (hv.up b) h.1 h.2.1 true ⟨fun _ => h.2.2, fun _ => rfl⟩)
theorem check2_T (l r p : Int) (x : Option Addr) (n c : Nat) (m : List Ex) (w : World) (hv : ReadsT eE 3 w (.slice x n c) m) (hlen : m.length ≤ 1048576) (hm0 : m = []) (hl : 0 ≤ l ∧ l ≤ 65535) (hmy : (1 ≤ r ∧ r ≤ 2047) ∧ 1 ≤ p ∧ p ≤ 256) : Calls Tryd.prog 29 #[inV 2 l 0 (.slice x n c) r p []] w fun e w' => e = .returned (kdV kd2) ∧ Below w.heap.size w w' := by
  have hsm : true = true ↔ sameI 2 l 0 m r p [] 2 l 0 [] r p [] := ⟨fun _ => ⟨rfl, rfl, rfl, hm0, rfl, rfl, rfl⟩, fun _ => rfl⟩
  exact check_gT 2 l 0 r p [] x n c w _ _ _ _ kF_2 (by kernel_rfl) (by kernel_rfl) 2 l 0 r p [] none 0 0 (fun W => nm2_any 2 l 0 (.slice x n c) r p [] W ⟨_, _, _, rfl⟩) hl (fun W b => insame_any 2 l 0 (.slice x n c) m r p [] 2 l 0 (.slice none 0 0) [] r p [] W (hv.up b) (ReadsT.nil _) hlen (by decide) true hsm) (fun W _ => my2_T _ _ _ _ _ _ _ W ⟨_, _, _, rfl⟩ hmy)
theorem check3_T (l : Int) (t : Bs) (x : Option Addr) (n c : Nat) (m : List Ex) (w : World) (hv : ReadsT eE 3 w (.slice x n c) m) (hlen : m.length ≤ 1048576) (hm0 : m = []) (hl : 0 ≤ l ∧ l ≤ 65535) (hmy : (1 ≤ t.length ∧ t.length ≤ 112) ∧ (0 : UInt8) ∉ t) : Calls Tryd.prog 29 #[inV 3 l 0 (.slice x n c) 0 0 t] w fun e w' => e = .returned (kdV kd3) ∧ Below w.heap.size w w' := by
  have hsm : true = true ↔ sameI 3 l 0 m 0 0 t 3 l 0 [] 0 0 t := ⟨fun _ => ⟨rfl, rfl, rfl, hm0, rfl, rfl, rfl⟩, fun _ => rfl⟩
  exact check_gT 3 l 0 0 0 t x n c w _ _ _ _ kF_3 (by kernel_rfl) (by kernel_rfl) 3 l 0 0 0 t none 0 0 (fun W => nm3_any 3 l 0 (.slice x n c) 0 0 t W ⟨_, _, _, rfl⟩) hl (fun W b => insame_any 3 l 0 (.slice x n c) m 0 0 t 3 l 0 (.slice none 0 0) [] 0 0 t W (hv.up b) (ReadsT.nil _) hlen (by decide) true hsm) (fun W _ => my3_T _ _ _ _ _ _ _ W ⟨_, _, _, rfl⟩ hmy)
theorem checkK_F (k l z r p : Int) (t : Bs) (x : Option Addr) (n c : Nat) (m : List Ex) (w : World) (hv : ReadsT eE 3 w (.slice x n c) m) (hlen : m.length ≤ 1048576) (hk : k < 0 ∨ 3 < k) : Calls Tryd.prog 29 #[inV k l z (.slice x n c) r p t] w fun e w' => e = .panicked (chain1 refV) ∧ Below w.heap.size w w' := by
  have q := Below.refl w.heap.size w
  have kN := kinds_none hk
  refine X.fnP Tryd.func29 rfl (n := 38) rfl rfl ?_
  refine Zr ?_
  refine LL.box [.int .i64 k, .int .i64 l, .int .i64 z, .slice x n c, .int .i64 r, .int .i64 p, strV t] rfl rfl rfl rfl rfl ?_
  intro W2 g3 eg3 r4 z5 b1
  replace hv := hv.up b1; replace q := Zu q b1; have l6 := r4.lt
  refine LL.alloc ([Value.nilFunc, Value.nilFunc, Value.nilFunc, Value.nilFunc]) rfl rfl rfl rfl rfl ?_
  intro W8 g9 eg9 r10 z11 b7
  replace r4 := r4.up b7; replace b1 := Zu b1 b7; replace hv := hv.up b7; replace q := Zu q b7; refine Zq ?_; refine Zc ?_
  refine CC.freeZ (fun W_ j => j < W_.heap.size ∧ (True)) (by kernel_rfl) (by kernel_rfl) (fun W22 b21 z23 => ?_)
  replace r10 := r10.up b21; replace b7 := Zu b7 b21; replace r4 := r4.up b21; replace b1 := Zu b1 b21; replace hv := hv.up b21; replace q := Zu q b21
  have hok : Kept (fun j => j < W22.heap.size ∧ (True)) W22 W22 := Kept.refl _ _
  have fzr10 := fzRow (K := fun j => j < W22.heap.size ∧ (True)) r10 ⟨r10.lt, (by first | trivial | omega)⟩
  have fzr4 := fzRow (K := fun j => j < W22.heap.size ∧ (True)) r4 ⟨r4.lt, (by first | trivial | omega)⟩
  refine AA.pure 1 rfl hok (by kernel_rfl) (fun w' b' => R.field rfl rfl (I.fld rfl)) rfl rfl ?_
  refine AA.pure 2 rfl hok (by kernel_rfl) (fun w' b' => R.load rfl rfl (I.ld1 rfl (RowL.cell (fzr4 w' b') rfl))) rfl rfl ?_
  refine AA.two 0 7 (by kernel_rfl) ?_ ?_
  refine SR.call rfl (R.call rfl rfl rfl) rfl rfl (kinds_any _) ?_
  rintro e W25 ⟨g27, k28, rfl, h26, b24⟩
  have zb24 := b24.size; replace b21 := Zu b21 b24; replace r10 := r10.up b24; replace b7 := Zu b7 b24; replace r4 := r4.up b24; replace b1 := Zu b1 b24; replace hv := hv.up b24; replace q := Zu q b24; replace hok := Zh hok b24; have y29 := hok.size
  refine ⟨_, rfl, hok, ?_⟩
  refine AA.two 3 7 (by kernel_rfl) ?_ ?_
  (refine SR.val rfl (R.lookKF rfl rfl zKeys (by rfl) (z := kdZ) (by kernel_rfl) (by assumption) k rfl kN) rfl rfl hok ?_)
  refine AA.pure 4 rfl hok (by kernel_rfl) (fun w' b' => R.move rfl rfl) rfl rfl ?_
  refine AA.pure 5 rfl hok (by kernel_rfl) (fun w' b' => R.extract rfl rfl rfl) rfl rfl ?_
  refine AA.pure 6 rfl hok (by kernel_rfl) (fun w' b' => R.extract rfl rfl rfl) rfl rfl ?_
  refine AA.one 7 (by kernel_rfl) ?_
  have l30 := r10.lt; have l31 := r4.lt
  refine ZR.alloc ([Value.nilFunc, Value.nilFunc, Value.nilFunc, Value.nilFunc]) rfl rfl rfl rfl rfl rfl ?_
  intro W33 g34 eg34 r35 z36 b32
  replace h26 := h26.up b32; replace b24 := Zu b24 b32; replace b21 := Zu b21 b32; replace r10 := r10.up b32; replace b7 := Zu b7 b32; replace r4 := r4.up b32; replace b1 := Zu b1 b32; replace hv := hv.up b32; replace q := Zu q b32; replace hok := Zh hok b32; have y37 := hok.size
  refine ⟨hok, ?_⟩
  refine AA.one 8 (by kernel_rfl) ?_
  refine ZR.storeN (vs := [Value.nilFunc, Value.nilFunc, Value.nilFunc, Value.nilFunc]) rfl rfl rfl rfl rfl r35 (by exact Nat.le_of_ble_eq_true rfl) (ones_of rfl) rfl rfl ?_
  intro W39 r40 b38 z41
  have hlb38 := r35.lt
  replace r40 : RowL W39 _ 68 [Value.nilFunc, Value.nilFunc, Value.nilFunc, Value.nilFunc] := r40
  clear r35
  replace b32 := Zg b32 b38; replace b24 := Zg b24 b38; replace b21 := Zg b21 b38; replace r10 := Zd r10 b38; replace b7 := Zg b7 b38; replace r4 := Zd r4 b38; replace b1 := Zg b1 b38; replace q := Zg q b38; replace hok := Zo hok b38
  have r35 := r40
  clear r40
  refine ⟨hok, ?_⟩
  refine AA.pure 9 rfl hok (by kernel_rfl) (fun w' b' => R.assign rfl rfl) rfl rfl ?_
  refine AA.done rfl ?_
  clear fzr10 fzr4 hok
  refine ZT ?_; refine Zr ?_; refine Zm ?_; refine Zt ?_; refine Zm ?_; refine Zs ?_; refine Zs ?_; refine Zs ?_; refine Zs ?_; refine Zp ?_
  refine LL.callP (R.call rfl rfl rfl) rfl rfl (refuse_T _) ?_
  rintro e W43 ⟨rfl, rfl⟩
  refine ⟨_, rfl, ?_⟩; refine EE.thenP ?_; refine EE.panM ?_
  exact ⟨rfl, q⟩
  have l44 := r10.lt; have l45 := r4.lt
  refine ZR.alloc ([Value.nilFunc, Value.nilFunc, Value.nilFunc, Value.nilFunc]) rfl rfl rfl rfl rfl rfl ?_
  intro W47 g48 eg48 r49 z50 b46
  replace h26 := h26.up b46; replace b24 := Zu b24 b46; replace b21 := Zu b21 b46; replace r10 := r10.up b46; replace b7 := Zu b7 b46; replace r4 := r4.up b46; replace b1 := Zu b1 b46; replace hv := hv.up b46; replace q := Zu q b46; replace hok := Zh hok b46; have y51 := hok.size
  refine ⟨hok, ?_⟩
  refine AA.one 3 (by kernel_rfl) ?_
  (refine SR.val rfl (R.lookKF rfl rfl zKeys (by rfl) (z := kdZ) (by kernel_rfl) (by assumption) k rfl kN) rfl rfl hok ?_)
  refine AA.pure 4 rfl hok (by kernel_rfl) (fun w' b' => R.move rfl rfl) rfl rfl ?_
  refine AA.pure 5 rfl hok (by kernel_rfl) (fun w' b' => R.extract rfl rfl rfl) rfl rfl ?_
  refine AA.pure 6 rfl hok (by kernel_rfl) (fun w' b' => R.extract rfl rfl rfl) rfl rfl ?_
  refine AA.one 8 (by kernel_rfl) ?_
  refine ZR.storeN (vs := [Value.nilFunc, Value.nilFunc, Value.nilFunc, Value.nilFunc]) rfl rfl rfl rfl rfl r49 (by exact Nat.le_of_ble_eq_true rfl) (ones_of rfl) rfl rfl ?_
  intro W53 r54 b52 z55
  have hlb52 := r49.lt
  replace r54 : RowL W53 _ 68 [Value.nilFunc, Value.nilFunc, Value.nilFunc, Value.nilFunc] := r54
  clear r49
  replace b46 := Zg b46 b52; replace b24 := Zg b24 b52; replace b21 := Zg b21 b52; replace r10 := Zd r10 b52; replace b7 := Zg b7 b52; replace r4 := Zd r4 b52; replace b1 := Zg b1 b52; replace q := Zg q b52; replace hok := Zo hok b52
  have r49 := r54
  clear r54
  refine ⟨hok, ?_⟩
  refine AA.pure 9 rfl hok (by kernel_rfl) (fun w' b' => R.assign rfl rfl) rfl rfl ?_
  refine AA.done rfl ?_
  clear fzr10 fzr4 hok
  refine ZT ?_; refine Zr ?_; refine Zm ?_; refine Zt ?_; refine Zm ?_; refine Zs ?_; refine Zs ?_; refine Zs ?_; refine Zs ?_; refine Zp ?_
  refine LL.callP (R.call rfl rfl rfl) rfl rfl (refuse_T _) ?_
  rintro e W57 ⟨rfl, rfl⟩
  refine ⟨_, rfl, ?_⟩; refine EE.thenP ?_; refine EE.panM ?_
  exact ⟨rfl, q⟩
  have l58 := r10.lt; have l59 := r4.lt
  refine ZR.alloc ([Value.nilFunc, Value.nilFunc, Value.nilFunc, Value.nilFunc]) rfl rfl rfl rfl rfl rfl ?_
  intro W61 g62 eg62 r63 z64 b60
  replace b21 := Zu b21 b60; replace r10 := r10.up b60; replace b7 := Zu b7 b60; replace r4 := r4.up b60; replace b1 := Zu b1 b60; replace hv := hv.up b60; replace q := Zu q b60; replace hok := Zh hok b60; have y65 := hok.size
  refine ⟨hok, ?_⟩
  refine AA.one 0 (by kernel_rfl) ?_
  refine SR.call rfl (R.call rfl rfl rfl) rfl rfl (kinds_any _) ?_
  rintro e W67 ⟨g69, k70, rfl, h68, b66⟩
  have zb66 := b66.size; replace r63 := r63.up b66; replace b60 := Zu b60 b66; replace b21 := Zu b21 b66; replace r10 := r10.up b66; replace b7 := Zu b7 b66; replace r4 := r4.up b66; replace b1 := Zu b1 b66; replace hv := hv.up b66; replace q := Zu q b66; replace hok := Zh hok b66; have y71 := hok.size
  refine ⟨_, rfl, hok, ?_⟩
  refine AA.one 3 (by kernel_rfl) ?_
  (refine SR.val rfl (R.lookKF rfl rfl zKeys (by rfl) (z := kdZ) (by kernel_rfl) (by assumption) k rfl kN) rfl rfl hok ?_)
  refine AA.pure 4 rfl hok (by kernel_rfl) (fun w' b' => R.move rfl rfl) rfl rfl ?_
  refine AA.pure 5 rfl hok (by kernel_rfl) (fun w' b' => R.extract rfl rfl rfl) rfl rfl ?_
  refine AA.pure 6 rfl hok (by kernel_rfl) (fun w' b' => R.extract rfl rfl rfl) rfl rfl ?_
  refine AA.one 8 (by kernel_rfl) ?_
  refine ZR.storeN (vs := [Value.nilFunc, Value.nilFunc, Value.nilFunc, Value.nilFunc]) rfl rfl rfl rfl rfl r63 (by exact Nat.le_of_ble_eq_true rfl) (ones_of rfl) rfl rfl ?_
  intro W73 r74 b72 z75
  have hlb72 := r63.lt
  replace r74 : RowL W73 _ 68 [Value.nilFunc, Value.nilFunc, Value.nilFunc, Value.nilFunc] := r74
  clear r63
  replace b60 := Zg b60 b72; replace b21 := Zg b21 b72; replace r10 := Zd r10 b72; replace b7 := Zg b7 b72; replace r4 := Zd r4 b72; replace b1 := Zg b1 b72; replace q := Zg q b72; replace hok := Zo hok b72
  have r63 := r74
  clear r74
  refine ⟨hok, ?_⟩
  refine AA.pure 9 rfl hok (by kernel_rfl) (fun w' b' => R.assign rfl rfl) rfl rfl ?_
  refine AA.done rfl ?_
  clear fzr10 fzr4 hok
  refine ZT ?_; refine Zr ?_; refine Zm ?_; refine Zt ?_; refine Zm ?_; refine Zs ?_; refine Zs ?_; refine Zs ?_; refine Zs ?_; refine Zp ?_
  refine LL.callP (R.call rfl rfl rfl) rfl rfl (refuse_T _) ?_
  rintro e W77 ⟨rfl, rfl⟩
  refine ⟨_, rfl, ?_⟩; refine EE.thenP ?_; refine EE.panM ?_
  exact ⟨rfl, q⟩
theorem check0_L (l z r p : Int) (t : Bs) (x : Option Addr) (n c : Nat) (m : List Ex) (w : World) (hv : ReadsT eE 3 w (.slice x n c) m) (hlen : m.length ≤ 1048576) (hl : l < 0 ∨ 65535 < l) : Calls Tryd.prog 29 #[inV 0 l z (.slice x n c) r p t] w fun e w' => e = .panicked (chain1 refV) ∧ Below w.heap.size w w' :=
  check_gL 0 l z r p t x n c w _ _ _ _ kF_0 (by kernel_rfl) (by kernel_rfl) hl
theorem check0_N (l z r p : Int) (t : Bs) (x : Option Addr) (n c : Nat) (m : List Ex) (w : World) (hv : ReadsT eE 3 w (.slice x n c) m) (hlen : m.length ≤ 1048576) (hl : 0 ≤ l ∧ l ≤ 65535) (hn : ¬sameI 0 l z m r p t 0 0 0 [] 0 0 []) : Calls Tryd.prog 29 #[inV 0 l z (.slice x n c) r p t] w fun e w' => e = .panicked (chain1 refV) ∧ Below w.heap.size w w' := by
  have hsm : false = true ↔ sameI 0 l z m r p t 0 0 0 [] 0 0 [] := ⟨fun h => (by cases h), fun h => absurd h hn⟩
  exact check_gN 0 l z r p t x n c w _ _ _ _ kF_0 (by kernel_rfl) (by kernel_rfl) 0 0 0 0 0 [] none 0 0 (fun W => nm0_any 0 l z (.slice x n c) r p t W) hl (fun W b => insame_any 0 l z (.slice x n c) m r p t 0 0 0 (.slice none 0 0) [] 0 0 [] W (hv.up b) (ReadsT.nil _) hlen (by decide) false hsm)
theorem check1_L (l z r p : Int) (t : Bs) (x : Option Addr) (n c : Nat) (m : List Ex) (w : World) (hv : ReadsT eE 3 w (.slice x n c) m) (hlen : m.length ≤ 1048576) (hl : l < 0 ∨ 65535 < l) : Calls Tryd.prog 29 #[inV 1 l z (.slice x n c) r p t] w fun e w' => e = .panicked (chain1 refV) ∧ Below w.heap.size w w' :=
  check_gL 1 l z r p t x n c w _ _ _ _ kF_1 (by kernel_rfl) (by kernel_rfl) hl
theorem check1_N (l z r p : Int) (t : Bs) (x : Option Addr) (n c : Nat) (m : List Ex) (w : World) (hv : ReadsT eE 3 w (.slice x n c) m) (hlen : m.length ≤ 1048576) (hl : 0 ≤ l ∧ l ≤ 65535) (hn : ¬sameI 1 l z m r p t 1 l z m 0 0 []) : Calls Tryd.prog 29 #[inV 1 l z (.slice x n c) r p t] w fun e w' => e = .panicked (chain1 refV) ∧ Below w.heap.size w w' := by
  have hsm : false = true ↔ sameI 1 l z m r p t 1 l z m 0 0 [] := ⟨fun h => (by cases h), fun h => absurd h hn⟩
  exact check_gN 1 l z r p t x n c w _ _ _ _ kF_1 (by kernel_rfl) (by kernel_rfl) 1 l z 0 0 [] x n c (fun W => nm1_any 1 l z (.slice x n c) r p t W ⟨_, _, _, rfl⟩) hl (fun W b => insame_any 1 l z (.slice x n c) m r p t 1 l z (.slice x n c) m 0 0 [] W (hv.up b) (hv.up b) hlen hlen false hsm)
theorem check2_L (l z r p : Int) (t : Bs) (x : Option Addr) (n c : Nat) (m : List Ex) (w : World) (hv : ReadsT eE 3 w (.slice x n c) m) (hlen : m.length ≤ 1048576) (hl : l < 0 ∨ 65535 < l) : Calls Tryd.prog 29 #[inV 2 l z (.slice x n c) r p t] w fun e w' => e = .panicked (chain1 refV) ∧ Below w.heap.size w w' :=
  check_gL 2 l z r p t x n c w _ _ _ _ kF_2 (by kernel_rfl) (by kernel_rfl) hl
theorem check2_N (l z r p : Int) (t : Bs) (x : Option Addr) (n c : Nat) (m : List Ex) (w : World) (hv : ReadsT eE 3 w (.slice x n c) m) (hlen : m.length ≤ 1048576) (hl : 0 ≤ l ∧ l ≤ 65535) (hn : ¬sameI 2 l z m r p t 2 l 0 [] r p []) : Calls Tryd.prog 29 #[inV 2 l z (.slice x n c) r p t] w fun e w' => e = .panicked (chain1 refV) ∧ Below w.heap.size w w' := by
  have hsm : false = true ↔ sameI 2 l z m r p t 2 l 0 [] r p [] := ⟨fun h => (by cases h), fun h => absurd h hn⟩
  exact check_gN 2 l z r p t x n c w _ _ _ _ kF_2 (by kernel_rfl) (by kernel_rfl) 2 l 0 r p [] none 0 0 (fun W => nm2_any 2 l z (.slice x n c) r p t W ⟨_, _, _, rfl⟩) hl (fun W b => insame_any 2 l z (.slice x n c) m r p t 2 l 0 (.slice none 0 0) [] r p [] W (hv.up b) (ReadsT.nil _) hlen (by decide) false hsm)
theorem check3_L (l z r p : Int) (t : Bs) (x : Option Addr) (n c : Nat) (m : List Ex) (w : World) (hv : ReadsT eE 3 w (.slice x n c) m) (hlen : m.length ≤ 1048576) (hl : l < 0 ∨ 65535 < l) : Calls Tryd.prog 29 #[inV 3 l z (.slice x n c) r p t] w fun e w' => e = .panicked (chain1 refV) ∧ Below w.heap.size w w' :=
  check_gL 3 l z r p t x n c w _ _ _ _ kF_3 (by kernel_rfl) (by kernel_rfl) hl
theorem check3_N (l z r p : Int) (t : Bs) (x : Option Addr) (n c : Nat) (m : List Ex) (w : World) (hv : ReadsT eE 3 w (.slice x n c) m) (hlen : m.length ≤ 1048576) (hl : 0 ≤ l ∧ l ≤ 65535) (hn : ¬sameI 3 l z m r p t 3 l 0 [] 0 0 t) : Calls Tryd.prog 29 #[inV 3 l z (.slice x n c) r p t] w fun e w' => e = .panicked (chain1 refV) ∧ Below w.heap.size w w' := by
  have hsm : false = true ↔ sameI 3 l z m r p t 3 l 0 [] 0 0 t := ⟨fun h => (by cases h), fun h => absurd h hn⟩
  exact check_gN 3 l z r p t x n c w _ _ _ _ kF_3 (by kernel_rfl) (by kernel_rfl) 3 l 0 0 0 t none 0 0 (fun W => nm3_any 3 l z (.slice x n c) r p t W ⟨_, _, _, rfl⟩) hl (fun W b => insame_any 3 l z (.slice x n c) m r p t 3 l 0 (.slice none 0 0) [] 0 0 t W (hv.up b) (ReadsT.nil _) hlen (by decide) false hsm)
theorem check1_M (l z : Int) (x : Option Addr) (n c : Nat) (m : List Ex) (w : World) (hv : ReadsT eE 3 w (.slice x n c) m) (hlen : m.length ≤ 1048576) (hl : 0 ≤ l ∧ l ≤ 65535) (hn : ¬okF z m) : Calls Tryd.prog 29 #[inV 1 l z (.slice x n c) 0 0 []] w fun e w' => e = .panicked (chain1 refV) ∧ Below w.heap.size w w' := by
  have hsm : true = true ↔ sameI 1 l z m 0 0 [] 1 l z m 0 0 [] := ⟨fun _ => ⟨rfl, rfl, rfl, rfl, rfl, rfl, rfl⟩, fun _ => rfl⟩
  have hmy : ∀ W, Below w.heap.size w W → Calls Tryd.prog 62 #[inV 1 l z (.slice x n c) 0 0 []] W fun e w' => e = .returned (.bool false) ∧ Below W.heap.size W w' := fun W b => by
    by_cases hz : 0 ≤ z ∧ z ≤ 65536
    · by_cases hm : vL m
      · exact my1_any _ _ _ _ _ _ _ _ _ m W (hv.up b) hz hm false ⟨fun h => (by cases h), fun h => absurd ⟨hz, hm, h⟩ hn⟩
      · exact my1_bad _ _ _ _ _ _ _ _ _ m W (hv.up b) hlen (.inr (.inr hm))
    · exact my1_bad _ _ _ _ _ _ _ _ _ m W (hv.up b) hlen (by omega)
  exact check_gM 1 l z 0 0 [] x n c w _ _ _ _ kF_1 (by kernel_rfl) (by kernel_rfl) 1 l z 0 0 [] x n c (fun W => nm1_any 1 l z (.slice x n c) 0 0 [] W ⟨_, _, _, rfl⟩) hl (fun W b => insame_any 1 l z (.slice x n c) m 0 0 [] 1 l z (.slice x n c) m 0 0 [] W (hv.up b) (hv.up b) hlen hlen true hsm) hmy
theorem check2_M (l r p : Int) (x : Option Addr) (n c : Nat) (m : List Ex) (w : World) (hv : ReadsT eE 3 w (.slice x n c) m) (hlen : m.length ≤ 1048576) (hm0 : m = []) (hl : 0 ≤ l ∧ l ≤ 65535) (hmy : ¬((1 ≤ r ∧ r ≤ 2047) ∧ 1 ≤ p ∧ p ≤ 256)) : Calls Tryd.prog 29 #[inV 2 l 0 (.slice x n c) r p []] w fun e w' => e = .panicked (chain1 refV) ∧ Below w.heap.size w w' := by
  have hsm : true = true ↔ sameI 2 l 0 m r p [] 2 l 0 [] r p [] := ⟨fun _ => ⟨rfl, rfl, rfl, hm0, rfl, rfl, rfl⟩, fun _ => rfl⟩
  exact check_gM 2 l 0 r p [] x n c w _ _ _ _ kF_2 (by kernel_rfl) (by kernel_rfl) 2 l 0 r p [] none 0 0 (fun W => nm2_any 2 l 0 (.slice x n c) r p [] W ⟨_, _, _, rfl⟩) hl (fun W b => insame_any 2 l 0 (.slice x n c) m r p [] 2 l 0 (.slice none 0 0) [] r p [] W (hv.up b) (ReadsT.nil _) hlen (by decide) true hsm) (fun W _ => my2_F _ _ _ _ _ _ _ W ⟨_, _, _, rfl⟩ hmy)
theorem check3_M (l : Int) (t : Bs) (x : Option Addr) (n c : Nat) (m : List Ex) (w : World) (hv : ReadsT eE 3 w (.slice x n c) m) (hlen : m.length ≤ 1048576) (hm0 : m = []) (hl : 0 ≤ l ∧ l ≤ 65535) (htl : t.length ≤ 1048576) (hmy : ¬((1 ≤ t.length ∧ t.length ≤ 112) ∧ (0 : UInt8) ∉ t)) : Calls Tryd.prog 29 #[inV 3 l 0 (.slice x n c) 0 0 t] w fun e w' => e = .panicked (chain1 refV) ∧ Below w.heap.size w w' := by
  have hsm : true = true ↔ sameI 3 l 0 m 0 0 t 3 l 0 [] 0 0 t := ⟨fun _ => ⟨rfl, rfl, rfl, hm0, rfl, rfl, rfl⟩, fun _ => rfl⟩
  exact check_gM 3 l 0 0 0 t x n c w _ _ _ _ kF_3 (by kernel_rfl) (by kernel_rfl) 3 l 0 0 0 t none 0 0 (fun W => nm3_any 3 l 0 (.slice x n c) 0 0 t W ⟨_, _, _, rfl⟩) hl (fun W b => insame_any 3 l 0 (.slice x n c) m 0 0 t 3 l 0 (.slice none 0 0) [] 0 0 t W (hv.up b) (ReadsT.nil _) hlen (by decide) true hsm) (fun W _ => my3_F _ _ _ _ _ _ _ W ⟨_, _, _, rfl⟩ htl hmy)
theorem Tryd.infoU14 : (Tryd.prog.info? 41).map (fun i => (i.zero, i.size, i.bytes)) = some (some (.int .u64 0), 1, 8) := by kernel_rfl
theorem ElU14 : ElT Tryd.prog 28 41 (.int .u64 0) 1 8 := info_parts_t Tryd.underlying28 Tryd.infoU14 rfl
theorem or_add8 {k y : Nat} (h : k < 256) : k ||| 256 * y = k + 256 * y := by
  rw [Nat.or_comm, show 256 * y = 2 ^ 8 * y from rfl, ← Nat.two_pow_add_eq_or_of_lt (show k < 2 ^ 8 from h), Nat.add_comm]
/-- The first word, and noughts. -/
def hdN (k l : Nat) : List Nat := (k + 256 * l) :: List.replicate 15 0
abbrev KW (w : World) (go : Nat) (i : Nat) : Prop := i < w.heap.size ∧ i ≠ go
def wordsP (go : Nat) (ws : List Nat) (w0 : World) (e : Ending) (w : World) : Prop := e = .returned (.tuple #[]) ∧ (∃ gw, RowL w go 28 [.slice (some ⟨gw, 0, none⟩) 16 16] ∧ RowL w gw 41 (ints .u64 ws) ∧ w0.heap.size ≤ gw) ∧ Kept (KW w0 go) w0 w
theorem words1_1 (l z : Nat) (x : Option Addr) (n c : Nat) (m : List Ex) (go gn : Nat) (v0 : Value) (w : World) (hS : Start w) (hv : ReadsT eE 3 w (.slice x n c) m) (hlen : m.length ≤ 1048576) (hl : l ≤ 65535) (h : okF (z : Int) m) (hn : RowL w gn 25 (inL 1 (l : Int) (z : Int) (.slice x n c) 0 0 [])) (ho : RowL w go 28 [v0]) (hne : go ≠ gn ∧ 0 < go) : Calls Tryd.prog 28 #[.pointer (some ⟨gn, 0, none⟩), .pointer (some ⟨go, 0, none⟩)] w (wordsP go (layF (hdN 1 l) z m) w) := by
  unfold wordsP
  have hkk := Kept.refl (KW w go) w
  have lgn := hn.lt; have lgo := ho.lt
  have hS0 := hS.pos
  have hvF : ∀ X, Below w.heap.size w X → ReadsT eE 3 X (.slice x n c) m := fun X b => hv.up b
  have hSF : ∀ X, Below w.heap.size w X → Start X := fun X b => hS.up b
  have q := Below.refl w.heap.size w
  clear hv hS
  refine X.fn Tryd.func28 rfl (n := 25) rfl rfl ?_
  refine Zr ?_; refine Zv hn ?_; have l30 := hn.lt; have l31 := ho.lt
  (refine Zy (R.call rfl rfl rfl) (check1_T _ _ _ _ _ m _ (hvF _ q) (by omega) h) ?_; rintro e W29 ⟨rfl, b26⟩; refine ⟨_, rfl, ?_⟩)
  have zb26 := b26.size; replace hn := hn.up b26; replace ho := ho.up b26; replace hkk := Zh hkk b26; have y35 := hkk.size; replace q := Zu q b26; have l61 := hn.lt; have l62 := ho.lt
  refine LL.alloc ([Value.nilFunc, Value.nilFunc, Value.nilFunc, Value.nilFunc]) rfl rfl rfl rfl rfl ?_
  intro W64 g65 eg65 r66 z67 b63
  replace b26 := Zu b26 b63; replace hn := hn.up b63; replace ho := ho.up b63; replace hkk := Zh hkk b63; have y68 := hkk.size; replace q := Zu q b63
  refine LL.storeN (vs := [fnV kd1.1, fnV kd1.2.1, fnV kd1.2.2.1, fnV kd1.2.2.2]) rfl rfl rfl rfl r66 (by exact Nat.le_of_ble_eq_true rfl) (ones_of rfl) rfl rfl ?_
  intro W97 r98 b96 z99
  have hlb96 := r66.lt
  replace r98 : RowL W97 _ 68 [fnV kd1.1, fnV kd1.2.1, fnV kd1.2.2.1, fnV kd1.2.2.2] := r98
  clear r66
  replace b63 := Zg b63 b96; replace b26 := Zg b26 b96; replace hn := Zd hn b96; replace ho := Zd ho b96; replace hkk := Zo hkk b96; replace q := Zg q b96
  have r66 := r98
  clear r98
  refine Zq ?_; refine Zr ?_; have l114 := hn.lt; have l115 := ho.lt; have l116 := r66.lt
  (refine LL.makeE (l := 16) (m := 16) ElU14 rfl (by decide) rfl rfl rfl (Nat.le_refl _) (by decide) (by decide) rfl rfl ?_; intro W113 g1 eg1 r1 zg1 b110; replace r1 : RowL W113 g1 41 (ints .u64 (List.replicate 16 0)) := r1)
  have zb110 := b110.size; replace b63 := Zu b63 b110; replace b26 := Zu b26 b110; replace hn := hn.up b110; replace ho := ho.up b110; replace hkk := Zh hkk b110; have y120 := hkk.size; replace q := Zu q b110; replace r66 := r66.up b110; have l150 := r1.lt; have l151 := hn.lt; have l152 := ho.lt; have l153 := r66.lt
  refine LL.alloc ([.slice none 0 0]) rfl rfl rfl rfl rfl ?_
  intro W155 g156 eg156 r157 z158 b154
  replace b110 := Zu b110 b154; replace r1 := r1.up b154; replace b63 := Zu b63 b154; replace b26 := Zu b26 b154; replace hn := hn.up b154; replace ho := ho.up b154; replace hkk := Zh hkk b154; have y159 := hkk.size; replace q := Zu q b154; replace r66 := r66.up b154
  refine LL.store rfl rfl rfl rfl r157 (by exact Nat.le_of_ble_eq_true rfl) rfl rfl rfl rfl ?_
  intro W192 r193 b191 z194
  have hlb191 := r157.lt
  replace r193 : RowL W192 _ 28 [.slice (some { block := g1, off := 0 }) 16 16] := r193
  clear r157
  replace b154 := Zg b154 b191; replace b110 := Zg b110 b191; replace r1 := Zd r1 b191; replace b63 := Zg b63 b191; replace b26 := Zg b26 b191; replace hn := Zd hn b191; replace ho := Zd ho b191; replace hkk := Zo hkk b191; replace q := Zg q b191; replace r66 := Zd r66 b191
  have r157 := r193
  clear r193
  refine Zq ?_; refine Zr ?_; refine Zl r157 ?_; refine Zf ?_; refine Zl hn ?_
  refine LL.val (R.convI rfl rfl rfl rfl (wrapU (by omega) (by omega))) rfl rfl rfl ?_
  refine Zf ?_; refine Zl hn ?_
  refine LL.val (R.convI rfl rfl rfl rfl (wrapU (by omega) (by omega))) rfl rfl rfl ?_
  refine LL.val (R.shlE (b := 8) (z := 256 * l) rfl rfl rfl (by decide) (by omega) (by omega)) rfl rfl rfl ?_
  refine LL.val (R.orE (a := 1) (b := 256 * l) (z := 1 + 256 * l) rfl rfl rfl (by decide) (by omega) (or_add8 (by decide))) rfl rfl rfl ?_
  refine Zi ?_
  refine LL.store rfl rfl rfl rfl r1 (by exact Nat.le_of_ble_eq_true rfl) rfl rfl rfl rfl ?_
  intro W499 r500 b498 z501
  have hlb498 := r1.lt
  replace r500 : RowL W499 _ 41 [Value.int IntKind.u64 ↑(1 + 256 * l), (fun n => Value.int IntKind.u64 ↑n) 0, (fun n => Value.int IntKind.u64 ↑n) 0, (fun n => Value.int IntKind.u64 ↑n) 0, (fun n => Value.int IntKind.u64 ↑n) 0, (fun n => Value.int IntKind.u64 ↑n) 0, (fun n => Value.int IntKind.u64 ↑n) 0, (fun n => Value.int IntKind.u64 ↑n) 0, (fun n => Value.int IntKind.u64 ↑n) 0, (fun n => Value.int IntKind.u64 ↑n) 0, (fun n => Value.int IntKind.u64 ↑n) 0, (fun n => Value.int IntKind.u64 ↑n) 0, (fun n => Value.int IntKind.u64 ↑n) 0, (fun n => Value.int IntKind.u64 ↑n) 0, (fun n => Value.int IntKind.u64 ↑n) 0, (fun n => Value.int IntKind.u64 ↑n) 0] := r500
  clear r1
  replace b110 := Zg b110 b498; replace b63 := Zg b63 b498; replace b26 := Zg b26 b498; replace hn := Zd hn b498; replace ho := Zd ho b498; replace hkk := Zo hkk b498; replace q := Zg q b498; replace r66 := Zd r66 b498; replace r157 := Zd r157 b498
  have r1 := r500
  clear r500
  refine Zq ?_; refine Zr ?_; have l533 := hn.lt; have l534 := ho.lt; have l535 := r66.lt; have l536 := r157.lt; have l537 := r1.lt
  refine LL.alloc ([.int .i64 0]) rfl rfl rfl rfl rfl ?_
  intro W539 g540 eg540 r541 z542 b538
  replace b110 := Zu b110 b538; replace b63 := Zu b63 b538; replace b26 := Zu b26 b538; replace hn := hn.up b538; replace ho := ho.up b538; replace hkk := Zh hkk b538; have y543 := hkk.size; replace q := Zu q b538; replace r66 := r66.up b538; replace r157 := r157.up b538; replace r1 := r1.up b538
  refine LL.store rfl rfl rfl rfl r541 (by exact Nat.le_of_ble_eq_true rfl) rfl rfl rfl rfl ?_
  intro W578 r579 b577 z580
  have hlb577 := r541.lt
  replace r579 : RowL W578 _ 3 [.int .i64 1] := r579
  clear r541
  replace b538 := Zg b538 b577; replace b110 := Zg b110 b577; replace b63 := Zg b63 b577; replace b26 := Zg b26 b577; replace hn := Zd hn b577; replace ho := Zd ho b577; replace hkk := Zo hkk b577; replace q := Zg q b577; replace r66 := Zd r66 b577; replace r157 := Zd r157 b577; replace r1 := Zd r1 b577
  have r541 := r579
  clear r579
  refine Zq ?_; refine Zr ?_; refine Zf ?_; refine Zl r66 ?_; refine Zv hn ?_
  refine LL.val (R.buildV rfl rfl (v := .agg #[Value.int IntKind.i64 1, Value.int IntKind.i64 ↑l, Value.int IntKind.i64 ↑z, Value.slice x n c, Value.int IntKind.i64 0, Value.int IntKind.i64 0, strV []]) (fun _ => by kernel_rfl)) rfl rfl rfl ?_
  refine LL.val (R.func rfl rfl rfl) rfl rfl rfl ?_
  (refine LL.call (R.callV rfl rfl rfl rfl) rfl rfl rfl (ly1_any 1 l z x n c 0 0 [] m _ g1 _ (hdN 1 l) _ (hSF _ q) ⟨by omega, by omega⟩ (hvF _ q) h.2.1 (by have := h.1; omega) ⟨by assumption, by assumption, (show RowL _ g1 41 (ints .u64 (hdN 1 l)) from by assumption), rfl, by omega, by omega, by omega⟩) ?_; rintro e W775 ⟨rfl, ⟨at8, O8⟩, t774⟩; refine ⟨_, rfl, ?_⟩; clear r1; replace hkk := hkk.trans (t774.less fun j hj => ⟨by have := hj.1; omega, by have := hj.1; omega, by have := hj.1; omega⟩); have rv8 := O8.rv; have rw8 := O8.rw_; clear O8)
  have zt774 := t774.size
  replace b110 := t774.onB b110 (fun j hj => ⟨by have := b110.size; omega, by omega⟩)
  replace b63 := t774.onB b63 (fun j hj => ⟨by have := b63.size; omega, by omega⟩)
  replace b26 := t774.onB b26 (fun j hj => ⟨by have := b26.size; omega, by omega⟩)
  replace hn := hn.kept t774 ⟨hn.lt, by omega⟩
  replace ho := ho.kept t774 ⟨ho.lt, by omega⟩
  replace q := t774.onB q (fun j hj => ⟨by have := q.size; omega, by omega⟩)
  replace r66 := r66.kept t774 ⟨r66.lt, by omega⟩
  replace r157 := r157.kept t774 ⟨r157.lt, by omega⟩
  refine Zq ?_; refine CC.region ?_; refine Zl r157 ?_
  refine LL.store rfl rfl rfl rfl ho (by exact Nat.le_of_ble_eq_true rfl) rfl rfl rfl rfl ?_
  intro W846 r847 b845 z848
  have hlb845 := ho.lt
  replace r847 : RowL W846 _ 28 [.slice (some { block := g1, off := 0 }) 16 16] := r847
  clear ho
  replace hkk := Zo hkk b845; replace rv8 := Zd rv8 b845; replace rw8 := Zd rw8 b845; replace hn := Zd hn b845; replace r66 := Zd r66 b845; replace r157 := Zd r157 b845
  have ho := r847
  clear r847
  refine ZL ?_; refine EE.end _ rfl rfl ?_
  exact ⟨rfl, ⟨g1, by assumption, by assumption, by omega⟩, hkk⟩
theorem words1_2 (l r p : Nat) (x : Option Addr) (n c : Nat) (m : List Ex) (go gn : Nat) (v0 : Value) (w : World) (hS : Start w) (hv : ReadsT eE 3 w (.slice x n c) m) (hlen : m.length ≤ 1048576) (hm0 : m = []) (hl : l ≤ 65535) (h : (1 ≤ r ∧ r ≤ 2047) ∧ 1 ≤ p ∧ p ≤ 256) (hn : RowL w gn 25 (inL 2 (l : Int) 0 (.slice x n c) (r : Int) (p : Int) [])) (ho : RowL w go 28 [v0]) (hne : go ≠ gn ∧ 0 < go) : Calls Tryd.prog 28 #[.pointer (some ⟨gn, 0, none⟩), .pointer (some ⟨go, 0, none⟩)] w (wordsP go (layD (hdN 2 l) r p) w) := by
  unfold wordsP
  have hkk := Kept.refl (KW w go) w
  have lgn := hn.lt; have lgo := ho.lt
  have hS0 := hS.pos
  have hvF : ∀ X, Below w.heap.size w X → ReadsT eE 3 X (.slice x n c) m := fun X b => hv.up b
  have hSF : ∀ X, Below w.heap.size w X → Start X := fun X b => hS.up b
  have q := Below.refl w.heap.size w
  clear hv hS
  refine X.fn Tryd.func28 rfl (n := 25) rfl rfl ?_
  refine Zr ?_; refine Zv hn ?_; have l30 := hn.lt; have l31 := ho.lt
  (refine Zy (R.call rfl rfl rfl) (check2_T l r p x n c m _ (hvF _ q) hlen hm0 (by omega) (by omega)) ?_; rintro e W29 ⟨rfl, b26⟩; refine ⟨_, rfl, ?_⟩)
  have zb26 := b26.size; replace hn := hn.up b26; replace ho := ho.up b26; replace hkk := Zh hkk b26; have y35 := hkk.size; replace q := Zu q b26; have l61 := hn.lt; have l62 := ho.lt
  refine LL.alloc ([Value.nilFunc, Value.nilFunc, Value.nilFunc, Value.nilFunc]) rfl rfl rfl rfl rfl ?_
  intro W64 g65 eg65 r66 z67 b63
  replace b26 := Zu b26 b63; replace hn := hn.up b63; replace ho := ho.up b63; replace hkk := Zh hkk b63; have y68 := hkk.size; replace q := Zu q b63
  refine LL.storeN (vs := [fnV kd2.1, fnV kd2.2.1, fnV kd2.2.2.1, fnV kd2.2.2.2]) rfl rfl rfl rfl r66 (by exact Nat.le_of_ble_eq_true rfl) (ones_of rfl) rfl rfl ?_
  intro W97 r98 b96 z99
  have hlb96 := r66.lt
  replace r98 : RowL W97 _ 68 [fnV kd2.1, fnV kd2.2.1, fnV kd2.2.2.1, fnV kd2.2.2.2] := r98
  clear r66
  replace b63 := Zg b63 b96; replace b26 := Zg b26 b96; replace hn := Zd hn b96; replace ho := Zd ho b96; replace hkk := Zo hkk b96; replace q := Zg q b96
  have r66 := r98
  clear r98
  refine Zq ?_; refine Zr ?_; have l114 := hn.lt; have l115 := ho.lt; have l116 := r66.lt
  (refine LL.makeE (l := 16) (m := 16) ElU14 rfl (by decide) rfl rfl rfl (Nat.le_refl _) (by decide) (by decide) rfl rfl ?_; intro W113 g1 eg1 r1 zg1 b110; replace r1 : RowL W113 g1 41 (ints .u64 (List.replicate 16 0)) := r1)
  have zb110 := b110.size; replace b63 := Zu b63 b110; replace b26 := Zu b26 b110; replace hn := hn.up b110; replace ho := ho.up b110; replace hkk := Zh hkk b110; have y120 := hkk.size; replace q := Zu q b110; replace r66 := r66.up b110; have l150 := r1.lt; have l151 := hn.lt; have l152 := ho.lt; have l153 := r66.lt
  refine LL.alloc ([.slice none 0 0]) rfl rfl rfl rfl rfl ?_
  intro W155 g156 eg156 r157 z158 b154
  replace b110 := Zu b110 b154; replace r1 := r1.up b154; replace b63 := Zu b63 b154; replace b26 := Zu b26 b154; replace hn := hn.up b154; replace ho := ho.up b154; replace hkk := Zh hkk b154; have y159 := hkk.size; replace q := Zu q b154; replace r66 := r66.up b154
  refine LL.store rfl rfl rfl rfl r157 (by exact Nat.le_of_ble_eq_true rfl) rfl rfl rfl rfl ?_
  intro W192 r193 b191 z194
  have hlb191 := r157.lt
  replace r193 : RowL W192 _ 28 [.slice (some { block := g1, off := 0 }) 16 16] := r193
  clear r157
  replace b154 := Zg b154 b191; replace b110 := Zg b110 b191; replace r1 := Zd r1 b191; replace b63 := Zg b63 b191; replace b26 := Zg b26 b191; replace hn := Zd hn b191; replace ho := Zd ho b191; replace hkk := Zo hkk b191; replace q := Zg q b191; replace r66 := Zd r66 b191
  have r157 := r193
  clear r193
  refine Zq ?_; refine Zr ?_; refine Zl r157 ?_; refine Zf ?_; refine Zl hn ?_
  refine LL.val (R.convI rfl rfl rfl rfl (wrapU (by omega) (by omega))) rfl rfl rfl ?_
  refine Zf ?_; refine Zl hn ?_
  refine LL.val (R.convI rfl rfl rfl rfl (wrapU (by omega) (by omega))) rfl rfl rfl ?_
  refine LL.val (R.shlE (b := 8) (z := 256 * l) rfl rfl rfl (by decide) (by omega) (by omega)) rfl rfl rfl ?_
  refine LL.val (R.orE (a := 2) (b := 256 * l) (z := 2 + 256 * l) rfl rfl rfl (by decide) (by omega) (or_add8 (by decide))) rfl rfl rfl ?_
  refine Zi ?_
  refine LL.store rfl rfl rfl rfl r1 (by exact Nat.le_of_ble_eq_true rfl) rfl rfl rfl rfl ?_
  intro W499 r500 b498 z501
  have hlb498 := r1.lt
  replace r500 : RowL W499 _ 41 [Value.int IntKind.u64 ↑(2 + 256 * l), (fun n => Value.int IntKind.u64 ↑n) 0, (fun n => Value.int IntKind.u64 ↑n) 0, (fun n => Value.int IntKind.u64 ↑n) 0, (fun n => Value.int IntKind.u64 ↑n) 0, (fun n => Value.int IntKind.u64 ↑n) 0, (fun n => Value.int IntKind.u64 ↑n) 0, (fun n => Value.int IntKind.u64 ↑n) 0, (fun n => Value.int IntKind.u64 ↑n) 0, (fun n => Value.int IntKind.u64 ↑n) 0, (fun n => Value.int IntKind.u64 ↑n) 0, (fun n => Value.int IntKind.u64 ↑n) 0, (fun n => Value.int IntKind.u64 ↑n) 0, (fun n => Value.int IntKind.u64 ↑n) 0, (fun n => Value.int IntKind.u64 ↑n) 0, (fun n => Value.int IntKind.u64 ↑n) 0] := r500
  clear r1
  replace b110 := Zg b110 b498; replace b63 := Zg b63 b498; replace b26 := Zg b26 b498; replace hn := Zd hn b498; replace ho := Zd ho b498; replace hkk := Zo hkk b498; replace q := Zg q b498; replace r66 := Zd r66 b498; replace r157 := Zd r157 b498
  have r1 := r500
  clear r500
  refine Zq ?_; refine Zr ?_; have l533 := hn.lt; have l534 := ho.lt; have l535 := r66.lt; have l536 := r157.lt; have l537 := r1.lt
  refine LL.alloc ([.int .i64 0]) rfl rfl rfl rfl rfl ?_
  intro W539 g540 eg540 r541 z542 b538
  replace b110 := Zu b110 b538; replace b63 := Zu b63 b538; replace b26 := Zu b26 b538; replace hn := hn.up b538; replace ho := ho.up b538; replace hkk := Zh hkk b538; have y543 := hkk.size; replace q := Zu q b538; replace r66 := r66.up b538; replace r157 := r157.up b538; replace r1 := r1.up b538
  refine LL.store rfl rfl rfl rfl r541 (by exact Nat.le_of_ble_eq_true rfl) rfl rfl rfl rfl ?_
  intro W578 r579 b577 z580
  have hlb577 := r541.lt
  replace r579 : RowL W578 _ 3 [.int .i64 1] := r579
  clear r541
  replace b538 := Zg b538 b577; replace b110 := Zg b110 b577; replace b63 := Zg b63 b577; replace b26 := Zg b26 b577; replace hn := Zd hn b577; replace ho := Zd ho b577; replace hkk := Zo hkk b577; replace q := Zg q b577; replace r66 := Zd r66 b577; replace r157 := Zd r157 b577; replace r1 := Zd r1 b577
  have r541 := r579
  clear r579
  refine Zq ?_; refine Zr ?_; refine Zf ?_; refine Zl r66 ?_; refine Zv hn ?_
  refine LL.val (R.buildV rfl rfl (v := .agg #[Value.int IntKind.i64 2, Value.int IntKind.i64 ↑l, Value.int IntKind.i64 0, Value.slice x n c, Value.int IntKind.i64 ↑r, Value.int IntKind.i64 ↑p, strV []]) (fun _ => by kernel_rfl)) rfl rfl rfl ?_
  refine LL.val (R.func rfl rfl rfl) rfl rfl rfl ?_
  (refine LL.call (R.callV rfl rfl rfl rfl) rfl rfl rfl (ly2_any 2 l 0 _ r p [] _ g1 _ (hdN 2 l) _ ⟨_, _, _, rfl⟩ (by omega) (by omega) ⟨by assumption, by assumption, (show RowL _ g1 41 (ints .u64 (hdN 2 l)) from by assumption), rfl, by omega, by omega, by omega⟩) ?_; rintro e W775 ⟨rfl, ⟨at8, O8⟩, t774⟩; refine ⟨_, rfl, ?_⟩; clear r1; replace hkk := hkk.trans (t774.less fun j hj => ⟨by have := hj.1; omega, by have := hj.1; omega, by have := hj.1; omega⟩); have rv8 := O8.rv; have rw8 := O8.rw_; clear O8)
  have zt774 := t774.size
  replace b110 := t774.onB b110 (fun j hj => ⟨by have := b110.size; omega, by omega⟩)
  replace b63 := t774.onB b63 (fun j hj => ⟨by have := b63.size; omega, by omega⟩)
  replace b26 := t774.onB b26 (fun j hj => ⟨by have := b26.size; omega, by omega⟩)
  replace hn := hn.kept t774 ⟨hn.lt, by omega⟩
  replace ho := ho.kept t774 ⟨ho.lt, by omega⟩
  replace q := t774.onB q (fun j hj => ⟨by have := q.size; omega, by omega⟩)
  replace r66 := r66.kept t774 ⟨r66.lt, by omega⟩
  replace r157 := r157.kept t774 ⟨r157.lt, by omega⟩
  refine Zq ?_; refine CC.region ?_; refine Zl r157 ?_
  refine LL.store rfl rfl rfl rfl ho (by exact Nat.le_of_ble_eq_true rfl) rfl rfl rfl rfl ?_
  intro W846 r847 b845 z848
  have hlb845 := ho.lt
  replace r847 : RowL W846 _ 28 [.slice (some { block := g1, off := 0 }) 16 16] := r847
  clear ho
  replace hkk := Zo hkk b845; replace rv8 := Zd rv8 b845; replace rw8 := Zd rw8 b845; replace hn := Zd hn b845; replace r66 := Zd r66 b845; replace r157 := Zd r157 b845
  have ho := r847
  clear r847
  refine ZL ?_; refine EE.end _ rfl rfl ?_
  exact ⟨rfl, ⟨g1, by assumption, by assumption, by omega⟩, hkk⟩
theorem words1_3 (l : Nat) (t : Bs) (x : Option Addr) (n c : Nat) (m : List Ex) (go gn : Nat) (v0 : Value) (w : World) (hS : Start w) (hv : ReadsT eE 3 w (.slice x n c) m) (hlen : m.length ≤ 1048576) (hm0 : m = []) (hl : l ≤ 65535) (h : (1 ≤ t.length ∧ t.length ≤ 112) ∧ (0 : UInt8) ∉ t) (hn : RowL w gn 25 (inL 3 (l : Int) 0 (.slice x n c) 0 0 t)) (ho : RowL w go 28 [v0]) (hne : go ≠ gn ∧ 0 < go) : Calls Tryd.prog 28 #[.pointer (some ⟨gn, 0, none⟩), .pointer (some ⟨go, 0, none⟩)] w (wordsP go (layK (hdN 3 l) t) w) := by
  unfold wordsP
  have hkk := Kept.refl (KW w go) w
  have lgn := hn.lt; have lgo := ho.lt
  have hS0 := hS.pos
  have hvF : ∀ X, Below w.heap.size w X → ReadsT eE 3 X (.slice x n c) m := fun X b => hv.up b
  have hSF : ∀ X, Below w.heap.size w X → Start X := fun X b => hS.up b
  have q := Below.refl w.heap.size w
  clear hv hS
  refine X.fn Tryd.func28 rfl (n := 25) rfl rfl ?_
  refine Zr ?_; refine Zv hn ?_; have l30 := hn.lt; have l31 := ho.lt
  (refine Zy (R.call rfl rfl rfl) (check3_T l t x n c m _ (hvF _ q) hlen hm0 (by omega) h) ?_; rintro e W29 ⟨rfl, b26⟩; refine ⟨_, rfl, ?_⟩)
  have zb26 := b26.size; replace hn := hn.up b26; replace ho := ho.up b26; replace hkk := Zh hkk b26; have y35 := hkk.size; replace q := Zu q b26; have l61 := hn.lt; have l62 := ho.lt
  refine LL.alloc ([Value.nilFunc, Value.nilFunc, Value.nilFunc, Value.nilFunc]) rfl rfl rfl rfl rfl ?_
  intro W64 g65 eg65 r66 z67 b63
  replace b26 := Zu b26 b63; replace hn := hn.up b63; replace ho := ho.up b63; replace hkk := Zh hkk b63; have y68 := hkk.size; replace q := Zu q b63
  refine LL.storeN (vs := [fnV kd3.1, fnV kd3.2.1, fnV kd3.2.2.1, fnV kd3.2.2.2]) rfl rfl rfl rfl r66 (by exact Nat.le_of_ble_eq_true rfl) (ones_of rfl) rfl rfl ?_
  intro W97 r98 b96 z99
  have hlb96 := r66.lt
  replace r98 : RowL W97 _ 68 [fnV kd3.1, fnV kd3.2.1, fnV kd3.2.2.1, fnV kd3.2.2.2] := r98
  clear r66
  replace b63 := Zg b63 b96; replace b26 := Zg b26 b96; replace hn := Zd hn b96; replace ho := Zd ho b96; replace hkk := Zo hkk b96; replace q := Zg q b96
  have r66 := r98
  clear r98
  refine Zq ?_; refine Zr ?_; have l114 := hn.lt; have l115 := ho.lt; have l116 := r66.lt
  (refine LL.makeE (l := 16) (m := 16) ElU14 rfl (by decide) rfl rfl rfl (Nat.le_refl _) (by decide) (by decide) rfl rfl ?_; intro W113 g1 eg1 r1 zg1 b110; replace r1 : RowL W113 g1 41 (ints .u64 (List.replicate 16 0)) := r1)
  have zb110 := b110.size; replace b63 := Zu b63 b110; replace b26 := Zu b26 b110; replace hn := hn.up b110; replace ho := ho.up b110; replace hkk := Zh hkk b110; have y120 := hkk.size; replace q := Zu q b110; replace r66 := r66.up b110; have l150 := r1.lt; have l151 := hn.lt; have l152 := ho.lt; have l153 := r66.lt
  refine LL.alloc ([.slice none 0 0]) rfl rfl rfl rfl rfl ?_
  intro W155 g156 eg156 r157 z158 b154
  replace b110 := Zu b110 b154; replace r1 := r1.up b154; replace b63 := Zu b63 b154; replace b26 := Zu b26 b154; replace hn := hn.up b154; replace ho := ho.up b154; replace hkk := Zh hkk b154; have y159 := hkk.size; replace q := Zu q b154; replace r66 := r66.up b154
  refine LL.store rfl rfl rfl rfl r157 (by exact Nat.le_of_ble_eq_true rfl) rfl rfl rfl rfl ?_
  intro W192 r193 b191 z194
  have hlb191 := r157.lt
  replace r193 : RowL W192 _ 28 [.slice (some { block := g1, off := 0 }) 16 16] := r193
  clear r157
  replace b154 := Zg b154 b191; replace b110 := Zg b110 b191; replace r1 := Zd r1 b191; replace b63 := Zg b63 b191; replace b26 := Zg b26 b191; replace hn := Zd hn b191; replace ho := Zd ho b191; replace hkk := Zo hkk b191; replace q := Zg q b191; replace r66 := Zd r66 b191
  have r157 := r193
  clear r193
  refine Zq ?_; refine Zr ?_; refine Zl r157 ?_; refine Zf ?_; refine Zl hn ?_
  refine LL.val (R.convI rfl rfl rfl rfl (wrapU (by omega) (by omega))) rfl rfl rfl ?_
  refine Zf ?_; refine Zl hn ?_
  refine LL.val (R.convI rfl rfl rfl rfl (wrapU (by omega) (by omega))) rfl rfl rfl ?_
  refine LL.val (R.shlE (b := 8) (z := 256 * l) rfl rfl rfl (by decide) (by omega) (by omega)) rfl rfl rfl ?_
  refine LL.val (R.orE (a := 3) (b := 256 * l) (z := 3 + 256 * l) rfl rfl rfl (by decide) (by omega) (or_add8 (by decide))) rfl rfl rfl ?_
  refine Zi ?_
  refine LL.store rfl rfl rfl rfl r1 (by exact Nat.le_of_ble_eq_true rfl) rfl rfl rfl rfl ?_
  intro W499 r500 b498 z501
  have hlb498 := r1.lt
  replace r500 : RowL W499 _ 41 [Value.int IntKind.u64 ↑(3 + 256 * l), (fun n => Value.int IntKind.u64 ↑n) 0, (fun n => Value.int IntKind.u64 ↑n) 0, (fun n => Value.int IntKind.u64 ↑n) 0, (fun n => Value.int IntKind.u64 ↑n) 0, (fun n => Value.int IntKind.u64 ↑n) 0, (fun n => Value.int IntKind.u64 ↑n) 0, (fun n => Value.int IntKind.u64 ↑n) 0, (fun n => Value.int IntKind.u64 ↑n) 0, (fun n => Value.int IntKind.u64 ↑n) 0, (fun n => Value.int IntKind.u64 ↑n) 0, (fun n => Value.int IntKind.u64 ↑n) 0, (fun n => Value.int IntKind.u64 ↑n) 0, (fun n => Value.int IntKind.u64 ↑n) 0, (fun n => Value.int IntKind.u64 ↑n) 0, (fun n => Value.int IntKind.u64 ↑n) 0] := r500
  clear r1
  replace b110 := Zg b110 b498; replace b63 := Zg b63 b498; replace b26 := Zg b26 b498; replace hn := Zd hn b498; replace ho := Zd ho b498; replace hkk := Zo hkk b498; replace q := Zg q b498; replace r66 := Zd r66 b498; replace r157 := Zd r157 b498
  have r1 := r500
  clear r500
  refine Zq ?_; refine Zr ?_; have l533 := hn.lt; have l534 := ho.lt; have l535 := r66.lt; have l536 := r157.lt; have l537 := r1.lt
  refine LL.alloc ([.int .i64 0]) rfl rfl rfl rfl rfl ?_
  intro W539 g540 eg540 r541 z542 b538
  replace b110 := Zu b110 b538; replace b63 := Zu b63 b538; replace b26 := Zu b26 b538; replace hn := hn.up b538; replace ho := ho.up b538; replace hkk := Zh hkk b538; have y543 := hkk.size; replace q := Zu q b538; replace r66 := r66.up b538; replace r157 := r157.up b538; replace r1 := r1.up b538
  refine LL.store rfl rfl rfl rfl r541 (by exact Nat.le_of_ble_eq_true rfl) rfl rfl rfl rfl ?_
  intro W578 r579 b577 z580
  have hlb577 := r541.lt
  replace r579 : RowL W578 _ 3 [.int .i64 1] := r579
  clear r541
  replace b538 := Zg b538 b577; replace b110 := Zg b110 b577; replace b63 := Zg b63 b577; replace b26 := Zg b26 b577; replace hn := Zd hn b577; replace ho := Zd ho b577; replace hkk := Zo hkk b577; replace q := Zg q b577; replace r66 := Zd r66 b577; replace r157 := Zd r157 b577; replace r1 := Zd r1 b577
  have r541 := r579
  clear r579
  refine Zq ?_; refine Zr ?_; refine Zf ?_; refine Zl r66 ?_; refine Zv hn ?_
  refine LL.val (R.buildV rfl rfl (v := .agg #[Value.int IntKind.i64 3, Value.int IntKind.i64 ↑l, Value.int IntKind.i64 0, Value.slice x n c, Value.int IntKind.i64 0, Value.int IntKind.i64 0, strV t]) (fun _ => by kernel_rfl)) rfl rfl rfl ?_
  refine LL.val (R.func rfl rfl rfl) rfl rfl rfl ?_
  (refine LL.call (R.callV rfl rfl rfl rfl) rfl rfl rfl (ly3_any 3 l 0 _ 0 0 t _ g1 _ (hdN 3 l) _ ⟨_, _, _, rfl⟩ h.1 ⟨by assumption, by assumption, (show RowL _ g1 41 (ints .u64 (hdN 3 l)) from by assumption), rfl, by omega, by omega, by omega⟩) ?_; rintro e W775 ⟨rfl, ⟨at8, O8⟩, t774⟩; refine ⟨_, rfl, ?_⟩; clear r1; replace hkk := hkk.trans (t774.less fun j hj => ⟨by have := hj.1; omega, by have := hj.1; omega, by have := hj.1; omega⟩); have rv8 := O8.rv; have rw8 := O8.rw_; clear O8)
  have zt774 := t774.size
  replace b110 := t774.onB b110 (fun j hj => ⟨by have := b110.size; omega, by omega⟩)
  replace b63 := t774.onB b63 (fun j hj => ⟨by have := b63.size; omega, by omega⟩)
  replace b26 := t774.onB b26 (fun j hj => ⟨by have := b26.size; omega, by omega⟩)
  replace hn := hn.kept t774 ⟨hn.lt, by omega⟩
  replace ho := ho.kept t774 ⟨ho.lt, by omega⟩
  replace q := t774.onB q (fun j hj => ⟨by have := q.size; omega, by omega⟩)
  replace r66 := r66.kept t774 ⟨r66.lt, by omega⟩
  replace r157 := r157.kept t774 ⟨r157.lt, by omega⟩
  refine Zq ?_; refine CC.region ?_; refine Zl r157 ?_
  refine LL.store rfl rfl rfl rfl ho (by exact Nat.le_of_ble_eq_true rfl) rfl rfl rfl rfl ?_
  intro W846 r847 b845 z848
  have hlb845 := ho.lt
  replace r847 : RowL W846 _ 28 [.slice (some { block := g1, off := 0 }) 16 16] := r847
  clear ho
  replace hkk := Zo hkk b845; replace rv8 := Zd rv8 b845; replace rw8 := Zd rw8 b845; replace hn := Zd hn b845; replace r66 := Zd r66 b845; replace r157 := Zd r157 b845
  have ho := r847
  clear r847
  refine ZL ?_; refine EE.end _ rfl rfl ?_
  exact ⟨rfl, ⟨g1, by assumption, by assumption, by omega⟩, hkk⟩
theorem words1_0  (x : Option Addr) (n c : Nat) (m : List Ex) (go gn : Nat) (v0 : Value) (w : World) (hS : Start w) (hv : ReadsT eE 3 w (.slice x n c) m) (hlen : m.length ≤ 1048576) (hm0 : m = []) (hn : RowL w gn 25 (inL 0 0 0 (.slice x n c) 0 0 [])) (ho : RowL w go 28 [v0]) (hne : go ≠ gn ∧ 0 < go) : Calls Tryd.prog 28 #[.pointer (some ⟨gn, 0, none⟩), .pointer (some ⟨go, 0, none⟩)] w (wordsP go (hdN 0 0) w) := by
  unfold wordsP
  have hkk := Kept.refl (KW w go) w
  have lgn := hn.lt; have lgo := ho.lt
  have hS0 := hS.pos
  have hvF : ∀ X, Below w.heap.size w X → ReadsT eE 3 X (.slice x n c) m := fun X b => hv.up b
  have hSF : ∀ X, Below w.heap.size w X → Start X := fun X b => hS.up b
  have q := Below.refl w.heap.size w
  clear hv hS
  refine X.fn Tryd.func28 rfl (n := 25) rfl rfl ?_
  refine Zr ?_; refine Zv hn ?_; have l30 := hn.lt; have l31 := ho.lt
  (refine Zy (R.call rfl rfl rfl) (check0_T x n c m _ (hvF _ q) hlen hm0) ?_; rintro e W29 ⟨rfl, b26⟩; refine ⟨_, rfl, ?_⟩)
  have zb26 := b26.size; replace hn := hn.up b26; replace ho := ho.up b26; replace hkk := Zh hkk b26; have y35 := hkk.size; replace q := Zu q b26; have l61 := hn.lt; have l62 := ho.lt
  refine LL.alloc ([Value.nilFunc, Value.nilFunc, Value.nilFunc, Value.nilFunc]) rfl rfl rfl rfl rfl ?_
  intro W64 g65 eg65 r66 z67 b63
  replace b26 := Zu b26 b63; replace hn := hn.up b63; replace ho := ho.up b63; replace hkk := Zh hkk b63; have y68 := hkk.size; replace q := Zu q b63
  refine LL.storeN (vs := [fnV kd0.1, fnV kd0.2.1, fnV kd0.2.2.1, fnV kd0.2.2.2]) rfl rfl rfl rfl r66 (by exact Nat.le_of_ble_eq_true rfl) (ones_of rfl) rfl rfl ?_
  intro W97 r98 b96 z99
  have hlb96 := r66.lt
  replace r98 : RowL W97 _ 68 [fnV kd0.1, fnV kd0.2.1, fnV kd0.2.2.1, fnV kd0.2.2.2] := r98
  clear r66
  replace b63 := Zg b63 b96; replace b26 := Zg b26 b96; replace hn := Zd hn b96; replace ho := Zd ho b96; replace hkk := Zo hkk b96; replace q := Zg q b96
  have r66 := r98
  clear r98
  refine Zq ?_; refine Zr ?_; have l114 := hn.lt; have l115 := ho.lt; have l116 := r66.lt
  (refine LL.makeE (l := 16) (m := 16) ElU14 rfl (by decide) rfl rfl rfl (Nat.le_refl _) (by decide) (by decide) rfl rfl ?_; intro W113 g1 eg1 r1 zg1 b110; replace r1 : RowL W113 g1 41 (ints .u64 (List.replicate 16 0)) := r1)
  have zb110 := b110.size; replace b63 := Zu b63 b110; replace b26 := Zu b26 b110; replace hn := hn.up b110; replace ho := ho.up b110; replace hkk := Zh hkk b110; have y120 := hkk.size; replace q := Zu q b110; replace r66 := r66.up b110; have l150 := r1.lt; have l151 := hn.lt; have l152 := ho.lt; have l153 := r66.lt
  refine LL.alloc ([.slice none 0 0]) rfl rfl rfl rfl rfl ?_
  intro W155 g156 eg156 r157 z158 b154
  replace b110 := Zu b110 b154; replace r1 := r1.up b154; replace b63 := Zu b63 b154; replace b26 := Zu b26 b154; replace hn := hn.up b154; replace ho := ho.up b154; replace hkk := Zh hkk b154; have y159 := hkk.size; replace q := Zu q b154; replace r66 := r66.up b154
  refine LL.store rfl rfl rfl rfl r157 (by exact Nat.le_of_ble_eq_true rfl) rfl rfl rfl rfl ?_
  intro W192 r193 b191 z194
  have hlb191 := r157.lt
  replace r193 : RowL W192 _ 28 [.slice (some { block := g1, off := 0 }) 16 16] := r193
  clear r157
  replace b154 := Zg b154 b191; replace b110 := Zg b110 b191; replace r1 := Zd r1 b191; replace b63 := Zg b63 b191; replace b26 := Zg b26 b191; replace hn := Zd hn b191; replace ho := Zd ho b191; replace hkk := Zo hkk b191; replace q := Zg q b191; replace r66 := Zd r66 b191
  have r157 := r193
  clear r193
  refine Zq ?_; refine Zr ?_; refine Zl r157 ?_; refine Zf ?_; refine Zl hn ?_
  refine LL.val (R.convI rfl rfl rfl rfl (wrapU (by omega) (by omega))) rfl rfl rfl ?_
  refine Zf ?_; refine Zl hn ?_
  refine LL.val (R.convI rfl rfl rfl rfl (wrapU (by omega) (by omega))) rfl rfl rfl ?_
  refine LL.val (R.shlE (a := 0) (b := 8) (z := 256 * 0) rfl rfl rfl (by decide) (by omega) (by omega)) rfl rfl rfl ?_
  refine LL.val (R.orE (a := 0) (b := 256 * 0) (z := 0 + 256 * 0) rfl rfl rfl (by decide) (by omega) (or_add8 (by decide))) rfl rfl rfl ?_
  refine Zi ?_
  refine LL.store rfl rfl rfl rfl r1 (by exact Nat.le_of_ble_eq_true rfl) rfl rfl rfl rfl ?_
  intro W499 r500 b498 z501
  have hlb498 := r1.lt
  replace r500 : RowL W499 _ 41 [Value.int IntKind.u64 ↑(0 + 256 * 0), (fun n => Value.int IntKind.u64 ↑n) 0, (fun n => Value.int IntKind.u64 ↑n) 0, (fun n => Value.int IntKind.u64 ↑n) 0, (fun n => Value.int IntKind.u64 ↑n) 0, (fun n => Value.int IntKind.u64 ↑n) 0, (fun n => Value.int IntKind.u64 ↑n) 0, (fun n => Value.int IntKind.u64 ↑n) 0, (fun n => Value.int IntKind.u64 ↑n) 0, (fun n => Value.int IntKind.u64 ↑n) 0, (fun n => Value.int IntKind.u64 ↑n) 0, (fun n => Value.int IntKind.u64 ↑n) 0, (fun n => Value.int IntKind.u64 ↑n) 0, (fun n => Value.int IntKind.u64 ↑n) 0, (fun n => Value.int IntKind.u64 ↑n) 0, (fun n => Value.int IntKind.u64 ↑n) 0] := r500
  clear r1
  replace b110 := Zg b110 b498; replace b63 := Zg b63 b498; replace b26 := Zg b26 b498; replace hn := Zd hn b498; replace ho := Zd ho b498; replace hkk := Zo hkk b498; replace q := Zg q b498; replace r66 := Zd r66 b498; replace r157 := Zd r157 b498
  have r1 := r500
  clear r500
  refine Zq ?_; refine Zr ?_; have l533 := hn.lt; have l534 := ho.lt; have l535 := r66.lt; have l536 := r157.lt; have l537 := r1.lt
  refine LL.alloc ([.int .i64 0]) rfl rfl rfl rfl rfl ?_
  intro W539 g540 eg540 r541 z542 b538
  replace b110 := Zu b110 b538; replace b63 := Zu b63 b538; replace b26 := Zu b26 b538; replace hn := hn.up b538; replace ho := ho.up b538; replace hkk := Zh hkk b538; have y543 := hkk.size; replace q := Zu q b538; replace r66 := r66.up b538; replace r157 := r157.up b538; replace r1 := r1.up b538
  refine LL.store rfl rfl rfl rfl r541 (by exact Nat.le_of_ble_eq_true rfl) rfl rfl rfl rfl ?_
  intro W578 r579 b577 z580
  have hlb577 := r541.lt
  replace r579 : RowL W578 _ 3 [.int .i64 1] := r579
  clear r541
  replace b538 := Zg b538 b577; replace b110 := Zg b110 b577; replace b63 := Zg b63 b577; replace b26 := Zg b26 b577; replace hn := Zd hn b577; replace ho := Zd ho b577; replace hkk := Zo hkk b577; replace q := Zg q b577; replace r66 := Zd r66 b577; replace r157 := Zd r157 b577; replace r1 := Zd r1 b577
  have r541 := r579
  clear r579
  refine Zq ?_; refine Zr ?_; refine Zf ?_; refine Zl r66 ?_; refine Zv hn ?_
  refine LL.val (R.buildV rfl rfl (v := .agg #[Value.int IntKind.i64 0, Value.int IntKind.i64 0, Value.int IntKind.i64 0, Value.slice x n c, Value.int IntKind.i64 0, Value.int IntKind.i64 0, strV []]) (fun _ => by kernel_rfl)) rfl rfl rfl ?_
  refine LL.val (R.func rfl rfl rfl) rfl rfl rfl ?_
  (refine LL.call (R.callV rfl rfl rfl rfl) rfl rfl rfl (ly0_any 0 0 0 _ 0 0 [] _ g1 _ 1 (hdN 0 0) _ ⟨_, _, _, rfl⟩ ⟨by assumption, by assumption, (show RowL _ g1 41 (ints .u64 (hdN 0 0)) from by assumption), rfl, by omega, by omega, by omega⟩) ?_; rintro e W775 ⟨rfl, ⟨at8, O8⟩, t774⟩; refine ⟨_, rfl, ?_⟩; clear r1; replace hkk := hkk.trans (t774.less fun j hj => ⟨by have := hj.1; omega, by have := hj.1; omega, by have := hj.1; omega⟩); have rv8 := O8.rv; have rw8 := O8.rw_; clear O8)
  have zt774 := t774.size
  replace b110 := t774.onB b110 (fun j hj => ⟨by have := b110.size; omega, by omega⟩)
  replace b63 := t774.onB b63 (fun j hj => ⟨by have := b63.size; omega, by omega⟩)
  replace b26 := t774.onB b26 (fun j hj => ⟨by have := b26.size; omega, by omega⟩)
  replace hn := hn.kept t774 ⟨hn.lt, by omega⟩
  replace ho := ho.kept t774 ⟨ho.lt, by omega⟩
  replace q := t774.onB q (fun j hj => ⟨by have := q.size; omega, by omega⟩)
  replace r66 := r66.kept t774 ⟨r66.lt, by omega⟩
  replace r157 := r157.kept t774 ⟨r157.lt, by omega⟩
  refine Zq ?_; refine CC.region ?_; refine Zl r157 ?_
  refine LL.store rfl rfl rfl rfl ho (by exact Nat.le_of_ble_eq_true rfl) rfl rfl rfl rfl ?_
  intro W846 r847 b845 z848
  have hlb845 := ho.lt
  replace r847 : RowL W846 _ 28 [.slice (some { block := g1, off := 0 }) 16 16] := r847
  clear ho
  replace hkk := Zo hkk b845; replace rv8 := Zd rv8 b845; replace rw8 := Zd rw8 b845; replace hn := Zd hn b845; replace r66 := Zd r66 b845; replace r157 := Zd r157 b845
  have ho := r847
  clear r847
  refine ZL ?_; refine EE.end _ rfl rfl ?_
  exact ⟨rfl, ⟨g1, by assumption, by assumption, by omega⟩, hkk⟩
theorem grd1_calm (ge : Nat) (w : World) : CallsDIn Fence.wide 2 Tryd.prog 49 [Value.pointer (some ⟨ge, 0, none⟩)].toArray .returning w fun e u' w' => (∃ v, e = .returned v) ∧ u' = .returning ∧ w = w' := by
  refine X.recovers (n := 17) (d := 4) (e := 1) Tryd.func49 rfl rfl rfl rfl rfl rfl rfl rfl rfl rfl rfl (recover_calm) ?_
  refine Zr ?_; refine Zm ?_
  refine LL.val (R.eqNilI rfl rfl (by kernel_rfl)) rfl rfl rfl ?_
  refine Zq ?_; refine ZN ?_; refine ZK ?_; refine EE.end _ rfl rfl ?_
  exact ⟨⟨_, rfl⟩, rfl, rfl⟩
theorem grd1_pan (ge : Nat) (x0 : Int) (w : World) (h2 : RowL w ge 29 [.int .i64 x0]) : CallsDIn Fence.wide 2 Tryd.prog 49 [Value.pointer (some ⟨ge, 0, none⟩)].toArray (.panicking (chain1 refV)) w fun e u' w' => (∃ v, e = .returned v) ∧ u' = .panicking [{ v := refV, recovered := true }] ∧ RowL w' ge 29 [.int .i64 240] ∧ Kept (fun i => i < w.heap.size ∧ i ≠ ge) w w' := by
  refine X.recovers (n := 17) (d := 4) (e := 1) Tryd.func49 rfl rfl rfl rfl rfl rfl rfl rfl rfl rfl rfl (recover_one refV) ?_
  have hkk := Kept.refl (fun i => i < w.heap.size ∧ i ≠ ge) w
  have lge := h2.lt; refine Zr ?_; refine Zm ?_
  refine LL.val (R.neNilI rfl rfl rfl (by kernel_rfl)) rfl rfl rfl ?_
  refine Zq ?_; refine ZY ?_; refine Zr ?_; refine Zm ?_
  refine LL.val (R.assertT rfl rfl (by kernel_rfl)) rfl rfl rfl ?_
  refine Zm ?_; refine Zx ?_; refine Zx ?_; have l1 := h2.lt
  refine LL.alloc ([.int .i64 0]) rfl rfl rfl rfl rfl ?_
  intro W3 g4 eg4 r5 z6 b2
  replace h2 := h2.up b2; replace hkk := Zh hkk b2; have y7 := hkk.size
  refine LL.storeN (vs := [.int .i64 240]) rfl rfl rfl rfl r5 (by exact Nat.le_of_ble_eq_true rfl) (ones_of rfl) rfl rfl ?_
  intro W9 r10 b8 z11
  have hlb8 := r5.lt
  replace r10 : RowL W9 _ 100 [.int .i64 240] := r10
  clear r5
  replace b2 := Zg b2 b8; replace h2 := Zd h2 b8; replace hkk := Zo hkk b8
  have r5 := r10
  clear r10
  refine Za ?_; refine Zq ?_; refine Zc ?_; refine Zr ?_; refine Zm ?_; refine Zt ?_; refine Zq ?_; refine ZN ?_; refine ZK ?_; refine ZT ?_; refine CC.region ?_; refine Zf ?_; refine Zl r5 ?_
  refine LL.store rfl rfl rfl rfl h2 (by exact Nat.le_of_ble_eq_true rfl) rfl rfl rfl rfl ?_
  intro W13 r14 b12 z15
  have hlb12 := h2.lt
  replace r14 : RowL W13 _ 29 [.int .i64 240] := r14
  clear h2
  replace hkk := Zo hkk b12; replace r5 := Zd r5 b12
  have h2 := r14
  clear r14
  refine ZL ?_; refine EE.end _ rfl rfl ?_
  exact ⟨⟨_, rfl⟩, rfl, h2, hkk⟩
theorem callsA {P : Program} {f : FuncId} {a b : Array Value} {w : World} {R : Ending → World → Prop} (h : a = b) (c : Calls P f a w R) : Calls P f b w R := h ▸ c
theorem guarded_R (F : FuncId) (cap : List Value) (eF : entB Tryd.prog F = true) (go : Nat) (Rp : Nat → World → Prop) (w : World) (hgo : go < w.heap.size)
    (hR : ∀ n X Y b, Rp n X → w.heap.size ≤ b → b < n → X.grownBy Y (some b) → Rp n Y)
    (hwork : ∀ W, Below w.heap.size w W → Calls Tryd.prog F cap.toArray W fun e W' => e = .returned (.tuple #[]) ∧ Rp W.heap.size W' ∧ Kept (KW W go) W W') :
    Calls Tryd.prog 27 #[.func (.func F) #[] cap.toArray] w fun e w' => e = .returned (.int .i64 0) ∧ (∃ n, w.heap.size ≤ n ∧ Rp n w') ∧ Kept (KW w go) w w' := by
  have q := Below.refl w.heap.size w
  have hkk := Kept.refl (KW w go) w
  refine X.fnP Tryd.func27 rfl (n := 6) rfl rfl ?_
  refine Zr ?_
  refine LL.alloc ([.int .i64 0]) rfl rfl rfl rfl rfl ?_
  intro W2 g3 eg3 r4 z5 b1
  replace q := Zu q b1; replace hkk := Zh hkk b1; have y6 := hkk.size; refine Zq ?_; refine Zr ?_
  refine LL.val (R.func rfl rfl rfl) rfl rfl rfl ?_
  refine LL.defer rfl rfl rfl rfl rfl rfl ?_; refine Zq ?_; refine Zr ?_; refine Zm ?_; have lr4 := r4.lt
  refine LL.call (R.callV rfl rfl rfl eF) rfl rfl rfl (callsA (by simp) (hwork _ q)) ?_
  rintro e W5 ⟨rfl, hr5, t5⟩
  refine ⟨_, rfl, ?_⟩
  replace r4 := r4.kept t5 ⟨r4.lt, by omega⟩
  have zt5 := t5.size
  replace hkk := hkk.trans (t5.less fun j hj => ⟨by have := hj.1; omega, hj.2⟩)
  have hlo : w.heap.size ≤ W2.heap.size := by omega
  have hb3 : g3 < W2.heap.size := by omega
  obtain ⟨N2, hN2⟩ : ∃ N, W2.heap.size = N := ⟨_, rfl⟩
  rw [hN2] at hr5 hlo hb3
  clear t5
  refine Zq ?_; refine Zr ?_
  refine LL.store rfl rfl rfl rfl r4 (by exact Nat.le_of_ble_eq_true rfl) rfl rfl rfl rfl ?_
  intro Wa2 ra3 ba1 za4
  have hlba1 := r4.lt
  replace ra3 : RowL Wa2 _ 29 [.int .i64 0] := ra3
  clear r4
  replace hkk := Zo hkk ba1
  have r4 := ra3
  clear ra3
  refine Zq ?_; refine ZR ?_
  (refine EE.retD (by kernel_rfl) (grd1_calm g3 _) rfl ?_; rintro e u' W6 ⟨hv, rfl, rfl⟩; exact ⟨hv, rfl, _, ⟨_, rfl, lv1 rfl (RowL.cell r4 rfl)⟩, rfl, ⟨N2, hlo, hR N2 _ _ g3 hr5 (by omega) hb3 (by assumption)⟩, hkk⟩)
theorem guarded_P (F : FuncId) (cap : List Value) (eF : entB Tryd.prog F = true) (go : Nat) (w : World) (hgo : go < w.heap.size)
    (hwork : ∀ W, Below w.heap.size w W → Calls Tryd.prog F cap.toArray W fun e W' => e = .panicked (chain1 refV) ∧ Kept (KW W go) W W') :
    Calls Tryd.prog 27 #[.func (.func F) #[] cap.toArray] w fun e w' => e = .returned (.int .i64 240) ∧ Kept (KW w go) w w' := by
  have q := Below.refl w.heap.size w
  have hkk := Kept.refl (KW w go) w
  refine X.fnP Tryd.func27 rfl (n := 6) rfl rfl ?_
  refine Zr ?_
  refine LL.alloc ([.int .i64 0]) rfl rfl rfl rfl rfl ?_
  intro W2 g3 eg3 r4 z5 b1
  replace q := Zu q b1; replace hkk := Zh hkk b1; have y6 := hkk.size; refine Zq ?_; refine Zr ?_
  refine LL.val (R.func rfl rfl rfl) rfl rfl rfl ?_
  refine LL.defer rfl rfl rfl rfl rfl rfl ?_; refine Zq ?_; refine Zr ?_; refine Zm ?_; have lr4 := r4.lt
  refine LL.callP (R.callV rfl rfl rfl eF) rfl rfl (callsA (by simp) (hwork _ q)) ?_
  rintro e W5 ⟨rfl, t5⟩
  refine ⟨_, rfl, ?_⟩
  replace r4 := r4.kept t5 ⟨r4.lt, by omega⟩
  have zt5 := t5.size
  replace hkk := hkk.trans (t5.less fun j hj => ⟨by have := hj.1; omega, hj.2⟩)
  refine EE.thenP ?_
  (refine EE.panD (by kernel_rfl) (grd1_pan g3 _ _ r4) rfl ?_; rintro e u' W6 ⟨hv, rfl, h2, hk⟩; exact ⟨hv, rfl, _, ⟨_, rfl, lv1 rfl (RowL.cell h2 rfl)⟩, rfl, hkk.trans (hk.less fun j hj => ⟨by have := hj.1; omega, by have := hj.1; omega⟩)⟩)
theorem check_F' (k l z : Int) (x : Option Addr) (n c : Nat) (m : List Ex) (r p : Int) (t : Bs) (w : World) (hv : ReadsT eE 3 w (.slice x n c) m) (hlen : m.length ≤ 1048576) (htl : t.length ≤ 1048576) (h : ¬okI k l z m r p t) : Calls Tryd.prog 29 #[inV k l z (.slice x n c) r p t] w fun e w' => e = .panicked (chain1 refV) ∧ Below w.heap.size w w' := by
  by_cases hk : k < 0 ∨ 3 < k
  · exact checkK_F k l z r p t x n c m w hv hlen hk
  rcases (by omega : k = 0 ∨ k = 1 ∨ k = 2 ∨ k = 3) with rfl | rfl | rfl | rfl
  · by_cases hl : l < 0 ∨ 65535 < l
    · exact check0_L l z r p t x n c m w hv hlen hl
    · by_cases hn : sameI 0 l z m r p t 0 0 0 [] 0 0 []
      · obtain ⟨_, rfl, rfl, rfl, rfl, rfl, rfl⟩ := hn
        exact absurd ⟨by omega, .inl ⟨rfl, rfl, rfl, rfl, rfl, rfl, rfl⟩⟩ h
      · exact check0_N l z r p t x n c m w hv hlen (by omega) hn
  · by_cases hl : l < 0 ∨ 65535 < l
    · exact check1_L l z r p t x n c m w hv hlen hl
    · by_cases hn : sameI 1 l z m r p t 1 l z m 0 0 []
      · obtain ⟨_, _, _, _, rfl, rfl, rfl⟩ := hn
        exact check1_M l z x n c m w hv hlen (by omega) fun hf => h ⟨by omega, .inr (.inl ⟨rfl, rfl, rfl, rfl, hf⟩)⟩
      · exact check1_N l z r p t x n c m w hv hlen (by omega) hn
  · by_cases hl : l < 0 ∨ 65535 < l
    · exact check2_L l z r p t x n c m w hv hlen hl
    · by_cases hn : sameI 2 l z m r p t 2 l 0 [] r p []
      · obtain ⟨_, _, rfl, rfl, _, _, rfl⟩ := hn
        exact check2_M l r p x n c [] w hv hlen rfl (by omega) fun hf => h ⟨by omega, .inr (.inr (.inl ⟨rfl, rfl, rfl, rfl, hf⟩))⟩
      · exact check2_N l z r p t x n c m w hv hlen (by omega) hn
  · by_cases hl : l < 0 ∨ 65535 < l
    · exact check3_L l z r p t x n c m w hv hlen hl
    · by_cases hn : sameI 3 l z m r p t 3 l 0 [] 0 0 t
      · obtain ⟨_, _, rfl, rfl, rfl, rfl, _⟩ := hn
        exact check3_M l t x n c [] w hv hlen rfl (by omega) htl fun hf => h ⟨by omega, .inr (.inr (.inr ⟨rfl, rfl, rfl, rfl, rfl, hf⟩))⟩
      · exact check3_N l z r p t x n c m w hv hlen (by omega) hn
set_option linter.unusedVariables false
set_option linter.unusedSimpArgs false
set_option maxRecDepth 100000
set_option maxHeartbeats 8000000
/-- An inode's words. -/
def inoW (k l z : Int) (m : List Ex) (r p : Int) (t : Bs) : List Nat :=
  if k = 1 then layF (hdN 1 l.toNat) z.toNat m else if k = 2 then layD (hdN 2 l.toNat) r.toNat p.toNat else if k = 3 then layK (hdN 3 l.toNat) t else hdN 0 0
theorem words1_any (k l z : Int) (x : Option Addr) (n c : Nat) (m : List Ex) (r p : Int) (t : Bs) (go gn : Nat) (v0 : Value) (w : World) (hS : Start w) (hv : ReadsT eE 3 w (.slice x n c) m) (hlen : m.length ≤ 1048576) (h : okI k l z m r p t) (hn : RowL w gn 25 (inL k l z (.slice x n c) r p t)) (ho : RowL w go 28 [v0]) (hne : go ≠ gn ∧ 0 < go) : Calls Tryd.prog 28 #[.pointer (some ⟨gn, 0, none⟩), .pointer (some ⟨go, 0, none⟩)] w (wordsP go (inoW k l z m r p t) w) := by
  obtain ⟨hl, ⟨rfl, rfl, rfl, hm, rfl, rfl, rfl⟩ | ⟨rfl, rfl, rfl, rfl, hf⟩ | ⟨rfl, rfl, hm, rfl, h1⟩ | ⟨rfl, rfl, hm, rfl, rfl, h1⟩⟩ := h
  · exact words1_0 x n c m go gn v0 w hS hv hlen hm hn ho hne
  · obtain ⟨l, rfl⟩ : ∃ y : Nat, l = (y : Int) := ⟨l.toNat, by omega⟩
    have hz := hf.1
    obtain ⟨z, rfl⟩ : ∃ y : Nat, z = (y : Int) := ⟨z.toNat, by omega⟩
    exact words1_1 l z x n c m go gn v0 w hS hv hlen (by omega) hf hn ho hne
  · obtain ⟨l, rfl⟩ : ∃ y : Nat, l = (y : Int) := ⟨l.toNat, by omega⟩
    obtain ⟨r, rfl⟩ : ∃ y : Nat, r = (y : Int) := ⟨r.toNat, by omega⟩
    obtain ⟨p, rfl⟩ : ∃ y : Nat, p = (y : Int) := ⟨p.toNat, by omega⟩
    exact words1_2 l r p x n c m go gn v0 w hS hv hlen hm (by omega) (by omega) hn ho hne
  · obtain ⟨l, rfl⟩ : ∃ y : Nat, l = (y : Int) := ⟨l.toNat, by omega⟩
    exact words1_3 l t x n c m go gn v0 w hS hv hlen hm (by omega) h1 hn ho hne
section
variable (k l z : Int) (x : Option Addr) (n c : Nat) (m : List Ex) (r p : Int) (t : Bs)
theorem words1_bad (go gn gk : Nat) (w : World) (hv : ReadsT eE 3 w (.slice x n c) m) (hlen : m.length ≤ 1048576) (htl : t.length ≤ 1048576) (h : ¬okI k l z m r p t) (hn : RowL w gn 25 (inL k l z (.slice x n c) r p t)) : Calls Tryd.prog 28 #[.pointer (some ⟨gn, 0, none⟩), .pointer (some ⟨go, 0, none⟩)] w fun e w' => e = .panicked (chain1 refV) ∧ Kept (KW w gk) w w' := by
  have hkk := Kept.refl (KW w gk) w
  have q := Below.refl w.heap.size w
  refine X.fnP Tryd.func28 rfl (n := 25) rfl rfl ?_
  refine Zr ?_; refine Zv hn ?_
  (refine LL.callP (R.call rfl rfl rfl) rfl rfl (check_F' k l z x n c m r p t _ (hv.up q) hlen htl h) ?_; rintro e @W ⟨rfl, b9⟩; refine ⟨_, rfl, ?_⟩; replace hkk := hkk.trans (bkept b9 (fun j hj => hj.1)))
  refine EE.thenP ?_; refine EE.panM ?_
  exact ⟨rfl, hkk⟩
theorem check1_bad (go gn : Nat) (w : World) (hv : ReadsT eE 3 w (.slice x n c) m) (hlen : m.length ≤ 1048576) (htl : t.length ≤ 1048576) (h : ¬okI k l z m r p t) (hn : RowL w gn 25 (inL k l z (.slice x n c) r p t)) : Calls Tryd.prog 33 #[.pointer (some ⟨gn, 0, none⟩)] w fun e w' => e = .panicked (chain1 refV) ∧ Kept (KW w go) w w' := by
  have hkk := Kept.refl (KW w go) w
  have q := Below.refl w.heap.size w
  refine X.fnP Tryd.func33 rfl (n := 3) rfl rfl ?_
  refine CC.region ?_; refine Zv hn ?_
  (refine LL.callP (R.call rfl rfl rfl) rfl rfl (check_F' k l z x n c m r p t _ (hv.up q) hlen htl h) ?_; rintro e @W ⟨rfl, b9⟩; refine ⟨_, rfl, ?_⟩; replace hkk := hkk.trans (bkept b9 (fun j hj => hj.1)))
  refine EE.panM ?_
  exact ⟨rfl, hkk⟩
end
set_option linter.unusedVariables false
set_option linter.unusedSimpArgs false
set_option maxRecDepth 100000
set_option maxHeartbeats 8000000
section
variable (k l z : Int) (x : Option Addr) (n c : Nat) (m : List Ex) (r p : Int) (t : Bs)
theorem check_no (w : World) (hv : ReadsT eE 3 w (.slice x n c) m) (hlen : m.length ≤ 1048576) (htl : t.length ≤ 1048576) (h : ¬okI k l z m r p t) : Calls Tryd.prog 14 #[inV k l z (.slice x n c) r p t] w fun e w' => e = .returned (.int .i64 240) ∧ Below w.heap.size w w' := by
  have q := Below.refl w.heap.size w
  have hvF : ∀ X, Below w.heap.size w X → ReadsT eE 3 X (.slice x n c) m := fun X b => hv.up b
  clear hv
  refine X.fn Tryd.func14 rfl (n := 5) rfl rfl ?_
  refine Zr ?_
  refine LL.box [.int .i64 k, .int .i64 l, .int .i64 z, .slice x n c, .int .i64 r, .int .i64 p, strV t] rfl rfl rfl rfl rfl ?_
  intro W2 g3 eg3 r4 z5 b1
  replace q := Zu q b1; refine Za ?_; refine Zq ?_; refine Zr ?_
  refine LL.val (R.func rfl rfl rfl) rfl rfl rfl ?_
  (have lg4 := r4.lt; refine Zy (R.call rfl rfl rfl) (guarded_P _ [Value.pointer (some ⟨g3, 0, none⟩)] (by kernel_rfl) g3 _ (by omega) (fun W' b' => check1_bad k l z x n c m r p t g3 g3 W' (hvF _ (q.trans (b'.mono q.size))) hlen htl h (r4.up b'))) ?_; rintro e @W ⟨rfl, t9⟩; refine ⟨_, rfl, ?_⟩; replace q := t9.onB q (fun j hj => ⟨by omega, by omega⟩); clear r4 b1)
  refine Za ?_; refine Zq ?_; refine ZR ?_; refine EE.ret _ rfl rfl ?_
  exact ⟨rfl, q⟩
/-- What Words hands back. -/
def wsP (ws : List Nat) (w0 : World) (e : Ending) (w : World) : Prop := ∃ g, e = .returned (.tuple #[.slice (some ⟨g, 0, none⟩) 16 16, .int .i64 0]) ∧ RowL w g 41 (ints .u64 ws) ∧ w0.heap.size ≤ g ∧ Below w0.heap.size w0 w
theorem words_ok (w : World) (hS : Start w) (hv : ReadsT eE 3 w (.slice x n c) m) (hlen : m.length ≤ 1048576) (h : okI k l z m r p t) : Calls Tryd.prog 11 #[inV k l z (.slice x n c) r p t] w (wsP (inoW k l z m r p t) w) := by
  unfold wsP
  have q := Below.refl w.heap.size w
  have hS0 := hS.pos
  have hvF : ∀ X, Below w.heap.size w X → ReadsT eE 3 X (.slice x n c) m := fun X b => hv.up b
  have hSF : ∀ X, Below w.heap.size w X → Start X := fun X b => hS.up b
  clear hv hS
  refine X.fn Tryd.func11 rfl (n := 10) rfl rfl ?_
  refine Zr ?_
  refine LL.box [.int .i64 k, .int .i64 l, .int .i64 z, .slice x n c, .int .i64 r, .int .i64 p, strV t] rfl rfl rfl rfl rfl ?_
  intro W2 g3 eg3 r4 z5 b1
  replace q := Zu q b1; refine Za ?_; refine Za ?_; refine Zq ?_; refine Zr ?_; have l6 := r4.lt
  refine LL.alloc ([.slice none 0 0]) rfl rfl rfl rfl rfl ?_
  intro W8 g9 eg9 r10 z11 b7
  replace r4 := r4.up b7; replace b1 := Zu b1 b7; replace q := Zu q b7; refine Zq ?_; refine Zr ?_
  refine LL.val (R.func rfl rfl rfl) rfl rfl rfl ?_
  (have lg4 := r4.lt; have lg10 := r10.lt; refine Zy (R.call rfl rfl rfl) (guarded_R _ [Value.pointer (some ⟨g3, 0, none⟩), .pointer (some ⟨g9, 0, none⟩)] (by kernel_rfl) g9 (fun n X => ∃ gw, RowL X g9 28 [.slice (some ⟨gw, 0, none⟩) 16 16] ∧ RowL X gw 41 (ints .u64 (inoW k l z m r p t)) ∧ n ≤ gw) _ (by omega) (fun n X Y b ⟨gw, h1, h2, h3⟩ hb1 hb2 hg => ⟨gw, h1.gr hg (by omega), h2.gr hg (by omega), h3⟩) (fun W' b' => words1_any k l z x n c m r p t g9 g3 _ W' (hSF _ (q.trans (b'.mono q.size))) (hvF _ (q.trans (b'.mono q.size))) hlen h (r4.up b') (r10.up b') ⟨by omega, by omega⟩)) ?_; rintro e @W ⟨rfl, ⟨n9, hn9, gw, r91, r92, h93⟩, t9⟩; refine ⟨_, rfl, ?_⟩; replace q := t9.onB q (fun j hj => ⟨by omega, by omega⟩); clear r4 b1 b7 r10)
  refine Za ?_; refine Zq ?_; refine Zr ?_; refine Zl r91 ?_; refine Zm ?_; refine Za ?_; refine Za ?_; refine Zq ?_; refine ZR ?_; refine EE.ret _ rfl rfl ?_
  exact ⟨gw, rfl, r92, by omega, q⟩
theorem words_no (w : World) (hv : ReadsT eE 3 w (.slice x n c) m) (hlen : m.length ≤ 1048576) (htl : t.length ≤ 1048576) (h : ¬okI k l z m r p t) : Calls Tryd.prog 11 #[inV k l z (.slice x n c) r p t] w fun e w' => e = .returned (.tuple #[.slice none 0 0, .int .i64 240]) ∧ Below w.heap.size w w' := by
  have q := Below.refl w.heap.size w
  have hvF : ∀ X, Below w.heap.size w X → ReadsT eE 3 X (.slice x n c) m := fun X b => hv.up b
  clear hv
  refine X.fn Tryd.func11 rfl (n := 10) rfl rfl ?_
  refine Zr ?_
  refine LL.box [.int .i64 k, .int .i64 l, .int .i64 z, .slice x n c, .int .i64 r, .int .i64 p, strV t] rfl rfl rfl rfl rfl ?_
  intro W2 g3 eg3 r4 z5 b1
  replace q := Zu q b1; refine Za ?_; refine Za ?_; refine Zq ?_; refine Zr ?_; have l6 := r4.lt
  refine LL.alloc ([.slice none 0 0]) rfl rfl rfl rfl rfl ?_
  intro W8 g9 eg9 r10 z11 b7
  replace r4 := r4.up b7; replace b1 := Zu b1 b7; replace q := Zu q b7; refine Zq ?_; refine Zr ?_
  refine LL.val (R.func rfl rfl rfl) rfl rfl rfl ?_
  (have lg4 := r4.lt; have lg10 := r10.lt; refine Zy (R.call rfl rfl rfl) (guarded_P _ [Value.pointer (some ⟨g3, 0, none⟩), .pointer (some ⟨g9, 0, none⟩)] (by kernel_rfl) g3 _ (by omega) (fun W' b' => words1_bad k l z x n c m r p t g9 g3 g3 W' (hvF _ (q.trans (b'.mono q.size))) hlen htl h (r4.up b'))) ?_; rintro e @W ⟨rfl, t9⟩; refine ⟨_, rfl, ?_⟩; replace q := t9.onB q (fun j hj => ⟨by omega, by omega⟩); replace r10 := r10.kept t9 ⟨by omega, by omega⟩; clear r4 b1 b7)
  refine Za ?_; refine Zq ?_; refine Zr ?_; refine Zl r10 ?_; refine Zm ?_; refine Za ?_; refine Za ?_; refine Zq ?_; refine ZR ?_; refine EE.ret _ rfl rfl ?_
  exact ⟨rfl, q⟩
end
theorem fld_k (x : Nat) (hx : x < 18446744073709551616) (w : World) : Calls Tryd.prog 39 #[.int .u64 (x : Int), .int .i64 0, .int .i64 8] w fun e w' => e = .returned (.tuple #[.int .u64 ((x % 256 : Nat) : Int), .int .i64 0]) ∧ w = w' := by
  have h := field_ok x 0 8 hx (by omega) (by omega) w
  rw [show x / 2 ^ 0 % 2 ^ 8 = x % 256 by simp] at h
  exact h
theorem fld_l (x : Nat) (hx : x < 18446744073709551616) (w : World) : Calls Tryd.prog 39 #[.int .u64 (x : Int), .int .i64 8, .int .i64 24] w fun e w' => e = .returned (.tuple #[.int .u64 ((x / 256 % 16777216 : Nat) : Int), .int .i64 0]) ∧ w = w' := by
  have h := field_ok x 8 24 hx (by omega) (by omega) w
  rw [show x / 2 ^ 8 % 2 ^ 24 = x / 256 % 16777216 by simp] at h
  exact h
theorem take_more {xs ys : List Nat} {i : Nat} (h : xs.take i = ys.take i) (hx : i < xs.length) (hy : i < ys.length) (e : xs[i]?.getD 0 = ys[i]?.getD 0) : xs.take (i + 1) = ys.take (i + 1) := by
  rw [List.getElem?_eq_getElem hx, List.getElem?_eq_getElem hy] at e
  rw [List.take_succ_eq_append_getElem hx, List.take_succ_eq_append_getElem hy, h]
  simp only [Option.getD_some] at e
  rw [e]
set_option maxRecDepth 100000 in
set_option maxHeartbeats 4000000 in
theorem weq_any (va vb : Value) (xs ys : List Nat) (w : World) (ha : Reads w va (ints .u64 xs)) (hb : Reads w vb (ints .u64 ys)) (hlx : xs.length ≤ 1048576) (hly : ys.length ≤ 1048576) :
    Calls Tryd.prog 41 #[va, vb] w fun e w' => e = .returned (.bool (decide (xs = ys))) ∧ Below w.heap.size w w' := by
  have q := Below.refl w.heap.size w
  obtain ⟨N, hN⟩ : ∃ N, xs.length = N := ⟨_, rfl⟩
  obtain ⟨N2, hN2⟩ : ∃ N2, ys.length = N2 := ⟨_, rfl⟩
  obtain ⟨a, cap, rfl, hc, hcells⟩ := ha.intsN hN
  obtain ⟨a2, cap2, rfl, hc2, hcells2⟩ := hb.intsN hN2
  rw [hN] at hlx
  rw [hN2] at hly
  by_cases hne : N = N2
  case neg =>
    have hd : xs ≠ ys := fun e => hne (by rw [← hN, ← hN2, e])
    refine X.fn Tryd.func41 rfl (n := 26) rfl rfl ?_
    refine CC.seq ?_
    refine CC.region ?_
    refine LL.val (R.assign rfl rfl) rfl rfl rfl ?_
    refine LL.nilS ?_
    refine CC.seq ?_
    refine CC.seq ?_
    refine CC.region ?_
    refine LL.val (R.move rfl rfl) rfl rfl rfl ?_
    refine LL.val (R.len rfl rfl rfl rfl) rfl rfl rfl ?_
    refine LL.val (R.move rfl rfl) rfl rfl rfl ?_
    refine LL.val (R.len rfl rfl rfl rfl) rfl rfl rfl ?_
    refine LL.val (R.neT rfl rfl rfl (by omega)) rfl rfl rfl ?_
    refine LL.nilS ?_
    refine CC.yes rfl ?_
    refine CC.seq ?_
    refine CC.region ?_
    refine LL.val (R.assign rfl rfl) rfl rfl rfl ?_
    refine LL.nilS ?_
    refine CC.ret ?_
    refine EE.thenR ?_
    refine EE.ret _ rfl rfl ?_
    exact ⟨by simp [resV, hd], q⟩
  subst hne
  refine X.fn Tryd.func41 rfl (n := 26) rfl rfl ?_
  refine CC.seq ?_
  refine CC.region ?_
  refine LL.val (R.assign rfl rfl) rfl rfl rfl ?_
  refine LL.nilS ?_
  refine CC.seq ?_
  refine CC.seq ?_
  refine CC.region ?_
  refine LL.val (R.move rfl rfl) rfl rfl rfl ?_
  refine LL.val (R.len rfl rfl rfl rfl) rfl rfl rfl ?_
  refine LL.val (R.move rfl rfl) rfl rfl rfl ?_
  refine LL.val (R.len rfl rfl rfl rfl) rfl rfl rfl ?_
  refine LL.val (R.neF rfl rfl rfl (by omega)) rfl rfl rfl ?_
  refine LL.nilS ?_
  refine CC.no rfl ?_
  refine CC.skip ?_
  refine EE.thenN ?_
  refine CC.seq ?_
  refine CC.seq ?_
  refine CC.region ?_
  refine LL.val (R.move rfl rfl) rfl rfl rfl ?_
  refine LL.val (R.len rfl rfl rfl rfl) rfl rfl rfl ?_
  refine LL.val (R.move rfl rfl) rfl rfl rfl ?_
  refine LL.nilS ?_
  refine CC.block ?_
  refine CC.loop (α := Nat) (fun i => [(0, .slice a N cap), (1, .slice a2 N cap2), (4, .bool false), (12, .int .i64 (N : Int)), (13, .int .i64 (i : Int))]) (fun i wr => Below w.heap.size w wr ∧ i ≤ N ∧ xs.take i = ys.take i) (fun i => N - i) 0 ⟨rfl, rfl, rfl, rfl, rfl, trivial⟩ ⟨q, by omega, by simp⟩ ?_
  rintro i wr ⟨q, hi, ht⟩
  by_cases h1 : i < N
  case neg =>
    obtain rfl : i = N := by omega
    have he : xs = ys := by rwa [List.take_of_length_le (by omega), List.take_of_length_le (by omega)] at ht
    refine CC.seq ?_
    refine CC.region ?_
    refine LL.val (R.ltF rfl rfl rfl (by omega)) rfl rfl rfl ?_
    refine LL.nilS ?_
    refine CC.seq ?_
    refine CC.no rfl ?_
    refine CC.exit ?_
    refine EE.thenX ?_
    refine EE.thenX ?_
    refine EE.inX ?_
    refine EE.thenN ?_
    refine CC.seq ?_
    refine CC.region ?_
    refine LL.val (R.assign rfl rfl) rfl rfl rfl ?_
    refine LL.nilS ?_
    refine CC.ret ?_
    refine EE.ret _ rfl rfl ?_
    exact ⟨by simp [resV, he], q⟩
  obtain ⟨b, off, rfl, hbl, hcs⟩ := hcells (by omega)
  obtain ⟨b2, off2, rfl, hbl2, hcs2⟩ := hcells2 (by omega)
  have c1 : wr.cell? ⟨b, off + i, none⟩ = some (.int .u64 ((xs[i]?.getD 0 : Nat) : Int)) := (World.cell?_of_block (q.block b hbl)).trans (hcs i h1)
  have c2 : wr.cell? ⟨b2, off2 + i, none⟩ = some (.int .u64 ((ys[i]?.getD 0 : Nat) : Int)) := (World.cell?_of_block (q.block b2 hbl2)).trans (hcs2 i h1)
  by_cases hst : xs[i]?.getD 0 = ys[i]?.getD 0
  · have hm := take_more ht (by omega) (by omega) hst
    refine CC.seq ?_
    refine CC.region ?_
    refine LL.val (R.ltT rfl rfl rfl (by omega)) rfl rfl rfl ?_
    refine LL.nilS ?_
    refine CC.seq ?_
    refine CC.yes rfl ?_
    refine CC.skip ?_
    refine EE.thenN ?_
    refine CC.seq ?_
    refine CC.block ?_
    refine CC.seq ?_
    refine CC.region ?_
    refine LL.val (R.move rfl rfl) rfl rfl rfl ?_
    refine LL.val (R.assign rfl rfl) rfl rfl rfl ?_
    refine LL.nilS ?_
    refine CC.seq ?_
    refine CC.quietB (by kernel_rfl) (by kernel_rfl) (fun Wc2 bc1 zc3 => ?_)
    replace q := q.trans (bc1.mono q.size)
    replace c1 := cell_up c1 bc1
    replace c2 := cell_up c2 bc1
    refine SS.val (R.move rfl rfl) rfl rfl ?_
    refine SS.val (R.move rfl rfl) rfl rfl ?_
    refine SS.val (R.index rfl rfl rfl (I.ixS1 rfl (by omega))) rfl rfl ?_
    refine SS.val (R.load rfl rfl (I.ld1 rfl (by assumption))) rfl rfl ?_
    refine SS.val (R.move rfl rfl) rfl rfl ?_
    refine SS.val (R.move rfl rfl) rfl rfl ?_
    refine SS.val (R.index rfl rfl rfl (I.ixS1 rfl (by omega))) rfl rfl ?_
    refine SS.val (R.load rfl rfl (I.ld1 rfl (by assumption))) rfl rfl ?_
    refine SS.val (R.neF rfl rfl rfl (by omega)) rfl rfl ?_
    refine SS.nilQ ?_
    refine EE.thenN ?_
    refine CC.no rfl ?_
    refine CC.skip ?_
    refine EE.inN ?_
    refine EE.thenN ?_
    refine CC.region ?_
    refine LL.val (R.addNc rfl rfl rfl rfl (by omega)) rfl rfl rfl ?_
    refine LL.val (R.move rfl rfl) rfl rfl rfl ?_
    refine LL.nil ?_
    exact EE.round (i + 1) ⟨rfl, rfl, rfl, rfl, rfl, trivial⟩ ⟨q, by omega, hm⟩ (by omega)
  · have hd : xs ≠ ys := fun e => hst (by rw [e])
    refine CC.seq ?_
    refine CC.region ?_
    refine LL.val (R.ltT rfl rfl rfl (by omega)) rfl rfl rfl ?_
    refine LL.nilS ?_
    refine CC.seq ?_
    refine CC.yes rfl ?_
    refine CC.skip ?_
    refine EE.thenN ?_
    refine CC.seq ?_
    refine CC.block ?_
    refine CC.seq ?_
    refine CC.region ?_
    refine LL.val (R.move rfl rfl) rfl rfl rfl ?_
    refine LL.val (R.assign rfl rfl) rfl rfl rfl ?_
    refine LL.nilS ?_
    refine CC.seq ?_
    refine CC.quietB (by kernel_rfl) (by kernel_rfl) (fun Wd2 bd1 zd3 => ?_)
    replace q := q.trans (bd1.mono q.size)
    replace c1 := cell_up c1 bd1
    replace c2 := cell_up c2 bd1
    refine SS.val (R.move rfl rfl) rfl rfl ?_
    refine SS.val (R.move rfl rfl) rfl rfl ?_
    refine SS.val (R.index rfl rfl rfl (I.ixS1 rfl (by omega))) rfl rfl ?_
    refine SS.val (R.load rfl rfl (I.ld1 rfl (by assumption))) rfl rfl ?_
    refine SS.val (R.move rfl rfl) rfl rfl ?_
    refine SS.val (R.move rfl rfl) rfl rfl ?_
    refine SS.val (R.index rfl rfl rfl (I.ixS1 rfl (by omega))) rfl rfl ?_
    refine SS.val (R.load rfl rfl (I.ld1 rfl (by assumption))) rfl rfl ?_
    refine SS.val (R.neT rfl rfl rfl (by omega)) rfl rfl ?_
    refine SS.nilQ ?_
    refine EE.thenN ?_
    refine CC.yes rfl ?_
    refine CC.seq ?_
    refine CC.region ?_
    refine LL.val (R.assign rfl rfl) rfl rfl rfl ?_
    refine LL.nilS ?_
    refine CC.ret ?_
    refine EE.inR ?_
    refine EE.thenR ?_
    refine EE.thenR ?_
    refine EE.inR ?_
    refine EE.thenR ?_
    refine EE.ret _ rfl rfl ?_
    exact ⟨by simp [resV, hd], q⟩
theorem WdsAt.kept {W X : World} {bk off gu : Nat} {ws : List Nat} (h : WdsAt W bk off ws) (k : Kept (KU W gu) W X) (hne : bk ≠ gu) : WdsAt X bk off ws :=
  ⟨fun j x hj => (World.cell?_of_block (k.block bk ⟨h.lt, hne⟩)).trans (h.cells j x hj), Nat.lt_of_lt_of_le h.lt k.size⟩
theorem WdsAt.up {W X : World} {bk off : Nat} {ws : List Nat} (h : WdsAt W bk off ws) (b : Below W.heap.size W X) : WdsAt X bk off ws :=
  ⟨fun j x hj => cell_up (h.cells j x hj) b, Nat.lt_of_lt_of_le h.lt b.size⟩
theorem inoW_len {k l z : Int} {m : List Ex} {r p : Int} {t : Bs} (h : okI k l z m r p t) : (inoW k l z m r p t).length = 16 := by
  have hd : ∀ k l, (hdN k l).length = 16 := fun k l => by simp [hdN]
  obtain ⟨hl, ⟨rfl, rfl, rfl, hm, rfl, rfl, rfl⟩ | ⟨rfl, rfl, rfl, rfl, hf⟩ | ⟨rfl, rfl, hm, rfl, h1⟩ | ⟨rfl, rfl, hm, rfl, rfl, h1⟩⟩ := h
  · exact hd 0 0
  · show (layF _ _ _).length = 16
    have := wrdN_len hf.2.1
    exact putL_len (putL_len (hd 1 _) (by simp)) (by omega)
  · show (layD _ _ _).length = 16
    exact putL_len (hd 2 _) (by simp)
  · show (layK _ _).length = 16
    have := layL_len t
    exact putL_len (putL_len (hd 3 _) (by simp)) (by omega)
theorem weq_T {v1 v2 : Value} {l : List Nat} {w : World} (h1 : Reads w v1 (ints .u64 l)) (h2 : Reads w v2 (ints .u64 l)) (hl : l.length ≤ 1048576) : Calls Tryd.prog 41 #[v1, v2] w fun e w' => e = .returned (.bool true) ∧ Below w.heap.size w w' := by
  have h := weq_any v1 v2 l l w h1 h2 hl hl
  rw [decide_eq_true rfl] at h
  exact h
theorem WdsAt.all {X : World} {bk off cap : Nat} {ws : List Nat} (h : WdsAt X bk off ws) (hl : ws.length = 16) (hc : 16 ≤ cap) : Reads X (.slice (some ⟨bk, off, none⟩) 16 cap) (ints .u64 ws) := by
  have h2 := h.reads 0 16 cap (by omega) hc
  rw [show (ws.drop 0).take 16 = ws by rw [List.drop_zero, List.take_of_length_le (by omega)]] at h2
  exact h2
/-- What Of's work leaves. -/
def ofP (go : Nat) (k l z : Int) (m : List Ex) (r p : Int) (t : Bs) (w0 : World) (e : Ending) (w : World) : Prop := e = .returned (.tuple #[]) ∧ (∃ v, RowL w go 25 (inL k l z v r p t) ∧ ReadsT eE 3 w v m ∧ ∀ b off n c, v = .slice (some ⟨b, off, none⟩) n c → w0.heap.size ≤ b) ∧ Kept (KW w0 go) w0 w
theorem of1_1T (gs go bk off cap : Nat) (ws : List Nat) (w : World) (hS : Start w) (hws : ws.length = 16) (hwb : ∀ x ∈ ws, x < 18446744073709551616) (hcap : 16 ≤ cap) (hs : RowL w gs 28 [.slice (some ⟨bk, off, none⟩) 16 cap]) (hW : WdsAt w bk off ws) (ho : RowL w go 25 (inL 0 0 0 (.slice none 0 0) 0 0 [])) (hne : go ≠ gs ∧ 0 < go ∧ bk ≠ go) (x0 : Nat) (h0 : ws[0]? = some x0) (hx0 : x0 ≠ 0) (l : Nat) (el : x0 / 256 % 16777216 = l) (hk : x0 % 256 = 1) (x1 : Nat) (h1 : ws[1]? = some x1) (hr1 : x1 ≤ 65536) (hr2 : mapW (wsZ ws)) (hok1 : okI 1 (l : Int) (x1 : Int) (outZ (wsZ ws)) 0 0 []) (heq : inoW 1 (l : Int) (x1 : Int) (outZ (wsZ ws)) 0 0 [] = ws) : Calls Tryd.prog 37 #[.pointer (some ⟨gs, 0, none⟩), .pointer (some ⟨go, 0, none⟩)] w (ofP go 1 (l : Int) (x1 : Int) (outZ (wsZ ws)) 0 0 [] w) := by
  unfold ofP
  have hkk := Kept.refl (KW w go) w
  have lgs := hs.lt; have lgo := ho.lt; have lbk := hW.lt
  have hS0 := hS.pos
  have hWF : ∀ X, Below w.heap.size w X → WdsAt X bk off ws := fun X b => hW.up b
  have hSF : ∀ X, Below w.heap.size w X → Start X := fun X b => hS.up b
  have hx64 := hwb x0 (List.mem_of_getElem? h0)
  have c0 : w.cell? ⟨bk, off + 0, none⟩ = some (.int .u64 (x0 : Int)) := hW.cells 0 x0 h0
  have q := Below.refl w.heap.size w
  clear hW hS
  have hll : l < 16777216 := by omega
  have hml : ((outZ (wsZ ws)) : List Ex).length ≤ 1048576 := by have := outZ_len (wsZ ws); have := wsZ_len hws; omega
  refine X.fn Tryd.func37 rfl (n := 70) rfl rfl ?_
  refine Zr ?_; refine Zl hs ?_; refine Zn ?_; refine ZneF ?_
  refine Zy (R.call rfl rfl rfl) (refuse_F _) ?_
  rintro e W' ⟨rfl, rfl⟩
  refine ⟨_, rfl, ?_⟩; refine Zq ?_; refine Zc ?_; refine Zr ?_; refine Zl hs ?_; refine Zi ?_; refine Zk ?_; refine ZeqF ?_; refine Zq ?_; refine ZN ?_; refine ZK ?_; refine ZT ?_; refine Zr ?_; refine Zl hs ?_; refine Zi ?_; refine Zk ?_
  (refine Zy (R.call rfl rfl rfl) (fld_k x0 hx64 _) ?_; rintro e _ ⟨rfl, rfl⟩; rw [hk]; refine ⟨_, rfl, ?_⟩)
  refine Zm ?_; refine Zx ?_; refine Zx ?_; refine Za ?_; refine Za ?_; refine Zq ?_; refine Zr ?_; refine Zl hs ?_; refine Zi ?_; refine Zk ?_
  (refine Zy (R.call rfl rfl rfl) (fld_l x0 hx64 _) ?_; rintro e _ ⟨rfl, rfl⟩; rw [el]; refine ⟨_, rfl, ?_⟩)
  refine Zm ?_; refine Zx ?_; refine Zx ?_; refine Za ?_; refine Za ?_; refine Zq ?_; refine Zr ?_
  refine Zy (R.call rfl rfl rfl) (kinds_any _) ?_
  rintro e W627 ⟨g629, k630, rfl, h628, b626⟩
  refine ⟨_, rfl, ?_⟩; have zb626 := b626.size; replace hs := hs.up b626; replace ho := ho.up b626; replace hkk := Zh hkk b626; have y632 := hkk.size; replace c0 := cell_up c0 b626; replace q := Zu q b626; refine Zm ?_
  refine LL.val (R.convI rfl rfl rfl rfl (wrapI (by omega) (by omega))) rfl rfl rfl ?_
  (refine LL.val (R.lookKT rfl rfl zKeys (by rfl) (z := kdZ) (by kernel_rfl) (by assumption) (1 : Int) rfl kF_1) rfl rfl rfl ?_)
  refine Zm ?_; refine Zx ?_; refine Zx ?_; have l808 := hs.lt; have l809 := ho.lt
  refine LL.alloc ([Value.nilFunc, Value.nilFunc, Value.nilFunc, Value.nilFunc]) rfl rfl rfl rfl rfl ?_
  intro W811 g812 eg812 r813 z814 b810
  replace h628 := h628.up b810; replace b626 := Zu b626 b810; replace hs := hs.up b810; replace ho := ho.up b810; replace hkk := Zh hkk b810; have y815 := hkk.size; replace c0 := cell_up c0 b810; replace q := Zu q b810
  refine LL.storeN (vs := [fnV kd1.1, fnV kd1.2.1, fnV kd1.2.2.1, fnV kd1.2.2.2]) rfl rfl rfl rfl r813 (by exact Nat.le_of_ble_eq_true rfl) (ones_of rfl) rfl rfl ?_
  intro W844 r845 b843 z846
  have hlb843 := r813.lt
  replace r845 : RowL W844 _ 68 [fnV kd1.1, fnV kd1.2.1, fnV kd1.2.2.1, fnV kd1.2.2.2] := r845
  clear r813
  replace b810 := Zg b810 b843; replace b626 := Zg b626 b843; replace hs := Zd hs b843; replace ho := Zd ho b843; replace hkk := Zo hkk b843; replace c0 := Ze c0 b843; replace q := Zg q b843
  have r813 := r845
  clear r845
  refine Za ?_; refine Zq ?_; refine Zr ?_; refine Zm ?_; refine Zt ?_
  refine Zy (R.call rfl rfl rfl) (refuse_F _) ?_
  rintro e W' ⟨rfl, rfl⟩
  refine ⟨_, rfl, ?_⟩; refine Zq ?_; refine Zr ?_; refine Zm ?_
  refine LL.val (R.convI rfl rfl rfl rfl (wrapI (by omega) (by omega))) rfl rfl rfl ?_
  refine Zm ?_
  refine LL.val (R.convI rfl rfl rfl rfl (wrapI (by omega) (by omega))) rfl rfl rfl ?_
  refine LL.val (R.buildV rfl rfl (v := .agg #[Value.int IntKind.i64 ↑1, Value.int IntKind.i64 ↑l, Value.int IntKind.i64 0, Value.slice none 0 0, Value.int IntKind.i64 0, Value.int IntKind.i64 0, Value.string { data := #[] }]) (fun _ => by kernel_rfl)) rfl rfl rfl ?_
  refine LL.val (R.buildV rfl rfl (v := .agg #[Value.int IntKind.i64 1, Value.int IntKind.i64 ↑l, Value.int IntKind.i64 0, Value.slice none 0 0, Value.int IntKind.i64 0, Value.int IntKind.i64 0, Value.string { data := #[] }]) (fun _ => by kernel_rfl)) rfl rfl rfl ?_
  have l1144 := hs.lt; have l1145 := ho.lt; have l1146 := r813.lt
  refine LL.alloc ([.int .i64 0, .int .i64 0, .int .i64 0, .slice none 0 0, .int .i64 0, .int .i64 0, .string { data := { toList := [] } }]) rfl rfl rfl rfl rfl ?_
  intro W1148 g1149 eg1149 r1150 z1151 b1147
  replace b810 := Zu b810 b1147; replace b626 := Zu b626 b1147; replace hs := hs.up b1147; replace ho := ho.up b1147; replace hkk := Zh hkk b1147; have y1152 := hkk.size; replace c0 := cell_up c0 b1147; replace q := Zu q b1147; replace r813 := r813.up b1147
  refine LL.storeN (vs := [.int .i64 1, .int .i64 ↑l, .int .i64 0, .slice none 0 0, .int .i64 0, .int .i64 0, .string { data := #[] }]) rfl rfl rfl rfl r1150 (by exact Nat.le_of_ble_eq_true rfl) (ones_of rfl) rfl rfl ?_
  intro W1183 r1184 b1182 z1185
  have hlb1182 := r1150.lt
  replace r1184 : RowL W1183 _ 72 [.int .i64 1, .int .i64 ↑l, .int .i64 0, .slice none 0 0, .int .i64 0, .int .i64 0, .string { data := #[] }] := r1184
  clear r1150
  replace b1147 := Zg b1147 b1182; replace b810 := Zg b810 b1182; replace b626 := Zg b626 b1182; replace hs := Zd hs b1182; replace ho := Zd ho b1182; replace hkk := Zo hkk b1182; replace c0 := Ze c0 b1182; replace q := Zg q b1182; replace r813 := Zd r813 b1182
  have r1150 := r1184
  clear r1184
  refine Zq ?_; refine Zr ?_; refine Zf ?_; refine Zl r813 ?_; refine Zl hs ?_
  (refine LL.call (R.callV rfl rfl rfl rfl) rfl rfl rfl (rd1_T _ bk off cap ws 1 l 0 _ 0 0 [] _ (hSF _ q) (by omega) hws hwb (by assumption) (fun X hX => (hWF _ q).kept hX (by omega)) x1 h1 hr1 hr2 hcap) ?_; rintro e W1276 ⟨rfl, ⟨v8, hN8, hv8, hge8⟩, t1275⟩; refine ⟨_, rfl, ?_⟩; replace hkk := hkk.trans (t1275.less fun j hj => ⟨by have := hj.1; omega, by have := hj.1; omega⟩); have hu8 := hN8; clear hN8; obtain ⟨x8, c8, rfl, hc8⟩ := hv8.form rfl; have hv8F := fun X (b : Below (W1276).heap.size (W1276) X) => hv8.up b; have q8 := Below.refl (W1276).heap.size (W1276); clear hv8; have hk8 := Kept.refl (fun i => i < (W1276).heap.size ∧ i ≠ go) (W1276))
  have zt1275 := t1275.size
  replace b1147 := t1275.onB b1147 (fun j hj => ⟨by have := b1147.size; omega, by omega⟩)
  replace b810 := t1275.onB b810 (fun j hj => ⟨by have := b810.size; omega, by omega⟩)
  replace b626 := t1275.onB b626 (fun j hj => ⟨by have := b626.size; omega, by omega⟩)
  replace hs := hs.kept t1275 ⟨hs.lt, by omega⟩
  replace ho := ho.kept t1275 ⟨ho.lt, by omega⟩
  replace c0 := cell_kept c0 t1275 ⟨World.block_lt_of_cell? _ _ c0, by omega⟩
  replace q := t1275.onB q (fun j hj => ⟨by have := q.size; omega, by omega⟩)
  replace r813 := r813.kept t1275 ⟨r813.lt, by omega⟩
  refine Zq ?_; refine Zr ?_; refine Zf ?_; refine Zv hu8 ?_; have l1349 := hu8.lt; have l1350 := hs.lt; have l1351 := ho.lt; have l1352 := r813.lt
  (refine Zy (R.call rfl rfl rfl) (words_ok 1 (l : Int) (x1 : Int) x8 (outZ (wsZ ws)).length c8 (outZ (wsZ ws)) 0 0 [] _ (hSF _ q) (hv8F _ q8) hml hok1) ?_; rintro e W1348 ⟨g9, rfl, r9, hg9, b1345⟩; refine ⟨_, rfl, ?_⟩)
  have zb1345 := b1345.size; replace hkk := Zh hkk b1345; have y1356 := hkk.size; replace hu8 := hu8.up b1345; replace q8 := Zu q8 b1345; replace hk8 := Zh hk8 b1345; have y1357 := hk8.size; replace b1147 := Zu b1147 b1345; replace b810 := Zu b810 b1345; replace b626 := Zu b626 b1345; replace hs := hs.up b1345; replace ho := ho.up b1345; replace c0 := cell_up c0 b1345; replace q := Zu q b1345; replace r813 := r813.up b1345
  refine Zm ?_; refine Zx ?_; refine Zx ?_; refine Za ?_; refine Za ?_; refine Zq ?_; refine Zr ?_; refine Zm ?_; refine ZneF ?_; refine Zm ?_; refine Zm ?_; refine Zl hs ?_; have l1691 := r9.lt; have l1692 := hu8.lt; have l1693 := hs.lt; have l1694 := ho.lt; have l1695 := r813.lt
  (refine Zy (R.call rfl rfl rfl) (weq_T (by rw [heq] at r9; exact RowL.asInts r9 .u64 _ rfl hws) ((hWF _ q).all hws hcap) (by omega)) ?_; rintro e W1690 ⟨rfl, b1687⟩; refine ⟨_, rfl, ?_⟩)
  have zb1687 := b1687.size; replace r9 := r9.up b1687; replace b1345 := Zu b1345 b1687; replace hkk := Zh hkk b1687; have y1699 := hkk.size; replace hu8 := hu8.up b1687; replace q8 := Zu q8 b1687; replace hk8 := Zh hk8 b1687; have y1700 := hk8.size; replace b1147 := Zu b1147 b1687; replace b810 := Zu b810 b1687; replace b626 := Zu b626 b1687; replace hs := hs.up b1687; replace ho := ho.up b1687; replace c0 := cell_up c0 b1687
  replace q := Zu q b1687; replace r813 := r813.up b1687; refine Zt ?_; refine Zp ?_
  refine Zy (R.call rfl rfl rfl) (refuse_F _) ?_
  rintro e W' ⟨rfl, rfl⟩
  refine ⟨_, rfl, ?_⟩; refine Zq ?_; refine CC.region ?_; refine Zf ?_; refine Zv hu8 ?_
  refine LL.storeN (vs := [.int .i64 1, .int .i64 ↑l, .int .i64 ↑x1, .slice x8 (outZ (wsZ ws)).length c8, .int .i64 0, .int .i64 0, strV []]) rfl rfl rfl rfl ho (by exact Nat.le_of_ble_eq_true rfl) (ones_of rfl) rfl rfl ?_
  intro W1888 r1889 b1887 z1890
  have hlb1887 := ho.lt
  replace r1889 : RowL W1888 _ 25 [.int .i64 1, .int .i64 ↑l, .int .i64 ↑x1, .slice x8 (outZ (wsZ ws)).length c8, .int .i64 0, .int .i64 0, strV []] := r1889
  clear ho
  replace r9 := Zd r9 b1887; replace hkk := Zo hkk b1887; replace hu8 := Zd hu8 b1887; replace hk8 := Zo hk8 b1887; replace hs := Zd hs b1887; replace c0 := Ze c0 b1887; replace r813 := Zd r813 b1887
  have ho := r1889
  clear r1889
  refine ZL ?_; refine EE.end _ rfl rfl ?_
  exact ⟨rfl, ⟨_, by assumption, readsT_far (hv8F _ (Below.refl _ _)) hk8 (fun b off n c e hlt => ⟨hlt, by have := hge8 b off n c e; omega⟩), fun b off n c e => by have := hge8 b off n c e; omega⟩, hkk⟩
theorem of1_2T (gs go bk off cap : Nat) (ws : List Nat) (w : World) (hS : Start w) (hws : ws.length = 16) (hwb : ∀ x ∈ ws, x < 18446744073709551616) (hcap : 16 ≤ cap) (hs : RowL w gs 28 [.slice (some ⟨bk, off, none⟩) 16 cap]) (hW : WdsAt w bk off ws) (ho : RowL w go 25 (inL 0 0 0 (.slice none 0 0) 0 0 [])) (hne : go ≠ gs ∧ 0 < go ∧ bk ≠ go) (x0 : Nat) (h0 : ws[0]? = some x0) (hx0 : x0 ≠ 0) (l : Nat) (el : x0 / 256 % 16777216 = l) (hk : x0 % 256 = 2) (x2 x3 : Nat) (hy2 : ws[2]? = some x2) (hy3 : ws[3]? = some x3) (hr1 : x2 ≤ 65536 ∧ x3 ≤ 65536) (hok1 : okI 2 (l : Int) 0 [] (x2 : Int) (x3 : Int) []) (heq : inoW 2 (l : Int) 0 [] (x2 : Int) (x3 : Int) [] = ws) : Calls Tryd.prog 37 #[.pointer (some ⟨gs, 0, none⟩), .pointer (some ⟨go, 0, none⟩)] w (ofP go 2 (l : Int) 0 [] (x2 : Int) (x3 : Int) [] w) := by
  unfold ofP
  have hkk := Kept.refl (KW w go) w
  have lgs := hs.lt; have lgo := ho.lt; have lbk := hW.lt
  have hS0 := hS.pos
  have hWF : ∀ X, Below w.heap.size w X → WdsAt X bk off ws := fun X b => hW.up b
  have hSF : ∀ X, Below w.heap.size w X → Start X := fun X b => hS.up b
  have hx64 := hwb x0 (List.mem_of_getElem? h0)
  have c0 : w.cell? ⟨bk, off + 0, none⟩ = some (.int .u64 (x0 : Int)) := hW.cells 0 x0 h0
  have q := Below.refl w.heap.size w
  clear hW hS
  have hll : l < 16777216 := by omega
  have hml : ([] : List Ex).length ≤ 1048576 := by simp
  refine X.fn Tryd.func37 rfl (n := 70) rfl rfl ?_
  refine Zr ?_; refine Zl hs ?_; refine Zn ?_; refine ZneF ?_
  refine Zy (R.call rfl rfl rfl) (refuse_F _) ?_
  rintro e W' ⟨rfl, rfl⟩
  refine ⟨_, rfl, ?_⟩; refine Zq ?_; refine Zc ?_; refine Zr ?_; refine Zl hs ?_; refine Zi ?_; refine Zk ?_; refine ZeqF ?_; refine Zq ?_; refine ZN ?_; refine ZK ?_; refine ZT ?_; refine Zr ?_; refine Zl hs ?_; refine Zi ?_; refine Zk ?_
  (refine Zy (R.call rfl rfl rfl) (fld_k x0 hx64 _) ?_; rintro e _ ⟨rfl, rfl⟩; rw [hk]; refine ⟨_, rfl, ?_⟩)
  refine Zm ?_; refine Zx ?_; refine Zx ?_; refine Za ?_; refine Za ?_; refine Zq ?_; refine Zr ?_; refine Zl hs ?_; refine Zi ?_; refine Zk ?_
  (refine Zy (R.call rfl rfl rfl) (fld_l x0 hx64 _) ?_; rintro e _ ⟨rfl, rfl⟩; rw [el]; refine ⟨_, rfl, ?_⟩)
  refine Zm ?_; refine Zx ?_; refine Zx ?_; refine Za ?_; refine Za ?_; refine Zq ?_; refine Zr ?_
  refine Zy (R.call rfl rfl rfl) (kinds_any _) ?_
  rintro e W627 ⟨g629, k630, rfl, h628, b626⟩
  refine ⟨_, rfl, ?_⟩; have zb626 := b626.size; replace hs := hs.up b626; replace ho := ho.up b626; replace hkk := Zh hkk b626; have y632 := hkk.size; replace c0 := cell_up c0 b626; replace q := Zu q b626; refine Zm ?_
  refine LL.val (R.convI rfl rfl rfl rfl (wrapI (by omega) (by omega))) rfl rfl rfl ?_
  (refine LL.val (R.lookKT rfl rfl zKeys (by rfl) (z := kdZ) (by kernel_rfl) (by assumption) (2 : Int) rfl kF_2) rfl rfl rfl ?_)
  refine Zm ?_; refine Zx ?_; refine Zx ?_; have l808 := hs.lt; have l809 := ho.lt
  refine LL.alloc ([Value.nilFunc, Value.nilFunc, Value.nilFunc, Value.nilFunc]) rfl rfl rfl rfl rfl ?_
  intro W811 g812 eg812 r813 z814 b810
  replace h628 := h628.up b810; replace b626 := Zu b626 b810; replace hs := hs.up b810; replace ho := ho.up b810; replace hkk := Zh hkk b810; have y815 := hkk.size; replace c0 := cell_up c0 b810; replace q := Zu q b810
  refine LL.storeN (vs := [fnV kd2.1, fnV kd2.2.1, fnV kd2.2.2.1, fnV kd2.2.2.2]) rfl rfl rfl rfl r813 (by exact Nat.le_of_ble_eq_true rfl) (ones_of rfl) rfl rfl ?_
  intro W844 r845 b843 z846
  have hlb843 := r813.lt
  replace r845 : RowL W844 _ 68 [fnV kd2.1, fnV kd2.2.1, fnV kd2.2.2.1, fnV kd2.2.2.2] := r845
  clear r813
  replace b810 := Zg b810 b843; replace b626 := Zg b626 b843; replace hs := Zd hs b843; replace ho := Zd ho b843; replace hkk := Zo hkk b843; replace c0 := Ze c0 b843; replace q := Zg q b843
  have r813 := r845
  clear r845
  refine Za ?_; refine Zq ?_; refine Zr ?_; refine Zm ?_; refine Zt ?_
  refine Zy (R.call rfl rfl rfl) (refuse_F _) ?_
  rintro e W' ⟨rfl, rfl⟩
  refine ⟨_, rfl, ?_⟩; refine Zq ?_; refine Zr ?_; refine Zm ?_
  refine LL.val (R.convI rfl rfl rfl rfl (wrapI (by omega) (by omega))) rfl rfl rfl ?_
  refine Zm ?_
  refine LL.val (R.convI rfl rfl rfl rfl (wrapI (by omega) (by omega))) rfl rfl rfl ?_
  refine LL.val (R.buildV rfl rfl (v := .agg #[Value.int IntKind.i64 ↑2, Value.int IntKind.i64 ↑l, Value.int IntKind.i64 0, Value.slice none 0 0, Value.int IntKind.i64 0, Value.int IntKind.i64 0, Value.string { data := #[] }]) (fun _ => by kernel_rfl)) rfl rfl rfl ?_
  refine LL.val (R.buildV rfl rfl (v := .agg #[Value.int IntKind.i64 2, Value.int IntKind.i64 ↑l, Value.int IntKind.i64 0, Value.slice none 0 0, Value.int IntKind.i64 0, Value.int IntKind.i64 0, Value.string { data := #[] }]) (fun _ => by kernel_rfl)) rfl rfl rfl ?_
  have l1144 := hs.lt; have l1145 := ho.lt; have l1146 := r813.lt
  refine LL.alloc ([.int .i64 0, .int .i64 0, .int .i64 0, .slice none 0 0, .int .i64 0, .int .i64 0, .string { data := { toList := [] } }]) rfl rfl rfl rfl rfl ?_
  intro W1148 g1149 eg1149 r1150 z1151 b1147
  replace b810 := Zu b810 b1147; replace b626 := Zu b626 b1147; replace hs := hs.up b1147; replace ho := ho.up b1147; replace hkk := Zh hkk b1147; have y1152 := hkk.size; replace c0 := cell_up c0 b1147; replace q := Zu q b1147; replace r813 := r813.up b1147
  refine LL.storeN (vs := [.int .i64 2, .int .i64 ↑l, .int .i64 0, .slice none 0 0, .int .i64 0, .int .i64 0, .string { data := #[] }]) rfl rfl rfl rfl r1150 (by exact Nat.le_of_ble_eq_true rfl) (ones_of rfl) rfl rfl ?_
  intro W1183 r1184 b1182 z1185
  have hlb1182 := r1150.lt
  replace r1184 : RowL W1183 _ 72 [.int .i64 2, .int .i64 ↑l, .int .i64 0, .slice none 0 0, .int .i64 0, .int .i64 0, .string { data := #[] }] := r1184
  clear r1150
  replace b1147 := Zg b1147 b1182; replace b810 := Zg b810 b1182; replace b626 := Zg b626 b1182; replace hs := Zd hs b1182; replace ho := Zd ho b1182; replace hkk := Zo hkk b1182; replace c0 := Ze c0 b1182; replace q := Zg q b1182; replace r813 := Zd r813 b1182
  have r1150 := r1184
  clear r1184
  refine Zq ?_; refine Zr ?_; refine Zf ?_; refine Zl r813 ?_; refine Zl hs ?_
  (refine LL.call (R.callV rfl rfl rfl rfl) rfl rfl rfl (rd2_T _ bk off cap ws 2 l 0 _ 0 0 [] _ (by assumption) (fun X hX => (hWF _ q).kept hX (by omega)) x2 x3 hy2 hy3 hr1 hcap) ?_; rintro e W1276 ⟨rfl, hN8, t1275⟩; refine ⟨_, rfl, ?_⟩; replace hkk := hkk.trans (t1275.less fun j hj => ⟨by have := hj.1; omega, by have := hj.1; omega⟩); have hu8 := hN8; clear hN8)
  have zt1275 := t1275.size
  replace b1147 := t1275.onB b1147 (fun j hj => ⟨by have := b1147.size; omega, by omega⟩)
  replace b810 := t1275.onB b810 (fun j hj => ⟨by have := b810.size; omega, by omega⟩)
  replace b626 := t1275.onB b626 (fun j hj => ⟨by have := b626.size; omega, by omega⟩)
  replace hs := hs.kept t1275 ⟨hs.lt, by omega⟩
  replace ho := ho.kept t1275 ⟨ho.lt, by omega⟩
  replace c0 := cell_kept c0 t1275 ⟨World.block_lt_of_cell? _ _ c0, by omega⟩
  replace q := t1275.onB q (fun j hj => ⟨by have := q.size; omega, by omega⟩)
  replace r813 := r813.kept t1275 ⟨r813.lt, by omega⟩
  refine Zq ?_; refine Zr ?_; refine Zf ?_; refine Zv hu8 ?_; have l1349 := hu8.lt; have l1350 := hs.lt; have l1351 := ho.lt; have l1352 := r813.lt
  (refine Zy (R.call rfl rfl rfl) (words_ok 2 (l : Int) 0 none 0 0 [] (x2 : Int) (x3 : Int) [] _ (hSF _ q) (ReadsT.nil _) hml hok1) ?_; rintro e W1348 ⟨g9, rfl, r9, hg9, b1345⟩; refine ⟨_, rfl, ?_⟩)
  have zb1345 := b1345.size; replace hkk := Zh hkk b1345; have y1356 := hkk.size; replace hu8 := hu8.up b1345; replace b1147 := Zu b1147 b1345; replace b810 := Zu b810 b1345; replace b626 := Zu b626 b1345; replace hs := hs.up b1345; replace ho := ho.up b1345; replace c0 := cell_up c0 b1345; replace q := Zu q b1345; replace r813 := r813.up b1345; refine Zm ?_; refine Zx ?_; refine Zx ?_; refine Za ?_
  refine Za ?_; refine Zq ?_; refine Zr ?_; refine Zm ?_; refine ZneF ?_; refine Zm ?_; refine Zm ?_; refine Zl hs ?_; have l1690 := r9.lt; have l1691 := hu8.lt; have l1692 := hs.lt; have l1693 := ho.lt; have l1694 := r813.lt
  (refine Zy (R.call rfl rfl rfl) (weq_T (by rw [heq] at r9; exact RowL.asInts r9 .u64 _ rfl hws) ((hWF _ q).all hws hcap) (by omega)) ?_; rintro e W1689 ⟨rfl, b1686⟩; refine ⟨_, rfl, ?_⟩)
  have zb1686 := b1686.size; replace r9 := r9.up b1686; replace b1345 := Zu b1345 b1686; replace hkk := Zh hkk b1686; have y1698 := hkk.size; replace hu8 := hu8.up b1686; replace b1147 := Zu b1147 b1686; replace b810 := Zu b810 b1686; replace b626 := Zu b626 b1686; replace hs := hs.up b1686; replace ho := ho.up b1686; replace c0 := cell_up c0 b1686; replace q := Zu q b1686; replace r813 := r813.up b1686
  refine Zt ?_; refine Zp ?_
  refine Zy (R.call rfl rfl rfl) (refuse_F _) ?_
  rintro e W' ⟨rfl, rfl⟩
  refine ⟨_, rfl, ?_⟩; refine Zq ?_; refine CC.region ?_; refine Zf ?_; refine Zv hu8 ?_
  refine LL.storeN (vs := [.int .i64 2, .int .i64 ↑l, .int .i64 0, .slice none 0 0, .int .i64 ↑x2, .int .i64 ↑x3, strV []]) rfl rfl rfl rfl ho (by exact Nat.le_of_ble_eq_true rfl) (ones_of rfl) rfl rfl ?_
  intro W1886 r1887 b1885 z1888
  have hlb1885 := ho.lt
  replace r1887 : RowL W1886 _ 25 [.int .i64 2, .int .i64 ↑l, .int .i64 0, .slice none 0 0, .int .i64 ↑x2, .int .i64 ↑x3, strV []] := r1887
  clear ho
  replace r9 := Zd r9 b1885; replace hkk := Zo hkk b1885; replace hu8 := Zd hu8 b1885; replace hs := Zd hs b1885; replace c0 := Ze c0 b1885; replace r813 := Zd r813 b1885
  have ho := r1887
  clear r1887
  refine ZL ?_; refine EE.end _ rfl rfl ?_
  exact ⟨rfl, ⟨_, by assumption, ReadsT.nil _, fun b off n c e => by cases e⟩, hkk⟩
theorem of1_3T (gs go bk off cap : Nat) (ws : List Nat) (w : World) (hS : Start w) (hws : ws.length = 16) (hwb : ∀ x ∈ ws, x < 18446744073709551616) (hcap : 16 ≤ cap) (hs : RowL w gs 28 [.slice (some ⟨bk, off, none⟩) 16 cap]) (hW : WdsAt w bk off ws) (ho : RowL w go 25 (inL 0 0 0 (.slice none 0 0) 0 0 [])) (hne : go ≠ gs ∧ 0 < go ∧ bk ≠ go) (x0 : Nat) (h0 : ws[0]? = some x0) (hx0 : x0 ≠ 0) (l : Nat) (el : x0 / 256 % 16777216 = l) (hk : x0 % 256 = 3) (x1 : Nat) (h1 : ws[1]? = some x1) (hr1 : 1 ≤ x1 ∧ x1 ≤ 112) (hr2 : tgOk ws x1) (hok1 : okI 3 (l : Int) 0 [] 0 0 (tgW ws x1)) (heq : inoW 3 (l : Int) 0 [] 0 0 (tgW ws x1) = ws) : Calls Tryd.prog 37 #[.pointer (some ⟨gs, 0, none⟩), .pointer (some ⟨go, 0, none⟩)] w (ofP go 3 (l : Int) 0 [] 0 0 (tgW ws x1) w) := by
  unfold ofP
  have hkk := Kept.refl (KW w go) w
  have lgs := hs.lt; have lgo := ho.lt; have lbk := hW.lt
  have hS0 := hS.pos
  have hWF : ∀ X, Below w.heap.size w X → WdsAt X bk off ws := fun X b => hW.up b
  have hSF : ∀ X, Below w.heap.size w X → Start X := fun X b => hS.up b
  have hx64 := hwb x0 (List.mem_of_getElem? h0)
  have c0 : w.cell? ⟨bk, off + 0, none⟩ = some (.int .u64 (x0 : Int)) := hW.cells 0 x0 h0
  have q := Below.refl w.heap.size w
  clear hW hS
  have hll : l < 16777216 := by omega
  have hml : ([] : List Ex).length ≤ 1048576 := by simp
  refine X.fn Tryd.func37 rfl (n := 70) rfl rfl ?_
  refine Zr ?_; refine Zl hs ?_; refine Zn ?_; refine ZneF ?_
  refine Zy (R.call rfl rfl rfl) (refuse_F _) ?_
  rintro e W' ⟨rfl, rfl⟩
  refine ⟨_, rfl, ?_⟩; refine Zq ?_; refine Zc ?_; refine Zr ?_; refine Zl hs ?_; refine Zi ?_; refine Zk ?_; refine ZeqF ?_; refine Zq ?_; refine ZN ?_; refine ZK ?_; refine ZT ?_; refine Zr ?_; refine Zl hs ?_; refine Zi ?_; refine Zk ?_
  (refine Zy (R.call rfl rfl rfl) (fld_k x0 hx64 _) ?_; rintro e _ ⟨rfl, rfl⟩; rw [hk]; refine ⟨_, rfl, ?_⟩)
  refine Zm ?_; refine Zx ?_; refine Zx ?_; refine Za ?_; refine Za ?_; refine Zq ?_; refine Zr ?_; refine Zl hs ?_; refine Zi ?_; refine Zk ?_
  (refine Zy (R.call rfl rfl rfl) (fld_l x0 hx64 _) ?_; rintro e _ ⟨rfl, rfl⟩; rw [el]; refine ⟨_, rfl, ?_⟩)
  refine Zm ?_; refine Zx ?_; refine Zx ?_; refine Za ?_; refine Za ?_; refine Zq ?_; refine Zr ?_
  refine Zy (R.call rfl rfl rfl) (kinds_any _) ?_
  rintro e W627 ⟨g629, k630, rfl, h628, b626⟩
  refine ⟨_, rfl, ?_⟩; have zb626 := b626.size; replace hs := hs.up b626; replace ho := ho.up b626; replace hkk := Zh hkk b626; have y632 := hkk.size; replace c0 := cell_up c0 b626; replace q := Zu q b626; refine Zm ?_
  refine LL.val (R.convI rfl rfl rfl rfl (wrapI (by omega) (by omega))) rfl rfl rfl ?_
  (refine LL.val (R.lookKT rfl rfl zKeys (by rfl) (z := kdZ) (by kernel_rfl) (by assumption) (3 : Int) rfl kF_3) rfl rfl rfl ?_)
  refine Zm ?_; refine Zx ?_; refine Zx ?_; have l808 := hs.lt; have l809 := ho.lt
  refine LL.alloc ([Value.nilFunc, Value.nilFunc, Value.nilFunc, Value.nilFunc]) rfl rfl rfl rfl rfl ?_
  intro W811 g812 eg812 r813 z814 b810
  replace h628 := h628.up b810; replace b626 := Zu b626 b810; replace hs := hs.up b810; replace ho := ho.up b810; replace hkk := Zh hkk b810; have y815 := hkk.size; replace c0 := cell_up c0 b810; replace q := Zu q b810
  refine LL.storeN (vs := [fnV kd3.1, fnV kd3.2.1, fnV kd3.2.2.1, fnV kd3.2.2.2]) rfl rfl rfl rfl r813 (by exact Nat.le_of_ble_eq_true rfl) (ones_of rfl) rfl rfl ?_
  intro W844 r845 b843 z846
  have hlb843 := r813.lt
  replace r845 : RowL W844 _ 68 [fnV kd3.1, fnV kd3.2.1, fnV kd3.2.2.1, fnV kd3.2.2.2] := r845
  clear r813
  replace b810 := Zg b810 b843; replace b626 := Zg b626 b843; replace hs := Zd hs b843; replace ho := Zd ho b843; replace hkk := Zo hkk b843; replace c0 := Ze c0 b843; replace q := Zg q b843
  have r813 := r845
  clear r845
  refine Za ?_; refine Zq ?_; refine Zr ?_; refine Zm ?_; refine Zt ?_
  refine Zy (R.call rfl rfl rfl) (refuse_F _) ?_
  rintro e W' ⟨rfl, rfl⟩
  refine ⟨_, rfl, ?_⟩; refine Zq ?_; refine Zr ?_; refine Zm ?_
  refine LL.val (R.convI rfl rfl rfl rfl (wrapI (by omega) (by omega))) rfl rfl rfl ?_
  refine Zm ?_
  refine LL.val (R.convI rfl rfl rfl rfl (wrapI (by omega) (by omega))) rfl rfl rfl ?_
  refine LL.val (R.buildV rfl rfl (v := .agg #[Value.int IntKind.i64 ↑3, Value.int IntKind.i64 ↑l, Value.int IntKind.i64 0, Value.slice none 0 0, Value.int IntKind.i64 0, Value.int IntKind.i64 0, Value.string { data := #[] }]) (fun _ => by kernel_rfl)) rfl rfl rfl ?_
  refine LL.val (R.buildV rfl rfl (v := .agg #[Value.int IntKind.i64 3, Value.int IntKind.i64 ↑l, Value.int IntKind.i64 0, Value.slice none 0 0, Value.int IntKind.i64 0, Value.int IntKind.i64 0, Value.string { data := #[] }]) (fun _ => by kernel_rfl)) rfl rfl rfl ?_
  have l1144 := hs.lt; have l1145 := ho.lt; have l1146 := r813.lt
  refine LL.alloc ([.int .i64 0, .int .i64 0, .int .i64 0, .slice none 0 0, .int .i64 0, .int .i64 0, .string { data := { toList := [] } }]) rfl rfl rfl rfl rfl ?_
  intro W1148 g1149 eg1149 r1150 z1151 b1147
  replace b810 := Zu b810 b1147; replace b626 := Zu b626 b1147; replace hs := hs.up b1147; replace ho := ho.up b1147; replace hkk := Zh hkk b1147; have y1152 := hkk.size; replace c0 := cell_up c0 b1147; replace q := Zu q b1147; replace r813 := r813.up b1147
  refine LL.storeN (vs := [.int .i64 3, .int .i64 ↑l, .int .i64 0, .slice none 0 0, .int .i64 0, .int .i64 0, .string { data := #[] }]) rfl rfl rfl rfl r1150 (by exact Nat.le_of_ble_eq_true rfl) (ones_of rfl) rfl rfl ?_
  intro W1183 r1184 b1182 z1185
  have hlb1182 := r1150.lt
  replace r1184 : RowL W1183 _ 72 [.int .i64 3, .int .i64 ↑l, .int .i64 0, .slice none 0 0, .int .i64 0, .int .i64 0, .string { data := #[] }] := r1184
  clear r1150
  replace b1147 := Zg b1147 b1182; replace b810 := Zg b810 b1182; replace b626 := Zg b626 b1182; replace hs := Zd hs b1182; replace ho := Zd ho b1182; replace hkk := Zo hkk b1182; replace c0 := Ze c0 b1182; replace q := Zg q b1182; replace r813 := Zd r813 b1182
  have r1150 := r1184
  clear r1184
  refine Zq ?_; refine Zr ?_; refine Zf ?_; refine Zl r813 ?_; refine Zl hs ?_
  (refine LL.call (R.callV rfl rfl rfl rfl) rfl rfl rfl (rd3_T _ bk off cap ws 3 l 0 _ 0 0 [] _ hws (by assumption) (fun X hX => (hWF _ q).kept hX (by omega)) x1 h1 hr1 hr2 hcap) ?_; rintro e W1276 ⟨rfl, hN8, t1275⟩; refine ⟨_, rfl, ?_⟩; replace hkk := hkk.trans (t1275.less fun j hj => ⟨by have := hj.1; omega, by have := hj.1; omega⟩); have hu8 := hN8; clear hN8)
  have zt1275 := t1275.size
  replace b1147 := t1275.onB b1147 (fun j hj => ⟨by have := b1147.size; omega, by omega⟩)
  replace b810 := t1275.onB b810 (fun j hj => ⟨by have := b810.size; omega, by omega⟩)
  replace b626 := t1275.onB b626 (fun j hj => ⟨by have := b626.size; omega, by omega⟩)
  replace hs := hs.kept t1275 ⟨hs.lt, by omega⟩
  replace ho := ho.kept t1275 ⟨ho.lt, by omega⟩
  replace c0 := cell_kept c0 t1275 ⟨World.block_lt_of_cell? _ _ c0, by omega⟩
  replace q := t1275.onB q (fun j hj => ⟨by have := q.size; omega, by omega⟩)
  replace r813 := r813.kept t1275 ⟨r813.lt, by omega⟩
  refine Zq ?_; refine Zr ?_; refine Zf ?_; refine Zv hu8 ?_; have l1349 := hu8.lt; have l1350 := hs.lt; have l1351 := ho.lt; have l1352 := r813.lt
  (refine Zy (R.call rfl rfl rfl) (words_ok 3 (l : Int) 0 none 0 0 [] 0 0 (tgW ws x1) _ (hSF _ q) (ReadsT.nil _) hml hok1) ?_; rintro e W1348 ⟨g9, rfl, r9, hg9, b1345⟩; refine ⟨_, rfl, ?_⟩)
  have zb1345 := b1345.size; replace hkk := Zh hkk b1345; have y1356 := hkk.size; replace hu8 := hu8.up b1345; replace b1147 := Zu b1147 b1345; replace b810 := Zu b810 b1345; replace b626 := Zu b626 b1345; replace hs := hs.up b1345; replace ho := ho.up b1345; replace c0 := cell_up c0 b1345; replace q := Zu q b1345; replace r813 := r813.up b1345; refine Zm ?_; refine Zx ?_; refine Zx ?_; refine Za ?_
  refine Za ?_; refine Zq ?_; refine Zr ?_; refine Zm ?_; refine ZneF ?_; refine Zm ?_; refine Zm ?_; refine Zl hs ?_; have l1690 := r9.lt; have l1691 := hu8.lt; have l1692 := hs.lt; have l1693 := ho.lt; have l1694 := r813.lt
  (refine Zy (R.call rfl rfl rfl) (weq_T (by rw [heq] at r9; exact RowL.asInts r9 .u64 _ rfl hws) ((hWF _ q).all hws hcap) (by omega)) ?_; rintro e W1689 ⟨rfl, b1686⟩; refine ⟨_, rfl, ?_⟩)
  have zb1686 := b1686.size; replace r9 := r9.up b1686; replace b1345 := Zu b1345 b1686; replace hkk := Zh hkk b1686; have y1698 := hkk.size; replace hu8 := hu8.up b1686; replace b1147 := Zu b1147 b1686; replace b810 := Zu b810 b1686; replace b626 := Zu b626 b1686; replace hs := hs.up b1686; replace ho := ho.up b1686; replace c0 := cell_up c0 b1686; replace q := Zu q b1686; replace r813 := r813.up b1686
  refine Zt ?_; refine Zp ?_
  refine Zy (R.call rfl rfl rfl) (refuse_F _) ?_
  rintro e W' ⟨rfl, rfl⟩
  refine ⟨_, rfl, ?_⟩; refine Zq ?_; refine CC.region ?_; refine Zf ?_; refine Zv hu8 ?_
  refine LL.storeN (vs := [.int .i64 3, .int .i64 ↑l, .int .i64 0, .slice none 0 0, .int .i64 0, .int .i64 0, strV (tgW ws x1)]) rfl rfl rfl rfl ho (by exact Nat.le_of_ble_eq_true rfl) (ones_of rfl) rfl rfl ?_
  intro W1886 r1887 b1885 z1888
  have hlb1885 := ho.lt
  replace r1887 : RowL W1886 _ 25 [.int .i64 3, .int .i64 ↑l, .int .i64 0, .slice none 0 0, .int .i64 0, .int .i64 0, strV (tgW ws x1)] := r1887
  clear ho
  replace r9 := Zd r9 b1885; replace hkk := Zo hkk b1885; replace hu8 := Zd hu8 b1885; replace hs := Zd hs b1885; replace c0 := Ze c0 b1885; replace r813 := Zd r813 b1885
  have ho := r1887
  clear r1887
  refine ZL ?_; refine EE.end _ rfl rfl ?_
  exact ⟨rfl, ⟨_, by assumption, ReadsT.nil _, fun b off n c e => by cases e⟩, hkk⟩
theorem of1_Z (gs go bk off cap : Nat) (ws : List Nat) (w : World) (hS : Start w) (hws : ws.length = 16) (hwb : ∀ x ∈ ws, x < 18446744073709551616) (hcap : 16 ≤ cap) (hs : RowL w gs 28 [.slice (some ⟨bk, off, none⟩) 16 cap]) (hW : WdsAt w bk off ws) (ho : RowL w go 25 (inL 0 0 0 (.slice none 0 0) 0 0 [])) (hne : go ≠ gs ∧ 0 < go ∧ bk ≠ go) (x0 : Nat) (h0 : ws[0]? = some x0) (hx0 : x0 = 0) : Calls Tryd.prog 37 #[.pointer (some ⟨gs, 0, none⟩), .pointer (some ⟨go, 0, none⟩)] w (ofP go 0 0 0 [] 0 0 [] w) := by
  unfold ofP
  have hkk := Kept.refl (KW w go) w
  have lgs := hs.lt; have lgo := ho.lt; have lbk := hW.lt
  have hS0 := hS.pos
  have hWF : ∀ X, Below w.heap.size w X → WdsAt X bk off ws := fun X b => hW.up b
  have hSF : ∀ X, Below w.heap.size w X → Start X := fun X b => hS.up b
  have hx64 := hwb x0 (List.mem_of_getElem? h0)
  have c0 : w.cell? ⟨bk, off + 0, none⟩ = some (.int .u64 (x0 : Int)) := hW.cells 0 x0 h0
  have q := Below.refl w.heap.size w
  clear hW hS
  refine X.fn Tryd.func37 rfl (n := 70) rfl rfl ?_
  refine Zr ?_; refine Zl hs ?_; refine Zn ?_; refine ZneF ?_
  refine Zy (R.call rfl rfl rfl) (refuse_F _) ?_
  rintro e W' ⟨rfl, rfl⟩
  refine ⟨_, rfl, ?_⟩; refine Zq ?_; refine Zc ?_; refine Zr ?_; refine Zl hs ?_; refine Zi ?_; refine Zk ?_; refine ZeqT ?_; refine Zq ?_; refine ZY ?_; refine ZR ?_; refine EE.thenR ?_; refine EE.ret _ rfl rfl ?_
  exact ⟨rfl, ⟨_, ho, ReadsT.nil _, fun b off n c e => by cases e⟩, hkk⟩
theorem of1_L (gk gs go : Nat) (a : Option Addr) (n c : Nat) (w : World) (hs : RowL w gs 28 [.slice a n c]) (hn : n ≠ 16) : Calls Tryd.prog 37 #[.pointer (some ⟨gs, 0, none⟩), .pointer (some ⟨go, 0, none⟩)] w fun e w' => e = .panicked (chain1 refV) ∧ Kept (KW w gk) w w' := by
  have hkk := Kept.refl (KW w gk) w
  refine X.fnP Tryd.func37 rfl (n := 70) rfl rfl ?_
  refine Zr ?_; refine Zl hs ?_; refine Zn ?_; refine ZneT ?_
  refine LL.callP (R.call rfl rfl rfl) rfl rfl (refuse_T _) ?_
  rintro e W2 ⟨rfl, rfl⟩
  refine ⟨_, rfl, ?_⟩; refine EE.thenP ?_; refine EE.panM ?_
  exact ⟨rfl, hkk⟩
set_option linter.unusedVariables false
set_option linter.unusedSimpArgs false
set_option maxRecDepth 100000
set_option maxHeartbeats 8000000
section
variable {P : Program} {w : World} {t u T : TypeId} {o : Oper} {x y : Operand} {n e k : Nat} {D : List Deferred} {M : Slots}
end
def ofR (k l z : Int) (m : List Ex) (r p : Int) (t : Bs) (w0 : World) (e : Ending) (w : World) : Prop := ∃ v, e = .returned (.tuple #[inV k l z v r p t, .int .i64 0]) ∧ ReadsT eE 3 w v m ∧ Below w0.heap.size w0 w
theorem of_run (a : Option Addr) (n c : Nat) (k l z : Int) (m : List Ex) (r p : Int) (t : Bs) (w : World) (hS0 : 0 < w.heap.size)
    (hwork : ∀ W gs go, Below w.heap.size w W → w.heap.size ≤ gs → w.heap.size ≤ go → go ≠ gs → RowL W gs 28 [.slice a n c] → RowL W go 25 (inL 0 0 0 (.slice none 0 0) 0 0 []) → Calls Tryd.prog 37 #[.pointer (some ⟨gs, 0, none⟩), .pointer (some ⟨go, 0, none⟩)] W (ofP go k l z m r p t W)) :
    Calls Tryd.prog 17 #[.slice a n c] w (ofR k l z m r p t w) := by
  unfold ofR
  have q := Below.refl w.heap.size w
  refine X.fn Tryd.func17 rfl (n := 10) rfl rfl ?_
  refine Zr ?_
  refine LL.box [.slice a n c] rfl rfl rfl rfl rfl ?_
  intro W2 g3 eg3 r4 z5 b1
  replace q := Zu q b1; have l6 := r4.lt
  refine LL.alloc ([.int .i64 0, .int .i64 0, .int .i64 0, .slice none 0 0, .int .i64 0, .int .i64 0, .string { data := { toList := [] } }]) rfl rfl rfl rfl rfl ?_
  intro W8 g9 eg9 r10 z11 b7
  replace r4 := r4.up b7; replace b1 := Zu b1 b7; replace q := Zu q b7; refine Za ?_; refine Zq ?_; refine Zr ?_; have l12 := r10.lt; have l13 := r4.lt
  refine LL.alloc ([.int .i64 0, .int .i64 0, .int .i64 0, .slice none 0 0, .int .i64 0, .int .i64 0, .string { data := { toList := [] } }]) rfl rfl rfl rfl rfl ?_
  intro W15 g16 eg16 r17 z18 b14
  replace r10 := r10.up b14; replace b7 := Zu b7 b14; replace r4 := r4.up b14; replace b1 := Zu b1 b14; replace q := Zu q b14; refine Zq ?_; refine Zr ?_
  refine LL.val (R.func rfl rfl rfl) rfl rfl rfl ?_
  have lg4 := r4.lt; have lg17 := r17.lt
  refine Zy (R.call rfl rfl rfl) (guarded_R _ [Value.pointer (some ⟨g3, 0, none⟩), .pointer (some ⟨g16, 0, none⟩)] (by kernel_rfl) g16 (fun n X => ∃ v, RowL X g16 25 (inL k l z v r p t) ∧ ReadsT eE 3 X v m ∧ ∀ b off n' c', v = .slice (some ⟨b, off, none⟩) n' c' → n ≤ b) _ (by omega) (fun n X Y b ⟨v, h1, h2, h3⟩ hb1 hb2 hg => ⟨v, h1.gr hg (by omega), readsT_far h2 (grown_kept (K := fun i => i < X.heap.size ∧ i ≠ b) hg (fun k hk => hk.1) (fun k hk e => by cases e; exact hk.2 rfl)) (fun b2 off n2 c2 e hlt => ⟨hlt, by have := h3 b2 off n2 c2 e; omega⟩), h3⟩) (fun W' b' => hwork W' g3 g16 (q.trans (b'.mono q.size)) (by omega) (by omega) (by omega) (r4.up b') (r17.up b'))) ?_
  rintro e W9 ⟨rfl, ⟨n9, hn9, v9, r91, rd9, hge9⟩, t9⟩
  refine ⟨_, rfl, ?_⟩
  replace q := t9.onB q (fun j hj => ⟨by omega, by omega⟩)
  replace r10 := r10.kept t9 ⟨by omega, by omega⟩
  clear r4 r17 b1 b7 b14
  obtain ⟨x9, c9, rfl, _⟩ := rd9.form rfl
  have hk9 := Kept.refl (fun i => i < W9.heap.size ∧ i ≠ g9) W9
  have rd9F := fun X (b : Below W9.heap.size W9 X) => rd9.up b
  clear rd9
  have zt9 := t9.size; refine Za ?_; refine Zq ?_; refine Zr ?_; refine Zv r91 ?_; refine Zm ?_
  refine LL.storeN (vs := [.int .i64 k, .int .i64 l, .int .i64 z, .slice x9 m.length c9, .int .i64 r, .int .i64 p, strV t]) rfl rfl rfl rfl r10 (by exact Nat.le_of_ble_eq_true rfl) (ones_of rfl) rfl rfl ?_
  intro Wa2 ra3 ba1 za4
  have hlba1 := r10.lt
  replace ra3 : RowL Wa2 _ 25 [.int .i64 k, .int .i64 l, .int .i64 z, .slice x9 m.length c9, .int .i64 r, .int .i64 p, strV t] := ra3
  clear r10
  replace q := Zg q ba1; replace r91 := Zd r91 ba1; replace hk9 := Zo hk9 ba1
  have r10 := ra3
  clear ra3
  refine Za ?_; refine Zq ?_; refine ZR ?_
  refine EE.ret2 rfl ⟨_, rfl, lvNc (RowL.cells0 (by assumption)) (by rfl) (by rfl)⟩ rfl ?_
  exact ⟨_, rfl, readsT_far (rd9F _ (Below.refl _ _)) hk9 (fun b off n c e hlt => ⟨hlt, by have := hge9 b off n c e; omega⟩), q⟩
theorem of_pan (a : Option Addr) (n c : Nat) (w : World)
    (hwork : ∀ W gs go gk, Below w.heap.size w W → w.heap.size ≤ gs → w.heap.size ≤ go → go ≠ gs → RowL W gs 28 [.slice a n c] → RowL W go 25 (inL 0 0 0 (.slice none 0 0) 0 0 []) → Calls Tryd.prog 37 #[.pointer (some ⟨gs, 0, none⟩), .pointer (some ⟨go, 0, none⟩)] W fun e W' => e = .panicked (chain1 refV) ∧ Kept (KW W gk) W W') :
    Calls Tryd.prog 17 #[.slice a n c] w fun e w' => e = .returned (.tuple #[inV 0 0 0 (.slice none 0 0) 0 0 [], .int .i64 240]) ∧ Below w.heap.size w w' := by
  have q := Below.refl w.heap.size w
  refine X.fn Tryd.func17 rfl (n := 10) rfl rfl ?_
  refine Zr ?_
  refine LL.box [.slice a n c] rfl rfl rfl rfl rfl ?_
  intro W2 g3 eg3 r4 z5 b1
  replace q := Zu q b1; have l6 := r4.lt
  refine LL.alloc ([.int .i64 0, .int .i64 0, .int .i64 0, .slice none 0 0, .int .i64 0, .int .i64 0, .string { data := { toList := [] } }]) rfl rfl rfl rfl rfl ?_
  intro W8 g9 eg9 r10 z11 b7
  replace r4 := r4.up b7; replace b1 := Zu b1 b7; replace q := Zu q b7; refine Za ?_; refine Zq ?_; refine Zr ?_; have l12 := r10.lt; have l13 := r4.lt
  refine LL.alloc ([.int .i64 0, .int .i64 0, .int .i64 0, .slice none 0 0, .int .i64 0, .int .i64 0, .string { data := { toList := [] } }]) rfl rfl rfl rfl rfl ?_
  intro W15 g16 eg16 r17 z18 b14
  replace r10 := r10.up b14; replace b7 := Zu b7 b14; replace r4 := r4.up b14; replace b1 := Zu b1 b14; replace q := Zu q b14; refine Zq ?_; refine Zr ?_
  refine LL.val (R.func rfl rfl rfl) rfl rfl rfl ?_
  have lg4 := r4.lt; have lg17 := r17.lt
  refine Zy (R.call rfl rfl rfl) (guarded_P _ [Value.pointer (some ⟨g3, 0, none⟩), .pointer (some ⟨g16, 0, none⟩)] (by kernel_rfl) g3 _ (by omega) (fun W' b' => hwork W' g3 g16 g3 (q.trans (b'.mono q.size)) (by omega) (by omega) (by omega) (r4.up b') (r17.up b'))) ?_
  rintro e W9 ⟨rfl, t9⟩
  refine ⟨_, rfl, ?_⟩
  replace q := t9.onB q (fun j hj => ⟨by omega, by omega⟩)
  replace r10 := r10.kept t9 ⟨by omega, by omega⟩
  replace r17 := r17.kept t9 ⟨by omega, by omega⟩
  clear r4 b1 b7 b14
  refine Za ?_; refine Zq ?_; refine Zr ?_; refine Zv r17 ?_; refine Zm ?_
  refine LL.storeN (vs := [.int .i64 0, .int .i64 0, .int .i64 0, .slice none 0 0, .int .i64 0, .int .i64 0, .string { data := { toList := [] } }]) rfl rfl rfl rfl r10 (by exact Nat.le_of_ble_eq_true rfl) (ones_of rfl) rfl rfl ?_
  intro Wa2 ra3 ba1 za4
  have hlba1 := r10.lt
  replace ra3 : RowL Wa2 _ 25 [.int .i64 0, .int .i64 0, .int .i64 0, .slice none 0 0, .int .i64 0, .int .i64 0, .string { data := { toList := [] } }] := ra3
  clear r10
  replace q := Zg q ba1; replace r17 := Zd r17 ba1
  have r10 := ra3
  clear ra3
  refine Za ?_; refine Zq ?_; refine ZR ?_
  refine EE.ret2 rfl ⟨_, rfl, lvNc (RowL.cells0 (by assumption)) (by rfl) (by rfl)⟩ rfl ?_
  exact ⟨rfl, q⟩
theorem fld_h (x : Nat) (hx : x < 18446744073709551616) (w : World) : Calls Tryd.prog 39 #[.int .u64 (x : Int), .int .i64 32, .int .i64 32] w fun e w' => e = .returned (.tuple #[.int .u64 ((x / 4294967296 : Nat) : Int), .int .i64 0]) ∧ w = w' := by
  have h := field_ok x 32 32 hx (by omega) (by omega) w
  rw [show x / 2 ^ 32 % 2 ^ 32 = x / 4294967296 by simp; omega] at h
  exact h
theorem with_l (x v : Nat) (w : World) (hx : x < 4294967296) (hv : v < 16777216) : Calls Tryd.prog 47 #[.int .u64 (x : Int), .int .i64 8, .int .i64 24, .int .u64 (v : Int)] w fun e w' => e = .returned (.tuple #[.int .u64 ((x % 256 + 256 * v : Nat) : Int), .int .i64 0]) ∧ Below w.heap.size w w' :=
  (with_ok x 8 24 v (by omega) (by omega) (by omega) (by omega) w).mono fun e w' ⟨he, n, hn⟩ => by
    rw [show x - x / 2 ^ 8 % 2 ^ 24 * 2 ^ 8 + v * 2 ^ 8 = x % 256 + 256 * v by simp; omega] at he
    exact ⟨he, by rw [hn]; exact Below.drewN (Below.refl _ _) n⟩
theorem linked_T (x l : Nat) (w : World) (hx : x < 4294967296) (hk : 1 ≤ x % 256 ∧ x % 256 ≤ 3) (hl : l ≤ 65535) : Calls Tryd.prog 23 #[.int .u64 (x : Int), .int .i64 (l : Int)] w fun e w' => e = .returned (.tuple #[.int .u64 ((x % 256 + 256 * l : Nat) : Int), .int .i64 0]) ∧ Below w.heap.size w w' := by
  have q := Below.refl w.heap.size w
  refine X.fn Tryd.func23 rfl (n := 43) rfl rfl ?_
  refine Zr ?_; refine Za ?_; refine Za ?_; refine Zq ?_; refine Zr ?_; refine Zm ?_
  refine Zy (R.call rfl rfl rfl) (fld_k _ (by first | assumption | omega) _) ?_
  rintro e W' ⟨rfl, rfl⟩
  refine ⟨_, rfl, ?_⟩; refine Zm ?_; refine Zx ?_; refine Zx ?_; refine Za ?_; refine Za ?_; refine Zq ?_; refine Zr ?_; refine Zm ?_
  refine Zy (R.call rfl rfl rfl) (fld_h _ (by first | assumption | omega) _) ?_
  rintro e W' ⟨rfl, rfl⟩
  refine ⟨_, rfl, ?_⟩; refine Zm ?_; refine Zx ?_; refine Zx ?_; refine Za ?_; refine Za ?_; refine Zq ?_; refine Zc ?_; refine Zr ?_; refine Zm ?_; refine ZneF ?_; refine Zm ?_; refine Zm ?_
  refine LL.val (R.convI rfl rfl rfl rfl (wrapI (by omega) (by omega))) rfl rfl rfl ?_
  refine Zy (R.call rfl rfl rfl) (kwithin_T _ _ _ _ (by first | assumption | omega)) ?_
  rintro e W' ⟨rfl, rfl⟩
  refine ⟨_, rfl, ?_⟩; refine Zt ?_; refine Zp ?_; refine Zm ?_; refine Zm ?_
  refine Zy (R.call rfl rfl rfl) (within_T _ _ _ _ (by first | assumption | omega)) ?_
  rintro e W' ⟨rfl, rfl⟩
  refine ⟨_, rfl, ?_⟩; refine Zt ?_; refine Zp ?_; refine Zq ?_; refine ZN ?_; refine ZK ?_; refine ZT ?_; refine Zr ?_; refine Zm ?_; refine Zm ?_
  refine LL.val (R.convI rfl rfl rfl rfl (wrapU (by omega) (by omega))) rfl rfl rfl ?_
  (refine Zy (R.call rfl rfl rfl) (with_l x l _ hx (by omega)) ?_; rintro e W228 ⟨rfl, b225⟩; refine ⟨_, rfl, ?_⟩)
  have zb225 := b225.size; replace q := Zu q b225; refine Zm ?_; refine Zx ?_; refine Zx ?_; refine Za ?_; refine Za ?_; refine Zq ?_; refine Zr ?_; refine Zm ?_; refine Za ?_; refine Za ?_; refine Zq ?_; refine ZR ?_; refine EE.ret _ rfl rfl ?_
  exact ⟨rfl, q⟩
theorem linked_F (x : Nat) (l : Int) (w : World) (hx : x < 18446744073709551616) (hk : 4294967296 ≤ x ∨ x % 256 < 1 ∨ 3 < x % 256 ∨ l < 0 ∨ 65535 < l) : Calls Tryd.prog 23 #[.int .u64 (x : Int), .int .i64 l] w fun e w' => e = .returned (.tuple #[.int .u64 0, .int .i64 240]) ∧ Below w.heap.size w w' := by
  have q := Below.refl w.heap.size w
  by_cases hA1 : 4294967296 ≤ x
  · refine X.fn Tryd.func23 rfl (n := 43) rfl rfl ?_
    refine Zr ?_; refine Za ?_; refine Za ?_; refine Zq ?_; refine Zr ?_; refine Zm ?_
    refine Zy (R.call rfl rfl rfl) (fld_k _ (by first | assumption | omega) _) ?_
    rintro e W' ⟨rfl, rfl⟩
    refine ⟨_, rfl, ?_⟩; refine Zm ?_; refine Zx ?_; refine Zx ?_; refine Za ?_; refine Za ?_; refine Zq ?_; refine Zr ?_; refine Zm ?_
    refine Zy (R.call rfl rfl rfl) (fld_h _ (by first | assumption | omega) _) ?_
    rintro e W' ⟨rfl, rfl⟩
    refine ⟨_, rfl, ?_⟩; refine Zm ?_; refine Zx ?_; refine Zx ?_; refine Za ?_; refine Za ?_; refine Zq ?_; refine Zc ?_; refine Zr ?_; refine Zm ?_; refine ZneT ?_; refine Zm ?_; refine Zs ?_; refine Zs ?_; refine Zs ?_; refine Zs ?_; refine Zp ?_; refine Zm ?_; refine Zs ?_; refine Zs ?_; refine Zs ?_; refine Zp ?_; refine Zq ?_; refine ZY ?_; refine Zr ?_; refine Za ?_; refine Za ?_; refine Zq ?_
    refine ZR ?_; refine EE.thenR ?_; refine EE.ret _ rfl rfl ?_
    exact ⟨rfl, q⟩
  by_cases hA2 : x % 256 < 1 ∨ 3 < x % 256
  · refine X.fn Tryd.func23 rfl (n := 43) rfl rfl ?_
    refine Zr ?_; refine Za ?_; refine Za ?_; refine Zq ?_; refine Zr ?_; refine Zm ?_
    refine Zy (R.call rfl rfl rfl) (fld_k _ (by first | assumption | omega) _) ?_
    rintro e W' ⟨rfl, rfl⟩
    refine ⟨_, rfl, ?_⟩; refine Zm ?_; refine Zx ?_; refine Zx ?_; refine Za ?_; refine Za ?_; refine Zq ?_; refine Zr ?_; refine Zm ?_
    refine Zy (R.call rfl rfl rfl) (fld_h _ (by first | assumption | omega) _) ?_
    rintro e W' ⟨rfl, rfl⟩
    refine ⟨_, rfl, ?_⟩; refine Zm ?_; refine Zx ?_; refine Zx ?_; refine Za ?_; refine Za ?_; refine Zq ?_; refine Zc ?_; refine Zr ?_; refine Zm ?_; refine ZneF ?_; refine Zm ?_; refine Zm ?_
    refine LL.val (R.convI rfl rfl rfl rfl (wrapI (by omega) (by omega))) rfl rfl rfl ?_
    refine Zy (R.call rfl rfl rfl) (kwithin_F _ _ _ _ (by first | assumption | omega)) ?_
    rintro e W' ⟨rfl, rfl⟩
    refine ⟨_, rfl, ?_⟩; refine Zt ?_; refine Zp ?_; refine Zm ?_; refine Zs ?_; refine Zs ?_; refine Zs ?_; refine Zp ?_; refine Zq ?_; refine ZY ?_; refine Zr ?_; refine Za ?_; refine Za ?_; refine Zq ?_; refine ZR ?_; refine EE.thenR ?_; refine EE.ret _ rfl rfl ?_
    exact ⟨rfl, q⟩
  · refine X.fn Tryd.func23 rfl (n := 43) rfl rfl ?_
    refine Zr ?_; refine Za ?_; refine Za ?_; refine Zq ?_; refine Zr ?_; refine Zm ?_
    refine Zy (R.call rfl rfl rfl) (fld_k _ (by first | assumption | omega) _) ?_
    rintro e W' ⟨rfl, rfl⟩
    refine ⟨_, rfl, ?_⟩; refine Zm ?_; refine Zx ?_; refine Zx ?_; refine Za ?_; refine Za ?_; refine Zq ?_; refine Zr ?_; refine Zm ?_
    refine Zy (R.call rfl rfl rfl) (fld_h _ (by first | assumption | omega) _) ?_
    rintro e W' ⟨rfl, rfl⟩
    refine ⟨_, rfl, ?_⟩; refine Zm ?_; refine Zx ?_; refine Zx ?_; refine Za ?_; refine Za ?_; refine Zq ?_; refine Zc ?_; refine Zr ?_; refine Zm ?_; refine ZneF ?_; refine Zm ?_; refine Zm ?_
    refine LL.val (R.convI rfl rfl rfl rfl (wrapI (by omega) (by omega))) rfl rfl rfl ?_
    refine Zy (R.call rfl rfl rfl) (kwithin_T _ _ _ _ (by first | assumption | omega)) ?_
    rintro e W' ⟨rfl, rfl⟩
    refine ⟨_, rfl, ?_⟩; refine Zt ?_; refine Zp ?_; refine Zm ?_; refine Zm ?_
    refine Zy (R.call rfl rfl rfl) (within_F _ _ _ _ (by first | assumption | omega)) ?_
    rintro e W' ⟨rfl, rfl⟩
    refine ⟨_, rfl, ?_⟩; refine Zt ?_; refine Zp ?_; refine Zq ?_; refine ZY ?_; refine Zr ?_; refine Za ?_; refine Za ?_; refine Zq ?_; refine ZR ?_; refine EE.thenR ?_; refine EE.ret _ rfl rfl ?_
    exact ⟨rfl, q⟩
theorem wsame_any (v1 v2 : Value) (xs ys : List Nat) (w : World) (h1 : Reads w v1 (ints .u64 xs)) (h2 : Reads w v2 (ints .u64 ys)) (hx : xs.length ≤ 1048576) (hy : ys.length ≤ 1048576) :
    Calls Tryd.prog 16 #[v1, v2] w fun e w' => e = .returned (.bool (decide (xs = ys))) ∧ Below w.heap.size w w' := by
  refine (same_any v1 v2 xs ys w h1 h2 hx hy).mono ?_
  rintro e w' ⟨rfl, n, rfl⟩
  exact ⟨rfl, Below.drewN (Below.refl _ _) n⟩
theorem num_any (a : Int) (w : World) : Calls Tryd.prog 13 #[.int .i64 a] w fun e w' => e = .returned (.int .i64 a) ∧ w = w' := by
  refine X.fn Tryd.func13 rfl (n := 4) rfl rfl ?_
  refine Zr ?_; refine Za ?_; refine Zq ?_; refine Zr ?_; refine Zm ?_; refine Za ?_; refine Zq ?_; refine ZR ?_; refine EE.ret _ rfl rfl ?_
  exact ⟨rfl, rfl⟩
theorem wsame_T (v1 v2 : Value) (xs ys : List Nat) (w : World) (h1 : Reads w v1 (ints .u64 xs)) (h2 : Reads w v2 (ints .u64 ys)) (hx : xs.length ≤ 1048576) (e : ys = xs) :
    Calls Tryd.prog 16 #[v1, v2] w fun e w' => e = .returned (.bool true) ∧ Below w.heap.size w w' := by
  subst e
  have := wsame_any v1 v2 ys ys w h1 h2 hx hx
  simpa using this
theorem beg_T (g : Nat) (a2 : Option Addr) (n2 c2 : Nat) (ws l : List Nat) (w : World) (h1 : Reads w (.slice (some ⟨g, 0, none⟩) 16 16) (ints .u64 ws)) (h2 : Reads w (.slice a2 n2 c2) (ints .u64 l)) (hn : ws.length = 16) (hle : n2 ≤ 16) (ht : l = ws.take n2) : Calls Tryd.prog 26 #[.slice (some ⟨g, 0, none⟩) 16 16, .slice a2 n2 c2] w fun e w' => e = .returned (.bool true) ∧ Below w.heap.size w w' := by
  have q := Below.refl w.heap.size w
  have h3 : Reads w (.slice (some ⟨g, 0, none⟩) n2 16) (ints .u64 (ws.take n2)) := by
    have := h1.take n2 (by omega) 16 (by omega)
    rwa [show (ints .u64 ws).take n2 = ints .u64 (ws.take n2) by simp [ints]] at this
  have h3F := fun X (b : Below w.heap.size w X) => h3.up b
  have h2F := fun X (b : Below w.heap.size w X) => h2.up b
  clear h1 h2 h3
  have hl : (ws.take n2).length ≤ 1048576 := by simp; omega
  refine X.fn Tryd.func26 rfl (n := 18) rfl rfl ?_
  refine Zr ?_; refine Za ?_; refine Zq ?_; refine Zr ?_; refine Zm ?_; refine Zn ?_; refine Zm ?_; refine Zn ?_; refine ZgeT ?_; refine Zm ?_; refine Zm ?_; refine Zm ?_; refine Zn ?_
  refine LL.val (R.slice rfl rfl rfl rfl rfl (I.slTo rfl (by omega))) rfl rfl rfl ?_
  refine Zm ?_
  refine Zy (R.call rfl rfl rfl) (wsame_T _ _ _ _ _ (h3F _ q) (h2F _ q) hl ht) ?_
  rintro e W2 ⟨rfl, b1⟩
  refine ⟨_, rfl, ?_⟩; have zb1 := b1.size; replace q := Zu q b1; refine Zp ?_; refine Za ?_; refine Zq ?_; refine ZR ?_; refine EE.ret _ rfl rfl ?_
  exact ⟨rfl, q⟩
theorem of_Z (bk off cap : Nat) (ws : List Nat) (w : World) (hS : Start w) (hws : ws.length = 16) (hwb : ∀ x ∈ ws, x < 18446744073709551616) (hcap : 16 ≤ cap) (hW : WdsAt w bk off ws) (h0 : ws[0]? = some 0) : Calls Tryd.prog 17 #[.slice (some ⟨bk, off, none⟩) 16 cap] w (ofR 0 0 0 [] 0 0 [] w) :=
  of_run _ 16 cap 0 0 0 [] 0 0 [] w hS.pos (fun W gs go b hgs hgo hne hs ho => of1_Z gs go bk off cap ws W (hS.up b) hws hwb hcap hs (hW.up b) ho ⟨hne, by have := hS.pos; omega, by have := hW.lt; omega⟩ 0 h0 rfl)
theorem of_L (a : Option Addr) (n c : Nat) (w : World) (hn : n ≠ 16) : Calls Tryd.prog 17 #[.slice a n c] w fun e w' => e = .returned (.tuple #[inV 0 0 0 (.slice none 0 0) 0 0 [], .int .i64 240]) ∧ Below w.heap.size w w' :=
  of_pan a n c w (fun W gs go gk b hgs hgo hne hs ho => of1_L gk gs go a n c W hs hn)
theorem okD : okI 2 1 0 [] 20 1 [] := by unfold okI; simp
theorem okK : okI 3 2 0 [] 0 0 [97] := by unfold okI; simp
theorem begD : [258, 0, 20, 1] = (inoW 2 1 0 [] 20 1 []).take 4 := by decide +kernel
theorem begK : [515, 1, 97] = (inoW 3 2 0 [] 0 0 [97]).take 3 := by decide +kernel
theorem beg_R (g g2 n2 : Nat) (ws l : List Nat) (L : List Value) (w : World) (h1 : RowL w g 41 (ints .u64 ws)) (h2 : RowL w g2 41 L) (eL : L = ints .u64 l) (hn : ws.length = 16) (hle : n2 ≤ 16) (hl : l.length = n2) (ht : l = ws.take n2) : Calls Tryd.prog 26 #[.slice (some ⟨g, 0, none⟩) 16 16, .slice (some ⟨g2, 0, none⟩) n2 n2] w fun e w' => e = .returned (.bool true) ∧ Below w.heap.size w w' := by
  subst eL
  exact beg_T g _ n2 n2 ws l w (RowL.asInts h1 .u64 _ rfl hn) (RowL.asInts h2 .u64 _ rfl hl) hn hle ht
theorem same0 : (true = true) ↔ sameI 0 0 0 [] 0 0 [] 0 0 0 [] 0 0 [] := by simp [sameI]
def oddL : List Nat := [0, 7, 0, 0, 0, 0, 0, 0, 0, 0, 0, 0, 0, 0, 0, 0]
theorem works_any (w : World) (hS : Start w) : Calls Tryd.prog 10 #[] w fun x w' => x = .returned (.bool true) ∧ Below w.heap.size w w' := by
  have q := Below.refl w.heap.size w
  have hSF : ∀ X, Below w.heap.size w X → Start X := fun X b => hS.up b
  refine X.fn Tryd.func10 rfl (n := 81) rfl rfl ?_
  refine Zr ?_; refine Za ?_; refine Zq ?_; refine Zr ?_
  refine LL.val (R.buildV rfl rfl (v := .agg #[Value.int IntKind.i64 2, Value.int IntKind.i64 1, Value.int IntKind.i64 0, Value.slice none 0 0, Value.int IntKind.i64 20, Value.int IntKind.i64 1, Value.string { data := #[] }]) (fun _ => by kernel_rfl)) rfl rfl rfl ?_
  (refine Zy (R.call rfl rfl rfl) (words_ok 2 1 0 none 0 0 [] 20 1 [] _ (hSF _ q) (ReadsT.nil _) (by decide) okD) ?_; rintro e W32 ⟨g8, rfl, r81, hg8, b29⟩; refine ⟨_, rfl, ?_⟩)
  have zb29 := b29.size; replace hS := hS.up b29; replace q := Zu q b29; refine Zm ?_; refine Zx ?_; refine Zx ?_; refine Za ?_; refine Za ?_; refine Zq ?_; refine Zr ?_
  refine LL.val (R.buildV rfl rfl (v := .agg #[Value.int IntKind.i64 3, Value.int IntKind.i64 2, Value.int IntKind.i64 0, Value.slice none 0 0, Value.int IntKind.i64 0, Value.int IntKind.i64 0, Value.string { data := #[97] }]) (fun _ => by kernel_rfl)) rfl rfl rfl ?_
  have l144 := r81.lt
  (refine Zy (R.call rfl rfl rfl) (words_ok 3 2 0 none 0 0 [] 0 0 [97] _ (hSF _ q) (ReadsT.nil _) (by decide) okK) ?_; rintro e W143 ⟨g9, rfl, r91, hg9, b140⟩; refine ⟨_, rfl, ?_⟩)
  have zb140 := b140.size; replace r81 := r81.up b140; replace b29 := Zu b29 b140; replace hS := hS.up b140; replace q := Zu q b140; refine Zm ?_; refine Zx ?_; refine Zx ?_; refine Za ?_; refine Za ?_; refine Zq ?_; refine Zr ?_; have l81 := r81.lt; have l91 := r91.lt
  refine LL.make (l := 16) (m := 16) El64 rfl rfl rfl (by omega) (by omega) (by omega) rfl rfl ?_
  intro Wm gm egm rm zm bm
  replace q := Zu q bm; replace r81 := r81.up bm; replace r91 := r91.up bm; have lgm := rm.lt
  clear b140 zb140 b29 bm hS
  refine Za ?_; refine Zq ?_; refine Zr ?_; refine Zm ?_; refine Zi ?_
  refine LL.store rfl rfl rfl rfl rm (by exact Nat.le_of_ble_eq_true rfl) rfl rfl rfl rfl ?_
  intro Wa2 ra3 ba1 za4
  have hlba1 := rm.lt
  replace ra3 : RowL Wa2 _ 41 [.int .u64 0, .int .u64 7, .int .u64 0, .int .u64 0, .int .u64 0, .int .u64 0, .int .u64 0, .int .u64 0, .int .u64 0, .int .u64 0, .int .u64 0, .int .u64 0, .int .u64 0, .int .u64 0, .int .u64 0, .int .u64 0] := ra3
  clear rm
  replace q := Zg q ba1; replace r81 := Zd r81 ba1; replace r91 := Zd r91 ba1
  have rm := ra3
  clear ra3
  refine Zq ?_; refine Zr ?_; refine Zm ?_
  have hO : WdsAt Wa2 gm 0 oddL := ⟨fun j x hj => by rw [Nat.zero_add]; exact RowL.cell (xs := ints .u64 oddL) rm (by simp [ints, hj]), rm.lt⟩
  clear rm
  refine Zy (R.call rfl rfl rfl) (of_Z gm 0 16 oddL Wa2 (hSF _ q) rfl (by decide) (by omega) hO rfl) ?_
  rintro e W4 ⟨v4, rfl, rd4, b4⟩
  refine ⟨_, rfl, ?_⟩; have zb4 := b4.size; have hO3 := hO.lt; replace q := Zu q b4; replace r81 := r81.up b4; replace r91 := r91.up b4
  clear hO b4
  obtain ⟨x4, c4, rfl, _⟩ := rd4.form rfl
  have rd4F := fun X (b : Below W4.heap.size W4 X) => rd4.up b
  clear rd4
  have hlt8 := r81.lt; have hlt9 := r91.lt; refine Zm ?_; refine Zx ?_; refine Zx ?_; have lb181 := r81.lt; have lb182 := r91.lt
  refine LL.alloc ([.int .i64 0, .int .i64 0, .int .i64 0, .slice none 0 0, .int .i64 0, .int .i64 0, .string { data := { toList := [] } }]) rfl rfl rfl rfl rfl ?_
  intro Wb184 gb185 egb185 rb186 zb187 bb183
  replace q := Zu q bb183; replace r81 := r81.up bb183; replace r91 := r91.up bb183
  refine LL.storeN (vs := [.int .i64 0, .int .i64 0, .int .i64 0, .slice x4 [].length c4, .int .i64 0, .int .i64 0, strV []]) rfl rfl rfl rfl rb186 (by exact Nat.le_of_ble_eq_true rfl) (ones_of rfl) rfl rfl ?_
  intro Wb239 rb240 bb238 zb241
  have hlbb238 := rb186.lt
  replace rb240 : RowL Wb239 _ 25 [.int .i64 0, .int .i64 0, .int .i64 0, .slice x4 [].length c4, .int .i64 0, .int .i64 0, strV []] := rb240
  clear rb186
  replace bb183 := Zg bb183 bb238; replace q := Zg q bb238; replace r81 := Zd r81 bb238; replace r91 := Zd r91 bb238
  have rb186 := rb240
  clear rb240
  refine Za ?_; refine Zq ?_; refine Zr ?_; refine Zm ?_
  refine LL.val (R.slice rfl rfl rfl rfl rfl (I.slToc rfl rfl (by omega))) rfl rfl rfl ?_
  have lb396 := r81.lt; have lb397 := r91.lt; have lb398 := rb186.lt
  (refine Zy (R.call rfl rfl rfl) (of_L _ 15 16 _ (by decide)) ?_; rintro e Wb395 ⟨rfl, bb392⟩; refine ⟨_, rfl, ?_⟩)
  have zbb392 := bb392.size; replace bb183 := Zu bb183 bb392; replace q := Zu q bb392; replace r81 := r81.up bb392; replace r91 := r91.up bb392; replace rb186 := rb186.up bb392; refine Zm ?_; refine Zx ?_; refine Zx ?_; have lb602 := r81.lt; have lb603 := r91.lt; have lb604 := rb186.lt
  refine LL.alloc ([.int .i64 0, .int .i64 0, .int .i64 0, .slice none 0 0, .int .i64 0, .int .i64 0, .string { data := { toList := [] } }]) rfl rfl rfl rfl rfl ?_
  intro Wb606 gb607 egb607 rb608 zb609 bb605
  replace bb392 := Zu bb392 bb605; replace bb183 := Zu bb183 bb605; replace q := Zu q bb605; replace r81 := r81.up bb605; replace r91 := r91.up bb605; replace rb186 := rb186.up bb605
  refine LL.storeN (vs := [.int .i64 0, .int .i64 0, .int .i64 0, .slice none 0 0, .int .i64 0, .int .i64 0, strV []]) rfl rfl rfl rfl rb608 (by exact Nat.le_of_ble_eq_true rfl) (ones_of rfl) rfl rfl ?_
  intro Wb666 rb667 bb665 zb668
  have hlbb665 := rb608.lt
  replace rb667 : RowL Wb666 _ 25 [.int .i64 0, .int .i64 0, .int .i64 0, .slice none 0 0, .int .i64 0, .int .i64 0, strV []] := rb667
  clear rb608
  replace bb605 := Zg bb605 bb665; replace bb392 := Zg bb392 bb665; replace bb183 := Zg bb183 bb665; replace q := Zg q bb665; replace r81 := Zd r81 bb665; replace r91 := Zd r91 bb665; replace rb186 := Zd rb186 bb665
  have rb608 := rb667
  clear rb667
  refine Za ?_; refine Zq ?_; refine Zr ?_; have lb739 := r81.lt; have lb740 := r91.lt; have lb741 := rb186.lt; have lb742 := rb608.lt
  (refine Zy (R.call rfl rfl rfl) (linked_T 258 3 _ (by decide) (by decide) (by decide)) ?_; rintro e Wb738 ⟨rfl, bb735⟩; refine ⟨_, rfl, ?_⟩)
  have zbb735 := bb735.size; replace bb605 := Zu bb605 bb735; replace bb392 := Zu bb392 bb735; replace bb183 := Zu bb183 bb735; replace q := Zu q bb735; replace r81 := r81.up bb735; replace r91 := r91.up bb735; replace rb186 := rb186.up bb735; replace rb608 := rb608.up bb735; refine Zm ?_; refine Zx ?_; refine Zx ?_; refine Za ?_; refine Za ?_; refine Zq ?_; refine Zr ?_; refine Zm ?_
  refine Zy (R.call rfl rfl rfl) (num_any _ _) ?_
  rintro e W' ⟨rfl, rfl⟩
  refine ⟨_, rfl, ?_⟩; refine Zm ?_
  refine Zy (R.call rfl rfl rfl) (num_any _ _) ?_
  rintro e W' ⟨rfl, rfl⟩
  refine ⟨_, rfl, ?_⟩
  refine LL.val (R.addIz (z := 0) rfl rfl rfl (by decide) (by decide)) rfl rfl rfl ?_
  refine Zm ?_
  refine Zy (R.call rfl rfl rfl) (num_any _ _) ?_
  rintro e W' ⟨rfl, rfl⟩
  refine ⟨_, rfl, ?_⟩
  refine LL.val (R.addIz (z := 0) rfl rfl rfl (by decide) (by decide)) rfl rfl rfl ?_
  refine Zm ?_
  refine Zy (R.call rfl rfl rfl) (num_any _ _) ?_
  rintro e W' ⟨rfl, rfl⟩
  refine ⟨_, rfl, ?_⟩
  refine LL.val (R.addIz (z := 0) rfl rfl rfl (by decide) (by decide)) rfl rfl rfl ?_
  refine ZeqT ?_; refine Zm ?_; refine Zm ?_; have lb1846 := r81.lt; have lb1847 := r91.lt; have lb1848 := rb186.lt; have lb1849 := rb608.lt
  refine LL.lit (e := 41) [Value.int IntKind.u64 258, Value.int IntKind.u64 0, Value.int IntKind.u64 20, Value.int IntKind.u64 1] 4 rfl rfl (fun _ => by kernel_rfl) rfl rfl ?_
  intro Wb1851 gb1852 egb1852 rb1853 zb1854 bb1850
  replace bb735 := Zu bb735 bb1850; replace bb605 := Zu bb605 bb1850; replace bb392 := Zu bb392 bb1850; replace bb183 := Zu bb183 bb1850; replace q := Zu q bb1850; replace r81 := r81.up bb1850; replace r91 := r91.up bb1850; replace rb186 := rb186.up bb1850; replace rb608 := rb608.up bb1850; have lb1883 := rb1853.lt; have lb1884 := r81.lt; have lb1885 := r91.lt; have lb1886 := rb186.lt; have lb1887 := rb608.lt
  (refine Zy (R.call rfl rfl rfl) (beg_R g8 _ 4 (inoW 2 1 0 [] 20 1 []) [258, 0, 20, 1] _ _ r81 (by assumption) rfl (inoW_len okD) (by decide) rfl begD) ?_; rintro e Wb1882 ⟨rfl, bb1879⟩; refine ⟨_, rfl, ?_⟩)
  have zbb1879 := bb1879.size; replace rb1853 := rb1853.up bb1879; replace bb1850 := Zu bb1850 bb1879; replace bb735 := Zu bb735 bb1879; replace bb605 := Zu bb605 bb1879; replace bb392 := Zu bb392 bb1879; replace bb183 := Zu bb183 bb1879; replace q := Zu q bb1879; replace r81 := r81.up bb1879; replace r91 := r91.up bb1879; replace rb186 := rb186.up bb1879; replace rb608 := rb608.up bb1879; refine Zp ?_
  refine Zm ?_; refine Zm ?_; refine Zn ?_; refine ZeqT ?_; refine Zp ?_; refine Zm ?_; refine Zm ?_; have lb2431 := rb1853.lt; have lb2432 := r81.lt; have lb2433 := r91.lt; have lb2434 := rb186.lt; have lb2435 := rb608.lt
  refine LL.lit (e := 41) [Value.int IntKind.u64 515, Value.int IntKind.u64 1, Value.int IntKind.u64 97] 3 rfl rfl (fun _ => by kernel_rfl) rfl rfl ?_
  intro Wb2437 gb2438 egb2438 rb2439 zb2440 bb2436
  replace bb1879 := Zu bb1879 bb2436; replace rb1853 := rb1853.up bb2436; replace bb1850 := Zu bb1850 bb2436; replace bb735 := Zu bb735 bb2436; replace bb605 := Zu bb605 bb2436; replace bb392 := Zu bb392 bb2436; replace bb183 := Zu bb183 bb2436; replace q := Zu q bb2436; replace r81 := r81.up bb2436; replace r91 := r91.up bb2436; replace rb186 := rb186.up bb2436; replace rb608 := rb608.up bb2436; have lb2484 := rb2439.lt
  have lb2485 := rb1853.lt; have lb2486 := r81.lt; have lb2487 := r91.lt; have lb2488 := rb186.lt; have lb2489 := rb608.lt
  (refine Zy (R.call rfl rfl rfl) (beg_R g9 _ 3 (inoW 3 2 0 [] 0 0 [97]) [515, 1, 97] _ _ r91 (by assumption) rfl (inoW_len okK) (by decide) rfl begK) ?_; rintro e Wb2483 ⟨rfl, bb2480⟩; refine ⟨_, rfl, ?_⟩)
  have zbb2480 := bb2480.size; replace rb2439 := rb2439.up bb2480; replace bb2436 := Zu bb2436 bb2480; replace bb1879 := Zu bb1879 bb2480; replace rb1853 := rb1853.up bb2480; replace bb1850 := Zu bb1850 bb2480; replace bb735 := Zu bb735 bb2480; replace bb605 := Zu bb605 bb2480; replace bb392 := Zu bb392 bb2480; replace bb183 := Zu bb183 bb2480; replace q := Zu q bb2480; replace r81 := r81.up bb2480
  replace r91 := r91.up bb2480; replace rb186 := rb186.up bb2480; replace rb608 := rb608.up bb2480; refine Zp ?_; refine Zm ?_; refine Zv rb186 ?_
  refine LL.val (R.buildV rfl rfl (v := .agg #[Value.int IntKind.i64 0, Value.int IntKind.i64 0, Value.int IntKind.i64 0, Value.slice none 0 0, Value.int IntKind.i64 0, Value.int IntKind.i64 0, Value.string { data := #[] }]) (fun _ => by kernel_rfl)) rfl rfl rfl ?_
  have lb2809 := rb2439.lt; have lb2810 := rb1853.lt; have lb2811 := r81.lt; have lb2812 := r91.lt; have lb2813 := rb186.lt; have lb2814 := rb608.lt
  (refine Zy (R.call rfl rfl rfl) (dinsame_any 0 0 0 _ [] 0 0 [] 0 0 0 _ [] 0 0 [] _ (rd4F _ (by assumption)) (ReadsT.nil _) (by decide) (by decide) true same0) ?_; rintro e Wb2808 ⟨rfl, bb2805⟩; refine ⟨_, rfl, ?_⟩)
  have zbb2805 := bb2805.size; replace bb2480 := Zu bb2480 bb2805; replace rb2439 := rb2439.up bb2805; replace bb2436 := Zu bb2436 bb2805; replace bb1879 := Zu bb1879 bb2805; replace rb1853 := rb1853.up bb2805; replace bb1850 := Zu bb1850 bb2805; replace bb735 := Zu bb735 bb2805; replace bb605 := Zu bb605 bb2805; replace bb392 := Zu bb392 bb2805; replace bb183 := Zu bb183 bb2805; replace q := Zu q bb2805
  replace r81 := r81.up bb2805; replace r91 := r91.up bb2805; replace rb186 := rb186.up bb2805; replace rb608 := rb608.up bb2805; refine Zp ?_; refine Zm ?_; refine Zm ?_
  refine Zy (R.call rfl rfl rfl) (num_any _ _) ?_
  rintro e W' ⟨rfl, rfl⟩
  refine ⟨_, rfl, ?_⟩; refine ZeqT ?_; refine Zp ?_; refine Zm ?_; refine Zm ?_; refine ZeqT ?_; refine Zp ?_; refine Za ?_; refine Zq ?_; refine ZR ?_; refine EE.ret _ rfl rfl ?_
  exact ⟨rfl, q⟩
def zeroOk (f d l : Bool) (z : Int) (n : Nat) (r p : Int) (t : Bs) : Prop := (f = true ∨ z = 0 ∧ n = 0) ∧ (d = true ∨ r = 0 ∧ p = 0) ∧ (l = true ∨ t = [])
theorem zero_T (k l z : Int) (x : Option Addr) (n c : Nat) (r p : Int) (t : Bs) (f d li : Bool) (w : World) (hn : n ≤ 9223372036854775807) (h : zeroOk f d li z n r p t) : Calls Tryd.prog 34 #[inV k l z (.slice x n c) r p t, .bool f, .bool d, .bool li] w fun e w' => e = .returned (.bool true) ∧ Below w.heap.size w w' := by
  have q := Below.refl w.heap.size w
  obtain ⟨hF, hD, hL⟩ := h
  cases f <;> cases d <;> cases li <;> simp only [true_or, false_or, Bool.false_eq_true, reduceCtorEq] at hF hD hL
  all_goals (try (obtain ⟨hz0, hn0⟩ := hF; subst hz0 hn0))
  all_goals (try (obtain ⟨hr0, hp0⟩ := hD; subst hr0 hp0))
  all_goals (try subst hL)
  · refine X.fn Tryd.func34 rfl (n := 45) rfl rfl ?_
    refine Zr ?_
    refine LL.box [.int .i64 k, .int .i64 l, .int .i64 0, .slice x 0 c, .int .i64 0, .int .i64 0, strV []] rfl rfl rfl rfl rfl ?_
    intro W2 g3 eg3 r4 z5 b1
    replace q := Zu q b1; refine Za ?_; refine Zq ?_; refine Zc ?_; refine Zr ?_; refine Zm ?_; refine Zt ?_; refine Zm ?_; refine Zf ?_; refine Zl r4 ?_; refine ZneF ?_; refine Zm ?_; refine Zf ?_; refine Zl r4 ?_; refine Zn ?_; refine ZneF ?_; refine Zp ?_; refine Zp ?_; refine Zm ?_; refine Zm ?_; refine Zt ?_; refine Zm ?_; refine Zf ?_; refine Zl r4 ?_; refine ZneF ?_; refine Zm ?_; refine Zf ?_
    refine Zl r4 ?_; refine ZneF ?_; refine Zp ?_; refine Zp ?_; refine Zp ?_; refine Zm ?_; refine Zm ?_; refine Zt ?_; refine Zm ?_; refine Zf ?_; refine Zl r4 ?_
    refine LL.val (R.neS (a := ([] : Bs)) (b := []) (c := false) rfl rfl rfl (by decide)) rfl rfl rfl ?_
    refine Zp ?_; refine Zp ?_; refine Zq ?_; refine ZN ?_; refine ZK ?_; refine ZT ?_; refine Zr ?_; refine Za ?_; refine Zq ?_; refine ZR ?_; refine EE.ret _ rfl rfl ?_
    exact ⟨rfl, q⟩
  · refine X.fn Tryd.func34 rfl (n := 45) rfl rfl ?_
    refine Zr ?_
    refine LL.box [.int .i64 k, .int .i64 l, .int .i64 0, .slice x 0 c, .int .i64 0, .int .i64 0, strV t] rfl rfl rfl rfl rfl ?_
    intro Wa2 ga3 ega3 ra4 za5 ba1
    replace q := Zu q ba1; refine Za ?_; refine Zq ?_; refine Zc ?_; refine Zr ?_; refine Zm ?_; refine Zt ?_; refine Zm ?_; refine Zf ?_; refine Zl ra4 ?_; refine ZneF ?_; refine Zm ?_; refine Zf ?_; refine Zl ra4 ?_; refine Zn ?_; refine ZneF ?_; refine Zp ?_; refine Zp ?_; refine Zm ?_; refine Zm ?_; refine Zt ?_; refine Zm ?_; refine Zf ?_; refine Zl ra4 ?_; refine ZneF ?_; refine Zm ?_; refine Zf ?_
    refine Zl ra4 ?_; refine ZneF ?_; refine Zp ?_; refine Zp ?_; refine Zp ?_; refine Zm ?_; refine Zm ?_; refine Zt ?_; refine Zm ?_; refine Zs ?_; refine Zs ?_; refine Zs ?_; refine Zp ?_; refine Zp ?_; refine Zq ?_; refine ZN ?_; refine ZK ?_; refine ZT ?_; refine Zr ?_; refine Za ?_; refine Zq ?_; refine ZR ?_; refine EE.ret _ rfl rfl ?_
    exact ⟨rfl, q⟩
  · refine X.fn Tryd.func34 rfl (n := 45) rfl rfl ?_
    refine Zr ?_
    refine LL.box [.int .i64 k, .int .i64 l, .int .i64 0, .slice x 0 c, .int .i64 r, .int .i64 p, strV []] rfl rfl rfl rfl rfl ?_
    intro Wb2 gb3 egb3 rb4 zb5 bb1
    replace q := Zu q bb1; refine Za ?_; refine Zq ?_; refine Zc ?_; refine Zr ?_; refine Zm ?_; refine Zt ?_; refine Zm ?_; refine Zf ?_; refine Zl rb4 ?_; refine ZneF ?_; refine Zm ?_; refine Zf ?_; refine Zl rb4 ?_; refine Zn ?_; refine ZneF ?_; refine Zp ?_; refine Zp ?_; refine Zm ?_; refine Zm ?_; refine Zt ?_; refine Zm ?_; refine Zs ?_; refine Zs ?_; refine Zs ?_; refine Zs ?_; refine Zs ?_
    refine Zs ?_; refine Zs ?_; refine Zs ?_; refine Zp ?_; refine Zp ?_; refine Zm ?_; refine Zm ?_; refine Zt ?_; refine Zm ?_; refine Zf ?_; refine Zl rb4 ?_
    refine LL.val (R.neS (a := ([] : Bs)) (b := []) (c := false) rfl rfl rfl (by decide)) rfl rfl rfl ?_
    refine Zp ?_; refine Zp ?_; refine Zq ?_; refine ZN ?_; refine ZK ?_; refine ZT ?_; refine Zr ?_; refine Za ?_; refine Zq ?_; refine ZR ?_; refine EE.ret _ rfl rfl ?_
    exact ⟨rfl, q⟩
  · refine X.fn Tryd.func34 rfl (n := 45) rfl rfl ?_
    refine Zr ?_
    refine LL.box [.int .i64 k, .int .i64 l, .int .i64 0, .slice x 0 c, .int .i64 r, .int .i64 p, strV t] rfl rfl rfl rfl rfl ?_
    intro Wc2 gc3 egc3 rc4 zc5 bc1
    replace q := Zu q bc1; refine Za ?_; refine Zq ?_; refine Zc ?_; refine Zr ?_; refine Zm ?_; refine Zt ?_; refine Zm ?_; refine Zf ?_; refine Zl rc4 ?_; refine ZneF ?_; refine Zm ?_; refine Zf ?_; refine Zl rc4 ?_; refine Zn ?_; refine ZneF ?_; refine Zp ?_; refine Zp ?_; refine Zm ?_; refine Zm ?_; refine Zt ?_; refine Zm ?_; refine Zs ?_; refine Zs ?_; refine Zs ?_; refine Zs ?_; refine Zs ?_
    refine Zs ?_; refine Zs ?_; refine Zs ?_; refine Zp ?_; refine Zp ?_; refine Zm ?_; refine Zm ?_; refine Zt ?_; refine Zm ?_; refine Zs ?_; refine Zs ?_; refine Zs ?_; refine Zp ?_; refine Zp ?_; refine Zq ?_; refine ZN ?_; refine ZK ?_; refine ZT ?_; refine Zr ?_; refine Za ?_; refine Zq ?_; refine ZR ?_; refine EE.ret _ rfl rfl ?_
    exact ⟨rfl, q⟩
  · refine X.fn Tryd.func34 rfl (n := 45) rfl rfl ?_
    refine Zr ?_
    refine LL.box [.int .i64 k, .int .i64 l, .int .i64 z, .slice x n c, .int .i64 0, .int .i64 0, strV []] rfl rfl rfl rfl rfl ?_
    intro Wd2 gd3 egd3 rd4 zd5 bd1
    replace q := Zu q bd1; refine Za ?_; refine Zq ?_; refine Zc ?_; refine Zr ?_; refine Zm ?_; refine Zt ?_; refine Zm ?_; refine Zs ?_; refine Zs ?_; refine Zs ?_; refine Zs ?_; refine Zs ?_; refine Zs ?_; refine Zs ?_; refine Zs ?_; refine Zs ?_; refine Zp ?_; refine Zm ?_; refine Zm ?_; refine Zt ?_; refine Zm ?_; refine Zf ?_; refine Zl rd4 ?_; refine ZneF ?_; refine Zm ?_; refine Zf ?_; refine Zl rd4 ?_
    refine ZneF ?_; refine Zp ?_; refine Zp ?_; refine Zp ?_; refine Zm ?_; refine Zm ?_; refine Zt ?_; refine Zm ?_; refine Zf ?_; refine Zl rd4 ?_
    refine LL.val (R.neS (a := ([] : Bs)) (b := []) (c := false) rfl rfl rfl (by decide)) rfl rfl rfl ?_
    refine Zp ?_; refine Zp ?_; refine Zq ?_; refine ZN ?_; refine ZK ?_; refine ZT ?_; refine Zr ?_; refine Za ?_; refine Zq ?_; refine ZR ?_; refine EE.ret _ rfl rfl ?_
    exact ⟨rfl, q⟩
  · refine X.fn Tryd.func34 rfl (n := 45) rfl rfl ?_
    refine Zr ?_
    refine LL.box [.int .i64 k, .int .i64 l, .int .i64 z, .slice x n c, .int .i64 0, .int .i64 0, strV t] rfl rfl rfl rfl rfl ?_
    intro We2 ge3 ege3 re4 ze5 be1
    replace q := Zu q be1; refine Za ?_; refine Zq ?_; refine Zc ?_; refine Zr ?_; refine Zm ?_; refine Zt ?_; refine Zm ?_; refine Zs ?_; refine Zs ?_; refine Zs ?_; refine Zs ?_; refine Zs ?_; refine Zs ?_; refine Zs ?_; refine Zs ?_; refine Zs ?_; refine Zp ?_; refine Zm ?_; refine Zm ?_; refine Zt ?_; refine Zm ?_; refine Zf ?_; refine Zl re4 ?_; refine ZneF ?_; refine Zm ?_; refine Zf ?_; refine Zl re4 ?_
    refine ZneF ?_; refine Zp ?_; refine Zp ?_; refine Zp ?_; refine Zm ?_; refine Zm ?_; refine Zt ?_; refine Zm ?_; refine Zs ?_; refine Zs ?_; refine Zs ?_; refine Zp ?_; refine Zp ?_; refine Zq ?_; refine ZN ?_; refine ZK ?_; refine ZT ?_; refine Zr ?_; refine Za ?_; refine Zq ?_; refine ZR ?_; refine EE.ret _ rfl rfl ?_
    exact ⟨rfl, q⟩
  · refine X.fn Tryd.func34 rfl (n := 45) rfl rfl ?_
    refine Zr ?_
    refine LL.box [.int .i64 k, .int .i64 l, .int .i64 z, .slice x n c, .int .i64 r, .int .i64 p, strV []] rfl rfl rfl rfl rfl ?_
    intro Wf2 gf3 egf3 rf4 zf5 bf1
    replace q := Zu q bf1; refine Za ?_; refine Zq ?_; refine Zc ?_; refine Zr ?_; refine Zm ?_; refine Zt ?_; refine Zm ?_; refine Zs ?_; refine Zs ?_; refine Zs ?_; refine Zs ?_; refine Zs ?_; refine Zs ?_; refine Zs ?_; refine Zs ?_; refine Zs ?_; refine Zp ?_; refine Zm ?_; refine Zm ?_; refine Zt ?_; refine Zm ?_; refine Zs ?_; refine Zs ?_; refine Zs ?_; refine Zs ?_; refine Zs ?_; refine Zs ?_
    refine Zs ?_; refine Zs ?_; refine Zp ?_; refine Zp ?_; refine Zm ?_; refine Zm ?_; refine Zt ?_; refine Zm ?_; refine Zf ?_; refine Zl rf4 ?_
    refine LL.val (R.neS (a := ([] : Bs)) (b := []) (c := false) rfl rfl rfl (by decide)) rfl rfl rfl ?_
    refine Zp ?_; refine Zp ?_; refine Zq ?_; refine ZN ?_; refine ZK ?_; refine ZT ?_; refine Zr ?_; refine Za ?_; refine Zq ?_; refine ZR ?_; refine EE.ret _ rfl rfl ?_
    exact ⟨rfl, q⟩
  · refine X.fn Tryd.func34 rfl (n := 45) rfl rfl ?_
    refine Zr ?_
    refine LL.box [.int .i64 k, .int .i64 l, .int .i64 z, .slice x n c, .int .i64 r, .int .i64 p, strV t] rfl rfl rfl rfl rfl ?_
    intro Wg2 gg3 egg3 rg4 zg5 bg1
    replace q := Zu q bg1; refine Za ?_; refine Zq ?_; refine Zc ?_; refine Zr ?_; refine Zm ?_; refine Zt ?_; refine Zm ?_; refine Zs ?_; refine Zs ?_; refine Zs ?_; refine Zs ?_; refine Zs ?_; refine Zs ?_; refine Zs ?_; refine Zs ?_; refine Zs ?_; refine Zp ?_; refine Zm ?_; refine Zm ?_; refine Zt ?_; refine Zm ?_; refine Zs ?_; refine Zs ?_; refine Zs ?_; refine Zs ?_; refine Zs ?_; refine Zs ?_
    refine Zs ?_; refine Zs ?_; refine Zp ?_; refine Zp ?_; refine Zm ?_; refine Zm ?_; refine Zt ?_; refine Zm ?_; refine Zs ?_; refine Zs ?_; refine Zs ?_; refine Zp ?_; refine Zp ?_; refine Zq ?_; refine ZN ?_; refine ZK ?_; refine ZT ?_; refine Zr ?_; refine Za ?_; refine Zq ?_; refine ZR ?_; refine EE.ret _ rfl rfl ?_
    exact ⟨rfl, q⟩
theorem zero_F (k l z : Int) (x : Option Addr) (n c : Nat) (r p : Int) (t : Bs) (f d li : Bool) (w : World) (hn : n ≤ 9223372036854775807) (h : ¬zeroOk f d li z n r p t) : Calls Tryd.prog 34 #[inV k l z (.slice x n c) r p t, .bool f, .bool d, .bool li] w fun e w' => e = .returned (.bool false) ∧ Below w.heap.size w w' := by
  have q := Below.refl w.heap.size w
  by_cases hF : f = true ∨ z = 0 ∧ n = 0
  · by_cases hD : d = true ∨ r = 0 ∧ p = 0
    · have hL : li = false ∧ t ≠ [] := by
        refine ⟨?_, fun e => h ⟨hF, hD, .inr e⟩⟩
        cases li with
        | false => rfl
        | true => exact absurd ⟨hF, hD, .inl rfl⟩ h
      obtain ⟨rfl, hL⟩ := hL
      clear h
      cases f <;> cases d <;> simp only [true_or, false_or, Bool.false_eq_true, reduceCtorEq] at hF hD
      all_goals (try (obtain ⟨hz0, hn0⟩ := hF; subst hz0 hn0))
      all_goals (try (obtain ⟨hr0, hp0⟩ := hD; subst hr0 hp0))
      · refine X.fn Tryd.func34 rfl (n := 45) rfl rfl ?_
        refine Zr ?_
        refine LL.box [.int .i64 k, .int .i64 l, .int .i64 0, .slice x 0 c, .int .i64 0, .int .i64 0, strV t] rfl rfl rfl rfl rfl ?_
        intro W2 g3 eg3 r4 z5 b1
        replace q := Zu q b1; refine Za ?_; refine Zq ?_; refine Zc ?_; refine Zr ?_; refine Zm ?_; refine Zt ?_; refine Zm ?_; refine Zf ?_; refine Zl r4 ?_; refine ZneF ?_; refine Zm ?_; refine Zf ?_; refine Zl r4 ?_; refine Zn ?_; refine ZneF ?_; refine Zp ?_; refine Zp ?_; refine Zm ?_; refine Zm ?_; refine Zt ?_; refine Zm ?_; refine Zf ?_; refine Zl r4 ?_; refine ZneF ?_; refine Zm ?_; refine Zf ?_
        refine Zl r4 ?_; refine ZneF ?_; refine Zp ?_; refine Zp ?_; refine Zp ?_; refine Zm ?_; refine Zm ?_; refine Zt ?_; refine Zm ?_; refine Zf ?_; refine Zl r4 ?_
        refine LL.val (R.neS (a := t) (b := []) (c := true) rfl rfl rfl (by simp [hL])) rfl rfl rfl ?_
        refine Zp ?_; refine Zp ?_; refine Zq ?_; refine ZY ?_; refine Zr ?_; refine Za ?_; refine Zq ?_; refine ZR ?_; refine EE.thenR ?_; refine EE.ret _ rfl rfl ?_
        exact ⟨rfl, q⟩
      · refine X.fn Tryd.func34 rfl (n := 45) rfl rfl ?_
        refine Zr ?_
        refine LL.box [.int .i64 k, .int .i64 l, .int .i64 0, .slice x 0 c, .int .i64 r, .int .i64 p, strV t] rfl rfl rfl rfl rfl ?_
        intro Wa2 ga3 ega3 ra4 za5 ba1
        replace q := Zu q ba1; refine Za ?_; refine Zq ?_; refine Zc ?_; refine Zr ?_; refine Zm ?_; refine Zt ?_; refine Zm ?_; refine Zf ?_; refine Zl ra4 ?_; refine ZneF ?_; refine Zm ?_; refine Zf ?_; refine Zl ra4 ?_; refine Zn ?_; refine ZneF ?_; refine Zp ?_; refine Zp ?_; refine Zm ?_; refine Zm ?_; refine Zt ?_; refine Zm ?_; refine Zs ?_; refine Zs ?_; refine Zs ?_; refine Zs ?_; refine Zs ?_
        refine Zs ?_; refine Zs ?_; refine Zs ?_; refine Zp ?_; refine Zp ?_; refine Zm ?_; refine Zm ?_; refine Zt ?_; refine Zm ?_; refine Zf ?_; refine Zl ra4 ?_
        refine LL.val (R.neS (a := t) (b := []) (c := true) rfl rfl rfl (by simp [hL])) rfl rfl rfl ?_
        refine Zp ?_; refine Zp ?_; refine Zq ?_; refine ZY ?_; refine Zr ?_; refine Za ?_; refine Zq ?_; refine ZR ?_; refine EE.thenR ?_; refine EE.ret _ rfl rfl ?_
        exact ⟨rfl, q⟩
      · refine X.fn Tryd.func34 rfl (n := 45) rfl rfl ?_
        refine Zr ?_
        refine LL.box [.int .i64 k, .int .i64 l, .int .i64 z, .slice x n c, .int .i64 0, .int .i64 0, strV t] rfl rfl rfl rfl rfl ?_
        intro Wb2 gb3 egb3 rb4 zb5 bb1
        replace q := Zu q bb1; refine Za ?_; refine Zq ?_; refine Zc ?_; refine Zr ?_; refine Zm ?_; refine Zt ?_; refine Zm ?_; refine Zs ?_; refine Zs ?_; refine Zs ?_; refine Zs ?_; refine Zs ?_; refine Zs ?_; refine Zs ?_; refine Zs ?_; refine Zs ?_; refine Zp ?_; refine Zm ?_; refine Zm ?_; refine Zt ?_; refine Zm ?_; refine Zf ?_; refine Zl rb4 ?_; refine ZneF ?_; refine Zm ?_; refine Zf ?_; refine Zl rb4 ?_
        refine ZneF ?_; refine Zp ?_; refine Zp ?_; refine Zp ?_; refine Zm ?_; refine Zm ?_; refine Zt ?_; refine Zm ?_; refine Zf ?_; refine Zl rb4 ?_
        refine LL.val (R.neS (a := t) (b := []) (c := true) rfl rfl rfl (by simp [hL])) rfl rfl rfl ?_
        refine Zp ?_; refine Zp ?_; refine Zq ?_; refine ZY ?_; refine Zr ?_; refine Za ?_; refine Zq ?_; refine ZR ?_; refine EE.thenR ?_; refine EE.ret _ rfl rfl ?_
        exact ⟨rfl, q⟩
      · refine X.fn Tryd.func34 rfl (n := 45) rfl rfl ?_
        refine Zr ?_
        refine LL.box [.int .i64 k, .int .i64 l, .int .i64 z, .slice x n c, .int .i64 r, .int .i64 p, strV t] rfl rfl rfl rfl rfl ?_
        intro Wc2 gc3 egc3 rc4 zc5 bc1
        replace q := Zu q bc1; refine Za ?_; refine Zq ?_; refine Zc ?_; refine Zr ?_; refine Zm ?_; refine Zt ?_; refine Zm ?_; refine Zs ?_; refine Zs ?_; refine Zs ?_; refine Zs ?_; refine Zs ?_; refine Zs ?_; refine Zs ?_; refine Zs ?_; refine Zs ?_; refine Zp ?_; refine Zm ?_; refine Zm ?_; refine Zt ?_; refine Zm ?_; refine Zs ?_; refine Zs ?_; refine Zs ?_; refine Zs ?_; refine Zs ?_; refine Zs ?_
        refine Zs ?_; refine Zs ?_; refine Zp ?_; refine Zp ?_; refine Zm ?_; refine Zm ?_; refine Zt ?_; refine Zm ?_; refine Zf ?_; refine Zl rc4 ?_
        refine LL.val (R.neS (a := t) (b := []) (c := true) rfl rfl rfl (by simp [hL])) rfl rfl rfl ?_
        refine Zp ?_; refine Zp ?_; refine Zq ?_; refine ZY ?_; refine Zr ?_; refine Za ?_; refine Zq ?_; refine ZR ?_; refine EE.thenR ?_; refine EE.ret _ rfl rfl ?_
        exact ⟨rfl, q⟩
    · have hd : d = false := by
        cases d with
        | false => rfl
        | true => exact absurd (.inl rfl) hD
      subst hd
      have hrp : ¬(r = 0 ∧ p = 0) := fun e => hD (.inr e)
      clear h hD
      cases f <;> simp only [true_or, false_or, Bool.false_eq_true, reduceCtorEq] at hF
      all_goals (try (obtain ⟨hz0, hn0⟩ := hF; subst hz0 hn0))
      · by_cases hr0 : r = 0
        · subst hr0
          have hp0 : p ≠ 0 := fun e => hrp ⟨rfl, e⟩
          refine X.fn Tryd.func34 rfl (n := 45) rfl rfl ?_
          refine Zr ?_
          refine LL.box [.int .i64 k, .int .i64 l, .int .i64 0, .slice x 0 c, .int .i64 0, .int .i64 p, strV t] rfl rfl rfl rfl rfl ?_
          intro Wd2 gd3 egd3 rd4 zd5 bd1
          replace q := Zu q bd1; refine Za ?_; refine Zq ?_; refine Zc ?_; refine Zr ?_; refine Zm ?_; refine Zt ?_; refine Zm ?_; refine Zf ?_; refine Zl rd4 ?_; refine ZneF ?_; refine Zm ?_; refine Zf ?_; refine Zl rd4 ?_; refine Zn ?_; refine ZneF ?_; refine Zp ?_; refine Zp ?_; refine Zm ?_; refine Zm ?_; refine Zt ?_; refine Zm ?_; refine Zf ?_; refine Zl rd4 ?_; refine ZneF ?_; refine Zm ?_; refine Zf ?_
          refine Zl rd4 ?_; refine ZneT ?_; refine Zp ?_; refine Zp ?_; refine Zp ?_; refine Zm ?_; refine Zs ?_; refine Zs ?_; refine Zs ?_; refine Zs ?_; refine Zs ?_; refine Zs ?_; refine Zs ?_; refine Zp ?_; refine Zq ?_; refine ZY ?_; refine Zr ?_; refine Za ?_; refine Zq ?_; refine ZR ?_; refine EE.thenR ?_; refine EE.ret _ rfl rfl ?_
          exact ⟨rfl, q⟩
        · refine X.fn Tryd.func34 rfl (n := 45) rfl rfl ?_
          refine Zr ?_
          refine LL.box [.int .i64 k, .int .i64 l, .int .i64 0, .slice x 0 c, .int .i64 r, .int .i64 p, strV t] rfl rfl rfl rfl rfl ?_
          intro We2 ge3 ege3 re4 ze5 be1
          replace q := Zu q be1; refine Za ?_; refine Zq ?_; refine Zc ?_; refine Zr ?_; refine Zm ?_; refine Zt ?_; refine Zm ?_; refine Zf ?_; refine Zl re4 ?_; refine ZneF ?_; refine Zm ?_; refine Zf ?_; refine Zl re4 ?_; refine Zn ?_; refine ZneF ?_; refine Zp ?_; refine Zp ?_; refine Zm ?_; refine Zm ?_; refine Zt ?_; refine Zm ?_; refine Zf ?_; refine Zl re4 ?_; refine ZneT ?_; refine Zm ?_; refine Zs ?_
          refine Zs ?_; refine Zs ?_; refine Zp ?_; refine Zp ?_; refine Zp ?_; refine Zm ?_; refine Zs ?_; refine Zs ?_; refine Zs ?_; refine Zs ?_; refine Zs ?_; refine Zs ?_; refine Zs ?_; refine Zp ?_; refine Zq ?_; refine ZY ?_; refine Zr ?_; refine Za ?_; refine Zq ?_; refine ZR ?_; refine EE.thenR ?_; refine EE.ret _ rfl rfl ?_
          exact ⟨rfl, q⟩
      · by_cases hr0 : r = 0
        · subst hr0
          have hp0 : p ≠ 0 := fun e => hrp ⟨rfl, e⟩
          refine X.fn Tryd.func34 rfl (n := 45) rfl rfl ?_
          refine Zr ?_
          refine LL.box [.int .i64 k, .int .i64 l, .int .i64 z, .slice x n c, .int .i64 0, .int .i64 p, strV t] rfl rfl rfl rfl rfl ?_
          intro Wf2 gf3 egf3 rf4 zf5 bf1
          replace q := Zu q bf1; refine Za ?_; refine Zq ?_; refine Zc ?_; refine Zr ?_; refine Zm ?_; refine Zt ?_; refine Zm ?_; refine Zs ?_; refine Zs ?_; refine Zs ?_; refine Zs ?_; refine Zs ?_; refine Zs ?_; refine Zs ?_; refine Zs ?_; refine Zs ?_; refine Zp ?_; refine Zm ?_; refine Zm ?_; refine Zt ?_; refine Zm ?_; refine Zf ?_; refine Zl rf4 ?_; refine ZneF ?_; refine Zm ?_; refine Zf ?_
          refine Zl rf4 ?_; refine ZneT ?_; refine Zp ?_; refine Zp ?_; refine Zp ?_; refine Zm ?_; refine Zs ?_; refine Zs ?_; refine Zs ?_; refine Zs ?_; refine Zs ?_; refine Zs ?_; refine Zs ?_; refine Zp ?_; refine Zq ?_; refine ZY ?_; refine Zr ?_; refine Za ?_; refine Zq ?_; refine ZR ?_; refine EE.thenR ?_; refine EE.ret _ rfl rfl ?_
          exact ⟨rfl, q⟩
        · refine X.fn Tryd.func34 rfl (n := 45) rfl rfl ?_
          refine Zr ?_
          refine LL.box [.int .i64 k, .int .i64 l, .int .i64 z, .slice x n c, .int .i64 r, .int .i64 p, strV t] rfl rfl rfl rfl rfl ?_
          intro Wg2 gg3 egg3 rg4 zg5 bg1
          replace q := Zu q bg1; refine Za ?_; refine Zq ?_; refine Zc ?_; refine Zr ?_; refine Zm ?_; refine Zt ?_; refine Zm ?_; refine Zs ?_; refine Zs ?_; refine Zs ?_; refine Zs ?_; refine Zs ?_; refine Zs ?_; refine Zs ?_; refine Zs ?_; refine Zs ?_; refine Zp ?_; refine Zm ?_; refine Zm ?_; refine Zt ?_; refine Zm ?_; refine Zf ?_; refine Zl rg4 ?_; refine ZneT ?_; refine Zm ?_; refine Zs ?_
          refine Zs ?_; refine Zs ?_; refine Zp ?_; refine Zp ?_; refine Zp ?_; refine Zm ?_; refine Zs ?_; refine Zs ?_; refine Zs ?_; refine Zs ?_; refine Zs ?_; refine Zs ?_; refine Zs ?_; refine Zp ?_; refine Zq ?_; refine ZY ?_; refine Zr ?_; refine Za ?_; refine Zq ?_; refine ZR ?_; refine EE.thenR ?_; refine EE.ret _ rfl rfl ?_
          exact ⟨rfl, q⟩
  · have hf : f = false := by
      cases f with
      | false => rfl
      | true => exact absurd (.inl rfl) hF
    subst hf
    have hzn : ¬(z = 0 ∧ n = 0) := fun e => hF (.inr e)
    clear h hF
    by_cases hz0 : z = 0
    · subst hz0
      have hn0 : n ≠ 0 := fun e => hzn ⟨rfl, e⟩
      refine X.fn Tryd.func34 rfl (n := 45) rfl rfl ?_
      refine Zr ?_
      refine LL.box [.int .i64 k, .int .i64 l, .int .i64 0, .slice x n c, .int .i64 r, .int .i64 p, strV t] rfl rfl rfl rfl rfl ?_
      intro Wh2 gh3 egh3 rh4 zh5 bh1
      replace q := Zu q bh1; refine Za ?_; refine Zq ?_; refine Zc ?_; refine Zr ?_; refine Zm ?_; refine Zt ?_; refine Zm ?_; refine Zf ?_; refine Zl rh4 ?_; refine ZneF ?_; refine Zm ?_; refine Zf ?_; refine Zl rh4 ?_; refine Zn ?_; refine ZneT ?_; refine Zp ?_; refine Zp ?_; refine Zm ?_; refine Zs ?_; refine Zs ?_; refine Zs ?_; refine Zs ?_; refine Zs ?_; refine Zs ?_; refine Zs ?_; refine Zs ?_
      refine Zs ?_; refine Zs ?_; refine Zs ?_; refine Zs ?_; refine Zp ?_; refine Zm ?_; refine Zs ?_; refine Zs ?_; refine Zs ?_; refine Zs ?_; refine Zs ?_; refine Zs ?_; refine Zs ?_; refine Zp ?_; refine Zq ?_; refine ZY ?_; refine Zr ?_; refine Za ?_; refine Zq ?_; refine ZR ?_; refine EE.thenR ?_; refine EE.ret _ rfl rfl ?_
      exact ⟨rfl, q⟩
    · refine X.fn Tryd.func34 rfl (n := 45) rfl rfl ?_
      refine Zr ?_
      refine LL.box [.int .i64 k, .int .i64 l, .int .i64 z, .slice x n c, .int .i64 r, .int .i64 p, strV t] rfl rfl rfl rfl rfl ?_
      intro Wi2 gi3 egi3 ri4 zi5 bi1
      replace q := Zu q bi1; refine Za ?_; refine Zq ?_; refine Zc ?_; refine Zr ?_; refine Zm ?_; refine Zt ?_; refine Zm ?_; refine Zf ?_; refine Zl ri4 ?_; refine ZneT ?_; refine Zm ?_; refine Zs ?_; refine Zs ?_; refine Zs ?_; refine Zs ?_; refine Zp ?_; refine Zp ?_; refine Zm ?_; refine Zs ?_; refine Zs ?_; refine Zs ?_; refine Zs ?_; refine Zs ?_; refine Zs ?_; refine Zs ?_; refine Zs ?_; refine Zs ?_
      refine Zs ?_; refine Zs ?_; refine Zs ?_; refine Zp ?_; refine Zm ?_; refine Zs ?_; refine Zs ?_; refine Zs ?_; refine Zs ?_; refine Zs ?_; refine Zs ?_; refine Zs ?_; refine Zp ?_; refine Zq ?_; refine ZY ?_; refine Zr ?_; refine Za ?_; refine Zq ?_; refine ZR ?_; refine EE.thenR ?_; refine EE.ret _ rfl rfl ?_
      exact ⟨rfl, q⟩
theorem plain_any (t : Bs) (w : World) (ht : t.length ≤ 9223372036854775807) (b : Bool) (hb : b = decide ((0 : UInt8) ∉ t)) : Calls Tryd.prog 36 #[strV t] w fun e w' => e = .returned (.bool b) ∧ w = w' := by
  refine X.fn Tryd.func36 rfl (n := 14) rfl rfl ?_
  refine Zr ?_; refine Za ?_; refine Zq ?_; refine Zc ?_; refine Zr ?_; refine Za ?_; refine Zq ?_; refine CC.block ?_
  refine CC.loop (α := Nat) (fun i => [(0, strV t), (2, .bool false), (3, .int .i64 (i : Int))]) (fun i wr => i ≤ t.length ∧ (∀ j, j < i → t[j]? ≠ some 0) ∧ w = wr) (fun i => t.length - i) 0 ⟨rfl, rfl, rfl, trivial⟩ ⟨by omega, fun j h => by omega, rfl⟩ ?_
  rintro i wr ⟨hi, hno, rfl⟩
  by_cases hlt : i < t.length
  · obtain ⟨cc, hcc⟩ : ∃ cc, t[i]? = some cc := ⟨_, List.getElem?_eq_getElem hlt⟩
    by_cases hz : cc = 0
    · have hmem : (0 : UInt8) ∈ t := hz ▸ List.mem_of_getElem? hcc
      have hcn : cc.toNat = 0 := by rw [hz]; rfl
      rw [decide_eq_false (fun h => h hmem)] at hb
      subst hb
      refine Zc ?_; refine Zr ?_; refine Zm ?_; refine Zm ?_
      refine LL.val (R.lenS rfl rfl rfl rfl) rfl rfl rfl ?_
      refine ZltT ?_; refine Zq ?_; refine ZY ?_; refine ZK ?_; refine ZT ?_; refine Zc ?_; refine CC.block ?_; refine Zr ?_; refine Zm ?_; refine Zm ?_
      refine LL.val (R.ixS rfl rfl rfl rfl hcc) rfl rfl rfl ?_
      refine ZeqT ?_; refine Zq ?_; refine ZY ?_; refine Zr ?_; refine Za ?_; refine Zq ?_; refine ZR ?_; refine EE.inR ?_; refine EE.thenR ?_; refine EE.thenR ?_; refine EE.inR ?_; refine EE.thenR ?_; refine EE.ret _ rfl rfl ?_
      exact ⟨rfl, rfl⟩
    · have hcn : cc.toNat ≠ 0 := fun e => hz (UInt8.toNat_inj.1 e)
      refine Zc ?_; refine Zr ?_; refine Zm ?_; refine Zm ?_
      refine LL.val (R.lenS rfl rfl rfl rfl) rfl rfl rfl ?_
      refine ZltT ?_; refine Zq ?_; refine ZY ?_; refine ZK ?_; refine ZT ?_; refine Zc ?_; refine CC.block ?_; refine Zr ?_; refine Zm ?_; refine Zm ?_
      refine LL.val (R.ixS rfl rfl rfl rfl hcc) rfl rfl rfl ?_
      refine ZeqF ?_; refine Zq ?_; refine ZN ?_; refine ZK ?_; refine EE.inN ?_; refine ZT ?_; refine CC.region ?_; refine Zm ?_
      refine LL.val (R.addNc rfl rfl rfl rfl (by omega)) rfl rfl rfl ?_
      refine Za ?_; refine ZL ?_
      exact EE.round (i + 1) ⟨rfl, rfl, rfl, trivial⟩ ⟨by omega, fun j hj e => by rcases (by omega : j < i ∨ j = i) with h | rfl; exact hno j h e; rw [hcc] at e; exact hz (Option.some.inj e), rfl⟩ (by omega)
  · have hmem : (0 : UInt8) ∉ t := fun h => by
      obtain ⟨j, hj⟩ := List.getElem?_of_mem h
      have := (List.getElem?_eq_some_iff.1 hj).1
      exact hno j (by omega) hj
    rw [decide_eq_true hmem] at hb
    subst hb
    refine Zc ?_; refine Zr ?_; refine Zm ?_; refine Zm ?_
    refine LL.val (R.lenS rfl rfl rfl rfl) rfl rfl rfl ?_
    refine ZltF ?_; refine Zq ?_; refine ZN ?_; refine CC.exit ?_; refine EE.thenX ?_; refine EE.thenX ?_; refine EE.inX ?_; refine ZT ?_; refine Zr ?_; refine Za ?_; refine Zq ?_; refine ZR ?_; refine EE.ret _ rfl rfl ?_
    exact ⟨rfl, rfl⟩
theorem rcheck_0T (l : Int) (x : Option Addr) (c : Nat) (w : World) (hl : l = 0) : Calls Tryd.prog 15 #[inV 0 l 0 (.slice x 0 c) 0 0 []] w fun e w' => e = .returned (.int .i64 0) ∧ Below w.heap.size w w' := by
  have q := Below.refl w.heap.size w
  subst hl
  have hz0 := fun W => zero_T 0 0 0 x 0 c 0 0 [] false false false W (by omega) ⟨.inr ⟨rfl, rfl⟩, .inr ⟨rfl, rfl⟩, .inr rfl⟩
  refine X.fn Tryd.func15 rfl (n := 130) rfl rfl ?_
  refine Zr ?_
  refine LL.box [.int .i64 0, .int .i64 0, .int .i64 0, .slice x 0 c, .int .i64 0, .int .i64 0, strV []] rfl rfl rfl rfl rfl ?_
  intro W2 g3 eg3 r4 z5 b1
  replace q := Zu q b1; refine Za ?_; refine Zq ?_; refine Zr ?_; refine Zf ?_; refine Zl r4 ?_; refine Za ?_; refine Zq ?_; refine Zr ?_; refine Zm ?_; refine ZgeT ?_; refine Zm ?_; refine Zm ?_; refine ZleT ?_; refine Zp ?_; refine Zm ?_; refine Zf ?_; refine Zl r4 ?_; refine ZgeT ?_; refine Zp ?_; refine Zm ?_; refine Zf ?_; refine Zl r4 ?_; refine ZleT ?_; refine Zp ?_; refine Zm ?_; refine Zv r4 ?_
  refine Zm ?_; refine ZeqF ?_; refine Zm ?_; refine ZeqF ?_; refine Zm ?_; refine ZeqF ?_
  refine Zy (R.call rfl rfl rfl) (hz0 _) ?_
  rintro e W7 ⟨rfl, b6⟩
  refine ⟨_, rfl, ?_⟩; have zb6 := b6.size; replace r4 := r4.up b6; replace b1 := Zu b1 b6; replace q := Zu q b6; refine Zp ?_; refine Za ?_; refine Zq ?_; refine Zc ?_; refine Zr ?_; refine Zm ?_; refine Zq ?_; refine CC.block ?_; refine Zr ?_; refine ZeqT ?_; refine Za ?_; refine Zq ?_; refine ZY ?_; refine CC.region ?_; refine Zm ?_; refine Zm ?_; refine Zf ?_; refine Zl r4 ?_; refine ZeqT ?_; refine Zp ?_
  refine Za ?_; refine ZL ?_; refine EE.inN ?_; refine ZT ?_; refine Zc ?_; refine Zr ?_; refine Zm ?_; refine Zt ?_; refine Zq ?_; refine ZN ?_; refine ZK ?_; refine ZT ?_; refine Zr ?_; refine Za ?_; refine Zq ?_; refine ZR ?_; refine EE.ret _ rfl rfl ?_
  exact ⟨rfl, q⟩
theorem rcheck_2T (l : Int) (x : Option Addr) (c : Nat) (r p : Int) (w : World) (hl : 0 ≤ l ∧ l ≤ 65535) (hr : 1 ≤ r ∧ r ≤ 2047) (hp : 1 ≤ p ∧ p ≤ 256) : Calls Tryd.prog 15 #[inV 2 l 0 (.slice x 0 c) r p []] w fun e w' => e = .returned (.int .i64 0) ∧ Below w.heap.size w w' := by
  have q := Below.refl w.heap.size w
  have hz0 := fun W => zero_T 2 l 0 x 0 c r p [] false true false W (by omega) ⟨.inr ⟨rfl, rfl⟩, .inl rfl, .inr rfl⟩
  refine X.fn Tryd.func15 rfl (n := 130) rfl rfl ?_
  refine Zr ?_
  refine LL.box [.int .i64 2, .int .i64 l, .int .i64 0, .slice x 0 c, .int .i64 r, .int .i64 p, strV []] rfl rfl rfl rfl rfl ?_
  intro W2 g3 eg3 r4 z5 b1
  replace q := Zu q b1; refine Za ?_; refine Zq ?_; refine Zr ?_; refine Zf ?_; refine Zl r4 ?_; refine Za ?_; refine Zq ?_; refine Zr ?_; refine Zm ?_; refine ZgeT ?_; refine Zm ?_; refine Zm ?_; refine ZleT ?_; refine Zp ?_; refine Zm ?_; refine Zf ?_; refine Zl r4 ?_; refine ZgeT ?_; refine Zp ?_; refine Zm ?_; refine Zf ?_; refine Zl r4 ?_; refine ZleT ?_; refine Zp ?_; refine Zm ?_; refine Zv r4 ?_
  refine Zm ?_; refine ZeqF ?_; refine Zm ?_; refine ZeqT ?_; refine Zm ?_; refine ZeqF ?_
  refine Zy (R.call rfl rfl rfl) (hz0 _) ?_
  rintro e W7 ⟨rfl, b6⟩
  refine ⟨_, rfl, ?_⟩; have zb6 := b6.size; replace r4 := r4.up b6; replace b1 := Zu b1 b6; replace q := Zu q b6; refine Zp ?_; refine Za ?_; refine Zq ?_; refine Zc ?_; refine Zr ?_; refine Zm ?_; refine Zq ?_; refine CC.block ?_; refine Zr ?_; refine ZeqF ?_; refine Za ?_; refine Zq ?_; refine ZN ?_; refine Zr ?_; refine ZeqF ?_; refine Za ?_; refine Zq ?_; refine ZN ?_; refine Zr ?_; refine ZeqT ?_
  refine Za ?_; refine Zq ?_; refine ZY ?_; refine CC.region ?_; refine Zm ?_; refine Zm ?_; refine Zf ?_; refine Zl r4 ?_; refine ZgeT ?_; refine Zp ?_; refine Zm ?_; refine Zf ?_; refine Zl r4 ?_; refine ZleT ?_; refine Zp ?_; refine Zm ?_; refine Zf ?_; refine Zl r4 ?_; refine ZgeT ?_; refine Zp ?_; refine Zm ?_; refine Zf ?_; refine Zl r4 ?_; refine ZleT ?_; refine Zp ?_; refine Za ?_; refine ZL ?_
  refine EE.inN ?_; refine ZT ?_; refine Zc ?_; refine Zr ?_; refine Zm ?_; refine Zt ?_; refine Zq ?_; refine ZN ?_; refine ZK ?_; refine ZT ?_; refine Zr ?_; refine Za ?_; refine Zq ?_; refine ZR ?_; refine EE.ret _ rfl rfl ?_
  exact ⟨rfl, q⟩
theorem rcheck_3T (l : Int) (x : Option Addr) (c : Nat) (t : Bs) (w : World) (hl : 0 ≤ l ∧ l ≤ 65535) (ht : 1 ≤ t.length ∧ t.length ≤ 112) (h0 : (0 : UInt8) ∉ t) : Calls Tryd.prog 15 #[inV 3 l 0 (.slice x 0 c) 0 0 t] w fun e w' => e = .returned (.int .i64 0) ∧ Below w.heap.size w w' := by
  have q := Below.refl w.heap.size w
  have hz0 := fun W => zero_T 3 l 0 x 0 c 0 0 t false false true W (by omega) ⟨.inr ⟨rfl, rfl⟩, .inr ⟨rfl, rfl⟩, .inl rfl⟩
  have hpl := fun W => plain_any t W (by omega) true (decide_eq_true h0).symm
  refine X.fn Tryd.func15 rfl (n := 130) rfl rfl ?_
  refine Zr ?_
  refine LL.box [.int .i64 3, .int .i64 l, .int .i64 0, .slice x 0 c, .int .i64 0, .int .i64 0, strV t] rfl rfl rfl rfl rfl ?_
  intro W2 g3 eg3 r4 z5 b1
  replace q := Zu q b1; refine Za ?_; refine Zq ?_; refine Zr ?_; refine Zf ?_; refine Zl r4 ?_; refine Za ?_; refine Zq ?_; refine Zr ?_; refine Zm ?_; refine ZgeT ?_; refine Zm ?_; refine Zm ?_; refine ZleT ?_; refine Zp ?_; refine Zm ?_; refine Zf ?_; refine Zl r4 ?_; refine ZgeT ?_; refine Zp ?_; refine Zm ?_; refine Zf ?_; refine Zl r4 ?_; refine ZleT ?_; refine Zp ?_; refine Zm ?_; refine Zv r4 ?_
  refine Zm ?_; refine ZeqF ?_; refine Zm ?_; refine ZeqF ?_; refine Zm ?_; refine ZeqT ?_
  refine Zy (R.call rfl rfl rfl) (hz0 _) ?_
  rintro e W7 ⟨rfl, b6⟩
  refine ⟨_, rfl, ?_⟩; have zb6 := b6.size; replace r4 := r4.up b6; replace b1 := Zu b1 b6; replace q := Zu q b6; refine Zp ?_; refine Za ?_; refine Zq ?_; refine Zc ?_; refine Zr ?_; refine Zm ?_; refine Zq ?_; refine CC.block ?_; refine Zr ?_; refine ZeqF ?_; refine Za ?_; refine Zq ?_; refine ZN ?_; refine Zr ?_; refine ZeqF ?_; refine Za ?_; refine Zq ?_; refine ZN ?_; refine Zr ?_; refine ZeqF ?_
  refine Za ?_; refine Zq ?_; refine ZN ?_; refine Zr ?_; refine ZeqT ?_; refine Za ?_; refine Zq ?_; refine ZY ?_; refine CC.region ?_; refine Zm ?_; refine Zm ?_; refine Zf ?_; refine Zl r4 ?_
  refine LL.val (R.lenS rfl rfl rfl rfl) rfl rfl rfl ?_
  refine ZgeT ?_; refine Zp ?_; refine Zm ?_; refine Zf ?_; refine Zl r4 ?_
  refine LL.val (R.lenS rfl rfl rfl rfl) rfl rfl rfl ?_
  refine ZleT ?_; refine Zp ?_; refine Zm ?_; refine Zf ?_; refine Zl r4 ?_
  refine Zy (R.call rfl rfl rfl) (hpl _) ?_
  rintro e W' ⟨rfl, rfl⟩
  refine ⟨_, rfl, ?_⟩; refine Zp ?_; refine Za ?_; refine ZL ?_; refine EE.inN ?_; refine ZT ?_; refine Zc ?_; refine Zr ?_; refine Zm ?_; refine Zt ?_; refine Zq ?_; refine ZN ?_; refine ZK ?_; refine ZT ?_; refine Zr ?_; refine Za ?_; refine Zq ?_; refine ZR ?_; refine EE.ret _ rfl rfl ?_
  exact ⟨rfl, q⟩
theorem rcheck_kF (k l z : Int) (x : Option Addr) (n c : Nat) (r p : Int) (t : Bs) (w : World) (hk : k < 0 ∨ 3 < k) : Calls Tryd.prog 15 #[inV k l z (.slice x n c) r p t] w fun e w' => e = .returned (.int .i64 240) ∧ Below w.heap.size w w' := by
  have q := Below.refl w.heap.size w
  by_cases hA : k < 0
  · refine X.fn Tryd.func15 rfl (n := 130) rfl rfl ?_
    refine Zr ?_
    refine LL.box [.int .i64 k, .int .i64 l, .int .i64 z, .slice x n c, .int .i64 r, .int .i64 p, strV t] rfl rfl rfl rfl rfl ?_
    intro W2 g3 eg3 r4 z5 b1
    replace q := Zu q b1; refine Za ?_; refine Zq ?_; refine Zr ?_; refine Zf ?_; refine Zl r4 ?_; refine Za ?_; refine Zq ?_; refine Zr ?_; refine Zm ?_; refine ZgeF ?_; refine Zm ?_; refine Zs ?_; refine Zs ?_; refine Zp ?_; refine Zm ?_; refine Zs ?_; refine Zs ?_; refine Zs ?_; refine Zp ?_; refine Zm ?_; refine Zs ?_; refine Zs ?_; refine Zs ?_; refine Zp ?_; refine Zm ?_; refine Zs ?_; refine Zs ?_
    refine Zs ?_; refine Zs ?_; refine Zs ?_; refine Zs ?_; refine Zs ?_; refine Zs ?_; refine Zp ?_; refine Za ?_; refine Zq ?_; refine Zc ?_; refine Zr ?_; refine Zm ?_; refine Zq ?_; refine CC.block ?_; refine Zr ?_; refine ZeqF ?_; refine Za ?_; refine Zq ?_; refine ZN ?_; refine Zr ?_; refine ZeqF ?_; refine Za ?_; refine Zq ?_; refine ZN ?_; refine Zr ?_; refine ZeqF ?_; refine Za ?_; refine Zq ?_
    refine ZN ?_; refine Zr ?_; refine ZeqF ?_; refine Za ?_; refine Zq ?_; refine ZN ?_; refine ZK ?_; refine EE.inN ?_; refine ZT ?_; refine Zc ?_; refine Zr ?_; refine Zm ?_; refine Zt ?_; refine Zq ?_; refine ZY ?_; refine Zr ?_; refine Za ?_; refine Zq ?_; refine ZR ?_; refine EE.thenR ?_; refine EE.ret _ rfl rfl ?_
    exact ⟨rfl, q⟩
  · refine X.fn Tryd.func15 rfl (n := 130) rfl rfl ?_
    refine Zr ?_
    refine LL.box [.int .i64 k, .int .i64 l, .int .i64 z, .slice x n c, .int .i64 r, .int .i64 p, strV t] rfl rfl rfl rfl rfl ?_
    intro Wa2 ga3 ega3 ra4 za5 ba1
    replace q := Zu q ba1; refine Za ?_; refine Zq ?_; refine Zr ?_; refine Zf ?_; refine Zl ra4 ?_; refine Za ?_; refine Zq ?_; refine Zr ?_; refine Zm ?_; refine ZgeT ?_; refine Zm ?_; refine Zm ?_; refine ZleF ?_; refine Zp ?_; refine Zm ?_; refine Zs ?_; refine Zs ?_; refine Zs ?_; refine Zp ?_; refine Zm ?_; refine Zs ?_; refine Zs ?_; refine Zs ?_; refine Zp ?_; refine Zm ?_; refine Zs ?_; refine Zs ?_
    refine Zs ?_; refine Zs ?_; refine Zs ?_; refine Zs ?_; refine Zs ?_; refine Zs ?_; refine Zp ?_; refine Za ?_; refine Zq ?_; refine Zc ?_; refine Zr ?_; refine Zm ?_; refine Zq ?_; refine CC.block ?_; refine Zr ?_; refine ZeqF ?_; refine Za ?_; refine Zq ?_; refine ZN ?_; refine Zr ?_; refine ZeqF ?_; refine Za ?_; refine Zq ?_; refine ZN ?_; refine Zr ?_; refine ZeqF ?_; refine Za ?_; refine Zq ?_
    refine ZN ?_; refine Zr ?_; refine ZeqF ?_; refine Za ?_; refine Zq ?_; refine ZN ?_; refine ZK ?_; refine EE.inN ?_; refine ZT ?_; refine Zc ?_; refine Zr ?_; refine Zm ?_; refine Zt ?_; refine Zq ?_; refine ZY ?_; refine Zr ?_; refine Za ?_; refine Zq ?_; refine ZR ?_; refine EE.thenR ?_; refine EE.ret _ rfl rfl ?_
    exact ⟨rfl, q⟩
theorem rcheck_0F (l z : Int) (x : Option Addr) (n c : Nat) (r p : Int) (t : Bs) (w : World) (hn : n ≤ 9223372036854775807) (h : ¬(l = 0 ∧ zeroOk false false false z n r p t)) : Calls Tryd.prog 15 #[inV 0 l z (.slice x n c) r p t] w fun e w' => e = .returned (.int .i64 240) ∧ Below w.heap.size w w' := by
  have q := Below.refl w.heap.size w
  by_cases hA : l < 0
  · refine X.fn Tryd.func15 rfl (n := 130) rfl rfl ?_
    refine Zr ?_
    refine LL.box [.int .i64 0, .int .i64 l, .int .i64 z, .slice x n c, .int .i64 r, .int .i64 p, strV t] rfl rfl rfl rfl rfl ?_
    intro W2 g3 eg3 r4 z5 b1
    replace q := Zu q b1; refine Za ?_; refine Zq ?_; refine Zr ?_; refine Zf ?_; refine Zl r4 ?_; refine Za ?_; refine Zq ?_; refine Zr ?_; refine Zm ?_; refine ZgeT ?_; refine Zm ?_; refine Zm ?_; refine ZleT ?_; refine Zp ?_; refine Zm ?_; refine Zf ?_; refine Zl r4 ?_; refine ZgeF ?_; refine Zp ?_; refine Zm ?_; refine Zs ?_; refine Zs ?_; refine Zs ?_; refine Zp ?_; refine Zm ?_; refine Zs ?_
    refine Zs ?_; refine Zs ?_; refine Zs ?_; refine Zs ?_; refine Zs ?_; refine Zs ?_; refine Zs ?_; refine Zp ?_; refine Za ?_; refine Zq ?_; refine Zc ?_; refine Zr ?_; refine Zm ?_; refine Zq ?_; refine CC.block ?_; refine Zr ?_; refine ZeqT ?_; refine Za ?_; refine Zq ?_; refine ZY ?_; refine CC.region ?_; refine Zm ?_; refine Zm ?_; refine Zs ?_; refine Zs ?_; refine Zs ?_; refine Zp ?_; refine Za ?_
    refine ZL ?_; refine EE.inN ?_; refine ZT ?_; refine Zc ?_; refine Zr ?_; refine Zm ?_; refine Zt ?_; refine Zq ?_; refine ZY ?_; refine Zr ?_; refine Za ?_; refine Zq ?_; refine ZR ?_; refine EE.thenR ?_; refine EE.ret _ rfl rfl ?_
    exact ⟨rfl, q⟩
  by_cases hB : 65535 < l
  · refine X.fn Tryd.func15 rfl (n := 130) rfl rfl ?_
    refine Zr ?_
    refine LL.box [.int .i64 0, .int .i64 l, .int .i64 z, .slice x n c, .int .i64 r, .int .i64 p, strV t] rfl rfl rfl rfl rfl ?_
    intro Wa2 ga3 ega3 ra4 za5 ba1
    replace q := Zu q ba1; refine Za ?_; refine Zq ?_; refine Zr ?_; refine Zf ?_; refine Zl ra4 ?_; refine Za ?_; refine Zq ?_; refine Zr ?_; refine Zm ?_; refine ZgeT ?_; refine Zm ?_; refine Zm ?_; refine ZleT ?_; refine Zp ?_; refine Zm ?_; refine Zf ?_; refine Zl ra4 ?_; refine ZgeT ?_; refine Zp ?_; refine Zm ?_; refine Zf ?_; refine Zl ra4 ?_; refine ZleF ?_; refine Zp ?_; refine Zm ?_; refine Zs ?_
    refine Zs ?_; refine Zs ?_; refine Zs ?_; refine Zs ?_; refine Zs ?_; refine Zs ?_; refine Zs ?_; refine Zp ?_; refine Za ?_; refine Zq ?_; refine Zc ?_; refine Zr ?_; refine Zm ?_; refine Zq ?_; refine CC.block ?_; refine Zr ?_; refine ZeqT ?_; refine Za ?_; refine Zq ?_; refine ZY ?_; refine CC.region ?_; refine Zm ?_; refine Zm ?_; refine Zs ?_; refine Zs ?_; refine Zs ?_; refine Zp ?_; refine Za ?_
    refine ZL ?_; refine EE.inN ?_; refine ZT ?_; refine Zc ?_; refine Zr ?_; refine Zm ?_; refine Zt ?_; refine Zq ?_; refine ZY ?_; refine Zr ?_; refine Za ?_; refine Zq ?_; refine ZR ?_; refine EE.thenR ?_; refine EE.ret _ rfl rfl ?_
    exact ⟨rfl, q⟩
  by_cases hZ : zeroOk false false false z n r p t
  · have hz0 := fun W => zero_T 0 l z x n c r p t false false false W hn hZ
    have hl : l ≠ 0 := fun e => h ⟨e, hZ⟩
    clear h hZ
    refine X.fn Tryd.func15 rfl (n := 130) rfl rfl ?_
    refine Zr ?_
    refine LL.box [.int .i64 0, .int .i64 l, .int .i64 z, .slice x n c, .int .i64 r, .int .i64 p, strV t] rfl rfl rfl rfl rfl ?_
    intro Wb2 gb3 egb3 rb4 zb5 bb1
    replace q := Zu q bb1; refine Za ?_; refine Zq ?_; refine Zr ?_; refine Zf ?_; refine Zl rb4 ?_; refine Za ?_; refine Zq ?_; refine Zr ?_; refine Zm ?_; refine ZgeT ?_; refine Zm ?_; refine Zm ?_; refine ZleT ?_; refine Zp ?_; refine Zm ?_; refine Zf ?_; refine Zl rb4 ?_; refine ZgeT ?_; refine Zp ?_; refine Zm ?_; refine Zf ?_; refine Zl rb4 ?_; refine ZleT ?_; refine Zp ?_; refine Zm ?_; refine Zv rb4 ?_
    refine Zm ?_; refine ZeqF ?_; refine Zm ?_; refine ZeqF ?_; refine Zm ?_; refine ZeqF ?_
    refine Zy (R.call rfl rfl rfl) (hz0 _) ?_
    rintro e Wb7 ⟨rfl, bb6⟩
    refine ⟨_, rfl, ?_⟩; have zbb6 := bb6.size; replace rb4 := rb4.up bb6; replace bb1 := Zu bb1 bb6; replace q := Zu q bb6; refine Zp ?_; refine Za ?_; refine Zq ?_; refine Zc ?_; refine Zr ?_; refine Zm ?_; refine Zq ?_; refine CC.block ?_; refine Zr ?_; refine ZeqT ?_; refine Za ?_; refine Zq ?_; refine ZY ?_; refine CC.region ?_; refine Zm ?_; refine Zm ?_; refine Zf ?_; refine Zl rb4 ?_; refine ZeqF ?_
    refine Zp ?_; refine Za ?_; refine ZL ?_; refine EE.inN ?_; refine ZT ?_; refine Zc ?_; refine Zr ?_; refine Zm ?_; refine Zt ?_; refine Zq ?_; refine ZY ?_; refine Zr ?_; refine Za ?_; refine Zq ?_; refine ZR ?_; refine EE.thenR ?_; refine EE.ret _ rfl rfl ?_
    exact ⟨rfl, q⟩
  · have hz0 := fun W => zero_F 0 l z x n c r p t false false false W hn hZ
    clear h hZ
    refine X.fn Tryd.func15 rfl (n := 130) rfl rfl ?_
    refine Zr ?_
    refine LL.box [.int .i64 0, .int .i64 l, .int .i64 z, .slice x n c, .int .i64 r, .int .i64 p, strV t] rfl rfl rfl rfl rfl ?_
    intro Wc2 gc3 egc3 rc4 zc5 bc1
    replace q := Zu q bc1; refine Za ?_; refine Zq ?_; refine Zr ?_; refine Zf ?_; refine Zl rc4 ?_; refine Za ?_; refine Zq ?_; refine Zr ?_; refine Zm ?_; refine ZgeT ?_; refine Zm ?_; refine Zm ?_; refine ZleT ?_; refine Zp ?_; refine Zm ?_; refine Zf ?_; refine Zl rc4 ?_; refine ZgeT ?_; refine Zp ?_; refine Zm ?_; refine Zf ?_; refine Zl rc4 ?_; refine ZleT ?_; refine Zp ?_; refine Zm ?_; refine Zv rc4 ?_
    refine Zm ?_; refine ZeqF ?_; refine Zm ?_; refine ZeqF ?_; refine Zm ?_; refine ZeqF ?_
    refine Zy (R.call rfl rfl rfl) (hz0 _) ?_
    rintro e Wc7 ⟨rfl, bc6⟩
    refine ⟨_, rfl, ?_⟩; have zbc6 := bc6.size; replace rc4 := rc4.up bc6; replace bc1 := Zu bc1 bc6; replace q := Zu q bc6; refine Zp ?_; refine Za ?_; refine Zq ?_; refine Zc ?_; refine Zr ?_; refine Zm ?_; refine Zq ?_; refine CC.block ?_; refine Zr ?_; refine ZeqT ?_; refine Za ?_; refine Zq ?_; refine ZY ?_; refine CC.region ?_; refine Zm ?_; refine Zm ?_; refine Zs ?_; refine Zs ?_; refine Zs ?_
    refine Zp ?_; refine Za ?_; refine ZL ?_; refine EE.inN ?_; refine ZT ?_; refine Zc ?_; refine Zr ?_; refine Zm ?_; refine Zt ?_; refine Zq ?_; refine ZY ?_; refine Zr ?_; refine Za ?_; refine Zq ?_; refine ZR ?_; refine EE.thenR ?_; refine EE.ret _ rfl rfl ?_
    exact ⟨rfl, q⟩
theorem rcheck_2F (l z : Int) (x : Option Addr) (n c : Nat) (r p : Int) (t : Bs) (w : World) (hn : n ≤ 9223372036854775807) (h : ¬((0 ≤ l ∧ l ≤ 65535) ∧ zeroOk false true false z n r p t ∧ (1 ≤ r ∧ r ≤ 2047) ∧ 1 ≤ p ∧ p ≤ 256)) : Calls Tryd.prog 15 #[inV 2 l z (.slice x n c) r p t] w fun e w' => e = .returned (.int .i64 240) ∧ Below w.heap.size w w' := by
  have q := Below.refl w.heap.size w
  by_cases hA : l < 0
  · refine X.fn Tryd.func15 rfl (n := 130) rfl rfl ?_
    refine Zr ?_
    refine LL.box [.int .i64 2, .int .i64 l, .int .i64 z, .slice x n c, .int .i64 r, .int .i64 p, strV t] rfl rfl rfl rfl rfl ?_
    intro W2 g3 eg3 r4 z5 b1
    replace q := Zu q b1; refine Za ?_; refine Zq ?_; refine Zr ?_; refine Zf ?_; refine Zl r4 ?_; refine Za ?_; refine Zq ?_; refine Zr ?_; refine Zm ?_; refine ZgeT ?_; refine Zm ?_; refine Zm ?_; refine ZleT ?_; refine Zp ?_; refine Zm ?_; refine Zf ?_; refine Zl r4 ?_; refine ZgeF ?_; refine Zp ?_; refine Zm ?_; refine Zs ?_; refine Zs ?_; refine Zs ?_; refine Zp ?_; refine Zm ?_; refine Zs ?_
    refine Zs ?_; refine Zs ?_; refine Zs ?_; refine Zs ?_; refine Zs ?_; refine Zs ?_; refine Zs ?_; refine Zp ?_; refine Za ?_; refine Zq ?_; refine Zc ?_; refine Zr ?_; refine Zm ?_; refine Zq ?_; refine CC.block ?_; refine Zr ?_; refine ZeqF ?_; refine Za ?_; refine Zq ?_; refine ZN ?_; refine Zr ?_; refine ZeqF ?_; refine Za ?_; refine Zq ?_; refine ZN ?_; refine Zr ?_; refine ZeqT ?_; refine Za ?_
    refine Zq ?_; refine ZY ?_; refine CC.region ?_; refine Zm ?_; refine Zm ?_; refine Zs ?_; refine Zs ?_; refine Zs ?_; refine Zp ?_; refine Zm ?_; refine Zs ?_; refine Zs ?_; refine Zs ?_; refine Zp ?_; refine Zm ?_; refine Zs ?_; refine Zs ?_; refine Zs ?_; refine Zp ?_; refine Zm ?_; refine Zs ?_; refine Zs ?_; refine Zs ?_; refine Zp ?_; refine Za ?_; refine ZL ?_; refine EE.inN ?_; refine ZT ?_
    refine Zc ?_; refine Zr ?_; refine Zm ?_; refine Zt ?_; refine Zq ?_; refine ZY ?_; refine Zr ?_; refine Za ?_; refine Zq ?_; refine ZR ?_; refine EE.thenR ?_; refine EE.ret _ rfl rfl ?_
    exact ⟨rfl, q⟩
  by_cases hB : 65535 < l
  · refine X.fn Tryd.func15 rfl (n := 130) rfl rfl ?_
    refine Zr ?_
    refine LL.box [.int .i64 2, .int .i64 l, .int .i64 z, .slice x n c, .int .i64 r, .int .i64 p, strV t] rfl rfl rfl rfl rfl ?_
    intro Wa2 ga3 ega3 ra4 za5 ba1
    replace q := Zu q ba1; refine Za ?_; refine Zq ?_; refine Zr ?_; refine Zf ?_; refine Zl ra4 ?_; refine Za ?_; refine Zq ?_; refine Zr ?_; refine Zm ?_; refine ZgeT ?_; refine Zm ?_; refine Zm ?_; refine ZleT ?_; refine Zp ?_; refine Zm ?_; refine Zf ?_; refine Zl ra4 ?_; refine ZgeT ?_; refine Zp ?_; refine Zm ?_; refine Zf ?_; refine Zl ra4 ?_; refine ZleF ?_; refine Zp ?_; refine Zm ?_; refine Zs ?_
    refine Zs ?_; refine Zs ?_; refine Zs ?_; refine Zs ?_; refine Zs ?_; refine Zs ?_; refine Zs ?_; refine Zp ?_; refine Za ?_; refine Zq ?_; refine Zc ?_; refine Zr ?_; refine Zm ?_; refine Zq ?_; refine CC.block ?_; refine Zr ?_; refine ZeqF ?_; refine Za ?_; refine Zq ?_; refine ZN ?_; refine Zr ?_; refine ZeqF ?_; refine Za ?_; refine Zq ?_; refine ZN ?_; refine Zr ?_; refine ZeqT ?_; refine Za ?_
    refine Zq ?_; refine ZY ?_; refine CC.region ?_; refine Zm ?_; refine Zm ?_; refine Zs ?_; refine Zs ?_; refine Zs ?_; refine Zp ?_; refine Zm ?_; refine Zs ?_; refine Zs ?_; refine Zs ?_; refine Zp ?_; refine Zm ?_; refine Zs ?_; refine Zs ?_; refine Zs ?_; refine Zp ?_; refine Zm ?_; refine Zs ?_; refine Zs ?_; refine Zs ?_; refine Zp ?_; refine Za ?_; refine ZL ?_; refine EE.inN ?_; refine ZT ?_
    refine Zc ?_; refine Zr ?_; refine Zm ?_; refine Zt ?_; refine Zq ?_; refine ZY ?_; refine Zr ?_; refine Za ?_; refine Zq ?_; refine ZR ?_; refine EE.thenR ?_; refine EE.ret _ rfl rfl ?_
    exact ⟨rfl, q⟩
  by_cases hZ : zeroOk false true false z n r p t
  · have hz0 := fun W => zero_T 2 l z x n c r p t false true false W hn hZ
    have hl : ¬((1 ≤ r ∧ r ≤ 2047) ∧ 1 ≤ p ∧ p ≤ 256) := fun e => h ⟨by omega, hZ, e⟩
    clear h hZ
    by_cases hC : r < 1
    · refine X.fn Tryd.func15 rfl (n := 130) rfl rfl ?_
      refine Zr ?_
      refine LL.box [.int .i64 2, .int .i64 l, .int .i64 z, .slice x n c, .int .i64 r, .int .i64 p, strV t] rfl rfl rfl rfl rfl ?_
      intro Wb2 gb3 egb3 rb4 zb5 bb1
      replace q := Zu q bb1; refine Za ?_; refine Zq ?_; refine Zr ?_; refine Zf ?_; refine Zl rb4 ?_; refine Za ?_; refine Zq ?_; refine Zr ?_; refine Zm ?_; refine ZgeT ?_; refine Zm ?_; refine Zm ?_; refine ZleT ?_; refine Zp ?_; refine Zm ?_; refine Zf ?_; refine Zl rb4 ?_; refine ZgeT ?_; refine Zp ?_; refine Zm ?_; refine Zf ?_; refine Zl rb4 ?_; refine ZleT ?_; refine Zp ?_; refine Zm ?_; refine Zv rb4 ?_
      refine Zm ?_; refine ZeqF ?_; refine Zm ?_; refine ZeqT ?_; refine Zm ?_; refine ZeqF ?_
      refine Zy (R.call rfl rfl rfl) (hz0 _) ?_
      rintro e Wb7 ⟨rfl, bb6⟩
      refine ⟨_, rfl, ?_⟩; have zbb6 := bb6.size; replace rb4 := rb4.up bb6; replace bb1 := Zu bb1 bb6; replace q := Zu q bb6; refine Zp ?_; refine Za ?_; refine Zq ?_; refine Zc ?_; refine Zr ?_; refine Zm ?_; refine Zq ?_; refine CC.block ?_; refine Zr ?_; refine ZeqF ?_; refine Za ?_; refine Zq ?_; refine ZN ?_; refine Zr ?_; refine ZeqF ?_; refine Za ?_; refine Zq ?_; refine ZN ?_; refine Zr ?_
      refine ZeqT ?_; refine Za ?_; refine Zq ?_; refine ZY ?_; refine CC.region ?_; refine Zm ?_; refine Zm ?_; refine Zf ?_; refine Zl rb4 ?_; refine ZgeF ?_; refine Zp ?_; refine Zm ?_; refine Zs ?_; refine Zs ?_; refine Zs ?_; refine Zp ?_; refine Zm ?_; refine Zs ?_; refine Zs ?_; refine Zs ?_; refine Zp ?_; refine Zm ?_; refine Zs ?_; refine Zs ?_; refine Zs ?_; refine Zp ?_; refine Za ?_; refine ZL ?_
      refine EE.inN ?_; refine ZT ?_; refine Zc ?_; refine Zr ?_; refine Zm ?_; refine Zt ?_; refine Zq ?_; refine ZY ?_; refine Zr ?_; refine Za ?_; refine Zq ?_; refine ZR ?_; refine EE.thenR ?_; refine EE.ret _ rfl rfl ?_
      exact ⟨rfl, q⟩
    by_cases hD : 2047 < r
    · refine X.fn Tryd.func15 rfl (n := 130) rfl rfl ?_
      refine Zr ?_
      refine LL.box [.int .i64 2, .int .i64 l, .int .i64 z, .slice x n c, .int .i64 r, .int .i64 p, strV t] rfl rfl rfl rfl rfl ?_
      intro Wc2 gc3 egc3 rc4 zc5 bc1
      replace q := Zu q bc1; refine Za ?_; refine Zq ?_; refine Zr ?_; refine Zf ?_; refine Zl rc4 ?_; refine Za ?_; refine Zq ?_; refine Zr ?_; refine Zm ?_; refine ZgeT ?_; refine Zm ?_; refine Zm ?_; refine ZleT ?_; refine Zp ?_; refine Zm ?_; refine Zf ?_; refine Zl rc4 ?_; refine ZgeT ?_; refine Zp ?_; refine Zm ?_; refine Zf ?_; refine Zl rc4 ?_; refine ZleT ?_; refine Zp ?_; refine Zm ?_; refine Zv rc4 ?_
      refine Zm ?_; refine ZeqF ?_; refine Zm ?_; refine ZeqT ?_; refine Zm ?_; refine ZeqF ?_
      refine Zy (R.call rfl rfl rfl) (hz0 _) ?_
      rintro e Wc7 ⟨rfl, bc6⟩
      refine ⟨_, rfl, ?_⟩; have zbc6 := bc6.size; replace rc4 := rc4.up bc6; replace bc1 := Zu bc1 bc6; replace q := Zu q bc6; refine Zp ?_; refine Za ?_; refine Zq ?_; refine Zc ?_; refine Zr ?_; refine Zm ?_; refine Zq ?_; refine CC.block ?_; refine Zr ?_; refine ZeqF ?_; refine Za ?_; refine Zq ?_; refine ZN ?_; refine Zr ?_; refine ZeqF ?_; refine Za ?_; refine Zq ?_; refine ZN ?_; refine Zr ?_
      refine ZeqT ?_; refine Za ?_; refine Zq ?_; refine ZY ?_; refine CC.region ?_; refine Zm ?_; refine Zm ?_; refine Zf ?_; refine Zl rc4 ?_; refine ZgeT ?_; refine Zp ?_; refine Zm ?_; refine Zf ?_; refine Zl rc4 ?_; refine ZleF ?_; refine Zp ?_; refine Zm ?_; refine Zs ?_; refine Zs ?_; refine Zs ?_; refine Zp ?_; refine Zm ?_; refine Zs ?_; refine Zs ?_; refine Zs ?_; refine Zp ?_; refine Za ?_
      refine ZL ?_; refine EE.inN ?_; refine ZT ?_; refine Zc ?_; refine Zr ?_; refine Zm ?_; refine Zt ?_; refine Zq ?_; refine ZY ?_; refine Zr ?_; refine Za ?_; refine Zq ?_; refine ZR ?_; refine EE.thenR ?_; refine EE.ret _ rfl rfl ?_
      exact ⟨rfl, q⟩
    by_cases hE : p < 1
    · refine X.fn Tryd.func15 rfl (n := 130) rfl rfl ?_
      refine Zr ?_
      refine LL.box [.int .i64 2, .int .i64 l, .int .i64 z, .slice x n c, .int .i64 r, .int .i64 p, strV t] rfl rfl rfl rfl rfl ?_
      intro Wd2 gd3 egd3 rd4 zd5 bd1
      replace q := Zu q bd1; refine Za ?_; refine Zq ?_; refine Zr ?_; refine Zf ?_; refine Zl rd4 ?_; refine Za ?_; refine Zq ?_; refine Zr ?_; refine Zm ?_; refine ZgeT ?_; refine Zm ?_; refine Zm ?_; refine ZleT ?_; refine Zp ?_; refine Zm ?_; refine Zf ?_; refine Zl rd4 ?_; refine ZgeT ?_; refine Zp ?_; refine Zm ?_; refine Zf ?_; refine Zl rd4 ?_; refine ZleT ?_; refine Zp ?_; refine Zm ?_; refine Zv rd4 ?_
      refine Zm ?_; refine ZeqF ?_; refine Zm ?_; refine ZeqT ?_; refine Zm ?_; refine ZeqF ?_
      refine Zy (R.call rfl rfl rfl) (hz0 _) ?_
      rintro e Wd7 ⟨rfl, bd6⟩
      refine ⟨_, rfl, ?_⟩; have zbd6 := bd6.size; replace rd4 := rd4.up bd6; replace bd1 := Zu bd1 bd6; replace q := Zu q bd6; refine Zp ?_; refine Za ?_; refine Zq ?_; refine Zc ?_; refine Zr ?_; refine Zm ?_; refine Zq ?_; refine CC.block ?_; refine Zr ?_; refine ZeqF ?_; refine Za ?_; refine Zq ?_; refine ZN ?_; refine Zr ?_; refine ZeqF ?_; refine Za ?_; refine Zq ?_; refine ZN ?_; refine Zr ?_
      refine ZeqT ?_; refine Za ?_; refine Zq ?_; refine ZY ?_; refine CC.region ?_; refine Zm ?_; refine Zm ?_; refine Zf ?_; refine Zl rd4 ?_; refine ZgeT ?_; refine Zp ?_; refine Zm ?_; refine Zf ?_; refine Zl rd4 ?_; refine ZleT ?_; refine Zp ?_; refine Zm ?_; refine Zf ?_; refine Zl rd4 ?_; refine ZgeF ?_; refine Zp ?_; refine Zm ?_; refine Zs ?_; refine Zs ?_; refine Zs ?_; refine Zp ?_; refine Za ?_
      refine ZL ?_; refine EE.inN ?_; refine ZT ?_; refine Zc ?_; refine Zr ?_; refine Zm ?_; refine Zt ?_; refine Zq ?_; refine ZY ?_; refine Zr ?_; refine Za ?_; refine Zq ?_; refine ZR ?_; refine EE.thenR ?_; refine EE.ret _ rfl rfl ?_
      exact ⟨rfl, q⟩
    · have hG : 256 < p := by omega
      refine X.fn Tryd.func15 rfl (n := 130) rfl rfl ?_
      refine Zr ?_
      refine LL.box [.int .i64 2, .int .i64 l, .int .i64 z, .slice x n c, .int .i64 r, .int .i64 p, strV t] rfl rfl rfl rfl rfl ?_
      intro We2 ge3 ege3 re4 ze5 be1
      replace q := Zu q be1; refine Za ?_; refine Zq ?_; refine Zr ?_; refine Zf ?_; refine Zl re4 ?_; refine Za ?_; refine Zq ?_; refine Zr ?_; refine Zm ?_; refine ZgeT ?_; refine Zm ?_; refine Zm ?_; refine ZleT ?_; refine Zp ?_; refine Zm ?_; refine Zf ?_; refine Zl re4 ?_; refine ZgeT ?_; refine Zp ?_; refine Zm ?_; refine Zf ?_; refine Zl re4 ?_; refine ZleT ?_; refine Zp ?_; refine Zm ?_; refine Zv re4 ?_
      refine Zm ?_; refine ZeqF ?_; refine Zm ?_; refine ZeqT ?_; refine Zm ?_; refine ZeqF ?_
      refine Zy (R.call rfl rfl rfl) (hz0 _) ?_
      rintro e We7 ⟨rfl, be6⟩
      refine ⟨_, rfl, ?_⟩; have zbe6 := be6.size; replace re4 := re4.up be6; replace be1 := Zu be1 be6; replace q := Zu q be6; refine Zp ?_; refine Za ?_; refine Zq ?_; refine Zc ?_; refine Zr ?_; refine Zm ?_; refine Zq ?_; refine CC.block ?_; refine Zr ?_; refine ZeqF ?_; refine Za ?_; refine Zq ?_; refine ZN ?_; refine Zr ?_; refine ZeqF ?_; refine Za ?_; refine Zq ?_; refine ZN ?_; refine Zr ?_
      refine ZeqT ?_; refine Za ?_; refine Zq ?_; refine ZY ?_; refine CC.region ?_; refine Zm ?_; refine Zm ?_; refine Zf ?_; refine Zl re4 ?_; refine ZgeT ?_; refine Zp ?_; refine Zm ?_; refine Zf ?_; refine Zl re4 ?_; refine ZleT ?_; refine Zp ?_; refine Zm ?_; refine Zf ?_; refine Zl re4 ?_; refine ZgeT ?_; refine Zp ?_; refine Zm ?_; refine Zf ?_; refine Zl re4 ?_; refine ZleF ?_; refine Zp ?_
      refine Za ?_; refine ZL ?_; refine EE.inN ?_; refine ZT ?_; refine Zc ?_; refine Zr ?_; refine Zm ?_; refine Zt ?_; refine Zq ?_; refine ZY ?_; refine Zr ?_; refine Za ?_; refine Zq ?_; refine ZR ?_; refine EE.thenR ?_; refine EE.ret _ rfl rfl ?_
      exact ⟨rfl, q⟩
  · have hz0 := fun W => zero_F 2 l z x n c r p t false true false W hn hZ
    clear h hZ
    refine X.fn Tryd.func15 rfl (n := 130) rfl rfl ?_
    refine Zr ?_
    refine LL.box [.int .i64 2, .int .i64 l, .int .i64 z, .slice x n c, .int .i64 r, .int .i64 p, strV t] rfl rfl rfl rfl rfl ?_
    intro Wf2 gf3 egf3 rf4 zf5 bf1
    replace q := Zu q bf1; refine Za ?_; refine Zq ?_; refine Zr ?_; refine Zf ?_; refine Zl rf4 ?_; refine Za ?_; refine Zq ?_; refine Zr ?_; refine Zm ?_; refine ZgeT ?_; refine Zm ?_; refine Zm ?_; refine ZleT ?_; refine Zp ?_; refine Zm ?_; refine Zf ?_; refine Zl rf4 ?_; refine ZgeT ?_; refine Zp ?_; refine Zm ?_; refine Zf ?_; refine Zl rf4 ?_; refine ZleT ?_; refine Zp ?_; refine Zm ?_; refine Zv rf4 ?_
    refine Zm ?_; refine ZeqF ?_; refine Zm ?_; refine ZeqT ?_; refine Zm ?_; refine ZeqF ?_
    refine Zy (R.call rfl rfl rfl) (hz0 _) ?_
    rintro e Wf7 ⟨rfl, bf6⟩
    refine ⟨_, rfl, ?_⟩; have zbf6 := bf6.size; replace rf4 := rf4.up bf6; replace bf1 := Zu bf1 bf6; replace q := Zu q bf6; refine Zp ?_; refine Za ?_; refine Zq ?_; refine Zc ?_; refine Zr ?_; refine Zm ?_; refine Zq ?_; refine CC.block ?_; refine Zr ?_; refine ZeqF ?_; refine Za ?_; refine Zq ?_; refine ZN ?_; refine Zr ?_; refine ZeqF ?_; refine Za ?_; refine Zq ?_; refine ZN ?_; refine Zr ?_; refine ZeqT ?_
    refine Za ?_; refine Zq ?_; refine ZY ?_; refine CC.region ?_; refine Zm ?_; refine Zm ?_; refine Zs ?_; refine Zs ?_; refine Zs ?_; refine Zp ?_; refine Zm ?_; refine Zs ?_; refine Zs ?_; refine Zs ?_; refine Zp ?_; refine Zm ?_; refine Zs ?_; refine Zs ?_; refine Zs ?_; refine Zp ?_; refine Zm ?_; refine Zs ?_; refine Zs ?_; refine Zs ?_; refine Zp ?_; refine Za ?_; refine ZL ?_; refine EE.inN ?_
    refine ZT ?_; refine Zc ?_; refine Zr ?_; refine Zm ?_; refine Zt ?_; refine Zq ?_; refine ZY ?_; refine Zr ?_; refine Za ?_; refine Zq ?_; refine ZR ?_; refine EE.thenR ?_; refine EE.ret _ rfl rfl ?_
    exact ⟨rfl, q⟩
theorem rcheck_3F (l z : Int) (x : Option Addr) (n c : Nat) (r p : Int) (t : Bs) (w : World) (hn : n ≤ 9223372036854775807) (htl : t.length ≤ 9223372036854775807) (h : ¬((0 ≤ l ∧ l ≤ 65535) ∧ zeroOk false false true z n r p t ∧ (1 ≤ t.length ∧ t.length ≤ 112) ∧ (0 : UInt8) ∉ t)) : Calls Tryd.prog 15 #[inV 3 l z (.slice x n c) r p t] w fun e w' => e = .returned (.int .i64 240) ∧ Below w.heap.size w w' := by
  have q := Below.refl w.heap.size w
  by_cases hA : l < 0
  · refine X.fn Tryd.func15 rfl (n := 130) rfl rfl ?_
    refine Zr ?_
    refine LL.box [.int .i64 3, .int .i64 l, .int .i64 z, .slice x n c, .int .i64 r, .int .i64 p, strV t] rfl rfl rfl rfl rfl ?_
    intro W2 g3 eg3 r4 z5 b1
    replace q := Zu q b1; refine Za ?_; refine Zq ?_; refine Zr ?_; refine Zf ?_; refine Zl r4 ?_; refine Za ?_; refine Zq ?_; refine Zr ?_; refine Zm ?_; refine ZgeT ?_; refine Zm ?_; refine Zm ?_; refine ZleT ?_; refine Zp ?_; refine Zm ?_; refine Zf ?_; refine Zl r4 ?_; refine ZgeF ?_; refine Zp ?_; refine Zm ?_; refine Zs ?_; refine Zs ?_; refine Zs ?_; refine Zp ?_; refine Zm ?_; refine Zs ?_
    refine Zs ?_; refine Zs ?_; refine Zs ?_; refine Zs ?_; refine Zs ?_; refine Zs ?_; refine Zs ?_; refine Zp ?_; refine Za ?_; refine Zq ?_; refine Zc ?_; refine Zr ?_; refine Zm ?_; refine Zq ?_; refine CC.block ?_; refine Zr ?_; refine ZeqF ?_; refine Za ?_; refine Zq ?_; refine ZN ?_; refine Zr ?_; refine ZeqF ?_; refine Za ?_; refine Zq ?_; refine ZN ?_; refine Zr ?_; refine ZeqF ?_; refine Za ?_
    refine Zq ?_; refine ZN ?_; refine Zr ?_; refine ZeqT ?_; refine Za ?_; refine Zq ?_; refine ZY ?_; refine CC.region ?_; refine Zm ?_; refine Zm ?_; refine Zs ?_; refine Zs ?_; refine Zs ?_; refine Zs ?_; refine Zp ?_; refine Zm ?_; refine Zs ?_; refine Zs ?_; refine Zs ?_; refine Zs ?_; refine Zp ?_; refine Zm ?_; refine Zs ?_; refine Zs ?_; refine Zs ?_; refine Zp ?_; refine Za ?_; refine ZL ?_
    refine EE.inN ?_; refine ZT ?_; refine Zc ?_; refine Zr ?_; refine Zm ?_; refine Zt ?_; refine Zq ?_; refine ZY ?_; refine Zr ?_; refine Za ?_; refine Zq ?_; refine ZR ?_; refine EE.thenR ?_; refine EE.ret _ rfl rfl ?_
    exact ⟨rfl, q⟩
  by_cases hB : 65535 < l
  · refine X.fn Tryd.func15 rfl (n := 130) rfl rfl ?_
    refine Zr ?_
    refine LL.box [.int .i64 3, .int .i64 l, .int .i64 z, .slice x n c, .int .i64 r, .int .i64 p, strV t] rfl rfl rfl rfl rfl ?_
    intro Wa2 ga3 ega3 ra4 za5 ba1
    replace q := Zu q ba1; refine Za ?_; refine Zq ?_; refine Zr ?_; refine Zf ?_; refine Zl ra4 ?_; refine Za ?_; refine Zq ?_; refine Zr ?_; refine Zm ?_; refine ZgeT ?_; refine Zm ?_; refine Zm ?_; refine ZleT ?_; refine Zp ?_; refine Zm ?_; refine Zf ?_; refine Zl ra4 ?_; refine ZgeT ?_; refine Zp ?_; refine Zm ?_; refine Zf ?_; refine Zl ra4 ?_; refine ZleF ?_; refine Zp ?_; refine Zm ?_; refine Zs ?_
    refine Zs ?_; refine Zs ?_; refine Zs ?_; refine Zs ?_; refine Zs ?_; refine Zs ?_; refine Zs ?_; refine Zp ?_; refine Za ?_; refine Zq ?_; refine Zc ?_; refine Zr ?_; refine Zm ?_; refine Zq ?_; refine CC.block ?_; refine Zr ?_; refine ZeqF ?_; refine Za ?_; refine Zq ?_; refine ZN ?_; refine Zr ?_; refine ZeqF ?_; refine Za ?_; refine Zq ?_; refine ZN ?_; refine Zr ?_; refine ZeqF ?_; refine Za ?_
    refine Zq ?_; refine ZN ?_; refine Zr ?_; refine ZeqT ?_; refine Za ?_; refine Zq ?_; refine ZY ?_; refine CC.region ?_; refine Zm ?_; refine Zm ?_; refine Zs ?_; refine Zs ?_; refine Zs ?_; refine Zs ?_; refine Zp ?_; refine Zm ?_; refine Zs ?_; refine Zs ?_; refine Zs ?_; refine Zs ?_; refine Zp ?_; refine Zm ?_; refine Zs ?_; refine Zs ?_; refine Zs ?_; refine Zp ?_; refine Za ?_; refine ZL ?_
    refine EE.inN ?_; refine ZT ?_; refine Zc ?_; refine Zr ?_; refine Zm ?_; refine Zt ?_; refine Zq ?_; refine ZY ?_; refine Zr ?_; refine Za ?_; refine Zq ?_; refine ZR ?_; refine EE.thenR ?_; refine EE.ret _ rfl rfl ?_
    exact ⟨rfl, q⟩
  by_cases hZ : zeroOk false false true z n r p t
  · have hz0 := fun W => zero_T 3 l z x n c r p t false false true W hn hZ
    by_cases hC : t.length < 1
    · refine X.fn Tryd.func15 rfl (n := 130) rfl rfl ?_
      refine Zr ?_
      refine LL.box [.int .i64 3, .int .i64 l, .int .i64 z, .slice x n c, .int .i64 r, .int .i64 p, strV t] rfl rfl rfl rfl rfl ?_
      intro Wb2 gb3 egb3 rb4 zb5 bb1
      replace q := Zu q bb1; refine Za ?_; refine Zq ?_; refine Zr ?_; refine Zf ?_; refine Zl rb4 ?_; refine Za ?_; refine Zq ?_; refine Zr ?_; refine Zm ?_; refine ZgeT ?_; refine Zm ?_; refine Zm ?_; refine ZleT ?_; refine Zp ?_; refine Zm ?_; refine Zf ?_; refine Zl rb4 ?_; refine ZgeT ?_; refine Zp ?_; refine Zm ?_; refine Zf ?_; refine Zl rb4 ?_; refine ZleT ?_; refine Zp ?_; refine Zm ?_; refine Zv rb4 ?_
      refine Zm ?_; refine ZeqF ?_; refine Zm ?_; refine ZeqF ?_; refine Zm ?_; refine ZeqT ?_
      refine Zy (R.call rfl rfl rfl) (hz0 _) ?_
      rintro e Wb7 ⟨rfl, bb6⟩
      refine ⟨_, rfl, ?_⟩; have zbb6 := bb6.size; replace rb4 := rb4.up bb6; replace bb1 := Zu bb1 bb6; replace q := Zu q bb6; refine Zp ?_; refine Za ?_; refine Zq ?_; refine Zc ?_; refine Zr ?_; refine Zm ?_; refine Zq ?_; refine CC.block ?_; refine Zr ?_; refine ZeqF ?_; refine Za ?_; refine Zq ?_; refine ZN ?_; refine Zr ?_; refine ZeqF ?_; refine Za ?_; refine Zq ?_; refine ZN ?_; refine Zr ?_
      refine ZeqF ?_; refine Za ?_; refine Zq ?_; refine ZN ?_; refine Zr ?_; refine ZeqT ?_; refine Za ?_; refine Zq ?_; refine ZY ?_; refine CC.region ?_; refine Zm ?_; refine Zm ?_; refine Zf ?_; refine Zl rb4 ?_
      refine LL.val (R.lenS rfl rfl rfl rfl) rfl rfl rfl ?_
      refine ZgeF ?_; refine Zp ?_; refine Zm ?_; refine Zs ?_; refine Zs ?_; refine Zs ?_; refine Zs ?_; refine Zp ?_; refine Zm ?_; refine Zs ?_; refine Zs ?_; refine Zs ?_; refine Zp ?_; refine Za ?_; refine ZL ?_; refine EE.inN ?_; refine ZT ?_; refine Zc ?_; refine Zr ?_; refine Zm ?_; refine Zt ?_; refine Zq ?_; refine ZY ?_; refine Zr ?_; refine Za ?_; refine Zq ?_; refine ZR ?_; refine EE.thenR ?_
      refine EE.ret _ rfl rfl ?_
      exact ⟨rfl, q⟩
    by_cases hD : 112 < t.length
    · refine X.fn Tryd.func15 rfl (n := 130) rfl rfl ?_
      refine Zr ?_
      refine LL.box [.int .i64 3, .int .i64 l, .int .i64 z, .slice x n c, .int .i64 r, .int .i64 p, strV t] rfl rfl rfl rfl rfl ?_
      intro Wc2 gc3 egc3 rc4 zc5 bc1
      replace q := Zu q bc1; refine Za ?_; refine Zq ?_; refine Zr ?_; refine Zf ?_; refine Zl rc4 ?_; refine Za ?_; refine Zq ?_; refine Zr ?_; refine Zm ?_; refine ZgeT ?_; refine Zm ?_; refine Zm ?_; refine ZleT ?_; refine Zp ?_; refine Zm ?_; refine Zf ?_; refine Zl rc4 ?_; refine ZgeT ?_; refine Zp ?_; refine Zm ?_; refine Zf ?_; refine Zl rc4 ?_; refine ZleT ?_; refine Zp ?_; refine Zm ?_; refine Zv rc4 ?_
      refine Zm ?_; refine ZeqF ?_; refine Zm ?_; refine ZeqF ?_; refine Zm ?_; refine ZeqT ?_
      refine Zy (R.call rfl rfl rfl) (hz0 _) ?_
      rintro e Wc7 ⟨rfl, bc6⟩
      refine ⟨_, rfl, ?_⟩; have zbc6 := bc6.size; replace rc4 := rc4.up bc6; replace bc1 := Zu bc1 bc6; replace q := Zu q bc6; refine Zp ?_; refine Za ?_; refine Zq ?_; refine Zc ?_; refine Zr ?_; refine Zm ?_; refine Zq ?_; refine CC.block ?_; refine Zr ?_; refine ZeqF ?_; refine Za ?_; refine Zq ?_; refine ZN ?_; refine Zr ?_; refine ZeqF ?_; refine Za ?_; refine Zq ?_; refine ZN ?_; refine Zr ?_
      refine ZeqF ?_; refine Za ?_; refine Zq ?_; refine ZN ?_; refine Zr ?_; refine ZeqT ?_; refine Za ?_; refine Zq ?_; refine ZY ?_; refine CC.region ?_; refine Zm ?_; refine Zm ?_; refine Zf ?_; refine Zl rc4 ?_
      refine LL.val (R.lenS rfl rfl rfl rfl) rfl rfl rfl ?_
      refine ZgeT ?_; refine Zp ?_; refine Zm ?_; refine Zf ?_; refine Zl rc4 ?_
      refine LL.val (R.lenS rfl rfl rfl rfl) rfl rfl rfl ?_
      refine ZleF ?_; refine Zp ?_; refine Zm ?_; refine Zs ?_; refine Zs ?_; refine Zs ?_; refine Zp ?_; refine Za ?_; refine ZL ?_; refine EE.inN ?_; refine ZT ?_; refine Zc ?_; refine Zr ?_; refine Zm ?_; refine Zt ?_; refine Zq ?_; refine ZY ?_; refine Zr ?_; refine Za ?_; refine Zq ?_; refine ZR ?_; refine EE.thenR ?_; refine EE.ret _ rfl rfl ?_
      exact ⟨rfl, q⟩
    · have hpl := fun W => plain_any t W htl false (decide_eq_false (fun e => h ⟨by omega, hZ, by omega, e⟩)).symm
      clear h hZ
      refine X.fn Tryd.func15 rfl (n := 130) rfl rfl ?_
      refine Zr ?_
      refine LL.box [.int .i64 3, .int .i64 l, .int .i64 z, .slice x n c, .int .i64 r, .int .i64 p, strV t] rfl rfl rfl rfl rfl ?_
      intro Wd2 gd3 egd3 rd4 zd5 bd1
      replace q := Zu q bd1; refine Za ?_; refine Zq ?_; refine Zr ?_; refine Zf ?_; refine Zl rd4 ?_; refine Za ?_; refine Zq ?_; refine Zr ?_; refine Zm ?_; refine ZgeT ?_; refine Zm ?_; refine Zm ?_; refine ZleT ?_; refine Zp ?_; refine Zm ?_; refine Zf ?_; refine Zl rd4 ?_; refine ZgeT ?_; refine Zp ?_; refine Zm ?_; refine Zf ?_; refine Zl rd4 ?_; refine ZleT ?_; refine Zp ?_; refine Zm ?_; refine Zv rd4 ?_
      refine Zm ?_; refine ZeqF ?_; refine Zm ?_; refine ZeqF ?_; refine Zm ?_; refine ZeqT ?_
      refine Zy (R.call rfl rfl rfl) (hz0 _) ?_
      rintro e Wd7 ⟨rfl, bd6⟩
      refine ⟨_, rfl, ?_⟩; have zbd6 := bd6.size; replace rd4 := rd4.up bd6; replace bd1 := Zu bd1 bd6; replace q := Zu q bd6; refine Zp ?_; refine Za ?_; refine Zq ?_; refine Zc ?_; refine Zr ?_; refine Zm ?_; refine Zq ?_; refine CC.block ?_; refine Zr ?_; refine ZeqF ?_; refine Za ?_; refine Zq ?_; refine ZN ?_; refine Zr ?_; refine ZeqF ?_; refine Za ?_; refine Zq ?_; refine ZN ?_; refine Zr ?_
      refine ZeqF ?_; refine Za ?_; refine Zq ?_; refine ZN ?_; refine Zr ?_; refine ZeqT ?_; refine Za ?_; refine Zq ?_; refine ZY ?_; refine CC.region ?_; refine Zm ?_; refine Zm ?_; refine Zf ?_; refine Zl rd4 ?_
      refine LL.val (R.lenS rfl rfl rfl rfl) rfl rfl rfl ?_
      refine ZgeT ?_; refine Zp ?_; refine Zm ?_; refine Zf ?_; refine Zl rd4 ?_
      refine LL.val (R.lenS rfl rfl rfl rfl) rfl rfl rfl ?_
      refine ZleT ?_; refine Zp ?_; refine Zm ?_; refine Zf ?_; refine Zl rd4 ?_
      refine Zy (R.call rfl rfl rfl) (hpl _) ?_
      rintro e W' ⟨rfl, rfl⟩
      refine ⟨_, rfl, ?_⟩; refine Zp ?_; refine Za ?_; refine ZL ?_; refine EE.inN ?_; refine ZT ?_; refine Zc ?_; refine Zr ?_; refine Zm ?_; refine Zt ?_; refine Zq ?_; refine ZY ?_; refine Zr ?_; refine Za ?_; refine Zq ?_; refine ZR ?_; refine EE.thenR ?_; refine EE.ret _ rfl rfl ?_
      exact ⟨rfl, q⟩
  · have hz0 := fun W => zero_F 3 l z x n c r p t false false true W hn hZ
    clear h hZ
    refine X.fn Tryd.func15 rfl (n := 130) rfl rfl ?_
    refine Zr ?_
    refine LL.box [.int .i64 3, .int .i64 l, .int .i64 z, .slice x n c, .int .i64 r, .int .i64 p, strV t] rfl rfl rfl rfl rfl ?_
    intro We2 ge3 ege3 re4 ze5 be1
    replace q := Zu q be1; refine Za ?_; refine Zq ?_; refine Zr ?_; refine Zf ?_; refine Zl re4 ?_; refine Za ?_; refine Zq ?_; refine Zr ?_; refine Zm ?_; refine ZgeT ?_; refine Zm ?_; refine Zm ?_; refine ZleT ?_; refine Zp ?_; refine Zm ?_; refine Zf ?_; refine Zl re4 ?_; refine ZgeT ?_; refine Zp ?_; refine Zm ?_; refine Zf ?_; refine Zl re4 ?_; refine ZleT ?_; refine Zp ?_; refine Zm ?_; refine Zv re4 ?_
    refine Zm ?_; refine ZeqF ?_; refine Zm ?_; refine ZeqF ?_; refine Zm ?_; refine ZeqT ?_
    refine Zy (R.call rfl rfl rfl) (hz0 _) ?_
    rintro e We7 ⟨rfl, be6⟩
    refine ⟨_, rfl, ?_⟩; have zbe6 := be6.size; replace re4 := re4.up be6; replace be1 := Zu be1 be6; replace q := Zu q be6; refine Zp ?_; refine Za ?_; refine Zq ?_; refine Zc ?_; refine Zr ?_; refine Zm ?_; refine Zq ?_; refine CC.block ?_; refine Zr ?_; refine ZeqF ?_; refine Za ?_; refine Zq ?_; refine ZN ?_; refine Zr ?_; refine ZeqF ?_; refine Za ?_; refine Zq ?_; refine ZN ?_; refine Zr ?_; refine ZeqF ?_
    refine Za ?_; refine Zq ?_; refine ZN ?_; refine Zr ?_; refine ZeqT ?_; refine Za ?_; refine Zq ?_; refine ZY ?_; refine CC.region ?_; refine Zm ?_; refine Zm ?_; refine Zs ?_; refine Zs ?_; refine Zs ?_; refine Zs ?_; refine Zp ?_; refine Zm ?_; refine Zs ?_; refine Zs ?_; refine Zs ?_; refine Zs ?_; refine Zp ?_; refine Zm ?_; refine Zs ?_; refine Zs ?_; refine Zs ?_; refine Zp ?_; refine Za ?_
    refine ZL ?_; refine EE.inN ?_; refine ZT ?_; refine Zc ?_; refine Zr ?_; refine Zm ?_; refine Zt ?_; refine Zq ?_; refine ZY ?_; refine Zr ?_; refine Za ?_; refine Zq ?_; refine ZR ?_; refine EE.thenR ?_; refine EE.ret _ rfl rfl ?_
    exact ⟨rfl, q⟩
theorem fit_iff {z : Int} {m : List Ex} (h : vL m) : fitF z m ↔ ∀ i : Nat, i < 128 → ((plL m)[i]?).getD 0 = 0 ∨ 512 * (i : Int) < z := by
  have hz := vL_nz h
  constructor
  · intro hf i hi
    by_cases h0 : ((plL m)[i]?).getD 0 = 0
    · exact .inl h0
    · right
      have hm : ((i : Int), ((plL m)[i]?).getD 0) ∈ blS m := by rw [← hz, nz, mem_nzF]; exact ⟨i, hi, h0, rfl⟩
      obtain ⟨x, hx, hb⟩ := List.mem_flatMap.1 hm
      obtain ⟨j, hj, e⟩ := mem_blE.1 hb
      have := hf x hx
      have e1 : (i : Int) = x.1 + j := congrArg Prod.fst e
      omega
  · intro hf x hx
    have he := h.2.1 x hx
    unfold mayE at he
    have hb : (x.1 + ((x.2.2 - 1).toNat : Nat), x.2.1 + ((x.2.2 - 1).toNat : Nat)) ∈ blS m := List.mem_flatMap.2 ⟨x, hx, mem_blE.2 ⟨_, by omega, rfl⟩⟩
    rw [← hz, nz, mem_nzF] at hb
    obtain ⟨i, hi, h0, e⟩ := hb
    have e1 : x.1 + ((x.2.2 - 1).toNat : Nat) = (i : Int) := congrArg Prod.fst e
    rcases hf i hi with h | h
    · exact absurd h h0
    · omega
theorem inoW_1 (l z : Int) (m : List Ex) (r p : Int) (t : Bs) (h : vL m) : inoW 1 l z m r p t = (1 + 256 * l.toNat) :: z.toNat :: (wrdN m ++ List.replicate 4 0) := by
  unfold inoW layF putL hdN
  simp [wrdN_len h]
theorem inoW_2 (l z : Int) (m : List Ex) (r p : Int) (t : Bs) : inoW 2 l z m r p t = (2 + 256 * l.toNat) :: 0 :: r.toNat :: p.toNat :: List.replicate 12 0 := by
  unfold inoW layD putL hdN
  simp
theorem inoW_3 (l z : Int) (m : List Ex) (r p : Int) (t : Bs) (h : t.length ≤ 112) : inoW 3 l z m r p t = (3 + 256 * l.toNat) :: t.length :: (layL (nbL t) ++ List.replicate (14 - (t.length + 7) / 8) 0) := by
  unfold inoW layK putL hdN
  simp only [show ¬((3 : Int) = 1) by decide, show ¬((3 : Int) = 2) by decide, if_false, if_true, List.replicate, List.take_succ_cons, List.take_zero, List.drop_succ_cons, List.drop_zero, List.length_cons, List.length_nil, List.cons_append, List.nil_append, layL_len]
  rw [Nat.add_comm 2]
  show (3 + 256 * l.toNat) :: t.length :: (layL (nbL t) ++ List.drop ((t.length + 7) / 8) (List.replicate 14 0)) = _
  rw [List.drop_replicate]
theorem inoW_0 (l z : Int) (m : List Ex) (r p : Int) (t : Bs) : inoW 0 l z m r p t = List.replicate 16 0 := by
  unfold inoW hdN
  simp [List.replicate]
theorem wrdN_Z {m : List Ex} (h : ∀ x ∈ m, mayE x) : (wrdN m).map (fun n : Nat => (n : Int)) = wrdZ m := by
  unfold wrdN
  rw [List.map_map]
  conv => rhs; rw [← List.map_id (wrdZ m)]
  refine List.map_congr_left fun z hz => ?_
  obtain ⟨i, hi⟩ := List.mem_iff_getElem?.1 hz
  have := (wrdZ_bnd h i z hi).1
  simp only [Function.comp_apply, id_eq]
  exact Int.toNat_of_nonneg this
theorem wsZ_1 (l z : Int) (m : List Ex) (r p : Int) (t : Bs) (h : vL m) : wsZ (inoW 1 l z m r p t) = wrdZ m := by
  rw [inoW_1 l z m r p t h]
  unfold wsZ
  rw [← wrdN_Z h.2.1]
  simp only [List.drop_succ_cons, List.drop_zero]
  rw [List.take_left' (wrdN_len h)]
theorem tg_take (t : Bs) (ws : List Nat) (h : (ws.drop 2).take ((t.length + 7) / 8) = layL (nbL t)) : tgOk ws t.length ∧ tgW ws t.length = t := by
  unfold tgOk tgW
  rw [h]
  have e := nbL_len t
  have h1 := lay_take (nbL t) (nbL_lt t)
  have h2 := lay_drop (nbL t) (nbL_lt t)
  rw [e] at h1 h2
  exact ⟨h2, by rw [h1, ofN_nbL]⟩
theorem tg_3 (l z : Int) (m : List Ex) (r p : Int) (t : Bs) (h : t.length ≤ 112) : tgOk (inoW 3 l z m r p t) t.length ∧ tgW (inoW 3 l z m r p t) t.length = t := by
  refine tg_take t _ ?_
  rw [inoW_3 l z m r p t h]
  simp only [List.drop_succ_cons, List.drop_zero]
  rw [List.take_left' (layL_len t)]
theorem rcheck_1L (l z : Int) (x : Option Addr) (n c : Nat) (m : List Ex) (w : World) (hv : ReadsT eE 3 w (.slice x n c) m) (hlen : m.length ≤ 1048576) (hl : 0 ≤ l ∧ l ≤ 65535) (hz : 0 ≤ z ∧ z ≤ 65536) (hvl : vL m) (rs : Int) (hR : (fitF z m → rs = 0) ∧ (¬fitF z m → rs = 240)) : Calls Tryd.prog 15 #[inV 1 l z (.slice x n c) 0 0 []] w fun e w' => e = .returned (.int .i64 rs) ∧ Below w.heap.size w w' := by
  have q := Below.refl w.heap.size w
  have hvF : ∀ X, Below w.heap.size w X → ReadsT eE 3 X (.slice x n c) m := fun X b => hv.up b
  have hn : n ≤ 9223372036854775807 := by
    have := hvl.1
    obtain ⟨_, _, e, _⟩ := hv
    cases e
    omega
  have hz0 := fun W => zero_T 1 l z x n c 0 0 [] true false false W hn ⟨.inl rfl, .inr ⟨rfl, rfl⟩, .inr rfl⟩
  have hfit := fit_iff (z := z) hvl
  have hpl := plL_len m
  clear hv
  refine X.fn Tryd.func15 rfl (n := 130) rfl rfl ?_
  refine Zr ?_
  refine LL.box [.int .i64 1, .int .i64 l, .int .i64 z, .slice x n c, .int .i64 0, .int .i64 0, strV []] rfl rfl rfl rfl rfl ?_
  intro W2 g3 eg3 r4 z5 b1
  replace q := Zu q b1; refine Za ?_; refine Zq ?_; refine Zr ?_; refine Zf ?_; refine Zl r4 ?_; refine Za ?_; refine Zq ?_; refine Zr ?_; refine Zm ?_; refine ZgeT ?_; refine Zm ?_; refine Zm ?_; refine ZleT ?_; refine Zp ?_; refine Zm ?_; refine Zf ?_; refine Zl r4 ?_; refine ZgeT ?_; refine Zp ?_; refine Zm ?_; refine Zf ?_; refine Zl r4 ?_; refine ZleT ?_; refine Zp ?_; refine Zm ?_; refine Zv r4 ?_
  refine Zm ?_; refine ZeqT ?_; refine Zm ?_; refine ZeqF ?_; refine Zm ?_; refine ZeqF ?_
  refine Zy (R.call rfl rfl rfl) (hz0 _) ?_
  rintro e W7 ⟨rfl, b6⟩
  refine ⟨_, rfl, ?_⟩; have zb6 := b6.size; replace r4 := r4.up b6; replace b1 := Zu b1 b6; replace q := Zu q b6; refine Zp ?_; refine Za ?_; refine Zq ?_; refine Zc ?_; refine Zr ?_; refine Zm ?_; refine Zq ?_; refine CC.block ?_; refine Zr ?_; refine ZeqF ?_; refine Za ?_; refine Zq ?_; refine ZN ?_; refine Zr ?_; refine ZeqT ?_; refine Za ?_; refine Zq ?_; refine ZY ?_; refine Zr ?_; refine Zf ?_
  refine Zl r4 ?_
  refine Zy (R.call rfl rfl rfl) (rof_T m _ _ (hvF _ q) hlen hvl) ?_
  rintro e W10 ⟨rfl, b9⟩
  refine ⟨_, rfl, ?_⟩; have zb9 := b9.size; replace b6 := Zu b6 b9; replace r4 := r4.up b9; replace b1 := Zu b1 b9; replace q := Zu q b9; refine Zm ?_; refine Zx ?_; refine Zx ?_; have l12 := r4.lt
  refine LL.alloc (intsZ .i64 (List.replicate 128 0)) rfl rfl rfl rfl rfl ?_
  intro W14 g15 eg15 r16 z17 b13
  replace b9 := Zu b9 b13; replace b6 := Zu b6 b13; replace r4 := r4.up b13; replace b1 := Zu b1 b13; replace q := Zu q b13
  refine LL.storeAZ rfl rfl rfl rfl (by first | assumption | exact List.length_replicate | exact plL_len _ | exact plOf_len _ | simp) r16 (by first | (rw [List.length_map]; exact (by first | assumption | exact List.length_replicate | exact plL_len _ | exact plOf_len _ | simp)) | simp) rfl rfl ?_
  intro W19 r20 b18 z21
  have hlb18 := r16.lt
  clear r16
  replace b13 := Zg b13 b18; replace b9 := Zg b9 b18; replace b6 := Zg b6 b18; replace r4 := Zd r4 b18; replace b1 := Zg b1 b18; replace q := Zg q b18
  have r16 := r20
  clear r20
  refine Za ?_; refine Zq ?_; refine Zr ?_; refine Zm ?_; refine Zm ?_; refine Zm ?_; refine Zp ?_; refine Zm ?_; refine Zf ?_; refine Zl r4 ?_; refine ZgeT ?_; refine Zp ?_; refine Zm ?_; refine Zf ?_; refine Zl r4 ?_; refine ZleT ?_; refine Zp ?_; refine Za ?_; refine Zq ?_; refine Zr ?_; refine Za ?_; refine Zq ?_; refine CC.block ?_
  refine CC.loop (α := Nat × Bool) (fun s => [(1, .pointer (some ⟨g3, 0, none⟩)), (4, .bool s.2), (5, .pointer (some ⟨g15, 0, none⟩)), (7, .int .i64 (s.1 : Int))]) (fun s W => s.1 ≤ 128 ∧ Below w.heap.size w W ∧ RowL W g3 25 (inL 1 l z (.slice x n c) 0 0 []) ∧ RowL W g15 80 (intsZ .i64 (plL m)) ∧ (s.2 = true → ∀ j : Nat, j < s.1 → ((plL m)[j]?).getD 0 = 0 ∨ 512 * (j : Int) < z) ∧ (s.2 = false → ¬fitF z m)) (fun s => 129 - s.1) (0, true) ⟨rfl, rfl, rfl, rfl, trivial⟩ ⟨by show 0 ≤ 128; omega, q, r4, r16, fun _ j hj => absurd hj (Nat.not_lt_zero j), fun e => by cases e⟩ ?_
  clear q r4 r16 b1 b6 b9 b13 b18
  rintro ⟨i, b⟩ W ⟨hi, q, r4, r16, hT, hF⟩
  simp only at hi hT hF
  show CC none Tryd.prog _ 130 [] (sl [(1, .pointer (some ⟨g3, 0, none⟩)), (4, .bool b), (5, .pointer (some ⟨g15, 0, none⟩)), (7, .int .i64 (i : Int))]) _ W
  have yq := q.size
  cases b with
  | false =>
    have := hR.2 (hF rfl)
    subst this
    clear hR hF hT hfit
    refine Zc ?_; refine Zr ?_; refine Zm ?_
    refine LL.vsplit (fun h => R.ltT rfl rfl rfl h) (fun h => R.ltF rfl rfl rfl (Int.not_lt.1 h)) rfl rfl rfl (fun ca1 => ?_) (fun ca1 => ?_)
    refine Zm ?_; refine Zm ?_; refine Zp ?_; refine Zq ?_; refine ZN ?_; refine CC.exit ?_; refine EE.thenX ?_; refine EE.thenX ?_; refine EE.inX ?_; refine EE.inN ?_; refine ZT ?_; refine Zc ?_; refine Zr ?_; refine Zm ?_; refine Zt ?_; refine Zq ?_; refine ZY ?_; refine Zr ?_; refine Za ?_; refine Zq ?_; refine ZR ?_; refine EE.thenR ?_; refine EE.ret _ rfl rfl ?_
    exact ⟨rfl, q⟩
    refine Zm ?_; refine Zs ?_; refine Zp ?_; refine Zq ?_; refine ZN ?_; refine CC.exit ?_; refine EE.thenX ?_; refine EE.thenX ?_; refine EE.inX ?_; refine EE.inN ?_; refine ZT ?_; refine Zc ?_; refine Zr ?_; refine Zm ?_; refine Zt ?_; refine Zq ?_; refine ZY ?_; refine Zr ?_; refine Za ?_; refine Zq ?_; refine ZR ?_; refine EE.thenR ?_; refine EE.ret _ rfl rfl ?_
    exact ⟨rfl, q⟩
  | true =>
    by_cases hlt : i < 128
    case neg =>
      obtain rfl : i = 128 := by omega
      have := hR.1 (hfit.2 (hT rfl))
      subst this
      clear hR hF hT hfit
      refine Zc ?_; refine Zr ?_; refine Zm ?_; refine ZltF ?_; refine Zm ?_; refine Zs ?_; refine Zp ?_; refine Zq ?_; refine ZN ?_; refine CC.exit ?_; refine EE.thenX ?_; refine EE.thenX ?_; refine EE.inX ?_; refine EE.inN ?_; refine ZT ?_; refine Zc ?_; refine Zr ?_; refine Zm ?_; refine Zt ?_; refine Zq ?_; refine ZN ?_; refine ZK ?_; refine ZT ?_; refine Zr ?_; refine Za ?_; refine Zq ?_; refine ZR ?_
      refine EE.ret _ rfl rfl ?_
      exact ⟨rfl, q⟩
    obtain ⟨y, hy⟩ : ∃ y, (plL m)[i]? = some y := ⟨_, List.getElem?_eq_getElem (by omega)⟩
    have c1 : W.cell? ⟨g15, 0 + i, none⟩ = some (.int .i64 y) := RowL.cell r16 (by rw [show 0 + i = i by omega]; simp [hy])
    have hT' := hT rfl
    clear hT hF
    by_cases h0 : y = 0
    · have hT2 : ∀ j : Nat, j < i + 1 → ((plL m)[j]?).getD 0 = 0 ∨ 512 * (j : Int) < z := fun j hj => by
        rcases (by omega : j < i ∨ j = i) with h | rfl
        · exact hT' j h
        · left; rw [hy]; exact h0
      clear hT' hR hfit
      refine Zc ?_; refine Zr ?_; refine Zm ?_; refine ZltT ?_; refine Zm ?_; refine Zm ?_; refine Zp ?_; refine Zq ?_; refine ZY ?_; refine ZK ?_; refine ZT ?_; refine Zc ?_; refine CC.block ?_; refine CC.region ?_; refine Zm ?_
      refine LL.val (R.index rfl rfl rfl (I.ixA1 rfl (by omega))) rfl rfl rfl ?_
      refine Zk ?_; refine ZeqT ?_; refine Zm ?_; refine Zs ?_; refine Zs ?_; refine Zs ?_; refine Zs ?_; refine Zs ?_; refine Zp ?_; refine Za ?_; refine ZL ?_; refine EE.inN ?_; refine ZT ?_; refine CC.region ?_; refine Zm ?_
      refine LL.val (R.addNc rfl rfl rfl rfl (by omega)) rfl rfl rfl ?_
      refine Za ?_; refine ZL ?_
      exact EE.round (i + 1, true) ⟨rfl, rfl, rfl, rfl, trivial⟩ ⟨by show i + 1 ≤ 128; omega, q, r4, r16, fun _ => hT2, fun e => by cases e⟩ (by show 129 - (i + 1) < 129 - i; omega)
    · by_cases hs : 512 * (i : Int) < z
      · have hT2 : ∀ j : Nat, j < i + 1 → ((plL m)[j]?).getD 0 = 0 ∨ 512 * (j : Int) < z := fun j hj => by
          rcases (by omega : j < i ∨ j = i) with h | rfl
          · exact hT' j h
          · exact .inr hs
        clear hT' hR hfit
        refine Zc ?_; refine Zr ?_; refine Zm ?_; refine ZltT ?_; refine Zm ?_; refine Zm ?_; refine Zp ?_; refine Zq ?_; refine ZY ?_; refine ZK ?_; refine ZT ?_; refine Zc ?_; refine CC.block ?_; refine CC.region ?_; refine Zm ?_
        refine LL.val (R.index rfl rfl rfl (I.ixA1 rfl (by omega))) rfl rfl rfl ?_
        refine Zk ?_; refine ZeqF ?_; refine Zm ?_; refine Zm ?_
        refine LL.val (R.mulcN rfl rfl rfl rfl (by omega)) rfl rfl rfl ?_
        refine Zf ?_; refine Zl r4 ?_; refine ZltT ?_; refine Zp ?_; refine Za ?_; refine ZL ?_; refine EE.inN ?_; refine ZT ?_; refine CC.region ?_; refine Zm ?_
        refine LL.val (R.addNc rfl rfl rfl rfl (by omega)) rfl rfl rfl ?_
        refine Za ?_; refine ZL ?_
        exact EE.round (i + 1, true) ⟨rfl, rfl, rfl, rfl, trivial⟩ ⟨by show i + 1 ≤ 128; omega, q, r4, r16, fun _ => hT2, fun e => by cases e⟩ (by show 129 - (i + 1) < 129 - i; omega)
      · have hno : ¬fitF z m := fun hf => by
          rcases hfit.1 hf i hlt with h | h
          · rw [hy] at h; exact h0 h
          · exact hs h
        clear hT' hR hfit
        refine Zc ?_; refine Zr ?_; refine Zm ?_; refine ZltT ?_; refine Zm ?_; refine Zm ?_; refine Zp ?_; refine Zq ?_; refine ZY ?_; refine ZK ?_; refine ZT ?_; refine Zc ?_; refine CC.block ?_; refine CC.region ?_; refine Zm ?_
        refine LL.val (R.index rfl rfl rfl (I.ixA1 rfl (by omega))) rfl rfl rfl ?_
        refine Zk ?_; refine ZeqF ?_; refine Zm ?_; refine Zm ?_
        refine LL.val (R.mulcN rfl rfl rfl rfl (by omega)) rfl rfl rfl ?_
        refine Zf ?_; refine Zl r4 ?_; refine ZltF ?_; refine Zp ?_; refine Za ?_; refine ZL ?_; refine EE.inN ?_; refine ZT ?_; refine CC.region ?_; refine Zm ?_
        refine LL.val (R.addNc rfl rfl rfl rfl (by omega)) rfl rfl rfl ?_
        refine Za ?_; refine ZL ?_
        exact EE.round (i + 1, false) ⟨rfl, rfl, rfl, rfl, trivial⟩ ⟨by show i + 1 ≤ 128; omega, q, r4, r16, fun e => by (cases e), fun _ => hno⟩ (by show 129 - (i + 1) < 129 - i; omega)
end Go.Proofs.YtnoefalgmekjbaaDoor
