/- What the statements' walks use: In15, In16, In17, In18, In19, In20, In21, In22, In23, In24, In25, In26, In27, In28, Jn8, Jn9, Jn10, Jn11, Jn12, Jn13. -/

import Derived.Test.YtaeaokimhbbnfaaGreatDoorMab
import Derived.Test.YtaeaokimhbbnfaaGreatDoorMac
import Derived.Test.YtaeaokimhbbnfaaGreatDoorMad
/- inode: Of's work (written by gen15.py). -/
namespace Go.Proofs.YtaeaokimhbbnfaaGreatDoor
set_option linter.unusedVariables false
set_option linter.unusedSimpArgs false
open Go.RowKit Go.Shelf
set_option maxRecDepth 100000
set_option maxHeartbeats 8000000
theorem WdsAt.kept {W X : World} {bk off gu : Nat} {ws : List Nat} (h : WdsAt W bk off ws) (k : Kept (KU W gu) W X) (hne : bk ≠ gu) : WdsAt X bk off ws :=
  ⟨fun j x hj => (World.cell?_of_block (k.block bk ⟨h.lt, hne⟩)).trans (h.cells j x hj), Nat.lt_of_lt_of_le h.lt k.size⟩
theorem WdsAt.up {W X : World} {bk off : Nat} {ws : List Nat} (h : WdsAt W bk off ws) (b : Below W.heap.size W X) : WdsAt X bk off ws :=
  ⟨fun j x hj => cell_up (h.cells j x hj) b, Nat.lt_of_lt_of_le h.lt b.size⟩
theorem inoW_len {k l z : Int} {m : List Ex} {r p : Int} {t : Bs} (h : okI k l z m r p t) : (inoW k l z m r p t).length = 16 := by
  have hd : ∀ k l, (hdN k l).length = 16 := fun k l => by simp [hdN]
  obtain ⟨hl, ⟨rfl, rfl, rfl, hm, rfl, rfl, rfl⟩ | ⟨rfl, rfl, rfl, rfl, hf⟩ | ⟨rfl, rfl, hm, rfl, h1⟩ | ⟨rfl, rfl, hm, rfl, rfl, h1⟩⟩ := h
  · exact hd 0 0
  · show (layF _ _ _).length = 16
    have := wrdN_len hf.2.1
    exact putL_len (putL_len (hd 1 _) (by simp)) (by omega)
  · show (layD _ _ _).length = 16
    exact putL_len (hd 2 _) (by simp)
  · show (layK _ _).length = 16
    have := layL_len t
    exact putL_len (putL_len (hd 3 _) (by simp)) (by omega)
theorem weq_T {v1 v2 : Value} {l : List Nat} {w : World} (h1 : Reads w v1 (ints .u64 l)) (h2 : Reads w v2 (ints .u64 l)) (hl : l.length ≤ 1048576) : Calls Tryz.prog 40 #[v1, v2] w fun e w' => e = .returned (.bool true) ∧ Below w.heap.size w w' := by
  have h := weq_any v1 v2 l l w h1 h2 hl hl
  rw [decide_eq_true rfl] at h
  exact h
theorem weq_F {v1 v2 : Value} {l l2 : List Nat} {w : World} (h1 : Reads w v1 (ints .u64 l)) (h2 : Reads w v2 (ints .u64 l2)) (hl : l.length ≤ 1048576) (hl2 : l2.length ≤ 1048576) (hne : l ≠ l2) : Calls Tryz.prog 40 #[v1, v2] w fun e w' => e = .returned (.bool false) ∧ Below w.heap.size w w' := by
  have h := weq_any v1 v2 l l2 w h1 h2 hl hl2
  rw [decide_eq_false hne] at h
  exact h
theorem WdsAt.all {X : World} {bk off cap : Nat} {ws : List Nat} (h : WdsAt X bk off ws) (hl : ws.length = 16) (hc : 16 ≤ cap) : Reads X (.slice (some ⟨bk, off, none⟩) 16 cap) (ints .u64 ws) := by
  have h2 := h.reads 0 16 cap (by omega) hc
  rw [show (ws.drop 0).take 16 = ws by rw [List.drop_zero, List.take_of_length_le (by omega)]] at h2
  exact h2
/-- What Of's work leaves. -/
def ofP (go : Nat) (k l z : Int) (m : List Ex) (r p : Int) (t : Bs) (w0 : World) (e : Ending) (w : World) : Prop := e = .returned (.tuple #[]) ∧ (∃ v, RowL w go 80 (inL k l z v r p t) ∧ ReadsT eE 3 w v m ∧ ∀ b off n c, v = .slice (some ⟨b, off, none⟩) n c → w0.heap.size ≤ b) ∧ Kept (KW w0 go) w0 w
theorem of1_1R (gk : Nat) (gs go bk off cap : Nat) (ws : List Nat) (w : World) (hS : Start w) (hws : ws.length = 16) (hwb : ∀ x ∈ ws, x < 18446744073709551616) (hcap : 16 ≤ cap) (hs : RowL w gs 33 [.slice (some ⟨bk, off, none⟩) 16 cap]) (hW : WdsAt w bk off ws) (ho : RowL w go 80 (inL 0 0 0 (.slice none 0 0) 0 0 [])) (hne : go ≠ gs ∧ 0 < go ∧ bk ≠ go) (x0 : Nat) (h0 : ws[0]? = some x0) (hx0 : x0 ≠ 0) (l : Nat) (el : x0 / 256 % 16777216 = l) (hk : x0 % 256 = 1) (x1 : Nat) (h1 : ws[1]? = some x1) (hr : 65536 < x1 ∨ ¬mapW (wsZ ws)) : Calls Tryz.prog 77 #[.pointer (some ⟨gs, 0, none⟩), .pointer (some ⟨go, 0, none⟩)] w fun e w' => e = .panicked (chain1 refV) ∧ Kept (KW w gk) w w' := by
  have hkk := Kept.refl (KW w gk) w
  have lgs := hs.lt; have lgo := ho.lt; have lbk := hW.lt
  have hS0 := hS.pos
  have hWF : ∀ X, Below w.heap.size w X → WdsAt X bk off ws := fun X b => hW.up b
  have hSF : ∀ X, Below w.heap.size w X → Start X := fun X b => hS.up b
  have hx64 := hwb x0 (List.mem_of_getElem? h0)
  have c0 : w.cell? ⟨bk, off + 0, none⟩ = some (.int .u64 (x0 : Int)) := hW.cells 0 x0 h0
  have q := Below.refl w.heap.size w
  clear hW hS
  have hll : l < 16777216 := by omega
  refine X.fnP Tryz.func77 rfl (n := 70) rfl rfl ?_
  refine Zr ?_; refine Zl hs ?_; refine Zn ?_; refine ZneF ?_
  refine Zy (R.call rfl rfl rfl) (refuse_F _) ?_
  rintro e W' ⟨rfl, rfl⟩
  refine ⟨_, rfl, ?_⟩; refine Zq ?_; refine Zc ?_; refine Zr ?_; refine Zl hs ?_; refine Zi ?_; refine Zk ?_; refine ZeqF ?_; refine Zq ?_; refine ZN ?_; refine ZK ?_; refine ZT ?_; refine Zr ?_; refine Zl hs ?_; refine Zi ?_; refine Zk ?_
  (refine Zy (R.call rfl rfl rfl) (fld_k x0 hx64 _) ?_; rintro e _ ⟨rfl, rfl⟩; rw [hk]; refine ⟨_, rfl, ?_⟩)
  refine Zm ?_; refine Zx ?_; refine Zx ?_; refine Za ?_; refine Za ?_; refine Zq ?_; refine Zr ?_; refine Zl hs ?_; refine Zi ?_; refine Zk ?_
  (refine Zy (R.call rfl rfl rfl) (fld_l x0 hx64 _) ?_; rintro e _ ⟨rfl, rfl⟩; rw [el]; refine ⟨_, rfl, ?_⟩)
  refine Zm ?_; refine Zx ?_; refine Zx ?_; refine Za ?_; refine Za ?_; refine Zq ?_; refine Zr ?_
  refine Zy (R.call rfl rfl rfl) (kinds_any _) ?_
  rintro e W2 ⟨g4, k5, rfl, h3, b1⟩
  refine ⟨_, rfl, ?_⟩; have zb1 := b1.size; replace hs := hs.up b1; replace ho := ho.up b1; replace hkk := Zh hkk b1; have y7 := hkk.size; replace c0 := cell_up c0 b1; replace q := Zu q b1; refine Zm ?_
  refine LL.val (R.convI rfl rfl rfl rfl (wrapI (by omega) (by omega))) rfl rfl rfl ?_
  (refine LL.val (R.lookKT rfl rfl zKeys (by rfl) (z := kdZ) (by kernel_rfl) (by assumption) (1 : Int) rfl kF_1) rfl rfl rfl ?_)
  refine Zm ?_; refine Zx ?_; refine Zx ?_; have l8 := hs.lt; have l9 := ho.lt
  refine LL.alloc ([Value.nilFunc, Value.nilFunc, Value.nilFunc, Value.nilFunc]) rfl rfl rfl rfl rfl ?_
  intro W11 g12 eg12 r13 z14 b10
  replace h3 := h3.up b10; replace hs := hs.up b10; replace ho := ho.up b10; replace hkk := Zh hkk b10; have y15 := hkk.size; replace c0 := cell_up c0 b10; replace q := Zu q b10
  refine LL.storeN (vs := [fnV kd1.1, fnV kd1.2.1, fnV kd1.2.2.1, fnV kd1.2.2.2]) rfl rfl rfl rfl r13 (by exact Nat.le_of_ble_eq_true rfl) (ones_of rfl) rfl rfl ?_
  intro W17 r18 b16 z19
  have hlb16 := r13.lt
  replace r18 : RowL W17 _ 140 [fnV kd1.1, fnV kd1.2.1, fnV kd1.2.2.1, fnV kd1.2.2.2] := r18
  clear r13
  replace hs := Zd hs b16; replace ho := Zd ho b16; replace hkk := Zo hkk b16; replace c0 := Ze c0 b16; replace q := Zg q b16
  have r13 := r18
  clear r18
  refine Za ?_; refine Zq ?_; refine Zr ?_; refine Zm ?_; refine Zt ?_
  refine Zy (R.call rfl rfl rfl) (refuse_F _) ?_
  rintro e W' ⟨rfl, rfl⟩
  refine ⟨_, rfl, ?_⟩; refine Zq ?_; refine Zr ?_; refine Zm ?_
  refine LL.val (R.convI rfl rfl rfl rfl (wrapI (by omega) (by omega))) rfl rfl rfl ?_
  refine Zm ?_
  refine LL.val (R.convI rfl rfl rfl rfl (wrapI (by omega) (by omega))) rfl rfl rfl ?_
  refine LL.val (R.buildV rfl rfl (v := .agg #[Value.int IntKind.i64 ↑1, Value.int IntKind.i64 ↑l, Value.int IntKind.i64 0, Value.slice none 0 0, Value.int IntKind.i64 0, Value.int IntKind.i64 0, Value.string { data := #[] }]) (fun _ => by kernel_rfl)) rfl rfl rfl ?_
  refine LL.val (R.buildV rfl rfl (v := .agg #[Value.int IntKind.i64 1, Value.int IntKind.i64 ↑l, Value.int IntKind.i64 0, Value.slice none 0 0, Value.int IntKind.i64 0, Value.int IntKind.i64 0, Value.string { data := #[] }]) (fun _ => by kernel_rfl)) rfl rfl rfl ?_
  have l20 := hs.lt; have l21 := ho.lt; have l22 := r13.lt
  refine LL.alloc ([.int .i64 0, .int .i64 0, .int .i64 0, .slice none 0 0, .int .i64 0, .int .i64 0, .string { data := { toList := [] } }]) rfl rfl rfl rfl rfl ?_
  intro W24 g25 eg25 r26 z27 b23
  replace hs := hs.up b23; replace ho := ho.up b23; replace hkk := Zh hkk b23; have y28 := hkk.size; replace c0 := cell_up c0 b23; replace q := Zu q b23; replace r13 := r13.up b23
  refine LL.storeN (vs := [.int .i64 1, .int .i64 ↑l, .int .i64 0, .slice none 0 0, .int .i64 0, .int .i64 0, .string { data := #[] }]) rfl rfl rfl rfl r26 (by exact Nat.le_of_ble_eq_true rfl) (ones_of rfl) rfl rfl ?_
  intro W30 r31 b29 z32
  have hlb29 := r26.lt
  replace r31 : RowL W30 _ 145 [.int .i64 1, .int .i64 ↑l, .int .i64 0, .slice none 0 0, .int .i64 0, .int .i64 0, .string { data := #[] }] := r31
  clear r26
  replace hs := Zd hs b29; replace ho := Zd ho b29; replace hkk := Zo hkk b29; replace c0 := Ze c0 b29; replace q := Zg q b29; replace r13 := Zd r13 b29
  have r26 := r31
  clear r31
  refine Zq ?_; refine Zr ?_; refine Zf ?_; refine Zl r13 ?_; refine Zl hs ?_
  (refine LL.callP (R.callV rfl rfl rfl rfl) rfl rfl (rd1_F _ bk off cap ws 1 l 0 _ 0 0 [] _ (hSF _ q) (by omega) hws hwb (by assumption) (fun X hX => (hWF _ q).kept hX (by omega)) x1 h1 hr hcap) ?_; rintro e @W ⟨rfl, t9⟩; refine ⟨_, rfl, ?_⟩; replace hkk := hkk.trans (t9.less fun j hj => ⟨by have := hj.1; omega, by have := hj.1; omega⟩))
  refine EE.thenP ?_; refine EE.panM ?_
  exact ⟨rfl, hkk⟩
theorem of1_1C (gk : Nat) (gs go bk off cap : Nat) (ws : List Nat) (w : World) (hS : Start w) (hws : ws.length = 16) (hwb : ∀ x ∈ ws, x < 18446744073709551616) (hcap : 16 ≤ cap) (hs : RowL w gs 33 [.slice (some ⟨bk, off, none⟩) 16 cap]) (hW : WdsAt w bk off ws) (ho : RowL w go 80 (inL 0 0 0 (.slice none 0 0) 0 0 [])) (hne : go ≠ gs ∧ 0 < go ∧ bk ≠ go) (x0 : Nat) (h0 : ws[0]? = some x0) (hx0 : x0 ≠ 0) (l : Nat) (el : x0 / 256 % 16777216 = l) (hk : x0 % 256 = 1) (x1 : Nat) (h1 : ws[1]? = some x1) (hr1 : x1 ≤ 65536) (hr2 : mapW (wsZ ws)) (hok1 : ¬okI 1 (l : Int) (x1 : Int) (outZ (wsZ ws)) 0 0 []) : Calls Tryz.prog 77 #[.pointer (some ⟨gs, 0, none⟩), .pointer (some ⟨go, 0, none⟩)] w fun e w' => e = .panicked (chain1 refV) ∧ Kept (KW w gk) w w' := by
  have hkk := Kept.refl (KW w gk) w
  have lgs := hs.lt; have lgo := ho.lt; have lbk := hW.lt
  have hS0 := hS.pos
  have hWF : ∀ X, Below w.heap.size w X → WdsAt X bk off ws := fun X b => hW.up b
  have hSF : ∀ X, Below w.heap.size w X → Start X := fun X b => hS.up b
  have hx64 := hwb x0 (List.mem_of_getElem? h0)
  have c0 : w.cell? ⟨bk, off + 0, none⟩ = some (.int .u64 (x0 : Int)) := hW.cells 0 x0 h0
  have q := Below.refl w.heap.size w
  clear hW hS
  have hll : l < 16777216 := by omega
  have hml : ((outZ (wsZ ws)) : List Ex).length ≤ 1048576 := by have := outZ_len (wsZ ws); have := wsZ_len hws; omega
  have htl : ([] : Bs).length ≤ 1048576 := by simp
  refine X.fnP Tryz.func77 rfl (n := 70) rfl rfl ?_
  refine Zr ?_; refine Zl hs ?_; refine Zn ?_; refine ZneF ?_
  refine Zy (R.call rfl rfl rfl) (refuse_F _) ?_
  rintro e W' ⟨rfl, rfl⟩
  refine ⟨_, rfl, ?_⟩; refine Zq ?_; refine Zc ?_; refine Zr ?_; refine Zl hs ?_; refine Zi ?_; refine Zk ?_; refine ZeqF ?_; refine Zq ?_; refine ZN ?_; refine ZK ?_; refine ZT ?_; refine Zr ?_; refine Zl hs ?_; refine Zi ?_; refine Zk ?_
  (refine Zy (R.call rfl rfl rfl) (fld_k x0 hx64 _) ?_; rintro e _ ⟨rfl, rfl⟩; rw [hk]; refine ⟨_, rfl, ?_⟩)
  refine Zm ?_; refine Zx ?_; refine Zx ?_; refine Za ?_; refine Za ?_; refine Zq ?_; refine Zr ?_; refine Zl hs ?_; refine Zi ?_; refine Zk ?_
  (refine Zy (R.call rfl rfl rfl) (fld_l x0 hx64 _) ?_; rintro e _ ⟨rfl, rfl⟩; rw [el]; refine ⟨_, rfl, ?_⟩)
  refine Zm ?_; refine Zx ?_; refine Zx ?_; refine Za ?_; refine Za ?_; refine Zq ?_; refine Zr ?_
  refine Zy (R.call rfl rfl rfl) (kinds_any _) ?_
  rintro e W402 ⟨g404, k405, rfl, h403, b401⟩
  refine ⟨_, rfl, ?_⟩; have zb401 := b401.size; replace hs := hs.up b401; replace ho := ho.up b401; replace hkk := Zh hkk b401; have y407 := hkk.size; replace c0 := cell_up c0 b401; replace q := Zu q b401; refine Zm ?_
  refine LL.val (R.convI rfl rfl rfl rfl (wrapI (by omega) (by omega))) rfl rfl rfl ?_
  (refine LL.val (R.lookKT rfl rfl zKeys (by rfl) (z := kdZ) (by kernel_rfl) (by assumption) (1 : Int) rfl kF_1) rfl rfl rfl ?_)
  refine Zm ?_; refine Zx ?_; refine Zx ?_; have l520 := hs.lt; have l521 := ho.lt
  refine LL.alloc ([Value.nilFunc, Value.nilFunc, Value.nilFunc, Value.nilFunc]) rfl rfl rfl rfl rfl ?_
  intro W523 g524 eg524 r525 z526 b522
  replace h403 := h403.up b522; replace b401 := Zu b401 b522; replace hs := hs.up b522; replace ho := ho.up b522; replace hkk := Zh hkk b522; have y527 := hkk.size; replace c0 := cell_up c0 b522; replace q := Zu q b522
  refine LL.storeN (vs := [fnV kd1.1, fnV kd1.2.1, fnV kd1.2.2.1, fnV kd1.2.2.2]) rfl rfl rfl rfl r525 (by exact Nat.le_of_ble_eq_true rfl) (ones_of rfl) rfl rfl ?_
  intro W546 r547 b545 z548
  have hlb545 := r525.lt
  replace r547 : RowL W546 _ 140 [fnV kd1.1, fnV kd1.2.1, fnV kd1.2.2.1, fnV kd1.2.2.2] := r547
  clear r525
  replace b522 := Zg b522 b545; replace b401 := Zg b401 b545; replace hs := Zd hs b545; replace ho := Zd ho b545; replace hkk := Zo hkk b545; replace c0 := Ze c0 b545; replace q := Zg q b545
  have r525 := r547
  clear r547
  refine Za ?_; refine Zq ?_; refine Zr ?_; refine Zm ?_; refine Zt ?_
  refine Zy (R.call rfl rfl rfl) (refuse_F _) ?_
  rintro e W' ⟨rfl, rfl⟩
  refine ⟨_, rfl, ?_⟩; refine Zq ?_; refine Zr ?_; refine Zm ?_
  refine LL.val (R.convI rfl rfl rfl rfl (wrapI (by omega) (by omega))) rfl rfl rfl ?_
  refine Zm ?_
  refine LL.val (R.convI rfl rfl rfl rfl (wrapI (by omega) (by omega))) rfl rfl rfl ?_
  refine LL.val (R.buildV rfl rfl (v := .agg #[Value.int IntKind.i64 ↑1, Value.int IntKind.i64 ↑l, Value.int IntKind.i64 0, Value.slice none 0 0, Value.int IntKind.i64 0, Value.int IntKind.i64 0, Value.string { data := #[] }]) (fun _ => by kernel_rfl)) rfl rfl rfl ?_
  refine LL.val (R.buildV rfl rfl (v := .agg #[Value.int IntKind.i64 1, Value.int IntKind.i64 ↑l, Value.int IntKind.i64 0, Value.slice none 0 0, Value.int IntKind.i64 0, Value.int IntKind.i64 0, Value.string { data := #[] }]) (fun _ => by kernel_rfl)) rfl rfl rfl ?_
  have l736 := hs.lt; have l737 := ho.lt; have l738 := r525.lt
  refine LL.alloc ([.int .i64 0, .int .i64 0, .int .i64 0, .slice none 0 0, .int .i64 0, .int .i64 0, .string { data := { toList := [] } }]) rfl rfl rfl rfl rfl ?_
  intro W740 g741 eg741 r742 z743 b739
  replace b522 := Zu b522 b739; replace b401 := Zu b401 b739; replace hs := hs.up b739; replace ho := ho.up b739; replace hkk := Zh hkk b739; have y744 := hkk.size; replace c0 := cell_up c0 b739; replace q := Zu q b739; replace r525 := r525.up b739
  refine LL.storeN (vs := [.int .i64 1, .int .i64 ↑l, .int .i64 0, .slice none 0 0, .int .i64 0, .int .i64 0, .string { data := #[] }]) rfl rfl rfl rfl r742 (by exact Nat.le_of_ble_eq_true rfl) (ones_of rfl) rfl rfl ?_
  intro W764 r765 b763 z766
  have hlb763 := r742.lt
  replace r765 : RowL W764 _ 145 [.int .i64 1, .int .i64 ↑l, .int .i64 0, .slice none 0 0, .int .i64 0, .int .i64 0, .string { data := #[] }] := r765
  clear r742
  replace b739 := Zg b739 b763; replace b522 := Zg b522 b763; replace b401 := Zg b401 b763; replace hs := Zd hs b763; replace ho := Zd ho b763; replace hkk := Zo hkk b763; replace c0 := Ze c0 b763; replace q := Zg q b763; replace r525 := Zd r525 b763
  have r742 := r765
  clear r765
  refine Zq ?_; refine Zr ?_; refine Zf ?_; refine Zl r525 ?_; refine Zl hs ?_
  (refine LL.call (R.callV rfl rfl rfl rfl) rfl rfl rfl (rd1_T _ bk off cap ws 1 l 0 _ 0 0 [] _ (hSF _ q) (by omega) hws hwb (by assumption) (fun X hX => (hWF _ q).kept hX (by omega)) x1 h1 hr1 hr2 hcap) ?_; rintro e W824 ⟨rfl, ⟨v8, hN8, hv8, hge8⟩, t823⟩; refine ⟨_, rfl, ?_⟩; replace hkk := hkk.trans (t823.less fun j hj => ⟨by have := hj.1; omega, by have := hj.1; omega⟩); have hu8 := hN8; clear hN8; obtain ⟨x8, c8, rfl, hc8⟩ := hv8.form rfl; have hv8F := fun X (b : Below (W824).heap.size (W824) X) => hv8.up b; have q8 := Below.refl (W824).heap.size (W824); clear hv8)
  have zt823 := t823.size
  replace b739 := t823.onB b739 (fun j hj => ⟨by have := b739.size; omega, by omega⟩)
  replace b522 := t823.onB b522 (fun j hj => ⟨by have := b522.size; omega, by omega⟩)
  replace b401 := t823.onB b401 (fun j hj => ⟨by have := b401.size; omega, by omega⟩)
  replace hs := hs.kept t823 ⟨hs.lt, by omega⟩
  replace ho := ho.kept t823 ⟨ho.lt, by omega⟩
  replace c0 := cell_kept c0 t823 ⟨World.block_lt_of_cell? _ _ c0, by omega⟩
  replace q := t823.onB q (fun j hj => ⟨by have := q.size; omega, by omega⟩)
  replace r525 := r525.kept t823 ⟨r525.lt, by omega⟩
  refine Zq ?_; refine Zr ?_; refine Zf ?_; refine Zv hu8 ?_; have l875 := hu8.lt; have l876 := hs.lt; have l877 := ho.lt; have l878 := r525.lt
  (refine Zy (R.call rfl rfl rfl) (words_no 1 (l : Int) (x1 : Int) x8 (outZ (wsZ ws)).length c8 (outZ (wsZ ws)) 0 0 [] _ (hv8F _ q8) hml htl hok1) ?_; rintro e W874 ⟨rfl, b871⟩; refine ⟨_, rfl, ?_⟩)
  have zb871 := b871.size; replace hkk := Zh hkk b871; have y882 := hkk.size; replace hu8 := hu8.up b871; replace q8 := Zu q8 b871; replace b739 := Zu b739 b871; replace b522 := Zu b522 b871; replace b401 := Zu b401 b871; replace hs := hs.up b871; replace ho := ho.up b871; replace c0 := cell_up c0 b871; replace q := Zu q b871; replace r525 := r525.up b871; refine Zm ?_; refine Zx ?_; refine Zx ?_; refine Za ?_
  refine Za ?_; refine Zq ?_; refine Zr ?_; refine Zm ?_; refine ZneT ?_; refine Zm ?_; refine Zs ?_; refine Zs ?_; refine Zs ?_; refine Zs ?_; refine Zp ?_
  refine LL.callP (R.call rfl rfl rfl) rfl rfl (refuse_T _) ?_
  rintro e W1064 ⟨rfl, rfl⟩
  refine ⟨_, rfl, ?_⟩; refine EE.thenP ?_; refine EE.panM ?_
  exact ⟨rfl, hkk⟩
theorem of1_1W (gk : Nat) (gs go bk off cap : Nat) (ws : List Nat) (w : World) (hS : Start w) (hws : ws.length = 16) (hwb : ∀ x ∈ ws, x < 18446744073709551616) (hcap : 16 ≤ cap) (hs : RowL w gs 33 [.slice (some ⟨bk, off, none⟩) 16 cap]) (hW : WdsAt w bk off ws) (ho : RowL w go 80 (inL 0 0 0 (.slice none 0 0) 0 0 [])) (hne : go ≠ gs ∧ 0 < go ∧ bk ≠ go) (x0 : Nat) (h0 : ws[0]? = some x0) (hx0 : x0 ≠ 0) (l : Nat) (el : x0 / 256 % 16777216 = l) (hk : x0 % 256 = 1) (x1 : Nat) (h1 : ws[1]? = some x1) (hr1 : x1 ≤ 65536) (hr2 : mapW (wsZ ws)) (hok1 : okI 1 (l : Int) (x1 : Int) (outZ (wsZ ws)) 0 0 []) (heq : inoW 1 (l : Int) (x1 : Int) (outZ (wsZ ws)) 0 0 [] ≠ ws) : Calls Tryz.prog 77 #[.pointer (some ⟨gs, 0, none⟩), .pointer (some ⟨go, 0, none⟩)] w fun e w' => e = .panicked (chain1 refV) ∧ Kept (KW w gk) w w' := by
  have hkk := Kept.refl (KW w gk) w
  have lgs := hs.lt; have lgo := ho.lt; have lbk := hW.lt
  have hS0 := hS.pos
  have hWF : ∀ X, Below w.heap.size w X → WdsAt X bk off ws := fun X b => hW.up b
  have hSF : ∀ X, Below w.heap.size w X → Start X := fun X b => hS.up b
  have hx64 := hwb x0 (List.mem_of_getElem? h0)
  have c0 : w.cell? ⟨bk, off + 0, none⟩ = some (.int .u64 (x0 : Int)) := hW.cells 0 x0 h0
  have q := Below.refl w.heap.size w
  clear hW hS
  have hll : l < 16777216 := by omega
  have hml : ((outZ (wsZ ws)) : List Ex).length ≤ 1048576 := by have := outZ_len (wsZ ws); have := wsZ_len hws; omega
  refine X.fnP Tryz.func77 rfl (n := 70) rfl rfl ?_
  refine Zr ?_; refine Zl hs ?_; refine Zn ?_; refine ZneF ?_
  refine Zy (R.call rfl rfl rfl) (refuse_F _) ?_
  rintro e W' ⟨rfl, rfl⟩
  refine ⟨_, rfl, ?_⟩; refine Zq ?_; refine Zc ?_; refine Zr ?_; refine Zl hs ?_; refine Zi ?_; refine Zk ?_; refine ZeqF ?_; refine Zq ?_; refine ZN ?_; refine ZK ?_; refine ZT ?_; refine Zr ?_; refine Zl hs ?_; refine Zi ?_; refine Zk ?_
  (refine Zy (R.call rfl rfl rfl) (fld_k x0 hx64 _) ?_; rintro e _ ⟨rfl, rfl⟩; rw [hk]; refine ⟨_, rfl, ?_⟩)
  refine Zm ?_; refine Zx ?_; refine Zx ?_; refine Za ?_; refine Za ?_; refine Zq ?_; refine Zr ?_; refine Zl hs ?_; refine Zi ?_; refine Zk ?_
  (refine Zy (R.call rfl rfl rfl) (fld_l x0 hx64 _) ?_; rintro e _ ⟨rfl, rfl⟩; rw [el]; refine ⟨_, rfl, ?_⟩)
  refine Zm ?_; refine Zx ?_; refine Zx ?_; refine Za ?_; refine Za ?_; refine Zq ?_; refine Zr ?_
  refine Zy (R.call rfl rfl rfl) (kinds_any _) ?_
  rintro e W627 ⟨g629, k630, rfl, h628, b626⟩
  refine ⟨_, rfl, ?_⟩; have zb626 := b626.size; replace hs := hs.up b626; replace ho := ho.up b626; replace hkk := Zh hkk b626; have y632 := hkk.size; replace c0 := cell_up c0 b626; replace q := Zu q b626; refine Zm ?_
  refine LL.val (R.convI rfl rfl rfl rfl (wrapI (by omega) (by omega))) rfl rfl rfl ?_
  (refine LL.val (R.lookKT rfl rfl zKeys (by rfl) (z := kdZ) (by kernel_rfl) (by assumption) (1 : Int) rfl kF_1) rfl rfl rfl ?_)
  refine Zm ?_; refine Zx ?_; refine Zx ?_; have l808 := hs.lt; have l809 := ho.lt
  refine LL.alloc ([Value.nilFunc, Value.nilFunc, Value.nilFunc, Value.nilFunc]) rfl rfl rfl rfl rfl ?_
  intro W811 g812 eg812 r813 z814 b810
  replace h628 := h628.up b810; replace b626 := Zu b626 b810; replace hs := hs.up b810; replace ho := ho.up b810; replace hkk := Zh hkk b810; have y815 := hkk.size; replace c0 := cell_up c0 b810; replace q := Zu q b810
  refine LL.storeN (vs := [fnV kd1.1, fnV kd1.2.1, fnV kd1.2.2.1, fnV kd1.2.2.2]) rfl rfl rfl rfl r813 (by exact Nat.le_of_ble_eq_true rfl) (ones_of rfl) rfl rfl ?_
  intro W844 r845 b843 z846
  have hlb843 := r813.lt
  replace r845 : RowL W844 _ 140 [fnV kd1.1, fnV kd1.2.1, fnV kd1.2.2.1, fnV kd1.2.2.2] := r845
  clear r813
  replace b810 := Zg b810 b843; replace b626 := Zg b626 b843; replace hs := Zd hs b843; replace ho := Zd ho b843; replace hkk := Zo hkk b843; replace c0 := Ze c0 b843; replace q := Zg q b843
  have r813 := r845
  clear r845
  refine Za ?_; refine Zq ?_; refine Zr ?_; refine Zm ?_; refine Zt ?_
  refine Zy (R.call rfl rfl rfl) (refuse_F _) ?_
  rintro e W' ⟨rfl, rfl⟩
  refine ⟨_, rfl, ?_⟩; refine Zq ?_; refine Zr ?_; refine Zm ?_
  refine LL.val (R.convI rfl rfl rfl rfl (wrapI (by omega) (by omega))) rfl rfl rfl ?_
  refine Zm ?_
  refine LL.val (R.convI rfl rfl rfl rfl (wrapI (by omega) (by omega))) rfl rfl rfl ?_
  refine LL.val (R.buildV rfl rfl (v := .agg #[Value.int IntKind.i64 ↑1, Value.int IntKind.i64 ↑l, Value.int IntKind.i64 0, Value.slice none 0 0, Value.int IntKind.i64 0, Value.int IntKind.i64 0, Value.string { data := #[] }]) (fun _ => by kernel_rfl)) rfl rfl rfl ?_
  refine LL.val (R.buildV rfl rfl (v := .agg #[Value.int IntKind.i64 1, Value.int IntKind.i64 ↑l, Value.int IntKind.i64 0, Value.slice none 0 0, Value.int IntKind.i64 0, Value.int IntKind.i64 0, Value.string { data := #[] }]) (fun _ => by kernel_rfl)) rfl rfl rfl ?_
  have l1144 := hs.lt; have l1145 := ho.lt; have l1146 := r813.lt
  refine LL.alloc ([.int .i64 0, .int .i64 0, .int .i64 0, .slice none 0 0, .int .i64 0, .int .i64 0, .string { data := { toList := [] } }]) rfl rfl rfl rfl rfl ?_
  intro W1148 g1149 eg1149 r1150 z1151 b1147
  replace b810 := Zu b810 b1147; replace b626 := Zu b626 b1147; replace hs := hs.up b1147; replace ho := ho.up b1147; replace hkk := Zh hkk b1147; have y1152 := hkk.size; replace c0 := cell_up c0 b1147; replace q := Zu q b1147; replace r813 := r813.up b1147
  refine LL.storeN (vs := [.int .i64 1, .int .i64 ↑l, .int .i64 0, .slice none 0 0, .int .i64 0, .int .i64 0, .string { data := #[] }]) rfl rfl rfl rfl r1150 (by exact Nat.le_of_ble_eq_true rfl) (ones_of rfl) rfl rfl ?_
  intro W1183 r1184 b1182 z1185
  have hlb1182 := r1150.lt
  replace r1184 : RowL W1183 _ 145 [.int .i64 1, .int .i64 ↑l, .int .i64 0, .slice none 0 0, .int .i64 0, .int .i64 0, .string { data := #[] }] := r1184
  clear r1150
  replace b1147 := Zg b1147 b1182; replace b810 := Zg b810 b1182; replace b626 := Zg b626 b1182; replace hs := Zd hs b1182; replace ho := Zd ho b1182; replace hkk := Zo hkk b1182; replace c0 := Ze c0 b1182; replace q := Zg q b1182; replace r813 := Zd r813 b1182
  have r1150 := r1184
  clear r1184
  refine Zq ?_; refine Zr ?_; refine Zf ?_; refine Zl r813 ?_; refine Zl hs ?_
  (refine LL.call (R.callV rfl rfl rfl rfl) rfl rfl rfl (rd1_T _ bk off cap ws 1 l 0 _ 0 0 [] _ (hSF _ q) (by omega) hws hwb (by assumption) (fun X hX => (hWF _ q).kept hX (by omega)) x1 h1 hr1 hr2 hcap) ?_; rintro e W1276 ⟨rfl, ⟨v8, hN8, hv8, hge8⟩, t1275⟩; refine ⟨_, rfl, ?_⟩; replace hkk := hkk.trans (t1275.less fun j hj => ⟨by have := hj.1; omega, by have := hj.1; omega⟩); have hu8 := hN8; clear hN8; obtain ⟨x8, c8, rfl, hc8⟩ := hv8.form rfl; have hv8F := fun X (b : Below (W1276).heap.size (W1276) X) => hv8.up b; have q8 := Below.refl (W1276).heap.size (W1276); clear hv8)
  have zt1275 := t1275.size
  replace b1147 := t1275.onB b1147 (fun j hj => ⟨by have := b1147.size; omega, by omega⟩)
  replace b810 := t1275.onB b810 (fun j hj => ⟨by have := b810.size; omega, by omega⟩)
  replace b626 := t1275.onB b626 (fun j hj => ⟨by have := b626.size; omega, by omega⟩)
  replace hs := hs.kept t1275 ⟨hs.lt, by omega⟩
  replace ho := ho.kept t1275 ⟨ho.lt, by omega⟩
  replace c0 := cell_kept c0 t1275 ⟨World.block_lt_of_cell? _ _ c0, by omega⟩
  replace q := t1275.onB q (fun j hj => ⟨by have := q.size; omega, by omega⟩)
  replace r813 := r813.kept t1275 ⟨r813.lt, by omega⟩
  refine Zq ?_; refine Zr ?_; refine Zf ?_; refine Zv hu8 ?_; have l1349 := hu8.lt; have l1350 := hs.lt; have l1351 := ho.lt; have l1352 := r813.lt
  (refine Zy (R.call rfl rfl rfl) (words_ok 1 (l : Int) (x1 : Int) x8 (outZ (wsZ ws)).length c8 (outZ (wsZ ws)) 0 0 [] _ (hSF _ q) (hv8F _ q8) hml hok1) ?_; rintro e W1348 ⟨g9, rfl, r9, hg9, b1345⟩; refine ⟨_, rfl, ?_⟩)
  have zb1345 := b1345.size; replace hkk := Zh hkk b1345; have y1356 := hkk.size; replace hu8 := hu8.up b1345; replace q8 := Zu q8 b1345; replace b1147 := Zu b1147 b1345; replace b810 := Zu b810 b1345; replace b626 := Zu b626 b1345; replace hs := hs.up b1345; replace ho := ho.up b1345; replace c0 := cell_up c0 b1345; replace q := Zu q b1345; replace r813 := r813.up b1345; refine Zm ?_; refine Zx ?_
  refine Zx ?_; refine Za ?_; refine Za ?_; refine Zq ?_; refine Zr ?_; refine Zm ?_; refine ZneF ?_; refine Zm ?_; refine Zm ?_; refine Zl hs ?_; have l1690 := r9.lt; have l1691 := hu8.lt; have l1692 := hs.lt; have l1693 := ho.lt; have l1694 := r813.lt
  (refine Zy (R.call rfl rfl rfl) (weq_F (RowL.asInts r9 .u64 _ rfl (inoW_len hok1)) ((hWF _ q).all hws hcap) (by rw [inoW_len hok1]; omega) (by omega) heq) ?_; rintro e W1689 ⟨rfl, b1686⟩; refine ⟨_, rfl, ?_⟩)
  have zb1686 := b1686.size; replace r9 := r9.up b1686; replace hkk := Zh hkk b1686; have y1698 := hkk.size; replace hu8 := hu8.up b1686; replace q8 := Zu q8 b1686; replace b1147 := Zu b1147 b1686; replace b810 := Zu b810 b1686; replace b626 := Zu b626 b1686; replace hs := hs.up b1686; replace ho := ho.up b1686; replace c0 := cell_up c0 b1686; replace q := Zu q b1686; replace r813 := r813.up b1686
  refine Zt ?_; refine Zp ?_
  refine LL.callP (R.call rfl rfl rfl) rfl rfl (refuse_T _) ?_
  rintro e W1793 ⟨rfl, rfl⟩
  refine ⟨_, rfl, ?_⟩; refine EE.thenP ?_; refine EE.panM ?_
  exact ⟨rfl, hkk⟩
theorem of1_1T (gs go bk off cap : Nat) (ws : List Nat) (w : World) (hS : Start w) (hws : ws.length = 16) (hwb : ∀ x ∈ ws, x < 18446744073709551616) (hcap : 16 ≤ cap) (hs : RowL w gs 33 [.slice (some ⟨bk, off, none⟩) 16 cap]) (hW : WdsAt w bk off ws) (ho : RowL w go 80 (inL 0 0 0 (.slice none 0 0) 0 0 [])) (hne : go ≠ gs ∧ 0 < go ∧ bk ≠ go) (x0 : Nat) (h0 : ws[0]? = some x0) (hx0 : x0 ≠ 0) (l : Nat) (el : x0 / 256 % 16777216 = l) (hk : x0 % 256 = 1) (x1 : Nat) (h1 : ws[1]? = some x1) (hr1 : x1 ≤ 65536) (hr2 : mapW (wsZ ws)) (hok1 : okI 1 (l : Int) (x1 : Int) (outZ (wsZ ws)) 0 0 []) (heq : inoW 1 (l : Int) (x1 : Int) (outZ (wsZ ws)) 0 0 [] = ws) : Calls Tryz.prog 77 #[.pointer (some ⟨gs, 0, none⟩), .pointer (some ⟨go, 0, none⟩)] w (ofP go 1 (l : Int) (x1 : Int) (outZ (wsZ ws)) 0 0 [] w) := by
  unfold ofP
  have hkk := Kept.refl (KW w go) w
  have lgs := hs.lt; have lgo := ho.lt; have lbk := hW.lt
  have hS0 := hS.pos
  have hWF : ∀ X, Below w.heap.size w X → WdsAt X bk off ws := fun X b => hW.up b
  have hSF : ∀ X, Below w.heap.size w X → Start X := fun X b => hS.up b
  have hx64 := hwb x0 (List.mem_of_getElem? h0)
  have c0 : w.cell? ⟨bk, off + 0, none⟩ = some (.int .u64 (x0 : Int)) := hW.cells 0 x0 h0
  have q := Below.refl w.heap.size w
  clear hW hS
  have hll : l < 16777216 := by omega
  have hml : ((outZ (wsZ ws)) : List Ex).length ≤ 1048576 := by have := outZ_len (wsZ ws); have := wsZ_len hws; omega
  refine X.fn Tryz.func77 rfl (n := 70) rfl rfl ?_
  refine Zr ?_; refine Zl hs ?_; refine Zn ?_; refine ZneF ?_
  refine Zy (R.call rfl rfl rfl) (refuse_F _) ?_
  rintro e W' ⟨rfl, rfl⟩
  refine ⟨_, rfl, ?_⟩; refine Zq ?_; refine Zc ?_; refine Zr ?_; refine Zl hs ?_; refine Zi ?_; refine Zk ?_; refine ZeqF ?_; refine Zq ?_; refine ZN ?_; refine ZK ?_; refine ZT ?_; refine Zr ?_; refine Zl hs ?_; refine Zi ?_; refine Zk ?_
  (refine Zy (R.call rfl rfl rfl) (fld_k x0 hx64 _) ?_; rintro e _ ⟨rfl, rfl⟩; rw [hk]; refine ⟨_, rfl, ?_⟩)
  refine Zm ?_; refine Zx ?_; refine Zx ?_; refine Za ?_; refine Za ?_; refine Zq ?_; refine Zr ?_; refine Zl hs ?_; refine Zi ?_; refine Zk ?_
  (refine Zy (R.call rfl rfl rfl) (fld_l x0 hx64 _) ?_; rintro e _ ⟨rfl, rfl⟩; rw [el]; refine ⟨_, rfl, ?_⟩)
  refine Zm ?_; refine Zx ?_; refine Zx ?_; refine Za ?_; refine Za ?_; refine Zq ?_; refine Zr ?_
  refine Zy (R.call rfl rfl rfl) (kinds_any _) ?_
  rintro e W627 ⟨g629, k630, rfl, h628, b626⟩
  refine ⟨_, rfl, ?_⟩; have zb626 := b626.size; replace hs := hs.up b626; replace ho := ho.up b626; replace hkk := Zh hkk b626; have y632 := hkk.size; replace c0 := cell_up c0 b626; replace q := Zu q b626; refine Zm ?_
  refine LL.val (R.convI rfl rfl rfl rfl (wrapI (by omega) (by omega))) rfl rfl rfl ?_
  (refine LL.val (R.lookKT rfl rfl zKeys (by rfl) (z := kdZ) (by kernel_rfl) (by assumption) (1 : Int) rfl kF_1) rfl rfl rfl ?_)
  refine Zm ?_; refine Zx ?_; refine Zx ?_; have l808 := hs.lt; have l809 := ho.lt
  refine LL.alloc ([Value.nilFunc, Value.nilFunc, Value.nilFunc, Value.nilFunc]) rfl rfl rfl rfl rfl ?_
  intro W811 g812 eg812 r813 z814 b810
  replace h628 := h628.up b810; replace b626 := Zu b626 b810; replace hs := hs.up b810; replace ho := ho.up b810; replace hkk := Zh hkk b810; have y815 := hkk.size; replace c0 := cell_up c0 b810; replace q := Zu q b810
  refine LL.storeN (vs := [fnV kd1.1, fnV kd1.2.1, fnV kd1.2.2.1, fnV kd1.2.2.2]) rfl rfl rfl rfl r813 (by exact Nat.le_of_ble_eq_true rfl) (ones_of rfl) rfl rfl ?_
  intro W844 r845 b843 z846
  have hlb843 := r813.lt
  replace r845 : RowL W844 _ 140 [fnV kd1.1, fnV kd1.2.1, fnV kd1.2.2.1, fnV kd1.2.2.2] := r845
  clear r813
  replace b810 := Zg b810 b843; replace b626 := Zg b626 b843; replace hs := Zd hs b843; replace ho := Zd ho b843; replace hkk := Zo hkk b843; replace c0 := Ze c0 b843; replace q := Zg q b843
  have r813 := r845
  clear r845
  refine Za ?_; refine Zq ?_; refine Zr ?_; refine Zm ?_; refine Zt ?_
  refine Zy (R.call rfl rfl rfl) (refuse_F _) ?_
  rintro e W' ⟨rfl, rfl⟩
  refine ⟨_, rfl, ?_⟩; refine Zq ?_; refine Zr ?_; refine Zm ?_
  refine LL.val (R.convI rfl rfl rfl rfl (wrapI (by omega) (by omega))) rfl rfl rfl ?_
  refine Zm ?_
  refine LL.val (R.convI rfl rfl rfl rfl (wrapI (by omega) (by omega))) rfl rfl rfl ?_
  refine LL.val (R.buildV rfl rfl (v := .agg #[Value.int IntKind.i64 ↑1, Value.int IntKind.i64 ↑l, Value.int IntKind.i64 0, Value.slice none 0 0, Value.int IntKind.i64 0, Value.int IntKind.i64 0, Value.string { data := #[] }]) (fun _ => by kernel_rfl)) rfl rfl rfl ?_
  refine LL.val (R.buildV rfl rfl (v := .agg #[Value.int IntKind.i64 1, Value.int IntKind.i64 ↑l, Value.int IntKind.i64 0, Value.slice none 0 0, Value.int IntKind.i64 0, Value.int IntKind.i64 0, Value.string { data := #[] }]) (fun _ => by kernel_rfl)) rfl rfl rfl ?_
  have l1144 := hs.lt; have l1145 := ho.lt; have l1146 := r813.lt
  refine LL.alloc ([.int .i64 0, .int .i64 0, .int .i64 0, .slice none 0 0, .int .i64 0, .int .i64 0, .string { data := { toList := [] } }]) rfl rfl rfl rfl rfl ?_
  intro W1148 g1149 eg1149 r1150 z1151 b1147
  replace b810 := Zu b810 b1147; replace b626 := Zu b626 b1147; replace hs := hs.up b1147; replace ho := ho.up b1147; replace hkk := Zh hkk b1147; have y1152 := hkk.size; replace c0 := cell_up c0 b1147; replace q := Zu q b1147; replace r813 := r813.up b1147
  refine LL.storeN (vs := [.int .i64 1, .int .i64 ↑l, .int .i64 0, .slice none 0 0, .int .i64 0, .int .i64 0, .string { data := #[] }]) rfl rfl rfl rfl r1150 (by exact Nat.le_of_ble_eq_true rfl) (ones_of rfl) rfl rfl ?_
  intro W1183 r1184 b1182 z1185
  have hlb1182 := r1150.lt
  replace r1184 : RowL W1183 _ 145 [.int .i64 1, .int .i64 ↑l, .int .i64 0, .slice none 0 0, .int .i64 0, .int .i64 0, .string { data := #[] }] := r1184
  clear r1150
  replace b1147 := Zg b1147 b1182; replace b810 := Zg b810 b1182; replace b626 := Zg b626 b1182; replace hs := Zd hs b1182; replace ho := Zd ho b1182; replace hkk := Zo hkk b1182; replace c0 := Ze c0 b1182; replace q := Zg q b1182; replace r813 := Zd r813 b1182
  have r1150 := r1184
  clear r1184
  refine Zq ?_; refine Zr ?_; refine Zf ?_; refine Zl r813 ?_; refine Zl hs ?_
  (refine LL.call (R.callV rfl rfl rfl rfl) rfl rfl rfl (rd1_T _ bk off cap ws 1 l 0 _ 0 0 [] _ (hSF _ q) (by omega) hws hwb (by assumption) (fun X hX => (hWF _ q).kept hX (by omega)) x1 h1 hr1 hr2 hcap) ?_; rintro e W1276 ⟨rfl, ⟨v8, hN8, hv8, hge8⟩, t1275⟩; refine ⟨_, rfl, ?_⟩; replace hkk := hkk.trans (t1275.less fun j hj => ⟨by have := hj.1; omega, by have := hj.1; omega⟩); have hu8 := hN8; clear hN8; obtain ⟨x8, c8, rfl, hc8⟩ := hv8.form rfl; have hv8F := fun X (b : Below (W1276).heap.size (W1276) X) => hv8.up b; have q8 := Below.refl (W1276).heap.size (W1276); clear hv8; have hk8 := Kept.refl (fun i => i < (W1276).heap.size ∧ i ≠ go) (W1276))
  have zt1275 := t1275.size
  replace b1147 := t1275.onB b1147 (fun j hj => ⟨by have := b1147.size; omega, by omega⟩)
  replace b810 := t1275.onB b810 (fun j hj => ⟨by have := b810.size; omega, by omega⟩)
  replace b626 := t1275.onB b626 (fun j hj => ⟨by have := b626.size; omega, by omega⟩)
  replace hs := hs.kept t1275 ⟨hs.lt, by omega⟩
  replace ho := ho.kept t1275 ⟨ho.lt, by omega⟩
  replace c0 := cell_kept c0 t1275 ⟨World.block_lt_of_cell? _ _ c0, by omega⟩
  replace q := t1275.onB q (fun j hj => ⟨by have := q.size; omega, by omega⟩)
  replace r813 := r813.kept t1275 ⟨r813.lt, by omega⟩
  refine Zq ?_; refine Zr ?_; refine Zf ?_; refine Zv hu8 ?_; have l1349 := hu8.lt; have l1350 := hs.lt; have l1351 := ho.lt; have l1352 := r813.lt
  (refine Zy (R.call rfl rfl rfl) (words_ok 1 (l : Int) (x1 : Int) x8 (outZ (wsZ ws)).length c8 (outZ (wsZ ws)) 0 0 [] _ (hSF _ q) (hv8F _ q8) hml hok1) ?_; rintro e W1348 ⟨g9, rfl, r9, hg9, b1345⟩; refine ⟨_, rfl, ?_⟩)
  have zb1345 := b1345.size; replace hkk := Zh hkk b1345; have y1356 := hkk.size; replace hu8 := hu8.up b1345; replace q8 := Zu q8 b1345; replace hk8 := Zh hk8 b1345; have y1357 := hk8.size; replace b1147 := Zu b1147 b1345; replace b810 := Zu b810 b1345; replace b626 := Zu b626 b1345; replace hs := hs.up b1345; replace ho := ho.up b1345; replace c0 := cell_up c0 b1345; replace q := Zu q b1345; replace r813 := r813.up b1345
  refine Zm ?_; refine Zx ?_; refine Zx ?_; refine Za ?_; refine Za ?_; refine Zq ?_; refine Zr ?_; refine Zm ?_; refine ZneF ?_; refine Zm ?_; refine Zm ?_; refine Zl hs ?_; have l1691 := r9.lt; have l1692 := hu8.lt; have l1693 := hs.lt; have l1694 := ho.lt; have l1695 := r813.lt
  (refine Zy (R.call rfl rfl rfl) (weq_T (by rw [heq] at r9; exact RowL.asInts r9 .u64 _ rfl hws) ((hWF _ q).all hws hcap) (by omega)) ?_; rintro e W1690 ⟨rfl, b1687⟩; refine ⟨_, rfl, ?_⟩)
  have zb1687 := b1687.size; replace r9 := r9.up b1687; replace hkk := Zh hkk b1687; have y1699 := hkk.size; replace hu8 := hu8.up b1687; replace q8 := Zu q8 b1687; replace hk8 := Zh hk8 b1687; have y1700 := hk8.size; replace b1147 := Zu b1147 b1687; replace b810 := Zu b810 b1687; replace b626 := Zu b626 b1687; replace hs := hs.up b1687; replace ho := ho.up b1687; replace c0 := cell_up c0 b1687; replace q := Zu q b1687
  replace r813 := r813.up b1687; refine Zt ?_; refine Zp ?_
  refine Zy (R.call rfl rfl rfl) (refuse_F _) ?_
  rintro e W' ⟨rfl, rfl⟩
  refine ⟨_, rfl, ?_⟩; refine Zq ?_; refine CC.region ?_; refine Zf ?_; refine Zv hu8 ?_
  refine LL.storeN (vs := [.int .i64 1, .int .i64 ↑l, .int .i64 ↑x1, .slice x8 (outZ (wsZ ws)).length c8, .int .i64 0, .int .i64 0, strV []]) rfl rfl rfl rfl ho (by exact Nat.le_of_ble_eq_true rfl) (ones_of rfl) rfl rfl ?_
  intro W1888 r1889 b1887 z1890
  have hlb1887 := ho.lt
  replace r1889 : RowL W1888 _ 80 [.int .i64 1, .int .i64 ↑l, .int .i64 ↑x1, .slice x8 (outZ (wsZ ws)).length c8, .int .i64 0, .int .i64 0, strV []] := r1889
  clear ho
  replace r9 := Zd r9 b1887; replace hkk := Zo hkk b1887; replace hu8 := Zd hu8 b1887; replace hk8 := Zo hk8 b1887; replace hs := Zd hs b1887; replace c0 := Ze c0 b1887; replace r813 := Zd r813 b1887
  have ho := r1889
  clear r1889
  refine ZL ?_; refine EE.end _ rfl rfl ?_
  exact ⟨rfl, ⟨_, by assumption, readsT_far (hv8F _ (Below.refl _ _)) hk8 (fun b off n c e hlt => ⟨hlt, by have := hge8 b off n c e; omega⟩), fun b off n c e => by have := hge8 b off n c e; omega⟩, hkk⟩
theorem of1_2R (gk : Nat) (gs go bk off cap : Nat) (ws : List Nat) (w : World) (hS : Start w) (hws : ws.length = 16) (hwb : ∀ x ∈ ws, x < 18446744073709551616) (hcap : 16 ≤ cap) (hs : RowL w gs 33 [.slice (some ⟨bk, off, none⟩) 16 cap]) (hW : WdsAt w bk off ws) (ho : RowL w go 80 (inL 0 0 0 (.slice none 0 0) 0 0 [])) (hne : go ≠ gs ∧ 0 < go ∧ bk ≠ go) (x0 : Nat) (h0 : ws[0]? = some x0) (hx0 : x0 ≠ 0) (l : Nat) (el : x0 / 256 % 16777216 = l) (hk : x0 % 256 = 2) (x2 x3 : Nat) (hy2 : ws[2]? = some x2) (hy3 : ws[3]? = some x3) (hr : 65536 < x2 ∨ 65536 < x3) : Calls Tryz.prog 77 #[.pointer (some ⟨gs, 0, none⟩), .pointer (some ⟨go, 0, none⟩)] w fun e w' => e = .panicked (chain1 refV) ∧ Kept (KW w gk) w w' := by
  have hkk := Kept.refl (KW w gk) w
  have lgs := hs.lt; have lgo := ho.lt; have lbk := hW.lt
  have hS0 := hS.pos
  have hWF : ∀ X, Below w.heap.size w X → WdsAt X bk off ws := fun X b => hW.up b
  have hSF : ∀ X, Below w.heap.size w X → Start X := fun X b => hS.up b
  have hx64 := hwb x0 (List.mem_of_getElem? h0)
  have c0 : w.cell? ⟨bk, off + 0, none⟩ = some (.int .u64 (x0 : Int)) := hW.cells 0 x0 h0
  have q := Below.refl w.heap.size w
  clear hW hS
  have hll : l < 16777216 := by omega
  refine X.fnP Tryz.func77 rfl (n := 70) rfl rfl ?_
  refine Zr ?_; refine Zl hs ?_; refine Zn ?_; refine ZneF ?_
  refine Zy (R.call rfl rfl rfl) (refuse_F _) ?_
  rintro e W' ⟨rfl, rfl⟩
  refine ⟨_, rfl, ?_⟩; refine Zq ?_; refine Zc ?_; refine Zr ?_; refine Zl hs ?_; refine Zi ?_; refine Zk ?_; refine ZeqF ?_; refine Zq ?_; refine ZN ?_; refine ZK ?_; refine ZT ?_; refine Zr ?_; refine Zl hs ?_; refine Zi ?_; refine Zk ?_
  (refine Zy (R.call rfl rfl rfl) (fld_k x0 hx64 _) ?_; rintro e _ ⟨rfl, rfl⟩; rw [hk]; refine ⟨_, rfl, ?_⟩)
  refine Zm ?_; refine Zx ?_; refine Zx ?_; refine Za ?_; refine Za ?_; refine Zq ?_; refine Zr ?_; refine Zl hs ?_; refine Zi ?_; refine Zk ?_
  (refine Zy (R.call rfl rfl rfl) (fld_l x0 hx64 _) ?_; rintro e _ ⟨rfl, rfl⟩; rw [el]; refine ⟨_, rfl, ?_⟩)
  refine Zm ?_; refine Zx ?_; refine Zx ?_; refine Za ?_; refine Za ?_; refine Zq ?_; refine Zr ?_
  refine Zy (R.call rfl rfl rfl) (kinds_any _) ?_
  rintro e W2 ⟨g4, k5, rfl, h3, b1⟩
  refine ⟨_, rfl, ?_⟩; have zb1 := b1.size; replace hs := hs.up b1; replace ho := ho.up b1; replace hkk := Zh hkk b1; have y7 := hkk.size; replace c0 := cell_up c0 b1; replace q := Zu q b1; refine Zm ?_
  refine LL.val (R.convI rfl rfl rfl rfl (wrapI (by omega) (by omega))) rfl rfl rfl ?_
  (refine LL.val (R.lookKT rfl rfl zKeys (by rfl) (z := kdZ) (by kernel_rfl) (by assumption) (2 : Int) rfl kF_2) rfl rfl rfl ?_)
  refine Zm ?_; refine Zx ?_; refine Zx ?_; have l8 := hs.lt; have l9 := ho.lt
  refine LL.alloc ([Value.nilFunc, Value.nilFunc, Value.nilFunc, Value.nilFunc]) rfl rfl rfl rfl rfl ?_
  intro W11 g12 eg12 r13 z14 b10
  replace h3 := h3.up b10; replace hs := hs.up b10; replace ho := ho.up b10; replace hkk := Zh hkk b10; have y15 := hkk.size; replace c0 := cell_up c0 b10; replace q := Zu q b10
  refine LL.storeN (vs := [fnV kd2.1, fnV kd2.2.1, fnV kd2.2.2.1, fnV kd2.2.2.2]) rfl rfl rfl rfl r13 (by exact Nat.le_of_ble_eq_true rfl) (ones_of rfl) rfl rfl ?_
  intro W17 r18 b16 z19
  have hlb16 := r13.lt
  replace r18 : RowL W17 _ 140 [fnV kd2.1, fnV kd2.2.1, fnV kd2.2.2.1, fnV kd2.2.2.2] := r18
  clear r13
  replace hs := Zd hs b16; replace ho := Zd ho b16; replace hkk := Zo hkk b16; replace c0 := Ze c0 b16; replace q := Zg q b16
  have r13 := r18
  clear r18
  refine Za ?_; refine Zq ?_; refine Zr ?_; refine Zm ?_; refine Zt ?_
  refine Zy (R.call rfl rfl rfl) (refuse_F _) ?_
  rintro e W' ⟨rfl, rfl⟩
  refine ⟨_, rfl, ?_⟩; refine Zq ?_; refine Zr ?_; refine Zm ?_
  refine LL.val (R.convI rfl rfl rfl rfl (wrapI (by omega) (by omega))) rfl rfl rfl ?_
  refine Zm ?_
  refine LL.val (R.convI rfl rfl rfl rfl (wrapI (by omega) (by omega))) rfl rfl rfl ?_
  refine LL.val (R.buildV rfl rfl (v := .agg #[Value.int IntKind.i64 ↑2, Value.int IntKind.i64 ↑l, Value.int IntKind.i64 0, Value.slice none 0 0, Value.int IntKind.i64 0, Value.int IntKind.i64 0, Value.string { data := #[] }]) (fun _ => by kernel_rfl)) rfl rfl rfl ?_
  refine LL.val (R.buildV rfl rfl (v := .agg #[Value.int IntKind.i64 2, Value.int IntKind.i64 ↑l, Value.int IntKind.i64 0, Value.slice none 0 0, Value.int IntKind.i64 0, Value.int IntKind.i64 0, Value.string { data := #[] }]) (fun _ => by kernel_rfl)) rfl rfl rfl ?_
  have l20 := hs.lt; have l21 := ho.lt; have l22 := r13.lt
  refine LL.alloc ([.int .i64 0, .int .i64 0, .int .i64 0, .slice none 0 0, .int .i64 0, .int .i64 0, .string { data := { toList := [] } }]) rfl rfl rfl rfl rfl ?_
  intro W24 g25 eg25 r26 z27 b23
  replace hs := hs.up b23; replace ho := ho.up b23; replace hkk := Zh hkk b23; have y28 := hkk.size; replace c0 := cell_up c0 b23; replace q := Zu q b23; replace r13 := r13.up b23
  refine LL.storeN (vs := [.int .i64 2, .int .i64 ↑l, .int .i64 0, .slice none 0 0, .int .i64 0, .int .i64 0, .string { data := #[] }]) rfl rfl rfl rfl r26 (by exact Nat.le_of_ble_eq_true rfl) (ones_of rfl) rfl rfl ?_
  intro W30 r31 b29 z32
  have hlb29 := r26.lt
  replace r31 : RowL W30 _ 145 [.int .i64 2, .int .i64 ↑l, .int .i64 0, .slice none 0 0, .int .i64 0, .int .i64 0, .string { data := #[] }] := r31
  clear r26
  replace hs := Zd hs b29; replace ho := Zd ho b29; replace hkk := Zo hkk b29; replace c0 := Ze c0 b29; replace q := Zg q b29; replace r13 := Zd r13 b29
  have r26 := r31
  clear r31
  refine Zq ?_; refine Zr ?_; refine Zf ?_; refine Zl r13 ?_; refine Zl hs ?_
  (refine LL.callP (R.callV rfl rfl rfl rfl) rfl rfl (rd2_F _ bk off cap ws 2 l 0 _ 0 0 [] _ (by assumption) (fun X hX => (hWF _ q).kept hX (by omega)) x2 x3 hy2 hy3 hr hcap) ?_; rintro e @W ⟨rfl, t9⟩; refine ⟨_, rfl, ?_⟩; replace hkk := hkk.trans (t9.less fun j hj => ⟨by have := hj.1; omega, by have := hj.1; omega⟩))
  refine EE.thenP ?_; refine EE.panM ?_
  exact ⟨rfl, hkk⟩
theorem of1_2C (gk : Nat) (gs go bk off cap : Nat) (ws : List Nat) (w : World) (hS : Start w) (hws : ws.length = 16) (hwb : ∀ x ∈ ws, x < 18446744073709551616) (hcap : 16 ≤ cap) (hs : RowL w gs 33 [.slice (some ⟨bk, off, none⟩) 16 cap]) (hW : WdsAt w bk off ws) (ho : RowL w go 80 (inL 0 0 0 (.slice none 0 0) 0 0 [])) (hne : go ≠ gs ∧ 0 < go ∧ bk ≠ go) (x0 : Nat) (h0 : ws[0]? = some x0) (hx0 : x0 ≠ 0) (l : Nat) (el : x0 / 256 % 16777216 = l) (hk : x0 % 256 = 2) (x2 x3 : Nat) (hy2 : ws[2]? = some x2) (hy3 : ws[3]? = some x3) (hr1 : x2 ≤ 65536 ∧ x3 ≤ 65536) (hok1 : ¬okI 2 (l : Int) 0 [] (x2 : Int) (x3 : Int) []) : Calls Tryz.prog 77 #[.pointer (some ⟨gs, 0, none⟩), .pointer (some ⟨go, 0, none⟩)] w fun e w' => e = .panicked (chain1 refV) ∧ Kept (KW w gk) w w' := by
  have hkk := Kept.refl (KW w gk) w
  have lgs := hs.lt; have lgo := ho.lt; have lbk := hW.lt
  have hS0 := hS.pos
  have hWF : ∀ X, Below w.heap.size w X → WdsAt X bk off ws := fun X b => hW.up b
  have hSF : ∀ X, Below w.heap.size w X → Start X := fun X b => hS.up b
  have hx64 := hwb x0 (List.mem_of_getElem? h0)
  have c0 : w.cell? ⟨bk, off + 0, none⟩ = some (.int .u64 (x0 : Int)) := hW.cells 0 x0 h0
  have q := Below.refl w.heap.size w
  clear hW hS
  have hll : l < 16777216 := by omega
  have hml : ([] : List Ex).length ≤ 1048576 := by simp
  have htl : ([] : Bs).length ≤ 1048576 := by simp
  refine X.fnP Tryz.func77 rfl (n := 70) rfl rfl ?_
  refine Zr ?_; refine Zl hs ?_; refine Zn ?_; refine ZneF ?_
  refine Zy (R.call rfl rfl rfl) (refuse_F _) ?_
  rintro e W' ⟨rfl, rfl⟩
  refine ⟨_, rfl, ?_⟩; refine Zq ?_; refine Zc ?_; refine Zr ?_; refine Zl hs ?_; refine Zi ?_; refine Zk ?_; refine ZeqF ?_; refine Zq ?_; refine ZN ?_; refine ZK ?_; refine ZT ?_; refine Zr ?_; refine Zl hs ?_; refine Zi ?_; refine Zk ?_
  (refine Zy (R.call rfl rfl rfl) (fld_k x0 hx64 _) ?_; rintro e _ ⟨rfl, rfl⟩; rw [hk]; refine ⟨_, rfl, ?_⟩)
  refine Zm ?_; refine Zx ?_; refine Zx ?_; refine Za ?_; refine Za ?_; refine Zq ?_; refine Zr ?_; refine Zl hs ?_; refine Zi ?_; refine Zk ?_
  (refine Zy (R.call rfl rfl rfl) (fld_l x0 hx64 _) ?_; rintro e _ ⟨rfl, rfl⟩; rw [el]; refine ⟨_, rfl, ?_⟩)
  refine Zm ?_; refine Zx ?_; refine Zx ?_; refine Za ?_; refine Za ?_; refine Zq ?_; refine Zr ?_
  refine Zy (R.call rfl rfl rfl) (kinds_any _) ?_
  rintro e W402 ⟨g404, k405, rfl, h403, b401⟩
  refine ⟨_, rfl, ?_⟩; have zb401 := b401.size; replace hs := hs.up b401; replace ho := ho.up b401; replace hkk := Zh hkk b401; have y407 := hkk.size; replace c0 := cell_up c0 b401; replace q := Zu q b401; refine Zm ?_
  refine LL.val (R.convI rfl rfl rfl rfl (wrapI (by omega) (by omega))) rfl rfl rfl ?_
  (refine LL.val (R.lookKT rfl rfl zKeys (by rfl) (z := kdZ) (by kernel_rfl) (by assumption) (2 : Int) rfl kF_2) rfl rfl rfl ?_)
  refine Zm ?_; refine Zx ?_; refine Zx ?_; have l520 := hs.lt; have l521 := ho.lt
  refine LL.alloc ([Value.nilFunc, Value.nilFunc, Value.nilFunc, Value.nilFunc]) rfl rfl rfl rfl rfl ?_
  intro W523 g524 eg524 r525 z526 b522
  replace h403 := h403.up b522; replace b401 := Zu b401 b522; replace hs := hs.up b522; replace ho := ho.up b522; replace hkk := Zh hkk b522; have y527 := hkk.size; replace c0 := cell_up c0 b522; replace q := Zu q b522
  refine LL.storeN (vs := [fnV kd2.1, fnV kd2.2.1, fnV kd2.2.2.1, fnV kd2.2.2.2]) rfl rfl rfl rfl r525 (by exact Nat.le_of_ble_eq_true rfl) (ones_of rfl) rfl rfl ?_
  intro W546 r547 b545 z548
  have hlb545 := r525.lt
  replace r547 : RowL W546 _ 140 [fnV kd2.1, fnV kd2.2.1, fnV kd2.2.2.1, fnV kd2.2.2.2] := r547
  clear r525
  replace b522 := Zg b522 b545; replace b401 := Zg b401 b545; replace hs := Zd hs b545; replace ho := Zd ho b545; replace hkk := Zo hkk b545; replace c0 := Ze c0 b545; replace q := Zg q b545
  have r525 := r547
  clear r547
  refine Za ?_; refine Zq ?_; refine Zr ?_; refine Zm ?_; refine Zt ?_
  refine Zy (R.call rfl rfl rfl) (refuse_F _) ?_
  rintro e W' ⟨rfl, rfl⟩
  refine ⟨_, rfl, ?_⟩; refine Zq ?_; refine Zr ?_; refine Zm ?_
  refine LL.val (R.convI rfl rfl rfl rfl (wrapI (by omega) (by omega))) rfl rfl rfl ?_
  refine Zm ?_
  refine LL.val (R.convI rfl rfl rfl rfl (wrapI (by omega) (by omega))) rfl rfl rfl ?_
  refine LL.val (R.buildV rfl rfl (v := .agg #[Value.int IntKind.i64 ↑2, Value.int IntKind.i64 ↑l, Value.int IntKind.i64 0, Value.slice none 0 0, Value.int IntKind.i64 0, Value.int IntKind.i64 0, Value.string { data := #[] }]) (fun _ => by kernel_rfl)) rfl rfl rfl ?_
  refine LL.val (R.buildV rfl rfl (v := .agg #[Value.int IntKind.i64 2, Value.int IntKind.i64 ↑l, Value.int IntKind.i64 0, Value.slice none 0 0, Value.int IntKind.i64 0, Value.int IntKind.i64 0, Value.string { data := #[] }]) (fun _ => by kernel_rfl)) rfl rfl rfl ?_
  have l736 := hs.lt; have l737 := ho.lt; have l738 := r525.lt
  refine LL.alloc ([.int .i64 0, .int .i64 0, .int .i64 0, .slice none 0 0, .int .i64 0, .int .i64 0, .string { data := { toList := [] } }]) rfl rfl rfl rfl rfl ?_
  intro W740 g741 eg741 r742 z743 b739
  replace b522 := Zu b522 b739; replace b401 := Zu b401 b739; replace hs := hs.up b739; replace ho := ho.up b739; replace hkk := Zh hkk b739; have y744 := hkk.size; replace c0 := cell_up c0 b739; replace q := Zu q b739; replace r525 := r525.up b739
  refine LL.storeN (vs := [.int .i64 2, .int .i64 ↑l, .int .i64 0, .slice none 0 0, .int .i64 0, .int .i64 0, .string { data := #[] }]) rfl rfl rfl rfl r742 (by exact Nat.le_of_ble_eq_true rfl) (ones_of rfl) rfl rfl ?_
  intro W764 r765 b763 z766
  have hlb763 := r742.lt
  replace r765 : RowL W764 _ 145 [.int .i64 2, .int .i64 ↑l, .int .i64 0, .slice none 0 0, .int .i64 0, .int .i64 0, .string { data := #[] }] := r765
  clear r742
  replace b739 := Zg b739 b763; replace b522 := Zg b522 b763; replace b401 := Zg b401 b763; replace hs := Zd hs b763; replace ho := Zd ho b763; replace hkk := Zo hkk b763; replace c0 := Ze c0 b763; replace q := Zg q b763; replace r525 := Zd r525 b763
  have r742 := r765
  clear r765
  refine Zq ?_; refine Zr ?_; refine Zf ?_; refine Zl r525 ?_; refine Zl hs ?_
  (refine LL.call (R.callV rfl rfl rfl rfl) rfl rfl rfl (rd2_T _ bk off cap ws 2 l 0 _ 0 0 [] _ (by assumption) (fun X hX => (hWF _ q).kept hX (by omega)) x2 x3 hy2 hy3 hr1 hcap) ?_; rintro e W824 ⟨rfl, hN8, t823⟩; refine ⟨_, rfl, ?_⟩; replace hkk := hkk.trans (t823.less fun j hj => ⟨by have := hj.1; omega, by have := hj.1; omega⟩); have hu8 := hN8; clear hN8)
  have zt823 := t823.size
  replace b739 := t823.onB b739 (fun j hj => ⟨by have := b739.size; omega, by omega⟩)
  replace b522 := t823.onB b522 (fun j hj => ⟨by have := b522.size; omega, by omega⟩)
  replace b401 := t823.onB b401 (fun j hj => ⟨by have := b401.size; omega, by omega⟩)
  replace hs := hs.kept t823 ⟨hs.lt, by omega⟩
  replace ho := ho.kept t823 ⟨ho.lt, by omega⟩
  replace c0 := cell_kept c0 t823 ⟨World.block_lt_of_cell? _ _ c0, by omega⟩
  replace q := t823.onB q (fun j hj => ⟨by have := q.size; omega, by omega⟩)
  replace r525 := r525.kept t823 ⟨r525.lt, by omega⟩
  refine Zq ?_; refine Zr ?_; refine Zf ?_; refine Zv hu8 ?_; have l875 := hu8.lt; have l876 := hs.lt; have l877 := ho.lt; have l878 := r525.lt
  (refine Zy (R.call rfl rfl rfl) (words_no 2 (l : Int) 0 none 0 0 [] (x2 : Int) (x3 : Int) [] _ (ReadsT.nil _) hml htl hok1) ?_; rintro e W874 ⟨rfl, b871⟩; refine ⟨_, rfl, ?_⟩)
  have zb871 := b871.size; replace hkk := Zh hkk b871; have y882 := hkk.size; replace hu8 := hu8.up b871; replace b739 := Zu b739 b871; replace b522 := Zu b522 b871; replace b401 := Zu b401 b871; replace hs := hs.up b871; replace ho := ho.up b871; replace c0 := cell_up c0 b871; replace q := Zu q b871; replace r525 := r525.up b871; refine Zm ?_; refine Zx ?_; refine Zx ?_; refine Za ?_; refine Za ?_
  refine Zq ?_; refine Zr ?_; refine Zm ?_; refine ZneT ?_; refine Zm ?_; refine Zs ?_; refine Zs ?_; refine Zs ?_; refine Zs ?_; refine Zp ?_
  refine LL.callP (R.call rfl rfl rfl) rfl rfl (refuse_T _) ?_
  rintro e W1064 ⟨rfl, rfl⟩
  refine ⟨_, rfl, ?_⟩; refine EE.thenP ?_; refine EE.panM ?_
  exact ⟨rfl, hkk⟩
theorem of1_2W (gk : Nat) (gs go bk off cap : Nat) (ws : List Nat) (w : World) (hS : Start w) (hws : ws.length = 16) (hwb : ∀ x ∈ ws, x < 18446744073709551616) (hcap : 16 ≤ cap) (hs : RowL w gs 33 [.slice (some ⟨bk, off, none⟩) 16 cap]) (hW : WdsAt w bk off ws) (ho : RowL w go 80 (inL 0 0 0 (.slice none 0 0) 0 0 [])) (hne : go ≠ gs ∧ 0 < go ∧ bk ≠ go) (x0 : Nat) (h0 : ws[0]? = some x0) (hx0 : x0 ≠ 0) (l : Nat) (el : x0 / 256 % 16777216 = l) (hk : x0 % 256 = 2) (x2 x3 : Nat) (hy2 : ws[2]? = some x2) (hy3 : ws[3]? = some x3) (hr1 : x2 ≤ 65536 ∧ x3 ≤ 65536) (hok1 : okI 2 (l : Int) 0 [] (x2 : Int) (x3 : Int) []) (heq : inoW 2 (l : Int) 0 [] (x2 : Int) (x3 : Int) [] ≠ ws) : Calls Tryz.prog 77 #[.pointer (some ⟨gs, 0, none⟩), .pointer (some ⟨go, 0, none⟩)] w fun e w' => e = .panicked (chain1 refV) ∧ Kept (KW w gk) w w' := by
  have hkk := Kept.refl (KW w gk) w
  have lgs := hs.lt; have lgo := ho.lt; have lbk := hW.lt
  have hS0 := hS.pos
  have hWF : ∀ X, Below w.heap.size w X → WdsAt X bk off ws := fun X b => hW.up b
  have hSF : ∀ X, Below w.heap.size w X → Start X := fun X b => hS.up b
  have hx64 := hwb x0 (List.mem_of_getElem? h0)
  have c0 : w.cell? ⟨bk, off + 0, none⟩ = some (.int .u64 (x0 : Int)) := hW.cells 0 x0 h0
  have q := Below.refl w.heap.size w
  clear hW hS
  have hll : l < 16777216 := by omega
  have hml : ([] : List Ex).length ≤ 1048576 := by simp
  refine X.fnP Tryz.func77 rfl (n := 70) rfl rfl ?_
  refine Zr ?_; refine Zl hs ?_; refine Zn ?_; refine ZneF ?_
  refine Zy (R.call rfl rfl rfl) (refuse_F _) ?_
  rintro e W' ⟨rfl, rfl⟩
  refine ⟨_, rfl, ?_⟩; refine Zq ?_; refine Zc ?_; refine Zr ?_; refine Zl hs ?_; refine Zi ?_; refine Zk ?_; refine ZeqF ?_; refine Zq ?_; refine ZN ?_; refine ZK ?_; refine ZT ?_; refine Zr ?_; refine Zl hs ?_; refine Zi ?_; refine Zk ?_
  (refine Zy (R.call rfl rfl rfl) (fld_k x0 hx64 _) ?_; rintro e _ ⟨rfl, rfl⟩; rw [hk]; refine ⟨_, rfl, ?_⟩)
  refine Zm ?_; refine Zx ?_; refine Zx ?_; refine Za ?_; refine Za ?_; refine Zq ?_; refine Zr ?_; refine Zl hs ?_; refine Zi ?_; refine Zk ?_
  (refine Zy (R.call rfl rfl rfl) (fld_l x0 hx64 _) ?_; rintro e _ ⟨rfl, rfl⟩; rw [el]; refine ⟨_, rfl, ?_⟩)
  refine Zm ?_; refine Zx ?_; refine Zx ?_; refine Za ?_; refine Za ?_; refine Zq ?_; refine Zr ?_
  refine Zy (R.call rfl rfl rfl) (kinds_any _) ?_
  rintro e W627 ⟨g629, k630, rfl, h628, b626⟩
  refine ⟨_, rfl, ?_⟩; have zb626 := b626.size; replace hs := hs.up b626; replace ho := ho.up b626; replace hkk := Zh hkk b626; have y632 := hkk.size; replace c0 := cell_up c0 b626; replace q := Zu q b626; refine Zm ?_
  refine LL.val (R.convI rfl rfl rfl rfl (wrapI (by omega) (by omega))) rfl rfl rfl ?_
  (refine LL.val (R.lookKT rfl rfl zKeys (by rfl) (z := kdZ) (by kernel_rfl) (by assumption) (2 : Int) rfl kF_2) rfl rfl rfl ?_)
  refine Zm ?_; refine Zx ?_; refine Zx ?_; have l808 := hs.lt; have l809 := ho.lt
  refine LL.alloc ([Value.nilFunc, Value.nilFunc, Value.nilFunc, Value.nilFunc]) rfl rfl rfl rfl rfl ?_
  intro W811 g812 eg812 r813 z814 b810
  replace h628 := h628.up b810; replace b626 := Zu b626 b810; replace hs := hs.up b810; replace ho := ho.up b810; replace hkk := Zh hkk b810; have y815 := hkk.size; replace c0 := cell_up c0 b810; replace q := Zu q b810
  refine LL.storeN (vs := [fnV kd2.1, fnV kd2.2.1, fnV kd2.2.2.1, fnV kd2.2.2.2]) rfl rfl rfl rfl r813 (by exact Nat.le_of_ble_eq_true rfl) (ones_of rfl) rfl rfl ?_
  intro W844 r845 b843 z846
  have hlb843 := r813.lt
  replace r845 : RowL W844 _ 140 [fnV kd2.1, fnV kd2.2.1, fnV kd2.2.2.1, fnV kd2.2.2.2] := r845
  clear r813
  replace b810 := Zg b810 b843; replace b626 := Zg b626 b843; replace hs := Zd hs b843; replace ho := Zd ho b843; replace hkk := Zo hkk b843; replace c0 := Ze c0 b843; replace q := Zg q b843
  have r813 := r845
  clear r845
  refine Za ?_; refine Zq ?_; refine Zr ?_; refine Zm ?_; refine Zt ?_
  refine Zy (R.call rfl rfl rfl) (refuse_F _) ?_
  rintro e W' ⟨rfl, rfl⟩
  refine ⟨_, rfl, ?_⟩; refine Zq ?_; refine Zr ?_; refine Zm ?_
  refine LL.val (R.convI rfl rfl rfl rfl (wrapI (by omega) (by omega))) rfl rfl rfl ?_
  refine Zm ?_
  refine LL.val (R.convI rfl rfl rfl rfl (wrapI (by omega) (by omega))) rfl rfl rfl ?_
  refine LL.val (R.buildV rfl rfl (v := .agg #[Value.int IntKind.i64 ↑2, Value.int IntKind.i64 ↑l, Value.int IntKind.i64 0, Value.slice none 0 0, Value.int IntKind.i64 0, Value.int IntKind.i64 0, Value.string { data := #[] }]) (fun _ => by kernel_rfl)) rfl rfl rfl ?_
  refine LL.val (R.buildV rfl rfl (v := .agg #[Value.int IntKind.i64 2, Value.int IntKind.i64 ↑l, Value.int IntKind.i64 0, Value.slice none 0 0, Value.int IntKind.i64 0, Value.int IntKind.i64 0, Value.string { data := #[] }]) (fun _ => by kernel_rfl)) rfl rfl rfl ?_
  have l1144 := hs.lt; have l1145 := ho.lt; have l1146 := r813.lt
  refine LL.alloc ([.int .i64 0, .int .i64 0, .int .i64 0, .slice none 0 0, .int .i64 0, .int .i64 0, .string { data := { toList := [] } }]) rfl rfl rfl rfl rfl ?_
  intro W1148 g1149 eg1149 r1150 z1151 b1147
  replace b810 := Zu b810 b1147; replace b626 := Zu b626 b1147; replace hs := hs.up b1147; replace ho := ho.up b1147; replace hkk := Zh hkk b1147; have y1152 := hkk.size; replace c0 := cell_up c0 b1147; replace q := Zu q b1147; replace r813 := r813.up b1147
  refine LL.storeN (vs := [.int .i64 2, .int .i64 ↑l, .int .i64 0, .slice none 0 0, .int .i64 0, .int .i64 0, .string { data := #[] }]) rfl rfl rfl rfl r1150 (by exact Nat.le_of_ble_eq_true rfl) (ones_of rfl) rfl rfl ?_
  intro W1183 r1184 b1182 z1185
  have hlb1182 := r1150.lt
  replace r1184 : RowL W1183 _ 145 [.int .i64 2, .int .i64 ↑l, .int .i64 0, .slice none 0 0, .int .i64 0, .int .i64 0, .string { data := #[] }] := r1184
  clear r1150
  replace b1147 := Zg b1147 b1182; replace b810 := Zg b810 b1182; replace b626 := Zg b626 b1182; replace hs := Zd hs b1182; replace ho := Zd ho b1182; replace hkk := Zo hkk b1182; replace c0 := Ze c0 b1182; replace q := Zg q b1182; replace r813 := Zd r813 b1182
  have r1150 := r1184
  clear r1184
  refine Zq ?_; refine Zr ?_; refine Zf ?_; refine Zl r813 ?_; refine Zl hs ?_
  (refine LL.call (R.callV rfl rfl rfl rfl) rfl rfl rfl (rd2_T _ bk off cap ws 2 l 0 _ 0 0 [] _ (by assumption) (fun X hX => (hWF _ q).kept hX (by omega)) x2 x3 hy2 hy3 hr1 hcap) ?_; rintro e W1276 ⟨rfl, hN8, t1275⟩; refine ⟨_, rfl, ?_⟩; replace hkk := hkk.trans (t1275.less fun j hj => ⟨by have := hj.1; omega, by have := hj.1; omega⟩); have hu8 := hN8; clear hN8)
  have zt1275 := t1275.size
  replace b1147 := t1275.onB b1147 (fun j hj => ⟨by have := b1147.size; omega, by omega⟩)
  replace b810 := t1275.onB b810 (fun j hj => ⟨by have := b810.size; omega, by omega⟩)
  replace b626 := t1275.onB b626 (fun j hj => ⟨by have := b626.size; omega, by omega⟩)
  replace hs := hs.kept t1275 ⟨hs.lt, by omega⟩
  replace ho := ho.kept t1275 ⟨ho.lt, by omega⟩
  replace c0 := cell_kept c0 t1275 ⟨World.block_lt_of_cell? _ _ c0, by omega⟩
  replace q := t1275.onB q (fun j hj => ⟨by have := q.size; omega, by omega⟩)
  replace r813 := r813.kept t1275 ⟨r813.lt, by omega⟩
  refine Zq ?_; refine Zr ?_; refine Zf ?_; refine Zv hu8 ?_; have l1349 := hu8.lt; have l1350 := hs.lt; have l1351 := ho.lt; have l1352 := r813.lt
  (refine Zy (R.call rfl rfl rfl) (words_ok 2 (l : Int) 0 none 0 0 [] (x2 : Int) (x3 : Int) [] _ (hSF _ q) (ReadsT.nil _) hml hok1) ?_; rintro e W1348 ⟨g9, rfl, r9, hg9, b1345⟩; refine ⟨_, rfl, ?_⟩)
  have zb1345 := b1345.size; replace hkk := Zh hkk b1345; have y1356 := hkk.size; replace hu8 := hu8.up b1345; replace b1147 := Zu b1147 b1345; replace b810 := Zu b810 b1345; replace b626 := Zu b626 b1345; replace hs := hs.up b1345; replace ho := ho.up b1345; replace c0 := cell_up c0 b1345; replace q := Zu q b1345; replace r813 := r813.up b1345; refine Zm ?_; refine Zx ?_; refine Zx ?_; refine Za ?_
  refine Za ?_; refine Zq ?_; refine Zr ?_; refine Zm ?_; refine ZneF ?_; refine Zm ?_; refine Zm ?_; refine Zl hs ?_; have l1690 := r9.lt; have l1691 := hu8.lt; have l1692 := hs.lt; have l1693 := ho.lt; have l1694 := r813.lt
  (refine Zy (R.call rfl rfl rfl) (weq_F (RowL.asInts r9 .u64 _ rfl (inoW_len hok1)) ((hWF _ q).all hws hcap) (by rw [inoW_len hok1]; omega) (by omega) heq) ?_; rintro e W1689 ⟨rfl, b1686⟩; refine ⟨_, rfl, ?_⟩)
  have zb1686 := b1686.size; replace r9 := r9.up b1686; replace hkk := Zh hkk b1686; have y1698 := hkk.size; replace hu8 := hu8.up b1686; replace b1147 := Zu b1147 b1686; replace b810 := Zu b810 b1686; replace b626 := Zu b626 b1686; replace hs := hs.up b1686; replace ho := ho.up b1686; replace c0 := cell_up c0 b1686; replace q := Zu q b1686; replace r813 := r813.up b1686; refine Zt ?_; refine Zp ?_
  refine LL.callP (R.call rfl rfl rfl) rfl rfl (refuse_T _) ?_
  rintro e W1793 ⟨rfl, rfl⟩
  refine ⟨_, rfl, ?_⟩; refine EE.thenP ?_; refine EE.panM ?_
  exact ⟨rfl, hkk⟩
theorem of1_2T (gs go bk off cap : Nat) (ws : List Nat) (w : World) (hS : Start w) (hws : ws.length = 16) (hwb : ∀ x ∈ ws, x < 18446744073709551616) (hcap : 16 ≤ cap) (hs : RowL w gs 33 [.slice (some ⟨bk, off, none⟩) 16 cap]) (hW : WdsAt w bk off ws) (ho : RowL w go 80 (inL 0 0 0 (.slice none 0 0) 0 0 [])) (hne : go ≠ gs ∧ 0 < go ∧ bk ≠ go) (x0 : Nat) (h0 : ws[0]? = some x0) (hx0 : x0 ≠ 0) (l : Nat) (el : x0 / 256 % 16777216 = l) (hk : x0 % 256 = 2) (x2 x3 : Nat) (hy2 : ws[2]? = some x2) (hy3 : ws[3]? = some x3) (hr1 : x2 ≤ 65536 ∧ x3 ≤ 65536) (hok1 : okI 2 (l : Int) 0 [] (x2 : Int) (x3 : Int) []) (heq : inoW 2 (l : Int) 0 [] (x2 : Int) (x3 : Int) [] = ws) : Calls Tryz.prog 77 #[.pointer (some ⟨gs, 0, none⟩), .pointer (some ⟨go, 0, none⟩)] w (ofP go 2 (l : Int) 0 [] (x2 : Int) (x3 : Int) [] w) := by
  unfold ofP
  have hkk := Kept.refl (KW w go) w
  have lgs := hs.lt; have lgo := ho.lt; have lbk := hW.lt
  have hS0 := hS.pos
  have hWF : ∀ X, Below w.heap.size w X → WdsAt X bk off ws := fun X b => hW.up b
  have hSF : ∀ X, Below w.heap.size w X → Start X := fun X b => hS.up b
  have hx64 := hwb x0 (List.mem_of_getElem? h0)
  have c0 : w.cell? ⟨bk, off + 0, none⟩ = some (.int .u64 (x0 : Int)) := hW.cells 0 x0 h0
  have q := Below.refl w.heap.size w
  clear hW hS
  have hll : l < 16777216 := by omega
  have hml : ([] : List Ex).length ≤ 1048576 := by simp
  refine X.fn Tryz.func77 rfl (n := 70) rfl rfl ?_
  refine Zr ?_; refine Zl hs ?_; refine Zn ?_; refine ZneF ?_
  refine Zy (R.call rfl rfl rfl) (refuse_F _) ?_
  rintro e W' ⟨rfl, rfl⟩
  refine ⟨_, rfl, ?_⟩; refine Zq ?_; refine Zc ?_; refine Zr ?_; refine Zl hs ?_; refine Zi ?_; refine Zk ?_; refine ZeqF ?_; refine Zq ?_; refine ZN ?_; refine ZK ?_; refine ZT ?_; refine Zr ?_; refine Zl hs ?_; refine Zi ?_; refine Zk ?_
  (refine Zy (R.call rfl rfl rfl) (fld_k x0 hx64 _) ?_; rintro e _ ⟨rfl, rfl⟩; rw [hk]; refine ⟨_, rfl, ?_⟩)
  refine Zm ?_; refine Zx ?_; refine Zx ?_; refine Za ?_; refine Za ?_; refine Zq ?_; refine Zr ?_; refine Zl hs ?_; refine Zi ?_; refine Zk ?_
  (refine Zy (R.call rfl rfl rfl) (fld_l x0 hx64 _) ?_; rintro e _ ⟨rfl, rfl⟩; rw [el]; refine ⟨_, rfl, ?_⟩)
  refine Zm ?_; refine Zx ?_; refine Zx ?_; refine Za ?_; refine Za ?_; refine Zq ?_; refine Zr ?_
  refine Zy (R.call rfl rfl rfl) (kinds_any _) ?_
  rintro e W627 ⟨g629, k630, rfl, h628, b626⟩
  refine ⟨_, rfl, ?_⟩; have zb626 := b626.size; replace hs := hs.up b626; replace ho := ho.up b626; replace hkk := Zh hkk b626; have y632 := hkk.size; replace c0 := cell_up c0 b626; replace q := Zu q b626; refine Zm ?_
  refine LL.val (R.convI rfl rfl rfl rfl (wrapI (by omega) (by omega))) rfl rfl rfl ?_
  (refine LL.val (R.lookKT rfl rfl zKeys (by rfl) (z := kdZ) (by kernel_rfl) (by assumption) (2 : Int) rfl kF_2) rfl rfl rfl ?_)
  refine Zm ?_; refine Zx ?_; refine Zx ?_; have l808 := hs.lt; have l809 := ho.lt
  refine LL.alloc ([Value.nilFunc, Value.nilFunc, Value.nilFunc, Value.nilFunc]) rfl rfl rfl rfl rfl ?_
  intro W811 g812 eg812 r813 z814 b810
  replace h628 := h628.up b810; replace b626 := Zu b626 b810; replace hs := hs.up b810; replace ho := ho.up b810; replace hkk := Zh hkk b810; have y815 := hkk.size; replace c0 := cell_up c0 b810; replace q := Zu q b810
  refine LL.storeN (vs := [fnV kd2.1, fnV kd2.2.1, fnV kd2.2.2.1, fnV kd2.2.2.2]) rfl rfl rfl rfl r813 (by exact Nat.le_of_ble_eq_true rfl) (ones_of rfl) rfl rfl ?_
  intro W844 r845 b843 z846
  have hlb843 := r813.lt
  replace r845 : RowL W844 _ 140 [fnV kd2.1, fnV kd2.2.1, fnV kd2.2.2.1, fnV kd2.2.2.2] := r845
  clear r813
  replace b810 := Zg b810 b843; replace b626 := Zg b626 b843; replace hs := Zd hs b843; replace ho := Zd ho b843; replace hkk := Zo hkk b843; replace c0 := Ze c0 b843; replace q := Zg q b843
  have r813 := r845
  clear r845
  refine Za ?_; refine Zq ?_; refine Zr ?_; refine Zm ?_; refine Zt ?_
  refine Zy (R.call rfl rfl rfl) (refuse_F _) ?_
  rintro e W' ⟨rfl, rfl⟩
  refine ⟨_, rfl, ?_⟩; refine Zq ?_; refine Zr ?_; refine Zm ?_
  refine LL.val (R.convI rfl rfl rfl rfl (wrapI (by omega) (by omega))) rfl rfl rfl ?_
  refine Zm ?_
  refine LL.val (R.convI rfl rfl rfl rfl (wrapI (by omega) (by omega))) rfl rfl rfl ?_
  refine LL.val (R.buildV rfl rfl (v := .agg #[Value.int IntKind.i64 ↑2, Value.int IntKind.i64 ↑l, Value.int IntKind.i64 0, Value.slice none 0 0, Value.int IntKind.i64 0, Value.int IntKind.i64 0, Value.string { data := #[] }]) (fun _ => by kernel_rfl)) rfl rfl rfl ?_
  refine LL.val (R.buildV rfl rfl (v := .agg #[Value.int IntKind.i64 2, Value.int IntKind.i64 ↑l, Value.int IntKind.i64 0, Value.slice none 0 0, Value.int IntKind.i64 0, Value.int IntKind.i64 0, Value.string { data := #[] }]) (fun _ => by kernel_rfl)) rfl rfl rfl ?_
  have l1144 := hs.lt; have l1145 := ho.lt; have l1146 := r813.lt
  refine LL.alloc ([.int .i64 0, .int .i64 0, .int .i64 0, .slice none 0 0, .int .i64 0, .int .i64 0, .string { data := { toList := [] } }]) rfl rfl rfl rfl rfl ?_
  intro W1148 g1149 eg1149 r1150 z1151 b1147
  replace b810 := Zu b810 b1147; replace b626 := Zu b626 b1147; replace hs := hs.up b1147; replace ho := ho.up b1147; replace hkk := Zh hkk b1147; have y1152 := hkk.size; replace c0 := cell_up c0 b1147; replace q := Zu q b1147; replace r813 := r813.up b1147
  refine LL.storeN (vs := [.int .i64 2, .int .i64 ↑l, .int .i64 0, .slice none 0 0, .int .i64 0, .int .i64 0, .string { data := #[] }]) rfl rfl rfl rfl r1150 (by exact Nat.le_of_ble_eq_true rfl) (ones_of rfl) rfl rfl ?_
  intro W1183 r1184 b1182 z1185
  have hlb1182 := r1150.lt
  replace r1184 : RowL W1183 _ 145 [.int .i64 2, .int .i64 ↑l, .int .i64 0, .slice none 0 0, .int .i64 0, .int .i64 0, .string { data := #[] }] := r1184
  clear r1150
  replace b1147 := Zg b1147 b1182; replace b810 := Zg b810 b1182; replace b626 := Zg b626 b1182; replace hs := Zd hs b1182; replace ho := Zd ho b1182; replace hkk := Zo hkk b1182; replace c0 := Ze c0 b1182; replace q := Zg q b1182; replace r813 := Zd r813 b1182
  have r1150 := r1184
  clear r1184
  refine Zq ?_; refine Zr ?_; refine Zf ?_; refine Zl r813 ?_; refine Zl hs ?_
  (refine LL.call (R.callV rfl rfl rfl rfl) rfl rfl rfl (rd2_T _ bk off cap ws 2 l 0 _ 0 0 [] _ (by assumption) (fun X hX => (hWF _ q).kept hX (by omega)) x2 x3 hy2 hy3 hr1 hcap) ?_; rintro e W1276 ⟨rfl, hN8, t1275⟩; refine ⟨_, rfl, ?_⟩; replace hkk := hkk.trans (t1275.less fun j hj => ⟨by have := hj.1; omega, by have := hj.1; omega⟩); have hu8 := hN8; clear hN8)
  have zt1275 := t1275.size
  replace b1147 := t1275.onB b1147 (fun j hj => ⟨by have := b1147.size; omega, by omega⟩)
  replace b810 := t1275.onB b810 (fun j hj => ⟨by have := b810.size; omega, by omega⟩)
  replace b626 := t1275.onB b626 (fun j hj => ⟨by have := b626.size; omega, by omega⟩)
  replace hs := hs.kept t1275 ⟨hs.lt, by omega⟩
  replace ho := ho.kept t1275 ⟨ho.lt, by omega⟩
  replace c0 := cell_kept c0 t1275 ⟨World.block_lt_of_cell? _ _ c0, by omega⟩
  replace q := t1275.onB q (fun j hj => ⟨by have := q.size; omega, by omega⟩)
  replace r813 := r813.kept t1275 ⟨r813.lt, by omega⟩
  refine Zq ?_; refine Zr ?_; refine Zf ?_; refine Zv hu8 ?_; have l1349 := hu8.lt; have l1350 := hs.lt; have l1351 := ho.lt; have l1352 := r813.lt
  (refine Zy (R.call rfl rfl rfl) (words_ok 2 (l : Int) 0 none 0 0 [] (x2 : Int) (x3 : Int) [] _ (hSF _ q) (ReadsT.nil _) hml hok1) ?_; rintro e W1348 ⟨g9, rfl, r9, hg9, b1345⟩; refine ⟨_, rfl, ?_⟩)
  have zb1345 := b1345.size; replace hkk := Zh hkk b1345; have y1356 := hkk.size; replace hu8 := hu8.up b1345; replace b1147 := Zu b1147 b1345; replace b810 := Zu b810 b1345; replace b626 := Zu b626 b1345; replace hs := hs.up b1345; replace ho := ho.up b1345; replace c0 := cell_up c0 b1345; replace q := Zu q b1345; replace r813 := r813.up b1345; refine Zm ?_; refine Zx ?_; refine Zx ?_; refine Za ?_
  refine Za ?_; refine Zq ?_; refine Zr ?_; refine Zm ?_; refine ZneF ?_; refine Zm ?_; refine Zm ?_; refine Zl hs ?_; have l1690 := r9.lt; have l1691 := hu8.lt; have l1692 := hs.lt; have l1693 := ho.lt; have l1694 := r813.lt
  (refine Zy (R.call rfl rfl rfl) (weq_T (by rw [heq] at r9; exact RowL.asInts r9 .u64 _ rfl hws) ((hWF _ q).all hws hcap) (by omega)) ?_; rintro e W1689 ⟨rfl, b1686⟩; refine ⟨_, rfl, ?_⟩)
  have zb1686 := b1686.size; replace r9 := r9.up b1686; replace hkk := Zh hkk b1686; have y1698 := hkk.size; replace hu8 := hu8.up b1686; replace b1147 := Zu b1147 b1686; replace b810 := Zu b810 b1686; replace b626 := Zu b626 b1686; replace hs := hs.up b1686; replace ho := ho.up b1686; replace c0 := cell_up c0 b1686; replace q := Zu q b1686; replace r813 := r813.up b1686; refine Zt ?_; refine Zp ?_
  refine Zy (R.call rfl rfl rfl) (refuse_F _) ?_
  rintro e W' ⟨rfl, rfl⟩
  refine ⟨_, rfl, ?_⟩; refine Zq ?_; refine CC.region ?_; refine Zf ?_; refine Zv hu8 ?_
  refine LL.storeN (vs := [.int .i64 2, .int .i64 ↑l, .int .i64 0, .slice none 0 0, .int .i64 ↑x2, .int .i64 ↑x3, strV []]) rfl rfl rfl rfl ho (by exact Nat.le_of_ble_eq_true rfl) (ones_of rfl) rfl rfl ?_
  intro W1886 r1887 b1885 z1888
  have hlb1885 := ho.lt
  replace r1887 : RowL W1886 _ 80 [.int .i64 2, .int .i64 ↑l, .int .i64 0, .slice none 0 0, .int .i64 ↑x2, .int .i64 ↑x3, strV []] := r1887
  clear ho
  replace r9 := Zd r9 b1885; replace hkk := Zo hkk b1885; replace hu8 := Zd hu8 b1885; replace hs := Zd hs b1885; replace c0 := Ze c0 b1885; replace r813 := Zd r813 b1885
  have ho := r1887
  clear r1887
  refine ZL ?_; refine EE.end _ rfl rfl ?_
  exact ⟨rfl, ⟨_, by assumption, ReadsT.nil _, fun b off n c e => by cases e⟩, hkk⟩
theorem of1_3R (gk : Nat) (gs go bk off cap : Nat) (ws : List Nat) (w : World) (hS : Start w) (hws : ws.length = 16) (hwb : ∀ x ∈ ws, x < 18446744073709551616) (hcap : 16 ≤ cap) (hs : RowL w gs 33 [.slice (some ⟨bk, off, none⟩) 16 cap]) (hW : WdsAt w bk off ws) (ho : RowL w go 80 (inL 0 0 0 (.slice none 0 0) 0 0 [])) (hne : go ≠ gs ∧ 0 < go ∧ bk ≠ go) (x0 : Nat) (h0 : ws[0]? = some x0) (hx0 : x0 ≠ 0) (l : Nat) (el : x0 / 256 % 16777216 = l) (hk : x0 % 256 = 3) (x1 : Nat) (h1 : ws[1]? = some x1) (hr : ¬(1 ≤ x1 ∧ x1 ≤ 112) ∨ ¬tgOk ws x1) : Calls Tryz.prog 77 #[.pointer (some ⟨gs, 0, none⟩), .pointer (some ⟨go, 0, none⟩)] w fun e w' => e = .panicked (chain1 refV) ∧ Kept (KW w gk) w w' := by
  have hkk := Kept.refl (KW w gk) w
  have lgs := hs.lt; have lgo := ho.lt; have lbk := hW.lt
  have hS0 := hS.pos
  have hWF : ∀ X, Below w.heap.size w X → WdsAt X bk off ws := fun X b => hW.up b
  have hSF : ∀ X, Below w.heap.size w X → Start X := fun X b => hS.up b
  have hx64 := hwb x0 (List.mem_of_getElem? h0)
  have c0 : w.cell? ⟨bk, off + 0, none⟩ = some (.int .u64 (x0 : Int)) := hW.cells 0 x0 h0
  have q := Below.refl w.heap.size w
  clear hW hS
  have hll : l < 16777216 := by omega
  refine X.fnP Tryz.func77 rfl (n := 70) rfl rfl ?_
  refine Zr ?_; refine Zl hs ?_; refine Zn ?_; refine ZneF ?_
  refine Zy (R.call rfl rfl rfl) (refuse_F _) ?_
  rintro e W' ⟨rfl, rfl⟩
  refine ⟨_, rfl, ?_⟩; refine Zq ?_; refine Zc ?_; refine Zr ?_; refine Zl hs ?_; refine Zi ?_; refine Zk ?_; refine ZeqF ?_; refine Zq ?_; refine ZN ?_; refine ZK ?_; refine ZT ?_; refine Zr ?_; refine Zl hs ?_; refine Zi ?_; refine Zk ?_
  (refine Zy (R.call rfl rfl rfl) (fld_k x0 hx64 _) ?_; rintro e _ ⟨rfl, rfl⟩; rw [hk]; refine ⟨_, rfl, ?_⟩)
  refine Zm ?_; refine Zx ?_; refine Zx ?_; refine Za ?_; refine Za ?_; refine Zq ?_; refine Zr ?_; refine Zl hs ?_; refine Zi ?_; refine Zk ?_
  (refine Zy (R.call rfl rfl rfl) (fld_l x0 hx64 _) ?_; rintro e _ ⟨rfl, rfl⟩; rw [el]; refine ⟨_, rfl, ?_⟩)
  refine Zm ?_; refine Zx ?_; refine Zx ?_; refine Za ?_; refine Za ?_; refine Zq ?_; refine Zr ?_
  refine Zy (R.call rfl rfl rfl) (kinds_any _) ?_
  rintro e W2 ⟨g4, k5, rfl, h3, b1⟩
  refine ⟨_, rfl, ?_⟩; have zb1 := b1.size; replace hs := hs.up b1; replace ho := ho.up b1; replace hkk := Zh hkk b1; have y7 := hkk.size; replace c0 := cell_up c0 b1; replace q := Zu q b1; refine Zm ?_
  refine LL.val (R.convI rfl rfl rfl rfl (wrapI (by omega) (by omega))) rfl rfl rfl ?_
  (refine LL.val (R.lookKT rfl rfl zKeys (by rfl) (z := kdZ) (by kernel_rfl) (by assumption) (3 : Int) rfl kF_3) rfl rfl rfl ?_)
  refine Zm ?_; refine Zx ?_; refine Zx ?_; have l8 := hs.lt; have l9 := ho.lt
  refine LL.alloc ([Value.nilFunc, Value.nilFunc, Value.nilFunc, Value.nilFunc]) rfl rfl rfl rfl rfl ?_
  intro W11 g12 eg12 r13 z14 b10
  replace h3 := h3.up b10; replace hs := hs.up b10; replace ho := ho.up b10; replace hkk := Zh hkk b10; have y15 := hkk.size; replace c0 := cell_up c0 b10; replace q := Zu q b10
  refine LL.storeN (vs := [fnV kd3.1, fnV kd3.2.1, fnV kd3.2.2.1, fnV kd3.2.2.2]) rfl rfl rfl rfl r13 (by exact Nat.le_of_ble_eq_true rfl) (ones_of rfl) rfl rfl ?_
  intro W17 r18 b16 z19
  have hlb16 := r13.lt
  replace r18 : RowL W17 _ 140 [fnV kd3.1, fnV kd3.2.1, fnV kd3.2.2.1, fnV kd3.2.2.2] := r18
  clear r13
  replace hs := Zd hs b16; replace ho := Zd ho b16; replace hkk := Zo hkk b16; replace c0 := Ze c0 b16; replace q := Zg q b16
  have r13 := r18
  clear r18
  refine Za ?_; refine Zq ?_; refine Zr ?_; refine Zm ?_; refine Zt ?_
  refine Zy (R.call rfl rfl rfl) (refuse_F _) ?_
  rintro e W' ⟨rfl, rfl⟩
  refine ⟨_, rfl, ?_⟩; refine Zq ?_; refine Zr ?_; refine Zm ?_
  refine LL.val (R.convI rfl rfl rfl rfl (wrapI (by omega) (by omega))) rfl rfl rfl ?_
  refine Zm ?_
  refine LL.val (R.convI rfl rfl rfl rfl (wrapI (by omega) (by omega))) rfl rfl rfl ?_
  refine LL.val (R.buildV rfl rfl (v := .agg #[Value.int IntKind.i64 ↑3, Value.int IntKind.i64 ↑l, Value.int IntKind.i64 0, Value.slice none 0 0, Value.int IntKind.i64 0, Value.int IntKind.i64 0, Value.string { data := #[] }]) (fun _ => by kernel_rfl)) rfl rfl rfl ?_
  refine LL.val (R.buildV rfl rfl (v := .agg #[Value.int IntKind.i64 3, Value.int IntKind.i64 ↑l, Value.int IntKind.i64 0, Value.slice none 0 0, Value.int IntKind.i64 0, Value.int IntKind.i64 0, Value.string { data := #[] }]) (fun _ => by kernel_rfl)) rfl rfl rfl ?_
  have l20 := hs.lt; have l21 := ho.lt; have l22 := r13.lt
  refine LL.alloc ([.int .i64 0, .int .i64 0, .int .i64 0, .slice none 0 0, .int .i64 0, .int .i64 0, .string { data := { toList := [] } }]) rfl rfl rfl rfl rfl ?_
  intro W24 g25 eg25 r26 z27 b23
  replace hs := hs.up b23; replace ho := ho.up b23; replace hkk := Zh hkk b23; have y28 := hkk.size; replace c0 := cell_up c0 b23; replace q := Zu q b23; replace r13 := r13.up b23
  refine LL.storeN (vs := [.int .i64 3, .int .i64 ↑l, .int .i64 0, .slice none 0 0, .int .i64 0, .int .i64 0, .string { data := #[] }]) rfl rfl rfl rfl r26 (by exact Nat.le_of_ble_eq_true rfl) (ones_of rfl) rfl rfl ?_
  intro W30 r31 b29 z32
  have hlb29 := r26.lt
  replace r31 : RowL W30 _ 145 [.int .i64 3, .int .i64 ↑l, .int .i64 0, .slice none 0 0, .int .i64 0, .int .i64 0, .string { data := #[] }] := r31
  clear r26
  replace hs := Zd hs b29; replace ho := Zd ho b29; replace hkk := Zo hkk b29; replace c0 := Ze c0 b29; replace q := Zg q b29; replace r13 := Zd r13 b29
  have r26 := r31
  clear r31
  refine Zq ?_; refine Zr ?_; refine Zf ?_; refine Zl r13 ?_; refine Zl hs ?_
  (refine LL.callP (R.callV rfl rfl rfl rfl) rfl rfl (rd3_F _ bk off cap ws 3 l 0 _ 0 0 [] _ hws (by assumption) (fun X hX => (hWF _ q).kept hX (by omega)) x1 h1 hr hcap) ?_; rintro e @W ⟨rfl, t9⟩; refine ⟨_, rfl, ?_⟩; replace hkk := hkk.trans (t9.less fun j hj => ⟨by have := hj.1; omega, by have := hj.1; omega⟩))
  refine EE.thenP ?_; refine EE.panM ?_
  exact ⟨rfl, hkk⟩
theorem of1_3C (gk : Nat) (gs go bk off cap : Nat) (ws : List Nat) (w : World) (hS : Start w) (hws : ws.length = 16) (hwb : ∀ x ∈ ws, x < 18446744073709551616) (hcap : 16 ≤ cap) (hs : RowL w gs 33 [.slice (some ⟨bk, off, none⟩) 16 cap]) (hW : WdsAt w bk off ws) (ho : RowL w go 80 (inL 0 0 0 (.slice none 0 0) 0 0 [])) (hne : go ≠ gs ∧ 0 < go ∧ bk ≠ go) (x0 : Nat) (h0 : ws[0]? = some x0) (hx0 : x0 ≠ 0) (l : Nat) (el : x0 / 256 % 16777216 = l) (hk : x0 % 256 = 3) (x1 : Nat) (h1 : ws[1]? = some x1) (hr1 : 1 ≤ x1 ∧ x1 ≤ 112) (hr2 : tgOk ws x1) (hok1 : ¬okI 3 (l : Int) 0 [] 0 0 (tgW ws x1)) : Calls Tryz.prog 77 #[.pointer (some ⟨gs, 0, none⟩), .pointer (some ⟨go, 0, none⟩)] w fun e w' => e = .panicked (chain1 refV) ∧ Kept (KW w gk) w w' := by
  have hkk := Kept.refl (KW w gk) w
  have lgs := hs.lt; have lgo := ho.lt; have lbk := hW.lt
  have hS0 := hS.pos
  have hWF : ∀ X, Below w.heap.size w X → WdsAt X bk off ws := fun X b => hW.up b
  have hSF : ∀ X, Below w.heap.size w X → Start X := fun X b => hS.up b
  have hx64 := hwb x0 (List.mem_of_getElem? h0)
  have c0 : w.cell? ⟨bk, off + 0, none⟩ = some (.int .u64 (x0 : Int)) := hW.cells 0 x0 h0
  have q := Below.refl w.heap.size w
  clear hW hS
  have hll : l < 16777216 := by omega
  have hml : ([] : List Ex).length ≤ 1048576 := by simp
  have htl : ((tgW ws x1) : Bs).length ≤ 1048576 := by unfold tgW ofN; simp; omega
  refine X.fnP Tryz.func77 rfl (n := 70) rfl rfl ?_
  refine Zr ?_; refine Zl hs ?_; refine Zn ?_; refine ZneF ?_
  refine Zy (R.call rfl rfl rfl) (refuse_F _) ?_
  rintro e W' ⟨rfl, rfl⟩
  refine ⟨_, rfl, ?_⟩; refine Zq ?_; refine Zc ?_; refine Zr ?_; refine Zl hs ?_; refine Zi ?_; refine Zk ?_; refine ZeqF ?_; refine Zq ?_; refine ZN ?_; refine ZK ?_; refine ZT ?_; refine Zr ?_; refine Zl hs ?_; refine Zi ?_; refine Zk ?_
  (refine Zy (R.call rfl rfl rfl) (fld_k x0 hx64 _) ?_; rintro e _ ⟨rfl, rfl⟩; rw [hk]; refine ⟨_, rfl, ?_⟩)
  refine Zm ?_; refine Zx ?_; refine Zx ?_; refine Za ?_; refine Za ?_; refine Zq ?_; refine Zr ?_; refine Zl hs ?_; refine Zi ?_; refine Zk ?_
  (refine Zy (R.call rfl rfl rfl) (fld_l x0 hx64 _) ?_; rintro e _ ⟨rfl, rfl⟩; rw [el]; refine ⟨_, rfl, ?_⟩)
  refine Zm ?_; refine Zx ?_; refine Zx ?_; refine Za ?_; refine Za ?_; refine Zq ?_; refine Zr ?_
  refine Zy (R.call rfl rfl rfl) (kinds_any _) ?_
  rintro e W402 ⟨g404, k405, rfl, h403, b401⟩
  refine ⟨_, rfl, ?_⟩; have zb401 := b401.size; replace hs := hs.up b401; replace ho := ho.up b401; replace hkk := Zh hkk b401; have y407 := hkk.size; replace c0 := cell_up c0 b401; replace q := Zu q b401; refine Zm ?_
  refine LL.val (R.convI rfl rfl rfl rfl (wrapI (by omega) (by omega))) rfl rfl rfl ?_
  (refine LL.val (R.lookKT rfl rfl zKeys (by rfl) (z := kdZ) (by kernel_rfl) (by assumption) (3 : Int) rfl kF_3) rfl rfl rfl ?_)
  refine Zm ?_; refine Zx ?_; refine Zx ?_; have l520 := hs.lt; have l521 := ho.lt
  refine LL.alloc ([Value.nilFunc, Value.nilFunc, Value.nilFunc, Value.nilFunc]) rfl rfl rfl rfl rfl ?_
  intro W523 g524 eg524 r525 z526 b522
  replace h403 := h403.up b522; replace b401 := Zu b401 b522; replace hs := hs.up b522; replace ho := ho.up b522; replace hkk := Zh hkk b522; have y527 := hkk.size; replace c0 := cell_up c0 b522; replace q := Zu q b522
  refine LL.storeN (vs := [fnV kd3.1, fnV kd3.2.1, fnV kd3.2.2.1, fnV kd3.2.2.2]) rfl rfl rfl rfl r525 (by exact Nat.le_of_ble_eq_true rfl) (ones_of rfl) rfl rfl ?_
  intro W546 r547 b545 z548
  have hlb545 := r525.lt
  replace r547 : RowL W546 _ 140 [fnV kd3.1, fnV kd3.2.1, fnV kd3.2.2.1, fnV kd3.2.2.2] := r547
  clear r525
  replace b522 := Zg b522 b545; replace b401 := Zg b401 b545; replace hs := Zd hs b545; replace ho := Zd ho b545; replace hkk := Zo hkk b545; replace c0 := Ze c0 b545; replace q := Zg q b545
  have r525 := r547
  clear r547
  refine Za ?_; refine Zq ?_; refine Zr ?_; refine Zm ?_; refine Zt ?_
  refine Zy (R.call rfl rfl rfl) (refuse_F _) ?_
  rintro e W' ⟨rfl, rfl⟩
  refine ⟨_, rfl, ?_⟩; refine Zq ?_; refine Zr ?_; refine Zm ?_
  refine LL.val (R.convI rfl rfl rfl rfl (wrapI (by omega) (by omega))) rfl rfl rfl ?_
  refine Zm ?_
  refine LL.val (R.convI rfl rfl rfl rfl (wrapI (by omega) (by omega))) rfl rfl rfl ?_
  refine LL.val (R.buildV rfl rfl (v := .agg #[Value.int IntKind.i64 ↑3, Value.int IntKind.i64 ↑l, Value.int IntKind.i64 0, Value.slice none 0 0, Value.int IntKind.i64 0, Value.int IntKind.i64 0, Value.string { data := #[] }]) (fun _ => by kernel_rfl)) rfl rfl rfl ?_
  refine LL.val (R.buildV rfl rfl (v := .agg #[Value.int IntKind.i64 3, Value.int IntKind.i64 ↑l, Value.int IntKind.i64 0, Value.slice none 0 0, Value.int IntKind.i64 0, Value.int IntKind.i64 0, Value.string { data := #[] }]) (fun _ => by kernel_rfl)) rfl rfl rfl ?_
  have l736 := hs.lt; have l737 := ho.lt; have l738 := r525.lt
  refine LL.alloc ([.int .i64 0, .int .i64 0, .int .i64 0, .slice none 0 0, .int .i64 0, .int .i64 0, .string { data := { toList := [] } }]) rfl rfl rfl rfl rfl ?_
  intro W740 g741 eg741 r742 z743 b739
  replace b522 := Zu b522 b739; replace b401 := Zu b401 b739; replace hs := hs.up b739; replace ho := ho.up b739; replace hkk := Zh hkk b739; have y744 := hkk.size; replace c0 := cell_up c0 b739; replace q := Zu q b739; replace r525 := r525.up b739
  refine LL.storeN (vs := [.int .i64 3, .int .i64 ↑l, .int .i64 0, .slice none 0 0, .int .i64 0, .int .i64 0, .string { data := #[] }]) rfl rfl rfl rfl r742 (by exact Nat.le_of_ble_eq_true rfl) (ones_of rfl) rfl rfl ?_
  intro W764 r765 b763 z766
  have hlb763 := r742.lt
  replace r765 : RowL W764 _ 145 [.int .i64 3, .int .i64 ↑l, .int .i64 0, .slice none 0 0, .int .i64 0, .int .i64 0, .string { data := #[] }] := r765
  clear r742
  replace b739 := Zg b739 b763; replace b522 := Zg b522 b763; replace b401 := Zg b401 b763; replace hs := Zd hs b763; replace ho := Zd ho b763; replace hkk := Zo hkk b763; replace c0 := Ze c0 b763; replace q := Zg q b763; replace r525 := Zd r525 b763
  have r742 := r765
  clear r765
  refine Zq ?_; refine Zr ?_; refine Zf ?_; refine Zl r525 ?_; refine Zl hs ?_
  (refine LL.call (R.callV rfl rfl rfl rfl) rfl rfl rfl (rd3_T _ bk off cap ws 3 l 0 _ 0 0 [] _ hws (by assumption) (fun X hX => (hWF _ q).kept hX (by omega)) x1 h1 hr1 hr2 hcap) ?_; rintro e W824 ⟨rfl, hN8, t823⟩; refine ⟨_, rfl, ?_⟩; replace hkk := hkk.trans (t823.less fun j hj => ⟨by have := hj.1; omega, by have := hj.1; omega⟩); have hu8 := hN8; clear hN8)
  have zt823 := t823.size
  replace b739 := t823.onB b739 (fun j hj => ⟨by have := b739.size; omega, by omega⟩)
  replace b522 := t823.onB b522 (fun j hj => ⟨by have := b522.size; omega, by omega⟩)
  replace b401 := t823.onB b401 (fun j hj => ⟨by have := b401.size; omega, by omega⟩)
  replace hs := hs.kept t823 ⟨hs.lt, by omega⟩
  replace ho := ho.kept t823 ⟨ho.lt, by omega⟩
  replace c0 := cell_kept c0 t823 ⟨World.block_lt_of_cell? _ _ c0, by omega⟩
  replace q := t823.onB q (fun j hj => ⟨by have := q.size; omega, by omega⟩)
  replace r525 := r525.kept t823 ⟨r525.lt, by omega⟩
  refine Zq ?_; refine Zr ?_; refine Zf ?_; refine Zv hu8 ?_; have l875 := hu8.lt; have l876 := hs.lt; have l877 := ho.lt; have l878 := r525.lt
  (refine Zy (R.call rfl rfl rfl) (words_no 3 (l : Int) 0 none 0 0 [] 0 0 (tgW ws x1) _ (ReadsT.nil _) hml htl hok1) ?_; rintro e W874 ⟨rfl, b871⟩; refine ⟨_, rfl, ?_⟩)
  have zb871 := b871.size; replace hkk := Zh hkk b871; have y882 := hkk.size; replace hu8 := hu8.up b871; replace b739 := Zu b739 b871; replace b522 := Zu b522 b871; replace b401 := Zu b401 b871; replace hs := hs.up b871; replace ho := ho.up b871; replace c0 := cell_up c0 b871; replace q := Zu q b871; replace r525 := r525.up b871; refine Zm ?_; refine Zx ?_; refine Zx ?_; refine Za ?_; refine Za ?_
  refine Zq ?_; refine Zr ?_; refine Zm ?_; refine ZneT ?_; refine Zm ?_; refine Zs ?_; refine Zs ?_; refine Zs ?_; refine Zs ?_; refine Zp ?_
  refine LL.callP (R.call rfl rfl rfl) rfl rfl (refuse_T _) ?_
  rintro e W1064 ⟨rfl, rfl⟩
  refine ⟨_, rfl, ?_⟩; refine EE.thenP ?_; refine EE.panM ?_
  exact ⟨rfl, hkk⟩
theorem of1_3W (gk : Nat) (gs go bk off cap : Nat) (ws : List Nat) (w : World) (hS : Start w) (hws : ws.length = 16) (hwb : ∀ x ∈ ws, x < 18446744073709551616) (hcap : 16 ≤ cap) (hs : RowL w gs 33 [.slice (some ⟨bk, off, none⟩) 16 cap]) (hW : WdsAt w bk off ws) (ho : RowL w go 80 (inL 0 0 0 (.slice none 0 0) 0 0 [])) (hne : go ≠ gs ∧ 0 < go ∧ bk ≠ go) (x0 : Nat) (h0 : ws[0]? = some x0) (hx0 : x0 ≠ 0) (l : Nat) (el : x0 / 256 % 16777216 = l) (hk : x0 % 256 = 3) (x1 : Nat) (h1 : ws[1]? = some x1) (hr1 : 1 ≤ x1 ∧ x1 ≤ 112) (hr2 : tgOk ws x1) (hok1 : okI 3 (l : Int) 0 [] 0 0 (tgW ws x1)) (heq : inoW 3 (l : Int) 0 [] 0 0 (tgW ws x1) ≠ ws) : Calls Tryz.prog 77 #[.pointer (some ⟨gs, 0, none⟩), .pointer (some ⟨go, 0, none⟩)] w fun e w' => e = .panicked (chain1 refV) ∧ Kept (KW w gk) w w' := by
  have hkk := Kept.refl (KW w gk) w
  have lgs := hs.lt; have lgo := ho.lt; have lbk := hW.lt
  have hS0 := hS.pos
  have hWF : ∀ X, Below w.heap.size w X → WdsAt X bk off ws := fun X b => hW.up b
  have hSF : ∀ X, Below w.heap.size w X → Start X := fun X b => hS.up b
  have hx64 := hwb x0 (List.mem_of_getElem? h0)
  have c0 : w.cell? ⟨bk, off + 0, none⟩ = some (.int .u64 (x0 : Int)) := hW.cells 0 x0 h0
  have q := Below.refl w.heap.size w
  clear hW hS
  have hll : l < 16777216 := by omega
  have hml : ([] : List Ex).length ≤ 1048576 := by simp
  refine X.fnP Tryz.func77 rfl (n := 70) rfl rfl ?_
  refine Zr ?_; refine Zl hs ?_; refine Zn ?_; refine ZneF ?_
  refine Zy (R.call rfl rfl rfl) (refuse_F _) ?_
  rintro e W' ⟨rfl, rfl⟩
  refine ⟨_, rfl, ?_⟩; refine Zq ?_; refine Zc ?_; refine Zr ?_; refine Zl hs ?_; refine Zi ?_; refine Zk ?_; refine ZeqF ?_; refine Zq ?_; refine ZN ?_; refine ZK ?_; refine ZT ?_; refine Zr ?_; refine Zl hs ?_; refine Zi ?_; refine Zk ?_
  (refine Zy (R.call rfl rfl rfl) (fld_k x0 hx64 _) ?_; rintro e _ ⟨rfl, rfl⟩; rw [hk]; refine ⟨_, rfl, ?_⟩)
  refine Zm ?_; refine Zx ?_; refine Zx ?_; refine Za ?_; refine Za ?_; refine Zq ?_; refine Zr ?_; refine Zl hs ?_; refine Zi ?_; refine Zk ?_
  (refine Zy (R.call rfl rfl rfl) (fld_l x0 hx64 _) ?_; rintro e _ ⟨rfl, rfl⟩; rw [el]; refine ⟨_, rfl, ?_⟩)
  refine Zm ?_; refine Zx ?_; refine Zx ?_; refine Za ?_; refine Za ?_; refine Zq ?_; refine Zr ?_
  refine Zy (R.call rfl rfl rfl) (kinds_any _) ?_
  rintro e W627 ⟨g629, k630, rfl, h628, b626⟩
  refine ⟨_, rfl, ?_⟩; have zb626 := b626.size; replace hs := hs.up b626; replace ho := ho.up b626; replace hkk := Zh hkk b626; have y632 := hkk.size; replace c0 := cell_up c0 b626; replace q := Zu q b626; refine Zm ?_
  refine LL.val (R.convI rfl rfl rfl rfl (wrapI (by omega) (by omega))) rfl rfl rfl ?_
  (refine LL.val (R.lookKT rfl rfl zKeys (by rfl) (z := kdZ) (by kernel_rfl) (by assumption) (3 : Int) rfl kF_3) rfl rfl rfl ?_)
  refine Zm ?_; refine Zx ?_; refine Zx ?_; have l808 := hs.lt; have l809 := ho.lt
  refine LL.alloc ([Value.nilFunc, Value.nilFunc, Value.nilFunc, Value.nilFunc]) rfl rfl rfl rfl rfl ?_
  intro W811 g812 eg812 r813 z814 b810
  replace h628 := h628.up b810; replace b626 := Zu b626 b810; replace hs := hs.up b810; replace ho := ho.up b810; replace hkk := Zh hkk b810; have y815 := hkk.size; replace c0 := cell_up c0 b810; replace q := Zu q b810
  refine LL.storeN (vs := [fnV kd3.1, fnV kd3.2.1, fnV kd3.2.2.1, fnV kd3.2.2.2]) rfl rfl rfl rfl r813 (by exact Nat.le_of_ble_eq_true rfl) (ones_of rfl) rfl rfl ?_
  intro W844 r845 b843 z846
  have hlb843 := r813.lt
  replace r845 : RowL W844 _ 140 [fnV kd3.1, fnV kd3.2.1, fnV kd3.2.2.1, fnV kd3.2.2.2] := r845
  clear r813
  replace b810 := Zg b810 b843; replace b626 := Zg b626 b843; replace hs := Zd hs b843; replace ho := Zd ho b843; replace hkk := Zo hkk b843; replace c0 := Ze c0 b843; replace q := Zg q b843
  have r813 := r845
  clear r845
  refine Za ?_; refine Zq ?_; refine Zr ?_; refine Zm ?_; refine Zt ?_
  refine Zy (R.call rfl rfl rfl) (refuse_F _) ?_
  rintro e W' ⟨rfl, rfl⟩
  refine ⟨_, rfl, ?_⟩; refine Zq ?_; refine Zr ?_; refine Zm ?_
  refine LL.val (R.convI rfl rfl rfl rfl (wrapI (by omega) (by omega))) rfl rfl rfl ?_
  refine Zm ?_
  refine LL.val (R.convI rfl rfl rfl rfl (wrapI (by omega) (by omega))) rfl rfl rfl ?_
  refine LL.val (R.buildV rfl rfl (v := .agg #[Value.int IntKind.i64 ↑3, Value.int IntKind.i64 ↑l, Value.int IntKind.i64 0, Value.slice none 0 0, Value.int IntKind.i64 0, Value.int IntKind.i64 0, Value.string { data := #[] }]) (fun _ => by kernel_rfl)) rfl rfl rfl ?_
  refine LL.val (R.buildV rfl rfl (v := .agg #[Value.int IntKind.i64 3, Value.int IntKind.i64 ↑l, Value.int IntKind.i64 0, Value.slice none 0 0, Value.int IntKind.i64 0, Value.int IntKind.i64 0, Value.string { data := #[] }]) (fun _ => by kernel_rfl)) rfl rfl rfl ?_
  have l1144 := hs.lt; have l1145 := ho.lt; have l1146 := r813.lt
  refine LL.alloc ([.int .i64 0, .int .i64 0, .int .i64 0, .slice none 0 0, .int .i64 0, .int .i64 0, .string { data := { toList := [] } }]) rfl rfl rfl rfl rfl ?_
  intro W1148 g1149 eg1149 r1150 z1151 b1147
  replace b810 := Zu b810 b1147; replace b626 := Zu b626 b1147; replace hs := hs.up b1147; replace ho := ho.up b1147; replace hkk := Zh hkk b1147; have y1152 := hkk.size; replace c0 := cell_up c0 b1147; replace q := Zu q b1147; replace r813 := r813.up b1147
  refine LL.storeN (vs := [.int .i64 3, .int .i64 ↑l, .int .i64 0, .slice none 0 0, .int .i64 0, .int .i64 0, .string { data := #[] }]) rfl rfl rfl rfl r1150 (by exact Nat.le_of_ble_eq_true rfl) (ones_of rfl) rfl rfl ?_
  intro W1183 r1184 b1182 z1185
  have hlb1182 := r1150.lt
  replace r1184 : RowL W1183 _ 145 [.int .i64 3, .int .i64 ↑l, .int .i64 0, .slice none 0 0, .int .i64 0, .int .i64 0, .string { data := #[] }] := r1184
  clear r1150
  replace b1147 := Zg b1147 b1182; replace b810 := Zg b810 b1182; replace b626 := Zg b626 b1182; replace hs := Zd hs b1182; replace ho := Zd ho b1182; replace hkk := Zo hkk b1182; replace c0 := Ze c0 b1182; replace q := Zg q b1182; replace r813 := Zd r813 b1182
  have r1150 := r1184
  clear r1184
  refine Zq ?_; refine Zr ?_; refine Zf ?_; refine Zl r813 ?_; refine Zl hs ?_
  (refine LL.call (R.callV rfl rfl rfl rfl) rfl rfl rfl (rd3_T _ bk off cap ws 3 l 0 _ 0 0 [] _ hws (by assumption) (fun X hX => (hWF _ q).kept hX (by omega)) x1 h1 hr1 hr2 hcap) ?_; rintro e W1276 ⟨rfl, hN8, t1275⟩; refine ⟨_, rfl, ?_⟩; replace hkk := hkk.trans (t1275.less fun j hj => ⟨by have := hj.1; omega, by have := hj.1; omega⟩); have hu8 := hN8; clear hN8)
  have zt1275 := t1275.size
  replace b1147 := t1275.onB b1147 (fun j hj => ⟨by have := b1147.size; omega, by omega⟩)
  replace b810 := t1275.onB b810 (fun j hj => ⟨by have := b810.size; omega, by omega⟩)
  replace b626 := t1275.onB b626 (fun j hj => ⟨by have := b626.size; omega, by omega⟩)
  replace hs := hs.kept t1275 ⟨hs.lt, by omega⟩
  replace ho := ho.kept t1275 ⟨ho.lt, by omega⟩
  replace c0 := cell_kept c0 t1275 ⟨World.block_lt_of_cell? _ _ c0, by omega⟩
  replace q := t1275.onB q (fun j hj => ⟨by have := q.size; omega, by omega⟩)
  replace r813 := r813.kept t1275 ⟨r813.lt, by omega⟩
  refine Zq ?_; refine Zr ?_; refine Zf ?_; refine Zv hu8 ?_; have l1349 := hu8.lt; have l1350 := hs.lt; have l1351 := ho.lt; have l1352 := r813.lt
  (refine Zy (R.call rfl rfl rfl) (words_ok 3 (l : Int) 0 none 0 0 [] 0 0 (tgW ws x1) _ (hSF _ q) (ReadsT.nil _) hml hok1) ?_; rintro e W1348 ⟨g9, rfl, r9, hg9, b1345⟩; refine ⟨_, rfl, ?_⟩)
  have zb1345 := b1345.size; replace hkk := Zh hkk b1345; have y1356 := hkk.size; replace hu8 := hu8.up b1345; replace b1147 := Zu b1147 b1345; replace b810 := Zu b810 b1345; replace b626 := Zu b626 b1345; replace hs := hs.up b1345; replace ho := ho.up b1345; replace c0 := cell_up c0 b1345; replace q := Zu q b1345; replace r813 := r813.up b1345; refine Zm ?_; refine Zx ?_; refine Zx ?_; refine Za ?_
  refine Za ?_; refine Zq ?_; refine Zr ?_; refine Zm ?_; refine ZneF ?_; refine Zm ?_; refine Zm ?_; refine Zl hs ?_; have l1690 := r9.lt; have l1691 := hu8.lt; have l1692 := hs.lt; have l1693 := ho.lt; have l1694 := r813.lt
  (refine Zy (R.call rfl rfl rfl) (weq_F (RowL.asInts r9 .u64 _ rfl (inoW_len hok1)) ((hWF _ q).all hws hcap) (by rw [inoW_len hok1]; omega) (by omega) heq) ?_; rintro e W1689 ⟨rfl, b1686⟩; refine ⟨_, rfl, ?_⟩)
  have zb1686 := b1686.size; replace r9 := r9.up b1686; replace hkk := Zh hkk b1686; have y1698 := hkk.size; replace hu8 := hu8.up b1686; replace b1147 := Zu b1147 b1686; replace b810 := Zu b810 b1686; replace b626 := Zu b626 b1686; replace hs := hs.up b1686; replace ho := ho.up b1686; replace c0 := cell_up c0 b1686; replace q := Zu q b1686; replace r813 := r813.up b1686; refine Zt ?_; refine Zp ?_
  refine LL.callP (R.call rfl rfl rfl) rfl rfl (refuse_T _) ?_
  rintro e W1793 ⟨rfl, rfl⟩
  refine ⟨_, rfl, ?_⟩; refine EE.thenP ?_; refine EE.panM ?_
  exact ⟨rfl, hkk⟩
theorem of1_3T (gs go bk off cap : Nat) (ws : List Nat) (w : World) (hS : Start w) (hws : ws.length = 16) (hwb : ∀ x ∈ ws, x < 18446744073709551616) (hcap : 16 ≤ cap) (hs : RowL w gs 33 [.slice (some ⟨bk, off, none⟩) 16 cap]) (hW : WdsAt w bk off ws) (ho : RowL w go 80 (inL 0 0 0 (.slice none 0 0) 0 0 [])) (hne : go ≠ gs ∧ 0 < go ∧ bk ≠ go) (x0 : Nat) (h0 : ws[0]? = some x0) (hx0 : x0 ≠ 0) (l : Nat) (el : x0 / 256 % 16777216 = l) (hk : x0 % 256 = 3) (x1 : Nat) (h1 : ws[1]? = some x1) (hr1 : 1 ≤ x1 ∧ x1 ≤ 112) (hr2 : tgOk ws x1) (hok1 : okI 3 (l : Int) 0 [] 0 0 (tgW ws x1)) (heq : inoW 3 (l : Int) 0 [] 0 0 (tgW ws x1) = ws) : Calls Tryz.prog 77 #[.pointer (some ⟨gs, 0, none⟩), .pointer (some ⟨go, 0, none⟩)] w (ofP go 3 (l : Int) 0 [] 0 0 (tgW ws x1) w) := by
  unfold ofP
  have hkk := Kept.refl (KW w go) w
  have lgs := hs.lt; have lgo := ho.lt; have lbk := hW.lt
  have hS0 := hS.pos
  have hWF : ∀ X, Below w.heap.size w X → WdsAt X bk off ws := fun X b => hW.up b
  have hSF : ∀ X, Below w.heap.size w X → Start X := fun X b => hS.up b
  have hx64 := hwb x0 (List.mem_of_getElem? h0)
  have c0 : w.cell? ⟨bk, off + 0, none⟩ = some (.int .u64 (x0 : Int)) := hW.cells 0 x0 h0
  have q := Below.refl w.heap.size w
  clear hW hS
  have hll : l < 16777216 := by omega
  have hml : ([] : List Ex).length ≤ 1048576 := by simp
  refine X.fn Tryz.func77 rfl (n := 70) rfl rfl ?_
  refine Zr ?_; refine Zl hs ?_; refine Zn ?_; refine ZneF ?_
  refine Zy (R.call rfl rfl rfl) (refuse_F _) ?_
  rintro e W' ⟨rfl, rfl⟩
  refine ⟨_, rfl, ?_⟩; refine Zq ?_; refine Zc ?_; refine Zr ?_; refine Zl hs ?_; refine Zi ?_; refine Zk ?_; refine ZeqF ?_; refine Zq ?_; refine ZN ?_; refine ZK ?_; refine ZT ?_; refine Zr ?_; refine Zl hs ?_; refine Zi ?_; refine Zk ?_
  (refine Zy (R.call rfl rfl rfl) (fld_k x0 hx64 _) ?_; rintro e _ ⟨rfl, rfl⟩; rw [hk]; refine ⟨_, rfl, ?_⟩)
  refine Zm ?_; refine Zx ?_; refine Zx ?_; refine Za ?_; refine Za ?_; refine Zq ?_; refine Zr ?_; refine Zl hs ?_; refine Zi ?_; refine Zk ?_
  (refine Zy (R.call rfl rfl rfl) (fld_l x0 hx64 _) ?_; rintro e _ ⟨rfl, rfl⟩; rw [el]; refine ⟨_, rfl, ?_⟩)
  refine Zm ?_; refine Zx ?_; refine Zx ?_; refine Za ?_; refine Za ?_; refine Zq ?_; refine Zr ?_
  refine Zy (R.call rfl rfl rfl) (kinds_any _) ?_
  rintro e W627 ⟨g629, k630, rfl, h628, b626⟩
  refine ⟨_, rfl, ?_⟩; have zb626 := b626.size; replace hs := hs.up b626; replace ho := ho.up b626; replace hkk := Zh hkk b626; have y632 := hkk.size; replace c0 := cell_up c0 b626; replace q := Zu q b626; refine Zm ?_
  refine LL.val (R.convI rfl rfl rfl rfl (wrapI (by omega) (by omega))) rfl rfl rfl ?_
  (refine LL.val (R.lookKT rfl rfl zKeys (by rfl) (z := kdZ) (by kernel_rfl) (by assumption) (3 : Int) rfl kF_3) rfl rfl rfl ?_)
  refine Zm ?_; refine Zx ?_; refine Zx ?_; have l808 := hs.lt; have l809 := ho.lt
  refine LL.alloc ([Value.nilFunc, Value.nilFunc, Value.nilFunc, Value.nilFunc]) rfl rfl rfl rfl rfl ?_
  intro W811 g812 eg812 r813 z814 b810
  replace h628 := h628.up b810; replace b626 := Zu b626 b810; replace hs := hs.up b810; replace ho := ho.up b810; replace hkk := Zh hkk b810; have y815 := hkk.size; replace c0 := cell_up c0 b810; replace q := Zu q b810
  refine LL.storeN (vs := [fnV kd3.1, fnV kd3.2.1, fnV kd3.2.2.1, fnV kd3.2.2.2]) rfl rfl rfl rfl r813 (by exact Nat.le_of_ble_eq_true rfl) (ones_of rfl) rfl rfl ?_
  intro W844 r845 b843 z846
  have hlb843 := r813.lt
  replace r845 : RowL W844 _ 140 [fnV kd3.1, fnV kd3.2.1, fnV kd3.2.2.1, fnV kd3.2.2.2] := r845
  clear r813
  replace b810 := Zg b810 b843; replace b626 := Zg b626 b843; replace hs := Zd hs b843; replace ho := Zd ho b843; replace hkk := Zo hkk b843; replace c0 := Ze c0 b843; replace q := Zg q b843
  have r813 := r845
  clear r845
  refine Za ?_; refine Zq ?_; refine Zr ?_; refine Zm ?_; refine Zt ?_
  refine Zy (R.call rfl rfl rfl) (refuse_F _) ?_
  rintro e W' ⟨rfl, rfl⟩
  refine ⟨_, rfl, ?_⟩; refine Zq ?_; refine Zr ?_; refine Zm ?_
  refine LL.val (R.convI rfl rfl rfl rfl (wrapI (by omega) (by omega))) rfl rfl rfl ?_
  refine Zm ?_
  refine LL.val (R.convI rfl rfl rfl rfl (wrapI (by omega) (by omega))) rfl rfl rfl ?_
  refine LL.val (R.buildV rfl rfl (v := .agg #[Value.int IntKind.i64 ↑3, Value.int IntKind.i64 ↑l, Value.int IntKind.i64 0, Value.slice none 0 0, Value.int IntKind.i64 0, Value.int IntKind.i64 0, Value.string { data := #[] }]) (fun _ => by kernel_rfl)) rfl rfl rfl ?_
  refine LL.val (R.buildV rfl rfl (v := .agg #[Value.int IntKind.i64 3, Value.int IntKind.i64 ↑l, Value.int IntKind.i64 0, Value.slice none 0 0, Value.int IntKind.i64 0, Value.int IntKind.i64 0, Value.string { data := #[] }]) (fun _ => by kernel_rfl)) rfl rfl rfl ?_
  have l1144 := hs.lt; have l1145 := ho.lt; have l1146 := r813.lt
  refine LL.alloc ([.int .i64 0, .int .i64 0, .int .i64 0, .slice none 0 0, .int .i64 0, .int .i64 0, .string { data := { toList := [] } }]) rfl rfl rfl rfl rfl ?_
  intro W1148 g1149 eg1149 r1150 z1151 b1147
  replace b810 := Zu b810 b1147; replace b626 := Zu b626 b1147; replace hs := hs.up b1147; replace ho := ho.up b1147; replace hkk := Zh hkk b1147; have y1152 := hkk.size; replace c0 := cell_up c0 b1147; replace q := Zu q b1147; replace r813 := r813.up b1147
  refine LL.storeN (vs := [.int .i64 3, .int .i64 ↑l, .int .i64 0, .slice none 0 0, .int .i64 0, .int .i64 0, .string { data := #[] }]) rfl rfl rfl rfl r1150 (by exact Nat.le_of_ble_eq_true rfl) (ones_of rfl) rfl rfl ?_
  intro W1183 r1184 b1182 z1185
  have hlb1182 := r1150.lt
  replace r1184 : RowL W1183 _ 145 [.int .i64 3, .int .i64 ↑l, .int .i64 0, .slice none 0 0, .int .i64 0, .int .i64 0, .string { data := #[] }] := r1184
  clear r1150
  replace b1147 := Zg b1147 b1182; replace b810 := Zg b810 b1182; replace b626 := Zg b626 b1182; replace hs := Zd hs b1182; replace ho := Zd ho b1182; replace hkk := Zo hkk b1182; replace c0 := Ze c0 b1182; replace q := Zg q b1182; replace r813 := Zd r813 b1182
  have r1150 := r1184
  clear r1184
  refine Zq ?_; refine Zr ?_; refine Zf ?_; refine Zl r813 ?_; refine Zl hs ?_
  (refine LL.call (R.callV rfl rfl rfl rfl) rfl rfl rfl (rd3_T _ bk off cap ws 3 l 0 _ 0 0 [] _ hws (by assumption) (fun X hX => (hWF _ q).kept hX (by omega)) x1 h1 hr1 hr2 hcap) ?_; rintro e W1276 ⟨rfl, hN8, t1275⟩; refine ⟨_, rfl, ?_⟩; replace hkk := hkk.trans (t1275.less fun j hj => ⟨by have := hj.1; omega, by have := hj.1; omega⟩); have hu8 := hN8; clear hN8)
  have zt1275 := t1275.size
  replace b1147 := t1275.onB b1147 (fun j hj => ⟨by have := b1147.size; omega, by omega⟩)
  replace b810 := t1275.onB b810 (fun j hj => ⟨by have := b810.size; omega, by omega⟩)
  replace b626 := t1275.onB b626 (fun j hj => ⟨by have := b626.size; omega, by omega⟩)
  replace hs := hs.kept t1275 ⟨hs.lt, by omega⟩
  replace ho := ho.kept t1275 ⟨ho.lt, by omega⟩
  replace c0 := cell_kept c0 t1275 ⟨World.block_lt_of_cell? _ _ c0, by omega⟩
  replace q := t1275.onB q (fun j hj => ⟨by have := q.size; omega, by omega⟩)
  replace r813 := r813.kept t1275 ⟨r813.lt, by omega⟩
  refine Zq ?_; refine Zr ?_; refine Zf ?_; refine Zv hu8 ?_; have l1349 := hu8.lt; have l1350 := hs.lt; have l1351 := ho.lt; have l1352 := r813.lt
  (refine Zy (R.call rfl rfl rfl) (words_ok 3 (l : Int) 0 none 0 0 [] 0 0 (tgW ws x1) _ (hSF _ q) (ReadsT.nil _) hml hok1) ?_; rintro e W1348 ⟨g9, rfl, r9, hg9, b1345⟩; refine ⟨_, rfl, ?_⟩)
  have zb1345 := b1345.size; replace hkk := Zh hkk b1345; have y1356 := hkk.size; replace hu8 := hu8.up b1345; replace b1147 := Zu b1147 b1345; replace b810 := Zu b810 b1345; replace b626 := Zu b626 b1345; replace hs := hs.up b1345; replace ho := ho.up b1345; replace c0 := cell_up c0 b1345; replace q := Zu q b1345; replace r813 := r813.up b1345; refine Zm ?_; refine Zx ?_; refine Zx ?_; refine Za ?_
  refine Za ?_; refine Zq ?_; refine Zr ?_; refine Zm ?_; refine ZneF ?_; refine Zm ?_; refine Zm ?_; refine Zl hs ?_; have l1690 := r9.lt; have l1691 := hu8.lt; have l1692 := hs.lt; have l1693 := ho.lt; have l1694 := r813.lt
  (refine Zy (R.call rfl rfl rfl) (weq_T (by rw [heq] at r9; exact RowL.asInts r9 .u64 _ rfl hws) ((hWF _ q).all hws hcap) (by omega)) ?_; rintro e W1689 ⟨rfl, b1686⟩; refine ⟨_, rfl, ?_⟩)
  have zb1686 := b1686.size; replace r9 := r9.up b1686; replace hkk := Zh hkk b1686; have y1698 := hkk.size; replace hu8 := hu8.up b1686; replace b1147 := Zu b1147 b1686; replace b810 := Zu b810 b1686; replace b626 := Zu b626 b1686; replace hs := hs.up b1686; replace ho := ho.up b1686; replace c0 := cell_up c0 b1686; replace q := Zu q b1686; replace r813 := r813.up b1686; refine Zt ?_; refine Zp ?_
  refine Zy (R.call rfl rfl rfl) (refuse_F _) ?_
  rintro e W' ⟨rfl, rfl⟩
  refine ⟨_, rfl, ?_⟩; refine Zq ?_; refine CC.region ?_; refine Zf ?_; refine Zv hu8 ?_
  refine LL.storeN (vs := [.int .i64 3, .int .i64 ↑l, .int .i64 0, .slice none 0 0, .int .i64 0, .int .i64 0, strV (tgW ws x1)]) rfl rfl rfl rfl ho (by exact Nat.le_of_ble_eq_true rfl) (ones_of rfl) rfl rfl ?_
  intro W1886 r1887 b1885 z1888
  have hlb1885 := ho.lt
  replace r1887 : RowL W1886 _ 80 [.int .i64 3, .int .i64 ↑l, .int .i64 0, .slice none 0 0, .int .i64 0, .int .i64 0, strV (tgW ws x1)] := r1887
  clear ho
  replace r9 := Zd r9 b1885; replace hkk := Zo hkk b1885; replace hu8 := Zd hu8 b1885; replace hs := Zd hs b1885; replace c0 := Ze c0 b1885; replace r813 := Zd r813 b1885
  have ho := r1887
  clear r1887
  refine ZL ?_; refine EE.end _ rfl rfl ?_
  exact ⟨rfl, ⟨_, by assumption, ReadsT.nil _, fun b off n c e => by cases e⟩, hkk⟩
theorem of1_0C (gk : Nat) (gs go bk off cap : Nat) (ws : List Nat) (w : World) (hS : Start w) (hws : ws.length = 16) (hwb : ∀ x ∈ ws, x < 18446744073709551616) (hcap : 16 ≤ cap) (hs : RowL w gs 33 [.slice (some ⟨bk, off, none⟩) 16 cap]) (hW : WdsAt w bk off ws) (ho : RowL w go 80 (inL 0 0 0 (.slice none 0 0) 0 0 [])) (hne : go ≠ gs ∧ 0 < go ∧ bk ≠ go) (x0 : Nat) (h0 : ws[0]? = some x0) (hx0 : x0 ≠ 0) (l : Nat) (el : x0 / 256 % 16777216 = l) (hk : x0 % 256 = 0)   (hok1 : ¬okI 0 (l : Int) 0 [] 0 0 []) : Calls Tryz.prog 77 #[.pointer (some ⟨gs, 0, none⟩), .pointer (some ⟨go, 0, none⟩)] w fun e w' => e = .panicked (chain1 refV) ∧ Kept (KW w gk) w w' := by
  have hkk := Kept.refl (KW w gk) w
  have lgs := hs.lt; have lgo := ho.lt; have lbk := hW.lt
  have hS0 := hS.pos
  have hWF : ∀ X, Below w.heap.size w X → WdsAt X bk off ws := fun X b => hW.up b
  have hSF : ∀ X, Below w.heap.size w X → Start X := fun X b => hS.up b
  have hx64 := hwb x0 (List.mem_of_getElem? h0)
  have c0 : w.cell? ⟨bk, off + 0, none⟩ = some (.int .u64 (x0 : Int)) := hW.cells 0 x0 h0
  have q := Below.refl w.heap.size w
  clear hW hS
  have hll : l < 16777216 := by omega
  have hml : ([] : List Ex).length ≤ 1048576 := by simp
  have htl : ([] : Bs).length ≤ 1048576 := by simp
  refine X.fnP Tryz.func77 rfl (n := 70) rfl rfl ?_
  refine Zr ?_; refine Zl hs ?_; refine Zn ?_; refine ZneF ?_
  refine Zy (R.call rfl rfl rfl) (refuse_F _) ?_
  rintro e W' ⟨rfl, rfl⟩
  refine ⟨_, rfl, ?_⟩; refine Zq ?_; refine Zc ?_; refine Zr ?_; refine Zl hs ?_; refine Zi ?_; refine Zk ?_; refine ZeqF ?_; refine Zq ?_; refine ZN ?_; refine ZK ?_; refine ZT ?_; refine Zr ?_; refine Zl hs ?_; refine Zi ?_; refine Zk ?_
  (refine Zy (R.call rfl rfl rfl) (fld_k x0 hx64 _) ?_; rintro e _ ⟨rfl, rfl⟩; rw [hk]; refine ⟨_, rfl, ?_⟩)
  refine Zm ?_; refine Zx ?_; refine Zx ?_; refine Za ?_; refine Za ?_; refine Zq ?_; refine Zr ?_; refine Zl hs ?_; refine Zi ?_; refine Zk ?_
  (refine Zy (R.call rfl rfl rfl) (fld_l x0 hx64 _) ?_; rintro e _ ⟨rfl, rfl⟩; rw [el]; refine ⟨_, rfl, ?_⟩)
  refine Zm ?_; refine Zx ?_; refine Zx ?_; refine Za ?_; refine Za ?_; refine Zq ?_; refine Zr ?_
  refine Zy (R.call rfl rfl rfl) (kinds_any _) ?_
  rintro e W227 ⟨g229, k230, rfl, h228, b226⟩
  refine ⟨_, rfl, ?_⟩; have zb226 := b226.size; replace hs := hs.up b226; replace ho := ho.up b226; replace hkk := Zh hkk b226; have y232 := hkk.size; replace c0 := cell_up c0 b226; replace q := Zu q b226; refine Zm ?_
  refine LL.val (R.convI rfl rfl rfl rfl (wrapI (by omega) (by omega))) rfl rfl rfl ?_
  (refine LL.val (R.lookKT rfl rfl zKeys (by rfl) (z := kdZ) (by kernel_rfl) (by assumption) (0 : Int) rfl kF_0) rfl rfl rfl ?_)
  refine Zm ?_; refine Zx ?_; refine Zx ?_; have l296 := hs.lt; have l297 := ho.lt
  refine LL.alloc ([Value.nilFunc, Value.nilFunc, Value.nilFunc, Value.nilFunc]) rfl rfl rfl rfl rfl ?_
  intro W299 g300 eg300 r301 z302 b298
  replace h228 := h228.up b298; replace hs := hs.up b298; replace ho := ho.up b298; replace hkk := Zh hkk b298; have y303 := hkk.size; replace c0 := cell_up c0 b298; replace q := Zu q b298
  refine LL.storeN (vs := [fnV kd0.1, fnV kd0.2.1, fnV kd0.2.2.1, fnV kd0.2.2.2]) rfl rfl rfl rfl r301 (by exact Nat.le_of_ble_eq_true rfl) (ones_of rfl) rfl rfl ?_
  intro W315 r316 b314 z317
  have hlb314 := r301.lt
  replace r316 : RowL W315 _ 140 [fnV kd0.1, fnV kd0.2.1, fnV kd0.2.2.1, fnV kd0.2.2.2] := r316
  clear r301
  replace hs := Zd hs b314; replace ho := Zd ho b314; replace hkk := Zo hkk b314; replace c0 := Ze c0 b314; replace q := Zg q b314
  have r301 := r316
  clear r316
  refine Za ?_; refine Zq ?_; refine Zr ?_; refine Zm ?_; refine Zt ?_
  refine Zy (R.call rfl rfl rfl) (refuse_F _) ?_
  rintro e W' ⟨rfl, rfl⟩
  refine ⟨_, rfl, ?_⟩; refine Zq ?_; refine Zr ?_; refine Zm ?_
  refine LL.val (R.convI rfl rfl rfl rfl (wrapI (by omega) (by omega))) rfl rfl rfl ?_
  refine Zm ?_
  refine LL.val (R.convI rfl rfl rfl rfl (wrapI (by omega) (by omega))) rfl rfl rfl ?_
  refine LL.val (R.buildV rfl rfl (v := .agg #[Value.int IntKind.i64 ↑0, Value.int IntKind.i64 ↑l, Value.int IntKind.i64 0, Value.slice none 0 0, Value.int IntKind.i64 0, Value.int IntKind.i64 0, Value.string { data := #[] }]) (fun _ => by kernel_rfl)) rfl rfl rfl ?_
  refine LL.val (R.buildV rfl rfl (v := .agg #[Value.int IntKind.i64 0, Value.int IntKind.i64 ↑l, Value.int IntKind.i64 0, Value.slice none 0 0, Value.int IntKind.i64 0, Value.int IntKind.i64 0, Value.string { data := #[] }]) (fun _ => by kernel_rfl)) rfl rfl rfl ?_
  have l428 := hs.lt; have l429 := ho.lt; have l430 := r301.lt
  refine LL.alloc ([.int .i64 0, .int .i64 0, .int .i64 0, .slice none 0 0, .int .i64 0, .int .i64 0, .string { data := { toList := [] } }]) rfl rfl rfl rfl rfl ?_
  intro W432 g433 eg433 r434 z435 b431
  replace hs := hs.up b431; replace ho := ho.up b431; replace hkk := Zh hkk b431; have y436 := hkk.size; replace c0 := cell_up c0 b431; replace q := Zu q b431; replace r301 := r301.up b431
  refine LL.storeN (vs := [.int .i64 0, .int .i64 ↑l, .int .i64 0, .slice none 0 0, .int .i64 0, .int .i64 0, .string { data := #[] }]) rfl rfl rfl rfl r434 (by exact Nat.le_of_ble_eq_true rfl) (ones_of rfl) rfl rfl ?_
  intro W449 r450 b448 z451
  have hlb448 := r434.lt
  replace r450 : RowL W449 _ 145 [.int .i64 0, .int .i64 ↑l, .int .i64 0, .slice none 0 0, .int .i64 0, .int .i64 0, .string { data := #[] }] := r450
  clear r434
  replace hs := Zd hs b448; replace ho := Zd ho b448; replace hkk := Zo hkk b448; replace c0 := Ze c0 b448; replace q := Zg q b448; replace r301 := Zd r301 b448
  have r434 := r450
  clear r450
  refine Zq ?_; refine Zr ?_; refine Zf ?_; refine Zl r301 ?_; refine Zl hs ?_
  (refine LL.call (R.callV rfl rfl rfl rfl) rfl rfl rfl (rd0_any _ _ _ ⟨_, _, _, rfl⟩) ?_; rintro e _ ⟨rfl, rfl⟩; refine ⟨_, rfl, ?_⟩)
  refine Zq ?_; refine Zr ?_; refine Zf ?_; refine Zv r434 ?_; have l511 := hs.lt; have l512 := ho.lt; have l513 := r301.lt; have l514 := r434.lt
  (refine Zy (R.call rfl rfl rfl) (words_no 0 (l : Int) 0 none 0 0 [] 0 0 [] _ (ReadsT.nil _) hml htl hok1) ?_; rintro e W510 ⟨rfl, b507⟩; refine ⟨_, rfl, ?_⟩)
  have zb507 := b507.size; replace hs := hs.up b507; replace ho := ho.up b507; replace hkk := Zh hkk b507; have y518 := hkk.size; replace c0 := cell_up c0 b507; replace q := Zu q b507; replace r301 := r301.up b507; replace r434 := r434.up b507; refine Zm ?_; refine Zx ?_; refine Zx ?_; refine Za ?_; refine Za ?_; refine Zq ?_; refine Zr ?_; refine Zm ?_; refine ZneT ?_; refine Zm ?_; refine Zs ?_; refine Zs ?_
  refine Zs ?_; refine Zs ?_; refine Zp ?_
  refine LL.callP (R.call rfl rfl rfl) rfl rfl (refuse_T _) ?_
  rintro e W630 ⟨rfl, rfl⟩
  refine ⟨_, rfl, ?_⟩; refine EE.thenP ?_; refine EE.panM ?_
  exact ⟨rfl, hkk⟩
theorem of1_0W (gk : Nat) (gs go bk off cap : Nat) (ws : List Nat) (w : World) (hS : Start w) (hws : ws.length = 16) (hwb : ∀ x ∈ ws, x < 18446744073709551616) (hcap : 16 ≤ cap) (hs : RowL w gs 33 [.slice (some ⟨bk, off, none⟩) 16 cap]) (hW : WdsAt w bk off ws) (ho : RowL w go 80 (inL 0 0 0 (.slice none 0 0) 0 0 [])) (hne : go ≠ gs ∧ 0 < go ∧ bk ≠ go) (x0 : Nat) (h0 : ws[0]? = some x0) (hx0 : x0 ≠ 0) (l : Nat) (el : x0 / 256 % 16777216 = l) (hk : x0 % 256 = 0)   (hok1 : okI 0 (l : Int) 0 [] 0 0 []) (heq : inoW 0 (l : Int) 0 [] 0 0 [] ≠ ws) : Calls Tryz.prog 77 #[.pointer (some ⟨gs, 0, none⟩), .pointer (some ⟨go, 0, none⟩)] w fun e w' => e = .panicked (chain1 refV) ∧ Kept (KW w gk) w w' := by
  have hkk := Kept.refl (KW w gk) w
  have lgs := hs.lt; have lgo := ho.lt; have lbk := hW.lt
  have hS0 := hS.pos
  have hWF : ∀ X, Below w.heap.size w X → WdsAt X bk off ws := fun X b => hW.up b
  have hSF : ∀ X, Below w.heap.size w X → Start X := fun X b => hS.up b
  have hx64 := hwb x0 (List.mem_of_getElem? h0)
  have c0 : w.cell? ⟨bk, off + 0, none⟩ = some (.int .u64 (x0 : Int)) := hW.cells 0 x0 h0
  have q := Below.refl w.heap.size w
  clear hW hS
  have hll : l < 16777216 := by omega
  have hml : ([] : List Ex).length ≤ 1048576 := by simp
  refine X.fnP Tryz.func77 rfl (n := 70) rfl rfl ?_
  refine Zr ?_; refine Zl hs ?_; refine Zn ?_; refine ZneF ?_
  refine Zy (R.call rfl rfl rfl) (refuse_F _) ?_
  rintro e W' ⟨rfl, rfl⟩
  refine ⟨_, rfl, ?_⟩; refine Zq ?_; refine Zc ?_; refine Zr ?_; refine Zl hs ?_; refine Zi ?_; refine Zk ?_; refine ZeqF ?_; refine Zq ?_; refine ZN ?_; refine ZK ?_; refine ZT ?_; refine Zr ?_; refine Zl hs ?_; refine Zi ?_; refine Zk ?_
  (refine Zy (R.call rfl rfl rfl) (fld_k x0 hx64 _) ?_; rintro e _ ⟨rfl, rfl⟩; rw [hk]; refine ⟨_, rfl, ?_⟩)
  refine Zm ?_; refine Zx ?_; refine Zx ?_; refine Za ?_; refine Za ?_; refine Zq ?_; refine Zr ?_; refine Zl hs ?_; refine Zi ?_; refine Zk ?_
  (refine Zy (R.call rfl rfl rfl) (fld_l x0 hx64 _) ?_; rintro e _ ⟨rfl, rfl⟩; rw [el]; refine ⟨_, rfl, ?_⟩)
  refine Zm ?_; refine Zx ?_; refine Zx ?_; refine Za ?_; refine Za ?_; refine Zq ?_; refine Zr ?_
  refine Zy (R.call rfl rfl rfl) (kinds_any _) ?_
  rintro e W452 ⟨g454, k455, rfl, h453, b451⟩
  refine ⟨_, rfl, ?_⟩; have zb451 := b451.size; replace hs := hs.up b451; replace ho := ho.up b451; replace hkk := Zh hkk b451; have y457 := hkk.size; replace c0 := cell_up c0 b451; replace q := Zu q b451; refine Zm ?_
  refine LL.val (R.convI rfl rfl rfl rfl (wrapI (by omega) (by omega))) rfl rfl rfl ?_
  (refine LL.val (R.lookKT rfl rfl zKeys (by rfl) (z := kdZ) (by kernel_rfl) (by assumption) (0 : Int) rfl kF_0) rfl rfl rfl ?_)
  refine Zm ?_; refine Zx ?_; refine Zx ?_; have l584 := hs.lt; have l585 := ho.lt
  refine LL.alloc ([Value.nilFunc, Value.nilFunc, Value.nilFunc, Value.nilFunc]) rfl rfl rfl rfl rfl ?_
  intro W587 g588 eg588 r589 z590 b586
  replace h453 := h453.up b586; replace hs := hs.up b586; replace ho := ho.up b586; replace hkk := Zh hkk b586; have y591 := hkk.size; replace c0 := cell_up c0 b586; replace q := Zu q b586
  refine LL.storeN (vs := [fnV kd0.1, fnV kd0.2.1, fnV kd0.2.2.1, fnV kd0.2.2.2]) rfl rfl rfl rfl r589 (by exact Nat.le_of_ble_eq_true rfl) (ones_of rfl) rfl rfl ?_
  intro W613 r614 b612 z615
  have hlb612 := r589.lt
  replace r614 : RowL W613 _ 140 [fnV kd0.1, fnV kd0.2.1, fnV kd0.2.2.1, fnV kd0.2.2.2] := r614
  clear r589
  replace hs := Zd hs b612; replace ho := Zd ho b612; replace hkk := Zo hkk b612; replace c0 := Ze c0 b612; replace q := Zg q b612
  have r589 := r614
  clear r614
  refine Za ?_; refine Zq ?_; refine Zr ?_; refine Zm ?_; refine Zt ?_
  refine Zy (R.call rfl rfl rfl) (refuse_F _) ?_
  rintro e W' ⟨rfl, rfl⟩
  refine ⟨_, rfl, ?_⟩; refine Zq ?_; refine Zr ?_; refine Zm ?_
  refine LL.val (R.convI rfl rfl rfl rfl (wrapI (by omega) (by omega))) rfl rfl rfl ?_
  refine Zm ?_
  refine LL.val (R.convI rfl rfl rfl rfl (wrapI (by omega) (by omega))) rfl rfl rfl ?_
  refine LL.val (R.buildV rfl rfl (v := .agg #[Value.int IntKind.i64 ↑0, Value.int IntKind.i64 ↑l, Value.int IntKind.i64 0, Value.slice none 0 0, Value.int IntKind.i64 0, Value.int IntKind.i64 0, Value.string { data := #[] }]) (fun _ => by kernel_rfl)) rfl rfl rfl ?_
  refine LL.val (R.buildV rfl rfl (v := .agg #[Value.int IntKind.i64 0, Value.int IntKind.i64 ↑l, Value.int IntKind.i64 0, Value.slice none 0 0, Value.int IntKind.i64 0, Value.int IntKind.i64 0, Value.string { data := #[] }]) (fun _ => by kernel_rfl)) rfl rfl rfl ?_
  have l836 := hs.lt; have l837 := ho.lt; have l838 := r589.lt
  refine LL.alloc ([.int .i64 0, .int .i64 0, .int .i64 0, .slice none 0 0, .int .i64 0, .int .i64 0, .string { data := { toList := [] } }]) rfl rfl rfl rfl rfl ?_
  intro W840 g841 eg841 r842 z843 b839
  replace hs := hs.up b839; replace ho := ho.up b839; replace hkk := Zh hkk b839; have y844 := hkk.size; replace c0 := cell_up c0 b839; replace q := Zu q b839; replace r589 := r589.up b839
  refine LL.storeN (vs := [.int .i64 0, .int .i64 ↑l, .int .i64 0, .slice none 0 0, .int .i64 0, .int .i64 0, .string { data := #[] }]) rfl rfl rfl rfl r842 (by exact Nat.le_of_ble_eq_true rfl) (ones_of rfl) rfl rfl ?_
  intro W868 r869 b867 z870
  have hlb867 := r842.lt
  replace r869 : RowL W868 _ 145 [.int .i64 0, .int .i64 ↑l, .int .i64 0, .slice none 0 0, .int .i64 0, .int .i64 0, .string { data := #[] }] := r869
  clear r842
  replace hs := Zd hs b867; replace ho := Zd ho b867; replace hkk := Zo hkk b867; replace c0 := Ze c0 b867; replace q := Zg q b867; replace r589 := Zd r589 b867
  have r842 := r869
  clear r869
  refine Zq ?_; refine Zr ?_; refine Zf ?_; refine Zl r589 ?_; refine Zl hs ?_
  (refine LL.call (R.callV rfl rfl rfl rfl) rfl rfl rfl (rd0_any _ _ _ ⟨_, _, _, rfl⟩) ?_; rintro e _ ⟨rfl, rfl⟩; refine ⟨_, rfl, ?_⟩)
  refine Zq ?_; refine Zr ?_; refine Zf ?_; refine Zv r842 ?_; have l985 := hs.lt; have l986 := ho.lt; have l987 := r589.lt; have l988 := r842.lt
  (refine Zy (R.call rfl rfl rfl) (words_ok 0 (l : Int) 0 none 0 0 [] 0 0 [] _ (hSF _ q) (ReadsT.nil _) hml hok1) ?_; rintro e W984 ⟨g9, rfl, r9, hg9, b981⟩; refine ⟨_, rfl, ?_⟩)
  have zb981 := b981.size; replace hs := hs.up b981; replace ho := ho.up b981; replace hkk := Zh hkk b981; have y992 := hkk.size; replace c0 := cell_up c0 b981; replace q := Zu q b981; replace r589 := r589.up b981; replace r842 := r842.up b981; refine Zm ?_; refine Zx ?_; refine Zx ?_; refine Za ?_; refine Za ?_; refine Zq ?_; refine Zr ?_; refine Zm ?_; refine ZneF ?_; refine Zm ?_; refine Zm ?_; refine Zl hs ?_
  have l1249 := r9.lt; have l1250 := hs.lt; have l1251 := ho.lt; have l1252 := r589.lt; have l1253 := r842.lt
  (refine Zy (R.call rfl rfl rfl) (weq_F (RowL.asInts r9 .u64 _ rfl (inoW_len hok1)) ((hWF _ q).all hws hcap) (by rw [inoW_len hok1]; omega) (by omega) heq) ?_; rintro e W1248 ⟨rfl, b1245⟩; refine ⟨_, rfl, ?_⟩)
  have zb1245 := b1245.size; replace r9 := r9.up b1245; replace hs := hs.up b1245; replace ho := ho.up b1245; replace hkk := Zh hkk b1245; have y1257 := hkk.size; replace c0 := cell_up c0 b1245; replace q := Zu q b1245; replace r589 := r589.up b1245; replace r842 := r842.up b1245; refine Zt ?_; refine Zp ?_
  refine LL.callP (R.call rfl rfl rfl) rfl rfl (refuse_T _) ?_
  rintro e W1331 ⟨rfl, rfl⟩
  refine ⟨_, rfl, ?_⟩; refine EE.thenP ?_; refine EE.panM ?_
  exact ⟨rfl, hkk⟩
theorem of1_X (gk : Nat) (gs go bk off cap : Nat) (ws : List Nat) (w : World) (hS : Start w) (hws : ws.length = 16) (hwb : ∀ x ∈ ws, x < 18446744073709551616) (hcap : 16 ≤ cap) (hs : RowL w gs 33 [.slice (some ⟨bk, off, none⟩) 16 cap]) (hW : WdsAt w bk off ws) (ho : RowL w go 80 (inL 0 0 0 (.slice none 0 0) 0 0 [])) (hne : go ≠ gs ∧ 0 < go ∧ bk ≠ go) (x0 : Nat) (h0 : ws[0]? = some x0) (hx0 : x0 ≠ 0) (l : Nat) (el : x0 / 256 % 16777216 = l) (hk : 3 < x0 % 256) : Calls Tryz.prog 77 #[.pointer (some ⟨gs, 0, none⟩), .pointer (some ⟨go, 0, none⟩)] w fun e w' => e = .panicked (chain1 refV) ∧ Kept (KW w gk) w w' := by
  have hkk := Kept.refl (KW w gk) w
  have lgs := hs.lt; have lgo := ho.lt; have lbk := hW.lt
  have hS0 := hS.pos
  have hWF : ∀ X, Below w.heap.size w X → WdsAt X bk off ws := fun X b => hW.up b
  have hSF : ∀ X, Below w.heap.size w X → Start X := fun X b => hS.up b
  have hx64 := hwb x0 (List.mem_of_getElem? h0)
  have c0 : w.cell? ⟨bk, off + 0, none⟩ = some (.int .u64 (x0 : Int)) := hW.cells 0 x0 h0
  have q := Below.refl w.heap.size w
  clear hW hS
  have hll : l < 16777216 := by omega
  have kN := kinds_none (k := ((x0 % 256 : Nat) : Int)) (by omega)
  obtain ⟨k, ek⟩ : ∃ k, x0 % 256 = k := ⟨_, rfl⟩
  rw [ek] at kN hk
  have hk := ek
  refine X.fnP Tryz.func77 rfl (n := 70) rfl rfl ?_
  refine Zr ?_; refine Zl hs ?_; refine Zn ?_; refine ZneF ?_
  refine Zy (R.call rfl rfl rfl) (refuse_F _) ?_
  rintro e W' ⟨rfl, rfl⟩
  refine ⟨_, rfl, ?_⟩; refine Zq ?_; refine Zc ?_; refine Zr ?_; refine Zl hs ?_; refine Zi ?_; refine Zk ?_; refine ZeqF ?_; refine Zq ?_; refine ZN ?_; refine ZK ?_; refine ZT ?_; refine Zr ?_; refine Zl hs ?_; refine Zi ?_; refine Zk ?_
  (refine Zy (R.call rfl rfl rfl) (fld_k x0 hx64 _) ?_; rintro e _ ⟨rfl, rfl⟩; rw [hk]; refine ⟨_, rfl, ?_⟩)
  refine Zm ?_; refine Zx ?_; refine Zx ?_; refine Za ?_; refine Za ?_; refine Zq ?_; refine Zr ?_; refine Zl hs ?_; refine Zi ?_; refine Zk ?_
  (refine Zy (R.call rfl rfl rfl) (fld_l x0 hx64 _) ?_; rintro e _ ⟨rfl, rfl⟩; rw [el]; refine ⟨_, rfl, ?_⟩)
  refine Zm ?_; refine Zx ?_; refine Zx ?_; refine Za ?_; refine Za ?_; refine Zq ?_; refine Zr ?_
  refine Zy (R.call rfl rfl rfl) (kinds_any _) ?_
  rintro e W2 ⟨g4, k5, rfl, h3, b1⟩
  refine ⟨_, rfl, ?_⟩; have zb1 := b1.size; replace hs := hs.up b1; replace ho := ho.up b1; replace hkk := Zh hkk b1; have y7 := hkk.size; replace c0 := cell_up c0 b1; replace q := Zu q b1; refine Zm ?_
  refine LL.val (R.convI rfl rfl rfl rfl (wrapI (by omega) (by omega))) rfl rfl rfl ?_
  (refine LL.val (R.lookKF rfl rfl zKeys (by rfl) (z := kdZ) (by kernel_rfl) (by assumption) (k : Int) rfl kN) rfl rfl rfl ?_)
  refine Zm ?_; refine Zx ?_; refine Zx ?_; have l8 := hs.lt; have l9 := ho.lt
  refine LL.alloc ([Value.nilFunc, Value.nilFunc, Value.nilFunc, Value.nilFunc]) rfl rfl rfl rfl rfl ?_
  intro W11 g12 eg12 r13 z14 b10
  replace h3 := h3.up b10; replace hs := hs.up b10; replace ho := ho.up b10; replace hkk := Zh hkk b10; have y15 := hkk.size; replace c0 := cell_up c0 b10; replace q := Zu q b10
  refine LL.storeN (vs := [Value.nilFunc, Value.nilFunc, Value.nilFunc, Value.nilFunc]) rfl rfl rfl rfl r13 (by exact Nat.le_of_ble_eq_true rfl) (ones_of rfl) rfl rfl ?_
  intro W17 r18 b16 z19
  have hlb16 := r13.lt
  replace r18 : RowL W17 _ 140 [Value.nilFunc, Value.nilFunc, Value.nilFunc, Value.nilFunc] := r18
  clear r13
  replace hs := Zd hs b16; replace ho := Zd ho b16; replace hkk := Zo hkk b16; replace c0 := Ze c0 b16; replace q := Zg q b16
  have r13 := r18
  clear r18
  refine Za ?_; refine Zq ?_; refine Zr ?_; refine Zm ?_; refine Zt ?_
  refine LL.callP (R.call rfl rfl rfl) rfl rfl (refuse_T _) ?_
  rintro e W21 ⟨rfl, rfl⟩
  refine ⟨_, rfl, ?_⟩; refine EE.thenP ?_; refine EE.panM ?_
  exact ⟨rfl, hkk⟩
theorem of1_Z (gs go bk off cap : Nat) (ws : List Nat) (w : World) (hS : Start w) (hws : ws.length = 16) (hwb : ∀ x ∈ ws, x < 18446744073709551616) (hcap : 16 ≤ cap) (hs : RowL w gs 33 [.slice (some ⟨bk, off, none⟩) 16 cap]) (hW : WdsAt w bk off ws) (ho : RowL w go 80 (inL 0 0 0 (.slice none 0 0) 0 0 [])) (hne : go ≠ gs ∧ 0 < go ∧ bk ≠ go) (x0 : Nat) (h0 : ws[0]? = some x0) (hx0 : x0 = 0) : Calls Tryz.prog 77 #[.pointer (some ⟨gs, 0, none⟩), .pointer (some ⟨go, 0, none⟩)] w (ofP go 0 0 0 [] 0 0 [] w) := by
  unfold ofP
  have hkk := Kept.refl (KW w go) w
  have lgs := hs.lt; have lgo := ho.lt; have lbk := hW.lt
  have hS0 := hS.pos
  have hWF : ∀ X, Below w.heap.size w X → WdsAt X bk off ws := fun X b => hW.up b
  have hSF : ∀ X, Below w.heap.size w X → Start X := fun X b => hS.up b
  have hx64 := hwb x0 (List.mem_of_getElem? h0)
  have c0 : w.cell? ⟨bk, off + 0, none⟩ = some (.int .u64 (x0 : Int)) := hW.cells 0 x0 h0
  have q := Below.refl w.heap.size w
  clear hW hS
  refine X.fn Tryz.func77 rfl (n := 70) rfl rfl ?_
  refine Zr ?_; refine Zl hs ?_; refine Zn ?_; refine ZneF ?_
  refine Zy (R.call rfl rfl rfl) (refuse_F _) ?_
  rintro e W' ⟨rfl, rfl⟩
  refine ⟨_, rfl, ?_⟩; refine Zq ?_; refine Zc ?_; refine Zr ?_; refine Zl hs ?_; refine Zi ?_; refine Zk ?_; refine ZeqT ?_; refine Zq ?_; refine ZY ?_; refine ZR ?_; refine EE.thenR ?_; refine EE.ret _ rfl rfl ?_
  exact ⟨rfl, ⟨_, ho, ReadsT.nil _, fun b off n c e => by cases e⟩, hkk⟩
set_option linter.unusedVariables false
set_option linter.unusedSimpArgs false
set_option maxRecDepth 100000
set_option maxHeartbeats 8000000
section
variable {P : Program} {w : World} {t u T : TypeId} {o : Oper} {x y : Operand} {n e k : Nat} {D : List Deferred} {M : Slots}
end
def ofR (k l z : Int) (m : List Ex) (r p : Int) (t : Bs) (w0 : World) (e : Ending) (w : World) : Prop := ∃ v, e = .returned (.tuple #[inV k l z v r p t, .int .i64 0]) ∧ ReadsT eE 3 w v m ∧ Below w0.heap.size w0 w
theorem of_run (a : Option Addr) (n c : Nat) (k l z : Int) (m : List Ex) (r p : Int) (t : Bs) (w : World) (hS0 : 0 < w.heap.size)
    (hwork : ∀ W gs go, Below w.heap.size w W → w.heap.size ≤ gs → w.heap.size ≤ go → go ≠ gs → RowL W gs 33 [.slice a n c] → RowL W go 80 (inL 0 0 0 (.slice none 0 0) 0 0 []) → Calls Tryz.prog 77 #[.pointer (some ⟨gs, 0, none⟩), .pointer (some ⟨go, 0, none⟩)] W (ofP go k l z m r p t W)) :
    Calls Tryz.prog 56 #[.slice a n c] w (ofR k l z m r p t w) := by
  unfold ofR
  have q := Below.refl w.heap.size w
  refine X.fn Tryz.func56 rfl (n := 10) rfl rfl ?_
  refine Zr ?_
  refine LL.box [.slice a n c] rfl rfl rfl rfl rfl ?_
  intro W2 g3 eg3 r4 z5 b1
  replace q := Zu q b1; have l6 := r4.lt
  refine LL.alloc ([.int .i64 0, .int .i64 0, .int .i64 0, .slice none 0 0, .int .i64 0, .int .i64 0, .string { data := { toList := [] } }]) rfl rfl rfl rfl rfl ?_
  intro W8 g9 eg9 r10 z11 b7
  replace r4 := r4.up b7; replace q := Zu q b7; refine Za ?_; refine Zq ?_; refine Zr ?_; have l12 := r10.lt; have l13 := r4.lt
  refine LL.alloc ([.int .i64 0, .int .i64 0, .int .i64 0, .slice none 0 0, .int .i64 0, .int .i64 0, .string { data := { toList := [] } }]) rfl rfl rfl rfl rfl ?_
  intro W15 g16 eg16 r17 z18 b14
  replace r10 := r10.up b14; replace r4 := r4.up b14; replace q := Zu q b14; refine Zq ?_; refine Zr ?_
  refine LL.val (R.func rfl rfl rfl) rfl rfl rfl ?_
  have lg4 := r4.lt; have lg17 := r17.lt
  refine Zy (R.call rfl rfl rfl) (guarded_R _ [Value.pointer (some ⟨g3, 0, none⟩), .pointer (some ⟨g16, 0, none⟩)] (by kernel_rfl) g16 (fun n X => ∃ v, RowL X g16 80 (inL k l z v r p t) ∧ ReadsT eE 3 X v m ∧ ∀ b off n' c', v = .slice (some ⟨b, off, none⟩) n' c' → n ≤ b) _ (by omega) (fun n X Y b ⟨v, h1, h2, h3⟩ hb1 hb2 hg => ⟨v, h1.gr hg (by omega), readsT_far h2 (grown_kept (K := fun i => i < X.heap.size ∧ i ≠ b) hg (fun k hk => hk.1) (fun k hk e => by cases e; exact hk.2 rfl)) (fun b2 off n2 c2 e hlt => ⟨hlt, by have := h3 b2 off n2 c2 e; omega⟩), h3⟩) (fun W' b' => hwork W' g3 g16 (q.trans (b'.mono q.size)) (by omega) (by omega) (by omega) (r4.up b') (r17.up b'))) ?_
  rintro e W9 ⟨rfl, ⟨n9, hn9, v9, r91, rd9, hge9⟩, t9⟩
  refine ⟨_, rfl, ?_⟩
  replace q := t9.onB q (fun j hj => ⟨by omega, by omega⟩)
  replace r10 := r10.kept t9 ⟨by omega, by omega⟩
  clear r4 r17 b1 b7 b14
  obtain ⟨x9, c9, rfl, _⟩ := rd9.form rfl
  have hk9 := Kept.refl (fun i => i < W9.heap.size ∧ i ≠ g9) W9
  have rd9F := fun X (b : Below W9.heap.size W9 X) => rd9.up b
  clear rd9
  have zt9 := t9.size; refine Za ?_; refine Zq ?_; refine Zr ?_; refine Zv r91 ?_; refine Zm ?_
  refine LL.storeN (vs := [.int .i64 k, .int .i64 l, .int .i64 z, .slice x9 m.length c9, .int .i64 r, .int .i64 p, strV t]) rfl rfl rfl rfl r10 (by exact Nat.le_of_ble_eq_true rfl) (ones_of rfl) rfl rfl ?_
  intro Wa2 ra3 ba1 za4
  have hlba1 := r10.lt
  replace ra3 : RowL Wa2 _ 80 [.int .i64 k, .int .i64 l, .int .i64 z, .slice x9 m.length c9, .int .i64 r, .int .i64 p, strV t] := ra3
  clear r10
  replace q := Zg q ba1; replace r91 := Zd r91 ba1; replace hk9 := Zo hk9 ba1
  have r10 := ra3
  clear ra3
  refine Za ?_; refine Zq ?_; refine ZR ?_
  refine EE.ret2 rfl ⟨_, rfl, lvNc (RowL.cells0 (by assumption)) (by rfl) (by rfl)⟩ rfl ?_
  exact ⟨_, rfl, readsT_far (rd9F _ (Below.refl _ _)) hk9 (fun b off n c e hlt => ⟨hlt, by have := hge9 b off n c e; omega⟩), q⟩
theorem of_pan (a : Option Addr) (n c : Nat) (w : World)
    (hwork : ∀ W gs go gk, Below w.heap.size w W → w.heap.size ≤ gs → w.heap.size ≤ go → go ≠ gs → RowL W gs 33 [.slice a n c] → RowL W go 80 (inL 0 0 0 (.slice none 0 0) 0 0 []) → Calls Tryz.prog 77 #[.pointer (some ⟨gs, 0, none⟩), .pointer (some ⟨go, 0, none⟩)] W fun e W' => e = .panicked (chain1 refV) ∧ Kept (KW W gk) W W') :
    Calls Tryz.prog 56 #[.slice a n c] w fun e w' => e = .returned (.tuple #[inV 0 0 0 (.slice none 0 0) 0 0 [], .int .i64 240]) ∧ Below w.heap.size w w' := by
  have q := Below.refl w.heap.size w
  refine X.fn Tryz.func56 rfl (n := 10) rfl rfl ?_
  refine Zr ?_
  refine LL.box [.slice a n c] rfl rfl rfl rfl rfl ?_
  intro W2 g3 eg3 r4 z5 b1
  replace q := Zu q b1; have l6 := r4.lt
  refine LL.alloc ([.int .i64 0, .int .i64 0, .int .i64 0, .slice none 0 0, .int .i64 0, .int .i64 0, .string { data := { toList := [] } }]) rfl rfl rfl rfl rfl ?_
  intro W8 g9 eg9 r10 z11 b7
  replace r4 := r4.up b7; replace q := Zu q b7; refine Za ?_; refine Zq ?_; refine Zr ?_; have l12 := r10.lt; have l13 := r4.lt
  refine LL.alloc ([.int .i64 0, .int .i64 0, .int .i64 0, .slice none 0 0, .int .i64 0, .int .i64 0, .string { data := { toList := [] } }]) rfl rfl rfl rfl rfl ?_
  intro W15 g16 eg16 r17 z18 b14
  replace r10 := r10.up b14; replace r4 := r4.up b14; replace q := Zu q b14; refine Zq ?_; refine Zr ?_
  refine LL.val (R.func rfl rfl rfl) rfl rfl rfl ?_
  have lg4 := r4.lt; have lg17 := r17.lt
  refine Zy (R.call rfl rfl rfl) (guarded_P _ [Value.pointer (some ⟨g3, 0, none⟩), .pointer (some ⟨g16, 0, none⟩)] (by kernel_rfl) g3 _ (by omega) (fun W' b' => hwork W' g3 g16 g3 (q.trans (b'.mono q.size)) (by omega) (by omega) (by omega) (r4.up b') (r17.up b'))) ?_
  rintro e W9 ⟨rfl, t9⟩
  refine ⟨_, rfl, ?_⟩
  replace q := t9.onB q (fun j hj => ⟨by omega, by omega⟩)
  replace r10 := r10.kept t9 ⟨by omega, by omega⟩
  replace r17 := r17.kept t9 ⟨by omega, by omega⟩
  clear r4 b1 b7 b14
  refine Za ?_; refine Zq ?_; refine Zr ?_; refine Zv r17 ?_; refine Zm ?_
  refine LL.storeN (vs := [.int .i64 0, .int .i64 0, .int .i64 0, .slice none 0 0, .int .i64 0, .int .i64 0, .string { data := { toList := [] } }]) rfl rfl rfl rfl r10 (by exact Nat.le_of_ble_eq_true rfl) (ones_of rfl) rfl rfl ?_
  intro Wa2 ra3 ba1 za4
  have hlba1 := r10.lt
  replace ra3 : RowL Wa2 _ 80 [.int .i64 0, .int .i64 0, .int .i64 0, .slice none 0 0, .int .i64 0, .int .i64 0, .string { data := { toList := [] } }] := ra3
  clear r10
  replace q := Zg q ba1; replace r17 := Zd r17 ba1
  have r10 := ra3
  clear ra3
  refine Za ?_; refine Zq ?_; refine ZR ?_
  refine EE.ret2 rfl ⟨_, rfl, lvNc (RowL.cells0 (by assumption)) (by rfl) (by rfl)⟩ rfl ?_
  exact ⟨rfl, q⟩
theorem wsame_any (v1 v2 : Value) (xs ys : List Nat) (w : World) (h1 : Reads w v1 (ints .u64 xs)) (h2 : Reads w v2 (ints .u64 ys)) (hx : xs.length ≤ 1048576) (hy : ys.length ≤ 1048576) :
    Calls Tryz.prog 14 #[v1, v2] w fun e w' => e = .returned (.bool (decide (xs = ys))) ∧ Below w.heap.size w w' := by
  refine (same_any v1 v2 xs ys w h1 h2 hx hy).mono ?_
  rintro e w' ⟨rfl, n, rfl⟩
  exact ⟨rfl, Below.drewN (Below.refl _ _) n⟩
theorem wsame_T (v1 v2 : Value) (xs ys : List Nat) (w : World) (h1 : Reads w v1 (ints .u64 xs)) (h2 : Reads w v2 (ints .u64 ys)) (hx : xs.length ≤ 1048576) (e : ys = xs) :
    Calls Tryz.prog 14 #[v1, v2] w fun e w' => e = .returned (.bool true) ∧ Below w.heap.size w w' := by
  subst e
  have := wsame_any v1 v2 ys ys w h1 h2 hx hx
  simpa using this
theorem of_Z (bk off cap : Nat) (ws : List Nat) (w : World) (hS : Start w) (hws : ws.length = 16) (hwb : ∀ x ∈ ws, x < 18446744073709551616) (hcap : 16 ≤ cap) (hW : WdsAt w bk off ws) (h0 : ws[0]? = some 0) : Calls Tryz.prog 56 #[.slice (some ⟨bk, off, none⟩) 16 cap] w (ofR 0 0 0 [] 0 0 [] w) :=
  of_run _ 16 cap 0 0 0 [] 0 0 [] w hS.pos (fun W gs go b hgs hgo hne hs ho => of1_Z gs go bk off cap ws W (hS.up b) hws hwb hcap hs (hW.up b) ho ⟨hne, by have := hS.pos; omega, by have := hW.lt; omega⟩ 0 h0 rfl)
theorem inoW_1 (l z : Int) (m : List Ex) (r p : Int) (t : Bs) (h : vL m) : inoW 1 l z m r p t = (1 + 256 * l.toNat) :: z.toNat :: (wrdN m ++ List.replicate 4 0) := by
  unfold inoW layF putL hdN
  simp [wrdN_len h]
theorem inoW_2 (l z : Int) (m : List Ex) (r p : Int) (t : Bs) : inoW 2 l z m r p t = (2 + 256 * l.toNat) :: 0 :: r.toNat :: p.toNat :: List.replicate 12 0 := by
  unfold inoW layD putL hdN
  simp
theorem inoW_3 (l z : Int) (m : List Ex) (r p : Int) (t : Bs) (h : t.length ≤ 112) : inoW 3 l z m r p t = (3 + 256 * l.toNat) :: t.length :: (layL (nbL t) ++ List.replicate (14 - (t.length + 7) / 8) 0) := by
  unfold inoW layK putL hdN
  simp only [show ¬((3 : Int) = 1) by decide, show ¬((3 : Int) = 2) by decide, if_false, if_true, List.replicate, List.take_succ_cons, List.take_zero, List.drop_succ_cons, List.drop_zero, List.length_cons, List.length_nil, List.cons_append, List.nil_append, layL_len]
  rw [Nat.add_comm 2]
  show (3 + 256 * l.toNat) :: t.length :: (layL (nbL t) ++ List.drop ((t.length + 7) / 8) (List.replicate 14 0)) = _
  rw [List.drop_replicate]
theorem inoW_0 (l z : Int) (m : List Ex) (r p : Int) (t : Bs) : inoW 0 l z m r p t = List.replicate 16 0 := by
  unfold inoW hdN
  simp [List.replicate]
theorem wrdN_Z {m : List Ex} (h : ∀ x ∈ m, mayE x) : (wrdN m).map (fun n : Nat => (n : Int)) = wrdZ m := by
  unfold wrdN
  rw [List.map_map]
  conv => rhs; rw [← List.map_id (wrdZ m)]
  refine List.map_congr_left fun z hz => ?_
  obtain ⟨i, hi⟩ := List.mem_iff_getElem?.1 hz
  have := (wrdZ_bnd h i z hi).1
  simp only [Function.comp_apply, id_eq]
  exact Int.toNat_of_nonneg this
theorem wsZ_1 (l z : Int) (m : List Ex) (r p : Int) (t : Bs) (h : vL m) : wsZ (inoW 1 l z m r p t) = wrdZ m := by
  rw [inoW_1 l z m r p t h]
  unfold wsZ
  rw [← wrdN_Z h.2.1]
  simp only [List.drop_succ_cons, List.drop_zero]
  rw [List.take_left' (wrdN_len h)]
theorem tg_take (t : Bs) (ws : List Nat) (h : (ws.drop 2).take ((t.length + 7) / 8) = layL (nbL t)) : tgOk ws t.length ∧ tgW ws t.length = t := by
  unfold tgOk tgW
  rw [h]
  have e := nbL_len t
  have h1 := lay_take (nbL t) (nbL_lt t)
  have h2 := lay_drop (nbL t) (nbL_lt t)
  rw [e] at h1 h2
  exact ⟨h2, by rw [h1, ofN_nbL]⟩
theorem tg_3 (l z : Int) (m : List Ex) (r p : Int) (t : Bs) (h : t.length ≤ 112) : tgOk (inoW 3 l z m r p t) t.length ∧ tgW (inoW 3 l z m r p t) t.length = t := by
  refine tg_take t _ ?_
  rw [inoW_3 l z m r p t h]
  simp only [List.drop_succ_cons, List.drop_zero]
  rw [List.take_left' (layL_len t)]
/-- Words of no inode. -/
def noI (ws : List Nat) : Prop := ∀ k l z m r p t, okI k l z m r p t → inoW k l z m r p t ≠ ws
--C ref14_Check | hck @w (hvF _ q) | ⟨rfl, @b⟩
--C ref06_Words | rwords_T m _ @w (hvF _ q) hvl | ⟨rfl, @b⟩
theorem wrdN_lt {m : List Ex} (h : ∀ x ∈ m, mayE x) : ∀ x ∈ wrdN m, x < 18446744073709551616 := by
  intro x hx
  unfold wrdN at hx
  obtain ⟨z, hz, rfl⟩ := List.mem_map.1 hx
  obtain ⟨i, hi⟩ := List.mem_iff_getElem?.1 hz
  have := wrdZ_bnd h i z hi
  omega
theorem inoW_lt {k l z : Int} {m : List Ex} {r p : Int} {t : Bs} (h : okI k l z m r p t) : ∀ x ∈ inoW k l z m r p t, x < 18446744073709551616 := by
  obtain ⟨hl, ⟨rfl, rfl, rfl, rfl, rfl, rfl, rfl⟩ | ⟨rfl, rfl, rfl, rfl, hf⟩ | ⟨rfl, rfl, rfl, rfl, h1⟩ | ⟨rfl, rfl, rfl, rfl, rfl, h1⟩⟩ := h
  · rw [inoW_0]
    intro x hx
    rw [(List.mem_replicate.1 hx).2]
    decide
  · rw [inoW_1 _ _ _ _ _ _ hf.2.1]
    have hz := hf.1
    intro x hx
    simp only [List.mem_cons, List.mem_append] at hx
    rcases hx with rfl | rfl | hx | hx
    · omega
    · omega
    · exact wrdN_lt hf.2.1.2.1 x hx
    · rw [(List.mem_replicate.1 hx).2]
      decide
  · rw [inoW_2]
    intro x hx
    simp only [List.mem_cons] at hx
    rcases hx with rfl | rfl | rfl | rfl | hx
    · omega
    · decide
    · omega
    · omega
    · rw [(List.mem_replicate.1 hx).2]
      decide
  · rw [inoW_3 _ _ _ _ _ _ h1.1.2]
    intro x hx
    simp only [List.mem_cons, List.mem_append] at hx
    rcases hx with rfl | rfl | hx | hx
    · omega
    · omega
    · exact lay_small _ (nbL_lt t) x hx
    · rw [(List.mem_replicate.1 hx).2]
      decide
theorem of_ok (bk off cap : Nat) (ws : List Nat) (k l z : Int) (m : List Ex) (r p : Int) (t : Bs) (w : World) (hS : Start w) (hcap : 16 ≤ cap) (hW : WdsAt w bk off ws) (h : okI k l z m r p t) (e : inoW k l z m r p t = ws) : Calls Tryz.prog 56 #[.slice (some ⟨bk, off, none⟩) 16 cap] w (ofR k l z m r p t w) := by
  have hws : ws.length = 16 := by rw [← e]; exact inoW_len h
  have hwb : ∀ x ∈ ws, x < 18446744073709551616 := by rw [← e]; exact inoW_lt h
  have hS0 := hS.pos
  have hlt := hW.lt
  have hh := h
  obtain ⟨hl, ⟨rfl, rfl, rfl, rfl, rfl, rfl, rfl⟩ | ⟨rfl, rfl, rfl, rfl, hf⟩ | ⟨rfl, rfl, rfl, rfl, h1⟩ | ⟨rfl, rfl, rfl, rfl, rfl, h1⟩⟩ := h
  · exact of_Z bk off cap ws w hS hws hwb hcap hW (by rw [← e, inoW_0]; rfl)
  · obtain ⟨l, rfl⟩ : ∃ y : Nat, l = (y : Int) := ⟨l.toNat, by omega⟩
    have hz := hf.1
    obtain ⟨z, rfl⟩ : ∃ y : Nat, z = (y : Int) := ⟨z.toNat, by omega⟩
    have e1 := inoW_1 (l : Int) (z : Int) m 0 0 [] hf.2.1
    have e2 := wsZ_1 (l : Int) (z : Int) m 0 0 [] hf.2.1
    rw [e] at e1 e2
    have e3 : outZ (wsZ ws) = m := by rw [e2, outZ_wrdZ hf.2.1.2.1]
    have e4 : mapW (wsZ ws) := by rw [e2]; exact mapW_wrdZ hf.2.1
    refine of_run _ 16 cap _ _ _ _ _ _ _ w hS0 fun W gs go b hgs hgo hne hs ho => ?_
    have := of1_1T gs go bk off cap ws W (hS.up b) hws hwb hcap hs (hW.up b) ho ⟨hne, by omega, by omega⟩ (1 + 256 * l) (by rw [e1]; rfl) (by omega) l (by omega) (by omega) z (by rw [e1]; rfl) (by omega) e4 (by rw [e3]; exact hh) (by rw [e3]; exact e)
    rw [e3] at this
    exact this
  · obtain ⟨l, rfl⟩ : ∃ y : Nat, l = (y : Int) := ⟨l.toNat, by omega⟩
    obtain ⟨r, rfl⟩ : ∃ y : Nat, r = (y : Int) := ⟨r.toNat, by omega⟩
    obtain ⟨p, rfl⟩ : ∃ y : Nat, p = (y : Int) := ⟨p.toNat, by omega⟩
    have e1 := inoW_2 (l : Int) 0 [] (r : Int) (p : Int) []
    rw [e] at e1
    exact of_run _ 16 cap _ _ _ _ _ _ _ w hS0 fun W gs go b hgs hgo hne hs ho => of1_2T gs go bk off cap ws W (hS.up b) hws hwb hcap hs (hW.up b) ho ⟨hne, by omega, by omega⟩ (2 + 256 * l) (by rw [e1]; rfl) (by omega) l (by omega) (by omega) r p (by rw [e1]; rfl) (by rw [e1]; rfl) (by omega) hh e
  · obtain ⟨l, rfl⟩ : ∃ y : Nat, l = (y : Int) := ⟨l.toNat, by omega⟩
    have e1 := inoW_3 (l : Int) 0 [] 0 0 t h1.1.2
    have e2 := tg_3 (l : Int) 0 [] 0 0 t h1.1.2
    rw [e] at e1 e2
    refine of_run _ 16 cap _ _ _ _ _ _ _ w hS0 fun W gs go b hgs hgo hne hs ho => ?_
    have := of1_3T gs go bk off cap ws W (hS.up b) hws hwb hcap hs (hW.up b) ho ⟨hne, by omega, by omega⟩ (3 + 256 * l) (by rw [e1]; rfl) (by omega) l (by omega) (by omega) t.length (by rw [e1]; rfl) h1.1 e2.1 (by rw [e2.2]; exact hh) (by rw [e2.2]; exact e)
    rw [e2.2] at this
    exact this
theorem of_no (bk off cap : Nat) (ws : List Nat) (w : World) (hS : Start w) (hws : ws.length = 16) (hwb : ∀ x ∈ ws, x < 18446744073709551616) (hcap : 16 ≤ cap) (hW : WdsAt w bk off ws) (x0 : Nat) (h0 : ws[0]? = some x0) (hx0 : x0 ≠ 0) (hno : noI ws) : Calls Tryz.prog 56 #[.slice (some ⟨bk, off, none⟩) 16 cap] w fun e w' => e = .returned (.tuple #[inV 0 0 0 (.slice none 0 0) 0 0 [], .int .i64 240]) ∧ Below w.heap.size w w' := by
  have hS0 := hS.pos
  have hlt := hW.lt
  refine of_pan _ 16 cap w fun W gs go gk b hgs hgo hne hs ho => ?_
  obtain ⟨l, el⟩ : ∃ l, x0 / 256 % 16777216 = l := ⟨_, rfl⟩
  obtain ⟨x1, h1⟩ : ∃ x, ws[1]? = some x := ⟨_, List.getElem?_eq_getElem (by omega)⟩
  obtain ⟨x2, h2⟩ : ∃ x, ws[2]? = some x := ⟨_, List.getElem?_eq_getElem (by omega)⟩
  obtain ⟨x3, h3⟩ : ∃ x, ws[3]? = some x := ⟨_, List.getElem?_eq_getElem (by omega)⟩
  have hn3 : go ≠ gs ∧ 0 < go ∧ bk ≠ go := ⟨hne, by omega, by omega⟩
  have hkc : x0 % 256 = 0 ∨ x0 % 256 = 1 ∨ x0 % 256 = 2 ∨ x0 % 256 = 3 ∨ 3 < x0 % 256 := by omega
  rcases hkc with hk | hk | hk | hk | hk
  · by_cases hok : okI 0 (l : Int) 0 [] 0 0 []
    · exact of1_0W gk gs go bk off cap ws W (hS.up b) hws hwb hcap hs (hW.up b) ho hn3 x0 h0 hx0 l el hk hok (hno _ _ _ _ _ _ _ hok)
    · exact of1_0C gk gs go bk off cap ws W (hS.up b) hws hwb hcap hs (hW.up b) ho hn3 x0 h0 hx0 l el hk hok
  · by_cases hr : 65536 < x1 ∨ ¬mapW (wsZ ws)
    · exact of1_1R gk gs go bk off cap ws W (hS.up b) hws hwb hcap hs (hW.up b) ho hn3 x0 h0 hx0 l el hk x1 h1 hr
    have hr1 : x1 ≤ 65536 := Nat.le_of_not_lt fun h => hr (.inl h)
    have hr2 : mapW (wsZ ws) := Classical.not_not.1 fun h => hr (.inr h)
    by_cases hok : okI 1 (l : Int) (x1 : Int) (outZ (wsZ ws)) 0 0 []
    · exact of1_1W gk gs go bk off cap ws W (hS.up b) hws hwb hcap hs (hW.up b) ho hn3 x0 h0 hx0 l el hk x1 h1 hr1 hr2 hok (hno _ _ _ _ _ _ _ hok)
    · exact of1_1C gk gs go bk off cap ws W (hS.up b) hws hwb hcap hs (hW.up b) ho hn3 x0 h0 hx0 l el hk x1 h1 hr1 hr2 hok
  · by_cases hr : 65536 < x2 ∨ 65536 < x3
    · exact of1_2R gk gs go bk off cap ws W (hS.up b) hws hwb hcap hs (hW.up b) ho hn3 x0 h0 hx0 l el hk x2 x3 h2 h3 hr
    have hr1 : x2 ≤ 65536 ∧ x3 ≤ 65536 := by omega
    by_cases hok : okI 2 (l : Int) 0 [] (x2 : Int) (x3 : Int) []
    · exact of1_2W gk gs go bk off cap ws W (hS.up b) hws hwb hcap hs (hW.up b) ho hn3 x0 h0 hx0 l el hk x2 x3 h2 h3 hr1 hok (hno _ _ _ _ _ _ _ hok)
    · exact of1_2C gk gs go bk off cap ws W (hS.up b) hws hwb hcap hs (hW.up b) ho hn3 x0 h0 hx0 l el hk x2 x3 h2 h3 hr1 hok
  · by_cases hr : ¬(1 ≤ x1 ∧ x1 ≤ 112) ∨ ¬tgOk ws x1
    · exact of1_3R gk gs go bk off cap ws W (hS.up b) hws hwb hcap hs (hW.up b) ho hn3 x0 h0 hx0 l el hk x1 h1 hr
    have hr1 : 1 ≤ x1 ∧ x1 ≤ 112 := Classical.not_not.1 fun h => hr (.inl h)
    have hr2 : tgOk ws x1 := Classical.not_not.1 fun h => hr (.inr h)
    by_cases hok : okI 3 (l : Int) 0 [] 0 0 (tgW ws x1)
    · exact of1_3W gk gs go bk off cap ws W (hS.up b) hws hwb hcap hs (hW.up b) ho hn3 x0 h0 hx0 l el hk x1 h1 hr1 hr2 hok (hno _ _ _ _ _ _ _ hok)
    · exact of1_3C gk gs go bk off cap ws W (hS.up b) hws hwb hcap hs (hW.up b) ho hn3 x0 h0 hx0 l el hk x1 h1 hr1 hr2 hok
  · exact of1_X gk gs go bk off cap ws W (hS.up b) hws hwb hcap hs (hW.up b) ho hn3 x0 h0 hx0 l el hk
theorem jnext_T (gat gw bk off cap : Nat) (ws : List Nat) (i : Nat) (x : Nat) (w : World) (hat : RowL w gat 3 [.int .i64 (i : Int)]) (hw : RowL w gw 33 [.slice (some ⟨bk, off, none⟩) 64 cap]) (hW : WdsAt w bk off ws) (hi : i < 63) (hx : ws[i + 1]? = some x) (hne : gat ≠ gw ∧ gat ≠ bk) : Calls Tryz.prog 39 #[.pointer (some ⟨gat, 0, none⟩), .pointer (some ⟨gw, 0, none⟩)] w fun e w' => e = .returned (.int .u64 (x : Int)) ∧ RowL w' gat 3 [.int .i64 ((i : Int) + 1)] ∧ Kept (jKW w gat) w w' := by
  have q := Below.refl w.heap.size w
  have hok := Kept.refl (fun j => j < w.heap.size ∧ j ≠ gat) w
  have l1 := hat.lt; have l2 := hw.lt; have l3 := hW.lt
  have c1 := hW.1 _ _ hx
  clear hW
  refine X.fn Tryz.func39 rfl (n := 9) rfl rfl ?_
  refine Zr ?_; refine Za ?_; refine Zq ?_; refine Zr ?_; refine Zl hat ?_
  refine LL.val (R.addNc rfl rfl rfl rfl (by omega)) rfl rfl rfl ?_
  refine LL.store rfl rfl rfl rfl hat (by exact Nat.le_of_ble_eq_true rfl) rfl rfl rfl rfl ?_
  intro W2 r3 b1 z4
  have hlb1 := hat.lt
  replace r3 : RowL W2 _ 3 [.int .i64 ↑(i + 1)] := r3
  clear hat
  replace hw := Zd hw b1; replace hok := Zo hok b1; replace c1 := Ze c1 b1
  have hat := r3
  clear r3
  refine Zq ?_; refine Zr ?_; refine Zl hw ?_; refine Zl hat ?_
  refine LL.val (R.index rfl rfl rfl (I.ixS1 rfl (by omega))) rfl rfl rfl ?_
  refine Zk ?_; refine Za ?_; refine Zq ?_; refine ZR ?_; refine EE.ret _ rfl rfl ?_
  exact ⟨rfl, hat, hok⟩
theorem jnext_Z (gat gw bk off cap : Nat) (ws : List Nat) (i : Nat) (x : Nat) (z z' : Int) (w : World) (hz : z = (i : Int)) (hz' : z' = z + 1) (hat : RowL w gat 3 [.int .i64 z]) (hw : RowL w gw 33 [.slice (some ⟨bk, off, none⟩) 64 cap]) (hW : WdsAt w bk off ws) (hi : i < 63) (hx : ws[i + 1]? = some x) (hne : gat ≠ gw ∧ gat ≠ bk) : Calls Tryz.prog 39 #[.pointer (some ⟨gat, 0, none⟩), .pointer (some ⟨gw, 0, none⟩)] w fun e w' => e = .returned (.int .u64 (x : Int)) ∧ RowL w' gat 3 [.int .i64 z'] ∧ Kept (jKW w gat) w w' := by
  subst hz' hz
  exact jnext_T gat gw bk off cap ws i x w hat hw hW hi hx hne
theorem readN_any (gr gat gw bk off cap : Nat) (ws : List Nat) (x1 x2 x3 x4 x5 x6 x7 : Nat) (h1 : ws[1]? = some x1) (b1 : x1 < 18446744073709551616) (h2 : ws[2]? = some x2) (b2 : x2 < 18446744073709551616) (h3 : ws[3]? = some x3) (b3 : x3 < 18446744073709551616) (h4 : ws[4]? = some x4) (b4 : x4 < 18446744073709551616) (h5 : ws[5]? = some x5) (b5 : x5 < 18446744073709551616) (h6 : ws[6]? = some x6) (b6 : x6 < 18446744073709551616) (h7 : ws[7]? = some x7) (b7 : x7 < 18446744073709551616) (w : World) (hr : RowL w gr 28 (redL 2 0 noA 0 0 0 0 0 false)) (hat : RowL w gat 3 [.int .i64 0]) (hw : RowL w gw 33 [.slice (some ⟨bk, off, none⟩) 64 cap]) (hW : WdsAt w bk off ws) (hne : gat ≠ gw ∧ gat ≠ bk) (hnr : gr ≠ gat ∧ gr ≠ gw ∧ gr ≠ bk) : Calls Tryz.prog 63 #[.pointer (some ⟨gr, 0, none⟩), .func (.func 39) #[] #[.pointer (some ⟨gat, 0, none⟩), .pointer (some ⟨gw, 0, none⟩)]] w fun e w' => e = .returned (.tuple #[]) ∧ RowL w' gr 28 (redL 2 (smallZ x6) noA (smallZ x1) (smallZ x3) x2 x4 (smallZ x5) (x7 != 0)) ∧ Kept (fun j => j < w.heap.size ∧ j ≠ gr ∧ j ≠ gat) w w' := by
  have hok := Kept.refl (fun j => j < w.heap.size ∧ j ≠ gr ∧ j ≠ gat) w
  have l0 := hr.lt; have l1 := hat.lt; have l2 := hw.lt; have l3 := hW.lt
  have hWF : ∀ X, Kept (fun j => j < w.heap.size ∧ j ≠ gr ∧ j ≠ gat) w X → WdsAt X bk off ws := fun X k => ⟨fun j x hx => (World.cell?_of_block (k.block bk ⟨l3, fun e => hnr.2.2 e.symm, fun e => hne.2 e.symm⟩)).trans (hW.1 j x hx), Nat.lt_of_lt_of_le l3 k.size⟩
  clear hW
  refine X.fn Tryz.func63 rfl (n := 44) rfl rfl ?_
  refine Zr ?_; refine Zm ?_; refine Zm ?_; refine Zm ?_
  (refine LL.call (R.callV rfl rfl rfl rfl) rfl rfl rfl (jnext_Z gat gw bk off cap ws 0 x1 0 1 _ rfl rfl (by assumption) (by assumption) (hWF _ (by assumption)) (by decide) h1 hne) ?_; rintro e W151 ⟨rfl, hat, t150⟩; refine ⟨_, rfl, ?_⟩; replace hok := hok.trans (t150.less fun j hj => ⟨by have := hj.1; have := hok.size; omega, hj.2.2⟩))
  have zt150 := t150.size
  replace hr := hr.kept t150 ⟨hr.lt, by omega⟩
  replace hw := hw.kept t150 ⟨hw.lt, by omega⟩
  refine Zy (R.call rfl rfl rfl) (small_any _ _ (by first | assumption | omega)) ?_
  rintro e W' ⟨rfl, rfl⟩
  refine ⟨_, rfl, ?_⟩; refine Zm ?_
  (refine LL.call (R.callV rfl rfl rfl rfl) rfl rfl rfl (jnext_Z gat gw bk off cap ws 1 x2 1 2 _ rfl rfl (by assumption) (by assumption) (hWF _ (by assumption)) (by decide) h2 hne) ?_; rintro e W263 ⟨rfl, hat, t262⟩; refine ⟨_, rfl, ?_⟩; replace hok := hok.trans (t262.less fun j hj => ⟨by have := hj.1; have := hok.size; omega, hj.2.2⟩))
  have zt262 := t262.size
  replace hr := hr.kept t262 ⟨hr.lt, by omega⟩
  replace hw := hw.kept t262 ⟨hw.lt, by omega⟩
  refine LL.val (R.nil rfl rfl) rfl rfl rfl ?_
  refine Zf ?_
  refine LL.store rfl rfl rfl rfl hr (by exact Nat.le_of_ble_eq_true rfl) rfl rfl rfl rfl ?_
  intro W415 r416 b414 z417
  have hlb414 := hr.lt
  replace r416 : RowL W415 _ 28 (redL 2 0 noA (smallZ x1) 0 0 0 0 false) := r416
  clear hr
  replace hat := Zd hat b414; replace hok := Zo hok b414; replace hw := Zd hw b414
  have hr := r416
  clear r416
  refine LL.val (R.nil rfl rfl) rfl rfl rfl ?_
  refine Zf ?_
  refine LL.store rfl rfl rfl rfl hr (by exact Nat.le_of_ble_eq_true rfl) rfl rfl rfl rfl ?_
  intro W566 r567 b565 z568
  have hlb565 := hr.lt
  replace r567 : RowL W566 _ 28 (redL 2 0 noA (smallZ x1) 0 x2 0 0 false) := r567
  clear hr
  replace hat := Zd hat b565; replace hok := Zo hok b565; replace hw := Zd hw b565
  have hr := r567
  clear r567
  refine Zq ?_; refine Zr ?_; refine Zm ?_; refine Zm ?_; refine Zm ?_
  (refine LL.call (R.callV rfl rfl rfl rfl) rfl rfl rfl (jnext_Z gat gw bk off cap ws 2 x3 2 3 _ rfl rfl (by assumption) (by assumption) (hWF _ (by assumption)) (by decide) h3 hne) ?_; rintro e W733 ⟨rfl, hat, t732⟩; refine ⟨_, rfl, ?_⟩; replace hok := hok.trans (t732.less fun j hj => ⟨by have := hj.1; have := hok.size; omega, hj.2.2⟩))
  have zt732 := t732.size
  replace hw := hw.kept t732 ⟨hw.lt, by omega⟩
  replace hr := hr.kept t732 ⟨hr.lt, by omega⟩
  refine Zy (R.call rfl rfl rfl) (small_any _ _ (by first | assumption | omega)) ?_
  rintro e W' ⟨rfl, rfl⟩
  refine ⟨_, rfl, ?_⟩; refine Zm ?_
  (refine LL.call (R.callV rfl rfl rfl rfl) rfl rfl rfl (jnext_Z gat gw bk off cap ws 3 x4 3 4 _ rfl rfl (by assumption) (by assumption) (hWF _ (by assumption)) (by decide) h4 hne) ?_; rintro e W859 ⟨rfl, hat, t858⟩; refine ⟨_, rfl, ?_⟩; replace hok := hok.trans (t858.less fun j hj => ⟨by have := hj.1; have := hok.size; omega, hj.2.2⟩))
  have zt858 := t858.size
  replace hw := hw.kept t858 ⟨hw.lt, by omega⟩
  replace hr := hr.kept t858 ⟨hr.lt, by omega⟩
  refine LL.val (R.nil rfl rfl) rfl rfl rfl ?_
  refine Zf ?_
  refine LL.store rfl rfl rfl rfl hr (by exact Nat.le_of_ble_eq_true rfl) rfl rfl rfl rfl ?_
  intro W1011 r1012 b1010 z1013
  have hlb1010 := hr.lt
  replace r1012 : RowL W1011 _ 28 (redL 2 0 noA (smallZ x1) (smallZ x3) x2 0 0 false) := r1012
  clear hr
  replace hat := Zd hat b1010; replace hok := Zo hok b1010; replace hw := Zd hw b1010
  have hr := r1012
  clear r1012
  refine LL.val (R.nil rfl rfl) rfl rfl rfl ?_
  refine Zf ?_
  refine LL.store rfl rfl rfl rfl hr (by exact Nat.le_of_ble_eq_true rfl) rfl rfl rfl rfl ?_
  intro W1162 r1163 b1161 z1164
  have hlb1161 := hr.lt
  replace r1163 : RowL W1162 _ 28 (redL 2 0 noA (smallZ x1) (smallZ x3) x2 x4 0 false) := r1163
  clear hr
  replace hat := Zd hat b1161; replace hok := Zo hok b1161; replace hw := Zd hw b1161
  have hr := r1163
  clear r1163
  refine Zq ?_; refine Zr ?_; refine Zm ?_; refine Zm ?_; refine Zm ?_
  (refine LL.call (R.callV rfl rfl rfl rfl) rfl rfl rfl (jnext_Z gat gw bk off cap ws 4 x5 4 5 _ rfl rfl (by assumption) (by assumption) (hWF _ (by assumption)) (by decide) h5 hne) ?_; rintro e W1343 ⟨rfl, hat, t1342⟩; refine ⟨_, rfl, ?_⟩; replace hok := hok.trans (t1342.less fun j hj => ⟨by have := hj.1; have := hok.size; omega, hj.2.2⟩))
  have zt1342 := t1342.size
  replace hw := hw.kept t1342 ⟨hw.lt, by omega⟩
  replace hr := hr.kept t1342 ⟨hr.lt, by omega⟩
  refine Zy (R.call rfl rfl rfl) (small_any _ _ (by first | assumption | omega)) ?_
  rintro e W' ⟨rfl, rfl⟩
  refine ⟨_, rfl, ?_⟩; refine Zm ?_
  (refine LL.call (R.callV rfl rfl rfl rfl) rfl rfl rfl (jnext_Z gat gw bk off cap ws 5 x6 5 6 _ rfl rfl (by assumption) (by assumption) (hWF _ (by assumption)) (by decide) h6 hne) ?_; rintro e W1483 ⟨rfl, hat, t1482⟩; refine ⟨_, rfl, ?_⟩; replace hok := hok.trans (t1482.less fun j hj => ⟨by have := hj.1; have := hok.size; omega, hj.2.2⟩))
  have zt1482 := t1482.size
  replace hw := hw.kept t1482 ⟨hw.lt, by omega⟩
  replace hr := hr.kept t1482 ⟨hr.lt, by omega⟩
  refine Zy (R.call rfl rfl rfl) (small_any _ _ (by first | assumption | omega)) ?_
  rintro e W' ⟨rfl, rfl⟩
  refine ⟨_, rfl, ?_⟩
  refine LL.val (R.nil rfl rfl) rfl rfl rfl ?_
  refine Zf ?_
  refine LL.store rfl rfl rfl rfl hr (by exact Nat.le_of_ble_eq_true rfl) rfl rfl rfl rfl ?_
  intro W1684 r1685 b1683 z1686
  have hlb1683 := hr.lt
  replace r1685 : RowL W1684 _ 28 (redL 2 0 noA (smallZ x1) (smallZ x3) x2 x4 (smallZ x5) false) := r1685
  clear hr
  replace hat := Zd hat b1683; replace hok := Zo hok b1683; replace hw := Zd hw b1683
  have hr := r1685
  clear r1685
  refine LL.val (R.nil rfl rfl) rfl rfl rfl ?_
  refine Zf ?_
  refine LL.store rfl rfl rfl rfl hr (by exact Nat.le_of_ble_eq_true rfl) rfl rfl rfl rfl ?_
  intro W1835 r1836 b1834 z1837
  have hlb1834 := hr.lt
  replace r1836 : RowL W1835 _ 28 (redL 2 (smallZ x6) noA (smallZ x1) (smallZ x3) x2 x4 (smallZ x5) false) := r1836
  clear hr
  replace hat := Zd hat b1834; replace hok := Zo hok b1834; replace hw := Zd hw b1834
  have hr := r1836
  clear r1836
  refine Zq ?_; refine CC.region ?_; refine Zm ?_; refine Zm ?_
  (refine LL.call (R.callV rfl rfl rfl rfl) rfl rfl rfl (jnext_Z gat gw bk off cap ws 6 x7 6 7 _ rfl rfl (by assumption) (by assumption) (hWF _ (by assumption)) (by decide) h7 hne) ?_; rintro e W1981 ⟨rfl, hat, t1980⟩; refine ⟨_, rfl, ?_⟩; replace hok := hok.trans (t1980.less fun j hj => ⟨by have := hj.1; have := hok.size; omega, hj.2.2⟩))
  have zt1980 := t1980.size
  replace hw := hw.kept t1980 ⟨hw.lt, by omega⟩
  replace hr := hr.kept t1980 ⟨hr.lt, by omega⟩
  refine LL.vsplit (fun h => R.neT rfl rfl rfl h) (fun h => R.neF rfl rfl rfl (Decidable.not_not.1 h)) rfl rfl rfl (fun c2034 => ?_) (fun c2034 => ?_)
  refine LL.val (R.nil rfl rfl) rfl rfl rfl ?_
  refine Zf ?_
  refine LL.store rfl rfl rfl rfl hr (by exact Nat.le_of_ble_eq_true rfl) rfl rfl rfl rfl ?_
  intro W2183 r2184 b2182 z2185
  have hlb2182 := hr.lt
  replace r2184 : RowL W2183 _ 28 (redL 2 (smallZ x6) noA (smallZ x1) (smallZ x3) x2 x4 (smallZ x5) true) := r2184
  clear hr
  replace hat := Zd hat b2182; replace hok := Zo hok b2182; replace hw := Zd hw b2182
  have hr := r2184
  clear r2184
  refine ZL ?_; refine EE.end _ rfl rfl ?_
  (have e7 : (x7 != 0) = true := (by simp; omega); rw [e7]; exact ⟨rfl, hr, hok⟩)
  refine LL.val (R.nil rfl rfl) rfl rfl rfl ?_
  refine Zf ?_
  refine LL.store rfl rfl rfl rfl hr (by exact Nat.le_of_ble_eq_true rfl) rfl rfl rfl rfl ?_
  intro W2334 r2335 b2333 z2336
  have hlb2333 := hr.lt
  replace r2335 : RowL W2334 _ 28 (redL 2 (smallZ x6) noA (smallZ x1) (smallZ x3) x2 x4 (smallZ x5) false) := r2335
  clear hr
  replace hat := Zd hat b2333; replace hok := Zo hok b2333; replace hw := Zd hw b2333
  have hr := r2335
  clear r2335
  refine ZL ?_; refine EE.end _ rfl rfl ?_
  (have e7 : (x7 != 0) = false := (by simp; omega); rw [e7]; exact ⟨rfl, hr, hok⟩)
/-- Sixteen words of which so many are read. -/
def jfill (ws : List Nat) (i : Nat) : Nat → Nat := fun j => if j < i then (ws[2 + j]?).getD 0 else 0
theorem redL_set (k n : Int) (ws : List Nat) (i y : Nat) (f t : Int) (fk tk : Nat) (r : Int) (d : Bool) (hi : i < 16) (hy : ws[2 + i]? = some y) : (redL k n (jfill ws i) f t fk tk r d).set (2 + i) (.int .u64 (y : Int)) = redL k n (jfill ws (i + 1)) f t fk tk r d := by
  have hd : ∀ j, j < 16 → jfill ws (i + 1) j = if j = i then y else jfill ws i j := by
    intro j hj
    unfold jfill
    by_cases h : j = i
    · subst h
      rw [if_pos (by omega), if_pos rfl, hy]
      rfl
    · rw [if_neg h]
      by_cases h2 : j < i
      · rw [if_pos (by omega), if_pos h2]
      · rw [if_neg (by omega), if_neg h2]
  have hc : i = 0 ∨ i = 1 ∨ i = 2 ∨ i = 3 ∨ i = 4 ∨ i = 5 ∨ i = 6 ∨ i = 7 ∨ i = 8 ∨ i = 9 ∨ i = 10 ∨ i = 11 ∨ i = 12 ∨ i = 13 ∨ i = 14 ∨ i = 15 := by omega
  unfold redL
  rw [hd 0 (by decide), hd 1 (by decide), hd 2 (by decide), hd 3 (by decide), hd 4 (by decide), hd 5 (by decide), hd 6 (by decide), hd 7 (by decide), hd 8 (by decide), hd 9 (by decide), hd 10 (by decide), hd 11 (by decide), hd 12 (by decide), hd 13 (by decide), hd 14 (by decide), hd 15 (by decide)]
  clear hd hy
  rcases hc with rfl | rfl | rfl | rfl | rfl | rfl | rfl | rfl | rfl | rfl | rfl | rfl | rfl | rfl | rfl | rfl <;> rfl
theorem readI_any (gr gat gw bk off cap : Nat) (ws : List Nat) (hl : ws.length = 64) (hb : ∀ x ∈ ws, x < 18446744073709551616) (x1 : Nat) (h1 : ws[1]? = some x1) (w : World) (hr : RowL w gr 28 (redL 1 0 noA 0 0 0 0 0 false)) (hat : RowL w gat 3 [.int .i64 0]) (hw : RowL w gw 33 [.slice (some ⟨bk, off, none⟩) 64 cap]) (hW : WdsAt w bk off ws) (hne : gat ≠ gw ∧ gat ≠ bk) (hnr : gr ≠ gat ∧ gr ≠ gw ∧ gr ≠ bk) : Calls Tryz.prog 58 #[.pointer (some ⟨gr, 0, none⟩), .func (.func 39) #[] #[.pointer (some ⟨gat, 0, none⟩), .pointer (some ⟨gw, 0, none⟩)]] w fun e w' => e = .returned (.tuple #[]) ∧ RowL w' gr 28 (redL 1 (smallZ x1) (jfill ws 16) 0 0 0 0 0 false) ∧ Kept (fun j => j < w.heap.size ∧ j ≠ gr ∧ j ≠ gat) w w' := by
  have hok := Kept.refl (fun j => j < w.heap.size ∧ j ≠ gr ∧ j ≠ gat) w
  have l0 := hr.lt; have l1 := hat.lt; have l2 := hw.lt; have l3 := hW.lt
  have b1 := hb x1 (List.mem_of_getElem? h1)
  have hWF : ∀ X, Kept (fun j => j < w.heap.size ∧ j ≠ gr ∧ j ≠ gat) w X → WdsAt X bk off ws := fun X k => ⟨fun j x hx => (World.cell?_of_block (k.block bk ⟨l3, fun e => hnr.2.2 e.symm, fun e => hne.2 e.symm⟩)).trans (hW.1 j x hx), Nat.lt_of_lt_of_le l3 k.size⟩
  clear hW
  refine X.fn Tryz.func58 rfl (n := 22) rfl rfl ?_
  refine Zr ?_; refine Zm ?_; refine Zm ?_
  (refine LL.call (R.callV rfl rfl rfl rfl) rfl rfl rfl (jnext_Z gat gw bk off cap ws 0 x1 0 1 _ rfl rfl (by assumption) (by assumption) (hWF _ (by assumption)) (by decide) h1 hne) ?_; rintro e W18 ⟨rfl, hat, t17⟩; refine ⟨_, rfl, ?_⟩; replace hok := hok.trans (t17.less fun j hj => ⟨by have := hj.1; have := hok.size; omega, hj.2.2⟩))
  have zt17 := t17.size
  replace hr := hr.kept t17 ⟨hr.lt, by omega⟩
  replace hw := hw.kept t17 ⟨hw.lt, by omega⟩
  refine Zy (R.call rfl rfl rfl) (small_any _ _ (by first | assumption | omega)) ?_
  rintro e W' ⟨rfl, rfl⟩
  refine ⟨_, rfl, ?_⟩
  refine LL.val (R.nil rfl rfl) rfl rfl rfl ?_
  refine Zf ?_
  refine LL.store rfl rfl rfl rfl hr (by exact Nat.le_of_ble_eq_true rfl) rfl rfl rfl rfl ?_
  intro W51 r52 b50 z53
  have hlb50 := hr.lt
  replace r52 : RowL W51 _ 28 (redL 1 (smallZ x1) noA 0 0 0 0 0 false) := r52
  clear hr
  replace hat := Zd hat b50; replace hok := Zo hok b50; replace hw := Zd hw b50
  have hr := r52
  clear r52
  refine Zq ?_; refine Zr ?_; refine Zm ?_; refine Zq ?_; refine CC.block ?_
  refine CC.loop (α := Nat) (fun i => [(0, .pointer (some ⟨gr, 0, none⟩)), (1, .func (.func 39) #[] #[.pointer (some ⟨gat, 0, none⟩), .pointer (some ⟨gw, 0, none⟩)]), (11, .int .i64 (i : Int))]) (fun i W => i ≤ 16 ∧ Kept (fun j => j < w.heap.size ∧ j ≠ gr ∧ j ≠ gat) w W ∧ RowL W gat 3 [.int .i64 ((i + 1 : Nat) : Int)] ∧ RowL W gr 28 (redL 1 (smallZ x1) (jfill ws i) 0 0 0 0 0 false) ∧ RowL W gw 33 [.slice (some ⟨bk, off, none⟩) 64 cap]) (fun i => 16 - i) 0 ⟨rfl, rfl, rfl, trivial⟩ ⟨by omega, hok, hat, hr, hw⟩ ?_
  clear hok hat hr hw
  rintro i W ⟨hi, hkk, hat, hr, hw⟩
  show CC none Tryz.prog _ 22 [] (sl [(0, .pointer (some ⟨gr, 0, none⟩)), (1, .func (.func 39) #[] #[.pointer (some ⟨gat, 0, none⟩), .pointer (some ⟨gw, 0, none⟩)]), (11, .int .i64 (i : Int))]) _ W
  by_cases hlt : i < 16
  case neg =>
    obtain rfl : i = 16 := by omega
    refine Zr ?_; refine ZltF ?_; refine Zq ?_; refine Zc ?_; refine ZN ?_; refine CC.exit ?_; refine EE.thenX ?_; refine EE.thenX ?_; refine EE.inX ?_; refine EE.end _ rfl rfl ?_
    exact ⟨rfl, hr, hkk⟩
  obtain ⟨y, hy⟩ : ∃ y, ws[2 + i]? = some y := ⟨_, List.getElem?_eq_getElem (by omega)⟩
  have hst := redL_set 1 (smallZ x1) ws i y 0 0 0 0 0 false hlt hy
  have by1 := hb y (List.mem_of_getElem? hy)
  refine Zr ?_; refine ZltT ?_; refine Zq ?_; refine Zc ?_; refine ZY ?_; refine ZK ?_; refine ZT ?_; refine Zc ?_; refine CC.block ?_; refine Zr ?_; refine Zm ?_; refine Za ?_; refine Zq ?_
  refine CC.freeZ (fun W_ j => j < W_.heap.size ∧ (j ≠ gr ∧ j ≠ gat)) (by kernel_rfl) (by kernel_rfl) (fun Wb44 bb43 zb45 => ?_)
  replace hkk := Zh hkk bb43; have yb46 := hkk.size; replace hat := hat.up bb43; replace hr := hr.up bb43; replace hw := hw.up bb43
  have hok : Kept (fun j => j < Wb44.heap.size ∧ (j ≠ gr ∧ j ≠ gat)) Wb44 Wb44 := Kept.refl _ _
  have fzhw := fzRow (K := fun j => j < Wb44.heap.size ∧ (j ≠ gr ∧ j ≠ gat)) hw ⟨hw.lt, (by first | trivial | omega)⟩
  refine AA.pure 0 rfl hok (by kernel_rfl) (fun w' b' => R.move rfl rfl) rfl rfl ?_
  refine AA.pure 1 rfl hok (by kernel_rfl) (fun w' b' => R.move rfl rfl) rfl rfl ?_
  refine AA.pure 2 rfl hok (by kernel_rfl) (fun w' b' => R.move rfl rfl) rfl rfl ?_
  refine AA.pure 4 rfl hok (by kernel_rfl) (fun w' b' => R.nil rfl rfl) rfl rfl ?_
  refine AA.pure 5 rfl hok (by kernel_rfl) (fun w' b' => R.field rfl rfl (I.fld rfl)) rfl rfl ?_
  refine AA.one 3 (by kernel_rfl) ?_
  (refine SR.call rfl (R.callV rfl rfl rfl rfl) rfl rfl (jnext_Z gat gw bk off cap ws (i + 1) y _ ((i + 2 : Nat) : Int) _ rfl (by omega) (by assumption) (by assumption) (hWF _ hkk) (by omega) (by rw [show i + 1 + 1 = 2 + i by omega]; exact hy) hne) ?_; rintro e Wb50 ⟨rfl, hat, tb49⟩; refine ⟨_, rfl, ?_⟩; replace hkk := hkk.trans (tb49.less fun j hj => ⟨by have := hj.1; have := hkk.size; omega, hj.2.2⟩); replace hok := hok.trans (tb49.less fun j hj => ⟨by have := hj.1; have := hok.size; omega, hj.2.2⟩))
  have ztb49 := tb49.size
  replace hr := hr.kept tb49 ⟨hr.lt, by omega⟩
  replace hw := hw.kept tb49 ⟨hw.lt, by omega⟩
  refine ⟨hok, ?_⟩
  refine AA.pure 6 rfl hok (by kernel_rfl) (fun w' b' => R.index rfl rfl rfl (I.ixA1 rfl (by omega))) rfl rfl ?_
  refine AA.one 7 (by kernel_rfl) ?_
  (refine ZR.store (off := 2 + i) rfl rfl rfl rfl rfl hr (by simp; omega) rfl rfl rfl rfl ?_; intro Wb64 r9 grb62 zz9; rw [hst] at r9; clear hr; have hr := r9; clear r9)
  have zgrb62 := grb62.size; replace hat := Zd hat grb62; replace hkk := Zo hkk grb62; replace hok := Zo hok grb62; replace hw := Zd hw grb62
  refine ⟨hok, ?_⟩
  refine AA.done rfl ?_
  clear fzhw hok
  refine EE.inN ?_; refine ZT ?_; refine CC.region ?_
  refine LL.val (R.addNc rfl rfl rfl rfl (by omega)) rfl rfl rfl ?_
  refine Zm ?_; refine ZL ?_
  exact EE.round (i + 1) ⟨rfl, rfl, rfl, trivial⟩ ⟨by omega, hkk, hat, hr, hw⟩ (by omega)
set_option linter.unusedVariables false
set_option linter.unusedSimpArgs false
set_option maxRecDepth 100000
set_option maxHeartbeats 8000000
/-- The same redo. -/
def sameR (k n : Int) (a : Nat → Nat) (f t : Int) (fk tk : Nat) (r : Int) (d : Bool) (k' n' : Int) (a' : Nat → Nat) (f' t' : Int) (fk' tk' : Nat) (r' : Int) (d' : Bool) : Prop := k = k' ∧ n = n' ∧ (a 0 : Int) = (a' 0 : Int) ∧ (a 1 : Int) = (a' 1 : Int) ∧ (a 2 : Int) = (a' 2 : Int) ∧ (a 3 : Int) = (a' 3 : Int) ∧ (a 4 : Int) = (a' 4 : Int) ∧ (a 5 : Int) = (a' 5 : Int) ∧ (a 6 : Int) = (a' 6 : Int) ∧ (a 7 : Int) = (a' 7 : Int) ∧ (a 8 : Int) = (a' 8 : Int) ∧ (a 9 : Int) = (a' 9 : Int) ∧ (a 10 : Int) = (a' 10 : Int) ∧ (a 11 : Int) = (a' 11 : Int) ∧ (a 12 : Int) = (a' 12 : Int) ∧ (a 13 : Int) = (a' 13 : Int) ∧ (a 14 : Int) = (a' 14 : Int) ∧ (a 15 : Int) = (a' 15 : Int) ∧ f = f' ∧ t = t' ∧ (fk : Int) = (fk' : Int) ∧ (tk : Int) = (tk' : Int) ∧ r = r' ∧ d = d'
section
variable {w : World} {u : TypeId} {o : Oper} {x y : Operand} {N : Nat} {D : List Deferred} {M : Slots}
theorem R.redoT {k n : Int} {a : Nat → Nat} {f t : Int} {fk tk : Nat} {r : Int} {d : Bool} {k' n' : Int} {a' : Nat → Nat} {f' t' : Int} {fk' tk' : Nat} {r' : Int} {d' : Bool} (h : sameR k n a f t fk tk r d k' n' a' f' t' fk' tk' r' d') (ho : o.op = .binOp .neq 28 x y u) (hx : evM M x = some (redV k n a f t fk tk r d)) (hy : evM M y = some (redV k' n' a' f' t' fk' tk' r' d')) : Runs Tryz.prog N D M o w (.value (.bool false)) w :=
  R.neST (p := k = k' ∧ n = n' ∧ (a 0 : Int) = (a' 0 : Int) ∧ (a 1 : Int) = (a' 1 : Int) ∧ (a 2 : Int) = (a' 2 : Int) ∧ (a 3 : Int) = (a' 3 : Int) ∧ (a 4 : Int) = (a' 4 : Int) ∧ (a 5 : Int) = (a' 5 : Int) ∧ (a 6 : Int) = (a' 6 : Int) ∧ (a 7 : Int) = (a' 7 : Int) ∧ (a 8 : Int) = (a' 8 : Int) ∧ (a 9 : Int) = (a' 9 : Int) ∧ (a 10 : Int) = (a' 10 : Int) ∧ (a 11 : Int) = (a' 11 : Int) ∧ (a 12 : Int) = (a' 12 : Int) ∧ (a 13 : Int) = (a' 13 : Int) ∧ (a 14 : Int) = (a' 14 : Int) ∧ (a 15 : Int) = (a' 15 : Int) ∧ f = f' ∧ t = t' ∧ (fk : Int) = (fk' : Int) ∧ (tk : Int) = (tk' : Int) ∧ r = r' ∧ d = d') (xs := redL k n a f t fk tk r d) (ys := redL k' n' a' f' t' fk' tk' r' d') (bs := [decide (k = k'), decide (n = n'), decide ((a 0 : Int) = (a' 0 : Int)), decide ((a 1 : Int) = (a' 1 : Int)), decide ((a 2 : Int) = (a' 2 : Int)), decide ((a 3 : Int) = (a' 3 : Int)), decide ((a 4 : Int) = (a' 4 : Int)), decide ((a 5 : Int) = (a' 5 : Int)), decide ((a 6 : Int) = (a' 6 : Int)), decide ((a 7 : Int) = (a' 7 : Int)), decide ((a 8 : Int) = (a' 8 : Int)), decide ((a 9 : Int) = (a' 9 : Int)), decide ((a 10 : Int) = (a' 10 : Int)), decide ((a 11 : Int) = (a' 11 : Int)), decide ((a 12 : Int) = (a' 12 : Int)), decide ((a 13 : Int) = (a' 13 : Int)), decide ((a 14 : Int) = (a' 14 : Int)), decide ((a 15 : Int) = (a' 15 : Int)), decide (f = f'), decide (t = t'), decide ((fk : Int) = (fk' : Int)), decide ((tk : Int) = (tk' : Int)), decide (r = r'), d == d']) ho hx hy rfl (by kernel_rfl) (by kernel_rfl) (by cases d <;> cases d' <;> simp) h
theorem R.redoF {k n : Int} {a : Nat → Nat} {f t : Int} {fk tk : Nat} {r : Int} {d : Bool} {k' n' : Int} {a' : Nat → Nat} {f' t' : Int} {fk' tk' : Nat} {r' : Int} {d' : Bool} (h : ¬sameR k n a f t fk tk r d k' n' a' f' t' fk' tk' r' d') (ho : o.op = .binOp .neq 28 x y u) (hx : evM M x = some (redV k n a f t fk tk r d)) (hy : evM M y = some (redV k' n' a' f' t' fk' tk' r' d')) : Runs Tryz.prog N D M o w (.value (.bool true)) w :=
  R.neSF (p := k = k' ∧ n = n' ∧ (a 0 : Int) = (a' 0 : Int) ∧ (a 1 : Int) = (a' 1 : Int) ∧ (a 2 : Int) = (a' 2 : Int) ∧ (a 3 : Int) = (a' 3 : Int) ∧ (a 4 : Int) = (a' 4 : Int) ∧ (a 5 : Int) = (a' 5 : Int) ∧ (a 6 : Int) = (a' 6 : Int) ∧ (a 7 : Int) = (a' 7 : Int) ∧ (a 8 : Int) = (a' 8 : Int) ∧ (a 9 : Int) = (a' 9 : Int) ∧ (a 10 : Int) = (a' 10 : Int) ∧ (a 11 : Int) = (a' 11 : Int) ∧ (a 12 : Int) = (a' 12 : Int) ∧ (a 13 : Int) = (a' 13 : Int) ∧ (a 14 : Int) = (a' 14 : Int) ∧ (a 15 : Int) = (a' 15 : Int) ∧ f = f' ∧ t = t' ∧ (fk : Int) = (fk' : Int) ∧ (tk : Int) = (tk' : Int) ∧ r = r' ∧ d = d') (xs := redL k n a f t fk tk r d) (ys := redL k' n' a' f' t' fk' tk' r' d') (bs := [decide (k = k'), decide (n = n'), decide ((a 0 : Int) = (a' 0 : Int)), decide ((a 1 : Int) = (a' 1 : Int)), decide ((a 2 : Int) = (a' 2 : Int)), decide ((a 3 : Int) = (a' 3 : Int)), decide ((a 4 : Int) = (a' 4 : Int)), decide ((a 5 : Int) = (a' 5 : Int)), decide ((a 6 : Int) = (a' 6 : Int)), decide ((a 7 : Int) = (a' 7 : Int)), decide ((a 8 : Int) = (a' 8 : Int)), decide ((a 9 : Int) = (a' 9 : Int)), decide ((a 10 : Int) = (a' 10 : Int)), decide ((a 11 : Int) = (a' 11 : Int)), decide ((a 12 : Int) = (a' 12 : Int)), decide ((a 13 : Int) = (a' 13 : Int)), decide ((a 14 : Int) = (a' 14 : Int)), decide ((a 15 : Int) = (a' 15 : Int)), decide (f = f'), decide (t = t'), decide ((fk : Int) = (fk' : Int)), decide ((tk : Int) = (tk' : Int)), decide (r = r'), d == d']) ho hx hy rfl (by kernel_rfl) (by kernel_rfl) (by cases d <;> cases d' <;> simp) h
end
/-- An inode's words are a file's. -/
def okFl (a : Nat → Nat) : Prop := ∃ l z : Int, ∃ m : List Ex, okI 1 l z m 0 0 [] ∧ inoW 1 l z m 0 0 [] = jsixL a
abbrev jkdZ : Value := .agg #[.int .i64 0, .nilFunc, .nilFunc, .nilFunc, .nilFunc]
theorem jwds_row {w : World} {g e : Nat} {k n : Int} {a : Nat → Nat} {xs : List Value} (h : RowL w g e ([.int .i64 k, .int .i64 n] ++ ints .u64 (jsixL a) ++ xs)) : WdsAt w g 2 (jsixL a) := ⟨fun j x hx => RowL.cell h (by
  have hj : j < 16 := (List.getElem?_eq_some_iff.1 hx).1
  rw [List.append_assoc, List.getElem?_append_right (by simp), List.getElem?_append_left (by simp [ints, jsixL]; omega)]
  simp [ints, hx]), h.lt⟩
theorem jmay1_T (k n : Int) (a : Nat → Nat) (f t : Int) (fk tk : Nat) (r : Int) (d : Bool) (lb li lr lt : Int) (k1 k2 : Nat) (la lc ld le : Int) (w : World) (hS : Start w) (h : okFl a) : Calls Tryz.prog 55 #[unRV k n a f t fk tk r d lb li lr lt k1 k2 la lc ld le] w fun x w' => x = .returned (.bool true) ∧ Below w.heap.size w w' := by
  have q := Below.refl w.heap.size w
  have hSF : ∀ X, Below w.heap.size w X → Start X := fun X b => hS.up b
  obtain ⟨l, z, m, hI, he⟩ := h
  clear hS
  refine X.fn Tryz.func55 rfl (n := 19) rfl rfl ?_
  refine Zr ?_
  refine LL.box [.int .i64 k, .int .i64 n, .int .u64 ↑(a 0), .int .u64 ↑(a 1), .int .u64 ↑(a 2), .int .u64 ↑(a 3), .int .u64 ↑(a 4), .int .u64 ↑(a 5), .int .u64 ↑(a 6), .int .u64 ↑(a 7), .int .u64 ↑(a 8), .int .u64 ↑(a 9), .int .u64 ↑(a 10), .int .u64 ↑(a 11), .int .u64 ↑(a 12), .int .u64 ↑(a 13), .int .u64 ↑(a 14), .int .u64 ↑(a 15), .int .i64 f, .int .i64 t, .int .u64 ↑fk, .int .u64 ↑tk, .int .i64 r, .bool d, .int .i64 lb, .int .i64 li, .int .i64 lr, .int .i64 lt, .int .u64 ↑k1, .int .u64 ↑k2, .int .i64 la, .int .i64 lc, .int .i64 ld, .int .i64 le] rfl rfl rfl rfl rfl ?_
  intro W9 g10 eg10 r11 z12 b8
  replace q := Zu q b8; refine Za ?_; refine Zq ?_; refine Zr ?_; refine Zf ?_; refine Zf ?_
  refine LL.val (R.slice rfl rfl rfl rfl rfl (I.slA rfl)) rfl rfl rfl ?_
  have l49 := r11.lt
  (have hWd := jwds_row (k := k) (n := n) (a := a) (by assumption); refine Zy (R.call rfl rfl rfl) (of_ok _ 2 16 (jsixL a) 1 l z m 0 0 [] _ (hSF _ q) (by decide) hWd hI he) ?_; rintro e W48 ⟨v4, rfl, rd4, b45⟩; refine ⟨_, rfl, ?_⟩; obtain ⟨x4, c4, rfl, _⟩ := rd4.form rfl; clear rd4 hWd)
  have zb45 := b45.size; replace r11 := r11.up b45; replace q := Zu q b45; refine Zm ?_; refine Zx ?_; refine Zx ?_; have l85 := r11.lt
  refine LL.alloc ([.int .i64 0, .int .i64 0, .int .i64 0, .slice none 0 0, .int .i64 0, .int .i64 0, .string { data := { toList := [] } }]) rfl rfl rfl rfl rfl ?_
  intro W87 g88 eg88 r89 z90 b86
  replace r11 := r11.up b86; replace q := Zu q b86
  refine LL.storeN (vs := [.int .i64 1, .int .i64 l, .int .i64 z, .slice x4 m.length c4, .int .i64 0, .int .i64 0, strV []]) rfl rfl rfl rfl r89 (by exact Nat.le_of_ble_eq_true rfl) (ones_of rfl) rfl rfl ?_
  intro W101 r102 b100 z103
  have hlb100 := r89.lt
  replace r102 : RowL W101 _ 80 [.int .i64 1, .int .i64 l, .int .i64 z, .slice x4 m.length c4, .int .i64 0, .int .i64 0, strV []] := r102
  clear r89
  replace r11 := Zd r11 b100; replace q := Zg q b100
  have r89 := r102
  clear r102
  refine Za ?_; refine Zq ?_; refine Zr ?_; refine Zm ?_; refine ZeqT ?_; refine Zm ?_; refine Zf ?_; refine Zl r89 ?_; refine ZeqT ?_; refine Zp ?_; refine Za ?_; refine Zq ?_; refine ZR ?_; refine EE.ret _ rfl rfl ?_
  exact ⟨rfl, q⟩
theorem jmay1_F (k n : Int) (a : Nat → Nat) (f t : Int) (fk tk : Nat) (r : Int) (d : Bool) (lb li lr lt : Int) (k1 k2 : Nat) (la lc ld le : Int) (w : World) (hS : Start w) (hb : ∀ x ∈ jsixL a, x < 18446744073709551616) (h : ¬okFl a) : Calls Tryz.prog 55 #[unRV k n a f t fk tk r d lb li lr lt k1 k2 la lc ld le] w fun x w' => x = .returned (.bool false) ∧ Below w.heap.size w w' := by
  have q := Below.refl w.heap.size w
  have hSF : ∀ X, Below w.heap.size w X → Start X := fun X b => hS.up b
  clear hS
  by_cases h0 : a 0 = 0
  · have h00 : (jsixL a)[0]? = some 0 := congrArg some h0
    clear h
    refine X.fn Tryz.func55 rfl (n := 19) rfl rfl ?_
    refine Zr ?_
    refine LL.box [.int .i64 k, .int .i64 n, .int .u64 ↑(a 0), .int .u64 ↑(a 1), .int .u64 ↑(a 2), .int .u64 ↑(a 3), .int .u64 ↑(a 4), .int .u64 ↑(a 5), .int .u64 ↑(a 6), .int .u64 ↑(a 7), .int .u64 ↑(a 8), .int .u64 ↑(a 9), .int .u64 ↑(a 10), .int .u64 ↑(a 11), .int .u64 ↑(a 12), .int .u64 ↑(a 13), .int .u64 ↑(a 14), .int .u64 ↑(a 15), .int .i64 f, .int .i64 t, .int .u64 ↑fk, .int .u64 ↑tk, .int .i64 r, .bool d, .int .i64 lb, .int .i64 li, .int .i64 lr, .int .i64 lt, .int .u64 ↑k1, .int .u64 ↑k2, .int .i64 la, .int .i64 lc, .int .i64 ld, .int .i64 le] rfl rfl rfl rfl rfl ?_
    intro W9 g10 eg10 r11 z12 b8
    replace q := Zu q b8; refine Za ?_; refine Zq ?_; refine Zr ?_; refine Zf ?_; refine Zf ?_
    refine LL.val (R.slice rfl rfl rfl rfl rfl (I.slA rfl)) rfl rfl rfl ?_
    have l49 := r11.lt
    (have hWd := jwds_row (k := k) (n := n) (a := a) (by assumption); refine Zy (R.call rfl rfl rfl) (of_Z _ 2 16 (jsixL a) _ (hSF _ q) rfl hb (by decide) hWd h00) ?_; rintro e W48 ⟨v4, rfl, rd4, b45⟩; refine ⟨_, rfl, ?_⟩; obtain ⟨x4, c4, rfl, _⟩ := rd4.form rfl; clear rd4 hWd)
    have zb45 := b45.size; replace r11 := r11.up b45; replace q := Zu q b45; refine Zm ?_; refine Zx ?_; refine Zx ?_; have l85 := r11.lt
    refine LL.alloc ([.int .i64 0, .int .i64 0, .int .i64 0, .slice none 0 0, .int .i64 0, .int .i64 0, .string { data := { toList := [] } }]) rfl rfl rfl rfl rfl ?_
    intro W87 g88 eg88 r89 z90 b86
    replace r11 := r11.up b86; replace q := Zu q b86
    refine LL.storeN (vs := [.int .i64 0, .int .i64 0, .int .i64 0, .slice x4 [].length c4, .int .i64 0, .int .i64 0, strV []]) rfl rfl rfl rfl r89 (by exact Nat.le_of_ble_eq_true rfl) (ones_of rfl) rfl rfl ?_
    intro W101 r102 b100 z103
    have hlb100 := r89.lt
    replace r102 : RowL W101 _ 80 [.int .i64 0, .int .i64 0, .int .i64 0, .slice x4 [].length c4, .int .i64 0, .int .i64 0, strV []] := r102
    clear r89
    replace r11 := Zd r11 b100; replace q := Zg q b100
    have r89 := r102
    clear r102
    refine Za ?_; refine Zq ?_; refine Zr ?_; refine Zm ?_; refine ZeqT ?_; refine Zm ?_; refine Zf ?_; refine Zl r89 ?_; refine ZeqF ?_; refine Zp ?_; refine Za ?_; refine Zq ?_; refine ZR ?_; refine EE.ret _ rfl rfl ?_
    exact ⟨rfl, q⟩
  by_cases hn : noI (jsixL a)
  · have h00 : (jsixL a)[0]? = some (a 0) := rfl
    clear h
    refine X.fn Tryz.func55 rfl (n := 19) rfl rfl ?_
    refine Zr ?_
    refine LL.box [.int .i64 k, .int .i64 n, .int .u64 ↑(a 0), .int .u64 ↑(a 1), .int .u64 ↑(a 2), .int .u64 ↑(a 3), .int .u64 ↑(a 4), .int .u64 ↑(a 5), .int .u64 ↑(a 6), .int .u64 ↑(a 7), .int .u64 ↑(a 8), .int .u64 ↑(a 9), .int .u64 ↑(a 10), .int .u64 ↑(a 11), .int .u64 ↑(a 12), .int .u64 ↑(a 13), .int .u64 ↑(a 14), .int .u64 ↑(a 15), .int .i64 f, .int .i64 t, .int .u64 ↑fk, .int .u64 ↑tk, .int .i64 r, .bool d, .int .i64 lb, .int .i64 li, .int .i64 lr, .int .i64 lt, .int .u64 ↑k1, .int .u64 ↑k2, .int .i64 la, .int .i64 lc, .int .i64 ld, .int .i64 le] rfl rfl rfl rfl rfl ?_
    intro Wa9 ga10 ega10 ra11 za12 ba8
    replace q := Zu q ba8; refine Za ?_; refine Zq ?_; refine Zr ?_; refine Zf ?_; refine Zf ?_
    refine LL.val (R.slice rfl rfl rfl rfl rfl (I.slA rfl)) rfl rfl rfl ?_
    have la49 := ra11.lt
    (have hWd := jwds_row (k := k) (n := n) (a := a) (by assumption); refine Zy (R.call rfl rfl rfl) (of_no _ 2 16 (jsixL a) _ (hSF _ q) rfl hb (by decide) hWd _ h00 h0 hn) ?_; rintro e Wa48 ⟨rfl, ba45⟩; refine ⟨_, rfl, ?_⟩; clear hWd)
    have zba45 := ba45.size; replace ra11 := ra11.up ba45; replace q := Zu q ba45; refine Zm ?_; refine Zx ?_; refine Zx ?_; have la85 := ra11.lt
    refine LL.alloc ([.int .i64 0, .int .i64 0, .int .i64 0, .slice none 0 0, .int .i64 0, .int .i64 0, .string { data := { toList := [] } }]) rfl rfl rfl rfl rfl ?_
    intro Wa87 ga88 ega88 ra89 za90 ba86
    replace ra11 := ra11.up ba86; replace q := Zu q ba86
    refine LL.storeN (vs := [.int .i64 0, .int .i64 0, .int .i64 0, .slice none 0 0, .int .i64 0, .int .i64 0, strV []]) rfl rfl rfl rfl ra89 (by exact Nat.le_of_ble_eq_true rfl) (ones_of rfl) rfl rfl ?_
    intro Wa101 ra102 ba100 za103
    have hlba100 := ra89.lt
    replace ra102 : RowL Wa101 _ 80 [.int .i64 0, .int .i64 0, .int .i64 0, .slice none 0 0, .int .i64 0, .int .i64 0, strV []] := ra102
    clear ra89
    replace ra11 := Zd ra11 ba100; replace q := Zg q ba100
    have ra89 := ra102
    clear ra102
    refine Za ?_; refine Zq ?_; refine Zr ?_; refine Zm ?_; refine ZeqF ?_; refine Zm ?_; refine Zs ?_; refine Zs ?_; refine Zs ?_; refine Zp ?_; refine Za ?_; refine Zq ?_; refine ZR ?_; refine EE.ret _ rfl rfl ?_
    exact ⟨rfl, q⟩
  unfold noI at hn
  simp only [Classical.not_forall, Classical.not_not, exists_prop] at hn
  obtain ⟨k1', l1, z1, m1, r1, p1, t1, hI, he⟩ := hn
  have hk1 : k1' ≠ 1 := by
    rintro rfl
    obtain ⟨hl, ⟨h2, _⟩ | ⟨_, rfl, rfl, rfl, hf⟩ | ⟨h2, _⟩ | ⟨h2, _⟩⟩ := id hI
    · exact absurd h2 (by decide)
    · exact h ⟨_, _, _, hI, he⟩
    · exact absurd h2 (by decide)
    · exact absurd h2 (by decide)
  clear h
  refine X.fn Tryz.func55 rfl (n := 19) rfl rfl ?_
  refine Zr ?_
  refine LL.box [.int .i64 k, .int .i64 n, .int .u64 ↑(a 0), .int .u64 ↑(a 1), .int .u64 ↑(a 2), .int .u64 ↑(a 3), .int .u64 ↑(a 4), .int .u64 ↑(a 5), .int .u64 ↑(a 6), .int .u64 ↑(a 7), .int .u64 ↑(a 8), .int .u64 ↑(a 9), .int .u64 ↑(a 10), .int .u64 ↑(a 11), .int .u64 ↑(a 12), .int .u64 ↑(a 13), .int .u64 ↑(a 14), .int .u64 ↑(a 15), .int .i64 f, .int .i64 t, .int .u64 ↑fk, .int .u64 ↑tk, .int .i64 r, .bool d, .int .i64 lb, .int .i64 li, .int .i64 lr, .int .i64 lt, .int .u64 ↑k1, .int .u64 ↑k2, .int .i64 la, .int .i64 lc, .int .i64 ld, .int .i64 le] rfl rfl rfl rfl rfl ?_
  intro Wb9 gb10 egb10 rb11 zb12 bb8
  replace q := Zu q bb8; refine Za ?_; refine Zq ?_; refine Zr ?_; refine Zf ?_; refine Zf ?_
  refine LL.val (R.slice rfl rfl rfl rfl rfl (I.slA rfl)) rfl rfl rfl ?_
  have lb49 := rb11.lt
  (have hWd := jwds_row (k := k) (n := n) (a := a) (by assumption); refine Zy (R.call rfl rfl rfl) (of_ok _ 2 16 (jsixL a) k1' l1 z1 m1 r1 p1 t1 _ (hSF _ q) (by decide) hWd hI he) ?_; rintro e Wb48 ⟨v4, rfl, rd4, bb45⟩; refine ⟨_, rfl, ?_⟩; obtain ⟨x4, c4, rfl, _⟩ := rd4.form rfl; clear rd4 hWd)
  have zbb45 := bb45.size; replace rb11 := rb11.up bb45; replace q := Zu q bb45; refine Zm ?_; refine Zx ?_; refine Zx ?_; have lb85 := rb11.lt
  refine LL.alloc ([.int .i64 0, .int .i64 0, .int .i64 0, .slice none 0 0, .int .i64 0, .int .i64 0, .string { data := { toList := [] } }]) rfl rfl rfl rfl rfl ?_
  intro Wb87 gb88 egb88 rb89 zb90 bb86
  replace rb11 := rb11.up bb86; replace q := Zu q bb86
  refine LL.storeN (vs := [.int .i64 k1', .int .i64 l1, .int .i64 z1, .slice x4 m1.length c4, .int .i64 r1, .int .i64 p1, strV t1]) rfl rfl rfl rfl rb89 (by exact Nat.le_of_ble_eq_true rfl) (ones_of rfl) rfl rfl ?_
  intro Wb101 rb102 bb100 zb103
  have hlbb100 := rb89.lt
  replace rb102 : RowL Wb101 _ 80 [.int .i64 k1', .int .i64 l1, .int .i64 z1, .slice x4 m1.length c4, .int .i64 r1, .int .i64 p1, strV t1] := rb102
  clear rb89
  replace rb11 := Zd rb11 bb100; replace q := Zg q bb100
  have rb89 := rb102
  clear rb102
  refine Za ?_; refine Zq ?_; refine Zr ?_; refine Zm ?_; refine ZeqT ?_; refine Zm ?_; refine Zf ?_; refine Zl rb89 ?_; refine ZeqF ?_; refine Zp ?_; refine Za ?_; refine Zq ?_; refine ZR ?_; refine EE.ret _ rfl rfl ?_
  exact ⟨rfl, q⟩
theorem jcheck_gT (k n : Int) (a : Nat → Nat) (f t : Int) (fk tk : Nat) (r : Int) (d : Bool) (lb li lr lt : Int) (k1 k2 : Nat) (la lc ld le : Int) (w : World) (m : Int) (f1 f2 f3 f4 : Nat) (hkF : jkindsF k = some (m, f1, f2, f3, f4)) (e1 : entB Tryz.prog f1 = true) (e2 : entB Tryz.prog f2 = true) (k' n' : Int) (a' : Nat → Nat) (f' t' : Int) (fk' tk' : Nat) (r' : Int) (d' : Bool) (cN : ∀ W, Calls Tryz.prog f1 #[redV k n a f t fk tk r d] W fun x w' => x = .returned (redV k' n' a' f' t' fk' tk' r' d') ∧ Below W.heap.size W w') (hs : sameR k' n' a' f' t' fk' tk' r' d' k n a f t fk tk r d) (hn : 1 ≤ n ∧ n ≤ li) (cM : ∀ W, Below w.heap.size w W → Calls Tryz.prog f2 #[unRV k n a f t fk tk r d lb li lr lt k1 k2 la lc ld le] W fun x w' => x = .returned (.bool true) ∧ Below W.heap.size W w') : Calls Tryz.prog 28 #[layV lb li lr lt k1 k2 la lc ld le, redV k n a f t fk tk r d] w fun x w' => x = .returned (jkdV (m, f1, f2, f3, f4)) ∧ Below w.heap.size w w' := by
  have q := Below.refl w.heap.size w
  refine X.fn Tryz.func28 rfl (n := 43) rfl rfl ?_
  refine Zr ?_
  refine LL.box (jlyL lb li lr lt k1 k2 la lc ld le) rfl rfl rfl rfl rfl ?_
  intro W2 g3 eg3 r4 z5 b1
  replace q := Zu q b1; have l6 := r4.lt
  refine LL.box (redL k n a f t fk tk r d) rfl rfl rfl rfl rfl ?_
  intro W8 g9 eg9 r10 z11 b7
  replace r4 := r4.up b7; replace b1 := Zu b1 b7; replace q := Zu q b7; have l12 := r10.lt; have l13 := r4.lt
  refine LL.alloc ([.int .i64 0, Value.nilFunc, Value.nilFunc, Value.nilFunc, Value.nilFunc]) rfl rfl rfl rfl rfl ?_
  intro W15 g16 eg16 r17 z18 b14
  replace r10 := r10.up b14; replace b7 := Zu b7 b14; replace r4 := r4.up b14; replace b1 := Zu b1 b14; replace q := Zu q b14; refine Zq ?_; refine Zc ?_
  refine CC.join (fun l_ W38 => ∃ (g33 : Nat), l_ = [(0, Value.agg #[Value.int IntKind.i64 lb, Value.int IntKind.i64 li, Value.int IntKind.i64 lr, Value.int IntKind.i64 lt, Value.int IntKind.u64 ↑k1, Value.int IntKind.u64 ↑k2, Value.int IntKind.i64 la, Value.int IntKind.i64 lc, Value.int IntKind.i64 ld, Value.int IntKind.i64 le]), (1, Value.agg #[Value.int IntKind.i64 k, Value.int IntKind.i64 n, Value.int IntKind.u64 ↑(a 0), Value.int IntKind.u64 ↑(a 1), Value.int IntKind.u64 ↑(a 2), Value.int IntKind.u64 ↑(a 3), Value.int IntKind.u64 ↑(a 4), Value.int IntKind.u64 ↑(a 5), Value.int IntKind.u64 ↑(a 6), Value.int IntKind.u64 ↑(a 7), Value.int IntKind.u64 ↑(a 8), Value.int IntKind.u64 ↑(a 9), Value.int IntKind.u64 ↑(a 10), Value.int IntKind.u64 ↑(a 11), Value.int IntKind.u64 ↑(a 12), Value.int IntKind.u64 ↑(a 13), Value.int IntKind.u64 ↑(a 14), Value.int IntKind.u64 ↑(a 15), Value.int IntKind.i64 f, Value.int IntKind.i64 t, Value.int IntKind.u64 ↑fk, Value.int IntKind.u64 ↑tk, Value.int IntKind.i64 r, Value.bool d]), (2, Value.pointer (some { block := g3, off := 0 })), (3, Value.pointer (some { block := g9, off := 0 })), (4, Value.pointer (some { block := g16, off := 0 })), (5, Value.pointer (some { block := g33, off := 0 })), (6, Value.bool true)] ∧ (Below W15.heap.size W15 W38) ∧ (RowL W38 g16 74 [Value.int IntKind.i64 0, Value.nilFunc, Value.nilFunc, Value.nilFunc, Value.nilFunc]) ∧ (Below W8.heap.size W8 W38) ∧ (RowL W38 g9 28 [Value.int IntKind.i64 k, Value.int IntKind.i64 n, Value.int IntKind.u64 ↑(a 0), Value.int IntKind.u64 ↑(a 1), Value.int IntKind.u64 ↑(a 2), Value.int IntKind.u64 ↑(a 3), Value.int IntKind.u64 ↑(a 4), Value.int IntKind.u64 ↑(a 5), Value.int IntKind.u64 ↑(a 6), Value.int IntKind.u64 ↑(a 7), Value.int IntKind.u64 ↑(a 8), Value.int IntKind.u64 ↑(a 9), Value.int IntKind.u64 ↑(a 10), Value.int IntKind.u64 ↑(a 11), Value.int IntKind.u64 ↑(a 12), Value.int IntKind.u64 ↑(a 13), Value.int IntKind.u64 ↑(a 14), Value.int IntKind.u64 ↑(a 15), Value.int IntKind.i64 f, Value.int IntKind.i64 t, Value.int IntKind.u64 ↑fk, Value.int IntKind.u64 ↑tk, Value.int IntKind.i64 r, Value.bool d]) ∧ (Below W2.heap.size W2 W38) ∧ (RowL W38 g3 31 [Value.int IntKind.i64 lb, Value.int IntKind.i64 li, Value.int IntKind.i64 lr, Value.int IntKind.i64 lt, Value.int IntKind.u64 ↑k1, Value.int IntKind.u64 ↑k2, Value.int IntKind.i64 la, Value.int IntKind.i64 lc, Value.int IntKind.i64 ld, Value.int IntKind.i64 le]) ∧ (Below w.heap.size w W38) ∧ (Below w.heap.size w W38) ∧ (RowL W38 g33 74 [Value.int IntKind.i64 m, jfnV f1, jfnV f2, jfnV f3, jfnV f4]) ∧ (W15.heap.size ≤ W38.heap.size) ∧ (W15.heap.size ≤ g33)) (fun J43 => ?_) ?restJ43
  case' restJ43 =>
    clear r17
    clear b14
    clear r10
    clear b7
    clear r4
    clear b1
    clear q
    rintro _ W38 ⟨g33, rfl, b19, r17, b14, r10, b7, r4, b1, q, r34, z41, z42⟩
  refine ZT ?_; refine Zr ?_; refine Zm ?_; refine Zt ?_
  refine Zy (R.call rfl rfl rfl) (jrefuse_F _ _) ?_
  rintro e W' ⟨rfl, rfl⟩
  refine ⟨_, rfl, ?_⟩; refine Zq ?_; refine Zc ?_
  refine CC.growT 24 (by kernel_rfl) (by kernel_rfl) ?_
  refine Gf ?_
  refine Gl r34 ?_
  refine Gv r10 ?_
  refine GG.call (fun w' => (R.callV rfl rfl rfl e1)) rfl rfl (fun w' b' => (cN w').mono fun e W' h => ⟨h.1, b'.trans (h.2.mono b'.size)⟩) ?_
  refine Gv r10 ?_
  (refine GG.val (fun w' b' => R.redoT hs rfl rfl rfl) rfl rfl ?_)
  refine Gm ?_
  refine Gf ?_
  refine Gl r10 ?_
  refine Gf ?_
  refine Gf ?_
  refine Gl r4 ?_
  refine GG.call (fun w' => (R.call rfl rfl rfl)) rfl rfl (fun w' b' => (jwithin_T _ _ _ w' (by first | assumption | omega)).mono fun e W' h => ⟨h.1, h.2 ▸ b'⟩) ?_
  refine Gt ?_
  refine GG.val (fun w' b' => R.pick rfl rfl rfl) rfl rfl ?_
  refine Gm ?_
  refine Gf ?_
  refine Gl r34 ?_
  refine Gv r10 ?_
  refine Gv r4 ?_
  refine GG.val (fun w' b' => R.buildV rfl rfl (v := .agg #[Value.int IntKind.i64 k, Value.int IntKind.i64 n, Value.int IntKind.u64 ↑(a 0), Value.int IntKind.u64 ↑(a 1), Value.int IntKind.u64 ↑(a 2), Value.int IntKind.u64 ↑(a 3), Value.int IntKind.u64 ↑(a 4), Value.int IntKind.u64 ↑(a 5), Value.int IntKind.u64 ↑(a 6), Value.int IntKind.u64 ↑(a 7), Value.int IntKind.u64 ↑(a 8), Value.int IntKind.u64 ↑(a 9), Value.int IntKind.u64 ↑(a 10), Value.int IntKind.u64 ↑(a 11), Value.int IntKind.u64 ↑(a 12), Value.int IntKind.u64 ↑(a 13), Value.int IntKind.u64 ↑(a 14), Value.int IntKind.u64 ↑(a 15), Value.int IntKind.i64 f, Value.int IntKind.i64 t, Value.int IntKind.u64 ↑fk, Value.int IntKind.u64 ↑tk, Value.int IntKind.i64 r, Value.bool d, Value.int IntKind.i64 lb, Value.int IntKind.i64 li, Value.int IntKind.i64 lr, Value.int IntKind.i64 lt, Value.int IntKind.u64 ↑k1, Value.int IntKind.u64 ↑k2, Value.int IntKind.i64 la, Value.int IntKind.i64 lc, Value.int IntKind.i64 ld, Value.int IntKind.i64 le]) (fun _ => by kernel_rfl)) rfl rfl ?_
  refine GG.call (fun w' => (R.callV rfl rfl rfl e2)) rfl rfl (fun w' b' => (cM w' (q.trans (b'.mono q.size))).mono fun e W' h => ⟨h.1, b'.trans (h.2.mono b'.size)⟩) ?_
  refine Gt ?_
  refine GG.val (fun w' b' => R.pick rfl rfl rfl) rfl rfl ?_
  refine GG.nil (fun W48 b47 => ?_)
  have zb47 := b47.size; replace b19 := Zu b19 b47; replace r17 := r17.up b47; replace b14 := Zu b14 b47; replace r10 := r10.up b47; replace b7 := Zu b7 b47; replace r4 := r4.up b47; replace b1 := Zu b1 b47; replace q := Zu q b47; replace r34 := r34.up b47
  refine Zy (R.call rfl rfl rfl) (jrefuse_F _ _) ?_
  rintro e W' ⟨rfl, rfl⟩
  refine ⟨_, rfl, ?_⟩; refine Zq ?_; refine Zr ?_; refine Zv r34 ?_
  refine LL.storeN (vs := [.int .i64 m, jfnV f1, jfnV f2, jfnV f3, jfnV f4]) rfl rfl rfl rfl r17 (by exact Nat.le_of_ble_eq_true rfl) (ones_of rfl) rfl rfl ?_
  intro W50 r51 b49 z52
  have hlb49 := r17.lt
  replace r51 : RowL W50 _ 74 [.int .i64 m, jfnV f1, jfnV f2, jfnV f3, jfnV f4] := r51
  clear r17
  replace b14 := Zg b14 b49; replace r10 := Zd r10 b49; replace b7 := Zg b7 b49; replace r4 := Zd r4 b49; replace b1 := Zg b1 b49; replace q := Zg q b49; replace r34 := Zd r34 b49
  have r17 := r51
  clear r51
  refine Zq ?_; refine ZR ?_
  refine EE.retC rfl rfl (lvNc (RowL.cells0 (by assumption)) (by rfl) (by rfl)) ?_
  exact ⟨rfl, q⟩
  refine CC.freeZ (fun W_ j => j < W_.heap.size ∧ (True)) (by kernel_rfl) (by kernel_rfl) (fun W54 b53 z55 => ?_)
  replace r17 := r17.up b53; replace b14 := Zu b14 b53; replace r10 := r10.up b53; replace b7 := Zu b7 b53; replace r4 := r4.up b53; replace b1 := Zu b1 b53; replace q := Zu q b53
  have hok : Kept (fun j => j < W54.heap.size ∧ (True)) W54 W54 := Kept.refl _ _
  have fzr17 := fzRow (K := fun j => j < W54.heap.size ∧ (True)) r17 ⟨r17.lt, (by first | trivial | omega)⟩
  have fzr10 := fzRow (K := fun j => j < W54.heap.size ∧ (True)) r10 ⟨r10.lt, (by first | trivial | omega)⟩
  have fzr4 := fzRow (K := fun j => j < W54.heap.size ∧ (True)) r4 ⟨r4.lt, (by first | trivial | omega)⟩
  refine AA.pure 1 rfl hok (by kernel_rfl) (fun w' b' => R.field rfl rfl (I.fld rfl)) rfl rfl ?_
  refine AA.pure 2 rfl hok (by kernel_rfl) (fun w' b' => R.load rfl rfl (I.ld1 rfl (RowL.cell (fzr10 w' b') rfl))) rfl rfl ?_
  refine AA.two 0 7 (by kernel_rfl) ?_ ?_
  refine SR.call rfl (R.call rfl rfl rfl) rfl rfl (jkinds_any _) ?_
  rintro e W57 ⟨g59, k60, rfl, h58, b56⟩
  have zb56 := b56.size; replace b53 := Zu b53 b56; replace r17 := r17.up b56; replace b14 := Zu b14 b56; replace r10 := r10.up b56; replace b7 := Zu b7 b56; replace r4 := r4.up b56; replace b1 := Zu b1 b56; replace q := Zu q b56; replace hok := Zh hok b56; have y61 := hok.size
  refine ⟨_, rfl, hok, ?_⟩
  refine AA.two 3 7 (by kernel_rfl) ?_ ?_
  (refine SR.val rfl (R.lookKT rfl rfl jKeys (by rfl) (z := jkdZ) (by kernel_rfl) (by assumption) k rfl hkF) rfl rfl hok ?_)
  refine AA.pure 4 rfl hok (by kernel_rfl) (fun w' b' => R.move rfl rfl) rfl rfl ?_
  refine AA.pure 5 rfl hok (by kernel_rfl) (fun w' b' => R.extract rfl rfl rfl) rfl rfl ?_
  refine AA.pure 6 rfl hok (by kernel_rfl) (fun w' b' => R.extract rfl rfl rfl) rfl rfl ?_
  refine AA.one 7 (by kernel_rfl) ?_
  have l62 := r17.lt; have l63 := r10.lt; have l64 := r4.lt
  refine ZR.alloc ([.int .i64 0, Value.nilFunc, Value.nilFunc, Value.nilFunc, Value.nilFunc]) rfl rfl rfl rfl rfl rfl ?_
  intro W66 g67 eg67 r68 z69 b65
  replace h58 := h58.up b65; replace b56 := Zu b56 b65; replace b53 := Zu b53 b65; replace r17 := r17.up b65; replace b14 := Zu b14 b65; replace r10 := r10.up b65; replace b7 := Zu b7 b65; replace r4 := r4.up b65; replace b1 := Zu b1 b65; replace q := Zu q b65; replace hok := Zh hok b65; have y70 := hok.size
  refine ⟨hok, ?_⟩
  refine AA.one 8 (by kernel_rfl) ?_
  refine ZR.storeN (vs := [.int .i64 m, jfnV f1, jfnV f2, jfnV f3, jfnV f4]) rfl rfl rfl rfl rfl r68 (by exact Nat.le_of_ble_eq_true rfl) (ones_of rfl) rfl rfl ?_
  intro W72 r73 b71 z74
  have hlb71 := r68.lt
  replace r73 : RowL W72 _ 74 [.int .i64 m, jfnV f1, jfnV f2, jfnV f3, jfnV f4] := r73
  clear r68
  replace b65 := Zg b65 b71; replace b56 := Zg b56 b71; replace b53 := Zg b53 b71; replace r17 := Zd r17 b71; replace b14 := Zg b14 b71; replace r10 := Zd r10 b71; replace b7 := Zg b7 b71; replace r4 := Zd r4 b71; replace b1 := Zg b1 b71; replace q := Zg q b71; replace hok := Zo hok b71
  have r68 := r73
  clear r73
  refine ⟨hok, ?_⟩
  refine AA.pure 9 rfl hok (by kernel_rfl) (fun w' b' => R.assign rfl rfl) rfl rfl ?_
  refine AA.done rfl ?_
  clear fzr17 fzr10 fzr4 hok
  exact EE.weak (J43 _ _ ⟨_, rfl, (by first | assumption | omega), (by first | assumption | omega), (by first | assumption | omega), (by first | assumption | omega), (by first | assumption | omega), (by first | assumption | omega), (by first | assumption | omega), (by first | assumption | omega), (by first | assumption | omega), (by first | assumption | omega), (by first | assumption | omega)⟩) ⟨rfl, rfl, rfl, rfl, rfl, rfl, rfl, trivial⟩
  have l75 := r17.lt; have l76 := r10.lt; have l77 := r4.lt
  refine ZR.alloc ([.int .i64 0, Value.nilFunc, Value.nilFunc, Value.nilFunc, Value.nilFunc]) rfl rfl rfl rfl rfl rfl ?_
  intro W79 g80 eg80 r81 z82 b78
  replace h58 := h58.up b78; replace b56 := Zu b56 b78; replace b53 := Zu b53 b78; replace r17 := r17.up b78; replace b14 := Zu b14 b78; replace r10 := r10.up b78; replace b7 := Zu b7 b78; replace r4 := r4.up b78; replace b1 := Zu b1 b78; replace q := Zu q b78; replace hok := Zh hok b78; have y83 := hok.size
  refine ⟨hok, ?_⟩
  refine AA.one 3 (by kernel_rfl) ?_
  (refine SR.val rfl (R.lookKT rfl rfl jKeys (by rfl) (z := jkdZ) (by kernel_rfl) (by assumption) k rfl hkF) rfl rfl hok ?_)
  refine AA.pure 4 rfl hok (by kernel_rfl) (fun w' b' => R.move rfl rfl) rfl rfl ?_
  refine AA.pure 5 rfl hok (by kernel_rfl) (fun w' b' => R.extract rfl rfl rfl) rfl rfl ?_
  refine AA.pure 6 rfl hok (by kernel_rfl) (fun w' b' => R.extract rfl rfl rfl) rfl rfl ?_
  refine AA.one 8 (by kernel_rfl) ?_
  refine ZR.storeN (vs := [.int .i64 m, jfnV f1, jfnV f2, jfnV f3, jfnV f4]) rfl rfl rfl rfl rfl r81 (by exact Nat.le_of_ble_eq_true rfl) (ones_of rfl) rfl rfl ?_
  intro W85 r86 b84 z87
  have hlb84 := r81.lt
  replace r86 : RowL W85 _ 74 [.int .i64 m, jfnV f1, jfnV f2, jfnV f3, jfnV f4] := r86
  clear r81
  replace b78 := Zg b78 b84; replace b56 := Zg b56 b84; replace b53 := Zg b53 b84; replace r17 := Zd r17 b84; replace b14 := Zg b14 b84; replace r10 := Zd r10 b84; replace b7 := Zg b7 b84; replace r4 := Zd r4 b84; replace b1 := Zg b1 b84; replace q := Zg q b84; replace hok := Zo hok b84
  have r81 := r86
  clear r86
  refine ⟨hok, ?_⟩
  refine AA.pure 9 rfl hok (by kernel_rfl) (fun w' b' => R.assign rfl rfl) rfl rfl ?_
  refine AA.done rfl ?_
  clear fzr17 fzr10 fzr4 hok
  exact EE.weak (J43 _ _ ⟨_, rfl, (by first | assumption | omega), (by first | assumption | omega), (by first | assumption | omega), (by first | assumption | omega), (by first | assumption | omega), (by first | assumption | omega), (by first | assumption | omega), (by first | assumption | omega), (by first | assumption | omega), (by first | assumption | omega), (by first | assumption | omega)⟩) ⟨rfl, rfl, rfl, rfl, rfl, rfl, rfl, trivial⟩
  have l88 := r17.lt; have l89 := r10.lt; have l90 := r4.lt
  refine ZR.alloc ([.int .i64 0, Value.nilFunc, Value.nilFunc, Value.nilFunc, Value.nilFunc]) rfl rfl rfl rfl rfl rfl ?_
  intro W92 g93 eg93 r94 z95 b91
  replace b53 := Zu b53 b91; replace r17 := r17.up b91; replace b14 := Zu b14 b91; replace r10 := r10.up b91; replace b7 := Zu b7 b91; replace r4 := r4.up b91; replace b1 := Zu b1 b91; replace q := Zu q b91; replace hok := Zh hok b91; have y96 := hok.size
  refine ⟨hok, ?_⟩
  refine AA.one 0 (by kernel_rfl) ?_
  refine SR.call rfl (R.call rfl rfl rfl) rfl rfl (jkinds_any _) ?_
  rintro e W98 ⟨g100, k101, rfl, h99, b97⟩
  have zb97 := b97.size; replace r94 := r94.up b97; replace b91 := Zu b91 b97; replace b53 := Zu b53 b97; replace r17 := r17.up b97; replace b14 := Zu b14 b97; replace r10 := r10.up b97; replace b7 := Zu b7 b97; replace r4 := r4.up b97; replace b1 := Zu b1 b97; replace q := Zu q b97; replace hok := Zh hok b97; have y102 := hok.size
  refine ⟨_, rfl, hok, ?_⟩
  refine AA.one 3 (by kernel_rfl) ?_
  (refine SR.val rfl (R.lookKT rfl rfl jKeys (by rfl) (z := jkdZ) (by kernel_rfl) (by assumption) k rfl hkF) rfl rfl hok ?_)
  refine AA.pure 4 rfl hok (by kernel_rfl) (fun w' b' => R.move rfl rfl) rfl rfl ?_
  refine AA.pure 5 rfl hok (by kernel_rfl) (fun w' b' => R.extract rfl rfl rfl) rfl rfl ?_
  refine AA.pure 6 rfl hok (by kernel_rfl) (fun w' b' => R.extract rfl rfl rfl) rfl rfl ?_
  refine AA.one 8 (by kernel_rfl) ?_
  refine ZR.storeN (vs := [.int .i64 m, jfnV f1, jfnV f2, jfnV f3, jfnV f4]) rfl rfl rfl rfl rfl r94 (by exact Nat.le_of_ble_eq_true rfl) (ones_of rfl) rfl rfl ?_
  intro W104 r105 b103 z106
  have hlb103 := r94.lt
  replace r105 : RowL W104 _ 74 [.int .i64 m, jfnV f1, jfnV f2, jfnV f3, jfnV f4] := r105
  clear r94
  replace b91 := Zg b91 b103; replace b53 := Zg b53 b103; replace r17 := Zd r17 b103; replace b14 := Zg b14 b103; replace r10 := Zd r10 b103; replace b7 := Zg b7 b103; replace r4 := Zd r4 b103; replace b1 := Zg b1 b103; replace q := Zg q b103; replace hok := Zo hok b103
  have r94 := r105
  clear r105
  refine ⟨hok, ?_⟩
  refine AA.pure 9 rfl hok (by kernel_rfl) (fun w' b' => R.assign rfl rfl) rfl rfl ?_
  refine AA.done rfl ?_
  clear fzr17 fzr10 fzr4 hok
  exact EE.weak (J43 _ _ ⟨_, rfl, (by first | assumption | omega), (by first | assumption | omega), (by first | assumption | omega), (by first | assumption | omega), (by first | assumption | omega), (by first | assumption | omega), (by first | assumption | omega), (by first | assumption | omega), (by first | assumption | omega), (by first | assumption | omega), (by first | assumption | omega)⟩) ⟨rfl, rfl, rfl, rfl, rfl, rfl, rfl, trivial⟩
theorem jcheck_gM (k n : Int) (a : Nat → Nat) (f t : Int) (fk tk : Nat) (r : Int) (d : Bool) (lb li lr lt : Int) (k1 k2 : Nat) (la lc ld le : Int) (w : World) (m : Int) (f1 f2 f3 f4 : Nat) (hkF : jkindsF k = some (m, f1, f2, f3, f4)) (e1 : entB Tryz.prog f1 = true) (e2 : entB Tryz.prog f2 = true) (k' n' : Int) (a' : Nat → Nat) (f' t' : Int) (fk' tk' : Nat) (r' : Int) (d' : Bool) (cN : ∀ W, Calls Tryz.prog f1 #[redV k n a f t fk tk r d] W fun x w' => x = .returned (redV k' n' a' f' t' fk' tk' r' d') ∧ Below W.heap.size W w') (hs : sameR k' n' a' f' t' fk' tk' r' d' k n a f t fk tk r d) (hn : 1 ≤ n ∧ n ≤ li) (cM : ∀ W, Below w.heap.size w W → Calls Tryz.prog f2 #[unRV k n a f t fk tk r d lb li lr lt k1 k2 la lc ld le] W fun x w' => x = .returned (.bool false) ∧ Below W.heap.size W w') : Calls Tryz.prog 28 #[layV lb li lr lt k1 k2 la lc ld le, redV k n a f t fk tk r d] w fun x w' => x = .panicked (chain1 (jrefV 310)) ∧ Below w.heap.size w w' := by
  have q := Below.refl w.heap.size w
  refine X.fnP Tryz.func28 rfl (n := 43) rfl rfl ?_
  refine Zr ?_
  refine LL.box (jlyL lb li lr lt k1 k2 la lc ld le) rfl rfl rfl rfl rfl ?_
  intro W2 g3 eg3 r4 z5 b1
  replace q := Zu q b1; have l6 := r4.lt
  refine LL.box (redL k n a f t fk tk r d) rfl rfl rfl rfl rfl ?_
  intro W8 g9 eg9 r10 z11 b7
  replace r4 := r4.up b7; replace b1 := Zu b1 b7; replace q := Zu q b7; have l12 := r10.lt; have l13 := r4.lt
  refine LL.alloc ([.int .i64 0, Value.nilFunc, Value.nilFunc, Value.nilFunc, Value.nilFunc]) rfl rfl rfl rfl rfl ?_
  intro W15 g16 eg16 r17 z18 b14
  replace r10 := r10.up b14; replace b7 := Zu b7 b14; replace r4 := r4.up b14; replace b1 := Zu b1 b14; replace q := Zu q b14; refine Zq ?_; refine Zc ?_
  refine CC.join (fun l_ W38 => ∃ (g33 : Nat), l_ = [(0, Value.agg #[Value.int IntKind.i64 lb, Value.int IntKind.i64 li, Value.int IntKind.i64 lr, Value.int IntKind.i64 lt, Value.int IntKind.u64 ↑k1, Value.int IntKind.u64 ↑k2, Value.int IntKind.i64 la, Value.int IntKind.i64 lc, Value.int IntKind.i64 ld, Value.int IntKind.i64 le]), (1, Value.agg #[Value.int IntKind.i64 k, Value.int IntKind.i64 n, Value.int IntKind.u64 ↑(a 0), Value.int IntKind.u64 ↑(a 1), Value.int IntKind.u64 ↑(a 2), Value.int IntKind.u64 ↑(a 3), Value.int IntKind.u64 ↑(a 4), Value.int IntKind.u64 ↑(a 5), Value.int IntKind.u64 ↑(a 6), Value.int IntKind.u64 ↑(a 7), Value.int IntKind.u64 ↑(a 8), Value.int IntKind.u64 ↑(a 9), Value.int IntKind.u64 ↑(a 10), Value.int IntKind.u64 ↑(a 11), Value.int IntKind.u64 ↑(a 12), Value.int IntKind.u64 ↑(a 13), Value.int IntKind.u64 ↑(a 14), Value.int IntKind.u64 ↑(a 15), Value.int IntKind.i64 f, Value.int IntKind.i64 t, Value.int IntKind.u64 ↑fk, Value.int IntKind.u64 ↑tk, Value.int IntKind.i64 r, Value.bool d]), (2, Value.pointer (some { block := g3, off := 0 })), (3, Value.pointer (some { block := g9, off := 0 })), (4, Value.pointer (some { block := g16, off := 0 })), (5, Value.pointer (some { block := g33, off := 0 })), (6, Value.bool true)] ∧ (Below W15.heap.size W15 W38) ∧ (RowL W38 g16 74 [Value.int IntKind.i64 0, Value.nilFunc, Value.nilFunc, Value.nilFunc, Value.nilFunc]) ∧ (Below W8.heap.size W8 W38) ∧ (RowL W38 g9 28 [Value.int IntKind.i64 k, Value.int IntKind.i64 n, Value.int IntKind.u64 ↑(a 0), Value.int IntKind.u64 ↑(a 1), Value.int IntKind.u64 ↑(a 2), Value.int IntKind.u64 ↑(a 3), Value.int IntKind.u64 ↑(a 4), Value.int IntKind.u64 ↑(a 5), Value.int IntKind.u64 ↑(a 6), Value.int IntKind.u64 ↑(a 7), Value.int IntKind.u64 ↑(a 8), Value.int IntKind.u64 ↑(a 9), Value.int IntKind.u64 ↑(a 10), Value.int IntKind.u64 ↑(a 11), Value.int IntKind.u64 ↑(a 12), Value.int IntKind.u64 ↑(a 13), Value.int IntKind.u64 ↑(a 14), Value.int IntKind.u64 ↑(a 15), Value.int IntKind.i64 f, Value.int IntKind.i64 t, Value.int IntKind.u64 ↑fk, Value.int IntKind.u64 ↑tk, Value.int IntKind.i64 r, Value.bool d]) ∧ (Below W2.heap.size W2 W38) ∧ (RowL W38 g3 31 [Value.int IntKind.i64 lb, Value.int IntKind.i64 li, Value.int IntKind.i64 lr, Value.int IntKind.i64 lt, Value.int IntKind.u64 ↑k1, Value.int IntKind.u64 ↑k2, Value.int IntKind.i64 la, Value.int IntKind.i64 lc, Value.int IntKind.i64 ld, Value.int IntKind.i64 le]) ∧ (Below w.heap.size w W38) ∧ (Below w.heap.size w W38) ∧ (RowL W38 g33 74 [Value.int IntKind.i64 m, jfnV f1, jfnV f2, jfnV f3, jfnV f4]) ∧ (W15.heap.size ≤ W38.heap.size) ∧ (W15.heap.size ≤ g33)) (fun J43 => ?_) ?restJ43
  case' restJ43 =>
    clear r17
    clear b14
    clear r10
    clear b7
    clear r4
    clear b1
    clear q
    rintro _ W38 ⟨g33, rfl, b19, r17, b14, r10, b7, r4, b1, q, r34, z41, z42⟩
  refine ZT ?_; refine Zr ?_; refine Zm ?_; refine Zt ?_
  refine Zy (R.call rfl rfl rfl) (jrefuse_F _ _) ?_
  rintro e W' ⟨rfl, rfl⟩
  refine ⟨_, rfl, ?_⟩; refine Zq ?_; refine Zc ?_
  refine CC.growT 24 (by kernel_rfl) (by kernel_rfl) ?_
  refine Gf ?_
  refine Gl r34 ?_
  refine Gv r10 ?_
  refine GG.call (fun w' => (R.callV rfl rfl rfl e1)) rfl rfl (fun w' b' => (cN w').mono fun e W' h => ⟨h.1, b'.trans (h.2.mono b'.size)⟩) ?_
  refine Gv r10 ?_
  (refine GG.val (fun w' b' => R.redoT hs rfl rfl rfl) rfl rfl ?_)
  refine Gm ?_
  refine Gf ?_
  refine Gl r10 ?_
  refine Gf ?_
  refine Gf ?_
  refine Gl r4 ?_
  refine GG.call (fun w' => (R.call rfl rfl rfl)) rfl rfl (fun w' b' => (jwithin_T _ _ _ w' (by first | assumption | omega)).mono fun e W' h => ⟨h.1, h.2 ▸ b'⟩) ?_
  refine Gt ?_
  refine GG.val (fun w' b' => R.pick rfl rfl rfl) rfl rfl ?_
  refine Gm ?_
  refine Gf ?_
  refine Gl r34 ?_
  refine Gv r10 ?_
  refine Gv r4 ?_
  refine GG.val (fun w' b' => R.buildV rfl rfl (v := .agg #[Value.int IntKind.i64 k, Value.int IntKind.i64 n, Value.int IntKind.u64 ↑(a 0), Value.int IntKind.u64 ↑(a 1), Value.int IntKind.u64 ↑(a 2), Value.int IntKind.u64 ↑(a 3), Value.int IntKind.u64 ↑(a 4), Value.int IntKind.u64 ↑(a 5), Value.int IntKind.u64 ↑(a 6), Value.int IntKind.u64 ↑(a 7), Value.int IntKind.u64 ↑(a 8), Value.int IntKind.u64 ↑(a 9), Value.int IntKind.u64 ↑(a 10), Value.int IntKind.u64 ↑(a 11), Value.int IntKind.u64 ↑(a 12), Value.int IntKind.u64 ↑(a 13), Value.int IntKind.u64 ↑(a 14), Value.int IntKind.u64 ↑(a 15), Value.int IntKind.i64 f, Value.int IntKind.i64 t, Value.int IntKind.u64 ↑fk, Value.int IntKind.u64 ↑tk, Value.int IntKind.i64 r, Value.bool d, Value.int IntKind.i64 lb, Value.int IntKind.i64 li, Value.int IntKind.i64 lr, Value.int IntKind.i64 lt, Value.int IntKind.u64 ↑k1, Value.int IntKind.u64 ↑k2, Value.int IntKind.i64 la, Value.int IntKind.i64 lc, Value.int IntKind.i64 ld, Value.int IntKind.i64 le]) (fun _ => by kernel_rfl)) rfl rfl ?_
  refine GG.call (fun w' => (R.callV rfl rfl rfl e2)) rfl rfl (fun w' b' => (cM w' (q.trans (b'.mono q.size))).mono fun e W' h => ⟨h.1, b'.trans (h.2.mono b'.size)⟩) ?_
  refine Gt ?_
  refine GG.val (fun w' b' => R.pick rfl rfl rfl) rfl rfl ?_
  refine GG.nil (fun W48 b47 => ?_)
  have zb47 := b47.size; replace b19 := Zu b19 b47; replace r17 := r17.up b47; replace b14 := Zu b14 b47; replace r10 := r10.up b47; replace b7 := Zu b7 b47; replace r4 := r4.up b47; replace b1 := Zu b1 b47; replace q := Zu q b47; replace r34 := r34.up b47
  refine LL.callP (R.call rfl rfl rfl) rfl rfl (jrefuse_T _ _) ?_
  rintro e W50 ⟨rfl, rfl⟩
  refine ⟨_, rfl, ?_⟩; refine EE.thenP ?_; refine EE.panM ?_
  exact ⟨rfl, q⟩
  refine CC.freeZ (fun W_ j => j < W_.heap.size ∧ (True)) (by kernel_rfl) (by kernel_rfl) (fun W52 b51 z53 => ?_)
  replace r17 := r17.up b51; replace b14 := Zu b14 b51; replace r10 := r10.up b51; replace b7 := Zu b7 b51; replace r4 := r4.up b51; replace b1 := Zu b1 b51; replace q := Zu q b51
  have hok : Kept (fun j => j < W52.heap.size ∧ (True)) W52 W52 := Kept.refl _ _
  have fzr17 := fzRow (K := fun j => j < W52.heap.size ∧ (True)) r17 ⟨r17.lt, (by first | trivial | omega)⟩
  have fzr10 := fzRow (K := fun j => j < W52.heap.size ∧ (True)) r10 ⟨r10.lt, (by first | trivial | omega)⟩
  have fzr4 := fzRow (K := fun j => j < W52.heap.size ∧ (True)) r4 ⟨r4.lt, (by first | trivial | omega)⟩
  refine AA.pure 1 rfl hok (by kernel_rfl) (fun w' b' => R.field rfl rfl (I.fld rfl)) rfl rfl ?_
  refine AA.pure 2 rfl hok (by kernel_rfl) (fun w' b' => R.load rfl rfl (I.ld1 rfl (RowL.cell (fzr10 w' b') rfl))) rfl rfl ?_
  refine AA.two 0 7 (by kernel_rfl) ?_ ?_
  refine SR.call rfl (R.call rfl rfl rfl) rfl rfl (jkinds_any _) ?_
  rintro e W55 ⟨g57, k58, rfl, h56, b54⟩
  have zb54 := b54.size; replace b51 := Zu b51 b54; replace r17 := r17.up b54; replace b14 := Zu b14 b54; replace r10 := r10.up b54; replace b7 := Zu b7 b54; replace r4 := r4.up b54; replace b1 := Zu b1 b54; replace q := Zu q b54; replace hok := Zh hok b54; have y59 := hok.size
  refine ⟨_, rfl, hok, ?_⟩
  refine AA.two 3 7 (by kernel_rfl) ?_ ?_
  (refine SR.val rfl (R.lookKT rfl rfl jKeys (by rfl) (z := jkdZ) (by kernel_rfl) (by assumption) k rfl hkF) rfl rfl hok ?_)
  refine AA.pure 4 rfl hok (by kernel_rfl) (fun w' b' => R.move rfl rfl) rfl rfl ?_
  refine AA.pure 5 rfl hok (by kernel_rfl) (fun w' b' => R.extract rfl rfl rfl) rfl rfl ?_
  refine AA.pure 6 rfl hok (by kernel_rfl) (fun w' b' => R.extract rfl rfl rfl) rfl rfl ?_
  refine AA.one 7 (by kernel_rfl) ?_
  have l60 := r17.lt; have l61 := r10.lt; have l62 := r4.lt
  refine ZR.alloc ([.int .i64 0, Value.nilFunc, Value.nilFunc, Value.nilFunc, Value.nilFunc]) rfl rfl rfl rfl rfl rfl ?_
  intro W64 g65 eg65 r66 z67 b63
  replace h56 := h56.up b63; replace b54 := Zu b54 b63; replace b51 := Zu b51 b63; replace r17 := r17.up b63; replace b14 := Zu b14 b63; replace r10 := r10.up b63; replace b7 := Zu b7 b63; replace r4 := r4.up b63; replace b1 := Zu b1 b63; replace q := Zu q b63; replace hok := Zh hok b63; have y68 := hok.size
  refine ⟨hok, ?_⟩
  refine AA.one 8 (by kernel_rfl) ?_
  refine ZR.storeN (vs := [.int .i64 m, jfnV f1, jfnV f2, jfnV f3, jfnV f4]) rfl rfl rfl rfl rfl r66 (by exact Nat.le_of_ble_eq_true rfl) (ones_of rfl) rfl rfl ?_
  intro W70 r71 b69 z72
  have hlb69 := r66.lt
  replace r71 : RowL W70 _ 74 [.int .i64 m, jfnV f1, jfnV f2, jfnV f3, jfnV f4] := r71
  clear r66
  replace b63 := Zg b63 b69; replace b54 := Zg b54 b69; replace b51 := Zg b51 b69; replace r17 := Zd r17 b69; replace b14 := Zg b14 b69; replace r10 := Zd r10 b69; replace b7 := Zg b7 b69; replace r4 := Zd r4 b69; replace b1 := Zg b1 b69; replace q := Zg q b69; replace hok := Zo hok b69
  have r66 := r71
  clear r71
  refine ⟨hok, ?_⟩
  refine AA.pure 9 rfl hok (by kernel_rfl) (fun w' b' => R.assign rfl rfl) rfl rfl ?_
  refine AA.done rfl ?_
  clear fzr17 fzr10 fzr4 hok
  exact EE.weak (J43 _ _ ⟨_, rfl, (by first | assumption | omega), (by first | assumption | omega), (by first | assumption | omega), (by first | assumption | omega), (by first | assumption | omega), (by first | assumption | omega), (by first | assumption | omega), (by first | assumption | omega), (by first | assumption | omega), (by first | assumption | omega), (by first | assumption | omega)⟩) ⟨rfl, rfl, rfl, rfl, rfl, rfl, rfl, trivial⟩
  have l73 := r17.lt; have l74 := r10.lt; have l75 := r4.lt
  refine ZR.alloc ([.int .i64 0, Value.nilFunc, Value.nilFunc, Value.nilFunc, Value.nilFunc]) rfl rfl rfl rfl rfl rfl ?_
  intro W77 g78 eg78 r79 z80 b76
  replace h56 := h56.up b76; replace b54 := Zu b54 b76; replace b51 := Zu b51 b76; replace r17 := r17.up b76; replace b14 := Zu b14 b76; replace r10 := r10.up b76; replace b7 := Zu b7 b76; replace r4 := r4.up b76; replace b1 := Zu b1 b76; replace q := Zu q b76; replace hok := Zh hok b76; have y81 := hok.size
  refine ⟨hok, ?_⟩
  refine AA.one 3 (by kernel_rfl) ?_
  (refine SR.val rfl (R.lookKT rfl rfl jKeys (by rfl) (z := jkdZ) (by kernel_rfl) (by assumption) k rfl hkF) rfl rfl hok ?_)
  refine AA.pure 4 rfl hok (by kernel_rfl) (fun w' b' => R.move rfl rfl) rfl rfl ?_
  refine AA.pure 5 rfl hok (by kernel_rfl) (fun w' b' => R.extract rfl rfl rfl) rfl rfl ?_
  refine AA.pure 6 rfl hok (by kernel_rfl) (fun w' b' => R.extract rfl rfl rfl) rfl rfl ?_
  refine AA.one 8 (by kernel_rfl) ?_
  refine ZR.storeN (vs := [.int .i64 m, jfnV f1, jfnV f2, jfnV f3, jfnV f4]) rfl rfl rfl rfl rfl r79 (by exact Nat.le_of_ble_eq_true rfl) (ones_of rfl) rfl rfl ?_
  intro W83 r84 b82 z85
  have hlb82 := r79.lt
  replace r84 : RowL W83 _ 74 [.int .i64 m, jfnV f1, jfnV f2, jfnV f3, jfnV f4] := r84
  clear r79
  replace b76 := Zg b76 b82; replace b54 := Zg b54 b82; replace b51 := Zg b51 b82; replace r17 := Zd r17 b82; replace b14 := Zg b14 b82; replace r10 := Zd r10 b82; replace b7 := Zg b7 b82; replace r4 := Zd r4 b82; replace b1 := Zg b1 b82; replace q := Zg q b82; replace hok := Zo hok b82
  have r79 := r84
  clear r84
  refine ⟨hok, ?_⟩
  refine AA.pure 9 rfl hok (by kernel_rfl) (fun w' b' => R.assign rfl rfl) rfl rfl ?_
  refine AA.done rfl ?_
  clear fzr17 fzr10 fzr4 hok
  exact EE.weak (J43 _ _ ⟨_, rfl, (by first | assumption | omega), (by first | assumption | omega), (by first | assumption | omega), (by first | assumption | omega), (by first | assumption | omega), (by first | assumption | omega), (by first | assumption | omega), (by first | assumption | omega), (by first | assumption | omega), (by first | assumption | omega), (by first | assumption | omega)⟩) ⟨rfl, rfl, rfl, rfl, rfl, rfl, rfl, trivial⟩
  have l86 := r17.lt; have l87 := r10.lt; have l88 := r4.lt
  refine ZR.alloc ([.int .i64 0, Value.nilFunc, Value.nilFunc, Value.nilFunc, Value.nilFunc]) rfl rfl rfl rfl rfl rfl ?_
  intro W90 g91 eg91 r92 z93 b89
  replace b51 := Zu b51 b89; replace r17 := r17.up b89; replace b14 := Zu b14 b89; replace r10 := r10.up b89; replace b7 := Zu b7 b89; replace r4 := r4.up b89; replace b1 := Zu b1 b89; replace q := Zu q b89; replace hok := Zh hok b89; have y94 := hok.size
  refine ⟨hok, ?_⟩
  refine AA.one 0 (by kernel_rfl) ?_
  refine SR.call rfl (R.call rfl rfl rfl) rfl rfl (jkinds_any _) ?_
  rintro e W96 ⟨g98, k99, rfl, h97, b95⟩
  have zb95 := b95.size; replace r92 := r92.up b95; replace b89 := Zu b89 b95; replace b51 := Zu b51 b95; replace r17 := r17.up b95; replace b14 := Zu b14 b95; replace r10 := r10.up b95; replace b7 := Zu b7 b95; replace r4 := r4.up b95; replace b1 := Zu b1 b95; replace q := Zu q b95; replace hok := Zh hok b95; have y100 := hok.size
  refine ⟨_, rfl, hok, ?_⟩
  refine AA.one 3 (by kernel_rfl) ?_
  (refine SR.val rfl (R.lookKT rfl rfl jKeys (by rfl) (z := jkdZ) (by kernel_rfl) (by assumption) k rfl hkF) rfl rfl hok ?_)
  refine AA.pure 4 rfl hok (by kernel_rfl) (fun w' b' => R.move rfl rfl) rfl rfl ?_
  refine AA.pure 5 rfl hok (by kernel_rfl) (fun w' b' => R.extract rfl rfl rfl) rfl rfl ?_
  refine AA.pure 6 rfl hok (by kernel_rfl) (fun w' b' => R.extract rfl rfl rfl) rfl rfl ?_
  refine AA.one 8 (by kernel_rfl) ?_
  refine ZR.storeN (vs := [.int .i64 m, jfnV f1, jfnV f2, jfnV f3, jfnV f4]) rfl rfl rfl rfl rfl r92 (by exact Nat.le_of_ble_eq_true rfl) (ones_of rfl) rfl rfl ?_
  intro W102 r103 b101 z104
  have hlb101 := r92.lt
  replace r103 : RowL W102 _ 74 [.int .i64 m, jfnV f1, jfnV f2, jfnV f3, jfnV f4] := r103
  clear r92
  replace b89 := Zg b89 b101; replace b51 := Zg b51 b101; replace r17 := Zd r17 b101; replace b14 := Zg b14 b101; replace r10 := Zd r10 b101; replace b7 := Zg b7 b101; replace r4 := Zd r4 b101; replace b1 := Zg b1 b101; replace q := Zg q b101; replace hok := Zo hok b101
  have r92 := r103
  clear r103
  refine ⟨hok, ?_⟩
  refine AA.pure 9 rfl hok (by kernel_rfl) (fun w' b' => R.assign rfl rfl) rfl rfl ?_
  refine AA.done rfl ?_
  clear fzr17 fzr10 fzr4 hok
  exact EE.weak (J43 _ _ ⟨_, rfl, (by first | assumption | omega), (by first | assumption | omega), (by first | assumption | omega), (by first | assumption | omega), (by first | assumption | omega), (by first | assumption | omega), (by first | assumption | omega), (by first | assumption | omega), (by first | assumption | omega), (by first | assumption | omega), (by first | assumption | omega)⟩) ⟨rfl, rfl, rfl, rfl, rfl, rfl, rfl, trivial⟩
theorem jcheck_gI (k n : Int) (a : Nat → Nat) (f t : Int) (fk tk : Nat) (r : Int) (d : Bool) (lb li lr lt : Int) (k1 k2 : Nat) (la lc ld le : Int) (w : World) (m : Int) (f1 f2 f3 f4 : Nat) (hkF : jkindsF k = some (m, f1, f2, f3, f4)) (e1 : entB Tryz.prog f1 = true) (e2 : entB Tryz.prog f2 = true) (k' n' : Int) (a' : Nat → Nat) (f' t' : Int) (fk' tk' : Nat) (r' : Int) (d' : Bool) (cN : ∀ W, Calls Tryz.prog f1 #[redV k n a f t fk tk r d] W fun x w' => x = .returned (redV k' n' a' f' t' fk' tk' r' d') ∧ Below W.heap.size W w') (hs : sameR k' n' a' f' t' fk' tk' r' d' k n a f t fk tk r d) (hn : n < 1 ∨ li < n) : Calls Tryz.prog 28 #[layV lb li lr lt k1 k2 la lc ld le, redV k n a f t fk tk r d] w fun x w' => x = .panicked (chain1 (jrefV 310)) ∧ Below w.heap.size w w' := by
  have q := Below.refl w.heap.size w
  refine X.fnP Tryz.func28 rfl (n := 43) rfl rfl ?_
  refine Zr ?_
  refine LL.box (jlyL lb li lr lt k1 k2 la lc ld le) rfl rfl rfl rfl rfl ?_
  intro W2 g3 eg3 r4 z5 b1
  replace q := Zu q b1; have l6 := r4.lt
  refine LL.box (redL k n a f t fk tk r d) rfl rfl rfl rfl rfl ?_
  intro W8 g9 eg9 r10 z11 b7
  replace r4 := r4.up b7; replace b1 := Zu b1 b7; replace q := Zu q b7; have l12 := r10.lt; have l13 := r4.lt
  refine LL.alloc ([.int .i64 0, Value.nilFunc, Value.nilFunc, Value.nilFunc, Value.nilFunc]) rfl rfl rfl rfl rfl ?_
  intro W15 g16 eg16 r17 z18 b14
  replace r10 := r10.up b14; replace b7 := Zu b7 b14; replace r4 := r4.up b14; replace b1 := Zu b1 b14; replace q := Zu q b14; refine Zq ?_; refine Zc ?_
  refine CC.join (fun l_ W38 => ∃ (g33 : Nat), l_ = [(0, Value.agg #[Value.int IntKind.i64 lb, Value.int IntKind.i64 li, Value.int IntKind.i64 lr, Value.int IntKind.i64 lt, Value.int IntKind.u64 ↑k1, Value.int IntKind.u64 ↑k2, Value.int IntKind.i64 la, Value.int IntKind.i64 lc, Value.int IntKind.i64 ld, Value.int IntKind.i64 le]), (1, Value.agg #[Value.int IntKind.i64 k, Value.int IntKind.i64 n, Value.int IntKind.u64 ↑(a 0), Value.int IntKind.u64 ↑(a 1), Value.int IntKind.u64 ↑(a 2), Value.int IntKind.u64 ↑(a 3), Value.int IntKind.u64 ↑(a 4), Value.int IntKind.u64 ↑(a 5), Value.int IntKind.u64 ↑(a 6), Value.int IntKind.u64 ↑(a 7), Value.int IntKind.u64 ↑(a 8), Value.int IntKind.u64 ↑(a 9), Value.int IntKind.u64 ↑(a 10), Value.int IntKind.u64 ↑(a 11), Value.int IntKind.u64 ↑(a 12), Value.int IntKind.u64 ↑(a 13), Value.int IntKind.u64 ↑(a 14), Value.int IntKind.u64 ↑(a 15), Value.int IntKind.i64 f, Value.int IntKind.i64 t, Value.int IntKind.u64 ↑fk, Value.int IntKind.u64 ↑tk, Value.int IntKind.i64 r, Value.bool d]), (2, Value.pointer (some { block := g3, off := 0 })), (3, Value.pointer (some { block := g9, off := 0 })), (4, Value.pointer (some { block := g16, off := 0 })), (5, Value.pointer (some { block := g33, off := 0 })), (6, Value.bool true)] ∧ (Below W15.heap.size W15 W38) ∧ (RowL W38 g16 74 [Value.int IntKind.i64 0, Value.nilFunc, Value.nilFunc, Value.nilFunc, Value.nilFunc]) ∧ (Below W8.heap.size W8 W38) ∧ (RowL W38 g9 28 [Value.int IntKind.i64 k, Value.int IntKind.i64 n, Value.int IntKind.u64 ↑(a 0), Value.int IntKind.u64 ↑(a 1), Value.int IntKind.u64 ↑(a 2), Value.int IntKind.u64 ↑(a 3), Value.int IntKind.u64 ↑(a 4), Value.int IntKind.u64 ↑(a 5), Value.int IntKind.u64 ↑(a 6), Value.int IntKind.u64 ↑(a 7), Value.int IntKind.u64 ↑(a 8), Value.int IntKind.u64 ↑(a 9), Value.int IntKind.u64 ↑(a 10), Value.int IntKind.u64 ↑(a 11), Value.int IntKind.u64 ↑(a 12), Value.int IntKind.u64 ↑(a 13), Value.int IntKind.u64 ↑(a 14), Value.int IntKind.u64 ↑(a 15), Value.int IntKind.i64 f, Value.int IntKind.i64 t, Value.int IntKind.u64 ↑fk, Value.int IntKind.u64 ↑tk, Value.int IntKind.i64 r, Value.bool d]) ∧ (Below W2.heap.size W2 W38) ∧ (RowL W38 g3 31 [Value.int IntKind.i64 lb, Value.int IntKind.i64 li, Value.int IntKind.i64 lr, Value.int IntKind.i64 lt, Value.int IntKind.u64 ↑k1, Value.int IntKind.u64 ↑k2, Value.int IntKind.i64 la, Value.int IntKind.i64 lc, Value.int IntKind.i64 ld, Value.int IntKind.i64 le]) ∧ (Below w.heap.size w W38) ∧ (Below w.heap.size w W38) ∧ (RowL W38 g33 74 [Value.int IntKind.i64 m, jfnV f1, jfnV f2, jfnV f3, jfnV f4]) ∧ (W15.heap.size ≤ W38.heap.size) ∧ (W15.heap.size ≤ g33)) (fun J43 => ?_) ?restJ43
  case' restJ43 =>
    clear r17
    clear b14
    clear r10
    clear b7
    clear r4
    clear b1
    clear q
    rintro _ W38 ⟨g33, rfl, b19, r17, b14, r10, b7, r4, b1, q, r34, z41, z42⟩
  refine ZT ?_; refine Zr ?_; refine Zm ?_; refine Zt ?_
  refine Zy (R.call rfl rfl rfl) (jrefuse_F _ _) ?_
  rintro e W' ⟨rfl, rfl⟩
  refine ⟨_, rfl, ?_⟩; refine Zq ?_; refine Zc ?_
  refine CC.growT 24 (by kernel_rfl) (by kernel_rfl) ?_
  refine Gf ?_
  refine Gl r34 ?_
  refine Gv r10 ?_
  refine GG.call (fun w' => (R.callV rfl rfl rfl e1)) rfl rfl (fun w' b' => (cN w').mono fun e W' h => ⟨h.1, b'.trans (h.2.mono b'.size)⟩) ?_
  refine Gv r10 ?_
  (refine GG.val (fun w' b' => R.redoT hs rfl rfl rfl) rfl rfl ?_)
  refine Gm ?_
  refine Gf ?_
  refine Gl r10 ?_
  refine Gf ?_
  refine Gf ?_
  refine Gl r4 ?_
  refine GG.call (fun w' => (R.call rfl rfl rfl)) rfl rfl (fun w' b' => (jwithin_F _ _ _ w' (by first | assumption | omega)).mono fun e W' h => ⟨h.1, h.2 ▸ b'⟩) ?_
  refine Gt ?_
  refine GG.val (fun w' b' => R.pick rfl rfl rfl) rfl rfl ?_
  refine Gm ?_
  refine GG.skip rfl rfl ?_
  refine GG.skip rfl rfl ?_
  refine GG.skip rfl rfl ?_
  refine GG.skip rfl rfl ?_
  refine GG.skip rfl rfl ?_
  refine GG.skip rfl rfl ?_
  refine GG.skip rfl rfl ?_
  refine GG.val (fun w' b' => R.pick rfl rfl rfl) rfl rfl ?_
  refine GG.nil (fun W48 b47 => ?_)
  have zb47 := b47.size; replace b19 := Zu b19 b47; replace r17 := r17.up b47; replace b14 := Zu b14 b47; replace r10 := r10.up b47; replace b7 := Zu b7 b47; replace r4 := r4.up b47; replace b1 := Zu b1 b47; replace q := Zu q b47; replace r34 := r34.up b47
  refine LL.callP (R.call rfl rfl rfl) rfl rfl (jrefuse_T _ _) ?_
  rintro e W50 ⟨rfl, rfl⟩
  refine ⟨_, rfl, ?_⟩; refine EE.thenP ?_; refine EE.panM ?_
  exact ⟨rfl, q⟩
  refine CC.freeZ (fun W_ j => j < W_.heap.size ∧ (True)) (by kernel_rfl) (by kernel_rfl) (fun W52 b51 z53 => ?_)
  replace r17 := r17.up b51; replace b14 := Zu b14 b51; replace r10 := r10.up b51; replace b7 := Zu b7 b51; replace r4 := r4.up b51; replace b1 := Zu b1 b51; replace q := Zu q b51
  have hok : Kept (fun j => j < W52.heap.size ∧ (True)) W52 W52 := Kept.refl _ _
  have fzr17 := fzRow (K := fun j => j < W52.heap.size ∧ (True)) r17 ⟨r17.lt, (by first | trivial | omega)⟩
  have fzr10 := fzRow (K := fun j => j < W52.heap.size ∧ (True)) r10 ⟨r10.lt, (by first | trivial | omega)⟩
  have fzr4 := fzRow (K := fun j => j < W52.heap.size ∧ (True)) r4 ⟨r4.lt, (by first | trivial | omega)⟩
  refine AA.pure 1 rfl hok (by kernel_rfl) (fun w' b' => R.field rfl rfl (I.fld rfl)) rfl rfl ?_
  refine AA.pure 2 rfl hok (by kernel_rfl) (fun w' b' => R.load rfl rfl (I.ld1 rfl (RowL.cell (fzr10 w' b') rfl))) rfl rfl ?_
  refine AA.two 0 7 (by kernel_rfl) ?_ ?_
  refine SR.call rfl (R.call rfl rfl rfl) rfl rfl (jkinds_any _) ?_
  rintro e W55 ⟨g57, k58, rfl, h56, b54⟩
  have zb54 := b54.size; replace b51 := Zu b51 b54; replace r17 := r17.up b54; replace b14 := Zu b14 b54; replace r10 := r10.up b54; replace b7 := Zu b7 b54; replace r4 := r4.up b54; replace b1 := Zu b1 b54; replace q := Zu q b54; replace hok := Zh hok b54; have y59 := hok.size
  refine ⟨_, rfl, hok, ?_⟩
  refine AA.two 3 7 (by kernel_rfl) ?_ ?_
  (refine SR.val rfl (R.lookKT rfl rfl jKeys (by rfl) (z := jkdZ) (by kernel_rfl) (by assumption) k rfl hkF) rfl rfl hok ?_)
  refine AA.pure 4 rfl hok (by kernel_rfl) (fun w' b' => R.move rfl rfl) rfl rfl ?_
  refine AA.pure 5 rfl hok (by kernel_rfl) (fun w' b' => R.extract rfl rfl rfl) rfl rfl ?_
  refine AA.pure 6 rfl hok (by kernel_rfl) (fun w' b' => R.extract rfl rfl rfl) rfl rfl ?_
  refine AA.one 7 (by kernel_rfl) ?_
  have l60 := r17.lt; have l61 := r10.lt; have l62 := r4.lt
  refine ZR.alloc ([.int .i64 0, Value.nilFunc, Value.nilFunc, Value.nilFunc, Value.nilFunc]) rfl rfl rfl rfl rfl rfl ?_
  intro W64 g65 eg65 r66 z67 b63
  replace h56 := h56.up b63; replace b54 := Zu b54 b63; replace b51 := Zu b51 b63; replace r17 := r17.up b63; replace b14 := Zu b14 b63; replace r10 := r10.up b63; replace b7 := Zu b7 b63; replace r4 := r4.up b63; replace b1 := Zu b1 b63; replace q := Zu q b63; replace hok := Zh hok b63; have y68 := hok.size
  refine ⟨hok, ?_⟩
  refine AA.one 8 (by kernel_rfl) ?_
  refine ZR.storeN (vs := [.int .i64 m, jfnV f1, jfnV f2, jfnV f3, jfnV f4]) rfl rfl rfl rfl rfl r66 (by exact Nat.le_of_ble_eq_true rfl) (ones_of rfl) rfl rfl ?_
  intro W70 r71 b69 z72
  have hlb69 := r66.lt
  replace r71 : RowL W70 _ 74 [.int .i64 m, jfnV f1, jfnV f2, jfnV f3, jfnV f4] := r71
  clear r66
  replace b63 := Zg b63 b69; replace b54 := Zg b54 b69; replace b51 := Zg b51 b69; replace r17 := Zd r17 b69; replace b14 := Zg b14 b69; replace r10 := Zd r10 b69; replace b7 := Zg b7 b69; replace r4 := Zd r4 b69; replace b1 := Zg b1 b69; replace q := Zg q b69; replace hok := Zo hok b69
  have r66 := r71
  clear r71
  refine ⟨hok, ?_⟩
  refine AA.pure 9 rfl hok (by kernel_rfl) (fun w' b' => R.assign rfl rfl) rfl rfl ?_
  refine AA.done rfl ?_
  clear fzr17 fzr10 fzr4 hok
  exact EE.weak (J43 _ _ ⟨_, rfl, (by first | assumption | omega), (by first | assumption | omega), (by first | assumption | omega), (by first | assumption | omega), (by first | assumption | omega), (by first | assumption | omega), (by first | assumption | omega), (by first | assumption | omega), (by first | assumption | omega), (by first | assumption | omega), (by first | assumption | omega)⟩) ⟨rfl, rfl, rfl, rfl, rfl, rfl, rfl, trivial⟩
  have l73 := r17.lt; have l74 := r10.lt; have l75 := r4.lt
  refine ZR.alloc ([.int .i64 0, Value.nilFunc, Value.nilFunc, Value.nilFunc, Value.nilFunc]) rfl rfl rfl rfl rfl rfl ?_
  intro W77 g78 eg78 r79 z80 b76
  replace h56 := h56.up b76; replace b54 := Zu b54 b76; replace b51 := Zu b51 b76; replace r17 := r17.up b76; replace b14 := Zu b14 b76; replace r10 := r10.up b76; replace b7 := Zu b7 b76; replace r4 := r4.up b76; replace b1 := Zu b1 b76; replace q := Zu q b76; replace hok := Zh hok b76; have y81 := hok.size
  refine ⟨hok, ?_⟩
  refine AA.one 3 (by kernel_rfl) ?_
  (refine SR.val rfl (R.lookKT rfl rfl jKeys (by rfl) (z := jkdZ) (by kernel_rfl) (by assumption) k rfl hkF) rfl rfl hok ?_)
  refine AA.pure 4 rfl hok (by kernel_rfl) (fun w' b' => R.move rfl rfl) rfl rfl ?_
  refine AA.pure 5 rfl hok (by kernel_rfl) (fun w' b' => R.extract rfl rfl rfl) rfl rfl ?_
  refine AA.pure 6 rfl hok (by kernel_rfl) (fun w' b' => R.extract rfl rfl rfl) rfl rfl ?_
  refine AA.one 8 (by kernel_rfl) ?_
  refine ZR.storeN (vs := [.int .i64 m, jfnV f1, jfnV f2, jfnV f3, jfnV f4]) rfl rfl rfl rfl rfl r79 (by exact Nat.le_of_ble_eq_true rfl) (ones_of rfl) rfl rfl ?_
  intro W83 r84 b82 z85
  have hlb82 := r79.lt
  replace r84 : RowL W83 _ 74 [.int .i64 m, jfnV f1, jfnV f2, jfnV f3, jfnV f4] := r84
  clear r79
  replace b76 := Zg b76 b82; replace b54 := Zg b54 b82; replace b51 := Zg b51 b82; replace r17 := Zd r17 b82; replace b14 := Zg b14 b82; replace r10 := Zd r10 b82; replace b7 := Zg b7 b82; replace r4 := Zd r4 b82; replace b1 := Zg b1 b82; replace q := Zg q b82; replace hok := Zo hok b82
  have r79 := r84
  clear r84
  refine ⟨hok, ?_⟩
  refine AA.pure 9 rfl hok (by kernel_rfl) (fun w' b' => R.assign rfl rfl) rfl rfl ?_
  refine AA.done rfl ?_
  clear fzr17 fzr10 fzr4 hok
  exact EE.weak (J43 _ _ ⟨_, rfl, (by first | assumption | omega), (by first | assumption | omega), (by first | assumption | omega), (by first | assumption | omega), (by first | assumption | omega), (by first | assumption | omega), (by first | assumption | omega), (by first | assumption | omega), (by first | assumption | omega), (by first | assumption | omega), (by first | assumption | omega)⟩) ⟨rfl, rfl, rfl, rfl, rfl, rfl, rfl, trivial⟩
  have l86 := r17.lt; have l87 := r10.lt; have l88 := r4.lt
  refine ZR.alloc ([.int .i64 0, Value.nilFunc, Value.nilFunc, Value.nilFunc, Value.nilFunc]) rfl rfl rfl rfl rfl rfl ?_
  intro W90 g91 eg91 r92 z93 b89
  replace b51 := Zu b51 b89; replace r17 := r17.up b89; replace b14 := Zu b14 b89; replace r10 := r10.up b89; replace b7 := Zu b7 b89; replace r4 := r4.up b89; replace b1 := Zu b1 b89; replace q := Zu q b89; replace hok := Zh hok b89; have y94 := hok.size
  refine ⟨hok, ?_⟩
  refine AA.one 0 (by kernel_rfl) ?_
  refine SR.call rfl (R.call rfl rfl rfl) rfl rfl (jkinds_any _) ?_
  rintro e W96 ⟨g98, k99, rfl, h97, b95⟩
  have zb95 := b95.size; replace r92 := r92.up b95; replace b89 := Zu b89 b95; replace b51 := Zu b51 b95; replace r17 := r17.up b95; replace b14 := Zu b14 b95; replace r10 := r10.up b95; replace b7 := Zu b7 b95; replace r4 := r4.up b95; replace b1 := Zu b1 b95; replace q := Zu q b95; replace hok := Zh hok b95; have y100 := hok.size
  refine ⟨_, rfl, hok, ?_⟩
  refine AA.one 3 (by kernel_rfl) ?_
  (refine SR.val rfl (R.lookKT rfl rfl jKeys (by rfl) (z := jkdZ) (by kernel_rfl) (by assumption) k rfl hkF) rfl rfl hok ?_)
  refine AA.pure 4 rfl hok (by kernel_rfl) (fun w' b' => R.move rfl rfl) rfl rfl ?_
  refine AA.pure 5 rfl hok (by kernel_rfl) (fun w' b' => R.extract rfl rfl rfl) rfl rfl ?_
  refine AA.pure 6 rfl hok (by kernel_rfl) (fun w' b' => R.extract rfl rfl rfl) rfl rfl ?_
  refine AA.one 8 (by kernel_rfl) ?_
  refine ZR.storeN (vs := [.int .i64 m, jfnV f1, jfnV f2, jfnV f3, jfnV f4]) rfl rfl rfl rfl rfl r92 (by exact Nat.le_of_ble_eq_true rfl) (ones_of rfl) rfl rfl ?_
  intro W102 r103 b101 z104
  have hlb101 := r92.lt
  replace r103 : RowL W102 _ 74 [.int .i64 m, jfnV f1, jfnV f2, jfnV f3, jfnV f4] := r103
  clear r92
  replace b89 := Zg b89 b101; replace b51 := Zg b51 b101; replace r17 := Zd r17 b101; replace b14 := Zg b14 b101; replace r10 := Zd r10 b101; replace b7 := Zg b7 b101; replace r4 := Zd r4 b101; replace b1 := Zg b1 b101; replace q := Zg q b101; replace hok := Zo hok b101
  have r92 := r103
  clear r103
  refine ⟨hok, ?_⟩
  refine AA.pure 9 rfl hok (by kernel_rfl) (fun w' b' => R.assign rfl rfl) rfl rfl ?_
  refine AA.done rfl ?_
  clear fzr17 fzr10 fzr4 hok
  exact EE.weak (J43 _ _ ⟨_, rfl, (by first | assumption | omega), (by first | assumption | omega), (by first | assumption | omega), (by first | assumption | omega), (by first | assumption | omega), (by first | assumption | omega), (by first | assumption | omega), (by first | assumption | omega), (by first | assumption | omega), (by first | assumption | omega), (by first | assumption | omega)⟩) ⟨rfl, rfl, rfl, rfl, rfl, rfl, rfl, trivial⟩
theorem jcheck_gN (k n : Int) (a : Nat → Nat) (f t : Int) (fk tk : Nat) (r : Int) (d : Bool) (lb li lr lt : Int) (k1 k2 : Nat) (la lc ld le : Int) (w : World) (m : Int) (f1 f2 f3 f4 : Nat) (hkF : jkindsF k = some (m, f1, f2, f3, f4)) (e1 : entB Tryz.prog f1 = true) (e2 : entB Tryz.prog f2 = true) (k' n' : Int) (a' : Nat → Nat) (f' t' : Int) (fk' tk' : Nat) (r' : Int) (d' : Bool) (cN : ∀ W, Calls Tryz.prog f1 #[redV k n a f t fk tk r d] W fun x w' => x = .returned (redV k' n' a' f' t' fk' tk' r' d') ∧ Below W.heap.size W w') (hs : ¬sameR k' n' a' f' t' fk' tk' r' d' k n a f t fk tk r d) : Calls Tryz.prog 28 #[layV lb li lr lt k1 k2 la lc ld le, redV k n a f t fk tk r d] w fun x w' => x = .panicked (chain1 (jrefV 310)) ∧ Below w.heap.size w w' := by
  have q := Below.refl w.heap.size w
  refine X.fnP Tryz.func28 rfl (n := 43) rfl rfl ?_
  refine Zr ?_
  refine LL.box (jlyL lb li lr lt k1 k2 la lc ld le) rfl rfl rfl rfl rfl ?_
  intro W2 g3 eg3 r4 z5 b1
  replace q := Zu q b1; have l6 := r4.lt
  refine LL.box (redL k n a f t fk tk r d) rfl rfl rfl rfl rfl ?_
  intro W8 g9 eg9 r10 z11 b7
  replace r4 := r4.up b7; replace b1 := Zu b1 b7; replace q := Zu q b7; have l12 := r10.lt; have l13 := r4.lt
  refine LL.alloc ([.int .i64 0, Value.nilFunc, Value.nilFunc, Value.nilFunc, Value.nilFunc]) rfl rfl rfl rfl rfl ?_
  intro W15 g16 eg16 r17 z18 b14
  replace r10 := r10.up b14; replace b7 := Zu b7 b14; replace r4 := r4.up b14; replace b1 := Zu b1 b14; replace q := Zu q b14; refine Zq ?_; refine Zc ?_
  refine CC.join (fun l_ W38 => ∃ (g33 : Nat), l_ = [(0, Value.agg #[Value.int IntKind.i64 lb, Value.int IntKind.i64 li, Value.int IntKind.i64 lr, Value.int IntKind.i64 lt, Value.int IntKind.u64 ↑k1, Value.int IntKind.u64 ↑k2, Value.int IntKind.i64 la, Value.int IntKind.i64 lc, Value.int IntKind.i64 ld, Value.int IntKind.i64 le]), (1, Value.agg #[Value.int IntKind.i64 k, Value.int IntKind.i64 n, Value.int IntKind.u64 ↑(a 0), Value.int IntKind.u64 ↑(a 1), Value.int IntKind.u64 ↑(a 2), Value.int IntKind.u64 ↑(a 3), Value.int IntKind.u64 ↑(a 4), Value.int IntKind.u64 ↑(a 5), Value.int IntKind.u64 ↑(a 6), Value.int IntKind.u64 ↑(a 7), Value.int IntKind.u64 ↑(a 8), Value.int IntKind.u64 ↑(a 9), Value.int IntKind.u64 ↑(a 10), Value.int IntKind.u64 ↑(a 11), Value.int IntKind.u64 ↑(a 12), Value.int IntKind.u64 ↑(a 13), Value.int IntKind.u64 ↑(a 14), Value.int IntKind.u64 ↑(a 15), Value.int IntKind.i64 f, Value.int IntKind.i64 t, Value.int IntKind.u64 ↑fk, Value.int IntKind.u64 ↑tk, Value.int IntKind.i64 r, Value.bool d]), (2, Value.pointer (some { block := g3, off := 0 })), (3, Value.pointer (some { block := g9, off := 0 })), (4, Value.pointer (some { block := g16, off := 0 })), (5, Value.pointer (some { block := g33, off := 0 })), (6, Value.bool true)] ∧ (Below W15.heap.size W15 W38) ∧ (RowL W38 g16 74 [Value.int IntKind.i64 0, Value.nilFunc, Value.nilFunc, Value.nilFunc, Value.nilFunc]) ∧ (Below W8.heap.size W8 W38) ∧ (RowL W38 g9 28 [Value.int IntKind.i64 k, Value.int IntKind.i64 n, Value.int IntKind.u64 ↑(a 0), Value.int IntKind.u64 ↑(a 1), Value.int IntKind.u64 ↑(a 2), Value.int IntKind.u64 ↑(a 3), Value.int IntKind.u64 ↑(a 4), Value.int IntKind.u64 ↑(a 5), Value.int IntKind.u64 ↑(a 6), Value.int IntKind.u64 ↑(a 7), Value.int IntKind.u64 ↑(a 8), Value.int IntKind.u64 ↑(a 9), Value.int IntKind.u64 ↑(a 10), Value.int IntKind.u64 ↑(a 11), Value.int IntKind.u64 ↑(a 12), Value.int IntKind.u64 ↑(a 13), Value.int IntKind.u64 ↑(a 14), Value.int IntKind.u64 ↑(a 15), Value.int IntKind.i64 f, Value.int IntKind.i64 t, Value.int IntKind.u64 ↑fk, Value.int IntKind.u64 ↑tk, Value.int IntKind.i64 r, Value.bool d]) ∧ (Below W2.heap.size W2 W38) ∧ (RowL W38 g3 31 [Value.int IntKind.i64 lb, Value.int IntKind.i64 li, Value.int IntKind.i64 lr, Value.int IntKind.i64 lt, Value.int IntKind.u64 ↑k1, Value.int IntKind.u64 ↑k2, Value.int IntKind.i64 la, Value.int IntKind.i64 lc, Value.int IntKind.i64 ld, Value.int IntKind.i64 le]) ∧ (Below w.heap.size w W38) ∧ (Below w.heap.size w W38) ∧ (RowL W38 g33 74 [Value.int IntKind.i64 m, jfnV f1, jfnV f2, jfnV f3, jfnV f4]) ∧ (W15.heap.size ≤ W38.heap.size) ∧ (W15.heap.size ≤ g33)) (fun J43 => ?_) ?restJ43
  case' restJ43 =>
    clear r17
    clear b14
    clear r10
    clear b7
    clear r4
    clear b1
    clear q
    rintro _ W38 ⟨g33, rfl, b19, r17, b14, r10, b7, r4, b1, q, r34, z41, z42⟩
  refine ZT ?_; refine Zr ?_; refine Zm ?_; refine Zt ?_
  refine Zy (R.call rfl rfl rfl) (jrefuse_F _ _) ?_
  rintro e W' ⟨rfl, rfl⟩
  refine ⟨_, rfl, ?_⟩; refine Zq ?_; refine Zc ?_
  refine CC.growT 24 (by kernel_rfl) (by kernel_rfl) ?_
  refine Gf ?_
  refine Gl r34 ?_
  refine Gv r10 ?_
  refine GG.call (fun w' => (R.callV rfl rfl rfl e1)) rfl rfl (fun w' b' => (cN w').mono fun e W' h => ⟨h.1, b'.trans (h.2.mono b'.size)⟩) ?_
  refine Gv r10 ?_
  (refine GG.val (fun w' b' => R.redoF hs rfl rfl rfl) rfl rfl ?_)
  refine Gm ?_
  refine GG.skip rfl rfl ?_
  refine GG.skip rfl rfl ?_
  refine GG.skip rfl rfl ?_
  refine GG.skip rfl rfl ?_
  refine GG.skip rfl rfl ?_
  refine GG.skip rfl rfl ?_
  refine GG.skip rfl rfl ?_
  refine GG.val (fun w' b' => R.pick rfl rfl rfl) rfl rfl ?_
  refine Gm ?_
  refine GG.skip rfl rfl ?_
  refine GG.skip rfl rfl ?_
  refine GG.skip rfl rfl ?_
  refine GG.skip rfl rfl ?_
  refine GG.skip rfl rfl ?_
  refine GG.skip rfl rfl ?_
  refine GG.skip rfl rfl ?_
  refine GG.val (fun w' b' => R.pick rfl rfl rfl) rfl rfl ?_
  refine GG.nil (fun W48 b47 => ?_)
  have zb47 := b47.size; replace b19 := Zu b19 b47; replace r17 := r17.up b47; replace b14 := Zu b14 b47; replace r10 := r10.up b47; replace b7 := Zu b7 b47; replace r4 := r4.up b47; replace b1 := Zu b1 b47; replace q := Zu q b47; replace r34 := r34.up b47
  refine LL.callP (R.call rfl rfl rfl) rfl rfl (jrefuse_T _ _) ?_
  rintro e W50 ⟨rfl, rfl⟩
  refine ⟨_, rfl, ?_⟩; refine EE.thenP ?_; refine EE.panM ?_
  exact ⟨rfl, q⟩
  refine CC.freeZ (fun W_ j => j < W_.heap.size ∧ (True)) (by kernel_rfl) (by kernel_rfl) (fun W52 b51 z53 => ?_)
  replace r17 := r17.up b51; replace b14 := Zu b14 b51; replace r10 := r10.up b51; replace b7 := Zu b7 b51; replace r4 := r4.up b51; replace b1 := Zu b1 b51; replace q := Zu q b51
  have hok : Kept (fun j => j < W52.heap.size ∧ (True)) W52 W52 := Kept.refl _ _
  have fzr17 := fzRow (K := fun j => j < W52.heap.size ∧ (True)) r17 ⟨r17.lt, (by first | trivial | omega)⟩
  have fzr10 := fzRow (K := fun j => j < W52.heap.size ∧ (True)) r10 ⟨r10.lt, (by first | trivial | omega)⟩
  have fzr4 := fzRow (K := fun j => j < W52.heap.size ∧ (True)) r4 ⟨r4.lt, (by first | trivial | omega)⟩
  refine AA.pure 1 rfl hok (by kernel_rfl) (fun w' b' => R.field rfl rfl (I.fld rfl)) rfl rfl ?_
  refine AA.pure 2 rfl hok (by kernel_rfl) (fun w' b' => R.load rfl rfl (I.ld1 rfl (RowL.cell (fzr10 w' b') rfl))) rfl rfl ?_
  refine AA.two 0 7 (by kernel_rfl) ?_ ?_
  refine SR.call rfl (R.call rfl rfl rfl) rfl rfl (jkinds_any _) ?_
  rintro e W55 ⟨g57, k58, rfl, h56, b54⟩
  have zb54 := b54.size; replace b51 := Zu b51 b54; replace r17 := r17.up b54; replace b14 := Zu b14 b54; replace r10 := r10.up b54; replace b7 := Zu b7 b54; replace r4 := r4.up b54; replace b1 := Zu b1 b54; replace q := Zu q b54; replace hok := Zh hok b54; have y59 := hok.size
  refine ⟨_, rfl, hok, ?_⟩
  refine AA.two 3 7 (by kernel_rfl) ?_ ?_
  (refine SR.val rfl (R.lookKT rfl rfl jKeys (by rfl) (z := jkdZ) (by kernel_rfl) (by assumption) k rfl hkF) rfl rfl hok ?_)
  refine AA.pure 4 rfl hok (by kernel_rfl) (fun w' b' => R.move rfl rfl) rfl rfl ?_
  refine AA.pure 5 rfl hok (by kernel_rfl) (fun w' b' => R.extract rfl rfl rfl) rfl rfl ?_
  refine AA.pure 6 rfl hok (by kernel_rfl) (fun w' b' => R.extract rfl rfl rfl) rfl rfl ?_
  refine AA.one 7 (by kernel_rfl) ?_
  have l60 := r17.lt; have l61 := r10.lt; have l62 := r4.lt
  refine ZR.alloc ([.int .i64 0, Value.nilFunc, Value.nilFunc, Value.nilFunc, Value.nilFunc]) rfl rfl rfl rfl rfl rfl ?_
  intro W64 g65 eg65 r66 z67 b63
  replace h56 := h56.up b63; replace b54 := Zu b54 b63; replace b51 := Zu b51 b63; replace r17 := r17.up b63; replace b14 := Zu b14 b63; replace r10 := r10.up b63; replace b7 := Zu b7 b63; replace r4 := r4.up b63; replace b1 := Zu b1 b63; replace q := Zu q b63; replace hok := Zh hok b63; have y68 := hok.size
  refine ⟨hok, ?_⟩
  refine AA.one 8 (by kernel_rfl) ?_
  refine ZR.storeN (vs := [.int .i64 m, jfnV f1, jfnV f2, jfnV f3, jfnV f4]) rfl rfl rfl rfl rfl r66 (by exact Nat.le_of_ble_eq_true rfl) (ones_of rfl) rfl rfl ?_
  intro W70 r71 b69 z72
  have hlb69 := r66.lt
  replace r71 : RowL W70 _ 74 [.int .i64 m, jfnV f1, jfnV f2, jfnV f3, jfnV f4] := r71
  clear r66
  replace b63 := Zg b63 b69; replace b54 := Zg b54 b69; replace b51 := Zg b51 b69; replace r17 := Zd r17 b69; replace b14 := Zg b14 b69; replace r10 := Zd r10 b69; replace b7 := Zg b7 b69; replace r4 := Zd r4 b69; replace b1 := Zg b1 b69; replace q := Zg q b69; replace hok := Zo hok b69
  have r66 := r71
  clear r71
  refine ⟨hok, ?_⟩
  refine AA.pure 9 rfl hok (by kernel_rfl) (fun w' b' => R.assign rfl rfl) rfl rfl ?_
  refine AA.done rfl ?_
  clear fzr17 fzr10 fzr4 hok
  exact EE.weak (J43 _ _ ⟨_, rfl, (by first | assumption | omega), (by first | assumption | omega), (by first | assumption | omega), (by first | assumption | omega), (by first | assumption | omega), (by first | assumption | omega), (by first | assumption | omega), (by first | assumption | omega), (by first | assumption | omega), (by first | assumption | omega), (by first | assumption | omega)⟩) ⟨rfl, rfl, rfl, rfl, rfl, rfl, rfl, trivial⟩
  have l73 := r17.lt; have l74 := r10.lt; have l75 := r4.lt
  refine ZR.alloc ([.int .i64 0, Value.nilFunc, Value.nilFunc, Value.nilFunc, Value.nilFunc]) rfl rfl rfl rfl rfl rfl ?_
  intro W77 g78 eg78 r79 z80 b76
  replace h56 := h56.up b76; replace b54 := Zu b54 b76; replace b51 := Zu b51 b76; replace r17 := r17.up b76; replace b14 := Zu b14 b76; replace r10 := r10.up b76; replace b7 := Zu b7 b76; replace r4 := r4.up b76; replace b1 := Zu b1 b76; replace q := Zu q b76; replace hok := Zh hok b76; have y81 := hok.size
  refine ⟨hok, ?_⟩
  refine AA.one 3 (by kernel_rfl) ?_
  (refine SR.val rfl (R.lookKT rfl rfl jKeys (by rfl) (z := jkdZ) (by kernel_rfl) (by assumption) k rfl hkF) rfl rfl hok ?_)
  refine AA.pure 4 rfl hok (by kernel_rfl) (fun w' b' => R.move rfl rfl) rfl rfl ?_
  refine AA.pure 5 rfl hok (by kernel_rfl) (fun w' b' => R.extract rfl rfl rfl) rfl rfl ?_
  refine AA.pure 6 rfl hok (by kernel_rfl) (fun w' b' => R.extract rfl rfl rfl) rfl rfl ?_
  refine AA.one 8 (by kernel_rfl) ?_
  refine ZR.storeN (vs := [.int .i64 m, jfnV f1, jfnV f2, jfnV f3, jfnV f4]) rfl rfl rfl rfl rfl r79 (by exact Nat.le_of_ble_eq_true rfl) (ones_of rfl) rfl rfl ?_
  intro W83 r84 b82 z85
  have hlb82 := r79.lt
  replace r84 : RowL W83 _ 74 [.int .i64 m, jfnV f1, jfnV f2, jfnV f3, jfnV f4] := r84
  clear r79
  replace b76 := Zg b76 b82; replace b54 := Zg b54 b82; replace b51 := Zg b51 b82; replace r17 := Zd r17 b82; replace b14 := Zg b14 b82; replace r10 := Zd r10 b82; replace b7 := Zg b7 b82; replace r4 := Zd r4 b82; replace b1 := Zg b1 b82; replace q := Zg q b82; replace hok := Zo hok b82
  have r79 := r84
  clear r84
  refine ⟨hok, ?_⟩
  refine AA.pure 9 rfl hok (by kernel_rfl) (fun w' b' => R.assign rfl rfl) rfl rfl ?_
  refine AA.done rfl ?_
  clear fzr17 fzr10 fzr4 hok
  exact EE.weak (J43 _ _ ⟨_, rfl, (by first | assumption | omega), (by first | assumption | omega), (by first | assumption | omega), (by first | assumption | omega), (by first | assumption | omega), (by first | assumption | omega), (by first | assumption | omega), (by first | assumption | omega), (by first | assumption | omega), (by first | assumption | omega), (by first | assumption | omega)⟩) ⟨rfl, rfl, rfl, rfl, rfl, rfl, rfl, trivial⟩
  have l86 := r17.lt; have l87 := r10.lt; have l88 := r4.lt
  refine ZR.alloc ([.int .i64 0, Value.nilFunc, Value.nilFunc, Value.nilFunc, Value.nilFunc]) rfl rfl rfl rfl rfl rfl ?_
  intro W90 g91 eg91 r92 z93 b89
  replace b51 := Zu b51 b89; replace r17 := r17.up b89; replace b14 := Zu b14 b89; replace r10 := r10.up b89; replace b7 := Zu b7 b89; replace r4 := r4.up b89; replace b1 := Zu b1 b89; replace q := Zu q b89; replace hok := Zh hok b89; have y94 := hok.size
  refine ⟨hok, ?_⟩
  refine AA.one 0 (by kernel_rfl) ?_
  refine SR.call rfl (R.call rfl rfl rfl) rfl rfl (jkinds_any _) ?_
  rintro e W96 ⟨g98, k99, rfl, h97, b95⟩
  have zb95 := b95.size; replace r92 := r92.up b95; replace b89 := Zu b89 b95; replace b51 := Zu b51 b95; replace r17 := r17.up b95; replace b14 := Zu b14 b95; replace r10 := r10.up b95; replace b7 := Zu b7 b95; replace r4 := r4.up b95; replace b1 := Zu b1 b95; replace q := Zu q b95; replace hok := Zh hok b95; have y100 := hok.size
  refine ⟨_, rfl, hok, ?_⟩
  refine AA.one 3 (by kernel_rfl) ?_
  (refine SR.val rfl (R.lookKT rfl rfl jKeys (by rfl) (z := jkdZ) (by kernel_rfl) (by assumption) k rfl hkF) rfl rfl hok ?_)
  refine AA.pure 4 rfl hok (by kernel_rfl) (fun w' b' => R.move rfl rfl) rfl rfl ?_
  refine AA.pure 5 rfl hok (by kernel_rfl) (fun w' b' => R.extract rfl rfl rfl) rfl rfl ?_
  refine AA.pure 6 rfl hok (by kernel_rfl) (fun w' b' => R.extract rfl rfl rfl) rfl rfl ?_
  refine AA.one 8 (by kernel_rfl) ?_
  refine ZR.storeN (vs := [.int .i64 m, jfnV f1, jfnV f2, jfnV f3, jfnV f4]) rfl rfl rfl rfl rfl r92 (by exact Nat.le_of_ble_eq_true rfl) (ones_of rfl) rfl rfl ?_
  intro W102 r103 b101 z104
  have hlb101 := r92.lt
  replace r103 : RowL W102 _ 74 [.int .i64 m, jfnV f1, jfnV f2, jfnV f3, jfnV f4] := r103
  clear r92
  replace b89 := Zg b89 b101; replace b51 := Zg b51 b101; replace r17 := Zd r17 b101; replace b14 := Zg b14 b101; replace r10 := Zd r10 b101; replace b7 := Zg b7 b101; replace r4 := Zd r4 b101; replace b1 := Zg b1 b101; replace q := Zg q b101; replace hok := Zo hok b101
  have r92 := r103
  clear r103
  refine ⟨hok, ?_⟩
  refine AA.pure 9 rfl hok (by kernel_rfl) (fun w' b' => R.assign rfl rfl) rfl rfl ?_
  refine AA.done rfl ?_
  clear fzr17 fzr10 fzr4 hok
  exact EE.weak (J43 _ _ ⟨_, rfl, (by first | assumption | omega), (by first | assumption | omega), (by first | assumption | omega), (by first | assumption | omega), (by first | assumption | omega), (by first | assumption | omega), (by first | assumption | omega), (by first | assumption | omega), (by first | assumption | omega), (by first | assumption | omega), (by first | assumption | omega)⟩) ⟨rfl, rfl, rfl, rfl, rfl, rfl, rfl, trivial⟩
theorem jcheck_gK (k n : Int) (a : Nat → Nat) (f t : Int) (fk tk : Nat) (r : Int) (d : Bool) (lb li lr lt : Int) (k1 k2 : Nat) (la lc ld le : Int) (w : World) (kN : jkindsF k = none) : Calls Tryz.prog 28 #[layV lb li lr lt k1 k2 la lc ld le, redV k n a f t fk tk r d] w fun x w' => x = .panicked (chain1 (jrefV 310)) ∧ Below w.heap.size w w' := by
  have q := Below.refl w.heap.size w
  refine X.fnP Tryz.func28 rfl (n := 43) rfl rfl ?_
  refine Zr ?_
  refine LL.box (jlyL lb li lr lt k1 k2 la lc ld le) rfl rfl rfl rfl rfl ?_
  intro W2 g3 eg3 r4 z5 b1
  replace q := Zu q b1; have l6 := r4.lt
  refine LL.box (redL k n a f t fk tk r d) rfl rfl rfl rfl rfl ?_
  intro W8 g9 eg9 r10 z11 b7
  replace r4 := r4.up b7; replace b1 := Zu b1 b7; replace q := Zu q b7; have l12 := r10.lt; have l13 := r4.lt
  refine LL.alloc ([.int .i64 0, Value.nilFunc, Value.nilFunc, Value.nilFunc, Value.nilFunc]) rfl rfl rfl rfl rfl ?_
  intro W15 g16 eg16 r17 z18 b14
  replace r10 := r10.up b14; replace b7 := Zu b7 b14; replace r4 := r4.up b14; replace b1 := Zu b1 b14; replace q := Zu q b14; refine Zq ?_; refine Zc ?_
  refine CC.join (fun l_ W38 => ∃ (g33 : Nat), l_ = [(0, Value.agg #[Value.int IntKind.i64 lb, Value.int IntKind.i64 li, Value.int IntKind.i64 lr, Value.int IntKind.i64 lt, Value.int IntKind.u64 ↑k1, Value.int IntKind.u64 ↑k2, Value.int IntKind.i64 la, Value.int IntKind.i64 lc, Value.int IntKind.i64 ld, Value.int IntKind.i64 le]), (1, Value.agg #[Value.int IntKind.i64 k, Value.int IntKind.i64 n, Value.int IntKind.u64 ↑(a 0), Value.int IntKind.u64 ↑(a 1), Value.int IntKind.u64 ↑(a 2), Value.int IntKind.u64 ↑(a 3), Value.int IntKind.u64 ↑(a 4), Value.int IntKind.u64 ↑(a 5), Value.int IntKind.u64 ↑(a 6), Value.int IntKind.u64 ↑(a 7), Value.int IntKind.u64 ↑(a 8), Value.int IntKind.u64 ↑(a 9), Value.int IntKind.u64 ↑(a 10), Value.int IntKind.u64 ↑(a 11), Value.int IntKind.u64 ↑(a 12), Value.int IntKind.u64 ↑(a 13), Value.int IntKind.u64 ↑(a 14), Value.int IntKind.u64 ↑(a 15), Value.int IntKind.i64 f, Value.int IntKind.i64 t, Value.int IntKind.u64 ↑fk, Value.int IntKind.u64 ↑tk, Value.int IntKind.i64 r, Value.bool d]), (2, Value.pointer (some { block := g3, off := 0 })), (3, Value.pointer (some { block := g9, off := 0 })), (4, Value.pointer (some { block := g16, off := 0 })), (5, Value.pointer (some { block := g33, off := 0 })), (6, Value.bool false)] ∧ (Below W15.heap.size W15 W38) ∧ (RowL W38 g16 74 [Value.int IntKind.i64 0, Value.nilFunc, Value.nilFunc, Value.nilFunc, Value.nilFunc]) ∧ (Below W8.heap.size W8 W38) ∧ (RowL W38 g9 28 [Value.int IntKind.i64 k, Value.int IntKind.i64 n, Value.int IntKind.u64 ↑(a 0), Value.int IntKind.u64 ↑(a 1), Value.int IntKind.u64 ↑(a 2), Value.int IntKind.u64 ↑(a 3), Value.int IntKind.u64 ↑(a 4), Value.int IntKind.u64 ↑(a 5), Value.int IntKind.u64 ↑(a 6), Value.int IntKind.u64 ↑(a 7), Value.int IntKind.u64 ↑(a 8), Value.int IntKind.u64 ↑(a 9), Value.int IntKind.u64 ↑(a 10), Value.int IntKind.u64 ↑(a 11), Value.int IntKind.u64 ↑(a 12), Value.int IntKind.u64 ↑(a 13), Value.int IntKind.u64 ↑(a 14), Value.int IntKind.u64 ↑(a 15), Value.int IntKind.i64 f, Value.int IntKind.i64 t, Value.int IntKind.u64 ↑fk, Value.int IntKind.u64 ↑tk, Value.int IntKind.i64 r, Value.bool d]) ∧ (Below W2.heap.size W2 W38) ∧ (RowL W38 g3 31 [Value.int IntKind.i64 lb, Value.int IntKind.i64 li, Value.int IntKind.i64 lr, Value.int IntKind.i64 lt, Value.int IntKind.u64 ↑k1, Value.int IntKind.u64 ↑k2, Value.int IntKind.i64 la, Value.int IntKind.i64 lc, Value.int IntKind.i64 ld, Value.int IntKind.i64 le]) ∧ (Below w.heap.size w W38) ∧ (Below w.heap.size w W38) ∧ (RowL W38 g33 74 [Value.int IntKind.i64 0, Value.nilFunc, Value.nilFunc, Value.nilFunc, Value.nilFunc]) ∧ (W15.heap.size ≤ W38.heap.size) ∧ (W15.heap.size ≤ g33)) (fun J43 => ?_) ?restJ43
  case' restJ43 =>
    clear r17
    clear b14
    clear r10
    clear b7
    clear r4
    clear b1
    clear q
    rintro _ W38 ⟨g33, rfl, b19, r17, b14, r10, b7, r4, b1, q, r34, z41, z42⟩
  refine ZT ?_; refine Zr ?_; refine Zm ?_; refine Zt ?_
  refine LL.callP (R.call rfl rfl rfl) rfl rfl (jrefuse_T _ _) ?_
  rintro e W45 ⟨rfl, rfl⟩
  refine ⟨_, rfl, ?_⟩; refine EE.thenP ?_; refine EE.panM ?_
  exact ⟨rfl, q⟩
  refine CC.freeZ (fun W_ j => j < W_.heap.size ∧ (True)) (by kernel_rfl) (by kernel_rfl) (fun W47 b46 z48 => ?_)
  replace r17 := r17.up b46; replace b14 := Zu b14 b46; replace r10 := r10.up b46; replace b7 := Zu b7 b46; replace r4 := r4.up b46; replace b1 := Zu b1 b46; replace q := Zu q b46
  have hok : Kept (fun j => j < W47.heap.size ∧ (True)) W47 W47 := Kept.refl _ _
  have fzr17 := fzRow (K := fun j => j < W47.heap.size ∧ (True)) r17 ⟨r17.lt, (by first | trivial | omega)⟩
  have fzr10 := fzRow (K := fun j => j < W47.heap.size ∧ (True)) r10 ⟨r10.lt, (by first | trivial | omega)⟩
  have fzr4 := fzRow (K := fun j => j < W47.heap.size ∧ (True)) r4 ⟨r4.lt, (by first | trivial | omega)⟩
  refine AA.pure 1 rfl hok (by kernel_rfl) (fun w' b' => R.field rfl rfl (I.fld rfl)) rfl rfl ?_
  refine AA.pure 2 rfl hok (by kernel_rfl) (fun w' b' => R.load rfl rfl (I.ld1 rfl (RowL.cell (fzr10 w' b') rfl))) rfl rfl ?_
  refine AA.two 0 7 (by kernel_rfl) ?_ ?_
  refine SR.call rfl (R.call rfl rfl rfl) rfl rfl (jkinds_any _) ?_
  rintro e W50 ⟨g52, k53, rfl, h51, b49⟩
  have zb49 := b49.size; replace b46 := Zu b46 b49; replace r17 := r17.up b49; replace b14 := Zu b14 b49; replace r10 := r10.up b49; replace b7 := Zu b7 b49; replace r4 := r4.up b49; replace b1 := Zu b1 b49; replace q := Zu q b49; replace hok := Zh hok b49; have y54 := hok.size
  refine ⟨_, rfl, hok, ?_⟩
  refine AA.two 3 7 (by kernel_rfl) ?_ ?_
  (refine SR.val rfl (R.lookKF rfl rfl jKeys (by rfl) (z := jkdZ) (by kernel_rfl) (by assumption) k rfl kN) rfl rfl hok ?_)
  refine AA.pure 4 rfl hok (by kernel_rfl) (fun w' b' => R.move rfl rfl) rfl rfl ?_
  refine AA.pure 5 rfl hok (by kernel_rfl) (fun w' b' => R.extract rfl rfl rfl) rfl rfl ?_
  refine AA.pure 6 rfl hok (by kernel_rfl) (fun w' b' => R.extract rfl rfl rfl) rfl rfl ?_
  refine AA.one 7 (by kernel_rfl) ?_
  have l55 := r17.lt; have l56 := r10.lt; have l57 := r4.lt
  refine ZR.alloc ([.int .i64 0, Value.nilFunc, Value.nilFunc, Value.nilFunc, Value.nilFunc]) rfl rfl rfl rfl rfl rfl ?_
  intro W59 g60 eg60 r61 z62 b58
  replace h51 := h51.up b58; replace b49 := Zu b49 b58; replace b46 := Zu b46 b58; replace r17 := r17.up b58; replace b14 := Zu b14 b58; replace r10 := r10.up b58; replace b7 := Zu b7 b58; replace r4 := r4.up b58; replace b1 := Zu b1 b58; replace q := Zu q b58; replace hok := Zh hok b58; have y63 := hok.size
  refine ⟨hok, ?_⟩
  refine AA.one 8 (by kernel_rfl) ?_
  refine ZR.storeN (vs := [.int .i64 0, Value.nilFunc, Value.nilFunc, Value.nilFunc, Value.nilFunc]) rfl rfl rfl rfl rfl r61 (by exact Nat.le_of_ble_eq_true rfl) (ones_of rfl) rfl rfl ?_
  intro W65 r66 b64 z67
  have hlb64 := r61.lt
  replace r66 : RowL W65 _ 74 [.int .i64 0, Value.nilFunc, Value.nilFunc, Value.nilFunc, Value.nilFunc] := r66
  clear r61
  replace b58 := Zg b58 b64; replace b49 := Zg b49 b64; replace b46 := Zg b46 b64; replace r17 := Zd r17 b64; replace b14 := Zg b14 b64; replace r10 := Zd r10 b64; replace b7 := Zg b7 b64; replace r4 := Zd r4 b64; replace b1 := Zg b1 b64; replace q := Zg q b64; replace hok := Zo hok b64
  have r61 := r66
  clear r66
  refine ⟨hok, ?_⟩
  refine AA.pure 9 rfl hok (by kernel_rfl) (fun w' b' => R.assign rfl rfl) rfl rfl ?_
  refine AA.done rfl ?_
  clear fzr17 fzr10 fzr4 hok
  exact EE.weak (J43 _ _ ⟨_, rfl, (by first | assumption | omega), (by first | assumption | omega), (by first | assumption | omega), (by first | assumption | omega), (by first | assumption | omega), (by first | assumption | omega), (by first | assumption | omega), (by first | assumption | omega), (by first | assumption | omega), (by first | assumption | omega), (by first | assumption | omega)⟩) ⟨rfl, rfl, rfl, rfl, rfl, rfl, rfl, trivial⟩
  have l68 := r17.lt; have l69 := r10.lt; have l70 := r4.lt
  refine ZR.alloc ([.int .i64 0, Value.nilFunc, Value.nilFunc, Value.nilFunc, Value.nilFunc]) rfl rfl rfl rfl rfl rfl ?_
  intro W72 g73 eg73 r74 z75 b71
  replace h51 := h51.up b71; replace b49 := Zu b49 b71; replace b46 := Zu b46 b71; replace r17 := r17.up b71; replace b14 := Zu b14 b71; replace r10 := r10.up b71; replace b7 := Zu b7 b71; replace r4 := r4.up b71; replace b1 := Zu b1 b71; replace q := Zu q b71; replace hok := Zh hok b71; have y76 := hok.size
  refine ⟨hok, ?_⟩
  refine AA.one 3 (by kernel_rfl) ?_
  (refine SR.val rfl (R.lookKF rfl rfl jKeys (by rfl) (z := jkdZ) (by kernel_rfl) (by assumption) k rfl kN) rfl rfl hok ?_)
  refine AA.pure 4 rfl hok (by kernel_rfl) (fun w' b' => R.move rfl rfl) rfl rfl ?_
  refine AA.pure 5 rfl hok (by kernel_rfl) (fun w' b' => R.extract rfl rfl rfl) rfl rfl ?_
  refine AA.pure 6 rfl hok (by kernel_rfl) (fun w' b' => R.extract rfl rfl rfl) rfl rfl ?_
  refine AA.one 8 (by kernel_rfl) ?_
  refine ZR.storeN (vs := [.int .i64 0, Value.nilFunc, Value.nilFunc, Value.nilFunc, Value.nilFunc]) rfl rfl rfl rfl rfl r74 (by exact Nat.le_of_ble_eq_true rfl) (ones_of rfl) rfl rfl ?_
  intro W78 r79 b77 z80
  have hlb77 := r74.lt
  replace r79 : RowL W78 _ 74 [.int .i64 0, Value.nilFunc, Value.nilFunc, Value.nilFunc, Value.nilFunc] := r79
  clear r74
  replace b71 := Zg b71 b77; replace b49 := Zg b49 b77; replace b46 := Zg b46 b77; replace r17 := Zd r17 b77; replace b14 := Zg b14 b77; replace r10 := Zd r10 b77; replace b7 := Zg b7 b77; replace r4 := Zd r4 b77; replace b1 := Zg b1 b77; replace q := Zg q b77; replace hok := Zo hok b77
  have r74 := r79
  clear r79
  refine ⟨hok, ?_⟩
  refine AA.pure 9 rfl hok (by kernel_rfl) (fun w' b' => R.assign rfl rfl) rfl rfl ?_
  refine AA.done rfl ?_
  clear fzr17 fzr10 fzr4 hok
  exact EE.weak (J43 _ _ ⟨_, rfl, (by first | assumption | omega), (by first | assumption | omega), (by first | assumption | omega), (by first | assumption | omega), (by first | assumption | omega), (by first | assumption | omega), (by first | assumption | omega), (by first | assumption | omega), (by first | assumption | omega), (by first | assumption | omega), (by first | assumption | omega)⟩) ⟨rfl, rfl, rfl, rfl, rfl, rfl, rfl, trivial⟩
  have l81 := r17.lt; have l82 := r10.lt; have l83 := r4.lt
  refine ZR.alloc ([.int .i64 0, Value.nilFunc, Value.nilFunc, Value.nilFunc, Value.nilFunc]) rfl rfl rfl rfl rfl rfl ?_
  intro W85 g86 eg86 r87 z88 b84
  replace b46 := Zu b46 b84; replace r17 := r17.up b84; replace b14 := Zu b14 b84; replace r10 := r10.up b84; replace b7 := Zu b7 b84; replace r4 := r4.up b84; replace b1 := Zu b1 b84; replace q := Zu q b84; replace hok := Zh hok b84; have y89 := hok.size
  refine ⟨hok, ?_⟩
  refine AA.one 0 (by kernel_rfl) ?_
  refine SR.call rfl (R.call rfl rfl rfl) rfl rfl (jkinds_any _) ?_
  rintro e W91 ⟨g93, k94, rfl, h92, b90⟩
  have zb90 := b90.size; replace r87 := r87.up b90; replace b84 := Zu b84 b90; replace b46 := Zu b46 b90; replace r17 := r17.up b90; replace b14 := Zu b14 b90; replace r10 := r10.up b90; replace b7 := Zu b7 b90; replace r4 := r4.up b90; replace b1 := Zu b1 b90; replace q := Zu q b90; replace hok := Zh hok b90; have y95 := hok.size
  refine ⟨_, rfl, hok, ?_⟩
  refine AA.one 3 (by kernel_rfl) ?_
  (refine SR.val rfl (R.lookKF rfl rfl jKeys (by rfl) (z := jkdZ) (by kernel_rfl) (by assumption) k rfl kN) rfl rfl hok ?_)
  refine AA.pure 4 rfl hok (by kernel_rfl) (fun w' b' => R.move rfl rfl) rfl rfl ?_
  refine AA.pure 5 rfl hok (by kernel_rfl) (fun w' b' => R.extract rfl rfl rfl) rfl rfl ?_
  refine AA.pure 6 rfl hok (by kernel_rfl) (fun w' b' => R.extract rfl rfl rfl) rfl rfl ?_
  refine AA.one 8 (by kernel_rfl) ?_
  refine ZR.storeN (vs := [.int .i64 0, Value.nilFunc, Value.nilFunc, Value.nilFunc, Value.nilFunc]) rfl rfl rfl rfl rfl r87 (by exact Nat.le_of_ble_eq_true rfl) (ones_of rfl) rfl rfl ?_
  intro W97 r98 b96 z99
  have hlb96 := r87.lt
  replace r98 : RowL W97 _ 74 [.int .i64 0, Value.nilFunc, Value.nilFunc, Value.nilFunc, Value.nilFunc] := r98
  clear r87
  replace b84 := Zg b84 b96; replace b46 := Zg b46 b96; replace r17 := Zd r17 b96; replace b14 := Zg b14 b96; replace r10 := Zd r10 b96; replace b7 := Zg b7 b96; replace r4 := Zd r4 b96; replace b1 := Zg b1 b96; replace q := Zg q b96; replace hok := Zo hok b96
  have r87 := r98
  clear r98
  refine ⟨hok, ?_⟩
  refine AA.pure 9 rfl hok (by kernel_rfl) (fun w' b' => R.assign rfl rfl) rfl rfl ?_
  refine AA.done rfl ?_
  clear fzr17 fzr10 fzr4 hok
  exact EE.weak (J43 _ _ ⟨_, rfl, (by first | assumption | omega), (by first | assumption | omega), (by first | assumption | omega), (by first | assumption | omega), (by first | assumption | omega), (by first | assumption | omega), (by first | assumption | omega), (by first | assumption | omega), (by first | assumption | omega), (by first | assumption | omega), (by first | assumption | omega)⟩) ⟨rfl, rfl, rfl, rfl, rfl, rfl, rfl, trivial⟩
/-- Redos that may be. -/
def okJ (k n : Int) (a : Nat → Nat) (f t : Int) (fk tk : Nat) (r : Int) (d : Bool) (li lr : Int) : Prop := (k = 1 ∧ (1 ≤ n ∧ n ≤ li) ∧ okFl a ∧ f = 0 ∧ t = 0 ∧ fk = 0 ∧ tk = 0 ∧ r = 0 ∧ d = false) ∨ (k = 2 ∧ (1 ≤ n ∧ n ≤ li) ∧ (∀ i, i < 16 → a i = 0) ∧ okNm f t fk tk r li lr)
theorem sameR_1 (k n : Int) (a : Nat → Nat) (f t : Int) (fk tk : Nat) (r : Int) (d : Bool) : sameR k n a 0 0 0 0 0 false k n a f t fk tk r d ↔ f = 0 ∧ t = 0 ∧ fk = 0 ∧ tk = 0 ∧ r = 0 ∧ d = false := by
  unfold sameR
  simp only [true_and]
  constructor
  · rintro ⟨h1, h2, h3, h4, h5, h6⟩
    exact ⟨h1.symm, h2.symm, by omega, by omega, h5.symm, h6.symm⟩
  · rintro ⟨rfl, rfl, rfl, rfl, rfl, rfl⟩
    simp
theorem sameR_2 (k n : Int) (a : Nat → Nat) (f t : Int) (fk tk : Nat) (r : Int) (d : Bool) : sameR k n noA f t fk tk r d k n a f t fk tk r d ↔ ∀ i, i < 16 → a i = 0 := by
  unfold sameR noA
  simp only [true_and, and_true]
  constructor
  · rintro ⟨h0, h1, h2, h3, h4, h5, h6, h7, h8, h9, h10, h11, h12, h13, h14, h15⟩ i hi
    have hc : i = 0 ∨ i = 1 ∨ i = 2 ∨ i = 3 ∨ i = 4 ∨ i = 5 ∨ i = 6 ∨ i = 7 ∨ i = 8 ∨ i = 9 ∨ i = 10 ∨ i = 11 ∨ i = 12 ∨ i = 13 ∨ i = 14 ∨ i = 15 := by omega
    rcases hc with rfl | rfl | rfl | rfl | rfl | rfl | rfl | rfl | rfl | rfl | rfl | rfl | rfl | rfl | rfl | rfl <;> omega
  · intro h
    refine ⟨?_, ?_, ?_, ?_, ?_, ?_, ?_, ?_, ?_, ?_, ?_, ?_, ?_, ?_, ?_, ?_⟩ <;> (rw [h _ (by decide)])
theorem jcheck_1T (k n : Int) (a : Nat → Nat) (f t : Int) (fk tk : Nat) (r : Int) (d : Bool) (lb li lr lt : Int) (k1 k2 : Nat) (la lc ld le : Int) (w : World) (hS : Start w) (hk : k = 1) (h : okJ k n a f t fk tk r d li lr) : Calls Tryz.prog 28 #[layV lb li lr lt k1 k2 la lc ld le, redV k n a f t fk tk r d] w fun x w' => x = .returned (jkdV jkd1) ∧ Below w.heap.size w w' := by
  rcases h with ⟨rfl, hn, hfl, rfl, rfl, rfl, rfl, rfl, rfl⟩ | ⟨h2, _⟩
  · exact jcheck_gT 1 n a 0 0 0 0 0 false lb li lr lt k1 k2 la lc ld le w _ _ _ _ _ jkF_1 (by kernel_rfl) (by kernel_rfl) 1 n a 0 0 0 0 0 false (fun W => jnm1_any 1 n a 0 0 0 0 0 false W) ((sameR_1 1 n a 0 0 0 0 0 false).2 ⟨rfl, rfl, rfl, rfl, rfl, rfl⟩) hn (fun W b => jmay1_T 1 n a 0 0 0 0 0 false lb li lr lt k1 k2 la lc ld le W (hS.up b) hfl)
  · omega
theorem jcheck_2T (k n : Int) (a : Nat → Nat) (f t : Int) (fk tk : Nat) (r : Int) (d : Bool) (lb li lr lt : Int) (k1 k2 : Nat) (la lc ld le : Int) (w : World) (hk : k = 2) (h : okJ k n a f t fk tk r d li lr) : Calls Tryz.prog 28 #[layV lb li lr lt k1 k2 la lc ld le, redV k n a f t fk tk r d] w fun x w' => x = .returned (jkdV jkd2) ∧ Below w.heap.size w w' := by
  rcases h with ⟨h2, _⟩ | ⟨rfl, hn, ha, hm⟩
  · omega
  · exact jcheck_gT 2 n a f t fk tk r d lb li lr lt k1 k2 la lc ld le w _ _ _ _ _ jkF_2 (by kernel_rfl) (by kernel_rfl) 2 n noA f t fk tk r d (fun W => jnm2_any 2 n a f t fk tk r d W) ((sameR_2 2 n a f t fk tk r d).2 ha) hn (fun W b => jmay2_T 2 n a f t fk tk r d lb li lr lt k1 k2 la lc ld le W hm)
theorem jcheck_F (k n : Int) (a : Nat → Nat) (f t : Int) (fk tk : Nat) (r : Int) (d : Bool) (lb li lr lt : Int) (k1 k2 : Nat) (la lc ld le : Int) (w : World) (hS : Start w) (hb : ∀ x ∈ jsixL a, x < 18446744073709551616) (h : ¬okJ k n a f t fk tk r d li lr) : Calls Tryz.prog 28 #[layV lb li lr lt k1 k2 la lc ld le, redV k n a f t fk tk r d] w fun x w' => x = .panicked (chain1 (jrefV 310)) ∧ Below w.heap.size w w' := by
  by_cases h1 : k = 1
  · subst h1
    by_cases hs : sameR 1 n a 0 0 0 0 0 false 1 n a f t fk tk r d
    case neg => exact jcheck_gN 1 n a f t fk tk r d lb li lr lt k1 k2 la lc ld le w _ _ _ _ _ jkF_1 (by kernel_rfl) (by kernel_rfl) 1 n a 0 0 0 0 0 false (fun W => jnm1_any 1 n a f t fk tk r d W) hs
    by_cases hn : 1 ≤ n ∧ n ≤ li
    case neg => exact jcheck_gI 1 n a f t fk tk r d lb li lr lt k1 k2 la lc ld le w _ _ _ _ _ jkF_1 (by kernel_rfl) (by kernel_rfl) 1 n a 0 0 0 0 0 false (fun W => jnm1_any 1 n a f t fk tk r d W) hs (by omega)
    exact jcheck_gM 1 n a f t fk tk r d lb li lr lt k1 k2 la lc ld le w _ _ _ _ _ jkF_1 (by kernel_rfl) (by kernel_rfl) 1 n a 0 0 0 0 0 false (fun W => jnm1_any 1 n a f t fk tk r d W) hs hn (fun W b => jmay1_F 1 n a f t fk tk r d lb li lr lt k1 k2 la lc ld le W (hS.up b) hb (fun hfl => h (.inl ⟨rfl, hn, hfl, (sameR_1 1 n a f t fk tk r d).1 hs⟩)))
  by_cases h2 : k = 2
  · subst h2
    by_cases hs : sameR 2 n noA f t fk tk r d 2 n a f t fk tk r d
    case neg => exact jcheck_gN 2 n a f t fk tk r d lb li lr lt k1 k2 la lc ld le w _ _ _ _ _ jkF_2 (by kernel_rfl) (by kernel_rfl) 2 n noA f t fk tk r d (fun W => jnm2_any 2 n a f t fk tk r d W) hs
    by_cases hn : 1 ≤ n ∧ n ≤ li
    case neg => exact jcheck_gI 2 n a f t fk tk r d lb li lr lt k1 k2 la lc ld le w _ _ _ _ _ jkF_2 (by kernel_rfl) (by kernel_rfl) 2 n noA f t fk tk r d (fun W => jnm2_any 2 n a f t fk tk r d W) hs (by omega)
    exact jcheck_gM 2 n a f t fk tk r d lb li lr lt k1 k2 la lc ld le w _ _ _ _ _ jkF_2 (by kernel_rfl) (by kernel_rfl) 2 n noA f t fk tk r d (fun W => jnm2_any 2 n a f t fk tk r d W) hs hn (fun W b => jmay2_F 2 n a f t fk tk r d lb li lr lt k1 k2 la lc ld le W (fun hm => h (.inr ⟨rfl, hn, (sameR_2 2 n a f t fk tk r d).1 hs, hm⟩)))
  · exact jcheck_gK k n a f t fk tk r d lb li lr lt k1 k2 la lc ld le w (jkF_no (by omega))
/-- A slice of words that is new. -/
def jnewW (ws : List Nat) (w0 : World) (x : Value) (w : World) : Prop := ∃ g c, x = .slice (some ⟨g, 0, none⟩) ws.length c ∧ ws.length ≤ c ∧ Reads w (.slice (some ⟨g, 0, none⟩) ws.length c) (ints .u64 ws) ∧ w0.heap.size ≤ g ∧ g < w.heap.size ∧ Below w0.heap.size w0 w
theorem pseal_form (v : Value) (ws : List Nat) (w : World) (hv : Reads w v (ints .u64 ws)) (hlen : ws.length ≤ 1048576) : Calls Tryz.prog 47 #[v] w fun e w' => ∃ v', e = .returned v' ∧ jnewW (ws ++ [wsum ws]) w v' w' := by
  refine (pseal_own v ws w hv hlen).mono ?_
  rintro e w' ⟨v', rfl, o, b⟩
  have hr := reads_of_owns o
  rcases o.2 with ⟨_, h0⟩ | ⟨g, cap, cur, rfl, hbg, hg, hcc, _⟩
  · omega
  · exact ⟨_, rfl, g, cap, by simp, by simpa using hcc, by simpa using hr, hbg, (Array.getElem?_eq_some_iff.1 hg).1, b⟩
/-- What a redo's kind has; its words. -/
def jkdO (k : Int) : Int × Nat × Nat × Nat × Nat := if k = 1 then jkd1 else jkd2
def jpreW (k n : Int) (a : Nat → Nat) (f t : Int) (fk tk : Nat) (r : Int) (d : Bool) : List Nat := if k = 1 then wdsI n.toNat a else wdsN n.toNat f.toNat t.toNat fk tk r.toNat d
def jW (k n : Int) (a : Nat → Nat) (f t : Int) (fk tk : Nat) (r : Int) (d : Bool) : List Nat := jpreW k n a f t fk tk r d ++ [wsum (jpreW k n a f t fk tk r d)]
theorem jW_len (k n : Int) (a : Nat → Nat) (f t : Int) (fk tk : Nat) (r : Int) (d : Bool) : (jW k n a f t fk tk r d).length = if k = 1 then 19 else 9 := by
  unfold jW jpreW
  by_cases h : k = 1
  · rw [if_pos h, if_pos h]; rfl
  · rw [if_neg h, if_neg h]; rfl
theorem jlay2_form (n : Nat) (a : Nat → Nat) (f t : Nat) (fk tk : Nat) (r : Nat) (d : Bool) (w : World) (hn : n ≤ 4096) (hf : f ≤ 4096) (ht : t ≤ 4096) (hr : r ≤ 4096) : Calls Tryz.prog 27 #[jkdV jkd2, redV 2 (n : Int) a (f : Int) (t : Int) fk tk (r : Int) d] w fun x w' => ∃ v, x = .returned v ∧ jnewW (wdsN n f t fk tk r d ++ [wsum (wdsN n f t fk tk r d)]) w v w' := by
  have q := Below.refl w.heap.size w
  refine X.fn Tryz.func27 rfl (n := 21) rfl rfl ?_
  refine Zr ?_
  refine LL.box [.int .i64 jkd2.1, jfnV jkd2.2.1, jfnV jkd2.2.2.1, jfnV jkd2.2.2.2.1, jfnV jkd2.2.2.2.2] rfl rfl rfl rfl rfl ?_
  intro W23 g24 eg24 r25 z26 b22
  replace q := Zu q b22; have l51 := r25.lt
  refine LL.box (redL 2 (↑n) a (↑f) (↑t) fk tk (↑r) d) rfl rfl rfl rfl rfl ?_
  intro W53 g54 eg54 r55 z56 b52
  replace r25 := r25.up b52; replace q := Zu q b52; refine Za ?_; refine Zq ?_; refine Zr ?_; refine Zf ?_; refine Zl r55 ?_
  refine LL.val (R.convI rfl rfl rfl rfl (wrapU (by omega) (by omega))) rfl rfl rfl ?_
  refine Zf ?_; refine Zl r25 ?_
  refine LL.val (R.convI rfl rfl rfl rfl rfl) rfl rfl rfl ?_
  refine LL.val (R.shlE (a := 7) (b := 8) (z := 256 * 7) rfl rfl rfl (by decide) (by omega) (by omega)) rfl rfl rfl ?_
  refine LL.val (R.orE (a := 2) (b := 256 * 7) (z := 2 + 256 * 7) rfl rfl rfl (by decide) (by omega) (by decide)) rfl rfl rfl ?_
  refine Za ?_; refine Zq ?_; refine Zr ?_; refine Zm ?_; refine Zf ?_; refine Zl r25 ?_; refine Zv r55 ?_; have l385 := r55.lt; have l386 := r25.lt
  (refine LL.call (R.callV rfl rfl rfl rfl) rfl rfl rfl (jbody2_any 2 n a f t fk tk r d _ hn hf ht hr) ?_; rintro e W384 ⟨g8, rfl, r8, hg8, b381⟩; refine ⟨_, rfl, ?_⟩)
  have zb381 := b381.size; replace r55 := r55.up b381; replace r25 := r25.up b381; replace q := Zu q b381; have l404 := r8.lt; have l405 := r55.lt; have l406 := r25.lt
  (refine Zy (R.call rfl rfl rfl) (jwith_any (2 + 256 * 7) _ (bodyN n f t fk tk r d) _ (row_part (lo := 0) (m := 7) (ns := bodyN n f t fk tk r d) (by assumption) rfl rfl) (by simp [bodyN])) ?_; rintro e W403 ⟨v9, rfl, o9, b400⟩; refine ⟨_, rfl, ?_⟩)
  have zb400 := b400.size; replace r8 := r8.up b400; replace r55 := r55.up b400; replace r25 := r25.up b400; replace q := Zu q b400; have l434 := r8.lt; have l435 := r55.lt; have l436 := r25.lt
  (refine Zy (R.call rfl rfl rfl) (pseal_form _ (wdsN n f t fk tk r d) _ o9.reads (by simp [wdsN, bodyN])) ?_; rintro e W433 ⟨v7, rfl, g7, c7, rfl, hc7, r7, hg7, hl7, b430⟩; refine ⟨_, rfl, ?_⟩)
  have zb430 := b430.size; replace o9 := o9.up b430; replace r8 := r8.up b430; replace r55 := r55.up b430; replace r25 := r25.up b430; replace q := Zu q b430; refine Za ?_; refine Zq ?_; refine ZR ?_; refine EE.ret _ rfl rfl ?_
  exact ⟨_, rfl, g7, c7, rfl, hc7, r7, by omega, by omega, q⟩
theorem jlay1_form (n : Nat) (a : Nat → Nat) (f t : Int) (fk tk : Nat) (r : Int) (d : Bool) (w : World) (hn : n ≤ 4096) : Calls Tryz.prog 27 #[jkdV jkd1, redV 1 (n : Int) a f t fk tk r d] w fun x w' => ∃ v, x = .returned v ∧ jnewW (wdsI n a ++ [wsum (wdsI n a)]) w v w' := by
  have q := Below.refl w.heap.size w
  refine X.fn Tryz.func27 rfl (n := 21) rfl rfl ?_
  refine Zr ?_
  refine LL.box [.int .i64 jkd1.1, jfnV jkd1.2.1, jfnV jkd1.2.2.1, jfnV jkd1.2.2.2.1, jfnV jkd1.2.2.2.2] rfl rfl rfl rfl rfl ?_
  intro W23 g24 eg24 r25 z26 b22
  replace q := Zu q b22; have l51 := r25.lt
  refine LL.box (redL 1 (↑n) a f t fk tk r d) rfl rfl rfl rfl rfl ?_
  intro W53 g54 eg54 r55 z56 b52
  replace r25 := r25.up b52; replace q := Zu q b52; refine Za ?_; refine Zq ?_; refine Zr ?_; refine Zf ?_; refine Zl r55 ?_
  refine LL.val (R.convI rfl rfl rfl rfl (wrapU (by omega) (by omega))) rfl rfl rfl ?_
  refine Zf ?_; refine Zl r25 ?_
  refine LL.val (R.convI rfl rfl rfl rfl rfl) rfl rfl rfl ?_
  refine LL.val (R.shlE (a := 17) (b := 8) (z := 256 * 17) rfl rfl rfl (by decide) (by omega) (by omega)) rfl rfl rfl ?_
  refine LL.val (R.orE (a := 1) (b := 256 * 17) (z := 1 + 256 * 17) rfl rfl rfl (by decide) (by omega) (by decide)) rfl rfl rfl ?_
  refine Za ?_; refine Zq ?_; refine Zr ?_; refine Zm ?_; refine Zf ?_; refine Zl r25 ?_; refine Zv r55 ?_; have l385 := r55.lt; have l386 := r25.lt
  (refine LL.call (R.callV rfl rfl rfl rfl) rfl rfl rfl (jbody1_any 1 n a f t fk tk r d _ hn) ?_; rintro e W384 ⟨v8, rfl, r8, b381⟩; refine ⟨_, rfl, ?_⟩)
  have zb381 := b381.size; replace r55 := r55.up b381; replace r25 := r25.up b381; replace q := Zu q b381; have l403 := r55.lt; have l404 := r25.lt
  (refine Zy (R.call rfl rfl rfl) (jwith_any (1 + 256 * 17) _ (bodyI n a) _ (by assumption) (by simp [bodyI, jsixL])) ?_; rintro e W402 ⟨v9, rfl, o9, b399⟩; refine ⟨_, rfl, ?_⟩)
  have zb399 := b399.size; replace r8 := r8.up b399; replace r55 := r55.up b399; replace r25 := r25.up b399; replace q := Zu q b399; have l430 := r55.lt; have l431 := r25.lt
  (refine Zy (R.call rfl rfl rfl) (pseal_form _ (wdsI n a) _ o9.reads (by simp [wdsI, bodyI, jsixL])) ?_; rintro e W429 ⟨v7, rfl, g7, c7, rfl, hc7, r7, hg7, hl7, b426⟩; refine ⟨_, rfl, ?_⟩)
  have zb426 := b426.size; replace o9 := o9.up b426; replace r8 := r8.up b426; replace r55 := r55.up b426; replace r25 := r25.up b426; replace q := Zu q b426; refine Za ?_; refine Zq ?_; refine ZR ?_; refine EE.ret _ rfl rfl ?_
  exact ⟨_, rfl, g7, c7, rfl, hc7, r7, by omega, by omega, q⟩
theorem jlay_ok (k n : Int) (a : Nat → Nat) (f t : Int) (fk tk : Nat) (r : Int) (d : Bool) (li lr : Int) (hli : li ≤ 256) (hlr : lr ≤ 1024) (h : okJ k n a f t fk tk r d li lr) (w : World) : Calls Tryz.prog 27 #[jkdV (jkdO k), redV k n a f t fk tk r d] w fun x w' => ∃ v, x = .returned v ∧ jnewW (jW k n a f t fk tk r d) w v w' := by
  rcases h with ⟨rfl, hn, hfl, rfl, rfl, rfl, rfl, rfl, rfl⟩ | ⟨rfl, hn, ha, h1, h2, h3, _⟩
  · obtain ⟨n, rfl⟩ : ∃ y : Nat, n = (y : Int) := ⟨n.toNat, by omega⟩
    exact jlay1_form n a 0 0 0 0 0 false w (by omega)
  · obtain ⟨n, rfl⟩ : ∃ y : Nat, n = (y : Int) := ⟨n.toNat, by omega⟩
    obtain ⟨f, rfl⟩ : ∃ y : Nat, f = (y : Int) := ⟨f.toNat, by omega⟩
    obtain ⟨t, rfl⟩ : ∃ y : Nat, t = (y : Int) := ⟨t.toNat, by omega⟩
    obtain ⟨r, rfl⟩ : ∃ y : Nat, r = (y : Int) := ⟨r.toNat, by omega⟩
    exact jlay2_form n a f t fk tk r d w (by omega) (by omega) (by omega) (by omega)
theorem jcheck_T (k n : Int) (a : Nat → Nat) (f t : Int) (fk tk : Nat) (r : Int) (d : Bool) (lb li lr lt : Int) (k1 k2 : Nat) (la lc ld le : Int) (w : World) (hS : Start w) (h : okJ k n a f t fk tk r d li lr) : Calls Tryz.prog 28 #[layV lb li lr lt k1 k2 la lc ld le, redV k n a f t fk tk r d] w fun x w' => x = .returned (jkdV (jkdO k)) ∧ Below w.heap.size w w' := by
  by_cases h1 : k = 1
  · subst h1
    exact jcheck_1T 1 n a f t fk tk r d lb li lr lt k1 k2 la lc ld le w hS rfl h
  · have h2 : k = 2 := by rcases h with ⟨h2, _⟩ | ⟨h2, _⟩ <;> omega
    subst h2
    exact jcheck_2T 2 n a f t fk tk r d lb li lr lt k1 k2 la lc ld le w rfl h
theorem isL_b {b i r t a c d e : Int} (h : isL b i r t a c d e) : i ≤ 256 ∧ r ≤ 1024 := by
  obtain ⟨⟨_, _, h1, _, h2, _⟩, _⟩ := h
  omega
/-- Why a redo is refused. -/
def jwhy (k n : Int) (a : Nat → Nat) (f t : Int) (fk tk : Nat) (r : Int) (d : Bool) (lb li lr lt : Int) (k1 k2 : Nat) (la lc ld le : Int) (c : Int) : Prop := (¬isL lb li lr lt la lc ld le ∧ c = 2) ∨ (isL lb li lr lt la lc ld le ∧ ¬okJ k n a f t fk tk r d li lr ∧ c = 310)
theorem jwords1_T (k n : Int) (a : Nat → Nat) (f t : Int) (fk tk : Nat) (r : Int) (d : Bool) (lb li lr lt : Int) (k1 k2 : Nat) (la lc ld le : Int) (gl gr go : Nat) (v0 : Value) (w : World) (hS : Start w) (hl : isL lb li lr lt la lc ld le) (h : okJ k n a f t fk tk r d li lr) (r1 : RowL w gl 31 (jlyL lb li lr lt k1 k2 la lc ld le)) (r2 : RowL w gr 28 (redL k n a f t fk tk r d)) (r3 : RowL w go 33 [v0]) (hne : go ≠ gl ∧ go ≠ gr) : Calls Tryz.prog 25 #[.pointer (some ⟨gl, 0, none⟩), .pointer (some ⟨gr, 0, none⟩), .pointer (some ⟨go, 0, none⟩)] w fun x w' => x = .returned (.tuple #[]) ∧ (∃ g c, RowL w' go 33 [.slice (some ⟨g, 0, none⟩) (jW k n a f t fk tk r d).length c] ∧ (jW k n a f t fk tk r d).length ≤ c ∧ Reads w' (.slice (some ⟨g, 0, none⟩) (jW k n a f t fk tk r d).length c) (ints .u64 (jW k n a f t fk tk r d)) ∧ w.heap.size ≤ g) ∧ Kept (jKW w go) w w' := by
  have q := Below.refl w.heap.size w
  have hok := Kept.refl (fun j => j < w.heap.size ∧ j ≠ go) w
  have lgo := r3.lt
  have hlb := isL_b hl
  have hck := fun W (b : Below w.heap.size w W) => jcheck_T k n a f t fk tk r d lb li lr lt k1 k2 la lc ld le W (hS.up b) h
  have hly := fun W => jlay_ok k n a f t fk tk r d li lr hlb.1 hlb.2 h W
  have hjl := jW_len k n a f t fk tk r d
  obtain ⟨ws, ews⟩ : ∃ ws, jW k n a f t fk tk r d = ws := ⟨_, rfl⟩
  obtain ⟨kd, ekd⟩ : ∃ kd, jkdO k = kd := ⟨_, rfl⟩
  rw [ews] at hly hjl ⊢
  rw [ekd] at hck hly
  obtain ⟨N, hN⟩ : ∃ N, ws.length = N := ⟨_, rfl⟩
  unfold jnewW at hly
  rw [hN] at hly ⊢
  clear hS h hlb
  refine X.fn Tryz.func25 rfl (n := 10) rfl rfl ?_
  refine Zr ?_; refine Zv r1 ?_
  refine Zy (R.call rfl rfl rfl) (jlay_T _ _ _ _ _ _ _ _ _ _ _ (by first | assumption | omega)) ?_
  rintro e W22 ⟨rfl, b21⟩
  refine ⟨_, rfl, ?_⟩; have zb21 := b21.size; replace r1 := r1.up b21; replace r2 := r2.up b21; replace r3 := r3.up b21; replace q := Zu q b21; replace hok := Zh hok b21; have y24 := hok.size; refine Zq ?_
  refine CC.growT 4 (by kernel_rfl) (by kernel_rfl) ?_
  refine Gv r1 ?_
  refine Gv r2 ?_
  refine Gc (fun w' b' => hck w' (q.trans (b'.mono q.size))) ?_
  refine Gv r2 ?_
  refine GG.nil (fun W57 b56 => ?_)
  have zb56 := b56.size; replace r1 := r1.up b56; replace r2 := r2.up b56; replace r3 := r3.up b56; replace q := Zu q b56; replace hok := Zh hok b56; have y58 := hok.size; have l63 := r1.lt; have l64 := r2.lt; have l65 := r3.lt
  (refine Zy (R.call rfl rfl rfl) (hly _) ?_; rintro e W62 ⟨v7, rfl, g7, c7, rfl, hc7, r7, hg7, hl7, b59⟩; refine ⟨_, rfl, ?_⟩)
  have zb59 := b59.size; replace r1 := r1.up b59; replace r2 := r2.up b59; replace r3 := r3.up b59; replace q := Zu q b59; replace hok := Zh hok b59; have y69 := hok.size
  refine LL.store rfl rfl rfl rfl r3 (by exact Nat.le_of_ble_eq_true rfl) rfl rfl rfl rfl ?_
  intro W81 r82 b80 z83
  have hlb80 := r3.lt
  replace r82 : RowL W81 _ 33 [.slice (some { block := g7, off := 0 }) N c7] := r82
  clear r3
  replace r7 := r7.gr b80 (by omega)
  replace r1 := Zd r1 b80; replace r2 := Zd r2 b80; replace hok := Zo hok b80
  have r3 := r82
  clear r82
  refine ZL ?_; refine EE.end _ rfl rfl ?_
  exact ⟨rfl, ⟨g7, c7, r3, hc7, r7, by omega⟩, hok⟩
end Go.Proofs.YtaeaokimhbbnfaaGreatDoor
