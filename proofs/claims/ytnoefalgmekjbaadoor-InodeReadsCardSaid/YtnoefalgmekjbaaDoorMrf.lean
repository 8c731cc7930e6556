/- What the statements' walks use: In31, In31a, In31b, In31c, In34, ReadsW, Open, Door. -/
import Derived.Test.YtnoefalgmekjbaaDoorRows
import Derived.ProofKit
import Derived.OpenShut
import Derived.ShutString
import Derived.ChangeOld
import Derived.LaidMore
import Derived.Stop.Joined
import Derived.Lib.LaidTab
import Derived.Test.YtnoefalgmekjbaaDoorMra
import Derived.Test.YtnoefalgmekjbaaDoorMrb
import Derived.Test.YtnoefalgmekjbaaDoorMrc
import Derived.Test.YtnoefalgmekjbaaDoorMre
/- inode: the document's Of, of links (written by gen29.py). -/
namespace Go.Proofs.YtnoefalgmekjbaaDoor
set_option linter.unusedVariables false
set_option linter.unusedSimpArgs false
open Go.RowKit Go.Shelf
set_option maxRecDepth 100000
set_option maxHeartbeats 8000000
theorem bytesL_app (a b : List Nat) : bytesL (a ++ b) = bytesL a ++ bytesL b := by simp [bytesL]
/-- The target that words tell, by the document. -/
def tgD (ws : List Nat) (k : Nat) : Bs := ofN ((bytesL (ws.drop 2)).take k)
theorem tgD_eq (ws : List Nat) (k : Nat) (hl : ws.length = 16) (hk : k ≤ 112) : tgD ws k = tgW ws k := by
  unfold tgD tgW
  have e : ws.drop 2 = (ws.drop 2).take ((k + 7) / 8) ++ (ws.drop 2).drop ((k + 7) / 8) := (List.take_append_drop _ _).symm
  have h : (bytesL (ws.drop 2)).take k = (bytesL ((ws.drop 2).take ((k + 7) / 8))).take k := by
    conv => lhs; rw [e, bytesL_app]
    rw [List.take_append_of_le_length]
    rw [bytesL_length]
    simp
    omega
  rw [h]
theorem rbytes_form (bk off cap : Nat) (ws : List Nat) (w : World) (h : WdsAt w bk off ws) (hl : ws.length = 16) (hb : ∀ x ∈ ws, x < 18446744073709551616) (hc : 16 ≤ cap) : Calls Tryd.prog 44 #[.slice (some ⟨bk, off + 2 * 1, none⟩) (16 - 2) (cap - 2)] w fun e w' => ∃ g c, e = .returned (.slice (some ⟨g, 0, none⟩) 112 c) ∧ 112 ≤ c ∧ Reads w' (.slice (some ⟨g, 0, none⟩) 112 c) (ints .u8 (bytesL (ws.drop 2))) ∧ w.heap.size ≤ g ∧ Below w.heap.size w w' := by
  have hr := h.reads 2 14 (cap - 2) (by omega) (by omega)
  rw [List.take_of_length_le (by simp [hl])] at hr
  have hdl : (ws.drop 2).length = 14 := by simp [hl]
  refine (rbytes_any _ (ws.drop 2) w hr (fun x hx => hb x (List.mem_of_mem_drop hx)) (by omega)).mono ?_
  rintro e w' ⟨v', rfl, o, b⟩
  rw [hdl] at o
  have hr := reads_of_owns o
  rcases o.2 with ⟨_, h0⟩ | ⟨g, c, cur, rfl, hbg, hg, hcc, _⟩
  · omega
  · exact ⟨g, c, rfl, hcc, hr, hbg, b⟩
theorem dof_3L (bk off cap : Nat) (ws : List Nat) (w : World) (x0 x1 x2 x3 l : Nat) (F : FoW bk off ws w x0 x1 x2 x3 l) (hs : x0 < 4294967296 ∧ x1 ≤ 65536) (hk : x0 % 256 = 3) (hcap : 16 ≤ cap) (hl : 112 < x1) : Calls Tryd.prog 19 #[.slice (some ⟨bk, off, none⟩) 16 cap] w fun e w' => e = .returned (.tuple #[zrV, .int .i64 240]) ∧ Below w.heap.size w w' := by
  have q := Below.refl w.heap.size w
  have hWF : ∀ X, Below w.heap.size w X → WdsAt X bk off ws := fun X b => F.W.up b
  have c0 := F.W.cells _ _ F.e0
  have c1 := F.W.cells _ _ F.e1
  have c2 := F.W.cells _ _ F.e2
  have c3 := F.W.cells _ _ F.e3
  have hb0 := F.b _ (List.mem_of_getElem? F.e0)
  have hb1 := F.b _ (List.mem_of_getElem? F.e1)
  have hb2 := F.b _ (List.mem_of_getElem? F.e2)
  have hb3 := F.b _ (List.mem_of_getElem? F.e3)
  have hbk := F.W.lt
  have nz := F.nz
  have el := F.el
  have hwl := F.len
  have hwb := F.b
  clear F
  by_cases hC : 4611686018427387904 < x2
  · refine X.fn Tryd.func19 rfl (n := 145) rfl rfl ?_
    refine Zr ?_
    refine LL.alloc ([.int .i64 0, .int .i64 0, .int .i64 0, .slice none 0 0, .int .i64 0, .int .i64 0, .string { data := { toList := [] } }]) rfl rfl rfl rfl rfl ?_
    intro W9 g10 eg10 r11 z12 b8
    replace q := Zu q b8; replace c0 := cell_up c0 b8; replace c1 := cell_up c1 b8; replace c2 := cell_up c2 b8; replace c3 := cell_up c3 b8; refine Za ?_; refine Zq ?_; refine Zc ?_; refine Zr ?_; refine Zm ?_; refine Zn ?_; refine ZneF ?_; refine Zq ?_; refine ZN ?_; refine ZK ?_; refine ZT ?_; refine Zc ?_; refine Zr ?_; refine Zm ?_; refine Zi ?_; refine Zk ?_; refine ZeqF ?_; refine Zq ?_; refine ZN ?_
    refine ZK ?_; refine ZT ?_; refine Zr ?_; refine Zm ?_; refine Zi ?_; refine Zk ?_
    refine LL.val (R.remUE (b := 256) (z := 3) rfl rfl rfl (by decide) hk) rfl rfl rfl ?_
    refine LL.val (R.convI rfl rfl rfl rfl (wrapI (by omega) (by omega))) rfl rfl rfl ?_
    refine LL.val (R.buildV rfl rfl (v := .agg #[Value.int IntKind.i64 ↑3, Value.int IntKind.i64 0, Value.int IntKind.i64 0, Value.slice none 0 0, Value.int IntKind.i64 0, Value.int IntKind.i64 0, Value.string { data := #[] }]) (fun _ => by kernel_rfl)) rfl rfl rfl ?_
    have l125 := r11.lt
    refine LL.alloc ([.int .i64 0, .int .i64 0, .int .i64 0, .slice none 0 0, .int .i64 0, .int .i64 0, .string { data := { toList := [] } }]) rfl rfl rfl rfl rfl ?_
    intro W127 g128 eg128 r129 z130 b126
    replace r11 := r11.up b126; replace b8 := Zu b8 b126; replace q := Zu q b126; replace c0 := cell_up c0 b126; replace c1 := cell_up c1 b126; replace c2 := cell_up c2 b126; replace c3 := cell_up c3 b126
    refine LL.storeN (vs := [.int .i64 3, .int .i64 0, .int .i64 0, .slice none 0 0, .int .i64 0, .int .i64 0, .string { data := #[] }]) rfl rfl rfl rfl r129 (by exact Nat.le_of_ble_eq_true rfl) (ones_of rfl) rfl rfl ?_
    intro W141 r142 b140 z143
    have hlb140 := r129.lt
    replace r142 : RowL W141 _ 25 [.int .i64 3, .int .i64 0, .int .i64 0, .slice none 0 0, .int .i64 0, .int .i64 0, .string { data := #[] }] := r142
    clear r129
    replace b126 := Zg b126 b140; replace r11 := Zd r11 b140; replace b8 := Zg b8 b140; replace q := Zg q b140; replace c0 := Ze c0 b140; replace c1 := Ze c1 b140; replace c2 := Ze c2 b140; replace c3 := Ze c3 b140
    have r129 := r142
    clear r142
    refine Zq ?_; refine Zc ?_; refine Zr ?_; refine Zm ?_; refine Zi ?_; refine Zk ?_; refine ZgeF ?_; refine Zm ?_; refine Zm ?_; refine Zi ?_; refine Zk ?_; refine ZgtF ?_; refine Zp ?_; refine Zm ?_; refine Zm ?_; refine Zi ?_; refine Zk ?_; refine ZgtT ?_; refine Zp ?_; refine Zm ?_; refine Zs ?_; refine Zs ?_; refine Zs ?_; refine Zs ?_; refine Zp ?_; refine Zq ?_; refine ZY ?_; refine Zr ?_
    refine Zf ?_; refine Zl r129 ?_; refine ZneF ?_; refine Zm ?_; refine Zm ?_; refine Zi ?_; refine Zk ?_; refine ZgeF ?_; refine Zp ?_; refine Zm ?_; refine Zm ?_; refine Zi ?_; refine Zk ?_; refine ZgtF ?_; refine Zp ?_; refine Zq ?_; refine ZN ?_; refine ZK ?_; refine ZT ?_; refine Zr ?_; refine Zm ?_; refine Zi ?_; refine Zk ?_
    refine LL.val (R.quoUE (b := 256) (z := l) rfl rfl rfl (by decide) el (by omega)) rfl rfl rfl ?_
    refine LL.val (R.convI rfl rfl rfl rfl (wrapI (by omega) (by omega))) rfl rfl rfl ?_
    refine Zf ?_
    refine LL.store rfl rfl rfl rfl r129 (by exact Nat.le_of_ble_eq_true rfl) rfl rfl rfl rfl ?_
    intro W496 r497 b495 z498
    have hlb495 := r129.lt
    replace r497 : RowL W496 _ 25 [.int .i64 3, .int .i64 ↑l, .int .i64 0, .slice none 0 0, .int .i64 0, .int .i64 0, .string { data := #[] }] := r497
    clear r129
    replace b126 := Zg b126 b495; replace r11 := Zd r11 b495; replace b8 := Zg b8 b495; replace q := Zg q b495; replace c0 := Ze c0 b495; replace c1 := Ze c1 b495; replace c2 := Ze c2 b495; replace c3 := Ze c3 b495
    have r129 := r497
    clear r497
    refine Zq ?_; refine Zc ?_; refine Zr ?_; refine Zf ?_; refine Zl r129 ?_; refine Zq ?_; refine CC.block ?_; refine Zr ?_; refine ZeqF ?_; refine Za ?_; refine Zq ?_; refine ZN ?_; refine Zr ?_; refine ZeqF ?_; refine Za ?_; refine Zq ?_; refine ZN ?_; refine Zr ?_; refine ZeqT ?_; refine Za ?_; refine Zq ?_; refine ZY ?_; refine Zr ?_; refine Zm ?_
    refine LL.val (R.slice rfl rfl rfl rfl rfl (I.slFrom (lo := 2) rfl (by omega) (by omega) (by omega))) rfl rfl rfl ?_
    have l584 := r11.lt; have l585 := r129.lt
    (refine Zy (R.call rfl rfl rfl) (rbytes_form bk off cap ws _ (hWF _ q) hwl hwb hcap) ?_; rintro e W583 ⟨g8, c8, rfl, hc8, o8, hg8, b580⟩; refine ⟨_, rfl, ?_⟩)
    have zb580 := b580.size; replace b126 := Zu b126 b580; replace r11 := r11.up b580; replace b8 := Zu b8 b580; replace q := Zu q b580; replace c0 := cell_up c0 b580; replace c1 := cell_up c1 b580; replace c2 := cell_up c2 b580; replace c3 := cell_up c3 b580; replace r129 := r129.up b580; refine Za ?_; refine Zq ?_; refine Zc ?_; refine Zr ?_; refine Zm ?_; refine Zi ?_; refine Zk ?_; refine ZgtT ?_
    refine Zq ?_; refine ZY ?_; refine Zr ?_
    refine LL.val (R.buildV rfl rfl (v := .agg #[Value.int IntKind.i64 0, Value.int IntKind.i64 0, Value.int IntKind.i64 0, Value.slice none 0 0, Value.int IntKind.i64 0, Value.int IntKind.i64 0, Value.string { data := #[] }]) (fun _ => by kernel_rfl)) rfl rfl rfl ?_
    refine LL.storeN (vs := [.int .i64 0, .int .i64 0, .int .i64 0, .slice none 0 0, .int .i64 0, .int .i64 0, .string { data := #[] }]) rfl rfl rfl rfl r11 (by exact Nat.le_of_ble_eq_true rfl) (ones_of rfl) rfl rfl ?_
    intro W653 r654 b652 z655
    have hlb652 := r11.lt
    replace r654 : RowL W653 _ 25 [.int .i64 0, .int .i64 0, .int .i64 0, .slice none 0 0, .int .i64 0, .int .i64 0, .string { data := #[] }] := r654
    clear r11
    replace o8 := o8.gr b652 (by omega)
    replace b8 := Zg b8 b652; replace q := Zg q b652; replace c0 := Ze c0 b652; replace c1 := Ze c1 b652; replace c2 := Ze c2 b652; replace c3 := Ze c3 b652; replace r129 := Zd r129 b652
    have r11 := r654
    clear r654
    refine Za ?_; refine Zq ?_; refine ZR ?_; refine EE.thenR ?_; refine EE.inR ?_; refine EE.thenR ?_
    refine EE.ret2 rfl ⟨_, rfl, lvNc (RowL.cells0 (by assumption)) (by rfl) (by rfl)⟩ rfl ?_
    exact ⟨rfl, q⟩
  by_cases hD : 4611686018427387904 < x3
  · refine X.fn Tryd.func19 rfl (n := 145) rfl rfl ?_
    refine Zr ?_
    refine LL.alloc ([.int .i64 0, .int .i64 0, .int .i64 0, .slice none 0 0, .int .i64 0, .int .i64 0, .string { data := { toList := [] } }]) rfl rfl rfl rfl rfl ?_
    intro Wa9 ga10 ega10 ra11 za12 ba8
    replace q := Zu q ba8; replace c0 := cell_up c0 ba8; replace c1 := cell_up c1 ba8; replace c2 := cell_up c2 ba8; replace c3 := cell_up c3 ba8; refine Za ?_; refine Zq ?_; refine Zc ?_; refine Zr ?_; refine Zm ?_; refine Zn ?_; refine ZneF ?_; refine Zq ?_; refine ZN ?_; refine ZK ?_; refine ZT ?_; refine Zc ?_; refine Zr ?_; refine Zm ?_; refine Zi ?_; refine Zk ?_; refine ZeqF ?_; refine Zq ?_
    refine ZN ?_; refine ZK ?_; refine ZT ?_; refine Zr ?_; refine Zm ?_; refine Zi ?_; refine Zk ?_
    refine LL.val (R.remUE (b := 256) (z := 3) rfl rfl rfl (by decide) hk) rfl rfl rfl ?_
    refine LL.val (R.convI rfl rfl rfl rfl (wrapI (by omega) (by omega))) rfl rfl rfl ?_
    refine LL.val (R.buildV rfl rfl (v := .agg #[Value.int IntKind.i64 ↑3, Value.int IntKind.i64 0, Value.int IntKind.i64 0, Value.slice none 0 0, Value.int IntKind.i64 0, Value.int IntKind.i64 0, Value.string { data := #[] }]) (fun _ => by kernel_rfl)) rfl rfl rfl ?_
    have la125 := ra11.lt
    refine LL.alloc ([.int .i64 0, .int .i64 0, .int .i64 0, .slice none 0 0, .int .i64 0, .int .i64 0, .string { data := { toList := [] } }]) rfl rfl rfl rfl rfl ?_
    intro Wa127 ga128 ega128 ra129 za130 ba126
    replace ra11 := ra11.up ba126; replace ba8 := Zu ba8 ba126; replace q := Zu q ba126; replace c0 := cell_up c0 ba126; replace c1 := cell_up c1 ba126; replace c2 := cell_up c2 ba126; replace c3 := cell_up c3 ba126
    refine LL.storeN (vs := [.int .i64 3, .int .i64 0, .int .i64 0, .slice none 0 0, .int .i64 0, .int .i64 0, .string { data := #[] }]) rfl rfl rfl rfl ra129 (by exact Nat.le_of_ble_eq_true rfl) (ones_of rfl) rfl rfl ?_
    intro Wa141 ra142 ba140 za143
    have hlba140 := ra129.lt
    replace ra142 : RowL Wa141 _ 25 [.int .i64 3, .int .i64 0, .int .i64 0, .slice none 0 0, .int .i64 0, .int .i64 0, .string { data := #[] }] := ra142
    clear ra129
    replace ba126 := Zg ba126 ba140; replace ra11 := Zd ra11 ba140; replace ba8 := Zg ba8 ba140; replace q := Zg q ba140; replace c0 := Ze c0 ba140; replace c1 := Ze c1 ba140; replace c2 := Ze c2 ba140; replace c3 := Ze c3 ba140
    have ra129 := ra142
    clear ra142
    refine Zq ?_; refine Zc ?_; refine Zr ?_; refine Zm ?_; refine Zi ?_; refine Zk ?_; refine ZgeF ?_; refine Zm ?_; refine Zm ?_; refine Zi ?_; refine Zk ?_; refine ZgtF ?_; refine Zp ?_; refine Zm ?_; refine Zm ?_; refine Zi ?_; refine Zk ?_; refine ZgtF ?_; refine Zp ?_; refine Zm ?_; refine Zm ?_; refine Zi ?_; refine Zk ?_; refine ZgtT ?_; refine Zp ?_; refine Zq ?_; refine ZY ?_; refine Zr ?_
    refine Zf ?_; refine Zl ra129 ?_; refine ZneF ?_; refine Zm ?_; refine Zm ?_; refine Zi ?_; refine Zk ?_; refine ZgeF ?_; refine Zp ?_; refine Zm ?_; refine Zm ?_; refine Zi ?_; refine Zk ?_; refine ZgtF ?_; refine Zp ?_; refine Zq ?_; refine ZN ?_; refine ZK ?_; refine ZT ?_; refine Zr ?_; refine Zm ?_; refine Zi ?_; refine Zk ?_
    refine LL.val (R.quoUE (b := 256) (z := l) rfl rfl rfl (by decide) el (by omega)) rfl rfl rfl ?_
    refine LL.val (R.convI rfl rfl rfl rfl (wrapI (by omega) (by omega))) rfl rfl rfl ?_
    refine Zf ?_
    refine LL.store rfl rfl rfl rfl ra129 (by exact Nat.le_of_ble_eq_true rfl) rfl rfl rfl rfl ?_
    intro Wa532 ra533 ba531 za534
    have hlba531 := ra129.lt
    replace ra533 : RowL Wa532 _ 25 [.int .i64 3, .int .i64 ↑l, .int .i64 0, .slice none 0 0, .int .i64 0, .int .i64 0, .string { data := #[] }] := ra533
    clear ra129
    replace ba126 := Zg ba126 ba531; replace ra11 := Zd ra11 ba531; replace ba8 := Zg ba8 ba531; replace q := Zg q ba531; replace c0 := Ze c0 ba531; replace c1 := Ze c1 ba531; replace c2 := Ze c2 ba531; replace c3 := Ze c3 ba531
    have ra129 := ra533
    clear ra533
    refine Zq ?_; refine Zc ?_; refine Zr ?_; refine Zf ?_; refine Zl ra129 ?_; refine Zq ?_; refine CC.block ?_; refine Zr ?_; refine ZeqF ?_; refine Za ?_; refine Zq ?_; refine ZN ?_; refine Zr ?_; refine ZeqF ?_; refine Za ?_; refine Zq ?_; refine ZN ?_; refine Zr ?_; refine ZeqT ?_; refine Za ?_; refine Zq ?_; refine ZY ?_; refine Zr ?_; refine Zm ?_
    refine LL.val (R.slice rfl rfl rfl rfl rfl (I.slFrom (lo := 2) rfl (by omega) (by omega) (by omega))) rfl rfl rfl ?_
    have la620 := ra11.lt; have la621 := ra129.lt
    (refine Zy (R.call rfl rfl rfl) (rbytes_form bk off cap ws _ (hWF _ q) hwl hwb hcap) ?_; rintro e Wa619 ⟨g8, c8, rfl, hc8, o8, hg8, ba616⟩; refine ⟨_, rfl, ?_⟩)
    have zba616 := ba616.size; replace ba126 := Zu ba126 ba616; replace ra11 := ra11.up ba616; replace ba8 := Zu ba8 ba616; replace q := Zu q ba616; replace c0 := cell_up c0 ba616; replace c1 := cell_up c1 ba616; replace c2 := cell_up c2 ba616; replace c3 := cell_up c3 ba616; replace ra129 := ra129.up ba616; refine Za ?_; refine Zq ?_; refine Zc ?_; refine Zr ?_; refine Zm ?_; refine Zi ?_; refine Zk ?_
    refine ZgtT ?_; refine Zq ?_; refine ZY ?_; refine Zr ?_
    refine LL.val (R.buildV rfl rfl (v := .agg #[Value.int IntKind.i64 0, Value.int IntKind.i64 0, Value.int IntKind.i64 0, Value.slice none 0 0, Value.int IntKind.i64 0, Value.int IntKind.i64 0, Value.string { data := #[] }]) (fun _ => by kernel_rfl)) rfl rfl rfl ?_
    refine LL.storeN (vs := [.int .i64 0, .int .i64 0, .int .i64 0, .slice none 0 0, .int .i64 0, .int .i64 0, .string { data := #[] }]) rfl rfl rfl rfl ra11 (by exact Nat.le_of_ble_eq_true rfl) (ones_of rfl) rfl rfl ?_
    intro Wa689 ra690 ba688 za691
    have hlba688 := ra11.lt
    replace ra690 : RowL Wa689 _ 25 [.int .i64 0, .int .i64 0, .int .i64 0, .slice none 0 0, .int .i64 0, .int .i64 0, .string { data := #[] }] := ra690
    clear ra11
    replace o8 := o8.gr ba688 (by omega)
    replace ba8 := Zg ba8 ba688; replace q := Zg q ba688; replace c0 := Ze c0 ba688; replace c1 := Ze c1 ba688; replace c2 := Ze c2 ba688; replace c3 := Ze c3 ba688; replace ra129 := Zd ra129 ba688
    have ra11 := ra690
    clear ra690
    refine Za ?_; refine Zq ?_; refine ZR ?_; refine EE.thenR ?_; refine EE.inR ?_; refine EE.thenR ?_
    refine EE.ret2 rfl ⟨_, rfl, lvNc (RowL.cells0 (by assumption)) (by rfl) (by rfl)⟩ rfl ?_
    exact ⟨rfl, q⟩
  · refine X.fn Tryd.func19 rfl (n := 145) rfl rfl ?_
    refine Zr ?_
    refine LL.alloc ([.int .i64 0, .int .i64 0, .int .i64 0, .slice none 0 0, .int .i64 0, .int .i64 0, .string { data := { toList := [] } }]) rfl rfl rfl rfl rfl ?_
    intro Wb9 gb10 egb10 rb11 zb12 bb8
    replace q := Zu q bb8; replace c0 := cell_up c0 bb8; replace c1 := cell_up c1 bb8; replace c2 := cell_up c2 bb8; replace c3 := cell_up c3 bb8; refine Za ?_; refine Zq ?_; refine Zc ?_; refine Zr ?_; refine Zm ?_; refine Zn ?_; refine ZneF ?_; refine Zq ?_; refine ZN ?_; refine ZK ?_; refine ZT ?_; refine Zc ?_; refine Zr ?_; refine Zm ?_; refine Zi ?_; refine Zk ?_; refine ZeqF ?_; refine Zq ?_
    refine ZN ?_; refine ZK ?_; refine ZT ?_; refine Zr ?_; refine Zm ?_; refine Zi ?_; refine Zk ?_
    refine LL.val (R.remUE (b := 256) (z := 3) rfl rfl rfl (by decide) hk) rfl rfl rfl ?_
    refine LL.val (R.convI rfl rfl rfl rfl (wrapI (by omega) (by omega))) rfl rfl rfl ?_
    refine LL.val (R.buildV rfl rfl (v := .agg #[Value.int IntKind.i64 ↑3, Value.int IntKind.i64 0, Value.int IntKind.i64 0, Value.slice none 0 0, Value.int IntKind.i64 0, Value.int IntKind.i64 0, Value.string { data := #[] }]) (fun _ => by kernel_rfl)) rfl rfl rfl ?_
    have lb125 := rb11.lt
    refine LL.alloc ([.int .i64 0, .int .i64 0, .int .i64 0, .slice none 0 0, .int .i64 0, .int .i64 0, .string { data := { toList := [] } }]) rfl rfl rfl rfl rfl ?_
    intro Wb127 gb128 egb128 rb129 zb130 bb126
    replace rb11 := rb11.up bb126; replace bb8 := Zu bb8 bb126; replace q := Zu q bb126; replace c0 := cell_up c0 bb126; replace c1 := cell_up c1 bb126; replace c2 := cell_up c2 bb126; replace c3 := cell_up c3 bb126
    refine LL.storeN (vs := [.int .i64 3, .int .i64 0, .int .i64 0, .slice none 0 0, .int .i64 0, .int .i64 0, .string { data := #[] }]) rfl rfl rfl rfl rb129 (by exact Nat.le_of_ble_eq_true rfl) (ones_of rfl) rfl rfl ?_
    intro Wb141 rb142 bb140 zb143
    have hlbb140 := rb129.lt
    replace rb142 : RowL Wb141 _ 25 [.int .i64 3, .int .i64 0, .int .i64 0, .slice none 0 0, .int .i64 0, .int .i64 0, .string { data := #[] }] := rb142
    clear rb129
    replace bb126 := Zg bb126 bb140; replace rb11 := Zd rb11 bb140; replace bb8 := Zg bb8 bb140; replace q := Zg q bb140; replace c0 := Ze c0 bb140; replace c1 := Ze c1 bb140; replace c2 := Ze c2 bb140; replace c3 := Ze c3 bb140
    have rb129 := rb142
    clear rb142
    refine Zq ?_; refine Zc ?_; refine Zr ?_; refine Zm ?_; refine Zi ?_; refine Zk ?_; refine ZgeF ?_; refine Zm ?_; refine Zm ?_; refine Zi ?_; refine Zk ?_; refine ZgtF ?_; refine Zp ?_; refine Zm ?_; refine Zm ?_; refine Zi ?_; refine Zk ?_; refine ZgtF ?_; refine Zp ?_; refine Zm ?_; refine Zm ?_; refine Zi ?_; refine Zk ?_; refine ZgtF ?_; refine Zp ?_; refine Zq ?_; refine ZN ?_; refine ZK ?_
    refine ZT ?_; refine Zr ?_; refine Zm ?_; refine Zi ?_; refine Zk ?_
    refine LL.val (R.quoUE (b := 256) (z := l) rfl rfl rfl (by decide) el (by omega)) rfl rfl rfl ?_
    refine LL.val (R.convI rfl rfl rfl rfl (wrapI (by omega) (by omega))) rfl rfl rfl ?_
    refine Zf ?_
    refine LL.store rfl rfl rfl rfl rb129 (by exact Nat.le_of_ble_eq_true rfl) rfl rfl rfl rfl ?_
    intro Wb397 rb398 bb396 zb399
    have hlbb396 := rb129.lt
    replace rb398 : RowL Wb397 _ 25 [.int .i64 3, .int .i64 ↑l, .int .i64 0, .slice none 0 0, .int .i64 0, .int .i64 0, .string { data := #[] }] := rb398
    clear rb129
    replace bb126 := Zg bb126 bb396; replace rb11 := Zd rb11 bb396; replace bb8 := Zg bb8 bb396; replace q := Zg q bb396; replace c0 := Ze c0 bb396; replace c1 := Ze c1 bb396; replace c2 := Ze c2 bb396; replace c3 := Ze c3 bb396
    have rb129 := rb398
    clear rb398
    refine Zq ?_; refine Zc ?_; refine Zr ?_; refine Zf ?_; refine Zl rb129 ?_; refine Zq ?_; refine CC.block ?_; refine Zr ?_; refine ZeqF ?_; refine Za ?_; refine Zq ?_; refine ZN ?_; refine Zr ?_; refine ZeqF ?_; refine Za ?_; refine Zq ?_; refine ZN ?_; refine Zr ?_; refine ZeqT ?_; refine Za ?_; refine Zq ?_; refine ZY ?_; refine Zr ?_; refine Zm ?_
    refine LL.val (R.slice rfl rfl rfl rfl rfl (I.slFrom (lo := 2) rfl (by omega) (by omega) (by omega))) rfl rfl rfl ?_
    have lb485 := rb11.lt; have lb486 := rb129.lt
    (refine Zy (R.call rfl rfl rfl) (rbytes_form bk off cap ws _ (hWF _ q) hwl hwb hcap) ?_; rintro e Wb484 ⟨g8, c8, rfl, hc8, o8, hg8, bb481⟩; refine ⟨_, rfl, ?_⟩)
    have zbb481 := bb481.size; replace bb126 := Zu bb126 bb481; replace rb11 := rb11.up bb481; replace bb8 := Zu bb8 bb481; replace q := Zu q bb481; replace c0 := cell_up c0 bb481; replace c1 := cell_up c1 bb481; replace c2 := cell_up c2 bb481; replace c3 := cell_up c3 bb481; replace rb129 := rb129.up bb481; refine Za ?_; refine Zq ?_; refine Zc ?_; refine Zr ?_; refine Zm ?_; refine Zi ?_; refine Zk ?_
    refine ZgtT ?_; refine Zq ?_; refine ZY ?_; refine Zr ?_
    refine LL.val (R.buildV rfl rfl (v := .agg #[Value.int IntKind.i64 0, Value.int IntKind.i64 0, Value.int IntKind.i64 0, Value.slice none 0 0, Value.int IntKind.i64 0, Value.int IntKind.i64 0, Value.string { data := #[] }]) (fun _ => by kernel_rfl)) rfl rfl rfl ?_
    refine LL.storeN (vs := [.int .i64 0, .int .i64 0, .int .i64 0, .slice none 0 0, .int .i64 0, .int .i64 0, .string { data := #[] }]) rfl rfl rfl rfl rb11 (by exact Nat.le_of_ble_eq_true rfl) (ones_of rfl) rfl rfl ?_
    intro Wb554 rb555 bb553 zb556
    have hlbb553 := rb11.lt
    replace rb555 : RowL Wb554 _ 25 [.int .i64 0, .int .i64 0, .int .i64 0, .slice none 0 0, .int .i64 0, .int .i64 0, .string { data := #[] }] := rb555
    clear rb11
    replace o8 := o8.gr bb553 (by omega)
    replace bb8 := Zg bb8 bb553; replace q := Zg q bb553; replace c0 := Ze c0 bb553; replace c1 := Ze c1 bb553; replace c2 := Ze c2 bb553; replace c3 := Ze c3 bb553; replace rb129 := Zd rb129 bb553
    have rb11 := rb555
    clear rb555
    refine Za ?_; refine Zq ?_; refine ZR ?_; refine EE.thenR ?_; refine EE.inR ?_; refine EE.thenR ?_
    refine EE.ret2 rfl ⟨_, rfl, lvNc (RowL.cells0 (by assumption)) (by rfl) (by rfl)⟩ rfl ?_
    exact ⟨rfl, q⟩
theorem dof_3C (bk off cap : Nat) (ws : List Nat) (w : World) (x0 x1 x2 x3 l : Nat) (F : FoW bk off ws w x0 x1 x2 x3 l) (hs : x0 < 4294967296 ∧ x1 ≤ 65536) (hk : x0 % 256 = 3) (hcap : 16 ≤ cap) (hl : x1 ≤ 112) (hno : ¬okI 3 (l : Int) 0 [] 0 0 (tgD ws x1)) : Calls Tryd.prog 19 #[.slice (some ⟨bk, off, none⟩) 16 cap] w fun e w' => e = .returned (.tuple #[zrV, .int .i64 240]) ∧ Below w.heap.size w w' := by
  have q := Below.refl w.heap.size w
  have hWF : ∀ X, Below w.heap.size w X → WdsAt X bk off ws := fun X b => F.W.up b
  have c0 := F.W.cells _ _ F.e0
  have c1 := F.W.cells _ _ F.e1
  have c2 := F.W.cells _ _ F.e2
  have c3 := F.W.cells _ _ F.e3
  have hb0 := F.b _ (List.mem_of_getElem? F.e0)
  have hb1 := F.b _ (List.mem_of_getElem? F.e1)
  have hb2 := F.b _ (List.mem_of_getElem? F.e2)
  have hb3 := F.b _ (List.mem_of_getElem? F.e3)
  have hbk := F.W.lt
  have nz := F.nz
  have el := F.el
  have hwn := fun W => rinW_no 3 (l : Int) 0 none 0 0 [] 0 0 (tgD ws x1) W (ReadsT.nil _) (by decide) (by unfold tgD ofN; simp; omega) hno
  have hwl := F.len
  have hwb := F.b
  clear F
  by_cases hC : 4611686018427387904 < x2
  · refine X.fn Tryd.func19 rfl (n := 145) rfl rfl ?_
    refine Zr ?_
    refine LL.alloc ([.int .i64 0, .int .i64 0, .int .i64 0, .slice none 0 0, .int .i64 0, .int .i64 0, .string { data := { toList := [] } }]) rfl rfl rfl rfl rfl ?_
    intro W16 g17 eg17 r18 z19 b15
    replace q := Zu q b15; replace c0 := cell_up c0 b15; replace c1 := cell_up c1 b15; replace c2 := cell_up c2 b15; replace c3 := cell_up c3 b15; refine Za ?_; refine Zq ?_; refine Zc ?_; refine Zr ?_; refine Zm ?_; refine Zn ?_; refine ZneF ?_; refine Zq ?_; refine ZN ?_; refine ZK ?_; refine ZT ?_; refine Zc ?_; refine Zr ?_; refine Zm ?_; refine Zi ?_; refine Zk ?_; refine ZeqF ?_; refine Zq ?_
    refine ZN ?_; refine ZK ?_; refine ZT ?_; refine Zr ?_; refine Zm ?_; refine Zi ?_; refine Zk ?_
    refine LL.val (R.remUE (b := 256) (z := 3) rfl rfl rfl (by decide) hk) rfl rfl rfl ?_
    refine LL.val (R.convI rfl rfl rfl rfl (wrapI (by omega) (by omega))) rfl rfl rfl ?_
    refine LL.val (R.buildV rfl rfl (v := .agg #[Value.int IntKind.i64 ↑3, Value.int IntKind.i64 0, Value.int IntKind.i64 0, Value.slice none 0 0, Value.int IntKind.i64 0, Value.int IntKind.i64 0, Value.string { data := #[] }]) (fun _ => by kernel_rfl)) rfl rfl rfl ?_
    have l244 := r18.lt
    refine LL.alloc ([.int .i64 0, .int .i64 0, .int .i64 0, .slice none 0 0, .int .i64 0, .int .i64 0, .string { data := { toList := [] } }]) rfl rfl rfl rfl rfl ?_
    intro W246 g247 eg247 r248 z249 b245
    replace r18 := r18.up b245; replace b15 := Zu b15 b245; replace q := Zu q b245; replace c0 := cell_up c0 b245; replace c1 := cell_up c1 b245; replace c2 := cell_up c2 b245; replace c3 := cell_up c3 b245
    refine LL.storeN (vs := [.int .i64 3, .int .i64 0, .int .i64 0, .slice none 0 0, .int .i64 0, .int .i64 0, .string { data := #[] }]) rfl rfl rfl rfl r248 (by exact Nat.le_of_ble_eq_true rfl) (ones_of rfl) rfl rfl ?_
    intro W269 r270 b268 z271
    have hlb268 := r248.lt
    replace r270 : RowL W269 _ 25 [.int .i64 3, .int .i64 0, .int .i64 0, .slice none 0 0, .int .i64 0, .int .i64 0, .string { data := #[] }] := r270
    clear r248
    replace b245 := Zg b245 b268; replace r18 := Zd r18 b268; replace b15 := Zg b15 b268; replace q := Zg q b268; replace c0 := Ze c0 b268; replace c1 := Ze c1 b268; replace c2 := Ze c2 b268; replace c3 := Ze c3 b268
    have r248 := r270
    clear r270
    refine Zq ?_; refine Zc ?_; refine Zr ?_; refine Zm ?_; refine Zi ?_; refine Zk ?_; refine ZgeF ?_; refine Zm ?_; refine Zm ?_; refine Zi ?_; refine Zk ?_; refine ZgtF ?_; refine Zp ?_; refine Zm ?_; refine Zm ?_; refine Zi ?_; refine Zk ?_; refine ZgtT ?_; refine Zp ?_; refine Zm ?_; refine Zs ?_; refine Zs ?_; refine Zs ?_; refine Zs ?_; refine Zp ?_; refine Zq ?_; refine ZY ?_; refine Zr ?_
    refine Zf ?_; refine Zl r248 ?_; refine ZneF ?_; refine Zm ?_; refine Zm ?_; refine Zi ?_; refine Zk ?_; refine ZgeF ?_; refine Zp ?_; refine Zm ?_; refine Zm ?_; refine Zi ?_; refine Zk ?_; refine ZgtF ?_; refine Zp ?_; refine Zq ?_; refine ZN ?_; refine ZK ?_; refine ZT ?_; refine Zr ?_; refine Zm ?_; refine Zi ?_; refine Zk ?_
    refine LL.val (R.quoUE (b := 256) (z := l) rfl rfl rfl (by decide) el (by omega)) rfl rfl rfl ?_
    refine LL.val (R.convI rfl rfl rfl rfl (wrapI (by omega) (by omega))) rfl rfl rfl ?_
    refine Zf ?_
    refine LL.store rfl rfl rfl rfl r248 (by exact Nat.le_of_ble_eq_true rfl) rfl rfl rfl rfl ?_
    intro W975 r976 b974 z977
    have hlb974 := r248.lt
    replace r976 : RowL W975 _ 25 [.int .i64 3, .int .i64 ↑l, .int .i64 0, .slice none 0 0, .int .i64 0, .int .i64 0, .string { data := #[] }] := r976
    clear r248
    replace b245 := Zg b245 b974; replace r18 := Zd r18 b974; replace b15 := Zg b15 b974; replace q := Zg q b974; replace c0 := Ze c0 b974; replace c1 := Ze c1 b974; replace c2 := Ze c2 b974; replace c3 := Ze c3 b974
    have r248 := r976
    clear r976
    refine Zq ?_; refine Zc ?_; refine Zr ?_; refine Zf ?_; refine Zl r248 ?_; refine Zq ?_; refine CC.block ?_; refine Zr ?_; refine ZeqF ?_; refine Za ?_; refine Zq ?_; refine ZN ?_; refine Zr ?_; refine ZeqF ?_; refine Za ?_; refine Zq ?_; refine ZN ?_; refine Zr ?_; refine ZeqT ?_; refine Za ?_; refine Zq ?_; refine ZY ?_; refine Zr ?_; refine Zm ?_
    refine LL.val (R.slice rfl rfl rfl rfl rfl (I.slFrom (lo := 2) rfl (by omega) (by omega) (by omega))) rfl rfl rfl ?_
    have l1144 := r18.lt; have l1145 := r248.lt
    (refine Zy (R.call rfl rfl rfl) (rbytes_form bk off cap ws _ (hWF _ q) hwl hwb hcap) ?_; rintro e W1143 ⟨g8, c8, rfl, hc8, o8, hg8, b1140⟩; refine ⟨_, rfl, ?_⟩)
    have zb1140 := b1140.size; replace b245 := Zu b245 b1140; replace r18 := r18.up b1140; replace b15 := Zu b15 b1140; replace q := Zu q b1140; replace c0 := cell_up c0 b1140; replace c1 := cell_up c1 b1140; replace c2 := cell_up c2 b1140; replace c3 := cell_up c3 b1140; replace r248 := r248.up b1140; refine Za ?_; refine Zq ?_; refine Zc ?_; refine Zr ?_; refine Zm ?_; refine Zi ?_; refine Zk ?_
    refine ZgtF ?_; refine Zq ?_; refine ZN ?_; refine ZK ?_; refine ZT ?_; refine CC.region ?_; refine Zm ?_; refine Zm ?_; refine Zi ?_; refine Zk ?_
    (have o9 := o8.take x1 (by omega) c8 (by omega); clear o8; rw [show (ints .u8 (bytesL (ws.drop 2))).take x1 = ints .u8 ((bytesL (ws.drop 2)).take x1) by simp [ints]] at o9; refine LL.val (R.slice rfl rfl rfl rfl rfl (I.slToK rfl (by omega))) rfl rfl rfl ?_)
    refine LL.val (R.conv rfl rfl (run_toStr rfl rfl o9)) rfl rfl rfl ?_
    refine Zf ?_
    refine LL.store rfl rfl rfl rfl r248 (by exact Nat.le_of_ble_eq_true rfl) rfl rfl rfl rfl ?_
    intro W1366 r1367 b1365 z1368
    have hlb1365 := r248.lt
    replace r1367 : RowL W1366 _ 25 [.int .i64 3, .int .i64 ↑l, .int .i64 0, .slice none 0 0, .int .i64 0, .int .i64 0, .string (strB (List.take x1 (bytesL (List.drop 2 ws))))] := r1367
    clear r248
    replace b245 := Zg b245 b1365; replace r18 := Zd r18 b1365; replace b15 := Zg b15 b1365; replace q := Zg q b1365; replace c0 := Ze c0 b1365; replace c1 := Ze c1 b1365; replace c2 := Ze c2 b1365; replace c3 := Ze c3 b1365
    replace o9 := o9.gr b1365 (by omega)
    have r248 := r1367
    clear r1367
    refine ZL ?_; refine EE.inN ?_; refine ZT ?_; refine Zr ?_; refine Zv r248 ?_; have l1400 := r18.lt; have l1401 := r248.lt
    (refine Zy (R.call rfl rfl rfl) (hwn _) ?_; rintro e W1399 ⟨rfl, b1396⟩; refine ⟨_, rfl, ?_⟩)
    have zb1396 := b1396.size; replace b245 := Zu b245 b1396; replace r18 := r18.up b1396; replace b15 := Zu b15 b1396; replace q := Zu q b1396; replace c0 := cell_up c0 b1396; replace c1 := cell_up c1 b1396; replace c2 := cell_up c2 b1396; replace c3 := cell_up c3 b1396; replace o9 := o9.up b1396; replace r248 := r248.up b1396; refine Zm ?_; refine Zx ?_; refine Zx ?_; refine Za ?_; refine Za ?_; refine Zq ?_
    refine Zc ?_; refine Zr ?_; refine Zm ?_; refine ZneT ?_; refine Zm ?_; refine Zs ?_; refine Zs ?_; refine Zs ?_; refine Zs ?_; refine Zp ?_; refine Zq ?_; refine ZY ?_; refine Zr ?_
    refine LL.val (R.buildV rfl rfl (v := .agg #[Value.int IntKind.i64 0, Value.int IntKind.i64 0, Value.int IntKind.i64 0, Value.slice none 0 0, Value.int IntKind.i64 0, Value.int IntKind.i64 0, Value.string { data := #[] }]) (fun _ => by kernel_rfl)) rfl rfl rfl ?_
    refine LL.storeN (vs := [.int .i64 0, .int .i64 0, .int .i64 0, .slice none 0 0, .int .i64 0, .int .i64 0, .string { data := #[] }]) rfl rfl rfl rfl r18 (by exact Nat.le_of_ble_eq_true rfl) (ones_of rfl) rfl rfl ?_
    intro W1604 r1605 b1603 z1606
    have hlb1603 := r18.lt
    replace r1605 : RowL W1604 _ 25 [.int .i64 0, .int .i64 0, .int .i64 0, .slice none 0 0, .int .i64 0, .int .i64 0, .string { data := #[] }] := r1605
    clear r18
    replace b15 := Zg b15 b1603; replace q := Zg q b1603; replace c0 := Ze c0 b1603; replace c1 := Ze c1 b1603; replace c2 := Ze c2 b1603; replace c3 := Ze c3 b1603
    replace o9 := o9.gr b1603 (by omega)
    replace r248 := Zd r248 b1603
    have r18 := r1605
    clear r1605
    refine Za ?_; refine Zq ?_; refine ZR ?_; refine EE.thenR ?_
    refine EE.ret2 rfl ⟨_, rfl, lvNc (RowL.cells0 (by assumption)) (by rfl) (by rfl)⟩ rfl ?_
    exact ⟨rfl, q⟩
  by_cases hD : 4611686018427387904 < x3
  · refine X.fn Tryd.func19 rfl (n := 145) rfl rfl ?_
    refine Zr ?_
    refine LL.alloc ([.int .i64 0, .int .i64 0, .int .i64 0, .slice none 0 0, .int .i64 0, .int .i64 0, .string { data := { toList := [] } }]) rfl rfl rfl rfl rfl ?_
    intro Wa16 ga17 ega17 ra18 za19 ba15
    replace q := Zu q ba15; replace c0 := cell_up c0 ba15; replace c1 := cell_up c1 ba15; replace c2 := cell_up c2 ba15; replace c3 := cell_up c3 ba15; refine Za ?_; refine Zq ?_; refine Zc ?_; refine Zr ?_; refine Zm ?_; refine Zn ?_; refine ZneF ?_; refine Zq ?_; refine ZN ?_; refine ZK ?_; refine ZT ?_; refine Zc ?_; refine Zr ?_; refine Zm ?_; refine Zi ?_; refine Zk ?_; refine ZeqF ?_; refine Zq ?_
    refine ZN ?_; refine ZK ?_; refine ZT ?_; refine Zr ?_; refine Zm ?_; refine Zi ?_; refine Zk ?_
    refine LL.val (R.remUE (b := 256) (z := 3) rfl rfl rfl (by decide) hk) rfl rfl rfl ?_
    refine LL.val (R.convI rfl rfl rfl rfl (wrapI (by omega) (by omega))) rfl rfl rfl ?_
    refine LL.val (R.buildV rfl rfl (v := .agg #[Value.int IntKind.i64 ↑3, Value.int IntKind.i64 0, Value.int IntKind.i64 0, Value.slice none 0 0, Value.int IntKind.i64 0, Value.int IntKind.i64 0, Value.string { data := #[] }]) (fun _ => by kernel_rfl)) rfl rfl rfl ?_
    have la244 := ra18.lt
    refine LL.alloc ([.int .i64 0, .int .i64 0, .int .i64 0, .slice none 0 0, .int .i64 0, .int .i64 0, .string { data := { toList := [] } }]) rfl rfl rfl rfl rfl ?_
    intro Wa246 ga247 ega247 ra248 za249 ba245
    replace ra18 := ra18.up ba245; replace ba15 := Zu ba15 ba245; replace q := Zu q ba245; replace c0 := cell_up c0 ba245; replace c1 := cell_up c1 ba245; replace c2 := cell_up c2 ba245; replace c3 := cell_up c3 ba245
    refine LL.storeN (vs := [.int .i64 3, .int .i64 0, .int .i64 0, .slice none 0 0, .int .i64 0, .int .i64 0, .string { data := #[] }]) rfl rfl rfl rfl ra248 (by exact Nat.le_of_ble_eq_true rfl) (ones_of rfl) rfl rfl ?_
    intro Wa269 ra270 ba268 za271
    have hlba268 := ra248.lt
    replace ra270 : RowL Wa269 _ 25 [.int .i64 3, .int .i64 0, .int .i64 0, .slice none 0 0, .int .i64 0, .int .i64 0, .string { data := #[] }] := ra270
    clear ra248
    replace ba245 := Zg ba245 ba268; replace ra18 := Zd ra18 ba268; replace ba15 := Zg ba15 ba268; replace q := Zg q ba268; replace c0 := Ze c0 ba268; replace c1 := Ze c1 ba268; replace c2 := Ze c2 ba268; replace c3 := Ze c3 ba268
    have ra248 := ra270
    clear ra270
    refine Zq ?_; refine Zc ?_; refine Zr ?_; refine Zm ?_; refine Zi ?_; refine Zk ?_; refine ZgeF ?_; refine Zm ?_; refine Zm ?_; refine Zi ?_; refine Zk ?_; refine ZgtF ?_; refine Zp ?_; refine Zm ?_; refine Zm ?_; refine Zi ?_; refine Zk ?_; refine ZgtF ?_; refine Zp ?_; refine Zm ?_; refine Zm ?_; refine Zi ?_; refine Zk ?_; refine ZgtT ?_; refine Zp ?_; refine Zq ?_; refine ZY ?_; refine Zr ?_
    refine Zf ?_; refine Zl ra248 ?_; refine ZneF ?_; refine Zm ?_; refine Zm ?_; refine Zi ?_; refine Zk ?_; refine ZgeF ?_; refine Zp ?_; refine Zm ?_; refine Zm ?_; refine Zi ?_; refine Zk ?_; refine ZgtF ?_; refine Zp ?_; refine Zq ?_; refine ZN ?_; refine ZK ?_; refine ZT ?_; refine Zr ?_; refine Zm ?_; refine Zi ?_; refine Zk ?_
    refine LL.val (R.quoUE (b := 256) (z := l) rfl rfl rfl (by decide) el (by omega)) rfl rfl rfl ?_
    refine LL.val (R.convI rfl rfl rfl rfl (wrapI (by omega) (by omega))) rfl rfl rfl ?_
    refine Zf ?_
    refine LL.store rfl rfl rfl rfl ra248 (by exact Nat.le_of_ble_eq_true rfl) rfl rfl rfl rfl ?_
    intro Wa1047 ra1048 ba1046 za1049
    have hlba1046 := ra248.lt
    replace ra1048 : RowL Wa1047 _ 25 [.int .i64 3, .int .i64 ↑l, .int .i64 0, .slice none 0 0, .int .i64 0, .int .i64 0, .string { data := #[] }] := ra1048
    clear ra248
    replace ba245 := Zg ba245 ba1046; replace ra18 := Zd ra18 ba1046; replace ba15 := Zg ba15 ba1046; replace q := Zg q ba1046; replace c0 := Ze c0 ba1046; replace c1 := Ze c1 ba1046; replace c2 := Ze c2 ba1046; replace c3 := Ze c3 ba1046
    have ra248 := ra1048
    clear ra1048
    refine Zq ?_; refine Zc ?_; refine Zr ?_; refine Zf ?_; refine Zl ra248 ?_; refine Zq ?_; refine CC.block ?_; refine Zr ?_; refine ZeqF ?_; refine Za ?_; refine Zq ?_; refine ZN ?_; refine Zr ?_; refine ZeqF ?_; refine Za ?_; refine Zq ?_; refine ZN ?_; refine Zr ?_; refine ZeqT ?_; refine Za ?_; refine Zq ?_; refine ZY ?_; refine Zr ?_; refine Zm ?_
    refine LL.val (R.slice rfl rfl rfl rfl rfl (I.slFrom (lo := 2) rfl (by omega) (by omega) (by omega))) rfl rfl rfl ?_
    have la1216 := ra18.lt; have la1217 := ra248.lt
    (refine Zy (R.call rfl rfl rfl) (rbytes_form bk off cap ws _ (hWF _ q) hwl hwb hcap) ?_; rintro e Wa1215 ⟨g8, c8, rfl, hc8, o8, hg8, ba1212⟩; refine ⟨_, rfl, ?_⟩)
    have zba1212 := ba1212.size; replace ba245 := Zu ba245 ba1212; replace ra18 := ra18.up ba1212; replace ba15 := Zu ba15 ba1212; replace q := Zu q ba1212; replace c0 := cell_up c0 ba1212; replace c1 := cell_up c1 ba1212; replace c2 := cell_up c2 ba1212; replace c3 := cell_up c3 ba1212; replace ra248 := ra248.up ba1212; refine Za ?_; refine Zq ?_; refine Zc ?_; refine Zr ?_; refine Zm ?_; refine Zi ?_
    refine Zk ?_; refine ZgtF ?_; refine Zq ?_; refine ZN ?_; refine ZK ?_; refine ZT ?_; refine CC.region ?_; refine Zm ?_; refine Zm ?_; refine Zi ?_; refine Zk ?_
    (have o9 := o8.take x1 (by omega) c8 (by omega); clear o8; rw [show (ints .u8 (bytesL (ws.drop 2))).take x1 = ints .u8 ((bytesL (ws.drop 2)).take x1) by simp [ints]] at o9; refine LL.val (R.slice rfl rfl rfl rfl rfl (I.slToK rfl (by omega))) rfl rfl rfl ?_)
    refine LL.val (R.conv rfl rfl (run_toStr rfl rfl o9)) rfl rfl rfl ?_
    refine Zf ?_
    refine LL.store rfl rfl rfl rfl ra248 (by exact Nat.le_of_ble_eq_true rfl) rfl rfl rfl rfl ?_
    intro Wa1438 ra1439 ba1437 za1440
    have hlba1437 := ra248.lt
    replace ra1439 : RowL Wa1438 _ 25 [.int .i64 3, .int .i64 ↑l, .int .i64 0, .slice none 0 0, .int .i64 0, .int .i64 0, .string (strB (List.take x1 (bytesL (List.drop 2 ws))))] := ra1439
    clear ra248
    replace ba245 := Zg ba245 ba1437; replace ra18 := Zd ra18 ba1437; replace ba15 := Zg ba15 ba1437; replace q := Zg q ba1437; replace c0 := Ze c0 ba1437; replace c1 := Ze c1 ba1437; replace c2 := Ze c2 ba1437; replace c3 := Ze c3 ba1437
    replace o9 := o9.gr ba1437 (by omega)
    have ra248 := ra1439
    clear ra1439
    refine ZL ?_; refine EE.inN ?_; refine ZT ?_; refine Zr ?_; refine Zv ra248 ?_; have la1472 := ra18.lt; have la1473 := ra248.lt
    (refine Zy (R.call rfl rfl rfl) (hwn _) ?_; rintro e Wa1471 ⟨rfl, ba1468⟩; refine ⟨_, rfl, ?_⟩)
    have zba1468 := ba1468.size; replace ba245 := Zu ba245 ba1468; replace ra18 := ra18.up ba1468; replace ba15 := Zu ba15 ba1468; replace q := Zu q ba1468; replace c0 := cell_up c0 ba1468; replace c1 := cell_up c1 ba1468; replace c2 := cell_up c2 ba1468; replace c3 := cell_up c3 ba1468; replace o9 := o9.up ba1468; replace ra248 := ra248.up ba1468; refine Zm ?_; refine Zx ?_; refine Zx ?_; refine Za ?_
    refine Za ?_; refine Zq ?_; refine Zc ?_; refine Zr ?_; refine Zm ?_; refine ZneT ?_; refine Zm ?_; refine Zs ?_; refine Zs ?_; refine Zs ?_; refine Zs ?_; refine Zp ?_; refine Zq ?_; refine ZY ?_; refine Zr ?_
    refine LL.val (R.buildV rfl rfl (v := .agg #[Value.int IntKind.i64 0, Value.int IntKind.i64 0, Value.int IntKind.i64 0, Value.slice none 0 0, Value.int IntKind.i64 0, Value.int IntKind.i64 0, Value.string { data := #[] }]) (fun _ => by kernel_rfl)) rfl rfl rfl ?_
    refine LL.storeN (vs := [.int .i64 0, .int .i64 0, .int .i64 0, .slice none 0 0, .int .i64 0, .int .i64 0, .string { data := #[] }]) rfl rfl rfl rfl ra18 (by exact Nat.le_of_ble_eq_true rfl) (ones_of rfl) rfl rfl ?_
    intro Wa1676 ra1677 ba1675 za1678
    have hlba1675 := ra18.lt
    replace ra1677 : RowL Wa1676 _ 25 [.int .i64 0, .int .i64 0, .int .i64 0, .slice none 0 0, .int .i64 0, .int .i64 0, .string { data := #[] }] := ra1677
    clear ra18
    replace ba15 := Zg ba15 ba1675; replace q := Zg q ba1675; replace c0 := Ze c0 ba1675; replace c1 := Ze c1 ba1675; replace c2 := Ze c2 ba1675; replace c3 := Ze c3 ba1675
    replace o9 := o9.gr ba1675 (by omega)
    replace ra248 := Zd ra248 ba1675
    have ra18 := ra1677
    clear ra1677
    refine Za ?_; refine Zq ?_; refine ZR ?_; refine EE.thenR ?_
    refine EE.ret2 rfl ⟨_, rfl, lvNc (RowL.cells0 (by assumption)) (by rfl) (by rfl)⟩ rfl ?_
    exact ⟨rfl, q⟩
  · refine X.fn Tryd.func19 rfl (n := 145) rfl rfl ?_
    refine Zr ?_
    refine LL.alloc ([.int .i64 0, .int .i64 0, .int .i64 0, .slice none 0 0, .int .i64 0, .int .i64 0, .string { data := { toList := [] } }]) rfl rfl rfl rfl rfl ?_
    intro Wb16 gb17 egb17 rb18 zb19 bb15
    replace q := Zu q bb15; replace c0 := cell_up c0 bb15; replace c1 := cell_up c1 bb15; replace c2 := cell_up c2 bb15; replace c3 := cell_up c3 bb15; refine Za ?_; refine Zq ?_; refine Zc ?_; refine Zr ?_; refine Zm ?_; refine Zn ?_; refine ZneF ?_; refine Zq ?_; refine ZN ?_; refine ZK ?_; refine ZT ?_; refine Zc ?_; refine Zr ?_; refine Zm ?_; refine Zi ?_; refine Zk ?_; refine ZeqF ?_; refine Zq ?_
    refine ZN ?_; refine ZK ?_; refine ZT ?_; refine Zr ?_; refine Zm ?_; refine Zi ?_; refine Zk ?_
    refine LL.val (R.remUE (b := 256) (z := 3) rfl rfl rfl (by decide) hk) rfl rfl rfl ?_
    refine LL.val (R.convI rfl rfl rfl rfl (wrapI (by omega) (by omega))) rfl rfl rfl ?_
    refine LL.val (R.buildV rfl rfl (v := .agg #[Value.int IntKind.i64 ↑3, Value.int IntKind.i64 0, Value.int IntKind.i64 0, Value.slice none 0 0, Value.int IntKind.i64 0, Value.int IntKind.i64 0, Value.string { data := #[] }]) (fun _ => by kernel_rfl)) rfl rfl rfl ?_
    have lb244 := rb18.lt
    refine LL.alloc ([.int .i64 0, .int .i64 0, .int .i64 0, .slice none 0 0, .int .i64 0, .int .i64 0, .string { data := { toList := [] } }]) rfl rfl rfl rfl rfl ?_
    intro Wb246 gb247 egb247 rb248 zb249 bb245
    replace rb18 := rb18.up bb245; replace bb15 := Zu bb15 bb245; replace q := Zu q bb245; replace c0 := cell_up c0 bb245; replace c1 := cell_up c1 bb245; replace c2 := cell_up c2 bb245; replace c3 := cell_up c3 bb245
    refine LL.storeN (vs := [.int .i64 3, .int .i64 0, .int .i64 0, .slice none 0 0, .int .i64 0, .int .i64 0, .string { data := #[] }]) rfl rfl rfl rfl rb248 (by exact Nat.le_of_ble_eq_true rfl) (ones_of rfl) rfl rfl ?_
    intro Wb269 rb270 bb268 zb271
    have hlbb268 := rb248.lt
    replace rb270 : RowL Wb269 _ 25 [.int .i64 3, .int .i64 0, .int .i64 0, .slice none 0 0, .int .i64 0, .int .i64 0, .string { data := #[] }] := rb270
    clear rb248
    replace bb245 := Zg bb245 bb268; replace rb18 := Zd rb18 bb268; replace bb15 := Zg bb15 bb268; replace q := Zg q bb268; replace c0 := Ze c0 bb268; replace c1 := Ze c1 bb268; replace c2 := Ze c2 bb268; replace c3 := Ze c3 bb268
    have rb248 := rb270
    clear rb270
    refine Zq ?_; refine Zc ?_; refine Zr ?_; refine Zm ?_; refine Zi ?_; refine Zk ?_; refine ZgeF ?_; refine Zm ?_; refine Zm ?_; refine Zi ?_; refine Zk ?_; refine ZgtF ?_; refine Zp ?_; refine Zm ?_; refine Zm ?_; refine Zi ?_; refine Zk ?_; refine ZgtF ?_; refine Zp ?_; refine Zm ?_; refine Zm ?_; refine Zi ?_; refine Zk ?_; refine ZgtF ?_; refine Zp ?_; refine Zq ?_; refine ZN ?_; refine ZK ?_
    refine ZT ?_; refine Zr ?_; refine Zm ?_; refine Zi ?_; refine Zk ?_
    refine LL.val (R.quoUE (b := 256) (z := l) rfl rfl rfl (by decide) el (by omega)) rfl rfl rfl ?_
    refine LL.val (R.convI rfl rfl rfl rfl (wrapI (by omega) (by omega))) rfl rfl rfl ?_
    refine Zf ?_
    refine LL.store rfl rfl rfl rfl rb248 (by exact Nat.le_of_ble_eq_true rfl) rfl rfl rfl rfl ?_
    intro Wb777 rb778 bb776 zb779
    have hlbb776 := rb248.lt
    replace rb778 : RowL Wb777 _ 25 [.int .i64 3, .int .i64 ↑l, .int .i64 0, .slice none 0 0, .int .i64 0, .int .i64 0, .string { data := #[] }] := rb778
    clear rb248
    replace bb245 := Zg bb245 bb776; replace rb18 := Zd rb18 bb776; replace bb15 := Zg bb15 bb776; replace q := Zg q bb776; replace c0 := Ze c0 bb776; replace c1 := Ze c1 bb776; replace c2 := Ze c2 bb776; replace c3 := Ze c3 bb776
    have rb248 := rb778
    clear rb778
    refine Zq ?_; refine Zc ?_; refine Zr ?_; refine Zf ?_; refine Zl rb248 ?_; refine Zq ?_; refine CC.block ?_; refine Zr ?_; refine ZeqF ?_; refine Za ?_; refine Zq ?_; refine ZN ?_; refine Zr ?_; refine ZeqF ?_; refine Za ?_; refine Zq ?_; refine ZN ?_; refine Zr ?_; refine ZeqT ?_; refine Za ?_; refine Zq ?_; refine ZY ?_; refine Zr ?_; refine Zm ?_
    refine LL.val (R.slice rfl rfl rfl rfl rfl (I.slFrom (lo := 2) rfl (by omega) (by omega) (by omega))) rfl rfl rfl ?_
    have lb946 := rb18.lt; have lb947 := rb248.lt
    (refine Zy (R.call rfl rfl rfl) (rbytes_form bk off cap ws _ (hWF _ q) hwl hwb hcap) ?_; rintro e Wb945 ⟨g8, c8, rfl, hc8, o8, hg8, bb942⟩; refine ⟨_, rfl, ?_⟩)
    have zbb942 := bb942.size; replace bb245 := Zu bb245 bb942; replace rb18 := rb18.up bb942; replace bb15 := Zu bb15 bb942; replace q := Zu q bb942; replace c0 := cell_up c0 bb942; replace c1 := cell_up c1 bb942; replace c2 := cell_up c2 bb942; replace c3 := cell_up c3 bb942; replace rb248 := rb248.up bb942; refine Za ?_; refine Zq ?_; refine Zc ?_; refine Zr ?_; refine Zm ?_; refine Zi ?_; refine Zk ?_
    refine ZgtF ?_; refine Zq ?_; refine ZN ?_; refine ZK ?_; refine ZT ?_; refine CC.region ?_; refine Zm ?_; refine Zm ?_; refine Zi ?_; refine Zk ?_
    (have o9 := o8.take x1 (by omega) c8 (by omega); clear o8; rw [show (ints .u8 (bytesL (ws.drop 2))).take x1 = ints .u8 ((bytesL (ws.drop 2)).take x1) by simp [ints]] at o9; refine LL.val (R.slice rfl rfl rfl rfl rfl (I.slToK rfl (by omega))) rfl rfl rfl ?_)
    refine LL.val (R.conv rfl rfl (run_toStr rfl rfl o9)) rfl rfl rfl ?_
    refine Zf ?_
    refine LL.store rfl rfl rfl rfl rb248 (by exact Nat.le_of_ble_eq_true rfl) rfl rfl rfl rfl ?_
    intro Wb1168 rb1169 bb1167 zb1170
    have hlbb1167 := rb248.lt
    replace rb1169 : RowL Wb1168 _ 25 [.int .i64 3, .int .i64 ↑l, .int .i64 0, .slice none 0 0, .int .i64 0, .int .i64 0, .string (strB (List.take x1 (bytesL (List.drop 2 ws))))] := rb1169
    clear rb248
    replace bb245 := Zg bb245 bb1167; replace rb18 := Zd rb18 bb1167; replace bb15 := Zg bb15 bb1167; replace q := Zg q bb1167; replace c0 := Ze c0 bb1167; replace c1 := Ze c1 bb1167; replace c2 := Ze c2 bb1167; replace c3 := Ze c3 bb1167
    replace o9 := o9.gr bb1167 (by omega)
    have rb248 := rb1169
    clear rb1169
    refine ZL ?_; refine EE.inN ?_; refine ZT ?_; refine Zr ?_; refine Zv rb248 ?_; have lb1202 := rb18.lt; have lb1203 := rb248.lt
    (refine Zy (R.call rfl rfl rfl) (hwn _) ?_; rintro e Wb1201 ⟨rfl, bb1198⟩; refine ⟨_, rfl, ?_⟩)
    have zbb1198 := bb1198.size; replace bb245 := Zu bb245 bb1198; replace rb18 := rb18.up bb1198; replace bb15 := Zu bb15 bb1198; replace q := Zu q bb1198; replace c0 := cell_up c0 bb1198; replace c1 := cell_up c1 bb1198; replace c2 := cell_up c2 bb1198; replace c3 := cell_up c3 bb1198; replace o9 := o9.up bb1198; replace rb248 := rb248.up bb1198; refine Zm ?_; refine Zx ?_; refine Zx ?_; refine Za ?_
    refine Za ?_; refine Zq ?_; refine Zc ?_; refine Zr ?_; refine Zm ?_; refine ZneT ?_; refine Zm ?_; refine Zs ?_; refine Zs ?_; refine Zs ?_; refine Zs ?_; refine Zp ?_; refine Zq ?_; refine ZY ?_; refine Zr ?_
    refine LL.val (R.buildV rfl rfl (v := .agg #[Value.int IntKind.i64 0, Value.int IntKind.i64 0, Value.int IntKind.i64 0, Value.slice none 0 0, Value.int IntKind.i64 0, Value.int IntKind.i64 0, Value.string { data := #[] }]) (fun _ => by kernel_rfl)) rfl rfl rfl ?_
    refine LL.storeN (vs := [.int .i64 0, .int .i64 0, .int .i64 0, .slice none 0 0, .int .i64 0, .int .i64 0, .string { data := #[] }]) rfl rfl rfl rfl rb18 (by exact Nat.le_of_ble_eq_true rfl) (ones_of rfl) rfl rfl ?_
    intro Wb1406 rb1407 bb1405 zb1408
    have hlbb1405 := rb18.lt
    replace rb1407 : RowL Wb1406 _ 25 [.int .i64 0, .int .i64 0, .int .i64 0, .slice none 0 0, .int .i64 0, .int .i64 0, .string { data := #[] }] := rb1407
    clear rb18
    replace bb15 := Zg bb15 bb1405; replace q := Zg q bb1405; replace c0 := Ze c0 bb1405; replace c1 := Ze c1 bb1405; replace c2 := Ze c2 bb1405; replace c3 := Ze c3 bb1405
    replace o9 := o9.gr bb1405 (by omega)
    replace rb248 := Zd rb248 bb1405
    have rb18 := rb1407
    clear rb1407
    refine Za ?_; refine Zq ?_; refine ZR ?_; refine EE.thenR ?_
    refine EE.ret2 rfl ⟨_, rfl, lvNc (RowL.cells0 (by assumption)) (by rfl) (by rfl)⟩ rfl ?_
    exact ⟨rfl, q⟩
theorem dof_3W (bk off cap : Nat) (ws : List Nat) (w : World) (x0 x1 x2 x3 l : Nat) (F : FoW bk off ws w x0 x1 x2 x3 l) (hs : x0 < 4294967296 ∧ x1 ≤ 65536) (hk : x0 % 256 = 3) (hcap : 16 ≤ cap) (hl : x1 ≤ 112) (hok : okI 3 (l : Int) 0 [] 0 0 (tgD ws x1)) (hne : inoW 3 (l : Int) 0 [] 0 0 (tgD ws x1) ≠ ws) : Calls Tryd.prog 19 #[.slice (some ⟨bk, off, none⟩) 16 cap] w fun e w' => e = .returned (.tuple #[zrV, .int .i64 240]) ∧ Below w.heap.size w w' := by
  have q := Below.refl w.heap.size w
  have hWF : ∀ X, Below w.heap.size w X → WdsAt X bk off ws := fun X b => F.W.up b
  have c0 := F.W.cells _ _ F.e0
  have c1 := F.W.cells _ _ F.e1
  have c2 := F.W.cells _ _ F.e2
  have c3 := F.W.cells _ _ F.e3
  have hb0 := F.b _ (List.mem_of_getElem? F.e0)
  have hb1 := F.b _ (List.mem_of_getElem? F.e1)
  have hb2 := F.b _ (List.mem_of_getElem? F.e2)
  have hb3 := F.b _ (List.mem_of_getElem? F.e3)
  have hbk := F.W.lt
  have nz := F.nz
  have el := F.el
  have hwy := fun W => rinW_ok 3 (l : Int) 0 none 0 0 [] 0 0 (tgD ws x1) W (ReadsT.nil _) (by decide) hok
  have hxl := inoW_len hok
  have hwl := F.len
  have hwb := F.b
  unfold wsP at hwy
  clear F
  by_cases hC : 4611686018427387904 < x2
  · refine X.fn Tryd.func19 rfl (n := 145) rfl rfl ?_
    refine Zr ?_
    refine LL.alloc ([.int .i64 0, .int .i64 0, .int .i64 0, .slice none 0 0, .int .i64 0, .int .i64 0, .string { data := { toList := [] } }]) rfl rfl rfl rfl rfl ?_
    intro W23 g24 eg24 r25 z26 b22
    replace q := Zu q b22; replace c0 := cell_up c0 b22; replace c1 := cell_up c1 b22; replace c2 := cell_up c2 b22; replace c3 := cell_up c3 b22; refine Za ?_; refine Zq ?_; refine Zc ?_; refine Zr ?_; refine Zm ?_; refine Zn ?_; refine ZneF ?_; refine Zq ?_; refine ZN ?_; refine ZK ?_; refine ZT ?_; refine Zc ?_; refine Zr ?_; refine Zm ?_; refine Zi ?_; refine Zk ?_; refine ZeqF ?_; refine Zq ?_
    refine ZN ?_; refine ZK ?_; refine ZT ?_; refine Zr ?_; refine Zm ?_; refine Zi ?_; refine Zk ?_
    refine LL.val (R.remUE (b := 256) (z := 3) rfl rfl rfl (by decide) hk) rfl rfl rfl ?_
    refine LL.val (R.convI rfl rfl rfl rfl (wrapI (by omega) (by omega))) rfl rfl rfl ?_
    refine LL.val (R.buildV rfl rfl (v := .agg #[Value.int IntKind.i64 ↑3, Value.int IntKind.i64 0, Value.int IntKind.i64 0, Value.slice none 0 0, Value.int IntKind.i64 0, Value.int IntKind.i64 0, Value.string { data := #[] }]) (fun _ => by kernel_rfl)) rfl rfl rfl ?_
    have l363 := r25.lt
    refine LL.alloc ([.int .i64 0, .int .i64 0, .int .i64 0, .slice none 0 0, .int .i64 0, .int .i64 0, .string { data := { toList := [] } }]) rfl rfl rfl rfl rfl ?_
    intro W365 g366 eg366 r367 z368 b364
    replace r25 := r25.up b364; replace b22 := Zu b22 b364; replace q := Zu q b364; replace c0 := cell_up c0 b364; replace c1 := cell_up c1 b364; replace c2 := cell_up c2 b364; replace c3 := cell_up c3 b364
    refine LL.storeN (vs := [.int .i64 3, .int .i64 0, .int .i64 0, .slice none 0 0, .int .i64 0, .int .i64 0, .string { data := #[] }]) rfl rfl rfl rfl r367 (by exact Nat.le_of_ble_eq_true rfl) (ones_of rfl) rfl rfl ?_
    intro W397 r398 b396 z399
    have hlb396 := r367.lt
    replace r398 : RowL W397 _ 25 [.int .i64 3, .int .i64 0, .int .i64 0, .slice none 0 0, .int .i64 0, .int .i64 0, .string { data := #[] }] := r398
    clear r367
    replace b364 := Zg b364 b396; replace r25 := Zd r25 b396; replace b22 := Zg b22 b396; replace q := Zg q b396; replace c0 := Ze c0 b396; replace c1 := Ze c1 b396; replace c2 := Ze c2 b396; replace c3 := Ze c3 b396
    have r367 := r398
    clear r398
    refine Zq ?_; refine Zc ?_; refine Zr ?_; refine Zm ?_; refine Zi ?_; refine Zk ?_; refine ZgeF ?_; refine Zm ?_; refine Zm ?_; refine Zi ?_; refine Zk ?_; refine ZgtF ?_; refine Zp ?_; refine Zm ?_; refine Zm ?_; refine Zi ?_; refine Zk ?_; refine ZgtT ?_; refine Zp ?_; refine Zm ?_; refine Zs ?_; refine Zs ?_; refine Zs ?_; refine Zs ?_; refine Zp ?_; refine Zq ?_; refine ZY ?_; refine Zr ?_
    refine Zf ?_; refine Zl r367 ?_; refine ZneF ?_; refine Zm ?_; refine Zm ?_; refine Zi ?_; refine Zk ?_; refine ZgeF ?_; refine Zp ?_; refine Zm ?_; refine Zm ?_; refine Zi ?_; refine Zk ?_; refine ZgtF ?_; refine Zp ?_; refine Zq ?_; refine ZN ?_; refine ZK ?_; refine ZT ?_; refine Zr ?_; refine Zm ?_; refine Zi ?_; refine Zk ?_
    refine LL.val (R.quoUE (b := 256) (z := l) rfl rfl rfl (by decide) el (by omega)) rfl rfl rfl ?_
    refine LL.val (R.convI rfl rfl rfl rfl (wrapI (by omega) (by omega))) rfl rfl rfl ?_
    refine Zf ?_
    refine LL.store rfl rfl rfl rfl r367 (by exact Nat.le_of_ble_eq_true rfl) rfl rfl rfl rfl ?_
    intro W1454 r1455 b1453 z1456
    have hlb1453 := r367.lt
    replace r1455 : RowL W1454 _ 25 [.int .i64 3, .int .i64 ↑l, .int .i64 0, .slice none 0 0, .int .i64 0, .int .i64 0, .string { data := #[] }] := r1455
    clear r367
    replace b364 := Zg b364 b1453; replace r25 := Zd r25 b1453; replace b22 := Zg b22 b1453; replace q := Zg q b1453; replace c0 := Ze c0 b1453; replace c1 := Ze c1 b1453; replace c2 := Ze c2 b1453; replace c3 := Ze c3 b1453
    have r367 := r1455
    clear r1455
    refine Zq ?_; refine Zc ?_; refine Zr ?_; refine Zf ?_; refine Zl r367 ?_; refine Zq ?_; refine CC.block ?_; refine Zr ?_; refine ZeqF ?_; refine Za ?_; refine Zq ?_; refine ZN ?_; refine Zr ?_; refine ZeqF ?_; refine Za ?_; refine Zq ?_; refine ZN ?_; refine Zr ?_; refine ZeqT ?_; refine Za ?_; refine Zq ?_; refine ZY ?_; refine Zr ?_; refine Zm ?_
    refine LL.val (R.slice rfl rfl rfl rfl rfl (I.slFrom (lo := 2) rfl (by omega) (by omega) (by omega))) rfl rfl rfl ?_
    have l1704 := r25.lt; have l1705 := r367.lt
    (refine Zy (R.call rfl rfl rfl) (rbytes_form bk off cap ws _ (hWF _ q) hwl hwb hcap) ?_; rintro e W1703 ⟨g8, c8, rfl, hc8, o8, hg8, b1700⟩; refine ⟨_, rfl, ?_⟩)
    have zb1700 := b1700.size; replace b364 := Zu b364 b1700; replace r25 := r25.up b1700; replace b22 := Zu b22 b1700; replace q := Zu q b1700; replace c0 := cell_up c0 b1700; replace c1 := cell_up c1 b1700; replace c2 := cell_up c2 b1700; replace c3 := cell_up c3 b1700; replace r367 := r367.up b1700; refine Za ?_; refine Zq ?_; refine Zc ?_; refine Zr ?_; refine Zm ?_; refine Zi ?_; refine Zk ?_
    refine ZgtF ?_; refine Zq ?_; refine ZN ?_; refine ZK ?_; refine ZT ?_; refine CC.region ?_; refine Zm ?_; refine Zm ?_; refine Zi ?_; refine Zk ?_
    (have o9 := o8.take x1 (by omega) c8 (by omega); clear o8; rw [show (ints .u8 (bytesL (ws.drop 2))).take x1 = ints .u8 ((bytesL (ws.drop 2)).take x1) by simp [ints]] at o9; refine LL.val (R.slice rfl rfl rfl rfl rfl (I.slToK rfl (by omega))) rfl rfl rfl ?_)
    refine LL.val (R.conv rfl rfl (run_toStr rfl rfl o9)) rfl rfl rfl ?_
    refine Zf ?_
    refine LL.store rfl rfl rfl rfl r367 (by exact Nat.le_of_ble_eq_true rfl) rfl rfl rfl rfl ?_
    intro W2025 r2026 b2024 z2027
    have hlb2024 := r367.lt
    replace r2026 : RowL W2025 _ 25 [.int .i64 3, .int .i64 ↑l, .int .i64 0, .slice none 0 0, .int .i64 0, .int .i64 0, .string (strB (List.take x1 (bytesL (List.drop 2 ws))))] := r2026
    clear r367
    replace b364 := Zg b364 b2024; replace r25 := Zd r25 b2024; replace b22 := Zg b22 b2024; replace q := Zg q b2024; replace c0 := Ze c0 b2024; replace c1 := Ze c1 b2024; replace c2 := Ze c2 b2024; replace c3 := Ze c3 b2024
    replace o9 := o9.gr b2024 (by omega)
    have r367 := r2026
    clear r2026
    refine ZL ?_; refine EE.inN ?_; refine ZT ?_; refine Zr ?_; refine Zv r367 ?_; have l2068 := r25.lt; have l2069 := r367.lt
    (refine Zy (R.call rfl rfl rfl) (hwy _) ?_; rintro e W2067 ⟨g9, rfl, r91, hg9, b2064⟩; refine ⟨_, rfl, ?_⟩)
    have zb2064 := b2064.size; replace b364 := Zu b364 b2064; replace r25 := r25.up b2064; replace b22 := Zu b22 b2064; replace q := Zu q b2064; replace c0 := cell_up c0 b2064; replace c1 := cell_up c1 b2064; replace c2 := cell_up c2 b2064; replace c3 := cell_up c3 b2064; replace o9 := o9.up b2064; replace r367 := r367.up b2064; refine Zm ?_; refine Zx ?_; refine Zx ?_; refine Za ?_; refine Za ?_; refine Zq ?_
    refine Zc ?_; refine Zr ?_; refine Zm ?_; refine ZneF ?_; refine Zm ?_; refine Zm ?_; refine Zm ?_; have l2397 := r91.lt; have l2398 := r25.lt; have l2399 := r367.lt
    (refine Zy (R.call rfl rfl rfl) (wsame_RF g9 bk off cap _ ws _ r91 hxl (hWF _ q) hwl hcap hne) ?_; rintro e W2396 ⟨rfl, b2393⟩; refine ⟨_, rfl, ?_⟩)
    have zb2393 := b2393.size; replace r91 := r91.up b2393; replace b2064 := Zu b2064 b2393; replace b364 := Zu b364 b2393; replace r25 := r25.up b2393; replace b22 := Zu b22 b2393; replace q := Zu q b2393; replace c0 := cell_up c0 b2393; replace c1 := cell_up c1 b2393; replace c2 := cell_up c2 b2393; replace c3 := cell_up c3 b2393; replace o9 := o9.up b2393; replace r367 := r367.up b2393; refine Zt ?_
    refine Zp ?_; refine Zq ?_; refine ZY ?_; refine Zr ?_
    refine LL.val (R.buildV rfl rfl (v := .agg #[Value.int IntKind.i64 0, Value.int IntKind.i64 0, Value.int IntKind.i64 0, Value.slice none 0 0, Value.int IntKind.i64 0, Value.int IntKind.i64 0, Value.string { data := #[] }]) (fun _ => by kernel_rfl)) rfl rfl rfl ?_
    refine LL.storeN (vs := [.int .i64 0, .int .i64 0, .int .i64 0, .slice none 0 0, .int .i64 0, .int .i64 0, .string { data := #[] }]) rfl rfl rfl rfl r25 (by exact Nat.le_of_ble_eq_true rfl) (ones_of rfl) rfl rfl ?_
    intro W2524 r2525 b2523 z2526
    have hlb2523 := r25.lt
    replace r2525 : RowL W2524 _ 25 [.int .i64 0, .int .i64 0, .int .i64 0, .slice none 0 0, .int .i64 0, .int .i64 0, .string { data := #[] }] := r2525
    clear r25
    replace r91 := Zd r91 b2523; replace b22 := Zg b22 b2523; replace q := Zg q b2523; replace c0 := Ze c0 b2523; replace c1 := Ze c1 b2523; replace c2 := Ze c2 b2523; replace c3 := Ze c3 b2523
    replace o9 := o9.gr b2523 (by omega)
    replace r367 := Zd r367 b2523
    have r25 := r2525
    clear r2525
    refine Za ?_; refine Zq ?_; refine ZR ?_; refine EE.thenR ?_
    refine EE.ret2 rfl ⟨_, rfl, lvNc (RowL.cells0 (by assumption)) (by rfl) (by rfl)⟩ rfl ?_
    exact ⟨rfl, q⟩
  by_cases hD : 4611686018427387904 < x3
  · refine X.fn Tryd.func19 rfl (n := 145) rfl rfl ?_
    refine Zr ?_
    refine LL.alloc ([.int .i64 0, .int .i64 0, .int .i64 0, .slice none 0 0, .int .i64 0, .int .i64 0, .string { data := { toList := [] } }]) rfl rfl rfl rfl rfl ?_
    intro Wa23 ga24 ega24 ra25 za26 ba22
    replace q := Zu q ba22; replace c0 := cell_up c0 ba22; replace c1 := cell_up c1 ba22; replace c2 := cell_up c2 ba22; replace c3 := cell_up c3 ba22; refine Za ?_; refine Zq ?_; refine Zc ?_; refine Zr ?_; refine Zm ?_; refine Zn ?_; refine ZneF ?_; refine Zq ?_; refine ZN ?_; refine ZK ?_; refine ZT ?_; refine Zc ?_; refine Zr ?_; refine Zm ?_; refine Zi ?_; refine Zk ?_; refine ZeqF ?_; refine Zq ?_
    refine ZN ?_; refine ZK ?_; refine ZT ?_; refine Zr ?_; refine Zm ?_; refine Zi ?_; refine Zk ?_
    refine LL.val (R.remUE (b := 256) (z := 3) rfl rfl rfl (by decide) hk) rfl rfl rfl ?_
    refine LL.val (R.convI rfl rfl rfl rfl (wrapI (by omega) (by omega))) rfl rfl rfl ?_
    refine LL.val (R.buildV rfl rfl (v := .agg #[Value.int IntKind.i64 ↑3, Value.int IntKind.i64 0, Value.int IntKind.i64 0, Value.slice none 0 0, Value.int IntKind.i64 0, Value.int IntKind.i64 0, Value.string { data := #[] }]) (fun _ => by kernel_rfl)) rfl rfl rfl ?_
    have la363 := ra25.lt
    refine LL.alloc ([.int .i64 0, .int .i64 0, .int .i64 0, .slice none 0 0, .int .i64 0, .int .i64 0, .string { data := { toList := [] } }]) rfl rfl rfl rfl rfl ?_
    intro Wa365 ga366 ega366 ra367 za368 ba364
    replace ra25 := ra25.up ba364; replace ba22 := Zu ba22 ba364; replace q := Zu q ba364; replace c0 := cell_up c0 ba364; replace c1 := cell_up c1 ba364; replace c2 := cell_up c2 ba364; replace c3 := cell_up c3 ba364
    refine LL.storeN (vs := [.int .i64 3, .int .i64 0, .int .i64 0, .slice none 0 0, .int .i64 0, .int .i64 0, .string { data := #[] }]) rfl rfl rfl rfl ra367 (by exact Nat.le_of_ble_eq_true rfl) (ones_of rfl) rfl rfl ?_
    intro Wa397 ra398 ba396 za399
    have hlba396 := ra367.lt
    replace ra398 : RowL Wa397 _ 25 [.int .i64 3, .int .i64 0, .int .i64 0, .slice none 0 0, .int .i64 0, .int .i64 0, .string { data := #[] }] := ra398
    clear ra367
    replace ba364 := Zg ba364 ba396; replace ra25 := Zd ra25 ba396; replace ba22 := Zg ba22 ba396; replace q := Zg q ba396; replace c0 := Ze c0 ba396; replace c1 := Ze c1 ba396; replace c2 := Ze c2 ba396; replace c3 := Ze c3 ba396
    have ra367 := ra398
    clear ra398
    refine Zq ?_; refine Zc ?_; refine Zr ?_; refine Zm ?_; refine Zi ?_; refine Zk ?_; refine ZgeF ?_; refine Zm ?_; refine Zm ?_; refine Zi ?_; refine Zk ?_; refine ZgtF ?_; refine Zp ?_; refine Zm ?_; refine Zm ?_; refine Zi ?_; refine Zk ?_; refine ZgtF ?_; refine Zp ?_; refine Zm ?_; refine Zm ?_; refine Zi ?_; refine Zk ?_; refine ZgtT ?_; refine Zp ?_; refine Zq ?_; refine ZY ?_; refine Zr ?_
    refine Zf ?_; refine Zl ra367 ?_; refine ZneF ?_; refine Zm ?_; refine Zm ?_; refine Zi ?_; refine Zk ?_; refine ZgeF ?_; refine Zp ?_; refine Zm ?_; refine Zm ?_; refine Zi ?_; refine Zk ?_; refine ZgtF ?_; refine Zp ?_; refine Zq ?_; refine ZN ?_; refine ZK ?_; refine ZT ?_; refine Zr ?_; refine Zm ?_; refine Zi ?_; refine Zk ?_
    refine LL.val (R.quoUE (b := 256) (z := l) rfl rfl rfl (by decide) el (by omega)) rfl rfl rfl ?_
    refine LL.val (R.convI rfl rfl rfl rfl (wrapI (by omega) (by omega))) rfl rfl rfl ?_
    refine Zf ?_
    refine LL.store rfl rfl rfl rfl ra367 (by exact Nat.le_of_ble_eq_true rfl) rfl rfl rfl rfl ?_
    intro Wa1562 ra1563 ba1561 za1564
    have hlba1561 := ra367.lt
    replace ra1563 : RowL Wa1562 _ 25 [.int .i64 3, .int .i64 ↑l, .int .i64 0, .slice none 0 0, .int .i64 0, .int .i64 0, .string { data := #[] }] := ra1563
    clear ra367
    replace ba364 := Zg ba364 ba1561; replace ra25 := Zd ra25 ba1561; replace ba22 := Zg ba22 ba1561; replace q := Zg q ba1561; replace c0 := Ze c0 ba1561; replace c1 := Ze c1 ba1561; replace c2 := Ze c2 ba1561; replace c3 := Ze c3 ba1561
    have ra367 := ra1563
    clear ra1563
    refine Zq ?_; refine Zc ?_; refine Zr ?_; refine Zf ?_; refine Zl ra367 ?_; refine Zq ?_; refine CC.block ?_; refine Zr ?_; refine ZeqF ?_; refine Za ?_; refine Zq ?_; refine ZN ?_; refine Zr ?_; refine ZeqF ?_; refine Za ?_; refine Zq ?_; refine ZN ?_; refine Zr ?_; refine ZeqT ?_; refine Za ?_; refine Zq ?_; refine ZY ?_; refine Zr ?_; refine Zm ?_
    refine LL.val (R.slice rfl rfl rfl rfl rfl (I.slFrom (lo := 2) rfl (by omega) (by omega) (by omega))) rfl rfl rfl ?_
    have la1812 := ra25.lt; have la1813 := ra367.lt
    (refine Zy (R.call rfl rfl rfl) (rbytes_form bk off cap ws _ (hWF _ q) hwl hwb hcap) ?_; rintro e Wa1811 ⟨g8, c8, rfl, hc8, o8, hg8, ba1808⟩; refine ⟨_, rfl, ?_⟩)
    have zba1808 := ba1808.size; replace ba364 := Zu ba364 ba1808; replace ra25 := ra25.up ba1808; replace ba22 := Zu ba22 ba1808; replace q := Zu q ba1808; replace c0 := cell_up c0 ba1808; replace c1 := cell_up c1 ba1808; replace c2 := cell_up c2 ba1808; replace c3 := cell_up c3 ba1808; replace ra367 := ra367.up ba1808; refine Za ?_; refine Zq ?_; refine Zc ?_; refine Zr ?_; refine Zm ?_; refine Zi ?_
    refine Zk ?_; refine ZgtF ?_; refine Zq ?_; refine ZN ?_; refine ZK ?_; refine ZT ?_; refine CC.region ?_; refine Zm ?_; refine Zm ?_; refine Zi ?_; refine Zk ?_
    (have o9 := o8.take x1 (by omega) c8 (by omega); clear o8; rw [show (ints .u8 (bytesL (ws.drop 2))).take x1 = ints .u8 ((bytesL (ws.drop 2)).take x1) by simp [ints]] at o9; refine LL.val (R.slice rfl rfl rfl rfl rfl (I.slToK rfl (by omega))) rfl rfl rfl ?_)
    refine LL.val (R.conv rfl rfl (run_toStr rfl rfl o9)) rfl rfl rfl ?_
    refine Zf ?_
    refine LL.store rfl rfl rfl rfl ra367 (by exact Nat.le_of_ble_eq_true rfl) rfl rfl rfl rfl ?_
    intro Wa2133 ra2134 ba2132 za2135
    have hlba2132 := ra367.lt
    replace ra2134 : RowL Wa2133 _ 25 [.int .i64 3, .int .i64 ↑l, .int .i64 0, .slice none 0 0, .int .i64 0, .int .i64 0, .string (strB (List.take x1 (bytesL (List.drop 2 ws))))] := ra2134
    clear ra367
    replace ba364 := Zg ba364 ba2132; replace ra25 := Zd ra25 ba2132; replace ba22 := Zg ba22 ba2132; replace q := Zg q ba2132; replace c0 := Ze c0 ba2132; replace c1 := Ze c1 ba2132; replace c2 := Ze c2 ba2132; replace c3 := Ze c3 ba2132
    replace o9 := o9.gr ba2132 (by omega)
    have ra367 := ra2134
    clear ra2134
    refine ZL ?_; refine EE.inN ?_; refine ZT ?_; refine Zr ?_; refine Zv ra367 ?_; have la2176 := ra25.lt; have la2177 := ra367.lt
    (refine Zy (R.call rfl rfl rfl) (hwy _) ?_; rintro e Wa2175 ⟨g9, rfl, r91, hg9, ba2172⟩; refine ⟨_, rfl, ?_⟩)
    have zba2172 := ba2172.size; replace ba364 := Zu ba364 ba2172; replace ra25 := ra25.up ba2172; replace ba22 := Zu ba22 ba2172; replace q := Zu q ba2172; replace c0 := cell_up c0 ba2172; replace c1 := cell_up c1 ba2172; replace c2 := cell_up c2 ba2172; replace c3 := cell_up c3 ba2172; replace o9 := o9.up ba2172; replace ra367 := ra367.up ba2172; refine Zm ?_; refine Zx ?_; refine Zx ?_; refine Za ?_
    refine Za ?_; refine Zq ?_; refine Zc ?_; refine Zr ?_; refine Zm ?_; refine ZneF ?_; refine Zm ?_; refine Zm ?_; refine Zm ?_; have la2505 := r91.lt; have la2506 := ra25.lt; have la2507 := ra367.lt
    (refine Zy (R.call rfl rfl rfl) (wsame_RF g9 bk off cap _ ws _ r91 hxl (hWF _ q) hwl hcap hne) ?_; rintro e Wa2504 ⟨rfl, ba2501⟩; refine ⟨_, rfl, ?_⟩)
    have zba2501 := ba2501.size; replace r91 := r91.up ba2501; replace ba2172 := Zu ba2172 ba2501; replace ba364 := Zu ba364 ba2501; replace ra25 := ra25.up ba2501; replace ba22 := Zu ba22 ba2501; replace q := Zu q ba2501; replace c0 := cell_up c0 ba2501; replace c1 := cell_up c1 ba2501; replace c2 := cell_up c2 ba2501; replace c3 := cell_up c3 ba2501; replace o9 := o9.up ba2501; replace ra367 := ra367.up ba2501
    refine Zt ?_; refine Zp ?_; refine Zq ?_; refine ZY ?_; refine Zr ?_
    refine LL.val (R.buildV rfl rfl (v := .agg #[Value.int IntKind.i64 0, Value.int IntKind.i64 0, Value.int IntKind.i64 0, Value.slice none 0 0, Value.int IntKind.i64 0, Value.int IntKind.i64 0, Value.string { data := #[] }]) (fun _ => by kernel_rfl)) rfl rfl rfl ?_
    refine LL.storeN (vs := [.int .i64 0, .int .i64 0, .int .i64 0, .slice none 0 0, .int .i64 0, .int .i64 0, .string { data := #[] }]) rfl rfl rfl rfl ra25 (by exact Nat.le_of_ble_eq_true rfl) (ones_of rfl) rfl rfl ?_
    intro Wa2632 ra2633 ba2631 za2634
    have hlba2631 := ra25.lt
    replace ra2633 : RowL Wa2632 _ 25 [.int .i64 0, .int .i64 0, .int .i64 0, .slice none 0 0, .int .i64 0, .int .i64 0, .string { data := #[] }] := ra2633
    clear ra25
    replace r91 := Zd r91 ba2631; replace ba22 := Zg ba22 ba2631; replace q := Zg q ba2631; replace c0 := Ze c0 ba2631; replace c1 := Ze c1 ba2631; replace c2 := Ze c2 ba2631; replace c3 := Ze c3 ba2631
    replace o9 := o9.gr ba2631 (by omega)
    replace ra367 := Zd ra367 ba2631
    have ra25 := ra2633
    clear ra2633
    refine Za ?_; refine Zq ?_; refine ZR ?_; refine EE.thenR ?_
    refine EE.ret2 rfl ⟨_, rfl, lvNc (RowL.cells0 (by assumption)) (by rfl) (by rfl)⟩ rfl ?_
    exact ⟨rfl, q⟩
  · refine X.fn Tryd.func19 rfl (n := 145) rfl rfl ?_
    refine Zr ?_
    refine LL.alloc ([.int .i64 0, .int .i64 0, .int .i64 0, .slice none 0 0, .int .i64 0, .int .i64 0, .string { data := { toList := [] } }]) rfl rfl rfl rfl rfl ?_
    intro Wb23 gb24 egb24 rb25 zb26 bb22
    replace q := Zu q bb22; replace c0 := cell_up c0 bb22; replace c1 := cell_up c1 bb22; replace c2 := cell_up c2 bb22; replace c3 := cell_up c3 bb22; refine Za ?_; refine Zq ?_; refine Zc ?_; refine Zr ?_; refine Zm ?_; refine Zn ?_; refine ZneF ?_; refine Zq ?_; refine ZN ?_; refine ZK ?_; refine ZT ?_; refine Zc ?_; refine Zr ?_; refine Zm ?_; refine Zi ?_; refine Zk ?_; refine ZeqF ?_; refine Zq ?_
    refine ZN ?_; refine ZK ?_; refine ZT ?_; refine Zr ?_; refine Zm ?_; refine Zi ?_; refine Zk ?_
    refine LL.val (R.remUE (b := 256) (z := 3) rfl rfl rfl (by decide) hk) rfl rfl rfl ?_
    refine LL.val (R.convI rfl rfl rfl rfl (wrapI (by omega) (by omega))) rfl rfl rfl ?_
    refine LL.val (R.buildV rfl rfl (v := .agg #[Value.int IntKind.i64 ↑3, Value.int IntKind.i64 0, Value.int IntKind.i64 0, Value.slice none 0 0, Value.int IntKind.i64 0, Value.int IntKind.i64 0, Value.string { data := #[] }]) (fun _ => by kernel_rfl)) rfl rfl rfl ?_
    have lb363 := rb25.lt
    refine LL.alloc ([.int .i64 0, .int .i64 0, .int .i64 0, .slice none 0 0, .int .i64 0, .int .i64 0, .string { data := { toList := [] } }]) rfl rfl rfl rfl rfl ?_
    intro Wb365 gb366 egb366 rb367 zb368 bb364
    replace rb25 := rb25.up bb364; replace bb22 := Zu bb22 bb364; replace q := Zu q bb364; replace c0 := cell_up c0 bb364; replace c1 := cell_up c1 bb364; replace c2 := cell_up c2 bb364; replace c3 := cell_up c3 bb364
    refine LL.storeN (vs := [.int .i64 3, .int .i64 0, .int .i64 0, .slice none 0 0, .int .i64 0, .int .i64 0, .string { data := #[] }]) rfl rfl rfl rfl rb367 (by exact Nat.le_of_ble_eq_true rfl) (ones_of rfl) rfl rfl ?_
    intro Wb397 rb398 bb396 zb399
    have hlbb396 := rb367.lt
    replace rb398 : RowL Wb397 _ 25 [.int .i64 3, .int .i64 0, .int .i64 0, .slice none 0 0, .int .i64 0, .int .i64 0, .string { data := #[] }] := rb398
    clear rb367
    replace bb364 := Zg bb364 bb396; replace rb25 := Zd rb25 bb396; replace bb22 := Zg bb22 bb396; replace q := Zg q bb396; replace c0 := Ze c0 bb396; replace c1 := Ze c1 bb396; replace c2 := Ze c2 bb396; replace c3 := Ze c3 bb396
    have rb367 := rb398
    clear rb398
    refine Zq ?_; refine Zc ?_; refine Zr ?_; refine Zm ?_; refine Zi ?_; refine Zk ?_; refine ZgeF ?_; refine Zm ?_; refine Zm ?_; refine Zi ?_; refine Zk ?_; refine ZgtF ?_; refine Zp ?_; refine Zm ?_; refine Zm ?_; refine Zi ?_; refine Zk ?_; refine ZgtF ?_; refine Zp ?_; refine Zm ?_; refine Zm ?_; refine Zi ?_; refine Zk ?_; refine ZgtF ?_; refine Zp ?_; refine Zq ?_; refine ZN ?_; refine ZK ?_
    refine ZT ?_; refine Zr ?_; refine Zm ?_; refine Zi ?_; refine Zk ?_
    refine LL.val (R.quoUE (b := 256) (z := l) rfl rfl rfl (by decide) el (by omega)) rfl rfl rfl ?_
    refine LL.val (R.convI rfl rfl rfl rfl (wrapI (by omega) (by omega))) rfl rfl rfl ?_
    refine Zf ?_
    refine LL.store rfl rfl rfl rfl rb367 (by exact Nat.le_of_ble_eq_true rfl) rfl rfl rfl rfl ?_
    intro Wb1157 rb1158 bb1156 zb1159
    have hlbb1156 := rb367.lt
    replace rb1158 : RowL Wb1157 _ 25 [.int .i64 3, .int .i64 ↑l, .int .i64 0, .slice none 0 0, .int .i64 0, .int .i64 0, .string { data := #[] }] := rb1158
    clear rb367
    replace bb364 := Zg bb364 bb1156; replace rb25 := Zd rb25 bb1156; replace bb22 := Zg bb22 bb1156; replace q := Zg q bb1156; replace c0 := Ze c0 bb1156; replace c1 := Ze c1 bb1156; replace c2 := Ze c2 bb1156; replace c3 := Ze c3 bb1156
    have rb367 := rb1158
    clear rb1158
    refine Zq ?_; refine Zc ?_; refine Zr ?_; refine Zf ?_; refine Zl rb367 ?_; refine Zq ?_; refine CC.block ?_; refine Zr ?_; refine ZeqF ?_; refine Za ?_; refine Zq ?_; refine ZN ?_; refine Zr ?_; refine ZeqF ?_; refine Za ?_; refine Zq ?_; refine ZN ?_; refine Zr ?_; refine ZeqT ?_; refine Za ?_; refine Zq ?_; refine ZY ?_; refine Zr ?_; refine Zm ?_
    refine LL.val (R.slice rfl rfl rfl rfl rfl (I.slFrom (lo := 2) rfl (by omega) (by omega) (by omega))) rfl rfl rfl ?_
    have lb1407 := rb25.lt; have lb1408 := rb367.lt
    (refine Zy (R.call rfl rfl rfl) (rbytes_form bk off cap ws _ (hWF _ q) hwl hwb hcap) ?_; rintro e Wb1406 ⟨g8, c8, rfl, hc8, o8, hg8, bb1403⟩; refine ⟨_, rfl, ?_⟩)
    have zbb1403 := bb1403.size; replace bb364 := Zu bb364 bb1403; replace rb25 := rb25.up bb1403; replace bb22 := Zu bb22 bb1403; replace q := Zu q bb1403; replace c0 := cell_up c0 bb1403; replace c1 := cell_up c1 bb1403; replace c2 := cell_up c2 bb1403; replace c3 := cell_up c3 bb1403; replace rb367 := rb367.up bb1403; refine Za ?_; refine Zq ?_; refine Zc ?_; refine Zr ?_; refine Zm ?_; refine Zi ?_
    refine Zk ?_; refine ZgtF ?_; refine Zq ?_; refine ZN ?_; refine ZK ?_; refine ZT ?_; refine CC.region ?_; refine Zm ?_; refine Zm ?_; refine Zi ?_; refine Zk ?_
    (have o9 := o8.take x1 (by omega) c8 (by omega); clear o8; rw [show (ints .u8 (bytesL (ws.drop 2))).take x1 = ints .u8 ((bytesL (ws.drop 2)).take x1) by simp [ints]] at o9; refine LL.val (R.slice rfl rfl rfl rfl rfl (I.slToK rfl (by omega))) rfl rfl rfl ?_)
    refine LL.val (R.conv rfl rfl (run_toStr rfl rfl o9)) rfl rfl rfl ?_
    refine Zf ?_
    refine LL.store rfl rfl rfl rfl rb367 (by exact Nat.le_of_ble_eq_true rfl) rfl rfl rfl rfl ?_
    intro Wb1728 rb1729 bb1727 zb1730
    have hlbb1727 := rb367.lt
    replace rb1729 : RowL Wb1728 _ 25 [.int .i64 3, .int .i64 ↑l, .int .i64 0, .slice none 0 0, .int .i64 0, .int .i64 0, .string (strB (List.take x1 (bytesL (List.drop 2 ws))))] := rb1729
    clear rb367
    replace bb364 := Zg bb364 bb1727; replace rb25 := Zd rb25 bb1727; replace bb22 := Zg bb22 bb1727; replace q := Zg q bb1727; replace c0 := Ze c0 bb1727; replace c1 := Ze c1 bb1727; replace c2 := Ze c2 bb1727; replace c3 := Ze c3 bb1727
    replace o9 := o9.gr bb1727 (by omega)
    have rb367 := rb1729
    clear rb1729
    refine ZL ?_; refine EE.inN ?_; refine ZT ?_; refine Zr ?_; refine Zv rb367 ?_; have lb1771 := rb25.lt; have lb1772 := rb367.lt
    (refine Zy (R.call rfl rfl rfl) (hwy _) ?_; rintro e Wb1770 ⟨g9, rfl, r91, hg9, bb1767⟩; refine ⟨_, rfl, ?_⟩)
    have zbb1767 := bb1767.size; replace bb364 := Zu bb364 bb1767; replace rb25 := rb25.up bb1767; replace bb22 := Zu bb22 bb1767; replace q := Zu q bb1767; replace c0 := cell_up c0 bb1767; replace c1 := cell_up c1 bb1767; replace c2 := cell_up c2 bb1767; replace c3 := cell_up c3 bb1767; replace o9 := o9.up bb1767; replace rb367 := rb367.up bb1767; refine Zm ?_; refine Zx ?_; refine Zx ?_; refine Za ?_
    refine Za ?_; refine Zq ?_; refine Zc ?_; refine Zr ?_; refine Zm ?_; refine ZneF ?_; refine Zm ?_; refine Zm ?_; refine Zm ?_; have lb2100 := r91.lt; have lb2101 := rb25.lt; have lb2102 := rb367.lt
    (refine Zy (R.call rfl rfl rfl) (wsame_RF g9 bk off cap _ ws _ r91 hxl (hWF _ q) hwl hcap hne) ?_; rintro e Wb2099 ⟨rfl, bb2096⟩; refine ⟨_, rfl, ?_⟩)
    have zbb2096 := bb2096.size; replace r91 := r91.up bb2096; replace bb1767 := Zu bb1767 bb2096; replace bb364 := Zu bb364 bb2096; replace rb25 := rb25.up bb2096; replace bb22 := Zu bb22 bb2096; replace q := Zu q bb2096; replace c0 := cell_up c0 bb2096; replace c1 := cell_up c1 bb2096; replace c2 := cell_up c2 bb2096; replace c3 := cell_up c3 bb2096; replace o9 := o9.up bb2096; replace rb367 := rb367.up bb2096
    refine Zt ?_; refine Zp ?_; refine Zq ?_; refine ZY ?_; refine Zr ?_
    refine LL.val (R.buildV rfl rfl (v := .agg #[Value.int IntKind.i64 0, Value.int IntKind.i64 0, Value.int IntKind.i64 0, Value.slice none 0 0, Value.int IntKind.i64 0, Value.int IntKind.i64 0, Value.string { data := #[] }]) (fun _ => by kernel_rfl)) rfl rfl rfl ?_
    refine LL.storeN (vs := [.int .i64 0, .int .i64 0, .int .i64 0, .slice none 0 0, .int .i64 0, .int .i64 0, .string { data := #[] }]) rfl rfl rfl rfl rb25 (by exact Nat.le_of_ble_eq_true rfl) (ones_of rfl) rfl rfl ?_
    intro Wb2227 rb2228 bb2226 zb2229
    have hlbb2226 := rb25.lt
    replace rb2228 : RowL Wb2227 _ 25 [.int .i64 0, .int .i64 0, .int .i64 0, .slice none 0 0, .int .i64 0, .int .i64 0, .string { data := #[] }] := rb2228
    clear rb25
    replace r91 := Zd r91 bb2226; replace bb22 := Zg bb22 bb2226; replace q := Zg q bb2226; replace c0 := Ze c0 bb2226; replace c1 := Ze c1 bb2226; replace c2 := Ze c2 bb2226; replace c3 := Ze c3 bb2226
    replace o9 := o9.gr bb2226 (by omega)
    replace rb367 := Zd rb367 bb2226
    have rb25 := rb2228
    clear rb2228
    refine Za ?_; refine Zq ?_; refine ZR ?_; refine EE.thenR ?_
    refine EE.ret2 rfl ⟨_, rfl, lvNc (RowL.cells0 (by assumption)) (by rfl) (by rfl)⟩ rfl ?_
    exact ⟨rfl, q⟩
theorem dof_3T (bk off cap : Nat) (ws : List Nat) (w : World) (x0 x1 x2 x3 l : Nat) (F : FoW bk off ws w x0 x1 x2 x3 l) (hs : x0 < 4294967296 ∧ x1 ≤ 65536) (hk : x0 % 256 = 3) (hcap : 16 ≤ cap) (hl : x1 ≤ 112) (hok : okI 3 (l : Int) 0 [] 0 0 (tgD ws x1)) (heq : inoW 3 (l : Int) 0 [] 0 0 (tgD ws x1) = ws) : Calls Tryd.prog 19 #[.slice (some ⟨bk, off, none⟩) 16 cap] w (ofR 3 (l : Int) 0 [] 0 0 (tgD ws x1) w) := by
  have q := Below.refl w.heap.size w
  have hWF : ∀ X, Below w.heap.size w X → WdsAt X bk off ws := fun X b => F.W.up b
  have c0 := F.W.cells _ _ F.e0
  have c1 := F.W.cells _ _ F.e1
  have c2 := F.W.cells _ _ F.e2
  have c3 := F.W.cells _ _ F.e3
  have hb0 := F.b _ (List.mem_of_getElem? F.e0)
  have hb1 := F.b _ (List.mem_of_getElem? F.e1)
  have hb2 := F.b _ (List.mem_of_getElem? F.e2)
  have hb3 := F.b _ (List.mem_of_getElem? F.e3)
  have hbk := F.W.lt
  have nz := F.nz
  have el := F.el
  have hwy := fun W => rinW_ok 3 (l : Int) 0 none 0 0 [] 0 0 (tgD ws x1) W (ReadsT.nil _) (by decide) hok
  have hwl := F.len
  have hwb := F.b
  unfold wsP at hwy
  unfold ofR
  rw [heq] at hwy
  clear F
  by_cases hC : 4611686018427387904 < x2
  · refine X.fn Tryd.func19 rfl (n := 145) rfl rfl ?_
    refine Zr ?_
    refine LL.alloc ([.int .i64 0, .int .i64 0, .int .i64 0, .slice none 0 0, .int .i64 0, .int .i64 0, .string { data := { toList := [] } }]) rfl rfl rfl rfl rfl ?_
    intro W23 g24 eg24 r25 z26 b22
    replace q := Zu q b22; replace c0 := cell_up c0 b22; replace c1 := cell_up c1 b22; replace c2 := cell_up c2 b22; replace c3 := cell_up c3 b22; refine Za ?_; refine Zq ?_; refine Zc ?_; refine Zr ?_; refine Zm ?_; refine Zn ?_; refine ZneF ?_; refine Zq ?_; refine ZN ?_; refine ZK ?_; refine ZT ?_; refine Zc ?_; refine Zr ?_; refine Zm ?_; refine Zi ?_; refine Zk ?_; refine ZeqF ?_; refine Zq ?_
    refine ZN ?_; refine ZK ?_; refine ZT ?_; refine Zr ?_; refine Zm ?_; refine Zi ?_; refine Zk ?_
    refine LL.val (R.remUE (b := 256) (z := 3) rfl rfl rfl (by decide) hk) rfl rfl rfl ?_
    refine LL.val (R.convI rfl rfl rfl rfl (wrapI (by omega) (by omega))) rfl rfl rfl ?_
    refine LL.val (R.buildV rfl rfl (v := .agg #[Value.int IntKind.i64 ↑3, Value.int IntKind.i64 0, Value.int IntKind.i64 0, Value.slice none 0 0, Value.int IntKind.i64 0, Value.int IntKind.i64 0, Value.string { data := #[] }]) (fun _ => by kernel_rfl)) rfl rfl rfl ?_
    have l363 := r25.lt
    refine LL.alloc ([.int .i64 0, .int .i64 0, .int .i64 0, .slice none 0 0, .int .i64 0, .int .i64 0, .string { data := { toList := [] } }]) rfl rfl rfl rfl rfl ?_
    intro W365 g366 eg366 r367 z368 b364
    replace r25 := r25.up b364; replace b22 := Zu b22 b364; replace q := Zu q b364; replace c0 := cell_up c0 b364; replace c1 := cell_up c1 b364; replace c2 := cell_up c2 b364; replace c3 := cell_up c3 b364
    refine LL.storeN (vs := [.int .i64 3, .int .i64 0, .int .i64 0, .slice none 0 0, .int .i64 0, .int .i64 0, .string { data := #[] }]) rfl rfl rfl rfl r367 (by exact Nat.le_of_ble_eq_true rfl) (ones_of rfl) rfl rfl ?_
    intro W397 r398 b396 z399
    have hlb396 := r367.lt
    replace r398 : RowL W397 _ 25 [.int .i64 3, .int .i64 0, .int .i64 0, .slice none 0 0, .int .i64 0, .int .i64 0, .string { data := #[] }] := r398
    clear r367
    replace b364 := Zg b364 b396; replace r25 := Zd r25 b396; replace b22 := Zg b22 b396; replace q := Zg q b396; replace c0 := Ze c0 b396; replace c1 := Ze c1 b396; replace c2 := Ze c2 b396; replace c3 := Ze c3 b396
    have r367 := r398
    clear r398
    refine Zq ?_; refine Zc ?_; refine Zr ?_; refine Zm ?_; refine Zi ?_; refine Zk ?_; refine ZgeF ?_; refine Zm ?_; refine Zm ?_; refine Zi ?_; refine Zk ?_; refine ZgtF ?_; refine Zp ?_; refine Zm ?_; refine Zm ?_; refine Zi ?_; refine Zk ?_; refine ZgtT ?_; refine Zp ?_; refine Zm ?_; refine Zs ?_; refine Zs ?_; refine Zs ?_; refine Zs ?_; refine Zp ?_; refine Zq ?_; refine ZY ?_; refine Zr ?_
    refine Zf ?_; refine Zl r367 ?_; refine ZneF ?_; refine Zm ?_; refine Zm ?_; refine Zi ?_; refine Zk ?_; refine ZgeF ?_; refine Zp ?_; refine Zm ?_; refine Zm ?_; refine Zi ?_; refine Zk ?_; refine ZgtF ?_; refine Zp ?_; refine Zq ?_; refine ZN ?_; refine ZK ?_; refine ZT ?_; refine Zr ?_; refine Zm ?_; refine Zi ?_; refine Zk ?_
    refine LL.val (R.quoUE (b := 256) (z := l) rfl rfl rfl (by decide) el (by omega)) rfl rfl rfl ?_
    refine LL.val (R.convI rfl rfl rfl rfl (wrapI (by omega) (by omega))) rfl rfl rfl ?_
    refine Zf ?_
    refine LL.store rfl rfl rfl rfl r367 (by exact Nat.le_of_ble_eq_true rfl) rfl rfl rfl rfl ?_
    intro W1454 r1455 b1453 z1456
    have hlb1453 := r367.lt
    replace r1455 : RowL W1454 _ 25 [.int .i64 3, .int .i64 ↑l, .int .i64 0, .slice none 0 0, .int .i64 0, .int .i64 0, .string { data := #[] }] := r1455
    clear r367
    replace b364 := Zg b364 b1453; replace r25 := Zd r25 b1453; replace b22 := Zg b22 b1453; replace q := Zg q b1453; replace c0 := Ze c0 b1453; replace c1 := Ze c1 b1453; replace c2 := Ze c2 b1453; replace c3 := Ze c3 b1453
    have r367 := r1455
    clear r1455
    refine Zq ?_; refine Zc ?_; refine Zr ?_; refine Zf ?_; refine Zl r367 ?_; refine Zq ?_; refine CC.block ?_; refine Zr ?_; refine ZeqF ?_; refine Za ?_; refine Zq ?_; refine ZN ?_; refine Zr ?_; refine ZeqF ?_; refine Za ?_; refine Zq ?_; refine ZN ?_; refine Zr ?_; refine ZeqT ?_; refine Za ?_; refine Zq ?_; refine ZY ?_; refine Zr ?_; refine Zm ?_
    refine LL.val (R.slice rfl rfl rfl rfl rfl (I.slFrom (lo := 2) rfl (by omega) (by omega) (by omega))) rfl rfl rfl ?_
    have l1704 := r25.lt; have l1705 := r367.lt
    (refine Zy (R.call rfl rfl rfl) (rbytes_form bk off cap ws _ (hWF _ q) hwl hwb hcap) ?_; rintro e W1703 ⟨g8, c8, rfl, hc8, o8, hg8, b1700⟩; refine ⟨_, rfl, ?_⟩)
    have zb1700 := b1700.size; replace b364 := Zu b364 b1700; replace r25 := r25.up b1700; replace b22 := Zu b22 b1700; replace q := Zu q b1700; replace c0 := cell_up c0 b1700; replace c1 := cell_up c1 b1700; replace c2 := cell_up c2 b1700; replace c3 := cell_up c3 b1700; replace r367 := r367.up b1700; refine Za ?_; refine Zq ?_; refine Zc ?_; refine Zr ?_; refine Zm ?_; refine Zi ?_; refine Zk ?_
    refine ZgtF ?_; refine Zq ?_; refine ZN ?_; refine ZK ?_; refine ZT ?_; refine CC.region ?_; refine Zm ?_; refine Zm ?_; refine Zi ?_; refine Zk ?_
    (have o9 := o8.take x1 (by omega) c8 (by omega); clear o8; rw [show (ints .u8 (bytesL (ws.drop 2))).take x1 = ints .u8 ((bytesL (ws.drop 2)).take x1) by simp [ints]] at o9; refine LL.val (R.slice rfl rfl rfl rfl rfl (I.slToK rfl (by omega))) rfl rfl rfl ?_)
    refine LL.val (R.conv rfl rfl (run_toStr rfl rfl o9)) rfl rfl rfl ?_
    refine Zf ?_
    refine LL.store rfl rfl rfl rfl r367 (by exact Nat.le_of_ble_eq_true rfl) rfl rfl rfl rfl ?_
    intro W2025 r2026 b2024 z2027
    have hlb2024 := r367.lt
    replace r2026 : RowL W2025 _ 25 [.int .i64 3, .int .i64 ↑l, .int .i64 0, .slice none 0 0, .int .i64 0, .int .i64 0, .string (strB (List.take x1 (bytesL (List.drop 2 ws))))] := r2026
    clear r367
    replace b364 := Zg b364 b2024; replace r25 := Zd r25 b2024; replace b22 := Zg b22 b2024; replace q := Zg q b2024; replace c0 := Ze c0 b2024; replace c1 := Ze c1 b2024; replace c2 := Ze c2 b2024; replace c3 := Ze c3 b2024
    replace o9 := o9.gr b2024 (by omega)
    have r367 := r2026
    clear r2026
    refine ZL ?_; refine EE.inN ?_; refine ZT ?_; refine Zr ?_; refine Zv r367 ?_; have l2068 := r25.lt; have l2069 := r367.lt
    (refine Zy (R.call rfl rfl rfl) (hwy _) ?_; rintro e W2067 ⟨g9, rfl, r91, hg9, b2064⟩; refine ⟨_, rfl, ?_⟩)
    have zb2064 := b2064.size; replace b364 := Zu b364 b2064; replace r25 := r25.up b2064; replace b22 := Zu b22 b2064; replace q := Zu q b2064; replace c0 := cell_up c0 b2064; replace c1 := cell_up c1 b2064; replace c2 := cell_up c2 b2064; replace c3 := cell_up c3 b2064; replace o9 := o9.up b2064; replace r367 := r367.up b2064; refine Zm ?_; refine Zx ?_; refine Zx ?_; refine Za ?_; refine Za ?_; refine Zq ?_
    refine Zc ?_; refine Zr ?_; refine Zm ?_; refine ZneF ?_; refine Zm ?_; refine Zm ?_; refine Zm ?_; have l2397 := r91.lt; have l2398 := r25.lt; have l2399 := r367.lt
    (refine Zy (R.call rfl rfl rfl) (wsame_RT g9 bk off cap ws _ r91 (hWF _ q) hwl hcap) ?_; rintro e W2396 ⟨rfl, b2393⟩; refine ⟨_, rfl, ?_⟩)
    have zb2393 := b2393.size; replace r91 := r91.up b2393; replace b2064 := Zu b2064 b2393; replace b364 := Zu b364 b2393; replace r25 := r25.up b2393; replace b22 := Zu b22 b2393; replace q := Zu q b2393; replace c0 := cell_up c0 b2393; replace c1 := cell_up c1 b2393; replace c2 := cell_up c2 b2393; replace c3 := cell_up c3 b2393; replace o9 := o9.up b2393; replace r367 := r367.up b2393; refine Zt ?_
    refine Zp ?_; refine Zq ?_; refine ZN ?_; refine ZK ?_; refine ZT ?_; refine Zr ?_; refine Zv r367 ?_
    refine LL.storeN (vs := [.int .i64 3, .int .i64 ↑l, .int .i64 0, .slice none 0 0, .int .i64 0, .int .i64 0, .string (strB (List.take x1 (bytesL (List.drop 2 ws))))]) rfl rfl rfl rfl r25 (by exact Nat.le_of_ble_eq_true rfl) (ones_of rfl) rfl rfl ?_
    intro W2524 r2525 b2523 z2526
    have hlb2523 := r25.lt
    replace r2525 : RowL W2524 _ 25 [.int .i64 3, .int .i64 ↑l, .int .i64 0, .slice none 0 0, .int .i64 0, .int .i64 0, .string (strB (List.take x1 (bytesL (List.drop 2 ws))))] := r2525
    clear r25
    replace r91 := Zd r91 b2523; replace b22 := Zg b22 b2523; replace q := Zg q b2523; replace c0 := Ze c0 b2523; replace c1 := Ze c1 b2523; replace c2 := Ze c2 b2523; replace c3 := Ze c3 b2523
    replace o9 := o9.gr b2523 (by omega)
    replace r367 := Zd r367 b2523
    have r25 := r2525
    clear r2525
    refine Za ?_; refine Zq ?_; refine ZR ?_
    refine EE.ret2 rfl ⟨_, rfl, lvNc (RowL.cells0 (by assumption)) (by rfl) (by rfl)⟩ rfl ?_
    exact ⟨_, rfl, ReadsT.nil _, q⟩
  by_cases hD : 4611686018427387904 < x3
  · refine X.fn Tryd.func19 rfl (n := 145) rfl rfl ?_
    refine Zr ?_
    refine LL.alloc ([.int .i64 0, .int .i64 0, .int .i64 0, .slice none 0 0, .int .i64 0, .int .i64 0, .string { data := { toList := [] } }]) rfl rfl rfl rfl rfl ?_
    intro Wa23 ga24 ega24 ra25 za26 ba22
    replace q := Zu q ba22; replace c0 := cell_up c0 ba22; replace c1 := cell_up c1 ba22; replace c2 := cell_up c2 ba22; replace c3 := cell_up c3 ba22; refine Za ?_; refine Zq ?_; refine Zc ?_; refine Zr ?_; refine Zm ?_; refine Zn ?_; refine ZneF ?_; refine Zq ?_; refine ZN ?_; refine ZK ?_; refine ZT ?_; refine Zc ?_; refine Zr ?_; refine Zm ?_; refine Zi ?_; refine Zk ?_; refine ZeqF ?_; refine Zq ?_
    refine ZN ?_; refine ZK ?_; refine ZT ?_; refine Zr ?_; refine Zm ?_; refine Zi ?_; refine Zk ?_
    refine LL.val (R.remUE (b := 256) (z := 3) rfl rfl rfl (by decide) hk) rfl rfl rfl ?_
    refine LL.val (R.convI rfl rfl rfl rfl (wrapI (by omega) (by omega))) rfl rfl rfl ?_
    refine LL.val (R.buildV rfl rfl (v := .agg #[Value.int IntKind.i64 ↑3, Value.int IntKind.i64 0, Value.int IntKind.i64 0, Value.slice none 0 0, Value.int IntKind.i64 0, Value.int IntKind.i64 0, Value.string { data := #[] }]) (fun _ => by kernel_rfl)) rfl rfl rfl ?_
    have la363 := ra25.lt
    refine LL.alloc ([.int .i64 0, .int .i64 0, .int .i64 0, .slice none 0 0, .int .i64 0, .int .i64 0, .string { data := { toList := [] } }]) rfl rfl rfl rfl rfl ?_
    intro Wa365 ga366 ega366 ra367 za368 ba364
    replace ra25 := ra25.up ba364; replace ba22 := Zu ba22 ba364; replace q := Zu q ba364; replace c0 := cell_up c0 ba364; replace c1 := cell_up c1 ba364; replace c2 := cell_up c2 ba364; replace c3 := cell_up c3 ba364
    refine LL.storeN (vs := [.int .i64 3, .int .i64 0, .int .i64 0, .slice none 0 0, .int .i64 0, .int .i64 0, .string { data := #[] }]) rfl rfl rfl rfl ra367 (by exact Nat.le_of_ble_eq_true rfl) (ones_of rfl) rfl rfl ?_
    intro Wa397 ra398 ba396 za399
    have hlba396 := ra367.lt
    replace ra398 : RowL Wa397 _ 25 [.int .i64 3, .int .i64 0, .int .i64 0, .slice none 0 0, .int .i64 0, .int .i64 0, .string { data := #[] }] := ra398
    clear ra367
    replace ba364 := Zg ba364 ba396; replace ra25 := Zd ra25 ba396; replace ba22 := Zg ba22 ba396; replace q := Zg q ba396; replace c0 := Ze c0 ba396; replace c1 := Ze c1 ba396; replace c2 := Ze c2 ba396; replace c3 := Ze c3 ba396
    have ra367 := ra398
    clear ra398
    refine Zq ?_; refine Zc ?_; refine Zr ?_; refine Zm ?_; refine Zi ?_; refine Zk ?_; refine ZgeF ?_; refine Zm ?_; refine Zm ?_; refine Zi ?_; refine Zk ?_; refine ZgtF ?_; refine Zp ?_; refine Zm ?_; refine Zm ?_; refine Zi ?_; refine Zk ?_; refine ZgtF ?_; refine Zp ?_; refine Zm ?_; refine Zm ?_; refine Zi ?_; refine Zk ?_; refine ZgtT ?_; refine Zp ?_; refine Zq ?_; refine ZY ?_; refine Zr ?_
    refine Zf ?_; refine Zl ra367 ?_; refine ZneF ?_; refine Zm ?_; refine Zm ?_; refine Zi ?_; refine Zk ?_; refine ZgeF ?_; refine Zp ?_; refine Zm ?_; refine Zm ?_; refine Zi ?_; refine Zk ?_; refine ZgtF ?_; refine Zp ?_; refine Zq ?_; refine ZN ?_; refine ZK ?_; refine ZT ?_; refine Zr ?_; refine Zm ?_; refine Zi ?_; refine Zk ?_
    refine LL.val (R.quoUE (b := 256) (z := l) rfl rfl rfl (by decide) el (by omega)) rfl rfl rfl ?_
    refine LL.val (R.convI rfl rfl rfl rfl (wrapI (by omega) (by omega))) rfl rfl rfl ?_
    refine Zf ?_
    refine LL.store rfl rfl rfl rfl ra367 (by exact Nat.le_of_ble_eq_true rfl) rfl rfl rfl rfl ?_
    intro Wa1562 ra1563 ba1561 za1564
    have hlba1561 := ra367.lt
    replace ra1563 : RowL Wa1562 _ 25 [.int .i64 3, .int .i64 ↑l, .int .i64 0, .slice none 0 0, .int .i64 0, .int .i64 0, .string { data := #[] }] := ra1563
    clear ra367
    replace ba364 := Zg ba364 ba1561; replace ra25 := Zd ra25 ba1561; replace ba22 := Zg ba22 ba1561; replace q := Zg q ba1561; replace c0 := Ze c0 ba1561; replace c1 := Ze c1 ba1561; replace c2 := Ze c2 ba1561; replace c3 := Ze c3 ba1561
    have ra367 := ra1563
    clear ra1563
    refine Zq ?_; refine Zc ?_; refine Zr ?_; refine Zf ?_; refine Zl ra367 ?_; refine Zq ?_; refine CC.block ?_; refine Zr ?_; refine ZeqF ?_; refine Za ?_; refine Zq ?_; refine ZN ?_; refine Zr ?_; refine ZeqF ?_; refine Za ?_; refine Zq ?_; refine ZN ?_; refine Zr ?_; refine ZeqT ?_; refine Za ?_; refine Zq ?_; refine ZY ?_; refine Zr ?_; refine Zm ?_
    refine LL.val (R.slice rfl rfl rfl rfl rfl (I.slFrom (lo := 2) rfl (by omega) (by omega) (by omega))) rfl rfl rfl ?_
    have la1812 := ra25.lt; have la1813 := ra367.lt
    (refine Zy (R.call rfl rfl rfl) (rbytes_form bk off cap ws _ (hWF _ q) hwl hwb hcap) ?_; rintro e Wa1811 ⟨g8, c8, rfl, hc8, o8, hg8, ba1808⟩; refine ⟨_, rfl, ?_⟩)
    have zba1808 := ba1808.size; replace ba364 := Zu ba364 ba1808; replace ra25 := ra25.up ba1808; replace ba22 := Zu ba22 ba1808; replace q := Zu q ba1808; replace c0 := cell_up c0 ba1808; replace c1 := cell_up c1 ba1808; replace c2 := cell_up c2 ba1808; replace c3 := cell_up c3 ba1808; replace ra367 := ra367.up ba1808; refine Za ?_; refine Zq ?_; refine Zc ?_; refine Zr ?_; refine Zm ?_; refine Zi ?_
    refine Zk ?_; refine ZgtF ?_; refine Zq ?_; refine ZN ?_; refine ZK ?_; refine ZT ?_; refine CC.region ?_; refine Zm ?_; refine Zm ?_; refine Zi ?_; refine Zk ?_
    (have o9 := o8.take x1 (by omega) c8 (by omega); clear o8; rw [show (ints .u8 (bytesL (ws.drop 2))).take x1 = ints .u8 ((bytesL (ws.drop 2)).take x1) by simp [ints]] at o9; refine LL.val (R.slice rfl rfl rfl rfl rfl (I.slToK rfl (by omega))) rfl rfl rfl ?_)
    refine LL.val (R.conv rfl rfl (run_toStr rfl rfl o9)) rfl rfl rfl ?_
    refine Zf ?_
    refine LL.store rfl rfl rfl rfl ra367 (by exact Nat.le_of_ble_eq_true rfl) rfl rfl rfl rfl ?_
    intro Wa2133 ra2134 ba2132 za2135
    have hlba2132 := ra367.lt
    replace ra2134 : RowL Wa2133 _ 25 [.int .i64 3, .int .i64 ↑l, .int .i64 0, .slice none 0 0, .int .i64 0, .int .i64 0, .string (strB (List.take x1 (bytesL (List.drop 2 ws))))] := ra2134
    clear ra367
    replace ba364 := Zg ba364 ba2132; replace ra25 := Zd ra25 ba2132; replace ba22 := Zg ba22 ba2132; replace q := Zg q ba2132; replace c0 := Ze c0 ba2132; replace c1 := Ze c1 ba2132; replace c2 := Ze c2 ba2132; replace c3 := Ze c3 ba2132
    replace o9 := o9.gr ba2132 (by omega)
    have ra367 := ra2134
    clear ra2134
    refine ZL ?_; refine EE.inN ?_; refine ZT ?_; refine Zr ?_; refine Zv ra367 ?_; have la2176 := ra25.lt; have la2177 := ra367.lt
    (refine Zy (R.call rfl rfl rfl) (hwy _) ?_; rintro e Wa2175 ⟨g9, rfl, r91, hg9, ba2172⟩; refine ⟨_, rfl, ?_⟩)
    have zba2172 := ba2172.size; replace ba364 := Zu ba364 ba2172; replace ra25 := ra25.up ba2172; replace ba22 := Zu ba22 ba2172; replace q := Zu q ba2172; replace c0 := cell_up c0 ba2172; replace c1 := cell_up c1 ba2172; replace c2 := cell_up c2 ba2172; replace c3 := cell_up c3 ba2172; replace o9 := o9.up ba2172; replace ra367 := ra367.up ba2172; refine Zm ?_; refine Zx ?_; refine Zx ?_; refine Za ?_
    refine Za ?_; refine Zq ?_; refine Zc ?_; refine Zr ?_; refine Zm ?_; refine ZneF ?_; refine Zm ?_; refine Zm ?_; refine Zm ?_; have la2505 := r91.lt; have la2506 := ra25.lt; have la2507 := ra367.lt
    (refine Zy (R.call rfl rfl rfl) (wsame_RT g9 bk off cap ws _ r91 (hWF _ q) hwl hcap) ?_; rintro e Wa2504 ⟨rfl, ba2501⟩; refine ⟨_, rfl, ?_⟩)
    have zba2501 := ba2501.size; replace r91 := r91.up ba2501; replace ba2172 := Zu ba2172 ba2501; replace ba364 := Zu ba364 ba2501; replace ra25 := ra25.up ba2501; replace ba22 := Zu ba22 ba2501; replace q := Zu q ba2501; replace c0 := cell_up c0 ba2501; replace c1 := cell_up c1 ba2501; replace c2 := cell_up c2 ba2501; replace c3 := cell_up c3 ba2501; replace o9 := o9.up ba2501; replace ra367 := ra367.up ba2501
    refine Zt ?_; refine Zp ?_; refine Zq ?_; refine ZN ?_; refine ZK ?_; refine ZT ?_; refine Zr ?_; refine Zv ra367 ?_
    refine LL.storeN (vs := [.int .i64 3, .int .i64 ↑l, .int .i64 0, .slice none 0 0, .int .i64 0, .int .i64 0, .string (strB (List.take x1 (bytesL (List.drop 2 ws))))]) rfl rfl rfl rfl ra25 (by exact Nat.le_of_ble_eq_true rfl) (ones_of rfl) rfl rfl ?_
    intro Wa2632 ra2633 ba2631 za2634
    have hlba2631 := ra25.lt
    replace ra2633 : RowL Wa2632 _ 25 [.int .i64 3, .int .i64 ↑l, .int .i64 0, .slice none 0 0, .int .i64 0, .int .i64 0, .string (strB (List.take x1 (bytesL (List.drop 2 ws))))] := ra2633
    clear ra25
    replace r91 := Zd r91 ba2631; replace ba22 := Zg ba22 ba2631; replace q := Zg q ba2631; replace c0 := Ze c0 ba2631; replace c1 := Ze c1 ba2631; replace c2 := Ze c2 ba2631; replace c3 := Ze c3 ba2631
    replace o9 := o9.gr ba2631 (by omega)
    replace ra367 := Zd ra367 ba2631
    have ra25 := ra2633
    clear ra2633
    refine Za ?_; refine Zq ?_; refine ZR ?_
    refine EE.ret2 rfl ⟨_, rfl, lvNc (RowL.cells0 (by assumption)) (by rfl) (by rfl)⟩ rfl ?_
    exact ⟨_, rfl, ReadsT.nil _, q⟩
  · refine X.fn Tryd.func19 rfl (n := 145) rfl rfl ?_
    refine Zr ?_
    refine LL.alloc ([.int .i64 0, .int .i64 0, .int .i64 0, .slice none 0 0, .int .i64 0, .int .i64 0, .string { data := { toList := [] } }]) rfl rfl rfl rfl rfl ?_
    intro Wb23 gb24 egb24 rb25 zb26 bb22
    replace q := Zu q bb22; replace c0 := cell_up c0 bb22; replace c1 := cell_up c1 bb22; replace c2 := cell_up c2 bb22; replace c3 := cell_up c3 bb22; refine Za ?_; refine Zq ?_; refine Zc ?_; refine Zr ?_; refine Zm ?_; refine Zn ?_; refine ZneF ?_; refine Zq ?_; refine ZN ?_; refine ZK ?_; refine ZT ?_; refine Zc ?_; refine Zr ?_; refine Zm ?_; refine Zi ?_; refine Zk ?_; refine ZeqF ?_; refine Zq ?_
    refine ZN ?_; refine ZK ?_; refine ZT ?_; refine Zr ?_; refine Zm ?_; refine Zi ?_; refine Zk ?_
    refine LL.val (R.remUE (b := 256) (z := 3) rfl rfl rfl (by decide) hk) rfl rfl rfl ?_
    refine LL.val (R.convI rfl rfl rfl rfl (wrapI (by omega) (by omega))) rfl rfl rfl ?_
    refine LL.val (R.buildV rfl rfl (v := .agg #[Value.int IntKind.i64 ↑3, Value.int IntKind.i64 0, Value.int IntKind.i64 0, Value.slice none 0 0, Value.int IntKind.i64 0, Value.int IntKind.i64 0, Value.string { data := #[] }]) (fun _ => by kernel_rfl)) rfl rfl rfl ?_
    have lb363 := rb25.lt
    refine LL.alloc ([.int .i64 0, .int .i64 0, .int .i64 0, .slice none 0 0, .int .i64 0, .int .i64 0, .string { data := { toList := [] } }]) rfl rfl rfl rfl rfl ?_
    intro Wb365 gb366 egb366 rb367 zb368 bb364
    replace rb25 := rb25.up bb364; replace bb22 := Zu bb22 bb364; replace q := Zu q bb364; replace c0 := cell_up c0 bb364; replace c1 := cell_up c1 bb364; replace c2 := cell_up c2 bb364; replace c3 := cell_up c3 bb364
    refine LL.storeN (vs := [.int .i64 3, .int .i64 0, .int .i64 0, .slice none 0 0, .int .i64 0, .int .i64 0, .string { data := #[] }]) rfl rfl rfl rfl rb367 (by exact Nat.le_of_ble_eq_true rfl) (ones_of rfl) rfl rfl ?_
    intro Wb397 rb398 bb396 zb399
    have hlbb396 := rb367.lt
    replace rb398 : RowL Wb397 _ 25 [.int .i64 3, .int .i64 0, .int .i64 0, .slice none 0 0, .int .i64 0, .int .i64 0, .string { data := #[] }] := rb398
    clear rb367
    replace bb364 := Zg bb364 bb396; replace rb25 := Zd rb25 bb396; replace bb22 := Zg bb22 bb396; replace q := Zg q bb396; replace c0 := Ze c0 bb396; replace c1 := Ze c1 bb396; replace c2 := Ze c2 bb396; replace c3 := Ze c3 bb396
    have rb367 := rb398
    clear rb398
    refine Zq ?_; refine Zc ?_; refine Zr ?_; refine Zm ?_; refine Zi ?_; refine Zk ?_; refine ZgeF ?_; refine Zm ?_; refine Zm ?_; refine Zi ?_; refine Zk ?_; refine ZgtF ?_; refine Zp ?_; refine Zm ?_; refine Zm ?_; refine Zi ?_; refine Zk ?_; refine ZgtF ?_; refine Zp ?_; refine Zm ?_; refine Zm ?_; refine Zi ?_; refine Zk ?_; refine ZgtF ?_; refine Zp ?_; refine Zq ?_; refine ZN ?_; refine ZK ?_
    refine ZT ?_; refine Zr ?_; refine Zm ?_; refine Zi ?_; refine Zk ?_
    refine LL.val (R.quoUE (b := 256) (z := l) rfl rfl rfl (by decide) el (by omega)) rfl rfl rfl ?_
    refine LL.val (R.convI rfl rfl rfl rfl (wrapI (by omega) (by omega))) rfl rfl rfl ?_
    refine Zf ?_
    refine LL.store rfl rfl rfl rfl rb367 (by exact Nat.le_of_ble_eq_true rfl) rfl rfl rfl rfl ?_
    intro Wb1157 rb1158 bb1156 zb1159
    have hlbb1156 := rb367.lt
    replace rb1158 : RowL Wb1157 _ 25 [.int .i64 3, .int .i64 ↑l, .int .i64 0, .slice none 0 0, .int .i64 0, .int .i64 0, .string { data := #[] }] := rb1158
    clear rb367
    replace bb364 := Zg bb364 bb1156; replace rb25 := Zd rb25 bb1156; replace bb22 := Zg bb22 bb1156; replace q := Zg q bb1156; replace c0 := Ze c0 bb1156; replace c1 := Ze c1 bb1156; replace c2 := Ze c2 bb1156; replace c3 := Ze c3 bb1156
    have rb367 := rb1158
    clear rb1158
    refine Zq ?_; refine Zc ?_; refine Zr ?_; refine Zf ?_; refine Zl rb367 ?_; refine Zq ?_; refine CC.block ?_; refine Zr ?_; refine ZeqF ?_; refine Za ?_; refine Zq ?_; refine ZN ?_; refine Zr ?_; refine ZeqF ?_; refine Za ?_; refine Zq ?_; refine ZN ?_; refine Zr ?_; refine ZeqT ?_; refine Za ?_; refine Zq ?_; refine ZY ?_; refine Zr ?_; refine Zm ?_
    refine LL.val (R.slice rfl rfl rfl rfl rfl (I.slFrom (lo := 2) rfl (by omega) (by omega) (by omega))) rfl rfl rfl ?_
    have lb1407 := rb25.lt; have lb1408 := rb367.lt
    (refine Zy (R.call rfl rfl rfl) (rbytes_form bk off cap ws _ (hWF _ q) hwl hwb hcap) ?_; rintro e Wb1406 ⟨g8, c8, rfl, hc8, o8, hg8, bb1403⟩; refine ⟨_, rfl, ?_⟩)
    have zbb1403 := bb1403.size; replace bb364 := Zu bb364 bb1403; replace rb25 := rb25.up bb1403; replace bb22 := Zu bb22 bb1403; replace q := Zu q bb1403; replace c0 := cell_up c0 bb1403; replace c1 := cell_up c1 bb1403; replace c2 := cell_up c2 bb1403; replace c3 := cell_up c3 bb1403; replace rb367 := rb367.up bb1403; refine Za ?_; refine Zq ?_; refine Zc ?_; refine Zr ?_; refine Zm ?_; refine Zi ?_
    refine Zk ?_; refine ZgtF ?_; refine Zq ?_; refine ZN ?_; refine ZK ?_; refine ZT ?_; refine CC.region ?_; refine Zm ?_; refine Zm ?_; refine Zi ?_; refine Zk ?_
    (have o9 := o8.take x1 (by omega) c8 (by omega); clear o8; rw [show (ints .u8 (bytesL (ws.drop 2))).take x1 = ints .u8 ((bytesL (ws.drop 2)).take x1) by simp [ints]] at o9; refine LL.val (R.slice rfl rfl rfl rfl rfl (I.slToK rfl (by omega))) rfl rfl rfl ?_)
    refine LL.val (R.conv rfl rfl (run_toStr rfl rfl o9)) rfl rfl rfl ?_
    refine Zf ?_
    refine LL.store rfl rfl rfl rfl rb367 (by exact Nat.le_of_ble_eq_true rfl) rfl rfl rfl rfl ?_
    intro Wb1728 rb1729 bb1727 zb1730
    have hlbb1727 := rb367.lt
    replace rb1729 : RowL Wb1728 _ 25 [.int .i64 3, .int .i64 ↑l, .int .i64 0, .slice none 0 0, .int .i64 0, .int .i64 0, .string (strB (List.take x1 (bytesL (List.drop 2 ws))))] := rb1729
    clear rb367
    replace bb364 := Zg bb364 bb1727; replace rb25 := Zd rb25 bb1727; replace bb22 := Zg bb22 bb1727; replace q := Zg q bb1727; replace c0 := Ze c0 bb1727; replace c1 := Ze c1 bb1727; replace c2 := Ze c2 bb1727; replace c3 := Ze c3 bb1727
    replace o9 := o9.gr bb1727 (by omega)
    have rb367 := rb1729
    clear rb1729
    refine ZL ?_; refine EE.inN ?_; refine ZT ?_; refine Zr ?_; refine Zv rb367 ?_; have lb1771 := rb25.lt; have lb1772 := rb367.lt
    (refine Zy (R.call rfl rfl rfl) (hwy _) ?_; rintro e Wb1770 ⟨g9, rfl, r91, hg9, bb1767⟩; refine ⟨_, rfl, ?_⟩)
    have zbb1767 := bb1767.size; replace bb364 := Zu bb364 bb1767; replace rb25 := rb25.up bb1767; replace bb22 := Zu bb22 bb1767; replace q := Zu q bb1767; replace c0 := cell_up c0 bb1767; replace c1 := cell_up c1 bb1767; replace c2 := cell_up c2 bb1767; replace c3 := cell_up c3 bb1767; replace o9 := o9.up bb1767; replace rb367 := rb367.up bb1767; refine Zm ?_; refine Zx ?_; refine Zx ?_; refine Za ?_
    refine Za ?_; refine Zq ?_; refine Zc ?_; refine Zr ?_; refine Zm ?_; refine ZneF ?_; refine Zm ?_; refine Zm ?_; refine Zm ?_; have lb2100 := r91.lt; have lb2101 := rb25.lt; have lb2102 := rb367.lt
    (refine Zy (R.call rfl rfl rfl) (wsame_RT g9 bk off cap ws _ r91 (hWF _ q) hwl hcap) ?_; rintro e Wb2099 ⟨rfl, bb2096⟩; refine ⟨_, rfl, ?_⟩)
    have zbb2096 := bb2096.size; replace r91 := r91.up bb2096; replace bb1767 := Zu bb1767 bb2096; replace bb364 := Zu bb364 bb2096; replace rb25 := rb25.up bb2096; replace bb22 := Zu bb22 bb2096; replace q := Zu q bb2096; replace c0 := cell_up c0 bb2096; replace c1 := cell_up c1 bb2096; replace c2 := cell_up c2 bb2096; replace c3 := cell_up c3 bb2096; replace o9 := o9.up bb2096; replace rb367 := rb367.up bb2096
    refine Zt ?_; refine Zp ?_; refine Zq ?_; refine ZN ?_; refine ZK ?_; refine ZT ?_; refine Zr ?_; refine Zv rb367 ?_
    refine LL.storeN (vs := [.int .i64 3, .int .i64 ↑l, .int .i64 0, .slice none 0 0, .int .i64 0, .int .i64 0, .string (strB (List.take x1 (bytesL (List.drop 2 ws))))]) rfl rfl rfl rfl rb25 (by exact Nat.le_of_ble_eq_true rfl) (ones_of rfl) rfl rfl ?_
    intro Wb2227 rb2228 bb2226 zb2229
    have hlbb2226 := rb25.lt
    replace rb2228 : RowL Wb2227 _ 25 [.int .i64 3, .int .i64 ↑l, .int .i64 0, .slice none 0 0, .int .i64 0, .int .i64 0, .string (strB (List.take x1 (bytesL (List.drop 2 ws))))] := rb2228
    clear rb25
    replace r91 := Zd r91 bb2226; replace bb22 := Zg bb22 bb2226; replace q := Zg q bb2226; replace c0 := Ze c0 bb2226; replace c1 := Ze c1 bb2226; replace c2 := Ze c2 bb2226; replace c3 := Ze c3 bb2226
    replace o9 := o9.gr bb2226 (by omega)
    replace rb367 := Zd rb367 bb2226
    have rb25 := rb2228
    clear rb2228
    refine Za ?_; refine Zq ?_; refine ZR ?_
    refine EE.ret2 rfl ⟨_, rfl, lvNc (RowL.cells0 (by assumption)) (by rfl) (by rfl)⟩ rfl ?_
    exact ⟨_, rfl, ReadsT.nil _, q⟩
theorem wrdN_sm {m : List Ex} (h : ∀ x ∈ m, mayE x) : ∀ x ∈ wrdN m, x ≤ 4611686018427387904 := by
  intro x hx
  unfold wrdN at hx
  obtain ⟨z, hz, rfl⟩ := List.mem_map.1 hx
  unfold wrdZ at hz
  rcases List.mem_append.1 hz with hz | hz
  · obtain ⟨y, hy, rfl⟩ := List.mem_map.1 hz
    have := h y hy
    unfold mayE at this
    unfold pkZ
    omega
  · rw [(List.mem_replicate.1 hz).2]
    decide
theorem dof_ok (bk off cap : Nat) (ws : List Nat) (k l z : Int) (m : List Ex) (r p : Int) (t : Bs) (w : World) (hcap : 16 ≤ cap) (hW : WdsAt w bk off ws) (h : okI k l z m r p t) (e : inoW k l z m r p t = ws) (h0 : ws[0]? ≠ some 0) : Calls Tryd.prog 19 #[.slice (some ⟨bk, off, none⟩) 16 cap] w (ofR k l z m r p t w) := by
  have hws : ws.length = 16 := by rw [← e]; exact inoW_len h
  have hwb : ∀ x ∈ ws, x < 18446744073709551616 := by rw [← e]; exact inoW_lt h
  have hh := h
  obtain ⟨hl, ⟨rfl, rfl, rfl, rfl, rfl, rfl, rfl⟩ | ⟨rfl, rfl, rfl, rfl, hf⟩ | ⟨rfl, rfl, rfl, rfl, h1⟩ | ⟨rfl, rfl, rfl, rfl, rfl, h1⟩⟩ := h
  · exact absurd (by rw [← e, inoW_0]; rfl) h0
  · obtain ⟨l, rfl⟩ : ∃ y : Nat, l = (y : Int) := ⟨l.toNat, by omega⟩
    have hz := hf.1
    obtain ⟨z, rfl⟩ : ∃ y : Nat, z = (y : Int) := ⟨z.toNat, by omega⟩
    have e1 := inoW_1 (l : Int) (z : Int) m 0 0 [] hf.2.1
    have e2 := wsZ_1 (l : Int) (z : Int) m 0 0 [] hf.2.1
    rw [e] at e1 e2
    have e3 : outZ (wsZ ws) = m := by rw [e2, outZ_wrdZ hf.2.1.2.1]
    have e4 : mapW (wsZ ws) := by rw [e2]; exact mapW_wrdZ hf.2.1
    have hx := wrdN_len hf.2.1
    obtain ⟨x2, hx2⟩ : ∃ y, (wrdN m)[0]? = some y := ⟨_, List.getElem?_eq_getElem (by omega)⟩
    obtain ⟨x3, hx3⟩ : ∃ y, (wrdN m)[1]? = some y := ⟨_, List.getElem?_eq_getElem (by omega)⟩
    have s2 := wrdN_sm hf.2.1.2.1 _ (List.mem_of_getElem? hx2)
    have s3 := wrdN_sm hf.2.1.2.1 _ (List.mem_of_getElem? hx3)
    have F : FoW bk off ws w (1 + 256 * l) z x2 x3 l := ⟨hW, hws, hwb, by rw [e1]; rfl, by rw [e1]; rfl, by rw [e1]; show (wrdN m ++ _)[0]? = _; rw [List.getElem?_append_left (by omega)]; exact hx2, by rw [e1]; show (wrdN m ++ _)[1]? = _; rw [List.getElem?_append_left (by omega)]; exact hx3, by omega, by omega⟩
    refine dof_1 bk off cap ws w _ _ _ _ _ F ⟨by omega, by omega, s2, s3⟩ (by omega) hcap _ (fun hm => absurd e4 hm) (fun _ hno => absurd (by rw [e3]; exact hh) hno) (fun _ _ hne => absurd (by rw [e3]; exact e) hne) ?_
    intro _ _ _ v w' hr hb
    rw [e3] at hr
    exact ⟨v, rfl, hr, hb⟩
  · obtain ⟨l, rfl⟩ : ∃ y : Nat, l = (y : Int) := ⟨l.toNat, by omega⟩
    obtain ⟨r, rfl⟩ : ∃ y : Nat, r = (y : Int) := ⟨r.toNat, by omega⟩
    obtain ⟨p, rfl⟩ : ∃ y : Nat, p = (y : Int) := ⟨p.toNat, by omega⟩
    have e1 := inoW_2 (l : Int) 0 [] (r : Int) (p : Int) []
    rw [e] at e1
    have F : FoW bk off ws w (2 + 256 * l) 0 r p l := ⟨hW, hws, hwb, by rw [e1]; rfl, by rw [e1]; rfl, by rw [e1]; rfl, by rw [e1]; rfl, by omega, by omega⟩
    exact dof_2T bk off cap ws w _ _ _ _ _ F ⟨by omega, by omega, by omega, by omega⟩ (by omega) hcap hh e
  · obtain ⟨l, rfl⟩ : ∃ y : Nat, l = (y : Int) := ⟨l.toNat, by omega⟩
    have e1 := inoW_3 (l : Int) 0 [] 0 0 t h1.1.2
    have e2 := tg_3 (l : Int) 0 [] 0 0 t h1.1.2
    rw [e] at e1 e2
    obtain ⟨x2, hx2⟩ : ∃ y, ws[2]? = some y := ⟨_, List.getElem?_eq_getElem (by omega)⟩
    obtain ⟨x3, hx3⟩ : ∃ y, ws[3]? = some y := ⟨_, List.getElem?_eq_getElem (by omega)⟩
    have F : FoW bk off ws w (3 + 256 * l) t.length x2 x3 l := ⟨hW, hws, hwb, by rw [e1]; rfl, by rw [e1]; rfl, hx2, hx3, by omega, by omega⟩
    have e3 : tgD ws t.length = t := by rw [tgD_eq ws _ hws h1.1.2]; exact e2.2
    have := dof_3T bk off cap ws w _ _ _ _ _ F ⟨by omega, by omega⟩ (by omega) hcap h1.1.2 (by rw [e3]; exact hh) (by rw [e3]; exact e)
    rw [e3] at this
    exact this
theorem dof_no (bk off cap : Nat) (ws : List Nat) (w : World) (hws : ws.length = 16) (hwb : ∀ x ∈ ws, x < 18446744073709551616) (hcap : 16 ≤ cap) (hW : WdsAt w bk off ws) (x0 : Nat) (h0 : ws[0]? = some x0) (hx0 : x0 ≠ 0) (hno : noI ws) : Calls Tryd.prog 19 #[.slice (some ⟨bk, off, none⟩) 16 cap] w fun e w' => e = .returned (.tuple #[zrV, .int .i64 240]) ∧ Below w.heap.size w w' := by
  obtain ⟨l, el⟩ : ∃ l, x0 / 256 = l := ⟨_, rfl⟩
  obtain ⟨x1, h1⟩ : ∃ x, ws[1]? = some x := ⟨_, List.getElem?_eq_getElem (by omega)⟩
  obtain ⟨x2, h2⟩ : ∃ x, ws[2]? = some x := ⟨_, List.getElem?_eq_getElem (by omega)⟩
  obtain ⟨x3, h3⟩ : ∃ x, ws[3]? = some x := ⟨_, List.getElem?_eq_getElem (by omega)⟩
  have F : FoW bk off ws w x0 x1 x2 x3 l := ⟨hW, hws, hwb, h0, h1, h2, h3, hx0, el⟩
  by_cases hE : 4294967296 ≤ x0 ∨ 65536 < x1 ∨ ((4611686018427387904 < x2 ∨ 4611686018427387904 < x3) ∧ x0 % 256 ≠ 3)
  · exact dof_err bk off cap ws w _ _ _ _ _ F hE
  have hkc : (x0 % 256 = 0 ∨ 3 < x0 % 256) ∨ x0 % 256 = 1 ∨ x0 % 256 = 2 ∨ x0 % 256 = 3 := by omega
  rcases hkc with hk | hk | hk | hk
  · exact dof_0 bk off cap ws w _ _ _ _ _ F (by omega) hk
  · exact dof_1 bk off cap ws w _ _ _ _ _ F (by omega) hk hcap _ (fun _ w' hb => ⟨rfl, hb⟩) (fun _ _ w' hb => ⟨rfl, hb⟩) (fun _ _ _ w' hb => ⟨rfl, hb⟩) (fun _ hok he => absurd he (hno _ _ _ _ _ _ _ hok))
  · by_cases hok : okI 2 (l : Int) 0 [] (x2 : Int) (x3 : Int) []
    · exact dof_2W bk off cap ws w _ _ _ _ _ F (by omega) hk hcap hok (hno _ _ _ _ _ _ _ hok)
    · exact dof_2C bk off cap ws w _ _ _ _ _ F (by omega) hk hcap hok
  · by_cases hl : x1 ≤ 112
    case neg => exact dof_3L bk off cap ws w _ _ _ _ _ F (by omega) hk hcap (by omega)
    by_cases hok : okI 3 (l : Int) 0 [] 0 0 (tgD ws x1)
    · exact dof_3W bk off cap ws w _ _ _ _ _ F (by omega) hk hcap hl hok (hno _ _ _ _ _ _ _ hok)
    · exact dof_3C bk off cap ws w _ _ _ _ _ F (by omega) hk hcap hl hok
theorem dof_L (a : Option Addr) (n c : Nat) (w : World) (hn : n ≠ 16) (hl : n ≤ 1048576) : Calls Tryd.prog 19 #[.slice a n c] w fun e w' => e = .returned (.tuple #[zrV, .int .i64 240]) ∧ Below w.heap.size w w' := by
  have q := Below.refl w.heap.size w
  refine X.fn Tryd.func19 rfl (n := 145) rfl rfl ?_
  refine Zr ?_
  refine LL.alloc ([.int .i64 0, .int .i64 0, .int .i64 0, .slice none 0 0, .int .i64 0, .int .i64 0, .string { data := { toList := [] } }]) rfl rfl rfl rfl rfl ?_
  intro W2 g3 eg3 r4 z5 b1
  replace q := Zu q b1; refine Za ?_; refine Zq ?_; refine Zc ?_; refine Zr ?_; refine Zm ?_; refine Zn ?_; refine ZneT ?_; refine Zq ?_; refine ZY ?_; refine Zr ?_
  refine LL.val (R.buildV rfl rfl (v := .agg #[Value.int IntKind.i64 0, Value.int IntKind.i64 0, Value.int IntKind.i64 0, Value.slice none 0 0, Value.int IntKind.i64 0, Value.int IntKind.i64 0, Value.string { data := #[] }]) (fun _ => by kernel_rfl)) rfl rfl rfl ?_
  refine LL.storeN (vs := [.int .i64 0, .int .i64 0, .int .i64 0, .slice none 0 0, .int .i64 0, .int .i64 0, .string { data := #[] }]) rfl rfl rfl rfl r4 (by exact Nat.le_of_ble_eq_true rfl) (ones_of rfl) rfl rfl ?_
  intro W7 r8 b6 z9
  have hlb6 := r4.lt
  replace r8 : RowL W7 _ 25 [.int .i64 0, .int .i64 0, .int .i64 0, .slice none 0 0, .int .i64 0, .int .i64 0, .string { data := #[] }] := r8
  clear r4
  replace b1 := Zg b1 b6; replace q := Zg q b6
  have r4 := r8
  clear r8
  refine Za ?_; refine Zq ?_; refine ZR ?_; refine EE.thenR ?_
  refine EE.ret2 rfl ⟨_, rfl, lvNc (RowL.cells0 (by assumption)) (by rfl) (by rfl)⟩ rfl ?_
  exact ⟨rfl, q⟩
theorem dof_Z (bk off cap : Nat) (ws : List Nat) (w : World) (hW : WdsAt w bk off ws) (h0 : ws[0]? = some 0) : Calls Tryd.prog 19 #[.slice (some ⟨bk, off, none⟩) 16 cap] w fun e w' => e = .returned (.tuple #[zrV, .int .i64 0]) ∧ Below w.heap.size w w' := by
  have q := Below.refl w.heap.size w
  have c0 := hW.cells _ _ h0
  have hbk := hW.lt
  refine X.fn Tryd.func19 rfl (n := 145) rfl rfl ?_
  refine Zr ?_
  refine LL.alloc ([.int .i64 0, .int .i64 0, .int .i64 0, .slice none 0 0, .int .i64 0, .int .i64 0, .string { data := { toList := [] } }]) rfl rfl rfl rfl rfl ?_
  intro W2 g3 eg3 r4 z5 b1
  replace hW := hW.up b1; replace q := Zu q b1; replace c0 := cell_up c0 b1; refine Za ?_; refine Zq ?_; refine Zc ?_; refine Zr ?_; refine Zm ?_; refine Zn ?_; refine ZneF ?_; refine Zq ?_; refine ZN ?_; refine ZK ?_; refine ZT ?_; refine Zc ?_; refine Zr ?_; refine Zm ?_; refine Zi ?_; refine Zk ?_; refine ZeqT ?_; refine Zq ?_; refine ZY ?_; refine Zr ?_
  refine LL.val (R.buildV rfl rfl (v := .agg #[Value.int IntKind.i64 0, Value.int IntKind.i64 0, Value.int IntKind.i64 0, Value.slice none 0 0, Value.int IntKind.i64 0, Value.int IntKind.i64 0, Value.string { data := #[] }]) (fun _ => by kernel_rfl)) rfl rfl rfl ?_
  refine LL.storeN (vs := [.int .i64 0, .int .i64 0, .int .i64 0, .slice none 0 0, .int .i64 0, .int .i64 0, .string { data := #[] }]) rfl rfl rfl rfl r4 (by exact Nat.le_of_ble_eq_true rfl) (ones_of rfl) rfl rfl ?_
  intro W7 r8 b6 z9
  have hlb6 := r4.lt
  replace r8 : RowL W7 _ 25 [.int .i64 0, .int .i64 0, .int .i64 0, .slice none 0 0, .int .i64 0, .int .i64 0, .string { data := #[] }] := r8
  clear r4
  replace b1 := Zg b1 b6; replace q := Zg q b6; replace c0 := Ze c0 b6
  have r4 := r8
  clear r8
  refine Za ?_; refine Zq ?_; refine ZR ?_; refine EE.thenR ?_
  refine EE.ret2 rfl ⟨_, rfl, lvNc (RowL.cells0 (by assumption)) (by rfl) (by rfl)⟩ rfl ?_
  exact ⟨rfl, q⟩
theorem owns_at {w : World} {e base n : Nat} {v : Value} {xs : List Value} (h : w.ownsRow base e 1 v n xs) (hn : 0 < n) : ∃ g cap, v = .slice (some ⟨g, 0, none⟩) n cap ∧ base ≤ g ∧ g < w.heap.size ∧ n ≤ cap := by
  rcases id h.2 with ⟨rfl, e1⟩ | ⟨g, cap, cur, rfl, hbg, hg, hnc, hcm, hcs, htake⟩
  · omega
  · exact ⟨g, cap, rfl, hbg, (Array.getElem?_eq_some_iff.1 hg).1, hnc⟩
theorem reads_wds {a : Option Addr} {cap : Nat} {ws : List Nat} {w : World} (h : Reads w (.slice a 16 cap) (ints .u64 ws)) (hl : ws.length = 16) : ∃ bk off, a = some ⟨bk, off, none⟩ ∧ WdsAt w bk off ws ∧ 16 ≤ cap := by
  obtain ⟨a', c', e, hc, h3⟩ := h.intsN hl
  obtain ⟨b, off, rfl, hb, h4⟩ := h3 (by omega)
  cases e
  refine ⟨b, off, rfl, ⟨fun j x hj => ?_, hb⟩, hc⟩
  have := (List.getElem?_eq_some_iff.1 hj).1
  rw [h4 j (by omega), hj]
  rfl
/-- What Of hands back, of words or of none. -/
def ofE (k l z : Int) (m : List Ex) (r p : Int) (t : Bs) (e0 : Int) (w0 : World) (e : Ending) (w : World) : Prop := ∃ v, e = .returned (.tuple #[inV k l z v r p t, .int .i64 e0]) ∧ ReadsT eE 3 w v m ∧ Below w0.heap.size w0 w
theorem of_all (ws : List Nat) (hw : ∀ x ∈ ws, x < 18446744073709551616) (hl : ws.length ≤ 1048576) : ∃ k l z m r p t e0, (m.length ≤ 10) ∧ (e0 = 0 ∧ ws.length = 16 ∧ (ws[0]? = some 0 ∨ okI k l z m r p t ∧ inoW k l z m r p t = ws) ∨ e0 = 240) ∧ (∀ v w, Start w → Reads w v (ints .u64 ws) → Calls Tryd.prog 17 #[v] w (ofE k l z m r p t e0 w)) ∧ ∀ v w, Reads w v (ints .u64 ws) → Calls Tryd.prog 19 #[v] w (ofE k l z m r p t e0 w) := by
  by_cases h16 : ws.length = 16
  case neg =>
    refine ⟨0, 0, 0, [], 0, 0, [], 240, by decide, .inr rfl, fun v w _ hv => ?_, fun v w hv => ?_⟩
    · obtain ⟨a, c, rfl, _⟩ := hv.intsN rfl
      exact (of_L a _ c w h16).mono fun e w' ⟨he, hb⟩ => ⟨_, he, ReadsT.nil _, hb⟩
    · obtain ⟨a, c, rfl, _⟩ := hv.intsN rfl
      exact (dof_L a _ c w h16 hl).mono fun e w' ⟨he, hb⟩ => ⟨_, he, ReadsT.nil _, hb⟩
  obtain ⟨x0, h0⟩ : ∃ x, ws[0]? = some x := ⟨_, List.getElem?_eq_getElem (by omega)⟩
  by_cases hz : x0 = 0
  · subst hz
    refine ⟨0, 0, 0, [], 0, 0, [], 0, by decide, .inl ⟨rfl, h16, .inl h0⟩, fun v w hS hv => ?_, fun v w hv => ?_⟩
    · obtain ⟨a, c, rfl, _⟩ := hv.intsN h16
      obtain ⟨bk, off, rfl, hW, hc⟩ := reads_wds hv h16
      exact of_Z bk off c ws w hS h16 hw hc hW h0
    · obtain ⟨a, c, rfl, _⟩ := hv.intsN h16
      obtain ⟨bk, off, rfl, hW, hc⟩ := reads_wds hv h16
      exact (dof_Z bk off c ws w hW h0).mono fun e w' ⟨he, hb⟩ => ⟨_, he, ReadsT.nil _, hb⟩
  by_cases hex : ∃ k l z m r p t, okI k l z m r p t ∧ inoW k l z m r p t = ws
  · obtain ⟨k, l, z, m, r, p, t, ho, he⟩ := hex
    have hm : m.length ≤ 10 := by
      obtain ⟨_, ⟨rfl, rfl, rfl, rfl, rfl, rfl, rfl⟩ | ⟨rfl, rfl, rfl, rfl, hf⟩ | ⟨rfl, rfl, rfl, rfl, h1⟩ | ⟨rfl, rfl, rfl, rfl, rfl, h1⟩⟩ := ho
      · exact Nat.zero_le _
      · exact hf.2.1.1
      · exact Nat.zero_le _
      · exact Nat.zero_le _
    refine ⟨k, l, z, m, r, p, t, 0, hm, .inl ⟨rfl, h16, .inr ⟨ho, he⟩⟩, fun v w hS hv => ?_, fun v w hv => ?_⟩
    · obtain ⟨a, c, rfl, _⟩ := hv.intsN h16
      obtain ⟨bk, off, rfl, hW, hc⟩ := reads_wds hv h16
      exact of_ok bk off c ws k l z m r p t w hS hc hW ho he
    · obtain ⟨a, c, rfl, _⟩ := hv.intsN h16
      obtain ⟨bk, off, rfl, hW, hc⟩ := reads_wds hv h16
      exact dof_ok bk off c ws k l z m r p t w hc hW ho he (by rw [h0]; intro h; cases h; exact hz rfl)
  · have hno : noI ws := fun k l z m r p t ho he => hex ⟨k, l, z, m, r, p, t, ho, he⟩
    refine ⟨0, 0, 0, [], 0, 0, [], 240, by decide, .inr rfl, fun v w hS hv => ?_, fun v w hv => ?_⟩
    · obtain ⟨a, c, rfl, _⟩ := hv.intsN h16
      obtain ⟨bk, off, rfl, hW, hc⟩ := reads_wds hv h16
      exact (of_no bk off c ws w hS h16 hw hc hW x0 h0 hz hno).mono fun e w' ⟨he, hb⟩ => ⟨_, he, ReadsT.nil _, hb⟩
    · obtain ⟨a, c, rfl, _⟩ := hv.intsN h16
      obtain ⟨bk, off, rfl, hW, hc⟩ := reads_wds hv h16
      exact (dof_no bk off c ws w h16 hw hc hW x0 h0 hz hno).mono fun e w' ⟨he, hb⟩ => ⟨_, he, ReadsT.nil _, hb⟩
theorem inreads_many (v : Value) (ws : List Nat) (w : World) (hS : Start w) (hv : Reads w v (ints .u64 ws)) (h : 40 < ws.length) : Calls Tryd.prog 4 #[v] w fun x w' => x = .returned (.bool true) ∧ Below w.heap.size w w' := by
  have q := Below.refl w.heap.size w
  have hSF : ∀ X, Below w.heap.size w X → Start X := fun X b => hS.up b
  obtain ⟨N, hN⟩ : ∃ N, ws.length = N := ⟨_, rfl⟩
  obtain ⟨a, cap, rfl, hcap, _⟩ := hv.intsN hN
  clear hv hS
  refine X.fn Tryd.func4 rfl (n := 85) rfl rfl ?_
  refine Zr ?_; refine Za ?_; refine Zq ?_; refine Zc ?_; refine Zr ?_; refine Zm ?_; refine Zn ?_; refine ZgtT ?_; refine Zq ?_; refine ZY ?_; refine Zr ?_
  refine Zy (R.call rfl rfl rfl) (works_any _ (hSF _ q)) ?_
  rintro e W2 ⟨rfl, b1⟩
  refine ⟨_, rfl, ?_⟩; have zb1 := b1.size; replace q := Zu q b1; refine Za ?_; refine Zq ?_; refine ZR ?_; refine EE.thenR ?_; refine EE.ret _ rfl rfl ?_
  exact ⟨rfl, q⟩
--C ref01_Same | hsN @w _ (r81.up b') (hWF _ (q.trans (b'.mono q.size))) | ⟨rfl, @b⟩
--C ref01_Same | hsN @w _ r81 (hWF _ q) | ⟨rfl, @b⟩
theorem inreads_few (v : Value) (ws : List Nat) (w : World) (hS : Start w) (hv : Reads w v (ints .u64 ws)) (hw : ∀ x ∈ ws, x < 18446744073709551616) (h : ws.length ≤ 40) : Calls Tryd.prog 4 #[v] w fun x w' => x = .returned (.bool true) ∧ Below w.heap.size w w' := by
  have q := Below.refl w.heap.size w
  have hSF : ∀ X, Below w.heap.size w X → Start X := fun X b => hS.up b
  have hvh : ∀ W, Below w.heap.size w W → Reads W v (ints .u64 ws) := fun W hb => hv.up hb
  obtain ⟨N, hN⟩ : ∃ N, ws.length = N := ⟨_, rfl⟩
  obtain ⟨a, cap, rfl, hcap, _⟩ := hv.intsN hN
  clear hS
  refine X.fn Tryd.func4 rfl (n := 85) rfl rfl ?_
  refine Zr ?_; refine Za ?_; refine Zq ?_; refine Zc ?_; refine Zr ?_; refine Zm ?_; refine Zn ?_; refine ZgtF ?_; refine Zq ?_; refine ZN ?_; refine ZK ?_; refine ZT ?_; refine Zr ?_
  refine LL.lit (e := 41) [] 0 rfl rfl (fun _ => by kernel_rfl) rfl rfl ?_
  intro W2 g3 eg3 r4 z5 b1
  replace q := Zu q b1; replace hv := hv.up b1; refine Zm ?_
  refine LL.appendL rfl rfl El64 r4 (by first | assumption | exact OwnW.reads (by assumption)) (ints_one _ _) (by simp only [maxLen, List.length_map, List.length_cons, List.length_nil]; omega) (by simp only [maxLen, List.length_map, List.length_cons, List.length_nil]; omega) rfl rfl ?_
  have hlb9 := r4.lt
  intro v6 W7 o8 b9
  clear r4
  replace o8 := o8.low (show w.heap.size ≤ _ by omega)
  replace b1 := Zg b1 b9; replace q := Zg q b9; have zb9 := b9.size
  refine LL.lit (e := 41) [Value.int IntKind.u64 77] 1 rfl rfl (fun _ => by kernel_rfl) rfl rfl ?_
  intro W11 g12 eg12 r13 z14 b10
  replace o8 := o8.up b10; replace b1 := Zu b1 b10; replace q := Zu q b10
  have ho1 := o8
  simp only [List.nil_append, List.length_map, List.length_nil, Nat.zero_add, hN] at ho1
  refine LL.append (us := ints .u64 ws) (ys := ints .u64 [77]) rfl rfl El64 ho1 (RowL.asInts r13 .u64 [77] rfl rfl) (ints_one _ _) (by simp [maxLen]; omega) (by simp; omega) (by have := q.size; omega) rfl rfl ?_
  intro v3 W3 o3 g3'
  have hb3 := owns_bel ho1 g3' (by have := q.size; omega)
  have yq := q.size
  replace q := q.trans hb3
  have y3 := q.size
  rw [show ints .u64 ws ++ ints .u64 [77] = ints .u64 (ws ++ [77]) by simp [ints]] at o3
  have ho3 : W3.ownsRow w.heap.size 41 1 v3 (N + 1) (ints .u64 (ws ++ [77])) := o3
  obtain ⟨gv, cv, rfl, hgv, lgv, hcv⟩ := owns_at ho3 (by omega)
  have hRv := reads_of_owns ho3
  obtain ⟨_, _, e3, _, hcl⟩ := hRv.intsN (n := N + 1) (by simp [hN])
  obtain ⟨_, _, e4, _, hcl⟩ := hcl (by omega)
  simp only [Value.slice.injEq, true_and] at e3
  rw [← e3.1] at e4
  simp only [Option.some.injEq, Addr.mk.injEq, and_true] at e4
  obtain ⟨rfl, rfl⟩ := e4
  have c1 : W3.cell? ⟨gv, 0 + N, none⟩ = some (.int .u64 77) := by
    have := hcl N (by omega)
    rw [show (ws ++ [77])[N]? = some 77 by rw [← hN]; simp] at this
    exact this
  have hV := hRv.take N (by omega) cv (by omega)
  rw [show (ints .u64 (ws ++ [77])).take N = ints .u64 ws by simp only [ints]; rw [← List.map_take, ← hN, List.take_left']; rfl] at hV
  clear e3 hcl hRv ho3 o3 g3' hb3 ho1 o8 r13 b10 b9 b1 hv
  obtain ⟨k, l, z, m, r, p, t, e0, hm10, hcs, hof, hdof⟩ := of_all ws hw (by omega)
  have hsm : true = true ↔ sameI k l z m r p t k l z m r p t := by simp [sameI]
  have qV := Below.refl W3.heap.size W3
  have hVF : ∀ X, Below W3.heap.size W3 X → Reads X (.slice (some ⟨gv, 0, none⟩) N cv) (ints .u64 ws) := fun X b => hV.up b
  have c1F := fun X (b : Below W3.heap.size W3 X) => cell_up c1 b
  clear hV c1
  rcases hcs with ⟨rfl, h16, hcs⟩ | rfl
  case inr =>
    refine Zm ?_; refine Zn ?_
    refine LL.val (R.slice rfl rfl rfl rfl rfl (I.slTo rfl (by omega))) rfl rfl rfl ?_
    refine Za ?_; refine Zq ?_; refine Zr ?_; refine Zm ?_
    (refine Zy (R.call rfl rfl rfl) (hof _ _ (hSF _ q) (hVF _ qV)) ?_; rintro e Wa144 ⟨v4, rfl, rd4, ba141⟩; refine ⟨_, rfl, ?_⟩; obtain ⟨x4, c4, rfl, _⟩ := rd4.form rfl; have rd4F := fun X (b : Below Wa144.heap.size Wa144 X) => rd4.up b; clear rd4)
    have zba141 := ba141.size; replace q := Zu q ba141; replace qV := Zu qV ba141; refine Zm ?_; refine Zx ?_; refine Zx ?_
    refine LL.alloc ([.int .i64 0, .int .i64 0, .int .i64 0, .slice none 0 0, .int .i64 0, .int .i64 0, .string { data := { toList := [] } }]) rfl rfl rfl rfl rfl ?_
    intro Wa261 ga262 ega262 ra263 za264 ba260
    replace ba141 := Zu ba141 ba260; replace q := Zu q ba260; replace qV := Zu qV ba260
    refine LL.storeN (vs := [.int .i64 k, .int .i64 l, .int .i64 z, .slice x4 m.length c4, .int .i64 r, .int .i64 p, strV t]) rfl rfl rfl rfl ra263 (by exact Nat.le_of_ble_eq_true rfl) (ones_of rfl) rfl rfl ?_
    intro Wa298 ra299 ba297 za300
    have hlba297 := ra263.lt
    replace ra299 : RowL Wa298 _ 25 [.int .i64 k, .int .i64 l, .int .i64 z, .slice x4 m.length c4, .int .i64 r, .int .i64 p, strV t] := ra299
    clear ra263
    replace ba260 := Zg ba260 ba297; replace ba141 := Zg ba141 ba297; replace q := Zg q ba297; replace qV := Zg qV ba297
    have ra263 := ra299
    clear ra299
    refine Za ?_; refine Zq ?_; refine Zr ?_; refine Zm ?_; have la377 := ra263.lt
    (refine Zy (R.call rfl rfl rfl) (hdof _ _ (hvh _ q)) ?_; rintro e Wa376 ⟨v5, rfl, rd5, ba373⟩; refine ⟨_, rfl, ?_⟩; obtain ⟨x5, c5, rfl, _⟩ := rd5.form rfl; have rd5F := fun X (b : Below Wa376.heap.size Wa376 X) => rd5.up b; clear rd5)
    have zba373 := ba373.size; replace ba260 := Zu ba260 ba373; replace ba141 := Zu ba141 ba373; replace q := Zu q ba373; replace qV := Zu qV ba373; replace ra263 := ra263.up ba373; refine Zm ?_; refine Zx ?_; refine Zx ?_; have la509 := ra263.lt
    refine LL.alloc ([.int .i64 0, .int .i64 0, .int .i64 0, .slice none 0 0, .int .i64 0, .int .i64 0, .string { data := { toList := [] } }]) rfl rfl rfl rfl rfl ?_
    intro Wa511 ga512 ega512 ra513 za514 ba510
    replace ba373 := Zu ba373 ba510; replace ba260 := Zu ba260 ba510; replace ba141 := Zu ba141 ba510; replace q := Zu q ba510; replace qV := Zu qV ba510; replace ra263 := ra263.up ba510
    refine LL.storeN (vs := [.int .i64 k, .int .i64 l, .int .i64 z, .slice x5 m.length c5, .int .i64 r, .int .i64 p, strV t]) rfl rfl rfl rfl ra513 (by exact Nat.le_of_ble_eq_true rfl) (ones_of rfl) rfl rfl ?_
    intro Wa552 ra553 ba551 za554
    have hlba551 := ra513.lt
    replace ra553 : RowL Wa552 _ 25 [.int .i64 k, .int .i64 l, .int .i64 z, .slice x5 m.length c5, .int .i64 r, .int .i64 p, strV t] := ra553
    clear ra513
    replace ba510 := Zg ba510 ba551; replace ba373 := Zg ba373 ba551; replace ba260 := Zg ba260 ba551; replace ba141 := Zg ba141 ba551; replace q := Zg q ba551; replace qV := Zg qV ba551; replace ra263 := Zd ra263 ba551
    have ra513 := ra553
    clear ra553
    refine Za ?_; refine Zq ?_; refine Zc ?_; refine Zr ?_; refine Zv ra263 ?_; refine Zv ra513 ?_; have la685 := ra263.lt; have la686 := ra513.lt
    (refine Zy (R.call rfl rfl rfl) (dinsame_any k l z _ m r p t k l z _ m r p t _ (rd4F _ (by assumption)) (rd5F _ (by assumption)) (by omega) (by omega) true hsm) ?_; rintro e Wa684 ⟨rfl, ba681⟩; refine ⟨_, rfl, ?_⟩)
    have zba681 := ba681.size; replace ba510 := Zu ba510 ba681; replace ba373 := Zu ba373 ba681; replace ba260 := Zu ba260 ba681; replace ba141 := Zu ba141 ba681; replace q := Zu q ba681; replace qV := Zu qV ba681; replace ra263 := ra263.up ba681; replace ra513 := ra513.up ba681; refine Zt ?_; refine Zm ?_; refine Zm ?_
    refine Zy (R.call rfl rfl rfl) (num_any _ _) ?_
    rintro e W' ⟨rfl, rfl⟩
    refine ⟨_, rfl, ?_⟩; refine Zm ?_; refine ZneF ?_; refine Zp ?_; refine Zm ?_; refine Zm ?_; refine Zm ?_; have la1081 := ra263.lt; have la1082 := ra513.lt
    (have c1 := c1F _ qV; refine Zy (R.call rfl rfl rfl) (wsame_T _ _ ws ws _ (hVF _ qV) (hvh _ q) (by omega) rfl) ?_; rintro e Wa1080 ⟨rfl, ba1077⟩; refine ⟨_, rfl, ?_⟩)
    have zba1077 := ba1077.size; replace ba681 := Zu ba681 ba1077; replace ba510 := Zu ba510 ba1077; replace ba373 := Zu ba373 ba1077; replace ba260 := Zu ba260 ba1077; replace ba141 := Zu ba141 ba1077; replace q := Zu q ba1077; replace qV := Zu qV ba1077; replace ra263 := ra263.up ba1077; replace ra513 := ra513.up ba1077; replace c1 := cell_up c1 ba1077; refine Zt ?_; refine Zp ?_; refine Zm ?_; refine Zm ?_
    refine Zm ?_; refine Zn ?_
    refine LL.val (R.addNc rfl rfl rfl rfl (by omega)) rfl rfl rfl ?_
    refine LL.val (R.slice rfl rfl rfl rfl rfl (I.slTo rfl (by omega))) rfl rfl rfl ?_
    refine Zm ?_; refine Zn ?_
    refine LL.val (R.index rfl rfl rfl (I.ixS1 rfl (by omega))) rfl rfl rfl ?_
    refine Zk ?_; refine ZneF ?_; refine Zp ?_; refine Zq ?_; refine ZN ?_; refine ZK ?_; refine ZT ?_; refine Zc ?_; refine Zr ?_; refine Zm ?_; refine ZneT ?_; refine Zm ?_; refine Zs ?_; refine Zs ?_; refine Zs ?_; refine Zs ?_; refine Zp ?_; refine Zq ?_; refine ZY ?_; refine Zr ?_
    refine Zy (R.call rfl rfl rfl) (works_any _ (hSF _ q)) ?_
    rintro e Wa1771 ⟨rfl, ba1770⟩
    refine ⟨_, rfl, ?_⟩; have zba1770 := ba1770.size; replace ba1077 := Zu ba1077 ba1770; replace ba681 := Zu ba681 ba1770; replace ba510 := Zu ba510 ba1770; replace ba373 := Zu ba373 ba1770; replace ba260 := Zu ba260 ba1770; replace ba141 := Zu ba141 ba1770; replace q := Zu q ba1770; replace qV := Zu qV ba1770; replace ra263 := ra263.up ba1770; replace ra513 := ra513.up ba1770; replace c1 := cell_up c1 ba1770
    refine Za ?_; refine Zq ?_; refine ZR ?_; refine EE.thenR ?_; refine EE.ret _ rfl rfl ?_
    exact ⟨rfl, q⟩
  have hN16 : N = 16 := by omega
  obtain ⟨bk, off, rfl, hW0, hc16⟩ := reads_wds (a := a) (cap := cap) (by have := hvh w (Below.refl _ _); rwa [hN16] at this) h16
  have hsN : ∀ W' g, RowL W' g 41 (ints .u64 ws) → WdsAt W' bk off ws → Calls Tryd.prog 16 #[.slice (some ⟨g, 0, none⟩) 16 16, .slice (some ⟨bk, off, none⟩) N cap] W' fun e w' => e = .returned (.bool true) ∧ Below W'.heap.size W' w' := fun W' g h1 h2 => by rw [hN16]; exact wsame_RT g bk off cap ws W' h1 h2 h16 hc16
  have hWF := fun X (b : Below w.heap.size w X) => hW0.up b
  obtain ⟨x0, h0⟩ : ∃ x, ws[0]? = some x := ⟨_, List.getElem?_eq_getElem (by omega)⟩
  have hx0 := hw _ (List.mem_of_getElem? h0)
  clear hW0
  by_cases hz : x0 = 0
  · subst hz
    refine Zm ?_; refine Zn ?_
    refine LL.val (R.slice rfl rfl rfl rfl rfl (I.slTo rfl (by omega))) rfl rfl rfl ?_
    refine Za ?_; refine Zq ?_; refine Zr ?_; refine Zm ?_
    (refine Zy (R.call rfl rfl rfl) (hof _ _ (hSF _ q) (hVF _ qV)) ?_; rintro e Wb144 ⟨v4, rfl, rd4, bb141⟩; refine ⟨_, rfl, ?_⟩; obtain ⟨x4, c4, rfl, _⟩ := rd4.form rfl; have rd4F := fun X (b : Below Wb144.heap.size Wb144 X) => rd4.up b; clear rd4)
    have zbb141 := bb141.size; replace q := Zu q bb141; replace qV := Zu qV bb141; refine Zm ?_; refine Zx ?_; refine Zx ?_
    refine LL.alloc ([.int .i64 0, .int .i64 0, .int .i64 0, .slice none 0 0, .int .i64 0, .int .i64 0, .string { data := { toList := [] } }]) rfl rfl rfl rfl rfl ?_
    intro Wb261 gb262 egb262 rb263 zb264 bb260
    replace bb141 := Zu bb141 bb260; replace q := Zu q bb260; replace qV := Zu qV bb260
    refine LL.storeN (vs := [.int .i64 k, .int .i64 l, .int .i64 z, .slice x4 m.length c4, .int .i64 r, .int .i64 p, strV t]) rfl rfl rfl rfl rb263 (by exact Nat.le_of_ble_eq_true rfl) (ones_of rfl) rfl rfl ?_
    intro Wb298 rb299 bb297 zb300
    have hlbb297 := rb263.lt
    replace rb299 : RowL Wb298 _ 25 [.int .i64 k, .int .i64 l, .int .i64 z, .slice x4 m.length c4, .int .i64 r, .int .i64 p, strV t] := rb299
    clear rb263
    replace bb260 := Zg bb260 bb297; replace bb141 := Zg bb141 bb297; replace q := Zg q bb297; replace qV := Zg qV bb297
    have rb263 := rb299
    clear rb299
    refine Za ?_; refine Zq ?_; refine Zr ?_; refine Zm ?_; have lb377 := rb263.lt
    (refine Zy (R.call rfl rfl rfl) (hdof _ _ (hvh _ q)) ?_; rintro e Wb376 ⟨v5, rfl, rd5, bb373⟩; refine ⟨_, rfl, ?_⟩; obtain ⟨x5, c5, rfl, _⟩ := rd5.form rfl; have rd5F := fun X (b : Below Wb376.heap.size Wb376 X) => rd5.up b; clear rd5)
    have zbb373 := bb373.size; replace bb260 := Zu bb260 bb373; replace bb141 := Zu bb141 bb373; replace q := Zu q bb373; replace qV := Zu qV bb373; replace rb263 := rb263.up bb373; refine Zm ?_; refine Zx ?_; refine Zx ?_; have lb509 := rb263.lt
    refine LL.alloc ([.int .i64 0, .int .i64 0, .int .i64 0, .slice none 0 0, .int .i64 0, .int .i64 0, .string { data := { toList := [] } }]) rfl rfl rfl rfl rfl ?_
    intro Wb511 gb512 egb512 rb513 zb514 bb510
    replace bb373 := Zu bb373 bb510; replace bb260 := Zu bb260 bb510; replace bb141 := Zu bb141 bb510; replace q := Zu q bb510; replace qV := Zu qV bb510; replace rb263 := rb263.up bb510
    refine LL.storeN (vs := [.int .i64 k, .int .i64 l, .int .i64 z, .slice x5 m.length c5, .int .i64 r, .int .i64 p, strV t]) rfl rfl rfl rfl rb513 (by exact Nat.le_of_ble_eq_true rfl) (ones_of rfl) rfl rfl ?_
    intro Wb552 rb553 bb551 zb554
    have hlbb551 := rb513.lt
    replace rb553 : RowL Wb552 _ 25 [.int .i64 k, .int .i64 l, .int .i64 z, .slice x5 m.length c5, .int .i64 r, .int .i64 p, strV t] := rb553
    clear rb513
    replace bb510 := Zg bb510 bb551; replace bb373 := Zg bb373 bb551; replace bb260 := Zg bb260 bb551; replace bb141 := Zg bb141 bb551; replace q := Zg q bb551; replace qV := Zg qV bb551; replace rb263 := Zd rb263 bb551
    have rb513 := rb553
    clear rb553
    refine Za ?_; refine Zq ?_; refine Zc ?_; refine Zr ?_; refine Zv rb263 ?_; refine Zv rb513 ?_; have lb685 := rb263.lt; have lb686 := rb513.lt
    (refine Zy (R.call rfl rfl rfl) (dinsame_any k l z _ m r p t k l z _ m r p t _ (rd4F _ (by assumption)) (rd5F _ (by assumption)) (by omega) (by omega) true hsm) ?_; rintro e Wb684 ⟨rfl, bb681⟩; refine ⟨_, rfl, ?_⟩)
    have zbb681 := bb681.size; replace bb510 := Zu bb510 bb681; replace bb373 := Zu bb373 bb681; replace bb260 := Zu bb260 bb681; replace bb141 := Zu bb141 bb681; replace q := Zu q bb681; replace qV := Zu qV bb681; replace rb263 := rb263.up bb681; replace rb513 := rb513.up bb681; refine Zt ?_; refine Zm ?_; refine Zm ?_
    refine Zy (R.call rfl rfl rfl) (num_any _ _) ?_
    rintro e W' ⟨rfl, rfl⟩
    refine ⟨_, rfl, ?_⟩; refine Zm ?_; refine ZneF ?_; refine Zp ?_; refine Zm ?_; refine Zm ?_; refine Zm ?_; have lb1081 := rb263.lt; have lb1082 := rb513.lt
    (have c1 := c1F _ qV; have c0 := (hWF _ q).cells _ _ h0; refine Zy (R.call rfl rfl rfl) (wsame_T _ _ ws ws _ (hVF _ qV) (hvh _ q) (by omega) rfl) ?_; rintro e Wb1080 ⟨rfl, bb1077⟩; refine ⟨_, rfl, ?_⟩)
    have zbb1077 := bb1077.size; replace bb681 := Zu bb681 bb1077; replace bb510 := Zu bb510 bb1077; replace bb373 := Zu bb373 bb1077; replace bb260 := Zu bb260 bb1077; replace bb141 := Zu bb141 bb1077; replace q := Zu q bb1077; replace qV := Zu qV bb1077; replace rb263 := rb263.up bb1077; replace rb513 := rb513.up bb1077; replace c1 := cell_up c1 bb1077; replace c0 := cell_up c0 bb1077; refine Zt ?_
    refine Zp ?_; refine Zm ?_; refine Zm ?_; refine Zm ?_; refine Zn ?_
    refine LL.val (R.addNc rfl rfl rfl rfl (by omega)) rfl rfl rfl ?_
    refine LL.val (R.slice rfl rfl rfl rfl rfl (I.slTo rfl (by omega))) rfl rfl rfl ?_
    refine Zm ?_; refine Zn ?_
    refine LL.val (R.index rfl rfl rfl (I.ixS1 rfl (by omega))) rfl rfl rfl ?_
    refine Zk ?_; refine ZneF ?_; refine Zp ?_; refine Zq ?_; refine ZN ?_; refine ZK ?_; refine ZT ?_; refine Zc ?_; refine Zr ?_; refine Zm ?_; refine ZneF ?_; refine Zm ?_; refine Zm ?_; refine Zi ?_; refine Zk ?_; refine ZeqT ?_; refine Zp ?_; refine Zq ?_; refine ZY ?_; refine Zr ?_
    refine Zy (R.call rfl rfl rfl) (works_any _ (hSF _ q)) ?_
    rintro e Wb1915 ⟨rfl, bb1914⟩
    refine ⟨_, rfl, ?_⟩; have zbb1914 := bb1914.size; replace bb1077 := Zu bb1077 bb1914; replace bb681 := Zu bb681 bb1914; replace bb510 := Zu bb510 bb1914; replace bb373 := Zu bb373 bb1914; replace bb260 := Zu bb260 bb1914; replace bb141 := Zu bb141 bb1914; replace q := Zu q bb1914; replace qV := Zu qV bb1914; replace rb263 := rb263.up bb1914; replace rb513 := rb513.up bb1914; replace c1 := cell_up c1 bb1914
    replace c0 := cell_up c0 bb1914; refine Za ?_; refine Zq ?_; refine ZR ?_; refine EE.thenR ?_; refine EE.ret _ rfl rfl ?_
    exact ⟨rfl, q⟩
  obtain ⟨hok, he⟩ := hcs.resolve_left (by rw [h0]; intro h; cases h; exact hz rfl)
  have hwy := fun x n c W (h1 : Start W) h => words_ok k l z x n c m r p t W h1 h (by omega) hok
  unfold wsP at hwy
  rw [he] at hwy
  refine Zm ?_; refine Zn ?_
  refine LL.val (R.slice rfl rfl rfl rfl rfl (I.slTo rfl (by omega))) rfl rfl rfl ?_
  refine Za ?_; refine Zq ?_; refine Zr ?_; refine Zm ?_
  (refine Zy (R.call rfl rfl rfl) (hof _ _ (hSF _ q) (hVF _ qV)) ?_; rintro e Wc179 ⟨v4, rfl, rd4, bc176⟩; refine ⟨_, rfl, ?_⟩; obtain ⟨x4, c4, rfl, _⟩ := rd4.form rfl; have rd4F := fun X (b : Below Wc179.heap.size Wc179 X) => rd4.up b; clear rd4)
  have zbc176 := bc176.size; replace q := Zu q bc176; replace qV := Zu qV bc176; refine Zm ?_; refine Zx ?_; refine Zx ?_
  refine LL.alloc ([.int .i64 0, .int .i64 0, .int .i64 0, .slice none 0 0, .int .i64 0, .int .i64 0, .string { data := { toList := [] } }]) rfl rfl rfl rfl rfl ?_
  intro Wc324 gc325 egc325 rc326 zc327 bc323
  replace bc176 := Zu bc176 bc323; replace q := Zu q bc323; replace qV := Zu qV bc323
  refine LL.storeN (vs := [.int .i64 k, .int .i64 l, .int .i64 z, .slice x4 m.length c4, .int .i64 r, .int .i64 p, strV t]) rfl rfl rfl rfl rc326 (by exact Nat.le_of_ble_eq_true rfl) (ones_of rfl) rfl rfl ?_
  intro Wc369 rc370 bc368 zc371
  have hlbc368 := rc326.lt
  replace rc370 : RowL Wc369 _ 25 [.int .i64 k, .int .i64 l, .int .i64 z, .slice x4 m.length c4, .int .i64 r, .int .i64 p, strV t] := rc370
  clear rc326
  replace bc323 := Zg bc323 bc368; replace bc176 := Zg bc176 bc368; replace q := Zg q bc368; replace qV := Zg qV bc368
  have rc326 := rc370
  clear rc370
  refine Za ?_; refine Zq ?_; refine Zr ?_; refine Zm ?_; have lc464 := rc326.lt
  (refine Zy (R.call rfl rfl rfl) (hdof _ _ (hvh _ q)) ?_; rintro e Wc463 ⟨v5, rfl, rd5, bc460⟩; refine ⟨_, rfl, ?_⟩; obtain ⟨x5, c5, rfl, _⟩ := rd5.form rfl; have rd5F := fun X (b : Below Wc463.heap.size Wc463 X) => rd5.up b; clear rd5)
  have zbc460 := bc460.size; replace bc323 := Zu bc323 bc460; replace bc176 := Zu bc176 bc460; replace q := Zu q bc460; replace qV := Zu qV bc460; replace rc326 := rc326.up bc460; refine Zm ?_; refine Zx ?_; refine Zx ?_; have lc628 := rc326.lt
  refine LL.alloc ([.int .i64 0, .int .i64 0, .int .i64 0, .slice none 0 0, .int .i64 0, .int .i64 0, .string { data := { toList := [] } }]) rfl rfl rfl rfl rfl ?_
  intro Wc630 gc631 egc631 rc632 zc633 bc629
  replace bc460 := Zu bc460 bc629; replace bc323 := Zu bc323 bc629; replace bc176 := Zu bc176 bc629; replace q := Zu q bc629; replace qV := Zu qV bc629; replace rc326 := rc326.up bc629
  refine LL.storeN (vs := [.int .i64 k, .int .i64 l, .int .i64 z, .slice x5 m.length c5, .int .i64 r, .int .i64 p, strV t]) rfl rfl rfl rfl rc632 (by exact Nat.le_of_ble_eq_true rfl) (ones_of rfl) rfl rfl ?_
  intro Wc680 rc681 bc679 zc682
  have hlbc679 := rc632.lt
  replace rc681 : RowL Wc680 _ 25 [.int .i64 k, .int .i64 l, .int .i64 z, .slice x5 m.length c5, .int .i64 r, .int .i64 p, strV t] := rc681
  clear rc632
  replace bc629 := Zg bc629 bc679; replace bc460 := Zg bc460 bc679; replace bc323 := Zg bc323 bc679; replace bc176 := Zg bc176 bc679; replace q := Zg q bc679; replace qV := Zg qV bc679; replace rc326 := Zd rc326 bc679
  have rc632 := rc681
  clear rc681
  refine Za ?_; refine Zq ?_; refine Zc ?_; refine Zr ?_; refine Zv rc326 ?_; refine Zv rc632 ?_; have lc840 := rc326.lt; have lc841 := rc632.lt
  (refine Zy (R.call rfl rfl rfl) (dinsame_any k l z _ m r p t k l z _ m r p t _ (rd4F _ (by assumption)) (rd5F _ (by assumption)) (by omega) (by omega) true hsm) ?_; rintro e Wc839 ⟨rfl, bc836⟩; refine ⟨_, rfl, ?_⟩)
  have zbc836 := bc836.size; replace bc629 := Zu bc629 bc836; replace bc460 := Zu bc460 bc836; replace bc323 := Zu bc323 bc836; replace bc176 := Zu bc176 bc836; replace q := Zu q bc836; replace qV := Zu qV bc836; replace rc326 := rc326.up bc836; replace rc632 := rc632.up bc836; refine Zt ?_; refine Zm ?_; refine Zm ?_
  refine Zy (R.call rfl rfl rfl) (num_any _ _) ?_
  rintro e W' ⟨rfl, rfl⟩
  refine ⟨_, rfl, ?_⟩; refine Zm ?_; refine ZneF ?_; refine Zp ?_; refine Zm ?_; refine Zm ?_; refine Zm ?_; have lc1326 := rc326.lt; have lc1327 := rc632.lt
  (have c1 := c1F _ qV; have c0 := (hWF _ q).cells _ _ h0; refine Zy (R.call rfl rfl rfl) (wsame_T _ _ ws ws _ (hVF _ qV) (hvh _ q) (by omega) rfl) ?_; rintro e Wc1325 ⟨rfl, bc1322⟩; refine ⟨_, rfl, ?_⟩)
  have zbc1322 := bc1322.size; replace bc836 := Zu bc836 bc1322; replace bc629 := Zu bc629 bc1322; replace bc460 := Zu bc460 bc1322; replace bc323 := Zu bc323 bc1322; replace bc176 := Zu bc176 bc1322; replace q := Zu q bc1322; replace qV := Zu qV bc1322; replace rc326 := rc326.up bc1322; replace rc632 := rc632.up bc1322; replace c1 := cell_up c1 bc1322; replace c0 := cell_up c0 bc1322; refine Zt ?_
  refine Zp ?_; refine Zm ?_; refine Zm ?_; refine Zm ?_; refine Zn ?_
  refine LL.val (R.addNc rfl rfl rfl rfl (by omega)) rfl rfl rfl ?_
  refine LL.val (R.slice rfl rfl rfl rfl rfl (I.slTo rfl (by omega))) rfl rfl rfl ?_
  refine Zm ?_; refine Zn ?_
  refine LL.val (R.index rfl rfl rfl (I.ixS1 rfl (by omega))) rfl rfl rfl ?_
  refine Zk ?_; refine ZneF ?_; refine Zp ?_; refine Zq ?_; refine ZN ?_; refine ZK ?_; refine ZT ?_; refine Zc ?_; refine Zr ?_; refine Zm ?_; refine ZneF ?_; refine Zm ?_; refine Zm ?_; refine Zi ?_; refine Zk ?_; refine ZeqF ?_; refine Zp ?_; refine Zq ?_; refine ZN ?_; refine ZK ?_; refine ZT ?_; refine Zr ?_; refine Zv rc326 ?_; have lc2406 := rc326.lt; have lc2407 := rc632.lt
  (refine Zy (R.call rfl rfl rfl) (hwy _ _ _ _ (hSF _ q) (rd4F _ (by assumption))) ?_; rintro e Wc2405 ⟨g8, rfl, r81, hg8, bc2402⟩; refine ⟨_, rfl, ?_⟩)
  have zbc2402 := bc2402.size; replace bc1322 := Zu bc1322 bc2402; replace bc836 := Zu bc836 bc2402; replace bc629 := Zu bc629 bc2402; replace bc460 := Zu bc460 bc2402; replace bc323 := Zu bc323 bc2402; replace bc176 := Zu bc176 bc2402; replace q := Zu q bc2402; replace qV := Zu qV bc2402; replace rc326 := rc326.up bc2402; replace rc632 := rc632.up bc2402; replace c1 := cell_up c1 bc2402; replace c0 := cell_up c0 bc2402
  refine Zm ?_; refine Zx ?_; refine Zx ?_; refine Za ?_; refine Za ?_; refine Zq ?_; refine Zr ?_; refine Zm ?_
  refine Zy (R.call rfl rfl rfl) (num_any _ _) ?_
  rintro e W' ⟨rfl, rfl⟩
  refine ⟨_, rfl, ?_⟩; refine ZeqT ?_; refine Zm ?_; refine Zm ?_; refine Zm ?_
  refine Zy (R.call rfl rfl rfl) (hsN _ _ r81 (hWF _ q)) ?_
  rintro e Wc3012 ⟨rfl, bc3011⟩
  refine ⟨_, rfl, ?_⟩; have zbc3011 := bc3011.size; replace r81 := r81.up bc3011; replace bc2402 := Zu bc2402 bc3011; replace bc1322 := Zu bc1322 bc3011; replace bc836 := Zu bc836 bc3011; replace bc629 := Zu bc629 bc3011; replace bc460 := Zu bc460 bc3011; replace bc323 := Zu bc323 bc3011; replace bc176 := Zu bc176 bc3011; replace q := Zu q bc3011; replace qV := Zu qV bc3011; replace rc326 := rc326.up bc3011
  replace rc632 := rc632.up bc3011; replace c1 := cell_up c1 bc3011; replace c0 := cell_up c0 bc3011; refine Zp ?_; refine Zm ?_
  refine Zy (R.call rfl rfl rfl) (works_any _ (hSF _ q)) ?_
  rintro e Wc3165 ⟨rfl, bc3164⟩
  refine ⟨_, rfl, ?_⟩; have zbc3164 := bc3164.size; replace bc3011 := Zu bc3011 bc3164; replace r81 := r81.up bc3164; replace bc2402 := Zu bc2402 bc3164; replace bc1322 := Zu bc1322 bc3164; replace bc836 := Zu bc836 bc3164; replace bc629 := Zu bc629 bc3164; replace bc460 := Zu bc460 bc3164; replace bc323 := Zu bc323 bc3164; replace bc176 := Zu bc176 bc3164; replace q := Zu q bc3164; replace qV := Zu qV bc3164
  replace rc326 := rc326.up bc3164; replace rc632 := rc632.up bc3164; replace c1 := cell_up c1 bc3164; replace c0 := cell_up c0 bc3164; refine Zp ?_; refine Za ?_; refine Zq ?_; refine ZR ?_; refine EE.ret _ rfl rfl ?_
  exact ⟨rfl, q⟩
theorem inreads_walk (v : Value) (ws : List Nat) (w : World) (hS : Start w) (hv : Reads w v (ints .u64 ws)) (hw : ∀ x ∈ ws, x < 18446744073709551616) : Calls Tryd.prog 4 #[v] w fun x w' => x = .returned (.bool true) ∧ Below w.heap.size w w' := by
  by_cases h : 40 < ws.length
  · exact inreads_many v ws w hS hv h
  · exact inreads_few v ws w hS hv hw (by omega)
set_option linter.unusedVariables false
set_option linter.unusedSimpArgs false
open Go.RowKit Go.ChangeShapes Go.WideShapes Go.ChangeAt
theorem own : ownKnob Tryd.prog.godebug = none := by kernel_rfl
theorem laidOut : laidOutB Tryd.prog = true := by kernel_rfl
section
variable {H : Type} {enc : TypeId × Value → H} {P : Program} {w : World} {base : Nat} {spare : Nat → Bool} {held : Bool} {r : Reach} {b0 : Nat} {t : TypeId} {v : Value} {d : DataW H} {p : List MemPlace}
/-- A slice of unsigned numbers. -/
theorem open_nats {e : TypeId} {k : IntKind} {M : Nat} (ht : P.underlying t = some (.slice e)) (he : P.underlying e = some (.int k)) (hc : P.cellsOf e = 1) (hk : ∀ n, (Lit.int k n).wf = true → 0 ≤ n ∧ n < (M : Int))
    (hv : Value.okWide P w r b0 t v) (h : DataW.Trod enc P w base spare held t v d p) : ∃ ns : List Nat, Reads w v (ints k ns) ∧ (∀ n ∈ ns, n < M) ∧ ns.length ≤ 9223372036854775807 := by
  obtain ⟨a, len, cap, rfl⟩ := okWide_slice ht hv
  obtain ⟨fuel, hf⟩ := h
  rcases open_ints ht he hc hf with ⟨hcs, _⟩ | ⟨x, l, c, zs, hcs, _, hl, hm, hz, _, hcell, hwz⟩
  · simp [Value.cells] at hcs
    obtain ⟨rfl, rfl, rfl⟩ := hcs
    exact ⟨[], Reads.nil w, by simp, by simp⟩
  · simp [Value.cells] at hcs
    obtain ⟨rfl, rfl, rfl⟩ := hcs
    have hlz : len ≤ zs.length := by rw [hz]; split <;> omega
    refine ⟨(zs.take len).map Int.toNat, ?_, ?_, ?_⟩
    · have hlen : ((zs.take len).map Int.toNat).length = len := by simp; omega
      refine ⟨some x, cap, by rw [List.length_map, hlen], by rw [List.length_map, hlen]; exact hl, fun hne => ?_⟩
      have h0 : 0 < len := by
        rcases Nat.eq_zero_or_pos len with h0 | h0
        · subst h0; simp at hne
        · exact h0
      obtain ⟨b, off, spot⟩ := x
      have hc0 := hcell 0 (by omega)
      have hspot : spot = none := by simpa [Addr.add] using World.cell?_spot hc0
      subst hspot
      have hblt : b < w.heap.size := by
        rcases Nat.lt_or_ge b w.heap.size with hb | hb
        · exact hb
        · simp [Addr.add, World.cell?, Array.getElem?_eq_none hb] at hc0
      refine ⟨b, off, rfl, hblt, fun j hj => ?_⟩
      rw [List.length_map, hlen] at hj
      have hcj := hcell j (by omega)
      have hjz : j < zs.length := by omega
      have hw := hk _ (hwz zs[j] (List.getElem_mem hjz))
      rw [Addr.add_lit] at hcj
      rw [hcj]
      simp [List.getElem?_take, hj, hjz, List.getD]
      omega
    · intro n hn
      simp only [List.mem_map] at hn
      obtain ⟨z, hz', rfl⟩ := hn
      have := hk _ (hwz z (List.mem_of_mem_take hz'))
      omega
    · simp only [List.length_map, List.length_take]
      unfold maxLen at hm
      omega
end
open Go.ChangeShapes Go.WideShapes Go.ChangeAt Go.WideMaps Go.WideElems Go.RowKit
def laidHere : List (String × DataW Unit) := [("hedgerow/extents.widths", Rows.laid_hedgerow_extents_widths)]
theorem gTurns : Tryd.prog.globalNamed "hedgerow/extents.widths" = some 0 := by kernel_rfl
theorem tTurns : (Tryd.prog.globals[0]?).map (·.type) = some 133 := by kernel_rfl
theorem door_met (os : Os) (args : Array Value) : laidMetH Tryd.prog laidHere ((World.doorLaid Tryd.prog 14 os).forCall (fun _ _ => 0) ⟨#[], args, []⟩).memory :=
  laidMetH_of_parts3 (fuel := 8) (laidMet_of_run' 8 (by kernel_rfl) (by kernel_rfl)) (by kernel_rfl) (by kernel_rfl)
theorem of_laid {W : World} (h : laidMetH Tryd.prog laidHere W) : Start W := by
  rw [MakeChecks.laidMetH_plain _ _ _ (by kernel_rfl)] at h
  have hT := Lib.tabIs_of_head (k := .i64) (zs := [16, 24, 16]) gTurns tTurns Tryd.underlying133 Tryd.underlying3 (by kernel_rfl) (by kernel_rfl) h
  have hc : ∀ i, i < 3 → W.cell? ⟨0, i, none⟩ = some (.int .i64 ([16, 24, 16].getD i 0)) := fun i hi => hT.cell gTurns i hi
  refine ⟨hc 0 (by decide), hc 1 (by decide), hc 2 (by decide), ?_⟩
  obtain ⟨o, ho, _⟩ := cells_of_cell (hc 0 (by decide))
  exact (Array.getElem?_eq_some_iff.1 ho).1
end Go.Proofs.YtnoefalgmekjbaaDoor
