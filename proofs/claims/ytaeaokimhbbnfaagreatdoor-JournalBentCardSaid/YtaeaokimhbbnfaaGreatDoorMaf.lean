/- What the statements' walks use: Jn14, Jn15, Jn16, Jn17, Jn18, Jn19, Jn20, PsT, Jn21, TurnMath, Jn22, Jn23, Open, OpenI, OpenB, Jn24, Door. -/
import Derived.Laws.StructEq
import Derived.Test.YtaeaokimhbbnfaaGreatDoorRows
import Derived.ProofKit
import Derived.OpenShut
import Derived.ShutString
import Derived.ChangeOld
import Derived.ChangeSame
import Derived.LaidMore
import Derived.Stop.Joined
import Derived.Lib.LaidTab
import Derived.Test.YtaeaokimhbbnfaaGreatDoorMaa
import Derived.Test.YtaeaokimhbbnfaaGreatDoorMab
import Derived.Test.YtaeaokimhbbnfaaGreatDoorMac
import Derived.Test.YtaeaokimhbbnfaaGreatDoorMae
/- journal: Check, Words, Stores (written by genjn14.py). -/
namespace Go.Proofs.YtaeaokimhbbnfaaGreatDoor
set_option linter.unusedVariables false
set_option linter.unusedSimpArgs false
open Go.RowKit Go.Shelf
set_option maxRecDepth 100000
set_option maxHeartbeats 8000000
theorem jwords1_P (k n : Int) (a : Nat → Nat) (f t : Int) (fk tk : Nat) (r : Int) (d : Bool) (lb li lr lt : Int) (k1 k2 : Nat) (la lc ld le : Int) (c : Int) (gl gr go ge : Nat) (w : World) (hS : Start w) (hb : ∀ x ∈ jsixL a, x < 18446744073709551616) (h : jwhy k n a f t fk tk r d lb li lr lt k1 k2 la lc ld le c) (r1 : RowL w gl 31 (jlyL lb li lr lt k1 k2 la lc ld le)) (r2 : RowL w gr 28 (redL k n a f t fk tk r d)) : Calls Tryz.prog 25 #[.pointer (some ⟨gl, 0, none⟩), .pointer (some ⟨gr, 0, none⟩), .pointer (some ⟨go, 0, none⟩)] w fun x w' => x = .panicked (chain1 (jrefV c)) ∧ Kept (jKW w ge) w w' := by
  have q := Below.refl w.heap.size w
  rcases h with ⟨hl, rfl⟩ | ⟨hl, hn, rfl⟩
  · clear hS
    refine X.fnP Tryz.func25 rfl (n := 10) rfl rfl ?_
    refine Zr ?_; refine Zv r1 ?_; have l14 := r1.lt; have l15 := r2.lt
    (refine LL.callP (R.call rfl rfl rfl) rfl rfl (jlay_F lb li lr lt k1 k2 la lc ld le _ hl) ?_; rintro e W13 ⟨rfl, b10⟩; refine ⟨_, rfl, ?_⟩)
    have zb10 := b10.size; replace r1 := r1.up b10; replace r2 := r2.up b10; replace q := Zu q b10; refine EE.thenP ?_; refine EE.panM ?_
    exact ⟨rfl, bkept q (fun _ hj => hj.1)⟩
  · have hcn := fun W (b : Below w.heap.size w W) => jcheck_F k n a f t fk tk r d lb li lr lt k1 k2 la lc ld le W (hS.up b) hb hn
    have r1F := fun X (b : Below w.heap.size w X) => r1.up b
    have r2F := fun X (b : Below w.heap.size w X) => r2.up b
    clear hS hn
    refine X.fnP Tryz.func25 rfl (n := 10) rfl rfl ?_
    refine Zr ?_; refine Zv r1 ?_
    refine Zy (R.call rfl rfl rfl) (jlay_T _ _ _ _ _ _ _ _ _ _ _ (by first | assumption | omega)) ?_
    rintro e Wa2 ⟨rfl, ba1⟩
    refine ⟨_, rfl, ?_⟩; have zba1 := ba1.size; replace r1 := r1.up ba1; replace r2 := r2.up ba1; replace q := Zu q ba1; refine Zq ?_
    refine CC.freeP (fun X => Below w.heap.size w X) (by kernel_rfl) rfl ?_
    have hok : Below w.heap.size w _ := q.trans ((below_drew (w := _)).mono q.size)
    refine AP.pure 0 rfl hok (by kernel_rfl) (fun w' hw' => R.load rfl rfl (I.ldNc (vs := jlyL lb li lr lt k1 k2 la lc ld le) (RowL.cells (r1F _ hw') rfl) (by rfl) (by rfl))) rfl rfl ?_
    refine AP.pure 1 rfl hok (by kernel_rfl) (fun w' hw' => R.load rfl rfl (I.ldNc (vs := redL k n a f t fk tk r d) (RowL.cells (r2F _ hw') rfl) (by rfl) (by rfl))) rfl rfl ?_
    refine AP.pure 3 rfl hok (by kernel_rfl) (fun w' hw' => R.load rfl rfl (I.ldNc (vs := redL k n a f t fk tk r d) (RowL.cells (r2F _ hw') rfl) (by rfl) (by rfl))) rfl rfl ?_
    refine AP.pan 2 (by kernel_rfl) rfl rfl (R.call rfl rfl rfl) rfl (hcn _ hok) ?_
    rintro e w' ⟨rfl, hb2⟩
    exact ⟨_, rfl, EE.panM ⟨rfl, bkept (hok.trans (hb2.mono hok.size)) (fun _ hj => hj.1)⟩⟩
theorem jWords_T (k n : Int) (a : Nat → Nat) (f t : Int) (fk tk : Nat) (r : Int) (d : Bool) (lb li lr lt : Int) (k1 k2 : Nat) (la lc ld le : Int) (w : World) (hS : Start w) (hl : isL lb li lr lt la lc ld le) (h : okJ k n a f t fk tk r d li lr) : Calls Tryz.prog 9 #[layV lb li lr lt k1 k2 la lc ld le, redV k n a f t fk tk r d] w fun x w' => ∃ v, x = .returned (.tuple #[v, .int .i64 0]) ∧ jnewW (jW k n a f t fk tk r d) w v w' := by
  have q := Below.refl w.heap.size w
  have hSF : ∀ X, Below w.heap.size w X → Start X := fun X b => hS.up b
  unfold jnewW
  clear hS
  refine X.fn Tryz.func9 rfl (n := 12) rfl rfl ?_
  refine Zr ?_
  refine LL.box (jlyL lb li lr lt k1 k2 la lc ld le) rfl rfl rfl rfl rfl ?_
  intro W2 g3 eg3 r4 z5 b1
  replace q := Zu q b1; have l6 := r4.lt
  refine LL.box (redL k n a f t fk tk r d) rfl rfl rfl rfl rfl ?_
  intro W8 g9 eg9 r10 z11 b7
  replace r4 := r4.up b7; replace b1 := Zu b1 b7; replace q := Zu q b7; refine Za ?_; refine Za ?_; refine Zq ?_; refine Zr ?_; have l12 := r10.lt; have l13 := r4.lt
  refine LL.alloc ([.slice none 0 0]) rfl rfl rfl rfl rfl ?_
  intro W15 g16 eg16 r17 z18 b14
  replace r10 := r10.up b14; replace b7 := Zu b7 b14; replace r4 := r4.up b14; replace b1 := Zu b1 b14; replace q := Zu q b14; refine Zq ?_; refine Zr ?_
  refine LL.val (R.func rfl rfl rfl) rfl rfl rfl ?_
  (have lg4 := r4.lt; have lg10 := r10.lt; have lg17 := r17.lt; refine Zy (R.call rfl rfl rfl) (jguarded_R _ [.pointer (some ⟨g3, 0, none⟩), .pointer (some ⟨g9, 0, none⟩), .pointer (some ⟨g16, 0, none⟩)] (by kernel_rfl) g16 (fun n' X => ∃ g c, RowL X g16 33 [.slice (some ⟨g, 0, none⟩) (jW k n a f t fk tk r d).length c] ∧ (jW k n a f t fk tk r d).length ≤ c ∧ Reads X (.slice (some ⟨g, 0, none⟩) (jW k n a f t fk tk r d).length c) (ints .u64 (jW k n a f t fk tk r d)) ∧ n' ≤ g) _ (by omega) (fun n' X Y b' ⟨g, c, h1, h2, h3, h4⟩ hb1 hb2 hg => ⟨g, c, h1.gr hg (by omega), h2, h3.gr hg (by omega), h4⟩) (fun W' b' => jwords1_T k n a f t fk tk r d lb li lr lt k1 k2 la lc ld le g3 g9 g16 _ W' (hSF _ (q.trans (b'.mono q.size))) hl h (r4.up b') (r10.up b') (r17.up b') ⟨by omega, by omega⟩)) ?_; rintro e @W ⟨rfl, ⟨n9, hn9, g, c, r91, hc9, rd9, hg9⟩, t9⟩; refine ⟨_, rfl, ?_⟩; replace q := t9.onB q (fun j hj => ⟨by omega, by omega⟩); clear r4 b1 r10 b7 r17 b14)
  refine Za ?_; refine Zq ?_; refine Zr ?_; refine Zl r91 ?_; refine Zm ?_; refine Za ?_; refine Za ?_; refine Zq ?_; refine ZR ?_; refine EE.ret _ rfl rfl ?_
  exact ⟨_, rfl, g, c, rfl, hc9, rd9, by omega, Nat.lt_of_not_le (fun hh => by have hjl := jW_len k n a f t fk tk r d; obtain ⟨_, _, hx⟩ := rd9.at; obtain ⟨_, _, e9, hlt9, _⟩ := hx (by split at hjl <;> omega); cases e9; omega), q⟩
theorem jWords_P (k n : Int) (a : Nat → Nat) (f t : Int) (fk tk : Nat) (r : Int) (d : Bool) (lb li lr lt : Int) (k1 k2 : Nat) (la lc ld le : Int) (c : Int) (w : World) (hS : Start w) (hb : ∀ x ∈ jsixL a, x < 18446744073709551616) (h : jwhy k n a f t fk tk r d lb li lr lt k1 k2 la lc ld le c) : Calls Tryz.prog 9 #[layV lb li lr lt k1 k2 la lc ld le, redV k n a f t fk tk r d] w fun x w' => x = .returned (.tuple #[.slice none 0 0, .int .i64 c]) ∧ Below w.heap.size w w' := by
  have q := Below.refl w.heap.size w
  have hSF : ∀ X, Below w.heap.size w X → Start X := fun X b => hS.up b
  clear hS
  refine X.fn Tryz.func9 rfl (n := 12) rfl rfl ?_
  refine Zr ?_
  refine LL.box (jlyL lb li lr lt k1 k2 la lc ld le) rfl rfl rfl rfl rfl ?_
  intro W2 g3 eg3 r4 z5 b1
  replace q := Zu q b1; have l6 := r4.lt
  refine LL.box (redL k n a f t fk tk r d) rfl rfl rfl rfl rfl ?_
  intro W8 g9 eg9 r10 z11 b7
  replace r4 := r4.up b7; replace b1 := Zu b1 b7; replace q := Zu q b7; refine Za ?_; refine Za ?_; refine Zq ?_; refine Zr ?_; have l12 := r10.lt; have l13 := r4.lt
  refine LL.alloc ([.slice none 0 0]) rfl rfl rfl rfl rfl ?_
  intro W15 g16 eg16 r17 z18 b14
  replace r10 := r10.up b14; replace b7 := Zu b7 b14; replace r4 := r4.up b14; replace b1 := Zu b1 b14; replace q := Zu q b14; refine Zq ?_; refine Zr ?_
  refine LL.val (R.func rfl rfl rfl) rfl rfl rfl ?_
  (have lg4 := r4.lt; have lg10 := r10.lt; have lg17 := r17.lt; refine Zy (R.call rfl rfl rfl) (jguarded_P c _ [.pointer (some ⟨g3, 0, none⟩), .pointer (some ⟨g9, 0, none⟩), .pointer (some ⟨g16, 0, none⟩)] (by kernel_rfl) g3 _ (by omega) (fun W' b' => jwords1_P k n a f t fk tk r d lb li lr lt k1 k2 la lc ld le c g3 g9 g16 g3 W' (hSF _ (q.trans (b'.mono q.size))) hb h (r4.up b') (r10.up b'))) ?_; rintro e @W ⟨rfl, t9⟩; refine ⟨_, rfl, ?_⟩; replace q := t9.onB q (fun j hj => ⟨by omega, by omega⟩); replace r17 := r17.kept t9 ⟨by omega, by omega⟩; clear r4 b1 r10 b7 b14)
  refine Za ?_; refine Zq ?_; refine Zr ?_; refine Zl r17 ?_; refine Zm ?_; refine Za ?_; refine Za ?_; refine Zq ?_; refine ZR ?_; refine EE.ret _ rfl rfl ?_
  exact ⟨rfl, q⟩
/-- A store: where, and what. An act: its kind, where, and what. -/
abbrev Pt := Int × Nat
def pE (p : Pt) : List Value := [.int .i64 p.1, .int .u64 (p.2 : Int)]
theorem pEnc : Enc pE 2 := ⟨fun _ => rfl, fun t u hu => by
  simp only [pE, List.mem_cons, List.not_mem_nil, or_false] at hu
  rcases hu with rfl | rfl <;> rfl, by decide⟩
abbrev jK2 (w : World) (go gh : Nat) (i : Nat) : Prop := i < w.heap.size ∧ i ≠ go ∧ i ≠ gh
theorem jguarded_R2 (F : FuncId) (cap : List Value) (eF : entB Tryz.prog F = true) (go gh : Nat) (Rp : Nat → World → Prop) (w : World) (hgo : go < w.heap.size) (hgh : gh < w.heap.size)
    (hR : ∀ n X Y b, Rp n X → w.heap.size ≤ b → b < n → X.grownBy Y (some b) → Rp n Y)
    (hwork : ∀ W, Below w.heap.size w W → Calls Tryz.prog F cap.toArray W fun e W' => e = .returned (.tuple #[]) ∧ Rp W.heap.size W' ∧ Kept (jK2 W go gh) W W') :
    Calls Tryz.prog 24 #[.func (.func F) #[] cap.toArray] w fun e w' => e = .returned (.int .i64 0) ∧ (∃ n, w.heap.size ≤ n ∧ Rp n w') ∧ Kept (jK2 w go gh) w w' := by
  have q := Below.refl w.heap.size w
  have hkk := Kept.refl (jK2 w go gh) w
  refine X.fnP Tryz.func24 rfl (n := 6) rfl rfl ?_
  refine Zr ?_
  refine LL.alloc ([.int .i64 0]) rfl rfl rfl rfl rfl ?_
  intro W2 g3 eg3 r4 z5 b1
  replace q := Zu q b1; replace hkk := Zh hkk b1; have y6 := hkk.size; refine Zq ?_; refine Zr ?_
  refine LL.val (R.func rfl rfl rfl) rfl rfl rfl ?_
  refine LL.defer rfl rfl rfl rfl rfl rfl ?_; refine Zq ?_; refine Zr ?_; refine Zm ?_; have lr4 := r4.lt
  refine LL.call (R.callV rfl rfl rfl eF) rfl rfl rfl (jcallsA (by simp) (hwork _ q)) ?_
  rintro e W5 ⟨rfl, hr5, t5⟩
  refine ⟨_, rfl, ?_⟩
  replace r4 := r4.kept t5 ⟨r4.lt, by omega, by omega⟩
  have zt5 := t5.size
  replace hkk := hkk.trans (t5.less fun j hj => ⟨by have := hj.1; omega, hj.2⟩)
  have hlo : w.heap.size ≤ W2.heap.size := by omega
  have hb3 : g3 < W2.heap.size := by omega
  obtain ⟨N2, hN2⟩ : ∃ N, W2.heap.size = N := ⟨_, rfl⟩
  rw [hN2] at hr5 hlo hb3
  clear t5
  refine Zq ?_; refine Zr ?_
  refine LL.store rfl rfl rfl rfl r4 (by exact Nat.le_of_ble_eq_true rfl) rfl rfl rfl rfl ?_
  intro Wa2 ra3 ba1 za4
  have hlba1 := r4.lt
  replace ra3 : RowL Wa2 _ 34 [.int .i64 0] := ra3
  clear r4
  replace hkk := Zo hkk ba1
  have r4 := ra3
  clear ra3
  refine Zq ?_; refine ZR ?_
  (refine EE.retD (by kernel_rfl) (jgrd1_calm g3 _) rfl ?_; rintro e u' W6 ⟨hv, rfl, rfl⟩; exact ⟨hv, rfl, _, ⟨_, rfl, lv1 rfl (RowL.cell r4 rfl)⟩, rfl, ⟨N2, hlo, hR N2 _ _ g3 hr5 (by omega) hb3 (by assumption)⟩, hkk⟩)
set_option linter.unusedVariables false
set_option linter.unusedSimpArgs false
set_option maxRecDepth 100000
set_option maxHeartbeats 8000000
section
variable {P : Program} {w : World} {t u : TypeId} {o : Oper} {x y : Operand} {n : Nat} {D : List Deferred} {M : Slots}
theorem R.andE {a b z : Nat} (ho : o.op = .binOp .and t x y u) (hx : evM M x = some (.int .u64 (a : Int))) (hy : evM M y = some (.int .u64 (b : Int))) (ha : a < 18446744073709551616) (hb : b < 18446744073709551616) (hz : a &&& b = z) : Runs P n D M o w (.value (.int .u64 (z : Int))) w := by
  subst hz
  exact R.andU ho hx hy ha hb
end
theorem and_byte (x : Nat) : x &&& 255 = x % 256 := Nat.and_two_pow_sub_one_eq_mod x 8
theorem WdsAt.pre {X : World} {bk off cap N : Nat} {ws : List Nat} (h : WdsAt X bk off ws) (hl : N ≤ ws.length) (hc : N ≤ cap) : Reads X (.slice (some ⟨bk, off, none⟩) N cap) (ints .u64 (ws.take N)) := by
  have h2 := h.reads 0 N cap (by omega) hc
  rw [List.drop_zero] at h2
  exact h2
theorem jof1_all (lb li lr lt : Int) (k1 k2 : Nat) (la lc ld le : Int) (gl gw go gh bk off cap : Nat) (ws : List Nat) (w : World) (hS : Start w) (hl : isL lb li lr lt la lc ld le) (r1 : RowL w gl 31 (jlyL lb li lr lt k1 k2 la lc ld le)) (r2 : RowL w gw 33 [.slice (some ⟨bk, off, none⟩) 64 cap]) (hW : WdsAt w bk off ws) (hws : ws.length = 64) (hwb : ∀ x ∈ ws, x < 18446744073709551616) (hcap : 64 ≤ cap) (x0 : Nat) (h0 : ws[0]? = some x0) (hx0 : x0 ≠ 0) (kn : Nat) (hk : x0 % 256 = kn) (m : Int) (f1 f2 f3 f4 : Nat) (hkF : jkindsF (kn : Int) = some (m, f1, f2, f3, f4)) (hkd : jkdO (kn : Int) = (m, f1, f2, f3, f4)) (e4 : entB Tryz.prog f4 = true) (n : Int) (a : Nat → Nat) (f t : Int) (fk tk : Nat) (r : Int) (d : Bool) (hrd : ∀ W gr gat, RowL W gr 28 (redL (kn : Int) 0 noA 0 0 0 0 0 false) → RowL W gat 3 [.int .i64 0] → RowL W gw 33 [.slice (some ⟨bk, off, none⟩) 64 cap] → WdsAt W bk off ws → (gat ≠ gw ∧ gat ≠ bk) → (gr ≠ gat ∧ gr ≠ gw ∧ gr ≠ bk) → Calls Tryz.prog f4 #[.pointer (some ⟨gr, 0, none⟩), .func (.func 39) #[] #[.pointer (some ⟨gat, 0, none⟩), .pointer (some ⟨gw, 0, none⟩)]] W fun e w' => e = .returned (.tuple #[]) ∧ RowL w' gr 28 (redL (kn : Int) n a f t fk tk r d) ∧ Kept (fun j => j < W.heap.size ∧ j ≠ gr ∧ j ≠ gat) W w') (ge : Nat) (r3 : RowL w go 28 (redL 0 0 noA 0 0 0 0 0 false)) (r4 : RowL w gh 4 [.bool false]) (hne : go ≠ gl ∧ go ≠ gw ∧ go ≠ bk ∧ 0 < go ∧ gh ≠ gl ∧ gh ≠ gw ∧ gh ≠ bk ∧ 0 < gh ∧ go ≠ gh) (hb : ∀ x ∈ jsixL a, x < 18446744073709551616) : Calls Tryz.prog 36 #[.pointer (some ⟨gl, 0, none⟩), .pointer (some ⟨gw, 0, none⟩), .pointer (some ⟨go, 0, none⟩), .pointer (some ⟨gh, 0, none⟩)] w fun x w' => (okJ (kn : Int) n a f t fk tk r d li lr → ws.take (jW (kn : Int) n a f t fk tk r d).length = jW (kn : Int) n a f t fk tk r d → x = .returned (.tuple #[]) ∧ RowL w' go 28 (redL (kn : Int) n a f t fk tk r d) ∧ RowL w' gh 4 [.bool true] ∧ Kept (jK2 w go gh) w w') ∧ (okJ (kn : Int) n a f t fk tk r d li lr → ws.take (jW (kn : Int) n a f t fk tk r d).length ≠ jW (kn : Int) n a f t fk tk r d → x = .panicked (chain1 (jrefV 310)) ∧ Kept (jKW w ge) w w') ∧ (¬okJ (kn : Int) n a f t fk tk r d li lr → x = .panicked (chain1 (jrefV 310)) ∧ Kept (jKW w ge) w w') := by
  have lgl := r1.lt; have lgw := r2.lt; have lbk := hW.lt
  have hS0 := hS.pos
  have hx64 := hwb x0 (List.mem_of_getElem? h0)
  have hkm : x0 &&& 255 = kn := (and_byte x0).trans hk
  have hkn : kn < 256 := by omega
  have hkk := Kept.refl (fun j => j < w.heap.size ∧ j ≠ w.heap.size ∧ j ≠ w.heap.size) w
  have hWF : ∀ X, Kept (fun j => j < w.heap.size ∧ j ≠ w.heap.size ∧ j ≠ w.heap.size) w X → WdsAt X bk off ws := fun X k => ⟨fun j x hx => (World.cell?_of_block (k.block bk ⟨lbk, by omega, by omega⟩)).trans (hW.cells j x hx), Nat.lt_of_lt_of_le lbk k.size⟩
  have hSF : ∀ X, Kept (fun j => j < w.heap.size ∧ j ≠ w.heap.size ∧ j ≠ w.heap.size) w X → Start X := fun X k => hS.kept k ⟨hS0, by omega, by omega⟩
  have c0 := hW.cells _ _ h0
  have lgo := r3.lt; have lgh := r4.lt
  clear hW hS
  focus
    refine X.fnP Tryz.func36 rfl (n := 54) rfl rfl ?_
    refine Zr ?_; refine Zv r1 ?_
    refine Zy (R.call rfl rfl rfl) (jlay_T _ _ _ _ _ _ _ _ _ _ _ (by first | assumption | omega)) ?_
    rintro e W16 ⟨rfl, b15⟩
    refine ⟨_, rfl, ?_⟩; have zb15 := b15.size; replace r1 := r1.up b15; replace r2 := r2.up b15; replace r3 := r3.up b15; replace r4 := r4.up b15; replace hkk := Zh hkk b15; have y18 := hkk.size; replace c0 := cell_up c0 b15; refine Zq ?_; refine Zr ?_; refine Zl r2 ?_; refine Zn ?_; refine ZneF ?_
    refine Zy (R.call rfl rfl rfl) (jrefuse_F _ _) ?_
    rintro e W' ⟨rfl, rfl⟩
    refine ⟨_, rfl, ?_⟩; refine Zq ?_; refine Zc ?_; refine Zr ?_; refine Zl r2 ?_; refine Zi ?_; refine Zk ?_; refine ZeqF ?_; refine Zq ?_; refine ZN ?_; refine ZK ?_; refine ZT ?_; refine Zr ?_; refine Zl r2 ?_; refine Zi ?_; refine Zk ?_
    refine LL.val (R.andE (a := x0) (b := 255) (z := kn) rfl rfl rfl hx64 (by decide) hkm) rfl rfl rfl ?_
    refine LL.val (R.convI rfl rfl rfl rfl (wrapI (by omega) (by omega))) rfl rfl rfl ?_
    refine LL.val (R.buildV rfl rfl (v := .agg #[Value.int IntKind.i64 ↑kn, Value.int IntKind.i64 0, Value.int IntKind.u64 0, Value.int IntKind.u64 0, Value.int IntKind.u64 0, Value.int IntKind.u64 0, Value.int IntKind.u64 0, Value.int IntKind.u64 0, Value.int IntKind.u64 0, Value.int IntKind.u64 0, Value.int IntKind.u64 0, Value.int IntKind.u64 0, Value.int IntKind.u64 0, Value.int IntKind.u64 0, Value.int IntKind.u64 0, Value.int IntKind.u64 0, Value.int IntKind.u64 0, Value.int IntKind.u64 0, Value.int IntKind.i64 0, Value.int IntKind.i64 0, Value.int IntKind.u64 0, Value.int IntKind.u64 0, Value.int IntKind.i64 0, Value.bool false]) (fun _ => by kernel_rfl)) rfl rfl rfl ?_
    have l117 := r1.lt; have l118 := r2.lt; have l119 := r3.lt; have l120 := r4.lt
    refine LL.alloc ((redL 0 0 noA 0 0 0 0 0 false)) rfl rfl rfl rfl rfl ?_
    intro W122 g123 eg123 r124 z125 b121
    replace b15 := Zu b15 b121; replace r1 := r1.up b121; replace r2 := r2.up b121; replace r3 := r3.up b121; replace r4 := r4.up b121; replace hkk := Zh hkk b121; have y126 := hkk.size; replace c0 := cell_up c0 b121
    refine LL.storeN (vs := (redL (↑kn) 0 noA 0 0 0 0 0 false)) rfl rfl rfl rfl r124 (by exact Nat.le_of_ble_eq_true rfl) (ones_of rfl) rfl rfl ?_
    intro W135 r136 b134 z137
    have hlb134 := r124.lt
    replace r136 : RowL W135 _ 28 (redL (↑kn) 0 noA 0 0 0 0 0 false) := r136
    clear r124
    replace b121 := Zg b121 b134; replace b15 := Zg b15 b134; replace r1 := Zd r1 b134; replace r2 := Zd r2 b134; replace r3 := Zd r3 b134; replace r4 := Zd r4 b134; replace hkk := Zo hkk b134; replace c0 := Ze c0 b134
    have r124 := r136
    clear r136
    refine Zq ?_; refine Zc ?_
    refine CC.join (fun l_ W183 => ∃ (g170 : Nat), l_ = [(0, Value.pointer (some { block := gl, off := 0 })), (1, Value.pointer (some { block := gw, off := 0 })), (2, Value.pointer (some { block := go, off := 0 })), (3, Value.pointer (some { block := gh, off := 0 })), (9, Value.agg #[Value.int IntKind.i64 lb, Value.int IntKind.i64 li, Value.int IntKind.i64 lr, Value.int IntKind.i64 lt, Value.int IntKind.u64 ↑k1, Value.int IntKind.u64 ↑k2, Value.int IntKind.i64 la, Value.int IntKind.i64 lc, Value.int IntKind.i64 ld, Value.int IntKind.i64 le]), (11, Value.slice (some { block := bk, off := off }) 64 cap), (12, Value.int IntKind.i64 ↑64), (13, Value.bool false), (15, Value.slice (some { block := bk, off := off }) 64 cap), (16, Value.pointer (some { block := bk, off := off + 0 })), (17, Value.int IntKind.u64 ↑x0), (18, Value.bool false), (19, Value.slice (some { block := bk, off := off }) 64 cap), (20, Value.pointer (some { block := bk, off := off + 0 })), (21, Value.int IntKind.u64 ↑x0), (22, Value.int IntKind.u64 ↑kn), (23, Value.int IntKind.i64 ↑kn), (24, Value.agg #[Value.int IntKind.i64 ↑kn, Value.int IntKind.i64 0, Value.int IntKind.u64 0, Value.int IntKind.u64 0, Value.int IntKind.u64 0, Value.int IntKind.u64 0, Value.int IntKind.u64 0, Value.int IntKind.u64 0, Value.int IntKind.u64 0, Value.int IntKind.u64 0, Value.int IntKind.u64 0, Value.int IntKind.u64 0, Value.int IntKind.u64 0, Value.int IntKind.u64 0, Value.int IntKind.u64 0, Value.int IntKind.u64 0, Value.int IntKind.u64 0, Value.int IntKind.u64 0, Value.int IntKind.i64 0, Value.int IntKind.i64 0, Value.int IntKind.u64 0, Value.int IntKind.u64 0, Value.int IntKind.i64 0, Value.bool false]), (4, Value.pointer (some { block := g123, off := 0 })), (5, Value.pointer (some { block := g170, off := 0 })), (6, Value.bool true)] ∧ (Below W135.heap.size W135 W183) ∧ (Below W16.heap.size W16 W183) ∧ (Below w.heap.size w W183) ∧ (RowL W183 gl 31 (jlyL lb li lr lt k1 k2 la lc ld le)) ∧ (RowL W183 gw 33 [Value.slice (some { block := bk, off := off }) 64 cap]) ∧ (RowL W183 go 28 (redL 0 0 noA 0 0 0 0 0 false)) ∧ (RowL W183 gh 4 [Value.bool false]) ∧ (Kept (fun j => j < w.heap.size ∧ j ≠ w.heap.size ∧ j ≠ w.heap.size) w W183) ∧ (W183.cell? { block := bk, off := off + 0 } = some (Value.int IntKind.u64 ↑x0)) ∧ (RowL W183 g123 28 [Value.int IntKind.i64 ↑kn, Value.int IntKind.i64 0, Value.int IntKind.u64 0, Value.int IntKind.u64 0, Value.int IntKind.u64 0, Value.int IntKind.u64 0, Value.int IntKind.u64 0, Value.int IntKind.u64 0, Value.int IntKind.u64 0, Value.int IntKind.u64 0, Value.int IntKind.u64 0, Value.int IntKind.u64 0, Value.int IntKind.u64 0, Value.int IntKind.u64 0, Value.int IntKind.u64 0, Value.int IntKind.u64 0, Value.int IntKind.u64 0, Value.int IntKind.u64 0, Value.int IntKind.i64 0, Value.int IntKind.i64 0, Value.int IntKind.u64 0, Value.int IntKind.u64 0, Value.int IntKind.i64 0, Value.bool false]) ∧ (RowL W183 g170 74 [Value.int IntKind.i64 m, jfnV f1, jfnV f2, jfnV f3, jfnV f4]) ∧ (W135.heap.size ≤ W183.heap.size) ∧ (W135.heap.size ≤ g170)) (fun J188 => ?_) ?restJ188
    case' restJ188 =>
      clear b121
      clear b15
      clear r1
      clear r2
      clear r3
      clear r4
      clear hkk
      clear c0
      clear r124
      rintro _ W183 ⟨g170, rfl, b138, b121, b15, r1, r2, r3, r4, hkk, c0, r124, r171, z186, z187⟩
    refine ZT ?_; refine Zr ?_; refine Zm ?_; refine Zt ?_
    refine Zy (R.call rfl rfl rfl) (jrefuse_F _ _) ?_
    rintro e W' ⟨rfl, rfl⟩
    refine ⟨_, rfl, ?_⟩; refine Zq ?_; refine Zr ?_; have l217 := r1.lt; have l218 := r2.lt; have l219 := r3.lt; have l220 := r4.lt; have l221 := r124.lt; have l222 := r171.lt
    refine LL.alloc ([.int .i64 0]) rfl rfl rfl rfl rfl ?_
    intro W224 g225 eg225 r226 z227 b223
    replace b138 := Zu b138 b223; replace b121 := Zu b121 b223; replace b15 := Zu b15 b223; replace r1 := r1.up b223; replace r2 := r2.up b223; replace r3 := r3.up b223; replace r4 := r4.up b223; replace hkk := Zh hkk b223; have y228 := hkk.size; replace c0 := cell_up c0 b223; replace r124 := r124.up b223; replace r171 := r171.up b223
    refine LL.store rfl rfl rfl rfl r226 (by exact Nat.le_of_ble_eq_true rfl) rfl rfl rfl rfl ?_
    intro W237 r238 b236 z239
    have hlb236 := r226.lt
    replace r238 : RowL W237 _ 3 [.int .i64 0] := r238
    clear r226
    replace b223 := Zg b223 b236; replace b138 := Zg b138 b236; replace b121 := Zg b121 b236; replace b15 := Zg b15 b236; replace r1 := Zd r1 b236; replace r2 := Zd r2 b236; replace r3 := Zd r3 b236; replace r4 := Zd r4 b236; replace hkk := Zo hkk b236; replace c0 := Ze c0 b236; replace r124 := Zd r124 b236; replace r171 := Zd r171 b236
    have r226 := r238
    clear r238
    refine Zq ?_; refine Zr ?_; refine Zf ?_; refine Zl r171 ?_
    refine LL.val (R.func rfl rfl rfl) rfl rfl rfl ?_
    (refine LL.call (R.callV rfl rfl rfl e4) rfl rfl rfl (hrd _ _ _ (by assumption) (by assumption) (by assumption) (hWF _ hkk) ⟨by omega, by omega⟩ ⟨by omega, by omega, by omega⟩) ?_; rintro e W264 ⟨rfl, rn, t263⟩; refine ⟨_, rfl, ?_⟩; replace hkk := hkk.trans (t263.less fun j hj => ⟨by have := hj.1; have := hkk.size; omega, by have := hj.1; omega, by have := hj.1; omega⟩))
    have zt263 := t263.size
    replace b121 := t263.onB b121 (fun j hj => ⟨by have := b121.size; omega, by omega⟩)
    replace b15 := t263.onB b15 (fun j hj => ⟨by have := b15.size; omega, by omega⟩)
    replace r1 := r1.kept t263 ⟨r1.lt, by omega⟩
    replace r2 := r2.kept t263 ⟨r2.lt, by omega⟩
    replace r3 := r3.kept t263 ⟨r3.lt, by omega⟩
    replace r4 := r4.kept t263 ⟨r4.lt, by omega⟩
    replace c0 := cell_kept c0 t263 ⟨World.block_lt_of_cell? _ _ c0, by omega⟩
    replace r171 := r171.kept t263 ⟨r171.lt, by omega⟩
    refine Zq ?_; refine Zr ?_; refine Zv r1 ?_; refine Zv rn ?_
    rotate_left
    refine CC.freeZ (fun W_ j => j < W_.heap.size ∧ (True)) (by kernel_rfl) (by kernel_rfl) (fun W290 b289 z291 => ?_)
    replace b121 := Zu b121 b289; replace b15 := Zu b15 b289; replace r1 := r1.up b289; replace r2 := r2.up b289; replace r3 := r3.up b289; replace r4 := r4.up b289; replace hkk := Zh hkk b289; have y292 := hkk.size; replace c0 := cell_up c0 b289; replace r124 := r124.up b289
    have hok : Kept (fun j => j < W290.heap.size ∧ (True)) W290 W290 := Kept.refl _ _
    have fzr1 := fzRow (K := fun j => j < W290.heap.size ∧ (True)) r1 ⟨r1.lt, (by first | trivial | omega)⟩
    have fzr2 := fzRow (K := fun j => j < W290.heap.size ∧ (True)) r2 ⟨r2.lt, (by first | trivial | omega)⟩
    have fzr3 := fzRow (K := fun j => j < W290.heap.size ∧ (True)) r3 ⟨r3.lt, (by first | trivial | omega)⟩
    have fzr4 := fzRow (K := fun j => j < W290.heap.size ∧ (True)) r4 ⟨r4.lt, (by first | trivial | omega)⟩
    have fzc0 := fzCell (K := fun j => j < W290.heap.size ∧ (True)) c0 ⟨World.block_lt_of_cell? _ _ c0, (by first | trivial | omega)⟩
    have fzr124 := fzRow (K := fun j => j < W290.heap.size ∧ (True)) r124 ⟨r124.lt, (by first | trivial | omega)⟩
    refine AA.pure 1 rfl hok (by kernel_rfl) (fun w' b' => R.field rfl rfl (I.fld rfl)) rfl rfl ?_
    refine AA.pure 2 rfl hok (by kernel_rfl) (fun w' b' => R.load rfl rfl (I.ld1 rfl (RowL.cell (fzr124 w' b') rfl))) rfl rfl ?_
    refine AA.two 0 7 (by kernel_rfl) ?_ ?_
    refine SR.call rfl (R.call rfl rfl rfl) rfl rfl (jkinds_any _) ?_
    rintro e W301 ⟨g303, k304, rfl, h302, b300⟩
    have zb300 := b300.size; replace b289 := Zu b289 b300; replace b121 := Zu b121 b300; replace b15 := Zu b15 b300; replace r1 := r1.up b300; replace r2 := r2.up b300; replace r3 := r3.up b300; replace r4 := r4.up b300; replace hkk := Zh hkk b300; have y305 := hkk.size; replace c0 := cell_up c0 b300; replace r124 := r124.up b300; replace hok := Zh hok b300; have y306 := hok.size
    refine ⟨_, rfl, hok, ?_⟩
    refine AA.two 3 7 (by kernel_rfl) ?_ ?_
    (refine SR.val rfl (R.lookKT rfl rfl jKeys (by rfl) (z := jkdZ) (by kernel_rfl) (by assumption) (kn : Int) rfl hkF) rfl rfl hok ?_)
    refine AA.pure 4 rfl hok (by kernel_rfl) (fun w' b' => R.move rfl rfl) rfl rfl ?_
    refine AA.pure 5 rfl hok (by kernel_rfl) (fun w' b' => R.extract rfl rfl rfl) rfl rfl ?_
    refine AA.pure 6 rfl hok (by kernel_rfl) (fun w' b' => R.extract rfl rfl rfl) rfl rfl ?_
    refine AA.one 7 (by kernel_rfl) ?_
    have l314 := r1.lt; have l315 := r2.lt; have l316 := r3.lt; have l317 := r4.lt; have l318 := r124.lt
    refine ZR.alloc ([.int .i64 0, Value.nilFunc, Value.nilFunc, Value.nilFunc, Value.nilFunc]) rfl rfl rfl rfl rfl rfl ?_
    intro W320 g321 eg321 r322 z323 b319
    replace h302 := h302.up b319; replace b300 := Zu b300 b319; replace b289 := Zu b289 b319; replace b121 := Zu b121 b319; replace b15 := Zu b15 b319; replace r1 := r1.up b319; replace r2 := r2.up b319; replace r3 := r3.up b319; replace r4 := r4.up b319; replace hkk := Zh hkk b319; have y324 := hkk.size; replace c0 := cell_up c0 b319; replace r124 := r124.up b319; replace hok := Zh hok b319; have y325 := hok.size
    refine ⟨hok, ?_⟩
    refine AA.one 8 (by kernel_rfl) ?_
    refine ZR.storeN (vs := [.int .i64 m, jfnV f1, jfnV f2, jfnV f3, jfnV f4]) rfl rfl rfl rfl rfl r322 (by exact Nat.le_of_ble_eq_true rfl) (ones_of rfl) rfl rfl ?_
    intro W334 r335 b333 z336
    have hlb333 := r322.lt
    replace r335 : RowL W334 _ 74 [.int .i64 m, jfnV f1, jfnV f2, jfnV f3, jfnV f4] := r335
    clear r322
    replace b319 := Zg b319 b333; replace b300 := Zg b300 b333; replace b289 := Zg b289 b333; replace b121 := Zg b121 b333; replace b15 := Zg b15 b333; replace r1 := Zd r1 b333; replace r2 := Zd r2 b333; replace r3 := Zd r3 b333; replace r4 := Zd r4 b333; replace hkk := Zo hkk b333; replace c0 := Ze c0 b333; replace r124 := Zd r124 b333; replace hok := Zo hok b333
    have r322 := r335
    clear r335
    refine ⟨hok, ?_⟩
    refine AA.pure 9 rfl hok (by kernel_rfl) (fun w' b' => R.assign rfl rfl) rfl rfl ?_
    refine AA.done rfl ?_
    clear fzr1 fzr2 fzr3 fzr4 fzc0 fzr124 hok
    exact EE.weak (J188 _ _ ⟨_, rfl, (by first | assumption | omega), (by first | assumption | omega), (by first | assumption | omega), (by first | assumption | omega), (by first | assumption | omega), (by first | assumption | omega), (by first | assumption | omega), (by first | assumption | omega), (by first | assumption | omega), (by first | assumption | omega), (by first | assumption | omega), (by first | assumption | omega), (by first | assumption | omega)⟩) ⟨rfl, rfl, rfl, rfl, rfl, rfl, rfl, rfl, rfl, rfl, rfl, rfl, rfl, rfl, rfl, rfl, rfl, rfl, rfl, rfl, rfl, trivial⟩
    have l344 := r1.lt; have l345 := r2.lt; have l346 := r3.lt; have l347 := r4.lt; have l348 := r124.lt
    refine ZR.alloc ([.int .i64 0, Value.nilFunc, Value.nilFunc, Value.nilFunc, Value.nilFunc]) rfl rfl rfl rfl rfl rfl ?_
    intro W350 g351 eg351 r352 z353 b349
    replace h302 := h302.up b349; replace b300 := Zu b300 b349; replace b289 := Zu b289 b349; replace b121 := Zu b121 b349; replace b15 := Zu b15 b349; replace r1 := r1.up b349; replace r2 := r2.up b349; replace r3 := r3.up b349; replace r4 := r4.up b349; replace hkk := Zh hkk b349; have y354 := hkk.size; replace c0 := cell_up c0 b349; replace r124 := r124.up b349; replace hok := Zh hok b349; have y355 := hok.size
    refine ⟨hok, ?_⟩
    refine AA.one 3 (by kernel_rfl) ?_
    (refine SR.val rfl (R.lookKT rfl rfl jKeys (by rfl) (z := jkdZ) (by kernel_rfl) (by assumption) (kn : Int) rfl hkF) rfl rfl hok ?_)
    refine AA.pure 4 rfl hok (by kernel_rfl) (fun w' b' => R.move rfl rfl) rfl rfl ?_
    refine AA.pure 5 rfl hok (by kernel_rfl) (fun w' b' => R.extract rfl rfl rfl) rfl rfl ?_
    refine AA.pure 6 rfl hok (by kernel_rfl) (fun w' b' => R.extract rfl rfl rfl) rfl rfl ?_
    refine AA.one 8 (by kernel_rfl) ?_
    refine ZR.storeN (vs := [.int .i64 m, jfnV f1, jfnV f2, jfnV f3, jfnV f4]) rfl rfl rfl rfl rfl r352 (by exact Nat.le_of_ble_eq_true rfl) (ones_of rfl) rfl rfl ?_
    intro W364 r365 b363 z366
    have hlb363 := r352.lt
    replace r365 : RowL W364 _ 74 [.int .i64 m, jfnV f1, jfnV f2, jfnV f3, jfnV f4] := r365
    clear r352
    replace b349 := Zg b349 b363; replace b300 := Zg b300 b363; replace b289 := Zg b289 b363; replace b121 := Zg b121 b363; replace b15 := Zg b15 b363; replace r1 := Zd r1 b363; replace r2 := Zd r2 b363; replace r3 := Zd r3 b363; replace r4 := Zd r4 b363; replace hkk := Zo hkk b363; replace c0 := Ze c0 b363; replace r124 := Zd r124 b363; replace hok := Zo hok b363
    have r352 := r365
    clear r365
    refine ⟨hok, ?_⟩
    refine AA.pure 9 rfl hok (by kernel_rfl) (fun w' b' => R.assign rfl rfl) rfl rfl ?_
    refine AA.done rfl ?_
    clear fzr1 fzr2 fzr3 fzr4 fzc0 fzr124 hok
    exact EE.weak (J188 _ _ ⟨_, rfl, (by first | assumption | omega), (by first | assumption | omega), (by first | assumption | omega), (by first | assumption | omega), (by first | assumption | omega), (by first | assumption | omega), (by first | assumption | omega), (by first | assumption | omega), (by first | assumption | omega), (by first | assumption | omega), (by first | assumption | omega), (by first | assumption | omega), (by first | assumption | omega)⟩) ⟨rfl, rfl, rfl, rfl, rfl, rfl, rfl, rfl, rfl, rfl, rfl, rfl, rfl, rfl, rfl, rfl, rfl, rfl, rfl, rfl, rfl, trivial⟩
    have l374 := r1.lt; have l375 := r2.lt; have l376 := r3.lt; have l377 := r4.lt; have l378 := r124.lt
    refine ZR.alloc ([.int .i64 0, Value.nilFunc, Value.nilFunc, Value.nilFunc, Value.nilFunc]) rfl rfl rfl rfl rfl rfl ?_
    intro W380 g381 eg381 r382 z383 b379
    replace b289 := Zu b289 b379; replace b121 := Zu b121 b379; replace b15 := Zu b15 b379; replace r1 := r1.up b379; replace r2 := r2.up b379; replace r3 := r3.up b379; replace r4 := r4.up b379; replace hkk := Zh hkk b379; have y384 := hkk.size; replace c0 := cell_up c0 b379; replace r124 := r124.up b379; replace hok := Zh hok b379; have y385 := hok.size
    refine ⟨hok, ?_⟩
    refine AA.one 0 (by kernel_rfl) ?_
    refine SR.call rfl (R.call rfl rfl rfl) rfl rfl (jkinds_any _) ?_
    rintro e W394 ⟨g396, k397, rfl, h395, b393⟩
    have zb393 := b393.size; replace r382 := r382.up b393; replace b379 := Zu b379 b393; replace b289 := Zu b289 b393; replace b121 := Zu b121 b393; replace b15 := Zu b15 b393; replace r1 := r1.up b393; replace r2 := r2.up b393; replace r3 := r3.up b393; replace r4 := r4.up b393; replace hkk := Zh hkk b393; have y398 := hkk.size; replace c0 := cell_up c0 b393; replace r124 := r124.up b393; replace hok := Zh hok b393
    have y399 := hok.size
    refine ⟨_, rfl, hok, ?_⟩
    refine AA.one 3 (by kernel_rfl) ?_
    (refine SR.val rfl (R.lookKT rfl rfl jKeys (by rfl) (z := jkdZ) (by kernel_rfl) (by assumption) (kn : Int) rfl hkF) rfl rfl hok ?_)
    refine AA.pure 4 rfl hok (by kernel_rfl) (fun w' b' => R.move rfl rfl) rfl rfl ?_
    refine AA.pure 5 rfl hok (by kernel_rfl) (fun w' b' => R.extract rfl rfl rfl) rfl rfl ?_
    refine AA.pure 6 rfl hok (by kernel_rfl) (fun w' b' => R.extract rfl rfl rfl) rfl rfl ?_
    refine AA.one 8 (by kernel_rfl) ?_
    refine ZR.storeN (vs := [.int .i64 m, jfnV f1, jfnV f2, jfnV f3, jfnV f4]) rfl rfl rfl rfl rfl r382 (by exact Nat.le_of_ble_eq_true rfl) (ones_of rfl) rfl rfl ?_
    intro W408 r409 b407 z410
    have hlb407 := r382.lt
    replace r409 : RowL W408 _ 74 [.int .i64 m, jfnV f1, jfnV f2, jfnV f3, jfnV f4] := r409
    clear r382
    replace b379 := Zg b379 b407; replace b289 := Zg b289 b407; replace b121 := Zg b121 b407; replace b15 := Zg b15 b407; replace r1 := Zd r1 b407; replace r2 := Zd r2 b407; replace r3 := Zd r3 b407; replace r4 := Zd r4 b407; replace hkk := Zo hkk b407; replace c0 := Ze c0 b407; replace r124 := Zd r124 b407; replace hok := Zo hok b407
    have r382 := r409
    clear r409
    refine ⟨hok, ?_⟩
    refine AA.pure 9 rfl hok (by kernel_rfl) (fun w' b' => R.assign rfl rfl) rfl rfl ?_
    refine AA.done rfl ?_
    clear fzr1 fzr2 fzr3 fzr4 fzc0 fzr124 hok
    exact EE.weak (J188 _ _ ⟨_, rfl, (by first | assumption | omega), (by first | assumption | omega), (by first | assumption | omega), (by first | assumption | omega), (by first | assumption | omega), (by first | assumption | omega), (by first | assumption | omega), (by first | assumption | omega), (by first | assumption | omega), (by first | assumption | omega), (by first | assumption | omega), (by first | assumption | omega), (by first | assumption | omega)⟩) ⟨rfl, rfl, rfl, rfl, rfl, rfl, rfl, rfl, rfl, rfl, rfl, rfl, rfl, rfl, rfl, rfl, rfl, rfl, rfl, rfl, rfl, trivial⟩
  by_cases h : okJ (kn : Int) n a f t fk tk r d li lr
  case neg =>
    have hcn := fun W (hS : Start W) => jcheck_F (kn : Int) n a f t fk tk r d lb li lr lt k1 k2 la lc ld le W hS hb h
    have la5 := rn.lt; have la6 := r1.lt; have la7 := r2.lt; have la8 := r3.lt; have la9 := r4.lt; have la10 := r171.lt
    (refine LL.callP (R.call rfl rfl rfl) rfl rfl (hcn _ (hSF _ hkk)) ?_; rintro e Wa4 ⟨rfl, ba1⟩; refine ⟨_, rfl, ?_⟩)
    have zba1 := ba1.size; replace rn := rn.up ba1; replace hkk := Zh hkk ba1; have ya14 := hkk.size; replace b121 := Zu b121 ba1; replace b15 := Zu b15 ba1; replace r1 := r1.up ba1; replace r2 := r2.up ba1; replace r3 := r3.up ba1; replace r4 := r4.up ba1; replace c0 := cell_up c0 ba1; replace r171 := r171.up ba1; refine EE.thenP ?_; refine EE.panM ?_
    exact ⟨fun h' => absurd h' h, fun h' => absurd h' h, fun _ => ⟨rfl, hkk.less fun j hj => ⟨hj.1, by have := hj.1; omega, by have := hj.1; omega⟩⟩⟩
  have hlb := isL_b hl
  have hly := fun W => jlay_ok (kn : Int) n a f t fk tk r d li lr hlb.1 hlb.2 h W
  have hjl := jW_len (kn : Int) n a f t fk tk r d
  have hck := fun W (hS : Start W) => jcheck_T (kn : Int) n a f t fk tk r d lb li lr lt k1 k2 la lc ld le W hS h
  rw [hkd] at hck hly
  obtain ⟨xs, exs⟩ : ∃ xs, jW (kn : Int) n a f t fk tk r d = xs := ⟨_, rfl⟩
  rw [exs] at hly hjl ⊢
  obtain ⟨N, hN⟩ : ∃ N, xs.length = N := ⟨_, rfl⟩
  unfold jnewW at hly
  rw [hN] at hly hjl ⊢
  have hN2 : 9 ≤ N ∧ N ≤ 19 := by split at hjl <;> omega
  have hpre := fun X (k : Kept (fun j => j < w.heap.size ∧ j ≠ w.heap.size ∧ j ≠ w.heap.size) w X) => (hWF X k).pre (N := N) (cap := cap) (by omega) (by omega)
  have hxl : (ws.take N).length ≤ 1048576 := by rw [List.length_take]; omega
  clear hlb hjl
  refine Zy (R.call rfl rfl rfl) (hck _ (hSF _ hkk)) ?_
  rintro e Wb15 ⟨rfl, bb14⟩
  refine ⟨_, rfl, ?_⟩; have zbb14 := bb14.size; replace rn := rn.up bb14; replace hkk := Zh hkk bb14; have yb17 := hkk.size; replace b121 := Zu b121 bb14; replace b15 := Zu b15 bb14; replace r1 := r1.up bb14; replace r2 := r2.up bb14; replace r3 := r3.up bb14; replace r4 := r4.up bb14; replace c0 := cell_up c0 bb14; replace r171 := r171.up bb14; refine Zq ?_; refine Zr ?_; refine Zv r171 ?_; refine Zv rn ?_
  have lb48 := rn.lt; have lb49 := r1.lt; have lb50 := r2.lt; have lb51 := r3.lt; have lb52 := r4.lt; have lb53 := r171.lt
  (refine Zy (R.call rfl rfl rfl) (hly _) ?_; rintro e Wb47 ⟨v7, rfl, g7, c7, rfl, hc7, r7, hg7, hl7, bb44⟩; refine ⟨_, rfl, ?_⟩)
  have zbb44 := bb44.size; replace bb14 := Zu bb14 bb44; replace rn := rn.up bb44; replace hkk := Zh hkk bb44; have yb57 := hkk.size; replace b121 := Zu b121 bb44; replace b15 := Zu b15 bb44; replace r1 := r1.up bb44; replace r2 := r2.up bb44; replace r3 := r3.up bb44; replace r4 := r4.up bb44; replace c0 := cell_up c0 bb44; replace r171 := r171.up bb44; refine Za ?_; refine Zq ?_; refine Zr ?_; refine Zm ?_
  refine Zl r2 ?_; refine Zm ?_; refine Zn ?_
  refine LL.val (R.slice rfl rfl rfl rfl rfl (I.slTo rfl (by omega))) rfl rfl rfl ?_
  by_cases heq : ws.take N = xs
  · rw [heq] at hpre
    have lc5 := rn.lt; have lc6 := r1.lt; have lc7 := r2.lt; have lc8 := r3.lt; have lc9 := r4.lt; have lc10 := r171.lt
    (refine Zy (R.call rfl rfl rfl) (weq_T r7 (hpre _ hkk) (by omega)) ?_; rintro e Wc4 ⟨rfl, bc1⟩; refine ⟨_, rfl, ?_⟩; have hkz := hkk.less (K' := jK2 w go gh) (fun j hj => ⟨hj.1, by have := hj.1; omega, by have := hj.1; omega⟩); clear hkk)
    have zbc1 := bc1.size; replace r7 := r7.up bc1; replace bb44 := Zu bb44 bc1; replace bb14 := Zu bb14 bc1; replace rn := rn.up bc1; replace b121 := Zu b121 bc1; replace b15 := Zu b15 bc1; replace r1 := r1.up bc1; replace r2 := r2.up bc1; replace r3 := r3.up bc1; replace r4 := r4.up bc1; replace c0 := cell_up c0 bc1; replace r171 := r171.up bc1; replace hkz := Zh hkz bc1; have yc14 := hkz.size; refine Zt ?_
    refine Zy (R.call rfl rfl rfl) (jrefuse_F _ _) ?_
    rintro e W' ⟨rfl, rfl⟩
    refine ⟨_, rfl, ?_⟩; refine Zq ?_; refine CC.region ?_; refine Zv rn ?_
    refine LL.storeN (vs := (redL (↑kn) n a f t fk tk r d)) rfl rfl rfl rfl r3 (by exact Nat.le_of_ble_eq_true rfl) (ones_of rfl) rfl rfl ?_
    intro Wc68 rc69 bc67 zc70
    have hlbc67 := r3.lt
    replace rc69 : RowL Wc68 _ 28 (redL (↑kn) n a f t fk tk r d) := rc69
    clear r3
    replace r7 := r7.gr bc67 (by omega)
    replace rn := Zd rn bc67; replace r1 := Zd r1 bc67; replace r2 := Zd r2 bc67; replace r4 := Zd r4 bc67; replace c0 := Ze c0 bc67; replace r171 := Zd r171 bc67; replace hkz := Zo hkz bc67
    have r3 := rc69
    clear rc69
    refine LL.store rfl rfl rfl rfl r4 (by exact Nat.le_of_ble_eq_true rfl) rfl rfl rfl rfl ?_
    intro Wc85 rc86 bc84 zc87
    have hlbc84 := r4.lt
    replace rc86 : RowL Wc85 _ 4 [.bool true] := rc86
    clear r4
    replace r7 := r7.gr bc84 (by omega)
    replace rn := Zd rn bc84; replace r1 := Zd r1 bc84; replace r2 := Zd r2 bc84; replace c0 := Ze c0 bc84; replace r171 := Zd r171 bc84; replace hkz := Zo hkz bc84; replace r3 := Zd r3 bc84
    have r4 := rc86
    clear rc86
    refine ZL ?_; refine EE.calmN ?_
    (refine EE.endM [] ?_ ?_ ?_; rfl; rfl; exact ⟨fun _ _ => ⟨rfl, r3, r4, hkz⟩, fun _ hne => absurd heq hne, fun hn => absurd h hn⟩)
  · have ld5 := rn.lt; have ld6 := r1.lt; have ld7 := r2.lt; have ld8 := r3.lt; have ld9 := r4.lt; have ld10 := r171.lt
    (refine Zy (R.call rfl rfl rfl) (weq_F r7 (hpre _ hkk) (by omega) hxl (fun e => heq e.symm)) ?_; rintro e Wd4 ⟨rfl, bd1⟩; refine ⟨_, rfl, ?_⟩)
    have zbd1 := bd1.size; replace r7 := r7.up bd1; replace bb44 := Zu bb44 bd1; replace bb14 := Zu bb14 bd1; replace rn := rn.up bd1; replace hkk := Zh hkk bd1; have yd14 := hkk.size; replace b121 := Zu b121 bd1; replace b15 := Zu b15 bd1; replace r1 := r1.up bd1; replace r2 := r2.up bd1; replace r3 := r3.up bd1; replace r4 := r4.up bd1; replace c0 := cell_up c0 bd1; replace r171 := r171.up bd1; refine Zt ?_
    refine LL.callP (R.call rfl rfl rfl) rfl rfl (jrefuse_T _ _) ?_
    rintro e Wd42 ⟨rfl, rfl⟩
    refine ⟨_, rfl, ?_⟩; refine EE.thenP ?_; refine EE.panM ?_
    exact ⟨fun _ e => absurd e heq, fun _ _ => ⟨rfl, hkk.less fun j hj => ⟨hj.1, by have := hj.1; omega, by have := hj.1; omega⟩⟩, fun hn => absurd h hn⟩
theorem jof1_T (lb li lr lt : Int) (k1 k2 : Nat) (la lc ld le : Int) (gl gw go gh bk off cap : Nat) (ws : List Nat) (w : World) (hS : Start w) (hl : isL lb li lr lt la lc ld le) (r1 : RowL w gl 31 (jlyL lb li lr lt k1 k2 la lc ld le)) (r2 : RowL w gw 33 [.slice (some ⟨bk, off, none⟩) 64 cap]) (hW : WdsAt w bk off ws) (hws : ws.length = 64) (hwb : ∀ x ∈ ws, x < 18446744073709551616) (hcap : 64 ≤ cap) (x0 : Nat) (h0 : ws[0]? = some x0) (hx0 : x0 ≠ 0) (kn : Nat) (hk : x0 % 256 = kn) (m : Int) (f1 f2 f3 f4 : Nat) (hkF : jkindsF (kn : Int) = some (m, f1, f2, f3, f4)) (hkd : jkdO (kn : Int) = (m, f1, f2, f3, f4)) (e4 : entB Tryz.prog f4 = true) (n : Int) (a : Nat → Nat) (f t : Int) (fk tk : Nat) (r : Int) (d : Bool) (hrd : ∀ W gr gat, RowL W gr 28 (redL (kn : Int) 0 noA 0 0 0 0 0 false) → RowL W gat 3 [.int .i64 0] → RowL W gw 33 [.slice (some ⟨bk, off, none⟩) 64 cap] → WdsAt W bk off ws → (gat ≠ gw ∧ gat ≠ bk) → (gr ≠ gat ∧ gr ≠ gw ∧ gr ≠ bk) → Calls Tryz.prog f4 #[.pointer (some ⟨gr, 0, none⟩), .func (.func 39) #[] #[.pointer (some ⟨gat, 0, none⟩), .pointer (some ⟨gw, 0, none⟩)]] W fun e w' => e = .returned (.tuple #[]) ∧ RowL w' gr 28 (redL (kn : Int) n a f t fk tk r d) ∧ Kept (fun j => j < W.heap.size ∧ j ≠ gr ∧ j ≠ gat) W w') (r3 : RowL w go 28 (redL 0 0 noA 0 0 0 0 0 false)) (r4 : RowL w gh 4 [.bool false]) (hne : go ≠ gl ∧ go ≠ gw ∧ go ≠ bk ∧ 0 < go ∧ gh ≠ gl ∧ gh ≠ gw ∧ gh ≠ bk ∧ 0 < gh ∧ go ≠ gh) (hb : ∀ x ∈ jsixL a, x < 18446744073709551616) (h : okJ (kn : Int) n a f t fk tk r d li lr) (heq : ws.take (jW (kn : Int) n a f t fk tk r d).length = jW (kn : Int) n a f t fk tk r d) : Calls Tryz.prog 36 #[.pointer (some ⟨gl, 0, none⟩), .pointer (some ⟨gw, 0, none⟩), .pointer (some ⟨go, 0, none⟩), .pointer (some ⟨gh, 0, none⟩)] w fun x w' => x = .returned (.tuple #[]) ∧ RowL w' go 28 (redL (kn : Int) n a f t fk tk r d) ∧ RowL w' gh 4 [.bool true] ∧ Kept (jK2 w go gh) w w' :=
  (jof1_all lb li lr lt k1 k2 la lc ld le gl gw go gh bk off cap ws w hS hl r1 r2 hW hws hwb hcap x0 h0 hx0 kn hk m f1 f2 f3 f4 hkF hkd e4 n a f t fk tk r d hrd 0 r3 r4 hne hb).mono fun e w' q => q.1 h heq
theorem jof1_W (lb li lr lt : Int) (k1 k2 : Nat) (la lc ld le : Int) (gl gw go gh bk off cap : Nat) (ws : List Nat) (w : World) (hS : Start w) (hl : isL lb li lr lt la lc ld le) (r1 : RowL w gl 31 (jlyL lb li lr lt k1 k2 la lc ld le)) (r2 : RowL w gw 33 [.slice (some ⟨bk, off, none⟩) 64 cap]) (hW : WdsAt w bk off ws) (hws : ws.length = 64) (hwb : ∀ x ∈ ws, x < 18446744073709551616) (hcap : 64 ≤ cap) (x0 : Nat) (h0 : ws[0]? = some x0) (hx0 : x0 ≠ 0) (kn : Nat) (hk : x0 % 256 = kn) (m : Int) (f1 f2 f3 f4 : Nat) (hkF : jkindsF (kn : Int) = some (m, f1, f2, f3, f4)) (hkd : jkdO (kn : Int) = (m, f1, f2, f3, f4)) (e4 : entB Tryz.prog f4 = true) (n : Int) (a : Nat → Nat) (f t : Int) (fk tk : Nat) (r : Int) (d : Bool) (hrd : ∀ W gr gat, RowL W gr 28 (redL (kn : Int) 0 noA 0 0 0 0 0 false) → RowL W gat 3 [.int .i64 0] → RowL W gw 33 [.slice (some ⟨bk, off, none⟩) 64 cap] → WdsAt W bk off ws → (gat ≠ gw ∧ gat ≠ bk) → (gr ≠ gat ∧ gr ≠ gw ∧ gr ≠ bk) → Calls Tryz.prog f4 #[.pointer (some ⟨gr, 0, none⟩), .func (.func 39) #[] #[.pointer (some ⟨gat, 0, none⟩), .pointer (some ⟨gw, 0, none⟩)]] W fun e w' => e = .returned (.tuple #[]) ∧ RowL w' gr 28 (redL (kn : Int) n a f t fk tk r d) ∧ Kept (fun j => j < W.heap.size ∧ j ≠ gr ∧ j ≠ gat) W w') (ge : Nat) (r3 : RowL w go 28 (redL 0 0 noA 0 0 0 0 0 false)) (r4 : RowL w gh 4 [.bool false]) (hne : go ≠ gl ∧ go ≠ gw ∧ go ≠ bk ∧ 0 < go ∧ gh ≠ gl ∧ gh ≠ gw ∧ gh ≠ bk ∧ 0 < gh ∧ go ≠ gh) (hb : ∀ x ∈ jsixL a, x < 18446744073709551616) (h : okJ (kn : Int) n a f t fk tk r d li lr) (heq : ws.take (jW (kn : Int) n a f t fk tk r d).length ≠ jW (kn : Int) n a f t fk tk r d) : Calls Tryz.prog 36 #[.pointer (some ⟨gl, 0, none⟩), .pointer (some ⟨gw, 0, none⟩), .pointer (some ⟨go, 0, none⟩), .pointer (some ⟨gh, 0, none⟩)] w fun x w' => x = .panicked (chain1 (jrefV 310)) ∧ Kept (jKW w ge) w w' :=
  (jof1_all lb li lr lt k1 k2 la lc ld le gl gw go gh bk off cap ws w hS hl r1 r2 hW hws hwb hcap x0 h0 hx0 kn hk m f1 f2 f3 f4 hkF hkd e4 n a f t fk tk r d hrd ge r3 r4 hne hb).mono fun e w' q => q.2.1 h heq
theorem jof1_C (lb li lr lt : Int) (k1 k2 : Nat) (la lc ld le : Int) (gl gw go gh bk off cap : Nat) (ws : List Nat) (w : World) (hS : Start w) (hl : isL lb li lr lt la lc ld le) (r1 : RowL w gl 31 (jlyL lb li lr lt k1 k2 la lc ld le)) (r2 : RowL w gw 33 [.slice (some ⟨bk, off, none⟩) 64 cap]) (hW : WdsAt w bk off ws) (hws : ws.length = 64) (hwb : ∀ x ∈ ws, x < 18446744073709551616) (hcap : 64 ≤ cap) (x0 : Nat) (h0 : ws[0]? = some x0) (hx0 : x0 ≠ 0) (kn : Nat) (hk : x0 % 256 = kn) (m : Int) (f1 f2 f3 f4 : Nat) (hkF : jkindsF (kn : Int) = some (m, f1, f2, f3, f4)) (hkd : jkdO (kn : Int) = (m, f1, f2, f3, f4)) (e4 : entB Tryz.prog f4 = true) (n : Int) (a : Nat → Nat) (f t : Int) (fk tk : Nat) (r : Int) (d : Bool) (hrd : ∀ W gr gat, RowL W gr 28 (redL (kn : Int) 0 noA 0 0 0 0 0 false) → RowL W gat 3 [.int .i64 0] → RowL W gw 33 [.slice (some ⟨bk, off, none⟩) 64 cap] → WdsAt W bk off ws → (gat ≠ gw ∧ gat ≠ bk) → (gr ≠ gat ∧ gr ≠ gw ∧ gr ≠ bk) → Calls Tryz.prog f4 #[.pointer (some ⟨gr, 0, none⟩), .func (.func 39) #[] #[.pointer (some ⟨gat, 0, none⟩), .pointer (some ⟨gw, 0, none⟩)]] W fun e w' => e = .returned (.tuple #[]) ∧ RowL w' gr 28 (redL (kn : Int) n a f t fk tk r d) ∧ Kept (fun j => j < W.heap.size ∧ j ≠ gr ∧ j ≠ gat) W w') (ge : Nat) (r3 : RowL w go 28 (redL 0 0 noA 0 0 0 0 0 false)) (r4 : RowL w gh 4 [.bool false]) (hne : go ≠ gl ∧ go ≠ gw ∧ go ≠ bk ∧ 0 < go ∧ gh ≠ gl ∧ gh ≠ gw ∧ gh ≠ bk ∧ 0 < gh ∧ go ≠ gh) (hb : ∀ x ∈ jsixL a, x < 18446744073709551616) (h : ¬okJ (kn : Int) n a f t fk tk r d li lr) : Calls Tryz.prog 36 #[.pointer (some ⟨gl, 0, none⟩), .pointer (some ⟨gw, 0, none⟩), .pointer (some ⟨go, 0, none⟩), .pointer (some ⟨gh, 0, none⟩)] w fun x w' => x = .panicked (chain1 (jrefV 310)) ∧ Kept (jKW w ge) w w' :=
  (jof1_all lb li lr lt k1 k2 la lc ld le gl gw go gh bk off cap ws w hS hl r1 r2 hW hws hwb hcap x0 h0 hx0 kn hk m f1 f2 f3 f4 hkF hkd e4 n a f t fk tk r d hrd ge r3 r4 hne hb).mono fun e w' q => q.2.2 h
/-- Words begin with a redo's. -/
def jHas (ws : List Nat) (k n : Int) (a : Nat → Nat) (f t : Int) (fk tk : Nat) (r : Int) (d : Bool) (li lr : Int) : Prop := okJ k n a f t fk tk r d li lr ∧ ws.take (jW k n a f t fk tk r d).length = jW k n a f t fk tk r d
theorem take_at {ws xs : List Nat} (h : ws.take xs.length = xs) {j y : Nat} (hy : xs[j]? = some y) : ws[j]? = some y := by
  have hj := (List.getElem?_eq_some_iff.1 hy).1
  rw [← h, List.getElem?_take, if_pos hj] at hy
  exact hy
theorem jof1_K (lb li lr lt : Int) (k1 k2 : Nat) (la lc ld le : Int) (gl gw go gh bk off cap : Nat) (ws : List Nat) (w : World) (hS : Start w) (hl : isL lb li lr lt la lc ld le) (r1 : RowL w gl 31 (jlyL lb li lr lt k1 k2 la lc ld le)) (r2 : RowL w gw 33 [.slice (some ⟨bk, off, none⟩) 64 cap]) (hW : WdsAt w bk off ws) (hws : ws.length = 64) (hwb : ∀ x ∈ ws, x < 18446744073709551616) (hcap : 64 ≤ cap) (x0 : Nat) (h0 : ws[0]? = some x0) (hx0 : x0 ≠ 0) (kn : Nat) (hk : x0 % 256 = kn) (kN : jkindsF (kn : Int) = none) (ge : Nat) : Calls Tryz.prog 36 #[.pointer (some ⟨gl, 0, none⟩), .pointer (some ⟨gw, 0, none⟩), .pointer (some ⟨go, 0, none⟩), .pointer (some ⟨gh, 0, none⟩)] w fun x w' => x = .panicked (chain1 (jrefV 310)) ∧ Kept (jKW w ge) w w' := by
  have lgl := r1.lt; have lgw := r2.lt; have lbk := hW.lt
  have hS0 := hS.pos
  have hx64 := hwb x0 (List.mem_of_getElem? h0)
  have hkm : x0 &&& 255 = kn := (and_byte x0).trans hk
  have hkn : kn < 256 := by omega
  have hkk := Kept.refl (fun j => j < w.heap.size ∧ j ≠ w.heap.size ∧ j ≠ w.heap.size) w
  have hWF : ∀ X, Kept (fun j => j < w.heap.size ∧ j ≠ w.heap.size ∧ j ≠ w.heap.size) w X → WdsAt X bk off ws := fun X k => ⟨fun j x hx => (World.cell?_of_block (k.block bk ⟨lbk, by omega, by omega⟩)).trans (hW.cells j x hx), Nat.lt_of_lt_of_le lbk k.size⟩
  have hSF : ∀ X, Kept (fun j => j < w.heap.size ∧ j ≠ w.heap.size ∧ j ≠ w.heap.size) w X → Start X := fun X k => hS.kept k ⟨hS0, by omega, by omega⟩
  have c0 := hW.cells _ _ h0
  clear hW hS
  refine X.fnP Tryz.func36 rfl (n := 54) rfl rfl ?_
  refine Zr ?_; refine Zv r1 ?_
  refine Zy (R.call rfl rfl rfl) (jlay_T _ _ _ _ _ _ _ _ _ _ _ (by first | assumption | omega)) ?_
  rintro e W2 ⟨rfl, b1⟩
  refine ⟨_, rfl, ?_⟩; have zb1 := b1.size; replace r1 := r1.up b1; replace r2 := r2.up b1; replace hkk := Zh hkk b1; have y4 := hkk.size; replace c0 := cell_up c0 b1; refine Zq ?_; refine Zr ?_; refine Zl r2 ?_; refine Zn ?_; refine ZneF ?_
  refine Zy (R.call rfl rfl rfl) (jrefuse_F _ _) ?_
  rintro e W' ⟨rfl, rfl⟩
  refine ⟨_, rfl, ?_⟩; refine Zq ?_; refine Zc ?_; refine Zr ?_; refine Zl r2 ?_; refine Zi ?_; refine Zk ?_; refine ZeqF ?_; refine Zq ?_; refine ZN ?_; refine ZK ?_; refine ZT ?_; refine Zr ?_; refine Zl r2 ?_; refine Zi ?_; refine Zk ?_
  refine LL.val (R.andE (a := x0) (b := 255) (z := kn) rfl rfl rfl hx64 (by decide) hkm) rfl rfl rfl ?_
  refine LL.val (R.convI rfl rfl rfl rfl (wrapI (by omega) (by omega))) rfl rfl rfl ?_
  refine LL.val (R.buildV rfl rfl (v := .agg #[Value.int IntKind.i64 ↑kn, Value.int IntKind.i64 0, Value.int IntKind.u64 0, Value.int IntKind.u64 0, Value.int IntKind.u64 0, Value.int IntKind.u64 0, Value.int IntKind.u64 0, Value.int IntKind.u64 0, Value.int IntKind.u64 0, Value.int IntKind.u64 0, Value.int IntKind.u64 0, Value.int IntKind.u64 0, Value.int IntKind.u64 0, Value.int IntKind.u64 0, Value.int IntKind.u64 0, Value.int IntKind.u64 0, Value.int IntKind.u64 0, Value.int IntKind.u64 0, Value.int IntKind.i64 0, Value.int IntKind.i64 0, Value.int IntKind.u64 0, Value.int IntKind.u64 0, Value.int IntKind.i64 0, Value.bool false]) (fun _ => by kernel_rfl)) rfl rfl rfl ?_
  have l5 := r1.lt; have l6 := r2.lt
  refine LL.alloc ((redL 0 0 noA 0 0 0 0 0 false)) rfl rfl rfl rfl rfl ?_
  intro W8 g9 eg9 r10 z11 b7
  replace b1 := Zu b1 b7; replace r1 := r1.up b7; replace r2 := r2.up b7; replace hkk := Zh hkk b7; have y12 := hkk.size; replace c0 := cell_up c0 b7
  refine LL.storeN (vs := (redL (↑kn) 0 noA 0 0 0 0 0 false)) rfl rfl rfl rfl r10 (by exact Nat.le_of_ble_eq_true rfl) (ones_of rfl) rfl rfl ?_
  intro W14 r15 b13 z16
  have hlb13 := r10.lt
  replace r15 : RowL W14 _ 28 (redL (↑kn) 0 noA 0 0 0 0 0 false) := r15
  clear r10
  replace b7 := Zg b7 b13; replace b1 := Zg b1 b13; replace r1 := Zd r1 b13; replace r2 := Zd r2 b13; replace hkk := Zo hkk b13; replace c0 := Ze c0 b13
  have r10 := r15
  clear r15
  refine Zq ?_; refine Zc ?_
  refine CC.join (fun l_ W39 => ∃ (g33 : Nat), l_ = [(0, Value.pointer (some { block := gl, off := 0 })), (1, Value.pointer (some { block := gw, off := 0 })), (2, Value.pointer (some { block := go, off := 0 })), (3, Value.pointer (some { block := gh, off := 0 })), (9, Value.agg #[Value.int IntKind.i64 lb, Value.int IntKind.i64 li, Value.int IntKind.i64 lr, Value.int IntKind.i64 lt, Value.int IntKind.u64 ↑k1, Value.int IntKind.u64 ↑k2, Value.int IntKind.i64 la, Value.int IntKind.i64 lc, Value.int IntKind.i64 ld, Value.int IntKind.i64 le]), (11, Value.slice (some { block := bk, off := off }) 64 cap), (12, Value.int IntKind.i64 ↑64), (13, Value.bool false), (15, Value.slice (some { block := bk, off := off }) 64 cap), (16, Value.pointer (some { block := bk, off := off + 0 })), (17, Value.int IntKind.u64 ↑x0), (18, Value.bool false), (19, Value.slice (some { block := bk, off := off }) 64 cap), (20, Value.pointer (some { block := bk, off := off + 0 })), (21, Value.int IntKind.u64 ↑x0), (22, Value.int IntKind.u64 ↑kn), (23, Value.int IntKind.i64 ↑kn), (24, Value.agg #[Value.int IntKind.i64 ↑kn, Value.int IntKind.i64 0, Value.int IntKind.u64 0, Value.int IntKind.u64 0, Value.int IntKind.u64 0, Value.int IntKind.u64 0, Value.int IntKind.u64 0, Value.int IntKind.u64 0, Value.int IntKind.u64 0, Value.int IntKind.u64 0, Value.int IntKind.u64 0, Value.int IntKind.u64 0, Value.int IntKind.u64 0, Value.int IntKind.u64 0, Value.int IntKind.u64 0, Value.int IntKind.u64 0, Value.int IntKind.u64 0, Value.int IntKind.u64 0, Value.int IntKind.i64 0, Value.int IntKind.i64 0, Value.int IntKind.u64 0, Value.int IntKind.u64 0, Value.int IntKind.i64 0, Value.bool false]), (4, Value.pointer (some { block := g9, off := 0 })), (5, Value.pointer (some { block := g33, off := 0 })), (6, Value.bool false)] ∧ (Below W14.heap.size W14 W39) ∧ (Below W2.heap.size W2 W39) ∧ (Below w.heap.size w W39) ∧ (RowL W39 gl 31 (jlyL lb li lr lt k1 k2 la lc ld le)) ∧ (RowL W39 gw 33 [Value.slice (some { block := bk, off := off }) 64 cap]) ∧ (Kept (fun j => j < w.heap.size ∧ j ≠ w.heap.size ∧ j ≠ w.heap.size) w W39) ∧ (W39.cell? { block := bk, off := off + 0 } = some (Value.int IntKind.u64 ↑x0)) ∧ (RowL W39 g9 28 [Value.int IntKind.i64 ↑kn, Value.int IntKind.i64 0, Value.int IntKind.u64 0, Value.int IntKind.u64 0, Value.int IntKind.u64 0, Value.int IntKind.u64 0, Value.int IntKind.u64 0, Value.int IntKind.u64 0, Value.int IntKind.u64 0, Value.int IntKind.u64 0, Value.int IntKind.u64 0, Value.int IntKind.u64 0, Value.int IntKind.u64 0, Value.int IntKind.u64 0, Value.int IntKind.u64 0, Value.int IntKind.u64 0, Value.int IntKind.u64 0, Value.int IntKind.u64 0, Value.int IntKind.i64 0, Value.int IntKind.i64 0, Value.int IntKind.u64 0, Value.int IntKind.u64 0, Value.int IntKind.i64 0, Value.bool false]) ∧ (RowL W39 g33 74 [Value.int IntKind.i64 0, Value.nilFunc, Value.nilFunc, Value.nilFunc, Value.nilFunc]) ∧ (W14.heap.size ≤ W39.heap.size) ∧ (W14.heap.size ≤ g33)) (fun J44 => ?_) ?restJ44
  case' restJ44 =>
    clear b7
    clear b1
    clear r1
    clear r2
    clear hkk
    clear c0
    clear r10
    rintro _ W39 ⟨g33, rfl, b17, b7, b1, r1, r2, hkk, c0, r10, r34, z42, z43⟩
  refine ZT ?_; refine Zr ?_; refine Zm ?_; refine Zt ?_
  refine LL.callP (R.call rfl rfl rfl) rfl rfl (jrefuse_T _ _) ?_
  rintro e W46 ⟨rfl, rfl⟩
  refine ⟨_, rfl, ?_⟩; refine EE.thenP ?_; refine EE.panM ?_
  exact ⟨rfl, hkk.less fun j hj => ⟨hj.1, by have := hj.1; omega, by have := hj.1; omega⟩⟩
  refine CC.freeZ (fun W_ j => j < W_.heap.size ∧ (True)) (by kernel_rfl) (by kernel_rfl) (fun W48 b47 z49 => ?_)
  replace b7 := Zu b7 b47; replace b1 := Zu b1 b47; replace r1 := r1.up b47; replace r2 := r2.up b47; replace hkk := Zh hkk b47; have y50 := hkk.size; replace c0 := cell_up c0 b47; replace r10 := r10.up b47
  have hok : Kept (fun j => j < W48.heap.size ∧ (True)) W48 W48 := Kept.refl _ _
  have fzr1 := fzRow (K := fun j => j < W48.heap.size ∧ (True)) r1 ⟨r1.lt, (by first | trivial | omega)⟩
  have fzr2 := fzRow (K := fun j => j < W48.heap.size ∧ (True)) r2 ⟨r2.lt, (by first | trivial | omega)⟩
  have fzc0 := fzCell (K := fun j => j < W48.heap.size ∧ (True)) c0 ⟨World.block_lt_of_cell? _ _ c0, (by first | trivial | omega)⟩
  have fzr10 := fzRow (K := fun j => j < W48.heap.size ∧ (True)) r10 ⟨r10.lt, (by first | trivial | omega)⟩
  refine AA.pure 1 rfl hok (by kernel_rfl) (fun w' b' => R.field rfl rfl (I.fld rfl)) rfl rfl ?_
  refine AA.pure 2 rfl hok (by kernel_rfl) (fun w' b' => R.load rfl rfl (I.ld1 rfl (RowL.cell (fzr10 w' b') rfl))) rfl rfl ?_
  refine AA.two 0 7 (by kernel_rfl) ?_ ?_
  refine SR.call rfl (R.call rfl rfl rfl) rfl rfl (jkinds_any _) ?_
  rintro e W52 ⟨g54, k55, rfl, h53, b51⟩
  have zb51 := b51.size; replace b47 := Zu b47 b51; replace b7 := Zu b7 b51; replace b1 := Zu b1 b51; replace r1 := r1.up b51; replace r2 := r2.up b51; replace hkk := Zh hkk b51; have y56 := hkk.size; replace c0 := cell_up c0 b51; replace r10 := r10.up b51; replace hok := Zh hok b51; have y57 := hok.size
  refine ⟨_, rfl, hok, ?_⟩
  refine AA.two 3 7 (by kernel_rfl) ?_ ?_
  (refine SR.val rfl (R.lookKF rfl rfl jKeys (by rfl) (z := jkdZ) (by kernel_rfl) (by assumption) (kn : Int) rfl kN) rfl rfl hok ?_)
  refine AA.pure 4 rfl hok (by kernel_rfl) (fun w' b' => R.move rfl rfl) rfl rfl ?_
  refine AA.pure 5 rfl hok (by kernel_rfl) (fun w' b' => R.extract rfl rfl rfl) rfl rfl ?_
  refine AA.pure 6 rfl hok (by kernel_rfl) (fun w' b' => R.extract rfl rfl rfl) rfl rfl ?_
  refine AA.one 7 (by kernel_rfl) ?_
  have l58 := r1.lt; have l59 := r2.lt; have l60 := r10.lt
  refine ZR.alloc ([.int .i64 0, Value.nilFunc, Value.nilFunc, Value.nilFunc, Value.nilFunc]) rfl rfl rfl rfl rfl rfl ?_
  intro W62 g63 eg63 r64 z65 b61
  replace h53 := h53.up b61; replace b51 := Zu b51 b61; replace b47 := Zu b47 b61; replace b7 := Zu b7 b61; replace b1 := Zu b1 b61; replace r1 := r1.up b61; replace r2 := r2.up b61; replace hkk := Zh hkk b61; have y66 := hkk.size; replace c0 := cell_up c0 b61; replace r10 := r10.up b61; replace hok := Zh hok b61; have y67 := hok.size
  refine ⟨hok, ?_⟩
  refine AA.one 8 (by kernel_rfl) ?_
  refine ZR.storeN (vs := [.int .i64 0, Value.nilFunc, Value.nilFunc, Value.nilFunc, Value.nilFunc]) rfl rfl rfl rfl rfl r64 (by exact Nat.le_of_ble_eq_true rfl) (ones_of rfl) rfl rfl ?_
  intro W69 r70 b68 z71
  have hlb68 := r64.lt
  replace r70 : RowL W69 _ 74 [.int .i64 0, Value.nilFunc, Value.nilFunc, Value.nilFunc, Value.nilFunc] := r70
  clear r64
  replace b61 := Zg b61 b68; replace b51 := Zg b51 b68; replace b47 := Zg b47 b68; replace b7 := Zg b7 b68; replace b1 := Zg b1 b68; replace r1 := Zd r1 b68; replace r2 := Zd r2 b68; replace hkk := Zo hkk b68; replace c0 := Ze c0 b68; replace r10 := Zd r10 b68; replace hok := Zo hok b68
  have r64 := r70
  clear r70
  refine ⟨hok, ?_⟩
  refine AA.pure 9 rfl hok (by kernel_rfl) (fun w' b' => R.assign rfl rfl) rfl rfl ?_
  refine AA.done rfl ?_
  clear fzr1 fzr2 fzc0 fzr10 hok
  exact EE.weak (J44 _ _ ⟨_, rfl, (by first | assumption | omega), (by first | assumption | omega), (by first | assumption | omega), (by first | assumption | omega), (by first | assumption | omega), (by first | assumption | omega), (by first | assumption | omega), (by first | assumption | omega), (by first | assumption | omega), (by first | assumption | omega), (by first | assumption | omega)⟩) ⟨rfl, rfl, rfl, rfl, rfl, rfl, rfl, rfl, rfl, rfl, rfl, rfl, rfl, rfl, rfl, rfl, rfl, rfl, rfl, rfl, rfl, trivial⟩
  have l72 := r1.lt; have l73 := r2.lt; have l74 := r10.lt
  refine ZR.alloc ([.int .i64 0, Value.nilFunc, Value.nilFunc, Value.nilFunc, Value.nilFunc]) rfl rfl rfl rfl rfl rfl ?_
  intro W76 g77 eg77 r78 z79 b75
  replace h53 := h53.up b75; replace b51 := Zu b51 b75; replace b47 := Zu b47 b75; replace b7 := Zu b7 b75; replace b1 := Zu b1 b75; replace r1 := r1.up b75; replace r2 := r2.up b75; replace hkk := Zh hkk b75; have y80 := hkk.size; replace c0 := cell_up c0 b75; replace r10 := r10.up b75; replace hok := Zh hok b75; have y81 := hok.size
  refine ⟨hok, ?_⟩
  refine AA.one 3 (by kernel_rfl) ?_
  (refine SR.val rfl (R.lookKF rfl rfl jKeys (by rfl) (z := jkdZ) (by kernel_rfl) (by assumption) (kn : Int) rfl kN) rfl rfl hok ?_)
  refine AA.pure 4 rfl hok (by kernel_rfl) (fun w' b' => R.move rfl rfl) rfl rfl ?_
  refine AA.pure 5 rfl hok (by kernel_rfl) (fun w' b' => R.extract rfl rfl rfl) rfl rfl ?_
  refine AA.pure 6 rfl hok (by kernel_rfl) (fun w' b' => R.extract rfl rfl rfl) rfl rfl ?_
  refine AA.one 8 (by kernel_rfl) ?_
  refine ZR.storeN (vs := [.int .i64 0, Value.nilFunc, Value.nilFunc, Value.nilFunc, Value.nilFunc]) rfl rfl rfl rfl rfl r78 (by exact Nat.le_of_ble_eq_true rfl) (ones_of rfl) rfl rfl ?_
  intro W83 r84 b82 z85
  have hlb82 := r78.lt
  replace r84 : RowL W83 _ 74 [.int .i64 0, Value.nilFunc, Value.nilFunc, Value.nilFunc, Value.nilFunc] := r84
  clear r78
  replace b75 := Zg b75 b82; replace b51 := Zg b51 b82; replace b47 := Zg b47 b82; replace b7 := Zg b7 b82; replace b1 := Zg b1 b82; replace r1 := Zd r1 b82; replace r2 := Zd r2 b82; replace hkk := Zo hkk b82; replace c0 := Ze c0 b82; replace r10 := Zd r10 b82; replace hok := Zo hok b82
  have r78 := r84
  clear r84
  refine ⟨hok, ?_⟩
  refine AA.pure 9 rfl hok (by kernel_rfl) (fun w' b' => R.assign rfl rfl) rfl rfl ?_
  refine AA.done rfl ?_
  clear fzr1 fzr2 fzc0 fzr10 hok
  exact EE.weak (J44 _ _ ⟨_, rfl, (by first | assumption | omega), (by first | assumption | omega), (by first | assumption | omega), (by first | assumption | omega), (by first | assumption | omega), (by first | assumption | omega), (by first | assumption | omega), (by first | assumption | omega), (by first | assumption | omega), (by first | assumption | omega), (by first | assumption | omega)⟩) ⟨rfl, rfl, rfl, rfl, rfl, rfl, rfl, rfl, rfl, rfl, rfl, rfl, rfl, rfl, rfl, rfl, rfl, rfl, rfl, rfl, rfl, trivial⟩
  have l86 := r1.lt; have l87 := r2.lt; have l88 := r10.lt
  refine ZR.alloc ([.int .i64 0, Value.nilFunc, Value.nilFunc, Value.nilFunc, Value.nilFunc]) rfl rfl rfl rfl rfl rfl ?_
  intro W90 g91 eg91 r92 z93 b89
  replace b47 := Zu b47 b89; replace b7 := Zu b7 b89; replace b1 := Zu b1 b89; replace r1 := r1.up b89; replace r2 := r2.up b89; replace hkk := Zh hkk b89; have y94 := hkk.size; replace c0 := cell_up c0 b89; replace r10 := r10.up b89; replace hok := Zh hok b89; have y95 := hok.size
  refine ⟨hok, ?_⟩
  refine AA.one 0 (by kernel_rfl) ?_
  refine SR.call rfl (R.call rfl rfl rfl) rfl rfl (jkinds_any _) ?_
  rintro e W97 ⟨g99, k100, rfl, h98, b96⟩
  have zb96 := b96.size; replace r92 := r92.up b96; replace b89 := Zu b89 b96; replace b47 := Zu b47 b96; replace b7 := Zu b7 b96; replace b1 := Zu b1 b96; replace r1 := r1.up b96; replace r2 := r2.up b96; replace hkk := Zh hkk b96; have y101 := hkk.size; replace c0 := cell_up c0 b96; replace r10 := r10.up b96; replace hok := Zh hok b96; have y102 := hok.size
  refine ⟨_, rfl, hok, ?_⟩
  refine AA.one 3 (by kernel_rfl) ?_
  (refine SR.val rfl (R.lookKF rfl rfl jKeys (by rfl) (z := jkdZ) (by kernel_rfl) (by assumption) (kn : Int) rfl kN) rfl rfl hok ?_)
  refine AA.pure 4 rfl hok (by kernel_rfl) (fun w' b' => R.move rfl rfl) rfl rfl ?_
  refine AA.pure 5 rfl hok (by kernel_rfl) (fun w' b' => R.extract rfl rfl rfl) rfl rfl ?_
  refine AA.pure 6 rfl hok (by kernel_rfl) (fun w' b' => R.extract rfl rfl rfl) rfl rfl ?_
  refine AA.one 8 (by kernel_rfl) ?_
  refine ZR.storeN (vs := [.int .i64 0, Value.nilFunc, Value.nilFunc, Value.nilFunc, Value.nilFunc]) rfl rfl rfl rfl rfl r92 (by exact Nat.le_of_ble_eq_true rfl) (ones_of rfl) rfl rfl ?_
  intro W104 r105 b103 z106
  have hlb103 := r92.lt
  replace r105 : RowL W104 _ 74 [.int .i64 0, Value.nilFunc, Value.nilFunc, Value.nilFunc, Value.nilFunc] := r105
  clear r92
  replace b89 := Zg b89 b103; replace b47 := Zg b47 b103; replace b7 := Zg b7 b103; replace b1 := Zg b1 b103; replace r1 := Zd r1 b103; replace r2 := Zd r2 b103; replace hkk := Zo hkk b103; replace c0 := Ze c0 b103; replace r10 := Zd r10 b103; replace hok := Zo hok b103
  have r92 := r105
  clear r105
  refine ⟨hok, ?_⟩
  refine AA.pure 9 rfl hok (by kernel_rfl) (fun w' b' => R.assign rfl rfl) rfl rfl ?_
  refine AA.done rfl ?_
  clear fzr1 fzr2 fzc0 fzr10 hok
  exact EE.weak (J44 _ _ ⟨_, rfl, (by first | assumption | omega), (by first | assumption | omega), (by first | assumption | omega), (by first | assumption | omega), (by first | assumption | omega), (by first | assumption | omega), (by first | assumption | omega), (by first | assumption | omega), (by first | assumption | omega), (by first | assumption | omega), (by first | assumption | omega)⟩) ⟨rfl, rfl, rfl, rfl, rfl, rfl, rfl, rfl, rfl, rfl, rfl, rfl, rfl, rfl, rfl, rfl, rfl, rfl, rfl, rfl, rfl, trivial⟩
theorem jof1_0 (lb li lr lt : Int) (k1 k2 : Nat) (la lc ld le : Int) (gl gw go gh bk off cap : Nat) (ws : List Nat) (w : World) (hl : isL lb li lr lt la lc ld le) (r1 : RowL w gl 31 (jlyL lb li lr lt k1 k2 la lc ld le)) (r2 : RowL w gw 33 [.slice (some ⟨bk, off, none⟩) 64 cap]) (hW : WdsAt w bk off ws) (hcap : 64 ≤ cap) (h0 : ws[0]? = some 0) : Calls Tryz.prog 36 #[.pointer (some ⟨gl, 0, none⟩), .pointer (some ⟨gw, 0, none⟩), .pointer (some ⟨go, 0, none⟩), .pointer (some ⟨gh, 0, none⟩)] w fun x w' => x = .returned (.tuple #[]) ∧ Below w.heap.size w w' := by
  have q := Below.refl w.heap.size w
  have c0 := hW.cells _ _ h0
  have lbk := hW.lt
  clear hW
  refine X.fn Tryz.func36 rfl (n := 54) rfl rfl ?_
  refine Zr ?_; refine Zv r1 ?_
  refine Zy (R.call rfl rfl rfl) (jlay_T _ _ _ _ _ _ _ _ _ _ _ (by first | assumption | omega)) ?_
  rintro e W2 ⟨rfl, b1⟩
  refine ⟨_, rfl, ?_⟩; have zb1 := b1.size; replace r1 := r1.up b1; replace r2 := r2.up b1; replace q := Zu q b1; replace c0 := cell_up c0 b1; refine Zq ?_; refine Zr ?_; refine Zl r2 ?_; refine Zn ?_; refine ZneF ?_
  refine Zy (R.call rfl rfl rfl) (jrefuse_F _ _) ?_
  rintro e W' ⟨rfl, rfl⟩
  refine ⟨_, rfl, ?_⟩; refine Zq ?_; refine Zc ?_; refine Zr ?_; refine Zl r2 ?_; refine Zi ?_; refine Zk ?_; refine ZeqT ?_; refine Zq ?_; refine ZY ?_; refine ZR ?_; refine EE.thenR ?_; refine EE.ret _ rfl rfl ?_
  exact ⟨rfl, q⟩
theorem jof1_yes (lb li lr lt : Int) (k1 k2 : Nat) (la lc ld le : Int) (gl gw go gh bk off cap : Nat) (ws : List Nat) (w : World) (hS : Start w) (hl : isL lb li lr lt la lc ld le) (r1 : RowL w gl 31 (jlyL lb li lr lt k1 k2 la lc ld le)) (r2 : RowL w gw 33 [.slice (some ⟨bk, off, none⟩) 64 cap]) (hW : WdsAt w bk off ws) (hws : ws.length = 64) (hwb : ∀ x ∈ ws, x < 18446744073709551616) (hcap : 64 ≤ cap) (k n : Int) (a : Nat → Nat) (f t : Int) (fk tk : Nat) (r : Int) (d : Bool) (hb : ∀ x ∈ jsixL a, x < 18446744073709551616) (hh : jHas ws k n a f t fk tk r d li lr) (r3 : RowL w go 28 (redL 0 0 noA 0 0 0 0 0 false)) (r4 : RowL w gh 4 [.bool false]) (hne : go ≠ gl ∧ go ≠ gw ∧ go ≠ bk ∧ 0 < go ∧ gh ≠ gl ∧ gh ≠ gw ∧ gh ≠ bk ∧ 0 < gh ∧ go ≠ gh) : Calls Tryz.prog 36 #[.pointer (some ⟨gl, 0, none⟩), .pointer (some ⟨gw, 0, none⟩), .pointer (some ⟨go, 0, none⟩), .pointer (some ⟨gh, 0, none⟩)] w fun x w' => x = .returned (.tuple #[]) ∧ RowL w' go 28 (redL k n a f t fk tk r d) ∧ RowL w' gh 4 [.bool true] ∧ Kept (jK2 w go gh) w w' := by
  obtain ⟨hok, htk⟩ := hh
  have hlb := isL_b hl
  rcases id hok with ⟨rfl, hn, hfl, rfl, rfl, rfl, rfl, rfl, rfl⟩ | ⟨rfl, hn, ha, h1, h2, h3, h4⟩
  · have e0 : ws[0]? = some 4353 := take_at htk rfl
    have e1 : ws[1]? = some n.toNat := take_at htk rfl
    have hs : smallZ n.toNat = n := by unfold smallZ; rw [if_pos (by omega)]; omega
    have hf : ∀ i, i < 16 → jfill ws 16 i = a i := fun i hi => by
      unfold jfill
      rw [if_pos hi]
      have hc : i = 0 ∨ i = 1 ∨ i = 2 ∨ i = 3 ∨ i = 4 ∨ i = 5 ∨ i = 6 ∨ i = 7 ∨ i = 8 ∨ i = 9 ∨ i = 10 ∨ i = 11 ∨ i = 12 ∨ i = 13 ∨ i = 14 ∨ i = 15 := by omega
      rcases hc with rfl | rfl | rfl | rfl | rfl | rfl | rfl | rfl | rfl | rfl | rfl | rfl | rfl | rfl | rfl | rfl <;> (rw [take_at htk rfl]; rfl)
    refine jof1_T lb li lr lt k1 k2 la lc ld le gl gw go gh bk off cap ws w hS hl r1 r2 hW hws hwb hcap 4353 e0 (by decide) 1 rfl 17 _ _ _ _ jkF_1 rfl (by kernel_rfl) n a 0 0 0 0 0 false (fun W gr gat h1 h2 h3 h4 h5 h6 => (readI_any gr gat gw bk off cap ws hws hwb _ e1 W h1 h2 h3 h4 h5 h6).mono fun e w' ⟨he, hr, hk⟩ => ⟨he, ?_, hk⟩) r3 r4 hne hb hok htk
    rw [hs] at hr
    unfold redL at hr ⊢
    rw [hf 0 (by decide), hf 1 (by decide), hf 2 (by decide), hf 3 (by decide), hf 4 (by decide), hf 5 (by decide), hf 6 (by decide), hf 7 (by decide), hf 8 (by decide), hf 9 (by decide), hf 10 (by decide), hf 11 (by decide), hf 12 (by decide), hf 13 (by decide), hf 14 (by decide), hf 15 (by decide)] at hr
    exact hr
  · have e0 : ws[0]? = some 1794 := take_at htk rfl
    have e1 : ws[1]? = some f.toNat := take_at htk rfl
    have e2 : ws[2]? = some fk := take_at htk rfl
    have e3 : ws[3]? = some t.toNat := take_at htk rfl
    have e4 : ws[4]? = some tk := take_at htk rfl
    have e5 : ws[5]? = some r.toNat := take_at htk rfl
    have e6 : ws[6]? = some n.toNat := take_at htk rfl
    have e7 : ws[7]? = some (if d then 1 else 0) := take_at htk rfl
    have hs : ∀ z : Int, 1 ≤ z → z ≤ 1024 → smallZ z.toNat = z := fun z hz hz2 => by unfold smallZ; rw [if_pos (by omega)]; omega
    have hd : ((if d then 1 else 0 : Nat) != 0) = d := by cases d <;> rfl
    have hm := fun {j x : Nat} (h : ws[j]? = some x) => hwb x (List.mem_of_getElem? h)
    refine jof1_T lb li lr lt k1 k2 la lc ld le gl gw go gh bk off cap ws w hS hl r1 r2 hW hws hwb hcap 1794 e0 (by decide) 2 rfl 7 _ _ _ _ jkF_2 rfl (by kernel_rfl) n a f t fk tk r d (fun W gr gat g1 g2 g3 g4 g5 g6 => (readN_any gr gat gw bk off cap ws _ _ _ _ _ _ _ e1 (hm e1) e2 (hm e2) e3 (hm e3) e4 (hm e4) e5 (hm e5) e6 (hm e6) e7 (hm e7) W g1 g2 g3 g4 g5 g6).mono fun e w' ⟨he, hr, hk⟩ => ⟨he, ?_, hk⟩) r3 r4 hne hb hok htk
    rw [hs n (by omega) (by omega), hs f (by omega) (by omega), hs t (by omega) (by omega), hs r (by omega) (by omega), hd] at hr
    unfold redL at hr ⊢
    rw [ha 0 (by decide), ha 1 (by decide), ha 2 (by decide), ha 3 (by decide), ha 4 (by decide), ha 5 (by decide), ha 6 (by decide), ha 7 (by decide), ha 8 (by decide), ha 9 (by decide), ha 10 (by decide), ha 11 (by decide), ha 12 (by decide), ha 13 (by decide), ha 14 (by decide), ha 15 (by decide)]
    exact hr
theorem jof1_nono (lb li lr lt : Int) (k1 k2 : Nat) (la lc ld le : Int) (gl gw go gh bk off cap : Nat) (ws : List Nat) (w : World) (hS : Start w) (hl : isL lb li lr lt la lc ld le) (r1 : RowL w gl 31 (jlyL lb li lr lt k1 k2 la lc ld le)) (r2 : RowL w gw 33 [.slice (some ⟨bk, off, none⟩) 64 cap]) (hW : WdsAt w bk off ws) (hws : ws.length = 64) (hwb : ∀ x ∈ ws, x < 18446744073709551616) (hcap : 64 ≤ cap) (x0 : Nat) (h0 : ws[0]? = some x0) (hx0 : x0 ≠ 0) (ge : Nat) (r3 : RowL w go 28 (redL 0 0 noA 0 0 0 0 0 false)) (r4 : RowL w gh 4 [.bool false]) (hne : go ≠ gl ∧ go ≠ gw ∧ go ≠ bk ∧ 0 < go ∧ gh ≠ gl ∧ gh ≠ gw ∧ gh ≠ bk ∧ 0 < gh ∧ go ≠ gh) (hno : ∀ k n a f t fk tk r d, ¬jHas ws k n a f t fk tk r d li lr) : Calls Tryz.prog 36 #[.pointer (some ⟨gl, 0, none⟩), .pointer (some ⟨gw, 0, none⟩), .pointer (some ⟨go, 0, none⟩), .pointer (some ⟨gh, 0, none⟩)] w fun x w' => x = .panicked (chain1 (jrefV 310)) ∧ Kept (jKW w ge) w w' := by
  have hat : ∀ j, j < 64 → ∃ x, ws[j]? = some x := fun j hj => ⟨_, List.getElem?_eq_getElem (by omega)⟩
  have hm := fun {j x : Nat} (h : ws[j]? = some x) => hwb x (List.mem_of_getElem? h)
  obtain ⟨x1, e1⟩ := hat 1 (by decide)
  obtain ⟨x2, e2⟩ := hat 2 (by decide)
  obtain ⟨x3, e3⟩ := hat 3 (by decide)
  obtain ⟨x4, e4⟩ := hat 4 (by decide)
  obtain ⟨x5, e5⟩ := hat 5 (by decide)
  obtain ⟨x6, e6⟩ := hat 6 (by decide)
  obtain ⟨x7, e7⟩ := hat 7 (by decide)
  have hkc : x0 % 256 = 1 ∨ x0 % 256 = 2 ∨ (x0 % 256 < 1 ∨ 2 < x0 % 256) := by omega
  rcases hkc with hk | hk | hk
  · have hrd := fun W gr gat h1 h2 h3 h4 h5 h6 => readI_any gr gat gw bk off cap ws hws hwb _ e1 W h1 h2 h3 h4 h5 h6
    have hb1 : ∀ x ∈ jsixL (jfill ws 16), x < 18446744073709551616 := by
      intro x hx
      have hx2 : x ∈ (List.range 16).map (fun i => jfill ws 16 i) := hx
      obtain ⟨i, hi, rfl⟩ := List.mem_map.1 hx2
      have hi16 : i < 16 := by simpa using hi
      unfold jfill
      rw [if_pos hi16]
      obtain ⟨y, hy⟩ := hat (2 + i) (by omega)
      rw [hy]
      exact hm hy
    by_cases hok : okJ 1 (smallZ x1) (jfill ws 16) 0 0 0 0 0 false li lr
    · exact jof1_W lb li lr lt k1 k2 la lc ld le gl gw go gh bk off cap ws w hS hl r1 r2 hW hws hwb hcap x0 h0 hx0 1 hk 17 _ _ _ _ jkF_1 rfl (by kernel_rfl) _ _ 0 0 0 0 0 false hrd ge r3 r4 hne hb1 hok (fun he => hno _ _ _ _ _ _ _ _ _ ⟨hok, he⟩)
    · exact jof1_C lb li lr lt k1 k2 la lc ld le gl gw go gh bk off cap ws w hS hl r1 r2 hW hws hwb hcap x0 h0 hx0 1 hk 17 _ _ _ _ jkF_1 rfl (by kernel_rfl) _ _ 0 0 0 0 0 false hrd ge r3 r4 hne hb1 hok
  · have hrd := fun W gr gat h1' h2' h3' h4' h5' h6' => readN_any gr gat gw bk off cap ws _ _ _ _ _ _ _ e1 (hm e1) e2 (hm e2) e3 (hm e3) e4 (hm e4) e5 (hm e5) e6 (hm e6) e7 (hm e7) W h1' h2' h3' h4' h5' h6'
    have hb2 : ∀ x ∈ jsixL noA, x < 18446744073709551616 := by
      intro x hx
      have hx2 : x ∈ (List.range 16).map noA := hx
      obtain ⟨i, hi, rfl⟩ := List.mem_map.1 hx2
      show (0 : Nat) < 18446744073709551616
      decide
    by_cases hok : okJ 2 (smallZ x6) noA (smallZ x1) (smallZ x3) x2 x4 (smallZ x5) (x7 != 0) li lr
    · exact jof1_W lb li lr lt k1 k2 la lc ld le gl gw go gh bk off cap ws w hS hl r1 r2 hW hws hwb hcap x0 h0 hx0 2 hk 7 _ _ _ _ jkF_2 rfl (by kernel_rfl) _ _ _ _ _ _ _ _ hrd ge r3 r4 hne hb2 hok (fun he => hno _ _ _ _ _ _ _ _ _ ⟨hok, he⟩)
    · exact jof1_C lb li lr lt k1 k2 la lc ld le gl gw go gh bk off cap ws w hS hl r1 r2 hW hws hwb hcap x0 h0 hx0 2 hk 7 _ _ _ _ jkF_2 rfl (by kernel_rfl) _ _ _ _ _ _ _ _ hrd ge r3 r4 hne hb2 hok
  · exact jof1_K lb li lr lt k1 k2 la lc ld le gl gw go gh bk off cap ws w hS hl r1 r2 hW hws hwb hcap x0 h0 hx0 _ rfl (jkF_no (by omega)) ge
set_option linter.unusedVariables false
set_option linter.unusedSimpArgs false
set_option maxRecDepth 100000
set_option maxHeartbeats 8000000
section
variable {P : Program} {fn : Func} {R : Ending → World → Prop} {n : Nat} {M : Slots} {w : World} {s y z : Tmp} {t : TypeId} {p : Addr} {u v v2 : Value}
theorem EE.ret3c (h : fn.results = #[.cell s t, .tmp y, .tmp z]) (h0 : M s = some (.pointer (some p))) (h1 : (loadVar t p).run P w = .ok u w) (hy : M y = some v) (hz : M z = some v2) (hR : R (.returned (.tuple #[u, v, v2])) w) : EE (bodyPost P fn R) n [] M .ret w := EE.mk fun a F => ⟨F.defers, _, by
  unfold results
  rw [h]
  have g1 := F.get s _ h0
  have g2 := F.get y _ hy
  have g3 := F.get z _ hz
  simp only [List.mapM_toArray, List.mapM_cons, List.mapM_nil, g1, g2, g3, asAddr]
  simp only [bind_assoc, pure_bind, Sem.run_bind, Sem.run_map, Sem.run_pure, h1, Result.andThen_ok]
  rfl, hR⟩
end
theorem jof_run (lb li lr lt : Int) (k1 k2 : Nat) (la lc ld le : Int) (x : Option Addr) (m c : Nat) (k n : Int) (a : Nat → Nat) (f t : Int) (fk tk : Nat) (r : Int) (d : Bool) (hb : Bool) (w : World) (hS0 : 0 < w.heap.size)
    (hwork : ∀ W gl gw go gh, Below w.heap.size w W → w.heap.size ≤ gl → w.heap.size ≤ gw → w.heap.size ≤ go → w.heap.size ≤ gh → (go ≠ gl ∧ go ≠ gw ∧ gh ≠ gl ∧ gh ≠ gw ∧ go ≠ gh) → RowL W gl 31 (jlyL lb li lr lt k1 k2 la lc ld le) → RowL W gw 33 [.slice x m c] → RowL W go 28 (redL 0 0 noA 0 0 0 0 0 false) → RowL W gh 4 [.bool false] → Calls Tryz.prog 36 #[.pointer (some ⟨gl, 0, none⟩), .pointer (some ⟨gw, 0, none⟩), .pointer (some ⟨go, 0, none⟩), .pointer (some ⟨gh, 0, none⟩)] W fun e W' => e = .returned (.tuple #[]) ∧ RowL W' go 28 (redL k n a f t fk tk r d) ∧ RowL W' gh 4 [.bool hb] ∧ Kept (jK2 W go gh) W W') :
    Calls Tryz.prog 16 #[layV lb li lr lt k1 k2 la lc ld le, .slice x m c] w fun e w' => e = .returned (.tuple #[redV k n a f t fk tk r d, .bool hb, .int .i64 0]) ∧ Below w.heap.size w w' := by
  have q := Below.refl w.heap.size w
  refine X.fn Tryz.func16 rfl (n := 15) rfl rfl ?_
  refine Zr ?_
  refine LL.box (jlyL lb li lr lt k1 k2 la lc ld le) rfl rfl rfl rfl rfl ?_
  intro W2 g3 eg3 r4 z5 b1
  replace q := Zu q b1; have l6 := r4.lt
  refine LL.box [.slice x m c] rfl rfl rfl rfl rfl ?_
  intro W8 g9 eg9 r10 z11 b7
  replace r4 := r4.up b7; replace b1 := Zu b1 b7; replace q := Zu q b7; have l12 := r10.lt; have l13 := r4.lt
  refine LL.alloc ((redL 0 0 noA 0 0 0 0 0 false)) rfl rfl rfl rfl rfl ?_
  intro W15 g16 eg16 r17 z18 b14
  replace r10 := r10.up b14; replace b7 := Zu b7 b14; replace r4 := r4.up b14; replace b1 := Zu b1 b14; replace q := Zu q b14; refine Za ?_; refine Za ?_; refine Zq ?_; refine Zr ?_; have l19 := r17.lt; have l20 := r10.lt; have l21 := r4.lt
  refine LL.alloc ((redL 0 0 noA 0 0 0 0 0 false)) rfl rfl rfl rfl rfl ?_
  intro W23 g24 eg24 r25 z26 b22
  replace r17 := r17.up b22; replace b14 := Zu b14 b22; replace r10 := r10.up b22; replace b7 := Zu b7 b22; replace r4 := r4.up b22; replace b1 := Zu b1 b22; replace q := Zu q b22; refine Zq ?_; refine Zr ?_; have l27 := r25.lt; have l28 := r17.lt; have l29 := r10.lt; have l30 := r4.lt
  refine LL.alloc ([.bool false]) rfl rfl rfl rfl rfl ?_
  intro W32 g33 eg33 r34 z35 b31
  replace r25 := r25.up b31; replace b22 := Zu b22 b31; replace r17 := r17.up b31; replace b14 := Zu b14 b31; replace r10 := r10.up b31; replace b7 := Zu b7 b31; replace r4 := r4.up b31; replace b1 := Zu b1 b31; replace q := Zu q b31
  refine LL.store rfl rfl rfl rfl r34 (by exact Nat.le_of_ble_eq_true rfl) rfl rfl rfl rfl ?_
  intro W37 r38 b36 z39
  have hlb36 := r34.lt
  replace r38 : RowL W37 _ 4 [.bool false] := r38
  clear r34
  replace b31 := Zg b31 b36; replace r25 := Zd r25 b36; replace b22 := Zg b22 b36; replace r17 := Zd r17 b36; replace b14 := Zg b14 b36; replace r10 := Zd r10 b36; replace b7 := Zg b7 b36; replace r4 := Zd r4 b36; replace b1 := Zg b1 b36; replace q := Zg q b36
  have r34 := r38
  clear r38
  refine Zq ?_; refine Zr ?_
  refine LL.val (R.func rfl rfl rfl) rfl rfl rfl ?_
  (have lg4 := r4.lt; have lg10 := r10.lt; have lg25 := r25.lt; have lg34 := r34.lt; have r25n : RowL _ g24 28 (redL 0 0 noA 0 0 0 0 0 false) := r25; refine Zy (R.call rfl rfl rfl) (jguarded_R2 _ [.pointer (some ⟨g3, 0, none⟩), .pointer (some ⟨g9, 0, none⟩), .pointer (some ⟨g24, 0, none⟩), .pointer (some ⟨g33, 0, none⟩)] (by kernel_rfl) g24 g33 (fun n' X => RowL X g24 28 (redL k n a f t fk tk r d) ∧ RowL X g33 4 [.bool hb]) _ (by omega) (by omega) (fun n' X Y b' ⟨h1, h2⟩ hb1 hb2 hg => ⟨h1.gr hg (by omega), h2.gr hg (by omega)⟩) (fun W' b' => (hwork W' g3 g9 g24 g33 (q.trans (b'.mono q.size)) (by omega) (by omega) (by omega) (by omega) ⟨by omega, by omega, by omega, by omega, by omega⟩ (r4.up b') (r10.up b') (r25n.up b') (r34.up b')).mono fun e W2 ⟨he, h1, h2, h3⟩ => ⟨he, ⟨h1, h2⟩, h3⟩)) ?_; rintro e W90 ⟨rfl, ⟨n9, hn9, r91, r92⟩, t9⟩; refine ⟨_, rfl, ?_⟩; replace q := t9.onB q (fun j hj => ⟨by omega, by omega, by omega⟩); replace r17 := r17.kept t9 ⟨by omega, by omega, by omega⟩; clear r4 b1 r10 b7 b14 r25 r25n b22 r34 b31)
  refine Za ?_; refine Zq ?_; refine Zc ?_
  refine CC.freeZ (fun W_ j => j < W_.heap.size ∧ (j ≠ g16)) (by kernel_rfl) (by kernel_rfl) (fun W41 b40 z42 => ?_)
  replace r91 := r91.up b40; replace r92 := r92.up b40; replace q := Zu q b40; replace r17 := r17.up b40
  have hok : Kept (fun j => j < W41.heap.size ∧ (j ≠ g16)) W41 W41 := Kept.refl _ _
  have fzr91 := fzRow (K := fun j => j < W41.heap.size ∧ (j ≠ g16)) r91 ⟨r91.lt, (by first | trivial | omega)⟩
  have fzr92 := fzRow (K := fun j => j < W41.heap.size ∧ (j ≠ g16)) r92 ⟨r92.lt, (by first | trivial | omega)⟩
  refine AA.pure 0 rfl hok (by kernel_rfl) (fun w' b' => R.load rfl rfl (I.ldNc (vs := [Value.int IntKind.i64 k, Value.int IntKind.i64 n, Value.int IntKind.u64 ↑(a 0), Value.int IntKind.u64 ↑(a 1), Value.int IntKind.u64 ↑(a 2), Value.int IntKind.u64 ↑(a 3), Value.int IntKind.u64 ↑(a 4), Value.int IntKind.u64 ↑(a 5), Value.int IntKind.u64 ↑(a 6), Value.int IntKind.u64 ↑(a 7), Value.int IntKind.u64 ↑(a 8), Value.int IntKind.u64 ↑(a 9), Value.int IntKind.u64 ↑(a 10), Value.int IntKind.u64 ↑(a 11), Value.int IntKind.u64 ↑(a 12), Value.int IntKind.u64 ↑(a 13), Value.int IntKind.u64 ↑(a 14), Value.int IntKind.u64 ↑(a 15), Value.int IntKind.i64 f, Value.int IntKind.i64 t, Value.int IntKind.u64 ↑fk, Value.int IntKind.u64 ↑tk, Value.int IntKind.i64 r, Value.bool d]) (RowL.cells (fzr91 w' b') rfl) (by rfl) (by rfl))) rfl rfl ?_
  refine AA.pure 1 rfl hok (by kernel_rfl) (fun w' b' => R.load rfl rfl (I.ld1 rfl (RowL.cell (fzr92 w' b') rfl))) rfl rfl ?_
  refine AA.pure 2 rfl hok (by kernel_rfl) (fun w' b' => R.move rfl rfl) rfl rfl ?_
  refine AA.one 3 (by kernel_rfl) ?_
  refine ZR.storeN (vs := (redL k n a f t fk tk r d)) rfl rfl rfl rfl rfl r17 (by exact Nat.le_of_ble_eq_true rfl) (ones_of rfl) rfl rfl ?_
  intro W44 r45 b43 z46
  have hlb43 := r17.lt
  replace r45 : RowL W44 _ 28 (redL k n a f t fk tk r d) := r45
  clear r17
  replace r91 := Zd r91 b43; replace r92 := Zd r92 b43; replace q := Zg q b43; replace hok := Zo hok b43
  have r17 := r45
  clear r45
  refine ⟨hok, ?_⟩
  refine AA.pure 4 rfl hok (by kernel_rfl) (fun w' b' => R.assign rfl rfl) rfl rfl ?_
  refine AA.pure 5 rfl hok (by kernel_rfl) (fun w' b' => R.assign rfl rfl) rfl rfl ?_
  refine AA.done rfl ?_
  clear fzr91 fzr92 hok
  refine ZT ?_; refine ZR ?_
  exact EE.ret3c rfl rfl (lvNc (RowL.cells0 r17) (by rfl) (by rfl)) rfl rfl ⟨rfl, q⟩
theorem jof_pan (lb li lr lt : Int) (k1 k2 : Nat) (la lc ld le : Int) (x : Option Addr) (m c : Nat) (ec : Int) (w : World)
    (hwork : ∀ W gl gw go gh ge, Below w.heap.size w W → RowL W gl 31 (jlyL lb li lr lt k1 k2 la lc ld le) → RowL W gw 33 [.slice x m c] → RowL W go 28 (redL 0 0 noA 0 0 0 0 0 false) → RowL W gh 4 [.bool false] → (w.heap.size ≤ go ∧ w.heap.size ≤ gh ∧ go ≠ gl ∧ go ≠ gw ∧ gh ≠ gl ∧ gh ≠ gw ∧ go ≠ gh) → Calls Tryz.prog 36 #[.pointer (some ⟨gl, 0, none⟩), .pointer (some ⟨gw, 0, none⟩), .pointer (some ⟨go, 0, none⟩), .pointer (some ⟨gh, 0, none⟩)] W fun e W' => e = .panicked (chain1 (jrefV ec)) ∧ Kept (jKW W ge) W W') :
    Calls Tryz.prog 16 #[layV lb li lr lt k1 k2 la lc ld le, .slice x m c] w fun e w' => e = .returned (.tuple #[redV 0 0 noA 0 0 0 0 0 false, .bool false, .int .i64 ec]) ∧ Below w.heap.size w w' := by
  have q := Below.refl w.heap.size w
  refine X.fn Tryz.func16 rfl (n := 15) rfl rfl ?_
  refine Zr ?_
  refine LL.box (jlyL lb li lr lt k1 k2 la lc ld le) rfl rfl rfl rfl rfl ?_
  intro W2 g3 eg3 r4 z5 b1
  replace q := Zu q b1; have l6 := r4.lt
  refine LL.box [.slice x m c] rfl rfl rfl rfl rfl ?_
  intro W8 g9 eg9 r10 z11 b7
  replace r4 := r4.up b7; replace b1 := Zu b1 b7; replace q := Zu q b7; have l12 := r10.lt; have l13 := r4.lt
  refine LL.alloc ((redL 0 0 noA 0 0 0 0 0 false)) rfl rfl rfl rfl rfl ?_
  intro W15 g16 eg16 r17 z18 b14
  replace r10 := r10.up b14; replace b7 := Zu b7 b14; replace r4 := r4.up b14; replace b1 := Zu b1 b14; replace q := Zu q b14; refine Za ?_; refine Za ?_; refine Zq ?_; refine Zr ?_; have l19 := r17.lt; have l20 := r10.lt; have l21 := r4.lt
  refine LL.alloc ((redL 0 0 noA 0 0 0 0 0 false)) rfl rfl rfl rfl rfl ?_
  intro W23 g24 eg24 r25 z26 b22
  replace r17 := r17.up b22; replace b14 := Zu b14 b22; replace r10 := r10.up b22; replace b7 := Zu b7 b22; replace r4 := r4.up b22; replace b1 := Zu b1 b22; replace q := Zu q b22; refine Zq ?_; refine Zr ?_; have l27 := r25.lt; have l28 := r17.lt; have l29 := r10.lt; have l30 := r4.lt
  refine LL.alloc ([.bool false]) rfl rfl rfl rfl rfl ?_
  intro W32 g33 eg33 r34 z35 b31
  replace r25 := r25.up b31; replace b22 := Zu b22 b31; replace r17 := r17.up b31; replace b14 := Zu b14 b31; replace r10 := r10.up b31; replace b7 := Zu b7 b31; replace r4 := r4.up b31; replace b1 := Zu b1 b31; replace q := Zu q b31
  refine LL.store rfl rfl rfl rfl r34 (by exact Nat.le_of_ble_eq_true rfl) rfl rfl rfl rfl ?_
  intro W37 r38 b36 z39
  have hlb36 := r34.lt
  replace r38 : RowL W37 _ 4 [.bool false] := r38
  clear r34
  replace b31 := Zg b31 b36; replace r25 := Zd r25 b36; replace b22 := Zg b22 b36; replace r17 := Zd r17 b36; replace b14 := Zg b14 b36; replace r10 := Zd r10 b36; replace b7 := Zg b7 b36; replace r4 := Zd r4 b36; replace b1 := Zg b1 b36; replace q := Zg q b36
  have r34 := r38
  clear r38
  refine Zq ?_; refine Zr ?_
  refine LL.val (R.func rfl rfl rfl) rfl rfl rfl ?_
  (have lg4 := r4.lt; have lg10 := r10.lt; have lg25 := r25.lt; have lg34 := r34.lt; have r25n : RowL _ g24 28 (redL 0 0 noA 0 0 0 0 0 false) := r25; refine Zy (R.call rfl rfl rfl) (jguarded_P ec _ [.pointer (some ⟨g3, 0, none⟩), .pointer (some ⟨g9, 0, none⟩), .pointer (some ⟨g24, 0, none⟩), .pointer (some ⟨g33, 0, none⟩)] (by kernel_rfl) g3 _ (by omega) (fun W' b' => hwork W' g3 g9 g24 g33 g3 (q.trans (b'.mono q.size)) (r4.up b') (r10.up b') (r25n.up b') (r34.up b') ⟨by omega, by omega, by omega, by omega, by omega, by omega, by omega⟩)) ?_; rintro e W90 ⟨rfl, t9⟩; refine ⟨_, rfl, ?_⟩; replace q := t9.onB q (fun j hj => ⟨by omega, by omega⟩); replace r17 := r17.kept t9 ⟨by omega, by omega⟩; replace r25 := r25.kept t9 ⟨by omega, by omega⟩; replace r34 := r34.kept t9 ⟨by omega, by omega⟩; clear r4 b1 r10 b7 b14 r25n b22 b31)
  refine Za ?_; refine Zq ?_; refine Zc ?_
  refine CC.freeZ (fun W_ j => j < W_.heap.size ∧ (j ≠ g16)) (by kernel_rfl) (by kernel_rfl) (fun W41 b40 z42 => ?_)
  replace q := Zu q b40; replace r17 := r17.up b40; replace r25 := r25.up b40; replace r34 := r34.up b40
  have hok : Kept (fun j => j < W41.heap.size ∧ (j ≠ g16)) W41 W41 := Kept.refl _ _
  have fzr25 := fzRow (K := fun j => j < W41.heap.size ∧ (j ≠ g16)) r25 ⟨r25.lt, (by first | trivial | omega)⟩
  have fzr34 := fzRow (K := fun j => j < W41.heap.size ∧ (j ≠ g16)) r34 ⟨r34.lt, (by first | trivial | omega)⟩
  refine AA.pure 0 rfl hok (by kernel_rfl) (fun w' b' => R.load rfl rfl (I.ldNc (vs := [Value.int IntKind.i64 0, Value.int IntKind.i64 0, Value.int IntKind.u64 0, Value.int IntKind.u64 0, Value.int IntKind.u64 0, Value.int IntKind.u64 0, Value.int IntKind.u64 0, Value.int IntKind.u64 0, Value.int IntKind.u64 0, Value.int IntKind.u64 0, Value.int IntKind.u64 0, Value.int IntKind.u64 0, Value.int IntKind.u64 0, Value.int IntKind.u64 0, Value.int IntKind.u64 0, Value.int IntKind.u64 0, Value.int IntKind.u64 0, Value.int IntKind.u64 0, Value.int IntKind.i64 0, Value.int IntKind.i64 0, Value.int IntKind.u64 0, Value.int IntKind.u64 0, Value.int IntKind.i64 0, Value.bool false]) (RowL.cells (fzr25 w' b') rfl) (by rfl) (by rfl))) rfl rfl ?_
  refine AA.pure 1 rfl hok (by kernel_rfl) (fun w' b' => R.load rfl rfl (I.ld1 rfl (RowL.cell (fzr34 w' b') rfl))) rfl rfl ?_
  refine AA.pure 2 rfl hok (by kernel_rfl) (fun w' b' => R.move rfl rfl) rfl rfl ?_
  refine AA.one 3 (by kernel_rfl) ?_
  refine ZR.storeN (vs := (redL 0 0 noA 0 0 0 0 0 false)) rfl rfl rfl rfl rfl r17 (by exact Nat.le_of_ble_eq_true rfl) (ones_of rfl) rfl rfl ?_
  intro W44 r45 b43 z46
  have hlb43 := r17.lt
  replace r45 : RowL W44 _ 28 (redL 0 0 noA 0 0 0 0 0 false) := r45
  clear r17
  replace q := Zg q b43; replace r25 := Zd r25 b43; replace r34 := Zd r34 b43; replace hok := Zo hok b43
  have r17 := r45
  clear r45
  refine ⟨hok, ?_⟩
  refine AA.pure 4 rfl hok (by kernel_rfl) (fun w' b' => R.assign rfl rfl) rfl rfl ?_
  refine AA.pure 5 rfl hok (by kernel_rfl) (fun w' b' => R.assign rfl rfl) rfl rfl ?_
  refine AA.done rfl ?_
  clear fzr25 fzr34 hok
  refine ZT ?_; refine ZR ?_
  exact EE.ret3c rfl rfl (lvNc (RowL.cells0 r17) (by rfl) (by rfl)) rfl rfl ⟨rfl, q⟩
theorem reads_wdsN {a : Option Addr} {N cap : Nat} {ws : List Nat} {w : World} (h : Reads w (.slice a N cap) (ints .u64 ws)) (hl : ws.length = N) (hN : 0 < N) : ∃ bk off, a = some ⟨bk, off, none⟩ ∧ WdsAt w bk off ws ∧ N ≤ cap := by
  obtain ⟨h1, h2, h3⟩ := h.at
  obtain ⟨b, off, rfl, hlt, hc⟩ := h3 hN
  refine ⟨b, off, rfl, ⟨fun j x hj => ?_, hlt⟩, h2⟩
  have hj2 : j < N := by rw [← hl]; exact (List.getElem?_eq_some_iff.1 hj).1
  have h4 := hc j hj2
  have h5 : (ints .u64 ws)[j]? = some (.int .u64 (x : Int)) := by simp [ints, hj]
  rw [h4, List.getD_eq_getElem?_getD, h5]
  rfl
theorem jOf_yes (lb li lr lt : Int) (k1 k2 : Nat) (la lc ld le : Int) (x : Option Addr) (c : Nat) (ws : List Nat) (k n : Int) (a : Nat → Nat) (f t : Int) (fk tk : Nat) (r : Int) (d : Bool) (w : World) (hS : Start w) (hl : isL lb li lr lt la lc ld le) (hv : Reads w (.slice x 64 c) (ints .u64 ws)) (hws : ws.length = 64) (hwb : ∀ x ∈ ws, x < 18446744073709551616) (hb : ∀ x ∈ jsixL a, x < 18446744073709551616) (hh : jHas ws k n a f t fk tk r d li lr) : Calls Tryz.prog 16 #[layV lb li lr lt k1 k2 la lc ld le, .slice x 64 c] w fun e w' => e = .returned (.tuple #[redV k n a f t fk tk r d, .bool true, .int .i64 0]) ∧ Below w.heap.size w w' := by
  obtain ⟨bk, off, rfl, hW, hc⟩ := reads_wdsN hv hws (by decide)
  have lbk := hW.lt
  have hS0 := hS.pos
  exact jof_run lb li lr lt k1 k2 la lc ld le _ 64 c k n a f t fk tk r d true w hS0 fun W gl gw go gh b h1 h2 h3 h4 hne r1 r2 r3 r4 => jof1_yes lb li lr lt k1 k2 la lc ld le gl gw go gh bk off c ws W (hS.up b) hl r1 r2 (hW.up b) hws hwb hc k n a f t fk tk r d hb hh r3 r4 (by omega)
theorem jOf_0 (lb li lr lt : Int) (k1 k2 : Nat) (la lc ld le : Int) (x : Option Addr) (c : Nat) (ws : List Nat) (w : World) (hS : Start w) (hl : isL lb li lr lt la lc ld le) (hv : Reads w (.slice x 64 c) (ints .u64 ws)) (hws : ws.length = 64) (h0 : ws[0]? = some 0) : Calls Tryz.prog 16 #[layV lb li lr lt k1 k2 la lc ld le, .slice x 64 c] w fun e w' => e = .returned (.tuple #[redV 0 0 noA 0 0 0 0 0 false, .bool false, .int .i64 0]) ∧ Below w.heap.size w w' := by
  obtain ⟨bk, off, rfl, hW, hc⟩ := reads_wdsN hv hws (by decide)
  have lbk := hW.lt
  have hS0 := hS.pos
  exact jof_run lb li lr lt k1 k2 la lc ld le _ 64 c 0 0 noA 0 0 0 0 0 false false w hS0 fun W gl gw go gh b h1 h2 h3 h4 hne r1 r2 r3 r4 => (jof1_0 lb li lr lt k1 k2 la lc ld le gl gw go gh bk off c ws W hl r1 r2 (hW.up b) hc h0).mono fun e W' ⟨he, hb⟩ => ⟨he, r3.up hb, r4.up hb, bkept hb (fun _ hj => hj.1)⟩
theorem jOf_no (lb li lr lt : Int) (k1 k2 : Nat) (la lc ld le : Int) (x : Option Addr) (c : Nat) (ws : List Nat) (w : World) (hS : Start w) (hl : isL lb li lr lt la lc ld le) (hv : Reads w (.slice x 64 c) (ints .u64 ws)) (hws : ws.length = 64) (hwb : ∀ x ∈ ws, x < 18446744073709551616) (x0 : Nat) (h0 : ws[0]? = some x0) (hx0 : x0 ≠ 0) (hno : ∀ k n a f t fk tk r d, ¬jHas ws k n a f t fk tk r d li lr) : Calls Tryz.prog 16 #[layV lb li lr lt k1 k2 la lc ld le, .slice x 64 c] w fun e w' => e = .returned (.tuple #[redV 0 0 noA 0 0 0 0 0 false, .bool false, .int .i64 310]) ∧ Below w.heap.size w w' := by
  obtain ⟨bk, off, rfl, hW, hc⟩ := reads_wdsN hv hws (by decide)
  have lbk := hW.lt
  have hS0 := hS.pos
  exact jof_pan lb li lr lt k1 k2 la lc ld le _ 64 c 310 w fun W gl gw go gh ge b r1 r2 r3 r4 hn => jof1_nono lb li lr lt k1 k2 la lc ld le gl gw go gh bk off c ws W (hS.up b) hl r1 r2 (hW.up b) hws hwb hc x0 h0 hx0 ge r3 r4 (by omega) hno
theorem num_any (a : Int) (w : World) : Calls Tryz.prog 11 #[.int .i64 a] w fun e w' => e = .returned (.int .i64 a) ∧ w = w' := by
  refine X.fn Tryz.func11 rfl (n := 4) rfl rfl ?_
  refine Zr ?_; refine Za ?_; refine Zq ?_; refine Zr ?_; refine Zm ?_; refine Za ?_; refine Zq ?_; refine ZR ?_; refine EE.ret _ rfl rfl ?_
  exact ⟨rfl, rfl⟩
--C ref13_Of | ly_rof_T _ _ _ _ _ _ @w @p | ⟨rfl, @b⟩
--C ref13_Of | ly_rof_F _ _ _ _ _ _ @w @p | ⟨rfl, @b⟩
theorem jhome_any (w : World) : Calls Tryz.prog 35 #[] w fun x w' => x = .returned (layV 32 8 16 8 1 2 9 11 15 16) ∧ Below w.heap.size w w' := by
  have q := Below.refl w.heap.size w
  refine X.fn Tryz.func35 rfl (n := 10) rfl rfl ?_
  refine Zr ?_
  refine LL.alloc ([.int .i64 0, .int .i64 0, .int .i64 0, .int .i64 0, .int .u64 0, .int .u64 0, .int .i64 0, .int .i64 0, .int .i64 0, .int .i64 0]) rfl rfl rfl rfl rfl ?_
  intro W2 g3 eg3 r4 z5 b1
  replace q := Zu q b1; refine Zq ?_; refine Zr ?_
  refine LL.val (R.buildV rfl rfl (v := .agg #[Value.int IntKind.i64 32, Value.int IntKind.i64 8, Value.int IntKind.i64 16, Value.int IntKind.i64 8]) (fun _ => by kernel_rfl)) rfl rfl rfl ?_
  refine LL.val (R.buildV rfl rfl (v := .agg #[Value.int IntKind.u64 1, Value.int IntKind.u64 2]) (fun _ => by kernel_rfl)) rfl rfl rfl ?_
  refine Zy (R.call rfl rfl rfl) (ly_rof_T _ _ _ _ _ _ _ (by first | assumption | omega)) ?_
  rintro e W7 ⟨rfl, b6⟩
  refine ⟨_, rfl, ?_⟩; have zb6 := b6.size; replace r4 := r4.up b6; replace q := Zu q b6; refine Zm ?_; refine Zx ?_; refine Zx ?_; have l9 := r4.lt
  refine LL.alloc ([.int .i64 0, .int .i64 0, .int .i64 0, .int .i64 0, .int .u64 0, .int .u64 0, .int .i64 0, .int .i64 0, .int .i64 0, .int .i64 0]) rfl rfl rfl rfl rfl ?_
  intro W11 g12 eg12 r13 z14 b10
  replace r4 := r4.up b10; replace q := Zu q b10
  refine LL.storeN (vs := [.int .i64 32, .int .i64 8, .int .i64 16, .int .i64 8, .int .u64 ↑1, .int .u64 ↑2, .int .i64 9, .int .i64 (9 + 8 / 4), .int .i64 (9 + 8 / 4 + 16 / 4), .int .i64 (10 + 8 / 4 + 16 / 4)]) rfl rfl rfl rfl r13 (by exact Nat.le_of_ble_eq_true rfl) (ones_of rfl) rfl rfl ?_
  intro W16 r17 b15 z18
  have hlb15 := r13.lt
  replace r17 : RowL W16 _ 31 [.int .i64 32, .int .i64 8, .int .i64 16, .int .i64 8, .int .u64 ↑1, .int .u64 ↑2, .int .i64 9, .int .i64 (9 + 8 / 4), .int .i64 (9 + 8 / 4 + 16 / 4), .int .i64 (10 + 8 / 4 + 16 / 4)] := r17
  clear r13
  replace r4 := Zd r4 b15; replace q := Zg q b15
  have r13 := r17
  clear r17
  refine Za ?_; refine Zq ?_; refine Zr ?_; refine Zv r13 ?_
  refine LL.storeN (vs := [.int .i64 32, .int .i64 8, .int .i64 16, .int .i64 8, .int .u64 1, .int .u64 2, .int .i64 9, .int .i64 (9 + 8 / 4), .int .i64 (9 + 8 / 4 + 16 / 4), .int .i64 (10 + 8 / 4 + 16 / 4)]) rfl rfl rfl rfl r4 (by exact Nat.le_of_ble_eq_true rfl) (ones_of rfl) rfl rfl ?_
  intro W20 r21 b19 z22
  have hlb19 := r4.lt
  replace r21 : RowL W20 _ 31 [.int .i64 32, .int .i64 8, .int .i64 16, .int .i64 8, .int .u64 1, .int .u64 2, .int .i64 9, .int .i64 (9 + 8 / 4), .int .i64 (9 + 8 / 4 + 16 / 4), .int .i64 (10 + 8 / 4 + 16 / 4)] := r21
  clear r4
  replace q := Zg q b19; replace r13 := Zd r13 b19
  have r4 := r21
  clear r21
  refine Zq ?_; refine ZR ?_
  refine EE.retC rfl rfl (lvNc (RowL.cells0 (by assumption)) (by rfl) (by rfl)) ?_
  exact ⟨rfl, q⟩
theorem jhome_is : isL 32 8 16 8 9 11 15 16 := by decide
theorem jlaw_T (b i r t : Int) (w : World) (h : ly_okF b i r t) : Calls Tryz.prog 8 #[formV b i r t, .bool false] w fun x w' => x = .returned (layV b i r t 3 4 9 (9 + i / 4) (9 + i / 4 + r / 4) (10 + i / 4 + r / 4)) ∧ Below w.heap.size w w' := by
  have q := Below.refl w.heap.size w
  refine X.fn Tryz.func8 rfl (n := 19) rfl rfl ?_
  refine Zr ?_
  refine LL.box [.int .i64 b, .int .i64 i, .int .i64 r, .int .i64 t] rfl rfl rfl rfl rfl ?_
  intro W2 g3 eg3 r4 z5 b1
  replace q := Zu q b1; have l6 := r4.lt
  refine LL.alloc ([.int .i64 0, .int .i64 0, .int .i64 0, .int .i64 0, .int .u64 0, .int .u64 0, .int .i64 0, .int .i64 0, .int .i64 0, .int .i64 0]) rfl rfl rfl rfl rfl ?_
  intro W8 g9 eg9 r10 z11 b7
  replace r4 := r4.up b7; replace q := Zu q b7; refine Zq ?_; refine Zr ?_; refine Zv r4 ?_
  refine LL.val (R.buildV rfl rfl (v := .agg #[Value.int IntKind.u64 3, Value.int IntKind.u64 4]) (fun _ => by kernel_rfl)) rfl rfl rfl ?_
  refine Zy (R.call rfl rfl rfl) (ly_rof_T _ _ _ _ _ _ _ (by first | assumption | omega)) ?_
  rintro e W13 ⟨rfl, b12⟩
  refine ⟨_, rfl, ?_⟩; have zb12 := b12.size; replace r10 := r10.up b12; replace r4 := r4.up b12; replace q := Zu q b12; refine Zm ?_; refine Zx ?_; refine Zx ?_; have l15 := r10.lt; have l16 := r4.lt
  refine LL.alloc ([.int .i64 0, .int .i64 0, .int .i64 0, .int .i64 0, .int .u64 0, .int .u64 0, .int .i64 0, .int .i64 0, .int .i64 0, .int .i64 0]) rfl rfl rfl rfl rfl ?_
  intro W18 g19 eg19 r20 z21 b17
  replace r10 := r10.up b17; replace r4 := r4.up b17; replace q := Zu q b17
  refine LL.storeN (vs := [.int .i64 b, .int .i64 i, .int .i64 r, .int .i64 t, .int .u64 ↑3, .int .u64 ↑4, .int .i64 9, .int .i64 (9 + i / 4), .int .i64 (9 + i / 4 + r / 4), .int .i64 (10 + i / 4 + r / 4)]) rfl rfl rfl rfl r20 (by exact Nat.le_of_ble_eq_true rfl) (ones_of rfl) rfl rfl ?_
  intro W23 r24 b22 z25
  have hlb22 := r20.lt
  replace r24 : RowL W23 _ 31 [.int .i64 b, .int .i64 i, .int .i64 r, .int .i64 t, .int .u64 ↑3, .int .u64 ↑4, .int .i64 9, .int .i64 (9 + i / 4), .int .i64 (9 + i / 4 + r / 4), .int .i64 (10 + i / 4 + r / 4)] := r24
  clear r20
  replace r10 := Zd r10 b22; replace r4 := Zd r4 b22; replace q := Zg q b22
  have r20 := r24
  clear r24
  refine Za ?_; refine Zq ?_; refine Zc ?_; refine Zr ?_; refine Zm ?_; refine Zq ?_; refine ZN ?_; refine ZK ?_; refine ZT ?_; refine Zr ?_; refine Zv r20 ?_
  refine LL.storeN (vs := [.int .i64 b, .int .i64 i, .int .i64 r, .int .i64 t, .int .u64 3, .int .u64 4, .int .i64 9, .int .i64 (9 + i / 4), .int .i64 (9 + i / 4 + r / 4), .int .i64 (10 + i / 4 + r / 4)]) rfl rfl rfl rfl r10 (by exact Nat.le_of_ble_eq_true rfl) (ones_of rfl) rfl rfl ?_
  intro W27 r28 b26 z29
  have hlb26 := r10.lt
  replace r28 : RowL W27 _ 31 [.int .i64 b, .int .i64 i, .int .i64 r, .int .i64 t, .int .u64 3, .int .u64 4, .int .i64 9, .int .i64 (9 + i / 4), .int .i64 (9 + i / 4 + r / 4), .int .i64 (10 + i / 4 + r / 4)] := r28
  clear r10
  replace r4 := Zd r4 b26; replace q := Zg q b26; replace r20 := Zd r20 b26
  have r10 := r28
  clear r28
  refine Zq ?_; refine ZR ?_
  refine EE.retC rfl rfl (lvNc (RowL.cells0 (by assumption)) (by rfl) (by rfl)) ?_
  exact ⟨rfl, q⟩
theorem jlaw_Fx (b i r t : Int) (w : World) (h : ¬ly_okF b i r t) : Calls Tryz.prog 8 #[formV b i r t, .bool false] w fun x w' => x = .returned (layV 0 0 0 0 0 0 0 0 0 0) ∧ Below w.heap.size w w' := by
  have q := Below.refl w.heap.size w
  refine X.fn Tryz.func8 rfl (n := 19) rfl rfl ?_
  refine Zr ?_
  refine LL.box [.int .i64 b, .int .i64 i, .int .i64 r, .int .i64 t] rfl rfl rfl rfl rfl ?_
  intro W2 g3 eg3 r4 z5 b1
  replace q := Zu q b1; have l6 := r4.lt
  refine LL.alloc ([.int .i64 0, .int .i64 0, .int .i64 0, .int .i64 0, .int .u64 0, .int .u64 0, .int .i64 0, .int .i64 0, .int .i64 0, .int .i64 0]) rfl rfl rfl rfl rfl ?_
  intro W8 g9 eg9 r10 z11 b7
  replace r4 := r4.up b7; replace q := Zu q b7; refine Zq ?_; refine Zr ?_; refine Zv r4 ?_
  refine LL.val (R.buildV rfl rfl (v := .agg #[Value.int IntKind.u64 3, Value.int IntKind.u64 4]) (fun _ => by kernel_rfl)) rfl rfl rfl ?_
  refine Zy (R.call rfl rfl rfl) (ly_rof_F _ _ _ _ _ _ _ (by first | assumption | omega)) ?_
  rintro e W13 ⟨rfl, b12⟩
  refine ⟨_, rfl, ?_⟩; have zb12 := b12.size; replace r10 := r10.up b12; replace r4 := r4.up b12; replace q := Zu q b12; refine Zm ?_; refine Zx ?_; refine Zx ?_; have l15 := r10.lt; have l16 := r4.lt
  refine LL.alloc ([.int .i64 0, .int .i64 0, .int .i64 0, .int .i64 0, .int .u64 0, .int .u64 0, .int .i64 0, .int .i64 0, .int .i64 0, .int .i64 0]) rfl rfl rfl rfl rfl ?_
  intro W18 g19 eg19 r20 z21 b17
  replace r10 := r10.up b17; replace r4 := r4.up b17; replace q := Zu q b17
  refine LL.storeN (vs := [.int .i64 0, .int .i64 0, .int .i64 0, .int .i64 0, .int .u64 ↑0, .int .u64 ↑0, .int .i64 0, .int .i64 0, .int .i64 0, .int .i64 0]) rfl rfl rfl rfl r20 (by exact Nat.le_of_ble_eq_true rfl) (ones_of rfl) rfl rfl ?_
  intro W23 r24 b22 z25
  have hlb22 := r20.lt
  replace r24 : RowL W23 _ 31 [.int .i64 0, .int .i64 0, .int .i64 0, .int .i64 0, .int .u64 ↑0, .int .u64 ↑0, .int .i64 0, .int .i64 0, .int .i64 0, .int .i64 0] := r24
  clear r20
  replace r10 := Zd r10 b22; replace r4 := Zd r4 b22; replace q := Zg q b22
  have r20 := r24
  clear r24
  refine Za ?_; refine Zq ?_; refine Zc ?_; refine Zr ?_; refine Zm ?_; refine Zq ?_; refine ZN ?_; refine ZK ?_; refine ZT ?_; refine Zr ?_; refine Zv r20 ?_
  refine LL.storeN (vs := [.int .i64 0, .int .i64 0, .int .i64 0, .int .i64 0, .int .u64 0, .int .u64 0, .int .i64 0, .int .i64 0, .int .i64 0, .int .i64 0]) rfl rfl rfl rfl r10 (by exact Nat.le_of_ble_eq_true rfl) (ones_of rfl) rfl rfl ?_
  intro W27 r28 b26 z29
  have hlb26 := r10.lt
  replace r28 : RowL W27 _ 31 [.int .i64 0, .int .i64 0, .int .i64 0, .int .i64 0, .int .u64 0, .int .u64 0, .int .i64 0, .int .i64 0, .int .i64 0, .int .i64 0] := r28
  clear r10
  replace r4 := Zd r4 b26; replace q := Zg q b26; replace r20 := Zd r20 b26
  have r10 := r28
  clear r28
  refine Zq ?_; refine ZR ?_
  refine EE.retC rfl rfl (lvNc (RowL.cells0 (by assumption)) (by rfl) (by rfl)) ?_
  exact ⟨rfl, q⟩
theorem psame_T (ps : List Pt) (v1 v2 : Value) (w : World) (h1 : ReadsT pE 2 w v1 ps) (h2 : ReadsT pE 2 w v2 ps) (hl : ps.length ≤ 1048576) : Calls Tryz.prog 21 #[v1, v2] w fun e w' => e = .returned (.bool true) ∧ Below w.heap.size w w' := by
  have q := Below.refl w.heap.size w
  obtain ⟨N, hN⟩ : ∃ N, ps.length = N := ⟨_, rfl⟩
  obtain ⟨a1, k1, rfl, _⟩ := h1.form hN
  obtain ⟨a2, k2, rfl, _⟩ := h2.form hN
  have h1F := fun X (b : Below w.heap.size w X) => h1.up b
  have h2F := fun X (b : Below w.heap.size w X) => h2.up b
  clear h1 h2
  refine X.fn Tryz.func21 rfl (n := 26) rfl rfl ?_
  refine Zr ?_; refine Za ?_; refine Zq ?_; refine Zc ?_; refine Zr ?_; refine Zm ?_; refine Zn ?_; refine Zm ?_; refine Zn ?_; refine ZneF ?_; refine Zq ?_; refine ZN ?_; refine ZK ?_; refine ZT ?_; refine Zc ?_; refine Zr ?_; refine Za ?_; refine Zq ?_; refine CC.block ?_
  refine CC.loop (α := Nat) (fun i => [(0, .slice a1 N k1), (1, .slice a2 N k2), (5, .int .i64 (i : Int))]) (fun i W => i ≤ N ∧ Below w.heap.size w W) (fun i => N - i) 0 ⟨rfl, rfl, rfl, trivial⟩ ⟨Nat.zero_le _, q⟩ ?_
  clear q
  rintro i W ⟨hi, q⟩
  show CC none Tryz.prog _ 26 [] (sl [(0, .slice a1 N k1), (1, .slice a2 N k2), (5, .int .i64 (i : Int))]) _ W
  by_cases hlt : i < N
  case neg =>
    refine Zc ?_; refine Zr ?_; refine Zm ?_; refine Zm ?_; refine Zn ?_; refine ZltF ?_; refine Zq ?_; refine ZN ?_; refine CC.exit ?_; refine EE.thenX ?_; refine EE.thenX ?_; refine EE.inX ?_; refine ZT ?_; refine Zr ?_; refine Za ?_; refine Zq ?_; refine ZR ?_; refine EE.ret _ rfl rfl ?_
    exact ⟨rfl, q⟩
  obtain ⟨⟨s, t⟩, hs⟩ : ∃ s, ps[i]? = some s := ⟨_, List.getElem?_eq_getElem (by omega)⟩
  obtain ⟨b1, o1, rfl, l1, c1⟩ := (h1F W q).get pEnc hs
  obtain ⟨b2, o2, rfl, l2, c2⟩ := (h2F W q).get pEnc hs
  have d1 : Cells W ⟨b1, o1 + i * 2, none⟩ [.int .i64 s, .int .u64 (t : Int)] := c1
  have d2 : Cells W ⟨b2, o2 + i * 2, none⟩ [.int .i64 s, .int .u64 (t : Int)] := c2
  clear c1 c2 h1F h2F
  refine Zc ?_; refine Zr ?_; refine Zm ?_; refine Zm ?_; refine Zn ?_; refine ZltT ?_; refine Zq ?_; refine ZY ?_; refine ZK ?_; refine ZT ?_; refine Zc ?_; refine CC.block ?_; refine Zc ?_
  refine CC.quietB (by kernel_rfl) (by kernel_rfl) (fun Wb2 bb1 zb3 => ?_)
  replace q := Zu q bb1; replace d1 := d1.up bb1; replace d2 := d2.up bb1
  refine SS.val (R.move rfl rfl) rfl rfl ?_
  refine SS.val (R.move rfl rfl) rfl rfl ?_
  refine SS.val (R.index rfl rfl rfl (I.ixS rfl (by omega))) rfl rfl ?_
  refine SS.val (R.load rfl rfl (I.ldNc (by assumption) rfl rfl)) rfl rfl ?_
  refine SS.val (R.move rfl rfl) rfl rfl ?_
  refine SS.val (R.move rfl rfl) rfl rfl ?_
  refine SS.val (R.index rfl rfl rfl (I.ixS rfl (by omega))) rfl rfl ?_
  refine SS.val (R.load rfl rfl (I.ldNc (by assumption) rfl rfl)) rfl rfl ?_
  refine SS.val (R.neST (p := (s : Int) = s ∧ (↑t : Int) = ↑t) (bs := [decide ((s : Int) = s), decide ((↑t : Int) = ↑t)]) rfl rfl rfl rfl (by kernel_rfl) (by kernel_rfl) (by simp) (by first | assumption | omega | exact ⟨rfl, rfl⟩ | exact fun h => h ⟨rfl, rfl⟩)) rfl rfl ?_
  refine SS.nilQ ?_
  refine ZT ?_; refine ZN ?_; refine ZK ?_; refine EE.inN ?_; refine ZT ?_; refine CC.region ?_; refine Zm ?_
  refine LL.val (R.addNc rfl rfl rfl rfl (by omega)) rfl rfl rfl ?_
  refine Za ?_; refine ZL ?_
  exact EE.round (i + 1) ⟨rfl, rfl, rfl, trivial⟩ ⟨by omega, q⟩ (by omega)
set_option linter.unusedVariables false
set_option linter.unusedSimpArgs false
set_option maxRecDepth 100000
set_option maxHeartbeats 8000000
section
variable {P : Program} {w : World} {T e : TypeId} {o : Oper} {n i k bytes : Nat} {z : Value} {D : List Deferred} {M : Slots} {ops : Array Oper} {ok : World → Prop} {K : Slots → World → Prop}
theorem ZR.makeE {x y : Operand} {l m : Nat} {zs : List Value} (I : ElT P T e z k bytes) (hzc : z.cells = zs.toArray) (hk : 0 < k) (hi : ops[i]? = some o) (ho : o.op = .makeSlice T x y) (hx : evM M x = some (.int .i64 (l : Int))) (hy : evM M y = some (.int .i64 (m : Int))) (hl : l ≤ m) (hb : bytes * m ≤ 281474976710656) (hn : m ≤ 9223372036854775807) (hd : dstB n o.dst = true) (hg : wantB ops M o.guard = some true)
    (c : ∀ w1 g, g = w.heap.size → RowL w1 g e (List.replicate m zs).flatten → w1.heap.size = g + 1 → Below w.heap.size w w1 → ok w1 ∧ K (putM M o.dst (.slice (some ⟨g, 0, none⟩) l m)) w1) : SR P ops ok i K n D M w := by
  obtain ⟨w', h1, h2, h3, h4⟩ := run_mkE I hzc hk l m hl hb hn w
  have h := c w' _ rfl h2 h4 h3
  exact SR.val hi (R.make ho hx hy h1) hd hg h.1 h.2
end
theorem jHas_head {ws : List Nat} (k n : Int) (a : Nat → Nat) (f t : Int) (fk tk : Nat) (r : Int) (d : Bool) {li lr : Int} (h : jHas ws k n a f t fk tk r d li lr) : ws[0]? = some 4353 ∨ ws[0]? = some 1794 := by
  obtain ⟨⟨rfl, _⟩ | ⟨rfl, _⟩, h⟩ := h
  · exact .inl (take_at h rfl)
  · exact .inr (take_at h rfl)
theorem jhW_len : (jW 2 5 noA 1 1 2 3 4 false).length = 9 := jW_len 2 5 noA 1 1 2 3 4 false
theorem jhW_take : (jW 2 5 noA 1 1 2 3 4 false).take 8 = [1794, 1, 2, 1, 3, 4, 5, 0] := rfl
theorem jh_ok : okJ 2 5 noA 1 1 2 3 4 false 8 16 := .inr ⟨rfl, by decide, fun _ _ => rfl, by decide, by decide, by decide, .inr (by decide)⟩
theorem jodd_any (g : Nat) (w : World) (hS : Start w) (ro : RowL w g 25 (ints .u64 (1 :: List.replicate 63 0))) : Calls Tryz.prog 16 #[layV 32 8 16 8 1 2 9 11 15 16, .slice (some ⟨g, 0, none⟩) 64 64] w fun e w' => e = .returned (.tuple #[redV 0 0 noA 0 0 0 0 0 false, .bool false, .int .i64 310]) ∧ Below w.heap.size w w' :=
  jOf_no 32 8 16 8 1 2 9 11 15 16 _ 64 (1 :: List.replicate 63 0) w hS jhome_is (RowL.asInts ro .u64 _ rfl rfl) rfl (fun x hx => by simp at hx; omega) 1 rfl (by decide) (fun k n a f t fk tk r d h => by
    rcases jHas_head k n a f t fk tk r d h with h | h
    · cases h
    · cases h)
theorem works_any (w : World) (hS : Start w) : Calls Tryz.prog 15 #[] w fun x w' => x = .returned (.bool true) ∧ Below w.heap.size w w' := by
  have q := Below.refl w.heap.size w
  have hSF : ∀ X, Below w.heap.size w X → Start X := fun X b => hS.up b
  have hwo := fun W (hS : Start W) => jWords_T 2 5 noA 1 1 2 3 4 false 32 8 16 8 1 2 9 11 15 16 W hS jhome_is jh_ok
  have hst := fun W => strike_T 32 8 16 8 1 2 9 11 15 16 2 W jhome_is (by decide)
  rw [show (64 + 64 * 2 : Int) = 192 by decide] at hst
  unfold jnewW at hwo
  have hjl := jhW_len
  have hjt := jhW_take
  obtain ⟨ws, ews⟩ : ∃ ws, jW 2 5 noA 1 1 2 3 4 false = ws := ⟨_, rfl⟩
  rw [ews] at hwo hjl hjt
  rw [hjl] at hwo
  clear hS
  refine X.fn Tryz.func15 rfl (n := 75) rfl rfl ?_
  refine Zr ?_; refine Za ?_; refine Zq ?_; refine Zr ?_
  refine Zy (R.call rfl rfl rfl) (jhome_any _) ?_
  rintro e W128 ⟨rfl, b127⟩
  refine ⟨_, rfl, ?_⟩; have zb127 := b127.size; replace q := Zu q b127
  refine LL.val (R.buildV rfl rfl (v := .agg #[Value.int IntKind.i64 2, Value.int IntKind.i64 5, Value.int IntKind.u64 0, Value.int IntKind.u64 0, Value.int IntKind.u64 0, Value.int IntKind.u64 0, Value.int IntKind.u64 0, Value.int IntKind.u64 0, Value.int IntKind.u64 0, Value.int IntKind.u64 0, Value.int IntKind.u64 0, Value.int IntKind.u64 0, Value.int IntKind.u64 0, Value.int IntKind.u64 0, Value.int IntKind.u64 0, Value.int IntKind.u64 0, Value.int IntKind.u64 0, Value.int IntKind.u64 0, Value.int IntKind.i64 1, Value.int IntKind.i64 1, Value.int IntKind.u64 2, Value.int IntKind.u64 3, Value.int IntKind.i64 4, Value.bool false]) (fun _ => by kernel_rfl)) rfl rfl rfl ?_
  (refine Zy (R.call rfl rfl rfl) (hwo _ (hSF _ q)) ?_; rintro e W196 ⟨v7, rfl, g7, c7, rfl, hc7, rd7, hg7, hl7, b193⟩; refine ⟨_, rfl, ?_⟩)
  have zb193 := b193.size; replace b127 := Zu b127 b193; replace q := Zu q b193; refine Zm ?_; refine Zx ?_; refine Zx ?_; refine Za ?_; refine Za ?_; refine Zq ?_; refine Zc ?_
  refine CC.join (fun l_ W782 => l_ = [(0, Value.bool false), (13, Value.agg #[Value.int IntKind.i64 32, Value.int IntKind.i64 8, Value.int IntKind.i64 16, Value.int IntKind.i64 8, Value.int IntKind.u64 ↑1, Value.int IntKind.u64 ↑2, Value.int IntKind.i64 9, Value.int IntKind.i64 11, Value.int IntKind.i64 15, Value.int IntKind.i64 16]), (14, Value.agg #[Value.int IntKind.i64 2, Value.int IntKind.i64 5, Value.int IntKind.u64 0, Value.int IntKind.u64 0, Value.int IntKind.u64 0, Value.int IntKind.u64 0, Value.int IntKind.u64 0, Value.int IntKind.u64 0, Value.int IntKind.u64 0, Value.int IntKind.u64 0, Value.int IntKind.u64 0, Value.int IntKind.u64 0, Value.int IntKind.u64 0, Value.int IntKind.u64 0, Value.int IntKind.u64 0, Value.int IntKind.u64 0, Value.int IntKind.u64 0, Value.int IntKind.u64 0, Value.int IntKind.i64 1, Value.int IntKind.i64 1, Value.int IntKind.u64 2, Value.int IntKind.u64 3, Value.int IntKind.i64 4, Value.bool false]), (15, Value.tuple #[Value.slice (some { block := g7, off := 0 }) 9 c7, Value.int IntKind.i64 0]), (12, Value.tuple #[Value.slice (some { block := g7, off := 0 }) 9 c7, Value.int IntKind.i64 0]), (16, Value.slice (some { block := g7, off := 0 }) 9 c7), (17, Value.int IntKind.i64 0), (1, Value.slice (some { block := g7, off := 0 }) 9 c7), (2, Value.int IntKind.i64 0), (4, Value.bool false), (5, Value.int IntKind.i64 0)] ∧ (Below W196.heap.size W196 W782) ∧ (Reads W782 (Value.slice (some { block := g7, off := 0 }) 9 c7) (ints IntKind.u64 ws)) ∧ (Below W128.heap.size W128 W782) ∧ (Below w.heap.size w W782) ∧ (Below w.heap.size w W782) ∧ (W196.heap.size ≤ W782.heap.size)) (fun J786 => ?_) ?restJ786
  case' restJ786 =>
    clear rd7
    clear b193
    clear b127
    clear q
    rintro _ W782 ⟨rfl, b515, rd7, b193, b127, q, z785⟩
  refine ZT ?_; refine Zr ?_
  (refine LL.makeE (l := 64) (m := 64) ElU14 rfl (by decide) rfl rfl rfl (Nat.le_refl _) (by decide) (by decide) rfl rfl ?_; intro W811 g2 eg2 ry zg2 b808; replace ry : RowL W811 g2 25 (ints .u64 (List.replicate 64 0)) := ry)
  have zb808 := b808.size; replace b515 := Zu b515 b808; replace rd7 := rd7.up b808; replace b193 := Zu b193 b808; replace b127 := Zu b127 b808; replace q := Zu q b808; refine Za ?_; refine Zq ?_; refine Zr ?_; refine Zm ?_; refine Zi ?_
  (refine LL.store (off := 0) rfl rfl rfl rfl ry (by decide) rfl rfl rfl rfl ?_; intro W1063 ro gr1061 zo; replace ro : RowL W1063 g2 25 (ints .u64 (1 :: List.replicate 63 0)) := ro; clear ry)
  have zgr1061 := gr1061.size; replace b808 := Zg b808 gr1061; replace b515 := Zg b515 gr1061
  replace rd7 := rd7.gr gr1061 (by omega)
  replace b193 := Zg b193 gr1061; replace b127 := Zg b127 gr1061; replace q := Zg q gr1061; refine Zq ?_; refine Zr ?_
  refine Zy (R.call rfl rfl rfl) (jhome_any _) ?_
  rintro e W1139 ⟨rfl, b1138⟩
  refine ⟨_, rfl, ?_⟩; have zb1138 := b1138.size; replace ro := ro.up b1138; replace b808 := Zu b808 b1138; replace b515 := Zu b515 b1138; replace rd7 := rd7.up b1138; replace b193 := Zu b193 b1138; replace b127 := Zu b127 b1138; replace q := Zu q b1138; refine Zm ?_; have l1255 := ro.lt
  (refine Zy (R.call rfl rfl rfl) (jodd_any g2 _ (hSF _ q) ro) ?_; rintro e W1254 ⟨rfl, b1251⟩; refine ⟨_, rfl, ?_⟩)
  have zb1251 := b1251.size; replace b1138 := Zu b1138 b1251; replace ro := ro.up b1251; replace b808 := Zu b808 b1251; replace b515 := Zu b515 b1251; replace rd7 := rd7.up b1251; replace b193 := Zu b193 b1251; replace b127 := Zu b127 b1251; replace q := Zu q b1251; refine Zm ?_; refine Zx ?_; refine Zx ?_; refine Zx ?_; have l1614 := ro.lt
  refine LL.alloc ((redL 0 0 noA 0 0 0 0 0 false)) rfl rfl rfl rfl rfl ?_
  intro W1616 g1617 eg1617 r1618 z1619 b1615
  replace b1251 := Zu b1251 b1615; replace b1138 := Zu b1138 b1615; replace ro := ro.up b1615; replace b808 := Zu b808 b1615; replace b515 := Zu b515 b1615; replace rd7 := rd7.up b1615; replace b193 := Zu b193 b1615; replace b127 := Zu b127 b1615; replace q := Zu q b1615
  refine LL.storeN (vs := (redL 0 0 noA 0 0 0 0 0 false)) rfl rfl rfl rfl r1618 (by exact Nat.le_of_ble_eq_true rfl) (ones_of rfl) rfl rfl ?_
  intro W1700 r1701 b1699 z1702
  have hlb1699 := r1618.lt
  replace r1701 : RowL W1700 _ 28 (redL 0 0 noA 0 0 0 0 0 false) := r1701
  clear r1618
  replace b1615 := Zg b1615 b1699; replace b1251 := Zg b1251 b1699; replace b1138 := Zg b1138 b1699; replace ro := Zd ro b1699; replace b808 := Zg b808 b1699; replace b515 := Zg b515 b1699
  replace rd7 := rd7.gr b1699 (by omega)
  replace b193 := Zg b193 b1699; replace b127 := Zg b127 b1699; replace q := Zg q b1699
  have r1618 := r1701
  clear r1701
  refine Za ?_; refine Za ?_; refine Zq ?_; refine Zr ?_
  refine Zy (R.call rfl rfl rfl) (jhome_any _) ?_
  rintro e W1941 ⟨rfl, b1940⟩
  refine ⟨_, rfl, ?_⟩; have zb1940 := b1940.size; replace b1615 := Zu b1615 b1940; replace b1251 := Zu b1251 b1940; replace b1138 := Zu b1138 b1940; replace ro := ro.up b1940; replace b808 := Zu b808 b1940; replace b515 := Zu b515 b1940; replace rd7 := rd7.up b1940; replace b193 := Zu b193 b1940; replace b127 := Zu b127 b1940; replace q := Zu q b1940; replace r1618 := r1618.up b1940; have l1999 := ro.lt
  have l2000 := r1618.lt
  (refine Zy (R.call rfl rfl rfl) (hst _) ?_; rintro e W1998 ⟨gp, rfl, rp, hgp, b1995⟩; refine ⟨_, rfl, ?_⟩)
  have zb1995 := b1995.size; replace b1940 := Zu b1940 b1995; replace b1615 := Zu b1615 b1995; replace b1251 := Zu b1251 b1995; replace b1138 := Zu b1138 b1995; replace ro := ro.up b1995; replace b808 := Zu b808 b1995; replace b515 := Zu b515 b1995; replace rd7 := rd7.up b1995; replace b193 := Zu b193 b1995; replace b127 := Zu b127 b1995; replace q := Zu q b1995; replace r1618 := r1618.up b1995; refine Zm ?_
  refine Zx ?_; refine Zx ?_; refine Za ?_; refine Za ?_; refine Zq ?_; refine Zr ?_; refine Zm ?_
  refine Zy (R.call rfl rfl rfl) (num_any _ _) ?_
  rintro e W' ⟨rfl, rfl⟩
  refine ⟨_, rfl, ?_⟩; refine Zm ?_
  refine Zy (R.call rfl rfl rfl) (num_any _ _) ?_
  rintro e W' ⟨rfl, rfl⟩
  refine ⟨_, rfl, ?_⟩
  refine LL.val (R.addIz (z := 0) rfl rfl rfl (by decide) (by decide)) rfl rfl rfl ?_
  refine Zm ?_
  refine Zy (R.call rfl rfl rfl) (num_any _ _) ?_
  rintro e W' ⟨rfl, rfl⟩
  refine ⟨_, rfl, ?_⟩
  refine LL.val (R.addIz (z := 0) rfl rfl rfl (by decide) (by decide)) rfl rfl rfl ?_
  refine ZeqT ?_; refine Zm ?_; refine Zm ?_; refine Zn ?_; refine ZeqT ?_; refine Zp ?_; refine Zm ?_; refine Zm ?_
  refine LL.val (R.slice rfl rfl rfl rfl rfl (I.slToc rfl rfl (by omega))) rfl rfl rfl ?_
  have l4005 := rp.lt; have l4006 := ro.lt; have l4007 := r1618.lt
  refine LL.lit (e := 25) [Value.int IntKind.u64 1794, Value.int IntKind.u64 1, Value.int IntKind.u64 2, Value.int IntKind.u64 1, Value.int IntKind.u64 3, Value.int IntKind.u64 4, Value.int IntKind.u64 5, Value.int IntKind.u64 0] 8 rfl rfl (fun _ => by kernel_rfl) rfl rfl ?_
  intro W4009 g4010 eg4010 r4011 z4012 b4008
  replace rp := rp.up b4008; replace b1995 := Zu b1995 b4008; replace b1940 := Zu b1940 b4008; replace b1615 := Zu b1615 b4008; replace b1251 := Zu b1251 b4008; replace b1138 := Zu b1138 b4008; replace ro := ro.up b4008; replace b808 := Zu b808 b4008; replace b515 := Zu b515 b4008; replace rd7 := rd7.up b4008; replace b193 := Zu b193 b4008; replace b127 := Zu b127 b4008; replace q := Zu q b4008; replace r1618 := r1618.up b4008
  have l4090 := r4011.lt; have l4091 := rp.lt; have l4092 := ro.lt; have l4093 := r1618.lt
  (have rd8 := rd7.take 8 (by decide) c7 (by omega); rw [show (ints .u64 ws).take 8 = ints .u64 (ws.take 8) by simp [ints], hjt] at rd8; refine Zy (R.call rfl rfl rfl) (wsame_T _ _ _ _ _ rd8 (RowL.asInts (by assumption) .u64 [1794, 1, 2, 1, 3, 4, 5, 0] rfl rfl) (by decide) rfl) ?_; rintro e W4089 ⟨rfl, b4086⟩; refine ⟨_, rfl, ?_⟩; clear rd8)
  have zb4086 := b4086.size; replace r4011 := r4011.up b4086; replace b4008 := Zu b4008 b4086; replace rp := rp.up b4086; replace b1995 := Zu b1995 b4086; replace b1940 := Zu b1940 b4086; replace b1615 := Zu b1615 b4086; replace b1251 := Zu b1251 b4086; replace b1138 := Zu b1138 b4086; replace ro := ro.up b4086; replace b808 := Zu b808 b4086; replace b515 := Zu b515 b4086; replace rd7 := rd7.up b4086
  replace b193 := Zu b193 b4086; replace b127 := Zu b127 b4086; replace q := Zu q b4086; replace r1618 := r1618.up b4086; refine Zp ?_; refine Zm ?_; refine Zm ?_; refine Zt ?_; refine Zp ?_; refine Zm ?_; refine Zm ?_
  refine Zy (R.call rfl rfl rfl) (num_any _ _) ?_
  rintro e W' ⟨rfl, rfl⟩
  refine ⟨_, rfl, ?_⟩; refine ZeqT ?_; refine Zp ?_; refine Zm ?_; refine Zm ?_
  refine LL.val (R.buildV rfl rfl (v := .agg #[Value.int IntKind.i64 192, Value.int IntKind.u64 0]) (fun _ => by kernel_rfl)) rfl rfl rfl ?_
  have l5427 := r4011.lt; have l5428 := rp.lt; have l5429 := ro.lt; have l5430 := r1618.lt
  refine LL.lit (e := 59) [Value.int IntKind.i64 192, Value.int IntKind.u64 0] 1 rfl rfl (fun _ => by kernel_rfl) rfl rfl ?_
  intro W5432 g5433 eg5433 r5434 z5435 b5431
  replace b4086 := Zu b4086 b5431; replace r4011 := r4011.up b5431; replace b4008 := Zu b4008 b5431; replace rp := rp.up b5431; replace b1995 := Zu b1995 b5431; replace b1940 := Zu b1940 b5431; replace b1615 := Zu b1615 b5431; replace b1251 := Zu b1251 b5431; replace b1138 := Zu b1138 b5431; replace ro := ro.up b5431; replace b808 := Zu b808 b5431; replace b515 := Zu b515 b5431; replace rd7 := rd7.up b5431
  replace b193 := Zu b193 b5431; replace b127 := Zu b127 b5431; replace q := Zu q b5431; replace r1618 := r1618.up b5431; have l5531 := r5434.lt; have l5532 := r4011.lt; have l5533 := rp.lt; have l5534 := ro.lt; have l5535 := r1618.lt
  (refine Zy (R.call rfl rfl rfl) (psame_T [(192, 0)] _ _ _ (RowL.readsT (ts := [(192, 0)]) pEnc rp 1 (Nat.le_refl _)) (RowL.readsT (ts := [(192, 0)]) pEnc (by assumption) 1 (Nat.le_refl _)) (by decide)) ?_; rintro e W5530 ⟨rfl, b5527⟩; refine ⟨_, rfl, ?_⟩)
  have zb5527 := b5527.size; replace r5434 := r5434.up b5527; replace b5431 := Zu b5431 b5527; replace b4086 := Zu b4086 b5527; replace r4011 := r4011.up b5527; replace b4008 := Zu b4008 b5527; replace rp := rp.up b5527; replace b1995 := Zu b1995 b5527; replace b1940 := Zu b1940 b5527; replace b1615 := Zu b1615 b5527; replace b1251 := Zu b1251 b5527; replace b1138 := Zu b1138 b5527; replace ro := ro.up b5527
  replace b808 := Zu b808 b5527; replace b515 := Zu b515 b5527; replace rd7 := rd7.up b5527; replace b193 := Zu b193 b5527; replace b127 := Zu b127 b5527; replace q := Zu q b5527; replace r1618 := r1618.up b5527; refine Zp ?_; refine Za ?_; refine Zq ?_; refine ZR ?_; refine EE.ret _ rfl rfl ?_
  exact ⟨rfl, q⟩
  refine CC.freeZ (fun W_ j => j < W_.heap.size ∧ (True)) (by kernel_rfl) (by kernel_rfl) (fun W5746 b5745 z5747 => ?_)
  replace rd7 := rd7.up b5745; replace b193 := Zu b193 b5745; replace b127 := Zu b127 b5745; replace q := Zu q b5745
  have hok : Kept (fun j => j < W5746.heap.size ∧ (True)) W5746 W5746 := Kept.refl _ _
  refine AA.three 0 1 7 (by kernel_rfl) ?_ ?_ ?_
  refine SR.call rfl (R.call rfl rfl rfl) rfl rfl (jhome_any _) ?_
  rintro e W5812 ⟨rfl, b5811⟩
  have zb5811 := b5811.size; replace b5745 := Zu b5745 b5811; replace rd7 := rd7.up b5811; replace b193 := Zu b193 b5811; replace b127 := Zu b127 b5811; replace q := Zu q b5811; replace hok := Zh hok b5811; have y5813 := hok.size
  refine ⟨_, rfl, hok, ?_⟩
  refine AA.two 1 7 (by kernel_rfl) ?_ ?_
  (refine ZR.makeE (l := 64) (m := 64) ElU14 rfl (by decide) rfl rfl rfl rfl (Nat.le_refl _) (by decide) (by decide) rfl rfl ?_; intro W5824 g1 eg1 rz zg1 b5821; replace rz : RowL W5824 g1 25 (ints .u64 (List.replicate 64 0)) := rz)
  have zb5821 := b5821.size; replace b5811 := Zu b5811 b5821; replace b5745 := Zu b5745 b5821; replace rd7 := rd7.up b5821; replace b193 := Zu b193 b5821; replace b127 := Zu b127 b5821; replace q := Zu q b5821; replace hok := Zh hok b5821; have y5828 := hok.size
  refine ⟨hok, ?_⟩
  refine AA.two 2 7 (by kernel_rfl) ?_ ?_
  have l5849 := rz.lt
  (refine SR.call rfl (R.call rfl rfl rfl) rfl rfl (jOf_0 32 8 16 8 1 2 9 11 15 16 _ 64 (List.replicate 64 0) _ (hSF _ q) jhome_is (RowL.asInts rz .u64 _ rfl rfl) rfl rfl) ?_; rintro e W5848 ⟨rfl, b5845⟩; refine ⟨_, rfl, ?_⟩)
  have zb5845 := b5845.size; replace b5821 := Zu b5821 b5845; replace rz := rz.up b5845; replace b5811 := Zu b5811 b5845; replace b5745 := Zu b5745 b5845; replace rd7 := rd7.up b5845; replace b193 := Zu b193 b5845; replace b127 := Zu b127 b5845; replace q := Zu q b5845; replace hok := Zh hok b5845; have y5853 := hok.size
  refine ⟨hok, ?_⟩
  refine AA.pure 3 rfl hok (by kernel_rfl) (fun w' b' => R.move rfl rfl) rfl rfl ?_
  refine AA.pure 4 rfl hok (by kernel_rfl) (fun w' b' => R.extract rfl rfl rfl) rfl rfl ?_
  refine AA.pure 5 rfl hok (by kernel_rfl) (fun w' b' => R.extract rfl rfl rfl) rfl rfl ?_
  refine AA.pure 6 rfl hok (by kernel_rfl) (fun w' b' => R.extract rfl rfl rfl) rfl rfl ?_
  refine AA.one 7 (by kernel_rfl) ?_
  have l5925 := rz.lt
  refine ZR.alloc ((redL 0 0 noA 0 0 0 0 0 false)) rfl rfl rfl rfl rfl rfl ?_
  intro W5927 g5928 eg5928 r5929 z5930 b5926
  replace b5845 := Zu b5845 b5926; replace b5821 := Zu b5821 b5926; replace rz := rz.up b5926; replace b5811 := Zu b5811 b5926; replace b5745 := Zu b5745 b5926; replace rd7 := rd7.up b5926; replace b193 := Zu b193 b5926; replace b127 := Zu b127 b5926; replace q := Zu q b5926; replace hok := Zh hok b5926; have y5931 := hok.size
  refine ⟨hok, ?_⟩
  refine AA.one 8 (by kernel_rfl) ?_
  refine ZR.storeN (vs := (redL 0 0 noA 0 0 0 0 0 false)) rfl rfl rfl rfl rfl r5929 (by exact Nat.le_of_ble_eq_true rfl) (ones_of rfl) rfl rfl ?_
  intro W6012 r6013 b6011 z6014
  have hlb6011 := r5929.lt
  replace r6013 : RowL W6012 _ 28 (redL 0 0 noA 0 0 0 0 0 false) := r6013
  clear r5929
  replace b5926 := Zg b5926 b6011; replace b5845 := Zg b5845 b6011; replace b5821 := Zg b5821 b6011; replace rz := Zd rz b6011; replace b5811 := Zg b5811 b6011; replace b5745 := Zg b5745 b6011
  replace rd7 := rd7.gr b6011 (by omega)
  replace b193 := Zg b193 b6011; replace b127 := Zg b127 b6011; replace q := Zg q b6011; replace hok := Zo hok b6011
  have r5929 := r6013
  clear r6013
  refine ⟨hok, ?_⟩
  refine AA.pure 9 rfl hok (by kernel_rfl) (fun w' b' => R.assign rfl rfl) rfl rfl ?_
  refine AA.pure 10 rfl hok (by kernel_rfl) (fun w' b' => R.assign rfl rfl) rfl rfl ?_
  refine AA.done rfl ?_
  clear hok
  exact EE.weak (J786 _ _ ⟨rfl, (by first | assumption | omega), (by first | assumption | omega), (by first | assumption | omega), (by first | assumption | omega), (by first | assumption | omega), (by first | assumption | omega)⟩) ⟨rfl, rfl, rfl, rfl, rfl, rfl, rfl, rfl, rfl, rfl, rfl, trivial⟩
  have l6086 := rz.lt
  refine ZR.alloc ((redL 0 0 noA 0 0 0 0 0 false)) rfl rfl rfl rfl rfl rfl ?_
  intro W6088 g6089 eg6089 r6090 z6091 b6087
  replace b5821 := Zu b5821 b6087; replace rz := rz.up b6087; replace b5811 := Zu b5811 b6087; replace b5745 := Zu b5745 b6087; replace rd7 := rd7.up b6087; replace b193 := Zu b193 b6087; replace b127 := Zu b127 b6087; replace q := Zu q b6087; replace hok := Zh hok b6087; have y6092 := hok.size
  refine ⟨hok, ?_⟩
  refine AA.one 2 (by kernel_rfl) ?_
  have l6115 := r6090.lt; have l6116 := rz.lt
  (refine SR.call rfl (R.call rfl rfl rfl) rfl rfl (jOf_0 32 8 16 8 1 2 9 11 15 16 _ 64 (List.replicate 64 0) _ (hSF _ q) jhome_is (RowL.asInts rz .u64 _ rfl rfl) rfl rfl) ?_; rintro e W6114 ⟨rfl, b6111⟩; refine ⟨_, rfl, ?_⟩)
  have zb6111 := b6111.size; replace r6090 := r6090.up b6111; replace b6087 := Zu b6087 b6111; replace b5821 := Zu b5821 b6111; replace rz := rz.up b6111; replace b5811 := Zu b5811 b6111; replace b5745 := Zu b5745 b6111; replace rd7 := rd7.up b6111; replace b193 := Zu b193 b6111; replace b127 := Zu b127 b6111; replace q := Zu q b6111; replace hok := Zh hok b6111; have y6120 := hok.size
  refine ⟨hok, ?_⟩
  refine AA.pure 3 rfl hok (by kernel_rfl) (fun w' b' => R.move rfl rfl) rfl rfl ?_
  refine AA.pure 4 rfl hok (by kernel_rfl) (fun w' b' => R.extract rfl rfl rfl) rfl rfl ?_
  refine AA.pure 5 rfl hok (by kernel_rfl) (fun w' b' => R.extract rfl rfl rfl) rfl rfl ?_
  refine AA.pure 6 rfl hok (by kernel_rfl) (fun w' b' => R.extract rfl rfl rfl) rfl rfl ?_
  refine AA.one 8 (by kernel_rfl) ?_
  refine ZR.storeN (vs := (redL 0 0 noA 0 0 0 0 0 false)) rfl rfl rfl rfl rfl r6090 (by exact Nat.le_of_ble_eq_true rfl) (ones_of rfl) rfl rfl ?_
  intro W6201 r6202 b6200 z6203
  have hlb6200 := r6090.lt
  replace r6202 : RowL W6201 _ 28 (redL 0 0 noA 0 0 0 0 0 false) := r6202
  clear r6090
  replace b6087 := Zg b6087 b6200; replace b5821 := Zg b5821 b6200; replace rz := Zd rz b6200; replace b5811 := Zg b5811 b6200; replace b5745 := Zg b5745 b6200
  replace rd7 := rd7.gr b6200 (by omega)
  replace b193 := Zg b193 b6200; replace b127 := Zg b127 b6200; replace q := Zg q b6200; replace hok := Zo hok b6200
  have r6090 := r6202
  clear r6202
  refine ⟨hok, ?_⟩
  refine AA.pure 9 rfl hok (by kernel_rfl) (fun w' b' => R.assign rfl rfl) rfl rfl ?_
  refine AA.pure 10 rfl hok (by kernel_rfl) (fun w' b' => R.assign rfl rfl) rfl rfl ?_
  refine AA.done rfl ?_
  clear hok
  exact EE.weak (J786 _ _ ⟨rfl, (by first | assumption | omega), (by first | assumption | omega), (by first | assumption | omega), (by first | assumption | omega), (by first | assumption | omega), (by first | assumption | omega)⟩) ⟨rfl, rfl, rfl, rfl, rfl, rfl, rfl, rfl, rfl, rfl, rfl, trivial⟩
  refine ZR.alloc ((redL 0 0 noA 0 0 0 0 0 false)) rfl rfl rfl rfl rfl rfl ?_
  intro W6268 g6269 eg6269 r6270 z6271 b6267
  replace b5811 := Zu b5811 b6267; replace b5745 := Zu b5745 b6267; replace rd7 := rd7.up b6267; replace b193 := Zu b193 b6267; replace b127 := Zu b127 b6267; replace q := Zu q b6267; replace hok := Zh hok b6267; have y6272 := hok.size
  refine ⟨hok, ?_⟩
  refine AA.one 1 (by kernel_rfl) ?_
  have l6285 := r6270.lt
  (refine ZR.makeE (l := 64) (m := 64) ElU14 rfl (by decide) rfl rfl rfl rfl (Nat.le_refl _) (by decide) (by decide) rfl rfl ?_; intro W6284 g1 eg1 rz zg1 b6281; replace rz : RowL W6284 g1 25 (ints .u64 (List.replicate 64 0)) := rz)
  have zb6281 := b6281.size; replace r6270 := r6270.up b6281; replace b6267 := Zu b6267 b6281; replace b5811 := Zu b5811 b6281; replace b5745 := Zu b5745 b6281; replace rd7 := rd7.up b6281; replace b193 := Zu b193 b6281; replace b127 := Zu b127 b6281; replace q := Zu q b6281; replace hok := Zh hok b6281; have y6289 := hok.size
  refine ⟨hok, ?_⟩
  refine AA.one 2 (by kernel_rfl) ?_
  have l6312 := rz.lt; have l6313 := r6270.lt
  (refine SR.call rfl (R.call rfl rfl rfl) rfl rfl (jOf_0 32 8 16 8 1 2 9 11 15 16 _ 64 (List.replicate 64 0) _ (hSF _ q) jhome_is (RowL.asInts rz .u64 _ rfl rfl) rfl rfl) ?_; rintro e W6311 ⟨rfl, b6308⟩; refine ⟨_, rfl, ?_⟩)
  have zb6308 := b6308.size; replace b6281 := Zu b6281 b6308; replace rz := rz.up b6308; replace r6270 := r6270.up b6308; replace b6267 := Zu b6267 b6308; replace b5811 := Zu b5811 b6308; replace b5745 := Zu b5745 b6308; replace rd7 := rd7.up b6308; replace b193 := Zu b193 b6308; replace b127 := Zu b127 b6308; replace q := Zu q b6308; replace hok := Zh hok b6308; have y6317 := hok.size
  refine ⟨hok, ?_⟩
  refine AA.pure 3 rfl hok (by kernel_rfl) (fun w' b' => R.move rfl rfl) rfl rfl ?_
  refine AA.pure 4 rfl hok (by kernel_rfl) (fun w' b' => R.extract rfl rfl rfl) rfl rfl ?_
  refine AA.pure 5 rfl hok (by kernel_rfl) (fun w' b' => R.extract rfl rfl rfl) rfl rfl ?_
  refine AA.pure 6 rfl hok (by kernel_rfl) (fun w' b' => R.extract rfl rfl rfl) rfl rfl ?_
  refine AA.one 8 (by kernel_rfl) ?_
  refine ZR.storeN (vs := (redL 0 0 noA 0 0 0 0 0 false)) rfl rfl rfl rfl rfl r6270 (by exact Nat.le_of_ble_eq_true rfl) (ones_of rfl) rfl rfl ?_
  intro W6398 r6399 b6397 z6400
  have hlb6397 := r6270.lt
  replace r6399 : RowL W6398 _ 28 (redL 0 0 noA 0 0 0 0 0 false) := r6399
  clear r6270
  replace rz := Zd rz b6397; replace b6267 := Zg b6267 b6397; replace b5811 := Zg b5811 b6397; replace b5745 := Zg b5745 b6397
  replace rd7 := rd7.gr b6397 (by omega)
  replace b193 := Zg b193 b6397; replace b127 := Zg b127 b6397; replace q := Zg q b6397; replace hok := Zo hok b6397
  have r6270 := r6399
  clear r6399
  refine ⟨hok, ?_⟩
  refine AA.pure 9 rfl hok (by kernel_rfl) (fun w' b' => R.assign rfl rfl) rfl rfl ?_
  refine AA.pure 10 rfl hok (by kernel_rfl) (fun w' b' => R.assign rfl rfl) rfl rfl ?_
  refine AA.done rfl ?_
  clear hok
  exact EE.weak (J786 _ _ ⟨rfl, (by first | assumption | omega), (by first | assumption | omega), (by first | assumption | omega), (by first | assumption | omega), (by first | assumption | omega), (by first | assumption | omega)⟩) ⟨rfl, rfl, rfl, rfl, rfl, rfl, rfl, rfl, rfl, rfl, rfl, trivial⟩
  (refine ZR.makeE (l := 64) (m := 64) ElU14 rfl (by decide) rfl rfl rfl rfl (Nat.le_refl _) (by decide) (by decide) rfl rfl ?_; intro W6411 g1 eg1 rz zg1 b6408; replace rz : RowL W6411 g1 25 (ints .u64 (List.replicate 64 0)) := rz)
  have zb6408 := b6408.size; replace b5745 := Zu b5745 b6408; replace rd7 := rd7.up b6408; replace b193 := Zu b193 b6408; replace b127 := Zu b127 b6408; replace q := Zu q b6408; replace hok := Zh hok b6408; have y6415 := hok.size
  refine ⟨hok, ?_⟩
  refine AA.two 0 7 (by kernel_rfl) ?_ ?_
  refine SR.call rfl (R.call rfl rfl rfl) rfl rfl (jhome_any _) ?_
  rintro e W6488 ⟨rfl, b6487⟩
  have zb6487 := b6487.size; replace b6408 := Zu b6408 b6487; replace rz := rz.up b6487; replace b5745 := Zu b5745 b6487; replace rd7 := rd7.up b6487; replace b193 := Zu b193 b6487; replace b127 := Zu b127 b6487; replace q := Zu q b6487; replace hok := Zh hok b6487; have y6489 := hok.size
  refine ⟨_, rfl, hok, ?_⟩
  refine AA.two 2 7 (by kernel_rfl) ?_ ?_
  have l6510 := rz.lt
  (refine SR.call rfl (R.call rfl rfl rfl) rfl rfl (jOf_0 32 8 16 8 1 2 9 11 15 16 _ 64 (List.replicate 64 0) _ (hSF _ q) jhome_is (RowL.asInts rz .u64 _ rfl rfl) rfl rfl) ?_; rintro e W6509 ⟨rfl, b6506⟩; refine ⟨_, rfl, ?_⟩)
  have zb6506 := b6506.size; replace b6487 := Zu b6487 b6506; replace b6408 := Zu b6408 b6506; replace rz := rz.up b6506; replace b5745 := Zu b5745 b6506; replace rd7 := rd7.up b6506; replace b193 := Zu b193 b6506; replace b127 := Zu b127 b6506; replace q := Zu q b6506; replace hok := Zh hok b6506; have y6514 := hok.size
  refine ⟨hok, ?_⟩
  refine AA.pure 3 rfl hok (by kernel_rfl) (fun w' b' => R.move rfl rfl) rfl rfl ?_
  refine AA.pure 4 rfl hok (by kernel_rfl) (fun w' b' => R.extract rfl rfl rfl) rfl rfl ?_
  refine AA.pure 5 rfl hok (by kernel_rfl) (fun w' b' => R.extract rfl rfl rfl) rfl rfl ?_
  refine AA.pure 6 rfl hok (by kernel_rfl) (fun w' b' => R.extract rfl rfl rfl) rfl rfl ?_
  refine AA.one 7 (by kernel_rfl) ?_
  have l6586 := rz.lt
  refine ZR.alloc ((redL 0 0 noA 0 0 0 0 0 false)) rfl rfl rfl rfl rfl rfl ?_
  intro W6588 g6589 eg6589 r6590 z6591 b6587
  replace b6506 := Zu b6506 b6587; replace b6487 := Zu b6487 b6587; replace b6408 := Zu b6408 b6587; replace rz := rz.up b6587; replace b5745 := Zu b5745 b6587; replace rd7 := rd7.up b6587; replace b193 := Zu b193 b6587; replace b127 := Zu b127 b6587; replace q := Zu q b6587; replace hok := Zh hok b6587; have y6592 := hok.size
  refine ⟨hok, ?_⟩
  refine AA.one 8 (by kernel_rfl) ?_
  refine ZR.storeN (vs := (redL 0 0 noA 0 0 0 0 0 false)) rfl rfl rfl rfl rfl r6590 (by exact Nat.le_of_ble_eq_true rfl) (ones_of rfl) rfl rfl ?_
  intro W6673 r6674 b6672 z6675
  have hlb6672 := r6590.lt
  replace r6674 : RowL W6673 _ 28 (redL 0 0 noA 0 0 0 0 0 false) := r6674
  clear r6590
  replace b6587 := Zg b6587 b6672; replace b6506 := Zg b6506 b6672; replace b6487 := Zg b6487 b6672; replace b6408 := Zg b6408 b6672; replace rz := Zd rz b6672; replace b5745 := Zg b5745 b6672
  replace rd7 := rd7.gr b6672 (by omega)
  replace b193 := Zg b193 b6672; replace b127 := Zg b127 b6672; replace q := Zg q b6672; replace hok := Zo hok b6672
  have r6590 := r6674
  clear r6674
  refine ⟨hok, ?_⟩
  refine AA.pure 9 rfl hok (by kernel_rfl) (fun w' b' => R.assign rfl rfl) rfl rfl ?_
  refine AA.pure 10 rfl hok (by kernel_rfl) (fun w' b' => R.assign rfl rfl) rfl rfl ?_
  refine AA.done rfl ?_
  clear hok
  exact EE.weak (J786 _ _ ⟨rfl, (by first | assumption | omega), (by first | assumption | omega), (by first | assumption | omega), (by first | assumption | omega), (by first | assumption | omega), (by first | assumption | omega)⟩) ⟨rfl, rfl, rfl, rfl, rfl, rfl, rfl, rfl, rfl, rfl, rfl, trivial⟩
  have l6747 := rz.lt
  refine ZR.alloc ((redL 0 0 noA 0 0 0 0 0 false)) rfl rfl rfl rfl rfl rfl ?_
  intro W6749 g6750 eg6750 r6751 z6752 b6748
  replace b6487 := Zu b6487 b6748; replace b6408 := Zu b6408 b6748; replace rz := rz.up b6748; replace b5745 := Zu b5745 b6748; replace rd7 := rd7.up b6748; replace b193 := Zu b193 b6748; replace b127 := Zu b127 b6748; replace q := Zu q b6748; replace hok := Zh hok b6748; have y6753 := hok.size
  refine ⟨hok, ?_⟩
  refine AA.one 2 (by kernel_rfl) ?_
  have l6776 := r6751.lt; have l6777 := rz.lt
  (refine SR.call rfl (R.call rfl rfl rfl) rfl rfl (jOf_0 32 8 16 8 1 2 9 11 15 16 _ 64 (List.replicate 64 0) _ (hSF _ q) jhome_is (RowL.asInts rz .u64 _ rfl rfl) rfl rfl) ?_; rintro e W6775 ⟨rfl, b6772⟩; refine ⟨_, rfl, ?_⟩)
  have zb6772 := b6772.size; replace r6751 := r6751.up b6772; replace b6748 := Zu b6748 b6772; replace b6487 := Zu b6487 b6772; replace b6408 := Zu b6408 b6772; replace rz := rz.up b6772; replace b5745 := Zu b5745 b6772; replace rd7 := rd7.up b6772; replace b193 := Zu b193 b6772; replace b127 := Zu b127 b6772; replace q := Zu q b6772; replace hok := Zh hok b6772; have y6781 := hok.size
  refine ⟨hok, ?_⟩
  refine AA.pure 3 rfl hok (by kernel_rfl) (fun w' b' => R.move rfl rfl) rfl rfl ?_
  refine AA.pure 4 rfl hok (by kernel_rfl) (fun w' b' => R.extract rfl rfl rfl) rfl rfl ?_
  refine AA.pure 5 rfl hok (by kernel_rfl) (fun w' b' => R.extract rfl rfl rfl) rfl rfl ?_
  refine AA.pure 6 rfl hok (by kernel_rfl) (fun w' b' => R.extract rfl rfl rfl) rfl rfl ?_
  refine AA.one 8 (by kernel_rfl) ?_
  refine ZR.storeN (vs := (redL 0 0 noA 0 0 0 0 0 false)) rfl rfl rfl rfl rfl r6751 (by exact Nat.le_of_ble_eq_true rfl) (ones_of rfl) rfl rfl ?_
  intro W6862 r6863 b6861 z6864
  have hlb6861 := r6751.lt
  replace r6863 : RowL W6862 _ 28 (redL 0 0 noA 0 0 0 0 0 false) := r6863
  clear r6751
  replace b6748 := Zg b6748 b6861; replace b6487 := Zg b6487 b6861; replace b6408 := Zg b6408 b6861; replace rz := Zd rz b6861; replace b5745 := Zg b5745 b6861
  replace rd7 := rd7.gr b6861 (by omega)
  replace b193 := Zg b193 b6861; replace b127 := Zg b127 b6861; replace q := Zg q b6861; replace hok := Zo hok b6861
  have r6751 := r6863
  clear r6863
  refine ⟨hok, ?_⟩
  refine AA.pure 9 rfl hok (by kernel_rfl) (fun w' b' => R.assign rfl rfl) rfl rfl ?_
  refine AA.pure 10 rfl hok (by kernel_rfl) (fun w' b' => R.assign rfl rfl) rfl rfl ?_
  refine AA.done rfl ?_
  clear hok
  exact EE.weak (J786 _ _ ⟨rfl, (by first | assumption | omega), (by first | assumption | omega), (by first | assumption | omega), (by first | assumption | omega), (by first | assumption | omega), (by first | assumption | omega)⟩) ⟨rfl, rfl, rfl, rfl, rfl, rfl, rfl, rfl, rfl, rfl, rfl, trivial⟩
  have l6936 := rz.lt
  refine ZR.alloc ((redL 0 0 noA 0 0 0 0 0 false)) rfl rfl rfl rfl rfl rfl ?_
  intro W6938 g6939 eg6939 r6940 z6941 b6937
  replace b6408 := Zu b6408 b6937; replace rz := rz.up b6937; replace b5745 := Zu b5745 b6937; replace rd7 := rd7.up b6937; replace b193 := Zu b193 b6937; replace b127 := Zu b127 b6937; replace q := Zu q b6937; replace hok := Zh hok b6937; have y6942 := hok.size
  refine ⟨hok, ?_⟩
  refine AA.one 0 (by kernel_rfl) ?_
  refine SR.call rfl (R.call rfl rfl rfl) rfl rfl (jhome_any _) ?_
  rintro e W7023 ⟨rfl, b7022⟩
  have zb7022 := b7022.size; replace r6940 := r6940.up b7022; replace b6937 := Zu b6937 b7022; replace b6408 := Zu b6408 b7022; replace rz := rz.up b7022; replace b5745 := Zu b5745 b7022; replace rd7 := rd7.up b7022; replace b193 := Zu b193 b7022; replace b127 := Zu b127 b7022; replace q := Zu q b7022; replace hok := Zh hok b7022; have y7024 := hok.size
  refine ⟨_, rfl, hok, ?_⟩
  refine AA.one 2 (by kernel_rfl) ?_
  have l7047 := r6940.lt; have l7048 := rz.lt
  (refine SR.call rfl (R.call rfl rfl rfl) rfl rfl (jOf_0 32 8 16 8 1 2 9 11 15 16 _ 64 (List.replicate 64 0) _ (hSF _ q) jhome_is (RowL.asInts rz .u64 _ rfl rfl) rfl rfl) ?_; rintro e W7046 ⟨rfl, b7043⟩; refine ⟨_, rfl, ?_⟩)
  have zb7043 := b7043.size; replace b7022 := Zu b7022 b7043; replace r6940 := r6940.up b7043; replace b6937 := Zu b6937 b7043; replace b6408 := Zu b6408 b7043; replace rz := rz.up b7043; replace b5745 := Zu b5745 b7043; replace rd7 := rd7.up b7043; replace b193 := Zu b193 b7043; replace b127 := Zu b127 b7043; replace q := Zu q b7043; replace hok := Zh hok b7043; have y7052 := hok.size
  refine ⟨hok, ?_⟩
  refine AA.pure 3 rfl hok (by kernel_rfl) (fun w' b' => R.move rfl rfl) rfl rfl ?_
  refine AA.pure 4 rfl hok (by kernel_rfl) (fun w' b' => R.extract rfl rfl rfl) rfl rfl ?_
  refine AA.pure 5 rfl hok (by kernel_rfl) (fun w' b' => R.extract rfl rfl rfl) rfl rfl ?_
  refine AA.pure 6 rfl hok (by kernel_rfl) (fun w' b' => R.extract rfl rfl rfl) rfl rfl ?_
  refine AA.one 8 (by kernel_rfl) ?_
  refine ZR.storeN (vs := (redL 0 0 noA 0 0 0 0 0 false)) rfl rfl rfl rfl rfl r6940 (by exact Nat.le_of_ble_eq_true rfl) (ones_of rfl) rfl rfl ?_
  intro W7133 r7134 b7132 z7135
  have hlb7132 := r6940.lt
  replace r7134 : RowL W7133 _ 28 (redL 0 0 noA 0 0 0 0 0 false) := r7134
  clear r6940
  replace b6937 := Zg b6937 b7132; replace b6408 := Zg b6408 b7132; replace rz := Zd rz b7132; replace b5745 := Zg b5745 b7132
  replace rd7 := rd7.gr b7132 (by omega)
  replace b193 := Zg b193 b7132; replace b127 := Zg b127 b7132; replace q := Zg q b7132; replace hok := Zo hok b7132
  have r6940 := r7134
  clear r7134
  refine ⟨hok, ?_⟩
  refine AA.pure 9 rfl hok (by kernel_rfl) (fun w' b' => R.assign rfl rfl) rfl rfl ?_
  refine AA.pure 10 rfl hok (by kernel_rfl) (fun w' b' => R.assign rfl rfl) rfl rfl ?_
  refine AA.done rfl ?_
  clear hok
  exact EE.weak (J786 _ _ ⟨rfl, (by first | assumption | omega), (by first | assumption | omega), (by first | assumption | omega), (by first | assumption | omega), (by first | assumption | omega), (by first | assumption | omega)⟩) ⟨rfl, rfl, rfl, rfl, rfl, rfl, rfl, rfl, rfl, rfl, rfl, trivial⟩
  refine ZR.alloc ((redL 0 0 noA 0 0 0 0 0 false)) rfl rfl rfl rfl rfl rfl ?_
  intro W7200 g7201 eg7201 r7202 z7203 b7199
  replace b5745 := Zu b5745 b7199; replace rd7 := rd7.up b7199; replace b193 := Zu b193 b7199; replace b127 := Zu b127 b7199; replace q := Zu q b7199; replace hok := Zh hok b7199; have y7204 := hok.size
  refine ⟨hok, ?_⟩
  refine AA.two 0 1 (by kernel_rfl) ?_ ?_
  refine SR.call rfl (R.call rfl rfl rfl) rfl rfl (jhome_any _) ?_
  rintro e W7277 ⟨rfl, b7276⟩
  have zb7276 := b7276.size; replace r7202 := r7202.up b7276; replace b7199 := Zu b7199 b7276; replace b5745 := Zu b5745 b7276; replace rd7 := rd7.up b7276; replace b193 := Zu b193 b7276; replace b127 := Zu b127 b7276; replace q := Zu q b7276; replace hok := Zh hok b7276; have y7278 := hok.size
  refine ⟨_, rfl, hok, ?_⟩
  refine AA.one 1 (by kernel_rfl) ?_
  have l7291 := r7202.lt
  (refine ZR.makeE (l := 64) (m := 64) ElU14 rfl (by decide) rfl rfl rfl rfl (Nat.le_refl _) (by decide) (by decide) rfl rfl ?_; intro W7290 g1 eg1 rz zg1 b7287; replace rz : RowL W7290 g1 25 (ints .u64 (List.replicate 64 0)) := rz)
  have zb7287 := b7287.size; replace b7276 := Zu b7276 b7287; replace r7202 := r7202.up b7287; replace b7199 := Zu b7199 b7287; replace b5745 := Zu b5745 b7287; replace rd7 := rd7.up b7287; replace b193 := Zu b193 b7287; replace b127 := Zu b127 b7287; replace q := Zu q b7287; replace hok := Zh hok b7287; have y7295 := hok.size
  refine ⟨hok, ?_⟩
  refine AA.one 2 (by kernel_rfl) ?_
  have l7318 := rz.lt; have l7319 := r7202.lt
  (refine SR.call rfl (R.call rfl rfl rfl) rfl rfl (jOf_0 32 8 16 8 1 2 9 11 15 16 _ 64 (List.replicate 64 0) _ (hSF _ q) jhome_is (RowL.asInts rz .u64 _ rfl rfl) rfl rfl) ?_; rintro e W7317 ⟨rfl, b7314⟩; refine ⟨_, rfl, ?_⟩)
  have zb7314 := b7314.size; replace b7287 := Zu b7287 b7314; replace rz := rz.up b7314; replace b7276 := Zu b7276 b7314; replace r7202 := r7202.up b7314; replace b7199 := Zu b7199 b7314; replace b5745 := Zu b5745 b7314; replace rd7 := rd7.up b7314; replace b193 := Zu b193 b7314; replace b127 := Zu b127 b7314; replace q := Zu q b7314; replace hok := Zh hok b7314; have y7323 := hok.size
  refine ⟨hok, ?_⟩
  refine AA.pure 3 rfl hok (by kernel_rfl) (fun w' b' => R.move rfl rfl) rfl rfl ?_
  refine AA.pure 4 rfl hok (by kernel_rfl) (fun w' b' => R.extract rfl rfl rfl) rfl rfl ?_
  refine AA.pure 5 rfl hok (by kernel_rfl) (fun w' b' => R.extract rfl rfl rfl) rfl rfl ?_
  refine AA.pure 6 rfl hok (by kernel_rfl) (fun w' b' => R.extract rfl rfl rfl) rfl rfl ?_
  refine AA.one 8 (by kernel_rfl) ?_
  refine ZR.storeN (vs := (redL 0 0 noA 0 0 0 0 0 false)) rfl rfl rfl rfl rfl r7202 (by exact Nat.le_of_ble_eq_true rfl) (ones_of rfl) rfl rfl ?_
  intro W7404 r7405 b7403 z7406
  have hlb7403 := r7202.lt
  replace r7405 : RowL W7404 _ 28 (redL 0 0 noA 0 0 0 0 0 false) := r7405
  clear r7202
  replace rz := Zd rz b7403; replace b7199 := Zg b7199 b7403; replace b5745 := Zg b5745 b7403
  replace rd7 := rd7.gr b7403 (by omega)
  replace b193 := Zg b193 b7403; replace b127 := Zg b127 b7403; replace q := Zg q b7403; replace hok := Zo hok b7403
  have r7202 := r7405
  clear r7405
  refine ⟨hok, ?_⟩
  refine AA.pure 9 rfl hok (by kernel_rfl) (fun w' b' => R.assign rfl rfl) rfl rfl ?_
  refine AA.pure 10 rfl hok (by kernel_rfl) (fun w' b' => R.assign rfl rfl) rfl rfl ?_
  refine AA.done rfl ?_
  clear hok
  exact EE.weak (J786 _ _ ⟨rfl, (by first | assumption | omega), (by first | assumption | omega), (by first | assumption | omega), (by first | assumption | omega), (by first | assumption | omega), (by first | assumption | omega)⟩) ⟨rfl, rfl, rfl, rfl, rfl, rfl, rfl, rfl, rfl, rfl, rfl, trivial⟩
  have l7419 := r7202.lt
  (refine ZR.makeE (l := 64) (m := 64) ElU14 rfl (by decide) rfl rfl rfl rfl (Nat.le_refl _) (by decide) (by decide) rfl rfl ?_; intro W7418 g1 eg1 rz zg1 b7415; replace rz : RowL W7418 g1 25 (ints .u64 (List.replicate 64 0)) := rz)
  have zb7415 := b7415.size; replace r7202 := r7202.up b7415; replace b7199 := Zu b7199 b7415; replace b5745 := Zu b5745 b7415; replace rd7 := rd7.up b7415; replace b193 := Zu b193 b7415; replace b127 := Zu b127 b7415; replace q := Zu q b7415; replace hok := Zh hok b7415; have y7423 := hok.size
  refine ⟨hok, ?_⟩
  refine AA.one 0 (by kernel_rfl) ?_
  refine SR.call rfl (R.call rfl rfl rfl) rfl rfl (jhome_any _) ?_
  rintro e W7504 ⟨rfl, b7503⟩
  have zb7503 := b7503.size; replace b7415 := Zu b7415 b7503; replace rz := rz.up b7503; replace r7202 := r7202.up b7503; replace b7199 := Zu b7199 b7503; replace b5745 := Zu b5745 b7503; replace rd7 := rd7.up b7503; replace b193 := Zu b193 b7503; replace b127 := Zu b127 b7503; replace q := Zu q b7503; replace hok := Zh hok b7503; have y7505 := hok.size
  refine ⟨_, rfl, hok, ?_⟩
  refine AA.one 2 (by kernel_rfl) ?_
  have l7528 := rz.lt; have l7529 := r7202.lt
  (refine SR.call rfl (R.call rfl rfl rfl) rfl rfl (jOf_0 32 8 16 8 1 2 9 11 15 16 _ 64 (List.replicate 64 0) _ (hSF _ q) jhome_is (RowL.asInts rz .u64 _ rfl rfl) rfl rfl) ?_; rintro e W7527 ⟨rfl, b7524⟩; refine ⟨_, rfl, ?_⟩)
  have zb7524 := b7524.size; replace b7503 := Zu b7503 b7524; replace b7415 := Zu b7415 b7524; replace rz := rz.up b7524; replace r7202 := r7202.up b7524; replace b7199 := Zu b7199 b7524; replace b5745 := Zu b5745 b7524; replace rd7 := rd7.up b7524; replace b193 := Zu b193 b7524; replace b127 := Zu b127 b7524; replace q := Zu q b7524; replace hok := Zh hok b7524; have y7533 := hok.size
  refine ⟨hok, ?_⟩
  refine AA.pure 3 rfl hok (by kernel_rfl) (fun w' b' => R.move rfl rfl) rfl rfl ?_
  refine AA.pure 4 rfl hok (by kernel_rfl) (fun w' b' => R.extract rfl rfl rfl) rfl rfl ?_
  refine AA.pure 5 rfl hok (by kernel_rfl) (fun w' b' => R.extract rfl rfl rfl) rfl rfl ?_
  refine AA.pure 6 rfl hok (by kernel_rfl) (fun w' b' => R.extract rfl rfl rfl) rfl rfl ?_
  refine AA.one 8 (by kernel_rfl) ?_
  refine ZR.storeN (vs := (redL 0 0 noA 0 0 0 0 0 false)) rfl rfl rfl rfl rfl r7202 (by exact Nat.le_of_ble_eq_true rfl) (ones_of rfl) rfl rfl ?_
  intro W7614 r7615 b7613 z7616
  have hlb7613 := r7202.lt
  replace r7615 : RowL W7614 _ 28 (redL 0 0 noA 0 0 0 0 0 false) := r7615
  clear r7202
  replace rz := Zd rz b7613; replace b7199 := Zg b7199 b7613; replace b5745 := Zg b5745 b7613
  replace rd7 := rd7.gr b7613 (by omega)
  replace b193 := Zg b193 b7613; replace b127 := Zg b127 b7613; replace q := Zg q b7613; replace hok := Zo hok b7613
  have r7202 := r7615
  clear r7615
  refine ⟨hok, ?_⟩
  refine AA.pure 9 rfl hok (by kernel_rfl) (fun w' b' => R.assign rfl rfl) rfl rfl ?_
  refine AA.pure 10 rfl hok (by kernel_rfl) (fun w' b' => R.assign rfl rfl) rfl rfl ?_
  refine AA.done rfl ?_
  clear hok
  exact EE.weak (J786 _ _ ⟨rfl, (by first | assumption | omega), (by first | assumption | omega), (by first | assumption | omega), (by first | assumption | omega), (by first | assumption | omega), (by first | assumption | omega)⟩) ⟨rfl, rfl, rfl, rfl, rfl, rfl, rfl, rfl, rfl, rfl, rfl, trivial⟩
theorem crcN_add (m n s : Nat) : crcN (m + n) s = crcN m (crcN n s) := by
  induction m with
  | zero => simp [crcN]
  | succ m ih => rw [Nat.succ_add]; simp only [crcN]; rw [ih]
/-- what has no low bit goes through -/
theorem crcBit_xor (s y : Nat) : crcBit (s ^^^ (2 * y)) = crcBit s ^^^ y := by
  have h1 : (s ^^^ (2 * y)) % 2 = s % 2 := by
    have h := Nat.testBit_xor (x := s) (y := 2 * y) (i := 0)
    simp only [Nat.testBit_zero] at h
    rw [show 2 * y % 2 = 0 by omega, show decide (0 = 1) = false by decide, Bool.xor_false] at h
    have h2 : (s ^^^ 2 * y) % 2 = 1 ↔ s % 2 = 1 := by
      constructor
      · intro h3; rw [decide_eq_true h3] at h; exact of_decide_eq_true h.symm
      · intro h3; rw [decide_eq_true h3] at h; exact of_decide_eq_true h
    omega
  have h2 : (s ^^^ (2 * y)) / 2 = s / 2 ^^^ y := by
    apply Nat.eq_of_testBit_eq
    intro i
    rw [Nat.testBit_div_two, Nat.testBit_xor, Nat.testBit_xor, Nat.testBit_div_two]
    congr 1
    rw [← Nat.testBit_div_two]
    congr 1
    omega
  unfold crcBit
  rw [h1, h2]
  split
  · rw [Nat.xor_assoc, Nat.xor_comm y, ← Nat.xor_assoc]
  · rfl
theorem crcN_xor (n s y : Nat) : crcN n (s ^^^ (2 ^ n * y)) = crcN n s ^^^ y := by
  induction n generalizing y with
  | zero => simp [crcN]
  | succ n ih =>
    simp only [crcN]
    rw [Nat.pow_succ, Nat.mul_assoc, ih, crcBit_xor]
theorem crcBit_inj {s t : Nat} (hs : s < 18446744073709551616) (ht : t < 18446744073709551616) (h : crcBit s = crcBit t) : s = t := by
  unfold crcBit at h
  have hf : Nat.testBit 14514072000185962306 63 = true := by decide
  have top : ∀ x : Nat, x < 18446744073709551616 → Nat.testBit (x / 2) 63 = false := fun x hx =>
    Nat.testBit_lt_two_pow (by omega)
  split at h <;> split at h
  · have : s / 2 = t / 2 := by
      have := congrArg (· ^^^ 14514072000185962306) h
      simpa [Nat.xor_assoc] using this
    omega
  · have := congrArg (Nat.testBit · 63) h
    simp [Nat.testBit_xor, hf, top s hs, top t ht] at this
  · have := congrArg (Nat.testBit · 63) h
    simp [Nat.testBit_xor, hf, top s hs, top t ht] at this
  · omega
theorem crcN_inj {n s t : Nat} (hs : s < 18446744073709551616) (ht : t < 18446744073709551616) (h : crcN n s = crcN n t) : s = t := by
  induction n with
  | zero => exact h
  | succ n ih => exact ih (crcBit_inj (crcN_lt hs n) (crcN_lt ht n) h)
/-- the first k bytes of a word, taken in -/
theorem crcL_word (s x k : Nat) : crcL s (byteL x k) = crcN (8 * k) (s ^^^ x % 256 ^ k) := by
  induction k with
  | zero => simp [byteL, crcL, crcN, Nat.mod_one]
  | succ k ih =>
    have e : byteL x (k + 1) = byteL x k ++ [x / 256 ^ k % 256] := by simp [byteL, List.range_succ]
    have hp : (256 : Nat) ^ k = 2 ^ (8 * k) := by rw [show (256 : Nat) = 2 ^ 8 by rfl, ← Nat.pow_mul]
    have hx : x % 256 ^ (k + 1) = (x % 256 ^ k) ^^^ (2 ^ (8 * k) * (x / 256 ^ k % 256)) := by
      have h0 : x % 256 ^ (k + 1) = 2 ^ (8 * k) * (x / 256 ^ k % 256) + x % 256 ^ k := by rw [Nat.pow_succ, Nat.mod_mul, Nat.add_comm, ← hp]
      rw [h0]
      have hlt : x % 256 ^ k < 2 ^ (8 * k) := by rw [← hp]; exact Nat.mod_lt _ (by rw [hp]; exact Nat.two_pow_pos _)
      apply Nat.eq_of_testBit_eq
      intro i
      rw [Nat.testBit_two_pow_mul_add _ hlt, Nat.testBit_xor, Nat.testBit_two_pow_mul]
      by_cases hi : i < 8 * k
      · simp [hi, Nat.not_le.2 hi]
      · have : (x % 256 ^ k).testBit i = false := Nat.testBit_lt_two_pow (Nat.lt_of_lt_of_le hlt (Nat.pow_le_pow_right (by decide) (by omega)))
        simp [hi, this, Nat.not_lt.1 hi]
    rw [e, crcL, List.foldl_append]
    show crcByte (crcL s (byteL x k)) _ = _
    rw [ih]
    unfold crcByte
    rw [show 8 * (k + 1) = 8 + 8 * k by omega, crcN_add, hx, ← Nat.xor_assoc, crcN_xor]
def crcW (k s : Nat) (ws : List Nat) : Nat := ws.foldl (fun s x => crcN k (s ^^^ x)) s
theorem crcL_words (k s : Nat) (hk : 8 * 8 = k) (ws : List Nat) (h : ∀ x ∈ ws, x < 18446744073709551616) : crcL s (bytesL ws) = crcW k s ws := by
  induction ws generalizing s with
  | nil => rfl
  | cons x r ih =>
    have hx := h x (by simp)
    have e : bytesL (x :: r) = byteL x 8 ++ bytesL r := by simp [bytesL]
    rw [e, crcL, List.foldl_append]
    show crcL (crcL s (byteL x 8)) (bytesL r) = _
    rw [ih _ (fun y hy => h y (by simp [hy])), crcL_word, Nat.mod_eq_of_lt (show x < 256 ^ 8 from hx), hk]
    rfl
theorem crcW_lt (k s : Nat) (ws : List Nat) (hs : s < 18446744073709551616) (h : ∀ x ∈ ws, x < 18446744073709551616) : crcW k s ws < 18446744073709551616 := by
  induction ws generalizing s with
  | nil => exact hs
  | cons x r ih => exact ih _ (crcN_lt (xor_lt hs (h x (by simp))) k) (fun y hy => h y (by simp [hy]))
theorem crcW_inj (k s t : Nat) (ws : List Nat) (hs : s < 18446744073709551616) (ht : t < 18446744073709551616) (h : ∀ x ∈ ws, x < 18446744073709551616) (he : crcW k s ws = crcW k t ws) : s = t := by
  induction ws generalizing s t with
  | nil => exact he
  | cons x r ih =>
    have hx := h x (by simp)
    have h1 := ih _ _ (crcN_lt (xor_lt hs hx) k) (crcN_lt (xor_lt ht hx) k) (fun y hy => h y (by simp [hy])) he
    have h2 := crcN_inj (xor_lt hs hx) (xor_lt ht hx) h1
    have h3 := congrArg (· ^^^ x) h2
    simpa [Nat.xor_assoc] using h3
/-- One word another: another sum. -/
theorem wsum_other (l r : List Nat) (x y : Nat) (hl : ∀ z ∈ l, z < 18446744073709551616) (hr : ∀ z ∈ r, z < 18446744073709551616) (hx : x < 18446744073709551616) (hy : y < 18446744073709551616) (h : wsum (l ++ x :: r) = wsum (l ++ y :: r)) : x = y := by
  have n0 : notU 0 < 18446744073709551616 := by decide
  have ha : ∀ z, z < 18446744073709551616 → ∀ u ∈ l ++ z :: r, u < 18446744073709551616 := by
    intro z hz u hu
    rcases List.mem_append.1 hu with h | h
    · exact hl u h
    · rcases List.mem_cons.1 h with rfl | h
      · exact hz
      · exact hr u h
  obtain ⟨k, hk⟩ : ∃ k, 8 * 8 = k := ⟨_, rfl⟩
  obtain ⟨s, hs⟩ : ∃ s, notU 0 = s := ⟨_, rfl⟩
  rw [hs] at n0
  unfold wsum more at h
  rw [hs] at h
  rw [crcL_words k _ hk _ (ha x hx), crcL_words k _ hk _ (ha y hy)] at h
  have hlx := crcW_lt k _ _ n0 (ha x hx)
  have hly := crcW_lt k _ _ n0 (ha y hy)
  have h1 : crcW k s (l ++ x :: r) = crcW k s (l ++ y :: r) := by unfold notU at h; omega
  unfold crcW at h1
  rw [List.foldl_append, List.foldl_append] at h1
  have hm := crcW_lt k _ _ n0 hl
  have h2 := crcW_inj k _ _ r (crcN_lt (xor_lt hm hx) k) (crcN_lt (xor_lt hm hy) k) hr h1
  have h3 := crcN_inj (xor_lt hm hx) (xor_lt hm hy) h2
  have h4 := congrArg (crcW k s l ^^^ ·) h3
  simpa [crcW, ← Nat.xor_assoc] using h4
/-- The fourth word of a file is nothing, or large. -/
theorem okFl_3 {a : Nat → Nat} (h : okFl a) : a 3 = 0 ∨ 1099511627776 ≤ a 3 := by
  obtain ⟨l, z, m, hI, he⟩ := h
  obtain ⟨hl, ⟨h2, _⟩ | ⟨_, _, _, _, hf⟩ | ⟨h2, _⟩ | ⟨h2, _⟩⟩ := hI
  · exact absurd h2 (by decide)
  · have e := inoW_1 l z m 0 0 [] hf.2.1
    rw [he] at e
    have e3 : (jsixL a)[3]? = some (a 3) := rfl
    rw [e] at e3
    have hlen := wrdN_len hf.2.1
    simp only [List.getElem?_cons_succ] at e3
    rw [List.getElem?_append_left (by omega)] at e3
    unfold wrdN wrdZ at e3
    by_cases h1 : 1 < m.length
    · obtain ⟨x, hx⟩ : ∃ x, m[1]? = some x := ⟨_, List.getElem?_eq_getElem h1⟩
      have hm := hf.2.1.2.1 x (List.mem_of_getElem? hx)
      rw [List.getElem?_map, List.getElem?_append_left (by simpa using h1), List.getElem?_map, hx] at e3
      simp only [Option.map_some, Option.some.injEq] at e3
      right
      rw [← e3]
      unfold pkZ
      unfold mayE at hm
      omega
    · left
      rw [List.getElem?_map, List.getElem?_append_right (by simp; omega), List.getElem?_replicate] at e3
      split at e3
      · simp only [Option.map_some, Option.some.injEq] at e3
        rw [← e3]
        rfl
      · cases e3
  · exact absurd h2 (by decide)
  · exact absurd h2 (by decide)
theorem set_split {pre : List Nat} {at_ x y : Nat} (hx : pre[at_]? = some x) : pre = pre.take at_ ++ x :: pre.drop (at_ + 1) ∧ pre.set at_ y = pre.take at_ ++ y :: pre.drop (at_ + 1) := by
  have hl := (List.getElem?_eq_some_iff.1 hx).1
  have hg := (List.getElem?_eq_some_iff.1 hx).2
  constructor
  · conv => lhs; rw [← List.take_append_drop at_ pre, List.drop_eq_getElem_cons hl, hg]
  · rw [List.set_eq_take_append_cons_drop, if_pos hl]
theorem seal_bent {pre pre' : List Nat} {at_ x y : Nat} (hp : ∀ z ∈ pre, z < 18446744073709551616) (hs : wsum pre < 18446744073709551616) (hl : pre'.length = pre.length) (hx : (pre ++ [wsum pre])[at_]? = some x) (hy : y < 18446744073709551616) (hne : y ≠ x) (h : (pre ++ [wsum pre]).set at_ y = pre' ++ [wsum pre']) : False := by
  by_cases ha : at_ < pre.length
  · rw [List.getElem?_append_left ha] at hx
    rw [List.set_append_left _ _ ha] at h
    obtain ⟨h1, h2⟩ := List.append_inj h (by simp [hl])
    have h3 : wsum pre = wsum pre' := by simpa using h2
    rw [← h1] at h3
    obtain ⟨s1, s2⟩ := set_split (y := y) hx
    rw [s2] at h3
    conv at h3 => lhs; rw [s1]
    exact hne (wsum_other _ _ x y (fun z hz => hp z (List.mem_of_mem_take hz)) (fun z hz => hp z (List.mem_of_mem_drop hz)) (hp x (List.mem_of_getElem? hx)) hy h3).symm
  · have hle := (List.getElem?_eq_some_iff.1 hx).1
    simp only [List.length_append, List.length_cons, List.length_nil] at hle
    have e : at_ = pre.length := by omega
    subst e
    rw [List.getElem?_append_right (Nat.le_refl _), Nat.sub_self] at hx
    rw [List.set_append_right _ _ (Nat.le_refl _), Nat.sub_self] at h
    obtain ⟨h1, h2⟩ := List.append_inj h (by simp [hl])
    simp only [List.set_cons_zero, List.cons.injEq, and_true] at h2
    simp only [List.getElem?_cons_zero, Option.some.injEq] at hx
    rw [← h1] at h2
    omega
theorem jpreW_len (k n : Int) (a : Nat → Nat) (f t : Int) (fk tk : Nat) (r : Int) (d : Bool) : (jpreW k n a f t fk tk r d).length = if k = 1 then 18 else 8 := by
  unfold jpreW
  by_cases h : k = 1
  · rw [if_pos h, if_pos h]; rfl
  · rw [if_neg h, if_neg h]; rfl
theorem jbent {k n : Int} {a : Nat → Nat} {f t : Int} {fk tk : Nat} {r : Int} {d : Bool} {li lr : Int} (hlr : lr ≤ 1024) (hok : okJ k n a f t fk tk r d li lr) (hp : ∀ z ∈ jpreW k n a f t fk tk r d, z < 18446744073709551616) (hs : wsum (jpreW k n a f t fk tk r d) < 18446744073709551616) {at_ x y : Nat} (z : List Nat) (hx : (jW k n a f t fk tk r d)[at_]? = some x) (hy : y < 18446744073709551616) (hne : y ≠ x) (k' n' : Int) (a' : Nat → Nat) (f' t' : Int) (fk' tk' : Nat) (r' : Int) (d' : Bool) : ¬jHas ((jW k n a f t fk tk r d ++ z).set at_ y) k' n' a' f' t' fk' tk' r' d' li lr := by
  rintro ⟨hok', htk⟩
  have hat := (List.getElem?_eq_some_iff.1 hx).1
  have hlen := jW_len k n a f t fk tk r d
  have hlen' := jW_len k' n' a' f' t' fk' tk' r' d'
  have hat' : ∀ {j v : Nat}, (jW k' n' a' f' t' fk' tk' r' d')[j]? = some v → ((jW k n a f t fk tk r d ++ z).set at_ y)[j]? = some v := fun h => take_at htk h
  have hset : ∀ {j v : Nat}, j ≠ at_ → (jW k n a f t fk tk r d)[j]? = some v → ((jW k n a f t fk tk r d ++ z).set at_ y)[j]? = some v := fun {j v} hj h => by
    rw [List.getElem?_set_ne (fun e => hj e.symm), List.getElem?_append_left (List.getElem?_eq_some_iff.1 h).1]
    exact h
  by_cases hk : k' = k
  · have hl2 : (jW k' n' a' f' t' fk' tk' r' d').length = (jW k n a f t fk tk r d).length := by rw [hlen, hlen', hk]
    rw [hl2, List.set_append_left _ _ hat, List.take_left' (by simp)] at htk
    unfold jW at htk hx
    exact seal_bent hp hs (by rw [jpreW_len, jpreW_len, hk]) hx hy hne htk
  · rcases hok with ⟨rfl, hn, hfl, rfl, rfl, rfl, rfl, rfl, rfl⟩ | ⟨rfl, hn, ha, h1, h2, h3, h4⟩
    · rcases hok' with ⟨rfl, _⟩ | ⟨rfl, hn', ha', h1', h2', h3', h4'⟩
      · exact hk rfl
      · by_cases h0 : at_ = 0
        · subst h0
          have e1 := hset (j := 5) (v := a 3) (by decide) rfl
          have e2 := hat' (j := 5) (v := r'.toNat) rfl
          rw [e1] at e2
          have e3 := Option.some.inj e2
          have := okFl_3 hfl
          omega
        · have e1 := hset (j := 0) (v := 4353) (by omega) rfl
          have e2 := hat' (j := 0) (v := 1794) rfl
          rw [e1] at e2
          cases e2
    · rcases hok' with ⟨rfl, hn', hfl', rfl, rfl, rfl, rfl, rfl, rfl⟩ | ⟨rfl, _⟩
      · by_cases h0 : at_ = 0
        · subst h0
          have e1 := hset (j := 5) (v := r.toNat) (by decide) rfl
          have e2 := hat' (j := 5) (v := a' 3) rfl
          rw [e1] at e2
          have e3 := Option.some.inj e2
          have := okFl_3 hfl'
          omega
        · have e1 := hset (j := 0) (v := 1794) (by omega) rfl
          have e2 := hat' (j := 0) (v := 4353) rfl
          rw [e1] at e2
          cases e2
      · exact hk rfl
theorem owns_form {w : World} {e base n : Nat} {v : Value} {xs : List Value} (h : w.ownsRow base e 1 v n xs) (hn : 0 < n) : ∃ g cap, v = .slice (some ⟨g, 0, none⟩) n cap ∧ base ≤ g ∧ g < w.heap.size ∧ n ≤ cap := by
  rcases id h.2 with ⟨rfl, e1⟩ | ⟨g, cap, cur, rfl, hbg, hg, hnc, hcm, hcs, htake⟩
  · omega
  · exact ⟨g, cap, rfl, hbg, (Array.getElem?_eq_some_iff.1 hg).1, hnc⟩
theorem jbent_A (fb fi fr ft : Int) (k n : Int) (a : Nat → Nat) (f t : Int) (fk tk : Nat) (r : Int) (d : Bool) (at_ : Int) (by_ : Nat) (w : World) (hS : Start w) (hb : ∀ x ∈ jsixL a, x < 18446744073709551616) (h : ¬(ly_okF fb fi fr ft ∧ okJ k n a f t fk tk r d fi fr)) : Calls Tryz.prog 6 #[formV fb fi fr ft, redV k n a f t fk tk r d, .int .i64 at_, .int .u64 (by_ : Int)] w fun x w' => x = .returned (.bool true) ∧ Below w.heap.size w w' := by
  have q := Below.refl w.heap.size w
  have hSF : ∀ X, Below w.heap.size w X → Start X := fun X b => hS.up b
  by_cases hf : ly_okF fb fi fr ft
  · have hlay := fun W => jlaw_T fb fi fr ft W hf
    have hwn := fun W (hS : Start W) => jWords_P k n a f t fk tk r d fb fi fr ft 3 4 9 (9 + fi / 4) (9 + fi / 4 + fr / 4) (10 + fi / 4 + fr / 4) 310 W hS hb (.inr ⟨⟨hf, rfl, rfl, rfl, rfl⟩, fun ho => h ⟨hf, ho⟩, rfl⟩)
    clear hS h
    refine X.fn Tryz.func6 rfl (n := 95) rfl rfl ?_
    refine Zr ?_
    refine LL.box [.int .i64 fb, .int .i64 fi, .int .i64 fr, .int .i64 ft] rfl rfl rfl rfl rfl ?_
    intro W2 g3 eg3 r4 z5 b1
    replace q := Zu q b1; have l6 := r4.lt
    refine LL.box (redL k n a f t fk tk r d) rfl rfl rfl rfl rfl ?_
    intro W8 g9 eg9 r10 z11 b7
    replace r4 := r4.up b7; replace q := Zu q b7; refine Za ?_; refine Zq ?_; refine Zr ?_; refine Zv r4 ?_
    refine Zy (R.call rfl rfl rfl) (hlay _) ?_
    rintro e W13 ⟨rfl, b12⟩
    refine ⟨_, rfl, ?_⟩; have zb12 := b12.size; replace r10 := r10.up b12; replace r4 := r4.up b12; replace q := Zu q b12; have l15 := r10.lt; have l16 := r4.lt
    refine LL.alloc ([.int .i64 0, .int .i64 0, .int .i64 0, .int .i64 0, .int .u64 0, .int .u64 0, .int .i64 0, .int .i64 0, .int .i64 0, .int .i64 0]) rfl rfl rfl rfl rfl ?_
    intro W18 g19 eg19 r20 z21 b17
    replace r10 := r10.up b17; replace r4 := r4.up b17; replace q := Zu q b17
    refine LL.storeN (vs := [.int .i64 fb, .int .i64 fi, .int .i64 fr, .int .i64 ft, .int .u64 ↑3, .int .u64 ↑4, .int .i64 9, .int .i64 (9 + fi / 4), .int .i64 (9 + fi / 4 + fr / 4), .int .i64 (10 + fi / 4 + fr / 4)]) rfl rfl rfl rfl r20 (by exact Nat.le_of_ble_eq_true rfl) (ones_of rfl) rfl rfl ?_
    intro W23 r24 b22 z25
    have hlb22 := r20.lt
    replace r24 : RowL W23 _ 31 [.int .i64 fb, .int .i64 fi, .int .i64 fr, .int .i64 ft, .int .u64 ↑3, .int .u64 ↑4, .int .i64 9, .int .i64 (9 + fi / 4), .int .i64 (9 + fi / 4 + fr / 4), .int .i64 (10 + fi / 4 + fr / 4)] := r24
    clear r20
    replace r10 := Zd r10 b22; replace r4 := Zd r4 b22; replace q := Zg q b22
    have r20 := r24
    clear r24
    refine Zq ?_; refine Zr ?_; refine Zv r20 ?_; refine Zv r10 ?_
    refine Zy (R.call rfl rfl rfl) (hwn _ (hSF _ q)) ?_
    rintro e W27 ⟨rfl, b26⟩
    refine ⟨_, rfl, ?_⟩; have zb26 := b26.size; replace r10 := r10.up b26; replace r4 := r4.up b26; replace q := Zu q b26; replace r20 := r20.up b26; refine Zm ?_; refine Zx ?_; refine Zx ?_; refine Za ?_; refine Za ?_; refine Zq ?_; refine Zc ?_; refine Zr ?_; refine Zm ?_
    refine Zy (R.call rfl rfl rfl) (num_any _ _) ?_
    rintro e W' ⟨rfl, rfl⟩
    refine ⟨_, rfl, ?_⟩; refine ZneT ?_; refine Zm ?_; refine Zs ?_; refine Zs ?_; refine Zs ?_; refine Zp ?_; refine Zm ?_; refine Zs ?_; refine Zs ?_; refine Zp ?_; refine Zm ?_; refine Zs ?_; refine Zs ?_; refine Zs ?_; refine Zs ?_; refine Zp ?_; refine Zq ?_; refine ZY ?_; refine Zr ?_
    refine Zy (R.call rfl rfl rfl) (works_any _ (hSF _ q)) ?_
    rintro e W30 ⟨rfl, b29⟩
    refine ⟨_, rfl, ?_⟩; have zb29 := b29.size; replace r10 := r10.up b29; replace r4 := r4.up b29; replace q := Zu q b29; replace r20 := r20.up b29; refine Za ?_; refine Zq ?_; refine ZR ?_; refine EE.thenR ?_; refine EE.ret _ rfl rfl ?_
    exact ⟨rfl, q⟩
  · have hlay := fun W => jlaw_Fx fb fi fr ft W hf
    have hwn := fun W (hS : Start W) => jWords_P k n a f t fk tk r d 0 0 0 0 0 0 0 0 0 0 2 W hS hb (.inl ⟨fun hl => by omega, rfl⟩)
    clear hS h
    refine X.fn Tryz.func6 rfl (n := 95) rfl rfl ?_
    refine Zr ?_
    refine LL.box [.int .i64 fb, .int .i64 fi, .int .i64 fr, .int .i64 ft] rfl rfl rfl rfl rfl ?_
    intro Wa2 ga3 ega3 ra4 za5 ba1
    replace q := Zu q ba1; have la6 := ra4.lt
    refine LL.box (redL k n a f t fk tk r d) rfl rfl rfl rfl rfl ?_
    intro Wa8 ga9 ega9 ra10 za11 ba7
    replace ra4 := ra4.up ba7; replace q := Zu q ba7; refine Za ?_; refine Zq ?_; refine Zr ?_; refine Zv ra4 ?_
    refine Zy (R.call rfl rfl rfl) (hlay _) ?_
    rintro e Wa13 ⟨rfl, ba12⟩
    refine ⟨_, rfl, ?_⟩; have zba12 := ba12.size; replace ra10 := ra10.up ba12; replace ra4 := ra4.up ba12; replace q := Zu q ba12; have la15 := ra10.lt; have la16 := ra4.lt
    refine LL.alloc ([.int .i64 0, .int .i64 0, .int .i64 0, .int .i64 0, .int .u64 0, .int .u64 0, .int .i64 0, .int .i64 0, .int .i64 0, .int .i64 0]) rfl rfl rfl rfl rfl ?_
    intro Wa18 ga19 ega19 ra20 za21 ba17
    replace ra10 := ra10.up ba17; replace ra4 := ra4.up ba17; replace q := Zu q ba17
    refine LL.storeN (vs := [.int .i64 0, .int .i64 0, .int .i64 0, .int .i64 0, .int .u64 ↑0, .int .u64 ↑0, .int .i64 0, .int .i64 0, .int .i64 0, .int .i64 0]) rfl rfl rfl rfl ra20 (by exact Nat.le_of_ble_eq_true rfl) (ones_of rfl) rfl rfl ?_
    intro Wa23 ra24 ba22 za25
    have hlba22 := ra20.lt
    replace ra24 : RowL Wa23 _ 31 [.int .i64 0, .int .i64 0, .int .i64 0, .int .i64 0, .int .u64 ↑0, .int .u64 ↑0, .int .i64 0, .int .i64 0, .int .i64 0, .int .i64 0] := ra24
    clear ra20
    replace ra10 := Zd ra10 ba22; replace ra4 := Zd ra4 ba22; replace q := Zg q ba22
    have ra20 := ra24
    clear ra24
    refine Zq ?_; refine Zr ?_; refine Zv ra20 ?_; refine Zv ra10 ?_
    refine Zy (R.call rfl rfl rfl) (hwn _ (hSF _ q)) ?_
    rintro e Wa27 ⟨rfl, ba26⟩
    refine ⟨_, rfl, ?_⟩; have zba26 := ba26.size; replace ra10 := ra10.up ba26; replace ra4 := ra4.up ba26; replace q := Zu q ba26; replace ra20 := ra20.up ba26; refine Zm ?_; refine Zx ?_; refine Zx ?_; refine Za ?_; refine Za ?_; refine Zq ?_; refine Zc ?_; refine Zr ?_; refine Zm ?_
    refine Zy (R.call rfl rfl rfl) (num_any _ _) ?_
    rintro e W' ⟨rfl, rfl⟩
    refine ⟨_, rfl, ?_⟩; refine ZneT ?_; refine Zm ?_; refine Zs ?_; refine Zs ?_; refine Zs ?_; refine Zp ?_; refine Zm ?_; refine Zs ?_; refine Zs ?_; refine Zp ?_; refine Zm ?_; refine Zs ?_; refine Zs ?_; refine Zs ?_; refine Zs ?_; refine Zp ?_; refine Zq ?_; refine ZY ?_; refine Zr ?_
    refine Zy (R.call rfl rfl rfl) (works_any _ (hSF _ q)) ?_
    rintro e Wa30 ⟨rfl, ba29⟩
    refine ⟨_, rfl, ?_⟩; have zba29 := ba29.size; replace ra10 := ra10.up ba29; replace ra4 := ra4.up ba29; replace q := Zu q ba29; replace ra20 := ra20.up ba29; refine Za ?_; refine Zq ?_; refine ZR ?_; refine EE.thenR ?_; refine EE.ret _ rfl rfl ?_
    exact ⟨rfl, q⟩
--C journal_Words | hwo @w (hSF _ q) | ⟨@v, rfl, @g, @k, rfl, @h, @r, @o, @l, @b⟩
theorem jbent_C (fb fi fr ft : Int) (k n : Int) (a : Nat → Nat) (f t : Int) (fk tk : Nat) (r : Int) (d : Bool) (at_ : Int) (by_ : Nat) (w : World) (hS : Start w) (hf : ly_okF fb fi fr ft) (ho : okJ k n a f t fk tk r d fi fr) (h : at_ < 0 ∨ ((jW k n a f t fk tk r d).length : Int) ≤ at_) : Calls Tryz.prog 6 #[formV fb fi fr ft, redV k n a f t fk tk r d, .int .i64 at_, .int .u64 (by_ : Int)] w fun x w' => x = .returned (.bool true) ∧ Below w.heap.size w w' := by
  have q := Below.refl w.heap.size w
  have hSF : ∀ X, Below w.heap.size w X → Start X := fun X b => hS.up b
  have hlay := fun W => jlaw_T fb fi fr ft W hf
  have hwo := fun W (hS : Start W) => jWords_T k n a f t fk tk r d fb fi fr ft 3 4 9 (9 + fi / 4) (9 + fi / 4 + fr / 4) (10 + fi / 4 + fr / 4) W hS ⟨hf, rfl, rfl, rfl, rfl⟩ ho
  have hjl := jW_len k n a f t fk tk r d
  obtain ⟨ws, ews⟩ : ∃ ws, jW k n a f t fk tk r d = ws := ⟨_, rfl⟩
  unfold jnewW at hwo
  rw [ews] at hwo hjl h
  obtain ⟨N, hN⟩ : ∃ N, ws.length = N := ⟨_, rfl⟩
  rw [hN] at hwo hjl h
  have hN2 : 9 ≤ N ∧ N ≤ 19 := by split at hjl <;> omega
  clear hS hjl
  rcases h with h | h
  · refine X.fn Tryz.func6 rfl (n := 95) rfl rfl ?_
    refine Zr ?_
    refine LL.box [.int .i64 fb, .int .i64 fi, .int .i64 fr, .int .i64 ft] rfl rfl rfl rfl rfl ?_
    intro W2 g3 eg3 r4 z5 b1
    replace q := Zu q b1; have l6 := r4.lt
    refine LL.box (redL k n a f t fk tk r d) rfl rfl rfl rfl rfl ?_
    intro W8 g9 eg9 r10 z11 b7
    replace r4 := r4.up b7; replace q := Zu q b7; refine Za ?_; refine Zq ?_; refine Zr ?_; refine Zv r4 ?_
    refine Zy (R.call rfl rfl rfl) (hlay _) ?_
    rintro e W13 ⟨rfl, b12⟩
    refine ⟨_, rfl, ?_⟩; have zb12 := b12.size; replace r10 := r10.up b12; replace r4 := r4.up b12; replace q := Zu q b12; have l15 := r10.lt; have l16 := r4.lt
    refine LL.alloc ([.int .i64 0, .int .i64 0, .int .i64 0, .int .i64 0, .int .u64 0, .int .u64 0, .int .i64 0, .int .i64 0, .int .i64 0, .int .i64 0]) rfl rfl rfl rfl rfl ?_
    intro W18 g19 eg19 r20 z21 b17
    replace r10 := r10.up b17; replace r4 := r4.up b17; replace q := Zu q b17
    refine LL.storeN (vs := [.int .i64 fb, .int .i64 fi, .int .i64 fr, .int .i64 ft, .int .u64 ↑3, .int .u64 ↑4, .int .i64 9, .int .i64 (9 + fi / 4), .int .i64 (9 + fi / 4 + fr / 4), .int .i64 (10 + fi / 4 + fr / 4)]) rfl rfl rfl rfl r20 (by exact Nat.le_of_ble_eq_true rfl) (ones_of rfl) rfl rfl ?_
    intro W23 r24 b22 z25
    have hlb22 := r20.lt
    replace r24 : RowL W23 _ 31 [.int .i64 fb, .int .i64 fi, .int .i64 fr, .int .i64 ft, .int .u64 ↑3, .int .u64 ↑4, .int .i64 9, .int .i64 (9 + fi / 4), .int .i64 (9 + fi / 4 + fr / 4), .int .i64 (10 + fi / 4 + fr / 4)] := r24
    clear r20
    replace r10 := Zd r10 b22; replace r4 := Zd r4 b22; replace q := Zg q b22
    have r20 := r24
    clear r24
    refine Zq ?_; refine Zr ?_; refine Zv r20 ?_; refine Zv r10 ?_
    refine Zy (R.call rfl rfl rfl) (hwo _ (hSF _ q)) ?_
    rintro e W27 ⟨v33, rfl, g29, k34, rfl, h28, r30, o32, l31, b26⟩
    refine ⟨_, rfl, ?_⟩; have zb26 := b26.size; replace r10 := r10.up b26; replace r4 := r4.up b26; replace q := Zu q b26; replace r20 := r20.up b26; refine Zm ?_; refine Zx ?_; refine Zx ?_; refine Za ?_; refine Za ?_; refine Zq ?_; refine Zc ?_; refine Zr ?_; refine Zm ?_
    refine Zy (R.call rfl rfl rfl) (num_any _ _) ?_
    rintro e W' ⟨rfl, rfl⟩
    refine ⟨_, rfl, ?_⟩; refine ZneF ?_; refine Zm ?_; refine Zm ?_; refine Zn ?_; refine ZgtF ?_; refine Zp ?_; refine Zm ?_; refine Zm ?_; refine ZltT ?_; refine Zp ?_; refine Zm ?_; refine Zs ?_; refine Zs ?_; refine Zs ?_; refine Zs ?_; refine Zp ?_; refine Zq ?_; refine ZY ?_; refine Zr ?_
    refine Zy (R.call rfl rfl rfl) (works_any _ (hSF _ q)) ?_
    rintro e W37 ⟨rfl, b36⟩
    refine ⟨_, rfl, ?_⟩; have zb36 := b36.size; replace r30 := r30.up b36; replace r10 := r10.up b36; replace r4 := r4.up b36; replace q := Zu q b36; replace r20 := r20.up b36; refine Za ?_; refine Zq ?_; refine ZR ?_; refine EE.thenR ?_; refine EE.ret _ rfl rfl ?_
    exact ⟨rfl, q⟩
  · by_cases h0 : at_ < 0
    · refine X.fn Tryz.func6 rfl (n := 95) rfl rfl ?_
      refine Zr ?_
      refine LL.box [.int .i64 fb, .int .i64 fi, .int .i64 fr, .int .i64 ft] rfl rfl rfl rfl rfl ?_
      intro Wa2 ga3 ega3 ra4 za5 ba1
      replace q := Zu q ba1; have la6 := ra4.lt
      refine LL.box (redL k n a f t fk tk r d) rfl rfl rfl rfl rfl ?_
      intro Wa8 ga9 ega9 ra10 za11 ba7
      replace ra4 := ra4.up ba7; replace q := Zu q ba7; refine Za ?_; refine Zq ?_; refine Zr ?_; refine Zv ra4 ?_
      refine Zy (R.call rfl rfl rfl) (hlay _) ?_
      rintro e Wa13 ⟨rfl, ba12⟩
      refine ⟨_, rfl, ?_⟩; have zba12 := ba12.size; replace ra10 := ra10.up ba12; replace ra4 := ra4.up ba12; replace q := Zu q ba12; have la15 := ra10.lt; have la16 := ra4.lt
      refine LL.alloc ([.int .i64 0, .int .i64 0, .int .i64 0, .int .i64 0, .int .u64 0, .int .u64 0, .int .i64 0, .int .i64 0, .int .i64 0, .int .i64 0]) rfl rfl rfl rfl rfl ?_
      intro Wa18 ga19 ega19 ra20 za21 ba17
      replace ra10 := ra10.up ba17; replace ra4 := ra4.up ba17; replace q := Zu q ba17
      refine LL.storeN (vs := [.int .i64 fb, .int .i64 fi, .int .i64 fr, .int .i64 ft, .int .u64 ↑3, .int .u64 ↑4, .int .i64 9, .int .i64 (9 + fi / 4), .int .i64 (9 + fi / 4 + fr / 4), .int .i64 (10 + fi / 4 + fr / 4)]) rfl rfl rfl rfl ra20 (by exact Nat.le_of_ble_eq_true rfl) (ones_of rfl) rfl rfl ?_
      intro Wa23 ra24 ba22 za25
      have hlba22 := ra20.lt
      replace ra24 : RowL Wa23 _ 31 [.int .i64 fb, .int .i64 fi, .int .i64 fr, .int .i64 ft, .int .u64 ↑3, .int .u64 ↑4, .int .i64 9, .int .i64 (9 + fi / 4), .int .i64 (9 + fi / 4 + fr / 4), .int .i64 (10 + fi / 4 + fr / 4)] := ra24
      clear ra20
      replace ra10 := Zd ra10 ba22; replace ra4 := Zd ra4 ba22; replace q := Zg q ba22
      have ra20 := ra24
      clear ra24
      refine Zq ?_; refine Zr ?_; refine Zv ra20 ?_; refine Zv ra10 ?_
      refine Zy (R.call rfl rfl rfl) (hwo _ (hSF _ q)) ?_
      rintro e Wa27 ⟨va33, rfl, ga29, ka34, rfl, ha28, ra30, oa32, la31, ba26⟩
      refine ⟨_, rfl, ?_⟩; have zba26 := ba26.size; replace ra10 := ra10.up ba26; replace ra4 := ra4.up ba26; replace q := Zu q ba26; replace ra20 := ra20.up ba26; refine Zm ?_; refine Zx ?_; refine Zx ?_; refine Za ?_; refine Za ?_; refine Zq ?_; refine Zc ?_; refine Zr ?_; refine Zm ?_
      refine Zy (R.call rfl rfl rfl) (num_any _ _) ?_
      rintro e W' ⟨rfl, rfl⟩
      refine ⟨_, rfl, ?_⟩; refine ZneT ?_; refine Zm ?_; refine Zs ?_; refine Zs ?_; refine Zs ?_; refine Zp ?_; refine Zm ?_; refine Zs ?_; refine Zs ?_; refine Zp ?_; refine Zm ?_; refine Zs ?_; refine Zs ?_; refine Zs ?_; refine Zs ?_; refine Zp ?_; refine Zq ?_; refine ZY ?_; refine Zr ?_
      refine Zy (R.call rfl rfl rfl) (works_any _ (hSF _ q)) ?_
      rintro e Wa37 ⟨rfl, ba36⟩
      refine ⟨_, rfl, ?_⟩; have zba36 := ba36.size; replace ra30 := ra30.up ba36; replace ra10 := ra10.up ba36; replace ra4 := ra4.up ba36; replace q := Zu q ba36; replace ra20 := ra20.up ba36; refine Za ?_; refine Zq ?_; refine ZR ?_; refine EE.thenR ?_; refine EE.ret _ rfl rfl ?_
      exact ⟨rfl, q⟩
    · refine X.fn Tryz.func6 rfl (n := 95) rfl rfl ?_
      refine Zr ?_
      refine LL.box [.int .i64 fb, .int .i64 fi, .int .i64 fr, .int .i64 ft] rfl rfl rfl rfl rfl ?_
      intro Wb2 gb3 egb3 rb4 zb5 bb1
      replace q := Zu q bb1; have lb6 := rb4.lt
      refine LL.box (redL k n a f t fk tk r d) rfl rfl rfl rfl rfl ?_
      intro Wb8 gb9 egb9 rb10 zb11 bb7
      replace rb4 := rb4.up bb7; replace q := Zu q bb7; refine Za ?_; refine Zq ?_; refine Zr ?_; refine Zv rb4 ?_
      refine Zy (R.call rfl rfl rfl) (hlay _) ?_
      rintro e Wb13 ⟨rfl, bb12⟩
      refine ⟨_, rfl, ?_⟩; have zbb12 := bb12.size; replace rb10 := rb10.up bb12; replace rb4 := rb4.up bb12; replace q := Zu q bb12; have lb15 := rb10.lt; have lb16 := rb4.lt
      refine LL.alloc ([.int .i64 0, .int .i64 0, .int .i64 0, .int .i64 0, .int .u64 0, .int .u64 0, .int .i64 0, .int .i64 0, .int .i64 0, .int .i64 0]) rfl rfl rfl rfl rfl ?_
      intro Wb18 gb19 egb19 rb20 zb21 bb17
      replace rb10 := rb10.up bb17; replace rb4 := rb4.up bb17; replace q := Zu q bb17
      refine LL.storeN (vs := [.int .i64 fb, .int .i64 fi, .int .i64 fr, .int .i64 ft, .int .u64 ↑3, .int .u64 ↑4, .int .i64 9, .int .i64 (9 + fi / 4), .int .i64 (9 + fi / 4 + fr / 4), .int .i64 (10 + fi / 4 + fr / 4)]) rfl rfl rfl rfl rb20 (by exact Nat.le_of_ble_eq_true rfl) (ones_of rfl) rfl rfl ?_
      intro Wb23 rb24 bb22 zb25
      have hlbb22 := rb20.lt
      replace rb24 : RowL Wb23 _ 31 [.int .i64 fb, .int .i64 fi, .int .i64 fr, .int .i64 ft, .int .u64 ↑3, .int .u64 ↑4, .int .i64 9, .int .i64 (9 + fi / 4), .int .i64 (9 + fi / 4 + fr / 4), .int .i64 (10 + fi / 4 + fr / 4)] := rb24
      clear rb20
      replace rb10 := Zd rb10 bb22; replace rb4 := Zd rb4 bb22; replace q := Zg q bb22
      have rb20 := rb24
      clear rb24
      refine Zq ?_; refine Zr ?_; refine Zv rb20 ?_; refine Zv rb10 ?_
      refine Zy (R.call rfl rfl rfl) (hwo _ (hSF _ q)) ?_
      rintro e Wb27 ⟨vb33, rfl, gb29, kb34, rfl, hb28, rb30, ob32, lb31, bb26⟩
      refine ⟨_, rfl, ?_⟩; have zbb26 := bb26.size; replace rb10 := rb10.up bb26; replace rb4 := rb4.up bb26; replace q := Zu q bb26; replace rb20 := rb20.up bb26; refine Zm ?_; refine Zx ?_; refine Zx ?_; refine Za ?_; refine Za ?_; refine Zq ?_; refine Zc ?_; refine Zr ?_; refine Zm ?_
      refine Zy (R.call rfl rfl rfl) (num_any _ _) ?_
      rintro e W' ⟨rfl, rfl⟩
      refine ⟨_, rfl, ?_⟩; refine ZneF ?_; refine Zm ?_; refine Zm ?_; refine Zn ?_; refine ZgtF ?_; refine Zp ?_; refine Zm ?_; refine Zm ?_; refine ZltF ?_; refine Zp ?_; refine Zm ?_; refine Zm ?_; refine Zm ?_; refine Zn ?_; refine ZgeT ?_; refine Zp ?_; refine Zq ?_; refine ZY ?_; refine Zr ?_
      refine Zy (R.call rfl rfl rfl) (works_any _ (hSF _ q)) ?_
      rintro e Wb37 ⟨rfl, bb36⟩
      refine ⟨_, rfl, ?_⟩; have zbb36 := bb36.size; replace rb30 := rb30.up bb36; replace rb10 := rb10.up bb36; replace rb4 := rb4.up bb36; replace q := Zu q bb36; replace rb20 := rb20.up bb36; refine Za ?_; refine Zq ?_; refine ZR ?_; refine EE.thenR ?_; refine EE.ret _ rfl rfl ?_
      exact ⟨rfl, q⟩
theorem jpreW_lt (k n : Int) (a : Nat → Nat) (f t : Int) (fk tk : Nat) (r : Int) (d : Bool) (li lr : Int) (hli : li ≤ 256) (hlr : lr ≤ 1024) (ho : okJ k n a f t fk tk r d li lr) (hb : ∀ x ∈ jsixL a, x < 18446744073709551616) (hfk : fk < 18446744073709551616) (htk : tk < 18446744073709551616) : ∀ z ∈ jpreW k n a f t fk tk r d, z < 18446744073709551616 := by
  intro z hz
  rcases ho with ⟨rfl, hn, hfl, rfl, rfl, rfl, rfl, rfl, rfl⟩ | ⟨rfl, hn, ha, h1, h2, h3, h4⟩
  · have hz2 : z ∈ 4353 :: n.toNat :: jsixL a := hz
    simp only [List.mem_cons] at hz2
    rcases hz2 with rfl | rfl | hz2
    · decide
    · omega
    · exact hb z hz2
  · have hz2 : z ∈ [1794, f.toNat, fk, t.toNat, tk, r.toNat, n.toNat, if d then 1 else 0] := hz
    simp only [List.mem_cons, List.not_mem_nil, or_false] at hz2
    rcases hz2 with rfl | rfl | rfl | rfl | rfl | rfl | rfl | rfl
    · decide
    · omega
    · exact hfk
    · omega
    · exact htk
    · omega
    · omega
    · split <;> decide
theorem jbent_D (fb fi fr ft : Int) (k n : Int) (a : Nat → Nat) (f t : Int) (fk tk : Nat) (r : Int) (d : Bool) (at_ by_ : Nat) (w : World) (hS : Start w) (hf : ly_okF fb fi fr ft) (ho : okJ k n a f t fk tk r d fi fr) (h : at_ < (jW k n a f t fk tk r d).length) (hby : by_ < 18446744073709551616) (hb : ∀ x ∈ jsixL a, x < 18446744073709551616) (hfk : fk < 18446744073709551616) (htk : tk < 18446744073709551616) : Calls Tryz.prog 6 #[formV fb fi fr ft, redV k n a f t fk tk r d, .int .i64 (at_ : Int), .int .u64 (by_ : Int)] w fun x w' => x = .returned (.bool true) ∧ Below w.heap.size w w' := by
  have q := Below.refl w.heap.size w
  have hSF : ∀ X, Below w.heap.size w X → Start X := fun X b => hS.up b
  have hlay := fun W => jlaw_T fb fi fr ft W hf
  have hwo := fun W (hS : Start W) => jWords_T k n a f t fk tk r d fb fi fr ft 3 4 9 (9 + fi / 4) (9 + fi / 4 + fr / 4) (10 + fi / 4 + fr / 4) W hS ⟨hf, rfl, rfl, rfl, rfl⟩ ho
  have hjl := jW_len k n a f t fk tk r d
  have hpl := jpreW_lt k n a f t fk tk r d fi fr (by omega) (by omega) ho hb hfk htk
  have hsl := wsum_lt (jpreW k n a f t fk tk r d)
  have hwl : ∀ z ∈ jW k n a f t fk tk r d, z < 18446744073709551616 := by
    intro z hz
    unfold jW at hz
    rcases List.mem_append.1 hz with hz | hz
    · exact hpl z hz
    · simp only [List.mem_cons, List.not_mem_nil, or_false] at hz
      rw [hz]
      exact hsl
  have hbn := fun (z : List Nat) (x y : Nat) (hx : (jW k n a f t fk tk r d)[at_]? = some x) (hy : y < 18446744073709551616) (hne : y ≠ x) => jbent (by omega) ho hpl hsl z hx hy hne
  have hyes : ∀ z, jHas (jW k n a f t fk tk r d ++ z) k n a f t fk tk r d fi fr := fun z => ⟨ho, by rw [List.take_left' rfl]⟩
  have hl : isL fb fi fr ft 9 (9 + fi / 4) (9 + fi / 4 + fr / 4) (10 + fi / 4 + fr / 4) := ⟨hf, rfl, rfl, rfl, rfl⟩
  obtain ⟨ws, ews⟩ : ∃ ws, jW k n a f t fk tk r d = ws := ⟨_, rfl⟩
  unfold jnewW at hwo
  rw [ews] at hwo hjl h hwl hbn hyes
  obtain ⟨N, hN⟩ : ∃ N, ws.length = N := ⟨_, rfl⟩
  rw [hN] at hwo hjl h
  have hN2 : 9 ≤ N ∧ N ≤ 19 := by split at hjl <;> omega
  have hlu : (ints .u64 ws).length = N := by simp [ints, hN]
  have hvl : (ws ++ List.replicate (64 - N) 0).length = 64 := by simp [hN]; omega
  obtain ⟨x, hx⟩ : ∃ x, ws[at_]? = some x := ⟨_, List.getElem?_eq_getElem (by omega)⟩
  have hx2 : (ws ++ List.replicate (64 - N) 0)[at_]? = some x := by rw [List.getElem?_append_left (by omega)]; exact hx
  have hxb := hwl x (List.mem_of_getElem? hx)
  have hyb : x ^^^ by_ < 18446744073709551616 := Nat.xor_lt_two_pow (n := 64) hxb hby
  obtain ⟨zs, ezs⟩ : ∃ zs, List.replicate (64 - N) 0 = zs := ⟨_, rfl⟩
  have hzb : ∀ z ∈ zs, z < 18446744073709551616 := by
    intro z hz
    rw [← ezs] at hz
    rw [(List.mem_replicate.1 hz).2]
    decide
  rw [ezs] at hvl hx2
  clear hS hjl hpl hsl hfk htk
  refine X.fn Tryz.func6 rfl (n := 95) rfl rfl ?_
  refine Zr ?_
  refine LL.box [.int .i64 fb, .int .i64 fi, .int .i64 fr, .int .i64 ft] rfl rfl rfl rfl rfl ?_
  intro W9 g10 eg10 r11 z12 b8
  replace q := Zu q b8; have l21 := r11.lt
  refine LL.box (redL k n a f t fk tk r d) rfl rfl rfl rfl rfl ?_
  intro W23 g24 eg24 r25 z26 b22
  replace r11 := r11.up b22; replace q := Zu q b22; refine Za ?_; refine Zq ?_; refine Zr ?_; refine Zv r11 ?_
  refine Zy (R.call rfl rfl rfl) (hlay _) ?_
  rintro e W55 ⟨rfl, b54⟩
  refine ⟨_, rfl, ?_⟩; have zb54 := b54.size; replace r25 := r25.up b54; replace r11 := r11.up b54; replace q := Zu q b54; have l66 := r25.lt; have l67 := r11.lt
  refine LL.alloc ([.int .i64 0, .int .i64 0, .int .i64 0, .int .i64 0, .int .u64 0, .int .u64 0, .int .i64 0, .int .i64 0, .int .i64 0, .int .i64 0]) rfl rfl rfl rfl rfl ?_
  intro W69 g70 eg70 r71 z72 b68
  replace r25 := r25.up b68; replace r11 := r11.up b68; replace q := Zu q b68
  refine LL.storeN (vs := [.int .i64 fb, .int .i64 fi, .int .i64 fr, .int .i64 ft, .int .u64 ↑3, .int .u64 ↑4, .int .i64 9, .int .i64 (9 + fi / 4), .int .i64 (9 + fi / 4 + fr / 4), .int .i64 (10 + fi / 4 + fr / 4)]) rfl rfl rfl rfl r71 (by exact Nat.le_of_ble_eq_true rfl) (ones_of rfl) rfl rfl ?_
  intro W84 r85 b83 z86
  have hlb83 := r71.lt
  replace r85 : RowL W84 _ 31 [.int .i64 fb, .int .i64 fi, .int .i64 fr, .int .i64 ft, .int .u64 ↑3, .int .u64 ↑4, .int .i64 9, .int .i64 (9 + fi / 4), .int .i64 (9 + fi / 4 + fr / 4), .int .i64 (10 + fi / 4 + fr / 4)] := r85
  clear r71
  replace r25 := Zd r25 b83; replace r11 := Zd r11 b83; replace q := Zg q b83
  have r71 := r85
  clear r85
  refine Zq ?_; refine Zr ?_; refine Zv r71 ?_; refine Zv r25 ?_; have l111 := r25.lt; have l112 := r11.lt; have l113 := r71.lt
  (refine Zy (R.call rfl rfl rfl) (hwo _ (hSF _ q)) ?_; rintro e W110 ⟨v7, rfl, g7, c7, rfl, hc7, rd7, hg7, hl7, b107⟩; refine ⟨_, rfl, ?_⟩)
  have zb107 := b107.size; replace r25 := r25.up b107; replace r11 := r11.up b107; replace q := Zu q b107; replace r71 := r71.up b107; refine Zm ?_; refine Zx ?_; refine Zx ?_; refine Za ?_; refine Za ?_; refine Zq ?_; refine Zc ?_; refine Zr ?_; refine Zm ?_
  refine Zy (R.call rfl rfl rfl) (num_any _ _) ?_
  rintro e W' ⟨rfl, rfl⟩
  refine ⟨_, rfl, ?_⟩; refine ZneF ?_; refine Zm ?_; refine Zm ?_; refine Zn ?_; refine ZgtF ?_; refine Zp ?_; refine Zm ?_; refine Zm ?_; refine ZltF ?_; refine Zp ?_; refine Zm ?_; refine Zm ?_; refine Zm ?_; refine Zn ?_; refine ZgeF ?_; refine Zp ?_; refine Zq ?_; refine ZN ?_; refine ZK ?_; refine ZT ?_; refine Zr ?_; have l357 := r25.lt; have l358 := r11.lt; have l359 := r71.lt
  refine LL.lit (e := 25) [] 0 rfl rfl (fun _ => by kernel_rfl) rfl rfl ?_
  intro W361 g362 eg362 r363 z364 b360
  replace rd7 := rd7.up b360; replace r25 := r25.up b360; replace r11 := r11.up b360; replace q := Zu q b360; replace r71 := r71.up b360; refine Zm ?_
  (have oe := RowL.owns (base := g362) r363 (Nat.le_refl _) (by simp); refine LL.append (us := []) (ys := ints .u64 ws) rfl rfl El64 oe rd7 (ints_one _ _) (by simp [maxLen]; omega) (by simp; omega) (by omega) rfl rfl ?_; intro v1 W5 o1 gr1; have hb1 := owns_bel oe gr1 (by omega); have y1 := hb1.size; replace q := q.trans (hb1.mono (by omega)); replace r71 := r71.below hb1 (by omega); simp only [List.nil_append, List.length_nil, Nat.zero_add, hlu] at o1; clear oe gr1 hb1 rd7)
  refine Zm ?_; refine Zn ?_
  refine LL.val (R.subcN rfl rfl rfl rfl (by omega) (by omega)) rfl rfl rfl ?_
  (refine LL.zeros (m := 64 - N) rfl rfl El64 Tryz.underlying3 rfl o1 (by omega) (by simp only [maxLen]; omega) (by omega) (by omega) rfl rfl ?_; intro v2 W6 o2 gr2 hv2; have hb2 := owns_bel o1 gr2 (by omega); have y2 := hb2.size; replace q := q.trans (hb2.mono (by omega)); replace r71 := r71.below hb2 (by omega); rw [show N + (64 - N) = 64 by omega, show ints .u64 ws ++ List.replicate (64 - N) (.int .u64 0) = ints .u64 (ws ++ List.replicate (64 - N) 0) by simp [ints], ezs] at o2; obtain ⟨gv, cv, rfl, hgv, lgv, hcv⟩ := owns_form o2 (by omega); have cx := reads_int (reads_of_owns o2) hx2; clear o1 gr2 hb2 hv2)
  refine Za ?_; refine Zq ?_; refine Zr ?_; refine Zm ?_; refine Zm ?_; refine Zm ?_; refine Zm ?_
  refine LL.val (R.index rfl rfl rfl (I.ixS1 rfl (by omega))) rfl rfl rfl ?_
  refine Zk ?_; refine Zm ?_
  (refine LL.val (R.xorU (a := x) (b := by_) rfl rfl rfl hxb hby) rfl rfl rfl ?_)
  refine LL.val (R.index rfl rfl rfl (I.ixS1 rfl (by omega))) rfl rfl rfl ?_
  (obtain ⟨cur, hcur, hjc, _, hset⟩ := owns_set (u := .int .u64 ((x ^^^ by_ : Nat) : Int)) o2 (j := at_) (by omega); refine LL.store rfl rfl rfl rfl hcur (by omega) rfl rfl rfl rfl ?_; intro W9 r9 g9' z9; rw [Nat.zero_add] at r9; have o4 := hset W9 r9; rw [show (ints .u64 (ws ++ zs)).set at_ (.int .u64 ((x ^^^ by_ : Nat) : Int)) = ints .u64 ((ws ++ zs).set at_ (x ^^^ by_)) by simp only [ints, List.map_set]] at o4; replace q := q.grown g9' q.size (by rintro k ⟨⟩; omega); replace r71 := r71.gr g9' (by omega); clear cx o2 hcur hset r9)
  refine Zq ?_; refine Zr ?_; refine Zv r71 ?_; refine Zm ?_
  have hvs : ((ws ++ zs).set at_ (x ^^^ by_)).length = 64 := by rw [List.length_set]; exact hvl
  have hvb : ∀ z ∈ (ws ++ zs).set at_ (x ^^^ by_), z < 18446744073709551616 := by
    intro z hz
    rcases List.mem_or_eq_of_mem_set hz with hz | rfl
    · rcases List.mem_append.1 hz with hz | hz
      · exact hwl z hz
      · exact hzb z hz
    · exact hyb
  obtain ⟨x0, hx0⟩ : ∃ x0, ((ws ++ zs).set at_ (x ^^^ by_))[0]? = some x0 := ⟨_, List.getElem?_eq_getElem (by omega)⟩
  have hx0b := hvb x0 (List.mem_of_getElem? hx0)
  have rd4 := reads_of_owns o4
  have c0 := reads_int rd4 hx0
  by_cases hy0 : by_ = 0
  · subst hy0
    have hwn : ws[0]? = some 4353 ∨ ws[0]? = some 1794 := by rw [← List.append_nil ws]; exact jHas_head _ _ _ _ _ _ _ _ _ (hyes [])
    have hset0 : (ws ++ zs).set at_ (x ^^^ 0) = ws ++ zs := by
      rw [Nat.xor_zero]
      refine List.ext_getElem? fun j => ?_
      rw [List.getElem?_set]
      split
      · rename_i e
        subst e
        rw [if_pos (by omega)]
        exact hx2.symm
      · rfl
    have hxn : x0 = 4353 ∨ x0 = 1794 := by
      rw [hset0, List.getElem?_append_left (by omega)] at hx0
      rcases hwn with e | e <;> (rw [e] at hx0; cases hx0; simp)
    have hh := hyes zs
    rw [← hset0] at hh
    have hof := jOf_yes fb fi fr ft 3 4 9 (9 + fi / 4) (9 + fi / 4 + fr / 4) (10 + fi / 4 + fr / 4) _ cv _ k n a f t fk tk r d _ (hSF _ q) hl rd4 hvs hvb hb hh
    clear hbn hyes hh hset0 hwn
    have la5 := r71.lt
    (refine LL.call (R.call rfl rfl rfl) rfl rfl rfl hof ?_; rintro e Wa4 ⟨rfl, ba1⟩; refine ⟨_, rfl, ?_⟩)
    have zba1 := ba1.size; replace q := Zu q ba1; replace r71 := r71.up ba1; replace c0 := cell_up c0 ba1; replace rd4 := rd4.up ba1; refine Zm ?_; refine Zx ?_; refine Zx ?_; refine Zx ?_; have la49 := r71.lt
    refine LL.alloc ((redL 0 0 noA 0 0 0 0 0 false)) rfl rfl rfl rfl rfl ?_
    intro Wa51 ga52 ega52 ra53 za54 ba50
    replace q := Zu q ba50; replace r71 := r71.up ba50; replace c0 := cell_up c0 ba50; replace rd4 := rd4.up ba50
    refine LL.storeN (vs := (redL k n a f t fk tk r d)) rfl rfl rfl rfl ra53 (by exact Nat.le_of_ble_eq_true rfl) (ones_of rfl) rfl rfl ?_
    intro Wa65 ra66 ba64 za67
    have hlba64 := ra53.lt
    replace ra66 : RowL Wa65 _ 28 (redL k n a f t fk tk r d) := ra66
    clear ra53
    replace q := Zg q ba64; replace r71 := Zd r71 ba64; replace c0 := Ze c0 ba64
    replace rd4 := rd4.gr ba64 (by omega)
    have ra53 := ra66
    clear ra66
    refine Za ?_; refine Za ?_; refine Zq ?_; refine Zc ?_; refine Zr ?_; refine Zm ?_; refine Zi ?_; refine Zk ?_; refine ZeqF ?_; refine Zq ?_; refine ZN ?_; refine ZK ?_; refine ZT ?_; refine Zr ?_; refine Zm ?_; refine Zm ?_; refine ZeqT ?_
    refine LL.val (R.eqBool rfl rfl rfl rfl rfl) rfl rfl rfl ?_
    refine Zm ?_; refine Zm ?_
    refine Zy (R.call rfl rfl rfl) (num_any _ _) ?_
    rintro e W' ⟨rfl, rfl⟩
    refine ⟨_, rfl, ?_⟩; refine ZeqF ?_; refine Zm ?_; refine ZneF ?_
    refine LL.val (R.eqBool rfl rfl rfl rfl rfl) rfl rfl rfl ?_
    refine Zp ?_; refine Zm ?_
    refine Zy (R.call rfl rfl rfl) (works_any _ (hSF _ q)) ?_
    rintro e Wa249 ⟨rfl, ba248⟩
    refine ⟨_, rfl, ?_⟩; have zba248 := ba248.size; replace q := Zu q ba248; replace r71 := r71.up ba248; replace c0 := cell_up c0 ba248; replace rd4 := rd4.up ba248; replace ra53 := ra53.up ba248; refine Zp ?_; refine Za ?_; refine Zq ?_; refine ZR ?_; refine EE.ret _ rfl rfl ?_
    exact ⟨rfl, q⟩
  by_cases hx00 : x0 = 0
  · subst hx00
    have hof := jOf_0 fb fi fr ft 3 4 9 (9 + fi / 4) (9 + fi / 4 + fr / 4) (10 + fi / 4 + fr / 4) _ cv _ _ (hSF _ q) hl rd4 hvs hx0
    clear hbn hyes
    have lb5 := r71.lt
    (refine LL.call (R.call rfl rfl rfl) rfl rfl rfl hof ?_; rintro e Wb4 ⟨rfl, bb1⟩; refine ⟨_, rfl, ?_⟩)
    have zbb1 := bb1.size; replace q := Zu q bb1; replace r71 := r71.up bb1; replace rd4 := rd4.up bb1; replace c0 := cell_up c0 bb1; refine Zm ?_; refine Zx ?_; refine Zx ?_; refine Zx ?_; have lb49 := r71.lt
    refine LL.alloc ((redL 0 0 noA 0 0 0 0 0 false)) rfl rfl rfl rfl rfl ?_
    intro Wb51 gb52 egb52 rb53 zb54 bb50
    replace q := Zu q bb50; replace r71 := r71.up bb50; replace rd4 := rd4.up bb50; replace c0 := cell_up c0 bb50
    refine LL.storeN (vs := (redL 0 0 noA 0 0 0 0 0 false)) rfl rfl rfl rfl rb53 (by exact Nat.le_of_ble_eq_true rfl) (ones_of rfl) rfl rfl ?_
    intro Wb65 rb66 bb64 zb67
    have hlbb64 := rb53.lt
    replace rb66 : RowL Wb65 _ 28 (redL 0 0 noA 0 0 0 0 0 false) := rb66
    clear rb53
    replace q := Zg q bb64; replace r71 := Zd r71 bb64
    replace rd4 := rd4.gr bb64 (by omega)
    replace c0 := Ze c0 bb64
    have rb53 := rb66
    clear rb66
    refine Za ?_; refine Za ?_; refine Zq ?_; refine Zc ?_; refine Zr ?_; refine Zm ?_; refine Zi ?_; refine Zk ?_; refine ZeqT ?_; refine Zq ?_; refine ZY ?_; refine Zr ?_; refine Zm ?_; refine Zt ?_; refine Zm ?_; refine Zm ?_
    refine Zy (R.call rfl rfl rfl) (num_any _ _) ?_
    rintro e W' ⟨rfl, rfl⟩
    refine ⟨_, rfl, ?_⟩; refine ZeqT ?_; refine Zp ?_; refine Zm ?_
    refine Zy (R.call rfl rfl rfl) (works_any _ (hSF _ q)) ?_
    rintro e Wb204 ⟨rfl, bb203⟩
    refine ⟨_, rfl, ?_⟩; have zbb203 := bb203.size; replace q := Zu q bb203; replace r71 := r71.up bb203; replace rd4 := rd4.up bb203; replace c0 := cell_up c0 bb203; replace rb53 := rb53.up bb203; refine Zp ?_; refine Za ?_; refine Zq ?_; refine ZR ?_; refine EE.thenR ?_; refine EE.ret _ rfl rfl ?_
    exact ⟨rfl, q⟩
  · have hne : x ^^^ by_ ≠ x := fun e => by
      have e2 : x ^^^ (x ^^^ by_) = x ^^^ x := by rw [e]
      rw [← Nat.xor_assoc, Nat.xor_self, Nat.zero_xor] at e2
      exact hy0 e2
    have hof := jOf_no fb fi fr ft 3 4 9 (9 + fi / 4) (9 + fi / 4 + fr / 4) (10 + fi / 4 + fr / 4) _ cv _ _ (hSF _ q) hl rd4 hvs hvb x0 hx0 hx00 (hbn zs x (x ^^^ by_) hx hyb hne)
    clear hbn hyes
    have lc5 := r71.lt
    (refine LL.call (R.call rfl rfl rfl) rfl rfl rfl hof ?_; rintro e Wc4 ⟨rfl, bc1⟩; refine ⟨_, rfl, ?_⟩)
    have zbc1 := bc1.size; replace q := Zu q bc1; replace r71 := r71.up bc1; replace rd4 := rd4.up bc1; replace c0 := cell_up c0 bc1; refine Zm ?_; refine Zx ?_; refine Zx ?_; refine Zx ?_; have lc49 := r71.lt
    refine LL.alloc ((redL 0 0 noA 0 0 0 0 0 false)) rfl rfl rfl rfl rfl ?_
    intro Wc51 gc52 egc52 rc53 zc54 bc50
    replace q := Zu q bc50; replace r71 := r71.up bc50; replace rd4 := rd4.up bc50; replace c0 := cell_up c0 bc50
    refine LL.storeN (vs := (redL 0 0 noA 0 0 0 0 0 false)) rfl rfl rfl rfl rc53 (by exact Nat.le_of_ble_eq_true rfl) (ones_of rfl) rfl rfl ?_
    intro Wc65 rc66 bc64 zc67
    have hlbc64 := rc53.lt
    replace rc66 : RowL Wc65 _ 28 (redL 0 0 noA 0 0 0 0 0 false) := rc66
    clear rc53
    replace q := Zg q bc64; replace r71 := Zd r71 bc64
    replace rd4 := rd4.gr bc64 (by omega)
    replace c0 := Ze c0 bc64
    have rc53 := rc66
    clear rc66
    refine Za ?_; refine Za ?_; refine Zq ?_; refine Zc ?_; refine Zr ?_; refine Zm ?_; refine Zi ?_; refine Zk ?_; refine ZeqF ?_; refine Zq ?_; refine ZN ?_; refine ZK ?_; refine ZT ?_; refine Zr ?_; refine Zm ?_; refine Zm ?_; refine ZeqF ?_
    refine LL.val (R.eqBool rfl rfl rfl rfl rfl) rfl rfl rfl ?_
    refine Zm ?_; refine Zm ?_
    refine Zy (R.call rfl rfl rfl) (num_any _ _) ?_
    rintro e W' ⟨rfl, rfl⟩
    refine ⟨_, rfl, ?_⟩; refine ZeqT ?_; refine Zm ?_; refine ZneT ?_
    refine LL.val (R.eqBool rfl rfl rfl rfl rfl) rfl rfl rfl ?_
    refine Zp ?_; refine Zm ?_
    refine Zy (R.call rfl rfl rfl) (works_any _ (hSF _ q)) ?_
    rintro e Wc249 ⟨rfl, bc248⟩
    refine ⟨_, rfl, ?_⟩; have zbc248 := bc248.size; replace q := Zu q bc248; replace r71 := r71.up bc248; replace rd4 := rd4.up bc248; replace c0 := cell_up c0 bc248; replace rc53 := rc53.up bc248; refine Zp ?_; refine Za ?_; refine Zq ?_; refine ZR ?_; refine EE.ret _ rfl rfl ?_
    exact ⟨rfl, q⟩
theorem jbent_shell (fb fi fr ft : Int) (k n : Int) (a : Nat → Nat) (f t : Int) (fk tk : Nat) (r : Int) (d : Bool) (at_ : Int) (by_ : Nat) (w : World) (hS : Start w) (hb : ∀ x ∈ jsixL a, x < 18446744073709551616) (hfk : fk < 18446744073709551616) (htk : tk < 18446744073709551616) (hby : by_ < 18446744073709551616) : Calls Tryz.prog 6 #[formV fb fi fr ft, redV k n a f t fk tk r d, .int .i64 at_, .int .u64 (by_ : Int)] w fun x w' => x = .returned (.bool true) ∧ Below w.heap.size w w' := by
  by_cases h : ly_okF fb fi fr ft ∧ okJ k n a f t fk tk r d fi fr
  · by_cases h2 : at_ < 0 ∨ ((jW k n a f t fk tk r d).length : Int) ≤ at_
    · exact jbent_C fb fi fr ft k n a f t fk tk r d at_ by_ w hS h.1 h.2 h2
    · obtain ⟨at_, rfl⟩ : ∃ y : Nat, at_ = (y : Int) := ⟨at_.toNat, by omega⟩
      exact jbent_D fb fi fr ft k n a f t fk tk r d at_ by_ w hS h.1 h.2 (by omega) hby hb hfk htk
  · exact jbent_A fb fi fr ft k n a f t fk tk r d at_ by_ w hS hb h
set_option linter.unusedVariables false
set_option linter.unusedSimpArgs false
open Go.RowKit Go.ChangeShapes Go.WideShapes Go.ChangeAt
theorem own : ownKnob Tryz.prog.godebug = none := by kernel_rfl
theorem laidOut : laidOutB Tryz.prog = true := by kernel_rfl
section
variable {H : Type} {enc : TypeId × Value → H} {P : Program} {w : World} {base : Nat} {spare : Nat → Bool} {held : Bool} {r : Reach} {b0 : Nat} {t : TypeId} {v : Value} {d : DataW H} {p : List MemPlace}
end
set_option linter.unusedVariables false
set_option linter.unusedSimpArgs false
/-- Which kind of integer lies at a cell. -/
def atC (P : Program) : Nat → TypeId → Nat → Option IntKind
  | 0, _, _ => none
  | d + 1, t, j => match P.underlying t with
    | some (.struct fs) => fs.toList.findSome? fun f => if f.offset ≤ j ∧ j < f.offset + P.cellsOf f.type then atC P d f.type (j - f.offset) else none
    | some (.array n e) => if j / P.cellsOf e < n then atC P d e (j % P.cellsOf e) else none
    | some (.int k) => if j = 0 then some k else none
    | _ => none
section
variable {H : Type} {enc : TypeId × Value → H} {P : Program} {w : World} {base : Nat} {spare : Nat → Bool} {held : Bool} {r : Reach} {b0 : Nat} {t : TypeId} {v : Value} {d : DataW H} {p : List MemPlace}
theorem trod_at : ∀ (n : Nat) (t : TypeId) (j fuel : Nat) (cs : List Value) (x : DataW H × List MemPlace) (k : IntKind), atC P n t j = some k → DataW.trod enc P w base spare held fuel t cs = some x → ∃ z : Int, cs[j]? = some (.int k z) ∧ (Lit.int k z).wf = true
  | 0, _, _, _, _, _, _, h, _ => by cases h
  | n + 1, t, j, fuel, cs, x, k, h, hx => by
    cases hu : P.underlying t with
    | none => simp [atC, hu] at h
    | some kd =>
      cases kd <;> simp only [atC, hu] at h <;> try (cases h; done)
      case int q =>
        split at h
        · rename_i hj
          cases h
          subst hj
          obtain ⟨z, e, _, hw⟩ := DataW.trod_int hu hx
          exact ⟨z, by rw [e]; rfl, hw⟩
        · cases h
      case struct fs =>
        obtain ⟨f, hf, hfk⟩ := List.exists_of_findSome?_eq_some h
        split at hfk
        · rename_i hj
          obtain ⟨xs, m, _, rfl, hl, hlen, hf2⟩ := DataW.trod_struct hu hx
          obtain ⟨i, hi⟩ := List.mem_iff_getElem?.1 hf
          have h2 := hf2 i f (by simpa using hi)
          have hil : i < xs.length := by
            have := (List.getElem?_eq_some_iff.1 hi).1
            rw [Array.length_toList] at this
            omega
          rw [List.getElem?_eq_getElem hil] at h2
          obtain ⟨z, e, hw⟩ := trod_at n f.type (j - f.offset) _ _ _ k hfk h2
          refine ⟨z, ?_, hw⟩
          rw [List.getElem?_take] at e
          split at e
          · rw [List.getElem?_drop] at e
            rwa [show f.offset + (j - f.offset) = j by omega] at e
          · cases e
        · cases hfk
      case array m e =>
        split at h
        · rename_i hj
          obtain ⟨xs, m', _, rfl, hl, hlen, hi⟩ := DataW.trod_array hu hx
          have h2 := hi _ hj
          rw [List.getElem?_eq_getElem (by omega)] at h2
          obtain ⟨z, e', hw⟩ := trod_at n e (j % P.cellsOf e) _ _ _ k h h2
          refine ⟨z, ?_, hw⟩
          rw [List.getElem?_take] at e'
          split at e'
          · rw [List.getElem?_drop] at e'
            rwa [show j / P.cellsOf e * P.cellsOf e + j % P.cellsOf e = j by rw [Nat.mul_comm]; exact Nat.div_add_mod _ _] at e'
          · cases e'
        · cases h
theorem open_ints {c : Nat} (ks : Nat → IntKind) (hs : (match P.underlying t with | some (.struct _) | some (.array _ _) => true | _ => false) = true) (hc : P.cellsOf t = c) (hk : (List.range c).all (fun j => atC P 9 t j == some (ks j)) = true)
    (hv : Value.okWide P w r b0 t v) (h : DataW.Trod enc P w base spare held t v d p) : ∃ g : Nat → Int, v = .agg ((List.range c).map fun j => Value.int (ks j) (g j)).toArray ∧ ∀ j, j < c → (Lit.int (ks j) (g j)).wf = true := by
  have hg : ∃ cs, v = .agg cs ∧ cs.size = P.cellsOf t := by
    unfold Value.okWide at hv
    split at hv
    · obtain ⟨cs, h1, h2, _⟩ := hv; exact ⟨cs, h1, h2⟩
    · obtain ⟨cs, h1, h2, _⟩ := hv; exact ⟨cs, h1, h2⟩
    · rename_i h1 h2
      split at hs <;> simp_all
  obtain ⟨cs, rfl, hsz⟩ := hg
  obtain ⟨fuel, hf⟩ := h
  have key : ∀ j, ∃ z : Int, j < c → cs.toList[j]? = some (.int (ks j) z) ∧ (Lit.int (ks j) z).wf = true := by
    intro j
    by_cases hj : j < c
    · have hk' := List.all_eq_true.1 hk j (List.mem_range.2 hj)
      have hk'' : atC P 9 t j = some (ks j) := by simpa using hk'
      obtain ⟨z, h1, h2⟩ := trod_at 9 t j fuel _ _ _ hk'' hf
      exact ⟨z, fun _ => ⟨h1, h2⟩⟩
    · exact ⟨0, fun h => absurd h hj⟩
  refine ⟨fun j => Classical.choose (key j), ?_, fun j hj => (Classical.choose_spec (key j) hj).2⟩
  congr 1
  apply Array.ext'
  apply List.ext_getElem?
  intro j
  simp only [List.toList_toArray, List.getElem?_map]
  by_cases hj : j < c
  · rw [(Classical.choose_spec (key j) hj).1, List.getElem?_range hj]
    rfl
  · rw [List.getElem?_eq_none (by rw [Array.length_toList, hsz, hc]; omega), List.getElem?_eq_none (by simp; omega)]
    rfl
end
set_option linter.unusedVariables false
set_option linter.unusedSimpArgs false
/-- Which kind of integer lies at a cell. -/
def atB (P : Program) : Nat → TypeId → Nat → Option (Option IntKind)
  | 0, _, _ => none
  | d + 1, t, j => match P.underlying t with
    | some (.struct fs) => fs.toList.findSome? fun f => if f.offset ≤ j ∧ j < f.offset + P.cellsOf f.type then atB P d f.type (j - f.offset) else none
    | some (.array n e) => if j / P.cellsOf e < n then atB P d e (j % P.cellsOf e) else none
    | some (.int k) => if j = 0 then some (some k) else none
    | some .bool => if j = 0 then some none else none
    | _ => none
def cellB : Option IntKind → Int → Bool → Value
  | some k, z, _ => .int k z
  | none, _, b => .bool b
def wfB : Option IntKind → Int → Prop
  | some k, z => (Lit.int k z).wf = true
  | none, _ => True
section
variable {H : Type} {enc : TypeId × Value → H} {P : Program} {w : World} {base : Nat} {spare : Nat → Bool} {held : Bool} {r : Reach} {b0 : Nat} {t : TypeId} {v : Value} {d : DataW H} {p : List MemPlace}
theorem trod_atB : ∀ (n : Nat) (t : TypeId) (j fuel : Nat) (cs : List Value) (x : DataW H × List MemPlace) (k : Option IntKind), atB P n t j = some k → DataW.trod enc P w base spare held fuel t cs = some x → ∃ (z : Int) (b : Bool), cs[j]? = some (cellB k z b) ∧ wfB k z
  | 0, _, _, _, _, _, _, h, _ => by cases h
  | n + 1, t, j, fuel, cs, x, k, h, hx => by
    cases hu : P.underlying t with
    | none => simp [atB, hu] at h
    | some kd =>
      cases kd <;> simp only [atB, hu] at h <;> try (cases h; done)
      case int q =>
        split at h
        · rename_i hj
          cases h
          subst hj
          obtain ⟨z, e, _, hw⟩ := DataW.trod_int hu hx
          exact ⟨z, false, by rw [e]; rfl, hw⟩
        · cases h
      case bool =>
        split at h
        · rename_i hj
          cases h
          subst hj
          obtain ⟨b, e, _⟩ := DataW.trod_bool hu hx
          exact ⟨0, b, by rw [e]; rfl, trivial⟩
        · cases h
      case struct fs =>
        obtain ⟨f, hf, hfk⟩ := List.exists_of_findSome?_eq_some h
        split at hfk
        · rename_i hj
          obtain ⟨xs, m, _, rfl, hl, hlen, hf2⟩ := DataW.trod_struct hu hx
          obtain ⟨i, hi⟩ := List.mem_iff_getElem?.1 hf
          have h2 := hf2 i f (by simpa using hi)
          have hil : i < xs.length := by
            have := (List.getElem?_eq_some_iff.1 hi).1
            rw [Array.length_toList] at this
            omega
          rw [List.getElem?_eq_getElem hil] at h2
          obtain ⟨z, b, e, hw⟩ := trod_atB n f.type (j - f.offset) _ _ _ k hfk h2
          refine ⟨z, b, ?_, hw⟩
          rw [List.getElem?_take] at e
          split at e
          · rw [List.getElem?_drop] at e
            rwa [show f.offset + (j - f.offset) = j by omega] at e
          · cases e
        · cases hfk
      case array m e =>
        split at h
        · rename_i hj
          obtain ⟨xs, m', _, rfl, hl, hlen, hi⟩ := DataW.trod_array hu hx
          have h2 := hi _ hj
          rw [List.getElem?_eq_getElem (by omega)] at h2
          obtain ⟨z, b, e', hw⟩ := trod_atB n e (j % P.cellsOf e) _ _ _ k h h2
          refine ⟨z, b, ?_, hw⟩
          rw [List.getElem?_take] at e'
          split at e'
          · rw [List.getElem?_drop] at e'
            rwa [show j / P.cellsOf e * P.cellsOf e + j % P.cellsOf e = j by rw [Nat.mul_comm]; exact Nat.div_add_mod _ _] at e'
          · cases e'
        · cases h
theorem open_cells {c : Nat} (ks : Nat → Option IntKind) (hs : (match P.underlying t with | some (.struct _) | some (.array _ _) => true | _ => false) = true) (hc : P.cellsOf t = c) (hk : (List.range c).all (fun j => atB P 9 t j == some (ks j)) = true)
    (hv : Value.okWide P w r b0 t v) (h : DataW.Trod enc P w base spare held t v d p) : ∃ (g : Nat → Int) (b : Nat → Bool), v = .agg ((List.range c).map fun j => cellB (ks j) (g j) (b j)).toArray ∧ ∀ j, j < c → wfB (ks j) (g j) := by
  have hg : ∃ cs, v = .agg cs ∧ cs.size = P.cellsOf t := by
    unfold Value.okWide at hv
    split at hv
    · obtain ⟨cs, h1, h2, _⟩ := hv; exact ⟨cs, h1, h2⟩
    · obtain ⟨cs, h1, h2, _⟩ := hv; exact ⟨cs, h1, h2⟩
    · rename_i h1 h2
      split at hs <;> simp_all
  obtain ⟨cs, rfl, hsz⟩ := hg
  obtain ⟨fuel, hf⟩ := h
  have key : ∀ j, ∃ zb : Int × Bool, j < c → cs.toList[j]? = some (cellB (ks j) zb.1 zb.2) ∧ wfB (ks j) zb.1 := by
    intro j
    by_cases hj : j < c
    · have hk' := List.all_eq_true.1 hk j (List.mem_range.2 hj)
      have hk'' : atB P 9 t j = some (ks j) := by simpa using hk'
      obtain ⟨z, b, h1, h2⟩ := trod_atB 9 t j fuel _ _ _ hk'' hf
      exact ⟨(z, b), fun _ => ⟨h1, h2⟩⟩
    · exact ⟨(0, false), fun h => absurd h hj⟩
  refine ⟨fun j => (Classical.choose (key j)).1, fun j => (Classical.choose (key j)).2, ?_, fun j hj => (Classical.choose_spec (key j) hj).2⟩
  congr 1
  apply Array.ext'
  apply List.ext_getElem?
  intro j
  simp only [List.toList_toArray, List.getElem?_map]
  by_cases hj : j < c
  · rw [(Classical.choose_spec (key j) hj).1, List.getElem?_range hj]
    rfl
  · rw [List.getElem?_eq_none (by rw [Array.length_toList, hsz, hc]; omega), List.getElem?_eq_none (by simp; omega)]
    rfl
end
open Go.RowKit Go.Shelf Go.ChangeShapes Go.WideShapes
/-- What lies in a redo's cells. -/
def ksR (j : Nat) : Option IntKind := if j = 23 then none else if (2 ≤ j ∧ j < 18) ∨ j = 20 ∨ j = 21 then some .u64 else some .i64
theorem redo_cells (g : Nat → Int) (b : Nat → Bool) (hw : ∀ j, j < 24 → wfB (ksR j) (g j)) : ∃ (k n : Int) (a : Nat → Nat) (f t : Int) (fk tk : Nat) (r : Int) (d : Bool), Value.agg ((List.range 24).map fun j => cellB (ksR j) (g j) (b j)).toArray = redV k n a f t fk tk r d ∧ (∀ x ∈ jsixL a, x < 18446744073709551616) ∧ fk < 18446744073709551616 ∧ tk < 18446744073709551616 := by
  have hu : ∀ j, j < 24 → ksR j = some .u64 → 0 ≤ g j ∧ g j < 18446744073709551616 := fun j hj e => by
    have := hw j hj
    rw [e] at this
    exact wf_u64 this
  have hn : ∀ j, j < 24 → ksR j = some .u64 → (((g j).toNat : Nat) : Int) = g j := fun j hj e => Int.toNat_of_nonneg (hu j hj e).1
  refine ⟨g 0, g 1, fun i => (g (2 + i)).toNat, g 18, g 19, (g 20).toNat, (g 21).toNat, g 22, b 23, ?_, ?_, ?_, ?_⟩
  · unfold redV
    simp only [Nat.reduceAdd]
    rw [hn 2 (by decide) rfl, hn 3 (by decide) rfl, hn 4 (by decide) rfl, hn 5 (by decide) rfl, hn 6 (by decide) rfl, hn 7 (by decide) rfl, hn 8 (by decide) rfl, hn 9 (by decide) rfl, hn 10 (by decide) rfl, hn 11 (by decide) rfl, hn 12 (by decide) rfl, hn 13 (by decide) rfl, hn 14 (by decide) rfl, hn 15 (by decide) rfl, hn 16 (by decide) rfl, hn 17 (by decide) rfl, hn 20 (by decide) rfl, hn 21 (by decide) rfl]
    rfl
  · intro x hx
    have hx2 : x ∈ (List.range 16).map (fun i => (g (2 + i)).toNat) := hx
    obtain ⟨i, hi, rfl⟩ := List.mem_map.1 hx2
    have hi16 : i < 16 := by simpa using hi
    have := hu (2 + i) (by omega) (by unfold ksR; rw [if_neg (by omega), if_pos (by omega)])
    omega
  · have := hu 20 (by decide) rfl
    omega
  · have := hu 21 (by decide) rfl
    omega
theorem jbent_top (f : Nat → Int) (g : Nat → Int) (b : Nat → Bool) (hw : ∀ j, j < 24 → wfB (ksR j) (g j)) (at_ : Int) (by_ : Nat) (hby : by_ < 18446744073709551616) (w : World) (hS : Start w) : Calls Tryz.prog 6 #[.agg ((List.range 4).map fun j => Value.int .i64 (f j)).toArray, .agg ((List.range 24).map fun j => cellB (ksR j) (g j) (b j)).toArray, .int .i64 at_, .int .u64 (by_ : Int)] w fun x w' => x = .returned (.bool true) ∧ Below w.heap.size w w' := by
  obtain ⟨k, n, a, f1, t, fk, tk, r, d, e, h1, h2, h3⟩ := redo_cells g b hw
  rw [e]
  exact jbent_shell (f 0) (f 1) (f 2) (f 3) k n a f1 t fk tk r d at_ by_ w hS h1 h2 h3 hby
open Go.ChangeShapes Go.WideShapes Go.ChangeAt Go.WideMaps Go.WideElems Go.RowKit
def laidHere : List (String × DataW Unit) := [("hedgerow/extents.widths", Rows.laid_hedgerow_extents_widths)]
theorem gTurns : Tryz.prog.globalNamed "hedgerow/extents.widths" = some 0 := by kernel_rfl
theorem tTurns : (Tryz.prog.globals[0]?).map (·.type) = some 202 := by kernel_rfl
theorem door_met (os : Os) (args : Array Value) : laidMetH Tryz.prog laidHere ((World.doorLaid Tryz.prog 14 os).forCall (fun _ _ => 0) ⟨#[], args, []⟩).memory :=
  laidMetH_of_parts3 (fuel := 8) (laidMet_of_run' 8 (by kernel_rfl) (by kernel_rfl)) (by kernel_rfl) (by kernel_rfl)
theorem of_laid {W : World} (h : laidMetH Tryz.prog laidHere W) : Start W := by
  rw [MakeChecks.laidMetH_plain _ _ _ (by kernel_rfl)] at h
  have hT := Lib.tabIs_of_head (k := .i64) (zs := [16, 24, 16]) gTurns tTurns Tryz.underlying202 Tryz.underlying3 (by kernel_rfl) (by kernel_rfl) h
  have hc : ∀ i, i < 3 → W.cell? ⟨0, i, none⟩ = some (.int .i64 ([16, 24, 16].getD i 0)) := fun i hi => hT.cell gTurns i hi
  refine ⟨hc 0 (by decide), hc 1 (by decide), hc 2 (by decide), ?_⟩
  obtain ⟨o, ho, _⟩ := cells_of_cell (hc 0 (by decide))
  exact (Array.getElem?_eq_some_iff.1 ho).1
end Go.Proofs.YtaeaokimhbbnfaaGreatDoor
