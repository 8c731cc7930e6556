/- What the statements' walks use: Jn21, TurnMath, Jn22, Jn23, Open, OpenI, OpenB, Jn24, Jn25, Jn26, Door. -/
import Derived.Laws.StructEq
import Derived.Test.YtaeaokimhbbnfaaGreatDoorRows
import Derived.ProofKit
import Derived.OpenShut
import Derived.ShutString
import Derived.ChangeOld
import Derived.ChangeSame
import Derived.LaidMore
import Derived.Stop.Joined
import Derived.Lib.LaidTab
import Derived.Test.YtaeaokimhbbnfaaGreatDoorMba
import Derived.Test.YtaeaokimhbbnfaaGreatDoorMbb
import Derived.Test.YtaeaokimhbbnfaaGreatDoorMbc
import Derived.Test.YtaeaokimhbbnfaaGreatDoorMbe
/- journal: the statements' rows: works (written by genjn21.py). -/
namespace Go.Proofs.YtaeaokimhbbnfaaGreatDoor
set_option linter.unusedVariables false
set_option linter.unusedSimpArgs false
open Go.RowKit Go.Shelf
set_option maxRecDepth 100000
set_option maxHeartbeats 8000000
section
variable {P : Program} {w : World} {T e : TypeId} {o : Oper} {n i k bytes : Nat} {z : Value} {D : List Deferred} {M : Slots} {ops : Array Oper} {ok : World → Prop} {K : Slots → World → Prop}
theorem ZR.makeE {x y : Operand} {l m : Nat} {zs : List Value} (I : ElT P T e z k bytes) (hzc : z.cells = zs.toArray) (hk : 0 < k) (hi : ops[i]? = some o) (ho : o.op = .makeSlice T x y) (hx : evM M x = some (.int .i64 (l : Int))) (hy : evM M y = some (.int .i64 (m : Int))) (hl : l ≤ m) (hb : bytes * m ≤ 281474976710656) (hn : m ≤ 9223372036854775807) (hd : dstB n o.dst = true) (hg : wantB ops M o.guard = some true)
    (c : ∀ w1 g, g = w.heap.size → RowL w1 g e (List.replicate m zs).flatten → w1.heap.size = g + 1 → Below w.heap.size w w1 → ok w1 ∧ K (putM M o.dst (.slice (some ⟨g, 0, none⟩) l m)) w1) : SR P ops ok i K n D M w := by
  obtain ⟨w', h1, h2, h3, h4⟩ := run_mkE I hzc hk l m hl hb hn w
  have h := c w' _ rfl h2 h4 h3
  exact SR.val hi (R.make ho hx hy h1) hd hg h.1 h.2
end
theorem jHas_head {ws : List Nat} (k n : Int) (a : Nat → Nat) (f t : Int) (fk tk : Nat) (r : Int) (d : Bool) {li lr : Int} (h : jHas ws k n a f t fk tk r d li lr) : ws[0]? = some 4353 ∨ ws[0]? = some 1794 := by
  obtain ⟨⟨rfl, _⟩ | ⟨rfl, _⟩, h⟩ := h
  · exact .inl (take_at h rfl)
  · exact .inr (take_at h rfl)
theorem jhW_len : (jW 2 5 noA 1 1 2 3 4 false).length = 9 := jW_len 2 5 noA 1 1 2 3 4 false
theorem jhW_take : (jW 2 5 noA 1 1 2 3 4 false).take 8 = [1794, 1, 2, 1, 3, 4, 5, 0] := rfl
theorem jh_ok : okJ 2 5 noA 1 1 2 3 4 false 8 16 := .inr ⟨rfl, by decide, fun _ _ => rfl, by decide, by decide, by decide, .inr (by decide)⟩
theorem jodd_any (g : Nat) (w : World) (hS : Start w) (ro : RowL w g 25 (ints .u64 (1 :: List.replicate 63 0))) : Calls Tryz.prog 16 #[layV 32 8 16 8 1 2 9 11 15 16, .slice (some ⟨g, 0, none⟩) 64 64] w fun e w' => e = .returned (.tuple #[redV 0 0 noA 0 0 0 0 0 false, .bool false, .int .i64 310]) ∧ Below w.heap.size w w' :=
  jOf_no 32 8 16 8 1 2 9 11 15 16 _ 64 (1 :: List.replicate 63 0) w hS jhome_is (RowL.asInts ro .u64 _ rfl rfl) rfl (fun x hx => by simp at hx; omega) 1 rfl (by decide) (fun k n a f t fk tk r d h => by
    rcases jHas_head k n a f t fk tk r d h with h | h
    · cases h
    · cases h)
theorem works_any (w : World) (hS : Start w) : Calls Tryz.prog 15 #[] w fun x w' => x = .returned (.bool true) ∧ Below w.heap.size w w' := by
  have q := Below.refl w.heap.size w
  have hSF : ∀ X, Below w.heap.size w X → Start X := fun X b => hS.up b
  have hwo := fun W (hS : Start W) => jWords_T 2 5 noA 1 1 2 3 4 false 32 8 16 8 1 2 9 11 15 16 W hS jhome_is jh_ok
  have hst := fun W => strike_T 32 8 16 8 1 2 9 11 15 16 2 W jhome_is (by decide)
  rw [show (64 + 64 * 2 : Int) = 192 by decide] at hst
  unfold jnewW at hwo
  have hjl := jhW_len
  have hjt := jhW_take
  obtain ⟨ws, ews⟩ : ∃ ws, jW 2 5 noA 1 1 2 3 4 false = ws := ⟨_, rfl⟩
  rw [ews] at hwo hjl hjt
  rw [hjl] at hwo
  clear hS
  refine X.fn Tryz.func15 rfl (n := 75) rfl rfl ?_
  refine Zr ?_; refine Za ?_; refine Zq ?_; refine Zr ?_
  refine Zy (R.call rfl rfl rfl) (jhome_any _) ?_
  rintro e W128 ⟨rfl, b127⟩
  refine ⟨_, rfl, ?_⟩; have zb127 := b127.size; replace q := Zu q b127
  refine LL.val (R.buildV rfl rfl (v := .agg #[Value.int IntKind.i64 2, Value.int IntKind.i64 5, Value.int IntKind.u64 0, Value.int IntKind.u64 0, Value.int IntKind.u64 0, Value.int IntKind.u64 0, Value.int IntKind.u64 0, Value.int IntKind.u64 0, Value.int IntKind.u64 0, Value.int IntKind.u64 0, Value.int IntKind.u64 0, Value.int IntKind.u64 0, Value.int IntKind.u64 0, Value.int IntKind.u64 0, Value.int IntKind.u64 0, Value.int IntKind.u64 0, Value.int IntKind.u64 0, Value.int IntKind.u64 0, Value.int IntKind.i64 1, Value.int IntKind.i64 1, Value.int IntKind.u64 2, Value.int IntKind.u64 3, Value.int IntKind.i64 4, Value.bool false]) (fun _ => by kernel_rfl)) rfl rfl rfl ?_
  (refine Zy (R.call rfl rfl rfl) (hwo _ (hSF _ q)) ?_; rintro e W196 ⟨v7, rfl, g7, c7, rfl, hc7, rd7, hg7, hl7, b193⟩; refine ⟨_, rfl, ?_⟩)
  have zb193 := b193.size; replace b127 := Zu b127 b193; replace q := Zu q b193; refine Zm ?_; refine Zx ?_; refine Zx ?_; refine Za ?_; refine Za ?_; refine Zq ?_; refine Zc ?_
  refine CC.join (fun l_ W782 => l_ = [(0, Value.bool false), (13, Value.agg #[Value.int IntKind.i64 32, Value.int IntKind.i64 8, Value.int IntKind.i64 16, Value.int IntKind.i64 8, Value.int IntKind.u64 ↑1, Value.int IntKind.u64 ↑2, Value.int IntKind.i64 9, Value.int IntKind.i64 11, Value.int IntKind.i64 15, Value.int IntKind.i64 16]), (14, Value.agg #[Value.int IntKind.i64 2, Value.int IntKind.i64 5, Value.int IntKind.u64 0, Value.int IntKind.u64 0, Value.int IntKind.u64 0, Value.int IntKind.u64 0, Value.int IntKind.u64 0, Value.int IntKind.u64 0, Value.int IntKind.u64 0, Value.int IntKind.u64 0, Value.int IntKind.u64 0, Value.int IntKind.u64 0, Value.int IntKind.u64 0, Value.int IntKind.u64 0, Value.int IntKind.u64 0, Value.int IntKind.u64 0, Value.int IntKind.u64 0, Value.int IntKind.u64 0, Value.int IntKind.i64 1, Value.int IntKind.i64 1, Value.int IntKind.u64 2, Value.int IntKind.u64 3, Value.int IntKind.i64 4, Value.bool false]), (15, Value.tuple #[Value.slice (some { block := g7, off := 0 }) 9 c7, Value.int IntKind.i64 0]), (12, Value.tuple #[Value.slice (some { block := g7, off := 0 }) 9 c7, Value.int IntKind.i64 0]), (16, Value.slice (some { block := g7, off := 0 }) 9 c7), (17, Value.int IntKind.i64 0), (1, Value.slice (some { block := g7, off := 0 }) 9 c7), (2, Value.int IntKind.i64 0), (4, Value.bool false), (5, Value.int IntKind.i64 0)] ∧ (Below W196.heap.size W196 W782) ∧ (Reads W782 (Value.slice (some { block := g7, off := 0 }) 9 c7) (ints IntKind.u64 ws)) ∧ (Below W128.heap.size W128 W782) ∧ (Below w.heap.size w W782) ∧ (Below w.heap.size w W782) ∧ (W196.heap.size ≤ W782.heap.size)) (fun J786 => ?_) ?restJ786
  case' restJ786 =>
    clear rd7
    clear b193
    clear b127
    clear q
    rintro _ W782 ⟨rfl, b515, rd7, b193, b127, q, z785⟩
  refine ZT ?_; refine Zr ?_
  (refine LL.makeE (l := 64) (m := 64) ElU14 rfl (by decide) rfl rfl rfl (Nat.le_refl _) (by decide) (by decide) rfl rfl ?_; intro W811 g2 eg2 ry zg2 b808; replace ry : RowL W811 g2 25 (ints .u64 (List.replicate 64 0)) := ry)
  have zb808 := b808.size; replace b515 := Zu b515 b808; replace rd7 := rd7.up b808; replace b193 := Zu b193 b808; replace b127 := Zu b127 b808; replace q := Zu q b808; refine Za ?_; refine Zq ?_; refine Zr ?_; refine Zm ?_; refine Zi ?_
  (refine LL.store (off := 0) rfl rfl rfl rfl ry (by decide) rfl rfl rfl rfl ?_; intro W1063 ro gr1061 zo; replace ro : RowL W1063 g2 25 (ints .u64 (1 :: List.replicate 63 0)) := ro; clear ry)
  have zgr1061 := gr1061.size; replace b808 := Zg b808 gr1061; replace b515 := Zg b515 gr1061
  replace rd7 := rd7.gr gr1061 (by omega)
  replace b193 := Zg b193 gr1061; replace b127 := Zg b127 gr1061; replace q := Zg q gr1061; refine Zq ?_; refine Zr ?_
  refine Zy (R.call rfl rfl rfl) (jhome_any _) ?_
  rintro e W1139 ⟨rfl, b1138⟩
  refine ⟨_, rfl, ?_⟩; have zb1138 := b1138.size; replace ro := ro.up b1138; replace b808 := Zu b808 b1138; replace b515 := Zu b515 b1138; replace rd7 := rd7.up b1138; replace b193 := Zu b193 b1138; replace b127 := Zu b127 b1138; replace q := Zu q b1138; refine Zm ?_; have l1255 := ro.lt
  (refine Zy (R.call rfl rfl rfl) (jodd_any g2 _ (hSF _ q) ro) ?_; rintro e W1254 ⟨rfl, b1251⟩; refine ⟨_, rfl, ?_⟩)
  have zb1251 := b1251.size; replace b1138 := Zu b1138 b1251; replace ro := ro.up b1251; replace b808 := Zu b808 b1251; replace b515 := Zu b515 b1251; replace rd7 := rd7.up b1251; replace b193 := Zu b193 b1251; replace b127 := Zu b127 b1251; replace q := Zu q b1251; refine Zm ?_; refine Zx ?_; refine Zx ?_; refine Zx ?_; have l1614 := ro.lt
  refine LL.alloc ((redL 0 0 noA 0 0 0 0 0 false)) rfl rfl rfl rfl rfl ?_
  intro W1616 g1617 eg1617 r1618 z1619 b1615
  replace b1251 := Zu b1251 b1615; replace b1138 := Zu b1138 b1615; replace ro := ro.up b1615; replace b808 := Zu b808 b1615; replace b515 := Zu b515 b1615; replace rd7 := rd7.up b1615; replace b193 := Zu b193 b1615; replace b127 := Zu b127 b1615; replace q := Zu q b1615
  refine LL.storeN (vs := (redL 0 0 noA 0 0 0 0 0 false)) rfl rfl rfl rfl r1618 (by exact Nat.le_of_ble_eq_true rfl) (ones_of rfl) rfl rfl ?_
  intro W1700 r1701 b1699 z1702
  have hlb1699 := r1618.lt
  replace r1701 : RowL W1700 _ 28 (redL 0 0 noA 0 0 0 0 0 false) := r1701
  clear r1618
  replace b1615 := Zg b1615 b1699; replace b1251 := Zg b1251 b1699; replace b1138 := Zg b1138 b1699; replace ro := Zd ro b1699; replace b808 := Zg b808 b1699; replace b515 := Zg b515 b1699
  replace rd7 := rd7.gr b1699 (by omega)
  replace b193 := Zg b193 b1699; replace b127 := Zg b127 b1699; replace q := Zg q b1699
  have r1618 := r1701
  clear r1701
  refine Za ?_; refine Za ?_; refine Zq ?_; refine Zr ?_
  refine Zy (R.call rfl rfl rfl) (jhome_any _) ?_
  rintro e W1941 ⟨rfl, b1940⟩
  refine ⟨_, rfl, ?_⟩; have zb1940 := b1940.size; replace b1615 := Zu b1615 b1940; replace b1251 := Zu b1251 b1940; replace b1138 := Zu b1138 b1940; replace ro := ro.up b1940; replace b808 := Zu b808 b1940; replace b515 := Zu b515 b1940; replace rd7 := rd7.up b1940; replace b193 := Zu b193 b1940; replace b127 := Zu b127 b1940; replace q := Zu q b1940; replace r1618 := r1618.up b1940; have l1999 := ro.lt
  have l2000 := r1618.lt
  (refine Zy (R.call rfl rfl rfl) (hst _) ?_; rintro e W1998 ⟨gp, rfl, rp, hgp, b1995⟩; refine ⟨_, rfl, ?_⟩)
  have zb1995 := b1995.size; replace b1940 := Zu b1940 b1995; replace b1615 := Zu b1615 b1995; replace b1251 := Zu b1251 b1995; replace b1138 := Zu b1138 b1995; replace ro := ro.up b1995; replace b808 := Zu b808 b1995; replace b515 := Zu b515 b1995; replace rd7 := rd7.up b1995; replace b193 := Zu b193 b1995; replace b127 := Zu b127 b1995; replace q := Zu q b1995; replace r1618 := r1618.up b1995; refine Zm ?_
  refine Zx ?_; refine Zx ?_; refine Za ?_; refine Za ?_; refine Zq ?_; refine Zr ?_; refine Zm ?_
  refine Zy (R.call rfl rfl rfl) (num_any _ _) ?_
  rintro e W' ⟨rfl, rfl⟩
  refine ⟨_, rfl, ?_⟩; refine Zm ?_
  refine Zy (R.call rfl rfl rfl) (num_any _ _) ?_
  rintro e W' ⟨rfl, rfl⟩
  refine ⟨_, rfl, ?_⟩
  refine LL.val (R.addIz (z := 0) rfl rfl rfl (by decide) (by decide)) rfl rfl rfl ?_
  refine Zm ?_
  refine Zy (R.call rfl rfl rfl) (num_any _ _) ?_
  rintro e W' ⟨rfl, rfl⟩
  refine ⟨_, rfl, ?_⟩
  refine LL.val (R.addIz (z := 0) rfl rfl rfl (by decide) (by decide)) rfl rfl rfl ?_
  refine ZeqT ?_; refine Zm ?_; refine Zm ?_; refine Zn ?_; refine ZeqT ?_; refine Zp ?_; refine Zm ?_; refine Zm ?_
  refine LL.val (R.slice rfl rfl rfl rfl rfl (I.slToc rfl rfl (by omega))) rfl rfl rfl ?_
  have l4005 := rp.lt; have l4006 := ro.lt; have l4007 := r1618.lt
  refine LL.lit (e := 25) [Value.int IntKind.u64 1794, Value.int IntKind.u64 1, Value.int IntKind.u64 2, Value.int IntKind.u64 1, Value.int IntKind.u64 3, Value.int IntKind.u64 4, Value.int IntKind.u64 5, Value.int IntKind.u64 0] 8 rfl rfl (fun _ => by kernel_rfl) rfl rfl ?_
  intro W4009 g4010 eg4010 r4011 z4012 b4008
  replace rp := rp.up b4008; replace b1995 := Zu b1995 b4008; replace b1940 := Zu b1940 b4008; replace b1615 := Zu b1615 b4008; replace b1251 := Zu b1251 b4008; replace b1138 := Zu b1138 b4008; replace ro := ro.up b4008; replace b808 := Zu b808 b4008; replace b515 := Zu b515 b4008; replace rd7 := rd7.up b4008; replace b193 := Zu b193 b4008; replace b127 := Zu b127 b4008; replace q := Zu q b4008; replace r1618 := r1618.up b4008
  have l4090 := r4011.lt; have l4091 := rp.lt; have l4092 := ro.lt; have l4093 := r1618.lt
  (have rd8 := rd7.take 8 (by decide) c7 (by omega); rw [show (ints .u64 ws).take 8 = ints .u64 (ws.take 8) by simp [ints], hjt] at rd8; refine Zy (R.call rfl rfl rfl) (wsame_T _ _ _ _ _ rd8 (RowL.asInts (by assumption) .u64 [1794, 1, 2, 1, 3, 4, 5, 0] rfl rfl) (by decide) rfl) ?_; rintro e W4089 ⟨rfl, b4086⟩; refine ⟨_, rfl, ?_⟩; clear rd8)
  have zb4086 := b4086.size; replace r4011 := r4011.up b4086; replace b4008 := Zu b4008 b4086; replace rp := rp.up b4086; replace b1995 := Zu b1995 b4086; replace b1940 := Zu b1940 b4086; replace b1615 := Zu b1615 b4086; replace b1251 := Zu b1251 b4086; replace b1138 := Zu b1138 b4086; replace ro := ro.up b4086; replace b808 := Zu b808 b4086; replace b515 := Zu b515 b4086; replace rd7 := rd7.up b4086
  replace b193 := Zu b193 b4086; replace b127 := Zu b127 b4086; replace q := Zu q b4086; replace r1618 := r1618.up b4086; refine Zp ?_; refine Zm ?_; refine Zm ?_; refine Zt ?_; refine Zp ?_; refine Zm ?_; refine Zm ?_
  refine Zy (R.call rfl rfl rfl) (num_any _ _) ?_
  rintro e W' ⟨rfl, rfl⟩
  refine ⟨_, rfl, ?_⟩; refine ZeqT ?_; refine Zp ?_; refine Zm ?_; refine Zm ?_
  refine LL.val (R.buildV rfl rfl (v := .agg #[Value.int IntKind.i64 192, Value.int IntKind.u64 0]) (fun _ => by kernel_rfl)) rfl rfl rfl ?_
  have l5427 := r4011.lt; have l5428 := rp.lt; have l5429 := ro.lt; have l5430 := r1618.lt
  refine LL.lit (e := 59) [Value.int IntKind.i64 192, Value.int IntKind.u64 0] 1 rfl rfl (fun _ => by kernel_rfl) rfl rfl ?_
  intro W5432 g5433 eg5433 r5434 z5435 b5431
  replace b4086 := Zu b4086 b5431; replace r4011 := r4011.up b5431; replace b4008 := Zu b4008 b5431; replace rp := rp.up b5431; replace b1995 := Zu b1995 b5431; replace b1940 := Zu b1940 b5431; replace b1615 := Zu b1615 b5431; replace b1251 := Zu b1251 b5431; replace b1138 := Zu b1138 b5431; replace ro := ro.up b5431; replace b808 := Zu b808 b5431; replace b515 := Zu b515 b5431; replace rd7 := rd7.up b5431
  replace b193 := Zu b193 b5431; replace b127 := Zu b127 b5431; replace q := Zu q b5431; replace r1618 := r1618.up b5431; have l5531 := r5434.lt; have l5532 := r4011.lt; have l5533 := rp.lt; have l5534 := ro.lt; have l5535 := r1618.lt
  (refine Zy (R.call rfl rfl rfl) (psame_T [(192, 0)] _ _ _ (RowL.readsT (ts := [(192, 0)]) pEnc rp 1 (Nat.le_refl _)) (RowL.readsT (ts := [(192, 0)]) pEnc (by assumption) 1 (Nat.le_refl _)) (by decide)) ?_; rintro e W5530 ⟨rfl, b5527⟩; refine ⟨_, rfl, ?_⟩)
  have zb5527 := b5527.size; replace r5434 := r5434.up b5527; replace b5431 := Zu b5431 b5527; replace b4086 := Zu b4086 b5527; replace r4011 := r4011.up b5527; replace b4008 := Zu b4008 b5527; replace rp := rp.up b5527; replace b1995 := Zu b1995 b5527; replace b1940 := Zu b1940 b5527; replace b1615 := Zu b1615 b5527; replace b1251 := Zu b1251 b5527; replace b1138 := Zu b1138 b5527; replace ro := ro.up b5527
  replace b808 := Zu b808 b5527; replace b515 := Zu b515 b5527; replace rd7 := rd7.up b5527; replace b193 := Zu b193 b5527; replace b127 := Zu b127 b5527; replace q := Zu q b5527; replace r1618 := r1618.up b5527; refine Zp ?_; refine Za ?_; refine Zq ?_; refine ZR ?_; refine EE.ret _ rfl rfl ?_
  exact ⟨rfl, q⟩
  refine CC.freeZ (fun W_ j => j < W_.heap.size ∧ (True)) (by kernel_rfl) (by kernel_rfl) (fun W5746 b5745 z5747 => ?_)
  replace rd7 := rd7.up b5745; replace b193 := Zu b193 b5745; replace b127 := Zu b127 b5745; replace q := Zu q b5745
  have hok : Kept (fun j => j < W5746.heap.size ∧ (True)) W5746 W5746 := Kept.refl _ _
  refine AA.three 0 1 7 (by kernel_rfl) ?_ ?_ ?_
  refine SR.call rfl (R.call rfl rfl rfl) rfl rfl (jhome_any _) ?_
  rintro e W5812 ⟨rfl, b5811⟩
  have zb5811 := b5811.size; replace b5745 := Zu b5745 b5811; replace rd7 := rd7.up b5811; replace b193 := Zu b193 b5811; replace b127 := Zu b127 b5811; replace q := Zu q b5811; replace hok := Zh hok b5811; have y5813 := hok.size
  refine ⟨_, rfl, hok, ?_⟩
  refine AA.two 1 7 (by kernel_rfl) ?_ ?_
  (refine ZR.makeE (l := 64) (m := 64) ElU14 rfl (by decide) rfl rfl rfl rfl (Nat.le_refl _) (by decide) (by decide) rfl rfl ?_; intro W5824 g1 eg1 rz zg1 b5821; replace rz : RowL W5824 g1 25 (ints .u64 (List.replicate 64 0)) := rz)
  have zb5821 := b5821.size; replace b5811 := Zu b5811 b5821; replace b5745 := Zu b5745 b5821; replace rd7 := rd7.up b5821; replace b193 := Zu b193 b5821; replace b127 := Zu b127 b5821; replace q := Zu q b5821; replace hok := Zh hok b5821; have y5828 := hok.size
  refine ⟨hok, ?_⟩
  refine AA.two 2 7 (by kernel_rfl) ?_ ?_
  have l5849 := rz.lt
  (refine SR.call rfl (R.call rfl rfl rfl) rfl rfl (jOf_0 32 8 16 8 1 2 9 11 15 16 _ 64 (List.replicate 64 0) _ (hSF _ q) jhome_is (RowL.asInts rz .u64 _ rfl rfl) rfl rfl) ?_; rintro e W5848 ⟨rfl, b5845⟩; refine ⟨_, rfl, ?_⟩)
  have zb5845 := b5845.size; replace b5821 := Zu b5821 b5845; replace rz := rz.up b5845; replace b5811 := Zu b5811 b5845; replace b5745 := Zu b5745 b5845; replace rd7 := rd7.up b5845; replace b193 := Zu b193 b5845; replace b127 := Zu b127 b5845; replace q := Zu q b5845; replace hok := Zh hok b5845; have y5853 := hok.size
  refine ⟨hok, ?_⟩
  refine AA.pure 3 rfl hok (by kernel_rfl) (fun w' b' => R.move rfl rfl) rfl rfl ?_
  refine AA.pure 4 rfl hok (by kernel_rfl) (fun w' b' => R.extract rfl rfl rfl) rfl rfl ?_
  refine AA.pure 5 rfl hok (by kernel_rfl) (fun w' b' => R.extract rfl rfl rfl) rfl rfl ?_
  refine AA.pure 6 rfl hok (by kernel_rfl) (fun w' b' => R.extract rfl rfl rfl) rfl rfl ?_
  refine AA.one 7 (by kernel_rfl) ?_
  have l5925 := rz.lt
  refine ZR.alloc ((redL 0 0 noA 0 0 0 0 0 false)) rfl rfl rfl rfl rfl rfl ?_
  intro W5927 g5928 eg5928 r5929 z5930 b5926
  replace b5845 := Zu b5845 b5926; replace b5821 := Zu b5821 b5926; replace rz := rz.up b5926; replace b5811 := Zu b5811 b5926; replace b5745 := Zu b5745 b5926; replace rd7 := rd7.up b5926; replace b193 := Zu b193 b5926; replace b127 := Zu b127 b5926; replace q := Zu q b5926; replace hok := Zh hok b5926; have y5931 := hok.size
  refine ⟨hok, ?_⟩
  refine AA.one 8 (by kernel_rfl) ?_
  refine ZR.storeN (vs := (redL 0 0 noA 0 0 0 0 0 false)) rfl rfl rfl rfl rfl r5929 (by exact Nat.le_of_ble_eq_true rfl) (ones_of rfl) rfl rfl ?_
  intro W6012 r6013 b6011 z6014
  have hlb6011 := r5929.lt
  replace r6013 : RowL W6012 _ 28 (redL 0 0 noA 0 0 0 0 0 false) := r6013
  clear r5929
  replace b5926 := Zg b5926 b6011; replace b5845 := Zg b5845 b6011; replace b5821 := Zg b5821 b6011; replace rz := Zd rz b6011; replace b5811 := Zg b5811 b6011; replace b5745 := Zg b5745 b6011
  replace rd7 := rd7.gr b6011 (by omega)
  replace b193 := Zg b193 b6011; replace b127 := Zg b127 b6011; replace q := Zg q b6011; replace hok := Zo hok b6011
  have r5929 := r6013
  clear r6013
  refine ⟨hok, ?_⟩
  refine AA.pure 9 rfl hok (by kernel_rfl) (fun w' b' => R.assign rfl rfl) rfl rfl ?_
  refine AA.pure 10 rfl hok (by kernel_rfl) (fun w' b' => R.assign rfl rfl) rfl rfl ?_
  refine AA.done rfl ?_
  clear hok
  exact EE.weak (J786 _ _ ⟨rfl, (by first | assumption | omega), (by first | assumption | omega), (by first | assumption | omega), (by first | assumption | omega), (by first | assumption | omega), (by first | assumption | omega)⟩) ⟨rfl, rfl, rfl, rfl, rfl, rfl, rfl, rfl, rfl, rfl, rfl, trivial⟩
  have l6086 := rz.lt
  refine ZR.alloc ((redL 0 0 noA 0 0 0 0 0 false)) rfl rfl rfl rfl rfl rfl ?_
  intro W6088 g6089 eg6089 r6090 z6091 b6087
  replace b5821 := Zu b5821 b6087; replace rz := rz.up b6087; replace b5811 := Zu b5811 b6087; replace b5745 := Zu b5745 b6087; replace rd7 := rd7.up b6087; replace b193 := Zu b193 b6087; replace b127 := Zu b127 b6087; replace q := Zu q b6087; replace hok := Zh hok b6087; have y6092 := hok.size
  refine ⟨hok, ?_⟩
  refine AA.one 2 (by kernel_rfl) ?_
  have l6115 := r6090.lt; have l6116 := rz.lt
  (refine SR.call rfl (R.call rfl rfl rfl) rfl rfl (jOf_0 32 8 16 8 1 2 9 11 15 16 _ 64 (List.replicate 64 0) _ (hSF _ q) jhome_is (RowL.asInts rz .u64 _ rfl rfl) rfl rfl) ?_; rintro e W6114 ⟨rfl, b6111⟩; refine ⟨_, rfl, ?_⟩)
  have zb6111 := b6111.size; replace r6090 := r6090.up b6111; replace b6087 := Zu b6087 b6111; replace b5821 := Zu b5821 b6111; replace rz := rz.up b6111; replace b5811 := Zu b5811 b6111; replace b5745 := Zu b5745 b6111; replace rd7 := rd7.up b6111; replace b193 := Zu b193 b6111; replace b127 := Zu b127 b6111; replace q := Zu q b6111; replace hok := Zh hok b6111; have y6120 := hok.size
  refine ⟨hok, ?_⟩
  refine AA.pure 3 rfl hok (by kernel_rfl) (fun w' b' => R.move rfl rfl) rfl rfl ?_
  refine AA.pure 4 rfl hok (by kernel_rfl) (fun w' b' => R.extract rfl rfl rfl) rfl rfl ?_
  refine AA.pure 5 rfl hok (by kernel_rfl) (fun w' b' => R.extract rfl rfl rfl) rfl rfl ?_
  refine AA.pure 6 rfl hok (by kernel_rfl) (fun w' b' => R.extract rfl rfl rfl) rfl rfl ?_
  refine AA.one 8 (by kernel_rfl) ?_
  refine ZR.storeN (vs := (redL 0 0 noA 0 0 0 0 0 false)) rfl rfl rfl rfl rfl r6090 (by exact Nat.le_of_ble_eq_true rfl) (ones_of rfl) rfl rfl ?_
  intro W6201 r6202 b6200 z6203
  have hlb6200 := r6090.lt
  replace r6202 : RowL W6201 _ 28 (redL 0 0 noA 0 0 0 0 0 false) := r6202
  clear r6090
  replace b6087 := Zg b6087 b6200; replace b5821 := Zg b5821 b6200; replace rz := Zd rz b6200; replace b5811 := Zg b5811 b6200; replace b5745 := Zg b5745 b6200
  replace rd7 := rd7.gr b6200 (by omega)
  replace b193 := Zg b193 b6200; replace b127 := Zg b127 b6200; replace q := Zg q b6200; replace hok := Zo hok b6200
  have r6090 := r6202
  clear r6202
  refine ⟨hok, ?_⟩
  refine AA.pure 9 rfl hok (by kernel_rfl) (fun w' b' => R.assign rfl rfl) rfl rfl ?_
  refine AA.pure 10 rfl hok (by kernel_rfl) (fun w' b' => R.assign rfl rfl) rfl rfl ?_
  refine AA.done rfl ?_
  clear hok
  exact EE.weak (J786 _ _ ⟨rfl, (by first | assumption | omega), (by first | assumption | omega), (by first | assumption | omega), (by first | assumption | omega), (by first | assumption | omega), (by first | assumption | omega)⟩) ⟨rfl, rfl, rfl, rfl, rfl, rfl, rfl, rfl, rfl, rfl, rfl, trivial⟩
  refine ZR.alloc ((redL 0 0 noA 0 0 0 0 0 false)) rfl rfl rfl rfl rfl rfl ?_
  intro W6268 g6269 eg6269 r6270 z6271 b6267
  replace b5811 := Zu b5811 b6267; replace b5745 := Zu b5745 b6267; replace rd7 := rd7.up b6267; replace b193 := Zu b193 b6267; replace b127 := Zu b127 b6267; replace q := Zu q b6267; replace hok := Zh hok b6267; have y6272 := hok.size
  refine ⟨hok, ?_⟩
  refine AA.one 1 (by kernel_rfl) ?_
  have l6285 := r6270.lt
  (refine ZR.makeE (l := 64) (m := 64) ElU14 rfl (by decide) rfl rfl rfl rfl (Nat.le_refl _) (by decide) (by decide) rfl rfl ?_; intro W6284 g1 eg1 rz zg1 b6281; replace rz : RowL W6284 g1 25 (ints .u64 (List.replicate 64 0)) := rz)
  have zb6281 := b6281.size; replace r6270 := r6270.up b6281; replace b6267 := Zu b6267 b6281; replace b5811 := Zu b5811 b6281; replace b5745 := Zu b5745 b6281; replace rd7 := rd7.up b6281; replace b193 := Zu b193 b6281; replace b127 := Zu b127 b6281; replace q := Zu q b6281; replace hok := Zh hok b6281; have y6289 := hok.size
  refine ⟨hok, ?_⟩
  refine AA.one 2 (by kernel_rfl) ?_
  have l6312 := rz.lt; have l6313 := r6270.lt
  (refine SR.call rfl (R.call rfl rfl rfl) rfl rfl (jOf_0 32 8 16 8 1 2 9 11 15 16 _ 64 (List.replicate 64 0) _ (hSF _ q) jhome_is (RowL.asInts rz .u64 _ rfl rfl) rfl rfl) ?_; rintro e W6311 ⟨rfl, b6308⟩; refine ⟨_, rfl, ?_⟩)
  have zb6308 := b6308.size; replace b6281 := Zu b6281 b6308; replace rz := rz.up b6308; replace r6270 := r6270.up b6308; replace b6267 := Zu b6267 b6308; replace b5811 := Zu b5811 b6308; replace b5745 := Zu b5745 b6308; replace rd7 := rd7.up b6308; replace b193 := Zu b193 b6308; replace b127 := Zu b127 b6308; replace q := Zu q b6308; replace hok := Zh hok b6308; have y6317 := hok.size
  refine ⟨hok, ?_⟩
  refine AA.pure 3 rfl hok (by kernel_rfl) (fun w' b' => R.move rfl rfl) rfl rfl ?_
  refine AA.pure 4 rfl hok (by kernel_rfl) (fun w' b' => R.extract rfl rfl rfl) rfl rfl ?_
  refine AA.pure 5 rfl hok (by kernel_rfl) (fun w' b' => R.extract rfl rfl rfl) rfl rfl ?_
  refine AA.pure 6 rfl hok (by kernel_rfl) (fun w' b' => R.extract rfl rfl rfl) rfl rfl ?_
  refine AA.one 8 (by kernel_rfl) ?_
  refine ZR.storeN (vs := (redL 0 0 noA 0 0 0 0 0 false)) rfl rfl rfl rfl rfl r6270 (by exact Nat.le_of_ble_eq_true rfl) (ones_of rfl) rfl rfl ?_
  intro W6398 r6399 b6397 z6400
  have hlb6397 := r6270.lt
  replace r6399 : RowL W6398 _ 28 (redL 0 0 noA 0 0 0 0 0 false) := r6399
  clear r6270
  replace rz := Zd rz b6397; replace b6267 := Zg b6267 b6397; replace b5811 := Zg b5811 b6397; replace b5745 := Zg b5745 b6397
  replace rd7 := rd7.gr b6397 (by omega)
  replace b193 := Zg b193 b6397; replace b127 := Zg b127 b6397; replace q := Zg q b6397; replace hok := Zo hok b6397
  have r6270 := r6399
  clear r6399
  refine ⟨hok, ?_⟩
  refine AA.pure 9 rfl hok (by kernel_rfl) (fun w' b' => R.assign rfl rfl) rfl rfl ?_
  refine AA.pure 10 rfl hok (by kernel_rfl) (fun w' b' => R.assign rfl rfl) rfl rfl ?_
  refine AA.done rfl ?_
  clear hok
  exact EE.weak (J786 _ _ ⟨rfl, (by first | assumption | omega), (by first | assumption | omega), (by first | assumption | omega), (by first | assumption | omega), (by first | assumption | omega), (by first | assumption | omega)⟩) ⟨rfl, rfl, rfl, rfl, rfl, rfl, rfl, rfl, rfl, rfl, rfl, trivial⟩
  (refine ZR.makeE (l := 64) (m := 64) ElU14 rfl (by decide) rfl rfl rfl rfl (Nat.le_refl _) (by decide) (by decide) rfl rfl ?_; intro W6411 g1 eg1 rz zg1 b6408; replace rz : RowL W6411 g1 25 (ints .u64 (List.replicate 64 0)) := rz)
  have zb6408 := b6408.size; replace b5745 := Zu b5745 b6408; replace rd7 := rd7.up b6408; replace b193 := Zu b193 b6408; replace b127 := Zu b127 b6408; replace q := Zu q b6408; replace hok := Zh hok b6408; have y6415 := hok.size
  refine ⟨hok, ?_⟩
  refine AA.two 0 7 (by kernel_rfl) ?_ ?_
  refine SR.call rfl (R.call rfl rfl rfl) rfl rfl (jhome_any _) ?_
  rintro e W6488 ⟨rfl, b6487⟩
  have zb6487 := b6487.size; replace b6408 := Zu b6408 b6487; replace rz := rz.up b6487; replace b5745 := Zu b5745 b6487; replace rd7 := rd7.up b6487; replace b193 := Zu b193 b6487; replace b127 := Zu b127 b6487; replace q := Zu q b6487; replace hok := Zh hok b6487; have y6489 := hok.size
  refine ⟨_, rfl, hok, ?_⟩
  refine AA.two 2 7 (by kernel_rfl) ?_ ?_
  have l6510 := rz.lt
  (refine SR.call rfl (R.call rfl rfl rfl) rfl rfl (jOf_0 32 8 16 8 1 2 9 11 15 16 _ 64 (List.replicate 64 0) _ (hSF _ q) jhome_is (RowL.asInts rz .u64 _ rfl rfl) rfl rfl) ?_; rintro e W6509 ⟨rfl, b6506⟩; refine ⟨_, rfl, ?_⟩)
  have zb6506 := b6506.size; replace b6487 := Zu b6487 b6506; replace b6408 := Zu b6408 b6506; replace rz := rz.up b6506; replace b5745 := Zu b5745 b6506; replace rd7 := rd7.up b6506; replace b193 := Zu b193 b6506; replace b127 := Zu b127 b6506; replace q := Zu q b6506; replace hok := Zh hok b6506; have y6514 := hok.size
  refine ⟨hok, ?_⟩
  refine AA.pure 3 rfl hok (by kernel_rfl) (fun w' b' => R.move rfl rfl) rfl rfl ?_
  refine AA.pure 4 rfl hok (by kernel_rfl) (fun w' b' => R.extract rfl rfl rfl) rfl rfl ?_
  refine AA.pure 5 rfl hok (by kernel_rfl) (fun w' b' => R.extract rfl rfl rfl) rfl rfl ?_
  refine AA.pure 6 rfl hok (by kernel_rfl) (fun w' b' => R.extract rfl rfl rfl) rfl rfl ?_
  refine AA.one 7 (by kernel_rfl) ?_
  have l6586 := rz.lt
  refine ZR.alloc ((redL 0 0 noA 0 0 0 0 0 false)) rfl rfl rfl rfl rfl rfl ?_
  intro W6588 g6589 eg6589 r6590 z6591 b6587
  replace b6506 := Zu b6506 b6587; replace b6487 := Zu b6487 b6587; replace b6408 := Zu b6408 b6587; replace rz := rz.up b6587; replace b5745 := Zu b5745 b6587; replace rd7 := rd7.up b6587; replace b193 := Zu b193 b6587; replace b127 := Zu b127 b6587; replace q := Zu q b6587; replace hok := Zh hok b6587; have y6592 := hok.size
  refine ⟨hok, ?_⟩
  refine AA.one 8 (by kernel_rfl) ?_
  refine ZR.storeN (vs := (redL 0 0 noA 0 0 0 0 0 false)) rfl rfl rfl rfl rfl r6590 (by exact Nat.le_of_ble_eq_true rfl) (ones_of rfl) rfl rfl ?_
  intro W6673 r6674 b6672 z6675
  have hlb6672 := r6590.lt
  replace r6674 : RowL W6673 _ 28 (redL 0 0 noA 0 0 0 0 0 false) := r6674
  clear r6590
  replace b6587 := Zg b6587 b6672; replace b6506 := Zg b6506 b6672; replace b6487 := Zg b6487 b6672; replace b6408 := Zg b6408 b6672; replace rz := Zd rz b6672; replace b5745 := Zg b5745 b6672
  replace rd7 := rd7.gr b6672 (by omega)
  replace b193 := Zg b193 b6672; replace b127 := Zg b127 b6672; replace q := Zg q b6672; replace hok := Zo hok b6672
  have r6590 := r6674
  clear r6674
  refine ⟨hok, ?_⟩
  refine AA.pure 9 rfl hok (by kernel_rfl) (fun w' b' => R.assign rfl rfl) rfl rfl ?_
  refine AA.pure 10 rfl hok (by kernel_rfl) (fun w' b' => R.assign rfl rfl) rfl rfl ?_
  refine AA.done rfl ?_
  clear hok
  exact EE.weak (J786 _ _ ⟨rfl, (by first | assumption | omega), (by first | assumption | omega), (by first | assumption | omega), (by first | assumption | omega), (by first | assumption | omega), (by first | assumption | omega)⟩) ⟨rfl, rfl, rfl, rfl, rfl, rfl, rfl, rfl, rfl, rfl, rfl, trivial⟩
  have l6747 := rz.lt
  refine ZR.alloc ((redL 0 0 noA 0 0 0 0 0 false)) rfl rfl rfl rfl rfl rfl ?_
  intro W6749 g6750 eg6750 r6751 z6752 b6748
  replace b6487 := Zu b6487 b6748; replace b6408 := Zu b6408 b6748; replace rz := rz.up b6748; replace b5745 := Zu b5745 b6748; replace rd7 := rd7.up b6748; replace b193 := Zu b193 b6748; replace b127 := Zu b127 b6748; replace q := Zu q b6748; replace hok := Zh hok b6748; have y6753 := hok.size
  refine ⟨hok, ?_⟩
  refine AA.one 2 (by kernel_rfl) ?_
  have l6776 := r6751.lt; have l6777 := rz.lt
  (refine SR.call rfl (R.call rfl rfl rfl) rfl rfl (jOf_0 32 8 16 8 1 2 9 11 15 16 _ 64 (List.replicate 64 0) _ (hSF _ q) jhome_is (RowL.asInts rz .u64 _ rfl rfl) rfl rfl) ?_; rintro e W6775 ⟨rfl, b6772⟩; refine ⟨_, rfl, ?_⟩)
  have zb6772 := b6772.size; replace r6751 := r6751.up b6772; replace b6748 := Zu b6748 b6772; replace b6487 := Zu b6487 b6772; replace b6408 := Zu b6408 b6772; replace rz := rz.up b6772; replace b5745 := Zu b5745 b6772; replace rd7 := rd7.up b6772; replace b193 := Zu b193 b6772; replace b127 := Zu b127 b6772; replace q := Zu q b6772; replace hok := Zh hok b6772; have y6781 := hok.size
  refine ⟨hok, ?_⟩
  refine AA.pure 3 rfl hok (by kernel_rfl) (fun w' b' => R.move rfl rfl) rfl rfl ?_
  refine AA.pure 4 rfl hok (by kernel_rfl) (fun w' b' => R.extract rfl rfl rfl) rfl rfl ?_
  refine AA.pure 5 rfl hok (by kernel_rfl) (fun w' b' => R.extract rfl rfl rfl) rfl rfl ?_
  refine AA.pure 6 rfl hok (by kernel_rfl) (fun w' b' => R.extract rfl rfl rfl) rfl rfl ?_
  refine AA.one 8 (by kernel_rfl) ?_
  refine ZR.storeN (vs := (redL 0 0 noA 0 0 0 0 0 false)) rfl rfl rfl rfl rfl r6751 (by exact Nat.le_of_ble_eq_true rfl) (ones_of rfl) rfl rfl ?_
  intro W6862 r6863 b6861 z6864
  have hlb6861 := r6751.lt
  replace r6863 : RowL W6862 _ 28 (redL 0 0 noA 0 0 0 0 0 false) := r6863
  clear r6751
  replace b6748 := Zg b6748 b6861; replace b6487 := Zg b6487 b6861; replace b6408 := Zg b6408 b6861; replace rz := Zd rz b6861; replace b5745 := Zg b5745 b6861
  replace rd7 := rd7.gr b6861 (by omega)
  replace b193 := Zg b193 b6861; replace b127 := Zg b127 b6861; replace q := Zg q b6861; replace hok := Zo hok b6861
  have r6751 := r6863
  clear r6863
  refine ⟨hok, ?_⟩
  refine AA.pure 9 rfl hok (by kernel_rfl) (fun w' b' => R.assign rfl rfl) rfl rfl ?_
  refine AA.pure 10 rfl hok (by kernel_rfl) (fun w' b' => R.assign rfl rfl) rfl rfl ?_
  refine AA.done rfl ?_
  clear hok
  exact EE.weak (J786 _ _ ⟨rfl, (by first | assumption | omega), (by first | assumption | omega), (by first | assumption | omega), (by first | assumption | omega), (by first | assumption | omega), (by first | assumption | omega)⟩) ⟨rfl, rfl, rfl, rfl, rfl, rfl, rfl, rfl, rfl, rfl, rfl, trivial⟩
  have l6936 := rz.lt
  refine ZR.alloc ((redL 0 0 noA 0 0 0 0 0 false)) rfl rfl rfl rfl rfl rfl ?_
  intro W6938 g6939 eg6939 r6940 z6941 b6937
  replace b6408 := Zu b6408 b6937; replace rz := rz.up b6937; replace b5745 := Zu b5745 b6937; replace rd7 := rd7.up b6937; replace b193 := Zu b193 b6937; replace b127 := Zu b127 b6937; replace q := Zu q b6937; replace hok := Zh hok b6937; have y6942 := hok.size
  refine ⟨hok, ?_⟩
  refine AA.one 0 (by kernel_rfl) ?_
  refine SR.call rfl (R.call rfl rfl rfl) rfl rfl (jhome_any _) ?_
  rintro e W7023 ⟨rfl, b7022⟩
  have zb7022 := b7022.size; replace r6940 := r6940.up b7022; replace b6937 := Zu b6937 b7022; replace b6408 := Zu b6408 b7022; replace rz := rz.up b7022; replace b5745 := Zu b5745 b7022; replace rd7 := rd7.up b7022; replace b193 := Zu b193 b7022; replace b127 := Zu b127 b7022; replace q := Zu q b7022; replace hok := Zh hok b7022; have y7024 := hok.size
  refine ⟨_, rfl, hok, ?_⟩
  refine AA.one 2 (by kernel_rfl) ?_
  have l7047 := r6940.lt; have l7048 := rz.lt
  (refine SR.call rfl (R.call rfl rfl rfl) rfl rfl (jOf_0 32 8 16 8 1 2 9 11 15 16 _ 64 (List.replicate 64 0) _ (hSF _ q) jhome_is (RowL.asInts rz .u64 _ rfl rfl) rfl rfl) ?_; rintro e W7046 ⟨rfl, b7043⟩; refine ⟨_, rfl, ?_⟩)
  have zb7043 := b7043.size; replace b7022 := Zu b7022 b7043; replace r6940 := r6940.up b7043; replace b6937 := Zu b6937 b7043; replace b6408 := Zu b6408 b7043; replace rz := rz.up b7043; replace b5745 := Zu b5745 b7043; replace rd7 := rd7.up b7043; replace b193 := Zu b193 b7043; replace b127 := Zu b127 b7043; replace q := Zu q b7043; replace hok := Zh hok b7043; have y7052 := hok.size
  refine ⟨hok, ?_⟩
  refine AA.pure 3 rfl hok (by kernel_rfl) (fun w' b' => R.move rfl rfl) rfl rfl ?_
  refine AA.pure 4 rfl hok (by kernel_rfl) (fun w' b' => R.extract rfl rfl rfl) rfl rfl ?_
  refine AA.pure 5 rfl hok (by kernel_rfl) (fun w' b' => R.extract rfl rfl rfl) rfl rfl ?_
  refine AA.pure 6 rfl hok (by kernel_rfl) (fun w' b' => R.extract rfl rfl rfl) rfl rfl ?_
  refine AA.one 8 (by kernel_rfl) ?_
  refine ZR.storeN (vs := (redL 0 0 noA 0 0 0 0 0 false)) rfl rfl rfl rfl rfl r6940 (by exact Nat.le_of_ble_eq_true rfl) (ones_of rfl) rfl rfl ?_
  intro W7133 r7134 b7132 z7135
  have hlb7132 := r6940.lt
  replace r7134 : RowL W7133 _ 28 (redL 0 0 noA 0 0 0 0 0 false) := r7134
  clear r6940
  replace b6937 := Zg b6937 b7132; replace b6408 := Zg b6408 b7132; replace rz := Zd rz b7132; replace b5745 := Zg b5745 b7132
  replace rd7 := rd7.gr b7132 (by omega)
  replace b193 := Zg b193 b7132; replace b127 := Zg b127 b7132; replace q := Zg q b7132; replace hok := Zo hok b7132
  have r6940 := r7134
  clear r7134
  refine ⟨hok, ?_⟩
  refine AA.pure 9 rfl hok (by kernel_rfl) (fun w' b' => R.assign rfl rfl) rfl rfl ?_
  refine AA.pure 10 rfl hok (by kernel_rfl) (fun w' b' => R.assign rfl rfl) rfl rfl ?_
  refine AA.done rfl ?_
  clear hok
  exact EE.weak (J786 _ _ ⟨rfl, (by first | assumption | omega), (by first | assumption | omega), (by first | assumption | omega), (by first | assumption | omega), (by first | assumption | omega), (by first | assumption | omega)⟩) ⟨rfl, rfl, rfl, rfl, rfl, rfl, rfl, rfl, rfl, rfl, rfl, trivial⟩
  refine ZR.alloc ((redL 0 0 noA 0 0 0 0 0 false)) rfl rfl rfl rfl rfl rfl ?_
  intro W7200 g7201 eg7201 r7202 z7203 b7199
  replace b5745 := Zu b5745 b7199; replace rd7 := rd7.up b7199; replace b193 := Zu b193 b7199; replace b127 := Zu b127 b7199; replace q := Zu q b7199; replace hok := Zh hok b7199; have y7204 := hok.size
  refine ⟨hok, ?_⟩
  refine AA.two 0 1 (by kernel_rfl) ?_ ?_
  refine SR.call rfl (R.call rfl rfl rfl) rfl rfl (jhome_any _) ?_
  rintro e W7277 ⟨rfl, b7276⟩
  have zb7276 := b7276.size; replace r7202 := r7202.up b7276; replace b7199 := Zu b7199 b7276; replace b5745 := Zu b5745 b7276; replace rd7 := rd7.up b7276; replace b193 := Zu b193 b7276; replace b127 := Zu b127 b7276; replace q := Zu q b7276; replace hok := Zh hok b7276; have y7278 := hok.size
  refine ⟨_, rfl, hok, ?_⟩
  refine AA.one 1 (by kernel_rfl) ?_
  have l7291 := r7202.lt
  (refine ZR.makeE (l := 64) (m := 64) ElU14 rfl (by decide) rfl rfl rfl rfl (Nat.le_refl _) (by decide) (by decide) rfl rfl ?_; intro W7290 g1 eg1 rz zg1 b7287; replace rz : RowL W7290 g1 25 (ints .u64 (List.replicate 64 0)) := rz)
  have zb7287 := b7287.size; replace b7276 := Zu b7276 b7287; replace r7202 := r7202.up b7287; replace b7199 := Zu b7199 b7287; replace b5745 := Zu b5745 b7287; replace rd7 := rd7.up b7287; replace b193 := Zu b193 b7287; replace b127 := Zu b127 b7287; replace q := Zu q b7287; replace hok := Zh hok b7287; have y7295 := hok.size
  refine ⟨hok, ?_⟩
  refine AA.one 2 (by kernel_rfl) ?_
  have l7318 := rz.lt; have l7319 := r7202.lt
  (refine SR.call rfl (R.call rfl rfl rfl) rfl rfl (jOf_0 32 8 16 8 1 2 9 11 15 16 _ 64 (List.replicate 64 0) _ (hSF _ q) jhome_is (RowL.asInts rz .u64 _ rfl rfl) rfl rfl) ?_; rintro e W7317 ⟨rfl, b7314⟩; refine ⟨_, rfl, ?_⟩)
  have zb7314 := b7314.size; replace b7287 := Zu b7287 b7314; replace rz := rz.up b7314; replace b7276 := Zu b7276 b7314; replace r7202 := r7202.up b7314; replace b7199 := Zu b7199 b7314; replace b5745 := Zu b5745 b7314; replace rd7 := rd7.up b7314; replace b193 := Zu b193 b7314; replace b127 := Zu b127 b7314; replace q := Zu q b7314; replace hok := Zh hok b7314; have y7323 := hok.size
  refine ⟨hok, ?_⟩
  refine AA.pure 3 rfl hok (by kernel_rfl) (fun w' b' => R.move rfl rfl) rfl rfl ?_
  refine AA.pure 4 rfl hok (by kernel_rfl) (fun w' b' => R.extract rfl rfl rfl) rfl rfl ?_
  refine AA.pure 5 rfl hok (by kernel_rfl) (fun w' b' => R.extract rfl rfl rfl) rfl rfl ?_
  refine AA.pure 6 rfl hok (by kernel_rfl) (fun w' b' => R.extract rfl rfl rfl) rfl rfl ?_
  refine AA.one 8 (by kernel_rfl) ?_
  refine ZR.storeN (vs := (redL 0 0 noA 0 0 0 0 0 false)) rfl rfl rfl rfl rfl r7202 (by exact Nat.le_of_ble_eq_true rfl) (ones_of rfl) rfl rfl ?_
  intro W7404 r7405 b7403 z7406
  have hlb7403 := r7202.lt
  replace r7405 : RowL W7404 _ 28 (redL 0 0 noA 0 0 0 0 0 false) := r7405
  clear r7202
  replace rz := Zd rz b7403; replace b7199 := Zg b7199 b7403; replace b5745 := Zg b5745 b7403
  replace rd7 := rd7.gr b7403 (by omega)
  replace b193 := Zg b193 b7403; replace b127 := Zg b127 b7403; replace q := Zg q b7403; replace hok := Zo hok b7403
  have r7202 := r7405
  clear r7405
  refine ⟨hok, ?_⟩
  refine AA.pure 9 rfl hok (by kernel_rfl) (fun w' b' => R.assign rfl rfl) rfl rfl ?_
  refine AA.pure 10 rfl hok (by kernel_rfl) (fun w' b' => R.assign rfl rfl) rfl rfl ?_
  refine AA.done rfl ?_
  clear hok
  exact EE.weak (J786 _ _ ⟨rfl, (by first | assumption | omega), (by first | assumption | omega), (by first | assumption | omega), (by first | assumption | omega), (by first | assumption | omega), (by first | assumption | omega)⟩) ⟨rfl, rfl, rfl, rfl, rfl, rfl, rfl, rfl, rfl, rfl, rfl, trivial⟩
  have l7419 := r7202.lt
  (refine ZR.makeE (l := 64) (m := 64) ElU14 rfl (by decide) rfl rfl rfl rfl (Nat.le_refl _) (by decide) (by decide) rfl rfl ?_; intro W7418 g1 eg1 rz zg1 b7415; replace rz : RowL W7418 g1 25 (ints .u64 (List.replicate 64 0)) := rz)
  have zb7415 := b7415.size; replace r7202 := r7202.up b7415; replace b7199 := Zu b7199 b7415; replace b5745 := Zu b5745 b7415; replace rd7 := rd7.up b7415; replace b193 := Zu b193 b7415; replace b127 := Zu b127 b7415; replace q := Zu q b7415; replace hok := Zh hok b7415; have y7423 := hok.size
  refine ⟨hok, ?_⟩
  refine AA.one 0 (by kernel_rfl) ?_
  refine SR.call rfl (R.call rfl rfl rfl) rfl rfl (jhome_any _) ?_
  rintro e W7504 ⟨rfl, b7503⟩
  have zb7503 := b7503.size; replace b7415 := Zu b7415 b7503; replace rz := rz.up b7503; replace r7202 := r7202.up b7503; replace b7199 := Zu b7199 b7503; replace b5745 := Zu b5745 b7503; replace rd7 := rd7.up b7503; replace b193 := Zu b193 b7503; replace b127 := Zu b127 b7503; replace q := Zu q b7503; replace hok := Zh hok b7503; have y7505 := hok.size
  refine ⟨_, rfl, hok, ?_⟩
  refine AA.one 2 (by kernel_rfl) ?_
  have l7528 := rz.lt; have l7529 := r7202.lt
  (refine SR.call rfl (R.call rfl rfl rfl) rfl rfl (jOf_0 32 8 16 8 1 2 9 11 15 16 _ 64 (List.replicate 64 0) _ (hSF _ q) jhome_is (RowL.asInts rz .u64 _ rfl rfl) rfl rfl) ?_; rintro e W7527 ⟨rfl, b7524⟩; refine ⟨_, rfl, ?_⟩)
  have zb7524 := b7524.size; replace b7503 := Zu b7503 b7524; replace b7415 := Zu b7415 b7524; replace rz := rz.up b7524; replace r7202 := r7202.up b7524; replace b7199 := Zu b7199 b7524; replace b5745 := Zu b5745 b7524; replace rd7 := rd7.up b7524; replace b193 := Zu b193 b7524; replace b127 := Zu b127 b7524; replace q := Zu q b7524; replace hok := Zh hok b7524; have y7533 := hok.size
  refine ⟨hok, ?_⟩
  refine AA.pure 3 rfl hok (by kernel_rfl) (fun w' b' => R.move rfl rfl) rfl rfl ?_
  refine AA.pure 4 rfl hok (by kernel_rfl) (fun w' b' => R.extract rfl rfl rfl) rfl rfl ?_
  refine AA.pure 5 rfl hok (by kernel_rfl) (fun w' b' => R.extract rfl rfl rfl) rfl rfl ?_
  refine AA.pure 6 rfl hok (by kernel_rfl) (fun w' b' => R.extract rfl rfl rfl) rfl rfl ?_
  refine AA.one 8 (by kernel_rfl) ?_
  refine ZR.storeN (vs := (redL 0 0 noA 0 0 0 0 0 false)) rfl rfl rfl rfl rfl r7202 (by exact Nat.le_of_ble_eq_true rfl) (ones_of rfl) rfl rfl ?_
  intro W7614 r7615 b7613 z7616
  have hlb7613 := r7202.lt
  replace r7615 : RowL W7614 _ 28 (redL 0 0 noA 0 0 0 0 0 false) := r7615
  clear r7202
  replace rz := Zd rz b7613; replace b7199 := Zg b7199 b7613; replace b5745 := Zg b5745 b7613
  replace rd7 := rd7.gr b7613 (by omega)
  replace b193 := Zg b193 b7613; replace b127 := Zg b127 b7613; replace q := Zg q b7613; replace hok := Zo hok b7613
  have r7202 := r7615
  clear r7615
  refine ⟨hok, ?_⟩
  refine AA.pure 9 rfl hok (by kernel_rfl) (fun w' b' => R.assign rfl rfl) rfl rfl ?_
  refine AA.pure 10 rfl hok (by kernel_rfl) (fun w' b' => R.assign rfl rfl) rfl rfl ?_
  refine AA.done rfl ?_
  clear hok
  exact EE.weak (J786 _ _ ⟨rfl, (by first | assumption | omega), (by first | assumption | omega), (by first | assumption | omega), (by first | assumption | omega), (by first | assumption | omega), (by first | assumption | omega)⟩) ⟨rfl, rfl, rfl, rfl, rfl, rfl, rfl, rfl, rfl, rfl, rfl, trivial⟩
set_option linter.unusedVariables false
set_option linter.unusedSimpArgs false
set_option maxRecDepth 100000
set_option maxHeartbeats 8000000
--C journal_Words | hwo @w (hSF _ q) | ⟨@v, rfl, @g, @k, rfl, @h, @r, @o, @l, @b⟩
theorem jpreW_lt (k n : Int) (a : Nat → Nat) (f t : Int) (fk tk : Nat) (r : Int) (d : Bool) (li lr : Int) (hli : li ≤ 256) (hlr : lr ≤ 1024) (ho : okJ k n a f t fk tk r d li lr) (hb : ∀ x ∈ jsixL a, x < 18446744073709551616) (hfk : fk < 18446744073709551616) (htk : tk < 18446744073709551616) : ∀ z ∈ jpreW k n a f t fk tk r d, z < 18446744073709551616 := by
  intro z hz
  rcases ho with ⟨rfl, hn, hfl, rfl, rfl, rfl, rfl, rfl, rfl⟩ | ⟨rfl, hn, ha, h1, h2, h3, h4⟩
  · have hz2 : z ∈ 4353 :: n.toNat :: jsixL a := hz
    simp only [List.mem_cons] at hz2
    rcases hz2 with rfl | rfl | hz2
    · decide
    · omega
    · exact hb z hz2
  · have hz2 : z ∈ [1794, f.toNat, fk, t.toNat, tk, r.toNat, n.toNat, if d then 1 else 0] := hz
    simp only [List.mem_cons, List.not_mem_nil, or_false] at hz2
    rcases hz2 with rfl | rfl | rfl | rfl | rfl | rfl | rfl | rfl
    · decide
    · omega
    · exact hfk
    · omega
    · exact htk
    · omega
    · omega
    · split <;> decide
set_option linter.unusedVariables false
set_option linter.unusedSimpArgs false
open Go.RowKit Go.ChangeShapes Go.WideShapes Go.ChangeAt
theorem own : ownKnob Tryz.prog.godebug = none := by kernel_rfl
theorem laidOut : laidOutB Tryz.prog = true := by kernel_rfl
section
variable {H : Type} {enc : TypeId × Value → H} {P : Program} {w : World} {base : Nat} {spare : Nat → Bool} {held : Bool} {r : Reach} {b0 : Nat} {t : TypeId} {v : Value} {d : DataW H} {p : List MemPlace}
end
set_option linter.unusedVariables false
set_option linter.unusedSimpArgs false
/-- Which kind of integer lies at a cell. -/
def atC (P : Program) : Nat → TypeId → Nat → Option IntKind
  | 0, _, _ => none
  | d + 1, t, j => match P.underlying t with
    | some (.struct fs) => fs.toList.findSome? fun f => if f.offset ≤ j ∧ j < f.offset + P.cellsOf f.type then atC P d f.type (j - f.offset) else none
    | some (.array n e) => if j / P.cellsOf e < n then atC P d e (j % P.cellsOf e) else none
    | some (.int k) => if j = 0 then some k else none
    | _ => none
section
variable {H : Type} {enc : TypeId × Value → H} {P : Program} {w : World} {base : Nat} {spare : Nat → Bool} {held : Bool} {r : Reach} {b0 : Nat} {t : TypeId} {v : Value} {d : DataW H} {p : List MemPlace}
theorem trod_at : ∀ (n : Nat) (t : TypeId) (j fuel : Nat) (cs : List Value) (x : DataW H × List MemPlace) (k : IntKind), atC P n t j = some k → DataW.trod enc P w base spare held fuel t cs = some x → ∃ z : Int, cs[j]? = some (.int k z) ∧ (Lit.int k z).wf = true
  | 0, _, _, _, _, _, _, h, _ => by cases h
  | n + 1, t, j, fuel, cs, x, k, h, hx => by
    cases hu : P.underlying t with
    | none => simp [atC, hu] at h
    | some kd =>
      cases kd <;> simp only [atC, hu] at h <;> try (cases h; done)
      case int q =>
        split at h
        · rename_i hj
          cases h
          subst hj
          obtain ⟨z, e, _, hw⟩ := DataW.trod_int hu hx
          exact ⟨z, by rw [e]; rfl, hw⟩
        · cases h
      case struct fs =>
        obtain ⟨f, hf, hfk⟩ := List.exists_of_findSome?_eq_some h
        split at hfk
        · rename_i hj
          obtain ⟨xs, m, _, rfl, hl, hlen, hf2⟩ := DataW.trod_struct hu hx
          obtain ⟨i, hi⟩ := List.mem_iff_getElem?.1 hf
          have h2 := hf2 i f (by simpa using hi)
          have hil : i < xs.length := by
            have := (List.getElem?_eq_some_iff.1 hi).1
            rw [Array.length_toList] at this
            omega
          rw [List.getElem?_eq_getElem hil] at h2
          obtain ⟨z, e, hw⟩ := trod_at n f.type (j - f.offset) _ _ _ k hfk h2
          refine ⟨z, ?_, hw⟩
          rw [List.getElem?_take] at e
          split at e
          · rw [List.getElem?_drop] at e
            rwa [show f.offset + (j - f.offset) = j by omega] at e
          · cases e
        · cases hfk
      case array m e =>
        split at h
        · rename_i hj
          obtain ⟨xs, m', _, rfl, hl, hlen, hi⟩ := DataW.trod_array hu hx
          have h2 := hi _ hj
          rw [List.getElem?_eq_getElem (by omega)] at h2
          obtain ⟨z, e', hw⟩ := trod_at n e (j % P.cellsOf e) _ _ _ k h h2
          refine ⟨z, ?_, hw⟩
          rw [List.getElem?_take] at e'
          split at e'
          · rw [List.getElem?_drop] at e'
            rwa [show j / P.cellsOf e * P.cellsOf e + j % P.cellsOf e = j by rw [Nat.mul_comm]; exact Nat.div_add_mod _ _] at e'
          · cases e'
        · cases h
theorem open_ints {c : Nat} (ks : Nat → IntKind) (hs : (match P.underlying t with | some (.struct _) | some (.array _ _) => true | _ => false) = true) (hc : P.cellsOf t = c) (hk : (List.range c).all (fun j => atC P 9 t j == some (ks j)) = true)
    (hv : Value.okWide P w r b0 t v) (h : DataW.Trod enc P w base spare held t v d p) : ∃ g : Nat → Int, v = .agg ((List.range c).map fun j => Value.int (ks j) (g j)).toArray ∧ ∀ j, j < c → (Lit.int (ks j) (g j)).wf = true := by
  have hg : ∃ cs, v = .agg cs ∧ cs.size = P.cellsOf t := by
    unfold Value.okWide at hv
    split at hv
    · obtain ⟨cs, h1, h2, _⟩ := hv; exact ⟨cs, h1, h2⟩
    · obtain ⟨cs, h1, h2, _⟩ := hv; exact ⟨cs, h1, h2⟩
    · rename_i h1 h2
      split at hs <;> simp_all
  obtain ⟨cs, rfl, hsz⟩ := hg
  obtain ⟨fuel, hf⟩ := h
  have key : ∀ j, ∃ z : Int, j < c → cs.toList[j]? = some (.int (ks j) z) ∧ (Lit.int (ks j) z).wf = true := by
    intro j
    by_cases hj : j < c
    · have hk' := List.all_eq_true.1 hk j (List.mem_range.2 hj)
      have hk'' : atC P 9 t j = some (ks j) := by simpa using hk'
      obtain ⟨z, h1, h2⟩ := trod_at 9 t j fuel _ _ _ hk'' hf
      exact ⟨z, fun _ => ⟨h1, h2⟩⟩
    · exact ⟨0, fun h => absurd h hj⟩
  refine ⟨fun j => Classical.choose (key j), ?_, fun j hj => (Classical.choose_spec (key j) hj).2⟩
  congr 1
  apply Array.ext'
  apply List.ext_getElem?
  intro j
  simp only [List.toList_toArray, List.getElem?_map]
  by_cases hj : j < c
  · rw [(Classical.choose_spec (key j) hj).1, List.getElem?_range hj]
    rfl
  · rw [List.getElem?_eq_none (by rw [Array.length_toList, hsz, hc]; omega), List.getElem?_eq_none (by simp; omega)]
    rfl
end
set_option linter.unusedVariables false
set_option linter.unusedSimpArgs false
/-- Which kind of integer lies at a cell. -/
def atB (P : Program) : Nat → TypeId → Nat → Option (Option IntKind)
  | 0, _, _ => none
  | d + 1, t, j => match P.underlying t with
    | some (.struct fs) => fs.toList.findSome? fun f => if f.offset ≤ j ∧ j < f.offset + P.cellsOf f.type then atB P d f.type (j - f.offset) else none
    | some (.array n e) => if j / P.cellsOf e < n then atB P d e (j % P.cellsOf e) else none
    | some (.int k) => if j = 0 then some (some k) else none
    | some .bool => if j = 0 then some none else none
    | _ => none
def cellB : Option IntKind → Int → Bool → Value
  | some k, z, _ => .int k z
  | none, _, b => .bool b
def wfB : Option IntKind → Int → Prop
  | some k, z => (Lit.int k z).wf = true
  | none, _ => True
section
variable {H : Type} {enc : TypeId × Value → H} {P : Program} {w : World} {base : Nat} {spare : Nat → Bool} {held : Bool} {r : Reach} {b0 : Nat} {t : TypeId} {v : Value} {d : DataW H} {p : List MemPlace}
theorem trod_atB : ∀ (n : Nat) (t : TypeId) (j fuel : Nat) (cs : List Value) (x : DataW H × List MemPlace) (k : Option IntKind), atB P n t j = some k → DataW.trod enc P w base spare held fuel t cs = some x → ∃ (z : Int) (b : Bool), cs[j]? = some (cellB k z b) ∧ wfB k z
  | 0, _, _, _, _, _, _, h, _ => by cases h
  | n + 1, t, j, fuel, cs, x, k, h, hx => by
    cases hu : P.underlying t with
    | none => simp [atB, hu] at h
    | some kd =>
      cases kd <;> simp only [atB, hu] at h <;> try (cases h; done)
      case int q =>
        split at h
        · rename_i hj
          cases h
          subst hj
          obtain ⟨z, e, _, hw⟩ := DataW.trod_int hu hx
          exact ⟨z, false, by rw [e]; rfl, hw⟩
        · cases h
      case bool =>
        split at h
        · rename_i hj
          cases h
          subst hj
          obtain ⟨b, e, _⟩ := DataW.trod_bool hu hx
          exact ⟨0, b, by rw [e]; rfl, trivial⟩
        · cases h
      case struct fs =>
        obtain ⟨f, hf, hfk⟩ := List.exists_of_findSome?_eq_some h
        split at hfk
        · rename_i hj
          obtain ⟨xs, m, _, rfl, hl, hlen, hf2⟩ := DataW.trod_struct hu hx
          obtain ⟨i, hi⟩ := List.mem_iff_getElem?.1 hf
          have h2 := hf2 i f (by simpa using hi)
          have hil : i < xs.length := by
            have := (List.getElem?_eq_some_iff.1 hi).1
            rw [Array.length_toList] at this
            omega
          rw [List.getElem?_eq_getElem hil] at h2
          obtain ⟨z, b, e, hw⟩ := trod_atB n f.type (j - f.offset) _ _ _ k hfk h2
          refine ⟨z, b, ?_, hw⟩
          rw [List.getElem?_take] at e
          split at e
          · rw [List.getElem?_drop] at e
            rwa [show f.offset + (j - f.offset) = j by omega] at e
          · cases e
        · cases hfk
      case array m e =>
        split at h
        · rename_i hj
          obtain ⟨xs, m', _, rfl, hl, hlen, hi⟩ := DataW.trod_array hu hx
          have h2 := hi _ hj
          rw [List.getElem?_eq_getElem (by omega)] at h2
          obtain ⟨z, b, e', hw⟩ := trod_atB n e (j % P.cellsOf e) _ _ _ k h h2
          refine ⟨z, b, ?_, hw⟩
          rw [List.getElem?_take] at e'
          split at e'
          · rw [List.getElem?_drop] at e'
            rwa [show j / P.cellsOf e * P.cellsOf e + j % P.cellsOf e = j by rw [Nat.mul_comm]; exact Nat.div_add_mod _ _] at e'
          · cases e'
        · cases h
theorem open_cells {c : Nat} (ks : Nat → Option IntKind) (hs : (match P.underlying t with | some (.struct _) | some (.array _ _) => true | _ => false) = true) (hc : P.cellsOf t = c) (hk : (List.range c).all (fun j => atB P 9 t j == some (ks j)) = true)
    (hv : Value.okWide P w r b0 t v) (h : DataW.Trod enc P w base spare held t v d p) : ∃ (g : Nat → Int) (b : Nat → Bool), v = .agg ((List.range c).map fun j => cellB (ks j) (g j) (b j)).toArray ∧ ∀ j, j < c → wfB (ks j) (g j) := by
  have hg : ∃ cs, v = .agg cs ∧ cs.size = P.cellsOf t := by
    unfold Value.okWide at hv
    split at hv
    · obtain ⟨cs, h1, h2, _⟩ := hv; exact ⟨cs, h1, h2⟩
    · obtain ⟨cs, h1, h2, _⟩ := hv; exact ⟨cs, h1, h2⟩
    · rename_i h1 h2
      split at hs <;> simp_all
  obtain ⟨cs, rfl, hsz⟩ := hg
  obtain ⟨fuel, hf⟩ := h
  have key : ∀ j, ∃ zb : Int × Bool, j < c → cs.toList[j]? = some (cellB (ks j) zb.1 zb.2) ∧ wfB (ks j) zb.1 := by
    intro j
    by_cases hj : j < c
    · have hk' := List.all_eq_true.1 hk j (List.mem_range.2 hj)
      have hk'' : atB P 9 t j = some (ks j) := by simpa using hk'
      obtain ⟨z, b, h1, h2⟩ := trod_atB 9 t j fuel _ _ _ hk'' hf
      exact ⟨(z, b), fun _ => ⟨h1, h2⟩⟩
    · exact ⟨(0, false), fun h => absurd h hj⟩
  refine ⟨fun j => (Classical.choose (key j)).1, fun j => (Classical.choose (key j)).2, ?_, fun j hj => (Classical.choose_spec (key j) hj).2⟩
  congr 1
  apply Array.ext'
  apply List.ext_getElem?
  intro j
  simp only [List.toList_toArray, List.getElem?_map]
  by_cases hj : j < c
  · rw [(Classical.choose_spec (key j) hj).1, List.getElem?_range hj]
    rfl
  · rw [List.getElem?_eq_none (by rw [Array.length_toList, hsz, hc]; omega), List.getElem?_eq_none (by simp; omega)]
    rfl
end
open Go.RowKit Go.Shelf Go.ChangeShapes Go.WideShapes
/-- What lies in a redo's cells. -/
def ksR (j : Nat) : Option IntKind := if j = 23 then none else if (2 ≤ j ∧ j < 18) ∨ j = 20 ∨ j = 21 then some .u64 else some .i64
theorem redo_cells (g : Nat → Int) (b : Nat → Bool) (hw : ∀ j, j < 24 → wfB (ksR j) (g j)) : ∃ (k n : Int) (a : Nat → Nat) (f t : Int) (fk tk : Nat) (r : Int) (d : Bool), Value.agg ((List.range 24).map fun j => cellB (ksR j) (g j) (b j)).toArray = redV k n a f t fk tk r d ∧ (∀ x ∈ jsixL a, x < 18446744073709551616) ∧ fk < 18446744073709551616 ∧ tk < 18446744073709551616 := by
  have hu : ∀ j, j < 24 → ksR j = some .u64 → 0 ≤ g j ∧ g j < 18446744073709551616 := fun j hj e => by
    have := hw j hj
    rw [e] at this
    exact wf_u64 this
  have hn : ∀ j, j < 24 → ksR j = some .u64 → (((g j).toNat : Nat) : Int) = g j := fun j hj e => Int.toNat_of_nonneg (hu j hj e).1
  refine ⟨g 0, g 1, fun i => (g (2 + i)).toNat, g 18, g 19, (g 20).toNat, (g 21).toNat, g 22, b 23, ?_, ?_, ?_, ?_⟩
  · unfold redV
    simp only [Nat.reduceAdd]
    rw [hn 2 (by decide) rfl, hn 3 (by decide) rfl, hn 4 (by decide) rfl, hn 5 (by decide) rfl, hn 6 (by decide) rfl, hn 7 (by decide) rfl, hn 8 (by decide) rfl, hn 9 (by decide) rfl, hn 10 (by decide) rfl, hn 11 (by decide) rfl, hn 12 (by decide) rfl, hn 13 (by decide) rfl, hn 14 (by decide) rfl, hn 15 (by decide) rfl, hn 16 (by decide) rfl, hn 17 (by decide) rfl, hn 20 (by decide) rfl, hn 21 (by decide) rfl]
    rfl
  · intro x hx
    have hx2 : x ∈ (List.range 16).map (fun i => (g (2 + i)).toNat) := hx
    obtain ⟨i, hi, rfl⟩ := List.mem_map.1 hx2
    have hi16 : i < 16 := by simpa using hi
    have := hu (2 + i) (by omega) (by unfold ksR; rw [if_neg (by omega), if_pos (by omega)])
    omega
  · have := hu 20 (by decide) rfl
    omega
  · have := hu 21 (by decide) rfl
    omega
def uE (x : Nat) : List Value := [.int .u64 (x : Int)]
theorem uEnc : Enc uE 1 := ⟨fun _ => rfl, fun t u hu => by
  simp only [uE, List.mem_cons, List.not_mem_nil, or_false] at hu
  subst hu
  rfl, by decide⟩
theorem flat_u (ws : List Nat) : ws.flatMap uE = ints .u64 ws := by
  induction ws with
  | nil => rfl
  | cons x ws ih => rw [List.flatMap_cons, ih]; rfl
theorem reads_uE {w : World} {v : Value} {ws : List Nat} (h : Reads w v (ints .u64 ws)) : ReadsT uE 1 w v ws := by
  obtain ⟨a, cap, e, hc, h⟩ := h
  have hl : (ints .u64 ws).length = ws.length := by simp [ints]
  rw [hl] at e hc
  exact ⟨a, cap, e, hc, fun hne => by
    obtain ⟨b, off, h1, h2, h3⟩ := h (by intro e; rw [e] at hl; exact hne (List.eq_nil_of_length_eq_zero hl.symm))
    exact ⟨b, off, h1, h2, fun j hj => by rw [flat_u]; exact h3 j (by omega)⟩⟩
theorem own_wds {w : World} {base e g N cap : Nat} {ws : List Nat} (h : OwnsT uE 1 w base e (.slice (some ⟨g, 0, none⟩) N cap) ws) (hl : g < w.heap.size) : WdsAt w g 0 ws := ⟨fun j x hj => by
  have := (h.reads uEnc).elemN uEnc hj
  have := this.1.at (j := 0) rfl
  simpa using this, hl⟩
/-- Words of which so many, from the second one on, are these. -/
def mixJ (ws v0 : List Nat) (i : Nat) : List Nat := v0.take 1 ++ (ws.drop 1).take i ++ v0.drop (i + 1)
theorem mixJ_0 (ws v0 : List Nat) : mixJ ws v0 0 = v0 := by
  unfold mixJ
  rw [List.take_zero, List.append_nil, List.take_append_drop]
theorem mixJ_len {ws v0 : List Nat} {i : Nat} (h : v0.length = 64) (hi : i + 1 ≤ ws.length) (hw : ws.length ≤ 64) : (mixJ ws v0 i).length = 64 := by
  unfold mixJ
  simp
  omega
theorem mixJ_set {ws v0 : List Nat} {i x : Nat} (h : v0.length = 64) (hi : i + 1 < ws.length) (hw : ws.length ≤ 64) (hx : ws[i + 1]? = some x) : (mixJ ws v0 i).set (i + 1) x = mixJ ws v0 (i + 1) := by
  unfold mixJ
  have hl : (v0.take 1 ++ (ws.drop 1).take i).length = i + 1 := by simp; omega
  have ed : v0.drop (i + 1) = v0[i + 1] :: v0.drop (i + 1 + 1) := List.drop_eq_getElem_cons (by omega)
  rw [List.set_append_right _ _ (by omega), hl, Nat.sub_self, ed, List.set_cons_zero]
  have e : (ws.drop 1).take (i + 1) = (ws.drop 1).take i ++ [x] := by
    rw [List.take_add_one, List.getElem?_drop, Nat.add_comm 1 i, hx]
    rfl
  rw [e]
  simp
theorem mixJ_zero {ws v0 : List Nat} {i : Nat} (h : v0.length = 64) (h0 : v0[0]? = some 0) : (mixJ ws v0 i)[0]? = some 0 := by
  unfold mixJ
  rw [List.append_assoc, List.getElem?_append_left (by simp; omega), List.getElem?_take, if_pos (by decide)]
  exact h0
theorem mixJ_end {ws v0 : List Nat} {N x : Nat} (h : v0.length = 64) (hN : ws.length = N) (h0 : 0 < N) (hw : N ≤ 64) (hx : ws[0]? = some x) : (mixJ ws v0 (N - 1)).set 0 x = ws ++ v0.drop N := by
  unfold mixJ
  have e1 : v0.take 1 = [v0[0]] := by
    rw [List.take_one, List.head?_eq_getElem?, List.getElem?_eq_getElem (by omega)]
    rfl
  have e2 : (ws.drop 1).take (N - 1) = ws.drop 1 := List.take_of_length_le (by simp; omega)
  have hg := (List.getElem?_eq_some_iff.1 hx).2
  rw [e1, e2, Nat.sub_add_cancel h0]
  show x :: (ws.drop 1 ++ v0.drop N) = _
  have e3 : ws = x :: ws.drop 1 := by
    have := List.drop_eq_getElem_cons (l := ws) (i := 0) (by omega)
    rw [List.drop_zero, hg] at this
    exact this
  conv => rhs; rw [e3]
  rfl
theorem jputs_len (at_ : Int) (ws : List Nat) (h : 0 < ws.length) : (jputs at_ ws).length = ws.length := by
  unfold jputs
  simp [jputN_len]
  omega
theorem jputs_at {c8 i x N : Nat} {ws : List Nat} (hN : ws.length = N) (hi : i < N - 1) (hx : ws[i + 1]? = some x) : (jputs (64 + 64 * (c8 : Int)) ws)[i]? = some (((64 + 64 * c8 + (i + 1) : Nat) : Int), x) := by
  unfold jputs
  rw [List.getElem?_append_left (by rw [jputN_len]; omega)]
  unfold jputN
  rw [List.getElem?_map, List.getElem?_range (by omega)]
  simp only [Option.map_some, hx, Option.getD_some]
  rw [show (64 + 64 * (c8 : Int) + ((i + 1 : Nat) : Int)) = ((64 + 64 * c8 + (i + 1) : Nat) : Int) by omega]
theorem jputs_last {c8 x N : Nat} {ws : List Nat} (hN : ws.length = N) (h0 : ws[0]? = some x) : (jputs (64 + 64 * (c8 : Int)) ws)[N - 1]? = some (((64 + 64 * c8 : Nat) : Int), x) := by
  unfold jputs
  rw [List.getElem?_append_right (by rw [jputN_len, hN]; exact Nat.le_refl _), jputN_len, hN, Nat.sub_self, h0]
  rw [show (64 + 64 * (c8 : Int)) = ((64 + 64 * c8 : Nat) : Int) by omega]
  rfl
theorem jholds_A (fb fi fr ft : Int) (k n : Int) (a : Nat → Nat) (f t : Int) (fk tk : Nat) (r : Int) (d : Bool) (cl : Int) (us : List Nat) (hus : us.length = 63) (w : World) (hS : Start w) (hb : ∀ x ∈ jsixL a, x < 18446744073709551616) (h : ¬(ly_okF fb fi fr ft ∧ (0 ≤ cl ∧ cl ≤ 7) ∧ okJ k n a f t fk tk r d fi fr)) : Calls Tryz.prog 7 #[formV fb fi fr ft, .int .i64 cl, redV k n a f t fk tk r d, .agg (ints .u64 us).toArray] w fun x w' => x = .returned (.bool true) ∧ Below w.heap.size w w' := by
  have q := Below.refl w.heap.size w
  have hSF : ∀ X, Below w.heap.size w X → Start X := fun X b => hS.up b
  by_cases hf : ly_okF fb fi fr ft
  · have hlay := fun W => jlaw_T fb fi fr ft W hf
    have hl : isL fb fi fr ft 9 (9 + fi / 4) (9 + fi / 4 + fr / 4) (10 + fi / 4 + fr / 4) := ⟨hf, rfl, rfl, rfl, rfl⟩
    by_cases hc : 0 ≤ cl ∧ cl ≤ 7
    · have hsn := fun W (hS : Start W) => jStores_P k n a f t fk tk r d fb fi fr ft 3 4 9 (9 + fi / 4) (9 + fi / 4 + fr / 4) (10 + fi / 4 + fr / 4) cl 310 W hS hb (.inr ⟨⟨hl, hc⟩, fun ho => h ⟨hf, hc, ho⟩, rfl⟩)
      have hkt := fun W => strike_T fb fi fr ft 3 4 9 (9 + fi / 4) (9 + fi / 4 + fr / 4) (10 + fi / 4 + fr / 4) cl W hl hc
      clear hS h
      refine X.fn Tryz.func7 rfl (n := 165) rfl rfl ?_
      refine Zr ?_
      refine LL.box [.int .i64 fb, .int .i64 fi, .int .i64 fr, .int .i64 ft] rfl rfl rfl rfl rfl ?_
      intro W9 g10 eg10 r11 z12 b8
      replace q := Zu q b8; have l21 := r11.lt
      refine LL.box (redL k n a f t fk tk r d) rfl rfl rfl rfl rfl ?_
      intro W23 g24 eg24 r25 z26 b22
      replace r11 := r11.up b22; replace q := Zu q b22; have l31 := r25.lt; have l32 := r11.lt
      (refine LL.box (ints .u64 us) rfl rfl rfl rfl rfl ?_; intro W30 g7 eg7 r7 zg7 b27)
      have zb27 := b27.size; replace r25 := r25.up b27; replace r11 := r11.up b27; replace q := Zu q b27; refine Za ?_; refine Zq ?_; refine Zr ?_; refine Zv r11 ?_
      refine Zy (R.call rfl rfl rfl) (hlay _) ?_
      rintro e W67 ⟨rfl, b66⟩
      refine ⟨_, rfl, ?_⟩; have zb66 := b66.size; replace r7 := r7.up b66; replace r25 := r25.up b66; replace r11 := r11.up b66; replace q := Zu q b66; have l79 := r7.lt; have l80 := r25.lt; have l81 := r11.lt
      refine LL.alloc ([.int .i64 0, .int .i64 0, .int .i64 0, .int .i64 0, .int .u64 0, .int .u64 0, .int .i64 0, .int .i64 0, .int .i64 0, .int .i64 0]) rfl rfl rfl rfl rfl ?_
      intro W83 g84 eg84 r85 z86 b82
      replace r7 := r7.up b82; replace r25 := r25.up b82; replace r11 := r11.up b82; replace q := Zu q b82
      refine LL.storeN (vs := [.int .i64 fb, .int .i64 fi, .int .i64 fr, .int .i64 ft, .int .u64 ↑3, .int .u64 ↑4, .int .i64 9, .int .i64 (9 + fi / 4), .int .i64 (9 + fi / 4 + fr / 4), .int .i64 (10 + fi / 4 + fr / 4)]) rfl rfl rfl rfl r85 (by exact Nat.le_of_ble_eq_true rfl) (ones_of rfl) rfl rfl ?_
      intro W99 r100 b98 z101
      have hlb98 := r85.lt
      replace r100 : RowL W99 _ 31 [.int .i64 fb, .int .i64 fi, .int .i64 fr, .int .i64 ft, .int .u64 ↑3, .int .u64 ↑4, .int .i64 9, .int .i64 (9 + fi / 4), .int .i64 (9 + fi / 4 + fr / 4), .int .i64 (10 + fi / 4 + fr / 4)] := r100
      clear r85
      replace r7 := Zd r7 b98; replace r25 := Zd r25 b98; replace r11 := Zd r11 b98; replace q := Zg q b98
      have r85 := r100
      clear r100
      refine Zq ?_; refine Zr ?_; refine Zv r85 ?_; refine Zm ?_; refine Zv r25 ?_
      refine Zy (R.call rfl rfl rfl) (hsn _ (hSF _ q)) ?_
      rintro e W147 ⟨rfl, b146⟩
      refine ⟨_, rfl, ?_⟩; have zb146 := b146.size; replace r7 := r7.up b146; replace r25 := r25.up b146; replace r11 := r11.up b146; replace q := Zu q b146; replace r85 := r85.up b146; refine Zm ?_; refine Zx ?_; refine Zx ?_; refine Za ?_; refine Za ?_; refine Zq ?_; refine Zr ?_; refine Zv r85 ?_; refine Zm ?_
      refine Zy (R.call rfl rfl rfl) (hkt _) ?_
      rintro e W238 ⟨g240, rfl, r241, h239, b237⟩
      refine ⟨_, rfl, ?_⟩; have zb237 := b237.size; replace r7 := r7.up b237; replace r25 := r25.up b237; replace r11 := r11.up b237; replace q := Zu q b237; replace r85 := r85.up b237; refine Zm ?_; refine Zx ?_; refine Zx ?_; refine Za ?_; refine Za ?_; refine Zq ?_; refine Zc ?_; refine Zr ?_; refine Zm ?_
      refine Zy (R.call rfl rfl rfl) (num_any _ _) ?_
      rintro e W' ⟨rfl, rfl⟩
      refine ⟨_, rfl, ?_⟩; refine ZneT ?_; refine Zq ?_; refine ZY ?_; refine Zr ?_
      refine Zy (R.call rfl rfl rfl) (works_any _ (hSF _ q)) ?_
      rintro e W352 ⟨rfl, b351⟩
      refine ⟨_, rfl, ?_⟩; have zb351 := b351.size; replace r241 := r241.up b351; replace r7 := r7.up b351; replace r25 := r25.up b351; replace r11 := r11.up b351; replace q := Zu q b351; replace r85 := r85.up b351; refine Za ?_; refine Zq ?_; refine ZR ?_; refine EE.thenR ?_; refine EE.ret _ rfl rfl ?_
      exact ⟨rfl, q⟩
    · have hsn := fun W (hS : Start W) => jStores_P k n a f t fk tk r d fb fi fr ft 3 4 9 (9 + fi / 4) (9 + fi / 4 + fr / 4) (10 + fi / 4 + fr / 4) cl 2 W hS hb (.inl ⟨fun hh => hc hh.2, rfl⟩)
      have hkn := fun W => strike_P fb fi fr ft 3 4 9 (9 + fi / 4) (9 + fi / 4 + fr / 4) (10 + fi / 4 + fr / 4) cl W (fun hh => hc hh.2)
      clear hS h hc
      refine X.fn Tryz.func7 rfl (n := 165) rfl rfl ?_
      refine Zr ?_
      refine LL.box [.int .i64 fb, .int .i64 fi, .int .i64 fr, .int .i64 ft] rfl rfl rfl rfl rfl ?_
      intro Wa9 ga10 ega10 ra11 za12 ba8
      replace q := Zu q ba8; have la21 := ra11.lt
      refine LL.box (redL k n a f t fk tk r d) rfl rfl rfl rfl rfl ?_
      intro Wa23 ga24 ega24 ra25 za26 ba22
      replace ra11 := ra11.up ba22; replace q := Zu q ba22; have la31 := ra25.lt; have la32 := ra11.lt
      (refine LL.box (ints .u64 us) rfl rfl rfl rfl rfl ?_; intro Wa30 g7 eg7 r7 zg7 ba27)
      have zba27 := ba27.size; replace ra25 := ra25.up ba27; replace ra11 := ra11.up ba27; replace q := Zu q ba27; refine Za ?_; refine Zq ?_; refine Zr ?_; refine Zv ra11 ?_
      refine Zy (R.call rfl rfl rfl) (hlay _) ?_
      rintro e Wa67 ⟨rfl, ba66⟩
      refine ⟨_, rfl, ?_⟩; have zba66 := ba66.size; replace r7 := r7.up ba66; replace ra25 := ra25.up ba66; replace ra11 := ra11.up ba66; replace q := Zu q ba66; have la79 := r7.lt; have la80 := ra25.lt; have la81 := ra11.lt
      refine LL.alloc ([.int .i64 0, .int .i64 0, .int .i64 0, .int .i64 0, .int .u64 0, .int .u64 0, .int .i64 0, .int .i64 0, .int .i64 0, .int .i64 0]) rfl rfl rfl rfl rfl ?_
      intro Wa83 ga84 ega84 ra85 za86 ba82
      replace r7 := r7.up ba82; replace ra25 := ra25.up ba82; replace ra11 := ra11.up ba82; replace q := Zu q ba82
      refine LL.storeN (vs := [.int .i64 fb, .int .i64 fi, .int .i64 fr, .int .i64 ft, .int .u64 ↑3, .int .u64 ↑4, .int .i64 9, .int .i64 (9 + fi / 4), .int .i64 (9 + fi / 4 + fr / 4), .int .i64 (10 + fi / 4 + fr / 4)]) rfl rfl rfl rfl ra85 (by exact Nat.le_of_ble_eq_true rfl) (ones_of rfl) rfl rfl ?_
      intro Wa99 ra100 ba98 za101
      have hlba98 := ra85.lt
      replace ra100 : RowL Wa99 _ 31 [.int .i64 fb, .int .i64 fi, .int .i64 fr, .int .i64 ft, .int .u64 ↑3, .int .u64 ↑4, .int .i64 9, .int .i64 (9 + fi / 4), .int .i64 (9 + fi / 4 + fr / 4), .int .i64 (10 + fi / 4 + fr / 4)] := ra100
      clear ra85
      replace r7 := Zd r7 ba98; replace ra25 := Zd ra25 ba98; replace ra11 := Zd ra11 ba98; replace q := Zg q ba98
      have ra85 := ra100
      clear ra100
      refine Zq ?_; refine Zr ?_; refine Zv ra85 ?_; refine Zm ?_; refine Zv ra25 ?_
      refine Zy (R.call rfl rfl rfl) (hsn _ (hSF _ q)) ?_
      rintro e Wa147 ⟨rfl, ba146⟩
      refine ⟨_, rfl, ?_⟩; have zba146 := ba146.size; replace r7 := r7.up ba146; replace ra25 := ra25.up ba146; replace ra11 := ra11.up ba146; replace q := Zu q ba146; replace ra85 := ra85.up ba146; refine Zm ?_; refine Zx ?_; refine Zx ?_; refine Za ?_; refine Za ?_; refine Zq ?_; refine Zr ?_; refine Zv ra85 ?_; refine Zm ?_
      refine Zy (R.call rfl rfl rfl) (hkn _) ?_
      rintro e Wa238 ⟨rfl, ba237⟩
      refine ⟨_, rfl, ?_⟩; have zba237 := ba237.size; replace r7 := r7.up ba237; replace ra25 := ra25.up ba237; replace ra11 := ra11.up ba237; replace q := Zu q ba237; replace ra85 := ra85.up ba237; refine Zm ?_; refine Zx ?_; refine Zx ?_; refine Za ?_; refine Za ?_; refine Zq ?_; refine Zc ?_; refine Zr ?_; refine Zm ?_
      refine Zy (R.call rfl rfl rfl) (num_any _ _) ?_
      rintro e W' ⟨rfl, rfl⟩
      refine ⟨_, rfl, ?_⟩; refine ZneT ?_; refine Zq ?_; refine ZY ?_; refine Zr ?_
      refine Zy (R.call rfl rfl rfl) (works_any _ (hSF _ q)) ?_
      rintro e Wa340 ⟨rfl, ba339⟩
      refine ⟨_, rfl, ?_⟩; have zba339 := ba339.size; replace r7 := r7.up ba339; replace ra25 := ra25.up ba339; replace ra11 := ra11.up ba339; replace q := Zu q ba339; replace ra85 := ra85.up ba339; refine Za ?_; refine Zq ?_; refine ZR ?_; refine EE.thenR ?_; refine EE.ret _ rfl rfl ?_
      exact ⟨rfl, q⟩
  · have hlay := fun W => jlaw_Fx fb fi fr ft W hf
    have hnl : ¬isL 0 0 0 0 0 0 0 0 := fun hl => by omega
    have hsn := fun W (hS : Start W) => jStores_P k n a f t fk tk r d 0 0 0 0 0 0 0 0 0 0 cl 2 W hS hb (.inl ⟨fun hh => hnl hh.1, rfl⟩)
    have hkn := fun W => strike_P 0 0 0 0 0 0 0 0 0 0 cl W (fun hh => hnl hh.1)
    clear hS h
    refine X.fn Tryz.func7 rfl (n := 165) rfl rfl ?_
    refine Zr ?_
    refine LL.box [.int .i64 fb, .int .i64 fi, .int .i64 fr, .int .i64 ft] rfl rfl rfl rfl rfl ?_
    intro Wb9 gb10 egb10 rb11 zb12 bb8
    replace q := Zu q bb8; have lb21 := rb11.lt
    refine LL.box (redL k n a f t fk tk r d) rfl rfl rfl rfl rfl ?_
    intro Wb23 gb24 egb24 rb25 zb26 bb22
    replace rb11 := rb11.up bb22; replace q := Zu q bb22; have lb31 := rb25.lt; have lb32 := rb11.lt
    (refine LL.box (ints .u64 us) rfl rfl rfl rfl rfl ?_; intro Wb30 g7 eg7 r7 zg7 bb27)
    have zbb27 := bb27.size; replace rb25 := rb25.up bb27; replace rb11 := rb11.up bb27; replace q := Zu q bb27; refine Za ?_; refine Zq ?_; refine Zr ?_; refine Zv rb11 ?_
    refine Zy (R.call rfl rfl rfl) (hlay _) ?_
    rintro e Wb67 ⟨rfl, bb66⟩
    refine ⟨_, rfl, ?_⟩; have zbb66 := bb66.size; replace r7 := r7.up bb66; replace rb25 := rb25.up bb66; replace rb11 := rb11.up bb66; replace q := Zu q bb66; have lb79 := r7.lt; have lb80 := rb25.lt; have lb81 := rb11.lt
    refine LL.alloc ([.int .i64 0, .int .i64 0, .int .i64 0, .int .i64 0, .int .u64 0, .int .u64 0, .int .i64 0, .int .i64 0, .int .i64 0, .int .i64 0]) rfl rfl rfl rfl rfl ?_
    intro Wb83 gb84 egb84 rb85 zb86 bb82
    replace r7 := r7.up bb82; replace rb25 := rb25.up bb82; replace rb11 := rb11.up bb82; replace q := Zu q bb82
    refine LL.storeN (vs := [.int .i64 0, .int .i64 0, .int .i64 0, .int .i64 0, .int .u64 ↑0, .int .u64 ↑0, .int .i64 0, .int .i64 0, .int .i64 0, .int .i64 0]) rfl rfl rfl rfl rb85 (by exact Nat.le_of_ble_eq_true rfl) (ones_of rfl) rfl rfl ?_
    intro Wb99 rb100 bb98 zb101
    have hlbb98 := rb85.lt
    replace rb100 : RowL Wb99 _ 31 [.int .i64 0, .int .i64 0, .int .i64 0, .int .i64 0, .int .u64 ↑0, .int .u64 ↑0, .int .i64 0, .int .i64 0, .int .i64 0, .int .i64 0] := rb100
    clear rb85
    replace r7 := Zd r7 bb98; replace rb25 := Zd rb25 bb98; replace rb11 := Zd rb11 bb98; replace q := Zg q bb98
    have rb85 := rb100
    clear rb100
    refine Zq ?_; refine Zr ?_; refine Zv rb85 ?_; refine Zm ?_; refine Zv rb25 ?_
    refine Zy (R.call rfl rfl rfl) (hsn _ (hSF _ q)) ?_
    rintro e Wb147 ⟨rfl, bb146⟩
    refine ⟨_, rfl, ?_⟩; have zbb146 := bb146.size; replace r7 := r7.up bb146; replace rb25 := rb25.up bb146; replace rb11 := rb11.up bb146; replace q := Zu q bb146; replace rb85 := rb85.up bb146; refine Zm ?_; refine Zx ?_; refine Zx ?_; refine Za ?_; refine Za ?_; refine Zq ?_; refine Zr ?_; refine Zv rb85 ?_; refine Zm ?_
    refine Zy (R.call rfl rfl rfl) (hkn _) ?_
    rintro e Wb238 ⟨rfl, bb237⟩
    refine ⟨_, rfl, ?_⟩; have zbb237 := bb237.size; replace r7 := r7.up bb237; replace rb25 := rb25.up bb237; replace rb11 := rb11.up bb237; replace q := Zu q bb237; replace rb85 := rb85.up bb237; refine Zm ?_; refine Zx ?_; refine Zx ?_; refine Za ?_; refine Za ?_; refine Zq ?_; refine Zc ?_; refine Zr ?_; refine Zm ?_
    refine Zy (R.call rfl rfl rfl) (num_any _ _) ?_
    rintro e W' ⟨rfl, rfl⟩
    refine ⟨_, rfl, ?_⟩; refine ZneT ?_; refine Zq ?_; refine ZY ?_; refine Zr ?_
    refine Zy (R.call rfl rfl rfl) (works_any _ (hSF _ q)) ?_
    rintro e Wb340 ⟨rfl, bb339⟩
    refine ⟨_, rfl, ?_⟩; have zbb339 := bb339.size; replace r7 := r7.up bb339; replace rb25 := rb25.up bb339; replace rb11 := rb11.up bb339; replace q := Zu q bb339; replace rb85 := rb85.up bb339; refine Za ?_; refine Zq ?_; refine ZR ?_; refine EE.thenR ?_; refine EE.ret _ rfl rfl ?_
    exact ⟨rfl, q⟩
theorem jholds_B (fb fi fr ft : Int) (k n : Int) (a : Nat → Nat) (f t : Int) (fk tk : Nat) (r : Int) (d : Bool) (c8 : Nat) (us : List Nat) (hus : us.length = 63) (husb : ∀ z ∈ us, z < 18446744073709551616) (w : World) (hS : Start w) (hf : ly_okF fb fi fr ft) (hc : c8 ≤ 7) (ho : okJ k n a f t fk tk r d fi fr) (hb : ∀ x ∈ jsixL a, x < 18446744073709551616) (hfk : fk < 18446744073709551616) (htk : tk < 18446744073709551616) : Calls Tryz.prog 7 #[formV fb fi fr ft, .int .i64 (c8 : Int), redV k n a f t fk tk r d, .agg (ints .u64 us).toArray] w fun x w' => x = .returned (.bool true) ∧ Below w.heap.size w w' := by
  have q := Below.refl w.heap.size w
  have hSF : ∀ X, Below w.heap.size w X → Start X := fun X b => hS.up b
  have hlay := fun W => jlaw_T fb fi fr ft W hf
  have hl : isL fb fi fr ft 9 (9 + fi / 4) (9 + fi / 4 + fr / 4) (10 + fi / 4 + fr / 4) := ⟨hf, rfl, rfl, rfl, rfl⟩
  have hso := fun W (hS : Start W) => jStores_T k n a f t fk tk r d fb fi fr ft 3 4 9 (9 + fi / 4) (9 + fi / 4 + fr / 4) (10 + fi / 4 + fr / 4) (c8 : Int) W hS hl (by omega) ho
  have hkt := fun W => strike_T fb fi fr ft 3 4 9 (9 + fi / 4) (9 + fi / 4 + fr / 4) (10 + fi / 4 + fr / 4) (c8 : Int) W hl (by omega)
  have hjl := jW_len k n a f t fk tk r d
  have hpl := jpreW_lt k n a f t fk tk r d fi fr (by omega) (by omega) ho hb hfk htk
  have hsl := wsum_lt (jpreW k n a f t fk tk r d)
  have hwl : ∀ z ∈ jW k n a f t fk tk r d, z < 18446744073709551616 := by
    intro z hz
    unfold jW at hz
    rcases List.mem_append.1 hz with hz | hz
    · exact hpl z hz
    · simp only [List.mem_cons, List.not_mem_nil, or_false] at hz
      rw [hz]
      exact hsl
  have hyes : ∀ z, jHas (jW k n a f t fk tk r d ++ z) k n a f t fk tk r d fi fr := fun z => ⟨ho, by rw [List.take_left' rfl]⟩
  have hsr : sameR k n a f t fk tk r d k n a f t fk tk r d := by simp [sameR]
  obtain ⟨ws, ews⟩ : ∃ ws, jW k n a f t fk tk r d = ws := ⟨_, rfl⟩
  rw [ews] at hso hjl hwl hyes
  obtain ⟨N, hN⟩ : ∃ N, ws.length = N := ⟨_, rfl⟩
  rw [hN] at hjl
  have hN2 : 9 ≤ N ∧ N ≤ 19 := by split at hjl <;> omega
  have hpsl : (jputs (64 + 64 * (c8 : Int)) ws).length = N := by rw [jputs_len _ _ (by omega), hN]
  clear hS hjl hpl hsl hfk htk
  refine X.fn Tryz.func7 rfl (n := 165) rfl rfl ?_
  refine Zr ?_
  refine LL.box [.int .i64 fb, .int .i64 fi, .int .i64 fr, .int .i64 ft] rfl rfl rfl rfl rfl ?_
  intro W16 g17 eg17 r18 z19 b15
  replace q := Zu q b15; have l36 := r18.lt
  refine LL.box (redL k n a f t fk tk r d) rfl rfl rfl rfl rfl ?_
  intro W38 g39 eg39 r40 z41 b37
  replace r18 := r18.up b37; replace q := Zu q b37; have l46 := r40.lt; have l47 := r18.lt
  (refine LL.box (ints .u64 us) rfl rfl rfl rfl rfl ?_; intro W45 g7 eg7 r7 zg7 b42)
  have zb42 := b42.size; replace r40 := r40.up b42; replace r18 := r18.up b42; replace q := Zu q b42; refine Za ?_; refine Zq ?_; refine Zr ?_; refine Zv r18 ?_
  refine Zy (R.call rfl rfl rfl) (hlay _) ?_
  rintro e W112 ⟨rfl, b111⟩
  refine ⟨_, rfl, ?_⟩; have zb111 := b111.size; replace r7 := r7.up b111; replace r40 := r40.up b111; replace r18 := r18.up b111; replace q := Zu q b111; have l134 := r7.lt; have l135 := r40.lt; have l136 := r18.lt
  refine LL.alloc ([.int .i64 0, .int .i64 0, .int .i64 0, .int .i64 0, .int .u64 0, .int .u64 0, .int .i64 0, .int .i64 0, .int .i64 0, .int .i64 0]) rfl rfl rfl rfl rfl ?_
  intro W138 g139 eg139 r140 z141 b137
  replace r7 := r7.up b137; replace r40 := r40.up b137; replace r18 := r18.up b137; replace q := Zu q b137
  refine LL.storeN (vs := [.int .i64 fb, .int .i64 fi, .int .i64 fr, .int .i64 ft, .int .u64 ↑3, .int .u64 ↑4, .int .i64 9, .int .i64 (9 + fi / 4), .int .i64 (9 + fi / 4 + fr / 4), .int .i64 (10 + fi / 4 + fr / 4)]) rfl rfl rfl rfl r140 (by exact Nat.le_of_ble_eq_true rfl) (ones_of rfl) rfl rfl ?_
  intro W165 r166 b164 z167
  have hlb164 := r140.lt
  replace r166 : RowL W165 _ 31 [.int .i64 fb, .int .i64 fi, .int .i64 fr, .int .i64 ft, .int .u64 ↑3, .int .u64 ↑4, .int .i64 9, .int .i64 (9 + fi / 4), .int .i64 (9 + fi / 4 + fr / 4), .int .i64 (10 + fi / 4 + fr / 4)] := r166
  clear r140
  replace r7 := Zd r7 b164; replace r40 := Zd r40 b164; replace r18 := Zd r18 b164; replace q := Zg q b164
  have r140 := r166
  clear r166
  refine Zq ?_; refine Zr ?_; refine Zv r140 ?_; refine Zm ?_; refine Zv r40 ?_; have l249 := r7.lt; have l250 := r40.lt; have l251 := r18.lt; have l252 := r140.lt
  (refine Zy (R.call rfl rfl rfl) (hso _ (hSF _ q)) ?_; rintro e W248 ⟨v9, rfl, o9, b245⟩; refine ⟨_, rfl, ?_⟩; obtain ⟨x9, c9, rfl, _⟩ := (o9.reads pEnc).form rfl; have o9F := fun X (b : Below W248.heap.size W248 X) => (o9.reads pEnc).up b; clear o9; have qS := Below.refl W248.heap.size W248)
  have zb245 := b245.size; replace r7 := r7.up b245; replace r40 := r40.up b245; replace r18 := r18.up b245; replace q := Zu q b245; replace r140 := r140.up b245; refine Zm ?_; refine Zx ?_; refine Zx ?_; refine Za ?_; refine Za ?_; refine Zq ?_; refine Zr ?_; refine Zv r140 ?_; refine Zm ?_
  refine Zy (R.call rfl rfl rfl) (hkt _) ?_
  rintro e W433 ⟨g435, rfl, r436, h434, b432⟩
  refine ⟨_, rfl, ?_⟩; have zb432 := b432.size; replace qS := Zu qS b432; replace r7 := r7.up b432; replace r40 := r40.up b432; replace r18 := r18.up b432; replace q := Zu q b432; replace r140 := r140.up b432; refine Zm ?_; refine Zx ?_; refine Zx ?_; refine Za ?_; refine Za ?_; refine Zq ?_; refine Zc ?_; refine Zr ?_; refine Zm ?_
  refine Zy (R.call rfl rfl rfl) (num_any _ _) ?_
  rintro e W' ⟨rfl, rfl⟩
  refine ⟨_, rfl, ?_⟩; refine ZneF ?_; refine Zq ?_; refine ZN ?_; refine ZK ?_; refine ZT ?_; refine Zr ?_; refine Zm ?_
  refine LL.val (R.mulcN rfl rfl rfl rfl (by omega)) rfl rfl rfl ?_
  refine LL.val (R.addI rfl rfl rfl (by omega)) rfl rfl rfl ?_
  refine Zm ?_
  refine Zy (R.call rfl rfl rfl) (num_any _ _) ?_
  rintro e W' ⟨rfl, rfl⟩
  refine ⟨_, rfl, ?_⟩; refine Za ?_; refine Za ?_; refine Zq ?_; refine Zr ?_; have l822 := r436.lt; have l823 := r7.lt; have l824 := r40.lt; have l825 := r18.lt; have l826 := r140.lt
  refine LL.lit (e := 25) [Value.int IntKind.u64 0] 1 rfl rfl (fun _ => by kernel_rfl) rfl rfl ?_
  intro W828 g829 eg829 r830 z831 b827
  replace r436 := r436.up b827; replace qS := Zu qS b827; replace r7 := r7.up b827; replace r40 := r40.up b827; replace r18 := r18.up b827; replace q := Zu q b827; replace r140 := r140.up b827
  refine LL.val (R.slice rfl rfl rfl rfl rfl (I.slA rfl)) rfl rfl rfl ?_
  (have oe := RowL.ownsT (ts := [0]) (base := g829) uEnc r830 (Nat.le_refl _) (by simp [maxLen]); refine LL.appendT2 rfl rfl uEnc ElU14 oe (reads_uE (RowL.asInts r7 .u64 us rfl hus)) (by simp [maxLen]; omega) (by simp; omega) (by omega) rfl rfl ?_; intro v2 W5 o2 gr2 hv2; replace q := q.grown gr2 q.size (fun g hg => by have := own_ge oe g hg; omega); replace qS := qS.grown gr2 qS.size (fun g hg => by have := own_ge oe g hg; omega); replace r140 := r140.grO gr2 (own_ne oe (by omega)); replace r40 := r40.grO gr2 (own_ne oe (by omega)); replace r436 := r436.grO gr2 (own_ne oe (by omega)); obtain ⟨g2, cap2, rfl, hg2, hg3, hcap⟩ := ownsT_form o2 (N := 64) (by simp [hus]) (by omega); clear oe gr2 hv2)
  refine Za ?_; refine Zq ?_; refine Zc ?_; refine Zr ?_; refine Za ?_; refine Zq ?_; refine CC.block ?_
  have hv0 : (0 :: us).length = 64 := by simp [hus]
  have hv00 : (0 :: us)[0]? = some 0 := rfl
  obtain ⟨Lf, eLf⟩ : ∃ Lf : Nat → List Nat, ∀ i, Lf i = if i < N then mixJ ws (0 :: us) i else ws ++ (0 :: us).drop N := ⟨_, fun _ => rfl⟩
  have o2b : OwnsT uE 1 W5 g829 25 (.slice (some ⟨g2, 0, none⟩) 64 cap2) (Lf 0) := by
    rw [eLf, if_pos (by omega), mixJ_0]
    exact o2
  rw [hpsl] at o9F ⊢
  refine CC.loop (α := Nat) (fun i => [(6, .pointer (some ⟨g39, 0, none⟩)), (9, .pointer (some ⟨g139, 0, none⟩)), (10, .slice x9 N c9), (12, .slice (some ⟨g435, 0, none⟩) 1 1), (14, .int .i64 ((64 + 64 * c8 : Nat) : Int)), (15, .int .i64 0), (16, .slice (some ⟨g2, 0, none⟩) 64 cap2), (17, .int .i64 (i : Int))]) (fun i W => i ≤ N ∧ Below w.heap.size w W ∧ Below W248.heap.size W248 W ∧ g2 < W.heap.size ∧ OwnsT uE 1 W g829 25 (.slice (some ⟨g2, 0, none⟩) 64 cap2) (Lf i) ∧ RowL W g39 28 (redL k n a f t fk tk r d) ∧ RowL W g139 31 (jlyL fb fi fr ft 3 4 9 (9 + fi / 4) (9 + fi / 4 + fr / 4) (10 + fi / 4 + fr / 4)) ∧ RowL W g435 59 [.int .i64 (64 + 64 * (c8 : Int)), .int .u64 0]) (fun i => N - i) 0 ⟨rfl, rfl, rfl, rfl, rfl, rfl, rfl, rfl, trivial⟩ ⟨Nat.zero_le _, q, qS, hg3, o2b, r40, r140, r436⟩ ?_
  clear q qS o2 o2b r40 r140 r436 hg3
  rintro i W ⟨hi, q, qS, yg, o2, r40, r140, r436⟩
  show CC none Tryz.prog _ 165 [] (sl [(6, .pointer (some ⟨g39, 0, none⟩)), (9, .pointer (some ⟨g139, 0, none⟩)), (10, .slice x9 N c9), (12, .slice (some ⟨g435, 0, none⟩) 1 1), (14, .int .i64 ((64 + 64 * c8 : Nat) : Int)), (15, .int .i64 0), (16, .slice (some ⟨g2, 0, none⟩) 64 cap2), (17, .int .i64 (i : Int))]) _ W
  have yq := q.size
  by_cases hlt : i < N
  case pos =>
    rw [eLf, if_pos hlt] at o2
    have hml := mixJ_len (ws := ws) (i := i) hv0 (by omega) (by omega)
    have hm0 := mixJ_zero (ws := ws) (i := i) hv0 hv00
    have rdw := (own_wds o2 yg).pre (N := 64) (cap := cap2) (by omega) hcap
    rw [List.take_of_length_le (by omega)] at rdw
    by_cases hl1 : i < N - 1
    · obtain ⟨x, hx⟩ : ∃ x, ws[i + 1]? = some x := ⟨_, List.getElem?_eq_getElem (by omega)⟩
      have hget := jputs_at (c8 := c8) hN hl1 hx
      obtain ⟨bp, op, rfl, lbp, cps⟩ := (o9F W qS).get pEnc hget
      have cps : Cells W ⟨bp, op + i * 2, none⟩ [.int .i64 ((64 + 64 * c8 + (i + 1) : Nat) : Int), .int .u64 (x : Int)] := cps
      have c1 := cps.at (j := 0) rfl
      have c2 := cps.at (j := 1) rfl
      obtain ⟨y, hmy⟩ : ∃ y, (mixJ ws (0 :: us) i)[i + 1]? = some y := ⟨_, List.getElem?_eq_getElem (by omega)⟩
      have hset := mixJ_set (ws := ws) hv0 (by omega) (by omega) hx
      have hnx : Lf (i + 1) = mixJ ws (0 :: us) (i + 1) := by rw [eLf, if_pos (by omega)]
      clear cps o9F eLf hyes hwl
      refine Zc ?_; refine Zr ?_; refine Zm ?_; refine Zm ?_; refine Zn ?_; refine ZltT ?_; refine Zq ?_; refine ZY ?_; refine ZK ?_; refine ZT ?_; refine Zc ?_; refine CC.block ?_; refine Zr ?_; refine Zv r140 ?_; refine Zm ?_; have la107 := r40.lt; have la108 := r140.lt; have la109 := r436.lt
      (refine Zy (R.call rfl rfl rfl) (jOf_0 fb fi fr ft 3 4 9 (9 + fi / 4) (9 + fi / 4 + fr / 4) (10 + fi / 4 + fr / 4) _ cap2 _ _ (hSF _ q) hl rdw hml hm0) ?_; rintro e Wa106 ⟨rfl, ba103⟩; refine ⟨_, rfl, ?_⟩; clear rdw)
      have zba103 := ba103.size; replace q := Zu q ba103; replace qS := Zu qS ba103; replace o2 := o2.up ba103; replace r40 := r40.up ba103; replace r140 := r140.up ba103; replace r436 := r436.up ba103; replace cps := cps.up ba103; replace c1 := cell_up c1 ba103; replace c2 := cell_up c2 ba103; refine Zm ?_; refine Zx ?_; refine Zx ?_; refine Zx ?_; have la198 := r40.lt; have la199 := r140.lt; have la200 := r436.lt
      refine LL.alloc ((redL 0 0 noA 0 0 0 0 0 false)) rfl rfl rfl rfl rfl ?_
      intro Wa202 ga203 ega203 ra204 za205 ba201
      replace q := Zu q ba201; replace qS := Zu qS ba201; replace o2 := o2.up ba201; replace r40 := r40.up ba201; replace r140 := r140.up ba201; replace r436 := r436.up ba201; replace cps := cps.up ba201; replace c1 := cell_up c1 ba201; replace c2 := cell_up c2 ba201
      refine LL.storeN (vs := (redL 0 0 noA 0 0 0 0 0 false)) rfl rfl rfl rfl ra204 (by exact Nat.le_of_ble_eq_true rfl) (ones_of rfl) rfl rfl ?_
      intro Wa225 ra226 ba224 za227
      have hlba224 := ra204.lt
      replace ra226 : RowL Wa225 _ 28 (redL 0 0 noA 0 0 0 0 0 false) := ra226
      clear ra204
      replace q := Zg q ba224; replace qS := Zg qS ba224
      replace o2 := o2.grown ba224 (fun e => by simp [Value.ownBlock] at e; omega)
      replace r40 := Zd r40 ba224; replace r140 := Zd r140 ba224; replace r436 := Zd r436 ba224
      replace cps := cps.gr ba224 (by omega)
      replace c1 := Ze c1 ba224; replace c2 := Ze c2 ba224
      have ra204 := ra226
      clear ra226
      refine Za ?_; refine Za ?_; refine Zq ?_; refine Zc ?_; refine Zr ?_; refine Zm ?_; refine Zm ?_; refine Zm ?_
      refine Zy (R.call rfl rfl rfl) (num_any _ _) ?_
      rintro e W' ⟨rfl, rfl⟩
      refine ⟨_, rfl, ?_⟩; refine ZneF ?_; refine Zp ?_; refine Zm ?_; refine Zm ?_; refine Zm ?_
      refine LL.val (R.index rfl rfl rfl (I.ixS rfl (by omega))) rfl rfl rfl ?_
      refine Zf ?_; refine Zk ?_; refine Zm ?_; refine ZltF ?_; refine Zp ?_; refine Zm ?_; refine Zm ?_; refine Zm ?_
      refine LL.val (R.index rfl rfl rfl (I.ixS rfl (by omega))) rfl rfl rfl ?_
      refine Zf ?_; refine Zk ?_; refine Zm ?_
      refine LL.val (R.addNc rfl rfl rfl rfl (by omega)) rfl rfl rfl ?_
      refine ZgeF ?_; refine Zp ?_; refine Zq ?_; refine ZN ?_; refine ZK ?_; refine ZT ?_
      refine CC.tailB 14 (by kernel_rfl) (by kernel_rfl) (fun Wa715 ba714 za716 => ?_)
      replace q := Zu q ba714; replace qS := Zu qS ba714; replace o2 := o2.up ba714; replace r40 := r40.up ba714; replace r140 := r140.up ba714; replace r436 := r436.up ba714; replace cps := cps.up ba714; replace c1 := cell_up c1 ba714; replace c2 := cell_up c2 ba714; replace ra204 := ra204.up ba714
      refine SS.val (R.move rfl rfl) rfl rfl ?_
      refine SS.val (R.move rfl rfl) rfl rfl ?_
      refine SS.val (R.move rfl rfl) rfl rfl ?_
      refine SS.val (R.index rfl rfl rfl (I.ixS rfl (by omega))) rfl rfl ?_
      refine SS.val (R.field rfl rfl (I.fld rfl)) rfl rfl ?_
      refine SS.val (R.load rfl rfl (I.ld1 rfl (by assumption))) rfl rfl ?_
      refine SS.val (R.move rfl rfl) rfl rfl ?_
      refine SS.val (R.subN rfl rfl rfl (by omega) (by omega)) rfl rfl ?_
      refine SS.val (R.move rfl rfl) rfl rfl ?_
      refine SS.val (R.move rfl rfl) rfl rfl ?_
      refine SS.val (R.index rfl rfl rfl (I.ixS rfl (by omega))) rfl rfl ?_
      refine SS.val (R.field rfl rfl (I.fld rfl)) rfl rfl ?_
      refine SS.val (R.load rfl rfl (I.ld1 rfl (by assumption))) rfl rfl ?_
      refine SS.val (R.index rfl rfl rfl (I.ixS1 rfl (by omega))) rfl rfl ?_
      refine SS.nil ?_
      (refine LL.storeF (i + 1) 0 y x rfl rfl rfl rfl (by omega) uEnc o2 hmy (by omega) rfl rfl rfl rfl rfl ?_; intro Wa983 o7 gra981 zz9; rw [hset] at o7; clear o2; have o2 := o7; clear o7)
      have zgra981 := gra981.size; replace q := Zg q gra981; replace qS := Zg qS gra981; replace r40 := Zd r40 gra981; replace r140 := Zd r140 gra981; replace r436 := Zd r436 gra981; replace ra204 := Zd ra204 gra981; refine ZL ?_; refine EE.inN ?_; refine ZT ?_; refine CC.region ?_; refine Zm ?_
      refine LL.val (R.addNc rfl rfl rfl rfl (by omega)) rfl rfl rfl ?_
      refine Za ?_; refine ZL ?_
      exact EE.round (i + 1) ⟨rfl, rfl, rfl, rfl, rfl, rfl, rfl, rfl, trivial⟩ ⟨by omega, q, qS, by omega, by rw [hnx]; exact o2, r40, r140, r436⟩ (by omega)
    · obtain ⟨x, hx⟩ : ∃ x, ws[0]? = some x := ⟨_, List.getElem?_eq_getElem (by omega)⟩
      obtain rfl : i = N - 1 := by omega
      have hget := jputs_last (c8 := c8) hN hx
      obtain ⟨bp, op, rfl, lbp, cps⟩ := (o9F W qS).get pEnc hget
      have cps : Cells W ⟨bp, op + (N - 1) * 2, none⟩ [.int .i64 ((64 + 64 * c8 : Nat) : Int), .int .u64 (x : Int)] := cps
      have c1 := cps.at (j := 0) rfl
      have c2 := cps.at (j := 1) rfl
      have hset := mixJ_end (ws := ws) hv0 hN (by omega) (by omega) hx
      have hnx : Lf (N - 1 + 1) = ws ++ (0 :: us).drop N := by rw [eLf, if_neg (by omega)]
      clear cps o9F eLf hyes hwl
      refine Zc ?_; refine Zr ?_; refine Zm ?_; refine Zm ?_; refine Zn ?_; refine ZltT ?_; refine Zq ?_; refine ZY ?_; refine ZK ?_; refine ZT ?_; refine Zc ?_; refine CC.block ?_; refine Zr ?_; refine Zv r140 ?_; refine Zm ?_; have lb107 := r40.lt; have lb108 := r140.lt; have lb109 := r436.lt
      (refine Zy (R.call rfl rfl rfl) (jOf_0 fb fi fr ft 3 4 9 (9 + fi / 4) (9 + fi / 4 + fr / 4) (10 + fi / 4 + fr / 4) _ cap2 _ _ (hSF _ q) hl rdw hml hm0) ?_; rintro e Wb106 ⟨rfl, bb103⟩; refine ⟨_, rfl, ?_⟩; clear rdw)
      have zbb103 := bb103.size; replace q := Zu q bb103; replace qS := Zu qS bb103; replace r40 := r40.up bb103; replace r140 := r140.up bb103; replace r436 := r436.up bb103; replace o2 := o2.up bb103; replace cps := cps.up bb103; replace c1 := cell_up c1 bb103; replace c2 := cell_up c2 bb103; refine Zm ?_; refine Zx ?_; refine Zx ?_; refine Zx ?_; have lb198 := r40.lt; have lb199 := r140.lt; have lb200 := r436.lt
      refine LL.alloc ((redL 0 0 noA 0 0 0 0 0 false)) rfl rfl rfl rfl rfl ?_
      intro Wb202 gb203 egb203 rb204 zb205 bb201
      replace q := Zu q bb201; replace qS := Zu qS bb201; replace r40 := r40.up bb201; replace r140 := r140.up bb201; replace r436 := r436.up bb201; replace o2 := o2.up bb201; replace cps := cps.up bb201; replace c1 := cell_up c1 bb201; replace c2 := cell_up c2 bb201
      refine LL.storeN (vs := (redL 0 0 noA 0 0 0 0 0 false)) rfl rfl rfl rfl rb204 (by exact Nat.le_of_ble_eq_true rfl) (ones_of rfl) rfl rfl ?_
      intro Wb225 rb226 bb224 zb227
      have hlbb224 := rb204.lt
      replace rb226 : RowL Wb225 _ 28 (redL 0 0 noA 0 0 0 0 0 false) := rb226
      clear rb204
      replace q := Zg q bb224; replace qS := Zg qS bb224; replace r40 := Zd r40 bb224; replace r140 := Zd r140 bb224; replace r436 := Zd r436 bb224
      replace o2 := o2.grown bb224 (fun e => by simp [Value.ownBlock] at e; omega)
      replace cps := cps.gr bb224 (by omega)
      replace c1 := Ze c1 bb224; replace c2 := Ze c2 bb224
      have rb204 := rb226
      clear rb226
      refine Za ?_; refine Za ?_; refine Zq ?_; refine Zc ?_; refine Zr ?_; refine Zm ?_; refine Zm ?_; refine Zm ?_
      refine Zy (R.call rfl rfl rfl) (num_any _ _) ?_
      rintro e W' ⟨rfl, rfl⟩
      refine ⟨_, rfl, ?_⟩; refine ZneF ?_; refine Zp ?_; refine Zm ?_; refine Zm ?_; refine Zm ?_
      refine LL.val (R.index rfl rfl rfl (I.ixS rfl (by omega))) rfl rfl rfl ?_
      refine Zf ?_; refine Zk ?_; refine Zm ?_; refine ZltF ?_; refine Zp ?_; refine Zm ?_; refine Zm ?_; refine Zm ?_
      refine LL.val (R.index rfl rfl rfl (I.ixS rfl (by omega))) rfl rfl rfl ?_
      refine Zf ?_; refine Zk ?_; refine Zm ?_
      refine LL.val (R.addNc rfl rfl rfl rfl (by omega)) rfl rfl rfl ?_
      refine ZgeF ?_; refine Zp ?_; refine Zq ?_; refine ZN ?_; refine ZK ?_; refine ZT ?_
      refine CC.tailB 14 (by kernel_rfl) (by kernel_rfl) (fun Wb715 bb714 zb716 => ?_)
      replace q := Zu q bb714; replace qS := Zu qS bb714; replace r40 := r40.up bb714; replace r140 := r140.up bb714; replace r436 := r436.up bb714; replace o2 := o2.up bb714; replace cps := cps.up bb714; replace c1 := cell_up c1 bb714; replace c2 := cell_up c2 bb714; replace rb204 := rb204.up bb714
      refine SS.val (R.move rfl rfl) rfl rfl ?_
      refine SS.val (R.move rfl rfl) rfl rfl ?_
      refine SS.val (R.move rfl rfl) rfl rfl ?_
      refine SS.val (R.index rfl rfl rfl (I.ixS rfl (by omega))) rfl rfl ?_
      refine SS.val (R.field rfl rfl (I.fld rfl)) rfl rfl ?_
      refine SS.val (R.load rfl rfl (I.ld1 rfl (by assumption))) rfl rfl ?_
      refine SS.val (R.move rfl rfl) rfl rfl ?_
      refine SS.val (R.subN rfl rfl rfl (by omega) (by omega)) rfl rfl ?_
      refine SS.val (R.move rfl rfl) rfl rfl ?_
      refine SS.val (R.move rfl rfl) rfl rfl ?_
      refine SS.val (R.index rfl rfl rfl (I.ixS rfl (by omega))) rfl rfl ?_
      refine SS.val (R.field rfl rfl (I.fld rfl)) rfl rfl ?_
      refine SS.val (R.load rfl rfl (I.ld1 rfl (by assumption))) rfl rfl ?_
      refine SS.val (R.index rfl rfl rfl (I.ixS1 rfl (by omega))) rfl rfl ?_
      refine SS.nil ?_
      (refine LL.storeF 0 0 0 x rfl rfl rfl rfl (by omega) uEnc o2 hm0 (by omega) rfl rfl rfl rfl rfl ?_; intro Wb983 o7 grb981 zz9; rw [hset] at o7; clear o2; have o2 := o7; clear o7)
      have zgrb981 := grb981.size; replace q := Zg q grb981; replace qS := Zg qS grb981; replace r40 := Zd r40 grb981; replace r140 := Zd r140 grb981; replace r436 := Zd r436 grb981; replace rb204 := Zd rb204 grb981; refine ZL ?_; refine EE.inN ?_; refine ZT ?_; refine CC.region ?_; refine Zm ?_
      refine LL.val (R.addNc rfl rfl rfl rfl (by omega)) rfl rfl rfl ?_
      refine Za ?_; refine ZL ?_
      exact EE.round (N - 1 + 1) ⟨rfl, rfl, rfl, rfl, rfl, rfl, rfl, rfl, trivial⟩ ⟨by omega, q, qS, by omega, by rw [hnx]; exact o2, r40, r140, r436⟩ (by omega)
  case neg =>
    obtain rfl : i = N := by omega
    rw [eLf, if_neg (by omega)] at o2
    have hfl : (ws ++ (0 :: us).drop i).length = 64 := by rw [List.length_append, List.length_drop, hN, hv0]; omega
    have hfb : ∀ z ∈ ws ++ (0 :: us).drop i, z < 18446744073709551616 := by
      intro z hz
      rcases List.mem_append.1 hz with hz | hz
      · exact hwl z hz
      · have hz2 := List.mem_of_mem_drop hz
        simp only [List.mem_cons] at hz2
        rcases hz2 with rfl | hz2
        · decide
        · exact husb z hz2
    have hh := hyes ((0 :: us).drop i)
    have rdw := (own_wds o2 yg).pre (N := 64) (cap := cap2) (by omega) hcap
    rw [List.take_of_length_le (by omega)] at rdw
    obtain ⟨zs, ezs⟩ : ∃ zs, ws ++ (0 :: us).drop i = zs := ⟨_, rfl⟩
    rw [ezs] at o2 hfl hfb hh rdw
    obtain ⟨x0, h0⟩ : ∃ x, zs[0]? = some x := ⟨_, List.getElem?_eq_getElem (by omega)⟩
    have hsl : (zs.set 0 0).length = 64 := by rw [List.length_set]; exact hfl
    have hz0 : (zs.set 0 0)[0]? = some 0 := by rw [List.getElem?_set_self (by omega)]
    clear o9F eLf hyes hwl
    refine Zc ?_; refine Zr ?_; refine Zm ?_; refine Zm ?_; refine Zn ?_; refine ZltF ?_; refine Zq ?_; refine ZN ?_; refine CC.exit ?_; refine EE.thenX ?_; refine EE.thenX ?_; refine EE.inX ?_; refine ZT ?_; refine Zr ?_; refine Zv r140 ?_; refine Zm ?_; have lc167 := r40.lt; have lc168 := r140.lt; have lc169 := r436.lt
    (refine Zy (R.call rfl rfl rfl) (jOf_yes fb fi fr ft 3 4 9 (9 + fi / 4) (9 + fi / 4 + fr / 4) (10 + fi / 4 + fr / 4) _ cap2 _ k n a f t fk tk r d _ (hSF _ q) hl rdw hfl hfb hb hh) ?_; rintro e Wc166 ⟨rfl, bc163⟩; refine ⟨_, rfl, ?_⟩; clear rdw)
    have zbc163 := bc163.size; replace q := Zu q bc163; replace qS := Zu qS bc163; replace r40 := r40.up bc163; replace r140 := r140.up bc163; replace r436 := r436.up bc163; replace o2 := o2.up bc163; refine Zm ?_; refine Zx ?_; refine Zx ?_; refine Zx ?_; have lc308 := r40.lt; have lc309 := r140.lt; have lc310 := r436.lt
    refine LL.alloc ((redL 0 0 noA 0 0 0 0 0 false)) rfl rfl rfl rfl rfl ?_
    intro Wc312 gc313 egc313 rc314 zc315 bc311
    replace q := Zu q bc311; replace qS := Zu qS bc311; replace r40 := r40.up bc311; replace r140 := r140.up bc311; replace r436 := r436.up bc311; replace o2 := o2.up bc311
    refine LL.storeN (vs := (redL k n a f t fk tk r d)) rfl rfl rfl rfl rc314 (by exact Nat.le_of_ble_eq_true rfl) (ones_of rfl) rfl rfl ?_
    intro Wc346 rc347 bc345 zc348
    have hlbc345 := rc314.lt
    replace rc347 : RowL Wc346 _ 28 (redL k n a f t fk tk r d) := rc347
    clear rc314
    replace q := Zg q bc345; replace qS := Zg qS bc345; replace r40 := Zd r40 bc345; replace r140 := Zd r140 bc345; replace r436 := Zd r436 bc345
    replace o2 := o2.grown bc345 (fun e => by simp [Value.ownBlock] at e; omega)
    have rc314 := rc347
    clear rc347
    refine Za ?_; refine Za ?_; refine Zq ?_; refine Zc ?_; refine Zr ?_; refine Zm ?_; refine Zt ?_; refine Zm ?_; refine Zm ?_
    refine Zy (R.call rfl rfl rfl) (num_any _ _) ?_
    rintro e W' ⟨rfl, rfl⟩
    refine ⟨_, rfl, ?_⟩; refine ZneF ?_; refine Zp ?_; refine Zm ?_; refine Zv rc314 ?_; refine Zv r40 ?_
    (refine LL.val (R.redoT hsr rfl rfl rfl) rfl rfl rfl ?_)
    refine Zp ?_; refine Zm ?_; refine Zm ?_; refine ZneF ?_; refine Zp ?_; refine Zm ?_; refine Zm ?_; refine Zn ?_; refine ZneF ?_; refine Zp ?_; refine Zm ?_; refine Zm ?_
    refine LL.val (R.index rfl rfl rfl (I.ixSc rfl rfl (by omega))) rfl rfl rfl ?_
    refine Zf ?_; refine Zl r436 ?_; refine Zm ?_; refine ZneF ?_; refine Zp ?_; refine Zq ?_; refine ZN ?_; refine ZK ?_; refine ZT ?_; refine Zr ?_; refine Zm ?_; refine Zm ?_
    refine LL.val (R.index rfl rfl rfl (I.ixSc rfl rfl (by omega))) rfl rfl rfl ?_
    refine Zf ?_; refine Zl r436 ?_; refine Zi ?_
    (refine LL.storeF 0 0 x0 0 rfl rfl rfl rfl rfl uEnc o2 h0 (by omega) rfl rfl rfl rfl rfl ?_; intro Wc1418 o7 grc1416 zz9; clear o2; have o2 := o7; clear o7)
    have zgrc1416 := grc1416.size; replace q := Zg q grc1416; replace qS := Zg qS grc1416; replace r40 := Zd r40 grc1416; replace r140 := Zd r140 grc1416; replace r436 := Zd r436 grc1416; replace rc314 := Zd rc314 grc1416; refine Zq ?_; refine Zr ?_; refine Zv r140 ?_; refine Zm ?_; have lc1502 := r40.lt; have lc1503 := r140.lt; have lc1504 := r436.lt; have lc1505 := rc314.lt
    (have rdz := (own_wds o2 (by omega)).pre (N := 64) (cap := cap2) (by omega) hcap; rw [List.take_of_length_le (by omega)] at rdz; refine Zy (R.call rfl rfl rfl) (jOf_0 fb fi fr ft 3 4 9 (9 + fi / 4) (9 + fi / 4 + fr / 4) (10 + fi / 4 + fr / 4) _ cap2 _ _ (hSF _ q) hl rdz hsl hz0) ?_; rintro e Wc1501 ⟨rfl, bc1498⟩; refine ⟨_, rfl, ?_⟩; clear rdz)
    have zbc1498 := bc1498.size; replace o2 := o2.up bc1498; replace q := Zu q bc1498; replace qS := Zu qS bc1498; replace r40 := r40.up bc1498; replace r140 := r140.up bc1498; replace r436 := r436.up bc1498; replace rc314 := rc314.up bc1498; refine Zm ?_; refine Zx ?_; refine Zx ?_; refine Zx ?_; have lc1654 := r40.lt; have lc1655 := r140.lt; have lc1656 := r436.lt; have lc1657 := rc314.lt
    refine LL.alloc ((redL 0 0 noA 0 0 0 0 0 false)) rfl rfl rfl rfl rfl ?_
    intro Wc1659 gc1660 egc1660 rc1661 zc1662 bc1658
    replace o2 := o2.up bc1658; replace q := Zu q bc1658; replace qS := Zu qS bc1658; replace r40 := r40.up bc1658; replace r140 := r140.up bc1658; replace r436 := r436.up bc1658; replace rc314 := rc314.up bc1658
    refine LL.storeN (vs := (redL 0 0 noA 0 0 0 0 0 false)) rfl rfl rfl rfl rc1661 (by exact Nat.le_of_ble_eq_true rfl) (ones_of rfl) rfl rfl ?_
    intro Wc1695 rc1696 bc1694 zc1697
    have hlbc1694 := rc1661.lt
    replace rc1696 : RowL Wc1695 _ 28 (redL 0 0 noA 0 0 0 0 0 false) := rc1696
    clear rc1661
    replace o2 := o2.grown bc1694 (fun e => by simp [Value.ownBlock] at e; omega)
    replace q := Zg q bc1694; replace qS := Zg qS bc1694; replace r40 := Zd r40 bc1694; replace r140 := Zd r140 bc1694; replace r436 := Zd r436 bc1694; replace rc314 := Zd rc314 bc1694
    have rc1661 := rc1696
    clear rc1696
    refine Za ?_; refine Za ?_; refine Zq ?_; refine Zr ?_; refine Zm ?_; refine Zt ?_; refine Zm ?_; refine Zm ?_
    refine Zy (R.call rfl rfl rfl) (num_any _ _) ?_
    rintro e W' ⟨rfl, rfl⟩
    refine ⟨_, rfl, ?_⟩; refine ZeqT ?_; refine Zp ?_; refine Zm ?_
    refine Zy (R.call rfl rfl rfl) (works_any _ (hSF _ q)) ?_
    rintro e Wc2040 ⟨rfl, bc2039⟩
    refine ⟨_, rfl, ?_⟩; have zbc2039 := bc2039.size; replace o2 := o2.up bc2039; replace q := Zu q bc2039; replace qS := Zu qS bc2039; replace r40 := r40.up bc2039; replace r140 := r140.up bc2039; replace r436 := r436.up bc2039; replace rc314 := rc314.up bc2039; replace rc1661 := rc1661.up bc2039; refine Zp ?_; refine Za ?_; refine Zq ?_; refine ZR ?_; refine EE.ret _ rfl rfl ?_
    exact ⟨rfl, q⟩
theorem jholds_top (f : Nat → Int) (cl : Int) (g : Nat → Int) (b : Nat → Bool) (hw : ∀ j, j < 24 → wfB (ksR j) (g j)) (h : Nat → Int) (hh : ∀ j, j < 63 → (Lit.int .u64 (h j)).wf = true) (w : World) (hS : Start w) : Calls Tryz.prog 7 #[.agg ((List.range 4).map fun j => Value.int .i64 (f j)).toArray, .int .i64 cl, .agg ((List.range 24).map fun j => cellB (ksR j) (g j) (b j)).toArray, .agg ((List.range 63).map fun j => Value.int .u64 (h j)).toArray] w fun x w' => x = .returned (.bool true) ∧ Below w.heap.size w w' := by
  obtain ⟨k, n, a, f1, t, fk, tk, r, d, e, h1, h2, h3⟩ := redo_cells g b hw
  have hu : (List.range 63).map (fun j => Value.int .u64 (h j)) = ints .u64 ((List.range 63).map fun j => (h j).toNat) := by
    unfold ints
    rw [List.map_map]
    refine List.map_congr_left fun j hj => ?_
    have := wf_u64 (hh j (by simpa using hj))
    simp only [Function.comp_apply]
    rw [Int.toNat_of_nonneg this.1]
  have hub : ∀ z ∈ (List.range 63).map (fun j => (h j).toNat), z < 18446744073709551616 := by
    intro z hz
    obtain ⟨j, hj, rfl⟩ := List.mem_map.1 hz
    have := wf_u64 (hh j (by simpa using hj))
    omega
  rw [e, hu]
  by_cases hc : ly_okF (f 0) (f 1) (f 2) (f 3) ∧ (0 ≤ cl ∧ cl ≤ 7) ∧ okJ k n a f1 t fk tk r d (f 1) (f 2)
  · obtain ⟨c8, rfl⟩ : ∃ y : Nat, cl = (y : Int) := ⟨cl.toNat, by omega⟩
    exact jholds_B (f 0) (f 1) (f 2) (f 3) k n a f1 t fk tk r d c8 _ (by simp) hub w hS hc.1 (by omega) hc.2.2 h1 h2 h3
  · exact jholds_A (f 0) (f 1) (f 2) (f 3) k n a f1 t fk tk r d cl _ (by simp) w hS h1 hc
open Go.ChangeShapes Go.WideShapes Go.ChangeAt Go.WideMaps Go.WideElems Go.RowKit
def laidHere : List (String × DataW Unit) := [("hedgerow/extents.widths", Rows.laid_hedgerow_extents_widths)]
theorem gTurns : Tryz.prog.globalNamed "hedgerow/extents.widths" = some 0 := by kernel_rfl
theorem tTurns : (Tryz.prog.globals[0]?).map (·.type) = some 202 := by kernel_rfl
theorem door_met (os : Os) (args : Array Value) : laidMetH Tryz.prog laidHere ((World.doorLaid Tryz.prog 14 os).forCall (fun _ _ => 0) ⟨#[], args, []⟩).memory :=
  laidMetH_of_parts3 (fuel := 8) (laidMet_of_run' 8 (by kernel_rfl) (by kernel_rfl)) (by kernel_rfl) (by kernel_rfl)
theorem of_laid {W : World} (h : laidMetH Tryz.prog laidHere W) : Start W := by
  rw [MakeChecks.laidMetH_plain _ _ _ (by kernel_rfl)] at h
  have hT := Lib.tabIs_of_head (k := .i64) (zs := [16, 24, 16]) gTurns tTurns Tryz.underlying202 Tryz.underlying3 (by kernel_rfl) (by kernel_rfl) h
  have hc : ∀ i, i < 3 → W.cell? ⟨0, i, none⟩ = some (.int .i64 ([16, 24, 16].getD i 0)) := fun i hi => hT.cell gTurns i hi
  refine ⟨hc 0 (by decide), hc 1 (by decide), hc 2 (by decide), ?_⟩
  obtain ⟨o, ho, _⟩ := cells_of_cell (hc 0 (by decide))
  exact (Array.getElem?_eq_some_iff.1 ho).1
end Go.Proofs.YtaeaokimhbbnfaaGreatDoor
