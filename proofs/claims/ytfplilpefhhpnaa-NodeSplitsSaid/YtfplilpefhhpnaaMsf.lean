/- What the statements' walks use: Nd17w, Nd18, Nd26, Nd23, Open, OpenI, SoS, ChildW, SplitsW. -/
import Derived.Test.YtfplilpefhhpnaaRows
import Derived.ProofKit
import Derived.OpenShut
import Derived.ShutString
import Derived.ChangeOld
import Derived.ChangeSame
import Derived.Test.YtfplilpefhhpnaaMsa
import Derived.Test.YtfplilpefhhpnaaMsd
import Derived.Test.YtfplilpefhhpnaaMse
/- node: works (written by gennd17.py). -/
namespace Go.Proofs.Ytfplilpefhhpnaa
set_option linter.unusedVariables false
set_option linter.unusedSimpArgs false
open Go.RowKit Go.Shelf
set_option maxRecDepth 100000
set_option maxHeartbeats 8000000
abbrev clC : List Value := [.int .u64 7522529147838689024, .int .u64 0, .int .u64 5, .int .u64 9223372036854775808, .int .u64 0, .int .u64 0, .int .u64 0, .int .u64 0, .int .u64 5, .int .u64 1, .int .u64 9, .int .u64 2, .int .u64 0, .int .u64 0, .int .u64 0, .int .u64 0, .int .u64 0, .int .u64 0, .int .u64 0, .int .u64 0, .int .u64 0, .int .u64 0, .int .u64 0, .int .u64 0, .int .u64 0, .int .u64 0, .int .u64 0, .int .u64 0, .int .u64 0, .int .u64 0, .int .u64 0, .int .u64 0, .int .u64 0, .int .u64 0, .int .u64 0, .int .u64 0, .int .u64 0, .int .u64 0, .int .u64 0, .int .u64 0, .int .u64 0, .int .u64 0, .int .u64 0, .int .u64 0, .int .u64 0, .int .u64 0, .int .u64 0, .int .u64 0, .int .u64 0, .int .u64 0, .int .u64 0, .int .u64 0, .int .u64 0, .int .u64 0, .int .u64 0, .int .u64 0, .int .u64 0, .int .u64 0, .int .u64 0, .int .u64 0, .int .u64 0, .int .u64 0, .int .u64 0, .int .u64 0]
theorem clC_eq : ints .u64 wsC = clC := rfl
theorem r8_14 {w : World} {g : Nat} (r : RowL w g 25 clC) : ReadsT uE 1 w (.slice (some ⟨g, 0 + 8 * 1, none⟩) 6 56) [5, 1, 9, 2, 0, 0] := by
  have h := row_uE (ws := wsC) (n := 64) (by rw [clC_eq]; exact r) rfl
  have h2 := (uE_reads h).from 8 (by decide)
  rw [show (ints .u64 wsC).drop 8 = ints .u64 (wsC.drop 8) from rfl] at h2
  have h3 := (reads_uE h2).take uEnc 6 (by decide) 56 (by decide)
  exact h3
theorem nOfD (g : Nat) (W : World) (r : RowL W g 25 (ints .u64 wsD)) : Calls Try.prog 9 #[.slice (some ⟨g, 0, none⟩) 64 64] W fun e w' => (∃ vo, e = .returned (.tuple #[nodeV 0 0 9 9223372036854775808 0 vo, .int .i64 0]) ∧ OwnsT prE 2 w' W.heap.size 46 vo (readF (gw wsD 3) (wsD.drop 8))) ∧ Below W.heap.size W w' := nOf_yes 64 _ wsD W (row_uE r rfl) rfl ltD (hdC 9 [(9, 2)] (by decide))
theorem works11_any (w : World) : Calls Try.prog 7 #[] w fun e w' => e = .returned (.bool true) ∧ Below w.heap.size w w' := by
  have q := Below.refl w.heap.size w
  refine X.fn Try.func7 rfl (n := 105) rfl rfl ?_
  refine CC.seq ?_
  refine CC.region ?_
  refine LL.val (R.assign rfl rfl) rfl rfl rfl ?_
  refine LL.nilS ?_
  refine CC.seq ?_
  refine CC.region ?_
  (refine LL.call (R.call rfl rfl rfl) rfl rfl rfl (leaf_any _) ?_; rintro e W53 ⟨gp, rfl, rp, hgp, b50⟩; refine ⟨_, rfl, ?_⟩)
  have zb50 := b50.size
  replace q := q.trans (b50.mono q.size)
  have l69 := rp.lt
  (refine LL.call (R.call rfl rfl rfl) rfl rfl rfl (make_yes 0 0 0 5 9223372036854775808 0 0 psC _ _ (RowL.readsT prEnc (ts := psC) (by assumption) 2 (by decide)) (by decide) (by decide) (by rw [IntKind.wrap_u64]; rfl) (by rw [IntKind.wrap_u64]; rfl) (by decide) (by decide) (by decide) stC (by rw [rdC])) ?_; rintro e W68 ⟨⟨gw, rfl, rw0, hgw⟩, b65⟩; refine ⟨_, rfl, ?_⟩; replace rw0 : RowL W68 gw 25 clC := rw0)
  have zb65 := b65.size
  replace rp := rp.up b65
  replace b50 := b50.trans (b65.mono b50.size)
  replace q := q.trans (b65.mono q.size)
  refine LL.val (R.move rfl rfl) rfl rfl rfl ?_
  refine LL.val (R.extract rfl rfl rfl) rfl rfl rfl ?_
  refine LL.val (R.extract rfl rfl rfl) rfl rfl rfl ?_
  refine LL.val (R.assign rfl rfl) rfl rfl rfl ?_
  refine LL.val (R.assign rfl rfl) rfl rfl rfl ?_
  refine LL.nilS ?_
  refine CC.seq ?_
  refine CC.seq ?_
  refine CC.region ?_
  refine LL.val (R.move rfl rfl) rfl rfl rfl ?_
  refine LL.call (R.call rfl rfl rfl) rfl rfl rfl (num11_any _ _) ?_
  rintro e W' ⟨rfl, rfl⟩
  refine ⟨_, rfl, ?_⟩
  refine LL.val (R.neF rfl rfl rfl (by omega)) rfl rfl rfl ?_
  refine LL.val (R.move rfl rfl) rfl rfl rfl ?_
  refine LL.val (R.move rfl rfl) rfl rfl rfl ?_
  refine LL.val (R.len rfl rfl rfl rfl) rfl rfl rfl ?_
  refine LL.val (R.neF rfl rfl rfl (by omega)) rfl rfl rfl ?_
  refine LL.val (R.pick rfl rfl rfl) rfl rfl rfl ?_
  refine LL.val (R.move rfl rfl) rfl rfl rfl ?_
  refine LL.val (R.move rfl rfl) rfl rfl rfl ?_
  refine LL.val (R.index rfl rfl rfl (I.ixS1c rfl rfl (by omega))) rfl rfl rfl ?_
  refine LL.val (R.load rfl rfl (I.ld1 rfl (RowL.cell rw0 rfl))) rfl rfl rfl ?_
  refine LL.val (R.neF rfl rfl rfl (by omega)) rfl rfl rfl ?_
  refine LL.val (R.pick rfl rfl rfl) rfl rfl rfl ?_
  refine LL.val (R.move rfl rfl) rfl rfl rfl ?_
  refine LL.val (R.move rfl rfl) rfl rfl rfl ?_
  refine LL.val (R.index rfl rfl rfl (I.ixS1c rfl rfl (by omega))) rfl rfl rfl ?_
  refine LL.val (R.load rfl rfl (I.ld1 rfl (RowL.cell rw0 rfl))) rfl rfl rfl ?_
  refine LL.val (R.neF rfl rfl rfl (by omega)) rfl rfl rfl ?_
  refine LL.val (R.pick rfl rfl rfl) rfl rfl rfl ?_
  refine LL.val (R.move rfl rfl) rfl rfl rfl ?_
  refine LL.val (R.move rfl rfl) rfl rfl rfl ?_
  refine LL.val (R.index rfl rfl rfl (I.ixS1c rfl rfl (by omega))) rfl rfl rfl ?_
  refine LL.val (R.load rfl rfl (I.ld1 rfl (RowL.cell rw0 rfl))) rfl rfl rfl ?_
  refine LL.val (R.neF rfl rfl rfl (by omega)) rfl rfl rfl ?_
  refine LL.val (R.pick rfl rfl rfl) rfl rfl rfl ?_
  refine LL.val (R.move rfl rfl) rfl rfl rfl ?_
  refine LL.val (R.move rfl rfl) rfl rfl rfl ?_
  refine LL.val (R.slice rfl rfl rfl rfl rfl (I.slSc rfl rfl rfl (by omega) (by omega) (by omega))) rfl rfl rfl ?_
  have l2278 := rw0.lt
  have l2279 := rp.lt
  refine LL.lit (e := 25) [Value.int IntKind.u64 5, Value.int IntKind.u64 1, Value.int IntKind.u64 9, Value.int IntKind.u64 2, Value.int IntKind.u64 0, Value.int IntKind.u64 0] 6 rfl rfl (fun _ => by kernel_rfl) rfl rfl ?_
  intro W2281 g2282 eg2282 r2283 z2284 b2280
  replace b65 := b65.trans (b2280.mono b65.size)
  replace rw0 := rw0.up b2280
  replace rp := rp.up b2280
  replace b50 := b50.trans (b2280.mono b50.size)
  replace q := q.trans (b2280.mono q.size)
  have l2309 := r2283.lt
  have l2310 := rw0.lt
  have l2311 := rp.lt
  (refine LL.call (R.call rfl rfl rfl) rfl rfl rfl (usame_T _ _ [5, 1, 9, 2, 0, 0] _ (r8_14 (by assumption)) (RowL.readsT uEnc (ts := [5, 1, 9, 2, 0, 0]) (by assumption) 6 (by decide)) (by decide)) ?_; rintro e W2308 ⟨rfl, b2305⟩; refine ⟨_, rfl, ?_⟩)
  have zb2305 := b2305.size
  replace r2283 := r2283.up b2305
  replace b2280 := b2280.trans (b2305.mono b2280.size)
  replace b65 := b65.trans (b2305.mono b65.size)
  replace rw0 := rw0.up b2305
  replace rp := rp.up b2305
  replace b50 := b50.trans (b2305.mono b50.size)
  replace q := q.trans (b2305.mono q.size)
  refine LL.val (R.not rfl rfl) rfl rfl rfl ?_
  refine LL.val (R.pick rfl rfl rfl) rfl rfl rfl ?_
  refine LL.nilS ?_
  refine CC.no rfl ?_
  refine CC.skip ?_
  refine EE.thenN ?_
  refine CC.seq ?_
  refine CC.region ?_
  refine LL.val (R.move rfl rfl) rfl rfl rfl ?_
  refine LL.val (R.buildV rfl rfl (v := .agg #[Value.int IntKind.u64 7, Value.int IntKind.u64 3]) (fun _ => by kernel_rfl)) rfl rfl rfl ?_
  have l2629 := r2283.lt
  have l2630 := rw0.lt
  have l2631 := rp.lt
  (refine LL.call (R.call rfl rfl rfl) rfl rfl rfl (nPut_other _ wsC _ (row_uE (by rw [clC_eq]; assumption) rfl) rfl ltC stC 7 3 (.inl (by decide)) (.inl (by decide)) (by decide) osC putC_eq (by decide) (by decide)) ?_; rintro e W2628 ⟨va, rfl, oa, b2625⟩; refine ⟨_, rfl, ?_⟩; obtain ⟨av, cv, rfl, hcv⟩ := (oa.reads pEnc).form (n := 7) rfl; obtain ⟨bv, ov, rfl, _, _⟩ := (oa.reads pEnc).get pEnc (i := 0) rfl; obtain ⟨X1, hzX1, haF, q1⟩ := exposeT (oa.reads pEnc); have zX1 := q1.size; clear oa)
  have zb2625 := b2625.size
  replace b2305 := b2305.trans (b2625.mono b2305.size)
  replace r2283 := r2283.up b2625
  replace b2280 := b2280.trans (b2625.mono b2280.size)
  replace b65 := b65.trans (b2625.mono b65.size)
  replace rw0 := rw0.up b2625
  replace rp := rp.up b2625
  replace b50 := b50.trans (b2625.mono b50.size)
  replace q := q.trans (b2625.mono q.size)
  refine LL.val (R.move rfl rfl) rfl rfl rfl ?_
  refine LL.val (R.extract rfl rfl rfl) rfl rfl rfl ?_
  refine LL.val (R.extract rfl rfl rfl) rfl rfl rfl ?_
  refine LL.val (R.assign rfl rfl) rfl rfl rfl ?_
  refine LL.val (R.assign rfl rfl) rfl rfl rfl ?_
  refine LL.nilS ?_
  refine CC.seq ?_
  refine CC.region ?_
  refine LL.val (R.move rfl rfl) rfl rfl rfl ?_
  have l3099 := r2283.lt
  have l3100 := rw0.lt
  have l3101 := rp.lt
  (refine LL.call (R.call rfl rfl rfl) rfl rfl rfl (split_yes 64 _ wsC _ (row_uE (by rw [clC_eq]; assumption) rfl) rfl ltC stC 40 2 1 9 2 (by decide) psC rdC rfl (by decide) rfl rfl) ?_; rintro e W3098 ⟨gv, vm, rfl, rv, om, hgv, b3095⟩; refine ⟨_, rfl, ?_⟩; obtain ⟨am, cm, rfl, hcm⟩ := (om.reads pEnc).form (n := 2) rfl; obtain ⟨X2, hzX2, hmF, q2⟩ := exposeT (om.reads pEnc); have zX2 := q2.size; clear om)
  have zb3095 := b3095.size
  replace b2625 := b2625.trans (b3095.mono b2625.size)
  replace q1 := q1.trans (b3095.mono q1.size)
  replace b2305 := b2305.trans (b3095.mono b2305.size)
  replace r2283 := r2283.up b3095
  replace b2280 := b2280.trans (b3095.mono b2280.size)
  replace b65 := b65.trans (b3095.mono b65.size)
  replace rw0 := rw0.up b3095
  replace rp := rp.up b3095
  replace b50 := b50.trans (b3095.mono b50.size)
  replace q := q.trans (b3095.mono q.size)
  refine LL.val (R.move rfl rfl) rfl rfl rfl ?_
  refine LL.val (R.extract rfl rfl rfl) rfl rfl rfl ?_
  refine LL.val (R.extract rfl rfl rfl) rfl rfl rfl ?_
  refine LL.val (R.extract rfl rfl rfl) rfl rfl rfl ?_
  refine LL.val (R.assign rfl rfl) rfl rfl rfl ?_
  refine LL.val (R.assign rfl rfl) rfl rfl rfl ?_
  refine LL.val (R.assign rfl rfl) rfl rfl rfl ?_
  refine LL.nilS ?_
  refine CC.seq ?_
  refine CC.region ?_
  refine LL.val (R.move rfl rfl) rfl rfl rfl ?_
  have l3780 := rv.lt
  have l3781 := r2283.lt
  have l3782 := rw0.lt
  have l3783 := rp.lt
  (refine LL.call (R.call rfl rfl rfl) rfl rfl rfl (nOfD _ _ rv) ?_; rintro e W3779 ⟨⟨vo, rfl, oo⟩, b3776⟩; refine ⟨_, rfl, ?_⟩; obtain ⟨ao, co, rfl, hco⟩ := (oo.reads prEnc).form rfl; clear oo)
  have zb3776 := b3776.size
  replace rv := rv.up b3776
  replace b3095 := b3095.trans (b3776.mono b3095.size)
  replace q2 := q2.trans (b3776.mono q2.size)
  replace b2625 := b2625.trans (b3776.mono b2625.size)
  replace q1 := q1.trans (b3776.mono q1.size)
  replace b2305 := b2305.trans (b3776.mono b2305.size)
  replace r2283 := r2283.up b3776
  replace b2280 := b2280.trans (b3776.mono b2280.size)
  replace b65 := b65.trans (b3776.mono b65.size)
  replace rw0 := rw0.up b3776
  replace rp := rp.up b3776
  replace b50 := b50.trans (b3776.mono b50.size)
  replace q := q.trans (b3776.mono q.size)
  refine LL.val (R.move rfl rfl) rfl rfl rfl ?_
  refine LL.val (R.extract rfl rfl rfl) rfl rfl rfl ?_
  refine LL.val (R.extract rfl rfl rfl) rfl rfl rfl ?_
  have l4095 := rv.lt
  have l4096 := r2283.lt
  have l4097 := rw0.lt
  have l4098 := rp.lt
  refine LL.alloc ([Value.int IntKind.i64 0, Value.int IntKind.i64 0, Value.int IntKind.u64 0, Value.int IntKind.u64 0, Value.int IntKind.i64 0, Value.slice none 0 0]) rfl rfl rfl rfl rfl ?_
  intro W4100 g4101 eg4101 r4102 z4103 b4099
  replace b3776 := b3776.trans (b4099.mono b3776.size)
  replace rv := rv.up b4099
  replace b3095 := b3095.trans (b4099.mono b3095.size)
  replace q2 := q2.trans (b4099.mono q2.size)
  replace b2625 := b2625.trans (b4099.mono b2625.size)
  replace q1 := q1.trans (b4099.mono q1.size)
  replace b2305 := b2305.trans (b4099.mono b2305.size)
  replace r2283 := r2283.up b4099
  replace b2280 := b2280.trans (b4099.mono b2280.size)
  replace b65 := b65.trans (b4099.mono b65.size)
  replace rw0 := rw0.up b4099
  replace rp := rp.up b4099
  replace b50 := b50.trans (b4099.mono b50.size)
  replace q := q.trans (b4099.mono q.size)
  refine LL.storeN (vs := [Value.int IntKind.i64 0, Value.int IntKind.i64 0, Value.int IntKind.u64 ↑9, Value.int IntKind.u64 ↑9223372036854775808, Value.int IntKind.i64 0, Value.slice ao (readF (Ytfplilpefhhpnaa.gw wsD 3) (List.drop 8 wsD)).length co]) rfl rfl rfl rfl r4102 (by exact Nat.le_of_ble_eq_true rfl) (ones_of rfl) rfl rfl ?_
  intro W4189 r4190 b4188 z4191
  have hlb4188 := r4102.lt
  replace r4190 : RowL W4189 _ 29 [Value.int IntKind.i64 0, Value.int IntKind.i64 0, Value.int IntKind.u64 ↑9, Value.int IntKind.u64 ↑9223372036854775808, Value.int IntKind.i64 0, Value.slice ao (readF (Ytfplilpefhhpnaa.gw wsD 3) (List.drop 8 wsD)).length co] := r4190
  clear r4102
  replace b4099 := b4099.grown b4188 b4099.size (by rintro k ⟨⟩; omega)
  replace b3776 := b3776.grown b4188 b3776.size (by rintro k ⟨⟩; omega)
  replace rv := rv.gr b4188 (by have := rv.lt; omega)
  replace b3095 := b3095.grown b4188 b3095.size (by rintro k ⟨⟩; omega)
  replace q2 := q2.grown b4188 q2.size (by rintro k ⟨⟩; omega)
  replace b2625 := b2625.grown b4188 b2625.size (by rintro k ⟨⟩; omega)
  replace q1 := q1.grown b4188 q1.size (by rintro k ⟨⟩; omega)
  replace b2305 := b2305.grown b4188 b2305.size (by rintro k ⟨⟩; omega)
  replace r2283 := r2283.gr b4188 (by have := r2283.lt; omega)
  replace b2280 := b2280.grown b4188 b2280.size (by rintro k ⟨⟩; omega)
  replace b65 := b65.grown b4188 b65.size (by rintro k ⟨⟩; omega)
  replace rw0 := rw0.gr b4188 (by have := rw0.lt; omega)
  replace rp := rp.gr b4188 (by have := rp.lt; omega)
  replace b50 := b50.grown b4188 b50.size (by rintro k ⟨⟩; omega)
  replace q := q.grown b4188 q.size (by rintro k ⟨⟩; omega)
  have r4102 := r4190
  clear r4190
  refine LL.val (R.assign rfl rfl) rfl rfl rfl ?_
  refine LL.nilS ?_
  refine CC.seq ?_
  refine CC.region ?_
  refine LL.val (R.move rfl rfl) rfl rfl rfl ?_
  refine LL.call (R.call rfl rfl rfl) rfl rfl rfl (num11_any _ _) ?_
  rintro e W' ⟨rfl, rfl⟩
  refine ⟨_, rfl, ?_⟩
  refine LL.val (R.move rfl rfl) rfl rfl rfl ?_
  refine LL.call (R.call rfl rfl rfl) rfl rfl rfl (num11_any _ _) ?_
  rintro e W' ⟨rfl, rfl⟩
  refine ⟨_, rfl, ?_⟩
  refine LL.val (R.addIz (z := 0) rfl rfl rfl (by decide) (by decide)) rfl rfl rfl ?_
  refine LL.val (R.move rfl rfl) rfl rfl rfl ?_
  refine LL.call (R.call rfl rfl rfl) rfl rfl rfl (num11_any _ _) ?_
  rintro e W' ⟨rfl, rfl⟩
  refine ⟨_, rfl, ?_⟩
  refine LL.val (R.addIz (z := 0) rfl rfl rfl (by decide) (by decide)) rfl rfl rfl ?_
  refine LL.val (R.eqT rfl rfl rfl (by omega)) rfl rfl rfl ?_
  refine LL.val (R.move rfl rfl) rfl rfl rfl ?_
  refine LL.val (R.move rfl rfl) rfl rfl rfl ?_
  refine LL.val (R.len rfl rfl rfl rfl) rfl rfl rfl ?_
  refine LL.val (R.eqT rfl rfl rfl (by omega)) rfl rfl rfl ?_
  refine LL.val (R.pick rfl rfl rfl) rfl rfl rfl ?_
  refine LL.val (R.move rfl rfl) rfl rfl rfl ?_
  refine LL.val (R.move rfl rfl) rfl rfl rfl ?_
  refine LL.val (R.index rfl rfl rfl (I.ixSc rfl rfl (by omega))) rfl rfl rfl ?_
  (refine LL.val (R.load rfl rfl (I.ldNc ((haF _ q1).elemN pEnc (i := 0) rfl).at' rfl rfl)) rfl rfl rfl ?_)
  refine LL.val (R.buildV rfl rfl (v := .agg #[Value.int IntKind.i64 4, Value.int IntKind.u64 1]) (fun _ => by kernel_rfl)) rfl rfl rfl ?_
  refine LL.val (R.eqST (p := (4 : Int) = 4 ∧ (↑1 : Int) = 1) (bs := [decide ((4 : Int) = 4), decide ((↑1 : Int) = 1)]) rfl rfl rfl rfl (by kernel_rfl) (by kernel_rfl) (by simp) (by first | assumption | omega | exact ⟨rfl, rfl⟩ | exact fun h => h ⟨rfl, rfl⟩)) rfl rfl rfl ?_
  refine LL.val (R.pick rfl rfl rfl) rfl rfl rfl ?_
  refine LL.val (R.move rfl rfl) rfl rfl rfl ?_
  refine LL.val (R.move rfl rfl) rfl rfl rfl ?_
  refine LL.val (R.index rfl rfl rfl (I.ixSc rfl rfl (by omega))) rfl rfl rfl ?_
  (refine LL.val (R.load rfl rfl (I.ldNc ((haF _ q1).elemN pEnc (i := 1) rfl).at' rfl rfl)) rfl rfl rfl ?_)
  refine LL.val (R.buildV rfl rfl (v := .agg #[Value.int IntKind.i64 15, Value.int IntKind.u64 0]) (fun _ => by kernel_rfl)) rfl rfl rfl ?_
  refine LL.val (R.eqST (p := (7 + 8 : Int) = 15 ∧ (↑0 : Int) = 0) (bs := [decide ((7 + 8 : Int) = 15), decide ((↑0 : Int) = 0)]) rfl rfl rfl rfl (by kernel_rfl) (by kernel_rfl) (by simp) (by first | assumption | omega | exact ⟨rfl, rfl⟩ | exact fun h => h ⟨rfl, rfl⟩)) rfl rfl rfl ?_
  refine LL.val (R.pick rfl rfl rfl) rfl rfl rfl ?_
  refine LL.val (R.move rfl rfl) rfl rfl rfl ?_
  refine LL.val (R.field rfl rfl (I.fld rfl)) rfl rfl rfl ?_
  refine LL.val (R.load rfl rfl (I.ld1 rfl (RowL.cell r4102 rfl))) rfl rfl rfl ?_
  refine LL.val (R.eqT rfl rfl rfl (by omega)) rfl rfl rfl ?_
  refine LL.val (R.pick rfl rfl rfl) rfl rfl rfl ?_
  refine LL.val (R.move rfl rfl) rfl rfl rfl ?_
  refine LL.val (R.move rfl rfl) rfl rfl rfl ?_
  refine LL.val (R.buildV rfl rfl (v := .agg #[Value.int IntKind.i64 1, Value.int IntKind.u64 40]) (fun _ => by kernel_rfl)) rfl rfl rfl ?_
  refine LL.val (R.buildV rfl rfl (v := .agg #[Value.int IntKind.i64 11, Value.int IntKind.u64 0]) (fun _ => by kernel_rfl)) rfl rfl rfl ?_
  have l7444 := rv.lt
  have l7445 := r2283.lt
  have l7446 := rw0.lt
  have l7447 := rp.lt
  have l7448 := r4102.lt
  refine LL.lit (e := 68) [Value.int IntKind.i64 1, Value.int IntKind.u64 40, Value.int IntKind.i64 11, Value.int IntKind.u64 0] 2 rfl rfl (fun _ => by kernel_rfl) rfl rfl ?_
  intro W7450 g7451 eg7451 r7452 z7453 b7449
  replace b4099 := b4099.trans (b7449.mono b4099.size)
  replace b3776 := b3776.trans (b7449.mono b3776.size)
  replace rv := rv.up b7449
  replace b3095 := b3095.trans (b7449.mono b3095.size)
  replace q2 := q2.trans (b7449.mono q2.size)
  replace b2625 := b2625.trans (b7449.mono b2625.size)
  replace q1 := q1.trans (b7449.mono q1.size)
  replace b2305 := b2305.trans (b7449.mono b2305.size)
  replace r2283 := r2283.up b7449
  replace b2280 := b2280.trans (b7449.mono b2280.size)
  replace b65 := b65.trans (b7449.mono b65.size)
  replace rw0 := rw0.up b7449
  replace rp := rp.up b7449
  replace b50 := b50.trans (b7449.mono b50.size)
  replace q := q.trans (b7449.mono q.size)
  replace r4102 := r4102.up b7449
  have l7536 := r7452.lt
  have l7537 := rv.lt
  have l7538 := r2283.lt
  have l7539 := rw0.lt
  have l7540 := rp.lt
  have l7541 := r4102.lt
  (refine LL.call (R.call rfl rfl rfl) rfl rfl rfl (psame_any _ _ [((1 : Int), 40), ((11 : Int), 0)] [((1 : Int), 40), ((11 : Int), 0)] _ (hmF _ q2) (RowL.readsT pEnc (ts := [((1 : Int), 40), ((11 : Int), 0)]) (by assumption) 2 (by decide)) (by decide) (by decide)) ?_; rintro e W7535 ⟨rfl, b7532⟩; refine ⟨_, rfl, ?_⟩; rw [decide_eq_true rfl])
  have zb7532 := b7532.size
  replace r7452 := r7452.up b7532
  replace b7449 := b7449.trans (b7532.mono b7449.size)
  replace b4099 := b4099.trans (b7532.mono b4099.size)
  replace b3776 := b3776.trans (b7532.mono b3776.size)
  replace rv := rv.up b7532
  replace b3095 := b3095.trans (b7532.mono b3095.size)
  replace q2 := q2.trans (b7532.mono q2.size)
  replace b2625 := b2625.trans (b7532.mono b2625.size)
  replace q1 := q1.trans (b7532.mono q1.size)
  replace b2305 := b2305.trans (b7532.mono b2305.size)
  replace r2283 := r2283.up b7532
  replace b2280 := b2280.trans (b7532.mono b2280.size)
  replace b65 := b65.trans (b7532.mono b65.size)
  replace rw0 := rw0.up b7532
  replace rp := rp.up b7532
  replace b50 := b50.trans (b7532.mono b50.size)
  replace q := q.trans (b7532.mono q.size)
  replace r4102 := r4102.up b7532
  refine LL.val (R.pick rfl rfl rfl) rfl rfl rfl ?_
  refine LL.val (R.assign rfl rfl) rfl rfl rfl ?_
  refine LL.nilS ?_
  refine CC.ret ?_
  refine EE.ret _ rfl rfl ?_
  exact ⟨rfl, q⟩
end Go.Proofs.Ytfplilpefhhpnaa
/- node: NodeHolds (written by gennd18.py). -/
namespace Go.Proofs.Ytfplilpefhhpnaa
set_option linter.unusedVariables false
set_option linter.unusedSimpArgs false
open Go.RowKit Go.Shelf
theorem LL.keep {P : Program} {ops : Array Oper} {Q : Exit → Act → World → Prop} {n : Nat} {D : List Deferred} {M : Slots} {w : World} {r : Option Nat} {l : List Oper} (L : List (Nat × Value)) (hL : Fits M L) (h : LL r P ops Q n D (sl L) l w) : LL r P ops Q n D M l w := LL.mk fun a F => h.h a (F.keep L hL)

set_option maxRecDepth 100000
set_option maxHeartbeats 8000000
theorem pairF_mem {left : Nat} {s : List Nat} : ∀ {j : Nat}, ∀ x ∈ pairF left s j, ∃ i, x = (i, prA s i)
  | 0, x, h => absurd h (by simp [pairF])
  | j + 1, x, h => by
    rw [pairF_succ] at h
    split at h
    · exact pairF_mem x h
    · rcases List.mem_append.1 h with h | h
      · exact pairF_mem x h
      · exact ⟨j, List.mem_singleton.1 h⟩
theorem getD_lt {s : List Nat} (hb : ∀ x ∈ s, x < 18446744073709551616) (i : Nat) : (s[i]?).getD 0 < 18446744073709551616 := by
  cases h : s[i]? with
  | none => decide
  | some x => exact hb x (List.mem_of_getElem? h)
theorem readF_lt {left : Nat} {s : List Nat} (hb : ∀ x ∈ s, x < 18446744073709551616) : ∀ p ∈ readF left s, p.1 < 18446744073709551616 ∧ p.2 < 18446744073709551616 := by
  intro p hp
  unfold readF at hp
  split at hp
  · cases hp
  · obtain ⟨x, hx, rfl⟩ := List.mem_map.1 hp
    obtain ⟨i, rfl⟩ := pairF_mem x hx
    exact ⟨getD_lt hb _, getD_lt hb _⟩
theorem applyS_lt : ∀ (os : List Pt), (∀ p ∈ os, p.2 < 18446744073709551616) → ∀ ws : List Nat, (∀ x ∈ ws, x < 18446744073709551616) → ∀ x ∈ applyS ws os, x < 18446744073709551616
  | [], _, ws, h, x, hx => h x hx
  | p :: os, ho, ws, h, x, hx => applyS_lt os (fun p hp => ho p (List.mem_cons_of_mem _ hp)) (ws.set p.1.toNat p.2) (fun y hy => by
    rcases List.mem_or_eq_of_mem_set hy with h1 | rfl
    · exact h y h1
    · exact ho p (List.mem_cons_self)) x hx
theorem splN_fine (blk N T : Nat) (hb : blk < 18446744073709551616) : ∀ p ∈ splN blk N T, 0 ≤ p.1 ∧ p.2 < 18446744073709551616 := by
  intro p hp
  unfold splN at hp
  rcases List.mem_cons.1 hp with rfl | hp
  · exact ⟨Int.natCast_nonneg 1, hb⟩
  · obtain ⟨u, _, rfl⟩ := List.mem_map.1 hp
    exact ⟨by show (0 : Int) ≤ 8 + ((2 * (N - 1 - u) : Nat) : Int) + 1; omega, Nat.le_of_ble_eq_true rfl⟩
--C ref09_Same | hsm6 @w (q6.trans (b'.mono q6.size)) (q2.trans (b'.mono q2.size)) | ⟨rfl, @b⟩
--C ref09_Same | hsm6 @w q6 q2 | ⟨rfl, @b⟩
end Go.Proofs.Ytfplilpefhhpnaa
/- node: behind a split both nodes are settled: the mathematics (written by gennd26.py). -/
namespace Go.Proofs.Ytfplilpefhhpnaa
set_option linter.unusedVariables false
set_option linter.unusedSimpArgs false
open Go.RowKit Go.Shelf
set_option maxRecDepth 100000
set_option maxHeartbeats 8000000
theorem okB_low {le m k p : Nat} {B : List Pr} (h : okB le B) (hx : B[m]? = some (k, p)) : ∀ x ∈ B.drop (m + 1), k < x.1 := by
  have e : B.drop m = (k, p) :: B.drop (m + 1) := by
    obtain ⟨hm, e⟩ := List.getElem?_eq_some_iff.1 hx
    rw [← e, List.drop_eq_getElem_cons hm]
  have h2 := (okB_drop h m).2
  rw [e] at h2
  exact fun x hx => ((List.pairwise_cons.1 h2).1 x hx).1
theorem up_chk {ws : List Nat} {ps : List Pr} {N k p m : Nat} (hS : nodeS ws) (hb : ∀ x ∈ ws, x < 18446744073709551616) (eps : readF (gw ws 3) (ws.drop 8) = ps) (hN : ps.length = N) (hx : ps[m]? = some (k, p)) (hp64 : ∀ x ∈ ps, x.1 < 18446744073709551616 ∧ x.2 < 18446744073709551616) : chkN (upW ws ps k p m) = 0 := by
  have U := upKs hS hb eps hN hx hp64
  have h64 := hS.1.1
  have h8 : (ws.drop 8).length = 56 := by rw [List.length_drop, h64]
  have hrow : ¬ noRow (gw ws 3) 56 := hd_row hS.1.2 rfl
  obtain ⟨n, hs⟩ := setP_iff.1 hS.2.1
  have e1 := stl_read hs (by rw [h8]; exact hrow)
  obtain rfl : n = N := by
    rw [← hN, ← eps, e1, preP_len]
  have hok : ∀ x ∈ ps, okP (gw ws 0 % 256) x.2 := fun x hx => (hS.2.2 x (by rw [eps]; exact hx)).1
  have hB : okB (gw ws 3) ps := by
    have := okB_pre hs
    rw [e1] at eps
    rw [eps] at this
    exact this
  have hn := hs.lt
  rw [h8] at hn
  have hc := hS.1.2.c
  unfold ru3 at hc
  have hlow := okB_low hB hx
  have hset : setP (gw (upW ws ps k p m) 3) ((upW ws ps k p m).drop 8) := by
    unfold upW
    by_cases h0 : gw ws 0 % 256 = 0
    · rw [if_pos h0, if_pos h0]
      have hle : gw ws 3 = 9223372036854775808 := by omega
      exact setP_iff.2 ⟨_, lay_stl (le := 9223372036854775808) rfl (by rw [List.length_drop]; omega) (by rw [← hle]; exact okB_drop hB m)⟩
    · rw [if_neg h0, if_neg h0]
      exact setP_iff.2 ⟨_, lay_stl (le := p) rfl (by rw [List.length_drop]; omega) (okB_next hB hx)⟩
  unfold chkN
  rw [if_pos U.nd, if_pos]
  refine ⟨hset, fun x hq => ?_⟩
  rw [U.g0, U.g2]
  by_cases h0 : gw ws 0 % 256 = 0
  · rw [U.l0 h0] at hq
    refine ⟨hok x (List.mem_of_mem_drop hq), ?_⟩
    obtain ⟨hm, e⟩ := List.getElem?_eq_some_iff.1 hx
    rw [List.drop_eq_getElem_cons hm, e] at hq
    rcases List.mem_cons.1 hq with rfl | hq
    · exact .inr ⟨h0, rfl⟩
    · exact .inl (hlow x hq)
  · rw [(U.l1 (by omega)).2] at hq
    exact ⟨hok x (List.mem_of_mem_drop hq), .inl (hlow x hq)⟩
theorem spl_chk {ws : List Nat} {ps : List Pr} {N blk T : Nat} (hS : nodeS ws) (eps : readF (gw ws 3) (ws.drop 8) = ps) (hN : ps.length = N) (hb : 1 ≤ blk ∧ blk ≤ 2047) (hT : T ≤ N) : chkN (applyS ws (splN blk N T)) = 0 := by
  have A := atK (k := T + 1) hS eps hN hb hT (Nat.le_refl _)
  rw [List.take_of_length_le (by rw [splN_len]; exact Nat.le_refl _)] at A
  have h64 := hS.1.1
  have h8 : (ws.drop 8).length = 56 := by rw [List.length_drop, h64]
  have hrow : ¬ noRow (gw ws 3) 56 := hd_row hS.1.2 rfl
  obtain ⟨n, hs⟩ := setP_iff.1 hS.2.1
  have e1 := stl_read hs (by rw [h8]; exact hrow)
  obtain rfl : n = N := by
    rw [← hN, ← eps, e1, preP_len]
  unfold chkN
  rw [if_pos A.p, if_pos]
  unfold ndSet
  rw [A.g0, A.g2, A.g3, A.r]
  refine ⟨?_, fun x hq => hS.2.2 x (by rw [eps]; exact List.mem_of_mem_take hq)⟩
  rw [spl_drop]
  exact setP_iff.2 ⟨_, (zrS_stl hs hT).1⟩
end Go.Proofs.Ytfplilpefhhpnaa
/- node: Child (written by gennd23.py). -/
namespace Go.Proofs.Ytfplilpefhhpnaa
set_option linter.unusedVariables false
set_option linter.unusedSimpArgs false
open Go.RowKit Go.Shelf
set_option maxRecDepth 100000
set_option maxHeartbeats 8000000
end Go.Proofs.Ytfplilpefhhpnaa
/- Opening the arguments of a law: slices of numbers, pairs of numbers. -/
namespace Go.Proofs.Ytfplilpefhhpnaa
set_option linter.unusedVariables false
set_option linter.unusedSimpArgs false
open Go.RowKit Go.ChangeShapes Go.WideShapes Go.ChangeAt

theorem own : ownKnob Try.prog.godebug = none := by kernel_rfl
theorem laidOut : laidOutB Try.prog = true := by kernel_rfl

section
variable {H : Type} {enc : TypeId × Value → H} {P : Program} {w : World} {base : Nat} {spare : Nat → Bool} {held : Bool} {r : Reach} {b0 : Nat} {t : TypeId} {v : Value} {d : DataW H} {p : List MemPlace}

theorem wf_u64 {n : Int} (h : (Lit.int .u64 n).wf = true) : 0 ≤ n ∧ n < 18446744073709551616 := by
  simp [Lit.wf, IntKind.min, IntKind.max, IntKind.signed, IntKind.bits] at h; omega
/-- A slice of unsigned numbers. -/
theorem open_nats {e : TypeId} {k : IntKind} {M : Nat} (ht : P.underlying t = some (.slice e)) (he : P.underlying e = some (.int k)) (hc : P.cellsOf e = 1) (hk : ∀ n, (Lit.int k n).wf = true → 0 ≤ n ∧ n < (M : Int))
    (hv : Value.okWide P w r b0 t v) (h : DataW.Trod enc P w base spare held t v d p) : ∃ ns : List Nat, Reads w v (ints k ns) ∧ (∀ n ∈ ns, n < M) ∧ ns.length ≤ 9223372036854775807 := by
  obtain ⟨a, len, cap, rfl⟩ := okWide_slice ht hv
  obtain ⟨fuel, hf⟩ := h
  rcases open_ints ht he hc hf with ⟨hcs, _⟩ | ⟨x, l, c, zs, hcs, _, hl, hm, hz, _, hcell, hwz⟩
  · simp [Value.cells] at hcs
    obtain ⟨rfl, rfl, rfl⟩ := hcs
    exact ⟨[], Reads.nil w, by simp, by simp⟩
  · simp [Value.cells] at hcs
    obtain ⟨rfl, rfl, rfl⟩ := hcs
    have hlz : len ≤ zs.length := by rw [hz]; split <;> omega
    refine ⟨(zs.take len).map Int.toNat, ?_, ?_, ?_⟩
    · have hlen : ((zs.take len).map Int.toNat).length = len := by simp; omega
      refine ⟨some x, cap, by rw [List.length_map, hlen], by rw [List.length_map, hlen]; exact hl, fun hne => ?_⟩
      have h0 : 0 < len := by
        rcases Nat.eq_zero_or_pos len with h0 | h0
        · subst h0; simp at hne
        · exact h0
      obtain ⟨b, off, spot⟩ := x
      have hc0 := hcell 0 (by omega)
      have hspot : spot = none := by simpa [Addr.add] using World.cell?_spot hc0
      subst hspot
      have hblt : b < w.heap.size := by
        rcases Nat.lt_or_ge b w.heap.size with hb | hb
        · exact hb
        · simp [Addr.add, World.cell?, Array.getElem?_eq_none hb] at hc0
      refine ⟨b, off, rfl, hblt, fun j hj => ?_⟩
      rw [List.length_map, hlen] at hj
      have hcj := hcell j (by omega)
      have hjz : j < zs.length := by omega
      have hw := hk _ (hwz zs[j] (List.getElem_mem hjz))
      rw [Addr.add_lit] at hcj
      rw [hcj]
      simp [List.getElem?_take, hj, hjz, List.getD]
      omega
    · intro n hn
      simp only [List.mem_map] at hn
      obtain ⟨z, hz', rfl⟩ := hn
      have := hk _ (hwz z (List.mem_of_mem_take hz'))
      omega
    · simp only [List.length_map, List.length_take]
      unfold maxLen at hm
      omega

end
end Go.Proofs.Ytfplilpefhhpnaa
/- Opening the arguments of a law: structs and arrays of integers, and of such. Over any program. -/
namespace Go.Proofs.Ytfplilpefhhpnaa
set_option linter.unusedVariables false
set_option linter.unusedSimpArgs false
open Go.RowKit Go.ChangeShapes Go.WideShapes Go.ChangeAt
/-- Which kind of integer lies at a cell. -/
def atC (P : Program) : Nat → TypeId → Nat → Option IntKind
  | 0, _, _ => none
  | d + 1, t, j => match P.underlying t with
    | some (.struct fs) => fs.toList.findSome? fun f => if f.offset ≤ j ∧ j < f.offset + P.cellsOf f.type then atC P d f.type (j - f.offset) else none
    | some (.array n e) => if j / P.cellsOf e < n then atC P d e (j % P.cellsOf e) else none
    | some (.int k) => if j = 0 then some k else none
    | _ => none
section
variable {H : Type} {enc : TypeId × Value → H} {P : Program} {w : World} {base : Nat} {spare : Nat → Bool} {held : Bool} {r : Reach} {b0 : Nat} {t : TypeId} {v : Value} {d : DataW H} {p : List MemPlace}
theorem trod_at : ∀ (n : Nat) (t : TypeId) (j fuel : Nat) (cs : List Value) (x : DataW H × List MemPlace) (k : IntKind), atC P n t j = some k → DataW.trod enc P w base spare held fuel t cs = some x → ∃ z : Int, cs[j]? = some (.int k z) ∧ (Lit.int k z).wf = true
  | 0, _, _, _, _, _, _, h, _ => by cases h
  | n + 1, t, j, fuel, cs, x, k, h, hx => by
    cases hu : P.underlying t with
    | none => simp [atC, hu] at h
    | some kd =>
      cases kd <;> simp only [atC, hu] at h <;> try (cases h; done)
      case int q =>
        split at h
        · rename_i hj
          cases h
          subst hj
          obtain ⟨z, e, _, hw⟩ := DataW.trod_int hu hx
          exact ⟨z, by rw [e]; rfl, hw⟩
        · cases h
      case struct fs =>
        obtain ⟨f, hf, hfk⟩ := List.exists_of_findSome?_eq_some h
        split at hfk
        · rename_i hj
          obtain ⟨xs, m, _, rfl, hl, hlen, hf2⟩ := DataW.trod_struct hu hx
          obtain ⟨i, hi⟩ := List.mem_iff_getElem?.1 hf
          have h2 := hf2 i f (by simpa using hi)
          have hil : i < xs.length := by
            have := (List.getElem?_eq_some_iff.1 hi).1
            rw [Array.length_toList] at this
            omega
          rw [List.getElem?_eq_getElem hil] at h2
          obtain ⟨z, e, hw⟩ := trod_at n f.type (j - f.offset) _ _ _ k hfk h2
          refine ⟨z, ?_, hw⟩
          rw [List.getElem?_take] at e
          split at e
          · rw [List.getElem?_drop] at e
            rwa [show f.offset + (j - f.offset) = j by omega] at e
          · cases e
        · cases hfk
      case array m e =>
        split at h
        · rename_i hj
          obtain ⟨xs, m', _, rfl, hl, hlen, hi⟩ := DataW.trod_array hu hx
          have h2 := hi _ hj
          rw [List.getElem?_eq_getElem (by omega)] at h2
          obtain ⟨z, e', hw⟩ := trod_at n e (j % P.cellsOf e) _ _ _ k h h2
          refine ⟨z, ?_, hw⟩
          rw [List.getElem?_take] at e'
          split at e'
          · rw [List.getElem?_drop] at e'
            rwa [show j / P.cellsOf e * P.cellsOf e + j % P.cellsOf e = j by rw [Nat.mul_comm]; exact Nat.div_add_mod _ _] at e'
          · cases e'
        · cases h
theorem open_ints {c : Nat} (ks : Nat → IntKind) (hs : (match P.underlying t with | some (.struct _) | some (.array _ _) => true | _ => false) = true) (hc : P.cellsOf t = c) (hk : (List.range c).all (fun j => atC P 9 t j == some (ks j)) = true)
    (hv : Value.okWide P w r b0 t v) (h : DataW.Trod enc P w base spare held t v d p) : ∃ g : Nat → Int, v = .agg ((List.range c).map fun j => Value.int (ks j) (g j)).toArray ∧ ∀ j, j < c → (Lit.int (ks j) (g j)).wf = true := by
  have hg : ∃ cs, v = .agg cs ∧ cs.size = P.cellsOf t := by
    unfold Value.okWide at hv
    split at hv
    · obtain ⟨cs, h1, h2, _⟩ := hv; exact ⟨cs, h1, h2⟩
    · obtain ⟨cs, h1, h2, _⟩ := hv; exact ⟨cs, h1, h2⟩
    · rename_i h1 h2
      split at hs <;> simp_all
  obtain ⟨cs, rfl, hsz⟩ := hg
  obtain ⟨fuel, hf⟩ := h
  have key : ∀ j, ∃ z : Int, j < c → cs.toList[j]? = some (.int (ks j) z) ∧ (Lit.int (ks j) z).wf = true := by
    intro j
    by_cases hj : j < c
    · have hk' := List.all_eq_true.1 hk j (List.mem_range.2 hj)
      have hk'' : atC P 9 t j = some (ks j) := by simpa using hk'
      obtain ⟨z, h1, h2⟩ := trod_at 9 t j fuel _ _ _ hk'' hf
      exact ⟨z, fun _ => ⟨h1, h2⟩⟩
    · exact ⟨0, fun h => absurd h hj⟩
  refine ⟨fun j => Classical.choose (key j), ?_, fun j hj => (Classical.choose_spec (key j) hj).2⟩
  congr 1
  apply Array.ext'
  apply List.ext_getElem?
  intro j
  simp only [List.toList_toArray, List.getElem?_map]
  by_cases hj : j < c
  · rw [(Classical.choose_spec (key j) hj).1, List.getElem?_range hj]
    rfl
  · rw [List.getElem?_eq_none (by rw [Array.length_toList, hsz, hc]; omega), List.getElem?_eq_none (by simp; omega)]
    rfl
end
end Go.Proofs.Ytfplilpefhhpnaa
/- slots: what the shells hand over. -/
namespace Go.Proofs.Ytfplilpefhhpnaa
set_option linter.unusedVariables false
set_option linter.unusedSimpArgs false
open Go.RowKit Go.Shelf
set_option maxRecDepth 100000
set_option maxHeartbeats 8000000
end Go.Proofs.Ytfplilpefhhpnaa
/- NodeChildren, any input. -/
namespace Go.Proofs.Ytfplilpefhhpnaa
set_option linter.unusedVariables false
set_option linter.unusedSimpArgs false
open Go.RowKit Go.Shelf
set_option maxRecDepth 100000
set_option maxHeartbeats 8000000
theorem lent11_any (n : Nat) (v : Value) (l : List Nat) (w : World) (hv : ReadsT uE 1 w v l) (hN : l.length = n) (hlen : n ≤ 1048576) : Calls Try.prog 8 #[v] w fun e w' => ∃ g cap, e = .returned (.slice (some ⟨g, 0, none⟩) n cap) ∧ ReadsT uE 1 w' (.slice (some ⟨g, 0, none⟩) (n + 1) cap) (l ++ [77]) ∧ n + 1 ≤ cap ∧ w.heap.size ≤ g ∧ Below w.heap.size w w' := by
  have q := Below.refl w.heap.size w
  obtain ⟨a, cap, rfl, hcap⟩ := hv.form hN
  refine X.fn Try.func8 rfl (n := 11) rfl rfl ?_
  refine CC.seq ?_
  refine CC.region ?_
  refine LL.val (R.assign rfl rfl) rfl rfl rfl ?_
  refine LL.nilS ?_
  refine CC.seq ?_
  refine CC.region ?_
  refine LL.lit (e := 25) [] 0 rfl rfl (fun _ => by kernel_rfl) rfl rfl ?_
  intro W2 g3 eg3 r4 z5 b1
  replace q := q.trans (b1.mono q.size)
  replace hv := hv.up b1
  refine LL.val (R.move rfl rfl) rfl rfl rfl ?_
  have yq := q.size
  refine LL.appendT2 rfl rfl uEnc ElU (RowL.ownsT (base := w.heap.size) (ts := ([] : List Nat)) uEnc (by assumption) (by omega) (by simp)) hv (by simp [maxLen]; omega) (by simp; omega) (by omega) rfl rfl ?_
  intro v0 Wa o gra hva
  rw [List.nil_append] at o
  replace q := q.grown gra (by omega) (by rintro k ⟨⟩; show w.heap.size ≤ g3; omega)
  clear hv r4 hva
  have yq := q.size
  refine LL.lit (e := 25) [Value.int IntKind.u64 77] 1 rfl rfl (fun _ => by kernel_rfl) rfl rfl ?_
  intro Wa2 ga3 ega3 ra4 za5 ba1
  replace o := o.up ba1
  replace q := q.trans (ba1.mono q.size)
  have yq := q.size
  refine LL.appendT2 rfl rfl uEnc ElU o (RowL.readsT (ts := [77]) uEnc (by assumption) 1 (by simp)) (by simp [maxLen]; omega) (by simp; omega) (by omega) rfl rfl ?_
  intro v1 Wb o1 grb hvb
  replace q := q.grown grb (by omega) (fun g hg => by have := own_ge o g hg; omega)
  obtain ⟨g, cp, rfl, hbg, hgl, hnc⟩ := ownsT_form (N := n + 1) o1 (by simp [hN]) (by omega)
  have hr1 := o1.reads uEnc
  refine LL.val (R.move rfl rfl) rfl rfl rfl ?_
  refine LL.val (R.len rfl rfl rfl rfl) rfl rfl rfl ?_
  refine LL.val (R.slice rfl rfl rfl rfl rfl (I.slTo rfl (by omega))) rfl rfl rfl ?_
  refine LL.val (R.assign rfl rfl) rfl rfl rfl ?_
  refine LL.nilS ?_
  refine CC.ret ?_
  refine EE.ret _ rfl rfl ?_
  exact ⟨g, cp, rfl, hr1, hnc, by omega, q⟩
--C law11_works | works11_any @w | ⟨rfl, @b⟩
--C law11_num | num11_any _ @w | S
end Go.Proofs.Ytfplilpefhhpnaa
/- NodeSplits, any input (written by gennd26.py). -/
namespace Go.Proofs.Ytfplilpefhhpnaa
set_option linter.unusedVariables false
set_option linter.unusedSimpArgs false
open Go.RowKit Go.Shelf
set_option maxRecDepth 100000
set_option maxHeartbeats 8000000
theorem unil (w : World) : ReadsT uE 1 w nilV [] := (OwnsT.none (enc := uE) w w.heap.size 25).reads uEnc
theorem pnil (w : World) : ReadsT pE 2 w nilV [] := (OwnsT.none (enc := pE) w w.heap.size 68).reads pEnc
theorem ptsame_T (xs : List Pt) (va vb : Value) (w : World) (ha : ReadsT pE 2 w va xs) (hb : ReadsT pE 2 w vb xs) (hl : xs.length ≤ 1048576) : Calls Try.prog 20 #[va, vb] w fun e w' => e = .returned (.bool true) ∧ Below w.heap.size w w' := by
  have := psame_any va vb xs xs w ha hb hl hl
  rwa [decide_eq_true rfl] at this
theorem splits_no (n : Nat) (v : Value) (ws : List Nat) (w : World) (hv : ReadsT uE 1 w v ws) (hn : ws.length = n) (hb : ∀ x ∈ ws, x < 18446744073709551616) (blk : Int) (er : Nat) (he : er ≠ 0) (h1 : ∀ W u, ReadsT uE 1 W u ws → Calls Try.prog 18 #[u, .int .i64 blk] W fun e w' => e = .returned (.tuple #[nilV, nilV, .int .i64 (er : Int)]) ∧ Below W.heap.size W w') (h2 : ∀ W u, ReadsT uE 1 W u ws → Calls Try.prog 19 #[u, .int .i64 blk] W fun e w' => e = .returned (.tuple #[nilV, nilV, .int .i64 (er : Int)]) ∧ Below W.heap.size W w') : Calls Try.prog 4 #[v, .int .i64 (blk)] w fun e w' => e = .returned (.bool true) ∧ Below w.heap.size w w' := by
  have q := Below.refl w.heap.size w
  obtain ⟨a, c, rfl, hc⟩ := hv.form hn
  have hvF : ∀ X, Below w.heap.size w X → ReadsT uE 1 X (.slice a n c) ws := fun X b => hv.up b
  have he' : (er : Int) ≠ 0 := by omega
  clear hv hb
  by_cases h70 : 70 < n
  · refine X.fn Try.func4 rfl (n := 64) rfl rfl ?_
    refine CC.seq ?_
    refine CC.region ?_
    refine LL.val (R.assign rfl rfl) rfl rfl rfl ?_
    refine LL.nilS ?_
    refine CC.seq ?_
    refine CC.seq ?_
    refine CC.region ?_
    refine LL.val (R.move rfl rfl) rfl rfl rfl ?_
    refine LL.val (R.len rfl rfl rfl rfl) rfl rfl rfl ?_
    refine LL.val (R.gtT rfl rfl rfl (by omega)) rfl rfl rfl ?_
    refine LL.nilS ?_
    refine CC.yes rfl ?_
    refine CC.seq ?_
    refine CC.region ?_
    refine LL.call (R.call rfl rfl rfl) rfl rfl rfl (works11_any _) ?_
    rintro e W2 ⟨rfl, b1⟩
    refine ⟨_, rfl, ?_⟩
    have zb1 := b1.size
    replace q := q.trans (b1.mono q.size)
    refine LL.val (R.assign rfl rfl) rfl rfl rfl ?_
    refine LL.nilS ?_
    refine CC.ret ?_
    refine EE.thenR ?_
    refine EE.ret _ rfl rfl ?_
    exact ⟨rfl, q⟩
  refine X.fn Try.func4 rfl (n := 64) rfl rfl ?_
  refine CC.seq ?_
  refine CC.region ?_
  refine LL.val (R.assign rfl rfl) rfl rfl rfl ?_
  refine LL.nilS ?_
  refine CC.seq ?_
  refine CC.seq ?_
  refine CC.region ?_
  refine LL.val (R.move rfl rfl) rfl rfl rfl ?_
  refine LL.val (R.len rfl rfl rfl rfl) rfl rfl rfl ?_
  refine LL.val (R.gtF rfl rfl rfl (by omega)) rfl rfl rfl ?_
  refine LL.nilS ?_
  refine CC.no rfl ?_
  refine CC.skip ?_
  refine EE.thenN ?_
  refine CC.seq ?_
  refine CC.region ?_
  refine LL.val (R.move rfl rfl) rfl rfl rfl ?_
  (refine LL.call (R.call rfl rfl rfl) rfl rfl rfl (lent11_any n _ ws _ (hvF _ q) hn (by omega)) ?_; rintro e Wa179 ⟨gL, cL, rfl, hL, hcL, hgL, ba176⟩; refine ⟨_, rfl, ?_⟩; have hL2 := lentR hn hL hcL; clear hL)
  have zba176 := ba176.size
  replace q := q.trans (ba176.mono q.size)
  refine LL.val (R.move rfl rfl) rfl rfl rfl ?_
  (refine LL.call (R.call rfl rfl rfl) rfl rfl rfl (h1 _ _ hL2) ?_; rintro e Wa228 ⟨rfl, ba225⟩; refine ⟨_, rfl, ?_⟩)
  have zba225 := ba225.size
  replace ba176 := ba176.trans (ba225.mono ba176.size)
  replace hL2 := hL2.up ba225
  replace q := q.trans (ba225.mono q.size)
  refine LL.val (R.move rfl rfl) rfl rfl rfl ?_
  refine LL.val (R.extract rfl rfl rfl) rfl rfl rfl ?_
  refine LL.val (R.extract rfl rfl rfl) rfl rfl rfl ?_
  refine LL.val (R.extract rfl rfl rfl) rfl rfl rfl ?_
  refine LL.val (R.assign rfl rfl) rfl rfl rfl ?_
  refine LL.val (R.assign rfl rfl) rfl rfl rfl ?_
  refine LL.val (R.assign rfl rfl) rfl rfl rfl ?_
  refine LL.nilS ?_
  refine CC.seq ?_
  refine CC.region ?_
  refine LL.val (R.move rfl rfl) rfl rfl rfl ?_
  refine LL.val (R.move rfl rfl) rfl rfl rfl ?_
  (refine LL.call (R.call rfl rfl rfl) rfl rfl rfl (h2 _ _ (hvF _ q)) ?_; rintro e Wa564 ⟨rfl, ba561⟩; refine ⟨_, rfl, ?_⟩)
  have zba561 := ba561.size
  replace ba225 := ba225.trans (ba561.mono ba225.size)
  replace ba176 := ba176.trans (ba561.mono ba176.size)
  replace hL2 := hL2.up ba561
  replace q := q.trans (ba561.mono q.size)
  refine LL.val (R.move rfl rfl) rfl rfl rfl ?_
  refine LL.val (R.extract rfl rfl rfl) rfl rfl rfl ?_
  refine LL.val (R.extract rfl rfl rfl) rfl rfl rfl ?_
  refine LL.val (R.extract rfl rfl rfl) rfl rfl rfl ?_
  refine LL.val (R.assign rfl rfl) rfl rfl rfl ?_
  refine LL.val (R.assign rfl rfl) rfl rfl rfl ?_
  refine LL.val (R.assign rfl rfl) rfl rfl rfl ?_
  refine LL.nilS ?_
  refine CC.seq ?_
  refine CC.seq ?_
  refine CC.region ?_
  refine LL.val (R.move rfl rfl) rfl rfl rfl ?_
  refine LL.val (R.move rfl rfl) rfl rfl rfl ?_
  (refine LL.call (R.call rfl rfl rfl) rfl rfl rfl (usame_T _ _ [] _ (unil _) (unil _) (by decide)) ?_; rintro e Wa907 ⟨rfl, ba904⟩; refine ⟨_, rfl, ?_⟩)
  have zba904 := ba904.size
  replace ba561 := ba561.trans (ba904.mono ba561.size)
  replace ba225 := ba225.trans (ba904.mono ba225.size)
  replace ba176 := ba176.trans (ba904.mono ba176.size)
  replace hL2 := hL2.up ba904
  replace q := q.trans (ba904.mono q.size)
  refine LL.val (R.not rfl rfl) rfl rfl rfl ?_
  refine LL.val (R.move rfl rfl) rfl rfl rfl ?_
  refine LL.val (R.move rfl rfl) rfl rfl rfl ?_
  refine LL.val (R.move rfl rfl) rfl rfl rfl ?_
  (refine LL.call (R.call rfl rfl rfl) rfl rfl rfl (ptsame_T [] _ _ _ (pnil _) (pnil _) (by decide)) ?_; rintro e Wa1082 ⟨rfl, ba1079⟩; refine ⟨_, rfl, ?_⟩)
  have zba1079 := ba1079.size
  replace ba904 := ba904.trans (ba1079.mono ba904.size)
  replace ba561 := ba561.trans (ba1079.mono ba561.size)
  replace ba225 := ba225.trans (ba1079.mono ba225.size)
  replace ba176 := ba176.trans (ba1079.mono ba176.size)
  replace hL2 := hL2.up ba1079
  replace q := q.trans (ba1079.mono q.size)
  refine LL.val (R.not rfl rfl) rfl rfl rfl ?_
  refine LL.val (R.pick rfl rfl rfl) rfl rfl rfl ?_
  refine LL.val (R.move rfl rfl) rfl rfl rfl ?_
  refine LL.val (R.move rfl rfl) rfl rfl rfl ?_
  refine LL.call (R.call rfl rfl rfl) rfl rfl rfl (num11_any _ _) ?_
  rintro e W' ⟨rfl, rfl⟩
  refine ⟨_, rfl, ?_⟩
  refine LL.val (R.move rfl rfl) rfl rfl rfl ?_
  refine LL.val (R.neF rfl rfl rfl (by omega)) rfl rfl rfl ?_
  refine LL.val (R.pick rfl rfl rfl) rfl rfl rfl ?_
  refine LL.nilS ?_
  refine CC.no rfl ?_
  refine CC.skip ?_
  refine EE.thenN ?_
  refine CC.seq ?_
  refine CC.seq ?_
  refine CC.region ?_
  refine LL.val (R.move rfl rfl) rfl rfl rfl ?_
  refine LL.val (R.neT rfl rfl rfl (by omega)) rfl rfl rfl ?_
  refine LL.nilS ?_
  refine CC.yes rfl ?_
  refine CC.seq ?_
  refine CC.region ?_
  refine LL.call (R.call rfl rfl rfl) rfl rfl rfl (works11_any _) ?_
  rintro e Wa1472 ⟨rfl, ba1471⟩
  refine ⟨_, rfl, ?_⟩
  have zba1471 := ba1471.size
  replace ba1079 := ba1079.trans (ba1471.mono ba1079.size)
  replace ba904 := ba904.trans (ba1471.mono ba904.size)
  replace ba561 := ba561.trans (ba1471.mono ba561.size)
  replace ba225 := ba225.trans (ba1471.mono ba225.size)
  replace ba176 := ba176.trans (ba1471.mono ba176.size)
  replace hL2 := hL2.up ba1471
  replace q := q.trans (ba1471.mono q.size)
  refine LL.val (R.assign rfl rfl) rfl rfl rfl ?_
  refine LL.nilS ?_
  refine CC.ret ?_
  refine EE.thenR ?_
  refine EE.ret _ rfl rfl ?_
  exact ⟨rfl, q⟩
--C law11_works | works11_any @w | ⟨rfl, @b⟩
--C law11_num | num11_any _ @w | S
theorem splits_yes (v : Value) (ws : List Nat) (w : World) (hv : ReadsT uE 1 w v ws) (hn : ws.length = 64) (hb : ∀ x ∈ ws, x < 18446744073709551616) (hS : nodeS ws) (blk N m k p : Nat) (hk : 1 ≤ blk ∧ blk ≤ 2047) (ps : List Pr) (eps : readF (gw ws 3) (ws.drop 8) = ps) (hN : ps.length = N) (h2 : 2 ≤ N) (hm : m = N / 2) (hx : ps[m]? = some (k, p)) : Calls Try.prog 4 #[v, .int .i64 (blk : Int)] w fun e w' => e = .returned (.bool true) ∧ Below w.heap.size w w' := by
  have q := Below.refl w.heap.size w
  obtain ⟨bk, off, c, rfl, hc⟩ := sl64 hv hn
  have hvF : ∀ X, Below w.heap.size w X → ReadsT uE 1 X (.slice (some ⟨bk, off, none⟩) 64 c) ws := fun X b => hv.up b
  clear hv
  have hp64 : ∀ x ∈ ps, x.1 < 18446744073709551616 ∧ x.2 < 18446744073709551616 := by
    rw [← eps]
    exact readF_lt fun x hx => hb x (List.mem_of_mem_drop hx)
  have U := upKs hS hb eps hN hx hp64
  have hc1 := up_chk hS hb eps hN hx hp64
  have hc2 := spl_chk (T := N - m) hS eps hN hk (by omega)
  have hck0 : chkN ws = 0 := by unfold chkN; rw [if_pos hS.1, if_pos hS.2]
  have hN28 : N ≤ 28 := by
    rw [← hN, ← eps]
    have := readF_len (gw ws 3) (ws.drop 8)
    rw [List.length_drop, hn] at this
    omega
  have hsl : ∀ p ∈ splN blk N (N - m), 0 ≤ p.1 ∧ p.2 < 18446744073709551616 := splN_fine blk N (N - m) (by omega)
  have hlt : ∀ x ∈ applyS ws (splN blk N (N - m)), x < 18446744073709551616 := applyS_lt _ (fun p hp => (hsl p hp).2) ws hb
  have h1 := fun W u (h : ReadsT uE 1 W u ws) => split_yes 64 u ws W h hn hb hS blk N m k p hk ps eps hN h2 hm hx
  have h3 := fun W u (h : ReadsT uE 1 W u ws) => rSplit_yes 64 u ws W h hn hb hS hck0 blk N m k p hk ps eps hN h2 hm hx
  obtain ⟨Y, hY⟩ : ∃ Y, upW ws ps k p m = Y := ⟨_, rfl⟩
  obtain ⟨os, hos⟩ : ∃ os, splN blk N (N - m) = os := ⟨_, rfl⟩
  have hspl := splN_len blk N (N - m)
  rw [hos] at hspl hc2 hsl hlt h1 h3
  rw [hY] at U hc1 h1 h3
  have hl5 : os.length ≤ 1048576 := by omega
  have h0 : ∀ p ∈ os, 0 ≤ p.1 := fun p hp => (hsl p hp).1
  have hY64 := U.len
  have hcA : ∀ W u, ReadsT uE 1 W u Y → Calls Try.prog 13 #[u] W fun e w' => e = .returned (.int .i64 0) ∧ Below W.heap.size W w' := fun W u h => by
    have := nCheck_any 64 u Y W h U.len U.lt
    rw [hc1] at this
    exact this
  have hcB : ∀ W u, ReadsT uE 1 W u (applyS ws os) → Calls Try.prog 13 #[u] W fun e w' => e = .returned (.int .i64 0) ∧ Below W.heap.size W w' := fun W u h => by
    have := nCheck_any 64 u _ W h (by rw [applyS_len, hn]) hlt
    rw [hc2] at this
    exact this
  clear U hc1 hc2 hS hY hos eps hb hx hp64 hck0
  have hlv := fun (W : World) (q : Below w.heap.size w W) => lent11_any 64 _ ws W (hvF _ q) hn (by omega)
  refine X.fn Try.func4 rfl (n := 64) rfl rfl ?_
  refine CC.seq ?_
  refine CC.region ?_
  refine LL.val (R.assign rfl rfl) rfl rfl rfl ?_
  refine LL.nilS ?_
  refine CC.seq ?_
  refine CC.seq ?_
  refine CC.region ?_
  refine LL.val (R.move rfl rfl) rfl rfl rfl ?_
  refine LL.val (R.len rfl rfl rfl rfl) rfl rfl rfl ?_
  refine LL.val (R.gtF rfl rfl rfl (by omega)) rfl rfl rfl ?_
  refine LL.nilS ?_
  refine CC.no rfl ?_
  refine CC.skip ?_
  refine EE.thenN ?_
  refine CC.seq ?_
  refine CC.region ?_
  refine LL.val (R.move rfl rfl) rfl rfl rfl ?_
  (refine LL.call (R.call rfl rfl rfl) rfl rfl rfl (hlv _ q) ?_; rintro e W284 ⟨gL, cL, rfl, hL, hcL, hgL, b281⟩; refine ⟨_, rfl, ?_⟩; have hL2 := lentR hn hL hcL; clear hL)
  have zb281 := b281.size
  replace q := q.trans (b281.mono q.size)
  refine LL.val (R.move rfl rfl) rfl rfl rfl ?_
  (refine LL.call (R.call rfl rfl rfl) rfl rfl rfl (h1 _ _ hL2) ?_; rintro e W354 ⟨g1, v1, rfl, r1, om1, hg1, b351⟩; refine ⟨_, rfl, ?_⟩; obtain ⟨am1, cm1, rfl, hcm1⟩ := (om1.reads pEnc).form hspl; obtain ⟨X1, hzX1, hm1F, q1⟩ := exposeT (om1.reads pEnc); have zX1 := q1.size; clear om1)
  have zb351 := b351.size
  replace b281 := b281.trans (b351.mono b281.size)
  replace hL2 := hL2.up b351
  replace q := q.trans (b351.mono q.size)
  refine LL.val (R.move rfl rfl) rfl rfl rfl ?_
  refine LL.val (R.extract rfl rfl rfl) rfl rfl rfl ?_
  refine LL.val (R.extract rfl rfl rfl) rfl rfl rfl ?_
  refine LL.val (R.extract rfl rfl rfl) rfl rfl rfl ?_
  refine LL.val (R.assign rfl rfl) rfl rfl rfl ?_
  refine LL.val (R.assign rfl rfl) rfl rfl rfl ?_
  refine LL.val (R.assign rfl rfl) rfl rfl rfl ?_
  refine LL.nilS ?_
  refine CC.seq ?_
  refine CC.region ?_
  refine LL.val (R.move rfl rfl) rfl rfl rfl ?_
  refine LL.val (R.move rfl rfl) rfl rfl rfl ?_
  have l954 := r1.lt
  (refine LL.call (R.call rfl rfl rfl) rfl rfl rfl (h3 _ _ (hvF _ q)) ?_; rintro e W953 ⟨g2, v2, rfl, r2, om2, hg2, b950⟩; refine ⟨_, rfl, ?_⟩; obtain ⟨am2, cm2, rfl, hcm2⟩ := (om2.reads pEnc).form hspl; obtain ⟨X2, hzX2, hm2F, q2⟩ := exposeT (om2.reads pEnc); have zX2 := q2.size; clear om2)
  have zb950 := b950.size
  replace r1 := r1.up b950
  replace b351 := b351.trans (b950.mono b351.size)
  replace q1 := q1.trans (b950.mono q1.size)
  replace b281 := b281.trans (b950.mono b281.size)
  replace hL2 := hL2.up b950
  replace q := q.trans (b950.mono q.size)
  refine LL.val (R.move rfl rfl) rfl rfl rfl ?_
  refine LL.val (R.extract rfl rfl rfl) rfl rfl rfl ?_
  refine LL.val (R.extract rfl rfl rfl) rfl rfl rfl ?_
  refine LL.val (R.extract rfl rfl rfl) rfl rfl rfl ?_
  refine LL.val (R.assign rfl rfl) rfl rfl rfl ?_
  refine LL.val (R.assign rfl rfl) rfl rfl rfl ?_
  refine LL.val (R.assign rfl rfl) rfl rfl rfl ?_
  refine LL.nilS ?_
  refine CC.seq ?_
  refine CC.seq ?_
  refine CC.region ?_
  refine LL.val (R.move rfl rfl) rfl rfl rfl ?_
  refine LL.val (R.move rfl rfl) rfl rfl rfl ?_
  have l1637 := r2.lt
  have l1638 := r1.lt
  (refine LL.call (R.call rfl rfl rfl) rfl rfl rfl (usame_T _ _ Y _ (row_uE (by assumption) hY64) (row_uE (by assumption) hY64) (by omega)) ?_; rintro e W1636 ⟨rfl, b1633⟩; refine ⟨_, rfl, ?_⟩)
  have zb1633 := b1633.size
  replace r2 := r2.up b1633
  replace b950 := b950.trans (b1633.mono b950.size)
  replace q2 := q2.trans (b1633.mono q2.size)
  replace r1 := r1.up b1633
  replace b351 := b351.trans (b1633.mono b351.size)
  replace q1 := q1.trans (b1633.mono q1.size)
  replace b281 := b281.trans (b1633.mono b281.size)
  replace hL2 := hL2.up b1633
  replace q := q.trans (b1633.mono q.size)
  refine LL.val (R.not rfl rfl) rfl rfl rfl ?_
  refine LL.val (R.move rfl rfl) rfl rfl rfl ?_
  refine LL.val (R.move rfl rfl) rfl rfl rfl ?_
  refine LL.val (R.move rfl rfl) rfl rfl rfl ?_
  have l1970 := r2.lt
  have l1971 := r1.lt
  (refine LL.call (R.call rfl rfl rfl) rfl rfl rfl (ptsame_T os _ _ _ (hm1F _ q1) (hm2F _ q2) hl5) ?_; rintro e W1969 ⟨rfl, b1966⟩; refine ⟨_, rfl, ?_⟩)
  have zb1966 := b1966.size
  replace b1633 := b1633.trans (b1966.mono b1633.size)
  replace r2 := r2.up b1966
  replace b950 := b950.trans (b1966.mono b950.size)
  replace q2 := q2.trans (b1966.mono q2.size)
  replace r1 := r1.up b1966
  replace b351 := b351.trans (b1966.mono b351.size)
  replace q1 := q1.trans (b1966.mono q1.size)
  replace b281 := b281.trans (b1966.mono b281.size)
  replace hL2 := hL2.up b1966
  replace q := q.trans (b1966.mono q.size)
  refine LL.val (R.not rfl rfl) rfl rfl rfl ?_
  refine LL.val (R.pick rfl rfl rfl) rfl rfl rfl ?_
  refine LL.val (R.move rfl rfl) rfl rfl rfl ?_
  refine LL.val (R.move rfl rfl) rfl rfl rfl ?_
  refine LL.call (R.call rfl rfl rfl) rfl rfl rfl (num11_any _ _) ?_
  rintro e W' ⟨rfl, rfl⟩
  refine ⟨_, rfl, ?_⟩
  refine LL.val (R.move rfl rfl) rfl rfl rfl ?_
  refine LL.val (R.neF rfl rfl rfl (by omega)) rfl rfl rfl ?_
  refine LL.val (R.pick rfl rfl rfl) rfl rfl rfl ?_
  refine LL.nilS ?_
  refine CC.no rfl ?_
  refine CC.skip ?_
  refine EE.thenN ?_
  refine CC.seq ?_
  refine CC.seq ?_
  refine CC.region ?_
  refine LL.val (R.move rfl rfl) rfl rfl rfl ?_
  refine LL.val (R.neF rfl rfl rfl (by omega)) rfl rfl rfl ?_
  refine LL.nilS ?_
  refine CC.no rfl ?_
  refine CC.skip ?_
  refine EE.thenN ?_
  refine CC.seq ?_
  refine CC.region ?_
  refine LL.val (R.move rfl rfl) rfl rfl rfl ?_
  have l2816 := r2.lt
  have l2817 := r1.lt
  (refine LL.call (R.call rfl rfl rfl) rfl rfl rfl (hcA _ _ (row_uE (by assumption) hY64)) ?_; rintro e W2815 ⟨rfl, b2812⟩; refine ⟨_, rfl, ?_⟩)
  have zb2812 := b2812.size
  replace b1966 := b1966.trans (b2812.mono b1966.size)
  replace b1633 := b1633.trans (b2812.mono b1633.size)
  replace r2 := r2.up b2812
  replace b950 := b950.trans (b2812.mono b950.size)
  replace q2 := q2.trans (b2812.mono q2.size)
  replace r1 := r1.up b2812
  replace b351 := b351.trans (b2812.mono b351.size)
  replace q1 := q1.trans (b2812.mono q1.size)
  replace b281 := b281.trans (b2812.mono b281.size)
  replace hL2 := hL2.up b2812
  replace q := q.trans (b2812.mono q.size)
  refine LL.call (R.call rfl rfl rfl) rfl rfl rfl (num11_any _ _) ?_
  rintro e W' ⟨rfl, rfl⟩
  refine ⟨_, rfl, ?_⟩
  refine LL.val (R.eqT rfl rfl rfl (by omega)) rfl rfl rfl ?_
  refine LL.val (R.move rfl rfl) rfl rfl rfl ?_
  refine LL.val (R.move rfl rfl) rfl rfl rfl ?_
  refine LL.val (R.move rfl rfl) rfl rfl rfl ?_
  have l3239 := r2.lt
  have l3240 := r1.lt
  (refine LL.call (R.call rfl rfl rfl) rfl rfl rfl (dapply_any 64 _ _ ws os _ (hvF _ q) hn (by omega) (hm1F _ q1) hl5 h0) ?_; rintro e W3238 ⟨vo, rfl, oo, b3235⟩; refine ⟨_, rfl, ?_⟩; have ro := oo.reads uEnc; obtain ⟨a9, c9, rfl, hc9⟩ := ro.form rfl; clear oo)
  have zb3235 := b3235.size
  replace b2812 := b2812.trans (b3235.mono b2812.size)
  replace b1966 := b1966.trans (b3235.mono b1966.size)
  replace b1633 := b1633.trans (b3235.mono b1633.size)
  replace r2 := r2.up b3235
  replace b950 := b950.trans (b3235.mono b950.size)
  replace q2 := q2.trans (b3235.mono q2.size)
  replace r1 := r1.up b3235
  replace b351 := b351.trans (b3235.mono b351.size)
  replace q1 := q1.trans (b3235.mono q1.size)
  replace b281 := b281.trans (b3235.mono b281.size)
  replace hL2 := hL2.up b3235
  replace q := q.trans (b3235.mono q.size)
  have l3311 := r2.lt
  have l3312 := r1.lt
  (refine LL.call (R.call rfl rfl rfl) rfl rfl rfl (hcB _ _ ro) ?_; rintro e W3310 ⟨rfl, b3307⟩; refine ⟨_, rfl, ?_⟩)
  have zb3307 := b3307.size
  replace b3235 := b3235.trans (b3307.mono b3235.size)
  replace ro := ro.up b3307
  replace b2812 := b2812.trans (b3307.mono b2812.size)
  replace b1966 := b1966.trans (b3307.mono b1966.size)
  replace b1633 := b1633.trans (b3307.mono b1633.size)
  replace r2 := r2.up b3307
  replace b950 := b950.trans (b3307.mono b950.size)
  replace q2 := q2.trans (b3307.mono q2.size)
  replace r1 := r1.up b3307
  replace b351 := b351.trans (b3307.mono b351.size)
  replace q1 := q1.trans (b3307.mono q1.size)
  replace b281 := b281.trans (b3307.mono b281.size)
  replace hL2 := hL2.up b3307
  replace q := q.trans (b3307.mono q.size)
  refine LL.call (R.call rfl rfl rfl) rfl rfl rfl (num11_any _ _) ?_
  rintro e W' ⟨rfl, rfl⟩
  refine ⟨_, rfl, ?_⟩
  refine LL.val (R.eqT rfl rfl rfl (by omega)) rfl rfl rfl ?_
  refine LL.val (R.pick rfl rfl rfl) rfl rfl rfl ?_
  refine LL.val (R.move rfl rfl) rfl rfl rfl ?_
  refine LL.call (R.call rfl rfl rfl) rfl rfl rfl (works11_any _) ?_
  rintro e W3677 ⟨rfl, b3676⟩
  refine ⟨_, rfl, ?_⟩
  have zb3676 := b3676.size
  replace b3307 := b3307.trans (b3676.mono b3307.size)
  replace b3235 := b3235.trans (b3676.mono b3235.size)
  replace ro := ro.up b3676
  replace b2812 := b2812.trans (b3676.mono b2812.size)
  replace b1966 := b1966.trans (b3676.mono b1966.size)
  replace b1633 := b1633.trans (b3676.mono b1633.size)
  replace r2 := r2.up b3676
  replace b950 := b950.trans (b3676.mono b950.size)
  replace q2 := q2.trans (b3676.mono q2.size)
  replace r1 := r1.up b3676
  replace b351 := b351.trans (b3676.mono b351.size)
  replace q1 := q1.trans (b3676.mono q1.size)
  replace b281 := b281.trans (b3676.mono b281.size)
  replace hL2 := hL2.up b3676
  replace q := q.trans (b3676.mono q.size)
  refine LL.val (R.pick rfl rfl rfl) rfl rfl rfl ?_
  refine LL.val (R.assign rfl rfl) rfl rfl rfl ?_
  refine LL.nilS ?_
  refine CC.ret ?_
  refine EE.ret _ rfl rfl ?_
  exact ⟨rfl, q⟩
theorem splits_walk (n : Nat) (v : Value) (ws : List Nat) (w : World) (hv : ReadsT uE 1 w v ws) (hn : ws.length = n) (hb : ∀ x ∈ ws, x < 18446744073709551616) (blk : Int) : Calls Try.prog 4 #[v, .int .i64 (blk)] w fun e w' => e = .returned (.bool true) ∧ Below w.heap.size w w' := by
  by_cases hP : nodeP ws
  case neg => exact splits_no n v ws w hv hn hb blk 210 (by decide) (fun W u h => split_bad n u ws W h hn hb blk 210 (by decide) (.inl ⟨hP, rfl⟩)) (fun W u h => rSplit_bad n u ws W h hn hb blk 210 (by decide) (by unfold chkN; rw [if_neg hP]))
  by_cases hS : nodeS ws
  case neg => exact splits_no n v ws w hv hn hb blk 190 (by decide) (fun W u h => split_bad n u ws W h hn hb blk 190 (by decide) (.inr ⟨hP, hS, rfl⟩)) (fun W u h => rSplit_bad n u ws W h hn hb blk 190 (by decide) (by unfold chkN; rw [if_pos hP, if_neg fun k => hS ⟨hP, k⟩]))
  have hck : chkN ws = 0 := by unfold chkN; rw [if_pos hP, if_pos hS.2]
  obtain ⟨ps, eps⟩ : ∃ ps, readF (gw ws 3) (ws.drop 8) = ps := ⟨_, rfl⟩
  obtain ⟨N, hN⟩ : ∃ N, ps.length = N := ⟨_, rfl⟩
  by_cases hk : 1 ≤ blk ∧ blk ≤ 2047 ∧ 2 ≤ N
  case neg => exact splits_no n v ws w hv hn hb blk 2 (by decide) (fun W u h => split_arg n u ws W h hn hb hS blk N ps eps hN hk) (fun W u h => rSplit_arg n u ws W h hn hb hS hck blk N ps eps hN hk)
  obtain ⟨b, rfl⟩ : ∃ b : Nat, blk = (b : Int) := ⟨blk.toNat, by omega⟩
  obtain ⟨⟨k, p⟩, hx⟩ : ∃ x, ps[N / 2]? = some x := ⟨_, List.getElem?_eq_getElem (by omega)⟩
  exact splits_yes v ws w hv hP.1 hb hS b N (N / 2) k p (by omega) ps eps hN hk.2.2 rfl hx
end Go.Proofs.Ytfplilpefhhpnaa
