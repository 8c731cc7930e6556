/- PmemMakes: the walk. -/
import Derived.Test.YtajfffoaebjnlaaPm25
namespace Go.Proofs.Ytajfffoaebjnlaa
set_option linter.unusedVariables false
set_option linter.unusedSimpArgs false
open Go.RowKit Go.Shelf
set_option maxRecDepth 100000
set_option maxHeartbeats 8000000
theorem makes_walk (a : Int) (w : World) : Calls Try.prog 5 #[.int .i64 a] w fun e w' => e = .returned (.bool true) ∧ Below w.heap.size w w' := by
  have q := Below.refl w.heap.size w
  by_cases hr : 8 ≤ a ∧ a ≤ 131072 ∧ a % 8 = 0
  case neg =>
    have hr' : a < 8 ∨ 131072 < a ∨ a % 8 ≠ 0 := by omega
    clear hr
    refine X.fn Try.func5 rfl (n := 153) rfl rfl ?_
    refine CC.seq ?_
    refine CC.region ?_
    refine LL.val (R.assign rfl rfl) rfl rfl rfl ?_
    refine LL.nilS ?_
    refine CC.seq ?_
    refine CC.region ?_
    refine LL.val (R.move rfl rfl) rfl rfl rfl ?_
    refine LL.call (R.call rfl rfl rfl) rfl rfl rfl (new_F _ _ (by first | assumption | omega)) ?_
    rintro e W23 ⟨rfl, b22⟩
    refine ⟨_, rfl, ?_⟩
    have zb22 := b22.size
    replace q := q.trans (b22.mono q.size)
    refine LL.val (R.move rfl rfl) rfl rfl rfl ?_
    refine LL.val (R.extract rfl rfl rfl) rfl rfl rfl ?_
    refine LL.val (R.extract rfl rfl rfl) rfl rfl rfl ?_
    refine LL.val (R.assign rfl rfl) rfl rfl rfl ?_
    refine LL.val (R.assign rfl rfl) rfl rfl rfl ?_
    refine LL.nilS ?_
    refine CC.seq ?_
    refine CC.seq ?_
    refine CC.region ?_
    refine LL.val (R.move rfl rfl) rfl rfl rfl ?_
    refine LL.call (R.call rfl rfl rfl) rfl rfl rfl (num_any _ _) ?_
    rintro e W' ⟨rfl, rfl⟩
    refine ⟨_, rfl, ?_⟩
    refine LL.val (R.eqF rfl rfl rfl (by omega)) rfl rfl rfl ?_
    refine LL.val (R.move rfl rfl) rfl rfl rfl ?_
    refine LL.call (R.call rfl rfl rfl) rfl rfl rfl (right_F _ _ (by first | assumption | omega)) ?_
    rintro e W' ⟨rfl, rfl⟩
    refine ⟨_, rfl, ?_⟩
    refine LL.val (R.neBool rfl rfl rfl rfl rfl) rfl rfl rfl ?_
    refine LL.val (R.move rfl rfl) rfl rfl rfl ?_
    refine LL.val (R.move rfl rfl) rfl rfl rfl ?_
    refine LL.call (R.call rfl rfl rfl) rfl rfl rfl (num_any _ _) ?_
    rintro e W' ⟨rfl, rfl⟩
    refine ⟨_, rfl, ?_⟩
    refine LL.val (R.neT rfl rfl rfl (by omega)) rfl rfl rfl ?_
    refine LL.val (R.move rfl rfl) rfl rfl rfl ?_
    refine LL.val (R.move rfl rfl) rfl rfl rfl ?_
    refine LL.call (R.call rfl rfl rfl) rfl rfl rfl (num_any _ _) ?_
    rintro e W' ⟨rfl, rfl⟩
    refine ⟨_, rfl, ?_⟩
    refine LL.val (R.neF rfl rfl rfl (by omega)) rfl rfl rfl ?_
    refine LL.val (R.pick rfl rfl rfl) rfl rfl rfl ?_
    refine LL.val (R.pick rfl rfl rfl) rfl rfl rfl ?_
    refine LL.val (R.move rfl rfl) rfl rfl rfl ?_
    refine LL.val (R.move rfl rfl) rfl rfl rfl ?_
    refine LL.val (R.eqPtr rfl rfl rfl rfl rfl) rfl rfl rfl ?_
    refine LL.val (R.move rfl rfl) rfl rfl rfl ?_
    refine LL.call (R.call rfl rfl rfl) rfl rfl rfl (num_any _ _) ?_
    rintro e W' ⟨rfl, rfl⟩
    refine ⟨_, rfl, ?_⟩
    refine LL.val (R.neT rfl rfl rfl (by omega)) rfl rfl rfl ?_
    refine LL.val (R.neBool rfl rfl rfl rfl rfl) rfl rfl rfl ?_
    refine LL.val (R.pick rfl rfl rfl) rfl rfl rfl ?_
    refine LL.nilS ?_
    refine CC.no rfl ?_
    refine CC.skip ?_
    refine EE.thenN ?_
    refine CC.seq ?_
    refine CC.region ?_
    refine LL.val (R.assign rfl rfl) rfl rfl rfl ?_
    refine LL.nilS ?_
    refine CC.seq ?_
    refine CC.region ?_
    refine LL.val (R.buildV rfl rfl (v := .agg #[Value.slice none 0 0, Value.slice none 0 0, Value.map none]) (fun _ => by kernel_rfl)) rfl rfl rfl ?_
    refine LL.box [Value.slice none 0 0, Value.slice none 0 0, Value.map none] rfl rfl rfl rfl rfl ?_
    intro W250 g251 eg251 r252 z253 b249
    replace b22 := b22.trans (b249.mono b22.size)
    replace q := q.trans (b249.mono q.size)
    refine LL.val (R.assign rfl rfl) rfl rfl rfl ?_
    refine LL.nilS ?_
    refine CC.seq ?_
    refine CC.region ?_
    refine LL.val (R.move rfl rfl) rfl rfl rfl ?_
    refine LL.call (R.call rfl rfl rfl) rfl rfl rfl (load_0 _ _) ?_
    rintro e W279 ⟨rfl, b278⟩
    refine ⟨_, rfl, ?_⟩
    have zb278 := b278.size
    replace r252 := r252.up b278
    replace b249 := b249.trans (b278.mono b249.size)
    replace b22 := b22.trans (b278.mono b22.size)
    replace q := q.trans (b278.mono q.size)
    refine LL.val (R.move rfl rfl) rfl rfl rfl ?_
    refine LL.val (R.extract rfl rfl rfl) rfl rfl rfl ?_
    refine LL.val (R.extract rfl rfl rfl) rfl rfl rfl ?_
    refine LL.val (R.assign rfl rfl) rfl rfl rfl ?_
    refine LL.val (R.assign rfl rfl) rfl rfl rfl ?_
    refine LL.nilS ?_
    refine CC.seq ?_
    refine CC.region ?_
    refine LL.val (R.move rfl rfl) rfl rfl rfl ?_
    refine LL.call (R.call rfl rfl rfl) rfl rfl rfl (load_Z _ _ _ (by first | assumption | omega)) ?_
    rintro e W338 ⟨rfl, b337⟩
    refine ⟨_, rfl, ?_⟩
    have zb337 := b337.size
    replace b278 := b278.trans (b337.mono b278.size)
    replace r252 := r252.up b337
    replace b249 := b249.trans (b337.mono b249.size)
    replace b22 := b22.trans (b337.mono b22.size)
    replace q := q.trans (b337.mono q.size)
    refine LL.val (R.move rfl rfl) rfl rfl rfl ?_
    refine LL.val (R.extract rfl rfl rfl) rfl rfl rfl ?_
    refine LL.val (R.extract rfl rfl rfl) rfl rfl rfl ?_
    refine LL.val (R.assign rfl rfl) rfl rfl rfl ?_
    refine LL.val (R.assign rfl rfl) rfl rfl rfl ?_
    refine LL.nilS ?_
    refine CC.seq ?_
    refine CC.region ?_
    refine LL.val (R.move rfl rfl) rfl rfl rfl ?_
    refine LL.call (R.call rfl rfl rfl) rfl rfl rfl (crash_0 _ _) ?_
    rintro e W397 ⟨rfl, b396⟩
    refine ⟨_, rfl, ?_⟩
    have zb396 := b396.size
    replace b337 := b337.trans (b396.mono b337.size)
    replace b278 := b278.trans (b396.mono b278.size)
    replace r252 := r252.up b396
    replace b249 := b249.trans (b396.mono b249.size)
    replace b22 := b22.trans (b396.mono b22.size)
    replace q := q.trans (b396.mono q.size)
    refine LL.val (R.move rfl rfl) rfl rfl rfl ?_
    refine LL.val (R.extract rfl rfl rfl) rfl rfl rfl ?_
    refine LL.val (R.extract rfl rfl rfl) rfl rfl rfl ?_
    refine LL.val (R.assign rfl rfl) rfl rfl rfl ?_
    refine LL.val (R.assign rfl rfl) rfl rfl rfl ?_
    refine LL.nilS ?_
    refine CC.seq ?_
    refine CC.region ?_
    have l443 := r252.lt
    (refine LL.makeE (l := 12) (m := 12) ElU rfl (by decide) rfl rfl rfl (Nat.le_refl _) (by omega) (by omega) rfl rfl ?_; intro W442 g1 eg1 r1 zg1 b439)
    have zb439 := b439.size
    replace b396 := b396.trans (b439.mono b396.size)
    replace b337 := b337.trans (b439.mono b337.size)
    replace b278 := b278.trans (b439.mono b278.size)
    replace r252 := r252.up b439
    replace b249 := b249.trans (b439.mono b249.size)
    replace b22 := b22.trans (b439.mono b22.size)
    replace q := q.trans (b439.mono q.size)
    refine LL.call (R.call rfl rfl rfl) rfl rfl rfl (of_F _ _ _ _ (by first | assumption | omega) (by first | assumption | omega)) ?_
    rintro e W457 ⟨rfl, b456⟩
    refine ⟨_, rfl, ?_⟩
    have zb456 := b456.size
    replace r1 := r1.up b456
    replace b439 := b439.trans (b456.mono b439.size)
    replace b396 := b396.trans (b456.mono b396.size)
    replace b337 := b337.trans (b456.mono b337.size)
    replace b278 := b278.trans (b456.mono b278.size)
    replace r252 := r252.up b456
    replace b249 := b249.trans (b456.mono b249.size)
    replace b22 := b22.trans (b456.mono b22.size)
    replace q := q.trans (b456.mono q.size)
    refine LL.val (R.move rfl rfl) rfl rfl rfl ?_
    refine LL.val (R.extract rfl rfl rfl) rfl rfl rfl ?_
    refine LL.val (R.extract rfl rfl rfl) rfl rfl rfl ?_
    refine LL.val (R.assign rfl rfl) rfl rfl rfl ?_
    refine LL.val (R.assign rfl rfl) rfl rfl rfl ?_
    refine LL.nilS ?_
    refine CC.seq ?_
    refine CC.seq ?_
    refine CC.region ?_
    refine LL.val (R.move rfl rfl) rfl rfl rfl ?_
    refine LL.call (R.call rfl rfl rfl) rfl rfl rfl (num_any _ _) ?_
    rintro e W' ⟨rfl, rfl⟩
    refine ⟨_, rfl, ?_⟩
    refine LL.val (R.move rfl rfl) rfl rfl rfl ?_
    refine LL.call (R.call rfl rfl rfl) rfl rfl rfl (num_any _ _) ?_
    rintro e W' ⟨rfl, rfl⟩
    refine ⟨_, rfl, ?_⟩
    refine LL.val (R.mulIz (z := 1) rfl rfl rfl (by decide) (by decide)) rfl rfl rfl ?_
    refine LL.val (R.move rfl rfl) rfl rfl rfl ?_
    refine LL.call (R.call rfl rfl rfl) rfl rfl rfl (num_any _ _) ?_
    rintro e W' ⟨rfl, rfl⟩
    refine ⟨_, rfl, ?_⟩
    refine LL.val (R.mulIz (z := 1) rfl rfl rfl (by decide) (by decide)) rfl rfl rfl ?_
    refine LL.val (R.move rfl rfl) rfl rfl rfl ?_
    refine LL.call (R.call rfl rfl rfl) rfl rfl rfl (store_0 _ _ _) ?_
    rintro e W595 ⟨rfl, b594⟩
    refine ⟨_, rfl, ?_⟩
    have zb594 := b594.size
    replace b456 := b456.trans (b594.mono b456.size)
    replace r1 := r1.up b594
    replace b439 := b439.trans (b594.mono b439.size)
    replace b396 := b396.trans (b594.mono b396.size)
    replace b337 := b337.trans (b594.mono b337.size)
    replace b278 := b278.trans (b594.mono b278.size)
    replace r252 := r252.up b594
    replace b249 := b249.trans (b594.mono b249.size)
    replace b22 := b22.trans (b594.mono b22.size)
    replace q := q.trans (b594.mono q.size)
    refine LL.call (R.call rfl rfl rfl) rfl rfl rfl (num_any _ _) ?_
    rintro e W' ⟨rfl, rfl⟩
    refine ⟨_, rfl, ?_⟩
    refine LL.val (R.mulIz (z := 1) rfl rfl rfl (by decide) (by decide)) rfl rfl rfl ?_
    refine LL.val (R.move rfl rfl) rfl rfl rfl ?_
    refine LL.call (R.call rfl rfl rfl) rfl rfl rfl (flush_Z _ _ _ (by first | assumption | omega)) ?_
    rintro e W634 ⟨rfl, b633⟩
    refine ⟨_, rfl, ?_⟩
    have zb633 := b633.size
    replace b594 := b594.trans (b633.mono b594.size)
    replace b456 := b456.trans (b633.mono b456.size)
    replace r1 := r1.up b633
    replace b439 := b439.trans (b633.mono b439.size)
    replace b396 := b396.trans (b633.mono b396.size)
    replace b337 := b337.trans (b633.mono b337.size)
    replace b278 := b278.trans (b633.mono b278.size)
    replace r252 := r252.up b633
    replace b249 := b249.trans (b633.mono b249.size)
    replace b22 := b22.trans (b633.mono b22.size)
    replace q := q.trans (b633.mono q.size)
    refine LL.call (R.call rfl rfl rfl) rfl rfl rfl (num_any _ _) ?_
    rintro e W' ⟨rfl, rfl⟩
    refine ⟨_, rfl, ?_⟩
    refine LL.val (R.mulIz (z := 1) rfl rfl rfl (by decide) (by decide)) rfl rfl rfl ?_
    refine LL.val (R.move rfl rfl) rfl rfl rfl ?_
    refine LL.call (R.call rfl rfl rfl) rfl rfl rfl (fence_0 _) ?_
    rintro e W673 ⟨rfl, b672⟩
    refine ⟨_, rfl, ?_⟩
    have zb672 := b672.size
    replace b633 := b633.trans (b672.mono b633.size)
    replace b594 := b594.trans (b672.mono b594.size)
    replace b456 := b456.trans (b672.mono b456.size)
    replace r1 := r1.up b672
    replace b439 := b439.trans (b672.mono b439.size)
    replace b396 := b396.trans (b672.mono b396.size)
    replace b337 := b337.trans (b672.mono b337.size)
    replace b278 := b278.trans (b672.mono b278.size)
    replace r252 := r252.up b672
    replace b249 := b249.trans (b672.mono b249.size)
    replace b22 := b22.trans (b672.mono b22.size)
    replace q := q.trans (b672.mono q.size)
    refine LL.call (R.call rfl rfl rfl) rfl rfl rfl (num_any _ _) ?_
    rintro e W' ⟨rfl, rfl⟩
    refine ⟨_, rfl, ?_⟩
    refine LL.val (R.mulIz (z := 1) rfl rfl rfl (by decide) (by decide)) rfl rfl rfl ?_
    refine LL.val (R.move rfl rfl) rfl rfl rfl ?_
    refine LL.call (R.call rfl rfl rfl) rfl rfl rfl (evict_Z _ _ _ (by first | assumption | omega)) ?_
    rintro e W712 ⟨rfl, b711⟩
    refine ⟨_, rfl, ?_⟩
    have zb711 := b711.size
    replace b672 := b672.trans (b711.mono b672.size)
    replace b633 := b633.trans (b711.mono b633.size)
    replace b594 := b594.trans (b711.mono b594.size)
    replace b456 := b456.trans (b711.mono b456.size)
    replace r1 := r1.up b711
    replace b439 := b439.trans (b711.mono b439.size)
    replace b396 := b396.trans (b711.mono b396.size)
    replace b337 := b337.trans (b711.mono b337.size)
    replace b278 := b278.trans (b711.mono b278.size)
    replace r252 := r252.up b711
    replace b249 := b249.trans (b711.mono b249.size)
    replace b22 := b22.trans (b711.mono b22.size)
    replace q := q.trans (b711.mono q.size)
    refine LL.call (R.call rfl rfl rfl) rfl rfl rfl (num_any _ _) ?_
    rintro e W' ⟨rfl, rfl⟩
    refine ⟨_, rfl, ?_⟩
    refine LL.val (R.mulIz (z := 1) rfl rfl rfl (by decide) (by decide)) rfl rfl rfl ?_
    refine LL.val (R.neF rfl rfl rfl (by omega)) rfl rfl rfl ?_
    refine LL.val (R.move rfl rfl) rfl rfl rfl ?_
    refine LL.val (R.move rfl rfl) rfl rfl rfl ?_
    refine LL.val (R.nePtr rfl rfl rfl rfl rfl) rfl rfl rfl ?_
    refine LL.val (R.pick rfl rfl rfl) rfl rfl rfl ?_
    refine LL.val (R.move rfl rfl) rfl rfl rfl ?_
    refine LL.val (R.move rfl rfl) rfl rfl rfl ?_
    refine LL.call (R.call rfl rfl rfl) rfl rfl rfl (num_any _ _) ?_
    rintro e W' ⟨rfl, rfl⟩
    refine ⟨_, rfl, ?_⟩
    refine LL.val (R.neF rfl rfl rfl (by omega)) rfl rfl rfl ?_
    refine LL.val (R.pick rfl rfl rfl) rfl rfl rfl ?_
    refine LL.nilS ?_
    refine CC.no rfl ?_
    refine CC.skip ?_
    refine EE.thenN ?_
    refine CC.seq ?_
    refine CC.region ?_
    refine LL.val (R.move rfl rfl) rfl rfl rfl ?_
    refine LL.call (R.call rfl rfl rfl) rfl rfl rfl (opens_0 _) ?_
    rintro e W841 ⟨v842, k843, rfl, b840⟩
    refine ⟨_, rfl, ?_⟩
    have zb840 := b840.size
    replace b711 := b711.trans (b840.mono b711.size)
    replace b672 := b672.trans (b840.mono b672.size)
    replace b633 := b633.trans (b840.mono b633.size)
    replace b594 := b594.trans (b840.mono b594.size)
    replace b456 := b456.trans (b840.mono b456.size)
    replace r1 := r1.up b840
    replace b439 := b439.trans (b840.mono b439.size)
    replace b396 := b396.trans (b840.mono b396.size)
    replace b337 := b337.trans (b840.mono b337.size)
    replace b278 := b278.trans (b840.mono b278.size)
    replace r252 := r252.up b840
    replace b249 := b249.trans (b840.mono b249.size)
    replace b22 := b22.trans (b840.mono b22.size)
    replace q := q.trans (b840.mono q.size)
    refine LL.val (R.len rfl rfl rfl rfl) rfl rfl rfl ?_
    refine LL.val (R.move rfl rfl) rfl rfl rfl ?_
    refine LL.call (R.call rfl rfl rfl) rfl rfl rfl (len_0 _) ?_
    rintro e W' ⟨rfl, rfl⟩
    refine ⟨_, rfl, ?_⟩
    refine LL.val (R.addIz (z := 0) rfl rfl rfl (by decide) (by decide)) rfl rfl rfl ?_
    refine LL.val (R.move rfl rfl) rfl rfl rfl ?_
    refine LL.call (R.call rfl rfl rfl) rfl rfl rfl (len_Z _ _ (by first | assumption | omega)) ?_
    rintro e W' ⟨rfl, rfl⟩
    refine ⟨_, rfl, ?_⟩
    refine LL.val (R.addIz (z := 0) rfl rfl rfl (by decide) (by decide)) rfl rfl rfl ?_
    refine LL.val (R.move rfl rfl) rfl rfl rfl ?_
    refine LL.call (R.call rfl rfl rfl) rfl rfl rfl (image_0 _) ?_
    rintro e W' ⟨rfl, rfl⟩
    refine ⟨_, rfl, ?_⟩
    refine LL.val (R.len rfl rfl rfl rfl) rfl rfl rfl ?_
    refine LL.val (R.addIz (z := 0) rfl rfl rfl (by decide) (by decide)) rfl rfl rfl ?_
    refine LL.val (R.move rfl rfl) rfl rfl rfl ?_
    refine LL.call (R.call rfl rfl rfl) rfl rfl rfl (lasting_Z _ _ (by first | assumption | omega)) ?_
    rintro e W' ⟨rfl, rfl⟩
    refine ⟨_, rfl, ?_⟩
    refine LL.val (R.len rfl rfl rfl rfl) rfl rfl rfl ?_
    refine LL.val (R.addIz (z := 0) rfl rfl rfl (by decide) (by decide)) rfl rfl rfl ?_
    refine LL.val (R.eqT rfl rfl rfl (by omega)) rfl rfl rfl ?_
    refine LL.val (R.move rfl rfl) rfl rfl rfl ?_
    refine LL.val (R.move rfl rfl) rfl rfl rfl ?_
    refine LL.call (R.call rfl rfl rfl) rfl rfl rfl (copy_0 _) ?_
    rintro e W' ⟨rfl, rfl⟩
    refine ⟨_, rfl, ?_⟩
    refine LL.val (R.eqPtr rfl rfl rfl rfl rfl) rfl rfl rfl ?_
    refine LL.val (R.pick rfl rfl rfl) rfl rfl rfl ?_
    refine LL.val (R.move rfl rfl) rfl rfl rfl ?_
    refine LL.val (R.move rfl rfl) rfl rfl rfl ?_
    refine LL.val (R.move rfl rfl) rfl rfl rfl ?_
    refine LL.call (R.call rfl rfl rfl) rfl rfl rfl (same_0Z _ _ (by first | assumption | omega)) ?_
    rintro e W' ⟨rfl, rfl⟩
    refine ⟨_, rfl, ?_⟩
    refine LL.val (R.pick rfl rfl rfl) rfl rfl rfl ?_
    refine LL.val (R.move rfl rfl) rfl rfl rfl ?_
    refine LL.val (R.move rfl rfl) rfl rfl rfl ?_
    refine LL.val (R.eqPtr rfl rfl rfl rfl rfl) rfl rfl rfl ?_
    refine LL.val (R.move rfl rfl) rfl rfl rfl ?_
    refine LL.skip rfl rfl ?_
    refine LL.skip rfl rfl ?_
    refine LL.skip rfl rfl ?_
    refine LL.skip rfl rfl ?_
    refine LL.skip rfl rfl ?_
    refine LL.skip rfl rfl ?_
    refine LL.skip rfl rfl ?_
    refine LL.skip rfl rfl ?_
    refine LL.skip rfl rfl ?_
    refine LL.skip rfl rfl ?_
    refine LL.skip rfl rfl ?_
    refine LL.skip rfl rfl ?_
    refine LL.skip rfl rfl ?_
    refine LL.skip rfl rfl ?_
    refine LL.skip rfl rfl ?_
    refine LL.skip rfl rfl ?_
    refine LL.val (R.pick rfl rfl rfl) rfl rfl rfl ?_
    refine LL.val (R.pick rfl rfl rfl) rfl rfl rfl ?_
    refine LL.val (R.move rfl rfl) rfl rfl rfl ?_
    refine LL.call (R.call rfl rfl rfl) rfl rfl rfl (works_any _) ?_
    rintro e W1152 ⟨rfl, b1151⟩
    refine ⟨_, rfl, ?_⟩
    have zb1151 := b1151.size
    replace b840 := b840.trans (b1151.mono b840.size)
    replace b711 := b711.trans (b1151.mono b711.size)
    replace b672 := b672.trans (b1151.mono b672.size)
    replace b633 := b633.trans (b1151.mono b633.size)
    replace b594 := b594.trans (b1151.mono b594.size)
    replace b456 := b456.trans (b1151.mono b456.size)
    replace r1 := r1.up b1151
    replace b439 := b439.trans (b1151.mono b439.size)
    replace b396 := b396.trans (b1151.mono b396.size)
    replace b337 := b337.trans (b1151.mono b337.size)
    replace b278 := b278.trans (b1151.mono b278.size)
    replace r252 := r252.up b1151
    replace b249 := b249.trans (b1151.mono b249.size)
    replace b22 := b22.trans (b1151.mono b22.size)
    replace q := q.trans (b1151.mono q.size)
    refine LL.val (R.pick rfl rfl rfl) rfl rfl rfl ?_
    refine LL.val (R.assign rfl rfl) rfl rfl rfl ?_
    refine LL.nilS ?_
    refine CC.ret ?_
    refine EE.ret _ rfl rfl ?_
    exact ⟨rfl, q⟩
  obtain ⟨N, rfl⟩ : ∃ N : Nat, a = ((N * 8 : Nat) : Int) := ⟨(a / 8).toNat, by omega⟩
  have h0 : 0 < N := by omega
  have hN : N ≤ 16384 := by omega
  refine X.fn Try.func5 rfl (n := 153) rfl rfl ?_
  refine CC.seq ?_
  refine CC.region ?_
  refine LL.val (R.assign rfl rfl) rfl rfl rfl ?_
  refine LL.nilS ?_
  refine CC.seq ?_
  refine CC.region ?_
  refine LL.val (R.move rfl rfl) rfl rfl rfl ?_
  (refine LL.call (R.call rfl rfl rfl) rfl rfl rfl (new_T N _ _ rfl h0 hN) ?_; rintro e Wa39 ⟨m, gn, gl, qb, rfl, M, lm, ln, ll, lq, ba36⟩; refine ⟨_, rfl, ?_⟩; have lts := M.lts)
  have zba36 := ba36.size
  replace q := q.trans (ba36.mono q.size)
  refine LL.val (R.move rfl rfl) rfl rfl rfl ?_
  refine LL.val (R.extract rfl rfl rfl) rfl rfl rfl ?_
  refine LL.val (R.extract rfl rfl rfl) rfl rfl rfl ?_
  refine LL.val (R.assign rfl rfl) rfl rfl rfl ?_
  refine LL.val (R.assign rfl rfl) rfl rfl rfl ?_
  refine LL.nilS ?_
  refine CC.seq ?_
  refine CC.seq ?_
  refine CC.region ?_
  refine LL.val (R.move rfl rfl) rfl rfl rfl ?_
  refine LL.call (R.call rfl rfl rfl) rfl rfl rfl (num_any _ _) ?_
  rintro e W' ⟨rfl, rfl⟩
  refine ⟨_, rfl, ?_⟩
  refine LL.val (R.eqT rfl rfl rfl (by omega)) rfl rfl rfl ?_
  refine LL.val (R.move rfl rfl) rfl rfl rfl ?_
  refine LL.call (R.call rfl rfl rfl) rfl rfl rfl (right_T _ _ (by first | assumption | omega)) ?_
  rintro e W' ⟨rfl, rfl⟩
  refine ⟨_, rfl, ?_⟩
  refine LL.val (R.neBool rfl rfl rfl rfl rfl) rfl rfl rfl ?_
  refine LL.val (R.move rfl rfl) rfl rfl rfl ?_
  refine LL.val (R.move rfl rfl) rfl rfl rfl ?_
  refine LL.call (R.call rfl rfl rfl) rfl rfl rfl (num_any _ _) ?_
  rintro e W' ⟨rfl, rfl⟩
  refine ⟨_, rfl, ?_⟩
  refine LL.val (R.neF rfl rfl rfl (by omega)) rfl rfl rfl ?_
  refine LL.val (R.move rfl rfl) rfl rfl rfl ?_
  refine LL.skip rfl rfl ?_
  refine LL.skip rfl rfl ?_
  refine LL.skip rfl rfl ?_
  refine LL.val (R.pick rfl rfl rfl) rfl rfl rfl ?_
  refine LL.val (R.pick rfl rfl rfl) rfl rfl rfl ?_
  refine LL.val (R.move rfl rfl) rfl rfl rfl ?_
  refine LL.val (R.move rfl rfl) rfl rfl rfl ?_
  refine LL.val (R.eqPtr rfl rfl rfl rfl rfl) rfl rfl rfl ?_
  refine LL.val (R.move rfl rfl) rfl rfl rfl ?_
  refine LL.call (R.call rfl rfl rfl) rfl rfl rfl (num_any _ _) ?_
  rintro e W' ⟨rfl, rfl⟩
  refine ⟨_, rfl, ?_⟩
  refine LL.val (R.neF rfl rfl rfl (by omega)) rfl rfl rfl ?_
  refine LL.val (R.neBool rfl rfl rfl rfl rfl) rfl rfl rfl ?_
  refine LL.val (R.pick rfl rfl rfl) rfl rfl rfl ?_
  refine LL.nilS ?_
  refine CC.no rfl ?_
  refine CC.skip ?_
  refine EE.thenN ?_
  refine CC.seq ?_
  refine CC.region ?_
  refine LL.val (R.assign rfl rfl) rfl rfl rfl ?_
  refine LL.nilS ?_
  refine CC.seq ?_
  refine CC.region ?_
  refine LL.val (R.buildV rfl rfl (v := .agg #[Value.slice none 0 0, Value.slice none 0 0, Value.map none]) (fun _ => by kernel_rfl)) rfl rfl rfl ?_
  refine LL.box [Value.slice none 0 0, Value.slice none 0 0, Value.map none] rfl rfl rfl rfl rfl ?_
  intro Wa450 ga451 ega451 ra452 za453 ba449
  replace M := M.up ba449
  replace ba36 := ba36.trans (ba449.mono ba36.size)
  replace q := q.trans (ba449.mono q.size)
  refine LL.val (R.assign rfl rfl) rfl rfl rfl ?_
  refine LL.nilS ?_
  refine CC.seq ?_
  refine CC.region ?_
  refine LL.val (R.move rfl rfl) rfl rfl rfl ?_
  refine LL.call (R.call rfl rfl rfl) rfl rfl rfl (load_0 _ _) ?_
  rintro e Wa503 ⟨rfl, ba502⟩
  refine ⟨_, rfl, ?_⟩
  have zba502 := ba502.size
  replace ra452 := ra452.up ba502
  replace ba449 := ba449.trans (ba502.mono ba449.size)
  replace M := M.up ba502
  replace ba36 := ba36.trans (ba502.mono ba36.size)
  replace q := q.trans (ba502.mono q.size)
  refine LL.val (R.move rfl rfl) rfl rfl rfl ?_
  refine LL.val (R.extract rfl rfl rfl) rfl rfl rfl ?_
  refine LL.val (R.extract rfl rfl rfl) rfl rfl rfl ?_
  refine LL.val (R.assign rfl rfl) rfl rfl rfl ?_
  refine LL.val (R.assign rfl rfl) rfl rfl rfl ?_
  refine LL.nilS ?_
  refine CC.seq ?_
  refine CC.region ?_
  refine LL.val (R.move rfl rfl) rfl rfl rfl ?_
  refine LL.call (R.call rfl rfl rfl) rfl rfl rfl (load_Z _ _ _ (by first | assumption | omega)) ?_
  rintro e Wa618 ⟨rfl, ba617⟩
  refine ⟨_, rfl, ?_⟩
  have zba617 := ba617.size
  replace ba502 := ba502.trans (ba617.mono ba502.size)
  replace ra452 := ra452.up ba617
  replace ba449 := ba449.trans (ba617.mono ba449.size)
  replace M := M.up ba617
  replace ba36 := ba36.trans (ba617.mono ba36.size)
  replace q := q.trans (ba617.mono q.size)
  refine LL.val (R.move rfl rfl) rfl rfl rfl ?_
  refine LL.val (R.extract rfl rfl rfl) rfl rfl rfl ?_
  refine LL.val (R.extract rfl rfl rfl) rfl rfl rfl ?_
  refine LL.val (R.assign rfl rfl) rfl rfl rfl ?_
  refine LL.val (R.assign rfl rfl) rfl rfl rfl ?_
  refine LL.nilS ?_
  refine CC.seq ?_
  refine CC.region ?_
  refine LL.val (R.move rfl rfl) rfl rfl rfl ?_
  refine LL.call (R.call rfl rfl rfl) rfl rfl rfl (crash_0 _ _) ?_
  rintro e Wa733 ⟨rfl, ba732⟩
  refine ⟨_, rfl, ?_⟩
  have zba732 := ba732.size
  replace ba617 := ba617.trans (ba732.mono ba617.size)
  replace ba502 := ba502.trans (ba732.mono ba502.size)
  replace ra452 := ra452.up ba732
  replace ba449 := ba449.trans (ba732.mono ba449.size)
  replace M := M.up ba732
  replace ba36 := ba36.trans (ba732.mono ba36.size)
  replace q := q.trans (ba732.mono q.size)
  refine LL.val (R.move rfl rfl) rfl rfl rfl ?_
  refine LL.val (R.extract rfl rfl rfl) rfl rfl rfl ?_
  refine LL.val (R.extract rfl rfl rfl) rfl rfl rfl ?_
  refine LL.val (R.assign rfl rfl) rfl rfl rfl ?_
  refine LL.val (R.assign rfl rfl) rfl rfl rfl ?_
  refine LL.nilS ?_
  refine CC.seq ?_
  refine CC.region ?_
  have la819 := ra452.lt
  (refine LL.makeE (l := 12) (m := 12) ElU rfl (by decide) rfl rfl rfl (Nat.le_refl _) (by omega) (by omega) rfl rfl ?_; intro Wa818 g1 eg1 r1 zg1 ba815)
  have zba815 := ba815.size
  replace ba732 := ba732.trans (ba815.mono ba732.size)
  replace ba617 := ba617.trans (ba815.mono ba617.size)
  replace ba502 := ba502.trans (ba815.mono ba502.size)
  replace ra452 := ra452.up ba815
  replace ba449 := ba449.trans (ba815.mono ba449.size)
  replace M := M.up ba815
  replace ba36 := ba36.trans (ba815.mono ba36.size)
  replace q := q.trans (ba815.mono q.size)
  refine LL.call (R.call rfl rfl rfl) rfl rfl rfl (of_F _ _ _ _ (by first | assumption | omega) (by first | assumption | omega)) ?_
  rintro e Wa842 ⟨rfl, ba841⟩
  refine ⟨_, rfl, ?_⟩
  have zba841 := ba841.size
  replace r1 := r1.up ba841
  replace ba815 := ba815.trans (ba841.mono ba815.size)
  replace ba732 := ba732.trans (ba841.mono ba732.size)
  replace ba617 := ba617.trans (ba841.mono ba617.size)
  replace ba502 := ba502.trans (ba841.mono ba502.size)
  replace ra452 := ra452.up ba841
  replace ba449 := ba449.trans (ba841.mono ba449.size)
  replace M := M.up ba841
  replace ba36 := ba36.trans (ba841.mono ba36.size)
  replace q := q.trans (ba841.mono q.size)
  refine LL.val (R.move rfl rfl) rfl rfl rfl ?_
  refine LL.val (R.extract rfl rfl rfl) rfl rfl rfl ?_
  refine LL.val (R.extract rfl rfl rfl) rfl rfl rfl ?_
  refine LL.val (R.assign rfl rfl) rfl rfl rfl ?_
  refine LL.val (R.assign rfl rfl) rfl rfl rfl ?_
  refine LL.nilS ?_
  refine CC.seq ?_
  refine CC.seq ?_
  refine CC.region ?_
  refine LL.val (R.move rfl rfl) rfl rfl rfl ?_
  refine LL.call (R.call rfl rfl rfl) rfl rfl rfl (num_any _ _) ?_
  rintro e W' ⟨rfl, rfl⟩
  refine ⟨_, rfl, ?_⟩
  refine LL.val (R.move rfl rfl) rfl rfl rfl ?_
  refine LL.call (R.call rfl rfl rfl) rfl rfl rfl (num_any _ _) ?_
  rintro e W' ⟨rfl, rfl⟩
  refine ⟨_, rfl, ?_⟩
  refine LL.val (R.mulIz (z := 1) rfl rfl rfl (by decide) (by decide)) rfl rfl rfl ?_
  refine LL.val (R.move rfl rfl) rfl rfl rfl ?_
  refine LL.call (R.call rfl rfl rfl) rfl rfl rfl (num_any _ _) ?_
  rintro e W' ⟨rfl, rfl⟩
  refine ⟨_, rfl, ?_⟩
  refine LL.val (R.mulIz (z := 1) rfl rfl rfl (by decide) (by decide)) rfl rfl rfl ?_
  refine LL.val (R.move rfl rfl) rfl rfl rfl ?_
  refine LL.call (R.call rfl rfl rfl) rfl rfl rfl (store_0 _ _ _) ?_
  rintro e Wa1115 ⟨rfl, ba1114⟩
  refine ⟨_, rfl, ?_⟩
  have zba1114 := ba1114.size
  replace ba841 := ba841.trans (ba1114.mono ba841.size)
  replace r1 := r1.up ba1114
  replace ba815 := ba815.trans (ba1114.mono ba815.size)
  replace ba732 := ba732.trans (ba1114.mono ba732.size)
  replace ba617 := ba617.trans (ba1114.mono ba617.size)
  replace ba502 := ba502.trans (ba1114.mono ba502.size)
  replace ra452 := ra452.up ba1114
  replace ba449 := ba449.trans (ba1114.mono ba449.size)
  replace M := M.up ba1114
  replace ba36 := ba36.trans (ba1114.mono ba36.size)
  replace q := q.trans (ba1114.mono q.size)
  refine LL.call (R.call rfl rfl rfl) rfl rfl rfl (num_any _ _) ?_
  rintro e W' ⟨rfl, rfl⟩
  refine ⟨_, rfl, ?_⟩
  refine LL.val (R.mulIz (z := 1) rfl rfl rfl (by decide) (by decide)) rfl rfl rfl ?_
  refine LL.val (R.move rfl rfl) rfl rfl rfl ?_
  refine LL.call (R.call rfl rfl rfl) rfl rfl rfl (flush_Z _ _ _ (by first | assumption | omega)) ?_
  rintro e Wa1190 ⟨rfl, ba1189⟩
  refine ⟨_, rfl, ?_⟩
  have zba1189 := ba1189.size
  replace ba1114 := ba1114.trans (ba1189.mono ba1114.size)
  replace ba841 := ba841.trans (ba1189.mono ba841.size)
  replace r1 := r1.up ba1189
  replace ba815 := ba815.trans (ba1189.mono ba815.size)
  replace ba732 := ba732.trans (ba1189.mono ba732.size)
  replace ba617 := ba617.trans (ba1189.mono ba617.size)
  replace ba502 := ba502.trans (ba1189.mono ba502.size)
  replace ra452 := ra452.up ba1189
  replace ba449 := ba449.trans (ba1189.mono ba449.size)
  replace M := M.up ba1189
  replace ba36 := ba36.trans (ba1189.mono ba36.size)
  replace q := q.trans (ba1189.mono q.size)
  refine LL.call (R.call rfl rfl rfl) rfl rfl rfl (num_any _ _) ?_
  rintro e W' ⟨rfl, rfl⟩
  refine ⟨_, rfl, ?_⟩
  refine LL.val (R.mulIz (z := 1) rfl rfl rfl (by decide) (by decide)) rfl rfl rfl ?_
  refine LL.val (R.move rfl rfl) rfl rfl rfl ?_
  refine LL.call (R.call rfl rfl rfl) rfl rfl rfl (fence_0 _) ?_
  rintro e Wa1265 ⟨rfl, ba1264⟩
  refine ⟨_, rfl, ?_⟩
  have zba1264 := ba1264.size
  replace ba1189 := ba1189.trans (ba1264.mono ba1189.size)
  replace ba1114 := ba1114.trans (ba1264.mono ba1114.size)
  replace ba841 := ba841.trans (ba1264.mono ba841.size)
  replace r1 := r1.up ba1264
  replace ba815 := ba815.trans (ba1264.mono ba815.size)
  replace ba732 := ba732.trans (ba1264.mono ba732.size)
  replace ba617 := ba617.trans (ba1264.mono ba617.size)
  replace ba502 := ba502.trans (ba1264.mono ba502.size)
  replace ra452 := ra452.up ba1264
  replace ba449 := ba449.trans (ba1264.mono ba449.size)
  replace M := M.up ba1264
  replace ba36 := ba36.trans (ba1264.mono ba36.size)
  replace q := q.trans (ba1264.mono q.size)
  refine LL.call (R.call rfl rfl rfl) rfl rfl rfl (num_any _ _) ?_
  rintro e W' ⟨rfl, rfl⟩
  refine ⟨_, rfl, ?_⟩
  refine LL.val (R.mulIz (z := 1) rfl rfl rfl (by decide) (by decide)) rfl rfl rfl ?_
  refine LL.val (R.move rfl rfl) rfl rfl rfl ?_
  refine LL.call (R.call rfl rfl rfl) rfl rfl rfl (evict_Z _ _ _ (by first | assumption | omega)) ?_
  rintro e Wa1340 ⟨rfl, ba1339⟩
  refine ⟨_, rfl, ?_⟩
  have zba1339 := ba1339.size
  replace ba1264 := ba1264.trans (ba1339.mono ba1264.size)
  replace ba1189 := ba1189.trans (ba1339.mono ba1189.size)
  replace ba1114 := ba1114.trans (ba1339.mono ba1114.size)
  replace ba841 := ba841.trans (ba1339.mono ba841.size)
  replace r1 := r1.up ba1339
  replace ba815 := ba815.trans (ba1339.mono ba815.size)
  replace ba732 := ba732.trans (ba1339.mono ba732.size)
  replace ba617 := ba617.trans (ba1339.mono ba617.size)
  replace ba502 := ba502.trans (ba1339.mono ba502.size)
  replace ra452 := ra452.up ba1339
  replace ba449 := ba449.trans (ba1339.mono ba449.size)
  replace M := M.up ba1339
  replace ba36 := ba36.trans (ba1339.mono ba36.size)
  replace q := q.trans (ba1339.mono q.size)
  refine LL.call (R.call rfl rfl rfl) rfl rfl rfl (num_any _ _) ?_
  rintro e W' ⟨rfl, rfl⟩
  refine ⟨_, rfl, ?_⟩
  refine LL.val (R.mulIz (z := 1) rfl rfl rfl (by decide) (by decide)) rfl rfl rfl ?_
  refine LL.val (R.neF rfl rfl rfl (by omega)) rfl rfl rfl ?_
  refine LL.val (R.move rfl rfl) rfl rfl rfl ?_
  refine LL.val (R.move rfl rfl) rfl rfl rfl ?_
  refine LL.val (R.nePtr rfl rfl rfl rfl rfl) rfl rfl rfl ?_
  refine LL.val (R.pick rfl rfl rfl) rfl rfl rfl ?_
  refine LL.val (R.move rfl rfl) rfl rfl rfl ?_
  refine LL.val (R.move rfl rfl) rfl rfl rfl ?_
  refine LL.call (R.call rfl rfl rfl) rfl rfl rfl (num_any _ _) ?_
  rintro e W' ⟨rfl, rfl⟩
  refine ⟨_, rfl, ?_⟩
  refine LL.val (R.neF rfl rfl rfl (by omega)) rfl rfl rfl ?_
  refine LL.val (R.pick rfl rfl rfl) rfl rfl rfl ?_
  refine LL.nilS ?_
  refine CC.no rfl ?_
  refine CC.skip ?_
  refine EE.thenN ?_
  refine CC.seq ?_
  refine CC.region ?_
  refine LL.val (R.move rfl rfl) rfl rfl rfl ?_
  refine LL.call (R.call rfl rfl rfl) rfl rfl rfl (opens_0 _) ?_
  rintro e Wa1595 ⟨va1596, ka1597, rfl, ba1594⟩
  refine ⟨_, rfl, ?_⟩
  have zba1594 := ba1594.size
  replace ba1339 := ba1339.trans (ba1594.mono ba1339.size)
  replace ba1264 := ba1264.trans (ba1594.mono ba1264.size)
  replace ba1189 := ba1189.trans (ba1594.mono ba1189.size)
  replace ba1114 := ba1114.trans (ba1594.mono ba1114.size)
  replace ba841 := ba841.trans (ba1594.mono ba841.size)
  replace r1 := r1.up ba1594
  replace ba815 := ba815.trans (ba1594.mono ba815.size)
  replace ba732 := ba732.trans (ba1594.mono ba732.size)
  replace ba617 := ba617.trans (ba1594.mono ba617.size)
  replace ba502 := ba502.trans (ba1594.mono ba502.size)
  replace ra452 := ra452.up ba1594
  replace ba449 := ba449.trans (ba1594.mono ba449.size)
  replace M := M.up ba1594
  replace ba36 := ba36.trans (ba1594.mono ba36.size)
  replace q := q.trans (ba1594.mono q.size)
  refine LL.val (R.len rfl rfl rfl rfl) rfl rfl rfl ?_
  refine LL.val (R.move rfl rfl) rfl rfl rfl ?_
  refine LL.call (R.call rfl rfl rfl) rfl rfl rfl (len_0 _) ?_
  rintro e W' ⟨rfl, rfl⟩
  refine ⟨_, rfl, ?_⟩
  refine LL.val (R.addIz (z := 0) rfl rfl rfl (by decide) (by decide)) rfl rfl rfl ?_
  refine LL.val (R.move rfl rfl) rfl rfl rfl ?_
  refine LL.call (R.call rfl rfl rfl) rfl rfl rfl (len_Z _ _ (by first | assumption | omega)) ?_
  rintro e W' ⟨rfl, rfl⟩
  refine ⟨_, rfl, ?_⟩
  refine LL.val (R.addIz (z := 0) rfl rfl rfl (by decide) (by decide)) rfl rfl rfl ?_
  refine LL.val (R.move rfl rfl) rfl rfl rfl ?_
  refine LL.call (R.call rfl rfl rfl) rfl rfl rfl (image_0 _) ?_
  rintro e W' ⟨rfl, rfl⟩
  refine ⟨_, rfl, ?_⟩
  refine LL.val (R.len rfl rfl rfl rfl) rfl rfl rfl ?_
  refine LL.val (R.addIz (z := 0) rfl rfl rfl (by decide) (by decide)) rfl rfl rfl ?_
  refine LL.val (R.move rfl rfl) rfl rfl rfl ?_
  refine LL.call (R.call rfl rfl rfl) rfl rfl rfl (lasting_Z _ _ (by first | assumption | omega)) ?_
  rintro e W' ⟨rfl, rfl⟩
  refine ⟨_, rfl, ?_⟩
  refine LL.val (R.len rfl rfl rfl rfl) rfl rfl rfl ?_
  refine LL.val (R.addIz (z := 0) rfl rfl rfl (by decide) (by decide)) rfl rfl rfl ?_
  refine LL.val (R.eqT rfl rfl rfl (by omega)) rfl rfl rfl ?_
  refine LL.val (R.move rfl rfl) rfl rfl rfl ?_
  refine LL.val (R.move rfl rfl) rfl rfl rfl ?_
  refine LL.call (R.call rfl rfl rfl) rfl rfl rfl (copy_0 _) ?_
  rintro e W' ⟨rfl, rfl⟩
  refine ⟨_, rfl, ?_⟩
  refine LL.val (R.eqPtr rfl rfl rfl rfl rfl) rfl rfl rfl ?_
  refine LL.val (R.pick rfl rfl rfl) rfl rfl rfl ?_
  refine LL.val (R.move rfl rfl) rfl rfl rfl ?_
  refine LL.val (R.move rfl rfl) rfl rfl rfl ?_
  refine LL.val (R.move rfl rfl) rfl rfl rfl ?_
  refine LL.call (R.call rfl rfl rfl) rfl rfl rfl (same_0Z _ _ (by first | assumption | omega)) ?_
  rintro e W' ⟨rfl, rfl⟩
  refine ⟨_, rfl, ?_⟩
  refine LL.val (R.pick rfl rfl rfl) rfl rfl rfl ?_
  refine LL.val (R.move rfl rfl) rfl rfl rfl ?_
  refine LL.val (R.move rfl rfl) rfl rfl rfl ?_
  refine LL.val (R.eqPtr rfl rfl rfl rfl rfl) rfl rfl rfl ?_
  refine LL.val (R.move rfl rfl) rfl rfl rfl ?_
  refine LL.val (R.move rfl rfl) rfl rfl rfl ?_
  refine LL.call (R.call rfl rfl rfl) rfl rfl rfl (len_any _ _ _ _ _ _ (by first | assumption | omega)) ?_
  rintro e W' ⟨rfl, rfl⟩
  refine ⟨_, rfl, ?_⟩
  refine LL.val (R.move rfl rfl) rfl rfl rfl ?_
  refine LL.val (R.eqT rfl rfl rfl (by omega)) rfl rfl rfl ?_
  refine LL.val (R.move rfl rfl) rfl rfl rfl ?_
  refine LL.val (R.move rfl rfl) rfl rfl rfl ?_
  refine LL.val (R.move rfl rfl) rfl rfl rfl ?_
  refine LL.call (R.call rfl rfl rfl) rfl rfl rfl (same_M0 _ _ _ _ _ _ (by first | assumption | omega)) ?_
  rintro e W' ⟨rfl, rfl⟩
  refine ⟨_, rfl, ?_⟩
  refine LL.val (R.not rfl rfl) rfl rfl rfl ?_
  refine LL.val (R.pick rfl rfl rfl) rfl rfl rfl ?_
  refine LL.val (R.move rfl rfl) rfl rfl rfl ?_
  refine LL.val (R.move rfl rfl) rfl rfl rfl ?_
  refine LL.val (R.move rfl rfl) rfl rfl rfl ?_
  refine LL.call (R.call rfl rfl rfl) rfl rfl rfl (same_0M _ _ _ _ _ _ (by first | assumption | omega)) ?_
  rintro e W' ⟨rfl, rfl⟩
  refine ⟨_, rfl, ?_⟩
  refine LL.val (R.not rfl rfl) rfl rfl rfl ?_
  refine LL.val (R.pick rfl rfl rfl) rfl rfl rfl ?_
  refine LL.val (R.pick rfl rfl rfl) rfl rfl rfl ?_
  refine LL.val (R.pick rfl rfl rfl) rfl rfl rfl ?_
  refine LL.val (R.move rfl rfl) rfl rfl rfl ?_
  refine LL.call (R.call rfl rfl rfl) rfl rfl rfl (works_any _) ?_
  rintro e Wa2500 ⟨rfl, ba2499⟩
  refine ⟨_, rfl, ?_⟩
  have zba2499 := ba2499.size
  replace ba1594 := ba1594.trans (ba2499.mono ba1594.size)
  replace ba1339 := ba1339.trans (ba2499.mono ba1339.size)
  replace ba1264 := ba1264.trans (ba2499.mono ba1264.size)
  replace ba1189 := ba1189.trans (ba2499.mono ba1189.size)
  replace ba1114 := ba1114.trans (ba2499.mono ba1114.size)
  replace ba841 := ba841.trans (ba2499.mono ba841.size)
  replace r1 := r1.up ba2499
  replace ba815 := ba815.trans (ba2499.mono ba815.size)
  replace ba732 := ba732.trans (ba2499.mono ba732.size)
  replace ba617 := ba617.trans (ba2499.mono ba617.size)
  replace ba502 := ba502.trans (ba2499.mono ba502.size)
  replace ra452 := ra452.up ba2499
  replace ba449 := ba449.trans (ba2499.mono ba449.size)
  replace M := M.up ba2499
  replace ba36 := ba36.trans (ba2499.mono ba36.size)
  replace q := q.trans (ba2499.mono q.size)
  refine LL.val (R.pick rfl rfl rfl) rfl rfl rfl ?_
  refine LL.val (R.assign rfl rfl) rfl rfl rfl ?_
  refine LL.nilS ?_
  refine CC.ret ?_
  refine EE.ret _ rfl rfl ?_
  exact ⟨rfl, q⟩
end Go.Proofs.Ytajfffoaebjnlaa
