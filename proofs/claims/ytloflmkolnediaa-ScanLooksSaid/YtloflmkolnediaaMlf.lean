/- What the statements' walks use: Sc11, Sc12, Sc14, Sc16, Sc17, Sc18, Open, OpenI, ScR, ScT. -/
import Derived.Test.YtloflmkolnediaaRows
import Derived.ProofKit
import Derived.OpenShut
import Derived.ShutString
import Derived.ChangeOld
import Derived.ChangeSame
import Derived.Test.YtloflmkolnediaaMla
import Derived.Test.YtloflmkolnediaaMlb
import Derived.Test.YtloflmkolnediaaMle
/- scan: the statements' own functions. -/
namespace Go.Proofs.Ytloflmkolnediaa
set_option linter.unusedVariables false
set_option linter.unusedSimpArgs false
open Go.RowKit Go.Shelf
set_option maxRecDepth 100000
set_option maxHeartbeats 8000000
theorem num_any (a : Int) (w : World) : Calls Try.prog 11 #[.int .i64 a] w fun e w' => e = .returned (.int .i64 a) ∧ w = w' := by
  refine X.fn Try.func11 rfl (n := 4) rfl rfl ?_
  refine CC.seq ?_
  refine CC.region ?_
  refine LL.val (R.assign rfl rfl) rfl rfl rfl ?_
  refine LL.nilS ?_
  refine CC.seq ?_
  refine CC.region ?_
  refine LL.val (R.move rfl rfl) rfl rfl rfl ?_
  refine LL.val (R.assign rfl rfl) rfl rfl rfl ?_
  refine LL.nilS ?_
  refine CC.ret ?_
  refine EE.ret _ rfl rfl ?_
  exact ⟨rfl, rfl⟩
theorem found_run (g : Nat) (r : Rd) {w : World} (h : RowL w g 56 (rdR g r)) (hi : InvR r) (hd : r.dn = false) : Calls Try.prog 24 #[.pointer (some ⟨g, 0, none⟩)] w fun e w' => e = .returned (.tuple #[.int .u64 0, .bool false, .bool false]) ∧ Below w.heap.size w w' := by
  have := found_any g r h
  obtain ⟨h1, h2⟩ := hi.none hd
  rw [h1, h2, hd] at this
  exact this
theorem dfound_0 {k slots key ptr ahead loads : Nat} {slot : Int} {is dn : Bool} (w : World) (h : dn = false ∨ is = false) : Calls Try.prog 19 #[drA ⟨k, slots, slot, key, ptr, ahead, dn, is, loads⟩] w fun e w' => e = .returned (.tuple #[.int .u64 0, .bool false]) ∧ Below w.heap.size w w' := by
  have := dfound_any ⟨k, slots, slot, key, ptr, ahead, dn, is, loads⟩ (w := w)
  rcases h with rfl | rfl
  · exact this
  · cases dn <;> exact this
theorem dfound_1 {k slots key ptr ahead loads : Nat} {slot : Int} (w : World) : Calls Try.prog 19 #[drA ⟨k, slots, slot, key, ptr, ahead, true, true, loads⟩] w fun e w' => e = .returned (.tuple #[.int .u64 (ptr : Int), .bool true]) ∧ Below w.heap.size w w' :=
  dfound_any ⟨k, slots, slot, key, ptr, ahead, true, true, loads⟩ (w := w)
theorem found_done (g : Nat) (r : Rd) (b : Bool) {w : World} (h : RowL w g 56 (rdR g r)) (hd : r.dn = true) (hb : r.is = b) : Calls Try.prog 24 #[.pointer (some ⟨g, 0, none⟩)] w fun e w' => e = .returned (.tuple #[.int .u64 (r.found : Int), .bool b, .bool true]) ∧ Below w.heap.size w w' := by
  have := found_any g r h
  rw [hb, hd] at this
  exact this
theorem same_any (g : Nat) (r : Rd) (d : Dr) {w : World} (h : RowL w g 56 (rdR g r)) (hi : InvR r) (hs : Sim r d) : Calls Try.prog 13 #[.pointer (some ⟨g, 0, none⟩), drA d] w fun e w' => e = .returned (.bool true) ∧ Below w.heap.size w w' := by
  have q := Below.refl w.heap.size w
  obtain ⟨k, slots, slot, key, ptr, ahead, dn, is, loads⟩ := d
  obtain ⟨h1, h2, h3, h4, hr, hf⟩ := hs
  have i1 := hi.k
  have i2 := hi.slot
  have i3 := hi.slots
  simp only at h1 h2 h3 h4
  cases hd : r.dn with
  | false =>
    obtain ⟨h5, h6, h7, -⟩ := hr hd
    simp only at h5 h6 h7
    rw [hd] at h4
    subst h4 h7
    clear hr hf
    rw [show drA ⟨k, slots, slot, key, ptr, ahead, false, false, loads⟩ = .agg #[.int .i64 (wayD k), .int .i64 (slots : Int), .int .i64 slot, .int .i64 (stepD k), .int .u64 (key : Int), .int .u64 (ptr : Int), .int .u64 (ahead : Int), .bool false, .bool false, .int .i64 (loads : Int)] from rfl]
    have hw : ∀ W : World, Calls Try.prog 21 #[drA ⟨k, slots, slot, key, ptr, ahead, false, false, loads⟩] W fun e w' => e = .returned (.int .i64 (wantI r.k r.slot)) ∧ Below W.heap.size W w' := fun W => by
      have := dwants_any ⟨k, slots, slot, key, ptr, ahead, false, false, loads⟩ (w := W) (by show k ≤ 8; omega) rfl r.slot h5 (by show r.slot < slots; omega) (by show slots ≤ 28; omega)
      rw [show (⟨k, slots, slot, key, ptr, ahead, false, false, loads⟩ : Dr).k = r.k from h6] at this
      exact this
    refine X.fn Try.func13 rfl (n := 72) rfl rfl ?_
    refine CC.seq ?_
    refine CC.region ?_
    have l25 := h.lt
    refine LL.box [Value.int IntKind.i64 (wayD k), Value.int IntKind.i64 ↑slots, Value.int IntKind.i64 slot, Value.int IntKind.i64 (stepD k), Value.int IntKind.u64 ↑key, Value.int IntKind.u64 ↑ptr, Value.int IntKind.u64 ↑ahead, Value.bool false, Value.bool false, Value.int IntKind.i64 ↑loads] rfl rfl rfl rfl rfl ?_
    intro W27 g28 eg28 r29 z30 b26
    replace h := h.up b26
    replace q := q.trans (b26.mono q.size)
    refine LL.val (R.assign rfl rfl) rfl rfl rfl ?_
    refine LL.nilS ?_
    refine CC.seq ?_
    refine CC.region ?_
    refine LL.val (R.move rfl rfl) rfl rfl rfl ?_
    (refine LL.call (R.call rfl rfl rfl) rfl rfl rfl (wants_run g r h hd) ?_; rintro e W' ⟨rfl, rfl⟩; refine ⟨_, rfl, ?_⟩)
    refine LL.val (R.move rfl rfl) rfl rfl rfl ?_
    refine LL.val (R.extract rfl rfl rfl) rfl rfl rfl ?_
    refine LL.val (R.extract rfl rfl rfl) rfl rfl rfl ?_
    refine LL.val (R.assign rfl rfl) rfl rfl rfl ?_
    refine LL.val (R.assign rfl rfl) rfl rfl rfl ?_
    refine LL.nilS ?_
    refine CC.seq ?_
    refine CC.region ?_
    refine LL.val (R.move rfl rfl) rfl rfl rfl ?_
    have l251 := r29.lt
    have l252 := h.lt
    (refine LL.call (R.call rfl rfl rfl) rfl rfl rfl (found_run g r h hi hd) ?_; rintro e W250 ⟨rfl, b247⟩; refine ⟨_, rfl, ?_⟩)
    have zb247 := b247.size
    replace r29 := r29.up b247
    replace b26 := b26.trans (b247.mono b26.size)
    replace h := h.up b247
    replace q := q.trans (b247.mono q.size)
    refine LL.val (R.move rfl rfl) rfl rfl rfl ?_
    refine LL.val (R.extract rfl rfl rfl) rfl rfl rfl ?_
    refine LL.val (R.extract rfl rfl rfl) rfl rfl rfl ?_
    refine LL.val (R.extract rfl rfl rfl) rfl rfl rfl ?_
    refine LL.val (R.assign rfl rfl) rfl rfl rfl ?_
    refine LL.val (R.assign rfl rfl) rfl rfl rfl ?_
    refine LL.val (R.assign rfl rfl) rfl rfl rfl ?_
    refine LL.nilS ?_
    refine CC.seq ?_
    refine CC.region ?_
    refine LL.val (R.load rfl rfl (I.ldNc (vs := [Value.int IntKind.i64 (wayD k), Value.int IntKind.i64 ↑slots, Value.int IntKind.i64 slot, Value.int IntKind.i64 (stepD k), Value.int IntKind.u64 ↑key, Value.int IntKind.u64 ↑ptr, Value.int IntKind.u64 ↑ahead, Value.bool false, Value.bool false, Value.int IntKind.i64 ↑loads]) (RowL.cells r29 rfl) (by rfl) (by rfl))) rfl rfl rfl ?_
    have l485 := r29.lt
    have l486 := h.lt
    (refine LL.call (R.call rfl rfl rfl) rfl rfl rfl (dfound_0 (k := k) (slots := slots) (slot := slot) (key := key) (ptr := ptr) (ahead := ahead) (loads := loads) _ (.inl rfl)) ?_; rintro e W484 ⟨rfl, b481⟩; refine ⟨_, rfl, ?_⟩)
    have zb481 := b481.size
    replace b247 := b247.trans (b481.mono b247.size)
    replace r29 := r29.up b481
    replace b26 := b26.trans (b481.mono b26.size)
    replace h := h.up b481
    replace q := q.trans (b481.mono q.size)
    refine LL.val (R.move rfl rfl) rfl rfl rfl ?_
    refine LL.val (R.extract rfl rfl rfl) rfl rfl rfl ?_
    refine LL.val (R.extract rfl rfl rfl) rfl rfl rfl ?_
    refine LL.val (R.assign rfl rfl) rfl rfl rfl ?_
    refine LL.val (R.assign rfl rfl) rfl rfl rfl ?_
    refine LL.nilS ?_
    refine CC.seq ?_
    refine CC.seq ?_
    refine CC.grow (by kernel_rfl) (by kernel_rfl) ?_
    refine GG.val (fun w' b' => R.move rfl rfl) rfl rfl ?_
    refine GG.val (fun w' b' => R.field rfl rfl (I.fld rfl)) rfl rfl ?_
    refine GG.val (fun w' b' => R.load rfl rfl (I.ld1 rfl (RowL.cell (r29.up b') rfl))) rfl rfl ?_
    refine GG.val (fun w' b' => R.neBool rfl rfl rfl rfl rfl) rfl rfl ?_
    refine GG.val (fun w' b' => R.move rfl rfl) rfl rfl ?_
    refine GG.val (fun w' b' => R.move rfl rfl) rfl rfl ?_
    refine GG.val (fun w' b' => R.move rfl rfl) rfl rfl ?_
    refine GG.val (fun w' b' => R.neF rfl rfl rfl (by omega)) rfl rfl ?_
    refine GG.val (fun w' b' => R.pick rfl rfl rfl) rfl rfl ?_
    refine GG.val (fun w' b' => R.move rfl rfl) rfl rfl ?_
    refine GG.val (fun w' b' => R.move rfl rfl) rfl rfl ?_
    refine GG.val (fun w' b' => R.move rfl rfl) rfl rfl ?_
    refine GG.val (fun w' b' => R.neBool rfl rfl rfl rfl rfl) rfl rfl ?_
    refine GG.val (fun w' b' => R.pick rfl rfl rfl) rfl rfl ?_
    refine GG.val (fun w' b' => R.move rfl rfl) rfl rfl ?_
    refine GG.val (fun w' b' => R.move rfl rfl) rfl rfl ?_
    refine GG.call (fun w' => (R.call rfl rfl rfl)) rfl rfl (fun w' b' => (loads_any g r (h.up b')).mono fun e W' h => ⟨h.1, h.2 ▸ b'⟩) ?_
    refine GG.val (fun w' b' => R.field rfl rfl (I.fld rfl)) rfl rfl ?_
    refine GG.val (fun w' b' => R.load rfl rfl (I.ld1 rfl (RowL.cell (r29.up b') rfl))) rfl rfl ?_
    refine GG.val (fun w' b' => R.neF rfl rfl rfl (by omega)) rfl rfl ?_
    refine GG.val (fun w' b' => R.pick rfl rfl rfl) rfl rfl ?_
    refine GG.val (fun w' b' => R.move rfl rfl) rfl rfl ?_
    refine GG.val (fun w' b' => R.move rfl rfl) rfl rfl ?_
    refine GG.val (fun w' b' => R.field rfl rfl (I.fld rfl)) rfl rfl ?_
    refine GG.val (fun w' b' => R.load rfl rfl (I.ld1 rfl (RowL.cell (r29.up b') rfl))) rfl rfl ?_
    refine GG.val (fun w' b' => R.eqBool rfl rfl rfl rfl rfl) rfl rfl ?_
    refine GG.val (fun w' b' => R.pick rfl rfl rfl) rfl rfl ?_
    refine GG.nilQ (fun W1196 b1195 => ?_)
    have zb1195 := b1195.size
    replace b481 := b481.trans (b1195.mono b481.size)
    replace b247 := b247.trans (b1195.mono b247.size)
    replace r29 := r29.up b1195
    replace b26 := b26.trans (b1195.mono b26.size)
    replace h := h.up b1195
    replace q := q.trans (b1195.mono q.size)
    refine EE.thenN ?_
    refine CC.no rfl ?_
    refine CC.skip ?_
    refine EE.thenN ?_
    refine CC.seq ?_
    refine CC.region ?_
    refine LL.val (R.field rfl rfl (I.fld rfl)) rfl rfl rfl ?_
    refine LL.val (R.load rfl rfl (I.ld1 rfl (RowL.cell r29 rfl))) rfl rfl rfl ?_
    refine LL.val (R.move rfl rfl) rfl rfl rfl ?_
    refine LL.skip rfl rfl ?_
    refine LL.skip rfl rfl ?_
    refine LL.val (R.pick rfl rfl rfl) rfl rfl rfl ?_
    refine LL.val (R.move rfl rfl) rfl rfl rfl ?_
    refine LL.val (R.field rfl rfl (I.fld rfl)) rfl rfl rfl ?_
    refine LL.val (R.load rfl rfl (I.ld1 rfl (RowL.cell r29 rfl))) rfl rfl rfl ?_
    refine LL.val (R.not rfl rfl) rfl rfl rfl ?_
    refine LL.val (R.move rfl rfl) rfl rfl rfl ?_
    refine LL.val (R.move rfl rfl) rfl rfl rfl ?_
    refine LL.val (R.load rfl rfl (I.ldNc (vs := [Value.int IntKind.i64 (wayD k), Value.int IntKind.i64 ↑slots, Value.int IntKind.i64 slot, Value.int IntKind.i64 (stepD k), Value.int IntKind.u64 ↑key, Value.int IntKind.u64 ↑ptr, Value.int IntKind.u64 ↑ahead, Value.bool false, Value.bool false, Value.int IntKind.i64 ↑loads]) (RowL.cells r29 rfl) (by rfl) (by rfl))) rfl rfl rfl ?_
    have l1516 := r29.lt
    have l1517 := h.lt
    (refine LL.call (R.call rfl rfl rfl) rfl rfl rfl (hw _) ?_; rintro e W1515 ⟨rfl, b1512⟩; refine ⟨_, rfl, ?_⟩)
    have zb1512 := b1512.size
    replace b1195 := b1195.trans (b1512.mono b1195.size)
    replace b481 := b481.trans (b1512.mono b481.size)
    replace b247 := b247.trans (b1512.mono b247.size)
    replace r29 := r29.up b1512
    replace b26 := b26.trans (b1512.mono b26.size)
    replace h := h.up b1512
    replace q := q.trans (b1512.mono q.size)
    refine LL.val (R.eqT rfl rfl rfl (by omega)) rfl rfl rfl ?_
    refine LL.val (R.pick rfl rfl rfl) rfl rfl rfl ?_
    refine LL.val (R.pick rfl rfl rfl) rfl rfl rfl ?_
    refine LL.val (R.assign rfl rfl) rfl rfl rfl ?_
    refine LL.nilS ?_
    refine CC.ret ?_
    refine EE.ret _ rfl rfl ?_
    exact ⟨rfl, q⟩
  | true =>
    obtain ⟨h5, h6, h7⟩ := hf hd
    simp only at h5 h6 h7
    rw [hd] at h4
    subst h4
    clear hr hf
    cases hb : r.is with
    | false =>
      rw [hb] at h5
      have h8 := h7 hb
      subst h5
      clear h6 h7
      rw [show drA ⟨k, slots, slot, key, ptr, ahead, true, false, loads⟩ = .agg #[.int .i64 (wayD k), .int .i64 (slots : Int), .int .i64 slot, .int .i64 (stepD k), .int .u64 (key : Int), .int .u64 (ptr : Int), .int .u64 (ahead : Int), .bool true, .bool false, .int .i64 (loads : Int)] from rfl]
      refine X.fn Try.func13 rfl (n := 72) rfl rfl ?_
      refine CC.seq ?_
      refine CC.region ?_
      have la17 := h.lt
      refine LL.box [Value.int IntKind.i64 (wayD k), Value.int IntKind.i64 ↑slots, Value.int IntKind.i64 slot, Value.int IntKind.i64 (stepD k), Value.int IntKind.u64 ↑key, Value.int IntKind.u64 ↑ptr, Value.int IntKind.u64 ↑ahead, Value.bool true, Value.bool false, Value.int IntKind.i64 ↑loads] rfl rfl rfl rfl rfl ?_
      intro Wa19 ga20 ega20 ra21 za22 ba18
      replace h := h.up ba18
      replace q := q.trans (ba18.mono q.size)
      refine LL.val (R.assign rfl rfl) rfl rfl rfl ?_
      refine LL.nilS ?_
      refine CC.seq ?_
      refine CC.region ?_
      refine LL.val (R.move rfl rfl) rfl rfl rfl ?_
      (refine LL.call (R.call rfl rfl rfl) rfl rfl rfl (wants_done g r h hd) ?_; rintro e W' ⟨rfl, rfl⟩; refine ⟨_, rfl, ?_⟩)
      refine LL.val (R.move rfl rfl) rfl rfl rfl ?_
      refine LL.val (R.extract rfl rfl rfl) rfl rfl rfl ?_
      refine LL.val (R.extract rfl rfl rfl) rfl rfl rfl ?_
      refine LL.val (R.assign rfl rfl) rfl rfl rfl ?_
      refine LL.val (R.assign rfl rfl) rfl rfl rfl ?_
      refine LL.nilS ?_
      refine CC.seq ?_
      refine CC.region ?_
      refine LL.val (R.move rfl rfl) rfl rfl rfl ?_
      have la171 := ra21.lt
      have la172 := h.lt
      (refine LL.call (R.call rfl rfl rfl) rfl rfl rfl (found_done g r false h hd hb) ?_; rintro e Wa170 ⟨rfl, ba167⟩; refine ⟨_, rfl, ?_⟩)
      have zba167 := ba167.size
      replace ra21 := ra21.up ba167
      replace ba18 := ba18.trans (ba167.mono ba18.size)
      replace h := h.up ba167
      replace q := q.trans (ba167.mono q.size)
      refine LL.val (R.move rfl rfl) rfl rfl rfl ?_
      refine LL.val (R.extract rfl rfl rfl) rfl rfl rfl ?_
      refine LL.val (R.extract rfl rfl rfl) rfl rfl rfl ?_
      refine LL.val (R.extract rfl rfl rfl) rfl rfl rfl ?_
      refine LL.val (R.assign rfl rfl) rfl rfl rfl ?_
      refine LL.val (R.assign rfl rfl) rfl rfl rfl ?_
      refine LL.val (R.assign rfl rfl) rfl rfl rfl ?_
      refine LL.nilS ?_
      refine CC.seq ?_
      refine CC.region ?_
      refine LL.val (R.load rfl rfl (I.ldNc (vs := [Value.int IntKind.i64 (wayD k), Value.int IntKind.i64 ↑slots, Value.int IntKind.i64 slot, Value.int IntKind.i64 (stepD k), Value.int IntKind.u64 ↑key, Value.int IntKind.u64 ↑ptr, Value.int IntKind.u64 ↑ahead, Value.bool true, Value.bool false, Value.int IntKind.i64 ↑loads]) (RowL.cells ra21 rfl) (by rfl) (by rfl))) rfl rfl rfl ?_
      have la333 := ra21.lt
      have la334 := h.lt
      (refine LL.call (R.call rfl rfl rfl) rfl rfl rfl (dfound_0 (k := k) (slots := slots) (slot := slot) (key := key) (ptr := ptr) (ahead := ahead) (loads := loads) _ (.inr rfl)) ?_; rintro e Wa332 ⟨rfl, ba329⟩; refine ⟨_, rfl, ?_⟩)
      have zba329 := ba329.size
      replace ba167 := ba167.trans (ba329.mono ba167.size)
      replace ra21 := ra21.up ba329
      replace ba18 := ba18.trans (ba329.mono ba18.size)
      replace h := h.up ba329
      replace q := q.trans (ba329.mono q.size)
      refine LL.val (R.move rfl rfl) rfl rfl rfl ?_
      refine LL.val (R.extract rfl rfl rfl) rfl rfl rfl ?_
      refine LL.val (R.extract rfl rfl rfl) rfl rfl rfl ?_
      refine LL.val (R.assign rfl rfl) rfl rfl rfl ?_
      refine LL.val (R.assign rfl rfl) rfl rfl rfl ?_
      refine LL.nilS ?_
      refine CC.seq ?_
      refine CC.seq ?_
      refine CC.grow (by kernel_rfl) (by kernel_rfl) ?_
      refine GG.val (fun w' b' => R.move rfl rfl) rfl rfl ?_
      refine GG.val (fun w' b' => R.field rfl rfl (I.fld rfl)) rfl rfl ?_
      refine GG.val (fun w' b' => R.load rfl rfl (I.ld1 rfl (RowL.cell (ra21.up b') rfl))) rfl rfl ?_
      refine GG.val (fun w' b' => R.neBool rfl rfl rfl rfl rfl) rfl rfl ?_
      refine GG.val (fun w' b' => R.move rfl rfl) rfl rfl ?_
      refine GG.val (fun w' b' => R.move rfl rfl) rfl rfl ?_
      refine GG.val (fun w' b' => R.move rfl rfl) rfl rfl ?_
      refine GG.val (fun w' b' => R.neF rfl rfl rfl (by omega)) rfl rfl ?_
      refine GG.val (fun w' b' => R.pick rfl rfl rfl) rfl rfl ?_
      refine GG.val (fun w' b' => R.move rfl rfl) rfl rfl ?_
      refine GG.val (fun w' b' => R.move rfl rfl) rfl rfl ?_
      refine GG.val (fun w' b' => R.move rfl rfl) rfl rfl ?_
      refine GG.val (fun w' b' => R.neBool rfl rfl rfl rfl rfl) rfl rfl ?_
      refine GG.val (fun w' b' => R.pick rfl rfl rfl) rfl rfl ?_
      refine GG.val (fun w' b' => R.move rfl rfl) rfl rfl ?_
      refine GG.val (fun w' b' => R.move rfl rfl) rfl rfl ?_
      refine GG.call (fun w' => (R.call rfl rfl rfl)) rfl rfl (fun w' b' => (loads_any g r (h.up b')).mono fun e W' h => ⟨h.1, h.2 ▸ b'⟩) ?_
      refine GG.val (fun w' b' => R.field rfl rfl (I.fld rfl)) rfl rfl ?_
      refine GG.val (fun w' b' => R.load rfl rfl (I.ld1 rfl (RowL.cell (ra21.up b') rfl))) rfl rfl ?_
      refine GG.val (fun w' b' => R.neF rfl rfl rfl (by omega)) rfl rfl ?_
      refine GG.val (fun w' b' => R.pick rfl rfl rfl) rfl rfl ?_
      refine GG.val (fun w' b' => R.move rfl rfl) rfl rfl ?_
      refine GG.val (fun w' b' => R.move rfl rfl) rfl rfl ?_
      refine GG.val (fun w' b' => R.field rfl rfl (I.fld rfl)) rfl rfl ?_
      refine GG.val (fun w' b' => R.load rfl rfl (I.ld1 rfl (RowL.cell (ra21.up b') rfl))) rfl rfl ?_
      refine GG.val (fun w' b' => R.eqBool rfl rfl rfl rfl rfl) rfl rfl ?_
      refine GG.val (fun w' b' => R.pick rfl rfl rfl) rfl rfl ?_
      refine GG.nilQ (fun Wa810 ba809 => ?_)
      have zba809 := ba809.size
      replace ba329 := ba329.trans (ba809.mono ba329.size)
      replace ba167 := ba167.trans (ba809.mono ba167.size)
      replace ra21 := ra21.up ba809
      replace ba18 := ba18.trans (ba809.mono ba18.size)
      replace h := h.up ba809
      replace q := q.trans (ba809.mono q.size)
      refine EE.thenN ?_
      refine CC.no rfl ?_
      refine CC.skip ?_
      refine EE.thenN ?_
      refine CC.seq ?_
      refine CC.region ?_
      refine LL.val (R.field rfl rfl (I.fld rfl)) rfl rfl rfl ?_
      refine LL.val (R.load rfl rfl (I.ld1 rfl (RowL.cell ra21 rfl))) rfl rfl rfl ?_
      refine LL.val (R.move rfl rfl) rfl rfl rfl ?_
      refine LL.val (R.move rfl rfl) rfl rfl rfl ?_
      refine LL.val (R.eqT rfl rfl rfl (by omega)) rfl rfl rfl ?_
      refine LL.val (R.pick rfl rfl rfl) rfl rfl rfl ?_
      refine LL.val (R.move rfl rfl) rfl rfl rfl ?_
      refine LL.skip rfl rfl ?_
      refine LL.skip rfl rfl ?_
      refine LL.skip rfl rfl ?_
      refine LL.skip rfl rfl ?_
      refine LL.skip rfl rfl ?_
      refine LL.skip rfl rfl ?_
      refine LL.skip rfl rfl ?_
      refine LL.skip rfl rfl ?_
      refine LL.skip rfl rfl ?_
      refine LL.val (R.pick rfl rfl rfl) rfl rfl rfl ?_
      refine LL.val (R.assign rfl rfl) rfl rfl rfl ?_
      refine LL.nilS ?_
      refine CC.ret ?_
      refine EE.ret _ rfl rfl ?_
      exact ⟨rfl, q⟩
    | true =>
      rw [hb] at h5
      have h8 := h6 hb
      subst h5
      clear h6 h7
      rw [show drA ⟨k, slots, slot, key, ptr, ahead, true, true, loads⟩ = .agg #[.int .i64 (wayD k), .int .i64 (slots : Int), .int .i64 slot, .int .i64 (stepD k), .int .u64 (key : Int), .int .u64 (ptr : Int), .int .u64 (ahead : Int), .bool true, .bool true, .int .i64 (loads : Int)] from rfl]
      refine X.fn Try.func13 rfl (n := 72) rfl rfl ?_
      refine CC.seq ?_
      refine CC.region ?_
      have lb17 := h.lt
      refine LL.box [Value.int IntKind.i64 (wayD k), Value.int IntKind.i64 ↑slots, Value.int IntKind.i64 slot, Value.int IntKind.i64 (stepD k), Value.int IntKind.u64 ↑key, Value.int IntKind.u64 ↑ptr, Value.int IntKind.u64 ↑ahead, Value.bool true, Value.bool true, Value.int IntKind.i64 ↑loads] rfl rfl rfl rfl rfl ?_
      intro Wb19 gb20 egb20 rb21 zb22 bb18
      replace h := h.up bb18
      replace q := q.trans (bb18.mono q.size)
      refine LL.val (R.assign rfl rfl) rfl rfl rfl ?_
      refine LL.nilS ?_
      refine CC.seq ?_
      refine CC.region ?_
      refine LL.val (R.move rfl rfl) rfl rfl rfl ?_
      (refine LL.call (R.call rfl rfl rfl) rfl rfl rfl (wants_done g r h hd) ?_; rintro e W' ⟨rfl, rfl⟩; refine ⟨_, rfl, ?_⟩)
      refine LL.val (R.move rfl rfl) rfl rfl rfl ?_
      refine LL.val (R.extract rfl rfl rfl) rfl rfl rfl ?_
      refine LL.val (R.extract rfl rfl rfl) rfl rfl rfl ?_
      refine LL.val (R.assign rfl rfl) rfl rfl rfl ?_
      refine LL.val (R.assign rfl rfl) rfl rfl rfl ?_
      refine LL.nilS ?_
      refine CC.seq ?_
      refine CC.region ?_
      refine LL.val (R.move rfl rfl) rfl rfl rfl ?_
      have lb171 := rb21.lt
      have lb172 := h.lt
      (refine LL.call (R.call rfl rfl rfl) rfl rfl rfl (found_done g r true h hd hb) ?_; rintro e Wb170 ⟨rfl, bb167⟩; refine ⟨_, rfl, ?_⟩)
      have zbb167 := bb167.size
      replace rb21 := rb21.up bb167
      replace bb18 := bb18.trans (bb167.mono bb18.size)
      replace h := h.up bb167
      replace q := q.trans (bb167.mono q.size)
      refine LL.val (R.move rfl rfl) rfl rfl rfl ?_
      refine LL.val (R.extract rfl rfl rfl) rfl rfl rfl ?_
      refine LL.val (R.extract rfl rfl rfl) rfl rfl rfl ?_
      refine LL.val (R.extract rfl rfl rfl) rfl rfl rfl ?_
      refine LL.val (R.assign rfl rfl) rfl rfl rfl ?_
      refine LL.val (R.assign rfl rfl) rfl rfl rfl ?_
      refine LL.val (R.assign rfl rfl) rfl rfl rfl ?_
      refine LL.nilS ?_
      refine CC.seq ?_
      refine CC.region ?_
      refine LL.val (R.load rfl rfl (I.ldNc (vs := [Value.int IntKind.i64 (wayD k), Value.int IntKind.i64 ↑slots, Value.int IntKind.i64 slot, Value.int IntKind.i64 (stepD k), Value.int IntKind.u64 ↑key, Value.int IntKind.u64 ↑ptr, Value.int IntKind.u64 ↑ahead, Value.bool true, Value.bool true, Value.int IntKind.i64 ↑loads]) (RowL.cells rb21 rfl) (by rfl) (by rfl))) rfl rfl rfl ?_
      have lb333 := rb21.lt
      have lb334 := h.lt
      (refine LL.call (R.call rfl rfl rfl) rfl rfl rfl (dfound_1 (k := k) (slots := slots) (slot := slot) (key := key) (ptr := ptr) (ahead := ahead) (loads := loads) _) ?_; rintro e Wb332 ⟨rfl, bb329⟩; refine ⟨_, rfl, ?_⟩)
      have zbb329 := bb329.size
      replace bb167 := bb167.trans (bb329.mono bb167.size)
      replace rb21 := rb21.up bb329
      replace bb18 := bb18.trans (bb329.mono bb18.size)
      replace h := h.up bb329
      replace q := q.trans (bb329.mono q.size)
      refine LL.val (R.move rfl rfl) rfl rfl rfl ?_
      refine LL.val (R.extract rfl rfl rfl) rfl rfl rfl ?_
      refine LL.val (R.extract rfl rfl rfl) rfl rfl rfl ?_
      refine LL.val (R.assign rfl rfl) rfl rfl rfl ?_
      refine LL.val (R.assign rfl rfl) rfl rfl rfl ?_
      refine LL.nilS ?_
      refine CC.seq ?_
      refine CC.seq ?_
      refine CC.grow (by kernel_rfl) (by kernel_rfl) ?_
      refine GG.val (fun w' b' => R.move rfl rfl) rfl rfl ?_
      refine GG.val (fun w' b' => R.field rfl rfl (I.fld rfl)) rfl rfl ?_
      refine GG.val (fun w' b' => R.load rfl rfl (I.ld1 rfl (RowL.cell (rb21.up b') rfl))) rfl rfl ?_
      refine GG.val (fun w' b' => R.neBool rfl rfl rfl rfl rfl) rfl rfl ?_
      refine GG.val (fun w' b' => R.move rfl rfl) rfl rfl ?_
      refine GG.val (fun w' b' => R.move rfl rfl) rfl rfl ?_
      refine GG.val (fun w' b' => R.move rfl rfl) rfl rfl ?_
      refine GG.val (fun w' b' => R.neF rfl rfl rfl (by omega)) rfl rfl ?_
      refine GG.val (fun w' b' => R.pick rfl rfl rfl) rfl rfl ?_
      refine GG.val (fun w' b' => R.move rfl rfl) rfl rfl ?_
      refine GG.val (fun w' b' => R.move rfl rfl) rfl rfl ?_
      refine GG.val (fun w' b' => R.move rfl rfl) rfl rfl ?_
      refine GG.val (fun w' b' => R.neBool rfl rfl rfl rfl rfl) rfl rfl ?_
      refine GG.val (fun w' b' => R.pick rfl rfl rfl) rfl rfl ?_
      refine GG.val (fun w' b' => R.move rfl rfl) rfl rfl ?_
      refine GG.val (fun w' b' => R.move rfl rfl) rfl rfl ?_
      refine GG.call (fun w' => (R.call rfl rfl rfl)) rfl rfl (fun w' b' => (loads_any g r (h.up b')).mono fun e W' h => ⟨h.1, h.2 ▸ b'⟩) ?_
      refine GG.val (fun w' b' => R.field rfl rfl (I.fld rfl)) rfl rfl ?_
      refine GG.val (fun w' b' => R.load rfl rfl (I.ld1 rfl (RowL.cell (rb21.up b') rfl))) rfl rfl ?_
      refine GG.val (fun w' b' => R.neF rfl rfl rfl (by omega)) rfl rfl ?_
      refine GG.val (fun w' b' => R.pick rfl rfl rfl) rfl rfl ?_
      refine GG.val (fun w' b' => R.move rfl rfl) rfl rfl ?_
      refine GG.val (fun w' b' => R.move rfl rfl) rfl rfl ?_
      refine GG.val (fun w' b' => R.field rfl rfl (I.fld rfl)) rfl rfl ?_
      refine GG.val (fun w' b' => R.load rfl rfl (I.ld1 rfl (RowL.cell (rb21.up b') rfl))) rfl rfl ?_
      refine GG.val (fun w' b' => R.eqBool rfl rfl rfl rfl rfl) rfl rfl ?_
      refine GG.val (fun w' b' => R.pick rfl rfl rfl) rfl rfl ?_
      refine GG.nilQ (fun Wb810 bb809 => ?_)
      have zbb809 := bb809.size
      replace bb329 := bb329.trans (bb809.mono bb329.size)
      replace bb167 := bb167.trans (bb809.mono bb167.size)
      replace rb21 := rb21.up bb809
      replace bb18 := bb18.trans (bb809.mono bb18.size)
      replace h := h.up bb809
      replace q := q.trans (bb809.mono q.size)
      refine EE.thenN ?_
      refine CC.no rfl ?_
      refine CC.skip ?_
      refine EE.thenN ?_
      refine CC.seq ?_
      refine CC.region ?_
      refine LL.val (R.field rfl rfl (I.fld rfl)) rfl rfl rfl ?_
      refine LL.val (R.load rfl rfl (I.ld1 rfl (RowL.cell rb21 rfl))) rfl rfl rfl ?_
      refine LL.val (R.move rfl rfl) rfl rfl rfl ?_
      refine LL.val (R.move rfl rfl) rfl rfl rfl ?_
      refine LL.val (R.eqT rfl rfl rfl (by omega)) rfl rfl rfl ?_
      refine LL.val (R.pick rfl rfl rfl) rfl rfl rfl ?_
      refine LL.val (R.move rfl rfl) rfl rfl rfl ?_
      refine LL.skip rfl rfl ?_
      refine LL.skip rfl rfl ?_
      refine LL.skip rfl rfl ?_
      refine LL.skip rfl rfl ?_
      refine LL.skip rfl rfl ?_
      refine LL.skip rfl rfl ?_
      refine LL.skip rfl rfl ?_
      refine LL.skip rfl rfl ?_
      refine LL.skip rfl rfl ?_
      refine LL.val (R.pick rfl rfl rfl) rfl rfl rfl ?_
      refine LL.val (R.assign rfl rfl) rfl rfl rfl ?_
      refine LL.nilS ?_
      refine CC.ret ?_
      refine EE.ret _ rfl rfl ?_
      exact ⟨rfl, q⟩
/-- The document's reader at its beginning. -/
def newD (up : Bool) (slots key : Nat) : Dr := if up then ⟨0, slots, 0, key, 0, 0, false, false, 0⟩ else ⟨5, slots, ((slots - 1 : Nat) : Int), key, 0, 0, false, false, 0⟩
theorem dnew_T (up : Bool) (slots key : Nat) (w : World) (h2 : 2 ≤ slots) (h28 : slots ≤ 28) : Calls Try.prog 12 #[.int .i64 (wayI up), .int .i64 (slots : Int), .int .u64 (key : Int)] w fun e w' => e = .returned (drA (newD up slots key)) ∧ Below w.heap.size w w' := by
  have q := Below.refl w.heap.size w
  cases up
  · rw [show wayI false = 2 from rfl]
    refine X.fn Try.func12 rfl (n := 18) rfl rfl ?_
    refine CC.seq ?_
    refine CC.region ?_
    refine LL.alloc ([Value.int IntKind.i64 0, Value.int IntKind.i64 0, Value.int IntKind.i64 0, Value.int IntKind.i64 0, Value.int IntKind.u64 0, Value.int IntKind.u64 0, Value.int IntKind.u64 0, Value.bool false, Value.bool false, Value.int IntKind.i64 0]) rfl rfl rfl rfl rfl ?_
    intro W2 g3 eg3 r4 z5 b1
    replace q := q.trans (b1.mono q.size)
    refine LL.nilS ?_
    refine CC.seq ?_
    refine CC.region ?_
    refine LL.val (R.move rfl rfl) rfl rfl rfl ?_
    refine LL.val (R.move rfl rfl) rfl rfl rfl ?_
    refine LL.val (R.move rfl rfl) rfl rfl rfl ?_
    refine LL.val (R.buildV rfl rfl (v := .agg #[Value.int IntKind.i64 2, Value.int IntKind.i64 ↑slots, Value.int IntKind.i64 0, Value.int IntKind.i64 0, Value.int IntKind.u64 ↑key, Value.int IntKind.u64 0, Value.int IntKind.u64 0, Value.bool false, Value.bool false, Value.int IntKind.i64 0]) (fun _ => by kernel_rfl)) rfl rfl rfl ?_
    have l6 := r4.lt
    refine LL.alloc ([Value.int IntKind.i64 0, Value.int IntKind.i64 0, Value.int IntKind.i64 0, Value.int IntKind.i64 0, Value.int IntKind.u64 0, Value.int IntKind.u64 0, Value.int IntKind.u64 0, Value.bool false, Value.bool false, Value.int IntKind.i64 0]) rfl rfl rfl rfl rfl ?_
    intro W8 g9 eg9 r10 z11 b7
    replace r4 := r4.up b7
    replace b1 := b1.trans (b7.mono b1.size)
    replace q := q.trans (b7.mono q.size)
    refine LL.storeN (vs := [Value.int IntKind.i64 2, Value.int IntKind.i64 ↑slots, Value.int IntKind.i64 0, Value.int IntKind.i64 0, Value.int IntKind.u64 ↑key, Value.int IntKind.u64 0, Value.int IntKind.u64 0, Value.bool false, Value.bool false, Value.int IntKind.i64 0]) rfl rfl rfl rfl r10 (by exact Nat.le_of_ble_eq_true rfl) (ones_of rfl) rfl rfl ?_
    intro W13 r14 b12 z15
    have hlb12 := r10.lt
    replace r14 : RowL W13 _ 33 [Value.int IntKind.i64 2, Value.int IntKind.i64 ↑slots, Value.int IntKind.i64 0, Value.int IntKind.i64 0, Value.int IntKind.u64 ↑key, Value.int IntKind.u64 0, Value.int IntKind.u64 0, Value.bool false, Value.bool false, Value.int IntKind.i64 0] := r14
    clear r10
    replace b7 := b7.grown b12 b7.size (by rintro k ⟨⟩; omega)
    replace r4 := r4.gr b12 (by have := r4.lt; omega)
    replace b1 := b1.grown b12 b1.size (by rintro k ⟨⟩; omega)
    replace q := q.grown b12 q.size (by rintro k ⟨⟩; omega)
    have r10 := r14
    clear r14
    refine LL.nilS ?_
    refine CC.seq ?_
    refine CC.seq ?_
    refine CC.region ?_
    refine LL.val (R.move rfl rfl) rfl rfl rfl ?_
    refine LL.val (R.eqT rfl rfl rfl (by omega)) rfl rfl rfl ?_
    refine LL.nilS ?_
    refine CC.yes rfl ?_
    refine CC.region ?_
    refine LL.val (R.move rfl rfl) rfl rfl rfl ?_
    refine LL.val (R.subNc rfl rfl rfl rfl (by omega) (by omega)) rfl rfl rfl ?_
    refine LL.val (R.field rfl rfl (I.fld rfl)) rfl rfl rfl ?_
    refine LL.store rfl rfl rfl rfl r10 (by exact Nat.le_of_ble_eq_true rfl) rfl rfl rfl rfl ?_
    intro W17 r18 b16 z19
    have hlb16 := r10.lt
    replace r18 : RowL W17 _ 33 [Value.int IntKind.i64 2, Value.int IntKind.i64 ↑slots, Value.int IntKind.i64 ↑(slots - 1), Value.int IntKind.i64 0, Value.int IntKind.u64 ↑key, Value.int IntKind.u64 0, Value.int IntKind.u64 0, Value.bool false, Value.bool false, Value.int IntKind.i64 0] := r18
    clear r10
    replace b7 := b7.grown b16 b7.size (by rintro k ⟨⟩; omega)
    replace r4 := r4.gr b16 (by have := r4.lt; omega)
    replace b1 := b1.grown b16 b1.size (by rintro k ⟨⟩; omega)
    replace q := q.grown b16 q.size (by rintro k ⟨⟩; omega)
    have r10 := r18
    clear r18
    refine LL.nilS ?_
    refine CC.seq ?_
    refine CC.region ?_
    refine LL.val (R.load rfl rfl (I.ldNc (vs := [Value.int IntKind.i64 2, Value.int IntKind.i64 ↑slots, Value.int IntKind.i64 ↑(slots - 1), Value.int IntKind.i64 0, Value.int IntKind.u64 ↑key, Value.int IntKind.u64 0, Value.int IntKind.u64 0, Value.bool false, Value.bool false, Value.int IntKind.i64 0]) (RowL.cells r10 rfl) (by rfl) (by rfl))) rfl rfl rfl ?_
    refine LL.storeN (vs := [Value.int IntKind.i64 2, Value.int IntKind.i64 ↑slots, Value.int IntKind.i64 ↑(slots - 1), Value.int IntKind.i64 0, Value.int IntKind.u64 ↑key, Value.int IntKind.u64 0, Value.int IntKind.u64 0, Value.bool false, Value.bool false, Value.int IntKind.i64 0]) rfl rfl rfl rfl r4 (by exact Nat.le_of_ble_eq_true rfl) (ones_of rfl) rfl rfl ?_
    intro W21 r22 b20 z23
    have hlb20 := r4.lt
    replace r22 : RowL W21 _ 33 [Value.int IntKind.i64 2, Value.int IntKind.i64 ↑slots, Value.int IntKind.i64 ↑(slots - 1), Value.int IntKind.i64 0, Value.int IntKind.u64 ↑key, Value.int IntKind.u64 0, Value.int IntKind.u64 0, Value.bool false, Value.bool false, Value.int IntKind.i64 0] := r22
    clear r4
    replace b1 := b1.grown b20 b1.size (by rintro k ⟨⟩; omega)
    replace q := q.grown b20 q.size (by rintro k ⟨⟩; omega)
    replace r10 := r10.gr b20 (by have := r10.lt; omega)
    have r4 := r22
    clear r22
    refine LL.nilS ?_
    refine CC.ret ?_
    refine EE.retC rfl rfl (lvNc (RowL.cells0 (by assumption)) (by rfl) (by rfl)) ?_
    exact ⟨rfl, q⟩
  · rw [show wayI true = 1 from rfl]
    refine X.fn Try.func12 rfl (n := 18) rfl rfl ?_
    refine CC.seq ?_
    refine CC.region ?_
    refine LL.alloc ([Value.int IntKind.i64 0, Value.int IntKind.i64 0, Value.int IntKind.i64 0, Value.int IntKind.i64 0, Value.int IntKind.u64 0, Value.int IntKind.u64 0, Value.int IntKind.u64 0, Value.bool false, Value.bool false, Value.int IntKind.i64 0]) rfl rfl rfl rfl rfl ?_
    intro Wa2 ga3 ega3 ra4 za5 ba1
    replace q := q.trans (ba1.mono q.size)
    refine LL.nilS ?_
    refine CC.seq ?_
    refine CC.region ?_
    refine LL.val (R.move rfl rfl) rfl rfl rfl ?_
    refine LL.val (R.move rfl rfl) rfl rfl rfl ?_
    refine LL.val (R.move rfl rfl) rfl rfl rfl ?_
    refine LL.val (R.buildV rfl rfl (v := .agg #[Value.int IntKind.i64 1, Value.int IntKind.i64 ↑slots, Value.int IntKind.i64 0, Value.int IntKind.i64 0, Value.int IntKind.u64 ↑key, Value.int IntKind.u64 0, Value.int IntKind.u64 0, Value.bool false, Value.bool false, Value.int IntKind.i64 0]) (fun _ => by kernel_rfl)) rfl rfl rfl ?_
    have la6 := ra4.lt
    refine LL.alloc ([Value.int IntKind.i64 0, Value.int IntKind.i64 0, Value.int IntKind.i64 0, Value.int IntKind.i64 0, Value.int IntKind.u64 0, Value.int IntKind.u64 0, Value.int IntKind.u64 0, Value.bool false, Value.bool false, Value.int IntKind.i64 0]) rfl rfl rfl rfl rfl ?_
    intro Wa8 ga9 ega9 ra10 za11 ba7
    replace ra4 := ra4.up ba7
    replace ba1 := ba1.trans (ba7.mono ba1.size)
    replace q := q.trans (ba7.mono q.size)
    refine LL.storeN (vs := [Value.int IntKind.i64 1, Value.int IntKind.i64 ↑slots, Value.int IntKind.i64 0, Value.int IntKind.i64 0, Value.int IntKind.u64 ↑key, Value.int IntKind.u64 0, Value.int IntKind.u64 0, Value.bool false, Value.bool false, Value.int IntKind.i64 0]) rfl rfl rfl rfl ra10 (by exact Nat.le_of_ble_eq_true rfl) (ones_of rfl) rfl rfl ?_
    intro Wa13 ra14 ba12 za15
    have hlba12 := ra10.lt
    replace ra14 : RowL Wa13 _ 33 [Value.int IntKind.i64 1, Value.int IntKind.i64 ↑slots, Value.int IntKind.i64 0, Value.int IntKind.i64 0, Value.int IntKind.u64 ↑key, Value.int IntKind.u64 0, Value.int IntKind.u64 0, Value.bool false, Value.bool false, Value.int IntKind.i64 0] := ra14
    clear ra10
    replace ba7 := ba7.grown ba12 ba7.size (by rintro k ⟨⟩; omega)
    replace ra4 := ra4.gr ba12 (by have := ra4.lt; omega)
    replace ba1 := ba1.grown ba12 ba1.size (by rintro k ⟨⟩; omega)
    replace q := q.grown ba12 q.size (by rintro k ⟨⟩; omega)
    have ra10 := ra14
    clear ra14
    refine LL.nilS ?_
    refine CC.seq ?_
    refine CC.seq ?_
    refine CC.region ?_
    refine LL.val (R.move rfl rfl) rfl rfl rfl ?_
    refine LL.val (R.eqF rfl rfl rfl (by omega)) rfl rfl rfl ?_
    refine LL.nilS ?_
    refine CC.no rfl ?_
    refine CC.skip ?_
    refine EE.thenN ?_
    refine CC.seq ?_
    refine CC.region ?_
    refine LL.val (R.load rfl rfl (I.ldNc (vs := [Value.int IntKind.i64 1, Value.int IntKind.i64 ↑slots, Value.int IntKind.i64 0, Value.int IntKind.i64 0, Value.int IntKind.u64 ↑key, Value.int IntKind.u64 0, Value.int IntKind.u64 0, Value.bool false, Value.bool false, Value.int IntKind.i64 0]) (RowL.cells ra10 rfl) (by rfl) (by rfl))) rfl rfl rfl ?_
    refine LL.storeN (vs := [Value.int IntKind.i64 1, Value.int IntKind.i64 ↑slots, Value.int IntKind.i64 0, Value.int IntKind.i64 0, Value.int IntKind.u64 ↑key, Value.int IntKind.u64 0, Value.int IntKind.u64 0, Value.bool false, Value.bool false, Value.int IntKind.i64 0]) rfl rfl rfl rfl ra4 (by exact Nat.le_of_ble_eq_true rfl) (ones_of rfl) rfl rfl ?_
    intro Wa17 ra18 ba16 za19
    have hlba16 := ra4.lt
    replace ra18 : RowL Wa17 _ 33 [Value.int IntKind.i64 1, Value.int IntKind.i64 ↑slots, Value.int IntKind.i64 0, Value.int IntKind.i64 0, Value.int IntKind.u64 ↑key, Value.int IntKind.u64 0, Value.int IntKind.u64 0, Value.bool false, Value.bool false, Value.int IntKind.i64 0] := ra18
    clear ra4
    replace ba1 := ba1.grown ba16 ba1.size (by rintro k ⟨⟩; omega)
    replace q := q.grown ba16 q.size (by rintro k ⟨⟩; omega)
    replace ra10 := ra10.gr ba16 (by have := ra10.lt; omega)
    have ra4 := ra18
    clear ra18
    refine LL.nilS ?_
    refine CC.ret ?_
    refine EE.retC rfl rfl (lvNc (RowL.cells0 (by assumption)) (by rfl) (by rfl)) ?_
    exact ⟨rfl, q⟩
theorem sim_new {up : Bool} {slots key : Nat} : Sim (newR up slots key) (newD up slots key) := by
  cases up
  · exact ⟨rfl, rfl, rfl, rfl, fun _ => ⟨rfl, rfl, rfl, fun h => by simp [newR] at h, fun h => by simp [newR] at h, fun h => by simp [newR] at h⟩, fun h => by cases h⟩
  · exact ⟨rfl, rfl, rfl, rfl, fun _ => ⟨rfl, rfl, rfl, fun h => by simp [newR] at h, fun h => by simp [newR] at h, fun h => by simp [newR] at h⟩, fun h => by cases h⟩
theorem right_T (way slots : Int) (w : World) (h : way = 1 ∨ way = 2) (h2 : 2 ≤ slots) (h28 : slots ≤ 28) : Calls Try.prog 10 #[.int .i64 way, .int .i64 slots] w fun e w' => e = .returned (.bool true) ∧ w = w' := by
  rcases h with rfl | rfl
  · refine X.fn Try.func10 rfl (n := 19) rfl rfl ?_
    refine CC.seq ?_
    refine CC.region ?_
    refine LL.val (R.assign rfl rfl) rfl rfl rfl ?_
    refine LL.nilS ?_
    refine CC.seq ?_
    refine CC.region ?_
    refine LL.val (R.move rfl rfl) rfl rfl rfl ?_
    refine LL.val (R.eqT rfl rfl rfl (by omega)) rfl rfl rfl ?_
    refine LL.val (R.move rfl rfl) rfl rfl rfl ?_
    refine LL.skip rfl rfl ?_
    refine LL.skip rfl rfl ?_
    refine LL.val (R.pick rfl rfl rfl) rfl rfl rfl ?_
    refine LL.val (R.move rfl rfl) rfl rfl rfl ?_
    refine LL.val (R.move rfl rfl) rfl rfl rfl ?_
    refine LL.val (R.geT rfl rfl rfl (by omega)) rfl rfl rfl ?_
    refine LL.val (R.pick rfl rfl rfl) rfl rfl rfl ?_
    refine LL.val (R.move rfl rfl) rfl rfl rfl ?_
    refine LL.val (R.move rfl rfl) rfl rfl rfl ?_
    refine LL.val (R.leT rfl rfl rfl (by omega)) rfl rfl rfl ?_
    refine LL.val (R.pick rfl rfl rfl) rfl rfl rfl ?_
    refine LL.val (R.assign rfl rfl) rfl rfl rfl ?_
    refine LL.nilS ?_
    refine CC.ret ?_
    refine EE.ret _ rfl rfl ?_
    exact ⟨rfl, rfl⟩
  · refine X.fn Try.func10 rfl (n := 19) rfl rfl ?_
    refine CC.seq ?_
    refine CC.region ?_
    refine LL.val (R.assign rfl rfl) rfl rfl rfl ?_
    refine LL.nilS ?_
    refine CC.seq ?_
    refine CC.region ?_
    refine LL.val (R.move rfl rfl) rfl rfl rfl ?_
    refine LL.val (R.eqF rfl rfl rfl (by omega)) rfl rfl rfl ?_
    refine LL.val (R.move rfl rfl) rfl rfl rfl ?_
    refine LL.val (R.move rfl rfl) rfl rfl rfl ?_
    refine LL.val (R.eqT rfl rfl rfl (by omega)) rfl rfl rfl ?_
    refine LL.val (R.pick rfl rfl rfl) rfl rfl rfl ?_
    refine LL.val (R.move rfl rfl) rfl rfl rfl ?_
    refine LL.val (R.move rfl rfl) rfl rfl rfl ?_
    refine LL.val (R.geT rfl rfl rfl (by omega)) rfl rfl rfl ?_
    refine LL.val (R.pick rfl rfl rfl) rfl rfl rfl ?_
    refine LL.val (R.move rfl rfl) rfl rfl rfl ?_
    refine LL.val (R.move rfl rfl) rfl rfl rfl ?_
    refine LL.val (R.leT rfl rfl rfl (by omega)) rfl rfl rfl ?_
    refine LL.val (R.pick rfl rfl rfl) rfl rfl rfl ?_
    refine LL.val (R.assign rfl rfl) rfl rfl rfl ?_
    refine LL.nilS ?_
    refine CC.ret ?_
    refine EE.ret _ rfl rfl ?_
    exact ⟨rfl, rfl⟩
theorem right_F (way slots : Int) (w : World) (h : (way ≠ 1 ∧ way ≠ 2) ∨ slots < 2 ∨ 28 < slots) : Calls Try.prog 10 #[.int .i64 way, .int .i64 slots] w fun e w' => e = .returned (.bool false) ∧ w = w' := by
  by_cases h1 : way = 1
  · subst h1
    replace h : slots < 2 ∨ 28 < slots := by omega
    by_cases h2 : slots < 2
    · refine X.fn Try.func10 rfl (n := 19) rfl rfl ?_
      refine CC.seq ?_
      refine CC.region ?_
      refine LL.val (R.assign rfl rfl) rfl rfl rfl ?_
      refine LL.nilS ?_
      refine CC.seq ?_
      refine CC.region ?_
      refine LL.val (R.move rfl rfl) rfl rfl rfl ?_
      refine LL.val (R.eqT rfl rfl rfl (by omega)) rfl rfl rfl ?_
      refine LL.val (R.move rfl rfl) rfl rfl rfl ?_
      refine LL.skip rfl rfl ?_
      refine LL.skip rfl rfl ?_
      refine LL.val (R.pick rfl rfl rfl) rfl rfl rfl ?_
      refine LL.val (R.move rfl rfl) rfl rfl rfl ?_
      refine LL.val (R.move rfl rfl) rfl rfl rfl ?_
      refine LL.val (R.geF rfl rfl rfl (by omega)) rfl rfl rfl ?_
      refine LL.val (R.pick rfl rfl rfl) rfl rfl rfl ?_
      refine LL.val (R.move rfl rfl) rfl rfl rfl ?_
      refine LL.skip rfl rfl ?_
      refine LL.skip rfl rfl ?_
      refine LL.val (R.pick rfl rfl rfl) rfl rfl rfl ?_
      refine LL.val (R.assign rfl rfl) rfl rfl rfl ?_
      refine LL.nilS ?_
      refine CC.ret ?_
      refine EE.ret _ rfl rfl ?_
      exact ⟨rfl, rfl⟩
    · refine X.fn Try.func10 rfl (n := 19) rfl rfl ?_
      refine CC.seq ?_
      refine CC.region ?_
      refine LL.val (R.assign rfl rfl) rfl rfl rfl ?_
      refine LL.nilS ?_
      refine CC.seq ?_
      refine CC.region ?_
      refine LL.val (R.move rfl rfl) rfl rfl rfl ?_
      refine LL.val (R.eqT rfl rfl rfl (by omega)) rfl rfl rfl ?_
      refine LL.val (R.move rfl rfl) rfl rfl rfl ?_
      refine LL.skip rfl rfl ?_
      refine LL.skip rfl rfl ?_
      refine LL.val (R.pick rfl rfl rfl) rfl rfl rfl ?_
      refine LL.val (R.move rfl rfl) rfl rfl rfl ?_
      refine LL.val (R.move rfl rfl) rfl rfl rfl ?_
      refine LL.val (R.geT rfl rfl rfl (by omega)) rfl rfl rfl ?_
      refine LL.val (R.pick rfl rfl rfl) rfl rfl rfl ?_
      refine LL.val (R.move rfl rfl) rfl rfl rfl ?_
      refine LL.val (R.move rfl rfl) rfl rfl rfl ?_
      refine LL.val (R.leF rfl rfl rfl (by omega)) rfl rfl rfl ?_
      refine LL.val (R.pick rfl rfl rfl) rfl rfl rfl ?_
      refine LL.val (R.assign rfl rfl) rfl rfl rfl ?_
      refine LL.nilS ?_
      refine CC.ret ?_
      refine EE.ret _ rfl rfl ?_
      exact ⟨rfl, rfl⟩
  by_cases h2 : way = 2
  · subst h2
    replace h : slots < 2 ∨ 28 < slots := by omega
    by_cases h2 : slots < 2
    · refine X.fn Try.func10 rfl (n := 19) rfl rfl ?_
      refine CC.seq ?_
      refine CC.region ?_
      refine LL.val (R.assign rfl rfl) rfl rfl rfl ?_
      refine LL.nilS ?_
      refine CC.seq ?_
      refine CC.region ?_
      refine LL.val (R.move rfl rfl) rfl rfl rfl ?_
      refine LL.val (R.eqF rfl rfl rfl (by omega)) rfl rfl rfl ?_
      refine LL.val (R.move rfl rfl) rfl rfl rfl ?_
      refine LL.val (R.move rfl rfl) rfl rfl rfl ?_
      refine LL.val (R.eqT rfl rfl rfl (by omega)) rfl rfl rfl ?_
      refine LL.val (R.pick rfl rfl rfl) rfl rfl rfl ?_
      refine LL.val (R.move rfl rfl) rfl rfl rfl ?_
      refine LL.val (R.move rfl rfl) rfl rfl rfl ?_
      refine LL.val (R.geF rfl rfl rfl (by omega)) rfl rfl rfl ?_
      refine LL.val (R.pick rfl rfl rfl) rfl rfl rfl ?_
      refine LL.val (R.move rfl rfl) rfl rfl rfl ?_
      refine LL.skip rfl rfl ?_
      refine LL.skip rfl rfl ?_
      refine LL.val (R.pick rfl rfl rfl) rfl rfl rfl ?_
      refine LL.val (R.assign rfl rfl) rfl rfl rfl ?_
      refine LL.nilS ?_
      refine CC.ret ?_
      refine EE.ret _ rfl rfl ?_
      exact ⟨rfl, rfl⟩
    · refine X.fn Try.func10 rfl (n := 19) rfl rfl ?_
      refine CC.seq ?_
      refine CC.region ?_
      refine LL.val (R.assign rfl rfl) rfl rfl rfl ?_
      refine LL.nilS ?_
      refine CC.seq ?_
      refine CC.region ?_
      refine LL.val (R.move rfl rfl) rfl rfl rfl ?_
      refine LL.val (R.eqF rfl rfl rfl (by omega)) rfl rfl rfl ?_
      refine LL.val (R.move rfl rfl) rfl rfl rfl ?_
      refine LL.val (R.move rfl rfl) rfl rfl rfl ?_
      refine LL.val (R.eqT rfl rfl rfl (by omega)) rfl rfl rfl ?_
      refine LL.val (R.pick rfl rfl rfl) rfl rfl rfl ?_
      refine LL.val (R.move rfl rfl) rfl rfl rfl ?_
      refine LL.val (R.move rfl rfl) rfl rfl rfl ?_
      refine LL.val (R.geT rfl rfl rfl (by omega)) rfl rfl rfl ?_
      refine LL.val (R.pick rfl rfl rfl) rfl rfl rfl ?_
      refine LL.val (R.move rfl rfl) rfl rfl rfl ?_
      refine LL.val (R.move rfl rfl) rfl rfl rfl ?_
      refine LL.val (R.leF rfl rfl rfl (by omega)) rfl rfl rfl ?_
      refine LL.val (R.pick rfl rfl rfl) rfl rfl rfl ?_
      refine LL.val (R.assign rfl rfl) rfl rfl rfl ?_
      refine LL.nilS ?_
      refine CC.ret ?_
      refine EE.ret _ rfl rfl ?_
      exact ⟨rfl, rfl⟩
  clear h
  refine X.fn Try.func10 rfl (n := 19) rfl rfl ?_
  refine CC.seq ?_
  refine CC.region ?_
  refine LL.val (R.assign rfl rfl) rfl rfl rfl ?_
  refine LL.nilS ?_
  refine CC.seq ?_
  refine CC.region ?_
  refine LL.val (R.move rfl rfl) rfl rfl rfl ?_
  refine LL.val (R.eqF rfl rfl rfl (by omega)) rfl rfl rfl ?_
  refine LL.val (R.move rfl rfl) rfl rfl rfl ?_
  refine LL.val (R.move rfl rfl) rfl rfl rfl ?_
  refine LL.val (R.eqF rfl rfl rfl (by omega)) rfl rfl rfl ?_
  refine LL.val (R.pick rfl rfl rfl) rfl rfl rfl ?_
  refine LL.val (R.move rfl rfl) rfl rfl rfl ?_
  refine LL.skip rfl rfl ?_
  refine LL.skip rfl rfl ?_
  refine LL.val (R.pick rfl rfl rfl) rfl rfl rfl ?_
  refine LL.val (R.move rfl rfl) rfl rfl rfl ?_
  refine LL.skip rfl rfl ?_
  refine LL.skip rfl rfl ?_
  refine LL.val (R.pick rfl rfl rfl) rfl rfl rfl ?_
  refine LL.val (R.assign rfl rfl) rfl rfl rfl ?_
  refine LL.nilS ?_
  refine CC.ret ?_
  refine EE.ret _ rfl rfl ?_
  exact ⟨rfl, rfl⟩
theorem at_any (left n c : Nat) (a : Option Addr) (s : List Nat) (z : Int) (w : World) (hv : ReadsT uE 1 w (.slice a n c) s) (hn : s.length = n) (hl : n ≤ 1048576) (hz : z < n) : Calls Try.prog 22 #[.int .u64 (left : Int), .slice a n c, .int .i64 z] w fun e w' => e = .returned (.int .u64 (atW left s z : Int)) ∧ w = w' := by
  by_cases h : z < 0
  · rw [show atW left s z = left from if_pos h]
    refine X.fn Try.func22 rfl (n := 14) rfl rfl ?_
    refine CC.seq ?_
    refine CC.region ?_
    refine LL.val (R.assign rfl rfl) rfl rfl rfl ?_
    refine LL.nilS ?_
    refine CC.seq ?_
    refine CC.seq ?_
    refine CC.region ?_
    refine LL.val (R.move rfl rfl) rfl rfl rfl ?_
    refine LL.val (R.ltT rfl rfl rfl (by omega)) rfl rfl rfl ?_
    refine LL.nilS ?_
    refine CC.yes rfl ?_
    refine CC.seq ?_
    refine CC.region ?_
    refine LL.val (R.move rfl rfl) rfl rfl rfl ?_
    refine LL.val (R.assign rfl rfl) rfl rfl rfl ?_
    refine LL.nilS ?_
    refine CC.ret ?_
    refine EE.thenR ?_
    refine EE.ret _ rfl rfl ?_
    exact ⟨rfl, rfl⟩
  obtain ⟨j, rfl⟩ : ∃ j : Nat, z = j := ⟨z.toNat, by omega⟩
  have hj : s[j]? = some (atW left s j) := by
    unfold atW
    rw [if_neg h, Int.toNat_natCast, List.getElem?_eq_getElem (by omega)]
    rfl
  obtain ⟨v, hv'⟩ : ∃ v, atW left s j = v := ⟨_, rfl⟩
  rw [hv'] at hj ⊢
  obtain ⟨bb, off, rfl, lb, hcell⟩ := u_at hv hj
  have hc0 := hcell _ (Below.refl _ _)
  clear hcell
  refine X.fn Try.func22 rfl (n := 14) rfl rfl ?_
  refine CC.seq ?_
  refine CC.region ?_
  refine LL.val (R.assign rfl rfl) rfl rfl rfl ?_
  refine LL.nilS ?_
  refine CC.seq ?_
  refine CC.seq ?_
  refine CC.region ?_
  refine LL.val (R.move rfl rfl) rfl rfl rfl ?_
  refine LL.val (R.ltF rfl rfl rfl (by omega)) rfl rfl rfl ?_
  refine LL.nilS ?_
  refine CC.no rfl ?_
  refine CC.skip ?_
  refine EE.thenN ?_
  refine CC.seq ?_
  refine CC.region ?_
  refine LL.val (R.move rfl rfl) rfl rfl rfl ?_
  refine LL.val (R.move rfl rfl) rfl rfl rfl ?_
  refine LL.val (R.index rfl rfl rfl (I.ixS1 rfl (by omega))) rfl rfl rfl ?_
  refine LL.val (R.load rfl rfl (I.ld1 rfl (by assumption))) rfl rfl rfl ?_
  refine LL.val (R.assign rfl rfl) rfl rfl rfl ?_
  refine LL.nilS ?_
  refine CC.ret ?_
  refine EE.ret _ rfl rfl ?_
  exact ⟨rfl, rfl⟩
abbrev row8 : List Nat := [1, 4, 3, 6, 0, 0, 0, 0]
theorem row_any (w : World) : Calls Try.prog 35 #[] w fun e w' => ∃ g, e = .returned (.slice (some ⟨g, 0, none⟩) 8 8) ∧ ReadsT uE 1 w' (.slice (some ⟨g, 0, none⟩) 8 8) row8 ∧ w.heap.size ≤ g ∧ Below w.heap.size w w' := by
  have q := Below.refl w.heap.size w
  refine X.fn Try.func35 rfl (n := 2) rfl rfl ?_
  refine CC.seq ?_
  refine CC.region ?_
  refine LL.val (R.assign rfl rfl) rfl rfl rfl ?_
  refine LL.nilS ?_
  refine CC.seq ?_
  refine CC.region ?_
  refine LL.lit (e := 23) [Value.int IntKind.u64 1, Value.int IntKind.u64 4, Value.int IntKind.u64 3, Value.int IntKind.u64 6, Value.int IntKind.u64 0, Value.int IntKind.u64 0, Value.int IntKind.u64 0, Value.int IntKind.u64 0] 8 rfl rfl (fun _ => by kernel_rfl) rfl rfl ?_
  intro W2 g3 eg3 r4 z5 b1
  replace q := q.trans (b1.mono q.size)
  refine LL.val (R.assign rfl rfl) rfl rfl rfl ?_
  refine LL.nilS ?_
  refine CC.ret ?_
  refine EE.ret _ rfl rfl ?_
  exact ⟨_, rfl, (RowL.ownsT (base := w.heap.size) (ts := row8) uEnc r4 (by omega) (by simp [maxLen])).reads uEnc, by omega, q⟩
end Go.Proofs.Ytloflmkolnediaa

/- scan: the chapter's rows; ScanNone. -/
namespace Go.Proofs.Ytloflmkolnediaa
set_option linter.unusedVariables false
set_option linter.unusedSimpArgs false
open Go.RowKit Go.Shelf
set_option maxRecDepth 100000
set_option maxHeartbeats 8000000
def zE (z : Int) : List Value := [.int .i64 z]
theorem zEnc : Enc zE 1 := ⟨fun _ => rfl, fun t u hu => by
  simp only [zE, List.mem_singleton] at hu
  subst hu
  rfl, by decide⟩
theorem trF_at (left : Nat) (s : List Nat) : ∀ (n : Nat) (r : Rd), InvR r → ∀ x ∈ trF left s n r, x.2 = atW left s x.1 ∧ -1 ≤ x.1 ∧ x.1 < 2 * (r.slots : Int) := by
  intro n
  induction n with
  | zero => intro r _ x hx; cases hx
  | succ n ih =>
    intro r hi x hx
    unfold trF at hx
    cases hd : r.dn with
    | true => rw [hd] at hx; cases hx
    | false =>
      rw [hd] at hx
      rcases List.mem_cons.1 hx with rfl | hx
      · exact ⟨rfl, want_ge r, want_lt hi⟩
      · have := ih _ (next_inv (left := left) (s := s) hi hd).1 x hx
        rwa [show (nextR left s r).slots = r.slots from (give_key r _).2.1] at this
theorem trS_at {way : Int} {left key : Nat} {s : List Nat} : ∀ x ∈ trS way left s key, x.2 = atW left s x.1 ∧ -1 ≤ x.1 ∧ x.1 < s.length := by
  intro x hx
  unfold trS at hx
  split at hx
  · rename_i h
    obtain ⟨h0, h1, h2, h3, h4⟩ := h
    have hi := (new_inv (up := decide (way = 1)) (slots := s.length / 2) (key := key) (by omega) (by omega)).1
    have := trF_at left s _ _ hi x hx
    refine ⟨this.1, this.2.1, ?_⟩
    have e : (newR (decide (way = 1)) (s.length / 2) key).slots = s.length / 2 := by unfold newR; split <;> rfl
    rw [e] at this
    omega
  · cases hx
theorem loads_T (way : Int) (a : Option Addr) (n c : Nat) (L : List Int) (w : World) (hv : ReadsT zE 1 w (.slice a n c) L) (hn : L.length = n) (hl : n ≤ 1000) (hL : (trS way 9 row8 3).map (·.1) = L) : Calls Try.prog 36 #[.int .i64 way, .slice a n c] w fun e w' => e = .returned (.bool true) ∧ Below w.heap.size w w' := by
  have q := Below.refl w.heap.size w
  have hvF : ∀ X, Below w.heap.size w X → ReadsT zE 1 X (.slice a n c) L := fun X b => hv.up b
  clear hv
  refine X.fnM Try.func36 rfl (n := 42) rfl rfl ?_
  refine CC.seq ?_
  refine CC.region ?_
  refine LL.box [Value.slice a n c] rfl rfl rfl rfl rfl ?_
  intro W16 g17 eg17 r18 z19 b15
  replace q := q.trans (b15.mono q.size)
  have l36 := r18.lt
  refine LL.alloc ([Value.bool false]) rfl rfl rfl rfl rfl ?_
  intro W38 g39 eg39 r40 z41 b37
  replace r18 := r18.up b37
  replace b15 := b15.trans (b37.mono b15.size)
  replace q := q.trans (b37.mono q.size)
  refine LL.nilS ?_
  refine CC.seq ?_
  refine CC.region ?_
  refine LL.val (R.move rfl rfl) rfl rfl rfl ?_
  have l64 := r40.lt
  have l65 := r18.lt
  (refine LL.call (R.call rfl rfl rfl) rfl rfl rfl (row_any _) ?_; rintro e W63 ⟨gr, rfl, rv, hgr, b60⟩; refine ⟨_, rfl, ?_⟩)
  have zb60 := b60.size
  replace r40 := r40.up b60
  replace b37 := b37.trans (b60.mono b37.size)
  replace r18 := r18.up b60
  replace b15 := b15.trans (b60.mono b15.size)
  replace q := q.trans (b60.mono q.size)
  have l82 := r40.lt
  have l83 := r18.lt
  (refine LL.call (R.call rfl rfl rfl) rfl rfl rfl (trace_any way 9 8 8 3 _ row8 _ rv rfl (by omega)) ?_; rintro e W81 ⟨lb, D, rfl, hG, hDb, b78⟩; refine ⟨_, rfl, ?_⟩)
  have zb78 := b78.size
  replace rv := rv.up b78
  replace b60 := b60.trans (b78.mono b60.size)
  replace r40 := r40.up b78
  replace b37 := b37.trans (b78.mono b37.size)
  replace r18 := r18.up b78
  replace b15 := b15.trans (b78.mono b15.size)
  replace q := q.trans (b78.mono q.size)
  refine LL.val (R.assign rfl rfl) rfl rfl rfl ?_
  refine LL.nilS ?_
  refine CC.seq ?_
  refine CC.seq ?_
  refine CC.region ?_
  refine LL.val (R.move rfl rfl) rfl rfl rfl ?_
  refine LL.val (R.eqFn rfl rfl rfl rfl) rfl rfl rfl ?_
  refine LL.nilS ?_
  refine CC.no rfl ?_
  refine CC.skip ?_
  refine EE.thenN ?_
  refine CC.seq ?_
  refine CC.region ?_
  have l159 := r40.lt
  have l160 := r18.lt
  refine LL.alloc ([Value.int IntKind.i64 0]) rfl rfl rfl rfl rfl ?_
  intro W162 g163 eg163 r164 z165 b161
  replace b78 := b78.trans (b161.mono b78.size)
  replace rv := rv.up b161
  replace b60 := b60.trans (b161.mono b60.size)
  replace r40 := r40.up b161
  replace b37 := b37.trans (b161.mono b37.size)
  replace r18 := r18.up b161
  replace b15 := b15.trans (b161.mono b15.size)
  replace q := q.trans (b161.mono q.size)
  refine LL.store rfl rfl rfl rfl r164 (by exact Nat.le_of_ble_eq_true rfl) rfl rfl rfl rfl ?_
  intro W187 r188 b186 z189
  have hlb186 := r164.lt
  replace r188 : RowL W187 _ 3 [Value.int IntKind.i64 0] := r188
  clear r164
  replace b161 := b161.grown b186 b161.size (by rintro k ⟨⟩; omega)
  replace b78 := b78.grown b186 b78.size (by rintro k ⟨⟩; omega)
  replace b60 := b60.grown b186 b60.size (by rintro k ⟨⟩; omega)
  replace r40 := r40.gr b186 (by have := r40.lt; omega)
  replace b37 := b37.grown b186 b37.size (by rintro k ⟨⟩; omega)
  replace r18 := r18.gr b186 (by have := r18.lt; omega)
  replace b15 := b15.grown b186 b15.size (by rintro k ⟨⟩; omega)
  replace q := q.grown b186 q.size (by rintro k ⟨⟩; omega)
  have r164 := r188
  clear r188
  refine LL.nilS ?_
  refine CC.seq ?_
  refine CC.seq ?_
  refine CC.region ?_
  refine LL.val (R.move rfl rfl) rfl rfl rfl ?_
  refine LL.nilS ?_
  refine CC.block ?_
  obtain ⟨W0, eW⟩ : ∃ X, X = W187 := ⟨_, rfl⟩
  obtain ⟨gw, ew⟩ : ∃ g, g = g17 := ⟨_, rfl⟩
  obtain ⟨gs, es⟩ : ∃ g, g = g39 := ⟨_, rfl⟩
  obtain ⟨gn, en⟩ : ∃ g, g = g163 := ⟨_, rfl⟩
  have rw1 := r18
  have rs1 := r40
  have rn1 := r164
  have hBt := b161
  subst eW ew es en
  have hDk : ∀ k, D k → k < gn := fun k hk => by have := hDb k hk; omega
  have yq := q.size
  have lw := rw1.lt
  have ls := rs1.lt
  have ln := rn1.lt
  have hlen : (trS way 9 row8 3).length = n := by rw [← hn, ← hL, List.length_map]
  clear r18 r40 r164 rv b15 b37 b60 b78 b161
  refine CC.rangeZ (γ := Unit) (gf := 47) (lb := lb) (encs := lwE) rfl rfl hG hBt (fun k hk => by have := hDk k hk; omega) (fun _ => rfl) rfl
    (fun m pre W' => Below w.heap.size w W' ∧ RowL W' gn 3 [.int .i64 (pre.length : Int)] ∧ RowL W' gw 64 [.slice a n c] ∧ RowL W' gs 4 [.bool false]) (fun _ _ _ => False)
    (fun W' => Below w.heap.size w W' ∧ RowL W' gn 3 [.int .i64 (n : Int)] ∧ RowL W' gw 64 [.slice a n c] ∧ RowL W' gs 4 [.bool false])
    (fun m m' p X Y hs ht hm => ⟨hs.1.trans (ht.below yq hs.1.size), ht.row hs.2.1 (.inl ln), ht.row hs.2.2.1 (.inl lw), ht.row hs.2.2.2 (.inl ls)⟩)
    (fun m m' p X Y hs ht hm => hs)
    ⟨q, rn1, rw1, rs1⟩ (fun m xs W' hS hi => by rw [hS, hlen] at hi; exact hi) (fun m pre W' hp hi => hi.elim)
    (fun x _ => sl [(3, .pointer (some ⟨gw, 0, none⟩)), (4, .pointer (some ⟨gs, 0, none⟩)), (6, .pointer (some ⟨gn, 0, none⟩)), (7, .int .i64 x.1), (8, .int .u64 (x.2 : Int))]) (fun _ _ _ => True) (fun _ _ => fun _ _ _ _ _ _ _ => trivial) ?assign ?body ?after
  case assign =>
    rintro l' m pre x W Kc hm h1 hKc
    refine CC.seq ?_
    refine CC.region ?_
    refine LL.val (R.assign rfl rfl) rfl rfl rfl ?_
    refine LL.nilS ?_
    refine CC.region ?_
    refine LL.val (R.assign rfl rfl) rfl rfl rfl ?_
    refine LL.nil ?_
    exact EE.thenK fun a' F => hKc a' _ () (StaysZ.refl _ _ _) (Keeps.refl _ _) h1 (F.keep _ ⟨rfl, rfl, rfl, rfl, rfl, trivial⟩) trivial
  case body =>
    clear q rn1 rw1 rs1 hG hBt
    rintro l' m pre ⟨x, v⟩ _ W hm hl' hrl ⟨q, rn1, rw1, rs1⟩ _ ⟨xs, hxs, tt, hp⟩
    subst hxs
    have hget : (trS way 9 row8 3)[pre.length]? = some (x, v) := by rw [← hp]; simp
    have hx := trS_at _ (List.mem_of_getElem? hget)
    have hpk : pre.length < n := by rw [← hlen]; exact (List.getElem?_eq_some_iff.1 hget).1
    have hg2 : L[pre.length]? = some x := by rw [← hL, List.getElem?_map, hget]; rfl
    have hxd : (pre ++ [(x, v)]).length = pre.length + 1 := by simp
    obtain ⟨b1, o1, rfl, _, hc1⟩ := (hvF _ q).one zEnc hg2
    have c1 := hc1 _ rfl
    obtain ⟨h1, h2, h3⟩ := hx
    simp only at h1 h2 h3
    have h3' : x < ((8 : Nat) : Int) := h3
    have st := StaysZ.refl W0.heap.size m W
    have kp := Keeps.refl D W
    have yz := q.size
    have lW : W0.heap.size ≤ W.heap.size := by
      obtain ⟨r, hr⟩ := hrl
      have := (Array.getElem?_eq_some_iff.1 hr).1
      omega
    have hDn : ∀ k, D k → k < gn ∧ k ≠ gn := fun k hk => by have := hDk k hk; omega
    clear hc1 hp hget hlen hL h3 hrl
    refine CC.block ?_
    refine CC.seq ?_
    refine CC.seq ?_
    refine CC.region ?_
    refine LL.val (R.load rfl rfl (I.ld1 rfl (RowL.cell rn1 rfl))) rfl rfl rfl ?_
    refine LL.val (R.load rfl rfl (I.ld1 rfl (RowL.cell rw1 rfl))) rfl rfl rfl ?_
    refine LL.val (R.len rfl rfl rfl rfl) rfl rfl rfl ?_
    refine LL.val (R.geF rfl rfl rfl (by omega)) rfl rfl rfl ?_
    refine LL.val (R.move rfl rfl) rfl rfl rfl ?_
    refine LL.val (R.move rfl rfl) rfl rfl rfl ?_
    refine LL.val (R.load rfl rfl (I.ld1 rfl (RowL.cell rw1 rfl))) rfl rfl rfl ?_
    refine LL.val (R.load rfl rfl (I.ld1 rfl (RowL.cell rn1 rfl))) rfl rfl rfl ?_
    refine LL.val (R.index rfl rfl rfl (I.ixS1 rfl (by omega))) rfl rfl rfl ?_
    refine LL.val (R.load rfl rfl (I.ld1 rfl (by assumption))) rfl rfl rfl ?_
    refine LL.val (R.neF rfl rfl rfl (by omega)) rfl rfl rfl ?_
    refine LL.val (R.pick rfl rfl rfl) rfl rfl rfl ?_
    refine LL.val (R.move rfl rfl) rfl rfl rfl ?_
    refine LL.val (R.move rfl rfl) rfl rfl rfl ?_
    have lb145 := rn1.lt
    have lb146 := rs1.lt
    have lb147 := rw1.lt
    (refine LL.call (R.call rfl rfl rfl) rfl rfl rfl (row_any _) ?_; rintro e Wb144 ⟨gr2, rfl, rv2, hgr2, bb141⟩; refine ⟨_, rfl, ?_⟩)
    have zbb141 := bb141.size
    replace q := q.trans (bb141.mono q.size)
    replace rn1 := rn1.up bb141
    replace rs1 := rs1.up bb141
    replace rw1 := rw1.up bb141
    replace c1 := cell_up c1 bb141
    replace st := st.trans (StaysZ.of_below bb141)
    replace kp := kp.trans (Keeps.of_below (fun k hk => by have := hDk k hk; omega) bb141)
    refine LL.val (R.move rfl rfl) rfl rfl rfl ?_
    (refine LL.call (R.call rfl rfl rfl) rfl rfl rfl (at_any 9 8 8 _ row8 x _ rv2 rfl (by omega) h3') ?_; rintro e W' ⟨rfl, rfl⟩; rw [← h1]; refine ⟨_, rfl, ?_⟩)
    refine LL.val (R.neF rfl rfl rfl (by omega)) rfl rfl rfl ?_
    refine LL.val (R.pick rfl rfl rfl) rfl rfl rfl ?_
    refine LL.nilS ?_
    refine CC.no rfl ?_
    refine CC.skip ?_
    refine EE.thenN ?_
    refine CC.region ?_
    refine LL.val (R.load rfl rfl (I.ld1 rfl (RowL.cell rn1 rfl))) rfl rfl rfl ?_
    refine LL.val (R.addNc rfl rfl rfl rfl (by omega)) rfl rfl rfl ?_
    refine LL.store rfl rfl rfl rfl rn1 (by exact Nat.le_of_ble_eq_true rfl) rfl rfl rfl rfl ?_
    intro Wb222 rb223 bb221 zb224
    have hlbb221 := rn1.lt
    replace rb223 : RowL Wb222 _ 3 [Value.int IntKind.i64 ↑(pre.length + 1)] := rb223
    clear rn1
    replace rv2 := rv2.gr bb221 (by omega)
    replace q := q.grown bb221 q.size (by rintro k ⟨⟩; omega)
    replace rs1 := rs1.gr bb221 (by have := rs1.lt; omega)
    replace rw1 := rw1.gr bb221 (by have := rw1.lt; omega)
    replace st := st.trans (StaysZ.of_grown bb221 (by omega))
    replace kp := kp.trans (Keeps.of_grown bb221 fun k hk => by have := hDk k hk; omega)
    have rn1 := rb223
    clear rb223
    refine LL.nil ?_
    refine EE.inN ?_
    exact EE.roundNZ ⟨st, kp, q, by rw [hxd]; exact rn1, rw1, rs1⟩
  case after =>
    clear q rn1 rw1 rs1 hG hBt
    rintro E W hE ⟨q, rn1, rw1, rs1⟩ hE1
    have eE := (Array.getElem?_eq_some_iff.1 hE1).1
    have hE9 : gs ≠ E := by omega
    refine EE.thenN ?_
    refine CC.seq ?_
    refine CC.region ?_
    refine LL.val (R.load rfl rfl (I.ld1 rfl (RowL.cell rn1 rfl))) rfl rfl rfl ?_
    refine LL.val (R.load rfl rfl (I.ld1 rfl (RowL.cell rw1 rfl))) rfl rfl rfl ?_
    refine LL.val (R.len rfl rfl rfl rfl) rfl rfl rfl ?_
    refine LL.val (R.eqT rfl rfl rfl (by omega)) rfl rfl rfl ?_
    refine LL.store rfl rfl rfl rfl rs1 (by exact Nat.le_of_ble_eq_true rfl) rfl rfl rfl rfl ?_
    intro Wc2 rc3 bc1 zc4
    have hlbc1 := rs1.lt
    replace rc3 : RowL Wc2 _ 4 [Value.bool true] := rc3
    clear rs1
    replace q := q.grown bc1 q.size (by rintro k ⟨⟩; omega)
    replace rn1 := rn1.gr bc1 (by have := rn1.lt; omega)
    replace rw1 := rw1.gr bc1 (by have := rw1.lt; omega)
    replace hE1 := (bc1.block _ (Array.getElem?_eq_some_iff.1 hE1).1 (by simp; omega)).trans hE1
    have rs1 := rc3
    clear rc3
    refine LL.nilS ?_
    refine CC.ret ?_
    refine EE.retN1 hE1 rfl ⟨_, rfl, lv1 rfl (RowL.cell (taken_up (by assumption) (by omega)) rfl)⟩ ?_
    exact ⟨rfl, taken_bel q (by omega) (Nat.le_refl _)⟩
theorem lits_1 : (trS 1 9 row8 3).map (·.1) = [0, 1, 2, 1, 3, 2] := by decide
theorem lits_2 : (trS 2 9 row8 3).map (·.1) = [6, 4, 2, 3, 1, 2] := by decide
theorem look_1 : (lookR true 9 row8 3).found = 6 ∧ (lookR true 9 row8 3).is = true ∧ (lookR true 9 row8 5).found = 0 ∧ (lookR true 9 row8 5).is = false := by decide
theorem row_ok : rowOk 9 8 := by decide
theorem works_any (w : World) : Calls Try.prog 8 #[] w fun e w' => e = .returned (.bool true) ∧ Below w.heap.size w w' := by
  have q := Below.refl w.heap.size w
  obtain ⟨k1, k2, k3, k4⟩ := look_1
  have hk3 : ∀ (gr : Nat) (W : World), ReadsT uE 1 W (.slice (some ⟨gr, 0, none⟩) 8 8) row8 → Calls Try.prog 17 #[.int .i64 1, .int .u64 9, .slice (some ⟨gr, 0, none⟩) 8 8, .int .u64 3] W fun e w' => e = .returned (.tuple #[.int .u64 6, .bool true]) ∧ Below W.heap.size W w' := fun gr W hv => by
    have := look_T true 9 8 8 3 _ row8 W hv rfl row_ok
    rw [k1, k2] at this
    exact this
  have hk5 : ∀ (gr : Nat) (W : World), ReadsT uE 1 W (.slice (some ⟨gr, 0, none⟩) 8 8) row8 → Calls Try.prog 17 #[.int .i64 1, .int .u64 9, .slice (some ⟨gr, 0, none⟩) 8 8, .int .u64 5] W fun e w' => e = .returned (.tuple #[.int .u64 0, .bool false]) ∧ Below W.heap.size W w' := fun gr W hv => by
    have := look_T true 9 8 8 5 _ row8 W hv rfl row_ok
    rw [k3, k4] at this
    exact this
  have hnew : ∀ W : World, Calls Try.prog 9 #[.int .i64 1, .int .i64 1, .int .u64 0] W fun e w' => e = .returned (.tuple #[.pointer none, .int .i64 2]) ∧ Below W.heap.size W w' := fun W => new_F 1 1 0 W (by omega)
  clear k1 k2 k3 k4
  refine X.fn Try.func8 rfl (n := 43) rfl rfl ?_
  refine CC.seq ?_
  refine CC.region ?_
  refine LL.val (R.assign rfl rfl) rfl rfl rfl ?_
  refine LL.nilS ?_
  refine CC.seq ?_
  refine CC.region ?_
  (refine LL.call (R.call rfl rfl rfl) rfl rfl rfl (row_any _) ?_; rintro e W46 ⟨gr2, rfl, rv2, hgr2, b43⟩; refine ⟨_, rfl, ?_⟩)
  have zb43 := b43.size
  replace q := q.trans (b43.mono q.size)
  (refine LL.call (R.call rfl rfl rfl) rfl rfl rfl (hk3 _ _ rv2) ?_; rintro e W60 ⟨rfl, b57⟩; refine ⟨_, rfl, ?_⟩)
  have zb57 := b57.size
  replace rv2 := rv2.up b57
  replace b43 := b43.trans (b57.mono b43.size)
  replace q := q.trans (b57.mono q.size)
  refine LL.val (R.move rfl rfl) rfl rfl rfl ?_
  refine LL.val (R.extract rfl rfl rfl) rfl rfl rfl ?_
  refine LL.val (R.extract rfl rfl rfl) rfl rfl rfl ?_
  refine LL.val (R.assign rfl rfl) rfl rfl rfl ?_
  refine LL.val (R.assign rfl rfl) rfl rfl rfl ?_
  refine LL.nilS ?_
  refine CC.seq ?_
  refine CC.region ?_
  (refine LL.call (R.call rfl rfl rfl) rfl rfl rfl (row_any _) ?_; rintro e W277 ⟨gr2, rfl, rv2, hgr2, b274⟩; refine ⟨_, rfl, ?_⟩)
  have zb274 := b274.size
  replace b57 := b57.trans (b274.mono b57.size)
  replace b43 := b43.trans (b274.mono b43.size)
  replace q := q.trans (b274.mono q.size)
  (refine LL.call (R.call rfl rfl rfl) rfl rfl rfl (hk5 _ _ rv2) ?_; rintro e W298 ⟨rfl, b295⟩; refine ⟨_, rfl, ?_⟩)
  have zb295 := b295.size
  replace rv2 := rv2.up b295
  replace b274 := b274.trans (b295.mono b274.size)
  replace b57 := b57.trans (b295.mono b57.size)
  replace b43 := b43.trans (b295.mono b43.size)
  replace q := q.trans (b295.mono q.size)
  refine LL.val (R.move rfl rfl) rfl rfl rfl ?_
  refine LL.val (R.extract rfl rfl rfl) rfl rfl rfl ?_
  refine LL.val (R.extract rfl rfl rfl) rfl rfl rfl ?_
  refine LL.val (R.assign rfl rfl) rfl rfl rfl ?_
  refine LL.val (R.assign rfl rfl) rfl rfl rfl ?_
  refine LL.nilS ?_
  refine CC.seq ?_
  refine CC.region ?_
  (refine LL.call (R.call rfl rfl rfl) rfl rfl rfl (hnew _) ?_; rintro e W536 ⟨rfl, b533⟩; refine ⟨_, rfl, ?_⟩)
  have zb533 := b533.size
  replace b295 := b295.trans (b533.mono b295.size)
  replace rv2 := rv2.up b533
  replace b274 := b274.trans (b533.mono b274.size)
  replace b57 := b57.trans (b533.mono b57.size)
  replace b43 := b43.trans (b533.mono b43.size)
  replace q := q.trans (b533.mono q.size)
  refine LL.val (R.move rfl rfl) rfl rfl rfl ?_
  refine LL.val (R.extract rfl rfl rfl) rfl rfl rfl ?_
  refine LL.val (R.extract rfl rfl rfl) rfl rfl rfl ?_
  refine LL.val (R.assign rfl rfl) rfl rfl rfl ?_
  refine LL.val (R.assign rfl rfl) rfl rfl rfl ?_
  refine LL.nilS ?_
  refine CC.seq ?_
  refine CC.region ?_
  refine LL.lit (e := 3) [Value.int IntKind.i64 0, Value.int IntKind.i64 1, Value.int IntKind.i64 2, Value.int IntKind.i64 1, Value.int IntKind.i64 3, Value.int IntKind.i64 2] 6 rfl rfl (fun _ => by kernel_rfl) rfl rfl ?_
  intro W793 g794 eg794 r795 z796 b792
  replace b533 := b533.trans (b792.mono b533.size)
  replace b295 := b295.trans (b792.mono b295.size)
  replace rv2 := rv2.up b792
  replace b274 := b274.trans (b792.mono b274.size)
  replace b57 := b57.trans (b792.mono b57.size)
  replace b43 := b43.trans (b792.mono b43.size)
  replace q := q.trans (b792.mono q.size)
  have l833 := r795.lt
  (refine LL.call (R.call rfl rfl rfl) rfl rfl rfl (loads_T 1 _ 6 6 [0, 1, 2, 1, 3, 2] _ ((RowL.ownsT (base := 0) (ts := [0, 1, 2, 1, 3, 2]) zEnc (by assumption) (by omega) (by simp [maxLen])).reads zEnc) rfl (by omega) lits_1) ?_; rintro e W832 ⟨rfl, b829⟩; refine ⟨_, rfl, ?_⟩)
  have zb829 := b829.size
  replace r795 := r795.up b829
  replace b792 := b792.trans (b829.mono b792.size)
  replace b533 := b533.trans (b829.mono b533.size)
  replace b295 := b295.trans (b829.mono b295.size)
  replace rv2 := rv2.up b829
  replace b274 := b274.trans (b829.mono b274.size)
  replace b57 := b57.trans (b829.mono b57.size)
  replace b43 := b43.trans (b829.mono b43.size)
  replace q := q.trans (b829.mono q.size)
  refine LL.val (R.move rfl rfl) rfl rfl rfl ?_
  have l933 := r795.lt
  refine LL.lit (e := 3) [Value.int IntKind.i64 6, Value.int IntKind.i64 4, Value.int IntKind.i64 2, Value.int IntKind.i64 3, Value.int IntKind.i64 1, Value.int IntKind.i64 2] 6 rfl rfl (fun _ => by kernel_rfl) rfl rfl ?_
  intro W935 g936 eg936 r937 z938 b934
  replace b829 := b829.trans (b934.mono b829.size)
  replace r795 := r795.up b934
  replace b792 := b792.trans (b934.mono b792.size)
  replace b533 := b533.trans (b934.mono b533.size)
  replace b295 := b295.trans (b934.mono b295.size)
  replace rv2 := rv2.up b934
  replace b274 := b274.trans (b934.mono b274.size)
  replace b57 := b57.trans (b934.mono b57.size)
  replace b43 := b43.trans (b934.mono b43.size)
  replace q := q.trans (b934.mono q.size)
  have l988 := r937.lt
  have l989 := r795.lt
  (refine LL.call (R.call rfl rfl rfl) rfl rfl rfl (loads_T 2 _ 6 6 [6, 4, 2, 3, 1, 2] _ ((RowL.ownsT (base := 0) (ts := [6, 4, 2, 3, 1, 2]) zEnc (by assumption) (by omega) (by simp [maxLen])).reads zEnc) rfl (by omega) lits_2) ?_; rintro e W987 ⟨rfl, b984⟩; refine ⟨_, rfl, ?_⟩)
  have zb984 := b984.size
  replace r937 := r937.up b984
  replace b934 := b934.trans (b984.mono b934.size)
  replace b829 := b829.trans (b984.mono b829.size)
  replace r795 := r795.up b984
  replace b792 := b792.trans (b984.mono b792.size)
  replace b533 := b533.trans (b984.mono b533.size)
  replace b295 := b295.trans (b984.mono b295.size)
  replace rv2 := rv2.up b984
  replace b274 := b274.trans (b984.mono b274.size)
  replace b57 := b57.trans (b984.mono b57.size)
  replace b43 := b43.trans (b984.mono b43.size)
  replace q := q.trans (b984.mono q.size)
  refine LL.val (R.pick rfl rfl rfl) rfl rfl rfl ?_
  refine LL.val (R.move rfl rfl) rfl rfl rfl ?_
  refine LL.val (R.move rfl rfl) rfl rfl rfl ?_
  refine LL.val (R.eqT rfl rfl rfl (by omega)) rfl rfl rfl ?_
  refine LL.val (R.pick rfl rfl rfl) rfl rfl rfl ?_
  refine LL.val (R.move rfl rfl) rfl rfl rfl ?_
  refine LL.val (R.move rfl rfl) rfl rfl rfl ?_
  refine LL.val (R.pick rfl rfl rfl) rfl rfl rfl ?_
  refine LL.val (R.move rfl rfl) rfl rfl rfl ?_
  refine LL.val (R.move rfl rfl) rfl rfl rfl ?_
  refine LL.val (R.not rfl rfl) rfl rfl rfl ?_
  refine LL.val (R.pick rfl rfl rfl) rfl rfl rfl ?_
  refine LL.val (R.move rfl rfl) rfl rfl rfl ?_
  refine LL.val (R.move rfl rfl) rfl rfl rfl ?_
  refine LL.call (R.call rfl rfl rfl) rfl rfl rfl (num_any _ _) ?_
  rintro e W' ⟨rfl, rfl⟩
  refine ⟨_, rfl, ?_⟩
  refine LL.val (R.eqT rfl rfl rfl (by omega)) rfl rfl rfl ?_
  refine LL.val (R.pick rfl rfl rfl) rfl rfl rfl ?_
  refine LL.val (R.assign rfl rfl) rfl rfl rfl ?_
  refine LL.nilS ?_
  refine CC.ret ?_
  refine EE.ret _ rfl rfl ?_
  exact ⟨rfl, q⟩
theorem nones_walk (v : Int) (w : World) : Calls Try.prog 5 #[.int .u64 v] w fun e w' => e = .returned (.bool true) ∧ Below w.heap.size w w' := by
  have q := Below.refl w.heap.size w
  refine X.fn Try.func5 rfl (n := 96) rfl rfl ?_
  refine CC.seq ?_
  refine CC.region ?_
  refine LL.val (R.assign rfl rfl) rfl rfl rfl ?_
  refine LL.nilS ?_
  refine CC.seq ?_
  refine CC.region ?_
  refine LL.val (R.assign rfl rfl) rfl rfl rfl ?_
  refine LL.nilS ?_
  refine CC.seq ?_
  refine CC.region ?_
  refine LL.val (R.buildV rfl rfl (v := .agg #[Value.int IntKind.u64 0, Value.int IntKind.i64 0, Value.int IntKind.i64 0, Value.int IntKind.u64 0, Value.int IntKind.u64 0, Value.int IntKind.i64 0, Value.int IntKind.i64 0, Value.int IntKind.u64 0, Value.bool false, Value.bool false, Value.int IntKind.i64 0, Value.nilFunc]) (fun _ => by kernel_rfl)) rfl rfl rfl ?_
  refine LL.box [Value.int IntKind.u64 0, Value.int IntKind.i64 0, Value.int IntKind.i64 0, Value.int IntKind.u64 0, Value.int IntKind.u64 0, Value.int IntKind.i64 0, Value.int IntKind.i64 0, Value.int IntKind.u64 0, Value.bool false, Value.bool false, Value.int IntKind.i64 0, Value.nilFunc] rfl rfl rfl rfl rfl ?_
  intro W30 g31 eg31 r32 z33 b29
  replace q := q.trans (b29.mono q.size)
  refine LL.val (R.assign rfl rfl) rfl rfl rfl ?_
  refine LL.nilS ?_
  refine CC.seq ?_
  refine CC.region ?_
  refine LL.val (R.move rfl rfl) rfl rfl rfl ?_
  (refine LL.call (R.call rfl rfl rfl) rfl rfl rfl (wants_0) ?_; rintro e W' ⟨rfl, rfl⟩; refine ⟨_, rfl, ?_⟩)
  refine LL.val (R.move rfl rfl) rfl rfl rfl ?_
  refine LL.val (R.extract rfl rfl rfl) rfl rfl rfl ?_
  refine LL.val (R.extract rfl rfl rfl) rfl rfl rfl ?_
  refine LL.val (R.assign rfl rfl) rfl rfl rfl ?_
  refine LL.val (R.assign rfl rfl) rfl rfl rfl ?_
  refine LL.nilS ?_
  refine CC.seq ?_
  refine CC.region ?_
  refine LL.val (R.move rfl rfl) rfl rfl rfl ?_
  (refine LL.call (R.call rfl rfl rfl) rfl rfl rfl (wants_Z _ (by assumption)) ?_; rintro e W' ⟨rfl, rfl⟩; refine ⟨_, rfl, ?_⟩)
  refine LL.val (R.move rfl rfl) rfl rfl rfl ?_
  refine LL.val (R.extract rfl rfl rfl) rfl rfl rfl ?_
  refine LL.val (R.extract rfl rfl rfl) rfl rfl rfl ?_
  refine LL.val (R.assign rfl rfl) rfl rfl rfl ?_
  refine LL.val (R.assign rfl rfl) rfl rfl rfl ?_
  refine LL.nilS ?_
  refine CC.seq ?_
  refine CC.region ?_
  refine LL.val (R.move rfl rfl) rfl rfl rfl ?_
  (refine LL.call (R.call rfl rfl rfl) rfl rfl rfl (found_0) ?_; rintro e W' ⟨rfl, rfl⟩; refine ⟨_, rfl, ?_⟩)
  refine LL.val (R.move rfl rfl) rfl rfl rfl ?_
  refine LL.val (R.extract rfl rfl rfl) rfl rfl rfl ?_
  refine LL.val (R.extract rfl rfl rfl) rfl rfl rfl ?_
  refine LL.val (R.extract rfl rfl rfl) rfl rfl rfl ?_
  refine LL.val (R.assign rfl rfl) rfl rfl rfl ?_
  refine LL.val (R.assign rfl rfl) rfl rfl rfl ?_
  refine LL.val (R.assign rfl rfl) rfl rfl rfl ?_
  refine LL.nilS ?_
  refine CC.seq ?_
  refine CC.region ?_
  refine LL.val (R.move rfl rfl) rfl rfl rfl ?_
  (refine LL.call (R.call rfl rfl rfl) rfl rfl rfl (found_Z _ (by assumption)) ?_; rintro e W' ⟨rfl, rfl⟩; refine ⟨_, rfl, ?_⟩)
  refine LL.val (R.move rfl rfl) rfl rfl rfl ?_
  refine LL.val (R.extract rfl rfl rfl) rfl rfl rfl ?_
  refine LL.val (R.extract rfl rfl rfl) rfl rfl rfl ?_
  refine LL.val (R.extract rfl rfl rfl) rfl rfl rfl ?_
  refine LL.val (R.assign rfl rfl) rfl rfl rfl ?_
  refine LL.val (R.assign rfl rfl) rfl rfl rfl ?_
  refine LL.val (R.assign rfl rfl) rfl rfl rfl ?_
  refine LL.nilS ?_
  refine CC.seq ?_
  refine CC.region ?_
  refine LL.val (R.move rfl rfl) rfl rfl rfl ?_
  refine LL.val (R.move rfl rfl) rfl rfl rfl ?_
  (refine LL.call (R.call rfl rfl rfl) rfl rfl rfl (givN_0 _) ?_; rintro e W' ⟨rfl, rfl⟩; refine ⟨_, rfl, ?_⟩)
  refine LL.call (R.call rfl rfl rfl) rfl rfl rfl (num_any _ _) ?_
  rintro e W' ⟨rfl, rfl⟩
  refine ⟨_, rfl, ?_⟩
  refine LL.val (R.eqT rfl rfl rfl (by omega)) rfl rfl rfl ?_
  refine LL.val (R.move rfl rfl) rfl rfl rfl ?_
  refine LL.val (R.move rfl rfl) rfl rfl rfl ?_
  refine LL.val (R.move rfl rfl) rfl rfl rfl ?_
  (refine LL.call (R.call rfl rfl rfl) rfl rfl rfl (givN_Z _ _ (by assumption)) ?_; rintro e W' ⟨rfl, rfl⟩; refine ⟨_, rfl, ?_⟩)
  refine LL.call (R.call rfl rfl rfl) rfl rfl rfl (num_any _ _) ?_
  rintro e W' ⟨rfl, rfl⟩
  refine ⟨_, rfl, ?_⟩
  refine LL.val (R.eqT rfl rfl rfl (by omega)) rfl rfl rfl ?_
  refine LL.val (R.pick rfl rfl rfl) rfl rfl rfl ?_
  refine LL.val (R.move rfl rfl) rfl rfl rfl ?_
  refine LL.val (R.move rfl rfl) rfl rfl rfl ?_
  refine LL.val (R.not rfl rfl) rfl rfl rfl ?_
  refine LL.val (R.pick rfl rfl rfl) rfl rfl rfl ?_
  refine LL.val (R.move rfl rfl) rfl rfl rfl ?_
  refine LL.val (R.move rfl rfl) rfl rfl rfl ?_
  refine LL.val (R.not rfl rfl) rfl rfl rfl ?_
  refine LL.val (R.pick rfl rfl rfl) rfl rfl rfl ?_
  refine LL.val (R.move rfl rfl) rfl rfl rfl ?_
  refine LL.val (R.move rfl rfl) rfl rfl rfl ?_
  refine LL.val (R.not rfl rfl) rfl rfl rfl ?_
  refine LL.val (R.pick rfl rfl rfl) rfl rfl rfl ?_
  refine LL.val (R.move rfl rfl) rfl rfl rfl ?_
  refine LL.val (R.move rfl rfl) rfl rfl rfl ?_
  refine LL.val (R.not rfl rfl) rfl rfl rfl ?_
  refine LL.val (R.pick rfl rfl rfl) rfl rfl rfl ?_
  refine LL.val (R.move rfl rfl) rfl rfl rfl ?_
  refine LL.val (R.move rfl rfl) rfl rfl rfl ?_
  refine LL.val (R.not rfl rfl) rfl rfl rfl ?_
  refine LL.val (R.pick rfl rfl rfl) rfl rfl rfl ?_
  refine LL.val (R.move rfl rfl) rfl rfl rfl ?_
  refine LL.val (R.move rfl rfl) rfl rfl rfl ?_
  refine LL.val (R.not rfl rfl) rfl rfl rfl ?_
  refine LL.val (R.pick rfl rfl rfl) rfl rfl rfl ?_
  refine LL.val (R.move rfl rfl) rfl rfl rfl ?_
  refine LL.val (R.move rfl rfl) rfl rfl rfl ?_
  (refine LL.call (R.call rfl rfl rfl) rfl rfl rfl (loads_0) ?_; rintro e W' ⟨rfl, rfl⟩; refine ⟨_, rfl, ?_⟩)
  refine LL.val (R.move rfl rfl) rfl rfl rfl ?_
  (refine LL.call (R.call rfl rfl rfl) rfl rfl rfl (loads_Z _ (by assumption)) ?_; rintro e W' ⟨rfl, rfl⟩; refine ⟨_, rfl, ?_⟩)
  refine LL.val (R.addIz (z := 0) rfl rfl rfl (by decide) (by decide)) rfl rfl rfl ?_
  refine LL.val (R.eqT rfl rfl rfl (by omega)) rfl rfl rfl ?_
  refine LL.val (R.pick rfl rfl rfl) rfl rfl rfl ?_
  refine LL.val (R.move rfl rfl) rfl rfl rfl ?_
  refine LL.val (R.move rfl rfl) rfl rfl rfl ?_
  (refine LL.call (R.call rfl rfl rfl) rfl rfl rfl (cop_0) ?_; rintro e W' ⟨rfl, rfl⟩; refine ⟨_, rfl, ?_⟩)
  refine LL.val (R.eqPtr rfl rfl rfl rfl rfl) rfl rfl rfl ?_
  refine LL.val (R.pick rfl rfl rfl) rfl rfl rfl ?_
  refine LL.val (R.move rfl rfl) rfl rfl rfl ?_
  refine LL.val (R.move rfl rfl) rfl rfl rfl ?_
  (refine LL.call (R.call rfl rfl rfl) rfl rfl rfl (cop_Z _ (by assumption)) ?_; rintro e W' ⟨rfl, rfl⟩; refine ⟨_, rfl, ?_⟩)
  refine LL.val (R.eqPtr rfl rfl rfl rfl rfl) rfl rfl rfl ?_
  refine LL.val (R.pick rfl rfl rfl) rfl rfl rfl ?_
  refine LL.val (R.move rfl rfl) rfl rfl rfl ?_
  have l742 := r32.lt
  (refine LL.call (R.call rfl rfl rfl) rfl rfl rfl (works_any _) ?_; rintro e W741 ⟨rfl, b738⟩; refine ⟨_, rfl, ?_⟩)
  have zb738 := b738.size
  replace r32 := r32.up b738
  replace b29 := b29.trans (b738.mono b29.size)
  replace q := q.trans (b738.mono q.size)
  refine LL.val (R.pick rfl rfl rfl) rfl rfl rfl ?_
  refine LL.val (R.assign rfl rfl) rfl rfl rfl ?_
  refine LL.nilS ?_
  refine CC.ret ?_
  refine EE.ret _ rfl rfl ?_
  exact ⟨rfl, q⟩
end Go.Proofs.Ytloflmkolnediaa

/- scan: ScanLooks: what it hangs on. -/
namespace Go.Proofs.Ytloflmkolnediaa
set_option linter.unusedVariables false
set_option linter.unusedSimpArgs false
open Go.RowKit Go.Shelf
set_option maxRecDepth 100000
set_option maxHeartbeats 16000000
/-- The cells of a reader of the document. -/
structure Dz where
  x0 : Int
  x1 : Int
  x2 : Int
  x3 : Int
  x4 : Int
  x5 : Int
  x6 : Int
  y7 : Bool
  y8 : Bool
  x9 : Int
abbrev dzL (x0 x1 x2 x3 x4 x5 x6 : Int) (y7 y8 : Bool) (x9 : Int) : List Value := [.int .i64 x0, .int .i64 x1, .int .i64 x2, .int .i64 x3, .int .u64 x4, .int .u64 x5, .int .u64 x6, .bool y7, .bool y8, .int .i64 x9]
abbrev dzA (z : Dz) : Value := .agg #[.int .i64 z.x0, .int .i64 z.x1, .int .i64 z.x2, .int .i64 z.x3, .int .u64 z.x4, .int .u64 z.x5, .int .u64 z.x6, .bool z.y7, .bool z.y8, .int .i64 z.x9]
def dzD (d : Dr) : Dz := ⟨wayD d.k, d.slots, d.slot, stepD d.k, d.key, d.ptr, d.ahead, d.dn, d.is, d.loads⟩
/-- What ScanLooks hangs on: what is found, what the document finds, the loads, and how its reader stands behind so many. -/
structure LkH (way : Int) (left n key : Nat) (s : List Nat) (p : Nat) (b fine : Bool) (want : Dz) (z0 : Dz) (K : Nat) (St : Nat → Dz → Prop) : Prop where
  look : ∀ (a : Option Addr) (c : Nat) (W : World), ReadsT uE 1 W (.slice a n c) s → Calls Try.prog 17 #[.int .i64 way, .int .u64 (left : Int), .slice a n c, .int .u64 (key : Int)] W fun e w' => e = .returned (.tuple #[.int .u64 (p : Int), .bool b]) ∧ Below W.heap.size W w'
  dlook : ∀ (a : Option Addr) (c : Nat) (W : World), ReadsT uE 1 W (.slice a n c) s → Calls Try.prog 18 #[.int .i64 way, .int .u64 (left : Int), .slice a n c, .int .u64 (key : Int)] W fun e w' => e = .returned (.tuple #[dzA want, .bool fine]) ∧ Below W.heap.size W w'
  found : ∀ W : World, Calls Try.prog 19 #[dzA want] W fun e w' => e = .returned (.tuple #[.int .u64 (p : Int), .bool b]) ∧ Below W.heap.size W w'
  loads : want.x9 = (K : Int)
  dnew : ∀ W : World, Calls Try.prog 12 #[.int .i64 way, .int .i64 ((n / 2 : Nat) : Int), .int .u64 (key : Int)] W fun e w' => e = .returned (dzA z0) ∧ Below W.heap.size W w'
  st0 : St 0 z0
  len : (trS way left s key).length = K
  small : K ≤ 112
  step : ∀ (i : Nat) (x : Int × Nat) (z : Dz), (trS way left s key)[i]? = some x → St i z → fine = true ∧ z.y7 = false ∧ (∀ W : World, Calls Try.prog 21 #[dzA z] W fun e w' => e = .returned (.int .i64 x.1) ∧ Below W.heap.size W w') ∧ ∃ z', St (i + 1) z' ∧ ∀ W : World, Calls Try.prog 16 #[dzA z, .int .u64 (x.2 : Int)] W fun e w' => e = .returned (dzA z') ∧ Below W.heap.size W w'
theorem trL_get {left : Nat} {s : List Nat} : ∀ (i : Nat) (r : Rd) (x : Int × Nat), InvR r → (trL left s r)[i]? = some x → (runF left s i r).dn = false ∧ x = (wantR (runF left s i r), atW left s (wantR (runF left s i r))) ∧ InvR (runF left s i r) ∧ runF left s (i + 1) r = nextR left s (runF left s i r) := by
  intro i
  induction i with
  | zero =>
    intro r x hi hx
    cases hd : r.dn with
    | true => rw [trL_dn hd] at hx; cases hx
    | false =>
      rw [trL_next hi hd] at hx
      simp only [List.getElem?_cons_zero, Option.some.injEq] at hx
      refine ⟨hd, hx.symm, hi, ?_⟩
      simp only [runF, hd, Bool.false_eq_true, if_false]
  | succ i ih =>
    intro r x hi hx
    cases hd : r.dn with
    | true => rw [trL_dn hd] at hx; cases hx
    | false =>
      rw [trL_next hi hd, List.getElem?_cons_succ] at hx
      have := ih _ x (next_inv (left := left) (s := s) hi hd).1 hx
      have e : ∀ m, runF left s (m + 1) r = runF left s m (nextR left s r) := fun m => by simp only [runF, hd, Bool.false_eq_true, if_false]
      rw [e i, e (i + 1)]
      exact this
theorem dz_eq (d : Dr) : dzA (dzD d) = drA d := rfl
end Go.Proofs.Ytloflmkolnediaa

/- scan: ScanLooks: the walk. -/
namespace Go.Proofs.Ytloflmkolnediaa
set_option linter.unusedVariables false
set_option linter.unusedSimpArgs false
open Go.RowKit Go.Shelf
set_option maxRecDepth 100000
set_option maxHeartbeats 16000000
section
variable {α : Type} {enc : α → List Value} {k : Nat} {P : Program} {ops : Array Oper} {ok : World → Prop} {n i : Nat} {D : List Deferred} {M : Slots} {w : World} {o : Oper} {K : Slots → World → Prop} {T e : TypeId} {z : Value} {bytes : Nat}
theorem SR.append0 {xs : Array Operand} {g : Nat} {vx : Value} {us : List α} (hi : ops[i]? = some o) (ho : o.op = .call { callee := .builtin .append, args := xs, argTypes := #[T, T] }) (hx : evsM M xs.toList = some [.slice (some ⟨g, 0, none⟩) 0 0, vx]) (E : Enc enc k) (I : ElT P T e z k bytes) (hrow : RowL w g e []) (hr : ReadsT enc k w vx us)
    (h63 : us.length ≤ maxLen) (hb : us.length * bytes ≤ 140737488355328) (hd : dstB n o.dst = true) (hg : wantB ops M o.guard = some true)
    (c : ∀ v' w', OwnsT enc k w' g e v' us → Below w.heap.size w w' → ok w' ∧ K (putM M o.dst v') w') : SR P ops ok i K n D M w := by
  have hown : OwnsT enc k w g e (.slice (some ⟨g, 0, none⟩) 0 0) [] := RowL.ownsT (ts := []) E hrow (Nat.le_refl _) (by simp [maxLen])
  obtain ⟨v', w', h1, h2, h3⟩ := run_append_t0 E I o.type hown hr h63 hb (Nat.le_of_lt hrow.lt)
  have h := c v' w' h2 h3
  refine SR.val (v := v') hi (R.builtin ho hx fun b => ?_) hd hg h.1 h.2
  unfold builtin
  simp only [Sem.run_bind, h1, Result.andThen_ok, Sem.run_pure]
end
structure LvL (W w : World) (gl gs gm gr gw gf gt n c K : Nat) (left : Nat) (many : Int) (a : Option Addr) (u0 u1 u2 u3 u4 u5 u6 : Int) (v7 v8 fine : Bool) (tv : Int) : Prop where
  rl : RowL W gl 23 [.int .u64 (left : Int)]
  rs : RowL W gs 24 [.slice a n c]
  rm : RowL W gm 3 [.int .i64 many]
  rr : RowL W gr 4 [.bool false]
  rw : RowL W gw 33 [.int .i64 u0, .int .i64 u1, .int .i64 u2, .int .i64 u3, .int .u64 u4, .int .u64 u5, .int .u64 u6, .bool v7, .bool v8, .int .i64 (K : Int)]
  rf : RowL W gf 4 [.bool fine]
  rt : RowL W gt 3 [.int .i64 tv]
  q : Below w.heap.size w W
theorem LvL.lift {W W' w : World} {gl gs gm gr gw gf gt n c K : Nat} {left : Nat} {many : Int} {a : Option Addr} {u0 u1 u2 u3 u4 u5 u6 : Int} {v7 v8 fine : Bool} {tv : Int} (h : LvL W w gl gs gm gr gw gf gt n c K left many a u0 u1 u2 u3 u4 u5 u6 v7 v8 fine tv) (hb : Below W.heap.size W W') : LvL W' w gl gs gm gr gw gf gt n c K left many a u0 u1 u2 u3 u4 u5 u6 v7 v8 fine tv :=
  ⟨h.rl.up hb, h.rs.up hb, h.rm.up hb, h.rr.up hb, h.rw.up hb, h.rf.up hb, h.rt.up hb, h.q.trans (hb.mono h.q.size)⟩
theorem looks_core {way : Int} {left n key : Nat} {s : List Nat} {p : Nat} {b fine : Bool} {z0 : Dz} {K : Nat} {St : Nat → Dz → Prop} {u0 u1 u2 u3 u4 u5 u6 : Int} {v7 v8 : Bool} (H : LkH way left n key s p b fine ⟨u0, u1, u2, u3, u4, u5, u6, v7, v8, (K : Int)⟩ z0 K St) (many : Int) (a : Option Addr) (c : Nat) (w : World) (hv : ReadsT uE 1 w (.slice a n c) s) (hn : s.length = n) (h80 : n ≤ 80) : Calls Try.prog 4 #[.int .i64 way, .int .u64 (left : Int), .slice a n c, .int .u64 (key : Int), .int .i64 many] w fun e w' => e = .returned (.bool true) ∧ Below w.heap.size w w' := by
  have q := Below.refl w.heap.size w
  have hvF : ∀ X, Below w.heap.size w X → ReadsT uE 1 X (.slice a n c) s := fun X b => hv.up b
  have hK := H.small
  have hDL : ∀ (a : Option Addr) (c : Nat) (W : World), ReadsT uE 1 W (.slice a n c) s → Calls Try.prog 18 #[.int .i64 way, .int .u64 (left : Int), .slice a n c, .int .u64 (key : Int)] W fun e w' => e = .returned (.tuple #[.agg #[.int .i64 u0, .int .i64 u1, .int .i64 u2, .int .i64 u3, .int .u64 u4, .int .u64 u5, .int .u64 u6, .bool v7, .bool v8, .int .i64 (K : Int)], .bool fine]) ∧ Below W.heap.size W w' := H.dlook
  have hFo : ∀ W : World, Calls Try.prog 19 #[.agg #[.int .i64 u0, .int .i64 u1, .int .i64 u2, .int .i64 u3, .int .u64 u4, .int .u64 u5, .int .u64 u6, .bool v7, .bool v8, .int .i64 (K : Int)]] W fun e w' => e = .returned (.tuple #[.int .u64 (p : Int), .bool b]) ∧ Below W.heap.size W w' := H.found
  obtain ⟨t0, t1, t2, t3, t4, t5, t6, y7, y8, t9⟩ := z0
  have hDN : ∀ W : World, Calls Try.prog 12 #[.int .i64 way, .int .i64 ((n / 2 : Nat) : Int), .int .u64 (key : Int)] W fun e w' => e = .returned (.agg #[.int .i64 t0, .int .i64 t1, .int .i64 t2, .int .i64 t3, .int .u64 t4, .int .u64 t5, .int .u64 t6, .bool y7, .bool y8, .int .i64 t9]) ∧ Below W.heap.size W w' := H.dnew
  have hlk := H.look
  have hst0 := H.st0
  have hlen := H.len
  have hstep := H.step
  clear hv H
  refine X.fnM Try.func4 rfl (n := 135) rfl rfl ?_
  refine CC.seq ?_
  refine CC.region ?_
  refine LL.box [Value.int IntKind.u64 ↑left] rfl rfl rfl rfl rfl ?_
  intro W37 g38 eg38 r39 z40 b36
  replace q := q.trans (b36.mono q.size)
  have l81 := r39.lt
  refine LL.box [Value.slice a n c] rfl rfl rfl rfl rfl ?_
  intro W83 g84 eg84 r85 z86 b82
  replace r39 := r39.up b82
  replace b36 := b36.trans (b82.mono b36.size)
  replace q := q.trans (b82.mono q.size)
  have l132 := r85.lt
  have l133 := r39.lt
  refine LL.box [Value.int IntKind.i64 many] rfl rfl rfl rfl rfl ?_
  intro W135 g136 eg136 r137 z138 b134
  replace r85 := r85.up b134
  replace b82 := b82.trans (b134.mono b82.size)
  replace r39 := r39.up b134
  replace b36 := b36.trans (b134.mono b36.size)
  replace q := q.trans (b134.mono q.size)
  have l189 := r137.lt
  have l190 := r85.lt
  have l191 := r39.lt
  refine LL.alloc ([Value.bool false]) rfl rfl rfl rfl rfl ?_
  intro W193 g194 eg194 r195 z196 b192
  replace r137 := r137.up b192
  replace b134 := b134.trans (b192.mono b134.size)
  replace r85 := r85.up b192
  replace b82 := b82.trans (b192.mono b82.size)
  replace r39 := r39.up b192
  replace b36 := b36.trans (b192.mono b36.size)
  replace q := q.trans (b192.mono q.size)
  refine LL.nilS ?_
  refine CC.seq ?_
  refine CC.seq ?_
  refine CC.region ?_
  refine LL.val (R.load rfl rfl (I.ld1 rfl (RowL.cell r85 rfl))) rfl rfl rfl ?_
  refine LL.val (R.len rfl rfl rfl rfl) rfl rfl rfl ?_
  refine LL.val (R.gtF rfl rfl rfl (by omega)) rfl rfl rfl ?_
  refine LL.nilS ?_
  refine CC.no rfl ?_
  refine CC.skip ?_
  refine EE.thenN ?_
  refine CC.seq ?_
  refine CC.freeZ (fun W_ j => j < W_.heap.size ∧ (True)) (by kernel_rfl) (by kernel_rfl) (fun W363 b362 z364 => ?_)
  replace r195 := r195.up b362
  replace b192 := b192.trans (b362.mono b192.size)
  replace r137 := r137.up b362
  replace b134 := b134.trans (b362.mono b134.size)
  replace r85 := r85.up b362
  replace b82 := b82.trans (b362.mono b82.size)
  replace r39 := r39.up b362
  replace b36 := b36.trans (b362.mono b36.size)
  replace q := q.trans (b362.mono q.size)
  have hok : Kept (fun j => j < W363.heap.size ∧ (True)) W363 W363 := Kept.refl _ _
  have fzr195 := fzRow (K := fun j => j < W363.heap.size ∧ (True)) r195 ⟨r195.lt, (by first | trivial | omega)⟩
  have fzr137 := fzRow (K := fun j => j < W363.heap.size ∧ (True)) r137 ⟨r137.lt, (by first | trivial | omega)⟩
  have fzr85 := fzRow (K := fun j => j < W363.heap.size ∧ (True)) r85 ⟨r85.lt, (by first | trivial | omega)⟩
  have fzr39 := fzRow (K := fun j => j < W363.heap.size ∧ (True)) r39 ⟨r39.lt, (by first | trivial | omega)⟩
  refine AA.pure 0 rfl hok (by kernel_rfl) (fun w' b' => R.move rfl rfl) rfl rfl ?_
  refine AA.pure 1 rfl hok (by kernel_rfl) (fun w' b' => R.load rfl rfl (I.ld1 rfl (RowL.cell (fzr39 w' b') rfl))) rfl rfl ?_
  refine AA.pure 3 rfl hok (by kernel_rfl) (fun w' b' => R.load rfl rfl (I.ld1 rfl (RowL.cell (fzr85 w' b') rfl))) rfl rfl ?_
  refine AA.pure 5 rfl hok (by kernel_rfl) (fun w' b' => R.move rfl rfl) rfl rfl ?_
  refine AA.one 2 (by kernel_rfl) ?_
  have l420 := r195.lt
  have l421 := r137.lt
  have l422 := r85.lt
  have l423 := r39.lt
  refine ZR.lit (e := 23) [] 0 rfl rfl rfl (fun _ => by kernel_rfl) rfl rfl ?_
  intro W425 g426 eg426 r427 z428 b424
  replace b362 := b362.trans (b424.mono b362.size)
  replace r195 := r195.up b424
  replace b192 := b192.trans (b424.mono b192.size)
  replace r137 := r137.up b424
  replace b134 := b134.trans (b424.mono b134.size)
  replace r85 := r85.up b424
  replace b82 := b82.trans (b424.mono b82.size)
  replace r39 := r39.up b424
  replace b36 := b36.trans (b424.mono b36.size)
  replace q := q.trans (b424.mono q.size)
  replace hok := hok.trans (bkept b424 (fun j h => by have := h.1; have := hok.size; omega))
  have y429 := hok.size
  refine ⟨hok, ?_⟩
  refine AA.one 4 (by kernel_rfl) ?_
  have l434 := r427.lt
  have l435 := r195.lt
  have l436 := r137.lt
  have l437 := r85.lt
  have l438 := r39.lt
  (refine SR.append0 rfl rfl rfl uEnc ElU (by assumption) (hvF _ q) (by simp only [maxLen]; omega) (by omega) rfl rfl ?_; intro v' W433 o1 b430; obtain ⟨a1, c1, rfl, hc1⟩ := (o1.reads uEnc).form hn)
  have zb430 := b430.size
  replace r427 := r427.up b430
  replace b424 := b424.trans (b430.mono b424.size)
  replace b362 := b362.trans (b430.mono b362.size)
  replace r195 := r195.up b430
  replace b192 := b192.trans (b430.mono b192.size)
  replace r137 := r137.up b430
  replace b134 := b134.trans (b430.mono b134.size)
  replace r85 := r85.up b430
  replace b82 := b82.trans (b430.mono b82.size)
  replace r39 := r39.up b430
  replace b36 := b36.trans (b430.mono b36.size)
  replace q := q.trans (b430.mono q.size)
  replace hok := hok.trans (bkept b430 (fun j h => by have := h.1; have := hok.size; omega))
  have y442 := hok.size
  refine ⟨hok, ?_⟩
  refine AA.one 6 (by kernel_rfl) ?_
  have l459 := r427.lt
  have l460 := r195.lt
  have l461 := r137.lt
  have l462 := r85.lt
  have l463 := r39.lt
  (refine SR.call rfl (R.call rfl rfl rfl) rfl rfl (hlk _ _ _ (o1.reads uEnc)) ?_; rintro e W458 ⟨rfl, b455⟩; refine ⟨_, rfl, ?_⟩)
  have zb455 := b455.size
  replace b430 := b430.trans (b455.mono b430.size)
  replace o1 := o1.up b455
  replace r427 := r427.up b455
  replace b424 := b424.trans (b455.mono b424.size)
  replace b362 := b362.trans (b455.mono b362.size)
  replace r195 := r195.up b455
  replace b192 := b192.trans (b455.mono b192.size)
  replace r137 := r137.up b455
  replace b134 := b134.trans (b455.mono b134.size)
  replace r85 := r85.up b455
  replace b82 := b82.trans (b455.mono b82.size)
  replace r39 := r39.up b455
  replace b36 := b36.trans (b455.mono b36.size)
  replace q := q.trans (b455.mono q.size)
  replace hok := hok.trans (bkept b455 (fun j h => by have := h.1; have := hok.size; omega))
  have y467 := hok.size
  refine ⟨hok, ?_⟩
  refine AA.pure 7 rfl hok (by kernel_rfl) (fun w' b' => R.move rfl rfl) rfl rfl ?_
  refine AA.pure 8 rfl hok (by kernel_rfl) (fun w' b' => R.extract rfl rfl rfl) rfl rfl ?_
  refine AA.pure 9 rfl hok (by kernel_rfl) (fun w' b' => R.extract rfl rfl rfl) rfl rfl ?_
  refine AA.pure 10 rfl hok (by kernel_rfl) (fun w' b' => R.assign rfl rfl) rfl rfl ?_
  refine AA.pure 11 rfl hok (by kernel_rfl) (fun w' b' => R.assign rfl rfl) rfl rfl ?_
  refine AA.done rfl ?_
  clear fzr195 fzr137 fzr85 fzr39 hok
  refine EE.thenN ?_
  refine CC.seq ?_
  refine CC.region ?_
  refine LL.val (R.move rfl rfl) rfl rfl rfl ?_
  refine LL.val (R.load rfl rfl (I.ld1 rfl (RowL.cell r39 rfl))) rfl rfl rfl ?_
  refine LL.val (R.load rfl rfl (I.ld1 rfl (RowL.cell r85 rfl))) rfl rfl rfl ?_
  refine LL.val (R.move rfl rfl) rfl rfl rfl ?_
  have l736 := r427.lt
  have l737 := r195.lt
  have l738 := r137.lt
  have l739 := r85.lt
  have l740 := r39.lt
  (refine LL.call (R.call rfl rfl rfl) rfl rfl rfl (hDL _ _ _ (hvF _ q)) ?_; rintro e W735 ⟨rfl, b732⟩; refine ⟨_, rfl, ?_⟩)
  have zb732 := b732.size
  replace b455 := b455.trans (b732.mono b455.size)
  replace b430 := b430.trans (b732.mono b430.size)
  replace o1 := o1.up b732
  replace r427 := r427.up b732
  replace b424 := b424.trans (b732.mono b424.size)
  replace b362 := b362.trans (b732.mono b362.size)
  replace r195 := r195.up b732
  replace b192 := b192.trans (b732.mono b192.size)
  replace r137 := r137.up b732
  replace b134 := b134.trans (b732.mono b134.size)
  replace r85 := r85.up b732
  replace b82 := b82.trans (b732.mono b82.size)
  replace r39 := r39.up b732
  replace b36 := b36.trans (b732.mono b36.size)
  replace q := q.trans (b732.mono q.size)
  refine LL.val (R.move rfl rfl) rfl rfl rfl ?_
  refine LL.val (R.extract rfl rfl rfl) rfl rfl rfl ?_
  refine LL.val (R.extract rfl rfl rfl) rfl rfl rfl ?_
  have l984 := r427.lt
  have l985 := r195.lt
  have l986 := r137.lt
  have l987 := r85.lt
  have l988 := r39.lt
  refine LL.alloc ([Value.int IntKind.i64 0, Value.int IntKind.i64 0, Value.int IntKind.i64 0, Value.int IntKind.i64 0, Value.int IntKind.u64 0, Value.int IntKind.u64 0, Value.int IntKind.u64 0, Value.bool false, Value.bool false, Value.int IntKind.i64 0]) rfl rfl rfl rfl rfl ?_
  intro W990 g991 eg991 r992 z993 b989
  replace b732 := b732.trans (b989.mono b732.size)
  replace b455 := b455.trans (b989.mono b455.size)
  replace b430 := b430.trans (b989.mono b430.size)
  replace o1 := o1.up b989
  replace r427 := r427.up b989
  replace b424 := b424.trans (b989.mono b424.size)
  replace b362 := b362.trans (b989.mono b362.size)
  replace r195 := r195.up b989
  replace b192 := b192.trans (b989.mono b192.size)
  replace r137 := r137.up b989
  replace b134 := b134.trans (b989.mono b134.size)
  replace r85 := r85.up b989
  replace b82 := b82.trans (b989.mono b82.size)
  replace r39 := r39.up b989
  replace b36 := b36.trans (b989.mono b36.size)
  replace q := q.trans (b989.mono q.size)
  have l1059 := r992.lt
  have l1060 := r427.lt
  have l1061 := r195.lt
  have l1062 := r137.lt
  have l1063 := r85.lt
  have l1064 := r39.lt
  refine LL.alloc ([Value.bool false]) rfl rfl rfl rfl rfl ?_
  intro W1066 g1067 eg1067 r1068 z1069 b1065
  replace r992 := r992.up b1065
  replace b989 := b989.trans (b1065.mono b989.size)
  replace b732 := b732.trans (b1065.mono b732.size)
  replace b455 := b455.trans (b1065.mono b455.size)
  replace b430 := b430.trans (b1065.mono b430.size)
  replace o1 := o1.up b1065
  replace r427 := r427.up b1065
  replace b424 := b424.trans (b1065.mono b424.size)
  replace b362 := b362.trans (b1065.mono b362.size)
  replace r195 := r195.up b1065
  replace b192 := b192.trans (b1065.mono b192.size)
  replace r137 := r137.up b1065
  replace b134 := b134.trans (b1065.mono b134.size)
  replace r85 := r85.up b1065
  replace b82 := b82.trans (b1065.mono b82.size)
  replace r39 := r39.up b1065
  replace b36 := b36.trans (b1065.mono b36.size)
  replace q := q.trans (b1065.mono q.size)
  refine LL.storeN (vs := [Value.int IntKind.i64 u0, Value.int IntKind.i64 u1, Value.int IntKind.i64 u2, Value.int IntKind.i64 u3, Value.int IntKind.u64 u4, Value.int IntKind.u64 u5, Value.int IntKind.u64 u6, Value.bool v7, Value.bool v8, Value.int IntKind.i64 ↑K]) rfl rfl rfl rfl r992 (by exact Nat.le_of_ble_eq_true rfl) (ones_of rfl) rfl rfl ?_
  intro W1141 r1142 b1140 z1143
  have hlb1140 := r992.lt
  replace r1142 : RowL W1141 _ 33 [Value.int IntKind.i64 u0, Value.int IntKind.i64 u1, Value.int IntKind.i64 u2, Value.int IntKind.i64 u3, Value.int IntKind.u64 u4, Value.int IntKind.u64 u5, Value.int IntKind.u64 u6, Value.bool v7, Value.bool v8, Value.int IntKind.i64 ↑K] := r1142
  clear r992
  replace r1068 := r1068.gr b1140 (by have := r1068.lt; omega)
  replace b989 := b989.grown b1140 b989.size (by rintro k ⟨⟩; omega)
  replace b732 := b732.grown b1140 b732.size (by rintro k ⟨⟩; omega)
  replace b455 := b455.grown b1140 b455.size (by rintro k ⟨⟩; omega)
  replace b430 := b430.grown b1140 b430.size (by rintro k ⟨⟩; omega)
  replace r427 := r427.gr b1140 (by have := r427.lt; omega)
  replace b424 := b424.grown b1140 b424.size (by rintro k ⟨⟩; omega)
  replace b362 := b362.grown b1140 b362.size (by rintro k ⟨⟩; omega)
  replace r195 := r195.gr b1140 (by have := r195.lt; omega)
  replace b192 := b192.grown b1140 b192.size (by rintro k ⟨⟩; omega)
  replace r137 := r137.gr b1140 (by have := r137.lt; omega)
  replace b134 := b134.grown b1140 b134.size (by rintro k ⟨⟩; omega)
  replace r85 := r85.gr b1140 (by have := r85.lt; omega)
  replace b82 := b82.grown b1140 b82.size (by rintro k ⟨⟩; omega)
  replace r39 := r39.gr b1140 (by have := r39.lt; omega)
  replace b36 := b36.grown b1140 b36.size (by rintro k ⟨⟩; omega)
  replace q := q.grown b1140 q.size (by rintro k ⟨⟩; omega)
  have r992 := r1142
  clear r1142
  refine LL.store rfl rfl rfl rfl r1068 (by exact Nat.le_of_ble_eq_true rfl) rfl rfl rfl rfl ?_
  intro W1215 r1216 b1214 z1217
  have hlb1214 := r1068.lt
  replace r1216 : RowL W1215 _ 4 [Value.bool fine] := r1216
  clear r1068
  replace b989 := b989.grown b1214 b989.size (by rintro k ⟨⟩; omega)
  replace b732 := b732.grown b1214 b732.size (by rintro k ⟨⟩; omega)
  replace b455 := b455.grown b1214 b455.size (by rintro k ⟨⟩; omega)
  replace b430 := b430.grown b1214 b430.size (by rintro k ⟨⟩; omega)
  replace r427 := r427.gr b1214 (by have := r427.lt; omega)
  replace b424 := b424.grown b1214 b424.size (by rintro k ⟨⟩; omega)
  replace b362 := b362.grown b1214 b362.size (by rintro k ⟨⟩; omega)
  replace r195 := r195.gr b1214 (by have := r195.lt; omega)
  replace b192 := b192.grown b1214 b192.size (by rintro k ⟨⟩; omega)
  replace r137 := r137.gr b1214 (by have := r137.lt; omega)
  replace b134 := b134.grown b1214 b134.size (by rintro k ⟨⟩; omega)
  replace r85 := r85.gr b1214 (by have := r85.lt; omega)
  replace b82 := b82.grown b1214 b82.size (by rintro k ⟨⟩; omega)
  replace r39 := r39.gr b1214 (by have := r39.lt; omega)
  replace b36 := b36.grown b1214 b36.size (by rintro k ⟨⟩; omega)
  replace q := q.grown b1214 q.size (by rintro k ⟨⟩; omega)
  replace r992 := r992.gr b1214 (by have := r992.lt; omega)
  have r1068 := r1216
  clear r1216
  refine LL.nilS ?_
  refine CC.seq ?_
  refine CC.region ?_
  refine LL.val (R.load rfl rfl (I.ldNc (vs := [Value.int IntKind.i64 u0, Value.int IntKind.i64 u1, Value.int IntKind.i64 u2, Value.int IntKind.i64 u3, Value.int IntKind.u64 u4, Value.int IntKind.u64 u5, Value.int IntKind.u64 u6, Value.bool v7, Value.bool v8, Value.int IntKind.i64 ↑K]) (RowL.cells r992 rfl) (by rfl) (by rfl))) rfl rfl rfl ?_
  have l1334 := r427.lt
  have l1335 := r195.lt
  have l1336 := r137.lt
  have l1337 := r85.lt
  have l1338 := r39.lt
  have l1339 := r992.lt
  have l1340 := r1068.lt
  (refine LL.call (R.call rfl rfl rfl) rfl rfl rfl (hFo _) ?_; rintro e W1333 ⟨rfl, b1330⟩; refine ⟨_, rfl, ?_⟩)
  have zb1330 := b1330.size
  replace b989 := b989.trans (b1330.mono b989.size)
  replace b732 := b732.trans (b1330.mono b732.size)
  replace b455 := b455.trans (b1330.mono b455.size)
  replace b430 := b430.trans (b1330.mono b430.size)
  replace r427 := r427.up b1330
  replace b424 := b424.trans (b1330.mono b424.size)
  replace b362 := b362.trans (b1330.mono b362.size)
  replace r195 := r195.up b1330
  replace b192 := b192.trans (b1330.mono b192.size)
  replace r137 := r137.up b1330
  replace b134 := b134.trans (b1330.mono b134.size)
  replace r85 := r85.up b1330
  replace b82 := b82.trans (b1330.mono b82.size)
  replace r39 := r39.up b1330
  replace b36 := b36.trans (b1330.mono b36.size)
  replace q := q.trans (b1330.mono q.size)
  replace r992 := r992.up b1330
  replace r1068 := r1068.up b1330
  refine LL.val (R.move rfl rfl) rfl rfl rfl ?_
  refine LL.val (R.extract rfl rfl rfl) rfl rfl rfl ?_
  refine LL.val (R.extract rfl rfl rfl) rfl rfl rfl ?_
  refine LL.val (R.assign rfl rfl) rfl rfl rfl ?_
  refine LL.val (R.assign rfl rfl) rfl rfl rfl ?_
  refine LL.nilS ?_
  refine CC.seq ?_
  refine CC.region ?_
  refine LL.val (R.move rfl rfl) rfl rfl rfl ?_
  refine LL.val (R.load rfl rfl (I.ld1 rfl (RowL.cell r39 rfl))) rfl rfl rfl ?_
  refine LL.val (R.load rfl rfl (I.ld1 rfl (RowL.cell r85 rfl))) rfl rfl rfl ?_
  refine LL.val (R.move rfl rfl) rfl rfl rfl ?_
  have l2034 := r427.lt
  have l2035 := r195.lt
  have l2036 := r137.lt
  have l2037 := r85.lt
  have l2038 := r39.lt
  have l2039 := r992.lt
  have l2040 := r1068.lt
  (refine LL.call (R.call rfl rfl rfl) rfl rfl rfl (trace_any way left n c key a s _ (hvF _ q) hn (by omega)) ?_; rintro e W2033 ⟨lb, D, rfl, hG, hDb, b2030⟩; refine ⟨_, rfl, ?_⟩)
  have zb2030 := b2030.size
  replace b1330 := b1330.trans (b2030.mono b1330.size)
  replace b989 := b989.trans (b2030.mono b989.size)
  replace b732 := b732.trans (b2030.mono b732.size)
  replace b455 := b455.trans (b2030.mono b455.size)
  replace b430 := b430.trans (b2030.mono b430.size)
  replace r427 := r427.up b2030
  replace b424 := b424.trans (b2030.mono b424.size)
  replace b362 := b362.trans (b2030.mono b362.size)
  replace r195 := r195.up b2030
  replace b192 := b192.trans (b2030.mono b192.size)
  replace r137 := r137.up b2030
  replace b134 := b134.trans (b2030.mono b134.size)
  replace r85 := r85.up b2030
  replace b82 := b82.trans (b2030.mono b82.size)
  replace r39 := r39.up b2030
  replace b36 := b36.trans (b2030.mono b36.size)
  replace q := q.trans (b2030.mono q.size)
  replace r992 := r992.up b2030
  replace r1068 := r1068.up b2030
  refine LL.val (R.assign rfl rfl) rfl rfl rfl ?_
  refine LL.nilS ?_
  refine CC.seq ?_
  refine CC.seq ?_
  refine CC.region ?_
  refine LL.val (R.move rfl rfl) rfl rfl rfl ?_
  refine LL.val (R.eqFn rfl rfl rfl rfl) rfl rfl rfl ?_
  refine LL.val (R.move rfl rfl) rfl rfl rfl ?_
  refine LL.val (R.move rfl rfl) rfl rfl rfl ?_
  refine LL.val (R.move rfl rfl) rfl rfl rfl ?_
  (refine LL.val (R.neBool (a := b) (c := b) (b := false) rfl rfl rfl rfl (by cases b <;> rfl)) rfl rfl rfl ?_)
  refine LL.val (R.pick rfl rfl rfl) rfl rfl rfl ?_
  refine LL.val (R.move rfl rfl) rfl rfl rfl ?_
  refine LL.val (R.move rfl rfl) rfl rfl rfl ?_
  refine LL.val (R.move rfl rfl) rfl rfl rfl ?_
  refine LL.val (R.neF rfl rfl rfl (by omega)) rfl rfl rfl ?_
  refine LL.val (R.pick rfl rfl rfl) rfl rfl rfl ?_
  refine LL.nilS ?_
  refine CC.no rfl ?_
  refine CC.skip ?_
  refine EE.thenN ?_
  refine CC.seq ?_
  refine CC.seq ?_
  refine CC.region ?_
  have l2954 := r427.lt
  have l2955 := r195.lt
  have l2956 := r137.lt
  have l2957 := r85.lt
  have l2958 := r39.lt
  have l2959 := r992.lt
  have l2960 := r1068.lt
  refine LL.alloc ([Value.int IntKind.i64 0]) rfl rfl rfl rfl rfl ?_
  intro W2962 g2963 eg2963 r2964 z2965 b2961
  replace b2030 := b2030.trans (b2961.mono b2030.size)
  replace b1330 := b1330.trans (b2961.mono b1330.size)
  replace b989 := b989.trans (b2961.mono b989.size)
  replace b732 := b732.trans (b2961.mono b732.size)
  replace b455 := b455.trans (b2961.mono b455.size)
  replace b430 := b430.trans (b2961.mono b430.size)
  replace r427 := r427.up b2961
  replace b424 := b424.trans (b2961.mono b424.size)
  replace b362 := b362.trans (b2961.mono b362.size)
  replace r195 := r195.up b2961
  replace b192 := b192.trans (b2961.mono b192.size)
  replace r137 := r137.up b2961
  replace b134 := b134.trans (b2961.mono b134.size)
  replace r85 := r85.up b2961
  replace b82 := b82.trans (b2961.mono b82.size)
  replace r39 := r39.up b2961
  replace b36 := b36.trans (b2961.mono b36.size)
  replace q := q.trans (b2961.mono q.size)
  replace r992 := r992.up b2961
  replace r1068 := r1068.up b2961
  refine LL.store rfl rfl rfl rfl r2964 (by exact Nat.le_of_ble_eq_true rfl) rfl rfl rfl rfl ?_
  intro W3042 r3043 b3041 z3044
  have hlb3041 := r2964.lt
  replace r3043 : RowL W3042 _ 3 [Value.int IntKind.i64 0] := r3043
  clear r2964
  replace b2961 := b2961.grown b3041 b2961.size (by rintro k ⟨⟩; omega)
  replace b2030 := b2030.grown b3041 b2030.size (by rintro k ⟨⟩; omega)
  replace b1330 := b1330.grown b3041 b1330.size (by rintro k ⟨⟩; omega)
  replace b989 := b989.grown b3041 b989.size (by rintro k ⟨⟩; omega)
  replace b732 := b732.grown b3041 b732.size (by rintro k ⟨⟩; omega)
  replace b455 := b455.grown b3041 b455.size (by rintro k ⟨⟩; omega)
  replace b430 := b430.grown b3041 b430.size (by rintro k ⟨⟩; omega)
  replace r427 := r427.gr b3041 (by have := r427.lt; omega)
  replace b424 := b424.grown b3041 b424.size (by rintro k ⟨⟩; omega)
  replace b362 := b362.grown b3041 b362.size (by rintro k ⟨⟩; omega)
  replace r195 := r195.gr b3041 (by have := r195.lt; omega)
  replace b192 := b192.grown b3041 b192.size (by rintro k ⟨⟩; omega)
  replace r137 := r137.gr b3041 (by have := r137.lt; omega)
  replace b134 := b134.grown b3041 b134.size (by rintro k ⟨⟩; omega)
  replace r85 := r85.gr b3041 (by have := r85.lt; omega)
  replace b82 := b82.grown b3041 b82.size (by rintro k ⟨⟩; omega)
  replace r39 := r39.gr b3041 (by have := r39.lt; omega)
  replace b36 := b36.grown b3041 b36.size (by rintro k ⟨⟩; omega)
  replace q := q.grown b3041 q.size (by rintro k ⟨⟩; omega)
  replace r992 := r992.gr b3041 (by have := r992.lt; omega)
  replace r1068 := r1068.gr b3041 (by have := r1068.lt; omega)
  have r2964 := r3043
  clear r3043
  refine LL.nilS ?_
  refine CC.block ?_
  obtain ⟨W0, eW⟩ : ∃ X, X = W3042 := ⟨_, rfl⟩
  obtain ⟨WT, eT⟩ : ∃ X, X = W2033 := ⟨_, rfl⟩
  obtain ⟨gl, el⟩ : ∃ g, g = g38 := ⟨_, rfl⟩
  obtain ⟨gs, es⟩ : ∃ g, g = g84 := ⟨_, rfl⟩
  obtain ⟨gm, em⟩ : ∃ g, g = g136 := ⟨_, rfl⟩
  obtain ⟨gr, er⟩ : ∃ g, g = g194 := ⟨_, rfl⟩
  obtain ⟨gw, ew⟩ : ∃ g, g = g991 := ⟨_, rfl⟩
  obtain ⟨gf, ef⟩ : ∃ g, g = g1067 := ⟨_, rfl⟩
  obtain ⟨gt, et⟩ : ∃ g, g = g2963 := ⟨_, rfl⟩
  have hbT := b2961
  have hV : LvL W0 w gl gs gm gr gw gf gt n c K left many a u0 u1 u2 u3 u4 u5 u6 v7 v8 fine 0 := by
    subst eW el es em er ew ef et
    exact ⟨by assumption, by assumption, by assumption, by assumption, by assumption, by assumption, by assumption, q⟩
  have hord : w.heap.size ≤ gl ∧ gl < gs ∧ gs < gm ∧ gm < gr ∧ gr < gw ∧ gw < gf ∧ gf < gt ∧ gt < W0.heap.size := by have := hV.rt.lt; omega
  have hDt : ∀ k, D k → gf < k ∧ k < gt := fun k hk => by have := hDb k hk; omega
  subst eW eT el es em er ew ef et
  have lft : (trS way left s key).length ≤ 112 := by rw [hlen]; exact hK
  replace hG := hG.later hbT
  have qB := Below.refl W0.heap.size W0
  have rt1 := hV.rt
  have rs1 := hV.rs
  have hVq := hV.q
  clear z364 eg426 z428 y429 l434 zb430 y442 l459 zb455 y467 l736 zb732 l984 l1060 b1065 z1143 z1217 l1334 zb1330 l2034 z3044 b2030 b1330 b989 b732 b455 b430 r427 b424 b362 b192 b134 b82 b36 zb2030 l2954 b2961 eg38 z40 l81 l133 l191 l423 l438 l463 l740 l988 l1064 l1338 l2038 r39 l2958 eg84 z86 l132 l190 l422 l437 l462 l739 l987 l1063 l1337 l2037 r85 l2957 eg136 z138 l189 l421 l436 l461 l738 l986 l1062 l1336 l2036 r137 l2956 eg194 z196 l420 l435 l460 l737 l985 l1061 l1335 l2035 r195 l2955 eg991 z993 l1059 b1140 hlb1140 l1339 l2039 r992 l2959 eg1067 z1069 b1214 hlb1214 l1340 l2040 r1068 l2960 z2965 hlb3041 b3041 r2964 eg2963 o1 hbT hDb q
  refine CC.keep [(0, .int .i64 way), (3, .int .u64 (key : Int)), (6, .pointer (some ⟨gl, 0, none⟩)), (7, .pointer (some ⟨gs, 0, none⟩)), (9, .pointer (some ⟨gm, 0, none⟩)), (10, .pointer (some ⟨gr, 0, none⟩)), (13, .pointer (some ⟨gw, 0, none⟩)), (14, .pointer (some ⟨gf, 0, none⟩)), (17, .func (.func 47) #[] lb.toArray), (18, .pointer (some ⟨gt, 0, none⟩))] ⟨rfl, rfl, rfl, rfl, rfl, rfl, rfl, rfl, rfl, rfl, trivial⟩ ?_
  refine CC.loopN 3 ?_
  refine RN.step ?_
  refine CC.seq ?_
  refine CC.seq ?_
  refine CC.region ?_
  refine LL.val (R.load rfl rfl (I.ld1 rfl (RowL.cell rt1 rfl))) rfl rfl rfl ?_
  refine LL.val (R.ltT rfl rfl rfl (by omega)) rfl rfl rfl ?_
  refine LL.nilS ?_
  refine CC.yes rfl ?_
  refine CC.skip ?_
  refine EE.thenN ?_
  refine CC.seq ?_
  refine CC.block ?_
  refine CC.seq ?_
  refine CC.region ?_
  have la28 := rt1.lt
  have la29 := rs1.lt
  refine LL.alloc ([Value.int IntKind.i64 0]) rfl rfl rfl rfl rfl ?_
  intro Wa31 ga32 ega32 ra33 za34 ba30
  replace qB := qB.trans (ba30.mono qB.size)
  replace rt1 := rt1.up ba30
  replace rs1 := rs1.up ba30
  replace hVq := hVq.trans (ba30.mono hVq.size)
  refine LL.store rfl rfl rfl rfl ra33 (by exact Nat.le_of_ble_eq_true rfl) rfl rfl rfl rfl ?_
  intro Wa46 ra47 ba45 za48
  have hlba45 := ra33.lt
  replace ra47 : RowL Wa46 _ 3 [Value.int IntKind.i64 0] := ra47
  clear ra33
  replace ba30 := ba30.grown ba45 ba30.size (by rintro k ⟨⟩; omega)
  replace qB := qB.grown ba45 qB.size (by rintro k ⟨⟩; omega)
  replace rt1 := rt1.gr ba45 (by have := rt1.lt; omega)
  replace rs1 := rs1.gr ba45 (by have := rs1.lt; omega)
  replace hVq := hVq.grown ba45 hVq.size (by rintro k ⟨⟩; omega)
  have ra33 := ra47
  clear ra47
  refine LL.nilS ?_
  refine CC.seq ?_
  refine CC.region ?_
  refine LL.val (R.move rfl rfl) rfl rfl rfl ?_
  refine LL.val (R.load rfl rfl (I.ld1 rfl (RowL.cell rs1 rfl))) rfl rfl rfl ?_
  refine LL.val (R.len rfl rfl rfl rfl) rfl rfl rfl ?_
  refine LL.val (R.quoNc rfl rfl rfl rfl (by omega) (by omega)) rfl rfl rfl ?_
  refine LL.val (R.move rfl rfl) rfl rfl rfl ?_
  have la103 := rt1.lt
  have la104 := rs1.lt
  have la105 := ra33.lt
  (refine LL.call (R.call rfl rfl rfl) rfl rfl rfl (hDN _) ?_; rintro e Wa102 ⟨rfl, ba99⟩; refine ⟨_, rfl, ?_⟩)
  have zba99 := ba99.size
  replace ba30 := ba30.trans (ba99.mono ba30.size)
  replace qB := qB.trans (ba99.mono qB.size)
  replace rt1 := rt1.up ba99
  replace rs1 := rs1.up ba99
  replace hVq := hVq.trans (ba99.mono hVq.size)
  replace ra33 := ra33.up ba99
  have la119 := rt1.lt
  have la120 := rs1.lt
  have la121 := ra33.lt
  refine LL.alloc ([Value.int IntKind.i64 0, Value.int IntKind.i64 0, Value.int IntKind.i64 0, Value.int IntKind.i64 0, Value.int IntKind.u64 0, Value.int IntKind.u64 0, Value.int IntKind.u64 0, Value.bool false, Value.bool false, Value.int IntKind.i64 0]) rfl rfl rfl rfl rfl ?_
  intro Wa123 ga124 ega124 ra125 za126 ba122
  replace ba99 := ba99.trans (ba122.mono ba99.size)
  replace ba30 := ba30.trans (ba122.mono ba30.size)
  replace qB := qB.trans (ba122.mono qB.size)
  replace rt1 := rt1.up ba122
  replace rs1 := rs1.up ba122
  replace hVq := hVq.trans (ba122.mono hVq.size)
  replace ra33 := ra33.up ba122
  refine LL.storeN (vs := [Value.int IntKind.i64 t0, Value.int IntKind.i64 t1, Value.int IntKind.i64 t2, Value.int IntKind.i64 t3, Value.int IntKind.u64 t4, Value.int IntKind.u64 t5, Value.int IntKind.u64 t6, Value.bool y7, Value.bool y8, Value.int IntKind.i64 t9]) rfl rfl rfl rfl ra125 (by exact Nat.le_of_ble_eq_true rfl) (ones_of rfl) rfl rfl ?_
  intro Wa139 ra140 ba138 za141
  have hlba138 := ra125.lt
  replace ra140 : RowL Wa139 _ 33 [Value.int IntKind.i64 t0, Value.int IntKind.i64 t1, Value.int IntKind.i64 t2, Value.int IntKind.i64 t3, Value.int IntKind.u64 t4, Value.int IntKind.u64 t5, Value.int IntKind.u64 t6, Value.bool y7, Value.bool y8, Value.int IntKind.i64 t9] := ra140
  clear ra125
  replace ba122 := ba122.grown ba138 ba122.size (by rintro k ⟨⟩; omega)
  replace ba99 := ba99.grown ba138 ba99.size (by rintro k ⟨⟩; omega)
  replace ba30 := ba30.grown ba138 ba30.size (by rintro k ⟨⟩; omega)
  replace qB := qB.grown ba138 qB.size (by rintro k ⟨⟩; omega)
  replace rt1 := rt1.gr ba138 (by have := rt1.lt; omega)
  replace rs1 := rs1.gr ba138 (by have := rs1.lt; omega)
  replace hVq := hVq.grown ba138 hVq.size (by rintro k ⟨⟩; omega)
  replace ra33 := ra33.gr ba138 (by have := ra33.lt; omega)
  have ra125 := ra140
  clear ra140
  refine LL.nilS ?_
  refine CC.seq ?_
  refine CC.seq ?_
  refine CC.region ?_
  refine LL.val (R.move rfl rfl) rfl rfl rfl ?_
  refine LL.nilS ?_
  refine CC.block ?_
  obtain ⟨gn, en⟩ : ∃ g, g = ga32 := ⟨_, rfl⟩
  obtain ⟨ga, ea⟩ : ∃ g, g = ga124 := ⟨_, rfl⟩
  have rn0 := ra33
  have ra0 := ra125
  subst en ea
  have hgg : gt < gn ∧ gn < ga := by omega
  clear ra33 ra125 rt1 rs1 hVq ba30 ba99 ba122
  have kn := rn0.lt
  have ka := ra0.lt
  have yB := qB.size
  refine CC.rangeZ (γ := Unit) (gf := 47) (lb := lb) (encs := lwE) rfl rfl hG qB (fun k hk => by have := hDt k hk; omega) (fun _ => rfl) rfl
    (fun m (pre : List (Int × Nat)) W' => Below W0.heap.size W0 W' ∧ RowL W' gn 3 [.int .i64 (pre.length : Int)] ∧ (∃ z : Dz, St pre.length z ∧ RowL W' ga 33 (dzL z.x0 z.x1 z.x2 z.x3 z.x4 z.x5 z.x6 z.y7 z.y8 z.x9)) ∧ (pre.length = 0 ∨ (pre.length : Int) < many))
    (fun m (pre : List (Int × Nat)) W' => Below W0.heap.size W0 W' ∧ RowL W' gn 3 [.int .i64 (pre.length : Int)] ∧ (many ≤ pre.length ∧ (pre.length = 1 ∨ (pre.length : Int) - 1 < many) ∧ 1 ≤ pre.length ∧ pre.length ≤ K))
    (fun W' => Below W0.heap.size W0 W' ∧ ∃ p : Nat, RowL W' gn 3 [.int .i64 (p : Int)] ∧ ((p : Int) = (if (K : Int) < (if 1 < many then many else 1) then (K : Int) else (if 1 < many then many else 1))))
    (fun m m' p X Y hs ht hm => ⟨hs.1.trans (ht.below yB hs.1.size), ht.row hs.2.1 (.inl kn), by obtain ⟨z, h1, h2⟩ := hs.2.2.1; exact ⟨z, h1, ht.row h2 (.inl ka)⟩, hs.2.2.2⟩)
    (fun m m' p X Y hs ht hm => ⟨hs.1.trans (ht.below yB hs.1.size), ht.row hs.2.1 (.inl kn), hs.2.2⟩)
    ⟨qB, rn0, ⟨_, hst0, ra0⟩, .inl rfl⟩ ?hIA ?hIxA
    (fun x _ => sl [(0, .int .i64 way), (3, .int .u64 (key : Int)), (6, .pointer (some ⟨gl, 0, none⟩)), (7, .pointer (some ⟨gs, 0, none⟩)), (9, .pointer (some ⟨gm, 0, none⟩)), (10, .pointer (some ⟨gr, 0, none⟩)), (13, .pointer (some ⟨gw, 0, none⟩)), (14, .pointer (some ⟨gf, 0, none⟩)), (17, .func (.func 47) #[] lb.toArray), (18, .pointer (some ⟨gt, 0, none⟩)), (19, .pointer (some ⟨gn, 0, none⟩)), (20, .pointer (some ⟨ga, 0, none⟩)), (21, .int .i64 x.1), (22, .int .u64 (x.2 : Int))]) (fun _ _ _ => True) (fun _ _ => fun _ _ _ _ _ _ _ => trivial) ?assign ?body ?after
  case hIA =>
    rintro m xs W' rfl ⟨h1, h2, _, h3⟩
    rw [hlen] at h2 h3
    exact ⟨h1, _, h2, by rcases h3 with h3 | h3 <;> split <;> (try split) <;> omega⟩
  case hIxA =>
    rintro m pre W' hp ⟨h1, h2, h3⟩
    exact ⟨h1, pre.length, h2, by split <;> (try split) <;> omega⟩
  case assign =>
    rintro l' m pre x W Kc hm h1 hKc
    refine CC.seq ?_
    refine CC.region ?_
    refine LL.val (R.assign rfl rfl) rfl rfl rfl ?_
    refine LL.nilS ?_
    refine CC.region ?_
    refine LL.val (R.assign rfl rfl) rfl rfl rfl ?_
    refine LL.nil ?_
    exact EE.thenK fun a' F => hKc a' _ () (StaysZ.refl _ _ _) (Keeps.refl _ _) h1 (F.keep _ ⟨rfl, rfl, rfl, rfl, rfl, rfl, rfl, rfl, rfl, rfl, rfl, rfl, rfl, rfl, trivial⟩) trivial
  case body =>
    rintro l' m pre ⟨x, v⟩ _ W hm hl' hrl ⟨h1, rn1, ⟨⟨t0, t1, t2, t3, t4, t5, t6, y7, y8, t9⟩, hSt, rat⟩, h3⟩ _ ⟨xs, hxs, tt, hp⟩
    simp only at rat
    subst hxs
    have hget : (trS way left s key)[pre.length]? = some (x, v) := by rw [← hp]; simp
    have hpk : pre.length < K := by rw [← hlen]; exact (List.getElem?_eq_some_iff.1 hget).1
    have hxd : (pre ++ [(x, v)]).length = pre.length + 1 := by simp
    obtain ⟨e1, e2, e3⟩ := trS_at _ (List.mem_of_getElem? hget)
    simp only at e1 e2 e3
    rw [hn] at e3
    obtain ⟨hfi, hy, hWd', ⟨s0, s1, s2, s3, s4, s5, s6, s7, s8, s9⟩, hSt', hGd'⟩ := hstep _ _ _ hget hSt
    simp only at hy
    subst hfi hy
    have hWd : ∀ W : World, Calls Try.prog 21 #[.agg #[.int .i64 t0, .int .i64 t1, .int .i64 t2, .int .i64 t3, .int .u64 t4, .int .u64 t5, .int .u64 t6, .bool false, .bool y8, .int .i64 t9]] W fun e w' => e = .returned (.int .i64 x) ∧ Below W.heap.size W w' := hWd'
    have hGd : ∀ W : World, Calls Try.prog 16 #[.agg #[.int .i64 t0, .int .i64 t1, .int .i64 t2, .int .i64 t3, .int .u64 t4, .int .u64 t5, .int .u64 t6, .bool false, .bool y8, .int .i64 t9], .int .u64 (v : Int)] W fun e w' => e = .returned (.agg #[.int .i64 s0, .int .i64 s1, .int .i64 s2, .int .i64 s3, .int .u64 s4, .int .u64 s5, .int .u64 s6, .bool s7, .bool s8, .int .i64 s9]) ∧ Below W.heap.size W w' := hGd'
    have ySz := h1.size
    obtain ⟨rl, rs, rm, rr, rw, rf, rt, q⟩ := hV.lift h1
    have st := StaysZ.refl Wa139.heap.size m W
    have kp := Keeps.refl D W
    have lW : Wa139.heap.size ≤ W.heap.size := by
      obtain ⟨r, hr⟩ := hrl
      have := (Array.getElem?_eq_some_iff.1 hr).1
      omega
    have hDk : ∀ k, D k → gf < k ∧ k < gt ∧ k < W0.heap.size := fun k hk => by have := hDt k hk; omega
    clear hWd' hGd' hp hget hrl hSt hl' hlen hstep
    by_cases hmany : many ≤ (pre.length : Int) + 1
    · refine CC.block ?_
      refine CC.seq ?_
      refine CC.seq ?_
      refine CC.region ?_
      refine LL.val (R.load rfl rfl (I.ld1 rfl (RowL.cell rf rfl))) rfl rfl rfl ?_
      refine LL.val (R.not rfl rfl) rfl rfl rfl ?_
      refine LL.val (R.move rfl rfl) rfl rfl rfl ?_
      refine LL.val (R.field rfl rfl (I.fld rfl)) rfl rfl rfl ?_
      refine LL.val (R.load rfl rfl (I.ld1 rfl (RowL.cell rat rfl))) rfl rfl rfl ?_
      refine LL.val (R.pick rfl rfl rfl) rfl rfl rfl ?_
      refine LL.val (R.move rfl rfl) rfl rfl rfl ?_
      refine LL.val (R.move rfl rfl) rfl rfl rfl ?_
      refine LL.val (R.load rfl rfl (I.ldNc (vs := [Value.int IntKind.i64 t0, Value.int IntKind.i64 t1, Value.int IntKind.i64 t2, Value.int IntKind.i64 t3, Value.int IntKind.u64 t4, Value.int IntKind.u64 t5, Value.int IntKind.u64 t6, Value.bool false, Value.bool y8, Value.int IntKind.i64 t9]) (RowL.cells rat rfl) (by rfl) (by rfl))) rfl rfl rfl ?_
      have lc293 := rn1.lt
      have lc294 := rat.lt
      have lc295 := rl.lt
      have lc296 := rs.lt
      have lc297 := rm.lt
      have lc298 := rr.lt
      have lc299 := rw.lt
      have lc300 := rf.lt
      have lc301 := rt.lt
      (refine LL.call (R.call rfl rfl rfl) rfl rfl rfl (hWd _) ?_; rintro e Wc292 ⟨rfl, bc289⟩; refine ⟨_, rfl, ?_⟩)
      have zbc289 := bc289.size
      replace h1 := h1.trans (bc289.mono h1.size)
      replace rn1 := rn1.up bc289
      replace rat := rat.up bc289
      replace rl := rl.up bc289
      replace rs := rs.up bc289
      replace rm := rm.up bc289
      replace rr := rr.up bc289
      replace rw := rw.up bc289
      replace rf := rf.up bc289
      replace rt := rt.up bc289
      replace q := q.trans (bc289.mono q.size)
      replace st := st.trans (StaysZ.of_below bc289)
      replace kp := kp.trans (Keeps.of_below (fun k hk => by have := hDk k hk; omega) bc289)
      refine LL.val (R.neF rfl rfl rfl (by omega)) rfl rfl rfl ?_
      refine LL.val (R.pick rfl rfl rfl) rfl rfl rfl ?_
      refine LL.val (R.move rfl rfl) rfl rfl rfl ?_
      refine LL.val (R.move rfl rfl) rfl rfl rfl ?_
      refine LL.val (R.load rfl rfl (I.ld1 rfl (RowL.cell rl rfl))) rfl rfl rfl ?_
      refine LL.val (R.load rfl rfl (I.ld1 rfl (RowL.cell rs rfl))) rfl rfl rfl ?_
      refine LL.val (R.move rfl rfl) rfl rfl rfl ?_
      (refine LL.call (R.call rfl rfl rfl) rfl rfl rfl (at_any left n c a s x _ (hvF _ q) hn (by omega) e3) ?_; rintro e W' ⟨rfl, rfl⟩; rw [← e1]; refine ⟨_, rfl, ?_⟩)
      refine LL.val (R.neF rfl rfl rfl (by omega)) rfl rfl rfl ?_
      refine LL.val (R.pick rfl rfl rfl) rfl rfl rfl ?_
      refine LL.nilS ?_
      refine CC.no rfl ?_
      refine CC.skip ?_
      refine EE.thenN ?_
      refine CC.seq ?_
      refine CC.region ?_
      refine LL.val (R.load rfl rfl (I.ldNc (vs := [Value.int IntKind.i64 t0, Value.int IntKind.i64 t1, Value.int IntKind.i64 t2, Value.int IntKind.i64 t3, Value.int IntKind.u64 t4, Value.int IntKind.u64 t5, Value.int IntKind.u64 t6, Value.bool false, Value.bool y8, Value.int IntKind.i64 t9]) (RowL.cells rat rfl) (by rfl) (by rfl))) rfl rfl rfl ?_
      refine LL.val (R.move rfl rfl) rfl rfl rfl ?_
      have lc693 := rn1.lt
      have lc694 := rat.lt
      have lc695 := rl.lt
      have lc696 := rs.lt
      have lc697 := rm.lt
      have lc698 := rr.lt
      have lc699 := rw.lt
      have lc700 := rf.lt
      have lc701 := rt.lt
      (refine LL.call (R.call rfl rfl rfl) rfl rfl rfl (hGd _) ?_; rintro e Wc692 ⟨rfl, bc689⟩; refine ⟨_, rfl, ?_⟩)
      have zbc689 := bc689.size
      replace bc289 := bc289.trans (bc689.mono bc289.size)
      replace h1 := h1.trans (bc689.mono h1.size)
      replace rn1 := rn1.up bc689
      replace rat := rat.up bc689
      replace rl := rl.up bc689
      replace rs := rs.up bc689
      replace rm := rm.up bc689
      replace rr := rr.up bc689
      replace rw := rw.up bc689
      replace rf := rf.up bc689
      replace rt := rt.up bc689
      replace q := q.trans (bc689.mono q.size)
      replace st := st.trans (StaysZ.of_below bc689)
      replace kp := kp.trans (Keeps.of_below (fun k hk => by have := hDk k hk; omega) bc689)
      refine LL.storeN (vs := [Value.int IntKind.i64 s0, Value.int IntKind.i64 s1, Value.int IntKind.i64 s2, Value.int IntKind.i64 s3, Value.int IntKind.u64 s4, Value.int IntKind.u64 s5, Value.int IntKind.u64 s6, Value.bool s7, Value.bool s8, Value.int IntKind.i64 s9]) rfl rfl rfl rfl rat (by exact Nat.le_of_ble_eq_true rfl) (ones_of rfl) rfl rfl ?_
      intro Wc738 rc739 bc737 zc740
      have hlbc737 := rat.lt
      replace rc739 : RowL Wc738 _ 33 [Value.int IntKind.i64 s0, Value.int IntKind.i64 s1, Value.int IntKind.i64 s2, Value.int IntKind.i64 s3, Value.int IntKind.u64 s4, Value.int IntKind.u64 s5, Value.int IntKind.u64 s6, Value.bool s7, Value.bool s8, Value.int IntKind.i64 s9] := rc739
      clear rat
      replace h1 := h1.grown bc737 h1.size (by rintro k ⟨⟩; omega)
      replace rn1 := rn1.gr bc737 (by have := rn1.lt; omega)
      replace rl := rl.gr bc737 (by have := rl.lt; omega)
      replace rs := rs.gr bc737 (by have := rs.lt; omega)
      replace rm := rm.gr bc737 (by have := rm.lt; omega)
      replace rr := rr.gr bc737 (by have := rr.lt; omega)
      replace rw := rw.gr bc737 (by have := rw.lt; omega)
      replace rf := rf.gr bc737 (by have := rf.lt; omega)
      replace rt := rt.gr bc737 (by have := rt.lt; omega)
      replace q := q.grown bc737 q.size (by rintro k ⟨⟩; omega)
      replace st := st.trans (StaysZ.of_grown bc737 (by omega))
      replace kp := kp.trans (Keeps.of_grown bc737 fun k hk => by have := hDk k hk; omega)
      have rat := rc739
      clear rc739
      refine LL.nilS ?_
      refine CC.seq ?_
      refine CC.region ?_
      refine LL.val (R.load rfl rfl (I.ld1 rfl (RowL.cell rn1 rfl))) rfl rfl rfl ?_
      refine LL.val (R.addNc rfl rfl rfl rfl (by omega)) rfl rfl rfl ?_
      refine LL.store rfl rfl rfl rfl rn1 (by exact Nat.le_of_ble_eq_true rfl) rfl rfl rfl rfl ?_
      intro Wc838 rc839 bc837 zc840
      have hlbc837 := rn1.lt
      replace rc839 : RowL Wc838 _ 3 [Value.int IntKind.i64 ↑(pre.length + 1)] := rc839
      clear rn1
      replace h1 := h1.grown bc837 h1.size (by rintro k ⟨⟩; omega)
      replace rl := rl.gr bc837 (by have := rl.lt; omega)
      replace rs := rs.gr bc837 (by have := rs.lt; omega)
      replace rm := rm.gr bc837 (by have := rm.lt; omega)
      replace rr := rr.gr bc837 (by have := rr.lt; omega)
      replace rw := rw.gr bc837 (by have := rw.lt; omega)
      replace rf := rf.gr bc837 (by have := rf.lt; omega)
      replace rt := rt.gr bc837 (by have := rt.lt; omega)
      replace q := q.grown bc837 q.size (by rintro k ⟨⟩; omega)
      replace st := st.trans (StaysZ.of_grown bc837 (by omega))
      replace kp := kp.trans (Keeps.of_grown bc837 fun k hk => by have := hDk k hk; omega)
      replace rat := rat.gr bc837 (by have := rat.lt; omega)
      have rn1 := rc839
      clear rc839
      refine LL.nilS ?_
      refine CC.seq ?_
      refine CC.region ?_
      refine LL.val (R.load rfl rfl (I.ld1 rfl (RowL.cell rt rfl))) rfl rfl rfl ?_
      refine LL.val (R.eqT rfl rfl rfl (by omega)) rfl rfl rfl ?_
      refine LL.val (R.move rfl rfl) rfl rfl rfl ?_
      refine LL.val (R.load rfl rfl (I.ld1 rfl (RowL.cell rn1 rfl))) rfl rfl rfl ?_
      refine LL.val (R.load rfl rfl (I.ld1 rfl (RowL.cell rm rfl))) rfl rfl rfl ?_
      refine LL.val (R.geT rfl rfl rfl (by omega)) rfl rfl rfl ?_
      refine LL.val (R.pick rfl rfl rfl) rfl rfl rfl ?_
      refine LL.nilS ?_
      refine CC.yes rfl ?_
      refine CC.exit ?_
      refine EE.inX' rfl ?_
      exact EE.roundXZ ⟨st, rfl, h1, by rw [hxd]; exact rn1, by rw [hxd]; omega, by rw [hxd]; omega, by rw [hxd]; omega, by rw [hxd]; omega⟩
    · refine CC.block ?_
      refine CC.seq ?_
      refine CC.seq ?_
      refine CC.region ?_
      refine LL.val (R.load rfl rfl (I.ld1 rfl (RowL.cell rf rfl))) rfl rfl rfl ?_
      refine LL.val (R.not rfl rfl) rfl rfl rfl ?_
      refine LL.val (R.move rfl rfl) rfl rfl rfl ?_
      refine LL.val (R.field rfl rfl (I.fld rfl)) rfl rfl rfl ?_
      refine LL.val (R.load rfl rfl (I.ld1 rfl (RowL.cell rat rfl))) rfl rfl rfl ?_
      refine LL.val (R.pick rfl rfl rfl) rfl rfl rfl ?_
      refine LL.val (R.move rfl rfl) rfl rfl rfl ?_
      refine LL.val (R.move rfl rfl) rfl rfl rfl ?_
      refine LL.val (R.load rfl rfl (I.ldNc (vs := [Value.int IntKind.i64 t0, Value.int IntKind.i64 t1, Value.int IntKind.i64 t2, Value.int IntKind.i64 t3, Value.int IntKind.u64 t4, Value.int IntKind.u64 t5, Value.int IntKind.u64 t6, Value.bool false, Value.bool y8, Value.int IntKind.i64 t9]) (RowL.cells rat rfl) (by rfl) (by rfl))) rfl rfl rfl ?_
      have ld293 := rn1.lt
      have ld294 := rat.lt
      have ld295 := rl.lt
      have ld296 := rs.lt
      have ld297 := rm.lt
      have ld298 := rr.lt
      have ld299 := rw.lt
      have ld300 := rf.lt
      have ld301 := rt.lt
      (refine LL.call (R.call rfl rfl rfl) rfl rfl rfl (hWd _) ?_; rintro e Wd292 ⟨rfl, bd289⟩; refine ⟨_, rfl, ?_⟩)
      have zbd289 := bd289.size
      replace h1 := h1.trans (bd289.mono h1.size)
      replace rn1 := rn1.up bd289
      replace rat := rat.up bd289
      replace rl := rl.up bd289
      replace rs := rs.up bd289
      replace rm := rm.up bd289
      replace rr := rr.up bd289
      replace rw := rw.up bd289
      replace rf := rf.up bd289
      replace rt := rt.up bd289
      replace q := q.trans (bd289.mono q.size)
      replace st := st.trans (StaysZ.of_below bd289)
      replace kp := kp.trans (Keeps.of_below (fun k hk => by have := hDk k hk; omega) bd289)
      refine LL.val (R.neF rfl rfl rfl (by omega)) rfl rfl rfl ?_
      refine LL.val (R.pick rfl rfl rfl) rfl rfl rfl ?_
      refine LL.val (R.move rfl rfl) rfl rfl rfl ?_
      refine LL.val (R.move rfl rfl) rfl rfl rfl ?_
      refine LL.val (R.load rfl rfl (I.ld1 rfl (RowL.cell rl rfl))) rfl rfl rfl ?_
      refine LL.val (R.load rfl rfl (I.ld1 rfl (RowL.cell rs rfl))) rfl rfl rfl ?_
      refine LL.val (R.move rfl rfl) rfl rfl rfl ?_
      (refine LL.call (R.call rfl rfl rfl) rfl rfl rfl (at_any left n c a s x _ (hvF _ q) hn (by omega) e3) ?_; rintro e W' ⟨rfl, rfl⟩; rw [← e1]; refine ⟨_, rfl, ?_⟩)
      refine LL.val (R.neF rfl rfl rfl (by omega)) rfl rfl rfl ?_
      refine LL.val (R.pick rfl rfl rfl) rfl rfl rfl ?_
      refine LL.nilS ?_
      refine CC.no rfl ?_
      refine CC.skip ?_
      refine EE.thenN ?_
      refine CC.seq ?_
      refine CC.region ?_
      refine LL.val (R.load rfl rfl (I.ldNc (vs := [Value.int IntKind.i64 t0, Value.int IntKind.i64 t1, Value.int IntKind.i64 t2, Value.int IntKind.i64 t3, Value.int IntKind.u64 t4, Value.int IntKind.u64 t5, Value.int IntKind.u64 t6, Value.bool false, Value.bool y8, Value.int IntKind.i64 t9]) (RowL.cells rat rfl) (by rfl) (by rfl))) rfl rfl rfl ?_
      refine LL.val (R.move rfl rfl) rfl rfl rfl ?_
      have ld693 := rn1.lt
      have ld694 := rat.lt
      have ld695 := rl.lt
      have ld696 := rs.lt
      have ld697 := rm.lt
      have ld698 := rr.lt
      have ld699 := rw.lt
      have ld700 := rf.lt
      have ld701 := rt.lt
      (refine LL.call (R.call rfl rfl rfl) rfl rfl rfl (hGd _) ?_; rintro e Wd692 ⟨rfl, bd689⟩; refine ⟨_, rfl, ?_⟩)
      have zbd689 := bd689.size
      replace bd289 := bd289.trans (bd689.mono bd289.size)
      replace h1 := h1.trans (bd689.mono h1.size)
      replace rn1 := rn1.up bd689
      replace rat := rat.up bd689
      replace rl := rl.up bd689
      replace rs := rs.up bd689
      replace rm := rm.up bd689
      replace rr := rr.up bd689
      replace rw := rw.up bd689
      replace rf := rf.up bd689
      replace rt := rt.up bd689
      replace q := q.trans (bd689.mono q.size)
      replace st := st.trans (StaysZ.of_below bd689)
      replace kp := kp.trans (Keeps.of_below (fun k hk => by have := hDk k hk; omega) bd689)
      refine LL.storeN (vs := [Value.int IntKind.i64 s0, Value.int IntKind.i64 s1, Value.int IntKind.i64 s2, Value.int IntKind.i64 s3, Value.int IntKind.u64 s4, Value.int IntKind.u64 s5, Value.int IntKind.u64 s6, Value.bool s7, Value.bool s8, Value.int IntKind.i64 s9]) rfl rfl rfl rfl rat (by exact Nat.le_of_ble_eq_true rfl) (ones_of rfl) rfl rfl ?_
      intro Wd738 rd739 bd737 zd740
      have hlbd737 := rat.lt
      replace rd739 : RowL Wd738 _ 33 [Value.int IntKind.i64 s0, Value.int IntKind.i64 s1, Value.int IntKind.i64 s2, Value.int IntKind.i64 s3, Value.int IntKind.u64 s4, Value.int IntKind.u64 s5, Value.int IntKind.u64 s6, Value.bool s7, Value.bool s8, Value.int IntKind.i64 s9] := rd739
      clear rat
      replace h1 := h1.grown bd737 h1.size (by rintro k ⟨⟩; omega)
      replace rn1 := rn1.gr bd737 (by have := rn1.lt; omega)
      replace rl := rl.gr bd737 (by have := rl.lt; omega)
      replace rs := rs.gr bd737 (by have := rs.lt; omega)
      replace rm := rm.gr bd737 (by have := rm.lt; omega)
      replace rr := rr.gr bd737 (by have := rr.lt; omega)
      replace rw := rw.gr bd737 (by have := rw.lt; omega)
      replace rf := rf.gr bd737 (by have := rf.lt; omega)
      replace rt := rt.gr bd737 (by have := rt.lt; omega)
      replace q := q.grown bd737 q.size (by rintro k ⟨⟩; omega)
      replace st := st.trans (StaysZ.of_grown bd737 (by omega))
      replace kp := kp.trans (Keeps.of_grown bd737 fun k hk => by have := hDk k hk; omega)
      have rat := rd739
      clear rd739
      refine LL.nilS ?_
      refine CC.seq ?_
      refine CC.region ?_
      refine LL.val (R.load rfl rfl (I.ld1 rfl (RowL.cell rn1 rfl))) rfl rfl rfl ?_
      refine LL.val (R.addNc rfl rfl rfl rfl (by omega)) rfl rfl rfl ?_
      refine LL.store rfl rfl rfl rfl rn1 (by exact Nat.le_of_ble_eq_true rfl) rfl rfl rfl rfl ?_
      intro Wd838 rd839 bd837 zd840
      have hlbd837 := rn1.lt
      replace rd839 : RowL Wd838 _ 3 [Value.int IntKind.i64 ↑(pre.length + 1)] := rd839
      clear rn1
      replace h1 := h1.grown bd837 h1.size (by rintro k ⟨⟩; omega)
      replace rl := rl.gr bd837 (by have := rl.lt; omega)
      replace rs := rs.gr bd837 (by have := rs.lt; omega)
      replace rm := rm.gr bd837 (by have := rm.lt; omega)
      replace rr := rr.gr bd837 (by have := rr.lt; omega)
      replace rw := rw.gr bd837 (by have := rw.lt; omega)
      replace rf := rf.gr bd837 (by have := rf.lt; omega)
      replace rt := rt.gr bd837 (by have := rt.lt; omega)
      replace q := q.grown bd837 q.size (by rintro k ⟨⟩; omega)
      replace st := st.trans (StaysZ.of_grown bd837 (by omega))
      replace kp := kp.trans (Keeps.of_grown bd837 fun k hk => by have := hDk k hk; omega)
      replace rat := rat.gr bd837 (by have := rat.lt; omega)
      have rn1 := rd839
      clear rd839
      refine LL.nilS ?_
      refine CC.seq ?_
      refine CC.region ?_
      refine LL.val (R.load rfl rfl (I.ld1 rfl (RowL.cell rt rfl))) rfl rfl rfl ?_
      refine LL.val (R.eqT rfl rfl rfl (by omega)) rfl rfl rfl ?_
      refine LL.val (R.move rfl rfl) rfl rfl rfl ?_
      refine LL.val (R.load rfl rfl (I.ld1 rfl (RowL.cell rn1 rfl))) rfl rfl rfl ?_
      refine LL.val (R.load rfl rfl (I.ld1 rfl (RowL.cell rm rfl))) rfl rfl rfl ?_
      refine LL.val (R.geF rfl rfl rfl (by omega)) rfl rfl rfl ?_
      refine LL.val (R.pick rfl rfl rfl) rfl rfl rfl ?_
      refine LL.nilS ?_
      refine CC.no rfl ?_
      refine CC.skip ?_
      refine EE.inN ?_
      exact EE.roundNZ ⟨st, kp, h1, by rw [hxd]; exact rn1, ⟨⟨s0, s1, s2, s3, s4, s5, s6, s7, s8, s9⟩, by rw [hxd]; exact hSt', rat⟩, .inr (by rw [hxd]; omega)⟩
  case after =>
    rintro E0 W hE0 ⟨h1, p, hn', hcp⟩ hE01
    obtain ⟨rl, rs, rm, rr, rw, rf, rt, q⟩ := hV.lift h1
    have yz := h1.size
    have eE0 := (Array.getElem?_eq_some_iff.1 hE01).1
    refine EE.thenN ?_
    refine CC.seq ?_
    refine CC.region ?_
    refine LL.val (R.load rfl rfl (I.ld1 rfl (RowL.cell rt rfl))) rfl rfl rfl ?_
    refine LL.val (R.eqT rfl rfl rfl (by omega)) rfl rfl rfl ?_
    refine LL.val (R.move rfl rfl) rfl rfl rfl ?_
    refine LL.val (R.load rfl rfl (I.ld1 rfl (RowL.cell hn' rfl))) rfl rfl rfl ?_
    refine LL.val (R.field rfl rfl (I.fld rfl)) rfl rfl rfl ?_
    refine LL.val (R.load rfl rfl (I.ld1 rfl (RowL.cell rw rfl))) rfl rfl rfl ?_
    refine LL.val (R.load rfl rfl (I.ld1 rfl (RowL.cell rm rfl))) rfl rfl rfl ?_
    refine LL.val (R.max rfl rfl) rfl rfl rfl ?_
    refine LL.val (R.min rfl rfl) rfl rfl rfl ?_
    refine LL.val (R.neF rfl rfl rfl (by omega)) rfl rfl rfl ?_
    refine LL.val (R.pick rfl rfl rfl) rfl rfl rfl ?_
    refine LL.val (R.move rfl rfl) rfl rfl rfl ?_
    refine LL.val (R.load rfl rfl (I.ld1 rfl (RowL.cell rt rfl))) rfl rfl rfl ?_
    refine LL.val (R.eqF rfl rfl rfl (by omega)) rfl rfl rfl ?_
    refine LL.val (R.move rfl rfl) rfl rfl rfl ?_
    refine LL.skip rfl rfl ?_
    refine LL.skip rfl rfl ?_
    refine LL.skip rfl rfl ?_
    refine LL.skip rfl rfl ?_
    refine LL.val (R.pick rfl rfl rfl) rfl rfl rfl ?_
    refine LL.val (R.pick rfl rfl rfl) rfl rfl rfl ?_
    refine LL.nilS ?_
    refine CC.no rfl ?_
    refine CC.skip ?_
    refine EE.inN ?_
    refine EE.thenN ?_
    refine CC.seq ?_
    refine CC.seq ?_
    refine CC.region ?_
    refine LL.val (R.load rfl rfl (I.ld1 rfl (RowL.cell rt rfl))) rfl rfl rfl ?_
    refine LL.nilS ?_
    refine CC.region ?_
    have le1 := hn'.lt
    have le2 := (Array.getElem?_eq_some_iff.1 hE01).1
    have le3 := rl.lt
    have le4 := rs.lt
    have le5 := rm.lt
    have le6 := rr.lt
    have le7 := rw.lt
    have le8 := rf.lt
    have le9 := rt.lt
    refine LL.alloc ([Value.int IntKind.i64 0]) rfl rfl rfl rfl rfl ?_
    intro We11 ge12 ege12 re13 ze14 be10
    replace h1 := h1.trans (be10.mono h1.size)
    replace hn' := hn'.up be10
    replace hE01 := defer_up hE01 be10
    replace rl := rl.up be10
    replace rs := rs.up be10
    replace rm := rm.up be10
    replace rr := rr.up be10
    replace rw := rw.up be10
    replace rf := rf.up be10
    replace rt := rt.up be10
    replace q := q.trans (be10.mono q.size)
    refine LL.store rfl rfl rfl rfl re13 (by exact Nat.le_of_ble_eq_true rfl) rfl rfl rfl rfl ?_
    intro We16 re17 be15 ze18
    have hlbe15 := re13.lt
    replace re17 : RowL We16 _ 3 [Value.int IntKind.i64 0] := re17
    clear re13
    replace be10 := be10.grown be15 be10.size (by rintro k ⟨⟩; omega)
    replace h1 := h1.grown be15 h1.size (by rintro k ⟨⟩; omega)
    replace hn' := hn'.gr be15 (by have := hn'.lt; omega)
    replace hE01 := (be15.block _ (Array.getElem?_eq_some_iff.1 hE01).1 (by simp; omega)).trans hE01
    replace rl := rl.gr be15 (by have := rl.lt; omega)
    replace rs := rs.gr be15 (by have := rs.lt; omega)
    replace rm := rm.gr be15 (by have := rm.lt; omega)
    replace rr := rr.gr be15 (by have := rr.lt; omega)
    replace rw := rw.gr be15 (by have := rw.lt; omega)
    replace rf := rf.gr be15 (by have := rf.lt; omega)
    replace rt := rt.gr be15 (by have := rt.lt; omega)
    replace q := q.grown be15 q.size (by rintro k ⟨⟩; omega)
    have re13 := re17
    clear re17
    refine LL.nilS ?_
    refine CC.region ?_
    refine LL.val (R.load rfl rfl (I.ld1 rfl (RowL.cell re13 rfl))) rfl rfl rfl ?_
    refine LL.val (R.addIz (z := 1) rfl rfl rfl (by decide) (by decide)) rfl rfl rfl ?_
    refine LL.store rfl rfl rfl rfl re13 (by exact Nat.le_of_ble_eq_true rfl) rfl rfl rfl rfl ?_
    intro We20 re21 be19 ze22
    have hlbe19 := re13.lt
    replace re21 : RowL We20 _ 3 [Value.int IntKind.i64 1] := re21
    clear re13
    replace be10 := be10.grown be19 be10.size (by rintro k ⟨⟩; omega)
    replace h1 := h1.grown be19 h1.size (by rintro k ⟨⟩; omega)
    replace hn' := hn'.gr be19 (by have := hn'.lt; omega)
    replace hE01 := (be19.block _ (Array.getElem?_eq_some_iff.1 hE01).1 (by simp; omega)).trans hE01
    replace rl := rl.gr be19 (by have := rl.lt; omega)
    replace rs := rs.gr be19 (by have := rs.lt; omega)
    replace rm := rm.gr be19 (by have := rm.lt; omega)
    replace rr := rr.gr be19 (by have := rr.lt; omega)
    replace rw := rw.gr be19 (by have := rw.lt; omega)
    replace rf := rf.gr be19 (by have := rf.lt; omega)
    replace rt := rt.gr be19 (by have := rt.lt; omega)
    replace q := q.grown be19 q.size (by rintro k ⟨⟩; omega)
    have re13 := re21
    clear re21
    refine LL.nil ?_
    refine EE.again ?_
    have hV1 : LvL We20 w gl gs gm gr gw gf ge12 n c K left many a u0 u1 u2 u3 u4 u5 u6 v7 v8 fine 1 := ⟨rl, rs, rm, rr, rw, rf, re13, q⟩
    have hE0k : ∀ W', Below We20.heap.size We20 W' → W'.heap[E0]? = some (.deferred (some [])) := fun W' h => defer_up hE01 h
    have qA := h1
    have qB := Below.refl We20.heap.size We20
    have jE := (Array.getElem?_eq_some_iff.1 hE01).1
    have hord2 : gl < ge12 ∧ gs < ge12 ∧ gm < ge12 ∧ gr < ge12 ∧ gw < ge12 ∧ gf < ge12 ∧ gt < ge12 ∧ E0 < ge12 := by omega
    have jq := q.size
    have rt2 := hV1.rt
    have rs2 := hV1.rs
    have hVq2 := hV1.q
    clear h1 hn' hcp be10 be15 be19 hE01 rl rs rm rr rw rf rt re13 q
    refine RN.keep [(0, .int .i64 way), (3, .int .u64 (key : Int)), (6, .pointer (some ⟨gl, 0, none⟩)), (7, .pointer (some ⟨gs, 0, none⟩)), (9, .pointer (some ⟨gm, 0, none⟩)), (10, .pointer (some ⟨gr, 0, none⟩)), (13, .pointer (some ⟨gw, 0, none⟩)), (14, .pointer (some ⟨gf, 0, none⟩)), (17, .func (.func 47) #[] lb.toArray), (18, .pointer (some ⟨ge12, 0, none⟩))] ⟨rfl, rfl, rfl, rfl, rfl, rfl, rfl, rfl, rfl, rfl, trivial⟩ ?_
    refine RN.step ?_
    refine CC.seq ?_
    refine CC.seq ?_
    refine CC.region ?_
    refine LL.val (R.load rfl rfl (I.ld1 rfl (RowL.cell rt2 rfl))) rfl rfl rfl ?_
    refine LL.val (R.ltT rfl rfl rfl (by omega)) rfl rfl rfl ?_
    refine LL.nilS ?_
    refine CC.yes rfl ?_
    refine CC.skip ?_
    refine EE.thenN ?_
    refine CC.seq ?_
    refine CC.block ?_
    refine CC.seq ?_
    refine CC.region ?_
    have lf28 := rt2.lt
    have lf29 := rs2.lt
    refine LL.alloc ([Value.int IntKind.i64 0]) rfl rfl rfl rfl rfl ?_
    intro Wf31 gf32 egf32 rf33 zf34 bf30
    replace qA := qA.trans (bf30.mono qA.size)
    replace qB := qB.trans (bf30.mono qB.size)
    replace rt2 := rt2.up bf30
    replace rs2 := rs2.up bf30
    replace hVq2 := hVq2.trans (bf30.mono hVq2.size)
    refine LL.store rfl rfl rfl rfl rf33 (by exact Nat.le_of_ble_eq_true rfl) rfl rfl rfl rfl ?_
    intro Wf46 rf47 bf45 zf48
    have hlbf45 := rf33.lt
    replace rf47 : RowL Wf46 _ 3 [Value.int IntKind.i64 0] := rf47
    clear rf33
    replace bf30 := bf30.grown bf45 bf30.size (by rintro k ⟨⟩; omega)
    replace qA := qA.grown bf45 qA.size (by rintro k ⟨⟩; omega)
    replace qB := qB.grown bf45 qB.size (by rintro k ⟨⟩; omega)
    replace rt2 := rt2.gr bf45 (by have := rt2.lt; omega)
    replace rs2 := rs2.gr bf45 (by have := rs2.lt; omega)
    replace hVq2 := hVq2.grown bf45 hVq2.size (by rintro k ⟨⟩; omega)
    have rf33 := rf47
    clear rf47
    refine LL.nilS ?_
    refine CC.seq ?_
    refine CC.region ?_
    refine LL.val (R.move rfl rfl) rfl rfl rfl ?_
    refine LL.val (R.load rfl rfl (I.ld1 rfl (RowL.cell rs2 rfl))) rfl rfl rfl ?_
    refine LL.val (R.len rfl rfl rfl rfl) rfl rfl rfl ?_
    refine LL.val (R.quoNc rfl rfl rfl rfl (by omega) (by omega)) rfl rfl rfl ?_
    refine LL.val (R.move rfl rfl) rfl rfl rfl ?_
    have lf103 := rt2.lt
    have lf104 := rs2.lt
    have lf105 := rf33.lt
    (refine LL.call (R.call rfl rfl rfl) rfl rfl rfl (hDN _) ?_; rintro e Wf102 ⟨rfl, bf99⟩; refine ⟨_, rfl, ?_⟩)
    have zbf99 := bf99.size
    replace bf30 := bf30.trans (bf99.mono bf30.size)
    replace qA := qA.trans (bf99.mono qA.size)
    replace qB := qB.trans (bf99.mono qB.size)
    replace rt2 := rt2.up bf99
    replace rs2 := rs2.up bf99
    replace hVq2 := hVq2.trans (bf99.mono hVq2.size)
    replace rf33 := rf33.up bf99
    have lf119 := rt2.lt
    have lf120 := rs2.lt
    have lf121 := rf33.lt
    refine LL.alloc ([Value.int IntKind.i64 0, Value.int IntKind.i64 0, Value.int IntKind.i64 0, Value.int IntKind.i64 0, Value.int IntKind.u64 0, Value.int IntKind.u64 0, Value.int IntKind.u64 0, Value.bool false, Value.bool false, Value.int IntKind.i64 0]) rfl rfl rfl rfl rfl ?_
    intro Wf123 gf124 egf124 rf125 zf126 bf122
    replace bf99 := bf99.trans (bf122.mono bf99.size)
    replace bf30 := bf30.trans (bf122.mono bf30.size)
    replace qA := qA.trans (bf122.mono qA.size)
    replace qB := qB.trans (bf122.mono qB.size)
    replace rt2 := rt2.up bf122
    replace rs2 := rs2.up bf122
    replace hVq2 := hVq2.trans (bf122.mono hVq2.size)
    replace rf33 := rf33.up bf122
    refine LL.storeN (vs := [Value.int IntKind.i64 t0, Value.int IntKind.i64 t1, Value.int IntKind.i64 t2, Value.int IntKind.i64 t3, Value.int IntKind.u64 t4, Value.int IntKind.u64 t5, Value.int IntKind.u64 t6, Value.bool y7, Value.bool y8, Value.int IntKind.i64 t9]) rfl rfl rfl rfl rf125 (by exact Nat.le_of_ble_eq_true rfl) (ones_of rfl) rfl rfl ?_
    intro Wf139 rf140 bf138 zf141
    have hlbf138 := rf125.lt
    replace rf140 : RowL Wf139 _ 33 [Value.int IntKind.i64 t0, Value.int IntKind.i64 t1, Value.int IntKind.i64 t2, Value.int IntKind.i64 t3, Value.int IntKind.u64 t4, Value.int IntKind.u64 t5, Value.int IntKind.u64 t6, Value.bool y7, Value.bool y8, Value.int IntKind.i64 t9] := rf140
    clear rf125
    replace bf122 := bf122.grown bf138 bf122.size (by rintro k ⟨⟩; omega)
    replace bf99 := bf99.grown bf138 bf99.size (by rintro k ⟨⟩; omega)
    replace bf30 := bf30.grown bf138 bf30.size (by rintro k ⟨⟩; omega)
    replace qA := qA.grown bf138 qA.size (by rintro k ⟨⟩; omega)
    replace qB := qB.grown bf138 qB.size (by rintro k ⟨⟩; omega)
    replace rt2 := rt2.gr bf138 (by have := rt2.lt; omega)
    replace rs2 := rs2.gr bf138 (by have := rs2.lt; omega)
    replace hVq2 := hVq2.grown bf138 hVq2.size (by rintro k ⟨⟩; omega)
    replace rf33 := rf33.gr bf138 (by have := rf33.lt; omega)
    have rf125 := rf140
    clear rf140
    refine LL.nilS ?_
    refine CC.seq ?_
    refine CC.seq ?_
    refine CC.region ?_
    refine LL.val (R.move rfl rfl) rfl rfl rfl ?_
    refine LL.nilS ?_
    refine CC.block ?_
    obtain ⟨gn2, en⟩ : ∃ g, g = gf32 := ⟨_, rfl⟩
    obtain ⟨ga2, ea⟩ : ∃ g, g = gf124 := ⟨_, rfl⟩
    have rn0 := rf33
    have ra0 := rf125
    subst en ea
    have hgg2 : ge12 < gn2 ∧ gn2 < ga2 := by omega
    clear rf33 rf125 rt2 rs2 hVq2 bf30 bf99 bf122
    have kn := rn0.lt
    have ka := ra0.lt
    have yB := qB.size
    refine CC.rangeZ (γ := Unit) (gf := 47) (lb := lb) (encs := lwE) rfl rfl hG qA (fun k hk => by have := hDt k hk; omega) (fun _ => rfl) rfl
      (fun m (pre : List (Int × Nat)) W' => Below We20.heap.size We20 W' ∧ RowL W' gn2 3 [.int .i64 (pre.length : Int)] ∧ (∃ z : Dz, St pre.length z ∧ RowL W' ga2 33 (dzL z.x0 z.x1 z.x2 z.x3 z.x4 z.x5 z.x6 z.y7 z.y8 z.x9)) ∧ True)
      (fun m (pre : List (Int × Nat)) W' => Below We20.heap.size We20 W' ∧ RowL W' gn2 3 [.int .i64 (pre.length : Int)] ∧ False)
      (fun W' => Below We20.heap.size We20 W' ∧ ∃ p : Nat, RowL W' gn2 3 [.int .i64 (p : Int)] ∧ ((p : Int) = (K : Int)))
      (fun m m' p X Y hs ht hm => ⟨hs.1.trans (ht.below yB hs.1.size), ht.row hs.2.1 (.inl kn), by obtain ⟨z, h1, h2⟩ := hs.2.2.1; exact ⟨z, h1, ht.row h2 (.inl ka)⟩, hs.2.2.2⟩)
      (fun m m' p X Y hs ht hm => ⟨hs.1.trans (ht.below yB hs.1.size), ht.row hs.2.1 (.inl kn), hs.2.2⟩)
      ⟨qB, rn0, ⟨_, hst0, ra0⟩, trivial⟩ ?hIA ?hIxA
      (fun x _ => sl [(0, .int .i64 way), (3, .int .u64 (key : Int)), (6, .pointer (some ⟨gl, 0, none⟩)), (7, .pointer (some ⟨gs, 0, none⟩)), (9, .pointer (some ⟨gm, 0, none⟩)), (10, .pointer (some ⟨gr, 0, none⟩)), (13, .pointer (some ⟨gw, 0, none⟩)), (14, .pointer (some ⟨gf, 0, none⟩)), (17, .func (.func 47) #[] lb.toArray), (18, .pointer (some ⟨ge12, 0, none⟩)), (19, .pointer (some ⟨gn2, 0, none⟩)), (20, .pointer (some ⟨ga2, 0, none⟩)), (21, .int .i64 x.1), (22, .int .u64 (x.2 : Int))]) (fun _ _ _ => True) (fun _ _ => fun _ _ _ _ _ _ _ => trivial) ?assign ?body ?after
    case hIA =>
      rintro m xs W' rfl ⟨h1, h2, _, h3⟩
      rw [hlen] at h2
      exact ⟨h1, _, h2, rfl⟩
    case hIxA =>
      rintro m pre W' hp ⟨h1, h2, h3⟩
      exact h3.elim
    case assign =>
      rintro l' m pre x W Kc hm h1 hKc
      refine CC.seq ?_
      refine CC.region ?_
      refine LL.val (R.assign rfl rfl) rfl rfl rfl ?_
      refine LL.nilS ?_
      refine CC.region ?_
      refine LL.val (R.assign rfl rfl) rfl rfl rfl ?_
      refine LL.nil ?_
      exact EE.thenK fun a' F => hKc a' _ () (StaysZ.refl _ _ _) (Keeps.refl _ _) h1 (F.keep _ ⟨rfl, rfl, rfl, rfl, rfl, rfl, rfl, rfl, rfl, rfl, rfl, rfl, rfl, rfl, trivial⟩) trivial
    case body =>
      rintro l' m pre ⟨x, v⟩ _ W hm hl' hrl ⟨h1, rn1, ⟨⟨t0, t1, t2, t3, t4, t5, t6, y7, y8, t9⟩, hSt, rat⟩, h3⟩ _ ⟨xs, hxs, tt, hp⟩
      simp only at rat
      subst hxs
      have hget : (trS way left s key)[pre.length]? = some (x, v) := by rw [← hp]; simp
      have hpk : pre.length < K := by rw [← hlen]; exact (List.getElem?_eq_some_iff.1 hget).1
      have hxd : (pre ++ [(x, v)]).length = pre.length + 1 := by simp
      obtain ⟨e1, e2, e3⟩ := trS_at _ (List.mem_of_getElem? hget)
      simp only at e1 e2 e3
      rw [hn] at e3
      obtain ⟨hfi, hy, hWd', ⟨s0, s1, s2, s3, s4, s5, s6, s7, s8, s9⟩, hSt', hGd'⟩ := hstep _ _ _ hget hSt
      simp only at hy
      subst hfi hy
      have hWd : ∀ W : World, Calls Try.prog 21 #[.agg #[.int .i64 t0, .int .i64 t1, .int .i64 t2, .int .i64 t3, .int .u64 t4, .int .u64 t5, .int .u64 t6, .bool false, .bool y8, .int .i64 t9]] W fun e w' => e = .returned (.int .i64 x) ∧ Below W.heap.size W w' := hWd'
      have hGd : ∀ W : World, Calls Try.prog 16 #[.agg #[.int .i64 t0, .int .i64 t1, .int .i64 t2, .int .i64 t3, .int .u64 t4, .int .u64 t5, .int .u64 t6, .bool false, .bool y8, .int .i64 t9], .int .u64 (v : Int)] W fun e w' => e = .returned (.agg #[.int .i64 s0, .int .i64 s1, .int .i64 s2, .int .i64 s3, .int .u64 s4, .int .u64 s5, .int .u64 s6, .bool s7, .bool s8, .int .i64 s9]) ∧ Below W.heap.size W w' := hGd'
      have ySz := h1.size
      obtain ⟨rl, rs, rm, rr, rw, rf, rt, q⟩ := hV1.lift h1
      have st := StaysZ.refl Wf139.heap.size m W
      have kp := Keeps.refl D W
      have lW : Wf139.heap.size ≤ W.heap.size := by
        obtain ⟨r, hr⟩ := hrl
        have := (Array.getElem?_eq_some_iff.1 hr).1
        omega
      have hDk : ∀ k, D k → gf < k ∧ k < ge12 ∧ k < We20.heap.size := fun k hk => by have := hDt k hk; omega
      clear hWd' hGd' hp hget hrl hSt hl' hlen hstep
      refine CC.block ?_
      refine CC.seq ?_
      refine CC.seq ?_
      refine CC.region ?_
      refine LL.val (R.load rfl rfl (I.ld1 rfl (RowL.cell rf rfl))) rfl rfl rfl ?_
      refine LL.val (R.not rfl rfl) rfl rfl rfl ?_
      refine LL.val (R.move rfl rfl) rfl rfl rfl ?_
      refine LL.val (R.field rfl rfl (I.fld rfl)) rfl rfl rfl ?_
      refine LL.val (R.load rfl rfl (I.ld1 rfl (RowL.cell rat rfl))) rfl rfl rfl ?_
      refine LL.val (R.pick rfl rfl rfl) rfl rfl rfl ?_
      refine LL.val (R.move rfl rfl) rfl rfl rfl ?_
      refine LL.val (R.move rfl rfl) rfl rfl rfl ?_
      refine LL.val (R.load rfl rfl (I.ldNc (vs := [Value.int IntKind.i64 t0, Value.int IntKind.i64 t1, Value.int IntKind.i64 t2, Value.int IntKind.i64 t3, Value.int IntKind.u64 t4, Value.int IntKind.u64 t5, Value.int IntKind.u64 t6, Value.bool false, Value.bool y8, Value.int IntKind.i64 t9]) (RowL.cells rat rfl) (by rfl) (by rfl))) rfl rfl rfl ?_
      have lh293 := rn1.lt
      have lh294 := rat.lt
      have lh295 := rl.lt
      have lh296 := rs.lt
      have lh297 := rm.lt
      have lh298 := rr.lt
      have lh299 := rw.lt
      have lh300 := rf.lt
      have lh301 := rt.lt
      (refine LL.call (R.call rfl rfl rfl) rfl rfl rfl (hWd _) ?_; rintro e Wh292 ⟨rfl, bh289⟩; refine ⟨_, rfl, ?_⟩)
      have zbh289 := bh289.size
      replace h1 := h1.trans (bh289.mono h1.size)
      replace rn1 := rn1.up bh289
      replace rat := rat.up bh289
      replace rl := rl.up bh289
      replace rs := rs.up bh289
      replace rm := rm.up bh289
      replace rr := rr.up bh289
      replace rw := rw.up bh289
      replace rf := rf.up bh289
      replace rt := rt.up bh289
      replace q := q.trans (bh289.mono q.size)
      replace st := st.trans (StaysZ.of_below bh289)
      replace kp := kp.trans (Keeps.of_below (fun k hk => by have := hDk k hk; omega) bh289)
      refine LL.val (R.neF rfl rfl rfl (by omega)) rfl rfl rfl ?_
      refine LL.val (R.pick rfl rfl rfl) rfl rfl rfl ?_
      refine LL.val (R.move rfl rfl) rfl rfl rfl ?_
      refine LL.val (R.move rfl rfl) rfl rfl rfl ?_
      refine LL.val (R.load rfl rfl (I.ld1 rfl (RowL.cell rl rfl))) rfl rfl rfl ?_
      refine LL.val (R.load rfl rfl (I.ld1 rfl (RowL.cell rs rfl))) rfl rfl rfl ?_
      refine LL.val (R.move rfl rfl) rfl rfl rfl ?_
      (refine LL.call (R.call rfl rfl rfl) rfl rfl rfl (at_any left n c a s x _ (hvF _ q) hn (by omega) e3) ?_; rintro e W' ⟨rfl, rfl⟩; rw [← e1]; refine ⟨_, rfl, ?_⟩)
      refine LL.val (R.neF rfl rfl rfl (by omega)) rfl rfl rfl ?_
      refine LL.val (R.pick rfl rfl rfl) rfl rfl rfl ?_
      refine LL.nilS ?_
      refine CC.no rfl ?_
      refine CC.skip ?_
      refine EE.thenN ?_
      refine CC.seq ?_
      refine CC.region ?_
      refine LL.val (R.load rfl rfl (I.ldNc (vs := [Value.int IntKind.i64 t0, Value.int IntKind.i64 t1, Value.int IntKind.i64 t2, Value.int IntKind.i64 t3, Value.int IntKind.u64 t4, Value.int IntKind.u64 t5, Value.int IntKind.u64 t6, Value.bool false, Value.bool y8, Value.int IntKind.i64 t9]) (RowL.cells rat rfl) (by rfl) (by rfl))) rfl rfl rfl ?_
      refine LL.val (R.move rfl rfl) rfl rfl rfl ?_
      have lh693 := rn1.lt
      have lh694 := rat.lt
      have lh695 := rl.lt
      have lh696 := rs.lt
      have lh697 := rm.lt
      have lh698 := rr.lt
      have lh699 := rw.lt
      have lh700 := rf.lt
      have lh701 := rt.lt
      (refine LL.call (R.call rfl rfl rfl) rfl rfl rfl (hGd _) ?_; rintro e Wh692 ⟨rfl, bh689⟩; refine ⟨_, rfl, ?_⟩)
      have zbh689 := bh689.size
      replace bh289 := bh289.trans (bh689.mono bh289.size)
      replace h1 := h1.trans (bh689.mono h1.size)
      replace rn1 := rn1.up bh689
      replace rat := rat.up bh689
      replace rl := rl.up bh689
      replace rs := rs.up bh689
      replace rm := rm.up bh689
      replace rr := rr.up bh689
      replace rw := rw.up bh689
      replace rf := rf.up bh689
      replace rt := rt.up bh689
      replace q := q.trans (bh689.mono q.size)
      replace st := st.trans (StaysZ.of_below bh689)
      replace kp := kp.trans (Keeps.of_below (fun k hk => by have := hDk k hk; omega) bh689)
      refine LL.storeN (vs := [Value.int IntKind.i64 s0, Value.int IntKind.i64 s1, Value.int IntKind.i64 s2, Value.int IntKind.i64 s3, Value.int IntKind.u64 s4, Value.int IntKind.u64 s5, Value.int IntKind.u64 s6, Value.bool s7, Value.bool s8, Value.int IntKind.i64 s9]) rfl rfl rfl rfl rat (by exact Nat.le_of_ble_eq_true rfl) (ones_of rfl) rfl rfl ?_
      intro Wh738 rh739 bh737 zh740
      have hlbh737 := rat.lt
      replace rh739 : RowL Wh738 _ 33 [Value.int IntKind.i64 s0, Value.int IntKind.i64 s1, Value.int IntKind.i64 s2, Value.int IntKind.i64 s3, Value.int IntKind.u64 s4, Value.int IntKind.u64 s5, Value.int IntKind.u64 s6, Value.bool s7, Value.bool s8, Value.int IntKind.i64 s9] := rh739
      clear rat
      replace h1 := h1.grown bh737 h1.size (by rintro k ⟨⟩; omega)
      replace rn1 := rn1.gr bh737 (by have := rn1.lt; omega)
      replace rl := rl.gr bh737 (by have := rl.lt; omega)
      replace rs := rs.gr bh737 (by have := rs.lt; omega)
      replace rm := rm.gr bh737 (by have := rm.lt; omega)
      replace rr := rr.gr bh737 (by have := rr.lt; omega)
      replace rw := rw.gr bh737 (by have := rw.lt; omega)
      replace rf := rf.gr bh737 (by have := rf.lt; omega)
      replace rt := rt.gr bh737 (by have := rt.lt; omega)
      replace q := q.grown bh737 q.size (by rintro k ⟨⟩; omega)
      replace st := st.trans (StaysZ.of_grown bh737 (by omega))
      replace kp := kp.trans (Keeps.of_grown bh737 fun k hk => by have := hDk k hk; omega)
      have rat := rh739
      clear rh739
      refine LL.nilS ?_
      refine CC.seq ?_
      refine CC.region ?_
      refine LL.val (R.load rfl rfl (I.ld1 rfl (RowL.cell rn1 rfl))) rfl rfl rfl ?_
      refine LL.val (R.addNc rfl rfl rfl rfl (by omega)) rfl rfl rfl ?_
      refine LL.store rfl rfl rfl rfl rn1 (by exact Nat.le_of_ble_eq_true rfl) rfl rfl rfl rfl ?_
      intro Wh838 rh839 bh837 zh840
      have hlbh837 := rn1.lt
      replace rh839 : RowL Wh838 _ 3 [Value.int IntKind.i64 ↑(pre.length + 1)] := rh839
      clear rn1
      replace h1 := h1.grown bh837 h1.size (by rintro k ⟨⟩; omega)
      replace rl := rl.gr bh837 (by have := rl.lt; omega)
      replace rs := rs.gr bh837 (by have := rs.lt; omega)
      replace rm := rm.gr bh837 (by have := rm.lt; omega)
      replace rr := rr.gr bh837 (by have := rr.lt; omega)
      replace rw := rw.gr bh837 (by have := rw.lt; omega)
      replace rf := rf.gr bh837 (by have := rf.lt; omega)
      replace rt := rt.gr bh837 (by have := rt.lt; omega)
      replace q := q.grown bh837 q.size (by rintro k ⟨⟩; omega)
      replace st := st.trans (StaysZ.of_grown bh837 (by omega))
      replace kp := kp.trans (Keeps.of_grown bh837 fun k hk => by have := hDk k hk; omega)
      replace rat := rat.gr bh837 (by have := rat.lt; omega)
      have rn1 := rh839
      clear rh839
      refine LL.nilS ?_
      refine CC.seq ?_
      refine CC.region ?_
      refine LL.val (R.load rfl rfl (I.ld1 rfl (RowL.cell rt rfl))) rfl rfl rfl ?_
      refine LL.val (R.eqF rfl rfl rfl (by omega)) rfl rfl rfl ?_
      refine LL.val (R.move rfl rfl) rfl rfl rfl ?_
      refine LL.skip rfl rfl ?_
      refine LL.skip rfl rfl ?_
      refine LL.skip rfl rfl ?_
      refine LL.val (R.pick rfl rfl rfl) rfl rfl rfl ?_
      refine LL.nilS ?_
      refine CC.no rfl ?_
      refine CC.skip ?_
      refine EE.inN ?_
      exact EE.roundNZ ⟨st, kp, h1, by rw [hxd]; exact rn1, ⟨⟨s0, s1, s2, s3, s4, s5, s6, s7, s8, s9⟩, by rw [hxd]; exact hSt', rat⟩, trivial⟩
    case after =>
      rintro E1 W hE1 ⟨h1, p, hn', hcp⟩ hE11
      obtain ⟨rl, rs, rm, rr, rw, rf, rt, q⟩ := hV1.lift h1
      have yz := h1.size
      have hE01 := hE0k _ h1
      have eE01 := (Array.getElem?_eq_some_iff.1 hE01).1
      have eE1 := (Array.getElem?_eq_some_iff.1 hE11).1
      refine EE.thenN ?_
      refine CC.seq ?_
      refine CC.region ?_
      refine LL.val (R.load rfl rfl (I.ld1 rfl (RowL.cell rt rfl))) rfl rfl rfl ?_
      refine LL.val (R.eqF rfl rfl rfl (by omega)) rfl rfl rfl ?_
      refine LL.val (R.move rfl rfl) rfl rfl rfl ?_
      refine LL.skip rfl rfl ?_
      refine LL.skip rfl rfl ?_
      refine LL.skip rfl rfl ?_
      refine LL.skip rfl rfl ?_
      refine LL.skip rfl rfl ?_
      refine LL.skip rfl rfl ?_
      refine LL.skip rfl rfl ?_
      refine LL.val (R.pick rfl rfl rfl) rfl rfl rfl ?_
      refine LL.val (R.move rfl rfl) rfl rfl rfl ?_
      refine LL.val (R.load rfl rfl (I.ld1 rfl (RowL.cell rt rfl))) rfl rfl rfl ?_
      refine LL.val (R.eqT rfl rfl rfl (by omega)) rfl rfl rfl ?_
      refine LL.val (R.move rfl rfl) rfl rfl rfl ?_
      refine LL.val (R.load rfl rfl (I.ld1 rfl (RowL.cell hn' rfl))) rfl rfl rfl ?_
      refine LL.val (R.field rfl rfl (I.fld rfl)) rfl rfl rfl ?_
      refine LL.val (R.load rfl rfl (I.ld1 rfl (RowL.cell rw rfl))) rfl rfl rfl ?_
      refine LL.val (R.neF rfl rfl rfl (by omega)) rfl rfl rfl ?_
      refine LL.val (R.pick rfl rfl rfl) rfl rfl rfl ?_
      refine LL.val (R.pick rfl rfl rfl) rfl rfl rfl ?_
      refine LL.nilS ?_
      refine CC.no rfl ?_
      refine CC.skip ?_
      refine EE.inN ?_
      refine EE.thenN ?_
      refine CC.seq ?_
      refine CC.seq ?_
      refine CC.region ?_
      refine LL.val (R.load rfl rfl (I.ld1 rfl (RowL.cell rt rfl))) rfl rfl rfl ?_
      refine LL.nilS ?_
      refine CC.region ?_
      have li273 := hn'.lt
      have li274 := (Array.getElem?_eq_some_iff.1 hE11).1
      have li275 := rl.lt
      have li276 := rs.lt
      have li277 := rm.lt
      have li278 := rr.lt
      have li279 := rw.lt
      have li280 := rf.lt
      have li281 := rt.lt
      have li282 := (Array.getElem?_eq_some_iff.1 hE01).1
      refine LL.alloc ([Value.int IntKind.i64 0]) rfl rfl rfl rfl rfl ?_
      intro Wi284 gi285 egi285 ri286 zi287 bi283
      replace h1 := h1.trans (bi283.mono h1.size)
      replace hn' := hn'.up bi283
      replace hE11 := defer_up hE11 bi283
      replace rl := rl.up bi283
      replace rs := rs.up bi283
      replace rm := rm.up bi283
      replace rr := rr.up bi283
      replace rw := rw.up bi283
      replace rf := rf.up bi283
      replace rt := rt.up bi283
      replace q := q.trans (bi283.mono q.size)
      replace hE01 := defer_up hE01 bi283
      refine LL.store rfl rfl rfl rfl ri286 (by exact Nat.le_of_ble_eq_true rfl) rfl rfl rfl rfl ?_
      intro Wi307 ri308 bi306 zi309
      have hlbi306 := ri286.lt
      replace ri308 : RowL Wi307 _ 3 [Value.int IntKind.i64 1] := ri308
      clear ri286
      replace bi283 := bi283.grown bi306 bi283.size (by rintro k ⟨⟩; omega)
      replace h1 := h1.grown bi306 h1.size (by rintro k ⟨⟩; omega)
      replace hn' := hn'.gr bi306 (by have := hn'.lt; omega)
      replace hE11 := (bi306.block _ (Array.getElem?_eq_some_iff.1 hE11).1 (by simp; omega)).trans hE11
      replace rl := rl.gr bi306 (by have := rl.lt; omega)
      replace rs := rs.gr bi306 (by have := rs.lt; omega)
      replace rm := rm.gr bi306 (by have := rm.lt; omega)
      replace rr := rr.gr bi306 (by have := rr.lt; omega)
      replace rw := rw.gr bi306 (by have := rw.lt; omega)
      replace rf := rf.gr bi306 (by have := rf.lt; omega)
      replace rt := rt.gr bi306 (by have := rt.lt; omega)
      replace q := q.grown bi306 q.size (by rintro k ⟨⟩; omega)
      replace hE01 := (bi306.block _ (Array.getElem?_eq_some_iff.1 hE01).1 (by simp; omega)).trans hE01
      have ri286 := ri308
      clear ri308
      refine LL.nilS ?_
      refine CC.region ?_
      refine LL.val (R.load rfl rfl (I.ld1 rfl (RowL.cell ri286 rfl))) rfl rfl rfl ?_
      refine LL.val (R.addIz (z := 2) rfl rfl rfl (by decide) (by decide)) rfl rfl rfl ?_
      refine LL.store rfl rfl rfl rfl ri286 (by exact Nat.le_of_ble_eq_true rfl) rfl rfl rfl rfl ?_
      intro Wi365 ri366 bi364 zi367
      have hlbi364 := ri286.lt
      replace ri366 : RowL Wi365 _ 3 [Value.int IntKind.i64 2] := ri366
      clear ri286
      replace bi283 := bi283.grown bi364 bi283.size (by rintro k ⟨⟩; omega)
      replace h1 := h1.grown bi364 h1.size (by rintro k ⟨⟩; omega)
      replace hn' := hn'.gr bi364 (by have := hn'.lt; omega)
      replace hE11 := (bi364.block _ (Array.getElem?_eq_some_iff.1 hE11).1 (by simp; omega)).trans hE11
      replace rl := rl.gr bi364 (by have := rl.lt; omega)
      replace rs := rs.gr bi364 (by have := rs.lt; omega)
      replace rm := rm.gr bi364 (by have := rm.lt; omega)
      replace rr := rr.gr bi364 (by have := rr.lt; omega)
      replace rw := rw.gr bi364 (by have := rw.lt; omega)
      replace rf := rf.gr bi364 (by have := rf.lt; omega)
      replace rt := rt.gr bi364 (by have := rt.lt; omega)
      replace q := q.grown bi364 q.size (by rintro k ⟨⟩; omega)
      replace hE01 := (bi364.block _ (Array.getElem?_eq_some_iff.1 hE01).1 (by simp; omega)).trans hE01
      have ri286 := ri366
      clear ri366
      refine LL.nil ?_
      refine EE.again ?_
      refine RN.step ?_
      refine CC.seq ?_
      refine CC.seq ?_
      refine CC.region ?_
      refine LL.val (R.load rfl rfl (I.ld1 rfl (RowL.cell ri286 rfl))) rfl rfl rfl ?_
      refine LL.val (R.ltF rfl rfl rfl (by omega)) rfl rfl rfl ?_
      refine LL.nilS ?_
      refine CC.no rfl ?_
      refine CC.exit ?_
      refine EE.thenX ?_
      refine EE.thenX ?_
      refine EE.inX ?_
      refine EE.thenN ?_
      refine CC.seq ?_
      refine CC.region ?_
      have li408 := hn'.lt
      have li409 := (Array.getElem?_eq_some_iff.1 hE11).1
      have li410 := rl.lt
      have li411 := rs.lt
      have li412 := rm.lt
      have li413 := rr.lt
      have li414 := rw.lt
      have li415 := rf.lt
      have li416 := rt.lt
      have li417 := (Array.getElem?_eq_some_iff.1 hE01).1
      have li418 := ri286.lt
      (refine LL.call (R.call rfl rfl rfl) rfl rfl rfl (works_any _) ?_; rintro e Wi407 ⟨rfl, bi404⟩; refine ⟨_, rfl, ?_⟩)
      have zbi404 := bi404.size
      replace bi283 := bi283.trans (bi404.mono bi283.size)
      replace h1 := h1.trans (bi404.mono h1.size)
      replace hn' := hn'.up bi404
      replace hE11 := defer_up hE11 bi404
      replace rl := rl.up bi404
      replace rs := rs.up bi404
      replace rm := rm.up bi404
      replace rr := rr.up bi404
      replace rw := rw.up bi404
      replace rf := rf.up bi404
      replace rt := rt.up bi404
      replace q := q.trans (bi404.mono q.size)
      replace hE01 := defer_up hE01 bi404
      replace ri286 := ri286.up bi404
      refine LL.store rfl rfl rfl rfl rr (by exact Nat.le_of_ble_eq_true rfl) rfl rfl rfl rfl ?_
      intro Wi441 ri442 bi440 zi443
      have hlbi440 := rr.lt
      replace ri442 : RowL Wi441 _ 4 [Value.bool true] := ri442
      clear rr
      replace hn' := hn'.gr bi440 (by have := hn'.lt; omega)
      replace hE11 := (bi440.block _ (Array.getElem?_eq_some_iff.1 hE11).1 (by simp; omega)).trans hE11
      replace rl := rl.gr bi440 (by have := rl.lt; omega)
      replace rs := rs.gr bi440 (by have := rs.lt; omega)
      replace rm := rm.gr bi440 (by have := rm.lt; omega)
      replace rw := rw.gr bi440 (by have := rw.lt; omega)
      replace rf := rf.gr bi440 (by have := rf.lt; omega)
      replace rt := rt.gr bi440 (by have := rt.lt; omega)
      replace q := q.grown bi440 q.size (by rintro k ⟨⟩; omega)
      replace hE01 := (bi440.block _ (Array.getElem?_eq_some_iff.1 hE01).1 (by simp; omega)).trans hE01
      replace ri286 := ri286.gr bi440 (by have := ri286.lt; omega)
      have rr := ri442
      clear ri442
      refine LL.nilS ?_
      refine CC.ret ?_
      have hE9 : gr ≠ E1 := by omega
      refine EE.retNN hE01 hE11 (by omega) rfl ⟨_, rfl, lv1 rfl ((taken_up (taken_up rr hE9) (by omega)).cell rfl)⟩ ?_
      exact ⟨rfl, taken_bel (taken_bel q (by omega) (Nat.le_refl _)) (by omega) (Nat.le_refl _)⟩
end Go.Proofs.Ytloflmkolnediaa

/- scan: the document's Look; ScanLooks. -/
namespace Go.Proofs.Ytloflmkolnediaa
set_option linter.unusedVariables false
set_option linter.unusedSimpArgs false
open Go.RowKit Go.Shelf
set_option maxRecDepth 100000
set_option maxHeartbeats 16000000
abbrev drL (k slots : Nat) (slot : Int) (key ptr ahead : Nat) (dn is : Bool) (loads : Nat) : List Value := [.int .i64 (wayD k), .int .i64 (slots : Int), .int .i64 slot, .int .i64 (stepD k), .int .u64 (key : Int), .int .u64 (ptr : Int), .int .u64 (ahead : Int), .bool dn, .bool is, .int .i64 (loads : Int)]

theorem right9_T (left n c : Nat) (a : Option Addr) (w : World) (h : rowOk left n) : Calls Try.prog 45 #[.int .u64 (left : Int), .slice a n c] w fun e w' => e = .returned (.bool true) ∧ w = w' := by
  obtain ⟨h1, h2, h3, h4⟩ := h
  refine X.fn Try.func45 rfl (n := 23) rfl rfl ?_
  refine CC.seq ?_
  refine CC.region ?_
  refine LL.val (R.assign rfl rfl) rfl rfl rfl ?_
  refine LL.nilS ?_
  refine CC.seq ?_
  refine CC.region ?_
  refine LL.val (R.move rfl rfl) rfl rfl rfl ?_
  refine LL.val (R.neT rfl rfl rfl (by omega)) rfl rfl rfl ?_
  refine LL.val (R.move rfl rfl) rfl rfl rfl ?_
  refine LL.val (R.move rfl rfl) rfl rfl rfl ?_
  refine LL.val (R.len rfl rfl rfl rfl) rfl rfl rfl ?_
  refine LL.val (R.remNc rfl rfl rfl rfl (by omega)) rfl rfl rfl ?_
  refine LL.val (R.eqT rfl rfl rfl (by omega)) rfl rfl rfl ?_
  refine LL.val (R.pick rfl rfl rfl) rfl rfl rfl ?_
  refine LL.val (R.move rfl rfl) rfl rfl rfl ?_
  refine LL.val (R.move rfl rfl) rfl rfl rfl ?_
  refine LL.val (R.len rfl rfl rfl rfl) rfl rfl rfl ?_
  refine LL.val (R.geT rfl rfl rfl (by omega)) rfl rfl rfl ?_
  refine LL.val (R.pick rfl rfl rfl) rfl rfl rfl ?_
  refine LL.val (R.move rfl rfl) rfl rfl rfl ?_
  refine LL.val (R.move rfl rfl) rfl rfl rfl ?_
  refine LL.val (R.len rfl rfl rfl rfl) rfl rfl rfl ?_
  refine LL.val (R.leT rfl rfl rfl (by omega)) rfl rfl rfl ?_
  refine LL.val (R.pick rfl rfl rfl) rfl rfl rfl ?_
  refine LL.val (R.assign rfl rfl) rfl rfl rfl ?_
  refine LL.nilS ?_
  refine CC.ret ?_
  refine EE.ret _ rfl rfl ?_
  exact ⟨rfl, rfl⟩
theorem right9_F (left n c : Nat) (a : Option Addr) (w : World) (h : ¬ rowOk left n) (hn : n ≤ 1048576) : Calls Try.prog 45 #[.int .u64 (left : Int), .slice a n c] w fun e w' => e = .returned (.bool false) ∧ w = w' := by
  by_cases h1 : left = 0
  · clear h
    refine X.fn Try.func45 rfl (n := 23) rfl rfl ?_
    refine CC.seq ?_
    refine CC.region ?_
    refine LL.val (R.assign rfl rfl) rfl rfl rfl ?_
    refine LL.nilS ?_
    refine CC.seq ?_
    refine CC.region ?_
    refine LL.val (R.move rfl rfl) rfl rfl rfl ?_
    refine LL.val (R.neF rfl rfl rfl (by omega)) rfl rfl rfl ?_
    refine LL.val (R.move rfl rfl) rfl rfl rfl ?_
    refine LL.skip rfl rfl ?_
    refine LL.skip rfl rfl ?_
    refine LL.skip rfl rfl ?_
    refine LL.skip rfl rfl ?_
    refine LL.val (R.pick rfl rfl rfl) rfl rfl rfl ?_
    refine LL.val (R.move rfl rfl) rfl rfl rfl ?_
    refine LL.skip rfl rfl ?_
    refine LL.skip rfl rfl ?_
    refine LL.skip rfl rfl ?_
    refine LL.val (R.pick rfl rfl rfl) rfl rfl rfl ?_
    refine LL.val (R.move rfl rfl) rfl rfl rfl ?_
    refine LL.skip rfl rfl ?_
    refine LL.skip rfl rfl ?_
    refine LL.skip rfl rfl ?_
    refine LL.val (R.pick rfl rfl rfl) rfl rfl rfl ?_
    refine LL.val (R.assign rfl rfl) rfl rfl rfl ?_
    refine LL.nilS ?_
    refine CC.ret ?_
    refine EE.ret _ rfl rfl ?_
    exact ⟨rfl, rfl⟩
  by_cases h2 : n % 2 = 0
  case neg =>
    clear h
    refine X.fn Try.func45 rfl (n := 23) rfl rfl ?_
    refine CC.seq ?_
    refine CC.region ?_
    refine LL.val (R.assign rfl rfl) rfl rfl rfl ?_
    refine LL.nilS ?_
    refine CC.seq ?_
    refine CC.region ?_
    refine LL.val (R.move rfl rfl) rfl rfl rfl ?_
    refine LL.val (R.neT rfl rfl rfl (by omega)) rfl rfl rfl ?_
    refine LL.val (R.move rfl rfl) rfl rfl rfl ?_
    refine LL.val (R.move rfl rfl) rfl rfl rfl ?_
    refine LL.val (R.len rfl rfl rfl rfl) rfl rfl rfl ?_
    refine LL.val (R.remNc rfl rfl rfl rfl (by omega)) rfl rfl rfl ?_
    refine LL.val (R.eqF rfl rfl rfl (by omega)) rfl rfl rfl ?_
    refine LL.val (R.pick rfl rfl rfl) rfl rfl rfl ?_
    refine LL.val (R.move rfl rfl) rfl rfl rfl ?_
    refine LL.skip rfl rfl ?_
    refine LL.skip rfl rfl ?_
    refine LL.skip rfl rfl ?_
    refine LL.val (R.pick rfl rfl rfl) rfl rfl rfl ?_
    refine LL.val (R.move rfl rfl) rfl rfl rfl ?_
    refine LL.skip rfl rfl ?_
    refine LL.skip rfl rfl ?_
    refine LL.skip rfl rfl ?_
    refine LL.val (R.pick rfl rfl rfl) rfl rfl rfl ?_
    refine LL.val (R.assign rfl rfl) rfl rfl rfl ?_
    refine LL.nilS ?_
    refine CC.ret ?_
    refine EE.ret _ rfl rfl ?_
    exact ⟨rfl, rfl⟩
  by_cases h3 : n < 4
  · clear h
    refine X.fn Try.func45 rfl (n := 23) rfl rfl ?_
    refine CC.seq ?_
    refine CC.region ?_
    refine LL.val (R.assign rfl rfl) rfl rfl rfl ?_
    refine LL.nilS ?_
    refine CC.seq ?_
    refine CC.region ?_
    refine LL.val (R.move rfl rfl) rfl rfl rfl ?_
    refine LL.val (R.neT rfl rfl rfl (by omega)) rfl rfl rfl ?_
    refine LL.val (R.move rfl rfl) rfl rfl rfl ?_
    refine LL.val (R.move rfl rfl) rfl rfl rfl ?_
    refine LL.val (R.len rfl rfl rfl rfl) rfl rfl rfl ?_
    refine LL.val (R.remNc rfl rfl rfl rfl (by omega)) rfl rfl rfl ?_
    refine LL.val (R.eqT rfl rfl rfl (by omega)) rfl rfl rfl ?_
    refine LL.val (R.pick rfl rfl rfl) rfl rfl rfl ?_
    refine LL.val (R.move rfl rfl) rfl rfl rfl ?_
    refine LL.val (R.move rfl rfl) rfl rfl rfl ?_
    refine LL.val (R.len rfl rfl rfl rfl) rfl rfl rfl ?_
    refine LL.val (R.geF rfl rfl rfl (by omega)) rfl rfl rfl ?_
    refine LL.val (R.pick rfl rfl rfl) rfl rfl rfl ?_
    refine LL.val (R.move rfl rfl) rfl rfl rfl ?_
    refine LL.skip rfl rfl ?_
    refine LL.skip rfl rfl ?_
    refine LL.skip rfl rfl ?_
    refine LL.val (R.pick rfl rfl rfl) rfl rfl rfl ?_
    refine LL.val (R.assign rfl rfl) rfl rfl rfl ?_
    refine LL.nilS ?_
    refine CC.ret ?_
    refine EE.ret _ rfl rfl ?_
    exact ⟨rfl, rfl⟩
  have h4 : 56 < n := by unfold rowOk at h; omega
  clear h
  refine X.fn Try.func45 rfl (n := 23) rfl rfl ?_
  refine CC.seq ?_
  refine CC.region ?_
  refine LL.val (R.assign rfl rfl) rfl rfl rfl ?_
  refine LL.nilS ?_
  refine CC.seq ?_
  refine CC.region ?_
  refine LL.val (R.move rfl rfl) rfl rfl rfl ?_
  refine LL.val (R.neT rfl rfl rfl (by omega)) rfl rfl rfl ?_
  refine LL.val (R.move rfl rfl) rfl rfl rfl ?_
  refine LL.val (R.move rfl rfl) rfl rfl rfl ?_
  refine LL.val (R.len rfl rfl rfl rfl) rfl rfl rfl ?_
  refine LL.val (R.remNc rfl rfl rfl rfl (by omega)) rfl rfl rfl ?_
  refine LL.val (R.eqT rfl rfl rfl (by omega)) rfl rfl rfl ?_
  refine LL.val (R.pick rfl rfl rfl) rfl rfl rfl ?_
  refine LL.val (R.move rfl rfl) rfl rfl rfl ?_
  refine LL.val (R.move rfl rfl) rfl rfl rfl ?_
  refine LL.val (R.len rfl rfl rfl rfl) rfl rfl rfl ?_
  refine LL.val (R.geT rfl rfl rfl (by omega)) rfl rfl rfl ?_
  refine LL.val (R.pick rfl rfl rfl) rfl rfl rfl ?_
  refine LL.val (R.move rfl rfl) rfl rfl rfl ?_
  refine LL.val (R.move rfl rfl) rfl rfl rfl ?_
  refine LL.val (R.len rfl rfl rfl rfl) rfl rfl rfl ?_
  refine LL.val (R.leF rfl rfl rfl (by omega)) rfl rfl rfl ?_
  refine LL.val (R.pick rfl rfl rfl) rfl rfl rfl ?_
  refine LL.val (R.assign rfl rfl) rfl rfl rfl ?_
  refine LL.nilS ?_
  refine CC.ret ?_
  refine EE.ret _ rfl rfl ?_
  exact ⟨rfl, rfl⟩
def runD (left : Nat) (s : List Nat) : Nat → Rd → Dr → Dr
  | 0, _, d => d
  | m + 1, r, d => if r.dn then d else runD left s m (nextR left s r) (giveD d (atW left s (wantR r)))
theorem runD_dn {left : Nat} {s : List Nat} {m : Nat} {r : Rd} {d : Dr} (hd : r.dn = true) : runD left s m r d = d := by
  cases m with
  | zero => rfl
  | succ m => simp [runD, hd]
theorem runD_step {left : Nat} {s : List Nat} {m : Nat} {r : Rd} {d : Dr} (hd : r.dn = false) : runD left s (m + 1) r d = runD left s m (nextR left s r) (giveD d (atW left s (wantR r))) := by simp [runD, hd]
theorem sim_next {left : Nat} {s : List Nat} {r : Rd} {d : Dr} (h : Sim r d) (hi : InvR r) (hd : r.dn = false) : Sim (nextR left s r) (giveD d (atW left s (wantR r))) := sim_give h hi hd _
theorem sim_run {left : Nat} {s : List Nat} : ∀ (m : Nat) (r : Rd) (d : Dr), InvR r → Sim r d → Sim (runF left s m r) (runD left s m r d) := by
  intro m
  induction m with
  | zero => intro r d _ h; exact h
  | succ m ih =>
    intro r d hi h
    cases hd : r.dn with
    | true => rw [runF_dn left s hd, runD_dn hd]; exact h
    | false =>
      rw [runD_step hd]
      simp only [runF, hd, Bool.false_eq_true, if_false]
      exact ih _ _ (next_inv (left := left) (s := s) hi hd).1 (sim_next h hi hd)
theorem dlook_F (way : Int) (left n c key : Nat) (a : Option Addr) (w : World) (hn : n ≤ 1048576) (h : (way ≠ 1 ∧ way ≠ 2) ∨ ¬ rowOk left n) : Calls Try.prog 18 #[.int .i64 way, .int .u64 (left : Int), .slice a n c, .int .u64 (key : Int)] w fun e w' => e = .returned (.tuple #[dzA ⟨0, 0, 0, 0, 0, 0, 0, false, false, 0⟩, .bool false]) ∧ Below w.heap.size w w' := by
  have q := Below.refl w.heap.size w
  by_cases h2 : rowOk left n
  case neg => 
    clear h
    refine X.fn Try.func18 rfl (n := 51) rfl rfl ?_
    refine CC.seq ?_
    refine CC.region ?_
    refine LL.alloc ([Value.int IntKind.i64 0, Value.int IntKind.i64 0, Value.int IntKind.i64 0, Value.int IntKind.i64 0, Value.int IntKind.u64 0, Value.int IntKind.u64 0, Value.int IntKind.u64 0, Value.bool false, Value.bool false, Value.int IntKind.i64 0]) rfl rfl rfl rfl rfl ?_
    intro W2 g3 eg3 r4 z5 b1
    replace q := q.trans (b1.mono q.size)
    refine LL.val (R.assign rfl rfl) rfl rfl rfl ?_
    refine LL.nilS ?_
    refine CC.seq ?_
    refine CC.seq ?_
    refine CC.region ?_
    refine LL.val (R.move rfl rfl) rfl rfl rfl ?_
    refine LL.val (R.move rfl rfl) rfl rfl rfl ?_
    (refine LL.call (R.call rfl rfl rfl) rfl rfl rfl (right9_F left n c a _ h2 hn) ?_; rintro e W' ⟨rfl, rfl⟩; refine ⟨_, rfl, ?_⟩)
    refine LL.val (R.not rfl rfl) rfl rfl rfl ?_
    refine LL.val (R.move rfl rfl) rfl rfl rfl ?_
    refine LL.skip rfl rfl ?_
    refine LL.skip rfl rfl ?_
    refine LL.skip rfl rfl ?_
    refine LL.skip rfl rfl ?_
    refine LL.skip rfl rfl ?_
    refine LL.skip rfl rfl ?_
    refine LL.val (R.pick rfl rfl rfl) rfl rfl rfl ?_
    refine LL.nilS ?_
    refine CC.yes rfl ?_
    refine CC.seq ?_
    refine CC.region ?_
    refine LL.val (R.buildV rfl rfl (v := .agg #[Value.int IntKind.i64 0, Value.int IntKind.i64 0, Value.int IntKind.i64 0, Value.int IntKind.i64 0, Value.int IntKind.u64 0, Value.int IntKind.u64 0, Value.int IntKind.u64 0, Value.bool false, Value.bool false, Value.int IntKind.i64 0]) (fun _ => by kernel_rfl)) rfl rfl rfl ?_
    refine LL.storeN (vs := [Value.int IntKind.i64 0, Value.int IntKind.i64 0, Value.int IntKind.i64 0, Value.int IntKind.i64 0, Value.int IntKind.u64 0, Value.int IntKind.u64 0, Value.int IntKind.u64 0, Value.bool false, Value.bool false, Value.int IntKind.i64 0]) rfl rfl rfl rfl r4 (by exact Nat.le_of_ble_eq_true rfl) (ones_of rfl) rfl rfl ?_
    intro W7 r8 b6 z9
    have hlb6 := r4.lt
    replace r8 : RowL W7 _ 33 [Value.int IntKind.i64 0, Value.int IntKind.i64 0, Value.int IntKind.i64 0, Value.int IntKind.i64 0, Value.int IntKind.u64 0, Value.int IntKind.u64 0, Value.int IntKind.u64 0, Value.bool false, Value.bool false, Value.int IntKind.i64 0] := r8
    clear r4
    replace b1 := b1.grown b6 b1.size (by rintro k ⟨⟩; omega)
    replace q := q.grown b6 q.size (by rintro k ⟨⟩; omega)
    have r4 := r8
    clear r8
    refine LL.val (R.assign rfl rfl) rfl rfl rfl ?_
    refine LL.nilS ?_
    refine CC.ret ?_
    refine EE.thenR ?_
    refine EE.ret2 rfl ⟨_, rfl, lvNc (RowL.cells0 (by assumption)) (by rfl) (by rfl)⟩ rfl ?_
    exact ⟨rfl, q⟩
  have h3 : way ≠ 1 ∧ way ≠ 2 := h.resolve_right fun e => e h2
  refine X.fn Try.func18 rfl (n := 51) rfl rfl ?_
  refine CC.seq ?_
  refine CC.region ?_
  refine LL.alloc ([Value.int IntKind.i64 0, Value.int IntKind.i64 0, Value.int IntKind.i64 0, Value.int IntKind.i64 0, Value.int IntKind.u64 0, Value.int IntKind.u64 0, Value.int IntKind.u64 0, Value.bool false, Value.bool false, Value.int IntKind.i64 0]) rfl rfl rfl rfl rfl ?_
  intro Wa2 ga3 ega3 ra4 za5 ba1
  replace q := q.trans (ba1.mono q.size)
  refine LL.val (R.assign rfl rfl) rfl rfl rfl ?_
  refine LL.nilS ?_
  refine CC.seq ?_
  refine CC.seq ?_
  refine CC.region ?_
  refine LL.val (R.move rfl rfl) rfl rfl rfl ?_
  refine LL.val (R.move rfl rfl) rfl rfl rfl ?_
  (refine LL.call (R.call rfl rfl rfl) rfl rfl rfl (right9_T left n c a _ h2) ?_; rintro e W' ⟨rfl, rfl⟩; refine ⟨_, rfl, ?_⟩)
  refine LL.val (R.not rfl rfl) rfl rfl rfl ?_
  refine LL.val (R.move rfl rfl) rfl rfl rfl ?_
  refine LL.val (R.move rfl rfl) rfl rfl rfl ?_
  refine LL.val (R.move rfl rfl) rfl rfl rfl ?_
  refine LL.val (R.len rfl rfl rfl rfl) rfl rfl rfl ?_
  refine LL.val (R.quoNc rfl rfl rfl rfl (by omega) (by omega)) rfl rfl rfl ?_
  (refine LL.call (R.call rfl rfl rfl) rfl rfl rfl (right_F way _ _ (.inl h3)) ?_; rintro e W' ⟨rfl, rfl⟩; refine ⟨_, rfl, ?_⟩)
  refine LL.val (R.not rfl rfl) rfl rfl rfl ?_
  refine LL.val (R.pick rfl rfl rfl) rfl rfl rfl ?_
  refine LL.nilS ?_
  refine CC.yes rfl ?_
  refine CC.seq ?_
  refine CC.region ?_
  refine LL.val (R.buildV rfl rfl (v := .agg #[Value.int IntKind.i64 0, Value.int IntKind.i64 0, Value.int IntKind.i64 0, Value.int IntKind.i64 0, Value.int IntKind.u64 0, Value.int IntKind.u64 0, Value.int IntKind.u64 0, Value.bool false, Value.bool false, Value.int IntKind.i64 0]) (fun _ => by kernel_rfl)) rfl rfl rfl ?_
  refine LL.storeN (vs := [Value.int IntKind.i64 0, Value.int IntKind.i64 0, Value.int IntKind.i64 0, Value.int IntKind.i64 0, Value.int IntKind.u64 0, Value.int IntKind.u64 0, Value.int IntKind.u64 0, Value.bool false, Value.bool false, Value.int IntKind.i64 0]) rfl rfl rfl rfl ra4 (by exact Nat.le_of_ble_eq_true rfl) (ones_of rfl) rfl rfl ?_
  intro Wa7 ra8 ba6 za9
  have hlba6 := ra4.lt
  replace ra8 : RowL Wa7 _ 33 [Value.int IntKind.i64 0, Value.int IntKind.i64 0, Value.int IntKind.i64 0, Value.int IntKind.i64 0, Value.int IntKind.u64 0, Value.int IntKind.u64 0, Value.int IntKind.u64 0, Value.bool false, Value.bool false, Value.int IntKind.i64 0] := ra8
  clear ra4
  replace ba1 := ba1.grown ba6 ba1.size (by rintro k ⟨⟩; omega)
  replace q := q.grown ba6 q.size (by rintro k ⟨⟩; omega)
  have ra4 := ra8
  clear ra8
  refine LL.val (R.assign rfl rfl) rfl rfl rfl ?_
  refine LL.nilS ?_
  refine CC.ret ?_
  refine EE.thenR ?_
  refine EE.ret2 rfl ⟨_, rfl, lvNc (RowL.cells0 (by assumption)) (by rfl) (by rfl)⟩ rfl ?_
  exact ⟨rfl, q⟩
--C ref10_Reader_Wants | hWd @w | ⟨rfl, @b⟩
--C ref10_At | at_any left n c a s x @w (hvF _ q) hn (by omega) e3 | S
--C ref10_Reader_Give | hGd @w | ⟨rfl, @b⟩
theorem dlook_T (up : Bool) (left n c key : Nat) (a : Option Addr) (s : List Nat) (w : World) (hv : ReadsT uE 1 w (.slice a n c) s) (hn : s.length = n) (hr : rowOk left n) : Calls Try.prog 18 #[.int .i64 (wayI up), .int .u64 (left : Int), .slice a n c, .int .u64 (key : Int)] w fun e w' => e = .returned (.tuple #[drA (runD left s (4 * n) (newR up (n / 2) key) (newD up (n / 2) key)), .bool true]) ∧ Below w.heap.size w w' := by
  have q := Below.refl w.heap.size w
  have hvF : ∀ X, Below w.heap.size w X → ReadsT uE 1 X (.slice a n c) s := fun X b => hv.up b
  have hrow := hr
  obtain ⟨r1, r2, r3, r4⟩ := hr
  have hway : wayI up = 1 ∨ wayI up = 2 := by cases up <;> simp [wayI]
  obtain ⟨hi0, hm0⟩ := new_inv (up := up) (slots := n / 2) (key := key) (by omega) (by omega)
  have hs0 := sim_new (up := up) (slots := n / 2) (key := key)
  have hsl0 : (newR up (n / 2) key).slots = n / 2 := by cases up <;> rfl
  obtain ⟨r0, hr0⟩ : ∃ r, newR up (n / 2) key = r := ⟨_, rfl⟩
  obtain ⟨d0, hd0⟩ : ∃ r, newD up (n / 2) key = r := ⟨_, rfl⟩
  rw [hr0, hd0] at hs0
  rw [hr0] at hi0 hsl0 hm0
  rw [hr0, hd0]
  obtain ⟨k0, sl0, st0, ky0, pt0, ah0, dn0, is0, lo0⟩ := d0
  have hDN : ∀ W : World, Calls Try.prog 12 #[.int .i64 (wayI up), .int .i64 ((n / 2 : Nat) : Int), .int .u64 (key : Int)] W fun e w' => e = .returned (.agg #[.int .i64 (wayD k0), .int .i64 (sl0 : Int), .int .i64 st0, .int .i64 (stepD k0), .int .u64 (ky0 : Int), .int .u64 (pt0 : Int), .int .u64 (ah0 : Int), .bool dn0, .bool is0, .int .i64 (lo0 : Int)]) ∧ Below W.heap.size W w' := fun W => by
    have := dnew_T up (n / 2) key W (by omega) (by omega)
    rw [hd0] at this
    exact this
  obtain ⟨D, hD⟩ : ∃ D, runD left s (4 * n) r0 ⟨k0, sl0, st0, ky0, pt0, ah0, dn0, is0, lo0⟩ = D := ⟨_, rfl⟩
  rw [hD]
  clear hv
  refine X.fn Try.func18 rfl (n := 51) rfl rfl ?_
  refine CC.seq ?_
  refine CC.region ?_
  refine LL.alloc ([Value.int IntKind.i64 0, Value.int IntKind.i64 0, Value.int IntKind.i64 0, Value.int IntKind.i64 0, Value.int IntKind.u64 0, Value.int IntKind.u64 0, Value.int IntKind.u64 0, Value.bool false, Value.bool false, Value.int IntKind.i64 0]) rfl rfl rfl rfl rfl ?_
  intro W9 g10 eg10 r11 z12 b8
  replace q := q.trans (b8.mono q.size)
  refine LL.val (R.assign rfl rfl) rfl rfl rfl ?_
  refine LL.nilS ?_
  refine CC.seq ?_
  refine CC.seq ?_
  refine CC.region ?_
  refine LL.val (R.move rfl rfl) rfl rfl rfl ?_
  refine LL.val (R.move rfl rfl) rfl rfl rfl ?_
  (refine LL.call (R.call rfl rfl rfl) rfl rfl rfl (right9_T left n c a _ hrow) ?_; rintro e W' ⟨rfl, rfl⟩; refine ⟨_, rfl, ?_⟩)
  refine LL.val (R.not rfl rfl) rfl rfl rfl ?_
  refine LL.val (R.move rfl rfl) rfl rfl rfl ?_
  refine LL.val (R.move rfl rfl) rfl rfl rfl ?_
  refine LL.val (R.move rfl rfl) rfl rfl rfl ?_
  refine LL.val (R.len rfl rfl rfl rfl) rfl rfl rfl ?_
  refine LL.val (R.quoNc rfl rfl rfl rfl (by omega) (by omega)) rfl rfl rfl ?_
  (refine LL.call (R.call rfl rfl rfl) rfl rfl rfl (right_T (wayI up) _ _ hway (by omega) (by omega)) ?_; rintro e W' ⟨rfl, rfl⟩; refine ⟨_, rfl, ?_⟩)
  refine LL.val (R.not rfl rfl) rfl rfl rfl ?_
  refine LL.val (R.pick rfl rfl rfl) rfl rfl rfl ?_
  refine LL.nilS ?_
  refine CC.no rfl ?_
  refine CC.skip ?_
  refine EE.thenN ?_
  refine CC.seq ?_
  refine CC.region ?_
  refine LL.val (R.move rfl rfl) rfl rfl rfl ?_
  refine LL.val (R.move rfl rfl) rfl rfl rfl ?_
  refine LL.val (R.len rfl rfl rfl rfl) rfl rfl rfl ?_
  refine LL.val (R.quoNc rfl rfl rfl rfl (by omega) (by omega)) rfl rfl rfl ?_
  refine LL.val (R.move rfl rfl) rfl rfl rfl ?_
  have l145 := r11.lt
  (refine LL.call (R.call rfl rfl rfl) rfl rfl rfl (hDN _) ?_; rintro e W144 ⟨rfl, b141⟩; refine ⟨_, rfl, ?_⟩)
  have zb141 := b141.size
  replace r11 := r11.up b141
  replace b8 := b8.trans (b141.mono b8.size)
  replace q := q.trans (b141.mono q.size)
  have l157 := r11.lt
  refine LL.alloc ([Value.int IntKind.i64 0, Value.int IntKind.i64 0, Value.int IntKind.i64 0, Value.int IntKind.i64 0, Value.int IntKind.u64 0, Value.int IntKind.u64 0, Value.int IntKind.u64 0, Value.bool false, Value.bool false, Value.int IntKind.i64 0]) rfl rfl rfl rfl rfl ?_
  intro W159 g160 eg160 r161 z162 b158
  replace b141 := b141.trans (b158.mono b141.size)
  replace r11 := r11.up b158
  replace b8 := b8.trans (b158.mono b8.size)
  replace q := q.trans (b158.mono q.size)
  refine LL.storeN (vs := [Value.int IntKind.i64 (wayD k0), Value.int IntKind.i64 ↑sl0, Value.int IntKind.i64 st0, Value.int IntKind.i64 (stepD k0), Value.int IntKind.u64 ↑ky0, Value.int IntKind.u64 ↑pt0, Value.int IntKind.u64 ↑ah0, Value.bool dn0, Value.bool is0, Value.int IntKind.i64 ↑lo0]) rfl rfl rfl rfl r161 (by exact Nat.le_of_ble_eq_true rfl) (ones_of rfl) rfl rfl ?_
  intro W173 r174 b172 z175
  have hlb172 := r161.lt
  replace r174 : RowL W173 _ 33 [Value.int IntKind.i64 (wayD k0), Value.int IntKind.i64 ↑sl0, Value.int IntKind.i64 st0, Value.int IntKind.i64 (stepD k0), Value.int IntKind.u64 ↑ky0, Value.int IntKind.u64 ↑pt0, Value.int IntKind.u64 ↑ah0, Value.bool dn0, Value.bool is0, Value.int IntKind.i64 ↑lo0] := r174
  clear r161
  replace b158 := b158.grown b172 b158.size (by rintro k ⟨⟩; omega)
  replace b141 := b141.grown b172 b141.size (by rintro k ⟨⟩; omega)
  replace r11 := r11.gr b172 (by have := r11.lt; omega)
  replace b8 := b8.grown b172 b8.size (by rintro k ⟨⟩; omega)
  replace q := q.grown b172 q.size (by rintro k ⟨⟩; omega)
  have r161 := r174
  clear r174
  refine LL.nilS ?_
  refine CC.seq ?_
  refine CC.seq ?_
  refine CC.region ?_
  refine LL.val (R.assign rfl rfl) rfl rfl rfl ?_
  refine LL.nilS ?_
  refine CC.block ?_
  obtain ⟨W0, eW⟩ : ∃ X, X = W173 := ⟨_, rfl⟩
  obtain ⟨gr, er⟩ : ∃ g, g = g10 := ⟨_, rfl⟩
  obtain ⟨ga, ea⟩ : ∃ g, g = g160 := ⟨_, rfl⟩
  have hR := r11
  have hA := r161
  subst eW er ea
  have hgg : w.heap.size ≤ gr ∧ gr < ga := by omega
  refine CC.loop (α := Nat × Rd × Dr) (fun x => [(1, .int .u64 (left : Int)), (2, .slice a n c), (8, .pointer (some ⟨gr, 0, none⟩)), (10, .pointer (some ⟨ga, 0, none⟩)), (11, .int .i64 (x.1 : Int))])
    (fun x W => x.1 ≤ 4 * n ∧ Below w.heap.size w W ∧ (∃ zs, RowL W gr 33 zs ∧ zs.length = 10) ∧ RowL W ga 33 (drL x.2.2.k x.2.2.slots x.2.2.slot x.2.2.key x.2.2.ptr x.2.2.ahead x.2.2.dn x.2.2.is x.2.2.loads) ∧ InvR x.2.1 ∧ Sim x.2.1 x.2.2 ∧ x.2.1.slots = n / 2 ∧ (x.2.1.dn = true ∨ muR x.2.1 + x.1 ≤ 4 * (n / 2)) ∧ runD left s (4 * n - x.1) x.2.1 x.2.2 = D) (fun x => 4 * n - x.1)
    (0, r0, ⟨k0, sl0, st0, ky0, pt0, ah0, dn0, is0, lo0⟩) ⟨rfl, rfl, rfl, rfl, rfl, trivial⟩ ⟨Nat.zero_le _, q, ⟨_, hR, rfl⟩, hA, hi0, hs0, hsl0, .inr (by show muR r0 + 0 ≤ _; omega), hD⟩ ?_
  clear q hR hA hi0 hs0 hsl0 hm0 hD hDN hd0 hr0 r11 r161 b158 b141 b8
  rintro ⟨i, r, k, sz, st, ky, pt, ah, dn, is, lo⟩ W ⟨hi, q, ⟨zs, hR, hzs⟩, hA, hin, hs, hsl, hmu, hD⟩
  simp only at hi hA hin hs hsl hmu hD
  show CC none Try.prog _ 51 [] (sl [(1, .int .u64 (left : Int)), (2, .slice a n c), (8, .pointer (some ⟨gr, 0, none⟩)), (10, .pointer (some ⟨ga, 0, none⟩)), (11, .int .i64 (i : Int))]) _ W
  have hdn : dn = r.dn := hs.dn
  cases hd : r.dn with
  | true =>
    rw [runD_dn hd] at hD
    rw [hd] at hdn
    subst hdn hD
    obtain ⟨z0, z1, z2, z3, z4, z5, z6, z7, z8, z9, rfl⟩ : ∃ z0 z1 z2 z3 z4 z5 z6 z7 z8 z9, zs = [z0, z1, z2, z3, z4, z5, z6, z7, z8, z9] := by
      match zs, hzs with
      | [z0, z1, z2, z3, z4, z5, z6, z7, z8, z9], _ => exact ⟨z0, z1, z2, z3, z4, z5, z6, z7, z8, z9, rfl⟩
    clear hmu hin hs
    by_cases hlt : i < 4 * n
    · refine CC.seq ?_
      refine CC.seq ?_
      refine CC.region ?_
      refine LL.val (R.move rfl rfl) rfl rfl rfl ?_
      refine LL.val (R.move rfl rfl) rfl rfl rfl ?_
      refine LL.val (R.len rfl rfl rfl rfl) rfl rfl rfl ?_
      refine LL.val (R.mulcN rfl rfl rfl rfl (by omega)) rfl rfl rfl ?_
      refine LL.val (R.ltT rfl rfl rfl (by omega)) rfl rfl rfl ?_
      refine LL.val (R.move rfl rfl) rfl rfl rfl ?_
      refine LL.val (R.field rfl rfl (I.fld rfl)) rfl rfl rfl ?_
      refine LL.val (R.load rfl rfl (I.ld1 rfl (RowL.cell hA rfl))) rfl rfl rfl ?_
      refine LL.val (R.not rfl rfl) rfl rfl rfl ?_
      refine LL.val (R.pick rfl rfl rfl) rfl rfl rfl ?_
      refine LL.nilS ?_
      refine CC.no rfl ?_
      refine CC.exit ?_
      refine EE.thenX ?_
      refine EE.thenX ?_
      refine EE.inX ?_
      refine EE.thenN ?_
      refine CC.seq ?_
      refine CC.region ?_
      refine LL.val (R.load rfl rfl (I.ldNc (vs := [Value.int IntKind.i64 (wayD k), Value.int IntKind.i64 ↑sz, Value.int IntKind.i64 st, Value.int IntKind.i64 (stepD k), Value.int IntKind.u64 ↑ky, Value.int IntKind.u64 ↑pt, Value.int IntKind.u64 ↑ah, Value.bool true, Value.bool is, Value.int IntKind.i64 ↑lo]) (RowL.cells hA rfl) (by rfl) (by rfl))) rfl rfl rfl ?_
      refine LL.storeN (vs := [Value.int IntKind.i64 (wayD k), Value.int IntKind.i64 ↑sz, Value.int IntKind.i64 st, Value.int IntKind.i64 (stepD k), Value.int IntKind.u64 ↑ky, Value.int IntKind.u64 ↑pt, Value.int IntKind.u64 ↑ah, Value.bool true, Value.bool is, Value.int IntKind.i64 ↑lo]) rfl rfl rfl rfl hR (by exact Nat.le_of_ble_eq_true rfl) (ones_of rfl) rfl rfl ?_
      intro Wa2 ra3 ba1 za4
      have hlba1 := hR.lt
      replace ra3 : RowL Wa2 _ 33 [Value.int IntKind.i64 (wayD k), Value.int IntKind.i64 ↑sz, Value.int IntKind.i64 st, Value.int IntKind.i64 (stepD k), Value.int IntKind.u64 ↑ky, Value.int IntKind.u64 ↑pt, Value.int IntKind.u64 ↑ah, Value.bool true, Value.bool is, Value.int IntKind.i64 ↑lo] := ra3
      clear hR
      replace q := q.grown ba1 q.size (by rintro k ⟨⟩; omega)
      replace hA := hA.gr ba1 (by have := hA.lt; omega)
      have hR := ra3
      clear ra3
      refine LL.val (R.assign rfl rfl) rfl rfl rfl ?_
      refine LL.nilS ?_
      refine CC.ret ?_
      refine EE.ret2 rfl ⟨_, rfl, lvNc (RowL.cells0 (by assumption)) (by rfl) (by rfl)⟩ rfl ?_
      exact ⟨rfl, q⟩
    · refine CC.seq ?_
      refine CC.seq ?_
      refine CC.region ?_
      refine LL.val (R.move rfl rfl) rfl rfl rfl ?_
      refine LL.val (R.move rfl rfl) rfl rfl rfl ?_
      refine LL.val (R.len rfl rfl rfl rfl) rfl rfl rfl ?_
      refine LL.val (R.mulcN rfl rfl rfl rfl (by omega)) rfl rfl rfl ?_
      refine LL.val (R.ltF rfl rfl rfl (by omega)) rfl rfl rfl ?_
      refine LL.val (R.move rfl rfl) rfl rfl rfl ?_
      refine LL.skip rfl rfl ?_
      refine LL.skip rfl rfl ?_
      refine LL.skip rfl rfl ?_
      refine LL.val (R.pick rfl rfl rfl) rfl rfl rfl ?_
      refine LL.nilS ?_
      refine CC.no rfl ?_
      refine CC.exit ?_
      refine EE.thenX ?_
      refine EE.thenX ?_
      refine EE.inX ?_
      refine EE.thenN ?_
      refine CC.seq ?_
      refine CC.region ?_
      refine LL.val (R.load rfl rfl (I.ldNc (vs := [Value.int IntKind.i64 (wayD k), Value.int IntKind.i64 ↑sz, Value.int IntKind.i64 st, Value.int IntKind.i64 (stepD k), Value.int IntKind.u64 ↑ky, Value.int IntKind.u64 ↑pt, Value.int IntKind.u64 ↑ah, Value.bool true, Value.bool is, Value.int IntKind.i64 ↑lo]) (RowL.cells hA rfl) (by rfl) (by rfl))) rfl rfl rfl ?_
      refine LL.storeN (vs := [Value.int IntKind.i64 (wayD k), Value.int IntKind.i64 ↑sz, Value.int IntKind.i64 st, Value.int IntKind.i64 (stepD k), Value.int IntKind.u64 ↑ky, Value.int IntKind.u64 ↑pt, Value.int IntKind.u64 ↑ah, Value.bool true, Value.bool is, Value.int IntKind.i64 ↑lo]) rfl rfl rfl rfl hR (by exact Nat.le_of_ble_eq_true rfl) (ones_of rfl) rfl rfl ?_
      intro Wb2 rb3 bb1 zb4
      have hlbb1 := hR.lt
      replace rb3 : RowL Wb2 _ 33 [Value.int IntKind.i64 (wayD k), Value.int IntKind.i64 ↑sz, Value.int IntKind.i64 st, Value.int IntKind.i64 (stepD k), Value.int IntKind.u64 ↑ky, Value.int IntKind.u64 ↑pt, Value.int IntKind.u64 ↑ah, Value.bool true, Value.bool is, Value.int IntKind.i64 ↑lo] := rb3
      clear hR
      replace q := q.grown bb1 q.size (by rintro k ⟨⟩; omega)
      replace hA := hA.gr bb1 (by have := hA.lt; omega)
      have hR := rb3
      clear rb3
      refine LL.val (R.assign rfl rfl) rfl rfl rfl ?_
      refine LL.nilS ?_
      refine CC.ret ?_
      refine EE.ret2 rfl ⟨_, rfl, lvNc (RowL.cells0 (by assumption)) (by rfl) (by rfl)⟩ rfl ?_
      exact ⟨rfl, q⟩
  | false =>
  rw [hd] at hdn
  subst hdn
  have hmu' := hmu.resolve_left (by rw [hd]; decide)
  have hp := mu_pos hin hd
  have hlt : i < 4 * n := by omega
  obtain ⟨hin2, hmu2⟩ := next_inv (left := left) (s := s) hin hd
  have hs2 := sim_next (left := left) (s := s) hs hin hd
  have hsl2 : (nextR left s r).slots = n / 2 := by unfold nextR; rw [(give_key r _).2.1]; exact hsl
  obtain ⟨h5, h6, -⟩ := hs.run hd
  simp only at h5 h6
  have esz : sz = r.slots := hs.slots
  have elo : lo = r.loads := hs.loads
  have hbg := hin.big
  have hk8 := hin.k
  have hsl8 := hin.slot
  have hS8 := hin.slots
  have hmu3 : muR (nextR left s r) + (i + 1) ≤ 4 * (n / 2) := by omega
  obtain ⟨m, hm⟩ : ∃ m, 4 * n - i = m + 1 := ⟨4 * n - i - 1, by omega⟩
  rw [hm, runD_step hd] at hD
  have e3 : wantR r < (n : Int) := by have := want_lt hin; omega
  have e2 := want_ge r
  obtain ⟨x, hx⟩ : ∃ x, wantR r = x := ⟨_, rfl⟩
  have hWd : ∀ W : World, Calls Try.prog 21 #[.agg #[.int .i64 (wayD k), .int .i64 (sz : Int), .int .i64 st, .int .i64 (stepD k), .int .u64 (ky : Int), .int .u64 (pt : Int), .int .u64 (ah : Int), .bool false, .bool is, .int .i64 (lo : Int)]] W fun e w' => e = .returned (.int .i64 x) ∧ Below W.heap.size W w' := fun W => by
    have := dwants_any ⟨k, sz, st, ky, pt, ah, false, is, lo⟩ (w := W) (by show k ≤ 8; omega) rfl r.slot h5 (by show r.slot < sz; omega) (by show sz ≤ 28; omega)
    rw [show wantI (⟨k, sz, st, ky, pt, ah, false, is, lo⟩ : Dr).k r.slot = x from by rw [← hx]; show wantI k r.slot = wantI r.k r.slot; rw [h6]] at this
    exact this
  have hGv := fun W : World => dgive_any (atW left s x) ⟨k, sz, st, ky, pt, ah, false, is, lo⟩ (w := W) (by show k ≤ 8; omega) rfl (by show 0 ≤ st; omega) (by show st < sz; omega) (by show sz ≤ 28; omega) (by show lo ≤ 1000000; omega)
  rw [hx] at hs2 hD e3 e2
  obtain ⟨⟨k2, sz2, st2, ky2, pt2, ah2, dn2, is2, lo2⟩, hd2⟩ : ∃ d2, giveD ⟨k, sz, st, ky, pt, ah, false, is, lo⟩ (atW left s x) = d2 := ⟨_, rfl⟩
  rw [hd2] at hs2 hD
  have hGd : ∀ W : World, Calls Try.prog 16 #[.agg #[.int .i64 (wayD k), .int .i64 (sz : Int), .int .i64 st, .int .i64 (stepD k), .int .u64 (ky : Int), .int .u64 (pt : Int), .int .u64 (ah : Int), .bool false, .bool is, .int .i64 (lo : Int)], .int .u64 (atW left s x : Int)] W fun e w' => e = .returned (.agg #[.int .i64 (wayD k2), .int .i64 (sz2 : Int), .int .i64 st2, .int .i64 (stepD k2), .int .u64 (ky2 : Int), .int .u64 (pt2 : Int), .int .u64 (ah2 : Int), .bool dn2, .bool is2, .int .i64 (lo2 : Int)]) ∧ Below W.heap.size W w' := fun W => by
    have := hGv W
    rw [hd2] at this
    exact this
  clear hGv hd2 h5 h6 hin hs hmu hmu' hx
  refine CC.seq ?_
  refine CC.seq ?_
  refine CC.region ?_
  refine LL.val (R.move rfl rfl) rfl rfl rfl ?_
  refine LL.val (R.move rfl rfl) rfl rfl rfl ?_
  refine LL.val (R.len rfl rfl rfl rfl) rfl rfl rfl ?_
  refine LL.val (R.mulcN rfl rfl rfl rfl (by omega)) rfl rfl rfl ?_
  refine LL.val (R.ltT rfl rfl rfl (by omega)) rfl rfl rfl ?_
  refine LL.val (R.move rfl rfl) rfl rfl rfl ?_
  refine LL.val (R.field rfl rfl (I.fld rfl)) rfl rfl rfl ?_
  refine LL.val (R.load rfl rfl (I.ld1 rfl (RowL.cell hA rfl))) rfl rfl rfl ?_
  refine LL.val (R.not rfl rfl) rfl rfl rfl ?_
  refine LL.val (R.pick rfl rfl rfl) rfl rfl rfl ?_
  refine LL.nilS ?_
  refine CC.yes rfl ?_
  refine CC.skip ?_
  refine EE.thenN ?_
  refine CC.seq ?_
  refine CC.block ?_
  refine CC.freeZ (fun W_ j => j < W_.heap.size ∧ (j ≠ ga)) (by kernel_rfl) (by kernel_rfl) (fun Wc19 bc18 zc20 => ?_)
  replace q := q.trans (bc18.mono q.size)
  replace hR := hR.up bc18
  replace hA := hA.up bc18
  have hok : Kept (fun j => j < Wc19.heap.size ∧ (j ≠ ga)) Wc19 Wc19 := Kept.refl _ _
  have fzhR := fzRow (K := fun j => j < Wc19.heap.size ∧ (j ≠ ga)) hR ⟨hR.lt, (by first | trivial | omega)⟩
  refine AA.pure 1 rfl hok (by kernel_rfl) (fun w' b' => R.move rfl rfl) rfl rfl ?_
  refine AA.pure 2 rfl hok (by kernel_rfl) (fun w' b' => R.move rfl rfl) rfl rfl ?_
  refine AA.two 0 3 (by kernel_rfl) ?_ ?_
  refine SR.val rfl (R.load rfl rfl (I.ldNc (vs := [Value.int IntKind.i64 (wayD k), Value.int IntKind.i64 ↑sz, Value.int IntKind.i64 st, Value.int IntKind.i64 (stepD k), Value.int IntKind.u64 ↑ky, Value.int IntKind.u64 ↑pt, Value.int IntKind.u64 ↑ah, Value.bool false, Value.bool is, Value.int IntKind.i64 ↑lo]) (RowL.cells hA rfl) (by rfl) (by rfl))) rfl rfl hok ?_
  refine AA.one 3 (by kernel_rfl) ?_
  refine SR.val rfl (R.load rfl rfl (I.ldNc (vs := [Value.int IntKind.i64 (wayD k), Value.int IntKind.i64 ↑sz, Value.int IntKind.i64 st, Value.int IntKind.i64 (stepD k), Value.int IntKind.u64 ↑ky, Value.int IntKind.u64 ↑pt, Value.int IntKind.u64 ↑ah, Value.bool false, Value.bool is, Value.int IntKind.i64 ↑lo]) (RowL.cells hA rfl) (by rfl) (by rfl))) rfl rfl hok ?_
  refine AA.one 4 (by kernel_rfl) ?_
  refine SR.call rfl (R.call rfl rfl rfl) rfl rfl (hWd _) ?_
  rintro e Wc22 ⟨rfl, bc21⟩
  have zbc21 := bc21.size
  replace bc18 := bc18.trans (bc21.mono bc18.size)
  replace q := q.trans (bc21.mono q.size)
  replace hR := hR.up bc21
  replace hA := hA.up bc21
  replace hok := hok.trans (bkept bc21 (fun j h => by have := h.1; have := hok.size; omega))
  have yc23 := hok.size
  refine ⟨_, rfl, hok, ?_⟩
  refine AA.one 5 (by kernel_rfl) ?_
  refine SR.call rfl (R.call rfl rfl rfl) rfl rfl (at_any left n c a s x _ (hvF _ q) hn (by omega) e3) ?_
  rintro e W' ⟨rfl, rfl⟩
  refine ⟨_, rfl, hok, ?_⟩
  refine AA.one 6 (by kernel_rfl) ?_
  refine SR.call rfl (R.call rfl rfl rfl) rfl rfl (hGd _) ?_
  rintro e Wc27 ⟨rfl, bc26⟩
  have zbc26 := bc26.size
  replace bc21 := bc21.trans (bc26.mono bc21.size)
  replace bc18 := bc18.trans (bc26.mono bc18.size)
  replace q := q.trans (bc26.mono q.size)
  replace hR := hR.up bc26
  replace hA := hA.up bc26
  replace hok := hok.trans (bkept bc26 (fun j h => by have := h.1; have := hok.size; omega))
  have yc28 := hok.size
  refine ⟨_, rfl, hok, ?_⟩
  refine AA.one 7 (by kernel_rfl) ?_
  refine ZR.storeN (vs := [Value.int IntKind.i64 (wayD k2), Value.int IntKind.i64 ↑sz2, Value.int IntKind.i64 st2, Value.int IntKind.i64 (stepD k2), Value.int IntKind.u64 ↑ky2, Value.int IntKind.u64 ↑pt2, Value.int IntKind.u64 ↑ah2, Value.bool dn2, Value.bool is2, Value.int IntKind.i64 ↑lo2]) rfl rfl rfl rfl rfl hA (by exact Nat.le_of_ble_eq_true rfl) (ones_of rfl) rfl rfl ?_
  intro Wc30 rc31 bc29 zc32
  have hlbc29 := hA.lt
  replace rc31 : RowL Wc30 _ 33 [Value.int IntKind.i64 (wayD k2), Value.int IntKind.i64 ↑sz2, Value.int IntKind.i64 st2, Value.int IntKind.i64 (stepD k2), Value.int IntKind.u64 ↑ky2, Value.int IntKind.u64 ↑pt2, Value.int IntKind.u64 ↑ah2, Value.bool dn2, Value.bool is2, Value.int IntKind.i64 ↑lo2] := rc31
  clear hA
  replace q := q.grown bc29 q.size (by rintro k ⟨⟩; omega)
  replace hR := hR.gr bc29 (by have := hR.lt; omega)
  replace hok := hok.trans (grown_kept bc29 (fun j h => by have := h.1; have := hok.size; omega) (fun j h e => by cases e; have h2 := h.1; have h3 := h.2; omega))
  have hA := rc31
  clear rc31
  refine ⟨hok, ?_⟩
  refine AA.done rfl ?_
  clear fzhR hok
  refine EE.inN ?_
  refine EE.thenN ?_
  refine CC.region ?_
  refine LL.val (R.move rfl rfl) rfl rfl rfl ?_
  refine LL.val (R.addNc rfl rfl rfl rfl (by omega)) rfl rfl rfl ?_
  refine LL.val (R.assign rfl rfl) rfl rfl rfl ?_
  refine LL.nil ?_
  exact EE.round (i + 1, nextR left s r, ⟨k2, sz2, st2, ky2, pt2, ah2, dn2, is2, lo2⟩) ⟨rfl, rfl, rfl, rfl, rfl, trivial⟩ ⟨by show i + 1 ≤ 4 * n; omega, q, ⟨_, hR, hzs⟩, by assumption, hin2, hs2, hsl2, .inr hmu3, by show runD left s (4 * n - (i + 1)) _ _ = D; rw [show 4 * n - (i + 1) = m by omega]; exact hD⟩ (by show 4 * n - (i + 1) < 4 * n - i; omega)
  refine SR.val rfl (R.load rfl rfl (I.ldNc (vs := [Value.int IntKind.i64 (wayD k), Value.int IntKind.i64 ↑sz, Value.int IntKind.i64 st, Value.int IntKind.i64 (stepD k), Value.int IntKind.u64 ↑ky, Value.int IntKind.u64 ↑pt, Value.int IntKind.u64 ↑ah, Value.bool false, Value.bool is, Value.int IntKind.i64 ↑lo]) (RowL.cells hA rfl) (by rfl) (by rfl))) rfl rfl hok ?_
  refine AA.two 0 4 (by kernel_rfl) ?_ ?_
  refine SR.val rfl (R.load rfl rfl (I.ldNc (vs := [Value.int IntKind.i64 (wayD k), Value.int IntKind.i64 ↑sz, Value.int IntKind.i64 st, Value.int IntKind.i64 (stepD k), Value.int IntKind.u64 ↑ky, Value.int IntKind.u64 ↑pt, Value.int IntKind.u64 ↑ah, Value.bool false, Value.bool is, Value.int IntKind.i64 ↑lo]) (RowL.cells hA rfl) (by rfl) (by rfl))) rfl rfl hok ?_
  refine AA.one 4 (by kernel_rfl) ?_
  refine SR.call rfl (R.call rfl rfl rfl) rfl rfl (hWd _) ?_
  rintro e Wc34 ⟨rfl, bc33⟩
  have zbc33 := bc33.size
  replace bc18 := bc18.trans (bc33.mono bc18.size)
  replace q := q.trans (bc33.mono q.size)
  replace hR := hR.up bc33
  replace hA := hA.up bc33
  replace hok := hok.trans (bkept bc33 (fun j h => by have := h.1; have := hok.size; omega))
  have yc35 := hok.size
  refine ⟨_, rfl, hok, ?_⟩
  refine AA.one 5 (by kernel_rfl) ?_
  refine SR.call rfl (R.call rfl rfl rfl) rfl rfl (at_any left n c a s x _ (hvF _ q) hn (by omega) e3) ?_
  rintro e W' ⟨rfl, rfl⟩
  refine ⟨_, rfl, hok, ?_⟩
  refine AA.one 6 (by kernel_rfl) ?_
  refine SR.call rfl (R.call rfl rfl rfl) rfl rfl (hGd _) ?_
  rintro e Wc39 ⟨rfl, bc38⟩
  have zbc38 := bc38.size
  replace bc33 := bc33.trans (bc38.mono bc33.size)
  replace bc18 := bc18.trans (bc38.mono bc18.size)
  replace q := q.trans (bc38.mono q.size)
  replace hR := hR.up bc38
  replace hA := hA.up bc38
  replace hok := hok.trans (bkept bc38 (fun j h => by have := h.1; have := hok.size; omega))
  have yc40 := hok.size
  refine ⟨_, rfl, hok, ?_⟩
  refine AA.one 7 (by kernel_rfl) ?_
  refine ZR.storeN (vs := [Value.int IntKind.i64 (wayD k2), Value.int IntKind.i64 ↑sz2, Value.int IntKind.i64 st2, Value.int IntKind.i64 (stepD k2), Value.int IntKind.u64 ↑ky2, Value.int IntKind.u64 ↑pt2, Value.int IntKind.u64 ↑ah2, Value.bool dn2, Value.bool is2, Value.int IntKind.i64 ↑lo2]) rfl rfl rfl rfl rfl hA (by exact Nat.le_of_ble_eq_true rfl) (ones_of rfl) rfl rfl ?_
  intro Wc42 rc43 bc41 zc44
  have hlbc41 := hA.lt
  replace rc43 : RowL Wc42 _ 33 [Value.int IntKind.i64 (wayD k2), Value.int IntKind.i64 ↑sz2, Value.int IntKind.i64 st2, Value.int IntKind.i64 (stepD k2), Value.int IntKind.u64 ↑ky2, Value.int IntKind.u64 ↑pt2, Value.int IntKind.u64 ↑ah2, Value.bool dn2, Value.bool is2, Value.int IntKind.i64 ↑lo2] := rc43
  clear hA
  replace q := q.grown bc41 q.size (by rintro k ⟨⟩; omega)
  replace hR := hR.gr bc41 (by have := hR.lt; omega)
  replace hok := hok.trans (grown_kept bc41 (fun j h => by have := h.1; have := hok.size; omega) (fun j h e => by cases e; have h2 := h.1; have h3 := h.2; omega))
  have hA := rc43
  clear rc43
  refine ⟨hok, ?_⟩
  refine AA.done rfl ?_
  clear fzhR hok
  refine EE.inN ?_
  refine EE.thenN ?_
  refine CC.region ?_
  refine LL.val (R.move rfl rfl) rfl rfl rfl ?_
  refine LL.val (R.addNc rfl rfl rfl rfl (by omega)) rfl rfl rfl ?_
  refine LL.val (R.assign rfl rfl) rfl rfl rfl ?_
  refine LL.nil ?_
  exact EE.round (i + 1, nextR left s r, ⟨k2, sz2, st2, ky2, pt2, ah2, dn2, is2, lo2⟩) ⟨rfl, rfl, rfl, rfl, rfl, trivial⟩ ⟨by show i + 1 ≤ 4 * n; omega, q, ⟨_, hR, hzs⟩, by assumption, hin2, hs2, hsl2, .inr hmu3, by show runD left s (4 * n - (i + 1)) _ _ = D; rw [show 4 * n - (i + 1) = m by omega]; exact hD⟩ (by show 4 * n - (i + 1) < 4 * n - i; omega)
  refine SR.call rfl (R.call rfl rfl rfl) rfl rfl (hWd _) ?_
  rintro e Wc46 ⟨rfl, bc45⟩
  have zbc45 := bc45.size
  replace bc18 := bc18.trans (bc45.mono bc18.size)
  replace q := q.trans (bc45.mono q.size)
  replace hR := hR.up bc45
  replace hA := hA.up bc45
  replace hok := hok.trans (bkept bc45 (fun j h => by have := h.1; have := hok.size; omega))
  have yc47 := hok.size
  refine ⟨_, rfl, hok, ?_⟩
  refine AA.two 0 5 (by kernel_rfl) ?_ ?_
  refine SR.val rfl (R.load rfl rfl (I.ldNc (vs := [Value.int IntKind.i64 (wayD k), Value.int IntKind.i64 ↑sz, Value.int IntKind.i64 st, Value.int IntKind.i64 (stepD k), Value.int IntKind.u64 ↑ky, Value.int IntKind.u64 ↑pt, Value.int IntKind.u64 ↑ah, Value.bool false, Value.bool is, Value.int IntKind.i64 ↑lo]) (RowL.cells hA rfl) (by rfl) (by rfl))) rfl rfl hok ?_
  refine AA.one 5 (by kernel_rfl) ?_
  refine SR.call rfl (R.call rfl rfl rfl) rfl rfl (at_any left n c a s x _ (hvF _ q) hn (by omega) e3) ?_
  rintro e W' ⟨rfl, rfl⟩
  refine ⟨_, rfl, hok, ?_⟩
  refine AA.one 6 (by kernel_rfl) ?_
  refine SR.call rfl (R.call rfl rfl rfl) rfl rfl (hGd _) ?_
  rintro e Wc51 ⟨rfl, bc50⟩
  have zbc50 := bc50.size
  replace bc45 := bc45.trans (bc50.mono bc45.size)
  replace bc18 := bc18.trans (bc50.mono bc18.size)
  replace q := q.trans (bc50.mono q.size)
  replace hR := hR.up bc50
  replace hA := hA.up bc50
  replace hok := hok.trans (bkept bc50 (fun j h => by have := h.1; have := hok.size; omega))
  have yc52 := hok.size
  refine ⟨_, rfl, hok, ?_⟩
  refine AA.one 7 (by kernel_rfl) ?_
  refine ZR.storeN (vs := [Value.int IntKind.i64 (wayD k2), Value.int IntKind.i64 ↑sz2, Value.int IntKind.i64 st2, Value.int IntKind.i64 (stepD k2), Value.int IntKind.u64 ↑ky2, Value.int IntKind.u64 ↑pt2, Value.int IntKind.u64 ↑ah2, Value.bool dn2, Value.bool is2, Value.int IntKind.i64 ↑lo2]) rfl rfl rfl rfl rfl hA (by exact Nat.le_of_ble_eq_true rfl) (ones_of rfl) rfl rfl ?_
  intro Wc54 rc55 bc53 zc56
  have hlbc53 := hA.lt
  replace rc55 : RowL Wc54 _ 33 [Value.int IntKind.i64 (wayD k2), Value.int IntKind.i64 ↑sz2, Value.int IntKind.i64 st2, Value.int IntKind.i64 (stepD k2), Value.int IntKind.u64 ↑ky2, Value.int IntKind.u64 ↑pt2, Value.int IntKind.u64 ↑ah2, Value.bool dn2, Value.bool is2, Value.int IntKind.i64 ↑lo2] := rc55
  clear hA
  replace q := q.grown bc53 q.size (by rintro k ⟨⟩; omega)
  replace hR := hR.gr bc53 (by have := hR.lt; omega)
  replace hok := hok.trans (grown_kept bc53 (fun j h => by have := h.1; have := hok.size; omega) (fun j h e => by cases e; have h2 := h.1; have h3 := h.2; omega))
  have hA := rc55
  clear rc55
  refine ⟨hok, ?_⟩
  refine AA.done rfl ?_
  clear fzhR hok
  refine EE.inN ?_
  refine EE.thenN ?_
  refine CC.region ?_
  refine LL.val (R.move rfl rfl) rfl rfl rfl ?_
  refine LL.val (R.addNc rfl rfl rfl rfl (by omega)) rfl rfl rfl ?_
  refine LL.val (R.assign rfl rfl) rfl rfl rfl ?_
  refine LL.nil ?_
  exact EE.round (i + 1, nextR left s r, ⟨k2, sz2, st2, ky2, pt2, ah2, dn2, is2, lo2⟩) ⟨rfl, rfl, rfl, rfl, rfl, trivial⟩ ⟨by show i + 1 ≤ 4 * n; omega, q, ⟨_, hR, hzs⟩, by assumption, hin2, hs2, hsl2, .inr hmu3, by show runD left s (4 * n - (i + 1)) _ _ = D; rw [show 4 * n - (i + 1) = m by omega]; exact hD⟩ (by show 4 * n - (i + 1) < 4 * n - i; omega)
  refine SR.call rfl (R.call rfl rfl rfl) rfl rfl (at_any left n c a s x _ (hvF _ q) hn (by omega) e3) ?_
  rintro e W' ⟨rfl, rfl⟩
  refine ⟨_, rfl, hok, ?_⟩
  refine AA.one 0 (by kernel_rfl) ?_
  refine SR.val rfl (R.load rfl rfl (I.ldNc (vs := [Value.int IntKind.i64 (wayD k), Value.int IntKind.i64 ↑sz, Value.int IntKind.i64 st, Value.int IntKind.i64 (stepD k), Value.int IntKind.u64 ↑ky, Value.int IntKind.u64 ↑pt, Value.int IntKind.u64 ↑ah, Value.bool false, Value.bool is, Value.int IntKind.i64 ↑lo]) (RowL.cells hA rfl) (by rfl) (by rfl))) rfl rfl hok ?_
  refine AA.one 6 (by kernel_rfl) ?_
  refine SR.call rfl (R.call rfl rfl rfl) rfl rfl (hGd _) ?_
  rintro e Wc60 ⟨rfl, bc59⟩
  have zbc59 := bc59.size
  replace bc45 := bc45.trans (bc59.mono bc45.size)
  replace bc18 := bc18.trans (bc59.mono bc18.size)
  replace q := q.trans (bc59.mono q.size)
  replace hR := hR.up bc59
  replace hA := hA.up bc59
  replace hok := hok.trans (bkept bc59 (fun j h => by have := h.1; have := hok.size; omega))
  have yc61 := hok.size
  refine ⟨_, rfl, hok, ?_⟩
  refine AA.one 7 (by kernel_rfl) ?_
  refine ZR.storeN (vs := [Value.int IntKind.i64 (wayD k2), Value.int IntKind.i64 ↑sz2, Value.int IntKind.i64 st2, Value.int IntKind.i64 (stepD k2), Value.int IntKind.u64 ↑ky2, Value.int IntKind.u64 ↑pt2, Value.int IntKind.u64 ↑ah2, Value.bool dn2, Value.bool is2, Value.int IntKind.i64 ↑lo2]) rfl rfl rfl rfl rfl hA (by exact Nat.le_of_ble_eq_true rfl) (ones_of rfl) rfl rfl ?_
  intro Wc63 rc64 bc62 zc65
  have hlbc62 := hA.lt
  replace rc64 : RowL Wc63 _ 33 [Value.int IntKind.i64 (wayD k2), Value.int IntKind.i64 ↑sz2, Value.int IntKind.i64 st2, Value.int IntKind.i64 (stepD k2), Value.int IntKind.u64 ↑ky2, Value.int IntKind.u64 ↑pt2, Value.int IntKind.u64 ↑ah2, Value.bool dn2, Value.bool is2, Value.int IntKind.i64 ↑lo2] := rc64
  clear hA
  replace q := q.grown bc62 q.size (by rintro k ⟨⟩; omega)
  replace hR := hR.gr bc62 (by have := hR.lt; omega)
  replace hok := hok.trans (grown_kept bc62 (fun j h => by have := h.1; have := hok.size; omega) (fun j h e => by cases e; have h2 := h.1; have h3 := h.2; omega))
  have hA := rc64
  clear rc64
  refine ⟨hok, ?_⟩
  refine AA.done rfl ?_
  clear fzhR hok
  refine EE.inN ?_
  refine EE.thenN ?_
  refine CC.region ?_
  refine LL.val (R.move rfl rfl) rfl rfl rfl ?_
  refine LL.val (R.addNc rfl rfl rfl rfl (by omega)) rfl rfl rfl ?_
  refine LL.val (R.assign rfl rfl) rfl rfl rfl ?_
  refine LL.nil ?_
  exact EE.round (i + 1, nextR left s r, ⟨k2, sz2, st2, ky2, pt2, ah2, dn2, is2, lo2⟩) ⟨rfl, rfl, rfl, rfl, rfl, trivial⟩ ⟨by show i + 1 ≤ 4 * n; omega, q, ⟨_, hR, hzs⟩, by assumption, hin2, hs2, hsl2, .inr hmu3, by show runD left s (4 * n - (i + 1)) _ _ = D; rw [show 4 * n - (i + 1) = m by omega]; exact hD⟩ (by show 4 * n - (i + 1) < 4 * n - i; omega)
end Go.Proofs.Ytloflmkolnediaa

/- scan: ScanLooks: what it hangs on holds. -/
namespace Go.Proofs.Ytloflmkolnediaa
set_option linter.unusedVariables false
set_option linter.unusedSimpArgs false
open Go.RowKit Go.Shelf
set_option maxRecDepth 100000
set_option maxHeartbeats 16000000
theorem dnew_F (way : Int) (sl key : Nat) (w : World) (h : sl ≤ 1048576) : Calls Try.prog 12 #[.int .i64 way, .int .i64 (sl : Int), .int .u64 (key : Int)] w fun e w' => e = .returned (dzA ⟨way, sl, if way = 2 then (sl : Int) - 1 else 0, 0, key, 0, 0, false, false, 0⟩) ∧ Below w.heap.size w w' := by
  have q := Below.refl w.heap.size w
  by_cases h2 : way = 2
  · rw [show (if way = 2 then (sl : Int) - 1 else 0) = (sl : Int) - 1 from if_pos h2]
    by_cases h0 : sl = 0
    · subst h0
      refine X.fn Try.func12 rfl (n := 18) rfl rfl ?_
      refine CC.seq ?_
      refine CC.region ?_
      refine LL.alloc ([Value.int IntKind.i64 0, Value.int IntKind.i64 0, Value.int IntKind.i64 0, Value.int IntKind.i64 0, Value.int IntKind.u64 0, Value.int IntKind.u64 0, Value.int IntKind.u64 0, Value.bool false, Value.bool false, Value.int IntKind.i64 0]) rfl rfl rfl rfl rfl ?_
      intro W2 g3 eg3 r4 z5 b1
      replace q := q.trans (b1.mono q.size)
      refine LL.nilS ?_
      refine CC.seq ?_
      refine CC.region ?_
      refine LL.val (R.move rfl rfl) rfl rfl rfl ?_
      refine LL.val (R.move rfl rfl) rfl rfl rfl ?_
      refine LL.val (R.move rfl rfl) rfl rfl rfl ?_
      refine LL.val (R.buildV rfl rfl (v := .agg #[Value.int IntKind.i64 way, Value.int IntKind.i64 ↑0, Value.int IntKind.i64 0, Value.int IntKind.i64 0, Value.int IntKind.u64 ↑key, Value.int IntKind.u64 0, Value.int IntKind.u64 0, Value.bool false, Value.bool false, Value.int IntKind.i64 0]) (fun _ => by kernel_rfl)) rfl rfl rfl ?_
      have l6 := r4.lt
      refine LL.alloc ([Value.int IntKind.i64 0, Value.int IntKind.i64 0, Value.int IntKind.i64 0, Value.int IntKind.i64 0, Value.int IntKind.u64 0, Value.int IntKind.u64 0, Value.int IntKind.u64 0, Value.bool false, Value.bool false, Value.int IntKind.i64 0]) rfl rfl rfl rfl rfl ?_
      intro W8 g9 eg9 r10 z11 b7
      replace r4 := r4.up b7
      replace b1 := b1.trans (b7.mono b1.size)
      replace q := q.trans (b7.mono q.size)
      refine LL.storeN (vs := [Value.int IntKind.i64 way, Value.int IntKind.i64 0, Value.int IntKind.i64 0, Value.int IntKind.i64 0, Value.int IntKind.u64 ↑key, Value.int IntKind.u64 0, Value.int IntKind.u64 0, Value.bool false, Value.bool false, Value.int IntKind.i64 0]) rfl rfl rfl rfl r10 (by exact Nat.le_of_ble_eq_true rfl) (ones_of rfl) rfl rfl ?_
      intro W13 r14 b12 z15
      have hlb12 := r10.lt
      replace r14 : RowL W13 _ 33 [Value.int IntKind.i64 way, Value.int IntKind.i64 0, Value.int IntKind.i64 0, Value.int IntKind.i64 0, Value.int IntKind.u64 ↑key, Value.int IntKind.u64 0, Value.int IntKind.u64 0, Value.bool false, Value.bool false, Value.int IntKind.i64 0] := r14
      clear r10
      replace b7 := b7.grown b12 b7.size (by rintro k ⟨⟩; omega)
      replace r4 := r4.gr b12 (by have := r4.lt; omega)
      replace b1 := b1.grown b12 b1.size (by rintro k ⟨⟩; omega)
      replace q := q.grown b12 q.size (by rintro k ⟨⟩; omega)
      have r10 := r14
      clear r14
      refine LL.nilS ?_
      refine CC.seq ?_
      refine CC.seq ?_
      refine CC.region ?_
      refine LL.val (R.move rfl rfl) rfl rfl rfl ?_
      refine LL.val (R.eqT rfl rfl rfl (by omega)) rfl rfl rfl ?_
      refine LL.nilS ?_
      refine CC.yes rfl ?_
      refine CC.region ?_
      refine LL.val (R.move rfl rfl) rfl rfl rfl ?_
      refine LL.val (R.subIz (z := -1) rfl rfl rfl (by decide) (by decide)) rfl rfl rfl ?_
      refine LL.val (R.field rfl rfl (I.fld rfl)) rfl rfl rfl ?_
      refine LL.store rfl rfl rfl rfl r10 (by exact Nat.le_of_ble_eq_true rfl) rfl rfl rfl rfl ?_
      intro W17 r18 b16 z19
      have hlb16 := r10.lt
      replace r18 : RowL W17 _ 33 [Value.int IntKind.i64 way, Value.int IntKind.i64 0, Value.int IntKind.i64 (-1), Value.int IntKind.i64 0, Value.int IntKind.u64 ↑key, Value.int IntKind.u64 0, Value.int IntKind.u64 0, Value.bool false, Value.bool false, Value.int IntKind.i64 0] := r18
      clear r10
      replace b7 := b7.grown b16 b7.size (by rintro k ⟨⟩; omega)
      replace r4 := r4.gr b16 (by have := r4.lt; omega)
      replace b1 := b1.grown b16 b1.size (by rintro k ⟨⟩; omega)
      replace q := q.grown b16 q.size (by rintro k ⟨⟩; omega)
      have r10 := r18
      clear r18
      refine LL.nilS ?_
      refine CC.seq ?_
      refine CC.region ?_
      refine LL.val (R.load rfl rfl (I.ldNc (vs := [Value.int IntKind.i64 way, Value.int IntKind.i64 0, Value.int IntKind.i64 (-1), Value.int IntKind.i64 0, Value.int IntKind.u64 ↑key, Value.int IntKind.u64 0, Value.int IntKind.u64 0, Value.bool false, Value.bool false, Value.int IntKind.i64 0]) (RowL.cells r10 rfl) (by rfl) (by rfl))) rfl rfl rfl ?_
      refine LL.storeN (vs := [Value.int IntKind.i64 way, Value.int IntKind.i64 0, Value.int IntKind.i64 (-1), Value.int IntKind.i64 0, Value.int IntKind.u64 ↑key, Value.int IntKind.u64 0, Value.int IntKind.u64 0, Value.bool false, Value.bool false, Value.int IntKind.i64 0]) rfl rfl rfl rfl r4 (by exact Nat.le_of_ble_eq_true rfl) (ones_of rfl) rfl rfl ?_
      intro W21 r22 b20 z23
      have hlb20 := r4.lt
      replace r22 : RowL W21 _ 33 [Value.int IntKind.i64 way, Value.int IntKind.i64 0, Value.int IntKind.i64 (-1), Value.int IntKind.i64 0, Value.int IntKind.u64 ↑key, Value.int IntKind.u64 0, Value.int IntKind.u64 0, Value.bool false, Value.bool false, Value.int IntKind.i64 0] := r22
      clear r4
      replace b1 := b1.grown b20 b1.size (by rintro k ⟨⟩; omega)
      replace q := q.grown b20 q.size (by rintro k ⟨⟩; omega)
      replace r10 := r10.gr b20 (by have := r10.lt; omega)
      have r4 := r22
      clear r22
      refine LL.nilS ?_
      refine CC.ret ?_
      refine EE.retC rfl rfl (lvNc (RowL.cells0 (by assumption)) (by rfl) (by rfl)) ?_
      exact ⟨rfl, q⟩
    · rw [show (sl : Int) - 1 = ((sl - 1 : Nat) : Int) by omega]
      refine X.fn Try.func12 rfl (n := 18) rfl rfl ?_
      refine CC.seq ?_
      refine CC.region ?_
      refine LL.alloc ([Value.int IntKind.i64 0, Value.int IntKind.i64 0, Value.int IntKind.i64 0, Value.int IntKind.i64 0, Value.int IntKind.u64 0, Value.int IntKind.u64 0, Value.int IntKind.u64 0, Value.bool false, Value.bool false, Value.int IntKind.i64 0]) rfl rfl rfl rfl rfl ?_
      intro Wa2 ga3 ega3 ra4 za5 ba1
      replace q := q.trans (ba1.mono q.size)
      refine LL.nilS ?_
      refine CC.seq ?_
      refine CC.region ?_
      refine LL.val (R.move rfl rfl) rfl rfl rfl ?_
      refine LL.val (R.move rfl rfl) rfl rfl rfl ?_
      refine LL.val (R.move rfl rfl) rfl rfl rfl ?_
      refine LL.val (R.buildV rfl rfl (v := .agg #[Value.int IntKind.i64 way, Value.int IntKind.i64 ↑sl, Value.int IntKind.i64 0, Value.int IntKind.i64 0, Value.int IntKind.u64 ↑key, Value.int IntKind.u64 0, Value.int IntKind.u64 0, Value.bool false, Value.bool false, Value.int IntKind.i64 0]) (fun _ => by kernel_rfl)) rfl rfl rfl ?_
      have la6 := ra4.lt
      refine LL.alloc ([Value.int IntKind.i64 0, Value.int IntKind.i64 0, Value.int IntKind.i64 0, Value.int IntKind.i64 0, Value.int IntKind.u64 0, Value.int IntKind.u64 0, Value.int IntKind.u64 0, Value.bool false, Value.bool false, Value.int IntKind.i64 0]) rfl rfl rfl rfl rfl ?_
      intro Wa8 ga9 ega9 ra10 za11 ba7
      replace ra4 := ra4.up ba7
      replace ba1 := ba1.trans (ba7.mono ba1.size)
      replace q := q.trans (ba7.mono q.size)
      refine LL.storeN (vs := [Value.int IntKind.i64 way, Value.int IntKind.i64 ↑sl, Value.int IntKind.i64 0, Value.int IntKind.i64 0, Value.int IntKind.u64 ↑key, Value.int IntKind.u64 0, Value.int IntKind.u64 0, Value.bool false, Value.bool false, Value.int IntKind.i64 0]) rfl rfl rfl rfl ra10 (by exact Nat.le_of_ble_eq_true rfl) (ones_of rfl) rfl rfl ?_
      intro Wa13 ra14 ba12 za15
      have hlba12 := ra10.lt
      replace ra14 : RowL Wa13 _ 33 [Value.int IntKind.i64 way, Value.int IntKind.i64 ↑sl, Value.int IntKind.i64 0, Value.int IntKind.i64 0, Value.int IntKind.u64 ↑key, Value.int IntKind.u64 0, Value.int IntKind.u64 0, Value.bool false, Value.bool false, Value.int IntKind.i64 0] := ra14
      clear ra10
      replace ba7 := ba7.grown ba12 ba7.size (by rintro k ⟨⟩; omega)
      replace ra4 := ra4.gr ba12 (by have := ra4.lt; omega)
      replace ba1 := ba1.grown ba12 ba1.size (by rintro k ⟨⟩; omega)
      replace q := q.grown ba12 q.size (by rintro k ⟨⟩; omega)
      have ra10 := ra14
      clear ra14
      refine LL.nilS ?_
      refine CC.seq ?_
      refine CC.seq ?_
      refine CC.region ?_
      refine LL.val (R.move rfl rfl) rfl rfl rfl ?_
      refine LL.val (R.eqT rfl rfl rfl (by omega)) rfl rfl rfl ?_
      refine LL.nilS ?_
      refine CC.yes rfl ?_
      refine CC.region ?_
      refine LL.val (R.move rfl rfl) rfl rfl rfl ?_
      refine LL.val (R.subNc rfl rfl rfl rfl (by omega) (by omega)) rfl rfl rfl ?_
      refine LL.val (R.field rfl rfl (I.fld rfl)) rfl rfl rfl ?_
      refine LL.store rfl rfl rfl rfl ra10 (by exact Nat.le_of_ble_eq_true rfl) rfl rfl rfl rfl ?_
      intro Wa17 ra18 ba16 za19
      have hlba16 := ra10.lt
      replace ra18 : RowL Wa17 _ 33 [Value.int IntKind.i64 way, Value.int IntKind.i64 ↑sl, Value.int IntKind.i64 ↑(sl - 1), Value.int IntKind.i64 0, Value.int IntKind.u64 ↑key, Value.int IntKind.u64 0, Value.int IntKind.u64 0, Value.bool false, Value.bool false, Value.int IntKind.i64 0] := ra18
      clear ra10
      replace ba7 := ba7.grown ba16 ba7.size (by rintro k ⟨⟩; omega)
      replace ra4 := ra4.gr ba16 (by have := ra4.lt; omega)
      replace ba1 := ba1.grown ba16 ba1.size (by rintro k ⟨⟩; omega)
      replace q := q.grown ba16 q.size (by rintro k ⟨⟩; omega)
      have ra10 := ra18
      clear ra18
      refine LL.nilS ?_
      refine CC.seq ?_
      refine CC.region ?_
      refine LL.val (R.load rfl rfl (I.ldNc (vs := [Value.int IntKind.i64 way, Value.int IntKind.i64 ↑sl, Value.int IntKind.i64 ↑(sl - 1), Value.int IntKind.i64 0, Value.int IntKind.u64 ↑key, Value.int IntKind.u64 0, Value.int IntKind.u64 0, Value.bool false, Value.bool false, Value.int IntKind.i64 0]) (RowL.cells ra10 rfl) (by rfl) (by rfl))) rfl rfl rfl ?_
      refine LL.storeN (vs := [Value.int IntKind.i64 way, Value.int IntKind.i64 ↑sl, Value.int IntKind.i64 ↑(sl - 1), Value.int IntKind.i64 0, Value.int IntKind.u64 ↑key, Value.int IntKind.u64 0, Value.int IntKind.u64 0, Value.bool false, Value.bool false, Value.int IntKind.i64 0]) rfl rfl rfl rfl ra4 (by exact Nat.le_of_ble_eq_true rfl) (ones_of rfl) rfl rfl ?_
      intro Wa21 ra22 ba20 za23
      have hlba20 := ra4.lt
      replace ra22 : RowL Wa21 _ 33 [Value.int IntKind.i64 way, Value.int IntKind.i64 ↑sl, Value.int IntKind.i64 ↑(sl - 1), Value.int IntKind.i64 0, Value.int IntKind.u64 ↑key, Value.int IntKind.u64 0, Value.int IntKind.u64 0, Value.bool false, Value.bool false, Value.int IntKind.i64 0] := ra22
      clear ra4
      replace ba1 := ba1.grown ba20 ba1.size (by rintro k ⟨⟩; omega)
      replace q := q.grown ba20 q.size (by rintro k ⟨⟩; omega)
      replace ra10 := ra10.gr ba20 (by have := ra10.lt; omega)
      have ra4 := ra22
      clear ra22
      refine LL.nilS ?_
      refine CC.ret ?_
      refine EE.retC rfl rfl (lvNc (RowL.cells0 (by assumption)) (by rfl) (by rfl)) ?_
      exact ⟨rfl, q⟩
  · rw [show (if way = 2 then (sl : Int) - 1 else 0) = 0 from if_neg h2]
    refine X.fn Try.func12 rfl (n := 18) rfl rfl ?_
    refine CC.seq ?_
    refine CC.region ?_
    refine LL.alloc ([Value.int IntKind.i64 0, Value.int IntKind.i64 0, Value.int IntKind.i64 0, Value.int IntKind.i64 0, Value.int IntKind.u64 0, Value.int IntKind.u64 0, Value.int IntKind.u64 0, Value.bool false, Value.bool false, Value.int IntKind.i64 0]) rfl rfl rfl rfl rfl ?_
    intro Wb2 gb3 egb3 rb4 zb5 bb1
    replace q := q.trans (bb1.mono q.size)
    refine LL.nilS ?_
    refine CC.seq ?_
    refine CC.region ?_
    refine LL.val (R.move rfl rfl) rfl rfl rfl ?_
    refine LL.val (R.move rfl rfl) rfl rfl rfl ?_
    refine LL.val (R.move rfl rfl) rfl rfl rfl ?_
    refine LL.val (R.buildV rfl rfl (v := .agg #[Value.int IntKind.i64 way, Value.int IntKind.i64 ↑sl, Value.int IntKind.i64 0, Value.int IntKind.i64 0, Value.int IntKind.u64 ↑key, Value.int IntKind.u64 0, Value.int IntKind.u64 0, Value.bool false, Value.bool false, Value.int IntKind.i64 0]) (fun _ => by kernel_rfl)) rfl rfl rfl ?_
    have lb6 := rb4.lt
    refine LL.alloc ([Value.int IntKind.i64 0, Value.int IntKind.i64 0, Value.int IntKind.i64 0, Value.int IntKind.i64 0, Value.int IntKind.u64 0, Value.int IntKind.u64 0, Value.int IntKind.u64 0, Value.bool false, Value.bool false, Value.int IntKind.i64 0]) rfl rfl rfl rfl rfl ?_
    intro Wb8 gb9 egb9 rb10 zb11 bb7
    replace rb4 := rb4.up bb7
    replace bb1 := bb1.trans (bb7.mono bb1.size)
    replace q := q.trans (bb7.mono q.size)
    refine LL.storeN (vs := [Value.int IntKind.i64 way, Value.int IntKind.i64 ↑sl, Value.int IntKind.i64 0, Value.int IntKind.i64 0, Value.int IntKind.u64 ↑key, Value.int IntKind.u64 0, Value.int IntKind.u64 0, Value.bool false, Value.bool false, Value.int IntKind.i64 0]) rfl rfl rfl rfl rb10 (by exact Nat.le_of_ble_eq_true rfl) (ones_of rfl) rfl rfl ?_
    intro Wb13 rb14 bb12 zb15
    have hlbb12 := rb10.lt
    replace rb14 : RowL Wb13 _ 33 [Value.int IntKind.i64 way, Value.int IntKind.i64 ↑sl, Value.int IntKind.i64 0, Value.int IntKind.i64 0, Value.int IntKind.u64 ↑key, Value.int IntKind.u64 0, Value.int IntKind.u64 0, Value.bool false, Value.bool false, Value.int IntKind.i64 0] := rb14
    clear rb10
    replace bb7 := bb7.grown bb12 bb7.size (by rintro k ⟨⟩; omega)
    replace rb4 := rb4.gr bb12 (by have := rb4.lt; omega)
    replace bb1 := bb1.grown bb12 bb1.size (by rintro k ⟨⟩; omega)
    replace q := q.grown bb12 q.size (by rintro k ⟨⟩; omega)
    have rb10 := rb14
    clear rb14
    refine LL.nilS ?_
    refine CC.seq ?_
    refine CC.seq ?_
    refine CC.region ?_
    refine LL.val (R.move rfl rfl) rfl rfl rfl ?_
    refine LL.val (R.eqF rfl rfl rfl (by omega)) rfl rfl rfl ?_
    refine LL.nilS ?_
    refine CC.no rfl ?_
    refine CC.skip ?_
    refine EE.thenN ?_
    refine CC.seq ?_
    refine CC.region ?_
    refine LL.val (R.load rfl rfl (I.ldNc (vs := [Value.int IntKind.i64 way, Value.int IntKind.i64 ↑sl, Value.int IntKind.i64 0, Value.int IntKind.i64 0, Value.int IntKind.u64 ↑key, Value.int IntKind.u64 0, Value.int IntKind.u64 0, Value.bool false, Value.bool false, Value.int IntKind.i64 0]) (RowL.cells rb10 rfl) (by rfl) (by rfl))) rfl rfl rfl ?_
    refine LL.storeN (vs := [Value.int IntKind.i64 way, Value.int IntKind.i64 ↑sl, Value.int IntKind.i64 0, Value.int IntKind.i64 0, Value.int IntKind.u64 ↑key, Value.int IntKind.u64 0, Value.int IntKind.u64 0, Value.bool false, Value.bool false, Value.int IntKind.i64 0]) rfl rfl rfl rfl rb4 (by exact Nat.le_of_ble_eq_true rfl) (ones_of rfl) rfl rfl ?_
    intro Wb17 rb18 bb16 zb19
    have hlbb16 := rb4.lt
    replace rb18 : RowL Wb17 _ 33 [Value.int IntKind.i64 way, Value.int IntKind.i64 ↑sl, Value.int IntKind.i64 0, Value.int IntKind.i64 0, Value.int IntKind.u64 ↑key, Value.int IntKind.u64 0, Value.int IntKind.u64 0, Value.bool false, Value.bool false, Value.int IntKind.i64 0] := rb18
    clear rb4
    replace bb1 := bb1.grown bb16 bb1.size (by rintro k ⟨⟩; omega)
    replace q := q.grown bb16 q.size (by rintro k ⟨⟩; omega)
    replace rb10 := rb10.gr bb16 (by have := rb10.lt; omega)
    have rb4 := rb18
    clear rb18
    refine LL.nilS ?_
    refine CC.ret ?_
    refine EE.retC rfl rfl (lvNc (RowL.cells0 (by assumption)) (by rfl) (by rfl)) ?_
    exact ⟨rfl, q⟩
theorem dfound_z (w : World) : Calls Try.prog 19 #[dzA ⟨0, 0, 0, 0, 0, 0, 0, false, false, 0⟩] w fun e w' => e = .returned (.tuple #[.int .u64 0, .bool false]) ∧ Below w.heap.size w w' := by
  have q := Below.refl w.heap.size w
  rw [show dzA ⟨0, 0, 0, 0, 0, 0, 0, false, false, 0⟩ = .agg #[.int .i64 0, .int .i64 0, .int .i64 0, .int .i64 0, .int .u64 0, .int .u64 0, .int .u64 0, .bool false, .bool false, .int .i64 0] from rfl]
  refine X.fn Try.func19 rfl (n := 12) rfl rfl ?_
  refine CC.seq ?_
  refine CC.region ?_
  refine LL.box [Value.int IntKind.i64 0, Value.int IntKind.i64 0, Value.int IntKind.i64 0, Value.int IntKind.i64 0, Value.int IntKind.u64 0, Value.int IntKind.u64 0, Value.int IntKind.u64 0, Value.bool false, Value.bool false, Value.int IntKind.i64 0] rfl rfl rfl rfl rfl ?_
  intro W2 g3 eg3 r4 z5 b1
  replace q := q.trans (b1.mono q.size)
  refine LL.val (R.assign rfl rfl) rfl rfl rfl ?_
  refine LL.val (R.assign rfl rfl) rfl rfl rfl ?_
  refine LL.nilS ?_
  refine CC.seq ?_
  refine CC.seq ?_
  refine CC.region ?_
  refine LL.val (R.field rfl rfl (I.fld rfl)) rfl rfl rfl ?_
  refine LL.val (R.load rfl rfl (I.ld1 rfl (RowL.cell r4 rfl))) rfl rfl rfl ?_
  refine LL.val (R.move rfl rfl) rfl rfl rfl ?_
  refine LL.skip rfl rfl ?_
  refine LL.skip rfl rfl ?_
  refine LL.val (R.pick rfl rfl rfl) rfl rfl rfl ?_
  refine LL.nilS ?_
  refine CC.no rfl ?_
  refine CC.skip ?_
  refine EE.thenN ?_
  refine CC.seq ?_
  refine CC.region ?_
  refine LL.val (R.assign rfl rfl) rfl rfl rfl ?_
  refine LL.val (R.assign rfl rfl) rfl rfl rfl ?_
  refine LL.nilS ?_
  refine CC.ret ?_
  refine EE.ret _ rfl rfl ?_
  exact ⟨rfl, q⟩
theorem lk_F (way : Int) (left key : Nat) (s : List Nat) (hl : s.length ≤ 80) (h : (way ≠ 1 ∧ way ≠ 2) ∨ ¬ rowOk left s.length) :
    LkH way left s.length key s 0 false false ⟨0, 0, 0, 0, 0, 0, 0, false, false, ((0 : Nat) : Int)⟩ ⟨way, ((s.length / 2 : Nat) : Int), if way = 2 then ((s.length / 2 : Nat) : Int) - 1 else 0, 0, key, 0, 0, false, false, 0⟩ 0 (fun _ _ => True) where
  look := fun a c W _ => look_F way left s.length c key a W (by omega) h
  dlook := fun a c W _ => dlook_F way left s.length c key a W (by omega) h
  found := fun W => dfound_z W
  loads := rfl
  dnew := fun W => dnew_F way (s.length / 2) key W (by omega)
  st0 := trivial
  len := by rw [trS_F h]; rfl
  small := by decide
  step := fun i x z hx _ => by rw [trS_F h] at hx; cases hx
theorem lk_T (up : Bool) (left key : Nat) (s : List Nat) (hr : rowOk left s.length) : ∃ (p K : Nat) (b : Bool) (u0 u1 u2 u3 u4 u5 u6 : Int) (v7 v8 : Bool) (z0 : Dz) (St : Nat → Dz → Prop),
    LkH (wayI up) left s.length key s p b true ⟨u0, u1, u2, u3, u4, u5, u6, v7, v8, (K : Int)⟩ z0 K St := by
  obtain ⟨r1, r2, r3, r4⟩ := hr
  obtain ⟨hi, hm⟩ := new_inv (up := up) (slots := s.length / 2) (key := key) (by omega) (by omega)
  have hs0 := sim_new (up := up) (slots := s.length / 2) (key := key)
  have hsl : (newR up (s.length / 2) key).slots = s.length / 2 := by cases up <;> rfl
  have hl0 : (newR up (s.length / 2) key).loads = 0 := by cases up <;> rfl
  have hlen := trL_len (left := left) (s := s) (up := up) (slots := s.length / 2) (key := key) (by omega) (by omega)
  have hlk := fun (a : Option Addr) (c : Nat) (W : World) (hv : ReadsT uE 1 W (.slice a s.length c) s) => look_T up left s.length c key a s W hv rfl ⟨r1, r2, r3, r4⟩
  have hdl := fun (a : Option Addr) (c : Nat) (W : World) (hv : ReadsT uE 1 W (.slice a s.length c) s) => dlook_T up left s.length c key a s W hv rfl ⟨r1, r2, r3, r4⟩
  have hdn := fun W : World => dnew_T up (s.length / 2) key W (by omega) (by omega)
  have htr : trS (wayI up) left s key = trL left s (newR up (s.length / 2) key) := trS_T ⟨r1, r2, r3, r4⟩
  unfold lookR at hlk
  obtain ⟨N, hN⟩ : ∃ N, newR up (s.length / 2) key = N := ⟨_, rfl⟩
  obtain ⟨D0, hD0⟩ : ∃ N, newD up (s.length / 2) key = N := ⟨_, rfl⟩
  rw [hN] at hi hs0 hsl hlen htr hm hl0
  simp only [hN] at hlk hdl
  rw [hD0] at hs0
  simp only [hD0] at hdl hdn
  obtain ⟨e1, e2, e3⟩ := end_done (left := left) (s := s) _ N hi (Nat.le_refl _)
  have hE : runF left s (4 * s.length) N = endOf left s N := (fuel left s _ _ N hi (by omega) (Nat.le_refl _)).1
  have hS := sim_run (left := left) (s := s) (4 * s.length) N D0 hi hs0
  rw [hE] at hS
  obtain ⟨d, hd⟩ : ∃ d, runD left s (4 * s.length) N D0 = d := ⟨_, rfl⟩
  rw [hd] at hS
  simp only [hd] at hdl
  obtain ⟨k, sz, st, ky, pt, ah, dn, is, lo⟩ := d
  have h1 : dn = true := hS.dn.trans e1
  obtain ⟨h2, h3, h4⟩ := hS.fin e1
  have h5 : lo = (trL left s N).length := by
    have : lo = (endOf left s N).loads := hS.loads
    rw [this, e3, hl0]
    omega
  simp only at h2 h3
  subst h1
  refine ⟨(endOf left s N).found, (trL left s N).length, (endOf left s N).is, wayD k, sz, st, stepD k, ky, pt, ah, true, is, dzD D0, fun i z => ∃ d, z = dzD d ∧ Sim (runF left s i N) d, ⟨hlk, ?_, ?_, rfl, hdn, ⟨D0, rfl, hs0⟩, by rw [htr], hlen, ?_⟩⟩
  · rw [h5] at hdl
    exact hdl
  · intro W
    have hf := dfound_any ⟨k, sz, st, ky, pt, ah, true, is, lo⟩ (w := W)
    rw [h5] at hf
    cases hb : (endOf left s N).is with
    | true =>
      rw [hb] at h2
      subst h2
      have := h3 hb
      subst this
      exact hf
    | false =>
      rw [hb] at h2
      subst h2
      rw [h4 hb]
      exact hf
  · rintro i x z hx ⟨d, rfl, hs⟩
    rw [htr] at hx
    obtain ⟨g1, rfl, g3, g4⟩ := trL_get i N x hi hx
    have g5 : d.dn = false := hs.dn.trans g1
    obtain ⟨f1, f2, -⟩ := hs.run g1
    have f3 : d.slots = (runF left s i N).slots := hs.slots
    have f4 : d.loads = (runF left s i N).loads := hs.loads
    have f5 := g3.k
    have f6 := g3.slot
    have f7 := g3.slots
    have f8 := g3.big
    refine ⟨rfl, g5, fun W => ?_, dzD (giveD d (atW left s (wantR (runF left s i N)))), ⟨_, rfl, ?_⟩, fun W => ?_⟩
    · have := dwants_any d (w := W) (by omega) g5 _ f1 (by omega) (by omega)
      rw [f2] at this
      exact this
    · rw [g4]
      exact sim_next hs g3 g1
    · exact dgive_any _ d (by omega) g5 (by omega) (by omega) (by omega) (by omega)
theorem looks_walk (way : Int) (left : Nat) (v : Value) (s : List Nat) (key : Nat) (many : Int) (w : World) (hv : ReadsT uE 1 w v s) : Calls Try.prog 4 #[.int .i64 way, .int .u64 (left : Int), v, .int .u64 (key : Int), .int .i64 many] w fun e w' => e = .returned (.bool true) ∧ Below w.heap.size w w' := by
  obtain ⟨a, c, rfl, hc⟩ := hv.form rfl
  by_cases hl : s.length ≤ 80
  · rcases way_cases way left s.length with ⟨up, rfl, hr⟩ | hF
    · obtain ⟨p, K, b, u0, u1, u2, u3, u4, u5, u6, v7, v8, z0, St, H⟩ := lk_T up left key s hr
      exact looks_core H many a c w hv rfl hl
    · exact looks_core (lk_F way left key s hl hF) many a c w hv rfl hl
  have q := Below.refl w.heap.size w
  clear hv
  refine X.fnM Try.func4 rfl (n := 135) rfl rfl ?_
  refine CC.seq ?_
  refine CC.region ?_
  refine LL.box [Value.int IntKind.u64 ↑left] rfl rfl rfl rfl rfl ?_
  intro W9 g10 eg10 r11 z12 b8
  replace q := q.trans (b8.mono q.size)
  have l21 := r11.lt
  refine LL.box [Value.slice a s.length c] rfl rfl rfl rfl rfl ?_
  intro W23 g24 eg24 r25 z26 b22
  replace r11 := r11.up b22
  replace b8 := b8.trans (b22.mono b8.size)
  replace q := q.trans (b22.mono q.size)
  have l36 := r25.lt
  have l37 := r11.lt
  refine LL.box [Value.int IntKind.i64 many] rfl rfl rfl rfl rfl ?_
  intro W39 g40 eg40 r41 z42 b38
  replace r25 := r25.up b38
  replace b22 := b22.trans (b38.mono b22.size)
  replace r11 := r11.up b38
  replace b8 := b8.trans (b38.mono b8.size)
  replace q := q.trans (b38.mono q.size)
  have l53 := r41.lt
  have l54 := r25.lt
  have l55 := r11.lt
  refine LL.alloc ([Value.bool false]) rfl rfl rfl rfl rfl ?_
  intro W57 g58 eg58 r59 z60 b56
  replace r41 := r41.up b56
  replace b38 := b38.trans (b56.mono b38.size)
  replace r25 := r25.up b56
  replace b22 := b22.trans (b56.mono b22.size)
  replace r11 := r11.up b56
  replace b8 := b8.trans (b56.mono b8.size)
  replace q := q.trans (b56.mono q.size)
  refine LL.nilS ?_
  refine CC.seq ?_
  refine CC.seq ?_
  refine CC.region ?_
  refine LL.val (R.load rfl rfl (I.ld1 rfl (RowL.cell r25 rfl))) rfl rfl rfl ?_
  refine LL.val (R.len rfl rfl rfl rfl) rfl rfl rfl ?_
  refine LL.val (R.gtT rfl rfl rfl (by omega)) rfl rfl rfl ?_
  refine LL.nilS ?_
  refine CC.yes rfl ?_
  refine CC.seq ?_
  refine CC.region ?_
  have l98 := r59.lt
  have l99 := r41.lt
  have l100 := r25.lt
  have l101 := r11.lt
  (refine LL.call (R.call rfl rfl rfl) rfl rfl rfl (works_any _) ?_; rintro e W97 ⟨rfl, b94⟩; refine ⟨_, rfl, ?_⟩)
  have zb94 := b94.size
  replace r59 := r59.up b94
  replace b56 := b56.trans (b94.mono b56.size)
  replace r41 := r41.up b94
  replace b38 := b38.trans (b94.mono b38.size)
  replace r25 := r25.up b94
  replace b22 := b22.trans (b94.mono b22.size)
  replace r11 := r11.up b94
  replace b8 := b8.trans (b94.mono b8.size)
  replace q := q.trans (b94.mono q.size)
  refine LL.store rfl rfl rfl rfl r59 (by exact Nat.le_of_ble_eq_true rfl) rfl rfl rfl rfl ?_
  intro W117 r118 b116 z119
  have hlb116 := r59.lt
  replace r118 : RowL W117 _ 4 [Value.bool true] := r118
  clear r59
  replace b56 := b56.grown b116 b56.size (by rintro k ⟨⟩; omega)
  replace r41 := r41.gr b116 (by have := r41.lt; omega)
  replace b38 := b38.grown b116 b38.size (by rintro k ⟨⟩; omega)
  replace r25 := r25.gr b116 (by have := r25.lt; omega)
  replace b22 := b22.grown b116 b22.size (by rintro k ⟨⟩; omega)
  replace r11 := r11.gr b116 (by have := r11.lt; omega)
  replace b8 := b8.grown b116 b8.size (by rintro k ⟨⟩; omega)
  replace q := q.grown b116 q.size (by rintro k ⟨⟩; omega)
  have r59 := r118
  clear r118
  refine LL.nilS ?_
  refine CC.ret ?_
  refine EE.thenR ?_
  refine EE.retM1 rfl ⟨_, rfl, lv1 rfl (RowL.cell (by assumption) rfl)⟩ ?_
  exact ⟨rfl, q⟩
end Go.Proofs.Ytloflmkolnediaa

/- Opening the arguments of a law: slices of numbers, pairs of numbers. -/
namespace Go.Proofs.Ytloflmkolnediaa
set_option linter.unusedVariables false
set_option linter.unusedSimpArgs false
open Go.RowKit Go.ChangeShapes Go.WideShapes Go.ChangeAt

theorem own : ownKnob Try.prog.godebug = none := by kernel_rfl
theorem laidOut : laidOutB Try.prog = true := by kernel_rfl

section
variable {H : Type} {enc : TypeId × Value → H} {P : Program} {w : World} {base : Nat} {spare : Nat → Bool} {held : Bool} {r : Reach} {b0 : Nat} {t : TypeId} {v : Value} {d : DataW H} {p : List MemPlace}

theorem wf_u8 {n : Int} (h : (Lit.int .u8 n).wf = true) : 0 ≤ n ∧ n < 256 := by
  simp [Lit.wf, IntKind.min, IntKind.max, IntKind.signed, IntKind.bits] at h; omega
theorem wf_u64 {n : Int} (h : (Lit.int .u64 n).wf = true) : 0 ≤ n ∧ n < 18446744073709551616 := by
  simp [Lit.wf, IntKind.min, IntKind.max, IntKind.signed, IntKind.bits] at h; omega
theorem wf_i64 {n : Int} (h : (Lit.int .i64 n).wf = true) : -9223372036854775808 ≤ n ∧ n ≤ 9223372036854775807 := by
  simp [Lit.wf, IntKind.min, IntKind.max, IntKind.signed, IntKind.bits] at h; omega

/-- A slice of unsigned numbers. -/
theorem open_nats {e : TypeId} {k : IntKind} {M : Nat} (ht : P.underlying t = some (.slice e)) (he : P.underlying e = some (.int k)) (hc : P.cellsOf e = 1) (hk : ∀ n, (Lit.int k n).wf = true → 0 ≤ n ∧ n < (M : Int))
    (hv : Value.okWide P w r b0 t v) (h : DataW.Trod enc P w base spare held t v d p) : ∃ ns : List Nat, Reads w v (ints k ns) ∧ (∀ n ∈ ns, n < M) ∧ ns.length ≤ 9223372036854775807 := by
  obtain ⟨a, len, cap, rfl⟩ := okWide_slice ht hv
  obtain ⟨fuel, hf⟩ := h
  rcases open_ints ht he hc hf with ⟨hcs, _⟩ | ⟨x, l, c, zs, hcs, _, hl, hm, hz, _, hcell, hwz⟩
  · simp [Value.cells] at hcs
    obtain ⟨rfl, rfl, rfl⟩ := hcs
    exact ⟨[], Reads.nil w, by simp, by simp⟩
  · simp [Value.cells] at hcs
    obtain ⟨rfl, rfl, rfl⟩ := hcs
    have hlz : len ≤ zs.length := by rw [hz]; split <;> omega
    refine ⟨(zs.take len).map Int.toNat, ?_, ?_, ?_⟩
    · have hlen : ((zs.take len).map Int.toNat).length = len := by simp; omega
      refine ⟨some x, cap, by rw [List.length_map, hlen], by rw [List.length_map, hlen]; exact hl, fun hne => ?_⟩
      have h0 : 0 < len := by
        rcases Nat.eq_zero_or_pos len with h0 | h0
        · subst h0; simp at hne
        · exact h0
      obtain ⟨b, off, spot⟩ := x
      have hc0 := hcell 0 (by omega)
      have hspot : spot = none := by simpa [Addr.add] using World.cell?_spot hc0
      subst hspot
      have hblt : b < w.heap.size := by
        rcases Nat.lt_or_ge b w.heap.size with hb | hb
        · exact hb
        · simp [Addr.add, World.cell?, Array.getElem?_eq_none hb] at hc0
      refine ⟨b, off, rfl, hblt, fun j hj => ?_⟩
      rw [List.length_map, hlen] at hj
      have hcj := hcell j (by omega)
      have hjz : j < zs.length := by omega
      have hw := hk _ (hwz zs[j] (List.getElem_mem hjz))
      rw [Addr.add_lit] at hcj
      rw [hcj]
      simp [List.getElem?_take, hj, hjz, List.getD]
      omega
    · intro n hn
      simp only [List.mem_map] at hn
      obtain ⟨z, hz', rfl⟩ := hn
      have := hk _ (hwz z (List.mem_of_mem_take hz'))
      omega
    · simp only [List.length_map, List.length_take]
      unfold maxLen at hm
      omega

/-- An array of two ints. -/
theorem open_two {e : TypeId} (ht : P.underlying t = some (.array 2 e)) (he : P.underlying e = some (.int .i64)) (hc : P.cellsOf e = 1) (hC : P.cellsOf t = 2)
    (hv : Value.okWide P w r b0 t v) (h : DataW.Trod enc P w base spare held t v d p) : ∃ x y : Int, v = .agg #[.int .i64 x, .int .i64 y] ∧ (Lit.int .i64 x).wf = true ∧ (Lit.int .i64 y).wf = true := by
  have hg : ∃ cs, v = .agg cs ∧ cs.size = P.cellsOf t := by
    simp only [Value.okWide, ht] at hv
    obtain ⟨cs, h1, h2, _⟩ := hv
    exact ⟨cs, h1, h2⟩
  obtain ⟨cs, rfl, hsz⟩ := hg
  obtain ⟨fuel, hf⟩ := h
  obtain ⟨xs, m, _, _, hl, hx, hi⟩ := DataW.trod_array ht hf
  have h0 := hi 0 (by omega)
  have h1 := hi 1 (by omega)
  rw [List.getElem?_eq_getElem (by omega)] at h0 h1
  obtain ⟨n0, e0, _, w0⟩ := DataW.trod_int he h0
  obtain ⟨n1, e1, _, w1⟩ := DataW.trod_int he h1
  refine ⟨n0, n1, ?_, w0, w1⟩
  rw [hc] at e0 e1
  simp only [Value.cells] at e0 e1 hl
  rw [hC] at hl
  congr 1
  apply Array.ext'
  match hcs : cs.toList, hl with
  | [c0, c1], _ =>
    rw [hcs] at e0 e1
    simp at e0 e1
    simp [e0, e1]
theorem open_twoK {k : IntKind} {e : TypeId} (ht : P.underlying t = some (.array 2 e)) (he : P.underlying e = some (.int k)) (hc : P.cellsOf e = 1) (hC : P.cellsOf t = 2)
    (hv : Value.okWide P w r b0 t v) (h : DataW.Trod enc P w base spare held t v d p) : ∃ x y : Int, v = .agg #[Value.int k x, Value.int k y] ∧ (Lit.int k x).wf = true ∧ (Lit.int k y).wf = true := by
  have hg : ∃ cs, v = .agg cs ∧ cs.size = P.cellsOf t := by
    simp only [Value.okWide, ht] at hv
    obtain ⟨cs, h1, h2, _⟩ := hv
    exact ⟨cs, h1, h2⟩
  obtain ⟨cs, rfl, hsz⟩ := hg
  obtain ⟨fuel, hf⟩ := h
  obtain ⟨xs, m, _, _, hl, hx, hi⟩ := DataW.trod_array ht hf
  have h0 := hi 0 (by omega)
  have h1 := hi 1 (by omega)
  rw [List.getElem?_eq_getElem (by omega)] at h0 h1
  obtain ⟨n0, e0, _, w0⟩ := DataW.trod_int he h0
  obtain ⟨n1, e1, _, w1⟩ := DataW.trod_int he h1
  refine ⟨n0, n1, ?_, w0, w1⟩
  rw [hc] at e0 e1
  simp only [Value.cells] at e0 e1 hl
  rw [hC] at hl
  congr 1
  apply Array.ext'
  match hcs : cs.toList, hl with
  | [c0, c1], _ =>
    rw [hcs] at e0 e1
    simp at e0 e1
    simp [e0, e1]
end
end Go.Proofs.Ytloflmkolnediaa

/- Opening the arguments of a law: structs and arrays of integers, and of such. Over any program. -/
namespace Go.Proofs.Ytloflmkolnediaa
set_option linter.unusedVariables false
set_option linter.unusedSimpArgs false
open Go.RowKit Go.ChangeShapes Go.WideShapes Go.ChangeAt
/-- Which kind of integer lies at a cell. -/
def atC (P : Program) : Nat → TypeId → Nat → Option IntKind
  | 0, _, _ => none
  | d + 1, t, j => match P.underlying t with
    | some (.struct fs) => fs.toList.findSome? fun f => if f.offset ≤ j ∧ j < f.offset + P.cellsOf f.type then atC P d f.type (j - f.offset) else none
    | some (.array n e) => if j / P.cellsOf e < n then atC P d e (j % P.cellsOf e) else none
    | some (.int k) => if j = 0 then some k else none
    | _ => none
section
variable {H : Type} {enc : TypeId × Value → H} {P : Program} {w : World} {base : Nat} {spare : Nat → Bool} {held : Bool} {r : Reach} {b0 : Nat} {t : TypeId} {v : Value} {d : DataW H} {p : List MemPlace}
theorem trod_at : ∀ (n : Nat) (t : TypeId) (j fuel : Nat) (cs : List Value) (x : DataW H × List MemPlace) (k : IntKind), atC P n t j = some k → DataW.trod enc P w base spare held fuel t cs = some x → ∃ z : Int, cs[j]? = some (.int k z) ∧ (Lit.int k z).wf = true
  | 0, _, _, _, _, _, _, h, _ => by cases h
  | n + 1, t, j, fuel, cs, x, k, h, hx => by
    cases hu : P.underlying t with
    | none => simp [atC, hu] at h
    | some kd =>
      cases kd <;> simp only [atC, hu] at h <;> try (cases h; done)
      case int q =>
        split at h
        · rename_i hj
          cases h
          subst hj
          obtain ⟨z, e, _, hw⟩ := DataW.trod_int hu hx
          exact ⟨z, by rw [e]; rfl, hw⟩
        · cases h
      case struct fs =>
        obtain ⟨f, hf, hfk⟩ := List.exists_of_findSome?_eq_some h
        split at hfk
        · rename_i hj
          obtain ⟨xs, m, _, rfl, hl, hlen, hf2⟩ := DataW.trod_struct hu hx
          obtain ⟨i, hi⟩ := List.mem_iff_getElem?.1 hf
          have h2 := hf2 i f (by simpa using hi)
          have hil : i < xs.length := by
            have := (List.getElem?_eq_some_iff.1 hi).1
            rw [Array.length_toList] at this
            omega
          rw [List.getElem?_eq_getElem hil] at h2
          obtain ⟨z, e, hw⟩ := trod_at n f.type (j - f.offset) _ _ _ k hfk h2
          refine ⟨z, ?_, hw⟩
          rw [List.getElem?_take] at e
          split at e
          · rw [List.getElem?_drop] at e
            rwa [show f.offset + (j - f.offset) = j by omega] at e
          · cases e
        · cases hfk
      case array m e =>
        split at h
        · rename_i hj
          obtain ⟨xs, m', _, rfl, hl, hlen, hi⟩ := DataW.trod_array hu hx
          have h2 := hi _ hj
          rw [List.getElem?_eq_getElem (by omega)] at h2
          obtain ⟨z, e', hw⟩ := trod_at n e (j % P.cellsOf e) _ _ _ k h h2
          refine ⟨z, ?_, hw⟩
          rw [List.getElem?_take] at e'
          split at e'
          · rw [List.getElem?_drop] at e'
            rwa [show j / P.cellsOf e * P.cellsOf e + j % P.cellsOf e = j by rw [Nat.mul_comm]; exact Nat.div_add_mod _ _] at e'
          · cases e'
        · cases h
theorem open_ints {c : Nat} (ks : Nat → IntKind) (hs : (match P.underlying t with | some (.struct _) | some (.array _ _) => true | _ => false) = true) (hc : P.cellsOf t = c) (hk : (List.range c).all (fun j => atC P 9 t j == some (ks j)) = true)
    (hv : Value.okWide P w r b0 t v) (h : DataW.Trod enc P w base spare held t v d p) : ∃ g : Nat → Int, v = .agg ((List.range c).map fun j => Value.int (ks j) (g j)).toArray ∧ ∀ j, j < c → (Lit.int (ks j) (g j)).wf = true := by
  have hg : ∃ cs, v = .agg cs ∧ cs.size = P.cellsOf t := by
    unfold Value.okWide at hv
    split at hv
    · obtain ⟨cs, h1, h2, _⟩ := hv; exact ⟨cs, h1, h2⟩
    · obtain ⟨cs, h1, h2, _⟩ := hv; exact ⟨cs, h1, h2⟩
    · rename_i h1 h2
      split at hs <;> simp_all
  obtain ⟨cs, rfl, hsz⟩ := hg
  obtain ⟨fuel, hf⟩ := h
  have key : ∀ j, ∃ z : Int, j < c → cs.toList[j]? = some (.int (ks j) z) ∧ (Lit.int (ks j) z).wf = true := by
    intro j
    by_cases hj : j < c
    · have hk' := List.all_eq_true.1 hk j (List.mem_range.2 hj)
      have hk'' : atC P 9 t j = some (ks j) := by simpa using hk'
      obtain ⟨z, h1, h2⟩ := trod_at 9 t j fuel _ _ _ hk'' hf
      exact ⟨z, fun _ => ⟨h1, h2⟩⟩
    · exact ⟨0, fun h => absurd h hj⟩
  refine ⟨fun j => Classical.choose (key j), ?_, fun j hj => (Classical.choose_spec (key j) hj).2⟩
  congr 1
  apply Array.ext'
  apply List.ext_getElem?
  intro j
  simp only [List.toList_toArray, List.getElem?_map]
  by_cases hj : j < c
  · rw [(Classical.choose_spec (key j) hj).1, List.getElem?_range hj]
    rfl
  · rw [List.getElem?_eq_none (by rw [Array.length_toList, hsz, hc]; omega), List.getElem?_eq_none (by simp; omega)]
    rfl
end
end Go.Proofs.Ytloflmkolnediaa

/- scan: what the shells hand over. -/
namespace Go.Proofs.Ytloflmkolnediaa
set_option linter.unusedVariables false
set_option linter.unusedSimpArgs false
open Go.RowKit Go.Shelf
theorem reads_uE {w : World} {v : Value} {ws : List Nat} (h : Reads w v (ints .u64 ws)) : ReadsT uE 1 w v ws := by
  obtain ⟨a, cap, e, hc, h⟩ := h
  have hl : (ints .u64 ws).length = ws.length := by simp [ints]
  rw [hl] at e hc
  exact ⟨a, cap, e, hc, fun hne => by
    obtain ⟨b, off, h1, h2, h3⟩ := h (by intro e; rw [e] at hl; exact hne (List.eq_nil_of_length_eq_zero hl.symm))
    exact ⟨b, off, h1, h2, fun j hj => by rw [flat_u]; exact h3 j (by omega)⟩⟩

end Go.Proofs.Ytloflmkolnediaa

/- scan: what the shell of ScanLooks imports. -/
