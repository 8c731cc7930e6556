/- What the statements' walks use: Sc11, Sc12, Open, OpenI, Sc13, ScR, ScS. -/
import Derived.Test.YtloflmkolnediaaRows
import Derived.ProofKit
import Derived.OpenShut
import Derived.ShutString
import Derived.ChangeOld
import Derived.ChangeSame
import Derived.Test.YtloflmkolnediaaMna
import Derived.Test.YtloflmkolnediaaMnb
import Derived.Test.YtloflmkolnediaaMne
/- scan: the statements' own functions. -/
namespace Go.Proofs.Ytloflmkolnediaa
set_option linter.unusedVariables false
set_option linter.unusedSimpArgs false
open Go.RowKit Go.Shelf
set_option maxRecDepth 100000
set_option maxHeartbeats 8000000
theorem num_any (a : Int) (w : World) : Calls Try.prog 11 #[.int .i64 a] w fun e w' => e = .returned (.int .i64 a) ∧ w = w' := by
  refine X.fn Try.func11 rfl (n := 4) rfl rfl ?_
  refine CC.seq ?_
  refine CC.region ?_
  refine LL.val (R.assign rfl rfl) rfl rfl rfl ?_
  refine LL.nilS ?_
  refine CC.seq ?_
  refine CC.region ?_
  refine LL.val (R.move rfl rfl) rfl rfl rfl ?_
  refine LL.val (R.assign rfl rfl) rfl rfl rfl ?_
  refine LL.nilS ?_
  refine CC.ret ?_
  refine EE.ret _ rfl rfl ?_
  exact ⟨rfl, rfl⟩
theorem found_run (g : Nat) (r : Rd) {w : World} (h : RowL w g 56 (rdR g r)) (hi : InvR r) (hd : r.dn = false) : Calls Try.prog 24 #[.pointer (some ⟨g, 0, none⟩)] w fun e w' => e = .returned (.tuple #[.int .u64 0, .bool false, .bool false]) ∧ Below w.heap.size w w' := by
  have := found_any g r h
  obtain ⟨h1, h2⟩ := hi.none hd
  rw [h1, h2, hd] at this
  exact this
theorem dfound_0 {k slots key ptr ahead loads : Nat} {slot : Int} {is dn : Bool} (w : World) (h : dn = false ∨ is = false) : Calls Try.prog 19 #[drA ⟨k, slots, slot, key, ptr, ahead, dn, is, loads⟩] w fun e w' => e = .returned (.tuple #[.int .u64 0, .bool false]) ∧ Below w.heap.size w w' := by
  have := dfound_any ⟨k, slots, slot, key, ptr, ahead, dn, is, loads⟩ (w := w)
  rcases h with rfl | rfl
  · exact this
  · cases dn <;> exact this
theorem dfound_1 {k slots key ptr ahead loads : Nat} {slot : Int} (w : World) : Calls Try.prog 19 #[drA ⟨k, slots, slot, key, ptr, ahead, true, true, loads⟩] w fun e w' => e = .returned (.tuple #[.int .u64 (ptr : Int), .bool true]) ∧ Below w.heap.size w w' :=
  dfound_any ⟨k, slots, slot, key, ptr, ahead, true, true, loads⟩ (w := w)
theorem found_done (g : Nat) (r : Rd) (b : Bool) {w : World} (h : RowL w g 56 (rdR g r)) (hd : r.dn = true) (hb : r.is = b) : Calls Try.prog 24 #[.pointer (some ⟨g, 0, none⟩)] w fun e w' => e = .returned (.tuple #[.int .u64 (r.found : Int), .bool b, .bool true]) ∧ Below w.heap.size w w' := by
  have := found_any g r h
  rw [hb, hd] at this
  exact this
theorem same_any (g : Nat) (r : Rd) (d : Dr) {w : World} (h : RowL w g 56 (rdR g r)) (hi : InvR r) (hs : Sim r d) : Calls Try.prog 13 #[.pointer (some ⟨g, 0, none⟩), drA d] w fun e w' => e = .returned (.bool true) ∧ Below w.heap.size w w' := by
  have q := Below.refl w.heap.size w
  obtain ⟨k, slots, slot, key, ptr, ahead, dn, is, loads⟩ := d
  obtain ⟨h1, h2, h3, h4, hr, hf⟩ := hs
  have i1 := hi.k
  have i2 := hi.slot
  have i3 := hi.slots
  simp only at h1 h2 h3 h4
  cases hd : r.dn with
  | false =>
    obtain ⟨h5, h6, h7, -⟩ := hr hd
    simp only at h5 h6 h7
    rw [hd] at h4
    subst h4 h7
    clear hr hf
    rw [show drA ⟨k, slots, slot, key, ptr, ahead, false, false, loads⟩ = .agg #[.int .i64 (wayD k), .int .i64 (slots : Int), .int .i64 slot, .int .i64 (stepD k), .int .u64 (key : Int), .int .u64 (ptr : Int), .int .u64 (ahead : Int), .bool false, .bool false, .int .i64 (loads : Int)] from rfl]
    have hw : ∀ W : World, Calls Try.prog 21 #[drA ⟨k, slots, slot, key, ptr, ahead, false, false, loads⟩] W fun e w' => e = .returned (.int .i64 (wantI r.k r.slot)) ∧ Below W.heap.size W w' := fun W => by
      have := dwants_any ⟨k, slots, slot, key, ptr, ahead, false, false, loads⟩ (w := W) (by show k ≤ 8; omega) rfl r.slot h5 (by show r.slot < slots; omega) (by show slots ≤ 28; omega)
      rw [show (⟨k, slots, slot, key, ptr, ahead, false, false, loads⟩ : Dr).k = r.k from h6] at this
      exact this
    refine X.fn Try.func13 rfl (n := 72) rfl rfl ?_
    refine CC.seq ?_
    refine CC.region ?_
    have l25 := h.lt
    refine LL.box [Value.int IntKind.i64 (wayD k), Value.int IntKind.i64 ↑slots, Value.int IntKind.i64 slot, Value.int IntKind.i64 (stepD k), Value.int IntKind.u64 ↑key, Value.int IntKind.u64 ↑ptr, Value.int IntKind.u64 ↑ahead, Value.bool false, Value.bool false, Value.int IntKind.i64 ↑loads] rfl rfl rfl rfl rfl ?_
    intro W27 g28 eg28 r29 z30 b26
    replace h := h.up b26
    replace q := q.trans (b26.mono q.size)
    refine LL.val (R.assign rfl rfl) rfl rfl rfl ?_
    refine LL.nilS ?_
    refine CC.seq ?_
    refine CC.region ?_
    refine LL.val (R.move rfl rfl) rfl rfl rfl ?_
    (refine LL.call (R.call rfl rfl rfl) rfl rfl rfl (wants_run g r h hd) ?_; rintro e W' ⟨rfl, rfl⟩; refine ⟨_, rfl, ?_⟩)
    refine LL.val (R.move rfl rfl) rfl rfl rfl ?_
    refine LL.val (R.extract rfl rfl rfl) rfl rfl rfl ?_
    refine LL.val (R.extract rfl rfl rfl) rfl rfl rfl ?_
    refine LL.val (R.assign rfl rfl) rfl rfl rfl ?_
    refine LL.val (R.assign rfl rfl) rfl rfl rfl ?_
    refine LL.nilS ?_
    refine CC.seq ?_
    refine CC.region ?_
    refine LL.val (R.move rfl rfl) rfl rfl rfl ?_
    have l251 := r29.lt
    have l252 := h.lt
    (refine LL.call (R.call rfl rfl rfl) rfl rfl rfl (found_run g r h hi hd) ?_; rintro e W250 ⟨rfl, b247⟩; refine ⟨_, rfl, ?_⟩)
    have zb247 := b247.size
    replace r29 := r29.up b247
    replace b26 := b26.trans (b247.mono b26.size)
    replace h := h.up b247
    replace q := q.trans (b247.mono q.size)
    refine LL.val (R.move rfl rfl) rfl rfl rfl ?_
    refine LL.val (R.extract rfl rfl rfl) rfl rfl rfl ?_
    refine LL.val (R.extract rfl rfl rfl) rfl rfl rfl ?_
    refine LL.val (R.extract rfl rfl rfl) rfl rfl rfl ?_
    refine LL.val (R.assign rfl rfl) rfl rfl rfl ?_
    refine LL.val (R.assign rfl rfl) rfl rfl rfl ?_
    refine LL.val (R.assign rfl rfl) rfl rfl rfl ?_
    refine LL.nilS ?_
    refine CC.seq ?_
    refine CC.region ?_
    refine LL.val (R.load rfl rfl (I.ldNc (vs := [Value.int IntKind.i64 (wayD k), Value.int IntKind.i64 ↑slots, Value.int IntKind.i64 slot, Value.int IntKind.i64 (stepD k), Value.int IntKind.u64 ↑key, Value.int IntKind.u64 ↑ptr, Value.int IntKind.u64 ↑ahead, Value.bool false, Value.bool false, Value.int IntKind.i64 ↑loads]) (RowL.cells r29 rfl) (by rfl) (by rfl))) rfl rfl rfl ?_
    have l485 := r29.lt
    have l486 := h.lt
    (refine LL.call (R.call rfl rfl rfl) rfl rfl rfl (dfound_0 (k := k) (slots := slots) (slot := slot) (key := key) (ptr := ptr) (ahead := ahead) (loads := loads) _ (.inl rfl)) ?_; rintro e W484 ⟨rfl, b481⟩; refine ⟨_, rfl, ?_⟩)
    have zb481 := b481.size
    replace b247 := b247.trans (b481.mono b247.size)
    replace r29 := r29.up b481
    replace b26 := b26.trans (b481.mono b26.size)
    replace h := h.up b481
    replace q := q.trans (b481.mono q.size)
    refine LL.val (R.move rfl rfl) rfl rfl rfl ?_
    refine LL.val (R.extract rfl rfl rfl) rfl rfl rfl ?_
    refine LL.val (R.extract rfl rfl rfl) rfl rfl rfl ?_
    refine LL.val (R.assign rfl rfl) rfl rfl rfl ?_
    refine LL.val (R.assign rfl rfl) rfl rfl rfl ?_
    refine LL.nilS ?_
    refine CC.seq ?_
    refine CC.seq ?_
    refine CC.grow (by kernel_rfl) (by kernel_rfl) ?_
    refine GG.val (fun w' b' => R.move rfl rfl) rfl rfl ?_
    refine GG.val (fun w' b' => R.field rfl rfl (I.fld rfl)) rfl rfl ?_
    refine GG.val (fun w' b' => R.load rfl rfl (I.ld1 rfl (RowL.cell (r29.up b') rfl))) rfl rfl ?_
    refine GG.val (fun w' b' => R.neBool rfl rfl rfl rfl rfl) rfl rfl ?_
    refine GG.val (fun w' b' => R.move rfl rfl) rfl rfl ?_
    refine GG.val (fun w' b' => R.move rfl rfl) rfl rfl ?_
    refine GG.val (fun w' b' => R.move rfl rfl) rfl rfl ?_
    refine GG.val (fun w' b' => R.neF rfl rfl rfl (by omega)) rfl rfl ?_
    refine GG.val (fun w' b' => R.pick rfl rfl rfl) rfl rfl ?_
    refine GG.val (fun w' b' => R.move rfl rfl) rfl rfl ?_
    refine GG.val (fun w' b' => R.move rfl rfl) rfl rfl ?_
    refine GG.val (fun w' b' => R.move rfl rfl) rfl rfl ?_
    refine GG.val (fun w' b' => R.neBool rfl rfl rfl rfl rfl) rfl rfl ?_
    refine GG.val (fun w' b' => R.pick rfl rfl rfl) rfl rfl ?_
    refine GG.val (fun w' b' => R.move rfl rfl) rfl rfl ?_
    refine GG.val (fun w' b' => R.move rfl rfl) rfl rfl ?_
    refine GG.call (fun w' => (R.call rfl rfl rfl)) rfl rfl (fun w' b' => (loads_any g r (h.up b')).mono fun e W' h => ⟨h.1, h.2 ▸ b'⟩) ?_
    refine GG.val (fun w' b' => R.field rfl rfl (I.fld rfl)) rfl rfl ?_
    refine GG.val (fun w' b' => R.load rfl rfl (I.ld1 rfl (RowL.cell (r29.up b') rfl))) rfl rfl ?_
    refine GG.val (fun w' b' => R.neF rfl rfl rfl (by omega)) rfl rfl ?_
    refine GG.val (fun w' b' => R.pick rfl rfl rfl) rfl rfl ?_
    refine GG.val (fun w' b' => R.move rfl rfl) rfl rfl ?_
    refine GG.val (fun w' b' => R.move rfl rfl) rfl rfl ?_
    refine GG.val (fun w' b' => R.field rfl rfl (I.fld rfl)) rfl rfl ?_
    refine GG.val (fun w' b' => R.load rfl rfl (I.ld1 rfl (RowL.cell (r29.up b') rfl))) rfl rfl ?_
    refine GG.val (fun w' b' => R.eqBool rfl rfl rfl rfl rfl) rfl rfl ?_
    refine GG.val (fun w' b' => R.pick rfl rfl rfl) rfl rfl ?_
    refine GG.nilQ (fun W1196 b1195 => ?_)
    have zb1195 := b1195.size
    replace b481 := b481.trans (b1195.mono b481.size)
    replace b247 := b247.trans (b1195.mono b247.size)
    replace r29 := r29.up b1195
    replace b26 := b26.trans (b1195.mono b26.size)
    replace h := h.up b1195
    replace q := q.trans (b1195.mono q.size)
    refine EE.thenN ?_
    refine CC.no rfl ?_
    refine CC.skip ?_
    refine EE.thenN ?_
    refine CC.seq ?_
    refine CC.region ?_
    refine LL.val (R.field rfl rfl (I.fld rfl)) rfl rfl rfl ?_
    refine LL.val (R.load rfl rfl (I.ld1 rfl (RowL.cell r29 rfl))) rfl rfl rfl ?_
    refine LL.val (R.move rfl rfl) rfl rfl rfl ?_
    refine LL.skip rfl rfl ?_
    refine LL.skip rfl rfl ?_
    refine LL.val (R.pick rfl rfl rfl) rfl rfl rfl ?_
    refine LL.val (R.move rfl rfl) rfl rfl rfl ?_
    refine LL.val (R.field rfl rfl (I.fld rfl)) rfl rfl rfl ?_
    refine LL.val (R.load rfl rfl (I.ld1 rfl (RowL.cell r29 rfl))) rfl rfl rfl ?_
    refine LL.val (R.not rfl rfl) rfl rfl rfl ?_
    refine LL.val (R.move rfl rfl) rfl rfl rfl ?_
    refine LL.val (R.move rfl rfl) rfl rfl rfl ?_
    refine LL.val (R.load rfl rfl (I.ldNc (vs := [Value.int IntKind.i64 (wayD k), Value.int IntKind.i64 ↑slots, Value.int IntKind.i64 slot, Value.int IntKind.i64 (stepD k), Value.int IntKind.u64 ↑key, Value.int IntKind.u64 ↑ptr, Value.int IntKind.u64 ↑ahead, Value.bool false, Value.bool false, Value.int IntKind.i64 ↑loads]) (RowL.cells r29 rfl) (by rfl) (by rfl))) rfl rfl rfl ?_
    have l1516 := r29.lt
    have l1517 := h.lt
    (refine LL.call (R.call rfl rfl rfl) rfl rfl rfl (hw _) ?_; rintro e W1515 ⟨rfl, b1512⟩; refine ⟨_, rfl, ?_⟩)
    have zb1512 := b1512.size
    replace b1195 := b1195.trans (b1512.mono b1195.size)
    replace b481 := b481.trans (b1512.mono b481.size)
    replace b247 := b247.trans (b1512.mono b247.size)
    replace r29 := r29.up b1512
    replace b26 := b26.trans (b1512.mono b26.size)
    replace h := h.up b1512
    replace q := q.trans (b1512.mono q.size)
    refine LL.val (R.eqT rfl rfl rfl (by omega)) rfl rfl rfl ?_
    refine LL.val (R.pick rfl rfl rfl) rfl rfl rfl ?_
    refine LL.val (R.pick rfl rfl rfl) rfl rfl rfl ?_
    refine LL.val (R.assign rfl rfl) rfl rfl rfl ?_
    refine LL.nilS ?_
    refine CC.ret ?_
    refine EE.ret _ rfl rfl ?_
    exact ⟨rfl, q⟩
  | true =>
    obtain ⟨h5, h6, h7⟩ := hf hd
    simp only at h5 h6 h7
    rw [hd] at h4
    subst h4
    clear hr hf
    cases hb : r.is with
    | false =>
      rw [hb] at h5
      have h8 := h7 hb
      subst h5
      clear h6 h7
      rw [show drA ⟨k, slots, slot, key, ptr, ahead, true, false, loads⟩ = .agg #[.int .i64 (wayD k), .int .i64 (slots : Int), .int .i64 slot, .int .i64 (stepD k), .int .u64 (key : Int), .int .u64 (ptr : Int), .int .u64 (ahead : Int), .bool true, .bool false, .int .i64 (loads : Int)] from rfl]
      refine X.fn Try.func13 rfl (n := 72) rfl rfl ?_
      refine CC.seq ?_
      refine CC.region ?_
      have la17 := h.lt
      refine LL.box [Value.int IntKind.i64 (wayD k), Value.int IntKind.i64 ↑slots, Value.int IntKind.i64 slot, Value.int IntKind.i64 (stepD k), Value.int IntKind.u64 ↑key, Value.int IntKind.u64 ↑ptr, Value.int IntKind.u64 ↑ahead, Value.bool true, Value.bool false, Value.int IntKind.i64 ↑loads] rfl rfl rfl rfl rfl ?_
      intro Wa19 ga20 ega20 ra21 za22 ba18
      replace h := h.up ba18
      replace q := q.trans (ba18.mono q.size)
      refine LL.val (R.assign rfl rfl) rfl rfl rfl ?_
      refine LL.nilS ?_
      refine CC.seq ?_
      refine CC.region ?_
      refine LL.val (R.move rfl rfl) rfl rfl rfl ?_
      (refine LL.call (R.call rfl rfl rfl) rfl rfl rfl (wants_done g r h hd) ?_; rintro e W' ⟨rfl, rfl⟩; refine ⟨_, rfl, ?_⟩)
      refine LL.val (R.move rfl rfl) rfl rfl rfl ?_
      refine LL.val (R.extract rfl rfl rfl) rfl rfl rfl ?_
      refine LL.val (R.extract rfl rfl rfl) rfl rfl rfl ?_
      refine LL.val (R.assign rfl rfl) rfl rfl rfl ?_
      refine LL.val (R.assign rfl rfl) rfl rfl rfl ?_
      refine LL.nilS ?_
      refine CC.seq ?_
      refine CC.region ?_
      refine LL.val (R.move rfl rfl) rfl rfl rfl ?_
      have la171 := ra21.lt
      have la172 := h.lt
      (refine LL.call (R.call rfl rfl rfl) rfl rfl rfl (found_done g r false h hd hb) ?_; rintro e Wa170 ⟨rfl, ba167⟩; refine ⟨_, rfl, ?_⟩)
      have zba167 := ba167.size
      replace ra21 := ra21.up ba167
      replace ba18 := ba18.trans (ba167.mono ba18.size)
      replace h := h.up ba167
      replace q := q.trans (ba167.mono q.size)
      refine LL.val (R.move rfl rfl) rfl rfl rfl ?_
      refine LL.val (R.extract rfl rfl rfl) rfl rfl rfl ?_
      refine LL.val (R.extract rfl rfl rfl) rfl rfl rfl ?_
      refine LL.val (R.extract rfl rfl rfl) rfl rfl rfl ?_
      refine LL.val (R.assign rfl rfl) rfl rfl rfl ?_
      refine LL.val (R.assign rfl rfl) rfl rfl rfl ?_
      refine LL.val (R.assign rfl rfl) rfl rfl rfl ?_
      refine LL.nilS ?_
      refine CC.seq ?_
      refine CC.region ?_
      refine LL.val (R.load rfl rfl (I.ldNc (vs := [Value.int IntKind.i64 (wayD k), Value.int IntKind.i64 ↑slots, Value.int IntKind.i64 slot, Value.int IntKind.i64 (stepD k), Value.int IntKind.u64 ↑key, Value.int IntKind.u64 ↑ptr, Value.int IntKind.u64 ↑ahead, Value.bool true, Value.bool false, Value.int IntKind.i64 ↑loads]) (RowL.cells ra21 rfl) (by rfl) (by rfl))) rfl rfl rfl ?_
      have la333 := ra21.lt
      have la334 := h.lt
      (refine LL.call (R.call rfl rfl rfl) rfl rfl rfl (dfound_0 (k := k) (slots := slots) (slot := slot) (key := key) (ptr := ptr) (ahead := ahead) (loads := loads) _ (.inr rfl)) ?_; rintro e Wa332 ⟨rfl, ba329⟩; refine ⟨_, rfl, ?_⟩)
      have zba329 := ba329.size
      replace ba167 := ba167.trans (ba329.mono ba167.size)
      replace ra21 := ra21.up ba329
      replace ba18 := ba18.trans (ba329.mono ba18.size)
      replace h := h.up ba329
      replace q := q.trans (ba329.mono q.size)
      refine LL.val (R.move rfl rfl) rfl rfl rfl ?_
      refine LL.val (R.extract rfl rfl rfl) rfl rfl rfl ?_
      refine LL.val (R.extract rfl rfl rfl) rfl rfl rfl ?_
      refine LL.val (R.assign rfl rfl) rfl rfl rfl ?_
      refine LL.val (R.assign rfl rfl) rfl rfl rfl ?_
      refine LL.nilS ?_
      refine CC.seq ?_
      refine CC.seq ?_
      refine CC.grow (by kernel_rfl) (by kernel_rfl) ?_
      refine GG.val (fun w' b' => R.move rfl rfl) rfl rfl ?_
      refine GG.val (fun w' b' => R.field rfl rfl (I.fld rfl)) rfl rfl ?_
      refine GG.val (fun w' b' => R.load rfl rfl (I.ld1 rfl (RowL.cell (ra21.up b') rfl))) rfl rfl ?_
      refine GG.val (fun w' b' => R.neBool rfl rfl rfl rfl rfl) rfl rfl ?_
      refine GG.val (fun w' b' => R.move rfl rfl) rfl rfl ?_
      refine GG.val (fun w' b' => R.move rfl rfl) rfl rfl ?_
      refine GG.val (fun w' b' => R.move rfl rfl) rfl rfl ?_
      refine GG.val (fun w' b' => R.neF rfl rfl rfl (by omega)) rfl rfl ?_
      refine GG.val (fun w' b' => R.pick rfl rfl rfl) rfl rfl ?_
      refine GG.val (fun w' b' => R.move rfl rfl) rfl rfl ?_
      refine GG.val (fun w' b' => R.move rfl rfl) rfl rfl ?_
      refine GG.val (fun w' b' => R.move rfl rfl) rfl rfl ?_
      refine GG.val (fun w' b' => R.neBool rfl rfl rfl rfl rfl) rfl rfl ?_
      refine GG.val (fun w' b' => R.pick rfl rfl rfl) rfl rfl ?_
      refine GG.val (fun w' b' => R.move rfl rfl) rfl rfl ?_
      refine GG.val (fun w' b' => R.move rfl rfl) rfl rfl ?_
      refine GG.call (fun w' => (R.call rfl rfl rfl)) rfl rfl (fun w' b' => (loads_any g r (h.up b')).mono fun e W' h => ⟨h.1, h.2 ▸ b'⟩) ?_
      refine GG.val (fun w' b' => R.field rfl rfl (I.fld rfl)) rfl rfl ?_
      refine GG.val (fun w' b' => R.load rfl rfl (I.ld1 rfl (RowL.cell (ra21.up b') rfl))) rfl rfl ?_
      refine GG.val (fun w' b' => R.neF rfl rfl rfl (by omega)) rfl rfl ?_
      refine GG.val (fun w' b' => R.pick rfl rfl rfl) rfl rfl ?_
      refine GG.val (fun w' b' => R.move rfl rfl) rfl rfl ?_
      refine GG.val (fun w' b' => R.move rfl rfl) rfl rfl ?_
      refine GG.val (fun w' b' => R.field rfl rfl (I.fld rfl)) rfl rfl ?_
      refine GG.val (fun w' b' => R.load rfl rfl (I.ld1 rfl (RowL.cell (ra21.up b') rfl))) rfl rfl ?_
      refine GG.val (fun w' b' => R.eqBool rfl rfl rfl rfl rfl) rfl rfl ?_
      refine GG.val (fun w' b' => R.pick rfl rfl rfl) rfl rfl ?_
      refine GG.nilQ (fun Wa810 ba809 => ?_)
      have zba809 := ba809.size
      replace ba329 := ba329.trans (ba809.mono ba329.size)
      replace ba167 := ba167.trans (ba809.mono ba167.size)
      replace ra21 := ra21.up ba809
      replace ba18 := ba18.trans (ba809.mono ba18.size)
      replace h := h.up ba809
      replace q := q.trans (ba809.mono q.size)
      refine EE.thenN ?_
      refine CC.no rfl ?_
      refine CC.skip ?_
      refine EE.thenN ?_
      refine CC.seq ?_
      refine CC.region ?_
      refine LL.val (R.field rfl rfl (I.fld rfl)) rfl rfl rfl ?_
      refine LL.val (R.load rfl rfl (I.ld1 rfl (RowL.cell ra21 rfl))) rfl rfl rfl ?_
      refine LL.val (R.move rfl rfl) rfl rfl rfl ?_
      refine LL.val (R.move rfl rfl) rfl rfl rfl ?_
      refine LL.val (R.eqT rfl rfl rfl (by omega)) rfl rfl rfl ?_
      refine LL.val (R.pick rfl rfl rfl) rfl rfl rfl ?_
      refine LL.val (R.move rfl rfl) rfl rfl rfl ?_
      refine LL.skip rfl rfl ?_
      refine LL.skip rfl rfl ?_
      refine LL.skip rfl rfl ?_
      refine LL.skip rfl rfl ?_
      refine LL.skip rfl rfl ?_
      refine LL.skip rfl rfl ?_
      refine LL.skip rfl rfl ?_
      refine LL.skip rfl rfl ?_
      refine LL.skip rfl rfl ?_
      refine LL.val (R.pick rfl rfl rfl) rfl rfl rfl ?_
      refine LL.val (R.assign rfl rfl) rfl rfl rfl ?_
      refine LL.nilS ?_
      refine CC.ret ?_
      refine EE.ret _ rfl rfl ?_
      exact ⟨rfl, q⟩
    | true =>
      rw [hb] at h5
      have h8 := h6 hb
      subst h5
      clear h6 h7
      rw [show drA ⟨k, slots, slot, key, ptr, ahead, true, true, loads⟩ = .agg #[.int .i64 (wayD k), .int .i64 (slots : Int), .int .i64 slot, .int .i64 (stepD k), .int .u64 (key : Int), .int .u64 (ptr : Int), .int .u64 (ahead : Int), .bool true, .bool true, .int .i64 (loads : Int)] from rfl]
      refine X.fn Try.func13 rfl (n := 72) rfl rfl ?_
      refine CC.seq ?_
      refine CC.region ?_
      have lb17 := h.lt
      refine LL.box [Value.int IntKind.i64 (wayD k), Value.int IntKind.i64 ↑slots, Value.int IntKind.i64 slot, Value.int IntKind.i64 (stepD k), Value.int IntKind.u64 ↑key, Value.int IntKind.u64 ↑ptr, Value.int IntKind.u64 ↑ahead, Value.bool true, Value.bool true, Value.int IntKind.i64 ↑loads] rfl rfl rfl rfl rfl ?_
      intro Wb19 gb20 egb20 rb21 zb22 bb18
      replace h := h.up bb18
      replace q := q.trans (bb18.mono q.size)
      refine LL.val (R.assign rfl rfl) rfl rfl rfl ?_
      refine LL.nilS ?_
      refine CC.seq ?_
      refine CC.region ?_
      refine LL.val (R.move rfl rfl) rfl rfl rfl ?_
      (refine LL.call (R.call rfl rfl rfl) rfl rfl rfl (wants_done g r h hd) ?_; rintro e W' ⟨rfl, rfl⟩; refine ⟨_, rfl, ?_⟩)
      refine LL.val (R.move rfl rfl) rfl rfl rfl ?_
      refine LL.val (R.extract rfl rfl rfl) rfl rfl rfl ?_
      refine LL.val (R.extract rfl rfl rfl) rfl rfl rfl ?_
      refine LL.val (R.assign rfl rfl) rfl rfl rfl ?_
      refine LL.val (R.assign rfl rfl) rfl rfl rfl ?_
      refine LL.nilS ?_
      refine CC.seq ?_
      refine CC.region ?_
      refine LL.val (R.move rfl rfl) rfl rfl rfl ?_
      have lb171 := rb21.lt
      have lb172 := h.lt
      (refine LL.call (R.call rfl rfl rfl) rfl rfl rfl (found_done g r true h hd hb) ?_; rintro e Wb170 ⟨rfl, bb167⟩; refine ⟨_, rfl, ?_⟩)
      have zbb167 := bb167.size
      replace rb21 := rb21.up bb167
      replace bb18 := bb18.trans (bb167.mono bb18.size)
      replace h := h.up bb167
      replace q := q.trans (bb167.mono q.size)
      refine LL.val (R.move rfl rfl) rfl rfl rfl ?_
      refine LL.val (R.extract rfl rfl rfl) rfl rfl rfl ?_
      refine LL.val (R.extract rfl rfl rfl) rfl rfl rfl ?_
      refine LL.val (R.extract rfl rfl rfl) rfl rfl rfl ?_
      refine LL.val (R.assign rfl rfl) rfl rfl rfl ?_
      refine LL.val (R.assign rfl rfl) rfl rfl rfl ?_
      refine LL.val (R.assign rfl rfl) rfl rfl rfl ?_
      refine LL.nilS ?_
      refine CC.seq ?_
      refine CC.region ?_
      refine LL.val (R.load rfl rfl (I.ldNc (vs := [Value.int IntKind.i64 (wayD k), Value.int IntKind.i64 ↑slots, Value.int IntKind.i64 slot, Value.int IntKind.i64 (stepD k), Value.int IntKind.u64 ↑key, Value.int IntKind.u64 ↑ptr, Value.int IntKind.u64 ↑ahead, Value.bool true, Value.bool true, Value.int IntKind.i64 ↑loads]) (RowL.cells rb21 rfl) (by rfl) (by rfl))) rfl rfl rfl ?_
      have lb333 := rb21.lt
      have lb334 := h.lt
      (refine LL.call (R.call rfl rfl rfl) rfl rfl rfl (dfound_1 (k := k) (slots := slots) (slot := slot) (key := key) (ptr := ptr) (ahead := ahead) (loads := loads) _) ?_; rintro e Wb332 ⟨rfl, bb329⟩; refine ⟨_, rfl, ?_⟩)
      have zbb329 := bb329.size
      replace bb167 := bb167.trans (bb329.mono bb167.size)
      replace rb21 := rb21.up bb329
      replace bb18 := bb18.trans (bb329.mono bb18.size)
      replace h := h.up bb329
      replace q := q.trans (bb329.mono q.size)
      refine LL.val (R.move rfl rfl) rfl rfl rfl ?_
      refine LL.val (R.extract rfl rfl rfl) rfl rfl rfl ?_
      refine LL.val (R.extract rfl rfl rfl) rfl rfl rfl ?_
      refine LL.val (R.assign rfl rfl) rfl rfl rfl ?_
      refine LL.val (R.assign rfl rfl) rfl rfl rfl ?_
      refine LL.nilS ?_
      refine CC.seq ?_
      refine CC.seq ?_
      refine CC.grow (by kernel_rfl) (by kernel_rfl) ?_
      refine GG.val (fun w' b' => R.move rfl rfl) rfl rfl ?_
      refine GG.val (fun w' b' => R.field rfl rfl (I.fld rfl)) rfl rfl ?_
      refine GG.val (fun w' b' => R.load rfl rfl (I.ld1 rfl (RowL.cell (rb21.up b') rfl))) rfl rfl ?_
      refine GG.val (fun w' b' => R.neBool rfl rfl rfl rfl rfl) rfl rfl ?_
      refine GG.val (fun w' b' => R.move rfl rfl) rfl rfl ?_
      refine GG.val (fun w' b' => R.move rfl rfl) rfl rfl ?_
      refine GG.val (fun w' b' => R.move rfl rfl) rfl rfl ?_
      refine GG.val (fun w' b' => R.neF rfl rfl rfl (by omega)) rfl rfl ?_
      refine GG.val (fun w' b' => R.pick rfl rfl rfl) rfl rfl ?_
      refine GG.val (fun w' b' => R.move rfl rfl) rfl rfl ?_
      refine GG.val (fun w' b' => R.move rfl rfl) rfl rfl ?_
      refine GG.val (fun w' b' => R.move rfl rfl) rfl rfl ?_
      refine GG.val (fun w' b' => R.neBool rfl rfl rfl rfl rfl) rfl rfl ?_
      refine GG.val (fun w' b' => R.pick rfl rfl rfl) rfl rfl ?_
      refine GG.val (fun w' b' => R.move rfl rfl) rfl rfl ?_
      refine GG.val (fun w' b' => R.move rfl rfl) rfl rfl ?_
      refine GG.call (fun w' => (R.call rfl rfl rfl)) rfl rfl (fun w' b' => (loads_any g r (h.up b')).mono fun e W' h => ⟨h.1, h.2 ▸ b'⟩) ?_
      refine GG.val (fun w' b' => R.field rfl rfl (I.fld rfl)) rfl rfl ?_
      refine GG.val (fun w' b' => R.load rfl rfl (I.ld1 rfl (RowL.cell (rb21.up b') rfl))) rfl rfl ?_
      refine GG.val (fun w' b' => R.neF rfl rfl rfl (by omega)) rfl rfl ?_
      refine GG.val (fun w' b' => R.pick rfl rfl rfl) rfl rfl ?_
      refine GG.val (fun w' b' => R.move rfl rfl) rfl rfl ?_
      refine GG.val (fun w' b' => R.move rfl rfl) rfl rfl ?_
      refine GG.val (fun w' b' => R.field rfl rfl (I.fld rfl)) rfl rfl ?_
      refine GG.val (fun w' b' => R.load rfl rfl (I.ld1 rfl (RowL.cell (rb21.up b') rfl))) rfl rfl ?_
      refine GG.val (fun w' b' => R.eqBool rfl rfl rfl rfl rfl) rfl rfl ?_
      refine GG.val (fun w' b' => R.pick rfl rfl rfl) rfl rfl ?_
      refine GG.nilQ (fun Wb810 bb809 => ?_)
      have zbb809 := bb809.size
      replace bb329 := bb329.trans (bb809.mono bb329.size)
      replace bb167 := bb167.trans (bb809.mono bb167.size)
      replace rb21 := rb21.up bb809
      replace bb18 := bb18.trans (bb809.mono bb18.size)
      replace h := h.up bb809
      replace q := q.trans (bb809.mono q.size)
      refine EE.thenN ?_
      refine CC.no rfl ?_
      refine CC.skip ?_
      refine EE.thenN ?_
      refine CC.seq ?_
      refine CC.region ?_
      refine LL.val (R.field rfl rfl (I.fld rfl)) rfl rfl rfl ?_
      refine LL.val (R.load rfl rfl (I.ld1 rfl (RowL.cell rb21 rfl))) rfl rfl rfl ?_
      refine LL.val (R.move rfl rfl) rfl rfl rfl ?_
      refine LL.val (R.move rfl rfl) rfl rfl rfl ?_
      refine LL.val (R.eqT rfl rfl rfl (by omega)) rfl rfl rfl ?_
      refine LL.val (R.pick rfl rfl rfl) rfl rfl rfl ?_
      refine LL.val (R.move rfl rfl) rfl rfl rfl ?_
      refine LL.skip rfl rfl ?_
      refine LL.skip rfl rfl ?_
      refine LL.skip rfl rfl ?_
      refine LL.skip rfl rfl ?_
      refine LL.skip rfl rfl ?_
      refine LL.skip rfl rfl ?_
      refine LL.skip rfl rfl ?_
      refine LL.skip rfl rfl ?_
      refine LL.skip rfl rfl ?_
      refine LL.val (R.pick rfl rfl rfl) rfl rfl rfl ?_
      refine LL.val (R.assign rfl rfl) rfl rfl rfl ?_
      refine LL.nilS ?_
      refine CC.ret ?_
      refine EE.ret _ rfl rfl ?_
      exact ⟨rfl, q⟩
/-- The document's reader at its beginning. -/
def newD (up : Bool) (slots key : Nat) : Dr := if up then ⟨0, slots, 0, key, 0, 0, false, false, 0⟩ else ⟨5, slots, ((slots - 1 : Nat) : Int), key, 0, 0, false, false, 0⟩
theorem dnew_T (up : Bool) (slots key : Nat) (w : World) (h2 : 2 ≤ slots) (h28 : slots ≤ 28) : Calls Try.prog 12 #[.int .i64 (wayI up), .int .i64 (slots : Int), .int .u64 (key : Int)] w fun e w' => e = .returned (drA (newD up slots key)) ∧ Below w.heap.size w w' := by
  have q := Below.refl w.heap.size w
  cases up
  · rw [show wayI false = 2 from rfl]
    refine X.fn Try.func12 rfl (n := 18) rfl rfl ?_
    refine CC.seq ?_
    refine CC.region ?_
    refine LL.alloc ([Value.int IntKind.i64 0, Value.int IntKind.i64 0, Value.int IntKind.i64 0, Value.int IntKind.i64 0, Value.int IntKind.u64 0, Value.int IntKind.u64 0, Value.int IntKind.u64 0, Value.bool false, Value.bool false, Value.int IntKind.i64 0]) rfl rfl rfl rfl rfl ?_
    intro W2 g3 eg3 r4 z5 b1
    replace q := q.trans (b1.mono q.size)
    refine LL.nilS ?_
    refine CC.seq ?_
    refine CC.region ?_
    refine LL.val (R.move rfl rfl) rfl rfl rfl ?_
    refine LL.val (R.move rfl rfl) rfl rfl rfl ?_
    refine LL.val (R.move rfl rfl) rfl rfl rfl ?_
    refine LL.val (R.buildV rfl rfl (v := .agg #[Value.int IntKind.i64 2, Value.int IntKind.i64 ↑slots, Value.int IntKind.i64 0, Value.int IntKind.i64 0, Value.int IntKind.u64 ↑key, Value.int IntKind.u64 0, Value.int IntKind.u64 0, Value.bool false, Value.bool false, Value.int IntKind.i64 0]) (fun _ => by kernel_rfl)) rfl rfl rfl ?_
    have l6 := r4.lt
    refine LL.alloc ([Value.int IntKind.i64 0, Value.int IntKind.i64 0, Value.int IntKind.i64 0, Value.int IntKind.i64 0, Value.int IntKind.u64 0, Value.int IntKind.u64 0, Value.int IntKind.u64 0, Value.bool false, Value.bool false, Value.int IntKind.i64 0]) rfl rfl rfl rfl rfl ?_
    intro W8 g9 eg9 r10 z11 b7
    replace r4 := r4.up b7
    replace b1 := b1.trans (b7.mono b1.size)
    replace q := q.trans (b7.mono q.size)
    refine LL.storeN (vs := [Value.int IntKind.i64 2, Value.int IntKind.i64 ↑slots, Value.int IntKind.i64 0, Value.int IntKind.i64 0, Value.int IntKind.u64 ↑key, Value.int IntKind.u64 0, Value.int IntKind.u64 0, Value.bool false, Value.bool false, Value.int IntKind.i64 0]) rfl rfl rfl rfl r10 (by exact Nat.le_of_ble_eq_true rfl) (ones_of rfl) rfl rfl ?_
    intro W13 r14 b12 z15
    have hlb12 := r10.lt
    replace r14 : RowL W13 _ 33 [Value.int IntKind.i64 2, Value.int IntKind.i64 ↑slots, Value.int IntKind.i64 0, Value.int IntKind.i64 0, Value.int IntKind.u64 ↑key, Value.int IntKind.u64 0, Value.int IntKind.u64 0, Value.bool false, Value.bool false, Value.int IntKind.i64 0] := r14
    clear r10
    replace b7 := b7.grown b12 b7.size (by rintro k ⟨⟩; omega)
    replace r4 := r4.gr b12 (by have := r4.lt; omega)
    replace b1 := b1.grown b12 b1.size (by rintro k ⟨⟩; omega)
    replace q := q.grown b12 q.size (by rintro k ⟨⟩; omega)
    have r10 := r14
    clear r14
    refine LL.nilS ?_
    refine CC.seq ?_
    refine CC.seq ?_
    refine CC.region ?_
    refine LL.val (R.move rfl rfl) rfl rfl rfl ?_
    refine LL.val (R.eqT rfl rfl rfl (by omega)) rfl rfl rfl ?_
    refine LL.nilS ?_
    refine CC.yes rfl ?_
    refine CC.region ?_
    refine LL.val (R.move rfl rfl) rfl rfl rfl ?_
    refine LL.val (R.subNc rfl rfl rfl rfl (by omega) (by omega)) rfl rfl rfl ?_
    refine LL.val (R.field rfl rfl (I.fld rfl)) rfl rfl rfl ?_
    refine LL.store rfl rfl rfl rfl r10 (by exact Nat.le_of_ble_eq_true rfl) rfl rfl rfl rfl ?_
    intro W17 r18 b16 z19
    have hlb16 := r10.lt
    replace r18 : RowL W17 _ 33 [Value.int IntKind.i64 2, Value.int IntKind.i64 ↑slots, Value.int IntKind.i64 ↑(slots - 1), Value.int IntKind.i64 0, Value.int IntKind.u64 ↑key, Value.int IntKind.u64 0, Value.int IntKind.u64 0, Value.bool false, Value.bool false, Value.int IntKind.i64 0] := r18
    clear r10
    replace b7 := b7.grown b16 b7.size (by rintro k ⟨⟩; omega)
    replace r4 := r4.gr b16 (by have := r4.lt; omega)
    replace b1 := b1.grown b16 b1.size (by rintro k ⟨⟩; omega)
    replace q := q.grown b16 q.size (by rintro k ⟨⟩; omega)
    have r10 := r18
    clear r18
    refine LL.nilS ?_
    refine CC.seq ?_
    refine CC.region ?_
    refine LL.val (R.load rfl rfl (I.ldNc (vs := [Value.int IntKind.i64 2, Value.int IntKind.i64 ↑slots, Value.int IntKind.i64 ↑(slots - 1), Value.int IntKind.i64 0, Value.int IntKind.u64 ↑key, Value.int IntKind.u64 0, Value.int IntKind.u64 0, Value.bool false, Value.bool false, Value.int IntKind.i64 0]) (RowL.cells r10 rfl) (by rfl) (by rfl))) rfl rfl rfl ?_
    refine LL.storeN (vs := [Value.int IntKind.i64 2, Value.int IntKind.i64 ↑slots, Value.int IntKind.i64 ↑(slots - 1), Value.int IntKind.i64 0, Value.int IntKind.u64 ↑key, Value.int IntKind.u64 0, Value.int IntKind.u64 0, Value.bool false, Value.bool false, Value.int IntKind.i64 0]) rfl rfl rfl rfl r4 (by exact Nat.le_of_ble_eq_true rfl) (ones_of rfl) rfl rfl ?_
    intro W21 r22 b20 z23
    have hlb20 := r4.lt
    replace r22 : RowL W21 _ 33 [Value.int IntKind.i64 2, Value.int IntKind.i64 ↑slots, Value.int IntKind.i64 ↑(slots - 1), Value.int IntKind.i64 0, Value.int IntKind.u64 ↑key, Value.int IntKind.u64 0, Value.int IntKind.u64 0, Value.bool false, Value.bool false, Value.int IntKind.i64 0] := r22
    clear r4
    replace b1 := b1.grown b20 b1.size (by rintro k ⟨⟩; omega)
    replace q := q.grown b20 q.size (by rintro k ⟨⟩; omega)
    replace r10 := r10.gr b20 (by have := r10.lt; omega)
    have r4 := r22
    clear r22
    refine LL.nilS ?_
    refine CC.ret ?_
    refine EE.retC rfl rfl (lvNc (RowL.cells0 (by assumption)) (by rfl) (by rfl)) ?_
    exact ⟨rfl, q⟩
  · rw [show wayI true = 1 from rfl]
    refine X.fn Try.func12 rfl (n := 18) rfl rfl ?_
    refine CC.seq ?_
    refine CC.region ?_
    refine LL.alloc ([Value.int IntKind.i64 0, Value.int IntKind.i64 0, Value.int IntKind.i64 0, Value.int IntKind.i64 0, Value.int IntKind.u64 0, Value.int IntKind.u64 0, Value.int IntKind.u64 0, Value.bool false, Value.bool false, Value.int IntKind.i64 0]) rfl rfl rfl rfl rfl ?_
    intro Wa2 ga3 ega3 ra4 za5 ba1
    replace q := q.trans (ba1.mono q.size)
    refine LL.nilS ?_
    refine CC.seq ?_
    refine CC.region ?_
    refine LL.val (R.move rfl rfl) rfl rfl rfl ?_
    refine LL.val (R.move rfl rfl) rfl rfl rfl ?_
    refine LL.val (R.move rfl rfl) rfl rfl rfl ?_
    refine LL.val (R.buildV rfl rfl (v := .agg #[Value.int IntKind.i64 1, Value.int IntKind.i64 ↑slots, Value.int IntKind.i64 0, Value.int IntKind.i64 0, Value.int IntKind.u64 ↑key, Value.int IntKind.u64 0, Value.int IntKind.u64 0, Value.bool false, Value.bool false, Value.int IntKind.i64 0]) (fun _ => by kernel_rfl)) rfl rfl rfl ?_
    have la6 := ra4.lt
    refine LL.alloc ([Value.int IntKind.i64 0, Value.int IntKind.i64 0, Value.int IntKind.i64 0, Value.int IntKind.i64 0, Value.int IntKind.u64 0, Value.int IntKind.u64 0, Value.int IntKind.u64 0, Value.bool false, Value.bool false, Value.int IntKind.i64 0]) rfl rfl rfl rfl rfl ?_
    intro Wa8 ga9 ega9 ra10 za11 ba7
    replace ra4 := ra4.up ba7
    replace ba1 := ba1.trans (ba7.mono ba1.size)
    replace q := q.trans (ba7.mono q.size)
    refine LL.storeN (vs := [Value.int IntKind.i64 1, Value.int IntKind.i64 ↑slots, Value.int IntKind.i64 0, Value.int IntKind.i64 0, Value.int IntKind.u64 ↑key, Value.int IntKind.u64 0, Value.int IntKind.u64 0, Value.bool false, Value.bool false, Value.int IntKind.i64 0]) rfl rfl rfl rfl ra10 (by exact Nat.le_of_ble_eq_true rfl) (ones_of rfl) rfl rfl ?_
    intro Wa13 ra14 ba12 za15
    have hlba12 := ra10.lt
    replace ra14 : RowL Wa13 _ 33 [Value.int IntKind.i64 1, Value.int IntKind.i64 ↑slots, Value.int IntKind.i64 0, Value.int IntKind.i64 0, Value.int IntKind.u64 ↑key, Value.int IntKind.u64 0, Value.int IntKind.u64 0, Value.bool false, Value.bool false, Value.int IntKind.i64 0] := ra14
    clear ra10
    replace ba7 := ba7.grown ba12 ba7.size (by rintro k ⟨⟩; omega)
    replace ra4 := ra4.gr ba12 (by have := ra4.lt; omega)
    replace ba1 := ba1.grown ba12 ba1.size (by rintro k ⟨⟩; omega)
    replace q := q.grown ba12 q.size (by rintro k ⟨⟩; omega)
    have ra10 := ra14
    clear ra14
    refine LL.nilS ?_
    refine CC.seq ?_
    refine CC.seq ?_
    refine CC.region ?_
    refine LL.val (R.move rfl rfl) rfl rfl rfl ?_
    refine LL.val (R.eqF rfl rfl rfl (by omega)) rfl rfl rfl ?_
    refine LL.nilS ?_
    refine CC.no rfl ?_
    refine CC.skip ?_
    refine EE.thenN ?_
    refine CC.seq ?_
    refine CC.region ?_
    refine LL.val (R.load rfl rfl (I.ldNc (vs := [Value.int IntKind.i64 1, Value.int IntKind.i64 ↑slots, Value.int IntKind.i64 0, Value.int IntKind.i64 0, Value.int IntKind.u64 ↑key, Value.int IntKind.u64 0, Value.int IntKind.u64 0, Value.bool false, Value.bool false, Value.int IntKind.i64 0]) (RowL.cells ra10 rfl) (by rfl) (by rfl))) rfl rfl rfl ?_
    refine LL.storeN (vs := [Value.int IntKind.i64 1, Value.int IntKind.i64 ↑slots, Value.int IntKind.i64 0, Value.int IntKind.i64 0, Value.int IntKind.u64 ↑key, Value.int IntKind.u64 0, Value.int IntKind.u64 0, Value.bool false, Value.bool false, Value.int IntKind.i64 0]) rfl rfl rfl rfl ra4 (by exact Nat.le_of_ble_eq_true rfl) (ones_of rfl) rfl rfl ?_
    intro Wa17 ra18 ba16 za19
    have hlba16 := ra4.lt
    replace ra18 : RowL Wa17 _ 33 [Value.int IntKind.i64 1, Value.int IntKind.i64 ↑slots, Value.int IntKind.i64 0, Value.int IntKind.i64 0, Value.int IntKind.u64 ↑key, Value.int IntKind.u64 0, Value.int IntKind.u64 0, Value.bool false, Value.bool false, Value.int IntKind.i64 0] := ra18
    clear ra4
    replace ba1 := ba1.grown ba16 ba1.size (by rintro k ⟨⟩; omega)
    replace q := q.grown ba16 q.size (by rintro k ⟨⟩; omega)
    replace ra10 := ra10.gr ba16 (by have := ra10.lt; omega)
    have ra4 := ra18
    clear ra18
    refine LL.nilS ?_
    refine CC.ret ?_
    refine EE.retC rfl rfl (lvNc (RowL.cells0 (by assumption)) (by rfl) (by rfl)) ?_
    exact ⟨rfl, q⟩
theorem sim_new {up : Bool} {slots key : Nat} : Sim (newR up slots key) (newD up slots key) := by
  cases up
  · exact ⟨rfl, rfl, rfl, rfl, fun _ => ⟨rfl, rfl, rfl, fun h => by simp [newR] at h, fun h => by simp [newR] at h, fun h => by simp [newR] at h⟩, fun h => by cases h⟩
  · exact ⟨rfl, rfl, rfl, rfl, fun _ => ⟨rfl, rfl, rfl, fun h => by simp [newR] at h, fun h => by simp [newR] at h, fun h => by simp [newR] at h⟩, fun h => by cases h⟩
theorem right_T (way slots : Int) (w : World) (h : way = 1 ∨ way = 2) (h2 : 2 ≤ slots) (h28 : slots ≤ 28) : Calls Try.prog 10 #[.int .i64 way, .int .i64 slots] w fun e w' => e = .returned (.bool true) ∧ w = w' := by
  rcases h with rfl | rfl
  · refine X.fn Try.func10 rfl (n := 19) rfl rfl ?_
    refine CC.seq ?_
    refine CC.region ?_
    refine LL.val (R.assign rfl rfl) rfl rfl rfl ?_
    refine LL.nilS ?_
    refine CC.seq ?_
    refine CC.region ?_
    refine LL.val (R.move rfl rfl) rfl rfl rfl ?_
    refine LL.val (R.eqT rfl rfl rfl (by omega)) rfl rfl rfl ?_
    refine LL.val (R.move rfl rfl) rfl rfl rfl ?_
    refine LL.skip rfl rfl ?_
    refine LL.skip rfl rfl ?_
    refine LL.val (R.pick rfl rfl rfl) rfl rfl rfl ?_
    refine LL.val (R.move rfl rfl) rfl rfl rfl ?_
    refine LL.val (R.move rfl rfl) rfl rfl rfl ?_
    refine LL.val (R.geT rfl rfl rfl (by omega)) rfl rfl rfl ?_
    refine LL.val (R.pick rfl rfl rfl) rfl rfl rfl ?_
    refine LL.val (R.move rfl rfl) rfl rfl rfl ?_
    refine LL.val (R.move rfl rfl) rfl rfl rfl ?_
    refine LL.val (R.leT rfl rfl rfl (by omega)) rfl rfl rfl ?_
    refine LL.val (R.pick rfl rfl rfl) rfl rfl rfl ?_
    refine LL.val (R.assign rfl rfl) rfl rfl rfl ?_
    refine LL.nilS ?_
    refine CC.ret ?_
    refine EE.ret _ rfl rfl ?_
    exact ⟨rfl, rfl⟩
  · refine X.fn Try.func10 rfl (n := 19) rfl rfl ?_
    refine CC.seq ?_
    refine CC.region ?_
    refine LL.val (R.assign rfl rfl) rfl rfl rfl ?_
    refine LL.nilS ?_
    refine CC.seq ?_
    refine CC.region ?_
    refine LL.val (R.move rfl rfl) rfl rfl rfl ?_
    refine LL.val (R.eqF rfl rfl rfl (by omega)) rfl rfl rfl ?_
    refine LL.val (R.move rfl rfl) rfl rfl rfl ?_
    refine LL.val (R.move rfl rfl) rfl rfl rfl ?_
    refine LL.val (R.eqT rfl rfl rfl (by omega)) rfl rfl rfl ?_
    refine LL.val (R.pick rfl rfl rfl) rfl rfl rfl ?_
    refine LL.val (R.move rfl rfl) rfl rfl rfl ?_
    refine LL.val (R.move rfl rfl) rfl rfl rfl ?_
    refine LL.val (R.geT rfl rfl rfl (by omega)) rfl rfl rfl ?_
    refine LL.val (R.pick rfl rfl rfl) rfl rfl rfl ?_
    refine LL.val (R.move rfl rfl) rfl rfl rfl ?_
    refine LL.val (R.move rfl rfl) rfl rfl rfl ?_
    refine LL.val (R.leT rfl rfl rfl (by omega)) rfl rfl rfl ?_
    refine LL.val (R.pick rfl rfl rfl) rfl rfl rfl ?_
    refine LL.val (R.assign rfl rfl) rfl rfl rfl ?_
    refine LL.nilS ?_
    refine CC.ret ?_
    refine EE.ret _ rfl rfl ?_
    exact ⟨rfl, rfl⟩
theorem right_F (way slots : Int) (w : World) (h : (way ≠ 1 ∧ way ≠ 2) ∨ slots < 2 ∨ 28 < slots) : Calls Try.prog 10 #[.int .i64 way, .int .i64 slots] w fun e w' => e = .returned (.bool false) ∧ w = w' := by
  by_cases h1 : way = 1
  · subst h1
    replace h : slots < 2 ∨ 28 < slots := by omega
    by_cases h2 : slots < 2
    · refine X.fn Try.func10 rfl (n := 19) rfl rfl ?_
      refine CC.seq ?_
      refine CC.region ?_
      refine LL.val (R.assign rfl rfl) rfl rfl rfl ?_
      refine LL.nilS ?_
      refine CC.seq ?_
      refine CC.region ?_
      refine LL.val (R.move rfl rfl) rfl rfl rfl ?_
      refine LL.val (R.eqT rfl rfl rfl (by omega)) rfl rfl rfl ?_
      refine LL.val (R.move rfl rfl) rfl rfl rfl ?_
      refine LL.skip rfl rfl ?_
      refine LL.skip rfl rfl ?_
      refine LL.val (R.pick rfl rfl rfl) rfl rfl rfl ?_
      refine LL.val (R.move rfl rfl) rfl rfl rfl ?_
      refine LL.val (R.move rfl rfl) rfl rfl rfl ?_
      refine LL.val (R.geF rfl rfl rfl (by omega)) rfl rfl rfl ?_
      refine LL.val (R.pick rfl rfl rfl) rfl rfl rfl ?_
      refine LL.val (R.move rfl rfl) rfl rfl rfl ?_
      refine LL.skip rfl rfl ?_
      refine LL.skip rfl rfl ?_
      refine LL.val (R.pick rfl rfl rfl) rfl rfl rfl ?_
      refine LL.val (R.assign rfl rfl) rfl rfl rfl ?_
      refine LL.nilS ?_
      refine CC.ret ?_
      refine EE.ret _ rfl rfl ?_
      exact ⟨rfl, rfl⟩
    · refine X.fn Try.func10 rfl (n := 19) rfl rfl ?_
      refine CC.seq ?_
      refine CC.region ?_
      refine LL.val (R.assign rfl rfl) rfl rfl rfl ?_
      refine LL.nilS ?_
      refine CC.seq ?_
      refine CC.region ?_
      refine LL.val (R.move rfl rfl) rfl rfl rfl ?_
      refine LL.val (R.eqT rfl rfl rfl (by omega)) rfl rfl rfl ?_
      refine LL.val (R.move rfl rfl) rfl rfl rfl ?_
      refine LL.skip rfl rfl ?_
      refine LL.skip rfl rfl ?_
      refine LL.val (R.pick rfl rfl rfl) rfl rfl rfl ?_
      refine LL.val (R.move rfl rfl) rfl rfl rfl ?_
      refine LL.val (R.move rfl rfl) rfl rfl rfl ?_
      refine LL.val (R.geT rfl rfl rfl (by omega)) rfl rfl rfl ?_
      refine LL.val (R.pick rfl rfl rfl) rfl rfl rfl ?_
      refine LL.val (R.move rfl rfl) rfl rfl rfl ?_
      refine LL.val (R.move rfl rfl) rfl rfl rfl ?_
      refine LL.val (R.leF rfl rfl rfl (by omega)) rfl rfl rfl ?_
      refine LL.val (R.pick rfl rfl rfl) rfl rfl rfl ?_
      refine LL.val (R.assign rfl rfl) rfl rfl rfl ?_
      refine LL.nilS ?_
      refine CC.ret ?_
      refine EE.ret _ rfl rfl ?_
      exact ⟨rfl, rfl⟩
  by_cases h2 : way = 2
  · subst h2
    replace h : slots < 2 ∨ 28 < slots := by omega
    by_cases h2 : slots < 2
    · refine X.fn Try.func10 rfl (n := 19) rfl rfl ?_
      refine CC.seq ?_
      refine CC.region ?_
      refine LL.val (R.assign rfl rfl) rfl rfl rfl ?_
      refine LL.nilS ?_
      refine CC.seq ?_
      refine CC.region ?_
      refine LL.val (R.move rfl rfl) rfl rfl rfl ?_
      refine LL.val (R.eqF rfl rfl rfl (by omega)) rfl rfl rfl ?_
      refine LL.val (R.move rfl rfl) rfl rfl rfl ?_
      refine LL.val (R.move rfl rfl) rfl rfl rfl ?_
      refine LL.val (R.eqT rfl rfl rfl (by omega)) rfl rfl rfl ?_
      refine LL.val (R.pick rfl rfl rfl) rfl rfl rfl ?_
      refine LL.val (R.move rfl rfl) rfl rfl rfl ?_
      refine LL.val (R.move rfl rfl) rfl rfl rfl ?_
      refine LL.val (R.geF rfl rfl rfl (by omega)) rfl rfl rfl ?_
      refine LL.val (R.pick rfl rfl rfl) rfl rfl rfl ?_
      refine LL.val (R.move rfl rfl) rfl rfl rfl ?_
      refine LL.skip rfl rfl ?_
      refine LL.skip rfl rfl ?_
      refine LL.val (R.pick rfl rfl rfl) rfl rfl rfl ?_
      refine LL.val (R.assign rfl rfl) rfl rfl rfl ?_
      refine LL.nilS ?_
      refine CC.ret ?_
      refine EE.ret _ rfl rfl ?_
      exact ⟨rfl, rfl⟩
    · refine X.fn Try.func10 rfl (n := 19) rfl rfl ?_
      refine CC.seq ?_
      refine CC.region ?_
      refine LL.val (R.assign rfl rfl) rfl rfl rfl ?_
      refine LL.nilS ?_
      refine CC.seq ?_
      refine CC.region ?_
      refine LL.val (R.move rfl rfl) rfl rfl rfl ?_
      refine LL.val (R.eqF rfl rfl rfl (by omega)) rfl rfl rfl ?_
      refine LL.val (R.move rfl rfl) rfl rfl rfl ?_
      refine LL.val (R.move rfl rfl) rfl rfl rfl ?_
      refine LL.val (R.eqT rfl rfl rfl (by omega)) rfl rfl rfl ?_
      refine LL.val (R.pick rfl rfl rfl) rfl rfl rfl ?_
      refine LL.val (R.move rfl rfl) rfl rfl rfl ?_
      refine LL.val (R.move rfl rfl) rfl rfl rfl ?_
      refine LL.val (R.geT rfl rfl rfl (by omega)) rfl rfl rfl ?_
      refine LL.val (R.pick rfl rfl rfl) rfl rfl rfl ?_
      refine LL.val (R.move rfl rfl) rfl rfl rfl ?_
      refine LL.val (R.move rfl rfl) rfl rfl rfl ?_
      refine LL.val (R.leF rfl rfl rfl (by omega)) rfl rfl rfl ?_
      refine LL.val (R.pick rfl rfl rfl) rfl rfl rfl ?_
      refine LL.val (R.assign rfl rfl) rfl rfl rfl ?_
      refine LL.nilS ?_
      refine CC.ret ?_
      refine EE.ret _ rfl rfl ?_
      exact ⟨rfl, rfl⟩
  clear h
  refine X.fn Try.func10 rfl (n := 19) rfl rfl ?_
  refine CC.seq ?_
  refine CC.region ?_
  refine LL.val (R.assign rfl rfl) rfl rfl rfl ?_
  refine LL.nilS ?_
  refine CC.seq ?_
  refine CC.region ?_
  refine LL.val (R.move rfl rfl) rfl rfl rfl ?_
  refine LL.val (R.eqF rfl rfl rfl (by omega)) rfl rfl rfl ?_
  refine LL.val (R.move rfl rfl) rfl rfl rfl ?_
  refine LL.val (R.move rfl rfl) rfl rfl rfl ?_
  refine LL.val (R.eqF rfl rfl rfl (by omega)) rfl rfl rfl ?_
  refine LL.val (R.pick rfl rfl rfl) rfl rfl rfl ?_
  refine LL.val (R.move rfl rfl) rfl rfl rfl ?_
  refine LL.skip rfl rfl ?_
  refine LL.skip rfl rfl ?_
  refine LL.val (R.pick rfl rfl rfl) rfl rfl rfl ?_
  refine LL.val (R.move rfl rfl) rfl rfl rfl ?_
  refine LL.skip rfl rfl ?_
  refine LL.skip rfl rfl ?_
  refine LL.val (R.pick rfl rfl rfl) rfl rfl rfl ?_
  refine LL.val (R.assign rfl rfl) rfl rfl rfl ?_
  refine LL.nilS ?_
  refine CC.ret ?_
  refine EE.ret _ rfl rfl ?_
  exact ⟨rfl, rfl⟩
theorem at_any (left n c : Nat) (a : Option Addr) (s : List Nat) (z : Int) (w : World) (hv : ReadsT uE 1 w (.slice a n c) s) (hn : s.length = n) (hl : n ≤ 1048576) (hz : z < n) : Calls Try.prog 22 #[.int .u64 (left : Int), .slice a n c, .int .i64 z] w fun e w' => e = .returned (.int .u64 (atW left s z : Int)) ∧ w = w' := by
  by_cases h : z < 0
  · rw [show atW left s z = left from if_pos h]
    refine X.fn Try.func22 rfl (n := 14) rfl rfl ?_
    refine CC.seq ?_
    refine CC.region ?_
    refine LL.val (R.assign rfl rfl) rfl rfl rfl ?_
    refine LL.nilS ?_
    refine CC.seq ?_
    refine CC.seq ?_
    refine CC.region ?_
    refine LL.val (R.move rfl rfl) rfl rfl rfl ?_
    refine LL.val (R.ltT rfl rfl rfl (by omega)) rfl rfl rfl ?_
    refine LL.nilS ?_
    refine CC.yes rfl ?_
    refine CC.seq ?_
    refine CC.region ?_
    refine LL.val (R.move rfl rfl) rfl rfl rfl ?_
    refine LL.val (R.assign rfl rfl) rfl rfl rfl ?_
    refine LL.nilS ?_
    refine CC.ret ?_
    refine EE.thenR ?_
    refine EE.ret _ rfl rfl ?_
    exact ⟨rfl, rfl⟩
  obtain ⟨j, rfl⟩ : ∃ j : Nat, z = j := ⟨z.toNat, by omega⟩
  have hj : s[j]? = some (atW left s j) := by
    unfold atW
    rw [if_neg h, Int.toNat_natCast, List.getElem?_eq_getElem (by omega)]
    rfl
  obtain ⟨v, hv'⟩ : ∃ v, atW left s j = v := ⟨_, rfl⟩
  rw [hv'] at hj ⊢
  obtain ⟨bb, off, rfl, lb, hcell⟩ := u_at hv hj
  have hc0 := hcell _ (Below.refl _ _)
  clear hcell
  refine X.fn Try.func22 rfl (n := 14) rfl rfl ?_
  refine CC.seq ?_
  refine CC.region ?_
  refine LL.val (R.assign rfl rfl) rfl rfl rfl ?_
  refine LL.nilS ?_
  refine CC.seq ?_
  refine CC.seq ?_
  refine CC.region ?_
  refine LL.val (R.move rfl rfl) rfl rfl rfl ?_
  refine LL.val (R.ltF rfl rfl rfl (by omega)) rfl rfl rfl ?_
  refine LL.nilS ?_
  refine CC.no rfl ?_
  refine CC.skip ?_
  refine EE.thenN ?_
  refine CC.seq ?_
  refine CC.region ?_
  refine LL.val (R.move rfl rfl) rfl rfl rfl ?_
  refine LL.val (R.move rfl rfl) rfl rfl rfl ?_
  refine LL.val (R.index rfl rfl rfl (I.ixS1 rfl (by omega))) rfl rfl rfl ?_
  refine LL.val (R.load rfl rfl (I.ld1 rfl (by assumption))) rfl rfl rfl ?_
  refine LL.val (R.assign rfl rfl) rfl rfl rfl ?_
  refine LL.nilS ?_
  refine CC.ret ?_
  refine EE.ret _ rfl rfl ?_
  exact ⟨rfl, rfl⟩
abbrev row8 : List Nat := [1, 4, 3, 6, 0, 0, 0, 0]
theorem row_any (w : World) : Calls Try.prog 35 #[] w fun e w' => ∃ g, e = .returned (.slice (some ⟨g, 0, none⟩) 8 8) ∧ ReadsT uE 1 w' (.slice (some ⟨g, 0, none⟩) 8 8) row8 ∧ w.heap.size ≤ g ∧ Below w.heap.size w w' := by
  have q := Below.refl w.heap.size w
  refine X.fn Try.func35 rfl (n := 2) rfl rfl ?_
  refine CC.seq ?_
  refine CC.region ?_
  refine LL.val (R.assign rfl rfl) rfl rfl rfl ?_
  refine LL.nilS ?_
  refine CC.seq ?_
  refine CC.region ?_
  refine LL.lit (e := 23) [Value.int IntKind.u64 1, Value.int IntKind.u64 4, Value.int IntKind.u64 3, Value.int IntKind.u64 6, Value.int IntKind.u64 0, Value.int IntKind.u64 0, Value.int IntKind.u64 0, Value.int IntKind.u64 0] 8 rfl rfl (fun _ => by kernel_rfl) rfl rfl ?_
  intro W2 g3 eg3 r4 z5 b1
  replace q := q.trans (b1.mono q.size)
  refine LL.val (R.assign rfl rfl) rfl rfl rfl ?_
  refine LL.nilS ?_
  refine CC.ret ?_
  refine EE.ret _ rfl rfl ?_
  exact ⟨_, rfl, (RowL.ownsT (base := w.heap.size) (ts := row8) uEnc r4 (by omega) (by simp [maxLen])).reads uEnc, by omega, q⟩
end Go.Proofs.Ytloflmkolnediaa

/- scan: the chapter's rows; ScanNone. -/
namespace Go.Proofs.Ytloflmkolnediaa
set_option linter.unusedVariables false
set_option linter.unusedSimpArgs false
open Go.RowKit Go.Shelf
set_option maxRecDepth 100000
set_option maxHeartbeats 8000000
def zE (z : Int) : List Value := [.int .i64 z]
theorem zEnc : Enc zE 1 := ⟨fun _ => rfl, fun t u hu => by
  simp only [zE, List.mem_singleton] at hu
  subst hu
  rfl, by decide⟩
theorem trF_at (left : Nat) (s : List Nat) : ∀ (n : Nat) (r : Rd), InvR r → ∀ x ∈ trF left s n r, x.2 = atW left s x.1 ∧ -1 ≤ x.1 ∧ x.1 < 2 * (r.slots : Int) := by
  intro n
  induction n with
  | zero => intro r _ x hx; cases hx
  | succ n ih =>
    intro r hi x hx
    unfold trF at hx
    cases hd : r.dn with
    | true => rw [hd] at hx; cases hx
    | false =>
      rw [hd] at hx
      rcases List.mem_cons.1 hx with rfl | hx
      · exact ⟨rfl, want_ge r, want_lt hi⟩
      · have := ih _ (next_inv (left := left) (s := s) hi hd).1 x hx
        rwa [show (nextR left s r).slots = r.slots from (give_key r _).2.1] at this
theorem trS_at {way : Int} {left key : Nat} {s : List Nat} : ∀ x ∈ trS way left s key, x.2 = atW left s x.1 ∧ -1 ≤ x.1 ∧ x.1 < s.length := by
  intro x hx
  unfold trS at hx
  split at hx
  · rename_i h
    obtain ⟨h0, h1, h2, h3, h4⟩ := h
    have hi := (new_inv (up := decide (way = 1)) (slots := s.length / 2) (key := key) (by omega) (by omega)).1
    have := trF_at left s _ _ hi x hx
    refine ⟨this.1, this.2.1, ?_⟩
    have e : (newR (decide (way = 1)) (s.length / 2) key).slots = s.length / 2 := by unfold newR; split <;> rfl
    rw [e] at this
    omega
  · cases hx
theorem loads_T (way : Int) (a : Option Addr) (n c : Nat) (L : List Int) (w : World) (hv : ReadsT zE 1 w (.slice a n c) L) (hn : L.length = n) (hl : n ≤ 1000) (hL : (trS way 9 row8 3).map (·.1) = L) : Calls Try.prog 36 #[.int .i64 way, .slice a n c] w fun e w' => e = .returned (.bool true) ∧ Below w.heap.size w w' := by
  have q := Below.refl w.heap.size w
  have hvF : ∀ X, Below w.heap.size w X → ReadsT zE 1 X (.slice a n c) L := fun X b => hv.up b
  clear hv
  refine X.fnM Try.func36 rfl (n := 42) rfl rfl ?_
  refine CC.seq ?_
  refine CC.region ?_
  refine LL.box [Value.slice a n c] rfl rfl rfl rfl rfl ?_
  intro W16 g17 eg17 r18 z19 b15
  replace q := q.trans (b15.mono q.size)
  have l36 := r18.lt
  refine LL.alloc ([Value.bool false]) rfl rfl rfl rfl rfl ?_
  intro W38 g39 eg39 r40 z41 b37
  replace r18 := r18.up b37
  replace b15 := b15.trans (b37.mono b15.size)
  replace q := q.trans (b37.mono q.size)
  refine LL.nilS ?_
  refine CC.seq ?_
  refine CC.region ?_
  refine LL.val (R.move rfl rfl) rfl rfl rfl ?_
  have l64 := r40.lt
  have l65 := r18.lt
  (refine LL.call (R.call rfl rfl rfl) rfl rfl rfl (row_any _) ?_; rintro e W63 ⟨gr, rfl, rv, hgr, b60⟩; refine ⟨_, rfl, ?_⟩)
  have zb60 := b60.size
  replace r40 := r40.up b60
  replace b37 := b37.trans (b60.mono b37.size)
  replace r18 := r18.up b60
  replace b15 := b15.trans (b60.mono b15.size)
  replace q := q.trans (b60.mono q.size)
  have l82 := r40.lt
  have l83 := r18.lt
  (refine LL.call (R.call rfl rfl rfl) rfl rfl rfl (trace_any way 9 8 8 3 _ row8 _ rv rfl (by omega)) ?_; rintro e W81 ⟨lb, D, rfl, hG, hDb, b78⟩; refine ⟨_, rfl, ?_⟩)
  have zb78 := b78.size
  replace rv := rv.up b78
  replace b60 := b60.trans (b78.mono b60.size)
  replace r40 := r40.up b78
  replace b37 := b37.trans (b78.mono b37.size)
  replace r18 := r18.up b78
  replace b15 := b15.trans (b78.mono b15.size)
  replace q := q.trans (b78.mono q.size)
  refine LL.val (R.assign rfl rfl) rfl rfl rfl ?_
  refine LL.nilS ?_
  refine CC.seq ?_
  refine CC.seq ?_
  refine CC.region ?_
  refine LL.val (R.move rfl rfl) rfl rfl rfl ?_
  refine LL.val (R.eqFn rfl rfl rfl rfl) rfl rfl rfl ?_
  refine LL.nilS ?_
  refine CC.no rfl ?_
  refine CC.skip ?_
  refine EE.thenN ?_
  refine CC.seq ?_
  refine CC.region ?_
  have l159 := r40.lt
  have l160 := r18.lt
  refine LL.alloc ([Value.int IntKind.i64 0]) rfl rfl rfl rfl rfl ?_
  intro W162 g163 eg163 r164 z165 b161
  replace b78 := b78.trans (b161.mono b78.size)
  replace rv := rv.up b161
  replace b60 := b60.trans (b161.mono b60.size)
  replace r40 := r40.up b161
  replace b37 := b37.trans (b161.mono b37.size)
  replace r18 := r18.up b161
  replace b15 := b15.trans (b161.mono b15.size)
  replace q := q.trans (b161.mono q.size)
  refine LL.store rfl rfl rfl rfl r164 (by exact Nat.le_of_ble_eq_true rfl) rfl rfl rfl rfl ?_
  intro W187 r188 b186 z189
  have hlb186 := r164.lt
  replace r188 : RowL W187 _ 3 [Value.int IntKind.i64 0] := r188
  clear r164
  replace b161 := b161.grown b186 b161.size (by rintro k ⟨⟩; omega)
  replace b78 := b78.grown b186 b78.size (by rintro k ⟨⟩; omega)
  replace b60 := b60.grown b186 b60.size (by rintro k ⟨⟩; omega)
  replace r40 := r40.gr b186 (by have := r40.lt; omega)
  replace b37 := b37.grown b186 b37.size (by rintro k ⟨⟩; omega)
  replace r18 := r18.gr b186 (by have := r18.lt; omega)
  replace b15 := b15.grown b186 b15.size (by rintro k ⟨⟩; omega)
  replace q := q.grown b186 q.size (by rintro k ⟨⟩; omega)
  have r164 := r188
  clear r188
  refine LL.nilS ?_
  refine CC.seq ?_
  refine CC.seq ?_
  refine CC.region ?_
  refine LL.val (R.move rfl rfl) rfl rfl rfl ?_
  refine LL.nilS ?_
  refine CC.block ?_
  obtain ⟨W0, eW⟩ : ∃ X, X = W187 := ⟨_, rfl⟩
  obtain ⟨gw, ew⟩ : ∃ g, g = g17 := ⟨_, rfl⟩
  obtain ⟨gs, es⟩ : ∃ g, g = g39 := ⟨_, rfl⟩
  obtain ⟨gn, en⟩ : ∃ g, g = g163 := ⟨_, rfl⟩
  have rw1 := r18
  have rs1 := r40
  have rn1 := r164
  have hBt := b161
  subst eW ew es en
  have hDk : ∀ k, D k → k < gn := fun k hk => by have := hDb k hk; omega
  have yq := q.size
  have lw := rw1.lt
  have ls := rs1.lt
  have ln := rn1.lt
  have hlen : (trS way 9 row8 3).length = n := by rw [← hn, ← hL, List.length_map]
  clear r18 r40 r164 rv b15 b37 b60 b78 b161
  refine CC.rangeZ (γ := Unit) (gf := 47) (lb := lb) (encs := lwE) rfl rfl hG hBt (fun k hk => by have := hDk k hk; omega) (fun _ => rfl) rfl
    (fun m pre W' => Below w.heap.size w W' ∧ RowL W' gn 3 [.int .i64 (pre.length : Int)] ∧ RowL W' gw 64 [.slice a n c] ∧ RowL W' gs 4 [.bool false]) (fun _ _ _ => False)
    (fun W' => Below w.heap.size w W' ∧ RowL W' gn 3 [.int .i64 (n : Int)] ∧ RowL W' gw 64 [.slice a n c] ∧ RowL W' gs 4 [.bool false])
    (fun m m' p X Y hs ht hm => ⟨hs.1.trans (ht.below yq hs.1.size), ht.row hs.2.1 (.inl ln), ht.row hs.2.2.1 (.inl lw), ht.row hs.2.2.2 (.inl ls)⟩)
    (fun m m' p X Y hs ht hm => hs)
    ⟨q, rn1, rw1, rs1⟩ (fun m xs W' hS hi => by rw [hS, hlen] at hi; exact hi) (fun m pre W' hp hi => hi.elim)
    (fun x _ => sl [(3, .pointer (some ⟨gw, 0, none⟩)), (4, .pointer (some ⟨gs, 0, none⟩)), (6, .pointer (some ⟨gn, 0, none⟩)), (7, .int .i64 x.1), (8, .int .u64 (x.2 : Int))]) (fun _ _ _ => True) (fun _ _ => fun _ _ _ _ _ _ _ => trivial) ?assign ?body ?after
  case assign =>
    rintro l' m pre x W Kc hm h1 hKc
    refine CC.seq ?_
    refine CC.region ?_
    refine LL.val (R.assign rfl rfl) rfl rfl rfl ?_
    refine LL.nilS ?_
    refine CC.region ?_
    refine LL.val (R.assign rfl rfl) rfl rfl rfl ?_
    refine LL.nil ?_
    exact EE.thenK fun a' F => hKc a' _ () (StaysZ.refl _ _ _) (Keeps.refl _ _) h1 (F.keep _ ⟨rfl, rfl, rfl, rfl, rfl, trivial⟩) trivial
  case body =>
    clear q rn1 rw1 rs1 hG hBt
    rintro l' m pre ⟨x, v⟩ _ W hm hl' hrl ⟨q, rn1, rw1, rs1⟩ _ ⟨xs, hxs, tt, hp⟩
    subst hxs
    have hget : (trS way 9 row8 3)[pre.length]? = some (x, v) := by rw [← hp]; simp
    have hx := trS_at _ (List.mem_of_getElem? hget)
    have hpk : pre.length < n := by rw [← hlen]; exact (List.getElem?_eq_some_iff.1 hget).1
    have hg2 : L[pre.length]? = some x := by rw [← hL, List.getElem?_map, hget]; rfl
    have hxd : (pre ++ [(x, v)]).length = pre.length + 1 := by simp
    obtain ⟨b1, o1, rfl, _, hc1⟩ := (hvF _ q).one zEnc hg2
    have c1 := hc1 _ rfl
    obtain ⟨h1, h2, h3⟩ := hx
    simp only at h1 h2 h3
    have h3' : x < ((8 : Nat) : Int) := h3
    have st := StaysZ.refl W0.heap.size m W
    have kp := Keeps.refl D W
    have yz := q.size
    have lW : W0.heap.size ≤ W.heap.size := by
      obtain ⟨r, hr⟩ := hrl
      have := (Array.getElem?_eq_some_iff.1 hr).1
      omega
    have hDn : ∀ k, D k → k < gn ∧ k ≠ gn := fun k hk => by have := hDk k hk; omega
    clear hc1 hp hget hlen hL h3 hrl
    refine CC.block ?_
    refine CC.seq ?_
    refine CC.seq ?_
    refine CC.region ?_
    refine LL.val (R.load rfl rfl (I.ld1 rfl (RowL.cell rn1 rfl))) rfl rfl rfl ?_
    refine LL.val (R.load rfl rfl (I.ld1 rfl (RowL.cell rw1 rfl))) rfl rfl rfl ?_
    refine LL.val (R.len rfl rfl rfl rfl) rfl rfl rfl ?_
    refine LL.val (R.geF rfl rfl rfl (by omega)) rfl rfl rfl ?_
    refine LL.val (R.move rfl rfl) rfl rfl rfl ?_
    refine LL.val (R.move rfl rfl) rfl rfl rfl ?_
    refine LL.val (R.load rfl rfl (I.ld1 rfl (RowL.cell rw1 rfl))) rfl rfl rfl ?_
    refine LL.val (R.load rfl rfl (I.ld1 rfl (RowL.cell rn1 rfl))) rfl rfl rfl ?_
    refine LL.val (R.index rfl rfl rfl (I.ixS1 rfl (by omega))) rfl rfl rfl ?_
    refine LL.val (R.load rfl rfl (I.ld1 rfl (by assumption))) rfl rfl rfl ?_
    refine LL.val (R.neF rfl rfl rfl (by omega)) rfl rfl rfl ?_
    refine LL.val (R.pick rfl rfl rfl) rfl rfl rfl ?_
    refine LL.val (R.move rfl rfl) rfl rfl rfl ?_
    refine LL.val (R.move rfl rfl) rfl rfl rfl ?_
    have lb145 := rn1.lt
    have lb146 := rs1.lt
    have lb147 := rw1.lt
    (refine LL.call (R.call rfl rfl rfl) rfl rfl rfl (row_any _) ?_; rintro e Wb144 ⟨gr2, rfl, rv2, hgr2, bb141⟩; refine ⟨_, rfl, ?_⟩)
    have zbb141 := bb141.size
    replace q := q.trans (bb141.mono q.size)
    replace rn1 := rn1.up bb141
    replace rs1 := rs1.up bb141
    replace rw1 := rw1.up bb141
    replace c1 := cell_up c1 bb141
    replace st := st.trans (StaysZ.of_below bb141)
    replace kp := kp.trans (Keeps.of_below (fun k hk => by have := hDk k hk; omega) bb141)
    refine LL.val (R.move rfl rfl) rfl rfl rfl ?_
    (refine LL.call (R.call rfl rfl rfl) rfl rfl rfl (at_any 9 8 8 _ row8 x _ rv2 rfl (by omega) h3') ?_; rintro e W' ⟨rfl, rfl⟩; rw [← h1]; refine ⟨_, rfl, ?_⟩)
    refine LL.val (R.neF rfl rfl rfl (by omega)) rfl rfl rfl ?_
    refine LL.val (R.pick rfl rfl rfl) rfl rfl rfl ?_
    refine LL.nilS ?_
    refine CC.no rfl ?_
    refine CC.skip ?_
    refine EE.thenN ?_
    refine CC.region ?_
    refine LL.val (R.load rfl rfl (I.ld1 rfl (RowL.cell rn1 rfl))) rfl rfl rfl ?_
    refine LL.val (R.addNc rfl rfl rfl rfl (by omega)) rfl rfl rfl ?_
    refine LL.store rfl rfl rfl rfl rn1 (by exact Nat.le_of_ble_eq_true rfl) rfl rfl rfl rfl ?_
    intro Wb222 rb223 bb221 zb224
    have hlbb221 := rn1.lt
    replace rb223 : RowL Wb222 _ 3 [Value.int IntKind.i64 ↑(pre.length + 1)] := rb223
    clear rn1
    replace rv2 := rv2.gr bb221 (by omega)
    replace q := q.grown bb221 q.size (by rintro k ⟨⟩; omega)
    replace rs1 := rs1.gr bb221 (by have := rs1.lt; omega)
    replace rw1 := rw1.gr bb221 (by have := rw1.lt; omega)
    replace st := st.trans (StaysZ.of_grown bb221 (by omega))
    replace kp := kp.trans (Keeps.of_grown bb221 fun k hk => by have := hDk k hk; omega)
    have rn1 := rb223
    clear rb223
    refine LL.nil ?_
    refine EE.inN ?_
    exact EE.roundNZ ⟨st, kp, q, by rw [hxd]; exact rn1, rw1, rs1⟩
  case after =>
    clear q rn1 rw1 rs1 hG hBt
    rintro E W hE ⟨q, rn1, rw1, rs1⟩ hE1
    have eE := (Array.getElem?_eq_some_iff.1 hE1).1
    have hE9 : gs ≠ E := by omega
    refine EE.thenN ?_
    refine CC.seq ?_
    refine CC.region ?_
    refine LL.val (R.load rfl rfl (I.ld1 rfl (RowL.cell rn1 rfl))) rfl rfl rfl ?_
    refine LL.val (R.load rfl rfl (I.ld1 rfl (RowL.cell rw1 rfl))) rfl rfl rfl ?_
    refine LL.val (R.len rfl rfl rfl rfl) rfl rfl rfl ?_
    refine LL.val (R.eqT rfl rfl rfl (by omega)) rfl rfl rfl ?_
    refine LL.store rfl rfl rfl rfl rs1 (by exact Nat.le_of_ble_eq_true rfl) rfl rfl rfl rfl ?_
    intro Wc2 rc3 bc1 zc4
    have hlbc1 := rs1.lt
    replace rc3 : RowL Wc2 _ 4 [Value.bool true] := rc3
    clear rs1
    replace q := q.grown bc1 q.size (by rintro k ⟨⟩; omega)
    replace rn1 := rn1.gr bc1 (by have := rn1.lt; omega)
    replace rw1 := rw1.gr bc1 (by have := rw1.lt; omega)
    replace hE1 := (bc1.block _ (Array.getElem?_eq_some_iff.1 hE1).1 (by simp; omega)).trans hE1
    have rs1 := rc3
    clear rc3
    refine LL.nilS ?_
    refine CC.ret ?_
    refine EE.retN1 hE1 rfl ⟨_, rfl, lv1 rfl (RowL.cell (taken_up (by assumption) (by omega)) rfl)⟩ ?_
    exact ⟨rfl, taken_bel q (by omega) (Nat.le_refl _)⟩
theorem lits_1 : (trS 1 9 row8 3).map (·.1) = [0, 1, 2, 1, 3, 2] := by decide
theorem lits_2 : (trS 2 9 row8 3).map (·.1) = [6, 4, 2, 3, 1, 2] := by decide
theorem look_1 : (lookR true 9 row8 3).found = 6 ∧ (lookR true 9 row8 3).is = true ∧ (lookR true 9 row8 5).found = 0 ∧ (lookR true 9 row8 5).is = false := by decide
theorem row_ok : rowOk 9 8 := by decide
theorem works_any (w : World) : Calls Try.prog 8 #[] w fun e w' => e = .returned (.bool true) ∧ Below w.heap.size w w' := by
  have q := Below.refl w.heap.size w
  obtain ⟨k1, k2, k3, k4⟩ := look_1
  have hk3 : ∀ (gr : Nat) (W : World), ReadsT uE 1 W (.slice (some ⟨gr, 0, none⟩) 8 8) row8 → Calls Try.prog 17 #[.int .i64 1, .int .u64 9, .slice (some ⟨gr, 0, none⟩) 8 8, .int .u64 3] W fun e w' => e = .returned (.tuple #[.int .u64 6, .bool true]) ∧ Below W.heap.size W w' := fun gr W hv => by
    have := look_T true 9 8 8 3 _ row8 W hv rfl row_ok
    rw [k1, k2] at this
    exact this
  have hk5 : ∀ (gr : Nat) (W : World), ReadsT uE 1 W (.slice (some ⟨gr, 0, none⟩) 8 8) row8 → Calls Try.prog 17 #[.int .i64 1, .int .u64 9, .slice (some ⟨gr, 0, none⟩) 8 8, .int .u64 5] W fun e w' => e = .returned (.tuple #[.int .u64 0, .bool false]) ∧ Below W.heap.size W w' := fun gr W hv => by
    have := look_T true 9 8 8 5 _ row8 W hv rfl row_ok
    rw [k3, k4] at this
    exact this
  have hnew : ∀ W : World, Calls Try.prog 9 #[.int .i64 1, .int .i64 1, .int .u64 0] W fun e w' => e = .returned (.tuple #[.pointer none, .int .i64 2]) ∧ Below W.heap.size W w' := fun W => new_F 1 1 0 W (by omega)
  clear k1 k2 k3 k4
  refine X.fn Try.func8 rfl (n := 43) rfl rfl ?_
  refine CC.seq ?_
  refine CC.region ?_
  refine LL.val (R.assign rfl rfl) rfl rfl rfl ?_
  refine LL.nilS ?_
  refine CC.seq ?_
  refine CC.region ?_
  (refine LL.call (R.call rfl rfl rfl) rfl rfl rfl (row_any _) ?_; rintro e W46 ⟨gr2, rfl, rv2, hgr2, b43⟩; refine ⟨_, rfl, ?_⟩)
  have zb43 := b43.size
  replace q := q.trans (b43.mono q.size)
  (refine LL.call (R.call rfl rfl rfl) rfl rfl rfl (hk3 _ _ rv2) ?_; rintro e W60 ⟨rfl, b57⟩; refine ⟨_, rfl, ?_⟩)
  have zb57 := b57.size
  replace rv2 := rv2.up b57
  replace b43 := b43.trans (b57.mono b43.size)
  replace q := q.trans (b57.mono q.size)
  refine LL.val (R.move rfl rfl) rfl rfl rfl ?_
  refine LL.val (R.extract rfl rfl rfl) rfl rfl rfl ?_
  refine LL.val (R.extract rfl rfl rfl) rfl rfl rfl ?_
  refine LL.val (R.assign rfl rfl) rfl rfl rfl ?_
  refine LL.val (R.assign rfl rfl) rfl rfl rfl ?_
  refine LL.nilS ?_
  refine CC.seq ?_
  refine CC.region ?_
  (refine LL.call (R.call rfl rfl rfl) rfl rfl rfl (row_any _) ?_; rintro e W277 ⟨gr2, rfl, rv2, hgr2, b274⟩; refine ⟨_, rfl, ?_⟩)
  have zb274 := b274.size
  replace b57 := b57.trans (b274.mono b57.size)
  replace b43 := b43.trans (b274.mono b43.size)
  replace q := q.trans (b274.mono q.size)
  (refine LL.call (R.call rfl rfl rfl) rfl rfl rfl (hk5 _ _ rv2) ?_; rintro e W298 ⟨rfl, b295⟩; refine ⟨_, rfl, ?_⟩)
  have zb295 := b295.size
  replace rv2 := rv2.up b295
  replace b274 := b274.trans (b295.mono b274.size)
  replace b57 := b57.trans (b295.mono b57.size)
  replace b43 := b43.trans (b295.mono b43.size)
  replace q := q.trans (b295.mono q.size)
  refine LL.val (R.move rfl rfl) rfl rfl rfl ?_
  refine LL.val (R.extract rfl rfl rfl) rfl rfl rfl ?_
  refine LL.val (R.extract rfl rfl rfl) rfl rfl rfl ?_
  refine LL.val (R.assign rfl rfl) rfl rfl rfl ?_
  refine LL.val (R.assign rfl rfl) rfl rfl rfl ?_
  refine LL.nilS ?_
  refine CC.seq ?_
  refine CC.region ?_
  (refine LL.call (R.call rfl rfl rfl) rfl rfl rfl (hnew _) ?_; rintro e W536 ⟨rfl, b533⟩; refine ⟨_, rfl, ?_⟩)
  have zb533 := b533.size
  replace b295 := b295.trans (b533.mono b295.size)
  replace rv2 := rv2.up b533
  replace b274 := b274.trans (b533.mono b274.size)
  replace b57 := b57.trans (b533.mono b57.size)
  replace b43 := b43.trans (b533.mono b43.size)
  replace q := q.trans (b533.mono q.size)
  refine LL.val (R.move rfl rfl) rfl rfl rfl ?_
  refine LL.val (R.extract rfl rfl rfl) rfl rfl rfl ?_
  refine LL.val (R.extract rfl rfl rfl) rfl rfl rfl ?_
  refine LL.val (R.assign rfl rfl) rfl rfl rfl ?_
  refine LL.val (R.assign rfl rfl) rfl rfl rfl ?_
  refine LL.nilS ?_
  refine CC.seq ?_
  refine CC.region ?_
  refine LL.lit (e := 3) [Value.int IntKind.i64 0, Value.int IntKind.i64 1, Value.int IntKind.i64 2, Value.int IntKind.i64 1, Value.int IntKind.i64 3, Value.int IntKind.i64 2] 6 rfl rfl (fun _ => by kernel_rfl) rfl rfl ?_
  intro W793 g794 eg794 r795 z796 b792
  replace b533 := b533.trans (b792.mono b533.size)
  replace b295 := b295.trans (b792.mono b295.size)
  replace rv2 := rv2.up b792
  replace b274 := b274.trans (b792.mono b274.size)
  replace b57 := b57.trans (b792.mono b57.size)
  replace b43 := b43.trans (b792.mono b43.size)
  replace q := q.trans (b792.mono q.size)
  have l833 := r795.lt
  (refine LL.call (R.call rfl rfl rfl) rfl rfl rfl (loads_T 1 _ 6 6 [0, 1, 2, 1, 3, 2] _ ((RowL.ownsT (base := 0) (ts := [0, 1, 2, 1, 3, 2]) zEnc (by assumption) (by omega) (by simp [maxLen])).reads zEnc) rfl (by omega) lits_1) ?_; rintro e W832 ⟨rfl, b829⟩; refine ⟨_, rfl, ?_⟩)
  have zb829 := b829.size
  replace r795 := r795.up b829
  replace b792 := b792.trans (b829.mono b792.size)
  replace b533 := b533.trans (b829.mono b533.size)
  replace b295 := b295.trans (b829.mono b295.size)
  replace rv2 := rv2.up b829
  replace b274 := b274.trans (b829.mono b274.size)
  replace b57 := b57.trans (b829.mono b57.size)
  replace b43 := b43.trans (b829.mono b43.size)
  replace q := q.trans (b829.mono q.size)
  refine LL.val (R.move rfl rfl) rfl rfl rfl ?_
  have l933 := r795.lt
  refine LL.lit (e := 3) [Value.int IntKind.i64 6, Value.int IntKind.i64 4, Value.int IntKind.i64 2, Value.int IntKind.i64 3, Value.int IntKind.i64 1, Value.int IntKind.i64 2] 6 rfl rfl (fun _ => by kernel_rfl) rfl rfl ?_
  intro W935 g936 eg936 r937 z938 b934
  replace b829 := b829.trans (b934.mono b829.size)
  replace r795 := r795.up b934
  replace b792 := b792.trans (b934.mono b792.size)
  replace b533 := b533.trans (b934.mono b533.size)
  replace b295 := b295.trans (b934.mono b295.size)
  replace rv2 := rv2.up b934
  replace b274 := b274.trans (b934.mono b274.size)
  replace b57 := b57.trans (b934.mono b57.size)
  replace b43 := b43.trans (b934.mono b43.size)
  replace q := q.trans (b934.mono q.size)
  have l988 := r937.lt
  have l989 := r795.lt
  (refine LL.call (R.call rfl rfl rfl) rfl rfl rfl (loads_T 2 _ 6 6 [6, 4, 2, 3, 1, 2] _ ((RowL.ownsT (base := 0) (ts := [6, 4, 2, 3, 1, 2]) zEnc (by assumption) (by omega) (by simp [maxLen])).reads zEnc) rfl (by omega) lits_2) ?_; rintro e W987 ⟨rfl, b984⟩; refine ⟨_, rfl, ?_⟩)
  have zb984 := b984.size
  replace r937 := r937.up b984
  replace b934 := b934.trans (b984.mono b934.size)
  replace b829 := b829.trans (b984.mono b829.size)
  replace r795 := r795.up b984
  replace b792 := b792.trans (b984.mono b792.size)
  replace b533 := b533.trans (b984.mono b533.size)
  replace b295 := b295.trans (b984.mono b295.size)
  replace rv2 := rv2.up b984
  replace b274 := b274.trans (b984.mono b274.size)
  replace b57 := b57.trans (b984.mono b57.size)
  replace b43 := b43.trans (b984.mono b43.size)
  replace q := q.trans (b984.mono q.size)
  refine LL.val (R.pick rfl rfl rfl) rfl rfl rfl ?_
  refine LL.val (R.move rfl rfl) rfl rfl rfl ?_
  refine LL.val (R.move rfl rfl) rfl rfl rfl ?_
  refine LL.val (R.eqT rfl rfl rfl (by omega)) rfl rfl rfl ?_
  refine LL.val (R.pick rfl rfl rfl) rfl rfl rfl ?_
  refine LL.val (R.move rfl rfl) rfl rfl rfl ?_
  refine LL.val (R.move rfl rfl) rfl rfl rfl ?_
  refine LL.val (R.pick rfl rfl rfl) rfl rfl rfl ?_
  refine LL.val (R.move rfl rfl) rfl rfl rfl ?_
  refine LL.val (R.move rfl rfl) rfl rfl rfl ?_
  refine LL.val (R.not rfl rfl) rfl rfl rfl ?_
  refine LL.val (R.pick rfl rfl rfl) rfl rfl rfl ?_
  refine LL.val (R.move rfl rfl) rfl rfl rfl ?_
  refine LL.val (R.move rfl rfl) rfl rfl rfl ?_
  refine LL.call (R.call rfl rfl rfl) rfl rfl rfl (num_any _ _) ?_
  rintro e W' ⟨rfl, rfl⟩
  refine ⟨_, rfl, ?_⟩
  refine LL.val (R.eqT rfl rfl rfl (by omega)) rfl rfl rfl ?_
  refine LL.val (R.pick rfl rfl rfl) rfl rfl rfl ?_
  refine LL.val (R.assign rfl rfl) rfl rfl rfl ?_
  refine LL.nilS ?_
  refine CC.ret ?_
  refine EE.ret _ rfl rfl ?_
  exact ⟨rfl, q⟩
theorem nones_walk (v : Int) (w : World) : Calls Try.prog 5 #[.int .u64 v] w fun e w' => e = .returned (.bool true) ∧ Below w.heap.size w w' := by
  have q := Below.refl w.heap.size w
  refine X.fn Try.func5 rfl (n := 96) rfl rfl ?_
  refine CC.seq ?_
  refine CC.region ?_
  refine LL.val (R.assign rfl rfl) rfl rfl rfl ?_
  refine LL.nilS ?_
  refine CC.seq ?_
  refine CC.region ?_
  refine LL.val (R.assign rfl rfl) rfl rfl rfl ?_
  refine LL.nilS ?_
  refine CC.seq ?_
  refine CC.region ?_
  refine LL.val (R.buildV rfl rfl (v := .agg #[Value.int IntKind.u64 0, Value.int IntKind.i64 0, Value.int IntKind.i64 0, Value.int IntKind.u64 0, Value.int IntKind.u64 0, Value.int IntKind.i64 0, Value.int IntKind.i64 0, Value.int IntKind.u64 0, Value.bool false, Value.bool false, Value.int IntKind.i64 0, Value.nilFunc]) (fun _ => by kernel_rfl)) rfl rfl rfl ?_
  refine LL.box [Value.int IntKind.u64 0, Value.int IntKind.i64 0, Value.int IntKind.i64 0, Value.int IntKind.u64 0, Value.int IntKind.u64 0, Value.int IntKind.i64 0, Value.int IntKind.i64 0, Value.int IntKind.u64 0, Value.bool false, Value.bool false, Value.int IntKind.i64 0, Value.nilFunc] rfl rfl rfl rfl rfl ?_
  intro W30 g31 eg31 r32 z33 b29
  replace q := q.trans (b29.mono q.size)
  refine LL.val (R.assign rfl rfl) rfl rfl rfl ?_
  refine LL.nilS ?_
  refine CC.seq ?_
  refine CC.region ?_
  refine LL.val (R.move rfl rfl) rfl rfl rfl ?_
  (refine LL.call (R.call rfl rfl rfl) rfl rfl rfl (wants_0) ?_; rintro e W' ⟨rfl, rfl⟩; refine ⟨_, rfl, ?_⟩)
  refine LL.val (R.move rfl rfl) rfl rfl rfl ?_
  refine LL.val (R.extract rfl rfl rfl) rfl rfl rfl ?_
  refine LL.val (R.extract rfl rfl rfl) rfl rfl rfl ?_
  refine LL.val (R.assign rfl rfl) rfl rfl rfl ?_
  refine LL.val (R.assign rfl rfl) rfl rfl rfl ?_
  refine LL.nilS ?_
  refine CC.seq ?_
  refine CC.region ?_
  refine LL.val (R.move rfl rfl) rfl rfl rfl ?_
  (refine LL.call (R.call rfl rfl rfl) rfl rfl rfl (wants_Z _ (by assumption)) ?_; rintro e W' ⟨rfl, rfl⟩; refine ⟨_, rfl, ?_⟩)
  refine LL.val (R.move rfl rfl) rfl rfl rfl ?_
  refine LL.val (R.extract rfl rfl rfl) rfl rfl rfl ?_
  refine LL.val (R.extract rfl rfl rfl) rfl rfl rfl ?_
  refine LL.val (R.assign rfl rfl) rfl rfl rfl ?_
  refine LL.val (R.assign rfl rfl) rfl rfl rfl ?_
  refine LL.nilS ?_
  refine CC.seq ?_
  refine CC.region ?_
  refine LL.val (R.move rfl rfl) rfl rfl rfl ?_
  (refine LL.call (R.call rfl rfl rfl) rfl rfl rfl (found_0) ?_; rintro e W' ⟨rfl, rfl⟩; refine ⟨_, rfl, ?_⟩)
  refine LL.val (R.move rfl rfl) rfl rfl rfl ?_
  refine LL.val (R.extract rfl rfl rfl) rfl rfl rfl ?_
  refine LL.val (R.extract rfl rfl rfl) rfl rfl rfl ?_
  refine LL.val (R.extract rfl rfl rfl) rfl rfl rfl ?_
  refine LL.val (R.assign rfl rfl) rfl rfl rfl ?_
  refine LL.val (R.assign rfl rfl) rfl rfl rfl ?_
  refine LL.val (R.assign rfl rfl) rfl rfl rfl ?_
  refine LL.nilS ?_
  refine CC.seq ?_
  refine CC.region ?_
  refine LL.val (R.move rfl rfl) rfl rfl rfl ?_
  (refine LL.call (R.call rfl rfl rfl) rfl rfl rfl (found_Z _ (by assumption)) ?_; rintro e W' ⟨rfl, rfl⟩; refine ⟨_, rfl, ?_⟩)
  refine LL.val (R.move rfl rfl) rfl rfl rfl ?_
  refine LL.val (R.extract rfl rfl rfl) rfl rfl rfl ?_
  refine LL.val (R.extract rfl rfl rfl) rfl rfl rfl ?_
  refine LL.val (R.extract rfl rfl rfl) rfl rfl rfl ?_
  refine LL.val (R.assign rfl rfl) rfl rfl rfl ?_
  refine LL.val (R.assign rfl rfl) rfl rfl rfl ?_
  refine LL.val (R.assign rfl rfl) rfl rfl rfl ?_
  refine LL.nilS ?_
  refine CC.seq ?_
  refine CC.region ?_
  refine LL.val (R.move rfl rfl) rfl rfl rfl ?_
  refine LL.val (R.move rfl rfl) rfl rfl rfl ?_
  (refine LL.call (R.call rfl rfl rfl) rfl rfl rfl (givN_0 _) ?_; rintro e W' ⟨rfl, rfl⟩; refine ⟨_, rfl, ?_⟩)
  refine LL.call (R.call rfl rfl rfl) rfl rfl rfl (num_any _ _) ?_
  rintro e W' ⟨rfl, rfl⟩
  refine ⟨_, rfl, ?_⟩
  refine LL.val (R.eqT rfl rfl rfl (by omega)) rfl rfl rfl ?_
  refine LL.val (R.move rfl rfl) rfl rfl rfl ?_
  refine LL.val (R.move rfl rfl) rfl rfl rfl ?_
  refine LL.val (R.move rfl rfl) rfl rfl rfl ?_
  (refine LL.call (R.call rfl rfl rfl) rfl rfl rfl (givN_Z _ _ (by assumption)) ?_; rintro e W' ⟨rfl, rfl⟩; refine ⟨_, rfl, ?_⟩)
  refine LL.call (R.call rfl rfl rfl) rfl rfl rfl (num_any _ _) ?_
  rintro e W' ⟨rfl, rfl⟩
  refine ⟨_, rfl, ?_⟩
  refine LL.val (R.eqT rfl rfl rfl (by omega)) rfl rfl rfl ?_
  refine LL.val (R.pick rfl rfl rfl) rfl rfl rfl ?_
  refine LL.val (R.move rfl rfl) rfl rfl rfl ?_
  refine LL.val (R.move rfl rfl) rfl rfl rfl ?_
  refine LL.val (R.not rfl rfl) rfl rfl rfl ?_
  refine LL.val (R.pick rfl rfl rfl) rfl rfl rfl ?_
  refine LL.val (R.move rfl rfl) rfl rfl rfl ?_
  refine LL.val (R.move rfl rfl) rfl rfl rfl ?_
  refine LL.val (R.not rfl rfl) rfl rfl rfl ?_
  refine LL.val (R.pick rfl rfl rfl) rfl rfl rfl ?_
  refine LL.val (R.move rfl rfl) rfl rfl rfl ?_
  refine LL.val (R.move rfl rfl) rfl rfl rfl ?_
  refine LL.val (R.not rfl rfl) rfl rfl rfl ?_
  refine LL.val (R.pick rfl rfl rfl) rfl rfl rfl ?_
  refine LL.val (R.move rfl rfl) rfl rfl rfl ?_
  refine LL.val (R.move rfl rfl) rfl rfl rfl ?_
  refine LL.val (R.not rfl rfl) rfl rfl rfl ?_
  refine LL.val (R.pick rfl rfl rfl) rfl rfl rfl ?_
  refine LL.val (R.move rfl rfl) rfl rfl rfl ?_
  refine LL.val (R.move rfl rfl) rfl rfl rfl ?_
  refine LL.val (R.not rfl rfl) rfl rfl rfl ?_
  refine LL.val (R.pick rfl rfl rfl) rfl rfl rfl ?_
  refine LL.val (R.move rfl rfl) rfl rfl rfl ?_
  refine LL.val (R.move rfl rfl) rfl rfl rfl ?_
  refine LL.val (R.not rfl rfl) rfl rfl rfl ?_
  refine LL.val (R.pick rfl rfl rfl) rfl rfl rfl ?_
  refine LL.val (R.move rfl rfl) rfl rfl rfl ?_
  refine LL.val (R.move rfl rfl) rfl rfl rfl ?_
  (refine LL.call (R.call rfl rfl rfl) rfl rfl rfl (loads_0) ?_; rintro e W' ⟨rfl, rfl⟩; refine ⟨_, rfl, ?_⟩)
  refine LL.val (R.move rfl rfl) rfl rfl rfl ?_
  (refine LL.call (R.call rfl rfl rfl) rfl rfl rfl (loads_Z _ (by assumption)) ?_; rintro e W' ⟨rfl, rfl⟩; refine ⟨_, rfl, ?_⟩)
  refine LL.val (R.addIz (z := 0) rfl rfl rfl (by decide) (by decide)) rfl rfl rfl ?_
  refine LL.val (R.eqT rfl rfl rfl (by omega)) rfl rfl rfl ?_
  refine LL.val (R.pick rfl rfl rfl) rfl rfl rfl ?_
  refine LL.val (R.move rfl rfl) rfl rfl rfl ?_
  refine LL.val (R.move rfl rfl) rfl rfl rfl ?_
  (refine LL.call (R.call rfl rfl rfl) rfl rfl rfl (cop_0) ?_; rintro e W' ⟨rfl, rfl⟩; refine ⟨_, rfl, ?_⟩)
  refine LL.val (R.eqPtr rfl rfl rfl rfl rfl) rfl rfl rfl ?_
  refine LL.val (R.pick rfl rfl rfl) rfl rfl rfl ?_
  refine LL.val (R.move rfl rfl) rfl rfl rfl ?_
  refine LL.val (R.move rfl rfl) rfl rfl rfl ?_
  (refine LL.call (R.call rfl rfl rfl) rfl rfl rfl (cop_Z _ (by assumption)) ?_; rintro e W' ⟨rfl, rfl⟩; refine ⟨_, rfl, ?_⟩)
  refine LL.val (R.eqPtr rfl rfl rfl rfl rfl) rfl rfl rfl ?_
  refine LL.val (R.pick rfl rfl rfl) rfl rfl rfl ?_
  refine LL.val (R.move rfl rfl) rfl rfl rfl ?_
  have l742 := r32.lt
  (refine LL.call (R.call rfl rfl rfl) rfl rfl rfl (works_any _) ?_; rintro e W741 ⟨rfl, b738⟩; refine ⟨_, rfl, ?_⟩)
  have zb738 := b738.size
  replace r32 := r32.up b738
  replace b29 := b29.trans (b738.mono b29.size)
  replace q := q.trans (b738.mono q.size)
  refine LL.val (R.pick rfl rfl rfl) rfl rfl rfl ?_
  refine LL.val (R.assign rfl rfl) rfl rfl rfl ?_
  refine LL.nilS ?_
  refine CC.ret ?_
  refine EE.ret _ rfl rfl ?_
  exact ⟨rfl, q⟩
end Go.Proofs.Ytloflmkolnediaa

/- Opening the arguments of a law: slices of numbers, pairs of numbers. -/
namespace Go.Proofs.Ytloflmkolnediaa
set_option linter.unusedVariables false
set_option linter.unusedSimpArgs false
open Go.RowKit Go.ChangeShapes Go.WideShapes Go.ChangeAt

theorem own : ownKnob Try.prog.godebug = none := by kernel_rfl
theorem laidOut : laidOutB Try.prog = true := by kernel_rfl

section
variable {H : Type} {enc : TypeId × Value → H} {P : Program} {w : World} {base : Nat} {spare : Nat → Bool} {held : Bool} {r : Reach} {b0 : Nat} {t : TypeId} {v : Value} {d : DataW H} {p : List MemPlace}

theorem wf_u8 {n : Int} (h : (Lit.int .u8 n).wf = true) : 0 ≤ n ∧ n < 256 := by
  simp [Lit.wf, IntKind.min, IntKind.max, IntKind.signed, IntKind.bits] at h; omega
theorem wf_u64 {n : Int} (h : (Lit.int .u64 n).wf = true) : 0 ≤ n ∧ n < 18446744073709551616 := by
  simp [Lit.wf, IntKind.min, IntKind.max, IntKind.signed, IntKind.bits] at h; omega
theorem wf_i64 {n : Int} (h : (Lit.int .i64 n).wf = true) : -9223372036854775808 ≤ n ∧ n ≤ 9223372036854775807 := by
  simp [Lit.wf, IntKind.min, IntKind.max, IntKind.signed, IntKind.bits] at h; omega

/-- A slice of unsigned numbers. -/
theorem open_nats {e : TypeId} {k : IntKind} {M : Nat} (ht : P.underlying t = some (.slice e)) (he : P.underlying e = some (.int k)) (hc : P.cellsOf e = 1) (hk : ∀ n, (Lit.int k n).wf = true → 0 ≤ n ∧ n < (M : Int))
    (hv : Value.okWide P w r b0 t v) (h : DataW.Trod enc P w base spare held t v d p) : ∃ ns : List Nat, Reads w v (ints k ns) ∧ (∀ n ∈ ns, n < M) ∧ ns.length ≤ 9223372036854775807 := by
  obtain ⟨a, len, cap, rfl⟩ := okWide_slice ht hv
  obtain ⟨fuel, hf⟩ := h
  rcases open_ints ht he hc hf with ⟨hcs, _⟩ | ⟨x, l, c, zs, hcs, _, hl, hm, hz, _, hcell, hwz⟩
  · simp [Value.cells] at hcs
    obtain ⟨rfl, rfl, rfl⟩ := hcs
    exact ⟨[], Reads.nil w, by simp, by simp⟩
  · simp [Value.cells] at hcs
    obtain ⟨rfl, rfl, rfl⟩ := hcs
    have hlz : len ≤ zs.length := by rw [hz]; split <;> omega
    refine ⟨(zs.take len).map Int.toNat, ?_, ?_, ?_⟩
    · have hlen : ((zs.take len).map Int.toNat).length = len := by simp; omega
      refine ⟨some x, cap, by rw [List.length_map, hlen], by rw [List.length_map, hlen]; exact hl, fun hne => ?_⟩
      have h0 : 0 < len := by
        rcases Nat.eq_zero_or_pos len with h0 | h0
        · subst h0; simp at hne
        · exact h0
      obtain ⟨b, off, spot⟩ := x
      have hc0 := hcell 0 (by omega)
      have hspot : spot = none := by simpa [Addr.add] using World.cell?_spot hc0
      subst hspot
      have hblt : b < w.heap.size := by
        rcases Nat.lt_or_ge b w.heap.size with hb | hb
        · exact hb
        · simp [Addr.add, World.cell?, Array.getElem?_eq_none hb] at hc0
      refine ⟨b, off, rfl, hblt, fun j hj => ?_⟩
      rw [List.length_map, hlen] at hj
      have hcj := hcell j (by omega)
      have hjz : j < zs.length := by omega
      have hw := hk _ (hwz zs[j] (List.getElem_mem hjz))
      rw [Addr.add_lit] at hcj
      rw [hcj]
      simp [List.getElem?_take, hj, hjz, List.getD]
      omega
    · intro n hn
      simp only [List.mem_map] at hn
      obtain ⟨z, hz', rfl⟩ := hn
      have := hk _ (hwz z (List.mem_of_mem_take hz'))
      omega
    · simp only [List.length_map, List.length_take]
      unfold maxLen at hm
      omega

/-- An array of two ints. -/
theorem open_two {e : TypeId} (ht : P.underlying t = some (.array 2 e)) (he : P.underlying e = some (.int .i64)) (hc : P.cellsOf e = 1) (hC : P.cellsOf t = 2)
    (hv : Value.okWide P w r b0 t v) (h : DataW.Trod enc P w base spare held t v d p) : ∃ x y : Int, v = .agg #[.int .i64 x, .int .i64 y] ∧ (Lit.int .i64 x).wf = true ∧ (Lit.int .i64 y).wf = true := by
  have hg : ∃ cs, v = .agg cs ∧ cs.size = P.cellsOf t := by
    simp only [Value.okWide, ht] at hv
    obtain ⟨cs, h1, h2, _⟩ := hv
    exact ⟨cs, h1, h2⟩
  obtain ⟨cs, rfl, hsz⟩ := hg
  obtain ⟨fuel, hf⟩ := h
  obtain ⟨xs, m, _, _, hl, hx, hi⟩ := DataW.trod_array ht hf
  have h0 := hi 0 (by omega)
  have h1 := hi 1 (by omega)
  rw [List.getElem?_eq_getElem (by omega)] at h0 h1
  obtain ⟨n0, e0, _, w0⟩ := DataW.trod_int he h0
  obtain ⟨n1, e1, _, w1⟩ := DataW.trod_int he h1
  refine ⟨n0, n1, ?_, w0, w1⟩
  rw [hc] at e0 e1
  simp only [Value.cells] at e0 e1 hl
  rw [hC] at hl
  congr 1
  apply Array.ext'
  match hcs : cs.toList, hl with
  | [c0, c1], _ =>
    rw [hcs] at e0 e1
    simp at e0 e1
    simp [e0, e1]
theorem open_twoK {k : IntKind} {e : TypeId} (ht : P.underlying t = some (.array 2 e)) (he : P.underlying e = some (.int k)) (hc : P.cellsOf e = 1) (hC : P.cellsOf t = 2)
    (hv : Value.okWide P w r b0 t v) (h : DataW.Trod enc P w base spare held t v d p) : ∃ x y : Int, v = .agg #[Value.int k x, Value.int k y] ∧ (Lit.int k x).wf = true ∧ (Lit.int k y).wf = true := by
  have hg : ∃ cs, v = .agg cs ∧ cs.size = P.cellsOf t := by
    simp only [Value.okWide, ht] at hv
    obtain ⟨cs, h1, h2, _⟩ := hv
    exact ⟨cs, h1, h2⟩
  obtain ⟨cs, rfl, hsz⟩ := hg
  obtain ⟨fuel, hf⟩ := h
  obtain ⟨xs, m, _, _, hl, hx, hi⟩ := DataW.trod_array ht hf
  have h0 := hi 0 (by omega)
  have h1 := hi 1 (by omega)
  rw [List.getElem?_eq_getElem (by omega)] at h0 h1
  obtain ⟨n0, e0, _, w0⟩ := DataW.trod_int he h0
  obtain ⟨n1, e1, _, w1⟩ := DataW.trod_int he h1
  refine ⟨n0, n1, ?_, w0, w1⟩
  rw [hc] at e0 e1
  simp only [Value.cells] at e0 e1 hl
  rw [hC] at hl
  congr 1
  apply Array.ext'
  match hcs : cs.toList, hl with
  | [c0, c1], _ =>
    rw [hcs] at e0 e1
    simp at e0 e1
    simp [e0, e1]
end
end Go.Proofs.Ytloflmkolnediaa

/- Opening the arguments of a law: structs and arrays of integers, and of such. Over any program. -/
namespace Go.Proofs.Ytloflmkolnediaa
set_option linter.unusedVariables false
set_option linter.unusedSimpArgs false
open Go.RowKit Go.ChangeShapes Go.WideShapes Go.ChangeAt
/-- Which kind of integer lies at a cell. -/
def atC (P : Program) : Nat → TypeId → Nat → Option IntKind
  | 0, _, _ => none
  | d + 1, t, j => match P.underlying t with
    | some (.struct fs) => fs.toList.findSome? fun f => if f.offset ≤ j ∧ j < f.offset + P.cellsOf f.type then atC P d f.type (j - f.offset) else none
    | some (.array n e) => if j / P.cellsOf e < n then atC P d e (j % P.cellsOf e) else none
    | some (.int k) => if j = 0 then some k else none
    | _ => none
section
variable {H : Type} {enc : TypeId × Value → H} {P : Program} {w : World} {base : Nat} {spare : Nat → Bool} {held : Bool} {r : Reach} {b0 : Nat} {t : TypeId} {v : Value} {d : DataW H} {p : List MemPlace}
theorem trod_at : ∀ (n : Nat) (t : TypeId) (j fuel : Nat) (cs : List Value) (x : DataW H × List MemPlace) (k : IntKind), atC P n t j = some k → DataW.trod enc P w base spare held fuel t cs = some x → ∃ z : Int, cs[j]? = some (.int k z) ∧ (Lit.int k z).wf = true
  | 0, _, _, _, _, _, _, h, _ => by cases h
  | n + 1, t, j, fuel, cs, x, k, h, hx => by
    cases hu : P.underlying t with
    | none => simp [atC, hu] at h
    | some kd =>
      cases kd <;> simp only [atC, hu] at h <;> try (cases h; done)
      case int q =>
        split at h
        · rename_i hj
          cases h
          subst hj
          obtain ⟨z, e, _, hw⟩ := DataW.trod_int hu hx
          exact ⟨z, by rw [e]; rfl, hw⟩
        · cases h
      case struct fs =>
        obtain ⟨f, hf, hfk⟩ := List.exists_of_findSome?_eq_some h
        split at hfk
        · rename_i hj
          obtain ⟨xs, m, _, rfl, hl, hlen, hf2⟩ := DataW.trod_struct hu hx
          obtain ⟨i, hi⟩ := List.mem_iff_getElem?.1 hf
          have h2 := hf2 i f (by simpa using hi)
          have hil : i < xs.length := by
            have := (List.getElem?_eq_some_iff.1 hi).1
            rw [Array.length_toList] at this
            omega
          rw [List.getElem?_eq_getElem hil] at h2
          obtain ⟨z, e, hw⟩ := trod_at n f.type (j - f.offset) _ _ _ k hfk h2
          refine ⟨z, ?_, hw⟩
          rw [List.getElem?_take] at e
          split at e
          · rw [List.getElem?_drop] at e
            rwa [show f.offset + (j - f.offset) = j by omega] at e
          · cases e
        · cases hfk
      case array m e =>
        split at h
        · rename_i hj
          obtain ⟨xs, m', _, rfl, hl, hlen, hi⟩ := DataW.trod_array hu hx
          have h2 := hi _ hj
          rw [List.getElem?_eq_getElem (by omega)] at h2
          obtain ⟨z, e', hw⟩ := trod_at n e (j % P.cellsOf e) _ _ _ k h h2
          refine ⟨z, ?_, hw⟩
          rw [List.getElem?_take] at e'
          split at e'
          · rw [List.getElem?_drop] at e'
            rwa [show j / P.cellsOf e * P.cellsOf e + j % P.cellsOf e = j by rw [Nat.mul_comm]; exact Nat.div_add_mod _ _] at e'
          · cases e'
        · cases h
theorem open_ints {c : Nat} (ks : Nat → IntKind) (hs : (match P.underlying t with | some (.struct _) | some (.array _ _) => true | _ => false) = true) (hc : P.cellsOf t = c) (hk : (List.range c).all (fun j => atC P 9 t j == some (ks j)) = true)
    (hv : Value.okWide P w r b0 t v) (h : DataW.Trod enc P w base spare held t v d p) : ∃ g : Nat → Int, v = .agg ((List.range c).map fun j => Value.int (ks j) (g j)).toArray ∧ ∀ j, j < c → (Lit.int (ks j) (g j)).wf = true := by
  have hg : ∃ cs, v = .agg cs ∧ cs.size = P.cellsOf t := by
    unfold Value.okWide at hv
    split at hv
    · obtain ⟨cs, h1, h2, _⟩ := hv; exact ⟨cs, h1, h2⟩
    · obtain ⟨cs, h1, h2, _⟩ := hv; exact ⟨cs, h1, h2⟩
    · rename_i h1 h2
      split at hs <;> simp_all
  obtain ⟨cs, rfl, hsz⟩ := hg
  obtain ⟨fuel, hf⟩ := h
  have key : ∀ j, ∃ z : Int, j < c → cs.toList[j]? = some (.int (ks j) z) ∧ (Lit.int (ks j) z).wf = true := by
    intro j
    by_cases hj : j < c
    · have hk' := List.all_eq_true.1 hk j (List.mem_range.2 hj)
      have hk'' : atC P 9 t j = some (ks j) := by simpa using hk'
      obtain ⟨z, h1, h2⟩ := trod_at 9 t j fuel _ _ _ hk'' hf
      exact ⟨z, fun _ => ⟨h1, h2⟩⟩
    · exact ⟨0, fun h => absurd h hj⟩
  refine ⟨fun j => Classical.choose (key j), ?_, fun j hj => (Classical.choose_spec (key j) hj).2⟩
  congr 1
  apply Array.ext'
  apply List.ext_getElem?
  intro j
  simp only [List.toList_toArray, List.getElem?_map]
  by_cases hj : j < c
  · rw [(Classical.choose_spec (key j) hj).1, List.getElem?_range hj]
    rfl
  · rw [List.getElem?_eq_none (by rw [Array.length_toList, hsz, hc]; omega), List.getElem?_eq_none (by simp; omega)]
    rfl
end
end Go.Proofs.Ytloflmkolnediaa

/- scan: ScanGives: the walk. -/
namespace Go.Proofs.Ytloflmkolnediaa
set_option linter.unusedVariables false
set_option linter.unusedSimpArgs false
open Go.RowKit Go.Shelf
set_option maxRecDepth 100000
set_option maxHeartbeats 16000000
theorem gives_F (way slots : Int) (key n c : Nat) (a : Option Addr) (w : World) (h : (way ≠ 1 ∧ way ≠ 2) ∨ slots < 2 ∨ 28 < slots) (hl : n ≤ 130) : Calls Try.prog 3 #[.int .i64 way, .int .i64 slots, .int .u64 (key : Int), .slice a n c] w fun e w' => e = .returned (.bool true) ∧ Below w.heap.size w w' := by
  have q := Below.refl w.heap.size w
  refine X.fn Try.func3 rfl (n := 98) rfl rfl ?_
  refine CC.seq ?_
  refine CC.region ?_
  refine LL.val (R.assign rfl rfl) rfl rfl rfl ?_
  refine LL.nilS ?_
  refine CC.seq ?_
  refine CC.seq ?_
  refine CC.region ?_
  refine LL.val (R.move rfl rfl) rfl rfl rfl ?_
  refine LL.val (R.len rfl rfl rfl rfl) rfl rfl rfl ?_
  refine LL.val (R.gtF rfl rfl rfl (by omega)) rfl rfl rfl ?_
  refine LL.nilS ?_
  refine CC.no rfl ?_
  refine CC.skip ?_
  refine EE.thenN ?_
  refine CC.seq ?_
  refine CC.region ?_
  refine LL.val (R.move rfl rfl) rfl rfl rfl ?_
  refine LL.val (R.move rfl rfl) rfl rfl rfl ?_
  refine LL.val (R.move rfl rfl) rfl rfl rfl ?_
  (refine LL.call (R.call rfl rfl rfl) rfl rfl rfl (new_F way slots key _ h) ?_; rintro e W109 ⟨rfl, b106⟩; refine ⟨_, rfl, ?_⟩)
  have zb106 := b106.size
  replace q := q.trans (b106.mono q.size)
  refine LL.val (R.move rfl rfl) rfl rfl rfl ?_
  refine LL.val (R.extract rfl rfl rfl) rfl rfl rfl ?_
  refine LL.val (R.extract rfl rfl rfl) rfl rfl rfl ?_
  refine LL.val (R.assign rfl rfl) rfl rfl rfl ?_
  refine LL.val (R.assign rfl rfl) rfl rfl rfl ?_
  refine LL.nilS ?_
  refine CC.seq ?_
  refine CC.seq ?_
  refine CC.region ?_
  refine LL.val (R.move rfl rfl) rfl rfl rfl ?_
  refine LL.val (R.move rfl rfl) rfl rfl rfl ?_
  (refine LL.call (R.call rfl rfl rfl) rfl rfl rfl (right_F way slots _ h) ?_; rintro e W' ⟨rfl, rfl⟩; refine ⟨_, rfl, ?_⟩)
  refine LL.val (R.not rfl rfl) rfl rfl rfl ?_
  refine LL.nilS ?_
  refine CC.yes rfl ?_
  refine CC.seq ?_
  refine CC.region ?_
  refine LL.val (R.move rfl rfl) rfl rfl rfl ?_
  refine LL.val (R.eqPtr rfl rfl rfl rfl rfl) rfl rfl rfl ?_
  refine LL.val (R.move rfl rfl) rfl rfl rfl ?_
  refine LL.val (R.move rfl rfl) rfl rfl rfl ?_
  refine LL.call (R.call rfl rfl rfl) rfl rfl rfl (num_any _ _) ?_
  rintro e W' ⟨rfl, rfl⟩
  refine ⟨_, rfl, ?_⟩
  refine LL.val (R.eqT rfl rfl rfl (by omega)) rfl rfl rfl ?_
  refine LL.val (R.pick rfl rfl rfl) rfl rfl rfl ?_
  refine LL.val (R.move rfl rfl) rfl rfl rfl ?_
  (refine LL.call (R.call rfl rfl rfl) rfl rfl rfl (works_any _) ?_; rintro e W354 ⟨rfl, b351⟩; refine ⟨_, rfl, ?_⟩)
  have zb351 := b351.size
  replace b106 := b106.trans (b351.mono b106.size)
  replace q := q.trans (b351.mono q.size)
  refine LL.val (R.pick rfl rfl rfl) rfl rfl rfl ?_
  refine LL.val (R.assign rfl rfl) rfl rfl rfl ?_
  refine LL.nilS ?_
  refine CC.ret ?_
  refine EE.thenR ?_
  refine EE.ret _ rfl rfl ?_
  exact ⟨rfl, q⟩
abbrev drL (k slots : Nat) (slot : Int) (key ptr ahead : Nat) (dn is : Bool) (loads : Nat) : List Value := [.int .i64 (wayD k), .int .i64 (slots : Int), .int .i64 slot, .int .i64 (stepD k), .int .u64 (key : Int), .int .u64 (ptr : Int), .int .u64 (ahead : Int), .bool dn, .bool is, .int .i64 (loads : Int)]
theorem gives_T (up : Bool) (slots key n c : Nat) (a : Option Addr) (L : List Nat) (w : World) (hv : ReadsT uE 1 w (.slice a n c) L) (hn : L.length = n) (h2 : 2 ≤ slots) (h28 : slots ≤ 28) (hl : n ≤ 130) : Calls Try.prog 3 #[.int .i64 (wayI up), .int .i64 (slots : Int), .int .u64 (key : Int), .slice a n c] w fun e w' => e = .returned (.bool true) ∧ Below w.heap.size w w' := by
  have q := Below.refl w.heap.size w
  have hvF : ∀ X, Below w.heap.size w X → ReadsT uE 1 X (.slice a n c) L := fun X b => hv.up b
  have hway : wayI up = 1 ∨ wayI up = 2 := by cases up <;> simp [wayI]
  have hi0 := (new_inv (up := up) (slots := slots) (key := key) h2 h28).1
  have hs0 := sim_new (up := up) (slots := slots) (key := key)
  have hsl0 : (newR up slots key).slots = slots := by cases up <;> rfl
  obtain ⟨r0, hr0⟩ : ∃ r, newR up slots key = r := ⟨_, rfl⟩
  obtain ⟨d0, hd0⟩ : ∃ r, newD up slots key = r := ⟨_, rfl⟩
  rw [hr0, hd0] at hs0
  rw [hr0] at hi0 hsl0
  obtain ⟨k0, sl0, st0, ky0, pt0, ah0, dn0, is0, lo0⟩ := d0
  have hDN : ∀ W : World, Calls Try.prog 12 #[.int .i64 (wayI up), .int .i64 (slots : Int), .int .u64 (key : Int)] W fun e w' => e = .returned (.agg #[.int .i64 (wayD k0), .int .i64 (sl0 : Int), .int .i64 st0, .int .i64 (stepD k0), .int .u64 (ky0 : Int), .int .u64 (pt0 : Int), .int .u64 (ah0 : Int), .bool dn0, .bool is0, .int .i64 (lo0 : Int)]) ∧ Below W.heap.size W w' := fun W => by
    have := dnew_T up slots key W h2 h28
    rw [hd0] at this
    exact this
  clear hv
  refine X.fn Try.func3 rfl (n := 98) rfl rfl ?_
  refine CC.seq ?_
  refine CC.region ?_
  refine LL.val (R.assign rfl rfl) rfl rfl rfl ?_
  refine LL.nilS ?_
  refine CC.seq ?_
  refine CC.seq ?_
  refine CC.region ?_
  refine LL.val (R.move rfl rfl) rfl rfl rfl ?_
  refine LL.val (R.len rfl rfl rfl rfl) rfl rfl rfl ?_
  refine LL.val (R.gtF rfl rfl rfl (by omega)) rfl rfl rfl ?_
  refine LL.nilS ?_
  refine CC.no rfl ?_
  refine CC.skip ?_
  refine EE.thenN ?_
  refine CC.seq ?_
  refine CC.region ?_
  refine LL.val (R.move rfl rfl) rfl rfl rfl ?_
  refine LL.val (R.move rfl rfl) rfl rfl rfl ?_
  refine LL.val (R.move rfl rfl) rfl rfl rfl ?_
  (refine LL.call (R.call rfl rfl rfl) rfl rfl rfl (new_T up slots key _ h2 h28) ?_; rintro e W151 ⟨g, rfl, hg, hgl, b148⟩; rw [hr0] at hg; refine ⟨_, rfl, ?_⟩)
  have zb148 := b148.size
  replace q := q.trans (b148.mono q.size)
  refine LL.val (R.move rfl rfl) rfl rfl rfl ?_
  refine LL.val (R.extract rfl rfl rfl) rfl rfl rfl ?_
  refine LL.val (R.extract rfl rfl rfl) rfl rfl rfl ?_
  refine LL.val (R.assign rfl rfl) rfl rfl rfl ?_
  refine LL.val (R.assign rfl rfl) rfl rfl rfl ?_
  refine LL.nilS ?_
  refine CC.seq ?_
  refine CC.seq ?_
  refine CC.region ?_
  refine LL.val (R.move rfl rfl) rfl rfl rfl ?_
  refine LL.val (R.move rfl rfl) rfl rfl rfl ?_
  (refine LL.call (R.call rfl rfl rfl) rfl rfl rfl (right_T (wayI up) slots _ hway (by omega) (by omega)) ?_; rintro e W' ⟨rfl, rfl⟩; refine ⟨_, rfl, ?_⟩)
  refine LL.val (R.not rfl rfl) rfl rfl rfl ?_
  refine LL.nilS ?_
  refine CC.no rfl ?_
  refine CC.skip ?_
  refine EE.thenN ?_
  refine CC.seq ?_
  refine CC.region ?_
  refine LL.val (R.move rfl rfl) rfl rfl rfl ?_
  refine LL.val (R.move rfl rfl) rfl rfl rfl ?_
  refine LL.val (R.move rfl rfl) rfl rfl rfl ?_
  have l439 := hg.lt
  (refine LL.call (R.call rfl rfl rfl) rfl rfl rfl (hDN _) ?_; rintro e W438 ⟨rfl, b435⟩; refine ⟨_, rfl, ?_⟩)
  have zb435 := b435.size
  replace hg := hg.up b435
  replace b148 := b148.trans (b435.mono b148.size)
  replace q := q.trans (b435.mono q.size)
  have l467 := hg.lt
  refine LL.alloc ([Value.int IntKind.i64 0, Value.int IntKind.i64 0, Value.int IntKind.i64 0, Value.int IntKind.i64 0, Value.int IntKind.u64 0, Value.int IntKind.u64 0, Value.int IntKind.u64 0, Value.bool false, Value.bool false, Value.int IntKind.i64 0]) rfl rfl rfl rfl rfl ?_
  intro W469 g470 eg470 r471 z472 b468
  replace b435 := b435.trans (b468.mono b435.size)
  replace hg := hg.up b468
  replace b148 := b148.trans (b468.mono b148.size)
  replace q := q.trans (b468.mono q.size)
  refine LL.storeN (vs := [Value.int IntKind.i64 (wayD k0), Value.int IntKind.i64 ↑sl0, Value.int IntKind.i64 st0, Value.int IntKind.i64 (stepD k0), Value.int IntKind.u64 ↑ky0, Value.int IntKind.u64 ↑pt0, Value.int IntKind.u64 ↑ah0, Value.bool dn0, Value.bool is0, Value.int IntKind.i64 ↑lo0]) rfl rfl rfl rfl r471 (by exact Nat.le_of_ble_eq_true rfl) (ones_of rfl) rfl rfl ?_
  intro W501 r502 b500 z503
  have hlb500 := r471.lt
  replace r502 : RowL W501 _ 33 [Value.int IntKind.i64 (wayD k0), Value.int IntKind.i64 ↑sl0, Value.int IntKind.i64 st0, Value.int IntKind.i64 (stepD k0), Value.int IntKind.u64 ↑ky0, Value.int IntKind.u64 ↑pt0, Value.int IntKind.u64 ↑ah0, Value.bool dn0, Value.bool is0, Value.int IntKind.i64 ↑lo0] := r502
  clear r471
  replace b468 := b468.grown b500 b468.size (by rintro k ⟨⟩; omega)
  replace b435 := b435.grown b500 b435.size (by rintro k ⟨⟩; omega)
  replace hg := hg.gr b500 (by have := hg.lt; omega)
  replace b148 := b148.grown b500 b148.size (by rintro k ⟨⟩; omega)
  replace q := q.grown b500 q.size (by rintro k ⟨⟩; omega)
  have r471 := r502
  clear r502
  refine LL.nilS ?_
  refine CC.seq ?_
  refine CC.seq ?_
  refine CC.region ?_
  refine LL.val (R.move rfl rfl) rfl rfl rfl ?_
  refine LL.call (R.call rfl rfl rfl) rfl rfl rfl (num_any _ _) ?_
  rintro e W' ⟨rfl, rfl⟩
  refine ⟨_, rfl, ?_⟩
  refine LL.val (R.neF rfl rfl rfl (by omega)) rfl rfl rfl ?_
  refine LL.val (R.move rfl rfl) rfl rfl rfl ?_
  refine LL.val (R.move rfl rfl) rfl rfl rfl ?_
  refine LL.val (R.load rfl rfl (I.ldNc (vs := [Value.int IntKind.i64 (wayD k0), Value.int IntKind.i64 ↑sl0, Value.int IntKind.i64 st0, Value.int IntKind.i64 (stepD k0), Value.int IntKind.u64 ↑ky0, Value.int IntKind.u64 ↑pt0, Value.int IntKind.u64 ↑ah0, Value.bool dn0, Value.bool is0, Value.int IntKind.i64 ↑lo0]) (RowL.cells r471 rfl) (by rfl) (by rfl))) rfl rfl rfl ?_
  have l688 := hg.lt
  have l689 := r471.lt
  (refine LL.call (R.call rfl rfl rfl) rfl rfl rfl (same_any g r0 ⟨k0, sl0, st0, ky0, pt0, ah0, dn0, is0, lo0⟩ hg hi0 hs0) ?_; rintro e W687 ⟨rfl, b684⟩; refine ⟨_, rfl, ?_⟩)
  have zb684 := b684.size
  replace b468 := b468.trans (b684.mono b468.size)
  replace b435 := b435.trans (b684.mono b435.size)
  replace hg := hg.up b684
  replace b148 := b148.trans (b684.mono b148.size)
  replace q := q.trans (b684.mono q.size)
  replace r471 := r471.up b684
  refine LL.val (R.not rfl rfl) rfl rfl rfl ?_
  refine LL.val (R.pick rfl rfl rfl) rfl rfl rfl ?_
  refine LL.nilS ?_
  refine CC.no rfl ?_
  refine CC.skip ?_
  refine EE.thenN ?_
  refine CC.seq ?_
  refine CC.seq ?_
  refine CC.region ?_
  refine LL.val (R.assign rfl rfl) rfl rfl rfl ?_
  refine LL.nilS ?_
  refine CC.block ?_
  obtain ⟨W0, eW⟩ : ∃ X, X = W687 := ⟨_, rfl⟩
  obtain ⟨gw, ew⟩ : ∃ g, g = g470 := ⟨_, rfl⟩
  have hw := r471
  subst eW ew
  have lg := hg.lt
  have lw := hw.lt
  have hne : g ≠ gw ∧ w.heap.size ≤ gw := by omega
  refine CC.loop (α := Nat × Rd × Dr) (fun x => [(1, .int .i64 (slots : Int)), (3, .slice a n c), (9, .pointer (some ⟨g, 0, none⟩)), (11, .pointer (some ⟨gw, 0, none⟩)), (12, .int .i64 (x.1 : Int))])
    (fun x W => x.1 ≤ n ∧ Below w.heap.size w W ∧ RowL W g 56 (rdR g x.2.1) ∧ RowL W gw 33 (drL x.2.2.k x.2.2.slots x.2.2.slot x.2.2.key x.2.2.ptr x.2.2.ahead x.2.2.dn x.2.2.is x.2.2.loads) ∧ InvR x.2.1 ∧ Sim x.2.1 x.2.2 ∧ x.2.1.slots = slots) (fun x => n - x.1)
    (0, r0, ⟨k0, sl0, st0, ky0, pt0, ah0, dn0, is0, lo0⟩) ⟨rfl, rfl, rfl, rfl, rfl, trivial⟩ ⟨Nat.zero_le _, q, hg, hw, hi0, hs0, hsl0⟩ ?_
  clear q hg hw hi0 hs0 hsl0 hDN hd0 hr0 r471 b148 b435 b468 b684
  rintro ⟨i, r, k, sz, st, ky, pt, ah, dn, is, lo⟩ W ⟨hi, q, hg, hw, hin, hs, hsl⟩
  simp only at hi hg hw hin hs hsl
  show CC none Try.prog _ 98 [] (sl [(1, .int .i64 (slots : Int)), (3, .slice a n c), (9, .pointer (some ⟨g, 0, none⟩)), (11, .pointer (some ⟨gw, 0, none⟩)), (12, .int .i64 (i : Int))]) _ W
  by_cases hlt : i < n
  case neg =>
    refine CC.seq ?_
    refine CC.seq ?_
    refine CC.region ?_
    refine LL.val (R.move rfl rfl) rfl rfl rfl ?_
    refine LL.val (R.move rfl rfl) rfl rfl rfl ?_
    refine LL.val (R.len rfl rfl rfl rfl) rfl rfl rfl ?_
    refine LL.val (R.ltF rfl rfl rfl (by omega)) rfl rfl rfl ?_
    refine LL.nilS ?_
    refine CC.no rfl ?_
    refine CC.exit ?_
    refine EE.thenX ?_
    refine EE.thenX ?_
    refine EE.inX ?_
    refine EE.thenN ?_
    refine CC.seq ?_
    refine CC.region ?_
    have la41 := hg.lt
    have la42 := hw.lt
    (refine LL.call (R.call rfl rfl rfl) rfl rfl rfl (works_any _) ?_; rintro e Wa40 ⟨rfl, ba37⟩; refine ⟨_, rfl, ?_⟩)
    have zba37 := ba37.size
    replace q := q.trans (ba37.mono q.size)
    replace hg := hg.up ba37
    replace hw := hw.up ba37
    refine LL.val (R.assign rfl rfl) rfl rfl rfl ?_
    refine LL.nilS ?_
    refine CC.ret ?_
    refine EE.ret _ rfl rfl ?_
    exact ⟨rfl, q⟩
  obtain ⟨v, hx⟩ : ∃ v, L[i]? = some v := ⟨_, List.getElem?_eq_getElem (by omega)⟩
  obtain ⟨bb, off, rfl, lb, hcell⟩ := u_at (hvF w (Below.refl _ _)) hx
  have c1 := hcell _ q
  clear hcell hvF
  have ig := hg.lt
  have iw := hw.lt
  have hdn : dn = r.dn := hs.dn
  have hlo : lo = r.loads := hs.loads
  have hbg := hin.big
  cases hd : r.dn with
  | true =>
    rw [hd] at hdn
    subst hdn
    refine CC.seq ?_
    refine CC.seq ?_
    refine CC.region ?_
    refine LL.val (R.move rfl rfl) rfl rfl rfl ?_
    refine LL.val (R.move rfl rfl) rfl rfl rfl ?_
    refine LL.val (R.len rfl rfl rfl rfl) rfl rfl rfl ?_
    refine LL.val (R.ltT rfl rfl rfl (by omega)) rfl rfl rfl ?_
    refine LL.nilS ?_
    refine CC.yes rfl ?_
    refine CC.skip ?_
    refine EE.thenN ?_
    refine CC.seq ?_
    refine CC.block ?_
    refine CC.seq ?_
    refine CC.region ?_
    refine LL.val (R.move rfl rfl) rfl rfl rfl ?_
    have lb50 := hg.lt
    have lb51 := hw.lt
    (refine LL.call (R.call rfl rfl rfl) rfl rfl rfl (copy_any g r hg hin.k) ?_; rintro e Wb49 ⟨gc, rfl, hgc, hgcl, bb46⟩; refine ⟨_, rfl, ?_⟩)
    have zbb46 := bb46.size
    replace q := q.trans (bb46.mono q.size)
    replace hg := hg.up bb46
    replace c1 := cell_up c1 bb46
    replace hw := hw.up bb46
    refine LL.val (R.assign rfl rfl) rfl rfl rfl ?_
    refine LL.nilS ?_
    refine CC.seq ?_
    refine CC.region ?_
    refine LL.val (R.move rfl rfl) rfl rfl rfl ?_
    refine LL.val (R.move rfl rfl) rfl rfl rfl ?_
    refine LL.val (R.move rfl rfl) rfl rfl rfl ?_
    refine LL.val (R.index rfl rfl rfl (I.ixS1 rfl (by omega))) rfl rfl rfl ?_
    refine LL.val (R.load rfl rfl (I.ld1 rfl (by assumption))) rfl rfl rfl ?_
    (refine LL.call (R.call rfl rfl rfl) rfl rfl rfl (give_done g v r hg hd) ?_; rintro e W' ⟨rfl, rfl⟩; refine ⟨_, rfl, ?_⟩)
    refine LL.call (R.call rfl rfl rfl) rfl rfl rfl (num_any _ _) ?_
    rintro e W' ⟨rfl, rfl⟩
    refine ⟨_, rfl, ?_⟩
    refine LL.val (R.assign rfl rfl) rfl rfl rfl ?_
    refine LL.nilS ?_
    refine CC.seq ?_
    refine CC.seq ?_
    refine CC.region ?_
    refine LL.val (R.field rfl rfl (I.fld rfl)) rfl rfl rfl ?_
    refine LL.val (R.load rfl rfl (I.ld1 rfl (RowL.cell hw rfl))) rfl rfl rfl ?_
    refine LL.nilS ?_
    refine CC.yes rfl ?_
    refine CC.seq ?_
    refine CC.seq ?_
    refine CC.region ?_
    refine LL.val (R.move rfl rfl) rfl rfl rfl ?_
    refine LL.val (R.neF rfl rfl rfl (by omega)) rfl rfl rfl ?_
    refine LL.nilS ?_
    refine CC.no rfl ?_
    refine CC.skip ?_
    refine EE.thenN ?_
    refine CC.exit ?_
    refine EE.thenX ?_
    refine EE.inX ?_
    refine EE.thenN ?_
    refine CC.region ?_
    refine LL.val (R.move rfl rfl) rfl rfl rfl ?_
    refine LL.val (R.addNc rfl rfl rfl rfl (by omega)) rfl rfl rfl ?_
    refine LL.val (R.assign rfl rfl) rfl rfl rfl ?_
    refine LL.nil ?_
    exact EE.round (i + 1, r, ⟨k, sz, st, ky, pt, ah, true, is, lo⟩) ⟨rfl, rfl, rfl, rfl, rfl, trivial⟩ ⟨by show i + 1 ≤ n; omega, q, hg, hw, hin, hs, hsl⟩ (by show n - (i + 1) < n - i; omega)
  | false =>
  rw [hd] at hdn
  subst hdn
  have hin2 := (give_inv hin hd v).1
  have hs2 := sim_give hs hin hd v
  have hsl2 : (giveR r v).slots = slots := by rw [(give_key r v).2.1]; exact hsl
  obtain ⟨h5, h6, -⟩ := hs.run hd
  simp only at h5 h6
  have hD := fun W : World => dgive_any v ⟨k, sz, st, ky, pt, ah, false, is, lo⟩ (w := W) (by show k ≤ 8; rw [h6]; exact hin.k) rfl (by show 0 ≤ st; omega) (by show st < sz; have := hin.slot; have e : sz = r.slots := hs.slots; omega) (by show sz ≤ 28; have e : sz = r.slots := hs.slots; have := hin.slots; omega) (by show lo ≤ 1000000; omega)
  obtain ⟨⟨k2, sl2, st2, ky2, pt2, ah2, dn2, is2, lo2⟩, hd2⟩ : ∃ d2, giveD ⟨k, sz, st, ky, pt, ah, false, is, lo⟩ v = d2 := ⟨_, rfl⟩
  rw [hd2] at hs2
  have hGD : ∀ W : World, Calls Try.prog 16 #[.agg #[.int .i64 (wayD k), .int .i64 (sz : Int), .int .i64 st, .int .i64 (stepD k), .int .u64 (ky : Int), .int .u64 (pt : Int), .int .u64 (ah : Int), .bool false, .bool is, .int .i64 (lo : Int)], .int .u64 (v : Int)] W fun e w' => e = .returned (.agg #[.int .i64 (wayD k2), .int .i64 (sl2 : Int), .int .i64 st2, .int .i64 (stepD k2), .int .u64 (ky2 : Int), .int .u64 (pt2 : Int), .int .u64 (ah2 : Int), .bool dn2, .bool is2, .int .i64 (lo2 : Int)]) ∧ Below W.heap.size W w' := fun W => by
    have := hD W
    rw [hd2] at this
    exact this
  have hlo2 : lo2 ≤ 4 * slots := by
    have e : lo2 = (giveR r v).loads := hs2.loads
    have := hin2.loads
    omega
  clear hD hd2 h5 h6
  refine CC.seq ?_
  refine CC.seq ?_
  refine CC.region ?_
  refine LL.val (R.move rfl rfl) rfl rfl rfl ?_
  refine LL.val (R.move rfl rfl) rfl rfl rfl ?_
  refine LL.val (R.len rfl rfl rfl rfl) rfl rfl rfl ?_
  refine LL.val (R.ltT rfl rfl rfl (by omega)) rfl rfl rfl ?_
  refine LL.nilS ?_
  refine CC.yes rfl ?_
  refine CC.skip ?_
  refine EE.thenN ?_
  refine CC.seq ?_
  refine CC.block ?_
  refine CC.seq ?_
  refine CC.region ?_
  refine LL.val (R.move rfl rfl) rfl rfl rfl ?_
  have lc175 := hg.lt
  have lc176 := hw.lt
  (refine LL.call (R.call rfl rfl rfl) rfl rfl rfl (copy_any g r hg hin.k) ?_; rintro e Wc174 ⟨gc, rfl, hgc, hgcl, bc171⟩; have lgc := hgc.lt; refine ⟨_, rfl, ?_⟩)
  have zbc171 := bc171.size
  replace q := q.trans (bc171.mono q.size)
  replace hg := hg.up bc171
  replace c1 := cell_up c1 bc171
  replace hw := hw.up bc171
  refine LL.val (R.assign rfl rfl) rfl rfl rfl ?_
  refine LL.nilS ?_
  refine CC.seq ?_
  refine CC.region ?_
  refine LL.val (R.move rfl rfl) rfl rfl rfl ?_
  refine LL.val (R.move rfl rfl) rfl rfl rfl ?_
  refine LL.val (R.move rfl rfl) rfl rfl rfl ?_
  refine LL.val (R.index rfl rfl rfl (I.ixS1 rfl (by omega))) rfl rfl rfl ?_
  refine LL.val (R.load rfl rfl (I.ld1 rfl (by assumption))) rfl rfl rfl ?_
  (refine LL.call (R.call rfl rfl rfl) rfl rfl rfl (give_any g v r hg hin.k hd hin.slot hin.slots hin.big) ?_; rintro e Wc415 ⟨rfl, hgN, tc414⟩; clear hg; have hg := hgN; clear hgN; refine ⟨_, rfl, ?_⟩)
  have ztc414 := tc414.size
  replace hgc := hgc.kept tc414 ⟨hgc.lt, by omega⟩
  replace q := tc414.onB q (fun j hj => ⟨by have := q.size; omega, by omega⟩)
  replace c1 := cell_kept c1 tc414 ⟨World.block_lt_of_cell? _ _ c1, by omega⟩
  replace hw := hw.kept tc414 ⟨hw.lt, by omega⟩
  refine LL.call (R.call rfl rfl rfl) rfl rfl rfl (num_any _ _) ?_
  rintro e W' ⟨rfl, rfl⟩
  refine ⟨_, rfl, ?_⟩
  refine LL.val (R.assign rfl rfl) rfl rfl rfl ?_
  refine LL.nilS ?_
  refine CC.seq ?_
  refine CC.seq ?_
  refine CC.region ?_
  refine LL.val (R.field rfl rfl (I.fld rfl)) rfl rfl rfl ?_
  refine LL.val (R.load rfl rfl (I.ld1 rfl (RowL.cell hw rfl))) rfl rfl rfl ?_
  refine LL.nilS ?_
  refine CC.no rfl ?_
  refine CC.skip ?_
  refine EE.thenN ?_
  refine CC.seq ?_
  refine CC.seq ?_
  refine CC.region ?_
  refine LL.val (R.move rfl rfl) rfl rfl rfl ?_
  refine LL.val (R.neF rfl rfl rfl (by omega)) rfl rfl rfl ?_
  refine LL.val (R.move rfl rfl) rfl rfl rfl ?_
  refine LL.val (R.move rfl rfl) rfl rfl rfl ?_
  refine LL.val (R.load rfl rfl (I.ldNc (vs := [Value.int IntKind.i64 (wayD k), Value.int IntKind.i64 ↑sz, Value.int IntKind.i64 st, Value.int IntKind.i64 (stepD k), Value.int IntKind.u64 ↑ky, Value.int IntKind.u64 ↑pt, Value.int IntKind.u64 ↑ah, Value.bool false, Value.bool is, Value.int IntKind.i64 ↑lo]) (RowL.cells hw rfl) (by rfl) (by rfl))) rfl rfl rfl ?_
  have lc773 := hg.lt
  have lc774 := hgc.lt
  have lc775 := hw.lt
  (refine LL.call (R.call rfl rfl rfl) rfl rfl rfl (same_any gc r ⟨k, sz, st, ky, pt, ah, false, is, lo⟩ hgc hin hs) ?_; rintro e Wc772 ⟨rfl, bc769⟩; refine ⟨_, rfl, ?_⟩)
  have zbc769 := bc769.size
  replace hg := hg.up bc769
  replace hgc := hgc.up bc769
  replace q := q.trans (bc769.mono q.size)
  replace c1 := cell_up c1 bc769
  replace hw := hw.up bc769
  refine LL.val (R.not rfl rfl) rfl rfl rfl ?_
  refine LL.val (R.pick rfl rfl rfl) rfl rfl rfl ?_
  refine LL.nilS ?_
  refine CC.no rfl ?_
  refine CC.skip ?_
  refine EE.thenN ?_
  refine CC.seq ?_
  refine CC.freeZ (fun W_ j => j < W_.heap.size ∧ (j ≠ gw)) (by kernel_rfl) (by kernel_rfl) (fun Wc854 bc853 zc855 => ?_)
  replace bc769 := bc769.trans (bc853.mono bc769.size)
  replace hg := hg.up bc853
  replace hgc := hgc.up bc853
  replace q := q.trans (bc853.mono q.size)
  replace c1 := cell_up c1 bc853
  replace hw := hw.up bc853
  have hok : Kept (fun j => j < Wc854.heap.size ∧ (j ≠ gw)) Wc854 Wc854 := Kept.refl _ _
  have fzhg := fzRow (K := fun j => j < Wc854.heap.size ∧ (j ≠ gw)) hg ⟨hg.lt, (by first | trivial | omega)⟩
  have fzhgc := fzRow (K := fun j => j < Wc854.heap.size ∧ (j ≠ gw)) hgc ⟨hgc.lt, (by first | trivial | omega)⟩
  have fzc1 := fzCell (K := fun j => j < Wc854.heap.size ∧ (j ≠ gw)) c1 ⟨World.block_lt_of_cell? _ _ c1, (by first | trivial | omega)⟩
  refine AA.pure 1 rfl hok (by kernel_rfl) (fun w' b' => R.move rfl rfl) rfl rfl ?_
  refine AA.pure 2 rfl hok (by kernel_rfl) (fun w' b' => R.move rfl rfl) rfl rfl ?_
  refine AA.pure 3 rfl hok (by kernel_rfl) (fun w' b' => R.index rfl rfl rfl (I.ixS1 rfl (by omega))) rfl rfl ?_
  refine AA.pure 4 rfl hok (by kernel_rfl) (fun w' b' => R.load rfl rfl (I.ld1 rfl (cell_kept c1 b' (by refine ⟨?_, ?_⟩ <;> omega)))) rfl rfl ?_
  refine AA.one 0 (by kernel_rfl) ?_
  refine SR.val rfl (R.load rfl rfl (I.ldNc (vs := [Value.int IntKind.i64 (wayD k), Value.int IntKind.i64 ↑sz, Value.int IntKind.i64 st, Value.int IntKind.i64 (stepD k), Value.int IntKind.u64 ↑ky, Value.int IntKind.u64 ↑pt, Value.int IntKind.u64 ↑ah, Value.bool false, Value.bool is, Value.int IntKind.i64 ↑lo]) (RowL.cells hw rfl) (by rfl) (by rfl))) rfl rfl hok ?_
  refine AA.one 5 (by kernel_rfl) ?_
  refine SR.call rfl (R.call rfl rfl rfl) rfl rfl (hGD _) ?_
  rintro e Wc931 ⟨rfl, bc930⟩
  have zbc930 := bc930.size
  replace bc853 := bc853.trans (bc930.mono bc853.size)
  replace bc769 := bc769.trans (bc930.mono bc769.size)
  replace hg := hg.up bc930
  replace hgc := hgc.up bc930
  replace q := q.trans (bc930.mono q.size)
  replace c1 := cell_up c1 bc930
  replace hw := hw.up bc930
  replace hok := hok.trans (bkept bc930 (fun j h => by have := h.1; have := hok.size; omega))
  have yc932 := hok.size
  refine ⟨_, rfl, hok, ?_⟩
  refine AA.one 6 (by kernel_rfl) ?_
  refine ZR.storeN (vs := [Value.int IntKind.i64 (wayD k2), Value.int IntKind.i64 ↑sl2, Value.int IntKind.i64 st2, Value.int IntKind.i64 (stepD k2), Value.int IntKind.u64 ↑ky2, Value.int IntKind.u64 ↑pt2, Value.int IntKind.u64 ↑ah2, Value.bool dn2, Value.bool is2, Value.int IntKind.i64 ↑lo2]) rfl rfl rfl rfl rfl hw (by exact Nat.le_of_ble_eq_true rfl) (ones_of rfl) rfl rfl ?_
  intro Wc971 rc972 bc970 zc973
  have hlbc970 := hw.lt
  replace rc972 : RowL Wc971 _ 33 [Value.int IntKind.i64 (wayD k2), Value.int IntKind.i64 ↑sl2, Value.int IntKind.i64 st2, Value.int IntKind.i64 (stepD k2), Value.int IntKind.u64 ↑ky2, Value.int IntKind.u64 ↑pt2, Value.int IntKind.u64 ↑ah2, Value.bool dn2, Value.bool is2, Value.int IntKind.i64 ↑lo2] := rc972
  clear hw
  replace hg := hg.gr bc970 (by have := hg.lt; omega)
  replace hgc := hgc.gr bc970 (by have := hgc.lt; omega)
  replace q := q.grown bc970 q.size (by rintro k ⟨⟩; omega)
  replace c1 := cell_gr c1 bc970 (by omega)
  replace hok := hok.trans (grown_kept bc970 (fun j h => by have := h.1; have := hok.size; omega) (fun j h e => by cases e; have h2 := h.1; have h3 := h.2; omega))
  have hw := rc972
  clear rc972
  refine ⟨hok, ?_⟩
  refine AA.done rfl ?_
  clear fzhg fzhgc fzc1 hok
  refine EE.thenN ?_
  refine CC.seq ?_
  refine CC.region ?_
  refine LL.val (R.move rfl rfl) rfl rfl rfl ?_
  refine LL.val (R.load rfl rfl (I.ldNc (vs := [Value.int IntKind.i64 (wayD k2), Value.int IntKind.i64 ↑sl2, Value.int IntKind.i64 st2, Value.int IntKind.i64 (stepD k2), Value.int IntKind.u64 ↑ky2, Value.int IntKind.u64 ↑pt2, Value.int IntKind.u64 ↑ah2, Value.bool dn2, Value.bool is2, Value.int IntKind.i64 ↑lo2]) (RowL.cells hw rfl) (by rfl) (by rfl))) rfl rfl rfl ?_
  have lc1079 := hg.lt
  have lc1080 := hgc.lt
  have lc1081 := hw.lt
  (refine LL.call (R.call rfl rfl rfl) rfl rfl rfl (same_any g (giveR r v) ⟨k2, sl2, st2, ky2, pt2, ah2, dn2, is2, lo2⟩ hg hin2 hs2) ?_; rintro e Wc1078 ⟨rfl, bc1075⟩; refine ⟨_, rfl, ?_⟩)
  have zbc1075 := bc1075.size
  replace hg := hg.up bc1075
  replace hgc := hgc.up bc1075
  replace q := q.trans (bc1075.mono q.size)
  replace c1 := cell_up c1 bc1075
  replace hw := hw.up bc1075
  refine LL.val (R.not rfl rfl) rfl rfl rfl ?_
  refine LL.val (R.move rfl rfl) rfl rfl rfl ?_
  refine LL.val (R.field rfl rfl (I.fld rfl)) rfl rfl rfl ?_
  refine LL.val (R.load rfl rfl (I.ld1 rfl (RowL.cell hw rfl))) rfl rfl rfl ?_
  refine LL.val (R.move rfl rfl) rfl rfl rfl ?_
  refine LL.val (R.mulcN rfl rfl rfl rfl (by omega)) rfl rfl rfl ?_
  refine LL.val (R.gtF rfl rfl rfl (by omega)) rfl rfl rfl ?_
  refine LL.val (R.pick rfl rfl rfl) rfl rfl rfl ?_
  refine LL.nilS ?_
  refine CC.no rfl ?_
  refine CC.skip ?_
  refine EE.inN ?_
  refine EE.thenN ?_
  refine CC.region ?_
  refine LL.val (R.move rfl rfl) rfl rfl rfl ?_
  refine LL.val (R.addNc rfl rfl rfl rfl (by omega)) rfl rfl rfl ?_
  refine LL.val (R.assign rfl rfl) rfl rfl rfl ?_
  refine LL.nil ?_
  exact EE.round (i + 1, giveR r v, ⟨k2, sl2, st2, ky2, pt2, ah2, dn2, is2, lo2⟩) ⟨rfl, rfl, rfl, rfl, rfl, trivial⟩ ⟨by show i + 1 ≤ n; omega, q, hg, by assumption, hin2, hs2, hsl2⟩ (by show n - (i + 1) < n - i; omega)
theorem gives_walk (way slots : Int) (key : Nat) (v : Value) (L : List Nat) (w : World) (hv : ReadsT uE 1 w v L) : Calls Try.prog 3 #[.int .i64 way, .int .i64 slots, .int .u64 (key : Int), v] w fun e w' => e = .returned (.bool true) ∧ Below w.heap.size w w' := by
  obtain ⟨a, c, rfl, hc⟩ := hv.form rfl
  by_cases hl : L.length ≤ 130
  · by_cases h : (way ≠ 1 ∧ way ≠ 2) ∨ slots < 2 ∨ 28 < slots
    · exact gives_F way slots key _ c a w h hl
    obtain ⟨up, rfl⟩ : ∃ up, way = wayI up := by
      by_cases e : way = 1
      · exact ⟨true, e⟩
      · exact ⟨false, by unfold wayI; simp; omega⟩
    obtain ⟨sl, rfl⟩ : ∃ n : Nat, slots = n := ⟨slots.toNat, by omega⟩
    exact gives_T up sl key _ c a L w hv rfl (by omega) (by omega) hl
  have q := Below.refl w.heap.size w
  clear hv
  refine X.fn Try.func3 rfl (n := 98) rfl rfl ?_
  refine CC.seq ?_
  refine CC.region ?_
  refine LL.val (R.assign rfl rfl) rfl rfl rfl ?_
  refine LL.nilS ?_
  refine CC.seq ?_
  refine CC.seq ?_
  refine CC.region ?_
  refine LL.val (R.move rfl rfl) rfl rfl rfl ?_
  refine LL.val (R.len rfl rfl rfl rfl) rfl rfl rfl ?_
  refine LL.val (R.gtT rfl rfl rfl (by omega)) rfl rfl rfl ?_
  refine LL.nilS ?_
  refine CC.yes rfl ?_
  refine CC.seq ?_
  refine CC.region ?_
  (refine LL.call (R.call rfl rfl rfl) rfl rfl rfl (works_any _) ?_; rintro e W32 ⟨rfl, b29⟩; refine ⟨_, rfl, ?_⟩)
  have zb29 := b29.size
  replace q := q.trans (b29.mono q.size)
  refine LL.val (R.assign rfl rfl) rfl rfl rfl ?_
  refine LL.nilS ?_
  refine CC.ret ?_
  refine EE.thenR ?_
  refine EE.ret _ rfl rfl ?_
  exact ⟨rfl, q⟩
end Go.Proofs.Ytloflmkolnediaa

/- scan: what the shells hand over. -/
namespace Go.Proofs.Ytloflmkolnediaa
set_option linter.unusedVariables false
set_option linter.unusedSimpArgs false
open Go.RowKit Go.Shelf
theorem reads_uE {w : World} {v : Value} {ws : List Nat} (h : Reads w v (ints .u64 ws)) : ReadsT uE 1 w v ws := by
  obtain ⟨a, cap, e, hc, h⟩ := h
  have hl : (ints .u64 ws).length = ws.length := by simp [ints]
  rw [hl] at e hc
  exact ⟨a, cap, e, hc, fun hne => by
    obtain ⟨b, off, h1, h2, h3⟩ := h (by intro e; rw [e] at hl; exact hne (List.eq_nil_of_length_eq_zero hl.symm))
    exact ⟨b, off, h1, h2, fun j hj => by rw [flat_u]; exact h3 j (by omega)⟩⟩

end Go.Proofs.Ytloflmkolnediaa

/- scan: what the shell of ScanGives imports. -/
