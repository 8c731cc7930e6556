/- What the statements' walks use: AsksW, Lw, ChecksW, Door. -/
import Derived.Test.YtbbddpnjglijdaaDoorRows
import Derived.ProofKit
import Derived.LaidMore
import Derived.OpenShut
import Derived.Stop.Joined
import Derived.Lib.LaidTab
import Derived.Shelf.Vars
import Derived.Test.YtbbddpnjglijdaaDoorMqc
import Derived.Test.YtbbddpnjglijdaaDoorMqe
/- WalkAsks, any input (written by genwk28.py). -/
namespace Go.Proofs.YtbbddpnjglijdaaDoor
set_option linter.unusedVariables false
set_option linter.unusedSimpArgs false
open Go.RowKit Go.Shelf
set_option maxRecDepth 100000
set_option maxHeartbeats 8000000
/-- An answer. -/
abbrev Rp := Bool × Fd
def rpE (p : Rp) : List Value := [.bool p.1, .int .i64 p.2.1, .int .i64 p.2.2.1, strV p.2.2.2]
theorem rpEnc : Enc rpE 4 := ⟨fun _ => rfl, fun t u hu => by
  simp only [rpE, List.mem_cons, List.not_mem_nil, or_false] at hu
  rcases hu with rfl | rfl | rfl | rfl <;> rfl, by decide⟩
/-- The document's walker, in a block; its parts lie elsewhere. -/
def RwA2 (w : World) (g9 g : Nat) (s : Wk) : Prop := (s.fin = none ∧ ∃ a n c bb, RowL w g9 33 [.int .i64 s.dir, .slice a n c, .int .i64 (s.links : Int), .bool s.fol, .bool false, .int .i64 0, .int .i64 0, strV [], .int .i64 0, .int .i64 0] ∧ PsB w bb a n c s.ps ∧ g9 ≠ bb ∧ g ≠ bb) ∨ ∃ x d k, s.fin = some x ∧ RowL w g9 33 [.int .i64 d, .slice none 0 0, .int .i64 k, .bool s.fol, .bool true, .int .i64 x.1, .int .i64 x.2.1, strV x.2.2.1, .int .i64 x.2.2.2.1, .int .i64 x.2.2.2.2]
/-- The same, with its value. -/
def RwH (w : World) (g9 g : Nat) (s : Wk) : Prop := ∃ d a n c k fol dn x bb, RowL w g9 33 [.int .i64 d, .slice a n c, .int .i64 k, .bool fol, .bool dn, .int .i64 x.1, .int .i64 x.2.1, strV x.2.2.1, .int .i64 x.2.2.2.1, .int .i64 x.2.2.2.2] ∧ RwR s (rwV d a n c k fol dn x) w bb ∧ g9 ≠ bb ∧ g ≠ bb
theorem RwH.up {w w' : World} {g9 g : Nat} {s : Wk} (h : RwH w g9 g s) (b : Below w.heap.size w w') : RwH w' g9 g s := by
  obtain ⟨d, a, n, c, k, fol, dn, x, bb, r, hr, h1, h2⟩ := h
  exact ⟨d, a, n, c, k, fol, dn, x, bb, r.up b, hr.up b, h1, h2⟩
theorem RwR.a2 {s : Wk} {w : World} {bb g9 g : Nat} {d k : Int} {a : Option Addr} {n c : Nat} {fol dn : Bool} {x : Wd} (h : RwR s (rwV d a n c k fol dn x) w bb) (r : RowL w g9 33 [.int .i64 d, .slice a n c, .int .i64 k, .bool fol, .bool dn, .int .i64 x.1, .int .i64 x.2.1, strV x.2.2.1, .int .i64 x.2.2.2.1, .int .i64 x.2.2.2.2]) (h1 : g9 ≠ bb) (h2 : g ≠ bb) : RwA2 w g9 g s := by
  rcases h with ⟨h0, a', n', c', e, p⟩ | ⟨x', d', k', h0, e⟩
  · have e2 := congrArg Array.toList (Value.agg.inj e)
    exact .inl ⟨h0, a', n', c', bb, Eq.mp (congrArg (RowL w g9 33) e2) r, p, h1, h2⟩
  · have e2 := congrArg Array.toList (Value.agg.inj e)
    exact .inr ⟨x', d', k', h0, Eq.mp (congrArg (RowL w g9 33) e2) r⟩
theorem same_any (g : Nat) {s : Wk} {w : World} {v : Value} {bb : Nat} (A : WkAt w g s) (ha : s.asks) (hk : s.ok) (hR : RwR s v w bb) : Calls Tryd.prog 15 #[.pointer (some ⟨g, 0, none⟩), v] w fun e w' => e = .returned (.bool true) ∧ Below w.heap.size w w' := by
  rcases hR with ⟨h0, a, n, c, rfl, p⟩ | ⟨x, d, k, h0, rfl⟩
  · obtain ⟨p', r', hp, _⟩ := ha h0
    exact same_run g A p' r' h0 hp hk.big a n c _ _ bb p
  · exact same_done g A x h0 d k _
theorem asks_far (path : Bs) (fol : Bool) (v : Value) (l : List Rp) (w : World) (hm : Mx w) (hv : ReadsT rpE 4 w v l) (hl : l.length ≤ 9223372036854775807) (hp : path.length ≤ 9223372036854775807) (h : 1100 < path.length ∨ 100 < l.length) : Calls Tryd.prog 3 #[strV path, .bool fol, v] w fun e w' => e = .returned (.bool true) ∧ Below w.heap.size w w' := by
  have q := Below.refl w.heap.size w
  obtain ⟨N, hN⟩ : ∃ N, l.length = N := ⟨_, rfl⟩
  obtain ⟨a, cap, rfl, hc⟩ := hv.form hN
  rw [hN] at h hl
  clear hv
  by_cases h1 : 1100 < path.length
  · refine X.fn Tryd.func3 rfl (n := 129) rfl rfl ?_
    refine CC.seq ?_
    refine CC.region ?_
    refine LL.val (R.assign rfl rfl) rfl rfl rfl ?_
    refine LL.nilS ?_
    refine CC.seq ?_
    refine CC.seq ?_
    refine CC.region ?_
    refine LL.val (R.move rfl rfl) rfl rfl rfl ?_
    refine LL.val (R.lenS rfl rfl rfl rfl) rfl rfl rfl ?_
    refine LL.val (R.gtT rfl rfl rfl (by omega)) rfl rfl rfl ?_
    refine LL.val (R.move rfl rfl) rfl rfl rfl ?_
    refine LL.skip rfl rfl ?_
    refine LL.skip rfl rfl ?_
    refine LL.skip rfl rfl ?_
    refine LL.val (R.pick rfl rfl rfl) rfl rfl rfl ?_
    refine LL.nilS ?_
    refine CC.yes rfl ?_
    refine CC.seq ?_
    refine CC.region ?_
    (refine LL.call (R.call rfl rfl rfl) rfl rfl rfl (works17_any _ (by assumption)) ?_; rintro e W46 ⟨rfl, b43⟩; refine ⟨_, rfl, ?_⟩)
    have zb43 := b43.size
    replace hm := hm.up b43
    replace q := q.trans (b43.mono q.size)
    refine LL.val (R.assign rfl rfl) rfl rfl rfl ?_
    refine LL.nilS ?_
    refine CC.ret ?_
    refine EE.thenR ?_
    refine EE.ret _ rfl rfl ?_
    exact ⟨rfl, q⟩
  · have h2 : 100 < N := by omega
    refine X.fn Tryd.func3 rfl (n := 129) rfl rfl ?_
    refine CC.seq ?_
    refine CC.region ?_
    refine LL.val (R.assign rfl rfl) rfl rfl rfl ?_
    refine LL.nilS ?_
    refine CC.seq ?_
    refine CC.seq ?_
    refine CC.region ?_
    refine LL.val (R.move rfl rfl) rfl rfl rfl ?_
    refine LL.val (R.lenS rfl rfl rfl rfl) rfl rfl rfl ?_
    refine LL.val (R.gtF rfl rfl rfl (by omega)) rfl rfl rfl ?_
    refine LL.val (R.move rfl rfl) rfl rfl rfl ?_
    refine LL.val (R.move rfl rfl) rfl rfl rfl ?_
    refine LL.val (R.len rfl rfl rfl rfl) rfl rfl rfl ?_
    refine LL.val (R.gtT rfl rfl rfl (by omega)) rfl rfl rfl ?_
    refine LL.val (R.pick rfl rfl rfl) rfl rfl rfl ?_
    refine LL.nilS ?_
    refine CC.yes rfl ?_
    refine CC.seq ?_
    refine CC.region ?_
    (refine LL.call (R.call rfl rfl rfl) rfl rfl rfl (works17_any _ (by assumption)) ?_; rintro e Wa67 ⟨rfl, ba64⟩; refine ⟨_, rfl, ?_⟩)
    have zba64 := ba64.size
    replace hm := hm.up ba64
    replace q := q.trans (ba64.mono q.size)
    refine LL.val (R.assign rfl rfl) rfl rfl rfl ?_
    refine LL.nilS ?_
    refine CC.ret ?_
    refine EE.thenR ?_
    refine EE.ret _ rfl rfl ?_
    exact ⟨rfl, q⟩
--C law17_num | num17_any _ @w | S
theorem asks_bad (path : Bs) (fol : Bool) (v : Value) (l : List Rp) (w : World) (hm : Mx w) (hv : ReadsT rpE 4 w v l) (hl : l.length ≤ 9223372036854775807) (hp : path.length ≤ 9223372036854775807) (h1 : ¬1100 < path.length) (h2 : ¬100 < l.length) (er : Nat) (he : pathN path = er) (h0 : er ≠ 0) : Calls Tryd.prog 3 #[strV path, .bool fol, v] w fun e w' => e = .returned (.bool true) ∧ Below w.heap.size w w' := by
  have q := Below.refl w.heap.size w
  obtain ⟨N, hN⟩ : ∃ N, l.length = N := ⟨_, rfl⟩
  obtain ⟨a, cap, rfl, hc⟩ := hv.form hN
  have h0' : (er : Int) ≠ 0 := by omega
  have hm0 := hm.lt
  rw [hN] at h2 hl
  clear hv
  refine X.fn Tryd.func3 rfl (n := 129) rfl rfl ?_
  refine CC.seq ?_
  refine CC.region ?_
  refine LL.val (R.assign rfl rfl) rfl rfl rfl ?_
  refine LL.nilS ?_
  refine CC.seq ?_
  refine CC.seq ?_
  refine CC.region ?_
  refine LL.val (R.move rfl rfl) rfl rfl rfl ?_
  refine LL.val (R.lenS rfl rfl rfl rfl) rfl rfl rfl ?_
  refine LL.val (R.gtF rfl rfl rfl (by omega)) rfl rfl rfl ?_
  refine LL.val (R.move rfl rfl) rfl rfl rfl ?_
  refine LL.val (R.move rfl rfl) rfl rfl rfl ?_
  refine LL.val (R.len rfl rfl rfl rfl) rfl rfl rfl ?_
  refine LL.val (R.gtF rfl rfl rfl (by omega)) rfl rfl rfl ?_
  refine LL.val (R.pick rfl rfl rfl) rfl rfl rfl ?_
  refine LL.nilS ?_
  refine CC.no rfl ?_
  refine CC.skip ?_
  refine EE.thenN ?_
  refine CC.seq ?_
  refine CC.region ?_
  refine LL.val (R.move rfl rfl) rfl rfl rfl ?_
  refine LL.val (R.move rfl rfl) rfl rfl rfl ?_
  (refine LL.call (R.call rfl rfl rfl) rfl rfl rfl (new_bad path er he h0 (by assumption) hp) ?_; rintro e W242 ⟨rfl, b239⟩; refine ⟨_, rfl, ?_⟩)
  have zb239 := b239.size
  replace hm := hm.up b239
  replace q := q.trans (b239.mono q.size)
  refine LL.val (R.move rfl rfl) rfl rfl rfl ?_
  refine LL.val (R.extract rfl rfl rfl) rfl rfl rfl ?_
  refine LL.val (R.extract rfl rfl rfl) rfl rfl rfl ?_
  refine LL.val (R.assign rfl rfl) rfl rfl rfl ?_
  refine LL.val (R.assign rfl rfl) rfl rfl rfl ?_
  refine LL.nilS ?_
  refine CC.seq ?_
  refine CC.region ?_
  refine LL.val (R.move rfl rfl) rfl rfl rfl ?_
  refine LL.val (R.move rfl rfl) rfl rfl rfl ?_
  (refine LL.call (R.call rfl rfl rfl) rfl rfl rfl (rnew_bad path fol _ hp er he h0) ?_; rintro e W410 ⟨rfl, b407⟩; refine ⟨_, rfl, ?_⟩)
  have zb407 := b407.size
  replace b239 := b239.trans (b407.mono b239.size)
  replace hm := hm.up b407
  replace q := q.trans (b407.mono q.size)
  refine LL.val (R.move rfl rfl) rfl rfl rfl ?_
  refine LL.val (R.extract rfl rfl rfl) rfl rfl rfl ?_
  refine LL.val (R.extract rfl rfl rfl) rfl rfl rfl ?_
  refine LL.alloc ([Value.int IntKind.i64 0, Value.slice none 0 0, Value.int IntKind.i64 0, Value.bool false, Value.bool false, Value.int IntKind.i64 0, Value.int IntKind.i64 0, Value.string { data := { toList := [] } }, Value.int IntKind.i64 0, Value.int IntKind.i64 0]) rfl rfl rfl rfl rfl ?_
  intro W499 g500 eg500 r501 z502 b498
  replace b407 := b407.trans (b498.mono b407.size)
  replace b239 := b239.trans (b498.mono b239.size)
  replace hm := hm.up b498
  replace q := q.trans (b498.mono q.size)
  refine LL.storeN (vs := [Value.int IntKind.i64 0, Value.slice none 0 0, Value.int IntKind.i64 0, Value.bool false, Value.bool false, Value.int IntKind.i64 0, Value.int IntKind.i64 0, strV [], Value.int IntKind.i64 0, Value.int IntKind.i64 0]) rfl rfl rfl rfl r501 (by exact Nat.le_of_ble_eq_true rfl) (ones_of rfl) rfl rfl ?_
  intro W528 r529 b527 z530
  have hlb527 := r501.lt
  replace r529 : RowL W528 _ 33 [Value.int IntKind.i64 0, Value.slice none 0 0, Value.int IntKind.i64 0, Value.bool false, Value.bool false, Value.int IntKind.i64 0, Value.int IntKind.i64 0, strV [], Value.int IntKind.i64 0, Value.int IntKind.i64 0] := r529
  clear r501
  replace b498 := b498.grown b527 b498.size (by rintro k ⟨⟩; omega)
  replace b407 := b407.grown b527 b407.size (by rintro k ⟨⟩; omega)
  replace b239 := b239.grown b527 b239.size (by rintro k ⟨⟩; omega)
  replace hm := hm.gr b527 (by have := hm.lt; omega)
  replace q := q.grown b527 q.size (by rintro k ⟨⟩; omega)
  have r501 := r529
  clear r529
  refine LL.val (R.assign rfl rfl) rfl rfl rfl ?_
  refine LL.nilS ?_
  refine CC.seq ?_
  refine CC.seq ?_
  refine CC.region ?_
  refine LL.val (R.move rfl rfl) rfl rfl rfl ?_
  refine LL.call (R.call rfl rfl rfl) rfl rfl rfl (num17_any _ _) ?_
  rintro e W' ⟨rfl, rfl⟩
  refine ⟨_, rfl, ?_⟩
  refine LL.val (R.move rfl rfl) rfl rfl rfl ?_
  refine LL.val (R.neF rfl rfl rfl (by omega)) rfl rfl rfl ?_
  refine LL.val (R.move rfl rfl) rfl rfl rfl ?_
  refine LL.val (R.move rfl rfl) rfl rfl rfl ?_
  refine LL.val (R.eqPtr rfl rfl rfl rfl rfl) rfl rfl rfl ?_
  refine LL.val (R.move rfl rfl) rfl rfl rfl ?_
  refine LL.val (R.neT rfl rfl rfl (by omega)) rfl rfl rfl ?_
  refine LL.val (R.neBool rfl rfl rfl rfl rfl) rfl rfl rfl ?_
  refine LL.val (R.pick rfl rfl rfl) rfl rfl rfl ?_
  refine LL.nilS ?_
  refine CC.no rfl ?_
  refine CC.skip ?_
  refine EE.thenN ?_
  refine CC.seq ?_
  refine CC.seq ?_
  refine CC.region ?_
  refine LL.val (R.move rfl rfl) rfl rfl rfl ?_
  refine LL.val (R.neT rfl rfl rfl (by omega)) rfl rfl rfl ?_
  refine LL.nilS ?_
  refine CC.yes rfl ?_
  refine CC.seq ?_
  refine CC.region ?_
  have l871 := r501.lt
  (refine LL.call (R.call rfl rfl rfl) rfl rfl rfl (works17_any _ (by assumption)) ?_; rintro e W870 ⟨rfl, b867⟩; refine ⟨_, rfl, ?_⟩)
  have zb867 := b867.size
  replace b498 := b498.trans (b867.mono b498.size)
  replace b407 := b407.trans (b867.mono b407.size)
  replace b239 := b239.trans (b867.mono b239.size)
  replace hm := hm.up b867
  replace q := q.trans (b867.mono q.size)
  replace r501 := r501.up b867
  refine LL.val (R.assign rfl rfl) rfl rfl rfl ?_
  refine LL.nilS ?_
  refine CC.ret ?_
  refine EE.thenR ?_
  refine EE.ret _ rfl rfl ?_
  exact ⟨rfl, q⟩
--C law17_num | num17_any _ @w | S
theorem asks_good (path : Bs) (fol : Bool) (v : Value) (l : List Rp) (w : World) (hm : Mx w) (hv : ReadsT rpE 4 w v l) (hl : l.length ≤ 9223372036854775807) (hp : path.length ≤ 9223372036854775807) (h1 : ¬1100 < path.length) (h2 : ¬100 < l.length) (hz : pathN path = 0) : Calls Tryd.prog 3 #[strV path, .bool fol, v] w fun e w' => e = .returned (.bool true) ∧ Below w.heap.size w w' := by
  have q := Below.refl w.heap.size w
  have hm0 := hm.lt
  obtain ⟨N, hN⟩ : ∃ N, l.length = N := ⟨_, rfl⟩
  obtain ⟨a, cap, rfl, hc⟩ := hv.form hN
  have hF : ∀ W, Below w.heap.size w W → ReadsT rpE 4 W (.slice a N cap) l := fun W b => hv.up b
  rw [hN] at h2 hl
  clear hv
  refine X.fn Tryd.func3 rfl (n := 129) rfl rfl ?_
  refine CC.seq ?_
  refine CC.region ?_
  refine LL.val (R.assign rfl rfl) rfl rfl rfl ?_
  refine LL.nilS ?_
  refine CC.seq ?_
  refine CC.seq ?_
  refine CC.region ?_
  refine LL.val (R.move rfl rfl) rfl rfl rfl ?_
  refine LL.val (R.lenS rfl rfl rfl rfl) rfl rfl rfl ?_
  refine LL.val (R.gtF rfl rfl rfl (by omega)) rfl rfl rfl ?_
  refine LL.val (R.move rfl rfl) rfl rfl rfl ?_
  refine LL.val (R.move rfl rfl) rfl rfl rfl ?_
  refine LL.val (R.len rfl rfl rfl rfl) rfl rfl rfl ?_
  refine LL.val (R.gtF rfl rfl rfl (by omega)) rfl rfl rfl ?_
  refine LL.val (R.pick rfl rfl rfl) rfl rfl rfl ?_
  refine LL.nilS ?_
  refine CC.no rfl ?_
  refine CC.skip ?_
  refine EE.thenN ?_
  refine CC.seq ?_
  refine CC.region ?_
  refine LL.val (R.move rfl rfl) rfl rfl rfl ?_
  refine LL.val (R.move rfl rfl) rfl rfl rfl ?_
  (refine LL.call (R.call rfl rfl rfl) rfl rfl rfl (new_yes path hz (by assumption) hp) ?_; rintro e W158 ⟨g, rfl, A, hg, b155⟩; refine ⟨_, rfl, ?_⟩; have hgl := A.lt; have AF := fun X (b : Below (World.heap W158).size W158 X) => A.up b; have qW := Below.refl (World.heap W158).size W158; clear A)
  have zb155 := b155.size
  replace hm := hm.up b155
  replace q := q.trans (b155.mono q.size)
  refine LL.val (R.move rfl rfl) rfl rfl rfl ?_
  refine LL.val (R.extract rfl rfl rfl) rfl rfl rfl ?_
  refine LL.val (R.extract rfl rfl rfl) rfl rfl rfl ?_
  refine LL.val (R.assign rfl rfl) rfl rfl rfl ?_
  refine LL.val (R.assign rfl rfl) rfl rfl rfl ?_
  refine LL.nilS ?_
  refine CC.seq ?_
  refine CC.region ?_
  refine LL.val (R.move rfl rfl) rfl rfl rfl ?_
  refine LL.val (R.move rfl rfl) rfl rfl rfl ?_
  (refine LL.call (R.call rfl rfl rfl) rfl rfl rfl (rnew_yes path fol _ hp hz (by omega)) ?_; rintro e W270 ⟨vo, bo1, rfl, ho1, hbo1, b267⟩; refine ⟨_, rfl, ?_⟩; obtain ⟨d6, a6, n6, c6, k6, f6, dn6, x6, rfl⟩ := ho1.form)
  have zb267 := b267.size
  replace b155 := b155.trans (b267.mono b155.size)
  replace qW := qW.trans (b267.mono qW.size)
  replace hm := hm.up b267
  replace q := q.trans (b267.mono q.size)
  refine LL.val (R.move rfl rfl) rfl rfl rfl ?_
  refine LL.val (R.extract rfl rfl rfl) rfl rfl rfl ?_
  refine LL.val (R.extract rfl rfl rfl) rfl rfl rfl ?_
  refine LL.alloc ([Value.int IntKind.i64 0, Value.slice none 0 0, Value.int IntKind.i64 0, Value.bool false, Value.bool false, Value.int IntKind.i64 0, Value.int IntKind.i64 0, Value.string { data := { toList := [] } }, Value.int IntKind.i64 0, Value.int IntKind.i64 0]) rfl rfl rfl rfl rfl ?_
  intro W331 g332 eg332 r333 z334 b330
  replace b267 := b267.trans (b330.mono b267.size)
  replace ho1 := ho1.up b330
  replace b155 := b155.trans (b330.mono b155.size)
  replace qW := qW.trans (b330.mono qW.size)
  replace hm := hm.up b330
  replace q := q.trans (b330.mono q.size)
  refine LL.storeN (vs := [Value.int IntKind.i64 d6, Value.slice a6 n6 c6, Value.int IntKind.i64 k6, Value.bool f6, Value.bool dn6, Value.int IntKind.i64 x6.1, Value.int IntKind.i64 x6.2.1, strV x6.2.2.1, Value.int IntKind.i64 x6.2.2.2.1, Value.int IntKind.i64 x6.2.2.2.2]) rfl rfl rfl rfl r333 (by exact Nat.le_of_ble_eq_true rfl) (ones_of rfl) rfl rfl ?_
  intro W352 r353 b351 z354
  have hlb351 := r333.lt
  replace r353 : RowL W352 _ 33 [Value.int IntKind.i64 d6, Value.slice a6 n6 c6, Value.int IntKind.i64 k6, Value.bool f6, Value.bool dn6, Value.int IntKind.i64 x6.1, Value.int IntKind.i64 x6.2.1, strV x6.2.2.1, Value.int IntKind.i64 x6.2.2.2.1, Value.int IntKind.i64 x6.2.2.2.2] := r353
  clear r333
  replace b330 := b330.grown b351 b330.size (by rintro k ⟨⟩; omega)
  replace b267 := b267.grown b351 b267.size (by rintro k ⟨⟩; omega)
  replace ho1 := ho1.gr b351 (by omega)
  replace b155 := b155.grown b351 b155.size (by rintro k ⟨⟩; omega)
  replace qW := qW.grown b351 qW.size (by rintro k ⟨⟩; omega)
  replace hm := hm.gr b351 (by have := hm.lt; omega)
  replace q := q.grown b351 q.size (by rintro k ⟨⟩; omega)
  have r333 := r353
  clear r353
  refine LL.val (R.assign rfl rfl) rfl rfl rfl ?_
  refine LL.nilS ?_
  refine CC.seq ?_
  refine CC.seq ?_
  refine CC.region ?_
  refine LL.val (R.move rfl rfl) rfl rfl rfl ?_
  refine LL.call (R.call rfl rfl rfl) rfl rfl rfl (num17_any _ _) ?_
  rintro e W' ⟨rfl, rfl⟩
  refine ⟨_, rfl, ?_⟩
  refine LL.val (R.move rfl rfl) rfl rfl rfl ?_
  refine LL.val (R.neF rfl rfl rfl (by omega)) rfl rfl rfl ?_
  refine LL.val (R.move rfl rfl) rfl rfl rfl ?_
  refine LL.val (R.move rfl rfl) rfl rfl rfl ?_
  refine LL.val (R.eqPtr rfl rfl rfl rfl rfl) rfl rfl rfl ?_
  refine LL.val (R.move rfl rfl) rfl rfl rfl ?_
  refine LL.val (R.neF rfl rfl rfl (by omega)) rfl rfl rfl ?_
  refine LL.val (R.neBool rfl rfl rfl rfl rfl) rfl rfl rfl ?_
  refine LL.val (R.pick rfl rfl rfl) rfl rfl rfl ?_
  refine LL.nilS ?_
  refine CC.no rfl ?_
  refine CC.skip ?_
  refine EE.thenN ?_
  refine CC.seq ?_
  refine CC.seq ?_
  refine CC.region ?_
  refine LL.val (R.move rfl rfl) rfl rfl rfl ?_
  refine LL.val (R.neF rfl rfl rfl (by omega)) rfl rfl rfl ?_
  refine LL.nilS ?_
  refine CC.no rfl ?_
  refine CC.skip ?_
  refine EE.thenN ?_
  refine CC.seq ?_
  refine CC.seq ?_
  refine CC.region ?_
  refine LL.val (R.assign rfl rfl) rfl rfl rfl ?_
  refine LL.nilS ?_
  refine CC.block ?_
  obtain ⟨S0, hS⟩ : ∃ S, newW path fol = S := ⟨_, rfl⟩
  have i1 := new_ok (path := path) fol hz
  have i2 : (newW path fol).asks := on_asks _
  have i3 := new_full path fol
  rw [hS] at i1 i2 i3 AF ho1
  have hA := AF _ qW
  have hR : RwA2 W352 g332 g S0 := ho1.a2 r333 (by omega) (by omega)
  obtain ⟨g9, e9⟩ : ∃ x, x = g332 := ⟨_, rfl⟩
  rw [← e9] at hR ⊢
  have hgg : w.heap.size ≤ g ∧ g < g9 ∧ 0 < g := by omega
  have hg9l : g9 < W352.heap.size := by omega
  refine CC.loop (α := Nat) (fun i => [(2, .slice a N cap), (7, .pointer (some ⟨g, 0, none⟩)), (9, .pointer (some ⟨g9, 0, none⟩)), (11, .int .i64 (i : Int))]) (fun i W => i ≤ N ∧ Below w.heap.size w W ∧ Mx W ∧ g9 < W.heap.size ∧ ∃ S, WkAt W g S ∧ RwA2 W g9 g S ∧ S.ok ∧ S.asks ∧ S.full) (fun i => N - i) 0 ⟨rfl, rfl, rfl, rfl, trivial⟩ ⟨Nat.zero_le _, q, hm, hg9l, S0, hA, hR, i1, i2, i3⟩ ?_
  clear AF qW hA hR ho1 i1 i2 i3 q hm b330 b267 b155
  rintro i W ⟨hi, q, hm, hg9, S, hA, hR, i1, i2, i3⟩
  have jq := q.size
  show CC none Tryd.prog _ 129 [] (sl [(2, .slice a N cap), (7, .pointer (some ⟨g, 0, none⟩)), (9, .pointer (some ⟨g9, 0, none⟩)), (11, .int .i64 (i : Int))]) _ W
  by_cases hlt : i < N
  case neg =>
    obtain rfl : N = i := by omega
    rcases hR with ⟨h0, a1, n1, c1, bb, r9, hpB, hb1, hb2⟩ | ⟨x, d, k, h0, r9⟩
    · obtain ⟨p, r, hps, _⟩ := i2 h0
      have hbig := i1.big
      have hn := hpB.len
      refine CC.seq ?_
      refine CC.seq ?_
      refine CC.region ?_
      refine LL.val (R.move rfl rfl) rfl rfl rfl ?_
      refine LL.val (R.move rfl rfl) rfl rfl rfl ?_
      refine LL.val (R.len rfl rfl rfl rfl) rfl rfl rfl ?_
      refine LL.val (R.ltF rfl rfl rfl (by omega)) rfl rfl rfl ?_
      refine LL.nilS ?_
      refine CC.no rfl ?_
      refine CC.exit ?_
      refine EE.thenX ?_
      refine EE.thenX ?_
      refine EE.inX ?_
      refine EE.thenN ?_
      refine CC.seq ?_
      refine CC.region ?_
      refine LL.val (R.move rfl rfl) rfl rfl rfl ?_
      refine LL.val (R.load rfl rfl (I.ldNc (vs := [Value.int IntKind.i64 S.dir, Value.slice a1 n1 c1, Value.int IntKind.i64 ↑S.links, Value.bool S.fol, Value.bool false, Value.int IntKind.i64 0, Value.int IntKind.i64 0, strV [], Value.int IntKind.i64 0, Value.int IntKind.i64 0]) (RowL.cells r9 rfl) (by rfl) (by rfl))) rfl rfl rfl ?_
      have la101 := r9.lt
      (refine LL.call (R.call rfl rfl rfl) rfl rfl rfl (same_run g hA p r h0 hps hbig a1 n1 c1 _ _ bb hpB) ?_; rintro e Wa100 ⟨rfl, ba97⟩; refine ⟨_, rfl, ?_⟩)
      have zba97 := ba97.size
      replace q := q.trans (ba97.mono q.size)
      replace hm := hm.up ba97
      replace hA := hA.up ba97
      replace r9 := r9.up ba97
      replace hpB := hpB.up ba97
      refine LL.val (R.move rfl rfl) rfl rfl rfl ?_
      have la133 := r9.lt
      (refine LL.call (R.call rfl rfl rfl) rfl rfl rfl (works17_any _ (by assumption)) ?_; rintro e Wa132 ⟨rfl, ba129⟩; refine ⟨_, rfl, ?_⟩)
      have zba129 := ba129.size
      replace ba97 := ba97.trans (ba129.mono ba97.size)
      replace q := q.trans (ba129.mono q.size)
      replace hm := hm.up ba129
      replace hA := hA.up ba129
      replace r9 := r9.up ba129
      replace hpB := hpB.up ba129
      refine LL.val (R.pick rfl rfl rfl) rfl rfl rfl ?_
      refine LL.val (R.assign rfl rfl) rfl rfl rfl ?_
      refine LL.nilS ?_
      refine CC.ret ?_
      refine EE.ret _ rfl rfl ?_
      exact ⟨rfl, q⟩
    · obtain ⟨x0, x1, x2, x3, x4⟩ := x
      dsimp only at r9
      refine CC.seq ?_
      refine CC.seq ?_
      refine CC.region ?_
      refine LL.val (R.move rfl rfl) rfl rfl rfl ?_
      refine LL.val (R.move rfl rfl) rfl rfl rfl ?_
      refine LL.val (R.len rfl rfl rfl rfl) rfl rfl rfl ?_
      refine LL.val (R.ltF rfl rfl rfl (by omega)) rfl rfl rfl ?_
      refine LL.nilS ?_
      refine CC.no rfl ?_
      refine CC.exit ?_
      refine EE.thenX ?_
      refine EE.thenX ?_
      refine EE.inX ?_
      refine EE.thenN ?_
      refine CC.seq ?_
      refine CC.region ?_
      refine LL.val (R.move rfl rfl) rfl rfl rfl ?_
      refine LL.val (R.load rfl rfl (I.ldNc (vs := [Value.int IntKind.i64 d, Value.slice none 0 0, Value.int IntKind.i64 k, Value.bool S.fol, Value.bool true, Value.int IntKind.i64 x0, Value.int IntKind.i64 x1, strV x2, Value.int IntKind.i64 x3, Value.int IntKind.i64 x4]) (RowL.cells r9 rfl) (by rfl) (by rfl))) rfl rfl rfl ?_
      have lb101 := r9.lt
      (refine LL.call (R.call rfl rfl rfl) rfl rfl rfl (same_done g hA (x0, x1, x2, x3, x4) h0 d k _) ?_; rintro e Wb100 ⟨rfl, bb97⟩; refine ⟨_, rfl, ?_⟩)
      have zbb97 := bb97.size
      replace q := q.trans (bb97.mono q.size)
      replace hm := hm.up bb97
      replace hA := hA.up bb97
      replace r9 := r9.up bb97
      refine LL.val (R.move rfl rfl) rfl rfl rfl ?_
      have lb133 := r9.lt
      (refine LL.call (R.call rfl rfl rfl) rfl rfl rfl (works17_any _ (by assumption)) ?_; rintro e Wb132 ⟨rfl, bb129⟩; refine ⟨_, rfl, ?_⟩)
      have zbb129 := bb129.size
      replace bb97 := bb97.trans (bb129.mono bb97.size)
      replace q := q.trans (bb129.mono q.size)
      replace hm := hm.up bb129
      replace hA := hA.up bb129
      replace r9 := r9.up bb129
      refine LL.val (R.pick rfl rfl rfl) rfl rfl rfl ?_
      refine LL.val (R.assign rfl rfl) rfl rfl rfl ?_
      refine LL.nilS ?_
      refine CC.ret ?_
      refine EE.ret _ rfl rfl ?_
      exact ⟨rfl, q⟩
  obtain ⟨⟨rm, fi, fk, ft⟩, hx⟩ : ∃ x, l[i]? = some x := ⟨_, List.getElem?_eq_getElem (by omega)⟩
  obtain ⟨b1, o1, rfl, lb1, _⟩ := (hF _ q).get rpEnc hx
  have m1F : ∀ X, Below w.heap.size w X → CellsN X ⟨b1, o1 + i * 4, none⟩ 4 [.bool rm, .int .i64 fi, .int .i64 fk, strV ft] := fun X b => (hF X b).elemN rpEnc hx
  have m3F : ∀ X, Below w.heap.size w X → Cells X ⟨b1, o1 + i * 4 + 1, none⟩ [.int .i64 fi, .int .i64 fk, strV ft] := fun X b => cells_sub (m1F X b).at' rfl
  have c0F : ∀ X, Below w.heap.size w X → X.cell? ⟨b1, o1 + i * 4 + 0, none⟩ = some (.bool rm) := fun X b => (m1F X b).at'.at (j := 0) rfl
  have c3F : ∀ X, Below w.heap.size w X → X.cell? ⟨b1, o1 + i * 4 + 1 + 2, none⟩ = some (strV ft) := fun X b => (m1F X b).at'.at (j := 3) rfl
  clear m1F hF hx
  by_cases hft : 200 < ft.length
  · refine CC.seq ?_
    refine CC.seq ?_
    refine CC.region ?_
    refine LL.val (R.move rfl rfl) rfl rfl rfl ?_
    refine LL.val (R.move rfl rfl) rfl rfl rfl ?_
    refine LL.val (R.len rfl rfl rfl rfl) rfl rfl rfl ?_
    refine LL.val (R.ltT rfl rfl rfl (by omega)) rfl rfl rfl ?_
    refine LL.nilS ?_
    refine CC.yes rfl ?_
    refine CC.skip ?_
    refine EE.thenN ?_
    refine CC.seq ?_
    refine CC.block ?_
    refine CC.seq ?_
    refine CC.seq ?_
    refine CC.region ?_
    refine LL.val (R.move rfl rfl) rfl rfl rfl ?_
    refine LL.val (R.move rfl rfl) rfl rfl rfl ?_
    refine LL.val (R.index rfl rfl rfl (I.ixS rfl (by omega))) rfl rfl rfl ?_
    refine LL.val (R.field rfl rfl (I.fld rfl)) rfl rfl rfl ?_
    refine LL.val (R.field rfl rfl (I.fld rfl)) rfl rfl rfl ?_
    (refine LL.val (R.load rfl rfl (I.ld1 rfl (c3F _ q))) rfl rfl rfl ?_)
    refine LL.val (R.lenS rfl rfl rfl rfl) rfl rfl rfl ?_
    refine LL.val (R.gtT rfl rfl rfl (by omega)) rfl rfl rfl ?_
    refine LL.nilS ?_
    refine CC.yes rfl ?_
    refine CC.seq ?_
    refine CC.region ?_
    (refine LL.call (R.call rfl rfl rfl) rfl rfl rfl (works17_any _ (by assumption)) ?_; rintro e Wc81 ⟨rfl, bc78⟩; refine ⟨_, rfl, ?_⟩)
    have zbc78 := bc78.size
    replace q := q.trans (bc78.mono q.size)
    replace hm := hm.up bc78
    replace hA := hA.up bc78
    refine LL.val (R.assign rfl rfl) rfl rfl rfl ?_
    refine LL.nilS ?_
    refine CC.ret ?_
    refine EE.thenR ?_
    refine EE.inR ?_
    refine EE.thenR ?_
    refine EE.thenR ?_
    refine EE.inR ?_
    refine EE.thenR ?_
    refine EE.ret _ rfl rfl ?_
    exact ⟨rfl, q⟩
  have ht1 : fk = 3 → ft.length ≤ 1048576 := fun _ => by omega
  rcases hR with ⟨h0, a1, n1, c1, bb, r9, hpB, hb1, hb2⟩ | ⟨x, d, k, h0, r9⟩
  case inr =>
    obtain ⟨x0, x1, x2, x3, x4⟩ := x
    dsimp only at r9
    have hfin : RwA2 W g9 g S := .inr ⟨(x0, x1, x2, x3, x4), d, k, h0, r9⟩
    have hgl := hA.lt
    cases rm with
    | true =>
      refine CC.seq ?_
      refine CC.seq ?_
      refine CC.region ?_
      refine LL.val (R.move rfl rfl) rfl rfl rfl ?_
      refine LL.val (R.move rfl rfl) rfl rfl rfl ?_
      refine LL.val (R.len rfl rfl rfl rfl) rfl rfl rfl ?_
      refine LL.val (R.ltT rfl rfl rfl (by omega)) rfl rfl rfl ?_
      refine LL.nilS ?_
      refine CC.yes rfl ?_
      refine CC.skip ?_
      refine EE.thenN ?_
      refine CC.seq ?_
      refine CC.block ?_
      refine CC.seq ?_
      refine CC.seq ?_
      refine CC.region ?_
      refine LL.val (R.move rfl rfl) rfl rfl rfl ?_
      refine LL.val (R.move rfl rfl) rfl rfl rfl ?_
      refine LL.val (R.index rfl rfl rfl (I.ixS rfl (by omega))) rfl rfl rfl ?_
      refine LL.val (R.field rfl rfl (I.fld rfl)) rfl rfl rfl ?_
      refine LL.val (R.field rfl rfl (I.fld rfl)) rfl rfl rfl ?_
      (refine LL.val (R.load rfl rfl (I.ld1 rfl (c3F _ q))) rfl rfl rfl ?_)
      refine LL.val (R.lenS rfl rfl rfl rfl) rfl rfl rfl ?_
      refine LL.val (R.gtF rfl rfl rfl (by omega)) rfl rfl rfl ?_
      refine LL.nilS ?_
      refine CC.no rfl ?_
      refine CC.skip ?_
      refine EE.thenN ?_
      refine CC.seq ?_
      refine CC.region ?_
      refine LL.val (R.move rfl rfl) rfl rfl rfl ?_
      have ld293 := r9.lt
      (refine LL.call (R.call rfl rfl rfl) rfl rfl rfl (copyA g hA) ?_; rintro e Wd292 ⟨gc, rfl, hC, hgc1, hgc2, bd289⟩; refine ⟨_, rfl, ?_⟩; have hkc := Kept.refl (fun j => j < (World.heap Wd292).size ∧ gc ≤ j) Wd292)
      have zbd289 := bd289.size
      replace q := q.trans (bd289.mono q.size)
      replace hm := hm.up bd289
      replace hA := hA.up bd289
      replace r9 := r9.up bd289
      refine LL.val (R.assign rfl rfl) rfl rfl rfl ?_
      refine LL.nilS ?_
      refine CC.seq ?_
      refine CC.region ?_
      refine LL.val (R.assign rfl rfl) rfl rfl rfl ?_
      refine LL.nilS ?_
      refine CC.seq ?_
      refine CC.seq ?_
      refine CC.region ?_
      refine LL.val (R.move rfl rfl) rfl rfl rfl ?_
      refine LL.val (R.move rfl rfl) rfl rfl rfl ?_
      refine LL.val (R.index rfl rfl rfl (I.ixS rfl (by omega))) rfl rfl rfl ?_
      refine LL.val (R.field rfl rfl (I.fld rfl)) rfl rfl rfl ?_
      (refine LL.val (R.load rfl rfl (I.ld1 rfl (c0F _ q))) rfl rfl rfl ?_)
      refine LL.nilS ?_
      refine CC.yes rfl ?_
      refine CC.region ?_
      refine LL.val (R.move rfl rfl) rfl rfl rfl ?_
      have ld485 := r9.lt
      (refine LL.call (R.call rfl rfl rfl) rfl rfl rfl (missD g hA _ h0) ?_; rintro e Wd484 ⟨rfl, bd481⟩; refine ⟨_, rfl, ?_⟩)
      have zbd481 := bd481.size
      replace bd289 := bd289.trans (bd481.mono bd289.size)
      replace hkc := hkc.trans (bkept bd481 (fun j h => by have := h.1; have := hkc.size; omega))
      have yd489 := hkc.size
      replace q := q.trans (bd481.mono q.size)
      replace hm := hm.up bd481
      replace hA := hA.up bd481
      replace r9 := r9.up bd481
      refine LL.val (R.assign rfl rfl) rfl rfl rfl ?_
      refine LL.nilS ?_
      refine CC.seq ?_
      refine CC.seq ?_
      refine CC.region ?_
      refine LL.val (R.move rfl rfl) rfl rfl rfl ?_
      refine LL.val (R.load rfl rfl (I.ldNc (vs := [Value.int IntKind.i64 d, Value.slice none 0 0, Value.int IntKind.i64 k, Value.bool S.fol, Value.bool true, Value.int IntKind.i64 x0, Value.int IntKind.i64 x1, strV x2, Value.int IntKind.i64 x3, Value.int IntKind.i64 x4]) (RowL.cells r9 rfl) (by rfl) (by rfl))) rfl rfl rfl ?_
      have ld574 := r9.lt
      (refine LL.call (R.call rfl rfl rfl) rfl rfl rfl (same_done gc (hC _ hkc) (x0, x1, x2, x3, x4) h0 d k _) ?_; rintro e Wd573 ⟨rfl, bd570⟩; refine ⟨_, rfl, ?_⟩)
      have zbd570 := bd570.size
      replace bd481 := bd481.trans (bd570.mono bd481.size)
      replace bd289 := bd289.trans (bd570.mono bd289.size)
      replace hkc := hkc.trans (bkept bd570 (fun j h => by have := h.1; have := hkc.size; omega))
      have yd578 := hkc.size
      replace q := q.trans (bd570.mono q.size)
      replace hm := hm.up bd570
      replace hA := hA.up bd570
      replace r9 := r9.up bd570
      refine LL.val (R.not rfl rfl) rfl rfl rfl ?_
      refine LL.val (R.move rfl rfl) rfl rfl rfl ?_
      refine LL.val (R.field rfl rfl (I.fld rfl)) rfl rfl rfl ?_
      refine LL.val (R.load rfl rfl (I.ld1 rfl (RowL.cell r9 rfl))) rfl rfl rfl ?_
      refine LL.val (R.move rfl rfl) rfl rfl rfl ?_
      refine LL.val (R.move rfl rfl) rfl rfl rfl ?_
      refine LL.call (R.call rfl rfl rfl) rfl rfl rfl (num17_any _ _) ?_
      rintro e W' ⟨rfl, rfl⟩
      refine ⟨_, rfl, ?_⟩
      refine LL.val (R.neF rfl rfl rfl (by omega)) rfl rfl rfl ?_
      refine LL.val (R.pick rfl rfl rfl) rfl rfl rfl ?_
      refine LL.val (R.pick rfl rfl rfl) rfl rfl rfl ?_
      refine LL.val (R.move rfl rfl) rfl rfl rfl ?_
      refine LL.val (R.field rfl rfl (I.fld rfl)) rfl rfl rfl ?_
      refine LL.val (R.load rfl rfl (I.ld1 rfl (RowL.cell r9 rfl))) rfl rfl rfl ?_
      refine LL.val (R.not rfl rfl) rfl rfl rfl ?_
      refine LL.val (R.move rfl rfl) rfl rfl rfl ?_
      refine LL.skip rfl rfl ?_
      refine LL.skip rfl rfl ?_
      refine LL.skip rfl rfl ?_
      refine LL.val (R.pick rfl rfl rfl) rfl rfl rfl ?_
      refine LL.val (R.pick rfl rfl rfl) rfl rfl rfl ?_
      refine LL.nilS ?_
      refine CC.no rfl ?_
      refine CC.skip ?_
      refine EE.thenN ?_
      refine CC.seq ?_
      refine CC.seq ?_
      refine CC.region ?_
      refine LL.val (R.field rfl rfl (I.fld rfl)) rfl rfl rfl ?_
      refine LL.val (R.load rfl rfl (I.ld1 rfl (RowL.cell r9 rfl))) rfl rfl rfl ?_
      refine LL.nilS ?_
      refine CC.yes rfl ?_
      refine CC.exit ?_
      refine EE.thenX ?_
      refine EE.inX ?_
      refine EE.thenN ?_
      refine CC.region ?_
      refine LL.val (R.move rfl rfl) rfl rfl rfl ?_
      refine LL.val (R.addNc rfl rfl rfl rfl (by omega)) rfl rfl rfl ?_
      refine LL.val (R.assign rfl rfl) rfl rfl rfl ?_
      refine LL.nil ?_
      exact EE.round (i + 1) ⟨rfl, rfl, rfl, rfl, trivial⟩ ⟨by show i + 1 ≤ N; omega, q, by assumption, by omega, S, hA, .inr ⟨(x0, x1, x2, x3, x4), d, k, h0, r9⟩, i1, i2, i3⟩ (by show N - (i + 1) < N - i; omega)
    | false =>
      refine CC.seq ?_
      refine CC.seq ?_
      refine CC.region ?_
      refine LL.val (R.move rfl rfl) rfl rfl rfl ?_
      refine LL.val (R.move rfl rfl) rfl rfl rfl ?_
      refine LL.val (R.len rfl rfl rfl rfl) rfl rfl rfl ?_
      refine LL.val (R.ltT rfl rfl rfl (by omega)) rfl rfl rfl ?_
      refine LL.nilS ?_
      refine CC.yes rfl ?_
      refine CC.skip ?_
      refine EE.thenN ?_
      refine CC.seq ?_
      refine CC.block ?_
      refine CC.seq ?_
      refine CC.seq ?_
      refine CC.region ?_
      refine LL.val (R.move rfl rfl) rfl rfl rfl ?_
      refine LL.val (R.move rfl rfl) rfl rfl rfl ?_
      refine LL.val (R.index rfl rfl rfl (I.ixS rfl (by omega))) rfl rfl rfl ?_
      refine LL.val (R.field rfl rfl (I.fld rfl)) rfl rfl rfl ?_
      refine LL.val (R.field rfl rfl (I.fld rfl)) rfl rfl rfl ?_
      (refine LL.val (R.load rfl rfl (I.ld1 rfl (c3F _ q))) rfl rfl rfl ?_)
      refine LL.val (R.lenS rfl rfl rfl rfl) rfl rfl rfl ?_
      refine LL.val (R.gtF rfl rfl rfl (by omega)) rfl rfl rfl ?_
      refine LL.nilS ?_
      refine CC.no rfl ?_
      refine CC.skip ?_
      refine EE.thenN ?_
      refine CC.seq ?_
      refine CC.region ?_
      refine LL.val (R.move rfl rfl) rfl rfl rfl ?_
      have le293 := r9.lt
      (refine LL.call (R.call rfl rfl rfl) rfl rfl rfl (copyA g hA) ?_; rintro e We292 ⟨gc, rfl, hC, hgc1, hgc2, be289⟩; refine ⟨_, rfl, ?_⟩; have hkc := Kept.refl (fun j => j < (World.heap We292).size ∧ gc ≤ j) We292)
      have zbe289 := be289.size
      replace q := q.trans (be289.mono q.size)
      replace hm := hm.up be289
      replace hA := hA.up be289
      replace r9 := r9.up be289
      refine LL.val (R.assign rfl rfl) rfl rfl rfl ?_
      refine LL.nilS ?_
      refine CC.seq ?_
      refine CC.region ?_
      refine LL.val (R.assign rfl rfl) rfl rfl rfl ?_
      refine LL.nilS ?_
      refine CC.seq ?_
      refine CC.seq ?_
      refine CC.region ?_
      refine LL.val (R.move rfl rfl) rfl rfl rfl ?_
      refine LL.val (R.move rfl rfl) rfl rfl rfl ?_
      refine LL.val (R.index rfl rfl rfl (I.ixS rfl (by omega))) rfl rfl rfl ?_
      refine LL.val (R.field rfl rfl (I.fld rfl)) rfl rfl rfl ?_
      (refine LL.val (R.load rfl rfl (I.ld1 rfl (c0F _ q))) rfl rfl rfl ?_)
      refine LL.nilS ?_
      refine CC.no rfl ?_
      refine CC.region ?_
      refine LL.val (R.move rfl rfl) rfl rfl rfl ?_
      refine LL.val (R.move rfl rfl) rfl rfl rfl ?_
      refine LL.val (R.move rfl rfl) rfl rfl rfl ?_
      refine LL.val (R.index rfl rfl rfl (I.ixS rfl (by omega))) rfl rfl rfl ?_
      refine LL.val (R.field rfl rfl (I.fld rfl)) rfl rfl rfl ?_
      (refine LL.val (R.load rfl rfl (I.ldNc (vs := [.int .i64 fi, .int .i64 fk, strV ft]) (m3F _ q) (by rfl) (by rfl))) rfl rfl rfl ?_)
      have le581 := r9.lt
      (refine LL.call (R.call rfl rfl rfl) rfl rfl rfl (giveD g hA _ h0 (fi, fk, ft)) ?_; rintro e We580 ⟨rfl, be577⟩; refine ⟨_, rfl, ?_⟩)
      have zbe577 := be577.size
      replace be289 := be289.trans (be577.mono be289.size)
      replace hkc := hkc.trans (bkept be577 (fun j h => by have := h.1; have := hkc.size; omega))
      have ye585 := hkc.size
      replace q := q.trans (be577.mono q.size)
      replace hm := hm.up be577
      replace hA := hA.up be577
      replace r9 := r9.up be577
      refine LL.val (R.assign rfl rfl) rfl rfl rfl ?_
      refine LL.nilS ?_
      refine CC.seq ?_
      refine CC.seq ?_
      refine CC.region ?_
      refine LL.val (R.move rfl rfl) rfl rfl rfl ?_
      refine LL.val (R.load rfl rfl (I.ldNc (vs := [Value.int IntKind.i64 d, Value.slice none 0 0, Value.int IntKind.i64 k, Value.bool S.fol, Value.bool true, Value.int IntKind.i64 x0, Value.int IntKind.i64 x1, strV x2, Value.int IntKind.i64 x3, Value.int IntKind.i64 x4]) (RowL.cells r9 rfl) (by rfl) (by rfl))) rfl rfl rfl ?_
      have le670 := r9.lt
      (refine LL.call (R.call rfl rfl rfl) rfl rfl rfl (same_done gc (hC _ hkc) (x0, x1, x2, x3, x4) h0 d k _) ?_; rintro e We669 ⟨rfl, be666⟩; refine ⟨_, rfl, ?_⟩)
      have zbe666 := be666.size
      replace be577 := be577.trans (be666.mono be577.size)
      replace be289 := be289.trans (be666.mono be289.size)
      replace hkc := hkc.trans (bkept be666 (fun j h => by have := h.1; have := hkc.size; omega))
      have ye674 := hkc.size
      replace q := q.trans (be666.mono q.size)
      replace hm := hm.up be666
      replace hA := hA.up be666
      replace r9 := r9.up be666
      refine LL.val (R.not rfl rfl) rfl rfl rfl ?_
      refine LL.val (R.move rfl rfl) rfl rfl rfl ?_
      refine LL.val (R.field rfl rfl (I.fld rfl)) rfl rfl rfl ?_
      refine LL.val (R.load rfl rfl (I.ld1 rfl (RowL.cell r9 rfl))) rfl rfl rfl ?_
      refine LL.val (R.move rfl rfl) rfl rfl rfl ?_
      refine LL.val (R.move rfl rfl) rfl rfl rfl ?_
      refine LL.call (R.call rfl rfl rfl) rfl rfl rfl (num17_any _ _) ?_
      rintro e W' ⟨rfl, rfl⟩
      refine ⟨_, rfl, ?_⟩
      refine LL.val (R.neF rfl rfl rfl (by omega)) rfl rfl rfl ?_
      refine LL.val (R.pick rfl rfl rfl) rfl rfl rfl ?_
      refine LL.val (R.pick rfl rfl rfl) rfl rfl rfl ?_
      refine LL.val (R.move rfl rfl) rfl rfl rfl ?_
      refine LL.val (R.field rfl rfl (I.fld rfl)) rfl rfl rfl ?_
      refine LL.val (R.load rfl rfl (I.ld1 rfl (RowL.cell r9 rfl))) rfl rfl rfl ?_
      refine LL.val (R.not rfl rfl) rfl rfl rfl ?_
      refine LL.val (R.move rfl rfl) rfl rfl rfl ?_
      refine LL.skip rfl rfl ?_
      refine LL.skip rfl rfl ?_
      refine LL.skip rfl rfl ?_
      refine LL.val (R.pick rfl rfl rfl) rfl rfl rfl ?_
      refine LL.val (R.pick rfl rfl rfl) rfl rfl rfl ?_
      refine LL.nilS ?_
      refine CC.no rfl ?_
      refine CC.skip ?_
      refine EE.thenN ?_
      refine CC.seq ?_
      refine CC.seq ?_
      refine CC.region ?_
      refine LL.val (R.field rfl rfl (I.fld rfl)) rfl rfl rfl ?_
      refine LL.val (R.load rfl rfl (I.ld1 rfl (RowL.cell r9 rfl))) rfl rfl rfl ?_
      refine LL.nilS ?_
      refine CC.yes rfl ?_
      refine CC.exit ?_
      refine EE.thenX ?_
      refine EE.inX ?_
      refine EE.thenN ?_
      refine CC.region ?_
      refine LL.val (R.move rfl rfl) rfl rfl rfl ?_
      refine LL.val (R.addNc rfl rfl rfl rfl (by omega)) rfl rfl rfl ?_
      refine LL.val (R.assign rfl rfl) rfl rfl rfl ?_
      refine LL.nil ?_
      exact EE.round (i + 1) ⟨rfl, rfl, rfl, rfl, trivial⟩ ⟨by show i + 1 ≤ N; omega, q, by assumption, by omega, S, hA, .inr ⟨(x0, x1, x2, x3, x4), d, k, h0, r9⟩, i1, i2, i3⟩ (by show N - (i + 1) < N - i; omega)
  obtain ⟨sd, sps, sk, sf, sfin⟩ := S
  dsimp only at h0 r9 hpB
  subst h0
  obtain ⟨p, r, hps, _⟩ := i2 rfl
  dsimp only at hps
  subst hps
  have hbig := i1.big
  have hlk : sk ≤ 8 := i1.links
  have hn := hpB.len
  have hgl := hA.lt
  have hlb := hpB.lt
  have hn1 : n1 ≤ 10000 := by rw [← hn]; exact hbig
  cases rm with
  | true =>
    have j1 := miss_ok i1
    have j2 := miss_asks (Wk.mk sd (p :: r) sk sf none)
    have j3 := miss_full (Wk.mk sd (p :: r) sk sf none)
    refine CC.seq ?_
    refine CC.seq ?_
    refine CC.region ?_
    refine LL.val (R.move rfl rfl) rfl rfl rfl ?_
    refine LL.val (R.move rfl rfl) rfl rfl rfl ?_
    refine LL.val (R.len rfl rfl rfl rfl) rfl rfl rfl ?_
    refine LL.val (R.ltT rfl rfl rfl (by omega)) rfl rfl rfl ?_
    refine LL.nilS ?_
    refine CC.yes rfl ?_
    refine CC.skip ?_
    refine EE.thenN ?_
    refine CC.seq ?_
    refine CC.block ?_
    refine CC.seq ?_
    refine CC.seq ?_
    refine CC.region ?_
    refine LL.val (R.move rfl rfl) rfl rfl rfl ?_
    refine LL.val (R.move rfl rfl) rfl rfl rfl ?_
    refine LL.val (R.index rfl rfl rfl (I.ixS rfl (by omega))) rfl rfl rfl ?_
    refine LL.val (R.field rfl rfl (I.fld rfl)) rfl rfl rfl ?_
    refine LL.val (R.field rfl rfl (I.fld rfl)) rfl rfl rfl ?_
    (refine LL.val (R.load rfl rfl (I.ld1 rfl (c3F _ q))) rfl rfl rfl ?_)
    refine LL.val (R.lenS rfl rfl rfl rfl) rfl rfl rfl ?_
    refine LL.val (R.gtF rfl rfl rfl (by omega)) rfl rfl rfl ?_
    refine LL.nilS ?_
    refine CC.no rfl ?_
    refine CC.skip ?_
    refine EE.thenN ?_
    refine CC.seq ?_
    refine CC.region ?_
    refine LL.val (R.move rfl rfl) rfl rfl rfl ?_
    have lf641 := r9.lt
    (refine LL.call (R.call rfl rfl rfl) rfl rfl rfl (copyA g hA) ?_; rintro e Wf640 ⟨gc, rfl, hC, hgc1, hgc2, bf637⟩; refine ⟨_, rfl, ?_⟩; have hkc := Kept.refl (fun j => j < (World.heap Wf640).size ∧ gc ≤ j) Wf640)
    have zbf637 := bf637.size
    replace q := q.trans (bf637.mono q.size)
    replace hm := hm.up bf637
    replace r9 := r9.up bf637
    replace hpB := hpB.up bf637
    replace hA := hA.up bf637
    refine LL.val (R.assign rfl rfl) rfl rfl rfl ?_
    refine LL.nilS ?_
    refine CC.seq ?_
    refine CC.region ?_
    refine LL.val (R.assign rfl rfl) rfl rfl rfl ?_
    refine LL.nilS ?_
    refine CC.seq ?_
    refine CC.seq ?_
    refine CC.region ?_
    refine LL.val (R.move rfl rfl) rfl rfl rfl ?_
    refine LL.val (R.move rfl rfl) rfl rfl rfl ?_
    refine LL.val (R.index rfl rfl rfl (I.ixS rfl (by omega))) rfl rfl rfl ?_
    refine LL.val (R.field rfl rfl (I.fld rfl)) rfl rfl rfl ?_
    (refine LL.val (R.load rfl rfl (I.ld1 rfl (c0F _ q))) rfl rfl rfl ?_)
    refine LL.nilS ?_
    refine CC.yes rfl ?_
    refine CC.region ?_
    refine LL.val (R.move rfl rfl) rfl rfl rfl ?_
    (refine LL.call (R.call rfl rfl rfl) rfl rfl rfl (missW g hA p r rfl rfl i1) ?_; rintro e Wf1027 ⟨rfl, hA2, tf1026⟩; clear hA; have hA := hA2; clear hA2; have zk9 := hkc.size; replace hkc := hkc.trans (Kept.less tf1026 fun j h => ⟨by have := h.1; omega, by have := h.2; omega⟩); clear zk9; refine ⟨_, rfl, ?_⟩)
    have ztf1026 := tf1026.size
    replace q := tf1026.onB q (fun j hj => ⟨by have := q.size; omega, by omega⟩)
    replace hm := hm.kept tf1026 ⟨by omega, by omega⟩
    replace r9 := r9.kept tf1026 ⟨r9.lt, by omega⟩
    replace hpB := hpB.kept tf1026 ⟨by omega, by omega⟩
    refine LL.val (R.assign rfl rfl) rfl rfl rfl ?_
    refine LL.nilS ?_
    refine CC.seq ?_
    refine CC.seq ?_
    refine CC.region ?_
    refine LL.val (R.move rfl rfl) rfl rfl rfl ?_
    refine LL.val (R.load rfl rfl (I.ldNc (vs := [Value.int IntKind.i64 sd, Value.slice a1 n1 c1, Value.int IntKind.i64 ↑sk, Value.bool sf, Value.bool false, Value.int IntKind.i64 0, Value.int IntKind.i64 0, strV [], Value.int IntKind.i64 0, Value.int IntKind.i64 0]) (RowL.cells r9 rfl) (by rfl) (by rfl))) rfl rfl rfl ?_
    have lf1209 := r9.lt
    (refine LL.call (R.call rfl rfl rfl) rfl rfl rfl (same_run gc (hC _ hkc) p r rfl rfl hbig _ n1 c1 _ _ bb hpB) ?_; rintro e Wf1208 ⟨rfl, bf1205⟩; refine ⟨_, rfl, ?_⟩)
    have zbf1205 := bf1205.size
    replace hA := hA.up bf1205
    replace hkc := hkc.trans (bkept bf1205 (fun j h => by have := h.1; have := hkc.size; omega))
    have yf1213 := hkc.size
    replace q := q.trans (bf1205.mono q.size)
    replace hm := hm.up bf1205
    replace r9 := r9.up bf1205
    replace hpB := hpB.up bf1205
    refine LL.val (R.not rfl rfl) rfl rfl rfl ?_
    refine LL.val (R.move rfl rfl) rfl rfl rfl ?_
    refine LL.val (R.field rfl rfl (I.fld rfl)) rfl rfl rfl ?_
    refine LL.val (R.load rfl rfl (I.ld1 rfl (RowL.cell r9 rfl))) rfl rfl rfl ?_
    refine LL.val (R.move rfl rfl) rfl rfl rfl ?_
    refine LL.skip rfl rfl ?_
    refine LL.skip rfl rfl ?_
    refine LL.skip rfl rfl ?_
    refine LL.val (R.pick rfl rfl rfl) rfl rfl rfl ?_
    refine LL.val (R.pick rfl rfl rfl) rfl rfl rfl ?_
    refine LL.val (R.move rfl rfl) rfl rfl rfl ?_
    refine LL.val (R.field rfl rfl (I.fld rfl)) rfl rfl rfl ?_
    refine LL.val (R.load rfl rfl (I.ld1 rfl (RowL.cell r9 rfl))) rfl rfl rfl ?_
    refine LL.val (R.not rfl rfl) rfl rfl rfl ?_
    refine LL.val (R.move rfl rfl) rfl rfl rfl ?_
    refine LL.val (R.move rfl rfl) rfl rfl rfl ?_
    refine LL.call (R.call rfl rfl rfl) rfl rfl rfl (num17_any _ _) ?_
    rintro e W' ⟨rfl, rfl⟩
    refine ⟨_, rfl, ?_⟩
    refine LL.val (R.neF rfl rfl rfl (by omega)) rfl rfl rfl ?_
    refine LL.val (R.pick rfl rfl rfl) rfl rfl rfl ?_
    refine LL.val (R.pick rfl rfl rfl) rfl rfl rfl ?_
    refine LL.nilS ?_
    refine CC.no rfl ?_
    refine CC.skip ?_
    refine EE.thenN ?_
    refine CC.seq ?_
    refine CC.seq ?_
    refine CC.region ?_
    refine LL.val (R.field rfl rfl (I.fld rfl)) rfl rfl rfl ?_
    refine LL.val (R.load rfl rfl (I.ld1 rfl (RowL.cell r9 rfl))) rfl rfl rfl ?_
    refine LL.nilS ?_
    refine CC.no rfl ?_
    refine CC.skip ?_
    refine EE.thenN ?_
    refine CC.seq ?_
    refine CC.seq ?_
    refine CC.region ?_
    refine LL.val (R.move rfl rfl) rfl rfl rfl ?_
    refine LL.val (R.move rfl rfl) rfl rfl rfl ?_
    refine LL.val (R.index rfl rfl rfl (I.ixS rfl (by omega))) rfl rfl rfl ?_
    refine LL.val (R.field rfl rfl (I.fld rfl)) rfl rfl rfl ?_
    (refine LL.val (R.load rfl rfl (I.ld1 rfl (c0F _ q))) rfl rfl rfl ?_)
    refine LL.nilS ?_
    refine CC.yes rfl ?_
    refine CC.region ?_
    refine LL.val (R.load rfl rfl (I.ldNc (vs := [Value.int IntKind.i64 sd, Value.slice a1 n1 c1, Value.int IntKind.i64 ↑sk, Value.bool sf, Value.bool false, Value.int IntKind.i64 0, Value.int IntKind.i64 0, strV [], Value.int IntKind.i64 0, Value.int IntKind.i64 0]) (RowL.cells r9 rfl) (by rfl) (by rfl))) rfl rfl rfl ?_
    have lf2513 := r9.lt
    (refine LL.call (R.call rfl rfl rfl) rfl rfl rfl (rmiss_any sd _ _ _ sk sf p r _ bb hpB (by omega) (by omega)) ?_; rintro e Wf2512 ⟨vo, bo7, rfl, ho7, hbo7, bf2509⟩; refine ⟨_, rfl, ?_⟩; obtain ⟨d7, a7, n7, c7, k7, f7, dn7, x7, rfl⟩ := ho7.form)
    have zbf2509 := bf2509.size
    replace bf1205 := bf1205.trans (bf2509.mono bf1205.size)
    replace hA := hA.up bf2509
    replace hkc := hkc.trans (bkept bf2509 (fun j h => by have := h.1; have := hkc.size; omega))
    have yf2517 := hkc.size
    replace q := q.trans (bf2509.mono q.size)
    replace hm := hm.up bf2509
    replace r9 := r9.up bf2509
    replace hpB := hpB.up bf2509
    (refine LL.storeN (vs := [.int .i64 d7, .slice a7 n7 c7, .int .i64 k7, .bool f7, .bool dn7, .int .i64 x7.1, .int .i64 x7.2.1, strV x7.2.2.1, .int .i64 x7.2.2.2.1, .int .i64 x7.2.2.2.2]) rfl rfl rfl rfl r9 (by exact Nat.le_of_ble_eq_true rfl) (ones_of rfl) rfl rfl ?_; intro Wf2552 r5 grf2550 zz9; have hA2 := WkAt.over (x := wdZ) hA j3 r9 grf2550 r5 (by omega) rfl; have hH : RwH Wf2552 g9 g (Wk.miss ⟨sd, p :: r, sk, sf, none⟩) := ⟨_, _, _, _, _, _, _, _, _, r5, ho7.gr grf2550 (by omega), by omega, by omega⟩; clear hA r9 r5 ho7; have hA := hA2; clear hA2)
    have zgrf2550 := grf2550.size
    replace hkc := hkc.trans (grown_kept grf2550 (fun j h => by have := h.1; have := hkc.size; omega) (fun j h e => by cases e; have h2 := h.1; have h3 := h.2; omega))
    replace q := q.grown grf2550 q.size (by rintro k ⟨⟩; omega)
    replace hm := hm.gr grf2550 (by have := hm.lt; omega)
    replace hpB := hpB.gr grf2550 (by have := hpB.lt; omega)
    refine LL.nilS ?_
    refine CC.seq ?_
    refine CC.region ?_
    ((fail_if_success (have := hok)); obtain ⟨d8, a8, n8, c8, k8, f8, dn8, x8, bo8, r9, ho2, hb3, hb4⟩ := hH)
    refine LL.val (R.move rfl rfl) rfl rfl rfl ?_
    refine LL.val (R.load rfl rfl (I.ldNc (vs := [Value.int IntKind.i64 d8, Value.slice a8 n8 c8, Value.int IntKind.i64 k8, Value.bool f8, Value.bool dn8, Value.int IntKind.i64 x8.1, Value.int IntKind.i64 x8.2.1, strV x8.2.2.1, Value.int IntKind.i64 x8.2.2.2.1, Value.int IntKind.i64 x8.2.2.2.2]) (RowL.cells r9 rfl) (by rfl) (by rfl))) rfl rfl rfl ?_
    have lf2753 := r9.lt
    (refine LL.call (R.call rfl rfl rfl) rfl rfl rfl (same_any g hA j2 j1 ho2) ?_; rintro e Wf2752 ⟨rfl, bf2749⟩; refine ⟨_, rfl, ?_⟩)
    have zbf2749 := bf2749.size
    replace hA := hA.up bf2749
    replace hkc := hkc.trans (bkept bf2749 (fun j h => by have := h.1; have := hkc.size; omega))
    have yf2757 := hkc.size
    replace q := q.trans (bf2749.mono q.size)
    replace hm := hm.up bf2749
    replace hpB := hpB.up bf2749
    replace r9 := r9.up bf2749
    replace ho2 := ho2.up bf2749
    refine LL.val (R.not rfl rfl) rfl rfl rfl ?_
    refine LL.nilS ?_
    refine CC.no rfl ?_
    refine CC.skip ?_
    refine EE.inN ?_
    refine EE.thenN ?_
    refine CC.region ?_
    refine LL.val (R.move rfl rfl) rfl rfl rfl ?_
    refine LL.val (R.addNc rfl rfl rfl rfl (by omega)) rfl rfl rfl ?_
    refine LL.val (R.assign rfl rfl) rfl rfl rfl ?_
    refine LL.nil ?_
    exact EE.round (i + 1) ⟨rfl, rfl, rfl, rfl, trivial⟩ ⟨by show i + 1 ≤ N; omega, q, by assumption, by omega, (Wk.miss ⟨sd, p :: r, sk, sf, none⟩), hA, ho2.a2 r9 hb3 hb4, j1, j2, j3⟩ (by show N - (i + 1) < N - i; omega)
  | false =>
    have j1 := give_ok i1 (fi, fk, ft)
    have j2 := give_asks i2 (fi, fk, ft)
    have j3 := give_full i3 (fi, fk, ft)
    refine CC.seq ?_
    refine CC.seq ?_
    refine CC.region ?_
    refine LL.val (R.move rfl rfl) rfl rfl rfl ?_
    refine LL.val (R.move rfl rfl) rfl rfl rfl ?_
    refine LL.val (R.len rfl rfl rfl rfl) rfl rfl rfl ?_
    refine LL.val (R.ltT rfl rfl rfl (by omega)) rfl rfl rfl ?_
    refine LL.nilS ?_
    refine CC.yes rfl ?_
    refine CC.skip ?_
    refine EE.thenN ?_
    refine CC.seq ?_
    refine CC.block ?_
    refine CC.seq ?_
    refine CC.seq ?_
    refine CC.region ?_
    refine LL.val (R.move rfl rfl) rfl rfl rfl ?_
    refine LL.val (R.move rfl rfl) rfl rfl rfl ?_
    refine LL.val (R.index rfl rfl rfl (I.ixS rfl (by omega))) rfl rfl rfl ?_
    refine LL.val (R.field rfl rfl (I.fld rfl)) rfl rfl rfl ?_
    refine LL.val (R.field rfl rfl (I.fld rfl)) rfl rfl rfl ?_
    (refine LL.val (R.load rfl rfl (I.ld1 rfl (c3F _ q))) rfl rfl rfl ?_)
    refine LL.val (R.lenS rfl rfl rfl rfl) rfl rfl rfl ?_
    refine LL.val (R.gtF rfl rfl rfl (by omega)) rfl rfl rfl ?_
    refine LL.nilS ?_
    refine CC.no rfl ?_
    refine CC.skip ?_
    refine EE.thenN ?_
    refine CC.seq ?_
    refine CC.region ?_
    refine LL.val (R.move rfl rfl) rfl rfl rfl ?_
    have lg737 := r9.lt
    (refine LL.call (R.call rfl rfl rfl) rfl rfl rfl (copyA g hA) ?_; rintro e Wg736 ⟨gc, rfl, hC, hgc1, hgc2, bg733⟩; refine ⟨_, rfl, ?_⟩; have hkc := Kept.refl (fun j => j < (World.heap Wg736).size ∧ gc ≤ j) Wg736)
    have zbg733 := bg733.size
    replace q := q.trans (bg733.mono q.size)
    replace hm := hm.up bg733
    replace r9 := r9.up bg733
    replace hpB := hpB.up bg733
    replace hA := hA.up bg733
    refine LL.val (R.assign rfl rfl) rfl rfl rfl ?_
    refine LL.nilS ?_
    refine CC.seq ?_
    refine CC.region ?_
    refine LL.val (R.assign rfl rfl) rfl rfl rfl ?_
    refine LL.nilS ?_
    refine CC.seq ?_
    refine CC.seq ?_
    refine CC.region ?_
    refine LL.val (R.move rfl rfl) rfl rfl rfl ?_
    refine LL.val (R.move rfl rfl) rfl rfl rfl ?_
    refine LL.val (R.index rfl rfl rfl (I.ixS rfl (by omega))) rfl rfl rfl ?_
    refine LL.val (R.field rfl rfl (I.fld rfl)) rfl rfl rfl ?_
    (refine LL.val (R.load rfl rfl (I.ld1 rfl (c0F _ q))) rfl rfl rfl ?_)
    refine LL.nilS ?_
    refine CC.no rfl ?_
    refine CC.region ?_
    refine LL.val (R.move rfl rfl) rfl rfl rfl ?_
    refine LL.val (R.move rfl rfl) rfl rfl rfl ?_
    refine LL.val (R.move rfl rfl) rfl rfl rfl ?_
    refine LL.val (R.index rfl rfl rfl (I.ixS rfl (by omega))) rfl rfl rfl ?_
    refine LL.val (R.field rfl rfl (I.fld rfl)) rfl rfl rfl ?_
    (refine LL.val (R.load rfl rfl (I.ldNc (vs := [.int .i64 fi, .int .i64 fk, strV ft]) (m3F _ q) (by rfl) (by rfl))) rfl rfl rfl ?_)
    (refine LL.call (R.call rfl rfl rfl) rfl rfl rfl (giveW g hA p r rfl rfl i1 (fi, fk, ft) (by assumption) hgg.2.2 ht1) ?_; rintro e Wg1423 ⟨rfl, hA2, tg1422⟩; clear hA; have hA := hA2; clear hA2; have zk9 := hkc.size; replace hkc := hkc.trans (Kept.less tg1422 fun j h => ⟨by have := h.1; omega, by have := h.2; omega⟩); clear zk9; refine ⟨_, rfl, ?_⟩)
    have ztg1422 := tg1422.size
    replace q := tg1422.onB q (fun j hj => ⟨by have := q.size; omega, by omega⟩)
    replace hm := hm.kept tg1422 ⟨by omega, by omega⟩
    replace r9 := r9.kept tg1422 ⟨r9.lt, by omega⟩
    replace hpB := hpB.kept tg1422 ⟨by omega, by omega⟩
    refine LL.val (R.assign rfl rfl) rfl rfl rfl ?_
    refine LL.nilS ?_
    refine CC.seq ?_
    refine CC.seq ?_
    refine CC.region ?_
    refine LL.val (R.move rfl rfl) rfl rfl rfl ?_
    refine LL.val (R.load rfl rfl (I.ldNc (vs := [Value.int IntKind.i64 sd, Value.slice a1 n1 c1, Value.int IntKind.i64 ↑sk, Value.bool sf, Value.bool false, Value.int IntKind.i64 0, Value.int IntKind.i64 0, strV [], Value.int IntKind.i64 0, Value.int IntKind.i64 0]) (RowL.cells r9 rfl) (by rfl) (by rfl))) rfl rfl rfl ?_
    have lg1629 := r9.lt
    (refine LL.call (R.call rfl rfl rfl) rfl rfl rfl (same_run gc (hC _ hkc) p r rfl rfl hbig _ n1 c1 _ _ bb hpB) ?_; rintro e Wg1628 ⟨rfl, bg1625⟩; refine ⟨_, rfl, ?_⟩)
    have zbg1625 := bg1625.size
    replace hA := hA.up bg1625
    replace hkc := hkc.trans (bkept bg1625 (fun j h => by have := h.1; have := hkc.size; omega))
    have yg1633 := hkc.size
    replace q := q.trans (bg1625.mono q.size)
    replace hm := hm.up bg1625
    replace r9 := r9.up bg1625
    replace hpB := hpB.up bg1625
    refine LL.val (R.not rfl rfl) rfl rfl rfl ?_
    refine LL.val (R.move rfl rfl) rfl rfl rfl ?_
    refine LL.val (R.field rfl rfl (I.fld rfl)) rfl rfl rfl ?_
    refine LL.val (R.load rfl rfl (I.ld1 rfl (RowL.cell r9 rfl))) rfl rfl rfl ?_
    refine LL.val (R.move rfl rfl) rfl rfl rfl ?_
    refine LL.skip rfl rfl ?_
    refine LL.skip rfl rfl ?_
    refine LL.skip rfl rfl ?_
    refine LL.val (R.pick rfl rfl rfl) rfl rfl rfl ?_
    refine LL.val (R.pick rfl rfl rfl) rfl rfl rfl ?_
    refine LL.val (R.move rfl rfl) rfl rfl rfl ?_
    refine LL.val (R.field rfl rfl (I.fld rfl)) rfl rfl rfl ?_
    refine LL.val (R.load rfl rfl (I.ld1 rfl (RowL.cell r9 rfl))) rfl rfl rfl ?_
    refine LL.val (R.not rfl rfl) rfl rfl rfl ?_
    refine LL.val (R.move rfl rfl) rfl rfl rfl ?_
    refine LL.val (R.move rfl rfl) rfl rfl rfl ?_
    refine LL.call (R.call rfl rfl rfl) rfl rfl rfl (num17_any _ _) ?_
    rintro e W' ⟨rfl, rfl⟩
    refine ⟨_, rfl, ?_⟩
    refine LL.val (R.neF rfl rfl rfl (by omega)) rfl rfl rfl ?_
    refine LL.val (R.pick rfl rfl rfl) rfl rfl rfl ?_
    refine LL.val (R.pick rfl rfl rfl) rfl rfl rfl ?_
    refine LL.nilS ?_
    refine CC.no rfl ?_
    refine CC.skip ?_
    refine EE.thenN ?_
    refine CC.seq ?_
    refine CC.seq ?_
    refine CC.region ?_
    refine LL.val (R.field rfl rfl (I.fld rfl)) rfl rfl rfl ?_
    refine LL.val (R.load rfl rfl (I.ld1 rfl (RowL.cell r9 rfl))) rfl rfl rfl ?_
    refine LL.nilS ?_
    refine CC.no rfl ?_
    refine CC.skip ?_
    refine EE.thenN ?_
    refine CC.seq ?_
    refine CC.seq ?_
    refine CC.region ?_
    refine LL.val (R.move rfl rfl) rfl rfl rfl ?_
    refine LL.val (R.move rfl rfl) rfl rfl rfl ?_
    refine LL.val (R.index rfl rfl rfl (I.ixS rfl (by omega))) rfl rfl rfl ?_
    refine LL.val (R.field rfl rfl (I.fld rfl)) rfl rfl rfl ?_
    (refine LL.val (R.load rfl rfl (I.ld1 rfl (c0F _ q))) rfl rfl rfl ?_)
    refine LL.nilS ?_
    refine CC.no rfl ?_
    refine CC.freeZ (fun W_ j => j < W_.heap.size ∧ (j ≠ g9)) (by kernel_rfl) (by kernel_rfl) (fun Wg3199 bg3198 zg3200 => ?_)
    replace bg1625 := bg1625.trans (bg3198.mono bg1625.size)
    replace hA := hA.up bg3198
    replace hkc := hkc.trans (bkept bg3198 (fun j h => by have := h.1; have := hkc.size; omega))
    have yg3201 := hkc.size
    replace q := q.trans (bg3198.mono q.size)
    replace hm := hm.up bg3198
    replace r9 := r9.up bg3198
    replace hpB := hpB.up bg3198
    have hok : Kept (fun j => j < Wg3199.heap.size ∧ (j ≠ g9)) Wg3199 Wg3199 := Kept.refl _ _
    refine AA.pure 1 rfl hok (by kernel_rfl) (fun w' b' => R.move rfl rfl) rfl rfl ?_
    refine AA.pure 2 rfl hok (by kernel_rfl) (fun w' b' => R.move rfl rfl) rfl rfl ?_
    refine AA.pure 3 rfl hok (by kernel_rfl) (fun w' b' => R.index rfl rfl rfl (I.ixS rfl (by omega))) rfl rfl ?_
    refine AA.pure 4 rfl hok (by kernel_rfl) (fun w' b' => R.field rfl rfl (I.fld rfl)) rfl rfl ?_
    refine AA.two 0 5 (by kernel_rfl) ?_ ?_
    refine SR.val rfl (R.load rfl rfl (I.ldNc (vs := [Value.int IntKind.i64 sd, Value.slice a1 n1 c1, Value.int IntKind.i64 ↑sk, Value.bool sf, Value.bool false, Value.int IntKind.i64 0, Value.int IntKind.i64 0, strV [], Value.int IntKind.i64 0, Value.int IntKind.i64 0]) (RowL.cells r9 rfl) (by rfl) (by rfl))) rfl rfl hok ?_
    refine AA.one 5 (by kernel_rfl) ?_
    (refine SR.val rfl (R.load rfl rfl (I.ldNc (vs := [.int .i64 fi, .int .i64 fk, strV ft]) (m3F _ q) (by rfl) (by rfl))) rfl rfl hok ?_)
    refine AA.one 6 (by kernel_rfl) ?_
    have lg3298 := r9.lt
    (refine SR.call rfl (R.call rfl rfl rfl) rfl rfl (rgive_any sd _ _ _ sk sf p r (fi, fk, ft) _ bb hpB (by omega) ht1 hlk (by omega)) ?_; rintro e Wg3297 ⟨vo, bo7, rfl, ho7, hbo7, bg3294⟩; refine ⟨_, rfl, ?_⟩; obtain ⟨d7, a7, n7, c7, k7, f7, dn7, x7, rfl⟩ := ho7.form)
    have zbg3294 := bg3294.size
    replace bg3198 := bg3198.trans (bg3294.mono bg3198.size)
    replace bg1625 := bg1625.trans (bg3294.mono bg1625.size)
    replace hA := hA.up bg3294
    replace hkc := hkc.trans (bkept bg3294 (fun j h => by have := h.1; have := hkc.size; omega))
    have yg3302 := hkc.size
    replace q := q.trans (bg3294.mono q.size)
    replace hm := hm.up bg3294
    replace r9 := r9.up bg3294
    replace hpB := hpB.up bg3294
    replace hok := hok.trans (bkept bg3294 (fun j h => by have := h.1; have := hok.size; omega))
    have yg3303 := hok.size
    refine ⟨hok, ?_⟩
    refine AA.one 7 (by kernel_rfl) ?_
    (refine ZR.storeN (vs := [.int .i64 d7, .slice a7 n7 c7, .int .i64 k7, .bool f7, .bool dn7, .int .i64 x7.1, .int .i64 x7.2.1, strV x7.2.2.1, .int .i64 x7.2.2.2.1, .int .i64 x7.2.2.2.2]) rfl rfl rfl rfl rfl r9 (by exact Nat.le_of_ble_eq_true rfl) (ones_of rfl) rfl rfl ?_; intro Wg3353 r5 grg3351 zz9; have hA2 := WkAt.over (x := wdZ) hA j3 r9 grg3351 r5 (by omega) rfl; have hH : RwH Wg3353 g9 g (Wk.give ⟨sd, p :: r, sk, sf, none⟩ (fi, fk, ft)) := ⟨_, _, _, _, _, _, _, _, _, r5, ho7.gr grg3351 (by omega), by omega, by omega⟩; clear hA r9 r5 ho7; have hA := hA2; clear hA2)
    have zgrg3351 := grg3351.size
    replace hkc := hkc.trans (grown_kept grg3351 (fun j h => by have := h.1; have := hkc.size; omega) (fun j h e => by cases e; have h2 := h.1; have h3 := h.2; omega))
    replace q := q.grown grg3351 q.size (by rintro k ⟨⟩; omega)
    replace hm := hm.gr grg3351 (by have := hm.lt; omega)
    replace hpB := hpB.gr grg3351 (by have := hpB.lt; omega)
    replace hok := hok.trans (grown_kept grg3351 (fun j h => by have := h.1; have := hok.size; omega) (fun j h e => by cases e; have h2 := h.1; have h3 := h.2; omega))
    refine ⟨hok, ?_⟩
    refine AA.done rfl ?_
    clear hok
    refine EE.thenN ?_
    refine CC.seq ?_
    refine CC.region ?_
    ((fail_if_success (have := hok)); obtain ⟨d8, a8, n8, c8, k8, f8, dn8, x8, bo8, r9, ho2, hb3, hb4⟩ := hH)
    refine LL.val (R.move rfl rfl) rfl rfl rfl ?_
    refine LL.val (R.load rfl rfl (I.ldNc (vs := [Value.int IntKind.i64 d8, Value.slice a8 n8 c8, Value.int IntKind.i64 k8, Value.bool f8, Value.bool dn8, Value.int IntKind.i64 x8.1, Value.int IntKind.i64 x8.2.1, strV x8.2.2.1, Value.int IntKind.i64 x8.2.2.2.1, Value.int IntKind.i64 x8.2.2.2.2]) (RowL.cells r9 rfl) (by rfl) (by rfl))) rfl rfl rfl ?_
    have lg3585 := r9.lt
    (refine LL.call (R.call rfl rfl rfl) rfl rfl rfl (same_any g hA j2 j1 ho2) ?_; rintro e Wg3584 ⟨rfl, bg3581⟩; refine ⟨_, rfl, ?_⟩)
    have zbg3581 := bg3581.size
    replace hA := hA.up bg3581
    replace hkc := hkc.trans (bkept bg3581 (fun j h => by have := h.1; have := hkc.size; omega))
    have yg3589 := hkc.size
    replace q := q.trans (bg3581.mono q.size)
    replace hm := hm.up bg3581
    replace hpB := hpB.up bg3581
    replace r9 := r9.up bg3581
    replace ho2 := ho2.up bg3581
    refine LL.val (R.not rfl rfl) rfl rfl rfl ?_
    refine LL.nilS ?_
    refine CC.no rfl ?_
    refine CC.skip ?_
    refine EE.inN ?_
    refine EE.thenN ?_
    refine CC.region ?_
    refine LL.val (R.move rfl rfl) rfl rfl rfl ?_
    refine LL.val (R.addNc rfl rfl rfl rfl (by omega)) rfl rfl rfl ?_
    refine LL.val (R.assign rfl rfl) rfl rfl rfl ?_
    refine LL.nil ?_
    exact EE.round (i + 1) ⟨rfl, rfl, rfl, rfl, trivial⟩ ⟨by show i + 1 ≤ N; omega, q, by assumption, by omega, (Wk.give ⟨sd, p :: r, sk, sf, none⟩ (fi, fk, ft)), hA, ho2.a2 r9 hb3 hb4, j1, j2, j3⟩ (by show N - (i + 1) < N - i; omega)
    (refine SR.val rfl (R.load rfl rfl (I.ldNc (vs := [.int .i64 fi, .int .i64 fk, strV ft]) (m3F _ q) (by rfl) (by rfl))) rfl rfl hok ?_)
    refine AA.one 0 (by kernel_rfl) ?_
    refine SR.val rfl (R.load rfl rfl (I.ldNc (vs := [Value.int IntKind.i64 sd, Value.slice a1 n1 c1, Value.int IntKind.i64 ↑sk, Value.bool sf, Value.bool false, Value.int IntKind.i64 0, Value.int IntKind.i64 0, strV [], Value.int IntKind.i64 0, Value.int IntKind.i64 0]) (RowL.cells r9 rfl) (by rfl) (by rfl))) rfl rfl hok ?_
    refine AA.one 6 (by kernel_rfl) ?_
    have lg3930 := r9.lt
    (refine SR.call rfl (R.call rfl rfl rfl) rfl rfl (rgive_any sd _ _ _ sk sf p r (fi, fk, ft) _ bb hpB (by omega) ht1 hlk (by omega)) ?_; rintro e Wg3929 ⟨vo, bo7, rfl, ho7, hbo7, bg3926⟩; refine ⟨_, rfl, ?_⟩; obtain ⟨d7, a7, n7, c7, k7, f7, dn7, x7, rfl⟩ := ho7.form)
    have zbg3926 := bg3926.size
    replace bg3198 := bg3198.trans (bg3926.mono bg3198.size)
    replace bg1625 := bg1625.trans (bg3926.mono bg1625.size)
    replace hA := hA.up bg3926
    replace hkc := hkc.trans (bkept bg3926 (fun j h => by have := h.1; have := hkc.size; omega))
    have yg3934 := hkc.size
    replace q := q.trans (bg3926.mono q.size)
    replace hm := hm.up bg3926
    replace r9 := r9.up bg3926
    replace hpB := hpB.up bg3926
    replace hok := hok.trans (bkept bg3926 (fun j h => by have := h.1; have := hok.size; omega))
    have yg3935 := hok.size
    refine ⟨hok, ?_⟩
    refine AA.one 7 (by kernel_rfl) ?_
    (refine ZR.storeN (vs := [.int .i64 d7, .slice a7 n7 c7, .int .i64 k7, .bool f7, .bool dn7, .int .i64 x7.1, .int .i64 x7.2.1, strV x7.2.2.1, .int .i64 x7.2.2.2.1, .int .i64 x7.2.2.2.2]) rfl rfl rfl rfl rfl r9 (by exact Nat.le_of_ble_eq_true rfl) (ones_of rfl) rfl rfl ?_; intro Wg3985 r5 grg3983 zz9; have hA2 := WkAt.over (x := wdZ) hA j3 r9 grg3983 r5 (by omega) rfl; have hH : RwH Wg3985 g9 g (Wk.give ⟨sd, p :: r, sk, sf, none⟩ (fi, fk, ft)) := ⟨_, _, _, _, _, _, _, _, _, r5, ho7.gr grg3983 (by omega), by omega, by omega⟩; clear hA r9 r5 ho7; have hA := hA2; clear hA2)
    have zgrg3983 := grg3983.size
    replace hkc := hkc.trans (grown_kept grg3983 (fun j h => by have := h.1; have := hkc.size; omega) (fun j h e => by cases e; have h2 := h.1; have h3 := h.2; omega))
    replace q := q.grown grg3983 q.size (by rintro k ⟨⟩; omega)
    replace hm := hm.gr grg3983 (by have := hm.lt; omega)
    replace hpB := hpB.gr grg3983 (by have := hpB.lt; omega)
    replace hok := hok.trans (grown_kept grg3983 (fun j h => by have := h.1; have := hok.size; omega) (fun j h e => by cases e; have h2 := h.1; have h3 := h.2; omega))
    refine ⟨hok, ?_⟩
    refine AA.done rfl ?_
    clear hok
    refine EE.thenN ?_
    refine CC.seq ?_
    refine CC.region ?_
    ((fail_if_success (have := hok)); obtain ⟨d8, a8, n8, c8, k8, f8, dn8, x8, bo8, r9, ho2, hb3, hb4⟩ := hH)
    refine LL.val (R.move rfl rfl) rfl rfl rfl ?_
    refine LL.val (R.load rfl rfl (I.ldNc (vs := [Value.int IntKind.i64 d8, Value.slice a8 n8 c8, Value.int IntKind.i64 k8, Value.bool f8, Value.bool dn8, Value.int IntKind.i64 x8.1, Value.int IntKind.i64 x8.2.1, strV x8.2.2.1, Value.int IntKind.i64 x8.2.2.2.1, Value.int IntKind.i64 x8.2.2.2.2]) (RowL.cells r9 rfl) (by rfl) (by rfl))) rfl rfl rfl ?_
    have lg4217 := r9.lt
    (refine LL.call (R.call rfl rfl rfl) rfl rfl rfl (same_any g hA j2 j1 ho2) ?_; rintro e Wg4216 ⟨rfl, bg4213⟩; refine ⟨_, rfl, ?_⟩)
    have zbg4213 := bg4213.size
    replace hA := hA.up bg4213
    replace hkc := hkc.trans (bkept bg4213 (fun j h => by have := h.1; have := hkc.size; omega))
    have yg4221 := hkc.size
    replace q := q.trans (bg4213.mono q.size)
    replace hm := hm.up bg4213
    replace hpB := hpB.up bg4213
    replace r9 := r9.up bg4213
    replace ho2 := ho2.up bg4213
    refine LL.val (R.not rfl rfl) rfl rfl rfl ?_
    refine LL.nilS ?_
    refine CC.no rfl ?_
    refine CC.skip ?_
    refine EE.inN ?_
    refine EE.thenN ?_
    refine CC.region ?_
    refine LL.val (R.move rfl rfl) rfl rfl rfl ?_
    refine LL.val (R.addNc rfl rfl rfl rfl (by omega)) rfl rfl rfl ?_
    refine LL.val (R.assign rfl rfl) rfl rfl rfl ?_
    refine LL.nil ?_
    exact EE.round (i + 1) ⟨rfl, rfl, rfl, rfl, trivial⟩ ⟨by show i + 1 ≤ N; omega, q, by assumption, by omega, (Wk.give ⟨sd, p :: r, sk, sf, none⟩ (fi, fk, ft)), hA, ho2.a2 r9 hb3 hb4, j1, j2, j3⟩ (by show N - (i + 1) < N - i; omega)
theorem asks_walk (path : Bs) (fol : Bool) (v : Value) (l : List Rp) (w : World) (hm : Mx w) (hv : ReadsT rpE 4 w v l) (hl : l.length ≤ 9223372036854775807) (hp : path.length ≤ 9223372036854775807) : Calls Tryd.prog 3 #[strV path, .bool fol, v] w fun e w' => e = .returned (.bool true) ∧ Below w.heap.size w w' := by
  by_cases h1 : 1100 < path.length
  · exact asks_far path fol v l w hm hv hl hp (.inl h1)
  by_cases h2 : 100 < l.length
  · exact asks_far path fol v l w hm hv hl hp (.inr h2)
  by_cases hz : pathN path = 0
  · exact asks_good path fol v l w hm hv hl hp h1 h2 hz
  · exact asks_bad path fol v l w hm hv hl hp h1 h2 _ rfl hz
def rpKs (j : Nat) : Ckd := if j = 0 then .bool else if j = 3 then .str else .int .i64
def rpOf (g : Nat → ZBS) : Rp := ((g 0).2.1, (g 1).1, (g 2).1, (g 3).2.2.data.toList)
theorem rpOf_enc (g : Nat → ZBS) : rpE (rpOf g) = (List.range 4).map fun j => cellQ (rpKs j) (g j) := by
  show [Value.bool (g 0).2.1, .int .i64 (g 1).1, .int .i64 (g 2).1, strV _] = [Value.bool (g 0).2.1, .int .i64 (g 1).1, .int .i64 (g 2).1, .string (g 3).2.2]
  rw [bs_data (g 3).2.2]
  rfl
theorem asks_shell (a0 : ByteArray) (fol : Bool) (v : Value) (gs : List (Nat → ZBS)) (w : World) (hm : Mx w) (hv : ReadsT rpE 4 w v (gs.map rpOf)) (h0 : a0.size ≤ maxLen) (hl : gs.length ≤ 9223372036854775807) : Calls Tryd.prog 3 #[.string a0, .bool fol, v] w fun e w' => e = .returned (.bool true) ∧ Below w.heap.size w w' := by
  rw [bs_data a0]
  have hp : a0.data.toList.length ≤ 9223372036854775807 := by
    rw [Array.length_toList]
    exact h0
  exact asks_walk a0.data.toList fol v _ w hm hv (by rw [List.length_map]; exact hl) hp
end Go.Proofs.YtbbddpnjglijdaaDoor
/- The statements' num, works. -/
namespace Go.Proofs.YtbbddpnjglijdaaDoor
set_option linter.unusedVariables false
set_option linter.unusedSimpArgs false
open Go.RowKit Go.Shelf
set_option maxRecDepth 100000
set_option maxHeartbeats 8000000

end Go.Proofs.YtbbddpnjglijdaaDoor
/- The walks of NamesChecks, NamesUnder, NamesShorts. -/
namespace Go.Proofs.YtbbddpnjglijdaaDoor
set_option linter.unusedVariables false
set_option linter.unusedSimpArgs false
open Go.RowKit Go.Shelf
set_option maxRecDepth 100000
set_option maxHeartbeats 8000000

end Go.Proofs.YtbbddpnjglijdaaDoor
/- What the package's variables hold when the call begins. -/
namespace Go.Proofs.YtbbddpnjglijdaaDoor
set_option linter.unusedVariables false
set_option linter.unusedSimpArgs false
open Go.ChangeShapes Go.WideShapes Go.ChangeAt Go.WideMaps Go.WideElems Go.RowKit

def laidHere : List (String × DataW Unit) := [("unicode/utf8.acceptRanges", Rows.laid_unicode_utf8_acceptRanges), ("unicode/utf8.first", Rows.laid_unicode_utf8_first)]
theorem mx_of {W : World} (h : W.ShapedOpen Tryd.prog) : Mx W := by
  have hg : ∃ m, W.cell? ⟨0, 0, none⟩ = some (.int .i64 m) := Go.Proofs.cell_of_shapedOpen_int (zero := #[.int .i64 0]) (t := 3) h (of_decide_eq_true (by kernel_rfl)) (by kernel_rfl) rfl (by kernel_rfl) (by kernel_rfl) Tryd.underlying3
  obtain ⟨m, hm⟩ := hg
  obtain ⟨o, ho, _⟩ := cells_of_cell hm
  exact ⟨⟨m, hm⟩, (Array.getElem?_eq_some_iff.1 ho).1⟩
variable {H : Type} {enc : TypeId × Value → H}
/-- The wrap with the variables' datum and the world's shape. -/
theorem handed_laid_shaped {a : Assume} {C : Checked} {os : Os} {f : FuncId} {fn : Func} {s : ChangeSpec} {conds : List PathCond} {apart fresh handsOn again : Bool} {X : World → Array Value → Prop}
    (own : ownKnob C.prog.godebug = none) (started : os.Started) (noInit : C.prog.inits.idxOf? f = none) (hfn : C.prog.funcs[f]? = some fn)
    (witness : ∃ (w : World) (tape : Tape) (i : Input), w.os = os ∧ (w.forCall tape i).Shaped C.prog ∧ i.vars = [] ∧ Input.okWide C.prog (w.forCall tape i) .any w.heap.size f i ∧
      ((s.pre enc C.prog fn conds apart (w.forCall tape i).memory i.args ∧ X (w.forCall tape i).memory i.args) ∧ sizedMet enc C.prog fn (OpenSpec.ofChange s) apart (w.forCall tape i).memory i.args) ∧ a.holds C.prog (lone (Frame.enter C.prog f i.args .normal) [] (w.forCall tape i)))
    (contract : ∀ (W : World) (base : Nat) (args : Array Value) (ds gs : List (DataW H)) (before : List MemPlace),
      (∀ (j : Nat) t v, fn.params[j]? = some t → args[j]? = some v → Value.okWide C.prog W .any base t v) →
      DataW.Whole enc C.prog fn.params.toList s.vars apart W args.toList ds gs before →
      W.ShapedOpen C.prog →
      Calls C.prog f args W fun e W' => ∃ v, e = .returned v ∧ s.post enc C.prog fn apart fresh handsOn again W args v W') :
    ReturnsInHanded a C os f .any (fun w args => (s.pre enc C.prog fn conds apart w args ∧ X w args) ∧ sizedMet enc C.prog fn (OpenSpec.ofChange s) apart w args) (s.post enc C.prog fn apart fresh handsOn again) := by
  refine returnsInHanded_of_calls own started noInit witness ?_
  intro w tape i _ hsh _ hok hpre _
  obtain ⟨_, _, _, fn', hfn', _, _, _, _, hval⟩ := hok
  obtain rfl : fn' = fn := Option.some.inj (hfn'.symm.trans hfn)
  obtain ⟨⟨⟨ds, gs, before, hw, _⟩, _⟩, _⟩ := hpre
  refine (contract (w.forCall tape i) w.heap.size i.args ds gs before hval (DataW.Whole.of_heap (w' := w.forCall tape i) (by rfl) hw) hsh).mono fun e W' ⟨v, he, hp⟩ => ?_
  subst he
  exact ChangeSpec.post_blind hp
end Go.Proofs.YtbbddpnjglijdaaDoor
