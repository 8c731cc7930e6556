/- The walk of LatchLeaves. -/
import Derived.Test.YtcchffdnbamkoaaWorks
namespace Go.Proofs.Ytcchffdnbamkoaa
set_option linter.unusedVariables false
set_option linter.unusedSimpArgs false
open Go.RowKit Go.Shelf

section
variable {P : Program} {fn : Func} {R : Ending → World → Prop} {n : Nat} {D : List Deferred} {M : Slots} {w : World} {x : ResultVar} {u : Value} {a : Act} {r : Option Nat} {c : Code} {Q : Exit → Act → World → Prop} {m : Nat}
theorem results1_run (F : Fr n D M a) (h : fn.results = #[x]) (hx : rv P w M x u) : (results fn a.tmps).run P w = .ok u w := by
  unfold results
  rw [h]
  cases x with
  | tmp t =>
    have g1 := F.get t _ hx
    simp only [List.mapM_toArray, List.mapM_cons, List.mapM_nil, g1]
    simp only [bind_assoc, pure_bind, Sem.run_bind, Sem.run_map, Sem.run_pure, Result.andThen_ok]
    rfl
  | cell s t =>
    obtain ⟨p, h0, h1⟩ := hx
    have g1 := F.get s _ h0
    simp only [List.mapM_toArray, List.mapM_cons, List.mapM_nil, g1, asAddr]
    simp only [bind_assoc, pure_bind, Sem.run_bind, Sem.run_map, Sem.run_pure, h1, Result.andThen_ok]
    rfl
theorem EE.retM1 (h : fn.results = #[x]) (hx : rv P w M x u) (hR : R (.returned u) w) : EE (calmP (bodyPostM Fence.wide 3 P fn R)) n [] M .ret w := EE.mk fun a F => by
  show LeavesInM Fence.wide 3 P fn a.tmps R a.defers .returning w
  rw [F.defers]
  exact ⟨_, results1_run F h hx, hR⟩
/-- Behind two ranges. -/
theorem EE.retNN {E1 E2 : Nat} (hE1 : w.heap[E1]? = some (.deferred (some []))) (hE2 : w.heap[E2]? = some (.deferred (some []))) (hne : E1 ≠ E2) (h : fn.results = #[x]) (hx : rv P (taken E1 (taken E2 w)) M x u) (hR : R (.returned u) (taken E1 (taken E2 w))) : EE (calmP (bodyPostM Fence.wide 3 P fn R)) n [mark E2, mark E1] M .ret w := EE.mk fun a F => by
  show LeavesInM Fence.wide 3 P fn a.tmps R a.defers .returning w
  rw [F.defers]
  have hE1' : (taken E2 w).heap[E1]? = some (.deferred (some [])) := (World.putObj_heap_other hne).trans hE1
  refine ⟨by simp, .inl ⟨_, _, rfl, run_takeDeferred hE2, ?_⟩⟩
  refine ⟨by simp, .inl ⟨_, _, rfl, run_takeDeferred hE1', ?_⟩⟩
  exact ⟨_, results1_run (P := P) F h hx, hR⟩
/-- A loop of so many rounds at most, each by itself. -/
structure RN (r : Option Nat) (P : Program) (c : Code) (Q : Exit → Act → World → Prop) (n : Nat) (D : List Deferred) (M : Slots) (m : Nat) (w : World) : Prop where
  h : ∀ a, Fr n D M a → Code.roundsIn (Wr r) 3 P c Q m a w
theorem CC.loopN (m : Nat) (h : RN r P c Q n D M m w) : CC r P Q n D M (.loop c) w := CC.mk fun a F => wpIn_loop_rounds m (h.h a F)
theorem RN.step (h : CC r P (Exit.then (fun a' w' => Code.roundsIn (Wr r) 3 P c Q m a' w') Q) n D M c w) : RN r P c Q n D M (m + 1) w := RN.mk fun a F => h.h a F
theorem RN.keep (L : List (Nat × Value)) (hL : Fits M L) (h : RN r P c Q n D (sl L) m w) : RN r P c Q n D M m w := RN.mk fun a F => h.h a (F.keep L hL)
theorem EE.again (h : RN r P c Q n D M m w) : EE (Exit.then (fun a' w' => Code.roundsIn (Wr r) 3 P c Q m a' w') Q) n D M .normal w := EE.mk fun a F => h.h a F
theorem R.max {o : Oper} {xs : Array Operand} {ts : Array TypeId} {k : IntKind} {y z : Int} (ho : o.op = .call { callee := .builtin .max, args := xs, argTypes := ts }) (hx : evsM M xs.toList = some [.int k y, .int k z]) : Runs P n D M o w (.value (.int k (if y < z then z else y))) w := R.builtin ho hx fun cs => by
  simp [Go.builtin, Builtin.max_, Builtin.max2]
theorem R.min {o : Oper} {xs : Array Operand} {ts : Array TypeId} {k : IntKind} {y z : Int} (ho : o.op = .call { callee := .builtin .min, args := xs, argTypes := ts }) (hx : evsM M xs.toList = some [.int k y, .int k z]) : Runs P n D M o w (.value (.int k (if z < y then z else y))) w := R.builtin ho hx fun cs => by
  simp [Go.builtin, Builtin.min_, Builtin.min2]
end

/-- What lies between two ranges. -/
structure LvAt (W w : World) (g3 g4 g6 gt b : Nat) (many : Int) (v6 vb : Value) (ws : List Tn) (tv : Int) : Prop where
  r3 : RowL W g3 3 [.int .i64 many]
  r4 : RowL W g4 4 [.bool false]
  r6 : RowL W g6 26 [v6]
  rt : RowL W gt 3 [.int .i64 tv]
  rb : RowL W b 26 [vb]
  h6 : ReadsTn W v6 ws
  hb : ReadsTn W vb ws
  bel : Below w.heap.size w W
  l4 : w.heap.size ≤ g4
  l34 : g4 ≠ g3
theorem LvAt.below {W W' w : World} {g3 g4 g6 gt b : Nat} {many : Int} {v6 vb : Value} {ws : List Tn} {tv : Int} (h : LvAt W w g3 g4 g6 gt b many v6 vb ws tv) (hb : Below W.heap.size W W') : LvAt W' w g3 g4 g6 gt b many v6 vb ws tv :=
  ⟨h.r3.below hb h.r3.lt, h.r4.below hb h.r4.lt, h.r6.below hb h.r6.lt, h.rt.below hb h.rt.lt, h.rb.below hb h.rb.lt, h.h6.below hb, h.hb.below hb, h.bel.trans (hb.mono h.bel.size), h.l4, h.l34⟩

set_option maxRecDepth 100000 in
set_option maxHeartbeats 8000000 in
theorem leaves_walk (v0 : Value) (xs : List Ac) (many : Int) (w : World) (ha : ReadsA w v0 xs) (hlx : xs.length ≤ 9223372036854775807) :
    Calls Try.prog 5 #[v0, .int .i64 many] w fun e w' => e = .returned (.bool true) ∧ Below w.heap.size w w' := by
  obtain ⟨N, hN⟩ : ∃ N, xs.length = N := ⟨_, rfl⟩
  have har := ha
  obtain ⟨a, cap, rfl, hc⟩ := ha.form hN
  rw [hN] at hlx
  refine X.fnM Try.func5 rfl (n := 88) rfl rfl ?_
  (refine CC.seq ?_; refine CC.region ?_)
  refine LL.box [.int .i64 many] rfl rfl rfl rfl rfl ?_
  intro w1 g3 e1 r1 z1 b1
  refine LL.alloc [.bool false] rfl rfl rfl rfl rfl ?_
  intro w2 g4 e2 r2 z2 b2
  have y1 := b1.size
  have y2 := b2.size
  have q2 : Below w.heap.size w w2 := b1.trans (b2.mono y1)
  have r32 := r1.below b2 r1.lt
  by_cases h40 : 40 < N
  · (refine LL.nilS ?_; refine CC.seq ?_; refine CC.seq ?_; refine CC.region ?_; refine LL.val (R.move rfl rfl) rfl rfl rfl ?_; refine LL.val (R.len rfl rfl rfl rfl) rfl rfl rfl ?_; refine LL.val (R.gtT rfl rfl rfl (by omega)) rfl rfl rfl ?_; refine LL.nilS ?_; refine CC.yes rfl ?_; refine CC.seq ?_; refine CC.region ?_)
    refine LL.call (R.call rfl rfl rfl) rfl rfl rfl (works_any _) ?_
    rintro e w3 ⟨rfl, b3⟩
    refine ⟨_, rfl, ?_⟩
    have q3 := q2.trans (b3.mono q2.size)
    skip
    refine LL.store rfl rfl rfl rfl (r2.below b3 r2.lt) (by decide) rfl rfl rfl rfl ?_
    intro w4 r4 g4' z4
    (refine LL.nilS ?_; refine CC.ret ?_; refine EE.thenR ?_)
    refine EE.retM1 rfl ⟨_, rfl, lv1 rfl (r4.cell rfl)⟩ ?_
    exact ⟨rfl, q3.grown g4' q3.size (by rintro k ⟨⟩; omega)⟩
  (refine LL.nilS ?_; refine CC.seq ?_; refine CC.seq ?_; refine CC.region ?_; refine LL.val (R.move rfl rfl) rfl rfl rfl ?_; refine LL.val (R.len rfl rfl rfl rfl) rfl rfl rfl ?_; refine LL.val (R.gtF rfl rfl rfl (by omega)) rfl rfl rfl ?_; refine LL.nilS ?_; refine CC.no rfl ?_; refine CC.skip ?_; refine EE.thenN ?_; refine CC.seq ?_; refine CC.region ?_; refine LL.val (R.move rfl rfl) rfl rfl rfl ?_)
  refine LL.call (R.call rfl rfl rfl) rfl rfl rfl (played_any _ xs w2 (har.below q2) (by omega)) ?_
  rintro e w3 ⟨g, vh, vw, rfl, hg, hL3, b3⟩
  refine ⟨_, rfl, ?_⟩
  have hS := playP_good xs
  obtain ⟨S, hSe⟩ : ∃ S, playP xs = S := ⟨_, rfl⟩
  rw [hSe] at hL3 hS
  have hl8 := hS.len
  have y3 := b3.size
  (refine LL.val (R.assign rfl rfl) rfl rfl rfl ?_; refine LL.nilS ?_; refine CC.seq ?_; refine CC.region ?_; refine LL.val (R.move rfl rfl) rfl rfl rfl ?_)
  refine LL.call (R.call rfl rfl rfl) rfl rfl rfl (waits_is w3 hL3 hS) ?_
  rintro e w4 ⟨v6, rfl, o4, b4⟩
  refine ⟨_, rfl, ?_⟩
  have y4 := b4.size
  (refine LL.val (R.move rfl rfl) rfl rfl rfl ?_; refine LL.val (R.extract rfl rfl rfl) rfl rfl rfl ?_; refine LL.val (R.extract rfl rfl rfl) rfl rfl rfl ?_)
  refine LL.alloc [.slice none 0 0] rfl rfl rfl rfl rfl ?_
  intro w5 g6 e5 r5 z5 b5
  have y5 := b5.size
  have h65 := (o4.below b5).reads tEnc
  obtain ⟨a6, cp6, rfl, _⟩ := h65.form (n := S.2.length) rfl
  skip
  refine LL.store rfl rfl rfl rfl r5 (by exact Nat.le_of_ble_eq_true rfl) rfl rfl rfl rfl ?_
  intro w6 r6 g6' z6
  have b46 : Below w4.heap.size w4 w6 := b5.grown g6' (by omega) (by rintro k ⟨⟩; omega)
  have y6 := b46.size
  have h66 := (o4.below b46).reads tEnc
  have b36 : Below w3.heap.size w3 w6 := b4.trans (b46.mono y4)
  (refine LL.val (R.assign rfl rfl) rfl rfl rfl ?_; refine LL.nilS ?_; refine CC.seq ?_; refine CC.region ?_; refine LL.val (R.move rfl rfl) rfl rfl rfl ?_)
  refine LL.call (R.call rfl rfl rfl) rfl rfl rfl (lwaits_any w6 (hL3.below b36) (by omega)) ?_
  rintro e w7 ⟨b, vb, rfl, hb, rb7, ob7, hvb, b7⟩
  refine ⟨_, rfl, ?_⟩
  have y7 := b7.size
  obtain ⟨ab, cpb, rfl, _⟩ := (ob7.reads tEnc).form (n := S.2.length) rfl
  have b27 : Below w2.heap.size w2 w7 := (b3.trans (b36.mono y3)).trans (b7.mono (by omega))
  have q7 : Below w.heap.size w w7 := q2.trans (b27.mono q2.size)
  (refine LL.val (R.assign rfl rfl) rfl rfl rfl ?_; refine LL.nilS ?_; refine CC.seq ?_; refine CC.seq ?_; refine CC.region ?_; refine LL.val (R.move rfl rfl) rfl rfl rfl ?_; refine LL.val (R.not rfl rfl) rfl rfl rfl ?_; refine LL.val (R.move rfl rfl) rfl rfl rfl ?_; refine LL.val (R.move rfl rfl) rfl rfl rfl ?_; refine LL.val (R.eqFn rfl rfl rfl rfl) rfl rfl rfl ?_; refine LL.val (R.pick rfl rfl rfl) rfl rfl rfl ?_; refine LL.nilS ?_; refine CC.no rfl ?_; refine CC.skip ?_; refine EE.thenN ?_; refine CC.seq ?_; refine CC.seq ?_; refine CC.region ?_)
  refine LL.alloc [.int .i64 0] rfl rfl rfl rfl rfl ?_
  intro w8 gt e8 r8 z8 b8
  skip
  refine LL.store (v := .int .i64 0) rfl rfl rfl rfl r8 (by decide) rfl rfl rfl rfl ?_
  intro w9 r9 g9' z9
  have b79 : Below w7.heap.size w7 w9 := b8.grown g9' (by omega) (by rintro k ⟨⟩; omega)
  have hV9 : LvAt w9 w g3 g4 g6 gt b many (.slice a6 S.2.length cp6) (.slice ab S.2.length cpb) S.2 0 :=
    ⟨(r32.below b27 r32.lt).below b79 (by have := r32.lt; omega), (r2.below b27 r2.lt).below b79 (by have := r2.lt; omega), (r6.below b7 r6.lt).below b79 (by have := r6.lt; omega), r9, rb7.below b79 rb7.lt, (h66.below b7).below b79, (ob7.reads tEnc).below b79, q7.trans (b79.mono q7.size), by omega, by omega⟩
  obtain ⟨L, hLn⟩ : ∃ L, S.2.length = L := ⟨_, rfl⟩
  have hL8 : L ≤ 8 := by omega
  rw [hLn] at hV9
  clear hL3 o4 h65 h66 ob7 rb7 r6 r5 r8 r9 r2 r32 r1
  (refine LL.nilS ?_; refine CC.block ?_)
  refine CC.keep [(3, .pointer (some ⟨g3, 0, none⟩)), (4, .pointer (some ⟨g4, 0, none⟩)), (6, .pointer (some ⟨g6, 0, none⟩)), (8, .func (.func 31) #[] [Value.pointer (some ⟨b, 0, none⟩)].toArray), (9, .pointer (some ⟨gt, 0, none⟩))] ⟨rfl, rfl, rfl, rfl, rfl, trivial⟩ ?_
  refine CC.loopN 3 ?_
  refine RN.step ?_
  have hT := hV9.rt
  (refine CC.seq ?_; refine CC.seq ?_; refine CC.region ?_; refine LL.val (R.load rfl rfl (I.ld1 rfl (RowL.cell (by assumption) rfl))) rfl rfl rfl ?_; refine LL.val (R.ltT rfl rfl rfl (by omega)) rfl rfl rfl ?_; refine LL.nilS ?_; refine CC.yes rfl ?_; refine CC.skip ?_; refine EE.thenN ?_; refine CC.seq ?_; refine CC.block ?_; refine CC.seq ?_; refine CC.region ?_)
  refine LL.alloc [.int .i64 0] rfl rfl rfl rfl rfl ?_
  intro wA g10 eA rA zA bA
  skip
  refine LL.store (v := .int .i64 0) rfl rfl rfl rfl rA (by decide) rfl rfl rfl rfl ?_
  intro wB rB gB zB
  have bAB : Below w9.heap.size w9 wB := bA.grown gB (by omega) (by rintro k ⟨⟩; omega)
  have hVB := hV9.below bAB
  have yB := bAB.size
  have hg10 := rB.lt
  have hDk : ∀ k, (0 < L ∧ ∃ x : Addr, ab = some x ∧ k = x.block) → k < w9.heap.size := by
    rintro k ⟨h0, x, rfl, rfl⟩
    obtain ⟨_, _, e, _, h⟩ := hV9.hb
    cases e
    obtain ⟨b', off', e', hlt, _⟩ := h (by intro e2; rw [e2] at h0; simp at h0)
    cases e'
    exact hlt
  (refine LL.nilS ?_; refine CC.seq ?_; refine CC.seq ?_; refine CC.region ?_; refine LL.val (R.move rfl rfl) rfl rfl rfl ?_; refine LL.nilS ?_; refine CC.block ?_)
  refine CC.rangeM (γ := Nat) (gf := 31) (lb := [Value.pointer (some ⟨b, 0, none⟩)]) (encs := encN) rfl rfl (waits_gives b L cpb ab S.2 wB hVB.rb hVB.hb hLn (by omega)) (Below.refl _ _) (fun k hk => by have := hDk k hk; omega) (fun _ => rfl) rfl
    (fun m pre W' => Below w9.heap.size w9 W' ∧ RowL W' g10 3 [.int .i64 (pre.length : Int)] ∧ (pre.length = 0 ∨ (pre.length : Int) < many))
    (fun m pre W' => Below w9.heap.size w9 W' ∧ RowL W' g10 3 [.int .i64 (pre.length : Int)] ∧ (many ≤ pre.length ∧ (pre.length = 1 ∨ (pre.length : Int) - 1 < many) ∧ 1 ≤ pre.length ∧ pre.length ≤ L))
    (fun W' => Below w9.heap.size w9 W' ∧ ∃ p : Nat, RowL W' g10 3 [.int .i64 (p : Int)] ∧ ((p : Int) = if (if 1 < many then many else 1) < (L : Int) then (if 1 < many then many else 1) else (L : Int)))
    ?hI ?hIx (fun m => ⟨bAB, rB, .inl rfl⟩) ?hIA ?hIxA
    (fun x g12 => sl [(3, .pointer (some ⟨g3, 0, none⟩)), (6, .pointer (some ⟨g6, 0, none⟩)), (9, .pointer (some ⟨gt, 0, none⟩)), (10, .pointer (some ⟨g10, 0, none⟩)), (11, .int .i64 (x.1 : Int)), (12, .pointer (some ⟨g12, 0, none⟩))]) (fun x g12 W' => RowL W' g12 51 (tE x.2)) (fun x g12 => RowL.own) ?assign ?body ?after
  case hI =>
    rintro m s X Y ⟨h1, h2, h3⟩ ht
    exact ⟨h1.trans (ht.below yB h1.size), ht.same g10 _ h2 (.inl hg10), h3⟩
  case hIx =>
    rintro m s X Y ⟨h1, h2, h3⟩ ht
    exact ⟨h1.trans (ht.below yB h1.size), ht.same g10 _ h2 (.inl hg10), h3⟩
  case hIA =>
    rintro m xs W' rfl ⟨h1, h2, h3⟩
    have hn : (numP S.2).length = L := by rw [numP_len]; exact hLn
    exact ⟨h1, (numP S.2).length, h2, by rw [hn] at h3 ⊢; rcases h3 with h3 | h3 <;> split <;> split <;> omega⟩
  case hIxA =>
    rintro m pre W' hp ⟨h1, h2, h3⟩
    exact ⟨h1, pre.length, h2, by split <;> split <;> omega⟩
  case assign =>
    intro l' m pre x Wr K hm hm2 hi hK
    obtain ⟨h1, h2, h3⟩ := hi
    (refine CC.seq ?_; refine CC.region ?_; refine LL.val (R.assign rfl rfl) rfl rfl rfl ?_; refine LL.nilS ?_; refine CC.region ?_)
    refine LL.alloc (tE (0, false)) rfl rfl rfl rfl rfl ?_
    intro w5 g5 e5 r5 z5 b5
    skip
    refine LL.storeN (vs := tE x.2) rfl rfl rfl rfl r5 (Nat.le_of_ble_eq_true rfl) (tEnc.one x.2) rfl rfl ?_
    intro w6 r6 g6' z6
    have q6 : Below Wr.heap.size Wr w6 := b5.grown g6' (by omega) (by rintro k ⟨⟩; omega)
    (refine LL.nil ?_)
    exact EE.thenK fun a' F => hK a' w6 g5 (Stays.of_below q6) (Keeps.of_below (fun k hk => by have := hDk k hk; omega) q6) ⟨h1.trans (q6.mono h1.size), h2.below q6 h2.lt, h3⟩ (F.keep _ ⟨rfl, rfl, rfl, rfl, rfl, rfl, trivial⟩) r6
  case body =>
    intro l' m pre x g12 Wr hm hm2 hl' hrl hi hax hp
    obtain ⟨h1, h2, h3⟩ := hi
    obtain ⟨hx1, hx2, hx3⟩ := numP_part hp
    have hpl : pre.length < L := by rw [← hLn]; exact (List.getElem?_eq_some_iff.1 hx2).1
    have hVr := (hV9.below h1).below below_drew
    obtain ⟨b6, off6, ea6, hb6, hcs6⟩ := hVr.h6.get tEnc hx2
    subst ea6
    have c10 : Wr.drew.cell? ⟨g10, 0, none⟩ = some (.int .i64 (pre.length : Int)) := h2.drew.cell rfl
    have c6 := hVr.r6.cell (j := 0) rfl
    have c9 := hVr.rt.cell (j := 0) rfl
    have c3 := hVr.r3.cell (j := 0) rfl
    (refine CC.block ?_; refine CC.seq ?_; refine CC.seq ?_)
    refine CC.quiet (by kernel_rfl) (by kernel_rfl) ?_
    (refine SS.val (R.move rfl rfl) rfl rfl ?_; refine SS.val (R.load rfl rfl (I.ld1 rfl (by assumption))) rfl rfl ?_; refine SS.val (R.neF rfl rfl rfl (by omega)) rfl rfl ?_; refine SS.val (R.move rfl rfl) rfl rfl ?_; refine SS.val (R.load rfl rfl (I.ld1 rfl (by assumption))) rfl rfl ?_; refine SS.val (R.load rfl rfl (I.ld1 rfl (by assumption))) rfl rfl ?_; refine SS.val (R.len rfl rfl rfl rfl) rfl rfl ?_; refine SS.val (R.geF rfl rfl rfl (by omega)) rfl rfl ?_; refine SS.val (R.pick rfl rfl rfl) rfl rfl ?_; refine SS.val (R.move rfl rfl) rfl rfl ?_)
    refine SS.val (R.load rfl rfl (I.ldN (vs := tE x.2) rfl rfl (hax.drew.cells rfl))) rfl rfl ?_
    (refine SS.val (R.load rfl rfl (I.ld1 rfl (by assumption))) rfl rfl ?_; refine SS.val (R.load rfl rfl (I.ld1 rfl (by assumption))) rfl rfl ?_; refine SS.val (R.index rfl rfl rfl (I.ixS rfl (by omega))) rfl rfl ?_)
    refine SS.val (R.load rfl rfl (I.ldN (vs := tE x.2) rfl rfl hcs6)) rfl rfl ?_
    refine SS.val (R.neTurn (b := false) rfl rfl rfl (by simp)) rfl rfl ?_
    (refine SS.val (R.pick rfl rfl rfl) rfl rfl ?_; refine SS.nilQ ?_)
    (refine EE.thenN ?_; refine CC.no rfl ?_; refine CC.skip ?_; refine EE.thenN ?_; refine CC.seq ?_; refine CC.region ?_; refine LL.val (R.load rfl rfl (I.ld1 rfl (by assumption))) rfl rfl rfl ?_; refine LL.val (R.addNc rfl rfl rfl rfl (by omega)) rfl rfl rfl ?_)
    refine LL.store rfl rfl rfl rfl h2.drew (by exact Nat.le_of_ble_eq_true rfl) rfl rfl rfl rfl ?_
    intro w7 r7 g7 z7
    have hyd : Wr.drew.heap.size = Wr.heap.size := rfl
    have hb7 : Below w9.heap.size w9 w7 := (h1.drew).grown g7 (by have := h1.size; omega) (by rintro k ⟨⟩; omega)
    have hV7 := hV9.below hb7
    have hst7 : Stays wB.heap.size m Wr w7 := (Stays.of_below below_drew).trans (Stays.of_grown g7 hg10)
    have hkp7 : Keeps (fun k => 0 < L ∧ ∃ x : Addr, ab = some x ∧ k = x.block) Wr w7 := (Keeps.of_below (fun k hk => by have := hDk k hk; have := h1.size; omega) below_drew).trans (keeps_owned g7 fun k hk => ⟨by have := hDk k hk; have := h1.size; omega, by intro e; cases e; have := hDk _ hk; omega⟩)
    have hlen : (pre ++ [x]).length = pre.length + 1 := by simp
    have r7' : RowL w7 g10 3 [.int .i64 ((pre ++ [x]).length : Int)] := by rw [hlen]; exact r7
    have d10 : w7.cell? ⟨g10, 0, none⟩ = some (.int .i64 ((pre.length + 1 : Nat) : Int)) := r7.cell rfl
    have d9 := hV7.rt.cell (j := 0) rfl
    have d3 := hV7.r3.cell (j := 0) rfl
    by_cases hmany : many ≤ (pre.length : Int) + 1
    · (refine LL.nilS ?_; refine CC.seq ?_; refine CC.region ?_; refine LL.val (R.load rfl rfl (I.ld1 rfl (by assumption))) rfl rfl rfl ?_; refine LL.val (R.eqT rfl rfl rfl (by omega)) rfl rfl rfl ?_; refine LL.val (R.move rfl rfl) rfl rfl rfl ?_; refine LL.val (R.load rfl rfl (I.ld1 rfl (by assumption))) rfl rfl rfl ?_; refine LL.val (R.load rfl rfl (I.ld1 rfl (by assumption))) rfl rfl rfl ?_; refine LL.val (R.geT rfl rfl rfl (by omega)) rfl rfl rfl ?_; refine LL.val (R.pick rfl rfl rfl) rfl rfl rfl ?_; refine LL.nilS ?_; refine CC.yes rfl ?_; refine CC.exit ?_; refine EE.inX' rfl ?_)
      exact EE.roundX ⟨hst7, rfl, hb7, r7', by rw [hlen]; omega, by rw [hlen]; omega, by rw [hlen]; omega, by rw [hlen]; omega⟩
    · (refine LL.nilS ?_; refine CC.seq ?_; refine CC.region ?_; refine LL.val (R.load rfl rfl (I.ld1 rfl (by assumption))) rfl rfl rfl ?_; refine LL.val (R.eqT rfl rfl rfl (by omega)) rfl rfl rfl ?_; refine LL.val (R.move rfl rfl) rfl rfl rfl ?_; refine LL.val (R.load rfl rfl (I.ld1 rfl (by assumption))) rfl rfl rfl ?_; refine LL.val (R.load rfl rfl (I.ld1 rfl (by assumption))) rfl rfl rfl ?_; refine LL.val (R.geF rfl rfl rfl (by omega)) rfl rfl rfl ?_; refine LL.val (R.pick rfl rfl rfl) rfl rfl rfl ?_; refine LL.nilS ?_; refine CC.no rfl ?_; refine CC.skip ?_; refine EE.inN ?_)
      exact EE.roundN ⟨hst7, hkp7, hb7, r7', .inr (by rw [hlen]; omega)⟩
  case after =>
    rintro E1 Wd hE1 ⟨h1, p, hrp, hcp⟩ hK1
    have hVd := hV9.below h1
    have c10 : Wd.cell? ⟨g10, 0, none⟩ = some (.int .i64 (p : Int)) := hrp.cell rfl
    have c6 := hVd.r6.cell (j := 0) rfl
    have c9 := hVd.rt.cell (j := 0) rfl
    have c3 := hVd.r3.cell (j := 0) rfl
    (refine EE.thenN ?_; refine CC.seq ?_; refine CC.region ?_; refine LL.val (R.load rfl rfl (I.ld1 rfl (by assumption))) rfl rfl rfl ?_; refine LL.val (R.eqT rfl rfl rfl (by omega)) rfl rfl rfl ?_; refine LL.val (R.move rfl rfl) rfl rfl rfl ?_; refine LL.val (R.load rfl rfl (I.ld1 rfl (by assumption))) rfl rfl rfl ?_; refine LL.val (R.load rfl rfl (I.ld1 rfl (by assumption))) rfl rfl rfl ?_; refine LL.val (R.len rfl rfl rfl rfl) rfl rfl rfl ?_; refine LL.val (R.load rfl rfl (I.ld1 rfl (by assumption))) rfl rfl rfl ?_)
    refine LL.val (R.max rfl rfl) rfl rfl rfl ?_
    refine LL.val (R.min rfl rfl) rfl rfl rfl ?_
    obtain ⟨zz, hzz⟩ : ∃ zz : Int, (if (if 1 < many then many else 1) < (L : Int) then (if 1 < many then many else 1) else (L : Int)) = zz := ⟨_, rfl⟩
    rw [hzz] at hcp ⊢
    (refine LL.val (R.neF rfl rfl rfl (by omega)) rfl rfl rfl ?_; refine LL.val (R.pick rfl rfl rfl) rfl rfl rfl ?_; refine LL.val (R.move rfl rfl) rfl rfl rfl ?_; refine LL.val (R.load rfl rfl (I.ld1 rfl (by assumption))) rfl rfl rfl ?_; refine LL.val (R.eqF rfl rfl rfl (by omega)) rfl rfl rfl ?_; refine LL.val (R.move rfl rfl) rfl rfl rfl ?_; refine LL.skip rfl rfl ?_; refine LL.skip rfl rfl ?_; refine LL.skip rfl rfl ?_; refine LL.skip rfl rfl ?_; refine LL.val (R.pick rfl rfl rfl) rfl rfl rfl ?_; refine LL.val (R.pick rfl rfl rfl) rfl rfl rfl ?_; refine LL.nilS ?_; refine CC.no rfl ?_; refine CC.skip ?_; refine EE.inN ?_; refine EE.thenN ?_; refine CC.seq ?_; refine CC.seq ?_; refine CC.region ?_; refine LL.val (R.load rfl rfl (I.ld1 rfl (by assumption))) rfl rfl rfl ?_; refine LL.nilS ?_; refine CC.region ?_)
    refine LL.alloc [.int .i64 0] rfl rfl rfl rfl rfl ?_
    intro w5 gu e5 r5 z5 b5
    skip
    refine LL.store (v := .int .i64 0) rfl rfl rfl rfl r5 (by decide) rfl rfl rfl rfl ?_
    intro w6 r6 g6' z6
    (refine LL.nilS ?_; refine CC.region ?_; refine LL.val (R.load rfl rfl (I.ld1 rfl (RowL.cell (by assumption) rfl))) rfl rfl rfl ?_; refine LL.val (R.addI rfl rfl rfl (by omega)) rfl rfl rfl ?_)
    refine LL.store (v := .int .i64 1) rfl rfl rfl rfl r6 (by decide) rfl rfl rfl rfl ?_
    intro w7 r7 g7 z7
    have bd7 : Below Wd.heap.size Wd w7 := (b5.grown g6' (by omega) (by rintro k ⟨⟩; omega)).grown g7 (by omega) (by rintro k ⟨⟩; omega)
    have hV0 := hVd.below bd7
    have hV7 : LvAt w7 w g3 g4 g6 gu b many (.slice a6 L cp6) (.slice ab L cpb) S.2 1 := ⟨hV0.r3, hV0.r4, hV0.r6, r7, hV0.rb, hV0.h6, hV0.hb, hV0.bel, hV0.l4, hV0.l34⟩
    have hEl : E1 < Wd.heap.size := (Array.getElem?_eq_some_iff.1 hK1).1
    have hK7 : w7.heap[E1]? = some (.deferred (some [])) := (bd7.block E1 hEl).trans hK1
    have hEl7 : E1 < w7.heap.size := (Array.getElem?_eq_some_iff.1 hK7).1
    have hE14 : g4 < E1 := by have := hV9.r4.lt; omega
    clear hVd c10 c6 c9 c3 hcp hrp h1 r5 r6 hVB rB hT rA
    (refine LL.nil ?_)
    refine EE.again ?_
    refine RN.keep [(3, .pointer (some ⟨g3, 0, none⟩)), (4, .pointer (some ⟨g4, 0, none⟩)), (6, .pointer (some ⟨g6, 0, none⟩)), (8, .func (.func 31) #[] [Value.pointer (some ⟨b, 0, none⟩)].toArray), (9, .pointer (some ⟨gu, 0, none⟩))] ⟨rfl, rfl, rfl, rfl, rfl, trivial⟩ ?_
    refine RN.step ?_
    have hT := hV7.rt
    (refine CC.seq ?_; refine CC.seq ?_; refine CC.region ?_; refine LL.val (R.load rfl rfl (I.ld1 rfl (RowL.cell (by assumption) rfl))) rfl rfl rfl ?_; refine LL.val (R.ltT rfl rfl rfl (by omega)) rfl rfl rfl ?_; refine LL.nilS ?_; refine CC.yes rfl ?_; refine CC.skip ?_; refine EE.thenN ?_; refine CC.seq ?_; refine CC.block ?_; refine CC.seq ?_; refine CC.region ?_)
    refine LL.alloc [.int .i64 0] rfl rfl rfl rfl rfl ?_
    intro wA g10 eA rA zA bA
    skip
    refine LL.store (v := .int .i64 0) rfl rfl rfl rfl rA (by decide) rfl rfl rfl rfl ?_
    intro wB rB gB zB
    have bAB : Below w7.heap.size w7 wB := bA.grown gB (by omega) (by rintro k ⟨⟩; omega)
    have hVB := hV7.below bAB
    have yB := bAB.size
    have hg10 := rB.lt
    have hDk : ∀ k, (0 < L ∧ ∃ x : Addr, ab = some x ∧ k = x.block) → k < w7.heap.size := by
      rintro k ⟨h0, x, rfl, rfl⟩
      obtain ⟨_, _, e, _, h⟩ := hV7.hb
      cases e
      obtain ⟨b', off', e', hlt, _⟩ := h (by intro e2; rw [e2] at h0; simp at h0)
      cases e'
      exact hlt
    (refine LL.nilS ?_; refine CC.seq ?_; refine CC.seq ?_; refine CC.region ?_; refine LL.val (R.move rfl rfl) rfl rfl rfl ?_; refine LL.nilS ?_; refine CC.block ?_)
    refine CC.rangeM (γ := Nat) (gf := 31) (lb := [Value.pointer (some ⟨b, 0, none⟩)]) (encs := encN) rfl rfl (waits_gives b L cpb ab S.2 wB hVB.rb hVB.hb hLn (by omega)) (Below.refl _ _) (fun k hk => by have := hDk k hk; omega) (fun _ => rfl) rfl
      (fun m pre W' => Below w7.heap.size w7 W' ∧ RowL W' g10 3 [.int .i64 (pre.length : Int)] ∧ True)
      (fun m pre W' => Below w7.heap.size w7 W' ∧ RowL W' g10 3 [.int .i64 (pre.length : Int)] ∧ False)
      (fun W' => Below w7.heap.size w7 W' ∧ ∃ p : Nat, RowL W' g10 3 [.int .i64 (p : Int)] ∧ p = L)
      ?hI ?hIx (fun m => ⟨bAB, rB, trivial⟩) ?hIA ?hIxA
      (fun x g12 => sl [(3, .pointer (some ⟨g3, 0, none⟩)), (6, .pointer (some ⟨g6, 0, none⟩)), (9, .pointer (some ⟨gu, 0, none⟩)), (10, .pointer (some ⟨g10, 0, none⟩)), (11, .int .i64 (x.1 : Int)), (12, .pointer (some ⟨g12, 0, none⟩))]) (fun x g12 W' => RowL W' g12 51 (tE x.2)) (fun x g12 => RowL.own) ?assign ?body ?after
    case hI =>
      rintro m s X Y ⟨h1, h2, h3⟩ ht
      exact ⟨h1.trans (ht.below yB h1.size), ht.same g10 _ h2 (.inl hg10), h3⟩
    case hIx =>
      rintro m s X Y ⟨h1, h2, h3⟩ ht
      exact ⟨h1.trans (ht.below yB h1.size), ht.same g10 _ h2 (.inl hg10), h3⟩
    case hIA =>
      rintro m xs W' rfl ⟨h1, h2, h3⟩
      have hn : (numP S.2).length = L := by rw [numP_len]; exact hLn
      exact ⟨h1, (numP S.2).length, h2, hn⟩
    case hIxA =>
      rintro m pre W' hp ⟨h1, h2, h3⟩
      exact h3.elim
    case assign =>
      intro l' m pre x Wr K hm hm2 hi hK
      obtain ⟨h1, h2, h3⟩ := hi
      (refine CC.seq ?_; refine CC.region ?_; refine LL.val (R.assign rfl rfl) rfl rfl rfl ?_; refine LL.nilS ?_; refine CC.region ?_)
      refine LL.alloc (tE (0, false)) rfl rfl rfl rfl rfl ?_
      intro w5 g5 e5 r5 z5 b5
      skip
      refine LL.storeN (vs := tE x.2) rfl rfl rfl rfl r5 (Nat.le_of_ble_eq_true rfl) (tEnc.one x.2) rfl rfl ?_
      intro w6 r6 g6' z6
      have q6 : Below Wr.heap.size Wr w6 := b5.grown g6' (by omega) (by rintro k ⟨⟩; omega)
      (refine LL.nil ?_)
      exact EE.thenK fun a' F => hK a' w6 g5 (Stays.of_below q6) (Keeps.of_below (fun k hk => by have := hDk k hk; omega) q6) ⟨h1.trans (q6.mono h1.size), h2.below q6 h2.lt, h3⟩ (F.keep _ ⟨rfl, rfl, rfl, rfl, rfl, rfl, trivial⟩) r6
    case body =>
      intro l' m pre x g12 Wr hm hm2 hl' hrl hi hax hp
      obtain ⟨h1, h2, h3⟩ := hi
      obtain ⟨hx1, hx2, hx3⟩ := numP_part hp
      have hpl : pre.length < L := by rw [← hLn]; exact (List.getElem?_eq_some_iff.1 hx2).1
      have hVr := (hV7.below h1).below below_drew
      obtain ⟨b6, off6, ea6, hb6, hcs6⟩ := hVr.h6.get tEnc hx2
      subst ea6
      have c10 : Wr.drew.cell? ⟨g10, 0, none⟩ = some (.int .i64 (pre.length : Int)) := h2.drew.cell rfl
      have c6 := hVr.r6.cell (j := 0) rfl
      have c9 := hVr.rt.cell (j := 0) rfl
      have c3 := hVr.r3.cell (j := 0) rfl
      (refine CC.block ?_; refine CC.seq ?_; refine CC.seq ?_)
      refine CC.quiet (by kernel_rfl) (by kernel_rfl) ?_
      (refine SS.val (R.move rfl rfl) rfl rfl ?_; refine SS.val (R.load rfl rfl (I.ld1 rfl (by assumption))) rfl rfl ?_; refine SS.val (R.neF rfl rfl rfl (by omega)) rfl rfl ?_; refine SS.val (R.move rfl rfl) rfl rfl ?_; refine SS.val (R.load rfl rfl (I.ld1 rfl (by assumption))) rfl rfl ?_; refine SS.val (R.load rfl rfl (I.ld1 rfl (by assumption))) rfl rfl ?_; refine SS.val (R.len rfl rfl rfl rfl) rfl rfl ?_; refine SS.val (R.geF rfl rfl rfl (by omega)) rfl rfl ?_; refine SS.val (R.pick rfl rfl rfl) rfl rfl ?_; refine SS.val (R.move rfl rfl) rfl rfl ?_)
      refine SS.val (R.load rfl rfl (I.ldN (vs := tE x.2) rfl rfl (hax.drew.cells rfl))) rfl rfl ?_
      (refine SS.val (R.load rfl rfl (I.ld1 rfl (by assumption))) rfl rfl ?_; refine SS.val (R.load rfl rfl (I.ld1 rfl (by assumption))) rfl rfl ?_; refine SS.val (R.index rfl rfl rfl (I.ixS rfl (by omega))) rfl rfl ?_)
      refine SS.val (R.load rfl rfl (I.ldN (vs := tE x.2) rfl rfl hcs6)) rfl rfl ?_
      refine SS.val (R.neTurn (b := false) rfl rfl rfl (by simp)) rfl rfl ?_
      (refine SS.val (R.pick rfl rfl rfl) rfl rfl ?_; refine SS.nilQ ?_)
      (refine EE.thenN ?_; refine CC.no rfl ?_; refine CC.skip ?_; refine EE.thenN ?_; refine CC.seq ?_; refine CC.region ?_; refine LL.val (R.load rfl rfl (I.ld1 rfl (by assumption))) rfl rfl rfl ?_; refine LL.val (R.addNc rfl rfl rfl rfl (by omega)) rfl rfl rfl ?_)
      refine LL.store rfl rfl rfl rfl h2.drew (by exact Nat.le_of_ble_eq_true rfl) rfl rfl rfl rfl ?_
      intro wE r7 g7 z7
      have hyd : Wr.drew.heap.size = Wr.heap.size := rfl
      have hb7 : Below w7.heap.size w7 wE := (h1.drew).grown g7 (by have := h1.size; omega) (by rintro k ⟨⟩; omega)
      have hVE := hV7.below hb7
      have hst7 : Stays wB.heap.size m Wr wE := (Stays.of_below below_drew).trans (Stays.of_grown g7 hg10)
      have hkp7 : Keeps (fun k => 0 < L ∧ ∃ x : Addr, ab = some x ∧ k = x.block) Wr wE := (Keeps.of_below (fun k hk => by have := hDk k hk; have := h1.size; omega) below_drew).trans (keeps_owned g7 fun k hk => ⟨by have := hDk k hk; have := h1.size; omega, by intro e; cases e; have := hDk _ hk; omega⟩)
      have hlen : (pre ++ [x]).length = pre.length + 1 := by simp
      have r7' : RowL wE g10 3 [.int .i64 ((pre ++ [x]).length : Int)] := by rw [hlen]; exact r7
      have d10 : wE.cell? ⟨g10, 0, none⟩ = some (.int .i64 ((pre.length + 1 : Nat) : Int)) := r7.cell rfl
      have d9 := hVE.rt.cell (j := 0) rfl
      have d3 := hVE.r3.cell (j := 0) rfl
      (refine LL.nilS ?_; refine CC.seq ?_; refine CC.region ?_; refine LL.val (R.load rfl rfl (I.ld1 rfl (by assumption))) rfl rfl rfl ?_; refine LL.val (R.eqF rfl rfl rfl (by omega)) rfl rfl rfl ?_; refine LL.val (R.move rfl rfl) rfl rfl rfl ?_; refine LL.skip rfl rfl ?_; refine LL.skip rfl rfl ?_; refine LL.skip rfl rfl ?_; refine LL.val (R.pick rfl rfl rfl) rfl rfl rfl ?_; refine LL.nilS ?_; refine CC.no rfl ?_; refine CC.skip ?_; refine EE.inN ?_)
      exact EE.roundN ⟨hst7, hkp7, hb7, r7', trivial⟩
    case after =>
      rintro E2 Wd hE2 ⟨h1, p, hrp, hcp⟩ hK2
      have hVd := hV7.below h1
      have c10 : Wd.cell? ⟨g10, 0, none⟩ = some (.int .i64 (p : Int)) := hrp.cell rfl
      have c6 := hVd.r6.cell (j := 0) rfl
      have c9 := hVd.rt.cell (j := 0) rfl
      have c3 := hVd.r3.cell (j := 0) rfl
      (refine EE.thenN ?_; refine CC.seq ?_; refine CC.region ?_; refine LL.val (R.load rfl rfl (I.ld1 rfl (by assumption))) rfl rfl rfl ?_; refine LL.val (R.eqF rfl rfl rfl (by omega)) rfl rfl rfl ?_; refine LL.val (R.move rfl rfl) rfl rfl rfl ?_; refine LL.skip rfl rfl ?_; refine LL.skip rfl rfl ?_; refine LL.skip rfl rfl ?_; refine LL.skip rfl rfl ?_; refine LL.skip rfl rfl ?_; refine LL.skip rfl rfl ?_; refine LL.skip rfl rfl ?_; refine LL.val (R.pick rfl rfl rfl) rfl rfl rfl ?_; refine LL.val (R.move rfl rfl) rfl rfl rfl ?_; refine LL.val (R.load rfl rfl (I.ld1 rfl (by assumption))) rfl rfl rfl ?_; refine LL.val (R.eqT rfl rfl rfl (by omega)) rfl rfl rfl ?_; refine LL.val (R.move rfl rfl) rfl rfl rfl ?_; refine LL.val (R.load rfl rfl (I.ld1 rfl (by assumption))) rfl rfl rfl ?_; refine LL.val (R.load rfl rfl (I.ld1 rfl (by assumption))) rfl rfl rfl ?_; refine LL.val (R.len rfl rfl rfl rfl) rfl rfl rfl ?_; refine LL.val (R.neF rfl rfl rfl (by omega)) rfl rfl rfl ?_; refine LL.val (R.pick rfl rfl rfl) rfl rfl rfl ?_; refine LL.val (R.pick rfl rfl rfl) rfl rfl rfl ?_; refine LL.nilS ?_; refine CC.no rfl ?_; refine CC.skip ?_; refine EE.inN ?_; refine EE.thenN ?_; refine CC.seq ?_; refine CC.seq ?_; refine CC.region ?_; refine LL.val (R.load rfl rfl (I.ld1 rfl (by assumption))) rfl rfl rfl ?_; refine LL.nilS ?_; refine CC.region ?_)
      refine LL.alloc [.int .i64 0] rfl rfl rfl rfl rfl ?_
      intro w5 gu e5 r5 z5 b5
      skip
      refine LL.store (v := .int .i64 1) rfl rfl rfl rfl r5 (by decide) rfl rfl rfl rfl ?_
      intro w6 r6 g6' z6
      (refine LL.nilS ?_; refine CC.region ?_; refine LL.val (R.load rfl rfl (I.ld1 rfl (RowL.cell (by assumption) rfl))) rfl rfl rfl ?_; refine LL.val (R.addI rfl rfl rfl (by omega)) rfl rfl rfl ?_)
      refine LL.store (v := .int .i64 2) rfl rfl rfl rfl r6 (by decide) rfl rfl rfl rfl ?_
      intro w8 r8 g8 z8
      have bd8 : Below Wd.heap.size Wd w8 := (b5.grown g6' (by omega) (by rintro k ⟨⟩; omega)).grown g8 (by omega) (by rintro k ⟨⟩; omega)
      have hV8 := hVd.below bd8
      have hEl2 : E2 < Wd.heap.size := (Array.getElem?_eq_some_iff.1 hK2).1
      have hK8 : w8.heap[E2]? = some (.deferred (some [])) := (bd8.block E2 hEl2).trans hK2
      have hK18 : w8.heap[E1]? = some (.deferred (some [])) := (bd8.block E1 (by have := h1.size; omega)).trans ((h1.block E1 hEl7).trans hK7)
      have c9' : w8.cell? ⟨gu, 0, none⟩ = some (.int .i64 2) := r8.cell rfl
      (refine LL.nil ?_)
      refine EE.again ?_
      refine RN.step ?_
      (refine CC.seq ?_; refine CC.seq ?_; refine CC.region ?_; refine LL.val (R.load rfl rfl (I.ld1 rfl (by assumption))) rfl rfl rfl ?_; refine LL.val (R.ltF rfl rfl rfl (by omega)) rfl rfl rfl ?_; refine LL.nilS ?_; refine CC.no rfl ?_; refine CC.exit ?_; refine EE.thenX ?_; refine EE.thenX ?_; refine EE.inX ?_; refine EE.thenN ?_; refine CC.seq ?_; refine CC.region ?_)
      refine LL.call (R.call rfl rfl rfl) rfl rfl rfl (works_any _) ?_
      rintro e wC ⟨rfl, bC⟩
      refine ⟨_, rfl, ?_⟩
      have hVC := hV8.below bC
      skip
      refine LL.store rfl rfl rfl rfl hVC.r4 (by decide) rfl rfl rfl rfl ?_
      intro wD rD gD zD
      have hE28 : E2 < w8.heap.size := (Array.getElem?_eq_some_iff.1 hK8).1
      have hE18 : E1 < w8.heap.size := (Array.getElem?_eq_some_iff.1 hK18).1
      have hKC2 : wD.heap[E2]? = some (.deferred (some [])) := (gD.block E2 (by have := bC.size; omega) (by simp; omega)).trans ((bC.block E2 hE28).trans hK8)
      have hKC1 : wD.heap[E1]? = some (.deferred (some [])) := (gD.block E1 (by have := bC.size; omega) (by simp; omega)).trans ((bC.block E1 hE18).trans hK18)
      have qD : Below w.heap.size w wD := hVC.bel.grown gD hVC.bel.size (by rintro k ⟨⟩; have := hVC.l4; omega)
      have gt2 : wD.grownBy (taken E2 wD) (some E2) := grownBy_putObj' _ _ _
      have gt1 : (taken E2 wD).grownBy (taken E1 (taken E2 wD)) (some E1) := grownBy_putObj' _ _ _
      have rD2 := rD.same (gt2.block g4 rD.lt (by simp; omega))
      have rD1 := rD2.same (gt1.block g4 rD2.lt (by simp; omega))
      (refine LL.nilS ?_; refine CC.ret ?_)
      refine EE.retNN hKC1 hKC2 (by omega) rfl ⟨_, rfl, lv1 rfl (rD1.cell rfl)⟩ ?_
      have hw4 := hVC.l4
      have q2' : Below w.heap.size w (taken E2 wD) := taken_bel qD (by omega) (Nat.le_refl _)
      exact ⟨rfl, taken_bel q2' (by omega) (Nat.le_refl _)⟩
end Go.Proofs.Ytcchffdnbamkoaa
