/- Waits: an iterator over those that wait. -/
import Derived.Test.YtcchffdnbamkoaaHeld
import Derived.Test.YtcchffdnbamkoaaSeq
namespace Go.Proofs.Ytcchffdnbamkoaa
set_option linter.unusedVariables false
set_option linter.unusedSimpArgs false
open Go.RowKit Go.Shelf

/-- Turns, each with its place. -/
def numP (ts : List Tn) : List (Nat × Tn) := ts.mapIdx fun i t => (i, t)
theorem numP_len (ts : List Tn) : (numP ts).length = ts.length := by simp [numP]
theorem numP_get {ts : List Tn} {i : Nat} {t : Tn} (h : ts[i]? = some t) : (numP ts)[i]? = some (i, t) := by simp [numP, h]
theorem numP_step {ts : List Tn} {i : Nat} {t : Tn} (h : ts[i]? = some t) : (numP ts).take i ++ [(i, t)] = (numP ts).take (i + 1) := by
  rw [List.take_add_one, numP_get h]; rfl
theorem numP_part {ts : List Tn} {pre : List (Nat × Tn)} {x : Nat × Tn} (h : Part (fun xs => xs = numP ts) (pre ++ [x])) : x.1 = pre.length ∧ ts[pre.length]? = some x.2 ∧ pre = (numP ts).take pre.length := by
  obtain ⟨_, rfl, hp⟩ := h
  have h1 : (numP ts)[pre.length]? = some x := by
    obtain ⟨s, hs⟩ := hp
    rw [← hs, List.append_assoc, List.getElem?_append_right (Nat.le_refl _)]
    simp
  have h2 : pre = (numP ts).take pre.length := by
    obtain ⟨s, hs⟩ := hp
    rw [← hs, List.append_assoc, List.take_left]
  have h3 : ts[pre.length]?.map (fun t => (pre.length, t)) = some x := by
    rw [← h1]
    simp [numP]
  cases ht : ts[pre.length]? with
  | none => rw [ht] at h3; cases h3
  | some t =>
    rw [ht] at h3
    cases h3
    exact ⟨rfl, rfl, h2⟩
abbrev encN (x : Nat × Tn) : List Value := [.int .i64 (x.1 : Int), .agg (tE x.2).toArray]

theorem numbered_any (v : Value) (w : World) (hv : v.cells = [v].toArray) : Calls Try.prog 32 #[v] w fun e w' => ∃ g, e = .returned (.func (.func 40) #[] [Value.pointer (some ⟨g, 0, none⟩)].toArray) ∧ g = w.heap.size ∧ RowL w' g 26 [v] ∧ Below w.heap.size w w' ∧ w'.heap.size = g + 1 := by
  refine X.fn Try.func32 rfl (n := 4) rfl rfl ?_
  (refine CC.seq ?_; refine CC.region ?_)
  refine LL.box [v] rfl rfl hv rfl rfl ?_
  intro w1 g1 e1 r1 z1 b1
  (refine LL.val (R.assign rfl rfl) rfl rfl rfl ?_; refine LL.nilS ?_; refine CC.seq ?_; refine CC.region ?_; refine LL.val (R.func rfl rfl rfl) rfl rfl rfl ?_; refine LL.val (R.assign rfl rfl) rfl rfl rfl ?_; refine LL.nilS ?_; refine CC.ret ?_)
  refine EE.ret _ rfl rfl ?_
  exact ⟨g1, rfl, e1, r1, b1, z1⟩

set_option maxRecDepth 100000 in
set_option maxHeartbeats 2000000 in
theorem numbered_gives (b n cap : Nat) (a : Option Addr) (ts : List Tn) (w : World) (hc : RowL w b 26 [.slice a n cap]) (hr : ReadsTn w (.slice a n cap) ts) (hn : ts.length = n) (hl : n ≤ 1048576) :
    GivesM Try.prog 40 [Value.pointer (some ⟨b, 0, none⟩)].toArray (fun x => (encN x).toArray) (fun k => 0 < n ∧ ∃ x : Addr, a = some x ∧ k = x.block) (fun xs => xs = numP ts) w := by
  intro l J Jx W hW hJ hJx hY h0
  have hcW := hc.below hW hc.lt
  rw [show (#[.func (.yield l) #[] #[]] ++ [Value.pointer (some ⟨b, 0, none⟩)].toArray : Array Value) = #[.func (.yield l) #[] #[], .pointer (some ⟨b, 0, none⟩)] from rfl]
  refine X.fn Try.func40 rfl (n := 18) rfl rfl ?_
  (refine CC.seq ?_; refine CC.region ?_; refine LL.val (R.load rfl rfl (I.ld1 rfl (RowL.cell (by assumption) rfl))) rfl rfl rfl ?_; refine LL.val (R.len rfl rfl rfl rfl) rfl rfl rfl ?_; refine LL.val (R.move rfl rfl) rfl rfl rfl ?_; refine LL.nilS ?_; refine CC.block ?_)
  refine CC.loop (α := Nat) (fun k => [(0, .func (.yield l) #[] #[]), (5, .slice a n cap), (6, .int .i64 (n : Int)), (7, .int .i64 (k : Int))]) (fun k wr => k ≤ n ∧ J W.heap.size ((numP ts).take k) wr ∧ Keeps (fun k => 0 < n ∧ ∃ x : Addr, a = some x ∧ k = x.block) W wr) (fun k => n - k) 0 ⟨rfl, rfl, rfl, rfl, trivial⟩ ⟨by omega, h0 _, .refl _ _⟩ ?_
  intro k wr ⟨hk, hJk, hkp⟩
  by_cases hlt : k < n
  · obtain ⟨t, ht⟩ : ∃ t, ts[k]? = some t := ⟨_, List.getElem?_eq_getElem (by omega)⟩
    obtain ⟨b2, off, rfl, hbl, hcs⟩ := hr.get tEnc ht
    have hc1 : Cells wr ⟨b2, off + k * 2, none⟩ (tE t) := fun j u hj => by
      have h1 := hcs j u hj
      rw [add_plain] at *
      exact (hkp.cell (p := ⟨b2, off + k * 2 + j, none⟩) ⟨by omega, _, rfl, rfl⟩).trans ((hW.cell (p := ⟨b2, off + k * 2 + j, none⟩) hbl).trans h1)
    have hpart : Part (fun xs => xs = numP ts) ((numP ts).take k ++ [(k, t)]) := ⟨_, rfl, by rw [numP_step ht]; exact List.take_prefix _ _⟩
    have hDl : ∀ j, (0 < n ∧ ∃ x : Addr, some (⟨b2, off, none⟩ : Addr) = some x ∧ j = x.block) → j < wr.heap.size := by
      rintro j ⟨_, x, hx, rfl⟩
      cases hx
      exact Nat.lt_of_lt_of_le hbl (Nat.le_trans hW.size hkp.size)
    (refine CC.seq ?_; refine CC.region ?_; refine LL.val (R.ltT rfl rfl rfl (by omega)) rfl rfl rfl ?_; refine LL.nilS ?_; refine CC.seq ?_; refine CC.yes rfl ?_; refine CC.skip ?_; refine EE.thenN ?_; refine CC.seq ?_; refine CC.block ?_; refine CC.seq ?_; refine CC.region ?_; refine LL.val (R.move rfl rfl) rfl rfl rfl ?_; refine LL.val (R.index rfl rfl rfl (I.ixS rfl (by omega))) rfl rfl rfl ?_)
    refine LL.val (R.load rfl rfl (I.ldN (vs := tE t) rfl rfl hc1)) rfl rfl rfl ?_
    refine LL.alloc (tE (0, false)) rfl rfl rfl rfl rfl ?_
    intro w2 g2 e2 r2 z2 b2
    (refine LL.val (R.assign rfl rfl) rfl rfl rfl ?_)
    refine LL.storeN (vs := tE t) rfl rfl rfl rfl r2 (Nat.le_of_ble_eq_true rfl) (tEnc.one t) rfl rfl ?_
    intro w3 r3 g3 z3
    have q3 : Below wr.heap.size wr w3 := b2.grown g3 (by omega) (by rintro k ⟨⟩; omega)
    have hJ3 := hJ _ _ _ _ hJk (Turns.of_below (B := W.heap.size) (m := W.heap.size) q3)
    have hk3 := hkp.trans (Keeps.of_below hDl q3)
    (refine LL.nilS ?_; refine CC.seq ?_; refine CC.region ?_; refine LL.val (R.move rfl rfl) rfl rfl rfl ?_; refine LL.val (R.move rfl rfl) rfl rfl rfl ?_)
    refine LL.val (R.load rfl rfl (I.ldN (vs := tE t) rfl rfl (r3.cells rfl))) rfl rfl rfl ?_
    refine LL.yield (vs := encN (k, t)) rfl rfl rfl rfl rfl (hY _ _ (k, t) w3 (Nat.le_refl _) (Nat.le_trans hkp.size q3.size) hJ3 hpart) ?_
    rintro e W3 ⟨hs3, (⟨rfl, hJ4, hb4⟩ | ⟨rfl, hJx4⟩)⟩
    · refine ⟨_, rfl, ?_⟩
      (refine LL.val (R.not rfl rfl) rfl rfl rfl ?_; refine LL.nilS ?_; refine CC.no rfl ?_; refine CC.skip ?_; refine EE.inN ?_; refine EE.thenN ?_; refine CC.region ?_; refine LL.val (R.addNc rfl rfl rfl rfl (by omega)) rfl rfl rfl ?_; refine LL.val (R.move rfl rfl) rfl rfl rfl ?_; refine LL.nil ?_)
      exact EE.round (k + 1) ⟨rfl, rfl, rfl, rfl, trivial⟩ ⟨by omega, by rw [← numP_step ht]; exact hJ4, hk3.trans hb4⟩ (by omega)
    · refine ⟨_, rfl, ?_⟩
      (refine LL.val (R.not rfl rfl) rfl rfl rfl ?_; refine LL.nilS ?_; refine CC.yes rfl ?_; refine CC.ret ?_; refine EE.inR ?_; refine EE.thenR ?_; refine EE.thenR ?_; refine EE.inR ?_)
      refine EE.ret [] rfl rfl ?_
      exact ⟨⟨_, rfl⟩, .inr ⟨_, _, hpart, hJx4⟩⟩
  · obtain rfl : k = n := by omega
    (refine CC.seq ?_; refine CC.region ?_; refine LL.val (R.ltF rfl rfl rfl (by omega)) rfl rfl rfl ?_; refine LL.nilS ?_; refine CC.seq ?_; refine CC.no rfl ?_; refine CC.exit ?_; refine EE.thenX ?_; refine EE.thenX ?_; refine EE.inX ?_)
    refine EE.end [] rfl rfl ?_
    exact ⟨⟨_, rfl⟩, .inl ⟨_, _, rfl, by rw [List.take_of_length_le (by rw [numP_len]; omega)] at hJk; exact hJk⟩⟩

set_option maxRecDepth 100000 in
set_option maxHeartbeats 2000000 in
theorem waits_gives (b n cap : Nat) (a : Option Addr) (ts : List Tn) (w : World) (hc : RowL w b 26 [.slice a n cap]) (hr : ReadsTn w (.slice a n cap) ts) (hn : ts.length = n) (hl : n ≤ 1048576) :
    GivesM Try.prog 31 [Value.pointer (some ⟨b, 0, none⟩)].toArray (fun x => (encN x).toArray) (fun k => 0 < n ∧ ∃ x : Addr, a = some x ∧ k = x.block) (fun xs => xs = numP ts) w := by
  intro l J Jx W hW hJ hJx hY h0
  have hcW := hc.below hW hc.lt
  have hrW := hr.below hW
  rw [show (#[.func (.yield l) #[] #[]] ++ [Value.pointer (some ⟨b, 0, none⟩)].toArray : Array Value) = #[.func (.yield l) #[] #[], .pointer (some ⟨b, 0, none⟩)] from rfl]
  refine X.fnM Try.func31 rfl (n := 14) rfl rfl ?_
  (refine CC.seq ?_; refine CC.region ?_)
  refine LL.box [.func (.yield l) #[] #[]] rfl rfl rfl rfl rfl ?_
  intro w1 g1 e1 r1 z1 b1
  have hc1 := hcW.below b1 hcW.lt
  (refine LL.nilS ?_)
  refine CC.straight ?_
  (refine CC.seq ?_; refine CC.label ?_; refine EE.thenN ?_; refine CC.seq ?_; refine CC.region ?_; refine LL.val (R.load rfl rfl (I.ld1 rfl (RowL.cell (by assumption) rfl))) rfl rfl rfl ?_)
  refine LL.call (R.call rfl rfl rfl) rfl rfl rfl (numbered_any _ w1 rfl) ?_
  rintro e w2 ⟨g2, rfl, e2, r2, b2, z2⟩
  refine ⟨_, rfl, ?_⟩
  have y1 := b1.size
  have y2 := b2.size
  have q2 : Below W.heap.size W w2 := b1.trans (b2.mono y1)
  have r12 := r1.below b2 r1.lt
  have hr2 := hrW.below q2
  (refine LL.nilS ?_; refine CC.block ?_)
  refine CC.rangeM (γ := Nat) (gf := 40) (lb := [Value.pointer (some ⟨g2, 0, none⟩)]) (encs := encN) rfl rfl (numbered_gives g2 n cap a ts w2 r2 hr2 hn hl) (Below.refl _ _) ?hD (fun _ => rfl) rfl
    (fun m pre W' => J m pre W' ∧ RowL W' g1 66 [.func (.yield l) #[] #[]])
    (fun m pre W' => Part (fun xs => xs = numP ts) pre ∧ Jx m pre W')
    (fun W' => (∃ m xs, xs = numP ts ∧ J m xs W') ∨ (∃ m pre, Part (fun xs => xs = numP ts) pre ∧ Jx m pre W'))
    (fun m s X Y hs ht => ⟨hJ m _ X Y hs.1 (ht.mono (by omega)), (RowL.abides (B := w2.heap.size) (by have := r12.lt; omega) (fun _ => [.func (.yield l) #[] #[]])) s X Y hs.2 ht⟩)
    (fun m s X Y hs ht => ⟨hs.1, hJx m _ X Y hs.2 (ht.mono (by omega))⟩)
    (fun m => ⟨hJ m _ _ _ (h0 m) (Turns.of_below q2), r12⟩)
    (fun m xs W' hS hi => .inl ⟨m, xs, hS, hi.1⟩) (fun m pre W' hp hi => .inr ⟨m, pre, hi⟩)
    (fun x g4 => sl [(2, .pointer (some ⟨g1, 0, none⟩)), (3, .int .i64 (x.1 : Int)), (4, .pointer (some ⟨g4, 0, none⟩))])
    (fun x g4 W' => RowL W' g4 51 (tE x.2)) (fun x g4 => RowL.own) ?assign ?body ?after
  case hD =>
    rintro k ⟨h0, x, rfl, rfl⟩
    obtain ⟨_, _, e, _, h⟩ := hr2
    cases e
    obtain ⟨b', off', e', hlt, _⟩ := h (by intro e2; rw [e2] at h0; simp at h0)
    cases e'
    exact hlt
  case assign =>
    intro l' m pre x Wr K hm hm2 hi hK
    (refine CC.seq ?_; refine CC.region ?_; refine LL.val (R.assign rfl rfl) rfl rfl rfl ?_; refine LL.nilS ?_; refine CC.region ?_)
    refine LL.alloc (tE (0, false)) rfl rfl rfl rfl rfl ?_
    intro w3 g3 e3 r3 z3 b3
    skip
    refine LL.storeN (vs := tE x.2) rfl rfl rfl rfl r3 (Nat.le_of_ble_eq_true rfl) (tEnc.one x.2) rfl rfl ?_
    intro w4 r4 g4 z4
    have q4 : Below Wr.heap.size Wr w4 := b3.grown g4 (by omega) (by rintro k ⟨⟩; omega)
    (refine LL.nil ?_)
    refine EE.thenK fun a' F => hK a' w4 g3 (Stays.of_below q4) (Keeps.of_below ?_ q4) ⟨hJ m _ _ _ hi.1 (Turns.of_below q4), hi.2.below q4 hi.2.lt⟩ (F.keep _ ⟨rfl, rfl, rfl, trivial⟩) r4
    rintro k ⟨h0, x, rfl, rfl⟩
    obtain ⟨_, _, e, _, h⟩ := hr2
    cases e
    obtain ⟨b', off', e', hlt, _⟩ := h (by intro e2; rw [e2] at h0; simp at h0)
    cases e'
    show b' < Wr.heap.size
    omega
  case body =>
    intro l' m pre x g4 Wr hm hm2 hl hrl hi hax hp
    have hbx := hi.2
    (refine CC.block ?_; refine CC.seq ?_; refine CC.region ?_; refine LL.val (R.load rfl rfl (I.ld1 rfl (RowL.cell (by assumption) rfl))) rfl rfl rfl ?_; refine LL.val (R.move rfl rfl) rfl rfl rfl ?_)
    refine LL.val (R.load rfl rfl (I.ldN (vs := tE x.2) rfl rfl (hax.cells rfl))) rfl rfl rfl ?_
    refine LL.yield (vs := encN x) rfl rfl rfl rfl rfl (hY m pre x Wr (by omega) hm2 hi.1 hp) ?_
    rintro e W3 ⟨hs3, (⟨rfl, hJ4, hb4⟩ | ⟨rfl, hJx4⟩)⟩
    · refine ⟨_, rfl, ?_⟩
      (refine LL.val (R.not rfl rfl) rfl rfl rfl ?_; refine LL.nilS ?_; refine CC.no rfl ?_; refine CC.skip ?_; refine EE.inN ?_)
      exact EE.roundN ⟨hs3.mono (by omega), hb4, hJ4, hs3.same g1 _ (by omega) hi.2 (.inl (by have := r12.lt; omega))⟩
    · refine ⟨_, rfl, ?_⟩
      (refine LL.val (R.not rfl rfl) rfl rfl rfl ?_; refine LL.nilS ?_; refine CC.yes rfl ?_; refine CC.exit ?_; refine EE.inX' rfl ?_)
      exact EE.roundX ⟨hs3.mono (by omega), rfl, hp, hJx4⟩
  case after =>
    intro E Wd hE hA hK
    refine EE.noN ?_
    refine EE.end1 hK [] rfl rfl ?_
    refine ⟨⟨_, rfl⟩, ?_⟩
    rcases hA with ⟨m, xs, hS, h⟩ | ⟨m, pre, hp, h⟩
    · exact .inl ⟨m, xs, hS, (hJ m).putObj _ h (by omega) hK rfl⟩
    · exact .inr ⟨m, pre, hp, (hJx m).putObj _ h (by omega) hK rfl⟩

theorem lwaits_any {K : Nat → Prop} {g : Nat} {vh vw : Value} {cl : List Nat} {hs ws : List Tn} (w : World) (h : LatchAt w K g vh vw cl hs ws) (hl : ws.length ≤ 1048576) :
    Calls Try.prog 21 #[.pointer (some ⟨g, 0, none⟩)] w fun e w' => ∃ b v, e = .returned (.func (.func 31) #[] [Value.pointer (some ⟨b, 0, none⟩)].toArray) ∧ w.heap.size ≤ b ∧ RowL w' b 26 [v] ∧ OwnsT tE 2 w' w.heap.size 51 v ws ∧ v.ownBlock ≠ some b ∧ Below w.heap.size w w' := by
  have hgl := h.row.lt
  refine X.fn Try.func21 rfl (n := 13) rfl rfl ?_
  (refine CC.seq ?_; refine CC.region ?_; refine LL.val (R.assign rfl rfl) rfl rfl rfl ?_; refine LL.nilS ?_; refine CC.seq ?_; refine CC.region ?_)
  refine LL.alloc [.slice none 0 0] rfl rfl rfl rfl rfl ?_
  intro w1 g1 e1 r1 z1 b1
  have h1 := h.below b1
  have c1 : w1.cell? ⟨g, 1, none⟩ = some vw := h1.row.cell rfl
  (refine LL.nilS ?_; refine CC.seq ?_; refine CC.seq ?_; refine CC.region ?_; refine LL.val (R.move rfl rfl) rfl rfl rfl ?_)
  refine LL.call (R.call rfl rfl rfl) rfl rfl rfl (lnone_made g vh vw cl _ h1.len h1.row) ?_
  rintro e w2 ⟨rfl, rfl⟩
  refine ⟨_, rfl, ?_⟩
  (refine LL.val (R.not rfl rfl) rfl rfl rfl ?_; refine LL.nilS ?_; refine CC.yes rfl ?_; refine CC.region ?_; refine LL.val (R.move rfl rfl) rfl rfl rfl ?_; refine LL.val (R.nil rfl rfl) rfl rfl rfl ?_; refine LL.val (R.field rfl rfl (I.fld rfl)) rfl rfl rfl ?_; refine LL.val (R.load rfl rfl (I.ld1 rfl (by assumption))) rfl rfl rfl ?_)
  refine LL.call (R.call rfl rfl rfl) rfl rfl rfl (clone_any vw ws w1 (h1.waits.reads tEnc) hl) ?_
  rintro e w2 ⟨v2, rfl, o2, b2⟩
  refine ⟨_, rfl, ?_⟩
  have r12 := r1.below b2 r1.lt
  have hne : v2.ownBlock ≠ some g1 := by
    rcases o2.above with h0 | ⟨b, h0, h1, _⟩
    · rw [h0]; simp
    · rw [h0]; intro e; cases e; omega
  obtain ⟨a, cp, rfl, _⟩ := (o2.reads tEnc).form rfl
  skip
  refine LL.store rfl rfl rfl rfl r12 (by decide) rfl rfl rfl rfl ?_
  intro w3 r3 g3 z3
  (refine LL.nilS ?_; refine CC.seq ?_; refine CC.region ?_; refine LL.val (R.func rfl rfl rfl) rfl rfl rfl ?_; refine LL.val (R.assign rfl rfl) rfl rfl rfl ?_; refine LL.nilS ?_; refine CC.ret ?_)
  refine EE.ret _ rfl rfl ?_
  exact ⟨g1, _, rfl, by omega, r3, (o2.lower (by omega)).grown g3 hne, hne, (b1.trans (b2.mono b1.size)).grown g3 (by have := b2.size; omega) (by rintro k ⟨⟩; omega)⟩
theorem lwaits_nil (w : World) :
    Calls Try.prog 21 #[.pointer none] w fun e w' => ∃ b v, e = .returned (.func (.func 31) #[] [Value.pointer (some ⟨b, 0, none⟩)].toArray) ∧ w.heap.size ≤ b ∧ RowL w' b 26 [v] ∧ OwnsT tE 2 w' w.heap.size 51 v [] ∧ v.ownBlock ≠ some b ∧ Below w.heap.size w w' := by
  refine X.fn Try.func21 rfl (n := 13) rfl rfl ?_
  (refine CC.seq ?_; refine CC.region ?_; refine LL.val (R.assign rfl rfl) rfl rfl rfl ?_; refine LL.nilS ?_; refine CC.seq ?_; refine CC.region ?_)
  refine LL.alloc [.slice none 0 0] rfl rfl rfl rfl rfl ?_
  intro w1 g1 e1 r1 z1 b1
  (refine LL.nilS ?_; refine CC.seq ?_; refine CC.seq ?_; refine CC.region ?_; refine LL.val (R.move rfl rfl) rfl rfl rfl ?_)
  refine LL.call (R.call rfl rfl rfl) rfl rfl rfl (lnone_nil _) ?_
  rintro e w2 ⟨rfl, rfl⟩
  refine ⟨_, rfl, ?_⟩
  (refine LL.val (R.not rfl rfl) rfl rfl rfl ?_; refine LL.nilS ?_; refine CC.no rfl ?_; refine CC.skip ?_; refine EE.thenN ?_; refine CC.seq ?_; refine CC.region ?_; refine LL.val (R.func rfl rfl rfl) rfl rfl rfl ?_; refine LL.val (R.assign rfl rfl) rfl rfl rfl ?_; refine LL.nilS ?_; refine CC.ret ?_)
  refine EE.ret _ rfl rfl ?_
  exact ⟨g1, _, rfl, by omega, r1, OwnsT.none _ _ _, by simp [Value.ownBlock], b1⟩
end Go.Proofs.Ytcchffdnbamkoaa
