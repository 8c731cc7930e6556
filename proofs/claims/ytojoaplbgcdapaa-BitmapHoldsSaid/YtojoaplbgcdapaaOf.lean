/- bitmap: Of. -/
import Derived.Test.YtojoaplbgcdapaaFind
import Derived.Test.YtojoaplbgcdapaaRangeA
import Derived.Test.YtojoaplbgcdapaaFwd
namespace Go.Proofs.Ytojoaplbgcdapaa
set_option linter.unusedVariables false
set_option linter.unusedSimpArgs false
open Go.RowKit Go.Shelf

section
variable {P : Program} {w : World} {o : Oper} {n : Nat} {D : List Deferred} {M : Slots} {e : TypeId} {r : Option Nat} {ops : Array Oper} {Q : Exit → Act → World → Prop} {rest : List Oper}
/-- A builtin copy of numbers onto a list that the call owns, all of it. -/
theorem LL.copyU {xs : Array Operand} {dT sT : TypeId} {v vs : Value} {base : Nat} {ts us : List Nat} (ho : o.op = .call { callee := .builtin .copy, args := xs, argTypes := #[dT, sT] }) (hx : evsM M xs.toList = some [v, vs])
    (hz : slB P dT = some (e, 1)) (hown : OwnsT uE 1 w base e v ts) (hr : ReadsT uE 1 w vs us) (hl : us.length = ts.length) (hpos : 0 < ts.length) (hd : dstB n o.dst = true) (hg : wantB ops M o.guard = some true)
    (k : ∀ w1, OwnsT uE 1 w1 base e v us → w.grownBy w1 v.ownBlock → w1.heap.size = w.heap.size → LL r P ops Q n D (putM M o.dst (.int .i64 (us.length : Int))) rest w1) : LL r P ops Q n D M (o :: rest) w := by
  rcases id hown.2 with ⟨e1, h0⟩ | ⟨g', cap', cur, e1, hbg, hg', hnc, hcm, hcs, htake⟩
  · omega
  · subst e1
    have hrow : RowL w g' e cur.toList := hg'
    obtain ⟨a2, cap2, e2, hcap2, hc2⟩ := hr
    subst e2
    obtain ⟨b2, off2, ha2, hbl2, hcell⟩ := hc2 (by intro e; rw [e] at hl; simp at hl; omega)
    subst ha2
    have hlen : (us.flatMap uE).length = us.length := by rw [uEnc.flat, Nat.mul_one]
    have hcl : cur.toList.length = cap' := by simpa using hcs
    have hcells : Cells w ⟨b2, off2, none⟩ (us.flatMap uE) := fun j u hu => by
      have hj : j < us.length * 1 := by rw [Nat.mul_one, ← hlen]; exact (List.getElem?_eq_some_iff.1 hu).1
      have := hcell j hj
      rw [hu] at this
      cases j with
      | zero => simpa [Addr.add] using this
      | succ j => simpa [Addr.add] using this
    refine LL.copy (cs := us.flatMap uE) ho hx hz hrow hcells (by rw [hlen, hl]; simp) (by rw [hlen, hcl]; omega) (uEnc.ones us) hd hg ?_
    intro w1 r1 g1 z1
    rw [hlen]
    refine k w1 ⟨uEnc.flat _, .inr ⟨g', cap', _, by rw [hl], hbg, r1, by rw [hl]; exact hnc, hcm, ?_, ?_⟩⟩ g1 z1
    · simp only [List.size_toArray, List.length_append, List.length_take, List.length_drop, hcl, hlen]
      omega
    · rw [Nat.mul_one, List.take_zero, List.nil_append, List.take_left' hlen]
end

/-- Whether these are a map's words. -/
def OfOk (bits : Int) (l : List Nat) : Prop := 1 ≤ bits ∧ bits ≤ 65536 ∧ l.length = (bits.toNat + 63) / 64 ∧ ∀ i, bits.toNat ≤ i → wb l i = false
theorem ones_mem {x i : Nat} : i ∈ ones x ↔ i < 64 ∧ x.testBit i = true := by
  unfold ones
  rw [List.mem_filter, List.mem_range]
  simp [Nat.testBit, Nat.shiftRight_eq_div_pow, Nat.and_comm]
theorem wb_last {n N x : Nat} {l : List Nat} (hN : l.length = N) (hn : N = (n + 63) / 64) (h1 : 1 ≤ n) (hx : l[N - 1]? = some x) : (∀ i, n ≤ i → wb l i = false) ↔ ∀ i ∈ ones x, (N - 1) * 64 + i < n := by
  constructor
  · intro h i hi
    obtain ⟨hi1, hi2⟩ := ones_mem.1 hi
    rcases Nat.lt_or_ge ((N - 1) * 64 + i) n with h3 | h3
    · exact h3
    · have := h _ h3
      unfold wb at this
      rw [show ((N - 1) * 64 + i) / 64 = N - 1 by omega, show ((N - 1) * 64 + i) % 64 = i by omega, hx] at this
      simp only [Option.getD_some] at this
      rw [hi2] at this
      cases this
  · intro h i hi
    unfold wb
    by_cases h2 : i / 64 = N - 1
    · rw [h2, hx]
      simp only [Option.getD_some]
      cases ht : x.testBit (i % 64) with
      | false => rfl
      | true =>
        have := h (i % 64) (ones_mem.2 ⟨by omega, ht⟩)
        omega
    · rw [List.getElem?_eq_none (by omega)]
      simp

set_option maxRecDepth 100000 in
set_option maxHeartbeats 4000000 in
theorem of_any (bits : Int) (va : Value) (l : List Nat) (w : World) (hbits : -9223372036854775808 ≤ bits ∧ bits ≤ 9223372036854775807) (ha : ReadsT uE 1 w va l) (hl : l.length ≤ 1048576) (hwf : ∀ x ∈ l, x < 18446744073709551616) :
    Calls Try.prog 9 #[.int .i64 bits, va] w fun e w' => (OfOk bits l ∧ (∃ g v, e = .returned (.tuple #[.pointer (some ⟨g, 0, none⟩), .int .i64 0]) ∧ BmAt w' (· < w.heap.size) g v bits.toNat l ∧ w.heap.size ≤ g) ∨ ¬ OfOk bits l ∧ e = .returned (.tuple #[.pointer none, .int .i64 2])) ∧ Below w.heap.size w w' := by
  obtain ⟨N, hN⟩ : ∃ N, l.length = N := ⟨_, rfl⟩
  have har := ha
  obtain ⟨a, cap, rfl, hc⟩ := ha.form hN
  rw [hN] at hl
  refine X.fnM Try.func9 rfl (n := 50) rfl rfl ?_
  (refine CC.seq ?_; refine CC.region ?_)
  refine LL.box [.int .i64 bits] rfl rfl rfl rfl rfl ?_
  intro w1 g2 e1 r1 z1 b1
  refine LL.box [.slice a N cap] rfl rfl rfl rfl rfl ?_
  intro w2 g3 e2 r2 z2 b2
  have y1 := b1.size
  have y2 := b2.size
  have q2 : Below w.heap.size w w2 := b1.trans (b2.mono y1)
  have r12 := r1.below b2 r1.lt
  have c2 : w2.cell? ⟨g2, 0, none⟩ = some (.int .i64 bits) := r12.cell rfl
  (refine LL.val (R.assign rfl rfl) rfl rfl rfl ?_; refine LL.val (R.assign rfl rfl) rfl rfl rfl ?_; refine LL.nilS ?_)
  refine CC.fwd (l := 0) (α := Option Nat) (fun x => match x with | none => [] | some E => [mark E]) (fun _ => []) (fun x w' => ¬ OfOk bits l ∧ Below w.heap.size w w' ∧ match x with | none => True | some E => w.heap.size ≤ E ∧ w'.heap[E]? = some (.deferred (some []))) rfl ?first ?pass
  case pass =>
    rintro x w' ⟨hno, hb, hx⟩
    cases x with
    | none =>
      (refine CC.seq ?_; refine CC.skip ?_; refine EE.thenN ?_; refine CC.seq ?_; refine CC.region ?_; refine LL.val (R.assign rfl rfl) rfl rfl rfl ?_; refine LL.val (R.assign rfl rfl) rfl rfl rfl ?_; refine LL.nilS ?_; refine CC.ret ?_)
      refine EE.jumpR ?_
      refine EE.retM [.pointer none, .int .i64 2] rfl rfl ?_
      exact ⟨.inr ⟨hno, rfl⟩, hb⟩
    | some E =>
      (refine CC.seq ?_; refine CC.skip ?_; refine EE.thenN ?_; refine CC.seq ?_; refine CC.region ?_; refine LL.val (R.assign rfl rfl) rfl rfl rfl ?_; refine LL.val (R.assign rfl rfl) rfl rfl rfl ?_; refine LL.nilS ?_; refine CC.ret ?_)
      refine EE.jumpR ?_
      refine EE.ret1 hx.2 [.pointer none, .int .i64 2] rfl rfl ?_
      exact ⟨.inr ⟨hno, rfl⟩, taken_bel hb hx.1 (Nat.le_refl _)⟩
  case first =>
    (refine CC.seq ?_; refine CC.region ?_; refine LL.val (R.load rfl rfl (I.ld1 rfl (by assumption))) rfl rfl rfl ?_)
    by_cases hbad : bits < 1 ∨ 65536 < bits
    · have hno : ¬ OfOk bits l := fun h => by have h1 := h.1; have h2 := h.2.1; omega
      refine LL.call (R.call rfl rfl rfl) rfl rfl rfl (bnew_bad bits w2 hbad) ?_
      rintro e w3 ⟨rfl, rfl⟩
      refine ⟨_, rfl, ?_⟩
      (refine LL.val (R.move rfl rfl) rfl rfl rfl ?_; refine LL.val (R.extract rfl rfl rfl) rfl rfl rfl ?_; refine LL.val (R.extract rfl rfl rfl) rfl rfl rfl ?_; refine LL.val (R.assign rfl rfl) rfl rfl rfl ?_; refine LL.val (R.assign rfl rfl) rfl rfl rfl ?_; refine LL.nilS ?_; refine CC.seq ?_; refine CC.seq ?_; refine CC.region ?_; refine LL.val (R.move rfl rfl) rfl rfl rfl ?_; refine LL.val (R.neT rfl rfl rfl (by omega)) rfl rfl rfl ?_; refine LL.nilS ?_; refine CC.yes rfl ?_; refine CC.seq ?_; refine CC.region ?_; refine LL.val (R.move rfl rfl) rfl rfl rfl ?_; refine LL.val (R.assign rfl rfl) rfl rfl rfl ?_; refine LL.val (R.assign rfl rfl) rfl rfl rfl ?_; refine LL.nilS ?_; refine CC.ret ?_; refine EE.thenR ?_)
      refine EE.jumpR ?_
      refine EE.retM [.pointer none, .int .i64 2] rfl rfl ?_
      exact ⟨.inr ⟨hno, rfl⟩, q2⟩
    obtain ⟨n, rfl⟩ : ∃ n : Nat, bits = n := ⟨bits.toNat, by omega⟩
    refine LL.call (R.call rfl rfl rfl) rfl rfl rfl (bnew_any n w2 (by omega)) ?_
    rintro e w3 ⟨g, v, rfl, h3, hg, b3⟩
    refine ⟨_, rfl, ?_⟩
    have y3 := b3.size
    have q3 : Below w.heap.size w w3 := q2.trans (b3.mono q2.size)
    have r13 := r12.below b3 r12.lt
    have r23 := r2.below b3 r2.lt
    obtain ⟨m0, hm0⟩ : ∃ m0, (n + 63) / 64 = m0 := ⟨_, rfl⟩
    rw [hm0] at h3
    have hm1 : 1 ≤ m0 ∧ m0 ≤ 1024 := by omega
    obtain ⟨av, cpv, ev⟩ := h3.form
    rw [List.length_replicate] at ev
    subst ev
    have c3 : w3.drew.cell? ⟨g3, 0, none⟩ = some (.slice a N cap) := r23.cell rfl
    have c0 : w3.drew.cell? ⟨g, 0, none⟩ = some (.slice av m0 cpv) := h3.row.cell rfl
    by_cases hlen : N = m0
    · subst hlen
      (refine LL.val (R.move rfl rfl) rfl rfl rfl ?_; refine LL.val (R.extract rfl rfl rfl) rfl rfl rfl ?_; refine LL.val (R.extract rfl rfl rfl) rfl rfl rfl ?_; refine LL.val (R.assign rfl rfl) rfl rfl rfl ?_; refine LL.val (R.assign rfl rfl) rfl rfl rfl ?_; refine LL.nilS ?_; refine CC.seq ?_; refine CC.seq ?_; refine CC.region ?_; refine LL.val (R.move rfl rfl) rfl rfl rfl ?_; refine LL.val (R.neF rfl rfl rfl (by omega)) rfl rfl rfl ?_; refine LL.nilS ?_; refine CC.no rfl ?_; refine CC.skip ?_; refine EE.thenN ?_; refine CC.seq ?_; refine CC.seq ?_)
      refine CC.quiet (by kernel_rfl) (by kernel_rfl) ?_
      (refine SS.val (R.load rfl rfl (I.ld1 rfl (by assumption))) rfl rfl ?_; refine SS.val (R.len rfl rfl rfl rfl) rfl rfl ?_; refine SS.val (R.move rfl rfl) rfl rfl ?_; refine SS.val (R.nil rfl rfl) rfl rfl ?_; refine SS.val (R.field rfl rfl (I.fld rfl)) rfl rfl ?_; refine SS.val (R.field rfl rfl (I.fld rfl)) rfl rfl ?_; refine SS.val (R.load rfl rfl (I.ld1 rfl (by assumption))) rfl rfl ?_; refine SS.val (R.len rfl rfl rfl rfl) rfl rfl ?_; refine SS.val (R.neF rfl rfl rfl (by omega)) rfl rfl ?_; refine SS.nilQ ?_)
      (refine EE.thenN ?_; refine CC.no rfl ?_; refine CC.skip ?_; refine EE.thenN ?_; refine CC.seq ?_)
      have d3 : w3.drew.drew.cell? ⟨g3, 0, none⟩ = some (.slice a N cap) := r23.cell rfl
      have d0 : w3.drew.drew.cell? ⟨g, 0, none⟩ = some (.slice av N cpv) := h3.row.cell rfl
      refine CC.tail 6 (by kernel_rfl) (by kernel_rfl) ?_
      (refine SS.val (R.move rfl rfl) rfl rfl ?_; refine SS.val (R.nil rfl rfl) rfl rfl ?_; refine SS.val (R.field rfl rfl (I.fld rfl)) rfl rfl ?_; refine SS.val (R.field rfl rfl (I.fld rfl)) rfl rfl ?_; refine SS.val (R.load rfl rfl (I.ld1 rfl (by assumption))) rfl rfl ?_; refine SS.val (R.load rfl rfl (I.ld1 rfl (by assumption))) rfl rfl ?_; refine SS.nil ?_)
      have h3d : BmAt w3.drew.drew (· < w2.heap.size) g (.slice av N cpv) n (List.replicate N 0) := h3.below below_drew.drew
      refine LL.copyU rfl rfl rfl h3d.list (har.below ((q3.drew).drew)) (by rw [List.length_replicate]; exact hN) (by rw [List.length_replicate]; omega) rfl rfl ?_
      intro w4 o4 g4 z4
      have hy : w3.drew.drew.heap.size = w3.heap.size := rfl
      have hgv := h3.gv
      have row4 : RowL w4 g 43 [.slice av N cpv, .int .i64 (n : Int)] := h3d.row.same (g4.block g h3d.row.lt (fun e => hgv e.symm))
      have q4 : Below w.heap.size w w4 := q3.drew.drew.grown g4 (by have := q3.size; omega) (fun k hk => by
        rcases Nat.lt_or_ge k w2.heap.size with hlt | hge
        · exact absurd hk (h3.kv k hlt)
        · omega)
      have b24 : Below w2.heap.size w2 w4 := b3.drew.drew.grown g4 (by omega) (fun k hk => by
        rcases Nat.lt_or_ge k w2.heap.size with hlt | hge
        · exact absurd hk (h3.kv k hlt)
        · omega)
      have y4 := b24.size
      have r14 := r12.below b24 r12.lt
      have r24 := r2.below b24 r2.lt
      have hx : ∃ x, l[N - 1]? = some x := ⟨_, List.getElem?_eq_getElem (by omega)⟩
      obtain ⟨x, hx⟩ := hx
      have hxl := hwf x (List.mem_of_getElem? hx)
      have har4 := har.below q4
      obtain ⟨bl, off, ea, hbl, hcs⟩ := har4.get uEnc hx
      subst ea
      have hce : w4.cell? ⟨bl, off + (N - 1), none⟩ = some (.int .u64 (x : Int)) := by simpa using hcs.at (j := 0) (u := .int .u64 (x : Int)) rfl
      have e3 : w4.cell? ⟨g3, 0, none⟩ = some (.slice (some ⟨bl, off, none⟩) N cap) := r24.cell rfl
      (refine LL.nilS ?_; refine CC.seq ?_; refine CC.seq ?_; refine CC.region ?_; refine LL.val (R.load rfl rfl (I.ld1 rfl (by assumption))) rfl rfl rfl ?_; refine LL.val (R.load rfl rfl (I.ld1 rfl (by assumption))) rfl rfl rfl ?_; refine LL.val (R.len rfl rfl rfl rfl) rfl rfl rfl ?_; refine LL.val (R.subNc rfl rfl rfl rfl (by omega) (by omega)) rfl rfl rfl ?_; refine LL.val (R.index rfl rfl rfl (I.ixS1 rfl (by omega))) rfl rfl rfl ?_; refine LL.val (R.load rfl rfl (I.ld1 rfl (by assumption))) rfl rfl rfl ?_)
      refine LL.call (R.call rfl rfl rfl) rfl rfl rfl (wbits_any x _) ?_
      rintro e w5 ⟨b, rfl, eb, rb, b5⟩
      refine ⟨_, rfl, ?_⟩
      have y5 := b5.size
      have r15 := r14.below b5 r14.lt
      have r25 := r24.below b5 r24.lt
      have q5 : Below w.heap.size w w5 := q4.trans (b5.mono q4.size)
      have hokl := wb_last (n := n) hN hm0.symm (by omega) hx
      have hbl5 := rb.lt
      have row5 := row4.below b5 row4.lt
      have o5 := o4.below b5
      have hok : (∀ i ∈ ones x, (N - 1) * 64 + i < n) → OfOk (n : Int) l := fun h => ⟨by omega, by omega, by rw [hN]; exact hm0.symm, hokl.2 h⟩
      (refine LL.nilS ?_; refine CC.block ?_)
      refine CC.rangeA (γ := Unit) (gf := 46) (lb := [Value.pointer (some ⟨b, 0, none⟩)]) (encs := encK) rfl rfl (bits_givesM b x hxl w5 rb) (Below.refl _ _) (fun k e => by omega) (fun _ => rfl) rfl
        (fun m pre W' => Below w5.heap.size w5 W' ∧ ∀ i ∈ pre, (N - 1) * 64 + i < n)
        (fun c m pre W' => c = .goto 0 ∧ Below w5.heap.size w5 W' ∧ ¬ OfOk (n : Int) l)
        (fun m s X Y hs ht => ⟨hs.1.trans (ht.below (Nat.le_refl _) hs.1.size), hs.2⟩)
        (fun c m s X Y hs ht => ⟨hs.1, hs.2.1.trans (ht.below (Nat.le_refl _) hs.2.1.size), hs.2.2⟩)
        (fun m => ⟨Below.refl _ _, fun i hi => by cases hi⟩)
        (fun k _ => sl [(2, .pointer (some ⟨g2, 0, none⟩)), (3, .pointer (some ⟨g3, 0, none⟩)), (8, .int .i64 (k : Int))])
        (fun _ _ _ => True) (fun _ _ => fun _ _ _ _ _ _ _ => trivial) ?assign ?body ?after ?stop
      case assign =>
        intro l' m pre k Wr K hm hm2 hi hK
        (refine CC.region ?_; refine LL.val (R.assign rfl rfl) rfl rfl rfl ?_; refine LL.nil ?_)
        exact EE.thenK fun a' F => hK a' Wr () (Stays.refl _ _ _) (Keeps.refl _ _) hi (F.keep _ ⟨rfl, rfl, rfl, trivial⟩) trivial
      case body =>
        intro l' m pre k _ Wr hm hm2 hl' hrl hi _ hp
        obtain ⟨h1, h2⟩ := hi
        have hk64 : k < 64 ∧ k ∈ ones x := by
          obtain ⟨_, rfl, t, ht⟩ := hp
          have hm : k ∈ ones x := by rw [← ht]; simp
          exact ⟨(ones_mem.1 hm).1, hm⟩
        have f3 : Wr.cell? ⟨g3, 0, none⟩ = some (.slice (some ⟨bl, off, none⟩) N cap) := (r25.below h1 r25.lt).cell rfl
        have f2 : Wr.cell? ⟨g2, 0, none⟩ = some (.int .i64 (n : Int)) := (r15.below h1 r15.lt).cell rfl
        by_cases hin : (N - 1) * 64 + k < n
        · (refine CC.block ?_; refine CC.seq ?_; refine CC.region ?_; refine LL.val (R.load rfl rfl (I.ld1 rfl (by assumption))) rfl rfl rfl ?_; refine LL.val (R.len rfl rfl rfl rfl) rfl rfl rfl ?_; refine LL.val (R.subNc rfl rfl rfl rfl (by omega) (by omega)) rfl rfl rfl ?_; refine LL.val (R.mulNc rfl rfl rfl rfl (by omega)) rfl rfl rfl ?_; refine LL.val (R.move rfl rfl) rfl rfl rfl ?_; refine LL.val (R.addN rfl rfl rfl (by omega)) rfl rfl rfl ?_; refine LL.val (R.load rfl rfl (I.ld1 rfl (by assumption))) rfl rfl rfl ?_; refine LL.val (R.geF rfl rfl rfl (by omega)) rfl rfl rfl ?_; refine LL.nilS ?_; refine CC.no rfl ?_; refine CC.skip ?_; refine EE.inN ?_)
          refine EE.roundN ⟨Stays.refl _ _ _, Keeps.refl _ _, h1, fun i hi => ?_⟩
          rcases List.mem_append.1 hi with h | h
          · exact h2 i h
          · simp only [List.mem_singleton] at h
            subst h
            exact hin
        · (refine CC.block ?_; refine CC.seq ?_; refine CC.region ?_; refine LL.val (R.load rfl rfl (I.ld1 rfl (by assumption))) rfl rfl rfl ?_; refine LL.val (R.len rfl rfl rfl rfl) rfl rfl rfl ?_; refine LL.val (R.subNc rfl rfl rfl rfl (by omega) (by omega)) rfl rfl rfl ?_; refine LL.val (R.mulNc rfl rfl rfl rfl (by omega)) rfl rfl rfl ?_; refine LL.val (R.move rfl rfl) rfl rfl rfl ?_; refine LL.val (R.addN rfl rfl rfl (by omega)) rfl rfl rfl ?_; refine LL.val (R.load rfl rfl (I.ld1 rfl (by assumption))) rfl rfl rfl ?_; refine LL.val (R.geT rfl rfl rfl (by omega)) rfl rfl rfl ?_; refine LL.nilS ?_; refine CC.yes rfl ?_)
          refine CC.goto ?_
          (refine EE.inG ?_)
          refine EE.roundG ⟨Stays.refl _ _ _, rfl, h1, fun ho => hin ?_⟩
          exact hokl.1 ho.2.2.2 k hk64.2
      case after =>
        rintro E m xs W' hE rfl ⟨h1, h2⟩ hK
        have gt : W'.grownBy (taken E W') (some E) := grownBy_putObj' _ _ _
        have b5t : Below w5.heap.size w5 (taken E W') := h1.grown gt h1.size (by rintro k ⟨⟩; omega)
        (refine EE.inN ?_; refine EE.thenN ?_; refine CC.seq ?_; refine CC.seq ?_; refine CC.region ?_; refine LL.val (R.move rfl rfl) rfl rfl rfl ?_; refine LL.val (R.assign rfl rfl) rfl rfl rfl ?_; refine LL.val (R.assign rfl rfl) rfl rfl rfl ?_; refine LL.nilS ?_; refine CC.ret ?_; refine EE.thenR ?_)
        refine EE.jumpR ?_
        refine EE.ret1 hK [.pointer (some ⟨g, 0, none⟩), .int .i64 0] rfl rfl ?_
        refine ⟨.inl ⟨hok h2, g, .slice av N cpv, rfl, ?_, by omega⟩, q5.trans (b5t.mono q5.size)⟩
        have hB5 : BmAt w5 (· < w.heap.size) g (.slice av N cpv) n l := ⟨row5, o5, h3.gv, h3.lo, h3.hi, by rw [hN]; exact hm0.symm, hwf, hokl.2 h2, fun j hj => by have := q5.size; omega, by omega, fun j hj => h3.kv j (by omega)⟩
        exact hB5.below b5t
      case stop =>
        rintro E c m pre W' hE hp ⟨rfl, h1, h2⟩ hK
        refine CC.goto ?_
        (refine EE.inG ?_; refine EE.thenG ?_)
        exact EE.jumpTo (some E) rfl trivial ⟨h2, q5.trans (h1.mono q5.size), by have := q5.size; omega, hK⟩
    · have hno : ¬ OfOk (n : Int) l := fun h => hlen (by rw [← hN, h.2.2.1]; exact hm0)
      (refine LL.val (R.move rfl rfl) rfl rfl rfl ?_; refine LL.val (R.extract rfl rfl rfl) rfl rfl rfl ?_; refine LL.val (R.extract rfl rfl rfl) rfl rfl rfl ?_; refine LL.val (R.assign rfl rfl) rfl rfl rfl ?_; refine LL.val (R.assign rfl rfl) rfl rfl rfl ?_; refine LL.nilS ?_; refine CC.seq ?_; refine CC.seq ?_; refine CC.region ?_; refine LL.val (R.move rfl rfl) rfl rfl rfl ?_; refine LL.val (R.neF rfl rfl rfl (by omega)) rfl rfl rfl ?_; refine LL.nilS ?_; refine CC.no rfl ?_; refine CC.skip ?_; refine EE.thenN ?_; refine CC.seq ?_; refine CC.seq ?_)
      refine CC.quiet (by kernel_rfl) (by kernel_rfl) ?_
      (refine SS.val (R.load rfl rfl (I.ld1 rfl (by assumption))) rfl rfl ?_; refine SS.val (R.len rfl rfl rfl rfl) rfl rfl ?_; refine SS.val (R.move rfl rfl) rfl rfl ?_; refine SS.val (R.nil rfl rfl) rfl rfl ?_; refine SS.val (R.field rfl rfl (I.fld rfl)) rfl rfl ?_; refine SS.val (R.field rfl rfl (I.fld rfl)) rfl rfl ?_; refine SS.val (R.load rfl rfl (I.ld1 rfl (by assumption))) rfl rfl ?_; refine SS.val (R.len rfl rfl rfl rfl) rfl rfl ?_; refine SS.val (R.neT rfl rfl rfl (by omega)) rfl rfl ?_; refine SS.nilQ ?_)
      (refine EE.thenN ?_; refine CC.yes rfl ?_)
      refine CC.goto ?_
      (refine EE.thenG ?_)
      exact EE.jumpTo none rfl trivial ⟨hno, q3.drew, trivial⟩
end Go.Proofs.Ytojoaplbgcdapaa
