/- slices.Delete(s, 0, 1) of a slice that the call owns. -/
import Derived.Test.YtcchffdnbamkoaaAdmit
import Derived.Test.YtcchffdnbamkoaaTClear
namespace Go.Proofs.Ytcchffdnbamkoaa
set_option linter.unusedVariables false
set_option linter.unusedSimpArgs false
open Go.RowKit Go.Shelf

section
variable {α : Type} {enc : α → List Value} {k : Nat} {P : Program} {w : World} {o : Oper} {n : Nat} {D : List Deferred} {M : Slots} {T e : TypeId} {z : Value} {bytes : Nat} {r : Option Nat} {ops : Array Oper} {Q : Exit → Act → World → Prop} {rest : List Oper}
theorem run_part3_t (I : ElT P T e z k bytes) (a : Option Addr) (len cap lo hi mx : Nat) (h : lo ≤ hi) (h2 : hi ≤ mx) (hc : mx ≤ cap) (w : World) :
    (Instr.slice T (.slice a len cap) (some (.int .i64 (lo : Int))) (some (.int .i64 (hi : Int))) (some (.int .i64 (mx : Int)))).run P w = .ok (.slice (if mx = lo then a else a.map fun p => p.add (lo * k)) (hi - lo) (mx - lo)) w := by
  obtain ⟨i, hi', hz, hsz, hby⟩ := I.info
  simp [Instr.slice, run_underlying I.under, Instr.sliceBounds, run_sliceBound, sizeOf, typeInfo, hi', hsz, (by omega : (lo : Int) ≤ (hi : Int)), (by omega : (hi : Int) ≤ (mx : Int)), (by omega : (mx : Int) ≤ (cap : Int))]
/-- append where there is room. -/
theorem LL.fitT {xs : Array Operand} {vx : Value} {base g cap : Nat} {ts us : List α} (ho : o.op = .call { callee := .builtin .append, args := xs, argTypes := #[T, T] }) (hx : evsM M xs.toList = some [.slice (some ⟨g, 0, none⟩) ts.length cap, vx]) (E : Enc enc k) (I : ElT P T e z k bytes) (hown : OwnsT enc k w base e (.slice (some ⟨g, 0, none⟩) ts.length cap) ts) (hr : ReadsT enc k w vx us)
    (hroom : ts.length + us.length ≤ cap) (hd : dstB n o.dst = true) (hg : wantB ops M o.guard = some true)
    (c : ∀ w', OwnsT enc k w' base e (.slice (some ⟨g, 0, none⟩) (ts.length + us.length) cap) (ts ++ us) → w.grownBy w' (some g) → LL r P ops Q n D (putM M o.dst (.slice (some ⟨g, 0, none⟩) (ts.length + us.length) cap)) rest w') : LL r P ops Q n D M (o :: rest) w := by
  obtain ⟨i, hi, hz, hsz, hby⟩ := I.info
  obtain ⟨a, cap2, rfl, hc, hcell⟩ := hr
  cases a with
  | none =>
    have hus : us = [] := by
      rcases Classical.em (us = []) with h | h
      · exact h
      · obtain ⟨b, off, ha, _⟩ := hcell h
        cases ha
    subst hus
    refine LL.val (R.builtin (w' := w) (z := .value (.slice (some ⟨g, 0, none⟩) ts.length cap)) ho hx fun b => ?_) hd (by rw [ho]; rfl) hg (c w (by simpa using hown) (grown_refl w _))
    unfold builtin
    simp only [List.length_nil, Sem.run_bind, run_append_nilsrc w I.under hi g _ cap cap2 (by simpa using hroom), Result.andThen_ok, Sem.run_pure]
  | some p =>
    have hnews : ∀ j u, (us.flatMap enc)[j]? = some u → w.cell? (p.add j) = some u := fun j u hj => by
      have hjl : j < us.length * k := by
        have := (List.getElem?_eq_some_iff.1 hj).1
        rwa [E.flat] at this
      have hne : us ≠ [] := by intro e; simp [e] at hj
      obtain ⟨b, off, ha, _, hh⟩ := hcell hne
      cases ha
      rw [Addr.add_lit, hh j hjl, hj]
    obtain ⟨w', h1, h2, h3⟩ := run_append_fits (P := P) (w := w) base T o.type e i k I.under hi hsz g ts.length cap _ hown p us.length cap2 (us.flatMap enc) (E.flat us) hnews (E.ones us) hroom
    have h4 : OwnsT enc k w' base e (.slice (some ⟨g, 0, none⟩) (ts.length + us.length) cap) (ts ++ us) := by
      unfold OwnsT
      rw [List.length_append, List.flatMap_append]
      exact h2
    refine LL.val (R.builtin (w' := w') (z := .value (.slice (some ⟨g, 0, none⟩) (ts.length + us.length) cap)) ho hx fun b => ?_) hd (by rw [ho]; rfl) hg (c w' h4 h3)
    unfold builtin
    simp only [Sem.run_bind, h1, Result.andThen_ok, Sem.run_pure]
theorem LL.clearT {xs : Array Operand} {m g cap c : Nat} {base : Nat} {ts : List α} (ho : o.op = .call { callee := .builtin .clear, args := xs, argTypes := #[T] }) (hx : evsM M xs.toList = some [.slice (some ⟨g, ts.length * k, none⟩) m c]) (E : Enc enc k) (I : ElT P T e z k bytes) (hz1 : ∀ u ∈ z.cells, u.oneCell' = true)
    (hown : OwnsT enc k w base e (.slice (some ⟨g, 0, none⟩) ts.length cap) ts) (hm : ts.length + m ≤ cap) (hd : dstB n o.dst = true) (hg : wantB ops M o.guard = some true)
    (h : ∀ w', OwnsT enc k w' base e (.slice (some ⟨g, 0, none⟩) ts.length cap) ts → w.grownBy w' (some g) → LL r P ops Q n D (putM M o.dst (.tuple #[])) rest w') : LL r P ops Q n D M (o :: rest) w := by
  obtain ⟨w', h1, h2, h3⟩ := run_clear_t (m := m) (c := c) E I hz1 o.type hown hm
  refine LL.val (R.builtin (w' := w') (z := .value (.tuple #[])) ho hx fun b => ?_) hd (by rw [ho]; rfl) hg (h w' h2 h3)
  unfold builtin
  simp only [Sem.run_bind, h1, Result.andThen_ok, Sem.run_pure]
end

set_option maxRecDepth 100000 in
set_option maxHeartbeats 2000000 in
theorem delete_first {base g cap : Nat} {t : Tn} {ts : List Tn} {N : Nat} (hN : ts.length = N) (w : World) (h : OwnsT tE 2 w base 51 (.slice (some ⟨g, 0, none⟩) (N + 1) cap) (t :: ts)) (hl : N ≤ 1048576) (hcap : N + 1 ≤ cap) :
    Calls Try.prog 37 #[.slice (some ⟨g, 0, none⟩) (N + 1) cap, .int .i64 0, .int .i64 1] w fun e w' => e = .returned (.slice (some ⟨g, 0, none⟩) N cap) ∧ OwnsT tE 2 w' base 51 (.slice (some ⟨g, 0, none⟩) N cap) ts ∧ w.grownBy w' (some g) := by
  subst hN
  have hrd := h.reads tEnc
  have hsrc := hrd.from tEnc (m := 1) (by simp)
  refine X.fn Try.func37 rfl (n := 33) rfl rfl ?_
  (refine CC.seq ?_; refine CC.region ?_; refine LL.val (R.assign rfl rfl) rfl rfl rfl ?_; refine LL.nilS ?_; refine CC.seq ?_; refine CC.region ?_; refine LL.val (R.move rfl rfl) rfl rfl rfl ?_; refine LL.val (R.move rfl rfl) rfl rfl rfl ?_; refine LL.val (R.move rfl rfl) rfl rfl rfl ?_; refine LL.val (R.move rfl rfl) rfl rfl rfl ?_; refine LL.val (R.len rfl rfl rfl rfl) rfl rfl rfl ?_)
  refine LL.val (R.slice rfl rfl rfl rfl rfl (slAt_sl rfl (run_part3_t ElTurn _ (ts.length + 1) cap 0 1 (ts.length + 1) (by omega) (by omega) hcap _))) rfl rfl rfl ?_
  (refine LL.nilS ?_; refine CC.seq ?_; refine CC.seq ?_; refine CC.region ?_; refine LL.val (R.move rfl rfl) rfl rfl rfl ?_; refine LL.val (R.move rfl rfl) rfl rfl rfl ?_; refine LL.val (R.eqF rfl rfl rfl (by omega)) rfl rfl rfl ?_; refine LL.nilS ?_; refine CC.no rfl ?_; refine CC.skip ?_; refine EE.thenN ?_; refine CC.seq ?_; refine CC.region ?_; refine LL.val (R.move rfl rfl) rfl rfl rfl ?_; refine LL.val (R.len rfl rfl rfl rfl) rfl rfl rfl ?_; refine LL.val (R.assign rfl rfl) rfl rfl rfl ?_; refine LL.nilS ?_; refine CC.seq ?_)
  have own0 : OwnsT tE 2 w.drew base 51 (.slice (some ⟨g, 0, none⟩) ([] : List Tn).length cap) [] := by
    rcases h.2 with ⟨e, _⟩ | ⟨g', cap', cur, e, hbg, hg, hnc, hcm, hcs, _⟩
    · cases e
    · cases e
      exact ⟨by simp, .inr ⟨g, cap, cur, rfl, hbg, hg, by simp, hcm, hcs, by simp⟩⟩
  have hsrc2 : ReadsTn w.drew (.slice (if cap = 1 then some ⟨g, 0, none⟩ else (some (⟨g, 0, none⟩ : Addr)).map fun p => p.add (1 * 2)) (ts.length + 1 - 1) (cap - 1)) ts := hsrc.below (Below.refl _ _).drew
  refine CC.tail 6 (by kernel_rfl) (by kernel_rfl) ?_
  (refine SS.val (R.move rfl rfl) rfl rfl ?_; refine SS.val (R.move rfl rfl) rfl rfl ?_)
  refine SS.val (R.slice rfl rfl rfl rfl rfl (slAt_sl rfl (run_upto_t ElTurn _ (ts.length + 1) cap 0 (by omega) _))) rfl rfl ?_
  (refine SS.val (R.move rfl rfl) rfl rfl ?_; refine SS.val (R.move rfl rfl) rfl rfl ?_)
  refine SS.val (R.slice rfl rfl rfl rfl rfl (slAt_sl rfl (run_from_t ElTurn _ (ts.length + 1) cap 1 (by omega) _))) rfl rfl ?_
  (refine SS.nil ?_)
  refine LL.fitT rfl rfl tEnc ElTurn own0 hsrc2 (by simp; omega) rfl rfl ?_
  intro w2 o2 g2
  have e0 : ([] : List Tn).length + ts.length = ts.length := by simp
  rw [e0, List.nil_append] at o2
  rw [e0]
  (refine LL.val (R.assign rfl rfl) rfl rfl rfl ?_; refine LL.nilS ?_; refine CC.seq ?_; refine CC.region ?_; refine LL.val (R.move rfl rfl) rfl rfl rfl ?_; refine LL.val (R.move rfl rfl) rfl rfl rfl ?_; refine LL.val (R.len rfl rfl rfl rfl) rfl rfl rfl ?_; refine LL.val (R.move rfl rfl) rfl rfl rfl ?_)
  have hpart : ∀ w', (Instr.slice 26 (.slice (some ⟨g, 0, none⟩) ts.length cap) (some (.int .i64 (ts.length : Int))) (some (.int .i64 ((ts.length + 1 : Nat) : Int))) none).run Try.prog w' = .ok (.slice (some ⟨g, ts.length * 2, none⟩) 1 (cap - ts.length)) w' := fun w' => by
    have hp := run_part_t ElTurn (some ⟨g, 0, none⟩) ts.length cap ts.length (ts.length + 1) (by omega) (by omega) w'
    rw [if_neg (by omega), Option.map_some, add_plain, Nat.zero_add, Nat.add_sub_cancel_left] at hp
    exact hp
  refine LL.val (R.slice rfl rfl rfl rfl rfl (slAt_sl rfl (hpart _))) rfl rfl rfl ?_
  refine LL.clearT rfl rfl tEnc ElTurn (by intro u hu; simp [Value.cells] at hu; rcases hu with rfl | rfl <;> rfl) o2 (by omega) rfl rfl ?_
  intro w3 o3 g3
  (refine LL.nilS ?_; refine CC.seq ?_; refine CC.region ?_; refine LL.val (R.move rfl rfl) rfl rfl rfl ?_; refine LL.val (R.assign rfl rfl) rfl rfl rfl ?_; refine LL.nilS ?_; refine CC.ret ?_)
  refine EE.ret _ rfl rfl ?_
  refine ⟨rfl, o3, ?_⟩
  exact ⟨g3.os.trans g2.os, g3.tape.trans g2.tape, g3.output.trans g2.output, Nat.le_trans g2.size g3.size, fun j hj hne => (g3.block j (Nat.lt_of_lt_of_le hj g2.size) hne).trans (g2.block j hj hne)⟩
end Go.Proofs.Ytcchffdnbamkoaa
