/- What the statements' walks use: Wk8, Wk9, Wk20, Wk21, Wk26, Wk27, Wk22, Wk10, Open, OpenC. -/
import Derived.Test.YtbbddpnjglijdaaDoorRows
import Derived.ProofKit
import Derived.OpenShut
import Derived.ShutString
import Derived.ChangeOld
import Derived.ChangeSame
import Derived.Deep.Slices
import Derived.Test.YtbbddpnjglijdaaDoorMqa
import Derived.Test.YtbbddpnjglijdaaDoorMqc
import Derived.Test.YtbbddpnjglijdaaDoorMqd
/- walk: places, Find; calls over a walker's state (written by genwk8.py). -/
namespace Go.Proofs.YtbbddpnjglijdaaDoor
set_option linter.unusedVariables false
set_option linter.unusedSimpArgs false
open Go.RowKit Go.Shelf
set_option maxRecDepth 100000
set_option maxHeartbeats 8000000
/-- A place: a directory, a name in it, what it is. -/
abbrev Pl := Int × Bs × Fd
def plE (p : Pl) : List Value := [.int .i64 p.1, strV p.2.1, .int .i64 p.2.2.1, .int .i64 p.2.2.2.1, strV p.2.2.2.2]
theorem plEnc : Enc plE 5 := ⟨fun _ => rfl, fun t u hu => by
  simp only [plE, List.mem_cons, List.not_mem_nil, or_false] at hu
  rcases hu with rfl | rfl | rfl | rfl | rfl <;> rfl, by decide⟩
theorem cells_sub {w : World} {b o k : Nat} {vs us : List Value} (h : Cells w ⟨b, o, none⟩ vs) (e : vs.drop k = us) : Cells w ⟨b, o + k, none⟩ us := fun j u hu => by
  subst e
  rw [List.getElem?_drop] at hu
  have := h.at (j := k + j) hu
  rw [← Nat.add_assoc] at this
  have e : Addr.add ⟨b, o + k, none⟩ j = ⟨b, o + k + j, none⟩ := by simp [Addr.add]
  rw [e]
  exact this
def plB (d : Int) (nm : Bs) (p : Pl) : Bool := decide (p.1 = d) && decide (p.2.1 = nm)
def findP (l : List Pl) (d : Int) (nm : Bs) : Option Fd := (l.find? (plB d nm)).map (·.2.2)
theorem findP_none {l : List Pl} {d : Int} {nm : Bs} (h : l.find? (plB d nm) = none) : findP l d nm = none := by
  unfold findP
  rw [h]
  rfl
theorem findP_at {l : List Pl} {d : Int} {nm : Bs} {i : Nat} {x : Pl} (h : (l.take i).find? (plB d nm) = none) (hx : l[i]? = some x) (hb : plB d nm x = true) : findP l d nm = some x.2.2 := by
  unfold findP
  obtain ⟨hi, e⟩ := List.getElem?_eq_some_iff.1 hx
  have e2 : l = l.take i ++ x :: l.drop (i + 1) := by
    rw [← e, ← List.drop_eq_getElem_cons hi, List.take_append_drop]
  rw [e2, List.find?_append, h, List.find?_cons_of_pos hb]
  rfl
theorem find_step {l : List Pl} {d : Int} {nm : Bs} {i : Nat} {x : Pl} (h : (l.take i).find? (plB d nm) = none) (hx : l[i]? = some x) (hb : plB d nm x = false) : (l.take (i + 1)).find? (plB d nm) = none := by
  rw [List.take_add_one, hx, List.find?_append, h]
  simp [hb]
theorem find_any (d : Int) (nm : Bs) (v : Value) (l : List Pl) (w : World) (hv : ReadsT plE 5 w v l) (hl : l.length ≤ 1048576) : Calls Tryd.prog 27 #[v, .int .i64 d, strV nm] w fun e w' => e = .returned (.tuple #[fdV ((findP l d nm).getD (0, 0, [])), .bool (findP l d nm).isSome]) ∧ Below w.heap.size w w' := by
  have q := Below.refl w.heap.size w
  obtain ⟨N, hN⟩ : ∃ N, l.length = N := ⟨_, rfl⟩
  obtain ⟨a, cap, rfl, hc⟩ := hv.form hN
  have hF : ∀ W, Below w.heap.size w W → ReadsT plE 5 W (.slice a N cap) l := fun W b => hv.up b
  rw [hN] at hl
  clear hv
  refine X.fn Tryd.func27 rfl (n := 37) rfl rfl ?_
  refine CC.seq ?_
  refine CC.region ?_
  refine LL.alloc ([Value.int IntKind.i64 0, Value.int IntKind.i64 0, Value.string { data := { toList := [] } }]) rfl rfl rfl rfl rfl ?_
  intro W2 g3 eg3 r4 z5 b1
  replace q := q.trans (b1.mono q.size)
  refine LL.val (R.assign rfl rfl) rfl rfl rfl ?_
  refine LL.nilS ?_
  refine CC.seq ?_
  refine CC.seq ?_
  refine CC.region ?_
  refine LL.val (R.assign rfl rfl) rfl rfl rfl ?_
  refine LL.nilS ?_
  refine CC.block ?_
  have rr := r4
  have jq := q.size
  have jr := r4.lt
  obtain ⟨g0, eg⟩ : ∃ g, g = g3 := ⟨_, rfl⟩
  subst eg
  refine CC.loop (α := Nat) (fun i => [(0, .slice a N cap), (1, .int .i64 d), (2, strV nm), (6, .pointer (some ⟨g0, 0, none⟩)), (8, .int .i64 (i : Int))]) (fun i W => i ≤ N ∧ Below w.heap.size w W ∧ RowL W g0 38 [.int .i64 0, .int .i64 0, strV []] ∧ (l.take i).find? (plB d nm) = none) (fun i => N - i) 0 ⟨rfl, rfl, rfl, rfl, rfl, trivial⟩ ⟨Nat.zero_le _, q, rr, rfl⟩ ?_
  clear q rr r4 jr
  rintro i W ⟨hi, q, rr, hnone⟩
  have jq := q.size
  have jr := rr.lt
  show CC none Tryd.prog _ 37 [] (sl [(0, .slice a N cap), (1, .int .i64 d), (2, strV nm), (6, .pointer (some ⟨g0, 0, none⟩)), (8, .int .i64 (i : Int))]) _ W
  by_cases hlt : i < N
  case neg =>
    obtain rfl : N = i := by omega
    rw [List.take_of_length_le (by omega)] at hnone
    rw [findP_none hnone]
    refine CC.seq ?_
    refine CC.seq ?_
    refine CC.region ?_
    refine LL.val (R.move rfl rfl) rfl rfl rfl ?_
    refine LL.val (R.move rfl rfl) rfl rfl rfl ?_
    refine LL.val (R.len rfl rfl rfl rfl) rfl rfl rfl ?_
    refine LL.val (R.ltF rfl rfl rfl (by omega)) rfl rfl rfl ?_
    refine LL.nilS ?_
    refine CC.no rfl ?_
    refine CC.exit ?_
    refine EE.thenX ?_
    refine EE.thenX ?_
    refine EE.inX ?_
    refine EE.thenN ?_
    refine CC.seq ?_
    refine CC.region ?_
    refine LL.val (R.buildV rfl rfl (v := .agg #[Value.int IntKind.i64 0, Value.int IntKind.i64 0, Value.string { data := #[] }]) (fun _ => by kernel_rfl)) rfl rfl rfl ?_
    refine LL.storeN (vs := [Value.int IntKind.i64 0, Value.int IntKind.i64 0, Value.string { data := #[] }]) rfl rfl rfl rfl rr (by exact Nat.le_of_ble_eq_true rfl) (ones_of rfl) rfl rfl ?_
    intro Wa2 ra3 ba1 za4
    have hlba1 := rr.lt
    replace ra3 : RowL Wa2 _ 38 [Value.int IntKind.i64 0, Value.int IntKind.i64 0, Value.string { data := #[] }] := ra3
    clear rr
    replace q := q.grown ba1 q.size (by rintro k ⟨⟩; omega)
    have rr := ra3
    clear ra3
    refine LL.val (R.assign rfl rfl) rfl rfl rfl ?_
    refine LL.nilS ?_
    refine CC.ret ?_
    refine EE.ret2 rfl ⟨_, rfl, lvNc (RowL.cells0 (by assumption)) (by rfl) (by rfl)⟩ rfl ?_
    exact ⟨rfl, q⟩
  obtain ⟨⟨pd, pn, fi, fk, ft⟩, hx⟩ : ∃ x, l[i]? = some x := ⟨_, List.getElem?_eq_getElem (by omega)⟩
  obtain ⟨b1, o1, rfl, lb1, _⟩ := (hF _ q).get plEnc hx
  have m1 : CellsN W ⟨b1, o1 + i * 5, none⟩ 5 [.int .i64 pd, strV pn, .int .i64 fi, .int .i64 fk, strV ft] := (hF W q).elemN plEnc hx
  have m3 : CellsN W ⟨b1, o1 + i * 5 + 2, none⟩ 3 [.int .i64 fi, .int .i64 fk, strV ft] := ⟨cells_sub m1.at' rfl, rfl⟩
  have c0 : W.cell? ⟨b1, o1 + i * 5 + 0, none⟩ = some (.int .i64 pd) := m1.at'.at (j := 0) rfl
  have c1 : W.cell? ⟨b1, o1 + i * 5 + 1, none⟩ = some (strV pn) := m1.at'.at (j := 1) rfl
  have c2 : W.cell? ⟨b1, o1 + i * 5, none⟩ = some (.int .i64 pd) := c0
  by_cases hd : pd = d
  · by_cases hn : pn = nm
    · have hb : plB d nm (pd, pn, fi, fk, ft) = true := by unfold plB; simp [hd, hn]
      rw [findP_at hnone hx hb]
      clear hb hnone
      refine CC.seq ?_
      refine CC.seq ?_
      refine CC.region ?_
      refine LL.val (R.move rfl rfl) rfl rfl rfl ?_
      refine LL.val (R.move rfl rfl) rfl rfl rfl ?_
      refine LL.val (R.len rfl rfl rfl rfl) rfl rfl rfl ?_
      refine LL.val (R.ltT rfl rfl rfl (by omega)) rfl rfl rfl ?_
      refine LL.nilS ?_
      refine CC.yes rfl ?_
      refine CC.skip ?_
      refine EE.thenN ?_
      refine CC.seq ?_
      refine CC.block ?_
      refine CC.seq ?_
      refine CC.region ?_
      refine LL.val (R.move rfl rfl) rfl rfl rfl ?_
      refine LL.val (R.move rfl rfl) rfl rfl rfl ?_
      refine LL.val (R.index rfl rfl rfl (I.ixS rfl (by omega))) rfl rfl rfl ?_
      refine LL.val (R.field rfl rfl (I.fld rfl)) rfl rfl rfl ?_
      refine LL.val (R.load rfl rfl (I.ld1 rfl (by assumption))) rfl rfl rfl ?_
      refine LL.val (R.move rfl rfl) rfl rfl rfl ?_
      refine LL.val (R.eqT rfl rfl rfl (by omega)) rfl rfl rfl ?_
      refine LL.val (R.move rfl rfl) rfl rfl rfl ?_
      refine LL.val (R.move rfl rfl) rfl rfl rfl ?_
      refine LL.val (R.move rfl rfl) rfl rfl rfl ?_
      refine LL.val (R.index rfl rfl rfl (I.ixS rfl (by omega))) rfl rfl rfl ?_
      refine LL.val (R.field rfl rfl (I.fld rfl)) rfl rfl rfl ?_
      refine LL.val (R.load rfl rfl (I.ld1 rfl (by assumption))) rfl rfl rfl ?_
      refine LL.val (R.move rfl rfl) rfl rfl rfl ?_
      (refine LL.val (R.eqS (a := pn) (b := nm) (c := true) rfl rfl rfl (by simp [hn])) rfl rfl rfl ?_)
      refine LL.val (R.pick rfl rfl rfl) rfl rfl rfl ?_
      refine LL.nilS ?_
      refine CC.yes rfl ?_
      refine CC.seq ?_
      refine CC.region ?_
      refine LL.val (R.move rfl rfl) rfl rfl rfl ?_
      refine LL.val (R.move rfl rfl) rfl rfl rfl ?_
      refine LL.val (R.index rfl rfl rfl (I.ixS rfl (by omega))) rfl rfl rfl ?_
      refine LL.val (R.field rfl rfl (I.fld rfl)) rfl rfl rfl ?_
      refine LL.val (R.load rfl rfl (I.ldM (by assumption) rfl rfl)) rfl rfl rfl ?_
      refine LL.storeN (vs := [Value.int IntKind.i64 fi, Value.int IntKind.i64 fk, strV ft]) rfl rfl rfl rfl rr (by exact Nat.le_of_ble_eq_true rfl) (ones_of rfl) rfl rfl ?_
      intro Wb2 rb3 bb1 zb4
      have hlbb1 := rr.lt
      replace rb3 : RowL Wb2 _ 38 [Value.int IntKind.i64 fi, Value.int IntKind.i64 fk, strV ft] := rb3
      clear rr
      replace q := q.grown bb1 q.size (by rintro k ⟨⟩; omega)
      have rr := rb3
      clear rb3
      refine LL.val (R.assign rfl rfl) rfl rfl rfl ?_
      refine LL.nilS ?_
      refine CC.ret ?_
      refine EE.inR ?_
      refine EE.thenR ?_
      refine EE.thenR ?_
      refine EE.inR ?_
      refine EE.thenR ?_
      refine EE.ret2 rfl ⟨_, rfl, lvNc (RowL.cells0 (by assumption)) (by rfl) (by rfl)⟩ rfl ?_
      exact ⟨rfl, q⟩
    · have hb : plB d nm (pd, pn, fi, fk, ft) = false := by unfold plB; simp [hd, hn]
      have hst := find_step hnone hx hb
      clear hb hnone
      refine CC.seq ?_
      refine CC.seq ?_
      refine CC.region ?_
      refine LL.val (R.move rfl rfl) rfl rfl rfl ?_
      refine LL.val (R.move rfl rfl) rfl rfl rfl ?_
      refine LL.val (R.len rfl rfl rfl rfl) rfl rfl rfl ?_
      refine LL.val (R.ltT rfl rfl rfl (by omega)) rfl rfl rfl ?_
      refine LL.nilS ?_
      refine CC.yes rfl ?_
      refine CC.skip ?_
      refine EE.thenN ?_
      refine CC.seq ?_
      refine CC.block ?_
      refine CC.seq ?_
      refine CC.region ?_
      refine LL.val (R.move rfl rfl) rfl rfl rfl ?_
      refine LL.val (R.move rfl rfl) rfl rfl rfl ?_
      refine LL.val (R.index rfl rfl rfl (I.ixS rfl (by omega))) rfl rfl rfl ?_
      refine LL.val (R.field rfl rfl (I.fld rfl)) rfl rfl rfl ?_
      refine LL.val (R.load rfl rfl (I.ld1 rfl (by assumption))) rfl rfl rfl ?_
      refine LL.val (R.move rfl rfl) rfl rfl rfl ?_
      refine LL.val (R.eqT rfl rfl rfl (by omega)) rfl rfl rfl ?_
      refine LL.val (R.move rfl rfl) rfl rfl rfl ?_
      refine LL.val (R.move rfl rfl) rfl rfl rfl ?_
      refine LL.val (R.move rfl rfl) rfl rfl rfl ?_
      refine LL.val (R.index rfl rfl rfl (I.ixS rfl (by omega))) rfl rfl rfl ?_
      refine LL.val (R.field rfl rfl (I.fld rfl)) rfl rfl rfl ?_
      refine LL.val (R.load rfl rfl (I.ld1 rfl (by assumption))) rfl rfl rfl ?_
      refine LL.val (R.move rfl rfl) rfl rfl rfl ?_
      (refine LL.val (R.eqS (a := pn) (b := nm) (c := false) rfl rfl rfl (by simp [hn])) rfl rfl rfl ?_)
      refine LL.val (R.pick rfl rfl rfl) rfl rfl rfl ?_
      refine LL.nilS ?_
      refine CC.no rfl ?_
      refine CC.skip ?_
      refine EE.inN ?_
      refine EE.thenN ?_
      refine CC.region ?_
      refine LL.val (R.move rfl rfl) rfl rfl rfl ?_
      refine LL.val (R.addNc rfl rfl rfl rfl (by omega)) rfl rfl rfl ?_
      refine LL.val (R.assign rfl rfl) rfl rfl rfl ?_
      refine LL.nil ?_
      exact EE.round (i + 1) ⟨rfl, rfl, rfl, rfl, rfl, trivial⟩ ⟨by show i + 1 ≤ N; omega, q, rr, hst⟩ (by show N - (i + 1) < N - i; omega)
  · have hb : plB d nm (pd, pn, fi, fk, ft) = false := by unfold plB; simp [hd]
    have hst := find_step hnone hx hb
    clear hb hnone
    refine CC.seq ?_
    refine CC.seq ?_
    refine CC.region ?_
    refine LL.val (R.move rfl rfl) rfl rfl rfl ?_
    refine LL.val (R.move rfl rfl) rfl rfl rfl ?_
    refine LL.val (R.len rfl rfl rfl rfl) rfl rfl rfl ?_
    refine LL.val (R.ltT rfl rfl rfl (by omega)) rfl rfl rfl ?_
    refine LL.nilS ?_
    refine CC.yes rfl ?_
    refine CC.skip ?_
    refine EE.thenN ?_
    refine CC.seq ?_
    refine CC.block ?_
    refine CC.seq ?_
    refine CC.region ?_
    refine LL.val (R.move rfl rfl) rfl rfl rfl ?_
    refine LL.val (R.move rfl rfl) rfl rfl rfl ?_
    refine LL.val (R.index rfl rfl rfl (I.ixS rfl (by omega))) rfl rfl rfl ?_
    refine LL.val (R.field rfl rfl (I.fld rfl)) rfl rfl rfl ?_
    refine LL.val (R.load rfl rfl (I.ld1 rfl (by assumption))) rfl rfl rfl ?_
    refine LL.val (R.move rfl rfl) rfl rfl rfl ?_
    refine LL.val (R.eqF rfl rfl rfl (by omega)) rfl rfl rfl ?_
    refine LL.val (R.move rfl rfl) rfl rfl rfl ?_
    refine LL.skip rfl rfl ?_
    refine LL.skip rfl rfl ?_
    refine LL.skip rfl rfl ?_
    refine LL.skip rfl rfl ?_
    refine LL.skip rfl rfl ?_
    refine LL.skip rfl rfl ?_
    refine LL.skip rfl rfl ?_
    refine LL.val (R.pick rfl rfl rfl) rfl rfl rfl ?_
    refine LL.nilS ?_
    refine CC.no rfl ?_
    refine CC.skip ?_
    refine EE.inN ?_
    refine EE.thenN ?_
    refine CC.region ?_
    refine LL.val (R.move rfl rfl) rfl rfl rfl ?_
    refine LL.val (R.addNc rfl rfl rfl rfl (by omega)) rfl rfl rfl ?_
    refine LL.val (R.assign rfl rfl) rfl rfl rfl ?_
    refine LL.nil ?_
    exact EE.round (i + 1) ⟨rfl, rfl, rfl, rfl, rfl, trivial⟩ ⟨by show i + 1 ≤ N; omega, q, rr, hst⟩ (by show N - (i + 1) < N - i; omega)
section
variable (g : Nat) {s : Wk} {w : World}
theorem asksW (A : WkAt w g s) (p : Bs) (r : List Bs) (hf : s.fin = none) (hp : s.ps = p :: r) : Calls Tryd.prog 24 #[.pointer (some ⟨g, 0, none⟩)] w fun e w' => e = .returned (.tuple #[.int .i64 s.dir, strV p, .bool true]) ∧ Below w.heap.size w w' := by
  obtain ⟨d, k, lv, ls, B, h1, h2, h3, h4⟩ := A.out
  obtain ⟨rfl, rfl, rfl⟩ := h4 hf
  rw [hf] at h1
  rw [hp] at h2
  obtain ⟨a, c, rfl⟩ := h2.len
  exact asks_run g p r _ _ _ rfl h1 h2.r
theorem asksD (A : WkAt w g s) (x : Wd) (hf : s.fin = some x) : Calls Tryd.prog 24 #[.pointer (some ⟨g, 0, none⟩)] w fun e w' => e = .returned (.tuple #[.int .i64 0, strV [], .bool false]) ∧ Below w.heap.size w w' := by
  obtain ⟨d, k, lv, ls, B, h1, h2, h3, h4⟩ := A.out
  rw [hf] at h1
  exact asks_done g h1
theorem doneW (A : WkAt w g s) (hf : s.fin = none) : Calls Tryd.prog 25 #[.pointer (some ⟨g, 0, none⟩)] w fun e w' => e = .returned (.tuple #[wdV wdZ, .bool false]) ∧ Below w.heap.size w w' := by
  obtain ⟨d, k, lv, ls, B, h1, h2, h3, h4⟩ := A.out
  rw [hf] at h1
  exact done_run g h1
theorem doneD (A : WkAt w g s) (x : Wd) (hf : s.fin = some x) : Calls Tryd.prog 25 #[.pointer (some ⟨g, 0, none⟩)] w fun e w' => e = .returned (.tuple #[wdV x, .bool true]) ∧ Below w.heap.size w w' := by
  obtain ⟨d, k, lv, ls, B, h1, h2, h3, h4⟩ := A.out
  rw [hf] at h1
  exact done_done g h1
theorem missW (A : WkAt w g s) (p : Bs) (r : List Bs) (hf : s.fin = none) (hp : s.ps = p :: r) (hk : s.ok) : Calls Tryd.prog 13 #[.pointer (some ⟨g, 0, none⟩)] w fun e w' => e = .returned (.int .i64 0) ∧ WkAt w' g s.miss ∧ Kept (fun j => j < w.heap.size ∧ j ≠ g) w w' := by
  have hb := hk.big
  obtain ⟨dir, ps, links, fol, fin⟩ := s
  dsimp only at hf hp hb
  subst hf hp
  obtain ⟨d, k, lv, ls, B, h1, h2, h3, h4⟩ := A.out
  obtain ⟨rfl, rfl, rfl⟩ := h4 rfl
  exact miss_run g h1 h2 (by simp only [List.length_cons] at hb; omega)
theorem giveW (A : WkAt w g s) (p : Bs) (r : List Bs) (hf : s.fin = none) (hp : s.ps = p :: r) (hk : s.ok) (f : Fd) (hm : Mx w) (hg0 : 0 < g) (ht : f.2.1 = 3 → f.2.2.length ≤ 1048576) : Calls Tryd.prog 14 #[.pointer (some ⟨g, 0, none⟩), fdV f] w fun e w' => e = .returned (.int .i64 0) ∧ WkAt w' g (s.give f) ∧ Kept (fun j => j < w.heap.size ∧ j ≠ g) w w' := by
  have hb := hk.big
  have h8 := hk.links
  obtain ⟨dir, ps, links, fol, fin⟩ := s
  dsimp only at hf hp hb h8
  subst hf hp
  obtain ⟨d, k, lv, ls, B, h1, h2, h3, h4⟩ := A.out
  obtain ⟨rfl, rfl, rfl⟩ := h4 rfl
  exact give_run g f h1 h2 (by simp only [List.length_cons] at hb; omega) hm hg0 h8 ht
end
end Go.Proofs.YtbbddpnjglijdaaDoor
/- walk: goes (written by genwk9.py). -/
namespace Go.Proofs.YtbbddpnjglijdaaDoor
set_option linter.unusedVariables false
set_option linter.unusedSimpArgs false
open Go.RowKit Go.Shelf
set_option maxRecDepth 100000
set_option maxHeartbeats 8000000
/-- An answer, by places. -/
def stepP (l : List Pl) (s : Wk) : Wk := match s.fin with
  | some _ => s
  | none => match s.ps with
    | [] => s
    | p :: _ => match findP l s.dir p with
      | some f => s.give f
      | none => s.miss
def iterP (l : List Pl) : Nat → Wk → Wk
  | 0, s => s
  | n + 1, s => stepP l (iterP l n s)
theorem step_done {l : List Pl} {s : Wk} {x : Wd} (h : s.fin = some x) : stepP l s = s := by
  unfold stepP
  rw [h]
theorem iter_done {l : List Pl} {s : Wk} {x : Wd} {k : Nat} (h : (iterP l k s).fin = some x) : ∀ {n}, k ≤ n → iterP l n s = iterP l k s
  | 0, hk => by
    obtain rfl : k = 0 := by omega
    rfl
  | n + 1, hk => by
    by_cases e : k = n + 1
    · rw [e]
    · have ih := iter_done h (n := n) (by omega)
      show stepP l (iterP l n s) = _
      rw [ih, step_done h]
theorem miss_asks (s : Wk) : s.miss.asks := done_asks _ _
theorem step_ok {l : List Pl} {s : Wk} (h : s.ok) : (stepP l s).ok := by
  unfold stepP
  repeat' split
  · exact h
  · exact h
  · exact give_ok h _
  · exact miss_ok h
theorem step_asks {l : List Pl} {s : Wk} (h : s.asks) : (stepP l s).asks := by
  unfold stepP
  repeat' split
  · exact h
  · exact h
  · exact give_asks h _
  · exact miss_asks _
theorem iter_ok {l : List Pl} {s : Wk} (h : s.ok) : ∀ n, (iterP l n s).ok
  | 0 => h
  | n + 1 => step_ok (iter_ok h n)
theorem iter_asks {l : List Pl} {s : Wk} (h : s.asks) : ∀ n, (iterP l n s).asks
  | 0 => h
  | n + 1 => step_asks (iter_asks h n)
theorem findP_mem {l : List Pl} {d : Int} {nm : Bs} {f : Fd} (h : findP l d nm = some f) : ∃ x ∈ l, x.2.2 = f := by
  unfold findP at h
  cases e : l.find? (plB d nm) with
  | none => rw [e] at h; cases h
  | some x => rw [e] at h; exact ⟨x, List.mem_of_find?_eq_some e, Option.some.inj h⟩
theorem num17_any (z : Int) (w : World) : Calls Tryd.prog 11 #[.int .i64 z] w fun e w' => e = .returned (.int .i64 z) ∧ w = w' := by
  refine X.fn Tryd.func11 rfl (n := 4) rfl rfl ?_
  refine CC.seq ?_
  refine CC.region ?_
  refine LL.val (R.assign rfl rfl) rfl rfl rfl ?_
  refine LL.nilS ?_
  refine CC.seq ?_
  refine CC.region ?_
  refine LL.val (R.move rfl rfl) rfl rfl rfl ?_
  refine LL.val (R.assign rfl rfl) rfl rfl rfl ?_
  refine LL.nilS ?_
  refine CC.ret ?_
  refine EE.ret _ rfl rfl ?_
  exact ⟨rfl, rfl⟩
theorem goes_fin (path : Bs) (fol : Bool) (v : Value) (l : List Pl) (w : World) (hm : Mx w) (hl : path.length ≤ 9223372036854775807) (hz : pathN path = 0) (hv : ReadsT plE 5 w v l) (hN : l.length ≤ 1048576) (hT : ∀ p ∈ l, p.2.2.2.1 = 3 → p.2.2.2.2.length ≤ 1048576) (x : Wd) (hx : (iterP l 20000 (newW path fol)).fin = some x) : Calls Tryd.prog 19 #[strV path, .bool fol, v] w fun e w' => e = .returned (.tuple #[wdV x, .int .i64 0]) ∧ Below w.heap.size w w' := by
  have q := Below.refl w.heap.size w
  have hF : ∀ W, Below w.heap.size w W → ReadsT plE 5 W v l := fun W b => hv.up b
  have hok := iter_ok (l := l) (new_ok fol hz)
  have has := iter_asks (l := l) (s := newW path fol) (on_asks _)
  clear hv
  refine X.fn Tryd.func19 rfl (n := 64) rfl rfl ?_
  refine CC.seq ?_
  refine CC.region ?_
  refine LL.alloc ([Value.int IntKind.i64 0, Value.int IntKind.i64 0, Value.string { data := { toList := [] } }, Value.int IntKind.i64 0, Value.int IntKind.i64 0]) rfl rfl rfl rfl rfl ?_
  intro W9 g10 eg10 r11 z12 b8
  replace hm := hm.up b8
  replace q := q.trans (b8.mono q.size)
  refine LL.val (R.assign rfl rfl) rfl rfl rfl ?_
  refine LL.nilS ?_
  refine CC.seq ?_
  refine CC.region ?_
  refine LL.val (R.move rfl rfl) rfl rfl rfl ?_
  refine LL.val (R.move rfl rfl) rfl rfl rfl ?_
  have l41 := r11.lt
  (refine LL.call (R.call rfl rfl rfl) rfl rfl rfl (new_yes path hz (by assumption) hl) ?_; rintro e W40 ⟨g, rfl, A, hg, b37⟩; refine ⟨_, rfl, ?_⟩)
  have zb37 := b37.size
  replace r11 := r11.up b37
  replace b8 := b8.trans (b37.mono b8.size)
  replace hm := hm.up b37
  replace q := q.trans (b37.mono q.size)
  refine LL.val (R.move rfl rfl) rfl rfl rfl ?_
  refine LL.val (R.extract rfl rfl rfl) rfl rfl rfl ?_
  refine LL.val (R.extract rfl rfl rfl) rfl rfl rfl ?_
  refine LL.val (R.assign rfl rfl) rfl rfl rfl ?_
  refine LL.val (R.assign rfl rfl) rfl rfl rfl ?_
  refine LL.nilS ?_
  refine CC.seq ?_
  refine CC.seq ?_
  refine CC.region ?_
  refine LL.val (R.move rfl rfl) rfl rfl rfl ?_
  refine LL.call (R.call rfl rfl rfl) rfl rfl rfl (num17_any _ _) ?_
  rintro e W' ⟨rfl, rfl⟩
  refine ⟨_, rfl, ?_⟩
  refine LL.val (R.neF rfl rfl rfl (by omega)) rfl rfl rfl ?_
  refine LL.nilS ?_
  refine CC.no rfl ?_
  refine CC.skip ?_
  refine EE.thenN ?_
  refine CC.seq ?_
  refine CC.seq ?_
  refine CC.region ?_
  refine LL.val (R.assign rfl rfl) rfl rfl rfl ?_
  refine LL.nilS ?_
  refine CC.block ?_
  obtain ⟨S, hS⟩ : ∃ S, newW path fol = S := ⟨_, rfl⟩
  rw [hS] at hok has hx A
  have hgp : 0 < g ∧ g10 < g ∧ w.heap.size ≤ g10 := by have := hm.lt; omega
  have rr : RowL W40 g10 31 [.int .i64 0, .int .i64 0, strV [], .int .i64 0, .int .i64 0] := r11
  refine CC.loop (α := Nat) (fun t => [(2, v), (6, .pointer (some ⟨g10, 0, none⟩)), (8, .pointer (some ⟨g, 0, none⟩)), (10, .int .i64 (t : Int))]) (fun t W => t ≤ 20000 ∧ Below w.heap.size w W ∧ WkAt W g (iterP l t S) ∧ Mx W ∧ RowL W g10 31 [.int .i64 0, .int .i64 0, strV [], .int .i64 0, .int .i64 0]) (fun t => 20000 - t) 0 ⟨rfl, rfl, rfl, rfl, trivial⟩ ⟨Nat.zero_le _, q, A, hm, rr⟩ ?_
  clear q A hm rr r11 b37 b8
  rintro t W ⟨ht, q, A, hm, rr⟩
  have jq := q.size
  have jA := A.lt
  show CC none Tryd.prog _ 64 [] (sl [(2, v), (6, .pointer (some ⟨g10, 0, none⟩)), (8, .pointer (some ⟨g, 0, none⟩)), (10, .int .i64 (t : Int))]) _ W
  have hnx : iterP l (t + 1) S = stepP l (iterP l t S) := rfl
  have hot := hok t
  have hat := has t
  obtain ⟨st, hst⟩ : ∃ s, iterP l t S = s := ⟨_, rfl⟩
  rw [hst] at A hnx hot hat
  have AF := fun X (b : Below W.heap.size W X) => A.up b
  have qW := Below.refl W.heap.size W
  clear A
  cases hf : st.fin with
  | some y =>
    obtain rfl : y = x := by
      have h1 : (iterP l t S).fin = some y := by rw [hst]; exact hf
      have h2 := iter_done h1 ht
      rw [h2, h1] at hx
      exact Option.some.inj hx
    by_cases hlt : t < 20000
    · refine CC.seq ?_
      refine CC.seq ?_
      refine CC.region ?_
      refine LL.val (R.move rfl rfl) rfl rfl rfl ?_
      refine LL.val (R.ltT rfl rfl rfl (by omega)) rfl rfl rfl ?_
      refine LL.nilS ?_
      refine CC.yes rfl ?_
      refine CC.skip ?_
      refine EE.thenN ?_
      refine CC.seq ?_
      refine CC.block ?_
      refine CC.seq ?_
      refine CC.region ?_
      refine LL.val (R.move rfl rfl) rfl rfl rfl ?_
      have la53 := rr.lt
      (refine LL.call (R.call rfl rfl rfl) rfl rfl rfl (asksD g (AF _ qW) y hf) ?_; rintro e Wa52 ⟨rfl, ba49⟩; refine ⟨_, rfl, ?_⟩)
      have zba49 := ba49.size
      replace q := q.trans (ba49.mono q.size)
      replace hm := hm.up ba49
      replace rr := rr.up ba49
      replace qW := qW.trans (ba49.mono qW.size)
      refine LL.val (R.move rfl rfl) rfl rfl rfl ?_
      refine LL.val (R.extract rfl rfl rfl) rfl rfl rfl ?_
      refine LL.val (R.extract rfl rfl rfl) rfl rfl rfl ?_
      refine LL.val (R.extract rfl rfl rfl) rfl rfl rfl ?_
      refine LL.val (R.assign rfl rfl) rfl rfl rfl ?_
      refine LL.val (R.assign rfl rfl) rfl rfl rfl ?_
      refine LL.val (R.assign rfl rfl) rfl rfl rfl ?_
      refine LL.nilS ?_
      refine CC.seq ?_
      refine CC.seq ?_
      refine CC.region ?_
      refine LL.val (R.move rfl rfl) rfl rfl rfl ?_
      refine LL.val (R.not rfl rfl) rfl rfl rfl ?_
      refine LL.nilS ?_
      refine CC.yes rfl ?_
      refine CC.exit ?_
      refine EE.thenX ?_
      refine EE.inX' rfl ?_
      refine EE.thenX ?_
      refine EE.thenX ?_
      refine EE.inX ?_
      refine EE.thenN ?_
      refine CC.seq ?_
      refine CC.region ?_
      refine LL.val (R.move rfl rfl) rfl rfl rfl ?_
      have la229 := rr.lt
      (refine LL.call (R.call rfl rfl rfl) rfl rfl rfl (doneD g (AF _ qW) y hf) ?_; rintro e Wa228 ⟨rfl, ba225⟩; refine ⟨_, rfl, ?_⟩)
      have zba225 := ba225.size
      replace ba49 := ba49.trans (ba225.mono ba49.size)
      replace q := q.trans (ba225.mono q.size)
      replace hm := hm.up ba225
      replace rr := rr.up ba225
      replace qW := qW.trans (ba225.mono qW.size)
      refine LL.val (R.move rfl rfl) rfl rfl rfl ?_
      refine LL.val (R.extract rfl rfl rfl) rfl rfl rfl ?_
      refine LL.val (R.extract rfl rfl rfl) rfl rfl rfl ?_
      have la297 := rr.lt
      refine LL.alloc ([Value.int IntKind.i64 0, Value.int IntKind.i64 0, Value.string { data := { toList := [] } }, Value.int IntKind.i64 0, Value.int IntKind.i64 0]) rfl rfl rfl rfl rfl ?_
      intro Wa299 ga300 ega300 ra301 za302 ba298
      replace ba225 := ba225.trans (ba298.mono ba225.size)
      replace ba49 := ba49.trans (ba298.mono ba49.size)
      replace q := q.trans (ba298.mono q.size)
      replace hm := hm.up ba298
      replace rr := rr.up ba298
      replace qW := qW.trans (ba298.mono qW.size)
      refine LL.storeN (vs := [Value.int IntKind.i64 y.1, Value.int IntKind.i64 y.2.1, strV y.2.2.1, Value.int IntKind.i64 y.2.2.2.1, Value.int IntKind.i64 y.2.2.2.2]) rfl rfl rfl rfl ra301 (by exact Nat.le_of_ble_eq_true rfl) (ones_of rfl) rfl rfl ?_
      intro Wa322 ra323 ba321 za324
      have hlba321 := ra301.lt
      replace ra323 : RowL Wa322 _ 31 [Value.int IntKind.i64 y.1, Value.int IntKind.i64 y.2.1, strV y.2.2.1, Value.int IntKind.i64 y.2.2.2.1, Value.int IntKind.i64 y.2.2.2.2] := ra323
      clear ra301
      replace ba298 := ba298.grown ba321 ba298.size (by rintro k ⟨⟩; omega)
      replace ba225 := ba225.grown ba321 ba225.size (by rintro k ⟨⟩; omega)
      replace ba49 := ba49.grown ba321 ba49.size (by rintro k ⟨⟩; omega)
      replace q := q.grown ba321 q.size (by rintro k ⟨⟩; omega)
      replace hm := hm.gr ba321 (by have := hm.lt; omega)
      replace rr := rr.gr ba321 (by have := rr.lt; omega)
      replace qW := qW.grown ba321 qW.size (by rintro k ⟨⟩; omega)
      have ra301 := ra323
      clear ra323
      refine LL.val (R.assign rfl rfl) rfl rfl rfl ?_
      refine LL.nilS ?_
      refine CC.seq ?_
      refine CC.seq ?_
      refine CC.region ?_
      refine LL.val (R.move rfl rfl) rfl rfl rfl ?_
      refine LL.val (R.not rfl rfl) rfl rfl rfl ?_
      refine LL.nilS ?_
      refine CC.no rfl ?_
      refine CC.skip ?_
      refine EE.thenN ?_
      refine CC.seq ?_
      refine CC.region ?_
      refine LL.val (R.load rfl rfl (I.ldNc (vs := [Value.int IntKind.i64 y.1, Value.int IntKind.i64 y.2.1, strV y.2.2.1, Value.int IntKind.i64 y.2.2.2.1, Value.int IntKind.i64 y.2.2.2.2]) (RowL.cells ra301 rfl) (by rfl) (by rfl))) rfl rfl rfl ?_
      refine LL.storeN (vs := [Value.int IntKind.i64 y.1, Value.int IntKind.i64 y.2.1, strV y.2.2.1, Value.int IntKind.i64 y.2.2.2.1, Value.int IntKind.i64 y.2.2.2.2]) rfl rfl rfl rfl rr (by exact Nat.le_of_ble_eq_true rfl) (ones_of rfl) rfl rfl ?_
      intro Wa416 ra417 ba415 za418
      have hlba415 := rr.lt
      replace ra417 : RowL Wa416 _ 31 [Value.int IntKind.i64 y.1, Value.int IntKind.i64 y.2.1, strV y.2.2.1, Value.int IntKind.i64 y.2.2.2.1, Value.int IntKind.i64 y.2.2.2.2] := ra417
      clear rr
      replace q := q.grown ba415 q.size (by rintro k ⟨⟩; omega)
      replace ra301 := ra301.gr ba415 (by have := ra301.lt; omega)
      have rr := ra417
      clear ra417
      refine LL.val (R.assign rfl rfl) rfl rfl rfl ?_
      refine LL.nilS ?_
      refine CC.ret ?_
      refine EE.ret2 rfl ⟨_, rfl, lvNc (RowL.cells0 (by assumption)) (by rfl) (by rfl)⟩ rfl ?_
      exact ⟨rfl, q⟩
    · refine CC.seq ?_
      refine CC.seq ?_
      refine CC.region ?_
      refine LL.val (R.move rfl rfl) rfl rfl rfl ?_
      refine LL.val (R.ltF rfl rfl rfl (by omega)) rfl rfl rfl ?_
      refine LL.nilS ?_
      refine CC.no rfl ?_
      refine CC.exit ?_
      refine EE.thenX ?_
      refine EE.thenX ?_
      refine EE.inX ?_
      refine EE.thenN ?_
      refine CC.seq ?_
      refine CC.region ?_
      refine LL.val (R.move rfl rfl) rfl rfl rfl ?_
      have lb29 := rr.lt
      (refine LL.call (R.call rfl rfl rfl) rfl rfl rfl (doneD g (AF _ qW) y hf) ?_; rintro e Wb28 ⟨rfl, bb25⟩; refine ⟨_, rfl, ?_⟩)
      have zbb25 := bb25.size
      replace q := q.trans (bb25.mono q.size)
      replace hm := hm.up bb25
      replace rr := rr.up bb25
      replace qW := qW.trans (bb25.mono qW.size)
      refine LL.val (R.move rfl rfl) rfl rfl rfl ?_
      refine LL.val (R.extract rfl rfl rfl) rfl rfl rfl ?_
      refine LL.val (R.extract rfl rfl rfl) rfl rfl rfl ?_
      have lb65 := rr.lt
      refine LL.alloc ([Value.int IntKind.i64 0, Value.int IntKind.i64 0, Value.string { data := { toList := [] } }, Value.int IntKind.i64 0, Value.int IntKind.i64 0]) rfl rfl rfl rfl rfl ?_
      intro Wb67 gb68 egb68 rb69 zb70 bb66
      replace bb25 := bb25.trans (bb66.mono bb25.size)
      replace q := q.trans (bb66.mono q.size)
      replace hm := hm.up bb66
      replace rr := rr.up bb66
      replace qW := qW.trans (bb66.mono qW.size)
      refine LL.storeN (vs := [Value.int IntKind.i64 y.1, Value.int IntKind.i64 y.2.1, strV y.2.2.1, Value.int IntKind.i64 y.2.2.2.1, Value.int IntKind.i64 y.2.2.2.2]) rfl rfl rfl rfl rb69 (by exact Nat.le_of_ble_eq_true rfl) (ones_of rfl) rfl rfl ?_
      intro Wb81 rb82 bb80 zb83
      have hlbb80 := rb69.lt
      replace rb82 : RowL Wb81 _ 31 [Value.int IntKind.i64 y.1, Value.int IntKind.i64 y.2.1, strV y.2.2.1, Value.int IntKind.i64 y.2.2.2.1, Value.int IntKind.i64 y.2.2.2.2] := rb82
      clear rb69
      replace bb66 := bb66.grown bb80 bb66.size (by rintro k ⟨⟩; omega)
      replace bb25 := bb25.grown bb80 bb25.size (by rintro k ⟨⟩; omega)
      replace q := q.grown bb80 q.size (by rintro k ⟨⟩; omega)
      replace hm := hm.gr bb80 (by have := hm.lt; omega)
      replace rr := rr.gr bb80 (by have := rr.lt; omega)
      replace qW := qW.grown bb80 qW.size (by rintro k ⟨⟩; omega)
      have rb69 := rb82
      clear rb82
      refine LL.val (R.assign rfl rfl) rfl rfl rfl ?_
      refine LL.nilS ?_
      refine CC.seq ?_
      refine CC.seq ?_
      refine CC.region ?_
      refine LL.val (R.move rfl rfl) rfl rfl rfl ?_
      refine LL.val (R.not rfl rfl) rfl rfl rfl ?_
      refine LL.nilS ?_
      refine CC.no rfl ?_
      refine CC.skip ?_
      refine EE.thenN ?_
      refine CC.seq ?_
      refine CC.region ?_
      refine LL.val (R.load rfl rfl (I.ldNc (vs := [Value.int IntKind.i64 y.1, Value.int IntKind.i64 y.2.1, strV y.2.2.1, Value.int IntKind.i64 y.2.2.2.1, Value.int IntKind.i64 y.2.2.2.2]) (RowL.cells rb69 rfl) (by rfl) (by rfl))) rfl rfl rfl ?_
      refine LL.storeN (vs := [Value.int IntKind.i64 y.1, Value.int IntKind.i64 y.2.1, strV y.2.2.1, Value.int IntKind.i64 y.2.2.2.1, Value.int IntKind.i64 y.2.2.2.2]) rfl rfl rfl rfl rr (by exact Nat.le_of_ble_eq_true rfl) (ones_of rfl) rfl rfl ?_
      intro Wb130 rb131 bb129 zb132
      have hlbb129 := rr.lt
      replace rb131 : RowL Wb130 _ 31 [Value.int IntKind.i64 y.1, Value.int IntKind.i64 y.2.1, strV y.2.2.1, Value.int IntKind.i64 y.2.2.2.1, Value.int IntKind.i64 y.2.2.2.2] := rb131
      clear rr
      replace q := q.grown bb129 q.size (by rintro k ⟨⟩; omega)
      replace rb69 := rb69.gr bb129 (by have := rb69.lt; omega)
      have rr := rb131
      clear rb131
      refine LL.val (R.assign rfl rfl) rfl rfl rfl ?_
      refine LL.nilS ?_
      refine CC.ret ?_
      refine EE.ret2 rfl ⟨_, rfl, lvNc (RowL.cells0 (by assumption)) (by rfl) (by rfl)⟩ rfl ?_
      exact ⟨rfl, q⟩
  | none =>
    have hlt : t < 20000 := by
      rcases Nat.lt_or_ge t 20000 with h | h
      · exact h
      · obtain rfl : t = 20000 := by omega
        rw [hst, hf] at hx
        cases hx
    obtain ⟨p, r, hp, _⟩ := hat hf
    cases hfi : findP l st.dir p with
    | some f =>
      have hft : f.2.1 = 3 → f.2.2.length ≤ 1048576 := by
        obtain ⟨z, hz1, hz2⟩ := findP_mem hfi
        rw [← hz2]
        exact hT z hz1
      have hs1 : iterP l (t + 1) S = st.give f := by
        rw [hnx]
        unfold stepP
        rw [hf, hp]
        dsimp only
        rw [hfi]
      have hfa := fun W (b : Below w.heap.size w W) => find_any st.dir p v l W (hF W b) hN
      rw [hfi] at hfa
      simp only [Option.getD_some, Option.getD_none, Option.isSome_some, Option.isSome_none] at hfa
      refine CC.seq ?_
      refine CC.seq ?_
      refine CC.region ?_
      refine LL.val (R.move rfl rfl) rfl rfl rfl ?_
      refine LL.val (R.ltT rfl rfl rfl (by omega)) rfl rfl rfl ?_
      refine LL.nilS ?_
      refine CC.yes rfl ?_
      refine CC.skip ?_
      refine EE.thenN ?_
      refine CC.seq ?_
      refine CC.block ?_
      refine CC.seq ?_
      refine CC.region ?_
      refine LL.val (R.move rfl rfl) rfl rfl rfl ?_
      have lc74 := rr.lt
      (refine LL.call (R.call rfl rfl rfl) rfl rfl rfl (asksW g (AF _ qW) p r hf hp) ?_; rintro e Wc73 ⟨rfl, bc70⟩; refine ⟨_, rfl, ?_⟩)
      have zbc70 := bc70.size
      replace q := q.trans (bc70.mono q.size)
      replace hm := hm.up bc70
      replace rr := rr.up bc70
      replace qW := qW.trans (bc70.mono qW.size)
      refine LL.val (R.move rfl rfl) rfl rfl rfl ?_
      refine LL.val (R.extract rfl rfl rfl) rfl rfl rfl ?_
      refine LL.val (R.extract rfl rfl rfl) rfl rfl rfl ?_
      refine LL.val (R.extract rfl rfl rfl) rfl rfl rfl ?_
      refine LL.val (R.assign rfl rfl) rfl rfl rfl ?_
      refine LL.val (R.assign rfl rfl) rfl rfl rfl ?_
      refine LL.val (R.assign rfl rfl) rfl rfl rfl ?_
      refine LL.nilS ?_
      refine CC.seq ?_
      refine CC.seq ?_
      refine CC.region ?_
      refine LL.val (R.move rfl rfl) rfl rfl rfl ?_
      refine LL.val (R.not rfl rfl) rfl rfl rfl ?_
      refine LL.nilS ?_
      refine CC.no rfl ?_
      refine CC.skip ?_
      refine EE.thenN ?_
      refine CC.seq ?_
      refine CC.region ?_
      refine LL.val (R.move rfl rfl) rfl rfl rfl ?_
      refine LL.val (R.move rfl rfl) rfl rfl rfl ?_
      refine LL.val (R.move rfl rfl) rfl rfl rfl ?_
      have lc366 := rr.lt
      (refine LL.call (R.call rfl rfl rfl) rfl rfl rfl (hfa _ q) ?_; rintro e Wc365 ⟨rfl, bc362⟩; refine ⟨_, rfl, ?_⟩)
      have zbc362 := bc362.size
      replace bc70 := bc70.trans (bc362.mono bc70.size)
      replace q := q.trans (bc362.mono q.size)
      replace hm := hm.up bc362
      replace rr := rr.up bc362
      replace qW := qW.trans (bc362.mono qW.size)
      refine LL.val (R.move rfl rfl) rfl rfl rfl ?_
      refine LL.val (R.extract rfl rfl rfl) rfl rfl rfl ?_
      refine LL.val (R.extract rfl rfl rfl) rfl rfl rfl ?_
      have lc462 := rr.lt
      refine LL.alloc ([Value.int IntKind.i64 0, Value.int IntKind.i64 0, Value.string { data := { toList := [] } }]) rfl rfl rfl rfl rfl ?_
      intro Wc464 gc465 egc465 rc466 zc467 bc463
      replace bc362 := bc362.trans (bc463.mono bc362.size)
      replace bc70 := bc70.trans (bc463.mono bc70.size)
      replace q := q.trans (bc463.mono q.size)
      replace hm := hm.up bc463
      replace rr := rr.up bc463
      replace qW := qW.trans (bc463.mono qW.size)
      refine LL.storeN (vs := [Value.int IntKind.i64 f.1, Value.int IntKind.i64 f.2.1, strV f.2.2]) rfl rfl rfl rfl rc466 (by exact Nat.le_of_ble_eq_true rfl) (ones_of rfl) rfl rfl ?_
      intro Wc494 rc495 bc493 zc496
      have hlbc493 := rc466.lt
      replace rc495 : RowL Wc494 _ 38 [Value.int IntKind.i64 f.1, Value.int IntKind.i64 f.2.1, strV f.2.2] := rc495
      clear rc466
      replace bc463 := bc463.grown bc493 bc463.size (by rintro k ⟨⟩; omega)
      replace bc362 := bc362.grown bc493 bc362.size (by rintro k ⟨⟩; omega)
      replace bc70 := bc70.grown bc493 bc70.size (by rintro k ⟨⟩; omega)
      replace q := q.grown bc493 q.size (by rintro k ⟨⟩; omega)
      replace hm := hm.gr bc493 (by have := hm.lt; omega)
      replace rr := rr.gr bc493 (by have := rr.lt; omega)
      replace qW := qW.grown bc493 qW.size (by rintro k ⟨⟩; omega)
      have rc466 := rc495
      clear rc495
      refine LL.val (R.assign rfl rfl) rfl rfl rfl ?_
      refine LL.nilS ?_
      refine CC.seq ?_
      refine CC.region ?_
      refine LL.val (R.move rfl rfl) rfl rfl rfl ?_
      refine LL.nilS ?_
      refine CC.yes rfl ?_
      refine CC.region ?_
      refine LL.val (R.move rfl rfl) rfl rfl rfl ?_
      refine LL.val (R.load rfl rfl (I.ldNc (vs := [Value.int IntKind.i64 f.1, Value.int IntKind.i64 f.2.1, strV f.2.2]) (RowL.cells rc466 rfl) (by rfl) (by rfl))) rfl rfl rfl ?_
      (refine LL.call (R.call rfl rfl rfl) rfl rfl rfl (giveW g (AF _ qW) p r hf hp hot f (by assumption) hgp.1 hft) ?_; rintro e Wc618 ⟨rfl, hW, tc617⟩; clear qW; refine ⟨_, rfl, ?_⟩)
      have ztc617 := tc617.size
      replace q := tc617.onB q (fun j hj => ⟨by have := q.size; omega, by omega⟩)
      replace hm := hm.kept tc617 ⟨by omega, by omega⟩
      replace rr := rr.kept tc617 ⟨rr.lt, by omega⟩
      replace rc466 := rc466.kept tc617 ⟨rc466.lt, by omega⟩
      refine LL.nil ?_
      refine EE.inN ?_
      refine EE.thenN ?_
      refine CC.region ?_
      refine LL.val (R.move rfl rfl) rfl rfl rfl ?_
      refine LL.val (R.addNc rfl rfl rfl rfl (by omega)) rfl rfl rfl ?_
      refine LL.val (R.assign rfl rfl) rfl rfl rfl ?_
      refine LL.nil ?_
      exact EE.round (t + 1) ⟨rfl, rfl, rfl, rfl, trivial⟩ ⟨by show t + 1 ≤ 20000; omega, q, by rw [hs1]; exact hW, by assumption, by assumption⟩ (by show 20000 - (t + 1) < 20000 - t; omega)
    | none =>
      have hs1 : iterP l (t + 1) S = st.miss := by
        rw [hnx]
        unfold stepP
        rw [hf, hp]
        dsimp only
        rw [hfi]
      have hfa := fun W (b : Below w.heap.size w W) => find_any st.dir p v l W (hF W b) hN
      rw [hfi] at hfa
      simp only [Option.getD_some, Option.getD_none, Option.isSome_some, Option.isSome_none] at hfa
      refine CC.seq ?_
      refine CC.seq ?_
      refine CC.region ?_
      refine LL.val (R.move rfl rfl) rfl rfl rfl ?_
      refine LL.val (R.ltT rfl rfl rfl (by omega)) rfl rfl rfl ?_
      refine LL.nilS ?_
      refine CC.yes rfl ?_
      refine CC.skip ?_
      refine EE.thenN ?_
      refine CC.seq ?_
      refine CC.block ?_
      refine CC.seq ?_
      refine CC.region ?_
      refine LL.val (R.move rfl rfl) rfl rfl rfl ?_
      have ld74 := rr.lt
      (refine LL.call (R.call rfl rfl rfl) rfl rfl rfl (asksW g (AF _ qW) p r hf hp) ?_; rintro e Wd73 ⟨rfl, bd70⟩; refine ⟨_, rfl, ?_⟩)
      have zbd70 := bd70.size
      replace q := q.trans (bd70.mono q.size)
      replace hm := hm.up bd70
      replace rr := rr.up bd70
      replace qW := qW.trans (bd70.mono qW.size)
      refine LL.val (R.move rfl rfl) rfl rfl rfl ?_
      refine LL.val (R.extract rfl rfl rfl) rfl rfl rfl ?_
      refine LL.val (R.extract rfl rfl rfl) rfl rfl rfl ?_
      refine LL.val (R.extract rfl rfl rfl) rfl rfl rfl ?_
      refine LL.val (R.assign rfl rfl) rfl rfl rfl ?_
      refine LL.val (R.assign rfl rfl) rfl rfl rfl ?_
      refine LL.val (R.assign rfl rfl) rfl rfl rfl ?_
      refine LL.nilS ?_
      refine CC.seq ?_
      refine CC.seq ?_
      refine CC.region ?_
      refine LL.val (R.move rfl rfl) rfl rfl rfl ?_
      refine LL.val (R.not rfl rfl) rfl rfl rfl ?_
      refine LL.nilS ?_
      refine CC.no rfl ?_
      refine CC.skip ?_
      refine EE.thenN ?_
      refine CC.seq ?_
      refine CC.region ?_
      refine LL.val (R.move rfl rfl) rfl rfl rfl ?_
      refine LL.val (R.move rfl rfl) rfl rfl rfl ?_
      refine LL.val (R.move rfl rfl) rfl rfl rfl ?_
      have ld366 := rr.lt
      (refine LL.call (R.call rfl rfl rfl) rfl rfl rfl (hfa _ q) ?_; rintro e Wd365 ⟨rfl, bd362⟩; refine ⟨_, rfl, ?_⟩)
      have zbd362 := bd362.size
      replace bd70 := bd70.trans (bd362.mono bd70.size)
      replace q := q.trans (bd362.mono q.size)
      replace hm := hm.up bd362
      replace rr := rr.up bd362
      replace qW := qW.trans (bd362.mono qW.size)
      refine LL.val (R.move rfl rfl) rfl rfl rfl ?_
      refine LL.val (R.extract rfl rfl rfl) rfl rfl rfl ?_
      refine LL.val (R.extract rfl rfl rfl) rfl rfl rfl ?_
      have ld462 := rr.lt
      refine LL.alloc ([Value.int IntKind.i64 0, Value.int IntKind.i64 0, Value.string { data := { toList := [] } }]) rfl rfl rfl rfl rfl ?_
      intro Wd464 gd465 egd465 rd466 zd467 bd463
      replace bd362 := bd362.trans (bd463.mono bd362.size)
      replace bd70 := bd70.trans (bd463.mono bd70.size)
      replace q := q.trans (bd463.mono q.size)
      replace hm := hm.up bd463
      replace rr := rr.up bd463
      replace qW := qW.trans (bd463.mono qW.size)
      refine LL.storeN (vs := [Value.int IntKind.i64 0, Value.int IntKind.i64 0, strV []]) rfl rfl rfl rfl rd466 (by exact Nat.le_of_ble_eq_true rfl) (ones_of rfl) rfl rfl ?_
      intro Wd494 rd495 bd493 zd496
      have hlbd493 := rd466.lt
      replace rd495 : RowL Wd494 _ 38 [Value.int IntKind.i64 0, Value.int IntKind.i64 0, strV []] := rd495
      clear rd466
      replace bd463 := bd463.grown bd493 bd463.size (by rintro k ⟨⟩; omega)
      replace bd362 := bd362.grown bd493 bd362.size (by rintro k ⟨⟩; omega)
      replace bd70 := bd70.grown bd493 bd70.size (by rintro k ⟨⟩; omega)
      replace q := q.grown bd493 q.size (by rintro k ⟨⟩; omega)
      replace hm := hm.gr bd493 (by have := hm.lt; omega)
      replace rr := rr.gr bd493 (by have := rr.lt; omega)
      replace qW := qW.grown bd493 qW.size (by rintro k ⟨⟩; omega)
      have rd466 := rd495
      clear rd495
      refine LL.val (R.assign rfl rfl) rfl rfl rfl ?_
      refine LL.nilS ?_
      refine CC.seq ?_
      refine CC.region ?_
      refine LL.val (R.move rfl rfl) rfl rfl rfl ?_
      refine LL.nilS ?_
      refine CC.no rfl ?_
      refine CC.region ?_
      refine LL.val (R.move rfl rfl) rfl rfl rfl ?_
      (refine LL.call (R.call rfl rfl rfl) rfl rfl rfl (missW g (AF _ qW) p r hf hp hot) ?_; rintro e Wd593 ⟨rfl, hW, td592⟩; clear qW; refine ⟨_, rfl, ?_⟩)
      have ztd592 := td592.size
      replace q := td592.onB q (fun j hj => ⟨by have := q.size; omega, by omega⟩)
      replace hm := hm.kept td592 ⟨by omega, by omega⟩
      replace rr := rr.kept td592 ⟨rr.lt, by omega⟩
      replace rd466 := rd466.kept td592 ⟨rd466.lt, by omega⟩
      refine LL.nil ?_
      refine EE.inN ?_
      refine EE.thenN ?_
      refine CC.region ?_
      refine LL.val (R.move rfl rfl) rfl rfl rfl ?_
      refine LL.val (R.addNc rfl rfl rfl rfl (by omega)) rfl rfl rfl ?_
      refine LL.val (R.assign rfl rfl) rfl rfl rfl ?_
      refine LL.nil ?_
      exact EE.round (t + 1) ⟨rfl, rfl, rfl, rfl, trivial⟩ ⟨by show t + 1 ≤ 20000; omega, q, by rw [hs1]; exact hW, by assumption, by assumption⟩ (by show 20000 - (t + 1) < 20000 - t; omega)
end Go.Proofs.YtbbddpnjglijdaaDoor
/- walk: the document's walker: done, on, New, Miss (written by genwk20.py). -/
namespace Go.Proofs.YtbbddpnjglijdaaDoor
set_option linter.unusedVariables false
set_option linter.unusedSimpArgs false
open Go.RowKit Go.Shelf
set_option maxRecDepth 100000
set_option maxHeartbeats 8000000
abbrev rwV (d : Int) (a : Option Addr) (n c : Nat) (k : Int) (fol dn : Bool) (x : Wd) : Value := .agg #[.int .i64 d, .slice a n c, .int .i64 k, .bool fol, .bool dn, .int .i64 x.1, .int .i64 x.2.1, strV x.2.2.1, .int .i64 x.2.2.2.1, .int .i64 x.2.2.2.2]
/-- A list of parts that lies in a block. -/
structure PsB (w : World) (bb : Nat) (a : Option Addr) (n c : Nat) (l : List Bs) : Prop where
  r : ReadsT stE 1 w (.slice a n c) l
  at' : ∀ (x : Addr), a = some x → 0 < n → x.block = bb
  lt : bb < w.heap.size
section
variable {w w' : World} {bb r n c : Nat} {a : Option Addr} {l : List Bs}
theorem PsB.up (h : PsB w bb a n c l) (hb : Below w.heap.size w w') : PsB w' bb a n c l := ⟨h.r.up hb, h.at', Nat.lt_of_lt_of_le h.lt hb.size⟩
theorem PsB.gr (h : PsB w bb a n c l) (hb : w.grownBy w' (some r)) (e : r ≠ bb) : PsB w' bb a n c l := ⟨h.r.grown hb fun x n c e1 h0 => by
  cases e1
  have := h.at' x rfl h0
  omega, h.at', Nat.lt_of_lt_of_le h.lt hb.size⟩
theorem PsB.grown (h : PsB w bb a n c l) (hb : w.grownBy w' (some r)) (e : r ≠ bb) : PsB w' bb a n c l := h.gr hb e
theorem PsB.len (h : PsB w bb a n c l) : l.length = n := by
  obtain ⟨_, _, e, _⟩ := h.r.form rfl
  cases e
  rfl
theorem PsB.own {base e : Nat} (o : OwnsT stE 1 w base e (.slice a n c) l) (h0 : 0 < w.heap.size) : ∃ bb, PsB w bb a n c l ∧ (bb = 0 ∨ base ≤ bb) := by
  rcases o.above with h | ⟨b, h, h1, h2⟩
  · refine ⟨0, ⟨o.reads stEnc, fun x e _ => ?_, h0⟩, .inl rfl⟩
    subst e
    cases h
  · refine ⟨b, ⟨o.reads stEnc, fun x e _ => ?_, h2⟩, .inr h1⟩
    subst e
    exact Option.some.inj h
theorem PsB.tail {p : Bs} {rs : List Bs} (h : PsB w bb a n c (p :: rs)) : ∃ a' c', (∀ (P : Program) (T e : TypeId) (w' : World), slB P T = some (e, 1) → (Instr.sliceAt T (.slice a n c) (some (.int .i64 1)) none none).run P w' = .ok (.slice a' (n - 1) c') w') ∧ ∀ X, PsB X bb a n c (p :: rs) → PsB X bb a' (n - 1) c' rs := by
  have h1 : 1 ≤ n := by rw [← h.len]; exact Nat.succ_le_succ (Nat.zero_le _)
  refine ⟨_, _, fun P T e w' hs => I.slFromG (lo := 1) hs h1, fun X hX => ⟨hX.r.from stEnc h1, fun x e h0 => ?_, hX.lt⟩⟩
  cases a with
  | none => split at e <;> cases e
  | some y =>
    have := hX.at' y rfl h1
    split at e
    · cases e
      exact this
    · cases e
      exact this
theorem PsB.head {p : Bs} {rs : List Bs} (h : PsB w bb a n c (p :: rs)) : ∃ off, a = some ⟨bb, off, none⟩ ∧ ∀ X, PsB X bb a n c (p :: rs) → X.cell? ⟨bb, off + 0, none⟩ = some (strV p) := by
  obtain ⟨b, off, e, hb, cs⟩ := h.r.one stEnc (i := 0) (t := p) rfl
  have h1 : 0 < n := by rw [← h.len]; exact Nat.succ_pos _
  have e3 := h.at' _ e h1
  cases e3
  refine ⟨off, e, fun X hX => ?_⟩
  obtain ⟨_, _, e', _, cs⟩ := hX.r.one stEnc (i := 0) (t := p) rfl
  rw [e] at e'
  cases e'
  exact cs _ rfl
end
/-- A value that stands for a walker, in the document. -/
def RwR (s : Wk) (v : Value) (w : World) (bb : Nat) : Prop := (s.fin = none ∧ ∃ a n c, v = rwV s.dir a n c (s.links : Int) s.fol false wdZ ∧ PsB w bb a n c s.ps) ∨ ∃ x d k, s.fin = some x ∧ v = rwV d none 0 0 k s.fol true x
theorem RwR.up {s : Wk} {v : Value} {w w' : World} {bb : Nat} (h : RwR s v w bb) (b : Below w.heap.size w w') : RwR s v w' bb := by
  rcases h with ⟨h0, a, n, c, e, r⟩ | h
  · exact .inl ⟨h0, a, n, c, e, r.up b⟩
  · exact .inr h
theorem RwR.gr {s : Wk} {v : Value} {w w' : World} {bb r : Nat} (h : RwR s v w bb) (b : w.grownBy w' (some r)) (e : r ≠ bb) : RwR s v w' bb := by
  rcases h with ⟨h0, a, n, c, e1, p⟩ | h
  · exact .inl ⟨h0, a, n, c, e1, p.gr b e⟩
  · exact .inr h
theorem RwR.fin {s : Wk} {w : World} {bb : Nat} (x : Wd) (d k : Int) (fol : Bool) (h : s.fin = some x) (hf : s.fol = fol) : RwR s (rwV d none 0 0 k fol true x) w bb := .inr ⟨x, d, k, h, by rw [hf]⟩
theorem RwR.run {s : Wk} {w : World} {bb : Nat} {a : Option Addr} {n c : Nat} {d k : Int} {fol : Bool} {ls : List Bs} (hs : s.fin = none) (h1 : s.dir = d) (h2 : (s.links : Int) = k) (h3 : s.fol = fol) (h4 : s.ps = ls) (r : PsB w bb a n c ls) : RwR s (rwV d a n c k fol false wdZ) w bb := by
  subst h1 h2 h3 h4
  exact .inl ⟨hs, a, n, c, rfl, r⟩
theorem RwR.form {s : Wk} {v : Value} {w : World} {bb : Nat} (h : RwR s v w bb) : ∃ d a n c k fol dn x, v = rwV d a n c k fol dn x := by
  rcases h with ⟨h0, a, n, c, e, r⟩ | ⟨x, d, k, h0, e⟩
  · exact ⟨_, _, _, _, _, _, _, _, e⟩
  · exact ⟨_, _, _, _, _, _, _, _, e⟩
theorem rdone_any (d : Int) (a : Option Addr) (n c : Nat) (k : Int) (fol dn : Bool) (x0 x : Wd) (w : World) : Calls Tryd.prog 43 #[rwV d a n c k fol dn x0, wdV x] w fun e w' => e = .returned (rwV d none 0 0 k fol true x) ∧ Below w.heap.size w w' := by
  have q := Below.refl w.heap.size w
  refine X.fn Tryd.func43 rfl (n := 10) rfl rfl ?_
  refine CC.seq ?_
  refine CC.region ?_
  refine LL.box [Value.int IntKind.i64 d, Value.slice a n c, Value.int IntKind.i64 k, Value.bool fol, Value.bool dn, Value.int IntKind.i64 x0.1, Value.int IntKind.i64 x0.2.1, strV x0.2.2.1, Value.int IntKind.i64 x0.2.2.2.1, Value.int IntKind.i64 x0.2.2.2.2] rfl rfl rfl rfl rfl ?_
  intro W2 g3 eg3 r4 z5 b1
  replace q := q.trans (b1.mono q.size)
  have l6 := r4.lt
  refine LL.box [Value.int IntKind.i64 x.1, Value.int IntKind.i64 x.2.1, strV x.2.2.1, Value.int IntKind.i64 x.2.2.2.1, Value.int IntKind.i64 x.2.2.2.2] rfl rfl rfl rfl rfl ?_
  intro W8 g9 eg9 r10 z11 b7
  replace r4 := r4.up b7
  replace b1 := b1.trans (b7.mono b1.size)
  replace q := q.trans (b7.mono q.size)
  have l12 := r10.lt
  have l13 := r4.lt
  refine LL.alloc ([Value.int IntKind.i64 0, Value.slice none 0 0, Value.int IntKind.i64 0, Value.bool false, Value.bool false, Value.int IntKind.i64 0, Value.int IntKind.i64 0, Value.string { data := { toList := [] } }, Value.int IntKind.i64 0, Value.int IntKind.i64 0]) rfl rfl rfl rfl rfl ?_
  intro W15 g16 eg16 r17 z18 b14
  replace r10 := r10.up b14
  replace b7 := b7.trans (b14.mono b7.size)
  replace r4 := r4.up b14
  replace b1 := b1.trans (b14.mono b1.size)
  replace q := q.trans (b14.mono q.size)
  refine LL.nilS ?_
  refine CC.seq ?_
  refine CC.freeZ (fun W_ j => j < W_.heap.size ∧ (j ≠ g3)) (by kernel_rfl) (by kernel_rfl) (fun W20 b19 z21 => ?_)
  replace r17 := r17.up b19
  replace b14 := b14.trans (b19.mono b14.size)
  replace r10 := r10.up b19
  replace b7 := b7.trans (b19.mono b7.size)
  replace r4 := r4.up b19
  replace b1 := b1.trans (b19.mono b1.size)
  replace q := q.trans (b19.mono q.size)
  have hok : Kept (fun j => j < W20.heap.size ∧ (j ≠ g3)) W20 W20 := Kept.refl _ _
  have fzr17 := fzRow (K := fun j => j < W20.heap.size ∧ (j ≠ g3)) r17 ⟨r17.lt, (by first | trivial | omega)⟩
  have fzr10 := fzRow (K := fun j => j < W20.heap.size ∧ (j ≠ g3)) r10 ⟨r10.lt, (by first | trivial | omega)⟩
  refine AA.pure 0 rfl hok (by kernel_rfl) (fun w' b' => R.load rfl rfl (I.ldNc (vs := [Value.int IntKind.i64 x.1, Value.int IntKind.i64 x.2.1, strV x.2.2.1, Value.int IntKind.i64 x.2.2.2.1, Value.int IntKind.i64 x.2.2.2.2]) (RowL.cells (fzr10 w' b') rfl) (by rfl) (by rfl))) rfl rfl ?_
  refine AA.pure 1 rfl hok (by kernel_rfl) (fun w' b' => R.field rfl rfl (I.fld rfl)) rfl rfl ?_
  refine AA.one 2 (by kernel_rfl) ?_
  refine ZR.store rfl rfl rfl rfl rfl r4 (by exact Nat.le_of_ble_eq_true rfl) rfl rfl rfl rfl ?_
  intro W23 r24 b22 z25
  have hlb22 := r4.lt
  replace r24 : RowL W23 _ 33 [Value.int IntKind.i64 d, Value.slice a n c, Value.int IntKind.i64 k, Value.bool fol, Value.bool true, Value.int IntKind.i64 x0.1, Value.int IntKind.i64 x0.2.1, strV x0.2.2.1, Value.int IntKind.i64 x0.2.2.2.1, Value.int IntKind.i64 x0.2.2.2.2] := r24
  clear r4
  replace r17 := r17.gr b22 (by have := r17.lt; omega)
  replace r10 := r10.gr b22 (by have := r10.lt; omega)
  replace b1 := b1.grown b22 b1.size (by rintro k ⟨⟩; omega)
  replace q := q.grown b22 q.size (by rintro k ⟨⟩; omega)
  replace hok := hok.trans (grown_kept b22 (fun j h => by have := h.1; have := hok.size; omega) (fun j h e => by cases e; have h2 := h.1; have h3 := h.2; omega))
  have r4 := r24
  clear r24
  refine ⟨hok, ?_⟩
  refine AA.pure 3 rfl hok (by kernel_rfl) (fun w' b' => R.field rfl rfl (I.fld rfl)) rfl rfl ?_
  refine AA.one 4 (by kernel_rfl) ?_
  refine ZR.storeN (vs := [Value.int IntKind.i64 x.1, Value.int IntKind.i64 x.2.1, strV x.2.2.1, Value.int IntKind.i64 x.2.2.2.1, Value.int IntKind.i64 x.2.2.2.2]) rfl rfl rfl rfl rfl r4 (by exact Nat.le_of_ble_eq_true rfl) (ones_of rfl) rfl rfl ?_
  intro W27 r28 b26 z29
  have hlb26 := r4.lt
  replace r28 : RowL W27 _ 33 [Value.int IntKind.i64 d, Value.slice a n c, Value.int IntKind.i64 k, Value.bool fol, Value.bool true, Value.int IntKind.i64 x.1, Value.int IntKind.i64 x.2.1, strV x.2.2.1, Value.int IntKind.i64 x.2.2.2.1, Value.int IntKind.i64 x.2.2.2.2] := r28
  clear r4
  replace r17 := r17.gr b26 (by have := r17.lt; omega)
  replace r10 := r10.gr b26 (by have := r10.lt; omega)
  replace b1 := b1.grown b26 b1.size (by rintro k ⟨⟩; omega)
  replace q := q.grown b26 q.size (by rintro k ⟨⟩; omega)
  replace hok := hok.trans (grown_kept b26 (fun j h => by have := h.1; have := hok.size; omega) (fun j h e => by cases e; have h2 := h.1; have h3 := h.2; omega))
  have r4 := r28
  clear r28
  refine ⟨hok, ?_⟩
  refine AA.pure 5 rfl hok (by kernel_rfl) (fun w' b' => R.field rfl rfl (I.fld rfl)) rfl rfl ?_
  refine AA.one 6 (by kernel_rfl) ?_
  refine ZR.store rfl rfl rfl rfl rfl r4 (by exact Nat.le_of_ble_eq_true rfl) rfl rfl rfl rfl ?_
  intro W31 r32 b30 z33
  have hlb30 := r4.lt
  replace r32 : RowL W31 _ 33 [Value.int IntKind.i64 d, Value.slice none 0 0, Value.int IntKind.i64 k, Value.bool fol, Value.bool true, Value.int IntKind.i64 x.1, Value.int IntKind.i64 x.2.1, strV x.2.2.1, Value.int IntKind.i64 x.2.2.2.1, Value.int IntKind.i64 x.2.2.2.2] := r32
  clear r4
  replace r17 := r17.gr b30 (by have := r17.lt; omega)
  replace r10 := r10.gr b30 (by have := r10.lt; omega)
  replace b1 := b1.grown b30 b1.size (by rintro k ⟨⟩; omega)
  replace q := q.grown b30 q.size (by rintro k ⟨⟩; omega)
  replace hok := hok.trans (grown_kept b30 (fun j h => by have := h.1; have := hok.size; omega) (fun j h e => by cases e; have h2 := h.1; have h3 := h.2; omega))
  have r4 := r32
  clear r32
  refine ⟨hok, ?_⟩
  refine AA.done rfl ?_
  clear fzr17 fzr10 hok
  refine EE.thenN ?_
  refine CC.seq ?_
  refine CC.region ?_
  refine LL.val (R.load rfl rfl (I.ldNc (vs := [Value.int IntKind.i64 d, Value.slice none 0 0, Value.int IntKind.i64 k, Value.bool fol, Value.bool true, Value.int IntKind.i64 x.1, Value.int IntKind.i64 x.2.1, strV x.2.2.1, Value.int IntKind.i64 x.2.2.2.1, Value.int IntKind.i64 x.2.2.2.2]) (RowL.cells r4 rfl) (by rfl) (by rfl))) rfl rfl rfl ?_
  refine LL.storeN (vs := [Value.int IntKind.i64 d, Value.slice none 0 0, Value.int IntKind.i64 k, Value.bool fol, Value.bool true, Value.int IntKind.i64 x.1, Value.int IntKind.i64 x.2.1, strV x.2.2.1, Value.int IntKind.i64 x.2.2.2.1, Value.int IntKind.i64 x.2.2.2.2]) rfl rfl rfl rfl r17 (by exact Nat.le_of_ble_eq_true rfl) (ones_of rfl) rfl rfl ?_
  intro W35 r36 b34 z37
  have hlb34 := r17.lt
  replace r36 : RowL W35 _ 33 [Value.int IntKind.i64 d, Value.slice none 0 0, Value.int IntKind.i64 k, Value.bool fol, Value.bool true, Value.int IntKind.i64 x.1, Value.int IntKind.i64 x.2.1, strV x.2.2.1, Value.int IntKind.i64 x.2.2.2.1, Value.int IntKind.i64 x.2.2.2.2] := r36
  clear r17
  replace r10 := r10.gr b34 (by have := r10.lt; omega)
  replace b1 := b1.grown b34 b1.size (by rintro k ⟨⟩; omega)
  replace q := q.grown b34 q.size (by rintro k ⟨⟩; omega)
  replace r4 := r4.gr b34 (by have := r4.lt; omega)
  have r17 := r36
  clear r36
  refine LL.nilS ?_
  refine CC.ret ?_
  refine EE.retC rfl rfl (lvNc (RowL.cells0 (by assumption)) (by rfl) (by rfl)) ?_
  exact ⟨rfl, q⟩
theorem ron_any (d : Int) (a : Option Addr) (n c : Nat) (k : Nat) (fol : Bool) (ls : List Bs) (w : World) (bb : Nat) (hv : PsB w bb a n c ls) (hl : n ≤ 1048576) (h0 : 0 < w.heap.size) : Calls Tryd.prog 35 #[rwV d a n c (k : Int) fol false wdZ] w fun e w' => ∃ v b2, e = .returned v ∧ RwR (Wk.on ⟨d, ls, k, fol, none⟩) v w' b2 ∧ ((b2 = 0 ∨ b2 = bb ∨ w.heap.size ≤ b2) ∧ b2 < w'.heap.size) ∧ Below w.heap.size w w' := by
  have q := Below.refl w.heap.size w
  have hn := hv.len
  have hF : ∀ X, Below w.heap.size w X → PsB X bb a n c ls := fun X b => hv.up b
  have hb0 := hv.lt
  clear hv
  refine X.fn Tryd.func35 rfl (n := 28) rfl rfl ?_
  refine CC.seq ?_
  refine CC.region ?_
  refine LL.box [Value.int IntKind.i64 d, Value.slice a n c, Value.int IntKind.i64 ↑k, Value.bool fol, Value.bool false, Value.int IntKind.i64 0, Value.int IntKind.i64 0, strV [], Value.int IntKind.i64 0, Value.int IntKind.i64 0] rfl rfl rfl rfl rfl ?_
  intro W2 g3 eg3 r4 z5 b1
  replace q := q.trans (b1.mono q.size)
  have l6 := r4.lt
  refine LL.alloc ([Value.int IntKind.i64 0, Value.slice none 0 0, Value.int IntKind.i64 0, Value.bool false, Value.bool false, Value.int IntKind.i64 0, Value.int IntKind.i64 0, Value.string { data := { toList := [] } }, Value.int IntKind.i64 0, Value.int IntKind.i64 0]) rfl rfl rfl rfl rfl ?_
  intro W8 g9 eg9 r10 z11 b7
  replace r4 := r4.up b7
  replace b1 := b1.trans (b7.mono b1.size)
  replace q := q.trans (b7.mono q.size)
  refine LL.nilS ?_
  refine CC.seq ?_
  refine CC.block ?_
  have r8 : RowL W8 g9 33 [.int .i64 0, .slice none 0 0, .int .i64 0, .bool false, .bool false, .int .i64 0, .int .i64 0, strV [], .int .i64 0, .int .i64 0] := r10
  have lg : w.heap.size ≤ g3 ∧ g3 < g9 := by omega
  clear r10
  refine CC.loop (α := List Bs × Option Addr × Nat × Nat) (fun _ => [(1, .pointer (some ⟨g3, 0, none⟩)), (2, .pointer (some ⟨g9, 0, none⟩))]) (fun s W => RowL W g3 33 [.int .i64 d, .slice s.2.1 s.2.2.1 s.2.2.2, .int .i64 (k : Int), .bool fol, .bool false, .int .i64 0, .int .i64 0, strV [], .int .i64 0, .int .i64 0] ∧ RowL W g9 33 [.int .i64 0, .slice none 0 0, .int .i64 0, .bool false, .bool false, .int .i64 0, .int .i64 0, strV [], .int .i64 0, .int .i64 0] ∧ (∀ X, Below w.heap.size w X → PsB X bb s.2.1 s.2.2.1 s.2.2.2 s.1) ∧ s.1.length ≤ 1048576 ∧ skipD s.1 = skipD ls ∧ Below w.heap.size w W) (fun s => s.1.length) (ls, a, n, c) ⟨rfl, rfl, trivial⟩ ⟨r4, r8, hF, by show ls.length ≤ _; omega, rfl, q⟩ ?_
  clear r4 r8 hF q b7 b1
  rintro ⟨l, a1, n1, c1⟩ W ⟨r1, r2, hF, hl1, e, q⟩
  dsimp only at r1 hF hl1 e
  have yq := q.size
  have hn1 := (hF _ q).len
  show CC none Tryd.prog _ 28 [] (sl [(1, .pointer (some ⟨g3, 0, none⟩)), (2, .pointer (some ⟨g9, 0, none⟩))]) _ W
  cases l with
  | nil =>
    have es : Wk.on ⟨d, ls, k, fol, none⟩ = ⟨d, [], k, fol, some (0, 0, [], d, 2)⟩ := by
      unfold Wk.on
      rw [show skipD (Wk.mk d ls k fol none).ps = [] from e.symm]
      rfl
    rw [es]
    obtain rfl : n1 = 0 := hn1.symm
    refine CC.seq ?_
    refine CC.seq ?_
    refine CC.region ?_
    refine LL.val (R.field rfl rfl (I.fld rfl)) rfl rfl rfl ?_
    refine LL.val (R.load rfl rfl (I.ld1 rfl (RowL.cell r1 rfl))) rfl rfl rfl ?_
    refine LL.val (R.len rfl rfl rfl rfl) rfl rfl rfl ?_
    refine LL.val (R.gtF rfl rfl rfl (by omega)) rfl rfl rfl ?_
    refine LL.val (R.move rfl rfl) rfl rfl rfl ?_
    refine LL.skip rfl rfl ?_
    refine LL.skip rfl rfl ?_
    refine LL.skip rfl rfl ?_
    refine LL.skip rfl rfl ?_
    refine LL.skip rfl rfl ?_
    refine LL.val (R.pick rfl rfl rfl) rfl rfl rfl ?_
    refine LL.nilS ?_
    refine CC.no rfl ?_
    refine CC.exit ?_
    refine EE.thenX ?_
    refine EE.thenX ?_
    refine EE.inX ?_
    refine EE.thenN ?_
    refine CC.seq ?_
    refine CC.seq ?_
    refine CC.region ?_
    refine LL.val (R.field rfl rfl (I.fld rfl)) rfl rfl rfl ?_
    refine LL.val (R.load rfl rfl (I.ld1 rfl (RowL.cell r1 rfl))) rfl rfl rfl ?_
    refine LL.val (R.len rfl rfl rfl rfl) rfl rfl rfl ?_
    refine LL.val (R.eqT rfl rfl rfl (by omega)) rfl rfl rfl ?_
    refine LL.nilS ?_
    refine CC.yes rfl ?_
    refine CC.seq ?_
    refine CC.region ?_
    refine LL.val (R.load rfl rfl (I.ldNc (vs := [Value.int IntKind.i64 d, Value.slice a1 0 c1, Value.int IntKind.i64 ↑k, Value.bool fol, Value.bool false, Value.int IntKind.i64 0, Value.int IntKind.i64 0, strV [], Value.int IntKind.i64 0, Value.int IntKind.i64 0]) (RowL.cells r1 rfl) (by rfl) (by rfl))) rfl rfl rfl ?_
    refine LL.val (R.field rfl rfl (I.fld rfl)) rfl rfl rfl ?_
    refine LL.val (R.load rfl rfl (I.ld1 rfl (RowL.cell r1 rfl))) rfl rfl rfl ?_
    refine LL.val (R.buildV rfl rfl (v := .agg #[Value.int IntKind.i64 0, Value.int IntKind.i64 0, Value.string { data := #[] }, Value.int IntKind.i64 d, Value.int IntKind.i64 2]) (fun _ => by kernel_rfl)) rfl rfl rfl ?_
    have la131 := r2.lt
    have la132 := r1.lt
    (refine LL.call (R.call rfl rfl rfl) rfl rfl rfl (rdone_any d _ _ _ _ _ _ wdZ (0, 0, [], d, 2) _) ?_; rintro e Wa130 ⟨rfl, ba127⟩; refine ⟨_, rfl, ?_⟩)
    have zba127 := ba127.size
    replace r2 := r2.up ba127
    replace q := q.trans (ba127.mono q.size)
    replace r1 := r1.up ba127
    refine LL.storeN (vs := [Value.int IntKind.i64 d, Value.slice none 0 0, Value.int IntKind.i64 ↑k, Value.bool fol, Value.bool true, Value.int IntKind.i64 0, Value.int IntKind.i64 0, strV [], Value.int IntKind.i64 d, Value.int IntKind.i64 2]) rfl rfl rfl rfl r2 (by exact Nat.le_of_ble_eq_true rfl) (ones_of rfl) rfl rfl ?_
    intro Wa146 ra147 ba145 za148
    have hlba145 := r2.lt
    replace ra147 : RowL Wa146 _ 33 [Value.int IntKind.i64 d, Value.slice none 0 0, Value.int IntKind.i64 ↑k, Value.bool fol, Value.bool true, Value.int IntKind.i64 0, Value.int IntKind.i64 0, strV [], Value.int IntKind.i64 d, Value.int IntKind.i64 2] := ra147
    clear r2
    replace q := q.grown ba145 q.size (by rintro k ⟨⟩; omega)
    replace r1 := r1.gr ba145 (by have := r1.lt; omega)
    have r2 := ra147
    clear ra147
    refine LL.nilS ?_
    refine CC.ret ?_
    refine EE.thenR ?_
    refine EE.retC rfl rfl (lvNc (RowL.cells0 (by assumption)) (by rfl) (by rfl)) ?_
    exact ⟨_, 0, rfl, RwR.fin (0, 0, [], d, 2) _ _ _ rfl rfl, by omega, q⟩
  | cons p r =>
    have hn2 : r.length + 1 = n1 := hn1
    obtain ⟨off, rfl, c0⟩ := (hF _ q).head
    have c2 := c0 _ (hF _ q)
    have c1' : W.cell? ⟨bb, off, none⟩ = some (strV p) := c2
    by_cases h46 : p = [46]
    · obtain ⟨a', c', hsl, htl⟩ := (hF _ q).tail
      have e2 : skipD r = skipD ls := by
        rw [← e]
        show _ = if p = [46] then skipD r else p :: r
        rw [if_pos h46]
      refine CC.seq ?_
      refine CC.seq ?_
      refine CC.region ?_
      refine LL.val (R.field rfl rfl (I.fld rfl)) rfl rfl rfl ?_
      refine LL.val (R.load rfl rfl (I.ld1 rfl (RowL.cell r1 rfl))) rfl rfl rfl ?_
      refine LL.val (R.len rfl rfl rfl rfl) rfl rfl rfl ?_
      refine LL.val (R.gtT rfl rfl rfl (by omega)) rfl rfl rfl ?_
      refine LL.val (R.move rfl rfl) rfl rfl rfl ?_
      refine LL.val (R.field rfl rfl (I.fld rfl)) rfl rfl rfl ?_
      refine LL.val (R.load rfl rfl (I.ld1 rfl (RowL.cell r1 rfl))) rfl rfl rfl ?_
      refine LL.val (R.index rfl rfl rfl (I.ixS1c rfl rfl (by omega))) rfl rfl rfl ?_
      refine LL.val (R.load rfl rfl (I.ld1 rfl (by assumption))) rfl rfl rfl ?_
      (refine LL.val (R.eqS (a := p) (b := [46]) (c := true) rfl rfl rfl (by simp [h46])) rfl rfl rfl ?_)
      refine LL.val (R.pick rfl rfl rfl) rfl rfl rfl ?_
      refine LL.nilS ?_
      refine CC.yes rfl ?_
      refine CC.skip ?_
      refine EE.thenN ?_
      refine CC.block ?_
      refine CC.region ?_
      refine LL.val (R.field rfl rfl (I.fld rfl)) rfl rfl rfl ?_
      refine LL.val (R.load rfl rfl (I.ld1 rfl (RowL.cell r1 rfl))) rfl rfl rfl ?_
      (refine LL.val (R.slice rfl rfl rfl rfl rfl (hsl _ _ _ _ rfl)) rfl rfl rfl ?_)
      refine LL.val (R.field rfl rfl (I.fld rfl)) rfl rfl rfl ?_
      refine LL.store rfl rfl rfl rfl r1 (by exact Nat.le_of_ble_eq_true rfl) rfl rfl rfl rfl ?_
      intro Wb2 rb3 bb1 zb4
      have hlbb1 := r1.lt
      replace rb3 : RowL Wb2 _ 33 [Value.int IntKind.i64 d, Value.slice a' (n1 - 1) c', Value.int IntKind.i64 ↑k, Value.bool fol, Value.bool false, Value.int IntKind.i64 0, Value.int IntKind.i64 0, strV [], Value.int IntKind.i64 0, Value.int IntKind.i64 0] := rb3
      clear r1
      replace r2 := r2.gr bb1 (by have := r2.lt; omega)
      replace q := q.grown bb1 q.size (by rintro k ⟨⟩; omega)
      replace c2 := cell_gr c2 bb1 (by omega)
      replace c1' := cell_gr c1' bb1 (by omega)
      have r1 := rb3
      clear rb3
      refine LL.nil ?_
      refine EE.inN ?_
      exact EE.round (r, _, _, _) ⟨rfl, rfl, trivial⟩ ⟨r1, r2, fun X b => htl X (hF X b), by show r.length ≤ 1048576; have h9 : r.length + 1 ≤ 1048576 := hl1; omega, e2, q⟩ (by show r.length < (p :: r).length; exact Nat.lt_succ_self _)
    · have es : Wk.on ⟨d, ls, k, fol, none⟩ = ⟨d, p :: r, k, fol, none⟩ := by
        unfold Wk.on
        rw [show skipD (Wk.mk d ls k fol none).ps = p :: r from by
          show skipD ls = _
          rw [← e]
          show (if p = [46] then skipD r else p :: r) = _
          rw [if_neg h46]]
      rw [es]
      refine CC.seq ?_
      refine CC.seq ?_
      refine CC.region ?_
      refine LL.val (R.field rfl rfl (I.fld rfl)) rfl rfl rfl ?_
      refine LL.val (R.load rfl rfl (I.ld1 rfl (RowL.cell r1 rfl))) rfl rfl rfl ?_
      refine LL.val (R.len rfl rfl rfl rfl) rfl rfl rfl ?_
      refine LL.val (R.gtT rfl rfl rfl (by omega)) rfl rfl rfl ?_
      refine LL.val (R.move rfl rfl) rfl rfl rfl ?_
      refine LL.val (R.field rfl rfl (I.fld rfl)) rfl rfl rfl ?_
      refine LL.val (R.load rfl rfl (I.ld1 rfl (RowL.cell r1 rfl))) rfl rfl rfl ?_
      refine LL.val (R.index rfl rfl rfl (I.ixS1c rfl rfl (by omega))) rfl rfl rfl ?_
      refine LL.val (R.load rfl rfl (I.ld1 rfl (by assumption))) rfl rfl rfl ?_
      (refine LL.val (R.eqS (a := p) (b := [46]) (c := false) rfl rfl rfl (by simp [h46])) rfl rfl rfl ?_)
      refine LL.val (R.pick rfl rfl rfl) rfl rfl rfl ?_
      refine LL.nilS ?_
      refine CC.no rfl ?_
      refine CC.exit ?_
      refine EE.thenX ?_
      refine EE.thenX ?_
      refine EE.inX ?_
      refine EE.thenN ?_
      refine CC.seq ?_
      refine CC.seq ?_
      refine CC.region ?_
      refine LL.val (R.field rfl rfl (I.fld rfl)) rfl rfl rfl ?_
      refine LL.val (R.load rfl rfl (I.ld1 rfl (RowL.cell r1 rfl))) rfl rfl rfl ?_
      refine LL.val (R.len rfl rfl rfl rfl) rfl rfl rfl ?_
      refine LL.val (R.eqF rfl rfl rfl (by omega)) rfl rfl rfl ?_
      refine LL.nilS ?_
      refine CC.no rfl ?_
      refine CC.skip ?_
      refine EE.thenN ?_
      refine CC.seq ?_
      refine CC.region ?_
      refine LL.val (R.load rfl rfl (I.ldNc (vs := [Value.int IntKind.i64 d, Value.slice (some { block := bb, off := off }) n1 c1, Value.int IntKind.i64 ↑k, Value.bool fol, Value.bool false, Value.int IntKind.i64 0, Value.int IntKind.i64 0, strV [], Value.int IntKind.i64 0, Value.int IntKind.i64 0]) (RowL.cells r1 rfl) (by rfl) (by rfl))) rfl rfl rfl ?_
      refine LL.storeN (vs := [Value.int IntKind.i64 d, Value.slice (some { block := bb, off := off }) n1 c1, Value.int IntKind.i64 ↑k, Value.bool fol, Value.bool false, Value.int IntKind.i64 0, Value.int IntKind.i64 0, strV [], Value.int IntKind.i64 0, Value.int IntKind.i64 0]) rfl rfl rfl rfl r2 (by exact Nat.le_of_ble_eq_true rfl) (ones_of rfl) rfl rfl ?_
      intro Wc2 rc3 bc1 zc4
      have hlbc1 := r2.lt
      replace rc3 : RowL Wc2 _ 33 [Value.int IntKind.i64 d, Value.slice (some { block := bb, off := off }) n1 c1, Value.int IntKind.i64 ↑k, Value.bool fol, Value.bool false, Value.int IntKind.i64 0, Value.int IntKind.i64 0, strV [], Value.int IntKind.i64 0, Value.int IntKind.i64 0] := rc3
      clear r2
      replace q := q.grown bc1 q.size (by rintro k ⟨⟩; omega)
      replace r1 := r1.gr bc1 (by have := r1.lt; omega)
      replace c2 := cell_gr c2 bc1 (by omega)
      replace c1' := cell_gr c1' bc1 (by omega)
      have r2 := rc3
      clear rc3
      refine LL.nilS ?_
      refine CC.ret ?_
      refine EE.retC rfl rfl (lvNc (RowL.cells0 (by assumption)) (by rfl) (by rfl)) ?_
      exact ⟨_, bb, rfl, RwR.run rfl rfl rfl rfl rfl (hF _ q), by omega, q⟩
theorem rnew_bad (path : Bs) (fol : Bool) (w : World) (hl : path.length ≤ 9223372036854775807) (er : Nat) (he : pathN path = er) (h0 : er ≠ 0) : Calls Tryd.prog 10 #[strV path, .bool fol] w fun e w' => e = .returned (.tuple #[rwV 0 none 0 0 0 false false wdZ, .int .i64 (er : Int)]) ∧ Below w.heap.size w w' := by
  have q := Below.refl w.heap.size w
  have hp := fun W => rparts_any path W hl
  rw [he, if_neg h0] at hp
  have h0' : (er : Int) ≠ 0 := by omega
  refine X.fn Tryd.func10 rfl (n := 21) rfl rfl ?_
  refine CC.seq ?_
  refine CC.region ?_
  refine LL.alloc ([Value.int IntKind.i64 0, Value.slice none 0 0, Value.int IntKind.i64 0, Value.bool false, Value.bool false, Value.int IntKind.i64 0, Value.int IntKind.i64 0, Value.string { data := { toList := [] } }, Value.int IntKind.i64 0, Value.int IntKind.i64 0]) rfl rfl rfl rfl rfl ?_
  intro W9 g10 eg10 r11 z12 b8
  replace q := q.trans (b8.mono q.size)
  refine LL.val (R.assign rfl rfl) rfl rfl rfl ?_
  refine LL.nilS ?_
  refine CC.seq ?_
  refine CC.region ?_
  refine LL.val (R.move rfl rfl) rfl rfl rfl ?_
  have l33 := r11.lt
  (refine LL.call (R.call rfl rfl rfl) rfl rfl rfl (hp _) ?_; rintro e W32 ⟨vp, rfl, op, b29⟩; refine ⟨_, rfl, ?_⟩; obtain ⟨ap, cp, rfl, hcp⟩ := (op.reads stEnc).form rfl)
  have zb29 := b29.size
  replace r11 := r11.up b29
  replace b8 := b8.trans (b29.mono b8.size)
  replace q := q.trans (b29.mono q.size)
  refine LL.val (R.move rfl rfl) rfl rfl rfl ?_
  refine LL.val (R.extract rfl rfl rfl) rfl rfl rfl ?_
  refine LL.val (R.extract rfl rfl rfl) rfl rfl rfl ?_
  refine LL.val (R.assign rfl rfl) rfl rfl rfl ?_
  refine LL.val (R.assign rfl rfl) rfl rfl rfl ?_
  refine LL.nilS ?_
  refine CC.seq ?_
  refine CC.seq ?_
  refine CC.region ?_
  refine LL.val (R.move rfl rfl) rfl rfl rfl ?_
  refine LL.val (R.neT rfl rfl rfl (by omega)) rfl rfl rfl ?_
  refine LL.nilS ?_
  refine CC.yes rfl ?_
  refine CC.seq ?_
  refine CC.region ?_
  refine LL.val (R.buildV rfl rfl (v := .agg #[Value.int IntKind.i64 0, Value.slice none 0 0, Value.int IntKind.i64 0, Value.bool false, Value.bool false, Value.int IntKind.i64 0, Value.int IntKind.i64 0, Value.string { data := #[] }, Value.int IntKind.i64 0, Value.int IntKind.i64 0]) (fun _ => by kernel_rfl)) rfl rfl rfl ?_
  refine LL.val (R.move rfl rfl) rfl rfl rfl ?_
  refine LL.storeN (vs := [Value.int IntKind.i64 0, Value.slice none 0 0, Value.int IntKind.i64 0, Value.bool false, Value.bool false, Value.int IntKind.i64 0, Value.int IntKind.i64 0, Value.string { data := #[] }, Value.int IntKind.i64 0, Value.int IntKind.i64 0]) rfl rfl rfl rfl r11 (by exact Nat.le_of_ble_eq_true rfl) (ones_of rfl) rfl rfl ?_
  intro W118 r119 b117 z120
  have hlb117 := r11.lt
  replace r119 : RowL W118 _ 33 [Value.int IntKind.i64 0, Value.slice none 0 0, Value.int IntKind.i64 0, Value.bool false, Value.bool false, Value.int IntKind.i64 0, Value.int IntKind.i64 0, Value.string { data := #[] }, Value.int IntKind.i64 0, Value.int IntKind.i64 0] := r119
  clear r11
  replace op := op.grown b117 (own_ne op (by omega))
  replace b8 := b8.grown b117 b8.size (by rintro k ⟨⟩; omega)
  replace q := q.grown b117 q.size (by rintro k ⟨⟩; omega)
  have r11 := r119
  clear r119
  refine LL.val (R.assign rfl rfl) rfl rfl rfl ?_
  refine LL.nilS ?_
  refine CC.ret ?_
  refine EE.thenR ?_
  refine EE.ret2 rfl ⟨_, rfl, lvNc (RowL.cells0 (by assumption)) (by rfl) (by rfl)⟩ rfl ?_
  exact ⟨rfl, q⟩
theorem rnew_yes (path : Bs) (fol : Bool) (w : World) (hl : path.length ≤ 9223372036854775807) (hz : pathN path = 0) (h0 : 0 < w.heap.size) : Calls Tryd.prog 10 #[strV path, .bool fol] w fun e w' => ∃ v b2, e = .returned (.tuple #[v, .int .i64 0]) ∧ RwR (newW path fol) v w' b2 ∧ ((b2 = 0 ∨ w.heap.size ≤ b2) ∧ b2 < w'.heap.size) ∧ Below w.heap.size w w' := by
  have q := Below.refl w.heap.size w
  have hp := fun W => rparts_any path W hl
  rw [hz, if_pos rfl] at hp
  have hlen := partsL_len0 hz
  unfold newW
  obtain ⟨ls, els⟩ : ∃ ls, partsL path = ls := ⟨_, rfl⟩
  rw [els] at hp hlen ⊢
  obtain ⟨n, hn⟩ : ∃ n, ls.length = n := ⟨_, rfl⟩
  refine X.fn Tryd.func10 rfl (n := 21) rfl rfl ?_
  refine CC.seq ?_
  refine CC.region ?_
  refine LL.alloc ([Value.int IntKind.i64 0, Value.slice none 0 0, Value.int IntKind.i64 0, Value.bool false, Value.bool false, Value.int IntKind.i64 0, Value.int IntKind.i64 0, Value.string { data := { toList := [] } }, Value.int IntKind.i64 0, Value.int IntKind.i64 0]) rfl rfl rfl rfl rfl ?_
  intro W16 g17 eg17 r18 z19 b15
  replace q := q.trans (b15.mono q.size)
  refine LL.val (R.assign rfl rfl) rfl rfl rfl ?_
  refine LL.nilS ?_
  refine CC.seq ?_
  refine CC.region ?_
  refine LL.val (R.move rfl rfl) rfl rfl rfl ?_
  have l56 := r18.lt
  (refine LL.call (R.call rfl rfl rfl) rfl rfl rfl (hp _) ?_; rintro e W55 ⟨vp, rfl, op, b52⟩; refine ⟨_, rfl, ?_⟩; obtain ⟨ap, cp, rfl, hcp⟩ := (op.reads stEnc).form hn; have zy := b52.size; obtain ⟨bp, hpb, hbp⟩ := PsB.own op (by omega); have lbp := hpb.lt; clear op)
  have zb52 := b52.size
  replace r18 := r18.up b52
  replace b15 := b15.trans (b52.mono b15.size)
  replace q := q.trans (b52.mono q.size)
  refine LL.val (R.move rfl rfl) rfl rfl rfl ?_
  refine LL.val (R.extract rfl rfl rfl) rfl rfl rfl ?_
  refine LL.val (R.extract rfl rfl rfl) rfl rfl rfl ?_
  refine LL.val (R.assign rfl rfl) rfl rfl rfl ?_
  refine LL.val (R.assign rfl rfl) rfl rfl rfl ?_
  refine LL.nilS ?_
  refine CC.seq ?_
  refine CC.seq ?_
  refine CC.region ?_
  refine LL.val (R.move rfl rfl) rfl rfl rfl ?_
  refine LL.val (R.neF rfl rfl rfl (by omega)) rfl rfl rfl ?_
  refine LL.nilS ?_
  refine CC.no rfl ?_
  refine CC.skip ?_
  refine EE.thenN ?_
  refine CC.seq ?_
  refine CC.region ?_
  refine LL.val (R.move rfl rfl) rfl rfl rfl ?_
  refine LL.val (R.move rfl rfl) rfl rfl rfl ?_
  refine LL.val (R.buildV rfl rfl (v := .agg #[Value.int IntKind.i64 1, Value.slice ap n cp, Value.int IntKind.i64 0, Value.bool fol, Value.bool false, Value.int IntKind.i64 0, Value.int IntKind.i64 0, Value.string { data := #[] }, Value.int IntKind.i64 0, Value.int IntKind.i64 0]) (fun _ => by kernel_rfl)) rfl rfl rfl ?_
  have l232 := r18.lt
  (refine LL.call (R.call rfl rfl rfl) rfl rfl rfl (ron_any 1 _ _ _ 0 fol ls _ bp hpb (by omega) (by omega)) ?_; rintro e W231 ⟨vo, bo1, rfl, ho1, hbo1, b228⟩; refine ⟨_, rfl, ?_⟩; obtain ⟨d1, a1, n1, c1, k1, f1, dn1, x1, rfl⟩ := ho1.form)
  have zb228 := b228.size
  replace b52 := b52.trans (b228.mono b52.size)
  replace hpb := hpb.up b228
  replace r18 := r18.up b228
  replace b15 := b15.trans (b228.mono b15.size)
  replace q := q.trans (b228.mono q.size)
  refine LL.storeN (vs := [Value.int IntKind.i64 d1, Value.slice a1 n1 c1, Value.int IntKind.i64 k1, Value.bool f1, Value.bool dn1, Value.int IntKind.i64 x1.1, Value.int IntKind.i64 x1.2.1, strV x1.2.2.1, Value.int IntKind.i64 x1.2.2.2.1, Value.int IntKind.i64 x1.2.2.2.2]) rfl rfl rfl rfl r18 (by exact Nat.le_of_ble_eq_true rfl) (ones_of rfl) rfl rfl ?_
  intro W253 r254 b252 z255
  have hlb252 := r18.lt
  replace r254 : RowL W253 _ 33 [Value.int IntKind.i64 d1, Value.slice a1 n1 c1, Value.int IntKind.i64 k1, Value.bool f1, Value.bool dn1, Value.int IntKind.i64 x1.1, Value.int IntKind.i64 x1.2.1, strV x1.2.2.1, Value.int IntKind.i64 x1.2.2.2.1, Value.int IntKind.i64 x1.2.2.2.2] := r254
  clear r18
  replace ho1 := ho1.gr b252 (by omega)
  replace hpb := hpb.gr b252 (by have := hpb.lt; omega)
  replace b15 := b15.grown b252 b15.size (by rintro k ⟨⟩; omega)
  replace q := q.grown b252 q.size (by rintro k ⟨⟩; omega)
  have r18 := r254
  clear r254
  refine LL.val (R.assign rfl rfl) rfl rfl rfl ?_
  refine LL.nilS ?_
  refine CC.ret ?_
  refine EE.ret2 rfl ⟨_, rfl, lvNc (RowL.cells0 (by assumption)) (by rfl) (by rfl)⟩ rfl ?_
  exact ⟨_, bo1, rfl, ho1, by omega, q⟩
theorem rmiss_any (d : Int) (a : Option Addr) (n c : Nat) (k : Nat) (fol : Bool) (p : Bs) (r : List Bs) (w : World) (bb : Nat) (hv : PsB w bb a n c (p :: r)) (hl : n ≤ 1048576) (h0 : 0 < w.heap.size) : Calls Tryd.prog 16 #[rwV d a n c (k : Int) fol false wdZ] w fun e w' => ∃ v b2, e = .returned v ∧ RwR (Wk.miss ⟨d, p :: r, k, fol, none⟩) v w' b2 ∧ ((b2 = 0 ∨ b2 = bb ∨ w.heap.size ≤ b2) ∧ b2 < w'.heap.size) ∧ Below w.heap.size w w' := by
  have q := Below.refl w.heap.size w
  have hn := hv.len
  have hF : ∀ X, Below w.heap.size w X → PsB X bb a n c (p :: r) := fun X b => hv.up b
  have hb0 := hv.lt
  obtain ⟨off, rfl, c0⟩ := hv.head
  have c1 := fun X (b : Below w.heap.size w X) => c0 X (hF X b)
  clear hv c0
  cases r with
  | nil =>
    obtain rfl : n = 1 := hn.symm
    have es : Wk.miss ⟨d, [p], k, fol, none⟩ = ⟨d, [], k, fol, some (270, d, p, 0, 0)⟩ := rfl
    rw [es]
    refine X.fn Tryd.func16 rfl (n := 20) rfl rfl ?_
    refine CC.seq ?_
    refine CC.region ?_
    refine LL.box [Value.int IntKind.i64 d, Value.slice (some { block := bb, off := off }) 1 c, Value.int IntKind.i64 ↑k, Value.bool fol, Value.bool false, Value.int IntKind.i64 0, Value.int IntKind.i64 0, strV [], Value.int IntKind.i64 0, Value.int IntKind.i64 0] rfl rfl rfl rfl rfl ?_
    intro W9 g10 eg10 r11 z12 b8
    replace q := q.trans (b8.mono q.size)
    have l21 := r11.lt
    refine LL.alloc ([Value.int IntKind.i64 0, Value.slice none 0 0, Value.int IntKind.i64 0, Value.bool false, Value.bool false, Value.int IntKind.i64 0, Value.int IntKind.i64 0, Value.string { data := { toList := [] } }, Value.int IntKind.i64 0, Value.int IntKind.i64 0]) rfl rfl rfl rfl rfl ?_
    intro W23 g24 eg24 r25 z26 b22
    replace r11 := r11.up b22
    replace b8 := b8.trans (b22.mono b8.size)
    replace q := q.trans (b22.mono q.size)
    refine LL.nilS ?_
    refine CC.seq ?_
    refine CC.region ?_
    refine LL.val (R.buildV rfl rfl (v := .agg #[Value.int IntKind.i64 270, Value.int IntKind.i64 0, Value.string { data := #[] }, Value.int IntKind.i64 0, Value.int IntKind.i64 0]) (fun _ => by kernel_rfl)) rfl rfl rfl ?_
    have l45 := r25.lt
    have l46 := r11.lt
    refine LL.alloc ([Value.int IntKind.i64 0, Value.int IntKind.i64 0, Value.string { data := { toList := [] } }, Value.int IntKind.i64 0, Value.int IntKind.i64 0]) rfl rfl rfl rfl rfl ?_
    intro W48 g49 eg49 r50 z51 b47
    replace r25 := r25.up b47
    replace b22 := b22.trans (b47.mono b22.size)
    replace r11 := r11.up b47
    replace b8 := b8.trans (b47.mono b8.size)
    replace q := q.trans (b47.mono q.size)
    refine LL.storeN (vs := [Value.int IntKind.i64 270, Value.int IntKind.i64 0, Value.string { data := #[] }, Value.int IntKind.i64 0, Value.int IntKind.i64 0]) rfl rfl rfl rfl r50 (by exact Nat.le_of_ble_eq_true rfl) (ones_of rfl) rfl rfl ?_
    intro W63 r64 b62 z65
    have hlb62 := r50.lt
    replace r64 : RowL W63 _ 31 [Value.int IntKind.i64 270, Value.int IntKind.i64 0, Value.string { data := #[] }, Value.int IntKind.i64 0, Value.int IntKind.i64 0] := r64
    clear r50
    replace b47 := b47.grown b62 b47.size (by rintro k ⟨⟩; omega)
    replace r25 := r25.gr b62 (by have := r25.lt; omega)
    replace b22 := b22.grown b62 b22.size (by rintro k ⟨⟩; omega)
    replace r11 := r11.gr b62 (by have := r11.lt; omega)
    replace b8 := b8.grown b62 b8.size (by rintro k ⟨⟩; omega)
    replace q := q.grown b62 q.size (by rintro k ⟨⟩; omega)
    have r50 := r64
    clear r64
    refine LL.nilS ?_
    refine CC.seq ?_
    refine CC.seq ?_
    refine CC.region ?_
    refine LL.val (R.field rfl rfl (I.fld rfl)) rfl rfl rfl ?_
    refine LL.val (R.load rfl rfl (I.ld1 rfl (RowL.cell r11 rfl))) rfl rfl rfl ?_
    refine LL.val (R.len rfl rfl rfl rfl) rfl rfl rfl ?_
    refine LL.val (R.eqT rfl rfl rfl (by omega)) rfl rfl rfl ?_
    refine LL.nilS ?_
    refine CC.yes rfl ?_
    refine CC.freeZ (fun W_ j => j < W_.heap.size ∧ (j ≠ g49)) (by kernel_rfl) (by kernel_rfl) (fun W140 b139 z141 => ?_)
    replace b47 := b47.trans (b139.mono b47.size)
    replace r25 := r25.up b139
    replace b22 := b22.trans (b139.mono b22.size)
    replace r11 := r11.up b139
    replace b8 := b8.trans (b139.mono b8.size)
    replace q := q.trans (b139.mono q.size)
    replace r50 := r50.up b139
    have hok : Kept (fun j => j < W140.heap.size ∧ (j ≠ g49)) W140 W140 := Kept.refl _ _
    have fzr25 := fzRow (K := fun j => j < W140.heap.size ∧ (j ≠ g49)) r25 ⟨r25.lt, (by first | trivial | omega)⟩
    have fzr11 := fzRow (K := fun j => j < W140.heap.size ∧ (j ≠ g49)) r11 ⟨r11.lt, (by first | trivial | omega)⟩
    refine AA.pure 0 rfl hok (by kernel_rfl) (fun w' b' => R.field rfl rfl (I.fld rfl)) rfl rfl ?_
    refine AA.pure 1 rfl hok (by kernel_rfl) (fun w' b' => R.load rfl rfl (I.ld1 rfl (RowL.cell (fzr11 w' b') rfl))) rfl rfl ?_
    refine AA.pure 2 rfl hok (by kernel_rfl) (fun w' b' => R.field rfl rfl (I.fld rfl)) rfl rfl ?_
    refine AA.pure 3 rfl hok (by kernel_rfl) (fun w' b' => R.load rfl rfl (I.ld1 rfl (RowL.cell (fzr11 w' b') rfl))) rfl rfl ?_
    refine AA.pure 4 rfl hok (by kernel_rfl) (fun w' b' => R.index rfl rfl rfl (I.ixS1c rfl rfl (by omega))) rfl rfl ?_
    refine AA.pure 6 rfl hok (by kernel_rfl) (fun w' b' => R.field rfl rfl (I.fld rfl)) rfl rfl ?_
    refine AA.two 5 7 (by kernel_rfl) ?_ ?_
    (refine SR.val rfl (R.load rfl rfl (I.ld1 rfl (c1 _ q))) rfl rfl hok ?_)
    refine AA.one 7 (by kernel_rfl) ?_
    refine ZR.store rfl rfl rfl rfl rfl r50 (by exact Nat.le_of_ble_eq_true rfl) rfl rfl rfl rfl ?_
    intro W153 r154 b152 z155
    have hlb152 := r50.lt
    replace r154 : RowL W153 _ 31 [Value.int IntKind.i64 270, Value.int IntKind.i64 d, Value.string { data := #[] }, Value.int IntKind.i64 0, Value.int IntKind.i64 0] := r154
    clear r50
    replace b47 := b47.grown b152 b47.size (by rintro k ⟨⟩; omega)
    replace r25 := r25.gr b152 (by have := r25.lt; omega)
    replace b22 := b22.grown b152 b22.size (by rintro k ⟨⟩; omega)
    replace r11 := r11.gr b152 (by have := r11.lt; omega)
    replace b8 := b8.grown b152 b8.size (by rintro k ⟨⟩; omega)
    replace q := q.grown b152 q.size (by rintro k ⟨⟩; omega)
    replace hok := hok.trans (grown_kept b152 (fun j h => by have := h.1; have := hok.size; omega) (fun j h e => by cases e; have h2 := h.1; have h3 := h.2; omega))
    have r50 := r154
    clear r154
    refine ⟨hok, ?_⟩
    refine AA.pure 8 rfl hok (by kernel_rfl) (fun w' b' => R.field rfl rfl (I.fld rfl)) rfl rfl ?_
    refine AA.one 9 (by kernel_rfl) ?_
    refine ZR.store rfl rfl rfl rfl rfl r50 (by exact Nat.le_of_ble_eq_true rfl) rfl rfl rfl rfl ?_
    intro W167 r168 b166 z169
    have hlb166 := r50.lt
    replace r168 : RowL W167 _ 31 [Value.int IntKind.i64 270, Value.int IntKind.i64 d, Value.string { data := List.toArray p }, Value.int IntKind.i64 0, Value.int IntKind.i64 0] := r168
    clear r50
    replace b47 := b47.grown b166 b47.size (by rintro k ⟨⟩; omega)
    replace r25 := r25.gr b166 (by have := r25.lt; omega)
    replace b22 := b22.grown b166 b22.size (by rintro k ⟨⟩; omega)
    replace r11 := r11.gr b166 (by have := r11.lt; omega)
    replace b8 := b8.grown b166 b8.size (by rintro k ⟨⟩; omega)
    replace q := q.grown b166 q.size (by rintro k ⟨⟩; omega)
    replace hok := hok.trans (grown_kept b166 (fun j h => by have := h.1; have := hok.size; omega) (fun j h e => by cases e; have h2 := h.1; have h3 := h.2; omega))
    have r50 := r168
    clear r168
    refine ⟨hok, ?_⟩
    refine AA.done rfl ?_
    clear fzr25 fzr11 hok
    refine EE.thenN ?_
    refine CC.seq ?_
    refine CC.region ?_
    refine LL.val (R.load rfl rfl (I.ldNc (vs := [Value.int IntKind.i64 d, Value.slice (some { block := bb, off := off }) 1 c, Value.int IntKind.i64 ↑k, Value.bool fol, Value.bool false, Value.int IntKind.i64 0, Value.int IntKind.i64 0, strV [], Value.int IntKind.i64 0, Value.int IntKind.i64 0]) (RowL.cells r11 rfl) (by rfl) (by rfl))) rfl rfl rfl ?_
    refine LL.val (R.load rfl rfl (I.ldNc (vs := [Value.int IntKind.i64 270, Value.int IntKind.i64 d, Value.string { data := List.toArray p }, Value.int IntKind.i64 0, Value.int IntKind.i64 0]) (RowL.cells r50 rfl) (by rfl) (by rfl))) rfl rfl rfl ?_
    have l194 := r25.lt
    have l195 := r11.lt
    have l196 := r50.lt
    (refine LL.call (R.call rfl rfl rfl) rfl rfl rfl (rdone_any d _ _ _ _ _ _ wdZ (270, d, p, 0, 0) _) ?_; rintro e W193 ⟨rfl, b190⟩; refine ⟨_, rfl, ?_⟩)
    have zb190 := b190.size
    replace b47 := b47.trans (b190.mono b47.size)
    replace r25 := r25.up b190
    replace b22 := b22.trans (b190.mono b22.size)
    replace r11 := r11.up b190
    replace b8 := b8.trans (b190.mono b8.size)
    replace q := q.trans (b190.mono q.size)
    replace r50 := r50.up b190
    refine LL.storeN (vs := [Value.int IntKind.i64 d, Value.slice none 0 0, Value.int IntKind.i64 ↑k, Value.bool fol, Value.bool true, Value.int IntKind.i64 270, Value.int IntKind.i64 d, strV p, Value.int IntKind.i64 0, Value.int IntKind.i64 0]) rfl rfl rfl rfl r25 (by exact Nat.le_of_ble_eq_true rfl) (ones_of rfl) rfl rfl ?_
    intro W211 r212 b210 z213
    have hlb210 := r25.lt
    replace r212 : RowL W211 _ 33 [Value.int IntKind.i64 d, Value.slice none 0 0, Value.int IntKind.i64 ↑k, Value.bool fol, Value.bool true, Value.int IntKind.i64 270, Value.int IntKind.i64 d, strV p, Value.int IntKind.i64 0, Value.int IntKind.i64 0] := r212
    clear r25
    replace b22 := b22.grown b210 b22.size (by rintro k ⟨⟩; omega)
    replace r11 := r11.gr b210 (by have := r11.lt; omega)
    replace b8 := b8.grown b210 b8.size (by rintro k ⟨⟩; omega)
    replace q := q.grown b210 q.size (by rintro k ⟨⟩; omega)
    replace r50 := r50.gr b210 (by have := r50.lt; omega)
    have r25 := r212
    clear r212
    refine LL.nilS ?_
    refine CC.ret ?_
    refine EE.retC rfl rfl (lvNc (RowL.cells0 (by assumption)) (by rfl) (by rfl)) ?_
    exact ⟨_, 0, rfl, RwR.fin (270, d, p, 0, 0) _ _ _ rfl rfl, by omega, q⟩
    refine ZR.store rfl rfl rfl rfl rfl r50 (by exact Nat.le_of_ble_eq_true rfl) rfl rfl rfl rfl ?_
    intro W225 r226 b224 z227
    have hlb224 := r50.lt
    replace r226 : RowL W225 _ 31 [Value.int IntKind.i64 270, Value.int IntKind.i64 d, Value.string { data := #[] }, Value.int IntKind.i64 0, Value.int IntKind.i64 0] := r226
    clear r50
    replace b47 := b47.grown b224 b47.size (by rintro k ⟨⟩; omega)
    replace r25 := r25.gr b224 (by have := r25.lt; omega)
    replace b22 := b22.grown b224 b22.size (by rintro k ⟨⟩; omega)
    replace r11 := r11.gr b224 (by have := r11.lt; omega)
    replace b8 := b8.grown b224 b8.size (by rintro k ⟨⟩; omega)
    replace q := q.grown b224 q.size (by rintro k ⟨⟩; omega)
    replace hok := hok.trans (grown_kept b224 (fun j h => by have := h.1; have := hok.size; omega) (fun j h e => by cases e; have h2 := h.1; have h3 := h.2; omega))
    have r50 := r226
    clear r226
    refine ⟨hok, ?_⟩
    refine AA.one 5 (by kernel_rfl) ?_
    (refine SR.val rfl (R.load rfl rfl (I.ld1 rfl (c1 _ q))) rfl rfl hok ?_)
    refine AA.pure 8 rfl hok (by kernel_rfl) (fun w' b' => R.field rfl rfl (I.fld rfl)) rfl rfl ?_
    refine AA.one 9 (by kernel_rfl) ?_
    refine ZR.store rfl rfl rfl rfl rfl r50 (by exact Nat.le_of_ble_eq_true rfl) rfl rfl rfl rfl ?_
    intro W239 r240 b238 z241
    have hlb238 := r50.lt
    replace r240 : RowL W239 _ 31 [Value.int IntKind.i64 270, Value.int IntKind.i64 d, Value.string { data := List.toArray p }, Value.int IntKind.i64 0, Value.int IntKind.i64 0] := r240
    clear r50
    replace b47 := b47.grown b238 b47.size (by rintro k ⟨⟩; omega)
    replace r25 := r25.gr b238 (by have := r25.lt; omega)
    replace b22 := b22.grown b238 b22.size (by rintro k ⟨⟩; omega)
    replace r11 := r11.gr b238 (by have := r11.lt; omega)
    replace b8 := b8.grown b238 b8.size (by rintro k ⟨⟩; omega)
    replace q := q.grown b238 q.size (by rintro k ⟨⟩; omega)
    replace hok := hok.trans (grown_kept b238 (fun j h => by have := h.1; have := hok.size; omega) (fun j h e => by cases e; have h2 := h.1; have h3 := h.2; omega))
    have r50 := r240
    clear r240
    refine ⟨hok, ?_⟩
    refine AA.done rfl ?_
    clear fzr25 fzr11 hok
    refine EE.thenN ?_
    refine CC.seq ?_
    refine CC.region ?_
    refine LL.val (R.load rfl rfl (I.ldNc (vs := [Value.int IntKind.i64 d, Value.slice (some { block := bb, off := off }) 1 c, Value.int IntKind.i64 ↑k, Value.bool fol, Value.bool false, Value.int IntKind.i64 0, Value.int IntKind.i64 0, strV [], Value.int IntKind.i64 0, Value.int IntKind.i64 0]) (RowL.cells r11 rfl) (by rfl) (by rfl))) rfl rfl rfl ?_
    refine LL.val (R.load rfl rfl (I.ldNc (vs := [Value.int IntKind.i64 270, Value.int IntKind.i64 d, Value.string { data := List.toArray p }, Value.int IntKind.i64 0, Value.int IntKind.i64 0]) (RowL.cells r50 rfl) (by rfl) (by rfl))) rfl rfl rfl ?_
    have l266 := r25.lt
    have l267 := r11.lt
    have l268 := r50.lt
    (refine LL.call (R.call rfl rfl rfl) rfl rfl rfl (rdone_any d _ _ _ _ _ _ wdZ (270, d, p, 0, 0) _) ?_; rintro e W265 ⟨rfl, b262⟩; refine ⟨_, rfl, ?_⟩)
    have zb262 := b262.size
    replace b47 := b47.trans (b262.mono b47.size)
    replace r25 := r25.up b262
    replace b22 := b22.trans (b262.mono b22.size)
    replace r11 := r11.up b262
    replace b8 := b8.trans (b262.mono b8.size)
    replace q := q.trans (b262.mono q.size)
    replace r50 := r50.up b262
    refine LL.storeN (vs := [Value.int IntKind.i64 d, Value.slice none 0 0, Value.int IntKind.i64 ↑k, Value.bool fol, Value.bool true, Value.int IntKind.i64 270, Value.int IntKind.i64 d, strV p, Value.int IntKind.i64 0, Value.int IntKind.i64 0]) rfl rfl rfl rfl r25 (by exact Nat.le_of_ble_eq_true rfl) (ones_of rfl) rfl rfl ?_
    intro W283 r284 b282 z285
    have hlb282 := r25.lt
    replace r284 : RowL W283 _ 33 [Value.int IntKind.i64 d, Value.slice none 0 0, Value.int IntKind.i64 ↑k, Value.bool fol, Value.bool true, Value.int IntKind.i64 270, Value.int IntKind.i64 d, strV p, Value.int IntKind.i64 0, Value.int IntKind.i64 0] := r284
    clear r25
    replace b22 := b22.grown b282 b22.size (by rintro k ⟨⟩; omega)
    replace r11 := r11.gr b282 (by have := r11.lt; omega)
    replace b8 := b8.grown b282 b8.size (by rintro k ⟨⟩; omega)
    replace q := q.grown b282 q.size (by rintro k ⟨⟩; omega)
    replace r50 := r50.gr b282 (by have := r50.lt; omega)
    have r25 := r284
    clear r284
    refine LL.nilS ?_
    refine CC.ret ?_
    refine EE.retC rfl rfl (lvNc (RowL.cells0 (by assumption)) (by rfl) (by rfl)) ?_
    exact ⟨_, 0, rfl, RwR.fin (270, d, p, 0, 0) _ _ _ rfl rfl, by omega, q⟩
  | cons p2 r =>
    have hn2 : r.length + 1 + 1 = n := hn
    have es : Wk.miss ⟨d, p :: p2 :: r, k, fol, none⟩ = ⟨d, [], k, fol, some (270, 0, [], 0, 0)⟩ := rfl
    rw [es]
    refine X.fn Tryd.func16 rfl (n := 20) rfl rfl ?_
    refine CC.seq ?_
    refine CC.region ?_
    refine LL.box [Value.int IntKind.i64 d, Value.slice (some { block := bb, off := off }) n c, Value.int IntKind.i64 ↑k, Value.bool fol, Value.bool false, Value.int IntKind.i64 0, Value.int IntKind.i64 0, strV [], Value.int IntKind.i64 0, Value.int IntKind.i64 0] rfl rfl rfl rfl rfl ?_
    intro Wa9 ga10 ega10 ra11 za12 ba8
    replace q := q.trans (ba8.mono q.size)
    have la21 := ra11.lt
    refine LL.alloc ([Value.int IntKind.i64 0, Value.slice none 0 0, Value.int IntKind.i64 0, Value.bool false, Value.bool false, Value.int IntKind.i64 0, Value.int IntKind.i64 0, Value.string { data := { toList := [] } }, Value.int IntKind.i64 0, Value.int IntKind.i64 0]) rfl rfl rfl rfl rfl ?_
    intro Wa23 ga24 ega24 ra25 za26 ba22
    replace ra11 := ra11.up ba22
    replace ba8 := ba8.trans (ba22.mono ba8.size)
    replace q := q.trans (ba22.mono q.size)
    refine LL.nilS ?_
    refine CC.seq ?_
    refine CC.region ?_
    refine LL.val (R.buildV rfl rfl (v := .agg #[Value.int IntKind.i64 270, Value.int IntKind.i64 0, Value.string { data := #[] }, Value.int IntKind.i64 0, Value.int IntKind.i64 0]) (fun _ => by kernel_rfl)) rfl rfl rfl ?_
    have la45 := ra25.lt
    have la46 := ra11.lt
    refine LL.alloc ([Value.int IntKind.i64 0, Value.int IntKind.i64 0, Value.string { data := { toList := [] } }, Value.int IntKind.i64 0, Value.int IntKind.i64 0]) rfl rfl rfl rfl rfl ?_
    intro Wa48 ga49 ega49 ra50 za51 ba47
    replace ra25 := ra25.up ba47
    replace ba22 := ba22.trans (ba47.mono ba22.size)
    replace ra11 := ra11.up ba47
    replace ba8 := ba8.trans (ba47.mono ba8.size)
    replace q := q.trans (ba47.mono q.size)
    refine LL.storeN (vs := [Value.int IntKind.i64 270, Value.int IntKind.i64 0, Value.string { data := #[] }, Value.int IntKind.i64 0, Value.int IntKind.i64 0]) rfl rfl rfl rfl ra50 (by exact Nat.le_of_ble_eq_true rfl) (ones_of rfl) rfl rfl ?_
    intro Wa63 ra64 ba62 za65
    have hlba62 := ra50.lt
    replace ra64 : RowL Wa63 _ 31 [Value.int IntKind.i64 270, Value.int IntKind.i64 0, Value.string { data := #[] }, Value.int IntKind.i64 0, Value.int IntKind.i64 0] := ra64
    clear ra50
    replace ba47 := ba47.grown ba62 ba47.size (by rintro k ⟨⟩; omega)
    replace ra25 := ra25.gr ba62 (by have := ra25.lt; omega)
    replace ba22 := ba22.grown ba62 ba22.size (by rintro k ⟨⟩; omega)
    replace ra11 := ra11.gr ba62 (by have := ra11.lt; omega)
    replace ba8 := ba8.grown ba62 ba8.size (by rintro k ⟨⟩; omega)
    replace q := q.grown ba62 q.size (by rintro k ⟨⟩; omega)
    have ra50 := ra64
    clear ra64
    refine LL.nilS ?_
    refine CC.seq ?_
    refine CC.seq ?_
    refine CC.region ?_
    refine LL.val (R.field rfl rfl (I.fld rfl)) rfl rfl rfl ?_
    refine LL.val (R.load rfl rfl (I.ld1 rfl (RowL.cell ra11 rfl))) rfl rfl rfl ?_
    refine LL.val (R.len rfl rfl rfl rfl) rfl rfl rfl ?_
    refine LL.val (R.eqF rfl rfl rfl (by omega)) rfl rfl rfl ?_
    refine LL.nilS ?_
    refine CC.no rfl ?_
    refine CC.skip ?_
    refine EE.thenN ?_
    refine CC.seq ?_
    refine CC.region ?_
    refine LL.val (R.load rfl rfl (I.ldNc (vs := [Value.int IntKind.i64 d, Value.slice (some { block := bb, off := off }) n c, Value.int IntKind.i64 ↑k, Value.bool fol, Value.bool false, Value.int IntKind.i64 0, Value.int IntKind.i64 0, strV [], Value.int IntKind.i64 0, Value.int IntKind.i64 0]) (RowL.cells ra11 rfl) (by rfl) (by rfl))) rfl rfl rfl ?_
    refine LL.val (R.load rfl rfl (I.ldNc (vs := [Value.int IntKind.i64 270, Value.int IntKind.i64 0, Value.string { data := #[] }, Value.int IntKind.i64 0, Value.int IntKind.i64 0]) (RowL.cells ra50 rfl) (by rfl) (by rfl))) rfl rfl rfl ?_
    have la130 := ra25.lt
    have la131 := ra11.lt
    have la132 := ra50.lt
    (refine LL.call (R.call rfl rfl rfl) rfl rfl rfl (rdone_any d _ _ _ _ _ _ wdZ (270, 0, [], 0, 0) _) ?_; rintro e Wa129 ⟨rfl, ba126⟩; refine ⟨_, rfl, ?_⟩)
    have zba126 := ba126.size
    replace ba47 := ba47.trans (ba126.mono ba47.size)
    replace ra25 := ra25.up ba126
    replace ba22 := ba22.trans (ba126.mono ba22.size)
    replace ra11 := ra11.up ba126
    replace ba8 := ba8.trans (ba126.mono ba8.size)
    replace q := q.trans (ba126.mono q.size)
    replace ra50 := ra50.up ba126
    refine LL.storeN (vs := [Value.int IntKind.i64 d, Value.slice none 0 0, Value.int IntKind.i64 ↑k, Value.bool fol, Value.bool true, Value.int IntKind.i64 270, Value.int IntKind.i64 0, strV [], Value.int IntKind.i64 0, Value.int IntKind.i64 0]) rfl rfl rfl rfl ra25 (by exact Nat.le_of_ble_eq_true rfl) (ones_of rfl) rfl rfl ?_
    intro Wa147 ra148 ba146 za149
    have hlba146 := ra25.lt
    replace ra148 : RowL Wa147 _ 33 [Value.int IntKind.i64 d, Value.slice none 0 0, Value.int IntKind.i64 ↑k, Value.bool fol, Value.bool true, Value.int IntKind.i64 270, Value.int IntKind.i64 0, strV [], Value.int IntKind.i64 0, Value.int IntKind.i64 0] := ra148
    clear ra25
    replace ba22 := ba22.grown ba146 ba22.size (by rintro k ⟨⟩; omega)
    replace ra11 := ra11.gr ba146 (by have := ra11.lt; omega)
    replace ba8 := ba8.grown ba146 ba8.size (by rintro k ⟨⟩; omega)
    replace q := q.grown ba146 q.size (by rintro k ⟨⟩; omega)
    replace ra50 := ra50.gr ba146 (by have := ra50.lt; omega)
    have ra25 := ra148
    clear ra148
    refine LL.nilS ?_
    refine CC.ret ?_
    refine EE.retC rfl rfl (lvNc (RowL.cells0 (by assumption)) (by rfl) (by rfl)) ?_
    exact ⟨_, 0, rfl, RwR.fin (270, 0, [], 0, 0) _ _ _ rfl rfl, by omega, q⟩
end Go.Proofs.YtbbddpnjglijdaaDoor
/- walk: the document's link and Give (written by genwk21.py). -/
namespace Go.Proofs.YtbbddpnjglijdaaDoor
set_option linter.unusedVariables false
set_option linter.unusedSimpArgs false
open Go.RowKit Go.Shelf
theorem LL.keep {P : Program} {ops : Array Oper} {Q : Exit → Act → World → Prop} {n : Nat} {D : List Deferred} {M : Slots} {w : World} {r : Option Nat} {l : List Oper} (L : List (Nat × Value)) (hL : Fits M L) (h : LL r P ops Q n D (sl L) l w) : LL r P ops Q n D M l w := LL.mk fun a F => h.h a (F.keep L hL)

set_option maxRecDepth 100000
set_option maxHeartbeats 8000000
/-- Ways that meet. -/
structure Later21 (A : Prop) : Prop where
  out : A
theorem meet21 {α β : Type} {A : α → β → World → Prop} {B : Prop} (F : α → β → World → Prop) (f : Later21 (∀ a b w, F a b w → A a b w) → B) (k : ∀ a b w, F a b w → A a b w) : B := f ⟨k⟩
section
variable {α : Type} {enc : α → List Value} {k : Nat} {P : Program} {ops : Array Oper} {ok : World → Prop} {n i : Nat} {D : List Deferred} {M : Slots} {w : World} {o : Oper} {K : Slots → World → Prop} {T e : TypeId} {z : Value} {bytes : Nat}
theorem SR.append0 {xs : Array Operand} {g : Nat} {vx : Value} {us : List α} (hi : ops[i]? = some o) (ho : o.op = .call { callee := .builtin .append, args := xs, argTypes := #[T, T] }) (hx : evsM M xs.toList = some [.slice (some ⟨g, 0, none⟩) 0 0, vx]) (E : Enc enc k) (I : ElT P T e z k bytes) (hrow : RowL w g e []) (hr : ReadsT enc k w vx us)
    (h63 : us.length ≤ maxLen) (hb : us.length * bytes ≤ 140737488355328) (hd : dstB n o.dst = true) (hg : wantB ops M o.guard = some true)
    (c : ∀ v' w', OwnsT enc k w' g e v' us → Below w.heap.size w w' → ok w' ∧ K (putM M o.dst v') w') : SR P ops ok i K n D M w := by
  have hown : OwnsT enc k w g e (.slice (some ⟨g, 0, none⟩) 0 0) [] := RowL.ownsT (ts := []) E hrow (Nat.le_refl _) (by simp [maxLen])
  obtain ⟨v', w', h1, h2, h3⟩ := run_append_t0 E I o.type hown hr h63 hb (Nat.le_of_lt hrow.lt)
  have h := c v' w' h2 h3
  refine SR.val (v := v') hi (R.builtin ho hx fun b => ?_) hd hg h.1 h.2
  unfold builtin
  simp only [Sem.run_bind, h1, Result.andThen_ok, Sem.run_pure]
end
def lkR (w0 g3 : Nat) (d k : Int) (fol : Bool) (l : List Bs) (W : World) : Prop := ∃ bb a n c, RowL W g3 33 [.int .i64 (d), .slice a n c, .int .i64 (k), .bool fol, .bool false, .int .i64 0, .int .i64 0, strV [], .int .i64 0, .int .i64 0] ∧ PsB W bb a n c l ∧ (bb = 0 ∨ w0 ≤ bb)
theorem lkR.up {w0 g3 : Nat} {d k : Int} {fol : Bool} {l : List Bs} {W W' : World} (h : lkR w0 g3 d k fol l W) (b : Below W.heap.size W W') : lkR w0 g3 d k fol l W' := by
  obtain ⟨bb, a, n, c, r, p, hb⟩ := h
  exact ⟨bb, a, n, c, r.up b, p.up b, hb⟩
theorem exposeS {α : Type} {enc : α → List Value} {k : Nat} {W : World} {v : Value} {ts : List α} (h : ReadsT enc k W v ts) : ∃ X0 : World, W.heap.size ≤ X0.heap.size ∧ (∀ X, Below X0.heap.size X0 X → ReadsT enc k X v ts) ∧ Below X0.heap.size X0 W := ⟨W, Nat.le_refl _, fun X b => h.up b, Below.refl _ _⟩
theorem rlink_any (d : Int) (a : Option Addr) (n c : Nat) (k : Nat) (fol : Bool) (ls : List Bs) (t : Bs) (w : World) (bb : Nat) (hv : PsB w bb a n c ls) (hl : n ≤ 50000) (ht : t.length ≤ 1048576) (hk : k ≤ 8) (h0 : 0 < w.heap.size) : Calls Tryd.prog 44 #[rwV d a n c (k : Int) fol false wdZ, strV t] w fun e w' => ∃ v b2, e = .returned v ∧ RwR (Wk.link ⟨d, ls, k, fol, none⟩ t) v w' b2 ∧ ((b2 = 0 ∨ b2 = bb ∨ w.heap.size ≤ b2) ∧ b2 < w'.heap.size) ∧ Below w.heap.size w w' := by
  have q := Below.refl w.heap.size w
  have hn := hv.len
  have hF : ∀ X, Below w.heap.size w X → PsB X bb a n c ls := fun X b => hv.up b
  have hb0 := hv.lt
  clear hv
  unfold Wk.link
  dsimp only
  by_cases h8 : 8 < k + 1
  · rw [if_pos h8]
    show Calls _ _ _ _ fun e w' => ∃ v b2, e = .returned v ∧ RwR ⟨d, [], k, fol, some (272, 0, [], 0, 0)⟩ v w' b2 ∧ ((b2 = 0 ∨ b2 = bb ∨ w.heap.size ≤ b2) ∧ b2 < w'.heap.size) ∧ Below w.heap.size w w'
    refine X.fn Tryd.func44 rfl (n := 49) rfl rfl ?_
    refine CC.seq ?_
    refine CC.region ?_
    refine LL.box [Value.int IntKind.i64 d, Value.slice a n c, Value.int IntKind.i64 ↑k, Value.bool fol, Value.bool false, Value.int IntKind.i64 0, Value.int IntKind.i64 0, strV [], Value.int IntKind.i64 0, Value.int IntKind.i64 0] rfl rfl rfl rfl rfl ?_
    intro W9 g10 eg10 r11 z12 b8
    replace q := q.trans (b8.mono q.size)
    have l21 := r11.lt
    refine LL.alloc ([Value.int IntKind.i64 0, Value.slice none 0 0, Value.int IntKind.i64 0, Value.bool false, Value.bool false, Value.int IntKind.i64 0, Value.int IntKind.i64 0, Value.string { data := { toList := [] } }, Value.int IntKind.i64 0, Value.int IntKind.i64 0]) rfl rfl rfl rfl rfl ?_
    intro W23 g24 eg24 r25 z26 b22
    replace r11 := r11.up b22
    replace b8 := b8.trans (b22.mono b8.size)
    replace q := q.trans (b22.mono q.size)
    refine LL.nilS ?_
    refine CC.seq ?_
    refine CC.seq ?_
    refine CC.region ?_
    refine LL.val (R.field rfl rfl (I.fld rfl)) rfl rfl rfl ?_
    refine LL.val (R.load rfl rfl (I.ld1 rfl (RowL.cell r11 rfl))) rfl rfl rfl ?_
    refine LL.val (R.addNc rfl rfl rfl rfl (by omega)) rfl rfl rfl ?_
    refine LL.val (R.field rfl rfl (I.fld rfl)) rfl rfl rfl ?_
    refine LL.store rfl rfl rfl rfl r11 (by exact Nat.le_of_ble_eq_true rfl) rfl rfl rfl rfl ?_
    intro W73 r74 b72 z75
    have hlb72 := r11.lt
    replace r74 : RowL W73 _ 33 [Value.int IntKind.i64 d, Value.slice a n c, Value.int IntKind.i64 ↑(k + 1), Value.bool fol, Value.bool false, Value.int IntKind.i64 0, Value.int IntKind.i64 0, strV [], Value.int IntKind.i64 0, Value.int IntKind.i64 0] := r74
    clear r11
    replace r25 := r25.gr b72 (by have := r25.lt; omega)
    replace b8 := b8.grown b72 b8.size (by rintro k ⟨⟩; omega)
    replace q := q.grown b72 q.size (by rintro k ⟨⟩; omega)
    have r11 := r74
    clear r74
    refine LL.nilS ?_
    refine CC.seq ?_
    refine CC.region ?_
    refine LL.val (R.field rfl rfl (I.fld rfl)) rfl rfl rfl ?_
    refine LL.val (R.load rfl rfl (I.ld1 rfl (RowL.cell r11 rfl))) rfl rfl rfl ?_
    refine LL.val (R.gtT rfl rfl rfl (by omega)) rfl rfl rfl ?_
    refine LL.nilS ?_
    refine CC.yes rfl ?_
    refine CC.seq ?_
    refine CC.region ?_
    refine LL.val (R.load rfl rfl (I.ldNc (vs := [Value.int IntKind.i64 d, Value.slice a n c, Value.int IntKind.i64 ↑(k + 1), Value.bool fol, Value.bool false, Value.int IntKind.i64 0, Value.int IntKind.i64 0, strV [], Value.int IntKind.i64 0, Value.int IntKind.i64 0]) (RowL.cells r11 rfl) (by rfl) (by rfl))) rfl rfl rfl ?_
    refine LL.val (R.buildV rfl rfl (v := .agg #[Value.int IntKind.i64 272, Value.int IntKind.i64 0, Value.string { data := #[] }, Value.int IntKind.i64 0, Value.int IntKind.i64 0]) (fun _ => by kernel_rfl)) rfl rfl rfl ?_
    have l125 := r25.lt
    have l126 := r11.lt
    (refine LL.call (R.call rfl rfl rfl) rfl rfl rfl (rdone_any d _ _ _ _ _ _ wdZ (272, 0, [], 0, 0) _) ?_; rintro e W124 ⟨rfl, b121⟩; refine ⟨_, rfl, ?_⟩)
    have zb121 := b121.size
    replace r25 := r25.up b121
    replace b8 := b8.trans (b121.mono b8.size)
    replace q := q.trans (b121.mono q.size)
    replace r11 := r11.up b121
    refine LL.storeN (vs := [Value.int IntKind.i64 d, Value.slice none 0 0, Value.int IntKind.i64 ↑(k + 1), Value.bool fol, Value.bool true, Value.int IntKind.i64 272, Value.int IntKind.i64 0, strV [], Value.int IntKind.i64 0, Value.int IntKind.i64 0]) rfl rfl rfl rfl r25 (by exact Nat.le_of_ble_eq_true rfl) (ones_of rfl) rfl rfl ?_
    intro W140 r141 b139 z142
    have hlb139 := r25.lt
    replace r141 : RowL W140 _ 33 [Value.int IntKind.i64 d, Value.slice none 0 0, Value.int IntKind.i64 ↑(k + 1), Value.bool fol, Value.bool true, Value.int IntKind.i64 272, Value.int IntKind.i64 0, strV [], Value.int IntKind.i64 0, Value.int IntKind.i64 0] := r141
    clear r25
    replace b8 := b8.grown b139 b8.size (by rintro k ⟨⟩; omega)
    replace q := q.grown b139 q.size (by rintro k ⟨⟩; omega)
    replace r11 := r11.gr b139 (by have := r11.lt; omega)
    have r25 := r141
    clear r141
    refine LL.nilS ?_
    refine CC.ret ?_
    refine EE.thenR ?_
    refine EE.retC rfl rfl (lvNc (RowL.cells0 (by assumption)) (by rfl) (by rfl)) ?_
    exact ⟨_, 0, rfl, RwR.fin (272, 0, [], 0, 0) _ _ _ rfl rfl, by omega, q⟩
  rw [if_neg h8]
  obtain ⟨d', hd'⟩ : ∃ d' : Int, (if t.head? = some 47 then (1 : Int) else d) = d' := ⟨_, rfl⟩
  rw [hd']
  obtain ⟨L, hL⟩ : ∃ L, lpath t = L := ⟨_, rfl⟩
  rw [hL]
  obtain ⟨S, hS⟩ : ∃ S, (if pathN L = 0 then Wk.on ⟨d', partsL L ++ ls, k + 1, fol, none⟩ else Wk.done ⟨d, ls, k, fol, none⟩ ((pathN L : Int), 0, [], 0, 0)) = S := ⟨_, rfl⟩
  rw [hS]
  apply meet21 (fun (g3 g9 : Nat) W' => Below w.heap.size w W' ∧ RowL W' g3 33 [.int .i64 (d'), .slice a n c, .int .i64 (((k + 1 : Nat) : Int)), .bool fol, .bool false, .int .i64 0, .int .i64 0, strV [], .int .i64 0, .int .i64 0] ∧ RowL W' g9 33 [.int .i64 0, .slice none 0 0, .int .i64 0, .bool false, .bool false, .int .i64 0, .int .i64 0, strV [], .int .i64 0, .int .i64 0] ∧ w.heap.size ≤ g3 ∧ g3 < g9)
  case f =>
    intro lat
    by_cases ht0 : t = []
    · have ep : [47] ++ t = L := by
        rw [← hL, ht0]
        rfl
      have ed : d' = d := by
        rw [← hd', ht0]
        rfl
      refine X.fn Tryd.func44 rfl (n := 49) rfl rfl ?_
      refine CC.seq ?_
      refine CC.region ?_
      refine LL.box [Value.int IntKind.i64 d, Value.slice a n c, Value.int IntKind.i64 ↑k, Value.bool fol, Value.bool false, Value.int IntKind.i64 0, Value.int IntKind.i64 0, strV [], Value.int IntKind.i64 0, Value.int IntKind.i64 0] rfl rfl rfl rfl rfl ?_
      intro Wa2 ga3 ega3 ra4 za5 ba1
      replace q := q.trans (ba1.mono q.size)
      have la6 := ra4.lt
      refine LL.alloc ([Value.int IntKind.i64 0, Value.slice none 0 0, Value.int IntKind.i64 0, Value.bool false, Value.bool false, Value.int IntKind.i64 0, Value.int IntKind.i64 0, Value.string { data := { toList := [] } }, Value.int IntKind.i64 0, Value.int IntKind.i64 0]) rfl rfl rfl rfl rfl ?_
      intro Wa8 ga9 ega9 ra10 za11 ba7
      replace ra4 := ra4.up ba7
      replace ba1 := ba1.trans (ba7.mono ba1.size)
      replace q := q.trans (ba7.mono q.size)
      refine LL.nilS ?_
      refine CC.seq ?_
      refine CC.seq ?_
      refine CC.region ?_
      refine LL.val (R.field rfl rfl (I.fld rfl)) rfl rfl rfl ?_
      refine LL.val (R.load rfl rfl (I.ld1 rfl (RowL.cell ra4 rfl))) rfl rfl rfl ?_
      refine LL.val (R.addNc rfl rfl rfl rfl (by omega)) rfl rfl rfl ?_
      refine LL.val (R.field rfl rfl (I.fld rfl)) rfl rfl rfl ?_
      refine LL.store rfl rfl rfl rfl ra4 (by exact Nat.le_of_ble_eq_true rfl) rfl rfl rfl rfl ?_
      intro Wa13 ra14 ba12 za15
      have hlba12 := ra4.lt
      replace ra14 : RowL Wa13 _ 33 [Value.int IntKind.i64 d, Value.slice a n c, Value.int IntKind.i64 ↑(k + 1), Value.bool fol, Value.bool false, Value.int IntKind.i64 0, Value.int IntKind.i64 0, strV [], Value.int IntKind.i64 0, Value.int IntKind.i64 0] := ra14
      clear ra4
      replace ra10 := ra10.gr ba12 (by have := ra10.lt; omega)
      replace ba1 := ba1.grown ba12 ba1.size (by rintro k ⟨⟩; omega)
      replace q := q.grown ba12 q.size (by rintro k ⟨⟩; omega)
      have ra4 := ra14
      clear ra14
      refine LL.nilS ?_
      refine CC.seq ?_
      refine CC.region ?_
      refine LL.val (R.field rfl rfl (I.fld rfl)) rfl rfl rfl ?_
      refine LL.val (R.load rfl rfl (I.ld1 rfl (RowL.cell ra4 rfl))) rfl rfl rfl ?_
      refine LL.val (R.gtF rfl rfl rfl (by omega)) rfl rfl rfl ?_
      refine LL.nilS ?_
      refine CC.no rfl ?_
      refine CC.skip ?_
      refine EE.thenN ?_
      refine CC.seq ?_
      refine CC.region ?_
      refine LL.val (R.move rfl rfl) rfl rfl rfl ?_
      refine LL.val (R.assign rfl rfl) rfl rfl rfl ?_
      refine LL.nilS ?_
      refine CC.seq ?_
      refine CC.seq ?_
      refine CC.region ?_
      refine LL.val (R.move rfl rfl) rfl rfl rfl ?_
      (refine LL.val (R.eqS (a := t) (b := []) (c := true) rfl rfl rfl (by simp [ht0])) rfl rfl rfl ?_)
      refine LL.val (R.move rfl rfl) rfl rfl rfl ?_
      refine LL.skip rfl rfl ?_
      refine LL.skip rfl rfl ?_
      refine LL.skip rfl rfl ?_
      refine LL.val (R.pick rfl rfl rfl) rfl rfl rfl ?_
      refine LL.nilS ?_
      refine CC.yes rfl ?_
      refine CC.region ?_
      refine LL.val (R.move rfl rfl) rfl rfl rfl ?_
      (refine LL.val (R.addS (a := [47]) (b := t) rfl rfl rfl (by simp only [List.length_cons, List.length_nil]; omega)) rfl rfl rfl ?_; rw [ep])
      refine LL.val (R.assign rfl rfl) rfl rfl rfl ?_
      refine LL.nilS ?_
      refine CC.seq ?_
      refine CC.region ?_
      refine LL.val (R.move rfl rfl) rfl rfl rfl ?_
      (refine LL.keep [(2, .pointer (some ⟨ga3, 0, none⟩)), (4, .pointer (some ⟨ga9, 0, none⟩)), (5, strV L), (30, strV L)] ⟨rfl, rfl, rfl, rfl, trivial⟩ ?_; exact lat.out _ _ _ ⟨q, by rw [ed]; assumption, by assumption, by omega, by omega⟩)
    · obtain ⟨x, hx0⟩ : ∃ x, t[0]? = some x := by
        cases t with
        | nil => exact absurd rfl ht0
        | cons x r => exact ⟨x, rfl⟩
      have hh : t.head? = some x := by rw [List.head?_eq_getElem?]; exact hx0
      by_cases hx : x = 47
      · have ep : L = t := by
          rw [← hL]
          unfold lpath
          rw [hh, if_pos (by rw [hx])]
        have ed : d' = 1 := by
          rw [← hd', hh, if_pos (by rw [hx])]
        refine X.fn Tryd.func44 rfl (n := 49) rfl rfl ?_
        refine CC.seq ?_
        refine CC.region ?_
        ((fail_if_success (have := hx4)); have hx4 : x.toNat = 47 := (by rw [hx]; rfl))
        refine LL.box [Value.int IntKind.i64 d, Value.slice a n c, Value.int IntKind.i64 ↑k, Value.bool fol, Value.bool false, Value.int IntKind.i64 0, Value.int IntKind.i64 0, strV [], Value.int IntKind.i64 0, Value.int IntKind.i64 0] rfl rfl rfl rfl rfl ?_
        intro Wb2 gb3 egb3 rb4 zb5 bb1
        replace q := q.trans (bb1.mono q.size)
        have lb6 := rb4.lt
        refine LL.alloc ([Value.int IntKind.i64 0, Value.slice none 0 0, Value.int IntKind.i64 0, Value.bool false, Value.bool false, Value.int IntKind.i64 0, Value.int IntKind.i64 0, Value.string { data := { toList := [] } }, Value.int IntKind.i64 0, Value.int IntKind.i64 0]) rfl rfl rfl rfl rfl ?_
        intro Wb8 gb9 egb9 rb10 zb11 bb7
        replace rb4 := rb4.up bb7
        replace bb1 := bb1.trans (bb7.mono bb1.size)
        replace q := q.trans (bb7.mono q.size)
        refine LL.nilS ?_
        refine CC.seq ?_
        refine CC.seq ?_
        refine CC.region ?_
        refine LL.val (R.field rfl rfl (I.fld rfl)) rfl rfl rfl ?_
        refine LL.val (R.load rfl rfl (I.ld1 rfl (RowL.cell rb4 rfl))) rfl rfl rfl ?_
        refine LL.val (R.addNc rfl rfl rfl rfl (by omega)) rfl rfl rfl ?_
        refine LL.val (R.field rfl rfl (I.fld rfl)) rfl rfl rfl ?_
        refine LL.store rfl rfl rfl rfl rb4 (by exact Nat.le_of_ble_eq_true rfl) rfl rfl rfl rfl ?_
        intro Wb13 rb14 bb12 zb15
        have hlbb12 := rb4.lt
        replace rb14 : RowL Wb13 _ 33 [Value.int IntKind.i64 d, Value.slice a n c, Value.int IntKind.i64 ↑(k + 1), Value.bool fol, Value.bool false, Value.int IntKind.i64 0, Value.int IntKind.i64 0, strV [], Value.int IntKind.i64 0, Value.int IntKind.i64 0] := rb14
        clear rb4
        replace rb10 := rb10.gr bb12 (by have := rb10.lt; omega)
        replace bb1 := bb1.grown bb12 bb1.size (by rintro k ⟨⟩; omega)
        replace q := q.grown bb12 q.size (by rintro k ⟨⟩; omega)
        have rb4 := rb14
        clear rb14
        refine LL.nilS ?_
        refine CC.seq ?_
        refine CC.region ?_
        refine LL.val (R.field rfl rfl (I.fld rfl)) rfl rfl rfl ?_
        refine LL.val (R.load rfl rfl (I.ld1 rfl (RowL.cell rb4 rfl))) rfl rfl rfl ?_
        refine LL.val (R.gtF rfl rfl rfl (by omega)) rfl rfl rfl ?_
        refine LL.nilS ?_
        refine CC.no rfl ?_
        refine CC.skip ?_
        refine EE.thenN ?_
        refine CC.seq ?_
        refine CC.region ?_
        refine LL.val (R.move rfl rfl) rfl rfl rfl ?_
        refine LL.val (R.assign rfl rfl) rfl rfl rfl ?_
        refine LL.nilS ?_
        refine CC.seq ?_
        refine CC.seq ?_
        refine CC.region ?_
        refine LL.val (R.move rfl rfl) rfl rfl rfl ?_
        (refine LL.val (R.eqS (a := t) (b := []) (c := false) rfl rfl rfl (by simp [ht0])) rfl rfl rfl ?_)
        refine LL.val (R.move rfl rfl) rfl rfl rfl ?_
        refine LL.val (R.move rfl rfl) rfl rfl rfl ?_
        (refine LL.val (R.ixS (a := t) (i := 0) rfl rfl rfl rfl hx0) rfl rfl rfl ?_)
        refine LL.val (R.neF rfl rfl rfl (by omega)) rfl rfl rfl ?_
        refine LL.val (R.pick rfl rfl rfl) rfl rfl rfl ?_
        refine LL.nilS ?_
        refine CC.no rfl ?_
        refine CC.region ?_
        refine LL.val (R.field rfl rfl (I.fld rfl)) rfl rfl rfl ?_
        refine LL.store rfl rfl rfl rfl rb4 (by exact Nat.le_of_ble_eq_true rfl) rfl rfl rfl rfl ?_
        intro Wb17 rb18 bb16 zb19
        have hlbb16 := rb4.lt
        replace rb18 : RowL Wb17 _ 33 [Value.int IntKind.i64 1, Value.slice a n c, Value.int IntKind.i64 ↑(k + 1), Value.bool fol, Value.bool false, Value.int IntKind.i64 0, Value.int IntKind.i64 0, strV [], Value.int IntKind.i64 0, Value.int IntKind.i64 0] := rb18
        clear rb4
        replace rb10 := rb10.gr bb16 (by have := rb10.lt; omega)
        replace bb1 := bb1.grown bb16 bb1.size (by rintro k ⟨⟩; omega)
        replace q := q.grown bb16 q.size (by rintro k ⟨⟩; omega)
        have rb4 := rb18
        clear rb18
        refine LL.nilS ?_
        refine CC.seq ?_
        refine CC.region ?_
        refine LL.val (R.move rfl rfl) rfl rfl rfl ?_
        (refine LL.keep [(2, .pointer (some ⟨gb3, 0, none⟩)), (4, .pointer (some ⟨gb9, 0, none⟩)), (5, strV L), (30, strV L)] ⟨rfl, rfl, by rw [ep]; rfl, by rw [ep]; rfl, trivial⟩ ?_; exact lat.out _ _ _ ⟨q, by rw [ed]; assumption, by assumption, by omega, by omega⟩)
      · have ep : [47] ++ t = L := by
          rw [← hL]
          unfold lpath
          rw [hh, if_neg (by intro e; exact hx (Option.some.inj e))]
          rfl
        have ed : d' = d := by
          rw [← hd', hh, if_neg (by intro e; exact hx (Option.some.inj e))]
        have hx4 : x.toNat ≠ 47 := fun e => hx (UInt8.toNat_inj.1 e)
        refine X.fn Tryd.func44 rfl (n := 49) rfl rfl ?_
        refine CC.seq ?_
        refine CC.region ?_
        refine LL.box [Value.int IntKind.i64 d, Value.slice a n c, Value.int IntKind.i64 ↑k, Value.bool fol, Value.bool false, Value.int IntKind.i64 0, Value.int IntKind.i64 0, strV [], Value.int IntKind.i64 0, Value.int IntKind.i64 0] rfl rfl rfl rfl rfl ?_
        intro Wc2 gc3 egc3 rc4 zc5 bc1
        replace q := q.trans (bc1.mono q.size)
        have lc6 := rc4.lt
        refine LL.alloc ([Value.int IntKind.i64 0, Value.slice none 0 0, Value.int IntKind.i64 0, Value.bool false, Value.bool false, Value.int IntKind.i64 0, Value.int IntKind.i64 0, Value.string { data := { toList := [] } }, Value.int IntKind.i64 0, Value.int IntKind.i64 0]) rfl rfl rfl rfl rfl ?_
        intro Wc8 gc9 egc9 rc10 zc11 bc7
        replace rc4 := rc4.up bc7
        replace bc1 := bc1.trans (bc7.mono bc1.size)
        replace q := q.trans (bc7.mono q.size)
        refine LL.nilS ?_
        refine CC.seq ?_
        refine CC.seq ?_
        refine CC.region ?_
        refine LL.val (R.field rfl rfl (I.fld rfl)) rfl rfl rfl ?_
        refine LL.val (R.load rfl rfl (I.ld1 rfl (RowL.cell rc4 rfl))) rfl rfl rfl ?_
        refine LL.val (R.addNc rfl rfl rfl rfl (by omega)) rfl rfl rfl ?_
        refine LL.val (R.field rfl rfl (I.fld rfl)) rfl rfl rfl ?_
        refine LL.store rfl rfl rfl rfl rc4 (by exact Nat.le_of_ble_eq_true rfl) rfl rfl rfl rfl ?_
        intro Wc13 rc14 bc12 zc15
        have hlbc12 := rc4.lt
        replace rc14 : RowL Wc13 _ 33 [Value.int IntKind.i64 d, Value.slice a n c, Value.int IntKind.i64 ↑(k + 1), Value.bool fol, Value.bool false, Value.int IntKind.i64 0, Value.int IntKind.i64 0, strV [], Value.int IntKind.i64 0, Value.int IntKind.i64 0] := rc14
        clear rc4
        replace rc10 := rc10.gr bc12 (by have := rc10.lt; omega)
        replace bc1 := bc1.grown bc12 bc1.size (by rintro k ⟨⟩; omega)
        replace q := q.grown bc12 q.size (by rintro k ⟨⟩; omega)
        have rc4 := rc14
        clear rc14
        refine LL.nilS ?_
        refine CC.seq ?_
        refine CC.region ?_
        refine LL.val (R.field rfl rfl (I.fld rfl)) rfl rfl rfl ?_
        refine LL.val (R.load rfl rfl (I.ld1 rfl (RowL.cell rc4 rfl))) rfl rfl rfl ?_
        refine LL.val (R.gtF rfl rfl rfl (by omega)) rfl rfl rfl ?_
        refine LL.nilS ?_
        refine CC.no rfl ?_
        refine CC.skip ?_
        refine EE.thenN ?_
        refine CC.seq ?_
        refine CC.region ?_
        refine LL.val (R.move rfl rfl) rfl rfl rfl ?_
        refine LL.val (R.assign rfl rfl) rfl rfl rfl ?_
        refine LL.nilS ?_
        refine CC.seq ?_
        refine CC.seq ?_
        refine CC.region ?_
        refine LL.val (R.move rfl rfl) rfl rfl rfl ?_
        (refine LL.val (R.eqS (a := t) (b := []) (c := false) rfl rfl rfl (by simp [ht0])) rfl rfl rfl ?_)
        refine LL.val (R.move rfl rfl) rfl rfl rfl ?_
        refine LL.val (R.move rfl rfl) rfl rfl rfl ?_
        (refine LL.val (R.ixS (a := t) (i := 0) rfl rfl rfl rfl hx0) rfl rfl rfl ?_)
        refine LL.val (R.neT rfl rfl rfl (by omega)) rfl rfl rfl ?_
        refine LL.val (R.pick rfl rfl rfl) rfl rfl rfl ?_
        refine LL.nilS ?_
        refine CC.yes rfl ?_
        refine CC.region ?_
        refine LL.val (R.move rfl rfl) rfl rfl rfl ?_
        (refine LL.val (R.addS (a := [47]) (b := t) rfl rfl rfl (by simp only [List.length_cons, List.length_nil]; omega)) rfl rfl rfl ?_; rw [ep])
        refine LL.val (R.assign rfl rfl) rfl rfl rfl ?_
        refine LL.nilS ?_
        refine CC.seq ?_
        refine CC.region ?_
        refine LL.val (R.move rfl rfl) rfl rfl rfl ?_
        (refine LL.keep [(2, .pointer (some ⟨gc3, 0, none⟩)), (4, .pointer (some ⟨gc9, 0, none⟩)), (5, strV L), (30, strV L)] ⟨rfl, rfl, rfl, rfl, trivial⟩ ?_; exact lat.out _ _ _ ⟨q, by rw [ed]; assumption, by assumption, by omega, by omega⟩)
  case k =>
    rintro g3 g9 W ⟨q, r3, r9, hg3, hg9⟩
    have hLl : L.length ≤ 1048577 := by
      rw [← hL]
      unfold lpath
      split
      · omega
      · simp only [List.length_cons]
        omega
    have hp := fun W => rparts_any L W (by omega)
    have yq := q.size
    clear hL ht
    by_cases hz : pathN L = 0
    · rw [if_pos hz] at hS
      rw [hz, if_pos rfl] at hp
      have hpl := partsL_len0 hz
      obtain ⟨ps, eps⟩ : ∃ ps, partsL L = ps := ⟨_, rfl⟩
      rw [eps] at hp hpl hS
      obtain ⟨N, hN⟩ : ∃ N, ps.length = N := ⟨_, rfl⟩
      have hNn : (ps ++ ls).length = N + n := by rw [List.length_append]; omega
      clear hd'
      have ld5 := r3.lt
      have ld6 := r9.lt
      (refine LL.call (R.call rfl rfl rfl) rfl rfl rfl (hp _) ?_; rintro e Wd4 ⟨vp, rfl, op, bd1⟩; refine ⟨_, rfl, ?_⟩; obtain ⟨ap, cp, rfl, hcp⟩ := (op.reads stEnc).form hN; obtain ⟨X1, hzX1, hpF, q1⟩ := exposeS (op.reads stEnc); have zX1 := q1.size; clear op)
      have zbd1 := bd1.size
      replace q := q.trans (bd1.mono q.size)
      replace r3 := r3.up bd1
      replace r9 := r9.up bd1
      refine LL.val (R.move rfl rfl) rfl rfl rfl ?_
      refine LL.val (R.extract rfl rfl rfl) rfl rfl rfl ?_
      refine LL.val (R.extract rfl rfl rfl) rfl rfl rfl ?_
      refine LL.val (R.assign rfl rfl) rfl rfl rfl ?_
      refine LL.val (R.assign rfl rfl) rfl rfl rfl ?_
      refine LL.nilS ?_
      refine CC.seq ?_
      refine CC.seq ?_
      refine CC.region ?_
      refine LL.val (R.move rfl rfl) rfl rfl rfl ?_
      refine LL.val (R.neF rfl rfl rfl (by omega)) rfl rfl rfl ?_
      refine LL.nilS ?_
      refine CC.no rfl ?_
      refine CC.skip ?_
      refine EE.thenN ?_
      refine CC.seq ?_
      refine CC.join (fun l_ Wd392 => l_ = [(2, Value.pointer (some { block := g3, off := 0 })), (4, Value.pointer (some { block := g9, off := 0 })), (5, Value.string { data := List.toArray L }), (30, Value.string { data := List.toArray L }), (31, Value.tuple #[Value.slice ap N cp, Value.int IntKind.i64 ↑0]), (29, Value.tuple #[Value.slice ap N cp, Value.int IntKind.i64 ↑0]), (32, Value.slice ap N cp), (33, Value.int IntKind.i64 ↑0), (7, Value.int IntKind.i64 ↑0), (34, Value.int IntKind.i64 ↑0), (35, Value.bool false)] ∧ (lkR W.heap.size g3 d' (↑(k + 1)) fol (ps ++ ls) Wd392) ∧ (Below w.heap.size w Wd392) ∧ (RowL Wd392 g9 33 [Value.int IntKind.i64 0, Value.slice none 0 0, Value.int IntKind.i64 0, Value.bool false, Value.bool false, Value.int IntKind.i64 0, Value.int IntKind.i64 0, strV [], Value.int IntKind.i64 0, Value.int IntKind.i64 0]) ∧ (Wd4.heap.size ≤ Wd392.heap.size)) (fun Jd397 => ?_) ?restJd397
      case' restJd397 =>
        clear q
        clear r9
        rintro _ Wd392 ⟨rfl, hj, q, r9, zd396⟩
      refine EE.thenN ?_
      refine CC.seq ?_
      refine CC.region ?_
      ((fail_if_success (have := hok)); obtain ⟨b2, a2, n2, c2, r3, hp2, hbb2⟩ := hj; have lb2 := hp2.lt; have hn2 := hp2.len; rw [hNn] at hn2)
      refine LL.val (R.load rfl rfl (I.ldNc (vs := [Value.int IntKind.i64 d', Value.slice a2 n2 c2, Value.int IntKind.i64 ↑(k + 1), Value.bool fol, Value.bool false, Value.int IntKind.i64 0, Value.int IntKind.i64 0, strV [], Value.int IntKind.i64 0, Value.int IntKind.i64 0]) (RowL.cells r3 rfl) (by rfl) (by rfl))) rfl rfl rfl ?_
      have ld484 := r9.lt
      have ld485 := r3.lt
      (refine LL.call (R.call rfl rfl rfl) rfl rfl rfl (ron_any d' _ _ _ (k + 1) fol (ps ++ ls) _ b2 hp2 (by omega) (by omega)) ?_; rintro e Wd483 ⟨vo, bo1, rfl, ho1, hbo1, bd480⟩; refine ⟨_, rfl, ?_⟩; obtain ⟨d1, a1, n1, c1, k1, f1, dn1, x1, rfl⟩ := ho1.form)
      have zbd480 := bd480.size
      replace q := q.trans (bd480.mono q.size)
      replace r9 := r9.up bd480
      replace r3 := r3.up bd480
      replace hp2 := hp2.up bd480
      refine LL.storeN (vs := [Value.int IntKind.i64 d1, Value.slice a1 n1 c1, Value.int IntKind.i64 k1, Value.bool f1, Value.bool dn1, Value.int IntKind.i64 x1.1, Value.int IntKind.i64 x1.2.1, strV x1.2.2.1, Value.int IntKind.i64 x1.2.2.2.1, Value.int IntKind.i64 x1.2.2.2.2]) rfl rfl rfl rfl r9 (by exact Nat.le_of_ble_eq_true rfl) (ones_of rfl) rfl rfl ?_
      intro Wd524 rd525 bd523 zd526
      have hlbd523 := r9.lt
      replace rd525 : RowL Wd524 _ 33 [Value.int IntKind.i64 d1, Value.slice a1 n1 c1, Value.int IntKind.i64 k1, Value.bool f1, Value.bool dn1, Value.int IntKind.i64 x1.1, Value.int IntKind.i64 x1.2.1, strV x1.2.2.1, Value.int IntKind.i64 x1.2.2.2.1, Value.int IntKind.i64 x1.2.2.2.2] := rd525
      clear r9
      replace ho1 := ho1.gr bd523 (by omega)
      replace q := q.grown bd523 q.size (by rintro k ⟨⟩; omega)
      replace r3 := r3.gr bd523 (by have := r3.lt; omega)
      replace hp2 := hp2.gr bd523 (by have := hp2.lt; omega)
      have r9 := rd525
      clear rd525
      refine LL.nilS ?_
      refine CC.ret ?_
      refine EE.retC rfl rfl (lvNc (RowL.cells0 (by assumption)) (by rfl) (by rfl)) ?_
      exact ⟨_, bo1, rfl, (by rw [← hS]; exact ho1), by omega, q⟩
      refine CC.freeZ (fun W_ j => j < W_.heap.size ∧ (j ≠ g3)) (by kernel_rfl) (by kernel_rfl) (fun Wd528 bd527 zd529 => ?_)
      replace bd1 := bd1.trans (bd527.mono bd1.size)
      replace q1 := q1.trans (bd527.mono q1.size)
      replace q := q.trans (bd527.mono q.size)
      replace r3 := r3.up bd527
      replace r9 := r9.up bd527
      have hok : Kept (fun j => j < Wd528.heap.size ∧ (j ≠ g3)) Wd528 Wd528 := Kept.refl _ _
      have fzr9 := fzRow (K := fun j => j < Wd528.heap.size ∧ (j ≠ g3)) r9 ⟨r9.lt, (by first | trivial | omega)⟩
      refine AA.pure 1 rfl hok (by kernel_rfl) (fun w' b' => R.move rfl rfl) rfl rfl ?_
      refine AA.pure 3 rfl hok (by kernel_rfl) (fun w' b' => R.field rfl rfl (I.fld rfl)) rfl rfl ?_
      refine AA.two 0 4 (by kernel_rfl) ?_ ?_
      have ld564 := r3.lt
      have ld565 := r9.lt
      refine ZR.lit (e := 9) [] 0 rfl rfl rfl (fun _ => by kernel_rfl) rfl rfl ?_
      intro Wd567 gd568 egd568 rd569 zd570 bd566
      replace bd527 := bd527.trans (bd566.mono bd527.size)
      replace bd1 := bd1.trans (bd566.mono bd1.size)
      replace q1 := q1.trans (bd566.mono q1.size)
      replace q := q.trans (bd566.mono q.size)
      replace r3 := r3.up bd566
      replace r9 := r9.up bd566
      replace hok := hok.trans (bkept bd566 (fun j h => by have := h.1; have := hok.size; omega))
      have yd571 := hok.size
      refine ⟨hok, ?_⟩
      refine AA.two 2 4 (by kernel_rfl) ?_ ?_
      have ld586 := rd569.lt
      have ld587 := r3.lt
      have ld588 := r9.lt
      (refine SR.append0 rfl rfl rfl stEnc ElS (by assumption) (hpF _ q1) (by simp only [maxLen]; omega) (by omega) rfl rfl ?_; intro v' Wd585 o1 bd582; obtain ⟨a1, c1, rfl, hc1⟩ := (o1.reads stEnc).form hN)
      have zbd582 := bd582.size
      replace rd569 := rd569.up bd582
      replace bd566 := bd566.trans (bd582.mono bd566.size)
      replace bd527 := bd527.trans (bd582.mono bd527.size)
      replace bd1 := bd1.trans (bd582.mono bd1.size)
      replace q1 := q1.trans (bd582.mono q1.size)
      replace q := q.trans (bd582.mono q.size)
      replace r3 := r3.up bd582
      replace r9 := r9.up bd582
      replace hok := hok.trans (bkept bd582 (fun j h => by have := h.1; have := hok.size; omega))
      have yd592 := hok.size
      refine ⟨hok, ?_⟩
      refine AA.one 4 (by kernel_rfl) ?_
      refine SR.val rfl (R.load rfl rfl (I.ld1 rfl (RowL.cell r3 rfl))) rfl rfl hok ?_
      refine AA.one 5 (by kernel_rfl) ?_
      (refine SR.appendT2 rfl rfl rfl stEnc ElS o1 (us := ls) (hF _ q).r (by simp only [maxLen]; omega) (by omega) (by omega) rfl rfl ?_; intro v' Wz o2 gra hva; replace q := q.grown gra q.size (fun j e => by have := own_ge o1 j e; omega); replace q1 := q1.grown gra q1.size (fun j e => by have := own_ge o1 j e; omega); replace r3 := r3.grO gra (own_ne o1 (by omega)); replace r9 := r9.grO gra (own_ne o1 (by omega)); replace hok := hok.trans (grown_kept gra (fun j h => by have := h.1; have := hok.size; omega) (fun j h e => by have := own_ge o1 j e; have := h.1; omega)); have gsz := gra.size; obtain ⟨a2, c2, rfl, hc2⟩ := (o2.reads stEnc).form hNn; clear o1 gra hva; refine ⟨hok, ?_⟩)
      refine AA.pure 6 rfl hok (by kernel_rfl) (fun w' b' => R.field rfl rfl (I.fld rfl)) rfl rfl ?_
      refine AA.one 7 (by kernel_rfl) ?_
      (refine ZR.store rfl rfl rfl rfl rfl r3 (by exact Nat.le_of_ble_eq_true rfl) rfl rfl rfl rfl ?_; intro Wd671 r5 grd669 zz9; obtain ⟨bb2, hp2, hb2⟩ := PsB.own (o2.grown grd669 (own_ne o2 (by omega))) (by have := grd669.size; have := q.size; omega); have hj : lkR W.heap.size g3 d' ((k + 1 : Nat) : Int) fol (ps ++ ls) Wd671 := ⟨_, _, _, _, r5, hp2, by omega⟩; clear r5 r3 o2 hp2 hb2 bb2)
      have zgrd669 := grd669.size
      replace q := q.grown grd669 q.size (by rintro k ⟨⟩; omega)
      replace r9 := r9.gr grd669 (by have := r9.lt; omega)
      replace hok := hok.trans (grown_kept grd669 (fun j h => by have := h.1; have := hok.size; omega) (fun j h e => by cases e; have h2 := h.1; have h3 := h.2; omega))
      refine ⟨hok, ?_⟩
      refine AA.done rfl ?_
      clear fzr9 hok
      exact EE.weak (Jd397 _ _ ⟨rfl, (by first | assumption | omega), (by first | assumption | omega), (by first | assumption | omega), (by first | assumption | omega)⟩) ⟨rfl, rfl, rfl, rfl, rfl, rfl, rfl, rfl, rfl, rfl, rfl, trivial⟩
      refine SR.val rfl (R.load rfl rfl (I.ld1 rfl (RowL.cell r3 rfl))) rfl rfl hok ?_
      refine AA.one 2 (by kernel_rfl) ?_
      have ld726 := rd569.lt
      have ld727 := r3.lt
      have ld728 := r9.lt
      (refine SR.append0 rfl rfl rfl stEnc ElS (by assumption) (hpF _ q1) (by simp only [maxLen]; omega) (by omega) rfl rfl ?_; intro v' Wd725 o1 bd722; obtain ⟨a1, c1, rfl, hc1⟩ := (o1.reads stEnc).form hN)
      have zbd722 := bd722.size
      replace rd569 := rd569.up bd722
      replace bd566 := bd566.trans (bd722.mono bd566.size)
      replace bd527 := bd527.trans (bd722.mono bd527.size)
      replace bd1 := bd1.trans (bd722.mono bd1.size)
      replace q1 := q1.trans (bd722.mono q1.size)
      replace q := q.trans (bd722.mono q.size)
      replace r3 := r3.up bd722
      replace r9 := r9.up bd722
      replace hok := hok.trans (bkept bd722 (fun j h => by have := h.1; have := hok.size; omega))
      have yd732 := hok.size
      refine ⟨hok, ?_⟩
      refine AA.one 5 (by kernel_rfl) ?_
      (refine SR.appendT2 rfl rfl rfl stEnc ElS o1 (us := ls) (hF _ q).r (by simp only [maxLen]; omega) (by omega) (by omega) rfl rfl ?_; intro v' Wz o2 gra hva; replace q := q.grown gra q.size (fun j e => by have := own_ge o1 j e; omega); replace q1 := q1.grown gra q1.size (fun j e => by have := own_ge o1 j e; omega); replace r3 := r3.grO gra (own_ne o1 (by omega)); replace r9 := r9.grO gra (own_ne o1 (by omega)); replace hok := hok.trans (grown_kept gra (fun j h => by have := h.1; have := hok.size; omega) (fun j h e => by have := own_ge o1 j e; have := h.1; omega)); have gsz := gra.size; obtain ⟨a2, c2, rfl, hc2⟩ := (o2.reads stEnc).form hNn; clear o1 gra hva; refine ⟨hok, ?_⟩)
      refine AA.pure 6 rfl hok (by kernel_rfl) (fun w' b' => R.field rfl rfl (I.fld rfl)) rfl rfl ?_
      refine AA.one 7 (by kernel_rfl) ?_
      (refine ZR.store rfl rfl rfl rfl rfl r3 (by exact Nat.le_of_ble_eq_true rfl) rfl rfl rfl rfl ?_; intro Wd774 r5 grd772 zz9; obtain ⟨bb2, hp2, hb2⟩ := PsB.own (o2.grown grd772 (own_ne o2 (by omega))) (by have := grd772.size; have := q.size; omega); have hj : lkR W.heap.size g3 d' ((k + 1 : Nat) : Int) fol (ps ++ ls) Wd774 := ⟨_, _, _, _, r5, hp2, by omega⟩; clear r5 r3 o2 hp2 hb2 bb2)
      have zgrd772 := grd772.size
      replace q := q.grown grd772 q.size (by rintro k ⟨⟩; omega)
      replace r9 := r9.gr grd772 (by have := r9.lt; omega)
      replace hok := hok.trans (grown_kept grd772 (fun j h => by have := h.1; have := hok.size; omega) (fun j h e => by cases e; have h2 := h.1; have h3 := h.2; omega))
      refine ⟨hok, ?_⟩
      refine AA.done rfl ?_
      clear fzr9 hok
      exact EE.weak (Jd397 _ _ ⟨rfl, (by first | assumption | omega), (by first | assumption | omega), (by first | assumption | omega), (by first | assumption | omega)⟩) ⟨rfl, rfl, rfl, rfl, rfl, rfl, rfl, rfl, rfl, rfl, rfl, trivial⟩
      refine SR.val rfl (R.load rfl rfl (I.ld1 rfl (RowL.cell r3 rfl))) rfl rfl hok ?_
      refine AA.one 0 (by kernel_rfl) ?_
      have ld846 := r3.lt
      have ld847 := r9.lt
      refine ZR.lit (e := 9) [] 0 rfl rfl rfl (fun _ => by kernel_rfl) rfl rfl ?_
      intro Wd849 gd850 egd850 rd851 zd852 bd848
      replace bd527 := bd527.trans (bd848.mono bd527.size)
      replace bd1 := bd1.trans (bd848.mono bd1.size)
      replace q1 := q1.trans (bd848.mono q1.size)
      replace q := q.trans (bd848.mono q.size)
      replace r3 := r3.up bd848
      replace r9 := r9.up bd848
      replace hok := hok.trans (bkept bd848 (fun j h => by have := h.1; have := hok.size; omega))
      have yd853 := hok.size
      refine ⟨hok, ?_⟩
      refine AA.one 2 (by kernel_rfl) ?_
      have ld868 := rd851.lt
      have ld869 := r3.lt
      have ld870 := r9.lt
      (refine SR.append0 rfl rfl rfl stEnc ElS (by assumption) (hpF _ q1) (by simp only [maxLen]; omega) (by omega) rfl rfl ?_; intro v' Wd867 o1 bd864; obtain ⟨a1, c1, rfl, hc1⟩ := (o1.reads stEnc).form hN)
      have zbd864 := bd864.size
      replace rd851 := rd851.up bd864
      replace bd848 := bd848.trans (bd864.mono bd848.size)
      replace bd527 := bd527.trans (bd864.mono bd527.size)
      replace bd1 := bd1.trans (bd864.mono bd1.size)
      replace q1 := q1.trans (bd864.mono q1.size)
      replace q := q.trans (bd864.mono q.size)
      replace r3 := r3.up bd864
      replace r9 := r9.up bd864
      replace hok := hok.trans (bkept bd864 (fun j h => by have := h.1; have := hok.size; omega))
      have yd874 := hok.size
      refine ⟨hok, ?_⟩
      refine AA.one 5 (by kernel_rfl) ?_
      (refine SR.appendT2 rfl rfl rfl stEnc ElS o1 (us := ls) (hF _ q).r (by simp only [maxLen]; omega) (by omega) (by omega) rfl rfl ?_; intro v' Wz o2 gra hva; replace q := q.grown gra q.size (fun j e => by have := own_ge o1 j e; omega); replace q1 := q1.grown gra q1.size (fun j e => by have := own_ge o1 j e; omega); replace r3 := r3.grO gra (own_ne o1 (by omega)); replace r9 := r9.grO gra (own_ne o1 (by omega)); replace hok := hok.trans (grown_kept gra (fun j h => by have := h.1; have := hok.size; omega) (fun j h e => by have := own_ge o1 j e; have := h.1; omega)); have gsz := gra.size; obtain ⟨a2, c2, rfl, hc2⟩ := (o2.reads stEnc).form hNn; clear o1 gra hva; refine ⟨hok, ?_⟩)
      refine AA.pure 6 rfl hok (by kernel_rfl) (fun w' b' => R.field rfl rfl (I.fld rfl)) rfl rfl ?_
      refine AA.one 7 (by kernel_rfl) ?_
      (refine ZR.store rfl rfl rfl rfl rfl r3 (by exact Nat.le_of_ble_eq_true rfl) rfl rfl rfl rfl ?_; intro Wd916 r5 grd914 zz9; obtain ⟨bb2, hp2, hb2⟩ := PsB.own (o2.grown grd914 (own_ne o2 (by omega))) (by have := grd914.size; have := q.size; omega); have hj : lkR W.heap.size g3 d' ((k + 1 : Nat) : Int) fol (ps ++ ls) Wd916 := ⟨_, _, _, _, r5, hp2, by omega⟩; clear r5 r3 o2 hp2 hb2 bb2)
      have zgrd914 := grd914.size
      replace q := q.grown grd914 q.size (by rintro k ⟨⟩; omega)
      replace r9 := r9.gr grd914 (by have := r9.lt; omega)
      replace hok := hok.trans (grown_kept grd914 (fun j h => by have := h.1; have := hok.size; omega) (fun j h e => by cases e; have h2 := h.1; have h3 := h.2; omega))
      refine ⟨hok, ?_⟩
      refine AA.done rfl ?_
      clear fzr9 hok
      exact EE.weak (Jd397 _ _ ⟨rfl, (by first | assumption | omega), (by first | assumption | omega), (by first | assumption | omega), (by first | assumption | omega)⟩) ⟨rfl, rfl, rfl, rfl, rfl, rfl, rfl, rfl, rfl, rfl, rfl, trivial⟩
    · rw [if_neg hz] at hS
      rw [if_neg hz] at hp
      obtain ⟨e0, he0⟩ : ∃ e0, pathN L = e0 := ⟨_, rfl⟩
      have hz' : (e0 : Int) ≠ 0 := by rw [← he0]; omega
      rw [he0] at hp hS
      have le5 := r3.lt
      have le6 := r9.lt
      (refine LL.call (R.call rfl rfl rfl) rfl rfl rfl (hp _) ?_; rintro e We4 ⟨vp, rfl, op, be1⟩; refine ⟨_, rfl, ?_⟩; obtain ⟨ap, cp, rfl, hcp⟩ := (op.reads stEnc).form rfl; clear op)
      have zbe1 := be1.size
      replace q := q.trans (be1.mono q.size)
      replace r3 := r3.up be1
      replace r9 := r9.up be1
      refine LL.val (R.move rfl rfl) rfl rfl rfl ?_
      refine LL.val (R.extract rfl rfl rfl) rfl rfl rfl ?_
      refine LL.val (R.extract rfl rfl rfl) rfl rfl rfl ?_
      refine LL.val (R.assign rfl rfl) rfl rfl rfl ?_
      refine LL.val (R.assign rfl rfl) rfl rfl rfl ?_
      refine LL.nilS ?_
      refine CC.seq ?_
      refine CC.seq ?_
      refine CC.region ?_
      refine LL.val (R.move rfl rfl) rfl rfl rfl ?_
      refine LL.val (R.neT rfl rfl rfl (by omega)) rfl rfl rfl ?_
      refine LL.nilS ?_
      refine CC.yes rfl ?_
      refine CC.seq ?_
      refine CC.region ?_
      refine LL.val (R.load rfl rfl (I.ldNc (vs := [Value.int IntKind.i64 d', Value.slice a n c, Value.int IntKind.i64 ↑(k + 1), Value.bool fol, Value.bool false, Value.int IntKind.i64 0, Value.int IntKind.i64 0, strV [], Value.int IntKind.i64 0, Value.int IntKind.i64 0]) (RowL.cells r3 rfl) (by rfl) (by rfl))) rfl rfl rfl ?_
      refine LL.val (R.move rfl rfl) rfl rfl rfl ?_
      refine LL.val (R.buildV rfl rfl (v := .agg #[Value.int IntKind.i64 ↑e0, Value.int IntKind.i64 0, Value.string { data := #[] }, Value.int IntKind.i64 0, Value.int IntKind.i64 0]) (fun _ => by kernel_rfl)) rfl rfl rfl ?_
      have le203 := r3.lt
      have le204 := r9.lt
      (refine LL.call (R.call rfl rfl rfl) rfl rfl rfl (rdone_any d' _ _ _ _ _ _ wdZ (e0, 0, [], 0, 0) _) ?_; rintro e We202 ⟨rfl, be199⟩; refine ⟨_, rfl, ?_⟩)
      have zbe199 := be199.size
      replace be1 := be1.trans (be199.mono be1.size)
      replace q := q.trans (be199.mono q.size)
      replace r3 := r3.up be199
      replace r9 := r9.up be199
      refine LL.storeN (vs := [Value.int IntKind.i64 d', Value.slice none 0 0, Value.int IntKind.i64 ↑(k + 1), Value.bool fol, Value.bool true, Value.int IntKind.i64 ↑e0, Value.int IntKind.i64 0, strV [], Value.int IntKind.i64 0, Value.int IntKind.i64 0]) rfl rfl rfl rfl r9 (by exact Nat.le_of_ble_eq_true rfl) (ones_of rfl) rfl rfl ?_
      intro We227 re228 be226 ze229
      have hlbe226 := r9.lt
      replace re228 : RowL We227 _ 33 [Value.int IntKind.i64 d', Value.slice none 0 0, Value.int IntKind.i64 ↑(k + 1), Value.bool fol, Value.bool true, Value.int IntKind.i64 ↑e0, Value.int IntKind.i64 0, strV [], Value.int IntKind.i64 0, Value.int IntKind.i64 0] := re228
      clear r9
      replace q := q.grown be226 q.size (by rintro k ⟨⟩; omega)
      replace r3 := r3.gr be226 (by have := r3.lt; omega)
      have r9 := re228
      clear re228
      refine LL.nilS ?_
      refine CC.ret ?_
      refine EE.thenR ?_
      refine EE.retC rfl rfl (lvNc (RowL.cells0 (by assumption)) (by rfl) (by rfl)) ?_
      exact ⟨_, 0, rfl, (by rw [← hS]; exact RwR.fin (e0, 0, [], 0, 0) _ _ _ rfl rfl), by omega, q⟩
end Go.Proofs.YtbbddpnjglijdaaDoor
/- walk: Copy, same (written by genwk26.py). -/
namespace Go.Proofs.YtbbddpnjglijdaaDoor
set_option linter.unusedVariables false
set_option linter.unusedSimpArgs false
open Go.RowKit Go.Shelf
set_option maxRecDepth 100000
set_option maxHeartbeats 8000000
theorem PsB.kept {w w' : World} {bb r n c : Nat} {a : Option Addr} {l : List Bs} (h : PsB w bb a n c l) (hk : Kept (fun j => j < w.heap.size ∧ j ≠ r) w w') (e : r = r ∧ r ≠ bb) : PsB w' bb a n c l := by
  obtain ⟨⟨a', cap, e1, hc, h1⟩, hat, hlt⟩ := h
  cases e1
  refine ⟨⟨a, c, rfl, hc, fun hne => ?_⟩, hat, Nat.lt_of_lt_of_le hlt hk.size⟩
  obtain ⟨b, off, rfl, hb, hcs⟩ := h1 hne
  have hn := hat _ rfl (List.length_pos_iff.2 hne)
  dsimp only at hn
  subst hn
  exact ⟨b, off, rfl, Nat.lt_of_lt_of_le hb hk.size, fun j hj => (World.cell?_of_block (hk.block b ⟨hb, fun h => e.2 h.symm⟩)).trans (hcs j hj)⟩
/-- All parts that are left have a sign. -/
def Wk.full (s : Wk) : Prop := ∀ p ∈ s.ps, p ≠ []
theorem partsL_full (l : Bs) : ∀ p ∈ partsL l, p ≠ [] := fun p hp => by
  unfold partsL at hp
  have := (List.mem_filter.1 hp).2
  intro e
  rw [e] at this
  cases this
theorem skipD_mem : ∀ {l : List Bs} {p : Bs}, p ∈ skipD l → p ∈ l
  | [], p, h => h
  | x :: r, p, h => by
    unfold skipD at h
    split at h
    · exact List.mem_cons_of_mem _ (skipD_mem h)
    · exact h
theorem done_full (s : Wk) (x : Wd) : (s.done x).full := fun p hp => by cases hp
theorem on_full {s : Wk} (h : s.full) : s.on.full := by
  unfold Wk.on
  split
  · exact done_full _ _
  · rename_i p r e
    intro q hq
    have hq' : q ∈ p :: r := hq
    rw [← e] at hq'
    exact h q (skipD_mem hq')
theorem new_full (path : Bs) (fol : Bool) : (newW path fol).full := on_full fun p hp => partsL_full path p hp
theorem miss_full (s : Wk) : s.miss.full := done_full _ _
theorem link_full {s : Wk} (h : s.full) (t : Bs) : (s.link t).full := by
  unfold Wk.link
  split
  · exact done_full _ _
  · split
    · refine on_full fun p hp => ?_
      rcases List.mem_append.1 hp with hp | hp
      · exact partsL_full _ p hp
      · exact h p hp
    · exact done_full _ _
theorem give_full {s : Wk} (h : s.full) (f : Fd) : (s.give f).full := by
  unfold Wk.give
  split
  · exact h
  · rename_i part r e
    have hr : ∀ p ∈ r, p ≠ [] := fun p hp => h p (by rw [e]; exact List.mem_cons_of_mem _ hp)
    split
    · exact on_full hr
    · split
      · exact link_full (s := ⟨s.dir, r, s.links, s.fol, none⟩) hr _
      · split
        · exact on_full hr
        · split <;> exact done_full _ _
theorem row_cell {w : World} {g e : Nat} {xs : List Value} (h : RowL w g e xs) (j : Nat) : w.cell? ⟨g, j, none⟩ = xs[j]? := by
  cases hu : xs[j]? with
  | some u => exact h.cell hu
  | none =>
    have h' : w.heap[g]? = some (.cells xs.toArray e) := h
    simp [World.cell?, h', hu]
/-- Only the eighth cell of the document's walker is a string. -/
theorem only8 {d k : Int} {sl : Value} {fol dn : Bool} {x : Wd} {j : Nat} {p : Bs} (hs : ∃ a n c, sl = .slice a n c) (h : [.int .i64 d, sl, .int .i64 k, .bool fol, .bool dn, .int .i64 x.1, .int .i64 x.2.1, strV x.2.2.1, .int .i64 x.2.2.2.1, .int .i64 x.2.2.2.2][j]? = some (strV p)) : j = 7 ∧ strV x.2.2.1 = strV p := by
  obtain ⟨a, n, c, rfl⟩ := hs
  match j with
  | 0 | 1 | 2 | 3 | 4 | 5 | 6 | 8 | 9 => cases h
  | 7 => exact ⟨rfl, Option.some.inj h⟩
  | j + 10 => cases h
theorem strV_inj {a b : Bs} (h : strV a = strV b) : a = b := by
  have h1 := congrArg (fun v => match v with | .string s => s.data.toList | _ => []) h
  exact h1
theorem PsAt.over {w w' : World} {B g g9 : Nat} {lv : Value} {ls : List Bs} {d k d' k' : Int} {a a' : Option Addr} {n c n' c' : Nat} {fol dn fol' dn' : Bool} {x x' : Wd} (hp : PsAt w B g lv ls) (r1 : RowL w g9 33 [.int .i64 d, .slice a n c, .int .i64 k, .bool fol, .bool dn, .int .i64 x.1, .int .i64 x.2.1, strV x.2.2.1, .int .i64 x.2.2.2.1, .int .i64 x.2.2.2.2]) (gr : w.grownBy w' (some g9)) (r2 : RowL w' g9 33 [.int .i64 d', (.slice a' n' c'), .int .i64 k', .bool fol', .bool dn', .int .i64 x'.1, .int .i64 x'.2.1, strV x'.2.2.1, .int .i64 x'.2.2.2.1, .int .i64 x'.2.2.2.2]) : ∃ ls', PsAt w' B g lv ls' ∧ ls'.length = ls.length ∧ ((x.2.2.1 = [] ∧ ∀ p ∈ ls, p ≠ []) → ls' = ls) := by
  by_cases hb : ∃ (y : Addr) (m cc : Nat), lv = .slice (some y) m cc ∧ 0 < m ∧ y.block = g9
  case neg => exact ⟨ls, ⟨hp.r.grown gr fun y m cc e h0 e2 => hb ⟨y, m, cc, e, h0, e2⟩, hp.ne, Nat.le_trans hp.hB gr.size⟩, rfl, fun _ => rfl⟩
  obtain ⟨y, m, cc, rfl, h0, hy⟩ := hb
  obtain ⟨ay, cap, e, hcap, h⟩ := hp.r
  cases e
  have hne : ls ≠ [] := List.length_pos_iff.1 h0
  obtain ⟨b, off, e, hlt, hcs⟩ := h hne
  cases e
  dsimp only at hy
  subst hy
  cases ls with
  | nil => exact absurd rfl hne
  | cons p r =>
    have c0 := hcs 0 (by simp)
    rw [row_cell r1] at c0
    have c0' : [.int .i64 d, .slice a n c, .int .i64 k, .bool fol, .bool dn, .int .i64 x.1, .int .i64 x.2.1, strV x.2.2.1, .int .i64 x.2.2.2.1, .int .i64 x.2.2.2.2][off + 0]? = some (strV p) := c0
    obtain ⟨h7, hpe⟩ := only8 ⟨_, _, _, rfl⟩ c0'
    have hpe := strV_inj hpe
    cases r with
    | cons p2 r =>
      have c1 := hcs 1 (by simp)
      rw [row_cell r1] at c1
      have c1' : [.int .i64 d, .slice a n c, .int .i64 k, .bool fol, .bool dn, .int .i64 x.1, .int .i64 x.2.1, strV x.2.2.1, .int .i64 x.2.2.2.1, .int .i64 x.2.2.2.2][off + 1]? = some (strV p2) := c1
      have := (only8 ⟨_, _, _, rfl⟩ c1').1
      omega
    | nil =>
      obtain rfl : off = 7 := by omega
      refine ⟨[x'.2.2.1], ⟨⟨_, _, rfl, hcap, fun _ => ⟨b, 7, rfl, r2.lt, fun j hj => ?_⟩⟩, hp.ne, Nat.le_trans hp.hB gr.size⟩, rfl, fun hx => ?_⟩
      · obtain rfl : j = 0 := by simpa using hj
        rw [row_cell r2]
        rfl
      · exact absurd (hpe.symm.trans hx.1) (hx.2 p (List.mem_singleton.2 rfl))
theorem WkAt.over {w w' : World} {g g9 : Nat} {s : Wk} {d k d' k' : Int} {a a' : Option Addr} {n c n' c' : Nat} {fol dn fol' dn' : Bool} {x x' : Wd} (A : WkAt w g s) (hf : s.full) (r1 : RowL w g9 33 [.int .i64 d, .slice a n c, .int .i64 k, .bool fol, .bool dn, .int .i64 x.1, .int .i64 x.2.1, strV x.2.2.1, .int .i64 x.2.2.2.1, .int .i64 x.2.2.2.2]) (gr : w.grownBy w' (some g9)) (r2 : RowL w' g9 33 [.int .i64 d', (.slice a' n' c'), .int .i64 k', .bool fol', .bool dn', .int .i64 x'.1, .int .i64 x'.2.1, strV x'.2.2.1, .int .i64 x'.2.2.2.1, .int .i64 x'.2.2.2.2]) (hne : g ≠ g9) (hx : x.2.2.1 = []) : WkAt w' g s := by
  obtain ⟨d0, k0, lv, ls, B, h1, h2, h3, h4⟩ := A.out
  obtain ⟨ls', hp, hl, he⟩ := h2.over r1 gr r2
  refine ⟨d0, k0, lv, ls', B, h1.gr gr hne, hp, by rw [hl]; exact h3, fun h0 => ?_⟩
  obtain ⟨e1, e2, e3⟩ := h4 h0
  refine ⟨e1, e2, ?_⟩
  rw [he ⟨hx, by rw [e3]; exact hf⟩]
  exact e3
end Go.Proofs.YtbbddpnjglijdaaDoor
/- walk: Copy; Miss and Give of one that ended; same (written by genwk27.py). -/
namespace Go.Proofs.YtbbddpnjglijdaaDoor
set_option linter.unusedVariables false
set_option linter.unusedSimpArgs false
open Go.RowKit Go.Shelf
set_option maxRecDepth 100000
set_option maxHeartbeats 8000000
theorem own_keep {w X : World} {base e n c : Nat} {a : Option Addr} {l : List Bs} {K : Nat → Prop} (o : OwnsT stE 1 w base e (.slice a n c) l) (hk : Kept K w X) (hK : ∀ j, base ≤ j → j < w.heap.size → K j) : ReadsT stE 1 X (.slice a n c) l := by
  obtain ⟨a', cap, e1, hc, h1⟩ := o.reads stEnc
  cases e1
  refine ⟨a, c, rfl, hc, fun hne => ?_⟩
  obtain ⟨b, off, rfl, hb, hcs⟩ := h1 hne
  have hbb : base ≤ b := by
    rcases o.above with h | ⟨b', h, h2, _⟩
    · cases h
    · cases h
      exact h2
  exact ⟨b, off, rfl, Nat.lt_of_lt_of_le hb hk.size, fun j hj => (World.cell?_of_block (hk.block b (hK b hbb hb))).trans (hcs j hj)⟩
section
variable (g : Nat) {s : Wk} {w : World}
theorem copyA (A : WkAt w g s) : Calls Tryd.prog 12 #[.pointer (some ⟨g, 0, none⟩)] w fun e w' => ∃ g2, e = .returned (.pointer (some ⟨g2, 0, none⟩)) ∧ (∀ X, Kept (fun j => j < w'.heap.size ∧ g2 ≤ j) w' X → WkAt X g2 s) ∧ w.heap.size ≤ g2 ∧ g2 < w'.heap.size ∧ Below w.heap.size w w' := by
  obtain ⟨d, k, lv, ls, B, h, hp, h3, h4⟩ := A.out
  have q := Below.refl w.heap.size w
  obtain ⟨x0, hx0⟩ : ∃ x, s.fin.getD wdZ = x := ⟨_, rfl⟩
  obtain ⟨dn, hdn⟩ : ∃ x, s.fin.isSome = x := ⟨_, rfl⟩
  obtain ⟨fol, hfo⟩ : ∃ x, s.fol = x := ⟨_, rfl⟩
  rw [hx0, hdn, hfo] at h
  obtain ⟨n, hn⟩ : ∃ n, ls.length = n := ⟨_, rfl⟩
  obtain ⟨a, c, rfl, _⟩ := hp.r.form hn
  have hcl := fun X (b : Below w.heap.size w X) => sclone_any _ ls X (hp.r.up b) (by omega)
  obtain ⟨y0, y1, y2, y3, y4⟩ := x0
  clear hp A
  refine X.fn Tryd.func12 rfl (n := 15) rfl rfl ?_
  refine CC.seq ?_
  refine CC.region ?_
  refine LL.val (R.assign rfl rfl) rfl rfl rfl ?_
  refine LL.nilS ?_
  refine CC.seq ?_
  refine CC.seq ?_
  refine CC.region ?_
  refine LL.val (R.move rfl rfl) rfl rfl rfl ?_
  refine LL.call (R.call rfl rfl rfl) rfl rfl rfl (none_any _ (by first | assumption | omega)) ?_
  rintro e W' ⟨rfl, rfl⟩
  refine ⟨_, rfl, ?_⟩
  refine LL.nilS ?_
  refine CC.no rfl ?_
  refine CC.skip ?_
  refine EE.thenN ?_
  refine CC.seq ?_
  refine CC.region ?_
  refine LL.val (R.move rfl rfl) rfl rfl rfl ?_
  refine LL.val (R.nil rfl rfl) rfl rfl rfl ?_
  refine LL.val (R.load rfl rfl (I.ldNc (vs := [Value.int IntKind.i64 y0, Value.int IntKind.i64 y1, strV y2, Value.int IntKind.i64 y3, Value.int IntKind.i64 y4, Value.bool dn, Value.int IntKind.i64 d, Value.slice a n c, Value.int IntKind.i64 k, Value.bool fol, Value.bool true]) (RowL.cells h rfl) (by rfl) (by rfl))) rfl rfl rfl ?_
  have l57 := h.lt
  refine LL.alloc ([Value.int IntKind.i64 0, Value.int IntKind.i64 0, Value.string { data := { toList := [] } }, Value.int IntKind.i64 0, Value.int IntKind.i64 0, Value.bool false, Value.int IntKind.i64 0, Value.slice none 0 0, Value.int IntKind.i64 0, Value.bool false, Value.bool false]) rfl rfl rfl rfl rfl ?_
  intro W59 g60 eg60 r61 z62 b58
  replace q := q.trans (b58.mono q.size)
  replace h := h.up b58
  refine LL.storeN (vs := [Value.int IntKind.i64 y0, Value.int IntKind.i64 y1, strV y2, Value.int IntKind.i64 y3, Value.int IntKind.i64 y4, Value.bool dn, Value.int IntKind.i64 d, Value.slice a n c, Value.int IntKind.i64 k, Value.bool fol, Value.bool true]) rfl rfl rfl rfl r61 (by exact Nat.le_of_ble_eq_true rfl) (ones_of rfl) rfl rfl ?_
  intro W73 r74 b72 z75
  have hlb72 := r61.lt
  replace r74 : RowL W73 _ 60 [Value.int IntKind.i64 y0, Value.int IntKind.i64 y1, strV y2, Value.int IntKind.i64 y3, Value.int IntKind.i64 y4, Value.bool dn, Value.int IntKind.i64 d, Value.slice a n c, Value.int IntKind.i64 k, Value.bool fol, Value.bool true] := r74
  clear r61
  replace b58 := b58.grown b72 b58.size (by rintro k ⟨⟩; omega)
  replace q := q.grown b72 q.size (by rintro k ⟨⟩; omega)
  replace h := h.gr b72 (by have := h.lt; omega)
  have r61 := r74
  clear r74
  refine LL.nilS ?_
  refine CC.seq ?_
  refine CC.region ?_
  refine LL.val (R.move rfl rfl) rfl rfl rfl ?_
  refine LL.val (R.nil rfl rfl) rfl rfl rfl ?_
  refine LL.val (R.field rfl rfl (I.fld rfl)) rfl rfl rfl ?_
  refine LL.val (R.load rfl rfl (I.ld1 rfl (RowL.cell h rfl))) rfl rfl rfl ?_
  have l116 := h.lt
  have l117 := r61.lt
  (refine LL.call (R.call rfl rfl rfl) rfl rfl rfl (hcl _ q) ?_; rintro e W115 ⟨v', rfl, oc, b112⟩; refine ⟨_, rfl, ?_⟩; obtain ⟨az, cz, rfl, hcz⟩ := (oc.reads stEnc).form hn)
  have zb112 := b112.size
  replace b58 := b58.trans (b112.mono b58.size)
  replace q := q.trans (b112.mono q.size)
  replace h := h.up b112
  replace r61 := r61.up b112
  refine LL.val (R.field rfl rfl (I.fld rfl)) rfl rfl rfl ?_
  refine LL.store rfl rfl rfl rfl r61 (by exact Nat.le_of_ble_eq_true rfl) rfl rfl rfl rfl ?_
  intro W140 r141 b139 z142
  have hlb139 := r61.lt
  replace r141 : RowL W140 _ 60 [Value.int IntKind.i64 y0, Value.int IntKind.i64 y1, strV y2, Value.int IntKind.i64 y3, Value.int IntKind.i64 y4, Value.bool dn, Value.int IntKind.i64 d, Value.slice az n cz, Value.int IntKind.i64 k, Value.bool fol, Value.bool true] := r141
  clear r61
  replace oc := oc.grown b139 (own_ne oc (by omega))
  replace b58 := b58.grown b139 b58.size (by rintro k ⟨⟩; omega)
  replace q := q.grown b139 q.size (by rintro k ⟨⟩; omega)
  replace h := h.gr b139 (by have := h.lt; omega)
  have r61 := r141
  clear r141
  refine LL.nilS ?_
  refine CC.seq ?_
  refine CC.region ?_
  refine LL.val (R.assign rfl rfl) rfl rfl rfl ?_
  refine LL.nilS ?_
  refine CC.ret ?_
  refine EE.ret _ rfl rfl ?_
  refine ⟨g60, rfl, fun X hk => ?_, by omega, by omega, q⟩
  have hg60 := r61.lt
  have hr := own_keep oc hk fun j h1 h2 => ⟨h2, by omega⟩
  have r2 := r61.kept hk ⟨hg60, Nat.le_refl _⟩
  refine ⟨⟨d, k, _, ls, W140.heap.size, by rw [hx0, hdn, hfo]; exact r2, ⟨hr, fun x n2 c2 e _ => ?_, hk.size⟩, h3, h4⟩⟩
  cases e
  have h1 := own_ge oc x.block rfl
  have h2 := own_in oc rfl
  exact ⟨h2, by omega⟩
theorem missD (A : WkAt w g s) (x : Wd) (hf : s.fin = some x) : Calls Tryd.prog 13 #[.pointer (some ⟨g, 0, none⟩)] w fun e w' => e = .returned (.int .i64 5) ∧ Below w.heap.size w w' := by
  obtain ⟨d, k, lv, ls, B, h, hp, h3, h4⟩ := A.out
  rw [hf] at h
  have q := Below.refl w.heap.size w
  refine X.fn Tryd.func13 rfl (n := 32) rfl rfl ?_
  refine CC.seq ?_
  refine CC.region ?_
  refine LL.val (R.assign rfl rfl) rfl rfl rfl ?_
  refine LL.nilS ?_
  refine CC.seq ?_
  refine CC.seq ?_
  refine CC.region ?_
  refine LL.val (R.move rfl rfl) rfl rfl rfl ?_
  (refine LL.call (R.call rfl rfl rfl) rfl rfl rfl (answered_done _ (by assumption)) ?_; rintro e W' ⟨rfl, rfl⟩; refine ⟨_, rfl, ?_⟩)
  refine LL.val (R.assign rfl rfl) rfl rfl rfl ?_
  refine LL.nilS ?_
  refine CC.seq ?_
  refine CC.region ?_
  refine LL.val (R.move rfl rfl) rfl rfl rfl ?_
  refine LL.val (R.neT rfl rfl rfl (by omega)) rfl rfl rfl ?_
  refine LL.nilS ?_
  refine CC.yes rfl ?_
  refine CC.seq ?_
  refine CC.region ?_
  refine LL.val (R.move rfl rfl) rfl rfl rfl ?_
  refine LL.val (R.assign rfl rfl) rfl rfl rfl ?_
  refine LL.nilS ?_
  refine CC.ret ?_
  refine EE.thenR ?_
  refine EE.ret _ rfl rfl ?_
  exact ⟨rfl, q⟩
theorem giveD (A : WkAt w g s) (x : Wd) (hf : s.fin = some x) (f : Fd) : Calls Tryd.prog 14 #[.pointer (some ⟨g, 0, none⟩), fdV f] w fun e w' => e = .returned (.int .i64 5) ∧ Below w.heap.size w w' := by
  obtain ⟨d, k, lv, ls, B, h, hp, h3, h4⟩ := A.out
  rw [hf] at h
  have q := Below.refl w.heap.size w
  refine X.fn Tryd.func14 rfl (n := 51) rfl rfl ?_
  refine CC.seq ?_
  refine CC.region ?_
  have l1 := h.lt
  refine LL.box [Value.int IntKind.i64 f.1, Value.int IntKind.i64 f.2.1, strV f.2.2] rfl rfl rfl rfl rfl ?_
  intro W3 g4 eg4 r5 z6 b2
  replace A := A.up b2
  replace h := h.up b2
  replace hp := hp.up b2
  replace q := q.trans (b2.mono q.size)
  refine LL.val (R.assign rfl rfl) rfl rfl rfl ?_
  refine LL.nilS ?_
  refine CC.seq ?_
  refine CC.seq ?_
  refine CC.region ?_
  refine LL.val (R.move rfl rfl) rfl rfl rfl ?_
  (refine LL.call (R.call rfl rfl rfl) rfl rfl rfl (answered_done _ (by assumption)) ?_; rintro e W' ⟨rfl, rfl⟩; refine ⟨_, rfl, ?_⟩)
  refine LL.val (R.assign rfl rfl) rfl rfl rfl ?_
  refine LL.nilS ?_
  refine CC.seq ?_
  refine CC.region ?_
  refine LL.val (R.move rfl rfl) rfl rfl rfl ?_
  refine LL.val (R.neT rfl rfl rfl (by omega)) rfl rfl rfl ?_
  refine LL.nilS ?_
  refine CC.yes rfl ?_
  refine CC.seq ?_
  refine CC.region ?_
  refine LL.val (R.move rfl rfl) rfl rfl rfl ?_
  refine LL.val (R.assign rfl rfl) rfl rfl rfl ?_
  refine LL.nilS ?_
  refine CC.ret ?_
  refine EE.thenR ?_
  refine EE.ret _ rfl rfl ?_
  exact ⟨rfl, q⟩
theorem leftA (A : WkAt w g s) (hf : s.fin = none) : Calls Tryd.prog 26 #[.pointer (some ⟨g, 0, none⟩)] w fun e w' => ∃ v, e = .returned v ∧ OwnsT stE 1 w' w.heap.size 9 v s.ps ∧ Below w.heap.size w w' := by
  obtain ⟨d, k, lv, ls, B, h, hp, h3, h4⟩ := A.out
  obtain ⟨rfl, rfl, rfl⟩ := h4 hf
  rw [hf] at h
  exact left_run g h hp.r h3
theorem leftD (A : WkAt w g s) (x : Wd) (hf : s.fin = some x) : Calls Tryd.prog 26 #[.pointer (some ⟨g, 0, none⟩)] w fun e w' => ∃ v, e = .returned v ∧ OwnsT stE 1 w' w.heap.size 9 v [] ∧ Below w.heap.size w w' := by
  obtain ⟨d, k, lv, ls, B, h, hp, h3, h4⟩ := A.out
  rw [hf] at h
  exact left_done g h
theorem stsame_T (l : List Bs) (va vb : Value) (w : World) (ha : ReadsT stE 1 w va l) (hb : ReadsT stE 1 w vb l) (hl : l.length ≤ 1048576) : Calls Tryd.prog 42 #[va, vb] w fun e w' => e = .returned (.bool true) ∧ Below w.heap.size w w' := by
  have := rsame_any va vb l l w ha hb hl hl
  rwa [decide_eq_true rfl] at this
theorem same_run (A : WkAt w g s) (p : Bs) (r : List Bs) (hf : s.fin = none) (hp : s.ps = p :: r) (hl : s.ps.length ≤ 10000) (a : Option Addr) (n c : Nat) (k : Int) (fol : Bool) (bb : Nat) (hB : PsB w bb a n c s.ps) : Calls Tryd.prog 15 #[.pointer (some ⟨g, 0, none⟩), rwV s.dir a n c k fol false wdZ] w fun e w' => e = .returned (.bool true) ∧ Below w.heap.size w w' := by
  have q := Below.refl w.heap.size w
  have AF := fun X (b : Below w.heap.size w X) => A.up b
  have hBF := fun X (b : Below w.heap.size w X) => hB.up b
  have hBF2 : ∀ X, Below w.heap.size w X → PsB X bb a n c (p :: r) := fun X b => by rw [← hp]; exact hBF X b
  have hn := hB.len
  obtain ⟨off, rfl, c0'⟩ := (hBF2 w q).head
  have c0 := fun X (b : Below w.heap.size w X) => c0' X (hBF2 X b)
  have hn1 : 0 < n := by rw [← hn, hp]; exact Nat.succ_pos _
  clear A hB c0'
  refine X.fn Tryd.func15 rfl (n := 74) rfl rfl ?_
  refine CC.seq ?_
  refine CC.region ?_
  refine LL.box [Value.int IntKind.i64 s.dir, Value.slice (some { block := bb, off := off }) n c, Value.int IntKind.i64 k, Value.bool fol, Value.bool false, Value.int IntKind.i64 0, Value.int IntKind.i64 0, strV [], Value.int IntKind.i64 0, Value.int IntKind.i64 0] rfl rfl rfl rfl rfl ?_
  intro W44 g45 eg45 r46 z47 b43
  replace q := q.trans (b43.mono q.size)
  refine LL.val (R.assign rfl rfl) rfl rfl rfl ?_
  refine LL.nilS ?_
  refine CC.seq ?_
  refine CC.region ?_
  refine LL.val (R.move rfl rfl) rfl rfl rfl ?_
  have l148 := r46.lt
  (refine LL.call (R.call rfl rfl rfl) rfl rfl rfl (asksW g (AF _ q) p r hf hp) ?_; rintro e W147 ⟨rfl, b144⟩; refine ⟨_, rfl, ?_⟩)
  have zb144 := b144.size
  replace r46 := r46.up b144
  replace b43 := b43.trans (b144.mono b43.size)
  replace q := q.trans (b144.mono q.size)
  refine LL.val (R.move rfl rfl) rfl rfl rfl ?_
  refine LL.val (R.extract rfl rfl rfl) rfl rfl rfl ?_
  refine LL.val (R.extract rfl rfl rfl) rfl rfl rfl ?_
  refine LL.val (R.extract rfl rfl rfl) rfl rfl rfl ?_
  refine LL.val (R.assign rfl rfl) rfl rfl rfl ?_
  refine LL.val (R.assign rfl rfl) rfl rfl rfl ?_
  refine LL.val (R.assign rfl rfl) rfl rfl rfl ?_
  refine LL.nilS ?_
  refine CC.seq ?_
  refine CC.region ?_
  refine LL.val (R.move rfl rfl) rfl rfl rfl ?_
  have l548 := r46.lt
  (refine LL.call (R.call rfl rfl rfl) rfl rfl rfl (doneW g (AF _ q) hf) ?_; rintro e W547 ⟨rfl, b544⟩; refine ⟨_, rfl, ?_⟩)
  have zb544 := b544.size
  replace b144 := b144.trans (b544.mono b144.size)
  replace r46 := r46.up b544
  replace b43 := b43.trans (b544.mono b43.size)
  replace q := q.trans (b544.mono q.size)
  refine LL.val (R.move rfl rfl) rfl rfl rfl ?_
  refine LL.val (R.extract rfl rfl rfl) rfl rfl rfl ?_
  refine LL.val (R.extract rfl rfl rfl) rfl rfl rfl ?_
  have l744 := r46.lt
  refine LL.alloc ([Value.int IntKind.i64 0, Value.int IntKind.i64 0, Value.string { data := { toList := [] } }, Value.int IntKind.i64 0, Value.int IntKind.i64 0]) rfl rfl rfl rfl rfl ?_
  intro W746 g747 eg747 r748 z749 b745
  replace b544 := b544.trans (b745.mono b544.size)
  replace b144 := b144.trans (b745.mono b144.size)
  replace r46 := r46.up b745
  replace b43 := b43.trans (b745.mono b43.size)
  replace q := q.trans (b745.mono q.size)
  refine LL.storeN (vs := [Value.int IntKind.i64 0, Value.int IntKind.i64 0, strV [], Value.int IntKind.i64 0, Value.int IntKind.i64 0]) rfl rfl rfl rfl r748 (by exact Nat.le_of_ble_eq_true rfl) (ones_of rfl) rfl rfl ?_
  intro W805 r806 b804 z807
  have hlb804 := r748.lt
  replace r806 : RowL W805 _ 31 [Value.int IntKind.i64 0, Value.int IntKind.i64 0, strV [], Value.int IntKind.i64 0, Value.int IntKind.i64 0] := r806
  clear r748
  replace b745 := b745.grown b804 b745.size (by rintro k ⟨⟩; omega)
  replace b544 := b544.grown b804 b544.size (by rintro k ⟨⟩; omega)
  replace b144 := b144.grown b804 b144.size (by rintro k ⟨⟩; omega)
  replace r46 := r46.gr b804 (by have := r46.lt; omega)
  replace b43 := b43.grown b804 b43.size (by rintro k ⟨⟩; omega)
  replace q := q.grown b804 q.size (by rintro k ⟨⟩; omega)
  have r748 := r806
  clear r806
  refine LL.val (R.assign rfl rfl) rfl rfl rfl ?_
  refine LL.nilS ?_
  refine CC.seq ?_
  refine CC.seq ?_
  refine CC.freeZ (fun W_ j => j < W_.heap.size ∧ (True)) (by kernel_rfl) (by kernel_rfl) (fun W863 b862 z864 => ?_)
  replace b745 := b745.trans (b862.mono b745.size)
  replace b544 := b544.trans (b862.mono b544.size)
  replace b144 := b144.trans (b862.mono b144.size)
  replace r46 := r46.up b862
  replace b43 := b43.trans (b862.mono b43.size)
  replace q := q.trans (b862.mono q.size)
  replace r748 := r748.up b862
  have hok : Kept (fun j => j < W863.heap.size ∧ (True)) W863 W863 := Kept.refl _ _
  have fzr46 := fzRow (K := fun j => j < W863.heap.size ∧ (True)) r46 ⟨r46.lt, (by first | trivial | omega)⟩
  have fzr748 := fzRow (K := fun j => j < W863.heap.size ∧ (True)) r748 ⟨r748.lt, (by first | trivial | omega)⟩
  refine AA.pure 0 rfl hok (by kernel_rfl) (fun w' b' => R.move rfl rfl) rfl rfl ?_
  refine AA.pure 1 rfl hok (by kernel_rfl) (fun w' b' => R.field rfl rfl (I.fld rfl)) rfl rfl ?_
  refine AA.pure 2 rfl hok (by kernel_rfl) (fun w' b' => R.load rfl rfl (I.ld1 rfl (RowL.cell (fzr46 w' b') rfl))) rfl rfl ?_
  refine AA.pure 3 rfl hok (by kernel_rfl) (fun w' b' => R.neBool rfl rfl rfl rfl rfl) rfl rfl ?_
  refine AA.pure 4 rfl hok (by kernel_rfl) (fun w' b' => R.move rfl rfl) rfl rfl ?_
  refine AA.pure 5 rfl hok (by kernel_rfl) (fun w' b' => R.move rfl rfl) rfl rfl ?_
  refine AA.pure 6 rfl hok (by kernel_rfl) (fun w' b' => R.field rfl rfl (I.fld rfl)) rfl rfl ?_
  refine AA.pure 7 rfl hok (by kernel_rfl) (fun w' b' => R.load rfl rfl (I.ld1 rfl (RowL.cell (fzr46 w' b') rfl))) rfl rfl ?_
  refine AA.pure 8 rfl hok (by kernel_rfl) (fun w' b' => R.eqBool rfl rfl rfl rfl rfl) rfl rfl ?_
  refine AA.pure 9 rfl hok (by kernel_rfl) (fun w' b' => R.pick rfl rfl rfl) rfl rfl ?_
  refine AA.pure 10 rfl hok (by kernel_rfl) (fun w' b' => R.move rfl rfl) rfl rfl ?_
  refine AA.pure 11 rfl hok (by kernel_rfl) (fun w' b' => R.load rfl rfl (I.ldNc (vs := [Value.int IntKind.i64 0, Value.int IntKind.i64 0, strV [], Value.int IntKind.i64 0, Value.int IntKind.i64 0]) (RowL.cells (fzr748 w' b') rfl) (by rfl) (by rfl))) rfl rfl ?_
  refine AA.pure 12 rfl hok (by kernel_rfl) (fun w' b' => R.field rfl rfl (I.fld rfl)) rfl rfl ?_
  refine AA.pure 13 rfl hok (by kernel_rfl) (fun w' b' => R.load rfl rfl (I.ldNc (vs := [Value.int IntKind.i64 0, Value.int IntKind.i64 0, strV [], Value.int IntKind.i64 0, Value.int IntKind.i64 0]) (RowL.cells (fzr46 w' b') rfl) (by rfl) (by rfl))) rfl rfl ?_
  refine AA.one 14 (by kernel_rfl) ?_
  (refine SR.val rfl (R.neST (xs := [.int .i64 0, .int .i64 0, strV [], .int .i64 0, .int .i64 0]) (ys := [.int .i64 0, .int .i64 0, strV [], .int .i64 0, .int .i64 0]) (p := True) (bs := [decide ((0 : Int) = 0), decide ((0 : Int) = 0), (⟨List.toArray []⟩ : ByteArray).toList == (⟨List.toArray []⟩ : ByteArray).toList, decide ((0 : Int) = 0), decide ((0 : Int) = 0)]) rfl rfl rfl (by kernel_rfl) (by kernel_rfl) (by kernel_rfl) (by simp) trivial) rfl rfl hok ?_)
  refine AA.pure 15 rfl hok (by kernel_rfl) (fun w' b' => R.pick rfl rfl rfl) rfl rfl ?_
  refine AA.pure 16 rfl hok (by kernel_rfl) (fun w' b' => R.move rfl rfl) rfl rfl ?_
  refine AA.pure 17 rfl hok (by kernel_rfl) (fun w' b' => R.move rfl rfl) rfl rfl ?_
  refine AA.pure 19 rfl hok (by kernel_rfl) (fun w' b' => R.field rfl rfl (I.fld rfl)) rfl rfl ?_
  refine AA.pure 20 rfl hok (by kernel_rfl) (fun w' b' => R.load rfl rfl (I.ld1 rfl (RowL.cell (fzr46 w' b') rfl))) rfl rfl ?_
  refine AA.one 18 (by kernel_rfl) ?_
  have l897 := r46.lt
  have l898 := r748.lt
  (refine SR.call rfl (R.call rfl rfl rfl) rfl rfl (leftA g (AF _ q) hf) ?_; rintro e W896 ⟨vl, rfl, ol, b893⟩; refine ⟨_, rfl, ?_⟩; have rl := ol.reads stEnc; obtain ⟨al, cl, rfl, _⟩ := rl.form hn; clear ol)
  have zb893 := b893.size
  replace b862 := b862.trans (b893.mono b862.size)
  replace b745 := b745.trans (b893.mono b745.size)
  replace b544 := b544.trans (b893.mono b544.size)
  replace b144 := b144.trans (b893.mono b144.size)
  replace r46 := r46.up b893
  replace b43 := b43.trans (b893.mono b43.size)
  replace q := q.trans (b893.mono q.size)
  replace r748 := r748.up b893
  replace hok := hok.trans (bkept b893 (fun j h => by have := h.1; have := hok.size; omega))
  have y902 := hok.size
  refine ⟨hok, ?_⟩
  refine AA.one 21 (by kernel_rfl) ?_
  have l952 := r46.lt
  have l953 := r748.lt
  (refine SR.call rfl (R.call rfl rfl rfl) rfl rfl (stsame_T s.ps _ _ _ rl (hBF _ q).r (by omega)) ?_; rintro e W951 ⟨rfl, b948⟩; refine ⟨_, rfl, ?_⟩)
  have zb948 := b948.size
  replace b893 := b893.trans (b948.mono b893.size)
  replace rl := rl.up b948
  replace b862 := b862.trans (b948.mono b862.size)
  replace b745 := b745.trans (b948.mono b745.size)
  replace b544 := b544.trans (b948.mono b544.size)
  replace b144 := b144.trans (b948.mono b144.size)
  replace r46 := r46.up b948
  replace b43 := b43.trans (b948.mono b43.size)
  replace q := q.trans (b948.mono q.size)
  replace r748 := r748.up b948
  replace hok := hok.trans (bkept b948 (fun j h => by have := h.1; have := hok.size; omega))
  have y957 := hok.size
  refine ⟨hok, ?_⟩
  refine AA.pure 22 rfl hok (by kernel_rfl) (fun w' b' => R.not rfl rfl) rfl rfl ?_
  refine AA.pure 23 rfl hok (by kernel_rfl) (fun w' b' => R.pick rfl rfl rfl) rfl rfl ?_
  refine AA.done rfl ?_
  clear fzr46 fzr748 hok
  refine EE.thenN ?_
  refine CC.no rfl ?_
  refine CC.skip ?_
  refine EE.thenN ?_
  refine CC.seq ?_
  refine CC.region ?_
  refine LL.val (R.field rfl rfl (I.fld rfl)) rfl rfl rfl ?_
  refine LL.val (R.load rfl rfl (I.ld1 rfl (RowL.cell r46 rfl))) rfl rfl rfl ?_
  refine LL.val (R.move rfl rfl) rfl rfl rfl ?_
  refine LL.skip rfl rfl ?_
  refine LL.skip rfl rfl ?_
  refine LL.val (R.pick rfl rfl rfl) rfl rfl rfl ?_
  refine LL.val (R.move rfl rfl) rfl rfl rfl ?_
  refine LL.skip rfl rfl ?_
  refine LL.skip rfl rfl ?_
  refine LL.val (R.pick rfl rfl rfl) rfl rfl rfl ?_
  refine LL.val (R.move rfl rfl) rfl rfl rfl ?_
  refine LL.val (R.field rfl rfl (I.fld rfl)) rfl rfl rfl ?_
  refine LL.val (R.load rfl rfl (I.ld1 rfl (RowL.cell r46 rfl))) rfl rfl rfl ?_
  refine LL.val (R.not rfl rfl) rfl rfl rfl ?_
  refine LL.val (R.move rfl rfl) rfl rfl rfl ?_
  refine LL.val (R.move rfl rfl) rfl rfl rfl ?_
  refine LL.val (R.field rfl rfl (I.fld rfl)) rfl rfl rfl ?_
  refine LL.val (R.load rfl rfl (I.ld1 rfl (RowL.cell r46 rfl))) rfl rfl rfl ?_
  refine LL.val (R.eqT rfl rfl rfl (by omega)) rfl rfl rfl ?_
  refine LL.val (R.pick rfl rfl rfl) rfl rfl rfl ?_
  refine LL.val (R.move rfl rfl) rfl rfl rfl ?_
  refine LL.val (R.move rfl rfl) rfl rfl rfl ?_
  refine LL.val (R.field rfl rfl (I.fld rfl)) rfl rfl rfl ?_
  refine LL.val (R.load rfl rfl (I.ld1 rfl (RowL.cell r46 rfl))) rfl rfl rfl ?_
  refine LL.val (R.index rfl rfl rfl (I.ixS1c rfl rfl (by omega))) rfl rfl rfl ?_
  (refine LL.val (R.load rfl rfl (I.ld1 rfl (c0 _ q))) rfl rfl rfl ?_)
  (refine LL.val (R.eqS (a := p) (b := p) (c := true) rfl rfl rfl (by simp)) rfl rfl rfl ?_)
  refine LL.val (R.pick rfl rfl rfl) rfl rfl rfl ?_
  refine LL.val (R.pick rfl rfl rfl) rfl rfl rfl ?_
  refine LL.val (R.assign rfl rfl) rfl rfl rfl ?_
  refine LL.nilS ?_
  refine CC.ret ?_
  refine EE.ret _ rfl rfl ?_
  exact ⟨rfl, q⟩
theorem same_done (A : WkAt w g s) (x : Wd) (hf : s.fin = some x) (d k : Int) (fol : Bool) : Calls Tryd.prog 15 #[.pointer (some ⟨g, 0, none⟩), rwV d none 0 0 k fol true x] w fun e w' => e = .returned (.bool true) ∧ Below w.heap.size w w' := by
  have q := Below.refl w.heap.size w
  have AF := fun X (b : Below w.heap.size w X) => A.up b
  obtain ⟨x0, x1, x2, x3, x4⟩ := x
  clear A
  refine X.fn Tryd.func15 rfl (n := 74) rfl rfl ?_
  refine CC.seq ?_
  refine CC.region ?_
  refine LL.box [Value.int IntKind.i64 d, Value.slice none 0 0, Value.int IntKind.i64 k, Value.bool fol, Value.bool true, Value.int IntKind.i64 x0, Value.int IntKind.i64 x1, strV x2, Value.int IntKind.i64 x3, Value.int IntKind.i64 x4] rfl rfl rfl rfl rfl ?_
  intro W44 g45 eg45 r46 z47 b43
  replace q := q.trans (b43.mono q.size)
  refine LL.val (R.assign rfl rfl) rfl rfl rfl ?_
  refine LL.nilS ?_
  refine CC.seq ?_
  refine CC.region ?_
  refine LL.val (R.move rfl rfl) rfl rfl rfl ?_
  have l148 := r46.lt
  (refine LL.call (R.call rfl rfl rfl) rfl rfl rfl (asksD g (AF _ q) _ hf) ?_; rintro e W147 ⟨rfl, b144⟩; refine ⟨_, rfl, ?_⟩)
  have zb144 := b144.size
  replace r46 := r46.up b144
  replace b43 := b43.trans (b144.mono b43.size)
  replace q := q.trans (b144.mono q.size)
  refine LL.val (R.move rfl rfl) rfl rfl rfl ?_
  refine LL.val (R.extract rfl rfl rfl) rfl rfl rfl ?_
  refine LL.val (R.extract rfl rfl rfl) rfl rfl rfl ?_
  refine LL.val (R.extract rfl rfl rfl) rfl rfl rfl ?_
  refine LL.val (R.assign rfl rfl) rfl rfl rfl ?_
  refine LL.val (R.assign rfl rfl) rfl rfl rfl ?_
  refine LL.val (R.assign rfl rfl) rfl rfl rfl ?_
  refine LL.nilS ?_
  refine CC.seq ?_
  refine CC.region ?_
  refine LL.val (R.move rfl rfl) rfl rfl rfl ?_
  have l548 := r46.lt
  (refine LL.call (R.call rfl rfl rfl) rfl rfl rfl (doneD g (AF _ q) _ hf) ?_; rintro e W547 ⟨rfl, b544⟩; refine ⟨_, rfl, ?_⟩)
  have zb544 := b544.size
  replace b144 := b144.trans (b544.mono b144.size)
  replace r46 := r46.up b544
  replace b43 := b43.trans (b544.mono b43.size)
  replace q := q.trans (b544.mono q.size)
  refine LL.val (R.move rfl rfl) rfl rfl rfl ?_
  refine LL.val (R.extract rfl rfl rfl) rfl rfl rfl ?_
  refine LL.val (R.extract rfl rfl rfl) rfl rfl rfl ?_
  have l744 := r46.lt
  refine LL.alloc ([Value.int IntKind.i64 0, Value.int IntKind.i64 0, Value.string { data := { toList := [] } }, Value.int IntKind.i64 0, Value.int IntKind.i64 0]) rfl rfl rfl rfl rfl ?_
  intro W746 g747 eg747 r748 z749 b745
  replace b544 := b544.trans (b745.mono b544.size)
  replace b144 := b144.trans (b745.mono b144.size)
  replace r46 := r46.up b745
  replace b43 := b43.trans (b745.mono b43.size)
  replace q := q.trans (b745.mono q.size)
  refine LL.storeN (vs := [Value.int IntKind.i64 x0, Value.int IntKind.i64 x1, strV x2, Value.int IntKind.i64 x3, Value.int IntKind.i64 x4]) rfl rfl rfl rfl r748 (by exact Nat.le_of_ble_eq_true rfl) (ones_of rfl) rfl rfl ?_
  intro W805 r806 b804 z807
  have hlb804 := r748.lt
  replace r806 : RowL W805 _ 31 [Value.int IntKind.i64 x0, Value.int IntKind.i64 x1, strV x2, Value.int IntKind.i64 x3, Value.int IntKind.i64 x4] := r806
  clear r748
  replace b745 := b745.grown b804 b745.size (by rintro k ⟨⟩; omega)
  replace b544 := b544.grown b804 b544.size (by rintro k ⟨⟩; omega)
  replace b144 := b144.grown b804 b144.size (by rintro k ⟨⟩; omega)
  replace r46 := r46.gr b804 (by have := r46.lt; omega)
  replace b43 := b43.grown b804 b43.size (by rintro k ⟨⟩; omega)
  replace q := q.grown b804 q.size (by rintro k ⟨⟩; omega)
  have r748 := r806
  clear r806
  refine LL.val (R.assign rfl rfl) rfl rfl rfl ?_
  refine LL.nilS ?_
  refine CC.seq ?_
  refine CC.seq ?_
  refine CC.freeZ (fun W_ j => j < W_.heap.size ∧ (True)) (by kernel_rfl) (by kernel_rfl) (fun W863 b862 z864 => ?_)
  replace b745 := b745.trans (b862.mono b745.size)
  replace b544 := b544.trans (b862.mono b544.size)
  replace b144 := b144.trans (b862.mono b144.size)
  replace r46 := r46.up b862
  replace b43 := b43.trans (b862.mono b43.size)
  replace q := q.trans (b862.mono q.size)
  replace r748 := r748.up b862
  have hok : Kept (fun j => j < W863.heap.size ∧ (True)) W863 W863 := Kept.refl _ _
  have fzr46 := fzRow (K := fun j => j < W863.heap.size ∧ (True)) r46 ⟨r46.lt, (by first | trivial | omega)⟩
  have fzr748 := fzRow (K := fun j => j < W863.heap.size ∧ (True)) r748 ⟨r748.lt, (by first | trivial | omega)⟩
  refine AA.pure 0 rfl hok (by kernel_rfl) (fun w' b' => R.move rfl rfl) rfl rfl ?_
  refine AA.pure 1 rfl hok (by kernel_rfl) (fun w' b' => R.field rfl rfl (I.fld rfl)) rfl rfl ?_
  refine AA.pure 2 rfl hok (by kernel_rfl) (fun w' b' => R.load rfl rfl (I.ld1 rfl (RowL.cell (fzr46 w' b') rfl))) rfl rfl ?_
  refine AA.pure 3 rfl hok (by kernel_rfl) (fun w' b' => R.neBool rfl rfl rfl rfl rfl) rfl rfl ?_
  refine AA.pure 4 rfl hok (by kernel_rfl) (fun w' b' => R.move rfl rfl) rfl rfl ?_
  refine AA.pure 5 rfl hok (by kernel_rfl) (fun w' b' => R.move rfl rfl) rfl rfl ?_
  refine AA.pure 6 rfl hok (by kernel_rfl) (fun w' b' => R.field rfl rfl (I.fld rfl)) rfl rfl ?_
  refine AA.pure 7 rfl hok (by kernel_rfl) (fun w' b' => R.load rfl rfl (I.ld1 rfl (RowL.cell (fzr46 w' b') rfl))) rfl rfl ?_
  refine AA.pure 8 rfl hok (by kernel_rfl) (fun w' b' => R.eqBool rfl rfl rfl rfl rfl) rfl rfl ?_
  refine AA.pure 9 rfl hok (by kernel_rfl) (fun w' b' => R.pick rfl rfl rfl) rfl rfl ?_
  refine AA.pure 10 rfl hok (by kernel_rfl) (fun w' b' => R.move rfl rfl) rfl rfl ?_
  refine AA.pure 11 rfl hok (by kernel_rfl) (fun w' b' => R.load rfl rfl (I.ldNc (vs := [Value.int IntKind.i64 x0, Value.int IntKind.i64 x1, strV x2, Value.int IntKind.i64 x3, Value.int IntKind.i64 x4]) (RowL.cells (fzr748 w' b') rfl) (by rfl) (by rfl))) rfl rfl ?_
  refine AA.pure 12 rfl hok (by kernel_rfl) (fun w' b' => R.field rfl rfl (I.fld rfl)) rfl rfl ?_
  refine AA.pure 13 rfl hok (by kernel_rfl) (fun w' b' => R.load rfl rfl (I.ldNc (vs := [Value.int IntKind.i64 x0, Value.int IntKind.i64 x1, strV x2, Value.int IntKind.i64 x3, Value.int IntKind.i64 x4]) (RowL.cells (fzr46 w' b') rfl) (by rfl) (by rfl))) rfl rfl ?_
  refine AA.one 14 (by kernel_rfl) ?_
  (refine SR.val rfl (R.neST (xs := [.int .i64 x0, .int .i64 x1, strV x2, .int .i64 x3, .int .i64 x4]) (ys := [.int .i64 x0, .int .i64 x1, strV x2, .int .i64 x3, .int .i64 x4]) (p := True) (bs := [decide ((x0 : Int) = x0), decide ((x1 : Int) = x1), (⟨List.toArray x2⟩ : ByteArray).toList == (⟨List.toArray x2⟩ : ByteArray).toList, decide ((x3 : Int) = x3), decide ((x4 : Int) = x4)]) rfl rfl rfl (by kernel_rfl) (by kernel_rfl) (by kernel_rfl) (by simp) trivial) rfl rfl hok ?_)
  refine AA.pure 15 rfl hok (by kernel_rfl) (fun w' b' => R.pick rfl rfl rfl) rfl rfl ?_
  refine AA.pure 16 rfl hok (by kernel_rfl) (fun w' b' => R.move rfl rfl) rfl rfl ?_
  refine AA.pure 17 rfl hok (by kernel_rfl) (fun w' b' => R.move rfl rfl) rfl rfl ?_
  refine AA.pure 19 rfl hok (by kernel_rfl) (fun w' b' => R.field rfl rfl (I.fld rfl)) rfl rfl ?_
  refine AA.pure 20 rfl hok (by kernel_rfl) (fun w' b' => R.load rfl rfl (I.ld1 rfl (RowL.cell (fzr46 w' b') rfl))) rfl rfl ?_
  refine AA.one 18 (by kernel_rfl) ?_
  have l897 := r46.lt
  have l898 := r748.lt
  (refine SR.call rfl (R.call rfl rfl rfl) rfl rfl (leftD g (AF _ q) _ hf) ?_; rintro e W896 ⟨vl, rfl, ol, b893⟩; refine ⟨_, rfl, ?_⟩; have rl := ol.reads stEnc; obtain ⟨al, cl, rfl, _⟩ := rl.form rfl; clear ol)
  have zb893 := b893.size
  replace b862 := b862.trans (b893.mono b862.size)
  replace b745 := b745.trans (b893.mono b745.size)
  replace b544 := b544.trans (b893.mono b544.size)
  replace b144 := b144.trans (b893.mono b144.size)
  replace r46 := r46.up b893
  replace b43 := b43.trans (b893.mono b43.size)
  replace q := q.trans (b893.mono q.size)
  replace r748 := r748.up b893
  replace hok := hok.trans (bkept b893 (fun j h => by have := h.1; have := hok.size; omega))
  have y902 := hok.size
  refine ⟨hok, ?_⟩
  refine AA.one 21 (by kernel_rfl) ?_
  have l952 := r46.lt
  have l953 := r748.lt
  (refine SR.call rfl (R.call rfl rfl rfl) rfl rfl (stsame_T [] _ _ _ rl (ReadsT.nil _) (by decide)) ?_; rintro e W951 ⟨rfl, b948⟩; refine ⟨_, rfl, ?_⟩)
  have zb948 := b948.size
  replace b893 := b893.trans (b948.mono b893.size)
  replace rl := rl.up b948
  replace b862 := b862.trans (b948.mono b862.size)
  replace b745 := b745.trans (b948.mono b745.size)
  replace b544 := b544.trans (b948.mono b544.size)
  replace b144 := b144.trans (b948.mono b144.size)
  replace r46 := r46.up b948
  replace b43 := b43.trans (b948.mono b43.size)
  replace q := q.trans (b948.mono q.size)
  replace r748 := r748.up b948
  replace hok := hok.trans (bkept b948 (fun j h => by have := h.1; have := hok.size; omega))
  have y957 := hok.size
  refine ⟨hok, ?_⟩
  refine AA.pure 22 rfl hok (by kernel_rfl) (fun w' b' => R.not rfl rfl) rfl rfl ?_
  refine AA.pure 23 rfl hok (by kernel_rfl) (fun w' b' => R.pick rfl rfl rfl) rfl rfl ?_
  refine AA.done rfl ?_
  clear fzr46 fzr748 hok
  refine EE.thenN ?_
  refine CC.no rfl ?_
  refine CC.skip ?_
  refine EE.thenN ?_
  refine CC.seq ?_
  refine CC.region ?_
  refine LL.val (R.field rfl rfl (I.fld rfl)) rfl rfl rfl ?_
  refine LL.val (R.load rfl rfl (I.ld1 rfl (RowL.cell r46 rfl))) rfl rfl rfl ?_
  refine LL.val (R.move rfl rfl) rfl rfl rfl ?_
  refine LL.val (R.move rfl rfl) rfl rfl rfl ?_
  refine LL.val (R.eqT rfl rfl rfl (by omega)) rfl rfl rfl ?_
  refine LL.val (R.pick rfl rfl rfl) rfl rfl rfl ?_
  refine LL.val (R.move rfl rfl) rfl rfl rfl ?_
  refine LL.val (R.move rfl rfl) rfl rfl rfl ?_
  (refine LL.val (R.eqS (a := []) (b := []) (c := true) rfl rfl rfl (by simp)) rfl rfl rfl ?_)
  refine LL.val (R.pick rfl rfl rfl) rfl rfl rfl ?_
  refine LL.val (R.move rfl rfl) rfl rfl rfl ?_
  refine LL.skip rfl rfl ?_
  refine LL.skip rfl rfl ?_
  refine LL.skip rfl rfl ?_
  refine LL.skip rfl rfl ?_
  refine LL.skip rfl rfl ?_
  refine LL.skip rfl rfl ?_
  refine LL.skip rfl rfl ?_
  refine LL.skip rfl rfl ?_
  refine LL.skip rfl rfl ?_
  refine LL.skip rfl rfl ?_
  refine LL.skip rfl rfl ?_
  refine LL.skip rfl rfl ?_
  refine LL.skip rfl rfl ?_
  refine LL.skip rfl rfl ?_
  refine LL.skip rfl rfl ?_
  refine LL.skip rfl rfl ?_
  refine LL.skip rfl rfl ?_
  refine LL.val (R.pick rfl rfl rfl) rfl rfl rfl ?_
  refine LL.val (R.assign rfl rfl) rfl rfl rfl ?_
  refine LL.nilS ?_
  refine CC.ret ?_
  refine EE.ret _ rfl rfl ?_
  exact ⟨rfl, q⟩
end
end Go.Proofs.YtbbddpnjglijdaaDoor
/- walk: the document's Give (written by genwk22.py). -/
namespace Go.Proofs.YtbbddpnjglijdaaDoor
set_option linter.unusedVariables false
set_option linter.unusedSimpArgs false
open Go.RowKit Go.Shelf
set_option maxRecDepth 100000
set_option maxHeartbeats 8000000
theorem rgive_any (d : Int) (a : Option Addr) (n c : Nat) (k : Nat) (fol : Bool) (p : Bs) (r : List Bs) (f : Fd) (w : World) (bb : Nat) (hv : PsB w bb a n c (p :: r)) (hl : n ≤ 50000) (ht : f.2.1 = 3 → f.2.2.length ≤ 1048576) (hk : k ≤ 8) (h0 : 0 < w.heap.size) : Calls Tryd.prog 17 #[rwV d a n c (k : Int) fol false wdZ, fdV f] w fun e w' => ∃ v b2, e = .returned v ∧ RwR (Wk.give ⟨d, p :: r, k, fol, none⟩ f) v w' b2 ∧ ((b2 = 0 ∨ b2 = bb ∨ w.heap.size ≤ b2) ∧ b2 < w'.heap.size) ∧ Below w.heap.size w w' := by
  have q := Below.refl w.heap.size w
  have hn := hv.len
  have hn2 : r.length + 1 = n := hn
  have hF : ∀ X, Below w.heap.size w X → PsB X bb a n c (p :: r) := fun X b => hv.up b
  have hb0 := hv.lt
  obtain ⟨off, rfl, c0'⟩ := hv.head
  have c0 := fun X (b : Below w.heap.size w X) => c0' X (hF X b)
  obtain ⟨a', c', hsl, htl⟩ := hv.tail
  have hF2 := fun X (b : Below w.heap.size w X) => htl X (hF X b)
  obtain ⟨fi, fk, ft⟩ := f
  dsimp only at ht
  obtain ⟨S, hS⟩ : ∃ S, Wk.give ⟨d, p :: r, k, fol, none⟩ (fi, fk, ft) = S := ⟨_, rfl⟩
  rw [hS]
  unfold Wk.give at hS
  dsimp only at hS
  clear hv c0' hn htl
  have hr0 : r ≠ [] ↔ 1 < n := by
    rw [← hn2]
    cases r with
    | nil => simp
    | cons x y => simp
  by_cases hpp : p = [46, 46]
  · rw [if_pos hpp] at hS
    refine X.fn Tryd.func17 rfl (n := 69) rfl rfl ?_
    refine CC.seq ?_
    refine CC.region ?_
    refine LL.box [Value.int IntKind.i64 d, Value.slice (some { block := bb, off := off }) n c, Value.int IntKind.i64 ↑k, Value.bool fol, Value.bool false, Value.int IntKind.i64 0, Value.int IntKind.i64 0, strV [], Value.int IntKind.i64 0, Value.int IntKind.i64 0] rfl rfl rfl rfl rfl ?_
    intro W9 g10 eg10 r11 z12 b8
    replace q := q.trans (b8.mono q.size)
    have l21 := r11.lt
    refine LL.box [Value.int IntKind.i64 fi, Value.int IntKind.i64 fk, strV ft] rfl rfl rfl rfl rfl ?_
    intro W23 g24 eg24 r25 z26 b22
    replace r11 := r11.up b22
    replace b8 := b8.trans (b22.mono b8.size)
    replace q := q.trans (b22.mono q.size)
    have l36 := r25.lt
    have l37 := r11.lt
    refine LL.alloc ([Value.int IntKind.i64 0, Value.slice none 0 0, Value.int IntKind.i64 0, Value.bool false, Value.bool false, Value.int IntKind.i64 0, Value.int IntKind.i64 0, Value.string { data := { toList := [] } }, Value.int IntKind.i64 0, Value.int IntKind.i64 0]) rfl rfl rfl rfl rfl ?_
    intro W39 g40 eg40 r41 z42 b38
    replace r25 := r25.up b38
    replace b22 := b22.trans (b38.mono b22.size)
    replace r11 := r11.up b38
    replace b8 := b8.trans (b38.mono b8.size)
    replace q := q.trans (b38.mono q.size)
    refine LL.nilS ?_
    refine CC.seq ?_
    refine CC.region ?_
    refine LL.val (R.field rfl rfl (I.fld rfl)) rfl rfl rfl ?_
    refine LL.val (R.load rfl rfl (I.ld1 rfl (RowL.cell r11 rfl))) rfl rfl rfl ?_
    refine LL.val (R.index rfl rfl rfl (I.ixS1c rfl rfl (by omega))) rfl rfl rfl ?_
    (refine LL.val (R.load rfl rfl (I.ld1 rfl (c0 _ q))) rfl rfl rfl ?_)
    refine LL.val (R.assign rfl rfl) rfl rfl rfl ?_
    refine LL.nilS ?_
    refine CC.seq ?_
    refine CC.region ?_
    refine LL.val (R.field rfl rfl (I.fld rfl)) rfl rfl rfl ?_
    refine LL.val (R.load rfl rfl (I.ld1 rfl (RowL.cell r11 rfl))) rfl rfl rfl ?_
    (refine LL.val (R.slice rfl rfl rfl rfl rfl (hsl _ _ _ _ rfl)) rfl rfl rfl ?_)
    refine LL.val (R.field rfl rfl (I.fld rfl)) rfl rfl rfl ?_
    refine LL.store rfl rfl rfl rfl r11 (by exact Nat.le_of_ble_eq_true rfl) rfl rfl rfl rfl ?_
    intro W124 r125 b123 z126
    have hlb123 := r11.lt
    replace r125 : RowL W124 _ 33 [Value.int IntKind.i64 d, Value.slice a' (n - 1) c', Value.int IntKind.i64 ↑k, Value.bool fol, Value.bool false, Value.int IntKind.i64 0, Value.int IntKind.i64 0, strV [], Value.int IntKind.i64 0, Value.int IntKind.i64 0] := r125
    clear r11
    replace r41 := r41.gr b123 (by have := r41.lt; omega)
    replace r25 := r25.gr b123 (by have := r25.lt; omega)
    replace b8 := b8.grown b123 b8.size (by rintro k ⟨⟩; omega)
    replace q := q.grown b123 q.size (by rintro k ⟨⟩; omega)
    have r11 := r125
    clear r125
    refine LL.nilS ?_
    refine CC.seq ?_
    refine CC.region ?_
    refine LL.val (R.field rfl rfl (I.fld rfl)) rfl rfl rfl ?_
    refine LL.val (R.load rfl rfl (I.ld1 rfl (RowL.cell r11 rfl))) rfl rfl rfl ?_
    refine LL.val (R.len rfl rfl rfl rfl) rfl rfl rfl ?_
    refine LL.vsplit (fun h => R.gtT rfl rfl rfl h) (fun h => R.gtF rfl rfl rfl (Int.not_lt.1 h)) rfl rfl rfl (fun c167 => ?_) (fun c167 => ?_)
    refine LL.val (R.assign rfl rfl) rfl rfl rfl ?_
    refine LL.nilS ?_
    refine CC.seq ?_
    refine CC.block ?_
    refine CC.seq ?_
    refine CC.region ?_
    refine LL.val (R.move rfl rfl) rfl rfl rfl ?_
    (refine LL.val (R.eqS (a := p) (b := [46, 46]) (c := true) rfl rfl rfl (by simp [hpp])) rfl rfl rfl ?_)
    refine LL.val (R.assign rfl rfl) rfl rfl rfl ?_
    refine LL.nilS ?_
    refine CC.yes rfl ?_
    refine CC.seq ?_
    refine CC.region ?_
    refine LL.val (R.field rfl rfl (I.fld rfl)) rfl rfl rfl ?_
    refine LL.val (R.load rfl rfl (I.ld1 rfl (RowL.cell r25 rfl))) rfl rfl rfl ?_
    refine LL.val (R.field rfl rfl (I.fld rfl)) rfl rfl rfl ?_
    refine LL.store rfl rfl rfl rfl r11 (by exact Nat.le_of_ble_eq_true rfl) rfl rfl rfl rfl ?_
    intro W239 r240 b238 z241
    have hlb238 := r11.lt
    replace r240 : RowL W239 _ 33 [Value.int IntKind.i64 fi, Value.slice a' (n - 1) c', Value.int IntKind.i64 ↑k, Value.bool fol, Value.bool false, Value.int IntKind.i64 0, Value.int IntKind.i64 0, strV [], Value.int IntKind.i64 0, Value.int IntKind.i64 0] := r240
    clear r11
    replace r41 := r41.gr b238 (by have := r41.lt; omega)
    replace r25 := r25.gr b238 (by have := r25.lt; omega)
    replace b8 := b8.grown b238 b8.size (by rintro k ⟨⟩; omega)
    replace q := q.grown b238 q.size (by rintro k ⟨⟩; omega)
    have r11 := r240
    clear r240
    refine LL.nilS ?_
    refine CC.seq ?_
    refine CC.region ?_
    refine LL.val (R.load rfl rfl (I.ldNc (vs := [Value.int IntKind.i64 fi, Value.slice a' (n - 1) c', Value.int IntKind.i64 ↑k, Value.bool fol, Value.bool false, Value.int IntKind.i64 0, Value.int IntKind.i64 0, strV [], Value.int IntKind.i64 0, Value.int IntKind.i64 0]) (RowL.cells r11 rfl) (by rfl) (by rfl))) rfl rfl rfl ?_
    have l256 := r41.lt
    have l257 := r25.lt
    have l258 := r11.lt
    (refine LL.call (R.call rfl rfl rfl) rfl rfl rfl (ron_any fi _ _ _ k fol r _ bb (hF2 _ q) (by omega) (by omega)) ?_; rintro e W255 ⟨vo, bo1, rfl, ho1, hbo1, b252⟩; refine ⟨_, rfl, ?_⟩; obtain ⟨d1, a1, n1, c1, k1, f1, dn1, x1, rfl⟩ := ho1.form)
    have zb252 := b252.size
    replace r41 := r41.up b252
    replace r25 := r25.up b252
    replace b8 := b8.trans (b252.mono b8.size)
    replace q := q.trans (b252.mono q.size)
    replace r11 := r11.up b252
    refine LL.storeN (vs := [Value.int IntKind.i64 d1, Value.slice a1 n1 c1, Value.int IntKind.i64 k1, Value.bool f1, Value.bool dn1, Value.int IntKind.i64 x1.1, Value.int IntKind.i64 x1.2.1, strV x1.2.2.1, Value.int IntKind.i64 x1.2.2.2.1, Value.int IntKind.i64 x1.2.2.2.2]) rfl rfl rfl rfl r41 (by exact Nat.le_of_ble_eq_true rfl) (ones_of rfl) rfl rfl ?_
    intro W273 r274 b272 z275
    have hlb272 := r41.lt
    replace r274 : RowL W273 _ 33 [Value.int IntKind.i64 d1, Value.slice a1 n1 c1, Value.int IntKind.i64 k1, Value.bool f1, Value.bool dn1, Value.int IntKind.i64 x1.1, Value.int IntKind.i64 x1.2.1, strV x1.2.2.1, Value.int IntKind.i64 x1.2.2.2.1, Value.int IntKind.i64 x1.2.2.2.2] := r274
    clear r41
    replace ho1 := ho1.gr b272 (by omega)
    replace r25 := r25.gr b272 (by have := r25.lt; omega)
    replace b8 := b8.grown b272 b8.size (by rintro k ⟨⟩; omega)
    replace q := q.grown b272 q.size (by rintro k ⟨⟩; omega)
    replace r11 := r11.gr b272 (by have := r11.lt; omega)
    have r41 := r274
    clear r274
    refine LL.nilS ?_
    refine CC.ret ?_
    refine EE.inR ?_
    refine EE.thenR ?_
    refine EE.retC rfl rfl (lvNc (RowL.cells0 (by assumption)) (by rfl) (by rfl)) ?_
    exact ⟨_, bo1, rfl, (by rw [← hS]; exact ho1), by omega, q⟩
    refine LL.val (R.assign rfl rfl) rfl rfl rfl ?_
    refine LL.nilS ?_
    refine CC.seq ?_
    refine CC.block ?_
    refine CC.seq ?_
    refine CC.region ?_
    refine LL.val (R.move rfl rfl) rfl rfl rfl ?_
    (refine LL.val (R.eqS (a := p) (b := [46, 46]) (c := true) rfl rfl rfl (by simp [hpp])) rfl rfl rfl ?_)
    refine LL.val (R.assign rfl rfl) rfl rfl rfl ?_
    refine LL.nilS ?_
    refine CC.yes rfl ?_
    refine CC.seq ?_
    refine CC.region ?_
    refine LL.val (R.field rfl rfl (I.fld rfl)) rfl rfl rfl ?_
    refine LL.val (R.load rfl rfl (I.ld1 rfl (RowL.cell r25 rfl))) rfl rfl rfl ?_
    refine LL.val (R.field rfl rfl (I.fld rfl)) rfl rfl rfl ?_
    refine LL.store rfl rfl rfl rfl r11 (by exact Nat.le_of_ble_eq_true rfl) rfl rfl rfl rfl ?_
    intro W347 r348 b346 z349
    have hlb346 := r11.lt
    replace r348 : RowL W347 _ 33 [Value.int IntKind.i64 fi, Value.slice a' (n - 1) c', Value.int IntKind.i64 ↑k, Value.bool fol, Value.bool false, Value.int IntKind.i64 0, Value.int IntKind.i64 0, strV [], Value.int IntKind.i64 0, Value.int IntKind.i64 0] := r348
    clear r11
    replace r41 := r41.gr b346 (by have := r41.lt; omega)
    replace r25 := r25.gr b346 (by have := r25.lt; omega)
    replace b8 := b8.grown b346 b8.size (by rintro k ⟨⟩; omega)
    replace q := q.grown b346 q.size (by rintro k ⟨⟩; omega)
    have r11 := r348
    clear r348
    refine LL.nilS ?_
    refine CC.seq ?_
    refine CC.region ?_
    refine LL.val (R.load rfl rfl (I.ldNc (vs := [Value.int IntKind.i64 fi, Value.slice a' (n - 1) c', Value.int IntKind.i64 ↑k, Value.bool fol, Value.bool false, Value.int IntKind.i64 0, Value.int IntKind.i64 0, strV [], Value.int IntKind.i64 0, Value.int IntKind.i64 0]) (RowL.cells r11 rfl) (by rfl) (by rfl))) rfl rfl rfl ?_
    have l364 := r41.lt
    have l365 := r25.lt
    have l366 := r11.lt
    (refine LL.call (R.call rfl rfl rfl) rfl rfl rfl (ron_any fi _ _ _ k fol r _ bb (hF2 _ q) (by omega) (by omega)) ?_; rintro e W363 ⟨vo, bo1, rfl, ho1, hbo1, b360⟩; refine ⟨_, rfl, ?_⟩; obtain ⟨d1, a1, n1, c1, k1, f1, dn1, x1, rfl⟩ := ho1.form)
    have zb360 := b360.size
    replace r41 := r41.up b360
    replace r25 := r25.up b360
    replace b8 := b8.trans (b360.mono b8.size)
    replace q := q.trans (b360.mono q.size)
    replace r11 := r11.up b360
    refine LL.storeN (vs := [Value.int IntKind.i64 d1, Value.slice a1 n1 c1, Value.int IntKind.i64 k1, Value.bool f1, Value.bool dn1, Value.int IntKind.i64 x1.1, Value.int IntKind.i64 x1.2.1, strV x1.2.2.1, Value.int IntKind.i64 x1.2.2.2.1, Value.int IntKind.i64 x1.2.2.2.2]) rfl rfl rfl rfl r41 (by exact Nat.le_of_ble_eq_true rfl) (ones_of rfl) rfl rfl ?_
    intro W381 r382 b380 z383
    have hlb380 := r41.lt
    replace r382 : RowL W381 _ 33 [Value.int IntKind.i64 d1, Value.slice a1 n1 c1, Value.int IntKind.i64 k1, Value.bool f1, Value.bool dn1, Value.int IntKind.i64 x1.1, Value.int IntKind.i64 x1.2.1, strV x1.2.2.1, Value.int IntKind.i64 x1.2.2.2.1, Value.int IntKind.i64 x1.2.2.2.2] := r382
    clear r41
    replace ho1 := ho1.gr b380 (by omega)
    replace r25 := r25.gr b380 (by have := r25.lt; omega)
    replace b8 := b8.grown b380 b8.size (by rintro k ⟨⟩; omega)
    replace q := q.grown b380 q.size (by rintro k ⟨⟩; omega)
    replace r11 := r11.gr b380 (by have := r11.lt; omega)
    have r41 := r382
    clear r382
    refine LL.nilS ?_
    refine CC.ret ?_
    refine EE.inR ?_
    refine EE.thenR ?_
    refine EE.retC rfl rfl (lvNc (RowL.cells0 (by assumption)) (by rfl) (by rfl)) ?_
    exact ⟨_, bo1, rfl, (by rw [← hS]; exact ho1), by omega, q⟩
  rw [if_neg hpp] at hS
  by_cases hf3 : fk = 3 ∧ (r ≠ [] ∨ fol = true)
  · rw [if_pos hf3] at hS
    obtain ⟨h3, hor⟩ := hf3
    have ht' := ht h3
    cases fol with
    | true =>
      by_cases hn1 : 1 < n
      · refine X.fn Tryd.func17 rfl (n := 69) rfl rfl ?_
        refine CC.seq ?_
        refine CC.region ?_
        refine LL.box [Value.int IntKind.i64 d, Value.slice (some { block := bb, off := off }) n c, Value.int IntKind.i64 ↑k, Value.bool true, Value.bool false, Value.int IntKind.i64 0, Value.int IntKind.i64 0, strV [], Value.int IntKind.i64 0, Value.int IntKind.i64 0] rfl rfl rfl rfl rfl ?_
        intro Wa9 ga10 ega10 ra11 za12 ba8
        replace q := q.trans (ba8.mono q.size)
        have la21 := ra11.lt
        refine LL.box [Value.int IntKind.i64 fi, Value.int IntKind.i64 fk, strV ft] rfl rfl rfl rfl rfl ?_
        intro Wa23 ga24 ega24 ra25 za26 ba22
        replace ra11 := ra11.up ba22
        replace ba8 := ba8.trans (ba22.mono ba8.size)
        replace q := q.trans (ba22.mono q.size)
        have la36 := ra25.lt
        have la37 := ra11.lt
        refine LL.alloc ([Value.int IntKind.i64 0, Value.slice none 0 0, Value.int IntKind.i64 0, Value.bool false, Value.bool false, Value.int IntKind.i64 0, Value.int IntKind.i64 0, Value.string { data := { toList := [] } }, Value.int IntKind.i64 0, Value.int IntKind.i64 0]) rfl rfl rfl rfl rfl ?_
        intro Wa39 ga40 ega40 ra41 za42 ba38
        replace ra25 := ra25.up ba38
        replace ba22 := ba22.trans (ba38.mono ba22.size)
        replace ra11 := ra11.up ba38
        replace ba8 := ba8.trans (ba38.mono ba8.size)
        replace q := q.trans (ba38.mono q.size)
        refine LL.nilS ?_
        refine CC.seq ?_
        refine CC.region ?_
        refine LL.val (R.field rfl rfl (I.fld rfl)) rfl rfl rfl ?_
        refine LL.val (R.load rfl rfl (I.ld1 rfl (RowL.cell ra11 rfl))) rfl rfl rfl ?_
        refine LL.val (R.index rfl rfl rfl (I.ixS1c rfl rfl (by omega))) rfl rfl rfl ?_
        (refine LL.val (R.load rfl rfl (I.ld1 rfl (c0 _ q))) rfl rfl rfl ?_)
        refine LL.val (R.assign rfl rfl) rfl rfl rfl ?_
        refine LL.nilS ?_
        refine CC.seq ?_
        refine CC.region ?_
        refine LL.val (R.field rfl rfl (I.fld rfl)) rfl rfl rfl ?_
        refine LL.val (R.load rfl rfl (I.ld1 rfl (RowL.cell ra11 rfl))) rfl rfl rfl ?_
        (refine LL.val (R.slice rfl rfl rfl rfl rfl (hsl _ _ _ _ rfl)) rfl rfl rfl ?_)
        refine LL.val (R.field rfl rfl (I.fld rfl)) rfl rfl rfl ?_
        refine LL.store rfl rfl rfl rfl ra11 (by exact Nat.le_of_ble_eq_true rfl) rfl rfl rfl rfl ?_
        intro Wa124 ra125 ba123 za126
        have hlba123 := ra11.lt
        replace ra125 : RowL Wa124 _ 33 [Value.int IntKind.i64 d, Value.slice a' (n - 1) c', Value.int IntKind.i64 ↑k, Value.bool true, Value.bool false, Value.int IntKind.i64 0, Value.int IntKind.i64 0, strV [], Value.int IntKind.i64 0, Value.int IntKind.i64 0] := ra125
        clear ra11
        replace ra41 := ra41.gr ba123 (by have := ra41.lt; omega)
        replace ra25 := ra25.gr ba123 (by have := ra25.lt; omega)
        replace ba8 := ba8.grown ba123 ba8.size (by rintro k ⟨⟩; omega)
        replace q := q.grown ba123 q.size (by rintro k ⟨⟩; omega)
        have ra11 := ra125
        clear ra125
        refine LL.nilS ?_
        refine CC.seq ?_
        refine CC.region ?_
        refine LL.val (R.field rfl rfl (I.fld rfl)) rfl rfl rfl ?_
        refine LL.val (R.load rfl rfl (I.ld1 rfl (RowL.cell ra11 rfl))) rfl rfl rfl ?_
        refine LL.val (R.len rfl rfl rfl rfl) rfl rfl rfl ?_
        refine LL.val (R.gtT rfl rfl rfl (by omega)) rfl rfl rfl ?_
        refine LL.val (R.assign rfl rfl) rfl rfl rfl ?_
        refine LL.nilS ?_
        refine CC.seq ?_
        refine CC.block ?_
        refine CC.seq ?_
        refine CC.region ?_
        refine LL.val (R.move rfl rfl) rfl rfl rfl ?_
        (refine LL.val (R.eqS (a := p) (b := [46, 46]) (c := false) rfl rfl rfl (by simp [hpp])) rfl rfl rfl ?_)
        refine LL.val (R.assign rfl rfl) rfl rfl rfl ?_
        refine LL.nilS ?_
        refine CC.no rfl ?_
        refine CC.seq ?_
        refine CC.region ?_
        refine LL.val (R.field rfl rfl (I.fld rfl)) rfl rfl rfl ?_
        refine LL.val (R.load rfl rfl (I.ld1 rfl (RowL.cell ra25 rfl))) rfl rfl rfl ?_
        refine LL.val (R.eqT rfl rfl rfl (by omega)) rfl rfl rfl ?_
        refine LL.val (R.move rfl rfl) rfl rfl rfl ?_
        refine LL.val (R.move rfl rfl) rfl rfl rfl ?_
        refine LL.val (R.move rfl rfl) rfl rfl rfl ?_
        refine LL.skip rfl rfl ?_
        refine LL.skip rfl rfl ?_
        refine LL.val (R.pick rfl rfl rfl) rfl rfl rfl ?_
        refine LL.val (R.pick rfl rfl rfl) rfl rfl rfl ?_
        refine LL.val (R.assign rfl rfl) rfl rfl rfl ?_
        refine LL.nilS ?_
        refine CC.yes rfl ?_
        refine CC.seq ?_
        refine CC.region ?_
        refine LL.val (R.load rfl rfl (I.ldNc (vs := [Value.int IntKind.i64 d, Value.slice a' (n - 1) c', Value.int IntKind.i64 ↑k, Value.bool true, Value.bool false, Value.int IntKind.i64 0, Value.int IntKind.i64 0, strV [], Value.int IntKind.i64 0, Value.int IntKind.i64 0]) (RowL.cells ra11 rfl) (by rfl) (by rfl))) rfl rfl rfl ?_
        refine LL.val (R.field rfl rfl (I.fld rfl)) rfl rfl rfl ?_
        refine LL.val (R.load rfl rfl (I.ld1 rfl (RowL.cell ra25 rfl))) rfl rfl rfl ?_
        have la321 := ra41.lt
        have la322 := ra25.lt
        have la323 := ra11.lt
        (refine LL.call (R.call rfl rfl rfl) rfl rfl rfl (rlink_any d _ _ _ k true r ft _ bb (hF2 _ q) (by omega) ht' hk (by omega)) ?_; rintro e Wa320 ⟨vo, bo1, rfl, ho1, hbo1, ba317⟩; refine ⟨_, rfl, ?_⟩; obtain ⟨d1, a1, n1, c1, k1, f1, dn1, x1, rfl⟩ := ho1.form)
        have zba317 := ba317.size
        replace ra41 := ra41.up ba317
        replace ra25 := ra25.up ba317
        replace ba8 := ba8.trans (ba317.mono ba8.size)
        replace q := q.trans (ba317.mono q.size)
        replace ra11 := ra11.up ba317
        refine LL.storeN (vs := [Value.int IntKind.i64 d1, Value.slice a1 n1 c1, Value.int IntKind.i64 k1, Value.bool f1, Value.bool dn1, Value.int IntKind.i64 x1.1, Value.int IntKind.i64 x1.2.1, strV x1.2.2.1, Value.int IntKind.i64 x1.2.2.2.1, Value.int IntKind.i64 x1.2.2.2.2]) rfl rfl rfl rfl ra41 (by exact Nat.le_of_ble_eq_true rfl) (ones_of rfl) rfl rfl ?_
        intro Wa338 ra339 ba337 za340
        have hlba337 := ra41.lt
        replace ra339 : RowL Wa338 _ 33 [Value.int IntKind.i64 d1, Value.slice a1 n1 c1, Value.int IntKind.i64 k1, Value.bool f1, Value.bool dn1, Value.int IntKind.i64 x1.1, Value.int IntKind.i64 x1.2.1, strV x1.2.2.1, Value.int IntKind.i64 x1.2.2.2.1, Value.int IntKind.i64 x1.2.2.2.2] := ra339
        clear ra41
        replace ho1 := ho1.gr ba337 (by omega)
        replace ra25 := ra25.gr ba337 (by have := ra25.lt; omega)
        replace ba8 := ba8.grown ba337 ba8.size (by rintro k ⟨⟩; omega)
        replace q := q.grown ba337 q.size (by rintro k ⟨⟩; omega)
        replace ra11 := ra11.gr ba337 (by have := ra11.lt; omega)
        have ra41 := ra339
        clear ra339
        refine LL.nilS ?_
        refine CC.ret ?_
        refine EE.inR ?_
        refine EE.thenR ?_
        refine EE.retC rfl rfl (lvNc (RowL.cells0 (by assumption)) (by rfl) (by rfl)) ?_
        exact ⟨_, bo1, rfl, (by rw [← hS]; exact ho1), by omega, q⟩
      · refine X.fn Tryd.func17 rfl (n := 69) rfl rfl ?_
        refine CC.seq ?_
        refine CC.region ?_
        refine LL.box [Value.int IntKind.i64 d, Value.slice (some { block := bb, off := off }) n c, Value.int IntKind.i64 ↑k, Value.bool true, Value.bool false, Value.int IntKind.i64 0, Value.int IntKind.i64 0, strV [], Value.int IntKind.i64 0, Value.int IntKind.i64 0] rfl rfl rfl rfl rfl ?_
        intro Wb9 gb10 egb10 rb11 zb12 bb8
        replace q := q.trans (bb8.mono q.size)
        have lb21 := rb11.lt
        refine LL.box [Value.int IntKind.i64 fi, Value.int IntKind.i64 fk, strV ft] rfl rfl rfl rfl rfl ?_
        intro Wb23 gb24 egb24 rb25 zb26 bb22
        replace rb11 := rb11.up bb22
        replace bb8 := bb8.trans (bb22.mono bb8.size)
        replace q := q.trans (bb22.mono q.size)
        have lb36 := rb25.lt
        have lb37 := rb11.lt
        refine LL.alloc ([Value.int IntKind.i64 0, Value.slice none 0 0, Value.int IntKind.i64 0, Value.bool false, Value.bool false, Value.int IntKind.i64 0, Value.int IntKind.i64 0, Value.string { data := { toList := [] } }, Value.int IntKind.i64 0, Value.int IntKind.i64 0]) rfl rfl rfl rfl rfl ?_
        intro Wb39 gb40 egb40 rb41 zb42 bb38
        replace rb25 := rb25.up bb38
        replace bb22 := bb22.trans (bb38.mono bb22.size)
        replace rb11 := rb11.up bb38
        replace bb8 := bb8.trans (bb38.mono bb8.size)
        replace q := q.trans (bb38.mono q.size)
        refine LL.nilS ?_
        refine CC.seq ?_
        refine CC.region ?_
        refine LL.val (R.field rfl rfl (I.fld rfl)) rfl rfl rfl ?_
        refine LL.val (R.load rfl rfl (I.ld1 rfl (RowL.cell rb11 rfl))) rfl rfl rfl ?_
        refine LL.val (R.index rfl rfl rfl (I.ixS1c rfl rfl (by omega))) rfl rfl rfl ?_
        (refine LL.val (R.load rfl rfl (I.ld1 rfl (c0 _ q))) rfl rfl rfl ?_)
        refine LL.val (R.assign rfl rfl) rfl rfl rfl ?_
        refine LL.nilS ?_
        refine CC.seq ?_
        refine CC.region ?_
        refine LL.val (R.field rfl rfl (I.fld rfl)) rfl rfl rfl ?_
        refine LL.val (R.load rfl rfl (I.ld1 rfl (RowL.cell rb11 rfl))) rfl rfl rfl ?_
        (refine LL.val (R.slice rfl rfl rfl rfl rfl (hsl _ _ _ _ rfl)) rfl rfl rfl ?_)
        refine LL.val (R.field rfl rfl (I.fld rfl)) rfl rfl rfl ?_
        refine LL.store rfl rfl rfl rfl rb11 (by exact Nat.le_of_ble_eq_true rfl) rfl rfl rfl rfl ?_
        intro Wb124 rb125 bb123 zb126
        have hlbb123 := rb11.lt
        replace rb125 : RowL Wb124 _ 33 [Value.int IntKind.i64 d, Value.slice a' (n - 1) c', Value.int IntKind.i64 ↑k, Value.bool true, Value.bool false, Value.int IntKind.i64 0, Value.int IntKind.i64 0, strV [], Value.int IntKind.i64 0, Value.int IntKind.i64 0] := rb125
        clear rb11
        replace rb41 := rb41.gr bb123 (by have := rb41.lt; omega)
        replace rb25 := rb25.gr bb123 (by have := rb25.lt; omega)
        replace bb8 := bb8.grown bb123 bb8.size (by rintro k ⟨⟩; omega)
        replace q := q.grown bb123 q.size (by rintro k ⟨⟩; omega)
        have rb11 := rb125
        clear rb125
        refine LL.nilS ?_
        refine CC.seq ?_
        refine CC.region ?_
        refine LL.val (R.field rfl rfl (I.fld rfl)) rfl rfl rfl ?_
        refine LL.val (R.load rfl rfl (I.ld1 rfl (RowL.cell rb11 rfl))) rfl rfl rfl ?_
        refine LL.val (R.len rfl rfl rfl rfl) rfl rfl rfl ?_
        refine LL.val (R.gtF rfl rfl rfl (by omega)) rfl rfl rfl ?_
        refine LL.val (R.assign rfl rfl) rfl rfl rfl ?_
        refine LL.nilS ?_
        refine CC.seq ?_
        refine CC.block ?_
        refine CC.seq ?_
        refine CC.region ?_
        refine LL.val (R.move rfl rfl) rfl rfl rfl ?_
        (refine LL.val (R.eqS (a := p) (b := [46, 46]) (c := false) rfl rfl rfl (by simp [hpp])) rfl rfl rfl ?_)
        refine LL.val (R.assign rfl rfl) rfl rfl rfl ?_
        refine LL.nilS ?_
        refine CC.no rfl ?_
        refine CC.seq ?_
        refine CC.region ?_
        refine LL.val (R.field rfl rfl (I.fld rfl)) rfl rfl rfl ?_
        refine LL.val (R.load rfl rfl (I.ld1 rfl (RowL.cell rb25 rfl))) rfl rfl rfl ?_
        refine LL.val (R.eqT rfl rfl rfl (by omega)) rfl rfl rfl ?_
        refine LL.val (R.move rfl rfl) rfl rfl rfl ?_
        refine LL.val (R.move rfl rfl) rfl rfl rfl ?_
        refine LL.val (R.move rfl rfl) rfl rfl rfl ?_
        refine LL.val (R.field rfl rfl (I.fld rfl)) rfl rfl rfl ?_
        refine LL.val (R.load rfl rfl (I.ld1 rfl (RowL.cell rb11 rfl))) rfl rfl rfl ?_
        refine LL.val (R.pick rfl rfl rfl) rfl rfl rfl ?_
        refine LL.val (R.pick rfl rfl rfl) rfl rfl rfl ?_
        refine LL.val (R.assign rfl rfl) rfl rfl rfl ?_
        refine LL.nilS ?_
        refine CC.yes rfl ?_
        refine CC.seq ?_
        refine CC.region ?_
        refine LL.val (R.load rfl rfl (I.ldNc (vs := [Value.int IntKind.i64 d, Value.slice a' (n - 1) c', Value.int IntKind.i64 ↑k, Value.bool true, Value.bool false, Value.int IntKind.i64 0, Value.int IntKind.i64 0, strV [], Value.int IntKind.i64 0, Value.int IntKind.i64 0]) (RowL.cells rb11 rfl) (by rfl) (by rfl))) rfl rfl rfl ?_
        refine LL.val (R.field rfl rfl (I.fld rfl)) rfl rfl rfl ?_
        refine LL.val (R.load rfl rfl (I.ld1 rfl (RowL.cell rb25 rfl))) rfl rfl rfl ?_
        have lb341 := rb41.lt
        have lb342 := rb25.lt
        have lb343 := rb11.lt
        (refine LL.call (R.call rfl rfl rfl) rfl rfl rfl (rlink_any d _ _ _ k true r ft _ bb (hF2 _ q) (by omega) ht' hk (by omega)) ?_; rintro e Wb340 ⟨vo, bo1, rfl, ho1, hbo1, bb337⟩; refine ⟨_, rfl, ?_⟩; obtain ⟨d1, a1, n1, c1, k1, f1, dn1, x1, rfl⟩ := ho1.form)
        have zbb337 := bb337.size
        replace rb41 := rb41.up bb337
        replace rb25 := rb25.up bb337
        replace bb8 := bb8.trans (bb337.mono bb8.size)
        replace q := q.trans (bb337.mono q.size)
        replace rb11 := rb11.up bb337
        refine LL.storeN (vs := [Value.int IntKind.i64 d1, Value.slice a1 n1 c1, Value.int IntKind.i64 k1, Value.bool f1, Value.bool dn1, Value.int IntKind.i64 x1.1, Value.int IntKind.i64 x1.2.1, strV x1.2.2.1, Value.int IntKind.i64 x1.2.2.2.1, Value.int IntKind.i64 x1.2.2.2.2]) rfl rfl rfl rfl rb41 (by exact Nat.le_of_ble_eq_true rfl) (ones_of rfl) rfl rfl ?_
        intro Wb358 rb359 bb357 zb360
        have hlbb357 := rb41.lt
        replace rb359 : RowL Wb358 _ 33 [Value.int IntKind.i64 d1, Value.slice a1 n1 c1, Value.int IntKind.i64 k1, Value.bool f1, Value.bool dn1, Value.int IntKind.i64 x1.1, Value.int IntKind.i64 x1.2.1, strV x1.2.2.1, Value.int IntKind.i64 x1.2.2.2.1, Value.int IntKind.i64 x1.2.2.2.2] := rb359
        clear rb41
        replace ho1 := ho1.gr bb357 (by omega)
        replace rb25 := rb25.gr bb357 (by have := rb25.lt; omega)
        replace bb8 := bb8.grown bb357 bb8.size (by rintro k ⟨⟩; omega)
        replace q := q.grown bb357 q.size (by rintro k ⟨⟩; omega)
        replace rb11 := rb11.gr bb357 (by have := rb11.lt; omega)
        have rb41 := rb359
        clear rb359
        refine LL.nilS ?_
        refine CC.ret ?_
        refine EE.inR ?_
        refine EE.thenR ?_
        refine EE.retC rfl rfl (lvNc (RowL.cells0 (by assumption)) (by rfl) (by rfl)) ?_
        exact ⟨_, bo1, rfl, (by rw [← hS]; exact ho1), by omega, q⟩
    | false =>
      have hn1 : 1 < n := hr0.1 (by rcases hor with h | h; exact h; cases h)
      refine X.fn Tryd.func17 rfl (n := 69) rfl rfl ?_
      refine CC.seq ?_
      refine CC.region ?_
      refine LL.box [Value.int IntKind.i64 d, Value.slice (some { block := bb, off := off }) n c, Value.int IntKind.i64 ↑k, Value.bool false, Value.bool false, Value.int IntKind.i64 0, Value.int IntKind.i64 0, strV [], Value.int IntKind.i64 0, Value.int IntKind.i64 0] rfl rfl rfl rfl rfl ?_
      intro Wc9 gc10 egc10 rc11 zc12 bc8
      replace q := q.trans (bc8.mono q.size)
      have lc21 := rc11.lt
      refine LL.box [Value.int IntKind.i64 fi, Value.int IntKind.i64 fk, strV ft] rfl rfl rfl rfl rfl ?_
      intro Wc23 gc24 egc24 rc25 zc26 bc22
      replace rc11 := rc11.up bc22
      replace bc8 := bc8.trans (bc22.mono bc8.size)
      replace q := q.trans (bc22.mono q.size)
      have lc36 := rc25.lt
      have lc37 := rc11.lt
      refine LL.alloc ([Value.int IntKind.i64 0, Value.slice none 0 0, Value.int IntKind.i64 0, Value.bool false, Value.bool false, Value.int IntKind.i64 0, Value.int IntKind.i64 0, Value.string { data := { toList := [] } }, Value.int IntKind.i64 0, Value.int IntKind.i64 0]) rfl rfl rfl rfl rfl ?_
      intro Wc39 gc40 egc40 rc41 zc42 bc38
      replace rc25 := rc25.up bc38
      replace bc22 := bc22.trans (bc38.mono bc22.size)
      replace rc11 := rc11.up bc38
      replace bc8 := bc8.trans (bc38.mono bc8.size)
      replace q := q.trans (bc38.mono q.size)
      refine LL.nilS ?_
      refine CC.seq ?_
      refine CC.region ?_
      refine LL.val (R.field rfl rfl (I.fld rfl)) rfl rfl rfl ?_
      refine LL.val (R.load rfl rfl (I.ld1 rfl (RowL.cell rc11 rfl))) rfl rfl rfl ?_
      refine LL.val (R.index rfl rfl rfl (I.ixS1c rfl rfl (by omega))) rfl rfl rfl ?_
      (refine LL.val (R.load rfl rfl (I.ld1 rfl (c0 _ q))) rfl rfl rfl ?_)
      refine LL.val (R.assign rfl rfl) rfl rfl rfl ?_
      refine LL.nilS ?_
      refine CC.seq ?_
      refine CC.region ?_
      refine LL.val (R.field rfl rfl (I.fld rfl)) rfl rfl rfl ?_
      refine LL.val (R.load rfl rfl (I.ld1 rfl (RowL.cell rc11 rfl))) rfl rfl rfl ?_
      (refine LL.val (R.slice rfl rfl rfl rfl rfl (hsl _ _ _ _ rfl)) rfl rfl rfl ?_)
      refine LL.val (R.field rfl rfl (I.fld rfl)) rfl rfl rfl ?_
      refine LL.store rfl rfl rfl rfl rc11 (by exact Nat.le_of_ble_eq_true rfl) rfl rfl rfl rfl ?_
      intro Wc124 rc125 bc123 zc126
      have hlbc123 := rc11.lt
      replace rc125 : RowL Wc124 _ 33 [Value.int IntKind.i64 d, Value.slice a' (n - 1) c', Value.int IntKind.i64 ↑k, Value.bool false, Value.bool false, Value.int IntKind.i64 0, Value.int IntKind.i64 0, strV [], Value.int IntKind.i64 0, Value.int IntKind.i64 0] := rc125
      clear rc11
      replace rc41 := rc41.gr bc123 (by have := rc41.lt; omega)
      replace rc25 := rc25.gr bc123 (by have := rc25.lt; omega)
      replace bc8 := bc8.grown bc123 bc8.size (by rintro k ⟨⟩; omega)
      replace q := q.grown bc123 q.size (by rintro k ⟨⟩; omega)
      have rc11 := rc125
      clear rc125
      refine LL.nilS ?_
      refine CC.seq ?_
      refine CC.region ?_
      refine LL.val (R.field rfl rfl (I.fld rfl)) rfl rfl rfl ?_
      refine LL.val (R.load rfl rfl (I.ld1 rfl (RowL.cell rc11 rfl))) rfl rfl rfl ?_
      refine LL.val (R.len rfl rfl rfl rfl) rfl rfl rfl ?_
      refine LL.val (R.gtT rfl rfl rfl (by omega)) rfl rfl rfl ?_
      refine LL.val (R.assign rfl rfl) rfl rfl rfl ?_
      refine LL.nilS ?_
      refine CC.seq ?_
      refine CC.block ?_
      refine CC.seq ?_
      refine CC.region ?_
      refine LL.val (R.move rfl rfl) rfl rfl rfl ?_
      (refine LL.val (R.eqS (a := p) (b := [46, 46]) (c := false) rfl rfl rfl (by simp [hpp])) rfl rfl rfl ?_)
      refine LL.val (R.assign rfl rfl) rfl rfl rfl ?_
      refine LL.nilS ?_
      refine CC.no rfl ?_
      refine CC.seq ?_
      refine CC.region ?_
      refine LL.val (R.field rfl rfl (I.fld rfl)) rfl rfl rfl ?_
      refine LL.val (R.load rfl rfl (I.ld1 rfl (RowL.cell rc25 rfl))) rfl rfl rfl ?_
      refine LL.val (R.eqT rfl rfl rfl (by omega)) rfl rfl rfl ?_
      refine LL.val (R.move rfl rfl) rfl rfl rfl ?_
      refine LL.val (R.move rfl rfl) rfl rfl rfl ?_
      refine LL.val (R.move rfl rfl) rfl rfl rfl ?_
      refine LL.skip rfl rfl ?_
      refine LL.skip rfl rfl ?_
      refine LL.val (R.pick rfl rfl rfl) rfl rfl rfl ?_
      refine LL.val (R.pick rfl rfl rfl) rfl rfl rfl ?_
      refine LL.val (R.assign rfl rfl) rfl rfl rfl ?_
      refine LL.nilS ?_
      refine CC.yes rfl ?_
      refine CC.seq ?_
      refine CC.region ?_
      refine LL.val (R.load rfl rfl (I.ldNc (vs := [Value.int IntKind.i64 d, Value.slice a' (n - 1) c', Value.int IntKind.i64 ↑k, Value.bool false, Value.bool false, Value.int IntKind.i64 0, Value.int IntKind.i64 0, strV [], Value.int IntKind.i64 0, Value.int IntKind.i64 0]) (RowL.cells rc11 rfl) (by rfl) (by rfl))) rfl rfl rfl ?_
      refine LL.val (R.field rfl rfl (I.fld rfl)) rfl rfl rfl ?_
      refine LL.val (R.load rfl rfl (I.ld1 rfl (RowL.cell rc25 rfl))) rfl rfl rfl ?_
      have lc321 := rc41.lt
      have lc322 := rc25.lt
      have lc323 := rc11.lt
      (refine LL.call (R.call rfl rfl rfl) rfl rfl rfl (rlink_any d _ _ _ k false r ft _ bb (hF2 _ q) (by omega) ht' hk (by omega)) ?_; rintro e Wc320 ⟨vo, bo1, rfl, ho1, hbo1, bc317⟩; refine ⟨_, rfl, ?_⟩; obtain ⟨d1, a1, n1, c1, k1, f1, dn1, x1, rfl⟩ := ho1.form)
      have zbc317 := bc317.size
      replace rc41 := rc41.up bc317
      replace rc25 := rc25.up bc317
      replace bc8 := bc8.trans (bc317.mono bc8.size)
      replace q := q.trans (bc317.mono q.size)
      replace rc11 := rc11.up bc317
      refine LL.storeN (vs := [Value.int IntKind.i64 d1, Value.slice a1 n1 c1, Value.int IntKind.i64 k1, Value.bool f1, Value.bool dn1, Value.int IntKind.i64 x1.1, Value.int IntKind.i64 x1.2.1, strV x1.2.2.1, Value.int IntKind.i64 x1.2.2.2.1, Value.int IntKind.i64 x1.2.2.2.2]) rfl rfl rfl rfl rc41 (by exact Nat.le_of_ble_eq_true rfl) (ones_of rfl) rfl rfl ?_
      intro Wc338 rc339 bc337 zc340
      have hlbc337 := rc41.lt
      replace rc339 : RowL Wc338 _ 33 [Value.int IntKind.i64 d1, Value.slice a1 n1 c1, Value.int IntKind.i64 k1, Value.bool f1, Value.bool dn1, Value.int IntKind.i64 x1.1, Value.int IntKind.i64 x1.2.1, strV x1.2.2.1, Value.int IntKind.i64 x1.2.2.2.1, Value.int IntKind.i64 x1.2.2.2.2] := rc339
      clear rc41
      replace ho1 := ho1.gr bc337 (by omega)
      replace rc25 := rc25.gr bc337 (by have := rc25.lt; omega)
      replace bc8 := bc8.grown bc337 bc8.size (by rintro k ⟨⟩; omega)
      replace q := q.grown bc337 q.size (by rintro k ⟨⟩; omega)
      replace rc11 := rc11.gr bc337 (by have := rc11.lt; omega)
      have rc41 := rc339
      clear rc339
      refine LL.nilS ?_
      refine CC.ret ?_
      refine EE.inR ?_
      refine EE.thenR ?_
      refine EE.retC rfl rfl (lvNc (RowL.cells0 (by assumption)) (by rfl) (by rfl)) ?_
      exact ⟨_, bo1, rfl, (by rw [← hS]; exact ho1), by omega, q⟩
  rw [if_neg hf3] at hS
  have hf3' : fk = 3 → ¬(1 < n) ∧ fol = false := fun h3 => by
    have h := not_and.1 hf3 h3
    rw [not_or] at h
    exact ⟨fun h1 => h.1 (hr0.2 h1), by cases fol; rfl; exact absurd rfl h.2⟩
  by_cases hf2 : fk = 2 ∧ r ≠ []
  · rw [if_pos hf2] at hS
    have hn1 := hr0.1 hf2.2
    have h2 := hf2.1
    clear hf3' hf3 hf2
    refine X.fn Tryd.func17 rfl (n := 69) rfl rfl ?_
    refine CC.seq ?_
    refine CC.region ?_
    refine LL.box [Value.int IntKind.i64 d, Value.slice (some { block := bb, off := off }) n c, Value.int IntKind.i64 ↑k, Value.bool fol, Value.bool false, Value.int IntKind.i64 0, Value.int IntKind.i64 0, strV [], Value.int IntKind.i64 0, Value.int IntKind.i64 0] rfl rfl rfl rfl rfl ?_
    intro Wd9 gd10 egd10 rd11 zd12 bd8
    replace q := q.trans (bd8.mono q.size)
    have ld21 := rd11.lt
    refine LL.box [Value.int IntKind.i64 fi, Value.int IntKind.i64 fk, strV ft] rfl rfl rfl rfl rfl ?_
    intro Wd23 gd24 egd24 rd25 zd26 bd22
    replace rd11 := rd11.up bd22
    replace bd8 := bd8.trans (bd22.mono bd8.size)
    replace q := q.trans (bd22.mono q.size)
    have ld36 := rd25.lt
    have ld37 := rd11.lt
    refine LL.alloc ([Value.int IntKind.i64 0, Value.slice none 0 0, Value.int IntKind.i64 0, Value.bool false, Value.bool false, Value.int IntKind.i64 0, Value.int IntKind.i64 0, Value.string { data := { toList := [] } }, Value.int IntKind.i64 0, Value.int IntKind.i64 0]) rfl rfl rfl rfl rfl ?_
    intro Wd39 gd40 egd40 rd41 zd42 bd38
    replace rd25 := rd25.up bd38
    replace bd22 := bd22.trans (bd38.mono bd22.size)
    replace rd11 := rd11.up bd38
    replace bd8 := bd8.trans (bd38.mono bd8.size)
    replace q := q.trans (bd38.mono q.size)
    refine LL.nilS ?_
    refine CC.seq ?_
    refine CC.region ?_
    refine LL.val (R.field rfl rfl (I.fld rfl)) rfl rfl rfl ?_
    refine LL.val (R.load rfl rfl (I.ld1 rfl (RowL.cell rd11 rfl))) rfl rfl rfl ?_
    refine LL.val (R.index rfl rfl rfl (I.ixS1c rfl rfl (by omega))) rfl rfl rfl ?_
    (refine LL.val (R.load rfl rfl (I.ld1 rfl (c0 _ q))) rfl rfl rfl ?_)
    refine LL.val (R.assign rfl rfl) rfl rfl rfl ?_
    refine LL.nilS ?_
    refine CC.seq ?_
    refine CC.region ?_
    refine LL.val (R.field rfl rfl (I.fld rfl)) rfl rfl rfl ?_
    refine LL.val (R.load rfl rfl (I.ld1 rfl (RowL.cell rd11 rfl))) rfl rfl rfl ?_
    (refine LL.val (R.slice rfl rfl rfl rfl rfl (hsl _ _ _ _ rfl)) rfl rfl rfl ?_)
    refine LL.val (R.field rfl rfl (I.fld rfl)) rfl rfl rfl ?_
    refine LL.store rfl rfl rfl rfl rd11 (by exact Nat.le_of_ble_eq_true rfl) rfl rfl rfl rfl ?_
    intro Wd124 rd125 bd123 zd126
    have hlbd123 := rd11.lt
    replace rd125 : RowL Wd124 _ 33 [Value.int IntKind.i64 d, Value.slice a' (n - 1) c', Value.int IntKind.i64 ↑k, Value.bool fol, Value.bool false, Value.int IntKind.i64 0, Value.int IntKind.i64 0, strV [], Value.int IntKind.i64 0, Value.int IntKind.i64 0] := rd125
    clear rd11
    replace rd41 := rd41.gr bd123 (by have := rd41.lt; omega)
    replace rd25 := rd25.gr bd123 (by have := rd25.lt; omega)
    replace bd8 := bd8.grown bd123 bd8.size (by rintro k ⟨⟩; omega)
    replace q := q.grown bd123 q.size (by rintro k ⟨⟩; omega)
    have rd11 := rd125
    clear rd125
    refine LL.nilS ?_
    refine CC.seq ?_
    refine CC.region ?_
    refine LL.val (R.field rfl rfl (I.fld rfl)) rfl rfl rfl ?_
    refine LL.val (R.load rfl rfl (I.ld1 rfl (RowL.cell rd11 rfl))) rfl rfl rfl ?_
    refine LL.val (R.len rfl rfl rfl rfl) rfl rfl rfl ?_
    refine LL.val (R.gtT rfl rfl rfl (by omega)) rfl rfl rfl ?_
    refine LL.val (R.assign rfl rfl) rfl rfl rfl ?_
    refine LL.nilS ?_
    refine CC.seq ?_
    refine CC.block ?_
    refine CC.seq ?_
    refine CC.region ?_
    refine LL.val (R.move rfl rfl) rfl rfl rfl ?_
    (refine LL.val (R.eqS (a := p) (b := [46, 46]) (c := false) rfl rfl rfl (by simp [hpp])) rfl rfl rfl ?_)
    refine LL.val (R.assign rfl rfl) rfl rfl rfl ?_
    refine LL.nilS ?_
    refine CC.no rfl ?_
    refine CC.seq ?_
    refine CC.region ?_
    refine LL.val (R.field rfl rfl (I.fld rfl)) rfl rfl rfl ?_
    refine LL.val (R.load rfl rfl (I.ld1 rfl (RowL.cell rd25 rfl))) rfl rfl rfl ?_
    refine LL.val (R.eqF rfl rfl rfl (by omega)) rfl rfl rfl ?_
    refine LL.val (R.move rfl rfl) rfl rfl rfl ?_
    refine LL.skip rfl rfl ?_
    refine LL.skip rfl rfl ?_
    refine LL.skip rfl rfl ?_
    refine LL.skip rfl rfl ?_
    refine LL.skip rfl rfl ?_
    refine LL.val (R.pick rfl rfl rfl) rfl rfl rfl ?_
    refine LL.val (R.assign rfl rfl) rfl rfl rfl ?_
    refine LL.nilS ?_
    refine CC.no rfl ?_
    refine CC.seq ?_
    refine CC.region ?_
    refine LL.val (R.field rfl rfl (I.fld rfl)) rfl rfl rfl ?_
    refine LL.val (R.load rfl rfl (I.ld1 rfl (RowL.cell rd25 rfl))) rfl rfl rfl ?_
    refine LL.val (R.eqT rfl rfl rfl (by omega)) rfl rfl rfl ?_
    refine LL.val (R.move rfl rfl) rfl rfl rfl ?_
    refine LL.val (R.move rfl rfl) rfl rfl rfl ?_
    refine LL.val (R.pick rfl rfl rfl) rfl rfl rfl ?_
    refine LL.val (R.assign rfl rfl) rfl rfl rfl ?_
    refine LL.nilS ?_
    refine CC.yes rfl ?_
    refine CC.seq ?_
    refine CC.region ?_
    refine LL.val (R.field rfl rfl (I.fld rfl)) rfl rfl rfl ?_
    refine LL.val (R.load rfl rfl (I.ld1 rfl (RowL.cell rd25 rfl))) rfl rfl rfl ?_
    refine LL.val (R.field rfl rfl (I.fld rfl)) rfl rfl rfl ?_
    refine LL.store rfl rfl rfl rfl rd11 (by exact Nat.le_of_ble_eq_true rfl) rfl rfl rfl rfl ?_
    intro Wd368 rd369 bd367 zd370
    have hlbd367 := rd11.lt
    replace rd369 : RowL Wd368 _ 33 [Value.int IntKind.i64 fi, Value.slice a' (n - 1) c', Value.int IntKind.i64 ↑k, Value.bool fol, Value.bool false, Value.int IntKind.i64 0, Value.int IntKind.i64 0, strV [], Value.int IntKind.i64 0, Value.int IntKind.i64 0] := rd369
    clear rd11
    replace rd41 := rd41.gr bd367 (by have := rd41.lt; omega)
    replace rd25 := rd25.gr bd367 (by have := rd25.lt; omega)
    replace bd8 := bd8.grown bd367 bd8.size (by rintro k ⟨⟩; omega)
    replace q := q.grown bd367 q.size (by rintro k ⟨⟩; omega)
    have rd11 := rd369
    clear rd369
    refine LL.nilS ?_
    refine CC.seq ?_
    refine CC.region ?_
    refine LL.val (R.load rfl rfl (I.ldNc (vs := [Value.int IntKind.i64 fi, Value.slice a' (n - 1) c', Value.int IntKind.i64 ↑k, Value.bool fol, Value.bool false, Value.int IntKind.i64 0, Value.int IntKind.i64 0, strV [], Value.int IntKind.i64 0, Value.int IntKind.i64 0]) (RowL.cells rd11 rfl) (by rfl) (by rfl))) rfl rfl rfl ?_
    have ld385 := rd41.lt
    have ld386 := rd25.lt
    have ld387 := rd11.lt
    (refine LL.call (R.call rfl rfl rfl) rfl rfl rfl (ron_any fi _ _ _ k fol r _ bb (hF2 _ q) (by omega) (by omega)) ?_; rintro e Wd384 ⟨vo, bo1, rfl, ho1, hbo1, bd381⟩; refine ⟨_, rfl, ?_⟩; obtain ⟨d1, a1, n1, c1, k1, f1, dn1, x1, rfl⟩ := ho1.form)
    have zbd381 := bd381.size
    replace rd41 := rd41.up bd381
    replace rd25 := rd25.up bd381
    replace bd8 := bd8.trans (bd381.mono bd8.size)
    replace q := q.trans (bd381.mono q.size)
    replace rd11 := rd11.up bd381
    refine LL.storeN (vs := [Value.int IntKind.i64 d1, Value.slice a1 n1 c1, Value.int IntKind.i64 k1, Value.bool f1, Value.bool dn1, Value.int IntKind.i64 x1.1, Value.int IntKind.i64 x1.2.1, strV x1.2.2.1, Value.int IntKind.i64 x1.2.2.2.1, Value.int IntKind.i64 x1.2.2.2.2]) rfl rfl rfl rfl rd41 (by exact Nat.le_of_ble_eq_true rfl) (ones_of rfl) rfl rfl ?_
    intro Wd402 rd403 bd401 zd404
    have hlbd401 := rd41.lt
    replace rd403 : RowL Wd402 _ 33 [Value.int IntKind.i64 d1, Value.slice a1 n1 c1, Value.int IntKind.i64 k1, Value.bool f1, Value.bool dn1, Value.int IntKind.i64 x1.1, Value.int IntKind.i64 x1.2.1, strV x1.2.2.1, Value.int IntKind.i64 x1.2.2.2.1, Value.int IntKind.i64 x1.2.2.2.2] := rd403
    clear rd41
    replace ho1 := ho1.gr bd401 (by omega)
    replace rd25 := rd25.gr bd401 (by have := rd25.lt; omega)
    replace bd8 := bd8.grown bd401 bd8.size (by rintro k ⟨⟩; omega)
    replace q := q.grown bd401 q.size (by rintro k ⟨⟩; omega)
    replace rd11 := rd11.gr bd401 (by have := rd11.lt; omega)
    have rd41 := rd403
    clear rd403
    refine LL.nilS ?_
    refine CC.ret ?_
    refine EE.inR ?_
    refine EE.thenR ?_
    refine EE.retC rfl rfl (lvNc (RowL.cells0 (by assumption)) (by rfl) (by rfl)) ?_
    exact ⟨_, bo1, rfl, (by rw [← hS]; exact ho1), by omega, q⟩
  rw [if_neg hf2] at hS
  by_cases hr : r ≠ []
  · rw [if_pos hr] at hS
    have hn1 := hr0.1 hr
    have hk3 : fk ≠ 3 := fun h => (hf3' h).1 hn1
    have hk2 : fk ≠ 2 := fun h => hf2 ⟨h, hr⟩
    clear hf3' hf3 hf2
    refine X.fn Tryd.func17 rfl (n := 69) rfl rfl ?_
    refine CC.seq ?_
    refine CC.region ?_
    refine LL.box [Value.int IntKind.i64 d, Value.slice (some { block := bb, off := off }) n c, Value.int IntKind.i64 ↑k, Value.bool fol, Value.bool false, Value.int IntKind.i64 0, Value.int IntKind.i64 0, strV [], Value.int IntKind.i64 0, Value.int IntKind.i64 0] rfl rfl rfl rfl rfl ?_
    intro We9 ge10 ege10 re11 ze12 be8
    replace q := q.trans (be8.mono q.size)
    have le21 := re11.lt
    refine LL.box [Value.int IntKind.i64 fi, Value.int IntKind.i64 fk, strV ft] rfl rfl rfl rfl rfl ?_
    intro We23 ge24 ege24 re25 ze26 be22
    replace re11 := re11.up be22
    replace be8 := be8.trans (be22.mono be8.size)
    replace q := q.trans (be22.mono q.size)
    have le36 := re25.lt
    have le37 := re11.lt
    refine LL.alloc ([Value.int IntKind.i64 0, Value.slice none 0 0, Value.int IntKind.i64 0, Value.bool false, Value.bool false, Value.int IntKind.i64 0, Value.int IntKind.i64 0, Value.string { data := { toList := [] } }, Value.int IntKind.i64 0, Value.int IntKind.i64 0]) rfl rfl rfl rfl rfl ?_
    intro We39 ge40 ege40 re41 ze42 be38
    replace re25 := re25.up be38
    replace be22 := be22.trans (be38.mono be22.size)
    replace re11 := re11.up be38
    replace be8 := be8.trans (be38.mono be8.size)
    replace q := q.trans (be38.mono q.size)
    refine LL.nilS ?_
    refine CC.seq ?_
    refine CC.region ?_
    refine LL.val (R.field rfl rfl (I.fld rfl)) rfl rfl rfl ?_
    refine LL.val (R.load rfl rfl (I.ld1 rfl (RowL.cell re11 rfl))) rfl rfl rfl ?_
    refine LL.val (R.index rfl rfl rfl (I.ixS1c rfl rfl (by omega))) rfl rfl rfl ?_
    (refine LL.val (R.load rfl rfl (I.ld1 rfl (c0 _ q))) rfl rfl rfl ?_)
    refine LL.val (R.assign rfl rfl) rfl rfl rfl ?_
    refine LL.nilS ?_
    refine CC.seq ?_
    refine CC.region ?_
    refine LL.val (R.field rfl rfl (I.fld rfl)) rfl rfl rfl ?_
    refine LL.val (R.load rfl rfl (I.ld1 rfl (RowL.cell re11 rfl))) rfl rfl rfl ?_
    (refine LL.val (R.slice rfl rfl rfl rfl rfl (hsl _ _ _ _ rfl)) rfl rfl rfl ?_)
    refine LL.val (R.field rfl rfl (I.fld rfl)) rfl rfl rfl ?_
    refine LL.store rfl rfl rfl rfl re11 (by exact Nat.le_of_ble_eq_true rfl) rfl rfl rfl rfl ?_
    intro We124 re125 be123 ze126
    have hlbe123 := re11.lt
    replace re125 : RowL We124 _ 33 [Value.int IntKind.i64 d, Value.slice a' (n - 1) c', Value.int IntKind.i64 ↑k, Value.bool fol, Value.bool false, Value.int IntKind.i64 0, Value.int IntKind.i64 0, strV [], Value.int IntKind.i64 0, Value.int IntKind.i64 0] := re125
    clear re11
    replace re41 := re41.gr be123 (by have := re41.lt; omega)
    replace re25 := re25.gr be123 (by have := re25.lt; omega)
    replace be8 := be8.grown be123 be8.size (by rintro k ⟨⟩; omega)
    replace q := q.grown be123 q.size (by rintro k ⟨⟩; omega)
    have re11 := re125
    clear re125
    refine LL.nilS ?_
    refine CC.seq ?_
    refine CC.region ?_
    refine LL.val (R.field rfl rfl (I.fld rfl)) rfl rfl rfl ?_
    refine LL.val (R.load rfl rfl (I.ld1 rfl (RowL.cell re11 rfl))) rfl rfl rfl ?_
    refine LL.val (R.len rfl rfl rfl rfl) rfl rfl rfl ?_
    refine LL.val (R.gtT rfl rfl rfl (by omega)) rfl rfl rfl ?_
    refine LL.val (R.assign rfl rfl) rfl rfl rfl ?_
    refine LL.nilS ?_
    refine CC.seq ?_
    refine CC.block ?_
    refine CC.seq ?_
    refine CC.region ?_
    refine LL.val (R.move rfl rfl) rfl rfl rfl ?_
    (refine LL.val (R.eqS (a := p) (b := [46, 46]) (c := false) rfl rfl rfl (by simp [hpp])) rfl rfl rfl ?_)
    refine LL.val (R.assign rfl rfl) rfl rfl rfl ?_
    refine LL.nilS ?_
    refine CC.no rfl ?_
    refine CC.seq ?_
    refine CC.region ?_
    refine LL.val (R.field rfl rfl (I.fld rfl)) rfl rfl rfl ?_
    refine LL.val (R.load rfl rfl (I.ld1 rfl (RowL.cell re25 rfl))) rfl rfl rfl ?_
    refine LL.val (R.eqF rfl rfl rfl (by omega)) rfl rfl rfl ?_
    refine LL.val (R.move rfl rfl) rfl rfl rfl ?_
    refine LL.skip rfl rfl ?_
    refine LL.skip rfl rfl ?_
    refine LL.skip rfl rfl ?_
    refine LL.skip rfl rfl ?_
    refine LL.skip rfl rfl ?_
    refine LL.val (R.pick rfl rfl rfl) rfl rfl rfl ?_
    refine LL.val (R.assign rfl rfl) rfl rfl rfl ?_
    refine LL.nilS ?_
    refine CC.no rfl ?_
    refine CC.seq ?_
    refine CC.region ?_
    refine LL.val (R.field rfl rfl (I.fld rfl)) rfl rfl rfl ?_
    refine LL.val (R.load rfl rfl (I.ld1 rfl (RowL.cell re25 rfl))) rfl rfl rfl ?_
    refine LL.val (R.eqF rfl rfl rfl (by omega)) rfl rfl rfl ?_
    refine LL.val (R.move rfl rfl) rfl rfl rfl ?_
    refine LL.skip rfl rfl ?_
    refine LL.val (R.pick rfl rfl rfl) rfl rfl rfl ?_
    refine LL.val (R.assign rfl rfl) rfl rfl rfl ?_
    refine LL.nilS ?_
    refine CC.no rfl ?_
    refine CC.seq ?_
    refine CC.region ?_
    refine LL.val (R.move rfl rfl) rfl rfl rfl ?_
    refine LL.val (R.assign rfl rfl) rfl rfl rfl ?_
    refine LL.nilS ?_
    refine CC.yes rfl ?_
    refine CC.seq ?_
    refine CC.region ?_
    refine LL.val (R.load rfl rfl (I.ldNc (vs := [Value.int IntKind.i64 d, Value.slice a' (n - 1) c', Value.int IntKind.i64 ↑k, Value.bool fol, Value.bool false, Value.int IntKind.i64 0, Value.int IntKind.i64 0, strV [], Value.int IntKind.i64 0, Value.int IntKind.i64 0]) (RowL.cells re11 rfl) (by rfl) (by rfl))) rfl rfl rfl ?_
    refine LL.val (R.buildV rfl rfl (v := .agg #[Value.int IntKind.i64 271, Value.int IntKind.i64 0, Value.string { data := #[] }, Value.int IntKind.i64 0, Value.int IntKind.i64 0]) (fun _ => by kernel_rfl)) rfl rfl rfl ?_
    have le361 := re41.lt
    have le362 := re25.lt
    have le363 := re11.lt
    (refine LL.call (R.call rfl rfl rfl) rfl rfl rfl (rdone_any d _ _ _ _ _ _ wdZ (271, 0, [], 0, 0) _) ?_; rintro e We360 ⟨rfl, be357⟩; refine ⟨_, rfl, ?_⟩)
    have zbe357 := be357.size
    replace re41 := re41.up be357
    replace re25 := re25.up be357
    replace be8 := be8.trans (be357.mono be8.size)
    replace q := q.trans (be357.mono q.size)
    replace re11 := re11.up be357
    refine LL.storeN (vs := [Value.int IntKind.i64 d, Value.slice none 0 0, Value.int IntKind.i64 ↑k, Value.bool fol, Value.bool true, Value.int IntKind.i64 271, Value.int IntKind.i64 0, strV [], Value.int IntKind.i64 0, Value.int IntKind.i64 0]) rfl rfl rfl rfl re41 (by exact Nat.le_of_ble_eq_true rfl) (ones_of rfl) rfl rfl ?_
    intro We378 re379 be377 ze380
    have hlbe377 := re41.lt
    replace re379 : RowL We378 _ 33 [Value.int IntKind.i64 d, Value.slice none 0 0, Value.int IntKind.i64 ↑k, Value.bool fol, Value.bool true, Value.int IntKind.i64 271, Value.int IntKind.i64 0, strV [], Value.int IntKind.i64 0, Value.int IntKind.i64 0] := re379
    clear re41
    replace re25 := re25.gr be377 (by have := re25.lt; omega)
    replace be8 := be8.grown be377 be8.size (by rintro k ⟨⟩; omega)
    replace q := q.grown be377 q.size (by rintro k ⟨⟩; omega)
    replace re11 := re11.gr be377 (by have := re11.lt; omega)
    have re41 := re379
    clear re379
    refine LL.nilS ?_
    refine CC.ret ?_
    refine EE.inR ?_
    refine EE.thenR ?_
    refine EE.retC rfl rfl (lvNc (RowL.cells0 (by assumption)) (by rfl) (by rfl)) ?_
    exact ⟨_, 0, rfl, (by rw [← hS]; exact RwR.fin (271, 0, [], 0, 0) _ _ _ rfl rfl), by omega, q⟩
  rw [if_neg hr] at hS
  have hn1 : ¬(1 < n) := fun h => hr (hr0.2 h)
  clear hf2
  by_cases h3 : fk = 3
  · obtain ⟨_, rfl⟩ := hf3' h3
    clear hf3' hf3
    refine X.fn Tryd.func17 rfl (n := 69) rfl rfl ?_
    refine CC.seq ?_
    refine CC.region ?_
    refine LL.box [Value.int IntKind.i64 d, Value.slice (some { block := bb, off := off }) n c, Value.int IntKind.i64 ↑k, Value.bool false, Value.bool false, Value.int IntKind.i64 0, Value.int IntKind.i64 0, strV [], Value.int IntKind.i64 0, Value.int IntKind.i64 0] rfl rfl rfl rfl rfl ?_
    intro Wf9 gf10 egf10 rf11 zf12 bf8
    replace q := q.trans (bf8.mono q.size)
    have lf21 := rf11.lt
    refine LL.box [Value.int IntKind.i64 fi, Value.int IntKind.i64 fk, strV ft] rfl rfl rfl rfl rfl ?_
    intro Wf23 gf24 egf24 rf25 zf26 bf22
    replace rf11 := rf11.up bf22
    replace bf8 := bf8.trans (bf22.mono bf8.size)
    replace q := q.trans (bf22.mono q.size)
    have lf36 := rf25.lt
    have lf37 := rf11.lt
    refine LL.alloc ([Value.int IntKind.i64 0, Value.slice none 0 0, Value.int IntKind.i64 0, Value.bool false, Value.bool false, Value.int IntKind.i64 0, Value.int IntKind.i64 0, Value.string { data := { toList := [] } }, Value.int IntKind.i64 0, Value.int IntKind.i64 0]) rfl rfl rfl rfl rfl ?_
    intro Wf39 gf40 egf40 rf41 zf42 bf38
    replace rf25 := rf25.up bf38
    replace bf22 := bf22.trans (bf38.mono bf22.size)
    replace rf11 := rf11.up bf38
    replace bf8 := bf8.trans (bf38.mono bf8.size)
    replace q := q.trans (bf38.mono q.size)
    refine LL.nilS ?_
    refine CC.seq ?_
    refine CC.region ?_
    refine LL.val (R.field rfl rfl (I.fld rfl)) rfl rfl rfl ?_
    refine LL.val (R.load rfl rfl (I.ld1 rfl (RowL.cell rf11 rfl))) rfl rfl rfl ?_
    refine LL.val (R.index rfl rfl rfl (I.ixS1c rfl rfl (by omega))) rfl rfl rfl ?_
    (refine LL.val (R.load rfl rfl (I.ld1 rfl (c0 _ q))) rfl rfl rfl ?_)
    refine LL.val (R.assign rfl rfl) rfl rfl rfl ?_
    refine LL.nilS ?_
    refine CC.seq ?_
    refine CC.region ?_
    refine LL.val (R.field rfl rfl (I.fld rfl)) rfl rfl rfl ?_
    refine LL.val (R.load rfl rfl (I.ld1 rfl (RowL.cell rf11 rfl))) rfl rfl rfl ?_
    (refine LL.val (R.slice rfl rfl rfl rfl rfl (hsl _ _ _ _ rfl)) rfl rfl rfl ?_)
    refine LL.val (R.field rfl rfl (I.fld rfl)) rfl rfl rfl ?_
    refine LL.store rfl rfl rfl rfl rf11 (by exact Nat.le_of_ble_eq_true rfl) rfl rfl rfl rfl ?_
    intro Wf124 rf125 bf123 zf126
    have hlbf123 := rf11.lt
    replace rf125 : RowL Wf124 _ 33 [Value.int IntKind.i64 d, Value.slice a' (n - 1) c', Value.int IntKind.i64 ↑k, Value.bool false, Value.bool false, Value.int IntKind.i64 0, Value.int IntKind.i64 0, strV [], Value.int IntKind.i64 0, Value.int IntKind.i64 0] := rf125
    clear rf11
    replace rf41 := rf41.gr bf123 (by have := rf41.lt; omega)
    replace rf25 := rf25.gr bf123 (by have := rf25.lt; omega)
    replace bf8 := bf8.grown bf123 bf8.size (by rintro k ⟨⟩; omega)
    replace q := q.grown bf123 q.size (by rintro k ⟨⟩; omega)
    have rf11 := rf125
    clear rf125
    refine LL.nilS ?_
    refine CC.seq ?_
    refine CC.region ?_
    refine LL.val (R.field rfl rfl (I.fld rfl)) rfl rfl rfl ?_
    refine LL.val (R.load rfl rfl (I.ld1 rfl (RowL.cell rf11 rfl))) rfl rfl rfl ?_
    refine LL.val (R.len rfl rfl rfl rfl) rfl rfl rfl ?_
    refine LL.val (R.gtF rfl rfl rfl (by omega)) rfl rfl rfl ?_
    refine LL.val (R.assign rfl rfl) rfl rfl rfl ?_
    refine LL.nilS ?_
    refine CC.seq ?_
    refine CC.block ?_
    refine CC.seq ?_
    refine CC.region ?_
    refine LL.val (R.move rfl rfl) rfl rfl rfl ?_
    (refine LL.val (R.eqS (a := p) (b := [46, 46]) (c := false) rfl rfl rfl (by simp [hpp])) rfl rfl rfl ?_)
    refine LL.val (R.assign rfl rfl) rfl rfl rfl ?_
    refine LL.nilS ?_
    refine CC.no rfl ?_
    refine CC.seq ?_
    refine CC.region ?_
    refine LL.val (R.field rfl rfl (I.fld rfl)) rfl rfl rfl ?_
    refine LL.val (R.load rfl rfl (I.ld1 rfl (RowL.cell rf25 rfl))) rfl rfl rfl ?_
    refine LL.val (R.eqT rfl rfl rfl (by omega)) rfl rfl rfl ?_
    refine LL.val (R.move rfl rfl) rfl rfl rfl ?_
    refine LL.val (R.move rfl rfl) rfl rfl rfl ?_
    refine LL.val (R.move rfl rfl) rfl rfl rfl ?_
    refine LL.val (R.field rfl rfl (I.fld rfl)) rfl rfl rfl ?_
    refine LL.val (R.load rfl rfl (I.ld1 rfl (RowL.cell rf11 rfl))) rfl rfl rfl ?_
    refine LL.val (R.pick rfl rfl rfl) rfl rfl rfl ?_
    refine LL.val (R.pick rfl rfl rfl) rfl rfl rfl ?_
    refine LL.val (R.assign rfl rfl) rfl rfl rfl ?_
    refine LL.nilS ?_
    refine CC.no rfl ?_
    refine CC.seq ?_
    refine CC.region ?_
    refine LL.val (R.field rfl rfl (I.fld rfl)) rfl rfl rfl ?_
    refine LL.val (R.load rfl rfl (I.ld1 rfl (RowL.cell rf25 rfl))) rfl rfl rfl ?_
    refine LL.val (R.eqF rfl rfl rfl (by omega)) rfl rfl rfl ?_
    refine LL.val (R.move rfl rfl) rfl rfl rfl ?_
    refine LL.skip rfl rfl ?_
    refine LL.val (R.pick rfl rfl rfl) rfl rfl rfl ?_
    refine LL.val (R.assign rfl rfl) rfl rfl rfl ?_
    refine LL.nilS ?_
    refine CC.no rfl ?_
    refine CC.seq ?_
    refine CC.region ?_
    refine LL.val (R.move rfl rfl) rfl rfl rfl ?_
    refine LL.val (R.assign rfl rfl) rfl rfl rfl ?_
    refine LL.nilS ?_
    refine CC.no rfl ?_
    refine CC.skip ?_
    refine EE.inN ?_
    refine EE.thenN ?_
    refine CC.seq ?_
    refine CC.region ?_
    refine LL.val (R.load rfl rfl (I.ldNc (vs := [Value.int IntKind.i64 d, Value.slice a' (n - 1) c', Value.int IntKind.i64 ↑k, Value.bool false, Value.bool false, Value.int IntKind.i64 0, Value.int IntKind.i64 0, strV [], Value.int IntKind.i64 0, Value.int IntKind.i64 0]) (RowL.cells rf11 rfl) (by rfl) (by rfl))) rfl rfl rfl ?_
    refine LL.val (R.field rfl rfl (I.fld rfl)) rfl rfl rfl ?_
    refine LL.val (R.load rfl rfl (I.ld1 rfl (RowL.cell rf11 rfl))) rfl rfl rfl ?_
    refine LL.val (R.move rfl rfl) rfl rfl rfl ?_
    refine LL.val (R.field rfl rfl (I.fld rfl)) rfl rfl rfl ?_
    refine LL.val (R.load rfl rfl (I.ld1 rfl (RowL.cell rf25 rfl))) rfl rfl rfl ?_
    refine LL.val (R.field rfl rfl (I.fld rfl)) rfl rfl rfl ?_
    refine LL.val (R.load rfl rfl (I.ld1 rfl (RowL.cell rf25 rfl))) rfl rfl rfl ?_
    refine LL.val (R.buildV rfl rfl (v := .agg #[Value.int IntKind.i64 0, Value.int IntKind.i64 d, Value.string { data := List.toArray p }, Value.int IntKind.i64 fi, Value.int IntKind.i64 fk]) (fun _ => by kernel_rfl)) rfl rfl rfl ?_
    have lf481 := rf41.lt
    have lf482 := rf25.lt
    have lf483 := rf11.lt
    (refine LL.call (R.call rfl rfl rfl) rfl rfl rfl (rdone_any d _ _ _ _ _ _ wdZ (0, d, p, fi, fk) _) ?_; rintro e Wf480 ⟨rfl, bf477⟩; refine ⟨_, rfl, ?_⟩)
    have zbf477 := bf477.size
    replace rf41 := rf41.up bf477
    replace rf25 := rf25.up bf477
    replace bf8 := bf8.trans (bf477.mono bf8.size)
    replace q := q.trans (bf477.mono q.size)
    replace rf11 := rf11.up bf477
    refine LL.storeN (vs := [Value.int IntKind.i64 d, Value.slice none 0 0, Value.int IntKind.i64 ↑k, Value.bool false, Value.bool true, Value.int IntKind.i64 0, Value.int IntKind.i64 d, strV p, Value.int IntKind.i64 fi, Value.int IntKind.i64 fk]) rfl rfl rfl rfl rf41 (by exact Nat.le_of_ble_eq_true rfl) (ones_of rfl) rfl rfl ?_
    intro Wf498 rf499 bf497 zf500
    have hlbf497 := rf41.lt
    replace rf499 : RowL Wf498 _ 33 [Value.int IntKind.i64 d, Value.slice none 0 0, Value.int IntKind.i64 ↑k, Value.bool false, Value.bool true, Value.int IntKind.i64 0, Value.int IntKind.i64 d, strV p, Value.int IntKind.i64 fi, Value.int IntKind.i64 fk] := rf499
    clear rf41
    replace rf25 := rf25.gr bf497 (by have := rf25.lt; omega)
    replace bf8 := bf8.grown bf497 bf8.size (by rintro k ⟨⟩; omega)
    replace q := q.grown bf497 q.size (by rintro k ⟨⟩; omega)
    replace rf11 := rf11.gr bf497 (by have := rf11.lt; omega)
    have rf41 := rf499
    clear rf499
    refine LL.nilS ?_
    refine CC.ret ?_
    refine EE.retC rfl rfl (lvNc (RowL.cells0 (by assumption)) (by rfl) (by rfl)) ?_
    exact ⟨_, 0, rfl, (by rw [← hS]; exact RwR.fin (0, d, p, fi, fk) _ _ _ rfl rfl), by omega, q⟩
  · clear hf3' hf3
    refine X.fn Tryd.func17 rfl (n := 69) rfl rfl ?_
    refine CC.seq ?_
    refine CC.region ?_
    refine LL.box [Value.int IntKind.i64 d, Value.slice (some { block := bb, off := off }) n c, Value.int IntKind.i64 ↑k, Value.bool fol, Value.bool false, Value.int IntKind.i64 0, Value.int IntKind.i64 0, strV [], Value.int IntKind.i64 0, Value.int IntKind.i64 0] rfl rfl rfl rfl rfl ?_
    intro Wg9 gg10 egg10 rg11 zg12 bg8
    replace q := q.trans (bg8.mono q.size)
    have lg21 := rg11.lt
    refine LL.box [Value.int IntKind.i64 fi, Value.int IntKind.i64 fk, strV ft] rfl rfl rfl rfl rfl ?_
    intro Wg23 gg24 egg24 rg25 zg26 bg22
    replace rg11 := rg11.up bg22
    replace bg8 := bg8.trans (bg22.mono bg8.size)
    replace q := q.trans (bg22.mono q.size)
    have lg36 := rg25.lt
    have lg37 := rg11.lt
    refine LL.alloc ([Value.int IntKind.i64 0, Value.slice none 0 0, Value.int IntKind.i64 0, Value.bool false, Value.bool false, Value.int IntKind.i64 0, Value.int IntKind.i64 0, Value.string { data := { toList := [] } }, Value.int IntKind.i64 0, Value.int IntKind.i64 0]) rfl rfl rfl rfl rfl ?_
    intro Wg39 gg40 egg40 rg41 zg42 bg38
    replace rg25 := rg25.up bg38
    replace bg22 := bg22.trans (bg38.mono bg22.size)
    replace rg11 := rg11.up bg38
    replace bg8 := bg8.trans (bg38.mono bg8.size)
    replace q := q.trans (bg38.mono q.size)
    refine LL.nilS ?_
    refine CC.seq ?_
    refine CC.region ?_
    refine LL.val (R.field rfl rfl (I.fld rfl)) rfl rfl rfl ?_
    refine LL.val (R.load rfl rfl (I.ld1 rfl (RowL.cell rg11 rfl))) rfl rfl rfl ?_
    refine LL.val (R.index rfl rfl rfl (I.ixS1c rfl rfl (by omega))) rfl rfl rfl ?_
    (refine LL.val (R.load rfl rfl (I.ld1 rfl (c0 _ q))) rfl rfl rfl ?_)
    refine LL.val (R.assign rfl rfl) rfl rfl rfl ?_
    refine LL.nilS ?_
    refine CC.seq ?_
    refine CC.region ?_
    refine LL.val (R.field rfl rfl (I.fld rfl)) rfl rfl rfl ?_
    refine LL.val (R.load rfl rfl (I.ld1 rfl (RowL.cell rg11 rfl))) rfl rfl rfl ?_
    (refine LL.val (R.slice rfl rfl rfl rfl rfl (hsl _ _ _ _ rfl)) rfl rfl rfl ?_)
    refine LL.val (R.field rfl rfl (I.fld rfl)) rfl rfl rfl ?_
    refine LL.store rfl rfl rfl rfl rg11 (by exact Nat.le_of_ble_eq_true rfl) rfl rfl rfl rfl ?_
    intro Wg124 rg125 bg123 zg126
    have hlbg123 := rg11.lt
    replace rg125 : RowL Wg124 _ 33 [Value.int IntKind.i64 d, Value.slice a' (n - 1) c', Value.int IntKind.i64 ↑k, Value.bool fol, Value.bool false, Value.int IntKind.i64 0, Value.int IntKind.i64 0, strV [], Value.int IntKind.i64 0, Value.int IntKind.i64 0] := rg125
    clear rg11
    replace rg41 := rg41.gr bg123 (by have := rg41.lt; omega)
    replace rg25 := rg25.gr bg123 (by have := rg25.lt; omega)
    replace bg8 := bg8.grown bg123 bg8.size (by rintro k ⟨⟩; omega)
    replace q := q.grown bg123 q.size (by rintro k ⟨⟩; omega)
    have rg11 := rg125
    clear rg125
    refine LL.nilS ?_
    refine CC.seq ?_
    refine CC.region ?_
    refine LL.val (R.field rfl rfl (I.fld rfl)) rfl rfl rfl ?_
    refine LL.val (R.load rfl rfl (I.ld1 rfl (RowL.cell rg11 rfl))) rfl rfl rfl ?_
    refine LL.val (R.len rfl rfl rfl rfl) rfl rfl rfl ?_
    refine LL.val (R.gtF rfl rfl rfl (by omega)) rfl rfl rfl ?_
    refine LL.val (R.assign rfl rfl) rfl rfl rfl ?_
    refine LL.nilS ?_
    refine CC.seq ?_
    refine CC.block ?_
    refine CC.seq ?_
    refine CC.region ?_
    refine LL.val (R.move rfl rfl) rfl rfl rfl ?_
    (refine LL.val (R.eqS (a := p) (b := [46, 46]) (c := false) rfl rfl rfl (by simp [hpp])) rfl rfl rfl ?_)
    refine LL.val (R.assign rfl rfl) rfl rfl rfl ?_
    refine LL.nilS ?_
    refine CC.no rfl ?_
    refine CC.seq ?_
    refine CC.region ?_
    refine LL.val (R.field rfl rfl (I.fld rfl)) rfl rfl rfl ?_
    refine LL.val (R.load rfl rfl (I.ld1 rfl (RowL.cell rg25 rfl))) rfl rfl rfl ?_
    refine LL.val (R.eqF rfl rfl rfl (by omega)) rfl rfl rfl ?_
    refine LL.val (R.move rfl rfl) rfl rfl rfl ?_
    refine LL.skip rfl rfl ?_
    refine LL.skip rfl rfl ?_
    refine LL.skip rfl rfl ?_
    refine LL.skip rfl rfl ?_
    refine LL.skip rfl rfl ?_
    refine LL.val (R.pick rfl rfl rfl) rfl rfl rfl ?_
    refine LL.val (R.assign rfl rfl) rfl rfl rfl ?_
    refine LL.nilS ?_
    refine CC.no rfl ?_
    refine CC.seq ?_
    refine CC.region ?_
    refine LL.val (R.field rfl rfl (I.fld rfl)) rfl rfl rfl ?_
    refine LL.val (R.load rfl rfl (I.ld1 rfl (RowL.cell rg25 rfl))) rfl rfl rfl ?_
    refine LL.vsplit (fun h => R.eqT rfl rfl rfl h) (fun h => R.eqF rfl rfl rfl h) rfl rfl rfl (fun cg287 => ?_) (fun cg287 => ?_)
    refine LL.val (R.move rfl rfl) rfl rfl rfl ?_
    refine LL.val (R.move rfl rfl) rfl rfl rfl ?_
    refine LL.val (R.pick rfl rfl rfl) rfl rfl rfl ?_
    refine LL.val (R.assign rfl rfl) rfl rfl rfl ?_
    refine LL.nilS ?_
    refine CC.no rfl ?_
    refine CC.seq ?_
    refine CC.region ?_
    refine LL.val (R.move rfl rfl) rfl rfl rfl ?_
    refine LL.val (R.assign rfl rfl) rfl rfl rfl ?_
    refine LL.nilS ?_
    refine CC.no rfl ?_
    refine CC.skip ?_
    refine EE.inN ?_
    refine EE.thenN ?_
    refine CC.seq ?_
    refine CC.region ?_
    refine LL.val (R.load rfl rfl (I.ldNc (vs := [Value.int IntKind.i64 d, Value.slice a' (n - 1) c', Value.int IntKind.i64 ↑k, Value.bool fol, Value.bool false, Value.int IntKind.i64 0, Value.int IntKind.i64 0, strV [], Value.int IntKind.i64 0, Value.int IntKind.i64 0]) (RowL.cells rg11 rfl) (by rfl) (by rfl))) rfl rfl rfl ?_
    refine LL.val (R.field rfl rfl (I.fld rfl)) rfl rfl rfl ?_
    refine LL.val (R.load rfl rfl (I.ld1 rfl (RowL.cell rg11 rfl))) rfl rfl rfl ?_
    refine LL.val (R.move rfl rfl) rfl rfl rfl ?_
    refine LL.val (R.field rfl rfl (I.fld rfl)) rfl rfl rfl ?_
    refine LL.val (R.load rfl rfl (I.ld1 rfl (RowL.cell rg25 rfl))) rfl rfl rfl ?_
    refine LL.val (R.field rfl rfl (I.fld rfl)) rfl rfl rfl ?_
    refine LL.val (R.load rfl rfl (I.ld1 rfl (RowL.cell rg25 rfl))) rfl rfl rfl ?_
    refine LL.val (R.buildV rfl rfl (v := .agg #[Value.int IntKind.i64 0, Value.int IntKind.i64 d, Value.string { data := List.toArray p }, Value.int IntKind.i64 fi, Value.int IntKind.i64 fk]) (fun _ => by kernel_rfl)) rfl rfl rfl ?_
    have lg442 := rg41.lt
    have lg443 := rg25.lt
    have lg444 := rg11.lt
    (refine LL.call (R.call rfl rfl rfl) rfl rfl rfl (rdone_any d _ _ _ _ _ _ wdZ (0, d, p, fi, fk) _) ?_; rintro e Wg441 ⟨rfl, bg438⟩; refine ⟨_, rfl, ?_⟩)
    have zbg438 := bg438.size
    replace rg41 := rg41.up bg438
    replace rg25 := rg25.up bg438
    replace bg8 := bg8.trans (bg438.mono bg8.size)
    replace q := q.trans (bg438.mono q.size)
    replace rg11 := rg11.up bg438
    refine LL.storeN (vs := [Value.int IntKind.i64 d, Value.slice none 0 0, Value.int IntKind.i64 ↑k, Value.bool fol, Value.bool true, Value.int IntKind.i64 0, Value.int IntKind.i64 d, strV p, Value.int IntKind.i64 fi, Value.int IntKind.i64 fk]) rfl rfl rfl rfl rg41 (by exact Nat.le_of_ble_eq_true rfl) (ones_of rfl) rfl rfl ?_
    intro Wg459 rg460 bg458 zg461
    have hlbg458 := rg41.lt
    replace rg460 : RowL Wg459 _ 33 [Value.int IntKind.i64 d, Value.slice none 0 0, Value.int IntKind.i64 ↑k, Value.bool fol, Value.bool true, Value.int IntKind.i64 0, Value.int IntKind.i64 d, strV p, Value.int IntKind.i64 fi, Value.int IntKind.i64 fk] := rg460
    clear rg41
    replace rg25 := rg25.gr bg458 (by have := rg25.lt; omega)
    replace bg8 := bg8.grown bg458 bg8.size (by rintro k ⟨⟩; omega)
    replace q := q.grown bg458 q.size (by rintro k ⟨⟩; omega)
    replace rg11 := rg11.gr bg458 (by have := rg11.lt; omega)
    have rg41 := rg460
    clear rg460
    refine LL.nilS ?_
    refine CC.ret ?_
    refine EE.retC rfl rfl (lvNc (RowL.cells0 (by assumption)) (by rfl) (by rfl)) ?_
    exact ⟨_, 0, rfl, (by rw [← hS]; exact RwR.fin (0, d, p, fi, fk) _ _ _ rfl rfl), by omega, q⟩
    refine LL.val (R.move rfl rfl) rfl rfl rfl ?_
    refine LL.skip rfl rfl ?_
    refine LL.val (R.pick rfl rfl rfl) rfl rfl rfl ?_
    refine LL.val (R.assign rfl rfl) rfl rfl rfl ?_
    refine LL.nilS ?_
    refine CC.no rfl ?_
    refine CC.seq ?_
    refine CC.region ?_
    refine LL.val (R.move rfl rfl) rfl rfl rfl ?_
    refine LL.val (R.assign rfl rfl) rfl rfl rfl ?_
    refine LL.nilS ?_
    refine CC.no rfl ?_
    refine CC.skip ?_
    refine EE.inN ?_
    refine EE.thenN ?_
    refine CC.seq ?_
    refine CC.region ?_
    refine LL.val (R.load rfl rfl (I.ldNc (vs := [Value.int IntKind.i64 d, Value.slice a' (n - 1) c', Value.int IntKind.i64 ↑k, Value.bool fol, Value.bool false, Value.int IntKind.i64 0, Value.int IntKind.i64 0, strV [], Value.int IntKind.i64 0, Value.int IntKind.i64 0]) (RowL.cells rg11 rfl) (by rfl) (by rfl))) rfl rfl rfl ?_
    refine LL.val (R.field rfl rfl (I.fld rfl)) rfl rfl rfl ?_
    refine LL.val (R.load rfl rfl (I.ld1 rfl (RowL.cell rg11 rfl))) rfl rfl rfl ?_
    refine LL.val (R.move rfl rfl) rfl rfl rfl ?_
    refine LL.val (R.field rfl rfl (I.fld rfl)) rfl rfl rfl ?_
    refine LL.val (R.load rfl rfl (I.ld1 rfl (RowL.cell rg25 rfl))) rfl rfl rfl ?_
    refine LL.val (R.field rfl rfl (I.fld rfl)) rfl rfl rfl ?_
    refine LL.val (R.load rfl rfl (I.ld1 rfl (RowL.cell rg25 rfl))) rfl rfl rfl ?_
    refine LL.val (R.buildV rfl rfl (v := .agg #[Value.int IntKind.i64 0, Value.int IntKind.i64 d, Value.string { data := List.toArray p }, Value.int IntKind.i64 fi, Value.int IntKind.i64 fk]) (fun _ => by kernel_rfl)) rfl rfl rfl ?_
    have lg606 := rg41.lt
    have lg607 := rg25.lt
    have lg608 := rg11.lt
    (refine LL.call (R.call rfl rfl rfl) rfl rfl rfl (rdone_any d _ _ _ _ _ _ wdZ (0, d, p, fi, fk) _) ?_; rintro e Wg605 ⟨rfl, bg602⟩; refine ⟨_, rfl, ?_⟩)
    have zbg602 := bg602.size
    replace rg41 := rg41.up bg602
    replace rg25 := rg25.up bg602
    replace bg8 := bg8.trans (bg602.mono bg8.size)
    replace q := q.trans (bg602.mono q.size)
    replace rg11 := rg11.up bg602
    refine LL.storeN (vs := [Value.int IntKind.i64 d, Value.slice none 0 0, Value.int IntKind.i64 ↑k, Value.bool fol, Value.bool true, Value.int IntKind.i64 0, Value.int IntKind.i64 d, strV p, Value.int IntKind.i64 fi, Value.int IntKind.i64 fk]) rfl rfl rfl rfl rg41 (by exact Nat.le_of_ble_eq_true rfl) (ones_of rfl) rfl rfl ?_
    intro Wg623 rg624 bg622 zg625
    have hlbg622 := rg41.lt
    replace rg624 : RowL Wg623 _ 33 [Value.int IntKind.i64 d, Value.slice none 0 0, Value.int IntKind.i64 ↑k, Value.bool fol, Value.bool true, Value.int IntKind.i64 0, Value.int IntKind.i64 d, strV p, Value.int IntKind.i64 fi, Value.int IntKind.i64 fk] := rg624
    clear rg41
    replace rg25 := rg25.gr bg622 (by have := rg25.lt; omega)
    replace bg8 := bg8.grown bg622 bg8.size (by rintro k ⟨⟩; omega)
    replace q := q.grown bg622 q.size (by rintro k ⟨⟩; omega)
    replace rg11 := rg11.gr bg622 (by have := rg11.lt; omega)
    have rg41 := rg624
    clear rg624
    refine LL.nilS ?_
    refine CC.ret ?_
    refine EE.retC rfl rfl (lvNc (RowL.cells0 (by assumption)) (by rfl) (by rfl)) ?_
    exact ⟨_, 0, rfl, (by rw [← hS]; exact RwR.fin (0, d, p, fi, fk) _ _ _ rfl rfl), by omega, q⟩
end Go.Proofs.YtbbddpnjglijdaaDoor
/- walk: small, end, works (written by genwk10.py). -/
namespace Go.Proofs.YtbbddpnjglijdaaDoor
set_option linter.unusedVariables false
set_option linter.unusedSimpArgs false
open Go.RowKit Go.Shelf
set_option maxRecDepth 100000
set_option maxHeartbeats 8000000
abbrev smL : List Pl := [(1, [97], 2, 2, []), (1, [108], 4, 3, [97]), (2, [98], 3, 1, []), (2, [46, 46], 1, 2, [])]
theorem small_any (w : World) : Calls Tryd.prog 23 #[] w fun e w' => ∃ g, e = .returned (.slice (some ⟨g, 0, none⟩) 4 4) ∧ RowL w' g 70 (smL.flatMap plE) ∧ w.heap.size ≤ g ∧ Below w.heap.size w w' := by
  have q := Below.refl w.heap.size w
  refine X.fn Tryd.func23 rfl (n := 10) rfl rfl ?_
  refine CC.seq ?_
  refine CC.region ?_
  refine LL.val (R.assign rfl rfl) rfl rfl rfl ?_
  refine LL.nilS ?_
  refine CC.seq ?_
  refine CC.region ?_
  refine LL.val (R.buildV rfl rfl (v := .agg #[Value.int IntKind.i64 2, Value.int IntKind.i64 2, Value.string { data := #[] }]) (fun _ => by kernel_rfl)) rfl rfl rfl ?_
  refine LL.val (R.buildV rfl rfl (v := .agg #[Value.int IntKind.i64 1, Value.string { data := #[97] }, Value.int IntKind.i64 2, Value.int IntKind.i64 2, Value.string { data := #[] }]) (fun _ => by kernel_rfl)) rfl rfl rfl ?_
  refine LL.val (R.buildV rfl rfl (v := .agg #[Value.int IntKind.i64 4, Value.int IntKind.i64 3, Value.string { data := #[97] }]) (fun _ => by kernel_rfl)) rfl rfl rfl ?_
  refine LL.val (R.buildV rfl rfl (v := .agg #[Value.int IntKind.i64 1, Value.string { data := #[108] }, Value.int IntKind.i64 4, Value.int IntKind.i64 3, Value.string { data := #[97] }]) (fun _ => by kernel_rfl)) rfl rfl rfl ?_
  refine LL.val (R.buildV rfl rfl (v := .agg #[Value.int IntKind.i64 3, Value.int IntKind.i64 1, Value.string { data := #[] }]) (fun _ => by kernel_rfl)) rfl rfl rfl ?_
  refine LL.val (R.buildV rfl rfl (v := .agg #[Value.int IntKind.i64 2, Value.string { data := #[98] }, Value.int IntKind.i64 3, Value.int IntKind.i64 1, Value.string { data := #[] }]) (fun _ => by kernel_rfl)) rfl rfl rfl ?_
  refine LL.val (R.buildV rfl rfl (v := .agg #[Value.int IntKind.i64 1, Value.int IntKind.i64 2, Value.string { data := #[] }]) (fun _ => by kernel_rfl)) rfl rfl rfl ?_
  refine LL.val (R.buildV rfl rfl (v := .agg #[Value.int IntKind.i64 2, Value.string { data := #[46, 46] }, Value.int IntKind.i64 1, Value.int IntKind.i64 2, Value.string { data := #[] }]) (fun _ => by kernel_rfl)) rfl rfl rfl ?_
  refine LL.lit (e := 70) [Value.int IntKind.i64 1, Value.string { data := #[97] }, Value.int IntKind.i64 2, Value.int IntKind.i64 2, Value.string { data := #[] }, Value.int IntKind.i64 1, Value.string { data := #[108] }, Value.int IntKind.i64 4, Value.int IntKind.i64 3, Value.string { data := #[97] }, Value.int IntKind.i64 2, Value.string { data := #[98] }, Value.int IntKind.i64 3, Value.int IntKind.i64 1, Value.string { data := #[] }, Value.int IntKind.i64 2, Value.string { data := #[46, 46] }, Value.int IntKind.i64 1, Value.int IntKind.i64 2, Value.string { data := #[] }] 4 rfl rfl (fun _ => by kernel_rfl) rfl rfl ?_
  intro W2 g3 eg3 r4 z5 b1
  replace q := q.trans (b1.mono q.size)
  refine LL.val (R.assign rfl rfl) rfl rfl rfl ?_
  refine LL.nilS ?_
  refine CC.ret ?_
  refine EE.ret _ rfl rfl ?_
  exact ⟨_, rfl, by assumption, by omega, q⟩
theorem end_T (path : Bs) (fol : Bool) (x : Wd) (k : Nat) (w : World) (hm : Mx w) (hl : path.length ≤ 1000) (hz : pathN path = 0) (hk : k ≤ 20000) (hx : (iterP smL k (newW path fol)).fin = some x) : Calls Tryd.prog 31 #[strV path, .bool fol, wdV x] w fun e w' => e = .returned (.bool true) ∧ Below w.heap.size w w' := by
  have q := Below.refl w.heap.size w
  have hx2 : (iterP smL 20000 (newW path fol)).fin = some x := by rw [iter_done hx hk]; exact hx
  have hgo := fun W u (h : ReadsT plE 5 W u smL) (m : Mx W) => goes_fin path fol u smL W m (by omega) hz h (by decide) (by decide) x hx2
  clear hx hx2
  refine X.fn Tryd.func31 rfl (n := 23) rfl rfl ?_
  refine CC.seq ?_
  refine CC.region ?_
  refine LL.box [Value.int IntKind.i64 x.1, Value.int IntKind.i64 x.2.1, strV x.2.2.1, Value.int IntKind.i64 x.2.2.2.1, Value.int IntKind.i64 x.2.2.2.2] rfl rfl rfl rfl rfl ?_
  intro W9 g10 eg10 r11 z12 b8
  replace hm := hm.up b8
  replace q := q.trans (b8.mono q.size)
  refine LL.val (R.assign rfl rfl) rfl rfl rfl ?_
  refine LL.nilS ?_
  refine CC.seq ?_
  refine CC.region ?_
  refine LL.val (R.move rfl rfl) rfl rfl rfl ?_
  refine LL.val (R.move rfl rfl) rfl rfl rfl ?_
  refine LL.call (R.call rfl rfl rfl) rfl rfl rfl (small_any _) ?_
  rintro e W46 ⟨g47, rfl, r48, l49, b45⟩
  refine ⟨_, rfl, ?_⟩
  have zb45 := b45.size
  replace r11 := r11.up b45
  replace b8 := b8.trans (b45.mono b8.size)
  replace hm := hm.up b45
  replace q := q.trans (b45.mono q.size)
  have l55 := r48.lt
  have l56 := r11.lt
  (refine LL.call (R.call rfl rfl rfl) rfl rfl rfl (hgo _ _ (RowL.readsT plEnc (ts := smL) (by assumption) 4 (by decide)) (by assumption)) ?_; rintro e W54 ⟨rfl, b51⟩; refine ⟨_, rfl, ?_⟩)
  have zb51 := b51.size
  replace r48 := r48.up b51
  replace b45 := b45.trans (b51.mono b45.size)
  replace r11 := r11.up b51
  replace b8 := b8.trans (b51.mono b8.size)
  replace hm := hm.up b51
  replace q := q.trans (b51.mono q.size)
  refine LL.val (R.move rfl rfl) rfl rfl rfl ?_
  refine LL.val (R.extract rfl rfl rfl) rfl rfl rfl ?_
  refine LL.val (R.extract rfl rfl rfl) rfl rfl rfl ?_
  have l96 := r48.lt
  have l97 := r11.lt
  refine LL.alloc ([Value.int IntKind.i64 0, Value.int IntKind.i64 0, Value.string { data := { toList := [] } }, Value.int IntKind.i64 0, Value.int IntKind.i64 0]) rfl rfl rfl rfl rfl ?_
  intro W99 g100 eg100 r101 z102 b98
  replace b51 := b51.trans (b98.mono b51.size)
  replace r48 := r48.up b98
  replace b45 := b45.trans (b98.mono b45.size)
  replace r11 := r11.up b98
  replace b8 := b8.trans (b98.mono b8.size)
  replace hm := hm.up b98
  replace q := q.trans (b98.mono q.size)
  refine LL.storeN (vs := [Value.int IntKind.i64 x.1, Value.int IntKind.i64 x.2.1, strV x.2.2.1, Value.int IntKind.i64 x.2.2.2.1, Value.int IntKind.i64 x.2.2.2.2]) rfl rfl rfl rfl r101 (by exact Nat.le_of_ble_eq_true rfl) (ones_of rfl) rfl rfl ?_
  intro W114 r115 b113 z116
  have hlb113 := r101.lt
  replace r115 : RowL W114 _ 31 [Value.int IntKind.i64 x.1, Value.int IntKind.i64 x.2.1, strV x.2.2.1, Value.int IntKind.i64 x.2.2.2.1, Value.int IntKind.i64 x.2.2.2.2] := r115
  clear r101
  replace b98 := b98.grown b113 b98.size (by rintro k ⟨⟩; omega)
  replace b51 := b51.grown b113 b51.size (by rintro k ⟨⟩; omega)
  replace r48 := r48.gr b113 (by have := r48.lt; omega)
  replace b45 := b45.grown b113 b45.size (by rintro k ⟨⟩; omega)
  replace r11 := r11.gr b113 (by have := r11.lt; omega)
  replace b8 := b8.grown b113 b8.size (by rintro k ⟨⟩; omega)
  replace hm := hm.gr b113 (by have := hm.lt; omega)
  replace q := q.grown b113 q.size (by rintro k ⟨⟩; omega)
  have r101 := r115
  clear r115
  refine LL.val (R.assign rfl rfl) rfl rfl rfl ?_
  refine LL.nilS ?_
  refine CC.seq ?_
  refine CC.region ?_
  refine LL.val (R.move rfl rfl) rfl rfl rfl ?_
  refine LL.val (R.eqT rfl rfl rfl (by omega)) rfl rfl rfl ?_
  refine LL.val (R.move rfl rfl) rfl rfl rfl ?_
  refine LL.val (R.load rfl rfl (I.ldNc (vs := [Value.int IntKind.i64 x.1, Value.int IntKind.i64 x.2.1, strV x.2.2.1, Value.int IntKind.i64 x.2.2.2.1, Value.int IntKind.i64 x.2.2.2.2]) (RowL.cells r101 rfl) (by rfl) (by rfl))) rfl rfl rfl ?_
  refine LL.val (R.load rfl rfl (I.ldNc (vs := [Value.int IntKind.i64 x.1, Value.int IntKind.i64 x.2.1, strV x.2.2.1, Value.int IntKind.i64 x.2.2.2.1, Value.int IntKind.i64 x.2.2.2.2]) (RowL.cells r11 rfl) (by rfl) (by rfl))) rfl rfl rfl ?_
  refine LL.vsplit (fun h => R.eqST (p := (x.1 : Int) = x.1 ∧ (x.2.1 : Int) = x.2.1 ∧ ({ data := List.toArray x.2.2.1 } : ByteArray).toList = ({ data := List.toArray x.2.2.1 } : ByteArray).toList ∧ (x.2.2.2.1 : Int) = x.2.2.2.1 ∧ (x.2.2.2.2 : Int) = x.2.2.2.2) (bs := [decide ((x.1 : Int) = x.1), decide ((x.2.1 : Int) = x.2.1), ({ data := List.toArray x.2.2.1 } : ByteArray).toList == ({ data := List.toArray x.2.2.1 } : ByteArray).toList, decide ((x.2.2.2.1 : Int) = x.2.2.2.1), decide ((x.2.2.2.2 : Int) = x.2.2.2.2)]) rfl rfl rfl rfl (by kernel_rfl) (by kernel_rfl) (by simp) h) (fun h => R.eqSF (p := (x.1 : Int) = x.1 ∧ (x.2.1 : Int) = x.2.1 ∧ ({ data := List.toArray x.2.2.1 } : ByteArray).toList = ({ data := List.toArray x.2.2.1 } : ByteArray).toList ∧ (x.2.2.2.1 : Int) = x.2.2.2.1 ∧ (x.2.2.2.2 : Int) = x.2.2.2.2) (bs := [decide ((x.1 : Int) = x.1), decide ((x.2.1 : Int) = x.2.1), ({ data := List.toArray x.2.2.1 } : ByteArray).toList == ({ data := List.toArray x.2.2.1 } : ByteArray).toList, decide ((x.2.2.2.1 : Int) = x.2.2.2.1), decide ((x.2.2.2.2 : Int) = x.2.2.2.2)]) rfl rfl rfl rfl (by kernel_rfl) (by kernel_rfl) (by simp) h) rfl rfl rfl (fun c187 => ?_) (fun c187 => ?_)
  refine LL.val (R.pick rfl rfl rfl) rfl rfl rfl ?_
  refine LL.val (R.assign rfl rfl) rfl rfl rfl ?_
  refine LL.nilS ?_
  refine CC.ret ?_
  refine EE.ret _ rfl rfl ?_
  exact ⟨rfl, q⟩
  refine LL.val (R.pick rfl rfl rfl) rfl rfl rfl ?_
  refine LL.val (R.assign rfl rfl) rfl rfl rfl ?_
  refine LL.nilS ?_
  refine CC.ret ?_
  refine EE.ret _ rfl rfl ?_
  exact absurd ⟨rfl, rfl, rfl, rfl, rfl⟩ c187
theorem works17_any (w : World) (hm : Mx w) : Calls Tryd.prog 8 #[] w fun e w' => e = .returned (.bool true) ∧ Below w.heap.size w w' := by
  have q := Below.refl w.heap.size w
  refine X.fn Tryd.func8 rfl (n := 38) rfl rfl ?_
  refine CC.seq ?_
  refine CC.region ?_
  refine LL.val (R.assign rfl rfl) rfl rfl rfl ?_
  refine LL.nilS ?_
  refine CC.seq ?_
  refine CC.region ?_
  (refine LL.call (R.call rfl rfl rfl) rfl rfl rfl (new_bad [98] 140 (by decide +kernel) (by decide) (by assumption) (by decide)) ?_; rintro e W60 ⟨rfl, b57⟩; refine ⟨_, rfl, ?_⟩)
  have zb57 := b57.size
  replace hm := hm.up b57
  replace q := q.trans (b57.mono q.size)
  refine LL.val (R.move rfl rfl) rfl rfl rfl ?_
  refine LL.val (R.extract rfl rfl rfl) rfl rfl rfl ?_
  refine LL.val (R.extract rfl rfl rfl) rfl rfl rfl ?_
  refine LL.val (R.assign rfl rfl) rfl rfl rfl ?_
  refine LL.val (R.assign rfl rfl) rfl rfl rfl ?_
  refine LL.nilS ?_
  refine CC.seq ?_
  refine CC.region ?_
  refine LL.val (R.buildV rfl rfl (v := .agg #[Value.int IntKind.i64 0, Value.int IntKind.i64 2, Value.string { data := #[98] }, Value.int IntKind.i64 3, Value.int IntKind.i64 1]) (fun _ => by kernel_rfl)) rfl rfl rfl ?_
  (refine LL.call (R.call rfl rfl rfl) rfl rfl rfl (end_T [47, 97, 47, 98] false (0, 2, [98], 3, 1) 6 _ (by assumption) (by decide) (by decide +kernel) (by decide) (by decide +kernel)) ?_; rintro e W410 ⟨rfl, b407⟩; refine ⟨_, rfl, ?_⟩)
  have zb407 := b407.size
  replace b57 := b57.trans (b407.mono b57.size)
  replace hm := hm.up b407
  replace q := q.trans (b407.mono q.size)
  refine LL.val (R.move rfl rfl) rfl rfl rfl ?_
  refine LL.val (R.buildV rfl rfl (v := .agg #[Value.int IntKind.i64 0, Value.int IntKind.i64 1, Value.string { data := #[97] }, Value.int IntKind.i64 2, Value.int IntKind.i64 2]) (fun _ => by kernel_rfl)) rfl rfl rfl ?_
  (refine LL.call (R.call rfl rfl rfl) rfl rfl rfl (end_T [47, 108] true (0, 1, [97], 2, 2) 6 _ (by assumption) (by decide) (by decide +kernel) (by decide) (by decide +kernel)) ?_; rintro e W543 ⟨rfl, b540⟩; refine ⟨_, rfl, ?_⟩)
  have zb540 := b540.size
  replace b407 := b407.trans (b540.mono b407.size)
  replace b57 := b57.trans (b540.mono b57.size)
  replace hm := hm.up b540
  replace q := q.trans (b540.mono q.size)
  refine LL.val (R.pick rfl rfl rfl) rfl rfl rfl ?_
  refine LL.val (R.move rfl rfl) rfl rfl rfl ?_
  refine LL.val (R.buildV rfl rfl (v := .agg #[Value.int IntKind.i64 0, Value.int IntKind.i64 1, Value.string { data := #[108] }, Value.int IntKind.i64 4, Value.int IntKind.i64 3]) (fun _ => by kernel_rfl)) rfl rfl rfl ?_
  (refine LL.call (R.call rfl rfl rfl) rfl rfl rfl (end_T [47, 108] false (0, 1, [108], 4, 3) 6 _ (by assumption) (by decide) (by decide +kernel) (by decide) (by decide +kernel)) ?_; rintro e W739 ⟨rfl, b736⟩; refine ⟨_, rfl, ?_⟩)
  have zb736 := b736.size
  replace b540 := b540.trans (b736.mono b540.size)
  replace b407 := b407.trans (b736.mono b407.size)
  replace b57 := b57.trans (b736.mono b57.size)
  replace hm := hm.up b736
  replace q := q.trans (b736.mono q.size)
  refine LL.val (R.pick rfl rfl rfl) rfl rfl rfl ?_
  refine LL.val (R.move rfl rfl) rfl rfl rfl ?_
  refine LL.val (R.buildV rfl rfl (v := .agg #[Value.int IntKind.i64 270, Value.int IntKind.i64 2, Value.string { data := #[99] }, Value.int IntKind.i64 0, Value.int IntKind.i64 0]) (fun _ => by kernel_rfl)) rfl rfl rfl ?_
  (refine LL.call (R.call rfl rfl rfl) rfl rfl rfl (end_T [47, 97, 47, 99] false (270, 2, [99], 0, 0) 6 _ (by assumption) (by decide) (by decide +kernel) (by decide) (by decide +kernel)) ?_; rintro e W942 ⟨rfl, b939⟩; refine ⟨_, rfl, ?_⟩)
  have zb939 := b939.size
  replace b736 := b736.trans (b939.mono b736.size)
  replace b540 := b540.trans (b939.mono b540.size)
  replace b407 := b407.trans (b939.mono b407.size)
  replace b57 := b57.trans (b939.mono b57.size)
  replace hm := hm.up b939
  replace q := q.trans (b939.mono q.size)
  refine LL.val (R.pick rfl rfl rfl) rfl rfl rfl ?_
  refine LL.val (R.move rfl rfl) rfl rfl rfl ?_
  refine LL.val (R.buildV rfl rfl (v := .agg #[Value.int IntKind.i64 270, Value.int IntKind.i64 0, Value.string { data := #[] }, Value.int IntKind.i64 0, Value.int IntKind.i64 0]) (fun _ => by kernel_rfl)) rfl rfl rfl ?_
  (refine LL.call (R.call rfl rfl rfl) rfl rfl rfl (end_T [47, 99, 47, 98] false (270, 0, [], 0, 0) 6 _ (by assumption) (by decide) (by decide +kernel) (by decide) (by decide +kernel)) ?_; rintro e W1152 ⟨rfl, b1149⟩; refine ⟨_, rfl, ?_⟩)
  have zb1149 := b1149.size
  replace b939 := b939.trans (b1149.mono b939.size)
  replace b736 := b736.trans (b1149.mono b736.size)
  replace b540 := b540.trans (b1149.mono b540.size)
  replace b407 := b407.trans (b1149.mono b407.size)
  replace b57 := b57.trans (b1149.mono b57.size)
  replace hm := hm.up b1149
  replace q := q.trans (b1149.mono q.size)
  refine LL.val (R.pick rfl rfl rfl) rfl rfl rfl ?_
  refine LL.val (R.move rfl rfl) rfl rfl rfl ?_
  refine LL.val (R.buildV rfl rfl (v := .agg #[Value.int IntKind.i64 271, Value.int IntKind.i64 0, Value.string { data := #[] }, Value.int IntKind.i64 0, Value.int IntKind.i64 0]) (fun _ => by kernel_rfl)) rfl rfl rfl ?_
  (refine LL.call (R.call rfl rfl rfl) rfl rfl rfl (end_T [47, 97, 47, 98, 47, 99] false (271, 0, [], 0, 0) 6 _ (by assumption) (by decide) (by decide +kernel) (by decide) (by decide +kernel)) ?_; rintro e W1369 ⟨rfl, b1366⟩; refine ⟨_, rfl, ?_⟩)
  have zb1366 := b1366.size
  replace b1149 := b1149.trans (b1366.mono b1149.size)
  replace b939 := b939.trans (b1366.mono b939.size)
  replace b736 := b736.trans (b1366.mono b736.size)
  replace b540 := b540.trans (b1366.mono b540.size)
  replace b407 := b407.trans (b1366.mono b407.size)
  replace b57 := b57.trans (b1366.mono b57.size)
  replace hm := hm.up b1366
  replace q := q.trans (b1366.mono q.size)
  refine LL.val (R.pick rfl rfl rfl) rfl rfl rfl ?_
  refine LL.val (R.move rfl rfl) rfl rfl rfl ?_
  refine LL.val (R.buildV rfl rfl (v := .agg #[Value.int IntKind.i64 0, Value.int IntKind.i64 0, Value.string { data := #[] }, Value.int IntKind.i64 1, Value.int IntKind.i64 2]) (fun _ => by kernel_rfl)) rfl rfl rfl ?_
  (refine LL.call (R.call rfl rfl rfl) rfl rfl rfl (end_T [47, 97, 47, 46, 46] false (0, 0, [], 1, 2) 6 _ (by assumption) (by decide) (by decide +kernel) (by decide) (by decide +kernel)) ?_; rintro e W1593 ⟨rfl, b1590⟩; refine ⟨_, rfl, ?_⟩)
  have zb1590 := b1590.size
  replace b1366 := b1366.trans (b1590.mono b1366.size)
  replace b1149 := b1149.trans (b1590.mono b1149.size)
  replace b939 := b939.trans (b1590.mono b939.size)
  replace b736 := b736.trans (b1590.mono b736.size)
  replace b540 := b540.trans (b1590.mono b540.size)
  replace b407 := b407.trans (b1590.mono b407.size)
  replace b57 := b57.trans (b1590.mono b57.size)
  replace hm := hm.up b1590
  replace q := q.trans (b1590.mono q.size)
  refine LL.val (R.pick rfl rfl rfl) rfl rfl rfl ?_
  refine LL.val (R.move rfl rfl) rfl rfl rfl ?_
  refine LL.val (R.move rfl rfl) rfl rfl rfl ?_
  refine LL.call (R.call rfl rfl rfl) rfl rfl rfl (num17_any _ _) ?_
  rintro e W' ⟨rfl, rfl⟩
  refine ⟨_, rfl, ?_⟩
  refine LL.val (R.eqT rfl rfl rfl (by omega)) rfl rfl rfl ?_
  refine LL.val (R.pick rfl rfl rfl) rfl rfl rfl ?_
  refine LL.val (R.assign rfl rfl) rfl rfl rfl ?_
  refine LL.nilS ?_
  refine CC.ret ?_
  refine EE.ret _ rfl rfl ?_
  exact ⟨rfl, q⟩
end Go.Proofs.YtbbddpnjglijdaaDoor
/- Opening the arguments of a law: slices of numbers, pairs of numbers. -/
namespace Go.Proofs.YtbbddpnjglijdaaDoor
set_option linter.unusedVariables false
set_option linter.unusedSimpArgs false
open Go.RowKit Go.ChangeShapes Go.WideShapes Go.ChangeAt

theorem own : ownKnob Tryd.prog.godebug = none := by kernel_rfl
theorem laidOut : laidOutB Tryd.prog = true := by kernel_rfl

section
variable {H : Type} {enc : TypeId × Value → H} {P : Program} {w : World} {base : Nat} {spare : Nat → Bool} {held : Bool} {r : Reach} {b0 : Nat} {t : TypeId} {v : Value} {d : DataW H} {p : List MemPlace}

end
end Go.Proofs.YtbbddpnjglijdaaDoor
/- Opening the arguments of a law: structs, arrays and slices of them, of integers, truth values and strings. Over any program. -/
namespace Go.Proofs.YtbbddpnjglijdaaDoor
set_option linter.unusedVariables false
set_option linter.unusedSimpArgs false
open Go.RowKit Go.ChangeShapes Go.WideShapes Go.ChangeAt Go.Deep
/-- What lies at a cell: an integer of a kind, a truth value, a string. -/
inductive Ckd where
  | int (k : IntKind)
  | bool
  | str
deriving DecidableEq
def atQ (P : Program) : Nat → TypeId → Nat → Option Ckd
  | 0, _, _ => none
  | d + 1, t, j => match P.underlying t with
    | some (.struct fs) => fs.toList.findSome? fun f => if f.offset ≤ j ∧ j < f.offset + P.cellsOf f.type then atQ P d f.type (j - f.offset) else none
    | some (.array n e) => if j / P.cellsOf e < n then atQ P d e (j % P.cellsOf e) else none
    | some (.int k) => if j = 0 then some (.int k) else none
    | some .bool => if j = 0 then some .bool else none
    | some .string => if j = 0 then some .str else none
    | _ => none
abbrev ZBS := Int × Bool × ByteArray
def cellQ : Ckd → ZBS → Value
  | .int k, z => .int k z.1
  | .bool, z => .bool z.2.1
  | .str, z => .string z.2.2
def wfQ : Ckd → ZBS → Prop
  | .int k, z => (Lit.int k z.1).wf = true
  | .bool, _ => True
  | .str, z => z.2.2.size ≤ maxLen
section
variable {α : Type} {encT : α → List Value} {H : Type} {enc : TypeId × Value → H} {P : Program} {w : World} {base : Nat} {spare : Nat → Bool} {held : Bool} {r : Reach} {b0 : Nat} {t : TypeId} {v : Value} {d : DataW H} {p : List MemPlace}
theorem trod_atQ : ∀ (n : Nat) (t : TypeId) (j fuel : Nat) (cs : List Value) (x : DataW H × List MemPlace) (k : Ckd), atQ P n t j = some k → DataW.trod enc P w base spare held fuel t cs = some x → ∃ z : ZBS, cs[j]? = some (cellQ k z) ∧ wfQ k z
  | 0, _, _, _, _, _, _, h, _ => by cases h
  | n + 1, t, j, fuel, cs, x, k, h, hx => by
    cases hu : P.underlying t with
    | none => simp [atQ, hu] at h
    | some kd =>
      cases kd <;> simp only [atQ, hu] at h <;> try (cases h; done)
      case int q =>
        split at h
        · rename_i hj
          cases h
          subst hj
          obtain ⟨z, e, _, hw⟩ := DataW.trod_int hu hx
          exact ⟨(z, false, ByteArray.empty), by rw [e]; rfl, hw⟩
        · cases h
      case bool =>
        split at h
        · rename_i hj
          cases h
          subst hj
          obtain ⟨b, e, _⟩ := DataW.trod_bool hu hx
          exact ⟨(0, b, ByteArray.empty), by rw [e]; rfl, trivial⟩
        · cases h
      case string =>
        split at h
        · rename_i hj
          cases h
          subst hj
          obtain ⟨s, e, _, hs⟩ := DataW.trod_string hu hx
          exact ⟨(0, false, s), by rw [e]; rfl, hs⟩
        · cases h
      case struct fs =>
        obtain ⟨f, hf, hfk⟩ := List.exists_of_findSome?_eq_some h
        split at hfk
        · rename_i hj
          obtain ⟨xs, m, _, rfl, hl, hlen, hf2⟩ := DataW.trod_struct hu hx
          obtain ⟨i, hi⟩ := List.mem_iff_getElem?.1 hf
          have h2 := hf2 i f (by simpa using hi)
          have hil : i < xs.length := by
            have := (List.getElem?_eq_some_iff.1 hi).1
            rw [Array.length_toList] at this
            omega
          rw [List.getElem?_eq_getElem hil] at h2
          obtain ⟨z, e, hw⟩ := trod_atQ n f.type (j - f.offset) _ _ _ k hfk h2
          refine ⟨z, ?_, hw⟩
          rw [List.getElem?_take] at e
          split at e
          · rw [List.getElem?_drop] at e
            rwa [show f.offset + (j - f.offset) = j by omega] at e
          · cases e
        · cases hfk
      case array m e =>
        split at h
        · rename_i hj
          obtain ⟨xs, m', _, rfl, hl, hlen, hi⟩ := DataW.trod_array hu hx
          have h2 := hi _ hj
          rw [List.getElem?_eq_getElem (by omega)] at h2
          obtain ⟨z, e', hw⟩ := trod_atQ n e (j % P.cellsOf e) _ _ _ k h h2
          refine ⟨z, ?_, hw⟩
          rw [List.getElem?_take] at e'
          split at e'
          · rw [List.getElem?_drop] at e'
            rwa [show j / P.cellsOf e * P.cellsOf e + j % P.cellsOf e = j by rw [Nat.mul_comm]; exact Nat.div_add_mod _ _] at e'
          · cases e'
        · cases h
theorem open_rowsQ {e c : Nat} (ks : Nat → Ckd) (E : Enc encT c) (f : (Nat → ZBS) → α) (hf : ∀ g, encT (f g) = (List.range c).map fun j => cellQ (ks j) (g j)) (ht : P.underlying t = some (.slice e)) (ce : P.cellsOf e = c) (hk : (List.range c).all (fun j => atQ P 9 e j == some (ks j)) = true)
    (hv : Value.okWide P w r b0 t v) (h : DataW.Trod enc P w base spare held t v d p) : ∃ gs : List (Nat → ZBS), ReadsT encT c w v (gs.map f) ∧ (∀ g ∈ gs, ∀ j, j < c → wfQ (ks j) (g j)) ∧ gs.length ≤ 9223372036854775807 := by
  obtain ⟨a, len, cap, rfl⟩ := okWide_slice ht hv
  obtain ⟨fuel, hfu⟩ := h
  rcases open_slice ht hfu with ⟨hcs, _⟩ | ⟨x, l, c', m, n, D, Pl, hcs, hb, hl, hm, hmm, _, hx⟩
  · simp [Value.cells] at hcs
    obtain ⟨rfl, rfl, rfl⟩ := hcs
    exact ⟨[], ReadsT.nil w, by simp, by simp⟩
  · simp [Value.cells] at hcs
    obtain ⟨rfl, rfl, rfl⟩ := hcs
    have hlm : len ≤ m := by rw [hmm]; split <;> omega
    have each : ∀ i, i < len → ∃ g : Nat → ZBS, ∀ j, j < c → w.cell? (x.add (i * c + j)) = some (cellQ (ks j) (g j)) ∧ wfQ (ks j) (g j) := by
      intro i hi
      obtain ⟨cs', h1, h2⟩ := hx i (by omega)
      rw [ce] at h1
      obtain ⟨_, hlen, hcell⟩ := World.cells?_some h1
      have hj : ∀ j, ∃ z : ZBS, j < c → cs'[j]? = some (cellQ (ks j) z) ∧ wfQ (ks j) z := fun j => by
        by_cases hjc : j < c
        · have hkj := List.all_eq_true.1 hk j (List.mem_range.2 hjc)
          obtain ⟨z, h3, h4⟩ := trod_atQ 9 e j n cs' (D i, Pl i) (ks j) (by simpa using hkj) h2
          exact ⟨z, fun _ => ⟨h3, h4⟩⟩
        · exact ⟨(0, false, ByteArray.empty), fun h => absurd h hjc⟩
      refine ⟨fun j => Classical.choose (hj j), fun j hjc => ?_⟩
      have hs := Classical.choose_spec (hj j) hjc
      refine ⟨?_, hs.2⟩
      have := hcell j (by omega)
      rw [add_add] at this
      rw [this]
      exact hs.1
    obtain ⟨G, hG⟩ := choose_lt each
    have hlen : (((List.range len).map G).map f).length = len := by simp
    refine ⟨(List.range len).map G, ⟨some x, cap, by rw [hlen], by rw [hlen]; exact hl, fun hne => ?_⟩, ?_, ?_⟩
    · have h0 : 0 < len := by
        rcases Nat.eq_zero_or_pos len with h0 | h0
        · subst h0; simp at hne
        · exact h0
      have hcp := E.pos
      obtain ⟨b, off, spot⟩ := x
      have hc0 := (hG 0 h0 0 hcp).1
      have hspot : spot = none := by simpa [Addr.add] using World.cell?_spot hc0
      subst hspot
      have hblt : b < w.heap.size := by
        rcases Nat.lt_or_ge b w.heap.size with hb | hb
        · exact hb
        · simp [Addr.add, World.cell?, Array.getElem?_eq_none hb] at hc0
      refine ⟨b, off, rfl, hblt, fun j hj => ?_⟩
      rw [hlen] at hj
      have hil : j / c < len := (Nat.div_lt_iff_lt_mul hcp).2 hj
      have hrl : j % c < c := Nat.mod_lt _ hcp
      have hc1 := (hG (j / c) hil (j % c) hrl).1
      rw [Addr.add_lit] at hc1
      have hje : j / c * c + j % c = j := by rw [Nat.mul_comm]; exact Nat.div_add_mod _ _
      have hget : (((List.range len).map G).map f)[j / c]? = some (f (G (j / c))) := by simp [hil]
      have hg := E.get _ (j / c) _ hget (j % c) hrl
      rw [hje] at hg hc1
      rw [hg, hf, hc1]
      simp [hrl]
    · intro g hg j hj
      obtain ⟨i, hi, rfl⟩ := List.mem_map.1 hg
      exact (hG i (List.mem_range.1 hi) j hj).2
    · simp only [List.length_map, List.length_range]
      unfold maxLen at hm
      omega
end
end Go.Proofs.YtbbddpnjglijdaaDoor
