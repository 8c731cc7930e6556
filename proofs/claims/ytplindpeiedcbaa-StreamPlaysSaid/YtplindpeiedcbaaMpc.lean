/- What the statements' walks use: OpenD, PlaysW. -/

import Derived.Test.YtplindpeiedcbaaMpb
/- Opening slices of structs that hold slices: what lies at a cell is a predicate. Over any program. -/
namespace Go.Proofs.Ytplindpeiedcbaa
set_option linter.unusedVariables false
set_option linter.unusedSimpArgs false
open Go.RowKit Go.ChangeShapes Go.WideShapes Go.ChangeAt Go.Deep
/-- The type of what lies at a cell. -/
def lfQ (P : Program) : Nat → TypeId → Nat → Option TypeId
  | 0, _, _ => none
  | d + 1, t, j => match P.underlying t with
    | some (.struct fs) => fs.toList.findSome? fun f => if f.offset ≤ j ∧ j < f.offset + P.cellsOf f.type then lfQ P d f.type (j - f.offset) else none
    | some (.slice _) => if j = 0 then some t else none
    | _ => none
section
variable {α : Type} {encT : α → List Value} {H : Type} {enc : TypeId × Value → H} {P : Program} {w : World} {base : Nat} {spare : Nat → Bool} {held : Bool} {r : Reach} {b0 : Nat} {t : TypeId} {v : Value} {d : DataW H} {p : List MemPlace}
theorem trod_lfQ : ∀ (n : Nat) (t : TypeId) (j fuel : Nat) (cs : List Value) (x : DataW H × List MemPlace) (t' : TypeId), lfQ P n t j = some t' → DataW.trod enc P w base spare held fuel t cs = some x → ∃ v fuel' x', cs[j]? = some v ∧ DataW.trod enc P w base spare held fuel' t' [v] = some x'
  | 0, _, _, _, _, _, _, h, _ => by cases h
  | n + 1, t, j, fuel, cs, x, k, h, hx => by
    cases hu : P.underlying t with
    | none => simp [lfQ, hu] at h
    | some kd =>
      cases kd <;> simp only [lfQ, hu] at h <;> try (cases h; done)
      case slice q =>
        split at h
        · rename_i hj
          cases h
          subst hj
          rcases open_slice hu hx with ⟨hcs, _⟩ | ⟨a, l, c', m, n, D, Pl, hcs, _⟩
          · subst hcs
            exact ⟨_, fuel, x, rfl, hx⟩
          · subst hcs
            exact ⟨_, fuel, x, rfl, hx⟩
        · cases h
      case struct fs =>
        obtain ⟨f, hf, hfk⟩ := List.exists_of_findSome?_eq_some h
        split at hfk
        · rename_i hj
          obtain ⟨xs, m, _, rfl, hl, hlen, hf2⟩ := DataW.trod_struct hu hx
          obtain ⟨i, hi⟩ := List.mem_iff_getElem?.1 hf
          have h2 := hf2 i f (by simpa using hi)
          have hil : i < xs.length := by
            have := (List.getElem?_eq_some_iff.1 hi).1
            rw [Array.length_toList] at this
            omega
          rw [List.getElem?_eq_getElem hil] at h2
          obtain ⟨z, f', x', e, hw⟩ := trod_lfQ n f.type (j - f.offset) _ _ _ k hfk h2
          refine ⟨z, f', x', ?_, hw⟩
          rw [List.getElem?_take] at e
          split at e
          · rw [List.getElem?_drop] at e
            rwa [show f.offset + (j - f.offset) = j by omega] at e
          · cases e
        · cases hfk
theorem open_rowsP [Inhabited α] {e c fuel : Nat} {cs : List Value} {x0 : DataW H × List MemPlace} (R : Nat → Value → Prop) (Q : α → Prop) (E : Enc encT c) (hf : ∀ V : Nat → Value, (∀ j, j < c → R j (V j)) → ∃ y : α, encT y = (List.range c).map V ∧ Q y) (ht : P.underlying t = some (.slice e)) (ce : P.cellsOf e = c) (hk : ∀ n cs x, DataW.trod enc P w base spare held n e cs = some x → ∀ j, j < c → ∃ v, cs[j]? = some v ∧ R j v)
    (hfu : DataW.trod enc P w base spare held fuel t cs = some x0) : ∃ a n cap l, cs = [.slice a n cap] ∧ ReadsT encT c w (.slice a n cap) l ∧ (∀ y ∈ l, Q y) ∧ l.length ≤ 9223372036854775807 := by
  rcases open_slice ht hfu with ⟨hcs, _⟩ | ⟨x, len, cap, m, n, D, Pl, hcs, hb, hl, hm, hmm, _, hx⟩
  · exact ⟨_, _, _, [], hcs, ReadsT.nil w, by simp, by simp⟩
  · have hlm : len ≤ m := by rw [hmm]; split <;> omega
    have each : ∀ i, i < len → ∃ y : α, Q y ∧ ∀ j, j < c → w.cell? (x.add (i * c + j)) = (encT y)[j]? := by
      intro i hi
      obtain ⟨cs', h1, h2⟩ := hx i (by omega)
      rw [ce] at h1
      obtain ⟨_, hlen, hcell⟩ := World.cells?_some h1
      have hj : ∀ j, ∃ z : Value, j < c → cs'[j]? = some z ∧ R j z := fun j => by
        by_cases hjc : j < c
        · obtain ⟨z, h3, h4⟩ := hk n cs' (D i, Pl i) h2 j hjc
          exact ⟨z, fun _ => ⟨h3, h4⟩⟩
        · exact ⟨.bool false, fun h => absurd h hjc⟩
      obtain ⟨y, hy, hQ⟩ := hf (fun j => Classical.choose (hj j)) fun j hjc => (Classical.choose_spec (hj j) hjc).2
      refine ⟨y, hQ, fun j hjc => ?_⟩
      have hs := Classical.choose_spec (hj j) hjc
      have := hcell j (by omega)
      rw [add_add] at this
      rw [this, hy, List.getElem?_map, List.getElem?_range hjc]
      exact hs.1
    obtain ⟨G, hG⟩ := choose_lt each
    have hlen : ((List.range len).map G).length = len := by simp
    refine ⟨some x, len, cap, (List.range len).map G, hcs, ⟨some x, cap, by rw [hlen], by rw [hlen]; exact hl, fun hne => ?_⟩, ?_, ?_⟩
    · have h0 : 0 < len := by
        rcases Nat.eq_zero_or_pos len with h0 | h0
        · subst h0; simp at hne
        · exact h0
      have hcp := E.pos
      obtain ⟨b, off, spot⟩ := x
      have hL : ∀ y : α, (encT y).length = c := E.len
      have hc0 := (hG 0 h0).2 0 hcp
      rw [List.getElem?_eq_getElem (by rw [hL]; exact hcp)] at hc0
      have hspot : spot = none := by simpa [Addr.add] using World.cell?_spot hc0
      subst hspot
      have hblt : b < w.heap.size := by
        rcases Nat.lt_or_ge b w.heap.size with hb | hb
        · exact hb
        · simp [Addr.add, World.cell?, Array.getElem?_eq_none hb] at hc0
      refine ⟨b, off, rfl, hblt, fun j hj => ?_⟩
      rw [hlen] at hj
      have hil : j / c < len := (Nat.div_lt_iff_lt_mul hcp).2 hj
      have hrl : j % c < c := Nat.mod_lt _ hcp
      have hc1 := (hG (j / c) hil).2 (j % c) hrl
      rw [Addr.add_lit] at hc1
      have hje : j / c * c + j % c = j := by rw [Nat.mul_comm]; exact Nat.div_add_mod _ _
      have hget : ((List.range len).map G)[j / c]? = some (G (j / c)) := by simp [hil]
      have hg := E.get _ (j / c) _ hget (j % c) hrl
      rw [hje] at hg hc1
      rw [hg, hc1]
    · intro g hg
      obtain ⟨i, hi, rfl⟩ := List.mem_map.1 hg
      exact (hG i (List.mem_range.1 hi)).1
    · simp only [List.length_map, List.length_range]
      unfold maxLen at hm
      omega
end
end Go.Proofs.Ytplindpeiedcbaa
/- StreamPlays: the script opened (written by genst11.py). -/
namespace Go.Proofs.Ytplindpeiedcbaa
set_option linter.unusedVariables false
set_option linter.unusedSimpArgs false
open Go.RowKit Go.Shelf Go.ChangeShapes Go.WideShapes Go.ChangeAt Go.Deep
set_option maxRecDepth 100000
set_option maxHeartbeats 8000000
instance : Inhabited Ac := ⟨⟨0, 0, 0, 0, 0, 0, none, 0, 0, [], none, 0, 0, 0, 0⟩⟩
def nmK (j : Nat) : Ckd := if j = 0 then .int .u64 else if j = 1 then .str else .int .i64
def acK (j : Nat) : Ckd := if j = 7 then .str else if j = 9 ∨ j = 10 then .int .u64 else .int .i64
theorem u64_nat {z : Int} (h : (Lit.int .u64 z).wf = true) : ((z.toNat : Nat) : Int) = z := Int.toNat_of_nonneg (wf_u64 h).1
section
variable {H : Type} {enc : TypeId × Value → H} {w : World} {base : Nat} {spare : Nat → Bool} {held : Bool} {r : Reach} {b0 : Nat} {v : Value} {d : DataW H} {p : List MemPlace}
theorem open_nms {fuel : Nat} {cs : List Value} {x0 : DataW H × List MemPlace} (h : DataW.trod enc Try.prog w base spare held fuel 31 cs = some x0) : ∃ a n c us, cs = [.slice a n c] ∧ ReadsT nmE 3 w (.slice a n c) us := by
  obtain ⟨a, n, c, l, e, hr, _, _⟩ := open_rowsP (encT := nmE) (c := 3) (fun j v => ∃ z : ZBS, v = cellQ (nmK j) z ∧ wfQ (nmK j) z) (fun _ => True) nmEnc (fun V hV => by
    obtain ⟨z0, e0, f0⟩ := hV 0 (by decide)
    obtain ⟨z1, e1, _⟩ := hV 1 (by decide)
    obtain ⟨z2, e2, _⟩ := hV 2 (by decide)
    refine ⟨(z0.1.toNat, z1.2.2.data.toList, z2.1), ?_, trivial⟩
    show [Value.int .u64 ((z0.1.toNat : Nat) : Int), strV z1.2.2.data.toList, .int .i64 z2.1] = [V 0, V 1, V 2]
    rw [e0, e1, e2, u64_nat f0, show strV z1.2.2.data.toList = Value.string z1.2.2 from congrArg Value.string (bs_data z1.2.2).symm]
    rfl) Try.underlying31 (by kernel_rfl) (fun n cs x hx j hj => by
    have hall : (List.range 3).all (fun j => atQ Try.prog 9 48 j == some (nmK j)) = true := by kernel_rfl
    have hk := List.all_eq_true.1 hall j (List.mem_range.2 hj)
    obtain ⟨z, h1, h2⟩ := trod_atQ 9 48 j n cs x (nmK j) (by simpa using hk) hx
    exact ⟨_, h1, z, rfl, h2⟩) h
  exact ⟨a, n, c, l, e, hr⟩
theorem open_acts (hv : Value.okWide Try.prog w r b0 22 v) (h : DataW.Trod enc Try.prog w base spare held 22 v d p) : ∃ l : List Ac, ReadsT acE 11 w v l ∧ (∀ x ∈ l, ∃ us, ReadsT nmE 3 w (.slice x.na x.nn x.nc) us) ∧ l.length ≤ 9223372036854775807 := by
  obtain ⟨a, len, cap, rfl⟩ := okWide_slice Try.underlying22 hv
  obtain ⟨fuel, hfu⟩ := h
  obtain ⟨a', n', cap', l, e, hr, hq, hl⟩ := open_rowsP (encT := acE) (c := 11) (fun j v => (j ≠ 6 → j ≠ 8 → ∃ z : ZBS, v = cellQ (acK j) z ∧ wfQ (acK j) z) ∧ (j = 6 → ∃ a n c, v = .slice a n c) ∧ (j = 8 → ∃ a n c us, v = .slice a n c ∧ ReadsT nmE 3 w (.slice a n c) us)) (fun x : Ac => ∃ us, ReadsT nmE 3 w (.slice x.na x.nn x.nc) us) acEnc (fun V hV => by
    obtain ⟨z0, e0, _⟩ := (hV 0 (by decide)).1 (by decide) (by decide)
    obtain ⟨z1, e1, _⟩ := (hV 1 (by decide)).1 (by decide) (by decide)
    obtain ⟨z2, e2, _⟩ := (hV 2 (by decide)).1 (by decide) (by decide)
    obtain ⟨z3, e3, _⟩ := (hV 3 (by decide)).1 (by decide) (by decide)
    obtain ⟨z4, e4, _⟩ := (hV 4 (by decide)).1 (by decide) (by decide)
    obtain ⟨z5, e5, _⟩ := (hV 5 (by decide)).1 (by decide) (by decide)
    obtain ⟨a6, n6, c6, e6⟩ := (hV 6 (by decide)).2.1 rfl
    obtain ⟨z7, e7, _⟩ := (hV 7 (by decide)).1 (by decide) (by decide)
    obtain ⟨a8, n8, c8, us, e8, hr8⟩ := (hV 8 (by decide)).2.2 rfl
    obtain ⟨z9, e9, f9⟩ := (hV 9 (by decide)).1 (by decide) (by decide)
    obtain ⟨z10, e10, f10⟩ := (hV 10 (by decide)).1 (by decide) (by decide)
    refine ⟨⟨z0.1, z1.1, z2.1, z3.1, z4.1, z5.1, a6, n6, c6, z7.2.2.data.toList, a8, n8, c8, z9.1.toNat, z10.1.toNat⟩, ?_, us, hr8⟩
    show [Value.int .i64 z0.1, .int .i64 z1.1, .int .i64 z2.1, .int .i64 z3.1, .int .i64 z4.1, .int .i64 z5.1, .slice a6 n6 c6, strV z7.2.2.data.toList, .slice a8 n8 c8, .int .u64 ((z9.1.toNat : Nat) : Int), .int .u64 ((z10.1.toNat : Nat) : Int)] = [V 0, V 1, V 2, V 3, V 4, V 5, V 6, V 7, V 8, V 9, V 10]
    rw [e0, e1, e2, e3, e4, e5, e6, e7, e8, e9, e10, u64_nat f9, u64_nat f10, show strV z7.2.2.data.toList = Value.string z7.2.2 from congrArg Value.string (bs_data z7.2.2).symm]
    rfl) Try.underlying22 (by kernel_rfl) (fun n cs x hx j hj => by
    by_cases h6 : j = 6
    · subst h6
      obtain ⟨v, f', x', h1, h2⟩ := trod_lfQ 9 40 6 n cs x 36 (by kernel_rfl) hx
      refine ⟨v, h1, fun h => absurd rfl h, fun _ => ?_, fun h => by cases h⟩
      rcases open_slice Try.underlying36 h2 with ⟨hcs, _⟩ | ⟨y, l, c', m, n, D, Pl, hcs, _⟩
      · exact ⟨_, _, _, (List.cons.inj hcs).1⟩
      · exact ⟨_, _, _, (List.cons.inj hcs).1⟩
    by_cases h8 : j = 8
    · subst h8
      obtain ⟨v, f', x', h1, h2⟩ := trod_lfQ 9 40 8 n cs x 31 (by kernel_rfl) hx
      obtain ⟨a, n1, c, us, e, hr⟩ := open_nms h2
      exact ⟨v, h1, fun _ h => absurd rfl h, fun h => (by cases h), fun _ => ⟨a, n1, c, us, (List.cons.inj e).1, hr⟩⟩
    have hall : (List.range 11).all (fun j => j == 6 || (j == 8 || atQ Try.prog 9 40 j == some (acK j))) = true := by kernel_rfl
    have hk := List.all_eq_true.1 hall j (List.mem_range.2 hj)
    have hk2 : atQ Try.prog 9 40 j = some (acK j) := by simpa [h6, h8] using hk
    obtain ⟨z, h1, h2⟩ := trod_atQ 9 40 j n cs x (acK j) hk2 hx
    exact ⟨_, h1, fun _ _ => ⟨z, rfl, h2⟩, fun h => absurd h h6, fun h => absurd h h8⟩) hfu
  have e2 : Value.slice a len cap = .slice a' n' cap' := (List.cons.inj (show [Value.slice a len cap] = [Value.slice a' n' cap'] from by simpa [Value.cells] using e)).1
  rw [e2]
  exact ⟨l, hr, hq, hl⟩
end
theorem plays_shell (a0 : ByteArray) (many : Int) (v : Value) (l : List Ac) (w : World) (hv : ReadsT acE 11 w v l) (hU : ∀ x ∈ l, ∃ us, ReadsT nmE 3 w (.slice x.na x.nn x.nc) us) (hl : l.length ≤ 9223372036854775807) (h0 : a0.size ≤ maxLen) : Calls Try.prog 3 #[.string a0, .int .i64 many, v] w fun e w' => e = .returned (.bool true) ∧ Below w.heap.size w w' := by
  rw [bs_data a0]
  have hp : a0.data.toList.length ≤ 9223372036854775807 := by
    rw [Array.length_toList]
    exact h0
  by_cases h1 : 300 < a0.data.toList.length ∨ 40 < l.length
  · exact plays_far _ many v l w hv hl hp h1
  · by_cases h : 1 ≤ many ∧ many ≤ 64
    · exact plays_yes _ many v l w hv hl hp hU (by omega) (by omega) h
    · exact plays_no _ many v l w hv hl hp (by omega) (by omega) h
end Go.Proofs.Ytplindpeiedcbaa
