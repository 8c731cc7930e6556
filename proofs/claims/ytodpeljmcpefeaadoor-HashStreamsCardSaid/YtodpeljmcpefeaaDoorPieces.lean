/- A slice of slices of numbers: read, opened; builtin min. -/
import Derived.Test.YtodpeljmcpefeaaDoorLaw
import Derived.Test.YtodpeljmcpefeaaDoorOpen
import Derived.Deep.Matrix
namespace Go.Proofs.YtodpeljmcpefeaaDoor
set_option linter.unusedVariables false
set_option linter.unusedSimpArgs false
open Go.RowKit Go.Shelf Go.ChangeShapes Go.WideShapes Go.ChangeAt

/-- The hypotheses of all walks of this layer. -/
structure Start (w : World) : Prop where
  tu : Tu w
  pos : 0 < w.heap.size

theorem Start.below {w w' : World} (h : Start w) (hb : Below w.heap.size w w') : Start w' := ⟨h.tu.below hb, Nat.lt_of_lt_of_le h.pos hb.size⟩

theorem StOf.grown {w w' : World} {g k0 k1 r : Nat} {bs : List Nat} (h : StOf w g k0 k1 bs) (hg : w.grownBy w' (some r)) (hne : g ≠ r) : StOf w' g k0 k1 bs := by
  obtain ⟨rs, h1, h2, h3, h4⟩ := h
  exact ⟨rs, h1, h2, h3, StOf.grown_cell h4 hg hne⟩

theorem owns_below2 {w1 w2 : World} {e base m : Nat} {v : Value} {xs : List Value} (h : w1.ownsRow base e 1 v m xs) (hb : Below w1.heap.size w1 w2) : w2.ownsRow base e 1 v m xs := by
  refine ⟨h.1, ?_⟩
  rcases h.2 with h2 | ⟨g, cap, cur, rfl, hbg, hg, h3⟩
  · exact .inl h2
  · exact .inr ⟨g, cap, cur, rfl, hbg, (hb.block g (Array.getElem?_eq_some_iff.1 hg).1).trans hg, h3⟩

/-- A slice whose elements read as these lists of numbers. -/
def Pieces (w : World) (v : Value) (ps : List (List Nat)) : Prop :=
  ∃ vs : List Value, Reads w v vs ∧ vs.length = ps.length ∧ ∀ (i : Nat) (u : Value) (p : List Nat), vs[i]? = some u → ps[i]? = some p → Reads w u (ints .u8 p)
theorem Pieces.below {w w' : World} {v : Value} {ps : List (List Nat)} (h : Pieces w v ps) (hb : Below w.heap.size w w') : Pieces w' v ps := by
  obtain ⟨vs, h1, h2, h3⟩ := h
  exact ⟨vs, h1.below hb, h2, fun i u p hu hp => (h3 i u p hu hp).below hb⟩
theorem Pieces.form {w : World} {v : Value} {ps : List (List Nat)} {L : Nat} (h : Pieces w v ps) (hL : ps.length = L) : ∃ a cap, v = .slice a L cap := by
  obtain ⟨vs, ⟨a, cap, h1, _⟩, h2, _⟩ := h
  exact ⟨a, cap, by rw [h1, h2, hL]⟩
theorem Pieces.get {w : World} {a : Option Addr} {L cap : Nat} {ps : List (List Nat)} (h : Pieces w (.slice a L cap) ps) {i : Nat} {p : List Nat} (hp : ps[i]? = some p) :
    ∃ b off a2 c2, a = some ⟨b, off, none⟩ ∧ b < w.heap.size ∧ w.cell? ⟨b, off + i, none⟩ = some (.slice a2 p.length c2) ∧ Reads w (.slice a2 p.length c2) (ints .u8 p) := by
  obtain ⟨vs, ⟨a', cap', e, _, h1⟩, h2, h3⟩ := h
  cases e
  have hi : i < ps.length := (List.getElem?_eq_some_iff.1 hp).1
  obtain ⟨b, off, ha, hbl, hc⟩ := h1 (by intro e; simp [e] at h2; omega)
  have hu : vs[i]? = some (vs[i]'(by omega)) := List.getElem?_eq_getElem (by omega)
  have hr := h3 i _ p hu hp
  obtain ⟨a2, c2, e2, _⟩ := hr.ints
  refine ⟨b, off, a2, c2, ha, hbl, ?_, ?_⟩
  · rw [hc i (by omega), hu, e2]
  · rw [e2] at hr; exact hr

theorem reads_ints {w : World} {k : IntKind} {M : Nat} {A : Option Addr} {len cap : Nat} {zs : List Int} (hl : len ≤ cap) (hz : zs.length = cap) (hw : ∀ n ∈ zs, (Lit.int k n).wf = true) (hk : ∀ n, (Lit.int k n).wf = true → 0 ≤ n ∧ n < (M : Int)) (h0 : A = none → cap = 0)
    (hA : ∀ a', A = some a' → ∀ c, c < cap → w.cell? (a'.add c) = some (.int k (zs.getD c 0))) :
    Reads w (.slice A len cap) (ints k ((zs.take len).map Int.toNat)) ∧ ∀ n ∈ (zs.take len).map Int.toNat, n < M := by
  constructor
  · have hlen : ((zs.take len).map Int.toNat).length = len := by simp; omega
    refine ⟨A, cap, by rw [List.length_map, hlen], by rw [List.length_map, hlen]; exact hl, fun hne => ?_⟩
    have h1 : 0 < len := by
      rcases Nat.eq_zero_or_pos len with h0 | h0
      · subst h0; simp at hne
      · exact h0
    obtain ⟨⟨b, off, spot⟩, rfl⟩ : ∃ x, A = some x := by
      cases A with
      | none => exact absurd (h0 rfl) (by omega)
      | some x => exact ⟨x, rfl⟩
    have hc0 := hA _ rfl 0 (by omega)
    have hspot : spot = none := by simpa [Addr.add] using World.cell?_spot hc0
    subst hspot
    have hblt : b < w.heap.size := by
      rcases Nat.lt_or_ge b w.heap.size with hb | hb
      · exact hb
      · simp [Addr.add, World.cell?, Array.getElem?_eq_none hb] at hc0
    refine ⟨b, off, rfl, hblt, fun j hj => ?_⟩
    rw [List.length_map, hlen] at hj
    have hcj := hA _ rfl j (by omega)
    have hjz : j < zs.length := by omega
    have hw := hk _ (hw zs[j] (List.getElem_mem hjz))
    rw [Addr.add_lit] at hcj
    rw [hcj]
    simp [List.getElem?_take, hj, hjz, List.getD]
    omega
  · intro n hn
    simp only [List.mem_map] at hn
    obtain ⟨z, hz', rfl⟩ := hn
    have := hk _ (hw z (List.mem_of_mem_take hz'))
    omega

section
variable {H : Type} {enc : TypeId × Value → H} {P : Program} {w : World} {base : Nat} {held : Bool} {r : Reach} {b0 : Nat} {t : TypeId} {v : Value} {d : DataW H} {p : List MemPlace}
theorem open_pieces {e q : TypeId} (ht : P.underlying t = some (.slice e)) (he : P.underlying e = some (.slice q)) (hq : P.underlying q = some (.int .u8)) (ce : P.cellsOf e = 1) (cq : P.cellsOf q = 1)
    (hv : Value.okWide P w r b0 t v) (h : DataW.Trod enc P w base (fun _ => true) held t v d p) : ∃ ps : List (List Nat), Pieces w v ps ∧ (∀ p ∈ ps, (∀ x ∈ p, x < 256) ∧ p.length ≤ 9223372036854775807) ∧ ps.length ≤ 9223372036854775807 := by
  obtain ⟨a, len, cap, rfl⟩ := okWide_slice ht hv
  obtain ⟨fuel, hf⟩ := h
  rcases Go.Deep.open_int_rows ht he hq ce cq hf with ⟨hcs, _⟩ | ⟨a', len', cap', A, L, C, Z, hcs, _, hlc, hcm, _, hr⟩
  · simp [Value.cells] at hcs
    obtain ⟨rfl, rfl, rfl⟩ := hcs
    exact ⟨[], ⟨[], Reads.nil w, rfl, by simp⟩, by simp, by simp⟩
  · simp [Value.cells] at hcs
    obtain ⟨rfl, rfl, rfl⟩ := hcs
    have hrd : ∀ i, i < cap → Reads w (.slice (A i) (L i) (C i)) (ints .u8 (((Z i).take (L i)).map Int.toNat)) ∧ ∀ n ∈ ((Z i).take (L i)).map Int.toNat, n < 256 := fun i hi => by
      obtain ⟨_, h2, _, h4, h5, h6, h7⟩ := hr i hi
      exact reads_ints h2 h4 h5 (fun _ h => wf_u8 h) h6 fun a' ha => (h7 a' ha).2
    refine ⟨(List.range len).map fun i => ((Z i).take (L i)).map Int.toNat, ⟨(List.range len).map fun i => .slice (A i) (L i) (C i), ?_, by simp, ?_⟩, ?_, ?_⟩
    · refine ⟨some a', cap, by simp, by simpa using hlc, fun hne => ?_⟩
      have h0 : 0 < len := by
        rcases Nat.eq_zero_or_pos len with h0 | h0
        · subst h0; simp at hne
        · exact h0
      obtain ⟨b, off, spot⟩ := a'
      have hc0 := (hr 0 (by omega)).1
      have hspot : spot = none := by simpa [Addr.add] using World.cell?_spot hc0
      subst hspot
      have hblt : b < w.heap.size := by
        rcases Nat.lt_or_ge b w.heap.size with hb | hb
        · exact hb
        · simp [Addr.add, World.cell?, Array.getElem?_eq_none hb] at hc0
      refine ⟨b, off, rfl, hblt, fun j hj => ?_⟩
      simp only [List.length_map, List.length_range] at hj
      have hcj := (hr j (by omega)).1
      rw [Addr.add_lit] at hcj
      rw [hcj]
      simp [hj]
    · intro i u p hu hp
      simp only [List.getElem?_map, Option.map_eq_some_iff] at hu hp
      obtain ⟨i1, e1, rfl⟩ := hu
      obtain ⟨i2, e2, rfl⟩ := hp
      obtain rfl : i1 = i2 := Option.some.inj (e1.symm.trans e2)
      obtain ⟨hi, e3⟩ := List.getElem?_eq_some_iff.1 e1
      simp at hi e3
      exact (hrd i1 (by omega)).1
    · intro p hp
      simp only [List.mem_map, List.mem_range] at hp
      obtain ⟨i, hi, rfl⟩ := hp
      obtain ⟨_, h2, h3, h4, _⟩ := hr i (by omega)
      refine ⟨(hrd i (by omega)).2, ?_⟩
      simp only [List.length_map, List.length_take]
      unfold maxLen at h3
      omega
    · simp only [List.length_map, List.length_range]
      unfold maxLen at hcm
      omega
end

section
variable {P : Program} {n : Nat} {D : List Deferred} {M : Slots} {w : World} {o : Oper}
theorem R.minI {xs : Array Operand} {ts : Array TypeId} {k : IntKind} {a b c : Int} (ho : o.op = .call { callee := .builtin .min, args := xs, argTypes := ts }) (hx : evsM M xs.toList = some [.int k a, .int k b]) (hc : (if b < a then b else a) = c) : Runs P n D M o w (.value (.int k c)) w := R.builtin ho hx fun _ => by
  subst hc
  show ((Builtin.min_ ts o.type #[.int k a, .int k b] >>= fun v => pure (Next.value v)) : Sem Next).run P w = _
  simp [Builtin.min_, Builtin.min2, Sem.run_bind]
end

theorem StOf.at_below {w w' : World} {g k0 k1 B : Nat} {bs : List Nat} (h : StOf w g k0 k1 bs) (hb : Below B w w') (hg : g < B) : StOf w' g k0 k1 bs := by
  obtain ⟨rs, h1, h2, h3, h4⟩ := h
  exact ⟨rs, h1, h2, h3, h4.below hb hg⟩
theorem len_of {w : World} {g k0 k1 : Nat} {bs : List Nat} (h : StOf w g k0 k1 bs) : Calls Tryd.prog 11 #[.pointer (some ⟨g, 0, none⟩)] w fun e w' => e = .returned (.int .i64 bs.length) ∧ w = w' := by
  obtain ⟨rs, _, _, _, h4⟩ := h
  exact len_any g _ rs _ w h4
theorem copy_of {w : World} {g k0 k1 : Nat} {bs : List Nat} (h : StOf w g k0 k1 bs) : Calls Tryd.prog 6 #[.pointer (some ⟨g, 0, none⟩)] w fun e w' => ∃ g', e = .returned (.pointer (some ⟨g', 0, none⟩)) ∧ w.heap.size ≤ g' ∧ StOf w' g' k0 k1 bs ∧ Below w.heap.size w w' := by
  obtain ⟨rs, h1, h2, h3, h4⟩ := h
  exact (copy_any g _ rs _ w h4).mono fun e w' ⟨g', e1, e2, e3, e4⟩ => ⟨g', e1, e2, ⟨rs, h1, h2, h3, e3⟩, e4⟩
theorem owns_ap {w : World} {base e n g : Nat} {v : Value} {xs : List Value} (h : w.ownsRow base e 1 v n xs) (hg : g < base) : ∀ (x : Addr) (n' cap' : Nat), v = .slice (some x) n' cap' → 0 < n' → x.block ≠ g := by
  rintro x n' cap' rfl _
  rcases h.2 with ⟨h1, _⟩ | ⟨g', cap, cur, h1, h2, _⟩
  · cases h1
  · cases h1; show g' ≠ g; omega

theorem owns_grown {w1 w2 : World} {base e m g : Nat} {v : Value} {xs : List Value} (h : w1.ownsRow base e 1 v m xs) (hg : w1.grownBy w2 (some g)) (hlt : g < base) : w2.ownsRow base e 1 v m xs := by
  refine ⟨h.1, ?_⟩
  rcases h.2 with h2 | ⟨g', cap, cur, rfl, hbg, hb, h3⟩
  · exact .inl h2
  · exact .inr ⟨g', cap, cur, rfl, hbg, (hg.block g' (Array.getElem?_eq_some_iff.1 hb).1 (by simp; omega)).trans hb, h3⟩
theorem len_of0 {w : World} {g k0 k1 : Nat} (h : StOf w g k0 k1 []) : Calls Tryd.prog 11 #[.pointer (some ⟨g, 0, none⟩)] w fun e w' => e = .returned (.int .i64 0) ∧ w = w' := len_of h

/-- So many bytes of the first pieces, of each at most 3000. -/
def sumc (ps : List (List Nat)) : Nat := (ps.map fun p => min p.length 3000).sum
theorem sumc_le (ps : List (List Nat)) (h : sumc ps ≤ 2000) : ps.flatten.length ≤ 2000 := by
  have : ∀ ps : List (List Nat), sumc ps < 3000 → ps.flatten.length = sumc ps := by
    intro ps
    induction ps with
    | nil => intro _; rfl
    | cons p ps ih =>
      intro h
      unfold sumc at *
      simp only [List.map_cons, List.sum_cons, List.flatten_cons, List.length_append] at *
      rw [ih (by omega)]
      omega
  rw [this ps (by omega)]
  exact h
theorem sumc_step {ps : List (List Nat)} {i : Nat} {p : List Nat} (h : ps[i]? = some p) : sumc (ps.take (i + 1)) = sumc (ps.take i) + min p.length 3000 := by
  unfold sumc
  rw [List.take_add_one, h]
  simp
theorem flat_step {ps : List (List Nat)} {i : Nat} {p : List Nat} (h : ps[i]? = some p) : (ps.take (i + 1)).flatten = (ps.take i).flatten ++ p := by
  rw [List.take_add_one, h]
  simp
theorem flat_le (ps : List (List Nat)) (i : Nat) : (ps.take i).flatten.length ≤ ps.flatten.length := by
  have h : ps.flatten = (ps.take i).flatten ++ (ps.drop i).flatten := by rw [← List.flatten_append, List.take_append_drop]
  rw [h, List.length_append]
  omega
theorem flat_lt {ps : List (List Nat)} (h : ∀ p ∈ ps, ∀ x ∈ p, x < 256) (i : Nat) : ∀ x ∈ (ps.take i).flatten, x < 256 := fun x hx => by
  obtain ⟨p, hp, hx⟩ := List.mem_flatten.1 hx
  exact h p (List.mem_of_mem_take hp) x hx
end Go.Proofs.YtodpeljmcpefeaaDoor
