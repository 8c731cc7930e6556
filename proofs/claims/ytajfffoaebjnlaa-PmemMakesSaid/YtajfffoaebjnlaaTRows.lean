/- Slices of structs: elements of k cells. For any seat. -/
import Derived.Test.YtajfffoaebjnlaaFree
import Derived.Laws.OwnMore
namespace Go.Proofs.Ytajfffoaebjnlaa
set_option linter.unusedVariables false
set_option linter.unusedSimpArgs false
open Go.RowKit Go.Shelf

/-- How a thing lies in k cells. -/
structure Enc {α : Type} (enc : α → List Value) (k : Nat) : Prop where
  len : ∀ t, (enc t).length = k
  one : ∀ t, ∀ u ∈ enc t, u.oneCell' = true
  pos : 0 < k

section
variable {α : Type} {enc : α → List Value} {k : Nat}
theorem Enc.flat (E : Enc enc k) (ts : List α) : (ts.flatMap enc).length = ts.length * k := by
  induction ts with
  | nil => simp
  | cons t ts ih => rw [List.flatMap_cons, List.length_append, ih, E.len, List.length_cons, Nat.add_mul]; omega
theorem Enc.ones (E : Enc enc k) (ts : List α) : ∀ u ∈ ts.flatMap enc, u.oneCell' = true := fun u hu => by
  obtain ⟨t, _, h⟩ := List.mem_flatMap.1 hu
  exact E.one t u h
theorem Enc.get (E : Enc enc k) : ∀ (ts : List α) (i : Nat) (t : α), ts[i]? = some t → ∀ c, c < k → (ts.flatMap enc)[i * k + c]? = (enc t)[c]?
  | [], i, t, h, _, _ => by simp at h
  | s :: ts, 0, t, h, c, hc => by
    simp at h
    subst h
    rw [List.flatMap_cons, Nat.zero_mul, Nat.zero_add, List.getElem?_append_left (by rw [E.len]; exact hc)]
  | s :: ts, i + 1, t, h, c, hc => by
    have h' : ts[i]? = some t := by simpa using h
    have hp : i * k + k + c - k = i * k + c := by omega
    rw [List.flatMap_cons, List.getElem?_append_right (by rw [E.len, Nat.add_mul]; omega), E.len, Nat.add_mul, Nat.one_mul, hp]
    exact Enc.get E ts i t h' c hc
theorem Enc.drop (E : Enc enc k) (ts : List α) (i : Nat) : (ts.flatMap enc).drop (i * k) = (ts.drop i).flatMap enc := by
  induction i generalizing ts with
  | zero => simp
  | succ i ih =>
    cases ts with
    | nil => simp
    | cons t ts =>
      have hp : (i + 1) * k = k + i * k := by rw [Nat.add_mul]; omega
      rw [List.flatMap_cons, hp, ← List.drop_drop, List.drop_left' (E.len t), ih]
      simp
theorem Enc.take (E : Enc enc k) (ts : List α) (i : Nat) : (ts.flatMap enc).take (i * k) = (ts.take i).flatMap enc := by
  induction i generalizing ts with
  | zero => simp
  | succ i ih =>
    cases ts with
    | nil => simp
    | cons t ts =>
      have hp : (i + 1) * k = k + i * k := by rw [Nat.add_mul]; omega
      have hl := E.len t
      rw [List.flatMap_cons, hp, List.take_append, List.take_of_length_le (by omega), hl, Nat.add_sub_cancel_left, ih]
      simp

/-- A slice that reads as these things. -/
def ReadsT (enc : α → List Value) (k : Nat) (w : World) (v : Value) (ts : List α) : Prop :=
  ∃ a cap, v = .slice a ts.length cap ∧ ts.length ≤ cap ∧ (ts ≠ [] → ∃ b off, a = some ⟨b, off, none⟩ ∧ b < w.heap.size ∧ ∀ j, j < ts.length * k → w.cell? ⟨b, off + j, none⟩ = (ts.flatMap enc)[j]?)
theorem ReadsT.nil (w : World) : ReadsT enc k w (.slice none 0 0) [] := ⟨none, 0, rfl, Nat.le_refl _, fun h => (h rfl).elim⟩
theorem ReadsT.below {w w' : World} {v : Value} {ts : List α} (h : ReadsT enc k w v ts) (hb : Below w.heap.size w w') : ReadsT enc k w' v ts := by
  obtain ⟨a, cap, e, hc, h⟩ := h
  refine ⟨a, cap, e, hc, fun hne => ?_⟩
  obtain ⟨b, off, ha, hlt, hcell⟩ := h hne
  exact ⟨b, off, ha, Nat.lt_of_lt_of_le hlt hb.size, fun j hj => (World.cell?_of_block (hb.block b hlt)).trans (hcell j hj)⟩
theorem ReadsT.grown {w w' : World} {v : Value} {ts : List α} {r : Nat} (h : ReadsT enc k w v ts) (hg : w.grownBy w' (some r)) (hap : ∀ (x : Addr) (n cap : Nat), v = .slice (some x) n cap → 0 < n → x.block ≠ r) : ReadsT enc k w' v ts := by
  obtain ⟨a, cap, e, hc, h'⟩ := h
  refine ⟨a, cap, e, hc, fun hne => ?_⟩
  obtain ⟨b, off, ha, hlt, hcell⟩ := h' hne
  have hb : b ≠ r := hap ⟨b, off, none⟩ ts.length cap (by rw [e, ha]) (List.length_pos_iff.2 hne)
  exact ⟨b, off, ha, Nat.lt_of_lt_of_le hlt hg.size, fun j hj => (World.cell?_of_block (hg.block b hlt (by simpa using hb))).trans (hcell j hj)⟩
theorem ReadsT.form {w : World} {v : Value} {ts : List α} {n : Nat} (h : ReadsT enc k w v ts) (hn : ts.length = n) : ∃ a cap, v = .slice a n cap ∧ n ≤ cap := by
  obtain ⟨a, cap, e, hc, _⟩ := h
  exact ⟨a, cap, by rw [e, hn], by omega⟩
/-- An element: where it lies. -/
theorem ReadsT.get (E : Enc enc k) {w : World} {a : Option Addr} {n cap : Nat} {ts : List α} (h : ReadsT enc k w (.slice a n cap) ts) {i : Nat} {t : α} (ht : ts[i]? = some t) :
    ∃ b off, a = some ⟨b, off, none⟩ ∧ b < w.heap.size ∧ Cells w ⟨b, off + i * k, none⟩ (enc t) := by
  obtain ⟨a', cap', e, _, h1⟩ := h
  cases e
  have hi : i < ts.length := (List.getElem?_eq_some_iff.1 ht).1
  obtain ⟨b, off, ha, hb, hc⟩ := h1 (by intro e; simp [e] at hi)
  refine ⟨b, off, ha, hb, fun c u hu => ?_⟩
  have hck : c < k := by have := (List.getElem?_eq_some_iff.1 hu).1; rwa [E.len] at this
  have hlt : i * k + c < ts.length * k := by
    have : (i + 1) * k ≤ ts.length * k := Nat.mul_le_mul_right _ hi
    rw [Nat.add_mul] at this
    omega
  rw [add_plain, Nat.add_assoc, hc _ hlt, E.get ts i t ht c hck, hu]
theorem Cells.at {w : World} {b o : Nat} {vs : List Value} (h : Cells w ⟨b, o, none⟩ vs) {j : Nat} {u : Value} (hu : vs[j]? = some u) : w.cell? ⟨b, o + j, none⟩ = some u := by
  have := h j u hu
  rwa [add_plain] at this
theorem Cells.below {w w' : World} {b o B : Nat} {vs : List Value} (h : Cells w ⟨b, o, none⟩ vs) (hb : Below B w w') (hlt : b < B) : Cells w' ⟨b, o, none⟩ vs := fun j u hu => by
  have := h j u hu
  rw [add_plain] at *
  exact (hb.cell (p := ⟨b, o + j, none⟩) hlt).trans this
theorem ReadsT.take (E : Enc enc k) {w : World} {a : Option Addr} {len cap : Nat} {ts : List α} (h : ReadsT enc k w (.slice a len cap) ts) (m : Nat) (hm : m ≤ len) (c : Nat) (hc : m ≤ c) : ReadsT enc k w (.slice a m c) (ts.take m) := by
  obtain ⟨a', cap', e', hc', h'⟩ := h
  cases e'
  refine ⟨a, c, by simp [Nat.min_eq_left hm], by simp; omega, fun hne => ?_⟩
  obtain ⟨b, off, ha, hb, hcell⟩ := h' (by intro e; simp [e] at hne)
  refine ⟨b, off, ha, hb, fun j hj => ?_⟩
  rw [List.length_take, Nat.min_eq_left hm] at hj
  have h2 : m * k ≤ ts.length * k := Nat.mul_le_mul_right _ hm
  rw [hcell j (by omega), ← E.take, List.getElem?_take, if_pos hj]

/-- A slice of things that the call owns. -/
def OwnsT (enc : α → List Value) (k : Nat) (w : World) (base : Nat) (e : TypeId) (v : Value) (ts : List α) : Prop := w.ownsRow base e k v ts.length (ts.flatMap enc)
theorem OwnsT.none (w : World) (base : Nat) (e : TypeId) : OwnsT enc k w base e (.slice none 0 0) [] := ⟨by simp, .inl ⟨rfl, rfl⟩⟩
theorem OwnsT.reads (E : Enc enc k) {w : World} {base e : Nat} {v : Value} {ts : List α} (h : OwnsT enc k w base e v ts) : ReadsT enc k w v ts := by
  rcases h.2 with ⟨rfl, h0⟩ | ⟨g, cap, cur, rfl, _, hg, hnc, _, hcs, htake⟩
  · have : ts = [] := List.eq_nil_of_length_eq_zero h0
    subst this
    exact ReadsT.nil w
  · refine ⟨_, cap, rfl, hnc, fun _ => ⟨g, 0, rfl, (Array.getElem?_eq_some_iff.1 hg).1, fun j hj => ?_⟩⟩
    rw [← htake, List.getElem?_take, if_pos hj, Nat.zero_add]
    have hjc : j < cur.size := by rw [hcs]; exact Nat.lt_of_lt_of_le hj (Nat.mul_le_mul_right _ hnc)
    simp [World.cell?, hg, hjc]
theorem OwnsT.below {w1 w2 : World} {base e : Nat} {v : Value} {ts : List α} (h : OwnsT enc k w1 base e v ts) (hb : Below w1.heap.size w1 w2) : OwnsT enc k w2 base e v ts := by
  refine ⟨h.1, ?_⟩
  rcases h.2 with h2 | ⟨g, cap, cur, rfl, hbg, hg, h3⟩
  · exact .inl h2
  · exact .inr ⟨g, cap, cur, rfl, hbg, (hb.block g (Array.getElem?_eq_some_iff.1 hg).1).trans hg, h3⟩
theorem OwnsT.grown {w1 w2 : World} {base e g : Nat} {v : Value} {ts : List α} (h : OwnsT enc k w1 base e v ts) (hg : w1.grownBy w2 (some g)) (hne : v.ownBlock ≠ some g) : OwnsT enc k w2 base e v ts := by
  refine ⟨h.1, ?_⟩
  rcases h.2 with h2 | ⟨g', cap, cur, rfl, hbg, hb, h3⟩
  · exact .inl h2
  · exact .inr ⟨g', cap, cur, rfl, hbg, (hg.block g' (Array.getElem?_eq_some_iff.1 hb).1 (by intro e; cases e; exact hne rfl)).trans hb, h3⟩
theorem OwnsT.bel {w w' : World} {base e : Nat} {v : Value} {ts : List α} (h : OwnsT enc k w base e v ts) (hg : w.grownBy w' v.ownBlock) (hb : base ≤ w.heap.size) : Below base w w' :=
  (Below.refl base w).grown hg hb fun j ej => by
    rcases h.2 with ⟨rfl, _⟩ | ⟨g, cap, cur, rfl, hb, _, _⟩
    · simp [Value.ownBlock] at ej
    · obtain rfl : g = j := by simpa [Value.ownBlock] using ej
      exact hb
theorem RowL.ownsT (E : Enc enc k) {w : World} {g e base : Nat} {ts : List α} (h : RowL w g e (ts.flatMap enc)) (hb : base ≤ g) (hm : ts.length ≤ maxLen) : OwnsT enc k w base e (.slice (some ⟨g, 0, none⟩) ts.length ts.length) ts :=
  ⟨E.flat ts, .inr ⟨g, ts.length, (ts.flatMap enc).toArray, rfl, hb, h, Nat.le_refl _, hm, by simpa using E.flat ts, by simpa using List.take_of_length_le (Nat.le_of_eq (E.flat ts))⟩⟩
theorem RowL.readsT (E : Enc enc k) {w : World} {g e : Nat} {ts : List α} (h : RowL w g e (ts.flatMap enc)) (cap : Nat) (hc : ts.length ≤ cap) : ReadsT enc k w (.slice (some ⟨g, 0, none⟩) ts.length cap) ts :=
  ⟨_, cap, rfl, hc, fun _ => ⟨g, 0, rfl, h.lt, fun j hj => by
    have hj' : j < (ts.flatMap enc).length := by rw [E.flat]; exact hj
    rw [Nat.zero_add, h.cell (j := j) (u := (ts.flatMap enc)[j]) (by simp [hj'])]; simp [hj']⟩⟩
end

/-- The type of a slice of such elements. -/
structure ElT (P : Program) (T e : TypeId) (z : Value) (k bytes : Nat) : Prop where
  under : P.underlying T = some (.slice e)
  info : ∃ i, P.info? e = some i ∧ i.zero = some z ∧ i.size = k ∧ i.bytes = bytes
  many : z.cells.size = k

section
variable {α : Type} {enc : α → List Value} {k : Nat} {P : Program} {T e : TypeId} {z : Value} {bytes : Nat}
theorem run_from_t (I : ElT P T e z k bytes) (a : Option Addr) (len cap m : Nat) (h : m ≤ len) (w : World) :
    (Instr.slice T (.slice a len cap) (some (.int .i64 (m : Int))) none none).run P w = .ok (.slice (if cap = m then a else a.map fun p => p.add (m * k)) (len - m) (cap - m)) w := by
  obtain ⟨i, hi, hz, hsz, hby⟩ := I.info
  simp [Instr.slice, run_underlying I.under, Instr.sliceBounds, run_sliceBound, sizeOf, typeInfo, hi, hsz, (by omega : (m : Int) ≤ (len : Int))]
theorem run_upto_t (I : ElT P T e z k bytes) (a : Option Addr) (len cap m : Nat) (h : m ≤ cap) (w : World) :
    (Instr.slice T (.slice a len cap) none (some (.int .i64 (m : Int))) none).run P w = .ok (.slice a m cap) w := by
  obtain ⟨i, hi, hz, hsz, hby⟩ := I.info
  simp [Instr.slice, run_underlying I.under, Instr.sliceBounds, run_sliceBound, sizeOf, typeInfo, hi, hsz, (by omega : (m : Int) ≤ (cap : Int))]
  cases a <;> simp [Addr.add]
theorem ReadsT.from (E : Enc enc k) {w : World} {a : Option Addr} {len cap m : Nat} {ts : List α} (h : ReadsT enc k w (.slice a len cap) ts) (hm : m ≤ len) : ReadsT enc k w (.slice (if cap = m then a else a.map fun p => p.add (m * k)) (len - m) (cap - m)) (ts.drop m) := by
  obtain ⟨a', cap', e', hc', hr'⟩ := h
  cases e'
  by_cases hcm : cap = m
  · have : ts.drop m = [] := by simp; omega
    rw [this]
    refine ⟨_, _, by congr 1; simp; omega, by simp, fun hne => (hne rfl).elim⟩
  · rw [if_neg hcm]
    refine ⟨_, cap - m, by rw [List.length_drop], by simp; omega, fun hne => ?_⟩
    have hlt : m < ts.length := by
      rcases Nat.lt_or_ge m ts.length with hl | hl
      · exact hl
      · exact absurd (List.drop_eq_nil_of_le hl) hne
    obtain ⟨b, off, ha, hb, hcell⟩ := hr' (by intro e; simp [e] at hlt)
    subst ha
    refine ⟨b, off + m * k, by simp [Addr.add], hb, fun j hj => ?_⟩
    have hsplit : ts.length * k = m * k + (ts.length - m) * k := by rw [← Nat.add_mul]; congr 1; omega
    rw [List.length_drop] at hj
    rw [Nat.add_assoc, hcell (m * k + j) (by omega), ← E.drop, List.getElem?_drop]
/-- append, whether it grows or not. -/
theorem run_append_t (E : Enc enc k) (I : ElT P T e z k bytes) (ty : TypeId) {base : Nat} {v vx : Value} {ts us : List α} {w : World} (hown : OwnsT enc k w base e v ts) (hr : ReadsT enc k w vx us)
    (h63 : ts.length + us.length ≤ maxLen) (hb : (ts.length + us.length) * bytes ≤ 140737488355328) (hbase : base ≤ w.heap.size) :
    ∃ v' w', (Builtin.append_ #[T, T] ty #[v, vx]).run P w = .ok v' w' ∧ OwnsT enc k w' base e v' (ts ++ us) ∧ w.grownBy w' v.ownBlock := by
  obtain ⟨i, hi, hz, hsz, hby⟩ := I.info
  obtain ⟨a, cap, rfl, hc, hcell⟩ := hr
  cases a with
  | none =>
    have hus : us = [] := by
      rcases Classical.em (us = []) with h | h
      · exact h
      · obtain ⟨b, off, ha, _⟩ := hcell h
        cases ha
    subst hus
    rcases id hown.2 with ⟨rfl, h0⟩ | ⟨g, cp, cur, rfl, hbg, hg, hnc, hcm, hcs, htake⟩
    · exact ⟨_, w, run_append_nilnil w I.under hi cap, by simpa using hown, grown_refl w _⟩
    · exact ⟨_, w, run_append_nilsrc w I.under hi g _ cp cap hnc, by simpa using hown, grown_refl w _⟩
  | some p =>
    obtain ⟨v', w', h1, h2, h3, _⟩ := run_append_own (P := P) w base T ty e i z k bytes I.under hi hz hsz hby I.many E.pos v ts.length _ hown p us.length cap (us.flatMap enc) (E.flat us)
      (fun j u hj => by
        have hjl : j < us.length * k := by
          have := (List.getElem?_eq_some_iff.1 hj).1
          rwa [E.flat] at this
        have hne : us ≠ [] := by intro e; simp [e] at hj
        obtain ⟨b, off, ha, _, hh⟩ := hcell hne
        cases ha
        rw [Addr.add_lit, hh j hjl, hj]) (E.ones us) h63 hb hbase
    refine ⟨v', w', h1, ?_, h3⟩
    unfold OwnsT
    rw [List.length_append, List.flatMap_append]
    exact h2
end

section
variable {α : Type} {enc : α → List Value} {k : Nat} {P : Program} {w : World} {o : Oper} {n : Nat} {D : List Deferred} {M : Slots} {T e : TypeId} {z : Value} {bytes : Nat} {r : Option Nat} {ops : Array Oper} {Q : Exit → Act → World → Prop} {rest : List Oper}
theorem LL.appendT {xs : Array Operand} {v vx : Value} {base : Nat} {ts us : List α} (ho : o.op = .call { callee := .builtin .append, args := xs, argTypes := #[T, T] }) (hx : evsM M xs.toList = some [v, vx]) (E : Enc enc k) (I : ElT P T e z k bytes) (hown : OwnsT enc k w base e v ts) (hr : ReadsT enc k w vx us)
    (h63 : ts.length + us.length ≤ maxLen) (hb : (ts.length + us.length) * bytes ≤ 140737488355328) (hbase : base ≤ w.heap.size) (hd : dstB n o.dst = true) (hg : wantB ops M o.guard = some true)
    (c : ∀ v' w', OwnsT enc k w' base e v' (ts ++ us) → w.grownBy w' v.ownBlock → LL r P ops Q n D (putM M o.dst v') rest w') : LL r P ops Q n D M (o :: rest) w := by
  obtain ⟨v', w', h1, h2, h3⟩ := run_append_t E I o.type hown hr h63 hb hbase
  refine LL.val (v := v') (R.builtin ho hx fun b => ?_) hd (by rw [ho]; rfl) hg (c v' w' h2 h3)
  unfold builtin
  simp only [Sem.run_bind, h1, Result.andThen_ok, Sem.run_pure]
end
end Go.Proofs.Ytajfffoaebjnlaa
