/- Maps whose keys are plain: what a block has at each key, and what the operations on maps do. Over any program. -/
import Derived.Test.YtajfffoaebjnlaaUp
import Derived.Test.YtajfffoaebjnlaaKept
import Derived.Test.YtajfffoaebjnlaaSeq
import Derived.Maps.RangeRun
namespace Go.Proofs.Ytajfffoaebjnlaa
set_option linter.unusedVariables false
set_option linter.unusedSimpArgs false
open Go.RowKit Go.Shelf
open Go.MapKept (Stamped IsKey)

/-- Block b is a map of n entries; f says what it has at a key. -/
def MapK {α β : Type} (d : TypeDesc) (ke : α → Value) (ve : β → Value) (w : World) (b n : Nat) (f : α → Option β) : Prop :=
  ∃ es clock, w.heap[b]? = some (.map es clock) ∧ Stamped es clock ∧ es.size = n ∧ (∀ x ∈ es.toList, ∃ a v, x.key = ke a ∧ f a = some v ∧ x.val = ve v) ∧ ∀ a v, f a = some v → ∃ x ∈ es.toList, x.key = ke a ∧ x.val = ve v
/-- Keys that are plain. -/
structure KeyE {α : Type} (P : Program) (k : TypeId) (d : TypeDesc) (ke : α → Value) : Prop where
  under : P.underlying k = some d
  key : ∀ a, IsKey d (ke a)
  inj : ∀ a b, ke a = ke b → a = b
/-- The map with another thing at a key, or none. -/
def putF {α β : Type} [DecidableEq α] (f : α → Option β) (a : α) (v : Option β) : α → Option β := fun x => if x = a then v else f x

section
variable {α β : Type} {d : TypeDesc} {ke : α → Value} {ve : β → Value} {w w' : World} {b n : Nat} {f : α → Option β} {P : Program} {k : TypeId}
theorem MapK.lt (h : MapK d ke ve w b n f) : b < w.heap.size := by
  obtain ⟨es, clock, hb, _⟩ := h
  exact (Array.getElem?_eq_some_iff.1 hb).1
theorem MapK.same (h : MapK d ke ve w b n f) (e : w'.heap[b]? = w.heap[b]?) : MapK d ke ve w' b n f := by
  obtain ⟨es, clock, hb, r⟩ := h
  exact ⟨es, clock, e.trans hb, r⟩
theorem MapK.up (h : MapK d ke ve w b n f) (hb : Below w.heap.size w w') : MapK d ke ve w' b n f := h.same (hb.block b h.lt)
theorem MapK.gr {r : Nat} (h : MapK d ke ve w b n f) (hg : w.grownBy w' (some r)) (hne : b ≠ r) : MapK d ke ve w' b n f := h.same (hg.block b h.lt (by simpa using hne))
theorem MapK.kept {K : Nat → Prop} (h : MapK d ke ve w b n f) (hk : Kept K w w') (hb : K b) : MapK d ke ve w' b n f := h.same (hk.block b hb)
theorem MapK.made (w : World) : MapK d ke ve (w.alloc (.map #[] 0)) w.heap.size 0 f ↔ (∀ a, f a = none) := by
  constructor
  · rintro ⟨es, clock, hb, _, h0, _, h2⟩ a
    cases hf : f a with
    | none => rfl
    | some v =>
      obtain ⟨x, hx, _⟩ := h2 a v hf
      have : es = #[] := Array.eq_empty_of_size_eq_zero h0
      subst this
      simp at hx
  · intro h
    exact ⟨#[], 0, (MapKept.heap_alloc w _).1, MapKept.stamped_empty 0, rfl, by simp, fun a v e => by rw [h a] at e; cases e⟩
theorem isKey_of (KE : KeyE P k d ke) {es : Array MapEntry} (h : ∀ x ∈ es.toList, ∃ a v, x.key = ke a ∧ f a = some v ∧ x.val = ve v) : ∀ x ∈ es.toList, IsKey d x.key := fun x hx => by
  obtain ⟨a, v, e, _⟩ := h x hx
  rw [e]
  exact KE.key a
/-- What is found at a key. -/
theorem findK (KE : KeyE P k d ke) {es : Array MapEntry} {clock : Nat} (hs : Stamped es clock) (h1 : ∀ x ∈ es.toList, ∃ a v, x.key = ke a ∧ f a = some v ∧ x.val = ve v) (h2 : ∀ a v, f a = some v → ∃ x ∈ es.toList, x.key = ke a ∧ x.val = ve v) (a : α) :
    (f a = none ∧ Instr.findNow d (ke a) es.toList 0 = some none ∧ ∀ x ∈ es.toList, x.key ≠ ke a) ∨ ∃ v j e, f a = some v ∧ Instr.findNow d (ke a) es.toList 0 = some (some (j, ve v)) ∧ es.toList[j]? = some e ∧ e.key = ke a ∧ e.val = ve v := by
  rcases MapKept.findNow_spec (KE.key a) es.toList 0 (isKey_of KE h1) with ⟨h3, h4⟩ | ⟨j, e, h3, h4, h5⟩
  · left
    refine ⟨?_, h3, h4⟩
    cases hf : f a with
    | none => rfl
    | some v =>
      obtain ⟨x, hx, e, _⟩ := h2 a v hf
      exact absurd e (h4 x hx)
  · right
    obtain ⟨a', v, e1, e2, e3⟩ := h1 e (List.mem_of_getElem? h4)
    have : a' = a := KE.inj _ _ (by rw [← e1, h5])
    subst this
    exact ⟨v, j, e, e2, by rw [h3, e3, Nat.zero_add], h4, h5, e3⟩
/-- The value at a key, or z. -/
def atK (ve : β → Value) (z : Value) : Option β → Value
  | some v => ve v
  | none => z
theorem I.look (KE : KeyE P k d ke) {t e : TypeId} {z : Value} (ht : P.underlying t = some (.map k e)) (hz : zeroB P e = some z) (h : MapK d ke ve w b n f) (a : α) (c : Bool) :
    (Instr.lookup t (.map (some b)) (ke a) c).run P w = .ok (if c then .tuple #[atK ve z (f a), .bool (f a).isSome] else atK ve z (f a)) w := by
  obtain ⟨es, clock, hb, hs, _, h1, h2⟩ := h
  rcases findK KE hs h1 h2 a with ⟨hf, hn, _⟩ | ⟨v, j, e, hf, hn, _⟩
  · simp [Instr.lookup, run_underlying ht, MapKept.run_getObj_map hb, MapKept.run_checkKey KE.under (KE.key a), MapKept.run_findKey KE.under hn, zero_of hz, Result.andThen, hf, atK]
  · simp [Instr.lookup, run_underlying ht, MapKept.run_getObj_map hb, MapKept.run_checkKey KE.under (KE.key a), MapKept.run_findKey KE.under hn, Result.andThen, hf, atK]
theorem I.look0 (KE : KeyE P k d ke) {t e : TypeId} {z : Value} (ht : P.underlying t = some (.map k e)) (hz : zeroB P e = some z) (a : α) (c : Bool) :
    (Instr.lookup t (.map none) (ke a) c).run P w = .ok (if c then .tuple #[z, .bool false] else z) w := by
  have hn : Instr.findNow d (ke a) ([] : List MapEntry) 0 = some none := rfl
  simp [Instr.lookup, run_underlying ht, MapKept.run_checkKey KE.under (KE.key a), MapKept.run_findKey KE.under hn, zero_of hz, Result.andThen]
theorem I.mlen {t e : TypeId} (ht : P.underlying t = some (.map k e)) (h : MapK d ke ve w b n f) (ty : TypeId) : (Builtin.len_ #[t] ty #[.map (some b)]).run P w = .ok (.int .i64 (n : Int)) w := by
  obtain ⟨es, clock, hb, _, rfl, _⟩ := h
  simp [Builtin.len_, run_underlying ht, MapKept.run_getObj_map hb, goInt, Result.andThen]
theorem set_grown {o o' : Obj} (hb : w.heap[b]? = some o) : w.grownBy { w with heap := w.heap.setIfInBounds b o' } (some b) :=
  ⟨rfl, rfl, rfl, by simp, fun i _ hi => (MapKept.heap_set hb).2 i (fun e => hi (by rw [e]))⟩
variable [DecidableEq α]
/-- m[k] = v. -/
theorem I.mput (KE : KeyE P k d ke) {t e : TypeId} (ht : P.underlying t = some (.map k e)) (h : MapK d ke ve w b n f) (a : α) (v : β) :
    ∃ w', (Instr.mapUpdate t (.map (some b)) (ke a) (ve v)).run P w = .ok () w' ∧ MapK d ke ve w' b (if (f a).isSome then n else n + 1) (putF f a (some v)) ∧ w.grownBy w' (some b) ∧ w'.heap.size = w.heap.size := by
  obtain ⟨es, clock, hb, hs, hn, h1, h2⟩ := h
  rcases findK KE hs h1 h2 a with ⟨hf, hnow, hno⟩ | ⟨u, j, e0, hf, hnow, hj, hk0, hv0⟩
  · refine ⟨{ w with heap := w.heap.setIfInBounds b (.map (es.push { key := ke a, val := ve v, born := clock }) (clock + 1)) }, ?_, ⟨_, _, (MapKept.heap_set hb).1, MapKept.stamped_push hs hno, by simp [hf, hn], ?_, ?_⟩, set_grown hb, by simp⟩
    · simp [Instr.mapUpdate, run_underlying ht, MapKept.run_getObj_map hb, MapKept.run_checkKey KE.under (KE.key a), MapKept.run_findKey KE.under hnow, MapKept.run_setObj_map _ hb, Result.andThen]
    · intro x hx
      simp only [Array.toList_push, List.mem_append, List.mem_singleton] at hx
      rcases hx with hx | rfl
      · obtain ⟨a', v', e1, e2, e3⟩ := h1 x hx
        refine ⟨a', v', e1, ?_, e3⟩
        unfold putF
        rw [if_neg, e2]
        rintro rfl
        rw [hf] at e2
        cases e2
      · exact ⟨a, v, rfl, by simp [putF], rfl⟩
    · intro a' v' h
      unfold putF at h
      split at h
      · rename_i e
        subst e
        cases h
        exact ⟨{ key := ke a', val := ve v, born := clock }, by simp, rfl, rfl⟩
      · obtain ⟨x, hx, e1, e2⟩ := h2 a' v' h
        exact ⟨x, by simp only [Array.toList_push, List.mem_append]; exact .inl hx, e1, e2⟩
  · have hj' : es[j]? = some e0 := by simpa using hj
    have hkey : ∀ e', es[j]? = some e' → ({ e' with key := ke a, val := ve v } : MapEntry).key = e'.key := fun e' he' => by rw [hj'] at he'; cases he'; exact hk0.symm
    have hlist : (es.modify j (fun e' => { e' with key := ke a, val := ve v })).toList = es.toList.set j { e0 with key := ke a, val := ve v } := by
      rw [Array.toList_modify]
      refine List.ext_getElem? fun i => ?_
      rw [List.getElem?_modify, List.getElem?_set]
      by_cases hi : j = i
      · subst hi
        have hl : j < es.size := by simpa using (List.getElem?_eq_some_iff.1 hj).1
        rw [hj]
        simp [hl]
      · simp [hi]
    refine ⟨{ w with heap := w.heap.setIfInBounds b (.map (es.modify j fun e' => { e' with key := ke a, val := ve v }) clock) }, ?_, ⟨_, _, (MapKept.heap_set hb).1, MapKept.stamped_modify hs _ _ (fun _ _ => rfl) (fun e' _ he' => hkey e' he'), by simp [hf, hn], ?_, ?_⟩, set_grown hb, by simp⟩
    · simp [Instr.mapUpdate, run_underlying ht, MapKept.run_getObj_map hb, MapKept.run_checkKey KE.under (KE.key a), MapKept.run_findKey KE.under hnow, hj', hk0, MapKept.run_keyThatStays (KE.key a), MapKept.run_setObj_map _ hb, Result.andThen]
    · intro x hx
      rw [hlist] at hx
      obtain ⟨i, hi⟩ := List.getElem?_of_mem hx
      rw [List.getElem?_set] at hi
      split at hi
      · split at hi
        · cases hi
          exact ⟨a, v, rfl, by simp [putF], rfl⟩
        · cases hi
      · rename_i hne
        have hx0 := List.mem_of_getElem? hi
        obtain ⟨a', v', e1, e2, e3⟩ := h1 x hx0
        refine ⟨a', v', e1, ?_, e3⟩
        unfold putF
        rw [if_neg, e2]
        rintro rfl
        have hpw := ((MapKept.stamped_iff es clock).1 hs).2.2
        have hll := (List.getElem?_eq_some_iff.1 hj).1
        have hil := (List.getElem?_eq_some_iff.1 hi).1
        have e4 := (List.getElem?_eq_some_iff.1 hj).2
        have e5 := (List.getElem?_eq_some_iff.1 hi).2
        rcases Nat.lt_or_ge i j with hlt | hge
        · have := List.pairwise_iff_getElem.1 hpw i j hil hll hlt
          rw [e4, e5, hk0, e1] at this
          exact this rfl
        · have := List.pairwise_iff_getElem.1 hpw j i hll hil (by omega)
          rw [e4, e5, hk0, e1] at this
          exact this rfl
    · intro a' v' h
      rw [hlist]
      have hll : j < es.size := by simpa using (List.getElem?_eq_some_iff.1 hj).1
      unfold putF at h
      split at h
      · rename_i e
        subst e
        cases h
        exact ⟨{ e0 with key := ke a', val := ve v }, List.mem_iff_getElem?.2 ⟨j, by rw [List.getElem?_set]; simp [hll]⟩, rfl, rfl⟩
      · rename_i hne
        obtain ⟨x, hx, e1, e2⟩ := h2 a' v' h
        obtain ⟨i, hi⟩ := List.getElem?_of_mem hx
        refine ⟨x, List.mem_iff_getElem?.2 ⟨i, ?_⟩, e1, e2⟩
        rw [List.getElem?_set, if_neg, hi]
        rintro rfl
        rw [hj] at hi
        cases hi
        exact hne (KE.inj _ _ (by rw [← e1, hk0]))
/-- delete(m, k). -/
theorem I.mdel (KE : KeyE P k d ke) {t e : TypeId} (ht : P.underlying t = some (.map k e)) (h : MapK d ke ve w b n f) (a : α) (ty : TypeId) :
    ∃ w', (Builtin.delete_ #[t, k] ty #[.map (some b), ke a]).run P w = .ok (.tuple #[]) w' ∧ MapK d ke ve w' b (if (f a).isSome then n - 1 else n) (putF f a none) ∧ w.grownBy w' (some b) ∧ w'.heap.size = w.heap.size := by
  obtain ⟨es, clock, hb, hs, hn, h1, h2⟩ := h
  rcases findK KE hs h1 h2 a with ⟨hf, hnow, hno⟩ | ⟨u, j, e0, hf, hnow, hj, hk0, hv0⟩
  · refine ⟨{ w with heap := w.heap.setIfInBounds b (.map es clock) }, ?_, ⟨_, _, (MapKept.heap_set hb).1, hs, by simp [hf, hn], ?_, ?_⟩, set_grown hb, by simp⟩
    · simp [Builtin.delete_, run_underlying ht, MapKept.run_getObj_map hb, MapKept.run_checkKey KE.under (KE.key a), MapKept.run_findKey KE.under hnow, MapKept.run_setObj_map _ hb, Result.andThen]
    · intro x hx
      obtain ⟨a', v', e1, e2, e3⟩ := h1 x hx
      refine ⟨a', v', e1, ?_, e3⟩
      unfold putF
      rw [if_neg, e2]
      rintro rfl
      rw [hf] at e2
      cases e2
    · intro a' v' h
      unfold putF at h
      split at h
      · cases h
      · exact h2 a' v' h
  · have hjl : j < es.toList.length := (List.getElem?_eq_some_iff.1 hj).1
    have hjs : j < es.size := by simpa using hjl
    have hsub : (es.eraseIdxIfInBounds j).toList = es.toList.eraseIdx j := by
      unfold Array.eraseIdxIfInBounds
      rw [dif_pos hjs]
      simp
    have hpw := ((MapKept.stamped_iff es clock).1 hs).2.2
    have hoth : ∀ i x, es.toList[i]? = some x → i ≠ j → x.key ≠ ke a := fun i x hi hne e1 => by
      have hil := (List.getElem?_eq_some_iff.1 hi).1
      have e4 := (List.getElem?_eq_some_iff.1 hj).2
      have e5 := (List.getElem?_eq_some_iff.1 hi).2
      rcases Nat.lt_or_ge i j with hlt | hge
      · have := List.pairwise_iff_getElem.1 hpw i j hil hjl hlt
        rw [e4, e5, hk0, e1] at this
        exact this rfl
      · have := List.pairwise_iff_getElem.1 hpw j i hjl hil (by omega)
        rw [e4, e5, hk0, e1] at this
        exact this rfl
    refine ⟨{ w with heap := w.heap.setIfInBounds b (.map (es.eraseIdxIfInBounds j) clock) }, ?_, ⟨_, _, (MapKept.heap_set hb).1, MapKept.stamped_erase hs _, ?_, ?_, ?_⟩, set_grown hb, by simp⟩
    · simp [Builtin.delete_, run_underlying ht, MapKept.run_getObj_map hb, MapKept.run_checkKey KE.under (KE.key a), MapKept.run_findKey KE.under hnow, MapKept.run_setObj_map _ hb, Result.andThen]
    · rw [← Array.length_toList, hsub, List.length_eraseIdx, if_pos hjl]
      simp [hf, ← hn]
    · intro x hx
      rw [hsub] at hx
      obtain ⟨i, hne, hi⟩ := List.mem_eraseIdx_iff_getElem?.1 hx
      obtain ⟨a', v', e1, e2, e3⟩ := h1 x (List.mem_of_getElem? hi)
      refine ⟨a', v', e1, ?_, e3⟩
      unfold putF
      rw [if_neg, e2]
      rintro rfl
      exact hoth i x hi hne e1
    · intro a' v' h
      unfold putF at h
      split at h
      · cases h
      · rename_i hne
        obtain ⟨x, hx, e1, e2⟩ := h2 a' v' h
        obtain ⟨i, hi⟩ := List.getElem?_of_mem hx
        refine ⟨x, ?_, e1, e2⟩
        rw [hsub, List.mem_eraseIdx_iff_getElem?]
        refine ⟨i, ?_, hi⟩
        rintro rfl
        rw [hj] at hi
        cases hi
        exact hne (KE.inj _ _ (by rw [← e1, hk0]))
omit [DecidableEq α] in
/-- clear(m). -/
theorem I.mclear {t e : TypeId} (ht : P.underlying t = some (.map k e)) (h : MapK d ke ve w b n f) (ty : TypeId) :
    ∃ w', (Builtin.clear_ #[t] ty #[.map (some b)]).run P w = .ok (.tuple #[]) w' ∧ MapK d ke ve w' b 0 (fun _ => none) ∧ w.grownBy w' (some b) ∧ w'.heap.size = w.heap.size := by
  obtain ⟨es, clock, hb, hs, hn, h1, h2⟩ := h
  refine ⟨{ w with heap := w.heap.setIfInBounds b (.map #[] clock) }, ?_, ⟨_, _, (MapKept.heap_set hb).1, MapKept.stamped_empty _, rfl, by simp, by simp⟩, set_grown hb, by simp⟩
  simp [Builtin.clear_, run_underlying ht, MapKept.run_getObj_map hb, MapKept.run_setObj_map _ hb, Result.andThen]
end

section
variable {α β : Type} {d : TypeDesc} {ke : α → Value} {ve : β → Value} {w w' : World} {b b' n n' : Nat} {f : α → Option β}
/-- What a map has says how many entries it has. -/
theorem MapK.many (h : MapK d ke ve w b n f) (h' : MapK d ke ve w' b' n' f) : n = n' := by
  obtain ⟨es, clock, _, hs, hn, h1, h2⟩ := h
  obtain ⟨es', clock', _, hs', hn', h1', h2'⟩ := h'
  have key : ∀ (es : Array MapEntry), (∀ x ∈ es.toList, ∃ a v, x.key = ke a ∧ f a = some v ∧ x.val = ve v) → (∀ a v, f a = some v → ∃ x ∈ es.toList, x.key = ke a ∧ x.val = ve v) → ∀ k, k ∈ es.toList.map (·.key) ↔ ∃ a v, k = ke a ∧ f a = some v := fun es h1 h2 k => by
    constructor
    · intro h
      obtain ⟨x, hx, rfl⟩ := List.mem_map.1 h
      obtain ⟨a, v, e, e2, _⟩ := h1 x hx
      exact ⟨a, v, e, e2⟩
    · rintro ⟨a, v, rfl, e⟩
      obtain ⟨x, hx, e2, _⟩ := h2 a v e
      exact List.mem_map.2 ⟨x, hx, e2⟩
  have hp := (List.perm_ext_iff_of_nodup hs.2.2 hs'.2.2).2 fun k => (key es h1 h2 k).trans (key es' h1' h2' k).symm
  have := hp.length_eq
  simp only [List.length_map, Array.length_toList] at this
  omega
end
/-! A range over a map: which keys are still to come. -/
def RangeK {α β : Type} (d : TypeDesc) (ke : α → Value) (ve : β → Value) (w : World) (b r n : Nat) (f : α → Option β) (left : α → Prop) (cnt : Nat) : Prop :=
  ∃ es clock since seen c0, w.heap[b]? = some (.map es clock) ∧ Stamped es clock ∧ es.size = n ∧ (∀ x ∈ es.toList, ∃ a v, x.key = ke a ∧ f a = some v ∧ x.val = ve v) ∧ (∀ a v, f a = some v → ∃ x ∈ es.toList, x.key = ke a ∧ x.val = ve v) ∧
    w.heap[r]? = some (.mapIter (some b) since seen c0) ∧ (∀ x ∈ es.toList, x.born < since) ∧ (leftOf es seen).size = cnt ∧ (∀ x ∈ es.toList, ∀ a, x.key = ke a → (left a ↔ seen.contains x.born = false)) ∧ (∀ a, left a → f a ≠ none) ∧ since ≤ c0 ∧ since ≤ clock
section
variable {α β : Type} {d : TypeDesc} {ke : α → Value} {ve : β → Value} {w w' : World} {b r n cnt : Nat} {f : α → Option β} {left : α → Prop} {P : Program} {k : TypeId}
theorem RangeK.map (h : RangeK d ke ve w b r n f left cnt) : MapK d ke ve w b n f := by
  obtain ⟨es, clock, since, seen, c0, hb, hs, hn, h1, h2, _⟩ := h
  exact ⟨es, clock, hb, hs, hn, h1, h2⟩
theorem RangeK.lt (h : RangeK d ke ve w b r n f left cnt) : r < w.heap.size := by
  obtain ⟨es, clock, since, seen, c0, _, _, _, _, _, hr, _⟩ := h
  exact (Array.getElem?_eq_some_iff.1 hr).1
theorem RangeK.same (h : RangeK d ke ve w b r n f left cnt) (e1 : w'.heap[b]? = w.heap[b]?) (e2 : w'.heap[r]? = w.heap[r]?) : RangeK d ke ve w' b r n f left cnt := by
  obtain ⟨es, clock, since, seen, c0, hb, hs, hn, h1, h2, hr, rest⟩ := h
  exact ⟨es, clock, since, seen, c0, e1.trans hb, hs, hn, h1, h2, e2.trans hr, rest⟩
theorem RangeK.up (h : RangeK d ke ve w b r n f left cnt) (hb : Below w.heap.size w w') : RangeK d ke ve w' b r n f left cnt := h.same (hb.block b h.map.lt) (hb.block r h.lt)
theorem RangeK.gr {g : Nat} (h : RangeK d ke ve w b r n f left cnt) (hg : w.grownBy w' (some g)) (hne : b ≠ g ∧ r ≠ g) : RangeK d ke ve w' b r n f left cnt := h.same (hg.block b h.map.lt (by simpa using hne.1)) (hg.block r h.lt (by simpa using hne.2))
theorem I.mrange (KE : KeyE P k d ke) {t e : TypeId} (ht : P.underlying t = some (.map k e)) (h : MapK d ke ve w b n f) :
    ∃ w', (Instr.range t (.map (some b))).run P w = .ok (.pointer (some ⟨w.heap.size, 0, none⟩)) w' ∧ RangeK d ke ve w' b w.heap.size n f (fun a => f a ≠ none) n ∧ Below w.heap.size w w' ∧ w'.heap.size = w.heap.size + 1 := by
  have hlt := h.lt
  obtain ⟨es, clock, hb, hs, hn, h1, h2⟩ := h
  refine ⟨_, run_range_map w t k e b es clock ht hb, ⟨es, clock, clock, #[], clock, ((MapKept.heap_alloc w _).2 b hlt).trans hb, hs, hn, h1, h2, (MapKept.heap_alloc w _).1, hs.1, ?_, ?_, fun a h => h, Nat.le_refl _, Nat.le_refl _⟩, Below.alloc0 w _, by simp⟩
  · have e0 : leftOf es #[] = es := Array.filter_eq_self.2 fun x _ => by simp
    rw [e0, hn]
  · intro x hx a e
    obtain ⟨a', v, e1, e2, _⟩ := h1 x hx
    obtain rfl : a = a' := KE.inj _ _ (by rw [← e, e1])
    simp [e2]
/-- The step: nothing is left; or a key that was left comes, whichever, with what the map has there. -/
theorem I.mnext (KE : KeyE P k d ke) (h : RangeK d ke ve w b r n f left cnt) (ty : TypeId) :
    (cnt = 0 ∧ (∀ a, ¬ left a) ∧ (Instr.next (.pointer (some ⟨r, 0, none⟩)) false ty).run P w = .ok (.tuple #[.bool false]) w) ∨
    ∃ a v w' cnt', left a ∧ f a = some v ∧ (Instr.next (.pointer (some ⟨r, 0, none⟩)) false ty).run P w = .ok (.tuple #[.bool true, ke a, ve v]) w' ∧ RangeK d ke ve w' b r n f (fun x => left x ∧ x ≠ a) cnt' ∧ cnt' < cnt ∧ w.grownBy w' (some r) ∧ w'.heap.size = w.heap.size ∧
      (Instr.entry (.pointer (some ⟨r, 0, none⟩))).run P w' = .ok (.tuple #[ke a, ve v]) w' := by
  obtain ⟨es, clock, since, seen, c0, hb, hs, hn, h1, h2, hr, hold, rfl, hl1, hl2, hsc, hsk⟩ := h
  have hne : r ≠ b := by
    rintro rfl
    rw [hb] at hr
    cases hr
  rcases run_next_at (P := P) w ty r b since c0 seen es clock hr hb hold hsc with ⟨h0, hrun⟩ | ⟨e, he, w1, hal, hrun⟩
  · refine .inl ⟨h0, fun a ha => ?_, hrun⟩
    have hf := hl2 a ha
    cases hfa : f a with
    | none => exact hf hfa
    | some v =>
      obtain ⟨x, hx, e1, _⟩ := h2 a v hfa
      have := (hl1 x hx a e1).1 ha
      have hm : x ∈ (leftOf es seen).toList := by simp only [leftOf, Array.toList_filter, List.mem_filter]; exact ⟨hx, by rw [this]; rfl⟩
      have := List.length_pos_of_mem hm
      simp at this
      omega
  · have hem : e ∈ es.toList ∧ seen.contains e.born = false := by
      simp only [leftOf, Array.toList_filter, List.mem_filter] at he
      exact ⟨he.1, by simpa only [Bool.not_eq_true'] using he.2⟩
    obtain ⟨hem, hes⟩ := hem
    obtain ⟨a, v, ek, ef, ev⟩ := h1 e hem
    have hr1 : w1.heap[r]? = some (.mapIter (some b) since seen c0) := by rcases hal with rfl | rfl <;> exact hr
    have hb1 : w1.heap[b]? = some (.map es clock) := by rcases hal with rfl | rfl <;> exact hb
    have hset := MapKept.heap_set (o' := .mapIter (some b) since (seen.push e.born) clock) hr1
    have hb' := (hset.2 b (fun e1 => hne e1.symm)).trans hb1
    have hst := (MapKept.stamped_iff es clock).1 hs
    refine .inr ⟨a, v, _, _, (hl1 e hem a ek).2 hes, ef, by rw [← ek, ← ev]; exact hrun, ⟨es, clock, since, seen.push e.born, clock, hb', hs, hn, h1, h2, hset.1, hold, rfl, fun x hx a2 e2 => ?_, fun a2 h3 => hl2 a2 h3.1, hsk, hsk⟩, left_shrinks es seen e he, ?_, ?_, ?_⟩
    · simp only
      rw [hl1 x hx a2 e2, contains_push]
      by_cases hxe : x.born = e.born
      · have : x = e := born_inj hst.2.1 hx hem hxe
        subst this
        obtain rfl : a2 = a := KE.inj _ _ (by rw [← e2, ek])
        simp
      · have h5 : a2 ≠ a := by
          rintro rfl
          have h6 := hst.2.2
          have : x = e := by
            obtain ⟨i, hi⟩ := List.getElem?_of_mem hx
            obtain ⟨j, hj⟩ := List.getElem?_of_mem hem
            have hil := (List.getElem?_eq_some_iff.1 hi).1
            have hjl := (List.getElem?_eq_some_iff.1 hj).1
            have e4 := (List.getElem?_eq_some_iff.1 hi).2
            have e5 := (List.getElem?_eq_some_iff.1 hj).2
            rcases Nat.lt_trichotomy i j with hlt | rfl | hlt
            · exact absurd (by rw [e4, e5, e2, ek]) (List.pairwise_iff_getElem.1 h6 i j hil hjl hlt)
            · rw [hi] at hj; cases hj; rfl
            · exact absurd (by rw [e4, e5, e2, ek]) (List.pairwise_iff_getElem.1 h6 j i hjl hil hlt)
          exact hxe (by rw [this])
        simp [hxe, h5]
    · rcases hal with rfl | rfl <;> exact ⟨rfl, rfl, rfl, by simp [ChangeMaps.setBlock], fun i _ hi => hset.2 i (fun e1 => hi (by rw [e1]))⟩
    · rcases hal with rfl | rfl <;> simp [ChangeMaps.setBlock]
    · rw [← ek, ← ev]
      exact run_entry_at _ r b since seen es clock e hset.1 hb' hem hst.2.1
end

/-! At the operations. -/
section
variable {α β : Type} {d : TypeDesc} {ke : α → Value} {ve : β → Value} {w : World} {b n : Nat} {f : α → Option β} {P : Program} {k t e : TypeId} {o : Oper} {N : Nat} {D : List Deferred} {M : Slots} {x y : Operand} {r : Option Nat} {ops : Array Oper} {Q : Exit → Act → World → Prop} {rest : List Oper} {z : Value} {u : Value}
theorem R.lookK (ho : o.op = .lookup t x y false) (hx : evM M x = some (.map (some b))) (KE : KeyE P k d ke) (ht : P.underlying t = some (.map k e)) (hz : zeroB P e = some z) (h : MapK d ke ve w b n f) (a : α) (hy : evM M y = some (ke a)) (hu : atK ve z (f a) = u) : Runs P N D M o w (.value u) w := fun ac F => by
  unfold execOp; simp only [ho, F.ev hx, F.ev hy, Sem.run_bind, Sem.run_pure, I.look KE ht hz h a false, Result.andThen_ok]; simp [hu]
theorem R.lookKT (ho : o.op = .lookup t x y true) (hx : evM M x = some (.map (some b))) (KE : KeyE P k d ke) (ht : P.underlying t = some (.map k e)) (hz : zeroB P e = some z) (h : MapK d ke ve w b n f) (a : α) (hy : evM M y = some (ke a)) {v : β} (hv : f a = some v) : Runs P N D M o w (.value (.tuple #[ve v, .bool true])) w := fun ac F => by
  unfold execOp; simp only [ho, F.ev hx, F.ev hy, Sem.run_bind, Sem.run_pure, I.look KE ht hz h a true, Result.andThen_ok]; simp [hv, atK]
theorem R.lookKF (ho : o.op = .lookup t x y true) (hx : evM M x = some (.map (some b))) (KE : KeyE P k d ke) (ht : P.underlying t = some (.map k e)) (hz : zeroB P e = some z) (h : MapK d ke ve w b n f) (a : α) (hy : evM M y = some (ke a)) (hv : f a = none) : Runs P N D M o w (.value (.tuple #[z, .bool false])) w := fun ac F => by
  unfold execOp; simp only [ho, F.ev hx, F.ev hy, Sem.run_bind, Sem.run_pure, I.look KE ht hz h a true, Result.andThen_ok]; simp [hv, atK]
theorem R.mlen {xs : Array Operand} (ho : o.op = .call { callee := .builtin .len, args := xs, argTypes := #[t] }) (hx : evsM M xs.toList = some [.map (some b)]) (ht : P.underlying t = some (.map k e)) (h : MapK d ke ve w b n f) : Runs P N D M o w (.value (.int .i64 (n : Int))) w :=
  R.builtin ho hx fun cs => by
    show (((do pure (Next.value (← Builtin.len_ #[t] o.type #[.map (some b)]))) : Sem Next)).run P w = _
    simp only [Sem.run_bind, I.mlen ht h o.type, Result.andThen_ok, Sem.run_pure]
theorem R.makeMap0 (ho : o.op = .makeMap t none) : Runs P N D M o w (.value (.map (some w.heap.size))) (w.alloc (.map #[] 0)) := fun ac F => by
  unfold execOp; simp [ho, Instr.makeMap, Result.andThen]
theorem R.makeMapH {hnt : Int} {kk : IntKind} (ho : o.op = .makeMap t (some x)) (hx : evM M x = some (.int kk hnt)) (ht : P.underlying t = some (.map k e)) : Runs P N D M o w (.value (.map (some w.heap.size))) (w.alloc (.map #[] 0)) := fun ac F => by
  unfold execOp; simp [ho, F.ev hx, Instr.makeMap, run_underlying ht, asInt, asIntOf, Result.andThen]
theorem LL.makeMap (hr : Runs P N D M o w (.value (.map (some w.heap.size))) (w.alloc (.map #[] 0))) (hd : dstB N o.dst = true) (hdf : dfB o.op = false) (hg : wantB ops M o.guard = some true)
    (c : ∀ w1 g, g = w.heap.size → (∀ (α β : Type) (d : TypeDesc) (ke : α → Value) (ve : β → Value), MapK d ke ve w1 g 0 (fun _ => none)) → w1.heap.size = g + 1 → Below w.heap.size w w1 → LL r P ops Q N D (putM M o.dst (.map (some g))) rest w1) : LL r P ops Q N D M (o :: rest) w :=
  LL.val hr hd hdf hg (c _ _ rfl (fun _ _ _ _ _ => (MapK.made w).2 fun _ => rfl) (by simp) (Below.alloc0 w _))
theorem LL.mput [DecidableEq α] {y2 : Operand} (ho : o.op = .mapUpdate t x y y2 ∨ o.op = .insert t x y y2) (hx : evM M x = some (.map (some b))) (KE : KeyE P k d ke) (ht : P.underlying t = some (.map k e)) (h : MapK d ke ve w b n f) (a : α) (v : β) (hy : evM M y = some (ke a)) (hv : evM M y2 = some (ve v)) (hd : o.dst = none) (hdf : dfB o.op = false) (hg : wantB ops M o.guard = some true)
    (c : ∀ w', MapK d ke ve w' b (if (f a).isSome then n else n + 1) (putF f a (some v)) → w.grownBy w' (some b) → w'.heap.size = w.heap.size → LL r P ops Q N D M rest w') : LL r P ops Q N D M (o :: rest) w := by
  obtain ⟨w', h1, h2, h3, h4⟩ := I.mput KE ht h a v
  refine LL.unit (w' := w') (fun ac F => ?_) hd hdf hg (c w' h2 h3 h4)
  unfold execOp
  rcases ho with ho | ho <;> simp only [ho, F.ev hx, F.ev hy, F.ev hv, Sem.run_bind, Sem.run_pure, h1, Result.andThen_ok]
theorem LL.mdel [DecidableEq α] {xs : Array Operand} (ho : o.op = .call { callee := .builtin .delete, args := xs, argTypes := #[t, k] }) (KE : KeyE P k d ke) (a : α) (hx : evsM M xs.toList = some [.map (some b), ke a]) (ht : P.underlying t = some (.map k e)) (h : MapK d ke ve w b n f) (hd : dstB N o.dst = true) (hg : wantB ops M o.guard = some true)
    (c : ∀ w', MapK d ke ve w' b (if (f a).isSome then n - 1 else n) (putF f a none) → w.grownBy w' (some b) → w'.heap.size = w.heap.size → LL r P ops Q N D (putM M o.dst (.tuple #[])) rest w') : LL r P ops Q N D M (o :: rest) w := by
  obtain ⟨w', h1, h2, h3, h4⟩ := I.mdel KE ht h a o.type
  refine LL.val (v := .tuple #[]) (R.builtin ho hx fun cs => ?_) hd (by rw [ho]; rfl) hg (c w' h2 h3 h4)
  unfold builtin
  simp only [Sem.run_bind, h1, Result.andThen_ok, Sem.run_pure]
theorem LL.mclear {xs : Array Operand} (ho : o.op = .call { callee := .builtin .clear, args := xs, argTypes := #[t] }) (hx : evsM M xs.toList = some [.map (some b)]) (ht : P.underlying t = some (.map k e)) (h : MapK d ke ve w b n f) (hd : dstB N o.dst = true) (hg : wantB ops M o.guard = some true)
    (c : ∀ w', MapK d ke ve w' b 0 (fun _ => none) → w.grownBy w' (some b) → w'.heap.size = w.heap.size → LL r P ops Q N D (putM M o.dst (.tuple #[])) rest w') : LL r P ops Q N D M (o :: rest) w := by
  obtain ⟨w', h1, h2, h3, h4⟩ := I.mclear ht h o.type
  refine LL.val (v := .tuple #[]) (R.builtin ho hx fun cs => ?_) hd (by rw [ho]; rfl) hg (c w' h2 h3 h4)
  unfold builtin
  simp only [Sem.run_bind, h1, Result.andThen_ok, Sem.run_pure]
theorem LL.mrange (ho : o.op = .range t x) (hx : evM M x = some (.map (some b))) (KE : KeyE P k d ke) (ht : P.underlying t = some (.map k e)) (h : MapK d ke ve w b n f) (hd : dstB N o.dst = true) (hg : wantB ops M o.guard = some true)
    (c : ∀ w' g, g = w.heap.size → RangeK d ke ve w' b g n f (fun a => f a ≠ none) n → Below w.heap.size w w' → w'.heap.size = g + 1 → LL r P ops Q N D (putM M o.dst (.pointer (some ⟨g, 0, none⟩))) rest w') : LL r P ops Q N D M (o :: rest) w := by
  obtain ⟨w', h1, h2, h3, h4⟩ := I.mrange KE ht h
  refine LL.val (v := .pointer (some ⟨w.heap.size, 0, none⟩)) (w' := w') (fun ac F => ?_) hd (by rw [ho]; rfl) hg (c w' _ rfl h2 h3 h4)
  unfold execOp
  simp only [ho, F.ev hx, Sem.run_bind, Sem.run_pure, h1, Result.andThen_ok]
theorem LL.mnext {it cnt : Nat} {left : α → Prop} (ho : o.op = .next x false) (hx : evM M x = some (.pointer (some ⟨it, 0, none⟩))) (KE : KeyE P k d ke) (h : RangeK d ke ve w b it n f left cnt) (hd : dstB N o.dst = true) (hg : wantB ops M o.guard = some true)
    (c0 : (∀ a, ¬ left a) → LL r P ops Q N D (putM M o.dst (.tuple #[.bool false])) rest w)
    (c1 : ∀ a v w' cnt', left a → f a = some v → RangeK d ke ve w' b it n f (fun x => left x ∧ x ≠ a) cnt' → cnt' < cnt → w.grownBy w' (some it) → w'.heap.size = w.heap.size → (Instr.entry (.pointer (some ⟨it, 0, none⟩))).run P w' = .ok (.tuple #[ke a, ve v]) w' → LL r P ops Q N D (putM M o.dst (.tuple #[.bool true, ke a, ve v])) rest w') : LL r P ops Q N D M (o :: rest) w := by
  rcases I.mnext KE h o.type with ⟨_, h1, h2⟩ | ⟨a, v, w', cnt', h1, h2, h3, h4, h5, h6, h7, h8⟩
  · refine LL.val (v := .tuple #[.bool false]) (w' := w) (fun ac F => ?_) hd (by rw [ho]; rfl) hg (c0 h1)
    unfold execOp
    simp only [ho, F.ev hx, Sem.run_bind, Sem.run_pure, h2, Result.andThen_ok]
  · refine LL.val (v := .tuple #[.bool true, ke a, ve v]) (w' := w') (fun ac F => ?_) hd (by rw [ho]; rfl) hg (c1 a v w' cnt' h1 h2 h4 h5 h6 h7 h8)
    unfold execOp
    simp only [ho, F.ev hx, Sem.run_bind, Sem.run_pure, h3, Result.andThen_ok]
theorem R.entry {u : Value} (ho : o.op = .entry x) (hx : evM M x = some u) {v : Value} (h : (Instr.entry u).run P w = .ok v w) : Runs P N D M o w (.value v) w := fun ac F => by
  unfold execOp
  simp only [ho, F.ev hx, Sem.run_bind, Sem.run_pure, h, Result.andThen_ok]
end
end Go.Proofs.Ytajfffoaebjnlaa
