/- What the statements' walks use: Map, EqS, Arr, EqA, Zeros, Pa, MapZ, Pb, Mesh, TNew, Pc, Pm19. -/
import Derived.Maps.RangeRun
import Derived.Tactics
import Derived.Tactics2
import Derived.ChangeKeysEq
import Derived.Laws.StructEq
import Derived.Lib.AppendZerosOnto
import Derived.Test.YtajfffoaebjnlaaProg
import Derived.Deep.Upon
import Derived.Test.YtajfffoaebjnlaaMla
/- Maps whose keys are plain: what a block has at each key, and what the operations on maps do. Over any program. -/
namespace Go.Proofs.Ytajfffoaebjnlaa
set_option linter.unusedVariables false
set_option linter.unusedSimpArgs false
open Go.RowKit Go.Shelf
open Go.MapKept (Stamped IsKey)

/-- Block b is a map of n entries; f says what it has at a key. -/
def MapK {α β : Type} (d : TypeDesc) (ke : α → Value) (ve : β → Value) (w : World) (b n : Nat) (f : α → Option β) : Prop :=
  ∃ es clock, w.heap[b]? = some (.map es clock) ∧ Stamped es clock ∧ es.size = n ∧ (∀ x ∈ es.toList, ∃ a v, x.key = ke a ∧ f a = some v ∧ x.val = ve v) ∧ ∀ a v, f a = some v → ∃ x ∈ es.toList, x.key = ke a ∧ x.val = ve v
/-- Keys that are plain. -/
structure KeyE {α : Type} (P : Program) (k : TypeId) (d : TypeDesc) (ke : α → Value) : Prop where
  under : P.underlying k = some d
  key : ∀ a, IsKey d (ke a)
  inj : ∀ a b, ke a = ke b → a = b
/-- The map with another thing at a key, or none. -/
def putMap {α β : Type} [DecidableEq α] (f : α → Option β) (a : α) (v : Option β) : α → Option β := fun x => if x = a then v else f x

section
variable {α β : Type} {d : TypeDesc} {ke : α → Value} {ve : β → Value} {w w' : World} {b n : Nat} {f : α → Option β} {P : Program} {k : TypeId}
theorem MapK.lt (h : MapK d ke ve w b n f) : b < w.heap.size := by
  obtain ⟨es, clock, hb, _⟩ := h
  exact (Array.getElem?_eq_some_iff.1 hb).1
theorem MapK.same (h : MapK d ke ve w b n f) (e : w'.heap[b]? = w.heap[b]?) : MapK d ke ve w' b n f := by
  obtain ⟨es, clock, hb, r⟩ := h
  exact ⟨es, clock, e.trans hb, r⟩
theorem MapK.up (h : MapK d ke ve w b n f) (hb : Below w.heap.size w w') : MapK d ke ve w' b n f := h.same (hb.block b h.lt)
theorem MapK.gr {r : Nat} (h : MapK d ke ve w b n f) (hg : w.grownBy w' (some r)) (hne : b ≠ r) : MapK d ke ve w' b n f := h.same (hg.block b h.lt (by simpa using hne))
theorem MapK.kept {K : Nat → Prop} (h : MapK d ke ve w b n f) (hk : Kept K w w') (hb : K b) : MapK d ke ve w' b n f := h.same (hk.block b hb)
theorem MapK.made (w : World) : MapK d ke ve (w.alloc (.map #[] 0)) w.heap.size 0 f ↔ (∀ a, f a = none) := by
  constructor
  · rintro ⟨es, clock, hb, _, h0, _, h2⟩ a
    cases hf : f a with
    | none => rfl
    | some v =>
      obtain ⟨x, hx, _⟩ := h2 a v hf
      have : es = #[] := Array.eq_empty_of_size_eq_zero h0
      subst this
      simp at hx
  · intro h
    exact ⟨#[], 0, (MapKept.heap_alloc w _).1, MapKept.stamped_empty 0, rfl, by simp, fun a v e => by rw [h a] at e; cases e⟩
theorem isKey_of (KE : KeyE P k d ke) {es : Array MapEntry} (h : ∀ x ∈ es.toList, ∃ a v, x.key = ke a ∧ f a = some v ∧ x.val = ve v) : ∀ x ∈ es.toList, IsKey d x.key := fun x hx => by
  obtain ⟨a, v, e, _⟩ := h x hx
  rw [e]
  exact KE.key a
/-- What is found at a key. -/
theorem findK (KE : KeyE P k d ke) {es : Array MapEntry} {clock : Nat} (hs : Stamped es clock) (h1 : ∀ x ∈ es.toList, ∃ a v, x.key = ke a ∧ f a = some v ∧ x.val = ve v) (h2 : ∀ a v, f a = some v → ∃ x ∈ es.toList, x.key = ke a ∧ x.val = ve v) (a : α) :
    (f a = none ∧ Instr.findNow d (ke a) es.toList 0 = some none ∧ ∀ x ∈ es.toList, x.key ≠ ke a) ∨ ∃ v j e, f a = some v ∧ Instr.findNow d (ke a) es.toList 0 = some (some (j, ve v)) ∧ es.toList[j]? = some e ∧ e.key = ke a ∧ e.val = ve v := by
  rcases MapKept.findNow_spec (KE.key a) es.toList 0 (isKey_of KE h1) with ⟨h3, h4⟩ | ⟨j, e, h3, h4, h5⟩
  · left
    refine ⟨?_, h3, h4⟩
    cases hf : f a with
    | none => rfl
    | some v =>
      obtain ⟨x, hx, e, _⟩ := h2 a v hf
      exact absurd e (h4 x hx)
  · right
    obtain ⟨a', v, e1, e2, e3⟩ := h1 e (List.mem_of_getElem? h4)
    have : a' = a := KE.inj _ _ (by rw [← e1, h5])
    subst this
    exact ⟨v, j, e, e2, by rw [h3, e3, Nat.zero_add], h4, h5, e3⟩
/-- The value at a key, or z. -/
def atK (ve : β → Value) (z : Value) : Option β → Value
  | some v => ve v
  | none => z
theorem I.look (KE : KeyE P k d ke) {t e : TypeId} {z : Value} (ht : P.underlying t = some (.map k e)) (hz : zeroB P e = some z) (h : MapK d ke ve w b n f) (a : α) (c : Bool) :
    (Instr.lookup t (.map (some b)) (ke a) c).run P w = .ok (if c then .tuple #[atK ve z (f a), .bool (f a).isSome] else atK ve z (f a)) w := by
  obtain ⟨es, clock, hb, hs, _, h1, h2⟩ := h
  rcases findK KE hs h1 h2 a with ⟨hf, hn, _⟩ | ⟨v, j, e, hf, hn, _⟩
  · simp [Instr.lookup, run_underlying ht, MapKept.run_getObj_map hb, MapKept.run_checkKey KE.under (KE.key a), MapKept.run_findKey KE.under hn, zero_of hz, Result.andThen, hf, atK]
  · simp [Instr.lookup, run_underlying ht, MapKept.run_getObj_map hb, MapKept.run_checkKey KE.under (KE.key a), MapKept.run_findKey KE.under hn, Result.andThen, hf, atK]
theorem set_grown {o o' : Obj} (hb : w.heap[b]? = some o) : w.grownBy { w with heap := w.heap.setIfInBounds b o' } (some b) :=
  ⟨rfl, rfl, rfl, by simp, fun i _ hi => (MapKept.heap_set hb).2 i (fun e => hi (by rw [e]))⟩
variable [DecidableEq α]
/-- m[k] = v. -/
theorem I.mput (KE : KeyE P k d ke) {t e : TypeId} (ht : P.underlying t = some (.map k e)) (h : MapK d ke ve w b n f) (a : α) (v : β) :
    ∃ w', (Instr.mapUpdate t (.map (some b)) (ke a) (ve v)).run P w = .ok () w' ∧ MapK d ke ve w' b (if (f a).isSome then n else n + 1) (putMap f a (some v)) ∧ w.grownBy w' (some b) ∧ w'.heap.size = w.heap.size := by
  obtain ⟨es, clock, hb, hs, hn, h1, h2⟩ := h
  rcases findK KE hs h1 h2 a with ⟨hf, hnow, hno⟩ | ⟨u, j, e0, hf, hnow, hj, hk0, hv0⟩
  · refine ⟨{ w with heap := w.heap.setIfInBounds b (.map (es.push { key := ke a, val := ve v, born := clock }) (clock + 1)) }, ?_, ⟨_, _, (MapKept.heap_set hb).1, MapKept.stamped_push hs hno, by simp [hf, hn], ?_, ?_⟩, set_grown hb, by simp⟩
    · simp [Instr.mapUpdate, run_underlying ht, MapKept.run_getObj_map hb, MapKept.run_checkKey KE.under (KE.key a), MapKept.run_findKey KE.under hnow, MapKept.run_setObj_map _ hb, Result.andThen]
    · intro x hx
      simp only [Array.toList_push, List.mem_append, List.mem_singleton] at hx
      rcases hx with hx | rfl
      · obtain ⟨a', v', e1, e2, e3⟩ := h1 x hx
        refine ⟨a', v', e1, ?_, e3⟩
        unfold putMap
        rw [if_neg, e2]
        rintro rfl
        rw [hf] at e2
        cases e2
      · exact ⟨a, v, rfl, by simp [putMap], rfl⟩
    · intro a' v' h
      unfold putMap at h
      split at h
      · rename_i e
        subst e
        cases h
        exact ⟨{ key := ke a', val := ve v, born := clock }, by simp, rfl, rfl⟩
      · obtain ⟨x, hx, e1, e2⟩ := h2 a' v' h
        exact ⟨x, by simp only [Array.toList_push, List.mem_append]; exact .inl hx, e1, e2⟩
  · have hj' : es[j]? = some e0 := by simpa using hj
    have hkey : ∀ e', es[j]? = some e' → ({ e' with key := ke a, val := ve v } : MapEntry).key = e'.key := fun e' he' => by rw [hj'] at he'; cases he'; exact hk0.symm
    have hlist : (es.modify j (fun e' => { e' with key := ke a, val := ve v })).toList = es.toList.set j { e0 with key := ke a, val := ve v } := by
      rw [Array.toList_modify]
      refine List.ext_getElem? fun i => ?_
      rw [List.getElem?_modify, List.getElem?_set]
      by_cases hi : j = i
      · subst hi
        have hl : j < es.size := by simpa using (List.getElem?_eq_some_iff.1 hj).1
        rw [hj]
        simp [hl]
      · simp [hi]
    refine ⟨{ w with heap := w.heap.setIfInBounds b (.map (es.modify j fun e' => { e' with key := ke a, val := ve v }) clock) }, ?_, ⟨_, _, (MapKept.heap_set hb).1, MapKept.stamped_modify hs _ _ (fun _ _ => rfl) (fun e' _ he' => hkey e' he'), by simp [hf, hn], ?_, ?_⟩, set_grown hb, by simp⟩
    · simp [Instr.mapUpdate, run_underlying ht, MapKept.run_getObj_map hb, MapKept.run_checkKey KE.under (KE.key a), MapKept.run_findKey KE.under hnow, hj', hk0, MapKept.run_keyThatStays (KE.key a), MapKept.run_setObj_map _ hb, Result.andThen]
    · intro x hx
      rw [hlist] at hx
      obtain ⟨i, hi⟩ := List.getElem?_of_mem hx
      rw [List.getElem?_set] at hi
      split at hi
      · split at hi
        · cases hi
          exact ⟨a, v, rfl, by simp [putMap], rfl⟩
        · cases hi
      · rename_i hne
        have hx0 := List.mem_of_getElem? hi
        obtain ⟨a', v', e1, e2, e3⟩ := h1 x hx0
        refine ⟨a', v', e1, ?_, e3⟩
        unfold putMap
        rw [if_neg, e2]
        rintro rfl
        have hpw := ((MapKept.stamped_iff es clock).1 hs).2.2
        have hll := (List.getElem?_eq_some_iff.1 hj).1
        have hil := (List.getElem?_eq_some_iff.1 hi).1
        have e4 := (List.getElem?_eq_some_iff.1 hj).2
        have e5 := (List.getElem?_eq_some_iff.1 hi).2
        rcases Nat.lt_or_ge i j with hlt | hge
        · have := List.pairwise_iff_getElem.1 hpw i j hil hll hlt
          rw [e4, e5, hk0, e1] at this
          exact this rfl
        · have := List.pairwise_iff_getElem.1 hpw j i hll hil (by omega)
          rw [e4, e5, hk0, e1] at this
          exact this rfl
    · intro a' v' h
      rw [hlist]
      have hll : j < es.size := by simpa using (List.getElem?_eq_some_iff.1 hj).1
      unfold putMap at h
      split at h
      · rename_i e
        subst e
        cases h
        exact ⟨{ e0 with key := ke a', val := ve v }, List.mem_iff_getElem?.2 ⟨j, by rw [List.getElem?_set]; simp [hll]⟩, rfl, rfl⟩
      · rename_i hne
        obtain ⟨x, hx, e1, e2⟩ := h2 a' v' h
        obtain ⟨i, hi⟩ := List.getElem?_of_mem hx
        refine ⟨x, List.mem_iff_getElem?.2 ⟨i, ?_⟩, e1, e2⟩
        rw [List.getElem?_set, if_neg, hi]
        rintro rfl
        rw [hj] at hi
        cases hi
        exact hne (KE.inj _ _ (by rw [← e1, hk0]))
/-- delete(m, k). -/
theorem I.mdel (KE : KeyE P k d ke) {t e : TypeId} (ht : P.underlying t = some (.map k e)) (h : MapK d ke ve w b n f) (a : α) (ty : TypeId) :
    ∃ w', (Builtin.delete_ #[t, k] ty #[.map (some b), ke a]).run P w = .ok (.tuple #[]) w' ∧ MapK d ke ve w' b (if (f a).isSome then n - 1 else n) (putMap f a none) ∧ w.grownBy w' (some b) ∧ w'.heap.size = w.heap.size := by
  obtain ⟨es, clock, hb, hs, hn, h1, h2⟩ := h
  rcases findK KE hs h1 h2 a with ⟨hf, hnow, hno⟩ | ⟨u, j, e0, hf, hnow, hj, hk0, hv0⟩
  · refine ⟨{ w with heap := w.heap.setIfInBounds b (.map es clock) }, ?_, ⟨_, _, (MapKept.heap_set hb).1, hs, by simp [hf, hn], ?_, ?_⟩, set_grown hb, by simp⟩
    · simp [Builtin.delete_, run_underlying ht, MapKept.run_getObj_map hb, MapKept.run_checkKey KE.under (KE.key a), MapKept.run_findKey KE.under hnow, MapKept.run_setObj_map _ hb, Result.andThen]
    · intro x hx
      obtain ⟨a', v', e1, e2, e3⟩ := h1 x hx
      refine ⟨a', v', e1, ?_, e3⟩
      unfold putMap
      rw [if_neg, e2]
      rintro rfl
      rw [hf] at e2
      cases e2
    · intro a' v' h
      unfold putMap at h
      split at h
      · cases h
      · exact h2 a' v' h
  · have hjl : j < es.toList.length := (List.getElem?_eq_some_iff.1 hj).1
    have hjs : j < es.size := by simpa using hjl
    have hsub : (es.eraseIdxIfInBounds j).toList = es.toList.eraseIdx j := by
      unfold Array.eraseIdxIfInBounds
      rw [dif_pos hjs]
      simp
    have hpw := ((MapKept.stamped_iff es clock).1 hs).2.2
    have hoth : ∀ i x, es.toList[i]? = some x → i ≠ j → x.key ≠ ke a := fun i x hi hne e1 => by
      have hil := (List.getElem?_eq_some_iff.1 hi).1
      have e4 := (List.getElem?_eq_some_iff.1 hj).2
      have e5 := (List.getElem?_eq_some_iff.1 hi).2
      rcases Nat.lt_or_ge i j with hlt | hge
      · have := List.pairwise_iff_getElem.1 hpw i j hil hjl hlt
        rw [e4, e5, hk0, e1] at this
        exact this rfl
      · have := List.pairwise_iff_getElem.1 hpw j i hjl hil (by omega)
        rw [e4, e5, hk0, e1] at this
        exact this rfl
    refine ⟨{ w with heap := w.heap.setIfInBounds b (.map (es.eraseIdxIfInBounds j) clock) }, ?_, ⟨_, _, (MapKept.heap_set hb).1, MapKept.stamped_erase hs _, ?_, ?_, ?_⟩, set_grown hb, by simp⟩
    · simp [Builtin.delete_, run_underlying ht, MapKept.run_getObj_map hb, MapKept.run_checkKey KE.under (KE.key a), MapKept.run_findKey KE.under hnow, MapKept.run_setObj_map _ hb, Result.andThen]
    · rw [← Array.length_toList, hsub, List.length_eraseIdx, if_pos hjl]
      simp [hf, ← hn]
    · intro x hx
      rw [hsub] at hx
      obtain ⟨i, hne, hi⟩ := List.mem_eraseIdx_iff_getElem?.1 hx
      obtain ⟨a', v', e1, e2, e3⟩ := h1 x (List.mem_of_getElem? hi)
      refine ⟨a', v', e1, ?_, e3⟩
      unfold putMap
      rw [if_neg, e2]
      rintro rfl
      exact hoth i x hi hne e1
    · intro a' v' h
      unfold putMap at h
      split at h
      · cases h
      · rename_i hne
        obtain ⟨x, hx, e1, e2⟩ := h2 a' v' h
        obtain ⟨i, hi⟩ := List.getElem?_of_mem hx
        refine ⟨x, ?_, e1, e2⟩
        rw [hsub, List.mem_eraseIdx_iff_getElem?]
        refine ⟨i, ?_, hi⟩
        rintro rfl
        rw [hj] at hi
        cases hi
        exact hne (KE.inj _ _ (by rw [← e1, hk0]))
omit [DecidableEq α] in
/-- clear(m). -/
theorem I.mclear {t e : TypeId} (ht : P.underlying t = some (.map k e)) (h : MapK d ke ve w b n f) (ty : TypeId) :
    ∃ w', (Builtin.clear_ #[t] ty #[.map (some b)]).run P w = .ok (.tuple #[]) w' ∧ MapK d ke ve w' b 0 (fun _ => none) ∧ w.grownBy w' (some b) ∧ w'.heap.size = w.heap.size := by
  obtain ⟨es, clock, hb, hs, hn, h1, h2⟩ := h
  refine ⟨{ w with heap := w.heap.setIfInBounds b (.map #[] clock) }, ?_, ⟨_, _, (MapKept.heap_set hb).1, MapKept.stamped_empty _, rfl, by simp, by simp⟩, set_grown hb, by simp⟩
  simp [Builtin.clear_, run_underlying ht, MapKept.run_getObj_map hb, MapKept.run_setObj_map _ hb, Result.andThen]
end

section
variable {α β : Type} {d : TypeDesc} {ke : α → Value} {ve : β → Value} {w w' : World} {b b' n n' : Nat} {f : α → Option β}
/-- What a map has says how many entries it has. -/
theorem MapK.many (h : MapK d ke ve w b n f) (h' : MapK d ke ve w' b' n' f) : n = n' := by
  obtain ⟨es, clock, _, hs, hn, h1, h2⟩ := h
  obtain ⟨es', clock', _, hs', hn', h1', h2'⟩ := h'
  have key : ∀ (es : Array MapEntry), (∀ x ∈ es.toList, ∃ a v, x.key = ke a ∧ f a = some v ∧ x.val = ve v) → (∀ a v, f a = some v → ∃ x ∈ es.toList, x.key = ke a ∧ x.val = ve v) → ∀ k, k ∈ es.toList.map (·.key) ↔ ∃ a v, k = ke a ∧ f a = some v := fun es h1 h2 k => by
    constructor
    · intro h
      obtain ⟨x, hx, rfl⟩ := List.mem_map.1 h
      obtain ⟨a, v, e, e2, _⟩ := h1 x hx
      exact ⟨a, v, e, e2⟩
    · rintro ⟨a, v, rfl, e⟩
      obtain ⟨x, hx, e2, _⟩ := h2 a v e
      exact List.mem_map.2 ⟨x, hx, e2⟩
  have hp := (List.perm_ext_iff_of_nodup hs.2.2 hs'.2.2).2 fun k => (key es h1 h2 k).trans (key es' h1' h2' k).symm
  have := hp.length_eq
  simp only [List.length_map, Array.length_toList] at this
  omega
end
/-! A range over a map: which keys are still to come. -/
def RangeK {α β : Type} (d : TypeDesc) (ke : α → Value) (ve : β → Value) (w : World) (b r n : Nat) (f : α → Option β) (left : α → Prop) (cnt : Nat) : Prop :=
  ∃ es clock since seen c0, w.heap[b]? = some (.map es clock) ∧ Stamped es clock ∧ es.size = n ∧ (∀ x ∈ es.toList, ∃ a v, x.key = ke a ∧ f a = some v ∧ x.val = ve v) ∧ (∀ a v, f a = some v → ∃ x ∈ es.toList, x.key = ke a ∧ x.val = ve v) ∧
    w.heap[r]? = some (.mapIter (some b) since seen c0) ∧ (∀ x ∈ es.toList, x.born < since) ∧ (leftOf es seen).size = cnt ∧ (∀ x ∈ es.toList, ∀ a, x.key = ke a → (left a ↔ seen.contains x.born = false)) ∧ (∀ a, left a → f a ≠ none) ∧ since ≤ c0 ∧ since ≤ clock
section
variable {α β : Type} {d : TypeDesc} {ke : α → Value} {ve : β → Value} {w w' : World} {b r n cnt : Nat} {f : α → Option β} {left : α → Prop} {P : Program} {k : TypeId}
theorem RangeK.map (h : RangeK d ke ve w b r n f left cnt) : MapK d ke ve w b n f := by
  obtain ⟨es, clock, since, seen, c0, hb, hs, hn, h1, h2, _⟩ := h
  exact ⟨es, clock, hb, hs, hn, h1, h2⟩
theorem RangeK.lt (h : RangeK d ke ve w b r n f left cnt) : r < w.heap.size := by
  obtain ⟨es, clock, since, seen, c0, _, _, _, _, _, hr, _⟩ := h
  exact (Array.getElem?_eq_some_iff.1 hr).1
theorem RangeK.same (h : RangeK d ke ve w b r n f left cnt) (e1 : w'.heap[b]? = w.heap[b]?) (e2 : w'.heap[r]? = w.heap[r]?) : RangeK d ke ve w' b r n f left cnt := by
  obtain ⟨es, clock, since, seen, c0, hb, hs, hn, h1, h2, hr, rest⟩ := h
  exact ⟨es, clock, since, seen, c0, e1.trans hb, hs, hn, h1, h2, e2.trans hr, rest⟩
theorem RangeK.up (h : RangeK d ke ve w b r n f left cnt) (hb : Below w.heap.size w w') : RangeK d ke ve w' b r n f left cnt := h.same (hb.block b h.map.lt) (hb.block r h.lt)
theorem RangeK.gr {g : Nat} (h : RangeK d ke ve w b r n f left cnt) (hg : w.grownBy w' (some g)) (hne : b ≠ g ∧ r ≠ g) : RangeK d ke ve w' b r n f left cnt := h.same (hg.block b h.map.lt (by simpa using hne.1)) (hg.block r h.lt (by simpa using hne.2))
theorem I.mrange (KE : KeyE P k d ke) {t e : TypeId} (ht : P.underlying t = some (.map k e)) (h : MapK d ke ve w b n f) :
    ∃ w', (Instr.range t (.map (some b))).run P w = .ok (.pointer (some ⟨w.heap.size, 0, none⟩)) w' ∧ RangeK d ke ve w' b w.heap.size n f (fun a => f a ≠ none) n ∧ Below w.heap.size w w' ∧ w'.heap.size = w.heap.size + 1 := by
  have hlt := h.lt
  obtain ⟨es, clock, hb, hs, hn, h1, h2⟩ := h
  refine ⟨_, run_range_map w t k e b es clock ht hb, ⟨es, clock, clock, #[], clock, ((MapKept.heap_alloc w _).2 b hlt).trans hb, hs, hn, h1, h2, (MapKept.heap_alloc w _).1, hs.1, ?_, ?_, fun a h => h, Nat.le_refl _, Nat.le_refl _⟩, Below.alloc0 w _, by simp⟩
  · have e0 : leftOf es #[] = es := Array.filter_eq_self.2 fun x _ => by simp
    rw [e0, hn]
  · intro x hx a e
    obtain ⟨a', v, e1, e2, _⟩ := h1 x hx
    obtain rfl : a = a' := KE.inj _ _ (by rw [← e, e1])
    simp [e2]
/-- The step: nothing is left; or a key that was left comes, whichever, with what the map has there. -/
theorem I.mnext (KE : KeyE P k d ke) (h : RangeK d ke ve w b r n f left cnt) (ty : TypeId) :
    (cnt = 0 ∧ (∀ a, ¬ left a) ∧ (Instr.next (.pointer (some ⟨r, 0, none⟩)) false ty).run P w = .ok (.tuple #[.bool false]) w) ∨
    ∃ a v w' cnt', left a ∧ f a = some v ∧ (Instr.next (.pointer (some ⟨r, 0, none⟩)) false ty).run P w = .ok (.tuple #[.bool true, ke a, ve v]) w' ∧ RangeK d ke ve w' b r n f (fun x => left x ∧ x ≠ a) cnt' ∧ cnt' < cnt ∧ w.grownBy w' (some r) ∧ w'.heap.size = w.heap.size ∧
      (Instr.entry (.pointer (some ⟨r, 0, none⟩))).run P w' = .ok (.tuple #[ke a, ve v]) w' := by
  obtain ⟨es, clock, since, seen, c0, hb, hs, hn, h1, h2, hr, hold, rfl, hl1, hl2, hsc, hsk⟩ := h
  have hne : r ≠ b := by
    rintro rfl
    rw [hb] at hr
    cases hr
  rcases run_next_at (P := P) w ty r b since c0 seen es clock hr hb hold hsc with ⟨h0, hrun⟩ | ⟨e, he, w1, hal, hrun⟩
  · refine .inl ⟨h0, fun a ha => ?_, hrun⟩
    have hf := hl2 a ha
    cases hfa : f a with
    | none => exact hf hfa
    | some v =>
      obtain ⟨x, hx, e1, _⟩ := h2 a v hfa
      have := (hl1 x hx a e1).1 ha
      have hm : x ∈ (leftOf es seen).toList := by simp only [leftOf, Array.toList_filter, List.mem_filter]; exact ⟨hx, by rw [this]; rfl⟩
      have := List.length_pos_of_mem hm
      simp at this
      omega
  · have hem : e ∈ es.toList ∧ seen.contains e.born = false := by
      simp only [leftOf, Array.toList_filter, List.mem_filter] at he
      exact ⟨he.1, by simpa only [Bool.not_eq_true'] using he.2⟩
    obtain ⟨hem, hes⟩ := hem
    obtain ⟨a, v, ek, ef, ev⟩ := h1 e hem
    have hr1 : w1.heap[r]? = some (.mapIter (some b) since seen c0) := by rcases hal with rfl | rfl <;> exact hr
    have hb1 : w1.heap[b]? = some (.map es clock) := by rcases hal with rfl | rfl <;> exact hb
    have hset := MapKept.heap_set (o' := .mapIter (some b) since (seen.push e.born) clock) hr1
    have hb' := (hset.2 b (fun e1 => hne e1.symm)).trans hb1
    have hst := (MapKept.stamped_iff es clock).1 hs
    refine .inr ⟨a, v, _, _, (hl1 e hem a ek).2 hes, ef, by rw [← ek, ← ev]; exact hrun, ⟨es, clock, since, seen.push e.born, clock, hb', hs, hn, h1, h2, hset.1, hold, rfl, fun x hx a2 e2 => ?_, fun a2 h3 => hl2 a2 h3.1, hsk, hsk⟩, left_shrinks es seen e he, ?_, ?_, ?_⟩
    · simp only
      rw [hl1 x hx a2 e2, contains_push]
      by_cases hxe : x.born = e.born
      · have : x = e := born_inj hst.2.1 hx hem hxe
        subst this
        obtain rfl : a2 = a := KE.inj _ _ (by rw [← e2, ek])
        simp
      · have h5 : a2 ≠ a := by
          rintro rfl
          have h6 := hst.2.2
          have : x = e := by
            obtain ⟨i, hi⟩ := List.getElem?_of_mem hx
            obtain ⟨j, hj⟩ := List.getElem?_of_mem hem
            have hil := (List.getElem?_eq_some_iff.1 hi).1
            have hjl := (List.getElem?_eq_some_iff.1 hj).1
            have e4 := (List.getElem?_eq_some_iff.1 hi).2
            have e5 := (List.getElem?_eq_some_iff.1 hj).2
            rcases Nat.lt_trichotomy i j with hlt | rfl | hlt
            · exact absurd (by rw [e4, e5, e2, ek]) (List.pairwise_iff_getElem.1 h6 i j hil hjl hlt)
            · rw [hi] at hj; cases hj; rfl
            · exact absurd (by rw [e4, e5, e2, ek]) (List.pairwise_iff_getElem.1 h6 j i hjl hil hlt)
          exact hxe (by rw [this])
        simp [hxe, h5]
    · rcases hal with rfl | rfl <;> exact ⟨rfl, rfl, rfl, by simp [ChangeMaps.setBlock], fun i _ hi => hset.2 i (fun e1 => hi (by rw [e1]))⟩
    · rcases hal with rfl | rfl <;> simp [ChangeMaps.setBlock]
    · rw [← ek, ← ev]
      exact run_entry_at _ r b since seen es clock e hset.1 hb' hem hst.2.1
end

/-! At the operations. -/
section
variable {α β : Type} {d : TypeDesc} {ke : α → Value} {ve : β → Value} {w : World} {b n : Nat} {f : α → Option β} {P : Program} {k t e : TypeId} {o : Oper} {N : Nat} {D : List Deferred} {M : Slots} {x y : Operand} {r : Option Nat} {ops : Array Oper} {Q : Exit → Act → World → Prop} {rest : List Oper} {z : Value} {u : Value}
theorem R.lookKT (ho : o.op = .lookup t x y true) (hx : evM M x = some (.map (some b))) (KE : KeyE P k d ke) (ht : P.underlying t = some (.map k e)) (hz : zeroB P e = some z) (h : MapK d ke ve w b n f) (a : α) (hy : evM M y = some (ke a)) {v : β} (hv : f a = some v) : Runs P N D M o w (.value (.tuple #[ve v, .bool true])) w := fun ac F => by
  unfold execOp; simp only [ho, F.ev hx, F.ev hy, Sem.run_bind, Sem.run_pure, I.look KE ht hz h a true, Result.andThen_ok]; simp [hv, atK]
theorem R.lookKF (ho : o.op = .lookup t x y true) (hx : evM M x = some (.map (some b))) (KE : KeyE P k d ke) (ht : P.underlying t = some (.map k e)) (hz : zeroB P e = some z) (h : MapK d ke ve w b n f) (a : α) (hy : evM M y = some (ke a)) (hv : f a = none) : Runs P N D M o w (.value (.tuple #[z, .bool false])) w := fun ac F => by
  unfold execOp; simp only [ho, F.ev hx, F.ev hy, Sem.run_bind, Sem.run_pure, I.look KE ht hz h a true, Result.andThen_ok]; simp [hv, atK]
theorem R.makeMap0 (ho : o.op = .makeMap t none) : Runs P N D M o w (.value (.map (some w.heap.size))) (w.alloc (.map #[] 0)) := fun ac F => by
  unfold execOp; simp [ho, Instr.makeMap, Result.andThen]
theorem LL.makeMap (hr : Runs P N D M o w (.value (.map (some w.heap.size))) (w.alloc (.map #[] 0))) (hd : dstB N o.dst = true) (hdf : dfB o.op = false) (hg : wantB ops M o.guard = some true)
    (c : ∀ w1 g, g = w.heap.size → (∀ (α β : Type) (d : TypeDesc) (ke : α → Value) (ve : β → Value), MapK d ke ve w1 g 0 (fun _ => none)) → w1.heap.size = g + 1 → Below w.heap.size w w1 → LL r P ops Q N D (putM M o.dst (.map (some g))) rest w1) : LL r P ops Q N D M (o :: rest) w :=
  LL.val hr hd hdf hg (c _ _ rfl (fun _ _ _ _ _ => (MapK.made w).2 fun _ => rfl) (by simp) (Below.alloc0 w _))
theorem LL.mput [DecidableEq α] {y2 : Operand} (ho : o.op = .mapUpdate t x y y2 ∨ o.op = .insert t x y y2) (hx : evM M x = some (.map (some b))) (KE : KeyE P k d ke) (ht : P.underlying t = some (.map k e)) (h : MapK d ke ve w b n f) (a : α) (v : β) (hy : evM M y = some (ke a)) (hv : evM M y2 = some (ve v)) (hd : o.dst = none) (hdf : dfB o.op = false) (hg : wantB ops M o.guard = some true)
    (c : ∀ w', MapK d ke ve w' b (if (f a).isSome then n else n + 1) (putMap f a (some v)) → w.grownBy w' (some b) → w'.heap.size = w.heap.size → LL r P ops Q N D M rest w') : LL r P ops Q N D M (o :: rest) w := by
  obtain ⟨w', h1, h2, h3, h4⟩ := I.mput KE ht h a v
  refine LL.unit (w' := w') (fun ac F => ?_) hd hdf hg (c w' h2 h3 h4)
  unfold execOp
  rcases ho with ho | ho <;> simp only [ho, F.ev hx, F.ev hy, F.ev hv, Sem.run_bind, Sem.run_pure, h1, Result.andThen_ok]
theorem LL.mdel [DecidableEq α] {xs : Array Operand} (ho : o.op = .call { callee := .builtin .delete, args := xs, argTypes := #[t, k] }) (KE : KeyE P k d ke) (a : α) (hx : evsM M xs.toList = some [.map (some b), ke a]) (ht : P.underlying t = some (.map k e)) (h : MapK d ke ve w b n f) (hd : dstB N o.dst = true) (hg : wantB ops M o.guard = some true)
    (c : ∀ w', MapK d ke ve w' b (if (f a).isSome then n - 1 else n) (putMap f a none) → w.grownBy w' (some b) → w'.heap.size = w.heap.size → LL r P ops Q N D (putM M o.dst (.tuple #[])) rest w') : LL r P ops Q N D M (o :: rest) w := by
  obtain ⟨w', h1, h2, h3, h4⟩ := I.mdel KE ht h a o.type
  refine LL.val (v := .tuple #[]) (R.builtin ho hx fun cs => ?_) hd (by rw [ho]; rfl) hg (c w' h2 h3 h4)
  unfold builtin
  simp only [Sem.run_bind, h1, Result.andThen_ok, Sem.run_pure]
theorem LL.mclear {xs : Array Operand} (ho : o.op = .call { callee := .builtin .clear, args := xs, argTypes := #[t] }) (hx : evsM M xs.toList = some [.map (some b)]) (ht : P.underlying t = some (.map k e)) (h : MapK d ke ve w b n f) (hd : dstB N o.dst = true) (hg : wantB ops M o.guard = some true)
    (c : ∀ w', MapK d ke ve w' b 0 (fun _ => none) → w.grownBy w' (some b) → w'.heap.size = w.heap.size → LL r P ops Q N D (putM M o.dst (.tuple #[])) rest w') : LL r P ops Q N D M (o :: rest) w := by
  obtain ⟨w', h1, h2, h3, h4⟩ := I.mclear ht h o.type
  refine LL.val (v := .tuple #[]) (R.builtin ho hx fun cs => ?_) hd (by rw [ho]; rfl) hg (c w' h2 h3 h4)
  unfold builtin
  simp only [Sem.run_bind, h1, Result.andThen_ok, Sem.run_pure]
theorem LL.mrange (ho : o.op = .range t x) (hx : evM M x = some (.map (some b))) (KE : KeyE P k d ke) (ht : P.underlying t = some (.map k e)) (h : MapK d ke ve w b n f) (hd : dstB N o.dst = true) (hg : wantB ops M o.guard = some true)
    (c : ∀ w' g, g = w.heap.size → RangeK d ke ve w' b g n f (fun a => f a ≠ none) n → Below w.heap.size w w' → w'.heap.size = g + 1 → LL r P ops Q N D (putM M o.dst (.pointer (some ⟨g, 0, none⟩))) rest w') : LL r P ops Q N D M (o :: rest) w := by
  obtain ⟨w', h1, h2, h3, h4⟩ := I.mrange KE ht h
  refine LL.val (v := .pointer (some ⟨w.heap.size, 0, none⟩)) (w' := w') (fun ac F => ?_) hd (by rw [ho]; rfl) hg (c w' _ rfl h2 h3 h4)
  unfold execOp
  simp only [ho, F.ev hx, Sem.run_bind, Sem.run_pure, h1, Result.andThen_ok]
theorem LL.mnext {it cnt : Nat} {left : α → Prop} (ho : o.op = .next x false) (hx : evM M x = some (.pointer (some ⟨it, 0, none⟩))) (KE : KeyE P k d ke) (h : RangeK d ke ve w b it n f left cnt) (hd : dstB N o.dst = true) (hg : wantB ops M o.guard = some true)
    (c0 : (∀ a, ¬ left a) → LL r P ops Q N D (putM M o.dst (.tuple #[.bool false])) rest w)
    (c1 : ∀ a v w' cnt', left a → f a = some v → RangeK d ke ve w' b it n f (fun x => left x ∧ x ≠ a) cnt' → cnt' < cnt → w.grownBy w' (some it) → w'.heap.size = w.heap.size → (Instr.entry (.pointer (some ⟨it, 0, none⟩))).run P w' = .ok (.tuple #[ke a, ve v]) w' → LL r P ops Q N D (putM M o.dst (.tuple #[.bool true, ke a, ve v])) rest w') : LL r P ops Q N D M (o :: rest) w := by
  rcases I.mnext KE h o.type with ⟨_, h1, h2⟩ | ⟨a, v, w', cnt', h1, h2, h3, h4, h5, h6, h7, h8⟩
  · refine LL.val (v := .tuple #[.bool false]) (w' := w) (fun ac F => ?_) hd (by rw [ho]; rfl) hg (c0 h1)
    unfold execOp
    simp only [ho, F.ev hx, Sem.run_bind, Sem.run_pure, h2, Result.andThen_ok]
  · refine LL.val (v := .tuple #[.bool true, ke a, ve v]) (w' := w') (fun ac F => ?_) hd (by rw [ho]; rfl) hg (c1 a v w' cnt' h1 h2 h4 h5 h6 h7 h8)
    unfold execOp
    simp only [ho, F.ev hx, Sem.run_bind, Sem.run_pure, h3, Result.andThen_ok]
theorem R.entry {u : Value} (ho : o.op = .entry x) (hx : evM M x = some u) {v : Value} (h : (Instr.entry u).run P w = .ok v w) : Runs P N D M o w (.value v) w := fun ac F => by
  unfold execOp
  simp only [ho, F.ev hx, Sem.run_bind, Sem.run_pure, h, Result.andThen_ok]
end
end Go.Proofs.Ytajfffoaebjnlaa
/- Equal structs and arrays of integers, truth values, strings, and of such: cell by cell. Over any program. -/
namespace Go.Proofs.Ytajfffoaebjnlaa
set_option linter.unusedVariables false
set_option linter.unusedSimpArgs false
open Go.RowKit Go.Shelf
section
variable {P : Program}
def eqF (P : Program) (g : TypeId → List Value → List Value → Option (List Bool)) (xs ys : List Value) : List Field → Option (List Bool)
  | [] => some []
  | f :: fs => if f.name = "_" then none else match g f.type ((xs.drop f.offset).take (P.cellsOf f.type)) ((ys.drop f.offset).take (P.cellsOf f.type)), eqF P g xs ys fs with
    | some a, some b => some (a ++ b)
    | _, _ => none
def eqI (g : List Value → List Value → Option (List Bool)) (c : Nat) (xs ys : List Value) : List Nat → Option (List Bool)
  | [] => some []
  | i :: is => match g ((xs.drop (i * c)).take c) ((ys.drop (i * c)).take c), eqI g c xs ys is with
    | some a, some b => some (a ++ b)
    | _, _ => none
def eqC (P : Program) : Nat → TypeId → List Value → List Value → Option (List Bool)
  | 0, _, _, _ => none
  | d + 1, t, xs, ys => match P.underlying t with
    | some (.struct fs) => if P.stoodInHeld t = true then none else eqF P (eqC P d) xs ys fs.toList
    | some (.array n e) => if n = 0 then none else eqI (eqC P d e) (P.cellsOf e) xs ys (List.range n)
    | some (.int _) => match xs, ys with
      | [.int k a], [.int k' b] => if k = k' then some [decide (a = b)] else none
      | _, _ => none
    | some .bool => match xs, ys with
      | [.bool a], [.bool b] => some [a == b]
      | _, _ => none
    | some .string => match xs, ys with
      | [.string a], [.string b] => some [a.toList == b.toList]
      | _, _ => none
    | _ => none
def valC (P : Program) (t : TypeId) (xs : List Value) : Value := match P.underlying t with
  | some (.struct _) | some (.array _ _) => .agg xs.toArray
  | _ => xs.headD undef
theorem eqC_part {d : Nat} {t : TypeId} {xs ys : List Value} {off : Nat} {bs : List Bool} (h : eqC P d t ((xs.drop off).take (P.cellsOf t)) ((ys.drop off).take (P.cellsOf t)) = some bs) (w : World) :
    (part t xs.toArray off).run P w = .ok (valC P t ((xs.drop off).take (P.cellsOf t))) w ∧ (part t ys.toArray off).run P w = .ok (valC P t ((ys.drop off).take (P.cellsOf t))) w := by
  cases d with
  | zero => cases h
  | succ d =>
    have one : ∀ (zs : List Value) (v : Value), (zs.drop off).take (P.cellsOf t) = [v] → zs.toArray[off]? = some v := by
      intro zs v hz
      have : ((zs.drop off).take (P.cellsOf t))[0]? = some v := by rw [hz]; rfl
      rw [List.getElem?_take] at this
      split at this
      · simpa using this
      · cases this
    have agg : ∀ zs : List Value, zs.toArray.extract off (off + P.cellsOf t) = ((zs.drop off).take (P.cellsOf t)).toArray := by
      intro zs
      simp [List.extract]
    cases hu : P.underlying t with
    | none => simp [eqC, hu] at h
    | some kd =>
      obtain ⟨i, hi⟩ := info_of_underlying hu
      cases kd <;> simp only [eqC, hu] at h <;> try (cases h; done)
      case bool =>
        split at h
        · rename_i a b e1 e2
          rw [e1, e2]
          simp [part, isAgg, run_underlying hu, valC, hu, one xs _ e1, one ys _ e2]
        · cases h
      case int =>
        split at h
        · rename_i a b e1 e2
          rw [e1, e2]
          simp [part, isAgg, run_underlying hu, valC, hu, one xs _ e1, one ys _ e2]
        · cases h
      case string =>
        split at h
        · rename_i a b e1 e2
          rw [e1, e2]
          simp [part, isAgg, run_underlying hu, valC, hu, one xs _ e1, one ys _ e2]
        · cases h
      case struct fs => simp [part, isAgg, run_underlying hu, run_sizeOf _ hi, valC, hu, List.extract]
      case array n e => simp [part, isAgg, run_underlying hu, run_sizeOf _ hi, valC, hu, List.extract]
theorem fieldsOf_eq {t : TypeId} {fs : Array Field} (h : P.underlying t = some (.struct fs)) : P.fieldsOf t = fs := by simp [Program.fieldsOf, h]
theorem run_eqF {d dd : Nat} {xs ys : List Value} (IH : ∀ t xs ys bs w, eqC P d t xs ys = some bs → (Op.equalIn dd t (valC P t xs) (valC P t ys)).run P w = .ok (bs.all id) w) :
    ∀ (fs : List Field) (bs : List Bool) (w : World), eqF P (eqC P d) xs ys fs = some bs → (Op.eqFields dd xs.toArray ys.toArray fs).run P w = .ok (bs.all id) w
  | [], bs, w, h => by simp only [eqF, Option.some.injEq] at h; subst h; simp [Op.eqFields]
  | f :: fs, bs, w, h => by
    simp only [eqF] at h
    split at h
    · cases h
    rename_i hn
    split at h
    · rename_i a b h1 h2
      cases h
      obtain ⟨p1, p2⟩ := eqC_part h1 w
      simp only [Op.eqFields, ne_eq, hn, not_false_eq_true, if_true, Sem.run_bind, p1, p2, Result.andThen_ok, IH _ _ _ _ w h1, List.all_append]
      cases ha : a.all id
      · simp
      · simpa using run_eqF IH fs b w h2
    · cases h
theorem run_eqI {d dd : Nat} {e : TypeId} {xs ys : List Value} (IH : ∀ t xs ys bs w, eqC P d t xs ys = some bs → (Op.equalIn dd t (valC P t xs) (valC P t ys)).run P w = .ok (bs.all id) w) :
    ∀ (is : List Nat) (bs : List Bool) (w : World), eqI (eqC P d e) (P.cellsOf e) xs ys is = some bs → (Op.eqItems dd e (P.cellsOf e) xs.toArray ys.toArray is).run P w = .ok (bs.all id) w
  | [], bs, w, h => by simp only [eqI, Option.some.injEq] at h; subst h; simp [Op.eqItems]
  | i :: is, bs, w, h => by
    simp only [eqI] at h
    split at h
    · rename_i a b h1 h2
      cases h
      obtain ⟨p1, p2⟩ := eqC_part h1 w
      simp only [Op.eqItems, Sem.run_bind, p1, p2, Result.andThen_ok, IH _ _ _ _ w h1, List.all_append]
      cases ha : a.all id
      · simp
      · simpa using run_eqI IH is b w h2
    · cases h
theorem run_eqC : ∀ (d k : Nat) (t : TypeId) (xs ys : List Value) (bs : List Bool) (w : World), eqC P d t xs ys = some bs → (Op.equalIn (d + k) t (valC P t xs) (valC P t ys)).run P w = .ok (bs.all id) w
  | 0, _, _, _, _, _, _, h => by cases h
  | d + 1, k, t, xs, ys, bs, w, h => by
    have IH := fun t xs ys bs w => run_eqC d k t xs ys bs w
    rw [show d + 1 + k = (d + k) + 1 by omega]
    cases hu : P.underlying t with
    | none => simp [eqC, hu] at h
    | some kd =>
      cases kd <;> simp only [eqC, hu] at h <;> try (cases h; done)
      case bool =>
        split at h
        · rename_i a b
          cases h
          simp [valC, hu, run_equalIn_bool' w (d + k) t a b hu]
        · cases h
      case int q =>
        split at h
        · rename_i k1 a k2 b
          split at h
          · rename_i hk
            subst hk
            cases h
            simp only [valC, hu, List.headD_cons, List.all_cons, List.all_nil, Bool.and_true, id]
            exact run_equalIn_int w (d + k) t k1 q a b hu
          · cases h
        · cases h
      case string =>
        split at h
        · rename_i a b
          cases h
          simp [valC, hu, run_equalIn_string w (d + k) t a b hu]
        · cases h
      case struct fs =>
        split at h
        · cases h
        rename_i hst
        simp only [valC, hu]
        have hf := fieldsOf_eq hu
        rw [run_equalIn_struct w (d + k) t _ _ (by rw [hf]; exact hu) (by simpa using hst), hf]
        exact run_eqF IH _ _ _ h
      case array n e =>
        split at h
        · cases h
        rename_i hn0
        cases n with
        | zero => exact absurd rfl hn0
        | succ n =>
          have hi : ∃ i, P.info? e = some i := by
            rw [show List.range (n + 1) = 0 :: (List.range n).map Nat.succ by rw [List.range_succ_eq_map]] at h
            simp only [eqI] at h
            split at h
            · rename_i a b h1 h2
              cases d with
              | zero => cases h1
              | succ d =>
                cases hue : P.underlying e with
                | none => simp [eqC, hue] at h1
                | some _ => exact info_of_underlying hue
            · cases h
          obtain ⟨i, hi⟩ := hi
          simp only [valC, hu]
          rw [run_equalIn_array w (d + k) _ _ hu hi]
          exact run_eqI IH _ _ _ h
theorem valC_agg {t : TypeId} {xs : List Value} (h : aggB P t = true) : valC P t xs = .agg xs.toArray := by
  unfold aggB at h
  unfold valC
  split at h <;> first | rfl | simp_all
variable {n : Nat} {D : List Deferred} {M : Slots} {w : World} {o : Oper} {x y : Operand} {t u : TypeId} {xs ys : List Value} {bs : List Bool} {p : Prop} [Decidable p]
theorem R.neS' (ho : o.op = .binOp .neq t x y u) (hx : evM M x = some (.agg xs.toArray)) (hy : evM M y = some (.agg ys.toArray)) (ht : aggB P t = true) (hg : P.eqGuardType P.depth t = false) (hb : eqC P 9 t xs ys = some bs) (hp : bs.all id = decide p) : Runs P n D M o w (.value (.bool (decide ¬p))) w := R.bin ho hx hy (by
  have h := run_eqC 9 9991 t xs ys bs w hb
  rw [valC_agg ht, valC_agg ht] at h
  simp only [Sem.run_bind, run_eqGuard_agg w _ _ _ _ _ _ hg, Result.andThen_ok, run_neq_struct]
  rw [show (10000 : Nat) = 9 + 9991 from rfl, h, hp]
  simp)
theorem R.neST (ho : o.op = .binOp .neq t x y u) (hx : evM M x = some (.agg xs.toArray)) (hy : evM M y = some (.agg ys.toArray)) (ht : aggB P t = true) (hg : P.eqGuardType P.depth t = false) (hb : eqC P 9 t xs ys = some bs) (hp : bs.all id = decide p) (h : p) : Runs P n D M o w (.value (.bool false)) w := by
  have := R.neS' (w := w) (n := n) (D := D) ho hx hy ht hg hb hp
  rwa [decide_eq_false (not_not_intro h)] at this
theorem R.neSF (ho : o.op = .binOp .neq t x y u) (hx : evM M x = some (.agg xs.toArray)) (hy : evM M y = some (.agg ys.toArray)) (ht : aggB P t = true) (hg : P.eqGuardType P.depth t = false) (hb : eqC P 9 t xs ys = some bs) (hp : bs.all id = decide p) (h : ¬p) : Runs P n D M o w (.value (.bool true)) w := by
  have := R.neS' (w := w) (n := n) (D := D) ho hx hy ht hg hb hp
  rwa [decide_eq_true h] at this
end
end Go.Proofs.Ytajfffoaebjnlaa
/- Arrays of numbers, in a row and as values. Over any program. -/
namespace Go.Proofs.Ytajfffoaebjnlaa
set_option linter.unusedVariables false
set_option linter.unusedSimpArgs false
open Go.RowKit Go.Shelf
/-- Whole numbers of a kind. -/
abbrev intsZ (k : IntKind) (ns : List Int) : List Value := ns.map fun z : Int => Value.int k z
section
variable {P : Program} {w w' : World} {t : TypeId} {o : Oper} {x y : Operand} {n : Nat} {D : List Deferred} {M : Slots} {r : Option Nat} {ops : Array Oper} {Q : Exit → Act → World → Prop} {rest : List Oper}
end
end Go.Proofs.Ytajfffoaebjnlaa
/- Equal arrays of numbers. Over any program. -/
namespace Go.Proofs.Ytajfffoaebjnlaa
set_option linter.unusedVariables false
set_option linter.unusedSimpArgs false
open Go.RowKit Go.Shelf
section
variable {P : Program} {w : World} {n : Nat} {D : List Deferred} {M : Slots} {o : Oper} {x y : Operand} {t u : TypeId}
theorem eqI_ints {d : Nat} {e : TypeId} {k kk : IntKind} {xa xb : List Int} (he : P.underlying e = some (.int kk)) : ∀ (is : List Nat), (∀ i ∈ is, i < xa.length ∧ i < xb.length) →
    ∃ cs, eqI (eqC P (d + 1) e) 1 (intsZ k xa) (intsZ k xb) is = some cs ∧ (cs.all id = true ↔ ∀ i ∈ is, xa[i]? = xb[i]?)
  | [], _ => ⟨[], rfl, by simp⟩
  | i :: is, h => by
    obtain ⟨cs, h1, h2⟩ := eqI_ints (d := d) (k := k) he is fun j hj => h j (by simp [hj])
    obtain ⟨ha, hb⟩ := h i (by simp)
    have g : ∀ (zs : List Int) (hz : i < zs.length), ((intsZ k zs).drop (i * 1)).take 1 = [.int k zs[i]] := fun zs hz => by
      rw [Nat.mul_one, List.drop_eq_getElem_cons (by simpa using hz)]
      simp
    refine ⟨[decide (xa[i] = xb[i])] ++ cs, ?_, ?_⟩
    · simp only [eqI, g xa ha, g xb hb, h1]
      simp [eqC, he]
    · simp only [List.all_append, List.all_cons, List.all_nil, id, Bool.and_true, Bool.and_eq_true, decide_eq_true_eq, h2, List.mem_cons, forall_eq_or_imp]
      rw [List.getElem?_eq_getElem ha, List.getElem?_eq_getElem hb]
      simp
theorem eqC_ints {m : Nat} {e : TypeId} {k kk : IntKind} {xa xb : List Int} (hu : P.underlying t = some (.array m e)) (he : P.underlying e = some (.int kk)) (hc : P.cellsOf e = 1) (hm : m ≠ 0) (ha : xa.length = m) (hb : xb.length = m) : ∃ cs, eqC P 9 t (intsZ k xa) (intsZ k xb) = some cs ∧ cs.all id = decide (xa = xb) := by
  obtain ⟨cs, h1, h2⟩ := eqI_ints (P := P) (d := 7) (k := k) (xa := xa) (xb := xb) he (List.range m) fun i hi => by
    have := List.mem_range.1 hi
    omega
  refine ⟨cs, ?_, ?_⟩
  · show eqC P (8 + 1) t _ _ = _
    simp only [eqC, hu, hm, if_false, hc]
    exact h1
  · rw [Bool.eq_iff_iff, h2, decide_eq_true_eq]
    constructor
    · intro h
      refine List.ext_getElem? fun i => ?_
      by_cases hi : i < m
      · exact h i (List.mem_range.2 hi)
      · rw [List.getElem?_eq_none (by omega), List.getElem?_eq_none (by omega)]
    · rintro rfl i _
      rfl
theorem R.neZT {m : Nat} {e : TypeId} {k kk : IntKind} {xa xb : List Int} (ho : o.op = .binOp .neq t x y u) (hx : evM M x = some (.agg (intsZ k xa).toArray)) (hy : evM M y = some (.agg (intsZ k xb).toArray)) (hu : P.underlying t = some (.array m e)) (he : P.underlying e = some (.int kk)) (hc : P.cellsOf e = 1) (hm : m ≠ 0) (ht : aggB P t = true) (hg : P.eqGuardType P.depth t = false) (ha : xa.length = m) (hb : xb.length = m) (h : xa = xb) : Runs P n D M o w (.value (.bool false)) w := by
  obtain ⟨cs, h1, h2⟩ := eqC_ints (k := k) hu he hc hm ha hb
  exact R.neST ho hx hy ht hg h1 h2 h
theorem R.neZF {m : Nat} {e : TypeId} {k kk : IntKind} {xa xb : List Int} (ho : o.op = .binOp .neq t x y u) (hx : evM M x = some (.agg (intsZ k xa).toArray)) (hy : evM M y = some (.agg (intsZ k xb).toArray)) (hu : P.underlying t = some (.array m e)) (he : P.underlying e = some (.int kk)) (hc : P.cellsOf e = 1) (hm : m ≠ 0) (ht : aggB P t = true) (hg : P.eqGuardType P.depth t = false) (ha : xa.length = m) (hb : xb.length = m) (h : xa ≠ xb) : Runs P n D M o w (.value (.bool true)) w := by
  obtain ⟨cs, h1, h2⟩ := eqC_ints (k := k) hu he hc hm ha hb
  exact R.neSF ho hx hy ht hg h1 h2 h
end
end Go.Proofs.Ytajfffoaebjnlaa
/- append(l, make([]T, n)...): onto a slice of the call's own, of elements of one cell. Over any program. -/
namespace Go.Proofs.Ytajfffoaebjnlaa
set_option linter.unusedVariables false
set_option linter.unusedSimpArgs false
open Go.RowKit Go.Shelf
section
variable {P : Program} {w : World} {T TI e : TypeId} {z : Value} {bytes : Nat} {kn : IntKind}
variable {o : Oper} {n : Nat} {D : List Deferred} {M : Slots} {r : Option Nat} {ops : Array Oper} {Q : Exit → Act → World → Prop} {rest : List Oper}
end
end Go.Proofs.Ytajfffoaebjnlaa
/- pmem: what a memory is, and its words. pmem: words stored and loaded; what may be named. pmem: Load, Store, Flush, Evict. pmem: moved, flat, on; memories that are made. pmem: memories that are made. pmem: Fence. -/
namespace Go.Proofs.Ytajfffoaebjnlaa
set_option linter.unusedVariables false
set_option linter.unusedSimpArgs false
open Go.RowKit Go.Shelf
open Go.MapKept (IsKey)
/-- A line: eight words. -/
abbrev Ln := {l : List Nat // l.length = 8}
/-- What stands, what lasts, what is queued. -/
abbrev Cl := Ln × Ln × Option Ln
def zL : Ln := ⟨List.replicate 8 0, rfl⟩
abbrev lV (x : Ln) : Value := .agg (ints .u64 x.1).toArray
def lE (x : Ln) : List Value := ints .u64 x.1
def nowE (c : Cl) : List Value := lE c.1
def lastE (c : Cl) : List Value := lE c.2.1
def cE (c : Cl) : List Value := lE c.1 ++ (lE c.2.1 ++ (lE (c.2.2.getD zL) ++ [.bool c.2.2.isSome]))
theorem lE_len (x : Ln) : (lE x).length = 8 := by unfold lE; rw [List.length_map, x.2]
theorem lE_one (x : Ln) : ∀ u ∈ lE x, u.oneCell' = true := fun u hu => by
  simp only [lE, List.mem_map] at hu
  obtain ⟨z, _, rfl⟩ := hu
  rfl
theorem lEnc : Enc lE 8 := ⟨lE_len, lE_one, by decide⟩
theorem nowEnc : Enc nowE 8 := ⟨fun _ => lE_len _, fun _ => lE_one _, by decide⟩
theorem lastEnc : Enc lastE 8 := ⟨fun _ => lE_len _, fun _ => lE_one _, by decide⟩
abbrev iK (n : Nat) : Value := .int .i64 (n : Int)
theorem iKeys : KeyE Try.prog 3 (.int .i64) iK := ⟨by kernel_rfl, fun _ => rfl, fun a b h => by
  simp only [iK, Value.int.injEq, true_and] at h
  omega⟩
def qF (s : List Cl) : Nat → Option Ln := fun i => (s[i]?).bind (·.2.2)
def nQ (s : List Cl) : Nat := s.countP fun c => c.2.2.isSome
/-- A memory of the program. -/
structure Mem (w : World) (m gn gl qb N : Nat) (s : List Cl) : Prop where
  row : RowL w m 53 [.slice (some ⟨gn, 0, none⟩) N N, .slice (some ⟨gl, 0, none⟩) N N, .map (some qb)]
  now : RowL w gn 79 (s.flatMap nowE)
  last : RowL w gl 79 (s.flatMap lastE)
  qs : MapK (.int .i64) iK lV w qb (nQ s) (qF s)
  len : s.length = N
  pos : 0 < N
  le : N ≤ 16384
  ne : m ≠ gn ∧ m ≠ gl ∧ m ≠ qb ∧ gn ≠ gl ∧ gn ≠ qb ∧ gl ≠ qb
section
variable {w w' : World} {m gn gl qb N : Nat} {s : List Cl}
theorem Mem.up (h : Mem w m gn gl qb N s) (b : Below w.heap.size w w') : Mem w' m gn gl qb N s := ⟨h.row.up b, h.now.up b, h.last.up b, h.qs.up b, h.len, h.pos, h.le, h.ne⟩
theorem Mem.lts (h : Mem w m gn gl qb N s) : m < w.heap.size ∧ gn < w.heap.size ∧ gl < w.heap.size ∧ qb < w.heap.size := ⟨h.row.lt, h.now.lt, h.last.lt, h.qs.lt⟩
theorem Mem.kept {K : Nat → Prop} (h : Mem w m gn gl qb N s) (k : Kept K w w') (h1 : K m) (h2 : K gn) (h3 : K gl) (h4 : K qb) : Mem w' m gn gl qb N s := ⟨h.row.kept k h1, h.now.kept k h2, h.last.kept k h3, h.qs.kept k h4, h.len, h.pos, h.le, h.ne⟩
end
set_option maxRecDepth 100000
theorem none_F (m N : Nat) {a : Option Addr} {c : Nat} {v2 v3 : Value} {w : World} (h : RowL w m 53 [.slice a N c, v2, v3]) (hN : 0 < N) : Calls Try.prog 45 #[.pointer (some ⟨m, 0, none⟩)] w fun e w' => e = .returned (.bool false) ∧ w = w' := by
  refine X.fn Try.func45 rfl (n := 14) rfl rfl ?_
  refine CC.seq ?_
  refine CC.region ?_
  refine LL.val (R.assign rfl rfl) rfl rfl rfl ?_
  refine LL.nilS ?_
  refine CC.seq ?_
  refine CC.region ?_
  refine LL.val (R.move rfl rfl) rfl rfl rfl ?_
  refine LL.val (R.eqPtr rfl rfl rfl rfl rfl) rfl rfl rfl ?_
  refine LL.val (R.move rfl rfl) rfl rfl rfl ?_
  refine LL.val (R.move rfl rfl) rfl rfl rfl ?_
  refine LL.val (R.nil rfl rfl) rfl rfl rfl ?_
  refine LL.val (R.field rfl rfl (I.fld rfl)) rfl rfl rfl ?_
  refine LL.val (R.field rfl rfl (I.fld rfl)) rfl rfl rfl ?_
  refine LL.val (R.load rfl rfl (I.ld1 rfl (RowL.cell h rfl))) rfl rfl rfl ?_
  refine LL.val (R.len rfl rfl rfl rfl) rfl rfl rfl ?_
  refine LL.val (R.eqF rfl rfl rfl (by omega)) rfl rfl rfl ?_
  refine LL.val (R.pick rfl rfl rfl) rfl rfl rfl ?_
  refine LL.val (R.assign rfl rfl) rfl rfl rfl ?_
  refine LL.nilS ?_
  refine CC.ret ?_
  refine EE.ret _ rfl rfl ?_
  exact ⟨rfl, rfl⟩
--C pmem_stand_words | words_any _ _ @p @p | S
theorem words_any (m N : Nat) {a : Option Addr} {c : Nat} {v2 v3 : Value} {w : World} (h : RowL w m 53 [.slice a N c, v2, v3]) (hN : N ≤ 16384) : Calls Try.prog 53 #[.pointer (some ⟨m, 0, none⟩)] w fun e w' => e = .returned (.int .i64 ((N * 8 : Nat) : Int)) ∧ w = w' := by
  refine X.fn Try.func53 rfl (n := 9) rfl rfl ?_
  refine CC.seq ?_
  refine CC.region ?_
  refine LL.val (R.assign rfl rfl) rfl rfl rfl ?_
  refine LL.nilS ?_
  refine CC.seq ?_
  refine CC.region ?_
  refine LL.val (R.move rfl rfl) rfl rfl rfl ?_
  refine LL.val (R.nil rfl rfl) rfl rfl rfl ?_
  refine LL.val (R.field rfl rfl (I.fld rfl)) rfl rfl rfl ?_
  refine LL.val (R.load rfl rfl (I.ld1 rfl (RowL.cell h rfl))) rfl rfl rfl ?_
  refine LL.val (R.len rfl rfl rfl rfl) rfl rfl rfl ?_
  refine LL.val (R.mulNc rfl rfl rfl rfl (by omega)) rfl rfl rfl ?_
  refine LL.val (R.assign rfl rfl) rfl rfl rfl ?_
  refine LL.nilS ?_
  refine CC.ret ?_
  refine EE.ret _ rfl rfl ?_
  exact ⟨rfl, rfl⟩
/-- A line with another word. -/
def wrC (c : Cl) (j v : Nat) : Cl := (⟨c.1.1.set j v, by rw [List.length_set]; exact c.1.2⟩, c.2)
theorem wrC_now (c : Cl) (j v : Nat) : nowE (wrC c j v) = (nowE c).set j (.int .u64 (v : Int)) := by
  unfold nowE lE wrC
  simp only [ints, List.map_set]
theorem set_get {s : List Cl} {i : Nat} {c : Cl} (hc : s[i]? = some c) : s.set i c = s := by
  obtain ⟨h, rfl⟩ := List.getElem?_eq_some_iff.1 hc
  exact List.set_getElem_self h
theorem set_last {s : List Cl} {i : Nat} {c u : Cl} (hc : s[i]? = some c) (h : lastE u = lastE c) : (s.set i u).flatMap lastE = s.flatMap lastE := by
  rw [lastEnc.set s i u (List.getElem?_eq_some_iff.1 hc).1, h, ← lastEnc.set s i c (List.getElem?_eq_some_iff.1 hc).1, set_get hc]
theorem set_now {s : List Cl} {i : Nat} {c u : Cl} (hc : s[i]? = some c) (h : nowE u = nowE c) : (s.set i u).flatMap nowE = s.flatMap nowE := by
  rw [nowEnc.set s i u (List.getElem?_eq_some_iff.1 hc).1, h, ← nowEnc.set s i c (List.getElem?_eq_some_iff.1 hc).1, set_get hc]
theorem qF_set {s : List Cl} {i : Nat} {c u : Cl} (hc : s[i]? = some c) (h : u.2.2 = c.2.2) : qF (s.set i u) = qF s := by
  funext j
  unfold qF
  rw [List.getElem?_set]
  by_cases hj : i = j
  · subst hj
    rw [if_pos rfl, if_pos (List.getElem?_eq_some_iff.1 hc).1, hc]
    exact h
  · rw [if_neg hj]
theorem countP_set {α : Type} (p : α → Bool) : ∀ (l : List α) (i : Nat) (c u : α), l[i]? = some c → (l.set i u).countP p + (if p c then 1 else 0) = l.countP p + (if p u then 1 else 0)
  | [], _, _, _, h => by simp at h
  | x :: l, 0, c, u, h => by
    simp at h
    subst h
    rw [List.set_cons_zero, List.countP_cons, List.countP_cons]
    omega
  | x :: l, i + 1, c, u, h => by
    have := countP_set p l i c u (by simpa using h)
    rw [List.set_cons_succ, List.countP_cons, List.countP_cons]
    omega
theorem nQ_set {s : List Cl} {i : Nat} {c u : Cl} (hc : s[i]? = some c) (h : u.2.2 = c.2.2) : nQ (s.set i u) = nQ s := by
  have := countP_set (fun c : Cl => c.2.2.isSome) s i c u hc
  simp only [h] at this
  unfold nQ
  omega
set_option maxRecDepth 100000
set_option maxHeartbeats 2000000
theorem put_any (m gn N j v : Nat) {c0 : Nat} {v2 v3 : Value} {w : World} {s : List Cl} {c : Cl} (h : RowL w m 53 [.slice (some ⟨gn, 0, none⟩) N c0, v2, v3]) (hn : RowL w gn 79 (s.flatMap nowE)) (hl : s.length = N) (hN : N ≤ 16384) (hc : s[j / 8]? = some c) :
    Calls Try.prog 35 #[.pointer (some ⟨m, 0, none⟩), .int .i64 (j : Int), .int .u64 (v : Int)] w fun e w' => e = .returned (.tuple #[]) ∧ RowL w' gn 79 ((s.set (j / 8) (wrC c (j % 8) v)).flatMap nowE) ∧ w.grownBy w' (some gn) ∧ w'.heap.size = w.heap.size := by
  have hj := (List.getElem?_eq_some_iff.1 hc).1
  refine X.fn Try.func35 rfl (n := 17) rfl rfl ?_
  refine CC.region ?_
  refine LL.val (R.move rfl rfl) rfl rfl rfl ?_
  refine LL.val (R.nil rfl rfl) rfl rfl rfl ?_
  refine LL.val (R.field rfl rfl (I.fld rfl)) rfl rfl rfl ?_
  refine LL.val (R.load rfl rfl (I.ld1 rfl (RowL.cell h rfl))) rfl rfl rfl ?_
  refine LL.val (R.move rfl rfl) rfl rfl rfl ?_
  refine LL.val (R.quoNc rfl rfl rfl rfl (by omega) (by omega)) rfl rfl rfl ?_
  refine LL.val (R.move rfl rfl) rfl rfl rfl ?_
  refine LL.val (R.remNc rfl rfl rfl rfl (by omega)) rfl rfl rfl ?_
  refine LL.val (R.move rfl rfl) rfl rfl rfl ?_
  refine LL.val (R.index rfl rfl rfl (I.ixS rfl (by omega))) rfl rfl rfl ?_
  refine LL.val (R.index rfl rfl rfl (I.ixA1 rfl (by omega))) rfl rfl rfl ?_
  (refine LL.store1 (j / 8) (j % 8) c (wrC c (j % 8) v) rfl rfl rfl rfl (by show 0 + j / 8 * 8 + j % 8 = j / 8 * 8 + j % 8; omega) nowEnc hn hc (by omega) (wrC_now c (j % 8) v) rfl rfl rfl rfl ?_; intro W1 rn g1 z1)
  refine LL.nil ?_
  refine EE.end _ rfl rfl ?_
  exact ⟨rfl, rn, g1, z1⟩
--C pmem_stand_get | get_any _ _ _ _ _ @p @p @p @p @p @p | S
theorem get_any (m gn N j y : Nat) {c0 : Nat} {v2 v3 : Value} {w : World} {s : List Cl} {c : Cl} (h : RowL w m 53 [.slice (some ⟨gn, 0, none⟩) N c0, v2, v3]) (hn : RowL w gn 79 (s.flatMap nowE)) (hl : s.length = N) (hN : N ≤ 16384) (hc : s[j / 8]? = some c) (hy : c.1.1[j % 8]? = some y) :
    Calls Try.prog 51 #[.pointer (some ⟨m, 0, none⟩), .int .i64 (j : Int)] w fun e w' => e = .returned (.int .u64 (y : Int)) ∧ w = w' := by
  have hj := (List.getElem?_eq_some_iff.1 hc).1
  have c1 : w.cell? ⟨gn, 0 + j / 8 * 8 + j % 8, none⟩ = some (.int .u64 (y : Int)) := by
    refine hn.cell ?_
    rw [Nat.zero_add, nowEnc.get s (j / 8) c hc (j % 8) (by omega)]
    simp [nowE, lE, ints, hy]
  refine X.fn Try.func51 rfl (n := 16) rfl rfl ?_
  refine CC.seq ?_
  refine CC.region ?_
  refine LL.val (R.assign rfl rfl) rfl rfl rfl ?_
  refine LL.nilS ?_
  refine CC.seq ?_
  refine CC.region ?_
  refine LL.val (R.move rfl rfl) rfl rfl rfl ?_
  refine LL.val (R.nil rfl rfl) rfl rfl rfl ?_
  refine LL.val (R.field rfl rfl (I.fld rfl)) rfl rfl rfl ?_
  refine LL.val (R.load rfl rfl (I.ld1 rfl (RowL.cell h rfl))) rfl rfl rfl ?_
  refine LL.val (R.move rfl rfl) rfl rfl rfl ?_
  refine LL.val (R.quoNc rfl rfl rfl rfl (by omega) (by omega)) rfl rfl rfl ?_
  refine LL.val (R.move rfl rfl) rfl rfl rfl ?_
  refine LL.val (R.remNc rfl rfl rfl rfl (by omega)) rfl rfl rfl ?_
  refine LL.val (R.index rfl rfl rfl (I.ixS rfl (by omega))) rfl rfl rfl ?_
  refine LL.val (R.index rfl rfl rfl (I.ixA1 rfl (by omega))) rfl rfl rfl ?_
  refine LL.val (R.load rfl rfl (I.ld1 rfl (by assumption))) rfl rfl rfl ?_
  refine LL.val (R.assign rfl rfl) rfl rfl rfl ?_
  refine LL.nilS ?_
  refine CC.ret ?_
  refine EE.ret _ rfl rfl ?_
  exact ⟨rfl, rfl⟩
--C pmem_Memory_hasWord_1 | hw1_any _ _ _ @p @p @p | S
theorem hw1_any (bk m N : Nat) {a : Option Addr} {c : Nat} {v2 v3 : Value} {w : World} (hb : RowL w bk 26 [.pointer (some ⟨m, 0, none⟩)]) (h : RowL w m 53 [.slice a N c, v2, v3]) (hN : N ≤ 16384) : Calls Try.prog 64 #[.pointer (some ⟨bk, 0, none⟩)] w fun e w' => e = .returned (.int .i64 ((N * 8 : Nat) : Int)) ∧ w = w' := by
  refine X.fn Try.func64 rfl (n := 6) rfl rfl ?_
  refine CC.seq ?_
  refine CC.region ?_
  refine LL.val (R.assign rfl rfl) rfl rfl rfl ?_
  refine LL.nilS ?_
  refine CC.seq ?_
  refine CC.region ?_
  refine LL.val (R.load rfl rfl (I.ld1 rfl (RowL.cell hb rfl))) rfl rfl rfl ?_
  refine LL.val (R.nil rfl rfl) rfl rfl rfl ?_
  refine LL.val (R.field rfl rfl (I.fld rfl)) rfl rfl rfl ?_
  refine LL.call (R.call rfl rfl rfl) rfl rfl rfl (words_any _ _ (by first | assumption | omega) (by first | assumption | omega)) ?_
  rintro e W' ⟨rfl, rfl⟩
  refine ⟨_, rfl, ?_⟩
  refine LL.val (R.assign rfl rfl) rfl rfl rfl ?_
  refine LL.nilS ?_
  refine CC.ret ?_
  refine EE.ret _ rfl rfl ?_
  exact ⟨rfl, rfl⟩
--C pmem_Memory_hasLine_1 | hl1_any _ _ _ @p @p @p | S
theorem hl1_any (bk m N : Nat) {a : Option Addr} {c : Nat} {v2 v3 : Value} {w : World} (hb : RowL w bk 26 [.pointer (some ⟨m, 0, none⟩)]) (h : RowL w m 53 [.slice a N c, v2, v3]) (hN : N ≤ 16384) : Calls Try.prog 65 #[.pointer (some ⟨bk, 0, none⟩)] w fun e w' => e = .returned (.int .i64 (N : Int)) ∧ w = w' := by
  refine X.fn Try.func65 rfl (n := 8) rfl rfl ?_
  refine CC.seq ?_
  refine CC.region ?_
  refine LL.val (R.assign rfl rfl) rfl rfl rfl ?_
  refine LL.nilS ?_
  refine CC.seq ?_
  refine CC.region ?_
  refine LL.val (R.load rfl rfl (I.ld1 rfl (RowL.cell hb rfl))) rfl rfl rfl ?_
  refine LL.val (R.nil rfl rfl) rfl rfl rfl ?_
  refine LL.val (R.field rfl rfl (I.fld rfl)) rfl rfl rfl ?_
  refine LL.val (R.field rfl rfl (I.fld rfl)) rfl rfl rfl ?_
  refine LL.val (R.load rfl rfl (I.ld1 rfl (RowL.cell h rfl))) rfl rfl rfl ?_
  refine LL.val (R.len rfl rfl rfl rfl) rfl rfl rfl ?_
  refine LL.val (R.assign rfl rfl) rfl rfl rfl ?_
  refine LL.nilS ?_
  refine CC.ret ?_
  refine EE.ret _ rfl rfl ?_
  exact ⟨rfl, rfl⟩
theorem placeW_T (bk m N : Nat) (a : Int) {a0 : Option Addr} {c : Nat} {v2 v3 : Value} {w : World} (hb : RowL w bk 26 [.pointer (some ⟨m, 0, none⟩)]) (h : RowL w m 53 [.slice a0 N c, v2, v3]) (hN : N ≤ 16384) (h0 : 0 < N) (ha : 0 ≤ a ∧ a < ((N * 8 : Nat) : Int)) :
    Calls Try.prog 63 #[.pointer (some ⟨m, 0, none⟩), .int .i64 a, .func (.func 64) #[] #[.pointer (some ⟨bk, 0, none⟩)]] w fun e w' => e = .returned (.int .i64 0) ∧ w = w' := by
  refine X.fn Try.func63 rfl (n := 19) rfl rfl ?_
  refine CC.seq ?_
  refine CC.region ?_
  refine LL.val (R.assign rfl rfl) rfl rfl rfl ?_
  refine LL.nilS ?_
  refine CC.seq ?_
  refine CC.block ?_
  refine CC.seq ?_
  refine CC.region ?_
  refine LL.val (R.move rfl rfl) rfl rfl rfl ?_
  refine LL.call (R.call rfl rfl rfl) rfl rfl rfl (none_F _ _ (by first | assumption | omega) (by first | assumption | omega)) ?_
  rintro e W' ⟨rfl, rfl⟩
  refine ⟨_, rfl, ?_⟩
  refine LL.val (R.assign rfl rfl) rfl rfl rfl ?_
  refine LL.nilS ?_
  refine CC.no rfl ?_
  refine CC.seq ?_
  refine CC.region ?_
  refine LL.val (R.move rfl rfl) rfl rfl rfl ?_
  refine LL.val (R.ltF rfl rfl rfl (by omega)) rfl rfl rfl ?_
  refine LL.val (R.move rfl rfl) rfl rfl rfl ?_
  refine LL.val (R.move rfl rfl) rfl rfl rfl ?_
  refine LL.val (R.move rfl rfl) rfl rfl rfl ?_
  refine LL.call (R.callV rfl rfl rfl rfl) rfl rfl rfl (hw1_any _ _ _ (by first | assumption | omega) (by first | assumption | omega) (by first | assumption | omega)) ?_
  rintro e W' ⟨rfl, rfl⟩
  refine ⟨_, rfl, ?_⟩
  refine LL.val (R.geF rfl rfl rfl (by omega)) rfl rfl rfl ?_
  refine LL.val (R.pick rfl rfl rfl) rfl rfl rfl ?_
  refine LL.val (R.assign rfl rfl) rfl rfl rfl ?_
  refine LL.nilS ?_
  refine CC.no rfl ?_
  refine CC.skip ?_
  refine EE.inN ?_
  refine EE.thenN ?_
  refine CC.seq ?_
  refine CC.region ?_
  refine LL.val (R.assign rfl rfl) rfl rfl rfl ?_
  refine LL.nilS ?_
  refine CC.ret ?_
  refine EE.ret _ rfl rfl ?_
  exact ⟨rfl, rfl⟩
theorem placeW_F (bk m N : Nat) (a : Int) {a0 : Option Addr} {c : Nat} {v2 v3 : Value} {w : World} (hb : RowL w bk 26 [.pointer (some ⟨m, 0, none⟩)]) (h : RowL w m 53 [.slice a0 N c, v2, v3]) (hN : N ≤ 16384) (h0 : 0 < N) (ha : a < 0 ∨ ((N * 8 : Nat) : Int) ≤ a) :
    Calls Try.prog 63 #[.pointer (some ⟨m, 0, none⟩), .int .i64 a, .func (.func 64) #[] #[.pointer (some ⟨bk, 0, none⟩)]] w fun e w' => e = .returned (.int .i64 4) ∧ w = w' := by
  refine X.fn Try.func63 rfl (n := 19) rfl rfl ?_
  refine CC.seq ?_
  refine CC.region ?_
  refine LL.val (R.assign rfl rfl) rfl rfl rfl ?_
  refine LL.nilS ?_
  refine CC.seq ?_
  refine CC.block ?_
  refine CC.seq ?_
  refine CC.region ?_
  refine LL.val (R.move rfl rfl) rfl rfl rfl ?_
  refine LL.call (R.call rfl rfl rfl) rfl rfl rfl (none_F _ _ (by first | assumption | omega) (by first | assumption | omega)) ?_
  rintro e W' ⟨rfl, rfl⟩
  refine ⟨_, rfl, ?_⟩
  refine LL.val (R.assign rfl rfl) rfl rfl rfl ?_
  refine LL.nilS ?_
  refine CC.no rfl ?_
  refine CC.seq ?_
  refine CC.region ?_
  refine LL.val (R.move rfl rfl) rfl rfl rfl ?_
  refine LL.vsplit (fun h => R.ltT rfl rfl rfl h) (fun h => R.ltF rfl rfl rfl (Int.not_lt.1 h)) rfl rfl rfl (fun c1 => ?_) (fun c1 => ?_)
  refine LL.val (R.move rfl rfl) rfl rfl rfl ?_
  refine LL.skip rfl rfl ?_
  refine LL.skip rfl rfl ?_
  refine LL.skip rfl rfl ?_
  refine LL.skip rfl rfl ?_
  refine LL.val (R.pick rfl rfl rfl) rfl rfl rfl ?_
  refine LL.val (R.assign rfl rfl) rfl rfl rfl ?_
  refine LL.nilS ?_
  refine CC.yes rfl ?_
  refine CC.seq ?_
  refine CC.region ?_
  refine LL.val (R.assign rfl rfl) rfl rfl rfl ?_
  refine LL.nilS ?_
  refine CC.ret ?_
  refine EE.inR ?_
  refine EE.thenR ?_
  refine EE.ret _ rfl rfl ?_
  exact ⟨rfl, rfl⟩
  refine LL.val (R.move rfl rfl) rfl rfl rfl ?_
  refine LL.val (R.move rfl rfl) rfl rfl rfl ?_
  refine LL.val (R.move rfl rfl) rfl rfl rfl ?_
  refine LL.call (R.callV rfl rfl rfl rfl) rfl rfl rfl (hw1_any _ _ _ (by first | assumption | omega) (by first | assumption | omega) (by first | assumption | omega)) ?_
  rintro e W' ⟨rfl, rfl⟩
  refine ⟨_, rfl, ?_⟩
  refine LL.val (R.geT rfl rfl rfl (by omega)) rfl rfl rfl ?_
  refine LL.val (R.pick rfl rfl rfl) rfl rfl rfl ?_
  refine LL.val (R.assign rfl rfl) rfl rfl rfl ?_
  refine LL.nilS ?_
  refine CC.yes rfl ?_
  refine CC.seq ?_
  refine CC.region ?_
  refine LL.val (R.assign rfl rfl) rfl rfl rfl ?_
  refine LL.nilS ?_
  refine CC.ret ?_
  refine EE.inR ?_
  refine EE.thenR ?_
  refine EE.ret _ rfl rfl ?_
  exact ⟨rfl, rfl⟩
theorem placeL_T (bk m N : Nat) (a : Int) {a0 : Option Addr} {c : Nat} {v2 v3 : Value} {w : World} (hb : RowL w bk 26 [.pointer (some ⟨m, 0, none⟩)]) (h : RowL w m 53 [.slice a0 N c, v2, v3]) (hN : N ≤ 16384) (h0 : 0 < N) (ha : 0 ≤ a ∧ a < (N : Int)) :
    Calls Try.prog 63 #[.pointer (some ⟨m, 0, none⟩), .int .i64 a, .func (.func 65) #[] #[.pointer (some ⟨bk, 0, none⟩)]] w fun e w' => e = .returned (.int .i64 0) ∧ w = w' := by
  refine X.fn Try.func63 rfl (n := 19) rfl rfl ?_
  refine CC.seq ?_
  refine CC.region ?_
  refine LL.val (R.assign rfl rfl) rfl rfl rfl ?_
  refine LL.nilS ?_
  refine CC.seq ?_
  refine CC.block ?_
  refine CC.seq ?_
  refine CC.region ?_
  refine LL.val (R.move rfl rfl) rfl rfl rfl ?_
  refine LL.call (R.call rfl rfl rfl) rfl rfl rfl (none_F _ _ (by first | assumption | omega) (by first | assumption | omega)) ?_
  rintro e W' ⟨rfl, rfl⟩
  refine ⟨_, rfl, ?_⟩
  refine LL.val (R.assign rfl rfl) rfl rfl rfl ?_
  refine LL.nilS ?_
  refine CC.no rfl ?_
  refine CC.seq ?_
  refine CC.region ?_
  refine LL.val (R.move rfl rfl) rfl rfl rfl ?_
  refine LL.val (R.ltF rfl rfl rfl (by omega)) rfl rfl rfl ?_
  refine LL.val (R.move rfl rfl) rfl rfl rfl ?_
  refine LL.val (R.move rfl rfl) rfl rfl rfl ?_
  refine LL.val (R.move rfl rfl) rfl rfl rfl ?_
  refine LL.call (R.callV rfl rfl rfl rfl) rfl rfl rfl (hl1_any _ _ _ (by first | assumption | omega) (by first | assumption | omega) (by first | assumption | omega)) ?_
  rintro e W' ⟨rfl, rfl⟩
  refine ⟨_, rfl, ?_⟩
  refine LL.val (R.geF rfl rfl rfl (by omega)) rfl rfl rfl ?_
  refine LL.val (R.pick rfl rfl rfl) rfl rfl rfl ?_
  refine LL.val (R.assign rfl rfl) rfl rfl rfl ?_
  refine LL.nilS ?_
  refine CC.no rfl ?_
  refine CC.skip ?_
  refine EE.inN ?_
  refine EE.thenN ?_
  refine CC.seq ?_
  refine CC.region ?_
  refine LL.val (R.assign rfl rfl) rfl rfl rfl ?_
  refine LL.nilS ?_
  refine CC.ret ?_
  refine EE.ret _ rfl rfl ?_
  exact ⟨rfl, rfl⟩
theorem placeL_F (bk m N : Nat) (a : Int) {a0 : Option Addr} {c : Nat} {v2 v3 : Value} {w : World} (hb : RowL w bk 26 [.pointer (some ⟨m, 0, none⟩)]) (h : RowL w m 53 [.slice a0 N c, v2, v3]) (hN : N ≤ 16384) (h0 : 0 < N) (ha : a < 0 ∨ (N : Int) ≤ a) :
    Calls Try.prog 63 #[.pointer (some ⟨m, 0, none⟩), .int .i64 a, .func (.func 65) #[] #[.pointer (some ⟨bk, 0, none⟩)]] w fun e w' => e = .returned (.int .i64 4) ∧ w = w' := by
  refine X.fn Try.func63 rfl (n := 19) rfl rfl ?_
  refine CC.seq ?_
  refine CC.region ?_
  refine LL.val (R.assign rfl rfl) rfl rfl rfl ?_
  refine LL.nilS ?_
  refine CC.seq ?_
  refine CC.block ?_
  refine CC.seq ?_
  refine CC.region ?_
  refine LL.val (R.move rfl rfl) rfl rfl rfl ?_
  refine LL.call (R.call rfl rfl rfl) rfl rfl rfl (none_F _ _ (by first | assumption | omega) (by first | assumption | omega)) ?_
  rintro e W' ⟨rfl, rfl⟩
  refine ⟨_, rfl, ?_⟩
  refine LL.val (R.assign rfl rfl) rfl rfl rfl ?_
  refine LL.nilS ?_
  refine CC.no rfl ?_
  refine CC.seq ?_
  refine CC.region ?_
  refine LL.val (R.move rfl rfl) rfl rfl rfl ?_
  refine LL.vsplit (fun h => R.ltT rfl rfl rfl h) (fun h => R.ltF rfl rfl rfl (Int.not_lt.1 h)) rfl rfl rfl (fun c1 => ?_) (fun c1 => ?_)
  refine LL.val (R.move rfl rfl) rfl rfl rfl ?_
  refine LL.skip rfl rfl ?_
  refine LL.skip rfl rfl ?_
  refine LL.skip rfl rfl ?_
  refine LL.skip rfl rfl ?_
  refine LL.val (R.pick rfl rfl rfl) rfl rfl rfl ?_
  refine LL.val (R.assign rfl rfl) rfl rfl rfl ?_
  refine LL.nilS ?_
  refine CC.yes rfl ?_
  refine CC.seq ?_
  refine CC.region ?_
  refine LL.val (R.assign rfl rfl) rfl rfl rfl ?_
  refine LL.nilS ?_
  refine CC.ret ?_
  refine EE.inR ?_
  refine EE.thenR ?_
  refine EE.ret _ rfl rfl ?_
  exact ⟨rfl, rfl⟩
  refine LL.val (R.move rfl rfl) rfl rfl rfl ?_
  refine LL.val (R.move rfl rfl) rfl rfl rfl ?_
  refine LL.val (R.move rfl rfl) rfl rfl rfl ?_
  refine LL.call (R.callV rfl rfl rfl rfl) rfl rfl rfl (hl1_any _ _ _ (by first | assumption | omega) (by first | assumption | omega) (by first | assumption | omega)) ?_
  rintro e W' ⟨rfl, rfl⟩
  refine ⟨_, rfl, ?_⟩
  refine LL.val (R.geT rfl rfl rfl (by omega)) rfl rfl rfl ?_
  refine LL.val (R.pick rfl rfl rfl) rfl rfl rfl ?_
  refine LL.val (R.assign rfl rfl) rfl rfl rfl ?_
  refine LL.nilS ?_
  refine CC.yes rfl ?_
  refine CC.seq ?_
  refine CC.region ?_
  refine LL.val (R.assign rfl rfl) rfl rfl rfl ?_
  refine LL.nilS ?_
  refine CC.ret ?_
  refine EE.inR ?_
  refine EE.thenR ?_
  refine EE.ret _ rfl rfl ?_
  exact ⟨rfl, rfl⟩
def flC (c : Cl) : Cl := (c.1, c.2.1, some c.1)
def evC (c : Cl) : Cl := (c.1, c.1, none)
theorem qF_put {s : List Cl} {i : Nat} {c u : Cl} {o : Option Ln} (hc : s[i]? = some c) (h : u.2.2 = o) : putMap (qF s) i o = qF (s.set i u) := by
  funext j
  unfold putMap qF
  rw [List.getElem?_set]
  by_cases hj : j = i
  · subst hj
    rw [if_pos rfl, if_pos rfl, if_pos (List.getElem?_eq_some_iff.1 hc).1]
    exact h.symm
  · rw [if_neg hj, if_neg (Ne.symm hj)]
theorem qF_at {s : List Cl} {i : Nat} {c : Cl} (hc : s[i]? = some c) : qF s i = c.2.2 := by
  unfold qF
  rw [hc]
  rfl
theorem nQ_puts {s : List Cl} {i : Nat} {c u : Cl} (hc : s[i]? = some c) (h : u.2.2.isSome = true) : (if (qF s i).isSome then nQ s else nQ s + 1) = nQ (s.set i u) := by
  have := countP_set (fun c : Cl => c.2.2.isSome) s i c u hc
  rw [qF_at hc]
  unfold nQ
  simp only [h, if_true] at this
  split
  · rename_i h2; rw [if_pos h2] at this; omega
  · rename_i h2; rw [if_neg h2] at this; omega
theorem nQ_del {s : List Cl} {i : Nat} {c u : Cl} (hc : s[i]? = some c) (h : u.2.2 = none) : (if (qF s i).isSome then nQ s - 1 else nQ s) = nQ (s.set i u) := by
  have := countP_set (fun c : Cl => c.2.2.isSome) s i c u hc
  rw [qF_at hc]
  unfold nQ
  simp only [h, Option.isSome_none, Bool.false_eq_true, if_false] at this
  split
  · rename_i h2; rw [if_pos h2] at this; omega
  · rename_i h2; rw [if_neg h2] at this; omega
set_option maxRecDepth 100000
set_option maxHeartbeats 2000000
theorem hasWord_T (m N : Nat) (a : Int) {a0 : Option Addr} {c : Nat} {v2 v3 : Value} (w : World) (h : RowL w m 53 [.slice a0 N c, v2, v3]) (hN : N ≤ 16384) (h0 : 0 < N) (ha : 0 ≤ a ∧ a < ((N * 8 : Nat) : Int)) :
    Calls Try.prog 50 #[.pointer (some ⟨m, 0, none⟩), .int .i64 a] w fun e w' => e = .returned (.int .i64 0) ∧ Below w.heap.size w w' := by
  have q := Below.refl w.heap.size w
  refine X.fn Try.func50 rfl (n := 9) rfl rfl ?_
  refine CC.seq ?_
  refine CC.region ?_
  have l1 := h.lt
  refine LL.box [Value.pointer (some { block := m, off := 0 })] rfl rfl rfl rfl rfl ?_
  intro W3 g4 eg4 r5 z6 b2
  replace h := h.up b2
  replace q := q.trans (b2.mono q.size)
  refine LL.val (R.assign rfl rfl) rfl rfl rfl ?_
  refine LL.nilS ?_
  refine CC.seq ?_
  refine CC.region ?_
  refine LL.val (R.load rfl rfl (I.ld1 rfl (RowL.cell r5 rfl))) rfl rfl rfl ?_
  refine LL.val (R.move rfl rfl) rfl rfl rfl ?_
  refine LL.val (R.func rfl rfl rfl) rfl rfl rfl ?_
  refine LL.call (R.call rfl rfl rfl) rfl rfl rfl (placeW_T _ _ _ _ (by first | assumption | omega) (by first | assumption | omega) (by first | assumption | omega) (by first | assumption | omega) (by first | assumption | omega)) ?_
  rintro e W' ⟨rfl, rfl⟩
  refine ⟨_, rfl, ?_⟩
  refine LL.val (R.assign rfl rfl) rfl rfl rfl ?_
  refine LL.nilS ?_
  refine CC.ret ?_
  refine EE.ret _ rfl rfl ?_
  exact ⟨rfl, q⟩
--C pmem_Memory_hasWord | hasWord_F _ _ _ @w @p @p @p @p | ⟨rfl, @b⟩
theorem hasWord_F (m N : Nat) (a : Int) {a0 : Option Addr} {c : Nat} {v2 v3 : Value} (w : World) (h : RowL w m 53 [.slice a0 N c, v2, v3]) (hN : N ≤ 16384) (h0 : 0 < N) (ha : a < 0 ∨ ((N * 8 : Nat) : Int) ≤ a) :
    Calls Try.prog 50 #[.pointer (some ⟨m, 0, none⟩), .int .i64 a] w fun e w' => e = .returned (.int .i64 4) ∧ Below w.heap.size w w' := by
  have q := Below.refl w.heap.size w
  refine X.fn Try.func50 rfl (n := 9) rfl rfl ?_
  refine CC.seq ?_
  refine CC.region ?_
  have l1 := h.lt
  refine LL.box [Value.pointer (some { block := m, off := 0 })] rfl rfl rfl rfl rfl ?_
  intro W3 g4 eg4 r5 z6 b2
  replace h := h.up b2
  replace q := q.trans (b2.mono q.size)
  refine LL.val (R.assign rfl rfl) rfl rfl rfl ?_
  refine LL.nilS ?_
  refine CC.seq ?_
  refine CC.region ?_
  refine LL.val (R.load rfl rfl (I.ld1 rfl (RowL.cell r5 rfl))) rfl rfl rfl ?_
  refine LL.val (R.move rfl rfl) rfl rfl rfl ?_
  refine LL.val (R.func rfl rfl rfl) rfl rfl rfl ?_
  refine LL.call (R.call rfl rfl rfl) rfl rfl rfl (placeW_F _ _ _ _ (by first | assumption | omega) (by first | assumption | omega) (by first | assumption | omega) (by first | assumption | omega) (by first | assumption | omega)) ?_
  rintro e W' ⟨rfl, rfl⟩
  refine ⟨_, rfl, ?_⟩
  refine LL.val (R.assign rfl rfl) rfl rfl rfl ?_
  refine LL.nilS ?_
  refine CC.ret ?_
  refine EE.ret _ rfl rfl ?_
  exact ⟨rfl, q⟩
--C pmem_Memory_hasLine | hasLine_T _ _ _ @w @p @p @p @p | ⟨rfl, @b⟩
theorem hasLine_T (m N : Nat) (a : Int) {a0 : Option Addr} {c : Nat} {v2 v3 : Value} (w : World) (h : RowL w m 53 [.slice a0 N c, v2, v3]) (hN : N ≤ 16384) (h0 : 0 < N) (ha : 0 ≤ a ∧ a < (N : Int)) :
    Calls Try.prog 52 #[.pointer (some ⟨m, 0, none⟩), .int .i64 a] w fun e w' => e = .returned (.int .i64 0) ∧ Below w.heap.size w w' := by
  have q := Below.refl w.heap.size w
  refine X.fn Try.func52 rfl (n := 9) rfl rfl ?_
  refine CC.seq ?_
  refine CC.region ?_
  have l1 := h.lt
  refine LL.box [Value.pointer (some { block := m, off := 0 })] rfl rfl rfl rfl rfl ?_
  intro W3 g4 eg4 r5 z6 b2
  replace h := h.up b2
  replace q := q.trans (b2.mono q.size)
  refine LL.val (R.assign rfl rfl) rfl rfl rfl ?_
  refine LL.nilS ?_
  refine CC.seq ?_
  refine CC.region ?_
  refine LL.val (R.load rfl rfl (I.ld1 rfl (RowL.cell r5 rfl))) rfl rfl rfl ?_
  refine LL.val (R.move rfl rfl) rfl rfl rfl ?_
  refine LL.val (R.func rfl rfl rfl) rfl rfl rfl ?_
  refine LL.call (R.call rfl rfl rfl) rfl rfl rfl (placeL_T _ _ _ _ (by first | assumption | omega) (by first | assumption | omega) (by first | assumption | omega) (by first | assumption | omega) (by first | assumption | omega)) ?_
  rintro e W' ⟨rfl, rfl⟩
  refine ⟨_, rfl, ?_⟩
  refine LL.val (R.assign rfl rfl) rfl rfl rfl ?_
  refine LL.nilS ?_
  refine CC.ret ?_
  refine EE.ret _ rfl rfl ?_
  exact ⟨rfl, q⟩
--C pmem_Memory_hasLine | hasLine_F _ _ _ @w @p @p @p @p | ⟨rfl, @b⟩
theorem hasLine_F (m N : Nat) (a : Int) {a0 : Option Addr} {c : Nat} {v2 v3 : Value} (w : World) (h : RowL w m 53 [.slice a0 N c, v2, v3]) (hN : N ≤ 16384) (h0 : 0 < N) (ha : a < 0 ∨ (N : Int) ≤ a) :
    Calls Try.prog 52 #[.pointer (some ⟨m, 0, none⟩), .int .i64 a] w fun e w' => e = .returned (.int .i64 4) ∧ Below w.heap.size w w' := by
  have q := Below.refl w.heap.size w
  refine X.fn Try.func52 rfl (n := 9) rfl rfl ?_
  refine CC.seq ?_
  refine CC.region ?_
  have l1 := h.lt
  refine LL.box [Value.pointer (some { block := m, off := 0 })] rfl rfl rfl rfl rfl ?_
  intro W3 g4 eg4 r5 z6 b2
  replace h := h.up b2
  replace q := q.trans (b2.mono q.size)
  refine LL.val (R.assign rfl rfl) rfl rfl rfl ?_
  refine LL.nilS ?_
  refine CC.seq ?_
  refine CC.region ?_
  refine LL.val (R.load rfl rfl (I.ld1 rfl (RowL.cell r5 rfl))) rfl rfl rfl ?_
  refine LL.val (R.move rfl rfl) rfl rfl rfl ?_
  refine LL.val (R.func rfl rfl rfl) rfl rfl rfl ?_
  refine LL.call (R.call rfl rfl rfl) rfl rfl rfl (placeL_F _ _ _ _ (by first | assumption | omega) (by first | assumption | omega) (by first | assumption | omega) (by first | assumption | omega) (by first | assumption | omega)) ?_
  rintro e W' ⟨rfl, rfl⟩
  refine ⟨_, rfl, ?_⟩
  refine LL.val (R.assign rfl rfl) rfl rfl rfl ?_
  refine LL.nilS ?_
  refine CC.ret ?_
  refine EE.ret _ rfl rfl ?_
  exact ⟨rfl, q⟩
/-- What a call of a memory keeps of what there was. -/
abbrev KM (w : World) (gn gl qb : Nat) (i : Nat) : Prop := i < w.heap.size ∧ i ≠ gn ∧ i ≠ gl ∧ i ≠ qb
theorem km_bel {w w' : World} {gn gl qb : Nat} (b : Below w.heap.size w w') : Kept (KM w gn gl qb) w w' := bkept b fun _ h => h.1
theorem km_gr {w w1 w2 : World} {gn gl qb g : Nat} (h : Kept (KM w gn gl qb) w w1) (hg : w1.grownBy w2 (some g)) (he : g = gn ∨ g = gl ∨ g = qb) : Kept (KM w gn gl qb) w w2 :=
  h.trans (grown_kept hg (fun j hj => by have := hj.1; have := h.size; omega) fun j hj e => by cases e; obtain ⟨_, h1, h2, h3⟩ := hj; omega)
theorem load_T (w : World) (m gn gl qb N j y : Nat) {s : List Cl} {c : Cl} (M : Mem w m gn gl qb N s) (hc : s[j / 8]? = some c) (hy : c.1.1[j % 8]? = some y) :
    Calls Try.prog 21 #[.pointer (some ⟨m, 0, none⟩), .int .i64 (j : Int)] w fun e w' => e = .returned (.tuple #[.int .u64 (y : Int), .int .i64 0]) ∧ Below w.heap.size w w' := by
  have q := Below.refl w.heap.size w
  have hr := M.row
  have hn := M.now
  have hl := M.len
  have h0 := M.pos
  have hN := M.le
  have hj := (List.getElem?_eq_some_iff.1 hc).1
  refine X.fn Try.func21 rfl (n := 18) rfl rfl ?_
  refine CC.seq ?_
  refine CC.region ?_
  refine LL.val (R.assign rfl rfl) rfl rfl rfl ?_
  refine LL.val (R.assign rfl rfl) rfl rfl rfl ?_
  refine LL.nilS ?_
  refine CC.seq ?_
  refine CC.seq ?_
  refine CC.region ?_
  refine LL.val (R.move rfl rfl) rfl rfl rfl ?_
  refine LL.val (R.move rfl rfl) rfl rfl rfl ?_
  refine LL.call (R.call rfl rfl rfl) rfl rfl rfl (hasWord_T _ _ _ _ (by first | assumption | omega) (by first | assumption | omega) (by first | assumption | omega) (by first | assumption | omega)) ?_
  rintro e W2 ⟨rfl, b1⟩
  refine ⟨_, rfl, ?_⟩
  have zb1 := b1.size
  replace M := M.up b1
  replace q := q.trans (b1.mono q.size)
  replace hr := hr.up b1
  replace hn := hn.up b1
  refine LL.val (R.assign rfl rfl) rfl rfl rfl ?_
  refine LL.nilS ?_
  refine CC.seq ?_
  refine CC.region ?_
  refine LL.val (R.move rfl rfl) rfl rfl rfl ?_
  refine LL.val (R.neF rfl rfl rfl (by omega)) rfl rfl rfl ?_
  refine LL.nilS ?_
  refine CC.no rfl ?_
  refine CC.skip ?_
  refine EE.thenN ?_
  refine CC.seq ?_
  refine CC.region ?_
  refine LL.val (R.move rfl rfl) rfl rfl rfl ?_
  refine LL.val (R.nil rfl rfl) rfl rfl rfl ?_
  refine LL.val (R.field rfl rfl (I.fld rfl)) rfl rfl rfl ?_
  refine LL.val (R.move rfl rfl) rfl rfl rfl ?_
  refine LL.call (R.call rfl rfl rfl) rfl rfl rfl (get_any _ _ _ _ _ (by first | assumption | omega) (by first | assumption | omega) (by first | assumption | omega) (by first | assumption | omega) (by first | assumption | omega) (by first | assumption | omega)) ?_
  rintro e W' ⟨rfl, rfl⟩
  refine ⟨_, rfl, ?_⟩
  refine LL.val (R.assign rfl rfl) rfl rfl rfl ?_
  refine LL.val (R.assign rfl rfl) rfl rfl rfl ?_
  refine LL.nilS ?_
  refine CC.ret ?_
  refine EE.ret _ rfl rfl ?_
  exact ⟨rfl, q⟩
theorem store_T (w : World) (m gn gl qb N j v : Nat) {s : List Cl} {c : Cl} (M : Mem w m gn gl qb N s) (hc : s[j / 8]? = some c) :
    Calls Try.prog 22 #[.pointer (some ⟨m, 0, none⟩), .int .i64 (j : Int), .int .u64 (v : Int)] w fun e w' => e = .returned (.int .i64 0) ∧ Mem w' m gn gl qb N (s.set (j / 8) (wrC c (j % 8) v)) ∧ Kept (KM w gn gl qb) w w' := by
  have q := Below.refl w.heap.size w
  have hr := M.row
  have hn := M.now
  have hl := M.len
  have h0 := M.pos
  have hN := M.le
  have hj := (List.getElem?_eq_some_iff.1 hc).1
  obtain ⟨n1, n2, n3, n4, n5, n6⟩ := M.ne
  refine X.fn Try.func22 rfl (n := 20) rfl rfl ?_
  refine CC.seq ?_
  refine CC.region ?_
  refine LL.val (R.assign rfl rfl) rfl rfl rfl ?_
  refine LL.nilS ?_
  refine CC.seq ?_
  refine CC.seq ?_
  refine CC.region ?_
  refine LL.val (R.move rfl rfl) rfl rfl rfl ?_
  refine LL.val (R.move rfl rfl) rfl rfl rfl ?_
  refine LL.call (R.call rfl rfl rfl) rfl rfl rfl (hasWord_T _ _ _ _ (by first | assumption | omega) (by first | assumption | omega) (by first | assumption | omega) (by first | assumption | omega)) ?_
  rintro e W2 ⟨rfl, b1⟩
  refine ⟨_, rfl, ?_⟩
  have zb1 := b1.size
  replace M := M.up b1
  replace q := q.trans (b1.mono q.size)
  replace hr := hr.up b1
  replace hn := hn.up b1
  refine LL.val (R.assign rfl rfl) rfl rfl rfl ?_
  refine LL.nilS ?_
  refine CC.seq ?_
  refine CC.region ?_
  refine LL.val (R.move rfl rfl) rfl rfl rfl ?_
  refine LL.val (R.neF rfl rfl rfl (by omega)) rfl rfl rfl ?_
  refine LL.nilS ?_
  refine CC.no rfl ?_
  refine CC.skip ?_
  refine EE.thenN ?_
  refine CC.seq ?_
  refine CC.region ?_
  refine LL.val (R.move rfl rfl) rfl rfl rfl ?_
  refine LL.val (R.nil rfl rfl) rfl rfl rfl ?_
  refine LL.val (R.field rfl rfl (I.fld rfl)) rfl rfl rfl ?_
  refine LL.val (R.move rfl rfl) rfl rfl rfl ?_
  refine LL.val (R.move rfl rfl) rfl rfl rfl ?_
  (refine LL.call (R.call rfl rfl rfl) rfl rfl rfl (put_any m gn N j v hr hn hl hN hc) ?_; rintro e W5 ⟨rfl, rn, g5, z5⟩; refine ⟨_, rfl, ?_⟩)
  refine LL.nilS ?_
  refine CC.seq ?_
  refine CC.region ?_
  refine LL.val (R.assign rfl rfl) rfl rfl rfl ?_
  refine LL.nilS ?_
  refine CC.ret ?_
  refine EE.ret _ rfl rfl ?_
  exact ⟨rfl, ⟨hr.gr g5 n1, rn, by rw [set_last (u := wrC c (j % 8) v) hc rfl]; exact M.last.gr g5 (Ne.symm n4), by rw [qF_set (u := wrC c (j % 8) v) hc rfl, nQ_set (u := wrC c (j % 8) v) hc rfl]; exact M.qs.gr g5 (Ne.symm n5), by rw [List.length_set]; exact hl, h0, hN, M.ne⟩, km_gr (km_bel q) g5 (.inl rfl)⟩
theorem store_F (w : World) (m gn gl qb N : Nat) (a v : Int) {s : List Cl} (M : Mem w m gn gl qb N s) (ha : a < 0 ∨ ((N * 8 : Nat) : Int) ≤ a) :
    Calls Try.prog 22 #[.pointer (some ⟨m, 0, none⟩), .int .i64 a, .int .u64 v] w fun e w' => e = .returned (.int .i64 4) ∧ Below w.heap.size w w' := by
  have q := Below.refl w.heap.size w
  have hr := M.row
  have h0 := M.pos
  have hN := M.le
  refine X.fn Try.func22 rfl (n := 20) rfl rfl ?_
  refine CC.seq ?_
  refine CC.region ?_
  refine LL.val (R.assign rfl rfl) rfl rfl rfl ?_
  refine LL.nilS ?_
  refine CC.seq ?_
  refine CC.seq ?_
  refine CC.region ?_
  refine LL.val (R.move rfl rfl) rfl rfl rfl ?_
  refine LL.val (R.move rfl rfl) rfl rfl rfl ?_
  refine LL.call (R.call rfl rfl rfl) rfl rfl rfl (hasWord_F _ _ _ _ (by first | assumption | omega) (by first | assumption | omega) (by first | assumption | omega) (by first | assumption | omega)) ?_
  rintro e W2 ⟨rfl, b1⟩
  refine ⟨_, rfl, ?_⟩
  have zb1 := b1.size
  replace M := M.up b1
  replace q := q.trans (b1.mono q.size)
  replace hr := hr.up b1
  refine LL.val (R.assign rfl rfl) rfl rfl rfl ?_
  refine LL.nilS ?_
  refine CC.seq ?_
  refine CC.region ?_
  refine LL.val (R.move rfl rfl) rfl rfl rfl ?_
  refine LL.val (R.neT rfl rfl rfl (by omega)) rfl rfl rfl ?_
  refine LL.nilS ?_
  refine CC.yes rfl ?_
  refine CC.seq ?_
  refine CC.region ?_
  refine LL.val (R.move rfl rfl) rfl rfl rfl ?_
  refine LL.val (R.assign rfl rfl) rfl rfl rfl ?_
  refine LL.nilS ?_
  refine CC.ret ?_
  refine EE.thenR ?_
  refine EE.ret _ rfl rfl ?_
  exact ⟨rfl, q⟩
theorem flush_F (w : World) (m gn gl qb N : Nat) (a : Int) {s : List Cl} (M : Mem w m gn gl qb N s) (ha : a < 0 ∨ (N : Int) ≤ a) :
    Calls Try.prog 23 #[.pointer (some ⟨m, 0, none⟩), .int .i64 a] w fun e w' => e = .returned (.int .i64 4) ∧ Below w.heap.size w w' := by
  have q := Below.refl w.heap.size w
  have hr := M.row
  have h0 := M.pos
  have hN := M.le
  refine X.fn Try.func23 rfl (n := 25) rfl rfl ?_
  refine CC.seq ?_
  refine CC.region ?_
  refine LL.val (R.assign rfl rfl) rfl rfl rfl ?_
  refine LL.nilS ?_
  refine CC.seq ?_
  refine CC.seq ?_
  refine CC.region ?_
  refine LL.val (R.move rfl rfl) rfl rfl rfl ?_
  refine LL.val (R.move rfl rfl) rfl rfl rfl ?_
  refine LL.call (R.call rfl rfl rfl) rfl rfl rfl (hasLine_F _ _ _ _ (by first | assumption | omega) (by first | assumption | omega) (by first | assumption | omega) (by first | assumption | omega)) ?_
  rintro e W2 ⟨rfl, b1⟩
  refine ⟨_, rfl, ?_⟩
  have zb1 := b1.size
  replace M := M.up b1
  replace q := q.trans (b1.mono q.size)
  replace hr := hr.up b1
  refine LL.val (R.assign rfl rfl) rfl rfl rfl ?_
  refine LL.nilS ?_
  refine CC.seq ?_
  refine CC.region ?_
  refine LL.val (R.move rfl rfl) rfl rfl rfl ?_
  refine LL.val (R.neT rfl rfl rfl (by omega)) rfl rfl rfl ?_
  refine LL.nilS ?_
  refine CC.yes rfl ?_
  refine CC.seq ?_
  refine CC.region ?_
  refine LL.val (R.move rfl rfl) rfl rfl rfl ?_
  refine LL.val (R.assign rfl rfl) rfl rfl rfl ?_
  refine LL.nilS ?_
  refine CC.ret ?_
  refine EE.thenR ?_
  refine EE.ret _ rfl rfl ?_
  exact ⟨rfl, q⟩
theorem evict_F (w : World) (m gn gl qb N : Nat) (a : Int) {s : List Cl} (M : Mem w m gn gl qb N s) (ha : a < 0 ∨ (N : Int) ≤ a) :
    Calls Try.prog 25 #[.pointer (some ⟨m, 0, none⟩), .int .i64 a] w fun e w' => e = .returned (.int .i64 4) ∧ Below w.heap.size w w' := by
  have q := Below.refl w.heap.size w
  have hr := M.row
  have h0 := M.pos
  have hN := M.le
  refine X.fn Try.func25 rfl (n := 31) rfl rfl ?_
  refine CC.seq ?_
  refine CC.region ?_
  refine LL.val (R.assign rfl rfl) rfl rfl rfl ?_
  refine LL.nilS ?_
  refine CC.seq ?_
  refine CC.seq ?_
  refine CC.region ?_
  refine LL.val (R.move rfl rfl) rfl rfl rfl ?_
  refine LL.val (R.move rfl rfl) rfl rfl rfl ?_
  refine LL.call (R.call rfl rfl rfl) rfl rfl rfl (hasLine_F _ _ _ _ (by first | assumption | omega) (by first | assumption | omega) (by first | assumption | omega) (by first | assumption | omega)) ?_
  rintro e W2 ⟨rfl, b1⟩
  refine ⟨_, rfl, ?_⟩
  have zb1 := b1.size
  replace M := M.up b1
  replace q := q.trans (b1.mono q.size)
  replace hr := hr.up b1
  refine LL.val (R.assign rfl rfl) rfl rfl rfl ?_
  refine LL.nilS ?_
  refine CC.seq ?_
  refine CC.region ?_
  refine LL.val (R.move rfl rfl) rfl rfl rfl ?_
  refine LL.val (R.neT rfl rfl rfl (by omega)) rfl rfl rfl ?_
  refine LL.nilS ?_
  refine CC.yes rfl ?_
  refine CC.seq ?_
  refine CC.region ?_
  refine LL.val (R.move rfl rfl) rfl rfl rfl ?_
  refine LL.val (R.assign rfl rfl) rfl rfl rfl ?_
  refine LL.nilS ?_
  refine CC.ret ?_
  refine EE.thenR ?_
  refine EE.ret _ rfl rfl ?_
  exact ⟨rfl, q⟩
theorem flush_T (w : World) (m gn gl qb N i : Nat) {s : List Cl} {c : Cl} (M : Mem w m gn gl qb N s) (hc : s[i]? = some c) :
    Calls Try.prog 23 #[.pointer (some ⟨m, 0, none⟩), .int .i64 (i : Int)] w fun e w' => e = .returned (.int .i64 0) ∧ Mem w' m gn gl qb N (s.set i (flC c)) ∧ Kept (KM w gn gl qb) w w' := by
  have q := Below.refl w.heap.size w
  have hr := M.row
  have hq := M.qs
  have hl := M.len
  have h0 := M.pos
  have hN := M.le
  have hi := (List.getElem?_eq_some_iff.1 hc).1
  have cs : CellsN w ⟨gn, 0 + i * 8, none⟩ 8 (nowE c) := by rw [Nat.zero_add]; exact M.now.elemN nowEnc hc
  obtain ⟨n1, n2, n3, n4, n5, n6⟩ := M.ne
  refine X.fn Try.func23 rfl (n := 25) rfl rfl ?_
  refine CC.seq ?_
  refine CC.region ?_
  refine LL.val (R.assign rfl rfl) rfl rfl rfl ?_
  refine LL.nilS ?_
  refine CC.seq ?_
  refine CC.seq ?_
  refine CC.region ?_
  refine LL.val (R.move rfl rfl) rfl rfl rfl ?_
  refine LL.val (R.move rfl rfl) rfl rfl rfl ?_
  refine LL.call (R.call rfl rfl rfl) rfl rfl rfl (hasLine_T _ _ _ _ (by first | assumption | omega) (by first | assumption | omega) (by first | assumption | omega) (by first | assumption | omega)) ?_
  rintro e W2 ⟨rfl, b1⟩
  refine ⟨_, rfl, ?_⟩
  have zb1 := b1.size
  replace M := M.up b1
  replace q := q.trans (b1.mono q.size)
  replace hr := hr.up b1
  replace hq := hq.up b1
  replace cs := cs.up b1
  refine LL.val (R.assign rfl rfl) rfl rfl rfl ?_
  refine LL.nilS ?_
  refine CC.seq ?_
  refine CC.region ?_
  refine LL.val (R.move rfl rfl) rfl rfl rfl ?_
  refine LL.val (R.neF rfl rfl rfl (by omega)) rfl rfl rfl ?_
  refine LL.nilS ?_
  refine CC.no rfl ?_
  refine CC.skip ?_
  refine EE.thenN ?_
  refine CC.seq ?_
  refine CC.tailB 13 (by kernel_rfl) (by kernel_rfl) (fun W5 b4 z6 => ?_)
  replace b1 := b1.trans (b4.mono b1.size)
  replace M := M.up b4
  replace q := q.trans (b4.mono q.size)
  replace hr := hr.up b4
  replace hq := hq.up b4
  replace cs := cs.up b4
  refine SS.val (R.move rfl rfl) rfl rfl ?_
  refine SS.val (R.nil rfl rfl) rfl rfl ?_
  refine SS.val (R.field rfl rfl (I.fld rfl)) rfl rfl ?_
  refine SS.val (R.load rfl rfl (I.ld1 rfl (RowL.cell hr rfl))) rfl rfl ?_
  refine SS.val (R.move rfl rfl) rfl rfl ?_
  refine SS.val (R.move rfl rfl) rfl rfl ?_
  refine SS.val (R.nil rfl rfl) rfl rfl ?_
  refine SS.val (R.field rfl rfl (I.fld rfl)) rfl rfl ?_
  refine SS.val (R.field rfl rfl (I.fld rfl)) rfl rfl ?_
  refine SS.val (R.load rfl rfl (I.ld1 rfl (RowL.cell hr rfl))) rfl rfl ?_
  refine SS.val (R.move rfl rfl) rfl rfl ?_
  refine SS.val (R.index rfl rfl rfl (I.ixS rfl (by omega))) rfl rfl ?_
  refine SS.val (R.load rfl rfl (I.ldM (by assumption) rfl rfl)) rfl rfl ?_
  refine SS.nil ?_
  (refine LL.mput (.inl rfl) rfl iKeys rfl hq i c.1 rfl rfl rfl rfl rfl ?_; intro W5 mq g5 z5)
  refine LL.nilS ?_
  refine CC.seq ?_
  refine CC.region ?_
  refine LL.val (R.assign rfl rfl) rfl rfl rfl ?_
  refine LL.nilS ?_
  refine CC.ret ?_
  refine EE.ret _ rfl rfl ?_
  exact ⟨rfl, ⟨hr.gr g5 n3, by rw [set_now (u := flC c) hc rfl]; exact M.now.gr g5 n5, by rw [set_last (u := flC c) hc rfl]; exact M.last.gr g5 n6, by rw [← nQ_puts (u := flC c) hc rfl, ← qF_put (u := flC c) hc rfl]; exact mq, by rw [List.length_set]; exact hl, h0, hN, M.ne⟩, km_gr (km_bel q) g5 (.inr (.inr rfl))⟩
theorem evict_T (w : World) (m gn gl qb N i : Nat) {s : List Cl} {c : Cl} (M : Mem w m gn gl qb N s) (hc : s[i]? = some c) :
    Calls Try.prog 25 #[.pointer (some ⟨m, 0, none⟩), .int .i64 (i : Int)] w fun e w' => e = .returned (.int .i64 0) ∧ Mem w' m gn gl qb N (s.set i (evC c)) ∧ Kept (KM w gn gl qb) w w' := by
  have q := Below.refl w.heap.size w
  have hr := M.row
  have hq := M.qs
  have ha := M.last
  have hl := M.len
  have h0 := M.pos
  have hN := M.le
  have hi := (List.getElem?_eq_some_iff.1 hc).1
  have cs : CellsN w ⟨gn, 0 + i * 8, none⟩ 8 (nowE c) := by rw [Nat.zero_add]; exact M.now.elemN nowEnc hc
  obtain ⟨n1, n2, n3, n4, n5, n6⟩ := M.ne
  refine X.fn Try.func25 rfl (n := 31) rfl rfl ?_
  refine CC.seq ?_
  refine CC.region ?_
  refine LL.val (R.assign rfl rfl) rfl rfl rfl ?_
  refine LL.nilS ?_
  refine CC.seq ?_
  refine CC.seq ?_
  refine CC.region ?_
  refine LL.val (R.move rfl rfl) rfl rfl rfl ?_
  refine LL.val (R.move rfl rfl) rfl rfl rfl ?_
  refine LL.call (R.call rfl rfl rfl) rfl rfl rfl (hasLine_T _ _ _ _ (by first | assumption | omega) (by first | assumption | omega) (by first | assumption | omega) (by first | assumption | omega)) ?_
  rintro e W2 ⟨rfl, b1⟩
  refine ⟨_, rfl, ?_⟩
  have zb1 := b1.size
  replace M := M.up b1
  replace q := q.trans (b1.mono q.size)
  replace hr := hr.up b1
  replace hq := hq.up b1
  replace ha := ha.up b1
  replace cs := cs.up b1
  refine LL.val (R.assign rfl rfl) rfl rfl rfl ?_
  refine LL.nilS ?_
  refine CC.seq ?_
  refine CC.region ?_
  refine LL.val (R.move rfl rfl) rfl rfl rfl ?_
  refine LL.val (R.neF rfl rfl rfl (by omega)) rfl rfl rfl ?_
  refine LL.nilS ?_
  refine CC.no rfl ?_
  refine CC.skip ?_
  refine EE.thenN ?_
  refine CC.seq ?_
  refine CC.tailB 14 (by kernel_rfl) (by kernel_rfl) (fun W5 b4 z6 => ?_)
  replace b1 := b1.trans (b4.mono b1.size)
  replace M := M.up b4
  replace q := q.trans (b4.mono q.size)
  replace hr := hr.up b4
  replace hq := hq.up b4
  replace ha := ha.up b4
  replace cs := cs.up b4
  refine SS.val (R.move rfl rfl) rfl rfl ?_
  refine SS.val (R.nil rfl rfl) rfl rfl ?_
  refine SS.val (R.field rfl rfl (I.fld rfl)) rfl rfl ?_
  refine SS.val (R.load rfl rfl (I.ld1 rfl (RowL.cell hr rfl))) rfl rfl ?_
  refine SS.val (R.move rfl rfl) rfl rfl ?_
  refine SS.val (R.move rfl rfl) rfl rfl ?_
  refine SS.val (R.nil rfl rfl) rfl rfl ?_
  refine SS.val (R.field rfl rfl (I.fld rfl)) rfl rfl ?_
  refine SS.val (R.field rfl rfl (I.fld rfl)) rfl rfl ?_
  refine SS.val (R.load rfl rfl (I.ld1 rfl (RowL.cell hr rfl))) rfl rfl ?_
  refine SS.val (R.move rfl rfl) rfl rfl ?_
  refine SS.val (R.index rfl rfl rfl (I.ixS rfl (by omega))) rfl rfl ?_
  refine SS.val (R.load rfl rfl (I.ldM (by assumption) rfl rfl)) rfl rfl ?_
  refine SS.val (R.index rfl rfl rfl (I.ixS rfl (by omega))) rfl rfl ?_
  refine SS.nil ?_
  (refine LL.storeR i (evC c) rfl rfl (by show 0 + i * 8 = i * 8; omega) rfl rfl lastEnc ha hi rfl rfl ?_; intro W5 ra g5 z5; replace hr := hr.gr g5 n2; replace hq := hq.gr g5 (Ne.symm n6))
  refine LL.nilS ?_
  refine CC.seq ?_
  refine CC.region ?_
  refine LL.val (R.move rfl rfl) rfl rfl rfl ?_
  refine LL.val (R.nil rfl rfl) rfl rfl rfl ?_
  refine LL.val (R.field rfl rfl (I.fld rfl)) rfl rfl rfl ?_
  refine LL.val (R.load rfl rfl (I.ld1 rfl (RowL.cell hr rfl))) rfl rfl rfl ?_
  refine LL.val (R.move rfl rfl) rfl rfl rfl ?_
  (refine LL.mdel rfl iKeys i rfl rfl hq rfl rfl ?_; intro W6 mq g6 z6)
  refine LL.nilS ?_
  refine CC.seq ?_
  refine CC.region ?_
  refine LL.val (R.assign rfl rfl) rfl rfl rfl ?_
  refine LL.nilS ?_
  refine CC.ret ?_
  refine EE.ret _ rfl rfl ?_
  exact ⟨rfl, ⟨hr.gr g6 n3, by rw [set_now (u := evC c) hc rfl]; exact (M.now.gr g5 n4).gr g6 n5, ra.gr g6 n6, by rw [← nQ_del (u := evC c) hc rfl, ← qF_put (u := evC c) hc rfl]; exact mq, by rw [List.length_set]; exact hl, h0, hN, M.ne⟩, km_gr (km_gr (km_bel q) g5 (.inr (.inl rfl))) g6 (.inr (.inr rfl))⟩
theorem info_parts_t {P : Program} {T e : TypeId} {z : Value} {k bytes : Nat} (hu : P.underlying T = some (.slice e)) (h : (P.info? e).map (fun i => (i.zero, i.size, i.bytes)) = some (some z, k, bytes)) (hz : z.cells.size = k) : ElT P T e z k bytes := by
  refine ⟨hu, ?_, hz⟩
  cases hi : P.info? e with
  | none => rw [hi] at h; cases h
  | some i =>
    rw [hi] at h
    simp only [Option.map_some, Option.some.injEq, Prod.mk.injEq] at h
    exact ⟨i, rfl, h.1, h.2.1, h.2.2⟩

theorem Try.infoLn : (Try.prog.info? 79).map (fun i => (i.zero, i.size, i.bytes)) = some (some (lV zL), 8, 64) := by kernel_rfl
theorem ElLn : ElT Try.prog 48 79 (lV zL) 8 64 := info_parts_t Try.underlying48 Try.infoLn rfl
theorem Try.infoU : (Try.prog.info? 37).map (fun i => (i.zero, i.size, i.bytes)) = some (some (.int .u64 0), 1, 8) := by kernel_rfl
theorem ElU : ElT Try.prog 22 37 (.int .u64 0) 1 8 := info_parts_t Try.underlying22 Try.infoU rfl
theorem ElU1 : El Try.prog 22 37 (.int .u64 0) 8 := ⟨Try.underlying22, info_parts Try.infoU, rfl⟩
set_option maxRecDepth 100000
set_option maxHeartbeats 2000000
theorem moved_any {α : Type} {enc : α → List Value} (E : Enc enc 8) (g N : Nat) (s : List α) (w : World) (h : RowL w g 79 (s.flatMap enc)) (hl : s.length = N) (hN : N ≤ 16384) :
    Calls Try.prog 36 #[.slice (some ⟨g, 0, none⟩) N N] w fun e w' => ∃ g', e = .returned (.slice (some ⟨g', 0, none⟩) N N) ∧ RowL w' g' 79 (s.flatMap enc) ∧ w.heap.size ≤ g' ∧ g' < w'.heap.size ∧ Below w.heap.size w w' := by
  have q := Below.refl w.heap.size w
  have hfl := E.flat s
  have cs : CellsN w ⟨g, 0, none⟩ (N * 8) (s.flatMap enc) := h.cellsN (by rw [List.drop_zero, List.take_of_length_le (by omega)]) (by omega)
  have hg := h.lt
  refine X.fn Try.func36 rfl (n := 11) rfl rfl ?_
  refine CC.seq ?_
  refine CC.region ?_
  refine LL.val (R.assign rfl rfl) rfl rfl rfl ?_
  refine LL.nilS ?_
  refine CC.seq ?_
  refine CC.region ?_
  refine LL.val (R.move rfl rfl) rfl rfl rfl ?_
  refine LL.val (R.len rfl rfl rfl rfl) rfl rfl rfl ?_
  have l32 := h.lt
  (refine LL.makeE ElLn rfl (by decide) rfl rfl rfl (Nat.le_refl _) (by omega) (by omega) rfl rfl ?_; intro W31 g1 eg1 r1 zg1 b28)
  have zb28 := b28.size
  replace h := h.up b28
  replace q := q.trans (b28.mono q.size)
  replace cs := cs.up b28
  refine LL.val (R.assign rfl rfl) rfl rfl rfl ?_
  refine LL.nilS ?_
  refine CC.seq ?_
  refine CC.region ?_
  refine LL.val (R.move rfl rfl) rfl rfl rfl ?_
  refine LL.val (R.move rfl rfl) rfl rfl rfl ?_
  (refine LL.copyE rfl rfl ElLn r1 cs (by simp [zL]) (E.ones s) rfl rfl ?_; intro W72 r2 gr70 zr2; clear r1)
  have zgr70 := gr70.size
  replace b28 := b28.grown gr70 b28.size (by rintro k ⟨⟩; omega)
  replace h := h.gr gr70 (by have := h.lt; omega)
  replace q := q.grown gr70 q.size (by rintro k ⟨⟩; omega)
  replace cs := cs.gr gr70 (by have := cs.lt; omega)
  refine LL.nilS ?_
  refine CC.seq ?_
  refine CC.region ?_
  refine LL.val (R.move rfl rfl) rfl rfl rfl ?_
  refine LL.val (R.assign rfl rfl) rfl rfl rfl ?_
  refine LL.nilS ?_
  refine CC.ret ?_
  refine EE.ret _ rfl rfl ?_
  exact ⟨g1, rfl, r2, by omega, r2.lt, q⟩
def uE (x : Nat) : List Value := [.int .u64 (x : Int)]
theorem uEnc : Enc uE 1 := ⟨fun _ => rfl, fun t u hu => by
  simp only [uE, List.mem_cons, List.not_mem_nil, or_false] at hu
  subst hu
  rfl, by decide⟩
theorem flat_u (ws : List Nat) : ws.flatMap uE = ints .u64 ws := by
  induction ws with
  | nil => rfl
  | cons x ws ih => rw [List.flatMap_cons, ih]; rfl
/-- The words of lines. -/
def wdS (pr : Cl → Ln) (s : List Cl) : List Nat := s.flatMap fun c => (pr c).1
theorem wdS_len (pr : Cl → Ln) (s : List Cl) : (wdS pr s).length = s.length * 8 := by
  induction s with
  | nil => rfl
  | cons c s ih => unfold wdS at *; rw [List.flatMap_cons, List.length_append, ih, (pr c).2, List.length_cons]; omega
theorem wdS_succ (pr : Cl → Ln) {s : List Cl} {i : Nat} {c : Cl} (hc : s[i]? = some c) : wdS pr (s.take (i + 1)) = wdS pr (s.take i) ++ (pr c).1 := by
  unfold wdS
  rw [List.take_add_one, hc, List.flatMap_append]
  simp
theorem prEnc (pr : Cl → Ln) : Enc (fun c => lE (pr c)) 8 := ⟨fun _ => lE_len _, fun _ => lE_one _, by decide⟩
theorem ln_reads {x : Ln} {w : World} {g e : Nat} (h : RowL w g e (lE x)) : ReadsT uE 1 w (.slice (some ⟨g, 0, none⟩) 8 8) x.1 := by
  have := RowL.readsT uEnc (ts := x.1) (by rw [flat_u]; exact h) 8 (by rw [x.2]; omega)
  rw [x.2] at this
  exact this
theorem ln_cells {x : Ln} {w : World} {g e : Nat} (h : RowL w g e (lE x)) : CellsN w ⟨g, 0, none⟩ 8 (lE x) := h.cellsN (by rw [List.drop_zero, List.take_of_length_le (by rw [lE_len]; omega)]) (by rw [lE_len]; omega)
theorem flat_any (pr : Cl → Ln) (g N : Nat) (s : List Cl) (w : World) (h : RowL w g 79 (s.flatMap fun c => lE (pr c))) (hl : s.length = N) (hN : N ≤ 16384) :
    Calls Try.prog 54 #[.slice (some ⟨g, 0, none⟩) N N] w fun e w' => ∃ v, e = .returned v ∧ ReadsT uE 1 w' v (wdS pr s) ∧ Below w.heap.size w w' := by
  have q := Below.refl w.heap.size w
  have hh : ∀ W, Below w.heap.size w W → RowL W g 79 (s.flatMap fun c => lE (pr c)) := fun W b => h.below b h.lt
  clear h
  refine X.fn Try.func54 rfl (n := 21) rfl rfl ?_
  refine CC.seq ?_
  refine CC.region ?_
  refine LL.val (R.assign rfl rfl) rfl rfl rfl ?_
  refine LL.nilS ?_
  refine CC.seq ?_
  refine CC.region ?_
  refine LL.val (R.move rfl rfl) rfl rfl rfl ?_
  refine LL.val (R.len rfl rfl rfl rfl) rfl rfl rfl ?_
  refine LL.val (R.mulNc rfl rfl rfl rfl (by omega)) rfl rfl rfl ?_
  (refine LL.make (l := 0) (m := N * 8) ElU1 rfl rfl rfl (by omega) (by omega) (by omega) rfl rfl ?_; intro W20 g1 eg1 r1 zg1 b17)
  have zb17 := b17.size
  replace q := q.trans (b17.mono q.size)
  refine LL.val (R.assign rfl rfl) rfl rfl rfl ?_
  refine LL.nilS ?_
  refine CC.seq ?_
  refine CC.seq ?_
  refine CC.region ?_
  refine LL.val (R.move rfl rfl) rfl rfl rfl ?_
  refine LL.val (R.len rfl rfl rfl rfl) rfl rfl rfl ?_
  refine LL.val (R.move rfl rfl) rfl rfl rfl ?_
  refine LL.nilS ?_
  refine CC.block ?_
  have o := r1.own0 (enc := uE) (k := 1) (base := w.heap.size) (cap := N * 8) (by simp) (by omega) (by simp only [maxLen]; omega)
  have yq := q.size
  refine CC.loop (α := Nat) (fun i => [(3, .slice (some ⟨g1, 0, none⟩) (i * 8) (N * 8)), (10, .slice (some ⟨g, 0, none⟩) N N), (11, .int .i64 (N : Int)), (12, .int .i64 (i : Int))]) (fun i W => i ≤ N ∧ Below w.heap.size w W ∧ g1 < W.heap.size ∧ OwnsT uE 1 W w.heap.size 37 (.slice (some ⟨g1, 0, none⟩) (i * 8) (N * 8)) (wdS pr (s.take i))) (fun i => N - i) 0 ⟨by first | rfl | (rw [Nat.zero_mul]; rfl), rfl, rfl, rfl, trivial⟩ ⟨by show 0 ≤ N; omega, q, by omega, by rw [Nat.zero_mul]; exact o⟩ ?_
  clear r1 o q
  rintro i W ⟨hi, q, hg1, o⟩
  show CC none Try.prog _ 21 [] (sl [(3, .slice (some ⟨g1, 0, none⟩) (i * 8) (N * 8)), (10, .slice (some ⟨g, 0, none⟩) N N), (11, .int .i64 (N : Int)), (12, .int .i64 (i : Int))]) _ W
  by_cases hlt : i < N
  case neg =>
    obtain rfl : i = N := by omega
    rw [List.take_of_length_le (by omega)] at o
    refine CC.seq ?_
    refine CC.region ?_
    refine LL.val (R.ltF rfl rfl rfl (by omega)) rfl rfl rfl ?_
    refine LL.nilS ?_
    refine CC.seq ?_
    refine CC.no rfl ?_
    refine CC.exit ?_
    refine EE.thenX ?_
    refine EE.thenX ?_
    refine EE.inX ?_
    refine EE.thenN ?_
    refine CC.seq ?_
    refine CC.region ?_
    refine LL.val (R.move rfl rfl) rfl rfl rfl ?_
    refine LL.val (R.assign rfl rfl) rfl rfl rfl ?_
    refine LL.nilS ?_
    refine CC.ret ?_
    refine EE.ret _ rfl rfl ?_
    exact ⟨_, rfl, o.reads uEnc, q⟩
  obtain ⟨c, hc⟩ : ∃ c, s[i]? = some c := ⟨_, List.getElem?_eq_getElem (by omega)⟩
  have cs : CellsN W ⟨g, 0 + i * 8, none⟩ 8 (lE (pr c)) := by rw [Nat.zero_add]; exact RowL.elemN (enc := fun c => lE (pr c)) (x := c) (prEnc pr) (hh W q) hc
  have hp := (pr c).2
  have hs := wdS_succ pr hc
  refine CC.seq ?_
  refine CC.region ?_
  refine LL.val (R.ltT rfl rfl rfl (by omega)) rfl rfl rfl ?_
  refine LL.nilS ?_
  refine CC.seq ?_
  refine CC.yes rfl ?_
  refine CC.skip ?_
  refine EE.thenN ?_
  refine CC.seq ?_
  refine CC.block ?_
  refine CC.seq ?_
  refine CC.region ?_
  refine LL.val (R.index rfl rfl rfl (I.ixS rfl (by omega))) rfl rfl rfl ?_
  refine LL.val (R.load rfl rfl (I.ldM (by assumption) rfl rfl)) rfl rfl rfl ?_
  refine LL.alloc ([Value.int IntKind.u64 0, Value.int IntKind.u64 0, Value.int IntKind.u64 0, Value.int IntKind.u64 0, Value.int IntKind.u64 0, Value.int IntKind.u64 0, Value.int IntKind.u64 0, Value.int IntKind.u64 0]) rfl rfl rfl rfl rfl ?_
  intro Wb34 gb35 egb35 rb36 zb37 bb33
  replace q := q.trans (bb33.mono q.size)
  replace o := o.up bb33
  replace cs := cs.up bb33
  (refine LL.storeAll rfl rfl rfl rfl (lE_len _) (by assumption) rfl (lE_one _) rfl rfl ?_; intro Wb41 r5 grb39 z5)
  have zgrb39 := grb39.size
  replace bb33 := bb33.grown grb39 bb33.size (by rintro k ⟨⟩; omega)
  replace q := q.grown grb39 q.size (by rintro k ⟨⟩; omega)
  replace o := o.grown grb39 (fun e => by simp [Value.ownBlock] at e; omega)
  refine LL.nilS ?_
  refine CC.region ?_
  refine LL.val (R.move rfl rfl) rfl rfl rfl ?_
  refine LL.val (R.slice rfl rfl rfl rfl rfl (I.slA rfl)) rfl rfl rfl ?_
  (refine LL.appendF rfl rfl uEnc ElU o (ln_reads r5) 8 hp (by omega) (by omega) rfl rfl ?_; intro Wb65 o2 grb63)
  have zgrb63 := grb63.size
  replace r5 := r5.gr grb63 (by have := r5.lt; omega)
  replace q := q.grown grb63 q.size (by rintro k ⟨⟩; omega)
  refine LL.val (R.assign rfl rfl) rfl rfl rfl ?_
  refine LL.nil ?_
  refine EE.inN ?_
  refine EE.thenN ?_
  refine CC.region ?_
  refine LL.val (R.addNc rfl rfl rfl rfl (by omega)) rfl rfl rfl ?_
  refine LL.val (R.move rfl rfl) rfl rfl rfl ?_
  refine LL.nil ?_
  exact EE.round (i + 1) ⟨by show some (Value.slice _ (i * 8 + 8) _) = some (Value.slice _ ((i + 1) * 8) _); rw [Nat.add_mul], rfl, rfl, rfl, trivial⟩ ⟨by show i + 1 ≤ N; omega, q, by omega, by rw [hs, Nat.add_mul, Nat.one_mul]; exact o2⟩ (by show N - (i + 1) < N - i; omega)
/-- A line that stands, and lasts. -/
def nwC (x : Ln) : Cl := (x, x, none)
theorem nw_now (ls : List Ln) : (ls.map nwC).flatMap nowE = ls.flatMap lE := by
  rw [List.flatMap_map]; rfl
theorem nw_last (ls : List Ln) : (ls.map nwC).flatMap lastE = ls.flatMap lE := by
  rw [List.flatMap_map]; rfl
theorem nw_q (ls : List Ln) : qF (ls.map nwC) = fun _ => none := by
  funext i
  unfold qF
  rw [List.getElem?_map]
  cases ls[i]? <;> rfl
theorem nw_n (ls : List Ln) : nQ (ls.map nwC) = 0 := by
  unfold nQ
  rw [List.countP_map]
  induction ls with
  | nil => rfl
  | cons x ls ih => rw [List.countP_cons, ih]; rfl
set_option maxRecDepth 100000
set_option maxHeartbeats 2000000
theorem on_any (g N : Nat) (ls : List Ln) (w : World) (h : RowL w g 79 (ls.flatMap lE)) (hl : ls.length = N) (hN : N ≤ 16384) (h0 : 0 < N) :
    Calls Try.prog 48 #[.slice (some ⟨g, 0, none⟩) N N] w fun e w' => ∃ m gl qb, e = .returned (.pointer (some ⟨m, 0, none⟩)) ∧ Mem w' m g gl qb N (ls.map nwC) ∧ w.heap.size ≤ m ∧ w.heap.size ≤ gl ∧ w.heap.size ≤ qb ∧ Below w.heap.size w w' := by
  have q := Below.refl w.heap.size w
  have hg := h.lt
  refine X.fn Try.func48 rfl (n := 10) rfl rfl ?_
  refine CC.seq ?_
  refine CC.region ?_
  refine LL.val (R.assign rfl rfl) rfl rfl rfl ?_
  refine LL.nilS ?_
  refine CC.seq ?_
  refine CC.region ?_
  refine LL.val (R.move rfl rfl) rfl rfl rfl ?_
  refine LL.val (R.buildV rfl rfl (v := .agg #[Value.slice (some { block := g, off := 0 }) N N]) (fun _ => by kernel_rfl)) rfl rfl rfl ?_
  refine LL.val (R.move rfl rfl) rfl rfl rfl ?_
  refine LL.call (R.call rfl rfl rfl) rfl rfl rfl (moved_any lEnc _ _ _ _ (by first | assumption | omega) (by first | assumption | omega) (by first | assumption | omega)) ?_
  rintro e W27 ⟨g28, rfl, r29, l30, o31, b26⟩
  refine ⟨_, rfl, ?_⟩
  have zb26 := b26.size
  replace h := h.up b26
  replace q := q.trans (b26.mono q.size)
  have l37 := r29.lt
  have l38 := h.lt
  (refine LL.makeMap (R.makeMap0 rfl) rfl rfl rfl ?_; intro W36 qb eqb mk zqb b33; replace mk := mk Nat Ln (.int .i64) iK lV)
  have zb33 := b33.size
  replace r29 := r29.up b33
  replace b26 := b26.trans (b33.mono b26.size)
  replace h := h.up b33
  replace q := q.trans (b33.mono q.size)
  refine LL.val (R.buildV rfl rfl (v := .agg #[Value.slice (some { block := g, off := 0 }) N N, Value.slice (some { block := g28, off := 0 }) N N, Value.map (some qb)]) (fun _ => by kernel_rfl)) rfl rfl rfl ?_
  have l51 := r29.lt
  have l52 := h.lt
  refine LL.box [Value.slice (some { block := g, off := 0 }) N N, Value.slice (some { block := g28, off := 0 }) N N, Value.map (some qb)] rfl rfl rfl rfl rfl ?_
  intro W54 g55 eg55 r56 z57 b53
  replace b33 := b33.trans (b53.mono b33.size)
  replace mk := mk.up b53
  replace r29 := r29.up b53
  replace b26 := b26.trans (b53.mono b26.size)
  replace h := h.up b53
  replace q := q.trans (b53.mono q.size)
  refine LL.val (R.assign rfl rfl) rfl rfl rfl ?_
  refine LL.nilS ?_
  refine CC.ret ?_
  refine EE.ret _ rfl rfl ?_
  exact ⟨_, _, _, rfl, ⟨by assumption, by rw [nw_now]; exact h, by rw [nw_last]; assumption, by rw [nw_q, nw_n]; exact mk, by rw [List.length_map]; exact hl, h0, hN, by omega⟩, by omega, by omega, by omega, q⟩
theorem flat_rep (N : Nat) : (List.replicate N (ints .u64 zL.1)).flatten = (List.replicate N zL).flatMap lE := by
  unfold List.flatMap lE
  rw [List.map_replicate]
theorem new_T (N : Nat) (a : Int) (w : World) (ha : a = ((N * 8 : Nat) : Int)) (h0 : 0 < N) (hN : N ≤ 16384) :
    Calls Try.prog 20 #[.int .i64 a] w fun e w' => ∃ m gn gl qb, e = .returned (.tuple #[.pointer (some ⟨m, 0, none⟩), .int .i64 0]) ∧ Mem w' m gn gl qb N ((List.replicate N zL).map nwC) ∧ w.heap.size ≤ m ∧ w.heap.size ≤ gn ∧ w.heap.size ≤ gl ∧ w.heap.size ≤ qb ∧ Below w.heap.size w w' := by
  have q := Below.refl w.heap.size w
  subst ha
  have e8 : N * 8 / 8 = N := by omega
  refine X.fn Try.func20 rfl (n := 19) rfl rfl ?_
  refine CC.seq ?_
  refine CC.region ?_
  refine LL.val (R.assign rfl rfl) rfl rfl rfl ?_
  refine LL.val (R.assign rfl rfl) rfl rfl rfl ?_
  refine LL.nilS ?_
  refine CC.seq ?_
  refine CC.seq ?_
  refine CC.region ?_
  refine LL.val (R.move rfl rfl) rfl rfl rfl ?_
  refine LL.val (R.ltF rfl rfl rfl (by omega)) rfl rfl rfl ?_
  refine LL.val (R.move rfl rfl) rfl rfl rfl ?_
  refine LL.val (R.move rfl rfl) rfl rfl rfl ?_
  refine LL.val (R.gtF rfl rfl rfl (by omega)) rfl rfl rfl ?_
  refine LL.val (R.pick rfl rfl rfl) rfl rfl rfl ?_
  refine LL.val (R.move rfl rfl) rfl rfl rfl ?_
  refine LL.val (R.move rfl rfl) rfl rfl rfl ?_
  refine LL.val (R.remNc rfl rfl rfl rfl (by omega)) rfl rfl rfl ?_
  refine LL.val (R.neF rfl rfl rfl (by omega)) rfl rfl rfl ?_
  refine LL.val (R.pick rfl rfl rfl) rfl rfl rfl ?_
  refine LL.nilS ?_
  refine CC.no rfl ?_
  refine CC.skip ?_
  refine EE.thenN ?_
  refine CC.seq ?_
  refine CC.region ?_
  refine LL.val (R.move rfl rfl) rfl rfl rfl ?_
  refine LL.val (R.quoNc rfl rfl rfl rfl (by omega) (by omega)) rfl rfl rfl ?_
  (refine LL.makeE (l := N) (m := N) ElLn rfl (by decide) rfl (by show some (Value.int .i64 ((N * 8 / 8 : Nat) : Int)) = _; rw [e8]) (by show some (Value.int .i64 ((N * 8 / 8 : Nat) : Int)) = _; rw [e8]) (Nat.le_refl _) (by omega) (by omega) rfl rfl ?_; intro W64 g1 eg1 r1 zg1 b61; rw [flat_rep] at r1; have hrl : (List.replicate N zL).length = N := List.length_replicate)
  have zb61 := b61.size
  replace q := q.trans (b61.mono q.size)
  refine LL.call (R.call rfl rfl rfl) rfl rfl rfl (on_any _ _ _ _ (by first | assumption | omega) (by first | assumption | omega) (by first | assumption | omega) (by first | assumption | omega)) ?_
  rintro e W71 ⟨g73, k78, x76, rfl, h72, l74, o75, y77, b70⟩
  refine ⟨_, rfl, ?_⟩
  have zb70 := b70.size
  replace r1 := r1.up b70
  replace b61 := b61.trans (b70.mono b61.size)
  replace q := q.trans (b70.mono q.size)
  refine LL.val (R.assign rfl rfl) rfl rfl rfl ?_
  refine LL.val (R.assign rfl rfl) rfl rfl rfl ?_
  refine LL.nilS ?_
  refine CC.ret ?_
  refine EE.ret _ rfl rfl ?_
  exact ⟨_, _, _, _, rfl, by assumption, by omega, by omega, by omega, by omega, q⟩
--C pmem_New | new_F _ @w @p | ⟨rfl, @b⟩
theorem new_F (a : Int) (w : World) (ha : a < 8 ∨ 131072 < a ∨ a % 8 ≠ 0) :
    Calls Try.prog 20 #[.int .i64 a] w fun e w' => e = .returned (.tuple #[.pointer none, .int .i64 2]) ∧ Below w.heap.size w w' := by
  have q := Below.refl w.heap.size w
  refine X.fn Try.func20 rfl (n := 19) rfl rfl ?_
  refine CC.seq ?_
  refine CC.region ?_
  refine LL.val (R.assign rfl rfl) rfl rfl rfl ?_
  refine LL.val (R.assign rfl rfl) rfl rfl rfl ?_
  refine LL.nilS ?_
  refine CC.seq ?_
  refine CC.seq ?_
  refine CC.region ?_
  refine LL.val (R.move rfl rfl) rfl rfl rfl ?_
  refine LL.vsplit (fun h => R.ltT rfl rfl rfl h) (fun h => R.ltF rfl rfl rfl (Int.not_lt.1 h)) rfl rfl rfl (fun c1 => ?_) (fun c1 => ?_)
  refine LL.val (R.move rfl rfl) rfl rfl rfl ?_
  refine LL.skip rfl rfl ?_
  refine LL.skip rfl rfl ?_
  refine LL.val (R.pick rfl rfl rfl) rfl rfl rfl ?_
  refine LL.val (R.move rfl rfl) rfl rfl rfl ?_
  refine LL.skip rfl rfl ?_
  refine LL.skip rfl rfl ?_
  refine LL.skip rfl rfl ?_
  refine LL.val (R.pick rfl rfl rfl) rfl rfl rfl ?_
  refine LL.nilS ?_
  refine CC.yes rfl ?_
  refine CC.seq ?_
  refine CC.region ?_
  refine LL.val (R.assign rfl rfl) rfl rfl rfl ?_
  refine LL.val (R.assign rfl rfl) rfl rfl rfl ?_
  refine LL.nilS ?_
  refine CC.ret ?_
  refine EE.thenR ?_
  refine EE.ret _ rfl rfl ?_
  exact ⟨rfl, q⟩
  refine LL.val (R.move rfl rfl) rfl rfl rfl ?_
  refine LL.val (R.move rfl rfl) rfl rfl rfl ?_
  refine LL.vsplit (fun h => R.gtT rfl rfl rfl h) (fun h => R.gtF rfl rfl rfl (Int.not_lt.1 h)) rfl rfl rfl (fun c2 => ?_) (fun c2 => ?_)
  refine LL.val (R.pick rfl rfl rfl) rfl rfl rfl ?_
  refine LL.val (R.move rfl rfl) rfl rfl rfl ?_
  refine LL.skip rfl rfl ?_
  refine LL.skip rfl rfl ?_
  refine LL.skip rfl rfl ?_
  refine LL.val (R.pick rfl rfl rfl) rfl rfl rfl ?_
  refine LL.nilS ?_
  refine CC.yes rfl ?_
  refine CC.seq ?_
  refine CC.region ?_
  refine LL.val (R.assign rfl rfl) rfl rfl rfl ?_
  refine LL.val (R.assign rfl rfl) rfl rfl rfl ?_
  refine LL.nilS ?_
  refine CC.ret ?_
  refine EE.thenR ?_
  refine EE.ret _ rfl rfl ?_
  exact ⟨rfl, q⟩
  refine LL.val (R.pick rfl rfl rfl) rfl rfl rfl ?_
  refine LL.val (R.move rfl rfl) rfl rfl rfl ?_
  refine LL.val (R.move rfl rfl) rfl rfl rfl ?_
  refine LL.val (R.remIc rfl rfl rfl rfl (by omega) (by omega)) rfl rfl rfl ?_
  refine LL.val (R.neT rfl rfl rfl (by omega)) rfl rfl rfl ?_
  refine LL.val (R.pick rfl rfl rfl) rfl rfl rfl ?_
  refine LL.nilS ?_
  refine CC.yes rfl ?_
  refine CC.seq ?_
  refine CC.region ?_
  refine LL.val (R.assign rfl rfl) rfl rfl rfl ?_
  refine LL.val (R.assign rfl rfl) rfl rfl rfl ?_
  refine LL.nilS ?_
  refine CC.ret ?_
  refine EE.thenR ?_
  refine EE.ret _ rfl rfl ?_
  exact ⟨rfl, q⟩
/-- The words, line by line. -/
def lnAt (ws : List Nat) (i : Nat) : Ln := ⟨(List.range 8).map fun j => (ws[i * 8 + j]?).getD 0, by simp⟩
def lnS (N : Nat) (ws : List Nat) : List Ln := (List.range N).map (lnAt ws)
theorem lnS_len (N : Nat) (ws : List Nat) : (lnS N ws).length = N := by simp [lnS]
theorem lnS_at {N i : Nat} (ws : List Nat) (h : i < N) : (lnS N ws)[i]? = some (lnAt ws i) := by
  unfold lnS
  rw [List.getElem?_map, List.getElem?_range h]
  rfl
theorem lnAt_nil (i : Nat) : lnAt [] i = zL := Subtype.ext (by simp only [lnAt, zL, List.getElem?_nil, Option.getD_none]; rfl)
theorem lnS_nil (N : Nat) : lnS N [] = List.replicate N zL := by
  refine List.eq_replicate_iff.2 ⟨lnS_len _ _, fun b hb => ?_⟩
  obtain ⟨i, _, rfl⟩ := List.mem_map.1 hb
  exact lnAt_nil i
theorem lnS_succ {N k v : Nat} {ws : List Nat} (hl : ws.length = N * 8) (hv : ws[k]? = some v) : lnS N (ws.take (k + 1)) = (lnS N (ws.take k)).set (k / 8) ⟨(lnAt (ws.take k) (k / 8)).1.set (k % 8) v, by rw [List.length_set]; exact (lnAt _ _).2⟩ := by
  have hk := (List.getElem?_eq_some_iff.1 hv).1
  refine List.ext_getElem? fun i => ?_
  rw [List.getElem?_set]
  by_cases hi : i < N
  · rw [lnS_at _ hi, lnS_at _ hi]
    by_cases he : k / 8 = i
    · subst he
      rw [if_pos rfl, if_pos (by rw [lnS_len]; omega)]
      congr 1
      refine Subtype.ext ?_
      simp only [lnAt]
      refine List.ext_getElem? fun j => ?_
      rw [List.getElem?_map, List.getElem?_set, List.length_map, List.length_range, List.getElem?_map]
      by_cases hj : j < 8
      · rw [List.getElem?_range hj]
        by_cases hjk : k % 8 = j
        · subst hjk
          rw [if_pos rfl, if_pos (by omega)]
          simp only [Option.map_some]
          rw [show k / 8 * 8 + k % 8 = k by omega, List.getElem?_take, if_pos (by omega), hv]
          rfl
        · rw [if_neg hjk]
          simp only [Option.map_some]
          rw [List.getElem?_take, List.getElem?_take]
          by_cases h1 : k / 8 * 8 + j < k
          · rw [if_pos (by omega), if_pos h1]
          · rw [if_neg (by omega), if_neg h1]
      · rw [List.getElem?_eq_none (l := List.range 8) (by simp; omega)]
        by_cases hjk : k % 8 = j
        · omega
        · rw [if_neg hjk]
          rfl
    · rw [if_neg he]
      congr 1
      refine Subtype.ext ?_
      simp only [lnAt]
      refine List.map_congr_left fun j hj => ?_
      have hj := List.mem_range.1 hj
      rw [List.getElem?_take, List.getElem?_take]
      by_cases h1 : i * 8 + j < k
      · rw [if_pos (by omega), if_pos h1]
      · rw [if_neg (by omega), if_neg h1]
  · rw [List.getElem?_eq_none (by rw [lnS_len]; omega), if_neg (by omega), List.getElem?_eq_none (by rw [lnS_len]; omega)]
def mdC (x : Ln) : Cl := (x, zL, none)
theorem md_now (ls : List Ln) : (ls.map mdC).flatMap nowE = ls.flatMap lE := by
  rw [List.flatMap_map]; rfl
theorem md_q (ls : List Ln) : qF (ls.map mdC) = fun _ => none := by
  funext i
  unfold qF
  rw [List.getElem?_map]
  cases ls[i]? <;> rfl
theorem md_n (ls : List Ln) : nQ (ls.map mdC) = 0 := by
  unfold nQ
  rw [List.countP_map]
  induction ls with
  | nil => rfl
  | cons x ls ih => rw [List.countP_cons, ih]; rfl
theorem Mem.put {w w' : World} {m gn gl qb N i : Nat} {s : List Cl} {c u : Cl} (M : Mem w m gn gl qb N s) (hc : s[i]? = some c) (rn : RowL w' gn 79 ((s.set i u).flatMap nowE)) (g : w.grownBy w' (some gn)) (h1 : lastE u = lastE c) (h2 : u.2.2 = c.2.2) : Mem w' m gn gl qb N (s.set i u) := by
  obtain ⟨n1, n2, n3, n4, n5, n6⟩ := M.ne
  exact ⟨M.row.gr g n1, rn, by rw [set_last (u := u) hc h1]; exact M.last.gr g (Ne.symm n4), by rw [qF_set (u := u) hc h2, nQ_set (u := u) hc h2]; exact M.qs.gr g (Ne.symm n5), by rw [List.length_set]; exact M.len, M.pos, M.le, M.ne⟩
def ofS (N : Nat) (ws : List Nat) : List Cl := (lnS N ws).map nwC
theorem of_T (a : Option Addr) (L cp N : Nat) (ws : List Nat) (w : World) (hv : ReadsT uE 1 w (.slice a L cp) ws) (hL : L = N * 8) (h0 : 0 < N) (hN : N ≤ 16384) :
    Calls Try.prog 11 #[.slice a L cp] w fun e w' => ∃ m gn gl qb, e = .returned (.tuple #[.pointer (some ⟨m, 0, none⟩), .int .i64 0]) ∧ Mem w' m gn gl qb N (ofS N ws) ∧ w.heap.size ≤ m ∧ w.heap.size ≤ gn ∧ w.heap.size ≤ gl ∧ w.heap.size ≤ qb ∧ Below w.heap.size w w' := by
  have q := Below.refl w.heap.size w
  have hlen : ws.length = L := by obtain ⟨_, _, e, _⟩ := hv; cases e; rfl
  have hvF : ∀ W, Below w.heap.size w W → ReadsT uE 1 W (.slice a L cp) ws := fun W hb => hv.up hb
  clear hv
  refine X.fn Try.func11 rfl (n := 41) rfl rfl ?_
  refine CC.seq ?_
  refine CC.region ?_
  refine LL.val (R.assign rfl rfl) rfl rfl rfl ?_
  refine LL.val (R.assign rfl rfl) rfl rfl rfl ?_
  refine LL.nilS ?_
  refine CC.seq ?_
  refine CC.region ?_
  refine LL.val (R.move rfl rfl) rfl rfl rfl ?_
  refine LL.val (R.len rfl rfl rfl rfl) rfl rfl rfl ?_
  (refine LL.call (R.call rfl rfl rfl) rfl rfl rfl (new_T N (L : Int) _ (by rw [hL]) h0 hN) ?_; rintro e W20 ⟨m, gn, gl, qb, rfl, M, lm, ln, ll, lq, b17⟩; refine ⟨_, rfl, ?_⟩)
  have zb17 := b17.size
  replace q := q.trans (b17.mono q.size)
  refine LL.val (R.move rfl rfl) rfl rfl rfl ?_
  refine LL.val (R.extract rfl rfl rfl) rfl rfl rfl ?_
  refine LL.val (R.extract rfl rfl rfl) rfl rfl rfl ?_
  refine LL.val (R.assign rfl rfl) rfl rfl rfl ?_
  refine LL.val (R.assign rfl rfl) rfl rfl rfl ?_
  refine LL.nilS ?_
  refine CC.seq ?_
  refine CC.seq ?_
  refine CC.region ?_
  refine LL.val (R.move rfl rfl) rfl rfl rfl ?_
  refine LL.val (R.neF rfl rfl rfl (by omega)) rfl rfl rfl ?_
  refine LL.nilS ?_
  refine CC.no rfl ?_
  refine CC.skip ?_
  refine EE.thenN ?_
  refine CC.seq ?_
  refine CC.seq ?_
  refine CC.region ?_
  refine LL.val (R.move rfl rfl) rfl rfl rfl ?_
  refine LL.val (R.len rfl rfl rfl rfl) rfl rfl rfl ?_
  refine LL.val (R.move rfl rfl) rfl rfl rfl ?_
  refine LL.nilS ?_
  refine CC.block ?_
  have yq := q.size
  have hst : (List.replicate N zL).map nwC = (lnS N (ws.take 0)).map mdC := by
    rw [List.take_zero, lnS_nil, List.map_replicate, List.map_replicate]
    rfl
  rw [hst] at M
  have hmd : ∀ k i, i < N → ((lnS N (ws.take k)).map mdC)[i]? = some (mdC (lnAt (ws.take k) i)) := fun k i hi => by
    rw [List.getElem?_map, lnS_at _ hi]
    rfl
  refine CC.loop (α := Nat) (fun k => [(4, .pointer (some ⟨m, 0, none⟩)), (17, .slice a L cp), (18, .int .i64 (L : Int)), (19, .int .i64 (k : Int))]) (fun k W => k ≤ L ∧ Below w.heap.size w W ∧ Mem W m gn gl qb N ((lnS N (ws.take k)).map mdC)) (fun k => L - k) 0 ⟨rfl, rfl, rfl, rfl, trivial⟩ ⟨by show 0 ≤ L; omega, q, M⟩ ?_
  clear q M hst
  rintro k W ⟨hk, q, M⟩
  show CC none Try.prog _ 41 [] (sl [(4, .pointer (some ⟨m, 0, none⟩)), (17, .slice a L cp), (18, .int .i64 (L : Int)), (19, .int .i64 (k : Int))]) _ W
  obtain ⟨n1, n2, n3, n4, n5, n6⟩ := M.ne
  have yw := q.size
  by_cases hlt : k < L
  case neg =>
    obtain rfl : k = L := by omega
    have hr := M.row
    have hn := M.now
    rw [List.take_of_length_le (by omega)] at M hn
    have hml : ((lnS N ws).map mdC).length = N := by rw [List.length_map, lnS_len]
    have hq : MapK (.int .i64) iK lV W qb 0 (fun _ => none) := by have := M.qs; rwa [md_q, md_n] at this
    have lt := M.lts
    clear M
    refine CC.seq ?_
    refine CC.region ?_
    refine LL.val (R.ltF rfl rfl rfl (by omega)) rfl rfl rfl ?_
    refine LL.nilS ?_
    refine CC.seq ?_
    refine CC.no rfl ?_
    refine CC.exit ?_
    refine EE.thenX ?_
    refine EE.thenX ?_
    refine EE.inX ?_
    refine EE.thenN ?_
    refine CC.seq ?_
    refine CC.region ?_
    refine LL.val (R.move rfl rfl) rfl rfl rfl ?_
    refine LL.val (R.move rfl rfl) rfl rfl rfl ?_
    refine LL.val (R.nil rfl rfl) rfl rfl rfl ?_
    refine LL.val (R.field rfl rfl (I.fld rfl)) rfl rfl rfl ?_
    refine LL.val (R.field rfl rfl (I.fld rfl)) rfl rfl rfl ?_
    refine LL.val (R.load rfl rfl (I.ld1 rfl (RowL.cell hr rfl))) rfl rfl rfl ?_
    have la47 := hr.lt
    have la48 := hn.lt
    (refine LL.call (R.call rfl rfl rfl) rfl rfl rfl (moved_any nowEnc _ _ _ _ hn hml hN) ?_; rintro e Wa46 ⟨g2, rfl, rg2, lg2, lg3, ba43⟩; refine ⟨_, rfl, ?_⟩)
    have zba43 := ba43.size
    replace q := q.trans (ba43.mono q.size)
    replace hr := hr.up ba43
    replace hn := hn.up ba43
    replace hq := hq.up ba43
    refine LL.val (R.nil rfl rfl) rfl rfl rfl ?_
    refine LL.val (R.field rfl rfl (I.fld rfl)) rfl rfl rfl ?_
    refine LL.store rfl rfl rfl rfl hr (by exact Nat.le_of_ble_eq_true rfl) rfl rfl rfl rfl ?_
    intro Wa71 ra72 ba70 za73
    have hlba70 := hr.lt
    replace ra72 : RowL Wa71 _ 53 [Value.slice (some { block := gn, off := 0 }) N N, Value.slice (some { block := g2, off := 0 }) N N, Value.map (some qb)] := ra72
    clear hr
    replace rg2 := rg2.gr ba70 (by have := rg2.lt; omega)
    replace q := q.grown ba70 q.size (by rintro k ⟨⟩; omega)
    replace hn := hn.gr ba70 (by have := hn.lt; omega)
    replace hq := hq.gr ba70 (by have := hq.lt; omega)
    have hr := ra72
    clear ra72
    refine LL.nilS ?_
    refine CC.seq ?_
    refine CC.region ?_
    refine LL.val (R.move rfl rfl) rfl rfl rfl ?_
    refine LL.val (R.assign rfl rfl) rfl rfl rfl ?_
    refine LL.val (R.assign rfl rfl) rfl rfl rfl ?_
    refine LL.nilS ?_
    refine CC.ret ?_
    refine EE.ret _ rfl rfl ?_
    exact ⟨m, gn, g2, qb, rfl, ⟨by assumption, by rw [ofS, nw_now, ← md_now]; exact hn, by rw [ofS, nw_last, ← md_now]; exact rg2, by rw [ofS, nw_q, nw_n]; exact hq, by rw [ofS, List.length_map, lnS_len], h0, hN, by omega⟩, by omega, by omega, by omega, by omega, q⟩
  obtain ⟨v, hvk⟩ : ∃ v, ws[k]? = some v := ⟨_, List.getElem?_eq_getElem (by omega)⟩
  obtain ⟨b, off, rfl, hb, hcell⟩ := (hvF W q).one uEnc hvk
  have c1 : W.cell? ⟨b, off + k, none⟩ = some (.int .u64 (v : Int)) := hcell _ rfl
  have hc := hmd k (k / 8) (by omega)
  have hsx := lnS_succ (N := N) (by omega) hvk
  refine CC.seq ?_
  refine CC.region ?_
  refine LL.val (R.ltT rfl rfl rfl (by omega)) rfl rfl rfl ?_
  refine LL.nilS ?_
  refine CC.seq ?_
  refine CC.yes rfl ?_
  refine CC.skip ?_
  refine EE.thenN ?_
  refine CC.seq ?_
  refine CC.block ?_
  refine CC.seq ?_
  refine CC.region ?_
  refine LL.val (R.move rfl rfl) rfl rfl rfl ?_
  refine LL.val (R.index rfl rfl rfl (I.ixS1 rfl (by omega))) rfl rfl rfl ?_
  refine LL.val (R.load rfl rfl (I.ld1 rfl (by assumption))) rfl rfl rfl ?_
  refine LL.val (R.assign rfl rfl) rfl rfl rfl ?_
  refine LL.val (R.assign rfl rfl) rfl rfl rfl ?_
  refine LL.nilS ?_
  refine CC.region ?_
  refine LL.val (R.move rfl rfl) rfl rfl rfl ?_
  refine LL.val (R.nil rfl rfl) rfl rfl rfl ?_
  refine LL.val (R.field rfl rfl (I.fld rfl)) rfl rfl rfl ?_
  refine LL.val (R.move rfl rfl) rfl rfl rfl ?_
  refine LL.val (R.move rfl rfl) rfl rfl rfl ?_
  (refine LL.call (R.call rfl rfl rfl) rfl rfl rfl (put_any m gn N k v M.row M.now M.len M.le hc) ?_; rintro e Wb48 ⟨rfl, rn, grb46, z5⟩; refine ⟨_, rfl, ?_⟩; replace M := M.put hc rn grb46 rfl rfl)
  have zgrb46 := grb46.size
  replace q := q.grown grb46 q.size (by rintro k ⟨⟩; omega)
  refine LL.nil ?_
  refine EE.inN ?_
  refine EE.thenN ?_
  refine CC.region ?_
  refine LL.val (R.addNc rfl rfl rfl rfl (by omega)) rfl rfl rfl ?_
  refine LL.val (R.move rfl rfl) rfl rfl rfl ?_
  refine LL.nil ?_
  exact EE.round (k + 1) ⟨rfl, rfl, rfl, rfl, trivial⟩ ⟨by show k + 1 ≤ L; omega, q, by rw [hsx, List.map_set]; exact M⟩ (by show L - (k + 1) < L - k; omega)
--C pmem_Of | of_F _ _ _ @w @p @p | ⟨rfl, @b⟩
theorem of_F (a : Option Addr) (L cp : Nat) (w : World) (hL : L < 8 ∨ 131072 < L ∨ L % 8 ≠ 0) (hL2 : L ≤ 9223372036854775807) :
    Calls Try.prog 11 #[.slice a L cp] w fun e w' => e = .returned (.tuple #[.pointer none, .int .i64 2]) ∧ Below w.heap.size w w' := by
  have q := Below.refl w.heap.size w
  refine X.fn Try.func11 rfl (n := 41) rfl rfl ?_
  refine CC.seq ?_
  refine CC.region ?_
  refine LL.val (R.assign rfl rfl) rfl rfl rfl ?_
  refine LL.val (R.assign rfl rfl) rfl rfl rfl ?_
  refine LL.nilS ?_
  refine CC.seq ?_
  refine CC.region ?_
  refine LL.val (R.move rfl rfl) rfl rfl rfl ?_
  refine LL.val (R.len rfl rfl rfl rfl) rfl rfl rfl ?_
  refine LL.call (R.call rfl rfl rfl) rfl rfl rfl (new_F _ _ (by first | assumption | omega)) ?_
  rintro e W2 ⟨rfl, b1⟩
  refine ⟨_, rfl, ?_⟩
  have zb1 := b1.size
  replace q := q.trans (b1.mono q.size)
  refine LL.val (R.move rfl rfl) rfl rfl rfl ?_
  refine LL.val (R.extract rfl rfl rfl) rfl rfl rfl ?_
  refine LL.val (R.extract rfl rfl rfl) rfl rfl rfl ?_
  refine LL.val (R.assign rfl rfl) rfl rfl rfl ?_
  refine LL.val (R.assign rfl rfl) rfl rfl rfl ?_
  refine LL.nilS ?_
  refine CC.seq ?_
  refine CC.seq ?_
  refine CC.region ?_
  refine LL.val (R.move rfl rfl) rfl rfl rfl ?_
  refine LL.val (R.neT rfl rfl rfl (by omega)) rfl rfl rfl ?_
  refine LL.nilS ?_
  refine CC.yes rfl ?_
  refine CC.seq ?_
  refine CC.region ?_
  refine LL.val (R.move rfl rfl) rfl rfl rfl ?_
  refine LL.val (R.assign rfl rfl) rfl rfl rfl ?_
  refine LL.val (R.assign rfl rfl) rfl rfl rfl ?_
  refine LL.nilS ?_
  refine CC.ret ?_
  refine EE.thenR ?_
  refine EE.ret _ rfl rfl ?_
  exact ⟨rfl, q⟩
--C pmem_Memory_Image | image_any _ _ _ _ _ @w @p | ⟨@v, rfl, @h, @b⟩
theorem image_any (m gn gl qb N : Nat) (w : World) {s : List Cl} (M : Mem w m gn gl qb N s) : Calls Try.prog 28 #[.pointer (some ⟨m, 0, none⟩)] w fun e w' => ∃ v, e = .returned v ∧ ReadsT uE 1 w' v (wdS (fun c => c.1) s) ∧ Below w.heap.size w w' := by
  have q := Below.refl w.heap.size w
  have hr := M.row
  have hn : RowL w gn 79 (s.flatMap fun c => lE c.1) := M.now
  have hl := M.len
  have h0 := M.pos
  have hN := M.le
  refine X.fn Try.func28 rfl (n := 11) rfl rfl ?_
  refine CC.seq ?_
  refine CC.region ?_
  refine LL.val (R.assign rfl rfl) rfl rfl rfl ?_
  refine LL.nilS ?_
  refine CC.seq ?_
  refine CC.seq ?_
  refine CC.region ?_
  refine LL.val (R.move rfl rfl) rfl rfl rfl ?_
  refine LL.call (R.call rfl rfl rfl) rfl rfl rfl (none_F _ _ (by first | assumption | omega) (by first | assumption | omega)) ?_
  rintro e W' ⟨rfl, rfl⟩
  refine ⟨_, rfl, ?_⟩
  refine LL.nilS ?_
  refine CC.no rfl ?_
  refine CC.skip ?_
  refine EE.thenN ?_
  refine CC.seq ?_
  refine CC.region ?_
  refine LL.val (R.move rfl rfl) rfl rfl rfl ?_
  refine LL.val (R.nil rfl rfl) rfl rfl rfl ?_
  refine LL.val (R.field rfl rfl (I.fld rfl)) rfl rfl rfl ?_
  refine LL.val (R.field rfl rfl (I.fld rfl)) rfl rfl rfl ?_
  refine LL.val (R.load rfl rfl (I.ld1 rfl (RowL.cell hr rfl))) rfl rfl rfl ?_
  refine LL.call (R.call rfl rfl rfl) rfl rfl rfl (flat_any (fun c => c.1) _ _ _ _ (by first | assumption | omega) (by first | assumption | omega) (by first | assumption | omega)) ?_
  rintro e W2 ⟨v4, rfl, h3, b1⟩
  refine ⟨_, rfl, ?_⟩
  have zb1 := b1.size
  replace M := M.up b1
  replace q := q.trans (b1.mono q.size)
  replace hr := hr.up b1
  replace hn := hn.up b1
  refine LL.val (R.assign rfl rfl) rfl rfl rfl ?_
  refine LL.nilS ?_
  refine CC.ret ?_
  refine EE.ret _ rfl rfl ?_
  exact ⟨_, rfl, by assumption, q⟩
--C pmem_Memory_Lasting | lasting_any _ _ _ _ _ @w @p | ⟨@v, rfl, @h, @b⟩
theorem lasting_any (m gn gl qb N : Nat) (w : World) {s : List Cl} (M : Mem w m gn gl qb N s) : Calls Try.prog 29 #[.pointer (some ⟨m, 0, none⟩)] w fun e w' => ∃ v, e = .returned v ∧ ReadsT uE 1 w' v (wdS (fun c => c.2.1) s) ∧ Below w.heap.size w w' := by
  have q := Below.refl w.heap.size w
  have hr := M.row
  have hn : RowL w gl 79 (s.flatMap fun c => lE c.2.1) := M.last
  have hl := M.len
  have h0 := M.pos
  have hN := M.le
  refine X.fn Try.func29 rfl (n := 10) rfl rfl ?_
  refine CC.seq ?_
  refine CC.region ?_
  refine LL.val (R.assign rfl rfl) rfl rfl rfl ?_
  refine LL.nilS ?_
  refine CC.seq ?_
  refine CC.seq ?_
  refine CC.region ?_
  refine LL.val (R.move rfl rfl) rfl rfl rfl ?_
  refine LL.call (R.call rfl rfl rfl) rfl rfl rfl (none_F _ _ (by first | assumption | omega) (by first | assumption | omega)) ?_
  rintro e W' ⟨rfl, rfl⟩
  refine ⟨_, rfl, ?_⟩
  refine LL.nilS ?_
  refine CC.no rfl ?_
  refine CC.skip ?_
  refine EE.thenN ?_
  refine CC.seq ?_
  refine CC.region ?_
  refine LL.val (R.move rfl rfl) rfl rfl rfl ?_
  refine LL.val (R.nil rfl rfl) rfl rfl rfl ?_
  refine LL.val (R.field rfl rfl (I.fld rfl)) rfl rfl rfl ?_
  refine LL.val (R.load rfl rfl (I.ld1 rfl (RowL.cell hr rfl))) rfl rfl rfl ?_
  refine LL.call (R.call rfl rfl rfl) rfl rfl rfl (flat_any (fun c => c.2.1) _ _ _ _ (by first | assumption | omega) (by first | assumption | omega) (by first | assumption | omega)) ?_
  rintro e W2 ⟨v4, rfl, h3, b1⟩
  refine ⟨_, rfl, ?_⟩
  have zb1 := b1.size
  replace M := M.up b1
  replace q := q.trans (b1.mono q.size)
  replace hr := hr.up b1
  replace hn := hn.up b1
  refine LL.val (R.assign rfl rfl) rfl rfl rfl ?_
  refine LL.nilS ?_
  refine CC.ret ?_
  refine EE.ret _ rfl rfl ?_
  exact ⟨_, rfl, by assumption, q⟩
--C pmem_Memory_Len | len_any _ _ _ _ _ @w @p | S
theorem len_any (m gn gl qb N : Nat) (w : World) {s : List Cl} (M : Mem w m gn gl qb N s) : Calls Try.prog 27 #[.pointer (some ⟨m, 0, none⟩)] w fun e w' => e = .returned (.int .i64 ((N * 8 : Nat) : Int)) ∧ w = w' := by
  have hr := M.row
  have h0 := M.pos
  have hN := M.le
  refine X.fn Try.func27 rfl (n := 9) rfl rfl ?_
  refine CC.seq ?_
  refine CC.region ?_
  refine LL.val (R.assign rfl rfl) rfl rfl rfl ?_
  refine LL.nilS ?_
  refine CC.seq ?_
  refine CC.seq ?_
  refine CC.region ?_
  refine LL.val (R.move rfl rfl) rfl rfl rfl ?_
  refine LL.call (R.call rfl rfl rfl) rfl rfl rfl (none_F _ _ (by first | assumption | omega) (by first | assumption | omega)) ?_
  rintro e W' ⟨rfl, rfl⟩
  refine ⟨_, rfl, ?_⟩
  refine LL.nilS ?_
  refine CC.no rfl ?_
  refine CC.skip ?_
  refine EE.thenN ?_
  refine CC.seq ?_
  refine CC.region ?_
  refine LL.val (R.move rfl rfl) rfl rfl rfl ?_
  refine LL.val (R.nil rfl rfl) rfl rfl rfl ?_
  refine LL.val (R.field rfl rfl (I.fld rfl)) rfl rfl rfl ?_
  refine LL.call (R.call rfl rfl rfl) rfl rfl rfl (words_any _ _ (by first | assumption | omega) (by first | assumption | omega)) ?_
  rintro e W' ⟨rfl, rfl⟩
  refine ⟨_, rfl, ?_⟩
  refine LL.val (R.assign rfl rfl) rfl rfl rfl ?_
  refine LL.nilS ?_
  refine CC.ret ?_
  refine EE.ret _ rfl rfl ?_
  exact ⟨rfl, rfl⟩
def feC (c : Cl) : Cl := (c.1, c.2.2.getD c.2.1, none)
theorem last_flat (s : List Cl) : s.flatMap lastE = (s.map fun c => c.2.1).flatMap lE := by
  rw [List.flatMap_map]; rfl
theorem qF_some {s : List Cl} {i : Nat} {x : Ln} (h : qF s i = some x) : ∃ c, s[i]? = some c ∧ c.2.2 = some x := by
  unfold qF at h
  cases hc : s[i]? with
  | none => rw [hc] at h; cases h
  | some c => rw [hc] at h; exact ⟨c, rfl, h⟩
theorem fe_q (s : List Cl) : qF (s.map feC) = fun _ => none := by
  funext i
  unfold qF
  rw [List.getElem?_map]
  cases s[i]? <;> rfl
theorem fe_n (s : List Cl) : nQ (s.map feC) = 0 := by
  unfold nQ
  rw [List.countP_map]
  induction s with
  | nil => rfl
  | cons x ls ih => rw [List.countP_cons, ih]; rfl
set_option maxRecDepth 100000
set_option maxHeartbeats 4000000
theorem fence_any (w : World) (m gn gl qb N : Nat) {s : List Cl} (M : Mem w m gn gl qb N s) :
    Calls Try.prog 24 #[.pointer (some ⟨m, 0, none⟩)] w fun e w' => e = .returned (.int .i64 0) ∧ Mem w' m gn gl qb N (s.map feC) ∧ Kept (KM w gn gl qb) w w' := by
  have hr := M.row
  have h0 := M.pos
  have hN := M.le
  have hn := M.now
  have ha := M.last
  have hq := M.qs
  have hl := M.len
  obtain ⟨n1, n2, n3, n4, n5, n6⟩ := M.ne
  have lt := M.lts
  have hok := Kept.refl (KM w gn gl qb) w
  clear M
  refine X.fn Try.func24 rfl (n := 28) rfl rfl ?_
  refine CC.seq ?_
  refine CC.region ?_
  refine LL.val (R.assign rfl rfl) rfl rfl rfl ?_
  refine LL.nilS ?_
  refine CC.seq ?_
  refine CC.seq ?_
  refine CC.region ?_
  refine LL.val (R.move rfl rfl) rfl rfl rfl ?_
  refine LL.call (R.call rfl rfl rfl) rfl rfl rfl (none_F _ _ (by first | assumption | omega) (by first | assumption | omega)) ?_
  rintro e W' ⟨rfl, rfl⟩
  refine ⟨_, rfl, ?_⟩
  refine LL.nilS ?_
  refine CC.no rfl ?_
  refine CC.skip ?_
  refine EE.thenN ?_
  refine CC.seq ?_
  refine CC.seq ?_
  refine CC.region ?_
  refine LL.val (R.move rfl rfl) rfl rfl rfl ?_
  refine LL.val (R.nil rfl rfl) rfl rfl rfl ?_
  refine LL.val (R.field rfl rfl (I.fld rfl)) rfl rfl rfl ?_
  refine LL.val (R.load rfl rfl (I.ld1 rfl (RowL.cell hr rfl))) rfl rfl rfl ?_
  have l54 := hr.lt
  have l55 := hn.lt
  have l56 := ha.lt
  (refine LL.mrange rfl rfl iKeys rfl hq rfl rfl ?_; clear hq; intro W53 it eit rg b50 zit; replace hok := hok.trans (bkept b50 fun j h => h.1))
  have zb50 := b50.size
  replace hr := hr.up b50
  replace hn := hn.up b50
  replace ha := ha.up b50
  have y57 := hok.size
  refine LL.nilS ?_
  refine CC.block ?_
  have yk := hok.size
  refine CC.loop (α := List Cl × (Nat → Prop) × Nat) (fun _ => [(0, .pointer (some ⟨m, 0, none⟩)), (11, .pointer (some ⟨it, 0, none⟩))]) (fun st W => Kept (KM w gn gl qb) w W ∧ it < W.heap.size ∧ RowL W m 53 [.slice (some ⟨gn, 0, none⟩) N N, .slice (some ⟨gl, 0, none⟩) N N, .map (some qb)] ∧ RowL W gn 79 (s.flatMap nowE) ∧ RowL W gl 79 (st.1.flatMap lastE) ∧
      RangeK (.int .i64) iK lV W qb it (nQ s) (qF s) st.2.1 st.2.2 ∧ st.1.length = N ∧ ∀ i c t, s[i]? = some c → st.1[i]? = some t → (st.2.1 i → t.2.1 = c.2.1) ∧ (¬ st.2.1 i → t.2.1 = c.2.2.getD c.2.1)) (fun st => st.2.2) (s, (fun i => qF s i ≠ none), nQ s) ⟨rfl, rfl, trivial⟩
    ⟨hok, by omega, hr, hn, ha, rg, hl, fun i c t h1 h2 => by
      simp only at h2
      rw [h1] at h2
      cases h2
      refine ⟨fun _ => rfl, fun h => ?_⟩
      simp only [ne_eq, Decidable.not_not, qF_at h1] at h
      rw [h]
      rfl⟩ ?_
  clear hok hr hn ha rg
  rintro ⟨ts, left, cnt⟩ W ⟨hok, hit, hr, hn, ha, rg, hlt, hall⟩
  simp only at ha rg hlt hall
  show CC none Try.prog _ 28 [] (sl [(0, .pointer (some ⟨m, 0, none⟩)), (11, .pointer (some ⟨it, 0, none⟩))]) _ W
  have yk2 := hok.size
  refine CC.seq ?_
  refine CC.region ?_
  refine LL.mnext rfl rfl iKeys rg rfl rfl (fun hno => ?_) (fun i x W5 cn hlf hfi rg2 hcn g5 z5 hen => ?_)
  · have hq := rg.map
    clear rg
    refine LL.val (R.extract rfl rfl rfl) rfl rfl rfl ?_
    refine LL.nilS ?_
    refine CC.seq ?_
    refine CC.no rfl ?_
    refine CC.exit ?_
    refine EE.thenX ?_
    refine EE.thenX ?_
    refine EE.inX ?_
    refine EE.thenN ?_
    refine CC.seq ?_
    refine CC.region ?_
    refine LL.val (R.move rfl rfl) rfl rfl rfl ?_
    refine LL.val (R.nil rfl rfl) rfl rfl rfl ?_
    refine LL.val (R.field rfl rfl (I.fld rfl)) rfl rfl rfl ?_
    refine LL.val (R.load rfl rfl (I.ld1 rfl (RowL.cell hr rfl))) rfl rfl rfl ?_
    (refine LL.mclear rfl rfl rfl hq rfl rfl ?_; intro W6 mq g6 z6)
    refine LL.nilS ?_
    refine CC.seq ?_
    refine CC.region ?_
    refine LL.val (R.assign rfl rfl) rfl rfl rfl ?_
    refine LL.nilS ?_
    refine CC.ret ?_
    refine EE.ret _ rfl rfl ?_
    refine ⟨rfl, ⟨hr.gr g6 n3, by rw [show (s.map feC).flatMap nowE = s.flatMap nowE by rw [List.flatMap_map]; rfl]; exact hn.gr g6 n5, ?_, by rw [fe_q, fe_n]; exact mq, by rw [List.length_map]; exact hl, h0, hN, by omega⟩, km_gr hok g6 (.inr (.inr rfl))⟩
    have e1 : (s.map feC).flatMap lastE = ts.flatMap lastE := by
      rw [last_flat, last_flat]
      congr 1
      refine List.ext_getElem? fun i => ?_
      rw [List.getElem?_map, List.getElem?_map, List.getElem?_map]
      rcases Nat.lt_or_ge i N with hi | hi
      · obtain ⟨c, hc⟩ : ∃ c, s[i]? = some c := ⟨_, List.getElem?_eq_getElem (by omega)⟩
        obtain ⟨t, ht⟩ : ∃ t, ts[i]? = some t := ⟨_, List.getElem?_eq_getElem (by omega)⟩
        rw [hc, ht]
        simp only [Option.map_some]
        rw [(hall i c t hc ht).2 (hno i)]
        rfl
      · rw [List.getElem?_eq_none (by omega), List.getElem?_eq_none (by omega)]
        rfl
    rw [e1]
    exact ha.gr g6 n6
  · obtain ⟨c, hc, hcx⟩ := qF_some hfi
    have hi := (List.getElem?_eq_some_iff.1 hc).1
    obtain ⟨t, ht⟩ : ∃ t, ts[i]? = some t := ⟨_, List.getElem?_eq_getElem (by omega)⟩
    replace hr := hr.gr g5 (by omega)
    replace hn := hn.gr g5 (by omega)
    replace ha := ha.gr g5 (by omega)
    replace hok : Kept (KM w gn gl qb) w W5 := hok.trans (grown_kept g5 (fun j hj => by have := hj.1; omega) fun j hj e => by cases e; have := hj.1; omega)
    clear rg
    refine LL.val (R.extract rfl rfl rfl) rfl rfl rfl ?_
    refine LL.nilS ?_
    refine CC.seq ?_
    refine CC.yes rfl ?_
    refine CC.skip ?_
    refine EE.thenN ?_
    refine CC.block ?_
    refine CC.seq ?_
    refine CC.region ?_
    (refine LL.val (R.entry rfl rfl hen) rfl rfl rfl ?_)
    refine LL.val (R.extract rfl rfl rfl) rfl rfl rfl ?_
    refine LL.val (R.extract rfl rfl rfl) rfl rfl rfl ?_
    have lc33 := hr.lt
    have lc34 := hn.lt
    have lc35 := ha.lt
    refine LL.alloc ([Value.int IntKind.u64 0, Value.int IntKind.u64 0, Value.int IntKind.u64 0, Value.int IntKind.u64 0, Value.int IntKind.u64 0, Value.int IntKind.u64 0, Value.int IntKind.u64 0, Value.int IntKind.u64 0]) rfl rfl rfl rfl rfl ?_
    intro Wc37 gc38 egc38 rc39 zc40 bc36
    replace rg2 := rg2.up bc36
    replace hr := hr.up bc36
    replace hn := hn.up bc36
    replace ha := ha.up bc36
    replace hok := hok.trans (bkept bc36 (fun j h => by have := h.1; have := hok.size; omega))
    have yc41 := hok.size
    refine LL.val (R.assign rfl rfl) rfl rfl rfl ?_
    (refine LL.storeAll rfl rfl rfl rfl (lE_len x) (by assumption) rfl (lE_one x) rfl rfl ?_; intro Wc53 r5 grc51 z5; have c5 := ln_cells r5)
    have zgrc51 := grc51.size
    replace bc36 := bc36.grown grc51 bc36.size (by rintro k ⟨⟩; omega)
    replace rg2 := rg2.gr grc51 (by have := rg2.lt; omega)
    replace hr := hr.gr grc51 (by have := hr.lt; omega)
    replace hn := hn.gr grc51 (by have := hn.lt; omega)
    replace ha := ha.gr grc51 (by have := ha.lt; omega)
    replace hok := hok.trans (grown_kept grc51 (fun j h => by have := h.1; have := hok.size; omega) (fun j h e => by cases e; have h2 := h.1; have h3 := h.2; omega))
    refine LL.nilS ?_
    refine CC.tailB 7 (by kernel_rfl) (by kernel_rfl) (fun Wc55 bc54 zc56 => ?_)
    replace r5 := r5.up bc54
    replace c5 := c5.up bc54
    replace bc36 := bc36.trans (bc54.mono bc36.size)
    replace rg2 := rg2.up bc54
    replace hr := hr.up bc54
    replace hn := hn.up bc54
    replace ha := ha.up bc54
    replace hok := hok.trans (bkept bc54 (fun j h => by have := h.1; have := hok.size; omega))
    have yc57 := hok.size
    refine SS.val (R.move rfl rfl) rfl rfl ?_
    refine SS.val (R.nil rfl rfl) rfl rfl ?_
    refine SS.val (R.field rfl rfl (I.fld rfl)) rfl rfl ?_
    refine SS.val (R.load rfl rfl (I.ld1 rfl (RowL.cell hr rfl))) rfl rfl ?_
    refine SS.val (R.move rfl rfl) rfl rfl ?_
    refine SS.val (R.load rfl rfl (I.ldM (by assumption) rfl rfl)) rfl rfl ?_
    refine SS.val (R.index rfl rfl rfl (I.ixS rfl (by omega))) rfl rfl ?_
    refine SS.nil ?_
    (refine LL.storeR i (t.1, x, t.2.2) rfl rfl (by show 0 + i * 8 = i * 8; omega) rfl rfl lastEnc ha (by omega) rfl rfl ?_; intro Wc121 ra grc119 z6)
    have zgrc119 := grc119.size
    replace r5 := r5.gr grc119 (by have := r5.lt; omega)
    replace c5 := c5.gr grc119 (by have := c5.lt; omega)
    replace rg2 := rg2.gr grc119 (by have := rg2.lt; omega)
    replace hr := hr.gr grc119 (by have := hr.lt; omega)
    replace hn := hn.gr grc119 (by have := hn.lt; omega)
    replace hok := hok.trans (grown_kept grc119 (fun j h => by have := h.1; have := hok.size; omega) (fun j h e => by cases e; have h2 := h.1; have h3 := h.2; omega))
    refine LL.nil ?_
    refine EE.inN ?_
    refine EE.round (ts.set i (t.1, x, t.2.2), (fun a => left a ∧ a ≠ i), cn) ⟨rfl, rfl, trivial⟩ ⟨hok, by omega, hr, hn, ra, rg2, by show (ts.set i _).length = N; rw [List.length_set]; exact hlt, ?_⟩ (by show cn < cnt; exact hcn)
    intro j c' t' hj ht'
    simp only at ht' ⊢
    rw [List.getElem?_set] at ht'
    by_cases hji : i = j
    · subst hji
      rw [if_pos rfl, if_pos (by omega)] at ht'
      cases ht'
      rw [hc] at hj
      cases hj
      refine ⟨fun h => absurd rfl h.2, fun _ => ?_⟩
      rw [hcx]
      rfl
    · rw [if_neg hji] at ht'
      have := hall j c' t' hj ht'
      exact ⟨fun h => this.1 h.1, fun h => this.2 fun hl => h ⟨hl, fun e => hji e.symm⟩⟩
end Go.Proofs.Ytajfffoaebjnlaa
/- Maps in drawn regions that make memory. Over any program. -/
namespace Go.Proofs.Ytajfffoaebjnlaa
set_option linter.unusedVariables false
set_option linter.unusedSimpArgs false
open Go.RowKit Go.Shelf
section
variable {P : Program} {w : World} {t : TypeId} {o : Oper} {x y : Operand} {n i : Nat} {D : List Deferred} {M : Slots} {ops : Array Oper} {ok : World → Prop} {K : Slots → World → Prop}
theorem ZR.makeMap (hi : ops[i]? = some o) (hr : Runs P n D M o w (.value (.map (some w.heap.size))) (w.alloc (.map #[] 0))) (hd : dstB n o.dst = true) (hg : wantB ops M o.guard = some true)
    (c : ∀ w1 g, g = w.heap.size → (∀ (α β : Type) (d : TypeDesc) (ke : α → Value) (ve : β → Value), MapK d ke ve w1 g 0 (fun _ => none)) → w1.heap.size = g + 1 → Below w.heap.size w w1 → ok w1 ∧ K (putM M o.dst (.map (some g))) w1) : SR P ops ok i K n D M w :=
  have h := c _ _ rfl (fun _ _ _ _ _ => (MapK.made w).2 fun _ => rfl) (by simp) (Below.alloc0 w _)
  SR.val hi hr hd hg h.1 h.2
end
end Go.Proofs.Ytajfffoaebjnlaa
/- pmem: Copy. pmem: equal lines, equal lists; Same. pmem: the open lines, one by one. pmem: values of a list, one by one; collected. pmem: what a crash may keep. pmem: Crash. -/
namespace Go.Proofs.Ytajfffoaebjnlaa
set_option linter.unusedVariables false
set_option linter.unusedSimpArgs false
open Go.RowKit Go.Shelf
set_option maxRecDepth 100000
set_option maxHeartbeats 4000000
theorem lE_ints (x : Ln) : lE x = intsZ .u64 (x.1.map fun n : Nat => (n : Int)) := by
  unfold lE ints intsZ
  rw [List.map_map]
  rfl
theorem ln_inj {x y : Ln} : (x.1.map fun n : Nat => (n : Int)) = y.1.map (fun n : Nat => (n : Int)) ↔ x = y := by
  constructor
  · intro h
    refine Subtype.ext ((List.map_inj_right (fun a b hab => ?_)).1 h)
    omega
  · rintro rfl
    rfl
section
variable {w : World} {n : Nat} {D : List Deferred} {M : Slots} {o : Oper} {a b : Operand} {t u : TypeId} {x y : Ln}
theorem R.neLT (ho : o.op = .binOp .neq t a b u) (hx : evM M a = some (.agg (lE x).toArray)) (hy : evM M b = some (.agg (lE y).toArray)) (hu : Try.prog.underlying t = some (.array 8 37)) (ht : aggB Try.prog t = true) (hg : Try.prog.eqGuardType Try.prog.depth t = false) (h : x = y) : Runs Try.prog n D M o w (.value (.bool false)) w := by
  rw [lE_ints] at hx hy
  exact R.neZT ho hx hy hu Try.underlying37 rfl (by decide) ht hg (by rw [List.length_map]; exact x.2) (by rw [List.length_map]; exact y.2) (ln_inj.2 h)
theorem R.neLF (ho : o.op = .binOp .neq t a b u) (hx : evM M a = some (.agg (lE x).toArray)) (hy : evM M b = some (.agg (lE y).toArray)) (hu : Try.prog.underlying t = some (.array 8 37)) (ht : aggB Try.prog t = true) (hg : Try.prog.eqGuardType Try.prog.depth t = false) (h : x ≠ y) : Runs Try.prog n D M o w (.value (.bool true)) w := by
  rw [lE_ints] at hx hy
  exact R.neZF ho hx hy hu Try.underlying37 rfl (by decide) ht hg (by rw [List.length_map]; exact x.2) (by rw [List.length_map]; exact y.2) (fun e => h (ln_inj.1 e))
end
set_option maxRecDepth 100000
set_option maxHeartbeats 4000000
/-- Is a line open? -/
def opC (c : Cl) : Prop := c.1 ≠ c.2.1 ∨ ∃ x, c.2.2 = some x ∧ x ≠ c.2.1
instance (c : Cl) : Decidable (opC c) := by
  unfold opC
  cases h : c.2.2 with
  | none => exact decidable_of_iff (c.1 ≠ c.2.1) ⟨.inl, fun h => h.elim id fun ⟨x, e, _⟩ => by cases e⟩
  | some x => exact decidable_of_iff (c.1 ≠ c.2.1 ∨ x ≠ c.2.1) ⟨fun h => h.imp id fun h => ⟨x, rfl, h⟩, fun h => h.imp id fun ⟨y, e, h⟩ => by cases e; exact h⟩
/-- The first k lines that are open. -/
def opF (s : List Cl) : Nat → List Nat
  | 0 => []
  | k + 1 => opF s k ++ match s[k]? with
    | some c => if opC c then [k] else []
    | none => []
def opS (s : List Cl) : List Nat := opF s s.length
theorem opF_pre (s : List Cl) (j k : Nat) (h : j ≤ k) : opF s j <+: opF s k := by
  induction k with
  | zero => obtain rfl : j = 0 := by omega
            exact List.prefix_refl _
  | succ k ih =>
    by_cases hj : j = k + 1
    · subst hj; exact List.prefix_refl _
    · exact (ih (by omega)).trans (List.prefix_append _ _)
theorem opF_yes {s : List Cl} {k : Nat} {c : Cl} (hc : s[k]? = some c) (h : opC c) : opF s (k + 1) = opF s k ++ [k] := by
  show opF s k ++ (match s[k]? with | some c => if opC c then [k] else [] | none => []) = _
  rw [hc]
  simp only [if_pos h]
theorem opF_no {s : List Cl} {k : Nat} {c : Cl} (hc : s[k]? = some c) (h : ¬opC c) : opF s (k + 1) = opF s k := by
  show opF s k ++ (match s[k]? with | some c => if opC c then [k] else [] | none => []) = _
  rw [hc]
  simp only [if_neg h, List.append_nil]
theorem opF_lt {s : List Cl} : ∀ {k : Nat}, ∀ i ∈ opF s k, i < k ∧ ∃ c, s[i]? = some c ∧ opC c
  | 0, i, h => by cases h
  | k + 1, i, h => by
    rcases List.mem_append.1 h with h | h
    · obtain ⟨h1, h2⟩ := opF_lt i h
      exact ⟨by omega, h2⟩
    · cases hc : s[k]? with
      | none => rw [hc] at h; cases h
      | some c =>
        rw [hc] at h
        simp only at h
        split at h
        · rename_i ho
          obtain rfl := List.mem_singleton.1 h
          exact ⟨by omega, c, hc, ho⟩
        · cases h
theorem opF_len {s : List Cl} : ∀ (k : Nat), (opF s k).length ≤ k
  | 0 => Nat.le_refl _
  | k + 1 => by
    have := opF_len (s := s) k
    show (opF s k ++ _).length ≤ _
    rw [List.length_append]
    have : (match s[k]? with | some c => if opC c then [k] else [] | none => [] : List Nat).length ≤ 1 := by
      split
      · split <;> simp
      · simp
    omega
theorem Mem.gr {w w' : World} {m gn gl qb N g : Nat} {s : List Cl} (M : Mem w m gn gl qb N s) (h : w.grownBy w' (some g)) (hne : m ≠ g ∧ gn ≠ g ∧ gl ≠ g ∧ qb ≠ g) : Mem w' m gn gl qb N s :=
  ⟨M.row.gr h hne.1, M.now.gr h hne.2.1, M.last.gr h hne.2.2.1, M.qs.gr h hne.2.2.2, M.len, M.pos, M.le, M.ne⟩
theorem Mem.keeps {w w' : World} {m gn gl qb N : Nat} {s : List Cl} {D : Nat → Prop} (M : Mem w m gn gl qb N s) (k : Keeps D w w') (h1 : D m) (h2 : D gn) (h3 : D gl) (h4 : D qb) : Mem w' m gn gl qb N s :=
  ⟨M.row.same (k.same m h1), M.now.same (k.same gn h2), M.last.same (k.same gl h3), M.qs.same (k.same qb h4), M.len, M.pos, M.le, M.ne⟩
def iE (n : Nat) : List Value := [.int .i64 (n : Int)]
set_option maxRecDepth 100000
set_option maxHeartbeats 8000000
theorem open1_gives (bk m gn gl qb N : Nat) (s : List Cl) (w : World) (hb : RowL w bk 26 [.pointer (some ⟨m, 0, none⟩)]) (M : Mem w m gn gl qb N s) :
    GivesZ Try.prog 62 [Value.pointer (some ⟨bk, 0, none⟩)].toArray (fun x => (iE x).toArray) (fun k => k = bk ∨ k = m ∨ k = gn ∨ k = gl ∨ k = qb) (fun xs => xs = opS s) w := by
  intro lp J Jx W hW hJ hJx hY h0
  replace hb := hb.up hW
  replace M := M.up hW
  have q := Below.refl W.heap.size W
  rw [show (#[.func (.yield lp) #[] #[]] ++ [Value.pointer (some ⟨bk, 0, none⟩)].toArray : Array Value) = #[.func (.yield lp) #[] #[], .pointer (some ⟨bk, 0, none⟩)] from rfl]
  have hr := M.row
  have hpos := M.pos
  have hN := M.le
  have hl := M.len
  have lts := M.lts
  have lb := hb.lt
  refine X.fn Try.func62 rfl (n := 51) rfl rfl ?_
  refine CC.seq ?_
  refine CC.region ?_
  refine LL.val (R.load rfl rfl (I.ld1 rfl (RowL.cell hb rfl))) rfl rfl rfl ?_
  refine LL.val (R.nil rfl rfl) rfl rfl rfl ?_
  refine LL.val (R.field rfl rfl (I.fld rfl)) rfl rfl rfl ?_
  refine LL.val (R.load rfl rfl (I.ld1 rfl (RowL.cell hr rfl))) rfl rfl rfl ?_
  refine LL.val (R.len rfl rfl rfl rfl) rfl rfl rfl ?_
  refine LL.val (R.move rfl rfl) rfl rfl rfl ?_
  refine LL.nilS ?_
  refine CC.block ?_
  refine CC.loop (α := Nat) (fun i => [(0, .func (.yield lp) #[] #[]), (1, .pointer (some ⟨bk, 0, none⟩)), (10, .slice (some ⟨gl, 0, none⟩) N N), (11, .int .i64 (N : Int)), (12, .int .i64 (i : Int))])
    (fun i wr => i ≤ N ∧ W.heap.size ≤ wr.heap.size ∧ J (fun _ => False) (opF s i) wr ∧ RowL wr bk 26 [.pointer (some ⟨m, 0, none⟩)] ∧ Mem wr m gn gl qb N s) (fun i => N - i)
    0 ⟨rfl, rfl, rfl, rfl, rfl, trivial⟩ ⟨by show 0 ≤ N; omega, Nat.le_refl _, h0, hb, M⟩ ?_
  clear h0 q hb M hr
  rintro i wr ⟨hi, hz, hJi, hb, M⟩
  show CC none Try.prog _ 51 [] (sl [(0, .func (.yield lp) #[] #[]), (1, .pointer (some ⟨bk, 0, none⟩)), (10, .slice (some ⟨gl, 0, none⟩) N N), (11, .int .i64 (N : Int)), (12, .int .i64 (i : Int))]) _ wr
  by_cases hlt : i < N
  case neg =>
    obtain rfl : i = N := by omega
    rw [← hl] at hJi
    refine CC.seq ?_
    refine CC.region ?_
    refine LL.val (R.ltF rfl rfl rfl (by omega)) rfl rfl rfl ?_
    refine LL.nilS ?_
    refine CC.seq ?_
    refine CC.no rfl ?_
    refine CC.exit ?_
    refine EE.thenX ?_
    refine EE.thenX ?_
    refine EE.inX ?_
    refine EE.end _ rfl rfl ?_
    exact ⟨⟨_, rfl⟩, .inl ⟨_, _, rfl, hJi⟩⟩
  obtain ⟨c, hc⟩ : ∃ c, s[i]? = some c := ⟨_, List.getElem?_eq_getElem (by omega)⟩
  have hr := M.row
  have hq := M.qs
  have qn := Below.refl wr.heap.size wr
  have m1 : CellsN wr ⟨gl, 0 + i * 8, none⟩ 8 (lE c.2.1) := by rw [Nat.zero_add]; exact RowL.elemN (enc := lastE) (x := c) lastEnc M.last hc
  have m2 : CellsN wr ⟨gn, 0 + i * 8, none⟩ 8 (lE c.1) := by rw [Nat.zero_add]; exact RowL.elemN (enc := nowE) (x := c) nowEnc M.now hc
  have hqa := qF_at hc
  have lw := M.lts
  have lbw := hb.lt
  by_cases ho : opC c
  case neg =>
    have hno := opF_no hc ho
    have h1 : c.1 = c.2.1 := Decidable.not_not.1 fun h => ho (.inl h)
    have fin : ∀ Wf, Below wr.heap.size wr Wf → RowL Wf bk 26 [.pointer (some ⟨m, 0, none⟩)] → Mem Wf m gn gl qb N s → W.heap.size ≤ Wf.heap.size ∧ J (fun _ => False) (opF s (i + 1)) Wf := fun Wf b _ _ => ⟨by have := b.size; omega, by rw [hno]; exact hJ _ _ _ _ _ hJi (.of_below b) fun k hk => hk.elim⟩
    cases hx : c.2.2 with
    | none =>
      rw [hx] at hqa
      refine CC.seq ?_
      refine CC.region ?_
      refine LL.val (R.ltT rfl rfl rfl (by omega)) rfl rfl rfl ?_
      refine LL.nilS ?_
      refine CC.seq ?_
      refine CC.yes rfl ?_
      refine CC.skip ?_
      refine EE.thenN ?_
      refine CC.seq ?_
      refine CC.block ?_
      refine CC.seq ?_
      refine CC.region ?_
      refine LL.val (R.move rfl rfl) rfl rfl rfl ?_
      refine LL.val (R.index rfl rfl rfl (I.ixS rfl (by omega))) rfl rfl rfl ?_
      refine LL.val (R.load rfl rfl (I.ldM (by assumption) rfl rfl)) rfl rfl rfl ?_
      have lb36 := hb.lt
      have lb37 := hr.lt
      refine LL.alloc ([Value.int IntKind.u64 0, Value.int IntKind.u64 0, Value.int IntKind.u64 0, Value.int IntKind.u64 0, Value.int IntKind.u64 0, Value.int IntKind.u64 0, Value.int IntKind.u64 0, Value.int IntKind.u64 0]) rfl rfl rfl rfl rfl ?_
      intro Wb39 gb40 egb40 rb41 zb42 bb38
      replace hb := hb.up bb38
      replace M := M.up bb38
      replace hr := hr.up bb38
      replace hq := hq.up bb38
      replace qn := qn.trans (bb38.mono qn.size)
      replace m1 := m1.up bb38
      replace m2 := m2.up bb38
      refine LL.val (R.assign rfl rfl) rfl rfl rfl ?_
      (refine LL.storeAll rfl rfl rfl rfl (lE_len _) (by assumption) rfl (lE_one _) rfl rfl ?_; intro Wb53 rxb54 grb51 zzb56; have cyb55 := ln_cells rxb54)
      have zgrb51 := grb51.size
      replace bb38 := bb38.grown grb51 bb38.size (by rintro k ⟨⟩; omega)
      replace hb := hb.gr grb51 (by have := hb.lt; omega)
      replace M := M.gr grb51 (by omega)
      replace hr := hr.gr grb51 (by have := hr.lt; omega)
      replace hq := hq.gr grb51 (by have := hq.lt; omega)
      replace qn := qn.grown grb51 qn.size (by rintro k ⟨⟩; omega)
      replace m1 := m1.gr grb51 (by have := m1.lt; omega)
      replace m2 := m2.gr grb51 (by have := m2.lt; omega)
      refine LL.nilS ?_
      refine CC.seq ?_
      refine CC.region ?_
      refine LL.val (R.load rfl rfl (I.ld1 rfl (RowL.cell hb rfl))) rfl rfl rfl ?_
      refine LL.val (R.nil rfl rfl) rfl rfl rfl ?_
      refine LL.val (R.field rfl rfl (I.fld rfl)) rfl rfl rfl ?_
      refine LL.val (R.load rfl rfl (I.ld1 rfl (RowL.cell hr rfl))) rfl rfl rfl ?_
      refine LL.val (R.move rfl rfl) rfl rfl rfl ?_
      (refine LL.val (R.lookKF (z := lV zL) rfl rfl iKeys (by rfl) (by kernel_rfl) hq i rfl hqa) rfl rfl rfl ?_)
      refine LL.val (R.move rfl rfl) rfl rfl rfl ?_
      refine LL.val (R.extract rfl rfl rfl) rfl rfl rfl ?_
      refine LL.val (R.extract rfl rfl rfl) rfl rfl rfl ?_
      have lb127 := rxb54.lt
      have lb128 := hb.lt
      have lb129 := hr.lt
      refine LL.alloc ([Value.int IntKind.u64 0, Value.int IntKind.u64 0, Value.int IntKind.u64 0, Value.int IntKind.u64 0, Value.int IntKind.u64 0, Value.int IntKind.u64 0, Value.int IntKind.u64 0, Value.int IntKind.u64 0]) rfl rfl rfl rfl rfl ?_
      intro Wb131 gb132 egb132 rb133 zb134 bb130
      replace rxb54 := rxb54.up bb130
      replace cyb55 := cyb55.up bb130
      replace bb38 := bb38.trans (bb130.mono bb38.size)
      replace hb := hb.up bb130
      replace M := M.up bb130
      replace hr := hr.up bb130
      replace hq := hq.up bb130
      replace qn := qn.trans (bb130.mono qn.size)
      replace m1 := m1.up bb130
      replace m2 := m2.up bb130
      refine LL.storeN (vs := [(fun n => Value.int IntKind.u64 ↑n) 0, (fun n => Value.int IntKind.u64 ↑n) 0, (fun n => Value.int IntKind.u64 ↑n) 0, (fun n => Value.int IntKind.u64 ↑n) 0, (fun n => Value.int IntKind.u64 ↑n) 0, (fun n => Value.int IntKind.u64 ↑n) 0, (fun n => Value.int IntKind.u64 ↑n) 0, (fun n => Value.int IntKind.u64 ↑n) 0]) rfl rfl rfl rfl rb133 (by exact Nat.le_of_ble_eq_true rfl) (ones_of rfl) rfl rfl ?_
      intro Wb143 rb144 bb142 zb145
      have hlbb142 := rb133.lt
      replace rb144 : RowL Wb143 _ 79 [(fun n => Value.int IntKind.u64 ↑n) 0, (fun n => Value.int IntKind.u64 ↑n) 0, (fun n => Value.int IntKind.u64 ↑n) 0, (fun n => Value.int IntKind.u64 ↑n) 0, (fun n => Value.int IntKind.u64 ↑n) 0, (fun n => Value.int IntKind.u64 ↑n) 0, (fun n => Value.int IntKind.u64 ↑n) 0, (fun n => Value.int IntKind.u64 ↑n) 0] := rb144
      clear rb133
      replace bb130 := bb130.grown bb142 bb130.size (by rintro k ⟨⟩; omega)
      replace rxb54 := rxb54.gr bb142 (by have := rxb54.lt; omega)
      replace cyb55 := cyb55.gr bb142 (by have := cyb55.lt; omega)
      replace bb38 := bb38.grown bb142 bb38.size (by rintro k ⟨⟩; omega)
      replace hb := hb.gr bb142 (by have := hb.lt; omega)
      replace M := M.gr bb142 (by omega)
      replace hr := hr.gr bb142 (by have := hr.lt; omega)
      replace hq := hq.gr bb142 (by have := hq.lt; omega)
      replace qn := qn.grown bb142 qn.size (by rintro k ⟨⟩; omega)
      replace m1 := m1.gr bb142 (by have := m1.lt; omega)
      replace m2 := m2.gr bb142 (by have := m2.lt; omega)
      have rb133 := rb144
      clear rb144
      refine LL.val (R.assign rfl rfl) rfl rfl rfl ?_
      refine LL.nilS ?_
      refine CC.seq ?_
      refine CC.growT 21 (by kernel_rfl) (by kernel_rfl) ?_
      refine GG.val (fun w' b' => R.load rfl rfl (I.ld1 rfl (RowL.cell (hb.up b') rfl))) rfl rfl ?_
      refine GG.val (fun w' b' => R.nil rfl rfl) rfl rfl ?_
      refine GG.val (fun w' b' => R.field rfl rfl (I.fld rfl)) rfl rfl ?_
      refine GG.val (fun w' b' => R.field rfl rfl (I.fld rfl)) rfl rfl ?_
      refine GG.val (fun w' b' => R.load rfl rfl (I.ld1 rfl (RowL.cell (hr.up b') rfl))) rfl rfl ?_
      refine GG.val (fun w' b' => R.move rfl rfl) rfl rfl ?_
      refine GG.val (fun w' b' => R.index rfl rfl rfl (I.ixS rfl (by omega))) rfl rfl ?_
      refine GG.val (fun w' b' => R.load rfl rfl (I.ldM (CellsN.up (by assumption) b') rfl rfl)) rfl rfl ?_
      refine GG.val (fun w' b' => R.load rfl rfl (I.ldM (CellsN.up (by assumption) b') rfl rfl)) rfl rfl ?_
      (refine GG.val (fun w' b' => R.neLT rfl rfl rfl (by rfl) rfl (by kernel_rfl) h1) rfl rfl ?_)
      refine GG.val (fun w' b' => R.move rfl rfl) rfl rfl ?_
      refine GG.val (fun w' b' => R.move rfl rfl) rfl rfl ?_
      refine GG.val (fun w' b' => R.move rfl rfl) rfl rfl ?_
      refine GG.skip rfl rfl ?_
      refine GG.skip rfl rfl ?_
      refine GG.skip rfl rfl ?_
      refine GG.val (fun w' b' => R.pick rfl rfl rfl) rfl rfl ?_
      refine GG.val (fun w' b' => R.pick rfl rfl rfl) rfl rfl ?_
      refine GG.val (fun w' b' => R.move rfl rfl) rfl rfl ?_
      refine GG.skip rfl rfl ?_
      refine GG.skip rfl rfl ?_
      refine GG.nil (fun Wb269 bb268 => ?_)
      have zbb268 := bb268.size
      replace bb130 := bb130.trans (bb268.mono bb130.size)
      replace rxb54 := rxb54.up bb268
      replace cyb55 := cyb55.up bb268
      replace bb38 := bb38.trans (bb268.mono bb38.size)
      replace hb := hb.up bb268
      replace M := M.up bb268
      replace hr := hr.up bb268
      replace hq := hq.up bb268
      replace qn := qn.trans (bb268.mono qn.size)
      replace m1 := m1.up bb268
      replace m2 := m2.up bb268
      replace rb133 := rb133.up bb268
      refine LL.skip rfl rfl ?_
      refine LL.skip rfl rfl ?_
      refine LL.val (R.pick rfl rfl rfl) rfl rfl rfl ?_
      refine LL.nilS ?_
      refine CC.no rfl ?_
      refine CC.skip ?_
      refine EE.inN ?_
      refine EE.thenN ?_
      refine CC.region ?_
      refine LL.val (R.addNc rfl rfl rfl rfl (by omega)) rfl rfl rfl ?_
      refine LL.val (R.move rfl rfl) rfl rfl rfl ?_
      refine LL.nil ?_
      exact EE.round (i + 1) ⟨rfl, rfl, rfl, rfl, rfl, trivial⟩ ⟨by show i + 1 ≤ N; omega, (fin _ qn hb M).1, (fin _ qn hb M).2, hb, M⟩ (by show N - (i + 1) < N - i; omega)
    | some x =>
      rw [hx] at hqa
      have h2 : x = c.2.1 := Decidable.not_not.1 fun h => ho (.inr ⟨x, hx, h⟩)
      refine CC.seq ?_
      refine CC.region ?_
      refine LL.val (R.ltT rfl rfl rfl (by omega)) rfl rfl rfl ?_
      refine LL.nilS ?_
      refine CC.seq ?_
      refine CC.yes rfl ?_
      refine CC.skip ?_
      refine EE.thenN ?_
      refine CC.seq ?_
      refine CC.block ?_
      refine CC.seq ?_
      refine CC.region ?_
      refine LL.val (R.move rfl rfl) rfl rfl rfl ?_
      refine LL.val (R.index rfl rfl rfl (I.ixS rfl (by omega))) rfl rfl rfl ?_
      refine LL.val (R.load rfl rfl (I.ldM (by assumption) rfl rfl)) rfl rfl rfl ?_
      have lc36 := hb.lt
      have lc37 := hr.lt
      refine LL.alloc ([Value.int IntKind.u64 0, Value.int IntKind.u64 0, Value.int IntKind.u64 0, Value.int IntKind.u64 0, Value.int IntKind.u64 0, Value.int IntKind.u64 0, Value.int IntKind.u64 0, Value.int IntKind.u64 0]) rfl rfl rfl rfl rfl ?_
      intro Wc39 gc40 egc40 rc41 zc42 bc38
      replace hb := hb.up bc38
      replace M := M.up bc38
      replace hr := hr.up bc38
      replace hq := hq.up bc38
      replace qn := qn.trans (bc38.mono qn.size)
      replace m1 := m1.up bc38
      replace m2 := m2.up bc38
      refine LL.val (R.assign rfl rfl) rfl rfl rfl ?_
      (refine LL.storeAll rfl rfl rfl rfl (lE_len _) (by assumption) rfl (lE_one _) rfl rfl ?_; intro Wc53 rxc54 grc51 zzc56; have cyc55 := ln_cells rxc54)
      have zgrc51 := grc51.size
      replace bc38 := bc38.grown grc51 bc38.size (by rintro k ⟨⟩; omega)
      replace hb := hb.gr grc51 (by have := hb.lt; omega)
      replace M := M.gr grc51 (by omega)
      replace hr := hr.gr grc51 (by have := hr.lt; omega)
      replace hq := hq.gr grc51 (by have := hq.lt; omega)
      replace qn := qn.grown grc51 qn.size (by rintro k ⟨⟩; omega)
      replace m1 := m1.gr grc51 (by have := m1.lt; omega)
      replace m2 := m2.gr grc51 (by have := m2.lt; omega)
      refine LL.nilS ?_
      refine CC.seq ?_
      refine CC.region ?_
      refine LL.val (R.load rfl rfl (I.ld1 rfl (RowL.cell hb rfl))) rfl rfl rfl ?_
      refine LL.val (R.nil rfl rfl) rfl rfl rfl ?_
      refine LL.val (R.field rfl rfl (I.fld rfl)) rfl rfl rfl ?_
      refine LL.val (R.load rfl rfl (I.ld1 rfl (RowL.cell hr rfl))) rfl rfl rfl ?_
      refine LL.val (R.move rfl rfl) rfl rfl rfl ?_
      (refine LL.val (R.lookKT rfl rfl iKeys (by rfl) (z := lV zL) (by kernel_rfl) hq i rfl hqa) rfl rfl rfl ?_)
      refine LL.val (R.move rfl rfl) rfl rfl rfl ?_
      refine LL.val (R.extract rfl rfl rfl) rfl rfl rfl ?_
      refine LL.val (R.extract rfl rfl rfl) rfl rfl rfl ?_
      have lc127 := rxc54.lt
      have lc128 := hb.lt
      have lc129 := hr.lt
      refine LL.alloc ([Value.int IntKind.u64 0, Value.int IntKind.u64 0, Value.int IntKind.u64 0, Value.int IntKind.u64 0, Value.int IntKind.u64 0, Value.int IntKind.u64 0, Value.int IntKind.u64 0, Value.int IntKind.u64 0]) rfl rfl rfl rfl rfl ?_
      intro Wc131 gc132 egc132 rc133 zc134 bc130
      replace rxc54 := rxc54.up bc130
      replace cyc55 := cyc55.up bc130
      replace bc38 := bc38.trans (bc130.mono bc38.size)
      replace hb := hb.up bc130
      replace M := M.up bc130
      replace hr := hr.up bc130
      replace hq := hq.up bc130
      replace qn := qn.trans (bc130.mono qn.size)
      replace m1 := m1.up bc130
      replace m2 := m2.up bc130
      (refine LL.storeAll rfl rfl rfl rfl (lE_len _) (by assumption) rfl (lE_one _) rfl rfl ?_; intro Wc138 rxc139 grc136 zzc141; have cyc140 := ln_cells rxc139)
      have zgrc136 := grc136.size
      replace bc130 := bc130.grown grc136 bc130.size (by rintro k ⟨⟩; omega)
      replace rxc54 := rxc54.gr grc136 (by have := rxc54.lt; omega)
      replace cyc55 := cyc55.gr grc136 (by have := cyc55.lt; omega)
      replace bc38 := bc38.grown grc136 bc38.size (by rintro k ⟨⟩; omega)
      replace hb := hb.gr grc136 (by have := hb.lt; omega)
      replace M := M.gr grc136 (by omega)
      replace hr := hr.gr grc136 (by have := hr.lt; omega)
      replace hq := hq.gr grc136 (by have := hq.lt; omega)
      replace qn := qn.grown grc136 qn.size (by rintro k ⟨⟩; omega)
      replace m1 := m1.gr grc136 (by have := m1.lt; omega)
      replace m2 := m2.gr grc136 (by have := m2.lt; omega)
      refine LL.val (R.assign rfl rfl) rfl rfl rfl ?_
      refine LL.nilS ?_
      refine CC.seq ?_
      refine CC.growT 21 (by kernel_rfl) (by kernel_rfl) ?_
      refine GG.val (fun w' b' => R.load rfl rfl (I.ld1 rfl (RowL.cell (hb.up b') rfl))) rfl rfl ?_
      refine GG.val (fun w' b' => R.nil rfl rfl) rfl rfl ?_
      refine GG.val (fun w' b' => R.field rfl rfl (I.fld rfl)) rfl rfl ?_
      refine GG.val (fun w' b' => R.field rfl rfl (I.fld rfl)) rfl rfl ?_
      refine GG.val (fun w' b' => R.load rfl rfl (I.ld1 rfl (RowL.cell (hr.up b') rfl))) rfl rfl ?_
      refine GG.val (fun w' b' => R.move rfl rfl) rfl rfl ?_
      refine GG.val (fun w' b' => R.index rfl rfl rfl (I.ixS rfl (by omega))) rfl rfl ?_
      refine GG.val (fun w' b' => R.load rfl rfl (I.ldM (CellsN.up (by assumption) b') rfl rfl)) rfl rfl ?_
      refine GG.val (fun w' b' => R.load rfl rfl (I.ldM (CellsN.up (by assumption) b') rfl rfl)) rfl rfl ?_
      (refine GG.val (fun w' b' => R.neLT rfl rfl rfl (by rfl) rfl (by kernel_rfl) h1) rfl rfl ?_)
      refine GG.val (fun w' b' => R.move rfl rfl) rfl rfl ?_
      refine GG.val (fun w' b' => R.move rfl rfl) rfl rfl ?_
      refine GG.val (fun w' b' => R.move rfl rfl) rfl rfl ?_
      refine GG.val (fun w' b' => R.load rfl rfl (I.ldM (CellsN.up (by assumption) b') rfl rfl)) rfl rfl ?_
      refine GG.val (fun w' b' => R.load rfl rfl (I.ldM (CellsN.up (by assumption) b') rfl rfl)) rfl rfl ?_
      (refine GG.val (fun w' b' => R.neLT rfl rfl rfl (by rfl) rfl (by kernel_rfl) h2) rfl rfl ?_)
      refine GG.val (fun w' b' => R.pick rfl rfl rfl) rfl rfl ?_
      refine GG.val (fun w' b' => R.pick rfl rfl rfl) rfl rfl ?_
      refine GG.val (fun w' b' => R.move rfl rfl) rfl rfl ?_
      refine GG.skip rfl rfl ?_
      refine GG.skip rfl rfl ?_
      refine GG.nil (fun Wc286 bc285 => ?_)
      have zbc285 := bc285.size
      replace rxc139 := rxc139.up bc285
      replace cyc140 := cyc140.up bc285
      replace bc130 := bc130.trans (bc285.mono bc130.size)
      replace rxc54 := rxc54.up bc285
      replace cyc55 := cyc55.up bc285
      replace bc38 := bc38.trans (bc285.mono bc38.size)
      replace hb := hb.up bc285
      replace M := M.up bc285
      replace hr := hr.up bc285
      replace hq := hq.up bc285
      replace qn := qn.trans (bc285.mono qn.size)
      replace m1 := m1.up bc285
      replace m2 := m2.up bc285
      refine LL.skip rfl rfl ?_
      refine LL.skip rfl rfl ?_
      refine LL.val (R.pick rfl rfl rfl) rfl rfl rfl ?_
      refine LL.nilS ?_
      refine CC.no rfl ?_
      refine CC.skip ?_
      refine EE.inN ?_
      refine EE.thenN ?_
      refine CC.region ?_
      refine LL.val (R.addNc rfl rfl rfl rfl (by omega)) rfl rfl rfl ?_
      refine LL.val (R.move rfl rfl) rfl rfl rfl ?_
      refine LL.nil ?_
      exact EE.round (i + 1) ⟨rfl, rfl, rfl, rfl, rfl, trivial⟩ ⟨by show i + 1 ≤ N; omega, (fin _ qn hb M).1, (fin _ qn hb M).2, hb, M⟩ (by show N - (i + 1) < N - i; omega)
  have hys := opF_yes hc ho
  have hpart : Part (fun xs => xs = opS s) (opF s i ++ [i]) := ⟨_, rfl, by rw [← hys]; exact opF_pre s _ _ (by omega)⟩
  have fin : ∀ Wf, Below wr.heap.size wr Wf → J (fun _ => False) (opF s i) Wf := fun Wf b => hJ _ _ _ _ _ hJi (.of_below b) fun k hk => hk.elim
  have key : ∀ Wf, Below wr.heap.size wr Wf → YieldAt Fence.wide 3 Try.prog lp (iE i).toArray Wf fun e W' => StaysZ W.heap.size (fun _ => False) Wf W' ∧ ((e = .returned (.bool true) ∧ J (fun _ => False) (opF s i ++ [i]) W' ∧ Keeps (fun k => k = bk ∨ k = m ∨ k = gn ∨ k = gl ∨ k = qb) Wf W') ∨ (e = .returned (.bool false) ∧ Jx (fun _ => False) (opF s i ++ [i]) W')) :=
    fun Wf b => hY _ _ _ Wf (fun k hk => hk.elim) (fin Wf b) hpart
  clear hJi
  have yield : ∀ Wf, Below wr.heap.size wr Wf → RowL Wf bk 26 [.pointer (some ⟨m, 0, none⟩)] → Mem Wf m gn gl qb N s → YieldAt Fence.wide 3 Try.prog lp (iE i).toArray Wf fun e W' => (e = .returned (.bool true) ∧ W.heap.size ≤ W'.heap.size ∧ J (fun _ => False) (opF s (i + 1)) W' ∧ RowL W' bk 26 [.pointer (some ⟨m, 0, none⟩)] ∧ Mem W' m gn gl qb N s) ∨ (e = .returned (.bool false) ∧ Jx (fun _ => False) (opF s i ++ [i]) W') := fun Wf b hb M => by
    obtain ⟨fn, tm, ag, bd, hy, hR⟩ := key Wf b
    refine ⟨fn, tm, ag, bd, hy, hR.mono ?_⟩
    rintro e W' ⟨hs, (⟨rfl, h1, h2⟩ | ⟨rfl, h1⟩)⟩
    · exact .inl ⟨rfl, by have := hs.size; have := b.size; omega, by rw [hys]; exact h1, hb.same (h2.same bk (.inl rfl)), M.keeps h2 (.inr (.inl rfl)) (.inr (.inr (.inl rfl))) (.inr (.inr (.inr (.inl rfl)))) (.inr (.inr (.inr (.inr rfl))))⟩
    · exact .inr ⟨rfl, h1⟩
  clear key fin
  by_cases h1 : c.1 = c.2.1
  · obtain ⟨x, hx, h2⟩ : ∃ x, c.2.2 = some x ∧ x ≠ c.2.1 := ho.elim (fun h => absurd h1 h) id
    rw [hx] at hqa
    refine CC.seq ?_
    refine CC.region ?_
    refine LL.val (R.ltT rfl rfl rfl (by omega)) rfl rfl rfl ?_
    refine LL.nilS ?_
    refine CC.seq ?_
    refine CC.yes rfl ?_
    refine CC.skip ?_
    refine EE.thenN ?_
    refine CC.seq ?_
    refine CC.block ?_
    refine CC.seq ?_
    refine CC.region ?_
    refine LL.val (R.move rfl rfl) rfl rfl rfl ?_
    refine LL.val (R.index rfl rfl rfl (I.ixS rfl (by omega))) rfl rfl rfl ?_
    refine LL.val (R.load rfl rfl (I.ldM (by assumption) rfl rfl)) rfl rfl rfl ?_
    have ld36 := hb.lt
    have ld37 := hr.lt
    refine LL.alloc ([Value.int IntKind.u64 0, Value.int IntKind.u64 0, Value.int IntKind.u64 0, Value.int IntKind.u64 0, Value.int IntKind.u64 0, Value.int IntKind.u64 0, Value.int IntKind.u64 0, Value.int IntKind.u64 0]) rfl rfl rfl rfl rfl ?_
    intro Wd39 gd40 egd40 rd41 zd42 bd38
    replace hb := hb.up bd38
    replace M := M.up bd38
    replace hr := hr.up bd38
    replace hq := hq.up bd38
    replace qn := qn.trans (bd38.mono qn.size)
    replace m1 := m1.up bd38
    replace m2 := m2.up bd38
    refine LL.val (R.assign rfl rfl) rfl rfl rfl ?_
    (refine LL.storeAll rfl rfl rfl rfl (lE_len _) (by assumption) rfl (lE_one _) rfl rfl ?_; intro Wd53 rxd54 grd51 zzd56; have cyd55 := ln_cells rxd54)
    have zgrd51 := grd51.size
    replace bd38 := bd38.grown grd51 bd38.size (by rintro k ⟨⟩; omega)
    replace hb := hb.gr grd51 (by have := hb.lt; omega)
    replace M := M.gr grd51 (by omega)
    replace hr := hr.gr grd51 (by have := hr.lt; omega)
    replace hq := hq.gr grd51 (by have := hq.lt; omega)
    replace qn := qn.grown grd51 qn.size (by rintro k ⟨⟩; omega)
    replace m1 := m1.gr grd51 (by have := m1.lt; omega)
    replace m2 := m2.gr grd51 (by have := m2.lt; omega)
    refine LL.nilS ?_
    refine CC.seq ?_
    refine CC.region ?_
    refine LL.val (R.load rfl rfl (I.ld1 rfl (RowL.cell hb rfl))) rfl rfl rfl ?_
    refine LL.val (R.nil rfl rfl) rfl rfl rfl ?_
    refine LL.val (R.field rfl rfl (I.fld rfl)) rfl rfl rfl ?_
    refine LL.val (R.load rfl rfl (I.ld1 rfl (RowL.cell hr rfl))) rfl rfl rfl ?_
    refine LL.val (R.move rfl rfl) rfl rfl rfl ?_
    (refine LL.val (R.lookKT rfl rfl iKeys (by rfl) (z := lV zL) (by kernel_rfl) hq i rfl hqa) rfl rfl rfl ?_)
    refine LL.val (R.move rfl rfl) rfl rfl rfl ?_
    refine LL.val (R.extract rfl rfl rfl) rfl rfl rfl ?_
    refine LL.val (R.extract rfl rfl rfl) rfl rfl rfl ?_
    have ld127 := rxd54.lt
    have ld128 := hb.lt
    have ld129 := hr.lt
    refine LL.alloc ([Value.int IntKind.u64 0, Value.int IntKind.u64 0, Value.int IntKind.u64 0, Value.int IntKind.u64 0, Value.int IntKind.u64 0, Value.int IntKind.u64 0, Value.int IntKind.u64 0, Value.int IntKind.u64 0]) rfl rfl rfl rfl rfl ?_
    intro Wd131 gd132 egd132 rd133 zd134 bd130
    replace rxd54 := rxd54.up bd130
    replace cyd55 := cyd55.up bd130
    replace bd38 := bd38.trans (bd130.mono bd38.size)
    replace hb := hb.up bd130
    replace M := M.up bd130
    replace hr := hr.up bd130
    replace hq := hq.up bd130
    replace qn := qn.trans (bd130.mono qn.size)
    replace m1 := m1.up bd130
    replace m2 := m2.up bd130
    (refine LL.storeAll rfl rfl rfl rfl (lE_len _) (by assumption) rfl (lE_one _) rfl rfl ?_; intro Wd138 rxd139 grd136 zzd141; have cyd140 := ln_cells rxd139)
    have zgrd136 := grd136.size
    replace bd130 := bd130.grown grd136 bd130.size (by rintro k ⟨⟩; omega)
    replace rxd54 := rxd54.gr grd136 (by have := rxd54.lt; omega)
    replace cyd55 := cyd55.gr grd136 (by have := cyd55.lt; omega)
    replace bd38 := bd38.grown grd136 bd38.size (by rintro k ⟨⟩; omega)
    replace hb := hb.gr grd136 (by have := hb.lt; omega)
    replace M := M.gr grd136 (by omega)
    replace hr := hr.gr grd136 (by have := hr.lt; omega)
    replace hq := hq.gr grd136 (by have := hq.lt; omega)
    replace qn := qn.grown grd136 qn.size (by rintro k ⟨⟩; omega)
    replace m1 := m1.gr grd136 (by have := m1.lt; omega)
    replace m2 := m2.gr grd136 (by have := m2.lt; omega)
    refine LL.val (R.assign rfl rfl) rfl rfl rfl ?_
    refine LL.nilS ?_
    refine CC.seq ?_
    refine CC.growT 21 (by kernel_rfl) (by kernel_rfl) ?_
    refine GG.val (fun w' b' => R.load rfl rfl (I.ld1 rfl (RowL.cell (hb.up b') rfl))) rfl rfl ?_
    refine GG.val (fun w' b' => R.nil rfl rfl) rfl rfl ?_
    refine GG.val (fun w' b' => R.field rfl rfl (I.fld rfl)) rfl rfl ?_
    refine GG.val (fun w' b' => R.field rfl rfl (I.fld rfl)) rfl rfl ?_
    refine GG.val (fun w' b' => R.load rfl rfl (I.ld1 rfl (RowL.cell (hr.up b') rfl))) rfl rfl ?_
    refine GG.val (fun w' b' => R.move rfl rfl) rfl rfl ?_
    refine GG.val (fun w' b' => R.index rfl rfl rfl (I.ixS rfl (by omega))) rfl rfl ?_
    refine GG.val (fun w' b' => R.load rfl rfl (I.ldM (CellsN.up (by assumption) b') rfl rfl)) rfl rfl ?_
    refine GG.val (fun w' b' => R.load rfl rfl (I.ldM (CellsN.up (by assumption) b') rfl rfl)) rfl rfl ?_
    (refine GG.val (fun w' b' => R.neLT rfl rfl rfl (by rfl) rfl (by kernel_rfl) h1) rfl rfl ?_)
    refine GG.val (fun w' b' => R.move rfl rfl) rfl rfl ?_
    refine GG.val (fun w' b' => R.move rfl rfl) rfl rfl ?_
    refine GG.val (fun w' b' => R.move rfl rfl) rfl rfl ?_
    refine GG.val (fun w' b' => R.load rfl rfl (I.ldM (CellsN.up (by assumption) b') rfl rfl)) rfl rfl ?_
    refine GG.val (fun w' b' => R.load rfl rfl (I.ldM (CellsN.up (by assumption) b') rfl rfl)) rfl rfl ?_
    (refine GG.val (fun w' b' => R.neLF rfl rfl rfl (by rfl) rfl (by kernel_rfl) h2) rfl rfl ?_)
    refine GG.val (fun w' b' => R.pick rfl rfl rfl) rfl rfl ?_
    refine GG.val (fun w' b' => R.pick rfl rfl rfl) rfl rfl ?_
    refine GG.val (fun w' b' => R.move rfl rfl) rfl rfl ?_
    refine GG.val (fun w' b' => R.move rfl rfl) rfl rfl ?_
    refine GG.val (fun w' b' => R.move rfl rfl) rfl rfl ?_
    refine GG.nil (fun Wd300 bd299 => ?_)
    have zbd299 := bd299.size
    replace rxd139 := rxd139.up bd299
    replace cyd140 := cyd140.up bd299
    replace bd130 := bd130.trans (bd299.mono bd130.size)
    replace rxd54 := rxd54.up bd299
    replace cyd55 := cyd55.up bd299
    replace bd38 := bd38.trans (bd299.mono bd38.size)
    replace hb := hb.up bd299
    replace M := M.up bd299
    replace hr := hr.up bd299
    replace hq := hq.up bd299
    replace qn := qn.trans (bd299.mono qn.size)
    replace m1 := m1.up bd299
    replace m2 := m2.up bd299
    refine LL.yield (vs := iE i) rfl rfl rfl rfl rfl (yield _ qn hb M) ?_
    rintro e W4 (⟨rfl, z4, hJ4, hb4, M4⟩ | ⟨rfl, hJx4⟩)
    · refine ⟨_, rfl, ?_⟩
      clear hb M qn m1 m2 hq hr
      refine LL.val (R.not rfl rfl) rfl rfl rfl ?_
      refine LL.val (R.pick rfl rfl rfl) rfl rfl rfl ?_
      refine LL.nilS ?_
      refine CC.no rfl ?_
      refine CC.skip ?_
      refine EE.inN ?_
      refine EE.thenN ?_
      refine CC.region ?_
      refine LL.val (R.addNc rfl rfl rfl rfl (by omega)) rfl rfl rfl ?_
      refine LL.val (R.move rfl rfl) rfl rfl rfl ?_
      refine LL.nil ?_
      exact EE.round (i + 1) ⟨rfl, rfl, rfl, rfl, rfl, trivial⟩ ⟨by show i + 1 ≤ N; omega, z4, hJ4, hb4, M4⟩ (by show N - (i + 1) < N - i; omega)
    · refine ⟨_, rfl, ?_⟩
      clear hb M qn m1 m2 hq hr
      refine LL.val (R.not rfl rfl) rfl rfl rfl ?_
      refine LL.val (R.pick rfl rfl rfl) rfl rfl rfl ?_
      refine LL.nilS ?_
      refine CC.yes rfl ?_
      refine CC.ret ?_
      refine EE.inR ?_
      refine EE.thenR ?_
      refine EE.thenR ?_
      refine EE.inR ?_
      refine EE.ret _ rfl rfl ?_
      exact ⟨⟨_, rfl⟩, .inr ⟨_, _, hpart, hJx4⟩⟩
  · cases hx : c.2.2 with
    | none =>
      rw [hx] at hqa
      refine CC.seq ?_
      refine CC.region ?_
      refine LL.val (R.ltT rfl rfl rfl (by omega)) rfl rfl rfl ?_
      refine LL.nilS ?_
      refine CC.seq ?_
      refine CC.yes rfl ?_
      refine CC.skip ?_
      refine EE.thenN ?_
      refine CC.seq ?_
      refine CC.block ?_
      refine CC.seq ?_
      refine CC.region ?_
      refine LL.val (R.move rfl rfl) rfl rfl rfl ?_
      refine LL.val (R.index rfl rfl rfl (I.ixS rfl (by omega))) rfl rfl rfl ?_
      refine LL.val (R.load rfl rfl (I.ldM (by assumption) rfl rfl)) rfl rfl rfl ?_
      have lg36 := hb.lt
      have lg37 := hr.lt
      refine LL.alloc ([Value.int IntKind.u64 0, Value.int IntKind.u64 0, Value.int IntKind.u64 0, Value.int IntKind.u64 0, Value.int IntKind.u64 0, Value.int IntKind.u64 0, Value.int IntKind.u64 0, Value.int IntKind.u64 0]) rfl rfl rfl rfl rfl ?_
      intro Wg39 gg40 egg40 rg41 zg42 bg38
      replace hb := hb.up bg38
      replace M := M.up bg38
      replace hr := hr.up bg38
      replace hq := hq.up bg38
      replace qn := qn.trans (bg38.mono qn.size)
      replace m1 := m1.up bg38
      replace m2 := m2.up bg38
      refine LL.val (R.assign rfl rfl) rfl rfl rfl ?_
      (refine LL.storeAll rfl rfl rfl rfl (lE_len _) (by assumption) rfl (lE_one _) rfl rfl ?_; intro Wg53 rxg54 grg51 zzg56; have cyg55 := ln_cells rxg54)
      have zgrg51 := grg51.size
      replace bg38 := bg38.grown grg51 bg38.size (by rintro k ⟨⟩; omega)
      replace hb := hb.gr grg51 (by have := hb.lt; omega)
      replace M := M.gr grg51 (by omega)
      replace hr := hr.gr grg51 (by have := hr.lt; omega)
      replace hq := hq.gr grg51 (by have := hq.lt; omega)
      replace qn := qn.grown grg51 qn.size (by rintro k ⟨⟩; omega)
      replace m1 := m1.gr grg51 (by have := m1.lt; omega)
      replace m2 := m2.gr grg51 (by have := m2.lt; omega)
      refine LL.nilS ?_
      refine CC.seq ?_
      refine CC.region ?_
      refine LL.val (R.load rfl rfl (I.ld1 rfl (RowL.cell hb rfl))) rfl rfl rfl ?_
      refine LL.val (R.nil rfl rfl) rfl rfl rfl ?_
      refine LL.val (R.field rfl rfl (I.fld rfl)) rfl rfl rfl ?_
      refine LL.val (R.load rfl rfl (I.ld1 rfl (RowL.cell hr rfl))) rfl rfl rfl ?_
      refine LL.val (R.move rfl rfl) rfl rfl rfl ?_
      (refine LL.val (R.lookKF (z := lV zL) rfl rfl iKeys (by rfl) (by kernel_rfl) hq i rfl hqa) rfl rfl rfl ?_)
      refine LL.val (R.move rfl rfl) rfl rfl rfl ?_
      refine LL.val (R.extract rfl rfl rfl) rfl rfl rfl ?_
      refine LL.val (R.extract rfl rfl rfl) rfl rfl rfl ?_
      have lg127 := rxg54.lt
      have lg128 := hb.lt
      have lg129 := hr.lt
      refine LL.alloc ([Value.int IntKind.u64 0, Value.int IntKind.u64 0, Value.int IntKind.u64 0, Value.int IntKind.u64 0, Value.int IntKind.u64 0, Value.int IntKind.u64 0, Value.int IntKind.u64 0, Value.int IntKind.u64 0]) rfl rfl rfl rfl rfl ?_
      intro Wg131 gg132 egg132 rg133 zg134 bg130
      replace rxg54 := rxg54.up bg130
      replace cyg55 := cyg55.up bg130
      replace bg38 := bg38.trans (bg130.mono bg38.size)
      replace hb := hb.up bg130
      replace M := M.up bg130
      replace hr := hr.up bg130
      replace hq := hq.up bg130
      replace qn := qn.trans (bg130.mono qn.size)
      replace m1 := m1.up bg130
      replace m2 := m2.up bg130
      refine LL.storeN (vs := [(fun n => Value.int IntKind.u64 ↑n) 0, (fun n => Value.int IntKind.u64 ↑n) 0, (fun n => Value.int IntKind.u64 ↑n) 0, (fun n => Value.int IntKind.u64 ↑n) 0, (fun n => Value.int IntKind.u64 ↑n) 0, (fun n => Value.int IntKind.u64 ↑n) 0, (fun n => Value.int IntKind.u64 ↑n) 0, (fun n => Value.int IntKind.u64 ↑n) 0]) rfl rfl rfl rfl rg133 (by exact Nat.le_of_ble_eq_true rfl) (ones_of rfl) rfl rfl ?_
      intro Wg143 rg144 bg142 zg145
      have hlbg142 := rg133.lt
      replace rg144 : RowL Wg143 _ 79 [(fun n => Value.int IntKind.u64 ↑n) 0, (fun n => Value.int IntKind.u64 ↑n) 0, (fun n => Value.int IntKind.u64 ↑n) 0, (fun n => Value.int IntKind.u64 ↑n) 0, (fun n => Value.int IntKind.u64 ↑n) 0, (fun n => Value.int IntKind.u64 ↑n) 0, (fun n => Value.int IntKind.u64 ↑n) 0, (fun n => Value.int IntKind.u64 ↑n) 0] := rg144
      clear rg133
      replace bg130 := bg130.grown bg142 bg130.size (by rintro k ⟨⟩; omega)
      replace rxg54 := rxg54.gr bg142 (by have := rxg54.lt; omega)
      replace cyg55 := cyg55.gr bg142 (by have := cyg55.lt; omega)
      replace bg38 := bg38.grown bg142 bg38.size (by rintro k ⟨⟩; omega)
      replace hb := hb.gr bg142 (by have := hb.lt; omega)
      replace M := M.gr bg142 (by omega)
      replace hr := hr.gr bg142 (by have := hr.lt; omega)
      replace hq := hq.gr bg142 (by have := hq.lt; omega)
      replace qn := qn.grown bg142 qn.size (by rintro k ⟨⟩; omega)
      replace m1 := m1.gr bg142 (by have := m1.lt; omega)
      replace m2 := m2.gr bg142 (by have := m2.lt; omega)
      have rg133 := rg144
      clear rg144
      refine LL.val (R.assign rfl rfl) rfl rfl rfl ?_
      refine LL.nilS ?_
      refine CC.seq ?_
      refine CC.growT 21 (by kernel_rfl) (by kernel_rfl) ?_
      refine GG.val (fun w' b' => R.load rfl rfl (I.ld1 rfl (RowL.cell (hb.up b') rfl))) rfl rfl ?_
      refine GG.val (fun w' b' => R.nil rfl rfl) rfl rfl ?_
      refine GG.val (fun w' b' => R.field rfl rfl (I.fld rfl)) rfl rfl ?_
      refine GG.val (fun w' b' => R.field rfl rfl (I.fld rfl)) rfl rfl ?_
      refine GG.val (fun w' b' => R.load rfl rfl (I.ld1 rfl (RowL.cell (hr.up b') rfl))) rfl rfl ?_
      refine GG.val (fun w' b' => R.move rfl rfl) rfl rfl ?_
      refine GG.val (fun w' b' => R.index rfl rfl rfl (I.ixS rfl (by omega))) rfl rfl ?_
      refine GG.val (fun w' b' => R.load rfl rfl (I.ldM (CellsN.up (by assumption) b') rfl rfl)) rfl rfl ?_
      refine GG.val (fun w' b' => R.load rfl rfl (I.ldM (CellsN.up (by assumption) b') rfl rfl)) rfl rfl ?_
      (refine GG.val (fun w' b' => R.neLF rfl rfl rfl (by rfl) rfl (by kernel_rfl) h1) rfl rfl ?_)
      refine GG.val (fun w' b' => R.move rfl rfl) rfl rfl ?_
      refine GG.skip rfl rfl ?_
      refine GG.skip rfl rfl ?_
      refine GG.skip rfl rfl ?_
      refine GG.skip rfl rfl ?_
      refine GG.skip rfl rfl ?_
      refine GG.skip rfl rfl ?_
      refine GG.val (fun w' b' => R.pick rfl rfl rfl) rfl rfl ?_
      refine GG.val (fun w' b' => R.move rfl rfl) rfl rfl ?_
      refine GG.val (fun w' b' => R.move rfl rfl) rfl rfl ?_
      refine GG.val (fun w' b' => R.move rfl rfl) rfl rfl ?_
      refine GG.nil (fun Wg262 bg261 => ?_)
      have zbg261 := bg261.size
      replace bg130 := bg130.trans (bg261.mono bg130.size)
      replace rxg54 := rxg54.up bg261
      replace cyg55 := cyg55.up bg261
      replace bg38 := bg38.trans (bg261.mono bg38.size)
      replace hb := hb.up bg261
      replace M := M.up bg261
      replace hr := hr.up bg261
      replace hq := hq.up bg261
      replace qn := qn.trans (bg261.mono qn.size)
      replace m1 := m1.up bg261
      replace m2 := m2.up bg261
      replace rg133 := rg133.up bg261
      refine LL.yield (vs := iE i) rfl rfl rfl rfl rfl (yield _ qn hb M) ?_
      rintro e W4 (⟨rfl, z4, hJ4, hb4, M4⟩ | ⟨rfl, hJx4⟩)
      · refine ⟨_, rfl, ?_⟩
        clear hb M qn m1 m2 hq hr
        refine LL.val (R.not rfl rfl) rfl rfl rfl ?_
        refine LL.val (R.pick rfl rfl rfl) rfl rfl rfl ?_
        refine LL.nilS ?_
        refine CC.no rfl ?_
        refine CC.skip ?_
        refine EE.inN ?_
        refine EE.thenN ?_
        refine CC.region ?_
        refine LL.val (R.addNc rfl rfl rfl rfl (by omega)) rfl rfl rfl ?_
        refine LL.val (R.move rfl rfl) rfl rfl rfl ?_
        refine LL.nil ?_
        exact EE.round (i + 1) ⟨rfl, rfl, rfl, rfl, rfl, trivial⟩ ⟨by show i + 1 ≤ N; omega, z4, hJ4, hb4, M4⟩ (by show N - (i + 1) < N - i; omega)
      · refine ⟨_, rfl, ?_⟩
        clear hb M qn m1 m2 hq hr
        refine LL.val (R.not rfl rfl) rfl rfl rfl ?_
        refine LL.val (R.pick rfl rfl rfl) rfl rfl rfl ?_
        refine LL.nilS ?_
        refine CC.yes rfl ?_
        refine CC.ret ?_
        refine EE.inR ?_
        refine EE.thenR ?_
        refine EE.thenR ?_
        refine EE.inR ?_
        refine EE.ret _ rfl rfl ?_
        exact ⟨⟨_, rfl⟩, .inr ⟨_, _, hpart, hJx4⟩⟩
    | some x =>
      rw [hx] at hqa
      refine CC.seq ?_
      refine CC.region ?_
      refine LL.val (R.ltT rfl rfl rfl (by omega)) rfl rfl rfl ?_
      refine LL.nilS ?_
      refine CC.seq ?_
      refine CC.yes rfl ?_
      refine CC.skip ?_
      refine EE.thenN ?_
      refine CC.seq ?_
      refine CC.block ?_
      refine CC.seq ?_
      refine CC.region ?_
      refine LL.val (R.move rfl rfl) rfl rfl rfl ?_
      refine LL.val (R.index rfl rfl rfl (I.ixS rfl (by omega))) rfl rfl rfl ?_
      refine LL.val (R.load rfl rfl (I.ldM (by assumption) rfl rfl)) rfl rfl rfl ?_
      have lj36 := hb.lt
      have lj37 := hr.lt
      refine LL.alloc ([Value.int IntKind.u64 0, Value.int IntKind.u64 0, Value.int IntKind.u64 0, Value.int IntKind.u64 0, Value.int IntKind.u64 0, Value.int IntKind.u64 0, Value.int IntKind.u64 0, Value.int IntKind.u64 0]) rfl rfl rfl rfl rfl ?_
      intro Wj39 gj40 egj40 rj41 zj42 bj38
      replace hb := hb.up bj38
      replace M := M.up bj38
      replace hr := hr.up bj38
      replace hq := hq.up bj38
      replace qn := qn.trans (bj38.mono qn.size)
      replace m1 := m1.up bj38
      replace m2 := m2.up bj38
      refine LL.val (R.assign rfl rfl) rfl rfl rfl ?_
      (refine LL.storeAll rfl rfl rfl rfl (lE_len _) (by assumption) rfl (lE_one _) rfl rfl ?_; intro Wj53 rxj54 grj51 zzj56; have cyj55 := ln_cells rxj54)
      have zgrj51 := grj51.size
      replace bj38 := bj38.grown grj51 bj38.size (by rintro k ⟨⟩; omega)
      replace hb := hb.gr grj51 (by have := hb.lt; omega)
      replace M := M.gr grj51 (by omega)
      replace hr := hr.gr grj51 (by have := hr.lt; omega)
      replace hq := hq.gr grj51 (by have := hq.lt; omega)
      replace qn := qn.grown grj51 qn.size (by rintro k ⟨⟩; omega)
      replace m1 := m1.gr grj51 (by have := m1.lt; omega)
      replace m2 := m2.gr grj51 (by have := m2.lt; omega)
      refine LL.nilS ?_
      refine CC.seq ?_
      refine CC.region ?_
      refine LL.val (R.load rfl rfl (I.ld1 rfl (RowL.cell hb rfl))) rfl rfl rfl ?_
      refine LL.val (R.nil rfl rfl) rfl rfl rfl ?_
      refine LL.val (R.field rfl rfl (I.fld rfl)) rfl rfl rfl ?_
      refine LL.val (R.load rfl rfl (I.ld1 rfl (RowL.cell hr rfl))) rfl rfl rfl ?_
      refine LL.val (R.move rfl rfl) rfl rfl rfl ?_
      (refine LL.val (R.lookKT rfl rfl iKeys (by rfl) (z := lV zL) (by kernel_rfl) hq i rfl hqa) rfl rfl rfl ?_)
      refine LL.val (R.move rfl rfl) rfl rfl rfl ?_
      refine LL.val (R.extract rfl rfl rfl) rfl rfl rfl ?_
      refine LL.val (R.extract rfl rfl rfl) rfl rfl rfl ?_
      have lj127 := rxj54.lt
      have lj128 := hb.lt
      have lj129 := hr.lt
      refine LL.alloc ([Value.int IntKind.u64 0, Value.int IntKind.u64 0, Value.int IntKind.u64 0, Value.int IntKind.u64 0, Value.int IntKind.u64 0, Value.int IntKind.u64 0, Value.int IntKind.u64 0, Value.int IntKind.u64 0]) rfl rfl rfl rfl rfl ?_
      intro Wj131 gj132 egj132 rj133 zj134 bj130
      replace rxj54 := rxj54.up bj130
      replace cyj55 := cyj55.up bj130
      replace bj38 := bj38.trans (bj130.mono bj38.size)
      replace hb := hb.up bj130
      replace M := M.up bj130
      replace hr := hr.up bj130
      replace hq := hq.up bj130
      replace qn := qn.trans (bj130.mono qn.size)
      replace m1 := m1.up bj130
      replace m2 := m2.up bj130
      (refine LL.storeAll rfl rfl rfl rfl (lE_len _) (by assumption) rfl (lE_one _) rfl rfl ?_; intro Wj138 rxj139 grj136 zzj141; have cyj140 := ln_cells rxj139)
      have zgrj136 := grj136.size
      replace bj130 := bj130.grown grj136 bj130.size (by rintro k ⟨⟩; omega)
      replace rxj54 := rxj54.gr grj136 (by have := rxj54.lt; omega)
      replace cyj55 := cyj55.gr grj136 (by have := cyj55.lt; omega)
      replace bj38 := bj38.grown grj136 bj38.size (by rintro k ⟨⟩; omega)
      replace hb := hb.gr grj136 (by have := hb.lt; omega)
      replace M := M.gr grj136 (by omega)
      replace hr := hr.gr grj136 (by have := hr.lt; omega)
      replace hq := hq.gr grj136 (by have := hq.lt; omega)
      replace qn := qn.grown grj136 qn.size (by rintro k ⟨⟩; omega)
      replace m1 := m1.gr grj136 (by have := m1.lt; omega)
      replace m2 := m2.gr grj136 (by have := m2.lt; omega)
      refine LL.val (R.assign rfl rfl) rfl rfl rfl ?_
      refine LL.nilS ?_
      refine CC.seq ?_
      refine CC.growT 21 (by kernel_rfl) (by kernel_rfl) ?_
      refine GG.val (fun w' b' => R.load rfl rfl (I.ld1 rfl (RowL.cell (hb.up b') rfl))) rfl rfl ?_
      refine GG.val (fun w' b' => R.nil rfl rfl) rfl rfl ?_
      refine GG.val (fun w' b' => R.field rfl rfl (I.fld rfl)) rfl rfl ?_
      refine GG.val (fun w' b' => R.field rfl rfl (I.fld rfl)) rfl rfl ?_
      refine GG.val (fun w' b' => R.load rfl rfl (I.ld1 rfl (RowL.cell (hr.up b') rfl))) rfl rfl ?_
      refine GG.val (fun w' b' => R.move rfl rfl) rfl rfl ?_
      refine GG.val (fun w' b' => R.index rfl rfl rfl (I.ixS rfl (by omega))) rfl rfl ?_
      refine GG.val (fun w' b' => R.load rfl rfl (I.ldM (CellsN.up (by assumption) b') rfl rfl)) rfl rfl ?_
      refine GG.val (fun w' b' => R.load rfl rfl (I.ldM (CellsN.up (by assumption) b') rfl rfl)) rfl rfl ?_
      (refine GG.val (fun w' b' => R.neLF rfl rfl rfl (by rfl) rfl (by kernel_rfl) h1) rfl rfl ?_)
      refine GG.val (fun w' b' => R.move rfl rfl) rfl rfl ?_
      refine GG.skip rfl rfl ?_
      refine GG.skip rfl rfl ?_
      refine GG.skip rfl rfl ?_
      refine GG.skip rfl rfl ?_
      refine GG.skip rfl rfl ?_
      refine GG.skip rfl rfl ?_
      refine GG.val (fun w' b' => R.pick rfl rfl rfl) rfl rfl ?_
      refine GG.val (fun w' b' => R.move rfl rfl) rfl rfl ?_
      refine GG.val (fun w' b' => R.move rfl rfl) rfl rfl ?_
      refine GG.val (fun w' b' => R.move rfl rfl) rfl rfl ?_
      refine GG.nil (fun Wj258 bj257 => ?_)
      have zbj257 := bj257.size
      replace rxj139 := rxj139.up bj257
      replace cyj140 := cyj140.up bj257
      replace bj130 := bj130.trans (bj257.mono bj130.size)
      replace rxj54 := rxj54.up bj257
      replace cyj55 := cyj55.up bj257
      replace bj38 := bj38.trans (bj257.mono bj38.size)
      replace hb := hb.up bj257
      replace M := M.up bj257
      replace hr := hr.up bj257
      replace hq := hq.up bj257
      replace qn := qn.trans (bj257.mono qn.size)
      replace m1 := m1.up bj257
      replace m2 := m2.up bj257
      refine LL.yield (vs := iE i) rfl rfl rfl rfl rfl (yield _ qn hb M) ?_
      rintro e W4 (⟨rfl, z4, hJ4, hb4, M4⟩ | ⟨rfl, hJx4⟩)
      · refine ⟨_, rfl, ?_⟩
        clear hb M qn m1 m2 hq hr
        refine LL.val (R.not rfl rfl) rfl rfl rfl ?_
        refine LL.val (R.pick rfl rfl rfl) rfl rfl rfl ?_
        refine LL.nilS ?_
        refine CC.no rfl ?_
        refine CC.skip ?_
        refine EE.inN ?_
        refine EE.thenN ?_
        refine CC.region ?_
        refine LL.val (R.addNc rfl rfl rfl rfl (by omega)) rfl rfl rfl ?_
        refine LL.val (R.move rfl rfl) rfl rfl rfl ?_
        refine LL.nil ?_
        exact EE.round (i + 1) ⟨rfl, rfl, rfl, rfl, rfl, trivial⟩ ⟨by show i + 1 ≤ N; omega, z4, hJ4, hb4, M4⟩ (by show N - (i + 1) < N - i; omega)
      · refine ⟨_, rfl, ?_⟩
        clear hb M qn m1 m2 hq hr
        refine LL.val (R.not rfl rfl) rfl rfl rfl ?_
        refine LL.val (R.pick rfl rfl rfl) rfl rfl rfl ?_
        refine LL.nilS ?_
        refine CC.yes rfl ?_
        refine CC.ret ?_
        refine EE.inR ?_
        refine EE.thenR ?_
        refine EE.thenR ?_
        refine EE.inR ?_
        refine EE.ret _ rfl rfl ?_
        exact ⟨⟨_, rfl⟩, .inr ⟨_, _, hpart, hJx4⟩⟩
theorem iEnc : Enc iE 1 := ⟨fun _ => rfl, fun t u hu => by
  simp only [iE, List.mem_cons, List.not_mem_nil, or_false] at hu
  subst hu
  rfl, by decide⟩
theorem Try.infoInt : (Try.prog.info? 3).map (fun i => (i.zero, i.size, i.bytes)) = some (some (.int .i64 0), 1, 8) := by kernel_rfl
theorem ElIn : ElT Try.prog 59 3 (.int .i64 0) 1 8 := info_parts_t Try.underlying59 Try.infoInt rfl
set_option maxRecDepth 100000
set_option maxHeartbeats 8000000
theorem vals_any (a : Option Addr) (n cap : Nat) (w : World) : Calls Try.prog 55 #[.slice a n cap] w fun e w' => ∃ bk, e = .returned (.func (.func 66) #[] #[.pointer (some ⟨bk, 0, none⟩)]) ∧ RowL w' bk 59 [.slice a n cap] ∧ w.heap.size ≤ bk ∧ Below w.heap.size w w' := by
  have q := Below.refl w.heap.size w
  refine X.fn Try.func55 rfl (n := 4) rfl rfl ?_
  refine CC.seq ?_
  refine CC.region ?_
  refine LL.box [Value.slice a n cap] rfl rfl rfl rfl rfl ?_
  intro W2 g3 eg3 r4 z5 b1
  replace q := q.trans (b1.mono q.size)
  refine LL.val (R.assign rfl rfl) rfl rfl rfl ?_
  refine LL.nilS ?_
  refine CC.seq ?_
  refine CC.region ?_
  refine LL.val (R.func rfl rfl rfl) rfl rfl rfl ?_
  refine LL.val (R.assign rfl rfl) rfl rfl rfl ?_
  refine LL.nilS ?_
  refine CC.ret ?_
  refine EE.ret _ rfl rfl ?_
  exact ⟨_, rfl, by assumption, by omega, q⟩
--C pmem_Memory_open | open_any _ @w | ⟨@g, rfl, @r, @l, @b⟩
theorem open_any (m : Nat) (w : World) : Calls Try.prog 47 #[.pointer (some ⟨m, 0, none⟩)] w fun e w' => ∃ bk, e = .returned (.func (.func 62) #[] #[.pointer (some ⟨bk, 0, none⟩)]) ∧ RowL w' bk 26 [.pointer (some ⟨m, 0, none⟩)] ∧ w.heap.size ≤ bk ∧ Below w.heap.size w w' := by
  have q := Below.refl w.heap.size w
  refine X.fn Try.func47 rfl (n := 4) rfl rfl ?_
  refine CC.seq ?_
  refine CC.region ?_
  refine LL.box [Value.pointer (some { block := m, off := 0 })] rfl rfl rfl rfl rfl ?_
  intro W2 g3 eg3 r4 z5 b1
  replace q := q.trans (b1.mono q.size)
  refine LL.val (R.assign rfl rfl) rfl rfl rfl ?_
  refine LL.nilS ?_
  refine CC.seq ?_
  refine CC.region ?_
  refine LL.val (R.func rfl rfl rfl) rfl rfl rfl ?_
  refine LL.val (R.assign rfl rfl) rfl rfl rfl ?_
  refine LL.nilS ?_
  refine CC.ret ?_
  refine EE.ret _ rfl rfl ?_
  exact ⟨_, rfl, by assumption, by omega, q⟩
theorem vals1_gives (ns : List Nat) (a : Option Addr) (N cap bk bkl : Nat) (w : World) (hN : ns.length = N) (hN2 : N ≤ 1048576) (hc : RowL w bk 59 [.slice a N cap]) (hv : ReadsT iE 1 w (.slice a N cap) ns) (hbl : ∀ b off, a = some ⟨b, off, none⟩ → 0 < N → b = bkl) :
    GivesZ Try.prog 66 [Value.pointer (some ⟨bk, 0, none⟩)].toArray (fun x => (iE x).toArray) (fun k => k = bkl) (fun xs => xs = ns) w := by
  intro lp J Jx W hW hJ hJx hY h0
  have rc := hc.up hW
  have hvW := hv.up hW
  clear hc hv
  have q := Below.refl W.heap.size W
  rw [show (#[.func (.yield lp) #[] #[]] ++ [Value.pointer (some ⟨bk, 0, none⟩)].toArray : Array Value) = #[.func (.yield lp) #[] #[], .pointer (some ⟨bk, 0, none⟩)] from rfl]
  refine X.fn Try.func66 rfl (n := 16) rfl rfl ?_
  refine CC.seq ?_
  refine CC.region ?_
  refine LL.val (R.load rfl rfl (I.ld1 rfl (RowL.cell rc rfl))) rfl rfl rfl ?_
  refine LL.val (R.len rfl rfl rfl rfl) rfl rfl rfl ?_
  refine LL.val (R.move rfl rfl) rfl rfl rfl ?_
  refine LL.nilS ?_
  refine CC.block ?_
  refine CC.loop (α := Nat) (fun i => [(0, .func (.yield lp) #[] #[]), (5, .slice a N cap), (6, .int .i64 (N : Int)), (7, .int .i64 (i : Int))])
    (fun i wr => i ≤ N ∧ W.heap.size ≤ wr.heap.size ∧ J (fun _ => False) (ns.take i) wr ∧ ReadsT iE 1 wr (.slice a N cap) ns) (fun i => N - i)
    0 ⟨rfl, rfl, rfl, rfl, trivial⟩ ⟨by show 0 ≤ N; omega, Nat.le_refl _, h0, hvW⟩ ?_
  clear rc q hvW h0
  rintro i wr ⟨hi, hz, hJi, hv⟩
  show CC none Try.prog _ 16 [] (sl [(0, .func (.yield lp) #[] #[]), (5, .slice a N cap), (6, .int .i64 (N : Int)), (7, .int .i64 (i : Int))]) _ wr
  by_cases hlt : i < N
  case neg =>
    obtain rfl : i = N := by omega
    rw [← hN, List.take_length] at hJi
    refine CC.seq ?_
    refine CC.region ?_
    refine LL.val (R.ltF rfl rfl rfl (by omega)) rfl rfl rfl ?_
    refine LL.nilS ?_
    refine CC.seq ?_
    refine CC.no rfl ?_
    refine CC.exit ?_
    refine EE.thenX ?_
    refine EE.thenX ?_
    refine EE.inX ?_
    refine EE.end _ rfl rfl ?_
    exact ⟨⟨_, rfl⟩, .inl ⟨_, _, rfl, hJi⟩⟩
  obtain ⟨x, hx⟩ : ∃ x, ns[i]? = some x := ⟨_, List.getElem?_eq_getElem (by omega)⟩
  obtain ⟨bl, off, rfl, hbk, hcs⟩ := hv.one iEnc hx
  obtain rfl := hbl bl off rfl (by omega)
  have c1 : wr.cell? ⟨bl, off + i, none⟩ = some (.int .i64 (x : Int)) := hcs _ rfl
  have hst : ns.take (i + 1) = ns.take i ++ [x] := by rw [List.take_add_one, hx]; rfl
  have hpart : Part (fun xs => xs = ns) (ns.take i ++ [x]) := ⟨_, rfl, by rw [← hst]; exact List.take_prefix _ _⟩
  refine CC.seq ?_
  refine CC.region ?_
  refine LL.val (R.ltT rfl rfl rfl (by omega)) rfl rfl rfl ?_
  refine LL.nilS ?_
  refine CC.seq ?_
  refine CC.yes rfl ?_
  refine CC.skip ?_
  refine EE.thenN ?_
  refine CC.seq ?_
  refine CC.block ?_
  refine CC.seq ?_
  refine CC.region ?_
  refine LL.val (R.index rfl rfl rfl (I.ixS1 rfl (by omega))) rfl rfl rfl ?_
  refine LL.val (R.load rfl rfl (I.ld1 rfl (by assumption))) rfl rfl rfl ?_
  refine LL.val (R.assign rfl rfl) rfl rfl rfl ?_
  refine LL.nilS ?_
  refine CC.seq ?_
  refine CC.region ?_
  refine LL.val (R.move rfl rfl) rfl rfl rfl ?_
  refine LL.val (R.move rfl rfl) rfl rfl rfl ?_
  refine LL.yield (vs := iE x) rfl rfl rfl rfl rfl (hY _ _ _ wr (fun k hk => hk.elim) hJi hpart) ?_
  rintro e W4 ⟨hs4, (⟨rfl, hJ4, hb4⟩ | ⟨rfl, hJx4⟩)⟩
  · refine ⟨_, rfl, ?_⟩
    replace hv := hv.sameB hs4.size (fun o ho => (hb4.same bl rfl).trans ho)
    have y4 := hs4.size
    rw [← hst] at hJ4
    clear c1
    refine LL.val (R.not rfl rfl) rfl rfl rfl ?_
    refine LL.nilS ?_
    refine CC.no rfl ?_
    refine CC.skip ?_
    refine EE.inN ?_
    refine EE.thenN ?_
    refine CC.region ?_
    refine LL.val (R.addNc rfl rfl rfl rfl (by omega)) rfl rfl rfl ?_
    refine LL.val (R.move rfl rfl) rfl rfl rfl ?_
    refine LL.nil ?_
    exact EE.round (i + 1) ⟨rfl, rfl, rfl, rfl, trivial⟩ ⟨by show i + 1 ≤ N; omega, by omega, hJ4, hv⟩ (by show N - (i + 1) < N - i; omega)
  · refine ⟨_, rfl, ?_⟩
    clear c1
    refine LL.val (R.not rfl rfl) rfl rfl rfl ?_
    refine LL.nilS ?_
    refine CC.yes rfl ?_
    refine CC.ret ?_
    refine EE.inR ?_
    refine EE.thenR ?_
    refine EE.thenR ?_
    refine EE.inR ?_
    refine EE.ret _ rfl rfl ?_
    exact ⟨⟨_, rfl⟩, .inr ⟨_, _, hpart, hJx4⟩⟩
theorem appSeq_any (ns : List Nat) (gf : Nat) (lb : List Value) (Dk : Nat → Prop) (w : World) (eg : entB Try.prog gf = true) (hs : GivesZ Try.prog gf lb.toArray (fun x => (iE x).toArray) Dk (fun xs => xs = ns) w) (hDk : ∀ k, Dk k → k < w.heap.size) (hl : ns.length ≤ 1048576) :
    Calls Try.prog 67 #[.slice none 0 0, .func (.func gf) #[] lb.toArray] w fun e w' => ∃ v, e = .returned v ∧ OwnsT iE 1 w' w.heap.size 3 v ns ∧ Below w.heap.size w w' := by
  have q := Below.refl w.heap.size w
  refine X.fnM Try.func67 rfl (n := 13) rfl rfl ?_
  refine CC.seq ?_
  refine CC.region ?_
  refine LL.box [Value.slice none 0 0] rfl rfl rfl rfl rfl ?_
  intro W2 g3 eg3 r4 z5 b1
  replace q := q.trans (b1.mono q.size)
  refine LL.val (R.assign rfl rfl) rfl rfl rfl ?_
  refine LL.nilS ?_
  refine CC.seq ?_
  refine CC.seq ?_
  refine CC.region ?_
  refine LL.val (R.move rfl rfl) rfl rfl rfl ?_
  refine LL.nilS ?_
  refine CC.block ?_
  have yB := q.size
  have l4 := r4.lt
  refine CC.rangeZ (γ := Unit) (gf := gf) (lb := lb) (encs := iE) rfl eg hs q (fun k hk => by have := hDk k hk; omega) (fun _ => rfl) rfl
    (fun m (pre : List Nat) W' => Below w.heap.size w W' ∧ ∃ v, RowL W' g3 59 [v] ∧ OwnsT iE 1 W' W2.heap.size 3 v pre ∧ ∀ g, v.ownBlock = some g → ¬ m g)
    (fun _ _ _ => False)
    (fun W' => Below w.heap.size w W' ∧ ∃ v, RowL W' g3 59 [v] ∧ OwnsT iE 1 W' W2.heap.size 3 v ns)
    (by
      rintro m m' s X Y ⟨h1, v, h3, h4, h5⟩ ht hg
      exact ⟨h1.trans (ht.below yB h1.size), v, ht.row h3 (.inl l4), h4.turn ht h5, own_later h4 h5 hg⟩)
    (fun m m' s X Y hs ht hg => hs)
    ⟨q, _, r4, OwnsT.none _ _ _, fun g hg => by cases hg⟩ ?hIA (fun _ _ _ _ h => h.elim)
    (fun x _ => sl [(2, .pointer (some ⟨g3, 0, none⟩)), (5, .int .i64 (x : Int))]) (fun _ _ _ => True) (fun x c => fun _ W W' row h hg hr => trivial) ?assign ?body ?after
  case hIA =>
    rintro m xs W' rfl ⟨h1, v, h3, h4, _⟩
    exact ⟨h1, v, h3, h4⟩
  case assign =>
    rintro l' m pre x W K hm hI hK
    refine CC.region ?_
    refine LL.val (R.assign rfl rfl) rfl rfl rfl ?_
    refine LL.nil ?_
    exact EE.thenK fun a' F => hK a' _ () (StaysZ.refl _ _ _) (Keeps.refl _ _) hI (F.keep _ ⟨rfl, rfl, trivial⟩) trivial
  case body =>
    rintro l' m pre x c W hm hl' hrl ⟨q, v, r4, o, hmv⟩ _ hpart
    have st := StaysZ.refl W2.heap.size m W
    have kp := Keeps.refl Dk W
    have yq := q.size
    obtain ⟨_, hr0⟩ := hrl
    have hr1 := (Array.getElem?_eq_some_iff.1 hr0).1
    clear hr0
    have hDW : ∀ k, Dk k → k < W.heap.size := fun k hk => by have := hDk k hk; omega
    have hpl : pre.length + 1 ≤ 1048576 := by
      obtain ⟨_, rfl, hp⟩ := hpart
      have := hp.length_le
      rw [List.length_append] at this
      simp only [List.length_cons, List.length_nil] at this
      omega
    refine CC.block ?_
    refine CC.region ?_
    refine LL.val (R.load rfl rfl (I.ld1 rfl (RowL.cell r4 rfl))) rfl rfl rfl ?_
    refine LL.val (R.move rfl rfl) rfl rfl rfl ?_
    have lb1 := r4.lt
    refine LL.lit (e := 3) [Value.int IntKind.i64 ↑x] 1 rfl rfl (fun _ => by kernel_rfl) rfl rfl ?_
    intro Wb3 gb4 egb4 rb5 zb6 bb2
    replace q := q.trans (bb2.mono q.size)
    replace r4 := r4.up bb2
    replace o := o.up bb2
    replace st := st.trans (StaysZ.of_below bb2)
    replace kp := kp.trans (Keeps.of_below (fun k hk => by have := hDk k hk; omega) bb2)
    refine LL.appendT2 rfl rfl iEnc ElIn o (us := [x]) (RowL.readsT iEnc (ts := [x]) (by assumption) 1 (Nat.le_refl _)) (by simp only [List.length_cons, List.length_nil, maxLen]; omega) (by simp only [List.length_cons, List.length_nil]; omega) (by omega) rfl rfl ?_
    intro v' Wc o' gr hv'
    have og := own_ge o
    have zgr := gr.size
    replace r4 := r4.grO gr (fun e => by have := og g3 e; omega)
    replace st := st.trans (StaysZ.own o gr hmv)
    replace kp := kp.trans ⟨gr.size, fun k hk => gr.block k (by have := hDW k hk; omega) (fun e => by have := og k e.symm; have := hDk k hk; omega)⟩
    replace q := q.grown gr q.size (fun j ej => by have := og j ej; omega)
    replace hmv := own_new hv' hmv (fun j hj => by have := (hm j hj).2; omega)
    clear o gr hv'
    obtain ⟨a', cp, rfl, hcp⟩ := (o'.reads iEnc).form rfl
    refine LL.store rfl rfl rfl rfl r4 (by exact Nat.le_of_ble_eq_true rfl) rfl rfl rfl rfl ?_
    intro Wc2 rc3 bc1 zc4
    have hlbc1 := r4.lt
    replace rc3 : RowL Wc2 _ 59 [Value.slice a' (pre ++ [x]).length cp] := rc3
    clear r4
    replace st := st.trans (StaysZ.of_grown bc1 (by omega))
    replace kp := kp.trans (Keeps.of_grown bc1 fun k hk => by have := hDk k hk; omega)
    replace q := q.grown bc1 q.size (by rintro k ⟨⟩; omega)
    replace o' := o'.grown bc1 (own_ne o' (by omega))
    have r4 := rc3
    clear rc3
    refine LL.nil ?_
    refine EE.inN ?_
    exact EE.roundNZ ⟨st, kp, q, _, r4, o', hmv⟩
  case after =>
    rintro E W hE ⟨h1, v, r4, o⟩ hE1
    refine EE.thenN ?_
    refine CC.seq ?_
    refine CC.region ?_
    refine LL.val (R.load rfl rfl (I.ld1 rfl (RowL.cell r4 rfl))) rfl rfl rfl ?_
    refine LL.val (R.assign rfl rfl) rfl rfl rfl ?_
    refine LL.nilS ?_
    refine CC.ret ?_
    refine EE.ret1 hE1 _ rfl rfl ?_
    exact ⟨_, rfl, (own_taken o hE1).lower (by omega), taken_bel h1 (by omega) (Nat.le_refl _)⟩
theorem collect_any (ns : List Nat) (gf : Nat) (lb : List Value) (Dk : Nat → Prop) (w : World) (eg : entB Try.prog gf = true) (hs : GivesZ Try.prog gf lb.toArray (fun x => (iE x).toArray) Dk (fun xs => xs = ns) w) (hDk : ∀ k, Dk k → k < w.heap.size) (hl : ns.length ≤ 1048576) :
    Calls Try.prog 56 #[.func (.func gf) #[] lb.toArray] w fun e w' => ∃ v, e = .returned v ∧ OwnsT iE 1 w' w.heap.size 3 v ns ∧ Below w.heap.size w w' := by
  have q := Below.refl w.heap.size w
  refine X.fn Try.func56 rfl (n := 5) rfl rfl ?_
  refine CC.seq ?_
  refine CC.region ?_
  refine LL.val (R.assign rfl rfl) rfl rfl rfl ?_
  refine LL.nilS ?_
  refine CC.seq ?_
  refine CC.region ?_
  refine LL.val (R.move rfl rfl) rfl rfl rfl ?_
  (refine LL.call (R.call rfl rfl rfl) rfl rfl rfl (appSeq_any ns gf lb Dk _ eg hs hDk hl) ?_; rintro e W18 ⟨v, rfl, o, b15⟩; refine ⟨_, rfl, ?_⟩)
  have zb15 := b15.size
  replace q := q.trans (b15.mono q.size)
  refine LL.val (R.assign rfl rfl) rfl rfl rfl ?_
  refine LL.nilS ?_
  refine CC.ret ?_
  refine EE.ret _ rfl rfl ?_
  exact ⟨_, rfl, o, q⟩
theorem opS_len {w : World} {m gn gl qb N : Nat} {s : List Cl} (M : Mem w m gn gl qb N s) : (opS s).length ≤ 16384 := by
  have := opF_len (s := s) s.length
  have h1 := M.len
  have h2 := M.le
  unfold opS
  omega
/-- What Open tells. -/
def openP (ns : List Nat) (w0 : World) (e : Ending) (w : World) : Prop := ∃ bk a c, e = .returned (.func (.func 66) #[] #[.pointer (some ⟨bk, 0, none⟩)]) ∧ RowL w bk 59 [.slice a ns.length c] ∧ ReadsT iE 1 w (.slice a ns.length c) ns ∧ w0.heap.size ≤ bk ∧ (∀ b off, a = some ⟨b, off, none⟩ → 0 < ns.length → w0.heap.size ≤ b) ∧ Below w0.heap.size w0 w
theorem popen_any (m gn gl qb N : Nat) {s : List Cl} (w : World) (M : Mem w m gn gl qb N s) : Calls Try.prog 31 #[.pointer (some ⟨m, 0, none⟩)] w (openP (opS s) w) := by
  unfold openP
  have q := Below.refl w.heap.size w
  have hr := M.row
  have h0 := M.pos
  refine X.fn Try.func31 rfl (n := 10) rfl rfl ?_
  refine CC.seq ?_
  refine CC.region ?_
  refine LL.val (R.assign rfl rfl) rfl rfl rfl ?_
  refine LL.nilS ?_
  refine CC.seq ?_
  refine CC.seq ?_
  refine CC.region ?_
  refine LL.val (R.move rfl rfl) rfl rfl rfl ?_
  refine LL.call (R.call rfl rfl rfl) rfl rfl rfl (none_F _ _ (by first | assumption | omega) (by first | assumption | omega)) ?_
  rintro e W' ⟨rfl, rfl⟩
  refine ⟨_, rfl, ?_⟩
  refine LL.nilS ?_
  refine CC.no rfl ?_
  refine CC.skip ?_
  refine EE.thenN ?_
  refine CC.seq ?_
  refine CC.region ?_
  refine LL.val (R.move rfl rfl) rfl rfl rfl ?_
  have l69 := hr.lt
  (refine LL.call (R.call rfl rfl rfl) rfl rfl rfl (open_any m _) ?_; rintro e W68 ⟨bo, rfl, ro, lo, b65⟩; refine ⟨_, rfl, ?_⟩)
  have zb65 := b65.size
  replace M := M.up b65
  replace q := q.trans (b65.mono q.size)
  replace hr := hr.up b65
  have l86 := ro.lt
  have l87 := hr.lt
  (refine LL.call (R.call rfl rfl rfl) rfl rfl rfl (collect_any (opS s) _ [.pointer (some ⟨bo, 0, none⟩)] _ _ rfl (open1_gives bo m gn gl qb N s _ ro M) (fun k hk => by have lm := M.lts; have lo2 := ro.lt; omega) (by have := opS_len M; omega)) ?_; rintro e W85 ⟨v, rfl, o, b82⟩; refine ⟨_, rfl, ?_⟩; obtain ⟨a', cp, rfl, hcp⟩ := (o.reads iEnc).form rfl)
  have zb82 := b82.size
  replace ro := ro.up b82
  replace b65 := b65.trans (b82.mono b65.size)
  replace M := M.up b82
  replace q := q.trans (b82.mono q.size)
  replace hr := hr.up b82
  refine LL.call (R.call rfl rfl rfl) rfl rfl rfl (vals_any _ _ _ _) ?_
  rintro e W110 ⟨g111, rfl, r112, l113, b109⟩
  refine ⟨_, rfl, ?_⟩
  have zb109 := b109.size
  replace b82 := b82.trans (b109.mono b82.size)
  replace o := o.up b109
  replace ro := ro.up b109
  replace b65 := b65.trans (b109.mono b65.size)
  replace M := M.up b109
  replace q := q.trans (b109.mono q.size)
  replace hr := hr.up b109
  refine LL.val (R.assign rfl rfl) rfl rfl rfl ?_
  refine LL.nilS ?_
  refine CC.ret ?_
  refine EE.ret _ rfl rfl ?_
  exact ⟨_, a', cp, rfl, by assumption, o.reads iEnc, by omega, fun b off e h0 => by have := own_ge o b (by rw [e]; rfl); omega, q⟩
theorem bkl_own {w : World} {a : Option Addr} {N cap B bk : Nat} {l : List Nat} (hv : ReadsT iE 1 w (.slice a N cap) l) (hN : l.length = N) (hbo : ∀ b off, a = some ⟨b, off, none⟩ → 0 < N → B ≤ b) (h1 : B ≤ bk) (h2 : bk < w.heap.size) : ∃ bkl, (∀ b off, a = some ⟨b, off, none⟩ → 0 < N → b = bkl) ∧ B ≤ bkl ∧ bkl < w.heap.size := by
  by_cases h0 : 0 < N
  · obtain ⟨x, hx⟩ : ∃ x, l[0]? = some x := ⟨_, List.getElem?_eq_getElem (by omega)⟩
    obtain ⟨b, off, rfl, hb, _⟩ := hv.get iEnc hx
    exact ⟨b, fun b' off' e _ => by cases e; rfl, hbo b off rfl h0, hb⟩
  · exact ⟨bk, fun _ _ _ h => absurd h h0, h1, h2⟩
/-- The law's list of what Open tells, by Open's contract. -/
theorem opens_of (ns : List Nat) (p : Option Addr) (w : World) (hOp : ∀ W, Below w.heap.size w W → Calls Try.prog 31 #[.pointer p] W (openP ns W)) (hl : ns.length ≤ 1048576) :
    Calls Try.prog 26 #[.pointer p] w fun e w' => ∃ v, e = .returned v ∧ OwnsT iE 1 w' w.heap.size 3 v ns ∧ Below w.heap.size w w' := by
  have q := Below.refl w.heap.size w
  refine X.fnM Try.func26 rfl (n := 18) rfl rfl ?_
  refine CC.seq ?_
  refine CC.region ?_
  refine LL.val (R.assign rfl rfl) rfl rfl rfl ?_
  refine LL.nilS ?_
  refine CC.seq ?_
  refine CC.region ?_
  refine LL.alloc ([Value.slice none 0 0]) rfl rfl rfl rfl rfl ?_
  intro W16 g17 eg17 r18 z19 b15
  replace q := q.trans (b15.mono q.size)
  refine LL.nilS ?_
  refine CC.seq ?_
  refine CC.region ?_
  refine LL.val (R.move rfl rfl) rfl rfl rfl ?_
  have l32 := r18.lt
  (refine LL.call (R.call rfl rfl rfl) rfl rfl rfl (hOp _ q) ?_; rintro e W31 ⟨bk, a, c, rfl, rb, hr, hbk, hbo, b28⟩; refine ⟨_, rfl, ?_⟩)
  have zb28 := b28.size
  replace r18 := r18.up b28
  replace b15 := b15.trans (b28.mono b15.size)
  replace q := q.trans (b28.mono q.size)
  refine LL.val (R.assign rfl rfl) rfl rfl rfl ?_
  refine LL.nilS ?_
  refine CC.seq ?_
  refine CC.seq ?_
  refine CC.region ?_
  refine LL.val (R.move rfl rfl) rfl rfl rfl ?_
  refine LL.val (R.eqFn rfl rfl rfl rfl) rfl rfl rfl ?_
  refine LL.nilS ?_
  refine CC.no rfl ?_
  refine CC.skip ?_
  refine EE.thenN ?_
  refine CC.seq ?_
  refine CC.seq ?_
  refine CC.region ?_
  refine LL.val (R.move rfl rfl) rfl rfl rfl ?_
  refine LL.nilS ?_
  refine CC.block ?_
  have yB := q.size
  have l4 := r18.lt
  have lbk := rb.lt
  obtain ⟨bkl, hbl, hbB, hblt⟩ := bkl_own hr rfl hbo hbk lbk
  refine CC.rangeZ (γ := Unit) (gf := 66) (lb := [.pointer (some ⟨bk, 0, none⟩)]) (encs := iE) rfl rfl (vals1_gives ns a _ c bk bkl W31 rfl (by omega) rb hr hbl) (Below.refl _ _) (fun k hk => by (try simp only at hk); omega) (fun _ => rfl) rfl
    (fun m (pre : List Nat) W' => Below w.heap.size w W' ∧ ∃ v, RowL W' g17 59 [v] ∧ OwnsT iE 1 W' W31.heap.size 3 v pre ∧ ∀ g, v.ownBlock = some g → ¬ m g)
    (fun _ _ _ => False)
    (fun W' => Below w.heap.size w W' ∧ ∃ v, RowL W' g17 59 [v] ∧ OwnsT iE 1 W' W31.heap.size 3 v ns)
    (by
      rintro m m' s X Y ⟨h1, v, h3, h4, h5⟩ ht hg
      exact ⟨h1.trans (ht.below yB h1.size), v, ht.row h3 (.inl l4), h4.turn ht h5, own_later h4 h5 hg⟩)
    (fun m m' s X Y hs ht hg => hs)
    ⟨q, _, r18, OwnsT.none _ _ _, fun g hg => by cases hg⟩ ?hIA (fun _ _ _ _ h => h.elim)
    (fun x _ => sl [(3, .pointer (some ⟨g17, 0, none⟩)), (5, .int .i64 (x : Int))]) (fun _ _ _ => True) (fun x c => fun _ W W' row h hg hr => trivial) ?assign ?body ?after
  case hIA =>
    rintro m xs W' rfl ⟨h1, v, h3, h4, _⟩
    exact ⟨h1, v, h3, h4⟩
  case assign =>
    rintro l' m pre x W K hm hI hK
    refine CC.region ?_
    refine LL.val (R.assign rfl rfl) rfl rfl rfl ?_
    refine LL.nil ?_
    exact EE.thenK fun a' F => hK a' _ () (StaysZ.refl _ _ _) (Keeps.refl _ _) hI (F.keep _ ⟨rfl, rfl, trivial⟩) trivial
  case body =>
    rintro l' m pre x c W hm hl' hrl ⟨q, v, r18, o, hmv⟩ _ hpart
    have st := StaysZ.refl W31.heap.size m W
    have kp := Keeps.refl (fun k => k = bkl) W
    have yq := q.size
    obtain ⟨_, hr0⟩ := hrl
    have hr1 := (Array.getElem?_eq_some_iff.1 hr0).1
    clear hr0
    have hbW : bkl < W.heap.size := by omega
    have hpl : pre.length + 1 ≤ 1048576 := by
      obtain ⟨_, rfl, hp⟩ := hpart
      have := hp.length_le
      rw [List.length_append] at this
      simp only [List.length_cons, List.length_nil] at this
      omega
    refine CC.block ?_
    refine CC.region ?_
    refine LL.val (R.load rfl rfl (I.ld1 rfl (RowL.cell r18 rfl))) rfl rfl rfl ?_
    refine LL.val (R.move rfl rfl) rfl rfl rfl ?_
    have lb1 := r18.lt
    refine LL.lit (e := 3) [Value.int IntKind.i64 ↑x] 1 rfl rfl (fun _ => by kernel_rfl) rfl rfl ?_
    intro Wb3 gb4 egb4 rb5 zb6 bb2
    replace q := q.trans (bb2.mono q.size)
    replace r18 := r18.up bb2
    replace o := o.up bb2
    replace st := st.trans (StaysZ.of_below bb2)
    replace kp := kp.trans (Keeps.of_below (fun k hk => by (try simp only at hk); omega) bb2)
    refine LL.appendT2 rfl rfl iEnc ElIn o (us := [x]) (RowL.readsT iEnc (ts := [x]) (by assumption) 1 (Nat.le_refl _)) (by simp only [List.length_cons, List.length_nil, maxLen]; omega) (by simp only [List.length_cons, List.length_nil]; omega) (by omega) rfl rfl ?_
    intro v' Wc o' gr hv'
    have og := own_ge o
    have zgr := gr.size
    replace r18 := r18.grO gr (fun e => by have := og g17 e; omega)
    replace st := st.trans (StaysZ.own o gr hmv)
    replace kp := kp.trans ⟨gr.size, fun k hk => gr.block k (by (try simp only at hk); omega) (fun e => by have := og k e.symm; (try simp only at hk); omega)⟩
    replace q := q.grown gr q.size (fun j ej => by have := og j ej; omega)
    replace hmv := own_new hv' hmv (fun j hj => by have := (hm j hj).2; omega)
    clear o gr hv'
    obtain ⟨a', cp, rfl, hcp⟩ := (o'.reads iEnc).form rfl
    refine LL.store rfl rfl rfl rfl r18 (by exact Nat.le_of_ble_eq_true rfl) rfl rfl rfl rfl ?_
    intro Wc2 rc3 bc1 zc4
    have hlbc1 := r18.lt
    replace rc3 : RowL Wc2 _ 59 [Value.slice a' (pre ++ [x]).length cp] := rc3
    clear r18
    replace st := st.trans (StaysZ.of_grown bc1 (by omega))
    replace kp := kp.trans (Keeps.of_grown bc1 fun k hk => by (try simp only at hk); omega)
    replace q := q.grown bc1 q.size (by rintro k ⟨⟩; omega)
    replace o' := o'.grown bc1 (own_ne o' (by omega))
    have r18 := rc3
    clear rc3
    refine LL.nil ?_
    refine EE.inN ?_
    exact EE.roundNZ ⟨st, kp, q, _, r18, o', hmv⟩
  case after =>
    rintro E W hE ⟨h1, v, r18, o⟩ hE1
    refine EE.thenN ?_
    refine CC.seq ?_
    refine CC.region ?_
    refine LL.val (R.load rfl rfl (I.ld1 rfl (RowL.cell r18 rfl))) rfl rfl rfl ?_
    refine LL.val (R.assign rfl rfl) rfl rfl rfl ?_
    refine LL.nilS ?_
    refine CC.ret ?_
    refine EE.ret1 hE1 _ rfl rfl ?_
    exact ⟨_, rfl, (own_taken o hE1).lower (by omega), taken_bel h1 (by omega) (Nat.le_refl _)⟩
--C law07_opens | opens_M _ _ _ _ _ @w @p | ⟨@v, rfl, @o, @b⟩
theorem opens_M (m gn gl qb N : Nat) {s : List Cl} (w : World) (M : Mem w m gn gl qb N s) : Calls Try.prog 26 #[.pointer (some ⟨m, 0, none⟩)] w fun e w' => ∃ v, e = .returned v ∧ OwnsT iE 1 w' w.heap.size 3 v (opS s) ∧ Below w.heap.size w w' :=
  opens_of _ _ w (fun W b => popen_any m gn gl qb N W (M.up b)) (by have := opS_len M; omega)
theorem Mem.turn {w w' : World} {m gn gl qb N B : Nat} {mm : Nat → Prop} {s : List Cl} (M : Mem w m gn gl qb N s) (ht : TurnsZ B mm w w') (hb : m < B ∧ gn < B ∧ gl < B ∧ qb < B) : Mem w' m gn gl qb N s := by
  refine ⟨ht.row M.row (.inl hb.1), ht.row M.now (.inl hb.2.1), ht.row M.last (.inl hb.2.2.1), M.qs.same ?_, M.len, M.pos, M.le, M.ne⟩
  have hx := Array.getElem?_eq_getElem M.qs.lt
  exact (ht.same qb _ hx (.inl hb.2.2.2)).trans hx.symm
set_option maxRecDepth 100000
set_option maxHeartbeats 8000000
theorem kept1_any (i bk m gn gl qb N : Nat) {s : List Cl} {c : Cl} (w : World) (hb : RowL w bk 26 [.pointer (some ⟨m, 0, none⟩)]) (M : Mem w m gn gl qb N s) (hc : s[i]? = some c) : Calls Try.prog 59 #[.int .i64 (i : Int), .pointer (some ⟨bk, 0, none⟩)] w fun e w' => e = .returned (lV c.2.1) ∧ Below w.heap.size w w' := by
  have q := Below.refl w.heap.size w
  have hr := M.row
  have hl := M.len
  have hi := (List.getElem?_eq_some_iff.1 hc).1
  have lts := M.lts
  have m1 : CellsN w ⟨gl, 0 + i * 8, none⟩ 8 (lE c.2.1) := by rw [Nat.zero_add]; exact RowL.elemN (enc := lastE) (x := c) lastEnc M.last hc
  refine X.fn Try.func59 rfl (n := 11) rfl rfl ?_
  refine CC.seq ?_
  refine CC.region ?_
  have l8 := hb.lt
  have l9 := hr.lt
  refine LL.alloc ([Value.int IntKind.u64 0, Value.int IntKind.u64 0, Value.int IntKind.u64 0, Value.int IntKind.u64 0, Value.int IntKind.u64 0, Value.int IntKind.u64 0, Value.int IntKind.u64 0, Value.int IntKind.u64 0]) rfl rfl rfl rfl rfl ?_
  intro W11 g12 eg12 r13 z14 b10
  replace hb := hb.up b10
  replace M := M.up b10
  replace q := q.trans (b10.mono q.size)
  replace hr := hr.up b10
  replace m1 := m1.up b10
  refine LL.nilS ?_
  refine CC.seq ?_
  refine CC.region ?_
  refine LL.val (R.load rfl rfl (I.ld1 rfl (RowL.cell hb rfl))) rfl rfl rfl ?_
  refine LL.val (R.nil rfl rfl) rfl rfl rfl ?_
  refine LL.val (R.field rfl rfl (I.fld rfl)) rfl rfl rfl ?_
  refine LL.val (R.load rfl rfl (I.ld1 rfl (RowL.cell hr rfl))) rfl rfl rfl ?_
  refine LL.val (R.move rfl rfl) rfl rfl rfl ?_
  refine LL.val (R.index rfl rfl rfl (I.ixS rfl (by omega))) rfl rfl rfl ?_
  refine LL.val (R.load rfl rfl (I.ldM (by assumption) rfl rfl)) rfl rfl rfl ?_
  (refine LL.storeAll rfl rfl rfl rfl (lE_len _) (by assumption) rfl (lE_one _) rfl rfl ?_; intro W67 rx68 gr65 zz70; have cr := ln_cells rx68)
  have zgr65 := gr65.size
  replace b10 := b10.grown gr65 b10.size (by rintro k ⟨⟩; omega)
  replace hb := hb.gr gr65 (by have := hb.lt; omega)
  replace M := M.gr gr65 (by omega)
  replace q := q.grown gr65 q.size (by rintro k ⟨⟩; omega)
  replace hr := hr.gr gr65 (by have := hr.lt; omega)
  replace m1 := m1.gr gr65 (by have := m1.lt; omega)
  refine LL.nilS ?_
  refine CC.ret ?_
  refine EE.retC rfl rfl (lvM cr rfl rfl) ?_
  exact ⟨rfl, q⟩
--C pmem_Memory_kept_2 | hK2 @w b' | ⟨rfl, @b⟩
theorem kept2_any (i bk m gn gl qb N : Nat) {s : List Cl} {c : Cl} (w : World) (hb : RowL w bk 26 [.pointer (some ⟨m, 0, none⟩)]) (M : Mem w m gn gl qb N s) (hc : s[i]? = some c) : Calls Try.prog 60 #[.int .i64 (i : Int), .pointer (some ⟨bk, 0, none⟩)] w fun e w' => e = .returned (lV (c.2.2.getD c.2.1)) ∧ Below w.heap.size w w' := by
  have q := Below.refl w.heap.size w
  have hr := M.row
  have hl := M.len
  have hi := (List.getElem?_eq_some_iff.1 hc).1
  have lts := M.lts
  have hq := M.qs
  have hqa := qF_at hc
  have m1 : CellsN w ⟨gl, 0 + i * 8, none⟩ 8 (lE c.2.1) := by rw [Nat.zero_add]; exact RowL.elemN (enc := lastE) (x := c) lastEnc M.last hc
  cases hx : c.2.2 with
  | none =>
    rw [hx] at hqa
    refine X.fn Try.func60 rfl (n := 24) rfl rfl ?_
    refine CC.seq ?_
    refine CC.region ?_
    have l8 := hb.lt
    have l9 := hr.lt
    refine LL.alloc ([Value.int IntKind.u64 0, Value.int IntKind.u64 0, Value.int IntKind.u64 0, Value.int IntKind.u64 0, Value.int IntKind.u64 0, Value.int IntKind.u64 0, Value.int IntKind.u64 0, Value.int IntKind.u64 0]) rfl rfl rfl rfl rfl ?_
    intro W11 g12 eg12 r13 z14 b10
    replace hb := hb.up b10
    replace M := M.up b10
    replace q := q.trans (b10.mono q.size)
    replace hr := hr.up b10
    replace hq := hq.up b10
    replace m1 := m1.up b10
    refine LL.nilS ?_
    refine CC.seq ?_
    refine CC.seq ?_
    refine CC.region ?_
    refine LL.val (R.load rfl rfl (I.ld1 rfl (RowL.cell hb rfl))) rfl rfl rfl ?_
    refine LL.val (R.nil rfl rfl) rfl rfl rfl ?_
    refine LL.val (R.field rfl rfl (I.fld rfl)) rfl rfl rfl ?_
    refine LL.val (R.load rfl rfl (I.ld1 rfl (RowL.cell hr rfl))) rfl rfl rfl ?_
    refine LL.val (R.move rfl rfl) rfl rfl rfl ?_
    (refine LL.val (R.lookKF (z := lV zL) rfl rfl iKeys (by rfl) (by kernel_rfl) hq i rfl hqa) rfl rfl rfl ?_)
    refine LL.val (R.move rfl rfl) rfl rfl rfl ?_
    refine LL.val (R.extract rfl rfl rfl) rfl rfl rfl ?_
    refine LL.val (R.extract rfl rfl rfl) rfl rfl rfl ?_
    have l85 := r13.lt
    have l86 := hb.lt
    have l87 := hr.lt
    refine LL.alloc ([Value.int IntKind.u64 0, Value.int IntKind.u64 0, Value.int IntKind.u64 0, Value.int IntKind.u64 0, Value.int IntKind.u64 0, Value.int IntKind.u64 0, Value.int IntKind.u64 0, Value.int IntKind.u64 0]) rfl rfl rfl rfl rfl ?_
    intro W89 g90 eg90 r91 z92 b88
    replace r13 := r13.up b88
    replace b10 := b10.trans (b88.mono b10.size)
    replace hb := hb.up b88
    replace M := M.up b88
    replace q := q.trans (b88.mono q.size)
    replace hr := hr.up b88
    replace hq := hq.up b88
    replace m1 := m1.up b88
    refine LL.storeN (vs := [(fun n => Value.int IntKind.u64 ↑n) 0, (fun n => Value.int IntKind.u64 ↑n) 0, (fun n => Value.int IntKind.u64 ↑n) 0, (fun n => Value.int IntKind.u64 ↑n) 0, (fun n => Value.int IntKind.u64 ↑n) 0, (fun n => Value.int IntKind.u64 ↑n) 0, (fun n => Value.int IntKind.u64 ↑n) 0, (fun n => Value.int IntKind.u64 ↑n) 0]) rfl rfl rfl rfl r91 (by exact Nat.le_of_ble_eq_true rfl) (ones_of rfl) rfl rfl ?_
    intro W101 r102 b100 z103
    have hlb100 := r91.lt
    replace r102 : RowL W101 _ 79 [(fun n => Value.int IntKind.u64 ↑n) 0, (fun n => Value.int IntKind.u64 ↑n) 0, (fun n => Value.int IntKind.u64 ↑n) 0, (fun n => Value.int IntKind.u64 ↑n) 0, (fun n => Value.int IntKind.u64 ↑n) 0, (fun n => Value.int IntKind.u64 ↑n) 0, (fun n => Value.int IntKind.u64 ↑n) 0, (fun n => Value.int IntKind.u64 ↑n) 0] := r102
    clear r91
    replace b88 := b88.grown b100 b88.size (by rintro k ⟨⟩; omega)
    replace r13 := r13.gr b100 (by have := r13.lt; omega)
    replace b10 := b10.grown b100 b10.size (by rintro k ⟨⟩; omega)
    replace hb := hb.gr b100 (by have := hb.lt; omega)
    replace M := M.gr b100 (by omega)
    replace q := q.grown b100 q.size (by rintro k ⟨⟩; omega)
    replace hr := hr.gr b100 (by have := hr.lt; omega)
    replace hq := hq.gr b100 (by have := hq.lt; omega)
    replace m1 := m1.gr b100 (by have := m1.lt; omega)
    have r91 := r102
    clear r102
    refine LL.val (R.assign rfl rfl) rfl rfl rfl ?_
    refine LL.nilS ?_
    refine CC.seq ?_
    refine CC.region ?_
    refine LL.val (R.move rfl rfl) rfl rfl rfl ?_
    refine LL.nilS ?_
    refine CC.no rfl ?_
    refine CC.skip ?_
    refine EE.thenN ?_
    refine CC.seq ?_
    refine CC.region ?_
    refine LL.val (R.load rfl rfl (I.ld1 rfl (RowL.cell hb rfl))) rfl rfl rfl ?_
    refine LL.val (R.nil rfl rfl) rfl rfl rfl ?_
    refine LL.val (R.field rfl rfl (I.fld rfl)) rfl rfl rfl ?_
    refine LL.val (R.load rfl rfl (I.ld1 rfl (RowL.cell hr rfl))) rfl rfl rfl ?_
    refine LL.val (R.move rfl rfl) rfl rfl rfl ?_
    refine LL.val (R.index rfl rfl rfl (I.ixS rfl (by omega))) rfl rfl rfl ?_
    refine LL.val (R.load rfl rfl (I.ldM (by assumption) rfl rfl)) rfl rfl rfl ?_
    (refine LL.storeAll rfl rfl rfl rfl (lE_len _) (by assumption) rfl (lE_one _) rfl rfl ?_; intro W170 rx171 gr168 zz173; have cy172 := ln_cells rx171)
    have zgr168 := gr168.size
    replace b10 := b10.grown gr168 b10.size (by rintro k ⟨⟩; omega)
    replace hb := hb.gr gr168 (by have := hb.lt; omega)
    replace M := M.gr gr168 (by omega)
    replace q := q.grown gr168 q.size (by rintro k ⟨⟩; omega)
    replace hr := hr.gr gr168 (by have := hr.lt; omega)
    replace hq := hq.gr gr168 (by have := hq.lt; omega)
    replace m1 := m1.gr gr168 (by have := m1.lt; omega)
    replace r91 := r91.gr gr168 (by have := r91.lt; omega)
    refine LL.nilS ?_
    refine CC.ret ?_
    refine EE.retC rfl rfl (lvM (by assumption) rfl rfl) ?_
    exact ⟨rfl, q⟩
  | some x =>
    rw [hx] at hqa
    refine X.fn Try.func60 rfl (n := 24) rfl rfl ?_
    refine CC.seq ?_
    refine CC.region ?_
    have la8 := hb.lt
    have la9 := hr.lt
    refine LL.alloc ([Value.int IntKind.u64 0, Value.int IntKind.u64 0, Value.int IntKind.u64 0, Value.int IntKind.u64 0, Value.int IntKind.u64 0, Value.int IntKind.u64 0, Value.int IntKind.u64 0, Value.int IntKind.u64 0]) rfl rfl rfl rfl rfl ?_
    intro Wa11 ga12 ega12 ra13 za14 ba10
    replace hb := hb.up ba10
    replace M := M.up ba10
    replace q := q.trans (ba10.mono q.size)
    replace hr := hr.up ba10
    replace hq := hq.up ba10
    replace m1 := m1.up ba10
    refine LL.nilS ?_
    refine CC.seq ?_
    refine CC.seq ?_
    refine CC.region ?_
    refine LL.val (R.load rfl rfl (I.ld1 rfl (RowL.cell hb rfl))) rfl rfl rfl ?_
    refine LL.val (R.nil rfl rfl) rfl rfl rfl ?_
    refine LL.val (R.field rfl rfl (I.fld rfl)) rfl rfl rfl ?_
    refine LL.val (R.load rfl rfl (I.ld1 rfl (RowL.cell hr rfl))) rfl rfl rfl ?_
    refine LL.val (R.move rfl rfl) rfl rfl rfl ?_
    (refine LL.val (R.lookKT rfl rfl iKeys (by rfl) (z := lV zL) (by kernel_rfl) hq i rfl hqa) rfl rfl rfl ?_)
    refine LL.val (R.move rfl rfl) rfl rfl rfl ?_
    refine LL.val (R.extract rfl rfl rfl) rfl rfl rfl ?_
    refine LL.val (R.extract rfl rfl rfl) rfl rfl rfl ?_
    have la85 := ra13.lt
    have la86 := hb.lt
    have la87 := hr.lt
    refine LL.alloc ([Value.int IntKind.u64 0, Value.int IntKind.u64 0, Value.int IntKind.u64 0, Value.int IntKind.u64 0, Value.int IntKind.u64 0, Value.int IntKind.u64 0, Value.int IntKind.u64 0, Value.int IntKind.u64 0]) rfl rfl rfl rfl rfl ?_
    intro Wa89 ga90 ega90 ra91 za92 ba88
    replace ra13 := ra13.up ba88
    replace ba10 := ba10.trans (ba88.mono ba10.size)
    replace hb := hb.up ba88
    replace M := M.up ba88
    replace q := q.trans (ba88.mono q.size)
    replace hr := hr.up ba88
    replace hq := hq.up ba88
    replace m1 := m1.up ba88
    (refine LL.storeAll rfl rfl rfl rfl (lE_len _) (by assumption) rfl (lE_one _) rfl rfl ?_; intro Wa96 rxa97 gra94 zza99; have cya98 := ln_cells rxa97)
    have zgra94 := gra94.size
    replace ba88 := ba88.grown gra94 ba88.size (by rintro k ⟨⟩; omega)
    replace ra13 := ra13.gr gra94 (by have := ra13.lt; omega)
    replace ba10 := ba10.grown gra94 ba10.size (by rintro k ⟨⟩; omega)
    replace hb := hb.gr gra94 (by have := hb.lt; omega)
    replace M := M.gr gra94 (by omega)
    replace q := q.grown gra94 q.size (by rintro k ⟨⟩; omega)
    replace hr := hr.gr gra94 (by have := hr.lt; omega)
    replace hq := hq.gr gra94 (by have := hq.lt; omega)
    replace m1 := m1.gr gra94 (by have := m1.lt; omega)
    refine LL.val (R.assign rfl rfl) rfl rfl rfl ?_
    refine LL.nilS ?_
    refine CC.seq ?_
    refine CC.region ?_
    refine LL.val (R.move rfl rfl) rfl rfl rfl ?_
    refine LL.nilS ?_
    refine CC.yes rfl ?_
    refine CC.seq ?_
    refine CC.region ?_
    refine LL.val (R.load rfl rfl (I.ldM (by assumption) rfl rfl)) rfl rfl rfl ?_
    (refine LL.storeAll rfl rfl rfl rfl (lE_len _) (by assumption) rfl (lE_one _) rfl rfl ?_; intro Wa124 rxa125 gra122 zza127; have cya126 := ln_cells rxa125)
    have zgra122 := gra122.size
    replace rxa97 := rxa97.gr gra122 (by have := rxa97.lt; omega)
    replace cya98 := cya98.gr gra122 (by have := cya98.lt; omega)
    replace ba10 := ba10.grown gra122 ba10.size (by rintro k ⟨⟩; omega)
    replace hb := hb.gr gra122 (by have := hb.lt; omega)
    replace M := M.gr gra122 (by omega)
    replace q := q.grown gra122 q.size (by rintro k ⟨⟩; omega)
    replace hr := hr.gr gra122 (by have := hr.lt; omega)
    replace hq := hq.gr gra122 (by have := hq.lt; omega)
    replace m1 := m1.gr gra122 (by have := m1.lt; omega)
    refine LL.nilS ?_
    refine CC.ret ?_
    refine EE.thenR ?_
    refine EE.retC rfl rfl (lvM (by assumption) rfl rfl) ?_
    exact ⟨rfl, q⟩
--C pmem_Memory_kept_3 | hK3 @w b' | ⟨rfl, @b⟩
theorem kept3_any (i bk m gn gl qb N : Nat) {s : List Cl} {c : Cl} (w : World) (hb : RowL w bk 26 [.pointer (some ⟨m, 0, none⟩)]) (M : Mem w m gn gl qb N s) (hc : s[i]? = some c) : Calls Try.prog 61 #[.int .i64 (i : Int), .pointer (some ⟨bk, 0, none⟩)] w fun e w' => e = .returned (lV c.1) ∧ Below w.heap.size w w' := by
  have q := Below.refl w.heap.size w
  have hr := M.row
  have hl := M.len
  have hi := (List.getElem?_eq_some_iff.1 hc).1
  have lts := M.lts
  have m1 : CellsN w ⟨gn, 0 + i * 8, none⟩ 8 (lE c.1) := by rw [Nat.zero_add]; exact RowL.elemN (enc := nowE) (x := c) nowEnc M.now hc
  refine X.fn Try.func61 rfl (n := 12) rfl rfl ?_
  refine CC.seq ?_
  refine CC.region ?_
  have l8 := hb.lt
  have l9 := hr.lt
  refine LL.alloc ([Value.int IntKind.u64 0, Value.int IntKind.u64 0, Value.int IntKind.u64 0, Value.int IntKind.u64 0, Value.int IntKind.u64 0, Value.int IntKind.u64 0, Value.int IntKind.u64 0, Value.int IntKind.u64 0]) rfl rfl rfl rfl rfl ?_
  intro W11 g12 eg12 r13 z14 b10
  replace hb := hb.up b10
  replace M := M.up b10
  replace q := q.trans (b10.mono q.size)
  replace hr := hr.up b10
  replace m1 := m1.up b10
  refine LL.nilS ?_
  refine CC.seq ?_
  refine CC.region ?_
  refine LL.val (R.load rfl rfl (I.ld1 rfl (RowL.cell hb rfl))) rfl rfl rfl ?_
  refine LL.val (R.nil rfl rfl) rfl rfl rfl ?_
  refine LL.val (R.field rfl rfl (I.fld rfl)) rfl rfl rfl ?_
  refine LL.val (R.field rfl rfl (I.fld rfl)) rfl rfl rfl ?_
  refine LL.val (R.load rfl rfl (I.ld1 rfl (RowL.cell hr rfl))) rfl rfl rfl ?_
  refine LL.val (R.move rfl rfl) rfl rfl rfl ?_
  refine LL.val (R.index rfl rfl rfl (I.ixS rfl (by omega))) rfl rfl rfl ?_
  refine LL.val (R.load rfl rfl (I.ldM (by assumption) rfl rfl)) rfl rfl rfl ?_
  (refine LL.storeAll rfl rfl rfl rfl (lE_len _) (by assumption) rfl (lE_one _) rfl rfl ?_; intro W74 rx75 gr72 zz77; have cr := ln_cells rx75)
  have zgr72 := gr72.size
  replace b10 := b10.grown gr72 b10.size (by rintro k ⟨⟩; omega)
  replace hb := hb.gr gr72 (by have := hb.lt; omega)
  replace M := M.gr gr72 (by omega)
  replace q := q.grown gr72 q.size (by rintro k ⟨⟩; omega)
  replace hr := hr.gr gr72 (by have := hr.lt; omega)
  replace m1 := m1.gr gr72 (by have := m1.lt; omega)
  refine LL.nilS ?_
  refine CC.ret ?_
  refine EE.retC rfl rfl (lvM cr rfl rfl) ?_
  exact ⟨rfl, q⟩
abbrev kfV (f bk : Nat) : Value := .func (.func f) #[] #[.pointer (some ⟨bk, 0, none⟩)]
theorem kept_any (m : Nat) (w : World) : Calls Try.prog 46 #[.pointer (some ⟨m, 0, none⟩)] w fun e w' => ∃ bk, e = .returned (.agg #[kfV 59 bk, kfV 60 bk, kfV 61 bk]) ∧ RowL w' bk 26 [.pointer (some ⟨m, 0, none⟩)] ∧ w.heap.size ≤ bk ∧ Below w.heap.size w w' := by
  have q := Below.refl w.heap.size w
  refine X.fn Try.func46 rfl (n := 7) rfl rfl ?_
  refine CC.seq ?_
  refine CC.region ?_
  refine LL.box [Value.pointer (some { block := m, off := 0 })] rfl rfl rfl rfl rfl ?_
  intro W2 g3 eg3 r4 z5 b1
  replace q := q.trans (b1.mono q.size)
  have l6 := r4.lt
  refine LL.alloc ([Value.nilFunc, Value.nilFunc, Value.nilFunc]) rfl rfl rfl rfl rfl ?_
  intro W8 g9 eg9 r10 z11 b7
  replace r4 := r4.up b7
  replace b1 := b1.trans (b7.mono b1.size)
  replace q := q.trans (b7.mono q.size)
  refine LL.nilS ?_
  refine CC.seq ?_
  refine CC.region ?_
  refine LL.val (R.func rfl rfl rfl) rfl rfl rfl ?_
  refine LL.val (R.func rfl rfl rfl) rfl rfl rfl ?_
  refine LL.val (R.func rfl rfl rfl) rfl rfl rfl ?_
  refine LL.val (R.buildV rfl rfl (v := .agg #[Value.func (Fn.func 59) #[] #[Value.pointer (some { block := g3, off := 0 })], Value.func (Fn.func 60) #[] #[Value.pointer (some { block := g3, off := 0 })], Value.func (Fn.func 61) #[] #[Value.pointer (some { block := g3, off := 0 })]]) (fun _ => by kernel_rfl)) rfl rfl rfl ?_
  refine LL.storeN (vs := [Value.func (Fn.func 59) #[] #[Value.pointer (some { block := g3, off := 0 })], Value.func (Fn.func 60) #[] #[Value.pointer (some { block := g3, off := 0 })], Value.func (Fn.func 61) #[] #[Value.pointer (some { block := g3, off := 0 })]]) rfl rfl rfl rfl r10 (by exact Nat.le_of_ble_eq_true rfl) (ones_of rfl) rfl rfl ?_
  intro W13 r14 b12 z15
  have hlb12 := r10.lt
  replace r14 : RowL W13 _ 86 [Value.func (Fn.func 59) #[] #[Value.pointer (some { block := g3, off := 0 })], Value.func (Fn.func 60) #[] #[Value.pointer (some { block := g3, off := 0 })], Value.func (Fn.func 61) #[] #[Value.pointer (some { block := g3, off := 0 })]] := r14
  clear r10
  replace b7 := b7.grown b12 b7.size (by rintro k ⟨⟩; omega)
  replace r4 := r4.gr b12 (by have := r4.lt; omega)
  replace b1 := b1.grown b12 b1.size (by rintro k ⟨⟩; omega)
  replace q := q.grown b12 q.size (by rintro k ⟨⟩; omega)
  have r10 := r14
  clear r14
  refine LL.nilS ?_
  refine CC.ret ?_
  refine EE.retC rfl rfl (lvNc (RowL.cells0 (by assumption)) (by rfl) (by rfl)) ?_
  exact ⟨_, rfl, by assumption, by omega, q⟩
def pkL (c : Cl) (p : Nat) : Ln := if p % 3 = 0 then c.2.1 else if p % 3 = 1 then c.2.2.getD c.2.1 else c.1
/-- What a crash leaves, behind j of the open lines. -/
def crJ (s : List Cl) (ps : List Nat) : Nat → List Ln
  | 0 => s.map fun c => c.2.1
  | j + 1 => match (opS s)[j]?, ps[j]? with
    | some k, some p => (match s[k]? with | some c => (crJ s ps j).set k (pkL c p) | none => crJ s ps j)
    | _, _ => crJ s ps j
def crS (s : List Cl) (ps : List Nat) : List Ln := crJ s ps (opS s).length
theorem crJ_len (s : List Cl) (ps : List Nat) : ∀ j, (crJ s ps j).length = s.length
  | 0 => by simp [crJ]
  | j + 1 => by
    have ih := crJ_len s ps j
    unfold crJ
    split
    · split
      · rw [List.length_set, ih]
      · exact ih
    · exact ih
theorem crJ_step {s : List Cl} {ps : List Nat} {j k p : Nat} {c : Cl} (hk : (opS s)[j]? = some k) (hp : ps[j]? = some p) (hc : s[k]? = some c) : crJ s ps (j + 1) = (crJ s ps j).set k (pkL c p) := by
  show (match (opS s)[j]?, ps[j]? with | some k, some p => (match s[k]? with | some c => (crJ s ps j).set k (pkL c p) | none => crJ s ps j) | _, _ => crJ s ps j) = _
  rw [hk, hp]
  simp only [hc]
theorem crJ_none {s : List Cl} {ps : List Nat} {j : Nat} (hp : ps[j]? = none) : crJ s ps (j + 1) = crJ s ps j := by
  show (match (opS s)[j]?, ps[j]? with | some k, some p => (match s[k]? with | some c => (crJ s ps j).set k (pkL c p) | none => crJ s ps j) | _, _ => crJ s ps j) = _
  rw [hp]
  cases (opS s)[j]? <;> rfl
theorem crJ_stop {s : List Cl} {ps : List Nat} {j : Nat} (h : ps.length ≤ j) : ∀ d, crJ s ps (j + d) = crJ s ps j
  | 0 => rfl
  | d + 1 => by rw [← Nat.add_assoc, crJ_none (List.getElem?_eq_none (by omega)), crJ_stop h d]
def yE (n : Nat) : List Value := [.int .u8 (n : Int)]
theorem yEnc : Enc yE 1 := ⟨fun _ => rfl, fun t u hu => by
  simp only [yE, List.mem_cons, List.not_mem_nil, or_false] at hu
  subst hu
  rfl, by decide⟩
theorem Mem.taken {w : World} {m gn gl qb N E : Nat} {s : List Cl} (M : Mem w m gn gl qb N s) (hE : w.heap[E]? = some (.deferred (some []))) : Mem (Go.Proofs.Ytajfffoaebjnlaa.taken E w) m gn gl qb N s := by
  have key : ∀ {g e : Nat} {xs : List Value}, RowL w g e xs → RowL (Go.Proofs.Ytajfffoaebjnlaa.taken E w) g e xs := fun {g e xs} h => h.same (World.putObj_heap_other (fun h2 => by subst h2; have h3 : w.heap[g]? = _ := h; rw [hE] at h3; cases h3))
  exact ⟨key M.row, key M.now, key M.last, M.qs.same (World.putObj_heap_other (fun h2 => by subst h2; obtain ⟨es, cl, h3, _⟩ := M.qs; rw [hE] at h3; cases h3)), M.len, M.pos, M.le, M.ne⟩
theorem pre_at {α : Type} {pre l : List α} {x : α} (h : pre ++ [x] <+: l) : l[pre.length]? = some x := by
  obtain ⟨t, rfl⟩ := h
  simp
set_option maxRecDepth 100000
set_option maxHeartbeats 8000000
theorem crash_any (m gn gl qb N : Nat) {s : List Cl} (a : Option Addr) (L cp : Nat) (ps : List Nat) (w : World) (M : Mem w m gn gl qb N s) (hps : ReadsT yE 1 w (.slice a L cp) ps) (hL : ps.length = L) (hL2 : L ≤ 1048576) (hb : ∀ p ∈ ps, p < 256) :
    Calls Try.prog 17 #[.pointer (some ⟨m, 0, none⟩), .slice a L cp] w fun e w' => ∃ m' gn' gl' qb', e = .returned (.tuple #[.pointer (some ⟨m', 0, none⟩), .int .i64 0]) ∧ Mem w' m' gn' gl' qb' N ((crS s ps).map nwC) ∧ w.heap.size ≤ m' ∧ w.heap.size ≤ gn' ∧ w.heap.size ≤ gl' ∧ w.heap.size ≤ qb' ∧ Below w.heap.size w w' := by
  have q := Below.refl w.heap.size w
  have hr := M.row
  have h0 := M.pos
  have hN := M.le
  have hl := M.len
  have hpF : ∀ W, Below w.heap.size w W → ReadsT yE 1 W (.slice a L cp) ps := fun W b => hps.up b
  have hMF : ∀ W, Below w.heap.size w W → Mem W m gn gl qb N s := fun W b => M.up b
  have lts := M.lts
  have hla : RowL w gl 79 ((s.map fun c => c.2.1).flatMap lE) := by rw [List.flatMap_map]; exact M.last
  have hll : (s.map fun c => c.2.1).length = N := by rw [List.length_map]; exact hl
  clear hps M
  refine X.fnM Try.func17 rfl (n := 43) rfl rfl ?_
  refine CC.seq ?_
  refine CC.region ?_
  have l1 := hr.lt
  have l2 := hla.lt
  refine LL.box [Value.slice a L cp] rfl rfl rfl rfl rfl ?_
  intro W4 g5 eg5 r6 z7 b3
  replace q := q.trans (b3.mono q.size)
  replace hr := hr.up b3
  replace hla := hla.up b3
  refine LL.val (R.assign rfl rfl) rfl rfl rfl ?_
  refine LL.val (R.assign rfl rfl) rfl rfl rfl ?_
  refine LL.nilS ?_
  refine CC.straight ?_
  refine CC.seq ?_
  refine CC.seq ?_
  refine CC.region ?_
  refine LL.val (R.move rfl rfl) rfl rfl rfl ?_
  refine LL.call (R.call rfl rfl rfl) rfl rfl rfl (none_F _ _ (by first | assumption | omega) (by first | assumption | omega)) ?_
  rintro e W' ⟨rfl, rfl⟩
  refine ⟨_, rfl, ?_⟩
  refine LL.nilS ?_
  refine CC.no rfl ?_
  refine CC.skip ?_
  refine EE.thenN ?_
  refine CC.seq ?_
  refine CC.region ?_
  refine LL.val (R.move rfl rfl) rfl rfl rfl ?_
  refine LL.val (R.nil rfl rfl) rfl rfl rfl ?_
  refine LL.val (R.field rfl rfl (I.fld rfl)) rfl rfl rfl ?_
  refine LL.val (R.load rfl rfl (I.ld1 rfl (RowL.cell hr rfl))) rfl rfl rfl ?_
  refine LL.call (R.call rfl rfl rfl) rfl rfl rfl (moved_any lEnc _ _ _ _ (by first | assumption | omega) (by first | assumption | omega) (by first | assumption | omega)) ?_
  rintro e W9 ⟨g10, rfl, r11, l12, o13, b8⟩
  refine ⟨_, rfl, ?_⟩
  have zb8 := b8.size
  replace r6 := r6.up b8
  replace b3 := b3.trans (b8.mono b3.size)
  replace q := q.trans (b8.mono q.size)
  replace hr := hr.up b8
  replace hla := hla.up b8
  have l15 := r11.lt
  have l16 := r6.lt
  have l17 := hr.lt
  have l18 := hla.lt
  refine LL.alloc ([Value.slice none 0 0]) rfl rfl rfl rfl rfl ?_
  intro W20 g21 eg21 r22 z23 b19
  replace r11 := r11.up b19
  replace b8 := b8.trans (b19.mono b8.size)
  replace r6 := r6.up b19
  replace b3 := b3.trans (b19.mono b3.size)
  replace q := q.trans (b19.mono q.size)
  replace hr := hr.up b19
  replace hla := hla.up b19
  refine LL.store rfl rfl rfl rfl r22 (by exact Nat.le_of_ble_eq_true rfl) rfl rfl rfl rfl ?_
  intro W25 r26 b24 z27
  have hlb24 := r22.lt
  replace r26 : RowL W25 _ 48 [Value.slice (some { block := g10, off := 0 }) N N] := r26
  clear r22
  replace b19 := b19.grown b24 b19.size (by rintro k ⟨⟩; omega)
  replace r11 := r11.gr b24 (by have := r11.lt; omega)
  replace b8 := b8.grown b24 b8.size (by rintro k ⟨⟩; omega)
  replace r6 := r6.gr b24 (by have := r6.lt; omega)
  replace b3 := b3.grown b24 b3.size (by rintro k ⟨⟩; omega)
  replace q := q.grown b24 q.size (by rintro k ⟨⟩; omega)
  replace hr := hr.gr b24 (by have := hr.lt; omega)
  replace hla := hla.gr b24 (by have := hla.lt; omega)
  have r22 := r26
  clear r26
  refine LL.nilS ?_
  refine CC.seq ?_
  refine CC.region ?_
  refine LL.val (R.move rfl rfl) rfl rfl rfl ?_
  refine LL.call (R.call rfl rfl rfl) rfl rfl rfl (kept_any _ _) ?_
  rintro e W29 ⟨g30, rfl, r31, l32, b28⟩
  refine ⟨_, rfl, ?_⟩
  have zb28 := b28.size
  replace b19 := b19.trans (b28.mono b19.size)
  replace r11 := r11.up b28
  replace b8 := b8.trans (b28.mono b8.size)
  replace r6 := r6.up b28
  replace b3 := b3.trans (b28.mono b3.size)
  replace q := q.trans (b28.mono q.size)
  replace hr := hr.up b28
  replace hla := hla.up b28
  replace r22 := r22.up b28
  have l34 := r31.lt
  have l35 := r11.lt
  have l36 := r6.lt
  have l37 := hr.lt
  have l38 := hla.lt
  have l39 := r22.lt
  refine LL.alloc ([Value.nilFunc, Value.nilFunc, Value.nilFunc]) rfl rfl rfl rfl rfl ?_
  intro W41 g42 eg42 r43 z44 b40
  replace r31 := r31.up b40
  replace b28 := b28.trans (b40.mono b28.size)
  replace b19 := b19.trans (b40.mono b19.size)
  replace r11 := r11.up b40
  replace b8 := b8.trans (b40.mono b8.size)
  replace r6 := r6.up b40
  replace b3 := b3.trans (b40.mono b3.size)
  replace q := q.trans (b40.mono q.size)
  replace hr := hr.up b40
  replace hla := hla.up b40
  replace r22 := r22.up b40
  refine LL.storeN (vs := [kfV 59 g30, kfV 60 g30, kfV 61 g30]) rfl rfl rfl rfl r43 (by exact Nat.le_of_ble_eq_true rfl) (ones_of rfl) rfl rfl ?_
  intro W46 r47 b45 z48
  have hlb45 := r43.lt
  replace r47 : RowL W46 _ 86 [kfV 59 g30, kfV 60 g30, kfV 61 g30] := r47
  clear r43
  replace b40 := b40.grown b45 b40.size (by rintro k ⟨⟩; omega)
  replace r31 := r31.gr b45 (by have := r31.lt; omega)
  replace b28 := b28.grown b45 b28.size (by rintro k ⟨⟩; omega)
  replace b19 := b19.grown b45 b19.size (by rintro k ⟨⟩; omega)
  replace r11 := r11.gr b45 (by have := r11.lt; omega)
  replace b8 := b8.grown b45 b8.size (by rintro k ⟨⟩; omega)
  replace r6 := r6.gr b45 (by have := r6.lt; omega)
  replace b3 := b3.grown b45 b3.size (by rintro k ⟨⟩; omega)
  replace q := q.grown b45 q.size (by rintro k ⟨⟩; omega)
  replace hr := hr.gr b45 (by have := hr.lt; omega)
  replace hla := hla.gr b45 (by have := hla.lt; omega)
  replace r22 := r22.gr b45 (by have := r22.lt; omega)
  have r43 := r47
  clear r47
  refine LL.nilS ?_
  refine CC.seq ?_
  refine CC.region ?_
  have l49 := r31.lt
  have l50 := r11.lt
  have l51 := r6.lt
  have l52 := hr.lt
  have l53 := hla.lt
  have l54 := r22.lt
  have l55 := r43.lt
  refine LL.alloc ([Value.int IntKind.i64 0]) rfl rfl rfl rfl rfl ?_
  intro W57 g58 eg58 r59 z60 b56
  replace b40 := b40.trans (b56.mono b40.size)
  replace r31 := r31.up b56
  replace b28 := b28.trans (b56.mono b28.size)
  replace b19 := b19.trans (b56.mono b19.size)
  replace r11 := r11.up b56
  replace b8 := b8.trans (b56.mono b8.size)
  replace r6 := r6.up b56
  replace b3 := b3.trans (b56.mono b3.size)
  replace q := q.trans (b56.mono q.size)
  replace hr := hr.up b56
  replace hla := hla.up b56
  replace r22 := r22.up b56
  replace r43 := r43.up b56
  refine LL.store rfl rfl rfl rfl r59 (by exact Nat.le_of_ble_eq_true rfl) rfl rfl rfl rfl ?_
  intro W62 r63 b61 z64
  have hlb61 := r59.lt
  replace r63 : RowL W62 _ 3 [Value.int IntKind.i64 0] := r63
  clear r59
  replace b56 := b56.grown b61 b56.size (by rintro k ⟨⟩; omega)
  replace b40 := b40.grown b61 b40.size (by rintro k ⟨⟩; omega)
  replace r31 := r31.gr b61 (by have := r31.lt; omega)
  replace b28 := b28.grown b61 b28.size (by rintro k ⟨⟩; omega)
  replace b19 := b19.grown b61 b19.size (by rintro k ⟨⟩; omega)
  replace r11 := r11.gr b61 (by have := r11.lt; omega)
  replace b8 := b8.grown b61 b8.size (by rintro k ⟨⟩; omega)
  replace r6 := r6.gr b61 (by have := r6.lt; omega)
  replace b3 := b3.grown b61 b3.size (by rintro k ⟨⟩; omega)
  replace q := q.grown b61 q.size (by rintro k ⟨⟩; omega)
  replace hr := hr.gr b61 (by have := hr.lt; omega)
  replace hla := hla.gr b61 (by have := hla.lt; omega)
  replace r22 := r22.gr b61 (by have := r22.lt; omega)
  replace r43 := r43.gr b61 (by have := r43.lt; omega)
  have r59 := r63
  clear r63
  refine LL.nilS ?_
  refine CC.seq ?_
  refine CC.label ?_
  refine EE.thenN ?_
  refine CC.seq ?_
  refine CC.seq ?_
  refine CC.region ?_
  refine LL.val (R.move rfl rfl) rfl rfl rfl ?_
  refine LL.call (R.call rfl rfl rfl) rfl rfl rfl (open_any _ _) ?_
  rintro e W66 ⟨g67, rfl, r68, l69, b65⟩
  refine ⟨_, rfl, ?_⟩
  have zb65 := b65.size
  replace b56 := b56.trans (b65.mono b56.size)
  replace b40 := b40.trans (b65.mono b40.size)
  replace r31 := r31.up b65
  replace b28 := b28.trans (b65.mono b28.size)
  replace b19 := b19.trans (b65.mono b19.size)
  replace r11 := r11.up b65
  replace b8 := b8.trans (b65.mono b8.size)
  replace r6 := r6.up b65
  replace b3 := b3.trans (b65.mono b3.size)
  replace q := q.trans (b65.mono q.size)
  replace hr := hr.up b65
  replace hla := hla.up b65
  replace r22 := r22.up b65
  replace r43 := r43.up b65
  replace r59 := r59.up b65
  refine LL.nilS ?_
  refine CC.block ?_
  have yB := q.size
  have l68 : g67 < W66.heap.size := r68.lt
  have hcl : ∀ (pre : List Nat) (x : Nat), Part (fun xs => xs = opS s) (pre ++ [x]) → (opS s)[pre.length]? = some x ∧ pre.length < 16384 ∧ ∃ c, s[x]? = some c := fun pre x hp => by
    obtain ⟨_, rfl, hp⟩ := hp
    have h1 := pre_at hp
    have h2 := opF_lt x (List.mem_of_getElem? h1)
    have h3 := opF_len (s := s) s.length
    have h4 := (List.getElem?_eq_some_iff.1 h1).1
    exact ⟨h1, by unfold opS at h4; omega, h2.2.imp fun c h => h.1⟩
  refine CC.rangeZ (γ := Unit) (gf := 62) (lb := [.pointer (some ⟨g67, 0, none⟩)]) (encs := iE) rfl rfl (open1_gives g67 m gn gl qb N s W66 r68 (hMF _ q)) (Below.refl _ _) (fun k hk => by have lr := r68.lt; (try simp only at hk); omega) (fun _ => rfl) rfl
    (fun mm (pre : List Nat) W' => Below w.heap.size w W' ∧ RowL W' g10 79 ((crJ s ps pre.length).flatMap lE) ∧ RowL W' g21 48 [.slice (some ⟨g10, 0, none⟩) N N] ∧ RowL W' g42 86 [kfV 59 g30, kfV 60 g30, kfV 61 g30] ∧ RowL W' g58 3 [.int .i64 (pre.length : Int)] ∧ RowL W' g5 42 [.slice a L cp] ∧ RowL W' g30 26 [.pointer (some ⟨m, 0, none⟩)] ∧ pre.length ≤ L)
    (fun mm (pre : List Nat) W' => Below w.heap.size w W' ∧ RowL W' g10 79 ((crS s ps).flatMap lE) ∧ RowL W' g21 48 [.slice (some ⟨g10, 0, none⟩) N N])
    (fun W' => Below w.heap.size w W' ∧ RowL W' g10 79 ((crS s ps).flatMap lE) ∧ RowL W' g21 48 [.slice (some ⟨g10, 0, none⟩) N N])
    (by
      rintro mm m' s' X Y ⟨h1, h2, h3, h4, h5, h6, h7, h8⟩ ht hg
      exact ⟨h1.trans (ht.below yB h1.size), ht.row h2 (.inl (by omega)), ht.row h3 (.inl (by omega)), ht.row h4 (.inl (by omega)), ht.row h5 (.inl (by omega)), ht.row h6 (.inl (by omega)), ht.row h7 (.inl (by omega)), h8⟩)
    (by
      rintro mm m' s' X Y ⟨h1, h2, h3⟩ ht hg
      exact ⟨h1.trans (ht.below yB h1.size), ht.row h2 (.inl (by omega)), ht.row h3 (.inl (by omega))⟩)
    ⟨q, by assumption, by assumption, by assumption, by assumption, by assumption, by assumption, Nat.zero_le _⟩ ?hIA ?hIxA
    (fun x _ => sl [(3, .pointer (some ⟨g5, 0, none⟩)), (6, .pointer (some ⟨g21, 0, none⟩)), (7, .pointer (some ⟨g42, 0, none⟩)), (8, .pointer (some ⟨g58, 0, none⟩)), (9, .int .i64 (x : Int))]) (fun _ _ _ => True) (fun x c => fun _ W W' row h hg hr => trivial) ?assign ?body ?after
  case hIA =>
    rintro mm xs W' rfl ⟨h1, h2, h3, _⟩
    exact ⟨h1, h2, h3⟩
  case hIxA =>
    rintro mm pre W' _ h
    exact h
  case assign =>
    rintro l' mm pre x W K hm hI hK
    refine CC.region ?_
    refine LL.val (R.assign rfl rfl) rfl rfl rfl ?_
    refine LL.nil ?_
    exact EE.thenK fun a' F => hK a' _ () (StaysZ.refl _ _ _) (Keeps.refl _ _) hI (F.keep _ ⟨rfl, rfl, rfl, rfl, rfl, trivial⟩) trivial
  case body =>
    rintro l' mm pre x c W hm hl' hrl ⟨q, r11, r22, r43, r59, r6, r31, hpl⟩ _ hpart
    obtain ⟨hx, hpn, c0, hc⟩ := hcl pre x hpart
    have st := StaysZ.refl W66.heap.size mm W
    have kp := Keeps.refl (fun k => k = g67 ∨ k = m ∨ k = gn ∨ k = gl ∨ k = qb) W
    have yq := q.size
    obtain ⟨_, hr0⟩ := hrl
    have hr1 := (Array.getElem?_eq_some_iff.1 hr0).1
    clear hr0
    have hxl := (List.getElem?_eq_some_iff.1 hc).1
    by_cases hend : pre.length = L
    · have hfin : crJ s ps pre.length = crS s ps := by
        have h1 := (List.getElem?_eq_some_iff.1 hx).1
        have h2 := crJ_stop (s := s) (ps := ps) (j := pre.length) (by omega) ((opS s).length - pre.length)
        rw [show pre.length + ((opS s).length - pre.length) = (opS s).length by omega] at h2
        exact h2.symm
      rw [hfin] at r11
      refine CC.block ?_
      refine CC.seq ?_
      refine CC.seq ?_
      refine CC.region ?_
      refine LL.val (R.load rfl rfl (I.ld1 rfl (RowL.cell r59 rfl))) rfl rfl rfl ?_
      refine LL.val (R.load rfl rfl (I.ld1 rfl (RowL.cell r6 rfl))) rfl rfl rfl ?_
      refine LL.val (R.len rfl rfl rfl rfl) rfl rfl rfl ?_
      refine LL.val (R.eqT rfl rfl rfl (by omega)) rfl rfl rfl ?_
      refine LL.nilS ?_
      refine CC.yes rfl ?_
      refine CC.exit ?_
      refine EE.thenX ?_
      refine EE.inX' rfl ?_
      exact EE.roundXZ ⟨st, rfl, q, r11, r22⟩
    obtain ⟨p, hp⟩ : ∃ p, ps[pre.length]? = some p := ⟨_, List.getElem?_eq_getElem (by omega)⟩
    have hp256 := hb p (List.mem_of_getElem? hp)
    obtain ⟨bp, offp, rfl, hbp, hcp⟩ := (hpF W q).one yEnc hp
    have c1 : W.cell? ⟨bp, offp + pre.length, none⟩ = some (.int .u8 (p : Int)) := hcp _ rfl
    have hcr := crJ_step hx hp hc
    have hM0 := hMF W q
    have lw := hM0.lts
    rcases (show p % 3 = 0 ∨ p % 3 = 1 ∨ p % 3 = 2 by omega) with h3 | h3 | h3
    · have c2 : W.cell? ⟨g42, 0 + p % 3, none⟩ = some (kfV 59 g30) := by rw [h3]; exact r43.cell rfl
      have hK1 := fun (w' : World) (b : Below W.heap.size W w') => kept1_any x g30 m gn gl qb N w' (r31.up b) (hMF w' (q.trans (b.mono q.size))) hc
      have hpk : pkL c0 p = c0.2.1 := by unfold pkL; rw [if_pos h3]
      refine CC.block ?_
      refine CC.seq ?_
      refine CC.seq ?_
      refine CC.region ?_
      refine LL.val (R.load rfl rfl (I.ld1 rfl (RowL.cell r59 rfl))) rfl rfl rfl ?_
      refine LL.val (R.load rfl rfl (I.ld1 rfl (RowL.cell r6 rfl))) rfl rfl rfl ?_
      refine LL.val (R.len rfl rfl rfl rfl) rfl rfl rfl ?_
      refine LL.val (R.eqF rfl rfl rfl (by omega)) rfl rfl rfl ?_
      refine LL.nilS ?_
      refine CC.no rfl ?_
      refine CC.skip ?_
      refine EE.thenN ?_
      refine CC.seq ?_
      refine CC.growT 13 (by kernel_rfl) (by kernel_rfl) ?_
      refine GG.val (fun w' b' => R.load rfl rfl (I.ld1 rfl (RowL.cell (r22.up b') rfl))) rfl rfl ?_
      refine GG.val (fun w' b' => R.move rfl rfl) rfl rfl ?_
      refine GG.val (fun w' b' => R.load rfl rfl (I.ld1 rfl (RowL.cell (r6.up b') rfl))) rfl rfl ?_
      refine GG.val (fun w' b' => R.load rfl rfl (I.ld1 rfl (RowL.cell (r59.up b') rfl))) rfl rfl ?_
      refine GG.val (fun w' b' => R.index rfl rfl rfl (I.ixS1 rfl (by omega))) rfl rfl ?_
      (refine GG.val (fun w' b' => R.load rfl rfl (I.ld1 rfl (cell_up c1 b'))) rfl rfl ?_)
      refine GG.val (fun w' b' => R.convI rfl rfl rfl rfl (wrapI (by omega) (by omega))) rfl rfl ?_
      refine GG.val (fun w' b' => R.remNc rfl rfl rfl rfl (by omega)) rfl rfl ?_
      refine GG.val (fun w' b' => R.index rfl rfl rfl (I.ixA1 rfl (by omega))) rfl rfl ?_
      (refine GG.val (fun w' b' => R.load rfl rfl (I.ld1 rfl (cell_up c2 b'))) rfl rfl ?_)
      refine GG.val (fun w' b' => R.move rfl rfl) rfl rfl ?_
      refine GG.call (fun w' => (R.callV rfl rfl rfl rfl)) rfl rfl (fun w' b' => (hK1 w' b').mono fun e W' h => ⟨h.1, b'.trans (h.2.mono b'.size)⟩) ?_
      refine GG.val (fun w' b' => R.index rfl rfl rfl (I.ixS rfl (by omega))) rfl rfl ?_
      refine GG.nil (fun Wc110 bc109 => ?_)
      have zbc109 := bc109.size
      replace q := q.trans (bc109.mono q.size)
      replace r11 := r11.up bc109
      replace r22 := r22.up bc109
      replace r43 := r43.up bc109
      replace r59 := r59.up bc109
      replace r31 := r31.up bc109
      replace st := st.trans (StaysZ.of_below bc109)
      replace kp := kp.trans (Keeps.of_below (fun k hk => by (try simp only at hk); omega) bc109)
      replace r6 := r6.up bc109
      replace c1 := cell_up c1 bc109
      replace hM0 := hM0.up bc109
      replace c2 := cell_up c2 bc109
      (refine LL.storeR (enc := lE) x (c0.2.1) rfl rfl (by show 0 + x * 8 = x * 8; omega) rfl rfl lEnc r11 (by rw [crJ_len]; omega) rfl rfl ?_; clear r11; intro Wc114 r11 grc112 zzc117)
      have zgrc112 := grc112.size
      replace q := q.grown grc112 q.size (by rintro k ⟨⟩; omega)
      replace r22 := r22.gr grc112 (by have := r22.lt; omega)
      replace r43 := r43.gr grc112 (by have := r43.lt; omega)
      replace r59 := r59.gr grc112 (by have := r59.lt; omega)
      replace r31 := r31.gr grc112 (by have := r31.lt; omega)
      replace st := st.trans (StaysZ.of_grown grc112 (by omega))
      replace kp := kp.trans (Keeps.of_grown grc112 fun k hk => by (try simp only at hk); omega)
      replace r6 := r6.gr grc112 (by have := r6.lt; omega)
      replace hM0 := hM0.gr grc112 (by omega)
      replace c2 := cell_gr c2 grc112 (by omega)
      refine LL.nilS ?_
      refine CC.region ?_
      refine LL.val (R.load rfl rfl (I.ld1 rfl (RowL.cell r59 rfl))) rfl rfl rfl ?_
      refine LL.val (R.addNc rfl rfl rfl rfl (by omega)) rfl rfl rfl ?_
      refine LL.store rfl rfl rfl rfl r59 (by exact Nat.le_of_ble_eq_true rfl) rfl rfl rfl rfl ?_
      intro Wc140 rc141 bc139 zc142
      have hlbc139 := r59.lt
      replace rc141 : RowL Wc140 _ 3 [Value.int IntKind.i64 ↑(pre.length + 1)] := rc141
      clear r59
      replace r11 := r11.gr bc139 (by have := r11.lt; omega)
      replace q := q.grown bc139 q.size (by rintro k ⟨⟩; omega)
      replace r22 := r22.gr bc139 (by have := r22.lt; omega)
      replace r43 := r43.gr bc139 (by have := r43.lt; omega)
      replace r31 := r31.gr bc139 (by have := r31.lt; omega)
      replace st := st.trans (StaysZ.of_grown bc139 (by omega))
      replace kp := kp.trans (Keeps.of_grown bc139 fun k hk => by (try simp only at hk); omega)
      replace r6 := r6.gr bc139 (by have := r6.lt; omega)
      replace hM0 := hM0.gr bc139 (by omega)
      replace c2 := cell_gr c2 bc139 (by omega)
      have r59 := rc141
      clear rc141
      refine LL.nil ?_
      refine EE.inN ?_
      exact EE.roundNZ ⟨st, kp, q, by rw [List.length_append, List.length_singleton, hcr, hpk]; exact r11, r22, r43, by rw [List.length_append, List.length_singleton]; exact r59, r6, r31, by rw [List.length_append, List.length_singleton]; omega⟩
    · have c2 : W.cell? ⟨g42, 0 + p % 3, none⟩ = some (kfV 60 g30) := by rw [h3]; exact r43.cell rfl
      have hK2 := fun (w' : World) (b : Below W.heap.size W w') => kept2_any x g30 m gn gl qb N w' (r31.up b) (hMF w' (q.trans (b.mono q.size))) hc
      have hpk : pkL c0 p = c0.2.2.getD c0.2.1 := by unfold pkL; rw [if_neg (by omega), if_pos h3]
      refine CC.block ?_
      refine CC.seq ?_
      refine CC.seq ?_
      refine CC.region ?_
      refine LL.val (R.load rfl rfl (I.ld1 rfl (RowL.cell r59 rfl))) rfl rfl rfl ?_
      refine LL.val (R.load rfl rfl (I.ld1 rfl (RowL.cell r6 rfl))) rfl rfl rfl ?_
      refine LL.val (R.len rfl rfl rfl rfl) rfl rfl rfl ?_
      refine LL.val (R.eqF rfl rfl rfl (by omega)) rfl rfl rfl ?_
      refine LL.nilS ?_
      refine CC.no rfl ?_
      refine CC.skip ?_
      refine EE.thenN ?_
      refine CC.seq ?_
      refine CC.growT 13 (by kernel_rfl) (by kernel_rfl) ?_
      refine GG.val (fun w' b' => R.load rfl rfl (I.ld1 rfl (RowL.cell (r22.up b') rfl))) rfl rfl ?_
      refine GG.val (fun w' b' => R.move rfl rfl) rfl rfl ?_
      refine GG.val (fun w' b' => R.load rfl rfl (I.ld1 rfl (RowL.cell (r6.up b') rfl))) rfl rfl ?_
      refine GG.val (fun w' b' => R.load rfl rfl (I.ld1 rfl (RowL.cell (r59.up b') rfl))) rfl rfl ?_
      refine GG.val (fun w' b' => R.index rfl rfl rfl (I.ixS1 rfl (by omega))) rfl rfl ?_
      (refine GG.val (fun w' b' => R.load rfl rfl (I.ld1 rfl (cell_up c1 b'))) rfl rfl ?_)
      refine GG.val (fun w' b' => R.convI rfl rfl rfl rfl (wrapI (by omega) (by omega))) rfl rfl ?_
      refine GG.val (fun w' b' => R.remNc rfl rfl rfl rfl (by omega)) rfl rfl ?_
      refine GG.val (fun w' b' => R.index rfl rfl rfl (I.ixA1 rfl (by omega))) rfl rfl ?_
      (refine GG.val (fun w' b' => R.load rfl rfl (I.ld1 rfl (cell_up c2 b'))) rfl rfl ?_)
      refine GG.val (fun w' b' => R.move rfl rfl) rfl rfl ?_
      refine GG.call (fun w' => (R.callV rfl rfl rfl rfl)) rfl rfl (fun w' b' => (hK2 w' b').mono fun e W' h => ⟨h.1, b'.trans (h.2.mono b'.size)⟩) ?_
      refine GG.val (fun w' b' => R.index rfl rfl rfl (I.ixS rfl (by omega))) rfl rfl ?_
      refine GG.nil (fun Wd110 bd109 => ?_)
      have zbd109 := bd109.size
      replace q := q.trans (bd109.mono q.size)
      replace r11 := r11.up bd109
      replace r22 := r22.up bd109
      replace r43 := r43.up bd109
      replace r59 := r59.up bd109
      replace r31 := r31.up bd109
      replace st := st.trans (StaysZ.of_below bd109)
      replace kp := kp.trans (Keeps.of_below (fun k hk => by (try simp only at hk); omega) bd109)
      replace r6 := r6.up bd109
      replace c1 := cell_up c1 bd109
      replace hM0 := hM0.up bd109
      replace c2 := cell_up c2 bd109
      (refine LL.storeR (enc := lE) x (c0.2.2.getD c0.2.1) rfl rfl (by show 0 + x * 8 = x * 8; omega) rfl rfl lEnc r11 (by rw [crJ_len]; omega) rfl rfl ?_; clear r11; intro Wd114 r11 grd112 zzd117)
      have zgrd112 := grd112.size
      replace q := q.grown grd112 q.size (by rintro k ⟨⟩; omega)
      replace r22 := r22.gr grd112 (by have := r22.lt; omega)
      replace r43 := r43.gr grd112 (by have := r43.lt; omega)
      replace r59 := r59.gr grd112 (by have := r59.lt; omega)
      replace r31 := r31.gr grd112 (by have := r31.lt; omega)
      replace st := st.trans (StaysZ.of_grown grd112 (by omega))
      replace kp := kp.trans (Keeps.of_grown grd112 fun k hk => by (try simp only at hk); omega)
      replace r6 := r6.gr grd112 (by have := r6.lt; omega)
      replace hM0 := hM0.gr grd112 (by omega)
      replace c2 := cell_gr c2 grd112 (by omega)
      refine LL.nilS ?_
      refine CC.region ?_
      refine LL.val (R.load rfl rfl (I.ld1 rfl (RowL.cell r59 rfl))) rfl rfl rfl ?_
      refine LL.val (R.addNc rfl rfl rfl rfl (by omega)) rfl rfl rfl ?_
      refine LL.store rfl rfl rfl rfl r59 (by exact Nat.le_of_ble_eq_true rfl) rfl rfl rfl rfl ?_
      intro Wd140 rd141 bd139 zd142
      have hlbd139 := r59.lt
      replace rd141 : RowL Wd140 _ 3 [Value.int IntKind.i64 ↑(pre.length + 1)] := rd141
      clear r59
      replace r11 := r11.gr bd139 (by have := r11.lt; omega)
      replace q := q.grown bd139 q.size (by rintro k ⟨⟩; omega)
      replace r22 := r22.gr bd139 (by have := r22.lt; omega)
      replace r43 := r43.gr bd139 (by have := r43.lt; omega)
      replace r31 := r31.gr bd139 (by have := r31.lt; omega)
      replace st := st.trans (StaysZ.of_grown bd139 (by omega))
      replace kp := kp.trans (Keeps.of_grown bd139 fun k hk => by (try simp only at hk); omega)
      replace r6 := r6.gr bd139 (by have := r6.lt; omega)
      replace hM0 := hM0.gr bd139 (by omega)
      replace c2 := cell_gr c2 bd139 (by omega)
      have r59 := rd141
      clear rd141
      refine LL.nil ?_
      refine EE.inN ?_
      exact EE.roundNZ ⟨st, kp, q, by rw [List.length_append, List.length_singleton, hcr, hpk]; exact r11, r22, r43, by rw [List.length_append, List.length_singleton]; exact r59, r6, r31, by rw [List.length_append, List.length_singleton]; omega⟩
    · have c2 : W.cell? ⟨g42, 0 + p % 3, none⟩ = some (kfV 61 g30) := by rw [h3]; exact r43.cell rfl
      have hK3 := fun (w' : World) (b : Below W.heap.size W w') => kept3_any x g30 m gn gl qb N w' (r31.up b) (hMF w' (q.trans (b.mono q.size))) hc
      have hpk : pkL c0 p = c0.1 := by unfold pkL; rw [if_neg (by omega), if_neg (by omega)]
      refine CC.block ?_
      refine CC.seq ?_
      refine CC.seq ?_
      refine CC.region ?_
      refine LL.val (R.load rfl rfl (I.ld1 rfl (RowL.cell r59 rfl))) rfl rfl rfl ?_
      refine LL.val (R.load rfl rfl (I.ld1 rfl (RowL.cell r6 rfl))) rfl rfl rfl ?_
      refine LL.val (R.len rfl rfl rfl rfl) rfl rfl rfl ?_
      refine LL.val (R.eqF rfl rfl rfl (by omega)) rfl rfl rfl ?_
      refine LL.nilS ?_
      refine CC.no rfl ?_
      refine CC.skip ?_
      refine EE.thenN ?_
      refine CC.seq ?_
      refine CC.growT 13 (by kernel_rfl) (by kernel_rfl) ?_
      refine GG.val (fun w' b' => R.load rfl rfl (I.ld1 rfl (RowL.cell (r22.up b') rfl))) rfl rfl ?_
      refine GG.val (fun w' b' => R.move rfl rfl) rfl rfl ?_
      refine GG.val (fun w' b' => R.load rfl rfl (I.ld1 rfl (RowL.cell (r6.up b') rfl))) rfl rfl ?_
      refine GG.val (fun w' b' => R.load rfl rfl (I.ld1 rfl (RowL.cell (r59.up b') rfl))) rfl rfl ?_
      refine GG.val (fun w' b' => R.index rfl rfl rfl (I.ixS1 rfl (by omega))) rfl rfl ?_
      (refine GG.val (fun w' b' => R.load rfl rfl (I.ld1 rfl (cell_up c1 b'))) rfl rfl ?_)
      refine GG.val (fun w' b' => R.convI rfl rfl rfl rfl (wrapI (by omega) (by omega))) rfl rfl ?_
      refine GG.val (fun w' b' => R.remNc rfl rfl rfl rfl (by omega)) rfl rfl ?_
      refine GG.val (fun w' b' => R.index rfl rfl rfl (I.ixA1 rfl (by omega))) rfl rfl ?_
      (refine GG.val (fun w' b' => R.load rfl rfl (I.ld1 rfl (cell_up c2 b'))) rfl rfl ?_)
      refine GG.val (fun w' b' => R.move rfl rfl) rfl rfl ?_
      refine GG.call (fun w' => (R.callV rfl rfl rfl rfl)) rfl rfl (fun w' b' => (hK3 w' b').mono fun e W' h => ⟨h.1, b'.trans (h.2.mono b'.size)⟩) ?_
      refine GG.val (fun w' b' => R.index rfl rfl rfl (I.ixS rfl (by omega))) rfl rfl ?_
      refine GG.nil (fun We110 be109 => ?_)
      have zbe109 := be109.size
      replace q := q.trans (be109.mono q.size)
      replace r11 := r11.up be109
      replace r22 := r22.up be109
      replace r43 := r43.up be109
      replace r59 := r59.up be109
      replace r31 := r31.up be109
      replace st := st.trans (StaysZ.of_below be109)
      replace kp := kp.trans (Keeps.of_below (fun k hk => by (try simp only at hk); omega) be109)
      replace r6 := r6.up be109
      replace c1 := cell_up c1 be109
      replace hM0 := hM0.up be109
      replace c2 := cell_up c2 be109
      (refine LL.storeR (enc := lE) x (c0.1) rfl rfl (by show 0 + x * 8 = x * 8; omega) rfl rfl lEnc r11 (by rw [crJ_len]; omega) rfl rfl ?_; clear r11; intro We114 r11 gre112 zze117)
      have zgre112 := gre112.size
      replace q := q.grown gre112 q.size (by rintro k ⟨⟩; omega)
      replace r22 := r22.gr gre112 (by have := r22.lt; omega)
      replace r43 := r43.gr gre112 (by have := r43.lt; omega)
      replace r59 := r59.gr gre112 (by have := r59.lt; omega)
      replace r31 := r31.gr gre112 (by have := r31.lt; omega)
      replace st := st.trans (StaysZ.of_grown gre112 (by omega))
      replace kp := kp.trans (Keeps.of_grown gre112 fun k hk => by (try simp only at hk); omega)
      replace r6 := r6.gr gre112 (by have := r6.lt; omega)
      replace hM0 := hM0.gr gre112 (by omega)
      replace c2 := cell_gr c2 gre112 (by omega)
      refine LL.nilS ?_
      refine CC.region ?_
      refine LL.val (R.load rfl rfl (I.ld1 rfl (RowL.cell r59 rfl))) rfl rfl rfl ?_
      refine LL.val (R.addNc rfl rfl rfl rfl (by omega)) rfl rfl rfl ?_
      refine LL.store rfl rfl rfl rfl r59 (by exact Nat.le_of_ble_eq_true rfl) rfl rfl rfl rfl ?_
      intro We140 re141 be139 ze142
      have hlbe139 := r59.lt
      replace re141 : RowL We140 _ 3 [Value.int IntKind.i64 ↑(pre.length + 1)] := re141
      clear r59
      replace r11 := r11.gr be139 (by have := r11.lt; omega)
      replace q := q.grown be139 q.size (by rintro k ⟨⟩; omega)
      replace r22 := r22.gr be139 (by have := r22.lt; omega)
      replace r43 := r43.gr be139 (by have := r43.lt; omega)
      replace r31 := r31.gr be139 (by have := r31.lt; omega)
      replace st := st.trans (StaysZ.of_grown be139 (by omega))
      replace kp := kp.trans (Keeps.of_grown be139 fun k hk => by (try simp only at hk); omega)
      replace r6 := r6.gr be139 (by have := r6.lt; omega)
      replace hM0 := hM0.gr be139 (by omega)
      replace c2 := cell_gr c2 be139 (by omega)
      have r59 := re141
      clear re141
      refine LL.nil ?_
      refine EE.inN ?_
      exact EE.roundNZ ⟨st, kp, q, by rw [List.length_append, List.length_singleton, hcr, hpk]; exact r11, r22, r43, by rw [List.length_append, List.length_singleton]; exact r59, r6, r31, by rw [List.length_append, List.length_singleton]; omega⟩
  case after =>
    rintro E W hE ⟨h1, r11, r22⟩ hE1
    have hcs : (crS s ps).length = N := by unfold crS; rw [crJ_len]; exact hl
    have yw := h1.size
    have lE1 := (Array.getElem?_eq_some_iff.1 hE1).1
    refine EE.thenN ?_
    refine CC.seq ?_
    refine CC.region ?_
    refine LL.val (R.load rfl rfl (I.ld1 rfl (RowL.cell r22 rfl))) rfl rfl rfl ?_
    have lf15 := r11.lt
    have lf16 := r22.lt
    have lf17 := (Array.getElem?_eq_some_iff.1 hE1).1
    (refine LL.call (R.call rfl rfl rfl) rfl rfl rfl (on_any g10 N (crS s ps) _ r11 hcs hN h0) ?_; rintro e Wf14 ⟨m', gl', qb', rfl, M', lm', ll', lq', bf11⟩; refine ⟨_, rfl, ?_⟩)
    have zbf11 := bf11.size
    replace h1 := h1.trans (bf11.mono h1.size)
    replace r11 := r11.up bf11
    replace r22 := r22.up bf11
    replace hE1 := defer_up hE1 bf11
    refine LL.val (R.assign rfl rfl) rfl rfl rfl ?_
    refine LL.val (R.assign rfl rfl) rfl rfl rfl ?_
    refine LL.nilS ?_
    refine CC.ret ?_
    refine EE.noR ?_
    refine EE.ret1 hE1 _ rfl rfl ?_
    exact ⟨m', g10, gl', qb', rfl, M'.taken hE1, by omega, by omega, by omega, by omega, taken_bel h1 (by omega) (Nat.le_refl _)⟩
end Go.Proofs.Ytajfffoaebjnlaa
/- Regions that draw their order: several steps that make memory, none of which harms what the others made: one goal for each step, not one for each order. -/
namespace Go.Proofs.Ytajfffoaebjnlaa
set_option linter.unusedVariables false
set_option linter.unusedSimpArgs false
open Go.RowKit Go.Shelf

def dstO (ops : Array Oper) (i : Nat) : Option Nat := (ops[i]?).bind (·.dst)
def depB (ops : Array Oper) (i j : Nat) : Bool := match ops[i]? with
  | some o => o.after.any fun e => Region.binds .any e && Nat.beq e.on j
  | none => false
def AtD (d : Option Nat) (a : Act) (v : Value) : Prop := ∀ s, d = some s → a.tmps.getD s undef = v

/-- One step: what it needs of the others, what it makes. -/
structure MS (P : Program) (ops : Array Oper) (ok : World → Prop) (acts : List Nat) (φ : Nat → Value → World → Prop) (i : Nat) (R : Value → World → Prop) (n : Nat) (D : List Deferred) (M : Slots) (w : World) : Prop where
  h : ∀ a o, ops[i]? = some o → Fr n D M a → (∀ j ∈ acts, depB ops i j = true → ∃ v, AtD (dstO ops j) a v ∧ φ j v w) → ∀ K : Act → World → Prop, (∀ v w', ok w' → R v w' → K (a.put o.dst v) w') → stepR P ops ok i K a w

section
variable {P : Program} {ops : Array Oper} {Q : Exit → Act → World → Prop} {ok : World → Prop} {acts : List Nat} {φ : Nat → Value → World → Prop} {n i : Nat} {D : List Deferred} {M : Slots} {w w' : World} {o : Oper} {v : Value} {R : Value → World → Prop}
theorem Fr.more {a : Act} (F : Fr n D M a) {d : Nat} (h : a.tmps.getD d undef = v) : Fr n D (up M d v) a := ⟨F.size, F.defers, fun s u hs => by
  simp only [up] at hs
  by_cases e : s = d
  · subst e; rw [Nat.beq_refl] at hs; cases hs; exact h
  · rw [beq_ne e] at hs; exact F.get s u hs⟩
theorem MS.val (hi : ops[i]? = some o) (hr : Runs P n D M o w (.value v) w') (hg : wantB ops M o.guard = some true) (hok : ok w') (h : R v w') : MS P ops ok acts φ i R n D M w := MS.mk fun a o' ho F _ K hK => by
  obtain rfl : o = o' := Option.some.inj (hi.symm.trans ho)
  unfold stepR
  simp only [hi]
  rw [if_pos (F.want hg)]
  exact .inl ⟨v, w', hr a F, hok, hK _ _ hok h⟩
theorem MS.call {g : FuncId} {args : Array Value} {R' : Ending → World → Prop} (hi : ops[i]? = some o) (hr : Runs P n D M o w (.enter g args) w) (hg : wantB ops M o.guard = some true) (hc : Calls P g args w R') (k : ∀ e w'', R' e w'' → ∃ v, e = .returned v ∧ ok w'' ∧ R v w'') : MS P ops ok acts φ i R n D M w := MS.mk fun a o' ho F _ K hK => by
  obtain rfl : o = o' := Option.some.inj (hi.symm.trans ho)
  unfold stepR
  simp only [hi]
  rw [if_pos (F.want hg)]
  exact .inr (.inr ⟨g, args, w, R', hr a F, hc, fun e w'' hR => by
    obtain ⟨v, he, h1, h2⟩ := k e w'' hR
    exact ⟨v, he, h1, hK _ _ h1 h2⟩⟩)

end
end Go.Proofs.Ytajfffoaebjnlaa
/- append to a slice of structs without room, told that no row that was there is written; the steps of drawn regions that make memory. -/
namespace Go.Proofs.Ytajfffoaebjnlaa
set_option linter.unusedVariables false
set_option linter.unusedSimpArgs false
open Go.RowKit Go.Shelf

section
variable {α : Type} {enc : α → List Value} {k : Nat} {P : Program} {T e : TypeId} {z : Value} {bytes : Nat}
end

section
variable {α : Type} {enc : α → List Value} {k : Nat} {P : Program} {ops : Array Oper} {Q : Exit → Act → World → Prop} {ok : World → Prop} {acts : List Nat} {φ : Nat → Value → World → Prop} {n i f : Nat} {D : List Deferred} {M : Slots} {w w' : World} {o : Oper} {v : Value} {Rv : Value → World → Prop} {T e t : TypeId} {z : Value} {bytes : Nat} {listed listed1 : Array Bool} {K : Slots → World → Prop} {r : Option Nat} {rest : List Oper}
theorem MS.lit {ps : Array (Nat × Operand)} {m : Nat} {vs : List (Nat × Value)} (cs : List Value) (len : Nat) (hi : ops[i]? = some o) (ho : o.op = .buildSlice t m ps) (hx : evpM M ps.toList = some vs) (hr : ∀ w, (Instr.buildSlice t m vs.toArray).run P w = .ok (.slice (some ⟨w.heap.size, 0, none⟩) len len) (w.alloc (.cells cs.toArray e))) (hg : wantB ops M o.guard = some true)
    (c : ∀ w1 g, g = w.heap.size → RowL w1 g e cs → Below w.heap.size w w1 → ok w1 ∧ Rv (.slice (some ⟨g, 0, none⟩) len len) w1) : MS P ops ok acts φ i Rv n D M w :=
  have h := c _ _ rfl (RowL.new w e cs) (Below.alloc0 w _)
  MS.val hi (R.buildSlice ho hx (hr w)) hg h.1 h.2
theorem AA.weak {L : List (Nat × Value)} (h : AA P ops ok Q n D (sl L) f listed1 w) (hL : Fits M L) (he : listed1 = listed) : AA P ops ok Q n D M f listed w := by
  subst he; exact AA.mk fun a F => h.h a (F.keep L hL)
theorem SR.lit {ps : Array (Nat × Operand)} {m : Nat} {vs : List (Nat × Value)} (cs : List Value) (len : Nat) (hi : ops[i]? = some o) (ho : o.op = .buildSlice t m ps) (hx : evpM M ps.toList = some vs) (hr : ∀ w, (Instr.buildSlice t m vs.toArray).run P w = .ok (.slice (some ⟨w.heap.size, 0, none⟩) len len) (w.alloc (.cells cs.toArray e))) (hd : dstB n o.dst = true) (hg : wantB ops M o.guard = some true)
    (c : ∀ w1 g, g = w.heap.size → RowL w1 g e cs → Below w.heap.size w w1 → ok w1 ∧ K (putM M o.dst (.slice (some ⟨g, 0, none⟩) len len)) w1) : SR P ops ok i K n D M w :=
  have h := c _ _ rfl (RowL.new w e cs) (Below.alloc0 w _)
  SR.val hi (R.buildSlice ho hx (hr w)) hd hg h.1 h.2
theorem SR.appendT2 {xs : Array Operand} {vx : Value} {base : Nat} {ts us : List α} (hi : ops[i]? = some o) (ho : o.op = .call { callee := .builtin .append, args := xs, argTypes := #[T, T] }) (hx : evsM M xs.toList = some [v, vx]) (E : Enc enc k) (I : ElT P T e z k bytes) (hown : OwnsT enc k w base e v ts) (hr : ReadsT enc k w vx us)
    (h63 : ts.length + us.length ≤ maxLen) (hb : (ts.length + us.length) * bytes ≤ 140737488355328) (hbase : base ≤ w.heap.size) (hd : dstB n o.dst = true) (hg : wantB ops M o.guard = some true)
    (c : ∀ v' w', OwnsT enc k w' base e v' (ts ++ us) → w.grownBy w' v.ownBlock → (v'.ownBlock = v.ownBlock ∨ ∃ b, v'.ownBlock = some b ∧ w.heap.size ≤ b) → ok w' ∧ K (putM M o.dst v') w') : SR P ops ok i K n D M w := by
  obtain ⟨v', w', h1, h2, h3, h4⟩ := run_append_t2 E I o.type hown hr h63 hb hbase
  have h := c v' w' h2 h3 h4
  refine SR.val (v := v') hi (R.builtin ho hx fun b => ?_) hd hg h.1 h.2
  unfold builtin
  simp only [Sem.run_bind, h1, Result.andThen_ok, Sem.run_pure]
/-- A store of one cell into a row that is known, as a step of a drawn region. -/
theorem SR.store {x y : Operand} {g off e : Nat} {xs : List Value} (hi : ops[i]? = some o) (ho : o.op = .store t x y) (hx : evM M x = some (.pointer (some ⟨g, off, none⟩))) (hy : evM M y = some v) (hz : szB P t = some 1) (hr : RowL w g e xs) (hl : off < xs.length) (h1 : v.oneCell' = true) (hcs : v.cells = #[v]) (hd : o.dst = none) (hg : wantB ops M o.guard = some true)
    (c : ∀ w1, RowL w1 g e (xs.set off v) → w.grownBy w1 (some g) → w1.heap.size = w.heap.size → ok w1 ∧ K M w1) : SR P ops ok i K n D M w := SR.mk fun K' hK a F => by
  have h := c _ (hr.set off v) (grown_set w _ v) (by simp [World.setCell])
  unfold stepR
  simp only [hi]
  rw [if_pos (F.want hg)]
  refine .inr (.inl ⟨_, R.store ho hx hy (I.st1R hz hr hl h1 hcs) a F, h.1, ?_⟩)
  rw [hd]
  exact hK _ _ h.2 _ F
end
end Go.Proofs.Ytajfffoaebjnlaa
/- pmem: the document's memory; with, Store, Flush, Evict. pmem: the document's Of. pmem: the document's Fence, Words. pmem: the document's Words, Open. pmem: the document's Crash. pmem: the law's same, num, is; the document's Same. -/
namespace Go.Proofs.Ytajfffoaebjnlaa
set_option linter.unusedVariables false
set_option linter.unusedSimpArgs false
open Go.RowKit Go.Shelf
section
variable {w : World} {b o : Nat} {x y q : Ln} {h : Bool}
end
section
variable {P : Program} {w : World} {o : Oper} {n : Nat} {D : List Deferred} {M : Slots} {r : Option Nat} {ops : Array Oper} {Q : Exit → Act → World → Prop} {rest : List Oper} {x y : Operand} {t e g off : Nat} {a b q u : Ln} {h h' : Bool}
end
set_option maxRecDepth 100000
set_option maxHeartbeats 8000000
set_option maxRecDepth 100000
set_option maxHeartbeats 8000000
--C ref07_Memory_There | there_F _ _ _ _ @w @p @p | S
theorem there_F (a0 : Option Addr) (N cp : Nat) (a : Int) (w : World) (hN : N ≤ 16384) (h : a < 0 ∨ ((8 * N : Nat) : Int) ≤ a) : Calls Try.prog 40 #[.slice a0 N cp, .int .i64 a] w fun e w' => e = .returned (.bool false) ∧ w = w' := by
  refine X.fn Try.func40 rfl (n := 14) rfl rfl ?_
  refine CC.seq ?_
  refine CC.region ?_
  refine LL.val (R.assign rfl rfl) rfl rfl rfl ?_
  refine LL.nilS ?_
  refine CC.seq ?_
  refine CC.region ?_
  refine LL.val (R.move rfl rfl) rfl rfl rfl ?_
  refine LL.vsplit (fun h => R.geT rfl rfl rfl h) (fun h => R.geF rfl rfl rfl (Int.not_le.1 h)) rfl rfl rfl (fun c1 => ?_) (fun c1 => ?_)
  refine LL.val (R.move rfl rfl) rfl rfl rfl ?_
  refine LL.val (R.move rfl rfl) rfl rfl rfl ?_
  refine LL.val (R.move rfl rfl) rfl rfl rfl ?_
  refine LL.val (R.len rfl rfl rfl rfl) rfl rfl rfl ?_
  refine LL.val (R.mulcN rfl rfl rfl rfl (by omega)) rfl rfl rfl ?_
  refine LL.val (R.ltF rfl rfl rfl (by omega)) rfl rfl rfl ?_
  refine LL.val (R.pick rfl rfl rfl) rfl rfl rfl ?_
  refine LL.val (R.assign rfl rfl) rfl rfl rfl ?_
  refine LL.nilS ?_
  refine CC.ret ?_
  refine EE.ret _ rfl rfl ?_
  exact ⟨rfl, rfl⟩
  refine LL.val (R.move rfl rfl) rfl rfl rfl ?_
  refine LL.skip rfl rfl ?_
  refine LL.skip rfl rfl ?_
  refine LL.skip rfl rfl ?_
  refine LL.skip rfl rfl ?_
  refine LL.skip rfl rfl ?_
  refine LL.val (R.pick rfl rfl rfl) rfl rfl rfl ?_
  refine LL.val (R.assign rfl rfl) rfl rfl rfl ?_
  refine LL.nilS ?_
  refine CC.ret ?_
  refine EE.ret _ rfl rfl ?_
  exact ⟨rfl, rfl⟩
--C ref07_Memory_HasLine | hasl_T _ _ _ _ @w @p @p | S
theorem hasl_T (a0 : Option Addr) (N cp : Nat) (a : Int) (w : World) (hN : N ≤ 16384) (h : 0 ≤ a ∧ a < (N : Int)) : Calls Try.prog 41 #[.slice a0 N cp, .int .i64 a] w fun e w' => e = .returned (.bool true) ∧ w = w' := by
  refine X.fn Try.func41 rfl (n := 13) rfl rfl ?_
  refine CC.seq ?_
  refine CC.region ?_
  refine LL.val (R.assign rfl rfl) rfl rfl rfl ?_
  refine LL.nilS ?_
  refine CC.seq ?_
  refine CC.region ?_
  refine LL.val (R.move rfl rfl) rfl rfl rfl ?_
  refine LL.val (R.geT rfl rfl rfl (by omega)) rfl rfl rfl ?_
  refine LL.val (R.move rfl rfl) rfl rfl rfl ?_
  refine LL.val (R.move rfl rfl) rfl rfl rfl ?_
  refine LL.val (R.move rfl rfl) rfl rfl rfl ?_
  refine LL.val (R.len rfl rfl rfl rfl) rfl rfl rfl ?_
  refine LL.val (R.ltT rfl rfl rfl (by omega)) rfl rfl rfl ?_
  refine LL.val (R.pick rfl rfl rfl) rfl rfl rfl ?_
  refine LL.val (R.assign rfl rfl) rfl rfl rfl ?_
  refine LL.nilS ?_
  refine CC.ret ?_
  refine EE.ret _ rfl rfl ?_
  exact ⟨rfl, rfl⟩
--C ref07_Memory_HasLine | hasl_F _ _ _ _ @w @p @p | S
theorem hasl_F (a0 : Option Addr) (N cp : Nat) (a : Int) (w : World) (hN : N ≤ 16384) (h : a < 0 ∨ (N : Int) ≤ a) : Calls Try.prog 41 #[.slice a0 N cp, .int .i64 a] w fun e w' => e = .returned (.bool false) ∧ w = w' := by
  refine X.fn Try.func41 rfl (n := 13) rfl rfl ?_
  refine CC.seq ?_
  refine CC.region ?_
  refine LL.val (R.assign rfl rfl) rfl rfl rfl ?_
  refine LL.nilS ?_
  refine CC.seq ?_
  refine CC.region ?_
  refine LL.val (R.move rfl rfl) rfl rfl rfl ?_
  refine LL.vsplit (fun h => R.geT rfl rfl rfl h) (fun h => R.geF rfl rfl rfl (Int.not_le.1 h)) rfl rfl rfl (fun c1 => ?_) (fun c1 => ?_)
  refine LL.val (R.move rfl rfl) rfl rfl rfl ?_
  refine LL.val (R.move rfl rfl) rfl rfl rfl ?_
  refine LL.val (R.move rfl rfl) rfl rfl rfl ?_
  refine LL.val (R.len rfl rfl rfl rfl) rfl rfl rfl ?_
  refine LL.val (R.ltF rfl rfl rfl (by omega)) rfl rfl rfl ?_
  refine LL.val (R.pick rfl rfl rfl) rfl rfl rfl ?_
  refine LL.val (R.assign rfl rfl) rfl rfl rfl ?_
  refine LL.nilS ?_
  refine CC.ret ?_
  refine EE.ret _ rfl rfl ?_
  exact ⟨rfl, rfl⟩
  refine LL.val (R.move rfl rfl) rfl rfl rfl ?_
  refine LL.skip rfl rfl ?_
  refine LL.skip rfl rfl ?_
  refine LL.skip rfl rfl ?_
  refine LL.skip rfl rfl ?_
  refine LL.val (R.pick rfl rfl rfl) rfl rfl rfl ?_
  refine LL.val (R.assign rfl rfl) rfl rfl rfl ?_
  refine LL.nilS ?_
  refine CC.ret ?_
  refine EE.ret _ rfl rfl ?_
  exact ⟨rfl, rfl⟩
--C ref07_Right | right_T _ @w @p | S
theorem right_T (a : Int) (w : World) (h : 8 ≤ a ∧ a ≤ 131072 ∧ a % 8 = 0) : Calls Try.prog 9 #[.int .i64 a] w fun e w' => e = .returned (.bool true) ∧ w = w' := by
  refine X.fn Try.func9 rfl (n := 14) rfl rfl ?_
  refine CC.seq ?_
  refine CC.region ?_
  refine LL.val (R.assign rfl rfl) rfl rfl rfl ?_
  refine LL.nilS ?_
  refine CC.seq ?_
  refine CC.region ?_
  refine LL.val (R.move rfl rfl) rfl rfl rfl ?_
  refine LL.val (R.geT rfl rfl rfl (by omega)) rfl rfl rfl ?_
  refine LL.val (R.move rfl rfl) rfl rfl rfl ?_
  refine LL.val (R.move rfl rfl) rfl rfl rfl ?_
  refine LL.val (R.leT rfl rfl rfl (by omega)) rfl rfl rfl ?_
  refine LL.val (R.pick rfl rfl rfl) rfl rfl rfl ?_
  refine LL.val (R.move rfl rfl) rfl rfl rfl ?_
  refine LL.val (R.move rfl rfl) rfl rfl rfl ?_
  refine LL.val (R.remIc rfl rfl rfl rfl (by omega) (by omega)) rfl rfl rfl ?_
  refine LL.val (R.eqT rfl rfl rfl (by omega)) rfl rfl rfl ?_
  refine LL.val (R.pick rfl rfl rfl) rfl rfl rfl ?_
  refine LL.val (R.assign rfl rfl) rfl rfl rfl ?_
  refine LL.nilS ?_
  refine CC.ret ?_
  refine EE.ret _ rfl rfl ?_
  exact ⟨rfl, rfl⟩
--C ref07_Right | right_F _ @w @p | S
theorem right_F (a : Int) (w : World) (h : a < 8 ∨ 131072 < a ∨ a % 8 ≠ 0) : Calls Try.prog 9 #[.int .i64 a] w fun e w' => e = .returned (.bool false) ∧ w = w' := by
  refine X.fn Try.func9 rfl (n := 14) rfl rfl ?_
  refine CC.seq ?_
  refine CC.region ?_
  refine LL.val (R.assign rfl rfl) rfl rfl rfl ?_
  refine LL.nilS ?_
  refine CC.seq ?_
  refine CC.region ?_
  refine LL.val (R.move rfl rfl) rfl rfl rfl ?_
  refine LL.vsplit (fun h => R.geT rfl rfl rfl h) (fun h => R.geF rfl rfl rfl (Int.not_le.1 h)) rfl rfl rfl (fun c1 => ?_) (fun c1 => ?_)
  refine LL.val (R.move rfl rfl) rfl rfl rfl ?_
  refine LL.val (R.move rfl rfl) rfl rfl rfl ?_
  refine LL.vsplit (fun h => R.leT rfl rfl rfl h) (fun h => R.leF rfl rfl rfl (Int.not_le.1 h)) rfl rfl rfl (fun c2 => ?_) (fun c2 => ?_)
  refine LL.val (R.pick rfl rfl rfl) rfl rfl rfl ?_
  refine LL.val (R.move rfl rfl) rfl rfl rfl ?_
  refine LL.val (R.move rfl rfl) rfl rfl rfl ?_
  refine LL.val (R.remIc rfl rfl rfl rfl (by omega) (by omega)) rfl rfl rfl ?_
  refine LL.val (R.eqF rfl rfl rfl (by omega)) rfl rfl rfl ?_
  refine LL.val (R.pick rfl rfl rfl) rfl rfl rfl ?_
  refine LL.val (R.assign rfl rfl) rfl rfl rfl ?_
  refine LL.nilS ?_
  refine CC.ret ?_
  refine EE.ret _ rfl rfl ?_
  exact ⟨rfl, rfl⟩
  refine LL.val (R.pick rfl rfl rfl) rfl rfl rfl ?_
  refine LL.val (R.move rfl rfl) rfl rfl rfl ?_
  refine LL.skip rfl rfl ?_
  refine LL.skip rfl rfl ?_
  refine LL.skip rfl rfl ?_
  refine LL.val (R.pick rfl rfl rfl) rfl rfl rfl ?_
  refine LL.val (R.assign rfl rfl) rfl rfl rfl ?_
  refine LL.nilS ?_
  refine CC.ret ?_
  refine EE.ret _ rfl rfl ?_
  exact ⟨rfl, rfl⟩
  refine LL.val (R.move rfl rfl) rfl rfl rfl ?_
  refine LL.skip rfl rfl ?_
  refine LL.skip rfl rfl ?_
  refine LL.val (R.pick rfl rfl rfl) rfl rfl rfl ?_
  refine LL.val (R.move rfl rfl) rfl rfl rfl ?_
  refine LL.skip rfl rfl ?_
  refine LL.skip rfl rfl ?_
  refine LL.skip rfl rfl ?_
  refine LL.val (R.pick rfl rfl rfl) rfl rfl rfl ?_
  refine LL.val (R.assign rfl rfl) rfl rfl rfl ?_
  refine LL.nilS ?_
  refine CC.ret ?_
  refine EE.ret _ rfl rfl ?_
  exact ⟨rfl, rfl⟩
section
variable {α : Type} {enc : α → List Value} {k : Nat} {P : Program} {w : World} {o : Oper} {n : Nat} {D : List Deferred} {M : Slots} {e : TypeId} {ops : Array Oper} {ok : World → Prop} {K : Slots → World → Prop}
theorem ZR.store1 {jj : Nat} {x y : Operand} {t : TypeId} {g off : Nat} {ts : List α} {v : Value} (i c : Nat) (s u : α) (hj : ops[jj]? = some o) (ho : o.op = .store t x y) (hx : evM M x = some (.pointer (some ⟨g, off, none⟩))) (hy : evM M y = some v) (hz : szB P t = some 1) (hoff : off = i * k + c) (E : Enc enc k)
    (hr : RowL w g e (ts.flatMap enc)) (hs : ts[i]? = some s) (hc : c < k) (hu : enc u = (enc s).set c v) (h1 : v.oneCell' = true) (hcs : v.cells = #[v]) (hd : o.dst = none) (hg : wantB ops M o.guard = some true)
    (kk : ∀ w', RowL w' g e ((ts.set i u).flatMap enc) → w.grownBy w' (some g) → w'.heap.size = w.heap.size → ok w' ∧ K M w') : SR P ops ok jj K n D M w := by
  have hi : i < ts.length := (List.getElem?_eq_some_iff.1 hs).1
  have hin : i * k + k ≤ ts.length * k := by
    have : (i + 1) * k ≤ ts.length * k := Nat.mul_le_mul_right _ hi
    rw [Nat.add_mul] at this
    omega
  have hf := E.flat ts
  subst hoff
  refine ZR.store hj ho hx hy hz hr (by omega) h1 hcs hd hg ?_
  intro w' r' g' z'
  refine kk w' ?_ g' z'
  rw [← E.setF ts i c s u v hs hc hu]
  exact r'
end
section
variable {α : Type} {f : α → α} {s : List α} {i : Nat} {c : α}
end
set_option maxRecDepth 100000
set_option maxHeartbeats 8000000
set_option maxRecDepth 100000
set_option maxHeartbeats 8000000
set_option maxRecDepth 100000
set_option maxHeartbeats 8000000
set_option maxRecDepth 100000
set_option maxHeartbeats 8000000
--C law07_num | num_any _ @w | S
theorem num_any (a : Int) (w : World) : Calls Try.prog 13 #[.int .i64 a] w fun e w' => e = .returned (.int .i64 a) ∧ w = w' := by
  refine X.fn Try.func13 rfl (n := 4) rfl rfl ?_
  refine CC.seq ?_
  refine CC.region ?_
  refine LL.val (R.assign rfl rfl) rfl rfl rfl ?_
  refine LL.nilS ?_
  refine CC.seq ?_
  refine CC.region ?_
  refine LL.val (R.move rfl rfl) rfl rfl rfl ?_
  refine LL.val (R.assign rfl rfl) rfl rfl rfl ?_
  refine LL.nilS ?_
  refine CC.ret ?_
  refine EE.ret _ rfl rfl ?_
  exact ⟨rfl, rfl⟩
end Go.Proofs.Ytajfffoaebjnlaa
/- pmem: the law's act. -/
namespace Go.Proofs.Ytajfffoaebjnlaa
set_option linter.unusedVariables false
set_option linter.unusedSimpArgs false
open Go.RowKit Go.Shelf
set_option maxRecDepth 100000
set_option maxHeartbeats 8000000
end Go.Proofs.Ytajfffoaebjnlaa
