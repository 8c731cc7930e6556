/- extents: maps, and the places that they say. -/
import Derived.Test.YtklfopclaonggaaDoorMath
namespace Go.Proofs.YtklfopclaonggaaDoor
set_option linter.unusedVariables false
set_option linter.unusedSimpArgs false

/-- An extent: from which block of the file on, from which of the device on, how many. -/
abbrev Ex := Int × Int × Int
/-- A block of the file, and where it lies. -/
abbrev Bl := Int × Int
def mayE (x : Ex) : Prop := 0 ≤ x.1 ∧ 1 ≤ x.2.1 ∧ 1 ≤ x.2.2 ∧ x.2.2 ≤ 128 ∧ x.1 ≤ 128 - x.2.2 ∧ x.2.1 ≤ 2048 - x.2.2
def apartE (a b : Ex) : Prop := a.2.1 + a.2.2 ≤ b.2.1 ∨ b.2.1 + b.2.2 ≤ a.2.1
def followE (a b : Ex) : Prop := a.1 + a.2.2 ≤ b.1 ∧ ¬(b.1 = a.1 + a.2.2 ∧ b.2.1 = a.2.1 + a.2.2)
instance (x : Ex) : Decidable (mayE x) := by unfold mayE; infer_instance
instance (a b : Ex) : Decidable (apartE a b) := by unfold apartE; infer_instance
instance (a b : Ex) : Decidable (followE a b) := by unfold followE; infer_instance
/-- One follows the other. -/
def chE : List Ex → Prop
  | [] => True
  | [_] => True
  | a :: b :: t => followE a b ∧ chE (b :: t)
/-- Which lists are maps. -/
def vL (l : List Ex) : Prop := l.length ≤ 10 ∧ (∀ x ∈ l, mayE x) ∧ l.Pairwise apartE ∧ chE l
theorem chE_snoc : ∀ {l : List Ex} {a : Ex}, chE (l ++ [a]) ↔ chE l ∧ ∀ y, l.getLast? = some y → followE y a
  | [], a => by simp [chE]
  | [x], a => by simp [chE]
  | x :: y :: t, a => by
    have ih := chE_snoc (l := y :: t) (a := a)
    simp only [List.cons_append] at ih ⊢
    simp only [chE, ih, List.getLast?_cons_cons]
    exact and_assoc.symm
theorem chE_at : ∀ {l : List Ex}, chE l ↔ ∀ i y x, l[i]? = some y → l[i + 1]? = some x → followE y x
  | [] => by simp [chE]
  | [a] => by simp [chE]
  | a :: b :: t => by
    have ih := chE_at (l := b :: t)
    simp only [chE, ih]
    constructor
    · rintro ⟨h1, h2⟩ i y x hy hx
      cases i with
      | zero => simp only [List.getElem?_cons_zero, Option.some.injEq, List.getElem?_cons_succ, Nat.zero_add] at hy hx; subst hy; subst hx; exact h1
      | succ i => simp only [List.getElem?_cons_succ] at hy hx; exact h2 i y x hy (by simpa using hx)
    · intro h
      exact ⟨h 0 a b (by simp) (by simp), fun i y x hy hx => h (i + 1) y x (by simpa using hy) (by simpa using hx)⟩
/-- The blocks of an extent; of a list. -/
def blE (x : Ex) : List Bl := (List.range x.2.2.toNat).map fun i : Nat => (x.1 + (i : Int), x.2.1 + (i : Int))
def blS (l : List Ex) : List Bl := l.flatMap blE
theorem mem_blE {x : Ex} {b : Bl} : b ∈ blE x ↔ ∃ i : Nat, (i : Int) < x.2.2 ∧ b = (x.1 + i, x.2.1 + i) := by
  simp only [blE, List.mem_map, List.mem_range]
  constructor
  · rintro ⟨i, hi, rfl⟩; exact ⟨i, by omega, rfl⟩
  · rintro ⟨i, hi, rfl⟩; exact ⟨i, by omega, rfl⟩
theorem blE_len (x : Ex) : (blE x).length = x.2.2.toNat := by simp [blE]
theorem blE_take {x : Ex} {i : Nat} (h : (i : Int) < x.2.2) : (blE x).take (i + 1) = (blE x).take i ++ [(x.1 + (i : Int), x.2.1 + (i : Int))] := by
  rw [List.take_add_one]
  simp only [blE, List.getElem?_map]
  rw [List.getElem?_range (by omega)]
  rfl
theorem blE_one (f d : Int) : blE (f, d, 1) = [(f, d)] := by simp [blE, List.range_succ]
theorem blE_succ {f d n : Int} (h : 0 ≤ n) : blE (f, d, n + 1) = blE (f, d, n) ++ [(f + n, d + n)] := by
  obtain ⟨k, rfl⟩ := Int.eq_ofNat_of_zero_le h
  simp only [blE]
  rw [show ((k : Int) + 1).toNat = k + 1 by omega, List.range_succ, List.map_append]
  simp
theorem blS_app (a b : List Ex) : blS (a ++ b) = blS a ++ blS b := by simp [blS]
theorem blS_one (x : Ex) : blS [x] = blE x := by simp [blS]
theorem blS_cons (x : Ex) (l : List Ex) : blS (x :: l) = blE x ++ blS l := by simp [blS]
/-- A list with a block more. -/
def mergeE (a : Ex) (b : Bl) : Prop := a.1 + a.2.2 = b.1 ∧ a.2.1 + a.2.2 = b.2
instance (a : Ex) (b : Bl) : Decidable (mergeE a b) := by unfold mergeE; infer_instance
def joinE (l : List Ex) (b : Bl) : List Ex := match l.getLast? with
  | some a => if mergeE a b then l.dropLast ++ [(a.1, a.2.1, a.2.2 + 1)] else l ++ [(b.1, b.2, 1)]
  | none => l ++ [(b.1, b.2, 1)]
def gat (s : List Bl) : List Ex := s.foldl joinE []
theorem joinE_nil (b : Bl) : joinE [] b = [(b.1, b.2, 1)] := rfl
theorem joinE_snoc (l : List Ex) (a : Ex) (b : Bl) : joinE (l ++ [a]) b = if mergeE a b then l ++ [(a.1, a.2.1, a.2.2 + 1)] else l ++ [a] ++ [(b.1, b.2, 1)] := by
  simp [joinE]
theorem joinE_no {l : List Ex} {b : Bl} (h : ∀ y, l.getLast? = some y → ¬mergeE y b) : joinE l b = l ++ [(b.1, b.2, 1)] := by
  unfold joinE
  cases e : l.getLast? with
  | none => rfl
  | some a => simp only; rw [if_neg (h a e)]
theorem gat_snoc (s : List Bl) (b : Bl) : gat (s ++ [b]) = joinE (gat s) b := by simp [gat]
theorem snoc_cases {α : Type} (l : List α) : l = [] ∨ ∃ l' a, l = l' ++ [a] := by
  rcases List.eq_nil_or_concat l with h | ⟨l', a, h⟩
  · exact .inl h
  · exact .inr ⟨l', a, by simpa using h⟩
theorem join_len (l : List Ex) (b : Bl) : (joinE l b).length ≤ l.length + 1 := by
  rcases snoc_cases l with rfl | ⟨l', a, rfl⟩
  · simp [joinE]
  · rw [joinE_snoc]; split <;> simp
theorem fold_len : ∀ (s : List Bl) (l : List Ex), (s.foldl joinE l).length ≤ l.length + s.length
  | [], l => by simp
  | b :: s, l => by
    have h1 := fold_len s (joinE l b)
    have h2 := join_len l b
    simp only [List.foldl_cons, List.length_cons]
    omega
theorem gat_len (s : List Bl) : (gat s).length ≤ s.length := by have := fold_len s []; simpa [gat] using this
theorem fold_blS : ∀ (s : List Bl) (l : List Ex), (∀ x ∈ l, 1 ≤ x.2.2) → blS (s.foldl joinE l) = blS l ++ s ∧ ∀ x ∈ s.foldl joinE l, 1 ≤ x.2.2
  | [], l, h => by simpa using h
  | b :: s, l, h => by
    have hj : blS (joinE l b) = blS l ++ [b] ∧ ∀ x ∈ joinE l b, 1 ≤ x.2.2 := by
      rcases snoc_cases l with rfl | ⟨l', a, rfl⟩
      · rw [joinE_nil]
        refine ⟨by rw [blS_one, blE_one]; simp [blS], fun x hx => ?_⟩
        obtain rfl := List.mem_singleton.1 hx
        simp
      · have ha := h a (by simp)
        rw [joinE_snoc]
        by_cases hm : mergeE a b
        · rw [if_pos hm]
          have e1 : blE (a.1, a.2.1, a.2.2 + 1) = blE a ++ [b] := by
            rw [blE_succ (by omega)]
            have := hm.1; have := hm.2
            rw [show (a.1 + a.2.2, a.2.1 + a.2.2) = b from Prod.ext hm.1 hm.2]
          refine ⟨by rw [blS_app, blS_app, blS_one, blS_one, e1, List.append_assoc], fun x hx => ?_⟩
          rcases List.mem_append.1 hx with hx | hx
          · exact h x (by simp [hx])
          · obtain rfl := List.mem_singleton.1 hx
            show 1 ≤ a.2.2 + 1
            omega
        · rw [if_neg hm]
          refine ⟨by rw [blS_app _ [_], blS_one, blE_one], fun x hx => ?_⟩
          rcases List.mem_append.1 hx with hx | hx
          · exact h x hx
          · obtain rfl := List.mem_singleton.1 hx
            simp
    have := fold_blS s (joinE l b) hj.2
    simp only [List.foldl_cons]
    rw [this.1, hj.1]
    exact ⟨by simp, this.2⟩
theorem blS_gat (s : List Bl) : blS (gat s) = s := by have := (fold_blS s [] (by simp)).1; simpa [gat, blS] using this
theorem gat_many (s : List Bl) : ∀ x ∈ gat s, 1 ≤ x.2.2 := (fold_blS s [] (by simp)).2
/-- Blocks that rise. -/
abbrev upB (s : List Bl) : Prop := s.Pairwise fun a b => a.1 < b.1
theorem fold_chE : ∀ (s : List Bl) (l : List Ex), chE l → upB s → (∀ a, l.getLast? = some a → ∀ b ∈ s, a.1 + a.2.2 ≤ b.1) → chE (s.foldl joinE l)
  | [], l, h, _, _ => h
  | b :: s, l, h, hs, hl => by
    simp only [List.foldl_cons]
    rw [upB, List.pairwise_cons] at hs
    refine fold_chE s (joinE l b) ?_ hs.2 ?_
    · rcases snoc_cases l with rfl | ⟨l', a, rfl⟩
      · simp [joinE_nil, chE]
      · have hab := hl a (by simp) b (by simp)
        rw [joinE_snoc]
        by_cases hm : mergeE a b
        · rw [if_pos hm]
          rw [chE_snoc] at h ⊢
          exact ⟨h.1, fun y hy => by have := h.2 y hy; unfold followE at this ⊢; exact this⟩
        · rw [if_neg hm, chE_snoc]
          refine ⟨h, fun y hy => ?_⟩
          obtain rfl : a = y := by simpa using hy
          refine ⟨hab, fun e => hm ⟨?_, ?_⟩⟩
          · exact e.1.symm
          · exact e.2.symm
    · intro a ha c hc
      have hbc := hs.1 c hc
      rcases snoc_cases l with rfl | ⟨l', a', rfl⟩
      · rw [joinE_nil] at ha
        obtain rfl : (b.1, b.2, 1) = a := by simpa using ha
        show b.1 + 1 ≤ c.1
        omega
      · rw [joinE_snoc] at ha
        by_cases hm : mergeE a' b
        · rw [if_pos hm] at ha
          obtain rfl : (a'.1, a'.2.1, a'.2.2 + 1) = a := by simpa using ha
          show a'.1 + (a'.2.2 + 1) ≤ c.1
          have := hm.1
          omega
        · rw [if_neg hm] at ha
          obtain rfl : (b.1, b.2, 1) = a := by simpa using ha
          show b.1 + 1 ≤ c.1
          omega
theorem gat_chE {s : List Bl} (h : upB s) : chE (gat s) := fold_chE s [] trivial h (by simp)
theorem fold_blE (l : List Ex) (f d : Int) (h : ∀ y, l.getLast? = some y → ¬mergeE y (f, d)) : ∀ n : Nat, (blE (f, d, (n : Int) + 1)).foldl joinE l = l ++ [(f, d, (n : Int) + 1)]
  | 0 => by
    show (blE (f, d, 0 + 1)).foldl joinE l = _
    rw [show (0 : Int) + 1 = 1 from rfl, blE_one]
    simpa using joinE_no h
  | n + 1 => by
    rw [blE_succ (by omega), List.foldl_append, show ((n + 1 : Nat) : Int) = (n : Int) + 1 from rfl, fold_blE l f d h n]
    simp only [List.foldl_cons, List.foldl_nil]
    rw [joinE_snoc, if_pos ⟨rfl, rfl⟩]
theorem fold_blS2 : ∀ (t l : List Ex), chE (l ++ t) → (∀ x ∈ t, 1 ≤ x.2.2) → (blS t).foldl joinE l = l ++ t
  | [], l, _, _ => by simp [blS]
  | x :: t, l, h, hm => by
    have hx := hm x (by simp)
    have h1 : (blE x).foldl joinE l = l ++ [x] := by
      have := fold_blE l x.1 x.2.1 (fun y hy e => by
        have hc : chE (l ++ [x]) := by
          rw [chE_at] at h ⊢
          intro i y' x' hy' hx'
          have hi : i + 1 < (l ++ [x]).length := (List.getElem?_eq_some_iff.1 hx').1
          have e2 : l ++ x :: t = (l ++ [x]) ++ t := by simp
          refine h i y' x' ?_ ?_
          · rw [e2, List.getElem?_append_left (by omega)]; exact hy'
          · rw [e2, List.getElem?_append_left (by omega)]; exact hx'
        have := (chE_snoc.1 hc).2 y hy
        exact this.2 ⟨e.1.symm, e.2.symm⟩) (x.2.2.toNat - 1)
      rw [show ((x.2.2.toNat - 1 : Nat) : Int) + 1 = x.2.2 by omega] at this
      exact this
    rw [blS_cons, List.foldl_append, h1]
    have := fold_blS2 t (l ++ [x]) (by simpa using h) (fun y hy => hm y (by simp [hy]))
    simpa using this
theorem gat_blS {l : List Ex} (h : chE l) (hm : ∀ x ∈ l, 1 ≤ x.2.2) : gat (blS l) = l := by simpa [gat] using fold_blS2 l [] (by simpa using h) hm
theorem ch_far : ∀ {t : List Ex} {x : Ex}, chE (x :: t) → (∀ y ∈ t, 1 ≤ y.2.2) → ∀ y ∈ t, x.1 + x.2.2 ≤ y.1
  | [], _, _, _, y, hy => by cases hy
  | z :: t, x, h, hm, y, hy => by
    have h1 := h.1.1
    rcases List.mem_cons.1 hy with rfl | hy
    · exact h1
    · have := ch_far h.2 (fun y hy => hm y (by simp [hy])) y hy
      have := hm z (by simp)
      omega
theorem ch_pair : ∀ {l : List Ex}, chE l → (∀ y ∈ l, 1 ≤ y.2.2) → l.Pairwise fun a b => a.1 + a.2.2 ≤ b.1
  | [], _, _ => List.Pairwise.nil
  | x :: t, h, hm => by
    refine List.pairwise_cons.2 ⟨ch_far h (fun y hy => hm y (by simp [hy])), ?_⟩
    refine ch_pair ?_ (fun y hy => hm y (by simp [hy]))
    cases t with
    | nil => trivial
    | cons a t => exact h.2
theorem blE_up (x : Ex) : upB (blE x) := by
  unfold blE upB
  rw [List.pairwise_map]
  refine List.Pairwise.imp ?_ (List.pairwise_lt_range)
  intro a b h
  simp only
  omega
theorem blS_up : ∀ {l : List Ex}, (l.Pairwise fun a b => a.1 + a.2.2 ≤ b.1) → upB (blS l)
  | [], _ => List.Pairwise.nil
  | x :: t, h => by
    rw [List.pairwise_cons] at h
    rw [blS_cons]
    refine List.pairwise_append.2 ⟨blE_up x, blS_up h.2, fun a ha b hb => ?_⟩
    obtain ⟨i, hi, rfl⟩ := mem_blE.1 ha
    obtain ⟨y, hy, hb⟩ := List.mem_flatMap.1 hb
    obtain ⟨j, hj, rfl⟩ := mem_blE.1 hb
    have := h.1 y hy
    show x.1 + (i : Int) < y.1 + (j : Int)
    omega
/-- In the bounds. -/
def inB (s : List Bl) : Prop := ∀ b ∈ s, 0 ≤ b.1 ∧ b.1 < 128 ∧ 1 ≤ b.2 ∧ b.2 < 2048
/-- No block lies twice. -/
def injB (s : List Bl) : Prop := ∀ b ∈ s, ∀ c ∈ s, b.2 = c.2 → b.1 = c.1
theorem vL_up {l : List Ex} (h : vL l) : upB (blS l) := blS_up (ch_pair h.2.2.2 fun y hy => (h.2.1 y hy).2.2.1)
theorem blS_in {l : List Ex} (h : ∀ x ∈ l, mayE x) : inB (blS l) := fun b hb => by
  obtain ⟨x, hx, hb⟩ := List.mem_flatMap.1 hb
  obtain ⟨i, hi, rfl⟩ := mem_blE.1 hb
  have := h x hx
  unfold mayE at this
  show 0 ≤ x.1 + (i : Int) ∧ x.1 + (i : Int) < 128 ∧ 1 ≤ x.2.1 + (i : Int) ∧ x.2.1 + (i : Int) < 2048
  omega
theorem vL_in {l : List Ex} (h : vL l) : inB (blS l) := blS_in h.2.1
theorem vL_inj {l : List Ex} (h : vL l) : injB (blS l) := fun b hb c hc e => by
  obtain ⟨x, hx, hb⟩ := List.mem_flatMap.1 hb
  obtain ⟨y, hy, hc⟩ := List.mem_flatMap.1 hc
  obtain ⟨i, hi, rfl⟩ := mem_blE.1 hb
  obtain ⟨j, hj, rfl⟩ := mem_blE.1 hc
  obtain ⟨m, hm, rfl⟩ := List.mem_iff_getElem.1 hx
  obtain ⟨n, hn, rfl⟩ := List.mem_iff_getElem.1 hy
  have e : (l[m]).2.1 + (i : Int) = (l[n]).2.1 + (j : Int) := e
  show (l[m]).1 + (i : Int) = (l[n]).1 + (j : Int)
  have ha := List.pairwise_iff_getElem.1 h.2.2.1
  rcases Nat.lt_trichotomy m n with hmn | rfl | hmn
  · have := ha m n hm hn hmn
    unfold apartE at this
    omega
  · omega
  · have := ha n m hn hm hmn
    unfold apartE at this
    omega
theorem vL_gat {s : List Bl} (hu : upB s) (hi : inB s) (hj : injB s) (hl : (gat s).length ≤ 10) : vL (gat s) := by
  have hb := blS_gat s
  have hm := gat_many s
  have hc := gat_chE hu
  have hp := ch_pair hc hm
  have hmem : ∀ x ∈ gat s, ∀ i : Nat, (i : Int) < x.2.2 → (x.1 + (i : Int), x.2.1 + (i : Int)) ∈ s := fun x hx i h => by
    rw [← hb]
    exact List.mem_flatMap.2 ⟨x, hx, mem_blE.2 ⟨i, h, rfl⟩⟩
  refine ⟨hl, fun x hx => ?_, ?_, hc⟩
  · have h1 := hm x hx
    have f0 := hi _ (hmem x hx 0 (by omega))
    have f1 := hi _ (hmem x hx (x.2.2.toNat - 1) (by omega))
    simp only at f0 f1
    unfold mayE
    omega
  · refine List.pairwise_iff_getElem.2 fun m n hm' hn hmn => ?_
    have hx := List.getElem_mem hm'
    have hy := List.getElem_mem hn
    have h1 := hm _ hx
    have h2 := hm _ hy
    have hf := List.pairwise_iff_getElem.1 hp m n hm' hn hmn
    generalize (gat s)[m] = x at *
    generalize (gat s)[n] = y at *
    unfold apartE
    by_cases ha : x.2.1 + x.2.2 ≤ y.2.1
    · exact .inl ha
    by_cases hb : y.2.1 + y.2.2 ≤ x.2.1
    · exact .inr hb
    exfalso
    by_cases hd : x.2.1 ≤ y.2.1
    · have := hj _ (hmem x hx (y.2.1 - x.2.1).toNat (by omega)) _ (hmem y hy 0 (by omega)) (by show x.2.1 + (((y.2.1 - x.2.1).toNat : Nat) : Int) = y.2.1 + ((0 : Nat) : Int); omega)
      have : x.1 + (((y.2.1 - x.2.1).toNat : Nat) : Int) = y.1 + ((0 : Nat) : Int) := this
      omega
    · have := hj _ (hmem x hx 0 (by omega)) _ (hmem y hy (x.2.1 - y.2.1).toNat (by omega)) (by show x.2.1 + ((0 : Nat) : Int) = y.2.1 + (((x.2.1 - y.2.1).toNat : Nat) : Int); omega)
      have : x.1 + ((0 : Nat) : Int) = y.1 + (((x.2.1 - y.2.1).toNat : Nat) : Int) := this
      omega
/-- What places say, of some first ones. -/
def nzF (p : List Int) (k : Nat) : List Bl := (List.range k).filterMap fun i : Nat => if (p[i]?).getD 0 = 0 then none else some ((i : Int), (p[i]?).getD 0)
def nz (p : List Int) : List Bl := nzF p 128
theorem nzF_zero (p : List Int) : nzF p 0 = [] := rfl
theorem nzF_succ (p : List Int) (k : Nat) : nzF p (k + 1) = nzF p k ++ if (p[k]?).getD 0 = 0 then [] else [((k : Int), (p[k]?).getD 0)] := by
  unfold nzF
  rw [List.range_succ, List.filterMap_append]
  by_cases h : (p[k]?).getD 0 = 0 <;> simp [h]
theorem mem_nzF {p : List Int} {k : Nat} {b : Bl} : b ∈ nzF p k ↔ ∃ i : Nat, i < k ∧ (p[i]?).getD 0 ≠ 0 ∧ b = ((i : Int), (p[i]?).getD 0) := by
  simp only [nzF, List.mem_filterMap, List.mem_range]
  constructor
  · rintro ⟨i, hi, h⟩
    by_cases hz : (p[i]?).getD 0 = 0
    · rw [if_pos hz] at h; cases h
    · rw [if_neg hz] at h; cases h; exact ⟨i, hi, hz, rfl⟩
  · rintro ⟨i, hi, hz, rfl⟩
    exact ⟨i, hi, by rw [if_neg hz]⟩
theorem nzF_up (p : List Int) : ∀ k, upB (nzF p k)
  | 0 => List.Pairwise.nil
  | k + 1 => by
    rw [nzF_succ]
    refine List.pairwise_append.2 ⟨nzF_up p k, by split <;> simp, fun a ha b hb => ?_⟩
    obtain ⟨i, hi, _, rfl⟩ := mem_nzF.1 ha
    split at hb
    · cases hb
    · obtain rfl := List.mem_singleton.1 hb
      show (i : Int) < (k : Int)
      omega
theorem nzF_len (p : List Int) : ∀ k, (nzF p k).length ≤ k
  | 0 => Nat.le_refl _
  | k + 1 => by
    rw [nzF_succ, List.length_append]
    have := nzF_len p k
    split <;> simp <;> omega
/-- Places with blocks set. -/
def setB (p : List Int) (b : Bl) : List Int := p.set b.1.toNat b.2
def plF (p : List Int) (s : List Bl) : List Int := s.foldl setB p
def plOf (s : List Bl) : List Int := plF (List.replicate 128 0) s
theorem plF_len : ∀ (s : List Bl) (p : List Int), (plF p s).length = p.length
  | [], _ => rfl
  | b :: s, p => by
    show (plF (setB p b) s).length = _
    rw [plF_len s]; simp [setB]
theorem plOf_len (s : List Bl) : (plOf s).length = 128 := by unfold plOf; rw [plF_len]; simp
theorem plF_snoc (p : List Int) (s : List Bl) (b : Bl) : plF p (s ++ [b]) = setB (plF p s) b := by simp [plF]
theorem plF_out : ∀ {s : List Bl} {p : List Int} {i : Nat}, (∀ b ∈ s, 0 ≤ b.1) → (∀ b ∈ s, b.1 ≠ (i : Int)) → (plF p s)[i]? = p[i]?
  | [], _, _, _, _ => rfl
  | b :: s, p, i, h0, h => by
    show (plF (setB p b) s)[i]? = _
    rw [plF_out (fun c hc => h0 c (by simp [hc])) (fun c hc => h c (by simp [hc]))]
    have h1 := h b (by simp)
    have h2 := h0 b (by simp)
    unfold setB
    rw [List.getElem?_set_ne (by omega)]
theorem plF_in : ∀ {s : List Bl} {p : List Int} {b : Bl}, upB s → (∀ c ∈ s, 0 ≤ c.1 ∧ c.1 < p.length) → b ∈ s → (plF p s)[b.1.toNat]? = some b.2
  | c :: s, p, b, hu, h0, hb => by
    rw [upB, List.pairwise_cons] at hu
    show (plF (setB p c) s)[b.1.toNat]? = _
    have hc := h0 c (by simp)
    have hl : (setB p c).length = p.length := by simp [setB]
    by_cases hbs : b ∈ s
    · exact plF_in hu.2 (fun d hd => by rw [hl]; exact h0 d (by simp [hd])) hbs
    · obtain rfl : b = c := by
        rcases List.mem_cons.1 hb with h | h
        · exact h
        · exact absurd h hbs
      rw [plF_out (fun d hd => (h0 d (by simp [hd])).1) (fun d hd => by have := hu.1 d hd; omega)]
      unfold setB
      rw [List.getElem?_set_self (by omega)]
theorem sorted_ext : ∀ {a b : List Bl}, upB a → upB b → (∀ x, x ∈ a ↔ x ∈ b) → a = b
  | [], [], _, _, _ => rfl
  | [], y :: b, _, _, h => absurd ((h y).2 (by simp)) (by simp)
  | x :: a, [], _, _, h => absurd ((h x).1 (by simp)) (by simp)
  | x :: a, y :: b, ha, hb, h => by
    rw [upB, List.pairwise_cons] at ha hb
    have exy : x = y := by
      rcases List.mem_cons.1 ((h x).1 (by simp)) with e | hx
      · exact e
      rcases List.mem_cons.1 ((h y).2 (by simp)) with e | hy
      · exact e.symm
      have := ha.1 y hy
      have := hb.1 x hx
      omega
    subst exy
    rw [sorted_ext ha.2 hb.2 fun z => ⟨fun hz => ?_, fun hz => ?_⟩]
    · rcases List.mem_cons.1 ((h z).1 (by simp [hz])) with rfl | hz2
      · have := ha.1 z hz; omega
      · exact hz2
    · rcases List.mem_cons.1 ((h z).2 (by simp [hz])) with rfl | hz2
      · have := hb.1 z hz; omega
      · exact hz2
theorem get_rep (i : Nat) : ((List.replicate 128 (0 : Int))[i]?).getD 0 = 0 := by
  rw [List.getElem?_replicate]
  split <;> rfl
/-- Blocks that rise and lie somewhere are told back by the places. -/
theorem nz_plOf {s : List Bl} (hu : upB s) (hi : inB s) : nz (plOf s) = s := by
  refine sorted_ext (nzF_up _ _) hu fun b => ?_
  have hr : ∀ c ∈ s, 0 ≤ c.1 ∧ c.1 < ((List.replicate 128 (0 : Int)).length : Nat) := fun c hc => by have := hi c hc; simp only [List.length_replicate]; omega
  rw [nz, mem_nzF]
  constructor
  · rintro ⟨i, hi1, hz, rfl⟩
    by_cases hex : ∃ c ∈ s, c.1 = (i : Int)
    · obtain ⟨c, hc, e⟩ := hex
      have := plF_in hu hr hc
      rw [show c.1.toNat = i by omega] at this
      unfold plOf
      rw [this]
      simp only [Option.getD_some]
      rw [← e]
      exact hc
    · exfalso
      refine hz ?_
      unfold plOf
      rw [plF_out (fun c hc => (hi c hc).1) (fun c hc e => hex ⟨c, hc, e⟩)]
      exact get_rep i
  · intro hb
    have h1 := hi b hb
    have := plF_in hu hr hb
    refine ⟨b.1.toNat, by omega, ?_, ?_⟩
    · unfold plOf; rw [this]; simp only [Option.getD_some]; omega
    · unfold plOf; rw [this]; simp only [Option.getD_some]; exact Prod.ext (by omega) rfl
theorem plOf_nz {p : List Int} (hl : p.length = 128) : plOf (nz p) = p := by
  refine List.ext_getElem? fun i => ?_
  by_cases hi : i < 128
  case neg => rw [List.getElem?_eq_none (by rw [plOf_len]; omega), List.getElem?_eq_none (by omega)]
  have hr : ∀ c ∈ nz p, 0 ≤ c.1 ∧ c.1 < ((List.replicate 128 (0 : Int)).length : Nat) := fun c hc => by
    obtain ⟨j, hj, _, rfl⟩ := mem_nzF.1 hc
    simp only [List.length_replicate]
    omega
  obtain ⟨v, hv⟩ : ∃ v, p[i]? = some v := ⟨_, List.getElem?_eq_getElem (by omega)⟩
  by_cases hz : v = 0
  · unfold plOf
    rw [plF_out (fun c hc => (hr c hc).1) (fun c hc e => ?_), hv, hz, List.getElem?_replicate, if_pos hi]
    obtain ⟨j, hj, hne, rfl⟩ := mem_nzF.1 hc
    have : j = i := by simp only at e; omega
    subst this
    rw [hv] at hne
    exact hne hz
  · have hm : ((i : Int), v) ∈ nz p := mem_nzF.2 ⟨i, hi, by rw [hv]; exact hz, by rw [hv]; rfl⟩
    have := plF_in (nzF_up p 128) hr hm
    unfold plOf
    rw [hv, ← this]
    rfl
/-- The places of a map. -/
def plL (l : List Ex) : List Int := plOf (blS l)
theorem plL_len (l : List Ex) : (plL l).length = 128 := plOf_len _
theorem vL_back {l : List Ex} (h : vL l) : gat (nz (plL l)) = l := by
  unfold plL
  rw [nz_plOf (vL_up h) (vL_in h), gat_blS h.2.2.2 fun y hy => (h.2.1 y hy).2.2.1]
theorem vL_nz {l : List Ex} (h : vL l) : nz (plL l) = blS l := by unfold plL; rw [nz_plOf (vL_up h) (vL_in h)]
/-- Places that may be a map's. -/
structure okP (p : List Int) : Prop where
  len : p.length = 128
  bnd : inB (nz p)
  inj : injB (nz p)
theorem vL_okP {l : List Ex} (h : vL l) : okP (plL l) := ⟨plL_len l, by rw [vL_nz h]; exact vL_in h, by rw [vL_nz h]; exact vL_inj h⟩
theorem okP_vL {p : List Int} (h : okP p) (hl : (gat (nz p)).length ≤ 10) : vL (gat (nz p)) ∧ plL (gat (nz p)) = p :=
  ⟨vL_gat (nzF_up p 128) h.bnd h.inj hl, by unfold plL; rw [blS_gat, plOf_nz h.len]⟩
theorem okP.at {p : List Int} (h : okP p) {i : Nat} {v : Int} (hv : p[i]? = some v) : 0 ≤ v ∧ v < 2048 := by
  by_cases hz : v = 0
  · omega
  have hi : i < 128 := by have := (List.getElem?_eq_some_iff.1 hv).1; have := h.len; omega
  have := h.bnd _ (mem_nzF.2 ⟨i, hi, by rw [hv]; exact hz, rfl⟩ : ((i : Int), (p[i]?).getD 0) ∈ nz p)
  rw [hv] at this
  simp only [Option.getD_some] at this
  omega
/-- Runs with a block more. -/
def joinR (l : List Bl) (d : Int) : List Bl := match l.getLast? with
  | some a => if a.1 + a.2 = d then l.dropLast ++ [(a.1, a.2 + 1)] else l ++ [(d, 1)]
  | none => l ++ [(d, 1)]
def gatR (ds : List Int) : List Bl := ds.foldl joinR []
theorem joinR_nil (d : Int) : joinR [] d = [(d, 1)] := rfl
theorem joinR_snoc (l : List Bl) (a : Bl) (d : Int) : joinR (l ++ [a]) d = if a.1 + a.2 = d then l ++ [(a.1, a.2 + 1)] else l ++ [a] ++ [(d, 1)] := by
  simp [joinR]
theorem gatR_snoc (s : List Int) (d : Int) : gatR (s ++ [d]) = joinR (gatR s) d := by simp [gatR]
theorem joinR_len (l : List Bl) (d : Int) : (joinR l d).length ≤ l.length + 1 := by
  rcases snoc_cases l with rfl | ⟨l', a, rfl⟩
  · simp [joinR]
  · rw [joinR_snoc]; split <;> simp
theorem foldR_len : ∀ (s : List Int) (l : List Bl), (s.foldl joinR l).length ≤ l.length + s.length
  | [], l => by simp
  | b :: s, l => by
    have h1 := foldR_len s (joinR l b)
    have h2 := joinR_len l b
    simp only [List.foldl_cons, List.length_cons]
    omega
theorem gatR_len (s : List Int) : (gatR s).length ≤ s.length := by have := foldR_len s []; simpa [gatR] using this
def dvE (r : Bl) : List Int := (List.range r.2.toNat).map fun i : Nat => r.1 + (i : Int)
def dvS (l : List Bl) : List Int := l.flatMap dvE
theorem dvE_succ {d n : Int} (h : 0 ≤ n) : dvE (d, n + 1) = dvE (d, n) ++ [d + n] := by
  obtain ⟨k, rfl⟩ := Int.eq_ofNat_of_zero_le h
  simp only [dvE]
  rw [show ((k : Int) + 1).toNat = k + 1 by omega, List.range_succ, List.map_append]
  simp
theorem foldR_dvS : ∀ (s : List Int) (l : List Bl), (∀ x ∈ l, 1 ≤ x.2) → dvS (s.foldl joinR l) = dvS l ++ s ∧ ∀ x ∈ s.foldl joinR l, 1 ≤ x.2
  | [], l, h => by simpa using h
  | b :: s, l, h => by
    have hj : dvS (joinR l b) = dvS l ++ [b] ∧ ∀ x ∈ joinR l b, 1 ≤ x.2 := by
      have e1 : dvE (b, 1) = [b] := by simp [dvE, List.range_succ]
      rcases snoc_cases l with rfl | ⟨l', a, rfl⟩
      · rw [joinR_nil]
        refine ⟨by simp [dvS, e1], fun x hx => ?_⟩
        obtain rfl := List.mem_singleton.1 hx
        simp
      · have ha := h a (by simp)
        rw [joinR_snoc]
        by_cases hm : a.1 + a.2 = b
        · rw [if_pos hm]
          refine ⟨?_, fun x hx => ?_⟩
          · simp only [dvS, List.flatMap_append, List.flatMap_cons, List.flatMap_nil, List.append_nil]
            rw [dvE_succ (by omega), hm, List.append_assoc]
          rcases List.mem_append.1 hx with hx | hx
          · exact h x (by simp [hx])
          · obtain rfl := List.mem_singleton.1 hx
            show 1 ≤ a.2 + 1
            omega
        · rw [if_neg hm]
          refine ⟨by simp [dvS, e1], fun x hx => ?_⟩
          rcases List.mem_append.1 hx with hx | hx
          · exact h x hx
          · obtain rfl := List.mem_singleton.1 hx
            simp
    have := foldR_dvS s (joinR l b) hj.2
    simp only [List.foldl_cons]
    rw [this.1, hj.1]
    exact ⟨by simp, this.2⟩
theorem dvS_gatR (s : List Int) : dvS (gatR s) = s := by have := (foldR_dvS s [] (by simp)).1; simpa [gatR, dvS] using this
theorem gatR_many (s : List Int) : ∀ x ∈ gatR s, 1 ≤ x.2 := (foldR_dvS s [] (by simp)).2
/-- Is a block in one of some runs? -/
def inR (l : List Bl) (d : Int) : Prop := ∃ r ∈ l, r.1 ≤ d ∧ d - r.1 < r.2
theorem inR_gatR {s : List Int} {d : Int} : inR (gatR s) d ↔ d ∈ s := by
  conv => rhs; rw [← dvS_gatR s]
  unfold inR dvS
  simp only [List.mem_flatMap, dvE, List.mem_map, List.mem_range]
  constructor
  · rintro ⟨r, hr, h1, h2⟩
    exact ⟨r, hr, (d - r.1).toNat, by omega, by omega⟩
  · rintro ⟨r, hr, i, hi, rfl⟩
    exact ⟨r, hr, by omega, by omega⟩
/-- How many blocks runs have. -/
def sumR : List Bl → Int
  | [] => 0
  | r :: l => r.2 + sumR l
theorem sumR_app : ∀ a b : List Bl, sumR (a ++ b) = sumR a + sumR b
  | [], b => by simp [sumR]
  | r :: a, b => by simp only [List.cons_append, sumR, sumR_app a b]; omega
theorem sumR_len : ∀ l : List Bl, (∀ x ∈ l, 1 ≤ x.2) → sumR l = ((dvS l).length : Int)
  | [], _ => rfl
  | r :: l, h => by
    have := sumR_len l fun x hx => h x (by simp [hx])
    have hr := h r (by simp)
    simp only [sumR, this, dvS, List.flatMap_cons, List.length_append, dvE, List.length_map, List.length_range]
    omega
theorem sumR_gatR (s : List Int) : sumR (gatR s) = (s.length : Int) := by rw [sumR_len _ (gatR_many s), dvS_gatR]
/-- The blocks of the device that places say, from one on, so many. -/
def dvF (p : List Int) (f : Nat) : Nat → List Int
  | 0 => []
  | k + 1 => dvF p f k ++ if (p[f + k]?).getD 0 = 0 then [] else [(p[f + k]?).getD 0]
theorem mem_dvF {p : List Int} {f : Nat} {d : Int} : ∀ {k : Nat}, d ∈ dvF p f k ↔ d ≠ 0 ∧ ∃ i, i < k ∧ (p[f + i]?).getD 0 = d
  | 0 => by simp [dvF]
  | k + 1 => by
    simp only [dvF, List.mem_append, mem_dvF (k := k)]
    constructor
    · rintro (⟨h0, i, hi, e⟩ | h)
      · exact ⟨h0, i, by omega, e⟩
      · split at h
        · cases h
        · rename_i hz
          obtain rfl := List.mem_singleton.1 h
          exact ⟨hz, k, by omega, rfl⟩
    · rintro ⟨h0, i, hi, e⟩
      by_cases hik : i < k
      · exact .inl ⟨h0, i, hik, e⟩
      · obtain rfl : i = k := by omega
        right
        rw [if_neg (by rw [e]; exact h0), e]
        simp
theorem dvF_len (p : List Int) (f : Nat) : ∀ k, (dvF p f k).length ≤ k
  | 0 => Nat.le_refl _
  | k + 1 => by
    have := dvF_len p f k
    simp only [dvF, List.length_append]
    split <;> simp <;> omega
end Go.Proofs.YtklfopclaonggaaDoor
