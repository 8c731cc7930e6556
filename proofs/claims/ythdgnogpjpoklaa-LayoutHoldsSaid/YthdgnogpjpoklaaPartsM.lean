/- layout: all parts in order, and what the document makes of them. -/
import Derived.Test.YthdgnogpjpoklaaPartM
namespace Go.Proofs.Ythdgnogpjpoklaa
set_option linter.unusedVariables false
set_option linter.unusedSimpArgs false
open Go.RowKit Go.Shelf
theorem grp_sorted (f m fi wd kd : Nat) (hw : 0 < wd) : (grp f m fi wd kd).Pairwise (fun x y => x.1 < y.1) := by
  unfold grp
  rw [List.pairwise_map]
  refine List.Pairwise.imp (fun {a b} h => ?_) (List.pairwise_lt_range (n := m))
  have := (Nat.mul_lt_mul_right hw).2 h
  show f * 64 + a * wd < f * 64 + b * wd
  omega
theorem pre_sorted {b i r : Nat} (hi : i % 4 = 0) (hr : r % 4 = 0) (c : Nat) (hc : c ≤ 6) : (preL b i r c).Pairwise (fun x y => x.1 < y.1) := by
  induction c with
  | zero => exact List.Pairwise.nil
  | succ c ih =>
    show (preL b i r c ++ kG b i r c).Pairwise _
    rw [List.pairwise_append]
    refine ⟨ih (by omega), grp_sorted _ _ _ _ _ (kW_pos c), fun x hx y hy => ?_⟩
    have h1 := pre_lt hi hr c (by omega) x hx
    obtain ⟨j, _, rfl⟩ := grp_mem hy
    show x.1 < kF i r c * 64 + j * kW c
    omega
theorem all_lt {b i r : Nat} (hi : i % 4 = 0) (hr : r % 4 = 0) (hd : 10 + i / 4 + r / 4 < b) : ∀ x ∈ allP b i r, x.1 < 64 * b := by
  intro x hx
  have hx' : x ∈ preL b i r 5 ++ kG b i r 5 := hx
  rcases List.mem_append.1 hx' with h | h
  · have := pre_lt hi hr 5 (by omega) x h
    simp only [kF] at this
    omega
  · obtain ⟨j, hj, rfl⟩ := grp_mem h
    simp only [kF, kW, kM] at hj ⊢
    omega
theorem all_head (b i r : Nat) : ∃ t, allP b i r = (0, 1, 0) :: t := ⟨_, rfl⟩
/-- The first word of a part. -/
def fwP (i r : Nat) (p : Nat × Nat) : Nat := kF i r (p.1 - 1) * 64 + (p.2 - kN i r (p.1 - 1)) * kW (p.1 - 1)
theorem all_fw {b i r : Nat} : ∀ x ∈ allP b i r, x.1 = fwP i r x.2 := by
  have h : ∀ c, ∀ x ∈ preL b i r c, x.1 = fwP i r x.2 := by
    intro c
    induction c with
    | zero => intro x hx; cases hx
    | succ c ih =>
      intro x hx
      rcases List.mem_append.1 hx with h | h
      · exact ih x h
      · obtain ⟨j, _, rfl⟩ := grp_mem h
        simp [fwP]
  exact h 6
theorem all_len (b i r : Nat) : (allP b i r).length = 1 + 8 + i + r + 1 + (b - (10 + i / 4 + r / 4)) := by
  have h : ∀ c, (kG b i r c).length = kM b i r c := fun c => by unfold kG; rw [grp_len]
  show (preL b i r 6).length = _
  simp only [preL, List.length_append, List.length_nil, h, kM]
  try omega
/-- A word that is the first one of the next part. -/
theorem scan_here {L : List Pa} {n w : Nat} {x : Pa} (hs : L.Pairwise (fun x y => x.1 < y.1)) (hx : L[n]? = some x) (h : x.1 ≤ w) (hn : ∀ y, L[n + 1]? = some y → w < y.1) : scanP w L (0, 0) = x.2 := by
  have hlt : n < L.length := (List.getElem?_eq_some_iff.1 hx).1
  have e : L = L.take n ++ [x] ++ L.drop (n + 1) := by
    have : L.take (n + 1) = L.take n ++ [x] := by rw [List.take_add_one, hx]; rfl
    rw [← this, List.take_append_drop]
  have hle : ∀ y ∈ L.take n, y.1 ≤ w := by
    intro y hy
    rw [e, List.append_assoc, List.pairwise_append] at hs
    have := hs.2.2 y hy x (by simp)
    omega
  rw [e, List.append_assoc, scan_app hle]
  simp only [List.singleton_append, scanP, if_pos h]
  cases hd : L.drop (n + 1) with
  | nil => rfl
  | cons y t =>
    have hy : L[n + 1]? = some y := by
      have := congrArg (fun l => l[0]?) hd
      simpa using this
    have := hn y hy
    unfold scanP
    rw [if_neg (by omega)]
theorem sorted_get {L : List Pa} {n m : Nat} {x y : Pa} (hs : L.Pairwise (fun x y => x.1 < y.1)) (hx : L[n]? = some x) (hy : L[m]? = some y) (h : n < m) : x.1 < y.1 := by
  obtain ⟨h1, rfl⟩ := List.getElem?_eq_some_iff.1 hx
  obtain ⟨h2, rfl⟩ := List.getElem?_eq_some_iff.1 hy
  exact List.pairwise_iff_getElem.1 hs n m h1 h2 h
/-- n parts are told when w words were looked at. -/
structure AtW (L : List Pa) (n w : Nat) : Prop where
  le : n ≤ L.length
  pre : ∀ j x, L[j]? = some x → j < n → x.1 < w
  nxt : ∀ x, L[n]? = some x → w ≤ x.1
theorem AtW.zero (L : List Pa) : AtW L 0 0 := ⟨Nat.zero_le _, fun _ _ _ h => by omega, fun _ _ => Nat.zero_le _⟩
section
variable {b i r n w : Nat} (hi : i % 4 = 0) (hr : r % 4 = 0) (hd : 10 + i / 4 + r / 4 < b)
include hi hr
theorem AtW.hit {x : Pa} (h : AtW (allP b i r) n w) (hx : (allP b i r)[n]? = some x) (e : x.1 = w) : AtW (allP b i r) (n + 1) (w + 1) ∧ scanP w (allP b i r) (0, 0) = x.2 ∧ ∀ y, (allP b i r)[n - 1]? = some y → 0 < n → y.2 ≠ x.2 := by
  have hs := pre_sorted (b := b) hi hr 6 (by omega)
  have hlt : n < (allP b i r).length := (List.getElem?_eq_some_iff.1 hx).1
  refine ⟨⟨hlt, fun j y hy hj => ?_, fun y hy => ?_⟩, scan_here hs hx (by omega) (fun y hy => ?_), fun y hy h0 e2 => ?_⟩
  · rcases Nat.lt_or_ge j n with hj | hj
    · have := h.pre j y hy hj
      omega
    · obtain rfl : j = n := by omega
      rw [hx] at hy
      cases hy
      omega
  · have := sorted_get hs hx hy (by omega)
    omega
  · have := sorted_get hs hx hy (by omega)
    omega
  · have h1 := all_fw y (List.mem_of_getElem? hy)
    have h2 := all_fw x (List.mem_of_getElem? hx)
    have h3 := sorted_get hs hy hx (by omega)
    rw [e2] at h1
    omega
theorem AtW.miss (h : AtW (allP b i r) n w) (e : ∀ x, (allP b i r)[n]? = some x → x.1 ≠ w) : AtW (allP b i r) n (w + 1) ∧ 0 < n ∧ ∃ y, (allP b i r)[n - 1]? = some y ∧ scanP w (allP b i r) (0, 0) = y.2 := by
  have hs := pre_sorted (b := b) hi hr 6 (by omega)
  obtain ⟨t, ht⟩ := all_head b i r
  have h0 : 0 < n := by
    rcases Nat.eq_zero_or_pos n with rfl | h0
    · have hx : (allP b i r)[0]? = some (0, 1, 0) := by rw [ht]; rfl
      have h1 := h.nxt _ hx
      have h2 := e _ hx
      simp only at h1 h2
      omega
    · exact h0
  have hl : n - 1 < (allP b i r).length := by have := h.le; omega
  refine ⟨⟨h.le, fun j y hy hj => by have := h.pre j y hy hj; omega, fun x hx => by have h1 := h.nxt x hx; have h2 := e x hx; omega⟩, h0, _, List.getElem?_eq_getElem hl, scan_here hs (List.getElem?_eq_getElem hl) ?_ ?_⟩
  · exact Nat.le_of_lt (h.pre (n - 1) _ (List.getElem?_eq_getElem hl) (by omega))
  · intro y hy
    rw [show n - 1 + 1 = n by omega] at hy
    have h1 := h.nxt y hy
    have h2 := e y hy
    omega
include hd in
theorem AtW.done (h : AtW (allP b i r) n (64 * b)) : n = (allP b i r).length := by
  have hle := h.le
  rcases Nat.lt_or_ge n (allP b i r).length with hlt | hge
  · have h1 := h.nxt _ (List.getElem?_eq_getElem hlt)
    have h2 := all_lt hi hr hd _ (List.getElem_mem hlt)
    omega
  · omega
end
end Go.Proofs.Ythdgnogpjpoklaa
