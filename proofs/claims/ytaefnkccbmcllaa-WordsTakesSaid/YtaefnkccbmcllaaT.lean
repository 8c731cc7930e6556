/- Contracts of layer 1: the document's Take. -/
import Derived.Test.YtaefnkccbmcllaaE
namespace Go.Proofs.Ytaefnkccbmcllaa
open Go.RowKit

set_option maxHeartbeats 400000 in
theorem rtake_wrong (v : Value) (ws : List Nat) (n : Int) (w : World) (hv : Reads w v (ints .u64 ws)) (hlen : ws.length ≤ 1048576) (hn : ¬ (0 ≤ n ∧ (n.toNat + 7) / 8 = ws.length)) (hw1 : -9223372036854775808 ≤ n) (hw2 : n ≤ 9223372036854775807) :
    Calls Try.prog 19 #[v, .int .i64 n] w fun e w' => e = .returned (.tuple #[.slice none 0 0, .int .i64 2]) ∧ w = w' := by
  obtain ⟨a, cap, rfl, hcap, hcells⟩ := hv.ints
  clear hcells hv
  by_cases h0 : n < 0
  · go_enter Try.func19, Try.ntmps19
    go_wp2
    go_ret2
    exact ⟨rfl, rfl⟩
  · by_cases h1 : n > 8 * (ws.length : Int)
    · go_enter Try.func19, Try.ntmps19
      go_wp2
      go_ret2
      exact ⟨rfl, rfl⟩
    · have h2 : n ≤ 8 * (ws.length : Int) - 8 := by omega
      clear hn
      go_enter Try.func19, Try.ntmps19
      go_wp2
      go_ret2
      exact ⟨rfl, rfl⟩

set_option maxHeartbeats 800000 in
theorem rtake_any (v : Value) (ws : List Nat) (m : Nat) (w : World) (hv : Reads w v (ints .u64 ws)) (hw : ∀ x ∈ ws, x < 18446744073709551616) (hlen : ws.length ≤ 1048576) (hm : (m + 7) / 8 = ws.length) :
    Calls Try.prog 19 #[v, .int .i64 m] w fun e w' => ∃ v' no, e = .returned (.tuple #[v', .int .i64 no]) ∧ Below w.heap.size w w' ∧
      ((zerosB ((bytesL ws).drop m) = true ∧ no = 0 ∧ Reads w' v' (ints .u8 ((bytesL ws).take m))) ∨ (zerosB ((bytesL ws).drop m) = false ∧ no = 2 ∧ v' = .slice none 0 0)) := by
  have hby := Lib.hid (rbytes_any v ws w hv hw hlen)
  obtain ⟨a, cap, rfl, hcap, hcells⟩ := hv.ints
  obtain ⟨L, hL⟩ : ∃ L, 8 * ws.length = L := ⟨_, rfl⟩
  have hm1 : m ≤ L := by omega
  have hL2 : L ≤ 8388608 := by omega
  have g1 : (m : Int) ≤ 8 * (ws.length : Int) := by omega
  have g2 : 8 * (ws.length : Int) - 8 < (m : Int) := by omega
  have HL := Lib.hid hL
  have hlb := bytesL_length ws
  rw [hL] at hlb
  clear hcells hv hm hL hw
  obtain ⟨bs, hbs⟩ : ∃ bs, bytesL ws = bs := ⟨_, rfl⟩
  rw [hbs] at hby hlb ⊢
  clear hbs
  go_enter Try.func19, Try.ntmps19
  go_wp2_with (first | (go_at_call 13; refine hby.out.mono ?_; rintro e w1 ⟨v', rfl, hown, hbl⟩; have hrd := reads_of_owns hown; obtain ⟨a', cap', rfl, hcap', hcb⟩ := hrd.intsN hlb; have hU := run_upto El8 a' L cap' m (by omega); clear hown; have HRD := Lib.hid hrd; clear hrd))
  clear hby
  go_loop [7] (fun i => ∃ k : Nat, m ≤ k ∧ k ≤ L ∧ i = .int .i64 k ∧ zerosB ((bs.drop m).take (k - m)) = true) (fun i => L - (intOf i).toNat)
  case atStart => exact ⟨m, by omega, by omega, rfl, by simp [zerosB]⟩
  case round =>
    obtain ⟨k, hk0, hk, rfl, hall⟩ := hrel
    have HA := Lib.hid hall
    clear hall
    by_cases hlt : k < L
    · obtain ⟨b, off, rfl, hbs, hc⟩ := hcb (by omega)
      have hck := hc k hlt
      have hsn0 := all_snoc (bs.drop m) (k - m) (by simp; omega)
      rw [List.getElem?_drop, show m + (k - m) = k by omega, show k - m + 1 = k + 1 - m by omega] at hsn0
      obtain ⟨c, hce⟩ : ∃ c, bs[k]?.getD 0 = c := ⟨_, rfl⟩
      rw [hce] at hck hsn0
      have hsn := Lib.hid hsn0
      clear hc hcb hce hsn0
      by_cases h0 : c = 0
      · subst h0
        go_wp2
        go_round
        case rel => exact ⟨k + 1, by omega, by omega, by go_num, by rw [hsn.out, HA.out]; rfl⟩
        case measure => simp [intOf]; omega
      · have hne : ((c : Int) != 0) = true := by simp; exact h0
        go_wp2
        go_ret2
        refine ⟨_, _, rfl, hbl, .inr ⟨?_, rfl, rfl⟩⟩
        have hs := hsn.out
        rw [HA.out] at hs
        exact zerosB_take (by rw [hs]; simp [h0])
    · obtain rfl : k = L := by omega
      clear hcb
      go_wp2
      go_ret2
      refine ⟨_, _, rfl, hbl, .inl ⟨?_, rfl, ?_⟩⟩
      · have h := HA.out
        rw [List.take_of_length_le (by simp; omega)] at h
        exact h
      · have h := HRD.out.take m hm1 cap' (by omega)
        first | exact h | (rw [← List.map_take] at h; exact h)
end Go.Proofs.Ytaefnkccbmcllaa
