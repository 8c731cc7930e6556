/- The walk of SumTurned. -/
import Derived.Test.YtfmeoogokgepaaaSumW
import Derived.Test.YtfmeoogokgepaaaTurnMath
namespace Go.Proofs.Ytfmeoogokgepaaa
open Go.RowKit Go.Shelf

theorem Reads.set {w : World} {g n cap : Nat} {xs : List Value} (h : Reads w (.slice (some ⟨g, 0, none⟩) n cap) xs) (j : Nat) (hj : j < xs.length) (u : Value) :
    Reads (w.setCell ⟨g, j, none⟩ u) (.slice (some ⟨g, 0, none⟩) n cap) (xs.set j u) := by
  obtain ⟨a, cap', e, hc, hcells⟩ := h
  cases e
  refine ⟨some ⟨g, 0, none⟩, cap, by simp, by simpa using hc, fun _ => ?_⟩
  obtain ⟨b, off, hb, hlt, hcell⟩ := hcells (by intro h0; rw [h0] at hj; simp at hj)
  cases hb
  refine ⟨g, 0, rfl, by simpa [World.setCell] using hlt, fun i hi => ?_⟩
  rw [List.length_set] at hi
  by_cases hij : i = j
  · subst hij
    rw [Nat.zero_add, World.cell?_setCell_same' _ _ _ (by have := hcell i hi; rw [Nat.zero_add] at this; rw [this, List.getElem?_eq_getElem hi]; rfl)]
    simp [hi]
  · rw [World.cell?_setCell_other _ _ _ _ (by intro h; apply hij; simpa using (congrArg Addr.off h).symm), hcell i hi, List.getElem?_set_ne (by omega)]

theorem xor_zero_iff {a b : Nat} (h : a ^^^ b = a) : b = 0 := by
  have := congrArg (a ^^^ ·) h
  simpa [← Nat.xor_assoc] using this

/-- Sealed words, one turned: as words and what stands behind them. -/
theorem turned_parts (ws : List Nat) (S K by_ : Nat) (hS : wsum ws = S) (hK : K ≤ ws.length) (hw : ∀ x ∈ ws, x < 18446744073709551616) (hb : by_ < 18446744073709551616) :
    ∃ us x, (ws ++ [S]).set K ((ws ++ [S])[K]?.getD 0 ^^^ by_) = us ++ [x] ∧ us.length = ws.length ∧ (wsum us = x ↔ by_ = 0) := by
  have hSl : S < 18446744073709551616 := by rw [← hS]; exact wsum_lt ws
  rcases Nat.lt_or_ge K ws.length with h | h
  · refine ⟨ws.set K (ws[K] ^^^ by_), S, ?_, by simp, ?_⟩
    · rw [List.getElem?_append_left h, List.getElem?_eq_getElem h, List.set_append_left _ _ h]; rfl
    · have hx : ws[K] < 18446744073709551616 := hw _ (List.getElem_mem h)
      have e1 : ws = ws.take K ++ ws[K] :: ws.drop (K + 1) := by simp
      have e2 : ∀ y, ws.set K y = ws.take K ++ y :: ws.drop (K + 1) := fun y => by rw [List.set_eq_take_append_cons_drop, if_pos h]
      constructor
      · intro he
        rw [← hS, e2] at he
        have h2 : wsum (ws.take K ++ (ws[K] ^^^ by_) :: ws.drop (K + 1)) = wsum (ws.take K ++ ws[K] :: ws.drop (K + 1)) := by rw [he]; exact congrArg wsum e1
        have := wsum_other _ _ _ _ (fun z hz => hw z (List.mem_of_mem_take hz)) (fun z hz => hw z (List.mem_of_mem_drop hz)) (xor_lt hx hb) hx h2
        exact xor_zero_iff this
      · intro h0
        subst h0
        rw [Nat.xor_zero, List.set_getElem_self, hS]
  · obtain rfl : K = ws.length := by omega
    refine ⟨ws, S ^^^ by_, ?_, rfl, ?_⟩
    · rw [List.getElem?_append_right (Nat.le_refl _), List.set_append_right _ _ (Nat.le_refl _)]
      simp
    · rw [hS]
      constructor
      · intro h0; exact xor_zero_iff h0.symm
      · intro h0; rw [h0, Nat.xor_zero]

theorem row_form {w : World} {base e n : Nat} {v : Value} {xs : List Value} (h : w.ownsRow base e 1 v (n + 1) xs) :
    ∃ g cap, v = .slice (some ⟨g, 0, none⟩) (n + 1) cap ∧ n + 1 ≤ cap ∧ g < w.heap.size ∧ base ≤ g ∧ Reads w (.slice (some ⟨g, 0, none⟩) (n + 1) cap) xs ∧ ∀ j, w.frozen? ⟨g, j, none⟩ = false := by
  have hr := reads_of_owns h
  rcases h.2 with ⟨_, h0⟩ | ⟨g, cap, cur, rfl, hbg, hg, hnc, _⟩
  · exact absurd h0 (by omega)
  · exact ⟨g, cap, rfl, hnc, (Array.getElem?_eq_some_iff.1 hg).1, hbg, hr, fun j => by simp [World.frozen?, hg]⟩

set_option maxRecDepth 100000 in
set_option maxHeartbeats 1000000 in
theorem turned_walk (v : Value) (ws : List Nat) (k : Int) (b : Nat) (w : World) (hv : Reads w v (ints .u64 ws)) (hw : ∀ x ∈ ws, x < 18446744073709551616) (hl : ws.length ≤ 9223372036854775807) (hb : b < 18446744073709551616) :
    Calls Try.prog 7 #[v, .int .i64 k, .int .u64 b] w fun e w' => e = .returned (.bool true) ∧ Below w.heap.size w w' := by
  have hvr := Lib.hid hv
  obtain ⟨L, hL⟩ : ∃ L, ws.length = L := ⟨_, rfl⟩
  obtain ⟨a, cap, rfl, hcap, _⟩ := hv.intsN hL
  by_cases h1 : L ≤ 100
  · have g1 : decide ((L : Int) > 100) = false := by simp; omega
    by_cases h2 : 0 ≤ k
    · obtain ⟨K, rfl⟩ : ∃ K : Nat, k = K := ⟨k.toNat, by omega⟩
      by_cases h3 : K ≤ L
      · have g3 : decide ((K : Int) > (L : Int)) = false := by simp; omega
        have HS := Lib.hid fun (w' : World) (v' : Value) (h : Reads w' v' (ints .u64 ws)) => pseal_any v' ws w' h (by omega)
        obtain ⟨S, hS⟩ : ∃ S, wsum ws = S := ⟨_, rfl⟩
        have HO := Lib.hid fun (w' : World) (v' : Value) (h : Reads w' v' (ints .u64 (ws ++ [S]))) => open_snoc v' ws S w' h (by omega)
        obtain ⟨us, x, hset, hul, hiff⟩ := turned_parts ws S K b hS (by omega) hw hb
        have HU := Lib.hid fun (w' : World) (v' : Value) (h : Reads w' v' (ints .u64 (us ++ [x]))) => open_snoc v' us x w' h (by omega)
        have HWL : Hid (ws.length ≤ 1048576) := Lib.hid (by omega)
        obtain ⟨ts, hts⟩ : ∃ ts, ws ++ [S] = ts := ⟨_, rfl⟩
        have htl : ts.length = L + 1 := by rw [← hts]; simp [hL]
        have htw : ∀ y ∈ ts, y < 18446744073709551616 := by
          intro y hy
          rw [← hts] at hy
          rcases List.mem_append.1 hy with h | h
          · exact hw y h
          · simp at h; rw [h, ← hS]; exact wsum_lt ws
        rw [hS] at HS HO
        rw [hts] at HS HO hset
        obtain ⟨y, hy⟩ : ∃ y, ts[K]?.getD 0 = y := ⟨_, rfl⟩
        have hyl : y < 18446744073709551616 := by rw [← hy, List.getElem?_eq_getElem (by omega)]; exact htw _ (List.getElem_mem _)
        have hxor := u64_xor_nat y b hyl hb
        rw [hy] at hset
        have hset2 : (ints .u64 ts).set K (.int .u64 ((y ^^^ b : Nat) : Int)) = ints .u64 (us ++ [x]) := by rw [← hset]; simp [List.map_set]
        have HSET := Lib.hid hset2
        have hyc : Hid ((ints .u64 ts)[K]? = some (.int .u64 y)) := Lib.hid (by rw [List.getElem?_map, List.getElem?_eq_getElem (by omega), ← hy, List.getElem?_eq_getElem (by omega)]; rfl)
        have HTL := Lib.hid htl
        have tok1 : True := trivial
        have hKL : K < L + 1 := by omega
        have htl2 : ts.length ≤ 1000 := by omega
        clear hset hset2 htl hts hS htw hw hl hv hL hy hul hyl hb
        go_enter Try.func7, Try.ntmps7
        go_wp2_with fail
        refine (HS.out w _ hvr.out).mono ?_
        rintro e w1 ⟨v1, rfl, hr1, hb1⟩
        have hs1 := Lib.hid hr1
        obtain ⟨a1, cap1, rfl, hcap1, _⟩ := hr1.intsN HTL.out
        have hv1 := Lib.hid (hvr.out.below hb1)
        clear hr1
        go_wp2_with fail
        refine (HO.out w1 _ hs1.out).mono ?_
        rintro e w2 ⟨v2, no2, rfl, hb2, ⟨_, rfl, hr2⟩ | ⟨h, _⟩⟩
        case inr => exact absurd rfl h
        have hd2 := Lib.hid hr2
        have hs2 := Lib.hid (hs1.out.below hb2)
        have hv2 := Lib.hid (hv1.out.below hb2)
        have q2 : Below w.heap.size w w2 := hb1.trans (hb2.mono hb1.size)
        clear hr2 hs1 hv1 hb1 hb2
        go_wp2_with (go_at_call 19; refine (num_any _ _).mono ?_; rintro e w' ⟨rfl, rfl⟩)
        refine (same_any _ _ ws ws _ hd2.out hv2.out HWL.out HWL.out).mono ?_
        rintro e w3 ⟨rfl, n3, rfl⟩
        have hs3 := Lib.hid (Reads.drewN hs2.out n3)
        have q3 : Below w.heap.size w (w2.drewN n3) := Below.drewN q2 n3
        obtain ⟨w3, hw3⟩ : ∃ w3, w2.drewN n3 = w3 := ⟨_, rfl⟩
        rw [hw3] at hs3 q3 ⊢
        clear hw3 hs2 hv2 hd2 q2
        go_wp2_with (at_builtin; have _t := tok1; go_must (refine list_appall El64 rfl rfl (by first | (simp [Act.eval]; done) | (simp [Act.eval]; exact ⟨rfl, rfl⟩) | (simp [Act.eval]; rfl)) (by first | (simp [Act.eval]; done) | (simp [Act.eval]; exact ⟨rfl, rfl⟩) | (simp [Act.eval]; rfl)) (owns_empty _ _ _ (Nat.le_refl _)) (hs3.out.alloc _) (ints_one _ _) (by simp [maxLen]; omega) (by simp; omega) (by first | (simp; done) | (simp; omega) | omega) ?_); intro v4 w4 hown4 hgr4; clear tok1 _t; have hb4 := copy_below hgr4; clear hgr4; rw [List.length_map, HTL.out, Nat.zero_add, List.nil_append] at hown4; obtain ⟨g, cp, rfl, hcp, hglt, hgb, hr4, hf4⟩ := row_form hown4; have hk4 : w4.cell? ⟨g, K, none⟩ = some (.int .u64 y) := (by have h := hown4.cells (g := g) rfl K _ hyc.out; simpa [Addr.add_lit] using h); have hfk := hf4 K; have HR4 := Lib.hid hr4; clear hr4 hf4 hown4)
        have hr5 : Reads (w4.setCell ⟨g, K, none⟩ (.int .u64 ((y ^^^ b : Nat) : Int))) (.slice (some ⟨g, 0, none⟩) (L + 1) cp) (ints .u64 (us ++ [x])) := by
          have h := Reads.set HR4.out K (by rw [List.length_map, HTL.out]; exact hKL) (.int .u64 ((y ^^^ b : Nat) : Int))
          rwa [HSET.out] at h
        have q5 : Below w.heap.size w (w4.setCell ⟨g, K, none⟩ (.int .u64 ((y ^^^ b : Nat) : Int))) := q3.trans ((hb4.setCell (p := ⟨g, K, none⟩) hgb _).mono q3.size)
        refine (HU.out _ _ hr5).mono ?_
        rintro e w6 ⟨v6, no6, rfl, hb6, hor⟩
        have q6 := q5.trans (hb6.mono q5.size)
        have hno : (no6 = 0 ∧ b = 0) ∨ (no6 = 130 ∧ b ≠ 0) := by
          rcases hor with ⟨h, h', _⟩ | ⟨h, h', _⟩
          · exact .inl ⟨h', hiff.1 h⟩
          · exact .inr ⟨h', fun e => h (hiff.2 e)⟩
        clear hor hiff HU HO HS hr5 hb6 HR4 hk4 hfk hb4 hxor
        rcases hno with ⟨rfl, rfl⟩ | ⟨rfl, hne⟩
        · go_wp2_with (first | (go_at_call 19; refine (num_any _ _).mono ?_; rintro e w' ⟨rfl, rfl⟩) | (go_at_call 8; refine (works_any _).mono ?_; rintro e w7 ⟨rfl, hb7⟩))
          go_ret
          exact ⟨rfl, q6.trans (hb7.mono q6.size)⟩
        · have hne2 : ((b : Int) != 0) = true := by simp; omega
          go_wp2_with (first | (go_at_call 19; refine (num_any _ _).mono ?_; rintro e w' ⟨rfl, rfl⟩) | (go_at_call 8; refine (works_any _).mono ?_; rintro e w7 ⟨rfl, hb7⟩))
          go_ret
          exact ⟨rfl, q6.trans (hb7.mono q6.size)⟩
      · have g3 : decide ((K : Int) > (L : Int)) = true := by simp; omega
        clear hv
        go_enter Try.func7, Try.ntmps7
        go_wp2_with (go_at_call 8; refine (works_any _).mono ?_; rintro e w6 ⟨rfl, hb6⟩)
        go_ret
        exact ⟨rfl, hb6⟩
    · have g2 : decide (k < 0) = true := by simp; omega
      clear hv
      go_enter Try.func7, Try.ntmps7
      go_wp2_with (go_at_call 8; refine (works_any _).mono ?_; rintro e w6 ⟨rfl, hb6⟩)
      go_ret
      exact ⟨rfl, hb6⟩
  · have g1 : decide ((L : Int) > 100) = true := by simp; omega
    clear hv
    go_enter Try.func7, Try.ntmps7
    go_wp2_with (go_at_call 8; refine (works_any _).mono ?_; rintro e w6 ⟨rfl, hb6⟩)
    go_ret
    exact ⟨rfl, hb6⟩
end Go.Proofs.Ytfmeoogokgepaaa
