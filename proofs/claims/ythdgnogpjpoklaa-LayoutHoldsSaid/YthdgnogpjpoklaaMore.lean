/- More, Sum, Words: of the program and of the document. -/
import Derived.Test.YthdgnogpjpoklaaReg
namespace Go.Proofs.Ythdgnogpjpoklaa
set_option linter.unusedVariables false
set_option linter.unusedSimpArgs false
open Go.RowKit Go.Shelf
attribute [local go_sem] Oper.semAt_some

theorem each_any (v : Value) (n cap : Nat) (a : Option Addr) (hv : v = .slice a n cap) (w : World) : Calls Try.prog 55 #[v] w fun e w' => e = .returned (.func (.func 58) #[] #[.pointer (some ⟨w.heap.size, 0, none⟩)]) ∧ w' = w.alloc (.cells #[v] 83) := by
  subst hv
  go_enter Try.func55, Try.ntmps55
  go_wp2
  go_ret
  exact ⟨rfl, rfl⟩

theorem more_any (s : Nat) (v : Value) (bs : List Nat) (w : World) (hs : s < 18446744073709551616) (hv : Reads w v (ints .u8 bs)) (hb : ∀ x ∈ bs, x < 256) (hlen : bs.length ≤ 9223372036854775807) :
    Calls Try.prog 52 #[.int .u64 s, v] w fun e w' => e = .returned (.int .u64 (more s bs)) ∧ Below w.heap.size w w' := by
  obtain ⟨n, hnl⟩ : ∃ n, bs.length = n := ⟨_, rfl⟩
  have hr := Lib.hid hv
  obtain ⟨a, cap, rfl, hcap, hcells⟩ := hv.intsN hnl
  obtain ⟨s0, hs0⟩ : ∃ s0, notU s = s0 := ⟨_, rfl⟩
  have hs0l : s0 < 18446744073709551616 := by rw [← hs0]; exact notU_lt s
  have hmore : Hid (more s bs = notU (crcL s0 bs)) := Lib.hid (by rw [← hs0]; rfl)
  have hcl := crcL_lt hs0l bs hb
  have hen := enter_any s hs
  rw [hs0] at hen
  have hpl : ∀ pre c, Part (fun xs => xs = bs) (pre ++ [c]) → crcL s0 pre < 18446744073709551616 ∧ c < 256 := by
    rintro pre c ⟨_, rfl, t, ht⟩
    refine ⟨crcL_lt hs0l pre (fun x hx => hb x (by rw [← ht]; simp [hx])), hb c (by rw [← ht]; simp)⟩
  clear hv hs0
  refine calls_marks Try.func52 rfl ?_
  simp only [Try.ntmps52, List.size_toArray, List.length_cons, List.length_nil, Nat.reduceAdd, Nat.reduceSub, Array.replicate_succ, Array.replicate_zero, List.push_toArray, List.append_toArray, List.nil_append, List.cons_append, List.append_nil]
  go_wp2_with (first
    | (go_at_call 54; refine (hen _).mono ?_; rintro e w1 ⟨rfl, rfl⟩)
    | (go_at_call 55; refine (each_any _ n cap a rfl _).mono ?_; rintro e w2 ⟨rfl, rfl⟩))
  refine (wpIn_wide (n := 3)).1 ?_
  obtain ⟨W0, hW0⟩ : ∃ W0, (w.alloc (.cells #[.int .u64 s0] 88)).alloc (.cells #[.slice a n cap] 83) = W0 := ⟨_, rfl⟩
  have hsz : W0.heap.size = w.heap.size + 2 := by rw [← hW0]; simp
  have hB0 : Below w.heap.size w W0 := by rw [← hW0]; exact (by repeat (first | exact Below.refl _ _ | assumption | refine Below.drewN ?_ _ | refine Below.drew ?_ | refine Below.alloc ?_ (by first | omega | (simp; done) | (simp; omega)) _))
  have hc1 := box_alloc (box_new w (.int .u64 s0) 88) (.cells #[.slice a n cap] 83)
  have hc2 := box_new (w.alloc (.cells #[.int .u64 s0] 88)) (.slice a n cap) 83
  rw [World.size_alloc] at hc2
  rw [hW0] at hc1 hc2 ⊢
  have hr0 := hr.out.below hB0
  have hD : ∀ k, (0 < n ∧ ∃ x : Addr, a = some x ∧ k = x.block) → k < w.heap.size := by
    rintro k ⟨h0, x, rfl, rfl⟩
    obtain ⟨b, off, e, hlt, _⟩ := hcells h0
    cases e
    exact hlt
  obtain ⟨B, hBe⟩ : ∃ B, w.heap.size = B := ⟨_, rfl⟩
  have hbg := bytes_gives (w.heap.size + 1) n cap a bs W0 (by omega) hc2.1 hr0 hnl (by omega)
  rw [hBe] at hc1 hbg ⊢
  refine range_break (id := 0) (gf := 58) (lb := #[.pointer (some ⟨B + 1, 0, none⟩)]) rfl (enters_of Try.func58 (by kernel_rfl) rfl) hbg (Below.refl _ _) (fun k e => by have := hD k e; omega) (fun _ => rfl)
    (fun m pre W' => (W'.cell? ⟨B, 0, none⟩ = some (.int .u64 (crcL s0 pre : Nat)) ∧ W'.frozen? ⟨B, 0, none⟩ = false) ∧ Below B w W')
    (fun _ _ _ => False)
    (fun W' => W'.cell? ⟨B, 0, none⟩ = some (.int .u64 (crcL s0 bs : Nat)) ∧ Below B w W')
    (fun m => Abides.and (Abides.cell (b := ⟨B, 0, none⟩) (show B < W0.heap.size by omega) (fun (pre : List Nat) => .int .u64 ((crcL s0 pre : Nat) : Int))) (Abides.below (by omega) (by omega)))
    (fun m _ _ _ h _ => h)
    (fun m => ⟨hc1, by rw [← hBe]; exact hB0⟩)
    (fun c a' _ => a' = { tmps := #[.int .u64 (s : Int), .slice a n cap, undef, undef, .int .u64 0, .pointer (some ⟨B, 0, none⟩), .int .u8 (c : Int), .int .u64 (s : Int), .int .u64 (s0 : Int), .slice a n cap, .func (.func 58) #[] #[.pointer (some ⟨B + 1, 0, none⟩)], .int .u8 (c : Int), undef, undef, undef], defers := [] })
    (fun _ _ _ _ _ _ hs _ _ => hs)
    (fun m xs W' hS hi => by subst hS; exact ⟨hi.1.1, hi.2⟩)
    (fun m pre W' hp hi => hi.elim) ?assign ?body ?after
  case assign =>
    intro l' m pre c Wr K _ hi hK
    gi_wp2
    exact hK _ _ (.refl _ _ _) (.refl _ _) hi (by simp)
  case body =>
    rintro l' m pre c a' Wr hm _ _ ⟨⟨hc, hf⟩, hBl⟩ rfl hpart
    obtain ⟨hq, hcl8⟩ := hpl pre c hpart
    obtain ⟨q, hqe⟩ : ∃ q, crcL s0 pre = q := ⟨_, rfl⟩
    rw [hqe] at hc hq
    have htk := take_any B q c Wr hq hcl8 hc hf
    have hsn : crcL s0 (pre ++ [c]) = crcByte q c := by rw [crcL_snoc, hqe]
    have HSN := Lib.hid hsn
    clear hsn hqe hpl
    gi_wp2_with (refine ⟨trivial, ?_⟩; gi_at_call 56; refine (CallsIn.inRound l' (callsIn_wide.2 htk)).mono ?_; rintro e W' ⟨⟨v, rfl⟩, hg', hc', hf'⟩)
    exact ⟨.of_grown hg' (by omega), .of_grown hg' (fun k hk => ⟨by have := hD k hk; have := hBl.size; omega, by have := hD k hk; omega⟩), ⟨by rw [HSN.out]; exact hc', hf'⟩, hBl.grown hg' (by have := hBl.size; omega) (fun k e => by cases e; exact Nat.le_refl _)⟩
  case after =>
    rintro E Wd hE ⟨hc, hBl⟩ hK
    have hsm := sum_any B (crcL s0 bs) Wd hcl hc
    rw [← hmore.out] at hsm
    go_wp2_with (go_at_call 57; refine hsm.mono ?_; rintro e w' ⟨rfl, rfl⟩)
    refine ⟨by simp, .inl ⟨_, _, rfl, run_takeDeferred hK, ?_⟩⟩
    exact ⟨_, results_tmp rfl _ _ _, rfl, by rw [← hBe] at hBl; exact taken_below hBl (by omega)⟩
end Go.Proofs.Ythdgnogpjpoklaa
