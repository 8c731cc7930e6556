/- What the statements' walks use: So26, So27, So28, So29, So30, So31, So32, So35. -/

import Derived.Test.YtfpcpnodcdgbdaaMrd
/- slots: the document's Tidy. -/
namespace Go.Proofs.Ytfpcpnodcdgbdaa
set_option linter.unusedVariables false
set_option linter.unusedSimpArgs false
open Go.RowKit Go.Shelf
theorem shK_nn {s : List Nat} {d : Nat} : ∀ {k : Nat}, ∀ p ∈ shK s d k, 0 ≤ p.1
  | 0, p, h => by simp [shK] at h
  | k + 1, p, h => by
    unfold shK at h
    rcases List.mem_append.1 h with h | h
    · exact shK_nn p h
    · simp only [List.mem_cons, List.not_mem_nil, or_false] at h
      rcases h with rfl | rfl <;> exact Int.natCast_nonneg _
theorem shL_nn {s : List Nat} {d m : Nat} : ∀ p ∈ shL s d m, 0 ≤ p.1 := fun p h => by
  unfold shL at h
  rcases List.mem_append.1 h with h | h
  · exact shK_nn p h
  · rw [List.mem_singleton.1 h]; exact Int.natCast_nonneg _
theorem zrK_nn {s : List Nat} : ∀ {t : Nat}, ∀ p ∈ zrK s t, 0 ≤ p.1
  | 0, p, h => by simp [zrK] at h
  | t + 1, p, h => by
    unfold zrK at h
    rcases List.mem_append.1 h with h | h
    · exact zrK_nn p h
    · split at h
      · simp at h
      · rw [List.mem_singleton.1 h]; exact Int.natCast_nonneg _
theorem disj_new {β : Type} {enc : β → List Value} {k base e A : Nat} {ts : List β} {w : World} {v v3 : Value} (hol : v.ownBlock = none ∨ ∃ b, v.ownBlock = some b ∧ b < A) (o3 : OwnsT enc k w base e v3 ts) (h : A ≤ base) : ∀ g, v.ownBlock = some g → v3.ownBlock ≠ some g := fun g hg h3 => by
  have := own_ge o3 g h3
  rcases hol with e | ⟨b, e, hb⟩
  · rw [e] at hg; cases hg
  · rw [e] at hg; cases hg; omega
set_option maxRecDepth 100000
set_option maxHeartbeats 8000000
theorem dtidy_any (left n : Nat) (v : Value) (s : List Nat) (w : World) (hv : ReadsT uE 1 w v s) (hn : s.length = n) (h : n ≤ 1048576) : Calls Try.prog 27 #[.int .u64 (left : Int), v] w (chQ (tidyF left s) w) := by
  have q := Below.refl w.heap.size w
  obtain ⟨a, c, rfl, hc⟩ := hv.form hn
  have hvF : ∀ X, Below w.heap.size w X → ReadsT uE 1 X (.slice a n c) s := fun X b => hv.up b
  clear hv
  have hcT : ∀ x : List Nat, x.length = n → ¬ noRow left n → setP left x → checkF left x = 0 := fun x hx h1 h2 => by unfold checkF; rw [hx, if_neg h1, if_pos h2]
  have hcF : ∀ x : List Nat, x.length = n → ¬ noRow left n → ¬ setP left x → checkF left x = 190 := fun x hx h1 h2 => by unfold checkF; rw [hx, if_neg h1, if_neg h2]
  unfold tidyF
  rw [hn]
  by_cases h1 : noRow left n
  · rw [if_pos h1]
    refine X.fn Try.func27 rfl (n := 74) rfl rfl ?_
    refine CC.seq ?_
    refine CC.region ?_
    refine LL.val (R.assign rfl rfl) rfl rfl rfl ?_
    refine LL.val (R.assign rfl rfl) rfl rfl rfl ?_
    refine LL.nilS ?_
    refine CC.seq ?_
    refine CC.seq ?_
    refine CC.region ?_
    refine LL.val (R.move rfl rfl) rfl rfl rfl ?_
    refine LL.val (R.move rfl rfl) rfl rfl rfl ?_
    refine LL.call (R.call rfl rfl rfl) rfl rfl rfl (dright_F _ _ _ _ _ (by first | assumption | omega) (by first | assumption | omega)) ?_
    rintro e W' ⟨rfl, rfl⟩
    refine ⟨_, rfl, ?_⟩
    refine LL.val (R.not rfl rfl) rfl rfl rfl ?_
    refine LL.nilS ?_
    refine CC.yes rfl ?_
    refine CC.seq ?_
    refine CC.region ?_
    refine LL.val (R.assign rfl rfl) rfl rfl rfl ?_
    refine LL.val (R.assign rfl rfl) rfl rfl rfl ?_
    refine LL.nilS ?_
    refine CC.ret ?_
    refine EE.thenR ?_
    refine EE.ret _ rfl rfl ?_
    exact ⟨_, rfl, OwnsT.none _ _ _, q⟩
  rw [if_neg h1]
  have hrow := noRow_not h1
  replace hcT := fun x hx => hcT x hx h1
  replace hcF := fun x hx => hcF x hx h1
  clear h1
  refine X.fn Try.func27 rfl (n := 74) rfl rfl ?_
  refine CC.seq ?_
  refine CC.region ?_
  refine LL.val (R.assign rfl rfl) rfl rfl rfl ?_
  refine LL.val (R.assign rfl rfl) rfl rfl rfl ?_
  refine LL.nilS ?_
  refine CC.seq ?_
  refine CC.seq ?_
  refine CC.region ?_
  refine LL.val (R.move rfl rfl) rfl rfl rfl ?_
  refine LL.val (R.move rfl rfl) rfl rfl rfl ?_
  refine LL.call (R.call rfl rfl rfl) rfl rfl rfl (dright_T _ _ _ _ _ (by first | assumption | omega)) ?_
  rintro e W' ⟨rfl, rfl⟩
  refine ⟨_, rfl, ?_⟩
  refine LL.val (R.not rfl rfl) rfl rfl rfl ?_
  refine LL.nilS ?_
  refine CC.no rfl ?_
  refine CC.skip ?_
  refine EE.thenN ?_
  refine CC.seq ?_
  refine CC.region ?_
  refine LL.val (R.assign rfl rfl) rfl rfl rfl ?_
  refine LL.nilS ?_
  refine CC.seq ?_
  refine CC.region ?_
  refine LL.lit (e := 22) [] 0 rfl rfl (fun _ => by kernel_rfl) rfl rfl ?_
  intro Wa2 ga3 ega3 ra4 za5 ba1
  replace q := q.trans (ba1.mono q.size)
  refine LL.val (R.move rfl rfl) rfl rfl rfl ?_
  (refine LL.appendT2 rfl rfl uEnc ElU (RowL.ownsT (base := w.heap.size) uEnc (ts := []) (by assumption) (by omega) (by simp)) (us := s) (hvF _ q) (by simp [maxLen]; omega) (by simp; omega) (by have := q.size; omega) rfl rfl ?_; intro v' Wa oa gra hva; replace q := q.grown gra q.size (fun g hg => by cases hg; dsimp only; omega); clear hva gra; have o1 := oa; clear oa; rw [List.nil_append] at o1)
  refine LL.val (R.assign rfl rfl) rfl rfl rfl ?_
  refine LL.nilS ?_
  refine CC.seq ?_
  refine CC.seq ?_
  refine CC.region ?_
  refine LL.val (R.assign rfl rfl) rfl rfl rfl ?_
  refine LL.nilS ?_
  refine CC.block ?_
  have yq := q.size
  have e00 : tidyA left s = [] ++ tdO left (overN s) s := rfl
  have hovs := over_le s
  refine CC.loop (α := List Pt × Nat × Value × Value) (fun x => [(0, .int .u64 (left : Int)), (6, x.2.2.1), (7, x.2.2.2), (8, .int .i64 (x.2.1 : Int))])
    (fun x W => tidyA left s = x.1 ++ tdO left (overN (applyS s x.1)) (applyS s x.1) ∧ x.2.1 + overN (applyS s x.1) ≤ 28 ∧ Below w.heap.size w W ∧ OwnsT pE 2 W w.heap.size 59 x.2.2.1 x.1 ∧ OwnsT uE 1 W w.heap.size 22 x.2.2.2 (applyS s x.1) ∧ ∀ g, x.2.2.1.ownBlock = some g → x.2.2.2.ownBlock ≠ some g) (fun x => 30 - x.2.1)
    ([], 0, .slice none 0 0, v') ⟨rfl, rfl, rfl, rfl, trivial⟩ ⟨e00, by show 0 + overN s ≤ 28; omega, q, OwnsT.none _ _ _, o1, fun g hg => (by cases hg)⟩ ?_
  clear q o1 e00
  rintro ⟨l, t, vl, vw⟩ W ⟨e0, ht, q, o0, o1, hd⟩
  simp only at e0 ht o0 o1 hd
  have yq := q.size
  show CC none Try.prog _ 74 [] (sl [(0, .int .u64 (left : Int)), (6, vl), (7, vw), (8, .int .i64 (t : Int))]) _ W
  have ll : l.length ≤ 1600 := by
    have h1 := congrArg List.length e0
    have h2 := tdO_len (left := left) (f := overN s) (s := s) (by omega)
    unfold tidyA at h1
    rw [List.length_append] at h1
    have h3 : overN s * 56 ≤ 28 * 56 := Nat.mul_le_mul_right _ (by omega)
    omega
  obtain ⟨sx, esx⟩ : ∃ sx, applyS s l = sx := ⟨_, rfl⟩
  have hln : sx.length = n := by rw [← esx, applyS_len]; exact hn
  rw [esx] at o1 e0 ht
  obtain ⟨gw, cw, rfl, hgw1, hgw2, hcw⟩ := ownsT_form o1 hln (by omega)
  have hov := over_le sx
  cases hdb : dblO left sx with
  | some d =>
    have hd1 := (dblO_some hdb).1
    have hst := tdO_step hdb
    have hso := shL_over (left := left) hd1
    have hll := shL_len sx d _ hd1
    rw [hst, ← List.append_assoc] at e0
    have e1 : applyS sx (shL sx d (overN sx)) = applyS s (l ++ shL sx d (overN sx)) := by rw [applyS_app, esx]
    have hnn : ∀ p ∈ shL sx d (overN sx), 0 ≤ p.1 := shL_nn
    rw [e1] at e0 hso
    clear hst
    obtain ⟨am, cm, rfl, hcm⟩ := (o0.reads pEnc).form rfl
    have hol := own_lt o0
    clear hcT hcF
    obtain ⟨sd, esd⟩ : ∃ sd, shL sx d (overN sx) = sd := ⟨_, rfl⟩
    rw [esd] at e0 hso hll e1 hnn
    have hSh : ∀ X, ReadsT uE 1 X (.slice (some ⟨gw, 0, none⟩) n cw) sx → Calls Try.prog 54 #[.slice (some ⟨gw, 0, none⟩) n cw, .int .i64 (d : Int), .int .i64 (overN sx : Int)] X fun e w' => ∃ vo, e = .returned vo ∧ OwnsT pE 2 w' X.heap.size 59 vo sd ∧ Below X.heap.size X w' := fun X hX => by
      have := dshift_any n d (overN sx) _ sx X hX hln (by omega) hd1 (by omega)
      rw [esd] at this
      exact this
    refine CC.seq ?_
    refine CC.seq ?_
    refine CC.region ?_
    refine LL.val (R.move rfl rfl) rfl rfl rfl ?_
    refine LL.val (R.ltT rfl rfl rfl (by omega)) rfl rfl rfl ?_
    refine LL.nilS ?_
    refine CC.yes rfl ?_
    refine CC.skip ?_
    refine EE.thenN ?_
    refine CC.seq ?_
    refine CC.block ?_
    refine CC.seq ?_
    refine CC.region ?_
    refine LL.val (R.move rfl rfl) rfl rfl rfl ?_
    refine LL.val (R.move rfl rfl) rfl rfl rfl ?_
    (refine LL.call (R.call rfl rfl rfl) rfl rfl rfl (dempty_any left n _ sx _ (o1.reads uEnc) hln (by omega)) ?_; rintro e Wb88 ⟨z, rfl, hz1, hz2, bb85⟩; obtain rfl : z = (d : Int) := hz1 d hdb; clear hz1 hz2; refine ⟨_, rfl, ?_⟩)
    have zbb85 := bb85.size
    replace q := q.trans (bb85.mono q.size)
    replace o1 := o1.up bb85
    replace o0 := o0.up bb85
    refine LL.val (R.assign rfl rfl) rfl rfl rfl ?_
    refine LL.nilS ?_
    refine CC.seq ?_
    refine CC.seq ?_
    refine CC.region ?_
    refine LL.val (R.move rfl rfl) rfl rfl rfl ?_
    refine LL.val (R.ltF rfl rfl rfl (by omega)) rfl rfl rfl ?_
    refine LL.nilS ?_
    refine CC.no rfl ?_
    refine CC.skip ?_
    refine EE.thenN ?_
    refine CC.seq ?_
    refine CC.region ?_
    refine LL.val (R.move rfl rfl) rfl rfl rfl ?_
    refine LL.val (R.move rfl rfl) rfl rfl rfl ?_
    refine LL.val (R.move rfl rfl) rfl rfl rfl ?_
    (refine LL.call (R.call rfl rfl rfl) rfl rfl rfl (draw_any _ _ _ sx _ (o1.reads uEnc) hln (by omega)) ?_; rintro e W' ⟨rfl, rfl⟩; refine ⟨_, rfl, ?_⟩)
    (refine LL.call (R.call rfl rfl rfl) rfl rfl rfl (hSh _ (o1.reads uEnc)) ?_; rintro e Wb235 ⟨v2, rfl, o2, bb232⟩; obtain ⟨a2, c2, rfl, hc2⟩ := (o2.reads pEnc).form rfl; refine ⟨_, rfl, ?_⟩)
    have zbb232 := bb232.size
    replace bb85 := bb85.trans (bb232.mono bb85.size)
    replace q := q.trans (bb232.mono q.size)
    replace o1 := o1.up bb232
    replace o0 := o0.up bb232
    refine LL.val (R.assign rfl rfl) rfl rfl rfl ?_
    refine LL.nilS ?_
    refine CC.seq ?_
    refine CC.region ?_
    refine LL.val (R.move rfl rfl) rfl rfl rfl ?_
    refine LL.val (R.move rfl rfl) rfl rfl rfl ?_
    (refine LL.call (R.call rfl rfl rfl) rfl rfl rfl (dapply_any n _ _ sx sd _ (o1.reads uEnc) hln (by omega) (o2.reads pEnc) (by omega) hnn) ?_; rintro e Wb319 ⟨v3, rfl, o3, bb316⟩; refine ⟨_, rfl, ?_⟩; rw [e1] at o3; clear o1 hd)
    have zbb316 := bb316.size
    replace bb232 := bb232.trans (bb316.mono bb232.size)
    replace o2 := o2.up bb316
    replace bb85 := bb85.trans (bb316.mono bb85.size)
    replace q := q.trans (bb316.mono q.size)
    replace o0 := o0.up bb316
    refine LL.val (R.assign rfl rfl) rfl rfl rfl ?_
    refine LL.nilS ?_
    refine CC.region ?_
    refine LL.val (R.move rfl rfl) rfl rfl rfl ?_
    refine LL.val (R.move rfl rfl) rfl rfl rfl ?_
    (refine LL.appendT2 rfl rfl pEnc ElPut o0 (us := sd) (o2.reads pEnc) (by simp only [maxLen]; omega) (by omega) (by have := q.size; omega) rfl rfl ?_; intro v' Wa oa gra hva; have hd0 := disj_new hol o3 (by omega); have hd := own_new2 hva hd0 o3; replace o3 := o3.apart2 gra (own_disj hd0); replace q := q.grown gra q.size (fun g hg => by have := own_ge o0 g hg; omega); clear o0 hva gra o2 hd0 hol; have o0 := oa; clear oa)
    refine LL.val (R.assign rfl rfl) rfl rfl rfl ?_
    refine LL.nil ?_
    refine EE.inN ?_
    refine EE.thenN ?_
    refine CC.region ?_
    refine LL.val (R.move rfl rfl) rfl rfl rfl ?_
    refine LL.val (R.addNc rfl rfl rfl rfl (by omega)) rfl rfl rfl ?_
    refine LL.val (R.assign rfl rfl) rfl rfl rfl ?_
    refine LL.nil ?_
    exact EE.round (l ++ sd, t + 1, _, _) ⟨rfl, rfl, rfl, rfl, trivial⟩ ⟨e0, by dsimp only; omega, q, o0, o3.lower (by omega), hd⟩ (by show 30 - (t + 1) < 30 - t; omega)
  | none =>
    have eA : tidyA left s = l := by rw [e0, tdO_none hdb, List.append_nil]
    clear e0
    have hol0 := own_lt o0
    have hol1 : (Value.slice (some ⟨gw, 0, none⟩) n cw).ownBlock = none ∨ ∃ b, (Value.slice (some ⟨gw, 0, none⟩) n cw).ownBlock = some b ∧ b < W.heap.size := .inr ⟨gw, rfl, hgw2⟩
    refine CC.seq ?_
    refine CC.seq ?_
    refine CC.region ?_
    refine LL.val (R.move rfl rfl) rfl rfl rfl ?_
    refine LL.val (R.ltT rfl rfl rfl (by omega)) rfl rfl rfl ?_
    refine LL.nilS ?_
    refine CC.yes rfl ?_
    refine CC.skip ?_
    refine EE.thenN ?_
    refine CC.seq ?_
    refine CC.block ?_
    refine CC.seq ?_
    refine CC.region ?_
    refine LL.val (R.move rfl rfl) rfl rfl rfl ?_
    refine LL.val (R.move rfl rfl) rfl rfl rfl ?_
    (refine LL.call (R.call rfl rfl rfl) rfl rfl rfl (dempty_any left n _ sx _ (o1.reads uEnc) hln (by omega)) ?_; rintro e Wc32 ⟨z, rfl, hz1, hz2, bc29⟩; obtain rfl : z = -1 := hz2 hdb; clear hz1 hz2; refine ⟨_, rfl, ?_⟩)
    have zbc29 := bc29.size
    replace q := q.trans (bc29.mono q.size)
    replace o0 := o0.up bc29
    replace o1 := o1.up bc29
    refine LL.val (R.assign rfl rfl) rfl rfl rfl ?_
    refine LL.nilS ?_
    refine CC.seq ?_
    refine CC.seq ?_
    refine CC.region ?_
    refine LL.val (R.move rfl rfl) rfl rfl rfl ?_
    refine LL.val (R.ltT rfl rfl rfl (by omega)) rfl rfl rfl ?_
    refine LL.nilS ?_
    refine CC.yes rfl ?_
    refine CC.exit ?_
    refine EE.thenX ?_
    refine EE.inX' rfl ?_
    refine EE.thenX ?_
    refine EE.thenX ?_
    refine EE.inX ?_
    refine EE.thenN ?_
    refine CC.seq ?_
    refine CC.region ?_
    refine LL.val (R.assign rfl rfl) rfl rfl rfl ?_
    refine LL.nilS ?_
    refine CC.seq ?_
    refine CC.seq ?_
    refine CC.region ?_
    refine LL.val (R.move rfl rfl) rfl rfl rfl ?_
    refine LL.val (R.len rfl rfl rfl rfl) rfl rfl rfl ?_
    refine LL.val (R.quoNc rfl rfl rfl rfl (by omega) (by omega)) rfl rfl rfl ?_
    refine LL.val (R.subNc rfl rfl rfl rfl (by omega) (by omega)) rfl rfl rfl ?_
    refine LL.val (R.assign rfl rfl) rfl rfl rfl ?_
    refine LL.nilS ?_
    refine CC.block ?_
    clear hdb
    have hZ : tidyZ left s = zrK sx (n / 2 - 1 - overN sx) := by unfold tidyZ; rw [eA, esx, hn]
    have hL : tidyL left s = l ++ zrK sx (n / 2 - 1 - overN sx) := by unfold tidyL; rw [eA, hZ]
    have hAp : applyS s (tidyL left s) = applyS sx (zrK sx (n / 2 - 1 - overN sx)) := by rw [hL, applyS_app, esx]
    rw [hAp, hL]
    have yb := q.size
    refine CC.loop (α := Nat × Value × Nat) (fun x => [(0, .int .u64 (left : Int)), (6, vl), (7, .slice (some ⟨gw, 0, none⟩) n cw), (11, x.2.1), (12, .int .i64 (x.2.2 : Int))])
      (fun x X => x.1 + x.2.2 = n / 2 - 1 ∧ (overN sx ≤ x.2.2 ∨ x.1 = 0) ∧ Below w.heap.size w X ∧ W.heap.size ≤ X.heap.size ∧ OwnsT pE 2 X w.heap.size 59 vl l ∧ OwnsT uE 1 X w.heap.size 22 (.slice (some ⟨gw, 0, none⟩) n cw) sx ∧ OwnsT pE 2 X W.heap.size 59 x.2.1 (zrK sx x.1)) (fun x => x.2.2)
      (0, .slice none 0 0, n / 2 - 1) ⟨rfl, rfl, rfl, rfl, rfl, trivial⟩ ⟨by dsimp only; omega, .inr rfl, q, by omega, o0, o1, OwnsT.none _ _ _⟩ ?_
    clear q o0 o1
    rintro ⟨t, vz, j⟩ X ⟨htj, hoj, q, zX, o0, o1, o2⟩
    simp only at htj hoj o2
    have yx := q.size
    show CC none Try.prog _ 74 [] (sl [(0, .int .u64 (left : Int)), (6, vl), (7, .slice (some ⟨gw, 0, none⟩) n cw), (11, vz), (12, .int .i64 (j : Int))]) _ X
    have hzl := zrK_len sx t
    have hpw : X.heap.size = X.heap.size := rfl
    clear hpw
    by_cases hjo : overN sx < j
    · obtain ⟨x, hx⟩ : ∃ x, ptrN sx j = x := ⟨_, rfl⟩
      have c1 : X.cell? ⟨gw, 0 + (2 * j + 1), none⟩ = some (.int .u64 (ptrN sx j : Int)) := by
        obtain ⟨b, o, ea, lb, m1⟩ := u_at (o1.reads uEnc) (ptrN_at (s := sx) (j := j) (by omega))
        cases ea
        exact m1 X (Below.refl _ _)
      have e : zrK sx (t + 1) = zrK sx t ++ (if ptrN sx j = 0 then [] else [(((2 * j + 1 : Nat) : Int), 0)]) := by
        conv => lhs; unfold zrK
        rw [show sx.length / 2 - 1 - t = j by omega]
      by_cases hx0 : ptrN sx j = 0
      · rw [if_pos hx0, List.append_nil] at e
        refine CC.seq ?_
        refine CC.seq ?_
        refine CC.region ?_
        refine LL.val (R.move rfl rfl) rfl rfl rfl ?_
        refine LL.val (R.move rfl rfl) rfl rfl rfl ?_
        (refine LL.call (R.call rfl rfl rfl) rfl rfl rfl (draw_any _ _ _ sx _ (o1.reads uEnc) hln (by omega)) ?_; rintro e W' ⟨rfl, rfl⟩; refine ⟨_, rfl, ?_⟩)
        refine LL.val (R.gtT rfl rfl rfl (by omega)) rfl rfl rfl ?_
        refine LL.nilS ?_
        refine CC.yes rfl ?_
        refine CC.skip ?_
        refine EE.thenN ?_
        refine CC.seq ?_
        refine CC.block ?_
        refine CC.seq ?_
        refine CC.region ?_
        refine LL.val (R.move rfl rfl) rfl rfl rfl ?_
        refine LL.val (R.move rfl rfl) rfl rfl rfl ?_
        refine LL.val (R.mulcN rfl rfl rfl rfl (by omega)) rfl rfl rfl ?_
        refine LL.val (R.addNc rfl rfl rfl rfl (by omega)) rfl rfl rfl ?_
        refine LL.val (R.index rfl rfl rfl (I.ixS1 rfl (by omega))) rfl rfl rfl ?_
        refine LL.val (R.load rfl rfl (I.ld1 rfl (by assumption))) rfl rfl rfl ?_
        refine LL.val (R.neF rfl rfl rfl (by omega)) rfl rfl rfl ?_
        refine LL.nilS ?_
        refine CC.no rfl ?_
        refine CC.skip ?_
        refine EE.inN ?_
        refine EE.thenN ?_
        refine CC.region ?_
        refine LL.val (R.move rfl rfl) rfl rfl rfl ?_
        refine LL.val (R.subNc rfl rfl rfl rfl (by omega) (by omega)) rfl rfl rfl ?_
        refine LL.val (R.assign rfl rfl) rfl rfl rfl ?_
        refine LL.nil ?_
        exact EE.round (t + 1, _, j - 1) ⟨rfl, rfl, rfl, rfl, rfl, trivial⟩ ⟨by dsimp only; omega, .inl (by dsimp only; omega), q, by omega, o0, o1, by dsimp only; rw [e]; exact o2⟩ (by show j - 1 < j; omega)
      · rw [if_neg hx0] at e
        obtain ⟨zs, ezs⟩ : ∃ zs, zrK sx t = zs := ⟨_, rfl⟩
        rw [ezs] at o2 e hzl
        obtain ⟨az, cz, rfl, hcz⟩ := (o2.reads pEnc).form rfl
        have hdz := own_ge o2
        refine CC.seq ?_
        refine CC.seq ?_
        refine CC.region ?_
        refine LL.val (R.move rfl rfl) rfl rfl rfl ?_
        refine LL.val (R.move rfl rfl) rfl rfl rfl ?_
        (refine LL.call (R.call rfl rfl rfl) rfl rfl rfl (draw_any _ _ _ sx _ (o1.reads uEnc) hln (by omega)) ?_; rintro e W' ⟨rfl, rfl⟩; refine ⟨_, rfl, ?_⟩)
        refine LL.val (R.gtT rfl rfl rfl (by omega)) rfl rfl rfl ?_
        refine LL.nilS ?_
        refine CC.yes rfl ?_
        refine CC.skip ?_
        refine EE.thenN ?_
        refine CC.seq ?_
        refine CC.block ?_
        refine CC.seq ?_
        refine CC.region ?_
        refine LL.val (R.move rfl rfl) rfl rfl rfl ?_
        refine LL.val (R.move rfl rfl) rfl rfl rfl ?_
        refine LL.val (R.mulcN rfl rfl rfl rfl (by omega)) rfl rfl rfl ?_
        refine LL.val (R.addNc rfl rfl rfl rfl (by omega)) rfl rfl rfl ?_
        refine LL.val (R.index rfl rfl rfl (I.ixS1 rfl (by omega))) rfl rfl rfl ?_
        refine LL.val (R.load rfl rfl (I.ld1 rfl (by assumption))) rfl rfl rfl ?_
        refine LL.val (R.neT rfl rfl rfl (by omega)) rfl rfl rfl ?_
        refine LL.nilS ?_
        refine CC.yes rfl ?_
        refine CC.region ?_
        refine LL.val (R.move rfl rfl) rfl rfl rfl ?_
        refine LL.val (R.move rfl rfl) rfl rfl rfl ?_
        refine LL.val (R.mulcN rfl rfl rfl rfl (by omega)) rfl rfl rfl ?_
        refine LL.val (R.addNc rfl rfl rfl rfl (by omega)) rfl rfl rfl ?_
        refine LL.val (R.buildV rfl rfl (v := .agg #[Value.int IntKind.i64 ↑(2 * j + 1), Value.int IntKind.u64 0]) (fun _ => by kernel_rfl)) rfl rfl rfl ?_
        refine LL.lit (e := 59) [Value.int IntKind.i64 ↑(2 * j + 1), Value.int IntKind.u64 0] 1 rfl rfl (fun _ => by kernel_rfl) rfl rfl ?_
        intro We2 ge3 ege3 re4 ze5 be1
        replace q := q.trans (be1.mono q.size)
        replace o0 := o0.up be1
        replace o1 := o1.up be1
        replace c1 := cell_up c1 be1
        replace o2 := o2.up be1
        (refine LL.appendT2 rfl rfl pEnc ElPut o2 (us := [(((2 * j + 1 : Nat) : Int), 0)]) (RowL.readsT pEnc (ts := [(((2 * j + 1 : Nat) : Int), 0)]) (by assumption) 1 (by simp)) (by simp [maxLen]; omega) (by simp; omega) (by omega) rfl rfl ?_; intro v' Wa oa gra hva; replace q := q.grown gra q.size (fun g hg => by have := own_ge o2 g hg; omega); replace o0 := o0.apart2 gra (own_disj (fun g h1 h2 => disj_new hol0 o2 (Nat.le_refl _) g h2 h1)); replace o1 := o1.apart2 gra (own_disj (fun g h1 h2 => disj_new hol1 o2 (Nat.le_refl _) g h2 h1)); have hsz := gra.size; clear o2 hva gra; have o2 := oa; clear oa)
        refine LL.val (R.assign rfl rfl) rfl rfl rfl ?_
        refine LL.nil ?_
        refine EE.inN ?_
        refine EE.thenN ?_
        refine CC.region ?_
        refine LL.val (R.move rfl rfl) rfl rfl rfl ?_
        refine LL.val (R.subNc rfl rfl rfl rfl (by omega) (by omega)) rfl rfl rfl ?_
        refine LL.val (R.assign rfl rfl) rfl rfl rfl ?_
        refine LL.nil ?_
        exact EE.round (t + 1, _, j - 1) ⟨rfl, rfl, rfl, rfl, rfl, trivial⟩ ⟨by dsimp only; omega, .inl (by dsimp only; omega), q, by omega, o0, o1, by dsimp only; rw [e]; exact o2⟩ (by show j - 1 < j; omega)
    obtain rfl : t = n / 2 - 1 - overN sx := by omega
    have hnn : ∀ p ∈ zrK sx (n / 2 - 1 - overN sx), 0 ≤ p.1 := zrK_nn
    obtain ⟨zs, ezs⟩ : ∃ zs, zrK sx (n / 2 - 1 - overN sx) = zs := ⟨_, rfl⟩
    rw [ezs] at o2 hzl hnn
    rw [ezs]
    clear hZ hL hAp ezs eA
    obtain ⟨az, cz, rfl, hcz⟩ := (o2.reads pEnc).form rfl
    obtain ⟨al, cl, rfl, hcl⟩ := (o0.reads pEnc).form rfl
    have hs2 : (applyS sx zs).length = n := by rw [applyS_len]; exact hln
    by_cases hset : setP left (applyS sx zs)
    · rw [if_pos hset]
      have hck := hcT _ hs2 hset
      refine CC.seq ?_
      refine CC.seq ?_
      refine CC.region ?_
      refine LL.val (R.move rfl rfl) rfl rfl rfl ?_
      refine LL.val (R.move rfl rfl) rfl rfl rfl ?_
      (refine LL.call (R.call rfl rfl rfl) rfl rfl rfl (draw_any _ _ _ sx _ (o1.reads uEnc) hln (by omega)) ?_; rintro e W' ⟨rfl, rfl⟩; refine ⟨_, rfl, ?_⟩)
      refine LL.val (R.gtF rfl rfl rfl (by omega)) rfl rfl rfl ?_
      refine LL.nilS ?_
      refine CC.no rfl ?_
      refine CC.exit ?_
      refine EE.thenX ?_
      refine EE.thenX ?_
      refine EE.inX ?_
      refine EE.thenN ?_
      refine CC.seq ?_
      refine CC.region ?_
      refine LL.val (R.move rfl rfl) rfl rfl rfl ?_
      refine LL.val (R.move rfl rfl) rfl rfl rfl ?_
      (refine LL.call (R.call rfl rfl rfl) rfl rfl rfl (dapply_any n _ _ sx zs _ (o1.reads uEnc) hln (by omega) (o2.reads pEnc) (by omega) hnn) ?_; rintro e Wf74 ⟨v3, rfl, o3, bf71⟩; refine ⟨_, rfl, ?_⟩)
      have zbf71 := bf71.size
      replace q := q.trans (bf71.mono q.size)
      replace o1 := o1.up bf71
      replace o2 := o2.up bf71
      replace o0 := o0.up bf71
      refine LL.val (R.assign rfl rfl) rfl rfl rfl ?_
      refine LL.nilS ?_
      refine CC.seq ?_
      refine CC.seq ?_
      refine CC.region ?_
      refine LL.val (R.move rfl rfl) rfl rfl rfl ?_
      refine LL.val (R.move rfl rfl) rfl rfl rfl ?_
      (refine LL.call (R.call rfl rfl rfl) rfl rfl rfl (dcheck_any left n _ _ _ (o3.reads uEnc) hs2 (by omega)) ?_; rintro e Wf130 ⟨rfl, bf127⟩; refine ⟨_, rfl, ?_⟩; rw [hck])
      have zbf127 := bf127.size
      replace o3 := o3.up bf127
      replace bf71 := bf71.trans (bf127.mono bf71.size)
      replace q := q.trans (bf127.mono q.size)
      replace o1 := o1.up bf127
      replace o2 := o2.up bf127
      replace o0 := o0.up bf127
      refine LL.val (R.neF rfl rfl rfl (by omega)) rfl rfl rfl ?_
      refine LL.nilS ?_
      refine CC.no rfl ?_
      refine CC.skip ?_
      refine EE.thenN ?_
      refine CC.seq ?_
      refine CC.region ?_
      refine LL.val (R.move rfl rfl) rfl rfl rfl ?_
      refine LL.val (R.move rfl rfl) rfl rfl rfl ?_
      (refine LL.appendT2 rfl rfl pEnc ElPut o0 (us := zs) (o2.reads pEnc) (by simp only [maxLen]; omega) (by omega) (by omega) rfl rfl ?_; intro v' Wa oa gra hva; replace q := q.grown gra q.size (fun g hg => by have := own_ge o0 g hg; omega); clear o0 hva gra o2; have o0 := oa; clear oa)
      refine LL.val (R.assign rfl rfl) rfl rfl rfl ?_
      refine LL.val (R.assign rfl rfl) rfl rfl rfl ?_
      refine LL.nilS ?_
      refine CC.ret ?_
      refine EE.ret _ rfl rfl ?_
      exact ⟨_, rfl, o0, q⟩
    · rw [if_neg hset]
      have hck := hcF _ hs2 hset
      refine CC.seq ?_
      refine CC.seq ?_
      refine CC.region ?_
      refine LL.val (R.move rfl rfl) rfl rfl rfl ?_
      refine LL.val (R.move rfl rfl) rfl rfl rfl ?_
      (refine LL.call (R.call rfl rfl rfl) rfl rfl rfl (draw_any _ _ _ sx _ (o1.reads uEnc) hln (by omega)) ?_; rintro e W' ⟨rfl, rfl⟩; refine ⟨_, rfl, ?_⟩)
      refine LL.val (R.gtF rfl rfl rfl (by omega)) rfl rfl rfl ?_
      refine LL.nilS ?_
      refine CC.no rfl ?_
      refine CC.exit ?_
      refine EE.thenX ?_
      refine EE.thenX ?_
      refine EE.inX ?_
      refine EE.thenN ?_
      refine CC.seq ?_
      refine CC.region ?_
      refine LL.val (R.move rfl rfl) rfl rfl rfl ?_
      refine LL.val (R.move rfl rfl) rfl rfl rfl ?_
      (refine LL.call (R.call rfl rfl rfl) rfl rfl rfl (dapply_any n _ _ sx zs _ (o1.reads uEnc) hln (by omega) (o2.reads pEnc) (by omega) hnn) ?_; rintro e Wg74 ⟨v3, rfl, o3, bg71⟩; refine ⟨_, rfl, ?_⟩)
      have zbg71 := bg71.size
      replace q := q.trans (bg71.mono q.size)
      replace o1 := o1.up bg71
      replace o2 := o2.up bg71
      replace o0 := o0.up bg71
      refine LL.val (R.assign rfl rfl) rfl rfl rfl ?_
      refine LL.nilS ?_
      refine CC.seq ?_
      refine CC.seq ?_
      refine CC.region ?_
      refine LL.val (R.move rfl rfl) rfl rfl rfl ?_
      refine LL.val (R.move rfl rfl) rfl rfl rfl ?_
      (refine LL.call (R.call rfl rfl rfl) rfl rfl rfl (dcheck_any left n _ _ _ (o3.reads uEnc) hs2 (by omega)) ?_; rintro e Wg130 ⟨rfl, bg127⟩; refine ⟨_, rfl, ?_⟩; rw [hck])
      have zbg127 := bg127.size
      replace o3 := o3.up bg127
      replace bg71 := bg71.trans (bg127.mono bg71.size)
      replace q := q.trans (bg127.mono q.size)
      replace o1 := o1.up bg127
      replace o2 := o2.up bg127
      replace o0 := o0.up bg127
      refine LL.val (R.neT rfl rfl rfl (by omega)) rfl rfl rfl ?_
      refine LL.nilS ?_
      refine CC.yes rfl ?_
      refine CC.seq ?_
      refine CC.region ?_
      refine LL.val (R.assign rfl rfl) rfl rfl rfl ?_
      refine LL.val (R.assign rfl rfl) rfl rfl rfl ?_
      refine LL.nilS ?_
      refine CC.ret ?_
      refine EE.thenR ?_
      refine EE.ret _ rfl rfl ?_
      exact ⟨_, rfl, OwnsT.none _ _ _, q⟩
end Go.Proofs.Ytfpcpnodcdgbdaa

/- slots: the laws' own functions. -/
namespace Go.Proofs.Ytfpcpnodcdgbdaa
set_option linter.unusedVariables false
set_option linter.unusedSimpArgs false
open Go.RowKit Go.Shelf
theorem beqNI (a b : Nat) : (((a : Nat) : Int) == ((b : Nat) : Int)) = decide (a = b) := by
  rw [Bool.eq_iff_iff]
  simp only [beq_iff_eq, decide_eq_true_eq]
  exact ⟨fun h => by omega, fun h => by omega⟩

theorem eqPut (a c b d : Int) (w : World) : (Op.equalIn 10000 59 (.agg #[.int .i64 a, .int .u64 b]) (.agg #[.int .i64 c, .int .u64 d])).run Try.prog w = .ok (a == c && b == d) w := by
  have u3 := Try.underlying3
  have u4 := Try.underlying22
  have a3 := Try.isAgg3
  have z3 := Try.sizeOf3
  have a4 := Try.isAgg22
  have z4 := Try.sizeOf22
  have hS : Try.prog.underlying 59 = some (.struct (Try.prog.fieldsOf 59)) := by kernel_rfl
  rw [show (10000 : Nat) = 9999 + 1 from rfl, run_equalIn_agg w 9999 59 _ _ hS (by kernel_rfl)]
  simp only [Program.fieldsOf, Try.underlying59]
  go_simp
  by_cases h1 : a = c <;> by_cases h2 : b = d <;> simp [h1, h2]

theorem R.nePut {n : Nat} {D : List Deferred} {M : Slots} {w : World} {o : Oper} {x y : Operand} {u : TypeId} {s t : Pt} {b : Bool} (ho : o.op = .binOp .neq 59 x y u) (hx : evM M x = some (.agg (pE s).toArray)) (hy : evM M y = some (.agg (pE t).toArray)) (hb : (!decide (s = t)) = b) : Runs Try.prog n D M o w (.value (.bool b)) w := R.bin ho hx hy (by
  subst hb
  simp only [Sem.run_bind, pE, run_eqGuard_agg w _ _ _ _ _ _ (show Try.prog.eqGuardType Try.prog.depth 59 = false by kernel_rfl), Result.andThen_ok, run_neq_struct, eqPut]
  obtain ⟨s1, s2⟩ := s
  obtain ⟨t1, t2⟩ := t
  simp only [beqNI]
  by_cases h1 : s1 = t1 <;> by_cases h2 : s2 = t2 <;> simp [h1, h2])

set_option maxRecDepth 100000 in
set_option maxHeartbeats 2000000 in
theorem psame_any (va vb : Value) (xs ys : List Pt) (w : World) (ha : ReadsT pE 2 w va xs) (hb : ReadsT pE 2 w vb ys) (hlx : xs.length ≤ 1048576) (hly : ys.length ≤ 1048576) :
    Calls Try.prog 21 #[va, vb] w fun e w' => e = .returned (.bool (decide (xs = ys))) ∧ Below w.heap.size w w' := by
  obtain ⟨N, hN⟩ : ∃ N, xs.length = N := ⟨_, rfl⟩
  obtain ⟨N2, hN2⟩ : ∃ N, ys.length = N := ⟨_, rfl⟩
  obtain ⟨a, cap, rfl, hc⟩ := ha.form hN
  obtain ⟨a2, cap2, rfl, hc2⟩ := hb.form hN2
  rw [hN] at hlx
  rw [hN2] at hly
  refine X.fn Try.func21 rfl (n := 26) rfl rfl ?_
  by_cases hne : N = N2
  · subst hne
    (repeat (first | (first | refine CC.seq ?_ | refine CC.region ?_ | refine LL.nilS ?_ | refine CC.yes rfl ?_ | refine CC.no rfl ?_ | refine CC.block ?_ | refine EE.thenN ?_ | refine LL.nil ?_ | refine CC.exit ?_ | refine CC.ret ?_ | refine CC.skip ?_ | refine EE.thenX ?_ | refine EE.thenR ?_ | refine EE.inN ?_ | refine EE.inX ?_ | refine EE.inX' rfl ?_ | refine EE.inR ?_ | refine CC.label ?_ | refine EE.thenG ?_ | refine EE.inG ?_) | (first | refine LL.val (R.move rfl rfl) rfl rfl rfl ?_ | refine LL.val (R.assign rfl rfl) rfl rfl rfl ?_ | refine LL.val (R.nil rfl rfl) rfl rfl rfl ?_ | refine LL.val (R.field rfl rfl (I.fld rfl)) rfl rfl rfl ?_ | refine LL.val (R.load rfl rfl (I.ld1 rfl (by assumption))) rfl rfl rfl ?_ | refine LL.val (R.load rfl rfl (I.ld1 rfl (RowL.cell (by assumption) rfl))) rfl rfl rfl ?_ | refine LL.val (R.index rfl rfl rfl (I.ixA1c rfl rfl (by first | omega | decide))) rfl rfl rfl ?_ | refine LL.val (R.index rfl rfl rfl (I.ixS1c rfl rfl (by omega))) rfl rfl rfl ?_ | refine LL.val (R.index rfl rfl rfl (I.ixAc rfl rfl (by first | omega | decide))) rfl rfl rfl ?_ | refine LL.val (R.index rfl rfl rfl (I.ixSc rfl rfl (by omega))) rfl rfl rfl ?_ | refine LL.val (R.index rfl rfl rfl (I.ixA1 rfl (by omega))) rfl rfl rfl ?_ | refine LL.val (R.index rfl rfl rfl (I.ixS1 rfl (by omega))) rfl rfl rfl ?_ | refine LL.val (R.index rfl rfl rfl (I.ixA rfl (by omega))) rfl rfl rfl ?_ | refine LL.val (R.index rfl rfl rfl (I.ixS rfl (by omega))) rfl rfl rfl ?_ | refine LL.val (R.ltT rfl rfl rfl (by omega)) rfl rfl rfl ?_ | refine LL.val (R.ltF rfl rfl rfl (by omega)) rfl rfl rfl ?_ | refine LL.val (R.addNc rfl rfl rfl rfl (by omega)) rfl rfl rfl ?_ | refine LL.val (R.subNc rfl rfl rfl rfl (by omega) (by omega)) rfl rfl rfl ?_ | refine LL.val (R.addN rfl rfl rfl (by omega)) rfl rfl rfl ?_ | refine LL.val (R.subN rfl rfl rfl (by omega) (by omega)) rfl rfl rfl ?_ | refine LL.val (R.subcN rfl rfl rfl rfl (by omega) (by omega)) rfl rfl rfl ?_ | refine LL.val (R.addI rfl rfl rfl (by omega)) rfl rfl rfl ?_ | refine LL.val (R.subI rfl rfl rfl (by omega)) rfl rfl rfl ?_ | refine LL.val (R.mulNc rfl rfl rfl rfl (by omega)) rfl rfl rfl ?_ | refine LL.val (R.mulcN rfl rfl rfl rfl (by omega)) rfl rfl rfl ?_ | refine LL.val (R.quoNc rfl rfl rfl rfl (by omega) (by omega)) rfl rfl rfl ?_ | refine LL.val (R.remNc rfl rfl rfl rfl (by omega)) rfl rfl rfl ?_ | refine LL.val (R.mulN rfl rfl rfl (by omega)) rfl rfl rfl ?_ | refine LL.val (R.quoN rfl rfl rfl (by omega) (by omega)) rfl rfl rfl ?_ | refine LL.val (R.remN rfl rfl rfl (by omega)) rfl rfl rfl ?_ | refine LL.val (R.leT rfl rfl rfl (by omega)) rfl rfl rfl ?_ | refine LL.val (R.leF rfl rfl rfl (by omega)) rfl rfl rfl ?_ | refine LL.val (R.gtT rfl rfl rfl (by omega)) rfl rfl rfl ?_ | refine LL.val (R.gtF rfl rfl rfl (by omega)) rfl rfl rfl ?_ | refine LL.val (R.geT rfl rfl rfl (by omega)) rfl rfl rfl ?_ | refine LL.val (R.geF rfl rfl rfl (by omega)) rfl rfl rfl ?_ | refine LL.val (R.eqT rfl rfl rfl (by omega)) rfl rfl rfl ?_ | refine LL.val (R.eqF rfl rfl rfl (by omega)) rfl rfl rfl ?_ | refine LL.val (R.neT rfl rfl rfl (by omega)) rfl rfl rfl ?_ | refine LL.val (R.neF rfl rfl rfl (by omega)) rfl rfl rfl ?_ | refine LL.val (R.eqPtr rfl rfl rfl rfl rfl) rfl rfl rfl ?_ | refine LL.val (R.nePtr rfl rfl rfl rfl rfl) rfl rfl rfl ?_ | refine LL.val (R.eqSl rfl rfl rfl rfl rfl) rfl rfl rfl ?_ | refine LL.val (R.neSl rfl rfl rfl rfl rfl) rfl rfl rfl ?_ | refine LL.val (R.eqFn rfl rfl rfl rfl) rfl rfl rfl ?_ | refine LL.val (R.eqBool rfl rfl rfl rfl rfl) rfl rfl rfl ?_ | refine LL.val (R.neBool rfl rfl rfl rfl rfl) rfl rfl rfl ?_ | refine LL.val (R.xorU rfl rfl rfl (by first | omega | decide) (by first | omega | decide)) rfl rfl rfl ?_ | refine LL.val (R.addUN rfl rfl rfl (by omega)) rfl rfl rfl ?_ | refine LL.val (R.not rfl rfl) rfl rfl rfl ?_ | refine LL.val (R.lenS rfl rfl rfl rfl) rfl rfl rfl ?_ | refine LL.val (R.len rfl rfl rfl rfl) rfl rfl rfl ?_ | refine LL.val (R.pick rfl rfl rfl) rfl rfl rfl ?_ | refine LL.val (R.extract rfl rfl rfl) rfl rfl rfl ?_ | refine LL.val (R.func rfl rfl rfl) rfl rfl rfl ?_ | refine LL.val (R.slice rfl rfl rfl rfl rfl (I.slA rfl)) rfl rfl rfl ?_ | refine LL.val (R.slice rfl rfl rfl rfl rfl (I.slAto rfl (by omega))) rfl rfl rfl ?_) | refine LL.skip rfl rfl ?_))
    refine CC.loop (α := Nat) (fun i => [(0, .slice a N cap), (1, .slice a2 N cap2), (4, .bool false), (5, .int .i64 (i : Int))]) (fun i wr => Below w.heap.size w wr ∧ i ≤ N ∧ xs.take i = ys.take i) (fun i => N - i) 0 ⟨rfl, rfl, rfl, rfl, trivial⟩ ⟨Below.refl _ _, by omega, by simp⟩ ?_
    intro i wr ⟨hbw, hi, ht⟩
    by_cases h1 : i < N
    · obtain ⟨s, hs⟩ : ∃ s, xs[i]? = some s := ⟨_, List.getElem?_eq_getElem (by omega)⟩
      obtain ⟨t, ht2⟩ : ∃ t, ys[i]? = some t := ⟨_, List.getElem?_eq_getElem (by omega)⟩
      obtain ⟨b, off, rfl, hbl, hcs⟩ := ha.get pEnc hs
      obtain ⟨b2, off2, rfl, hbl2, hcs2⟩ := hb.get pEnc ht2
      have hc1 := hcs.below hbw.drew hbl
      have hc3 := hcs2.below hbw.drew hbl2
      (repeat (first | (first | refine CC.seq ?_ | refine CC.region ?_ | refine LL.nilS ?_ | refine CC.yes rfl ?_ | refine CC.no rfl ?_ | refine CC.block ?_ | refine EE.thenN ?_ | refine LL.nil ?_ | refine CC.exit ?_ | refine CC.ret ?_ | refine CC.skip ?_ | refine EE.thenX ?_ | refine EE.thenR ?_ | refine EE.inN ?_ | refine EE.inX ?_ | refine EE.inX' rfl ?_ | refine EE.inR ?_ | refine CC.label ?_ | refine EE.thenG ?_ | refine EE.inG ?_) | (first | refine LL.val (R.move rfl rfl) rfl rfl rfl ?_ | refine LL.val (R.assign rfl rfl) rfl rfl rfl ?_ | refine LL.val (R.nil rfl rfl) rfl rfl rfl ?_ | refine LL.val (R.field rfl rfl (I.fld rfl)) rfl rfl rfl ?_ | refine LL.val (R.load rfl rfl (I.ld1 rfl (by assumption))) rfl rfl rfl ?_ | refine LL.val (R.load rfl rfl (I.ld1 rfl (RowL.cell (by assumption) rfl))) rfl rfl rfl ?_ | refine LL.val (R.index rfl rfl rfl (I.ixA1c rfl rfl (by first | omega | decide))) rfl rfl rfl ?_ | refine LL.val (R.index rfl rfl rfl (I.ixS1c rfl rfl (by omega))) rfl rfl rfl ?_ | refine LL.val (R.index rfl rfl rfl (I.ixAc rfl rfl (by first | omega | decide))) rfl rfl rfl ?_ | refine LL.val (R.index rfl rfl rfl (I.ixSc rfl rfl (by omega))) rfl rfl rfl ?_ | refine LL.val (R.index rfl rfl rfl (I.ixA1 rfl (by omega))) rfl rfl rfl ?_ | refine LL.val (R.index rfl rfl rfl (I.ixS1 rfl (by omega))) rfl rfl rfl ?_ | refine LL.val (R.index rfl rfl rfl (I.ixA rfl (by omega))) rfl rfl rfl ?_ | refine LL.val (R.index rfl rfl rfl (I.ixS rfl (by omega))) rfl rfl rfl ?_ | refine LL.val (R.ltT rfl rfl rfl (by omega)) rfl rfl rfl ?_ | refine LL.val (R.ltF rfl rfl rfl (by omega)) rfl rfl rfl ?_ | refine LL.val (R.addNc rfl rfl rfl rfl (by omega)) rfl rfl rfl ?_ | refine LL.val (R.subNc rfl rfl rfl rfl (by omega) (by omega)) rfl rfl rfl ?_ | refine LL.val (R.addN rfl rfl rfl (by omega)) rfl rfl rfl ?_ | refine LL.val (R.subN rfl rfl rfl (by omega) (by omega)) rfl rfl rfl ?_ | refine LL.val (R.subcN rfl rfl rfl rfl (by omega) (by omega)) rfl rfl rfl ?_ | refine LL.val (R.addI rfl rfl rfl (by omega)) rfl rfl rfl ?_ | refine LL.val (R.subI rfl rfl rfl (by omega)) rfl rfl rfl ?_ | refine LL.val (R.mulNc rfl rfl rfl rfl (by omega)) rfl rfl rfl ?_ | refine LL.val (R.mulcN rfl rfl rfl rfl (by omega)) rfl rfl rfl ?_ | refine LL.val (R.quoNc rfl rfl rfl rfl (by omega) (by omega)) rfl rfl rfl ?_ | refine LL.val (R.remNc rfl rfl rfl rfl (by omega)) rfl rfl rfl ?_ | refine LL.val (R.mulN rfl rfl rfl (by omega)) rfl rfl rfl ?_ | refine LL.val (R.quoN rfl rfl rfl (by omega) (by omega)) rfl rfl rfl ?_ | refine LL.val (R.remN rfl rfl rfl (by omega)) rfl rfl rfl ?_ | refine LL.val (R.leT rfl rfl rfl (by omega)) rfl rfl rfl ?_ | refine LL.val (R.leF rfl rfl rfl (by omega)) rfl rfl rfl ?_ | refine LL.val (R.gtT rfl rfl rfl (by omega)) rfl rfl rfl ?_ | refine LL.val (R.gtF rfl rfl rfl (by omega)) rfl rfl rfl ?_ | refine LL.val (R.geT rfl rfl rfl (by omega)) rfl rfl rfl ?_ | refine LL.val (R.geF rfl rfl rfl (by omega)) rfl rfl rfl ?_ | refine LL.val (R.eqT rfl rfl rfl (by omega)) rfl rfl rfl ?_ | refine LL.val (R.eqF rfl rfl rfl (by omega)) rfl rfl rfl ?_ | refine LL.val (R.neT rfl rfl rfl (by omega)) rfl rfl rfl ?_ | refine LL.val (R.neF rfl rfl rfl (by omega)) rfl rfl rfl ?_ | refine LL.val (R.eqPtr rfl rfl rfl rfl rfl) rfl rfl rfl ?_ | refine LL.val (R.nePtr rfl rfl rfl rfl rfl) rfl rfl rfl ?_ | refine LL.val (R.eqSl rfl rfl rfl rfl rfl) rfl rfl rfl ?_ | refine LL.val (R.neSl rfl rfl rfl rfl rfl) rfl rfl rfl ?_ | refine LL.val (R.eqFn rfl rfl rfl rfl) rfl rfl rfl ?_ | refine LL.val (R.eqBool rfl rfl rfl rfl rfl) rfl rfl rfl ?_ | refine LL.val (R.neBool rfl rfl rfl rfl rfl) rfl rfl rfl ?_ | refine LL.val (R.xorU rfl rfl rfl (by first | omega | decide) (by first | omega | decide)) rfl rfl rfl ?_ | refine LL.val (R.addUN rfl rfl rfl (by omega)) rfl rfl rfl ?_ | refine LL.val (R.not rfl rfl) rfl rfl rfl ?_ | refine LL.val (R.lenS rfl rfl rfl rfl) rfl rfl rfl ?_ | refine LL.val (R.len rfl rfl rfl rfl) rfl rfl rfl ?_ | refine LL.val (R.pick rfl rfl rfl) rfl rfl rfl ?_ | refine LL.val (R.extract rfl rfl rfl) rfl rfl rfl ?_ | refine LL.val (R.func rfl rfl rfl) rfl rfl rfl ?_ | refine LL.val (R.slice rfl rfl rfl rfl rfl (I.slA rfl)) rfl rfl rfl ?_ | refine LL.val (R.slice rfl rfl rfl rfl rfl (I.slAto rfl (by omega))) rfl rfl rfl ?_) | refine LL.skip rfl rfl ?_))
      refine CC.quiet (by kernel_rfl) (by kernel_rfl) ?_
      (repeat (first | refine SS.nil ?_ | refine SS.nilQ ?_ | refine SS.val (R.move rfl rfl) rfl rfl ?_ | refine SS.val (R.assign rfl rfl) rfl rfl ?_ | refine SS.val (R.nil rfl rfl) rfl rfl ?_ | refine SS.val (R.field rfl rfl (I.fld rfl)) rfl rfl ?_ | refine SS.val (R.load rfl rfl (I.ld1 rfl (by assumption))) rfl rfl ?_ | refine SS.val (R.load rfl rfl (I.ld1 rfl (RowL.cell (by assumption) rfl))) rfl rfl ?_ | refine SS.val (R.index rfl rfl rfl (I.ixA1c rfl rfl (by first | omega | decide))) rfl rfl ?_ | refine SS.val (R.index rfl rfl rfl (I.ixS1c rfl rfl (by omega))) rfl rfl ?_ | refine SS.val (R.index rfl rfl rfl (I.ixAc rfl rfl (by first | omega | decide))) rfl rfl ?_ | refine SS.val (R.index rfl rfl rfl (I.ixSc rfl rfl (by omega))) rfl rfl ?_ | refine SS.val (R.index rfl rfl rfl (I.ixA1 rfl (by omega))) rfl rfl ?_ | refine SS.val (R.index rfl rfl rfl (I.ixS1 rfl (by omega))) rfl rfl ?_ | refine SS.val (R.index rfl rfl rfl (I.ixA rfl (by omega))) rfl rfl ?_ | refine SS.val (R.index rfl rfl rfl (I.ixS rfl (by omega))) rfl rfl ?_ | refine SS.val (R.ltT rfl rfl rfl (by omega)) rfl rfl ?_ | refine SS.val (R.ltF rfl rfl rfl (by omega)) rfl rfl ?_ | refine SS.val (R.addNc rfl rfl rfl rfl (by omega)) rfl rfl ?_ | refine SS.val (R.subNc rfl rfl rfl rfl (by omega) (by omega)) rfl rfl ?_ | refine SS.val (R.addN rfl rfl rfl (by omega)) rfl rfl ?_ | refine SS.val (R.subN rfl rfl rfl (by omega) (by omega)) rfl rfl ?_ | refine SS.val (R.subcN rfl rfl rfl rfl (by omega) (by omega)) rfl rfl ?_ | refine SS.val (R.addI rfl rfl rfl (by omega)) rfl rfl ?_ | refine SS.val (R.subI rfl rfl rfl (by omega)) rfl rfl ?_ | refine SS.val (R.mulNc rfl rfl rfl rfl (by omega)) rfl rfl ?_ | refine SS.val (R.mulcN rfl rfl rfl rfl (by omega)) rfl rfl ?_ | refine SS.val (R.quoNc rfl rfl rfl rfl (by omega) (by omega)) rfl rfl ?_ | refine SS.val (R.remNc rfl rfl rfl rfl (by omega)) rfl rfl ?_ | refine SS.val (R.mulN rfl rfl rfl (by omega)) rfl rfl ?_ | refine SS.val (R.quoN rfl rfl rfl (by omega) (by omega)) rfl rfl ?_ | refine SS.val (R.remN rfl rfl rfl (by omega)) rfl rfl ?_ | refine SS.val (R.leT rfl rfl rfl (by omega)) rfl rfl ?_ | refine SS.val (R.leF rfl rfl rfl (by omega)) rfl rfl ?_ | refine SS.val (R.gtT rfl rfl rfl (by omega)) rfl rfl ?_ | refine SS.val (R.gtF rfl rfl rfl (by omega)) rfl rfl ?_ | refine SS.val (R.geT rfl rfl rfl (by omega)) rfl rfl ?_ | refine SS.val (R.geF rfl rfl rfl (by omega)) rfl rfl ?_ | refine SS.val (R.eqT rfl rfl rfl (by omega)) rfl rfl ?_ | refine SS.val (R.eqF rfl rfl rfl (by omega)) rfl rfl ?_ | refine SS.val (R.neT rfl rfl rfl (by omega)) rfl rfl ?_ | refine SS.val (R.neF rfl rfl rfl (by omega)) rfl rfl ?_ | refine SS.val (R.eqPtr rfl rfl rfl rfl rfl) rfl rfl ?_ | refine SS.val (R.nePtr rfl rfl rfl rfl rfl) rfl rfl ?_ | refine SS.val (R.eqSl rfl rfl rfl rfl rfl) rfl rfl ?_ | refine SS.val (R.neSl rfl rfl rfl rfl rfl) rfl rfl ?_ | refine SS.val (R.eqFn rfl rfl rfl rfl) rfl rfl ?_ | refine SS.val (R.eqBool rfl rfl rfl rfl rfl) rfl rfl ?_ | refine SS.val (R.neBool rfl rfl rfl rfl rfl) rfl rfl ?_ | refine SS.val (R.xorU rfl rfl rfl (by first | omega | decide) (by first | omega | decide)) rfl rfl ?_ | refine SS.val (R.addUN rfl rfl rfl (by omega)) rfl rfl ?_ | refine SS.val (R.not rfl rfl) rfl rfl ?_ | refine SS.val (R.lenS rfl rfl rfl rfl) rfl rfl ?_ | refine SS.val (R.len rfl rfl rfl rfl) rfl rfl ?_ | refine SS.val (R.pick rfl rfl rfl) rfl rfl ?_ | refine SS.val (R.extract rfl rfl rfl) rfl rfl ?_ | refine SS.val (R.func rfl rfl rfl) rfl rfl ?_ | refine SS.val (R.slice rfl rfl rfl rfl rfl (I.slA rfl)) rfl rfl ?_ | refine SS.val (R.slice rfl rfl rfl rfl rfl (I.slAto rfl (by omega))) rfl rfl ?_ | refine SS.skip rfl rfl ?_))
      refine SS.val (R.load rfl rfl (I.ldN (vs := pE s) rfl rfl hc1)) rfl rfl ?_
      (repeat (first | refine SS.nil ?_ | refine SS.nilQ ?_ | refine SS.val (R.move rfl rfl) rfl rfl ?_ | refine SS.val (R.assign rfl rfl) rfl rfl ?_ | refine SS.val (R.nil rfl rfl) rfl rfl ?_ | refine SS.val (R.field rfl rfl (I.fld rfl)) rfl rfl ?_ | refine SS.val (R.load rfl rfl (I.ld1 rfl (by assumption))) rfl rfl ?_ | refine SS.val (R.load rfl rfl (I.ld1 rfl (RowL.cell (by assumption) rfl))) rfl rfl ?_ | refine SS.val (R.index rfl rfl rfl (I.ixA1c rfl rfl (by first | omega | decide))) rfl rfl ?_ | refine SS.val (R.index rfl rfl rfl (I.ixS1c rfl rfl (by omega))) rfl rfl ?_ | refine SS.val (R.index rfl rfl rfl (I.ixAc rfl rfl (by first | omega | decide))) rfl rfl ?_ | refine SS.val (R.index rfl rfl rfl (I.ixSc rfl rfl (by omega))) rfl rfl ?_ | refine SS.val (R.index rfl rfl rfl (I.ixA1 rfl (by omega))) rfl rfl ?_ | refine SS.val (R.index rfl rfl rfl (I.ixS1 rfl (by omega))) rfl rfl ?_ | refine SS.val (R.index rfl rfl rfl (I.ixA rfl (by omega))) rfl rfl ?_ | refine SS.val (R.index rfl rfl rfl (I.ixS rfl (by omega))) rfl rfl ?_ | refine SS.val (R.ltT rfl rfl rfl (by omega)) rfl rfl ?_ | refine SS.val (R.ltF rfl rfl rfl (by omega)) rfl rfl ?_ | refine SS.val (R.addNc rfl rfl rfl rfl (by omega)) rfl rfl ?_ | refine SS.val (R.subNc rfl rfl rfl rfl (by omega) (by omega)) rfl rfl ?_ | refine SS.val (R.addN rfl rfl rfl (by omega)) rfl rfl ?_ | refine SS.val (R.subN rfl rfl rfl (by omega) (by omega)) rfl rfl ?_ | refine SS.val (R.subcN rfl rfl rfl rfl (by omega) (by omega)) rfl rfl ?_ | refine SS.val (R.addI rfl rfl rfl (by omega)) rfl rfl ?_ | refine SS.val (R.subI rfl rfl rfl (by omega)) rfl rfl ?_ | refine SS.val (R.mulNc rfl rfl rfl rfl (by omega)) rfl rfl ?_ | refine SS.val (R.mulcN rfl rfl rfl rfl (by omega)) rfl rfl ?_ | refine SS.val (R.quoNc rfl rfl rfl rfl (by omega) (by omega)) rfl rfl ?_ | refine SS.val (R.remNc rfl rfl rfl rfl (by omega)) rfl rfl ?_ | refine SS.val (R.mulN rfl rfl rfl (by omega)) rfl rfl ?_ | refine SS.val (R.quoN rfl rfl rfl (by omega) (by omega)) rfl rfl ?_ | refine SS.val (R.remN rfl rfl rfl (by omega)) rfl rfl ?_ | refine SS.val (R.leT rfl rfl rfl (by omega)) rfl rfl ?_ | refine SS.val (R.leF rfl rfl rfl (by omega)) rfl rfl ?_ | refine SS.val (R.gtT rfl rfl rfl (by omega)) rfl rfl ?_ | refine SS.val (R.gtF rfl rfl rfl (by omega)) rfl rfl ?_ | refine SS.val (R.geT rfl rfl rfl (by omega)) rfl rfl ?_ | refine SS.val (R.geF rfl rfl rfl (by omega)) rfl rfl ?_ | refine SS.val (R.eqT rfl rfl rfl (by omega)) rfl rfl ?_ | refine SS.val (R.eqF rfl rfl rfl (by omega)) rfl rfl ?_ | refine SS.val (R.neT rfl rfl rfl (by omega)) rfl rfl ?_ | refine SS.val (R.neF rfl rfl rfl (by omega)) rfl rfl ?_ | refine SS.val (R.eqPtr rfl rfl rfl rfl rfl) rfl rfl ?_ | refine SS.val (R.nePtr rfl rfl rfl rfl rfl) rfl rfl ?_ | refine SS.val (R.eqSl rfl rfl rfl rfl rfl) rfl rfl ?_ | refine SS.val (R.neSl rfl rfl rfl rfl rfl) rfl rfl ?_ | refine SS.val (R.eqFn rfl rfl rfl rfl) rfl rfl ?_ | refine SS.val (R.eqBool rfl rfl rfl rfl rfl) rfl rfl ?_ | refine SS.val (R.neBool rfl rfl rfl rfl rfl) rfl rfl ?_ | refine SS.val (R.xorU rfl rfl rfl (by first | omega | decide) (by first | omega | decide)) rfl rfl ?_ | refine SS.val (R.addUN rfl rfl rfl (by omega)) rfl rfl ?_ | refine SS.val (R.not rfl rfl) rfl rfl ?_ | refine SS.val (R.lenS rfl rfl rfl rfl) rfl rfl ?_ | refine SS.val (R.len rfl rfl rfl rfl) rfl rfl ?_ | refine SS.val (R.pick rfl rfl rfl) rfl rfl ?_ | refine SS.val (R.extract rfl rfl rfl) rfl rfl ?_ | refine SS.val (R.func rfl rfl rfl) rfl rfl ?_ | refine SS.val (R.slice rfl rfl rfl rfl rfl (I.slA rfl)) rfl rfl ?_ | refine SS.val (R.slice rfl rfl rfl rfl rfl (I.slAto rfl (by omega))) rfl rfl ?_ | refine SS.skip rfl rfl ?_))
      refine SS.val (R.load rfl rfl (I.ldN (vs := pE t) rfl rfl hc3)) rfl rfl ?_
      by_cases hst : s = t
      · refine SS.val (R.nePut (b := false) rfl rfl rfl (by simp [hst])) rfl rfl ?_
        (repeat (first | refine SS.nil ?_ | refine SS.nilQ ?_ | refine SS.val (R.move rfl rfl) rfl rfl ?_ | refine SS.val (R.assign rfl rfl) rfl rfl ?_ | refine SS.val (R.nil rfl rfl) rfl rfl ?_ | refine SS.val (R.field rfl rfl (I.fld rfl)) rfl rfl ?_ | refine SS.val (R.load rfl rfl (I.ld1 rfl (by assumption))) rfl rfl ?_ | refine SS.val (R.load rfl rfl (I.ld1 rfl (RowL.cell (by assumption) rfl))) rfl rfl ?_ | refine SS.val (R.index rfl rfl rfl (I.ixA1c rfl rfl (by first | omega | decide))) rfl rfl ?_ | refine SS.val (R.index rfl rfl rfl (I.ixS1c rfl rfl (by omega))) rfl rfl ?_ | refine SS.val (R.index rfl rfl rfl (I.ixAc rfl rfl (by first | omega | decide))) rfl rfl ?_ | refine SS.val (R.index rfl rfl rfl (I.ixSc rfl rfl (by omega))) rfl rfl ?_ | refine SS.val (R.index rfl rfl rfl (I.ixA1 rfl (by omega))) rfl rfl ?_ | refine SS.val (R.index rfl rfl rfl (I.ixS1 rfl (by omega))) rfl rfl ?_ | refine SS.val (R.index rfl rfl rfl (I.ixA rfl (by omega))) rfl rfl ?_ | refine SS.val (R.index rfl rfl rfl (I.ixS rfl (by omega))) rfl rfl ?_ | refine SS.val (R.ltT rfl rfl rfl (by omega)) rfl rfl ?_ | refine SS.val (R.ltF rfl rfl rfl (by omega)) rfl rfl ?_ | refine SS.val (R.addNc rfl rfl rfl rfl (by omega)) rfl rfl ?_ | refine SS.val (R.subNc rfl rfl rfl rfl (by omega) (by omega)) rfl rfl ?_ | refine SS.val (R.addN rfl rfl rfl (by omega)) rfl rfl ?_ | refine SS.val (R.subN rfl rfl rfl (by omega) (by omega)) rfl rfl ?_ | refine SS.val (R.subcN rfl rfl rfl rfl (by omega) (by omega)) rfl rfl ?_ | refine SS.val (R.addI rfl rfl rfl (by omega)) rfl rfl ?_ | refine SS.val (R.subI rfl rfl rfl (by omega)) rfl rfl ?_ | refine SS.val (R.mulNc rfl rfl rfl rfl (by omega)) rfl rfl ?_ | refine SS.val (R.mulcN rfl rfl rfl rfl (by omega)) rfl rfl ?_ | refine SS.val (R.quoNc rfl rfl rfl rfl (by omega) (by omega)) rfl rfl ?_ | refine SS.val (R.remNc rfl rfl rfl rfl (by omega)) rfl rfl ?_ | refine SS.val (R.mulN rfl rfl rfl (by omega)) rfl rfl ?_ | refine SS.val (R.quoN rfl rfl rfl (by omega) (by omega)) rfl rfl ?_ | refine SS.val (R.remN rfl rfl rfl (by omega)) rfl rfl ?_ | refine SS.val (R.leT rfl rfl rfl (by omega)) rfl rfl ?_ | refine SS.val (R.leF rfl rfl rfl (by omega)) rfl rfl ?_ | refine SS.val (R.gtT rfl rfl rfl (by omega)) rfl rfl ?_ | refine SS.val (R.gtF rfl rfl rfl (by omega)) rfl rfl ?_ | refine SS.val (R.geT rfl rfl rfl (by omega)) rfl rfl ?_ | refine SS.val (R.geF rfl rfl rfl (by omega)) rfl rfl ?_ | refine SS.val (R.eqT rfl rfl rfl (by omega)) rfl rfl ?_ | refine SS.val (R.eqF rfl rfl rfl (by omega)) rfl rfl ?_ | refine SS.val (R.neT rfl rfl rfl (by omega)) rfl rfl ?_ | refine SS.val (R.neF rfl rfl rfl (by omega)) rfl rfl ?_ | refine SS.val (R.eqPtr rfl rfl rfl rfl rfl) rfl rfl ?_ | refine SS.val (R.nePtr rfl rfl rfl rfl rfl) rfl rfl ?_ | refine SS.val (R.eqSl rfl rfl rfl rfl rfl) rfl rfl ?_ | refine SS.val (R.neSl rfl rfl rfl rfl rfl) rfl rfl ?_ | refine SS.val (R.eqFn rfl rfl rfl rfl) rfl rfl ?_ | refine SS.val (R.eqBool rfl rfl rfl rfl rfl) rfl rfl ?_ | refine SS.val (R.neBool rfl rfl rfl rfl rfl) rfl rfl ?_ | refine SS.val (R.xorU rfl rfl rfl (by first | omega | decide) (by first | omega | decide)) rfl rfl ?_ | refine SS.val (R.addUN rfl rfl rfl (by omega)) rfl rfl ?_ | refine SS.val (R.not rfl rfl) rfl rfl ?_ | refine SS.val (R.lenS rfl rfl rfl rfl) rfl rfl ?_ | refine SS.val (R.len rfl rfl rfl rfl) rfl rfl ?_ | refine SS.val (R.pick rfl rfl rfl) rfl rfl ?_ | refine SS.val (R.extract rfl rfl rfl) rfl rfl ?_ | refine SS.val (R.func rfl rfl rfl) rfl rfl ?_ | refine SS.val (R.slice rfl rfl rfl rfl rfl (I.slA rfl)) rfl rfl ?_ | refine SS.val (R.slice rfl rfl rfl rfl rfl (I.slAto rfl (by omega))) rfl rfl ?_ | refine SS.skip rfl rfl ?_))
        (repeat (first | (first | refine CC.seq ?_ | refine CC.region ?_ | refine LL.nilS ?_ | refine CC.yes rfl ?_ | refine CC.no rfl ?_ | refine CC.block ?_ | refine EE.thenN ?_ | refine LL.nil ?_ | refine CC.exit ?_ | refine CC.ret ?_ | refine CC.skip ?_ | refine EE.thenX ?_ | refine EE.thenR ?_ | refine EE.inN ?_ | refine EE.inX ?_ | refine EE.inX' rfl ?_ | refine EE.inR ?_ | refine CC.label ?_ | refine EE.thenG ?_ | refine EE.inG ?_) | (first | refine LL.val (R.move rfl rfl) rfl rfl rfl ?_ | refine LL.val (R.assign rfl rfl) rfl rfl rfl ?_ | refine LL.val (R.nil rfl rfl) rfl rfl rfl ?_ | refine LL.val (R.field rfl rfl (I.fld rfl)) rfl rfl rfl ?_ | refine LL.val (R.load rfl rfl (I.ld1 rfl (by assumption))) rfl rfl rfl ?_ | refine LL.val (R.load rfl rfl (I.ld1 rfl (RowL.cell (by assumption) rfl))) rfl rfl rfl ?_ | refine LL.val (R.index rfl rfl rfl (I.ixA1c rfl rfl (by first | omega | decide))) rfl rfl rfl ?_ | refine LL.val (R.index rfl rfl rfl (I.ixS1c rfl rfl (by omega))) rfl rfl rfl ?_ | refine LL.val (R.index rfl rfl rfl (I.ixAc rfl rfl (by first | omega | decide))) rfl rfl rfl ?_ | refine LL.val (R.index rfl rfl rfl (I.ixSc rfl rfl (by omega))) rfl rfl rfl ?_ | refine LL.val (R.index rfl rfl rfl (I.ixA1 rfl (by omega))) rfl rfl rfl ?_ | refine LL.val (R.index rfl rfl rfl (I.ixS1 rfl (by omega))) rfl rfl rfl ?_ | refine LL.val (R.index rfl rfl rfl (I.ixA rfl (by omega))) rfl rfl rfl ?_ | refine LL.val (R.index rfl rfl rfl (I.ixS rfl (by omega))) rfl rfl rfl ?_ | refine LL.val (R.ltT rfl rfl rfl (by omega)) rfl rfl rfl ?_ | refine LL.val (R.ltF rfl rfl rfl (by omega)) rfl rfl rfl ?_ | refine LL.val (R.addNc rfl rfl rfl rfl (by omega)) rfl rfl rfl ?_ | refine LL.val (R.subNc rfl rfl rfl rfl (by omega) (by omega)) rfl rfl rfl ?_ | refine LL.val (R.addN rfl rfl rfl (by omega)) rfl rfl rfl ?_ | refine LL.val (R.subN rfl rfl rfl (by omega) (by omega)) rfl rfl rfl ?_ | refine LL.val (R.subcN rfl rfl rfl rfl (by omega) (by omega)) rfl rfl rfl ?_ | refine LL.val (R.addI rfl rfl rfl (by omega)) rfl rfl rfl ?_ | refine LL.val (R.subI rfl rfl rfl (by omega)) rfl rfl rfl ?_ | refine LL.val (R.mulNc rfl rfl rfl rfl (by omega)) rfl rfl rfl ?_ | refine LL.val (R.mulcN rfl rfl rfl rfl (by omega)) rfl rfl rfl ?_ | refine LL.val (R.quoNc rfl rfl rfl rfl (by omega) (by omega)) rfl rfl rfl ?_ | refine LL.val (R.remNc rfl rfl rfl rfl (by omega)) rfl rfl rfl ?_ | refine LL.val (R.mulN rfl rfl rfl (by omega)) rfl rfl rfl ?_ | refine LL.val (R.quoN rfl rfl rfl (by omega) (by omega)) rfl rfl rfl ?_ | refine LL.val (R.remN rfl rfl rfl (by omega)) rfl rfl rfl ?_ | refine LL.val (R.leT rfl rfl rfl (by omega)) rfl rfl rfl ?_ | refine LL.val (R.leF rfl rfl rfl (by omega)) rfl rfl rfl ?_ | refine LL.val (R.gtT rfl rfl rfl (by omega)) rfl rfl rfl ?_ | refine LL.val (R.gtF rfl rfl rfl (by omega)) rfl rfl rfl ?_ | refine LL.val (R.geT rfl rfl rfl (by omega)) rfl rfl rfl ?_ | refine LL.val (R.geF rfl rfl rfl (by omega)) rfl rfl rfl ?_ | refine LL.val (R.eqT rfl rfl rfl (by omega)) rfl rfl rfl ?_ | refine LL.val (R.eqF rfl rfl rfl (by omega)) rfl rfl rfl ?_ | refine LL.val (R.neT rfl rfl rfl (by omega)) rfl rfl rfl ?_ | refine LL.val (R.neF rfl rfl rfl (by omega)) rfl rfl rfl ?_ | refine LL.val (R.eqPtr rfl rfl rfl rfl rfl) rfl rfl rfl ?_ | refine LL.val (R.nePtr rfl rfl rfl rfl rfl) rfl rfl rfl ?_ | refine LL.val (R.eqSl rfl rfl rfl rfl rfl) rfl rfl rfl ?_ | refine LL.val (R.neSl rfl rfl rfl rfl rfl) rfl rfl rfl ?_ | refine LL.val (R.eqFn rfl rfl rfl rfl) rfl rfl rfl ?_ | refine LL.val (R.eqBool rfl rfl rfl rfl rfl) rfl rfl rfl ?_ | refine LL.val (R.neBool rfl rfl rfl rfl rfl) rfl rfl rfl ?_ | refine LL.val (R.xorU rfl rfl rfl (by first | omega | decide) (by first | omega | decide)) rfl rfl rfl ?_ | refine LL.val (R.addUN rfl rfl rfl (by omega)) rfl rfl rfl ?_ | refine LL.val (R.not rfl rfl) rfl rfl rfl ?_ | refine LL.val (R.lenS rfl rfl rfl rfl) rfl rfl rfl ?_ | refine LL.val (R.len rfl rfl rfl rfl) rfl rfl rfl ?_ | refine LL.val (R.pick rfl rfl rfl) rfl rfl rfl ?_ | refine LL.val (R.extract rfl rfl rfl) rfl rfl rfl ?_ | refine LL.val (R.func rfl rfl rfl) rfl rfl rfl ?_ | refine LL.val (R.slice rfl rfl rfl rfl rfl (I.slA rfl)) rfl rfl rfl ?_ | refine LL.val (R.slice rfl rfl rfl rfl rfl (I.slAto rfl (by omega))) rfl rfl rfl ?_) | refine LL.skip rfl rfl ?_))
        exact EE.round (i + 1) ⟨rfl, rfl, rfl, rfl, trivial⟩ ⟨hbw.drew, by omega, by rw [List.take_add_one, List.take_add_one, ht, hs, ht2, hst]⟩ (by omega)
      · refine SS.val (R.nePut (b := true) rfl rfl rfl (by simp [hst])) rfl rfl ?_
        (repeat (first | refine SS.nil ?_ | refine SS.nilQ ?_ | refine SS.val (R.move rfl rfl) rfl rfl ?_ | refine SS.val (R.assign rfl rfl) rfl rfl ?_ | refine SS.val (R.nil rfl rfl) rfl rfl ?_ | refine SS.val (R.field rfl rfl (I.fld rfl)) rfl rfl ?_ | refine SS.val (R.load rfl rfl (I.ld1 rfl (by assumption))) rfl rfl ?_ | refine SS.val (R.load rfl rfl (I.ld1 rfl (RowL.cell (by assumption) rfl))) rfl rfl ?_ | refine SS.val (R.index rfl rfl rfl (I.ixA1c rfl rfl (by first | omega | decide))) rfl rfl ?_ | refine SS.val (R.index rfl rfl rfl (I.ixS1c rfl rfl (by omega))) rfl rfl ?_ | refine SS.val (R.index rfl rfl rfl (I.ixAc rfl rfl (by first | omega | decide))) rfl rfl ?_ | refine SS.val (R.index rfl rfl rfl (I.ixSc rfl rfl (by omega))) rfl rfl ?_ | refine SS.val (R.index rfl rfl rfl (I.ixA1 rfl (by omega))) rfl rfl ?_ | refine SS.val (R.index rfl rfl rfl (I.ixS1 rfl (by omega))) rfl rfl ?_ | refine SS.val (R.index rfl rfl rfl (I.ixA rfl (by omega))) rfl rfl ?_ | refine SS.val (R.index rfl rfl rfl (I.ixS rfl (by omega))) rfl rfl ?_ | refine SS.val (R.ltT rfl rfl rfl (by omega)) rfl rfl ?_ | refine SS.val (R.ltF rfl rfl rfl (by omega)) rfl rfl ?_ | refine SS.val (R.addNc rfl rfl rfl rfl (by omega)) rfl rfl ?_ | refine SS.val (R.subNc rfl rfl rfl rfl (by omega) (by omega)) rfl rfl ?_ | refine SS.val (R.addN rfl rfl rfl (by omega)) rfl rfl ?_ | refine SS.val (R.subN rfl rfl rfl (by omega) (by omega)) rfl rfl ?_ | refine SS.val (R.subcN rfl rfl rfl rfl (by omega) (by omega)) rfl rfl ?_ | refine SS.val (R.addI rfl rfl rfl (by omega)) rfl rfl ?_ | refine SS.val (R.subI rfl rfl rfl (by omega)) rfl rfl ?_ | refine SS.val (R.mulNc rfl rfl rfl rfl (by omega)) rfl rfl ?_ | refine SS.val (R.mulcN rfl rfl rfl rfl (by omega)) rfl rfl ?_ | refine SS.val (R.quoNc rfl rfl rfl rfl (by omega) (by omega)) rfl rfl ?_ | refine SS.val (R.remNc rfl rfl rfl rfl (by omega)) rfl rfl ?_ | refine SS.val (R.mulN rfl rfl rfl (by omega)) rfl rfl ?_ | refine SS.val (R.quoN rfl rfl rfl (by omega) (by omega)) rfl rfl ?_ | refine SS.val (R.remN rfl rfl rfl (by omega)) rfl rfl ?_ | refine SS.val (R.leT rfl rfl rfl (by omega)) rfl rfl ?_ | refine SS.val (R.leF rfl rfl rfl (by omega)) rfl rfl ?_ | refine SS.val (R.gtT rfl rfl rfl (by omega)) rfl rfl ?_ | refine SS.val (R.gtF rfl rfl rfl (by omega)) rfl rfl ?_ | refine SS.val (R.geT rfl rfl rfl (by omega)) rfl rfl ?_ | refine SS.val (R.geF rfl rfl rfl (by omega)) rfl rfl ?_ | refine SS.val (R.eqT rfl rfl rfl (by omega)) rfl rfl ?_ | refine SS.val (R.eqF rfl rfl rfl (by omega)) rfl rfl ?_ | refine SS.val (R.neT rfl rfl rfl (by omega)) rfl rfl ?_ | refine SS.val (R.neF rfl rfl rfl (by omega)) rfl rfl ?_ | refine SS.val (R.eqPtr rfl rfl rfl rfl rfl) rfl rfl ?_ | refine SS.val (R.nePtr rfl rfl rfl rfl rfl) rfl rfl ?_ | refine SS.val (R.eqSl rfl rfl rfl rfl rfl) rfl rfl ?_ | refine SS.val (R.neSl rfl rfl rfl rfl rfl) rfl rfl ?_ | refine SS.val (R.eqFn rfl rfl rfl rfl) rfl rfl ?_ | refine SS.val (R.eqBool rfl rfl rfl rfl rfl) rfl rfl ?_ | refine SS.val (R.neBool rfl rfl rfl rfl rfl) rfl rfl ?_ | refine SS.val (R.xorU rfl rfl rfl (by first | omega | decide) (by first | omega | decide)) rfl rfl ?_ | refine SS.val (R.addUN rfl rfl rfl (by omega)) rfl rfl ?_ | refine SS.val (R.not rfl rfl) rfl rfl ?_ | refine SS.val (R.lenS rfl rfl rfl rfl) rfl rfl ?_ | refine SS.val (R.len rfl rfl rfl rfl) rfl rfl ?_ | refine SS.val (R.pick rfl rfl rfl) rfl rfl ?_ | refine SS.val (R.extract rfl rfl rfl) rfl rfl ?_ | refine SS.val (R.func rfl rfl rfl) rfl rfl ?_ | refine SS.val (R.slice rfl rfl rfl rfl rfl (I.slA rfl)) rfl rfl ?_ | refine SS.val (R.slice rfl rfl rfl rfl rfl (I.slAto rfl (by omega))) rfl rfl ?_ | refine SS.skip rfl rfl ?_))
        (repeat (first | (first | refine CC.seq ?_ | refine CC.region ?_ | refine LL.nilS ?_ | refine CC.yes rfl ?_ | refine CC.no rfl ?_ | refine CC.block ?_ | refine EE.thenN ?_ | refine LL.nil ?_ | refine CC.exit ?_ | refine CC.ret ?_ | refine CC.skip ?_ | refine EE.thenX ?_ | refine EE.thenR ?_ | refine EE.inN ?_ | refine EE.inX ?_ | refine EE.inX' rfl ?_ | refine EE.inR ?_ | refine CC.label ?_ | refine EE.thenG ?_ | refine EE.inG ?_) | (first | refine LL.val (R.move rfl rfl) rfl rfl rfl ?_ | refine LL.val (R.assign rfl rfl) rfl rfl rfl ?_ | refine LL.val (R.nil rfl rfl) rfl rfl rfl ?_ | refine LL.val (R.field rfl rfl (I.fld rfl)) rfl rfl rfl ?_ | refine LL.val (R.load rfl rfl (I.ld1 rfl (by assumption))) rfl rfl rfl ?_ | refine LL.val (R.load rfl rfl (I.ld1 rfl (RowL.cell (by assumption) rfl))) rfl rfl rfl ?_ | refine LL.val (R.index rfl rfl rfl (I.ixA1c rfl rfl (by first | omega | decide))) rfl rfl rfl ?_ | refine LL.val (R.index rfl rfl rfl (I.ixS1c rfl rfl (by omega))) rfl rfl rfl ?_ | refine LL.val (R.index rfl rfl rfl (I.ixAc rfl rfl (by first | omega | decide))) rfl rfl rfl ?_ | refine LL.val (R.index rfl rfl rfl (I.ixSc rfl rfl (by omega))) rfl rfl rfl ?_ | refine LL.val (R.index rfl rfl rfl (I.ixA1 rfl (by omega))) rfl rfl rfl ?_ | refine LL.val (R.index rfl rfl rfl (I.ixS1 rfl (by omega))) rfl rfl rfl ?_ | refine LL.val (R.index rfl rfl rfl (I.ixA rfl (by omega))) rfl rfl rfl ?_ | refine LL.val (R.index rfl rfl rfl (I.ixS rfl (by omega))) rfl rfl rfl ?_ | refine LL.val (R.ltT rfl rfl rfl (by omega)) rfl rfl rfl ?_ | refine LL.val (R.ltF rfl rfl rfl (by omega)) rfl rfl rfl ?_ | refine LL.val (R.addNc rfl rfl rfl rfl (by omega)) rfl rfl rfl ?_ | refine LL.val (R.subNc rfl rfl rfl rfl (by omega) (by omega)) rfl rfl rfl ?_ | refine LL.val (R.addN rfl rfl rfl (by omega)) rfl rfl rfl ?_ | refine LL.val (R.subN rfl rfl rfl (by omega) (by omega)) rfl rfl rfl ?_ | refine LL.val (R.subcN rfl rfl rfl rfl (by omega) (by omega)) rfl rfl rfl ?_ | refine LL.val (R.addI rfl rfl rfl (by omega)) rfl rfl rfl ?_ | refine LL.val (R.subI rfl rfl rfl (by omega)) rfl rfl rfl ?_ | refine LL.val (R.mulNc rfl rfl rfl rfl (by omega)) rfl rfl rfl ?_ | refine LL.val (R.mulcN rfl rfl rfl rfl (by omega)) rfl rfl rfl ?_ | refine LL.val (R.quoNc rfl rfl rfl rfl (by omega) (by omega)) rfl rfl rfl ?_ | refine LL.val (R.remNc rfl rfl rfl rfl (by omega)) rfl rfl rfl ?_ | refine LL.val (R.mulN rfl rfl rfl (by omega)) rfl rfl rfl ?_ | refine LL.val (R.quoN rfl rfl rfl (by omega) (by omega)) rfl rfl rfl ?_ | refine LL.val (R.remN rfl rfl rfl (by omega)) rfl rfl rfl ?_ | refine LL.val (R.leT rfl rfl rfl (by omega)) rfl rfl rfl ?_ | refine LL.val (R.leF rfl rfl rfl (by omega)) rfl rfl rfl ?_ | refine LL.val (R.gtT rfl rfl rfl (by omega)) rfl rfl rfl ?_ | refine LL.val (R.gtF rfl rfl rfl (by omega)) rfl rfl rfl ?_ | refine LL.val (R.geT rfl rfl rfl (by omega)) rfl rfl rfl ?_ | refine LL.val (R.geF rfl rfl rfl (by omega)) rfl rfl rfl ?_ | refine LL.val (R.eqT rfl rfl rfl (by omega)) rfl rfl rfl ?_ | refine LL.val (R.eqF rfl rfl rfl (by omega)) rfl rfl rfl ?_ | refine LL.val (R.neT rfl rfl rfl (by omega)) rfl rfl rfl ?_ | refine LL.val (R.neF rfl rfl rfl (by omega)) rfl rfl rfl ?_ | refine LL.val (R.eqPtr rfl rfl rfl rfl rfl) rfl rfl rfl ?_ | refine LL.val (R.nePtr rfl rfl rfl rfl rfl) rfl rfl rfl ?_ | refine LL.val (R.eqSl rfl rfl rfl rfl rfl) rfl rfl rfl ?_ | refine LL.val (R.neSl rfl rfl rfl rfl rfl) rfl rfl rfl ?_ | refine LL.val (R.eqFn rfl rfl rfl rfl) rfl rfl rfl ?_ | refine LL.val (R.eqBool rfl rfl rfl rfl rfl) rfl rfl rfl ?_ | refine LL.val (R.neBool rfl rfl rfl rfl rfl) rfl rfl rfl ?_ | refine LL.val (R.xorU rfl rfl rfl (by first | omega | decide) (by first | omega | decide)) rfl rfl rfl ?_ | refine LL.val (R.addUN rfl rfl rfl (by omega)) rfl rfl rfl ?_ | refine LL.val (R.not rfl rfl) rfl rfl rfl ?_ | refine LL.val (R.lenS rfl rfl rfl rfl) rfl rfl rfl ?_ | refine LL.val (R.len rfl rfl rfl rfl) rfl rfl rfl ?_ | refine LL.val (R.pick rfl rfl rfl) rfl rfl rfl ?_ | refine LL.val (R.extract rfl rfl rfl) rfl rfl rfl ?_ | refine LL.val (R.func rfl rfl rfl) rfl rfl rfl ?_ | refine LL.val (R.slice rfl rfl rfl rfl rfl (I.slA rfl)) rfl rfl rfl ?_ | refine LL.val (R.slice rfl rfl rfl rfl rfl (I.slAto rfl (by omega))) rfl rfl rfl ?_) | refine LL.skip rfl rfl ?_))
        refine EE.ret _ rfl rfl ?_
        refine ⟨?_, hbw.drew⟩
        have : xs ≠ ys := fun e => hst (by rw [e, ht2] at hs; exact (Option.some.inj hs).symm)
        simp [resV, this]
    · obtain rfl : i = N := by omega
      rw [List.take_of_length_le (by omega), List.take_of_length_le (by omega)] at ht
      (repeat (first | (first | refine CC.seq ?_ | refine CC.region ?_ | refine LL.nilS ?_ | refine CC.yes rfl ?_ | refine CC.no rfl ?_ | refine CC.block ?_ | refine EE.thenN ?_ | refine LL.nil ?_ | refine CC.exit ?_ | refine CC.ret ?_ | refine CC.skip ?_ | refine EE.thenX ?_ | refine EE.thenR ?_ | refine EE.inN ?_ | refine EE.inX ?_ | refine EE.inX' rfl ?_ | refine EE.inR ?_ | refine CC.label ?_ | refine EE.thenG ?_ | refine EE.inG ?_) | (first | refine LL.val (R.move rfl rfl) rfl rfl rfl ?_ | refine LL.val (R.assign rfl rfl) rfl rfl rfl ?_ | refine LL.val (R.nil rfl rfl) rfl rfl rfl ?_ | refine LL.val (R.field rfl rfl (I.fld rfl)) rfl rfl rfl ?_ | refine LL.val (R.load rfl rfl (I.ld1 rfl (by assumption))) rfl rfl rfl ?_ | refine LL.val (R.load rfl rfl (I.ld1 rfl (RowL.cell (by assumption) rfl))) rfl rfl rfl ?_ | refine LL.val (R.index rfl rfl rfl (I.ixA1c rfl rfl (by first | omega | decide))) rfl rfl rfl ?_ | refine LL.val (R.index rfl rfl rfl (I.ixS1c rfl rfl (by omega))) rfl rfl rfl ?_ | refine LL.val (R.index rfl rfl rfl (I.ixAc rfl rfl (by first | omega | decide))) rfl rfl rfl ?_ | refine LL.val (R.index rfl rfl rfl (I.ixSc rfl rfl (by omega))) rfl rfl rfl ?_ | refine LL.val (R.index rfl rfl rfl (I.ixA1 rfl (by omega))) rfl rfl rfl ?_ | refine LL.val (R.index rfl rfl rfl (I.ixS1 rfl (by omega))) rfl rfl rfl ?_ | refine LL.val (R.index rfl rfl rfl (I.ixA rfl (by omega))) rfl rfl rfl ?_ | refine LL.val (R.index rfl rfl rfl (I.ixS rfl (by omega))) rfl rfl rfl ?_ | refine LL.val (R.ltT rfl rfl rfl (by omega)) rfl rfl rfl ?_ | refine LL.val (R.ltF rfl rfl rfl (by omega)) rfl rfl rfl ?_ | refine LL.val (R.addNc rfl rfl rfl rfl (by omega)) rfl rfl rfl ?_ | refine LL.val (R.subNc rfl rfl rfl rfl (by omega) (by omega)) rfl rfl rfl ?_ | refine LL.val (R.addN rfl rfl rfl (by omega)) rfl rfl rfl ?_ | refine LL.val (R.subN rfl rfl rfl (by omega) (by omega)) rfl rfl rfl ?_ | refine LL.val (R.subcN rfl rfl rfl rfl (by omega) (by omega)) rfl rfl rfl ?_ | refine LL.val (R.addI rfl rfl rfl (by omega)) rfl rfl rfl ?_ | refine LL.val (R.subI rfl rfl rfl (by omega)) rfl rfl rfl ?_ | refine LL.val (R.mulNc rfl rfl rfl rfl (by omega)) rfl rfl rfl ?_ | refine LL.val (R.mulcN rfl rfl rfl rfl (by omega)) rfl rfl rfl ?_ | refine LL.val (R.quoNc rfl rfl rfl rfl (by omega) (by omega)) rfl rfl rfl ?_ | refine LL.val (R.remNc rfl rfl rfl rfl (by omega)) rfl rfl rfl ?_ | refine LL.val (R.mulN rfl rfl rfl (by omega)) rfl rfl rfl ?_ | refine LL.val (R.quoN rfl rfl rfl (by omega) (by omega)) rfl rfl rfl ?_ | refine LL.val (R.remN rfl rfl rfl (by omega)) rfl rfl rfl ?_ | refine LL.val (R.leT rfl rfl rfl (by omega)) rfl rfl rfl ?_ | refine LL.val (R.leF rfl rfl rfl (by omega)) rfl rfl rfl ?_ | refine LL.val (R.gtT rfl rfl rfl (by omega)) rfl rfl rfl ?_ | refine LL.val (R.gtF rfl rfl rfl (by omega)) rfl rfl rfl ?_ | refine LL.val (R.geT rfl rfl rfl (by omega)) rfl rfl rfl ?_ | refine LL.val (R.geF rfl rfl rfl (by omega)) rfl rfl rfl ?_ | refine LL.val (R.eqT rfl rfl rfl (by omega)) rfl rfl rfl ?_ | refine LL.val (R.eqF rfl rfl rfl (by omega)) rfl rfl rfl ?_ | refine LL.val (R.neT rfl rfl rfl (by omega)) rfl rfl rfl ?_ | refine LL.val (R.neF rfl rfl rfl (by omega)) rfl rfl rfl ?_ | refine LL.val (R.eqPtr rfl rfl rfl rfl rfl) rfl rfl rfl ?_ | refine LL.val (R.nePtr rfl rfl rfl rfl rfl) rfl rfl rfl ?_ | refine LL.val (R.eqSl rfl rfl rfl rfl rfl) rfl rfl rfl ?_ | refine LL.val (R.neSl rfl rfl rfl rfl rfl) rfl rfl rfl ?_ | refine LL.val (R.eqFn rfl rfl rfl rfl) rfl rfl rfl ?_ | refine LL.val (R.eqBool rfl rfl rfl rfl rfl) rfl rfl rfl ?_ | refine LL.val (R.neBool rfl rfl rfl rfl rfl) rfl rfl rfl ?_ | refine LL.val (R.xorU rfl rfl rfl (by first | omega | decide) (by first | omega | decide)) rfl rfl rfl ?_ | refine LL.val (R.addUN rfl rfl rfl (by omega)) rfl rfl rfl ?_ | refine LL.val (R.not rfl rfl) rfl rfl rfl ?_ | refine LL.val (R.lenS rfl rfl rfl rfl) rfl rfl rfl ?_ | refine LL.val (R.len rfl rfl rfl rfl) rfl rfl rfl ?_ | refine LL.val (R.pick rfl rfl rfl) rfl rfl rfl ?_ | refine LL.val (R.extract rfl rfl rfl) rfl rfl rfl ?_ | refine LL.val (R.func rfl rfl rfl) rfl rfl rfl ?_ | refine LL.val (R.slice rfl rfl rfl rfl rfl (I.slA rfl)) rfl rfl rfl ?_ | refine LL.val (R.slice rfl rfl rfl rfl rfl (I.slAto rfl (by omega))) rfl rfl rfl ?_) | refine LL.skip rfl rfl ?_))
      refine EE.ret _ rfl rfl ?_
      exact ⟨by simp [resV, ht], hbw⟩
  · (repeat (first | (first | refine CC.seq ?_ | refine CC.region ?_ | refine LL.nilS ?_ | refine CC.yes rfl ?_ | refine CC.no rfl ?_ | refine CC.block ?_ | refine EE.thenN ?_ | refine LL.nil ?_ | refine CC.exit ?_ | refine CC.ret ?_ | refine CC.skip ?_ | refine EE.thenX ?_ | refine EE.thenR ?_ | refine EE.inN ?_ | refine EE.inX ?_ | refine EE.inX' rfl ?_ | refine EE.inR ?_ | refine CC.label ?_ | refine EE.thenG ?_ | refine EE.inG ?_) | (first | refine LL.val (R.move rfl rfl) rfl rfl rfl ?_ | refine LL.val (R.assign rfl rfl) rfl rfl rfl ?_ | refine LL.val (R.nil rfl rfl) rfl rfl rfl ?_ | refine LL.val (R.field rfl rfl (I.fld rfl)) rfl rfl rfl ?_ | refine LL.val (R.load rfl rfl (I.ld1 rfl (by assumption))) rfl rfl rfl ?_ | refine LL.val (R.load rfl rfl (I.ld1 rfl (RowL.cell (by assumption) rfl))) rfl rfl rfl ?_ | refine LL.val (R.index rfl rfl rfl (I.ixA1c rfl rfl (by first | omega | decide))) rfl rfl rfl ?_ | refine LL.val (R.index rfl rfl rfl (I.ixS1c rfl rfl (by omega))) rfl rfl rfl ?_ | refine LL.val (R.index rfl rfl rfl (I.ixAc rfl rfl (by first | omega | decide))) rfl rfl rfl ?_ | refine LL.val (R.index rfl rfl rfl (I.ixSc rfl rfl (by omega))) rfl rfl rfl ?_ | refine LL.val (R.index rfl rfl rfl (I.ixA1 rfl (by omega))) rfl rfl rfl ?_ | refine LL.val (R.index rfl rfl rfl (I.ixS1 rfl (by omega))) rfl rfl rfl ?_ | refine LL.val (R.index rfl rfl rfl (I.ixA rfl (by omega))) rfl rfl rfl ?_ | refine LL.val (R.index rfl rfl rfl (I.ixS rfl (by omega))) rfl rfl rfl ?_ | refine LL.val (R.ltT rfl rfl rfl (by omega)) rfl rfl rfl ?_ | refine LL.val (R.ltF rfl rfl rfl (by omega)) rfl rfl rfl ?_ | refine LL.val (R.addNc rfl rfl rfl rfl (by omega)) rfl rfl rfl ?_ | refine LL.val (R.subNc rfl rfl rfl rfl (by omega) (by omega)) rfl rfl rfl ?_ | refine LL.val (R.addN rfl rfl rfl (by omega)) rfl rfl rfl ?_ | refine LL.val (R.subN rfl rfl rfl (by omega) (by omega)) rfl rfl rfl ?_ | refine LL.val (R.subcN rfl rfl rfl rfl (by omega) (by omega)) rfl rfl rfl ?_ | refine LL.val (R.addI rfl rfl rfl (by omega)) rfl rfl rfl ?_ | refine LL.val (R.subI rfl rfl rfl (by omega)) rfl rfl rfl ?_ | refine LL.val (R.mulNc rfl rfl rfl rfl (by omega)) rfl rfl rfl ?_ | refine LL.val (R.mulcN rfl rfl rfl rfl (by omega)) rfl rfl rfl ?_ | refine LL.val (R.quoNc rfl rfl rfl rfl (by omega) (by omega)) rfl rfl rfl ?_ | refine LL.val (R.remNc rfl rfl rfl rfl (by omega)) rfl rfl rfl ?_ | refine LL.val (R.mulN rfl rfl rfl (by omega)) rfl rfl rfl ?_ | refine LL.val (R.quoN rfl rfl rfl (by omega) (by omega)) rfl rfl rfl ?_ | refine LL.val (R.remN rfl rfl rfl (by omega)) rfl rfl rfl ?_ | refine LL.val (R.leT rfl rfl rfl (by omega)) rfl rfl rfl ?_ | refine LL.val (R.leF rfl rfl rfl (by omega)) rfl rfl rfl ?_ | refine LL.val (R.gtT rfl rfl rfl (by omega)) rfl rfl rfl ?_ | refine LL.val (R.gtF rfl rfl rfl (by omega)) rfl rfl rfl ?_ | refine LL.val (R.geT rfl rfl rfl (by omega)) rfl rfl rfl ?_ | refine LL.val (R.geF rfl rfl rfl (by omega)) rfl rfl rfl ?_ | refine LL.val (R.eqT rfl rfl rfl (by omega)) rfl rfl rfl ?_ | refine LL.val (R.eqF rfl rfl rfl (by omega)) rfl rfl rfl ?_ | refine LL.val (R.neT rfl rfl rfl (by omega)) rfl rfl rfl ?_ | refine LL.val (R.neF rfl rfl rfl (by omega)) rfl rfl rfl ?_ | refine LL.val (R.eqPtr rfl rfl rfl rfl rfl) rfl rfl rfl ?_ | refine LL.val (R.nePtr rfl rfl rfl rfl rfl) rfl rfl rfl ?_ | refine LL.val (R.eqSl rfl rfl rfl rfl rfl) rfl rfl rfl ?_ | refine LL.val (R.neSl rfl rfl rfl rfl rfl) rfl rfl rfl ?_ | refine LL.val (R.eqFn rfl rfl rfl rfl) rfl rfl rfl ?_ | refine LL.val (R.eqBool rfl rfl rfl rfl rfl) rfl rfl rfl ?_ | refine LL.val (R.neBool rfl rfl rfl rfl rfl) rfl rfl rfl ?_ | refine LL.val (R.xorU rfl rfl rfl (by first | omega | decide) (by first | omega | decide)) rfl rfl rfl ?_ | refine LL.val (R.addUN rfl rfl rfl (by omega)) rfl rfl rfl ?_ | refine LL.val (R.not rfl rfl) rfl rfl rfl ?_ | refine LL.val (R.lenS rfl rfl rfl rfl) rfl rfl rfl ?_ | refine LL.val (R.len rfl rfl rfl rfl) rfl rfl rfl ?_ | refine LL.val (R.pick rfl rfl rfl) rfl rfl rfl ?_ | refine LL.val (R.extract rfl rfl rfl) rfl rfl rfl ?_ | refine LL.val (R.func rfl rfl rfl) rfl rfl rfl ?_ | refine LL.val (R.slice rfl rfl rfl rfl rfl (I.slA rfl)) rfl rfl rfl ?_ | refine LL.val (R.slice rfl rfl rfl rfl rfl (I.slAto rfl (by omega))) rfl rfl rfl ?_) | refine LL.skip rfl rfl ?_))
    refine EE.ret _ rfl rfl ?_
    have : xs ≠ ys := fun e => hne (by rw [← hN, ← hN2, e])
    exact ⟨by simp [resV, this], Below.refl _ _⟩

set_option maxRecDepth 100000
set_option maxHeartbeats 8000000
theorem num_any (z : Int) (w : World) : Calls Try.prog 15 #[.int .i64 z] w fun e w' => e = .returned (.int .i64 z) ∧ w = w' := by
  refine X.fn Try.func15 rfl (n := 4) rfl rfl ?_
  refine CC.seq ?_
  refine CC.region ?_
  refine LL.val (R.assign rfl rfl) rfl rfl rfl ?_
  refine LL.nilS ?_
  refine CC.seq ?_
  refine CC.region ?_
  refine LL.val (R.move rfl rfl) rfl rfl rfl ?_
  refine LL.val (R.assign rfl rfl) rfl rfl rfl ?_
  refine LL.nilS ?_
  refine CC.ret ?_
  refine EE.ret _ rfl rfl ?_
  exact ⟨rfl, rfl⟩
theorem lent_any (n : Nat) (v : Value) (l : List Nat) (w : World) (hv : ReadsT uE 1 w v l) (hN : l.length = n) (hlen : n ≤ 1048576) : Calls Try.prog 12 #[v] w fun e w' => ∃ g cap, e = .returned (.slice (some ⟨g, 0, none⟩) n cap) ∧ ReadsT uE 1 w' (.slice (some ⟨g, 0, none⟩) (n + 1) cap) (l ++ [77]) ∧ n + 1 ≤ cap ∧ w.heap.size ≤ g ∧ Below w.heap.size w w' := by
  have q := Below.refl w.heap.size w
  obtain ⟨a, cap, rfl, hcap⟩ := hv.form hN
  refine X.fn Try.func12 rfl (n := 11) rfl rfl ?_
  refine CC.seq ?_
  refine CC.region ?_
  refine LL.val (R.assign rfl rfl) rfl rfl rfl ?_
  refine LL.nilS ?_
  refine CC.seq ?_
  refine CC.region ?_
  refine LL.lit (e := 22) [] 0 rfl rfl (fun _ => by kernel_rfl) rfl rfl ?_
  intro W2 g3 eg3 r4 z5 b1
  replace q := q.trans (b1.mono q.size)
  replace hv := hv.up b1
  refine LL.val (R.move rfl rfl) rfl rfl rfl ?_
  have yq := q.size
  refine LL.appendT2 rfl rfl uEnc ElU (RowL.ownsT (base := w.heap.size) (ts := ([] : List Nat)) uEnc (by assumption) (by omega) (by simp)) hv (by simp [maxLen]; omega) (by simp; omega) (by omega) rfl rfl ?_
  intro v0 Wa o gra hva
  rw [List.nil_append] at o
  replace q := q.grown gra (by omega) (by rintro k ⟨⟩; show w.heap.size ≤ g3; omega)
  clear hv r4 hva
  have yq := q.size
  refine LL.lit (e := 22) [Value.int IntKind.u64 77] 1 rfl rfl (fun _ => by kernel_rfl) rfl rfl ?_
  intro Wa2 ga3 ega3 ra4 za5 ba1
  replace o := o.up ba1
  replace q := q.trans (ba1.mono q.size)
  have yq := q.size
  refine LL.appendT2 rfl rfl uEnc ElU o (RowL.readsT (ts := [77]) uEnc (by assumption) 1 (by simp)) (by simp [maxLen]; omega) (by simp; omega) (by omega) rfl rfl ?_
  intro v1 Wb o1 grb hvb
  replace q := q.grown grb (by omega) (fun g hg => by have := own_ge o g hg; omega)
  obtain ⟨g, cp, rfl, hbg, hgl, hnc⟩ := ownsT_form (N := n + 1) o1 (by simp [hN]) (by omega)
  have hr1 := o1.reads uEnc
  refine LL.val (R.move rfl rfl) rfl rfl rfl ?_
  refine LL.val (R.len rfl rfl rfl rfl) rfl rfl rfl ?_
  refine LL.val (R.slice rfl rfl rfl rfl rfl (I.slTo rfl (by omega))) rfl rfl rfl ?_
  refine LL.val (R.assign rfl rfl) rfl rfl rfl ?_
  refine LL.nilS ?_
  refine CC.ret ?_
  refine EE.ret _ rfl rfl ?_
  exact ⟨g, cp, rfl, hr1, hnc, by omega, q⟩
abbrev rowA : List Nat := [1, 4, 3, 6, 0, 0, 0, 0]
abbrev rowB : List Nat := [1, 4, 7, 4, 3, 6, 0, 0]
theorem stl_dec {left : Nat} {s : List Nat} {n : Nat} (h : n < s.length / 2 ∧ (∀ j, j < n → ptrN s j ≠ 0 ∧ ptrN s j ≠ left ∧ (∀ i, i < j → ptrN s i ≠ ptrN s j) ∧ (j + 1 < n → keyN s j < keyN s (j + 1))) ∧ ∀ j, j < s.length / 2 → n ≤ j → ptrN s j = 0) : Stl left s n :=
  ⟨h.1, fun j hj => (h.2.1 j hj).1, fun j h1 h2 => h.2.2 j h2 h1, fun j hj => (h.2.1 j hj).2.1, fun i j hij hj => (h.2.1 j hj).2.2.1 i hij, fun j hj => (h.2.1 j (by omega)).2.2.2 hj⟩
theorem stlA : Stl 9 rowA 2 := stl_dec (by decide)
theorem setA : setP 9 rowA := setP_iff.2 ⟨2, stlA⟩
theorem noA : ¬ noRow 9 8 := by unfold noRow; decide
theorem putA_eq : putF 9 rowA 2 5 = (0, [(7, 0), (5, 6), (4, 3), (3, 4), (2, 2), (3, 5)]) := by
  unfold putF
  rw [if_neg (show ¬ noRow 9 rowA.length from noA), if_neg (by decide), if_neg (fun h => h setA), if_neg (fun ⟨j, hj, e⟩ => (by decide : ∀ j, j < overN rowA → ptrN rowA j ≠ 5) j hj e), if_neg (fun ⟨j, hj, e⟩ => (by decide : ∀ j, j < overN rowA → keyN rowA j ≠ 2) j hj e), if_neg (by decide)]
  rfl
theorem takeA_eq : takeF 9 rowA 1 = (0, [(1, 9), (0, 3), (1, 6), (3, 0)]) := by
  unfold takeF
  rw [if_neg (show ¬ noRow 9 rowA.length from noA), if_neg (fun h => h setA), if_pos ⟨0, by decide, by decide⟩]
  rfl
theorem tidyB_eq : tidyF 9 rowB = (0, [(2, 3), (3, 6), (5, 0)]) := by
  have e : tidyL 9 rowB = [(2, 3), (3, 6), (5, 0)] := by rfl
  unfold tidyF
  rw [if_neg (show ¬ noRow 9 rowB.length from noA), e, if_pos (setP_iff.2 ⟨2, stl_dec (by decide)⟩)]
theorem readB_eq : readF 9 rowB = [(1, 4), (3, 6)] := by
  unfold readF
  rw [if_neg (show ¬ noRow 9 rowB.length from noA)]
  rfl
theorem works_any (w : World) : Calls Try.prog 9 #[] w fun e w' => e = .returned (.bool true) ∧ Below w.heap.size w w' := by
  have q := Below.refl w.heap.size w
  refine X.fn Try.func9 rfl (n := 69) rfl rfl ?_
  refine CC.seq ?_
  refine CC.region ?_
  refine LL.val (R.assign rfl rfl) rfl rfl rfl ?_
  refine LL.nilS ?_
  refine CC.seq ?_
  refine CC.region ?_
  refine LL.lit (e := 22) [Value.int IntKind.u64 1, Value.int IntKind.u64 4, Value.int IntKind.u64 3, Value.int IntKind.u64 6, Value.int IntKind.u64 0, Value.int IntKind.u64 0, Value.int IntKind.u64 0, Value.int IntKind.u64 0] 8 rfl rfl (fun _ => by kernel_rfl) rfl rfl ?_
  intro W114 g115 eg115 r116 z117 b113
  replace q := q.trans (b113.mono q.size)
  refine LL.val (R.buildV rfl rfl (v := .agg #[Value.int IntKind.u64 2, Value.int IntKind.u64 5]) (fun _ => by kernel_rfl)) rfl rfl rfl ?_
  have l186 := r116.lt
  (refine LL.call (R.call rfl rfl rfl) rfl rfl rfl (put_any 9 8 2 5 _ rowA _ (RowL.readsT uEnc (ts := rowA) (by assumption) 8 (by decide)) rfl (by decide)) ?_; rintro e W185 ⟨va, rfl, oa, b182⟩; refine ⟨_, rfl, ?_⟩; rw [putA_eq] at oa ⊢)
  have zb182 := b182.size
  replace r116 := r116.up b182
  replace b113 := b113.trans (b182.mono b113.size)
  replace q := q.trans (b182.mono q.size)
  refine LL.val (R.move rfl rfl) rfl rfl rfl ?_
  refine LL.val (R.extract rfl rfl rfl) rfl rfl rfl ?_
  refine LL.val (R.extract rfl rfl rfl) rfl rfl rfl ?_
  refine LL.val (R.assign rfl rfl) rfl rfl rfl ?_
  refine LL.val (R.assign rfl rfl) rfl rfl rfl ?_
  refine LL.nilS ?_
  refine CC.seq ?_
  refine CC.region ?_
  have l574 := r116.lt
  refine LL.lit (e := 22) [Value.int IntKind.u64 1, Value.int IntKind.u64 4, Value.int IntKind.u64 3, Value.int IntKind.u64 6, Value.int IntKind.u64 0, Value.int IntKind.u64 0, Value.int IntKind.u64 0, Value.int IntKind.u64 0] 8 rfl rfl (fun _ => by kernel_rfl) rfl rfl ?_
  intro W576 g577 eg577 r578 z579 b575
  replace oa := oa.up b575
  replace b182 := b182.trans (b575.mono b182.size)
  replace r116 := r116.up b575
  replace b113 := b113.trans (b575.mono b113.size)
  replace q := q.trans (b575.mono q.size)
  have l593 := r578.lt
  have l594 := r116.lt
  (refine LL.call (R.call rfl rfl rfl) rfl rfl rfl (take_any 9 8 1 _ rowA _ (RowL.readsT uEnc (ts := rowA) (by assumption) 8 (by decide)) rfl (by decide)) ?_; rintro e W592 ⟨vb, rfl, ob, b589⟩; refine ⟨_, rfl, ?_⟩; rw [takeA_eq] at ob ⊢)
  have zb589 := b589.size
  replace r578 := r578.up b589
  replace b575 := b575.trans (b589.mono b575.size)
  replace oa := oa.up b589
  replace b182 := b182.trans (b589.mono b182.size)
  replace r116 := r116.up b589
  replace b113 := b113.trans (b589.mono b113.size)
  replace q := q.trans (b589.mono q.size)
  refine LL.val (R.move rfl rfl) rfl rfl rfl ?_
  refine LL.val (R.extract rfl rfl rfl) rfl rfl rfl ?_
  refine LL.val (R.extract rfl rfl rfl) rfl rfl rfl ?_
  refine LL.val (R.assign rfl rfl) rfl rfl rfl ?_
  refine LL.val (R.assign rfl rfl) rfl rfl rfl ?_
  refine LL.nilS ?_
  refine CC.seq ?_
  refine CC.region ?_
  have l1030 := r578.lt
  have l1031 := r116.lt
  refine LL.lit (e := 22) [Value.int IntKind.u64 1, Value.int IntKind.u64 4, Value.int IntKind.u64 7, Value.int IntKind.u64 4, Value.int IntKind.u64 3, Value.int IntKind.u64 6, Value.int IntKind.u64 0, Value.int IntKind.u64 0] 8 rfl rfl (fun _ => by kernel_rfl) rfl rfl ?_
  intro W1033 g1034 eg1034 r1035 z1036 b1032
  replace ob := ob.up b1032
  replace b589 := b589.trans (b1032.mono b589.size)
  replace r578 := r578.up b1032
  replace b575 := b575.trans (b1032.mono b575.size)
  replace oa := oa.up b1032
  replace b182 := b182.trans (b1032.mono b182.size)
  replace r116 := r116.up b1032
  replace b113 := b113.trans (b1032.mono b113.size)
  replace q := q.trans (b1032.mono q.size)
  refine LL.val (R.assign rfl rfl) rfl rfl rfl ?_
  refine LL.nilS ?_
  refine CC.seq ?_
  refine CC.region ?_
  refine LL.val (R.move rfl rfl) rfl rfl rfl ?_
  have l1221 := r1035.lt
  have l1222 := r578.lt
  have l1223 := r116.lt
  (refine LL.call (R.call rfl rfl rfl) rfl rfl rfl (tidy_any 9 8 _ rowB _ (RowL.readsT uEnc (ts := rowB) (by assumption) 8 (by decide)) rfl (by decide)) ?_; rintro e W1220 ⟨vc, rfl, oc, b1217⟩; refine ⟨_, rfl, ?_⟩; rw [tidyB_eq] at oc ⊢)
  have zb1217 := b1217.size
  replace r1035 := r1035.up b1217
  replace b1032 := b1032.trans (b1217.mono b1032.size)
  replace ob := ob.up b1217
  replace b589 := b589.trans (b1217.mono b589.size)
  replace r578 := r578.up b1217
  replace b575 := b575.trans (b1217.mono b575.size)
  replace oa := oa.up b1217
  replace b182 := b182.trans (b1217.mono b182.size)
  replace r116 := r116.up b1217
  replace b113 := b113.trans (b1217.mono b113.size)
  replace q := q.trans (b1217.mono q.size)
  refine LL.val (R.move rfl rfl) rfl rfl rfl ?_
  refine LL.val (R.extract rfl rfl rfl) rfl rfl rfl ?_
  refine LL.val (R.extract rfl rfl rfl) rfl rfl rfl ?_
  refine LL.val (R.assign rfl rfl) rfl rfl rfl ?_
  refine LL.val (R.assign rfl rfl) rfl rfl rfl ?_
  refine LL.nilS ?_
  refine CC.seq ?_
  refine CC.seq ?_
  refine CC.region ?_
  refine LL.val (R.move rfl rfl) rfl rfl rfl ?_
  refine LL.call (R.call rfl rfl rfl) rfl rfl rfl (num_any _ _) ?_
  rintro e W' ⟨rfl, rfl⟩
  refine ⟨_, rfl, ?_⟩
  refine LL.val (R.move rfl rfl) rfl rfl rfl ?_
  refine LL.call (R.call rfl rfl rfl) rfl rfl rfl (num_any _ _) ?_
  rintro e W' ⟨rfl, rfl⟩
  refine ⟨_, rfl, ?_⟩
  refine LL.val (R.addIz (z := 0) rfl rfl rfl (by decide) (by decide)) rfl rfl rfl ?_
  refine LL.val (R.move rfl rfl) rfl rfl rfl ?_
  refine LL.call (R.call rfl rfl rfl) rfl rfl rfl (num_any _ _) ?_
  rintro e W' ⟨rfl, rfl⟩
  refine ⟨_, rfl, ?_⟩
  refine LL.val (R.addIz (z := 0) rfl rfl rfl (by decide) (by decide)) rfl rfl rfl ?_
  refine LL.val (R.neF rfl rfl rfl (by omega)) rfl rfl rfl ?_
  refine LL.val (R.move rfl rfl) rfl rfl rfl ?_
  refine LL.val (R.move rfl rfl) rfl rfl rfl ?_
  have l2541 := r1035.lt
  have l2542 := r578.lt
  have l2543 := r116.lt
  (refine LL.call (R.call rfl rfl rfl) rfl rfl rfl (read_any 9 8 _ rowB _ (RowL.readsT uEnc (ts := rowB) (by assumption) 8 (by decide)) rfl (by decide)) ?_; rintro e W2540 ⟨vr, rfl, orr, b2537⟩; refine ⟨_, rfl, ?_⟩; rw [readB_eq] at orr)
  have zb2537 := b2537.size
  replace oc := oc.up b2537
  replace b1217 := b1217.trans (b2537.mono b1217.size)
  replace r1035 := r1035.up b2537
  replace b1032 := b1032.trans (b2537.mono b1032.size)
  replace ob := ob.up b2537
  replace b589 := b589.trans (b2537.mono b589.size)
  replace r578 := r578.up b2537
  replace b575 := b575.trans (b2537.mono b575.size)
  replace oa := oa.up b2537
  replace b182 := b182.trans (b2537.mono b182.size)
  replace r116 := r116.up b2537
  replace b113 := b113.trans (b2537.mono b113.size)
  replace q := q.trans (b2537.mono q.size)
  refine LL.val (R.buildV rfl rfl (v := .agg #[Value.int IntKind.u64 1, Value.int IntKind.u64 4]) (fun _ => by kernel_rfl)) rfl rfl rfl ?_
  refine LL.val (R.buildV rfl rfl (v := .agg #[Value.int IntKind.u64 3, Value.int IntKind.u64 6]) (fun _ => by kernel_rfl)) rfl rfl rfl ?_
  have l2787 := r1035.lt
  have l2788 := r578.lt
  have l2789 := r116.lt
  refine LL.lit (e := 41) [Value.int IntKind.u64 1, Value.int IntKind.u64 4, Value.int IntKind.u64 3, Value.int IntKind.u64 6] 2 rfl rfl (fun _ => by kernel_rfl) rfl rfl ?_
  intro W2791 g2792 eg2792 r2793 z2794 b2790
  replace orr := orr.up b2790
  replace b2537 := b2537.trans (b2790.mono b2537.size)
  replace oc := oc.up b2790
  replace b1217 := b1217.trans (b2790.mono b1217.size)
  replace r1035 := r1035.up b2790
  replace b1032 := b1032.trans (b2790.mono b1032.size)
  replace ob := ob.up b2790
  replace b589 := b589.trans (b2790.mono b589.size)
  replace r578 := r578.up b2790
  replace b575 := b575.trans (b2790.mono b575.size)
  replace oa := oa.up b2790
  replace b182 := b182.trans (b2790.mono b182.size)
  replace r116 := r116.up b2790
  replace b113 := b113.trans (b2790.mono b113.size)
  replace q := q.trans (b2790.mono q.size)
  have l2843 := r2793.lt
  have l2844 := r1035.lt
  have l2845 := r578.lt
  have l2846 := r116.lt
  (refine LL.call (R.call rfl rfl rfl) rfl rfl rfl (dprsame_any _ _ [(1, 4), (3, 6)] [(1, 4), (3, 6)] _ (orr.reads prEnc) (RowL.readsT prEnc (ts := [(1, 4), (3, 6)]) (by assumption) 2 (by decide)) (by decide) (by decide)) ?_; rintro e W2842 ⟨rfl, b2839⟩; refine ⟨_, rfl, ?_⟩; rw [decide_eq_true rfl])
  have zb2839 := b2839.size
  replace r2793 := r2793.up b2839
  replace b2790 := b2790.trans (b2839.mono b2790.size)
  replace orr := orr.up b2839
  replace b2537 := b2537.trans (b2839.mono b2537.size)
  replace oc := oc.up b2839
  replace b1217 := b1217.trans (b2839.mono b1217.size)
  replace r1035 := r1035.up b2839
  replace b1032 := b1032.trans (b2839.mono b1032.size)
  replace ob := ob.up b2839
  replace b589 := b589.trans (b2839.mono b589.size)
  replace r578 := r578.up b2839
  replace b575 := b575.trans (b2839.mono b575.size)
  replace oa := oa.up b2839
  replace b182 := b182.trans (b2839.mono b182.size)
  replace r116 := r116.up b2839
  replace b113 := b113.trans (b2839.mono b113.size)
  replace q := q.trans (b2839.mono q.size)
  refine LL.val (R.not rfl rfl) rfl rfl rfl ?_
  refine LL.val (R.pick rfl rfl rfl) rfl rfl rfl ?_
  refine LL.nilS ?_
  refine CC.no rfl ?_
  refine CC.skip ?_
  refine EE.thenN ?_
  refine CC.seq ?_
  refine CC.region ?_
  refine LL.val (R.move rfl rfl) rfl rfl rfl ?_
  refine LL.val (R.buildV rfl rfl (v := .agg #[Value.int IntKind.i64 7, Value.int IntKind.u64 0]) (fun _ => by kernel_rfl)) rfl rfl rfl ?_
  refine LL.val (R.buildV rfl rfl (v := .agg #[Value.int IntKind.i64 5, Value.int IntKind.u64 6]) (fun _ => by kernel_rfl)) rfl rfl rfl ?_
  refine LL.val (R.buildV rfl rfl (v := .agg #[Value.int IntKind.i64 4, Value.int IntKind.u64 3]) (fun _ => by kernel_rfl)) rfl rfl rfl ?_
  refine LL.val (R.buildV rfl rfl (v := .agg #[Value.int IntKind.i64 3, Value.int IntKind.u64 4]) (fun _ => by kernel_rfl)) rfl rfl rfl ?_
  refine LL.val (R.buildV rfl rfl (v := .agg #[Value.int IntKind.i64 2, Value.int IntKind.u64 2]) (fun _ => by kernel_rfl)) rfl rfl rfl ?_
  refine LL.val (R.buildV rfl rfl (v := .agg #[Value.int IntKind.i64 3, Value.int IntKind.u64 5]) (fun _ => by kernel_rfl)) rfl rfl rfl ?_
  have l3730 := r2793.lt
  have l3731 := r1035.lt
  have l3732 := r578.lt
  have l3733 := r116.lt
  refine LL.lit (e := 59) [Value.int IntKind.i64 7, Value.int IntKind.u64 0, Value.int IntKind.i64 5, Value.int IntKind.u64 6, Value.int IntKind.i64 4, Value.int IntKind.u64 3, Value.int IntKind.i64 3, Value.int IntKind.u64 4, Value.int IntKind.i64 2, Value.int IntKind.u64 2, Value.int IntKind.i64 3, Value.int IntKind.u64 5] 6 rfl rfl (fun _ => by kernel_rfl) rfl rfl ?_
  intro W3735 g3736 eg3736 r3737 z3738 b3734
  replace b2839 := b2839.trans (b3734.mono b2839.size)
  replace r2793 := r2793.up b3734
  replace b2790 := b2790.trans (b3734.mono b2790.size)
  replace orr := orr.up b3734
  replace b2537 := b2537.trans (b3734.mono b2537.size)
  replace oc := oc.up b3734
  replace b1217 := b1217.trans (b3734.mono b1217.size)
  replace r1035 := r1035.up b3734
  replace b1032 := b1032.trans (b3734.mono b1032.size)
  replace ob := ob.up b3734
  replace b589 := b589.trans (b3734.mono b589.size)
  replace r578 := r578.up b3734
  replace b575 := b575.trans (b3734.mono b575.size)
  replace oa := oa.up b3734
  replace b182 := b182.trans (b3734.mono b182.size)
  replace r116 := r116.up b3734
  replace b113 := b113.trans (b3734.mono b113.size)
  replace q := q.trans (b3734.mono q.size)
  have l3803 := r3737.lt
  have l3804 := r2793.lt
  have l3805 := r1035.lt
  have l3806 := r578.lt
  have l3807 := r116.lt
  (refine LL.call (R.call rfl rfl rfl) rfl rfl rfl (psame_any _ _ [(7, 0), (5, 6), (4, 3), (3, 4), (2, 2), (3, 5)] [(7, 0), (5, 6), (4, 3), (3, 4), (2, 2), (3, 5)] _ (oa.reads pEnc) (RowL.readsT pEnc (ts := [(7, 0), (5, 6), (4, 3), (3, 4), (2, 2), (3, 5)]) (by assumption) 6 (by decide)) (by decide) (by decide)) ?_; rintro e W3802 ⟨rfl, b3799⟩; refine ⟨_, rfl, ?_⟩; rw [decide_eq_true rfl]; clear oa)
  have zb3799 := b3799.size
  replace r3737 := r3737.up b3799
  replace b3734 := b3734.trans (b3799.mono b3734.size)
  replace b2839 := b2839.trans (b3799.mono b2839.size)
  replace r2793 := r2793.up b3799
  replace b2790 := b2790.trans (b3799.mono b2790.size)
  replace orr := orr.up b3799
  replace b2537 := b2537.trans (b3799.mono b2537.size)
  replace oc := oc.up b3799
  replace b1217 := b1217.trans (b3799.mono b1217.size)
  replace r1035 := r1035.up b3799
  replace b1032 := b1032.trans (b3799.mono b1032.size)
  replace ob := ob.up b3799
  replace b589 := b589.trans (b3799.mono b589.size)
  replace r578 := r578.up b3799
  replace b575 := b575.trans (b3799.mono b575.size)
  replace b182 := b182.trans (b3799.mono b182.size)
  replace r116 := r116.up b3799
  replace b113 := b113.trans (b3799.mono b113.size)
  replace q := q.trans (b3799.mono q.size)
  refine LL.val (R.move rfl rfl) rfl rfl rfl ?_
  refine LL.val (R.move rfl rfl) rfl rfl rfl ?_
  refine LL.val (R.buildV rfl rfl (v := .agg #[Value.int IntKind.i64 1, Value.int IntKind.u64 9]) (fun _ => by kernel_rfl)) rfl rfl rfl ?_
  refine LL.val (R.buildV rfl rfl (v := .agg #[Value.int IntKind.i64 0, Value.int IntKind.u64 3]) (fun _ => by kernel_rfl)) rfl rfl rfl ?_
  refine LL.val (R.buildV rfl rfl (v := .agg #[Value.int IntKind.i64 1, Value.int IntKind.u64 6]) (fun _ => by kernel_rfl)) rfl rfl rfl ?_
  refine LL.val (R.buildV rfl rfl (v := .agg #[Value.int IntKind.i64 3, Value.int IntKind.u64 0]) (fun _ => by kernel_rfl)) rfl rfl rfl ?_
  have l4483 := r3737.lt
  have l4484 := r2793.lt
  have l4485 := r1035.lt
  have l4486 := r578.lt
  have l4487 := r116.lt
  refine LL.lit (e := 59) [Value.int IntKind.i64 1, Value.int IntKind.u64 9, Value.int IntKind.i64 0, Value.int IntKind.u64 3, Value.int IntKind.i64 1, Value.int IntKind.u64 6, Value.int IntKind.i64 3, Value.int IntKind.u64 0] 4 rfl rfl (fun _ => by kernel_rfl) rfl rfl ?_
  intro W4489 g4490 eg4490 r4491 z4492 b4488
  replace b3799 := b3799.trans (b4488.mono b3799.size)
  replace r3737 := r3737.up b4488
  replace b3734 := b3734.trans (b4488.mono b3734.size)
  replace b2839 := b2839.trans (b4488.mono b2839.size)
  replace r2793 := r2793.up b4488
  replace b2790 := b2790.trans (b4488.mono b2790.size)
  replace orr := orr.up b4488
  replace b2537 := b2537.trans (b4488.mono b2537.size)
  replace oc := oc.up b4488
  replace b1217 := b1217.trans (b4488.mono b1217.size)
  replace r1035 := r1035.up b4488
  replace b1032 := b1032.trans (b4488.mono b1032.size)
  replace ob := ob.up b4488
  replace b589 := b589.trans (b4488.mono b589.size)
  replace r578 := r578.up b4488
  replace b575 := b575.trans (b4488.mono b575.size)
  replace b182 := b182.trans (b4488.mono b182.size)
  replace r116 := r116.up b4488
  replace b113 := b113.trans (b4488.mono b113.size)
  replace q := q.trans (b4488.mono q.size)
  have l4575 := r4491.lt
  have l4576 := r3737.lt
  have l4577 := r2793.lt
  have l4578 := r1035.lt
  have l4579 := r578.lt
  have l4580 := r116.lt
  (refine LL.call (R.call rfl rfl rfl) rfl rfl rfl (psame_any _ _ [(1, 9), (0, 3), (1, 6), (3, 0)] [(1, 9), (0, 3), (1, 6), (3, 0)] _ (ob.reads pEnc) (RowL.readsT pEnc (ts := [(1, 9), (0, 3), (1, 6), (3, 0)]) (by assumption) 4 (by decide)) (by decide) (by decide)) ?_; rintro e W4574 ⟨rfl, b4571⟩; refine ⟨_, rfl, ?_⟩; rw [decide_eq_true rfl]; clear ob)
  have zb4571 := b4571.size
  replace r4491 := r4491.up b4571
  replace b4488 := b4488.trans (b4571.mono b4488.size)
  replace b3799 := b3799.trans (b4571.mono b3799.size)
  replace r3737 := r3737.up b4571
  replace b3734 := b3734.trans (b4571.mono b3734.size)
  replace b2839 := b2839.trans (b4571.mono b2839.size)
  replace r2793 := r2793.up b4571
  replace b2790 := b2790.trans (b4571.mono b2790.size)
  replace orr := orr.up b4571
  replace b2537 := b2537.trans (b4571.mono b2537.size)
  replace oc := oc.up b4571
  replace b1217 := b1217.trans (b4571.mono b1217.size)
  replace r1035 := r1035.up b4571
  replace b1032 := b1032.trans (b4571.mono b1032.size)
  replace b589 := b589.trans (b4571.mono b589.size)
  replace r578 := r578.up b4571
  replace b575 := b575.trans (b4571.mono b575.size)
  replace b182 := b182.trans (b4571.mono b182.size)
  replace r116 := r116.up b4571
  replace b113 := b113.trans (b4571.mono b113.size)
  replace q := q.trans (b4571.mono q.size)
  refine LL.val (R.pick rfl rfl rfl) rfl rfl rfl ?_
  refine LL.val (R.move rfl rfl) rfl rfl rfl ?_
  refine LL.val (R.move rfl rfl) rfl rfl rfl ?_
  refine LL.val (R.buildV rfl rfl (v := .agg #[Value.int IntKind.i64 2, Value.int IntKind.u64 3]) (fun _ => by kernel_rfl)) rfl rfl rfl ?_
  refine LL.val (R.buildV rfl rfl (v := .agg #[Value.int IntKind.i64 3, Value.int IntKind.u64 6]) (fun _ => by kernel_rfl)) rfl rfl rfl ?_
  refine LL.val (R.buildV rfl rfl (v := .agg #[Value.int IntKind.i64 5, Value.int IntKind.u64 0]) (fun _ => by kernel_rfl)) rfl rfl rfl ?_
  have l5312 := r4491.lt
  have l5313 := r3737.lt
  have l5314 := r2793.lt
  have l5315 := r1035.lt
  have l5316 := r578.lt
  have l5317 := r116.lt
  refine LL.lit (e := 59) [Value.int IntKind.i64 2, Value.int IntKind.u64 3, Value.int IntKind.i64 3, Value.int IntKind.u64 6, Value.int IntKind.i64 5, Value.int IntKind.u64 0] 3 rfl rfl (fun _ => by kernel_rfl) rfl rfl ?_
  intro W5319 g5320 eg5320 r5321 z5322 b5318
  replace b4571 := b4571.trans (b5318.mono b4571.size)
  replace r4491 := r4491.up b5318
  replace b4488 := b4488.trans (b5318.mono b4488.size)
  replace b3799 := b3799.trans (b5318.mono b3799.size)
  replace r3737 := r3737.up b5318
  replace b3734 := b3734.trans (b5318.mono b3734.size)
  replace b2839 := b2839.trans (b5318.mono b2839.size)
  replace r2793 := r2793.up b5318
  replace b2790 := b2790.trans (b5318.mono b2790.size)
  replace orr := orr.up b5318
  replace b2537 := b2537.trans (b5318.mono b2537.size)
  replace oc := oc.up b5318
  replace b1217 := b1217.trans (b5318.mono b1217.size)
  replace r1035 := r1035.up b5318
  replace b1032 := b1032.trans (b5318.mono b1032.size)
  replace b589 := b589.trans (b5318.mono b589.size)
  replace r578 := r578.up b5318
  replace b575 := b575.trans (b5318.mono b575.size)
  replace b182 := b182.trans (b5318.mono b182.size)
  replace r116 := r116.up b5318
  replace b113 := b113.trans (b5318.mono b113.size)
  replace q := q.trans (b5318.mono q.size)
  have l5425 := r5321.lt
  have l5426 := r4491.lt
  have l5427 := r3737.lt
  have l5428 := r2793.lt
  have l5429 := r1035.lt
  have l5430 := r578.lt
  have l5431 := r116.lt
  (refine LL.call (R.call rfl rfl rfl) rfl rfl rfl (psame_any _ _ [(2, 3), (3, 6), (5, 0)] [(2, 3), (3, 6), (5, 0)] _ (oc.reads pEnc) (RowL.readsT pEnc (ts := [(2, 3), (3, 6), (5, 0)]) (by assumption) 3 (by decide)) (by decide) (by decide)) ?_; rintro e W5424 ⟨rfl, b5421⟩; refine ⟨_, rfl, ?_⟩; rw [decide_eq_true rfl]; clear oc)
  have zb5421 := b5421.size
  replace r5321 := r5321.up b5421
  replace b5318 := b5318.trans (b5421.mono b5318.size)
  replace b4571 := b4571.trans (b5421.mono b4571.size)
  replace r4491 := r4491.up b5421
  replace b4488 := b4488.trans (b5421.mono b4488.size)
  replace b3799 := b3799.trans (b5421.mono b3799.size)
  replace r3737 := r3737.up b5421
  replace b3734 := b3734.trans (b5421.mono b3734.size)
  replace b2839 := b2839.trans (b5421.mono b2839.size)
  replace r2793 := r2793.up b5421
  replace b2790 := b2790.trans (b5421.mono b2790.size)
  replace orr := orr.up b5421
  replace b2537 := b2537.trans (b5421.mono b2537.size)
  replace b1217 := b1217.trans (b5421.mono b1217.size)
  replace r1035 := r1035.up b5421
  replace b1032 := b1032.trans (b5421.mono b1032.size)
  replace b589 := b589.trans (b5421.mono b589.size)
  replace r578 := r578.up b5421
  replace b575 := b575.trans (b5421.mono b575.size)
  replace b182 := b182.trans (b5421.mono b182.size)
  replace r116 := r116.up b5421
  replace b113 := b113.trans (b5421.mono b113.size)
  replace q := q.trans (b5421.mono q.size)
  refine LL.val (R.pick rfl rfl rfl) rfl rfl rfl ?_
  refine LL.val (R.assign rfl rfl) rfl rfl rfl ?_
  refine LL.nilS ?_
  refine CC.ret ?_
  refine EE.ret _ rfl rfl ?_
  exact ⟨rfl, q⟩
end Go.Proofs.Ytfpcpnodcdgbdaa

/- slots: SlotsPuts, SlotsTakes, SlotsSwaps: the walks. -/
namespace Go.Proofs.Ytfpcpnodcdgbdaa
set_option linter.unusedVariables false
set_option linter.unusedSimpArgs false
open Go.RowKit Go.Shelf
theorem takeF_len {left : Nat} {s : List Nat} {k n : Nat} (hn : s.length = n) (h : n ≤ 1048576) : (takeF left s k).2.length ≤ 200 := by
  unfold takeF
  split
  · simp
  rename_i h1
  have hrow := noRow_not h1
  split
  · simp
  rename_i h3
  split
  · rename_i h4
    obtain ⟨j, hj, hk⟩ := h4
    have := over_le s
    obtain ⟨m, hs⟩ := setP_iff.1 (Classical.not_not.1 h3)
    have hj' := hj
    rw [hs.over] at hj'
    have e := posN_key hs hj' hk
    unfold takeL
    have := shL_len s (posN s k) (overN s) (by rw [e]; exact hj)
    simp only [List.length_append, List.length_singleton]
    omega
  · simp
theorem swapF_len {left : Nat} {s : List Nat} {k p : Nat} : (swapF left s k p).2.length ≤ 200 := by
  unfold swapF
  repeat (split; · simp)
  split
  · simp [swapL]
  · simp
theorem putF_len {left : Nat} {s : List Nat} {k p : Nat} : (putF left s k p).2.length ≤ 200 := by
  unfold putF
  split
  · simp
  rename_i h1
  have hrow := noRow_not h1
  repeat (split; · simp)
  unfold putL putA
  have := over_le s
  simp only [List.length_append, List.length_singleton, upK_len]
  omega
theorem lentR {s : List Nat} {n gl cl : Nat} {W : World} (hn : s.length = n) (hL : ReadsT uE 1 W (.slice (some ⟨gl, 0, none⟩) (n + 1) cl) (s ++ [77])) (hcl : n + 1 ≤ cl) : ReadsT uE 1 W (.slice (some ⟨gl, 0, none⟩) n cl) s := by
  have h := hL.take uEnc n (by omega) cl (by omega)
  have e : (s ++ [77]).take n = s := by rw [← hn]; simp
  rw [e] at h
  exact h
set_option maxRecDepth 100000
set_option maxHeartbeats 8000000
theorem takes_walk (left n k : Nat) (v : Value) (s : List Nat) (w : World) (hv : ReadsT uE 1 w v s) (hn : s.length = n) : Calls Try.prog 5 #[.int .u64 (left : Int), v, .int .u64 (k : Int)] w fun e w' => e = .returned (.bool true) ∧ Below w.heap.size w w' := by
  have q := Below.refl w.heap.size w
  obtain ⟨a, c, rfl, hc⟩ := hv.form hn
  have hvF : ∀ X, Below w.heap.size w X → ReadsT uE 1 X (.slice a n c) s := fun X b => hv.up b
  clear hv
  by_cases h80 : 80 < n
  · refine X.fn Try.func5 rfl (n := 42) rfl rfl ?_
    refine CC.seq ?_
    refine CC.region ?_
    refine LL.val (R.assign rfl rfl) rfl rfl rfl ?_
    refine LL.nilS ?_
    refine CC.seq ?_
    refine CC.seq ?_
    refine CC.region ?_
    refine LL.val (R.move rfl rfl) rfl rfl rfl ?_
    refine LL.val (R.len rfl rfl rfl rfl) rfl rfl rfl ?_
    refine LL.val (R.gtT rfl rfl rfl (by omega)) rfl rfl rfl ?_
    refine LL.nilS ?_
    refine CC.yes rfl ?_
    refine CC.seq ?_
    refine CC.region ?_
    (refine LL.call (R.call rfl rfl rfl) rfl rfl rfl (works_any _) ?_; rintro e W32 ⟨rfl, b29⟩; refine ⟨_, rfl, ?_⟩)
    have zb29 := b29.size
    replace q := q.trans (b29.mono q.size)
    refine LL.val (R.assign rfl rfl) rfl rfl rfl ?_
    refine LL.nilS ?_
    refine CC.ret ?_
    refine EE.thenR ?_
    refine EE.ret _ rfl rfl ?_
    exact ⟨rfl, q⟩
  have h : n ≤ 1048576 := by omega
  have hlen := takeF_len (left := left) (k := k) hn h
  have htk : (s ++ [77]).take n = s := by rw [← hn]; simp
  refine X.fn Try.func5 rfl (n := 42) rfl rfl ?_
  refine CC.seq ?_
  refine CC.region ?_
  refine LL.val (R.assign rfl rfl) rfl rfl rfl ?_
  refine LL.nilS ?_
  refine CC.seq ?_
  refine CC.seq ?_
  refine CC.region ?_
  refine LL.val (R.move rfl rfl) rfl rfl rfl ?_
  refine LL.val (R.len rfl rfl rfl rfl) rfl rfl rfl ?_
  refine LL.val (R.gtF rfl rfl rfl (by omega)) rfl rfl rfl ?_
  refine LL.nilS ?_
  refine CC.no rfl ?_
  refine CC.skip ?_
  refine EE.thenN ?_
  refine CC.seq ?_
  refine CC.region ?_
  refine LL.val (R.move rfl rfl) rfl rfl rfl ?_
  refine LL.val (R.move rfl rfl) rfl rfl rfl ?_
  (refine LL.call (R.call rfl rfl rfl) rfl rfl rfl (lent_any n _ s _ (hvF _ q) hn h) ?_; rintro e Wa214 ⟨gl, cl, rfl, hL, hcl, hgl, ba211⟩; refine ⟨_, rfl, ?_⟩; replace hL := hL.take uEnc n (by omega) cl (by omega); rw [htk] at hL)
  have zba211 := ba211.size
  replace q := q.trans (ba211.mono q.size)
  refine LL.val (R.move rfl rfl) rfl rfl rfl ?_
  (refine LL.call (R.call rfl rfl rfl) rfl rfl rfl (take_any left n k _ s _ hL hn h) ?_; rintro e Wa263 ⟨v1, rfl, o1, ba260⟩; refine ⟨_, rfl, ?_⟩)
  have zba260 := ba260.size
  replace ba211 := ba211.trans (ba260.mono ba211.size)
  replace hL := hL.up ba260
  replace q := q.trans (ba260.mono q.size)
  refine LL.val (R.move rfl rfl) rfl rfl rfl ?_
  refine LL.val (R.extract rfl rfl rfl) rfl rfl rfl ?_
  refine LL.val (R.extract rfl rfl rfl) rfl rfl rfl ?_
  refine LL.val (R.assign rfl rfl) rfl rfl rfl ?_
  refine LL.val (R.assign rfl rfl) rfl rfl rfl ?_
  refine LL.nilS ?_
  refine CC.seq ?_
  refine CC.region ?_
  refine LL.val (R.move rfl rfl) rfl rfl rfl ?_
  refine LL.val (R.move rfl rfl) rfl rfl rfl ?_
  refine LL.val (R.move rfl rfl) rfl rfl rfl ?_
  (refine LL.call (R.call rfl rfl rfl) rfl rfl rfl (dtake_any left n k _ s _ (hvF _ q) hn h) ?_; rintro e Wa564 ⟨v2, rfl, o2, ba561⟩; refine ⟨_, rfl, ?_⟩)
  have zba561 := ba561.size
  replace o1 := o1.up ba561
  replace ba260 := ba260.trans (ba561.mono ba260.size)
  replace ba211 := ba211.trans (ba561.mono ba211.size)
  replace hL := hL.up ba561
  replace q := q.trans (ba561.mono q.size)
  refine LL.val (R.move rfl rfl) rfl rfl rfl ?_
  refine LL.val (R.extract rfl rfl rfl) rfl rfl rfl ?_
  refine LL.val (R.extract rfl rfl rfl) rfl rfl rfl ?_
  refine LL.val (R.assign rfl rfl) rfl rfl rfl ?_
  refine LL.val (R.assign rfl rfl) rfl rfl rfl ?_
  refine LL.nilS ?_
  refine CC.seq ?_
  refine CC.region ?_
  refine LL.val (R.move rfl rfl) rfl rfl rfl ?_
  refine LL.val (R.move rfl rfl) rfl rfl rfl ?_
  (refine LL.call (R.call rfl rfl rfl) rfl rfl rfl (psame_any _ _ _ _ _ (o1.reads pEnc) (o2.reads pEnc) (by omega) (by omega)) ?_; rintro e Wa837 ⟨rfl, ba834⟩; refine ⟨_, rfl, ?_⟩; rw [decide_eq_true rfl])
  have zba834 := ba834.size
  replace o2 := o2.up ba834
  replace ba561 := ba561.trans (ba834.mono ba561.size)
  replace o1 := o1.up ba834
  replace ba260 := ba260.trans (ba834.mono ba260.size)
  replace ba211 := ba211.trans (ba834.mono ba211.size)
  replace hL := hL.up ba834
  replace q := q.trans (ba834.mono q.size)
  refine LL.val (R.move rfl rfl) rfl rfl rfl ?_
  refine LL.val (R.move rfl rfl) rfl rfl rfl ?_
  refine LL.call (R.call rfl rfl rfl) rfl rfl rfl (num_any _ _) ?_
  rintro e W' ⟨rfl, rfl⟩
  refine ⟨_, rfl, ?_⟩
  refine LL.val (R.move rfl rfl) rfl rfl rfl ?_
  refine LL.val (R.eqT rfl rfl rfl (by omega)) rfl rfl rfl ?_
  refine LL.val (R.pick rfl rfl rfl) rfl rfl rfl ?_
  refine LL.val (R.move rfl rfl) rfl rfl rfl ?_
  (refine LL.call (R.call rfl rfl rfl) rfl rfl rfl (works_any _) ?_; rintro e Wa1117 ⟨rfl, ba1114⟩; refine ⟨_, rfl, ?_⟩)
  have zba1114 := ba1114.size
  replace ba834 := ba834.trans (ba1114.mono ba834.size)
  replace o2 := o2.up ba1114
  replace ba561 := ba561.trans (ba1114.mono ba561.size)
  replace o1 := o1.up ba1114
  replace ba260 := ba260.trans (ba1114.mono ba260.size)
  replace ba211 := ba211.trans (ba1114.mono ba211.size)
  replace hL := hL.up ba1114
  replace q := q.trans (ba1114.mono q.size)
  refine LL.val (R.pick rfl rfl rfl) rfl rfl rfl ?_
  refine LL.val (R.assign rfl rfl) rfl rfl rfl ?_
  refine LL.nilS ?_
  refine CC.ret ?_
  refine EE.ret _ rfl rfl ?_
  exact ⟨rfl, q⟩
--C law09_lent | lent_any n _ s @w (hvF _ q) hn h | ⟨@g, cl, rfl, hL, hcl, hgl, @b⟩
--C slots_Swap | swap_any left n k p _ s @w (lentR hn (by assumption) (by assumption)) hn h | ⟨v1, rfl, o1, @b⟩
theorem swaps_walk (left n k p : Nat) (v : Value) (s : List Nat) (w : World) (hv : ReadsT uE 1 w v s) (hn : s.length = n) : Calls Try.prog 6 #[.int .u64 (left : Int), v, .agg #[.int .u64 (k : Int), .int .u64 (p : Int)]] w fun e w' => e = .returned (.bool true) ∧ Below w.heap.size w w' := by
  have q := Below.refl w.heap.size w
  obtain ⟨a, c, rfl, hc⟩ := hv.form hn
  have hvF : ∀ X, Below w.heap.size w X → ReadsT uE 1 X (.slice a n c) s := fun X b => hv.up b
  clear hv
  by_cases h80 : 80 < n
  · refine X.fn Try.func6 rfl (n := 42) rfl rfl ?_
    refine CC.seq ?_
    refine CC.region ?_
    refine LL.box [Value.int IntKind.u64 ↑k, Value.int IntKind.u64 ↑p] rfl rfl rfl rfl rfl ?_
    intro W9 g10 eg10 r11 z12 b8
    replace q := q.trans (b8.mono q.size)
    refine LL.val (R.assign rfl rfl) rfl rfl rfl ?_
    refine LL.nilS ?_
    refine CC.seq ?_
    refine CC.seq ?_
    refine CC.region ?_
    refine LL.val (R.move rfl rfl) rfl rfl rfl ?_
    refine LL.val (R.len rfl rfl rfl rfl) rfl rfl rfl ?_
    refine LL.val (R.gtT rfl rfl rfl (by omega)) rfl rfl rfl ?_
    refine LL.nilS ?_
    refine CC.yes rfl ?_
    refine CC.seq ?_
    refine CC.region ?_
    have l49 := r11.lt
    (refine LL.call (R.call rfl rfl rfl) rfl rfl rfl (works_any _) ?_; rintro e W48 ⟨rfl, b45⟩; refine ⟨_, rfl, ?_⟩)
    have zb45 := b45.size
    replace r11 := r11.up b45
    replace b8 := b8.trans (b45.mono b8.size)
    replace q := q.trans (b45.mono q.size)
    refine LL.val (R.assign rfl rfl) rfl rfl rfl ?_
    refine LL.nilS ?_
    refine CC.ret ?_
    refine EE.thenR ?_
    refine EE.ret _ rfl rfl ?_
    exact ⟨rfl, q⟩
  have h : n ≤ 1048576 := by omega
  have hlen := swapF_len (left := left) (s := s) (k := k) (p := p)
  refine X.fn Try.func6 rfl (n := 42) rfl rfl ?_
  refine CC.seq ?_
  refine CC.region ?_
  refine LL.box [Value.int IntKind.u64 ↑k, Value.int IntKind.u64 ↑p] rfl rfl rfl rfl rfl ?_
  intro Wa23 ga24 ega24 ra25 za26 ba22
  replace q := q.trans (ba22.mono q.size)
  refine LL.val (R.assign rfl rfl) rfl rfl rfl ?_
  refine LL.nilS ?_
  refine CC.seq ?_
  refine CC.seq ?_
  refine CC.region ?_
  refine LL.val (R.move rfl rfl) rfl rfl rfl ?_
  refine LL.val (R.len rfl rfl rfl rfl) rfl rfl rfl ?_
  refine LL.val (R.gtF rfl rfl rfl (by omega)) rfl rfl rfl ?_
  refine LL.nilS ?_
  refine CC.no rfl ?_
  refine CC.skip ?_
  refine EE.thenN ?_
  refine CC.seq ?_
  refine CC.freeZ (fun W_ j => j < W_.heap.size ∧ (True)) (by kernel_rfl) (by kernel_rfl) (fun Wa124 ba123 za125 => ?_)
  replace ra25 := ra25.up ba123
  replace ba22 := ba22.trans (ba123.mono ba22.size)
  replace q := q.trans (ba123.mono q.size)
  have hok : Kept (fun j => j < Wa124.heap.size ∧ (True)) Wa124 Wa124 := Kept.refl _ _
  have fzra25 := fzRow (K := fun j => j < Wa124.heap.size ∧ (True)) ra25 ⟨ra25.lt, (by first | trivial | omega)⟩
  refine AA.pure 0 rfl hok (by kernel_rfl) (fun w' b' => R.move rfl rfl) rfl rfl ?_
  refine AA.pure 1 rfl hok (by kernel_rfl) (fun w' b' => R.move rfl rfl) rfl rfl ?_
  refine AA.pure 3 rfl hok (by kernel_rfl) (fun w' b' => R.load rfl rfl (I.ldNc (vs := [Value.int IntKind.u64 ↑k, Value.int IntKind.u64 ↑p]) (RowL.cells (fzra25 w' b') rfl) (by rfl) (by rfl))) rfl rfl ?_
  refine AA.one 2 (by kernel_rfl) ?_
  refine SR.call rfl (R.call rfl rfl rfl) rfl rfl (lent_any n _ s _ (hvF _ q) hn h) ?_
  rintro e Wa151 ⟨ga152, cl, rfl, hL, hcl, hgl, ba150⟩
  have zba150 := ba150.size
  replace ba123 := ba123.trans (ba150.mono ba123.size)
  replace ra25 := ra25.up ba150
  replace ba22 := ba22.trans (ba150.mono ba22.size)
  replace q := q.trans (ba150.mono q.size)
  replace hok := hok.trans (bkept ba150 (fun j h => by have := h.1; have := hok.size; omega))
  have ya153 := hok.size
  refine ⟨_, rfl, hok, ?_⟩
  refine AA.one 4 (by kernel_rfl) ?_
  refine SR.call rfl (R.call rfl rfl rfl) rfl rfl (swap_any left n k p _ s _ (lentR hn (by assumption) (by assumption)) hn h) ?_
  rintro e Wa179 ⟨v1, rfl, o1, ba178⟩
  have zba178 := ba178.size
  replace hL := hL.up ba178
  replace ba150 := ba150.trans (ba178.mono ba150.size)
  replace ba123 := ba123.trans (ba178.mono ba123.size)
  replace ra25 := ra25.up ba178
  replace ba22 := ba22.trans (ba178.mono ba22.size)
  replace q := q.trans (ba178.mono q.size)
  replace hok := hok.trans (bkept ba178 (fun j h => by have := h.1; have := hok.size; omega))
  have ya180 := hok.size
  refine ⟨_, rfl, hok, ?_⟩
  refine AA.pure 5 rfl hok (by kernel_rfl) (fun w' b' => R.move rfl rfl) rfl rfl ?_
  refine AA.pure 6 rfl hok (by kernel_rfl) (fun w' b' => R.extract rfl rfl rfl) rfl rfl ?_
  refine AA.pure 7 rfl hok (by kernel_rfl) (fun w' b' => R.extract rfl rfl rfl) rfl rfl ?_
  refine AA.pure 8 rfl hok (by kernel_rfl) (fun w' b' => R.assign rfl rfl) rfl rfl ?_
  refine AA.pure 9 rfl hok (by kernel_rfl) (fun w' b' => R.assign rfl rfl) rfl rfl ?_
  refine AA.done rfl ?_
  clear fzra25 hok
  refine EE.thenN ?_
  refine CC.seq ?_
  refine CC.region ?_
  refine LL.val (R.move rfl rfl) rfl rfl rfl ?_
  refine LL.val (R.move rfl rfl) rfl rfl rfl ?_
  refine LL.val (R.load rfl rfl (I.ldNc (vs := [Value.int IntKind.u64 ↑k, Value.int IntKind.u64 ↑p]) (RowL.cells ra25 rfl) (by rfl) (by rfl))) rfl rfl rfl ?_
  have la257 := ra25.lt
  (refine LL.call (R.call rfl rfl rfl) rfl rfl rfl (dswap_any left n k p _ s _ (hvF _ q) hn h) ?_; rintro e Wa256 ⟨v2, rfl, o2, ba253⟩; refine ⟨_, rfl, ?_⟩)
  have zba253 := ba253.size
  replace o1 := o1.up ba253
  replace ba178 := ba178.trans (ba253.mono ba178.size)
  replace hL := hL.up ba253
  replace ba150 := ba150.trans (ba253.mono ba150.size)
  replace ba123 := ba123.trans (ba253.mono ba123.size)
  replace ra25 := ra25.up ba253
  replace ba22 := ba22.trans (ba253.mono ba22.size)
  replace q := q.trans (ba253.mono q.size)
  refine LL.val (R.move rfl rfl) rfl rfl rfl ?_
  refine LL.val (R.extract rfl rfl rfl) rfl rfl rfl ?_
  refine LL.val (R.extract rfl rfl rfl) rfl rfl rfl ?_
  refine LL.val (R.assign rfl rfl) rfl rfl rfl ?_
  refine LL.val (R.assign rfl rfl) rfl rfl rfl ?_
  refine LL.nilS ?_
  refine CC.seq ?_
  refine CC.region ?_
  refine LL.val (R.move rfl rfl) rfl rfl rfl ?_
  refine LL.val (R.move rfl rfl) rfl rfl rfl ?_
  have la441 := ra25.lt
  (refine LL.call (R.call rfl rfl rfl) rfl rfl rfl (psame_any _ _ _ _ _ (o1.reads pEnc) (o2.reads pEnc) (by omega) (by omega)) ?_; rintro e Wa440 ⟨rfl, ba437⟩; refine ⟨_, rfl, ?_⟩; rw [decide_eq_true rfl])
  have zba437 := ba437.size
  replace o2 := o2.up ba437
  replace ba253 := ba253.trans (ba437.mono ba253.size)
  replace o1 := o1.up ba437
  replace ba178 := ba178.trans (ba437.mono ba178.size)
  replace hL := hL.up ba437
  replace ba150 := ba150.trans (ba437.mono ba150.size)
  replace ba123 := ba123.trans (ba437.mono ba123.size)
  replace ra25 := ra25.up ba437
  replace ba22 := ba22.trans (ba437.mono ba22.size)
  replace q := q.trans (ba437.mono q.size)
  refine LL.val (R.move rfl rfl) rfl rfl rfl ?_
  refine LL.val (R.move rfl rfl) rfl rfl rfl ?_
  refine LL.call (R.call rfl rfl rfl) rfl rfl rfl (num_any _ _) ?_
  rintro e W' ⟨rfl, rfl⟩
  refine ⟨_, rfl, ?_⟩
  refine LL.val (R.move rfl rfl) rfl rfl rfl ?_
  refine LL.val (R.eqT rfl rfl rfl (by omega)) rfl rfl rfl ?_
  refine LL.val (R.pick rfl rfl rfl) rfl rfl rfl ?_
  refine LL.val (R.move rfl rfl) rfl rfl rfl ?_
  have la633 := ra25.lt
  (refine LL.call (R.call rfl rfl rfl) rfl rfl rfl (works_any _) ?_; rintro e Wa632 ⟨rfl, ba629⟩; refine ⟨_, rfl, ?_⟩)
  have zba629 := ba629.size
  replace ba437 := ba437.trans (ba629.mono ba437.size)
  replace o2 := o2.up ba629
  replace ba253 := ba253.trans (ba629.mono ba253.size)
  replace o1 := o1.up ba629
  replace ba178 := ba178.trans (ba629.mono ba178.size)
  replace hL := hL.up ba629
  replace ba150 := ba150.trans (ba629.mono ba150.size)
  replace ba123 := ba123.trans (ba629.mono ba123.size)
  replace ra25 := ra25.up ba629
  replace ba22 := ba22.trans (ba629.mono ba22.size)
  replace q := q.trans (ba629.mono q.size)
  refine LL.val (R.pick rfl rfl rfl) rfl rfl rfl ?_
  refine LL.val (R.assign rfl rfl) rfl rfl rfl ?_
  refine LL.nilS ?_
  refine CC.ret ?_
  refine EE.ret _ rfl rfl ?_
  exact ⟨rfl, q⟩
--C law09_lent | lent_any n _ s @w (hvF _ q) hn h | ⟨@g, cl, rfl, hL, hcl, hgl, @b⟩
--C slots_Put | put_any left n k p _ s @w (lentR hn (by assumption) (by assumption)) hn h | ⟨v1, rfl, o1, @b⟩
theorem puts_walk (left n k p : Nat) (v : Value) (s : List Nat) (w : World) (hv : ReadsT uE 1 w v s) (hn : s.length = n) : Calls Try.prog 4 #[.int .u64 (left : Int), v, .agg #[.int .u64 (k : Int), .int .u64 (p : Int)]] w fun e w' => e = .returned (.bool true) ∧ Below w.heap.size w w' := by
  have q := Below.refl w.heap.size w
  obtain ⟨a, c, rfl, hc⟩ := hv.form hn
  have hvF : ∀ X, Below w.heap.size w X → ReadsT uE 1 X (.slice a n c) s := fun X b => hv.up b
  clear hv
  by_cases h80 : 80 < n
  · refine X.fn Try.func4 rfl (n := 42) rfl rfl ?_
    refine CC.seq ?_
    refine CC.region ?_
    refine LL.box [Value.int IntKind.u64 ↑k, Value.int IntKind.u64 ↑p] rfl rfl rfl rfl rfl ?_
    intro W9 g10 eg10 r11 z12 b8
    replace q := q.trans (b8.mono q.size)
    refine LL.val (R.assign rfl rfl) rfl rfl rfl ?_
    refine LL.nilS ?_
    refine CC.seq ?_
    refine CC.seq ?_
    refine CC.region ?_
    refine LL.val (R.move rfl rfl) rfl rfl rfl ?_
    refine LL.val (R.len rfl rfl rfl rfl) rfl rfl rfl ?_
    refine LL.val (R.gtT rfl rfl rfl (by omega)) rfl rfl rfl ?_
    refine LL.nilS ?_
    refine CC.yes rfl ?_
    refine CC.seq ?_
    refine CC.region ?_
    have l49 := r11.lt
    (refine LL.call (R.call rfl rfl rfl) rfl rfl rfl (works_any _) ?_; rintro e W48 ⟨rfl, b45⟩; refine ⟨_, rfl, ?_⟩)
    have zb45 := b45.size
    replace r11 := r11.up b45
    replace b8 := b8.trans (b45.mono b8.size)
    replace q := q.trans (b45.mono q.size)
    refine LL.val (R.assign rfl rfl) rfl rfl rfl ?_
    refine LL.nilS ?_
    refine CC.ret ?_
    refine EE.thenR ?_
    refine EE.ret _ rfl rfl ?_
    exact ⟨rfl, q⟩
  have h : n ≤ 1048576 := by omega
  have hlen := putF_len (left := left) (s := s) (k := k) (p := p)
  refine X.fn Try.func4 rfl (n := 42) rfl rfl ?_
  refine CC.seq ?_
  refine CC.region ?_
  refine LL.box [Value.int IntKind.u64 ↑k, Value.int IntKind.u64 ↑p] rfl rfl rfl rfl rfl ?_
  intro Wa23 ga24 ega24 ra25 za26 ba22
  replace q := q.trans (ba22.mono q.size)
  refine LL.val (R.assign rfl rfl) rfl rfl rfl ?_
  refine LL.nilS ?_
  refine CC.seq ?_
  refine CC.seq ?_
  refine CC.region ?_
  refine LL.val (R.move rfl rfl) rfl rfl rfl ?_
  refine LL.val (R.len rfl rfl rfl rfl) rfl rfl rfl ?_
  refine LL.val (R.gtF rfl rfl rfl (by omega)) rfl rfl rfl ?_
  refine LL.nilS ?_
  refine CC.no rfl ?_
  refine CC.skip ?_
  refine EE.thenN ?_
  refine CC.seq ?_
  refine CC.freeZ (fun W_ j => j < W_.heap.size ∧ (True)) (by kernel_rfl) (by kernel_rfl) (fun Wa124 ba123 za125 => ?_)
  replace ra25 := ra25.up ba123
  replace ba22 := ba22.trans (ba123.mono ba22.size)
  replace q := q.trans (ba123.mono q.size)
  have hok : Kept (fun j => j < Wa124.heap.size ∧ (True)) Wa124 Wa124 := Kept.refl _ _
  have fzra25 := fzRow (K := fun j => j < Wa124.heap.size ∧ (True)) ra25 ⟨ra25.lt, (by first | trivial | omega)⟩
  refine AA.pure 0 rfl hok (by kernel_rfl) (fun w' b' => R.move rfl rfl) rfl rfl ?_
  refine AA.pure 1 rfl hok (by kernel_rfl) (fun w' b' => R.move rfl rfl) rfl rfl ?_
  refine AA.pure 3 rfl hok (by kernel_rfl) (fun w' b' => R.load rfl rfl (I.ldNc (vs := [Value.int IntKind.u64 ↑k, Value.int IntKind.u64 ↑p]) (RowL.cells (fzra25 w' b') rfl) (by rfl) (by rfl))) rfl rfl ?_
  refine AA.one 2 (by kernel_rfl) ?_
  refine SR.call rfl (R.call rfl rfl rfl) rfl rfl (lent_any n _ s _ (hvF _ q) hn h) ?_
  rintro e Wa151 ⟨ga152, cl, rfl, hL, hcl, hgl, ba150⟩
  have zba150 := ba150.size
  replace ba123 := ba123.trans (ba150.mono ba123.size)
  replace ra25 := ra25.up ba150
  replace ba22 := ba22.trans (ba150.mono ba22.size)
  replace q := q.trans (ba150.mono q.size)
  replace hok := hok.trans (bkept ba150 (fun j h => by have := h.1; have := hok.size; omega))
  have ya153 := hok.size
  refine ⟨_, rfl, hok, ?_⟩
  refine AA.one 4 (by kernel_rfl) ?_
  refine SR.call rfl (R.call rfl rfl rfl) rfl rfl (put_any left n k p _ s _ (lentR hn (by assumption) (by assumption)) hn h) ?_
  rintro e Wa179 ⟨v1, rfl, o1, ba178⟩
  have zba178 := ba178.size
  replace hL := hL.up ba178
  replace ba150 := ba150.trans (ba178.mono ba150.size)
  replace ba123 := ba123.trans (ba178.mono ba123.size)
  replace ra25 := ra25.up ba178
  replace ba22 := ba22.trans (ba178.mono ba22.size)
  replace q := q.trans (ba178.mono q.size)
  replace hok := hok.trans (bkept ba178 (fun j h => by have := h.1; have := hok.size; omega))
  have ya180 := hok.size
  refine ⟨_, rfl, hok, ?_⟩
  refine AA.pure 5 rfl hok (by kernel_rfl) (fun w' b' => R.move rfl rfl) rfl rfl ?_
  refine AA.pure 6 rfl hok (by kernel_rfl) (fun w' b' => R.extract rfl rfl rfl) rfl rfl ?_
  refine AA.pure 7 rfl hok (by kernel_rfl) (fun w' b' => R.extract rfl rfl rfl) rfl rfl ?_
  refine AA.pure 8 rfl hok (by kernel_rfl) (fun w' b' => R.assign rfl rfl) rfl rfl ?_
  refine AA.pure 9 rfl hok (by kernel_rfl) (fun w' b' => R.assign rfl rfl) rfl rfl ?_
  refine AA.done rfl ?_
  clear fzra25 hok
  refine EE.thenN ?_
  refine CC.seq ?_
  refine CC.region ?_
  refine LL.val (R.move rfl rfl) rfl rfl rfl ?_
  refine LL.val (R.move rfl rfl) rfl rfl rfl ?_
  refine LL.val (R.load rfl rfl (I.ldNc (vs := [Value.int IntKind.u64 ↑k, Value.int IntKind.u64 ↑p]) (RowL.cells ra25 rfl) (by rfl) (by rfl))) rfl rfl rfl ?_
  have la257 := ra25.lt
  (refine LL.call (R.call rfl rfl rfl) rfl rfl rfl (dput_any left n k p _ s _ (hvF _ q) hn h) ?_; rintro e Wa256 ⟨v2, rfl, o2, ba253⟩; refine ⟨_, rfl, ?_⟩)
  have zba253 := ba253.size
  replace o1 := o1.up ba253
  replace ba178 := ba178.trans (ba253.mono ba178.size)
  replace hL := hL.up ba253
  replace ba150 := ba150.trans (ba253.mono ba150.size)
  replace ba123 := ba123.trans (ba253.mono ba123.size)
  replace ra25 := ra25.up ba253
  replace ba22 := ba22.trans (ba253.mono ba22.size)
  replace q := q.trans (ba253.mono q.size)
  refine LL.val (R.move rfl rfl) rfl rfl rfl ?_
  refine LL.val (R.extract rfl rfl rfl) rfl rfl rfl ?_
  refine LL.val (R.extract rfl rfl rfl) rfl rfl rfl ?_
  refine LL.val (R.assign rfl rfl) rfl rfl rfl ?_
  refine LL.val (R.assign rfl rfl) rfl rfl rfl ?_
  refine LL.nilS ?_
  refine CC.seq ?_
  refine CC.region ?_
  refine LL.val (R.move rfl rfl) rfl rfl rfl ?_
  refine LL.val (R.move rfl rfl) rfl rfl rfl ?_
  have la441 := ra25.lt
  (refine LL.call (R.call rfl rfl rfl) rfl rfl rfl (psame_any _ _ _ _ _ (o1.reads pEnc) (o2.reads pEnc) (by omega) (by omega)) ?_; rintro e Wa440 ⟨rfl, ba437⟩; refine ⟨_, rfl, ?_⟩; rw [decide_eq_true rfl])
  have zba437 := ba437.size
  replace o2 := o2.up ba437
  replace ba253 := ba253.trans (ba437.mono ba253.size)
  replace o1 := o1.up ba437
  replace ba178 := ba178.trans (ba437.mono ba178.size)
  replace hL := hL.up ba437
  replace ba150 := ba150.trans (ba437.mono ba150.size)
  replace ba123 := ba123.trans (ba437.mono ba123.size)
  replace ra25 := ra25.up ba437
  replace ba22 := ba22.trans (ba437.mono ba22.size)
  replace q := q.trans (ba437.mono q.size)
  refine LL.val (R.move rfl rfl) rfl rfl rfl ?_
  refine LL.val (R.move rfl rfl) rfl rfl rfl ?_
  refine LL.call (R.call rfl rfl rfl) rfl rfl rfl (num_any _ _) ?_
  rintro e W' ⟨rfl, rfl⟩
  refine ⟨_, rfl, ?_⟩
  refine LL.val (R.move rfl rfl) rfl rfl rfl ?_
  refine LL.val (R.eqT rfl rfl rfl (by omega)) rfl rfl rfl ?_
  refine LL.val (R.pick rfl rfl rfl) rfl rfl rfl ?_
  refine LL.val (R.move rfl rfl) rfl rfl rfl ?_
  have la633 := ra25.lt
  (refine LL.call (R.call rfl rfl rfl) rfl rfl rfl (works_any _) ?_; rintro e Wa632 ⟨rfl, ba629⟩; refine ⟨_, rfl, ?_⟩)
  have zba629 := ba629.size
  replace ba437 := ba437.trans (ba629.mono ba437.size)
  replace o2 := o2.up ba629
  replace ba253 := ba253.trans (ba629.mono ba253.size)
  replace o1 := o1.up ba629
  replace ba178 := ba178.trans (ba629.mono ba178.size)
  replace hL := hL.up ba629
  replace ba150 := ba150.trans (ba629.mono ba150.size)
  replace ba123 := ba123.trans (ba629.mono ba123.size)
  replace ra25 := ra25.up ba629
  replace ba22 := ba22.trans (ba629.mono ba22.size)
  replace q := q.trans (ba629.mono q.size)
  refine LL.val (R.pick rfl rfl rfl) rfl rfl rfl ?_
  refine LL.val (R.assign rfl rfl) rfl rfl rfl ?_
  refine LL.nilS ?_
  refine CC.ret ?_
  refine EE.ret _ rfl rfl ?_
  exact ⟨rfl, q⟩
end Go.Proofs.Ytfpcpnodcdgbdaa

/- slots: rows as lists of pairs: what is read of them, behind each store. -/
namespace Go.Proofs.Ytfpcpnodcdgbdaa
set_option linter.unusedVariables false
set_option linter.unusedSimpArgs false
open Go.RowKit Go.Shelf
/-- What is read of a list of slots. -/
def rd : Nat → List Pr → List Pr
  | _, [] => []
  | p, x :: t => if x.2 = 0 then [] else if x.2 = p then rd p t else x :: rd x.2 t
def lp : Nat → List Pr → Nat
  | p, [] => p
  | _, x :: t => lp x.2 t
def nz (l : List Pr) : Prop := ∀ x ∈ l, x.2 ≠ 0
theorem nz_app {a b : List Pr} : nz (a ++ b) ↔ nz a ∧ nz b :=
  ⟨fun h => ⟨fun x hx => h x (List.mem_append_left _ hx), fun x hx => h x (List.mem_append_right _ hx)⟩, fun h x hx => (List.mem_append.1 hx).elim (h.1 x) (h.2 x)⟩
theorem nz_cons {x : Pr} {b : List Pr} : nz (x :: b) ↔ x.2 ≠ 0 ∧ nz b :=
  ⟨fun h => ⟨h x (List.mem_cons_self ..), fun y hy => h y (List.mem_cons_of_mem _ hy)⟩, fun h y hy => by
    rcases List.mem_cons.1 hy with rfl | hy
    · exact h.1
    · exact h.2 y hy⟩
theorem lp_app : ∀ (p : Nat) (A B : List Pr), lp p (A ++ B) = lp (lp p A) B
  | _, [], _ => rfl
  | _, x :: t, B => lp_app x.2 t B
theorem rd_app : ∀ {A : List Pr} (p : Nat) (B : List Pr), nz A → rd p (A ++ B) = rd p A ++ rd (lp p A) B
  | [], _, _, _ => rfl
  | x :: t, p, B, h => by
    have h' := nz_cons.1 h
    show (if x.2 = 0 then [] else if x.2 = p then rd p (t ++ B) else x :: rd x.2 (t ++ B)) = (if x.2 = 0 then [] else if x.2 = p then rd p t else x :: rd x.2 t) ++ rd (lp x.2 t) B
    rw [if_neg h'.1, if_neg h'.1]
    split
    · rename_i e
      rw [rd_app p B h'.2, e]
    · rw [rd_app x.2 B h'.2]
      rfl
theorem rd_zero {A : List Pr} (p : Nat) {x : Pr} (B : List Pr) (h : nz A) (hx : x.2 = 0) : rd p (A ++ x :: B) = rd p A := by
  rw [rd_app p _ h]
  show rd p A ++ (if x.2 = 0 then [] else _) = _
  rw [if_pos hx, List.append_nil]
theorem rd_dbl {A : List Pr} (p : Nat) {x : Pr} (B : List Pr) (h : nz A) (hx0 : x.2 ≠ 0) (hx : x.2 = lp p A) : rd p (A ++ x :: B) = rd p (A ++ B) := by
  rw [rd_app p _ h, rd_app p _ h]
  congr 1
  show (if x.2 = 0 then [] else if x.2 = lp p A then rd (lp p A) B else _) = _
  rw [if_neg hx0, if_pos hx]
theorem lp_nz {left : Nat} (hl : left ≠ 0) : ∀ {A : List Pr}, nz A → lp left A ≠ 0
  | [], _ => hl
  | x :: t, h => lp_nz (nz_cons.1 h).1 (nz_cons.1 h).2
/-- A store, to a list of slots. -/
def stP (L : List Pr) (p : Pt) : List Pr := match L[p.1.toNat / 2]? with
  | none => L
  | some x => L.set (p.1.toNat / 2) (if p.1.toNat % 2 = 0 then (p.2, x.2) else (x.1, p.2))
def foP (L : List Pr) (os : List Pt) : List Pr := os.foldl stP L
theorem foP_app (L : List Pr) (a b : List Pt) : foP L (a ++ b) = foP (foP L a) b := List.foldl_append
theorem stP_key {A B : List Pr} {x : Pr} {d v : Nat} (hd : A.length = d) : stP (A ++ x :: B) (((2 * d : Nat) : Int), v) = A ++ (v, x.2) :: B := by
  subst hd
  unfold stP
  simp only [Int.toNat_natCast]
  rw [show 2 * A.length / 2 = A.length by omega, List.getElem?_append_right (Nat.le_refl _), Nat.sub_self]
  simp only [List.getElem?_cons_zero]
  rw [if_pos (by omega), List.set_append_right _ _ (Nat.le_refl _), Nat.sub_self]
  rfl
theorem stP_ptr {A B : List Pr} {x : Pr} {d v : Nat} (hd : A.length = d) : stP (A ++ x :: B) (((2 * d + 1 : Nat) : Int), v) = A ++ (x.1, v) :: B := by
  subst hd
  unfold stP
  simp only [Int.toNat_natCast]
  rw [show (2 * A.length + 1) / 2 = A.length by omega, List.getElem?_append_right (Nat.le_refl _), Nat.sub_self]
  simp only [List.getElem?_cons_zero]
  rw [if_neg (by omega), List.set_append_right _ _ (Nat.le_refl _), Nat.sub_self]
  rfl
/-- A row as a list of slots. -/
def slP (s : List Nat) : List Pr := (List.range (s.length / 2)).map (prA s)
theorem slP_len (s : List Nat) : (slP s).length = s.length / 2 := by simp [slP]
theorem slP_get (s : List Nat) (j : Nat) : (slP s)[j]? = if j < s.length / 2 then some (prA s j) else none := by
  unfold slP
  rw [List.getElem?_map]
  by_cases h : j < s.length / 2
  · rw [if_pos h, List.getElem?_range h]; rfl
  · rw [if_neg h, List.getElem?_eq_none (by simpa using Nat.le_of_not_lt h)]; rfl
theorem slP_st {s : List Nat} {i v : Nat} (h2 : s.length % 2 = 0) : slP (s.set i v) = stP (slP s) ((i : Int), v) := by
  refine List.ext_getElem? fun j => ?_
  rw [slP_get, List.length_set]
  unfold stP
  simp only [Int.toNat_natCast]
  rw [slP_get]
  by_cases hi : i / 2 < s.length / 2
  · rw [if_pos hi]
    simp only
    by_cases hj : j = i / 2
    · subst hj
      rw [if_pos hi, List.getElem?_set_self (by rw [slP_len]; exact hi)]
      unfold prA keyN ptrN
      by_cases hp : i % 2 = 0
      · rw [if_pos hp, show 2 * (i / 2) = i by omega, List.getElem?_set_self (by omega), List.getElem?_set_ne (by omega)]
        rfl
      · rw [if_neg hp, show 2 * (i / 2) + 1 = i by omega, List.getElem?_set_self (by omega), List.getElem?_set_ne (by omega)]
        rfl
    · rw [List.getElem?_set_ne (by omega), slP_get]
      by_cases hl : j < s.length / 2
      · rw [if_pos hl, if_pos hl]
        unfold prA keyN ptrN
        rw [List.getElem?_set_ne (by omega), List.getElem?_set_ne (by omega)]
      · rw [if_neg hl, if_neg hl]
  · rw [if_neg hi]
    simp only
    rw [slP_get, List.set_eq_of_length_le (by omega)]
theorem slP_fo {os : List Pt} : ∀ {s : List Nat}, s.length % 2 = 0 → (∀ p ∈ os, 0 ≤ p.1) → slP (applyS s os) = foP (slP s) os := by
  induction os with
  | nil => exact fun _ _ => rfl
  | cons p os ih =>
    intro s h2 h0
    have hp := h0 p (List.mem_cons_self ..)
    obtain ⟨z, v⟩ := p
    obtain ⟨i, rfl⟩ := Int.eq_ofNat_of_zero_le hp
    show slP (applyS (s.set i v) os) = foP (stP (slP s) ((i : Int), v)) os
    rw [ih (by rw [List.length_set]; exact h2) fun q hq => h0 q (List.mem_cons_of_mem _ hq), slP_st h2]
/-- Whatever number of the stores is done, this is read. -/
def crP (left : Nat) (P : List Pr) (L : List Pr) (os : List Pt) : Prop := ∀ k, rd left (foP L (os.take k)) = P
theorem crP_nil {left : Nat} {P L : List Pr} (h : rd left L = P) : crP left P L [] := fun k => by rw [List.take_nil]; exact h
theorem crP_cons {left : Nat} {P L : List Pr} {o : Pt} {os : List Pt} (h : rd left L = P) (h2 : crP left P (stP L o) os) : crP left P L (o :: os) := fun k => by
  cases k with
  | zero => exact h
  | succ k => exact h2 k
theorem crP_app {left : Nat} {P L : List Pr} {a b : List Pt} (h : crP left P L a) (h2 : crP left P (foP L a) b) : crP left P L (a ++ b) := fun k => by
  rw [List.take_append, foP_app]
  by_cases hk : k ≤ a.length
  · rw [show k - a.length = 0 by omega, List.take_zero]
    exact h k
  · rw [List.take_of_length_le (by omega)]
    exact h2 _
theorem crP_all {left : Nat} {P L : List Pr} {os : List Pt} (h : crP left P L os) : rd left (foP L os) = P := by
  have := h os.length
  rw [List.take_length] at this
  exact this
/-- A shift's stores, of a list. -/
def shS : Nat → List Pr → List Pt
  | _, [] => []
  | d, r :: R => (((2 * d : Nat) : Int), r.1) :: (((2 * d + 1 : Nat) : Int), r.2) :: shS (d + 1) R
theorem shS_snoc : ∀ (R : List Pr) (d : Nat) (r : Pr), shS d (R ++ [r]) = shS d R ++ [(((2 * (d + R.length) : Nat) : Int), r.1), (((2 * (d + R.length) + 1 : Nat) : Int), r.2)]
  | [], _, _ => rfl
  | x :: R, d, r => by
    show _ :: _ :: shS (d + 1) (R ++ [r]) = _ :: _ :: (shS (d + 1) R ++ _)
    rw [shS_snoc R (d + 1) r, List.length_cons, show d + 1 + R.length = d + (R.length + 1) by omega]
theorem shK_eq (s : List Nat) (d : Nat) : ∀ k, shK s d k = shS d ((List.range k).map fun i => prA s (d + 1 + i))
  | 0 => rfl
  | k + 1 => by
    rw [List.range_succ, List.map_append, List.map_cons, List.map_nil, shS_snoc, ← shK_eq s d k]
    rw [List.length_map, List.length_range, show d + 1 + k = d + k + 1 by omega]
    rfl
theorem sh_cr {left : Nat} : ∀ (R : List Pr) {d : Nat} {A : List Pr} {x : Pr} (Z : List Pr), A.length = d → nz A → nz R → x.2 ≠ 0 → x.2 = lp left A → crP left (rd left (A ++ R ++ Z)) (A ++ x :: (R ++ Z)) (shS d R) ∧ ∃ z : Pr, z.2 ≠ 0 ∧ z.2 = lp left (A ++ R) ∧ foP (A ++ x :: (R ++ Z)) (shS d R) = A ++ R ++ z :: Z
  | [], d, A, x, Z, hd, hA, hR, hx0, hx => by
    rw [List.append_nil, List.nil_append]
    exact ⟨crP_nil (rd_dbl left Z hA hx0 hx), x, hx0, hx, rfl⟩
  | r :: R, d, A, x, Z, hd, hA, hR, hx0, hx => by
    have hR' := nz_cons.1 hR
    have ih := sh_cr R (d := d + 1) (A := A ++ [r]) (x := r) Z (by simp [hd]) (nz_app.2 ⟨hA, nz_cons.2 ⟨hR'.1, fun y h => by simp at h⟩⟩) hR'.2 hR'.1 (by rw [lp_app left A [r]]; rfl)
    have e : A ++ (r :: R) = A ++ [r] ++ R := by simp
    have h1 : stP (A ++ x :: (r :: R ++ Z)) (((2 * d : Nat) : Int), r.1) = A ++ (r.1, x.2) :: (r :: R ++ Z) := stP_key hd
    have h2 : stP (A ++ (r.1, x.2) :: (r :: R ++ Z)) (((2 * d + 1 : Nat) : Int), r.2) = A ++ [r] ++ r :: (R ++ Z) := by
      rw [stP_ptr hd]; simp
    rw [e]
    refine ⟨crP_cons ?_ (crP_cons ?_ ?_), ?_⟩
    · rw [rd_dbl left _ hA hx0 hx]; simp
    · rw [h1, rd_dbl left (x := (r.1, x.2)) _ hA hx0 hx]; simp
    · rw [h1, h2]; exact ih.1
    · obtain ⟨z, hz0, hz, he⟩ := ih.2
      refine ⟨z, hz0, hz, ?_⟩
      show foP (stP (stP (A ++ x :: (r :: R ++ Z)) _) _) (shS (d + 1) R) = _
      rw [h1, h2]
      exact he
end Go.Proofs.Ytfpcpnodcdgbdaa

/- slots: Tidy keeps what is read, store by store, and settles. -/
namespace Go.Proofs.Ytfpcpnodcdgbdaa
set_option linter.unusedVariables false
set_option linter.unusedSimpArgs false
open Go.RowKit Go.Shelf
def preP (s : List Nat) (n : Nat) : List Pr := (List.range n).map (prA s)
def midP (s : List Nat) (d k : Nat) : List Pr := (List.range k).map fun i => prA s (d + i)
theorem preP_len (s : List Nat) (n : Nat) : (preP s n).length = n := by simp [preP]
theorem midP_len (s : List Nat) (d n : Nat) : (midP s d n).length = n := by simp [midP]
theorem preP_split (s : List Nat) {d m : Nat} (h : d ≤ m) : preP s m = preP s d ++ midP s d (m - d) := by
  obtain ⟨k, rfl⟩ : ∃ k, m = d + k := ⟨m - d, by omega⟩
  unfold preP midP
  rw [List.range_add, List.map_append, List.map_map, show d + k - d = k by omega]
  rfl
theorem slP_split (s : List Nat) {d : Nat} (h : d ≤ s.length / 2) : slP s = preP s d ++ midP s d (s.length / 2 - d) := preP_split s h
theorem midP_cons (s : List Nat) (d k : Nat) : midP s d (k + 1) = prA s d :: midP s (d + 1) k := by
  unfold midP
  rw [List.range_succ_eq_map, List.map_cons, List.map_map]
  refine congrArg (prA s d :: ·) (List.map_congr_left fun i _ => ?_)
  show prA s (d + (i + 1)) = prA s (d + 1 + i)
  rw [show d + (i + 1) = d + 1 + i by omega]
theorem midP_app (s : List Nat) (d k l : Nat) : midP s d (k + l) = midP s d k ++ midP s (d + k) l := by
  unfold midP
  rw [List.range_add, List.map_append, List.map_map]
  refine congrArg (_ ++ ·) (List.map_congr_left fun i _ => ?_)
  show prA s (d + (k + i)) = prA s (d + k + i)
  rw [Nat.add_assoc]
theorem preP_succ (s : List Nat) (n : Nat) : preP s (n + 1) = preP s n ++ [prA s n] := by
  unfold preP
  rw [List.range_succ, List.map_append]
  rfl
theorem nz_pre {s : List Nat} {n : Nat} (h : n ≤ overN s) : nz (preP s n) := fun x hx => by
  obtain ⟨j, hj, rfl⟩ := List.mem_map.1 hx
  exact over_ne (Nat.lt_of_lt_of_le (List.mem_range.1 hj) h)
theorem nz_mid {s : List Nat} {d k : Nat} (h : d + k ≤ overN s) : nz (midP s d k) := fun x hx => by
  obtain ⟨j, hj, rfl⟩ := List.mem_map.1 hx
  have := List.mem_range.1 hj
  exact over_ne (by omega)
theorem lp_pre (left : Nat) (s : List Nat) : ∀ n, lp left (preP s n) = aheadN left s n
  | 0 => rfl
  | n + 1 => by
    rw [preP_succ, lp_app]
    rfl
theorem pairF_rd {left : Nat} {s : List Nat} : ∀ {i : Nat}, i ≤ overN s → (pairF left s i).map (·.2) = rd left (preP s i)
  | 0, _ => rfl
  | i + 1, h => by
    rw [preP_succ, rd_app left _ (nz_pre (by omega)), ← pairF_rd (by omega), lp_pre, pairF_succ]
    show _ = _ ++ (if ptrN s i = 0 then [] else if ptrN s i = aheadN left s i then [] else [prA s i])
    rw [if_neg (over_ne (by omega))]
    split
    · rw [List.append_nil]
    · rw [List.map_append]
      rfl
theorem rd_over {left : Nat} {s : List Nat} {n : Nat} (hn : n = overN s) {A : List Pr} (hA : nz A) : rd left (A ++ midP s n (s.length / 2 - n)) = rd left A := by
  subst hn
  rcases Nat.lt_or_ge (overN s) (s.length / 2) with h | h
  · obtain ⟨k, hk⟩ : ∃ k, s.length / 2 - overN s = k + 1 := ⟨s.length / 2 - overN s - 1, by omega⟩
    rw [hk, midP_cons]
    have hz : ptrN s (overN s) = 0 := (over_end s).resolve_left (by omega)
    exact rd_zero left _ hA hz
  · rw [show s.length / 2 - overN s = 0 by omega]
    unfold midP
    rw [List.range_zero, List.map_nil, List.append_nil]
theorem pairP_rd (left : Nat) (s : List Nat) : pairP left s = rd left (slP s) := by
  rw [slP_split s (over_le s), rd_over rfl (nz_pre (Nat.le_refl _))]
  exact pairF_rd (Nat.le_refl _)
theorem sh_read {left d m : Nat} {s : List Nat} (hl : left ≠ 0) (hd : d < m) (hm : m = overN s) (hp : ptrN s d = aheadN left s d) : crP left (rd left (slP s)) (slP s) (shL s d m) := by
  have hle := over_le s
  have eL : slP s = preP s d ++ prA s d :: (midP s (d + 1) (m - 1 - d) ++ midP s m (s.length / 2 - m)) := by
    rw [slP_split s (show d ≤ s.length / 2 by omega), show s.length / 2 - d = (m - 1 - d) + (s.length / 2 - m) + 1 by omega, midP_cons, midP_app, show d + 1 + (m - 1 - d) = m by omega]
  have hA : nz (preP s d) := nz_pre (by omega)
  have hR : nz (midP s (d + 1) (m - 1 - d)) := nz_mid (by omega)
  have hx0 : (prA s d).2 ≠ 0 := over_ne (by omega)
  have hx : (prA s d).2 = lp left (preP s d) := by rw [lp_pre]; exact hp
  obtain ⟨h1, z, hz0, hz, h2⟩ := sh_cr (left := left) (midP s (d + 1) (m - 1 - d)) (midP s m (s.length / 2 - m)) (preP_len s d) hA hR hx0 hx
  have hAR := nz_app.2 ⟨hA, hR⟩
  have eP : rd left (slP s) = rd left (preP s d ++ midP s (d + 1) (m - 1 - d) ++ midP s m (s.length / 2 - m)) := by
    rw [eL, rd_dbl left _ hA hx0 hx, List.append_assoc]
  rw [eP, eL]
  unfold shL
  rw [shK_eq]
  refine crP_app h1 (crP_cons (crP_all h1) (crP_nil ?_))
  show rd left (stP (foP _ (shS d (midP s (d + 1) (m - 1 - d)))) _) = _
  rw [h2, stP_ptr (by rw [List.length_append, preP_len, midP_len]; omega), rd_zero left _ hAR rfl, rd_over hm hAR]
theorem td_read {left : Nat} (hl : left ≠ 0) : ∀ (f : Nat) {s : List Nat}, s.length % 2 = 0 → crP left (rd left (slP s)) (slP s) (tdO left f s)
  | 0, _, _ => crP_nil rfl
  | f + 1, s, h2 => by
    unfold tdO
    split
    · exact crP_nil rfl
    · rename_i d hd
      obtain ⟨h1, h3⟩ := dblO_some hd
      have hc := sh_read hl h1 rfl h3
      have hf := slP_fo (os := shL s d (overN s)) h2 shL_nn
      refine crP_app hc ?_
      have ih := td_read hl f (s := applyS s (shL s d (overN s))) (by rw [applyS_len]; exact h2)
      rw [hf, crP_all hc] at ih
      exact ih
theorem td_done {left : Nat} : ∀ (f : Nat) {s : List Nat}, overN s ≤ f → dblO left (applyS s (tdO left f s)) = none
  | 0, s, h => by
    show dblO left s = none
    unfold dblO
    rw [show overN s = 0 by omega]
    rfl
  | f + 1, s, h => by
    unfold tdO
    split
    · rename_i h0; exact h0
    · rename_i d hd
      have h1 := (dblO_some hd).1
      rw [applyS_app]
      exact td_done f (by rw [shL_over (left := left) h1]; omega)
theorem tdO_nn {left : Nat} : ∀ (f : Nat) {s : List Nat}, ∀ p ∈ tdO left f s, 0 ≤ p.1
  | 0, s, p, h => by simp [tdO] at h
  | f + 1, s, p, h => by
    unfold tdO at h
    split at h
    · simp at h
    · rcases List.mem_append.1 h with h | h
      · exact shL_nn p h
      · exact tdO_nn f p h
theorem pairP_congr {left : Nat} {s s' : List Nat} (hl : s'.length = s.length) (h1 : ∀ j, j < overN s → prA s' j = prA s j) (h2 : overN s < s.length / 2 → ptrN s' (overN s) = 0) : pairP left s' = pairP left s ∧ overN s' = overN s := by
  have ho : overN s' = overN s := over_eq (by rw [hl]; exact over_le s) (fun i hi => by
    have := congrArg Prod.snd (h1 i hi)
    rw [show ptrN s' i = ptrN s i from this]
    exact over_ne hi) (by
      have := over_le s
      rw [hl]
      rcases Nat.lt_or_ge (overN s) (s.length / 2) with h | h
      · exact .inr (h2 h)
      · exact .inl (by omega))
  refine ⟨?_, ho⟩
  unfold pairP pairS
  rw [pairF_rd (Nat.le_refl _), pairF_rd (Nat.le_refl _), ho]
  unfold preP
  rw [List.map_congr_left fun j hj => h1 j (List.mem_range.1 hj)]
theorem zrK_keep {s : List Nat} {t k j : Nat} (ht : t ≤ s.length / 2) (hj : j < s.length / 2 - t) : prA (applyS s ((zrK s t).take k)) j = prA s j := by
  have h : ∀ p ∈ (zrK s t).take k, p.1.toNat ≠ 2 * j + 1 ∧ p.1.toNat ≠ 2 * j := fun p hp => by
    have := zrK_ge ht p (List.mem_of_mem_take hp)
    omega
  unfold prA
  rw [keyN_ne fun p hp => (h p hp).2, ptrN_ne fun p hp => (h p hp).1]
theorem zrK_zero {s : List Nat} : ∀ {t : Nat}, t ≤ s.length / 2 → ∀ j, s.length / 2 - t ≤ j → j < s.length / 2 → ptrN (applyS s (zrK s t)) j = 0
  | 0, _, j, h1, h2 => by omega
  | t + 1, ht, j, h1, h2 => by
    unfold zrK
    rw [applyS_app]
    by_cases hj : j = s.length / 2 - 1 - t
    · subst hj
      have hk := congrArg Prod.snd (zrK_keep (s := s) (t := t) (k := (zrK s t).length) (j := s.length / 2 - 1 - t) (by omega) (by omega))
      rw [List.take_length] at hk
      split
      · rename_i h0
        exact hk.trans h0
      · rw [applyS_one]
        unfold ptrN
        rw [List.getElem?_set_self (by rw [applyS_len]; omega)]
        rfl
    · have ih := zrK_zero (t := t) (by omega) j (by omega) h2
      split
      · exact ih
      · rw [applyS_one]
        unfold ptrN at ih ⊢
        rw [List.getElem?_set_ne (by omega)]
        exact ih
/-- Behind each of Tidy's stores the same is read. -/
theorem tidy_read {left : Nat} {s : List Nat} (hl : left ≠ 0) (h2 : s.length % 2 = 0) (k : Nat) : pairP left (applyS s ((tidyL left s).take k)) = pairP left s := by
  unfold tidyL
  rw [List.take_append]
  have hA := td_read hl (overN s) h2
  have hA' : ∀ k, pairP left (applyS s ((tidyA left s).take k)) = pairP left s := fun k => by
    rw [pairP_rd, slP_fo (os := (tidyA left s).take k) h2 fun p hp => tdO_nn _ p (List.mem_of_mem_take hp), pairP_rd]
    exact hA k
  by_cases hk : k ≤ (tidyA left s).length
  · rw [show k - (tidyA left s).length = 0 by omega, List.take_zero, List.append_nil]
    exact hA' k
  · rw [List.take_of_length_le (by omega), applyS_app]
    have e := hA' (tidyA left s).length
    rw [List.take_length] at e
    rw [← e]
    have hl' : (applyS s (tidyA left s)).length = s.length := applyS_len _ _
    unfold tidyZ
    obtain ⟨sx, esx⟩ : ∃ sx, applyS s (tidyA left s) = sx := ⟨_, rfl⟩
    rw [esx] at hl' ⊢
    rw [← hl']
    have hov := over_le sx
    refine (pairP_congr (applyS_len _ _) (fun j hj => zrK_keep (by omega) (by omega)) fun h => ?_).1
    have := congrArg Prod.snd (zrK_keep (s := sx) (t := sx.length / 2 - 1 - overN sx) (k := k - (tidyA left s).length) (j := overN sx) (by omega) (by omega))
    exact this.trans ((over_end sx).resolve_left (by omega))
theorem tidy_settles {left : Nat} {s : List Nat} (hl : left ≠ 0) (h2 : s.length % 2 = 0) (hf : fineP left (pairP left s)) (hm : (pairP left s).length < s.length / 2) : setP left (applyS s (tidyL left s)) := by
  have hr := tidy_read hl h2 (tidyL left s).length
  rw [List.take_length] at hr
  have hrA := tidy_read hl h2 (tidyA left s).length
  unfold tidyL at hrA
  rw [List.take_left] at hrA
  have hd := td_done (left := left) (overN s) (Nat.le_refl (overN s))
  have hn := dblO_none hd
  have hl' : (applyS s (tidyA left s)).length = s.length := applyS_len _ _
  have hall : pairP left (applyS s (tidyA left s)) = preP (applyS s (tidyA left s)) (overN (applyS s (tidyA left s))) := by
    unfold pairP pairS
    rw [show tidyA left s = tdO left (overN s) s from rfl, pairF_all hn, List.map_map]
    rfl
  have hlen : (pairP left s).length = overN (applyS s (tidyA left s)) := by rw [← hrA, hall, preP_len]
  refine set_fine.2 ?_
  rw [hr]
  have eT : applyS s (tidyL left s) = applyS (applyS s (tidyA left s)) (tidyZ left s) := by unfold tidyL; rw [applyS_app]
  rw [eT]
  unfold tidyZ
  obtain ⟨sx, esx⟩ : ∃ sx, applyS s (tidyA left s) = sx := ⟨_, rfl⟩
  rw [esx] at hl' hlen ⊢
  rw [← hl'] at hm ⊢
  rw [hlen] at hm ⊢
  have hz0 : ptrN sx (overN sx) = 0 := (over_end sx).resolve_left (by omega)
  have hk : ∀ j, j < overN sx + 1 → prA (applyS sx (zrK sx (sx.length / 2 - 1 - overN sx))) j = prA sx j := fun j hj => by
    have := zrK_keep (s := sx) (t := sx.length / 2 - 1 - overN sx) (k := (zrK sx (sx.length / 2 - 1 - overN sx)).length) (j := j) (by omega) (by omega)
    rw [List.take_length] at this
    exact this
  have hz1 : ptrN (applyS sx (zrK sx (sx.length / 2 - 1 - overN sx))) (overN sx) = 0 := (congrArg Prod.snd (hk (overN sx) (by omega))).trans hz0
  obtain ⟨_, ho⟩ := pairP_congr (left := left) (s := sx) (s' := applyS sx (zrK sx (sx.length / 2 - 1 - overN sx))) (applyS_len _ _) (fun j hj => hk j (by omega)) fun _ => hz1
  rw [ho, applyS_len]
  refine ⟨hf, rfl, hm, fun j h1 h3 => ?_⟩
  by_cases hj : j = overN sx
  · subst hj; exact hz1
  · exact zrK_zero (by omega) j (by omega) h3
end Go.Proofs.Ytfpcpnodcdgbdaa

/- slots: what is read behind each store of a change. -/
namespace Go.Proofs.Ytfpcpnodcdgbdaa
set_option linter.unusedVariables false
set_option linter.unusedSimpArgs false
open Go.RowKit Go.Shelf
theorem upK_nn {s : List Nat} {m : Nat} : ∀ {t : Nat}, ∀ p ∈ upK s m t, 0 ≤ p.1
  | 0, p, h => by simp [upK] at h
  | t + 1, p, h => by
    unfold upK at h
    rcases List.mem_append.1 h with h | h
    · exact upK_nn p h
    · simp only [List.mem_cons, List.not_mem_nil, or_false] at h
      rcases h with rfl | rfl <;> exact Int.natCast_nonneg _
/-- Pairs of a settled row. -/
def okB (left : Nat) (B : List Pr) : Prop := (∀ x ∈ B, x.2 ≠ 0 ∧ x.2 ≠ left) ∧ B.Pairwise fun x y => x.1 < y.1 ∧ x.2 ≠ y.2
theorem okB_pre {left m : Nat} {s : List Nat} (h : Stl left s m) : okB left (preP s m) := by
  refine ⟨fun x hx => ?_, ?_⟩
  · obtain ⟨j, hj, rfl⟩ := List.mem_map.1 hx
    have hj := List.mem_range.1 hj
    exact ⟨h.ne j hj, h.nl j hj⟩
  · refine List.pairwise_iff_getElem.2 fun i j hi hj hij => ?_
    have e : ∀ i (hi : i < (preP s m).length), (preP s m)[i] = prA s i := fun i hi => by simp [preP]
    rw [e i hi, e j hj]
    rw [preP_len] at hi hj
    exact ⟨h.rise i j hij hj, h.dis i j hij hj⟩
theorem stl_of {left : Nat} {s : List Nat} {B Z : List Pr} (h : slP s = B ++ Z) (hB : okB left B) (hZ : Z ≠ []) (hz : ∀ z ∈ Z, z.2 = 0) : Stl left s B.length := by
  have hl := congrArg List.length h
  rw [slP_len, List.length_append] at hl
  have hZl : 0 < Z.length := List.length_pos_iff.2 hZ
  have g : ∀ j (hj : j < B.length), prA s j = B[j] := fun j hj => by
    have h1 := slP_get s j
    rw [if_pos (by omega), h, List.getElem?_append_left hj, List.getElem?_eq_getElem hj] at h1
    exact (Option.some.inj h1).symm
  have hp := List.pairwise_iff_getElem.1 hB.2
  refine ⟨by omega, fun j hj => ?_, fun j h1 h2 => ?_, fun j hj => ?_, fun i j hij hj => ?_, fun j hj => ?_⟩
  · have := (hB.1 _ (List.getElem_mem hj)).1
    rw [← g j hj] at this
    exact this
  · have h3 := slP_get s j
    rw [if_pos h2, h, List.getElem?_append_right h1] at h3
    exact hz _ (List.mem_of_getElem? h3)
  · have := (hB.1 _ (List.getElem_mem hj)).2
    rw [← g j hj] at this
    exact this
  · have := (hp i j (by omega) hj hij).2
    rw [← g j hj, ← g i (by omega)] at this
    exact this
  · have := (hp j (j + 1) (by omega) hj (by omega)).1
    rw [← g j (by omega), ← g (j + 1) hj] at this
    exact this
theorem okB_ins {left k p : Nat} {A R : List Pr} (h : okB left (A ++ R)) (hp0 : p ≠ 0) (hpl : p ≠ left) (hd : ∀ x ∈ A ++ R, x.2 ≠ p) (hA : ∀ x ∈ A, x.1 < k) (hR : ∀ x ∈ R, k < x.1) : okB left (A ++ (k, p) :: R) := by
  obtain ⟨h1, h2⟩ := h
  obtain ⟨a, b, c⟩ := List.pairwise_append.1 h2
  refine ⟨fun x hx => ?_, List.pairwise_append.2 ⟨a, List.pairwise_cons.2 ⟨fun y hy => ⟨hR y hy, fun e => hd y (List.mem_append_right _ hy) e.symm⟩, b⟩, fun x hx y hy => ?_⟩⟩
  · rcases List.mem_append.1 hx with hx | hx
    · exact h1 x (List.mem_append_left _ hx)
    · rcases List.mem_cons.1 hx with rfl | hx
      · exact ⟨hp0, hpl⟩
      · exact h1 x (List.mem_append_right _ hx)
  · rcases List.mem_cons.1 hy with rfl | hy
    · exact ⟨hA x hx, hd x (List.mem_append_left _ hx)⟩
    · exact c x hx y hy
theorem okB_del {left : Nat} {A R : List Pr} {x : Pr} (h : okB left (A ++ x :: R)) : okB left (A ++ R) := by
  have hs : (A ++ R).Sublist (A ++ x :: R) := List.Sublist.append_left (List.sublist_cons_self _ _) _
  exact ⟨fun y hy => h.1 y (hs.subset hy), h.2.sublist hs⟩
theorem okB_rep {left p : Nat} {A R : List Pr} {x : Pr} (h : okB left (A ++ x :: R)) (hp0 : p ≠ 0) (hpl : p ≠ left) (hd : ∀ y ∈ A ++ x :: R, y.2 ≠ p) : okB left (A ++ (x.1, p) :: R) := by
  obtain ⟨a, b, c⟩ := List.pairwise_append.1 h.2
  exact okB_ins (okB_del h) hp0 hpl (fun y hy => hd y ((List.Sublist.append_left (List.sublist_cons_self _ _) _).subset hy)) (fun y hy => (c y hy x (List.mem_cons_self ..)).1) fun y hy => ((List.pairwise_cons.1 b).1 y hy).1
/-- Behind so many stores of a change the pairs that were are read, then those that will be. -/
def stepsP (left : Nat) (s : List Nat) (os : List Pt) (ch : Int) : Prop :=
  ∃ k0, k0 ≤ os.length ∧ (∀ k, k < k0 → pairP left (applyS s (os.take k)) = pairP left s) ∧ (∀ k, k0 ≤ k → pairP left (applyS s (os.take k)) = pairP left (applyS s os)) ∧ setP left (applyS s os) ∧ ((pairP left (applyS s os)).length : Int) = (pairP left s).length + ch
theorem cr_pairs {left : Nat} {s : List Nat} {os : List Pt} (h2 : s.length % 2 = 0) (h0 : ∀ p ∈ os, 0 ≤ p.1) (k : Nat) : pairP left (applyS s (os.take k)) = rd left (foP (slP s) (os.take k)) := by
  rw [pairP_rd, slP_fo h2 fun p hp => h0 p (List.mem_of_mem_take hp)]
theorem stl_len {left m : Nat} {s : List Nat} (h : Stl left s m) : (pairP left s).length = m := by rw [h.pairP]; simp
theorem swap_steps {left m i p : Nat} {s : List Nat} (h2 : s.length % 2 = 0) (hs : Stl left s m) (hi : i < m) (hp0 : p ≠ 0) (hpl : p ≠ left) (hd : ∀ j, j < m → ptrN s j ≠ p) : stepsP left s (swapL i p) 0 := by
  have hml := hs.lt
  have eL : slP s = preP s i ++ prA s i :: (midP s (i + 1) (m - 1 - i) ++ midP s m (s.length / 2 - m)) := by
    rw [slP_split s (show i ≤ s.length / 2 by omega), show s.length / 2 - i = (m - 1 - i) + (s.length / 2 - m) + 1 by omega, midP_cons, midP_app, show i + 1 + (m - 1 - i) = m by omega]
  have eB : preP s m = preP s i ++ prA s i :: midP s (i + 1) (m - 1 - i) := by
    rw [preP_split s (show i ≤ m by omega), show m - i = (m - 1 - i) + 1 by omega, midP_cons]
  have hB := okB_pre hs
  rw [eB] at hB
  have h0 : ∀ p' ∈ swapL i p, 0 ≤ p'.1 := fun p' h => by rw [List.mem_singleton.1 h]; exact Int.natCast_nonneg _
  have eF : slP (applyS s (swapL i p)) = preP s i ++ ((prA s i).1, p) :: midP s (i + 1) (m - 1 - i) ++ midP s m (s.length / 2 - m) := by
    rw [slP_fo h2 h0]
    show stP (slP s) _ = _
    rw [eL, stP_ptr (preP_len s i)]
    simp
  have hst := stl_of eF (okB_rep hB hp0 hpl fun y hy => by
    rw [← eB] at hy
    obtain ⟨j, hj, rfl⟩ := List.mem_map.1 hy
    exact hd j (List.mem_range.1 hj)) (fun e => by have := congrArg List.length e; rw [midP_len] at this; simp at this; omega) fun z hz => by
    obtain ⟨j, hj, rfl⟩ := List.mem_map.1 hz
    have := List.mem_range.1 hj
    exact hs.z _ (by omega) (by omega)
  refine ⟨1, by simp [swapL], fun k hk => by rw [show k = 0 by omega]; rfl, fun k hk => by rw [List.take_of_length_le (by simp [swapL]; omega)], setP_iff.2 ⟨_, hst⟩, ?_⟩
  rw [stl_len hst, stl_len hs]
  simp only [List.length_append, List.length_cons, preP_len, midP_len]
  omega
theorem take_steps {left m i : Nat} {s : List Nat} (hl : left ≠ 0) (h2 : s.length % 2 = 0) (hs : Stl left s m) (hi : i < m) : stepsP left s (takeL left s i m) (-1) := by
  have hml := hs.lt
  have hov := hs.over
  have eL : slP s = preP s i ++ prA s i :: (midP s (i + 1) (m - 1 - i) ++ midP s m (s.length / 2 - m)) := by
    rw [slP_split s (show i ≤ s.length / 2 by omega), show s.length / 2 - i = (m - 1 - i) + (s.length / 2 - m) + 1 by omega, midP_cons, midP_app, show i + 1 + (m - 1 - i) = m by omega]
  have eB : preP s m = preP s i ++ prA s i :: midP s (i + 1) (m - 1 - i) := by
    rw [preP_split s (show i ≤ m by omega), show m - i = (m - 1 - i) + 1 by omega, midP_cons]
  have hB := okB_pre hs
  rw [eB] at hB
  have hA : nz (preP s i) := nz_pre (by omega)
  have hR : nz (midP s (i + 1) (m - 1 - i)) := nz_mid (by omega)
  have hx0 := lp_nz hl hA
  obtain ⟨h1, z, hz0, hz, hF⟩ := sh_cr (left := left) (x := ((prA s i).1, lp left (preP s i))) (midP s (i + 1) (m - 1 - i)) (midP s m (s.length / 2 - m)) (preP_len s i) hA hR hx0 rfl
  have hAR := nz_app.2 ⟨hA, hR⟩
  have h0 : ∀ p ∈ takeL left s i m, 0 ≤ p.1 := fun p hp => by
    unfold takeL at hp
    rcases List.mem_append.1 hp with hp | hp
    · rw [List.mem_singleton.1 hp]; exact Int.natCast_nonneg _
    · exact shL_nn p hp
  have e1 : stP (slP s) (((2 * i + 1 : Nat) : Int), aheadN left s i) = preP s i ++ ((prA s i).1, lp left (preP s i)) :: (midP s (i + 1) (m - 1 - i) ++ midP s m (s.length / 2 - m)) := by
    rw [eL, stP_ptr (preP_len s i), lp_pre]
  have e2 : shL s i m = shS i (midP s (i + 1) (m - 1 - i)) ++ [(((2 * (m - 1) + 1 : Nat) : Int), 0)] := by
    unfold shL
    rw [shK_eq]
    rfl
  have e3 : stP (preP s i ++ midP s (i + 1) (m - 1 - i) ++ z :: midP s m (s.length / 2 - m)) (((2 * (m - 1) + 1 : Nat) : Int), 0) = preP s i ++ midP s (i + 1) (m - 1 - i) ++ (z.1, 0) :: midP s m (s.length / 2 - m) := stP_ptr (by rw [List.length_append, preP_len, midP_len]; omega)
  have hc : crP left (rd left (preP s i ++ midP s (i + 1) (m - 1 - i) ++ midP s m (s.length / 2 - m))) (stP (slP s) (((2 * i + 1 : Nat) : Int), aheadN left s i)) (shL s i m) := by
    rw [e1, e2]
    refine crP_app h1 (crP_cons (crP_all h1) (crP_nil ?_))
    rw [hF, e3, rd_zero left _ hAR rfl, rd_over hov.symm hAR]
  have eF : slP (applyS s (takeL left s i m)) = (preP s i ++ midP s (i + 1) (m - 1 - i)) ++ (z.1, 0) :: midP s m (s.length / 2 - m) := by
    rw [slP_fo h2 h0]
    unfold takeL
    rw [e2]
    show foP (stP (slP s) (((2 * i + 1 : Nat) : Int), aheadN left s i)) (shS i (midP s (i + 1) (m - 1 - i)) ++ [(((2 * (m - 1) + 1 : Nat) : Int), 0)]) = _
    rw [e1, foP_app, hF]
    exact e3
  have hst := stl_of eF (okB_del hB) (by simp) fun y hy => by
    rcases List.mem_cons.1 hy with rfl | hy
    · rfl
    · obtain ⟨j, hj, rfl⟩ := List.mem_map.1 hy
      have := List.mem_range.1 hj
      exact hs.z _ (by omega) (by omega)
  have hall : ∀ k, 1 ≤ k → pairP left (applyS s ((takeL left s i m).take k)) = rd left (preP s i ++ midP s (i + 1) (m - 1 - i) ++ midP s m (s.length / 2 - m)) := fun k hk => by
    rw [cr_pairs h2 h0]
    obtain ⟨k, rfl⟩ : ∃ k', k = k' + 1 := ⟨k - 1, by omega⟩
    exact hc k
  have hend := hall (takeL left s i m).length (by simp [takeL])
  rw [List.take_length] at hend
  refine ⟨1, by simp [takeL], fun k hk => by rw [show k = 0 by omega]; rfl, fun k hk => by rw [hall k hk, hend], setP_iff.2 ⟨_, hst⟩, ?_⟩
  rw [stl_len hst, stl_len hs]
  simp only [List.length_append, preP_len, midP_len]
  omega
theorem up_cr {left m : Nat} {s : List Nat} {T0 P : List Pr} {z0 : Pr} (hm : m = overN s) (hP : rd left (preP s m ++ T0) = P) (hz : rd left (preP s m ++ z0 :: T0) = P) : ∀ t, t ≤ m → crP left P (preP s m ++ z0 :: T0) (upK s m t) ∧ ∃ z : Pr, foP (preP s m ++ z0 :: T0) (upK s m t) = preP s (m - t) ++ z :: (midP s (m - t) t ++ T0) ∧ rd left (preP s (m - t) ++ z :: (midP s (m - t) t ++ T0)) = P
  | 0, _ => ⟨crP_nil hz, z0, rfl, hz⟩
  | t + 1, ht => by
    obtain ⟨ih, z, hF, hr⟩ := up_cr hm hP hz t (by omega)
    obtain ⟨j, hj⟩ : ∃ j, m - t = j + 1 := ⟨m - t - 1, by omega⟩
    have ej : m - 1 - t = j := by omega
    have ej2 : m - (t + 1) = j := by omega
    have hA : nz (preP s (j + 1)) := nz_pre (by omega)
    have hx0 : (prA s j).2 ≠ 0 := over_ne (by omega)
    have hx : (prA s j).2 = lp left (preP s (j + 1)) := by rw [lp_pre]; rfl
    have hB : rd left (preP s (j + 1) ++ (midP s (j + 1) t ++ T0)) = P := by
      rw [← List.append_assoc, show midP s (j + 1) t = midP s (j + 1) (m - (j + 1)) by rw [show m - (j + 1) = t by omega], ← preP_split s (by omega)]
      exact hP
    unfold upK
    rw [ej, ej2]
    rw [hj] at hF hr
    have e1 : stP (preP s (j + 1) ++ z :: (midP s (j + 1) t ++ T0)) (((2 * (j + 1) + 1 : Nat) : Int), ptrN s j) = preP s (j + 1) ++ (z.1, ptrN s j) :: (midP s (j + 1) t ++ T0) := stP_ptr (preP_len s _)
    have e2 : stP (preP s (j + 1) ++ (z.1, ptrN s j) :: (midP s (j + 1) t ++ T0)) (((2 * (j + 1) : Nat) : Int), keyN s j) = preP s (j + 1) ++ prA s j :: (midP s (j + 1) t ++ T0) := stP_key (preP_len s _)
    have e3 : preP s (j + 1) ++ prA s j :: (midP s (j + 1) t ++ T0) = preP s j ++ prA s j :: (midP s j (t + 1) ++ T0) := by
      rw [preP_succ, midP_cons]
      simp
    have r2 : rd left (preP s (j + 1) ++ prA s j :: (midP s (j + 1) t ++ T0)) = P := by rw [rd_dbl left _ hA hx0 hx]; exact hB
    refine ⟨crP_app ih ?_, prA s j, ?_, ?_⟩
    · rw [hF]
      refine crP_cons hr (crP_cons ?_ (crP_nil ?_))
      · rw [e1, rd_dbl left (x := (z.1, ptrN s j)) _ hA hx0 hx]; exact hB
      · rw [e1, e2]; exact r2
    · rw [foP_app, hF]
      show stP (stP _ _) _ = _
      rw [e1, e2, e3]
    · rw [← e3]; exact r2
theorem put_steps {left m i k p : Nat} {s : List Nat} (hl : left ≠ 0) (h2 : s.length % 2 = 0) (hs : Stl left s m) (hm : m + 1 < s.length / 2) (hi : i ≤ m) (hp0 : p ≠ 0) (hpl : p ≠ left) (hd : ∀ j, j < m → ptrN s j ≠ p) (hk1 : ∀ j, j < i → keyN s j < k) (hk2 : ∀ j, i ≤ j → j < m → k < keyN s j) : stepsP left s (putL left s m i k p) 1 := by
  have hov := hs.over
  have eL : slP s = preP s m ++ prA s m :: prA s (m + 1) :: midP s (m + 1 + 1) (s.length / 2 - (m + 2)) := by
    rw [slP_split s (show m ≤ s.length / 2 by omega), show s.length / 2 - m = s.length / 2 - (m + 2) + 1 + 1 by omega, midP_cons, midP_cons]
  obtain ⟨T, eT⟩ : ∃ T, midP s (m + 1 + 1) (s.length / 2 - (m + 2)) = T := ⟨_, rfl⟩
  rw [eT] at eL
  have hT : ∀ y ∈ T, y.2 = 0 := fun y hy => by
    rw [← eT] at hy
    obtain ⟨j, hj, rfl⟩ := List.mem_map.1 hy
    have := List.mem_range.1 hj
    exact hs.z _ (by omega) (by omega)
  have hzm : (prA s m).2 = 0 := hs.z m (by omega) (by omega)
  have hM : nz (preP s m) := nz_pre (by omega)
  have eS : rd left (slP s) = rd left (preP s m) := by rw [eL]; exact rd_zero left _ hM hzm
  have e0 : stP (slP s) (((2 * (m + 1) + 1 : Nat) : Int), 0) = preP s m ++ prA s m :: ((keyN s (m + 1), 0) :: T) := by
    rw [eL, show preP s m ++ prA s m :: prA s (m + 1) :: T = (preP s m ++ [prA s m]) ++ prA s (m + 1) :: T by simp, stP_ptr (by rw [List.length_append, preP_len]; rfl)]
    simp [prA]
  have hP1 : rd left (preP s m ++ (keyN s (m + 1), 0) :: T) = rd left (preP s m) := rd_zero left _ hM rfl
  have hP2 : rd left (preP s m ++ prA s m :: ((keyN s (m + 1), 0) :: T)) = rd left (preP s m) := rd_zero left _ hM hzm
  obtain ⟨hu, z, hF, hr⟩ := up_cr (left := left) (s := s) hov.symm hP1 hP2 (m - i) (by omega)
  rw [show m - (m - i) = i by omega] at hF hr
  obtain ⟨T1, eT1⟩ : ∃ T1, midP s i (m - i) ++ (keyN s (m + 1), 0) :: T = T1 := ⟨_, rfl⟩
  have hA : nz (preP s i) := nz_pre (by omega)
  have hx0 := lp_nz hl hA
  have hB0 : rd left (preP s i ++ T1) = rd left (preP s m) := by
    rw [← eT1, ← List.append_assoc, ← preP_split s hi]
    exact hP1
  rw [eT1] at hF hr
  have f1 : stP (preP s i ++ z :: T1) (((2 * i + 1 : Nat) : Int), aheadN left s i) = preP s i ++ (z.1, lp left (preP s i)) :: T1 := by rw [stP_ptr (preP_len s i), lp_pre]
  have f2 : stP (preP s i ++ (z.1, lp left (preP s i)) :: T1) (((2 * i : Nat) : Int), k) = preP s i ++ (k, lp left (preP s i)) :: T1 := stP_key (preP_len s i)
  have f3 : stP (preP s i ++ (k, lp left (preP s i)) :: T1) (((2 * i + 1 : Nat) : Int), p) = preP s i ++ (k, p) :: T1 := stP_ptr (preP_len s i)
  obtain ⟨X, eX⟩ : ∃ X, putA s m (m - i) ++ [(((2 * i + 1 : Nat) : Int), aheadN left s i)] ++ [(((2 * i : Nat) : Int), k)] = X := ⟨_, rfl⟩
  have ePut : putL left s m i k p = X ++ [(((2 * i + 1 : Nat) : Int), p)] := by rw [← eX]; rfl
  have eA : foP (slP s) (putA s m (m - i)) = preP s i ++ z :: T1 := by
    show foP (stP (slP s) _) (upK s m (m - i)) = _
    rw [e0, hF]
  have hcX : crP left (rd left (preP s m)) (slP s) X := by
    rw [← eX]
    refine crP_app (crP_app ?_ ?_) ?_
    · refine crP_cons eS ?_
      rw [e0]
      exact hu
    · rw [eA]
      refine crP_cons hr (crP_nil ?_)
      rw [f1, rd_dbl left (x := (z.1, lp left (preP s i))) _ hA hx0 rfl]
      exact hB0
    · rw [foP_app, eA]
      show crP _ _ (stP _ _) _
      rw [f1]
      refine crP_cons ?_ (crP_nil ?_)
      · rw [rd_dbl left (x := (z.1, lp left (preP s i))) _ hA hx0 rfl]
        exact hB0
      · rw [f2, rd_dbl left (x := (k, lp left (preP s i))) _ hA hx0 rfl]
        exact hB0
  have hFX : foP (slP s) X = preP s i ++ (k, lp left (preP s i)) :: T1 := by
    rw [← eX, foP_app, foP_app, eA]
    show stP (stP _ _) _ = _
    rw [f1, f2]
  have h0 : ∀ q ∈ putL left s m i k p, 0 ≤ q.1 := fun q hq => by
    unfold putL putA at hq
    simp only [List.mem_append, List.mem_singleton] at hq
    rcases hq with (((rfl | hq) | rfl) | rfl) | rfl
    · exact Int.natCast_nonneg _
    · exact upK_nn q hq
    · exact Int.natCast_nonneg _
    · exact Int.natCast_nonneg _
    · exact Int.natCast_nonneg _
  have eF : slP (applyS s (putL left s m i k p)) = (preP s i ++ (k, p) :: midP s i (m - i)) ++ (keyN s (m + 1), 0) :: T := by
    rw [slP_fo h2 h0, ePut, foP_app, hFX]
    show stP _ _ = _
    rw [f3, ← eT1]
    simp
  have hBm := okB_pre hs
  rw [preP_split s hi] at hBm
  have hst := stl_of eF (okB_ins hBm hp0 hpl (fun x hx => by
    rw [← preP_split s hi] at hx
    obtain ⟨j, hj, rfl⟩ := List.mem_map.1 hx
    exact hd j (List.mem_range.1 hj)) (fun x hx => by
    obtain ⟨j, hj, rfl⟩ := List.mem_map.1 hx
    exact hk1 j (List.mem_range.1 hj)) fun x hx => by
    obtain ⟨j, hj, rfl⟩ := List.mem_map.1 hx
    have := List.mem_range.1 hj
    exact hk2 (i + j) (by omega) (by omega)) (by simp) fun y hy => by
    rcases List.mem_cons.1 hy with rfl | hy
    · rfl
    · exact hT y hy
  refine ⟨(putL left s m i k p).length, Nat.le_refl _, fun j hj => ?_, fun j hj => by rw [List.take_of_length_le hj], setP_iff.2 ⟨_, hst⟩, ?_⟩
  · rw [cr_pairs h2 h0, pairP_rd, eS, ePut, List.take_append_of_le_length (by rw [ePut, List.length_append] at hj; simp at hj; omega)]
    exact hcX j
  · rw [stl_len hst, stl_len hs]
    simp only [List.length_append, List.length_cons, preP_len, midP_len]
    omega
end Go.Proofs.Ytfpcpnodcdgbdaa

/- slots: SlotsTidies: the walk. -/
namespace Go.Proofs.Ytfpcpnodcdgbdaa
set_option linter.unusedVariables false
set_option linter.unusedSimpArgs false
open Go.RowKit Go.Shelf
theorem ReadsT.at1 {α : Type} {enc : α → List Value} {k : Nat} (E : Enc enc k) {w : World} {b off n cap c i : Nat} {ts : List α} {x : α} (h : ReadsT enc k w (.slice (some ⟨b, off, none⟩) n cap) ts) (hx : ts[i]? = some x) (hc : 1 ≤ c) : ReadsT enc k w (.slice (some ⟨b, off + i * k, none⟩) 1 c) [x] := by
  obtain ⟨b', o', e, hlt, hcs⟩ := h.get E hx
  cases e
  refine ⟨_, c, rfl, hc, fun _ => ⟨b, _, rfl, hlt, fun j hj => ?_⟩⟩
  have hl := E.len x
  rw [List.length_singleton, Nat.one_mul] at hj
  rw [List.flatMap_cons, List.flatMap_nil, List.append_nil]
  obtain ⟨u, hu⟩ : ∃ u, (enc x)[j]? = some u := ⟨_, List.getElem?_eq_getElem (by omega)⟩
  rw [hu]
  exact hcs.at hu
theorem exposeT {α : Type} {enc : α → List Value} {k : Nat} {W : World} {v : Value} {ts : List α} (h : ReadsT enc k W v ts) : ∃ X0 : World, W.heap.size ≤ X0.heap.size ∧ (∀ X, Below X0.heap.size X0 X → ReadsT enc k X v ts) ∧ Below X0.heap.size X0 W := ⟨W, Nat.le_refl _, fun X b => h.up b, Below.refl _ _⟩
theorem readF_row {left : Nat} {s : List Nat} (h : ¬ noRow left s.length) : readF left s = pairP left s := by
  unfold readF
  rw [if_neg h]
theorem pairP_len (left : Nat) (s : List Nat) : (pairP left s).length ≤ s.length / 2 := by
  unfold pairP
  rw [List.length_map]
  exact pairS_len left s
theorem readF_len (left : Nat) (s : List Nat) : (readF left s).length ≤ s.length / 2 := by
  unfold readF
  split
  · simp
  · exact pairP_len left s
theorem tidyF_len {left : Nat} {s : List Nat} : (tidyF left s).2.length ≤ 1900 := by
  unfold tidyF
  split
  · simp
  rename_i h1
  have hrow := noRow_not h1
  split
  · unfold tidyL tidyA tidyZ
    have h1 := tdO_len (left := left) (f := overN s) (s := s) (by omega)
    have h2 := zrK_len (applyS s (tidyA left s)) (s.length / 2 - 1 - overN (applyS s (tidyA left s)))
    have h3 := over_le s
    have h4 : overN s * 56 ≤ 28 * 56 := Nat.mul_le_mul_right _ (by omega)
    show (tdO left (overN s) s ++ _).length ≤ 1900
    rw [List.length_append]
    omega
  · simp
theorem tidyL_nn {left : Nat} {s : List Nat} : ∀ p ∈ tidyL left s, 0 ≤ p.1 := fun p h => by
  unfold tidyL at h
  rcases List.mem_append.1 h with h | h
  · exact tdO_nn _ p h
  · exact zrK_nn p h
set_option maxRecDepth 100000
set_option maxHeartbeats 8000000
theorem tidies_walk (left n : Nat) (v : Value) (s : List Nat) (w : World) (hv : ReadsT uE 1 w v s) (hn : s.length = n) : Calls Try.prog 7 #[.int .u64 (left : Int), v] w fun e w' => e = .returned (.bool true) ∧ Below w.heap.size w w' := by
  have q := Below.refl w.heap.size w
  obtain ⟨a, c, rfl, hc⟩ := hv.form hn
  have hvF : ∀ X, Below w.heap.size w X → ReadsT uE 1 X (.slice a n c) s := fun X b => hv.up b
  clear hv
  by_cases h80 : 80 < n
  · refine X.fn Try.func7 rfl (n := 75) rfl rfl ?_
    refine CC.seq ?_
    refine CC.region ?_
    refine LL.val (R.assign rfl rfl) rfl rfl rfl ?_
    refine LL.nilS ?_
    refine CC.seq ?_
    refine CC.seq ?_
    refine CC.region ?_
    refine LL.val (R.move rfl rfl) rfl rfl rfl ?_
    refine LL.val (R.len rfl rfl rfl rfl) rfl rfl rfl ?_
    refine LL.val (R.gtT rfl rfl rfl (by omega)) rfl rfl rfl ?_
    refine LL.nilS ?_
    refine CC.yes rfl ?_
    refine CC.seq ?_
    refine CC.region ?_
    (refine LL.call (R.call rfl rfl rfl) rfl rfl rfl (works_any _) ?_; rintro e W32 ⟨rfl, b29⟩; refine ⟨_, rfl, ?_⟩)
    have zb29 := b29.size
    replace q := q.trans (b29.mono q.size)
    refine LL.val (R.assign rfl rfl) rfl rfl rfl ?_
    refine LL.nilS ?_
    refine CC.ret ?_
    refine EE.thenR ?_
    refine EE.ret _ rfl rfl ?_
    exact ⟨rfl, q⟩
  have h : n ≤ 1048576 := by omega
  have hlen := tidyF_len (left := left) (s := s)
  have htk : (s ++ [77]).take n = s := by rw [← hn]; simp
  obtain ⟨⟨cd, os⟩, eT⟩ : ∃ r, tidyF left s = r := ⟨_, rfl⟩
  have hAs : cd = 0 → ¬ noRow left n ∧ setP left (applyS s os) ∧ os = tidyL left s := fun h0 => by
    subst h0
    unfold tidyF at eT
    rw [hn] at eT
    split at eT
    · cases eT
    rename_i h1
    split at eT
    · rename_i h2; cases eT; exact ⟨h1, h2, rfl⟩
    · cases eT
  rw [eT] at hlen
  by_cases h0 : cd = 0
  case neg =>
    clear hAs
    refine X.fn Try.func7 rfl (n := 75) rfl rfl ?_
    refine CC.seq ?_
    refine CC.region ?_
    refine LL.val (R.assign rfl rfl) rfl rfl rfl ?_
    refine LL.nilS ?_
    refine CC.seq ?_
    refine CC.seq ?_
    refine CC.region ?_
    refine LL.val (R.move rfl rfl) rfl rfl rfl ?_
    refine LL.val (R.len rfl rfl rfl rfl) rfl rfl rfl ?_
    refine LL.val (R.gtF rfl rfl rfl (by omega)) rfl rfl rfl ?_
    refine LL.nilS ?_
    refine CC.no rfl ?_
    refine CC.skip ?_
    refine EE.thenN ?_
    refine CC.seq ?_
    refine CC.region ?_
    refine LL.val (R.move rfl rfl) rfl rfl rfl ?_
    refine LL.val (R.move rfl rfl) rfl rfl rfl ?_
    (refine LL.call (R.call rfl rfl rfl) rfl rfl rfl (lent_any n _ s _ (hvF _ q) hn h) ?_; rintro e Wa214 ⟨gl, cl, rfl, hL, hcl, hgl, ba211⟩; refine ⟨_, rfl, ?_⟩; replace hL := hL.take uEnc n (by omega) cl (by omega); rw [htk] at hL)
    have zba211 := ba211.size
    replace q := q.trans (ba211.mono q.size)
    (refine LL.call (R.call rfl rfl rfl) rfl rfl rfl (tidy_any left n _ s _ hL hn h) ?_; rw [eT]; rintro e Wa228 ⟨v1, rfl, o1, ba225⟩; refine ⟨_, rfl, ?_⟩)
    have zba225 := ba225.size
    replace ba211 := ba211.trans (ba225.mono ba211.size)
    replace hL := hL.up ba225
    replace q := q.trans (ba225.mono q.size)
    refine LL.val (R.move rfl rfl) rfl rfl rfl ?_
    refine LL.val (R.extract rfl rfl rfl) rfl rfl rfl ?_
    refine LL.val (R.extract rfl rfl rfl) rfl rfl rfl ?_
    refine LL.val (R.assign rfl rfl) rfl rfl rfl ?_
    refine LL.val (R.assign rfl rfl) rfl rfl rfl ?_
    refine LL.nilS ?_
    refine CC.seq ?_
    refine CC.region ?_
    refine LL.val (R.move rfl rfl) rfl rfl rfl ?_
    refine LL.val (R.move rfl rfl) rfl rfl rfl ?_
    (refine LL.call (R.call rfl rfl rfl) rfl rfl rfl (dtidy_any left n _ s _ (hvF _ q) hn h) ?_; rw [eT]; rintro e Wa494 ⟨v2, rfl, o2, ba491⟩; refine ⟨_, rfl, ?_⟩)
    have zba491 := ba491.size
    replace o1 := o1.up ba491
    replace ba225 := ba225.trans (ba491.mono ba225.size)
    replace ba211 := ba211.trans (ba491.mono ba211.size)
    replace hL := hL.up ba491
    replace q := q.trans (ba491.mono q.size)
    refine LL.val (R.move rfl rfl) rfl rfl rfl ?_
    refine LL.val (R.extract rfl rfl rfl) rfl rfl rfl ?_
    refine LL.val (R.extract rfl rfl rfl) rfl rfl rfl ?_
    refine LL.val (R.assign rfl rfl) rfl rfl rfl ?_
    refine LL.val (R.assign rfl rfl) rfl rfl rfl ?_
    refine LL.nilS ?_
    refine CC.seq ?_
    refine CC.seq ?_
    refine CC.region ?_
    refine LL.val (R.move rfl rfl) rfl rfl rfl ?_
    refine LL.val (R.move rfl rfl) rfl rfl rfl ?_
    (refine LL.call (R.call rfl rfl rfl) rfl rfl rfl (psame_any _ _ _ _ _ (o1.reads pEnc) (o2.reads pEnc) (by omega) (by omega)) ?_; rintro e Wa767 ⟨rfl, ba764⟩; refine ⟨_, rfl, ?_⟩; rw [decide_eq_true rfl])
    have zba764 := ba764.size
    replace o2 := o2.up ba764
    replace ba491 := ba491.trans (ba764.mono ba491.size)
    replace o1 := o1.up ba764
    replace ba225 := ba225.trans (ba764.mono ba225.size)
    replace ba211 := ba211.trans (ba764.mono ba211.size)
    replace hL := hL.up ba764
    replace q := q.trans (ba764.mono q.size)
    refine LL.val (R.not rfl rfl) rfl rfl rfl ?_
    refine LL.val (R.move rfl rfl) rfl rfl rfl ?_
    refine LL.val (R.move rfl rfl) rfl rfl rfl ?_
    refine LL.call (R.call rfl rfl rfl) rfl rfl rfl (num_any _ _) ?_
    rintro e W' ⟨rfl, rfl⟩
    refine ⟨_, rfl, ?_⟩
    refine LL.val (R.move rfl rfl) rfl rfl rfl ?_
    refine LL.val (R.neF rfl rfl rfl (by omega)) rfl rfl rfl ?_
    refine LL.val (R.pick rfl rfl rfl) rfl rfl rfl ?_
    refine LL.nilS ?_
    refine CC.no rfl ?_
    refine CC.skip ?_
    refine EE.thenN ?_
    refine CC.seq ?_
    refine CC.seq ?_
    refine CC.region ?_
    refine LL.val (R.move rfl rfl) rfl rfl rfl ?_
    refine LL.val (R.neT rfl rfl rfl (by omega)) rfl rfl rfl ?_
    refine LL.nilS ?_
    refine CC.yes rfl ?_
    refine CC.seq ?_
    refine CC.region ?_
    (refine LL.call (R.call rfl rfl rfl) rfl rfl rfl (works_any _) ?_; rintro e Wa1117 ⟨rfl, ba1114⟩; refine ⟨_, rfl, ?_⟩)
    have zba1114 := ba1114.size
    replace ba764 := ba764.trans (ba1114.mono ba764.size)
    replace o2 := o2.up ba1114
    replace ba491 := ba491.trans (ba1114.mono ba491.size)
    replace o1 := o1.up ba1114
    replace ba225 := ba225.trans (ba1114.mono ba225.size)
    replace ba211 := ba211.trans (ba1114.mono ba211.size)
    replace hL := hL.up ba1114
    replace q := q.trans (ba1114.mono q.size)
    refine LL.val (R.assign rfl rfl) rfl rfl rfl ?_
    refine LL.nilS ?_
    refine CC.ret ?_
    refine EE.thenR ?_
    refine EE.ret _ rfl rfl ?_
    exact ⟨rfl, q⟩
  subst h0
  obtain ⟨hrow', hset, hos⟩ := hAs rfl
  dsimp only at hlen
  have hrow := noRow_not hrow'
  have h2 : s.length % 2 = 0 := by omega
  have hnr : ∀ x : List Nat, x.length = n → readF left x = pairP left x := fun x hx => readF_row (by rw [hx]; exact hrow')
  have hckL : ∀ x : List Nat, x.length = n → setP left x → checkF left x = 0 := fun x hx h2 => by unfold checkF; rw [hx, if_neg hrow', if_pos h2]
  have hck := hckL (applyS s os) (by rw [applyS_len]; exact hn) hset
  have hwas : ∀ k, readF left (applyS s (os.take k)) = readF left s := fun k => by
    rw [hnr _ (by rw [applyS_len]; exact hn), hnr _ hn, hos]
    exact tidy_read hrow.1 h2 k
  have hnn : ∀ p ∈ os, 0 ≤ p.1 := by rw [hos]; exact tidyL_nn
  have hrl := readF_len left s
  rw [hn] at hrl
  obtain ⟨rs, ers⟩ : ∃ rs, readF left s = rs := ⟨_, rfl⟩
  clear hAs hrow' hckL hnr h2
  rw [ers] at hrl
  refine X.fn Try.func7 rfl (n := 75) rfl rfl ?_
  refine CC.seq ?_
  refine CC.region ?_
  refine LL.val (R.assign rfl rfl) rfl rfl rfl ?_
  refine LL.nilS ?_
  refine CC.seq ?_
  refine CC.seq ?_
  refine CC.region ?_
  refine LL.val (R.move rfl rfl) rfl rfl rfl ?_
  refine LL.val (R.len rfl rfl rfl rfl) rfl rfl rfl ?_
  refine LL.val (R.gtF rfl rfl rfl (by omega)) rfl rfl rfl ?_
  refine LL.nilS ?_
  refine CC.no rfl ?_
  refine CC.skip ?_
  refine EE.thenN ?_
  refine CC.seq ?_
  refine CC.region ?_
  refine LL.val (R.move rfl rfl) rfl rfl rfl ?_
  refine LL.val (R.move rfl rfl) rfl rfl rfl ?_
  (refine LL.call (R.call rfl rfl rfl) rfl rfl rfl (lent_any n _ s _ (hvF _ q) hn h) ?_; rintro e Wb214 ⟨gl, cl, rfl, hL, hcl, hgl, bb211⟩; refine ⟨_, rfl, ?_⟩; replace hL := hL.take uEnc n (by omega) cl (by omega); rw [htk] at hL)
  have zbb211 := bb211.size
  replace q := q.trans (bb211.mono q.size)
  (refine LL.call (R.call rfl rfl rfl) rfl rfl rfl (tidy_any left n _ s _ hL hn h) ?_; rw [eT]; rintro e Wb228 ⟨v1, rfl, o1, bb225⟩; dsimp only at o1; obtain ⟨a1, c1, rfl, hc1⟩ := (o1.reads pEnc).form rfl; obtain ⟨X1, hzX1, h1F, q1⟩ := exposeT (o1.reads pEnc); have zq1 := q1.size; clear o1; refine ⟨_, rfl, ?_⟩)
  have zbb225 := bb225.size
  replace bb211 := bb211.trans (bb225.mono bb211.size)
  replace hL := hL.up bb225
  replace q := q.trans (bb225.mono q.size)
  refine LL.val (R.move rfl rfl) rfl rfl rfl ?_
  refine LL.val (R.extract rfl rfl rfl) rfl rfl rfl ?_
  refine LL.val (R.extract rfl rfl rfl) rfl rfl rfl ?_
  refine LL.val (R.assign rfl rfl) rfl rfl rfl ?_
  refine LL.val (R.assign rfl rfl) rfl rfl rfl ?_
  refine LL.nilS ?_
  refine CC.seq ?_
  refine CC.region ?_
  refine LL.val (R.move rfl rfl) rfl rfl rfl ?_
  refine LL.val (R.move rfl rfl) rfl rfl rfl ?_
  (refine LL.call (R.call rfl rfl rfl) rfl rfl rfl (dtidy_any left n _ s _ (hvF _ q) hn h) ?_; rw [eT]; rintro e Wb494 ⟨v2, rfl, o2, bb491⟩; dsimp only at o2; refine ⟨_, rfl, ?_⟩)
  have zbb491 := bb491.size
  replace bb225 := bb225.trans (bb491.mono bb225.size)
  replace q1 := q1.trans (bb491.mono q1.size)
  replace bb211 := bb211.trans (bb491.mono bb211.size)
  replace hL := hL.up bb491
  replace q := q.trans (bb491.mono q.size)
  refine LL.val (R.move rfl rfl) rfl rfl rfl ?_
  refine LL.val (R.extract rfl rfl rfl) rfl rfl rfl ?_
  refine LL.val (R.extract rfl rfl rfl) rfl rfl rfl ?_
  refine LL.val (R.assign rfl rfl) rfl rfl rfl ?_
  refine LL.val (R.assign rfl rfl) rfl rfl rfl ?_
  refine LL.nilS ?_
  refine CC.seq ?_
  refine CC.seq ?_
  refine CC.region ?_
  refine LL.val (R.move rfl rfl) rfl rfl rfl ?_
  refine LL.val (R.move rfl rfl) rfl rfl rfl ?_
  (refine LL.call (R.call rfl rfl rfl) rfl rfl rfl (psame_any _ _ _ _ _ (h1F _ q1) (o2.reads pEnc) (by omega) (by omega)) ?_; rintro e Wb767 ⟨rfl, bb764⟩; refine ⟨_, rfl, ?_⟩; rw [decide_eq_true rfl]; clear o2 hL)
  have zbb764 := bb764.size
  replace bb491 := bb491.trans (bb764.mono bb491.size)
  replace bb225 := bb225.trans (bb764.mono bb225.size)
  replace q1 := q1.trans (bb764.mono q1.size)
  replace bb211 := bb211.trans (bb764.mono bb211.size)
  replace q := q.trans (bb764.mono q.size)
  refine LL.val (R.not rfl rfl) rfl rfl rfl ?_
  refine LL.val (R.move rfl rfl) rfl rfl rfl ?_
  refine LL.val (R.move rfl rfl) rfl rfl rfl ?_
  refine LL.call (R.call rfl rfl rfl) rfl rfl rfl (num_any _ _) ?_
  rintro e W' ⟨rfl, rfl⟩
  refine ⟨_, rfl, ?_⟩
  refine LL.val (R.move rfl rfl) rfl rfl rfl ?_
  refine LL.val (R.neF rfl rfl rfl (by omega)) rfl rfl rfl ?_
  refine LL.val (R.pick rfl rfl rfl) rfl rfl rfl ?_
  refine LL.nilS ?_
  refine CC.no rfl ?_
  refine CC.skip ?_
  refine EE.thenN ?_
  refine CC.seq ?_
  refine CC.seq ?_
  refine CC.region ?_
  refine LL.val (R.move rfl rfl) rfl rfl rfl ?_
  refine LL.val (R.neF rfl rfl rfl (by omega)) rfl rfl rfl ?_
  refine LL.nilS ?_
  refine CC.no rfl ?_
  refine CC.skip ?_
  refine EE.thenN ?_
  refine CC.seq ?_
  refine CC.region ?_
  refine LL.val (R.move rfl rfl) rfl rfl rfl ?_
  refine LL.val (R.move rfl rfl) rfl rfl rfl ?_
  (refine LL.call (R.call rfl rfl rfl) rfl rfl rfl (read_any left n _ s _ (hvF _ q) hn h) ?_; rintro e Wb1187 ⟨v3, rfl, o3, bb1184⟩; rw [ers] at o3; obtain ⟨X3, hzX3, h3F, q3⟩ := exposeT (o3.reads prEnc); have zq3 := q3.size; clear o3; refine ⟨_, rfl, ?_⟩)
  have zbb1184 := bb1184.size
  replace bb764 := bb764.trans (bb1184.mono bb764.size)
  replace bb491 := bb491.trans (bb1184.mono bb491.size)
  replace bb225 := bb225.trans (bb1184.mono bb225.size)
  replace q1 := q1.trans (bb1184.mono q1.size)
  replace bb211 := bb211.trans (bb1184.mono bb211.size)
  replace q := q.trans (bb1184.mono q.size)
  refine LL.lit (e := 22) [] 0 rfl rfl (fun _ => by kernel_rfl) rfl rfl ?_
  intro Wb1227 gb1228 egb1228 rb1229 zb1230 bb1226
  replace bb1184 := bb1184.trans (bb1226.mono bb1184.size)
  replace q3 := q3.trans (bb1226.mono q3.size)
  replace bb764 := bb764.trans (bb1226.mono bb764.size)
  replace bb491 := bb491.trans (bb1226.mono bb491.size)
  replace bb225 := bb225.trans (bb1226.mono bb225.size)
  replace q1 := q1.trans (bb1226.mono q1.size)
  replace bb211 := bb211.trans (bb1226.mono bb211.size)
  replace q := q.trans (bb1226.mono q.size)
  refine LL.val (R.move rfl rfl) rfl rfl rfl ?_
  (have yq := q.size; refine LL.appendT2 rfl rfl uEnc ElU (RowL.ownsT (base := w.heap.size) uEnc (ts := []) (by assumption) (by omega) (by simp)) (us := s) (hvF _ q) (by simp [maxLen]; omega) (by simp; omega) (by omega) rfl rfl ?_; intro v' Wa oa gra hva; replace q := q.grown gra q.size (fun g hg => by cases hg; dsimp only; omega); replace q1 := q1.grown gra q1.size (fun g hg => by cases hg; dsimp only; omega); replace q3 := q3.grown gra q3.size (fun g hg => by cases hg; dsimp only; omega); clear hva gra; have o4 := oa; clear oa; rw [List.nil_append] at o4)
  refine LL.val (R.assign rfl rfl) rfl rfl rfl ?_
  refine LL.val (R.assign rfl rfl) rfl rfl rfl ?_
  refine LL.nilS ?_
  refine CC.seq ?_
  refine CC.seq ?_
  refine CC.region ?_
  refine LL.val (R.assign rfl rfl) rfl rfl rfl ?_
  refine LL.nilS ?_
  refine CC.block ?_
  refine CC.loop (α := Nat × Value) (fun x => [(0, .int .u64 (left : Int)), (5, .slice a1 os.length c1), (9, v3), (10, x.2), (11, .int .i64 (x.1 : Int))])
    (fun x W => x.1 ≤ os.length ∧ Below w.heap.size w W ∧ Below X1.heap.size X1 W ∧ Below X3.heap.size X3 W ∧ OwnsT uE 1 W w.heap.size 22 x.2 (applyS s (os.take x.1))) (fun x => os.length - x.1) (0, _) ⟨rfl, rfl, rfl, rfl, rfl, trivial⟩ ⟨Nat.zero_le _, q, q1, q3, o4⟩ ?_
  clear q q1 q3 o4 yq
  rintro ⟨i, vn⟩ W ⟨hi, q, q1, q3, o4⟩
  simp only at hi o4
  have yq := q.size
  show CC none Try.prog _ 75 [] (sl [(0, .int .u64 (left : Int)), (5, .slice a1 os.length c1), (9, v3), (10, vn), (11, .int .i64 (i : Int))]) _ W
  have hln : (applyS s (os.take i)).length = n := by rw [applyS_len]; exact hn
  by_cases hlt : i < os.length
  case neg =>
    obtain rfl : i = os.length := by omega
    rw [List.take_length] at o4
    clear hwas hnn hlen
    refine CC.seq ?_
    refine CC.seq ?_
    refine CC.region ?_
    refine LL.val (R.move rfl rfl) rfl rfl rfl ?_
    refine LL.val (R.move rfl rfl) rfl rfl rfl ?_
    refine LL.val (R.len rfl rfl rfl rfl) rfl rfl rfl ?_
    refine LL.val (R.ltF rfl rfl rfl (by omega)) rfl rfl rfl ?_
    refine LL.nilS ?_
    refine CC.no rfl ?_
    refine CC.exit ?_
    refine EE.thenX ?_
    refine EE.thenX ?_
    refine EE.inX ?_
    refine EE.thenN ?_
    refine CC.seq ?_
    refine CC.region ?_
    refine LL.val (R.move rfl rfl) rfl rfl rfl ?_
    refine LL.val (R.move rfl rfl) rfl rfl rfl ?_
    (refine LL.call (R.call rfl rfl rfl) rfl rfl rfl (check_any left n _ (applyS s os) _ (o4.reads uEnc) (by rw [applyS_len]; exact hn) h) ?_; rintro e Wc88 ⟨rfl, bc85⟩; refine ⟨_, rfl, ?_⟩; rw [hck])
    have zbc85 := bc85.size
    replace q := q.trans (bc85.mono q.size)
    replace q1 := q1.trans (bc85.mono q1.size)
    replace q3 := q3.trans (bc85.mono q3.size)
    replace o4 := o4.up bc85
    refine LL.call (R.call rfl rfl rfl) rfl rfl rfl (num_any _ _) ?_
    rintro e W' ⟨rfl, rfl⟩
    refine ⟨_, rfl, ?_⟩
    refine LL.val (R.eqT rfl rfl rfl (by omega)) rfl rfl rfl ?_
    refine LL.val (R.move rfl rfl) rfl rfl rfl ?_
    (refine LL.call (R.call rfl rfl rfl) rfl rfl rfl (works_any _) ?_; rintro e Wc144 ⟨rfl, bc141⟩; refine ⟨_, rfl, ?_⟩)
    have zbc141 := bc141.size
    replace bc85 := bc85.trans (bc141.mono bc85.size)
    replace q := q.trans (bc141.mono q.size)
    replace q1 := q1.trans (bc141.mono q1.size)
    replace q3 := q3.trans (bc141.mono q3.size)
    replace o4 := o4.up bc141
    refine LL.val (R.pick rfl rfl rfl) rfl rfl rfl ?_
    refine LL.val (R.assign rfl rfl) rfl rfl rfl ?_
    refine LL.nilS ?_
    refine CC.ret ?_
    refine EE.ret _ rfl rfl ?_
    exact ⟨rfl, q⟩
  obtain ⟨x, hx⟩ : ∃ x, os[i]? = some x := ⟨_, List.getElem?_eq_getElem hlt⟩
  have hx0 : ∀ p ∈ [x], 0 ≤ p.1 := fun p hp => by rw [List.mem_singleton.1 hp]; exact hnn x (List.mem_of_getElem? hx)
  obtain ⟨b1, ob1, rfl, lb1, _⟩ := (h1F _ q1).get pEnc hx
  have h1x : ∀ X, Below X1.heap.size X1 X → ∀ cc, 1 ≤ cc → ReadsT pE 2 X (.slice (some ⟨b1, ob1 + i * 2, none⟩) (i + 1 - i) cc) [x] := fun X hX cc hc => by
    rw [show i + 1 - i = 1 by omega]
    exact ReadsT.at1 pEnc (h1F X hX) hx hc
  have es : applyS (applyS s (os.take i)) [x] = applyS s (os.take (i + 1)) := by rw [← applyS_app, List.take_add_one, hx]; rfl
  have hr := hwas (i + 1)
  rw [ers, ← es] at hr
  clear hwas
  obtain ⟨sx, esx⟩ : ∃ sx, applyS s (os.take i) = sx := ⟨_, rfl⟩
  rw [esx] at o4 hln es hr
  have hl2 : (applyS sx [x]).length = n := by rw [applyS_len]; exact hln
  refine CC.seq ?_
  refine CC.seq ?_
  refine CC.region ?_
  refine LL.val (R.move rfl rfl) rfl rfl rfl ?_
  refine LL.val (R.move rfl rfl) rfl rfl rfl ?_
  refine LL.val (R.len rfl rfl rfl rfl) rfl rfl rfl ?_
  refine LL.val (R.ltT rfl rfl rfl (by omega)) rfl rfl rfl ?_
  refine LL.nilS ?_
  refine CC.yes rfl ?_
  refine CC.skip ?_
  refine EE.thenN ?_
  refine CC.seq ?_
  refine CC.block ?_
  refine CC.seq ?_
  refine CC.region ?_
  refine LL.val (R.move rfl rfl) rfl rfl rfl ?_
  refine LL.val (R.move rfl rfl) rfl rfl rfl ?_
  refine LL.val (R.move rfl rfl) rfl rfl rfl ?_
  refine LL.val (R.move rfl rfl) rfl rfl rfl ?_
  refine LL.val (R.addNc rfl rfl rfl rfl (by omega)) rfl rfl rfl ?_
  refine LL.val (R.slice rfl rfl rfl rfl rfl (I.slS rfl (by omega) (by omega) (by omega))) rfl rfl rfl ?_
  (refine LL.call (R.call rfl rfl rfl) rfl rfl rfl (dapply_any n _ _ sx [x] _ (o4.reads uEnc) hln h (h1x _ q1 _ (by omega)) (by simp) hx0) ?_; rintro e Wd214 ⟨v5, rfl, o5, bd211⟩; refine ⟨_, rfl, ?_⟩; clear o4)
  have zbd211 := bd211.size
  replace q := q.trans (bd211.mono q.size)
  replace q1 := q1.trans (bd211.mono q1.size)
  replace q3 := q3.trans (bd211.mono q3.size)
  refine LL.val (R.assign rfl rfl) rfl rfl rfl ?_
  refine LL.nilS ?_
  refine CC.seq ?_
  refine CC.region ?_
  refine LL.val (R.move rfl rfl) rfl rfl rfl ?_
  refine LL.val (R.move rfl rfl) rfl rfl rfl ?_
  (refine LL.call (R.call rfl rfl rfl) rfl rfl rfl (read_any left n _ (applyS sx [x]) _ (o5.reads uEnc) hl2 h) ?_; rintro e Wd291 ⟨v6, rfl, o6, bd288⟩; rw [hr] at o6; refine ⟨_, rfl, ?_⟩)
  have zbd288 := bd288.size
  replace o5 := o5.up bd288
  replace bd211 := bd211.trans (bd288.mono bd211.size)
  replace q := q.trans (bd288.mono q.size)
  replace q1 := q1.trans (bd288.mono q1.size)
  replace q3 := q3.trans (bd288.mono q3.size)
  refine LL.val (R.move rfl rfl) rfl rfl rfl ?_
  (refine LL.call (R.call rfl rfl rfl) rfl rfl rfl (dprsame_any _ _ rs rs _ (o6.reads prEnc) (h3F _ q3) (by omega) (by omega)) ?_; rintro e Wd333 ⟨rfl, bd330⟩; refine ⟨_, rfl, ?_⟩; rw [decide_eq_true rfl])
  have zbd330 := bd330.size
  replace o6 := o6.up bd330
  replace bd288 := bd288.trans (bd330.mono bd288.size)
  replace o5 := o5.up bd330
  replace bd211 := bd211.trans (bd330.mono bd211.size)
  replace q := q.trans (bd330.mono q.size)
  replace q1 := q1.trans (bd330.mono q1.size)
  replace q3 := q3.trans (bd330.mono q3.size)
  refine LL.val (R.not rfl rfl) rfl rfl rfl ?_
  refine LL.nilS ?_
  refine CC.no rfl ?_
  refine CC.skip ?_
  refine EE.inN ?_
  refine EE.thenN ?_
  refine CC.region ?_
  refine LL.val (R.move rfl rfl) rfl rfl rfl ?_
  refine LL.val (R.addNc rfl rfl rfl rfl (by omega)) rfl rfl rfl ?_
  refine LL.val (R.assign rfl rfl) rfl rfl rfl ?_
  refine LL.nil ?_
  exact EE.round (i + 1, _) ⟨rfl, rfl, rfl, rfl, rfl, trivial⟩ ⟨by show i + 1 ≤ os.length; omega, q, q1, q3, by dsimp only; rw [← es]; exact o5.lower (by omega)⟩ (by show os.length - (i + 1) < os.length - i; omega)
end Go.Proofs.Ytfpcpnodcdgbdaa

/- slots: SlotsReads: the walk (gen35.py writes this). -/
namespace Go.Proofs.Ytfpcpnodcdgbdaa
set_option linter.unusedVariables false
set_option linter.unusedSimpArgs false
open Go.RowKit Go.Shelf
theorem packR {α : Type} {enc : α → List Value} {k : Nat} {W : World} {g t : Nat} {v : Value} {L : List α} (h : ReadsT enc k W v L) (r : RowL W g t [v]) : ∃ v1 X1, (∀ Y, Below X1.heap.size X1 Y → ReadsT enc k Y v1 L) ∧ Below X1.heap.size X1 W ∧ RowL W g t [v1] := ⟨v, W, fun _ b => h.up b, Below.refl _ _, r⟩
theorem ownR {W : World} {B e : Nat} {v : Value} {xs ys : List Pr} (o : OwnsT prE 2 W B e v xs) (h : xs = ys) : ReadsT prE 2 W v ys := by subst h; exact o.reads prEnc
/-- What stands ahead of the ranges. -/
structure LvR (W w X1 X2 X3 : World) (gk gr gw ga gt : Nat) (many : Int) (v1 v2 : Value) (tv : Int) : Prop where
  rk : RowL W gk 3 [.int .i64 many]
  rr : RowL W gr 4 [.bool false]
  rw : RowL W gw 25 [v1]
  ra : RowL W ga 26 [v2]
  rt : RowL W gt 3 [.int .i64 tv]
  q1 : Below X1.heap.size X1 W
  q2 : Below X2.heap.size X2 W
  q3 : Below X3.heap.size X3 W
  bel : Below w.heap.size w W
theorem LvR.lift {W W' w X1 X2 X3 : World} {gk gr gw ga gt : Nat} {many : Int} {v1 v2 : Value} {tv : Int} (h : LvR W w X1 X2 X3 gk gr gw ga gt many v1 v2 tv) (hb : Below W.heap.size W W') : LvR W' w X1 X2 X3 gk gr gw ga gt many v1 v2 tv :=
  ⟨h.rk.up hb, h.rr.up hb, h.rw.up hb, h.ra.up hb, h.rt.up hb, h.q1.trans (hb.mono h.q1.size), h.q2.trans (hb.mono h.q2.size), h.q3.trans (hb.mono h.q3.size), h.bel.trans (hb.mono h.bel.size)⟩
theorem eachS_len {left : Nat} {s : List Nat} (h : s.length ≤ 1048576) : (eachS left s).length ≤ 1048576 := by
  unfold eachS
  split
  · simp
  · exact h
theorem packV {α : Type} {enc : α → List Value} {k : Nat} {W X : World} {g t : Nat} {v : Value} {L : List α} (h : ∀ Y, Below X.heap.size X Y → ReadsT enc k Y v L) (r : RowL W g t [v]) : ∃ v1, (∀ Y, Below X.heap.size X Y → ReadsT enc k Y v1 L) ∧ RowL W g t [v1] := ⟨v, h, r⟩
theorem nilR {W : World} {L : List (Nat × Pr)} (h : [] = L) : ReadsT prE 2 W (.slice none 0 0) (L.map (·.2)) := by subst h; exact ReadsT.nil _
theorem nilI {W : World} {L : List (Nat × Pr)} (h : [] = L) : ReadsT iE 1 W (.slice none 0 0) (L.map (·.1)) := by subst h; exact ReadsT.nil _
set_option maxRecDepth 100000
set_option maxHeartbeats 16000000
theorem reads_T (left n : Nat) (many : Int) (v : Value) (s : List Nat) (w : World) (hv : ReadsT uE 1 w v s) (hn : s.length = n) (h80 : n ≤ 80) (hrow' : ¬ noRow left n) : Calls Try.prog 3 #[.int .u64 (left : Int), v, .int .i64 many] w fun e w' => e = .returned (.bool true) ∧ Below w.heap.size w w' := by
  have q := Below.refl w.heap.size w
  obtain ⟨a, c, rfl, hc⟩ := hv.form hn
  have hvF : ∀ X, Below w.heap.size w X → ReadsT uE 1 X (.slice a n c) s := fun X b => hv.up b
  clear hv
  have h : n ≤ 1048576 := by omega
  have hrow := noRow_not hrow'
  obtain ⟨L, eL⟩ : ∃ L, pairS left s = L := ⟨_, rfl⟩
  have eP : pairP left s = L.map (·.2) := by rw [← eL]; rfl
  have eR : readF left s = L.map (·.2) := by rw [readF_row (by rw [hn]; exact hrow'), eP]
  have eE : pairS left (eachS left s) = L := by unfold eachS; rw [hn, if_neg hrow', eL]
  have hLL : L.map (·.2) = L.map (·.2) := rfl
  have hLl : L.length ≤ n := by rw [← eL]; have := pairS_len left s; omega
  refine X.fnM Try.func3 rfl (n := 122) rfl rfl ?_
  refine CC.seq ?_
  refine CC.region ?_
  refine LL.box [Value.int IntKind.i64 many] rfl rfl rfl rfl rfl ?_
  intro W23 g24 eg24 r25 z26 b22
  replace q := q.trans (b22.mono q.size)
  have l51 := r25.lt
  refine LL.alloc ([Value.bool false]) rfl rfl rfl rfl rfl ?_
  intro W53 g54 eg54 r55 z56 b52
  replace r25 := r25.up b52
  replace b22 := b22.trans (b52.mono b22.size)
  replace q := q.trans (b52.mono q.size)
  refine LL.nilS ?_
  refine CC.seq ?_
  refine CC.seq ?_
  refine CC.region ?_
  refine LL.val (R.move rfl rfl) rfl rfl rfl ?_
  refine LL.val (R.len rfl rfl rfl rfl) rfl rfl rfl ?_
  refine LL.val (R.gtF rfl rfl rfl (by omega)) rfl rfl rfl ?_
  refine LL.nilS ?_
  refine CC.no rfl ?_
  refine CC.skip ?_
  refine EE.thenN ?_
  refine CC.seq ?_
  refine CC.region ?_
  have l165 := r55.lt
  have l166 := r25.lt
  refine LL.alloc ([Value.slice none 0 0]) rfl rfl rfl rfl rfl ?_
  intro W168 g169 eg169 r170 z171 b167
  replace r55 := r55.up b167
  replace b52 := b52.trans (b167.mono b52.size)
  replace r25 := r25.up b167
  replace b22 := b22.trans (b167.mono b22.size)
  replace q := q.trans (b167.mono q.size)
  refine LL.nilS ?_
  refine CC.seq ?_
  refine CC.region ?_
  have l202 := r170.lt
  have l203 := r55.lt
  have l204 := r25.lt
  refine LL.alloc ([Value.slice none 0 0]) rfl rfl rfl rfl rfl ?_
  intro W206 g207 eg207 r208 z209 b205
  replace r170 := r170.up b205
  replace b167 := b167.trans (b205.mono b167.size)
  replace r55 := r55.up b205
  replace b52 := b52.trans (b205.mono b52.size)
  replace r25 := r25.up b205
  replace b22 := b22.trans (b205.mono b22.size)
  replace q := q.trans (b205.mono q.size)
  refine LL.nilS ?_
  refine CC.seq ?_
  refine CC.seq ?_
  refine CC.region ?_
  refine LL.val (R.move rfl rfl) rfl rfl rfl ?_
  refine LL.val (R.move rfl rfl) rfl rfl rfl ?_
  refine LL.call (R.call rfl rfl rfl) rfl rfl rfl (dright_T _ _ _ _ _ (by first | assumption | omega)) ?_
  rintro e W' ⟨rfl, rfl⟩
  refine ⟨_, rfl, ?_⟩
  refine LL.nilS ?_
  refine CC.yes rfl ?_
  refine CC.region ?_
  refine LL.val (R.move rfl rfl) rfl rfl rfl ?_
  refine LL.val (R.move rfl rfl) rfl rfl rfl ?_
  have l379 := r208.lt
  have l380 := r170.lt
  have l381 := r55.lt
  have l382 := r25.lt
  (refine LL.call (R.call rfl rfl rfl) rfl rfl rfl (dread_any left a n c s _ (hvF _ q) hn h) ?_; rintro e W378 ⟨v1, v2, rfl, o1, o2, hd, b375⟩; rw [eP] at o1; rw [eL] at o2; obtain ⟨a1, c1, rfl, hc1⟩ := (o1.reads prEnc).form rfl; obtain ⟨a2, c2, rfl, hc2⟩ := (o2.reads iEnc).form rfl; clear hd; refine ⟨_, rfl, ?_⟩)
  have zb375 := b375.size
  replace r208 := r208.up b375
  replace b205 := b205.trans (b375.mono b205.size)
  replace r170 := r170.up b375
  replace b167 := b167.trans (b375.mono b167.size)
  replace r55 := r55.up b375
  replace b52 := b52.trans (b375.mono b52.size)
  replace r25 := r25.up b375
  replace b22 := b22.trans (b375.mono b22.size)
  replace q := q.trans (b375.mono q.size)
  refine LL.val (R.move rfl rfl) rfl rfl rfl ?_
  refine LL.val (R.extract rfl rfl rfl) rfl rfl rfl ?_
  refine LL.val (R.extract rfl rfl rfl) rfl rfl rfl ?_
  refine LL.store rfl rfl rfl rfl r170 (by exact Nat.le_of_ble_eq_true rfl) rfl rfl rfl rfl ?_
  intro W519 r520 b518 z521
  have hlb518 := r170.lt
  replace r520 : RowL W519 _ 25 [Value.slice a1 (List.map (fun x => x.2) L).length c1] := r520
  clear r170
  replace o1 := o1.grown b518 (own_ne o1 (by omega))
  replace o2 := o2.grown b518 (own_ne o2 (by omega))
  replace r208 := r208.gr b518 (by have := r208.lt; omega)
  replace b167 := b167.grown b518 b167.size (by rintro k ⟨⟩; omega)
  replace r55 := r55.gr b518 (by have := r55.lt; omega)
  replace b52 := b52.grown b518 b52.size (by rintro k ⟨⟩; omega)
  replace r25 := r25.gr b518 (by have := r25.lt; omega)
  replace b22 := b22.grown b518 b22.size (by rintro k ⟨⟩; omega)
  replace q := q.grown b518 q.size (by rintro k ⟨⟩; omega)
  have r170 := r520
  clear r520
  refine LL.store rfl rfl rfl rfl r208 (by exact Nat.le_of_ble_eq_true rfl) rfl rfl rfl rfl ?_
  intro W556 r557 b555 z558
  have hlb555 := r208.lt
  replace r557 : RowL W556 _ 26 [Value.slice a2 (List.map (fun x => x.1) L).length c2] := r557
  clear r208
  replace o1 := o1.grown b555 (own_ne o1 (by omega))
  replace o2 := o2.grown b555 (own_ne o2 (by omega))
  replace b167 := b167.grown b555 b167.size (by rintro k ⟨⟩; omega)
  replace r55 := r55.gr b555 (by have := r55.lt; omega)
  replace b52 := b52.grown b555 b52.size (by rintro k ⟨⟩; omega)
  replace r25 := r25.gr b555 (by have := r25.lt; omega)
  replace b22 := b22.grown b555 b22.size (by rintro k ⟨⟩; omega)
  replace q := q.grown b555 q.size (by rintro k ⟨⟩; omega)
  replace r170 := r170.gr b555 (by have := r170.lt; omega)
  have r208 := r557
  clear r557
  refine LL.nilS ?_
  refine CC.seq ?_
  refine CC.region ?_
  refine LL.val (R.move rfl rfl) rfl rfl rfl ?_
  have l607 := r55.lt
  have l608 := r25.lt
  have l609 := r170.lt
  have l610 := r208.lt
  (refine LL.call (R.call rfl rfl rfl) rfl rfl rfl (lent_any n _ s _ (hvF _ q) hn h) ?_; rintro e W606 ⟨gL, cL, rfl, hL, hcL, hgL, b603⟩; obtain ⟨X3, hzX3, h3F, q3⟩ := exposeT hL; clear hL; obtain ⟨X1, hzX1, h1F, q1⟩ := exposeT (W := W606) ((o1.up b603).reads prEnc); obtain ⟨X2, hzX2, h2F, q2⟩ := exposeT (W := W606) ((o2.up b603).reads iEnc); clear o1 o2; refine ⟨_, rfl, ?_⟩)
  have zb603 := b603.size
  replace b167 := b167.trans (b603.mono b167.size)
  replace r55 := r55.up b603
  replace b52 := b52.trans (b603.mono b52.size)
  replace r25 := r25.up b603
  replace b22 := b22.trans (b603.mono b22.size)
  replace q := q.trans (b603.mono q.size)
  replace r170 := r170.up b603
  replace r208 := r208.up b603
  refine LL.val (R.assign rfl rfl) rfl rfl rfl ?_
  refine LL.nilS ?_
  refine CC.seq ?_
  refine CC.seq ?_
  refine CC.freeZ (fun W_ j => j < W_.heap.size ∧ (True)) (by kernel_rfl) (by kernel_rfl) (fun W648 b647 z649 => ?_)
  replace b603 := b603.trans (b647.mono b603.size)
  replace q3 := q3.trans (b647.mono q3.size)
  replace q1 := q1.trans (b647.mono q1.size)
  replace q2 := q2.trans (b647.mono q2.size)
  replace b167 := b167.trans (b647.mono b167.size)
  replace r55 := r55.up b647
  replace b52 := b52.trans (b647.mono b52.size)
  replace r25 := r25.up b647
  replace b22 := b22.trans (b647.mono b22.size)
  replace q := q.trans (b647.mono q.size)
  replace r170 := r170.up b647
  replace r208 := r208.up b647
  have hok : Kept (fun j => j < W648.heap.size ∧ (True)) W648 W648 := Kept.refl _ _
  have fzr55 := fzRow (K := fun j => j < W648.heap.size ∧ (True)) r55 ⟨r55.lt, (by first | trivial | omega)⟩
  have fzr25 := fzRow (K := fun j => j < W648.heap.size ∧ (True)) r25 ⟨r25.lt, (by first | trivial | omega)⟩
  have fzr170 := fzRow (K := fun j => j < W648.heap.size ∧ (True)) r170 ⟨r170.lt, (by first | trivial | omega)⟩
  have fzr208 := fzRow (K := fun j => j < W648.heap.size ∧ (True)) r208 ⟨r208.lt, (by first | trivial | omega)⟩
  refine AA.pure 0 rfl hok (by kernel_rfl) (fun w' b' => R.move rfl rfl) rfl rfl ?_
  refine AA.pure 1 rfl hok (by kernel_rfl) (fun w' b' => R.move rfl rfl) rfl rfl ?_
  refine AA.pure 3 rfl hok (by kernel_rfl) (fun w' b' => R.load rfl rfl (I.ld1 rfl (RowL.cell (fzr170 w' b') rfl))) rfl rfl ?_
  refine AA.one 2 (by kernel_rfl) ?_
  refine SR.call rfl (R.call rfl rfl rfl) rfl rfl (read_any left n _ s _ (lentR hn (h3F _ q3) hcL) hn h) ?_
  rintro e W684 ⟨v686, rfl, o685, b683⟩
  have zb683 := b683.size
  replace b647 := b647.trans (b683.mono b647.size)
  replace b603 := b603.trans (b683.mono b603.size)
  replace q3 := q3.trans (b683.mono q3.size)
  replace q1 := q1.trans (b683.mono q1.size)
  replace q2 := q2.trans (b683.mono q2.size)
  replace b167 := b167.trans (b683.mono b167.size)
  replace r55 := r55.up b683
  replace b52 := b52.trans (b683.mono b52.size)
  replace r25 := r25.up b683
  replace b22 := b22.trans (b683.mono b22.size)
  replace q := q.trans (b683.mono q.size)
  replace r170 := r170.up b683
  replace r208 := r208.up b683
  replace hok := hok.trans (bkept b683 (fun j h => by have := h.1; have := hok.size; omega))
  have y687 := hok.size
  refine ⟨_, rfl, hok, ?_⟩
  refine AA.one 4 (by kernel_rfl) ?_
  refine ZR.callBT rfl (R.call rfl rfl rfl) rfl rfl (dprsame_any _ _ (L.map (·.2)) (L.map (·.2)) _ (ownR (by assumption) eR) (h1F _ q1) (by simp; omega) (by simp; omega)) (by first | assumption | omega) (fun W722 b721 => ?_)
  have zb721 := b721.size
  replace o685 := o685.up b721
  replace b683 := b683.trans (b721.mono b683.size)
  replace b647 := b647.trans (b721.mono b647.size)
  replace b603 := b603.trans (b721.mono b603.size)
  replace q3 := q3.trans (b721.mono q3.size)
  replace q1 := q1.trans (b721.mono q1.size)
  replace q2 := q2.trans (b721.mono q2.size)
  replace b167 := b167.trans (b721.mono b167.size)
  replace r55 := r55.up b721
  replace b52 := b52.trans (b721.mono b52.size)
  replace r25 := r25.up b721
  replace b22 := b22.trans (b721.mono b22.size)
  replace q := q.trans (b721.mono q.size)
  replace r170 := r170.up b721
  replace r208 := r208.up b721
  replace hok := hok.trans (bkept b721 (fun j h => by have := h.1; have := hok.size; omega))
  have y723 := hok.size
  refine ⟨hok, ?_⟩
  refine AA.pure 5 rfl hok (by kernel_rfl) (fun w' b' => R.not rfl rfl) rfl rfl ?_
  refine AA.pure 6 rfl hok (by kernel_rfl) (fun w' b' => R.move rfl rfl) rfl rfl ?_
  refine AA.pure 7 rfl hok (by kernel_rfl) (fun w' b' => R.move rfl rfl) rfl rfl ?_
  refine AA.pure 8 rfl hok (by kernel_rfl) (fun w' b' => R.move rfl rfl) rfl rfl ?_
  refine AA.pure 11 rfl hok (by kernel_rfl) (fun w' b' => R.move rfl rfl) rfl rfl ?_
  refine AA.pure 12 rfl hok (by kernel_rfl) (fun w' b' => R.move rfl rfl) rfl rfl ?_
  refine AA.one 9 (by kernel_rfl) ?_
  refine SR.call rfl (R.call rfl rfl rfl) rfl rfl (check_any left n _ s _ (lentR hn (h3F _ q3) hcL) hn h) ?_
  rintro e W758 ⟨rfl, b757⟩
  have zb757 := b757.size
  replace b721 := b721.trans (b757.mono b721.size)
  replace o685 := o685.up b757
  replace b683 := b683.trans (b757.mono b683.size)
  replace b647 := b647.trans (b757.mono b647.size)
  replace b603 := b603.trans (b757.mono b603.size)
  replace q3 := q3.trans (b757.mono q3.size)
  replace q1 := q1.trans (b757.mono q1.size)
  replace q2 := q2.trans (b757.mono q2.size)
  replace b167 := b167.trans (b757.mono b167.size)
  replace r55 := r55.up b757
  replace b52 := b52.trans (b757.mono b52.size)
  replace r25 := r25.up b757
  replace b22 := b22.trans (b757.mono b22.size)
  replace q := q.trans (b757.mono q.size)
  replace r170 := r170.up b757
  replace r208 := r208.up b757
  replace hok := hok.trans (bkept b757 (fun j h => by have := h.1; have := hok.size; omega))
  have y759 := hok.size
  refine ⟨_, rfl, hok, ?_⟩
  refine AA.pureC 10 rfl hok (by kernel_rfl) (fun w' => (R.call rfl rfl rfl)) (fun w' b' => num_any _ w') rfl rfl ?_
  refine AA.one 13 (by kernel_rfl) ?_
  refine SR.call rfl (R.call rfl rfl rfl) rfl rfl (dcheck_any left n _ s _ (hvF _ q) hn h) ?_
  rintro e W794 ⟨rfl, b793⟩
  have zb793 := b793.size
  replace b757 := b757.trans (b793.mono b757.size)
  replace b721 := b721.trans (b793.mono b721.size)
  replace o685 := o685.up b793
  replace b683 := b683.trans (b793.mono b683.size)
  replace b647 := b647.trans (b793.mono b647.size)
  replace b603 := b603.trans (b793.mono b603.size)
  replace q3 := q3.trans (b793.mono q3.size)
  replace q1 := q1.trans (b793.mono q1.size)
  replace q2 := q2.trans (b793.mono q2.size)
  replace b167 := b167.trans (b793.mono b167.size)
  replace r55 := r55.up b793
  replace b52 := b52.trans (b793.mono b52.size)
  replace r25 := r25.up b793
  replace b22 := b22.trans (b793.mono b22.size)
  replace q := q.trans (b793.mono q.size)
  replace r170 := r170.up b793
  replace r208 := r208.up b793
  replace hok := hok.trans (bkept b793 (fun j h => by have := h.1; have := hok.size; omega))
  have y795 := hok.size
  refine ⟨_, rfl, hok, ?_⟩
  refine AA.pure 14 rfl hok (by kernel_rfl) (fun w' b' => R.neF rfl rfl rfl (by omega)) rfl rfl ?_
  refine AA.pure 15 rfl hok (by kernel_rfl) (fun w' b' => R.pick rfl rfl rfl) rfl rfl ?_
  refine AA.done rfl ?_
  clear fzr55 fzr25 fzr170 fzr208 hok
  refine EE.thenN ?_
  refine CC.no rfl ?_
  refine CC.skip ?_
  refine EE.thenN ?_
  refine CC.seq ?_
  refine CC.region ?_
  refine LL.val (R.move rfl rfl) rfl rfl rfl ?_
  refine LL.val (R.move rfl rfl) rfl rfl rfl ?_
  have l888 := r55.lt
  have l889 := r25.lt
  have l890 := r170.lt
  have l891 := r208.lt
  (refine LL.call (R.call rfl rfl rfl) rfl rfl rfl (peach_any left n _ s _ (lentR hn (h3F _ q3) hcL) hn h) ?_; rintro e W887 ⟨bk, a5, c5, rfl, rb, oE, hbk, b884⟩; refine ⟨_, rfl, ?_⟩; obtain ⟨bkl, hbl, hblt⟩ := bkl_row (oE.reads uEnc) bk; obtain ⟨X5, hzX5, h5F, q5⟩ := exposeT (oE.reads uEnc); have lb5 := rb.lt; have zq1 := q1.size; have zq2 := q2.size; have zq3 := q3.size; have zq5 := q5.size; clear oE)
  have zb884 := b884.size
  replace b793 := b793.trans (b884.mono b793.size)
  replace b757 := b757.trans (b884.mono b757.size)
  replace b721 := b721.trans (b884.mono b721.size)
  replace o685 := o685.up b884
  replace b683 := b683.trans (b884.mono b683.size)
  replace b647 := b647.trans (b884.mono b647.size)
  replace b603 := b603.trans (b884.mono b603.size)
  replace q3 := q3.trans (b884.mono q3.size)
  replace q1 := q1.trans (b884.mono q1.size)
  replace q2 := q2.trans (b884.mono q2.size)
  replace b167 := b167.trans (b884.mono b167.size)
  replace r55 := r55.up b884
  replace b52 := b52.trans (b884.mono b52.size)
  replace r25 := r25.up b884
  replace b22 := b22.trans (b884.mono b22.size)
  replace q := q.trans (b884.mono q.size)
  replace r170 := r170.up b884
  replace r208 := r208.up b884
  refine LL.val (R.assign rfl rfl) rfl rfl rfl ?_
  refine LL.nilS ?_
  refine CC.seq ?_
  refine CC.seq ?_
  refine CC.region ?_
  refine LL.val (R.move rfl rfl) rfl rfl rfl ?_
  refine LL.val (R.eqFn rfl rfl rfl rfl) rfl rfl rfl ?_
  refine LL.nilS ?_
  refine CC.no rfl ?_
  refine CC.skip ?_
  refine EE.thenN ?_
  refine CC.seq ?_
  refine CC.seq ?_
  refine CC.region ?_
  have l1039 := rb.lt
  have l1040 := r55.lt
  have l1041 := r25.lt
  have l1042 := r170.lt
  have l1043 := r208.lt
  refine LL.alloc ([Value.int IntKind.i64 0]) rfl rfl rfl rfl rfl ?_
  intro W1045 g1046 eg1046 r1047 z1048 b1044
  replace rb := rb.up b1044
  replace b884 := b884.trans (b1044.mono b884.size)
  replace q5 := q5.trans (b1044.mono q5.size)
  replace b793 := b793.trans (b1044.mono b793.size)
  replace b757 := b757.trans (b1044.mono b757.size)
  replace b721 := b721.trans (b1044.mono b721.size)
  replace o685 := o685.up b1044
  replace b683 := b683.trans (b1044.mono b683.size)
  replace b647 := b647.trans (b1044.mono b647.size)
  replace b603 := b603.trans (b1044.mono b603.size)
  replace q3 := q3.trans (b1044.mono q3.size)
  replace q1 := q1.trans (b1044.mono q1.size)
  replace q2 := q2.trans (b1044.mono q2.size)
  replace b167 := b167.trans (b1044.mono b167.size)
  replace r55 := r55.up b1044
  replace b52 := b52.trans (b1044.mono b52.size)
  replace r25 := r25.up b1044
  replace b22 := b22.trans (b1044.mono b22.size)
  replace q := q.trans (b1044.mono q.size)
  replace r170 := r170.up b1044
  replace r208 := r208.up b1044
  refine LL.store rfl rfl rfl rfl r1047 (by exact Nat.le_of_ble_eq_true rfl) rfl rfl rfl rfl ?_
  intro W1089 r1090 b1088 z1091
  have hlb1088 := r1047.lt
  replace r1090 : RowL W1089 _ 3 [Value.int IntKind.i64 0] := r1090
  clear r1047
  replace b1044 := b1044.grown b1088 b1044.size (by rintro k ⟨⟩; omega)
  replace rb := rb.gr b1088 (by have := rb.lt; omega)
  replace b884 := b884.grown b1088 b884.size (by rintro k ⟨⟩; omega)
  replace q5 := q5.grown b1088 q5.size (by rintro k ⟨⟩; omega)
  replace b793 := b793.grown b1088 b793.size (by rintro k ⟨⟩; omega)
  replace b757 := b757.grown b1088 b757.size (by rintro k ⟨⟩; omega)
  replace b721 := b721.grown b1088 b721.size (by rintro k ⟨⟩; omega)
  replace b683 := b683.grown b1088 b683.size (by rintro k ⟨⟩; omega)
  replace b647 := b647.grown b1088 b647.size (by rintro k ⟨⟩; omega)
  replace b603 := b603.grown b1088 b603.size (by rintro k ⟨⟩; omega)
  replace q3 := q3.grown b1088 q3.size (by rintro k ⟨⟩; omega)
  replace q1 := q1.grown b1088 q1.size (by rintro k ⟨⟩; omega)
  replace q2 := q2.grown b1088 q2.size (by rintro k ⟨⟩; omega)
  replace b167 := b167.grown b1088 b167.size (by rintro k ⟨⟩; omega)
  replace r55 := r55.gr b1088 (by have := r55.lt; omega)
  replace b52 := b52.grown b1088 b52.size (by rintro k ⟨⟩; omega)
  replace r25 := r25.gr b1088 (by have := r25.lt; omega)
  replace b22 := b22.grown b1088 b22.size (by rintro k ⟨⟩; omega)
  replace q := q.grown b1088 q.size (by rintro k ⟨⟩; omega)
  replace r170 := r170.gr b1088 (by have := r170.lt; omega)
  replace r208 := r208.gr b1088 (by have := r208.lt; omega)
  have r1047 := r1090
  clear r1090
  refine LL.nilS ?_
  refine CC.block ?_
  obtain ⟨v1, h1F, rw1⟩ := packV h1F r170
  obtain ⟨v2, h2F, ra1⟩ := packV h2F r208
  have rk1 := r25
  have rr1 := r55
  have rt1 := r1047
  obtain ⟨gk, ek⟩ : ∃ g, g = g24 := ⟨_, rfl⟩
  obtain ⟨gr, er⟩ : ∃ g, g = g54 := ⟨_, rfl⟩
  obtain ⟨gw, ew⟩ : ∃ g, g = g169 := ⟨_, rfl⟩
  obtain ⟨ga, ea⟩ : ∃ g, g = g207 := ⟨_, rfl⟩
  obtain ⟨gt, et⟩ : ∃ g, g = g1046 := ⟨_, rfl⟩
  obtain ⟨W0, eW⟩ : ∃ X, X = W1089 := ⟨_, rfl⟩
  subst ek er ew ea et eW
  have hord : w.heap.size ≤ gk ∧ gk < gr ∧ gr < gw ∧ gw < ga ∧ ga < gt ∧ bk < gt ∧ bkl < gt ∧ X1.heap.size ≤ gt ∧ X2.heap.size ≤ gt ∧ X3.heap.size ≤ gt := by omega
  have hG := (each1_gives bk bkl a5 (eachS left s).length c5 left (eachS left s) W0 rb (h5F _ q5) rfl (eachS_len (by omega)) hbl).z
  rw [eE] at hG
  have hV : LvR W0 w X1 X2 X3 gk gr gw ga gt many v1 v2 0 := ⟨rk1, rr1, rw1, ra1, rt1, q1, q2, q3, q⟩
  obtain ⟨K, hK⟩ : ∃ K, L.length = K := ⟨_, rfl⟩
  have hK1 : (L.map (·.2)).length = K := by rw [List.length_map, hK]
  have hK2 : (L.map (·.1)).length = K := by rw [List.length_map, hK]
  obtain ⟨av1, cv1, rfl, _⟩ := (h1F _ q1).form hK1
  obtain ⟨av2, cv2, rfl, _⟩ := (h2F _ q2).form hK2
  have qB := Below.refl W0.heap.size W0
  have jsz := q.size
  have jt := rt1.lt
  clear r25 r55 r170 r208 r1047 b1088 b1044 b884 b793 b757 b721 b683 b647 b603 b167 b52 b22 rk1 rr1 rw1 ra1 q q1 q2 q3 q5 rb h5F hvF
  refine CC.keep [(1, .slice a n c), (5, .pointer (some ⟨gk, 0, none⟩)), (6, .pointer (some ⟨gr, 0, none⟩)), (7, .pointer (some ⟨gw, 0, none⟩)), (8, .pointer (some ⟨ga, 0, none⟩)), (9, .slice (some ⟨gL, 0, none⟩) n cL), (10, .func (.func 62) #[] [Value.pointer (some ⟨bk, 0, none⟩)].toArray), (11, .pointer (some ⟨gt, 0, none⟩))] ⟨rfl, rfl, rfl, rfl, rfl, rfl, rfl, rfl, trivial⟩ ?_
  refine CC.loopN 3 ?_
  refine RN.step ?_
  refine CC.seq ?_
  refine CC.seq ?_
  refine CC.region ?_
  refine LL.val (R.load rfl rfl (I.ld1 rfl (RowL.cell rt1 rfl))) rfl rfl rfl ?_
  refine LL.val (R.ltT rfl rfl rfl (by omega)) rfl rfl rfl ?_
  refine LL.nilS ?_
  refine CC.yes rfl ?_
  refine CC.skip ?_
  refine EE.thenN ?_
  refine CC.seq ?_
  refine CC.block ?_
  refine CC.seq ?_
  refine CC.region ?_
  have la1 := rt1.lt
  refine LL.alloc ([Value.int IntKind.i64 0]) rfl rfl rfl rfl rfl ?_
  intro Wa3 ga4 ega4 ra5 za6 ba2
  replace rt1 := rt1.up ba2
  replace qB := qB.trans (ba2.mono qB.size)
  refine LL.store rfl rfl rfl rfl ra5 (by exact Nat.le_of_ble_eq_true rfl) rfl rfl rfl rfl ?_
  intro Wa8 ra9 ba7 za10
  have hlba7 := ra5.lt
  replace ra9 : RowL Wa8 _ 3 [Value.int IntKind.i64 0] := ra9
  clear ra5
  replace ba2 := ba2.grown ba7 ba2.size (by rintro k ⟨⟩; omega)
  replace rt1 := rt1.gr ba7 (by have := rt1.lt; omega)
  replace qB := qB.grown ba7 qB.size (by rintro k ⟨⟩; omega)
  have ra5 := ra9
  clear ra9
  refine LL.nilS ?_
  refine CC.seq ?_
  refine CC.seq ?_
  refine CC.region ?_
  refine LL.val (R.move rfl rfl) rfl rfl rfl ?_
  refine LL.nilS ?_
  refine CC.block ?_
  have yB := qB.size
  have kn := ra5.lt
  clear rt1
  refine CC.rangeZ (γ := Nat) (gf := 62) (lb := [Value.pointer (some ⟨bk, 0, none⟩)]) (encs := spE) rfl rfl hG qB (fun k hk => by (try simp only at hk); omega) (fun _ => rfl) rfl
    (fun m (pre : List (Nat × Pr)) W' => Below W0.heap.size W0 W' ∧ Wa8.heap.size ≤ W'.heap.size ∧ RowL W' ga4 3 [.int .i64 (pre.length : Int)] ∧ (pre.length = 0 ∨ (pre.length : Int) < many))
    (fun m (pre : List (Nat × Pr)) W' => Below W0.heap.size W0 W' ∧ RowL W' ga4 3 [.int .i64 (pre.length : Int)] ∧ (many ≤ pre.length ∧ (pre.length = 1 ∨ (pre.length : Int) - 1 < many) ∧ 1 ≤ pre.length ∧ pre.length ≤ K))
    (fun W' => Below W0.heap.size W0 W' ∧ ∃ p : Nat, RowL W' ga4 3 [.int .i64 (p : Int)] ∧ ((p : Int) = (if (K : Int) < (if 1 < many then many else 1) then (K : Int) else (if 1 < many then many else 1))))
    (fun m m' s X Y hs ht hg => ⟨hs.1.trans (ht.below yB hs.1.size), by have := ht.size; omega, ht.row hs.2.2.1 (.inl kn), hs.2.2.2⟩)
    (fun m m' s X Y hs ht hg => ⟨hs.1.trans (ht.below yB hs.1.size), ht.row hs.2.1 (.inl kn), hs.2.2⟩)
    ⟨qB, Nat.le_refl _, ra5, .inl rfl⟩ ?hIA ?hIxA
    (fun x g => sl [(1, .slice a n c), (5, .pointer (some ⟨gk, 0, none⟩)), (6, .pointer (some ⟨gr, 0, none⟩)), (7, .pointer (some ⟨gw, 0, none⟩)), (8, .pointer (some ⟨ga, 0, none⟩)), (9, .slice (some ⟨gL, 0, none⟩) n cL), (10, .func (.func 62) #[] [Value.pointer (some ⟨bk, 0, none⟩)].toArray), (11, .pointer (some ⟨gt, 0, none⟩)), (12, .pointer (some ⟨ga4, 0, none⟩)), (13, .int .i64 (x.1 : Int)), (14, .pointer (some ⟨g, 0, none⟩))]) (fun x g W' => RowL W' g 41 (prE x.2) ∧ Wa8.heap.size ≤ g) (fun x g => fun _ W W' row h hg hr => ⟨RowL.own () W W' row h.1 hg hr, h.2⟩) ?assign ?body ?after
  case hIA =>
    rintro m xs W' rfl ⟨h1, hz, h2, h3⟩
    exact ⟨h1, _, h2, by rw [hK] at h3 ⊢; rcases h3 with h3 | h3 <;> split <;> (try split) <;> omega⟩
  case hIxA =>
    rintro m pre W' hp ⟨h1, h2, h3⟩
    exact ⟨h1, pre.length, h2, by split <;> (try split) <;> omega⟩
  case assign =>
    rintro l' m pre x W Kc hm ⟨h1, hz, h2, h3⟩ hKc
    have qa := Below.refl W.heap.size W
    have hup : ∀ X, Below W.heap.size W X → Below W0.heap.size W0 X ∧ Wa8.heap.size ≤ X.heap.size ∧ RowL X ga4 3 [.int .i64 (pre.length : Int)] ∧ ((pre.length = 0 ∨ (pre.length : Int) < many)) := fun X b => ⟨h1.trans (b.mono h1.size), by have := b.size; omega, h2.up b, h3⟩
    clear h1 h2 h3
    refine CC.seq ?_
    refine CC.region ?_
    refine LL.val (R.assign rfl rfl) rfl rfl rfl ?_
    refine LL.nilS ?_
    refine CC.region ?_
    refine LL.alloc ([Value.int IntKind.u64 0, Value.int IntKind.u64 0]) rfl rfl rfl rfl rfl ?_
    intro Wb2 gb3 egb3 rb4 zb5 bb1
    replace qa := qa.trans (bb1.mono qa.size)
    refine LL.storeN (vs := [Value.int IntKind.u64 ↑x.2.1, Value.int IntKind.u64 ↑x.2.2]) rfl rfl rfl rfl rb4 (by exact Nat.le_of_ble_eq_true rfl) (ones_of rfl) rfl rfl ?_
    intro Wb7 rb8 bb6 zb9
    have hlbb6 := rb4.lt
    replace rb8 : RowL Wb7 _ 41 [Value.int IntKind.u64 ↑x.2.1, Value.int IntKind.u64 ↑x.2.2] := rb8
    clear rb4
    replace bb1 := bb1.grown bb6 bb1.size (by rintro k ⟨⟩; omega)
    replace qa := qa.grown bb6 qa.size (by rintro k ⟨⟩; omega)
    have rb4 := rb8
    clear rb8
    refine LL.nil ?_
    exact EE.thenK fun a' F => hKc a' _ _ (StaysZ.of_below qa) (Keeps.of_below (fun k hk => by (try simp only at hk); omega) qa) (hup _ qa) (F.keep _ ⟨rfl, rfl, rfl, rfl, rfl, rfl, rfl, rfl, rfl, rfl, rfl, trivial⟩) ⟨by assumption, by omega⟩
  case body =>
    rintro l' m pre ⟨jx, kx, px⟩ g W hm hl' hrl ⟨h1, hz, hn', h3⟩ ⟨hx, hgB⟩ ⟨xs, hxs, tt, hp⟩
    rw [hxs] at hp
    have hget : L[pre.length]? = some (jx, kx, px) := by rw [← hp]; simp
    have hpk : pre.length < K := by rw [← hK]; exact (List.getElem?_eq_some_iff.1 hget).1
    have hxd : (pre ++ [(jx, kx, px)]).length = pre.length + 1 := by simp
    have ySz := h1.size
    obtain ⟨rk, rr, rw1, ra1, rt, q1, q2, q3, bel⟩ := hV.lift h1
    have hg1 : (L.map (·.2))[pre.length]? = some (kx, px) := by rw [List.getElem?_map, hget]; rfl
    have hg2 : (L.map (·.1))[pre.length]? = some jx := by rw [List.getElem?_map, hget]; rfl
    obtain ⟨b1, o1, rfl, _, _⟩ := (h1F _ q1).get prEnc hg1
    obtain ⟨b2, o2, rfl, _, hc2⟩ := (h2F _ q2).one iEnc hg2
    have c2 := hc2 _ rfl
    have m1 : CellsN W ⟨b1, o1 + pre.length * 2, none⟩ 2 [.int .u64 (kx : Int), .int .u64 (px : Int)] := (h1F W q1).elemN prEnc hg1
    have hx : RowL W g 41 [.int .u64 (kx : Int), .int .u64 (px : Int)] := hx
    have lx := hx.lt
    have st := StaysZ.refl Wa8.heap.size m W
    have kp := Keeps.refl (fun k => k = bk ∨ k = bkl) W
    have hbW : bk < W.heap.size ∧ bkl < W.heap.size := by omega
    have hbn : bk ≠ ga4 ∧ bkl ≠ ga4 := by omega
    clear hc2 bel hl' hrl hp hm hget hxs q1 q2 q3 rr
    by_cases hmany : many ≤ (pre.length : Int) + 1
    · refine CC.block ?_
      refine CC.seq ?_
      refine CC.seq ?_
      refine CC.quietB (by kernel_rfl) (by kernel_rfl) (fun Wc2 bc1 zc3 => ?_)
      replace h1 := h1.trans (bc1.mono h1.size)
      replace hn' := hn'.up bc1
      replace hx := hx.up bc1
      replace rk := rk.up bc1
      replace rt := rt.up bc1
      replace rw1 := rw1.up bc1
      replace ra1 := ra1.up bc1
      replace c2 := cell_up c2 bc1
      replace m1 := m1.up bc1
      replace st := st.trans (StaysZ.of_below bc1)
      replace kp := kp.trans (Keeps.of_below (fun k hk => by (try simp only at hk); omega) bc1)
      refine SS.val (R.load rfl rfl (I.ld1 rfl (RowL.cell hn' rfl))) rfl rfl ?_
      refine SS.val (R.load rfl rfl (I.ld1 rfl (RowL.cell rw1 rfl))) rfl rfl ?_
      refine SS.val (R.len rfl rfl rfl rfl) rfl rfl ?_
      refine SS.val (R.geF rfl rfl rfl (by omega)) rfl rfl ?_
      refine SS.val (R.move rfl rfl) rfl rfl ?_
      refine SS.val (R.move rfl rfl) rfl rfl ?_
      refine SS.val (R.load rfl rfl (I.ld1 rfl (RowL.cell ra1 rfl))) rfl rfl ?_
      refine SS.val (R.load rfl rfl (I.ld1 rfl (RowL.cell hn' rfl))) rfl rfl ?_
      refine SS.val (R.index rfl rfl rfl (I.ixS1 rfl (by omega))) rfl rfl ?_
      refine SS.val (R.load rfl rfl (I.ld1 rfl (by assumption))) rfl rfl ?_
      refine SS.val (R.neF rfl rfl rfl (by omega)) rfl rfl ?_
      refine SS.val (R.pick rfl rfl rfl) rfl rfl ?_
      refine SS.val (R.move rfl rfl) rfl rfl ?_
      refine SS.val (R.load rfl rfl (I.ldNc (vs := [Value.int IntKind.u64 ↑kx, Value.int IntKind.u64 ↑px]) (RowL.cells hx rfl) (by rfl) (by rfl))) rfl rfl ?_
      refine SS.val (R.load rfl rfl (I.ld1 rfl (RowL.cell rw1 rfl))) rfl rfl ?_
      refine SS.val (R.load rfl rfl (I.ld1 rfl (RowL.cell hn' rfl))) rfl rfl ?_
      refine SS.val (R.index rfl rfl rfl (I.ixS rfl (by omega))) rfl rfl ?_
      refine SS.val (R.load rfl rfl (I.ldM (by assumption) rfl rfl)) rfl rfl ?_
      refine SS.val (R.neST (p := (↑kx : Int) = ↑kx ∧ (↑px : Int) = ↑px) (bs := [decide ((↑kx : Int) = ↑kx), decide ((↑px : Int) = ↑px)]) rfl rfl rfl rfl (by kernel_rfl) (by kernel_rfl) (by simp) (by first | assumption | omega | exact ⟨rfl, rfl⟩ | exact fun h => h ⟨rfl, rfl⟩)) rfl rfl ?_
      refine SS.val (R.pick rfl rfl rfl) rfl rfl ?_
      refine SS.nilQ ?_
      refine EE.thenN ?_
      refine CC.no rfl ?_
      refine CC.skip ?_
      refine EE.thenN ?_
      refine CC.seq ?_
      refine CC.region ?_
      refine LL.val (R.load rfl rfl (I.ld1 rfl (RowL.cell hn' rfl))) rfl rfl rfl ?_
      refine LL.val (R.addNc rfl rfl rfl rfl (by omega)) rfl rfl rfl ?_
      refine LL.store rfl rfl rfl rfl hn' (by exact Nat.le_of_ble_eq_true rfl) rfl rfl rfl rfl ?_
      intro Wc5 rc6 bc4 zc7
      have hlbc4 := hn'.lt
      replace rc6 : RowL Wc5 _ 3 [Value.int IntKind.i64 ↑(pre.length + 1)] := rc6
      clear hn'
      replace h1 := h1.grown bc4 h1.size (by rintro k ⟨⟩; omega)
      replace hx := hx.gr bc4 (by have := hx.lt; omega)
      replace rk := rk.gr bc4 (by have := rk.lt; omega)
      replace rt := rt.gr bc4 (by have := rt.lt; omega)
      replace rw1 := rw1.gr bc4 (by have := rw1.lt; omega)
      replace ra1 := ra1.gr bc4 (by have := ra1.lt; omega)
      replace st := st.trans (StaysZ.of_grown bc4 (by omega))
      replace kp := kp.trans (Keeps.of_grown bc4 fun k hk => by (try simp only at hk); omega)
      have hn' := rc6
      clear rc6
      refine LL.nilS ?_
      refine CC.seq ?_
      refine CC.region ?_
      refine LL.val (R.load rfl rfl (I.ld1 rfl (RowL.cell rt rfl))) rfl rfl rfl ?_
      refine LL.val (R.eqT rfl rfl rfl (by omega)) rfl rfl rfl ?_
      refine LL.val (R.move rfl rfl) rfl rfl rfl ?_
      refine LL.val (R.load rfl rfl (I.ld1 rfl (RowL.cell hn' rfl))) rfl rfl rfl ?_
      refine LL.val (R.load rfl rfl (I.ld1 rfl (RowL.cell rk rfl))) rfl rfl rfl ?_
      refine LL.val (R.geT rfl rfl rfl (by omega)) rfl rfl rfl ?_
      refine LL.val (R.pick rfl rfl rfl) rfl rfl rfl ?_
      refine LL.nilS ?_
      refine CC.yes rfl ?_
      refine CC.exit ?_
      refine EE.inX' rfl ?_
      exact EE.roundXZ ⟨st, rfl, h1, by rw [hxd]; exact hn', by rw [hxd]; omega, by rw [hxd]; omega, by rw [hxd]; omega, by rw [hxd]; omega⟩
    · refine CC.block ?_
      refine CC.seq ?_
      refine CC.seq ?_
      refine CC.quietB (by kernel_rfl) (by kernel_rfl) (fun Wd2 bd1 zd3 => ?_)
      replace h1 := h1.trans (bd1.mono h1.size)
      replace hn' := hn'.up bd1
      replace hx := hx.up bd1
      replace rk := rk.up bd1
      replace rt := rt.up bd1
      replace rw1 := rw1.up bd1
      replace ra1 := ra1.up bd1
      replace c2 := cell_up c2 bd1
      replace m1 := m1.up bd1
      replace st := st.trans (StaysZ.of_below bd1)
      replace kp := kp.trans (Keeps.of_below (fun k hk => by (try simp only at hk); omega) bd1)
      refine SS.val (R.load rfl rfl (I.ld1 rfl (RowL.cell hn' rfl))) rfl rfl ?_
      refine SS.val (R.load rfl rfl (I.ld1 rfl (RowL.cell rw1 rfl))) rfl rfl ?_
      refine SS.val (R.len rfl rfl rfl rfl) rfl rfl ?_
      refine SS.val (R.geF rfl rfl rfl (by omega)) rfl rfl ?_
      refine SS.val (R.move rfl rfl) rfl rfl ?_
      refine SS.val (R.move rfl rfl) rfl rfl ?_
      refine SS.val (R.load rfl rfl (I.ld1 rfl (RowL.cell ra1 rfl))) rfl rfl ?_
      refine SS.val (R.load rfl rfl (I.ld1 rfl (RowL.cell hn' rfl))) rfl rfl ?_
      refine SS.val (R.index rfl rfl rfl (I.ixS1 rfl (by omega))) rfl rfl ?_
      refine SS.val (R.load rfl rfl (I.ld1 rfl (by assumption))) rfl rfl ?_
      refine SS.val (R.neF rfl rfl rfl (by omega)) rfl rfl ?_
      refine SS.val (R.pick rfl rfl rfl) rfl rfl ?_
      refine SS.val (R.move rfl rfl) rfl rfl ?_
      refine SS.val (R.load rfl rfl (I.ldNc (vs := [Value.int IntKind.u64 ↑kx, Value.int IntKind.u64 ↑px]) (RowL.cells hx rfl) (by rfl) (by rfl))) rfl rfl ?_
      refine SS.val (R.load rfl rfl (I.ld1 rfl (RowL.cell rw1 rfl))) rfl rfl ?_
      refine SS.val (R.load rfl rfl (I.ld1 rfl (RowL.cell hn' rfl))) rfl rfl ?_
      refine SS.val (R.index rfl rfl rfl (I.ixS rfl (by omega))) rfl rfl ?_
      refine SS.val (R.load rfl rfl (I.ldM (by assumption) rfl rfl)) rfl rfl ?_
      refine SS.val (R.neST (p := (↑kx : Int) = ↑kx ∧ (↑px : Int) = ↑px) (bs := [decide ((↑kx : Int) = ↑kx), decide ((↑px : Int) = ↑px)]) rfl rfl rfl rfl (by kernel_rfl) (by kernel_rfl) (by simp) (by first | assumption | omega | exact ⟨rfl, rfl⟩ | exact fun h => h ⟨rfl, rfl⟩)) rfl rfl ?_
      refine SS.val (R.pick rfl rfl rfl) rfl rfl ?_
      refine SS.nilQ ?_
      refine EE.thenN ?_
      refine CC.no rfl ?_
      refine CC.skip ?_
      refine EE.thenN ?_
      refine CC.seq ?_
      refine CC.region ?_
      refine LL.val (R.load rfl rfl (I.ld1 rfl (RowL.cell hn' rfl))) rfl rfl rfl ?_
      refine LL.val (R.addNc rfl rfl rfl rfl (by omega)) rfl rfl rfl ?_
      refine LL.store rfl rfl rfl rfl hn' (by exact Nat.le_of_ble_eq_true rfl) rfl rfl rfl rfl ?_
      intro Wd5 rd6 bd4 zd7
      have hlbd4 := hn'.lt
      replace rd6 : RowL Wd5 _ 3 [Value.int IntKind.i64 ↑(pre.length + 1)] := rd6
      clear hn'
      replace h1 := h1.grown bd4 h1.size (by rintro k ⟨⟩; omega)
      replace hx := hx.gr bd4 (by have := hx.lt; omega)
      replace rk := rk.gr bd4 (by have := rk.lt; omega)
      replace rt := rt.gr bd4 (by have := rt.lt; omega)
      replace rw1 := rw1.gr bd4 (by have := rw1.lt; omega)
      replace ra1 := ra1.gr bd4 (by have := ra1.lt; omega)
      replace st := st.trans (StaysZ.of_grown bd4 (by omega))
      replace kp := kp.trans (Keeps.of_grown bd4 fun k hk => by (try simp only at hk); omega)
      have hn' := rd6
      clear rd6
      refine LL.nilS ?_
      refine CC.seq ?_
      refine CC.region ?_
      refine LL.val (R.load rfl rfl (I.ld1 rfl (RowL.cell rt rfl))) rfl rfl rfl ?_
      refine LL.val (R.eqT rfl rfl rfl (by omega)) rfl rfl rfl ?_
      refine LL.val (R.move rfl rfl) rfl rfl rfl ?_
      refine LL.val (R.load rfl rfl (I.ld1 rfl (RowL.cell hn' rfl))) rfl rfl rfl ?_
      refine LL.val (R.load rfl rfl (I.ld1 rfl (RowL.cell rk rfl))) rfl rfl rfl ?_
      refine LL.val (R.geF rfl rfl rfl (by omega)) rfl rfl rfl ?_
      refine LL.val (R.pick rfl rfl rfl) rfl rfl rfl ?_
      refine LL.nilS ?_
      refine CC.no rfl ?_
      refine CC.skip ?_
      refine EE.inN ?_
      exact EE.roundNZ ⟨st, kp, h1, by omega, by rw [hxd]; exact hn', .inr (by rw [hxd]; omega)⟩
  case after =>
    rintro E0 W hE0 ⟨h1, p, hn', hcp⟩ hE01
    obtain ⟨rk, rr, rw1, ra1, rt, q1, q2, q3, bel⟩ := hV.lift h1
    have yz := h1.size
    have eE0 := (Array.getElem?_eq_some_iff.1 hE01).1
    refine EE.thenN ?_
    refine CC.seq ?_
    refine CC.region ?_
    refine LL.val (R.load rfl rfl (I.ld1 rfl (RowL.cell rt rfl))) rfl rfl rfl ?_
    refine LL.val (R.eqT rfl rfl rfl (by omega)) rfl rfl rfl ?_
    refine LL.val (R.move rfl rfl) rfl rfl rfl ?_
    refine LL.val (R.load rfl rfl (I.ld1 rfl (RowL.cell hn' rfl))) rfl rfl rfl ?_
    refine LL.val (R.load rfl rfl (I.ld1 rfl (RowL.cell rw1 rfl))) rfl rfl rfl ?_
    refine LL.val (R.len rfl rfl rfl rfl) rfl rfl rfl ?_
    refine LL.val (R.load rfl rfl (I.ld1 rfl (RowL.cell rk rfl))) rfl rfl rfl ?_
    refine LL.val (R.max rfl rfl) rfl rfl rfl ?_
    refine LL.val (R.min rfl rfl) rfl rfl rfl ?_
    refine LL.val (R.neF rfl rfl rfl (by omega)) rfl rfl rfl ?_
    refine LL.val (R.pick rfl rfl rfl) rfl rfl rfl ?_
    refine LL.val (R.move rfl rfl) rfl rfl rfl ?_
    refine LL.val (R.load rfl rfl (I.ld1 rfl (RowL.cell rt rfl))) rfl rfl rfl ?_
    refine LL.val (R.eqF rfl rfl rfl (by omega)) rfl rfl rfl ?_
    refine LL.val (R.move rfl rfl) rfl rfl rfl ?_
    refine LL.skip rfl rfl ?_
    refine LL.skip rfl rfl ?_
    refine LL.skip rfl rfl ?_
    refine LL.skip rfl rfl ?_
    refine LL.val (R.pick rfl rfl rfl) rfl rfl rfl ?_
    refine LL.val (R.pick rfl rfl rfl) rfl rfl rfl ?_
    refine LL.nilS ?_
    refine CC.no rfl ?_
    refine CC.skip ?_
    refine EE.inN ?_
    refine EE.thenN ?_
    refine CC.seq ?_
    refine CC.seq ?_
    refine CC.region ?_
    refine LL.val (R.load rfl rfl (I.ld1 rfl (RowL.cell rt rfl))) rfl rfl rfl ?_
    refine LL.nilS ?_
    refine CC.region ?_
    have le1 := hn'.lt
    have le2 := (Array.getElem?_eq_some_iff.1 hE01).1
    have le3 := rk.lt
    have le4 := rr.lt
    have le5 := rw1.lt
    have le6 := ra1.lt
    have le7 := rt.lt
    refine LL.alloc ([Value.int IntKind.i64 0]) rfl rfl rfl rfl rfl ?_
    intro We9 ge10 ege10 re11 ze12 be8
    replace h1 := h1.trans (be8.mono h1.size)
    replace hn' := hn'.up be8
    replace hE01 := defer_up hE01 be8
    replace rk := rk.up be8
    replace rr := rr.up be8
    replace rw1 := rw1.up be8
    replace ra1 := ra1.up be8
    replace rt := rt.up be8
    replace q1 := q1.trans (be8.mono q1.size)
    replace q2 := q2.trans (be8.mono q2.size)
    replace q3 := q3.trans (be8.mono q3.size)
    replace bel := bel.trans (be8.mono bel.size)
    refine LL.store rfl rfl rfl rfl re11 (by exact Nat.le_of_ble_eq_true rfl) rfl rfl rfl rfl ?_
    intro We14 re15 be13 ze16
    have hlbe13 := re11.lt
    replace re15 : RowL We14 _ 3 [Value.int IntKind.i64 0] := re15
    clear re11
    replace be8 := be8.grown be13 be8.size (by rintro k ⟨⟩; omega)
    replace h1 := h1.grown be13 h1.size (by rintro k ⟨⟩; omega)
    replace hn' := hn'.gr be13 (by have := hn'.lt; omega)
    replace hE01 := (be13.block _ (Array.getElem?_eq_some_iff.1 hE01).1 (by simp; omega)).trans hE01
    replace rk := rk.gr be13 (by have := rk.lt; omega)
    replace rr := rr.gr be13 (by have := rr.lt; omega)
    replace rw1 := rw1.gr be13 (by have := rw1.lt; omega)
    replace ra1 := ra1.gr be13 (by have := ra1.lt; omega)
    replace rt := rt.gr be13 (by have := rt.lt; omega)
    replace q1 := q1.grown be13 q1.size (by rintro k ⟨⟩; omega)
    replace q2 := q2.grown be13 q2.size (by rintro k ⟨⟩; omega)
    replace q3 := q3.grown be13 q3.size (by rintro k ⟨⟩; omega)
    replace bel := bel.grown be13 bel.size (by rintro k ⟨⟩; omega)
    have re11 := re15
    clear re15
    refine LL.nilS ?_
    refine CC.region ?_
    refine LL.val (R.load rfl rfl (I.ld1 rfl (RowL.cell re11 rfl))) rfl rfl rfl ?_
    refine LL.val (R.addIz (z := 1) rfl rfl rfl (by decide) (by decide)) rfl rfl rfl ?_
    refine LL.store rfl rfl rfl rfl re11 (by exact Nat.le_of_ble_eq_true rfl) rfl rfl rfl rfl ?_
    intro We18 re19 be17 ze20
    have hlbe17 := re11.lt
    replace re19 : RowL We18 _ 3 [Value.int IntKind.i64 1] := re19
    clear re11
    replace be8 := be8.grown be17 be8.size (by rintro k ⟨⟩; omega)
    replace h1 := h1.grown be17 h1.size (by rintro k ⟨⟩; omega)
    replace hn' := hn'.gr be17 (by have := hn'.lt; omega)
    replace hE01 := (be17.block _ (Array.getElem?_eq_some_iff.1 hE01).1 (by simp; omega)).trans hE01
    replace rk := rk.gr be17 (by have := rk.lt; omega)
    replace rr := rr.gr be17 (by have := rr.lt; omega)
    replace rw1 := rw1.gr be17 (by have := rw1.lt; omega)
    replace ra1 := ra1.gr be17 (by have := ra1.lt; omega)
    replace rt := rt.gr be17 (by have := rt.lt; omega)
    replace q1 := q1.grown be17 q1.size (by rintro k ⟨⟩; omega)
    replace q2 := q2.grown be17 q2.size (by rintro k ⟨⟩; omega)
    replace q3 := q3.grown be17 q3.size (by rintro k ⟨⟩; omega)
    replace bel := bel.grown be17 bel.size (by rintro k ⟨⟩; omega)
    have re11 := re19
    clear re19
    refine LL.nil ?_
    refine EE.again ?_
    have hV1 : LvR We18 w X1 X2 X3 gk gr gw ga ge10 many (.slice av1 K cv1) (.slice av2 K cv2) 1 := ⟨rk, rr, rw1, ra1, re11, q1, q2, q3, bel⟩
    have hE0k : ∀ W', Below We18.heap.size We18 W' → W'.heap[E0]? = some (.deferred (some [])) := fun W' h => defer_up hE01 h
    have qA := h1
    have qB := Below.refl We18.heap.size We18
    have jsz := bel.size
    have jE := (Array.getElem?_eq_some_iff.1 hE01).1
    have hord2 : ga < ge10 ∧ bk < ge10 ∧ bkl < ge10 ∧ X3.heap.size ≤ ge10 := by omega
    clear h1 hn' hcp rt be8 be13 be17 kn hE01 yB ra5 ba2
    refine RN.keep [(1, .slice a n c), (5, .pointer (some ⟨gk, 0, none⟩)), (6, .pointer (some ⟨gr, 0, none⟩)), (7, .pointer (some ⟨gw, 0, none⟩)), (8, .pointer (some ⟨ga, 0, none⟩)), (9, .slice (some ⟨gL, 0, none⟩) n cL), (10, .func (.func 62) #[] [Value.pointer (some ⟨bk, 0, none⟩)].toArray), (11, .pointer (some ⟨ge10, 0, none⟩))] ⟨rfl, rfl, rfl, rfl, rfl, rfl, rfl, rfl, trivial⟩ ?_
    refine RN.step ?_
    refine CC.seq ?_
    refine CC.seq ?_
    refine CC.region ?_
    refine LL.val (R.load rfl rfl (I.ld1 rfl (RowL.cell re11 rfl))) rfl rfl rfl ?_
    refine LL.val (R.ltT rfl rfl rfl (by omega)) rfl rfl rfl ?_
    refine LL.nilS ?_
    refine CC.yes rfl ?_
    refine CC.skip ?_
    refine EE.thenN ?_
    refine CC.seq ?_
    refine CC.block ?_
    refine CC.seq ?_
    refine CC.region ?_
    have lf1 := rk.lt
    have lf2 := rr.lt
    have lf3 := rw1.lt
    have lf4 := ra1.lt
    have lf5 := re11.lt
    refine LL.alloc ([Value.int IntKind.i64 0]) rfl rfl rfl rfl rfl ?_
    intro Wf7 gf8 egf8 rf9 zf10 bf6
    replace rk := rk.up bf6
    replace rr := rr.up bf6
    replace rw1 := rw1.up bf6
    replace ra1 := ra1.up bf6
    replace q1 := q1.trans (bf6.mono q1.size)
    replace q2 := q2.trans (bf6.mono q2.size)
    replace q3 := q3.trans (bf6.mono q3.size)
    replace bel := bel.trans (bf6.mono bel.size)
    replace re11 := re11.up bf6
    replace qA := qA.trans (bf6.mono qA.size)
    replace qB := qB.trans (bf6.mono qB.size)
    refine LL.store rfl rfl rfl rfl rf9 (by exact Nat.le_of_ble_eq_true rfl) rfl rfl rfl rfl ?_
    intro Wf12 rf13 bf11 zf14
    have hlbf11 := rf9.lt
    replace rf13 : RowL Wf12 _ 3 [Value.int IntKind.i64 0] := rf13
    clear rf9
    replace bf6 := bf6.grown bf11 bf6.size (by rintro k ⟨⟩; omega)
    replace rk := rk.gr bf11 (by have := rk.lt; omega)
    replace rr := rr.gr bf11 (by have := rr.lt; omega)
    replace rw1 := rw1.gr bf11 (by have := rw1.lt; omega)
    replace ra1 := ra1.gr bf11 (by have := ra1.lt; omega)
    replace q1 := q1.grown bf11 q1.size (by rintro k ⟨⟩; omega)
    replace q2 := q2.grown bf11 q2.size (by rintro k ⟨⟩; omega)
    replace q3 := q3.grown bf11 q3.size (by rintro k ⟨⟩; omega)
    replace bel := bel.grown bf11 bel.size (by rintro k ⟨⟩; omega)
    replace re11 := re11.gr bf11 (by have := re11.lt; omega)
    replace qA := qA.grown bf11 qA.size (by rintro k ⟨⟩; omega)
    replace qB := qB.grown bf11 qB.size (by rintro k ⟨⟩; omega)
    have rf9 := rf13
    clear rf13
    refine LL.nilS ?_
    refine CC.seq ?_
    refine CC.seq ?_
    refine CC.region ?_
    refine LL.val (R.move rfl rfl) rfl rfl rfl ?_
    refine LL.nilS ?_
    refine CC.block ?_
    have yB := qB.size
    have kn := rf9.lt
    clear rk rr rw1 ra1 re11 bel q1 q2 q3
    refine CC.rangeZ (γ := Nat) (gf := 62) (lb := [Value.pointer (some ⟨bk, 0, none⟩)]) (encs := spE) rfl rfl hG qA (fun k hk => by (try simp only at hk); omega) (fun _ => rfl) rfl
      (fun m (pre : List (Nat × Pr)) W' => Below We18.heap.size We18 W' ∧ Wf12.heap.size ≤ W'.heap.size ∧ RowL W' gf8 3 [.int .i64 (pre.length : Int)] ∧ True)
      (fun m (pre : List (Nat × Pr)) W' => Below We18.heap.size We18 W' ∧ RowL W' gf8 3 [.int .i64 (pre.length : Int)] ∧ False)
      (fun W' => Below We18.heap.size We18 W' ∧ ∃ p : Nat, RowL W' gf8 3 [.int .i64 (p : Int)] ∧ ((p : Int) = (K : Int)))
      (fun m m' s X Y hs ht hg => ⟨hs.1.trans (ht.below yB hs.1.size), by have := ht.size; omega, ht.row hs.2.2.1 (.inl kn), hs.2.2.2⟩)
      (fun m m' s X Y hs ht hg => ⟨hs.1.trans (ht.below yB hs.1.size), ht.row hs.2.1 (.inl kn), hs.2.2⟩)
      ⟨qB, Nat.le_refl _, rf9, trivial⟩ ?hIA ?hIxA
      (fun x g => sl [(1, .slice a n c), (5, .pointer (some ⟨gk, 0, none⟩)), (6, .pointer (some ⟨gr, 0, none⟩)), (7, .pointer (some ⟨gw, 0, none⟩)), (8, .pointer (some ⟨ga, 0, none⟩)), (9, .slice (some ⟨gL, 0, none⟩) n cL), (10, .func (.func 62) #[] [Value.pointer (some ⟨bk, 0, none⟩)].toArray), (11, .pointer (some ⟨ge10, 0, none⟩)), (12, .pointer (some ⟨gf8, 0, none⟩)), (13, .int .i64 (x.1 : Int)), (14, .pointer (some ⟨g, 0, none⟩))]) (fun x g W' => RowL W' g 41 (prE x.2) ∧ Wf12.heap.size ≤ g) (fun x g => fun _ W W' row h hg hr => ⟨RowL.own () W W' row h.1 hg hr, h.2⟩) ?assign ?body ?after
    case hIA =>
      rintro m xs W' rfl ⟨h1, hz, h2, h3⟩
      exact ⟨h1, _, h2, by rw [hK]⟩
    case hIxA =>
      rintro m pre W' hp ⟨h1, h2, h3⟩
      exact h3.elim
    case assign =>
      rintro l' m pre x W Kc hm ⟨h1, hz, h2, h3⟩ hKc
      have qa := Below.refl W.heap.size W
      have hup : ∀ X, Below W.heap.size W X → Below We18.heap.size We18 X ∧ Wf12.heap.size ≤ X.heap.size ∧ RowL X gf8 3 [.int .i64 (pre.length : Int)] ∧ (True) := fun X b => ⟨h1.trans (b.mono h1.size), by have := b.size; omega, h2.up b, h3⟩
      clear h1 h2 h3
      refine CC.seq ?_
      refine CC.region ?_
      refine LL.val (R.assign rfl rfl) rfl rfl rfl ?_
      refine LL.nilS ?_
      refine CC.region ?_
      refine LL.alloc ([Value.int IntKind.u64 0, Value.int IntKind.u64 0]) rfl rfl rfl rfl rfl ?_
      intro Wg2 gg3 egg3 rg4 zg5 bg1
      replace qa := qa.trans (bg1.mono qa.size)
      refine LL.storeN (vs := [Value.int IntKind.u64 ↑x.2.1, Value.int IntKind.u64 ↑x.2.2]) rfl rfl rfl rfl rg4 (by exact Nat.le_of_ble_eq_true rfl) (ones_of rfl) rfl rfl ?_
      intro Wg7 rg8 bg6 zg9
      have hlbg6 := rg4.lt
      replace rg8 : RowL Wg7 _ 41 [Value.int IntKind.u64 ↑x.2.1, Value.int IntKind.u64 ↑x.2.2] := rg8
      clear rg4
      replace bg1 := bg1.grown bg6 bg1.size (by rintro k ⟨⟩; omega)
      replace qa := qa.grown bg6 qa.size (by rintro k ⟨⟩; omega)
      have rg4 := rg8
      clear rg8
      refine LL.nil ?_
      exact EE.thenK fun a' F => hKc a' _ _ (StaysZ.of_below qa) (Keeps.of_below (fun k hk => by (try simp only at hk); omega) qa) (hup _ qa) (F.keep _ ⟨rfl, rfl, rfl, rfl, rfl, rfl, rfl, rfl, rfl, rfl, rfl, trivial⟩) ⟨by assumption, by omega⟩
    case body =>
      rintro l' m pre ⟨jx, kx, px⟩ g W hm hl' hrl ⟨h1, hz, hn', h3⟩ ⟨hx, hgB⟩ ⟨xs, hxs, tt, hp⟩
      rw [hxs] at hp
      have hget : L[pre.length]? = some (jx, kx, px) := by rw [← hp]; simp
      have hpk : pre.length < K := by rw [← hK]; exact (List.getElem?_eq_some_iff.1 hget).1
      have hxd : (pre ++ [(jx, kx, px)]).length = pre.length + 1 := by simp
      have ySz := h1.size
      obtain ⟨rk, rr, rw1, ra1, rt, q1, q2, q3, bel⟩ := hV1.lift h1
      have hg1 : (L.map (·.2))[pre.length]? = some (kx, px) := by rw [List.getElem?_map, hget]; rfl
      have hg2 : (L.map (·.1))[pre.length]? = some jx := by rw [List.getElem?_map, hget]; rfl
      obtain ⟨b1, o1, rfl, _, _⟩ := (h1F _ q1).get prEnc hg1
      obtain ⟨b2, o2, rfl, _, hc2⟩ := (h2F _ q2).one iEnc hg2
      have c2 := hc2 _ rfl
      have m1 : CellsN W ⟨b1, o1 + pre.length * 2, none⟩ 2 [.int .u64 (kx : Int), .int .u64 (px : Int)] := (h1F W q1).elemN prEnc hg1
      have hx : RowL W g 41 [.int .u64 (kx : Int), .int .u64 (px : Int)] := hx
      have lx := hx.lt
      have st := StaysZ.refl Wf12.heap.size m W
      have kp := Keeps.refl (fun k => k = bk ∨ k = bkl) W
      have hbW : bk < W.heap.size ∧ bkl < W.heap.size := by omega
      have hbn : bk ≠ gf8 ∧ bkl ≠ gf8 := by omega
      clear hc2 bel hl' hrl hp hm hget hxs q1 q2 q3 rr
      refine CC.block ?_
      refine CC.seq ?_
      refine CC.seq ?_
      refine CC.quietB (by kernel_rfl) (by kernel_rfl) (fun Wh2 bh1 zh3 => ?_)
      replace h1 := h1.trans (bh1.mono h1.size)
      replace hn' := hn'.up bh1
      replace hx := hx.up bh1
      replace rk := rk.up bh1
      replace rt := rt.up bh1
      replace rw1 := rw1.up bh1
      replace ra1 := ra1.up bh1
      replace c2 := cell_up c2 bh1
      replace m1 := m1.up bh1
      replace st := st.trans (StaysZ.of_below bh1)
      replace kp := kp.trans (Keeps.of_below (fun k hk => by (try simp only at hk); omega) bh1)
      refine SS.val (R.load rfl rfl (I.ld1 rfl (RowL.cell hn' rfl))) rfl rfl ?_
      refine SS.val (R.load rfl rfl (I.ld1 rfl (RowL.cell rw1 rfl))) rfl rfl ?_
      refine SS.val (R.len rfl rfl rfl rfl) rfl rfl ?_
      refine SS.val (R.geF rfl rfl rfl (by omega)) rfl rfl ?_
      refine SS.val (R.move rfl rfl) rfl rfl ?_
      refine SS.val (R.move rfl rfl) rfl rfl ?_
      refine SS.val (R.load rfl rfl (I.ld1 rfl (RowL.cell ra1 rfl))) rfl rfl ?_
      refine SS.val (R.load rfl rfl (I.ld1 rfl (RowL.cell hn' rfl))) rfl rfl ?_
      refine SS.val (R.index rfl rfl rfl (I.ixS1 rfl (by omega))) rfl rfl ?_
      refine SS.val (R.load rfl rfl (I.ld1 rfl (by assumption))) rfl rfl ?_
      refine SS.val (R.neF rfl rfl rfl (by omega)) rfl rfl ?_
      refine SS.val (R.pick rfl rfl rfl) rfl rfl ?_
      refine SS.val (R.move rfl rfl) rfl rfl ?_
      refine SS.val (R.load rfl rfl (I.ldNc (vs := [Value.int IntKind.u64 ↑kx, Value.int IntKind.u64 ↑px]) (RowL.cells hx rfl) (by rfl) (by rfl))) rfl rfl ?_
      refine SS.val (R.load rfl rfl (I.ld1 rfl (RowL.cell rw1 rfl))) rfl rfl ?_
      refine SS.val (R.load rfl rfl (I.ld1 rfl (RowL.cell hn' rfl))) rfl rfl ?_
      refine SS.val (R.index rfl rfl rfl (I.ixS rfl (by omega))) rfl rfl ?_
      refine SS.val (R.load rfl rfl (I.ldM (by assumption) rfl rfl)) rfl rfl ?_
      refine SS.val (R.neST (p := (↑kx : Int) = ↑kx ∧ (↑px : Int) = ↑px) (bs := [decide ((↑kx : Int) = ↑kx), decide ((↑px : Int) = ↑px)]) rfl rfl rfl rfl (by kernel_rfl) (by kernel_rfl) (by simp) (by first | assumption | omega | exact ⟨rfl, rfl⟩ | exact fun h => h ⟨rfl, rfl⟩)) rfl rfl ?_
      refine SS.val (R.pick rfl rfl rfl) rfl rfl ?_
      refine SS.nilQ ?_
      refine EE.thenN ?_
      refine CC.no rfl ?_
      refine CC.skip ?_
      refine EE.thenN ?_
      refine CC.seq ?_
      refine CC.region ?_
      refine LL.val (R.load rfl rfl (I.ld1 rfl (RowL.cell hn' rfl))) rfl rfl rfl ?_
      refine LL.val (R.addNc rfl rfl rfl rfl (by omega)) rfl rfl rfl ?_
      refine LL.store rfl rfl rfl rfl hn' (by exact Nat.le_of_ble_eq_true rfl) rfl rfl rfl rfl ?_
      intro Wh5 rh6 bh4 zh7
      have hlbh4 := hn'.lt
      replace rh6 : RowL Wh5 _ 3 [Value.int IntKind.i64 ↑(pre.length + 1)] := rh6
      clear hn'
      replace h1 := h1.grown bh4 h1.size (by rintro k ⟨⟩; omega)
      replace hx := hx.gr bh4 (by have := hx.lt; omega)
      replace rk := rk.gr bh4 (by have := rk.lt; omega)
      replace rt := rt.gr bh4 (by have := rt.lt; omega)
      replace rw1 := rw1.gr bh4 (by have := rw1.lt; omega)
      replace ra1 := ra1.gr bh4 (by have := ra1.lt; omega)
      replace st := st.trans (StaysZ.of_grown bh4 (by omega))
      replace kp := kp.trans (Keeps.of_grown bh4 fun k hk => by (try simp only at hk); omega)
      have hn' := rh6
      clear rh6
      refine LL.nilS ?_
      refine CC.seq ?_
      refine CC.region ?_
      refine LL.val (R.load rfl rfl (I.ld1 rfl (RowL.cell rt rfl))) rfl rfl rfl ?_
      refine LL.val (R.eqF rfl rfl rfl (by omega)) rfl rfl rfl ?_
      refine LL.val (R.move rfl rfl) rfl rfl rfl ?_
      refine LL.skip rfl rfl ?_
      refine LL.skip rfl rfl ?_
      refine LL.skip rfl rfl ?_
      refine LL.val (R.pick rfl rfl rfl) rfl rfl rfl ?_
      refine LL.nilS ?_
      refine CC.no rfl ?_
      refine CC.skip ?_
      refine EE.inN ?_
      exact EE.roundNZ ⟨st, kp, h1, by omega, by rw [hxd]; exact hn', trivial⟩
    case after =>
      rintro E1 W hE1 ⟨h1, p, hn', hcp⟩ hE11
      obtain ⟨rk, rr, rw1, ra1, rt, q1, q2, q3, q⟩ := hV1.lift h1
      have yz := h1.size
      have hE01 := hE0k _ h1
      have eE01 := (Array.getElem?_eq_some_iff.1 hE01).1
      have eE1 := (Array.getElem?_eq_some_iff.1 hE11).1
      have c77F : ∀ X, Below X3.heap.size X3 X → X.cell? ⟨gL, 0 + n, none⟩ = some (.int .u64 ((77 : Nat) : Int)) := fun X hX => by
        obtain ⟨b, o, e, _, hc⟩ := (h3F X hX).one uEnc (i := n) (t := 77) (by rw [List.getElem?_append_right (by omega), hn, Nat.sub_self]; rfl)
        cases e
        exact hc _ rfl
      refine EE.thenN ?_
      refine CC.seq ?_
      refine CC.region ?_
      refine LL.val (R.load rfl rfl (I.ld1 rfl (RowL.cell rt rfl))) rfl rfl rfl ?_
      refine LL.val (R.eqF rfl rfl rfl (by omega)) rfl rfl rfl ?_
      refine LL.val (R.move rfl rfl) rfl rfl rfl ?_
      refine LL.skip rfl rfl ?_
      refine LL.skip rfl rfl ?_
      refine LL.skip rfl rfl ?_
      refine LL.skip rfl rfl ?_
      refine LL.skip rfl rfl ?_
      refine LL.skip rfl rfl ?_
      refine LL.skip rfl rfl ?_
      refine LL.val (R.pick rfl rfl rfl) rfl rfl rfl ?_
      refine LL.val (R.move rfl rfl) rfl rfl rfl ?_
      refine LL.val (R.load rfl rfl (I.ld1 rfl (RowL.cell rt rfl))) rfl rfl rfl ?_
      refine LL.val (R.eqT rfl rfl rfl (by omega)) rfl rfl rfl ?_
      refine LL.val (R.move rfl rfl) rfl rfl rfl ?_
      refine LL.val (R.load rfl rfl (I.ld1 rfl (RowL.cell hn' rfl))) rfl rfl rfl ?_
      refine LL.val (R.load rfl rfl (I.ld1 rfl (RowL.cell rw1 rfl))) rfl rfl rfl ?_
      refine LL.val (R.len rfl rfl rfl rfl) rfl rfl rfl ?_
      refine LL.val (R.neF rfl rfl rfl (by omega)) rfl rfl rfl ?_
      refine LL.val (R.pick rfl rfl rfl) rfl rfl rfl ?_
      refine LL.val (R.pick rfl rfl rfl) rfl rfl rfl ?_
      refine LL.nilS ?_
      refine CC.no rfl ?_
      refine CC.skip ?_
      refine EE.inN ?_
      refine EE.thenN ?_
      refine CC.seq ?_
      refine CC.seq ?_
      refine CC.region ?_
      refine LL.val (R.load rfl rfl (I.ld1 rfl (RowL.cell rt rfl))) rfl rfl rfl ?_
      refine LL.nilS ?_
      refine CC.region ?_
      have li241 := hn'.lt
      have li242 := (Array.getElem?_eq_some_iff.1 hE11).1
      have li243 := rk.lt
      have li244 := rr.lt
      have li245 := rw1.lt
      have li246 := ra1.lt
      have li247 := rt.lt
      have li248 := (Array.getElem?_eq_some_iff.1 hE01).1
      refine LL.alloc ([Value.int IntKind.i64 0]) rfl rfl rfl rfl rfl ?_
      intro Wi250 gi251 egi251 ri252 zi253 bi249
      replace h1 := h1.trans (bi249.mono h1.size)
      replace hn' := hn'.up bi249
      replace hE11 := defer_up hE11 bi249
      replace rk := rk.up bi249
      replace rr := rr.up bi249
      replace rw1 := rw1.up bi249
      replace ra1 := ra1.up bi249
      replace rt := rt.up bi249
      replace q1 := q1.trans (bi249.mono q1.size)
      replace q2 := q2.trans (bi249.mono q2.size)
      replace q3 := q3.trans (bi249.mono q3.size)
      replace q := q.trans (bi249.mono q.size)
      replace hE01 := defer_up hE01 bi249
      refine LL.store rfl rfl rfl rfl ri252 (by exact Nat.le_of_ble_eq_true rfl) rfl rfl rfl rfl ?_
      intro Wi271 ri272 bi270 zi273
      have hlbi270 := ri252.lt
      replace ri272 : RowL Wi271 _ 3 [Value.int IntKind.i64 1] := ri272
      clear ri252
      replace bi249 := bi249.grown bi270 bi249.size (by rintro k ⟨⟩; omega)
      replace h1 := h1.grown bi270 h1.size (by rintro k ⟨⟩; omega)
      replace hn' := hn'.gr bi270 (by have := hn'.lt; omega)
      replace hE11 := (bi270.block _ (Array.getElem?_eq_some_iff.1 hE11).1 (by simp; omega)).trans hE11
      replace rk := rk.gr bi270 (by have := rk.lt; omega)
      replace rr := rr.gr bi270 (by have := rr.lt; omega)
      replace rw1 := rw1.gr bi270 (by have := rw1.lt; omega)
      replace ra1 := ra1.gr bi270 (by have := ra1.lt; omega)
      replace rt := rt.gr bi270 (by have := rt.lt; omega)
      replace q1 := q1.grown bi270 q1.size (by rintro k ⟨⟩; omega)
      replace q2 := q2.grown bi270 q2.size (by rintro k ⟨⟩; omega)
      replace q3 := q3.grown bi270 q3.size (by rintro k ⟨⟩; omega)
      replace q := q.grown bi270 q.size (by rintro k ⟨⟩; omega)
      replace hE01 := (bi270.block _ (Array.getElem?_eq_some_iff.1 hE01).1 (by simp; omega)).trans hE01
      have ri252 := ri272
      clear ri272
      refine LL.nilS ?_
      refine CC.region ?_
      refine LL.val (R.load rfl rfl (I.ld1 rfl (RowL.cell ri252 rfl))) rfl rfl rfl ?_
      refine LL.val (R.addIz (z := 2) rfl rfl rfl (by decide) (by decide)) rfl rfl rfl ?_
      refine LL.store rfl rfl rfl rfl ri252 (by exact Nat.le_of_ble_eq_true rfl) rfl rfl rfl rfl ?_
      intro Wi323 ri324 bi322 zi325
      have hlbi322 := ri252.lt
      replace ri324 : RowL Wi323 _ 3 [Value.int IntKind.i64 2] := ri324
      clear ri252
      replace bi249 := bi249.grown bi322 bi249.size (by rintro k ⟨⟩; omega)
      replace h1 := h1.grown bi322 h1.size (by rintro k ⟨⟩; omega)
      replace hn' := hn'.gr bi322 (by have := hn'.lt; omega)
      replace hE11 := (bi322.block _ (Array.getElem?_eq_some_iff.1 hE11).1 (by simp; omega)).trans hE11
      replace rk := rk.gr bi322 (by have := rk.lt; omega)
      replace rr := rr.gr bi322 (by have := rr.lt; omega)
      replace rw1 := rw1.gr bi322 (by have := rw1.lt; omega)
      replace ra1 := ra1.gr bi322 (by have := ra1.lt; omega)
      replace rt := rt.gr bi322 (by have := rt.lt; omega)
      replace q1 := q1.grown bi322 q1.size (by rintro k ⟨⟩; omega)
      replace q2 := q2.grown bi322 q2.size (by rintro k ⟨⟩; omega)
      replace q3 := q3.grown bi322 q3.size (by rintro k ⟨⟩; omega)
      replace q := q.grown bi322 q.size (by rintro k ⟨⟩; omega)
      replace hE01 := (bi322.block _ (Array.getElem?_eq_some_iff.1 hE01).1 (by simp; omega)).trans hE01
      have ri252 := ri324
      clear ri324
      refine LL.nil ?_
      refine EE.again ?_
      refine RN.step ?_
      refine CC.seq ?_
      refine CC.seq ?_
      refine CC.region ?_
      refine LL.val (R.load rfl rfl (I.ld1 rfl (RowL.cell ri252 rfl))) rfl rfl rfl ?_
      refine LL.val (R.ltF rfl rfl rfl (by omega)) rfl rfl rfl ?_
      refine LL.nilS ?_
      refine CC.no rfl ?_
      refine CC.exit ?_
      refine EE.thenX ?_
      refine EE.thenX ?_
      refine EE.inX ?_
      refine EE.thenN ?_
      refine CC.seq ?_
      refine CC.region ?_
      refine LL.val (R.move rfl rfl) rfl rfl rfl ?_
      refine LL.val (R.move rfl rfl) rfl rfl rfl ?_
      refine LL.val (R.len rfl rfl rfl rfl) rfl rfl rfl ?_
      refine LL.val (R.addNc rfl rfl rfl rfl (by omega)) rfl rfl rfl ?_
      refine LL.val (R.slice rfl rfl rfl rfl rfl (I.slTo rfl (by omega))) rfl rfl rfl ?_
      refine LL.val (R.move rfl rfl) rfl rfl rfl ?_
      refine LL.val (R.len rfl rfl rfl rfl) rfl rfl rfl ?_
      refine LL.val (R.index rfl rfl rfl (I.ixS1 rfl (by omega))) rfl rfl rfl ?_
      (refine LL.val (R.load rfl rfl (I.ld1 rfl (c77F _ q3))) rfl rfl rfl ?_)
      refine LL.val (R.eqT rfl rfl rfl (by omega)) rfl rfl rfl ?_
      refine LL.val (R.move rfl rfl) rfl rfl rfl ?_
      have li538 := hn'.lt
      have li539 := (Array.getElem?_eq_some_iff.1 hE11).1
      have li540 := rk.lt
      have li541 := rr.lt
      have li542 := rw1.lt
      have li543 := ra1.lt
      have li544 := rt.lt
      have li545 := (Array.getElem?_eq_some_iff.1 hE01).1
      have li546 := ri252.lt
      (refine LL.call (R.call rfl rfl rfl) rfl rfl rfl (works_any _) ?_; rintro e Wi537 ⟨rfl, bi534⟩; refine ⟨_, rfl, ?_⟩)
      have zbi534 := bi534.size
      replace bi249 := bi249.trans (bi534.mono bi249.size)
      replace h1 := h1.trans (bi534.mono h1.size)
      replace hn' := hn'.up bi534
      replace hE11 := defer_up hE11 bi534
      replace rk := rk.up bi534
      replace rr := rr.up bi534
      replace rw1 := rw1.up bi534
      replace ra1 := ra1.up bi534
      replace rt := rt.up bi534
      replace q1 := q1.trans (bi534.mono q1.size)
      replace q2 := q2.trans (bi534.mono q2.size)
      replace q3 := q3.trans (bi534.mono q3.size)
      replace q := q.trans (bi534.mono q.size)
      replace hE01 := defer_up hE01 bi534
      replace ri252 := ri252.up bi534
      refine LL.val (R.pick rfl rfl rfl) rfl rfl rfl ?_
      refine LL.store rfl rfl rfl rfl rr (by exact Nat.le_of_ble_eq_true rfl) rfl rfl rfl rfl ?_
      intro Wi583 ri584 bi582 zi585
      have hlbi582 := rr.lt
      replace ri584 : RowL Wi583 _ 4 [Value.bool true] := ri584
      clear rr
      replace hn' := hn'.gr bi582 (by have := hn'.lt; omega)
      replace hE11 := (bi582.block _ (Array.getElem?_eq_some_iff.1 hE11).1 (by simp; omega)).trans hE11
      replace rk := rk.gr bi582 (by have := rk.lt; omega)
      replace rw1 := rw1.gr bi582 (by have := rw1.lt; omega)
      replace ra1 := ra1.gr bi582 (by have := ra1.lt; omega)
      replace rt := rt.gr bi582 (by have := rt.lt; omega)
      replace q := q.grown bi582 q.size (by rintro k ⟨⟩; omega)
      replace hE01 := (bi582.block _ (Array.getElem?_eq_some_iff.1 hE01).1 (by simp; omega)).trans hE01
      replace ri252 := ri252.gr bi582 (by have := ri252.lt; omega)
      have rr := ri584
      clear ri584
      refine LL.nilS ?_
      refine CC.ret ?_
      have hE9 : gr ≠ E1 := by omega
      refine EE.retNN hE01 hE11 (by omega) rfl ⟨_, rfl, lv1 rfl ((taken_up (taken_up rr hE9) (by omega)).cell rfl)⟩ ?_
      exact ⟨rfl, taken_bel (taken_bel q (by omega) (Nat.le_refl _)) (by omega) (Nat.le_refl _)⟩
end Go.Proofs.Ytfpcpnodcdgbdaa
