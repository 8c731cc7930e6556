/- What the statements' walks use: Sc29, Sc30, Open, OpenI, ScR, ScV. -/
import Derived.Test.YtloflmkolnediaaRows
import Derived.ProofKit
import Derived.OpenShut
import Derived.ShutString
import Derived.ChangeOld
import Derived.ChangeSame
import Derived.Test.YtloflmkolnediaaMha
import Derived.Test.YtloflmkolnediaaMhd
import Derived.Test.YtloflmkolnediaaMhe
/- scan: ScanHolds: the walk (gen29.py writes this). -/
namespace Go.Proofs.Ytloflmkolnediaa
set_option linter.unusedVariables false
set_option linter.unusedSimpArgs false
open Go.RowKit Go.Shelf
set_option maxRecDepth 100000
set_option maxHeartbeats 16000000
theorem putF_0 {left k p : Nat} {s : List Nat} (hr : ¬ noRow left s.length) (hset : setP left s) (h : (putF left s k p).1 = 0) : ∃ m i, Stl left s m ∧ i ≤ m ∧ p ≠ 0 ∧ p ≠ left ∧ (∀ j, j < m → ptrN s j ≠ p) ∧ m + 1 < s.length / 2 ∧ (∀ j, j < i → keyN s j < k) ∧ (∀ j, i ≤ j → j < m → k < keyN s j) ∧ (putF left s k p).2 = putL left s m i k p := by
  obtain ⟨m, hs⟩ := setP_iff.1 hset
  have hov := hs.over
  have hlt := hs.lt
  obtain ⟨y1, y2, y3⟩ := posN_spec s k
  unfold putF at h ⊢
  rw [if_neg hr] at h ⊢
  by_cases c1 : p = 0 ∨ p = left
  · rw [if_pos c1] at h; cases h
  rw [if_neg c1, if_neg (not_not_intro hset)] at h ⊢
  by_cases c2 : ∃ j, j < overN s ∧ ptrN s j = p
  · rw [if_pos c2] at h; cases h
  rw [if_neg c2] at h ⊢
  by_cases c3 : ∃ j, j < overN s ∧ keyN s j = k
  · rw [if_pos c3] at h; cases h
  rw [if_neg c3] at h ⊢
  by_cases c4 : overN s + 1 = s.length / 2
  · rw [if_pos c4] at h; cases h
  rw [if_neg c4] at h ⊢
  rw [hov] at c2 c3 c4 y1 y3 ⊢
  refine ⟨m, posN s k, hs, y1, fun e => c1 (.inl e), fun e => c1 (.inr e), fun j hj e => c2 ⟨j, hj, e⟩, by omega, y2, fun j h1 h3 => ?_, rfl⟩
  have hne : keyN s j ≠ k := fun e => c3 ⟨j, h3, e⟩
  rcases y3 with y3 | y3
  · omega
  · by_cases e : posN s k = j
    · rw [e] at y3; omega
    · have := hs.rise _ _ (show posN s k < j by omega) h3
      omega
theorem takeF_0 {left k : Nat} {s : List Nat} (hr : ¬ noRow left s.length) (hset : setP left s) (h : (takeF left s k).1 = 0) : ∃ m i, Stl left s m ∧ i < m ∧ (takeF left s k).2 = takeL left s i m := by
  obtain ⟨m, hs⟩ := setP_iff.1 hset
  have hov := hs.over
  unfold takeF at h ⊢
  rw [if_neg hr, if_neg (not_not_intro hset)] at h ⊢
  by_cases c3 : ∃ j, j < overN s ∧ keyN s j = k
  · rw [if_pos c3, hov]
    obtain ⟨j, hj, e⟩ := c3
    rw [hov] at hj
    exact ⟨m, posN s k, hs, by rw [posN_key hs hj e]; exact hj, rfl⟩
  · rw [if_neg c3] at h; cases h
theorem swapF_0 {left k p : Nat} {s : List Nat} (hr : ¬ noRow left s.length) (hset : setP left s) (h : (swapF left s k p).1 = 0) : ∃ m i, Stl left s m ∧ i < m ∧ p ≠ 0 ∧ p ≠ left ∧ (∀ j, j < m → ptrN s j ≠ p) ∧ (swapF left s k p).2 = swapL i p := by
  obtain ⟨m, hs⟩ := setP_iff.1 hset
  have hov := hs.over
  unfold swapF at h ⊢
  rw [if_neg hr] at h ⊢
  by_cases c1 : p = 0 ∨ p = left
  · rw [if_pos c1] at h; cases h
  rw [if_neg c1, if_neg (not_not_intro hset)] at h ⊢
  by_cases c2 : ∃ j, j < overN s ∧ ptrN s j = p
  · rw [if_pos c2] at h; cases h
  rw [if_neg c2] at h ⊢
  by_cases c3 : ∃ j, j < overN s ∧ keyN s j = k
  · rw [if_pos c3]
    obtain ⟨j, hj, e⟩ := c3
    rw [hov] at hj c2
    exact ⟨m, posN s k, hs, by rw [posN_key hs hj e]; exact hj, fun e => c1 (.inl e), fun e => c1 (.inr e), fun j hj e => c2 ⟨j, hj, e⟩, rfl⟩
  · rw [if_neg c3] at h; cases h
theorem len_pairs {left n : Nat} {s : List Nat} (hn : s.length = n) (h : n ≤ 1048576) : (pairP left s).length ≤ 1048576 := by
  have := pairS_len left s
  unfold pairP
  rw [List.length_map]
  omega
theorem holds_putU (left n k p key M ct c : Nat) (z : Int) (a at' : Option Addr) (s ts : List Nat) (w : World) (hv : ReadsT uE 1 w (.slice a n c) s) (hn : s.length = n) (hl : n ≤ 56) (ht : ReadsT yE 1 w (.slice at' M ct) ts) (hM : ts.length = M) (hM3 : M ≤ 300) (hrow : ¬ noRow left s.length) (hset : setP left s) (hz : z = 0) : Calls Try.prog 7 #[.int .u64 (left : Int), .slice a n c, .int .i64 z, .agg #[.int .u64 (k : Int), .int .u64 (p : Int)], .int .u64 (key : Int), .slice at' M ct] w fun e w' => e = .returned (.bool true) ∧ Below w.heap.size w w' := by
  have q := Below.refl w.heap.size w
  have hvF : ∀ X, Below w.heap.size w X → ReadsT uE 1 X (.slice a n c) s := fun X b => hv.up b
  have htF : ∀ X, Below w.heap.size w X → ReadsT yE 1 X (.slice at' M ct) ts := fun X b => ht.up b
  have h : n ≤ 1048576 := by omega
  have hck : checkF left s = 0 := by unfold checkF; rw [if_neg hrow, if_pos hset]
  have hr : rowOk left n := by rw [← hn]; exact noRow_not hrow
  clear hv ht
  subst hz
  obtain ⟨⟨cd, os⟩, eT⟩ : ∃ r, putF left s k p = r := ⟨_, rfl⟩
  by_cases hcd : cd = 0
  case neg =>
    clear hrow hset hr
    refine X.fn Try.func7 rfl (n := 107) rfl rfl ?_
    refine CC.seq ?_
    refine CC.region ?_
    refine LL.box [Value.int IntKind.u64 ↑k, Value.int IntKind.u64 ↑p] rfl rfl rfl rfl rfl ?_
    intro W23 g24 eg24 r25 z26 b22
    replace q := q.trans (b22.mono q.size)
    refine LL.val (R.assign rfl rfl) rfl rfl rfl ?_
    refine LL.nilS ?_
    refine CC.seq ?_
    refine CC.seq ?_
    refine CC.region ?_
    refine LL.val (R.move rfl rfl) rfl rfl rfl ?_
    refine LL.val (R.len rfl rfl rfl rfl) rfl rfl rfl ?_
    refine LL.val (R.gtF rfl rfl rfl (by omega)) rfl rfl rfl ?_
    refine LL.val (R.move rfl rfl) rfl rfl rfl ?_
    refine LL.val (R.move rfl rfl) rfl rfl rfl ?_
    refine LL.val (R.len rfl rfl rfl rfl) rfl rfl rfl ?_
    refine LL.val (R.gtF rfl rfl rfl (by omega)) rfl rfl rfl ?_
    refine LL.val (R.pick rfl rfl rfl) rfl rfl rfl ?_
    refine LL.val (R.move rfl rfl) rfl rfl rfl ?_
    refine LL.val (R.move rfl rfl) rfl rfl rfl ?_
    refine LL.val (R.move rfl rfl) rfl rfl rfl ?_
    have l319 := r25.lt
    (refine LL.call (R.call rfl rfl rfl) rfl rfl rfl (dcheck_any left n _ s _ (hvF _ q) hn h) ?_; rw [hck]; rintro e W318 ⟨rfl, b315⟩; refine ⟨_, rfl, ?_⟩)
    have zb315 := b315.size
    replace r25 := r25.up b315
    replace b22 := b22.trans (b315.mono b22.size)
    replace q := q.trans (b315.mono q.size)
    refine LL.val (R.neF rfl rfl rfl (by omega)) rfl rfl rfl ?_
    refine LL.val (R.pick rfl rfl rfl) rfl rfl rfl ?_
    refine LL.nilS ?_
    refine CC.no rfl ?_
    refine CC.skip ?_
    refine EE.thenN ?_
    refine CC.seq ?_
    refine CC.region ?_
    refine LL.val (R.assign rfl rfl) rfl rfl rfl ?_
    refine LL.nilS ?_
    refine CC.seq ?_
    refine CC.region ?_
    refine LL.val (R.move rfl rfl) rfl rfl rfl ?_
    refine LL.val (R.move rfl rfl) rfl rfl rfl ?_
    refine LL.val (R.load rfl rfl (I.ldNc (vs := [Value.int IntKind.u64 ↑k, Value.int IntKind.u64 ↑p]) (RowL.cells r25 rfl) (by rfl) (by rfl))) rfl rfl rfl ?_
    have l479 := r25.lt
    (refine LL.call (R.call rfl rfl rfl) rfl rfl rfl (dput_any left n k p _ s _ (hvF _ q) hn h) ?_; rw [eT]; rintro e W478 ⟨vo, rfl, oo, b475⟩; clear oo; refine ⟨_, rfl, ?_⟩)
    have zb475 := b475.size
    replace b315 := b315.trans (b475.mono b315.size)
    replace r25 := r25.up b475
    replace b22 := b22.trans (b475.mono b22.size)
    replace q := q.trans (b475.mono q.size)
    refine LL.val (R.move rfl rfl) rfl rfl rfl ?_
    refine LL.val (R.extract rfl rfl rfl) rfl rfl rfl ?_
    refine LL.val (R.extract rfl rfl rfl) rfl rfl rfl ?_
    refine LL.val (R.assign rfl rfl) rfl rfl rfl ?_
    refine LL.val (R.assign rfl rfl) rfl rfl rfl ?_
    refine LL.nilS ?_
    refine CC.seq ?_
    refine CC.seq ?_
    refine CC.region ?_
    refine LL.val (R.move rfl rfl) rfl rfl rfl ?_
    refine LL.nilS ?_
    refine CC.block ?_
    refine CC.seq ?_
    refine CC.region ?_
    refine LL.val (R.eqT rfl rfl rfl (by omega)) rfl rfl rfl ?_
    refine LL.val (R.assign rfl rfl) rfl rfl rfl ?_
    refine LL.nilS ?_
    refine CC.yes rfl ?_
    refine CC.skip ?_
    refine EE.inN ?_
    refine EE.thenN ?_
    refine CC.seq ?_
    refine CC.seq ?_
    refine CC.region ?_
    refine LL.val (R.move rfl rfl) rfl rfl rfl ?_
    refine LL.val (R.neT rfl rfl rfl (by omega)) rfl rfl rfl ?_
    refine LL.nilS ?_
    refine CC.yes rfl ?_
    refine CC.seq ?_
    refine CC.region ?_
    have l743 := r25.lt
    (refine LL.call (R.call rfl rfl rfl) rfl rfl rfl (works_any _) ?_; rintro e W742 ⟨rfl, b739⟩; refine ⟨_, rfl, ?_⟩)
    have zb739 := b739.size
    replace b475 := b475.trans (b739.mono b475.size)
    replace b315 := b315.trans (b739.mono b315.size)
    replace r25 := r25.up b739
    replace b22 := b22.trans (b739.mono b22.size)
    replace q := q.trans (b739.mono q.size)
    refine LL.val (R.assign rfl rfl) rfl rfl rfl ?_
    refine LL.nilS ?_
    refine CC.ret ?_
    refine EE.thenR ?_
    refine EE.ret _ rfl rfl ?_
    exact ⟨rfl, q⟩
  subst hcd
  obtain ⟨m, i, hs, hi, hp0, hpl, hd, hm1, hk1, hk2, hos⟩ := putF_0 hrow hset (by rw [eT])
  rw [eT] at hos
  dsimp only at hos
  have hlen : os.length = 2 * (m - i) + 4 := by rw [hos, putL_map hi]; simp
  have h0 : ∀ p ∈ os, 0 ≤ p.1 := fun y hy => by
    rw [hos, putL_map hi] at hy
    obtain ⟨u, _, rfl⟩ := List.mem_map.1 hy
    exact Int.natCast_nonneg _
  have hT : ∀ c, c ≤ os.length → ∀ j, j < n / 2 → keyN (applyS s (os.take c)) j = puK s i m k j c ∧ ptrN (applyS s (os.take c)) j = puP left s i m p j c := fun c hc j hj => by
    rw [hos]
    exact pu_time hi hm1 (hs.z _ (by omega) hm1) (by have := hr.2.1; omega) c (by omega) j (by rw [hn]; exact hj)
  have hH := pu_hist (key := key) (k := k) hs hr.1 (show n / 2 = s.length / 2 by rw [hn]) (by omega) hi hp0 hd
  have hB := fun (W : World) (hv : ReadsT uE 1 W (.slice a n c) s) (al : Option Addr) (cl : Nat) (ho : ReadsT pE 2 W (.slice al os.length cl) os) (ht : ReadsT yE 1 W (.slice at' M ct) ts) => between_U (must := ∃ x, x < m ∧ keyN s x = key) hv hn hr ho rfl (by have := hs.lt; omega) h0 ht hM hM3 hH hT (fun ⟨x, h1, h2⟩ => ⟨x, h1, h2, .inl (Nat.zero_le _)⟩)
  have hA := fun {pf : Nat} {bf : Bool} hres => ans_pu (key := key) (v := pf) (b := bf) hs hm1 hi (by have := hr.2.1; omega) hp0 hpl hd hk1 hk2 hres
  rw [← hos] at hA
  have hln : (applyS s os).length = n := by rw [applyS_len]; exact hn
  have hp1 := len_pairs (left := left) hn h
  have hp2 := len_pairs (left := left) hln h
  obtain ⟨N, hN⟩ : ∃ N, os.length = N := ⟨_, rfl⟩
  have hN9 : N ≤ 1000 := by have := hs.lt; omega
  rw [hN] at hB
  clear hT hH hos hlen hset hrow hs
  refine X.fn Try.func7 rfl (n := 107) rfl rfl ?_
  refine CC.seq ?_
  refine CC.region ?_
  refine LL.box [Value.int IntKind.u64 ↑k, Value.int IntKind.u64 ↑p] rfl rfl rfl rfl rfl ?_
  intro Wa58 ga59 ega59 ra60 za61 ba57
  replace q := q.trans (ba57.mono q.size)
  refine LL.val (R.assign rfl rfl) rfl rfl rfl ?_
  refine LL.nilS ?_
  refine CC.seq ?_
  refine CC.seq ?_
  refine CC.region ?_
  refine LL.val (R.move rfl rfl) rfl rfl rfl ?_
  refine LL.val (R.len rfl rfl rfl rfl) rfl rfl rfl ?_
  refine LL.val (R.gtF rfl rfl rfl (by omega)) rfl rfl rfl ?_
  refine LL.val (R.move rfl rfl) rfl rfl rfl ?_
  refine LL.val (R.move rfl rfl) rfl rfl rfl ?_
  refine LL.val (R.len rfl rfl rfl rfl) rfl rfl rfl ?_
  refine LL.val (R.gtF rfl rfl rfl (by omega)) rfl rfl rfl ?_
  refine LL.val (R.pick rfl rfl rfl) rfl rfl rfl ?_
  refine LL.val (R.move rfl rfl) rfl rfl rfl ?_
  refine LL.val (R.move rfl rfl) rfl rfl rfl ?_
  refine LL.val (R.move rfl rfl) rfl rfl rfl ?_
  have la834 := ra60.lt
  (refine LL.call (R.call rfl rfl rfl) rfl rfl rfl (dcheck_any left n _ s _ (hvF _ q) hn h) ?_; rw [hck]; rintro e Wa833 ⟨rfl, ba830⟩; refine ⟨_, rfl, ?_⟩)
  have zba830 := ba830.size
  replace ra60 := ra60.up ba830
  replace ba57 := ba57.trans (ba830.mono ba57.size)
  replace q := q.trans (ba830.mono q.size)
  refine LL.val (R.neF rfl rfl rfl (by omega)) rfl rfl rfl ?_
  refine LL.val (R.pick rfl rfl rfl) rfl rfl rfl ?_
  refine LL.nilS ?_
  refine CC.no rfl ?_
  refine CC.skip ?_
  refine EE.thenN ?_
  refine CC.seq ?_
  refine CC.region ?_
  refine LL.val (R.assign rfl rfl) rfl rfl rfl ?_
  refine LL.nilS ?_
  refine CC.seq ?_
  refine CC.region ?_
  refine LL.val (R.move rfl rfl) rfl rfl rfl ?_
  refine LL.val (R.move rfl rfl) rfl rfl rfl ?_
  refine LL.val (R.load rfl rfl (I.ldNc (vs := [Value.int IntKind.u64 ↑k, Value.int IntKind.u64 ↑p]) (RowL.cells ra60 rfl) (by rfl) (by rfl))) rfl rfl rfl ?_
  have la1234 := ra60.lt
  (refine LL.call (R.call rfl rfl rfl) rfl rfl rfl (dput_any left n k p _ s _ (hvF _ q) hn h) ?_; rw [eT]; rintro e Wa1233 ⟨vo, rfl, oo, ba1230⟩; dsimp only at oo; obtain ⟨al, cl, rfl, hcl⟩ := (oo.reads pEnc).form hN; obtain ⟨X1, hzX1, h1F, q1⟩ := exposeT (oo.reads pEnc); have zq1 := q1.size; clear oo; refine ⟨_, rfl, ?_⟩)
  have zba1230 := ba1230.size
  replace ba830 := ba830.trans (ba1230.mono ba830.size)
  replace ra60 := ra60.up ba1230
  replace ba57 := ba57.trans (ba1230.mono ba57.size)
  replace q := q.trans (ba1230.mono q.size)
  refine LL.val (R.move rfl rfl) rfl rfl rfl ?_
  refine LL.val (R.extract rfl rfl rfl) rfl rfl rfl ?_
  refine LL.val (R.extract rfl rfl rfl) rfl rfl rfl ?_
  refine LL.val (R.assign rfl rfl) rfl rfl rfl ?_
  refine LL.val (R.assign rfl rfl) rfl rfl rfl ?_
  refine LL.nilS ?_
  refine CC.seq ?_
  refine CC.seq ?_
  refine CC.region ?_
  refine LL.val (R.move rfl rfl) rfl rfl rfl ?_
  refine LL.nilS ?_
  refine CC.block ?_
  refine CC.seq ?_
  refine CC.region ?_
  refine LL.val (R.eqT rfl rfl rfl (by omega)) rfl rfl rfl ?_
  refine LL.val (R.assign rfl rfl) rfl rfl rfl ?_
  refine LL.nilS ?_
  refine CC.yes rfl ?_
  refine CC.skip ?_
  refine EE.inN ?_
  refine EE.thenN ?_
  refine CC.seq ?_
  refine CC.seq ?_
  refine CC.region ?_
  refine LL.val (R.move rfl rfl) rfl rfl rfl ?_
  refine LL.val (R.neF rfl rfl rfl (by omega)) rfl rfl rfl ?_
  refine LL.nilS ?_
  refine CC.no rfl ?_
  refine CC.skip ?_
  refine EE.thenN ?_
  refine CC.seq ?_
  refine CC.region ?_
  refine LL.val (R.move rfl rfl) rfl rfl rfl ?_
  refine LL.val (R.move rfl rfl) rfl rfl rfl ?_
  have la2026 := ra60.lt
  (refine LL.call (R.call rfl rfl rfl) rfl rfl rfl (dread_any left a n c s _ (hvF _ q) hn h) ?_; rintro e Wa2025 ⟨v1, v1', rfl, o1, o1', hd1, ba2022⟩; clear o1' hd1; obtain ⟨X2, hzX2, h2F, q2⟩ := exposeT (o1.reads prEnc); have zq2 := q2.size; clear o1; refine ⟨_, rfl, ?_⟩)
  have zba2022 := ba2022.size
  replace ba1230 := ba1230.trans (ba2022.mono ba1230.size)
  replace q1 := q1.trans (ba2022.mono q1.size)
  replace ba830 := ba830.trans (ba2022.mono ba830.size)
  replace ra60 := ra60.up ba2022
  replace ba57 := ba57.trans (ba2022.mono ba57.size)
  replace q := q.trans (ba2022.mono q.size)
  refine LL.val (R.move rfl rfl) rfl rfl rfl ?_
  refine LL.val (R.extract rfl rfl rfl) rfl rfl rfl ?_
  refine LL.val (R.extract rfl rfl rfl) rfl rfl rfl ?_
  refine LL.val (R.assign rfl rfl) rfl rfl rfl ?_
  refine LL.val (R.assign rfl rfl) rfl rfl rfl ?_
  refine LL.nilS ?_
  refine CC.seq ?_
  refine CC.region ?_
  refine LL.val (R.move rfl rfl) rfl rfl rfl ?_
  refine LL.val (R.move rfl rfl) rfl rfl rfl ?_
  refine LL.val (R.move rfl rfl) rfl rfl rfl ?_
  have la2570 := ra60.lt
  (refine LL.call (R.call rfl rfl rfl) rfl rfl rfl (dapply_any n _ _ s os _ (hvF _ q) hn h (h1F _ q1) (by omega) h0) ?_; rintro e Wa2569 ⟨va, rfl, o3, ba2566⟩; obtain ⟨a3, c3, rfl, hc3⟩ := (o3.reads uEnc).form hln; obtain ⟨X3, hzX3, h3F, q3⟩ := exposeT (o3.reads uEnc); have zq3 := q3.size; clear o3; refine ⟨_, rfl, ?_⟩)
  have zba2566 := ba2566.size
  replace ba2022 := ba2022.trans (ba2566.mono ba2022.size)
  replace q2 := q2.trans (ba2566.mono q2.size)
  replace ba1230 := ba1230.trans (ba2566.mono ba1230.size)
  replace q1 := q1.trans (ba2566.mono q1.size)
  replace ba830 := ba830.trans (ba2566.mono ba830.size)
  replace ra60 := ra60.up ba2566
  replace ba57 := ba57.trans (ba2566.mono ba57.size)
  replace q := q.trans (ba2566.mono q.size)
  have la2610 := ra60.lt
  (refine LL.call (R.call rfl rfl rfl) rfl rfl rfl (dread_any left a3 n c3 (applyS s os) _ (h3F _ q3) hln h) ?_; rintro e Wa2609 ⟨v4, v4', rfl, o4, o4', hd4, ba2606⟩; clear o4' hd4; obtain ⟨X4, hzX4, h4F, q4⟩ := exposeT (o4.reads prEnc); have zq4 := q4.size; clear o4; refine ⟨_, rfl, ?_⟩)
  have zba2606 := ba2606.size
  replace ba2566 := ba2566.trans (ba2606.mono ba2566.size)
  replace q3 := q3.trans (ba2606.mono q3.size)
  replace ba2022 := ba2022.trans (ba2606.mono ba2022.size)
  replace q2 := q2.trans (ba2606.mono q2.size)
  replace ba1230 := ba1230.trans (ba2606.mono ba1230.size)
  replace q1 := q1.trans (ba2606.mono q1.size)
  replace ba830 := ba830.trans (ba2606.mono ba830.size)
  replace ra60 := ra60.up ba2606
  replace ba57 := ba57.trans (ba2606.mono ba57.size)
  replace q := q.trans (ba2606.mono q.size)
  refine LL.val (R.move rfl rfl) rfl rfl rfl ?_
  refine LL.val (R.extract rfl rfl rfl) rfl rfl rfl ?_
  refine LL.val (R.extract rfl rfl rfl) rfl rfl rfl ?_
  refine LL.val (R.assign rfl rfl) rfl rfl rfl ?_
  refine LL.val (R.assign rfl rfl) rfl rfl rfl ?_
  refine LL.nilS ?_
  refine CC.seq ?_
  refine CC.region ?_
  refine LL.val (R.move rfl rfl) rfl rfl rfl ?_
  refine LL.val (R.move rfl rfl) rfl rfl rfl ?_
  refine LL.val (R.move rfl rfl) rfl rfl rfl ?_
  refine LL.val (R.move rfl rfl) rfl rfl rfl ?_
  refine LL.val (R.move rfl rfl) rfl rfl rfl ?_
  refine LL.val (R.move rfl rfl) rfl rfl rfl ?_
  have la3362 := ra60.lt
  (refine LL.call (R.call rfl rfl rfl) rfl rfl rfl (hB _ (hvF _ q) _ _ (h1F _ q1) (htF _ q)) ?_; rintro e Wa3361 ⟨pf, bf, rfl, hres, ba3358⟩; have hans := hA hres; clear hres; refine ⟨_, rfl, ?_⟩)
  have zba3358 := ba3358.size
  replace ba2606 := ba2606.trans (ba3358.mono ba2606.size)
  replace q4 := q4.trans (ba3358.mono q4.size)
  replace ba2566 := ba2566.trans (ba3358.mono ba2566.size)
  replace q3 := q3.trans (ba3358.mono q3.size)
  replace ba2022 := ba2022.trans (ba3358.mono ba2022.size)
  replace q2 := q2.trans (ba3358.mono q2.size)
  replace ba1230 := ba1230.trans (ba3358.mono ba1230.size)
  replace q1 := q1.trans (ba3358.mono q1.size)
  replace ba830 := ba830.trans (ba3358.mono ba830.size)
  replace ra60 := ra60.up ba3358
  replace ba57 := ba57.trans (ba3358.mono ba57.size)
  replace q := q.trans (ba3358.mono q.size)
  refine LL.val (R.move rfl rfl) rfl rfl rfl ?_
  refine LL.val (R.extract rfl rfl rfl) rfl rfl rfl ?_
  refine LL.val (R.extract rfl rfl rfl) rfl rfl rfl ?_
  refine LL.val (R.extract rfl rfl rfl) rfl rfl rfl ?_
  refine LL.val (R.assign rfl rfl) rfl rfl rfl ?_
  refine LL.val (R.assign rfl rfl) rfl rfl rfl ?_
  refine LL.val (R.assign rfl rfl) rfl rfl rfl ?_
  refine LL.nilS ?_
  refine CC.seq ?_
  refine CC.region ?_
  refine LL.val (R.move rfl rfl) rfl rfl rfl ?_
  refine LL.val (R.move rfl rfl) rfl rfl rfl ?_
  refine LL.val (R.move rfl rfl) rfl rfl rfl ?_
  refine LL.val (R.move rfl rfl) rfl rfl rfl ?_
  refine LL.val (R.move rfl rfl) rfl rfl rfl ?_
  refine LL.val (R.move rfl rfl) rfl rfl rfl ?_
  refine LL.val (R.move rfl rfl) rfl rfl rfl ?_
  have la4314 := ra60.lt
  (refine LL.call (R.call rfl rfl rfl) rfl rfl rfl (holds_any _ _ _ _ key pf bf _ (h2F _ q2) (h4F _ q4) hp1 hp2 hans) ?_; rintro e Wa4313 ⟨rfl, ba4310⟩; refine ⟨_, rfl, ?_⟩)
  have zba4310 := ba4310.size
  replace ba3358 := ba3358.trans (ba4310.mono ba3358.size)
  replace ba2606 := ba2606.trans (ba4310.mono ba2606.size)
  replace q4 := q4.trans (ba4310.mono q4.size)
  replace ba2566 := ba2566.trans (ba4310.mono ba2566.size)
  replace q3 := q3.trans (ba4310.mono q3.size)
  replace ba2022 := ba2022.trans (ba4310.mono ba2022.size)
  replace q2 := q2.trans (ba4310.mono q2.size)
  replace ba1230 := ba1230.trans (ba4310.mono ba1230.size)
  replace q1 := q1.trans (ba4310.mono q1.size)
  replace ba830 := ba830.trans (ba4310.mono ba830.size)
  replace ra60 := ra60.up ba4310
  replace ba57 := ba57.trans (ba4310.mono ba57.size)
  replace q := q.trans (ba4310.mono q.size)
  refine LL.val (R.pick rfl rfl rfl) rfl rfl rfl ?_
  refine LL.val (R.move rfl rfl) rfl rfl rfl ?_
  have la4506 := ra60.lt
  (refine LL.call (R.call rfl rfl rfl) rfl rfl rfl (works_any _) ?_; rintro e Wa4505 ⟨rfl, ba4502⟩; refine ⟨_, rfl, ?_⟩)
  have zba4502 := ba4502.size
  replace ba4310 := ba4310.trans (ba4502.mono ba4310.size)
  replace ba3358 := ba3358.trans (ba4502.mono ba3358.size)
  replace ba2606 := ba2606.trans (ba4502.mono ba2606.size)
  replace q4 := q4.trans (ba4502.mono q4.size)
  replace ba2566 := ba2566.trans (ba4502.mono ba2566.size)
  replace q3 := q3.trans (ba4502.mono q3.size)
  replace ba2022 := ba2022.trans (ba4502.mono ba2022.size)
  replace q2 := q2.trans (ba4502.mono q2.size)
  replace ba1230 := ba1230.trans (ba4502.mono ba1230.size)
  replace q1 := q1.trans (ba4502.mono q1.size)
  replace ba830 := ba830.trans (ba4502.mono ba830.size)
  replace ra60 := ra60.up ba4502
  replace ba57 := ba57.trans (ba4502.mono ba57.size)
  replace q := q.trans (ba4502.mono q.size)
  refine LL.val (R.pick rfl rfl rfl) rfl rfl rfl ?_
  refine LL.val (R.assign rfl rfl) rfl rfl rfl ?_
  refine LL.nilS ?_
  refine CC.ret ?_
  refine EE.ret _ rfl rfl ?_
  exact ⟨rfl, q⟩
theorem holds_takeD (left n k p key M ct c : Nat) (z : Int) (a at' : Option Addr) (s ts : List Nat) (w : World) (hv : ReadsT uE 1 w (.slice a n c) s) (hn : s.length = n) (hl : n ≤ 56) (ht : ReadsT yE 1 w (.slice at' M ct) ts) (hM : ts.length = M) (hM3 : M ≤ 300) (hrow : ¬ noRow left s.length) (hset : setP left s) (hz : z = 1) : Calls Try.prog 7 #[.int .u64 (left : Int), .slice a n c, .int .i64 z, .agg #[.int .u64 (k : Int), .int .u64 (p : Int)], .int .u64 (key : Int), .slice at' M ct] w fun e w' => e = .returned (.bool true) ∧ Below w.heap.size w w' := by
  have q := Below.refl w.heap.size w
  have hvF : ∀ X, Below w.heap.size w X → ReadsT uE 1 X (.slice a n c) s := fun X b => hv.up b
  have htF : ∀ X, Below w.heap.size w X → ReadsT yE 1 X (.slice at' M ct) ts := fun X b => ht.up b
  have h : n ≤ 1048576 := by omega
  have hck : checkF left s = 0 := by unfold checkF; rw [if_neg hrow, if_pos hset]
  have hr : rowOk left n := by rw [← hn]; exact noRow_not hrow
  clear hv ht
  subst hz
  obtain ⟨⟨cd, os⟩, eT⟩ : ∃ r, takeF left s k = r := ⟨_, rfl⟩
  by_cases hcd : cd = 0
  case neg =>
    clear hrow hset hr
    refine X.fn Try.func7 rfl (n := 107) rfl rfl ?_
    refine CC.seq ?_
    refine CC.region ?_
    refine LL.box [Value.int IntKind.u64 ↑k, Value.int IntKind.u64 ↑p] rfl rfl rfl rfl rfl ?_
    intro W30 g31 eg31 r32 z33 b29
    replace q := q.trans (b29.mono q.size)
    refine LL.val (R.assign rfl rfl) rfl rfl rfl ?_
    refine LL.nilS ?_
    refine CC.seq ?_
    refine CC.seq ?_
    refine CC.region ?_
    refine LL.val (R.move rfl rfl) rfl rfl rfl ?_
    refine LL.val (R.len rfl rfl rfl rfl) rfl rfl rfl ?_
    refine LL.val (R.gtF rfl rfl rfl (by omega)) rfl rfl rfl ?_
    refine LL.val (R.move rfl rfl) rfl rfl rfl ?_
    refine LL.val (R.move rfl rfl) rfl rfl rfl ?_
    refine LL.val (R.len rfl rfl rfl rfl) rfl rfl rfl ?_
    refine LL.val (R.gtF rfl rfl rfl (by omega)) rfl rfl rfl ?_
    refine LL.val (R.pick rfl rfl rfl) rfl rfl rfl ?_
    refine LL.val (R.move rfl rfl) rfl rfl rfl ?_
    refine LL.val (R.move rfl rfl) rfl rfl rfl ?_
    refine LL.val (R.move rfl rfl) rfl rfl rfl ?_
    have l422 := r32.lt
    (refine LL.call (R.call rfl rfl rfl) rfl rfl rfl (dcheck_any left n _ s _ (hvF _ q) hn h) ?_; rw [hck]; rintro e W421 ⟨rfl, b418⟩; refine ⟨_, rfl, ?_⟩)
    have zb418 := b418.size
    replace r32 := r32.up b418
    replace b29 := b29.trans (b418.mono b29.size)
    replace q := q.trans (b418.mono q.size)
    refine LL.val (R.neF rfl rfl rfl (by omega)) rfl rfl rfl ?_
    refine LL.val (R.pick rfl rfl rfl) rfl rfl rfl ?_
    refine LL.nilS ?_
    refine CC.no rfl ?_
    refine CC.skip ?_
    refine EE.thenN ?_
    refine CC.seq ?_
    refine CC.region ?_
    refine LL.val (R.assign rfl rfl) rfl rfl rfl ?_
    refine LL.nilS ?_
    refine CC.seq ?_
    refine CC.region ?_
    refine LL.val (R.move rfl rfl) rfl rfl rfl ?_
    refine LL.val (R.move rfl rfl) rfl rfl rfl ?_
    refine LL.val (R.load rfl rfl (I.ldNc (vs := [Value.int IntKind.u64 ↑k, Value.int IntKind.u64 ↑p]) (RowL.cells r32 rfl) (by rfl) (by rfl))) rfl rfl rfl ?_
    have l630 := r32.lt
    (refine LL.call (R.call rfl rfl rfl) rfl rfl rfl (dput_any left n k p _ s _ (hvF _ q) hn h) ?_; rintro e W629 ⟨vo0, rfl, oo0, b626⟩; clear oo0; refine ⟨_, rfl, ?_⟩)
    have zb626 := b626.size
    replace b418 := b418.trans (b626.mono b418.size)
    replace r32 := r32.up b626
    replace b29 := b29.trans (b626.mono b29.size)
    replace q := q.trans (b626.mono q.size)
    refine LL.val (R.move rfl rfl) rfl rfl rfl ?_
    refine LL.val (R.extract rfl rfl rfl) rfl rfl rfl ?_
    refine LL.val (R.extract rfl rfl rfl) rfl rfl rfl ?_
    refine LL.val (R.assign rfl rfl) rfl rfl rfl ?_
    refine LL.val (R.assign rfl rfl) rfl rfl rfl ?_
    refine LL.nilS ?_
    refine CC.seq ?_
    refine CC.seq ?_
    refine CC.region ?_
    refine LL.val (R.move rfl rfl) rfl rfl rfl ?_
    refine LL.nilS ?_
    refine CC.block ?_
    refine CC.seq ?_
    refine CC.region ?_
    refine LL.val (R.eqF rfl rfl rfl (by omega)) rfl rfl rfl ?_
    refine LL.val (R.assign rfl rfl) rfl rfl rfl ?_
    refine LL.nilS ?_
    refine CC.no rfl ?_
    refine CC.seq ?_
    refine CC.region ?_
    refine LL.val (R.eqT rfl rfl rfl (by omega)) rfl rfl rfl ?_
    refine LL.val (R.assign rfl rfl) rfl rfl rfl ?_
    refine LL.nilS ?_
    refine CC.yes rfl ?_
    refine CC.seq ?_
    refine CC.region ?_
    refine LL.val (R.assign rfl rfl) rfl rfl rfl ?_
    refine LL.nilS ?_
    refine CC.region ?_
    refine LL.val (R.move rfl rfl) rfl rfl rfl ?_
    refine LL.val (R.move rfl rfl) rfl rfl rfl ?_
    refine LL.val (R.field rfl rfl (I.fld rfl)) rfl rfl rfl ?_
    refine LL.val (R.load rfl rfl (I.ld1 rfl (RowL.cell r32 rfl))) rfl rfl rfl ?_
    have l1134 := r32.lt
    (refine LL.call (R.call rfl rfl rfl) rfl rfl rfl (dtake_any left n k _ s _ (hvF _ q) hn h) ?_; rw [eT]; rintro e W1133 ⟨vo, rfl, oo, b1130⟩; clear oo; refine ⟨_, rfl, ?_⟩)
    have zb1130 := b1130.size
    replace b626 := b626.trans (b1130.mono b626.size)
    replace b418 := b418.trans (b1130.mono b418.size)
    replace r32 := r32.up b1130
    replace b29 := b29.trans (b1130.mono b29.size)
    replace q := q.trans (b1130.mono q.size)
    refine LL.val (R.move rfl rfl) rfl rfl rfl ?_
    refine LL.val (R.extract rfl rfl rfl) rfl rfl rfl ?_
    refine LL.val (R.extract rfl rfl rfl) rfl rfl rfl ?_
    refine LL.val (R.assign rfl rfl) rfl rfl rfl ?_
    refine LL.val (R.assign rfl rfl) rfl rfl rfl ?_
    refine LL.nil ?_
    refine EE.inN ?_
    refine EE.thenN ?_
    refine CC.seq ?_
    refine CC.seq ?_
    refine CC.region ?_
    refine LL.val (R.move rfl rfl) rfl rfl rfl ?_
    refine LL.val (R.neT rfl rfl rfl (by omega)) rfl rfl rfl ?_
    refine LL.nilS ?_
    refine CC.yes rfl ?_
    refine CC.seq ?_
    refine CC.region ?_
    have l1390 := r32.lt
    (refine LL.call (R.call rfl rfl rfl) rfl rfl rfl (works_any _) ?_; rintro e W1389 ⟨rfl, b1386⟩; refine ⟨_, rfl, ?_⟩)
    have zb1386 := b1386.size
    replace b1130 := b1130.trans (b1386.mono b1130.size)
    replace b626 := b626.trans (b1386.mono b626.size)
    replace b418 := b418.trans (b1386.mono b418.size)
    replace r32 := r32.up b1386
    replace b29 := b29.trans (b1386.mono b29.size)
    replace q := q.trans (b1386.mono q.size)
    refine LL.val (R.assign rfl rfl) rfl rfl rfl ?_
    refine LL.nilS ?_
    refine CC.ret ?_
    refine EE.thenR ?_
    refine EE.ret _ rfl rfl ?_
    exact ⟨rfl, q⟩
  subst hcd
  obtain ⟨m, i, hs, hi, hos⟩ := takeF_0 hrow hset (by rw [eT])
  rw [eT] at hos
  dsimp only at hos
  have hlen : os.length = 2 * (m - i) := by rw [hos, takeL_map hi]; simp
  have h0 : ∀ p ∈ os, 0 ≤ p.1 := fun y hy => by
    rw [hos, takeL_map hi] at hy
    obtain ⟨u, _, rfl⟩ := List.mem_map.1 hy
    exact Int.natCast_nonneg _
  have hlt := hs.lt
  have hT : ∀ c, c ≤ os.length → ∀ j, j < n / 2 → keyN (applyS s (os.take c)) j = tkK s i m j c ∧ ptrN (applyS s (os.take c)) j = tkP left s i m j c := fun c hc j hj => by
    rw [hos]
    exact tk_time hi (by omega) (by have := hr.2.1; omega) c (by omega) j (by rw [hn]; exact hj)
  have hH := tk_hist (key := key) hs hr.1 (show n / 2 = s.length / 2 by rw [hn]) hi
  have hB := fun (W : World) (hv : ReadsT uE 1 W (.slice a n c) s) (al : Option Addr) (cl : Nat) (ho : ReadsT pE 2 W (.slice al os.length cl) os) (ht : ReadsT yE 1 W (.slice at' M ct) ts) => between_D (must := ∃ x, x < m ∧ x ≠ i ∧ keyN s x = key) hv hn hr ho rfl (by omega) h0 ht hM hM3 hH hT (fun ⟨x, h1, h2, h3⟩ => ⟨x, h1, h2, h3, .inl (by omega)⟩)
  have hA := fun {pf : Nat} {bf : Bool} hres => ans_tk (key := key) (p := pf) (b := bf) hs hi (by have := hr.2.1; omega) hres
  rw [← hos] at hA
  have hln : (applyS s os).length = n := by rw [applyS_len]; exact hn
  have hp1 := len_pairs (left := left) hn h
  have hp2 := len_pairs (left := left) hln h
  obtain ⟨N, hN⟩ : ∃ N, os.length = N := ⟨_, rfl⟩
  have hN9 : N ≤ 1000 := by have := hs.lt; omega
  rw [hN] at hB
  clear hT hH hos hlen hset hrow hs
  refine X.fn Try.func7 rfl (n := 107) rfl rfl ?_
  refine CC.seq ?_
  refine CC.region ?_
  refine LL.box [Value.int IntKind.u64 ↑k, Value.int IntKind.u64 ↑p] rfl rfl rfl rfl rfl ?_
  intro Wa65 ga66 ega66 ra67 za68 ba64
  replace q := q.trans (ba64.mono q.size)
  refine LL.val (R.assign rfl rfl) rfl rfl rfl ?_
  refine LL.nilS ?_
  refine CC.seq ?_
  refine CC.seq ?_
  refine CC.region ?_
  refine LL.val (R.move rfl rfl) rfl rfl rfl ?_
  refine LL.val (R.len rfl rfl rfl rfl) rfl rfl rfl ?_
  refine LL.val (R.gtF rfl rfl rfl (by omega)) rfl rfl rfl ?_
  refine LL.val (R.move rfl rfl) rfl rfl rfl ?_
  refine LL.val (R.move rfl rfl) rfl rfl rfl ?_
  refine LL.val (R.len rfl rfl rfl rfl) rfl rfl rfl ?_
  refine LL.val (R.gtF rfl rfl rfl (by omega)) rfl rfl rfl ?_
  refine LL.val (R.pick rfl rfl rfl) rfl rfl rfl ?_
  refine LL.val (R.move rfl rfl) rfl rfl rfl ?_
  refine LL.val (R.move rfl rfl) rfl rfl rfl ?_
  refine LL.val (R.move rfl rfl) rfl rfl rfl ?_
  have la937 := ra67.lt
  (refine LL.call (R.call rfl rfl rfl) rfl rfl rfl (dcheck_any left n _ s _ (hvF _ q) hn h) ?_; rw [hck]; rintro e Wa936 ⟨rfl, ba933⟩; refine ⟨_, rfl, ?_⟩)
  have zba933 := ba933.size
  replace ra67 := ra67.up ba933
  replace ba64 := ba64.trans (ba933.mono ba64.size)
  replace q := q.trans (ba933.mono q.size)
  refine LL.val (R.neF rfl rfl rfl (by omega)) rfl rfl rfl ?_
  refine LL.val (R.pick rfl rfl rfl) rfl rfl rfl ?_
  refine LL.nilS ?_
  refine CC.no rfl ?_
  refine CC.skip ?_
  refine EE.thenN ?_
  refine CC.seq ?_
  refine CC.region ?_
  refine LL.val (R.assign rfl rfl) rfl rfl rfl ?_
  refine LL.nilS ?_
  refine CC.seq ?_
  refine CC.region ?_
  refine LL.val (R.move rfl rfl) rfl rfl rfl ?_
  refine LL.val (R.move rfl rfl) rfl rfl rfl ?_
  refine LL.val (R.load rfl rfl (I.ldNc (vs := [Value.int IntKind.u64 ↑k, Value.int IntKind.u64 ↑p]) (RowL.cells ra67 rfl) (by rfl) (by rfl))) rfl rfl rfl ?_
  have la1385 := ra67.lt
  (refine LL.call (R.call rfl rfl rfl) rfl rfl rfl (dput_any left n k p _ s _ (hvF _ q) hn h) ?_; rintro e Wa1384 ⟨vo0, rfl, oo0, ba1381⟩; clear oo0; refine ⟨_, rfl, ?_⟩)
  have zba1381 := ba1381.size
  replace ba933 := ba933.trans (ba1381.mono ba933.size)
  replace ra67 := ra67.up ba1381
  replace ba64 := ba64.trans (ba1381.mono ba64.size)
  replace q := q.trans (ba1381.mono q.size)
  refine LL.val (R.move rfl rfl) rfl rfl rfl ?_
  refine LL.val (R.extract rfl rfl rfl) rfl rfl rfl ?_
  refine LL.val (R.extract rfl rfl rfl) rfl rfl rfl ?_
  refine LL.val (R.assign rfl rfl) rfl rfl rfl ?_
  refine LL.val (R.assign rfl rfl) rfl rfl rfl ?_
  refine LL.nilS ?_
  refine CC.seq ?_
  refine CC.seq ?_
  refine CC.region ?_
  refine LL.val (R.move rfl rfl) rfl rfl rfl ?_
  refine LL.nilS ?_
  refine CC.block ?_
  refine CC.seq ?_
  refine CC.region ?_
  refine LL.val (R.eqF rfl rfl rfl (by omega)) rfl rfl rfl ?_
  refine LL.val (R.assign rfl rfl) rfl rfl rfl ?_
  refine LL.nilS ?_
  refine CC.no rfl ?_
  refine CC.seq ?_
  refine CC.region ?_
  refine LL.val (R.eqT rfl rfl rfl (by omega)) rfl rfl rfl ?_
  refine LL.val (R.assign rfl rfl) rfl rfl rfl ?_
  refine LL.nilS ?_
  refine CC.yes rfl ?_
  refine CC.seq ?_
  refine CC.region ?_
  refine LL.val (R.assign rfl rfl) rfl rfl rfl ?_
  refine LL.nilS ?_
  refine CC.region ?_
  refine LL.val (R.move rfl rfl) rfl rfl rfl ?_
  refine LL.val (R.move rfl rfl) rfl rfl rfl ?_
  refine LL.val (R.field rfl rfl (I.fld rfl)) rfl rfl rfl ?_
  refine LL.val (R.load rfl rfl (I.ld1 rfl (RowL.cell ra67 rfl))) rfl rfl rfl ?_
  have la2489 := ra67.lt
  (refine LL.call (R.call rfl rfl rfl) rfl rfl rfl (dtake_any left n k _ s _ (hvF _ q) hn h) ?_; rw [eT]; rintro e Wa2488 ⟨vo, rfl, oo, ba2485⟩; dsimp only at oo; obtain ⟨al, cl, rfl, hcl⟩ := (oo.reads pEnc).form hN; obtain ⟨X1, hzX1, h1F, q1⟩ := exposeT (oo.reads pEnc); have zq1 := q1.size; clear oo; refine ⟨_, rfl, ?_⟩)
  have zba2485 := ba2485.size
  replace ba1381 := ba1381.trans (ba2485.mono ba1381.size)
  replace ba933 := ba933.trans (ba2485.mono ba933.size)
  replace ra67 := ra67.up ba2485
  replace ba64 := ba64.trans (ba2485.mono ba64.size)
  replace q := q.trans (ba2485.mono q.size)
  refine LL.val (R.move rfl rfl) rfl rfl rfl ?_
  refine LL.val (R.extract rfl rfl rfl) rfl rfl rfl ?_
  refine LL.val (R.extract rfl rfl rfl) rfl rfl rfl ?_
  refine LL.val (R.assign rfl rfl) rfl rfl rfl ?_
  refine LL.val (R.assign rfl rfl) rfl rfl rfl ?_
  refine LL.nil ?_
  refine EE.inN ?_
  refine EE.thenN ?_
  refine CC.seq ?_
  refine CC.seq ?_
  refine CC.region ?_
  refine LL.val (R.move rfl rfl) rfl rfl rfl ?_
  refine LL.val (R.neF rfl rfl rfl (by omega)) rfl rfl rfl ?_
  refine LL.nilS ?_
  refine CC.no rfl ?_
  refine CC.skip ?_
  refine EE.thenN ?_
  refine CC.seq ?_
  refine CC.region ?_
  refine LL.val (R.move rfl rfl) rfl rfl rfl ?_
  refine LL.val (R.move rfl rfl) rfl rfl rfl ?_
  have la3169 := ra67.lt
  (refine LL.call (R.call rfl rfl rfl) rfl rfl rfl (dread_any left a n c s _ (hvF _ q) hn h) ?_; rintro e Wa3168 ⟨v1, v1', rfl, o1, o1', hd1, ba3165⟩; clear o1' hd1; obtain ⟨X2, hzX2, h2F, q2⟩ := exposeT (o1.reads prEnc); have zq2 := q2.size; clear o1; refine ⟨_, rfl, ?_⟩)
  have zba3165 := ba3165.size
  replace ba2485 := ba2485.trans (ba3165.mono ba2485.size)
  replace q1 := q1.trans (ba3165.mono q1.size)
  replace ba1381 := ba1381.trans (ba3165.mono ba1381.size)
  replace ba933 := ba933.trans (ba3165.mono ba933.size)
  replace ra67 := ra67.up ba3165
  replace ba64 := ba64.trans (ba3165.mono ba64.size)
  replace q := q.trans (ba3165.mono q.size)
  refine LL.val (R.move rfl rfl) rfl rfl rfl ?_
  refine LL.val (R.extract rfl rfl rfl) rfl rfl rfl ?_
  refine LL.val (R.extract rfl rfl rfl) rfl rfl rfl ?_
  refine LL.val (R.assign rfl rfl) rfl rfl rfl ?_
  refine LL.val (R.assign rfl rfl) rfl rfl rfl ?_
  refine LL.nilS ?_
  refine CC.seq ?_
  refine CC.region ?_
  refine LL.val (R.move rfl rfl) rfl rfl rfl ?_
  refine LL.val (R.move rfl rfl) rfl rfl rfl ?_
  refine LL.val (R.move rfl rfl) rfl rfl rfl ?_
  have la3785 := ra67.lt
  (refine LL.call (R.call rfl rfl rfl) rfl rfl rfl (dapply_any n _ _ s os _ (hvF _ q) hn h (h1F _ q1) (by omega) h0) ?_; rintro e Wa3784 ⟨va, rfl, o3, ba3781⟩; obtain ⟨a3, c3, rfl, hc3⟩ := (o3.reads uEnc).form hln; obtain ⟨X3, hzX3, h3F, q3⟩ := exposeT (o3.reads uEnc); have zq3 := q3.size; clear o3; refine ⟨_, rfl, ?_⟩)
  have zba3781 := ba3781.size
  replace ba3165 := ba3165.trans (ba3781.mono ba3165.size)
  replace q2 := q2.trans (ba3781.mono q2.size)
  replace ba2485 := ba2485.trans (ba3781.mono ba2485.size)
  replace q1 := q1.trans (ba3781.mono q1.size)
  replace ba1381 := ba1381.trans (ba3781.mono ba1381.size)
  replace ba933 := ba933.trans (ba3781.mono ba933.size)
  replace ra67 := ra67.up ba3781
  replace ba64 := ba64.trans (ba3781.mono ba64.size)
  replace q := q.trans (ba3781.mono q.size)
  have la3833 := ra67.lt
  (refine LL.call (R.call rfl rfl rfl) rfl rfl rfl (dread_any left a3 n c3 (applyS s os) _ (h3F _ q3) hln h) ?_; rintro e Wa3832 ⟨v4, v4', rfl, o4, o4', hd4, ba3829⟩; clear o4' hd4; obtain ⟨X4, hzX4, h4F, q4⟩ := exposeT (o4.reads prEnc); have zq4 := q4.size; clear o4; refine ⟨_, rfl, ?_⟩)
  have zba3829 := ba3829.size
  replace ba3781 := ba3781.trans (ba3829.mono ba3781.size)
  replace q3 := q3.trans (ba3829.mono q3.size)
  replace ba3165 := ba3165.trans (ba3829.mono ba3165.size)
  replace q2 := q2.trans (ba3829.mono q2.size)
  replace ba2485 := ba2485.trans (ba3829.mono ba2485.size)
  replace q1 := q1.trans (ba3829.mono q1.size)
  replace ba1381 := ba1381.trans (ba3829.mono ba1381.size)
  replace ba933 := ba933.trans (ba3829.mono ba933.size)
  replace ra67 := ra67.up ba3829
  replace ba64 := ba64.trans (ba3829.mono ba64.size)
  replace q := q.trans (ba3829.mono q.size)
  refine LL.val (R.move rfl rfl) rfl rfl rfl ?_
  refine LL.val (R.extract rfl rfl rfl) rfl rfl rfl ?_
  refine LL.val (R.extract rfl rfl rfl) rfl rfl rfl ?_
  refine LL.val (R.assign rfl rfl) rfl rfl rfl ?_
  refine LL.val (R.assign rfl rfl) rfl rfl rfl ?_
  refine LL.nilS ?_
  refine CC.seq ?_
  refine CC.region ?_
  refine LL.val (R.move rfl rfl) rfl rfl rfl ?_
  refine LL.val (R.move rfl rfl) rfl rfl rfl ?_
  refine LL.val (R.move rfl rfl) rfl rfl rfl ?_
  refine LL.val (R.move rfl rfl) rfl rfl rfl ?_
  refine LL.val (R.move rfl rfl) rfl rfl rfl ?_
  refine LL.val (R.move rfl rfl) rfl rfl rfl ?_
  have la4681 := ra67.lt
  (refine LL.call (R.call rfl rfl rfl) rfl rfl rfl (hB _ (hvF _ q) _ _ (h1F _ q1) (htF _ q)) ?_; rintro e Wa4680 ⟨pf, bf, rfl, hres, ba4677⟩; have hans := hA hres; clear hres; refine ⟨_, rfl, ?_⟩)
  have zba4677 := ba4677.size
  replace ba3829 := ba3829.trans (ba4677.mono ba3829.size)
  replace q4 := q4.trans (ba4677.mono q4.size)
  replace ba3781 := ba3781.trans (ba4677.mono ba3781.size)
  replace q3 := q3.trans (ba4677.mono q3.size)
  replace ba3165 := ba3165.trans (ba4677.mono ba3165.size)
  replace q2 := q2.trans (ba4677.mono q2.size)
  replace ba2485 := ba2485.trans (ba4677.mono ba2485.size)
  replace q1 := q1.trans (ba4677.mono q1.size)
  replace ba1381 := ba1381.trans (ba4677.mono ba1381.size)
  replace ba933 := ba933.trans (ba4677.mono ba933.size)
  replace ra67 := ra67.up ba4677
  replace ba64 := ba64.trans (ba4677.mono ba64.size)
  replace q := q.trans (ba4677.mono q.size)
  refine LL.val (R.move rfl rfl) rfl rfl rfl ?_
  refine LL.val (R.extract rfl rfl rfl) rfl rfl rfl ?_
  refine LL.val (R.extract rfl rfl rfl) rfl rfl rfl ?_
  refine LL.val (R.extract rfl rfl rfl) rfl rfl rfl ?_
  refine LL.val (R.assign rfl rfl) rfl rfl rfl ?_
  refine LL.val (R.assign rfl rfl) rfl rfl rfl ?_
  refine LL.val (R.assign rfl rfl) rfl rfl rfl ?_
  refine LL.nilS ?_
  refine CC.seq ?_
  refine CC.region ?_
  refine LL.val (R.move rfl rfl) rfl rfl rfl ?_
  refine LL.val (R.move rfl rfl) rfl rfl rfl ?_
  refine LL.val (R.move rfl rfl) rfl rfl rfl ?_
  refine LL.val (R.move rfl rfl) rfl rfl rfl ?_
  refine LL.val (R.move rfl rfl) rfl rfl rfl ?_
  refine LL.val (R.move rfl rfl) rfl rfl rfl ?_
  refine LL.val (R.move rfl rfl) rfl rfl rfl ?_
  have la5753 := ra67.lt
  (refine LL.call (R.call rfl rfl rfl) rfl rfl rfl (holds_any _ _ _ _ key pf bf _ (h2F _ q2) (h4F _ q4) hp1 hp2 hans) ?_; rintro e Wa5752 ⟨rfl, ba5749⟩; refine ⟨_, rfl, ?_⟩)
  have zba5749 := ba5749.size
  replace ba4677 := ba4677.trans (ba5749.mono ba4677.size)
  replace ba3829 := ba3829.trans (ba5749.mono ba3829.size)
  replace q4 := q4.trans (ba5749.mono q4.size)
  replace ba3781 := ba3781.trans (ba5749.mono ba3781.size)
  replace q3 := q3.trans (ba5749.mono q3.size)
  replace ba3165 := ba3165.trans (ba5749.mono ba3165.size)
  replace q2 := q2.trans (ba5749.mono q2.size)
  replace ba2485 := ba2485.trans (ba5749.mono ba2485.size)
  replace q1 := q1.trans (ba5749.mono q1.size)
  replace ba1381 := ba1381.trans (ba5749.mono ba1381.size)
  replace ba933 := ba933.trans (ba5749.mono ba933.size)
  replace ra67 := ra67.up ba5749
  replace ba64 := ba64.trans (ba5749.mono ba64.size)
  replace q := q.trans (ba5749.mono q.size)
  refine LL.val (R.pick rfl rfl rfl) rfl rfl rfl ?_
  refine LL.val (R.move rfl rfl) rfl rfl rfl ?_
  have la5969 := ra67.lt
  (refine LL.call (R.call rfl rfl rfl) rfl rfl rfl (works_any _) ?_; rintro e Wa5968 ⟨rfl, ba5965⟩; refine ⟨_, rfl, ?_⟩)
  have zba5965 := ba5965.size
  replace ba5749 := ba5749.trans (ba5965.mono ba5749.size)
  replace ba4677 := ba4677.trans (ba5965.mono ba4677.size)
  replace ba3829 := ba3829.trans (ba5965.mono ba3829.size)
  replace q4 := q4.trans (ba5965.mono q4.size)
  replace ba3781 := ba3781.trans (ba5965.mono ba3781.size)
  replace q3 := q3.trans (ba5965.mono q3.size)
  replace ba3165 := ba3165.trans (ba5965.mono ba3165.size)
  replace q2 := q2.trans (ba5965.mono q2.size)
  replace ba2485 := ba2485.trans (ba5965.mono ba2485.size)
  replace q1 := q1.trans (ba5965.mono q1.size)
  replace ba1381 := ba1381.trans (ba5965.mono ba1381.size)
  replace ba933 := ba933.trans (ba5965.mono ba933.size)
  replace ra67 := ra67.up ba5965
  replace ba64 := ba64.trans (ba5965.mono ba64.size)
  replace q := q.trans (ba5965.mono q.size)
  refine LL.val (R.pick rfl rfl rfl) rfl rfl rfl ?_
  refine LL.val (R.assign rfl rfl) rfl rfl rfl ?_
  refine LL.nilS ?_
  refine CC.ret ?_
  refine EE.ret _ rfl rfl ?_
  exact ⟨rfl, q⟩
theorem holds_swapU (left n k p key M ct c : Nat) (z : Int) (a at' : Option Addr) (s ts : List Nat) (w : World) (hv : ReadsT uE 1 w (.slice a n c) s) (hn : s.length = n) (hl : n ≤ 56) (ht : ReadsT yE 1 w (.slice at' M ct) ts) (hM : ts.length = M) (hM3 : M ≤ 300) (hrow : ¬ noRow left s.length) (hset : setP left s) (hz : z ≠ 0 ∧ z ≠ 1 ∧ z ≠ 3) : Calls Try.prog 7 #[.int .u64 (left : Int), .slice a n c, .int .i64 z, .agg #[.int .u64 (k : Int), .int .u64 (p : Int)], .int .u64 (key : Int), .slice at' M ct] w fun e w' => e = .returned (.bool true) ∧ Below w.heap.size w w' := by
  have q := Below.refl w.heap.size w
  have hvF : ∀ X, Below w.heap.size w X → ReadsT uE 1 X (.slice a n c) s := fun X b => hv.up b
  have htF : ∀ X, Below w.heap.size w X → ReadsT yE 1 X (.slice at' M ct) ts := fun X b => ht.up b
  have h : n ≤ 1048576 := by omega
  have hck : checkF left s = 0 := by unfold checkF; rw [if_neg hrow, if_pos hset]
  have hr : rowOk left n := by rw [← hn]; exact noRow_not hrow
  clear hv ht
  obtain ⟨⟨cd, os⟩, eT⟩ : ∃ r, swapF left s k p = r := ⟨_, rfl⟩
  by_cases hcd : cd = 0
  case neg =>
    clear hrow hset hr
    refine X.fn Try.func7 rfl (n := 107) rfl rfl ?_
    refine CC.seq ?_
    refine CC.region ?_
    refine LL.box [Value.int IntKind.u64 ↑k, Value.int IntKind.u64 ↑p] rfl rfl rfl rfl rfl ?_
    intro W30 g31 eg31 r32 z33 b29
    replace q := q.trans (b29.mono q.size)
    refine LL.val (R.assign rfl rfl) rfl rfl rfl ?_
    refine LL.nilS ?_
    refine CC.seq ?_
    refine CC.seq ?_
    refine CC.region ?_
    refine LL.val (R.move rfl rfl) rfl rfl rfl ?_
    refine LL.val (R.len rfl rfl rfl rfl) rfl rfl rfl ?_
    refine LL.val (R.gtF rfl rfl rfl (by omega)) rfl rfl rfl ?_
    refine LL.val (R.move rfl rfl) rfl rfl rfl ?_
    refine LL.val (R.move rfl rfl) rfl rfl rfl ?_
    refine LL.val (R.len rfl rfl rfl rfl) rfl rfl rfl ?_
    refine LL.val (R.gtF rfl rfl rfl (by omega)) rfl rfl rfl ?_
    refine LL.val (R.pick rfl rfl rfl) rfl rfl rfl ?_
    refine LL.val (R.move rfl rfl) rfl rfl rfl ?_
    refine LL.val (R.move rfl rfl) rfl rfl rfl ?_
    refine LL.val (R.move rfl rfl) rfl rfl rfl ?_
    have l422 := r32.lt
    (refine LL.call (R.call rfl rfl rfl) rfl rfl rfl (dcheck_any left n _ s _ (hvF _ q) hn h) ?_; rw [hck]; rintro e W421 ⟨rfl, b418⟩; refine ⟨_, rfl, ?_⟩)
    have zb418 := b418.size
    replace r32 := r32.up b418
    replace b29 := b29.trans (b418.mono b29.size)
    replace q := q.trans (b418.mono q.size)
    refine LL.val (R.neF rfl rfl rfl (by omega)) rfl rfl rfl ?_
    refine LL.val (R.pick rfl rfl rfl) rfl rfl rfl ?_
    refine LL.nilS ?_
    refine CC.no rfl ?_
    refine CC.skip ?_
    refine EE.thenN ?_
    refine CC.seq ?_
    refine CC.region ?_
    refine LL.val (R.assign rfl rfl) rfl rfl rfl ?_
    refine LL.nilS ?_
    refine CC.seq ?_
    refine CC.region ?_
    refine LL.val (R.move rfl rfl) rfl rfl rfl ?_
    refine LL.val (R.move rfl rfl) rfl rfl rfl ?_
    refine LL.val (R.load rfl rfl (I.ldNc (vs := [Value.int IntKind.u64 ↑k, Value.int IntKind.u64 ↑p]) (RowL.cells r32 rfl) (by rfl) (by rfl))) rfl rfl rfl ?_
    have l630 := r32.lt
    (refine LL.call (R.call rfl rfl rfl) rfl rfl rfl (dput_any left n k p _ s _ (hvF _ q) hn h) ?_; rintro e W629 ⟨vo0, rfl, oo0, b626⟩; clear oo0; refine ⟨_, rfl, ?_⟩)
    have zb626 := b626.size
    replace b418 := b418.trans (b626.mono b418.size)
    replace r32 := r32.up b626
    replace b29 := b29.trans (b626.mono b29.size)
    replace q := q.trans (b626.mono q.size)
    refine LL.val (R.move rfl rfl) rfl rfl rfl ?_
    refine LL.val (R.extract rfl rfl rfl) rfl rfl rfl ?_
    refine LL.val (R.extract rfl rfl rfl) rfl rfl rfl ?_
    refine LL.val (R.assign rfl rfl) rfl rfl rfl ?_
    refine LL.val (R.assign rfl rfl) rfl rfl rfl ?_
    refine LL.nilS ?_
    refine CC.seq ?_
    refine CC.seq ?_
    refine CC.region ?_
    refine LL.val (R.move rfl rfl) rfl rfl rfl ?_
    refine LL.nilS ?_
    refine CC.block ?_
    refine CC.seq ?_
    refine CC.region ?_
    refine LL.val (R.eqF rfl rfl rfl (by omega)) rfl rfl rfl ?_
    refine LL.val (R.assign rfl rfl) rfl rfl rfl ?_
    refine LL.nilS ?_
    refine CC.no rfl ?_
    refine CC.seq ?_
    refine CC.region ?_
    refine LL.val (R.eqF rfl rfl rfl (by omega)) rfl rfl rfl ?_
    refine LL.val (R.assign rfl rfl) rfl rfl rfl ?_
    refine LL.nilS ?_
    refine CC.no rfl ?_
    refine CC.seq ?_
    refine CC.region ?_
    refine LL.val (R.move rfl rfl) rfl rfl rfl ?_
    refine LL.val (R.move rfl rfl) rfl rfl rfl ?_
    refine LL.val (R.load rfl rfl (I.ldNc (vs := [Value.int IntKind.u64 ↑k, Value.int IntKind.u64 ↑p]) (RowL.cells r32 rfl) (by rfl) (by rfl))) rfl rfl rfl ?_
    have l1070 := r32.lt
    (refine LL.call (R.call rfl rfl rfl) rfl rfl rfl (dswap_any left n k p _ s _ (hvF _ q) hn h) ?_; rw [eT]; rintro e W1069 ⟨vo, rfl, oo, b1066⟩; clear oo; refine ⟨_, rfl, ?_⟩)
    have zb1066 := b1066.size
    replace b626 := b626.trans (b1066.mono b626.size)
    replace b418 := b418.trans (b1066.mono b418.size)
    replace r32 := r32.up b1066
    replace b29 := b29.trans (b1066.mono b29.size)
    replace q := q.trans (b1066.mono q.size)
    refine LL.val (R.move rfl rfl) rfl rfl rfl ?_
    refine LL.val (R.extract rfl rfl rfl) rfl rfl rfl ?_
    refine LL.val (R.extract rfl rfl rfl) rfl rfl rfl ?_
    refine LL.val (R.assign rfl rfl) rfl rfl rfl ?_
    refine LL.val (R.assign rfl rfl) rfl rfl rfl ?_
    refine LL.nilS ?_
    refine CC.seq ?_
    refine CC.region ?_
    refine LL.val (R.move rfl rfl) rfl rfl rfl ?_
    refine LL.val (R.eqF rfl rfl rfl (by omega)) rfl rfl rfl ?_
    refine LL.nilS ?_
    refine CC.no rfl ?_
    refine CC.skip ?_
    refine EE.inN ?_
    refine EE.thenN ?_
    refine CC.seq ?_
    refine CC.seq ?_
    refine CC.region ?_
    refine LL.val (R.move rfl rfl) rfl rfl rfl ?_
    refine LL.val (R.neT rfl rfl rfl (by omega)) rfl rfl rfl ?_
    refine LL.nilS ?_
    refine CC.yes rfl ?_
    refine CC.seq ?_
    refine CC.region ?_
    have l1390 := r32.lt
    (refine LL.call (R.call rfl rfl rfl) rfl rfl rfl (works_any _) ?_; rintro e W1389 ⟨rfl, b1386⟩; refine ⟨_, rfl, ?_⟩)
    have zb1386 := b1386.size
    replace b1066 := b1066.trans (b1386.mono b1066.size)
    replace b626 := b626.trans (b1386.mono b626.size)
    replace b418 := b418.trans (b1386.mono b418.size)
    replace r32 := r32.up b1386
    replace b29 := b29.trans (b1386.mono b29.size)
    replace q := q.trans (b1386.mono q.size)
    refine LL.val (R.assign rfl rfl) rfl rfl rfl ?_
    refine LL.nilS ?_
    refine CC.ret ?_
    refine EE.thenR ?_
    refine EE.ret _ rfl rfl ?_
    exact ⟨rfl, q⟩
  subst hcd
  obtain ⟨m, i, hs, hi, hp0, hpl, hd, hos⟩ := swapF_0 hrow hset (by rw [eT])
  rw [eT] at hos
  dsimp only at hos
  have hlen : os.length = 1 := by rw [hos]; rfl
  have h0 : ∀ p ∈ os, 0 ≤ p.1 := fun y hy => by
    rw [hos] at hy
    rw [List.mem_singleton.1 hy]
    exact Int.natCast_nonneg _
  have hlt := hs.lt
  have hT : ∀ c, c ≤ os.length → ∀ j, j < n / 2 → keyN (applyS s (os.take c)) j = (fun j _ => keyN s j) j c ∧ ptrN (applyS s (os.take c)) j = swP s i p j c := fun c hc j hj => by
    rw [hos]
    exact sw_time (by omega) c (by omega) j (by rw [hn]; exact hj)
  have hH := sw_histU (key := key) hs (show n / 2 = s.length / 2 by rw [hn]) hi hp0 hpl hd
  have hB := fun (W : World) (hv : ReadsT uE 1 W (.slice a n c) s) (al : Option Addr) (cl : Nat) (ho : ReadsT pE 2 W (.slice al os.length cl) os) (ht : ReadsT yE 1 W (.slice at' M ct) ts) => between_U (must := ∃ x, x < m ∧ keyN s x = key) hv hn hr ho rfl (by omega) h0 ht hM hM3 hH hT (fun ⟨x, h1, h2⟩ => ⟨x, h1, h2, by omega⟩)
  have hA := fun {pf : Nat} {bf : Bool} hres => ans_sw (key := key) (v := pf) (b := bf) hs hi hp0 hpl hd hres
  rw [← hos] at hA
  have hln : (applyS s os).length = n := by rw [applyS_len]; exact hn
  have hp1 := len_pairs (left := left) hn h
  have hp2 := len_pairs (left := left) hln h
  obtain ⟨N, hN⟩ : ∃ N, os.length = N := ⟨_, rfl⟩
  have hN9 : N ≤ 1000 := by have := hs.lt; omega
  rw [hN] at hB
  clear hT hH hos hlen hset hrow hs
  refine X.fn Try.func7 rfl (n := 107) rfl rfl ?_
  refine CC.seq ?_
  refine CC.region ?_
  refine LL.box [Value.int IntKind.u64 ↑k, Value.int IntKind.u64 ↑p] rfl rfl rfl rfl rfl ?_
  intro Wa65 ga66 ega66 ra67 za68 ba64
  replace q := q.trans (ba64.mono q.size)
  refine LL.val (R.assign rfl rfl) rfl rfl rfl ?_
  refine LL.nilS ?_
  refine CC.seq ?_
  refine CC.seq ?_
  refine CC.region ?_
  refine LL.val (R.move rfl rfl) rfl rfl rfl ?_
  refine LL.val (R.len rfl rfl rfl rfl) rfl rfl rfl ?_
  refine LL.val (R.gtF rfl rfl rfl (by omega)) rfl rfl rfl ?_
  refine LL.val (R.move rfl rfl) rfl rfl rfl ?_
  refine LL.val (R.move rfl rfl) rfl rfl rfl ?_
  refine LL.val (R.len rfl rfl rfl rfl) rfl rfl rfl ?_
  refine LL.val (R.gtF rfl rfl rfl (by omega)) rfl rfl rfl ?_
  refine LL.val (R.pick rfl rfl rfl) rfl rfl rfl ?_
  refine LL.val (R.move rfl rfl) rfl rfl rfl ?_
  refine LL.val (R.move rfl rfl) rfl rfl rfl ?_
  refine LL.val (R.move rfl rfl) rfl rfl rfl ?_
  have la937 := ra67.lt
  (refine LL.call (R.call rfl rfl rfl) rfl rfl rfl (dcheck_any left n _ s _ (hvF _ q) hn h) ?_; rw [hck]; rintro e Wa936 ⟨rfl, ba933⟩; refine ⟨_, rfl, ?_⟩)
  have zba933 := ba933.size
  replace ra67 := ra67.up ba933
  replace ba64 := ba64.trans (ba933.mono ba64.size)
  replace q := q.trans (ba933.mono q.size)
  refine LL.val (R.neF rfl rfl rfl (by omega)) rfl rfl rfl ?_
  refine LL.val (R.pick rfl rfl rfl) rfl rfl rfl ?_
  refine LL.nilS ?_
  refine CC.no rfl ?_
  refine CC.skip ?_
  refine EE.thenN ?_
  refine CC.seq ?_
  refine CC.region ?_
  refine LL.val (R.assign rfl rfl) rfl rfl rfl ?_
  refine LL.nilS ?_
  refine CC.seq ?_
  refine CC.region ?_
  refine LL.val (R.move rfl rfl) rfl rfl rfl ?_
  refine LL.val (R.move rfl rfl) rfl rfl rfl ?_
  refine LL.val (R.load rfl rfl (I.ldNc (vs := [Value.int IntKind.u64 ↑k, Value.int IntKind.u64 ↑p]) (RowL.cells ra67 rfl) (by rfl) (by rfl))) rfl rfl rfl ?_
  have la1385 := ra67.lt
  (refine LL.call (R.call rfl rfl rfl) rfl rfl rfl (dput_any left n k p _ s _ (hvF _ q) hn h) ?_; rintro e Wa1384 ⟨vo0, rfl, oo0, ba1381⟩; clear oo0; refine ⟨_, rfl, ?_⟩)
  have zba1381 := ba1381.size
  replace ba933 := ba933.trans (ba1381.mono ba933.size)
  replace ra67 := ra67.up ba1381
  replace ba64 := ba64.trans (ba1381.mono ba64.size)
  replace q := q.trans (ba1381.mono q.size)
  refine LL.val (R.move rfl rfl) rfl rfl rfl ?_
  refine LL.val (R.extract rfl rfl rfl) rfl rfl rfl ?_
  refine LL.val (R.extract rfl rfl rfl) rfl rfl rfl ?_
  refine LL.val (R.assign rfl rfl) rfl rfl rfl ?_
  refine LL.val (R.assign rfl rfl) rfl rfl rfl ?_
  refine LL.nilS ?_
  refine CC.seq ?_
  refine CC.seq ?_
  refine CC.region ?_
  refine LL.val (R.move rfl rfl) rfl rfl rfl ?_
  refine LL.nilS ?_
  refine CC.block ?_
  refine CC.seq ?_
  refine CC.region ?_
  refine LL.val (R.eqF rfl rfl rfl (by omega)) rfl rfl rfl ?_
  refine LL.val (R.assign rfl rfl) rfl rfl rfl ?_
  refine LL.nilS ?_
  refine CC.no rfl ?_
  refine CC.seq ?_
  refine CC.region ?_
  refine LL.val (R.eqF rfl rfl rfl (by omega)) rfl rfl rfl ?_
  refine LL.val (R.assign rfl rfl) rfl rfl rfl ?_
  refine LL.nilS ?_
  refine CC.no rfl ?_
  refine CC.seq ?_
  refine CC.region ?_
  refine LL.val (R.move rfl rfl) rfl rfl rfl ?_
  refine LL.val (R.move rfl rfl) rfl rfl rfl ?_
  refine LL.val (R.load rfl rfl (I.ldNc (vs := [Value.int IntKind.u64 ↑k, Value.int IntKind.u64 ↑p]) (RowL.cells ra67 rfl) (by rfl) (by rfl))) rfl rfl rfl ?_
  have la2345 := ra67.lt
  (refine LL.call (R.call rfl rfl rfl) rfl rfl rfl (dswap_any left n k p _ s _ (hvF _ q) hn h) ?_; rw [eT]; rintro e Wa2344 ⟨vo, rfl, oo, ba2341⟩; dsimp only at oo; obtain ⟨al, cl, rfl, hcl⟩ := (oo.reads pEnc).form hN; obtain ⟨X1, hzX1, h1F, q1⟩ := exposeT (oo.reads pEnc); have zq1 := q1.size; clear oo; refine ⟨_, rfl, ?_⟩)
  have zba2341 := ba2341.size
  replace ba1381 := ba1381.trans (ba2341.mono ba1381.size)
  replace ba933 := ba933.trans (ba2341.mono ba933.size)
  replace ra67 := ra67.up ba2341
  replace ba64 := ba64.trans (ba2341.mono ba64.size)
  replace q := q.trans (ba2341.mono q.size)
  refine LL.val (R.move rfl rfl) rfl rfl rfl ?_
  refine LL.val (R.extract rfl rfl rfl) rfl rfl rfl ?_
  refine LL.val (R.extract rfl rfl rfl) rfl rfl rfl ?_
  refine LL.val (R.assign rfl rfl) rfl rfl rfl ?_
  refine LL.val (R.assign rfl rfl) rfl rfl rfl ?_
  refine LL.nilS ?_
  refine CC.seq ?_
  refine CC.region ?_
  refine LL.val (R.move rfl rfl) rfl rfl rfl ?_
  refine LL.val (R.eqF rfl rfl rfl (by omega)) rfl rfl rfl ?_
  refine LL.nilS ?_
  refine CC.no rfl ?_
  refine CC.skip ?_
  refine EE.inN ?_
  refine EE.thenN ?_
  refine CC.seq ?_
  refine CC.seq ?_
  refine CC.region ?_
  refine LL.val (R.move rfl rfl) rfl rfl rfl ?_
  refine LL.val (R.neF rfl rfl rfl (by omega)) rfl rfl rfl ?_
  refine LL.nilS ?_
  refine CC.no rfl ?_
  refine CC.skip ?_
  refine EE.thenN ?_
  refine CC.seq ?_
  refine CC.region ?_
  refine LL.val (R.move rfl rfl) rfl rfl rfl ?_
  refine LL.val (R.move rfl rfl) rfl rfl rfl ?_
  have la3169 := ra67.lt
  (refine LL.call (R.call rfl rfl rfl) rfl rfl rfl (dread_any left a n c s _ (hvF _ q) hn h) ?_; rintro e Wa3168 ⟨v1, v1', rfl, o1, o1', hd1, ba3165⟩; clear o1' hd1; obtain ⟨X2, hzX2, h2F, q2⟩ := exposeT (o1.reads prEnc); have zq2 := q2.size; clear o1; refine ⟨_, rfl, ?_⟩)
  have zba3165 := ba3165.size
  replace ba2341 := ba2341.trans (ba3165.mono ba2341.size)
  replace q1 := q1.trans (ba3165.mono q1.size)
  replace ba1381 := ba1381.trans (ba3165.mono ba1381.size)
  replace ba933 := ba933.trans (ba3165.mono ba933.size)
  replace ra67 := ra67.up ba3165
  replace ba64 := ba64.trans (ba3165.mono ba64.size)
  replace q := q.trans (ba3165.mono q.size)
  refine LL.val (R.move rfl rfl) rfl rfl rfl ?_
  refine LL.val (R.extract rfl rfl rfl) rfl rfl rfl ?_
  refine LL.val (R.extract rfl rfl rfl) rfl rfl rfl ?_
  refine LL.val (R.assign rfl rfl) rfl rfl rfl ?_
  refine LL.val (R.assign rfl rfl) rfl rfl rfl ?_
  refine LL.nilS ?_
  refine CC.seq ?_
  refine CC.region ?_
  refine LL.val (R.move rfl rfl) rfl rfl rfl ?_
  refine LL.val (R.move rfl rfl) rfl rfl rfl ?_
  refine LL.val (R.move rfl rfl) rfl rfl rfl ?_
  have la3785 := ra67.lt
  (refine LL.call (R.call rfl rfl rfl) rfl rfl rfl (dapply_any n _ _ s os _ (hvF _ q) hn h (h1F _ q1) (by omega) h0) ?_; rintro e Wa3784 ⟨va, rfl, o3, ba3781⟩; obtain ⟨a3, c3, rfl, hc3⟩ := (o3.reads uEnc).form hln; obtain ⟨X3, hzX3, h3F, q3⟩ := exposeT (o3.reads uEnc); have zq3 := q3.size; clear o3; refine ⟨_, rfl, ?_⟩)
  have zba3781 := ba3781.size
  replace ba3165 := ba3165.trans (ba3781.mono ba3165.size)
  replace q2 := q2.trans (ba3781.mono q2.size)
  replace ba2341 := ba2341.trans (ba3781.mono ba2341.size)
  replace q1 := q1.trans (ba3781.mono q1.size)
  replace ba1381 := ba1381.trans (ba3781.mono ba1381.size)
  replace ba933 := ba933.trans (ba3781.mono ba933.size)
  replace ra67 := ra67.up ba3781
  replace ba64 := ba64.trans (ba3781.mono ba64.size)
  replace q := q.trans (ba3781.mono q.size)
  have la3833 := ra67.lt
  (refine LL.call (R.call rfl rfl rfl) rfl rfl rfl (dread_any left a3 n c3 (applyS s os) _ (h3F _ q3) hln h) ?_; rintro e Wa3832 ⟨v4, v4', rfl, o4, o4', hd4, ba3829⟩; clear o4' hd4; obtain ⟨X4, hzX4, h4F, q4⟩ := exposeT (o4.reads prEnc); have zq4 := q4.size; clear o4; refine ⟨_, rfl, ?_⟩)
  have zba3829 := ba3829.size
  replace ba3781 := ba3781.trans (ba3829.mono ba3781.size)
  replace q3 := q3.trans (ba3829.mono q3.size)
  replace ba3165 := ba3165.trans (ba3829.mono ba3165.size)
  replace q2 := q2.trans (ba3829.mono q2.size)
  replace ba2341 := ba2341.trans (ba3829.mono ba2341.size)
  replace q1 := q1.trans (ba3829.mono q1.size)
  replace ba1381 := ba1381.trans (ba3829.mono ba1381.size)
  replace ba933 := ba933.trans (ba3829.mono ba933.size)
  replace ra67 := ra67.up ba3829
  replace ba64 := ba64.trans (ba3829.mono ba64.size)
  replace q := q.trans (ba3829.mono q.size)
  refine LL.val (R.move rfl rfl) rfl rfl rfl ?_
  refine LL.val (R.extract rfl rfl rfl) rfl rfl rfl ?_
  refine LL.val (R.extract rfl rfl rfl) rfl rfl rfl ?_
  refine LL.val (R.assign rfl rfl) rfl rfl rfl ?_
  refine LL.val (R.assign rfl rfl) rfl rfl rfl ?_
  refine LL.nilS ?_
  refine CC.seq ?_
  refine CC.region ?_
  refine LL.val (R.move rfl rfl) rfl rfl rfl ?_
  refine LL.val (R.move rfl rfl) rfl rfl rfl ?_
  refine LL.val (R.move rfl rfl) rfl rfl rfl ?_
  refine LL.val (R.move rfl rfl) rfl rfl rfl ?_
  refine LL.val (R.move rfl rfl) rfl rfl rfl ?_
  refine LL.val (R.move rfl rfl) rfl rfl rfl ?_
  have la4681 := ra67.lt
  (refine LL.call (R.call rfl rfl rfl) rfl rfl rfl (hB _ (hvF _ q) _ _ (h1F _ q1) (htF _ q)) ?_; rintro e Wa4680 ⟨pf, bf, rfl, hres, ba4677⟩; have hans := hA hres; clear hres; refine ⟨_, rfl, ?_⟩)
  have zba4677 := ba4677.size
  replace ba3829 := ba3829.trans (ba4677.mono ba3829.size)
  replace q4 := q4.trans (ba4677.mono q4.size)
  replace ba3781 := ba3781.trans (ba4677.mono ba3781.size)
  replace q3 := q3.trans (ba4677.mono q3.size)
  replace ba3165 := ba3165.trans (ba4677.mono ba3165.size)
  replace q2 := q2.trans (ba4677.mono q2.size)
  replace ba2341 := ba2341.trans (ba4677.mono ba2341.size)
  replace q1 := q1.trans (ba4677.mono q1.size)
  replace ba1381 := ba1381.trans (ba4677.mono ba1381.size)
  replace ba933 := ba933.trans (ba4677.mono ba933.size)
  replace ra67 := ra67.up ba4677
  replace ba64 := ba64.trans (ba4677.mono ba64.size)
  replace q := q.trans (ba4677.mono q.size)
  refine LL.val (R.move rfl rfl) rfl rfl rfl ?_
  refine LL.val (R.extract rfl rfl rfl) rfl rfl rfl ?_
  refine LL.val (R.extract rfl rfl rfl) rfl rfl rfl ?_
  refine LL.val (R.extract rfl rfl rfl) rfl rfl rfl ?_
  refine LL.val (R.assign rfl rfl) rfl rfl rfl ?_
  refine LL.val (R.assign rfl rfl) rfl rfl rfl ?_
  refine LL.val (R.assign rfl rfl) rfl rfl rfl ?_
  refine LL.nilS ?_
  refine CC.seq ?_
  refine CC.region ?_
  refine LL.val (R.move rfl rfl) rfl rfl rfl ?_
  refine LL.val (R.move rfl rfl) rfl rfl rfl ?_
  refine LL.val (R.move rfl rfl) rfl rfl rfl ?_
  refine LL.val (R.move rfl rfl) rfl rfl rfl ?_
  refine LL.val (R.move rfl rfl) rfl rfl rfl ?_
  refine LL.val (R.move rfl rfl) rfl rfl rfl ?_
  refine LL.val (R.move rfl rfl) rfl rfl rfl ?_
  have la5753 := ra67.lt
  (refine LL.call (R.call rfl rfl rfl) rfl rfl rfl (holds_any _ _ _ _ key pf bf _ (h2F _ q2) (h4F _ q4) hp1 hp2 hans) ?_; rintro e Wa5752 ⟨rfl, ba5749⟩; refine ⟨_, rfl, ?_⟩)
  have zba5749 := ba5749.size
  replace ba4677 := ba4677.trans (ba5749.mono ba4677.size)
  replace ba3829 := ba3829.trans (ba5749.mono ba3829.size)
  replace q4 := q4.trans (ba5749.mono q4.size)
  replace ba3781 := ba3781.trans (ba5749.mono ba3781.size)
  replace q3 := q3.trans (ba5749.mono q3.size)
  replace ba3165 := ba3165.trans (ba5749.mono ba3165.size)
  replace q2 := q2.trans (ba5749.mono q2.size)
  replace ba2341 := ba2341.trans (ba5749.mono ba2341.size)
  replace q1 := q1.trans (ba5749.mono q1.size)
  replace ba1381 := ba1381.trans (ba5749.mono ba1381.size)
  replace ba933 := ba933.trans (ba5749.mono ba933.size)
  replace ra67 := ra67.up ba5749
  replace ba64 := ba64.trans (ba5749.mono ba64.size)
  replace q := q.trans (ba5749.mono q.size)
  refine LL.val (R.pick rfl rfl rfl) rfl rfl rfl ?_
  refine LL.val (R.move rfl rfl) rfl rfl rfl ?_
  have la5969 := ra67.lt
  (refine LL.call (R.call rfl rfl rfl) rfl rfl rfl (works_any _) ?_; rintro e Wa5968 ⟨rfl, ba5965⟩; refine ⟨_, rfl, ?_⟩)
  have zba5965 := ba5965.size
  replace ba5749 := ba5749.trans (ba5965.mono ba5749.size)
  replace ba4677 := ba4677.trans (ba5965.mono ba4677.size)
  replace ba3829 := ba3829.trans (ba5965.mono ba3829.size)
  replace q4 := q4.trans (ba5965.mono q4.size)
  replace ba3781 := ba3781.trans (ba5965.mono ba3781.size)
  replace q3 := q3.trans (ba5965.mono q3.size)
  replace ba3165 := ba3165.trans (ba5965.mono ba3165.size)
  replace q2 := q2.trans (ba5965.mono q2.size)
  replace ba2341 := ba2341.trans (ba5965.mono ba2341.size)
  replace q1 := q1.trans (ba5965.mono q1.size)
  replace ba1381 := ba1381.trans (ba5965.mono ba1381.size)
  replace ba933 := ba933.trans (ba5965.mono ba933.size)
  replace ra67 := ra67.up ba5965
  replace ba64 := ba64.trans (ba5965.mono ba64.size)
  replace q := q.trans (ba5965.mono q.size)
  refine LL.val (R.pick rfl rfl rfl) rfl rfl rfl ?_
  refine LL.val (R.assign rfl rfl) rfl rfl rfl ?_
  refine LL.nilS ?_
  refine CC.ret ?_
  refine EE.ret _ rfl rfl ?_
  exact ⟨rfl, q⟩
theorem holds_swapD (left n k p key M ct c : Nat) (z : Int) (a at' : Option Addr) (s ts : List Nat) (w : World) (hv : ReadsT uE 1 w (.slice a n c) s) (hn : s.length = n) (hl : n ≤ 56) (ht : ReadsT yE 1 w (.slice at' M ct) ts) (hM : ts.length = M) (hM3 : M ≤ 300) (hrow : ¬ noRow left s.length) (hset : setP left s) (hz : z = 3) : Calls Try.prog 7 #[.int .u64 (left : Int), .slice a n c, .int .i64 z, .agg #[.int .u64 (k : Int), .int .u64 (p : Int)], .int .u64 (key : Int), .slice at' M ct] w fun e w' => e = .returned (.bool true) ∧ Below w.heap.size w w' := by
  have q := Below.refl w.heap.size w
  have hvF : ∀ X, Below w.heap.size w X → ReadsT uE 1 X (.slice a n c) s := fun X b => hv.up b
  have htF : ∀ X, Below w.heap.size w X → ReadsT yE 1 X (.slice at' M ct) ts := fun X b => ht.up b
  have h : n ≤ 1048576 := by omega
  have hck : checkF left s = 0 := by unfold checkF; rw [if_neg hrow, if_pos hset]
  have hr : rowOk left n := by rw [← hn]; exact noRow_not hrow
  clear hv ht
  subst hz
  obtain ⟨⟨cd, os⟩, eT⟩ : ∃ r, swapF left s k p = r := ⟨_, rfl⟩
  by_cases hcd : cd = 0
  case neg =>
    clear hrow hset hr
    refine X.fn Try.func7 rfl (n := 107) rfl rfl ?_
    refine CC.seq ?_
    refine CC.region ?_
    refine LL.box [Value.int IntKind.u64 ↑k, Value.int IntKind.u64 ↑p] rfl rfl rfl rfl rfl ?_
    intro W30 g31 eg31 r32 z33 b29
    replace q := q.trans (b29.mono q.size)
    refine LL.val (R.assign rfl rfl) rfl rfl rfl ?_
    refine LL.nilS ?_
    refine CC.seq ?_
    refine CC.seq ?_
    refine CC.region ?_
    refine LL.val (R.move rfl rfl) rfl rfl rfl ?_
    refine LL.val (R.len rfl rfl rfl rfl) rfl rfl rfl ?_
    refine LL.val (R.gtF rfl rfl rfl (by omega)) rfl rfl rfl ?_
    refine LL.val (R.move rfl rfl) rfl rfl rfl ?_
    refine LL.val (R.move rfl rfl) rfl rfl rfl ?_
    refine LL.val (R.len rfl rfl rfl rfl) rfl rfl rfl ?_
    refine LL.val (R.gtF rfl rfl rfl (by omega)) rfl rfl rfl ?_
    refine LL.val (R.pick rfl rfl rfl) rfl rfl rfl ?_
    refine LL.val (R.move rfl rfl) rfl rfl rfl ?_
    refine LL.val (R.move rfl rfl) rfl rfl rfl ?_
    refine LL.val (R.move rfl rfl) rfl rfl rfl ?_
    have l422 := r32.lt
    (refine LL.call (R.call rfl rfl rfl) rfl rfl rfl (dcheck_any left n _ s _ (hvF _ q) hn h) ?_; rw [hck]; rintro e W421 ⟨rfl, b418⟩; refine ⟨_, rfl, ?_⟩)
    have zb418 := b418.size
    replace r32 := r32.up b418
    replace b29 := b29.trans (b418.mono b29.size)
    replace q := q.trans (b418.mono q.size)
    refine LL.val (R.neF rfl rfl rfl (by omega)) rfl rfl rfl ?_
    refine LL.val (R.pick rfl rfl rfl) rfl rfl rfl ?_
    refine LL.nilS ?_
    refine CC.no rfl ?_
    refine CC.skip ?_
    refine EE.thenN ?_
    refine CC.seq ?_
    refine CC.region ?_
    refine LL.val (R.assign rfl rfl) rfl rfl rfl ?_
    refine LL.nilS ?_
    refine CC.seq ?_
    refine CC.region ?_
    refine LL.val (R.move rfl rfl) rfl rfl rfl ?_
    refine LL.val (R.move rfl rfl) rfl rfl rfl ?_
    refine LL.val (R.load rfl rfl (I.ldNc (vs := [Value.int IntKind.u64 ↑k, Value.int IntKind.u64 ↑p]) (RowL.cells r32 rfl) (by rfl) (by rfl))) rfl rfl rfl ?_
    have l630 := r32.lt
    (refine LL.call (R.call rfl rfl rfl) rfl rfl rfl (dput_any left n k p _ s _ (hvF _ q) hn h) ?_; rintro e W629 ⟨vo0, rfl, oo0, b626⟩; clear oo0; refine ⟨_, rfl, ?_⟩)
    have zb626 := b626.size
    replace b418 := b418.trans (b626.mono b418.size)
    replace r32 := r32.up b626
    replace b29 := b29.trans (b626.mono b29.size)
    replace q := q.trans (b626.mono q.size)
    refine LL.val (R.move rfl rfl) rfl rfl rfl ?_
    refine LL.val (R.extract rfl rfl rfl) rfl rfl rfl ?_
    refine LL.val (R.extract rfl rfl rfl) rfl rfl rfl ?_
    refine LL.val (R.assign rfl rfl) rfl rfl rfl ?_
    refine LL.val (R.assign rfl rfl) rfl rfl rfl ?_
    refine LL.nilS ?_
    refine CC.seq ?_
    refine CC.seq ?_
    refine CC.region ?_
    refine LL.val (R.move rfl rfl) rfl rfl rfl ?_
    refine LL.nilS ?_
    refine CC.block ?_
    refine CC.seq ?_
    refine CC.region ?_
    refine LL.val (R.eqF rfl rfl rfl (by omega)) rfl rfl rfl ?_
    refine LL.val (R.assign rfl rfl) rfl rfl rfl ?_
    refine LL.nilS ?_
    refine CC.no rfl ?_
    refine CC.seq ?_
    refine CC.region ?_
    refine LL.val (R.eqF rfl rfl rfl (by omega)) rfl rfl rfl ?_
    refine LL.val (R.assign rfl rfl) rfl rfl rfl ?_
    refine LL.nilS ?_
    refine CC.no rfl ?_
    refine CC.seq ?_
    refine CC.region ?_
    refine LL.val (R.move rfl rfl) rfl rfl rfl ?_
    refine LL.val (R.move rfl rfl) rfl rfl rfl ?_
    refine LL.val (R.load rfl rfl (I.ldNc (vs := [Value.int IntKind.u64 ↑k, Value.int IntKind.u64 ↑p]) (RowL.cells r32 rfl) (by rfl) (by rfl))) rfl rfl rfl ?_
    have l1070 := r32.lt
    (refine LL.call (R.call rfl rfl rfl) rfl rfl rfl (dswap_any left n k p _ s _ (hvF _ q) hn h) ?_; rw [eT]; rintro e W1069 ⟨vo, rfl, oo, b1066⟩; clear oo; refine ⟨_, rfl, ?_⟩)
    have zb1066 := b1066.size
    replace b626 := b626.trans (b1066.mono b626.size)
    replace b418 := b418.trans (b1066.mono b418.size)
    replace r32 := r32.up b1066
    replace b29 := b29.trans (b1066.mono b29.size)
    replace q := q.trans (b1066.mono q.size)
    refine LL.val (R.move rfl rfl) rfl rfl rfl ?_
    refine LL.val (R.extract rfl rfl rfl) rfl rfl rfl ?_
    refine LL.val (R.extract rfl rfl rfl) rfl rfl rfl ?_
    refine LL.val (R.assign rfl rfl) rfl rfl rfl ?_
    refine LL.val (R.assign rfl rfl) rfl rfl rfl ?_
    refine LL.nilS ?_
    refine CC.seq ?_
    refine CC.region ?_
    refine LL.val (R.move rfl rfl) rfl rfl rfl ?_
    refine LL.val (R.eqT rfl rfl rfl (by omega)) rfl rfl rfl ?_
    refine LL.nilS ?_
    refine CC.yes rfl ?_
    refine CC.region ?_
    refine LL.val (R.assign rfl rfl) rfl rfl rfl ?_
    refine LL.nil ?_
    refine EE.inN ?_
    refine EE.thenN ?_
    refine CC.seq ?_
    refine CC.seq ?_
    refine CC.region ?_
    refine LL.val (R.move rfl rfl) rfl rfl rfl ?_
    refine LL.val (R.neT rfl rfl rfl (by omega)) rfl rfl rfl ?_
    refine LL.nilS ?_
    refine CC.yes rfl ?_
    refine CC.seq ?_
    refine CC.region ?_
    have l1422 := r32.lt
    (refine LL.call (R.call rfl rfl rfl) rfl rfl rfl (works_any _) ?_; rintro e W1421 ⟨rfl, b1418⟩; refine ⟨_, rfl, ?_⟩)
    have zb1418 := b1418.size
    replace b1066 := b1066.trans (b1418.mono b1066.size)
    replace b626 := b626.trans (b1418.mono b626.size)
    replace b418 := b418.trans (b1418.mono b418.size)
    replace r32 := r32.up b1418
    replace b29 := b29.trans (b1418.mono b29.size)
    replace q := q.trans (b1418.mono q.size)
    refine LL.val (R.assign rfl rfl) rfl rfl rfl ?_
    refine LL.nilS ?_
    refine CC.ret ?_
    refine EE.thenR ?_
    refine EE.ret _ rfl rfl ?_
    exact ⟨rfl, q⟩
  subst hcd
  obtain ⟨m, i, hs, hi, hp0, hpl, hd, hos⟩ := swapF_0 hrow hset (by rw [eT])
  rw [eT] at hos
  dsimp only at hos
  have hlen : os.length = 1 := by rw [hos]; rfl
  have h0 : ∀ p ∈ os, 0 ≤ p.1 := fun y hy => by
    rw [hos] at hy
    rw [List.mem_singleton.1 hy]
    exact Int.natCast_nonneg _
  have hlt := hs.lt
  have hT : ∀ c, c ≤ os.length → ∀ j, j < n / 2 → keyN (applyS s (os.take c)) j = (fun j _ => keyN s j) j c ∧ ptrN (applyS s (os.take c)) j = swP s i p j c := fun c hc j hj => by
    rw [hos]
    exact sw_time (by omega) c (by omega) j (by rw [hn]; exact hj)
  have hH := sw_histD (key := key) hs (show n / 2 = s.length / 2 by rw [hn]) hi hp0 hpl hd
  have hB := fun (W : World) (hv : ReadsT uE 1 W (.slice a n c) s) (al : Option Addr) (cl : Nat) (ho : ReadsT pE 2 W (.slice al os.length cl) os) (ht : ReadsT yE 1 W (.slice at' M ct) ts) => between_D (must := ∃ x, x < m ∧ keyN s x = key) hv hn hr ho rfl (by omega) h0 ht hM hM3 hH hT (fun ⟨x, h1, h2⟩ => ⟨x, h1, h2, by omega⟩)
  have hA := fun {pf : Nat} {bf : Bool} hres => ans_sw (key := key) (v := pf) (b := bf) hs hi hp0 hpl hd hres
  rw [← hos] at hA
  have hln : (applyS s os).length = n := by rw [applyS_len]; exact hn
  have hp1 := len_pairs (left := left) hn h
  have hp2 := len_pairs (left := left) hln h
  obtain ⟨N, hN⟩ : ∃ N, os.length = N := ⟨_, rfl⟩
  have hN9 : N ≤ 1000 := by have := hs.lt; omega
  rw [hN] at hB
  clear hT hH hos hlen hset hrow hs
  refine X.fn Try.func7 rfl (n := 107) rfl rfl ?_
  refine CC.seq ?_
  refine CC.region ?_
  refine LL.box [Value.int IntKind.u64 ↑k, Value.int IntKind.u64 ↑p] rfl rfl rfl rfl rfl ?_
  intro Wa65 ga66 ega66 ra67 za68 ba64
  replace q := q.trans (ba64.mono q.size)
  refine LL.val (R.assign rfl rfl) rfl rfl rfl ?_
  refine LL.nilS ?_
  refine CC.seq ?_
  refine CC.seq ?_
  refine CC.region ?_
  refine LL.val (R.move rfl rfl) rfl rfl rfl ?_
  refine LL.val (R.len rfl rfl rfl rfl) rfl rfl rfl ?_
  refine LL.val (R.gtF rfl rfl rfl (by omega)) rfl rfl rfl ?_
  refine LL.val (R.move rfl rfl) rfl rfl rfl ?_
  refine LL.val (R.move rfl rfl) rfl rfl rfl ?_
  refine LL.val (R.len rfl rfl rfl rfl) rfl rfl rfl ?_
  refine LL.val (R.gtF rfl rfl rfl (by omega)) rfl rfl rfl ?_
  refine LL.val (R.pick rfl rfl rfl) rfl rfl rfl ?_
  refine LL.val (R.move rfl rfl) rfl rfl rfl ?_
  refine LL.val (R.move rfl rfl) rfl rfl rfl ?_
  refine LL.val (R.move rfl rfl) rfl rfl rfl ?_
  have la937 := ra67.lt
  (refine LL.call (R.call rfl rfl rfl) rfl rfl rfl (dcheck_any left n _ s _ (hvF _ q) hn h) ?_; rw [hck]; rintro e Wa936 ⟨rfl, ba933⟩; refine ⟨_, rfl, ?_⟩)
  have zba933 := ba933.size
  replace ra67 := ra67.up ba933
  replace ba64 := ba64.trans (ba933.mono ba64.size)
  replace q := q.trans (ba933.mono q.size)
  refine LL.val (R.neF rfl rfl rfl (by omega)) rfl rfl rfl ?_
  refine LL.val (R.pick rfl rfl rfl) rfl rfl rfl ?_
  refine LL.nilS ?_
  refine CC.no rfl ?_
  refine CC.skip ?_
  refine EE.thenN ?_
  refine CC.seq ?_
  refine CC.region ?_
  refine LL.val (R.assign rfl rfl) rfl rfl rfl ?_
  refine LL.nilS ?_
  refine CC.seq ?_
  refine CC.region ?_
  refine LL.val (R.move rfl rfl) rfl rfl rfl ?_
  refine LL.val (R.move rfl rfl) rfl rfl rfl ?_
  refine LL.val (R.load rfl rfl (I.ldNc (vs := [Value.int IntKind.u64 ↑k, Value.int IntKind.u64 ↑p]) (RowL.cells ra67 rfl) (by rfl) (by rfl))) rfl rfl rfl ?_
  have la1385 := ra67.lt
  (refine LL.call (R.call rfl rfl rfl) rfl rfl rfl (dput_any left n k p _ s _ (hvF _ q) hn h) ?_; rintro e Wa1384 ⟨vo0, rfl, oo0, ba1381⟩; clear oo0; refine ⟨_, rfl, ?_⟩)
  have zba1381 := ba1381.size
  replace ba933 := ba933.trans (ba1381.mono ba933.size)
  replace ra67 := ra67.up ba1381
  replace ba64 := ba64.trans (ba1381.mono ba64.size)
  replace q := q.trans (ba1381.mono q.size)
  refine LL.val (R.move rfl rfl) rfl rfl rfl ?_
  refine LL.val (R.extract rfl rfl rfl) rfl rfl rfl ?_
  refine LL.val (R.extract rfl rfl rfl) rfl rfl rfl ?_
  refine LL.val (R.assign rfl rfl) rfl rfl rfl ?_
  refine LL.val (R.assign rfl rfl) rfl rfl rfl ?_
  refine LL.nilS ?_
  refine CC.seq ?_
  refine CC.seq ?_
  refine CC.region ?_
  refine LL.val (R.move rfl rfl) rfl rfl rfl ?_
  refine LL.nilS ?_
  refine CC.block ?_
  refine CC.seq ?_
  refine CC.region ?_
  refine LL.val (R.eqF rfl rfl rfl (by omega)) rfl rfl rfl ?_
  refine LL.val (R.assign rfl rfl) rfl rfl rfl ?_
  refine LL.nilS ?_
  refine CC.no rfl ?_
  refine CC.seq ?_
  refine CC.region ?_
  refine LL.val (R.eqF rfl rfl rfl (by omega)) rfl rfl rfl ?_
  refine LL.val (R.assign rfl rfl) rfl rfl rfl ?_
  refine LL.nilS ?_
  refine CC.no rfl ?_
  refine CC.seq ?_
  refine CC.region ?_
  refine LL.val (R.move rfl rfl) rfl rfl rfl ?_
  refine LL.val (R.move rfl rfl) rfl rfl rfl ?_
  refine LL.val (R.load rfl rfl (I.ldNc (vs := [Value.int IntKind.u64 ↑k, Value.int IntKind.u64 ↑p]) (RowL.cells ra67 rfl) (by rfl) (by rfl))) rfl rfl rfl ?_
  have la2345 := ra67.lt
  (refine LL.call (R.call rfl rfl rfl) rfl rfl rfl (dswap_any left n k p _ s _ (hvF _ q) hn h) ?_; rw [eT]; rintro e Wa2344 ⟨vo, rfl, oo, ba2341⟩; dsimp only at oo; obtain ⟨al, cl, rfl, hcl⟩ := (oo.reads pEnc).form hN; obtain ⟨X1, hzX1, h1F, q1⟩ := exposeT (oo.reads pEnc); have zq1 := q1.size; clear oo; refine ⟨_, rfl, ?_⟩)
  have zba2341 := ba2341.size
  replace ba1381 := ba1381.trans (ba2341.mono ba1381.size)
  replace ba933 := ba933.trans (ba2341.mono ba933.size)
  replace ra67 := ra67.up ba2341
  replace ba64 := ba64.trans (ba2341.mono ba64.size)
  replace q := q.trans (ba2341.mono q.size)
  refine LL.val (R.move rfl rfl) rfl rfl rfl ?_
  refine LL.val (R.extract rfl rfl rfl) rfl rfl rfl ?_
  refine LL.val (R.extract rfl rfl rfl) rfl rfl rfl ?_
  refine LL.val (R.assign rfl rfl) rfl rfl rfl ?_
  refine LL.val (R.assign rfl rfl) rfl rfl rfl ?_
  refine LL.nilS ?_
  refine CC.seq ?_
  refine CC.region ?_
  refine LL.val (R.move rfl rfl) rfl rfl rfl ?_
  refine LL.val (R.eqT rfl rfl rfl (by omega)) rfl rfl rfl ?_
  refine LL.nilS ?_
  refine CC.yes rfl ?_
  refine CC.region ?_
  refine LL.val (R.assign rfl rfl) rfl rfl rfl ?_
  refine LL.nil ?_
  refine EE.inN ?_
  refine EE.thenN ?_
  refine CC.seq ?_
  refine CC.seq ?_
  refine CC.region ?_
  refine LL.val (R.move rfl rfl) rfl rfl rfl ?_
  refine LL.val (R.neF rfl rfl rfl (by omega)) rfl rfl rfl ?_
  refine LL.nilS ?_
  refine CC.no rfl ?_
  refine CC.skip ?_
  refine EE.thenN ?_
  refine CC.seq ?_
  refine CC.region ?_
  refine LL.val (R.move rfl rfl) rfl rfl rfl ?_
  refine LL.val (R.move rfl rfl) rfl rfl rfl ?_
  have la3241 := ra67.lt
  (refine LL.call (R.call rfl rfl rfl) rfl rfl rfl (dread_any left a n c s _ (hvF _ q) hn h) ?_; rintro e Wa3240 ⟨v1, v1', rfl, o1, o1', hd1, ba3237⟩; clear o1' hd1; obtain ⟨X2, hzX2, h2F, q2⟩ := exposeT (o1.reads prEnc); have zq2 := q2.size; clear o1; refine ⟨_, rfl, ?_⟩)
  have zba3237 := ba3237.size
  replace ba2341 := ba2341.trans (ba3237.mono ba2341.size)
  replace q1 := q1.trans (ba3237.mono q1.size)
  replace ba1381 := ba1381.trans (ba3237.mono ba1381.size)
  replace ba933 := ba933.trans (ba3237.mono ba933.size)
  replace ra67 := ra67.up ba3237
  replace ba64 := ba64.trans (ba3237.mono ba64.size)
  replace q := q.trans (ba3237.mono q.size)
  refine LL.val (R.move rfl rfl) rfl rfl rfl ?_
  refine LL.val (R.extract rfl rfl rfl) rfl rfl rfl ?_
  refine LL.val (R.extract rfl rfl rfl) rfl rfl rfl ?_
  refine LL.val (R.assign rfl rfl) rfl rfl rfl ?_
  refine LL.val (R.assign rfl rfl) rfl rfl rfl ?_
  refine LL.nilS ?_
  refine CC.seq ?_
  refine CC.region ?_
  refine LL.val (R.move rfl rfl) rfl rfl rfl ?_
  refine LL.val (R.move rfl rfl) rfl rfl rfl ?_
  refine LL.val (R.move rfl rfl) rfl rfl rfl ?_
  have la3857 := ra67.lt
  (refine LL.call (R.call rfl rfl rfl) rfl rfl rfl (dapply_any n _ _ s os _ (hvF _ q) hn h (h1F _ q1) (by omega) h0) ?_; rintro e Wa3856 ⟨va, rfl, o3, ba3853⟩; obtain ⟨a3, c3, rfl, hc3⟩ := (o3.reads uEnc).form hln; obtain ⟨X3, hzX3, h3F, q3⟩ := exposeT (o3.reads uEnc); have zq3 := q3.size; clear o3; refine ⟨_, rfl, ?_⟩)
  have zba3853 := ba3853.size
  replace ba3237 := ba3237.trans (ba3853.mono ba3237.size)
  replace q2 := q2.trans (ba3853.mono q2.size)
  replace ba2341 := ba2341.trans (ba3853.mono ba2341.size)
  replace q1 := q1.trans (ba3853.mono q1.size)
  replace ba1381 := ba1381.trans (ba3853.mono ba1381.size)
  replace ba933 := ba933.trans (ba3853.mono ba933.size)
  replace ra67 := ra67.up ba3853
  replace ba64 := ba64.trans (ba3853.mono ba64.size)
  replace q := q.trans (ba3853.mono q.size)
  have la3905 := ra67.lt
  (refine LL.call (R.call rfl rfl rfl) rfl rfl rfl (dread_any left a3 n c3 (applyS s os) _ (h3F _ q3) hln h) ?_; rintro e Wa3904 ⟨v4, v4', rfl, o4, o4', hd4, ba3901⟩; clear o4' hd4; obtain ⟨X4, hzX4, h4F, q4⟩ := exposeT (o4.reads prEnc); have zq4 := q4.size; clear o4; refine ⟨_, rfl, ?_⟩)
  have zba3901 := ba3901.size
  replace ba3853 := ba3853.trans (ba3901.mono ba3853.size)
  replace q3 := q3.trans (ba3901.mono q3.size)
  replace ba3237 := ba3237.trans (ba3901.mono ba3237.size)
  replace q2 := q2.trans (ba3901.mono q2.size)
  replace ba2341 := ba2341.trans (ba3901.mono ba2341.size)
  replace q1 := q1.trans (ba3901.mono q1.size)
  replace ba1381 := ba1381.trans (ba3901.mono ba1381.size)
  replace ba933 := ba933.trans (ba3901.mono ba933.size)
  replace ra67 := ra67.up ba3901
  replace ba64 := ba64.trans (ba3901.mono ba64.size)
  replace q := q.trans (ba3901.mono q.size)
  refine LL.val (R.move rfl rfl) rfl rfl rfl ?_
  refine LL.val (R.extract rfl rfl rfl) rfl rfl rfl ?_
  refine LL.val (R.extract rfl rfl rfl) rfl rfl rfl ?_
  refine LL.val (R.assign rfl rfl) rfl rfl rfl ?_
  refine LL.val (R.assign rfl rfl) rfl rfl rfl ?_
  refine LL.nilS ?_
  refine CC.seq ?_
  refine CC.region ?_
  refine LL.val (R.move rfl rfl) rfl rfl rfl ?_
  refine LL.val (R.move rfl rfl) rfl rfl rfl ?_
  refine LL.val (R.move rfl rfl) rfl rfl rfl ?_
  refine LL.val (R.move rfl rfl) rfl rfl rfl ?_
  refine LL.val (R.move rfl rfl) rfl rfl rfl ?_
  refine LL.val (R.move rfl rfl) rfl rfl rfl ?_
  have la4753 := ra67.lt
  (refine LL.call (R.call rfl rfl rfl) rfl rfl rfl (hB _ (hvF _ q) _ _ (h1F _ q1) (htF _ q)) ?_; rintro e Wa4752 ⟨pf, bf, rfl, hres, ba4749⟩; have hans := hA hres; clear hres; refine ⟨_, rfl, ?_⟩)
  have zba4749 := ba4749.size
  replace ba3901 := ba3901.trans (ba4749.mono ba3901.size)
  replace q4 := q4.trans (ba4749.mono q4.size)
  replace ba3853 := ba3853.trans (ba4749.mono ba3853.size)
  replace q3 := q3.trans (ba4749.mono q3.size)
  replace ba3237 := ba3237.trans (ba4749.mono ba3237.size)
  replace q2 := q2.trans (ba4749.mono q2.size)
  replace ba2341 := ba2341.trans (ba4749.mono ba2341.size)
  replace q1 := q1.trans (ba4749.mono q1.size)
  replace ba1381 := ba1381.trans (ba4749.mono ba1381.size)
  replace ba933 := ba933.trans (ba4749.mono ba933.size)
  replace ra67 := ra67.up ba4749
  replace ba64 := ba64.trans (ba4749.mono ba64.size)
  replace q := q.trans (ba4749.mono q.size)
  refine LL.val (R.move rfl rfl) rfl rfl rfl ?_
  refine LL.val (R.extract rfl rfl rfl) rfl rfl rfl ?_
  refine LL.val (R.extract rfl rfl rfl) rfl rfl rfl ?_
  refine LL.val (R.extract rfl rfl rfl) rfl rfl rfl ?_
  refine LL.val (R.assign rfl rfl) rfl rfl rfl ?_
  refine LL.val (R.assign rfl rfl) rfl rfl rfl ?_
  refine LL.val (R.assign rfl rfl) rfl rfl rfl ?_
  refine LL.nilS ?_
  refine CC.seq ?_
  refine CC.region ?_
  refine LL.val (R.move rfl rfl) rfl rfl rfl ?_
  refine LL.val (R.move rfl rfl) rfl rfl rfl ?_
  refine LL.val (R.move rfl rfl) rfl rfl rfl ?_
  refine LL.val (R.move rfl rfl) rfl rfl rfl ?_
  refine LL.val (R.move rfl rfl) rfl rfl rfl ?_
  refine LL.val (R.move rfl rfl) rfl rfl rfl ?_
  refine LL.val (R.move rfl rfl) rfl rfl rfl ?_
  have la5825 := ra67.lt
  (refine LL.call (R.call rfl rfl rfl) rfl rfl rfl (holds_any _ _ _ _ key pf bf _ (h2F _ q2) (h4F _ q4) hp1 hp2 hans) ?_; rintro e Wa5824 ⟨rfl, ba5821⟩; refine ⟨_, rfl, ?_⟩)
  have zba5821 := ba5821.size
  replace ba4749 := ba4749.trans (ba5821.mono ba4749.size)
  replace ba3901 := ba3901.trans (ba5821.mono ba3901.size)
  replace q4 := q4.trans (ba5821.mono q4.size)
  replace ba3853 := ba3853.trans (ba5821.mono ba3853.size)
  replace q3 := q3.trans (ba5821.mono q3.size)
  replace ba3237 := ba3237.trans (ba5821.mono ba3237.size)
  replace q2 := q2.trans (ba5821.mono q2.size)
  replace ba2341 := ba2341.trans (ba5821.mono ba2341.size)
  replace q1 := q1.trans (ba5821.mono q1.size)
  replace ba1381 := ba1381.trans (ba5821.mono ba1381.size)
  replace ba933 := ba933.trans (ba5821.mono ba933.size)
  replace ra67 := ra67.up ba5821
  replace ba64 := ba64.trans (ba5821.mono ba64.size)
  replace q := q.trans (ba5821.mono q.size)
  refine LL.val (R.pick rfl rfl rfl) rfl rfl rfl ?_
  refine LL.val (R.move rfl rfl) rfl rfl rfl ?_
  have la6041 := ra67.lt
  (refine LL.call (R.call rfl rfl rfl) rfl rfl rfl (works_any _) ?_; rintro e Wa6040 ⟨rfl, ba6037⟩; refine ⟨_, rfl, ?_⟩)
  have zba6037 := ba6037.size
  replace ba5821 := ba5821.trans (ba6037.mono ba5821.size)
  replace ba4749 := ba4749.trans (ba6037.mono ba4749.size)
  replace ba3901 := ba3901.trans (ba6037.mono ba3901.size)
  replace q4 := q4.trans (ba6037.mono q4.size)
  replace ba3853 := ba3853.trans (ba6037.mono ba3853.size)
  replace q3 := q3.trans (ba6037.mono q3.size)
  replace ba3237 := ba3237.trans (ba6037.mono ba3237.size)
  replace q2 := q2.trans (ba6037.mono q2.size)
  replace ba2341 := ba2341.trans (ba6037.mono ba2341.size)
  replace q1 := q1.trans (ba6037.mono q1.size)
  replace ba1381 := ba1381.trans (ba6037.mono ba1381.size)
  replace ba933 := ba933.trans (ba6037.mono ba933.size)
  replace ra67 := ra67.up ba6037
  replace ba64 := ba64.trans (ba6037.mono ba64.size)
  replace q := q.trans (ba6037.mono q.size)
  refine LL.val (R.pick rfl rfl rfl) rfl rfl rfl ?_
  refine LL.val (R.assign rfl rfl) rfl rfl rfl ?_
  refine LL.nilS ?_
  refine CC.ret ?_
  refine EE.ret _ rfl rfl ?_
  exact ⟨rfl, q⟩
end Go.Proofs.Ytloflmkolnediaa

/- scan: ScanHolds: all cases. -/
namespace Go.Proofs.Ytloflmkolnediaa
set_option linter.unusedVariables false
set_option linter.unusedSimpArgs false
open Go.RowKit Go.Shelf
set_option maxRecDepth 100000
set_option maxHeartbeats 16000000
theorem holds_walk (left k p key : Nat) (z : Int) (v v5 : Value) (s ts : List Nat) (w : World) (hv : ReadsT uE 1 w v s) (ht : ReadsT yE 1 w v5 ts) : Calls Try.prog 7 #[.int .u64 (left : Int), v, .int .i64 z, .agg #[.int .u64 (k : Int), .int .u64 (p : Int)], .int .u64 (key : Int), v5] w fun e w' => e = .returned (.bool true) ∧ Below w.heap.size w w' := by
  have q := Below.refl w.heap.size w
  obtain ⟨n, hn⟩ : ∃ n, s.length = n := ⟨_, rfl⟩
  obtain ⟨M, hM⟩ : ∃ n, ts.length = n := ⟨_, rfl⟩
  obtain ⟨a, c, rfl, hc⟩ := hv.form hn
  obtain ⟨a5, c5, rfl, hc5⟩ := ht.form hM
  by_cases hl : n ≤ 56
  case neg =>
    clear hv ht
    refine X.fn Try.func7 rfl (n := 107) rfl rfl ?_
    refine CC.seq ?_
    refine CC.region ?_
    refine LL.box [Value.int IntKind.u64 ↑k, Value.int IntKind.u64 ↑p] rfl rfl rfl rfl rfl ?_
    intro W9 g10 eg10 r11 z12 b8
    replace q := q.trans (b8.mono q.size)
    refine LL.val (R.assign rfl rfl) rfl rfl rfl ?_
    refine LL.nilS ?_
    refine CC.seq ?_
    refine CC.seq ?_
    refine CC.region ?_
    refine LL.val (R.move rfl rfl) rfl rfl rfl ?_
    refine LL.val (R.len rfl rfl rfl rfl) rfl rfl rfl ?_
    refine LL.val (R.gtT rfl rfl rfl (by omega)) rfl rfl rfl ?_
    refine LL.val (R.move rfl rfl) rfl rfl rfl ?_
    refine LL.skip rfl rfl ?_
    refine LL.skip rfl rfl ?_
    refine LL.skip rfl rfl ?_
    refine LL.val (R.pick rfl rfl rfl) rfl rfl rfl ?_
    refine LL.val (R.move rfl rfl) rfl rfl rfl ?_
    refine LL.skip rfl rfl ?_
    refine LL.skip rfl rfl ?_
    refine LL.skip rfl rfl ?_
    refine LL.skip rfl rfl ?_
    refine LL.val (R.pick rfl rfl rfl) rfl rfl rfl ?_
    refine LL.nilS ?_
    refine CC.yes rfl ?_
    refine CC.seq ?_
    refine CC.region ?_
    have l81 := r11.lt
    (refine LL.call (R.call rfl rfl rfl) rfl rfl rfl (works_any _) ?_; rintro e W80 ⟨rfl, b77⟩; refine ⟨_, rfl, ?_⟩)
    have zb77 := b77.size
    replace r11 := r11.up b77
    replace b8 := b8.trans (b77.mono b8.size)
    replace q := q.trans (b77.mono q.size)
    refine LL.val (R.assign rfl rfl) rfl rfl rfl ?_
    refine LL.nilS ?_
    refine CC.ret ?_
    refine EE.thenR ?_
    refine EE.ret _ rfl rfl ?_
    exact ⟨rfl, q⟩
  by_cases hM3 : M ≤ 300
  case neg =>
    clear hv ht
    refine X.fn Try.func7 rfl (n := 107) rfl rfl ?_
    refine CC.seq ?_
    refine CC.region ?_
    refine LL.box [Value.int IntKind.u64 ↑k, Value.int IntKind.u64 ↑p] rfl rfl rfl rfl rfl ?_
    intro Wa9 ga10 ega10 ra11 za12 ba8
    replace q := q.trans (ba8.mono q.size)
    refine LL.val (R.assign rfl rfl) rfl rfl rfl ?_
    refine LL.nilS ?_
    refine CC.seq ?_
    refine CC.seq ?_
    refine CC.region ?_
    refine LL.val (R.move rfl rfl) rfl rfl rfl ?_
    refine LL.val (R.len rfl rfl rfl rfl) rfl rfl rfl ?_
    refine LL.val (R.gtF rfl rfl rfl (by omega)) rfl rfl rfl ?_
    refine LL.val (R.move rfl rfl) rfl rfl rfl ?_
    refine LL.val (R.move rfl rfl) rfl rfl rfl ?_
    refine LL.val (R.len rfl rfl rfl rfl) rfl rfl rfl ?_
    refine LL.val (R.gtT rfl rfl rfl (by omega)) rfl rfl rfl ?_
    refine LL.val (R.pick rfl rfl rfl) rfl rfl rfl ?_
    refine LL.val (R.move rfl rfl) rfl rfl rfl ?_
    refine LL.skip rfl rfl ?_
    refine LL.skip rfl rfl ?_
    refine LL.skip rfl rfl ?_
    refine LL.skip rfl rfl ?_
    refine LL.val (R.pick rfl rfl rfl) rfl rfl rfl ?_
    refine LL.nilS ?_
    refine CC.yes rfl ?_
    refine CC.seq ?_
    refine CC.region ?_
    have la105 := ra11.lt
    (refine LL.call (R.call rfl rfl rfl) rfl rfl rfl (works_any _) ?_; rintro e Wa104 ⟨rfl, ba101⟩; refine ⟨_, rfl, ?_⟩)
    have zba101 := ba101.size
    replace ra11 := ra11.up ba101
    replace ba8 := ba8.trans (ba101.mono ba8.size)
    replace q := q.trans (ba101.mono q.size)
    refine LL.val (R.assign rfl rfl) rfl rfl rfl ?_
    refine LL.nilS ?_
    refine CC.ret ?_
    refine EE.thenR ?_
    refine EE.ret _ rfl rfl ?_
    exact ⟨rfl, q⟩
  by_cases hck : checkF left s = 0
  case neg =>
    have hvF : ∀ X, Below w.heap.size w X → ReadsT uE 1 X (.slice a n c) s := fun X b => hv.up b
    clear hv ht
    refine X.fn Try.func7 rfl (n := 107) rfl rfl ?_
    refine CC.seq ?_
    refine CC.region ?_
    refine LL.box [Value.int IntKind.u64 ↑k, Value.int IntKind.u64 ↑p] rfl rfl rfl rfl rfl ?_
    intro Wb16 gb17 egb17 rb18 zb19 bb15
    replace q := q.trans (bb15.mono q.size)
    refine LL.val (R.assign rfl rfl) rfl rfl rfl ?_
    refine LL.nilS ?_
    refine CC.seq ?_
    refine CC.seq ?_
    refine CC.region ?_
    refine LL.val (R.move rfl rfl) rfl rfl rfl ?_
    refine LL.val (R.len rfl rfl rfl rfl) rfl rfl rfl ?_
    refine LL.val (R.gtF rfl rfl rfl (by omega)) rfl rfl rfl ?_
    refine LL.val (R.move rfl rfl) rfl rfl rfl ?_
    refine LL.val (R.move rfl rfl) rfl rfl rfl ?_
    refine LL.val (R.len rfl rfl rfl rfl) rfl rfl rfl ?_
    refine LL.val (R.gtF rfl rfl rfl (by omega)) rfl rfl rfl ?_
    refine LL.val (R.pick rfl rfl rfl) rfl rfl rfl ?_
    refine LL.val (R.move rfl rfl) rfl rfl rfl ?_
    refine LL.val (R.move rfl rfl) rfl rfl rfl ?_
    refine LL.val (R.move rfl rfl) rfl rfl rfl ?_
    have lb216 := rb18.lt
    (refine LL.call (R.call rfl rfl rfl) rfl rfl rfl (dcheck_any left n _ s _ (hvF _ q) hn (by omega)) ?_; rintro e Wb215 ⟨rfl, bb212⟩; refine ⟨_, rfl, ?_⟩)
    have zbb212 := bb212.size
    replace rb18 := rb18.up bb212
    replace bb15 := bb15.trans (bb212.mono bb15.size)
    replace q := q.trans (bb212.mono q.size)
    refine LL.val (R.neT rfl rfl rfl (by omega)) rfl rfl rfl ?_
    refine LL.val (R.pick rfl rfl rfl) rfl rfl rfl ?_
    refine LL.nilS ?_
    refine CC.yes rfl ?_
    refine CC.seq ?_
    refine CC.region ?_
    have lb264 := rb18.lt
    (refine LL.call (R.call rfl rfl rfl) rfl rfl rfl (works_any _) ?_; rintro e Wb263 ⟨rfl, bb260⟩; refine ⟨_, rfl, ?_⟩)
    have zbb260 := bb260.size
    replace bb212 := bb212.trans (bb260.mono bb212.size)
    replace rb18 := rb18.up bb260
    replace bb15 := bb15.trans (bb260.mono bb15.size)
    replace q := q.trans (bb260.mono q.size)
    refine LL.val (R.assign rfl rfl) rfl rfl rfl ?_
    refine LL.nilS ?_
    refine CC.ret ?_
    refine EE.thenR ?_
    refine EE.ret _ rfl rfl ?_
    exact ⟨rfl, q⟩
  have hrs : ¬ noRow left s.length ∧ setP left s := by
    unfold checkF at hck
    by_cases h1 : noRow left s.length
    · rw [if_pos h1] at hck; cases hck
    · rw [if_neg h1] at hck
      by_cases h2 : setP left s
      · exact ⟨h1, h2⟩
      · rw [if_neg h2] at hck; cases hck
  by_cases h0 : z = 0
  · exact holds_putU left n k p key M c5 c z a a5 s ts w hv hn hl ht hM hM3 hrs.1 hrs.2 h0
  by_cases h1 : z = 1
  · exact holds_takeD left n k p key M c5 c z a a5 s ts w hv hn hl ht hM hM3 hrs.1 hrs.2 h1
  by_cases h3 : z = 3
  · exact holds_swapD left n k p key M c5 c z a a5 s ts w hv hn hl ht hM hM3 hrs.1 hrs.2 h3
  · exact holds_swapU left n k p key M c5 c z a a5 s ts w hv hn hl ht hM hM3 hrs.1 hrs.2 ⟨h0, h1, h3⟩
end Go.Proofs.Ytloflmkolnediaa

/- Opening the arguments of a law: slices of numbers, pairs of numbers. -/
namespace Go.Proofs.Ytloflmkolnediaa
set_option linter.unusedVariables false
set_option linter.unusedSimpArgs false
open Go.RowKit Go.ChangeShapes Go.WideShapes Go.ChangeAt

theorem own : ownKnob Try.prog.godebug = none := by kernel_rfl
theorem laidOut : laidOutB Try.prog = true := by kernel_rfl

section
variable {H : Type} {enc : TypeId × Value → H} {P : Program} {w : World} {base : Nat} {spare : Nat → Bool} {held : Bool} {r : Reach} {b0 : Nat} {t : TypeId} {v : Value} {d : DataW H} {p : List MemPlace}

theorem wf_u8 {n : Int} (h : (Lit.int .u8 n).wf = true) : 0 ≤ n ∧ n < 256 := by
  simp [Lit.wf, IntKind.min, IntKind.max, IntKind.signed, IntKind.bits] at h; omega
theorem wf_u64 {n : Int} (h : (Lit.int .u64 n).wf = true) : 0 ≤ n ∧ n < 18446744073709551616 := by
  simp [Lit.wf, IntKind.min, IntKind.max, IntKind.signed, IntKind.bits] at h; omega
theorem wf_i64 {n : Int} (h : (Lit.int .i64 n).wf = true) : -9223372036854775808 ≤ n ∧ n ≤ 9223372036854775807 := by
  simp [Lit.wf, IntKind.min, IntKind.max, IntKind.signed, IntKind.bits] at h; omega

/-- A slice of unsigned numbers. -/
theorem open_nats {e : TypeId} {k : IntKind} {M : Nat} (ht : P.underlying t = some (.slice e)) (he : P.underlying e = some (.int k)) (hc : P.cellsOf e = 1) (hk : ∀ n, (Lit.int k n).wf = true → 0 ≤ n ∧ n < (M : Int))
    (hv : Value.okWide P w r b0 t v) (h : DataW.Trod enc P w base spare held t v d p) : ∃ ns : List Nat, Reads w v (ints k ns) ∧ (∀ n ∈ ns, n < M) ∧ ns.length ≤ 9223372036854775807 := by
  obtain ⟨a, len, cap, rfl⟩ := okWide_slice ht hv
  obtain ⟨fuel, hf⟩ := h
  rcases open_ints ht he hc hf with ⟨hcs, _⟩ | ⟨x, l, c, zs, hcs, _, hl, hm, hz, _, hcell, hwz⟩
  · simp [Value.cells] at hcs
    obtain ⟨rfl, rfl, rfl⟩ := hcs
    exact ⟨[], Reads.nil w, by simp, by simp⟩
  · simp [Value.cells] at hcs
    obtain ⟨rfl, rfl, rfl⟩ := hcs
    have hlz : len ≤ zs.length := by rw [hz]; split <;> omega
    refine ⟨(zs.take len).map Int.toNat, ?_, ?_, ?_⟩
    · have hlen : ((zs.take len).map Int.toNat).length = len := by simp; omega
      refine ⟨some x, cap, by rw [List.length_map, hlen], by rw [List.length_map, hlen]; exact hl, fun hne => ?_⟩
      have h0 : 0 < len := by
        rcases Nat.eq_zero_or_pos len with h0 | h0
        · subst h0; simp at hne
        · exact h0
      obtain ⟨b, off, spot⟩ := x
      have hc0 := hcell 0 (by omega)
      have hspot : spot = none := by simpa [Addr.add] using World.cell?_spot hc0
      subst hspot
      have hblt : b < w.heap.size := by
        rcases Nat.lt_or_ge b w.heap.size with hb | hb
        · exact hb
        · simp [Addr.add, World.cell?, Array.getElem?_eq_none hb] at hc0
      refine ⟨b, off, rfl, hblt, fun j hj => ?_⟩
      rw [List.length_map, hlen] at hj
      have hcj := hcell j (by omega)
      have hjz : j < zs.length := by omega
      have hw := hk _ (hwz zs[j] (List.getElem_mem hjz))
      rw [Addr.add_lit] at hcj
      rw [hcj]
      simp [List.getElem?_take, hj, hjz, List.getD]
      omega
    · intro n hn
      simp only [List.mem_map] at hn
      obtain ⟨z, hz', rfl⟩ := hn
      have := hk _ (hwz z (List.mem_of_mem_take hz'))
      omega
    · simp only [List.length_map, List.length_take]
      unfold maxLen at hm
      omega

/-- An array of two ints. -/
theorem open_two {e : TypeId} (ht : P.underlying t = some (.array 2 e)) (he : P.underlying e = some (.int .i64)) (hc : P.cellsOf e = 1) (hC : P.cellsOf t = 2)
    (hv : Value.okWide P w r b0 t v) (h : DataW.Trod enc P w base spare held t v d p) : ∃ x y : Int, v = .agg #[.int .i64 x, .int .i64 y] ∧ (Lit.int .i64 x).wf = true ∧ (Lit.int .i64 y).wf = true := by
  have hg : ∃ cs, v = .agg cs ∧ cs.size = P.cellsOf t := by
    simp only [Value.okWide, ht] at hv
    obtain ⟨cs, h1, h2, _⟩ := hv
    exact ⟨cs, h1, h2⟩
  obtain ⟨cs, rfl, hsz⟩ := hg
  obtain ⟨fuel, hf⟩ := h
  obtain ⟨xs, m, _, _, hl, hx, hi⟩ := DataW.trod_array ht hf
  have h0 := hi 0 (by omega)
  have h1 := hi 1 (by omega)
  rw [List.getElem?_eq_getElem (by omega)] at h0 h1
  obtain ⟨n0, e0, _, w0⟩ := DataW.trod_int he h0
  obtain ⟨n1, e1, _, w1⟩ := DataW.trod_int he h1
  refine ⟨n0, n1, ?_, w0, w1⟩
  rw [hc] at e0 e1
  simp only [Value.cells] at e0 e1 hl
  rw [hC] at hl
  congr 1
  apply Array.ext'
  match hcs : cs.toList, hl with
  | [c0, c1], _ =>
    rw [hcs] at e0 e1
    simp at e0 e1
    simp [e0, e1]
theorem open_twoK {k : IntKind} {e : TypeId} (ht : P.underlying t = some (.array 2 e)) (he : P.underlying e = some (.int k)) (hc : P.cellsOf e = 1) (hC : P.cellsOf t = 2)
    (hv : Value.okWide P w r b0 t v) (h : DataW.Trod enc P w base spare held t v d p) : ∃ x y : Int, v = .agg #[Value.int k x, Value.int k y] ∧ (Lit.int k x).wf = true ∧ (Lit.int k y).wf = true := by
  have hg : ∃ cs, v = .agg cs ∧ cs.size = P.cellsOf t := by
    simp only [Value.okWide, ht] at hv
    obtain ⟨cs, h1, h2, _⟩ := hv
    exact ⟨cs, h1, h2⟩
  obtain ⟨cs, rfl, hsz⟩ := hg
  obtain ⟨fuel, hf⟩ := h
  obtain ⟨xs, m, _, _, hl, hx, hi⟩ := DataW.trod_array ht hf
  have h0 := hi 0 (by omega)
  have h1 := hi 1 (by omega)
  rw [List.getElem?_eq_getElem (by omega)] at h0 h1
  obtain ⟨n0, e0, _, w0⟩ := DataW.trod_int he h0
  obtain ⟨n1, e1, _, w1⟩ := DataW.trod_int he h1
  refine ⟨n0, n1, ?_, w0, w1⟩
  rw [hc] at e0 e1
  simp only [Value.cells] at e0 e1 hl
  rw [hC] at hl
  congr 1
  apply Array.ext'
  match hcs : cs.toList, hl with
  | [c0, c1], _ =>
    rw [hcs] at e0 e1
    simp at e0 e1
    simp [e0, e1]
end
end Go.Proofs.Ytloflmkolnediaa

/- Opening the arguments of a law: structs and arrays of integers, and of such. Over any program. -/
namespace Go.Proofs.Ytloflmkolnediaa
set_option linter.unusedVariables false
set_option linter.unusedSimpArgs false
open Go.RowKit Go.ChangeShapes Go.WideShapes Go.ChangeAt
/-- Which kind of integer lies at a cell. -/
def atC (P : Program) : Nat → TypeId → Nat → Option IntKind
  | 0, _, _ => none
  | d + 1, t, j => match P.underlying t with
    | some (.struct fs) => fs.toList.findSome? fun f => if f.offset ≤ j ∧ j < f.offset + P.cellsOf f.type then atC P d f.type (j - f.offset) else none
    | some (.array n e) => if j / P.cellsOf e < n then atC P d e (j % P.cellsOf e) else none
    | some (.int k) => if j = 0 then some k else none
    | _ => none
section
variable {H : Type} {enc : TypeId × Value → H} {P : Program} {w : World} {base : Nat} {spare : Nat → Bool} {held : Bool} {r : Reach} {b0 : Nat} {t : TypeId} {v : Value} {d : DataW H} {p : List MemPlace}
theorem trod_at : ∀ (n : Nat) (t : TypeId) (j fuel : Nat) (cs : List Value) (x : DataW H × List MemPlace) (k : IntKind), atC P n t j = some k → DataW.trod enc P w base spare held fuel t cs = some x → ∃ z : Int, cs[j]? = some (.int k z) ∧ (Lit.int k z).wf = true
  | 0, _, _, _, _, _, _, h, _ => by cases h
  | n + 1, t, j, fuel, cs, x, k, h, hx => by
    cases hu : P.underlying t with
    | none => simp [atC, hu] at h
    | some kd =>
      cases kd <;> simp only [atC, hu] at h <;> try (cases h; done)
      case int q =>
        split at h
        · rename_i hj
          cases h
          subst hj
          obtain ⟨z, e, _, hw⟩ := DataW.trod_int hu hx
          exact ⟨z, by rw [e]; rfl, hw⟩
        · cases h
      case struct fs =>
        obtain ⟨f, hf, hfk⟩ := List.exists_of_findSome?_eq_some h
        split at hfk
        · rename_i hj
          obtain ⟨xs, m, _, rfl, hl, hlen, hf2⟩ := DataW.trod_struct hu hx
          obtain ⟨i, hi⟩ := List.mem_iff_getElem?.1 hf
          have h2 := hf2 i f (by simpa using hi)
          have hil : i < xs.length := by
            have := (List.getElem?_eq_some_iff.1 hi).1
            rw [Array.length_toList] at this
            omega
          rw [List.getElem?_eq_getElem hil] at h2
          obtain ⟨z, e, hw⟩ := trod_at n f.type (j - f.offset) _ _ _ k hfk h2
          refine ⟨z, ?_, hw⟩
          rw [List.getElem?_take] at e
          split at e
          · rw [List.getElem?_drop] at e
            rwa [show f.offset + (j - f.offset) = j by omega] at e
          · cases e
        · cases hfk
      case array m e =>
        split at h
        · rename_i hj
          obtain ⟨xs, m', _, rfl, hl, hlen, hi⟩ := DataW.trod_array hu hx
          have h2 := hi _ hj
          rw [List.getElem?_eq_getElem (by omega)] at h2
          obtain ⟨z, e', hw⟩ := trod_at n e (j % P.cellsOf e) _ _ _ k h h2
          refine ⟨z, ?_, hw⟩
          rw [List.getElem?_take] at e'
          split at e'
          · rw [List.getElem?_drop] at e'
            rwa [show j / P.cellsOf e * P.cellsOf e + j % P.cellsOf e = j by rw [Nat.mul_comm]; exact Nat.div_add_mod _ _] at e'
          · cases e'
        · cases h
theorem open_ints {c : Nat} (ks : Nat → IntKind) (hs : (match P.underlying t with | some (.struct _) | some (.array _ _) => true | _ => false) = true) (hc : P.cellsOf t = c) (hk : (List.range c).all (fun j => atC P 9 t j == some (ks j)) = true)
    (hv : Value.okWide P w r b0 t v) (h : DataW.Trod enc P w base spare held t v d p) : ∃ g : Nat → Int, v = .agg ((List.range c).map fun j => Value.int (ks j) (g j)).toArray ∧ ∀ j, j < c → (Lit.int (ks j) (g j)).wf = true := by
  have hg : ∃ cs, v = .agg cs ∧ cs.size = P.cellsOf t := by
    unfold Value.okWide at hv
    split at hv
    · obtain ⟨cs, h1, h2, _⟩ := hv; exact ⟨cs, h1, h2⟩
    · obtain ⟨cs, h1, h2, _⟩ := hv; exact ⟨cs, h1, h2⟩
    · rename_i h1 h2
      split at hs <;> simp_all
  obtain ⟨cs, rfl, hsz⟩ := hg
  obtain ⟨fuel, hf⟩ := h
  have key : ∀ j, ∃ z : Int, j < c → cs.toList[j]? = some (.int (ks j) z) ∧ (Lit.int (ks j) z).wf = true := by
    intro j
    by_cases hj : j < c
    · have hk' := List.all_eq_true.1 hk j (List.mem_range.2 hj)
      have hk'' : atC P 9 t j = some (ks j) := by simpa using hk'
      obtain ⟨z, h1, h2⟩ := trod_at 9 t j fuel _ _ _ hk'' hf
      exact ⟨z, fun _ => ⟨h1, h2⟩⟩
    · exact ⟨0, fun h => absurd h hj⟩
  refine ⟨fun j => Classical.choose (key j), ?_, fun j hj => (Classical.choose_spec (key j) hj).2⟩
  congr 1
  apply Array.ext'
  apply List.ext_getElem?
  intro j
  simp only [List.toList_toArray, List.getElem?_map]
  by_cases hj : j < c
  · rw [(Classical.choose_spec (key j) hj).1, List.getElem?_range hj]
    rfl
  · rw [List.getElem?_eq_none (by rw [Array.length_toList, hsz, hc]; omega), List.getElem?_eq_none (by simp; omega)]
    rfl
end
end Go.Proofs.Ytloflmkolnediaa

/- scan: what the shells hand over. -/
namespace Go.Proofs.Ytloflmkolnediaa
set_option linter.unusedVariables false
set_option linter.unusedSimpArgs false
open Go.RowKit Go.Shelf
theorem reads_uE {w : World} {v : Value} {ws : List Nat} (h : Reads w v (ints .u64 ws)) : ReadsT uE 1 w v ws := by
  obtain ⟨a, cap, e, hc, h⟩ := h
  have hl : (ints .u64 ws).length = ws.length := by simp [ints]
  rw [hl] at e hc
  exact ⟨a, cap, e, hc, fun hne => by
    obtain ⟨b, off, h1, h2, h3⟩ := h (by intro e; rw [e] at hl; exact hne (List.eq_nil_of_length_eq_zero hl.symm))
    exact ⟨b, off, h1, h2, fun j hj => by rw [flat_u]; exact h3 j (by omega)⟩⟩

end Go.Proofs.Ytloflmkolnediaa

/- scan: what the shell of ScanHolds imports. -/
namespace Go.Proofs.Ytloflmkolnediaa
set_option linter.unusedVariables false
set_option linter.unusedSimpArgs false
open Go.RowKit Go.Shelf
theorem flat_y (ws : List Nat) : ws.flatMap yE = ints .u8 ws := by
  induction ws with
  | nil => rfl
  | cons x ws ih => rw [List.flatMap_cons, ih]; rfl

theorem reads_yE {w : World} {v : Value} {ws : List Nat} (h : Reads w v (ints .u8 ws)) : ReadsT yE 1 w v ws := by
  obtain ⟨a, cap, e, hc, h⟩ := h
  have hl : (ints .u8 ws).length = ws.length := by simp [ints]
  rw [hl] at e hc
  exact ⟨a, cap, e, hc, fun hne => by
    obtain ⟨b, off, h1, h2, h3⟩ := h (by intro e; rw [e] at hl; exact hne (List.eq_nil_of_length_eq_zero hl.symm))
    exact ⟨b, off, h1, h2, fun j hj => by rw [flat_y]; exact h3 j (by omega)⟩⟩

theorem pair_shell (g : Nat → Int) (hg : ∀ j, j < 2 → (Lit.int .u64 (g j)).wf = true) : ∃ k p : Nat, Value.agg ((List.range 2).map fun j => Value.int .u64 (g j)).toArray = .agg #[.int .u64 (k : Int), .int .u64 (p : Int)] := by
  have h0 := wf_u64 (hg 0 (by decide))
  have h1 := wf_u64 (hg 1 (by decide))
  refine ⟨(g 0).toNat, (g 1).toNat, ?_⟩
  rw [Int.toNat_of_nonneg (by omega), Int.toNat_of_nonneg (by omega)]
  rfl

theorem holds_shell (left : Nat) (v : Value) (s : List Nat) (z : Int) (g : Nat → Int) (hg : ∀ j, j < 2 → (Lit.int .u64 (g j)).wf = true) (key : Nat) (v5 : Value) (ts : List Nat) (w : World) (hv : ReadsT uE 1 w v s) (ht : ReadsT yE 1 w v5 ts) : Calls Try.prog 7 #[.int .u64 (left : Int), v, .int .i64 z, .agg ((List.range 2).map fun j => Value.int .u64 (g j)).toArray, .int .u64 (key : Int), v5] w fun e w' => e = .returned (.bool true) ∧ Below w.heap.size w w' := by
  obtain ⟨k, p, e⟩ := pair_shell g hg
  rw [e]
  exact holds_walk left k p key z v v5 s ts w hv ht
end Go.Proofs.Ytloflmkolnediaa
