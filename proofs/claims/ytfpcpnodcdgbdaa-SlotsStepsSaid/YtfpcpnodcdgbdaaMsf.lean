/- What the statements' walks use: So34, Open, OpenI, SoS, SoT. -/
import Derived.Test.YtfpcpnodcdgbdaaRows
import Derived.ProofKit
import Derived.OpenShut
import Derived.ShutString
import Derived.ChangeOld
import Derived.ChangeSame
import Derived.Test.YtfpcpnodcdgbdaaMsa
import Derived.Test.YtfpcpnodcdgbdaaMse
/- slots: SlotsSteps: the walk (gen34.py writes this). -/
namespace Go.Proofs.Ytfpcpnodcdgbdaa
set_option linter.unusedVariables false
set_option linter.unusedSimpArgs false
open Go.RowKit Go.Shelf
set_option maxRecDepth 100000
set_option maxHeartbeats 16000000
theorem change_any (z : Int) (c : Int) (hc : c = if z = 0 then 1 else if z = 1 then -1 else 0) (w : World) : Calls Try.prog 29 #[.int .i64 z] w fun e w' => e = .returned (.int .i64 c) ∧ w = w' := by
  by_cases h0 : z = 0
  · rw [if_pos h0] at hc
    subst h0 hc
    refine X.fn Try.func29 rfl (n := 8) rfl rfl ?_
    refine CC.seq ?_
    refine CC.region ?_
    refine LL.val (R.assign rfl rfl) rfl rfl rfl ?_
    refine LL.nilS ?_
    refine CC.seq ?_
    refine CC.seq ?_
    refine CC.region ?_
    refine LL.val (R.move rfl rfl) rfl rfl rfl ?_
    refine LL.nilS ?_
    refine CC.block ?_
    refine CC.seq ?_
    refine CC.region ?_
    refine LL.val (R.eqT rfl rfl rfl (by omega)) rfl rfl rfl ?_
    refine LL.val (R.assign rfl rfl) rfl rfl rfl ?_
    refine LL.nilS ?_
    refine CC.yes rfl ?_
    refine CC.seq ?_
    refine CC.region ?_
    refine LL.val (R.assign rfl rfl) rfl rfl rfl ?_
    refine LL.nilS ?_
    refine CC.ret ?_
    refine EE.inR ?_
    refine EE.thenR ?_
    refine EE.ret _ rfl rfl ?_
    exact ⟨rfl, rfl⟩
  rw [if_neg h0] at hc
  by_cases h1 : z = 1
  · rw [if_pos h1] at hc
    subst h1 hc
    refine X.fn Try.func29 rfl (n := 8) rfl rfl ?_
    refine CC.seq ?_
    refine CC.region ?_
    refine LL.val (R.assign rfl rfl) rfl rfl rfl ?_
    refine LL.nilS ?_
    refine CC.seq ?_
    refine CC.seq ?_
    refine CC.region ?_
    refine LL.val (R.move rfl rfl) rfl rfl rfl ?_
    refine LL.nilS ?_
    refine CC.block ?_
    refine CC.seq ?_
    refine CC.region ?_
    refine LL.val (R.eqF rfl rfl rfl (by omega)) rfl rfl rfl ?_
    refine LL.val (R.assign rfl rfl) rfl rfl rfl ?_
    refine LL.nilS ?_
    refine CC.no rfl ?_
    refine CC.seq ?_
    refine CC.region ?_
    refine LL.val (R.eqT rfl rfl rfl (by omega)) rfl rfl rfl ?_
    refine LL.val (R.assign rfl rfl) rfl rfl rfl ?_
    refine LL.nilS ?_
    refine CC.yes rfl ?_
    refine CC.seq ?_
    refine CC.region ?_
    refine LL.val (R.assign rfl rfl) rfl rfl rfl ?_
    refine LL.nilS ?_
    refine CC.ret ?_
    refine EE.inR ?_
    refine EE.thenR ?_
    refine EE.ret _ rfl rfl ?_
    exact ⟨rfl, rfl⟩
  · rw [if_neg h1] at hc
    subst hc
    refine X.fn Try.func29 rfl (n := 8) rfl rfl ?_
    refine CC.seq ?_
    refine CC.region ?_
    refine LL.val (R.assign rfl rfl) rfl rfl rfl ?_
    refine LL.nilS ?_
    refine CC.seq ?_
    refine CC.seq ?_
    refine CC.region ?_
    refine LL.val (R.move rfl rfl) rfl rfl rfl ?_
    refine LL.nilS ?_
    refine CC.block ?_
    refine CC.seq ?_
    refine CC.region ?_
    refine LL.val (R.eqF rfl rfl rfl (by omega)) rfl rfl rfl ?_
    refine LL.val (R.assign rfl rfl) rfl rfl rfl ?_
    refine LL.nilS ?_
    refine CC.no rfl ?_
    refine CC.seq ?_
    refine CC.region ?_
    refine LL.val (R.eqF rfl rfl rfl (by omega)) rfl rfl rfl ?_
    refine LL.val (R.assign rfl rfl) rfl rfl rfl ?_
    refine LL.nilS ?_
    refine CC.no rfl ?_
    refine CC.skip ?_
    refine EE.inN ?_
    refine EE.thenN ?_
    refine CC.seq ?_
    refine CC.region ?_
    refine LL.val (R.assign rfl rfl) rfl rfl rfl ?_
    refine LL.nilS ?_
    refine CC.ret ?_
    refine EE.ret _ rfl rfl ?_
    exact ⟨rfl, rfl⟩
--C law09_num | num_any _ @w | S
theorem steps_put (left n k p : Nat) (z : Int) (hz : z = 0) (v : Value) (s : List Nat) (w : World) (hv : ReadsT uE 1 w v s) (hn : s.length = n) : Calls Try.prog 8 #[.int .u64 (left : Int), v, .int .i64 z, .agg #[.int .u64 (k : Int), .int .u64 (p : Int)]] w fun e w' => e = .returned (.bool true) ∧ Below w.heap.size w w' := by
  have q := Below.refl w.heap.size w
  obtain ⟨a, c, rfl, hc⟩ := hv.form hn
  have hvF : ∀ X, Below w.heap.size w X → ReadsT uE 1 X (.slice a n c) s := fun X b => hv.up b
  clear hv
  by_cases h80 : 80 < n
  · refine X.fn Try.func8 rfl (n := 142) rfl rfl ?_
    refine CC.seq ?_
    refine CC.region ?_
    refine LL.box [Value.int IntKind.u64 ↑k, Value.int IntKind.u64 ↑p] rfl rfl rfl rfl rfl ?_
    intro W9 g10 eg10 r11 z12 b8
    replace q := q.trans (b8.mono q.size)
    refine LL.val (R.assign rfl rfl) rfl rfl rfl ?_
    refine LL.nilS ?_
    refine CC.seq ?_
    refine CC.seq ?_
    refine CC.region ?_
    refine LL.val (R.move rfl rfl) rfl rfl rfl ?_
    refine LL.val (R.len rfl rfl rfl rfl) rfl rfl rfl ?_
    refine LL.val (R.gtT rfl rfl rfl (by omega)) rfl rfl rfl ?_
    refine LL.nilS ?_
    refine CC.yes rfl ?_
    refine CC.seq ?_
    refine CC.region ?_
    have l49 := r11.lt
    (refine LL.call (R.call rfl rfl rfl) rfl rfl rfl (works_any _) ?_; rintro e W48 ⟨rfl, b45⟩; refine ⟨_, rfl, ?_⟩)
    have zb45 := b45.size
    replace r11 := r11.up b45
    replace b8 := b8.trans (b45.mono b8.size)
    replace q := q.trans (b45.mono q.size)
    refine LL.val (R.assign rfl rfl) rfl rfl rfl ?_
    refine LL.nilS ?_
    refine CC.ret ?_
    refine EE.thenR ?_
    refine EE.ret _ rfl rfl ?_
    exact ⟨rfl, q⟩
  have h : n ≤ 1048576 := by omega
  have hlen := putF_len (left := left) (s := s) (k := k) (p := p)
  obtain ⟨⟨cd, os⟩, eT⟩ : ∃ r, putF left s k p = r := ⟨_, rfl⟩
  have hans := put_ans left s k p
  rw [eT] at hans hlen
  rcases hans with ⟨h0, hos⟩ | ⟨h0, hrow, hset, hne, hnn, hst⟩
  · dsimp only at h0 hos
    subst hos
    refine X.fn Try.func8 rfl (n := 142) rfl rfl ?_
    refine CC.seq ?_
    refine CC.region ?_
    refine LL.box [Value.int IntKind.u64 ↑k, Value.int IntKind.u64 ↑p] rfl rfl rfl rfl rfl ?_
    intro Wa16 ga17 ega17 ra18 za19 ba15
    replace q := q.trans (ba15.mono q.size)
    refine LL.val (R.assign rfl rfl) rfl rfl rfl ?_
    refine LL.nilS ?_
    refine CC.seq ?_
    refine CC.seq ?_
    refine CC.region ?_
    refine LL.val (R.move rfl rfl) rfl rfl rfl ?_
    refine LL.val (R.len rfl rfl rfl rfl) rfl rfl rfl ?_
    refine LL.val (R.gtF rfl rfl rfl (by omega)) rfl rfl rfl ?_
    refine LL.nilS ?_
    refine CC.no rfl ?_
    refine CC.skip ?_
    refine EE.thenN ?_
    refine CC.seq ?_
    refine CC.region ?_
    refine LL.val (R.assign rfl rfl) rfl rfl rfl ?_
    refine LL.nilS ?_
    refine CC.seq ?_
    refine CC.region ?_
    refine LL.val (R.assign rfl rfl) rfl rfl rfl ?_
    refine LL.nilS ?_
    refine CC.seq ?_
    refine CC.seq ?_
    refine CC.region ?_
    refine LL.val (R.move rfl rfl) rfl rfl rfl ?_
    refine LL.nilS ?_
    refine CC.block ?_
    refine CC.seq ?_
    refine CC.region ?_
    refine LL.val (R.eqT rfl rfl rfl (by omega)) rfl rfl rfl ?_
    refine LL.val (R.assign rfl rfl) rfl rfl rfl ?_
    refine LL.nilS ?_
    refine CC.yes rfl ?_
    refine CC.region ?_
    refine LL.val (R.move rfl rfl) rfl rfl rfl ?_
    refine LL.val (R.move rfl rfl) rfl rfl rfl ?_
    refine LL.val (R.load rfl rfl (I.ldNc (vs := [Value.int IntKind.u64 ↑k, Value.int IntKind.u64 ↑p]) (RowL.cells ra18 rfl) (by rfl) (by rfl))) rfl rfl rfl ?_
    have la216 := ra18.lt
    (refine LL.call (R.call rfl rfl rfl) rfl rfl rfl (put_any left n k p _ s _ (hvF _ q) hn h) ?_; rw [eT]; rintro e Wa215 ⟨v1, rfl, o1, ba212⟩; dsimp only at o1; obtain ⟨a1, c1, rfl, hc1⟩ := (o1.reads pEnc).form (n := 0) rfl; refine ⟨_, rfl, ?_⟩)
    have zba212 := ba212.size
    replace ra18 := ra18.up ba212
    replace ba15 := ba15.trans (ba212.mono ba15.size)
    replace q := q.trans (ba212.mono q.size)
    refine LL.val (R.move rfl rfl) rfl rfl rfl ?_
    refine LL.val (R.extract rfl rfl rfl) rfl rfl rfl ?_
    refine LL.val (R.extract rfl rfl rfl) rfl rfl rfl ?_
    refine LL.val (R.assign rfl rfl) rfl rfl rfl ?_
    refine LL.val (R.assign rfl rfl) rfl rfl rfl ?_
    refine LL.nil ?_
    refine EE.inN ?_
    refine EE.thenN ?_
    refine CC.seq ?_
    refine CC.seq ?_
    refine CC.region ?_
    refine LL.val (R.move rfl rfl) rfl rfl rfl ?_
    refine LL.call (R.call rfl rfl rfl) rfl rfl rfl (num_any _ _) ?_
    rintro e W' ⟨rfl, rfl⟩
    refine ⟨_, rfl, ?_⟩
    refine LL.val (R.neT rfl rfl rfl (by omega)) rfl rfl rfl ?_
    refine LL.nilS ?_
    refine CC.yes rfl ?_
    refine CC.seq ?_
    refine CC.region ?_
    refine LL.val (R.move rfl rfl) rfl rfl rfl ?_
    refine LL.val (R.len rfl rfl rfl rfl) rfl rfl rfl ?_
    refine LL.val (R.eqT rfl rfl rfl (by omega)) rfl rfl rfl ?_
    refine LL.val (R.move rfl rfl) rfl rfl rfl ?_
    have la424 := ra18.lt
    (refine LL.call (R.call rfl rfl rfl) rfl rfl rfl (works_any _) ?_; rintro e Wa423 ⟨rfl, ba420⟩; refine ⟨_, rfl, ?_⟩)
    have zba420 := ba420.size
    replace ba212 := ba212.trans (ba420.mono ba212.size)
    replace o1 := o1.up ba420
    replace ra18 := ra18.up ba420
    replace ba15 := ba15.trans (ba420.mono ba15.size)
    replace q := q.trans (ba420.mono q.size)
    refine LL.val (R.pick rfl rfl rfl) rfl rfl rfl ?_
    refine LL.val (R.assign rfl rfl) rfl rfl rfl ?_
    refine LL.nilS ?_
    refine CC.ret ?_
    refine EE.thenR ?_
    refine EE.ret _ rfl rfl ?_
    exact ⟨rfl, q⟩
  dsimp only at h0 hne hnn hst hlen
  subst h0
  obtain ⟨k0, rs, rw', hS⟩ := seen_of hn hrow hset hst
  clear hrow hset hst
  have hl1 := hS.l1
  have hl2 := hS.l2
  have hlen' := hS.len
  have hk0 := hS.le
  have hpos : 0 < os.length := List.length_pos_iff.2 hne
  refine X.fn Try.func8 rfl (n := 142) rfl rfl ?_
  refine CC.seq ?_
  refine CC.region ?_
  refine LL.box [Value.int IntKind.u64 ↑k, Value.int IntKind.u64 ↑p] rfl rfl rfl rfl rfl ?_
  intro Wb30 gb31 egb31 rb32 zb33 bb29
  replace q := q.trans (bb29.mono q.size)
  refine LL.val (R.assign rfl rfl) rfl rfl rfl ?_
  refine LL.nilS ?_
  refine CC.seq ?_
  refine CC.seq ?_
  refine CC.region ?_
  refine LL.val (R.move rfl rfl) rfl rfl rfl ?_
  refine LL.val (R.len rfl rfl rfl rfl) rfl rfl rfl ?_
  refine LL.val (R.gtF rfl rfl rfl (by omega)) rfl rfl rfl ?_
  refine LL.nilS ?_
  refine CC.no rfl ?_
  refine CC.skip ?_
  refine EE.thenN ?_
  refine CC.seq ?_
  refine CC.region ?_
  refine LL.val (R.assign rfl rfl) rfl rfl rfl ?_
  refine LL.nilS ?_
  refine CC.seq ?_
  refine CC.region ?_
  refine LL.val (R.assign rfl rfl) rfl rfl rfl ?_
  refine LL.nilS ?_
  refine CC.seq ?_
  refine CC.seq ?_
  refine CC.region ?_
  refine LL.val (R.move rfl rfl) rfl rfl rfl ?_
  refine LL.nilS ?_
  refine CC.block ?_
  refine CC.seq ?_
  refine CC.region ?_
  refine LL.val (R.eqT rfl rfl rfl (by omega)) rfl rfl rfl ?_
  refine LL.val (R.assign rfl rfl) rfl rfl rfl ?_
  refine LL.nilS ?_
  refine CC.yes rfl ?_
  refine CC.region ?_
  refine LL.val (R.move rfl rfl) rfl rfl rfl ?_
  refine LL.val (R.move rfl rfl) rfl rfl rfl ?_
  refine LL.val (R.load rfl rfl (I.ldNc (vs := [Value.int IntKind.u64 ↑k, Value.int IntKind.u64 ↑p]) (RowL.cells rb32 rfl) (by rfl) (by rfl))) rfl rfl rfl ?_
  have lb422 := rb32.lt
  (refine LL.call (R.call rfl rfl rfl) rfl rfl rfl (put_any left n k p _ s _ (hvF _ q) hn h) ?_; rw [eT]; rintro e Wb421 ⟨v1, rfl, o1, bb418⟩; dsimp only at o1; obtain ⟨a1, c1, rfl, hc1⟩ := (o1.reads pEnc).form rfl; obtain ⟨X1, hzX1, h1F, q1⟩ := exposeT (o1.reads pEnc); clear o1; refine ⟨_, rfl, ?_⟩)
  have zbb418 := bb418.size
  replace rb32 := rb32.up bb418
  replace bb29 := bb29.trans (bb418.mono bb29.size)
  replace q := q.trans (bb418.mono q.size)
  refine LL.val (R.move rfl rfl) rfl rfl rfl ?_
  refine LL.val (R.extract rfl rfl rfl) rfl rfl rfl ?_
  refine LL.val (R.extract rfl rfl rfl) rfl rfl rfl ?_
  refine LL.val (R.assign rfl rfl) rfl rfl rfl ?_
  refine LL.val (R.assign rfl rfl) rfl rfl rfl ?_
  refine LL.nil ?_
  refine EE.inN ?_
  refine EE.thenN ?_
  refine CC.seq ?_
  refine CC.seq ?_
  refine CC.region ?_
  refine LL.val (R.move rfl rfl) rfl rfl rfl ?_
  refine LL.call (R.call rfl rfl rfl) rfl rfl rfl (num_any _ _) ?_
  rintro e W' ⟨rfl, rfl⟩
  refine ⟨_, rfl, ?_⟩
  refine LL.val (R.neF rfl rfl rfl (by omega)) rfl rfl rfl ?_
  refine LL.nilS ?_
  refine CC.no rfl ?_
  refine CC.skip ?_
  refine EE.thenN ?_
  refine CC.seq ?_
  refine CC.region ?_
  refine LL.val (R.move rfl rfl) rfl rfl rfl ?_
  refine LL.val (R.move rfl rfl) rfl rfl rfl ?_
  have lb758 := rb32.lt
  (refine LL.call (R.call rfl rfl rfl) rfl rfl rfl (read_any left n _ s _ (hvF _ q) hn h) ?_; rintro e Wb757 ⟨v2, rfl, o2, bb754⟩; rw [hS.was] at o2; obtain ⟨a2, c2, rfl, hc2⟩ := (o2.reads prEnc).form rfl; obtain ⟨X2, hzX2, h2F, q2⟩ := exposeT (o2.reads prEnc); clear o2; refine ⟨_, rfl, ?_⟩)
  have zbb754 := bb754.size
  replace bb418 := bb418.trans (bb754.mono bb418.size)
  replace q1 := q1.trans (bb754.mono q1.size)
  replace rb32 := rb32.up bb754
  replace bb29 := bb29.trans (bb754.mono bb29.size)
  replace q := q.trans (bb754.mono q.size)
  refine LL.val (R.assign rfl rfl) rfl rfl rfl ?_
  refine LL.nilS ?_
  refine CC.seq ?_
  refine CC.region ?_
  refine LL.val (R.move rfl rfl) rfl rfl rfl ?_
  refine LL.val (R.move rfl rfl) rfl rfl rfl ?_
  have lb878 := rb32.lt
  (refine LL.call (R.call rfl rfl rfl) rfl rfl rfl (dapply_any n _ _ s os _ (hvF _ q) hn h (h1F _ q1) (by omega) hnn) ?_; rintro e Wb877 ⟨v3, rfl, o3, bb874⟩; obtain ⟨X3, hzX3, h3F, q3⟩ := exposeT (o3.reads uEnc); clear o3; refine ⟨_, rfl, ?_⟩)
  have zbb874 := bb874.size
  replace bb754 := bb754.trans (bb874.mono bb754.size)
  replace q2 := q2.trans (bb874.mono q2.size)
  replace bb418 := bb418.trans (bb874.mono bb418.size)
  replace q1 := q1.trans (bb874.mono q1.size)
  replace rb32 := rb32.up bb874
  replace bb29 := bb29.trans (bb874.mono bb29.size)
  replace q := q.trans (bb874.mono q.size)
  refine LL.val (R.assign rfl rfl) rfl rfl rfl ?_
  refine LL.nilS ?_
  refine CC.seq ?_
  refine CC.region ?_
  refine LL.val (R.move rfl rfl) rfl rfl rfl ?_
  refine LL.val (R.move rfl rfl) rfl rfl rfl ?_
  have lb1006 := rb32.lt
  (refine LL.call (R.call rfl rfl rfl) rfl rfl rfl (read_any left n _ (applyS s os) _ (h3F _ q3) (by rw [applyS_len]; exact hn) h) ?_; rintro e Wb1005 ⟨v4, rfl, o4, bb1002⟩; rw [hS.will] at o4; obtain ⟨a4, c4, rfl, hc4⟩ := (o4.reads prEnc).form rfl; obtain ⟨X4, hzX4, h4F, q4⟩ := exposeT (o4.reads prEnc); clear o4; refine ⟨_, rfl, ?_⟩)
  have zbb1002 := bb1002.size
  replace bb874 := bb874.trans (bb1002.mono bb874.size)
  replace q3 := q3.trans (bb1002.mono q3.size)
  replace bb754 := bb754.trans (bb1002.mono bb754.size)
  replace q2 := q2.trans (bb1002.mono q2.size)
  replace bb418 := bb418.trans (bb1002.mono bb418.size)
  replace q1 := q1.trans (bb1002.mono q1.size)
  replace rb32 := rb32.up bb1002
  replace bb29 := bb29.trans (bb1002.mono bb29.size)
  replace q := q.trans (bb1002.mono q.size)
  refine LL.val (R.assign rfl rfl) rfl rfl rfl ?_
  refine LL.nilS ?_
  refine CC.seq ?_
  refine CC.region ?_
  refine LL.val (R.assign rfl rfl) rfl rfl rfl ?_
  refine LL.nilS ?_
  refine CC.seq ?_
  refine CC.seq ?_
  refine CC.region ?_
  refine LL.val (R.assign rfl rfl) rfl rfl rfl ?_
  refine LL.nilS ?_
  refine CC.block ?_
  obtain ⟨x0, hx0⟩ : ∃ x0, os[0]? = some x0 := ⟨_, List.getElem?_eq_getElem hpos⟩
  obtain ⟨b1, ob1, rfl, lb1, _⟩ := (h1F _ q1).get pEnc hx0
  have yq := q.size
  refine CC.loop (α := Nat × Bool) (fun x => [(0, .int .u64 (left : Int)), (1, .slice a n c), (2, .int .i64 z), (9, .slice (some ⟨b1, ob1, none⟩) os.length c1), (11, .slice a2 rs.length c2), (12, v3), (13, .slice a4 rw'.length c4), (14, .bool x.2), (15, .int .i64 (x.1 : Int))])
    (fun x W => x.1 ≤ os.length + 1 ∧ Below w.heap.size w W ∧ Below X1.heap.size X1 W ∧ Below X2.heap.size X2 W ∧ Below X3.heap.size X3 W ∧ Below X4.heap.size X4 W ∧ (x.2 = true → ∀ j, x.1 ≤ j → readF left (applyS s (os.take j)) = rw') ∧ (k0 < x.1 → x.2 = true)) (fun x => os.length + 1 - x.1) (0, false) ⟨rfl, rfl, rfl, rfl, rfl, rfl, rfl, rfl, rfl, trivial⟩ ⟨Nat.zero_le _, q, q1, q2, q3, q4, fun h => (by cases h), fun h => absurd h (Nat.not_lt_zero _)⟩ ?_
  clear q q1 q2 q3 q4 yq
  rintro ⟨k, tb⟩ W ⟨hi, q, q1, q2, q3, q4, hT, hK⟩
  simp only at hi hT hK
  have yq := q.size
  show CC none Try.prog _ 142 [] (sl [(0, .int .u64 (left : Int)), (1, .slice a n c), (2, .int .i64 z), (9, .slice (some ⟨b1, ob1, none⟩) os.length c1), (11, .slice a2 rs.length c2), (12, v3), (13, .slice a4 rw'.length c4), (14, .bool tb), (15, .int .i64 (k : Int))]) _ W
  by_cases hlt : k ≤ os.length
  case neg =>
    obtain rfl := hK (by omega)
    clear hT hK
    refine CC.seq ?_
    refine CC.seq ?_
    refine CC.region ?_
    refine LL.val (R.move rfl rfl) rfl rfl rfl ?_
    refine LL.val (R.move rfl rfl) rfl rfl rfl ?_
    refine LL.val (R.len rfl rfl rfl rfl) rfl rfl rfl ?_
    refine LL.val (R.leF rfl rfl rfl (by omega)) rfl rfl rfl ?_
    refine LL.nilS ?_
    refine CC.no rfl ?_
    refine CC.exit ?_
    refine EE.thenX ?_
    refine EE.thenX ?_
    refine EE.inX ?_
    refine EE.thenN ?_
    refine CC.seq ?_
    refine CC.region ?_
    refine LL.val (R.move rfl rfl) rfl rfl rfl ?_
    refine LL.val (R.move rfl rfl) rfl rfl rfl ?_
    refine LL.val (R.move rfl rfl) rfl rfl rfl ?_
    refine LL.val (R.move rfl rfl) rfl rfl rfl ?_
    (refine LL.call (R.call rfl rfl rfl) rfl rfl rfl (check_any left n _ (applyS s os) _ (h3F _ q3) (by rw [applyS_len]; exact hn) h) ?_; rintro e Wc116 ⟨rfl, bc113⟩; refine ⟨_, rfl, ?_⟩; rw [hS.chk])
    have zbc113 := bc113.size
    replace q := q.trans (bc113.mono q.size)
    replace q1 := q1.trans (bc113.mono q1.size)
    replace q2 := q2.trans (bc113.mono q2.size)
    replace q3 := q3.trans (bc113.mono q3.size)
    replace q4 := q4.trans (bc113.mono q4.size)
    refine LL.call (R.call rfl rfl rfl) rfl rfl rfl (num_any _ _) ?_
    rintro e W' ⟨rfl, rfl⟩
    refine ⟨_, rfl, ?_⟩
    refine LL.val (R.eqT rfl rfl rfl (by omega)) rfl rfl rfl ?_
    refine LL.val (R.pick rfl rfl rfl) rfl rfl rfl ?_
    refine LL.val (R.move rfl rfl) rfl rfl rfl ?_
    refine LL.val (R.move rfl rfl) rfl rfl rfl ?_
    refine LL.val (R.len rfl rfl rfl rfl) rfl rfl rfl ?_
    refine LL.val (R.move rfl rfl) rfl rfl rfl ?_
    refine LL.val (R.len rfl rfl rfl rfl) rfl rfl rfl ?_
    refine LL.val (R.move rfl rfl) rfl rfl rfl ?_
    (refine LL.call (R.call rfl rfl rfl) rfl rfl rfl (change_any _ (1) (by simp [*]) _) ?_; rintro e W' ⟨rfl, rfl⟩; refine ⟨_, rfl, ?_⟩)
    refine LL.val (R.addNc rfl rfl rfl rfl (by omega)) rfl rfl rfl ?_
    refine LL.val (R.eqT rfl rfl rfl (by omega)) rfl rfl rfl ?_
    refine LL.val (R.pick rfl rfl rfl) rfl rfl rfl ?_
    refine LL.val (R.move rfl rfl) rfl rfl rfl ?_
    (refine LL.call (R.call rfl rfl rfl) rfl rfl rfl (works_any _) ?_; rintro e Wc319 ⟨rfl, bc316⟩; refine ⟨_, rfl, ?_⟩)
    have zbc316 := bc316.size
    replace bc113 := bc113.trans (bc316.mono bc113.size)
    replace q := q.trans (bc316.mono q.size)
    replace q1 := q1.trans (bc316.mono q1.size)
    replace q2 := q2.trans (bc316.mono q2.size)
    replace q3 := q3.trans (bc316.mono q3.size)
    replace q4 := q4.trans (bc316.mono q4.size)
    refine LL.val (R.pick rfl rfl rfl) rfl rfl rfl ?_
    refine LL.val (R.assign rfl rfl) rfl rfl rfl ?_
    refine LL.nilS ?_
    refine CC.ret ?_
    refine EE.ret _ rfl rfl ?_
    exact ⟨rfl, q⟩
  have h1k : ∀ X, Below X1.heap.size X1 X → ∀ cc, k ≤ cc → ReadsT pE 2 X (.slice (some ⟨b1, ob1, none⟩) k cc) (os.take k) := fun X hX cc hc => (h1F X hX).take pEnc k hlt cc hc
  obtain ⟨ht1, ht2, ht3⟩ := hS.tid k
  obtain ⟨gs, eg⟩ : ∃ gs, readF left (applyS s (os.take k)) = gs := ⟨_, rfl⟩
  have hB := hS.bef k
  have hA := hS.aft k
  have hAll := hS.aft
  have hBef : ∀ j, rs = rw' → readF left (applyS s (os.take j)) = rw' := fun j e => by
    rcases Nat.lt_or_ge j k0 with hj | hj
    · rw [hS.bef j hj, e]
    · exact hS.aft j hj
  have hTk := fun e => hT e k (Nat.le_refl _)
  rw [eg] at hB hA hTk ht3
  have hgl : gs.length ≤ n := by
    have := readF_len left (applyS s (os.take k))
    rw [eg, applyS_len] at this
    omega
  have hT2' : gs = rw' → ∀ j, k + 1 ≤ j → readF left (applyS s (os.take j)) = rw' := fun e j hj => by
    rcases Nat.lt_or_ge k k0 with hk | hk
    · exact hBef j (by rw [← hB hk, e])
    · exact hAll j (by omega)
  clear hBef hAll hT
  have hln : (applyS s (os.take k)).length = n := by rw [applyS_len]; exact hn
  obtain ⟨sx, esx⟩ : ∃ sx, applyS s (os.take k) = sx := ⟨_, rfl⟩
  rw [esx] at hln ht1 ht2 ht3 eg
  have htl := tidyF_len (left := left) (s := sx)
  rw [ht1] at htl
  dsimp only at htl
  by_cases hgw : gs = rw'
  · have hT1 := fun (_ : true = true) => hT2' hgw
    have hT2 : k0 < k + 1 → true = true := fun _ => rfl
    clear hT2' hTk hB hA hK
    refine CC.seq ?_
    refine CC.seq ?_
    refine CC.region ?_
    refine LL.val (R.move rfl rfl) rfl rfl rfl ?_
    refine LL.val (R.move rfl rfl) rfl rfl rfl ?_
    refine LL.val (R.len rfl rfl rfl rfl) rfl rfl rfl ?_
    refine LL.val (R.leT rfl rfl rfl (by omega)) rfl rfl rfl ?_
    refine LL.nilS ?_
    refine CC.yes rfl ?_
    refine CC.skip ?_
    refine EE.thenN ?_
    refine CC.seq ?_
    refine CC.block ?_
    refine CC.seq ?_
    refine CC.region ?_
    refine LL.val (R.move rfl rfl) rfl rfl rfl ?_
    refine LL.val (R.move rfl rfl) rfl rfl rfl ?_
    refine LL.val (R.move rfl rfl) rfl rfl rfl ?_
    refine LL.val (R.slice rfl rfl rfl rfl rfl (I.slTo rfl (by omega))) rfl rfl rfl ?_
    (refine LL.call (R.call rfl rfl rfl) rfl rfl rfl (dapply_any n _ _ s (os.take k) _ (hvF _ q) hn h (h1k _ q1 _ (by omega)) (by rw [List.length_take]; omega) (fun p hp => hnn p (List.mem_of_mem_take hp))) ?_; rintro e Wd452 ⟨v5, rfl, o5, bd449⟩; rw [esx] at o5; obtain ⟨X5, hzX5, h5F, q5⟩ := exposeT (o5.reads uEnc); clear o5; refine ⟨_, rfl, ?_⟩)
    have zbd449 := bd449.size
    replace q := q.trans (bd449.mono q.size)
    replace q1 := q1.trans (bd449.mono q1.size)
    replace q2 := q2.trans (bd449.mono q2.size)
    replace q3 := q3.trans (bd449.mono q3.size)
    replace q4 := q4.trans (bd449.mono q4.size)
    refine LL.val (R.assign rfl rfl) rfl rfl rfl ?_
    refine LL.nilS ?_
    refine CC.seq ?_
    refine CC.region ?_
    refine LL.val (R.move rfl rfl) rfl rfl rfl ?_
    refine LL.val (R.move rfl rfl) rfl rfl rfl ?_
    (refine LL.call (R.call rfl rfl rfl) rfl rfl rfl (read_any left n _ sx _ (h5F _ q5) hln h) ?_; rintro e Wd634 ⟨v6, rfl, o6, bd631⟩; rw [eg] at o6; obtain ⟨X6, hzX6, h6F, q6⟩ := exposeT (o6.reads prEnc); clear o6; refine ⟨_, rfl, ?_⟩)
    have zbd631 := bd631.size
    replace bd449 := bd449.trans (bd631.mono bd449.size)
    replace q5 := q5.trans (bd631.mono q5.size)
    replace q := q.trans (bd631.mono q.size)
    replace q1 := q1.trans (bd631.mono q1.size)
    replace q2 := q2.trans (bd631.mono q2.size)
    replace q3 := q3.trans (bd631.mono q3.size)
    replace q4 := q4.trans (bd631.mono q4.size)
    refine LL.val (R.assign rfl rfl) rfl rfl rfl ?_
    refine LL.nilS ?_
    refine CC.seq ?_
    refine CC.seq ?_
    refine CC.region ?_
    refine LL.val (R.move rfl rfl) rfl rfl rfl ?_
    refine LL.val (R.move rfl rfl) rfl rfl rfl ?_
    (refine LL.call (R.call rfl rfl rfl) rfl rfl rfl (dprsame_any _ _ gs rw' _ (h6F _ q6) (h4F _ q4) (by omega) (by omega)) ?_; rintro e Wd823 ⟨rfl, bd820⟩; refine ⟨_, rfl, ?_⟩; rw [decide_eq_true hgw])
    have zbd820 := bd820.size
    replace bd631 := bd631.trans (bd820.mono bd631.size)
    replace q6 := q6.trans (bd820.mono q6.size)
    replace bd449 := bd449.trans (bd820.mono bd449.size)
    replace q5 := q5.trans (bd820.mono q5.size)
    replace q := q.trans (bd820.mono q.size)
    replace q1 := q1.trans (bd820.mono q1.size)
    replace q2 := q2.trans (bd820.mono q2.size)
    replace q3 := q3.trans (bd820.mono q3.size)
    replace q4 := q4.trans (bd820.mono q4.size)
    refine LL.nilS ?_
    refine CC.yes rfl ?_
    refine CC.region ?_
    refine LL.val (R.assign rfl rfl) rfl rfl rfl ?_
    refine LL.nilS ?_
    refine CC.seq ?_
    refine CC.region ?_
    refine LL.val (R.move rfl rfl) rfl rfl rfl ?_
    refine LL.val (R.move rfl rfl) rfl rfl rfl ?_
    (refine LL.call (R.call rfl rfl rfl) rfl rfl rfl (tidy_any left n _ sx _ (h5F _ q5) hln h) ?_; rw [ht1]; rintro e Wd1019 ⟨v7, rfl, o7, bd1016⟩; dsimp only at o7; refine ⟨_, rfl, ?_⟩)
    have zbd1016 := bd1016.size
    replace bd820 := bd820.trans (bd1016.mono bd820.size)
    replace bd631 := bd631.trans (bd1016.mono bd631.size)
    replace q6 := q6.trans (bd1016.mono q6.size)
    replace bd449 := bd449.trans (bd1016.mono bd449.size)
    replace q5 := q5.trans (bd1016.mono q5.size)
    replace q := q.trans (bd1016.mono q.size)
    replace q1 := q1.trans (bd1016.mono q1.size)
    replace q2 := q2.trans (bd1016.mono q2.size)
    replace q3 := q3.trans (bd1016.mono q3.size)
    replace q4 := q4.trans (bd1016.mono q4.size)
    refine LL.val (R.move rfl rfl) rfl rfl rfl ?_
    refine LL.val (R.extract rfl rfl rfl) rfl rfl rfl ?_
    refine LL.val (R.extract rfl rfl rfl) rfl rfl rfl ?_
    refine LL.val (R.assign rfl rfl) rfl rfl rfl ?_
    refine LL.val (R.assign rfl rfl) rfl rfl rfl ?_
    refine LL.nilS ?_
    refine CC.seq ?_
    refine CC.region ?_
    refine LL.val (R.move rfl rfl) rfl rfl rfl ?_
    refine LL.val (R.move rfl rfl) rfl rfl rfl ?_
    (refine LL.call (R.call rfl rfl rfl) rfl rfl rfl (dapply_any n _ _ sx (tidyL left sx) _ (h5F _ q5) hln h (o7.reads pEnc) (by omega) tidyL_nn) ?_; rintro e Wd1446 ⟨v8, rfl, o8, bd1443⟩; obtain ⟨X8, hzX8, h8F, q8⟩ := exposeT (o8.reads uEnc); clear o8 o7; refine ⟨_, rfl, ?_⟩)
    have zbd1443 := bd1443.size
    replace bd1016 := bd1016.trans (bd1443.mono bd1016.size)
    replace bd820 := bd820.trans (bd1443.mono bd820.size)
    replace bd631 := bd631.trans (bd1443.mono bd631.size)
    replace q6 := q6.trans (bd1443.mono q6.size)
    replace bd449 := bd449.trans (bd1443.mono bd449.size)
    replace q5 := q5.trans (bd1443.mono q5.size)
    replace q := q.trans (bd1443.mono q.size)
    replace q1 := q1.trans (bd1443.mono q1.size)
    replace q2 := q2.trans (bd1443.mono q2.size)
    replace q3 := q3.trans (bd1443.mono q3.size)
    replace q4 := q4.trans (bd1443.mono q4.size)
    refine LL.val (R.assign rfl rfl) rfl rfl rfl ?_
    refine LL.nilS ?_
    refine CC.seq ?_
    refine CC.region ?_
    refine LL.val (R.move rfl rfl) rfl rfl rfl ?_
    refine LL.call (R.call rfl rfl rfl) rfl rfl rfl (num_any _ _) ?_
    rintro e W' ⟨rfl, rfl⟩
    refine ⟨_, rfl, ?_⟩
    refine LL.val (R.neF rfl rfl rfl (by omega)) rfl rfl rfl ?_
    refine LL.val (R.move rfl rfl) rfl rfl rfl ?_
    refine LL.val (R.move rfl rfl) rfl rfl rfl ?_
    refine LL.val (R.move rfl rfl) rfl rfl rfl ?_
    (refine LL.call (R.call rfl rfl rfl) rfl rfl rfl (check_any left n _ (applyS sx (tidyL left sx)) _ (h8F _ q8) (by rw [applyS_len]; exact hln) h) ?_; rintro e Wd1880 ⟨rfl, bd1877⟩; refine ⟨_, rfl, ?_⟩; rw [ht2])
    have zbd1877 := bd1877.size
    replace bd1443 := bd1443.trans (bd1877.mono bd1443.size)
    replace q8 := q8.trans (bd1877.mono q8.size)
    replace bd1016 := bd1016.trans (bd1877.mono bd1016.size)
    replace bd820 := bd820.trans (bd1877.mono bd820.size)
    replace bd631 := bd631.trans (bd1877.mono bd631.size)
    replace q6 := q6.trans (bd1877.mono q6.size)
    replace bd449 := bd449.trans (bd1877.mono bd449.size)
    replace q5 := q5.trans (bd1877.mono q5.size)
    replace q := q.trans (bd1877.mono q.size)
    replace q1 := q1.trans (bd1877.mono q1.size)
    replace q2 := q2.trans (bd1877.mono q2.size)
    replace q3 := q3.trans (bd1877.mono q3.size)
    replace q4 := q4.trans (bd1877.mono q4.size)
    refine LL.call (R.call rfl rfl rfl) rfl rfl rfl (num_any _ _) ?_
    rintro e W' ⟨rfl, rfl⟩
    refine ⟨_, rfl, ?_⟩
    refine LL.val (R.neF rfl rfl rfl (by omega)) rfl rfl rfl ?_
    refine LL.val (R.pick rfl rfl rfl) rfl rfl rfl ?_
    refine LL.val (R.move rfl rfl) rfl rfl rfl ?_
    refine LL.val (R.move rfl rfl) rfl rfl rfl ?_
    refine LL.val (R.move rfl rfl) rfl rfl rfl ?_
    (refine LL.call (R.call rfl rfl rfl) rfl rfl rfl (read_any left n _ (applyS sx (tidyL left sx)) _ (h8F _ q8) (by rw [applyS_len]; exact hln) h) ?_; rintro e Wd2265 ⟨v9, rfl, o9, bd2262⟩; rw [ht3] at o9; refine ⟨_, rfl, ?_⟩)
    have zbd2262 := bd2262.size
    replace bd1877 := bd1877.trans (bd2262.mono bd1877.size)
    replace bd1443 := bd1443.trans (bd2262.mono bd1443.size)
    replace q8 := q8.trans (bd2262.mono q8.size)
    replace bd1016 := bd1016.trans (bd2262.mono bd1016.size)
    replace bd820 := bd820.trans (bd2262.mono bd820.size)
    replace bd631 := bd631.trans (bd2262.mono bd631.size)
    replace q6 := q6.trans (bd2262.mono q6.size)
    replace bd449 := bd449.trans (bd2262.mono bd449.size)
    replace q5 := q5.trans (bd2262.mono q5.size)
    replace q := q.trans (bd2262.mono q.size)
    replace q1 := q1.trans (bd2262.mono q1.size)
    replace q2 := q2.trans (bd2262.mono q2.size)
    replace q3 := q3.trans (bd2262.mono q3.size)
    replace q4 := q4.trans (bd2262.mono q4.size)
    refine LL.val (R.move rfl rfl) rfl rfl rfl ?_
    (refine LL.call (R.call rfl rfl rfl) rfl rfl rfl (dprsame_any _ _ gs gs _ (o9.reads prEnc) (h6F _ q6) (by omega) (by omega)) ?_; rintro e Wd2377 ⟨rfl, bd2374⟩; refine ⟨_, rfl, ?_⟩; rw [decide_eq_true rfl])
    have zbd2374 := bd2374.size
    replace o9 := o9.up bd2374
    replace bd2262 := bd2262.trans (bd2374.mono bd2262.size)
    replace bd1877 := bd1877.trans (bd2374.mono bd1877.size)
    replace bd1443 := bd1443.trans (bd2374.mono bd1443.size)
    replace q8 := q8.trans (bd2374.mono q8.size)
    replace bd1016 := bd1016.trans (bd2374.mono bd1016.size)
    replace bd820 := bd820.trans (bd2374.mono bd820.size)
    replace bd631 := bd631.trans (bd2374.mono bd631.size)
    replace q6 := q6.trans (bd2374.mono q6.size)
    replace bd449 := bd449.trans (bd2374.mono bd449.size)
    replace q5 := q5.trans (bd2374.mono q5.size)
    replace q := q.trans (bd2374.mono q.size)
    replace q1 := q1.trans (bd2374.mono q1.size)
    replace q2 := q2.trans (bd2374.mono q2.size)
    replace q3 := q3.trans (bd2374.mono q3.size)
    replace q4 := q4.trans (bd2374.mono q4.size)
    refine LL.val (R.not rfl rfl) rfl rfl rfl ?_
    refine LL.val (R.pick rfl rfl rfl) rfl rfl rfl ?_
    refine LL.nilS ?_
    refine CC.no rfl ?_
    refine CC.skip ?_
    refine EE.inN ?_
    refine EE.thenN ?_
    refine CC.region ?_
    refine LL.val (R.move rfl rfl) rfl rfl rfl ?_
    refine LL.val (R.addNc rfl rfl rfl rfl (by omega)) rfl rfl rfl ?_
    refine LL.val (R.assign rfl rfl) rfl rfl rfl ?_
    refine LL.nil ?_
    exact EE.round (k + 1, true) ⟨rfl, rfl, rfl, rfl, rfl, rfl, rfl, rfl, rfl, trivial⟩ ⟨by show k + 1 ≤ os.length + 1; omega, q, q1, q2, q3, q4, hT1, hT2⟩ (by show os.length + 1 - (k + 1) < os.length + 1 - k; omega)
  obtain rfl : tb = false := (by cases tb with | false => rfl | true => exact absurd (hTk rfl) hgw)
  have hkk : k < k0 := Nat.lt_of_not_le fun h => hgw (hA h)
  have hgr := hB hkk
  have hT1 : false = true → ∀ j, k + 1 ≤ j → readF left (applyS s (os.take j)) = rw' := fun h => (by cases h)
  have hT2 : k0 < k + 1 → false = true := fun h => absurd h (by omega)
  clear hT2' hTk hB hA hK
  refine CC.seq ?_
  refine CC.seq ?_
  refine CC.region ?_
  refine LL.val (R.move rfl rfl) rfl rfl rfl ?_
  refine LL.val (R.move rfl rfl) rfl rfl rfl ?_
  refine LL.val (R.len rfl rfl rfl rfl) rfl rfl rfl ?_
  refine LL.val (R.leT rfl rfl rfl (by omega)) rfl rfl rfl ?_
  refine LL.nilS ?_
  refine CC.yes rfl ?_
  refine CC.skip ?_
  refine EE.thenN ?_
  refine CC.seq ?_
  refine CC.block ?_
  refine CC.seq ?_
  refine CC.region ?_
  refine LL.val (R.move rfl rfl) rfl rfl rfl ?_
  refine LL.val (R.move rfl rfl) rfl rfl rfl ?_
  refine LL.val (R.move rfl rfl) rfl rfl rfl ?_
  refine LL.val (R.slice rfl rfl rfl rfl rfl (I.slTo rfl (by omega))) rfl rfl rfl ?_
  (refine LL.call (R.call rfl rfl rfl) rfl rfl rfl (dapply_any n _ _ s (os.take k) _ (hvF _ q) hn h (h1k _ q1 _ (by omega)) (by rw [List.length_take]; omega) (fun p hp => hnn p (List.mem_of_mem_take hp))) ?_; rintro e We508 ⟨v5, rfl, o5, be505⟩; rw [esx] at o5; obtain ⟨X5, hzX5, h5F, q5⟩ := exposeT (o5.reads uEnc); clear o5; refine ⟨_, rfl, ?_⟩)
  have zbe505 := be505.size
  replace q := q.trans (be505.mono q.size)
  replace q1 := q1.trans (be505.mono q1.size)
  replace q2 := q2.trans (be505.mono q2.size)
  replace q3 := q3.trans (be505.mono q3.size)
  replace q4 := q4.trans (be505.mono q4.size)
  refine LL.val (R.assign rfl rfl) rfl rfl rfl ?_
  refine LL.nilS ?_
  refine CC.seq ?_
  refine CC.region ?_
  refine LL.val (R.move rfl rfl) rfl rfl rfl ?_
  refine LL.val (R.move rfl rfl) rfl rfl rfl ?_
  (refine LL.call (R.call rfl rfl rfl) rfl rfl rfl (read_any left n _ sx _ (h5F _ q5) hln h) ?_; rintro e We711 ⟨v6, rfl, o6, be708⟩; rw [eg] at o6; obtain ⟨X6, hzX6, h6F, q6⟩ := exposeT (o6.reads prEnc); clear o6; refine ⟨_, rfl, ?_⟩)
  have zbe708 := be708.size
  replace be505 := be505.trans (be708.mono be505.size)
  replace q5 := q5.trans (be708.mono q5.size)
  replace q := q.trans (be708.mono q.size)
  replace q1 := q1.trans (be708.mono q1.size)
  replace q2 := q2.trans (be708.mono q2.size)
  replace q3 := q3.trans (be708.mono q3.size)
  replace q4 := q4.trans (be708.mono q4.size)
  refine LL.val (R.assign rfl rfl) rfl rfl rfl ?_
  refine LL.nilS ?_
  refine CC.seq ?_
  refine CC.seq ?_
  refine CC.region ?_
  refine LL.val (R.move rfl rfl) rfl rfl rfl ?_
  refine LL.val (R.move rfl rfl) rfl rfl rfl ?_
  (refine LL.call (R.call rfl rfl rfl) rfl rfl rfl (dprsame_any _ _ gs rw' _ (h6F _ q6) (h4F _ q4) (by omega) (by omega)) ?_; rintro e We921 ⟨rfl, be918⟩; refine ⟨_, rfl, ?_⟩; rw [decide_eq_false hgw])
  have zbe918 := be918.size
  replace be708 := be708.trans (be918.mono be708.size)
  replace q6 := q6.trans (be918.mono q6.size)
  replace be505 := be505.trans (be918.mono be505.size)
  replace q5 := q5.trans (be918.mono q5.size)
  replace q := q.trans (be918.mono q.size)
  replace q1 := q1.trans (be918.mono q1.size)
  replace q2 := q2.trans (be918.mono q2.size)
  replace q3 := q3.trans (be918.mono q3.size)
  replace q4 := q4.trans (be918.mono q4.size)
  refine LL.nilS ?_
  refine CC.no rfl ?_
  refine CC.seq ?_
  refine CC.region ?_
  refine LL.val (R.move rfl rfl) rfl rfl rfl ?_
  refine LL.val (R.move rfl rfl) rfl rfl rfl ?_
  refine LL.val (R.move rfl rfl) rfl rfl rfl ?_
  refine LL.val (R.move rfl rfl) rfl rfl rfl ?_
  (refine LL.call (R.call rfl rfl rfl) rfl rfl rfl (dprsame_any _ _ gs rs _ (h6F _ q6) (h2F _ q2) (by omega) (by omega)) ?_; rintro e We1201 ⟨rfl, be1198⟩; refine ⟨_, rfl, ?_⟩; rw [decide_eq_true hgr])
  have zbe1198 := be1198.size
  replace be918 := be918.trans (be1198.mono be918.size)
  replace be708 := be708.trans (be1198.mono be708.size)
  replace q6 := q6.trans (be1198.mono q6.size)
  replace be505 := be505.trans (be1198.mono be505.size)
  replace q5 := q5.trans (be1198.mono q5.size)
  replace q := q.trans (be1198.mono q.size)
  replace q1 := q1.trans (be1198.mono q1.size)
  replace q2 := q2.trans (be1198.mono q2.size)
  replace q3 := q3.trans (be1198.mono q3.size)
  replace q4 := q4.trans (be1198.mono q4.size)
  refine LL.val (R.not rfl rfl) rfl rfl rfl ?_
  refine LL.val (R.pick rfl rfl rfl) rfl rfl rfl ?_
  refine LL.nilS ?_
  refine CC.no rfl ?_
  refine CC.skip ?_
  refine EE.thenN ?_
  refine CC.seq ?_
  refine CC.region ?_
  refine LL.val (R.move rfl rfl) rfl rfl rfl ?_
  refine LL.val (R.move rfl rfl) rfl rfl rfl ?_
  (refine LL.call (R.call rfl rfl rfl) rfl rfl rfl (tidy_any left n _ sx _ (h5F _ q5) hln h) ?_; rw [ht1]; rintro e We1488 ⟨v7, rfl, o7, be1485⟩; dsimp only at o7; refine ⟨_, rfl, ?_⟩)
  have zbe1485 := be1485.size
  replace be1198 := be1198.trans (be1485.mono be1198.size)
  replace be918 := be918.trans (be1485.mono be918.size)
  replace be708 := be708.trans (be1485.mono be708.size)
  replace q6 := q6.trans (be1485.mono q6.size)
  replace be505 := be505.trans (be1485.mono be505.size)
  replace q5 := q5.trans (be1485.mono q5.size)
  replace q := q.trans (be1485.mono q.size)
  replace q1 := q1.trans (be1485.mono q1.size)
  replace q2 := q2.trans (be1485.mono q2.size)
  replace q3 := q3.trans (be1485.mono q3.size)
  replace q4 := q4.trans (be1485.mono q4.size)
  refine LL.val (R.move rfl rfl) rfl rfl rfl ?_
  refine LL.val (R.extract rfl rfl rfl) rfl rfl rfl ?_
  refine LL.val (R.extract rfl rfl rfl) rfl rfl rfl ?_
  refine LL.val (R.assign rfl rfl) rfl rfl rfl ?_
  refine LL.val (R.assign rfl rfl) rfl rfl rfl ?_
  refine LL.nilS ?_
  refine CC.seq ?_
  refine CC.region ?_
  refine LL.val (R.move rfl rfl) rfl rfl rfl ?_
  refine LL.val (R.move rfl rfl) rfl rfl rfl ?_
  (refine LL.call (R.call rfl rfl rfl) rfl rfl rfl (dapply_any n _ _ sx (tidyL left sx) _ (h5F _ q5) hln h (o7.reads pEnc) (by omega) tidyL_nn) ?_; rintro e We1971 ⟨v8, rfl, o8, be1968⟩; obtain ⟨X8, hzX8, h8F, q8⟩ := exposeT (o8.reads uEnc); clear o8 o7; refine ⟨_, rfl, ?_⟩)
  have zbe1968 := be1968.size
  replace be1485 := be1485.trans (be1968.mono be1485.size)
  replace be1198 := be1198.trans (be1968.mono be1198.size)
  replace be918 := be918.trans (be1968.mono be918.size)
  replace be708 := be708.trans (be1968.mono be708.size)
  replace q6 := q6.trans (be1968.mono q6.size)
  replace be505 := be505.trans (be1968.mono be505.size)
  replace q5 := q5.trans (be1968.mono q5.size)
  replace q := q.trans (be1968.mono q.size)
  replace q1 := q1.trans (be1968.mono q1.size)
  replace q2 := q2.trans (be1968.mono q2.size)
  replace q3 := q3.trans (be1968.mono q3.size)
  replace q4 := q4.trans (be1968.mono q4.size)
  refine LL.val (R.assign rfl rfl) rfl rfl rfl ?_
  refine LL.nilS ?_
  refine CC.seq ?_
  refine CC.region ?_
  refine LL.val (R.move rfl rfl) rfl rfl rfl ?_
  refine LL.call (R.call rfl rfl rfl) rfl rfl rfl (num_any _ _) ?_
  rintro e W' ⟨rfl, rfl⟩
  refine ⟨_, rfl, ?_⟩
  refine LL.val (R.neF rfl rfl rfl (by omega)) rfl rfl rfl ?_
  refine LL.val (R.move rfl rfl) rfl rfl rfl ?_
  refine LL.val (R.move rfl rfl) rfl rfl rfl ?_
  refine LL.val (R.move rfl rfl) rfl rfl rfl ?_
  (refine LL.call (R.call rfl rfl rfl) rfl rfl rfl (check_any left n _ (applyS sx (tidyL left sx)) _ (h8F _ q8) (by rw [applyS_len]; exact hln) h) ?_; rintro e We2461 ⟨rfl, be2458⟩; refine ⟨_, rfl, ?_⟩; rw [ht2])
  have zbe2458 := be2458.size
  replace be1968 := be1968.trans (be2458.mono be1968.size)
  replace q8 := q8.trans (be2458.mono q8.size)
  replace be1485 := be1485.trans (be2458.mono be1485.size)
  replace be1198 := be1198.trans (be2458.mono be1198.size)
  replace be918 := be918.trans (be2458.mono be918.size)
  replace be708 := be708.trans (be2458.mono be708.size)
  replace q6 := q6.trans (be2458.mono q6.size)
  replace be505 := be505.trans (be2458.mono be505.size)
  replace q5 := q5.trans (be2458.mono q5.size)
  replace q := q.trans (be2458.mono q.size)
  replace q1 := q1.trans (be2458.mono q1.size)
  replace q2 := q2.trans (be2458.mono q2.size)
  replace q3 := q3.trans (be2458.mono q3.size)
  replace q4 := q4.trans (be2458.mono q4.size)
  refine LL.call (R.call rfl rfl rfl) rfl rfl rfl (num_any _ _) ?_
  rintro e W' ⟨rfl, rfl⟩
  refine ⟨_, rfl, ?_⟩
  refine LL.val (R.neF rfl rfl rfl (by omega)) rfl rfl rfl ?_
  refine LL.val (R.pick rfl rfl rfl) rfl rfl rfl ?_
  refine LL.val (R.move rfl rfl) rfl rfl rfl ?_
  refine LL.val (R.move rfl rfl) rfl rfl rfl ?_
  refine LL.val (R.move rfl rfl) rfl rfl rfl ?_
  (refine LL.call (R.call rfl rfl rfl) rfl rfl rfl (read_any left n _ (applyS sx (tidyL left sx)) _ (h8F _ q8) (by rw [applyS_len]; exact hln) h) ?_; rintro e We2895 ⟨v9, rfl, o9, be2892⟩; rw [ht3] at o9; refine ⟨_, rfl, ?_⟩)
  have zbe2892 := be2892.size
  replace be2458 := be2458.trans (be2892.mono be2458.size)
  replace be1968 := be1968.trans (be2892.mono be1968.size)
  replace q8 := q8.trans (be2892.mono q8.size)
  replace be1485 := be1485.trans (be2892.mono be1485.size)
  replace be1198 := be1198.trans (be2892.mono be1198.size)
  replace be918 := be918.trans (be2892.mono be918.size)
  replace be708 := be708.trans (be2892.mono be708.size)
  replace q6 := q6.trans (be2892.mono q6.size)
  replace be505 := be505.trans (be2892.mono be505.size)
  replace q5 := q5.trans (be2892.mono q5.size)
  replace q := q.trans (be2892.mono q.size)
  replace q1 := q1.trans (be2892.mono q1.size)
  replace q2 := q2.trans (be2892.mono q2.size)
  replace q3 := q3.trans (be2892.mono q3.size)
  replace q4 := q4.trans (be2892.mono q4.size)
  refine LL.val (R.move rfl rfl) rfl rfl rfl ?_
  (refine LL.call (R.call rfl rfl rfl) rfl rfl rfl (dprsame_any _ _ gs gs _ (o9.reads prEnc) (h6F _ q6) (by omega) (by omega)) ?_; rintro e We3021 ⟨rfl, be3018⟩; refine ⟨_, rfl, ?_⟩; rw [decide_eq_true rfl])
  have zbe3018 := be3018.size
  replace o9 := o9.up be3018
  replace be2892 := be2892.trans (be3018.mono be2892.size)
  replace be2458 := be2458.trans (be3018.mono be2458.size)
  replace be1968 := be1968.trans (be3018.mono be1968.size)
  replace q8 := q8.trans (be3018.mono q8.size)
  replace be1485 := be1485.trans (be3018.mono be1485.size)
  replace be1198 := be1198.trans (be3018.mono be1198.size)
  replace be918 := be918.trans (be3018.mono be918.size)
  replace be708 := be708.trans (be3018.mono be708.size)
  replace q6 := q6.trans (be3018.mono q6.size)
  replace be505 := be505.trans (be3018.mono be505.size)
  replace q5 := q5.trans (be3018.mono q5.size)
  replace q := q.trans (be3018.mono q.size)
  replace q1 := q1.trans (be3018.mono q1.size)
  replace q2 := q2.trans (be3018.mono q2.size)
  replace q3 := q3.trans (be3018.mono q3.size)
  replace q4 := q4.trans (be3018.mono q4.size)
  refine LL.val (R.not rfl rfl) rfl rfl rfl ?_
  refine LL.val (R.pick rfl rfl rfl) rfl rfl rfl ?_
  refine LL.nilS ?_
  refine CC.no rfl ?_
  refine CC.skip ?_
  refine EE.inN ?_
  refine EE.thenN ?_
  refine CC.region ?_
  refine LL.val (R.move rfl rfl) rfl rfl rfl ?_
  refine LL.val (R.addNc rfl rfl rfl rfl (by omega)) rfl rfl rfl ?_
  refine LL.val (R.assign rfl rfl) rfl rfl rfl ?_
  refine LL.nil ?_
  exact EE.round (k + 1, false) ⟨rfl, rfl, rfl, rfl, rfl, rfl, rfl, rfl, rfl, trivial⟩ ⟨by show k + 1 ≤ os.length + 1; omega, q, q1, q2, q3, q4, hT1, hT2⟩ (by show os.length + 1 - (k + 1) < os.length + 1 - k; omega)
--C law09_num | num_any _ @w | S
theorem steps_take (left n k p : Nat) (z : Int) (hz : z = 1) (v : Value) (s : List Nat) (w : World) (hv : ReadsT uE 1 w v s) (hn : s.length = n) : Calls Try.prog 8 #[.int .u64 (left : Int), v, .int .i64 z, .agg #[.int .u64 (k : Int), .int .u64 (p : Int)]] w fun e w' => e = .returned (.bool true) ∧ Below w.heap.size w w' := by
  have q := Below.refl w.heap.size w
  obtain ⟨a, c, rfl, hc⟩ := hv.form hn
  have hvF : ∀ X, Below w.heap.size w X → ReadsT uE 1 X (.slice a n c) s := fun X b => hv.up b
  clear hv
  by_cases h80 : 80 < n
  · refine X.fn Try.func8 rfl (n := 142) rfl rfl ?_
    refine CC.seq ?_
    refine CC.region ?_
    refine LL.box [Value.int IntKind.u64 ↑k, Value.int IntKind.u64 ↑p] rfl rfl rfl rfl rfl ?_
    intro W9 g10 eg10 r11 z12 b8
    replace q := q.trans (b8.mono q.size)
    refine LL.val (R.assign rfl rfl) rfl rfl rfl ?_
    refine LL.nilS ?_
    refine CC.seq ?_
    refine CC.seq ?_
    refine CC.region ?_
    refine LL.val (R.move rfl rfl) rfl rfl rfl ?_
    refine LL.val (R.len rfl rfl rfl rfl) rfl rfl rfl ?_
    refine LL.val (R.gtT rfl rfl rfl (by omega)) rfl rfl rfl ?_
    refine LL.nilS ?_
    refine CC.yes rfl ?_
    refine CC.seq ?_
    refine CC.region ?_
    have l49 := r11.lt
    (refine LL.call (R.call rfl rfl rfl) rfl rfl rfl (works_any _) ?_; rintro e W48 ⟨rfl, b45⟩; refine ⟨_, rfl, ?_⟩)
    have zb45 := b45.size
    replace r11 := r11.up b45
    replace b8 := b8.trans (b45.mono b8.size)
    replace q := q.trans (b45.mono q.size)
    refine LL.val (R.assign rfl rfl) rfl rfl rfl ?_
    refine LL.nilS ?_
    refine CC.ret ?_
    refine EE.thenR ?_
    refine EE.ret _ rfl rfl ?_
    exact ⟨rfl, q⟩
  have h : n ≤ 1048576 := by omega
  have hlen := takeF_len (left := left) (k := k) hn h
  obtain ⟨⟨cd, os⟩, eT⟩ : ∃ r, takeF left s k = r := ⟨_, rfl⟩
  have hans := take_ans left s k
  rw [eT] at hans hlen
  rcases hans with ⟨h0, hos⟩ | ⟨h0, hrow, hset, hne, hnn, hst⟩
  · dsimp only at h0 hos
    subst hos
    refine X.fn Try.func8 rfl (n := 142) rfl rfl ?_
    refine CC.seq ?_
    refine CC.region ?_
    refine LL.box [Value.int IntKind.u64 ↑k, Value.int IntKind.u64 ↑p] rfl rfl rfl rfl rfl ?_
    intro Wa16 ga17 ega17 ra18 za19 ba15
    replace q := q.trans (ba15.mono q.size)
    refine LL.val (R.assign rfl rfl) rfl rfl rfl ?_
    refine LL.nilS ?_
    refine CC.seq ?_
    refine CC.seq ?_
    refine CC.region ?_
    refine LL.val (R.move rfl rfl) rfl rfl rfl ?_
    refine LL.val (R.len rfl rfl rfl rfl) rfl rfl rfl ?_
    refine LL.val (R.gtF rfl rfl rfl (by omega)) rfl rfl rfl ?_
    refine LL.nilS ?_
    refine CC.no rfl ?_
    refine CC.skip ?_
    refine EE.thenN ?_
    refine CC.seq ?_
    refine CC.region ?_
    refine LL.val (R.assign rfl rfl) rfl rfl rfl ?_
    refine LL.nilS ?_
    refine CC.seq ?_
    refine CC.region ?_
    refine LL.val (R.assign rfl rfl) rfl rfl rfl ?_
    refine LL.nilS ?_
    refine CC.seq ?_
    refine CC.seq ?_
    refine CC.region ?_
    refine LL.val (R.move rfl rfl) rfl rfl rfl ?_
    refine LL.nilS ?_
    refine CC.block ?_
    refine CC.seq ?_
    refine CC.region ?_
    refine LL.val (R.eqF rfl rfl rfl (by omega)) rfl rfl rfl ?_
    refine LL.val (R.assign rfl rfl) rfl rfl rfl ?_
    refine LL.nilS ?_
    refine CC.no rfl ?_
    refine CC.seq ?_
    refine CC.region ?_
    refine LL.val (R.eqT rfl rfl rfl (by omega)) rfl rfl rfl ?_
    refine LL.val (R.assign rfl rfl) rfl rfl rfl ?_
    refine LL.nilS ?_
    refine CC.yes rfl ?_
    refine CC.region ?_
    refine LL.val (R.move rfl rfl) rfl rfl rfl ?_
    refine LL.val (R.move rfl rfl) rfl rfl rfl ?_
    refine LL.val (R.field rfl rfl (I.fld rfl)) rfl rfl rfl ?_
    refine LL.val (R.load rfl rfl (I.ld1 rfl (RowL.cell ra18 rfl))) rfl rfl rfl ?_
    have la264 := ra18.lt
    (refine LL.call (R.call rfl rfl rfl) rfl rfl rfl (take_any left n k _ s _ (hvF _ q) hn h) ?_; rw [eT]; rintro e Wa263 ⟨v1, rfl, o1, ba260⟩; dsimp only at o1; obtain ⟨a1, c1, rfl, hc1⟩ := (o1.reads pEnc).form (n := 0) rfl; refine ⟨_, rfl, ?_⟩)
    have zba260 := ba260.size
    replace ra18 := ra18.up ba260
    replace ba15 := ba15.trans (ba260.mono ba15.size)
    replace q := q.trans (ba260.mono q.size)
    refine LL.val (R.move rfl rfl) rfl rfl rfl ?_
    refine LL.val (R.extract rfl rfl rfl) rfl rfl rfl ?_
    refine LL.val (R.extract rfl rfl rfl) rfl rfl rfl ?_
    refine LL.val (R.assign rfl rfl) rfl rfl rfl ?_
    refine LL.val (R.assign rfl rfl) rfl rfl rfl ?_
    refine LL.nil ?_
    refine EE.inN ?_
    refine EE.thenN ?_
    refine CC.seq ?_
    refine CC.seq ?_
    refine CC.region ?_
    refine LL.val (R.move rfl rfl) rfl rfl rfl ?_
    refine LL.call (R.call rfl rfl rfl) rfl rfl rfl (num_any _ _) ?_
    rintro e W' ⟨rfl, rfl⟩
    refine ⟨_, rfl, ?_⟩
    refine LL.val (R.neT rfl rfl rfl (by omega)) rfl rfl rfl ?_
    refine LL.nilS ?_
    refine CC.yes rfl ?_
    refine CC.seq ?_
    refine CC.region ?_
    refine LL.val (R.move rfl rfl) rfl rfl rfl ?_
    refine LL.val (R.len rfl rfl rfl rfl) rfl rfl rfl ?_
    refine LL.val (R.eqT rfl rfl rfl (by omega)) rfl rfl rfl ?_
    refine LL.val (R.move rfl rfl) rfl rfl rfl ?_
    have la472 := ra18.lt
    (refine LL.call (R.call rfl rfl rfl) rfl rfl rfl (works_any _) ?_; rintro e Wa471 ⟨rfl, ba468⟩; refine ⟨_, rfl, ?_⟩)
    have zba468 := ba468.size
    replace ba260 := ba260.trans (ba468.mono ba260.size)
    replace o1 := o1.up ba468
    replace ra18 := ra18.up ba468
    replace ba15 := ba15.trans (ba468.mono ba15.size)
    replace q := q.trans (ba468.mono q.size)
    refine LL.val (R.pick rfl rfl rfl) rfl rfl rfl ?_
    refine LL.val (R.assign rfl rfl) rfl rfl rfl ?_
    refine LL.nilS ?_
    refine CC.ret ?_
    refine EE.thenR ?_
    refine EE.ret _ rfl rfl ?_
    exact ⟨rfl, q⟩
  dsimp only at h0 hne hnn hst hlen
  subst h0
  obtain ⟨k0, rs, rw', hS⟩ := seen_of hn hrow hset hst
  clear hrow hset hst
  have hl1 := hS.l1
  have hl2 := hS.l2
  have hlen' := hS.len
  have hk0 := hS.le
  have hpos : 0 < os.length := List.length_pos_iff.2 hne
  refine X.fn Try.func8 rfl (n := 142) rfl rfl ?_
  refine CC.seq ?_
  refine CC.region ?_
  refine LL.box [Value.int IntKind.u64 ↑k, Value.int IntKind.u64 ↑p] rfl rfl rfl rfl rfl ?_
  intro Wb30 gb31 egb31 rb32 zb33 bb29
  replace q := q.trans (bb29.mono q.size)
  refine LL.val (R.assign rfl rfl) rfl rfl rfl ?_
  refine LL.nilS ?_
  refine CC.seq ?_
  refine CC.seq ?_
  refine CC.region ?_
  refine LL.val (R.move rfl rfl) rfl rfl rfl ?_
  refine LL.val (R.len rfl rfl rfl rfl) rfl rfl rfl ?_
  refine LL.val (R.gtF rfl rfl rfl (by omega)) rfl rfl rfl ?_
  refine LL.nilS ?_
  refine CC.no rfl ?_
  refine CC.skip ?_
  refine EE.thenN ?_
  refine CC.seq ?_
  refine CC.region ?_
  refine LL.val (R.assign rfl rfl) rfl rfl rfl ?_
  refine LL.nilS ?_
  refine CC.seq ?_
  refine CC.region ?_
  refine LL.val (R.assign rfl rfl) rfl rfl rfl ?_
  refine LL.nilS ?_
  refine CC.seq ?_
  refine CC.seq ?_
  refine CC.region ?_
  refine LL.val (R.move rfl rfl) rfl rfl rfl ?_
  refine LL.nilS ?_
  refine CC.block ?_
  refine CC.seq ?_
  refine CC.region ?_
  refine LL.val (R.eqF rfl rfl rfl (by omega)) rfl rfl rfl ?_
  refine LL.val (R.assign rfl rfl) rfl rfl rfl ?_
  refine LL.nilS ?_
  refine CC.no rfl ?_
  refine CC.seq ?_
  refine CC.region ?_
  refine LL.val (R.eqT rfl rfl rfl (by omega)) rfl rfl rfl ?_
  refine LL.val (R.assign rfl rfl) rfl rfl rfl ?_
  refine LL.nilS ?_
  refine CC.yes rfl ?_
  refine CC.region ?_
  refine LL.val (R.move rfl rfl) rfl rfl rfl ?_
  refine LL.val (R.move rfl rfl) rfl rfl rfl ?_
  refine LL.val (R.field rfl rfl (I.fld rfl)) rfl rfl rfl ?_
  refine LL.val (R.load rfl rfl (I.ld1 rfl (RowL.cell rb32 rfl))) rfl rfl rfl ?_
  have lb518 := rb32.lt
  (refine LL.call (R.call rfl rfl rfl) rfl rfl rfl (take_any left n k _ s _ (hvF _ q) hn h) ?_; rw [eT]; rintro e Wb517 ⟨v1, rfl, o1, bb514⟩; dsimp only at o1; obtain ⟨a1, c1, rfl, hc1⟩ := (o1.reads pEnc).form rfl; obtain ⟨X1, hzX1, h1F, q1⟩ := exposeT (o1.reads pEnc); clear o1; refine ⟨_, rfl, ?_⟩)
  have zbb514 := bb514.size
  replace rb32 := rb32.up bb514
  replace bb29 := bb29.trans (bb514.mono bb29.size)
  replace q := q.trans (bb514.mono q.size)
  refine LL.val (R.move rfl rfl) rfl rfl rfl ?_
  refine LL.val (R.extract rfl rfl rfl) rfl rfl rfl ?_
  refine LL.val (R.extract rfl rfl rfl) rfl rfl rfl ?_
  refine LL.val (R.assign rfl rfl) rfl rfl rfl ?_
  refine LL.val (R.assign rfl rfl) rfl rfl rfl ?_
  refine LL.nil ?_
  refine EE.inN ?_
  refine EE.thenN ?_
  refine CC.seq ?_
  refine CC.seq ?_
  refine CC.region ?_
  refine LL.val (R.move rfl rfl) rfl rfl rfl ?_
  refine LL.call (R.call rfl rfl rfl) rfl rfl rfl (num_any _ _) ?_
  rintro e W' ⟨rfl, rfl⟩
  refine ⟨_, rfl, ?_⟩
  refine LL.val (R.neF rfl rfl rfl (by omega)) rfl rfl rfl ?_
  refine LL.nilS ?_
  refine CC.no rfl ?_
  refine CC.skip ?_
  refine EE.thenN ?_
  refine CC.seq ?_
  refine CC.region ?_
  refine LL.val (R.move rfl rfl) rfl rfl rfl ?_
  refine LL.val (R.move rfl rfl) rfl rfl rfl ?_
  have lb854 := rb32.lt
  (refine LL.call (R.call rfl rfl rfl) rfl rfl rfl (read_any left n _ s _ (hvF _ q) hn h) ?_; rintro e Wb853 ⟨v2, rfl, o2, bb850⟩; rw [hS.was] at o2; obtain ⟨a2, c2, rfl, hc2⟩ := (o2.reads prEnc).form rfl; obtain ⟨X2, hzX2, h2F, q2⟩ := exposeT (o2.reads prEnc); clear o2; refine ⟨_, rfl, ?_⟩)
  have zbb850 := bb850.size
  replace bb514 := bb514.trans (bb850.mono bb514.size)
  replace q1 := q1.trans (bb850.mono q1.size)
  replace rb32 := rb32.up bb850
  replace bb29 := bb29.trans (bb850.mono bb29.size)
  replace q := q.trans (bb850.mono q.size)
  refine LL.val (R.assign rfl rfl) rfl rfl rfl ?_
  refine LL.nilS ?_
  refine CC.seq ?_
  refine CC.region ?_
  refine LL.val (R.move rfl rfl) rfl rfl rfl ?_
  refine LL.val (R.move rfl rfl) rfl rfl rfl ?_
  have lb974 := rb32.lt
  (refine LL.call (R.call rfl rfl rfl) rfl rfl rfl (dapply_any n _ _ s os _ (hvF _ q) hn h (h1F _ q1) (by omega) hnn) ?_; rintro e Wb973 ⟨v3, rfl, o3, bb970⟩; obtain ⟨X3, hzX3, h3F, q3⟩ := exposeT (o3.reads uEnc); clear o3; refine ⟨_, rfl, ?_⟩)
  have zbb970 := bb970.size
  replace bb850 := bb850.trans (bb970.mono bb850.size)
  replace q2 := q2.trans (bb970.mono q2.size)
  replace bb514 := bb514.trans (bb970.mono bb514.size)
  replace q1 := q1.trans (bb970.mono q1.size)
  replace rb32 := rb32.up bb970
  replace bb29 := bb29.trans (bb970.mono bb29.size)
  replace q := q.trans (bb970.mono q.size)
  refine LL.val (R.assign rfl rfl) rfl rfl rfl ?_
  refine LL.nilS ?_
  refine CC.seq ?_
  refine CC.region ?_
  refine LL.val (R.move rfl rfl) rfl rfl rfl ?_
  refine LL.val (R.move rfl rfl) rfl rfl rfl ?_
  have lb1102 := rb32.lt
  (refine LL.call (R.call rfl rfl rfl) rfl rfl rfl (read_any left n _ (applyS s os) _ (h3F _ q3) (by rw [applyS_len]; exact hn) h) ?_; rintro e Wb1101 ⟨v4, rfl, o4, bb1098⟩; rw [hS.will] at o4; obtain ⟨a4, c4, rfl, hc4⟩ := (o4.reads prEnc).form rfl; obtain ⟨X4, hzX4, h4F, q4⟩ := exposeT (o4.reads prEnc); clear o4; refine ⟨_, rfl, ?_⟩)
  have zbb1098 := bb1098.size
  replace bb970 := bb970.trans (bb1098.mono bb970.size)
  replace q3 := q3.trans (bb1098.mono q3.size)
  replace bb850 := bb850.trans (bb1098.mono bb850.size)
  replace q2 := q2.trans (bb1098.mono q2.size)
  replace bb514 := bb514.trans (bb1098.mono bb514.size)
  replace q1 := q1.trans (bb1098.mono q1.size)
  replace rb32 := rb32.up bb1098
  replace bb29 := bb29.trans (bb1098.mono bb29.size)
  replace q := q.trans (bb1098.mono q.size)
  refine LL.val (R.assign rfl rfl) rfl rfl rfl ?_
  refine LL.nilS ?_
  refine CC.seq ?_
  refine CC.region ?_
  refine LL.val (R.assign rfl rfl) rfl rfl rfl ?_
  refine LL.nilS ?_
  refine CC.seq ?_
  refine CC.seq ?_
  refine CC.region ?_
  refine LL.val (R.assign rfl rfl) rfl rfl rfl ?_
  refine LL.nilS ?_
  refine CC.block ?_
  obtain ⟨x0, hx0⟩ : ∃ x0, os[0]? = some x0 := ⟨_, List.getElem?_eq_getElem hpos⟩
  obtain ⟨b1, ob1, rfl, lb1, _⟩ := (h1F _ q1).get pEnc hx0
  have yq := q.size
  refine CC.loop (α := Nat × Bool) (fun x => [(0, .int .u64 (left : Int)), (1, .slice a n c), (2, .int .i64 z), (9, .slice (some ⟨b1, ob1, none⟩) os.length c1), (11, .slice a2 rs.length c2), (12, v3), (13, .slice a4 rw'.length c4), (14, .bool x.2), (15, .int .i64 (x.1 : Int))])
    (fun x W => x.1 ≤ os.length + 1 ∧ Below w.heap.size w W ∧ Below X1.heap.size X1 W ∧ Below X2.heap.size X2 W ∧ Below X3.heap.size X3 W ∧ Below X4.heap.size X4 W ∧ (x.2 = true → ∀ j, x.1 ≤ j → readF left (applyS s (os.take j)) = rw') ∧ (k0 < x.1 → x.2 = true)) (fun x => os.length + 1 - x.1) (0, false) ⟨rfl, rfl, rfl, rfl, rfl, rfl, rfl, rfl, rfl, trivial⟩ ⟨Nat.zero_le _, q, q1, q2, q3, q4, fun h => (by cases h), fun h => absurd h (Nat.not_lt_zero _)⟩ ?_
  clear q q1 q2 q3 q4 yq
  rintro ⟨k, tb⟩ W ⟨hi, q, q1, q2, q3, q4, hT, hK⟩
  simp only at hi hT hK
  have yq := q.size
  show CC none Try.prog _ 142 [] (sl [(0, .int .u64 (left : Int)), (1, .slice a n c), (2, .int .i64 z), (9, .slice (some ⟨b1, ob1, none⟩) os.length c1), (11, .slice a2 rs.length c2), (12, v3), (13, .slice a4 rw'.length c4), (14, .bool tb), (15, .int .i64 (k : Int))]) _ W
  by_cases hlt : k ≤ os.length
  case neg =>
    obtain rfl := hK (by omega)
    clear hT hK
    refine CC.seq ?_
    refine CC.seq ?_
    refine CC.region ?_
    refine LL.val (R.move rfl rfl) rfl rfl rfl ?_
    refine LL.val (R.move rfl rfl) rfl rfl rfl ?_
    refine LL.val (R.len rfl rfl rfl rfl) rfl rfl rfl ?_
    refine LL.val (R.leF rfl rfl rfl (by omega)) rfl rfl rfl ?_
    refine LL.nilS ?_
    refine CC.no rfl ?_
    refine CC.exit ?_
    refine EE.thenX ?_
    refine EE.thenX ?_
    refine EE.inX ?_
    refine EE.thenN ?_
    refine CC.seq ?_
    refine CC.region ?_
    refine LL.val (R.move rfl rfl) rfl rfl rfl ?_
    refine LL.val (R.move rfl rfl) rfl rfl rfl ?_
    refine LL.val (R.move rfl rfl) rfl rfl rfl ?_
    refine LL.val (R.move rfl rfl) rfl rfl rfl ?_
    (refine LL.call (R.call rfl rfl rfl) rfl rfl rfl (check_any left n _ (applyS s os) _ (h3F _ q3) (by rw [applyS_len]; exact hn) h) ?_; rintro e Wc116 ⟨rfl, bc113⟩; refine ⟨_, rfl, ?_⟩; rw [hS.chk])
    have zbc113 := bc113.size
    replace q := q.trans (bc113.mono q.size)
    replace q1 := q1.trans (bc113.mono q1.size)
    replace q2 := q2.trans (bc113.mono q2.size)
    replace q3 := q3.trans (bc113.mono q3.size)
    replace q4 := q4.trans (bc113.mono q4.size)
    refine LL.call (R.call rfl rfl rfl) rfl rfl rfl (num_any _ _) ?_
    rintro e W' ⟨rfl, rfl⟩
    refine ⟨_, rfl, ?_⟩
    refine LL.val (R.eqT rfl rfl rfl (by omega)) rfl rfl rfl ?_
    refine LL.val (R.pick rfl rfl rfl) rfl rfl rfl ?_
    refine LL.val (R.move rfl rfl) rfl rfl rfl ?_
    refine LL.val (R.move rfl rfl) rfl rfl rfl ?_
    refine LL.val (R.len rfl rfl rfl rfl) rfl rfl rfl ?_
    refine LL.val (R.move rfl rfl) rfl rfl rfl ?_
    refine LL.val (R.len rfl rfl rfl rfl) rfl rfl rfl ?_
    refine LL.val (R.move rfl rfl) rfl rfl rfl ?_
    (refine LL.call (R.call rfl rfl rfl) rfl rfl rfl (change_any _ (-1) (by simp [*]) _) ?_; rintro e W' ⟨rfl, rfl⟩; refine ⟨_, rfl, ?_⟩)
    refine LL.val (R.addI rfl rfl rfl (by omega)) rfl rfl rfl ?_
    refine LL.val (R.eqT rfl rfl rfl (by omega)) rfl rfl rfl ?_
    refine LL.val (R.pick rfl rfl rfl) rfl rfl rfl ?_
    refine LL.val (R.move rfl rfl) rfl rfl rfl ?_
    (refine LL.call (R.call rfl rfl rfl) rfl rfl rfl (works_any _) ?_; rintro e Wc319 ⟨rfl, bc316⟩; refine ⟨_, rfl, ?_⟩)
    have zbc316 := bc316.size
    replace bc113 := bc113.trans (bc316.mono bc113.size)
    replace q := q.trans (bc316.mono q.size)
    replace q1 := q1.trans (bc316.mono q1.size)
    replace q2 := q2.trans (bc316.mono q2.size)
    replace q3 := q3.trans (bc316.mono q3.size)
    replace q4 := q4.trans (bc316.mono q4.size)
    refine LL.val (R.pick rfl rfl rfl) rfl rfl rfl ?_
    refine LL.val (R.assign rfl rfl) rfl rfl rfl ?_
    refine LL.nilS ?_
    refine CC.ret ?_
    refine EE.ret _ rfl rfl ?_
    exact ⟨rfl, q⟩
  have h1k : ∀ X, Below X1.heap.size X1 X → ∀ cc, k ≤ cc → ReadsT pE 2 X (.slice (some ⟨b1, ob1, none⟩) k cc) (os.take k) := fun X hX cc hc => (h1F X hX).take pEnc k hlt cc hc
  obtain ⟨ht1, ht2, ht3⟩ := hS.tid k
  obtain ⟨gs, eg⟩ : ∃ gs, readF left (applyS s (os.take k)) = gs := ⟨_, rfl⟩
  have hB := hS.bef k
  have hA := hS.aft k
  have hAll := hS.aft
  have hBef : ∀ j, rs = rw' → readF left (applyS s (os.take j)) = rw' := fun j e => by
    rcases Nat.lt_or_ge j k0 with hj | hj
    · rw [hS.bef j hj, e]
    · exact hS.aft j hj
  have hTk := fun e => hT e k (Nat.le_refl _)
  rw [eg] at hB hA hTk ht3
  have hgl : gs.length ≤ n := by
    have := readF_len left (applyS s (os.take k))
    rw [eg, applyS_len] at this
    omega
  have hT2' : gs = rw' → ∀ j, k + 1 ≤ j → readF left (applyS s (os.take j)) = rw' := fun e j hj => by
    rcases Nat.lt_or_ge k k0 with hk | hk
    · exact hBef j (by rw [← hB hk, e])
    · exact hAll j (by omega)
  clear hBef hAll hT
  have hln : (applyS s (os.take k)).length = n := by rw [applyS_len]; exact hn
  obtain ⟨sx, esx⟩ : ∃ sx, applyS s (os.take k) = sx := ⟨_, rfl⟩
  rw [esx] at hln ht1 ht2 ht3 eg
  have htl := tidyF_len (left := left) (s := sx)
  rw [ht1] at htl
  dsimp only at htl
  by_cases hgw : gs = rw'
  · have hT1 := fun (_ : true = true) => hT2' hgw
    have hT2 : k0 < k + 1 → true = true := fun _ => rfl
    clear hT2' hTk hB hA hK
    refine CC.seq ?_
    refine CC.seq ?_
    refine CC.region ?_
    refine LL.val (R.move rfl rfl) rfl rfl rfl ?_
    refine LL.val (R.move rfl rfl) rfl rfl rfl ?_
    refine LL.val (R.len rfl rfl rfl rfl) rfl rfl rfl ?_
    refine LL.val (R.leT rfl rfl rfl (by omega)) rfl rfl rfl ?_
    refine LL.nilS ?_
    refine CC.yes rfl ?_
    refine CC.skip ?_
    refine EE.thenN ?_
    refine CC.seq ?_
    refine CC.block ?_
    refine CC.seq ?_
    refine CC.region ?_
    refine LL.val (R.move rfl rfl) rfl rfl rfl ?_
    refine LL.val (R.move rfl rfl) rfl rfl rfl ?_
    refine LL.val (R.move rfl rfl) rfl rfl rfl ?_
    refine LL.val (R.slice rfl rfl rfl rfl rfl (I.slTo rfl (by omega))) rfl rfl rfl ?_
    (refine LL.call (R.call rfl rfl rfl) rfl rfl rfl (dapply_any n _ _ s (os.take k) _ (hvF _ q) hn h (h1k _ q1 _ (by omega)) (by rw [List.length_take]; omega) (fun p hp => hnn p (List.mem_of_mem_take hp))) ?_; rintro e Wd452 ⟨v5, rfl, o5, bd449⟩; rw [esx] at o5; obtain ⟨X5, hzX5, h5F, q5⟩ := exposeT (o5.reads uEnc); clear o5; refine ⟨_, rfl, ?_⟩)
    have zbd449 := bd449.size
    replace q := q.trans (bd449.mono q.size)
    replace q1 := q1.trans (bd449.mono q1.size)
    replace q2 := q2.trans (bd449.mono q2.size)
    replace q3 := q3.trans (bd449.mono q3.size)
    replace q4 := q4.trans (bd449.mono q4.size)
    refine LL.val (R.assign rfl rfl) rfl rfl rfl ?_
    refine LL.nilS ?_
    refine CC.seq ?_
    refine CC.region ?_
    refine LL.val (R.move rfl rfl) rfl rfl rfl ?_
    refine LL.val (R.move rfl rfl) rfl rfl rfl ?_
    (refine LL.call (R.call rfl rfl rfl) rfl rfl rfl (read_any left n _ sx _ (h5F _ q5) hln h) ?_; rintro e Wd634 ⟨v6, rfl, o6, bd631⟩; rw [eg] at o6; obtain ⟨X6, hzX6, h6F, q6⟩ := exposeT (o6.reads prEnc); clear o6; refine ⟨_, rfl, ?_⟩)
    have zbd631 := bd631.size
    replace bd449 := bd449.trans (bd631.mono bd449.size)
    replace q5 := q5.trans (bd631.mono q5.size)
    replace q := q.trans (bd631.mono q.size)
    replace q1 := q1.trans (bd631.mono q1.size)
    replace q2 := q2.trans (bd631.mono q2.size)
    replace q3 := q3.trans (bd631.mono q3.size)
    replace q4 := q4.trans (bd631.mono q4.size)
    refine LL.val (R.assign rfl rfl) rfl rfl rfl ?_
    refine LL.nilS ?_
    refine CC.seq ?_
    refine CC.seq ?_
    refine CC.region ?_
    refine LL.val (R.move rfl rfl) rfl rfl rfl ?_
    refine LL.val (R.move rfl rfl) rfl rfl rfl ?_
    (refine LL.call (R.call rfl rfl rfl) rfl rfl rfl (dprsame_any _ _ gs rw' _ (h6F _ q6) (h4F _ q4) (by omega) (by omega)) ?_; rintro e Wd823 ⟨rfl, bd820⟩; refine ⟨_, rfl, ?_⟩; rw [decide_eq_true hgw])
    have zbd820 := bd820.size
    replace bd631 := bd631.trans (bd820.mono bd631.size)
    replace q6 := q6.trans (bd820.mono q6.size)
    replace bd449 := bd449.trans (bd820.mono bd449.size)
    replace q5 := q5.trans (bd820.mono q5.size)
    replace q := q.trans (bd820.mono q.size)
    replace q1 := q1.trans (bd820.mono q1.size)
    replace q2 := q2.trans (bd820.mono q2.size)
    replace q3 := q3.trans (bd820.mono q3.size)
    replace q4 := q4.trans (bd820.mono q4.size)
    refine LL.nilS ?_
    refine CC.yes rfl ?_
    refine CC.region ?_
    refine LL.val (R.assign rfl rfl) rfl rfl rfl ?_
    refine LL.nilS ?_
    refine CC.seq ?_
    refine CC.region ?_
    refine LL.val (R.move rfl rfl) rfl rfl rfl ?_
    refine LL.val (R.move rfl rfl) rfl rfl rfl ?_
    (refine LL.call (R.call rfl rfl rfl) rfl rfl rfl (tidy_any left n _ sx _ (h5F _ q5) hln h) ?_; rw [ht1]; rintro e Wd1019 ⟨v7, rfl, o7, bd1016⟩; dsimp only at o7; refine ⟨_, rfl, ?_⟩)
    have zbd1016 := bd1016.size
    replace bd820 := bd820.trans (bd1016.mono bd820.size)
    replace bd631 := bd631.trans (bd1016.mono bd631.size)
    replace q6 := q6.trans (bd1016.mono q6.size)
    replace bd449 := bd449.trans (bd1016.mono bd449.size)
    replace q5 := q5.trans (bd1016.mono q5.size)
    replace q := q.trans (bd1016.mono q.size)
    replace q1 := q1.trans (bd1016.mono q1.size)
    replace q2 := q2.trans (bd1016.mono q2.size)
    replace q3 := q3.trans (bd1016.mono q3.size)
    replace q4 := q4.trans (bd1016.mono q4.size)
    refine LL.val (R.move rfl rfl) rfl rfl rfl ?_
    refine LL.val (R.extract rfl rfl rfl) rfl rfl rfl ?_
    refine LL.val (R.extract rfl rfl rfl) rfl rfl rfl ?_
    refine LL.val (R.assign rfl rfl) rfl rfl rfl ?_
    refine LL.val (R.assign rfl rfl) rfl rfl rfl ?_
    refine LL.nilS ?_
    refine CC.seq ?_
    refine CC.region ?_
    refine LL.val (R.move rfl rfl) rfl rfl rfl ?_
    refine LL.val (R.move rfl rfl) rfl rfl rfl ?_
    (refine LL.call (R.call rfl rfl rfl) rfl rfl rfl (dapply_any n _ _ sx (tidyL left sx) _ (h5F _ q5) hln h (o7.reads pEnc) (by omega) tidyL_nn) ?_; rintro e Wd1446 ⟨v8, rfl, o8, bd1443⟩; obtain ⟨X8, hzX8, h8F, q8⟩ := exposeT (o8.reads uEnc); clear o8 o7; refine ⟨_, rfl, ?_⟩)
    have zbd1443 := bd1443.size
    replace bd1016 := bd1016.trans (bd1443.mono bd1016.size)
    replace bd820 := bd820.trans (bd1443.mono bd820.size)
    replace bd631 := bd631.trans (bd1443.mono bd631.size)
    replace q6 := q6.trans (bd1443.mono q6.size)
    replace bd449 := bd449.trans (bd1443.mono bd449.size)
    replace q5 := q5.trans (bd1443.mono q5.size)
    replace q := q.trans (bd1443.mono q.size)
    replace q1 := q1.trans (bd1443.mono q1.size)
    replace q2 := q2.trans (bd1443.mono q2.size)
    replace q3 := q3.trans (bd1443.mono q3.size)
    replace q4 := q4.trans (bd1443.mono q4.size)
    refine LL.val (R.assign rfl rfl) rfl rfl rfl ?_
    refine LL.nilS ?_
    refine CC.seq ?_
    refine CC.region ?_
    refine LL.val (R.move rfl rfl) rfl rfl rfl ?_
    refine LL.call (R.call rfl rfl rfl) rfl rfl rfl (num_any _ _) ?_
    rintro e W' ⟨rfl, rfl⟩
    refine ⟨_, rfl, ?_⟩
    refine LL.val (R.neF rfl rfl rfl (by omega)) rfl rfl rfl ?_
    refine LL.val (R.move rfl rfl) rfl rfl rfl ?_
    refine LL.val (R.move rfl rfl) rfl rfl rfl ?_
    refine LL.val (R.move rfl rfl) rfl rfl rfl ?_
    (refine LL.call (R.call rfl rfl rfl) rfl rfl rfl (check_any left n _ (applyS sx (tidyL left sx)) _ (h8F _ q8) (by rw [applyS_len]; exact hln) h) ?_; rintro e Wd1880 ⟨rfl, bd1877⟩; refine ⟨_, rfl, ?_⟩; rw [ht2])
    have zbd1877 := bd1877.size
    replace bd1443 := bd1443.trans (bd1877.mono bd1443.size)
    replace q8 := q8.trans (bd1877.mono q8.size)
    replace bd1016 := bd1016.trans (bd1877.mono bd1016.size)
    replace bd820 := bd820.trans (bd1877.mono bd820.size)
    replace bd631 := bd631.trans (bd1877.mono bd631.size)
    replace q6 := q6.trans (bd1877.mono q6.size)
    replace bd449 := bd449.trans (bd1877.mono bd449.size)
    replace q5 := q5.trans (bd1877.mono q5.size)
    replace q := q.trans (bd1877.mono q.size)
    replace q1 := q1.trans (bd1877.mono q1.size)
    replace q2 := q2.trans (bd1877.mono q2.size)
    replace q3 := q3.trans (bd1877.mono q3.size)
    replace q4 := q4.trans (bd1877.mono q4.size)
    refine LL.call (R.call rfl rfl rfl) rfl rfl rfl (num_any _ _) ?_
    rintro e W' ⟨rfl, rfl⟩
    refine ⟨_, rfl, ?_⟩
    refine LL.val (R.neF rfl rfl rfl (by omega)) rfl rfl rfl ?_
    refine LL.val (R.pick rfl rfl rfl) rfl rfl rfl ?_
    refine LL.val (R.move rfl rfl) rfl rfl rfl ?_
    refine LL.val (R.move rfl rfl) rfl rfl rfl ?_
    refine LL.val (R.move rfl rfl) rfl rfl rfl ?_
    (refine LL.call (R.call rfl rfl rfl) rfl rfl rfl (read_any left n _ (applyS sx (tidyL left sx)) _ (h8F _ q8) (by rw [applyS_len]; exact hln) h) ?_; rintro e Wd2265 ⟨v9, rfl, o9, bd2262⟩; rw [ht3] at o9; refine ⟨_, rfl, ?_⟩)
    have zbd2262 := bd2262.size
    replace bd1877 := bd1877.trans (bd2262.mono bd1877.size)
    replace bd1443 := bd1443.trans (bd2262.mono bd1443.size)
    replace q8 := q8.trans (bd2262.mono q8.size)
    replace bd1016 := bd1016.trans (bd2262.mono bd1016.size)
    replace bd820 := bd820.trans (bd2262.mono bd820.size)
    replace bd631 := bd631.trans (bd2262.mono bd631.size)
    replace q6 := q6.trans (bd2262.mono q6.size)
    replace bd449 := bd449.trans (bd2262.mono bd449.size)
    replace q5 := q5.trans (bd2262.mono q5.size)
    replace q := q.trans (bd2262.mono q.size)
    replace q1 := q1.trans (bd2262.mono q1.size)
    replace q2 := q2.trans (bd2262.mono q2.size)
    replace q3 := q3.trans (bd2262.mono q3.size)
    replace q4 := q4.trans (bd2262.mono q4.size)
    refine LL.val (R.move rfl rfl) rfl rfl rfl ?_
    (refine LL.call (R.call rfl rfl rfl) rfl rfl rfl (dprsame_any _ _ gs gs _ (o9.reads prEnc) (h6F _ q6) (by omega) (by omega)) ?_; rintro e Wd2377 ⟨rfl, bd2374⟩; refine ⟨_, rfl, ?_⟩; rw [decide_eq_true rfl])
    have zbd2374 := bd2374.size
    replace o9 := o9.up bd2374
    replace bd2262 := bd2262.trans (bd2374.mono bd2262.size)
    replace bd1877 := bd1877.trans (bd2374.mono bd1877.size)
    replace bd1443 := bd1443.trans (bd2374.mono bd1443.size)
    replace q8 := q8.trans (bd2374.mono q8.size)
    replace bd1016 := bd1016.trans (bd2374.mono bd1016.size)
    replace bd820 := bd820.trans (bd2374.mono bd820.size)
    replace bd631 := bd631.trans (bd2374.mono bd631.size)
    replace q6 := q6.trans (bd2374.mono q6.size)
    replace bd449 := bd449.trans (bd2374.mono bd449.size)
    replace q5 := q5.trans (bd2374.mono q5.size)
    replace q := q.trans (bd2374.mono q.size)
    replace q1 := q1.trans (bd2374.mono q1.size)
    replace q2 := q2.trans (bd2374.mono q2.size)
    replace q3 := q3.trans (bd2374.mono q3.size)
    replace q4 := q4.trans (bd2374.mono q4.size)
    refine LL.val (R.not rfl rfl) rfl rfl rfl ?_
    refine LL.val (R.pick rfl rfl rfl) rfl rfl rfl ?_
    refine LL.nilS ?_
    refine CC.no rfl ?_
    refine CC.skip ?_
    refine EE.inN ?_
    refine EE.thenN ?_
    refine CC.region ?_
    refine LL.val (R.move rfl rfl) rfl rfl rfl ?_
    refine LL.val (R.addNc rfl rfl rfl rfl (by omega)) rfl rfl rfl ?_
    refine LL.val (R.assign rfl rfl) rfl rfl rfl ?_
    refine LL.nil ?_
    exact EE.round (k + 1, true) ⟨rfl, rfl, rfl, rfl, rfl, rfl, rfl, rfl, rfl, trivial⟩ ⟨by show k + 1 ≤ os.length + 1; omega, q, q1, q2, q3, q4, hT1, hT2⟩ (by show os.length + 1 - (k + 1) < os.length + 1 - k; omega)
  obtain rfl : tb = false := (by cases tb with | false => rfl | true => exact absurd (hTk rfl) hgw)
  have hkk : k < k0 := Nat.lt_of_not_le fun h => hgw (hA h)
  have hgr := hB hkk
  have hT1 : false = true → ∀ j, k + 1 ≤ j → readF left (applyS s (os.take j)) = rw' := fun h => (by cases h)
  have hT2 : k0 < k + 1 → false = true := fun h => absurd h (by omega)
  clear hT2' hTk hB hA hK
  refine CC.seq ?_
  refine CC.seq ?_
  refine CC.region ?_
  refine LL.val (R.move rfl rfl) rfl rfl rfl ?_
  refine LL.val (R.move rfl rfl) rfl rfl rfl ?_
  refine LL.val (R.len rfl rfl rfl rfl) rfl rfl rfl ?_
  refine LL.val (R.leT rfl rfl rfl (by omega)) rfl rfl rfl ?_
  refine LL.nilS ?_
  refine CC.yes rfl ?_
  refine CC.skip ?_
  refine EE.thenN ?_
  refine CC.seq ?_
  refine CC.block ?_
  refine CC.seq ?_
  refine CC.region ?_
  refine LL.val (R.move rfl rfl) rfl rfl rfl ?_
  refine LL.val (R.move rfl rfl) rfl rfl rfl ?_
  refine LL.val (R.move rfl rfl) rfl rfl rfl ?_
  refine LL.val (R.slice rfl rfl rfl rfl rfl (I.slTo rfl (by omega))) rfl rfl rfl ?_
  (refine LL.call (R.call rfl rfl rfl) rfl rfl rfl (dapply_any n _ _ s (os.take k) _ (hvF _ q) hn h (h1k _ q1 _ (by omega)) (by rw [List.length_take]; omega) (fun p hp => hnn p (List.mem_of_mem_take hp))) ?_; rintro e We508 ⟨v5, rfl, o5, be505⟩; rw [esx] at o5; obtain ⟨X5, hzX5, h5F, q5⟩ := exposeT (o5.reads uEnc); clear o5; refine ⟨_, rfl, ?_⟩)
  have zbe505 := be505.size
  replace q := q.trans (be505.mono q.size)
  replace q1 := q1.trans (be505.mono q1.size)
  replace q2 := q2.trans (be505.mono q2.size)
  replace q3 := q3.trans (be505.mono q3.size)
  replace q4 := q4.trans (be505.mono q4.size)
  refine LL.val (R.assign rfl rfl) rfl rfl rfl ?_
  refine LL.nilS ?_
  refine CC.seq ?_
  refine CC.region ?_
  refine LL.val (R.move rfl rfl) rfl rfl rfl ?_
  refine LL.val (R.move rfl rfl) rfl rfl rfl ?_
  (refine LL.call (R.call rfl rfl rfl) rfl rfl rfl (read_any left n _ sx _ (h5F _ q5) hln h) ?_; rintro e We711 ⟨v6, rfl, o6, be708⟩; rw [eg] at o6; obtain ⟨X6, hzX6, h6F, q6⟩ := exposeT (o6.reads prEnc); clear o6; refine ⟨_, rfl, ?_⟩)
  have zbe708 := be708.size
  replace be505 := be505.trans (be708.mono be505.size)
  replace q5 := q5.trans (be708.mono q5.size)
  replace q := q.trans (be708.mono q.size)
  replace q1 := q1.trans (be708.mono q1.size)
  replace q2 := q2.trans (be708.mono q2.size)
  replace q3 := q3.trans (be708.mono q3.size)
  replace q4 := q4.trans (be708.mono q4.size)
  refine LL.val (R.assign rfl rfl) rfl rfl rfl ?_
  refine LL.nilS ?_
  refine CC.seq ?_
  refine CC.seq ?_
  refine CC.region ?_
  refine LL.val (R.move rfl rfl) rfl rfl rfl ?_
  refine LL.val (R.move rfl rfl) rfl rfl rfl ?_
  (refine LL.call (R.call rfl rfl rfl) rfl rfl rfl (dprsame_any _ _ gs rw' _ (h6F _ q6) (h4F _ q4) (by omega) (by omega)) ?_; rintro e We921 ⟨rfl, be918⟩; refine ⟨_, rfl, ?_⟩; rw [decide_eq_false hgw])
  have zbe918 := be918.size
  replace be708 := be708.trans (be918.mono be708.size)
  replace q6 := q6.trans (be918.mono q6.size)
  replace be505 := be505.trans (be918.mono be505.size)
  replace q5 := q5.trans (be918.mono q5.size)
  replace q := q.trans (be918.mono q.size)
  replace q1 := q1.trans (be918.mono q1.size)
  replace q2 := q2.trans (be918.mono q2.size)
  replace q3 := q3.trans (be918.mono q3.size)
  replace q4 := q4.trans (be918.mono q4.size)
  refine LL.nilS ?_
  refine CC.no rfl ?_
  refine CC.seq ?_
  refine CC.region ?_
  refine LL.val (R.move rfl rfl) rfl rfl rfl ?_
  refine LL.val (R.move rfl rfl) rfl rfl rfl ?_
  refine LL.val (R.move rfl rfl) rfl rfl rfl ?_
  refine LL.val (R.move rfl rfl) rfl rfl rfl ?_
  (refine LL.call (R.call rfl rfl rfl) rfl rfl rfl (dprsame_any _ _ gs rs _ (h6F _ q6) (h2F _ q2) (by omega) (by omega)) ?_; rintro e We1201 ⟨rfl, be1198⟩; refine ⟨_, rfl, ?_⟩; rw [decide_eq_true hgr])
  have zbe1198 := be1198.size
  replace be918 := be918.trans (be1198.mono be918.size)
  replace be708 := be708.trans (be1198.mono be708.size)
  replace q6 := q6.trans (be1198.mono q6.size)
  replace be505 := be505.trans (be1198.mono be505.size)
  replace q5 := q5.trans (be1198.mono q5.size)
  replace q := q.trans (be1198.mono q.size)
  replace q1 := q1.trans (be1198.mono q1.size)
  replace q2 := q2.trans (be1198.mono q2.size)
  replace q3 := q3.trans (be1198.mono q3.size)
  replace q4 := q4.trans (be1198.mono q4.size)
  refine LL.val (R.not rfl rfl) rfl rfl rfl ?_
  refine LL.val (R.pick rfl rfl rfl) rfl rfl rfl ?_
  refine LL.nilS ?_
  refine CC.no rfl ?_
  refine CC.skip ?_
  refine EE.thenN ?_
  refine CC.seq ?_
  refine CC.region ?_
  refine LL.val (R.move rfl rfl) rfl rfl rfl ?_
  refine LL.val (R.move rfl rfl) rfl rfl rfl ?_
  (refine LL.call (R.call rfl rfl rfl) rfl rfl rfl (tidy_any left n _ sx _ (h5F _ q5) hln h) ?_; rw [ht1]; rintro e We1488 ⟨v7, rfl, o7, be1485⟩; dsimp only at o7; refine ⟨_, rfl, ?_⟩)
  have zbe1485 := be1485.size
  replace be1198 := be1198.trans (be1485.mono be1198.size)
  replace be918 := be918.trans (be1485.mono be918.size)
  replace be708 := be708.trans (be1485.mono be708.size)
  replace q6 := q6.trans (be1485.mono q6.size)
  replace be505 := be505.trans (be1485.mono be505.size)
  replace q5 := q5.trans (be1485.mono q5.size)
  replace q := q.trans (be1485.mono q.size)
  replace q1 := q1.trans (be1485.mono q1.size)
  replace q2 := q2.trans (be1485.mono q2.size)
  replace q3 := q3.trans (be1485.mono q3.size)
  replace q4 := q4.trans (be1485.mono q4.size)
  refine LL.val (R.move rfl rfl) rfl rfl rfl ?_
  refine LL.val (R.extract rfl rfl rfl) rfl rfl rfl ?_
  refine LL.val (R.extract rfl rfl rfl) rfl rfl rfl ?_
  refine LL.val (R.assign rfl rfl) rfl rfl rfl ?_
  refine LL.val (R.assign rfl rfl) rfl rfl rfl ?_
  refine LL.nilS ?_
  refine CC.seq ?_
  refine CC.region ?_
  refine LL.val (R.move rfl rfl) rfl rfl rfl ?_
  refine LL.val (R.move rfl rfl) rfl rfl rfl ?_
  (refine LL.call (R.call rfl rfl rfl) rfl rfl rfl (dapply_any n _ _ sx (tidyL left sx) _ (h5F _ q5) hln h (o7.reads pEnc) (by omega) tidyL_nn) ?_; rintro e We1971 ⟨v8, rfl, o8, be1968⟩; obtain ⟨X8, hzX8, h8F, q8⟩ := exposeT (o8.reads uEnc); clear o8 o7; refine ⟨_, rfl, ?_⟩)
  have zbe1968 := be1968.size
  replace be1485 := be1485.trans (be1968.mono be1485.size)
  replace be1198 := be1198.trans (be1968.mono be1198.size)
  replace be918 := be918.trans (be1968.mono be918.size)
  replace be708 := be708.trans (be1968.mono be708.size)
  replace q6 := q6.trans (be1968.mono q6.size)
  replace be505 := be505.trans (be1968.mono be505.size)
  replace q5 := q5.trans (be1968.mono q5.size)
  replace q := q.trans (be1968.mono q.size)
  replace q1 := q1.trans (be1968.mono q1.size)
  replace q2 := q2.trans (be1968.mono q2.size)
  replace q3 := q3.trans (be1968.mono q3.size)
  replace q4 := q4.trans (be1968.mono q4.size)
  refine LL.val (R.assign rfl rfl) rfl rfl rfl ?_
  refine LL.nilS ?_
  refine CC.seq ?_
  refine CC.region ?_
  refine LL.val (R.move rfl rfl) rfl rfl rfl ?_
  refine LL.call (R.call rfl rfl rfl) rfl rfl rfl (num_any _ _) ?_
  rintro e W' ⟨rfl, rfl⟩
  refine ⟨_, rfl, ?_⟩
  refine LL.val (R.neF rfl rfl rfl (by omega)) rfl rfl rfl ?_
  refine LL.val (R.move rfl rfl) rfl rfl rfl ?_
  refine LL.val (R.move rfl rfl) rfl rfl rfl ?_
  refine LL.val (R.move rfl rfl) rfl rfl rfl ?_
  (refine LL.call (R.call rfl rfl rfl) rfl rfl rfl (check_any left n _ (applyS sx (tidyL left sx)) _ (h8F _ q8) (by rw [applyS_len]; exact hln) h) ?_; rintro e We2461 ⟨rfl, be2458⟩; refine ⟨_, rfl, ?_⟩; rw [ht2])
  have zbe2458 := be2458.size
  replace be1968 := be1968.trans (be2458.mono be1968.size)
  replace q8 := q8.trans (be2458.mono q8.size)
  replace be1485 := be1485.trans (be2458.mono be1485.size)
  replace be1198 := be1198.trans (be2458.mono be1198.size)
  replace be918 := be918.trans (be2458.mono be918.size)
  replace be708 := be708.trans (be2458.mono be708.size)
  replace q6 := q6.trans (be2458.mono q6.size)
  replace be505 := be505.trans (be2458.mono be505.size)
  replace q5 := q5.trans (be2458.mono q5.size)
  replace q := q.trans (be2458.mono q.size)
  replace q1 := q1.trans (be2458.mono q1.size)
  replace q2 := q2.trans (be2458.mono q2.size)
  replace q3 := q3.trans (be2458.mono q3.size)
  replace q4 := q4.trans (be2458.mono q4.size)
  refine LL.call (R.call rfl rfl rfl) rfl rfl rfl (num_any _ _) ?_
  rintro e W' ⟨rfl, rfl⟩
  refine ⟨_, rfl, ?_⟩
  refine LL.val (R.neF rfl rfl rfl (by omega)) rfl rfl rfl ?_
  refine LL.val (R.pick rfl rfl rfl) rfl rfl rfl ?_
  refine LL.val (R.move rfl rfl) rfl rfl rfl ?_
  refine LL.val (R.move rfl rfl) rfl rfl rfl ?_
  refine LL.val (R.move rfl rfl) rfl rfl rfl ?_
  (refine LL.call (R.call rfl rfl rfl) rfl rfl rfl (read_any left n _ (applyS sx (tidyL left sx)) _ (h8F _ q8) (by rw [applyS_len]; exact hln) h) ?_; rintro e We2895 ⟨v9, rfl, o9, be2892⟩; rw [ht3] at o9; refine ⟨_, rfl, ?_⟩)
  have zbe2892 := be2892.size
  replace be2458 := be2458.trans (be2892.mono be2458.size)
  replace be1968 := be1968.trans (be2892.mono be1968.size)
  replace q8 := q8.trans (be2892.mono q8.size)
  replace be1485 := be1485.trans (be2892.mono be1485.size)
  replace be1198 := be1198.trans (be2892.mono be1198.size)
  replace be918 := be918.trans (be2892.mono be918.size)
  replace be708 := be708.trans (be2892.mono be708.size)
  replace q6 := q6.trans (be2892.mono q6.size)
  replace be505 := be505.trans (be2892.mono be505.size)
  replace q5 := q5.trans (be2892.mono q5.size)
  replace q := q.trans (be2892.mono q.size)
  replace q1 := q1.trans (be2892.mono q1.size)
  replace q2 := q2.trans (be2892.mono q2.size)
  replace q3 := q3.trans (be2892.mono q3.size)
  replace q4 := q4.trans (be2892.mono q4.size)
  refine LL.val (R.move rfl rfl) rfl rfl rfl ?_
  (refine LL.call (R.call rfl rfl rfl) rfl rfl rfl (dprsame_any _ _ gs gs _ (o9.reads prEnc) (h6F _ q6) (by omega) (by omega)) ?_; rintro e We3021 ⟨rfl, be3018⟩; refine ⟨_, rfl, ?_⟩; rw [decide_eq_true rfl])
  have zbe3018 := be3018.size
  replace o9 := o9.up be3018
  replace be2892 := be2892.trans (be3018.mono be2892.size)
  replace be2458 := be2458.trans (be3018.mono be2458.size)
  replace be1968 := be1968.trans (be3018.mono be1968.size)
  replace q8 := q8.trans (be3018.mono q8.size)
  replace be1485 := be1485.trans (be3018.mono be1485.size)
  replace be1198 := be1198.trans (be3018.mono be1198.size)
  replace be918 := be918.trans (be3018.mono be918.size)
  replace be708 := be708.trans (be3018.mono be708.size)
  replace q6 := q6.trans (be3018.mono q6.size)
  replace be505 := be505.trans (be3018.mono be505.size)
  replace q5 := q5.trans (be3018.mono q5.size)
  replace q := q.trans (be3018.mono q.size)
  replace q1 := q1.trans (be3018.mono q1.size)
  replace q2 := q2.trans (be3018.mono q2.size)
  replace q3 := q3.trans (be3018.mono q3.size)
  replace q4 := q4.trans (be3018.mono q4.size)
  refine LL.val (R.not rfl rfl) rfl rfl rfl ?_
  refine LL.val (R.pick rfl rfl rfl) rfl rfl rfl ?_
  refine LL.nilS ?_
  refine CC.no rfl ?_
  refine CC.skip ?_
  refine EE.inN ?_
  refine EE.thenN ?_
  refine CC.region ?_
  refine LL.val (R.move rfl rfl) rfl rfl rfl ?_
  refine LL.val (R.addNc rfl rfl rfl rfl (by omega)) rfl rfl rfl ?_
  refine LL.val (R.assign rfl rfl) rfl rfl rfl ?_
  refine LL.nil ?_
  exact EE.round (k + 1, false) ⟨rfl, rfl, rfl, rfl, rfl, rfl, rfl, rfl, rfl, trivial⟩ ⟨by show k + 1 ≤ os.length + 1; omega, q, q1, q2, q3, q4, hT1, hT2⟩ (by show os.length + 1 - (k + 1) < os.length + 1 - k; omega)
--C law09_num | num_any _ @w | S
theorem steps_swap (left n k p : Nat) (z : Int) (hz : z ≠ 0) (hz1 : z ≠ 1) (v : Value) (s : List Nat) (w : World) (hv : ReadsT uE 1 w v s) (hn : s.length = n) : Calls Try.prog 8 #[.int .u64 (left : Int), v, .int .i64 z, .agg #[.int .u64 (k : Int), .int .u64 (p : Int)]] w fun e w' => e = .returned (.bool true) ∧ Below w.heap.size w w' := by
  have q := Below.refl w.heap.size w
  obtain ⟨a, c, rfl, hc⟩ := hv.form hn
  have hvF : ∀ X, Below w.heap.size w X → ReadsT uE 1 X (.slice a n c) s := fun X b => hv.up b
  clear hv
  by_cases h80 : 80 < n
  · refine X.fn Try.func8 rfl (n := 142) rfl rfl ?_
    refine CC.seq ?_
    refine CC.region ?_
    refine LL.box [Value.int IntKind.u64 ↑k, Value.int IntKind.u64 ↑p] rfl rfl rfl rfl rfl ?_
    intro W9 g10 eg10 r11 z12 b8
    replace q := q.trans (b8.mono q.size)
    refine LL.val (R.assign rfl rfl) rfl rfl rfl ?_
    refine LL.nilS ?_
    refine CC.seq ?_
    refine CC.seq ?_
    refine CC.region ?_
    refine LL.val (R.move rfl rfl) rfl rfl rfl ?_
    refine LL.val (R.len rfl rfl rfl rfl) rfl rfl rfl ?_
    refine LL.val (R.gtT rfl rfl rfl (by omega)) rfl rfl rfl ?_
    refine LL.nilS ?_
    refine CC.yes rfl ?_
    refine CC.seq ?_
    refine CC.region ?_
    have l49 := r11.lt
    (refine LL.call (R.call rfl rfl rfl) rfl rfl rfl (works_any _) ?_; rintro e W48 ⟨rfl, b45⟩; refine ⟨_, rfl, ?_⟩)
    have zb45 := b45.size
    replace r11 := r11.up b45
    replace b8 := b8.trans (b45.mono b8.size)
    replace q := q.trans (b45.mono q.size)
    refine LL.val (R.assign rfl rfl) rfl rfl rfl ?_
    refine LL.nilS ?_
    refine CC.ret ?_
    refine EE.thenR ?_
    refine EE.ret _ rfl rfl ?_
    exact ⟨rfl, q⟩
  have h : n ≤ 1048576 := by omega
  have hlen := swapF_len (left := left) (s := s) (k := k) (p := p)
  obtain ⟨⟨cd, os⟩, eT⟩ : ∃ r, swapF left s k p = r := ⟨_, rfl⟩
  have hans := swap_ans left s k p
  rw [eT] at hans hlen
  rcases hans with ⟨h0, hos⟩ | ⟨h0, hrow, hset, hne, hnn, hst⟩
  · dsimp only at h0 hos
    subst hos
    refine X.fn Try.func8 rfl (n := 142) rfl rfl ?_
    refine CC.seq ?_
    refine CC.region ?_
    refine LL.box [Value.int IntKind.u64 ↑k, Value.int IntKind.u64 ↑p] rfl rfl rfl rfl rfl ?_
    intro Wa16 ga17 ega17 ra18 za19 ba15
    replace q := q.trans (ba15.mono q.size)
    refine LL.val (R.assign rfl rfl) rfl rfl rfl ?_
    refine LL.nilS ?_
    refine CC.seq ?_
    refine CC.seq ?_
    refine CC.region ?_
    refine LL.val (R.move rfl rfl) rfl rfl rfl ?_
    refine LL.val (R.len rfl rfl rfl rfl) rfl rfl rfl ?_
    refine LL.val (R.gtF rfl rfl rfl (by omega)) rfl rfl rfl ?_
    refine LL.nilS ?_
    refine CC.no rfl ?_
    refine CC.skip ?_
    refine EE.thenN ?_
    refine CC.seq ?_
    refine CC.region ?_
    refine LL.val (R.assign rfl rfl) rfl rfl rfl ?_
    refine LL.nilS ?_
    refine CC.seq ?_
    refine CC.region ?_
    refine LL.val (R.assign rfl rfl) rfl rfl rfl ?_
    refine LL.nilS ?_
    refine CC.seq ?_
    refine CC.seq ?_
    refine CC.region ?_
    refine LL.val (R.move rfl rfl) rfl rfl rfl ?_
    refine LL.nilS ?_
    refine CC.block ?_
    refine CC.seq ?_
    refine CC.region ?_
    refine LL.val (R.eqF rfl rfl rfl (by omega)) rfl rfl rfl ?_
    refine LL.val (R.assign rfl rfl) rfl rfl rfl ?_
    refine LL.nilS ?_
    refine CC.no rfl ?_
    refine CC.seq ?_
    refine CC.region ?_
    refine LL.val (R.eqF rfl rfl rfl (by omega)) rfl rfl rfl ?_
    refine LL.val (R.assign rfl rfl) rfl rfl rfl ?_
    refine LL.nilS ?_
    refine CC.no rfl ?_
    refine CC.region ?_
    refine LL.val (R.move rfl rfl) rfl rfl rfl ?_
    refine LL.val (R.move rfl rfl) rfl rfl rfl ?_
    refine LL.val (R.load rfl rfl (I.ldNc (vs := [Value.int IntKind.u64 ↑k, Value.int IntKind.u64 ↑p]) (RowL.cells ra18 rfl) (by rfl) (by rfl))) rfl rfl rfl ?_
    have la248 := ra18.lt
    (refine LL.call (R.call rfl rfl rfl) rfl rfl rfl (swap_any left n k p _ s _ (hvF _ q) hn h) ?_; rw [eT]; rintro e Wa247 ⟨v1, rfl, o1, ba244⟩; dsimp only at o1; obtain ⟨a1, c1, rfl, hc1⟩ := (o1.reads pEnc).form (n := 0) rfl; refine ⟨_, rfl, ?_⟩)
    have zba244 := ba244.size
    replace ra18 := ra18.up ba244
    replace ba15 := ba15.trans (ba244.mono ba15.size)
    replace q := q.trans (ba244.mono q.size)
    refine LL.val (R.move rfl rfl) rfl rfl rfl ?_
    refine LL.val (R.extract rfl rfl rfl) rfl rfl rfl ?_
    refine LL.val (R.extract rfl rfl rfl) rfl rfl rfl ?_
    refine LL.val (R.assign rfl rfl) rfl rfl rfl ?_
    refine LL.val (R.assign rfl rfl) rfl rfl rfl ?_
    refine LL.nil ?_
    refine EE.inN ?_
    refine EE.thenN ?_
    refine CC.seq ?_
    refine CC.seq ?_
    refine CC.region ?_
    refine LL.val (R.move rfl rfl) rfl rfl rfl ?_
    refine LL.call (R.call rfl rfl rfl) rfl rfl rfl (num_any _ _) ?_
    rintro e W' ⟨rfl, rfl⟩
    refine ⟨_, rfl, ?_⟩
    refine LL.val (R.neT rfl rfl rfl (by omega)) rfl rfl rfl ?_
    refine LL.nilS ?_
    refine CC.yes rfl ?_
    refine CC.seq ?_
    refine CC.region ?_
    refine LL.val (R.move rfl rfl) rfl rfl rfl ?_
    refine LL.val (R.len rfl rfl rfl rfl) rfl rfl rfl ?_
    refine LL.val (R.eqT rfl rfl rfl (by omega)) rfl rfl rfl ?_
    refine LL.val (R.move rfl rfl) rfl rfl rfl ?_
    have la456 := ra18.lt
    (refine LL.call (R.call rfl rfl rfl) rfl rfl rfl (works_any _) ?_; rintro e Wa455 ⟨rfl, ba452⟩; refine ⟨_, rfl, ?_⟩)
    have zba452 := ba452.size
    replace ba244 := ba244.trans (ba452.mono ba244.size)
    replace o1 := o1.up ba452
    replace ra18 := ra18.up ba452
    replace ba15 := ba15.trans (ba452.mono ba15.size)
    replace q := q.trans (ba452.mono q.size)
    refine LL.val (R.pick rfl rfl rfl) rfl rfl rfl ?_
    refine LL.val (R.assign rfl rfl) rfl rfl rfl ?_
    refine LL.nilS ?_
    refine CC.ret ?_
    refine EE.thenR ?_
    refine EE.ret _ rfl rfl ?_
    exact ⟨rfl, q⟩
  dsimp only at h0 hne hnn hst hlen
  subst h0
  obtain ⟨k0, rs, rw', hS⟩ := seen_of hn hrow hset hst
  clear hrow hset hst
  have hl1 := hS.l1
  have hl2 := hS.l2
  have hlen' := hS.len
  have hk0 := hS.le
  have hpos : 0 < os.length := List.length_pos_iff.2 hne
  refine X.fn Try.func8 rfl (n := 142) rfl rfl ?_
  refine CC.seq ?_
  refine CC.region ?_
  refine LL.box [Value.int IntKind.u64 ↑k, Value.int IntKind.u64 ↑p] rfl rfl rfl rfl rfl ?_
  intro Wb30 gb31 egb31 rb32 zb33 bb29
  replace q := q.trans (bb29.mono q.size)
  refine LL.val (R.assign rfl rfl) rfl rfl rfl ?_
  refine LL.nilS ?_
  refine CC.seq ?_
  refine CC.seq ?_
  refine CC.region ?_
  refine LL.val (R.move rfl rfl) rfl rfl rfl ?_
  refine LL.val (R.len rfl rfl rfl rfl) rfl rfl rfl ?_
  refine LL.val (R.gtF rfl rfl rfl (by omega)) rfl rfl rfl ?_
  refine LL.nilS ?_
  refine CC.no rfl ?_
  refine CC.skip ?_
  refine EE.thenN ?_
  refine CC.seq ?_
  refine CC.region ?_
  refine LL.val (R.assign rfl rfl) rfl rfl rfl ?_
  refine LL.nilS ?_
  refine CC.seq ?_
  refine CC.region ?_
  refine LL.val (R.assign rfl rfl) rfl rfl rfl ?_
  refine LL.nilS ?_
  refine CC.seq ?_
  refine CC.seq ?_
  refine CC.region ?_
  refine LL.val (R.move rfl rfl) rfl rfl rfl ?_
  refine LL.nilS ?_
  refine CC.block ?_
  refine CC.seq ?_
  refine CC.region ?_
  refine LL.val (R.eqF rfl rfl rfl (by omega)) rfl rfl rfl ?_
  refine LL.val (R.assign rfl rfl) rfl rfl rfl ?_
  refine LL.nilS ?_
  refine CC.no rfl ?_
  refine CC.seq ?_
  refine CC.region ?_
  refine LL.val (R.eqF rfl rfl rfl (by omega)) rfl rfl rfl ?_
  refine LL.val (R.assign rfl rfl) rfl rfl rfl ?_
  refine LL.nilS ?_
  refine CC.no rfl ?_
  refine CC.region ?_
  refine LL.val (R.move rfl rfl) rfl rfl rfl ?_
  refine LL.val (R.move rfl rfl) rfl rfl rfl ?_
  refine LL.val (R.load rfl rfl (I.ldNc (vs := [Value.int IntKind.u64 ↑k, Value.int IntKind.u64 ↑p]) (RowL.cells rb32 rfl) (by rfl) (by rfl))) rfl rfl rfl ?_
  have lb486 := rb32.lt
  (refine LL.call (R.call rfl rfl rfl) rfl rfl rfl (swap_any left n k p _ s _ (hvF _ q) hn h) ?_; rw [eT]; rintro e Wb485 ⟨v1, rfl, o1, bb482⟩; dsimp only at o1; obtain ⟨a1, c1, rfl, hc1⟩ := (o1.reads pEnc).form rfl; obtain ⟨X1, hzX1, h1F, q1⟩ := exposeT (o1.reads pEnc); clear o1; refine ⟨_, rfl, ?_⟩)
  have zbb482 := bb482.size
  replace rb32 := rb32.up bb482
  replace bb29 := bb29.trans (bb482.mono bb29.size)
  replace q := q.trans (bb482.mono q.size)
  refine LL.val (R.move rfl rfl) rfl rfl rfl ?_
  refine LL.val (R.extract rfl rfl rfl) rfl rfl rfl ?_
  refine LL.val (R.extract rfl rfl rfl) rfl rfl rfl ?_
  refine LL.val (R.assign rfl rfl) rfl rfl rfl ?_
  refine LL.val (R.assign rfl rfl) rfl rfl rfl ?_
  refine LL.nil ?_
  refine EE.inN ?_
  refine EE.thenN ?_
  refine CC.seq ?_
  refine CC.seq ?_
  refine CC.region ?_
  refine LL.val (R.move rfl rfl) rfl rfl rfl ?_
  refine LL.call (R.call rfl rfl rfl) rfl rfl rfl (num_any _ _) ?_
  rintro e W' ⟨rfl, rfl⟩
  refine ⟨_, rfl, ?_⟩
  refine LL.val (R.neF rfl rfl rfl (by omega)) rfl rfl rfl ?_
  refine LL.nilS ?_
  refine CC.no rfl ?_
  refine CC.skip ?_
  refine EE.thenN ?_
  refine CC.seq ?_
  refine CC.region ?_
  refine LL.val (R.move rfl rfl) rfl rfl rfl ?_
  refine LL.val (R.move rfl rfl) rfl rfl rfl ?_
  have lb822 := rb32.lt
  (refine LL.call (R.call rfl rfl rfl) rfl rfl rfl (read_any left n _ s _ (hvF _ q) hn h) ?_; rintro e Wb821 ⟨v2, rfl, o2, bb818⟩; rw [hS.was] at o2; obtain ⟨a2, c2, rfl, hc2⟩ := (o2.reads prEnc).form rfl; obtain ⟨X2, hzX2, h2F, q2⟩ := exposeT (o2.reads prEnc); clear o2; refine ⟨_, rfl, ?_⟩)
  have zbb818 := bb818.size
  replace bb482 := bb482.trans (bb818.mono bb482.size)
  replace q1 := q1.trans (bb818.mono q1.size)
  replace rb32 := rb32.up bb818
  replace bb29 := bb29.trans (bb818.mono bb29.size)
  replace q := q.trans (bb818.mono q.size)
  refine LL.val (R.assign rfl rfl) rfl rfl rfl ?_
  refine LL.nilS ?_
  refine CC.seq ?_
  refine CC.region ?_
  refine LL.val (R.move rfl rfl) rfl rfl rfl ?_
  refine LL.val (R.move rfl rfl) rfl rfl rfl ?_
  have lb942 := rb32.lt
  (refine LL.call (R.call rfl rfl rfl) rfl rfl rfl (dapply_any n _ _ s os _ (hvF _ q) hn h (h1F _ q1) (by omega) hnn) ?_; rintro e Wb941 ⟨v3, rfl, o3, bb938⟩; obtain ⟨X3, hzX3, h3F, q3⟩ := exposeT (o3.reads uEnc); clear o3; refine ⟨_, rfl, ?_⟩)
  have zbb938 := bb938.size
  replace bb818 := bb818.trans (bb938.mono bb818.size)
  replace q2 := q2.trans (bb938.mono q2.size)
  replace bb482 := bb482.trans (bb938.mono bb482.size)
  replace q1 := q1.trans (bb938.mono q1.size)
  replace rb32 := rb32.up bb938
  replace bb29 := bb29.trans (bb938.mono bb29.size)
  replace q := q.trans (bb938.mono q.size)
  refine LL.val (R.assign rfl rfl) rfl rfl rfl ?_
  refine LL.nilS ?_
  refine CC.seq ?_
  refine CC.region ?_
  refine LL.val (R.move rfl rfl) rfl rfl rfl ?_
  refine LL.val (R.move rfl rfl) rfl rfl rfl ?_
  have lb1070 := rb32.lt
  (refine LL.call (R.call rfl rfl rfl) rfl rfl rfl (read_any left n _ (applyS s os) _ (h3F _ q3) (by rw [applyS_len]; exact hn) h) ?_; rintro e Wb1069 ⟨v4, rfl, o4, bb1066⟩; rw [hS.will] at o4; obtain ⟨a4, c4, rfl, hc4⟩ := (o4.reads prEnc).form rfl; obtain ⟨X4, hzX4, h4F, q4⟩ := exposeT (o4.reads prEnc); clear o4; refine ⟨_, rfl, ?_⟩)
  have zbb1066 := bb1066.size
  replace bb938 := bb938.trans (bb1066.mono bb938.size)
  replace q3 := q3.trans (bb1066.mono q3.size)
  replace bb818 := bb818.trans (bb1066.mono bb818.size)
  replace q2 := q2.trans (bb1066.mono q2.size)
  replace bb482 := bb482.trans (bb1066.mono bb482.size)
  replace q1 := q1.trans (bb1066.mono q1.size)
  replace rb32 := rb32.up bb1066
  replace bb29 := bb29.trans (bb1066.mono bb29.size)
  replace q := q.trans (bb1066.mono q.size)
  refine LL.val (R.assign rfl rfl) rfl rfl rfl ?_
  refine LL.nilS ?_
  refine CC.seq ?_
  refine CC.region ?_
  refine LL.val (R.assign rfl rfl) rfl rfl rfl ?_
  refine LL.nilS ?_
  refine CC.seq ?_
  refine CC.seq ?_
  refine CC.region ?_
  refine LL.val (R.assign rfl rfl) rfl rfl rfl ?_
  refine LL.nilS ?_
  refine CC.block ?_
  obtain ⟨x0, hx0⟩ : ∃ x0, os[0]? = some x0 := ⟨_, List.getElem?_eq_getElem hpos⟩
  obtain ⟨b1, ob1, rfl, lb1, _⟩ := (h1F _ q1).get pEnc hx0
  have yq := q.size
  refine CC.loop (α := Nat × Bool) (fun x => [(0, .int .u64 (left : Int)), (1, .slice a n c), (2, .int .i64 z), (9, .slice (some ⟨b1, ob1, none⟩) os.length c1), (11, .slice a2 rs.length c2), (12, v3), (13, .slice a4 rw'.length c4), (14, .bool x.2), (15, .int .i64 (x.1 : Int))])
    (fun x W => x.1 ≤ os.length + 1 ∧ Below w.heap.size w W ∧ Below X1.heap.size X1 W ∧ Below X2.heap.size X2 W ∧ Below X3.heap.size X3 W ∧ Below X4.heap.size X4 W ∧ (x.2 = true → ∀ j, x.1 ≤ j → readF left (applyS s (os.take j)) = rw') ∧ (k0 < x.1 → x.2 = true)) (fun x => os.length + 1 - x.1) (0, false) ⟨rfl, rfl, rfl, rfl, rfl, rfl, rfl, rfl, rfl, trivial⟩ ⟨Nat.zero_le _, q, q1, q2, q3, q4, fun h => (by cases h), fun h => absurd h (Nat.not_lt_zero _)⟩ ?_
  clear q q1 q2 q3 q4 yq
  rintro ⟨k, tb⟩ W ⟨hi, q, q1, q2, q3, q4, hT, hK⟩
  simp only at hi hT hK
  have yq := q.size
  show CC none Try.prog _ 142 [] (sl [(0, .int .u64 (left : Int)), (1, .slice a n c), (2, .int .i64 z), (9, .slice (some ⟨b1, ob1, none⟩) os.length c1), (11, .slice a2 rs.length c2), (12, v3), (13, .slice a4 rw'.length c4), (14, .bool tb), (15, .int .i64 (k : Int))]) _ W
  by_cases hlt : k ≤ os.length
  case neg =>
    obtain rfl := hK (by omega)
    clear hT hK
    refine CC.seq ?_
    refine CC.seq ?_
    refine CC.region ?_
    refine LL.val (R.move rfl rfl) rfl rfl rfl ?_
    refine LL.val (R.move rfl rfl) rfl rfl rfl ?_
    refine LL.val (R.len rfl rfl rfl rfl) rfl rfl rfl ?_
    refine LL.val (R.leF rfl rfl rfl (by omega)) rfl rfl rfl ?_
    refine LL.nilS ?_
    refine CC.no rfl ?_
    refine CC.exit ?_
    refine EE.thenX ?_
    refine EE.thenX ?_
    refine EE.inX ?_
    refine EE.thenN ?_
    refine CC.seq ?_
    refine CC.region ?_
    refine LL.val (R.move rfl rfl) rfl rfl rfl ?_
    refine LL.val (R.move rfl rfl) rfl rfl rfl ?_
    refine LL.val (R.move rfl rfl) rfl rfl rfl ?_
    refine LL.val (R.move rfl rfl) rfl rfl rfl ?_
    (refine LL.call (R.call rfl rfl rfl) rfl rfl rfl (check_any left n _ (applyS s os) _ (h3F _ q3) (by rw [applyS_len]; exact hn) h) ?_; rintro e Wc116 ⟨rfl, bc113⟩; refine ⟨_, rfl, ?_⟩; rw [hS.chk])
    have zbc113 := bc113.size
    replace q := q.trans (bc113.mono q.size)
    replace q1 := q1.trans (bc113.mono q1.size)
    replace q2 := q2.trans (bc113.mono q2.size)
    replace q3 := q3.trans (bc113.mono q3.size)
    replace q4 := q4.trans (bc113.mono q4.size)
    refine LL.call (R.call rfl rfl rfl) rfl rfl rfl (num_any _ _) ?_
    rintro e W' ⟨rfl, rfl⟩
    refine ⟨_, rfl, ?_⟩
    refine LL.val (R.eqT rfl rfl rfl (by omega)) rfl rfl rfl ?_
    refine LL.val (R.pick rfl rfl rfl) rfl rfl rfl ?_
    refine LL.val (R.move rfl rfl) rfl rfl rfl ?_
    refine LL.val (R.move rfl rfl) rfl rfl rfl ?_
    refine LL.val (R.len rfl rfl rfl rfl) rfl rfl rfl ?_
    refine LL.val (R.move rfl rfl) rfl rfl rfl ?_
    refine LL.val (R.len rfl rfl rfl rfl) rfl rfl rfl ?_
    refine LL.val (R.move rfl rfl) rfl rfl rfl ?_
    (refine LL.call (R.call rfl rfl rfl) rfl rfl rfl (change_any _ (0) (by simp [*]) _) ?_; rintro e W' ⟨rfl, rfl⟩; refine ⟨_, rfl, ?_⟩)
    refine LL.val (R.addNc rfl rfl rfl rfl (by omega)) rfl rfl rfl ?_
    refine LL.val (R.eqT rfl rfl rfl (by omega)) rfl rfl rfl ?_
    refine LL.val (R.pick rfl rfl rfl) rfl rfl rfl ?_
    refine LL.val (R.move rfl rfl) rfl rfl rfl ?_
    (refine LL.call (R.call rfl rfl rfl) rfl rfl rfl (works_any _) ?_; rintro e Wc319 ⟨rfl, bc316⟩; refine ⟨_, rfl, ?_⟩)
    have zbc316 := bc316.size
    replace bc113 := bc113.trans (bc316.mono bc113.size)
    replace q := q.trans (bc316.mono q.size)
    replace q1 := q1.trans (bc316.mono q1.size)
    replace q2 := q2.trans (bc316.mono q2.size)
    replace q3 := q3.trans (bc316.mono q3.size)
    replace q4 := q4.trans (bc316.mono q4.size)
    refine LL.val (R.pick rfl rfl rfl) rfl rfl rfl ?_
    refine LL.val (R.assign rfl rfl) rfl rfl rfl ?_
    refine LL.nilS ?_
    refine CC.ret ?_
    refine EE.ret _ rfl rfl ?_
    exact ⟨rfl, q⟩
  have h1k : ∀ X, Below X1.heap.size X1 X → ∀ cc, k ≤ cc → ReadsT pE 2 X (.slice (some ⟨b1, ob1, none⟩) k cc) (os.take k) := fun X hX cc hc => (h1F X hX).take pEnc k hlt cc hc
  obtain ⟨ht1, ht2, ht3⟩ := hS.tid k
  obtain ⟨gs, eg⟩ : ∃ gs, readF left (applyS s (os.take k)) = gs := ⟨_, rfl⟩
  have hB := hS.bef k
  have hA := hS.aft k
  have hAll := hS.aft
  have hBef : ∀ j, rs = rw' → readF left (applyS s (os.take j)) = rw' := fun j e => by
    rcases Nat.lt_or_ge j k0 with hj | hj
    · rw [hS.bef j hj, e]
    · exact hS.aft j hj
  have hTk := fun e => hT e k (Nat.le_refl _)
  rw [eg] at hB hA hTk ht3
  have hgl : gs.length ≤ n := by
    have := readF_len left (applyS s (os.take k))
    rw [eg, applyS_len] at this
    omega
  have hT2' : gs = rw' → ∀ j, k + 1 ≤ j → readF left (applyS s (os.take j)) = rw' := fun e j hj => by
    rcases Nat.lt_or_ge k k0 with hk | hk
    · exact hBef j (by rw [← hB hk, e])
    · exact hAll j (by omega)
  clear hBef hAll hT
  have hln : (applyS s (os.take k)).length = n := by rw [applyS_len]; exact hn
  obtain ⟨sx, esx⟩ : ∃ sx, applyS s (os.take k) = sx := ⟨_, rfl⟩
  rw [esx] at hln ht1 ht2 ht3 eg
  have htl := tidyF_len (left := left) (s := sx)
  rw [ht1] at htl
  dsimp only at htl
  by_cases hgw : gs = rw'
  · have hT1 := fun (_ : true = true) => hT2' hgw
    have hT2 : k0 < k + 1 → true = true := fun _ => rfl
    clear hT2' hTk hB hA hK
    refine CC.seq ?_
    refine CC.seq ?_
    refine CC.region ?_
    refine LL.val (R.move rfl rfl) rfl rfl rfl ?_
    refine LL.val (R.move rfl rfl) rfl rfl rfl ?_
    refine LL.val (R.len rfl rfl rfl rfl) rfl rfl rfl ?_
    refine LL.val (R.leT rfl rfl rfl (by omega)) rfl rfl rfl ?_
    refine LL.nilS ?_
    refine CC.yes rfl ?_
    refine CC.skip ?_
    refine EE.thenN ?_
    refine CC.seq ?_
    refine CC.block ?_
    refine CC.seq ?_
    refine CC.region ?_
    refine LL.val (R.move rfl rfl) rfl rfl rfl ?_
    refine LL.val (R.move rfl rfl) rfl rfl rfl ?_
    refine LL.val (R.move rfl rfl) rfl rfl rfl ?_
    refine LL.val (R.slice rfl rfl rfl rfl rfl (I.slTo rfl (by omega))) rfl rfl rfl ?_
    (refine LL.call (R.call rfl rfl rfl) rfl rfl rfl (dapply_any n _ _ s (os.take k) _ (hvF _ q) hn h (h1k _ q1 _ (by omega)) (by rw [List.length_take]; omega) (fun p hp => hnn p (List.mem_of_mem_take hp))) ?_; rintro e Wd452 ⟨v5, rfl, o5, bd449⟩; rw [esx] at o5; obtain ⟨X5, hzX5, h5F, q5⟩ := exposeT (o5.reads uEnc); clear o5; refine ⟨_, rfl, ?_⟩)
    have zbd449 := bd449.size
    replace q := q.trans (bd449.mono q.size)
    replace q1 := q1.trans (bd449.mono q1.size)
    replace q2 := q2.trans (bd449.mono q2.size)
    replace q3 := q3.trans (bd449.mono q3.size)
    replace q4 := q4.trans (bd449.mono q4.size)
    refine LL.val (R.assign rfl rfl) rfl rfl rfl ?_
    refine LL.nilS ?_
    refine CC.seq ?_
    refine CC.region ?_
    refine LL.val (R.move rfl rfl) rfl rfl rfl ?_
    refine LL.val (R.move rfl rfl) rfl rfl rfl ?_
    (refine LL.call (R.call rfl rfl rfl) rfl rfl rfl (read_any left n _ sx _ (h5F _ q5) hln h) ?_; rintro e Wd634 ⟨v6, rfl, o6, bd631⟩; rw [eg] at o6; obtain ⟨X6, hzX6, h6F, q6⟩ := exposeT (o6.reads prEnc); clear o6; refine ⟨_, rfl, ?_⟩)
    have zbd631 := bd631.size
    replace bd449 := bd449.trans (bd631.mono bd449.size)
    replace q5 := q5.trans (bd631.mono q5.size)
    replace q := q.trans (bd631.mono q.size)
    replace q1 := q1.trans (bd631.mono q1.size)
    replace q2 := q2.trans (bd631.mono q2.size)
    replace q3 := q3.trans (bd631.mono q3.size)
    replace q4 := q4.trans (bd631.mono q4.size)
    refine LL.val (R.assign rfl rfl) rfl rfl rfl ?_
    refine LL.nilS ?_
    refine CC.seq ?_
    refine CC.seq ?_
    refine CC.region ?_
    refine LL.val (R.move rfl rfl) rfl rfl rfl ?_
    refine LL.val (R.move rfl rfl) rfl rfl rfl ?_
    (refine LL.call (R.call rfl rfl rfl) rfl rfl rfl (dprsame_any _ _ gs rw' _ (h6F _ q6) (h4F _ q4) (by omega) (by omega)) ?_; rintro e Wd823 ⟨rfl, bd820⟩; refine ⟨_, rfl, ?_⟩; rw [decide_eq_true hgw])
    have zbd820 := bd820.size
    replace bd631 := bd631.trans (bd820.mono bd631.size)
    replace q6 := q6.trans (bd820.mono q6.size)
    replace bd449 := bd449.trans (bd820.mono bd449.size)
    replace q5 := q5.trans (bd820.mono q5.size)
    replace q := q.trans (bd820.mono q.size)
    replace q1 := q1.trans (bd820.mono q1.size)
    replace q2 := q2.trans (bd820.mono q2.size)
    replace q3 := q3.trans (bd820.mono q3.size)
    replace q4 := q4.trans (bd820.mono q4.size)
    refine LL.nilS ?_
    refine CC.yes rfl ?_
    refine CC.region ?_
    refine LL.val (R.assign rfl rfl) rfl rfl rfl ?_
    refine LL.nilS ?_
    refine CC.seq ?_
    refine CC.region ?_
    refine LL.val (R.move rfl rfl) rfl rfl rfl ?_
    refine LL.val (R.move rfl rfl) rfl rfl rfl ?_
    (refine LL.call (R.call rfl rfl rfl) rfl rfl rfl (tidy_any left n _ sx _ (h5F _ q5) hln h) ?_; rw [ht1]; rintro e Wd1019 ⟨v7, rfl, o7, bd1016⟩; dsimp only at o7; refine ⟨_, rfl, ?_⟩)
    have zbd1016 := bd1016.size
    replace bd820 := bd820.trans (bd1016.mono bd820.size)
    replace bd631 := bd631.trans (bd1016.mono bd631.size)
    replace q6 := q6.trans (bd1016.mono q6.size)
    replace bd449 := bd449.trans (bd1016.mono bd449.size)
    replace q5 := q5.trans (bd1016.mono q5.size)
    replace q := q.trans (bd1016.mono q.size)
    replace q1 := q1.trans (bd1016.mono q1.size)
    replace q2 := q2.trans (bd1016.mono q2.size)
    replace q3 := q3.trans (bd1016.mono q3.size)
    replace q4 := q4.trans (bd1016.mono q4.size)
    refine LL.val (R.move rfl rfl) rfl rfl rfl ?_
    refine LL.val (R.extract rfl rfl rfl) rfl rfl rfl ?_
    refine LL.val (R.extract rfl rfl rfl) rfl rfl rfl ?_
    refine LL.val (R.assign rfl rfl) rfl rfl rfl ?_
    refine LL.val (R.assign rfl rfl) rfl rfl rfl ?_
    refine LL.nilS ?_
    refine CC.seq ?_
    refine CC.region ?_
    refine LL.val (R.move rfl rfl) rfl rfl rfl ?_
    refine LL.val (R.move rfl rfl) rfl rfl rfl ?_
    (refine LL.call (R.call rfl rfl rfl) rfl rfl rfl (dapply_any n _ _ sx (tidyL left sx) _ (h5F _ q5) hln h (o7.reads pEnc) (by omega) tidyL_nn) ?_; rintro e Wd1446 ⟨v8, rfl, o8, bd1443⟩; obtain ⟨X8, hzX8, h8F, q8⟩ := exposeT (o8.reads uEnc); clear o8 o7; refine ⟨_, rfl, ?_⟩)
    have zbd1443 := bd1443.size
    replace bd1016 := bd1016.trans (bd1443.mono bd1016.size)
    replace bd820 := bd820.trans (bd1443.mono bd820.size)
    replace bd631 := bd631.trans (bd1443.mono bd631.size)
    replace q6 := q6.trans (bd1443.mono q6.size)
    replace bd449 := bd449.trans (bd1443.mono bd449.size)
    replace q5 := q5.trans (bd1443.mono q5.size)
    replace q := q.trans (bd1443.mono q.size)
    replace q1 := q1.trans (bd1443.mono q1.size)
    replace q2 := q2.trans (bd1443.mono q2.size)
    replace q3 := q3.trans (bd1443.mono q3.size)
    replace q4 := q4.trans (bd1443.mono q4.size)
    refine LL.val (R.assign rfl rfl) rfl rfl rfl ?_
    refine LL.nilS ?_
    refine CC.seq ?_
    refine CC.region ?_
    refine LL.val (R.move rfl rfl) rfl rfl rfl ?_
    refine LL.call (R.call rfl rfl rfl) rfl rfl rfl (num_any _ _) ?_
    rintro e W' ⟨rfl, rfl⟩
    refine ⟨_, rfl, ?_⟩
    refine LL.val (R.neF rfl rfl rfl (by omega)) rfl rfl rfl ?_
    refine LL.val (R.move rfl rfl) rfl rfl rfl ?_
    refine LL.val (R.move rfl rfl) rfl rfl rfl ?_
    refine LL.val (R.move rfl rfl) rfl rfl rfl ?_
    (refine LL.call (R.call rfl rfl rfl) rfl rfl rfl (check_any left n _ (applyS sx (tidyL left sx)) _ (h8F _ q8) (by rw [applyS_len]; exact hln) h) ?_; rintro e Wd1880 ⟨rfl, bd1877⟩; refine ⟨_, rfl, ?_⟩; rw [ht2])
    have zbd1877 := bd1877.size
    replace bd1443 := bd1443.trans (bd1877.mono bd1443.size)
    replace q8 := q8.trans (bd1877.mono q8.size)
    replace bd1016 := bd1016.trans (bd1877.mono bd1016.size)
    replace bd820 := bd820.trans (bd1877.mono bd820.size)
    replace bd631 := bd631.trans (bd1877.mono bd631.size)
    replace q6 := q6.trans (bd1877.mono q6.size)
    replace bd449 := bd449.trans (bd1877.mono bd449.size)
    replace q5 := q5.trans (bd1877.mono q5.size)
    replace q := q.trans (bd1877.mono q.size)
    replace q1 := q1.trans (bd1877.mono q1.size)
    replace q2 := q2.trans (bd1877.mono q2.size)
    replace q3 := q3.trans (bd1877.mono q3.size)
    replace q4 := q4.trans (bd1877.mono q4.size)
    refine LL.call (R.call rfl rfl rfl) rfl rfl rfl (num_any _ _) ?_
    rintro e W' ⟨rfl, rfl⟩
    refine ⟨_, rfl, ?_⟩
    refine LL.val (R.neF rfl rfl rfl (by omega)) rfl rfl rfl ?_
    refine LL.val (R.pick rfl rfl rfl) rfl rfl rfl ?_
    refine LL.val (R.move rfl rfl) rfl rfl rfl ?_
    refine LL.val (R.move rfl rfl) rfl rfl rfl ?_
    refine LL.val (R.move rfl rfl) rfl rfl rfl ?_
    (refine LL.call (R.call rfl rfl rfl) rfl rfl rfl (read_any left n _ (applyS sx (tidyL left sx)) _ (h8F _ q8) (by rw [applyS_len]; exact hln) h) ?_; rintro e Wd2265 ⟨v9, rfl, o9, bd2262⟩; rw [ht3] at o9; refine ⟨_, rfl, ?_⟩)
    have zbd2262 := bd2262.size
    replace bd1877 := bd1877.trans (bd2262.mono bd1877.size)
    replace bd1443 := bd1443.trans (bd2262.mono bd1443.size)
    replace q8 := q8.trans (bd2262.mono q8.size)
    replace bd1016 := bd1016.trans (bd2262.mono bd1016.size)
    replace bd820 := bd820.trans (bd2262.mono bd820.size)
    replace bd631 := bd631.trans (bd2262.mono bd631.size)
    replace q6 := q6.trans (bd2262.mono q6.size)
    replace bd449 := bd449.trans (bd2262.mono bd449.size)
    replace q5 := q5.trans (bd2262.mono q5.size)
    replace q := q.trans (bd2262.mono q.size)
    replace q1 := q1.trans (bd2262.mono q1.size)
    replace q2 := q2.trans (bd2262.mono q2.size)
    replace q3 := q3.trans (bd2262.mono q3.size)
    replace q4 := q4.trans (bd2262.mono q4.size)
    refine LL.val (R.move rfl rfl) rfl rfl rfl ?_
    (refine LL.call (R.call rfl rfl rfl) rfl rfl rfl (dprsame_any _ _ gs gs _ (o9.reads prEnc) (h6F _ q6) (by omega) (by omega)) ?_; rintro e Wd2377 ⟨rfl, bd2374⟩; refine ⟨_, rfl, ?_⟩; rw [decide_eq_true rfl])
    have zbd2374 := bd2374.size
    replace o9 := o9.up bd2374
    replace bd2262 := bd2262.trans (bd2374.mono bd2262.size)
    replace bd1877 := bd1877.trans (bd2374.mono bd1877.size)
    replace bd1443 := bd1443.trans (bd2374.mono bd1443.size)
    replace q8 := q8.trans (bd2374.mono q8.size)
    replace bd1016 := bd1016.trans (bd2374.mono bd1016.size)
    replace bd820 := bd820.trans (bd2374.mono bd820.size)
    replace bd631 := bd631.trans (bd2374.mono bd631.size)
    replace q6 := q6.trans (bd2374.mono q6.size)
    replace bd449 := bd449.trans (bd2374.mono bd449.size)
    replace q5 := q5.trans (bd2374.mono q5.size)
    replace q := q.trans (bd2374.mono q.size)
    replace q1 := q1.trans (bd2374.mono q1.size)
    replace q2 := q2.trans (bd2374.mono q2.size)
    replace q3 := q3.trans (bd2374.mono q3.size)
    replace q4 := q4.trans (bd2374.mono q4.size)
    refine LL.val (R.not rfl rfl) rfl rfl rfl ?_
    refine LL.val (R.pick rfl rfl rfl) rfl rfl rfl ?_
    refine LL.nilS ?_
    refine CC.no rfl ?_
    refine CC.skip ?_
    refine EE.inN ?_
    refine EE.thenN ?_
    refine CC.region ?_
    refine LL.val (R.move rfl rfl) rfl rfl rfl ?_
    refine LL.val (R.addNc rfl rfl rfl rfl (by omega)) rfl rfl rfl ?_
    refine LL.val (R.assign rfl rfl) rfl rfl rfl ?_
    refine LL.nil ?_
    exact EE.round (k + 1, true) ⟨rfl, rfl, rfl, rfl, rfl, rfl, rfl, rfl, rfl, trivial⟩ ⟨by show k + 1 ≤ os.length + 1; omega, q, q1, q2, q3, q4, hT1, hT2⟩ (by show os.length + 1 - (k + 1) < os.length + 1 - k; omega)
  obtain rfl : tb = false := (by cases tb with | false => rfl | true => exact absurd (hTk rfl) hgw)
  have hkk : k < k0 := Nat.lt_of_not_le fun h => hgw (hA h)
  have hgr := hB hkk
  have hT1 : false = true → ∀ j, k + 1 ≤ j → readF left (applyS s (os.take j)) = rw' := fun h => (by cases h)
  have hT2 : k0 < k + 1 → false = true := fun h => absurd h (by omega)
  clear hT2' hTk hB hA hK
  refine CC.seq ?_
  refine CC.seq ?_
  refine CC.region ?_
  refine LL.val (R.move rfl rfl) rfl rfl rfl ?_
  refine LL.val (R.move rfl rfl) rfl rfl rfl ?_
  refine LL.val (R.len rfl rfl rfl rfl) rfl rfl rfl ?_
  refine LL.val (R.leT rfl rfl rfl (by omega)) rfl rfl rfl ?_
  refine LL.nilS ?_
  refine CC.yes rfl ?_
  refine CC.skip ?_
  refine EE.thenN ?_
  refine CC.seq ?_
  refine CC.block ?_
  refine CC.seq ?_
  refine CC.region ?_
  refine LL.val (R.move rfl rfl) rfl rfl rfl ?_
  refine LL.val (R.move rfl rfl) rfl rfl rfl ?_
  refine LL.val (R.move rfl rfl) rfl rfl rfl ?_
  refine LL.val (R.slice rfl rfl rfl rfl rfl (I.slTo rfl (by omega))) rfl rfl rfl ?_
  (refine LL.call (R.call rfl rfl rfl) rfl rfl rfl (dapply_any n _ _ s (os.take k) _ (hvF _ q) hn h (h1k _ q1 _ (by omega)) (by rw [List.length_take]; omega) (fun p hp => hnn p (List.mem_of_mem_take hp))) ?_; rintro e We508 ⟨v5, rfl, o5, be505⟩; rw [esx] at o5; obtain ⟨X5, hzX5, h5F, q5⟩ := exposeT (o5.reads uEnc); clear o5; refine ⟨_, rfl, ?_⟩)
  have zbe505 := be505.size
  replace q := q.trans (be505.mono q.size)
  replace q1 := q1.trans (be505.mono q1.size)
  replace q2 := q2.trans (be505.mono q2.size)
  replace q3 := q3.trans (be505.mono q3.size)
  replace q4 := q4.trans (be505.mono q4.size)
  refine LL.val (R.assign rfl rfl) rfl rfl rfl ?_
  refine LL.nilS ?_
  refine CC.seq ?_
  refine CC.region ?_
  refine LL.val (R.move rfl rfl) rfl rfl rfl ?_
  refine LL.val (R.move rfl rfl) rfl rfl rfl ?_
  (refine LL.call (R.call rfl rfl rfl) rfl rfl rfl (read_any left n _ sx _ (h5F _ q5) hln h) ?_; rintro e We711 ⟨v6, rfl, o6, be708⟩; rw [eg] at o6; obtain ⟨X6, hzX6, h6F, q6⟩ := exposeT (o6.reads prEnc); clear o6; refine ⟨_, rfl, ?_⟩)
  have zbe708 := be708.size
  replace be505 := be505.trans (be708.mono be505.size)
  replace q5 := q5.trans (be708.mono q5.size)
  replace q := q.trans (be708.mono q.size)
  replace q1 := q1.trans (be708.mono q1.size)
  replace q2 := q2.trans (be708.mono q2.size)
  replace q3 := q3.trans (be708.mono q3.size)
  replace q4 := q4.trans (be708.mono q4.size)
  refine LL.val (R.assign rfl rfl) rfl rfl rfl ?_
  refine LL.nilS ?_
  refine CC.seq ?_
  refine CC.seq ?_
  refine CC.region ?_
  refine LL.val (R.move rfl rfl) rfl rfl rfl ?_
  refine LL.val (R.move rfl rfl) rfl rfl rfl ?_
  (refine LL.call (R.call rfl rfl rfl) rfl rfl rfl (dprsame_any _ _ gs rw' _ (h6F _ q6) (h4F _ q4) (by omega) (by omega)) ?_; rintro e We921 ⟨rfl, be918⟩; refine ⟨_, rfl, ?_⟩; rw [decide_eq_false hgw])
  have zbe918 := be918.size
  replace be708 := be708.trans (be918.mono be708.size)
  replace q6 := q6.trans (be918.mono q6.size)
  replace be505 := be505.trans (be918.mono be505.size)
  replace q5 := q5.trans (be918.mono q5.size)
  replace q := q.trans (be918.mono q.size)
  replace q1 := q1.trans (be918.mono q1.size)
  replace q2 := q2.trans (be918.mono q2.size)
  replace q3 := q3.trans (be918.mono q3.size)
  replace q4 := q4.trans (be918.mono q4.size)
  refine LL.nilS ?_
  refine CC.no rfl ?_
  refine CC.seq ?_
  refine CC.region ?_
  refine LL.val (R.move rfl rfl) rfl rfl rfl ?_
  refine LL.val (R.move rfl rfl) rfl rfl rfl ?_
  refine LL.val (R.move rfl rfl) rfl rfl rfl ?_
  refine LL.val (R.move rfl rfl) rfl rfl rfl ?_
  (refine LL.call (R.call rfl rfl rfl) rfl rfl rfl (dprsame_any _ _ gs rs _ (h6F _ q6) (h2F _ q2) (by omega) (by omega)) ?_; rintro e We1201 ⟨rfl, be1198⟩; refine ⟨_, rfl, ?_⟩; rw [decide_eq_true hgr])
  have zbe1198 := be1198.size
  replace be918 := be918.trans (be1198.mono be918.size)
  replace be708 := be708.trans (be1198.mono be708.size)
  replace q6 := q6.trans (be1198.mono q6.size)
  replace be505 := be505.trans (be1198.mono be505.size)
  replace q5 := q5.trans (be1198.mono q5.size)
  replace q := q.trans (be1198.mono q.size)
  replace q1 := q1.trans (be1198.mono q1.size)
  replace q2 := q2.trans (be1198.mono q2.size)
  replace q3 := q3.trans (be1198.mono q3.size)
  replace q4 := q4.trans (be1198.mono q4.size)
  refine LL.val (R.not rfl rfl) rfl rfl rfl ?_
  refine LL.val (R.pick rfl rfl rfl) rfl rfl rfl ?_
  refine LL.nilS ?_
  refine CC.no rfl ?_
  refine CC.skip ?_
  refine EE.thenN ?_
  refine CC.seq ?_
  refine CC.region ?_
  refine LL.val (R.move rfl rfl) rfl rfl rfl ?_
  refine LL.val (R.move rfl rfl) rfl rfl rfl ?_
  (refine LL.call (R.call rfl rfl rfl) rfl rfl rfl (tidy_any left n _ sx _ (h5F _ q5) hln h) ?_; rw [ht1]; rintro e We1488 ⟨v7, rfl, o7, be1485⟩; dsimp only at o7; refine ⟨_, rfl, ?_⟩)
  have zbe1485 := be1485.size
  replace be1198 := be1198.trans (be1485.mono be1198.size)
  replace be918 := be918.trans (be1485.mono be918.size)
  replace be708 := be708.trans (be1485.mono be708.size)
  replace q6 := q6.trans (be1485.mono q6.size)
  replace be505 := be505.trans (be1485.mono be505.size)
  replace q5 := q5.trans (be1485.mono q5.size)
  replace q := q.trans (be1485.mono q.size)
  replace q1 := q1.trans (be1485.mono q1.size)
  replace q2 := q2.trans (be1485.mono q2.size)
  replace q3 := q3.trans (be1485.mono q3.size)
  replace q4 := q4.trans (be1485.mono q4.size)
  refine LL.val (R.move rfl rfl) rfl rfl rfl ?_
  refine LL.val (R.extract rfl rfl rfl) rfl rfl rfl ?_
  refine LL.val (R.extract rfl rfl rfl) rfl rfl rfl ?_
  refine LL.val (R.assign rfl rfl) rfl rfl rfl ?_
  refine LL.val (R.assign rfl rfl) rfl rfl rfl ?_
  refine LL.nilS ?_
  refine CC.seq ?_
  refine CC.region ?_
  refine LL.val (R.move rfl rfl) rfl rfl rfl ?_
  refine LL.val (R.move rfl rfl) rfl rfl rfl ?_
  (refine LL.call (R.call rfl rfl rfl) rfl rfl rfl (dapply_any n _ _ sx (tidyL left sx) _ (h5F _ q5) hln h (o7.reads pEnc) (by omega) tidyL_nn) ?_; rintro e We1971 ⟨v8, rfl, o8, be1968⟩; obtain ⟨X8, hzX8, h8F, q8⟩ := exposeT (o8.reads uEnc); clear o8 o7; refine ⟨_, rfl, ?_⟩)
  have zbe1968 := be1968.size
  replace be1485 := be1485.trans (be1968.mono be1485.size)
  replace be1198 := be1198.trans (be1968.mono be1198.size)
  replace be918 := be918.trans (be1968.mono be918.size)
  replace be708 := be708.trans (be1968.mono be708.size)
  replace q6 := q6.trans (be1968.mono q6.size)
  replace be505 := be505.trans (be1968.mono be505.size)
  replace q5 := q5.trans (be1968.mono q5.size)
  replace q := q.trans (be1968.mono q.size)
  replace q1 := q1.trans (be1968.mono q1.size)
  replace q2 := q2.trans (be1968.mono q2.size)
  replace q3 := q3.trans (be1968.mono q3.size)
  replace q4 := q4.trans (be1968.mono q4.size)
  refine LL.val (R.assign rfl rfl) rfl rfl rfl ?_
  refine LL.nilS ?_
  refine CC.seq ?_
  refine CC.region ?_
  refine LL.val (R.move rfl rfl) rfl rfl rfl ?_
  refine LL.call (R.call rfl rfl rfl) rfl rfl rfl (num_any _ _) ?_
  rintro e W' ⟨rfl, rfl⟩
  refine ⟨_, rfl, ?_⟩
  refine LL.val (R.neF rfl rfl rfl (by omega)) rfl rfl rfl ?_
  refine LL.val (R.move rfl rfl) rfl rfl rfl ?_
  refine LL.val (R.move rfl rfl) rfl rfl rfl ?_
  refine LL.val (R.move rfl rfl) rfl rfl rfl ?_
  (refine LL.call (R.call rfl rfl rfl) rfl rfl rfl (check_any left n _ (applyS sx (tidyL left sx)) _ (h8F _ q8) (by rw [applyS_len]; exact hln) h) ?_; rintro e We2461 ⟨rfl, be2458⟩; refine ⟨_, rfl, ?_⟩; rw [ht2])
  have zbe2458 := be2458.size
  replace be1968 := be1968.trans (be2458.mono be1968.size)
  replace q8 := q8.trans (be2458.mono q8.size)
  replace be1485 := be1485.trans (be2458.mono be1485.size)
  replace be1198 := be1198.trans (be2458.mono be1198.size)
  replace be918 := be918.trans (be2458.mono be918.size)
  replace be708 := be708.trans (be2458.mono be708.size)
  replace q6 := q6.trans (be2458.mono q6.size)
  replace be505 := be505.trans (be2458.mono be505.size)
  replace q5 := q5.trans (be2458.mono q5.size)
  replace q := q.trans (be2458.mono q.size)
  replace q1 := q1.trans (be2458.mono q1.size)
  replace q2 := q2.trans (be2458.mono q2.size)
  replace q3 := q3.trans (be2458.mono q3.size)
  replace q4 := q4.trans (be2458.mono q4.size)
  refine LL.call (R.call rfl rfl rfl) rfl rfl rfl (num_any _ _) ?_
  rintro e W' ⟨rfl, rfl⟩
  refine ⟨_, rfl, ?_⟩
  refine LL.val (R.neF rfl rfl rfl (by omega)) rfl rfl rfl ?_
  refine LL.val (R.pick rfl rfl rfl) rfl rfl rfl ?_
  refine LL.val (R.move rfl rfl) rfl rfl rfl ?_
  refine LL.val (R.move rfl rfl) rfl rfl rfl ?_
  refine LL.val (R.move rfl rfl) rfl rfl rfl ?_
  (refine LL.call (R.call rfl rfl rfl) rfl rfl rfl (read_any left n _ (applyS sx (tidyL left sx)) _ (h8F _ q8) (by rw [applyS_len]; exact hln) h) ?_; rintro e We2895 ⟨v9, rfl, o9, be2892⟩; rw [ht3] at o9; refine ⟨_, rfl, ?_⟩)
  have zbe2892 := be2892.size
  replace be2458 := be2458.trans (be2892.mono be2458.size)
  replace be1968 := be1968.trans (be2892.mono be1968.size)
  replace q8 := q8.trans (be2892.mono q8.size)
  replace be1485 := be1485.trans (be2892.mono be1485.size)
  replace be1198 := be1198.trans (be2892.mono be1198.size)
  replace be918 := be918.trans (be2892.mono be918.size)
  replace be708 := be708.trans (be2892.mono be708.size)
  replace q6 := q6.trans (be2892.mono q6.size)
  replace be505 := be505.trans (be2892.mono be505.size)
  replace q5 := q5.trans (be2892.mono q5.size)
  replace q := q.trans (be2892.mono q.size)
  replace q1 := q1.trans (be2892.mono q1.size)
  replace q2 := q2.trans (be2892.mono q2.size)
  replace q3 := q3.trans (be2892.mono q3.size)
  replace q4 := q4.trans (be2892.mono q4.size)
  refine LL.val (R.move rfl rfl) rfl rfl rfl ?_
  (refine LL.call (R.call rfl rfl rfl) rfl rfl rfl (dprsame_any _ _ gs gs _ (o9.reads prEnc) (h6F _ q6) (by omega) (by omega)) ?_; rintro e We3021 ⟨rfl, be3018⟩; refine ⟨_, rfl, ?_⟩; rw [decide_eq_true rfl])
  have zbe3018 := be3018.size
  replace o9 := o9.up be3018
  replace be2892 := be2892.trans (be3018.mono be2892.size)
  replace be2458 := be2458.trans (be3018.mono be2458.size)
  replace be1968 := be1968.trans (be3018.mono be1968.size)
  replace q8 := q8.trans (be3018.mono q8.size)
  replace be1485 := be1485.trans (be3018.mono be1485.size)
  replace be1198 := be1198.trans (be3018.mono be1198.size)
  replace be918 := be918.trans (be3018.mono be918.size)
  replace be708 := be708.trans (be3018.mono be708.size)
  replace q6 := q6.trans (be3018.mono q6.size)
  replace be505 := be505.trans (be3018.mono be505.size)
  replace q5 := q5.trans (be3018.mono q5.size)
  replace q := q.trans (be3018.mono q.size)
  replace q1 := q1.trans (be3018.mono q1.size)
  replace q2 := q2.trans (be3018.mono q2.size)
  replace q3 := q3.trans (be3018.mono q3.size)
  replace q4 := q4.trans (be3018.mono q4.size)
  refine LL.val (R.not rfl rfl) rfl rfl rfl ?_
  refine LL.val (R.pick rfl rfl rfl) rfl rfl rfl ?_
  refine LL.nilS ?_
  refine CC.no rfl ?_
  refine CC.skip ?_
  refine EE.inN ?_
  refine EE.thenN ?_
  refine CC.region ?_
  refine LL.val (R.move rfl rfl) rfl rfl rfl ?_
  refine LL.val (R.addNc rfl rfl rfl rfl (by omega)) rfl rfl rfl ?_
  refine LL.val (R.assign rfl rfl) rfl rfl rfl ?_
  refine LL.nil ?_
  exact EE.round (k + 1, false) ⟨rfl, rfl, rfl, rfl, rfl, rfl, rfl, rfl, rfl, trivial⟩ ⟨by show k + 1 ≤ os.length + 1; omega, q, q1, q2, q3, q4, hT1, hT2⟩ (by show os.length + 1 - (k + 1) < os.length + 1 - k; omega)
end Go.Proofs.Ytfpcpnodcdgbdaa

/- Opening the arguments of a law: slices of numbers, pairs of numbers. -/
namespace Go.Proofs.Ytfpcpnodcdgbdaa
set_option linter.unusedVariables false
set_option linter.unusedSimpArgs false
open Go.RowKit Go.ChangeShapes Go.WideShapes Go.ChangeAt

theorem own : ownKnob Try.prog.godebug = none := by kernel_rfl
theorem laidOut : laidOutB Try.prog = true := by kernel_rfl

section
variable {H : Type} {enc : TypeId × Value → H} {P : Program} {w : World} {base : Nat} {spare : Nat → Bool} {held : Bool} {r : Reach} {b0 : Nat} {t : TypeId} {v : Value} {d : DataW H} {p : List MemPlace}

theorem wf_u8 {n : Int} (h : (Lit.int .u8 n).wf = true) : 0 ≤ n ∧ n < 256 := by
  simp [Lit.wf, IntKind.min, IntKind.max, IntKind.signed, IntKind.bits] at h; omega
theorem wf_u64 {n : Int} (h : (Lit.int .u64 n).wf = true) : 0 ≤ n ∧ n < 18446744073709551616 := by
  simp [Lit.wf, IntKind.min, IntKind.max, IntKind.signed, IntKind.bits] at h; omega
theorem wf_i64 {n : Int} (h : (Lit.int .i64 n).wf = true) : -9223372036854775808 ≤ n ∧ n ≤ 9223372036854775807 := by
  simp [Lit.wf, IntKind.min, IntKind.max, IntKind.signed, IntKind.bits] at h; omega

/-- A slice of unsigned numbers. -/
theorem open_nats {e : TypeId} {k : IntKind} {M : Nat} (ht : P.underlying t = some (.slice e)) (he : P.underlying e = some (.int k)) (hc : P.cellsOf e = 1) (hk : ∀ n, (Lit.int k n).wf = true → 0 ≤ n ∧ n < (M : Int))
    (hv : Value.okWide P w r b0 t v) (h : DataW.Trod enc P w base spare held t v d p) : ∃ ns : List Nat, Reads w v (ints k ns) ∧ (∀ n ∈ ns, n < M) ∧ ns.length ≤ 9223372036854775807 := by
  obtain ⟨a, len, cap, rfl⟩ := okWide_slice ht hv
  obtain ⟨fuel, hf⟩ := h
  rcases open_ints ht he hc hf with ⟨hcs, _⟩ | ⟨x, l, c, zs, hcs, _, hl, hm, hz, _, hcell, hwz⟩
  · simp [Value.cells] at hcs
    obtain ⟨rfl, rfl, rfl⟩ := hcs
    exact ⟨[], Reads.nil w, by simp, by simp⟩
  · simp [Value.cells] at hcs
    obtain ⟨rfl, rfl, rfl⟩ := hcs
    have hlz : len ≤ zs.length := by rw [hz]; split <;> omega
    refine ⟨(zs.take len).map Int.toNat, ?_, ?_, ?_⟩
    · have hlen : ((zs.take len).map Int.toNat).length = len := by simp; omega
      refine ⟨some x, cap, by rw [List.length_map, hlen], by rw [List.length_map, hlen]; exact hl, fun hne => ?_⟩
      have h0 : 0 < len := by
        rcases Nat.eq_zero_or_pos len with h0 | h0
        · subst h0; simp at hne
        · exact h0
      obtain ⟨b, off, spot⟩ := x
      have hc0 := hcell 0 (by omega)
      have hspot : spot = none := by simpa [Addr.add] using World.cell?_spot hc0
      subst hspot
      have hblt : b < w.heap.size := by
        rcases Nat.lt_or_ge b w.heap.size with hb | hb
        · exact hb
        · simp [Addr.add, World.cell?, Array.getElem?_eq_none hb] at hc0
      refine ⟨b, off, rfl, hblt, fun j hj => ?_⟩
      rw [List.length_map, hlen] at hj
      have hcj := hcell j (by omega)
      have hjz : j < zs.length := by omega
      have hw := hk _ (hwz zs[j] (List.getElem_mem hjz))
      rw [Addr.add_lit] at hcj
      rw [hcj]
      simp [List.getElem?_take, hj, hjz, List.getD]
      omega
    · intro n hn
      simp only [List.mem_map] at hn
      obtain ⟨z, hz', rfl⟩ := hn
      have := hk _ (hwz z (List.mem_of_mem_take hz'))
      omega
    · simp only [List.length_map, List.length_take]
      unfold maxLen at hm
      omega

/-- An array of two ints. -/
theorem open_two {e : TypeId} (ht : P.underlying t = some (.array 2 e)) (he : P.underlying e = some (.int .i64)) (hc : P.cellsOf e = 1) (hC : P.cellsOf t = 2)
    (hv : Value.okWide P w r b0 t v) (h : DataW.Trod enc P w base spare held t v d p) : ∃ x y : Int, v = .agg #[.int .i64 x, .int .i64 y] ∧ (Lit.int .i64 x).wf = true ∧ (Lit.int .i64 y).wf = true := by
  have hg : ∃ cs, v = .agg cs ∧ cs.size = P.cellsOf t := by
    simp only [Value.okWide, ht] at hv
    obtain ⟨cs, h1, h2, _⟩ := hv
    exact ⟨cs, h1, h2⟩
  obtain ⟨cs, rfl, hsz⟩ := hg
  obtain ⟨fuel, hf⟩ := h
  obtain ⟨xs, m, _, _, hl, hx, hi⟩ := DataW.trod_array ht hf
  have h0 := hi 0 (by omega)
  have h1 := hi 1 (by omega)
  rw [List.getElem?_eq_getElem (by omega)] at h0 h1
  obtain ⟨n0, e0, _, w0⟩ := DataW.trod_int he h0
  obtain ⟨n1, e1, _, w1⟩ := DataW.trod_int he h1
  refine ⟨n0, n1, ?_, w0, w1⟩
  rw [hc] at e0 e1
  simp only [Value.cells] at e0 e1 hl
  rw [hC] at hl
  congr 1
  apply Array.ext'
  match hcs : cs.toList, hl with
  | [c0, c1], _ =>
    rw [hcs] at e0 e1
    simp at e0 e1
    simp [e0, e1]
theorem open_twoK {k : IntKind} {e : TypeId} (ht : P.underlying t = some (.array 2 e)) (he : P.underlying e = some (.int k)) (hc : P.cellsOf e = 1) (hC : P.cellsOf t = 2)
    (hv : Value.okWide P w r b0 t v) (h : DataW.Trod enc P w base spare held t v d p) : ∃ x y : Int, v = .agg #[Value.int k x, Value.int k y] ∧ (Lit.int k x).wf = true ∧ (Lit.int k y).wf = true := by
  have hg : ∃ cs, v = .agg cs ∧ cs.size = P.cellsOf t := by
    simp only [Value.okWide, ht] at hv
    obtain ⟨cs, h1, h2, _⟩ := hv
    exact ⟨cs, h1, h2⟩
  obtain ⟨cs, rfl, hsz⟩ := hg
  obtain ⟨fuel, hf⟩ := h
  obtain ⟨xs, m, _, _, hl, hx, hi⟩ := DataW.trod_array ht hf
  have h0 := hi 0 (by omega)
  have h1 := hi 1 (by omega)
  rw [List.getElem?_eq_getElem (by omega)] at h0 h1
  obtain ⟨n0, e0, _, w0⟩ := DataW.trod_int he h0
  obtain ⟨n1, e1, _, w1⟩ := DataW.trod_int he h1
  refine ⟨n0, n1, ?_, w0, w1⟩
  rw [hc] at e0 e1
  simp only [Value.cells] at e0 e1 hl
  rw [hC] at hl
  congr 1
  apply Array.ext'
  match hcs : cs.toList, hl with
  | [c0, c1], _ =>
    rw [hcs] at e0 e1
    simp at e0 e1
    simp [e0, e1]
end
end Go.Proofs.Ytfpcpnodcdgbdaa

/- Opening the arguments of a law: structs and arrays of integers, and of such. Over any program. -/
namespace Go.Proofs.Ytfpcpnodcdgbdaa
set_option linter.unusedVariables false
set_option linter.unusedSimpArgs false
open Go.RowKit Go.ChangeShapes Go.WideShapes Go.ChangeAt
/-- Which kind of integer lies at a cell. -/
def atC (P : Program) : Nat → TypeId → Nat → Option IntKind
  | 0, _, _ => none
  | d + 1, t, j => match P.underlying t with
    | some (.struct fs) => fs.toList.findSome? fun f => if f.offset ≤ j ∧ j < f.offset + P.cellsOf f.type then atC P d f.type (j - f.offset) else none
    | some (.array n e) => if j / P.cellsOf e < n then atC P d e (j % P.cellsOf e) else none
    | some (.int k) => if j = 0 then some k else none
    | _ => none
section
variable {H : Type} {enc : TypeId × Value → H} {P : Program} {w : World} {base : Nat} {spare : Nat → Bool} {held : Bool} {r : Reach} {b0 : Nat} {t : TypeId} {v : Value} {d : DataW H} {p : List MemPlace}
theorem trod_at : ∀ (n : Nat) (t : TypeId) (j fuel : Nat) (cs : List Value) (x : DataW H × List MemPlace) (k : IntKind), atC P n t j = some k → DataW.trod enc P w base spare held fuel t cs = some x → ∃ z : Int, cs[j]? = some (.int k z) ∧ (Lit.int k z).wf = true
  | 0, _, _, _, _, _, _, h, _ => by cases h
  | n + 1, t, j, fuel, cs, x, k, h, hx => by
    cases hu : P.underlying t with
    | none => simp [atC, hu] at h
    | some kd =>
      cases kd <;> simp only [atC, hu] at h <;> try (cases h; done)
      case int q =>
        split at h
        · rename_i hj
          cases h
          subst hj
          obtain ⟨z, e, _, hw⟩ := DataW.trod_int hu hx
          exact ⟨z, by rw [e]; rfl, hw⟩
        · cases h
      case struct fs =>
        obtain ⟨f, hf, hfk⟩ := List.exists_of_findSome?_eq_some h
        split at hfk
        · rename_i hj
          obtain ⟨xs, m, _, rfl, hl, hlen, hf2⟩ := DataW.trod_struct hu hx
          obtain ⟨i, hi⟩ := List.mem_iff_getElem?.1 hf
          have h2 := hf2 i f (by simpa using hi)
          have hil : i < xs.length := by
            have := (List.getElem?_eq_some_iff.1 hi).1
            rw [Array.length_toList] at this
            omega
          rw [List.getElem?_eq_getElem hil] at h2
          obtain ⟨z, e, hw⟩ := trod_at n f.type (j - f.offset) _ _ _ k hfk h2
          refine ⟨z, ?_, hw⟩
          rw [List.getElem?_take] at e
          split at e
          · rw [List.getElem?_drop] at e
            rwa [show f.offset + (j - f.offset) = j by omega] at e
          · cases e
        · cases hfk
      case array m e =>
        split at h
        · rename_i hj
          obtain ⟨xs, m', _, rfl, hl, hlen, hi⟩ := DataW.trod_array hu hx
          have h2 := hi _ hj
          rw [List.getElem?_eq_getElem (by omega)] at h2
          obtain ⟨z, e', hw⟩ := trod_at n e (j % P.cellsOf e) _ _ _ k h h2
          refine ⟨z, ?_, hw⟩
          rw [List.getElem?_take] at e'
          split at e'
          · rw [List.getElem?_drop] at e'
            rwa [show j / P.cellsOf e * P.cellsOf e + j % P.cellsOf e = j by rw [Nat.mul_comm]; exact Nat.div_add_mod _ _] at e'
          · cases e'
        · cases h
theorem open_ints {c : Nat} (ks : Nat → IntKind) (hs : (match P.underlying t with | some (.struct _) | some (.array _ _) => true | _ => false) = true) (hc : P.cellsOf t = c) (hk : (List.range c).all (fun j => atC P 9 t j == some (ks j)) = true)
    (hv : Value.okWide P w r b0 t v) (h : DataW.Trod enc P w base spare held t v d p) : ∃ g : Nat → Int, v = .agg ((List.range c).map fun j => Value.int (ks j) (g j)).toArray ∧ ∀ j, j < c → (Lit.int (ks j) (g j)).wf = true := by
  have hg : ∃ cs, v = .agg cs ∧ cs.size = P.cellsOf t := by
    unfold Value.okWide at hv
    split at hv
    · obtain ⟨cs, h1, h2, _⟩ := hv; exact ⟨cs, h1, h2⟩
    · obtain ⟨cs, h1, h2, _⟩ := hv; exact ⟨cs, h1, h2⟩
    · rename_i h1 h2
      split at hs <;> simp_all
  obtain ⟨cs, rfl, hsz⟩ := hg
  obtain ⟨fuel, hf⟩ := h
  have key : ∀ j, ∃ z : Int, j < c → cs.toList[j]? = some (.int (ks j) z) ∧ (Lit.int (ks j) z).wf = true := by
    intro j
    by_cases hj : j < c
    · have hk' := List.all_eq_true.1 hk j (List.mem_range.2 hj)
      have hk'' : atC P 9 t j = some (ks j) := by simpa using hk'
      obtain ⟨z, h1, h2⟩ := trod_at 9 t j fuel _ _ _ hk'' hf
      exact ⟨z, fun _ => ⟨h1, h2⟩⟩
    · exact ⟨0, fun h => absurd h hj⟩
  refine ⟨fun j => Classical.choose (key j), ?_, fun j hj => (Classical.choose_spec (key j) hj).2⟩
  congr 1
  apply Array.ext'
  apply List.ext_getElem?
  intro j
  simp only [List.toList_toArray, List.getElem?_map]
  by_cases hj : j < c
  · rw [(Classical.choose_spec (key j) hj).1, List.getElem?_range hj]
    rfl
  · rw [List.getElem?_eq_none (by rw [Array.length_toList, hsz, hc]; omega), List.getElem?_eq_none (by simp; omega)]
    rfl
end
end Go.Proofs.Ytfpcpnodcdgbdaa

/- slots: what the shells hand over. -/
namespace Go.Proofs.Ytfpcpnodcdgbdaa
set_option linter.unusedVariables false
set_option linter.unusedSimpArgs false
open Go.RowKit Go.Shelf
theorem reads_uE {w : World} {v : Value} {ws : List Nat} (h : Reads w v (ints .u64 ws)) : ReadsT uE 1 w v ws := by
  obtain ⟨a, cap, e, hc, h⟩ := h
  have hl : (ints .u64 ws).length = ws.length := by simp [ints]
  rw [hl] at e hc
  exact ⟨a, cap, e, hc, fun hne => by
    obtain ⟨b, off, h1, h2, h3⟩ := h (by intro e; rw [e] at hl; exact hne (List.eq_nil_of_length_eq_zero hl.symm))
    exact ⟨b, off, h1, h2, fun j hj => by rw [flat_u]; exact h3 j (by omega)⟩⟩
theorem pair_shell (g : Nat → Int) (hg : ∀ j, j < 2 → (Lit.int .u64 (g j)).wf = true) : ∃ k p : Nat, Value.agg ((List.range 2).map fun j => Value.int .u64 (g j)).toArray = .agg #[.int .u64 (k : Int), .int .u64 (p : Int)] := by
  have h0 := wf_u64 (hg 0 (by decide))
  have h1 := wf_u64 (hg 1 (by decide))
  refine ⟨(g 0).toNat, (g 1).toNat, ?_⟩
  rw [Int.toNat_of_nonneg (by omega), Int.toNat_of_nonneg (by omega)]
  rfl
theorem swaps_shell (left : Nat) (v : Value) (s : List Nat) (w : World) (hv : Reads w v (ints .u64 s)) (g : Nat → Int) (hg : ∀ j, j < 2 → (Lit.int .u64 (g j)).wf = true) : Calls Try.prog 6 #[.int .u64 (left : Int), v, .agg ((List.range 2).map fun j => Value.int .u64 (g j)).toArray] w fun e w' => e = .returned (.bool true) ∧ Below w.heap.size w w' := by
  obtain ⟨k, p, e⟩ := pair_shell g hg
  rw [e]
  exact swaps_walk left s.length k p v s w (reads_uE hv) rfl
theorem puts_shell (left : Nat) (v : Value) (s : List Nat) (w : World) (hv : Reads w v (ints .u64 s)) (g : Nat → Int) (hg : ∀ j, j < 2 → (Lit.int .u64 (g j)).wf = true) : Calls Try.prog 4 #[.int .u64 (left : Int), v, .agg ((List.range 2).map fun j => Value.int .u64 (g j)).toArray] w fun e w' => e = .returned (.bool true) ∧ Below w.heap.size w w' := by
  obtain ⟨k, p, e⟩ := pair_shell g hg
  rw [e]
  exact puts_walk left s.length k p v s w (reads_uE hv) rfl
end Go.Proofs.Ytfpcpnodcdgbdaa

/- slots: SlotsSteps, whatever is done. -/
namespace Go.Proofs.Ytfpcpnodcdgbdaa
set_option linter.unusedVariables false
set_option linter.unusedSimpArgs false
open Go.RowKit Go.Shelf
theorem steps_shell (left : Nat) (v : Value) (s : List Nat) (w : World) (hv : Reads w v (ints .u64 s)) (z : Int) (g : Nat → Int) (hg : ∀ j, j < 2 → (Lit.int .u64 (g j)).wf = true) : Calls Try.prog 8 #[.int .u64 (left : Int), v, .int .i64 z, .agg ((List.range 2).map fun j => Value.int .u64 (g j)).toArray] w fun e w' => e = .returned (.bool true) ∧ Below w.heap.size w w' := by
  obtain ⟨k, p, e⟩ := pair_shell g hg
  rw [e]
  by_cases h0 : z = 0
  · exact steps_put left s.length k p z h0 v s w (reads_uE hv) rfl
  by_cases h1 : z = 1
  · exact steps_take left s.length k p z h1 v s w (reads_uE hv) rfl
  · exact steps_swap left s.length k p z h0 h1 v s w (reads_uE hv) rfl
end Go.Proofs.Ytfpcpnodcdgbdaa
