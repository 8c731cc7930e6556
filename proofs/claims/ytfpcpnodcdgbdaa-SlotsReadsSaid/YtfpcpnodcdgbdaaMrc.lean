/- What the statements' walks use: So4, So5, So6, So7, So8, So9, So10, So11, So12, So13, So14, So15. -/
import Derived.Laws.StructEq
import Derived.Test.YtfpcpnodcdgbdaaMrb
/- slots: which rows are settled. -/
namespace Go.Proofs.Ytfpcpnodcdgbdaa
set_option linter.unusedVariables false
set_option linter.unusedSimpArgs false
open Go.RowKit Go.Shelf
/-- What 'settled' asks of a pair, of those ahead of it. -/
def goodP (left : Nat) (s : List Nat) (ps : List Pr) (j : Nat) : Prop := ps[j]? = some (prA s j) ∧ ptrN s j ∉ left :: (ps.take j).map (·.2) ∧ (0 < j → ∀ y, ps[j - 1]? = some y → y.1 < keyN s j)
def setP (left : Nat) (s : List Nat) : Prop := (pairP left s).length < s.length / 2 ∧ (∀ j, j < (pairP left s).length → goodP left s (pairP left s) j) ∧ ∀ j, (pairP left s).length ≤ j → j < s.length / 2 → ptrN s j = 0
set_option maxRecDepth 100000
set_option maxHeartbeats 4000000
theorem settled_any (a : Option Addr) (n c left : Nat) (s : List Nat) (w : World) (hv : ReadsT uE 1 w (.slice a n c) s) (hn : s.length = n) (h : n ≤ 1048576) : Calls Try.prog 34 #[rowV (.slice a n c) left] w fun e w' => ∃ b, e = .returned (.bool b) ∧ (b = true ↔ setP left s) ∧ Below w.heap.size w w' := by
  have q := Below.refl w.heap.size w
  have hvF : ∀ X, Below w.heap.size w X → ReadsT uE 1 X (.slice a n c) s := fun X b => hv.up b
  clear hv
  obtain ⟨ps, eps⟩ : ∃ ps, pairP left s = ps := ⟨_, rfl⟩
  have hpl : ps.length ≤ n / 2 := by rw [← eps, ← hn]; unfold pairP; rw [List.length_map]; exact pairS_len left s
  by_cases hlen : ps.length < n / 2
  case neg =>
    have hno : ¬ setP left s := fun hs => by
      have := hs.1
      rw [eps, hn] at this
      exact hlen this
    refine X.fn Try.func34 rfl (n := 73) rfl rfl ?_
    refine CC.seq ?_
    refine CC.region ?_
    refine LL.box [Value.slice a n c, Value.int IntKind.u64 ↑left] rfl rfl rfl rfl rfl ?_
    intro W9 g10 eg10 r11 z12 b8
    replace q := q.trans (b8.mono q.size)
    refine LL.val (R.assign rfl rfl) rfl rfl rfl ?_
    refine LL.nilS ?_
    refine CC.seq ?_
    refine CC.region ?_
    refine LL.val (R.load rfl rfl (I.ldNc (vs := [Value.slice a n c, Value.int IntKind.u64 ↑left]) (RowL.cells r11 rfl) (by rfl) (by rfl))) rfl rfl rfl ?_
    have l33 := r11.lt
    (refine LL.call (R.call rfl rfl rfl) rfl rfl rfl (pairs_any a n c left s _ (hvF _ q) hn h) ?_; rintro e W32 ⟨v, rfl, o, b29⟩; refine ⟨_, rfl, ?_⟩; rw [eps] at o; obtain ⟨aP, cP, rfl, hcP⟩ := (o.reads prEnc).form rfl)
    have zb29 := b29.size
    replace r11 := r11.up b29
    replace b8 := b8.trans (b29.mono b8.size)
    replace q := q.trans (b29.mono q.size)
    refine LL.val (R.assign rfl rfl) rfl rfl rfl ?_
    refine LL.nilS ?_
    refine CC.seq ?_
    refine CC.seq ?_
    refine CC.region ?_
    refine LL.val (R.move rfl rfl) rfl rfl rfl ?_
    refine LL.val (R.len rfl rfl rfl rfl) rfl rfl rfl ?_
    refine LL.val (R.field rfl rfl (I.fld rfl)) rfl rfl rfl ?_
    refine LL.val (R.load rfl rfl (I.ldNc (vs := [Value.slice a n c]) (RowL.cells r11 rfl) (by rfl) (by rfl))) rfl rfl rfl ?_
    refine LL.call (R.call rfl rfl rfl) rfl rfl rfl (many_any _ _ _ _ (by first | assumption | omega)) ?_
    rintro e W86 ⟨rfl, b85⟩
    refine ⟨_, rfl, ?_⟩
    have zb85 := b85.size
    replace b29 := b29.trans (b85.mono b29.size)
    replace o := o.up b85
    replace r11 := r11.up b85
    replace b8 := b8.trans (b85.mono b8.size)
    replace q := q.trans (b85.mono q.size)
    refine LL.val (R.geT rfl rfl rfl (by omega)) rfl rfl rfl ?_
    refine LL.nilS ?_
    refine CC.yes rfl ?_
    refine CC.seq ?_
    refine CC.region ?_
    refine LL.val (R.assign rfl rfl) rfl rfl rfl ?_
    refine LL.nilS ?_
    refine CC.ret ?_
    refine EE.thenR ?_
    refine EE.ret _ rfl rfl ?_
    exact ⟨_, rfl, by simp [hno], q⟩
  refine X.fn Try.func34 rfl (n := 73) rfl rfl ?_
  refine CC.seq ?_
  refine CC.region ?_
  refine LL.box [Value.slice a n c, Value.int IntKind.u64 ↑left] rfl rfl rfl rfl rfl ?_
  intro Wa9 ga10 ega10 ra11 za12 ba8
  replace q := q.trans (ba8.mono q.size)
  refine LL.val (R.assign rfl rfl) rfl rfl rfl ?_
  refine LL.nilS ?_
  refine CC.seq ?_
  refine CC.region ?_
  refine LL.val (R.load rfl rfl (I.ldNc (vs := [Value.slice a n c, Value.int IntKind.u64 ↑left]) (RowL.cells ra11 rfl) (by rfl) (by rfl))) rfl rfl rfl ?_
  have la33 := ra11.lt
  (refine LL.call (R.call rfl rfl rfl) rfl rfl rfl (pairs_any a n c left s _ (hvF _ q) hn h) ?_; rintro e Wa32 ⟨v, rfl, o, ba29⟩; refine ⟨_, rfl, ?_⟩; rw [eps] at o; obtain ⟨aP, cP, rfl, hcP⟩ := (o.reads prEnc).form rfl; have hpF : ∀ X, Below (Wa32).heap.size Wa32 X → ReadsT prE 2 X (.slice aP ps.length cP) ps := fun X b => (o.reads prEnc).up b; have qP := Below.refl (Wa32).heap.size Wa32; clear o)
  have zba29 := ba29.size
  replace ra11 := ra11.up ba29
  replace ba8 := ba8.trans (ba29.mono ba8.size)
  replace q := q.trans (ba29.mono q.size)
  refine LL.val (R.assign rfl rfl) rfl rfl rfl ?_
  refine LL.nilS ?_
  refine CC.seq ?_
  refine CC.seq ?_
  refine CC.region ?_
  refine LL.val (R.move rfl rfl) rfl rfl rfl ?_
  refine LL.val (R.len rfl rfl rfl rfl) rfl rfl rfl ?_
  refine LL.val (R.field rfl rfl (I.fld rfl)) rfl rfl rfl ?_
  refine LL.val (R.load rfl rfl (I.ldNc (vs := [Value.slice a n c]) (RowL.cells ra11 rfl) (by rfl) (by rfl))) rfl rfl rfl ?_
  refine LL.call (R.call rfl rfl rfl) rfl rfl rfl (many_any _ _ _ _ (by first | assumption | omega)) ?_
  rintro e Wa86 ⟨rfl, ba85⟩
  refine ⟨_, rfl, ?_⟩
  have zba85 := ba85.size
  replace ba29 := ba29.trans (ba85.mono ba29.size)
  replace qP := qP.trans (ba85.mono qP.size)
  replace ra11 := ra11.up ba85
  replace ba8 := ba8.trans (ba85.mono ba8.size)
  replace q := q.trans (ba85.mono q.size)
  refine LL.val (R.geF rfl rfl rfl (by omega)) rfl rfl rfl ?_
  refine LL.nilS ?_
  refine CC.no rfl ?_
  refine CC.skip ?_
  refine EE.thenN ?_
  refine CC.seq ?_
  refine CC.region ?_
  refine LL.val (R.field rfl rfl (I.fld rfl)) rfl rfl rfl ?_
  refine LL.val (R.load rfl rfl (I.ld1 rfl (RowL.cell ra11 rfl))) rfl rfl rfl ?_
  have la120 := ra11.lt
  refine LL.lit (e := 22) [Value.int IntKind.u64 ↑left] 1 rfl rfl (fun _ => by kernel_rfl) rfl rfl ?_
  intro Wa122 ga123 ega123 ra124 za125 ba121
  replace ba85 := ba85.trans (ba121.mono ba85.size)
  replace ba29 := ba29.trans (ba121.mono ba29.size)
  replace qP := qP.trans (ba121.mono qP.size)
  replace ra11 := ra11.up ba121
  replace ba8 := ba8.trans (ba121.mono ba8.size)
  replace q := q.trans (ba121.mono q.size)
  refine LL.val (R.assign rfl rfl) rfl rfl rfl ?_
  refine LL.nilS ?_
  refine CC.seq ?_
  refine CC.seq ?_
  refine CC.region ?_
  refine LL.val (R.move rfl rfl) rfl rfl rfl ?_
  refine LL.val (R.len rfl rfl rfl rfl) rfl rfl rfl ?_
  refine LL.val (R.move rfl rfl) rfl rfl rfl ?_
  refine LL.nilS ?_
  refine CC.block ?_
  have yB := q.size
  have o0 : OwnsT uE 1 Wa122 Wa86.heap.size 22 (.slice (some ⟨ga123, 0, none⟩) 1 1) (left :: (ps.take 0).map (·.2)) := RowL.ownsT uEnc (ts := [left]) ra124 (by omega) (by simp [maxLen])
  refine CC.loop (α := Nat × Value) (fun p => [(1, .pointer (some ⟨ga10, 0, none⟩)), (3, .slice aP ps.length cP), (4, p.2), (19, .slice aP ps.length cP), (20, .int .i64 (ps.length : Int)), (21, .int .i64 (p.1 : Int))])
    (fun p W => p.1 ≤ ps.length ∧ Below w.heap.size w W ∧ Below Wa32.heap.size Wa32 W ∧ RowL W ga10 65 [.slice a n c, .int .u64 (left : Int)] ∧ OwnsT uE 1 W Wa86.heap.size 22 p.2 (left :: (ps.take p.1).map (·.2)) ∧ Wa122.heap.size ≤ W.heap.size ∧ ∀ j, j < p.1 → goodP left s ps j) (fun p => ps.length - p.1)
    (0, .slice (some ⟨ga123, 0, none⟩) 1 1) ⟨rfl, rfl, rfl, rfl, rfl, rfl, trivial⟩ ⟨Nat.zero_le _, q, qP, ra11, o0, Nat.le_refl _, fun j h => by omega⟩ ?_
  clear q qP ra11 ra124 o0 ba121 ba85 ba29 ba8
  rintro ⟨i, vh⟩ W ⟨hi, q, qP, ra11, oh, zW, hgd⟩
  simp only at hi oh hgd
  have yq := q.size
  have yP := qP.size
  show CC none Try.prog _ 73 [] (sl [(1, .pointer (some ⟨ga10, 0, none⟩)), (3, .slice aP ps.length cP), (4, vh), (19, .slice aP ps.length cP), (20, .int .i64 (ps.length : Int)), (21, .int .i64 (i : Int))]) _ W
  by_cases hlt : i < ps.length
  case neg =>
    obtain rfl : i = ps.length := by omega
    clear oh
    refine CC.seq ?_
    refine CC.region ?_
    refine LL.val (R.ltF rfl rfl rfl (by omega)) rfl rfl rfl ?_
    refine LL.nilS ?_
    refine CC.seq ?_
    refine CC.no rfl ?_
    refine CC.exit ?_
    refine EE.thenX ?_
    refine EE.thenX ?_
    refine EE.inX ?_
    refine EE.thenN ?_
    refine CC.seq ?_
    refine CC.seq ?_
    refine CC.region ?_
    refine LL.val (R.move rfl rfl) rfl rfl rfl ?_
    refine LL.val (R.len rfl rfl rfl rfl) rfl rfl rfl ?_
    refine LL.val (R.assign rfl rfl) rfl rfl rfl ?_
    refine LL.nilS ?_
    refine CC.block ?_
    refine CC.loop (α := Nat) (fun i => [(1, .pointer (some ⟨ga10, 0, none⟩)), (7, .int .i64 (i : Int))]) (fun i W => ps.length ≤ i ∧ i ≤ n / 2 ∧ Below w.heap.size w W ∧ RowL W ga10 65 [.slice a n c, .int .u64 (left : Int)] ∧ ∀ j, ps.length ≤ j → j < i → ptrN s j = 0) (fun i => n / 2 - i)
      ps.length ⟨rfl, rfl, trivial⟩ ⟨Nat.le_refl _, hpl, q, ra11, fun j h1 h2 => by omega⟩ ?_
    clear q ra11
    rintro j W ⟨hj1, hj2, q, ra11, hz⟩
    have yq := q.size
    show CC none Try.prog _ 73 [] (sl [(1, .pointer (some ⟨ga10, 0, none⟩)), (7, .int .i64 (j : Int))]) _ W
    by_cases hlt2 : j < n / 2
    case neg =>
      obtain rfl : j = n / 2 := by omega
      have hyes : setP left s := ⟨by rw [eps, hn]; exact hlen, by rw [eps]; exact hgd, by rw [eps, hn]; exact hz⟩
      refine CC.seq ?_
      refine CC.seq ?_
      refine CC.region ?_
      refine LL.val (R.move rfl rfl) rfl rfl rfl ?_
      refine LL.val (R.field rfl rfl (I.fld rfl)) rfl rfl rfl ?_
      refine LL.val (R.load rfl rfl (I.ldNc (vs := [Value.slice a n c]) (RowL.cells ra11 rfl) (by rfl) (by rfl))) rfl rfl rfl ?_
      refine LL.call (R.call rfl rfl rfl) rfl rfl rfl (many_any _ _ _ _ (by first | assumption | omega)) ?_
      rintro e Wc2 ⟨rfl, bc1⟩
      refine ⟨_, rfl, ?_⟩
      have zbc1 := bc1.size
      replace q := q.trans (bc1.mono q.size)
      replace ra11 := ra11.up bc1
      refine LL.val (R.ltF rfl rfl rfl (by omega)) rfl rfl rfl ?_
      refine LL.nilS ?_
      refine CC.no rfl ?_
      refine CC.exit ?_
      refine EE.thenX ?_
      refine EE.thenX ?_
      refine EE.inX ?_
      refine EE.thenN ?_
      refine CC.seq ?_
      refine CC.region ?_
      refine LL.val (R.assign rfl rfl) rfl rfl rfl ?_
      refine LL.nilS ?_
      refine CC.ret ?_
      refine EE.ret _ rfl rfl ?_
      exact ⟨_, rfl, by simp [hyes], q⟩
    have hPt : ∀ X, Below W.heap.size W X → Calls Try.prog 47 #[celV (.slice a n c), .int .i64 (j : Int)] X fun e w' => e = .returned (.int .u64 (ptrN s j : Int)) ∧ Below X.heap.size X w' := fun X b => ptr_any a n c j _ s X (hvF _ (q.trans (b.mono q.size))) hn h (ptrN_at (by omega))
    have qn := Below.refl W.heap.size W
    by_cases hp : ptrN s j = 0
    · have hz' : ∀ k, ps.length ≤ k → k < j + 1 → ptrN s k = 0 := fun k h1 h2 => by
        by_cases e : k = j
        · subst e; exact hp
        · exact hz k h1 (by omega)
      clear hz
      refine CC.seq ?_
      refine CC.seq ?_
      refine CC.region ?_
      refine LL.val (R.move rfl rfl) rfl rfl rfl ?_
      refine LL.val (R.field rfl rfl (I.fld rfl)) rfl rfl rfl ?_
      refine LL.val (R.load rfl rfl (I.ldNc (vs := [Value.slice a n c]) (RowL.cells ra11 rfl) (by rfl) (by rfl))) rfl rfl rfl ?_
      refine LL.call (R.call rfl rfl rfl) rfl rfl rfl (many_any _ _ _ _ (by first | assumption | omega)) ?_
      rintro e Wd34 ⟨rfl, bd33⟩
      refine ⟨_, rfl, ?_⟩
      have zbd33 := bd33.size
      replace q := q.trans (bd33.mono q.size)
      replace ra11 := ra11.up bd33
      replace qn := qn.trans (bd33.mono qn.size)
      refine LL.val (R.ltT rfl rfl rfl (by omega)) rfl rfl rfl ?_
      refine LL.nilS ?_
      refine CC.yes rfl ?_
      refine CC.skip ?_
      refine EE.thenN ?_
      refine CC.seq ?_
      refine CC.block ?_
      refine CC.seq ?_
      refine CC.region ?_
      refine LL.val (R.field rfl rfl (I.fld rfl)) rfl rfl rfl ?_
      refine LL.val (R.load rfl rfl (I.ldNc (vs := [Value.slice a n c]) (RowL.cells ra11 rfl) (by rfl) (by rfl))) rfl rfl rfl ?_
      refine LL.val (R.move rfl rfl) rfl rfl rfl ?_
      have ld72 := ra11.lt
      (refine LL.call (R.call rfl rfl rfl) rfl rfl rfl (hPt _ qn) ?_; rintro e Wd71 ⟨rfl, bd68⟩; refine ⟨_, rfl, ?_⟩)
      have zbd68 := bd68.size
      replace bd33 := bd33.trans (bd68.mono bd33.size)
      replace q := q.trans (bd68.mono q.size)
      replace ra11 := ra11.up bd68
      replace qn := qn.trans (bd68.mono qn.size)
      refine LL.val (R.neF rfl rfl rfl (by omega)) rfl rfl rfl ?_
      refine LL.nilS ?_
      refine CC.no rfl ?_
      refine CC.skip ?_
      refine EE.inN ?_
      refine EE.thenN ?_
      refine CC.region ?_
      refine LL.val (R.move rfl rfl) rfl rfl rfl ?_
      refine LL.val (R.addNc rfl rfl rfl rfl (by omega)) rfl rfl rfl ?_
      refine LL.val (R.assign rfl rfl) rfl rfl rfl ?_
      refine LL.nil ?_
      exact EE.round (j + 1) ⟨rfl, rfl, trivial⟩ ⟨by show ps.length ≤ j + 1; omega, by show j + 1 ≤ n / 2; omega, q, ra11, hz'⟩ (by show n / 2 - (j + 1) < n / 2 - j; omega)
    · have hno : ¬ setP left s := fun hs => hp (hs.2.2 j (by rw [eps]; exact hj1) (by rw [hn]; exact hlt2))
      refine CC.seq ?_
      refine CC.seq ?_
      refine CC.region ?_
      refine LL.val (R.move rfl rfl) rfl rfl rfl ?_
      refine LL.val (R.field rfl rfl (I.fld rfl)) rfl rfl rfl ?_
      refine LL.val (R.load rfl rfl (I.ldNc (vs := [Value.slice a n c]) (RowL.cells ra11 rfl) (by rfl) (by rfl))) rfl rfl rfl ?_
      refine LL.call (R.call rfl rfl rfl) rfl rfl rfl (many_any _ _ _ _ (by first | assumption | omega)) ?_
      rintro e We34 ⟨rfl, be33⟩
      refine ⟨_, rfl, ?_⟩
      have zbe33 := be33.size
      replace q := q.trans (be33.mono q.size)
      replace ra11 := ra11.up be33
      replace qn := qn.trans (be33.mono qn.size)
      refine LL.val (R.ltT rfl rfl rfl (by omega)) rfl rfl rfl ?_
      refine LL.nilS ?_
      refine CC.yes rfl ?_
      refine CC.skip ?_
      refine EE.thenN ?_
      refine CC.seq ?_
      refine CC.block ?_
      refine CC.seq ?_
      refine CC.region ?_
      refine LL.val (R.field rfl rfl (I.fld rfl)) rfl rfl rfl ?_
      refine LL.val (R.load rfl rfl (I.ldNc (vs := [Value.slice a n c]) (RowL.cells ra11 rfl) (by rfl) (by rfl))) rfl rfl rfl ?_
      refine LL.val (R.move rfl rfl) rfl rfl rfl ?_
      have le72 := ra11.lt
      (refine LL.call (R.call rfl rfl rfl) rfl rfl rfl (hPt _ qn) ?_; rintro e We71 ⟨rfl, be68⟩; refine ⟨_, rfl, ?_⟩)
      have zbe68 := be68.size
      replace be33 := be33.trans (be68.mono be33.size)
      replace q := q.trans (be68.mono q.size)
      replace ra11 := ra11.up be68
      replace qn := qn.trans (be68.mono qn.size)
      refine LL.val (R.neT rfl rfl rfl (by omega)) rfl rfl rfl ?_
      refine LL.nilS ?_
      refine CC.yes rfl ?_
      refine CC.seq ?_
      refine CC.region ?_
      refine LL.val (R.assign rfl rfl) rfl rfl rfl ?_
      refine LL.nilS ?_
      refine CC.ret ?_
      refine EE.inR ?_
      refine EE.thenR ?_
      refine EE.thenR ?_
      refine EE.inR ?_
      refine EE.thenR ?_
      refine EE.ret _ rfl rfl ?_
      exact ⟨_, rfl, by simp [hno], q⟩
  obtain ⟨⟨k, p⟩, hx⟩ : ∃ x, ps[i]? = some x := ⟨_, List.getElem?_eq_getElem hlt⟩
  obtain ⟨bP, oP, rfl, lbP, _⟩ := (hpF _ (Below.refl _ _)).get prEnc hx
  have m1 : CellsN W ⟨bP, oP + i * 2, none⟩ 2 [.int .u64 (k : Int), .int .u64 (p : Int)] := (hpF W qP).elemN prEnc hx
  have og := own_ge oh
  have lva := ra11.lt
  have qn := Below.refl W.heap.size W
  have hPa : ∀ X, Below W.heap.size W X → Calls Try.prog 59 #[celV (.slice a n c), .int .i64 (i : Int)] X fun e w' => e = .returned (.agg #[.int .u64 (keyN s i : Int), .int .u64 (ptrN s i : Int)]) ∧ Below X.heap.size X w' := fun X b => pair_any a n c i s X (hvF _ (q.trans (b.mono q.size))) hn h (by omega)
  obtain ⟨aH, cH, rfl, hcH⟩ := (oh.reads uEnc).form rfl
  have hlh : (left :: (ps.take i).map (·.2)).length = i + 1 := by simp; omega
  have hAm : ∀ X, Below W.heap.size W X → Calls Try.prog 60 #[.int .u64 (p : Int), .slice aH (left :: (ps.take i).map (·.2)).length cH] X fun e w' => e = .returned (.bool (decide (p ∈ left :: (ps.take i).map (·.2)))) ∧ X = w' := fun X b => among_any p aH _ cH _ X ((oh.reads uEnc).up b) rfl (by omega)
  have ohF : ∀ X, Below W.heap.size W X → OwnsT uE 1 X Wa86.heap.size 22 (.slice aH (left :: (ps.take i).map (·.2)).length cH) (left :: (ps.take i).map (·.2)) := fun X b => oh.up b
  clear oh
  have hx1 : ∀ {y : Pr}, y = prA s i → (k, p) = y → k = keyN s i ∧ p = ptrN s i := fun e1 e2 => by
    rw [e1] at e2
    exact ⟨congrArg (·.1) e2, congrArg (·.2) e2⟩
  have bad : ¬ goodP left s ps i → ¬ setP left s := fun h1 h2 => h1 (by have := h2.2.1 i (by rw [eps]; exact hlt); rwa [eps] at this)
  have app : ∀ (X : World), Below W.heap.size W X → goodP left s ps i → True := fun _ _ _ => trivial
  by_cases hA : k = keyN s i ∧ p = ptrN s i
  case neg =>
    have hno := bad fun hg => hA (by
      have := hg.1
      rw [hx] at this
      exact hx1 rfl (Option.some.inj this))
    clear bad hx1
    by_cases hA1 : k = keyN s i
    · have hA2 : p ≠ ptrN s i := fun e => hA ⟨hA1, e⟩
      refine CC.seq ?_
      refine CC.region ?_
      refine LL.val (R.ltT rfl rfl rfl (by omega)) rfl rfl rfl ?_
      refine LL.nilS ?_
      refine CC.seq ?_
      refine CC.yes rfl ?_
      refine CC.skip ?_
      refine EE.thenN ?_
      refine CC.seq ?_
      refine CC.block ?_
      refine CC.seq ?_
      refine CC.region ?_
      refine LL.val (R.move rfl rfl) rfl rfl rfl ?_
      refine LL.val (R.index rfl rfl rfl (I.ixS rfl (by omega))) rfl rfl rfl ?_
      refine LL.val (R.load rfl rfl (I.ldM (by assumption) rfl rfl)) rfl rfl rfl ?_
      have lf1 := ra11.lt
      refine LL.alloc ([Value.int IntKind.u64 0, Value.int IntKind.u64 0]) rfl rfl rfl rfl rfl ?_
      intro Wf3 gf4 egf4 rf5 zf6 bf2
      replace q := q.trans (bf2.mono q.size)
      replace qP := qP.trans (bf2.mono qP.size)
      replace ra11 := ra11.up bf2
      replace m1 := m1.up bf2
      replace qn := qn.trans (bf2.mono qn.size)
      refine LL.val (R.assign rfl rfl) rfl rfl rfl ?_
      refine LL.storeN (vs := [Value.int IntKind.u64 ↑k, Value.int IntKind.u64 ↑p]) rfl rfl rfl rfl rf5 (by exact Nat.le_of_ble_eq_true rfl) (ones_of rfl) rfl rfl ?_
      intro Wf8 rf9 bf7 zf10
      have hlbf7 := rf5.lt
      replace rf9 : RowL Wf8 _ 41 [Value.int IntKind.u64 ↑k, Value.int IntKind.u64 ↑p] := rf9
      clear rf5
      replace bf2 := bf2.grown bf7 bf2.size (by rintro k ⟨⟩; omega)
      replace q := q.grown bf7 q.size (by rintro k ⟨⟩; omega)
      replace qP := qP.grown bf7 qP.size (by rintro k ⟨⟩; omega)
      replace ra11 := ra11.gr bf7 (by have := ra11.lt; omega)
      replace m1 := m1.gr bf7 (by have := m1.lt; omega)
      replace qn := qn.grown bf7 qn.size (by rintro k ⟨⟩; omega)
      have rf5 := rf9
      clear rf9
      refine LL.nilS ?_
      refine CC.seq ?_
      refine CC.seq ?_
      refine CC.grow (by kernel_rfl) (by kernel_rfl) ?_
      refine GG.val (fun w' b' => R.load rfl rfl (I.ldNc (vs := [Value.int IntKind.u64 ↑k, Value.int IntKind.u64 ↑p]) (RowL.cells (rf5.up b') rfl) (by rfl) (by rfl))) rfl rfl ?_
      refine GG.val (fun w' b' => R.field rfl rfl (I.fld rfl)) rfl rfl ?_
      refine GG.val (fun w' b' => R.load rfl rfl (I.ldNc (vs := [Value.slice a n c]) (RowL.cells (ra11.up b') rfl) (by rfl) (by rfl))) rfl rfl ?_
      refine GG.val (fun w' b' => R.move rfl rfl) rfl rfl ?_
      refine GG.call (fun w' => (R.call rfl rfl rfl)) rfl rfl (fun w' b' => (hPa w' (qn.trans (b'.mono qn.size))).mono fun e W' h => ⟨h.1, b'.trans (h.2.mono b'.size)⟩) ?_
      refine GG.val (fun w' b' => R.neSF (p := (↑k : Int) = ↑(keyN s i) ∧ (↑p : Int) = ↑(ptrN s i)) (bs := [decide ((↑k : Int) = ↑(keyN s i)), decide ((↑p : Int) = ↑(ptrN s i))]) rfl rfl rfl rfl (by kernel_rfl) (by kernel_rfl) (by simp) (by first | assumption | omega | exact ⟨rfl, rfl⟩ | exact fun h => h ⟨rfl, rfl⟩)) rfl rfl ?_
      refine GG.val (fun w' b' => R.move rfl rfl) rfl rfl ?_
      refine GG.skip rfl rfl ?_
      refine GG.skip rfl rfl ?_
      refine GG.skip rfl rfl ?_
      refine GG.skip rfl rfl ?_
      refine GG.val (fun w' b' => R.pick rfl rfl rfl) rfl rfl ?_
      refine GG.val (fun w' b' => R.move rfl rfl) rfl rfl ?_
      refine GG.skip rfl rfl ?_
      refine GG.skip rfl rfl ?_
      refine GG.skip rfl rfl ?_
      refine GG.skip rfl rfl ?_
      refine GG.skip rfl rfl ?_
      refine GG.skip rfl rfl ?_
      refine GG.skip rfl rfl ?_
      refine GG.skip rfl rfl ?_
      refine GG.skip rfl rfl ?_
      refine GG.skip rfl rfl ?_
      refine GG.skip rfl rfl ?_
      refine GG.skip rfl rfl ?_
      refine GG.skip rfl rfl ?_
      refine GG.val (fun w' b' => R.pick rfl rfl rfl) rfl rfl ?_
      refine GG.nilQ (fun Wf15 bf14 => ?_)
      have zbf14 := bf14.size
      replace bf2 := bf2.trans (bf14.mono bf2.size)
      replace q := q.trans (bf14.mono q.size)
      replace qP := qP.trans (bf14.mono qP.size)
      replace ra11 := ra11.up bf14
      replace m1 := m1.up bf14
      replace qn := qn.trans (bf14.mono qn.size)
      replace rf5 := rf5.up bf14
      refine EE.thenN ?_
      refine CC.yes rfl ?_
      refine CC.seq ?_
      refine CC.region ?_
      refine LL.val (R.assign rfl rfl) rfl rfl rfl ?_
      refine LL.nilS ?_
      refine CC.ret ?_
      refine EE.thenR ?_
      refine EE.inR ?_
      refine EE.thenR ?_
      refine EE.thenR ?_
      refine EE.inR ?_
      refine EE.thenR ?_
      refine EE.ret _ rfl rfl ?_
      exact ⟨_, rfl, by simp [hno], q⟩
    · refine CC.seq ?_
      refine CC.region ?_
      refine LL.val (R.ltT rfl rfl rfl (by omega)) rfl rfl rfl ?_
      refine LL.nilS ?_
      refine CC.seq ?_
      refine CC.yes rfl ?_
      refine CC.skip ?_
      refine EE.thenN ?_
      refine CC.seq ?_
      refine CC.block ?_
      refine CC.seq ?_
      refine CC.region ?_
      refine LL.val (R.move rfl rfl) rfl rfl rfl ?_
      refine LL.val (R.index rfl rfl rfl (I.ixS rfl (by omega))) rfl rfl rfl ?_
      refine LL.val (R.load rfl rfl (I.ldM (by assumption) rfl rfl)) rfl rfl rfl ?_
      have lg1 := ra11.lt
      refine LL.alloc ([Value.int IntKind.u64 0, Value.int IntKind.u64 0]) rfl rfl rfl rfl rfl ?_
      intro Wg3 gg4 egg4 rg5 zg6 bg2
      replace q := q.trans (bg2.mono q.size)
      replace qP := qP.trans (bg2.mono qP.size)
      replace ra11 := ra11.up bg2
      replace m1 := m1.up bg2
      replace qn := qn.trans (bg2.mono qn.size)
      refine LL.val (R.assign rfl rfl) rfl rfl rfl ?_
      refine LL.storeN (vs := [Value.int IntKind.u64 ↑k, Value.int IntKind.u64 ↑p]) rfl rfl rfl rfl rg5 (by exact Nat.le_of_ble_eq_true rfl) (ones_of rfl) rfl rfl ?_
      intro Wg8 rg9 bg7 zg10
      have hlbg7 := rg5.lt
      replace rg9 : RowL Wg8 _ 41 [Value.int IntKind.u64 ↑k, Value.int IntKind.u64 ↑p] := rg9
      clear rg5
      replace bg2 := bg2.grown bg7 bg2.size (by rintro k ⟨⟩; omega)
      replace q := q.grown bg7 q.size (by rintro k ⟨⟩; omega)
      replace qP := qP.grown bg7 qP.size (by rintro k ⟨⟩; omega)
      replace ra11 := ra11.gr bg7 (by have := ra11.lt; omega)
      replace m1 := m1.gr bg7 (by have := m1.lt; omega)
      replace qn := qn.grown bg7 qn.size (by rintro k ⟨⟩; omega)
      have rg5 := rg9
      clear rg9
      refine LL.nilS ?_
      refine CC.seq ?_
      refine CC.seq ?_
      refine CC.grow (by kernel_rfl) (by kernel_rfl) ?_
      refine GG.val (fun w' b' => R.load rfl rfl (I.ldNc (vs := [Value.int IntKind.u64 ↑k, Value.int IntKind.u64 ↑p]) (RowL.cells (rg5.up b') rfl) (by rfl) (by rfl))) rfl rfl ?_
      refine GG.val (fun w' b' => R.field rfl rfl (I.fld rfl)) rfl rfl ?_
      refine GG.val (fun w' b' => R.load rfl rfl (I.ldNc (vs := [Value.slice a n c]) (RowL.cells (ra11.up b') rfl) (by rfl) (by rfl))) rfl rfl ?_
      refine GG.val (fun w' b' => R.move rfl rfl) rfl rfl ?_
      refine GG.call (fun w' => (R.call rfl rfl rfl)) rfl rfl (fun w' b' => (hPa w' (qn.trans (b'.mono qn.size))).mono fun e W' h => ⟨h.1, b'.trans (h.2.mono b'.size)⟩) ?_
      refine GG.val (fun w' b' => R.neSF (p := (↑k : Int) = ↑(keyN s i) ∧ (↑p : Int) = ↑(ptrN s i)) (bs := [decide ((↑k : Int) = ↑(keyN s i)), decide ((↑p : Int) = ↑(ptrN s i))]) rfl rfl rfl rfl (by kernel_rfl) (by kernel_rfl) (by simp) (by first | assumption | omega | exact ⟨rfl, rfl⟩ | exact fun h => h ⟨rfl, rfl⟩)) rfl rfl ?_
      refine GG.val (fun w' b' => R.move rfl rfl) rfl rfl ?_
      refine GG.skip rfl rfl ?_
      refine GG.skip rfl rfl ?_
      refine GG.skip rfl rfl ?_
      refine GG.skip rfl rfl ?_
      refine GG.val (fun w' b' => R.pick rfl rfl rfl) rfl rfl ?_
      refine GG.val (fun w' b' => R.move rfl rfl) rfl rfl ?_
      refine GG.skip rfl rfl ?_
      refine GG.skip rfl rfl ?_
      refine GG.skip rfl rfl ?_
      refine GG.skip rfl rfl ?_
      refine GG.skip rfl rfl ?_
      refine GG.skip rfl rfl ?_
      refine GG.skip rfl rfl ?_
      refine GG.skip rfl rfl ?_
      refine GG.skip rfl rfl ?_
      refine GG.skip rfl rfl ?_
      refine GG.skip rfl rfl ?_
      refine GG.skip rfl rfl ?_
      refine GG.skip rfl rfl ?_
      refine GG.val (fun w' b' => R.pick rfl rfl rfl) rfl rfl ?_
      refine GG.nilQ (fun Wg15 bg14 => ?_)
      have zbg14 := bg14.size
      replace bg2 := bg2.trans (bg14.mono bg2.size)
      replace q := q.trans (bg14.mono q.size)
      replace qP := qP.trans (bg14.mono qP.size)
      replace ra11 := ra11.up bg14
      replace m1 := m1.up bg14
      replace qn := qn.trans (bg14.mono qn.size)
      replace rg5 := rg5.up bg14
      refine EE.thenN ?_
      refine CC.yes rfl ?_
      refine CC.seq ?_
      refine CC.region ?_
      refine LL.val (R.assign rfl rfl) rfl rfl rfl ?_
      refine LL.nilS ?_
      refine CC.ret ?_
      refine EE.thenR ?_
      refine EE.inR ?_
      refine EE.thenR ?_
      refine EE.thenR ?_
      refine EE.inR ?_
      refine EE.thenR ?_
      refine EE.ret _ rfl rfl ?_
      exact ⟨_, rfl, by simp [hno], q⟩
  obtain ⟨hA1, hA2⟩ := hA
  by_cases hB : p ∈ left :: (ps.take i).map (·.2)
  case pos =>
    have hno := bad fun hg => hg.2.1 (by rw [← hA2]; exact hB)
    refine CC.seq ?_
    refine CC.region ?_
    refine LL.val (R.ltT rfl rfl rfl (by omega)) rfl rfl rfl ?_
    refine LL.nilS ?_
    refine CC.seq ?_
    refine CC.yes rfl ?_
    refine CC.skip ?_
    refine EE.thenN ?_
    refine CC.seq ?_
    refine CC.block ?_
    refine CC.seq ?_
    refine CC.region ?_
    refine LL.val (R.move rfl rfl) rfl rfl rfl ?_
    refine LL.val (R.index rfl rfl rfl (I.ixS rfl (by omega))) rfl rfl rfl ?_
    refine LL.val (R.load rfl rfl (I.ldM (by assumption) rfl rfl)) rfl rfl rfl ?_
    have lh1 := ra11.lt
    refine LL.alloc ([Value.int IntKind.u64 0, Value.int IntKind.u64 0]) rfl rfl rfl rfl rfl ?_
    intro Wh3 gh4 egh4 rh5 zh6 bh2
    replace q := q.trans (bh2.mono q.size)
    replace qP := qP.trans (bh2.mono qP.size)
    replace ra11 := ra11.up bh2
    replace m1 := m1.up bh2
    replace qn := qn.trans (bh2.mono qn.size)
    refine LL.val (R.assign rfl rfl) rfl rfl rfl ?_
    refine LL.storeN (vs := [Value.int IntKind.u64 ↑k, Value.int IntKind.u64 ↑p]) rfl rfl rfl rfl rh5 (by exact Nat.le_of_ble_eq_true rfl) (ones_of rfl) rfl rfl ?_
    intro Wh8 rh9 bh7 zh10
    have hlbh7 := rh5.lt
    replace rh9 : RowL Wh8 _ 41 [Value.int IntKind.u64 ↑k, Value.int IntKind.u64 ↑p] := rh9
    clear rh5
    replace bh2 := bh2.grown bh7 bh2.size (by rintro k ⟨⟩; omega)
    replace q := q.grown bh7 q.size (by rintro k ⟨⟩; omega)
    replace qP := qP.grown bh7 qP.size (by rintro k ⟨⟩; omega)
    replace ra11 := ra11.gr bh7 (by have := ra11.lt; omega)
    replace m1 := m1.gr bh7 (by have := m1.lt; omega)
    replace qn := qn.grown bh7 qn.size (by rintro k ⟨⟩; omega)
    have rh5 := rh9
    clear rh9
    refine LL.nilS ?_
    refine CC.seq ?_
    refine CC.seq ?_
    refine CC.grow (by kernel_rfl) (by kernel_rfl) ?_
    refine GG.val (fun w' b' => R.load rfl rfl (I.ldNc (vs := [Value.int IntKind.u64 ↑k, Value.int IntKind.u64 ↑p]) (RowL.cells (rh5.up b') rfl) (by rfl) (by rfl))) rfl rfl ?_
    refine GG.val (fun w' b' => R.field rfl rfl (I.fld rfl)) rfl rfl ?_
    refine GG.val (fun w' b' => R.load rfl rfl (I.ldNc (vs := [Value.slice a n c]) (RowL.cells (ra11.up b') rfl) (by rfl) (by rfl))) rfl rfl ?_
    refine GG.val (fun w' b' => R.move rfl rfl) rfl rfl ?_
    refine GG.call (fun w' => (R.call rfl rfl rfl)) rfl rfl (fun w' b' => (hPa w' (qn.trans (b'.mono qn.size))).mono fun e W' h => ⟨h.1, b'.trans (h.2.mono b'.size)⟩) ?_
    refine GG.val (fun w' b' => R.neST (p := (↑k : Int) = ↑(keyN s i) ∧ (↑p : Int) = ↑(ptrN s i)) (bs := [decide ((↑k : Int) = ↑(keyN s i)), decide ((↑p : Int) = ↑(ptrN s i))]) rfl rfl rfl rfl (by kernel_rfl) (by kernel_rfl) (by simp) (by first | assumption | omega | exact ⟨rfl, rfl⟩ | exact fun h => h ⟨rfl, rfl⟩)) rfl rfl ?_
    refine GG.val (fun w' b' => R.move rfl rfl) rfl rfl ?_
    refine GG.val (fun w' b' => R.field rfl rfl (I.fld rfl)) rfl rfl ?_
    refine GG.val (fun w' b' => R.load rfl rfl (I.ld1 rfl (RowL.cell (rh5.up b') rfl))) rfl rfl ?_
    refine GG.val (fun w' b' => R.move rfl rfl) rfl rfl ?_
    refine GG.callDT (fun w' => (R.call rfl rfl rfl)) rfl rfl (fun w' b' => (hAm w' (qn.trans (b'.mono qn.size))).mono fun e W' h => ⟨h.1, h.2 ▸ b'⟩) (by first | assumption | omega) ?_
    refine GG.val (fun w' b' => R.pick rfl rfl rfl) rfl rfl ?_
    refine GG.val (fun w' b' => R.move rfl rfl) rfl rfl ?_
    refine GG.skip rfl rfl ?_
    refine GG.skip rfl rfl ?_
    refine GG.skip rfl rfl ?_
    refine GG.skip rfl rfl ?_
    refine GG.skip rfl rfl ?_
    refine GG.skip rfl rfl ?_
    refine GG.skip rfl rfl ?_
    refine GG.skip rfl rfl ?_
    refine GG.skip rfl rfl ?_
    refine GG.skip rfl rfl ?_
    refine GG.skip rfl rfl ?_
    refine GG.skip rfl rfl ?_
    refine GG.skip rfl rfl ?_
    refine GG.val (fun w' b' => R.pick rfl rfl rfl) rfl rfl ?_
    refine GG.nilQ (fun Wh15 bh14 => ?_)
    have zbh14 := bh14.size
    replace bh2 := bh2.trans (bh14.mono bh2.size)
    replace q := q.trans (bh14.mono q.size)
    replace qP := qP.trans (bh14.mono qP.size)
    replace ra11 := ra11.up bh14
    replace m1 := m1.up bh14
    replace qn := qn.trans (bh14.mono qn.size)
    replace rh5 := rh5.up bh14
    refine EE.thenN ?_
    refine CC.yes rfl ?_
    refine CC.seq ?_
    refine CC.region ?_
    refine LL.val (R.assign rfl rfl) rfl rfl rfl ?_
    refine LL.nilS ?_
    refine CC.ret ?_
    refine EE.thenR ?_
    refine EE.inR ?_
    refine EE.thenR ?_
    refine EE.thenR ?_
    refine EE.inR ?_
    refine EE.thenR ?_
    refine EE.ret _ rfl rfl ?_
    exact ⟨_, rfl, by simp [hno], q⟩
  have fin : ∀ (v' : Value) (X : World), OwnsT uE 1 X Wa86.heap.size 22 v' (left :: (ps.take i).map (·.2) ++ [p]) → OwnsT uE 1 X Wa86.heap.size 22 v' (left :: (ps.take (i + 1)).map (·.2)) := fun v' X o => by
    rw [List.take_add_one, hx, List.map_append]
    exact o
  have hgd' : goodP left s ps i → ∀ j, j < i + 1 → goodP left s ps j := fun hg j hj => by
    by_cases e : j = i
    · subst e; exact hg
    · exact hgd j (by omega)
  clear hgd
  by_cases hi0 : i = 0
  · subst hi0
    have hg := hgd' ⟨by rw [hx, hA1, hA2]; rfl, by rw [← hA2]; exact hB, fun h => absurd h (Nat.lt_irrefl 0)⟩
    clear hgd'
    refine CC.seq ?_
    refine CC.region ?_
    refine LL.val (R.ltT rfl rfl rfl (by omega)) rfl rfl rfl ?_
    refine LL.nilS ?_
    refine CC.seq ?_
    refine CC.yes rfl ?_
    refine CC.skip ?_
    refine EE.thenN ?_
    refine CC.seq ?_
    refine CC.block ?_
    refine CC.seq ?_
    refine CC.region ?_
    refine LL.val (R.move rfl rfl) rfl rfl rfl ?_
    refine LL.val (R.index rfl rfl rfl (I.ixSc rfl rfl (by omega))) rfl rfl rfl ?_
    refine LL.val (R.load rfl rfl (I.ldM (by assumption) rfl rfl)) rfl rfl rfl ?_
    have li1 := ra11.lt
    refine LL.alloc ([Value.int IntKind.u64 0, Value.int IntKind.u64 0]) rfl rfl rfl rfl rfl ?_
    intro Wi3 gi4 egi4 ri5 zi6 bi2
    replace q := q.trans (bi2.mono q.size)
    replace qP := qP.trans (bi2.mono qP.size)
    replace ra11 := ra11.up bi2
    replace qn := qn.trans (bi2.mono qn.size)
    replace m1 := m1.up bi2
    refine LL.val (R.assign rfl rfl) rfl rfl rfl ?_
    refine LL.storeN (vs := [Value.int IntKind.u64 ↑k, Value.int IntKind.u64 ↑p]) rfl rfl rfl rfl ri5 (by exact Nat.le_of_ble_eq_true rfl) (ones_of rfl) rfl rfl ?_
    intro Wi8 ri9 bi7 zi10
    have hlbi7 := ri5.lt
    replace ri9 : RowL Wi8 _ 41 [Value.int IntKind.u64 ↑k, Value.int IntKind.u64 ↑p] := ri9
    clear ri5
    replace bi2 := bi2.grown bi7 bi2.size (by rintro k ⟨⟩; omega)
    replace q := q.grown bi7 q.size (by rintro k ⟨⟩; omega)
    replace qP := qP.grown bi7 qP.size (by rintro k ⟨⟩; omega)
    replace ra11 := ra11.gr bi7 (by have := ra11.lt; omega)
    replace qn := qn.grown bi7 qn.size (by rintro k ⟨⟩; omega)
    replace m1 := m1.gr bi7 (by have := m1.lt; omega)
    have ri5 := ri9
    clear ri9
    refine LL.nilS ?_
    refine CC.seq ?_
    refine CC.seq ?_
    refine CC.grow (by kernel_rfl) (by kernel_rfl) ?_
    refine GG.val (fun w' b' => R.load rfl rfl (I.ldNc (vs := [Value.int IntKind.u64 ↑k, Value.int IntKind.u64 ↑p]) (RowL.cells (ri5.up b') rfl) (by rfl) (by rfl))) rfl rfl ?_
    refine GG.val (fun w' b' => R.field rfl rfl (I.fld rfl)) rfl rfl ?_
    refine GG.val (fun w' b' => R.load rfl rfl (I.ldNc (vs := [Value.slice a n c]) (RowL.cells (ra11.up b') rfl) (by rfl) (by rfl))) rfl rfl ?_
    refine GG.val (fun w' b' => R.move rfl rfl) rfl rfl ?_
    refine GG.call (fun w' => (R.call rfl rfl rfl)) rfl rfl (fun w' b' => (hPa w' (qn.trans (b'.mono qn.size))).mono fun e W' h => ⟨h.1, b'.trans (h.2.mono b'.size)⟩) ?_
    refine GG.val (fun w' b' => R.neST (p := (↑k : Int) = ↑(keyN s 0) ∧ (↑p : Int) = ↑(ptrN s 0)) (bs := [decide ((↑k : Int) = ↑(keyN s 0)), decide ((↑p : Int) = ↑(ptrN s 0))]) rfl rfl rfl rfl (by kernel_rfl) (by kernel_rfl) (by simp) (by first | assumption | omega | exact ⟨rfl, rfl⟩ | exact fun h => h ⟨rfl, rfl⟩)) rfl rfl ?_
    refine GG.val (fun w' b' => R.move rfl rfl) rfl rfl ?_
    refine GG.val (fun w' b' => R.field rfl rfl (I.fld rfl)) rfl rfl ?_
    refine GG.val (fun w' b' => R.load rfl rfl (I.ld1 rfl (RowL.cell (ri5.up b') rfl))) rfl rfl ?_
    refine GG.val (fun w' b' => R.move rfl rfl) rfl rfl ?_
    refine GG.callDF (fun w' => (R.call rfl rfl rfl)) rfl rfl (fun w' b' => (hAm w' (qn.trans (b'.mono qn.size))).mono fun e W' h => ⟨h.1, h.2 ▸ b'⟩) (by first | assumption | omega) ?_
    refine GG.val (fun w' b' => R.pick rfl rfl rfl) rfl rfl ?_
    refine GG.val (fun w' b' => R.move rfl rfl) rfl rfl ?_
    refine GG.val (fun w' b' => R.move rfl rfl) rfl rfl ?_
    refine GG.val (fun w' b' => R.gtF rfl rfl rfl (by omega)) rfl rfl ?_
    refine GG.val (fun w' b' => R.move rfl rfl) rfl rfl ?_
    refine GG.skip rfl rfl ?_
    refine GG.skip rfl rfl ?_
    refine GG.skip rfl rfl ?_
    refine GG.skip rfl rfl ?_
    refine GG.skip rfl rfl ?_
    refine GG.skip rfl rfl ?_
    refine GG.skip rfl rfl ?_
    refine GG.skip rfl rfl ?_
    refine GG.skip rfl rfl ?_
    refine GG.val (fun w' b' => R.pick rfl rfl rfl) rfl rfl ?_
    refine GG.val (fun w' b' => R.pick rfl rfl rfl) rfl rfl ?_
    refine GG.nilQ (fun Wi15 bi14 => ?_)
    have zbi14 := bi14.size
    replace bi2 := bi2.trans (bi14.mono bi2.size)
    replace q := q.trans (bi14.mono q.size)
    replace qP := qP.trans (bi14.mono qP.size)
    replace ra11 := ra11.up bi14
    replace qn := qn.trans (bi14.mono qn.size)
    replace m1 := m1.up bi14
    replace ri5 := ri5.up bi14
    refine EE.thenN ?_
    refine CC.no rfl ?_
    refine CC.skip ?_
    refine EE.thenN ?_
    refine CC.region ?_
    refine LL.val (R.move rfl rfl) rfl rfl rfl ?_
    refine LL.val (R.field rfl rfl (I.fld rfl)) rfl rfl rfl ?_
    refine LL.val (R.load rfl rfl (I.ld1 rfl (RowL.cell ri5 rfl))) rfl rfl rfl ?_
    have li16 := ra11.lt
    have li17 := ri5.lt
    refine LL.lit (e := 22) [Value.int IntKind.u64 ↑p] 1 rfl rfl (fun _ => by kernel_rfl) rfl rfl ?_
    intro Wi19 gi20 egi20 ri21 zi22 bi18
    replace bi14 := bi14.trans (bi18.mono bi14.size)
    replace bi2 := bi2.trans (bi18.mono bi2.size)
    replace q := q.trans (bi18.mono q.size)
    replace qP := qP.trans (bi18.mono qP.size)
    replace ra11 := ra11.up bi18
    replace qn := qn.trans (bi18.mono qn.size)
    replace m1 := m1.up bi18
    replace ri5 := ri5.up bi18
    refine LL.appendT2 rfl rfl uEnc ElU (ohF _ qn) (us := [p]) (RowL.readsT uEnc (ts := [p]) (by assumption) 1 (Nat.le_refl _)) (by rw [hlh]; simp only [List.length_cons, List.length_nil, maxLen]; omega) (by rw [hlh]; simp only [List.length_cons, List.length_nil]; omega) (by omega) rfl rfl ?_
    intro v' Wc o' gr hv'
    have og := own_ge (ohF _ qn)
    have zgr := gr.size
    replace ra11 := ra11.grO gr (fun e => by have := og ga10 e; omega)
    replace q := q.grown gr q.size (fun j ej => by have := og j ej; omega)
    replace qP := qP.grown gr qP.size (fun j ej => by have := og j ej; omega)
    replace o' := fin _ _ o'
    clear gr hv' m1 qn
    refine LL.val (R.assign rfl rfl) rfl rfl rfl ?_
    refine LL.nil ?_
    refine EE.inN ?_
    refine EE.thenN ?_
    refine CC.region ?_
    refine LL.val (R.addIz (z := 1) rfl rfl rfl (by decide) (by decide)) rfl rfl rfl ?_
    refine LL.val (R.move rfl rfl) rfl rfl rfl ?_
    refine LL.nil ?_
    exact EE.round (0 + 1, v') ⟨rfl, rfl, rfl, rfl, rfl, rfl, trivial⟩ ⟨by show 0 + 1 ≤ ps.length; omega, q, qP, ra11, o', by omega, hg⟩ (by show ps.length - (0 + 1) < ps.length - 0; omega)
  obtain ⟨⟨ky, py⟩, hy⟩ : ∃ y, ps[i - 1]? = some y := ⟨_, List.getElem?_eq_getElem (by omega)⟩
  have cK : ∀ X, Below Wa32.heap.size Wa32 X → X.cell? ⟨bP, oP + (i - 1) * 2, none⟩ = some (.int .u64 (ky : Int)) := fun X b => ((hpF X b).elemN prEnc hy).cell (j := 0) rfl
  by_cases hC : ky < keyN s i
  case neg =>
    have hno := bad fun hg => hC (hg.2.2 (by omega) _ hy)
    refine CC.seq ?_
    refine CC.region ?_
    refine LL.val (R.ltT rfl rfl rfl (by omega)) rfl rfl rfl ?_
    refine LL.nilS ?_
    refine CC.seq ?_
    refine CC.yes rfl ?_
    refine CC.skip ?_
    refine EE.thenN ?_
    refine CC.seq ?_
    refine CC.block ?_
    refine CC.seq ?_
    refine CC.region ?_
    refine LL.val (R.move rfl rfl) rfl rfl rfl ?_
    refine LL.val (R.index rfl rfl rfl (I.ixS rfl (by omega))) rfl rfl rfl ?_
    refine LL.val (R.load rfl rfl (I.ldM (by assumption) rfl rfl)) rfl rfl rfl ?_
    have lk1 := ra11.lt
    refine LL.alloc ([Value.int IntKind.u64 0, Value.int IntKind.u64 0]) rfl rfl rfl rfl rfl ?_
    intro Wk3 gk4 egk4 rk5 zk6 bk2
    replace q := q.trans (bk2.mono q.size)
    replace qP := qP.trans (bk2.mono qP.size)
    replace ra11 := ra11.up bk2
    replace m1 := m1.up bk2
    replace qn := qn.trans (bk2.mono qn.size)
    refine LL.val (R.assign rfl rfl) rfl rfl rfl ?_
    refine LL.storeN (vs := [Value.int IntKind.u64 ↑k, Value.int IntKind.u64 ↑p]) rfl rfl rfl rfl rk5 (by exact Nat.le_of_ble_eq_true rfl) (ones_of rfl) rfl rfl ?_
    intro Wk8 rk9 bk7 zk10
    have hlbk7 := rk5.lt
    replace rk9 : RowL Wk8 _ 41 [Value.int IntKind.u64 ↑k, Value.int IntKind.u64 ↑p] := rk9
    clear rk5
    replace bk2 := bk2.grown bk7 bk2.size (by rintro k ⟨⟩; omega)
    replace q := q.grown bk7 q.size (by rintro k ⟨⟩; omega)
    replace qP := qP.grown bk7 qP.size (by rintro k ⟨⟩; omega)
    replace ra11 := ra11.gr bk7 (by have := ra11.lt; omega)
    replace m1 := m1.gr bk7 (by have := m1.lt; omega)
    replace qn := qn.grown bk7 qn.size (by rintro k ⟨⟩; omega)
    have rk5 := rk9
    clear rk9
    refine LL.nilS ?_
    refine CC.seq ?_
    refine CC.seq ?_
    refine CC.grow (by kernel_rfl) (by kernel_rfl) ?_
    refine GG.val (fun w' b' => R.load rfl rfl (I.ldNc (vs := [Value.int IntKind.u64 ↑k, Value.int IntKind.u64 ↑p]) (RowL.cells (rk5.up b') rfl) (by rfl) (by rfl))) rfl rfl ?_
    refine GG.val (fun w' b' => R.field rfl rfl (I.fld rfl)) rfl rfl ?_
    refine GG.val (fun w' b' => R.load rfl rfl (I.ldNc (vs := [Value.slice a n c]) (RowL.cells (ra11.up b') rfl) (by rfl) (by rfl))) rfl rfl ?_
    refine GG.val (fun w' b' => R.move rfl rfl) rfl rfl ?_
    refine GG.call (fun w' => (R.call rfl rfl rfl)) rfl rfl (fun w' b' => (hPa w' (qn.trans (b'.mono qn.size))).mono fun e W' h => ⟨h.1, b'.trans (h.2.mono b'.size)⟩) ?_
    refine GG.val (fun w' b' => R.neST (p := (↑k : Int) = ↑(keyN s i) ∧ (↑p : Int) = ↑(ptrN s i)) (bs := [decide ((↑k : Int) = ↑(keyN s i)), decide ((↑p : Int) = ↑(ptrN s i))]) rfl rfl rfl rfl (by kernel_rfl) (by kernel_rfl) (by simp) (by first | assumption | omega | exact ⟨rfl, rfl⟩ | exact fun h => h ⟨rfl, rfl⟩)) rfl rfl ?_
    refine GG.val (fun w' b' => R.move rfl rfl) rfl rfl ?_
    refine GG.val (fun w' b' => R.field rfl rfl (I.fld rfl)) rfl rfl ?_
    refine GG.val (fun w' b' => R.load rfl rfl (I.ld1 rfl (RowL.cell (rk5.up b') rfl))) rfl rfl ?_
    refine GG.val (fun w' b' => R.move rfl rfl) rfl rfl ?_
    refine GG.callDF (fun w' => (R.call rfl rfl rfl)) rfl rfl (fun w' b' => (hAm w' (qn.trans (b'.mono qn.size))).mono fun e W' h => ⟨h.1, h.2 ▸ b'⟩) (by first | assumption | omega) ?_
    refine GG.val (fun w' b' => R.pick rfl rfl rfl) rfl rfl ?_
    refine GG.val (fun w' b' => R.move rfl rfl) rfl rfl ?_
    refine GG.val (fun w' b' => R.move rfl rfl) rfl rfl ?_
    refine GG.val (fun w' b' => R.gtT rfl rfl rfl (by omega)) rfl rfl ?_
    refine GG.val (fun w' b' => R.move rfl rfl) rfl rfl ?_
    refine GG.val (fun w' b' => R.field rfl rfl (I.fld rfl)) rfl rfl ?_
    refine GG.val (fun w' b' => R.load rfl rfl (I.ld1 rfl (RowL.cell (rk5.up b') rfl))) rfl rfl ?_
    refine GG.val (fun w' b' => R.move rfl rfl) rfl rfl ?_
    refine GG.val (fun w' b' => R.move rfl rfl) rfl rfl ?_
    refine GG.val (fun w' b' => R.subNc rfl rfl rfl rfl (by omega) (by omega)) rfl rfl ?_
    refine GG.val (fun w' b' => R.index rfl rfl rfl (I.ixS rfl (by omega))) rfl rfl ?_
    refine GG.val (fun w' b' => R.field rfl rfl (I.fld rfl)) rfl rfl ?_
    (refine GG.val (fun w' b' => R.load rfl rfl (I.ld1 rfl (cK w' (qP.trans (b'.mono qP.size))))) rfl rfl ?_)
    refine GG.val (fun w' b' => R.leT rfl rfl rfl (by omega)) rfl rfl ?_
    refine GG.val (fun w' b' => R.pick rfl rfl rfl) rfl rfl ?_
    refine GG.val (fun w' b' => R.pick rfl rfl rfl) rfl rfl ?_
    refine GG.nilQ (fun Wk15 bk14 => ?_)
    have zbk14 := bk14.size
    replace bk2 := bk2.trans (bk14.mono bk2.size)
    replace q := q.trans (bk14.mono q.size)
    replace qP := qP.trans (bk14.mono qP.size)
    replace ra11 := ra11.up bk14
    replace m1 := m1.up bk14
    replace qn := qn.trans (bk14.mono qn.size)
    replace rk5 := rk5.up bk14
    refine EE.thenN ?_
    refine CC.yes rfl ?_
    refine CC.seq ?_
    refine CC.region ?_
    refine LL.val (R.assign rfl rfl) rfl rfl rfl ?_
    refine LL.nilS ?_
    refine CC.ret ?_
    refine EE.thenR ?_
    refine EE.inR ?_
    refine EE.thenR ?_
    refine EE.thenR ?_
    refine EE.inR ?_
    refine EE.thenR ?_
    refine EE.ret _ rfl rfl ?_
    exact ⟨_, rfl, by simp [hno], q⟩
  have hg := hgd' ⟨by rw [hx, hA1, hA2]; rfl, by rw [← hA2]; exact hB, fun _ y e => by rw [hy] at e; cases e; exact hC⟩
  clear hgd' bad hx1 app
  refine CC.seq ?_
  refine CC.region ?_
  refine LL.val (R.ltT rfl rfl rfl (by omega)) rfl rfl rfl ?_
  refine LL.nilS ?_
  refine CC.seq ?_
  refine CC.yes rfl ?_
  refine CC.skip ?_
  refine EE.thenN ?_
  refine CC.seq ?_
  refine CC.block ?_
  refine CC.seq ?_
  refine CC.region ?_
  refine LL.val (R.move rfl rfl) rfl rfl rfl ?_
  refine LL.val (R.index rfl rfl rfl (I.ixS rfl (by omega))) rfl rfl rfl ?_
  refine LL.val (R.load rfl rfl (I.ldM (by assumption) rfl rfl)) rfl rfl rfl ?_
  have ll1 := ra11.lt
  refine LL.alloc ([Value.int IntKind.u64 0, Value.int IntKind.u64 0]) rfl rfl rfl rfl rfl ?_
  intro Wl3 gl4 egl4 rl5 zl6 bl2
  replace q := q.trans (bl2.mono q.size)
  replace qP := qP.trans (bl2.mono qP.size)
  replace ra11 := ra11.up bl2
  replace m1 := m1.up bl2
  replace qn := qn.trans (bl2.mono qn.size)
  refine LL.val (R.assign rfl rfl) rfl rfl rfl ?_
  refine LL.storeN (vs := [Value.int IntKind.u64 ↑k, Value.int IntKind.u64 ↑p]) rfl rfl rfl rfl rl5 (by exact Nat.le_of_ble_eq_true rfl) (ones_of rfl) rfl rfl ?_
  intro Wl8 rl9 bl7 zl10
  have hlbl7 := rl5.lt
  replace rl9 : RowL Wl8 _ 41 [Value.int IntKind.u64 ↑k, Value.int IntKind.u64 ↑p] := rl9
  clear rl5
  replace bl2 := bl2.grown bl7 bl2.size (by rintro k ⟨⟩; omega)
  replace q := q.grown bl7 q.size (by rintro k ⟨⟩; omega)
  replace qP := qP.grown bl7 qP.size (by rintro k ⟨⟩; omega)
  replace ra11 := ra11.gr bl7 (by have := ra11.lt; omega)
  replace m1 := m1.gr bl7 (by have := m1.lt; omega)
  replace qn := qn.grown bl7 qn.size (by rintro k ⟨⟩; omega)
  have rl5 := rl9
  clear rl9
  refine LL.nilS ?_
  refine CC.seq ?_
  refine CC.seq ?_
  refine CC.grow (by kernel_rfl) (by kernel_rfl) ?_
  refine GG.val (fun w' b' => R.load rfl rfl (I.ldNc (vs := [Value.int IntKind.u64 ↑k, Value.int IntKind.u64 ↑p]) (RowL.cells (rl5.up b') rfl) (by rfl) (by rfl))) rfl rfl ?_
  refine GG.val (fun w' b' => R.field rfl rfl (I.fld rfl)) rfl rfl ?_
  refine GG.val (fun w' b' => R.load rfl rfl (I.ldNc (vs := [Value.slice a n c]) (RowL.cells (ra11.up b') rfl) (by rfl) (by rfl))) rfl rfl ?_
  refine GG.val (fun w' b' => R.move rfl rfl) rfl rfl ?_
  refine GG.call (fun w' => (R.call rfl rfl rfl)) rfl rfl (fun w' b' => (hPa w' (qn.trans (b'.mono qn.size))).mono fun e W' h => ⟨h.1, b'.trans (h.2.mono b'.size)⟩) ?_
  refine GG.val (fun w' b' => R.neST (p := (↑k : Int) = ↑(keyN s i) ∧ (↑p : Int) = ↑(ptrN s i)) (bs := [decide ((↑k : Int) = ↑(keyN s i)), decide ((↑p : Int) = ↑(ptrN s i))]) rfl rfl rfl rfl (by kernel_rfl) (by kernel_rfl) (by simp) (by first | assumption | omega | exact ⟨rfl, rfl⟩ | exact fun h => h ⟨rfl, rfl⟩)) rfl rfl ?_
  refine GG.val (fun w' b' => R.move rfl rfl) rfl rfl ?_
  refine GG.val (fun w' b' => R.field rfl rfl (I.fld rfl)) rfl rfl ?_
  refine GG.val (fun w' b' => R.load rfl rfl (I.ld1 rfl (RowL.cell (rl5.up b') rfl))) rfl rfl ?_
  refine GG.val (fun w' b' => R.move rfl rfl) rfl rfl ?_
  refine GG.callDF (fun w' => (R.call rfl rfl rfl)) rfl rfl (fun w' b' => (hAm w' (qn.trans (b'.mono qn.size))).mono fun e W' h => ⟨h.1, h.2 ▸ b'⟩) (by first | assumption | omega) ?_
  refine GG.val (fun w' b' => R.pick rfl rfl rfl) rfl rfl ?_
  refine GG.val (fun w' b' => R.move rfl rfl) rfl rfl ?_
  refine GG.val (fun w' b' => R.move rfl rfl) rfl rfl ?_
  refine GG.val (fun w' b' => R.gtT rfl rfl rfl (by omega)) rfl rfl ?_
  refine GG.val (fun w' b' => R.move rfl rfl) rfl rfl ?_
  refine GG.val (fun w' b' => R.field rfl rfl (I.fld rfl)) rfl rfl ?_
  refine GG.val (fun w' b' => R.load rfl rfl (I.ld1 rfl (RowL.cell (rl5.up b') rfl))) rfl rfl ?_
  refine GG.val (fun w' b' => R.move rfl rfl) rfl rfl ?_
  refine GG.val (fun w' b' => R.move rfl rfl) rfl rfl ?_
  refine GG.val (fun w' b' => R.subNc rfl rfl rfl rfl (by omega) (by omega)) rfl rfl ?_
  refine GG.val (fun w' b' => R.index rfl rfl rfl (I.ixS rfl (by omega))) rfl rfl ?_
  refine GG.val (fun w' b' => R.field rfl rfl (I.fld rfl)) rfl rfl ?_
  (refine GG.val (fun w' b' => R.load rfl rfl (I.ld1 rfl (cK w' (qP.trans (b'.mono qP.size))))) rfl rfl ?_)
  refine GG.val (fun w' b' => R.leF rfl rfl rfl (by omega)) rfl rfl ?_
  refine GG.val (fun w' b' => R.pick rfl rfl rfl) rfl rfl ?_
  refine GG.val (fun w' b' => R.pick rfl rfl rfl) rfl rfl ?_
  refine GG.nilQ (fun Wl15 bl14 => ?_)
  have zbl14 := bl14.size
  replace bl2 := bl2.trans (bl14.mono bl2.size)
  replace q := q.trans (bl14.mono q.size)
  replace qP := qP.trans (bl14.mono qP.size)
  replace ra11 := ra11.up bl14
  replace m1 := m1.up bl14
  replace qn := qn.trans (bl14.mono qn.size)
  replace rl5 := rl5.up bl14
  refine EE.thenN ?_
  refine CC.no rfl ?_
  refine CC.skip ?_
  refine EE.thenN ?_
  refine CC.region ?_
  refine LL.val (R.move rfl rfl) rfl rfl rfl ?_
  refine LL.val (R.field rfl rfl (I.fld rfl)) rfl rfl rfl ?_
  refine LL.val (R.load rfl rfl (I.ld1 rfl (RowL.cell rl5 rfl))) rfl rfl rfl ?_
  have ll16 := ra11.lt
  have ll17 := rl5.lt
  refine LL.lit (e := 22) [Value.int IntKind.u64 ↑p] 1 rfl rfl (fun _ => by kernel_rfl) rfl rfl ?_
  intro Wl19 gl20 egl20 rl21 zl22 bl18
  replace bl14 := bl14.trans (bl18.mono bl14.size)
  replace bl2 := bl2.trans (bl18.mono bl2.size)
  replace q := q.trans (bl18.mono q.size)
  replace qP := qP.trans (bl18.mono qP.size)
  replace ra11 := ra11.up bl18
  replace m1 := m1.up bl18
  replace qn := qn.trans (bl18.mono qn.size)
  replace rl5 := rl5.up bl18
  refine LL.appendT2 rfl rfl uEnc ElU (ohF _ qn) (us := [p]) (RowL.readsT uEnc (ts := [p]) (by assumption) 1 (Nat.le_refl _)) (by rw [hlh]; simp only [List.length_cons, List.length_nil, maxLen]; omega) (by rw [hlh]; simp only [List.length_cons, List.length_nil]; omega) (by omega) rfl rfl ?_
  intro v' Wc o' gr hv'
  have og := own_ge (ohF _ qn)
  have zgr := gr.size
  replace ra11 := ra11.grO gr (fun e => by have := og ga10 e; omega)
  replace q := q.grown gr q.size (fun j ej => by have := og j ej; omega)
  replace qP := qP.grown gr qP.size (fun j ej => by have := og j ej; omega)
  replace o' := fin _ _ o'
  clear gr hv' m1 qn
  refine LL.val (R.assign rfl rfl) rfl rfl rfl ?_
  refine LL.nil ?_
  refine EE.inN ?_
  refine EE.thenN ?_
  refine CC.region ?_
  refine LL.val (R.addNc rfl rfl rfl rfl (by omega)) rfl rfl rfl ?_
  refine LL.val (R.move rfl rfl) rfl rfl rfl ?_
  refine LL.nil ?_
  exact EE.round (i + 1, v') ⟨rfl, rfl, rfl, rfl, rfl, rfl, trivial⟩ ⟨by show i + 1 ≤ ps.length; omega, q, qP, ra11, o', by omega, hg⟩ (by show ps.length - (i + 1) < ps.length - i; omega)
end Go.Proofs.Ytfpcpnodcdgbdaa

/- slots: settled rows, by their slots; a key's slot; what is refused. -/
namespace Go.Proofs.Ytfpcpnodcdgbdaa
set_option linter.unusedVariables false
set_option linter.unusedSimpArgs false
open Go.RowKit Go.Shelf
/-- A settled row of so many pairs. -/
structure Stl (left : Nat) (s : List Nat) (n : Nat) : Prop where
  lt : n < s.length / 2
  ne : ∀ j, j < n → ptrN s j ≠ 0
  z : ∀ j, n ≤ j → j < s.length / 2 → ptrN s j = 0
  nl : ∀ j, j < n → ptrN s j ≠ left
  dis : ∀ i j, i < j → j < n → ptrN s i ≠ ptrN s j
  up : ∀ j, j + 1 < n → keyN s j < keyN s (j + 1)
theorem Stl.over {left : Nat} {s : List Nat} {n : Nat} (h : Stl left s n) : overN s = n := over_eq (by have := h.lt; omega) h.ne (.inr (h.z n (Nat.le_refl _) h.lt))
theorem Stl.aheadNe {left : Nat} {s : List Nat} {n j : Nat} (h : Stl left s n) (hj : j < n) : ptrN s j ≠ aheadN left s j := by
  unfold aheadN
  split
  · exact h.nl j hj
  · exact fun e => h.dis (j - 1) j (by omega) hj e.symm
theorem pairF_all {left : Nat} {s : List Nat} : ∀ {j : Nat}, (∀ i, i < j → ptrN s i ≠ aheadN left s i) → pairF left s j = (List.range j).map fun i => (i, prA s i)
  | 0, _ => rfl
  | j + 1, h => by
    rw [pairF_succ, if_neg (h j (by omega)), pairF_all (fun i hi => h i (by omega)), List.range_succ, List.map_append]
    rfl
theorem Stl.pairS {left : Nat} {s : List Nat} {n : Nat} (h : Stl left s n) : pairS left s = (List.range n).map fun i => (i, prA s i) := by
  unfold Go.Proofs.Ytfpcpnodcdgbdaa.pairS
  rw [h.over]
  exact pairF_all fun i hi => h.aheadNe hi
theorem Stl.pairP {left : Nat} {s : List Nat} {n : Nat} (h : Stl left s n) : pairP left s = (List.range n).map (prA s) := by
  unfold Go.Proofs.Ytfpcpnodcdgbdaa.pairP
  rw [h.pairS, List.map_map]
  rfl
theorem pairF_full {left : Nat} {s : List Nat} : ∀ {j : Nat}, (pairF left s j).length = j → ∀ i, i < j → ptrN s i ≠ aheadN left s i
  | 0, _, _, h => by omega
  | j + 1, hl, i, hi => by
    rw [pairF_succ] at hl
    by_cases e : ptrN s j = aheadN left s j
    · rw [if_pos e] at hl
      have := pairF_len left s j
      omega
    · rw [if_neg e] at hl
      simp only [List.length_append, List.length_cons, List.length_nil] at hl
      by_cases hij : i = j
      · subst hij; exact e
      · exact pairF_full (j := j) (by omega) i (by omega)
theorem range_map_get {α : Type} {f : Nat → α} {n j : Nat} (h : j < n) : ((List.range n).map f)[j]? = some (f j) := by
  rw [List.getElem?_map, List.getElem?_range h]
  rfl
theorem setP_iff {left : Nat} {s : List Nat} : setP left s ↔ ∃ n, Stl left s n := by
  constructor
  · rintro ⟨h1, h2, h3⟩
    obtain ⟨n, en⟩ : ∃ n, (pairP left s).length = n := ⟨_, rfl⟩
    rw [en] at h1 h2 h3
    have hn : (pairF left s (overN s)).length = n := by rw [← en]; unfold pairP pairS; rw [List.length_map]
    have ho1 : n ≤ overN s := by rw [← hn]; exact pairF_len _ _ _
    have ho2 : overN s ≤ n := by
      rcases Nat.lt_or_ge n (overN s) with h | h
      · exact absurd (h3 n (Nat.le_refl _) h1) (over_ne h)
      · exact h
    have ho : overN s = n := by omega
    rw [ho] at hn
    have hne := pairF_full hn
    have hP : pairP left s = (List.range n).map (prA s) := by
      unfold pairP pairS
      rw [ho, pairF_all hne, List.map_map]
      rfl
    rw [hP] at h2
    have htk : ∀ j, j < n → ((List.range n).map (prA s)).take j = (List.range j).map (prA s) := fun j hj => by
      rw [← List.map_take, List.take_range, Nat.min_eq_left (by omega)]
    refine ⟨n, h1, fun j hj => over_ne (by omega), h3, fun j hj e => ?_, fun i j hij hj e => ?_, fun j hj => ?_⟩
    · exact (h2 j hj).2.1 (by rw [e]; exact List.mem_cons_self ..)
    · refine (h2 j hj).2.1 ?_
      rw [htk j hj]
      refine List.mem_cons_of_mem _ (List.mem_map.2 ⟨prA s i, List.mem_map.2 ⟨i, List.mem_range.2 hij, rfl⟩, e⟩)
    · exact (h2 (j + 1) hj).2.2 (by omega) (prA s j) (range_map_get (by omega))
  · rintro ⟨n, h⟩
    have hP := h.pairP
    have hl : ((List.range n).map (prA s)).length = n := by simp
    refine ⟨by rw [hP, hl]; exact h.lt, fun j hj => ?_, fun j h1 h2 => h.z j (by rw [hP, hl] at h1; exact h1) h2⟩
    rw [hP] at hj ⊢
    rw [hl] at hj
    refine ⟨range_map_get hj, fun hm => ?_, fun h0 y hy => ?_⟩
    · rcases List.mem_cons.1 hm with e | hm
      · exact h.nl j hj e
      · obtain ⟨y, hy, e⟩ := List.mem_map.1 hm
        rw [← List.map_take, List.take_range, Nat.min_eq_left (by omega)] at hy
        obtain ⟨i, hi, rfl⟩ := List.mem_map.1 hy
        exact h.dis i j (List.mem_range.1 hi) hj e
    · rw [range_map_get (by omega)] at hy
      cases hy
      have := h.up (j - 1) (by omega)
      rw [show j - 1 + 1 = j by omega] at this
      exact this
/-- A key's slot. -/
def findN (l : List (Nat × Pr)) (key : Nat) : Nat × Bool := match l.find? fun x => x.2.1 == key with
  | some x => (x.1, true)
  | none => (0, false)
theorem findN_snoc {l : List (Nat × Pr)} {key : Nat} {x : Nat × Pr} (h : ∀ y ∈ l, y.2.1 ≠ key) (hx : x.2.1 ≠ key) : ∀ y ∈ l ++ [x], y.2.1 ≠ key := fun y hy => by
  rcases List.mem_append.1 hy with hy | hy
  · exact h y hy
  · rw [List.mem_singleton.1 hy]; exact hx
theorem findN_none {l : List (Nat × Pr)} {key : Nat} (h : ∀ y ∈ l, y.2.1 ≠ key) : findN l key = (0, false) := by
  unfold findN
  rw [List.find?_eq_none.2 fun y hy => by simpa using h y hy]
theorem findN_at {l : List (Nat × Pr)} {pre t : List (Nat × Pr)} {key : Nat} {x : Nat × Pr} (h : ∀ y ∈ pre, y.2.1 ≠ key) (hx : x.2.1 = key) (hl : pre ++ [x] ++ t = l) : findN l key = (x.1, true) := by
  unfold findN
  rw [← hl, List.append_assoc, List.find?_append, List.find?_eq_none.2 fun y hy => by simpa using h y hy]
  simp [hx]
end Go.Proofs.Ytfpcpnodcdgbdaa

/- slots: find; refuse; what may not come in. -/
namespace Go.Proofs.Ytfpcpnodcdgbdaa
set_option linter.unusedVariables false
set_option linter.unusedSimpArgs false
open Go.RowKit Go.Shelf
set_option maxRecDepth 100000
set_option maxHeartbeats 4000000
theorem find_any (a : Option Addr) (n c left key : Nat) (s : List Nat) (w : World) (hv : ReadsT uE 1 w (.slice a n c) s) (hn : s.length = n) (h : n ≤ 1048576) : Calls Try.prog 41 #[rowV (.slice a n c) left, .int .u64 (key : Int)] w fun e w' => e = .returned (.tuple #[.int .i64 ((findN (pairS left s) key).1 : Int), .bool (findN (pairS left s) key).2]) ∧ Below w.heap.size w w' := by
  have q := Below.refl w.heap.size w
  have hvF : ∀ X, Below w.heap.size w X → ReadsT uE 1 X (.slice a n c) s := fun X b => hv.up b
  clear hv
  refine X.fnM Try.func41 rfl (n := 19) rfl rfl ?_
  refine CC.seq ?_
  refine CC.region ?_
  refine LL.box [Value.slice a n c, Value.int IntKind.u64 ↑left] rfl rfl rfl rfl rfl ?_
  intro W2 g3 eg3 r4 z5 b1
  replace q := q.trans (b1.mono q.size)
  have l6 := r4.lt
  refine LL.box [Value.int IntKind.u64 ↑key] rfl rfl rfl rfl rfl ?_
  intro W8 g9 eg9 r10 z11 b7
  replace r4 := r4.up b7
  replace b1 := b1.trans (b7.mono b1.size)
  replace q := q.trans (b7.mono q.size)
  have l12 := r10.lt
  have l13 := r4.lt
  refine LL.alloc ([Value.int IntKind.i64 0]) rfl rfl rfl rfl rfl ?_
  intro W15 g16 eg16 r17 z18 b14
  replace r10 := r10.up b14
  replace b7 := b7.trans (b14.mono b7.size)
  replace r4 := r4.up b14
  replace b1 := b1.trans (b14.mono b1.size)
  replace q := q.trans (b14.mono q.size)
  have l19 := r17.lt
  have l20 := r10.lt
  have l21 := r4.lt
  refine LL.alloc ([Value.bool false]) rfl rfl rfl rfl rfl ?_
  intro W23 g24 eg24 r25 z26 b22
  replace r17 := r17.up b22
  replace b14 := b14.trans (b22.mono b14.size)
  replace r10 := r10.up b22
  replace b7 := b7.trans (b22.mono b7.size)
  replace r4 := r4.up b22
  replace b1 := b1.trans (b22.mono b1.size)
  replace q := q.trans (b22.mono q.size)
  refine LL.nilS ?_
  refine CC.straight ?_
  refine CC.seq ?_
  refine CC.label ?_
  refine EE.thenN ?_
  refine CC.seq ?_
  refine CC.seq ?_
  refine CC.region ?_
  refine LL.val (R.load rfl rfl (I.ldNc (vs := [Value.slice a n c, Value.int IntKind.u64 ↑left]) (RowL.cells r4 rfl) (by rfl) (by rfl))) rfl rfl rfl ?_
  refine LL.call (R.call rfl rfl rfl) rfl rfl rfl (each_any _ _ _ _ _) ?_
  rintro e W28 ⟨g29, rfl, r30, l31, b27⟩
  refine ⟨_, rfl, ?_⟩
  have zb27 := b27.size
  replace r25 := r25.up b27
  replace b22 := b22.trans (b27.mono b22.size)
  replace r17 := r17.up b27
  replace b14 := b14.trans (b27.mono b14.size)
  replace r10 := r10.up b27
  replace b7 := b7.trans (b27.mono b7.size)
  replace r4 := r4.up b27
  replace b1 := b1.trans (b27.mono b1.size)
  replace q := q.trans (b27.mono q.size)
  refine LL.nilS ?_
  refine CC.block ?_
  have yB := q.size
  have l9 := r10.lt
  have l16 := r17.lt
  have l24 := r25.lt
  obtain ⟨bkl, hbl, hblt⟩ := bkl_row (hvF _ (Below.refl _ _)) g29
  have lbk := r30.lt
  refine CC.rangeZ (γ := Nat) (gf := 62) (lb := [.pointer (some ⟨g29, 0, none⟩)]) (encs := spE) rfl rfl (each1_gives g29 bkl a n c left s W28 r30 (hvF _ q) hn h hbl).z (Below.refl _ _) (fun k hk => by (try simp only at hk); omega) (fun _ => rfl) rfl
    (fun m (pre : List (Nat × Pr)) W' => W28.heap.size ≤ W'.heap.size ∧ Below w.heap.size w W' ∧ RowL W' g9 22 [.int .u64 (key : Int)] ∧ RowL W' g16 3 [.int .i64 0] ∧ RowL W' g24 4 [.bool false] ∧ ∀ y ∈ pre, y.2.1 ≠ key)
    (fun m (pre : List (Nat × Pr)) W' => Below w.heap.size w W' ∧ RowL W' g16 3 [.int .i64 ((findN (pairS left s) key).1 : Int)] ∧ RowL W' g24 4 [.bool (findN (pairS left s) key).2])
    (fun W' => Below w.heap.size w W' ∧ RowL W' g16 3 [.int .i64 ((findN (pairS left s) key).1 : Int)] ∧ RowL W' g24 4 [.bool (findN (pairS left s) key).2])
    (fun m m' s X Y hs ht hg => ⟨by have := ht.size; have := hs.1; omega, hs.2.1.trans (ht.below yB hs.2.1.size), ht.row hs.2.2.1 (.inl l9), ht.row hs.2.2.2.1 (.inl l16), ht.row hs.2.2.2.2.1 (.inl l24), hs.2.2.2.2.2⟩)
    (fun m m' s X Y hs ht hg => ⟨hs.1.trans (ht.below yB hs.1.size), ht.row hs.2.1 (.inl l16), ht.row hs.2.2 (.inl l24)⟩)
    ⟨Nat.le_refl _, q, r10, r17, r25, fun y hy => by cases hy⟩ ?hIA ?hIxA
    (fun x g => sl [(3, .pointer (some ⟨g9, 0, none⟩)), (4, .pointer (some ⟨g16, 0, none⟩)), (5, .pointer (some ⟨g24, 0, none⟩)), (6, .int .i64 (x.1 : Int)), (7, .pointer (some ⟨g, 0, none⟩))]) (fun x g W' => RowL W' g 41 (prE x.2) ∧ W28.heap.size ≤ g) (fun x g => fun _ W W' row h hg hr => ⟨RowL.own () W W' row h.1 hg hr, h.2⟩) ?assign ?body ?after
  case hIA =>
    rintro m xs W' rfl ⟨_, h1, _, h16, h24, hk⟩
    rw [findN_none hk]
    exact ⟨h1, h16, h24⟩
  case hIxA =>
    rintro m pre W' _ h
    exact h
  case assign =>
    rintro l' m pre x W K hm ⟨zW, h1, h9, h16, h24, hk⟩ hK
    have qa := Below.refl W.heap.size W
    have ySz := h1.size
    refine CC.seq ?_
    refine CC.region ?_
    refine LL.val (R.assign rfl rfl) rfl rfl rfl ?_
    refine LL.nilS ?_
    refine CC.region ?_
    have la1 := h9.lt
    have la2 := h16.lt
    have la3 := h24.lt
    refine LL.alloc ([Value.int IntKind.u64 0, Value.int IntKind.u64 0]) rfl rfl rfl rfl rfl ?_
    intro Wa5 ga6 ega6 ra7 za8 ba4
    replace h1 := h1.trans (ba4.mono h1.size)
    replace h9 := h9.up ba4
    replace h16 := h16.up ba4
    replace h24 := h24.up ba4
    replace qa := qa.trans (ba4.mono qa.size)
    refine LL.storeN (vs := [Value.int IntKind.u64 ↑x.2.1, Value.int IntKind.u64 ↑x.2.2]) rfl rfl rfl rfl ra7 (by exact Nat.le_of_ble_eq_true rfl) (ones_of rfl) rfl rfl ?_
    intro Wa10 ra11 ba9 za12
    have hlba9 := ra7.lt
    replace ra11 : RowL Wa10 _ 41 [Value.int IntKind.u64 ↑x.2.1, Value.int IntKind.u64 ↑x.2.2] := ra11
    clear ra7
    replace ba4 := ba4.grown ba9 ba4.size (by rintro k ⟨⟩; omega)
    replace h1 := h1.grown ba9 h1.size (by rintro k ⟨⟩; omega)
    replace h9 := h9.gr ba9 (by have := h9.lt; omega)
    replace h16 := h16.gr ba9 (by have := h16.lt; omega)
    replace h24 := h24.gr ba9 (by have := h24.lt; omega)
    replace qa := qa.grown ba9 qa.size (by rintro k ⟨⟩; omega)
    have ra7 := ra11
    clear ra11
    refine LL.nil ?_
    exact EE.thenK fun a' F => hK a' _ _ (StaysZ.of_below qa) (Keeps.of_below (fun k hk => by (try simp only at hk); omega) qa) ⟨by omega, h1, h9, h16, h24, hk⟩ (F.keep _ ⟨rfl, rfl, rfl, rfl, rfl, trivial⟩) ⟨by assumption, by omega⟩
  case body =>
    rintro l' m pre x g W hm hl' hrl ⟨zW, h1, h9, h16, h24, hk⟩ ⟨hx, hg⟩ ⟨_, rfl, tt, hp⟩
    have st := StaysZ.refl W28.heap.size m W
    have kp := Keeps.refl (fun k => k = g29 ∨ k = bkl) W
    by_cases hxk : x.2.1 = key
    · have hf := findN_at hk hxk hp
      have e1 : (x.1 : Int) = ((findN (pairS left s) key).1 : Int) := by rw [hf]
      have e2 : true = (findN (pairS left s) key).2 := by rw [hf]
      refine CC.block ?_
      refine CC.seq ?_
      refine CC.region ?_
      refine LL.val (R.field rfl rfl (I.fld rfl)) rfl rfl rfl ?_
      refine LL.val (R.load rfl rfl (I.ld1 rfl (RowL.cell hx rfl))) rfl rfl rfl ?_
      refine LL.val (R.load rfl rfl (I.ld1 rfl (RowL.cell h9 rfl))) rfl rfl rfl ?_
      refine LL.val (R.eqT rfl rfl rfl (by omega)) rfl rfl rfl ?_
      refine LL.nilS ?_
      refine CC.yes rfl ?_
      refine CC.seq ?_
      refine CC.region ?_
      refine LL.val (R.move rfl rfl) rfl rfl rfl ?_
      refine LL.store rfl rfl rfl rfl h16 (by exact Nat.le_of_ble_eq_true rfl) rfl rfl rfl rfl ?_
      intro Wb2 rb3 bb1 zb4
      have hlbb1 := h16.lt
      replace rb3 : RowL Wb2 _ 3 [Value.int IntKind.i64 ↑x.1] := rb3
      clear h16
      replace h1 := h1.grown bb1 h1.size (by rintro k ⟨⟩; omega)
      replace h9 := h9.gr bb1 (by have := h9.lt; omega)
      replace h24 := h24.gr bb1 (by have := h24.lt; omega)
      replace hx := hx.gr bb1 (by have := hx.lt; omega)
      replace st := st.trans (StaysZ.of_grown bb1 (by omega))
      replace kp := kp.trans (Keeps.of_grown bb1 fun k hk => by (try simp only at hk); omega)
      have h16 := rb3
      clear rb3
      refine LL.store rfl rfl rfl rfl h24 (by exact Nat.le_of_ble_eq_true rfl) rfl rfl rfl rfl ?_
      intro Wb6 rb7 bb5 zb8
      have hlbb5 := h24.lt
      replace rb7 : RowL Wb6 _ 4 [Value.bool true] := rb7
      clear h24
      replace h1 := h1.grown bb5 h1.size (by rintro k ⟨⟩; omega)
      replace h9 := h9.gr bb5 (by have := h9.lt; omega)
      replace hx := hx.gr bb5 (by have := hx.lt; omega)
      replace st := st.trans (StaysZ.of_grown bb5 (by omega))
      replace kp := kp.trans (Keeps.of_grown bb5 fun k hk => by (try simp only at hk); omega)
      replace h16 := h16.gr bb5 (by have := h16.lt; omega)
      have h24 := rb7
      clear rb7
      refine LL.nilS ?_
      refine CC.exit ?_
      refine EE.inX' rfl ?_
      exact EE.roundXZ ⟨st, rfl, h1, by rw [← e1]; exact h16, by rw [← e2]; exact h24⟩
    · have hk' := findN_snoc hk hxk
      refine CC.block ?_
      refine CC.seq ?_
      refine CC.region ?_
      refine LL.val (R.field rfl rfl (I.fld rfl)) rfl rfl rfl ?_
      refine LL.val (R.load rfl rfl (I.ld1 rfl (RowL.cell hx rfl))) rfl rfl rfl ?_
      refine LL.val (R.load rfl rfl (I.ld1 rfl (RowL.cell h9 rfl))) rfl rfl rfl ?_
      refine LL.val (R.eqF rfl rfl rfl (by omega)) rfl rfl rfl ?_
      refine LL.nilS ?_
      refine CC.no rfl ?_
      refine CC.skip ?_
      refine EE.inN ?_
      exact EE.roundNZ ⟨st, kp, zW, h1, h9, h16, h24, hk'⟩
  case after =>
    rintro E W hE ⟨h1, h16, h24⟩ hE1
    refine EE.thenN ?_
    refine CC.seq ?_
    refine CC.join (fun l_ Wd9 => l_ = [(0, Value.agg #[Value.slice a n c, Value.int IntKind.u64 ↑left]), (1, Value.int IntKind.u64 ↑key), (2, Value.pointer (some { block := g3, off := 0 })), (3, Value.pointer (some { block := g9, off := 0 })), (4, Value.pointer (some { block := g16, off := 0 })), (5, Value.pointer (some { block := g24, off := 0 })), (8, Value.agg #[Value.slice a n c, Value.int IntKind.u64 ↑left]), (9, Value.func (Fn.func 62) #[] #[Value.pointer (some { block := g29, off := 0 })])] ∧ (Below w.heap.size w Wd9) ∧ (Wd9.heap[E]? = some (Obj.deferred (some []))) ∧ (RowL Wd9 g16 3 [Value.int IntKind.i64 ↑(findN (pairS left s) key).1]) ∧ (RowL Wd9 g24 4 [Value.bool (findN (pairS left s) key).2]) ∧ (W.heap.size ≤ Wd9.heap.size)) (fun Jd13 => ?_) ?restJd13
    case' restJd13 =>
      clear h1
      clear hE1
      clear h16
      clear h24
      rintro _ Wd9 ⟨rfl, h1, hE1, h16, h24, zd12⟩
    refine EE.thenN ?_
    refine CC.ret ?_
    refine EE.noR ?_
    refine EE.retN2 hE1 rfl ⟨_, rfl, lv1 rfl (RowL.cell (taken_up (by assumption) (by omega)) rfl)⟩ ⟨_, rfl, lv1 rfl (RowL.cell (taken_up (by assumption) (by omega)) rfl)⟩ ?_
    exact ⟨rfl, taken_bel h1 (by omega) (Nat.le_refl _)⟩
    refine CC.freeZ (fun W_ j => j < W_.heap.size ∧ (j ≠ g16 ∧ j ≠ g24)) (by kernel_rfl) (by kernel_rfl) (fun Wd15 bd14 zd16 => ?_)
    replace h1 := h1.trans (bd14.mono h1.size)
    replace h16 := h16.up bd14
    replace h24 := h24.up bd14
    replace hE1 := defer_up hE1 bd14
    have hok : Kept (fun j => j < Wd15.heap.size ∧ (j ≠ g16 ∧ j ≠ g24)) Wd15 Wd15 := Kept.refl _ _
    refine AA.two 0 1 (by kernel_rfl) ?_ ?_
    refine SR.val rfl (R.load rfl rfl (I.ld1 rfl (RowL.cell h16 rfl))) rfl rfl hok ?_
    refine AA.two 1 2 (by kernel_rfl) ?_ ?_
    refine SR.val rfl (R.load rfl rfl (I.ld1 rfl (RowL.cell h24 rfl))) rfl rfl hok ?_
    refine AA.one 2 (by kernel_rfl) ?_
    refine ZR.store rfl rfl rfl rfl rfl h16 (by exact Nat.le_of_ble_eq_true rfl) rfl rfl rfl rfl ?_
    intro Wd18 rd19 bd17 zd20
    have hlbd17 := h16.lt
    replace rd19 : RowL Wd18 _ 3 [Value.int IntKind.i64 ↑(findN (pairS left s) key).1] := rd19
    clear h16
    replace h1 := h1.grown bd17 h1.size (by rintro k ⟨⟩; omega)
    replace h24 := h24.gr bd17 (by have := h24.lt; omega)
    replace hE1 := (bd17.block _ (Array.getElem?_eq_some_iff.1 hE1).1 (by simp; omega)).trans hE1
    replace hok := hok.trans (grown_kept bd17 (fun j h => by have := h.1; have := hok.size; omega) (fun j h e => by cases e; have h2 := h.1; have h3 := h.2; omega))
    have h16 := rd19
    clear rd19
    refine ⟨hok, ?_⟩
    refine AA.one 3 (by kernel_rfl) ?_
    refine ZR.store rfl rfl rfl rfl rfl h24 (by exact Nat.le_of_ble_eq_true rfl) rfl rfl rfl rfl ?_
    intro Wd22 rd23 bd21 zd24
    have hlbd21 := h24.lt
    replace rd23 : RowL Wd22 _ 4 [Value.bool (findN (pairS left s) key).2] := rd23
    clear h24
    replace h1 := h1.grown bd21 h1.size (by rintro k ⟨⟩; omega)
    replace hE1 := (bd21.block _ (Array.getElem?_eq_some_iff.1 hE1).1 (by simp; omega)).trans hE1
    replace hok := hok.trans (grown_kept bd21 (fun j h => by have := h.1; have := hok.size; omega) (fun j h e => by cases e; have h2 := h.1; have h3 := h.2; omega))
    replace h16 := h16.gr bd21 (by have := h16.lt; omega)
    have h24 := rd23
    clear rd23
    refine ⟨hok, ?_⟩
    refine AA.done rfl ?_
    clear hok
    exact EE.weak (Jd13 _ _ ⟨rfl, (by first | assumption | omega), (by first | assumption | omega), (by first | assumption | omega), (by first | assumption | omega), (by first | assumption | omega)⟩) ⟨rfl, rfl, rfl, rfl, rfl, rfl, rfl, rfl, trivial⟩
    refine ZR.store rfl rfl rfl rfl rfl h16 (by exact Nat.le_of_ble_eq_true rfl) rfl rfl rfl rfl ?_
    intro Wd26 rd27 bd25 zd28
    have hlbd25 := h16.lt
    replace rd27 : RowL Wd26 _ 3 [Value.int IntKind.i64 ↑(findN (pairS left s) key).1] := rd27
    clear h16
    replace h1 := h1.grown bd25 h1.size (by rintro k ⟨⟩; omega)
    replace h24 := h24.gr bd25 (by have := h24.lt; omega)
    replace hE1 := (bd25.block _ (Array.getElem?_eq_some_iff.1 hE1).1 (by simp; omega)).trans hE1
    replace hok := hok.trans (grown_kept bd25 (fun j h => by have := h.1; have := hok.size; omega) (fun j h e => by cases e; have h2 := h.1; have h3 := h.2; omega))
    have h16 := rd27
    clear rd27
    refine ⟨hok, ?_⟩
    refine AA.one 1 (by kernel_rfl) ?_
    refine SR.val rfl (R.load rfl rfl (I.ld1 rfl (RowL.cell h24 rfl))) rfl rfl hok ?_
    refine AA.one 3 (by kernel_rfl) ?_
    refine ZR.store rfl rfl rfl rfl rfl h24 (by exact Nat.le_of_ble_eq_true rfl) rfl rfl rfl rfl ?_
    intro Wd30 rd31 bd29 zd32
    have hlbd29 := h24.lt
    replace rd31 : RowL Wd30 _ 4 [Value.bool (findN (pairS left s) key).2] := rd31
    clear h24
    replace h1 := h1.grown bd29 h1.size (by rintro k ⟨⟩; omega)
    replace hE1 := (bd29.block _ (Array.getElem?_eq_some_iff.1 hE1).1 (by simp; omega)).trans hE1
    replace hok := hok.trans (grown_kept bd29 (fun j h => by have := h.1; have := hok.size; omega) (fun j h e => by cases e; have h2 := h.1; have h3 := h.2; omega))
    replace h16 := h16.gr bd29 (by have := h16.lt; omega)
    have h24 := rd31
    clear rd31
    refine ⟨hok, ?_⟩
    refine AA.done rfl ?_
    clear hok
    exact EE.weak (Jd13 _ _ ⟨rfl, (by first | assumption | omega), (by first | assumption | omega), (by first | assumption | omega), (by first | assumption | omega), (by first | assumption | omega)⟩) ⟨rfl, rfl, rfl, rfl, rfl, rfl, rfl, rfl, trivial⟩
    refine SR.val rfl (R.load rfl rfl (I.ld1 rfl (RowL.cell h24 rfl))) rfl rfl hok ?_
    refine AA.one 0 (by kernel_rfl) ?_
    refine SR.val rfl (R.load rfl rfl (I.ld1 rfl (RowL.cell h16 rfl))) rfl rfl hok ?_
    refine AA.one 2 (by kernel_rfl) ?_
    refine ZR.store rfl rfl rfl rfl rfl h16 (by exact Nat.le_of_ble_eq_true rfl) rfl rfl rfl rfl ?_
    intro Wd34 rd35 bd33 zd36
    have hlbd33 := h16.lt
    replace rd35 : RowL Wd34 _ 3 [Value.int IntKind.i64 ↑(findN (pairS left s) key).1] := rd35
    clear h16
    replace h1 := h1.grown bd33 h1.size (by rintro k ⟨⟩; omega)
    replace h24 := h24.gr bd33 (by have := h24.lt; omega)
    replace hE1 := (bd33.block _ (Array.getElem?_eq_some_iff.1 hE1).1 (by simp; omega)).trans hE1
    replace hok := hok.trans (grown_kept bd33 (fun j h => by have := h.1; have := hok.size; omega) (fun j h e => by cases e; have h2 := h.1; have h3 := h.2; omega))
    have h16 := rd35
    clear rd35
    refine ⟨hok, ?_⟩
    refine AA.one 3 (by kernel_rfl) ?_
    refine ZR.store rfl rfl rfl rfl rfl h24 (by exact Nat.le_of_ble_eq_true rfl) rfl rfl rfl rfl ?_
    intro Wd38 rd39 bd37 zd40
    have hlbd37 := h24.lt
    replace rd39 : RowL Wd38 _ 4 [Value.bool (findN (pairS left s) key).2] := rd39
    clear h24
    replace h1 := h1.grown bd37 h1.size (by rintro k ⟨⟩; omega)
    replace hE1 := (bd37.block _ (Array.getElem?_eq_some_iff.1 hE1).1 (by simp; omega)).trans hE1
    replace hok := hok.trans (grown_kept bd37 (fun j h => by have := h.1; have := hok.size; omega) (fun j h e => by cases e; have h2 := h.1; have h3 := h.2; omega))
    replace h16 := h16.gr bd37 (by have := h16.lt; omega)
    have h24 := rd39
    clear rd39
    refine ⟨hok, ?_⟩
    refine AA.done rfl ?_
    clear hok
    exact EE.weak (Jd13 _ _ ⟨rfl, (by first | assumption | omega), (by first | assumption | omega), (by first | assumption | omega), (by first | assumption | omega), (by first | assumption | omega)⟩) ⟨rfl, rfl, rfl, rfl, rfl, rfl, rfl, rfl, trivial⟩
/-- What a refusal is. -/
abbrev refV (e : Nat) : Value := .iface 88 (.agg #[.int .i64 (e : Int)])
theorem refuse_F (e : Nat) (w : World) : Calls Try.prog 42 #[.int .i64 (e : Int), .bool false] w fun x w' => x = .returned (.tuple #[]) ∧ w = w' := by
  refine X.fn Try.func42 rfl (n := 8) rfl rfl ?_
  refine CC.seq ?_
  refine CC.region ?_
  refine LL.val (R.move rfl rfl) rfl rfl rfl ?_
  refine LL.nilS ?_
  refine CC.no rfl ?_
  refine CC.skip ?_
  refine EE.end _ rfl rfl ?_
  exact ⟨rfl, rfl⟩
--C slots_refuse | refuse_T _ @w | P ⟨rfl, rfl⟩
theorem refuse_T (e : Nat) (w : World) : Calls Try.prog 42 #[.int .i64 (e : Int), .bool true] w fun x w' => x = .panicked (chain1 (refV e)) ∧ w = w' := by
  refine X.fn Try.func42 rfl (n := 8) rfl rfl ?_
  refine CC.seq ?_
  refine CC.region ?_
  refine LL.val (R.move rfl rfl) rfl rfl rfl ?_
  refine LL.nilS ?_
  refine CC.yes rfl ?_
  refine CC.region ?_
  refine LL.val (R.move rfl rfl) rfl rfl rfl ?_
  refine LL.val (R.buildV rfl rfl (v := .agg #[Value.int IntKind.i64 ↑e]) (fun _ => by kernel_rfl)) rfl rfl rfl ?_
  refine LL.val (R.mkIface rfl rfl (by kernel_rfl)) rfl rfl rfl ?_
  refine LL.panic rfl rfl rfl ?_
  refine EE.pan ?_
  exact ⟨rfl, rfl⟩
end Go.Proofs.Ytfpcpnodcdgbdaa

/- slots: which pairs may not come in. -/
namespace Go.Proofs.Ytfpcpnodcdgbdaa
set_option linter.unusedVariables false
set_option linter.unusedSimpArgs false
open Go.RowKit Go.Shelf
set_option maxRecDepth 100000
set_option maxHeartbeats 4000000
theorem settled_T (a : Option Addr) (n c left : Nat) (s : List Nat) (w : World) (hv : ReadsT uE 1 w (.slice a n c) s) (hn : s.length = n) (h : n ≤ 1048576) (hs : setP left s) : Calls Try.prog 34 #[rowV (.slice a n c) left] w fun e w' => e = .returned (.bool true) ∧ Below w.heap.size w w' :=
  (settled_any a n c left s w hv hn h).mono fun e w' ⟨b, h1, h2, h3⟩ => ⟨by rw [h1, h2.2 hs], h3⟩
theorem settled_F (a : Option Addr) (n c left : Nat) (s : List Nat) (w : World) (hv : ReadsT uE 1 w (.slice a n c) s) (hn : s.length = n) (h : n ≤ 1048576) (hs : ¬ setP left s) : Calls Try.prog 34 #[rowV (.slice a n c) left] w fun e w' => e = .returned (.bool false) ∧ Below w.heap.size w w' :=
  (settled_any a n c left s w hv hn h).mono fun e w' ⟨b, h1, h2, h3⟩ => ⟨by cases b with | false => exact h1 | true => exact absurd (h2.1 rfl) hs, h3⟩
theorem rp_A (a : Option Addr) (n c left ptr : Nat) (s : List Nat) (w : World) (hp : ptr = 0 ∨ ptr = left) : Calls Try.prog 40 #[rowV (.slice a n c) left, .int .u64 (ptr : Int)] w fun e w' => e = .panicked (chain1 (refV 2)) ∧ Below w.heap.size w w' := by
  have q := Below.refl w.heap.size w
  have hin : ptr ∈ [0, left] := by simpa using hp
  clear hp
  refine X.fnP Try.func40 rfl (n := 25) rfl rfl ?_
  refine CC.seq ?_
  refine CC.region ?_
  refine LL.box [Value.slice a n c, Value.int IntKind.u64 ↑left] rfl rfl rfl rfl rfl ?_
  intro W2 g3 eg3 r4 z5 b1
  replace q := q.trans (b1.mono q.size)
  have l6 := r4.lt
  refine LL.box [Value.int IntKind.u64 ↑ptr] rfl rfl rfl rfl rfl ?_
  intro W8 g9 eg9 r10 z11 b7
  replace r4 := r4.up b7
  replace b1 := b1.trans (b7.mono b1.size)
  replace q := q.trans (b7.mono q.size)
  refine LL.nilS ?_
  refine CC.seq ?_
  refine CC.region ?_
  refine LL.val (R.load rfl rfl (I.ld1 rfl (RowL.cell r10 rfl))) rfl rfl rfl ?_
  refine LL.val (R.field rfl rfl (I.fld rfl)) rfl rfl rfl ?_
  refine LL.val (R.load rfl rfl (I.ld1 rfl (RowL.cell r4 rfl))) rfl rfl rfl ?_
  have l12 := r10.lt
  have l13 := r4.lt
  refine LL.lit (e := 22) [Value.int IntKind.u64 0, Value.int IntKind.u64 ↑left] 2 rfl rfl (fun _ => by kernel_rfl) rfl rfl ?_
  intro W15 g16 eg16 r17 z18 b14
  replace r10 := r10.up b14
  replace b7 := b7.trans (b14.mono b7.size)
  replace r4 := r4.up b14
  replace b1 := b1.trans (b14.mono b1.size)
  replace q := q.trans (b14.mono q.size)
  refine LL.callDT (R.call rfl rfl rfl) rfl rfl rfl (among_any _ _ _ _ [0, left] _ (RowL.readsT uEnc (ts := [0, left]) (by assumption) 2 (Nat.le_refl _)) rfl (by omega)) (by first | assumption | omega) ?_
  refine LL.callP (R.call rfl rfl rfl) rfl rfl (refuse_T _ _) ?_
  rintro e W20 ⟨rfl, rfl⟩
  refine ⟨_, rfl, ?_⟩
  refine EE.thenP ?_
  refine EE.panM ?_
  exact ⟨rfl, q⟩
theorem rp_S (a : Option Addr) (n c left ptr : Nat) (s : List Nat) (w : World) (hv : ReadsT uE 1 w (.slice a n c) s) (hn : s.length = n) (h : n ≤ 1048576) (hp : ptr ≠ 0 ∧ ptr ≠ left) (hs : ¬ setP left s) : Calls Try.prog 40 #[rowV (.slice a n c) left, .int .u64 (ptr : Int)] w fun e w' => e = .panicked (chain1 (refV 190)) ∧ Below w.heap.size w w' := by
  have q := Below.refl w.heap.size w
  have hvF : ∀ X, Below w.heap.size w X → ReadsT uE 1 X (.slice a n c) s := fun X b => hv.up b
  have hin : ptr ∉ [0, left] := by simpa using hp
  clear hp hv
  refine X.fnP Try.func40 rfl (n := 25) rfl rfl ?_
  refine CC.seq ?_
  refine CC.region ?_
  refine LL.box [Value.slice a n c, Value.int IntKind.u64 ↑left] rfl rfl rfl rfl rfl ?_
  intro W2 g3 eg3 r4 z5 b1
  replace q := q.trans (b1.mono q.size)
  have l6 := r4.lt
  refine LL.box [Value.int IntKind.u64 ↑ptr] rfl rfl rfl rfl rfl ?_
  intro W8 g9 eg9 r10 z11 b7
  replace r4 := r4.up b7
  replace b1 := b1.trans (b7.mono b1.size)
  replace q := q.trans (b7.mono q.size)
  refine LL.nilS ?_
  refine CC.seq ?_
  refine CC.region ?_
  refine LL.val (R.load rfl rfl (I.ld1 rfl (RowL.cell r10 rfl))) rfl rfl rfl ?_
  refine LL.val (R.field rfl rfl (I.fld rfl)) rfl rfl rfl ?_
  refine LL.val (R.load rfl rfl (I.ld1 rfl (RowL.cell r4 rfl))) rfl rfl rfl ?_
  have l12 := r10.lt
  have l13 := r4.lt
  refine LL.lit (e := 22) [Value.int IntKind.u64 0, Value.int IntKind.u64 ↑left] 2 rfl rfl (fun _ => by kernel_rfl) rfl rfl ?_
  intro W15 g16 eg16 r17 z18 b14
  replace r10 := r10.up b14
  replace b7 := b7.trans (b14.mono b7.size)
  replace r4 := r4.up b14
  replace b1 := b1.trans (b14.mono b1.size)
  replace q := q.trans (b14.mono q.size)
  refine LL.callDF (R.call rfl rfl rfl) rfl rfl rfl (among_any _ _ _ _ [0, left] _ (RowL.readsT uEnc (ts := [0, left]) (by assumption) 2 (Nat.le_refl _)) rfl (by omega)) (by first | assumption | omega) ?_
  refine LL.call (R.call rfl rfl rfl) rfl rfl rfl (refuse_F _ _) ?_
  rintro e W' ⟨rfl, rfl⟩
  refine ⟨_, rfl, ?_⟩
  refine LL.nilS ?_
  refine CC.seq ?_
  refine CC.region ?_
  refine LL.val (R.load rfl rfl (I.ldNc (vs := [Value.slice a n c, Value.int IntKind.u64 ↑left]) (RowL.cells r4 rfl) (by rfl) (by rfl))) rfl rfl rfl ?_
  refine LL.call (R.call rfl rfl rfl) rfl rfl rfl (settled_F _ _ _ _ s _ (hvF _ q) hn h (by first | assumption | omega)) ?_
  rintro e W20 ⟨rfl, b19⟩
  refine ⟨_, rfl, ?_⟩
  have zb19 := b19.size
  replace r17 := r17.up b19
  replace b14 := b14.trans (b19.mono b14.size)
  replace r10 := r10.up b19
  replace b7 := b7.trans (b19.mono b7.size)
  replace r4 := r4.up b19
  replace b1 := b1.trans (b19.mono b1.size)
  replace q := q.trans (b19.mono q.size)
  refine LL.val (R.not rfl rfl) rfl rfl rfl ?_
  refine LL.callP (R.call rfl rfl rfl) rfl rfl (refuse_T _ _) ?_
  rintro e W23 ⟨rfl, rfl⟩
  refine ⟨_, rfl, ?_⟩
  refine EE.thenP ?_
  refine EE.panM ?_
  exact ⟨rfl, q⟩
theorem rp_T (a : Option Addr) (n c left ptr : Nat) (s : List Nat) (w : World) (hv : ReadsT uE 1 w (.slice a n c) s) (hn : s.length = n) (h : n ≤ 1048576) (hp : ptr ≠ 0 ∧ ptr ≠ left) (hs : setP left s) (hne : ∀ x ∈ pairS left s, x.2.2 ≠ ptr) : Calls Try.prog 40 #[rowV (.slice a n c) left, .int .u64 (ptr : Int)] w fun e w' => e = .returned (.tuple #[]) ∧ Below w.heap.size w w' := by
  have q := Below.refl w.heap.size w
  have hvF : ∀ X, Below w.heap.size w X → ReadsT uE 1 X (.slice a n c) s := fun X b => hv.up b
  have hin : ptr ∉ [0, left] := by simpa using hp
  clear hp hv
  refine X.fnM Try.func40 rfl (n := 25) rfl rfl ?_
  refine CC.seq ?_
  refine CC.region ?_
  refine LL.box [Value.slice a n c, Value.int IntKind.u64 ↑left] rfl rfl rfl rfl rfl ?_
  intro W2 g3 eg3 r4 z5 b1
  replace q := q.trans (b1.mono q.size)
  have l6 := r4.lt
  refine LL.box [Value.int IntKind.u64 ↑ptr] rfl rfl rfl rfl rfl ?_
  intro W8 g9 eg9 r10 z11 b7
  replace r4 := r4.up b7
  replace b1 := b1.trans (b7.mono b1.size)
  replace q := q.trans (b7.mono q.size)
  refine LL.nilS ?_
  refine CC.seq ?_
  refine CC.region ?_
  refine LL.val (R.load rfl rfl (I.ld1 rfl (RowL.cell r10 rfl))) rfl rfl rfl ?_
  refine LL.val (R.field rfl rfl (I.fld rfl)) rfl rfl rfl ?_
  refine LL.val (R.load rfl rfl (I.ld1 rfl (RowL.cell r4 rfl))) rfl rfl rfl ?_
  have l12 := r10.lt
  have l13 := r4.lt
  refine LL.lit (e := 22) [Value.int IntKind.u64 0, Value.int IntKind.u64 ↑left] 2 rfl rfl (fun _ => by kernel_rfl) rfl rfl ?_
  intro W15 g16 eg16 r17 z18 b14
  replace r10 := r10.up b14
  replace b7 := b7.trans (b14.mono b7.size)
  replace r4 := r4.up b14
  replace b1 := b1.trans (b14.mono b1.size)
  replace q := q.trans (b14.mono q.size)
  refine LL.callDF (R.call rfl rfl rfl) rfl rfl rfl (among_any _ _ _ _ [0, left] _ (RowL.readsT uEnc (ts := [0, left]) (by assumption) 2 (Nat.le_refl _)) rfl (by omega)) (by first | assumption | omega) ?_
  refine LL.call (R.call rfl rfl rfl) rfl rfl rfl (refuse_F _ _) ?_
  rintro e W' ⟨rfl, rfl⟩
  refine ⟨_, rfl, ?_⟩
  refine LL.nilS ?_
  refine CC.seq ?_
  refine CC.region ?_
  refine LL.val (R.load rfl rfl (I.ldNc (vs := [Value.slice a n c, Value.int IntKind.u64 ↑left]) (RowL.cells r4 rfl) (by rfl) (by rfl))) rfl rfl rfl ?_
  refine LL.call (R.call rfl rfl rfl) rfl rfl rfl (settled_T _ _ _ _ s _ (hvF _ q) hn h (by first | assumption | omega)) ?_
  rintro e W20 ⟨rfl, b19⟩
  refine ⟨_, rfl, ?_⟩
  have zb19 := b19.size
  replace r17 := r17.up b19
  replace b14 := b14.trans (b19.mono b14.size)
  replace r10 := r10.up b19
  replace b7 := b7.trans (b19.mono b7.size)
  replace r4 := r4.up b19
  replace b1 := b1.trans (b19.mono b1.size)
  replace q := q.trans (b19.mono q.size)
  refine LL.val (R.not rfl rfl) rfl rfl rfl ?_
  refine LL.call (R.call rfl rfl rfl) rfl rfl rfl (refuse_F _ _) ?_
  rintro e W' ⟨rfl, rfl⟩
  refine ⟨_, rfl, ?_⟩
  refine LL.nilS ?_
  refine CC.seq ?_
  refine CC.region ?_
  refine LL.val (R.load rfl rfl (I.ldNc (vs := [Value.slice a n c, Value.int IntKind.u64 ↑left]) (RowL.cells r4 rfl) (by rfl) (by rfl))) rfl rfl rfl ?_
  refine LL.call (R.call rfl rfl rfl) rfl rfl rfl (each_any _ _ _ _ _) ?_
  rintro e W23 ⟨g24, rfl, r25, l26, b22⟩
  refine ⟨_, rfl, ?_⟩
  have zb22 := b22.size
  replace b19 := b19.trans (b22.mono b19.size)
  replace r17 := r17.up b22
  replace b14 := b14.trans (b22.mono b14.size)
  replace r10 := r10.up b22
  replace b7 := b7.trans (b22.mono b7.size)
  replace r4 := r4.up b22
  replace b1 := b1.trans (b22.mono b1.size)
  replace q := q.trans (b22.mono q.size)
  refine LL.nilS ?_
  refine CC.block ?_
  have yB := q.size
  have l9 := r10.lt
  obtain ⟨bkl, hbl, hblt⟩ := bkl_row (hvF _ (Below.refl _ _)) g24
  have lbk := r25.lt
  refine CC.rangeZ (γ := Nat) (gf := 62) (lb := [.pointer (some ⟨g24, 0, none⟩)]) (encs := spE) rfl rfl (each1_gives g24 bkl a n c left s W23 r25 (hvF _ q) hn h hbl).z (Below.refl _ _) (fun k hk => by (try simp only at hk); omega) (fun _ => rfl) rfl
    (fun m (pre : List (Nat × Pr)) W' => W23.heap.size ≤ W'.heap.size ∧ Below w.heap.size w W' ∧ RowL W' g9 22 [.int .u64 (ptr : Int)] ∧ ∀ y ∈ pre, y.2.2 ≠ ptr)
    (fun _ _ _ => False)
    (fun W' => Below w.heap.size w W')
    (fun m m' s X Y hs ht hg => ⟨by have := ht.size; have := hs.1; omega, hs.2.1.trans (ht.below yB hs.2.1.size), ht.row hs.2.2.1 (.inl l9), hs.2.2.2⟩)
    (fun m m' s X Y hs ht hg => hs)
    ⟨Nat.le_refl _, q, r10, fun y hy => by cases hy⟩ ?hIA (fun _ _ _ _ h => h.elim)
    (fun x g => sl [(3, .pointer (some ⟨g9, 0, none⟩)), (5, .pointer (some ⟨g, 0, none⟩))]) (fun x g W' => RowL W' g 41 (prE x.2) ∧ W23.heap.size ≤ g) (fun x g => fun _ W W' row h hg hr => ⟨RowL.own () W W' row h.1 hg hr, h.2⟩) ?assign ?body ?after
  case hIA =>
    rintro m xs W' rfl ⟨_, h1, _, hk⟩
    exact h1
  case assign =>
    rintro l' m pre x W K hm ⟨zW, h1, h9, hk⟩ hK
    have qa := Below.refl W.heap.size W
    have ySz := h1.size
    refine CC.region ?_
    have la1 := h9.lt
    refine LL.alloc ([Value.int IntKind.u64 0, Value.int IntKind.u64 0]) rfl rfl rfl rfl rfl ?_
    intro Wa3 ga4 ega4 ra5 za6 ba2
    replace h1 := h1.trans (ba2.mono h1.size)
    replace h9 := h9.up ba2
    replace qa := qa.trans (ba2.mono qa.size)
    refine LL.storeN (vs := [Value.int IntKind.u64 ↑x.2.1, Value.int IntKind.u64 ↑x.2.2]) rfl rfl rfl rfl ra5 (by exact Nat.le_of_ble_eq_true rfl) (ones_of rfl) rfl rfl ?_
    intro Wa8 ra9 ba7 za10
    have hlba7 := ra5.lt
    replace ra9 : RowL Wa8 _ 41 [Value.int IntKind.u64 ↑x.2.1, Value.int IntKind.u64 ↑x.2.2] := ra9
    clear ra5
    replace ba2 := ba2.grown ba7 ba2.size (by rintro k ⟨⟩; omega)
    replace h1 := h1.grown ba7 h1.size (by rintro k ⟨⟩; omega)
    replace h9 := h9.gr ba7 (by have := h9.lt; omega)
    replace qa := qa.grown ba7 qa.size (by rintro k ⟨⟩; omega)
    have ra5 := ra9
    clear ra9
    refine LL.nil ?_
    exact EE.thenK fun a' F => hK a' _ _ (StaysZ.of_below qa) (Keeps.of_below (fun k hk => by (try simp only at hk); omega) qa) ⟨by omega, h1, h9, hk⟩ (F.keep _ ⟨rfl, rfl, trivial⟩) ⟨by assumption, by omega⟩
  case body =>
    rintro l' m pre x g W hm hl' hrl ⟨zW, h1, h9, hk⟩ ⟨hx, hg⟩ hpart
    have st := StaysZ.refl W23.heap.size m W
    have kp := Keeps.refl (fun k => k = g24 ∨ k = bkl) W
    have hxp : x.2.2 ≠ ptr := hne x (by obtain ⟨_, rfl, tt, hp⟩ := hpart; rw [← hp]; simp)
    have hk' : ∀ y ∈ pre ++ [x], y.2.2 ≠ ptr := fun y hy => by
      rcases List.mem_append.1 hy with hy | hy
      · exact hk y hy
      · rw [List.mem_singleton.1 hy]; exact hxp
    refine CC.block ?_
    refine CC.region ?_
    refine LL.val (R.field rfl rfl (I.fld rfl)) rfl rfl rfl ?_
    refine LL.val (R.load rfl rfl (I.ld1 rfl (RowL.cell hx rfl))) rfl rfl rfl ?_
    refine LL.val (R.load rfl rfl (I.ld1 rfl (RowL.cell h9 rfl))) rfl rfl rfl ?_
    refine LL.val (R.eqF rfl rfl rfl (by omega)) rfl rfl rfl ?_
    refine LL.call (R.call rfl rfl rfl) rfl rfl rfl (refuse_F _ _) ?_
    rintro e W' ⟨rfl, rfl⟩
    refine ⟨_, rfl, ?_⟩
    refine LL.nil ?_
    refine EE.inN ?_
    exact EE.roundNZ ⟨st, kp, zW, h1, h9, hk'⟩
  case after =>
    rintro E W hE h1 hE1
    refine EE.end1 hE1 _ rfl rfl ?_
    exact ⟨rfl, taken_bel h1 (by omega) (Nat.le_refl _)⟩
theorem rp_P (a : Option Addr) (n c left ptr : Nat) (s : List Nat) (w : World) (hv : ReadsT uE 1 w (.slice a n c) s) (hn : s.length = n) (h : n ≤ 1048576) (hp : ptr ≠ 0 ∧ ptr ≠ left) (hs : setP left s) (hex : ∃ x ∈ pairS left s, x.2.2 = ptr) : Calls Try.prog 40 #[rowV (.slice a n c) left, .int .u64 (ptr : Int)] w fun e w' => e = .panicked (chain1 (refV 2)) ∧ Below w.heap.size w w' := by
  have q := Below.refl w.heap.size w
  have hvF : ∀ X, Below w.heap.size w X → ReadsT uE 1 X (.slice a n c) s := fun X b => hv.up b
  have hin : ptr ∉ [0, left] := by simpa using hp
  clear hp hv
  refine X.fnP Try.func40 rfl (n := 25) rfl rfl ?_
  refine CC.seq ?_
  refine CC.region ?_
  refine LL.box [Value.slice a n c, Value.int IntKind.u64 ↑left] rfl rfl rfl rfl rfl ?_
  intro W2 g3 eg3 r4 z5 b1
  replace q := q.trans (b1.mono q.size)
  have l6 := r4.lt
  refine LL.box [Value.int IntKind.u64 ↑ptr] rfl rfl rfl rfl rfl ?_
  intro W8 g9 eg9 r10 z11 b7
  replace r4 := r4.up b7
  replace b1 := b1.trans (b7.mono b1.size)
  replace q := q.trans (b7.mono q.size)
  refine LL.nilS ?_
  refine CC.seq ?_
  refine CC.region ?_
  refine LL.val (R.load rfl rfl (I.ld1 rfl (RowL.cell r10 rfl))) rfl rfl rfl ?_
  refine LL.val (R.field rfl rfl (I.fld rfl)) rfl rfl rfl ?_
  refine LL.val (R.load rfl rfl (I.ld1 rfl (RowL.cell r4 rfl))) rfl rfl rfl ?_
  have l12 := r10.lt
  have l13 := r4.lt
  refine LL.lit (e := 22) [Value.int IntKind.u64 0, Value.int IntKind.u64 ↑left] 2 rfl rfl (fun _ => by kernel_rfl) rfl rfl ?_
  intro W15 g16 eg16 r17 z18 b14
  replace r10 := r10.up b14
  replace b7 := b7.trans (b14.mono b7.size)
  replace r4 := r4.up b14
  replace b1 := b1.trans (b14.mono b1.size)
  replace q := q.trans (b14.mono q.size)
  refine LL.callDF (R.call rfl rfl rfl) rfl rfl rfl (among_any _ _ _ _ [0, left] _ (RowL.readsT uEnc (ts := [0, left]) (by assumption) 2 (Nat.le_refl _)) rfl (by omega)) (by first | assumption | omega) ?_
  refine LL.call (R.call rfl rfl rfl) rfl rfl rfl (refuse_F _ _) ?_
  rintro e W' ⟨rfl, rfl⟩
  refine ⟨_, rfl, ?_⟩
  refine LL.nilS ?_
  refine CC.seq ?_
  refine CC.region ?_
  refine LL.val (R.load rfl rfl (I.ldNc (vs := [Value.slice a n c, Value.int IntKind.u64 ↑left]) (RowL.cells r4 rfl) (by rfl) (by rfl))) rfl rfl rfl ?_
  refine LL.call (R.call rfl rfl rfl) rfl rfl rfl (settled_T _ _ _ _ s _ (hvF _ q) hn h (by first | assumption | omega)) ?_
  rintro e W20 ⟨rfl, b19⟩
  refine ⟨_, rfl, ?_⟩
  have zb19 := b19.size
  replace r17 := r17.up b19
  replace b14 := b14.trans (b19.mono b14.size)
  replace r10 := r10.up b19
  replace b7 := b7.trans (b19.mono b7.size)
  replace r4 := r4.up b19
  replace b1 := b1.trans (b19.mono b1.size)
  replace q := q.trans (b19.mono q.size)
  refine LL.val (R.not rfl rfl) rfl rfl rfl ?_
  refine LL.call (R.call rfl rfl rfl) rfl rfl rfl (refuse_F _ _) ?_
  rintro e W' ⟨rfl, rfl⟩
  refine ⟨_, rfl, ?_⟩
  refine LL.nilS ?_
  refine CC.seq ?_
  refine CC.region ?_
  refine LL.val (R.load rfl rfl (I.ldNc (vs := [Value.slice a n c, Value.int IntKind.u64 ↑left]) (RowL.cells r4 rfl) (by rfl) (by rfl))) rfl rfl rfl ?_
  refine LL.call (R.call rfl rfl rfl) rfl rfl rfl (each_any _ _ _ _ _) ?_
  rintro e W23 ⟨g24, rfl, r25, l26, b22⟩
  refine ⟨_, rfl, ?_⟩
  have zb22 := b22.size
  replace b19 := b19.trans (b22.mono b19.size)
  replace r17 := r17.up b22
  replace b14 := b14.trans (b22.mono b14.size)
  replace r10 := r10.up b22
  replace b7 := b7.trans (b22.mono b7.size)
  replace r4 := r4.up b22
  replace b1 := b1.trans (b22.mono b1.size)
  replace q := q.trans (b22.mono q.size)
  refine LL.nilS ?_
  refine CC.block ?_
  have yB := q.size
  have l9 := r10.lt
  obtain ⟨bkl, hbl, hblt⟩ := bkl_row (hvF _ (Below.refl _ _)) g24
  have lbk := r25.lt
  refine CC.rangeP (γ := Nat) (gf := 62) (lb := [.pointer (some ⟨g24, 0, none⟩)]) (encs := spE) rfl rfl (each1_gives g24 bkl a n c left s W23 r25 (hvF _ q) hn h hbl) (Below.refl _ _) (fun k hk => by (try simp only at hk); omega) (fun _ => rfl) rfl
    (fun m (pre : List (Nat × Pr)) W' => W23.heap.size ≤ W'.heap.size ∧ Below w.heap.size w W' ∧ RowL W' g9 22 [.int .u64 (ptr : Int)] ∧ ∀ y ∈ pre, y.2.2 ≠ ptr)
    (fun _ _ _ => False)
    (fun ch W' => ch = chain1 (refV 2) ∧ Below w.heap.size w W')
    (fun W' => False)
    (fun m m' s X Y hs ht hg => ⟨by have := ht.size; have := hs.1; omega, hs.2.1.trans (ht.below yB hs.2.1.size), ht.row hs.2.2.1 (.inl l9), hs.2.2.2⟩)
    (fun m m' s X Y hs ht hg => hs)
    (fun ch m X Y hs ht => ⟨hs.1, hs.2.trans (ht.below yB hs.2.size)⟩)
    ⟨Nat.le_refl _, q, r10, fun y hy => by cases hy⟩ ?hIA (fun _ _ _ _ h => h.elim)
    (fun x g => sl [(3, .pointer (some ⟨g9, 0, none⟩)), (5, .pointer (some ⟨g, 0, none⟩))]) (fun x g W' => RowL W' g 41 (prE x.2) ∧ W23.heap.size ≤ g) (fun x g => fun _ W W' row h hg hr => ⟨RowL.own () W W' row h.1 hg hr, h.2⟩) ?assign ?body ?after ?pan
  case hIA =>
    rintro m xs W' rfl ⟨_, h1, _, hk⟩
    obtain ⟨x, hx1, hx2⟩ := hex
    exact hk x hx1 hx2
  case assign =>
    rintro l' m pre x W K hm ⟨zW, h1, h9, hk⟩ hK
    have qa := Below.refl W.heap.size W
    have ySz := h1.size
    refine CC.region ?_
    have la1 := h9.lt
    refine LL.alloc ([Value.int IntKind.u64 0, Value.int IntKind.u64 0]) rfl rfl rfl rfl rfl ?_
    intro Wa3 ga4 ega4 ra5 za6 ba2
    replace h1 := h1.trans (ba2.mono h1.size)
    replace h9 := h9.up ba2
    replace qa := qa.trans (ba2.mono qa.size)
    refine LL.storeN (vs := [Value.int IntKind.u64 ↑x.2.1, Value.int IntKind.u64 ↑x.2.2]) rfl rfl rfl rfl ra5 (by exact Nat.le_of_ble_eq_true rfl) (ones_of rfl) rfl rfl ?_
    intro Wa8 ra9 ba7 za10
    have hlba7 := ra5.lt
    replace ra9 : RowL Wa8 _ 41 [Value.int IntKind.u64 ↑x.2.1, Value.int IntKind.u64 ↑x.2.2] := ra9
    clear ra5
    replace ba2 := ba2.grown ba7 ba2.size (by rintro k ⟨⟩; omega)
    replace h1 := h1.grown ba7 h1.size (by rintro k ⟨⟩; omega)
    replace h9 := h9.gr ba7 (by have := h9.lt; omega)
    replace qa := qa.grown ba7 qa.size (by rintro k ⟨⟩; omega)
    have ra5 := ra9
    clear ra9
    refine LL.nil ?_
    exact EE.thenK fun a' F => hK a' _ _ (StaysZ.of_below qa) (Keeps.of_below (fun k hk => by (try simp only at hk); omega) qa) ⟨by omega, h1, h9, hk⟩ (F.keep _ ⟨rfl, rfl, trivial⟩) ⟨by assumption, by omega⟩
  case body =>
    rintro l' m pre x g W hm hl' hrl ⟨zW, h1, h9, hk⟩ ⟨hx, hg⟩ hpart
    have st := StaysZ.refl W23.heap.size m W
    have kp := Keeps.refl (fun k => k = g24 ∨ k = bkl) W
    by_cases hxp : x.2.2 = ptr
    · refine CQ.block ?_
      refine CQ.region ?_
      refine LL.val (R.field rfl rfl (I.fld rfl)) rfl rfl rfl ?_
      refine LL.val (R.load rfl rfl (I.ld1 rfl (RowL.cell hx rfl))) rfl rfl rfl ?_
      refine LL.val (R.load rfl rfl (I.ld1 rfl (RowL.cell h9 rfl))) rfl rfl rfl ?_
      refine LL.val (R.eqT rfl rfl rfl (by omega)) rfl rfl rfl ?_
      refine LL.callP (R.call rfl rfl rfl) rfl rfl (refuse_T _ _) ?_
      rintro e Wb2 ⟨rfl, rfl⟩
      refine ⟨_, rfl, ?_⟩
      refine EE.inP ?_
      exact EE.roundPP ⟨st, rfl, h1⟩
    · have hk' : ∀ y ∈ pre ++ [x], y.2.2 ≠ ptr := fun y hy => by
        rcases List.mem_append.1 hy with hy | hy
        · exact hk y hy
        · rw [List.mem_singleton.1 hy]; exact hxp
      refine CQ.block ?_
      refine CQ.region ?_
      refine LL.val (R.field rfl rfl (I.fld rfl)) rfl rfl rfl ?_
      refine LL.val (R.load rfl rfl (I.ld1 rfl (RowL.cell hx rfl))) rfl rfl rfl ?_
      refine LL.val (R.load rfl rfl (I.ld1 rfl (RowL.cell h9 rfl))) rfl rfl rfl ?_
      refine LL.val (R.eqF rfl rfl rfl (by omega)) rfl rfl rfl ?_
      refine LL.call (R.call rfl rfl rfl) rfl rfl rfl (refuse_F _ _) ?_
      rintro e W' ⟨rfl, rfl⟩
      refine ⟨_, rfl, ?_⟩
      refine LL.nil ?_
      refine EE.inN ?_
      exact EE.roundNP ⟨st, kp, zW, h1, h9, hk'⟩
  case after =>
    rintro E W hE h1 hE1
    exact h1.elim
  case pan =>
    rintro E ch W hE ⟨rfl, h1⟩ hE1
    refine EE.panM1 hE1 ?_
    exact ⟨rfl, taken_bel h1 (by omega) (Nat.le_refl _)⟩
end Go.Proofs.Ytfpcpnodcdgbdaa

/- slots: a change under way; the closure that stores. -/
namespace Go.Proofs.Ytfpcpnodcdgbdaa
set_option linter.unusedVariables false
set_option linter.unusedSimpArgs false
open Go.RowKit Go.Shelf
/-- A store: where, and what. An act: its kind, where, and what. -/
abbrev Pt := Int × Nat

def pE (p : Pt) : List Value := [.int .i64 p.1, .int .u64 (p.2 : Int)]

theorem pEnc : Enc pE 2 := ⟨fun _ => rfl, fun t u hu => by
  simp only [pE, List.mem_cons, List.not_mem_nil, or_false] at hu
  rcases hu with rfl | rfl <;> rfl, by decide⟩

theorem Try.infoPut : (Try.prog.info? 59).map (fun i => (i.zero, i.size, i.bytes)) = some (some (.agg #[.int .i64 0, .int .u64 0]), 2, 16) := by kernel_rfl

theorem ElPut : ElT Try.prog 43 59 (.agg #[.int .i64 0, .int .u64 0]) 2 16 := info_parts_t Try.underlying43 Try.infoPut rfl

theorem OwnsT.keptO {α : Type} {enc : α → List Value} {k : Nat} {w w' : World} {base e : Nat} {v : Value} {ts : List α} (h : OwnsT enc k w base e v ts) (hk : ∀ b, v.ownBlock = some b → w'.heap[b]? = w.heap[b]?) : OwnsT enc k w' base e v ts := by
  refine ⟨h.1, ?_⟩
  rcases h.2 with h2 | ⟨g', cap, cur, rfl, hbg, hb, h3⟩
  · exact .inl h2
  · exact .inr ⟨g', cap, cur, rfl, hbg, (hk g' rfl).trans hb, h3⟩

theorem uclone_any (v : Value) (xs : List Nat) (w : World) (ha : ReadsT uE 1 w v xs) (hl : xs.length ≤ 1048576) :
    Calls Try.prog 36 #[v] w fun e w' => ∃ v', e = .returned v' ∧ OwnsT uE 1 w' w.heap.size 22 v' xs ∧ Below w.heap.size w w' := by
  obtain ⟨a, cap, rfl, hc⟩ := ha.form rfl
  refine X.fn Try.func36 rfl (n := 8) rfl rfl ?_
  (repeat (first | (first | refine CC.seq ?_ | refine CC.region ?_ | refine LL.nilS ?_ | refine CC.yes rfl ?_ | refine CC.no rfl ?_ | refine CC.block ?_ | refine EE.thenN ?_ | refine LL.nil ?_ | refine CC.exit ?_ | refine CC.ret ?_ | refine CC.skip ?_ | refine EE.thenX ?_ | refine EE.thenR ?_ | refine EE.inN ?_ | refine EE.inX ?_ | refine EE.inX' rfl ?_ | refine EE.inR ?_ | refine CC.label ?_ | refine EE.thenG ?_ | refine EE.inG ?_) | (first | refine LL.val (R.move rfl rfl) rfl rfl rfl ?_ | refine LL.val (R.assign rfl rfl) rfl rfl rfl ?_ | refine LL.val (R.nil rfl rfl) rfl rfl rfl ?_ | refine LL.val (R.field rfl rfl (I.fld rfl)) rfl rfl rfl ?_ | refine LL.val (R.load rfl rfl (I.ld1 rfl (by assumption))) rfl rfl rfl ?_ | refine LL.val (R.load rfl rfl (I.ld1 rfl (RowL.cell (by assumption) rfl))) rfl rfl rfl ?_ | refine LL.val (R.index rfl rfl rfl (I.ixA1c rfl rfl (by first | omega | decide))) rfl rfl rfl ?_ | refine LL.val (R.index rfl rfl rfl (I.ixS1c rfl rfl (by omega))) rfl rfl rfl ?_ | refine LL.val (R.index rfl rfl rfl (I.ixAc rfl rfl (by first | omega | decide))) rfl rfl rfl ?_ | refine LL.val (R.index rfl rfl rfl (I.ixSc rfl rfl (by omega))) rfl rfl rfl ?_ | refine LL.val (R.index rfl rfl rfl (I.ixA1 rfl (by omega))) rfl rfl rfl ?_ | refine LL.val (R.index rfl rfl rfl (I.ixS1 rfl (by omega))) rfl rfl rfl ?_ | refine LL.val (R.index rfl rfl rfl (I.ixA rfl (by omega))) rfl rfl rfl ?_ | refine LL.val (R.index rfl rfl rfl (I.ixS rfl (by omega))) rfl rfl rfl ?_ | refine LL.val (R.ltT rfl rfl rfl (by omega)) rfl rfl rfl ?_ | refine LL.val (R.ltF rfl rfl rfl (by omega)) rfl rfl rfl ?_ | refine LL.val (R.addNc rfl rfl rfl rfl (by omega)) rfl rfl rfl ?_ | refine LL.val (R.subNc rfl rfl rfl rfl (by omega) (by omega)) rfl rfl rfl ?_ | refine LL.val (R.addN rfl rfl rfl (by omega)) rfl rfl rfl ?_ | refine LL.val (R.subN rfl rfl rfl (by omega) (by omega)) rfl rfl rfl ?_ | refine LL.val (R.subcN rfl rfl rfl rfl (by omega) (by omega)) rfl rfl rfl ?_ | refine LL.val (R.addI rfl rfl rfl (by omega)) rfl rfl rfl ?_ | refine LL.val (R.subI rfl rfl rfl (by omega)) rfl rfl rfl ?_ | refine LL.val (R.mulNc rfl rfl rfl rfl (by omega)) rfl rfl rfl ?_ | refine LL.val (R.mulcN rfl rfl rfl rfl (by omega)) rfl rfl rfl ?_ | refine LL.val (R.quoNc rfl rfl rfl rfl (by omega) (by omega)) rfl rfl rfl ?_ | refine LL.val (R.remNc rfl rfl rfl rfl (by omega)) rfl rfl rfl ?_ | refine LL.val (R.mulN rfl rfl rfl (by omega)) rfl rfl rfl ?_ | refine LL.val (R.quoN rfl rfl rfl (by omega) (by omega)) rfl rfl rfl ?_ | refine LL.val (R.remN rfl rfl rfl (by omega)) rfl rfl rfl ?_ | refine LL.val (R.leT rfl rfl rfl (by omega)) rfl rfl rfl ?_ | refine LL.val (R.leF rfl rfl rfl (by omega)) rfl rfl rfl ?_ | refine LL.val (R.gtT rfl rfl rfl (by omega)) rfl rfl rfl ?_ | refine LL.val (R.gtF rfl rfl rfl (by omega)) rfl rfl rfl ?_ | refine LL.val (R.geT rfl rfl rfl (by omega)) rfl rfl rfl ?_ | refine LL.val (R.geF rfl rfl rfl (by omega)) rfl rfl rfl ?_ | refine LL.val (R.eqT rfl rfl rfl (by omega)) rfl rfl rfl ?_ | refine LL.val (R.eqF rfl rfl rfl (by omega)) rfl rfl rfl ?_ | refine LL.val (R.neT rfl rfl rfl (by omega)) rfl rfl rfl ?_ | refine LL.val (R.neF rfl rfl rfl (by omega)) rfl rfl rfl ?_ | refine LL.val (R.eqPtr rfl rfl rfl rfl rfl) rfl rfl rfl ?_ | refine LL.val (R.nePtr rfl rfl rfl rfl rfl) rfl rfl rfl ?_ | refine LL.val (R.eqSl rfl rfl rfl rfl rfl) rfl rfl rfl ?_ | refine LL.val (R.neSl rfl rfl rfl rfl rfl) rfl rfl rfl ?_ | refine LL.val (R.eqFn rfl rfl rfl rfl) rfl rfl rfl ?_ | refine LL.val (R.eqBool rfl rfl rfl rfl rfl) rfl rfl rfl ?_ | refine LL.val (R.neBool rfl rfl rfl rfl rfl) rfl rfl rfl ?_ | refine LL.val (R.xorU rfl rfl rfl (by first | omega | decide) (by first | omega | decide)) rfl rfl rfl ?_ | refine LL.val (R.addUN rfl rfl rfl (by omega)) rfl rfl rfl ?_ | refine LL.val (R.not rfl rfl) rfl rfl rfl ?_ | refine LL.val (R.lenS rfl rfl rfl rfl) rfl rfl rfl ?_ | refine LL.val (R.len rfl rfl rfl rfl) rfl rfl rfl ?_ | refine LL.val (R.pick rfl rfl rfl) rfl rfl rfl ?_ | refine LL.val (R.extract rfl rfl rfl) rfl rfl rfl ?_ | refine LL.val (R.func rfl rfl rfl) rfl rfl rfl ?_ | refine LL.val (R.slice rfl rfl rfl rfl rfl (I.slA rfl)) rfl rfl rfl ?_ | refine LL.val (R.slice rfl rfl rfl rfl rfl (I.slAto rfl (by omega))) rfl rfl rfl ?_) | refine LL.skip rfl rfl ?_))
  cases a with
  | none =>
    have hx : xs = [] := by
      obtain ⟨a', cap', e, _, h⟩ := ha
      cases e
      rcases Classical.em (xs = []) with h0 | h0
      · exact h0
      · obtain ⟨_, _, h1, _⟩ := h h0
        cases h1
    subst hx
    (repeat (first | (first | refine CC.seq ?_ | refine CC.region ?_ | refine LL.nilS ?_ | refine CC.yes rfl ?_ | refine CC.no rfl ?_ | refine CC.block ?_ | refine EE.thenN ?_ | refine LL.nil ?_ | refine CC.exit ?_ | refine CC.ret ?_ | refine CC.skip ?_ | refine EE.thenX ?_ | refine EE.thenR ?_ | refine EE.inN ?_ | refine EE.inX ?_ | refine EE.inX' rfl ?_ | refine EE.inR ?_ | refine CC.label ?_ | refine EE.thenG ?_ | refine EE.inG ?_) | (first | refine LL.val (R.move rfl rfl) rfl rfl rfl ?_ | refine LL.val (R.assign rfl rfl) rfl rfl rfl ?_ | refine LL.val (R.nil rfl rfl) rfl rfl rfl ?_ | refine LL.val (R.field rfl rfl (I.fld rfl)) rfl rfl rfl ?_ | refine LL.val (R.load rfl rfl (I.ld1 rfl (by assumption))) rfl rfl rfl ?_ | refine LL.val (R.load rfl rfl (I.ld1 rfl (RowL.cell (by assumption) rfl))) rfl rfl rfl ?_ | refine LL.val (R.index rfl rfl rfl (I.ixA1c rfl rfl (by first | omega | decide))) rfl rfl rfl ?_ | refine LL.val (R.index rfl rfl rfl (I.ixS1c rfl rfl (by omega))) rfl rfl rfl ?_ | refine LL.val (R.index rfl rfl rfl (I.ixAc rfl rfl (by first | omega | decide))) rfl rfl rfl ?_ | refine LL.val (R.index rfl rfl rfl (I.ixSc rfl rfl (by omega))) rfl rfl rfl ?_ | refine LL.val (R.index rfl rfl rfl (I.ixA1 rfl (by omega))) rfl rfl rfl ?_ | refine LL.val (R.index rfl rfl rfl (I.ixS1 rfl (by omega))) rfl rfl rfl ?_ | refine LL.val (R.index rfl rfl rfl (I.ixA rfl (by omega))) rfl rfl rfl ?_ | refine LL.val (R.index rfl rfl rfl (I.ixS rfl (by omega))) rfl rfl rfl ?_ | refine LL.val (R.ltT rfl rfl rfl (by omega)) rfl rfl rfl ?_ | refine LL.val (R.ltF rfl rfl rfl (by omega)) rfl rfl rfl ?_ | refine LL.val (R.addNc rfl rfl rfl rfl (by omega)) rfl rfl rfl ?_ | refine LL.val (R.subNc rfl rfl rfl rfl (by omega) (by omega)) rfl rfl rfl ?_ | refine LL.val (R.addN rfl rfl rfl (by omega)) rfl rfl rfl ?_ | refine LL.val (R.subN rfl rfl rfl (by omega) (by omega)) rfl rfl rfl ?_ | refine LL.val (R.subcN rfl rfl rfl rfl (by omega) (by omega)) rfl rfl rfl ?_ | refine LL.val (R.addI rfl rfl rfl (by omega)) rfl rfl rfl ?_ | refine LL.val (R.subI rfl rfl rfl (by omega)) rfl rfl rfl ?_ | refine LL.val (R.mulNc rfl rfl rfl rfl (by omega)) rfl rfl rfl ?_ | refine LL.val (R.mulcN rfl rfl rfl rfl (by omega)) rfl rfl rfl ?_ | refine LL.val (R.quoNc rfl rfl rfl rfl (by omega) (by omega)) rfl rfl rfl ?_ | refine LL.val (R.remNc rfl rfl rfl rfl (by omega)) rfl rfl rfl ?_ | refine LL.val (R.mulN rfl rfl rfl (by omega)) rfl rfl rfl ?_ | refine LL.val (R.quoN rfl rfl rfl (by omega) (by omega)) rfl rfl rfl ?_ | refine LL.val (R.remN rfl rfl rfl (by omega)) rfl rfl rfl ?_ | refine LL.val (R.leT rfl rfl rfl (by omega)) rfl rfl rfl ?_ | refine LL.val (R.leF rfl rfl rfl (by omega)) rfl rfl rfl ?_ | refine LL.val (R.gtT rfl rfl rfl (by omega)) rfl rfl rfl ?_ | refine LL.val (R.gtF rfl rfl rfl (by omega)) rfl rfl rfl ?_ | refine LL.val (R.geT rfl rfl rfl (by omega)) rfl rfl rfl ?_ | refine LL.val (R.geF rfl rfl rfl (by omega)) rfl rfl rfl ?_ | refine LL.val (R.eqT rfl rfl rfl (by omega)) rfl rfl rfl ?_ | refine LL.val (R.eqF rfl rfl rfl (by omega)) rfl rfl rfl ?_ | refine LL.val (R.neT rfl rfl rfl (by omega)) rfl rfl rfl ?_ | refine LL.val (R.neF rfl rfl rfl (by omega)) rfl rfl rfl ?_ | refine LL.val (R.eqPtr rfl rfl rfl rfl rfl) rfl rfl rfl ?_ | refine LL.val (R.nePtr rfl rfl rfl rfl rfl) rfl rfl rfl ?_ | refine LL.val (R.eqSl rfl rfl rfl rfl rfl) rfl rfl rfl ?_ | refine LL.val (R.neSl rfl rfl rfl rfl rfl) rfl rfl rfl ?_ | refine LL.val (R.eqFn rfl rfl rfl rfl) rfl rfl rfl ?_ | refine LL.val (R.eqBool rfl rfl rfl rfl rfl) rfl rfl rfl ?_ | refine LL.val (R.neBool rfl rfl rfl rfl rfl) rfl rfl rfl ?_ | refine LL.val (R.xorU rfl rfl rfl (by first | omega | decide) (by first | omega | decide)) rfl rfl rfl ?_ | refine LL.val (R.addUN rfl rfl rfl (by omega)) rfl rfl rfl ?_ | refine LL.val (R.not rfl rfl) rfl rfl rfl ?_ | refine LL.val (R.lenS rfl rfl rfl rfl) rfl rfl rfl ?_ | refine LL.val (R.len rfl rfl rfl rfl) rfl rfl rfl ?_ | refine LL.val (R.pick rfl rfl rfl) rfl rfl rfl ?_ | refine LL.val (R.extract rfl rfl rfl) rfl rfl rfl ?_ | refine LL.val (R.func rfl rfl rfl) rfl rfl rfl ?_ | refine LL.val (R.slice rfl rfl rfl rfl rfl (I.slA rfl)) rfl rfl rfl ?_ | refine LL.val (R.slice rfl rfl rfl rfl rfl (I.slAto rfl (by omega))) rfl rfl rfl ?_) | refine LL.skip rfl rfl ?_))
    refine EE.ret _ rfl rfl ?_
    exact ⟨_, rfl, OwnsT.none _ _ _, Below.refl _ _⟩
  | some p =>
    (repeat (first | (first | refine CC.seq ?_ | refine CC.region ?_ | refine LL.nilS ?_ | refine CC.yes rfl ?_ | refine CC.no rfl ?_ | refine CC.block ?_ | refine EE.thenN ?_ | refine LL.nil ?_ | refine CC.exit ?_ | refine CC.ret ?_ | refine CC.skip ?_ | refine EE.thenX ?_ | refine EE.thenR ?_ | refine EE.inN ?_ | refine EE.inX ?_ | refine EE.inX' rfl ?_ | refine EE.inR ?_ | refine CC.label ?_ | refine EE.thenG ?_ | refine EE.inG ?_) | (first | refine LL.val (R.move rfl rfl) rfl rfl rfl ?_ | refine LL.val (R.assign rfl rfl) rfl rfl rfl ?_ | refine LL.val (R.nil rfl rfl) rfl rfl rfl ?_ | refine LL.val (R.field rfl rfl (I.fld rfl)) rfl rfl rfl ?_ | refine LL.val (R.load rfl rfl (I.ld1 rfl (by assumption))) rfl rfl rfl ?_ | refine LL.val (R.load rfl rfl (I.ld1 rfl (RowL.cell (by assumption) rfl))) rfl rfl rfl ?_ | refine LL.val (R.index rfl rfl rfl (I.ixA1c rfl rfl (by first | omega | decide))) rfl rfl rfl ?_ | refine LL.val (R.index rfl rfl rfl (I.ixS1c rfl rfl (by omega))) rfl rfl rfl ?_ | refine LL.val (R.index rfl rfl rfl (I.ixAc rfl rfl (by first | omega | decide))) rfl rfl rfl ?_ | refine LL.val (R.index rfl rfl rfl (I.ixSc rfl rfl (by omega))) rfl rfl rfl ?_ | refine LL.val (R.index rfl rfl rfl (I.ixA1 rfl (by omega))) rfl rfl rfl ?_ | refine LL.val (R.index rfl rfl rfl (I.ixS1 rfl (by omega))) rfl rfl rfl ?_ | refine LL.val (R.index rfl rfl rfl (I.ixA rfl (by omega))) rfl rfl rfl ?_ | refine LL.val (R.index rfl rfl rfl (I.ixS rfl (by omega))) rfl rfl rfl ?_ | refine LL.val (R.ltT rfl rfl rfl (by omega)) rfl rfl rfl ?_ | refine LL.val (R.ltF rfl rfl rfl (by omega)) rfl rfl rfl ?_ | refine LL.val (R.addNc rfl rfl rfl rfl (by omega)) rfl rfl rfl ?_ | refine LL.val (R.subNc rfl rfl rfl rfl (by omega) (by omega)) rfl rfl rfl ?_ | refine LL.val (R.addN rfl rfl rfl (by omega)) rfl rfl rfl ?_ | refine LL.val (R.subN rfl rfl rfl (by omega) (by omega)) rfl rfl rfl ?_ | refine LL.val (R.subcN rfl rfl rfl rfl (by omega) (by omega)) rfl rfl rfl ?_ | refine LL.val (R.addI rfl rfl rfl (by omega)) rfl rfl rfl ?_ | refine LL.val (R.subI rfl rfl rfl (by omega)) rfl rfl rfl ?_ | refine LL.val (R.mulNc rfl rfl rfl rfl (by omega)) rfl rfl rfl ?_ | refine LL.val (R.mulcN rfl rfl rfl rfl (by omega)) rfl rfl rfl ?_ | refine LL.val (R.quoNc rfl rfl rfl rfl (by omega) (by omega)) rfl rfl rfl ?_ | refine LL.val (R.remNc rfl rfl rfl rfl (by omega)) rfl rfl rfl ?_ | refine LL.val (R.mulN rfl rfl rfl (by omega)) rfl rfl rfl ?_ | refine LL.val (R.quoN rfl rfl rfl (by omega) (by omega)) rfl rfl rfl ?_ | refine LL.val (R.remN rfl rfl rfl (by omega)) rfl rfl rfl ?_ | refine LL.val (R.leT rfl rfl rfl (by omega)) rfl rfl rfl ?_ | refine LL.val (R.leF rfl rfl rfl (by omega)) rfl rfl rfl ?_ | refine LL.val (R.gtT rfl rfl rfl (by omega)) rfl rfl rfl ?_ | refine LL.val (R.gtF rfl rfl rfl (by omega)) rfl rfl rfl ?_ | refine LL.val (R.geT rfl rfl rfl (by omega)) rfl rfl rfl ?_ | refine LL.val (R.geF rfl rfl rfl (by omega)) rfl rfl rfl ?_ | refine LL.val (R.eqT rfl rfl rfl (by omega)) rfl rfl rfl ?_ | refine LL.val (R.eqF rfl rfl rfl (by omega)) rfl rfl rfl ?_ | refine LL.val (R.neT rfl rfl rfl (by omega)) rfl rfl rfl ?_ | refine LL.val (R.neF rfl rfl rfl (by omega)) rfl rfl rfl ?_ | refine LL.val (R.eqPtr rfl rfl rfl rfl rfl) rfl rfl rfl ?_ | refine LL.val (R.nePtr rfl rfl rfl rfl rfl) rfl rfl rfl ?_ | refine LL.val (R.eqSl rfl rfl rfl rfl rfl) rfl rfl rfl ?_ | refine LL.val (R.neSl rfl rfl rfl rfl rfl) rfl rfl rfl ?_ | refine LL.val (R.eqFn rfl rfl rfl rfl) rfl rfl rfl ?_ | refine LL.val (R.eqBool rfl rfl rfl rfl rfl) rfl rfl rfl ?_ | refine LL.val (R.neBool rfl rfl rfl rfl rfl) rfl rfl rfl ?_ | refine LL.val (R.xorU rfl rfl rfl (by first | omega | decide) (by first | omega | decide)) rfl rfl rfl ?_ | refine LL.val (R.addUN rfl rfl rfl (by omega)) rfl rfl rfl ?_ | refine LL.val (R.not rfl rfl) rfl rfl rfl ?_ | refine LL.val (R.lenS rfl rfl rfl rfl) rfl rfl rfl ?_ | refine LL.val (R.len rfl rfl rfl rfl) rfl rfl rfl ?_ | refine LL.val (R.pick rfl rfl rfl) rfl rfl rfl ?_ | refine LL.val (R.extract rfl rfl rfl) rfl rfl rfl ?_ | refine LL.val (R.func rfl rfl rfl) rfl rfl rfl ?_ | refine LL.val (R.slice rfl rfl rfl rfl rfl (I.slA rfl)) rfl rfl rfl ?_ | refine LL.val (R.slice rfl rfl rfl rfl rfl (I.slAto rfl (by omega))) rfl rfl rfl ?_) | refine LL.skip rfl rfl ?_))
    refine LL.lit (e := 22) [] 0 rfl rfl (fun _ => by kernel_rfl) rfl rfl ?_
    intro w1 g1 e1 r1 z1 b1
    have o1 : OwnsT uE 1 w1 w.heap.size 22 (.slice (some ⟨g1, 0, none⟩) 0 0) [] := RowL.ownsT (ts := []) uEnc r1 (by omega) (by simp [maxLen])
    (repeat (first | (first | refine CC.seq ?_ | refine CC.region ?_ | refine LL.nilS ?_ | refine CC.yes rfl ?_ | refine CC.no rfl ?_ | refine CC.block ?_ | refine EE.thenN ?_ | refine LL.nil ?_ | refine CC.exit ?_ | refine CC.ret ?_ | refine CC.skip ?_ | refine EE.thenX ?_ | refine EE.thenR ?_ | refine EE.inN ?_ | refine EE.inX ?_ | refine EE.inX' rfl ?_ | refine EE.inR ?_ | refine CC.label ?_ | refine EE.thenG ?_ | refine EE.inG ?_) | (first | refine LL.val (R.move rfl rfl) rfl rfl rfl ?_ | refine LL.val (R.assign rfl rfl) rfl rfl rfl ?_ | refine LL.val (R.nil rfl rfl) rfl rfl rfl ?_ | refine LL.val (R.field rfl rfl (I.fld rfl)) rfl rfl rfl ?_ | refine LL.val (R.load rfl rfl (I.ld1 rfl (by assumption))) rfl rfl rfl ?_ | refine LL.val (R.load rfl rfl (I.ld1 rfl (RowL.cell (by assumption) rfl))) rfl rfl rfl ?_ | refine LL.val (R.index rfl rfl rfl (I.ixA1c rfl rfl (by first | omega | decide))) rfl rfl rfl ?_ | refine LL.val (R.index rfl rfl rfl (I.ixS1c rfl rfl (by omega))) rfl rfl rfl ?_ | refine LL.val (R.index rfl rfl rfl (I.ixAc rfl rfl (by first | omega | decide))) rfl rfl rfl ?_ | refine LL.val (R.index rfl rfl rfl (I.ixSc rfl rfl (by omega))) rfl rfl rfl ?_ | refine LL.val (R.index rfl rfl rfl (I.ixA1 rfl (by omega))) rfl rfl rfl ?_ | refine LL.val (R.index rfl rfl rfl (I.ixS1 rfl (by omega))) rfl rfl rfl ?_ | refine LL.val (R.index rfl rfl rfl (I.ixA rfl (by omega))) rfl rfl rfl ?_ | refine LL.val (R.index rfl rfl rfl (I.ixS rfl (by omega))) rfl rfl rfl ?_ | refine LL.val (R.ltT rfl rfl rfl (by omega)) rfl rfl rfl ?_ | refine LL.val (R.ltF rfl rfl rfl (by omega)) rfl rfl rfl ?_ | refine LL.val (R.addNc rfl rfl rfl rfl (by omega)) rfl rfl rfl ?_ | refine LL.val (R.subNc rfl rfl rfl rfl (by omega) (by omega)) rfl rfl rfl ?_ | refine LL.val (R.addN rfl rfl rfl (by omega)) rfl rfl rfl ?_ | refine LL.val (R.subN rfl rfl rfl (by omega) (by omega)) rfl rfl rfl ?_ | refine LL.val (R.subcN rfl rfl rfl rfl (by omega) (by omega)) rfl rfl rfl ?_ | refine LL.val (R.addI rfl rfl rfl (by omega)) rfl rfl rfl ?_ | refine LL.val (R.subI rfl rfl rfl (by omega)) rfl rfl rfl ?_ | refine LL.val (R.mulNc rfl rfl rfl rfl (by omega)) rfl rfl rfl ?_ | refine LL.val (R.mulcN rfl rfl rfl rfl (by omega)) rfl rfl rfl ?_ | refine LL.val (R.quoNc rfl rfl rfl rfl (by omega) (by omega)) rfl rfl rfl ?_ | refine LL.val (R.remNc rfl rfl rfl rfl (by omega)) rfl rfl rfl ?_ | refine LL.val (R.mulN rfl rfl rfl (by omega)) rfl rfl rfl ?_ | refine LL.val (R.quoN rfl rfl rfl (by omega) (by omega)) rfl rfl rfl ?_ | refine LL.val (R.remN rfl rfl rfl (by omega)) rfl rfl rfl ?_ | refine LL.val (R.leT rfl rfl rfl (by omega)) rfl rfl rfl ?_ | refine LL.val (R.leF rfl rfl rfl (by omega)) rfl rfl rfl ?_ | refine LL.val (R.gtT rfl rfl rfl (by omega)) rfl rfl rfl ?_ | refine LL.val (R.gtF rfl rfl rfl (by omega)) rfl rfl rfl ?_ | refine LL.val (R.geT rfl rfl rfl (by omega)) rfl rfl rfl ?_ | refine LL.val (R.geF rfl rfl rfl (by omega)) rfl rfl rfl ?_ | refine LL.val (R.eqT rfl rfl rfl (by omega)) rfl rfl rfl ?_ | refine LL.val (R.eqF rfl rfl rfl (by omega)) rfl rfl rfl ?_ | refine LL.val (R.neT rfl rfl rfl (by omega)) rfl rfl rfl ?_ | refine LL.val (R.neF rfl rfl rfl (by omega)) rfl rfl rfl ?_ | refine LL.val (R.eqPtr rfl rfl rfl rfl rfl) rfl rfl rfl ?_ | refine LL.val (R.nePtr rfl rfl rfl rfl rfl) rfl rfl rfl ?_ | refine LL.val (R.eqSl rfl rfl rfl rfl rfl) rfl rfl rfl ?_ | refine LL.val (R.neSl rfl rfl rfl rfl rfl) rfl rfl rfl ?_ | refine LL.val (R.eqFn rfl rfl rfl rfl) rfl rfl rfl ?_ | refine LL.val (R.eqBool rfl rfl rfl rfl rfl) rfl rfl rfl ?_ | refine LL.val (R.neBool rfl rfl rfl rfl rfl) rfl rfl rfl ?_ | refine LL.val (R.xorU rfl rfl rfl (by first | omega | decide) (by first | omega | decide)) rfl rfl rfl ?_ | refine LL.val (R.addUN rfl rfl rfl (by omega)) rfl rfl rfl ?_ | refine LL.val (R.not rfl rfl) rfl rfl rfl ?_ | refine LL.val (R.lenS rfl rfl rfl rfl) rfl rfl rfl ?_ | refine LL.val (R.len rfl rfl rfl rfl) rfl rfl rfl ?_ | refine LL.val (R.pick rfl rfl rfl) rfl rfl rfl ?_ | refine LL.val (R.extract rfl rfl rfl) rfl rfl rfl ?_ | refine LL.val (R.func rfl rfl rfl) rfl rfl rfl ?_ | refine LL.val (R.slice rfl rfl rfl rfl rfl (I.slA rfl)) rfl rfl rfl ?_ | refine LL.val (R.slice rfl rfl rfl rfl rfl (I.slAto rfl (by omega))) rfl rfl rfl ?_) | refine LL.skip rfl rfl ?_))
    refine LL.append0 rfl rfl uEnc ElU o1 (ha.below b1) (by simp [maxLen]; omega) (by omega) b1.size rfl rfl ?_
    intro v2 w2 o2 b2
    (repeat (first | (first | refine CC.seq ?_ | refine CC.region ?_ | refine LL.nilS ?_ | refine CC.yes rfl ?_ | refine CC.no rfl ?_ | refine CC.block ?_ | refine EE.thenN ?_ | refine LL.nil ?_ | refine CC.exit ?_ | refine CC.ret ?_ | refine CC.skip ?_ | refine EE.thenX ?_ | refine EE.thenR ?_ | refine EE.inN ?_ | refine EE.inX ?_ | refine EE.inX' rfl ?_ | refine EE.inR ?_ | refine CC.label ?_ | refine EE.thenG ?_ | refine EE.inG ?_) | (first | refine LL.val (R.move rfl rfl) rfl rfl rfl ?_ | refine LL.val (R.assign rfl rfl) rfl rfl rfl ?_ | refine LL.val (R.nil rfl rfl) rfl rfl rfl ?_ | refine LL.val (R.field rfl rfl (I.fld rfl)) rfl rfl rfl ?_ | refine LL.val (R.load rfl rfl (I.ld1 rfl (by assumption))) rfl rfl rfl ?_ | refine LL.val (R.load rfl rfl (I.ld1 rfl (RowL.cell (by assumption) rfl))) rfl rfl rfl ?_ | refine LL.val (R.index rfl rfl rfl (I.ixA1c rfl rfl (by first | omega | decide))) rfl rfl rfl ?_ | refine LL.val (R.index rfl rfl rfl (I.ixS1c rfl rfl (by omega))) rfl rfl rfl ?_ | refine LL.val (R.index rfl rfl rfl (I.ixAc rfl rfl (by first | omega | decide))) rfl rfl rfl ?_ | refine LL.val (R.index rfl rfl rfl (I.ixSc rfl rfl (by omega))) rfl rfl rfl ?_ | refine LL.val (R.index rfl rfl rfl (I.ixA1 rfl (by omega))) rfl rfl rfl ?_ | refine LL.val (R.index rfl rfl rfl (I.ixS1 rfl (by omega))) rfl rfl rfl ?_ | refine LL.val (R.index rfl rfl rfl (I.ixA rfl (by omega))) rfl rfl rfl ?_ | refine LL.val (R.index rfl rfl rfl (I.ixS rfl (by omega))) rfl rfl rfl ?_ | refine LL.val (R.ltT rfl rfl rfl (by omega)) rfl rfl rfl ?_ | refine LL.val (R.ltF rfl rfl rfl (by omega)) rfl rfl rfl ?_ | refine LL.val (R.addNc rfl rfl rfl rfl (by omega)) rfl rfl rfl ?_ | refine LL.val (R.subNc rfl rfl rfl rfl (by omega) (by omega)) rfl rfl rfl ?_ | refine LL.val (R.addN rfl rfl rfl (by omega)) rfl rfl rfl ?_ | refine LL.val (R.subN rfl rfl rfl (by omega) (by omega)) rfl rfl rfl ?_ | refine LL.val (R.subcN rfl rfl rfl rfl (by omega) (by omega)) rfl rfl rfl ?_ | refine LL.val (R.addI rfl rfl rfl (by omega)) rfl rfl rfl ?_ | refine LL.val (R.subI rfl rfl rfl (by omega)) rfl rfl rfl ?_ | refine LL.val (R.mulNc rfl rfl rfl rfl (by omega)) rfl rfl rfl ?_ | refine LL.val (R.mulcN rfl rfl rfl rfl (by omega)) rfl rfl rfl ?_ | refine LL.val (R.quoNc rfl rfl rfl rfl (by omega) (by omega)) rfl rfl rfl ?_ | refine LL.val (R.remNc rfl rfl rfl rfl (by omega)) rfl rfl rfl ?_ | refine LL.val (R.mulN rfl rfl rfl (by omega)) rfl rfl rfl ?_ | refine LL.val (R.quoN rfl rfl rfl (by omega) (by omega)) rfl rfl rfl ?_ | refine LL.val (R.remN rfl rfl rfl (by omega)) rfl rfl rfl ?_ | refine LL.val (R.leT rfl rfl rfl (by omega)) rfl rfl rfl ?_ | refine LL.val (R.leF rfl rfl rfl (by omega)) rfl rfl rfl ?_ | refine LL.val (R.gtT rfl rfl rfl (by omega)) rfl rfl rfl ?_ | refine LL.val (R.gtF rfl rfl rfl (by omega)) rfl rfl rfl ?_ | refine LL.val (R.geT rfl rfl rfl (by omega)) rfl rfl rfl ?_ | refine LL.val (R.geF rfl rfl rfl (by omega)) rfl rfl rfl ?_ | refine LL.val (R.eqT rfl rfl rfl (by omega)) rfl rfl rfl ?_ | refine LL.val (R.eqF rfl rfl rfl (by omega)) rfl rfl rfl ?_ | refine LL.val (R.neT rfl rfl rfl (by omega)) rfl rfl rfl ?_ | refine LL.val (R.neF rfl rfl rfl (by omega)) rfl rfl rfl ?_ | refine LL.val (R.eqPtr rfl rfl rfl rfl rfl) rfl rfl rfl ?_ | refine LL.val (R.nePtr rfl rfl rfl rfl rfl) rfl rfl rfl ?_ | refine LL.val (R.eqSl rfl rfl rfl rfl rfl) rfl rfl rfl ?_ | refine LL.val (R.neSl rfl rfl rfl rfl rfl) rfl rfl rfl ?_ | refine LL.val (R.eqFn rfl rfl rfl rfl) rfl rfl rfl ?_ | refine LL.val (R.eqBool rfl rfl rfl rfl rfl) rfl rfl rfl ?_ | refine LL.val (R.neBool rfl rfl rfl rfl rfl) rfl rfl rfl ?_ | refine LL.val (R.xorU rfl rfl rfl (by first | omega | decide) (by first | omega | decide)) rfl rfl rfl ?_ | refine LL.val (R.addUN rfl rfl rfl (by omega)) rfl rfl rfl ?_ | refine LL.val (R.not rfl rfl) rfl rfl rfl ?_ | refine LL.val (R.lenS rfl rfl rfl rfl) rfl rfl rfl ?_ | refine LL.val (R.len rfl rfl rfl rfl) rfl rfl rfl ?_ | refine LL.val (R.pick rfl rfl rfl) rfl rfl rfl ?_ | refine LL.val (R.extract rfl rfl rfl) rfl rfl rfl ?_ | refine LL.val (R.func rfl rfl rfl) rfl rfl rfl ?_ | refine LL.val (R.slice rfl rfl rfl rfl rfl (I.slA rfl)) rfl rfl rfl ?_ | refine LL.val (R.slice rfl rfl rfl rfl rfl (I.slAto rfl (by omega))) rfl rfl rfl ?_) | refine LL.skip rfl rfl ?_))
    refine EE.ret _ rfl rfl ?_
    exact ⟨v2, rfl, o2, b1.trans (b2.mono b1.size)⟩

/-- A change under way: the row's own words, the variable that has the row, the one that has the stores. -/
structure Ch (W : World) (A gs cs gr go ob n left : Nat) (s : List Nat) (os : List Pt) : Prop where
  row : OwnsT uE 1 W A 22 (.slice (some ⟨gs, 0, none⟩) n cs) s
  box : RowL W gr 65 [.slice (some ⟨gs, 0, none⟩) n cs, .int .u64 (left : Int)]
  out : ∃ v, RowL W go 43 [v] ∧ OwnsT pE 2 W A 59 v os ∧ ∀ g, v.ownBlock = some g → g = ob ∧ g ≠ gs
  lt : A ≤ gs ∧ A ≤ gr ∧ A ≤ go ∧ A ≤ ob ∧ gs < W.heap.size ∧ gr < W.heap.size ∧ go < W.heap.size ∧ ob < W.heap.size
  ne : gs ≠ gr ∧ gs ≠ go ∧ gr ≠ go ∧ ob ≠ gr ∧ ob ≠ go
section
variable {W W' : World} {A gs cs gr go ob n left : Nat} {s : List Nat} {os : List Pt}
theorem Ch.up (C : Ch W A gs cs gr go ob n left s os) (b : Below W.heap.size W W') : Ch W' A gs cs gr go ob n left s os := by
  obtain ⟨v, h1, h2, h3⟩ := C.out
  have := b.size
  have := C.lt
  exact ⟨C.row.up b, C.box.up b, ⟨v, h1.up b, h2.up b, h3⟩, by omega, C.ne⟩
theorem Ch.reads (C : Ch W A gs cs gr go ob n left s os) : ReadsT uE 1 W (.slice (some ⟨gs, 0, none⟩) n cs) s := C.row.reads uEnc
theorem Ch.len (C : Ch W A gs cs gr go ob n left s os) : s.length = n := by
  obtain ⟨a', cap, e, _⟩ := C.reads
  cases e
  rfl
end
/-- What a store keeps. -/
abbrev KS (W : World) (gs go ob : Nat) (i : Nat) : Prop := i < W.heap.size ∧ (i ≠ gs ∧ i ≠ go ∧ i ≠ ob)
/-- What a change brings: the row, the stores, the block in which they lie. -/
def ChP (W : World) (A gs cs gr go ob n left : Nat) (s : List Nat) (os : List Pt) (W' : World) : Prop :=
  ∃ ob', Ch W' A gs cs gr go ob' n left s os ∧ (ob' = ob ∨ W.heap.size ≤ ob') ∧ Kept (KS W gs go ob) W W'
abbrev stoV (gr go : Nat) : Value := .func (.func 64) #[] #[.pointer (some ⟨gr, 0, none⟩), .pointer (some ⟨go, 0, none⟩)]
set_option maxRecDepth 100000
set_option maxHeartbeats 4000000
theorem store_any (A gs cs gr go ob n left j v : Nat) (s : List Nat) (os : List Pt) (W : World) (C : Ch W A gs cs gr go ob n left s os) (hj : j < n) (hn : n ≤ 1048576) (ho : os.length < 1048576) : Calls Try.prog 64 #[.int .i64 (j : Int), .int .u64 (v : Int), .pointer (some ⟨gr, 0, none⟩), .pointer (some ⟨go, 0, none⟩)] W fun e W' => e = .returned (.tuple #[]) ∧ ChP W A gs cs gr go ob n left (s.set j v) (os ++ [((j : Int), v)]) W' := by
  have hl := C.len
  obtain ⟨row, box, ⟨vo, hgo, out, hob⟩, hlt, hne⟩ := C
  obtain ⟨y, hy⟩ : ∃ y, s[j]? = some y := ⟨_, List.getElem?_eq_getElem (by omega)⟩
  have hkp := Kept.refl (KS W gs go ob) W
  refine X.fn Try.func64 rfl (n := 18) rfl rfl ?_
  refine CC.seq ?_
  refine CC.region ?_
  refine LL.val (R.field rfl rfl (I.fld rfl)) rfl rfl rfl ?_
  refine LL.val (R.field rfl rfl (I.fld rfl)) rfl rfl rfl ?_
  refine LL.val (R.load rfl rfl (I.ld1 rfl (RowL.cell box rfl))) rfl rfl rfl ?_
  refine LL.val (R.move rfl rfl) rfl rfl rfl ?_
  refine LL.val (R.move rfl rfl) rfl rfl rfl ?_
  refine LL.val (R.index rfl rfl rfl (I.ixS1 rfl (by omega))) rfl rfl rfl ?_
  refine LL.storeF j 0 y v rfl rfl rfl rfl (by simp) uEnc row hy (by decide) rfl rfl rfl rfl rfl ?_
  intro W2 row2 g2 z2
  clear row
  replace hkp := hkp.trans (grown_kept g2 (fun k hk => hk.1) (fun k hk e => by cases e; omega))
  replace box := box.gr g2 (by omega)
  replace hgo := hgo.gr g2 (by omega)
  replace out := out.grown g2 (fun e => (hob _ e).2 rfl)
  obtain ⟨av, cv, rfl, hcv⟩ := (out.reads pEnc).form rfl
  refine LL.nilS ?_
  refine CC.region ?_
  refine LL.val (R.load rfl rfl (I.ld1 rfl (RowL.cell hgo rfl))) rfl rfl rfl ?_
  refine LL.val (R.move rfl rfl) rfl rfl rfl ?_
  refine LL.val (R.move rfl rfl) rfl rfl rfl ?_
  refine LL.val (R.buildV rfl rfl (v := .agg #[Value.int IntKind.i64 ↑j, Value.int IntKind.u64 ↑v]) (fun _ => by kernel_rfl)) rfl rfl rfl ?_
  have la1 := box.lt
  have la2 := hgo.lt
  refine LL.lit (e := 59) [Value.int IntKind.i64 ↑j, Value.int IntKind.u64 ↑v] 1 rfl rfl (fun _ => by kernel_rfl) rfl rfl ?_
  intro Wa4 ga5 ega5 ra6 za7 ba3
  replace row2 := row2.up ba3
  replace box := box.up ba3
  replace hgo := hgo.up ba3
  replace out := out.up ba3
  replace hkp := hkp.trans (bkept ba3 (fun k hk => by have := hk.1; omega))
  refine LL.appendT2 rfl rfl pEnc ElPut out (us := [((j : Int), v)]) (RowL.readsT pEnc (ts := [((j : Int), v)]) ra6 1 (Nat.le_refl _)) (by simp only [List.length_cons, List.length_nil, maxLen]; omega) (by simp only [List.length_cons, List.length_nil]; omega) (by omega) rfl rfl ?_
  intro v' W5 o' gr5 hv'
  have z5 := gr5.size
  replace hkp := hkp.trans ⟨gr5.os, gr5.tape, gr5.output, gr5.size, fun k hk => gr5.block k (by have := hk.1; omega) (fun e => by have := (hob k e.symm).1; omega)⟩
  replace row2 := row2.keptO fun b hb => by cases hb; exact gr5.block gs (by omega) (fun e => (hob gs e.symm).2 rfl)
  replace box := box.grO gr5 (fun e => by have := (hob gr e).1; omega)
  replace hgo := hgo.grO gr5 (fun e => by have := (hob go e).1; omega)
  clear out
  obtain ⟨av', cv', rfl, hcv'⟩ := (o'.reads pEnc).form (n := os.length + 1) (by simp)
  obtain ⟨ob2, hob2, hob3⟩ : ∃ ob2, (∀ g, (Value.slice av' (os.length + 1) cv').ownBlock = some g → g = ob2 ∧ g ≠ gs) ∧ (ob2 = ob ∨ W.heap.size ≤ ob2 ∧ ob2 < W5.heap.size) := by
    rcases hv' with e | ⟨b, e, hb⟩
    · exact ⟨ob, fun g h => hob g (by rw [← e]; exact h), .inl rfl⟩
    · have lb : b < W5.heap.size := by
        rcases own_lt o' with e1 | ⟨b', e1, hb'⟩
        · rw [e1] at e; cases e
        · rw [e1] at e; cases e; exact hb'
      exact ⟨b, fun g h => by rw [e] at h; cases h; exact ⟨rfl, by omega⟩, .inr ⟨by omega, lb⟩⟩
  clear hv' hob
  refine LL.store rfl rfl rfl rfl hgo (by exact Nat.le_of_ble_eq_true rfl) rfl rfl rfl rfl ?_
  intro Wb2 rb3 bb1 zb4
  have hlbb1 := hgo.lt
  replace rb3 : RowL Wb2 _ 43 [Value.slice av' (os.length + 1) cv'] := rb3
  clear hgo
  replace row2 := row2.grown bb1 (fun e => by simp [Value.ownBlock] at e; omega)
  replace box := box.gr bb1 (by have := box.lt; omega)
  have hgo := rb3
  clear rb3
  refine LL.nil ?_
  refine EE.end _ rfl rfl ?_
  exact ⟨rfl, ob2, ⟨row2, box, ⟨_, hgo, o'.grown bb1 (fun e => by have := (hob2 _ e).1; omega), hob2⟩, by omega, by omega⟩, by omega, hkp.trans (grown_kept bb1 (fun k hk => by have := hk.1; omega) (fun k hk e => by cases e; have := hk.2; omega))⟩
end Go.Proofs.Ytfpcpnodcdgbdaa

/- slots: stores applied; a change under way, since its call; shift. -/
namespace Go.Proofs.Ytfpcpnodcdgbdaa
set_option linter.unusedVariables false
set_option linter.unusedSimpArgs false
open Go.RowKit Go.Shelf
/-- Words to which stores are applied. -/
def applyS (s : List Nat) (os : List Pt) : List Nat := os.foldl (fun s p => s.set p.1.toNat p.2) s
theorem applyS_nil (s : List Nat) : applyS s [] = s := rfl
theorem applyS_app (s : List Nat) (a b : List Pt) : applyS s (a ++ b) = applyS (applyS s a) b := List.foldl_append
theorem applyS_one (s : List Nat) (j v : Nat) : applyS s [((j : Int), v)] = s.set j v := by simp [applyS]
theorem applyS_len (s : List Nat) (os : List Pt) : (applyS s os).length = s.length := by
  induction os generalizing s with
  | nil => rfl
  | cons p os ih => rw [show p :: os = [p] ++ os from rfl, applyS_app, ih]; simp [applyS]
theorem applyS_ne {s : List Nat} {os : List Pt} {i : Nat} (h : ∀ p ∈ os, p.1.toNat ≠ i) : (applyS s os)[i]? = s[i]? := by
  induction os generalizing s with
  | nil => rfl
  | cons p os ih =>
    rw [show p :: os = [p] ++ os from rfl, applyS_app, ih (fun q hq => h q (List.mem_cons_of_mem _ hq))]
    show (s.set p.1.toNat p.2)[i]? = _
    rw [List.getElem?_set_ne (h p (List.mem_cons_self ..))]
theorem keyN_ne {s : List Nat} {os : List Pt} {j : Nat} (h : ∀ p ∈ os, p.1.toNat ≠ 2 * j) : keyN (applyS s os) j = keyN s j := by unfold keyN; rw [applyS_ne h]
theorem ptrN_ne {s : List Nat} {os : List Pt} {j : Nat} (h : ∀ p ∈ os, p.1.toNat ≠ 2 * j + 1) : ptrN (applyS s os) j = ptrN s j := by unfold ptrN; rw [applyS_ne h]
/-- A change under way in a call that began at W0. -/
structure Cs (W0 : World) (A gs cs gr go ob0 n left : Nat) (s : List Nat) (os : List Pt) (ob : Nat) (W : World) : Prop where
  ch : Ch W A gs cs gr go ob n left s os
  ob : ob = ob0 ∨ W0.heap.size ≤ ob
  kp : Kept (KS W0 gs go ob0) W0 W
section
variable {W0 W W' : World} {A gs cs gr go ob0 ob ob2 n left : Nat} {s s2 : List Nat} {os os2 : List Pt}
theorem Cs.up (C : Cs W0 A gs cs gr go ob0 n left s os ob W) (b : Below W.heap.size W W') : Cs W0 A gs cs gr go ob0 n left s os ob W' :=
  ⟨C.ch.up b, C.ob, C.kp.trans (bkept b fun k hk => by have := hk.1; have := C.kp.size; omega)⟩
theorem Cs.refl (C : Ch W A gs cs gr go ob n left s os) : Cs W A gs cs gr go ob n left s os ob W := ⟨C, .inl rfl, Kept.refl _ _⟩
theorem Cs.then (C : Cs W0 A gs cs gr go ob0 n left s os ob W) (C2 : Ch W' A gs cs gr go ob2 n left s2 os2) (h : ob2 = ob ∨ W.heap.size ≤ ob2) (t : Kept (KS W gs go ob) W W') : Cs W0 A gs cs gr go ob0 n left s2 os2 ob2 W' :=
  ⟨C2, by have := C.ob; have := C.kp.size; omega, C.kp.trans (t.less fun k hk => ⟨by have := hk.1; have := C.kp.size; omega, by have := hk.1; have := C.ob; omega⟩)⟩
theorem Cs.p (C : Cs W0 A gs cs gr go ob0 n left s os ob W) : ChP W0 A gs cs gr go ob0 n left s os W := ⟨ob, C.ch, C.ob, C.kp⟩
theorem Cs.os_eq (C : Cs W0 A gs cs gr go ob0 n left s os ob W) (h1 : s = s2) (h2 : os = os2) : Cs W0 A gs cs gr go ob0 n left s2 os2 ob W := by subst h1; subst h2; exact C
abbrev sV (gs n cs : Nat) : Value := .slice (some ⟨gs, 0, none⟩) n cs
theorem key_c (C : Cs W0 A gs cs gr go ob0 n left s os ob W) (hn : n ≤ 1048576) {j : Nat} (X : World) (b : Below W.heap.size W X) (hj : 2 * j < n) : Calls Try.prog 45 #[celV (sV gs n cs), .int .i64 (j : Int)] X fun e w' => e = .returned (.int .u64 (keyN s j : Int)) ∧ Below X.heap.size X w' := key_any _ n cs j _ s X (C.ch.reads.up b) C.ch.len hn (keyN_at (by rw [C.ch.len]; exact hj))
theorem ptr_c (C : Cs W0 A gs cs gr go ob0 n left s os ob W) (hn : n ≤ 1048576) {j : Nat} (X : World) (b : Below W.heap.size W X) (hj : 2 * j + 1 < n) : Calls Try.prog 47 #[celV (sV gs n cs), .int .i64 (j : Int)] X fun e w' => e = .returned (.int .u64 (ptrN s j : Int)) ∧ Below X.heap.size X w' := ptr_any _ n cs j _ s X (C.ch.reads.up b) C.ch.len hn (ptrN_at (by rw [C.ch.len]; exact hj))
theorem ahead_c (C : Cs W0 A gs cs gr go ob0 n left s os ob W) (hn : n ≤ 1048576) {j : Nat} (X : World) (b : Below W.heap.size W X) (hj : j ≤ n / 2) : Calls Try.prog 49 #[rowV (sV gs n cs) left, .int .i64 (j : Int)] X fun e w' => e = .returned (.int .u64 (aheadN left s j : Int)) ∧ Below X.heap.size X w' := ahead_any _ n cs left j s X (C.ch.reads.up b) C.ch.len hn hj
theorem over_c (C : Cs W0 A gs cs gr go ob0 n left s os ob W) (hn : n ≤ 1048576) (X : World) (b : Below W.heap.size W X) : Calls Try.prog 43 #[rowV (sV gs n cs) left] X fun e w' => e = .returned (.int .i64 (overN s : Int)) ∧ Below X.heap.size X w' := over_any _ n cs left s X (C.ch.reads.up b) C.ch.len hn
end
/-- The stores by which the first k of the slots from d on take what is behind them. -/
def shK (s : List Nat) (d : Nat) : Nat → List Pt
  | 0 => []
  | k + 1 => shK s d k ++ [(((2 * (d + k) : Nat) : Int), keyN s (d + k + 1)), (((2 * (d + k) + 1 : Nat) : Int), ptrN s (d + k + 1))]
def shL (s : List Nat) (d m : Nat) : List Pt := shK s d (m - 1 - d) ++ [(((2 * (m - 1) + 1 : Nat) : Int), 0)]
theorem shK_lt {s : List Nat} {d : Nat} : ∀ {k : Nat}, ∀ p ∈ shK s d k, p.1.toNat < 2 * (d + k) ∧ 2 * d ≤ p.1.toNat
  | 0, p, h => by simp [shK] at h
  | k + 1, p, h => by
    unfold shK at h
    rcases List.mem_append.1 h with h | h
    · have := shK_lt p h
      omega
    · simp only [List.mem_cons, List.not_mem_nil, or_false] at h
      rcases h with rfl | rfl <;> simp only [Int.toNat_natCast] <;> omega
theorem shK_len (s : List Nat) (d : Nat) : ∀ k, (shK s d k).length = 2 * k
  | 0 => rfl
  | k + 1 => by unfold shK; rw [List.length_append, shK_len s d k]; simp; omega
set_option maxRecDepth 100000
set_option maxHeartbeats 4000000
theorem shift_any (A gs cs gr go ob0 n left d m : Nat) (s : List Nat) (os : List Pt) (W0 : World) (C0 : Ch W0 A gs cs gr go ob0 n left s os) (hn : n ≤ 56) (ho : os.length ≤ 1000000) (hd : d < m) (hm : 2 * m ≤ n) : Calls Try.prog 53 #[rowV (sV gs n cs) left, .int .i64 (d : Int), .int .i64 (m : Int), stoV gr go] W0 fun e W' => e = .returned (.tuple #[]) ∧ ChP W0 A gs cs gr go ob0 n left (applyS s (shL s d m)) (os ++ shL s d m) W' := by
  have C := Cs.refl C0
  have hlt := C0.lt
  clear C0
  have hn6 := hn
  replace hn : n ≤ 1048576 := by omega
  refine X.fn Try.func53 rfl (n := 39) rfl rfl ?_
  refine CC.seq ?_
  refine CC.region ?_
  refine LL.box [sV gs n cs, Value.int IntKind.u64 ↑left] rfl rfl rfl rfl rfl ?_
  intro W2 g3 eg3 r4 z5 b1
  replace C := C.up b1
  refine LL.nilS ?_
  refine CC.seq ?_
  refine CC.seq ?_
  refine CC.region ?_
  refine LL.val (R.move rfl rfl) rfl rfl rfl ?_
  refine LL.val (R.assign rfl rfl) rfl rfl rfl ?_
  refine LL.nilS ?_
  refine CC.block ?_
  refine CC.loop (α := Nat × Nat) (fun p => [(2, .int .i64 (m : Int)), (3, stoV gr go), (4, .pointer (some ⟨g3, 0, none⟩)), (8, .int .i64 ((d + p.1 : Nat) : Int))])
    (fun p W => d + p.1 ≤ m - 1 ∧ RowL W g3 65 [sV gs n cs, .int .u64 (left : Int)] ∧ Cs W0 A gs cs gr go ob0 n left (applyS s (shK s d p.1)) (os ++ shK s d p.1) p.2 W ∧ p.2 ≠ g3) (fun p => m - p.1)
    (0, ob0) ⟨rfl, rfl, rfl, rfl, trivial⟩ ⟨by show d + 0 ≤ m - 1; omega, r4, C.os_eq rfl (List.append_nil _).symm, by show ob0 ≠ g3; omega⟩ ?_
  clear C r4 b1
  rintro ⟨k, ob⟩ W ⟨hk, r4, C, hbn⟩
  simp only at hk C hbn
  show CC none Try.prog _ 39 [] (sl [(2, .int .i64 (m : Int)), (3, stoV gr go), (4, .pointer (some ⟨g3, 0, none⟩)), (8, .int .i64 ((d + k : Nat) : Int))]) _ W
  by_cases hlt2 : d + k ≤ m - 2 ∧ 2 ≤ m
  case neg =>
    obtain rfl : k = m - 1 - d := by omega
    have e : applyS s (shL s d m) = (applyS s (shK s d (m - 1 - d))).set (2 * (m - 1) + 1) 0 := by unfold shL; rw [applyS_app, applyS_one]
    rw [e]
    unfold shL
    rw [← List.append_assoc]
    clear hlt2 e
    refine CC.seq ?_
    refine CC.seq ?_
    refine CC.region ?_
    refine LL.val (R.move rfl rfl) rfl rfl rfl ?_
    refine LL.val (R.move rfl rfl) rfl rfl rfl ?_
    refine LL.val (R.subI rfl rfl rfl (by omega)) rfl rfl rfl ?_
    refine LL.val (R.leF rfl rfl rfl (by omega)) rfl rfl rfl ?_
    refine LL.nilS ?_
    refine CC.no rfl ?_
    refine CC.exit ?_
    refine EE.thenX ?_
    refine EE.thenX ?_
    refine EE.inX ?_
    refine EE.thenN ?_
    refine CC.region ?_
    refine LL.val (R.move rfl rfl) rfl rfl rfl ?_
    refine LL.val (R.move rfl rfl) rfl rfl rfl ?_
    refine LL.val (R.subNc rfl rfl rfl rfl (by omega) (by omega)) rfl rfl rfl ?_
    refine LL.call (R.call rfl rfl rfl) rfl rfl rfl (ptrWord_any _ _ (by first | assumption | omega)) ?_
    rintro e W' ⟨rfl, rfl⟩
    refine ⟨_, rfl, ?_⟩
    (have lgr := r4.lt; refine LL.call (R.callV rfl rfl rfl rfl) rfl rfl rfl (store_any A gs cs gr go _ n left _ _ _ _ _ C.ch (by omega) hn (by simp only [List.length_append, List.length_cons, List.length_nil, shK_len]; omega)) ?_; rintro e Wa60 ⟨rfl, ob2, C2, hob2, ta59⟩; refine ⟨_, rfl, ?_⟩; replace C := C.then C2 hob2 ta59; clear C2; have hbn : ob2 ≠ g3 := (by omega); clear hob2)
    have zta59 := ta59.size
    replace r4 := r4.kept ta59 ⟨r4.lt, by omega⟩
    refine LL.nil ?_
    refine EE.end _ rfl rfl ?_
    exact ⟨rfl, C.p⟩
  obtain ⟨hlt2, hm2⟩ := hlt2
  have e1 : keyN (applyS s (shK s d k)) (d + k + 1) = keyN s (d + k + 1) := keyN_ne fun p hp => by have := shK_lt p hp; omega
  have e2 : ptrN ((applyS s (shK s d k)).set (2 * (d + k)) (keyN s (d + k + 1))) (d + k + 1) = ptrN s (d + k + 1) := by
    rw [← applyS_one, ← applyS_app]
    refine ptrN_ne fun p hp => ?_
    rcases List.mem_append.1 hp with hp | hp
    · have := shK_lt p hp; omega
    · rw [List.mem_singleton.1 hp]; simp only [Int.toNat_natCast]; omega
  have e3 : ((applyS s (shK s d k)).set (2 * (d + k)) (keyN s (d + k + 1))).set (2 * (d + k) + 1) (ptrN s (d + k + 1)) = applyS s (shK s d (k + 1)) := by
    show _ = applyS s (shK s d k ++ ([(((2 * (d + k) : Nat) : Int), keyN s (d + k + 1))] ++ [(((2 * (d + k) + 1 : Nat) : Int), ptrN s (d + k + 1))]))
    rw [applyS_app, applyS_app, applyS_one, applyS_one]
  have e4 : os ++ shK s d k ++ [(((2 * (d + k) : Nat) : Int), keyN s (d + k + 1))] ++ [(((2 * (d + k) + 1 : Nat) : Int), ptrN s (d + k + 1))] = os ++ shK s d (k + 1) := by
    show _ = os ++ (shK s d k ++ [_, _])
    simp
  refine CC.seq ?_
  refine CC.seq ?_
  refine CC.region ?_
  refine LL.val (R.move rfl rfl) rfl rfl rfl ?_
  refine LL.val (R.move rfl rfl) rfl rfl rfl ?_
  refine LL.val (R.subNc rfl rfl rfl rfl (by omega) (by omega)) rfl rfl rfl ?_
  refine LL.val (R.leT rfl rfl rfl (by omega)) rfl rfl rfl ?_
  refine LL.nilS ?_
  refine CC.yes rfl ?_
  refine CC.skip ?_
  refine EE.thenN ?_
  refine CC.seq ?_
  refine CC.block ?_
  refine CC.seq ?_
  refine CC.growT 8 (by kernel_rfl) (by kernel_rfl) ?_
  refine GG.val (fun w' b' => R.move rfl rfl) rfl rfl ?_
  refine GG.val (fun w' b' => R.move rfl rfl) rfl rfl ?_
  refine GG.call (fun w' => (R.call rfl rfl rfl)) rfl rfl (fun w' b' => (keyWord_any _ w' (by first | assumption | omega)).mono fun e W' h => ⟨h.1, h.2 ▸ b'⟩) ?_
  refine GG.val (fun w' b' => R.field rfl rfl (I.fld rfl)) rfl rfl ?_
  refine GG.val (fun w' b' => R.load rfl rfl (I.ldNc (vs := [sV gs n cs]) (RowL.cells (r4.up b') rfl) (by rfl) (by rfl))) rfl rfl ?_
  refine GG.val (fun w' b' => R.move rfl rfl) rfl rfl ?_
  refine GG.val (fun w' b' => R.addNc rfl rfl rfl rfl (by omega)) rfl rfl ?_
  refine GG.call (fun w' => (R.call rfl rfl rfl)) rfl rfl (fun w' b' => (key_c C hn w' b' (by omega)).mono fun e W' h => ⟨h.1, b'.trans (h.2.mono b'.size)⟩) ?_
  refine GG.nil (fun Wb89 bb88 => ?_)
  have zbb88 := bb88.size
  replace r4 := r4.up bb88
  replace C := C.up bb88
  (have lgr := r4.lt; refine LL.call (R.callV rfl rfl rfl rfl) rfl rfl rfl (store_any A gs cs gr go _ n left _ _ _ _ _ C.ch (by omega) hn (by simp only [List.length_append, List.length_cons, List.length_nil, shK_len]; omega)) ?_; rintro e Wb93 ⟨rfl, ob2, C2, hob2, tb92⟩; refine ⟨_, rfl, ?_⟩; replace C := C.then C2 hob2 tb92; clear C2; have hbn : ob2 ≠ g3 := (by omega); clear hob2)
  have ztb92 := tb92.size
  replace r4 := r4.kept tb92 ⟨r4.lt, by omega⟩
  refine LL.nilS ?_
  refine CC.growT 8 (by kernel_rfl) (by kernel_rfl) ?_
  refine GG.val (fun w' b' => R.move rfl rfl) rfl rfl ?_
  refine GG.val (fun w' b' => R.move rfl rfl) rfl rfl ?_
  refine GG.call (fun w' => (R.call rfl rfl rfl)) rfl rfl (fun w' b' => (ptrWord_any _ w' (by first | assumption | omega)).mono fun e W' h => ⟨h.1, h.2 ▸ b'⟩) ?_
  refine GG.val (fun w' b' => R.field rfl rfl (I.fld rfl)) rfl rfl ?_
  refine GG.val (fun w' b' => R.load rfl rfl (I.ldNc (vs := [sV gs n cs]) (RowL.cells (r4.up b') rfl) (by rfl) (by rfl))) rfl rfl ?_
  refine GG.val (fun w' b' => R.move rfl rfl) rfl rfl ?_
  refine GG.val (fun w' b' => R.addNc rfl rfl rfl rfl (by omega)) rfl rfl ?_
  refine GG.call (fun w' => (R.call rfl rfl rfl)) rfl rfl (fun w' b' => (ptr_c C hn w' b' (by omega)).mono fun e W' h => ⟨h.1, b'.trans (h.2.mono b'.size)⟩) ?_
  refine GG.nil (fun Wb157 bb156 => ?_)
  have zbb156 := bb156.size
  replace C := C.up bb156
  replace r4 := r4.up bb156
  (have lgr := r4.lt; refine LL.call (R.callV rfl rfl rfl rfl) rfl rfl rfl (store_any A gs cs gr go _ n left _ _ _ _ _ C.ch (by omega) hn (by simp only [List.length_append, List.length_cons, List.length_nil, shK_len]; omega)) ?_; rintro e Wb161 ⟨rfl, ob2, C2, hob2, tb160⟩; refine ⟨_, rfl, ?_⟩; replace C := C.then C2 hob2 tb160; clear C2; have hbn : ob2 ≠ g3 := (by omega); clear hob2)
  have ztb160 := tb160.size
  replace r4 := r4.kept tb160 ⟨r4.lt, by omega⟩
  refine LL.nil ?_
  refine EE.inN ?_
  refine EE.thenN ?_
  refine CC.region ?_
  refine LL.val (R.move rfl rfl) rfl rfl rfl ?_
  refine LL.val (R.addNc rfl rfl rfl rfl (by omega)) rfl rfl rfl ?_
  refine LL.val (R.assign rfl rfl) rfl rfl rfl ?_
  refine LL.nil ?_
  exact EE.round (k + 1, _) ⟨rfl, rfl, rfl, rfl, trivial⟩ ⟨by show d + (k + 1) ≤ m - 1; omega, r4, C.os_eq (by rw [e1, e2]; exact e3) (by rw [e1, e2]; exact e4), hbn⟩ (by show m - (k + 1) < m - k; omega)
end Go.Proofs.Ytfpcpnodcdgbdaa

/- slots: what the changes do. -/
namespace Go.Proofs.Ytfpcpnodcdgbdaa
set_option linter.unusedVariables false
set_option linter.unusedSimpArgs false
open Go.RowKit Go.Shelf
theorem Stl.rise {left : Nat} {s : List Nat} {n : Nat} (h : Stl left s n) : ∀ (i j : Nat), i < j → j < n → keyN s i < keyN s j := fun i j hij hj => by
  induction j with
  | zero => omega
  | succ j ih =>
    have := h.up j hj
    by_cases e : i = j
    · subst e; exact this
    · have := ih (by omega) (by omega)
      omega
theorem findN_uniq {l : List (Nat × Pr)} {key : Nat} {x : Nat × Pr} (hx : x ∈ l) (hk : x.2.1 = key) (hu : ∀ y ∈ l, y.2.1 = key → y = x) : findN l key = (x.1, true) := by
  unfold findN
  cases h : l.find? fun x => x.2.1 == key with
  | none => exact absurd hk (by simpa using List.find?_eq_none.1 h x hx)
  | some y =>
    have h1 := List.mem_of_find?_eq_some h
    have h2 : y.2.1 = key := by simpa using List.find?_some h
    rw [hu y h1 h2]
theorem find_stlT {left n key i : Nat} {s : List Nat} (h : Stl left s n) (hi : i < n) (hk : keyN s i = key) : findN (pairS left s) key = (i, true) := by
  refine findN_uniq (x := (i, prA s i)) (by rw [h.pairS]; exact List.mem_map.2 ⟨i, List.mem_range.2 hi, rfl⟩) hk fun y hy hyk => ?_
  rw [h.pairS] at hy
  obtain ⟨j, hj, rfl⟩ := List.mem_map.1 hy
  have hj := List.mem_range.1 hj
  have hyk : keyN s j = key := hyk
  rcases Nat.lt_trichotomy i j with e | rfl | e
  · have := h.rise i j e hj; omega
  · rfl
  · have := h.rise j i e hi; omega
theorem find_stlF {left n key : Nat} {s : List Nat} (h : Stl left s n) (hk : ∀ j, j < n → keyN s j ≠ key) : findN (pairS left s) key = (0, false) := findN_none fun y hy => by
  rw [h.pairS] at hy
  obtain ⟨j, hj, rfl⟩ := List.mem_map.1 hy
  exact hk j (List.mem_range.1 hj)
section
variable {W0 W W' : World} {A gs cs gr go ob0 ob ob2 n left : Nat} {s s2 : List Nat} {os os2 : List Pt}
theorem find_c (C : Cs W0 A gs cs gr go ob0 n left s os ob W) (hn : n ≤ 1048576) {key i : Nat} {b : Bool} (hf : findN (pairS left s) key = (i, b)) (X : World) (hb : Below W.heap.size W X) : Calls Try.prog 41 #[rowV (sV gs n cs) left, .int .u64 (key : Int)] X fun e w' => e = .returned (.tuple #[.int .i64 (i : Int), .bool b]) ∧ Below X.heap.size X w' :=
  (find_any _ n cs left key s X (C.ch.reads.up hb) C.ch.len hn).mono fun e w' h => by rw [hf] at h; exact h
theorem rp_cT (C : Cs W0 A gs cs gr go ob0 n left s os ob W) (hn : n ≤ 1048576) {ptr m : Nat} (hp : ptr ≠ 0 ∧ ptr ≠ left) (hs : Stl left s m) (hne : ∀ j, j < m → ptrN s j ≠ ptr) : Calls Try.prog 40 #[rowV (sV gs n cs) left, .int .u64 (ptr : Int)] W fun e w' => e = .returned (.tuple #[]) ∧ Below W.heap.size W w' :=
  rp_T _ n cs left ptr s W C.ch.reads C.ch.len hn hp (setP_iff.2 ⟨m, hs⟩) fun x hx => by
    rw [hs.pairS] at hx
    obtain ⟨j, hj, rfl⟩ := List.mem_map.1 hx
    exact hne j (List.mem_range.1 hj)
/-- Why a pointer may not come in. -/
def rpE (left : Nat) (s : List Nat) (p c : Nat) : Prop := (c = 2 ∧ (p = 0 ∨ p = left)) ∨ (p ≠ 0 ∧ p ≠ left ∧ ((c = 190 ∧ ¬ setP left s) ∨ (c = 2 ∧ ∃ m, Stl left s m ∧ ∃ j, j < m ∧ ptrN s j = p)))
theorem rp_cE (C : Cs W0 A gs cs gr go ob0 n left s os ob W) (hn : n ≤ 1048576) {p c : Nat} (h : rpE left s p c) : Calls Try.prog 40 #[rowV (sV gs n cs) left, .int .u64 (p : Int)] W fun e w' => e = .panicked (chain1 (refV c)) ∧ Below W.heap.size W w' := by
  rcases h with ⟨rfl, h⟩ | ⟨h1, h2, (⟨rfl, h⟩ | ⟨rfl, m, hs, j, hj, hp⟩)⟩
  · exact rp_A _ n cs left p s W h
  · exact rp_S _ n cs left p s W C.ch.reads C.ch.len hn ⟨h1, h2⟩ h
  · exact rp_P _ n cs left p s W C.ch.reads C.ch.len hn ⟨h1, h2⟩ (setP_iff.2 ⟨m, hs⟩) ⟨(j, prA s j), by rw [hs.pairS]; exact List.mem_map.2 ⟨j, List.mem_range.2 hj, rfl⟩, hp⟩
theorem settled_cT (C : Cs W0 A gs cs gr go ob0 n left s os ob W) (hn : n ≤ 1048576) (X : World) (hb : Below W.heap.size W X) (hs : setP left s) : Calls Try.prog 34 #[rowV (sV gs n cs) left] X fun e w' => e = .returned (.bool true) ∧ Below X.heap.size X w' := settled_T _ n cs left s X (C.ch.reads.up hb) C.ch.len hn hs
theorem settled_cF (C : Cs W0 A gs cs gr go ob0 n left s os ob W) (hn : n ≤ 1048576) (X : World) (hb : Below W.heap.size W X) (hs : ¬ setP left s) : Calls Try.prog 34 #[rowV (sV gs n cs) left] X fun e w' => e = .returned (.bool false) ∧ Below X.heap.size X w' := settled_F _ n cs left s X (C.ch.reads.up hb) C.ch.len hn hs
end
set_option maxRecDepth 100000
set_option maxHeartbeats 4000000
/-- Swap's closure. -/
def swapL (i p : Nat) : List Pt := [(((2 * i + 1 : Nat) : Int), p)]
theorem swap1_E (A gs cs gr go ob0 n left gp k p c : Nat) (s : List Nat) (os : List Pt) (W0 : World) (C0 : Ch W0 A gs cs gr go ob0 n left s os) (hn6 : n ≤ 56) (rp : RowL W0 gp 41 [.int .u64 (k : Int), .int .u64 (p : Int)]) (hE : rpE left s p c) : Calls Try.prog 55 #[rowV (sV gs n cs) left, stoV gr go, .pointer (some ⟨gp, 0, none⟩)] W0 fun e W' => e = .panicked (chain1 (refV c)) ∧ Below W0.heap.size W0 W' := by
  have C := Cs.refl C0
  clear C0
  have hn : n ≤ 1048576 := by omega
  have q := Below.refl W0.heap.size W0
  refine X.fn Try.func55 rfl (n := 27) rfl rfl ?_
  refine CC.seq ?_
  refine CC.region ?_
  have l1 := rp.lt
  refine LL.box [sV gs n cs, Value.int IntKind.u64 ↑left] rfl rfl rfl rfl rfl ?_
  intro W3 g4 eg4 r5 z6 b2
  replace rp := rp.up b2
  replace C := C.up b2
  replace q := q.trans (b2.mono q.size)
  refine LL.nilS ?_
  refine CC.seq ?_
  refine CC.region ?_
  refine LL.val (R.load rfl rfl (I.ldNc (vs := [sV gs n cs, Value.int IntKind.u64 ↑left]) (RowL.cells r5 rfl) (by rfl) (by rfl))) rfl rfl rfl ?_
  refine LL.val (R.field rfl rfl (I.fld rfl)) rfl rfl rfl ?_
  refine LL.val (R.load rfl rfl (I.ld1 rfl (RowL.cell rp rfl))) rfl rfl rfl ?_
  refine LL.callP (R.call rfl rfl rfl) rfl rfl (rp_cE C hn hE) ?_
  rintro e W8 ⟨rfl, b7⟩
  refine ⟨_, rfl, ?_⟩
  have zb7 := b7.size
  replace r5 := r5.up b7
  replace b2 := b2.trans (b7.mono b2.size)
  replace rp := rp.up b7
  replace C := C.up b7
  replace q := q.trans (b7.mono q.size)
  refine EE.thenP ?_
  refine EE.pan ?_
  exact ⟨rfl, q⟩
theorem swap1_N (A gs cs gr go ob0 n left gp k p m : Nat) (s : List Nat) (os : List Pt) (W0 : World) (C0 : Ch W0 A gs cs gr go ob0 n left s os) (hn6 : n ≤ 56) (rp : RowL W0 gp 41 [.int .u64 (k : Int), .int .u64 (p : Int)]) (hp : p ≠ 0 ∧ p ≠ left) (hs : Stl left s m) (hne : ∀ j, j < m → ptrN s j ≠ p) (hk : ∀ j, j < m → keyN s j ≠ k) : Calls Try.prog 55 #[rowV (sV gs n cs) left, stoV gr go, .pointer (some ⟨gp, 0, none⟩)] W0 fun e W' => e = .panicked (chain1 (refV 5)) ∧ Below W0.heap.size W0 W' := by
  have C := Cs.refl C0
  clear C0
  have hn : n ≤ 1048576 := by omega
  have q := Below.refl W0.heap.size W0
  have hf := find_stlF hs hk
  refine X.fn Try.func55 rfl (n := 27) rfl rfl ?_
  refine CC.seq ?_
  refine CC.region ?_
  have l1 := rp.lt
  refine LL.box [sV gs n cs, Value.int IntKind.u64 ↑left] rfl rfl rfl rfl rfl ?_
  intro W3 g4 eg4 r5 z6 b2
  replace rp := rp.up b2
  replace C := C.up b2
  replace q := q.trans (b2.mono q.size)
  refine LL.nilS ?_
  refine CC.seq ?_
  refine CC.region ?_
  refine LL.val (R.load rfl rfl (I.ldNc (vs := [sV gs n cs, Value.int IntKind.u64 ↑left]) (RowL.cells r5 rfl) (by rfl) (by rfl))) rfl rfl rfl ?_
  refine LL.val (R.field rfl rfl (I.fld rfl)) rfl rfl rfl ?_
  refine LL.val (R.load rfl rfl (I.ld1 rfl (RowL.cell rp rfl))) rfl rfl rfl ?_
  refine LL.call (R.call rfl rfl rfl) rfl rfl rfl (rp_cT C hn hp hs hne) ?_
  rintro e W8 ⟨rfl, b7⟩
  refine ⟨_, rfl, ?_⟩
  have zb7 := b7.size
  replace r5 := r5.up b7
  replace b2 := b2.trans (b7.mono b2.size)
  replace rp := rp.up b7
  replace C := C.up b7
  replace q := q.trans (b7.mono q.size)
  refine LL.nilS ?_
  refine CC.seq ?_
  refine CC.region ?_
  refine LL.val (R.load rfl rfl (I.ldNc (vs := [sV gs n cs, Value.int IntKind.u64 ↑left]) (RowL.cells r5 rfl) (by rfl) (by rfl))) rfl rfl rfl ?_
  refine LL.val (R.field rfl rfl (I.fld rfl)) rfl rfl rfl ?_
  refine LL.val (R.load rfl rfl (I.ld1 rfl (RowL.cell rp rfl))) rfl rfl rfl ?_
  refine LL.call (R.call rfl rfl rfl) rfl rfl rfl (find_c C hn hf _ (Below.refl _ _)) ?_
  rintro e W11 ⟨rfl, b10⟩
  refine ⟨_, rfl, ?_⟩
  have zb10 := b10.size
  replace b7 := b7.trans (b10.mono b7.size)
  replace r5 := r5.up b10
  replace b2 := b2.trans (b10.mono b2.size)
  replace rp := rp.up b10
  replace C := C.up b10
  replace q := q.trans (b10.mono q.size)
  refine LL.val (R.move rfl rfl) rfl rfl rfl ?_
  refine LL.val (R.extract rfl rfl rfl) rfl rfl rfl ?_
  refine LL.val (R.extract rfl rfl rfl) rfl rfl rfl ?_
  refine LL.val (R.assign rfl rfl) rfl rfl rfl ?_
  refine LL.val (R.assign rfl rfl) rfl rfl rfl ?_
  refine LL.nilS ?_
  refine CC.seq ?_
  refine CC.region ?_
  refine LL.val (R.move rfl rfl) rfl rfl rfl ?_
  refine LL.val (R.not rfl rfl) rfl rfl rfl ?_
  refine LL.callP (R.call rfl rfl rfl) rfl rfl (refuse_T _ _) ?_
  rintro e W14 ⟨rfl, rfl⟩
  refine ⟨_, rfl, ?_⟩
  refine EE.thenP ?_
  refine EE.pan ?_
  exact ⟨rfl, q⟩
theorem swap1_T (A gs cs gr go ob0 n left gp k p m i : Nat) (s : List Nat) (os : List Pt) (W0 : World) (C0 : Ch W0 A gs cs gr go ob0 n left s os) (hn6 : n ≤ 56) (ho : os.length ≤ 1000000) (rp : RowL W0 gp 41 [.int .u64 (k : Int), .int .u64 (p : Int)]) (hgp : gp ≠ gs ∧ gp ≠ go ∧ gp ≠ ob0) (hp : p ≠ 0 ∧ p ≠ left) (hs : Stl left s m) (hne : ∀ j, j < m → ptrN s j ≠ p) (hi : i < m) (hk : keyN s i = k) : Calls Try.prog 55 #[rowV (sV gs n cs) left, stoV gr go, .pointer (some ⟨gp, 0, none⟩)] W0 fun e W' => e = .returned (.tuple #[]) ∧ ChP W0 A gs cs gr go ob0 n left (applyS s (swapL i p)) (os ++ swapL i p) W' := by
  have C := Cs.refl C0
  have hlt := C0.lt
  have hml := hs.lt
  rw [C0.len] at hml
  clear C0
  have hn : n ≤ 1048576 := by omega
  have hf := find_stlT hs hi hk
  unfold swapL
  rw [applyS_one]
  have lgp := rp.lt
  refine X.fn Try.func55 rfl (n := 27) rfl rfl ?_
  refine CC.seq ?_
  refine CC.region ?_
  have l8 := rp.lt
  refine LL.box [sV gs n cs, Value.int IntKind.u64 ↑left] rfl rfl rfl rfl rfl ?_
  intro W10 g11 eg11 r12 z13 b9
  replace rp := rp.up b9
  replace C := C.up b9
  refine LL.nilS ?_
  refine CC.seq ?_
  refine CC.region ?_
  refine LL.val (R.load rfl rfl (I.ldNc (vs := [sV gs n cs, Value.int IntKind.u64 ↑left]) (RowL.cells r12 rfl) (by rfl) (by rfl))) rfl rfl rfl ?_
  refine LL.val (R.field rfl rfl (I.fld rfl)) rfl rfl rfl ?_
  refine LL.val (R.load rfl rfl (I.ld1 rfl (RowL.cell rp rfl))) rfl rfl rfl ?_
  refine LL.call (R.call rfl rfl rfl) rfl rfl rfl (rp_cT C hn hp hs hne) ?_
  rintro e W43 ⟨rfl, b42⟩
  refine ⟨_, rfl, ?_⟩
  have zb42 := b42.size
  replace r12 := r12.up b42
  replace b9 := b9.trans (b42.mono b9.size)
  replace rp := rp.up b42
  replace C := C.up b42
  refine LL.nilS ?_
  refine CC.seq ?_
  refine CC.region ?_
  refine LL.val (R.load rfl rfl (I.ldNc (vs := [sV gs n cs, Value.int IntKind.u64 ↑left]) (RowL.cells r12 rfl) (by rfl) (by rfl))) rfl rfl rfl ?_
  refine LL.val (R.field rfl rfl (I.fld rfl)) rfl rfl rfl ?_
  refine LL.val (R.load rfl rfl (I.ld1 rfl (RowL.cell rp rfl))) rfl rfl rfl ?_
  refine LL.call (R.call rfl rfl rfl) rfl rfl rfl (find_c C hn hf _ (Below.refl _ _)) ?_
  rintro e W74 ⟨rfl, b73⟩
  refine ⟨_, rfl, ?_⟩
  have zb73 := b73.size
  replace b42 := b42.trans (b73.mono b42.size)
  replace r12 := r12.up b73
  replace b9 := b9.trans (b73.mono b9.size)
  replace rp := rp.up b73
  replace C := C.up b73
  refine LL.val (R.move rfl rfl) rfl rfl rfl ?_
  refine LL.val (R.extract rfl rfl rfl) rfl rfl rfl ?_
  refine LL.val (R.extract rfl rfl rfl) rfl rfl rfl ?_
  refine LL.val (R.assign rfl rfl) rfl rfl rfl ?_
  refine LL.val (R.assign rfl rfl) rfl rfl rfl ?_
  refine LL.nilS ?_
  refine CC.seq ?_
  refine CC.region ?_
  refine LL.val (R.move rfl rfl) rfl rfl rfl ?_
  refine LL.val (R.not rfl rfl) rfl rfl rfl ?_
  refine LL.call (R.call rfl rfl rfl) rfl rfl rfl (refuse_F _ _) ?_
  rintro e W' ⟨rfl, rfl⟩
  refine ⟨_, rfl, ?_⟩
  refine LL.nilS ?_
  refine CC.growT 5 (by kernel_rfl) (by kernel_rfl) ?_
  refine GG.val (fun w' b' => R.move rfl rfl) rfl rfl ?_
  refine GG.val (fun w' b' => R.move rfl rfl) rfl rfl ?_
  refine GG.call (fun w' => (R.call rfl rfl rfl)) rfl rfl (fun w' b' => (ptrWord_any _ w' (by first | assumption | omega)).mono fun e W' h => ⟨h.1, h.2 ▸ b'⟩) ?_
  refine GG.val (fun w' b' => R.field rfl rfl (I.fld rfl)) rfl rfl ?_
  refine GG.val (fun w' b' => R.load rfl rfl (I.ld1 rfl (RowL.cell (rp.up b') rfl))) rfl rfl ?_
  refine GG.nil (fun W171 b170 => ?_)
  have zb170 := b170.size
  replace b73 := b73.trans (b170.mono b73.size)
  replace b42 := b42.trans (b170.mono b42.size)
  replace r12 := r12.up b170
  replace b9 := b9.trans (b170.mono b9.size)
  replace rp := rp.up b170
  replace C := C.up b170
  (have lgr0 := rp.lt; refine LL.call (R.callV rfl rfl rfl rfl) rfl rfl rfl (store_any A gs cs gr go _ n left _ _ _ _ _ C.ch (by omega) hn (by first | omega | (simp only [List.length_append, List.length_cons, List.length_nil]; omega))) ?_; rintro e W175 ⟨rfl, ob2, C2, hob2, t174⟩; refine ⟨_, rfl, ?_⟩; replace C := C.then C2 hob2 t174; clear C2; have hbn0 : ob2 ≠ gp := (by omega); clear hob2)
  have zt174 := t174.size
  replace r12 := r12.kept t174 ⟨r12.lt, by omega⟩
  replace rp := rp.kept t174 ⟨rp.lt, by omega⟩
  refine LL.nil ?_
  refine EE.end _ rfl rfl ?_
  exact ⟨rfl, C.p⟩
end Go.Proofs.Ytfpcpnodcdgbdaa

/- slots: Take, Put: what the changes do. -/
namespace Go.Proofs.Ytfpcpnodcdgbdaa
set_option linter.unusedVariables false
set_option linter.unusedSimpArgs false
open Go.RowKit Go.Shelf
theorem shK_congr {s s1 : List Nat} {d : Nat} (h : ∀ j, d < j → keyN s1 j = keyN s j ∧ ptrN s1 j = ptrN s j) : ∀ k, shK s1 d k = shK s d k
  | 0 => rfl
  | k + 1 => by
    unfold shK
    rw [shK_congr h k, (h (d + k + 1) (by omega)).1, (h (d + k + 1) (by omega)).2]
theorem shL_congr {s s1 : List Nat} {d m : Nat} (h : ∀ j, d < j → keyN s1 j = keyN s j ∧ ptrN s1 j = ptrN s j) : shL s1 d m = shL s d m := by unfold shL; rw [shK_congr h]
def takeL (left : Nat) (s : List Nat) (i m : Nat) : List Pt := [(((2 * i + 1 : Nat) : Int), aheadN left s i)] ++ shL s i m
set_option maxRecDepth 100000
set_option maxHeartbeats 4000000
theorem take1_E (A gs cs gr go ob0 n left gp k : Nat) (s : List Nat) (os : List Pt) (W0 : World) (C0 : Ch W0 A gs cs gr go ob0 n left s os) (hn6 : n ≤ 56) (hs0 : ¬ setP left s) : Calls Try.prog 52 #[rowV (sV gs n cs) left, stoV gr go, .pointer (some ⟨gp, 0, none⟩)] W0 fun e W' => e = .panicked (chain1 (refV 190)) ∧ Below W0.heap.size W0 W' := by
  have C := Cs.refl C0
  clear C0
  have hn : n ≤ 1048576 := by omega
  have q := Below.refl W0.heap.size W0
  refine X.fn Try.func52 rfl (n := 35) rfl rfl ?_
  refine CC.seq ?_
  refine CC.region ?_
  refine LL.box [sV gs n cs, Value.int IntKind.u64 ↑left] rfl rfl rfl rfl rfl ?_
  intro W2 g3 eg3 r4 z5 b1
  replace C := C.up b1
  replace q := q.trans (b1.mono q.size)
  refine LL.nilS ?_
  refine CC.seq ?_
  refine CC.region ?_
  refine LL.val (R.load rfl rfl (I.ldNc (vs := [sV gs n cs, Value.int IntKind.u64 ↑left]) (RowL.cells r4 rfl) (by rfl) (by rfl))) rfl rfl rfl ?_
  refine LL.call (R.call rfl rfl rfl) rfl rfl rfl (settled_cF C hn _ (Below.refl _ _) hs0) ?_
  rintro e W7 ⟨rfl, b6⟩
  refine ⟨_, rfl, ?_⟩
  have zb6 := b6.size
  replace r4 := r4.up b6
  replace b1 := b1.trans (b6.mono b1.size)
  replace C := C.up b6
  replace q := q.trans (b6.mono q.size)
  refine LL.val (R.not rfl rfl) rfl rfl rfl ?_
  refine LL.callP (R.call rfl rfl rfl) rfl rfl (refuse_T _ _) ?_
  rintro e W10 ⟨rfl, rfl⟩
  refine ⟨_, rfl, ?_⟩
  refine EE.thenP ?_
  refine EE.pan ?_
  exact ⟨rfl, q⟩
theorem take1_N (A gs cs gr go ob0 n left gp k m : Nat) (s : List Nat) (os : List Pt) (W0 : World) (C0 : Ch W0 A gs cs gr go ob0 n left s os) (hn6 : n ≤ 56) (rp : RowL W0 gp 22 [.int .u64 (k : Int)]) (hs : Stl left s m) (hk : ∀ j, j < m → keyN s j ≠ k) : Calls Try.prog 52 #[rowV (sV gs n cs) left, stoV gr go, .pointer (some ⟨gp, 0, none⟩)] W0 fun e W' => e = .panicked (chain1 (refV 5)) ∧ Below W0.heap.size W0 W' := by
  have C := Cs.refl C0
  clear C0
  have hn : n ≤ 1048576 := by omega
  have q := Below.refl W0.heap.size W0
  have hf := find_stlF hs hk
  have hs0 := setP_iff.2 ⟨m, hs⟩
  refine X.fn Try.func52 rfl (n := 35) rfl rfl ?_
  refine CC.seq ?_
  refine CC.region ?_
  have l1 := rp.lt
  refine LL.box [sV gs n cs, Value.int IntKind.u64 ↑left] rfl rfl rfl rfl rfl ?_
  intro W3 g4 eg4 r5 z6 b2
  replace rp := rp.up b2
  replace C := C.up b2
  replace q := q.trans (b2.mono q.size)
  refine LL.nilS ?_
  refine CC.seq ?_
  refine CC.region ?_
  refine LL.val (R.load rfl rfl (I.ldNc (vs := [sV gs n cs, Value.int IntKind.u64 ↑left]) (RowL.cells r5 rfl) (by rfl) (by rfl))) rfl rfl rfl ?_
  refine LL.call (R.call rfl rfl rfl) rfl rfl rfl (settled_cT C hn _ (Below.refl _ _) hs0) ?_
  rintro e W8 ⟨rfl, b7⟩
  refine ⟨_, rfl, ?_⟩
  have zb7 := b7.size
  replace r5 := r5.up b7
  replace b2 := b2.trans (b7.mono b2.size)
  replace rp := rp.up b7
  replace C := C.up b7
  replace q := q.trans (b7.mono q.size)
  refine LL.val (R.not rfl rfl) rfl rfl rfl ?_
  refine LL.call (R.call rfl rfl rfl) rfl rfl rfl (refuse_F _ _) ?_
  rintro e W' ⟨rfl, rfl⟩
  refine ⟨_, rfl, ?_⟩
  refine LL.nilS ?_
  refine CC.seq ?_
  refine CC.region ?_
  refine LL.val (R.load rfl rfl (I.ldNc (vs := [sV gs n cs, Value.int IntKind.u64 ↑left]) (RowL.cells r5 rfl) (by rfl) (by rfl))) rfl rfl rfl ?_
  refine LL.val (R.load rfl rfl (I.ld1 rfl (RowL.cell rp rfl))) rfl rfl rfl ?_
  refine LL.call (R.call rfl rfl rfl) rfl rfl rfl (find_c C hn hf _ (Below.refl _ _)) ?_
  rintro e W11 ⟨rfl, b10⟩
  refine ⟨_, rfl, ?_⟩
  have zb10 := b10.size
  replace b7 := b7.trans (b10.mono b7.size)
  replace r5 := r5.up b10
  replace b2 := b2.trans (b10.mono b2.size)
  replace rp := rp.up b10
  replace C := C.up b10
  replace q := q.trans (b10.mono q.size)
  refine LL.val (R.move rfl rfl) rfl rfl rfl ?_
  refine LL.val (R.extract rfl rfl rfl) rfl rfl rfl ?_
  refine LL.val (R.extract rfl rfl rfl) rfl rfl rfl ?_
  refine LL.val (R.assign rfl rfl) rfl rfl rfl ?_
  refine LL.val (R.assign rfl rfl) rfl rfl rfl ?_
  refine LL.nilS ?_
  refine CC.seq ?_
  refine CC.region ?_
  refine LL.val (R.move rfl rfl) rfl rfl rfl ?_
  refine LL.val (R.not rfl rfl) rfl rfl rfl ?_
  refine LL.callP (R.call rfl rfl rfl) rfl rfl (refuse_T _ _) ?_
  rintro e W14 ⟨rfl, rfl⟩
  refine ⟨_, rfl, ?_⟩
  refine EE.thenP ?_
  refine EE.pan ?_
  exact ⟨rfl, q⟩
theorem take1_T (A gs cs gr go ob0 n left gp k m i : Nat) (s : List Nat) (os : List Pt) (W0 : World) (C0 : Ch W0 A gs cs gr go ob0 n left s os) (hn6 : n ≤ 56) (ho : os.length ≤ 900000) (rp : RowL W0 gp 22 [.int .u64 (k : Int)]) (hgp : gp ≠ gs ∧ gp ≠ go ∧ gp ≠ ob0) (hs : Stl left s m) (hi : i < m) (hk : keyN s i = k) : Calls Try.prog 52 #[rowV (sV gs n cs) left, stoV gr go, .pointer (some ⟨gp, 0, none⟩)] W0 fun e W' => e = .returned (.tuple #[]) ∧ ChP W0 A gs cs gr go ob0 n left (applyS s (takeL left s i m)) (os ++ takeL left s i m) W' := by
  have C := Cs.refl C0
  have hlt := C0.lt
  have hml := hs.lt
  rw [C0.len] at hml
  clear C0
  have hn : n ≤ 1048576 := by omega
  have hf := find_stlT hs hi hk
  have hs0 := setP_iff.2 ⟨m, hs⟩
  have hov := hs.over
  have hsh : shL (s.set (2 * i + 1) (aheadN left s i)) i m = shL s i m := shL_congr fun j hj => by
    rw [← applyS_one]
    exact ⟨keyN_ne fun p hp => by rw [List.mem_singleton.1 hp]; simp only [Int.toNat_natCast]; omega, ptrN_ne fun p hp => by rw [List.mem_singleton.1 hp]; simp only [Int.toNat_natCast]; omega⟩
  unfold takeL
  rw [applyS_app, applyS_one, ← List.append_assoc]
  have lgp := rp.lt
  refine X.fn Try.func52 rfl (n := 35) rfl rfl ?_
  refine CC.seq ?_
  refine CC.region ?_
  have l23 := rp.lt
  refine LL.box [sV gs n cs, Value.int IntKind.u64 ↑left] rfl rfl rfl rfl rfl ?_
  intro W25 g26 eg26 r27 z28 b24
  replace rp := rp.up b24
  replace C := C.up b24
  refine LL.nilS ?_
  refine CC.seq ?_
  refine CC.region ?_
  refine LL.val (R.load rfl rfl (I.ldNc (vs := [sV gs n cs, Value.int IntKind.u64 ↑left]) (RowL.cells r27 rfl) (by rfl) (by rfl))) rfl rfl rfl ?_
  refine LL.call (R.call rfl rfl rfl) rfl rfl rfl (settled_cT C hn _ (Below.refl _ _) hs0) ?_
  rintro e W76 ⟨rfl, b75⟩
  refine ⟨_, rfl, ?_⟩
  have zb75 := b75.size
  replace r27 := r27.up b75
  replace b24 := b24.trans (b75.mono b24.size)
  replace rp := rp.up b75
  replace C := C.up b75
  refine LL.val (R.not rfl rfl) rfl rfl rfl ?_
  refine LL.call (R.call rfl rfl rfl) rfl rfl rfl (refuse_F _ _) ?_
  rintro e W' ⟨rfl, rfl⟩
  refine ⟨_, rfl, ?_⟩
  refine LL.nilS ?_
  refine CC.seq ?_
  refine CC.region ?_
  refine LL.val (R.load rfl rfl (I.ldNc (vs := [sV gs n cs, Value.int IntKind.u64 ↑left]) (RowL.cells r27 rfl) (by rfl) (by rfl))) rfl rfl rfl ?_
  refine LL.val (R.load rfl rfl (I.ld1 rfl (RowL.cell rp rfl))) rfl rfl rfl ?_
  refine LL.call (R.call rfl rfl rfl) rfl rfl rfl (find_c C hn hf _ (Below.refl _ _)) ?_
  rintro e W194 ⟨rfl, b193⟩
  refine ⟨_, rfl, ?_⟩
  have zb193 := b193.size
  replace b75 := b75.trans (b193.mono b75.size)
  replace r27 := r27.up b193
  replace b24 := b24.trans (b193.mono b24.size)
  replace rp := rp.up b193
  replace C := C.up b193
  refine LL.val (R.move rfl rfl) rfl rfl rfl ?_
  refine LL.val (R.extract rfl rfl rfl) rfl rfl rfl ?_
  refine LL.val (R.extract rfl rfl rfl) rfl rfl rfl ?_
  refine LL.val (R.assign rfl rfl) rfl rfl rfl ?_
  refine LL.val (R.assign rfl rfl) rfl rfl rfl ?_
  refine LL.nilS ?_
  refine CC.seq ?_
  refine CC.region ?_
  refine LL.val (R.move rfl rfl) rfl rfl rfl ?_
  refine LL.val (R.not rfl rfl) rfl rfl rfl ?_
  refine LL.call (R.call rfl rfl rfl) rfl rfl rfl (refuse_F _ _) ?_
  rintro e W' ⟨rfl, rfl⟩
  refine ⟨_, rfl, ?_⟩
  refine LL.nilS ?_
  refine CC.seq ?_
  refine CC.region ?_
  refine LL.val (R.load rfl rfl (I.ldNc (vs := [sV gs n cs, Value.int IntKind.u64 ↑left]) (RowL.cells r27 rfl) (by rfl) (by rfl))) rfl rfl rfl ?_
  have l407 := r27.lt
  have l408 := rp.lt
  (refine LL.call (R.call rfl rfl rfl) rfl rfl rfl (over_c C hn _ (Below.refl _ _)) ?_; rintro e W406 ⟨rfl, b403⟩; refine ⟨_, rfl, ?_⟩; rw [hov])
  have zb403 := b403.size
  replace b193 := b193.trans (b403.mono b193.size)
  replace b75 := b75.trans (b403.mono b75.size)
  replace r27 := r27.up b403
  replace b24 := b24.trans (b403.mono b24.size)
  replace rp := rp.up b403
  replace C := C.up b403
  refine LL.val (R.assign rfl rfl) rfl rfl rfl ?_
  refine LL.nilS ?_
  refine CC.seq ?_
  refine CC.growT 6 (by kernel_rfl) (by kernel_rfl) ?_
  refine GG.val (fun w' b' => R.move rfl rfl) rfl rfl ?_
  refine GG.val (fun w' b' => R.move rfl rfl) rfl rfl ?_
  refine GG.call (fun w' => (R.call rfl rfl rfl)) rfl rfl (fun w' b' => (ptrWord_any _ w' (by first | assumption | omega)).mono fun e W' h => ⟨h.1, h.2 ▸ b'⟩) ?_
  refine GG.val (fun w' b' => R.load rfl rfl (I.ldNc (vs := [sV gs n cs, Value.int IntKind.u64 ↑left]) (RowL.cells (r27.up b') rfl) (by rfl) (by rfl))) rfl rfl ?_
  refine GG.val (fun w' b' => R.move rfl rfl) rfl rfl ?_
  refine GG.call (fun w' => (R.call rfl rfl rfl)) rfl rfl (fun w' b' => (ahead_c C hn w' b' (by omega)).mono fun e W' h => ⟨h.1, b'.trans (h.2.mono b'.size)⟩) ?_
  refine GG.nil (fun W565 b564 => ?_)
  have zb564 := b564.size
  replace b403 := b403.trans (b564.mono b403.size)
  replace b193 := b193.trans (b564.mono b193.size)
  replace b75 := b75.trans (b564.mono b75.size)
  replace r27 := r27.up b564
  replace b24 := b24.trans (b564.mono b24.size)
  replace rp := rp.up b564
  replace C := C.up b564
  (have lgr0 := rp.lt; refine LL.call (R.callV rfl rfl rfl rfl) rfl rfl rfl (store_any A gs cs gr go _ n left _ _ _ _ _ C.ch (by omega) hn (by first | omega | (simp only [List.length_append, List.length_cons, List.length_nil]; omega))) ?_; rintro e W578 ⟨rfl, ob2, C2, hob2, t577⟩; refine ⟨_, rfl, ?_⟩; replace C := C.then C2 hob2 t577; clear C2; have hbn0 : ob2 ≠ gp := (by omega); clear hob2)
  have zt577 := t577.size
  replace r27 := r27.kept t577 ⟨r27.lt, by omega⟩
  replace rp := rp.kept t577 ⟨rp.lt, by omega⟩
  refine LL.nilS ?_
  refine CC.region ?_
  refine LL.val (R.load rfl rfl (I.ldNc (vs := [sV gs n cs, Value.int IntKind.u64 ↑left]) (RowL.cells r27 rfl) (by rfl) (by rfl))) rfl rfl rfl ?_
  refine LL.val (R.move rfl rfl) rfl rfl rfl ?_
  refine LL.val (R.move rfl rfl) rfl rfl rfl ?_
  refine LL.val (R.move rfl rfl) rfl rfl rfl ?_
  (refine LL.call (R.call rfl rfl rfl) rfl rfl rfl (shift_any A gs cs gr go _ n left i m _ _ _ C.ch hn6 (by simp only [List.length_append, List.length_cons, List.length_nil]; omega) hi (by omega)) ?_; rintro e W693 ⟨rfl, ob2, C2, hob2, t692⟩; refine ⟨_, rfl, ?_⟩; replace C := C.then C2 hob2 t692; clear C2 hob2; rw [hsh] at C)
  have zt692 := t692.size
  replace rp := rp.kept t692 ⟨rp.lt, by omega⟩
  refine LL.nil ?_
  refine EE.end _ rfl rfl ?_
  exact ⟨rfl, C.p⟩
/-- Put's stores that make room. -/
def upK (s : List Nat) (n : Nat) : Nat → List Pt
  | 0 => []
  | t + 1 => upK s n t ++ [(((2 * (n - 1 - t + 1) + 1 : Nat) : Int), ptrN s (n - 1 - t)), (((2 * (n - 1 - t + 1) : Nat) : Int), keyN s (n - 1 - t))]
theorem upK_len (s : List Nat) (n : Nat) : ∀ t, (upK s n t).length = 2 * t
  | 0 => rfl
  | t + 1 => by unfold upK; rw [List.length_append, upK_len s n t]; simp; omega
theorem upK_ge {s : List Nat} {n : Nat} : ∀ {t : Nat}, t ≤ n → ∀ p ∈ upK s n t, 2 * (n - t) + 2 ≤ p.1.toNat
  | 0, _, p, h => by simp [upK] at h
  | t + 1, ht, p, h => by
    unfold upK at h
    rcases List.mem_append.1 h with h | h
    · have := upK_ge (by omega) p h
      omega
    · simp only [List.mem_cons, List.not_mem_nil, or_false] at h
      rcases h with rfl | rfl <;> simp only [Int.toNat_natCast] <;> omega
def putA (s : List Nat) (m t : Nat) : List Pt := [(((2 * (m + 1) + 1 : Nat) : Int), 0)] ++ upK s m t
theorem putA_ge {s : List Nat} {m t : Nat} (ht : t ≤ m) : ∀ p ∈ putA s m t, 2 * (m - t) + 2 ≤ p.1.toNat := fun p hp => by
  rcases List.mem_append.1 hp with hp | hp
  · rw [List.mem_singleton.1 hp]; simp only [Int.toNat_natCast]; omega
  · exact upK_ge ht p hp
def putL (left : Nat) (s : List Nat) (m i k p : Nat) : List Pt := putA s m (m - i) ++ [(((2 * i + 1 : Nat) : Int), aheadN left s i)] ++ [(((2 * i : Nat) : Int), k)] ++ [(((2 * i + 1 : Nat) : Int), p)]
end Go.Proofs.Ytfpcpnodcdgbdaa

/- slots: Put: what the change does. -/
namespace Go.Proofs.Ytfpcpnodcdgbdaa
set_option linter.unusedVariables false
set_option linter.unusedSimpArgs false
open Go.RowKit Go.Shelf
set_option maxRecDepth 100000
set_option maxHeartbeats 8000000
theorem put1_E (A gs cs gr go ob0 n left gp k p c : Nat) (s : List Nat) (os : List Pt) (W0 : World) (C0 : Ch W0 A gs cs gr go ob0 n left s os) (hn6 : n ≤ 56) (rp : RowL W0 gp 41 [.int .u64 (k : Int), .int .u64 (p : Int)]) (hE : rpE left s p c) : Calls Try.prog 39 #[rowV (sV gs n cs) left, stoV gr go, .pointer (some ⟨gp, 0, none⟩)] W0 fun e W' => e = .panicked (chain1 (refV c)) ∧ Below W0.heap.size W0 W' := by
  have C := Cs.refl C0
  clear C0
  have hn : n ≤ 1048576 := by omega
  have q := Below.refl W0.heap.size W0
  refine X.fn Try.func39 rfl (n := 101) rfl rfl ?_
  refine CC.seq ?_
  refine CC.region ?_
  have l1 := rp.lt
  refine LL.box [sV gs n cs, Value.int IntKind.u64 ↑left] rfl rfl rfl rfl rfl ?_
  intro W3 g4 eg4 r5 z6 b2
  replace rp := rp.up b2
  replace C := C.up b2
  replace q := q.trans (b2.mono q.size)
  refine LL.nilS ?_
  refine CC.seq ?_
  refine CC.region ?_
  refine LL.val (R.load rfl rfl (I.ldNc (vs := [sV gs n cs, Value.int IntKind.u64 ↑left]) (RowL.cells r5 rfl) (by rfl) (by rfl))) rfl rfl rfl ?_
  refine LL.val (R.field rfl rfl (I.fld rfl)) rfl rfl rfl ?_
  refine LL.val (R.load rfl rfl (I.ld1 rfl (RowL.cell rp rfl))) rfl rfl rfl ?_
  refine LL.callP (R.call rfl rfl rfl) rfl rfl (rp_cE C hn hE) ?_
  rintro e W8 ⟨rfl, b7⟩
  refine ⟨_, rfl, ?_⟩
  have zb7 := b7.size
  replace r5 := r5.up b7
  replace b2 := b2.trans (b7.mono b2.size)
  replace rp := rp.up b7
  replace C := C.up b7
  replace q := q.trans (b7.mono q.size)
  refine EE.thenP ?_
  refine EE.pan ?_
  exact ⟨rfl, q⟩
theorem put1_W (A gs cs gr go ob0 n left gp k p m i : Nat) (s : List Nat) (os : List Pt) (W0 : World) (C0 : Ch W0 A gs cs gr go ob0 n left s os) (hn6 : n ≤ 56) (rp : RowL W0 gp 41 [.int .u64 (k : Int), .int .u64 (p : Int)]) (hp : p ≠ 0 ∧ p ≠ left) (hs : Stl left s m) (hne : ∀ j, j < m → ptrN s j ≠ p) (hi : i < m) (hk : keyN s i = k) : Calls Try.prog 39 #[rowV (sV gs n cs) left, stoV gr go, .pointer (some ⟨gp, 0, none⟩)] W0 fun e W' => e = .panicked (chain1 (refV 191)) ∧ Below W0.heap.size W0 W' := by
  have C := Cs.refl C0
  clear C0
  have hn : n ≤ 1048576 := by omega
  have q := Below.refl W0.heap.size W0
  have hf := find_stlT hs hi hk
  refine X.fn Try.func39 rfl (n := 101) rfl rfl ?_
  refine CC.seq ?_
  refine CC.region ?_
  have l1 := rp.lt
  refine LL.box [sV gs n cs, Value.int IntKind.u64 ↑left] rfl rfl rfl rfl rfl ?_
  intro W3 g4 eg4 r5 z6 b2
  replace rp := rp.up b2
  replace C := C.up b2
  replace q := q.trans (b2.mono q.size)
  refine LL.nilS ?_
  refine CC.seq ?_
  refine CC.region ?_
  refine LL.val (R.load rfl rfl (I.ldNc (vs := [sV gs n cs, Value.int IntKind.u64 ↑left]) (RowL.cells r5 rfl) (by rfl) (by rfl))) rfl rfl rfl ?_
  refine LL.val (R.field rfl rfl (I.fld rfl)) rfl rfl rfl ?_
  refine LL.val (R.load rfl rfl (I.ld1 rfl (RowL.cell rp rfl))) rfl rfl rfl ?_
  refine LL.call (R.call rfl rfl rfl) rfl rfl rfl (rp_cT C hn hp hs hne) ?_
  rintro e W8 ⟨rfl, b7⟩
  refine ⟨_, rfl, ?_⟩
  have zb7 := b7.size
  replace r5 := r5.up b7
  replace b2 := b2.trans (b7.mono b2.size)
  replace rp := rp.up b7
  replace C := C.up b7
  replace q := q.trans (b7.mono q.size)
  refine LL.nilS ?_
  refine CC.seq ?_
  refine CC.region ?_
  refine LL.val (R.load rfl rfl (I.ldNc (vs := [sV gs n cs, Value.int IntKind.u64 ↑left]) (RowL.cells r5 rfl) (by rfl) (by rfl))) rfl rfl rfl ?_
  refine LL.val (R.field rfl rfl (I.fld rfl)) rfl rfl rfl ?_
  refine LL.val (R.load rfl rfl (I.ld1 rfl (RowL.cell rp rfl))) rfl rfl rfl ?_
  refine LL.call (R.call rfl rfl rfl) rfl rfl rfl (find_c C hn hf _ (Below.refl _ _)) ?_
  rintro e W11 ⟨rfl, b10⟩
  refine ⟨_, rfl, ?_⟩
  have zb10 := b10.size
  replace b7 := b7.trans (b10.mono b7.size)
  replace r5 := r5.up b10
  replace b2 := b2.trans (b10.mono b2.size)
  replace rp := rp.up b10
  replace C := C.up b10
  replace q := q.trans (b10.mono q.size)
  refine LL.val (R.move rfl rfl) rfl rfl rfl ?_
  refine LL.val (R.extract rfl rfl rfl) rfl rfl rfl ?_
  refine LL.val (R.extract rfl rfl rfl) rfl rfl rfl ?_
  refine LL.val (R.assign rfl rfl) rfl rfl rfl ?_
  refine LL.val (R.assign rfl rfl) rfl rfl rfl ?_
  refine LL.nilS ?_
  refine CC.seq ?_
  refine CC.region ?_
  refine LL.val (R.move rfl rfl) rfl rfl rfl ?_
  refine LL.callP (R.call rfl rfl rfl) rfl rfl (refuse_T _ _) ?_
  rintro e W14 ⟨rfl, rfl⟩
  refine ⟨_, rfl, ?_⟩
  refine EE.thenP ?_
  refine EE.pan ?_
  exact ⟨rfl, q⟩
theorem put1_L (A gs cs gr go ob0 n left gp k p m : Nat) (s : List Nat) (os : List Pt) (W0 : World) (C0 : Ch W0 A gs cs gr go ob0 n left s os) (hn6 : n ≤ 56) (rp : RowL W0 gp 41 [.int .u64 (k : Int), .int .u64 (p : Int)]) (hp : p ≠ 0 ∧ p ≠ left) (hs : Stl left s m) (hne : ∀ j, j < m → ptrN s j ≠ p) (hk : ∀ j, j < m → keyN s j ≠ k) (hm : m = n / 2 - 1) : Calls Try.prog 39 #[rowV (sV gs n cs) left, stoV gr go, .pointer (some ⟨gp, 0, none⟩)] W0 fun e W' => e = .panicked (chain1 (refV 3)) ∧ Below W0.heap.size W0 W' := by
  have C := Cs.refl C0
  have hml := hs.lt
  rw [C0.len] at hml
  clear C0
  have hn : n ≤ 1048576 := by omega
  have q := Below.refl W0.heap.size W0
  have hf := find_stlF hs hk
  have hov := hs.over
  refine X.fn Try.func39 rfl (n := 101) rfl rfl ?_
  refine CC.seq ?_
  refine CC.region ?_
  have l9 := rp.lt
  refine LL.box [sV gs n cs, Value.int IntKind.u64 ↑left] rfl rfl rfl rfl rfl ?_
  intro W11 g12 eg12 r13 z14 b10
  replace rp := rp.up b10
  replace C := C.up b10
  replace q := q.trans (b10.mono q.size)
  refine LL.nilS ?_
  refine CC.seq ?_
  refine CC.region ?_
  refine LL.val (R.load rfl rfl (I.ldNc (vs := [sV gs n cs, Value.int IntKind.u64 ↑left]) (RowL.cells r13 rfl) (by rfl) (by rfl))) rfl rfl rfl ?_
  refine LL.val (R.field rfl rfl (I.fld rfl)) rfl rfl rfl ?_
  refine LL.val (R.load rfl rfl (I.ld1 rfl (RowL.cell rp rfl))) rfl rfl rfl ?_
  refine LL.call (R.call rfl rfl rfl) rfl rfl rfl (rp_cT C hn hp hs hne) ?_
  rintro e W52 ⟨rfl, b51⟩
  refine ⟨_, rfl, ?_⟩
  have zb51 := b51.size
  replace r13 := r13.up b51
  replace b10 := b10.trans (b51.mono b10.size)
  replace rp := rp.up b51
  replace C := C.up b51
  replace q := q.trans (b51.mono q.size)
  refine LL.nilS ?_
  refine CC.seq ?_
  refine CC.region ?_
  refine LL.val (R.load rfl rfl (I.ldNc (vs := [sV gs n cs, Value.int IntKind.u64 ↑left]) (RowL.cells r13 rfl) (by rfl) (by rfl))) rfl rfl rfl ?_
  refine LL.val (R.field rfl rfl (I.fld rfl)) rfl rfl rfl ?_
  refine LL.val (R.load rfl rfl (I.ld1 rfl (RowL.cell rp rfl))) rfl rfl rfl ?_
  refine LL.call (R.call rfl rfl rfl) rfl rfl rfl (find_c C hn hf _ (Below.refl _ _)) ?_
  rintro e W91 ⟨rfl, b90⟩
  refine ⟨_, rfl, ?_⟩
  have zb90 := b90.size
  replace b51 := b51.trans (b90.mono b51.size)
  replace r13 := r13.up b90
  replace b10 := b10.trans (b90.mono b10.size)
  replace rp := rp.up b90
  replace C := C.up b90
  replace q := q.trans (b90.mono q.size)
  refine LL.val (R.move rfl rfl) rfl rfl rfl ?_
  refine LL.val (R.extract rfl rfl rfl) rfl rfl rfl ?_
  refine LL.val (R.extract rfl rfl rfl) rfl rfl rfl ?_
  refine LL.val (R.assign rfl rfl) rfl rfl rfl ?_
  refine LL.val (R.assign rfl rfl) rfl rfl rfl ?_
  refine LL.nilS ?_
  refine CC.seq ?_
  refine CC.region ?_
  refine LL.val (R.move rfl rfl) rfl rfl rfl ?_
  refine LL.call (R.call rfl rfl rfl) rfl rfl rfl (refuse_F _ _) ?_
  rintro e W' ⟨rfl, rfl⟩
  refine ⟨_, rfl, ?_⟩
  refine LL.nilS ?_
  refine CC.seq ?_
  refine CC.region ?_
  refine LL.val (R.load rfl rfl (I.ldNc (vs := [sV gs n cs, Value.int IntKind.u64 ↑left]) (RowL.cells r13 rfl) (by rfl) (by rfl))) rfl rfl rfl ?_
  have l169 := r13.lt
  have l170 := rp.lt
  (refine LL.call (R.call rfl rfl rfl) rfl rfl rfl (over_c C hn _ (Below.refl _ _)) ?_; rintro e W168 ⟨rfl, b165⟩; refine ⟨_, rfl, ?_⟩; rw [hov])
  have zb165 := b165.size
  replace b90 := b90.trans (b165.mono b90.size)
  replace b51 := b51.trans (b165.mono b51.size)
  replace r13 := r13.up b165
  replace b10 := b10.trans (b165.mono b10.size)
  replace rp := rp.up b165
  replace C := C.up b165
  replace q := q.trans (b165.mono q.size)
  refine LL.val (R.assign rfl rfl) rfl rfl rfl ?_
  refine LL.val (R.assign rfl rfl) rfl rfl rfl ?_
  refine LL.nilS ?_
  refine CC.seq ?_
  refine CC.region ?_
  refine LL.val (R.move rfl rfl) rfl rfl rfl ?_
  refine LL.val (R.field rfl rfl (I.fld rfl)) rfl rfl rfl ?_
  refine LL.val (R.load rfl rfl (I.ldNc (vs := [sV gs n cs]) (RowL.cells r13 rfl) (by rfl) (by rfl))) rfl rfl rfl ?_
  refine LL.call (R.call rfl rfl rfl) rfl rfl rfl (many_any _ _ _ _ (by first | assumption | omega)) ?_
  rintro e W229 ⟨rfl, b228⟩
  refine ⟨_, rfl, ?_⟩
  have zb228 := b228.size
  replace b165 := b165.trans (b228.mono b165.size)
  replace b90 := b90.trans (b228.mono b90.size)
  replace b51 := b51.trans (b228.mono b51.size)
  replace r13 := r13.up b228
  replace b10 := b10.trans (b228.mono b10.size)
  replace rp := rp.up b228
  replace C := C.up b228
  replace q := q.trans (b228.mono q.size)
  refine LL.val (R.subNc rfl rfl rfl rfl (by omega) (by omega)) rfl rfl rfl ?_
  refine LL.val (R.eqT rfl rfl rfl (by omega)) rfl rfl rfl ?_
  refine LL.callP (R.call rfl rfl rfl) rfl rfl (refuse_T _ _) ?_
  rintro e W259 ⟨rfl, rfl⟩
  refine ⟨_, rfl, ?_⟩
  refine EE.thenP ?_
  refine EE.pan ?_
  exact ⟨rfl, q⟩
theorem put1_T (A gs cs gr go ob0 n left gp k p m i : Nat) (s : List Nat) (os : List Pt) (W0 : World) (C0 : Ch W0 A gs cs gr go ob0 n left s os) (hn6 : n ≤ 56) (ho : os.length ≤ 900000) (rp : RowL W0 gp 41 [.int .u64 (k : Int), .int .u64 (p : Int)]) (hgp : gp ≠ gs ∧ gp ≠ go ∧ gp ≠ ob0) (hp : p ≠ 0 ∧ p ≠ left) (hs : Stl left s m) (hne : ∀ j, j < m → ptrN s j ≠ p) (hk : ∀ j, j < m → keyN s j ≠ k) (hm : m + 1 < n / 2) (hi : i ≤ m) (hi2 : ∀ j, j < i → keyN s j < k) (hi3 : i = m ∨ k < keyN s i) : Calls Try.prog 39 #[rowV (sV gs n cs) left, stoV gr go, .pointer (some ⟨gp, 0, none⟩)] W0 fun e W' => e = .returned (.tuple #[]) ∧ ChP W0 A gs cs gr go ob0 n left (applyS s (putL left s m i k p)) (os ++ putL left s m i k p) W' := by
  have C := Cs.refl C0
  have hlt := C0.lt
  clear C0
  have hn : n ≤ 1048576 := by omega
  have hf := find_stlF hs hk
  have hov := hs.over
  have lgp := rp.lt
  refine X.fn Try.func39 rfl (n := 101) rfl rfl ?_
  refine CC.seq ?_
  refine CC.region ?_
  have l9 := rp.lt
  refine LL.box [sV gs n cs, Value.int IntKind.u64 ↑left] rfl rfl rfl rfl rfl ?_
  intro W11 g12 eg12 r13 z14 b10
  replace rp := rp.up b10
  replace C := C.up b10
  refine LL.nilS ?_
  refine CC.seq ?_
  refine CC.region ?_
  refine LL.val (R.load rfl rfl (I.ldNc (vs := [sV gs n cs, Value.int IntKind.u64 ↑left]) (RowL.cells r13 rfl) (by rfl) (by rfl))) rfl rfl rfl ?_
  refine LL.val (R.field rfl rfl (I.fld rfl)) rfl rfl rfl ?_
  refine LL.val (R.load rfl rfl (I.ld1 rfl (RowL.cell rp rfl))) rfl rfl rfl ?_
  refine LL.call (R.call rfl rfl rfl) rfl rfl rfl (rp_cT C hn hp hs hne) ?_
  rintro e W52 ⟨rfl, b51⟩
  refine ⟨_, rfl, ?_⟩
  have zb51 := b51.size
  replace r13 := r13.up b51
  replace b10 := b10.trans (b51.mono b10.size)
  replace rp := rp.up b51
  replace C := C.up b51
  refine LL.nilS ?_
  refine CC.seq ?_
  refine CC.region ?_
  refine LL.val (R.load rfl rfl (I.ldNc (vs := [sV gs n cs, Value.int IntKind.u64 ↑left]) (RowL.cells r13 rfl) (by rfl) (by rfl))) rfl rfl rfl ?_
  refine LL.val (R.field rfl rfl (I.fld rfl)) rfl rfl rfl ?_
  refine LL.val (R.load rfl rfl (I.ld1 rfl (RowL.cell rp rfl))) rfl rfl rfl ?_
  refine LL.call (R.call rfl rfl rfl) rfl rfl rfl (find_c C hn hf _ (Below.refl _ _)) ?_
  rintro e W91 ⟨rfl, b90⟩
  refine ⟨_, rfl, ?_⟩
  have zb90 := b90.size
  replace b51 := b51.trans (b90.mono b51.size)
  replace r13 := r13.up b90
  replace b10 := b10.trans (b90.mono b10.size)
  replace rp := rp.up b90
  replace C := C.up b90
  refine LL.val (R.move rfl rfl) rfl rfl rfl ?_
  refine LL.val (R.extract rfl rfl rfl) rfl rfl rfl ?_
  refine LL.val (R.extract rfl rfl rfl) rfl rfl rfl ?_
  refine LL.val (R.assign rfl rfl) rfl rfl rfl ?_
  refine LL.val (R.assign rfl rfl) rfl rfl rfl ?_
  refine LL.nilS ?_
  refine CC.seq ?_
  refine CC.region ?_
  refine LL.val (R.move rfl rfl) rfl rfl rfl ?_
  refine LL.call (R.call rfl rfl rfl) rfl rfl rfl (refuse_F _ _) ?_
  rintro e W' ⟨rfl, rfl⟩
  refine ⟨_, rfl, ?_⟩
  refine LL.nilS ?_
  refine CC.seq ?_
  refine CC.region ?_
  refine LL.val (R.load rfl rfl (I.ldNc (vs := [sV gs n cs, Value.int IntKind.u64 ↑left]) (RowL.cells r13 rfl) (by rfl) (by rfl))) rfl rfl rfl ?_
  have l169 := r13.lt
  have l170 := rp.lt
  (refine LL.call (R.call rfl rfl rfl) rfl rfl rfl (over_c C hn _ (Below.refl _ _)) ?_; rintro e W168 ⟨rfl, b165⟩; refine ⟨_, rfl, ?_⟩; rw [hov])
  have zb165 := b165.size
  replace b90 := b90.trans (b165.mono b90.size)
  replace b51 := b51.trans (b165.mono b51.size)
  replace r13 := r13.up b165
  replace b10 := b10.trans (b165.mono b10.size)
  replace rp := rp.up b165
  replace C := C.up b165
  refine LL.val (R.assign rfl rfl) rfl rfl rfl ?_
  refine LL.val (R.assign rfl rfl) rfl rfl rfl ?_
  refine LL.nilS ?_
  refine CC.seq ?_
  refine CC.region ?_
  refine LL.val (R.move rfl rfl) rfl rfl rfl ?_
  refine LL.val (R.field rfl rfl (I.fld rfl)) rfl rfl rfl ?_
  refine LL.val (R.load rfl rfl (I.ldNc (vs := [sV gs n cs]) (RowL.cells r13 rfl) (by rfl) (by rfl))) rfl rfl rfl ?_
  refine LL.call (R.call rfl rfl rfl) rfl rfl rfl (many_any _ _ _ _ (by first | assumption | omega)) ?_
  rintro e W229 ⟨rfl, b228⟩
  refine ⟨_, rfl, ?_⟩
  have zb228 := b228.size
  replace b165 := b165.trans (b228.mono b165.size)
  replace b90 := b90.trans (b228.mono b90.size)
  replace b51 := b51.trans (b228.mono b51.size)
  replace r13 := r13.up b228
  replace b10 := b10.trans (b228.mono b10.size)
  replace rp := rp.up b228
  replace C := C.up b228
  refine LL.val (R.subNc rfl rfl rfl rfl (by omega) (by omega)) rfl rfl rfl ?_
  refine LL.val (R.eqF rfl rfl rfl (by omega)) rfl rfl rfl ?_
  refine LL.call (R.call rfl rfl rfl) rfl rfl rfl (refuse_F _ _) ?_
  rintro e W' ⟨rfl, rfl⟩
  refine ⟨_, rfl, ?_⟩
  refine LL.nilS ?_
  refine CC.seq ?_
  refine CC.block ?_
  refine CC.loop (α := Nat) (fun j => [(1, stoV gr go), (2, .pointer (some ⟨gp, 0, none⟩)), (3, .pointer (some ⟨g12, 0, none⟩)), (7, .int .i64 (m : Int)), (8, .int .i64 (j : Int))])
    (fun j W => j ≤ i ∧ RowL W g12 65 [sV gs n cs, .int .u64 (left : Int)] ∧ RowL W gp 41 [.int .u64 (k : Int), .int .u64 (p : Int)] ∧ Cs W0 A gs cs gr go ob0 n left s os ob0 W) (fun j => i - j)
    0 ⟨rfl, rfl, rfl, rfl, rfl, trivial⟩ ⟨Nat.zero_le _, r13, rp, C⟩ ?_
  clear r13 rp C b10 b51 b90 b165 b228
  rintro j W ⟨hj, r13, rp, C⟩
  show CC none Try.prog _ 101 [] (sl [(1, stoV gr go), (2, .pointer (some ⟨gp, 0, none⟩)), (3, .pointer (some ⟨g12, 0, none⟩)), (7, .int .i64 (m : Int)), (8, .int .i64 (j : Int))]) _ W
  by_cases hji : j < i
  case pos =>
    have hkj := hi2 j hji
    refine CC.seq ?_
    refine CC.seq ?_
    refine CC.grow (by kernel_rfl) (by kernel_rfl) ?_
    refine GG.val (fun w' b' => R.move rfl rfl) rfl rfl ?_
    refine GG.val (fun w' b' => R.move rfl rfl) rfl rfl ?_
    refine GG.val (fun w' b' => R.ltT rfl rfl rfl (by omega)) rfl rfl ?_
    refine GG.val (fun w' b' => R.move rfl rfl) rfl rfl ?_
    refine GG.val (fun w' b' => R.field rfl rfl (I.fld rfl)) rfl rfl ?_
    refine GG.val (fun w' b' => R.load rfl rfl (I.ldNc (vs := [sV gs n cs]) (RowL.cells (r13.up b') rfl) (by rfl) (by rfl))) rfl rfl ?_
    refine GG.val (fun w' b' => R.move rfl rfl) rfl rfl ?_
    refine GG.call (fun w' => (R.call rfl rfl rfl)) rfl rfl (fun w' b' => (key_c C hn w' b' (by omega)).mono fun e W' h => ⟨h.1, b'.trans (h.2.mono b'.size)⟩) ?_
    refine GG.val (fun w' b' => R.field rfl rfl (I.fld rfl)) rfl rfl ?_
    refine GG.val (fun w' b' => R.load rfl rfl (I.ld1 rfl (RowL.cell (rp.up b') rfl))) rfl rfl ?_
    refine GG.val (fun w' b' => R.ltT rfl rfl rfl (by omega)) rfl rfl ?_
    refine GG.val (fun w' b' => R.pick rfl rfl rfl) rfl rfl ?_
    refine GG.nilQ (fun Wa5 ba4 => ?_)
    have zba4 := ba4.size
    replace r13 := r13.up ba4
    replace rp := rp.up ba4
    replace C := C.up ba4
    refine EE.thenN ?_
    refine CC.yes rfl ?_
    refine CC.skip ?_
    refine EE.thenN ?_
    refine CC.block ?_
    refine CC.region ?_
    refine LL.val (R.move rfl rfl) rfl rfl rfl ?_
    refine LL.val (R.addNc rfl rfl rfl rfl (by omega)) rfl rfl rfl ?_
    refine LL.val (R.assign rfl rfl) rfl rfl rfl ?_
    refine LL.nil ?_
    refine EE.inN ?_
    exact EE.round (j + 1) ⟨rfl, rfl, rfl, rfl, rfl, trivial⟩ ⟨by show j + 1 ≤ i; omega, r13, rp, C⟩ (by show i - (j + 1) < i - j; omega)
  obtain rfl : j = i := by omega
  clear hj hji hi2
  have zkp := C.kp.size
  have lg12 := r13.lt
  have C' : Cs W0 A gs cs gr go ob0 n left (applyS s (putA s m 0)) (os ++ putA s m 0) ob0 W ∨ True := .inr trivial
  clear C'
  have e0 : s.set (2 * (m + 1) + 1) 0 = applyS s (putA s m 0) := by
    unfold putA upK
    rw [List.append_nil, applyS_one]
  have e1 : os ++ [(((2 * (m + 1) + 1 : Nat) : Int), 0)] = os ++ putA s m 0 := by
    unfold putA upK
    rw [List.append_nil]
  have eK : ∀ t, t ≤ m → ∀ j, j + 1 = m - t → ptrN (applyS s (putA s m t)) j = ptrN s j ∧ ∀ v, keyN ((applyS s (putA s m t)).set (2 * (j + 1) + 1) v) j = keyN s j := fun t ht j hj => by
    refine ⟨ptrN_ne fun p hp => by have := putA_ge ht p hp; omega, fun v => ?_⟩
    rw [← applyS_one, ← applyS_app]
    refine keyN_ne fun p hp => ?_
    rcases List.mem_append.1 hp with hp | hp
    · have := putA_ge ht p hp; omega
    · rw [List.mem_singleton.1 hp]; simp only [Int.toNat_natCast]; omega
  have eS : ∀ t j, j + 1 = m - t → ((applyS s (putA s m t)).set (2 * (j + 1) + 1) (ptrN s j)).set (2 * (j + 1)) (keyN s j) = applyS s (putA s m (t + 1)) ∧ os ++ putA s m t ++ [(((2 * (j + 1) + 1 : Nat) : Int), ptrN s j)] ++ [(((2 * (j + 1) : Nat) : Int), keyN s j)] = os ++ putA s m (t + 1) := fun t j hj => by
    have ej : m - 1 - t = j := by omega
    have e : putA s m (t + 1) = putA s m t ++ ([(((2 * (j + 1) + 1 : Nat) : Int), ptrN s j)] ++ [(((2 * (j + 1) : Nat) : Int), keyN s j)]) := by
      unfold putA
      show _ ++ (upK s m t ++ _) = _
      rw [ej, List.append_assoc]
      rfl
    rw [e, applyS_app, applyS_app, applyS_one, applyS_one]
    refine ⟨rfl, by simp only [List.append_assoc]⟩
  have eA : aheadN left (applyS s (putA s m (m - j))) j = aheadN left s j := by
    unfold aheadN
    split
    · rfl
    · exact ptrN_ne fun p hp => by have := putA_ge (by omega) p hp; omega
  have eL : (((applyS s (putA s m (m - j))).set (2 * j + 1) (aheadN left s j)).set (2 * j) k).set (2 * j + 1) p = applyS s (putL left s m j k p) ∧ os ++ putA s m (m - j) ++ [(((2 * j + 1 : Nat) : Int), aheadN left s j)] ++ [(((2 * j : Nat) : Int), k)] ++ [(((2 * j + 1 : Nat) : Int), p)] = os ++ putL left s m j k p := by
    unfold putL
    rw [applyS_app, applyS_app, applyS_app, applyS_one, applyS_one, applyS_one]
    refine ⟨rfl, by simp only [List.append_assoc]⟩
  have lA : ∀ t, t ≤ m → (putA s m t).length ≤ 200 := fun t ht => by unfold putA; rw [List.length_append, upK_len]; simp; omega
  have hi4 : j = m ∨ (j < m ∧ k < keyN s j) := by omega
  clear hi3
  rcases hi4 with rfl | ⟨hjm, hki⟩
  · refine CC.seq ?_
    refine CC.seq ?_
    refine CC.grow (by kernel_rfl) (by kernel_rfl) ?_
    refine GG.val (fun w' b' => R.move rfl rfl) rfl rfl ?_
    refine GG.val (fun w' b' => R.move rfl rfl) rfl rfl ?_
    refine GG.val (fun w' b' => R.ltF rfl rfl rfl (by omega)) rfl rfl ?_
    refine GG.val (fun w' b' => R.move rfl rfl) rfl rfl ?_
    refine GG.skip rfl rfl ?_
    refine GG.skip rfl rfl ?_
    refine GG.skip rfl rfl ?_
    refine GG.skip rfl rfl ?_
    refine GG.skip rfl rfl ?_
    refine GG.skip rfl rfl ?_
    refine GG.skip rfl rfl ?_
    refine GG.val (fun w' b' => R.pick rfl rfl rfl) rfl rfl ?_
    refine GG.nilQ (fun Wb40 bb39 => ?_)
    have zbb39 := bb39.size
    replace r13 := r13.up bb39
    replace rp := rp.up bb39
    replace C := C.up bb39
    refine EE.thenN ?_
    refine CC.no rfl ?_
    refine CC.exit ?_
    refine EE.thenX ?_
    refine EE.thenX ?_
    refine EE.inX ?_
    refine EE.thenN ?_
    refine CC.seq ?_
    refine CC.seq ?_
    refine CC.region ?_
    refine LL.val (R.move rfl rfl) rfl rfl rfl ?_
    refine LL.val (R.addNc rfl rfl rfl rfl (by omega)) rfl rfl rfl ?_
    refine LL.val (R.field rfl rfl (I.fld rfl)) rfl rfl rfl ?_
    refine LL.val (R.load rfl rfl (I.ldNc (vs := [sV gs n cs]) (RowL.cells r13 rfl) (by rfl) (by rfl))) rfl rfl rfl ?_
    refine LL.call (R.call rfl rfl rfl) rfl rfl rfl (many_any _ _ _ _ (by first | assumption | omega)) ?_
    rintro e Wb77 ⟨rfl, bb76⟩
    refine ⟨_, rfl, ?_⟩
    have zbb76 := bb76.size
    replace bb39 := bb39.trans (bb76.mono bb39.size)
    replace r13 := r13.up bb76
    replace rp := rp.up bb76
    replace C := C.up bb76
    refine LL.val (R.ltT rfl rfl rfl (by omega)) rfl rfl rfl ?_
    refine LL.nilS ?_
    refine CC.yes rfl ?_
    refine CC.region ?_
    refine LL.val (R.move rfl rfl) rfl rfl rfl ?_
    refine LL.val (R.move rfl rfl) rfl rfl rfl ?_
    refine LL.val (R.addNc rfl rfl rfl rfl (by omega)) rfl rfl rfl ?_
    refine LL.call (R.call rfl rfl rfl) rfl rfl rfl (ptrWord_any _ _ (by first | assumption | omega)) ?_
    rintro e W' ⟨rfl, rfl⟩
    refine ⟨_, rfl, ?_⟩
    (have lgr0 := rp.lt; have lgr1 := r13.lt; refine LL.call (R.callV rfl rfl rfl rfl) rfl rfl rfl (store_any A gs cs gr go _ n left _ _ _ _ _ C.ch (by omega) hn (by first | omega | (simp only [List.length_append, List.length_cons, List.length_nil]; omega))) ?_; rintro e Wb117 ⟨rfl, ob2, C2, hob2, tb116⟩; refine ⟨_, rfl, ?_⟩; replace C := C.then C2 hob2 tb116; clear C2; have hbn0 : ob2 ≠ gp := (by omega); have hbn1 : ob2 ≠ g12 := (by omega); clear hob2)
    have ztb116 := tb116.size
    replace r13 := r13.kept tb116 ⟨r13.lt, by omega⟩
    replace rp := rp.kept tb116 ⟨rp.lt, by omega⟩
    refine LL.nilS ?_
    refine CC.seq ?_
    refine CC.seq ?_
    refine CC.region ?_
    refine LL.val (R.move rfl rfl) rfl rfl rfl ?_
    refine LL.val (R.subI rfl rfl rfl (by omega)) rfl rfl rfl ?_
    refine LL.val (R.assign rfl rfl) rfl rfl rfl ?_
    refine LL.nilS ?_
    refine CC.block ?_
    rw [e0, e1] at C
    refine CC.loop (α := Nat × Nat × Int) (fun q => [(1, stoV gr go), (2, .pointer (some ⟨gp, 0, none⟩)), (3, .pointer (some ⟨g12, 0, none⟩)), (8, .int .i64 (j : Int)), (9, .int .i64 q.2.2)])
      (fun q W => q.1 ≤ j - j ∧ RowL W g12 65 [sV gs n cs, .int .u64 (left : Int)] ∧ RowL W gp 41 [.int .u64 (k : Int), .int .u64 (p : Int)] ∧ Cs W0 A gs cs gr go ob0 n left (applyS s (putA s j q.1)) (os ++ putA s j q.1) q.2.1 W ∧ q.2.1 ≠ gp ∧ q.2.1 ≠ g12 ∧ q.2.2 = ((j - q.1 : Nat) : Int) - 1) (fun q => j - q.1)
      (0, ob2, _) ⟨rfl, rfl, rfl, rfl, rfl, trivial⟩ ⟨Nat.zero_le _, r13, rp, C, hbn0, hbn1, by dsimp only; omega⟩ ?_
    clear r13 rp C hbn0 hbn1
    rintro ⟨t, ob, z⟩ W ⟨ht', r13, rp, C, hbn0, hbn1, hz⟩
    simp only at ht' C hbn0 hbn1 hz
    have ht : t ≤ j := by omega
    have zkp2 := C.kp.size
    show CC none Try.prog _ 101 [] (sl [(1, stoV gr go), (2, .pointer (some ⟨gp, 0, none⟩)), (3, .pointer (some ⟨g12, 0, none⟩)), (8, .int .i64 (j : Int)), (9, .int .i64 z)]) _ W
    by_cases htl : t < j - j
    case pos =>
      exact absurd htl (by omega)
    obtain rfl : t = j - j := by omega
    refine CC.seq ?_
    refine CC.seq ?_
    refine CC.region ?_
    refine LL.val (R.move rfl rfl) rfl rfl rfl ?_
    refine LL.val (R.move rfl rfl) rfl rfl rfl ?_
    refine LL.val (R.geF rfl rfl rfl (by omega)) rfl rfl rfl ?_
    refine LL.nilS ?_
    refine CC.no rfl ?_
    refine CC.exit ?_
    refine EE.thenX ?_
    refine EE.thenX ?_
    refine EE.inX ?_
    refine EE.thenN ?_
    refine CC.seq ?_
    refine CC.growT 6 (by kernel_rfl) (by kernel_rfl) ?_
    refine GG.val (fun w' b' => R.move rfl rfl) rfl rfl ?_
    refine GG.val (fun w' b' => R.move rfl rfl) rfl rfl ?_
    refine GG.call (fun w' => (R.call rfl rfl rfl)) rfl rfl (fun w' b' => (ptrWord_any _ w' (by first | assumption | omega)).mono fun e W' h => ⟨h.1, h.2 ▸ b'⟩) ?_
    refine GG.val (fun w' b' => R.load rfl rfl (I.ldNc (vs := [sV gs n cs, Value.int IntKind.u64 ↑left]) (RowL.cells (r13.up b') rfl) (by rfl) (by rfl))) rfl rfl ?_
    refine GG.val (fun w' b' => R.move rfl rfl) rfl rfl ?_
    refine GG.call (fun w' => (R.call rfl rfl rfl)) rfl rfl (fun w' b' => (ahead_c C hn w' b' (by omega)).mono fun e W' h => ⟨h.1, b'.trans (h.2.mono b'.size)⟩) ?_
    refine GG.nil (fun Wc68 bc67 => ?_)
    have zbc67 := bc67.size
    replace r13 := r13.up bc67
    replace rp := rp.up bc67
    replace C := C.up bc67
    (have lgr0 := rp.lt; have lgr1 := r13.lt; refine LL.call (R.callV rfl rfl rfl rfl) rfl rfl rfl (store_any A gs cs gr go _ n left _ _ _ _ _ C.ch (by omega) hn (by first | omega | (have := lA _ ht; simp only [List.length_append, List.length_cons, List.length_nil]; omega))) ?_; rintro e Wc72 ⟨rfl, ob2, C2, hob2, tc71⟩; refine ⟨_, rfl, ?_⟩; replace C := C.then C2 hob2 tc71; clear C2; have hbn0 : ob2 ≠ gp := (by omega); have hbn1 : ob2 ≠ g12 := (by omega); clear hob2)
    have ztc71 := tc71.size
    replace r13 := r13.kept tc71 ⟨r13.lt, by omega⟩
    replace rp := rp.kept tc71 ⟨rp.lt, by omega⟩
    refine LL.nilS ?_
    refine CC.seq ?_
    refine CC.growT 5 (by kernel_rfl) (by kernel_rfl) ?_
    refine GG.val (fun w' b' => R.move rfl rfl) rfl rfl ?_
    refine GG.val (fun w' b' => R.move rfl rfl) rfl rfl ?_
    refine GG.call (fun w' => (R.call rfl rfl rfl)) rfl rfl (fun w' b' => (keyWord_any _ w' (by first | assumption | omega)).mono fun e W' h => ⟨h.1, h.2 ▸ b'⟩) ?_
    refine GG.val (fun w' b' => R.field rfl rfl (I.fld rfl)) rfl rfl ?_
    refine GG.val (fun w' b' => R.load rfl rfl (I.ld1 rfl (RowL.cell (rp.up b') rfl))) rfl rfl ?_
    refine GG.nil (fun Wc115 bc114 => ?_)
    have zbc114 := bc114.size
    replace C := C.up bc114
    replace r13 := r13.up bc114
    replace rp := rp.up bc114
    (have lgr0 := rp.lt; have lgr1 := r13.lt; refine LL.call (R.callV rfl rfl rfl rfl) rfl rfl rfl (store_any A gs cs gr go _ n left _ _ _ _ _ C.ch (by omega) hn (by first | omega | (have := lA _ ht; simp only [List.length_append, List.length_cons, List.length_nil]; omega))) ?_; rintro e Wc119 ⟨rfl, ob2, C2, hob2, tc118⟩; refine ⟨_, rfl, ?_⟩; replace C := C.then C2 hob2 tc118; clear C2; have hbn0 : ob2 ≠ gp := (by omega); have hbn1 : ob2 ≠ g12 := (by omega); clear hob2)
    have ztc118 := tc118.size
    replace r13 := r13.kept tc118 ⟨r13.lt, by omega⟩
    replace rp := rp.kept tc118 ⟨rp.lt, by omega⟩
    refine LL.nilS ?_
    refine CC.growT 5 (by kernel_rfl) (by kernel_rfl) ?_
    refine GG.val (fun w' b' => R.move rfl rfl) rfl rfl ?_
    refine GG.val (fun w' b' => R.move rfl rfl) rfl rfl ?_
    refine GG.call (fun w' => (R.call rfl rfl rfl)) rfl rfl (fun w' b' => (ptrWord_any _ w' (by first | assumption | omega)).mono fun e W' h => ⟨h.1, h.2 ▸ b'⟩) ?_
    refine GG.val (fun w' b' => R.field rfl rfl (I.fld rfl)) rfl rfl ?_
    refine GG.val (fun w' b' => R.load rfl rfl (I.ld1 rfl (RowL.cell (rp.up b') rfl))) rfl rfl ?_
    refine GG.nil (fun Wc162 bc161 => ?_)
    have zbc161 := bc161.size
    replace C := C.up bc161
    replace r13 := r13.up bc161
    replace rp := rp.up bc161
    (have lgr0 := rp.lt; have lgr1 := r13.lt; refine LL.call (R.callV rfl rfl rfl rfl) rfl rfl rfl (store_any A gs cs gr go _ n left _ _ _ _ _ C.ch (by omega) hn (by first | omega | (have := lA _ ht; simp only [List.length_append, List.length_cons, List.length_nil]; omega))) ?_; rintro e Wc166 ⟨rfl, ob2, C2, hob2, tc165⟩; refine ⟨_, rfl, ?_⟩; replace C := C.then C2 hob2 tc165; clear C2; have hbn0 : ob2 ≠ gp := (by omega); have hbn1 : ob2 ≠ g12 := (by omega); clear hob2)
    have ztc165 := tc165.size
    replace r13 := r13.kept tc165 ⟨r13.lt, by omega⟩
    replace rp := rp.kept tc165 ⟨rp.lt, by omega⟩
    refine LL.nil ?_
    refine EE.end _ rfl rfl ?_
    exact ⟨rfl, (C.os_eq (by rw [eA]; exact eL.1) (by rw [eA]; exact eL.2)).p⟩
  · refine CC.seq ?_
    refine CC.seq ?_
    refine CC.grow (by kernel_rfl) (by kernel_rfl) ?_
    refine GG.val (fun w' b' => R.move rfl rfl) rfl rfl ?_
    refine GG.val (fun w' b' => R.move rfl rfl) rfl rfl ?_
    refine GG.val (fun w' b' => R.ltT rfl rfl rfl (by omega)) rfl rfl ?_
    refine GG.val (fun w' b' => R.move rfl rfl) rfl rfl ?_
    refine GG.val (fun w' b' => R.field rfl rfl (I.fld rfl)) rfl rfl ?_
    refine GG.val (fun w' b' => R.load rfl rfl (I.ldNc (vs := [sV gs n cs]) (RowL.cells (r13.up b') rfl) (by rfl) (by rfl))) rfl rfl ?_
    refine GG.val (fun w' b' => R.move rfl rfl) rfl rfl ?_
    refine GG.call (fun w' => (R.call rfl rfl rfl)) rfl rfl (fun w' b' => (key_c C hn w' b' (by omega)).mono fun e W' h => ⟨h.1, b'.trans (h.2.mono b'.size)⟩) ?_
    refine GG.val (fun w' b' => R.field rfl rfl (I.fld rfl)) rfl rfl ?_
    refine GG.val (fun w' b' => R.load rfl rfl (I.ld1 rfl (RowL.cell (rp.up b') rfl))) rfl rfl ?_
    refine GG.val (fun w' b' => R.ltF rfl rfl rfl (by omega)) rfl rfl ?_
    refine GG.val (fun w' b' => R.pick rfl rfl rfl) rfl rfl ?_
    refine GG.nilQ (fun Wd89 bd88 => ?_)
    have zbd88 := bd88.size
    replace r13 := r13.up bd88
    replace rp := rp.up bd88
    replace C := C.up bd88
    refine EE.thenN ?_
    refine CC.no rfl ?_
    refine CC.exit ?_
    refine EE.thenX ?_
    refine EE.thenX ?_
    refine EE.inX ?_
    refine EE.thenN ?_
    refine CC.seq ?_
    refine CC.seq ?_
    refine CC.region ?_
    refine LL.val (R.move rfl rfl) rfl rfl rfl ?_
    refine LL.val (R.addNc rfl rfl rfl rfl (by omega)) rfl rfl rfl ?_
    refine LL.val (R.field rfl rfl (I.fld rfl)) rfl rfl rfl ?_
    refine LL.val (R.load rfl rfl (I.ldNc (vs := [sV gs n cs]) (RowL.cells r13 rfl) (by rfl) (by rfl))) rfl rfl rfl ?_
    refine LL.call (R.call rfl rfl rfl) rfl rfl rfl (many_any _ _ _ _ (by first | assumption | omega)) ?_
    rintro e Wd126 ⟨rfl, bd125⟩
    refine ⟨_, rfl, ?_⟩
    have zbd125 := bd125.size
    replace bd88 := bd88.trans (bd125.mono bd88.size)
    replace r13 := r13.up bd125
    replace rp := rp.up bd125
    replace C := C.up bd125
    refine LL.val (R.ltT rfl rfl rfl (by omega)) rfl rfl rfl ?_
    refine LL.nilS ?_
    refine CC.yes rfl ?_
    refine CC.region ?_
    refine LL.val (R.move rfl rfl) rfl rfl rfl ?_
    refine LL.val (R.move rfl rfl) rfl rfl rfl ?_
    refine LL.val (R.addNc rfl rfl rfl rfl (by omega)) rfl rfl rfl ?_
    refine LL.call (R.call rfl rfl rfl) rfl rfl rfl (ptrWord_any _ _ (by first | assumption | omega)) ?_
    rintro e W' ⟨rfl, rfl⟩
    refine ⟨_, rfl, ?_⟩
    (have lgr0 := rp.lt; have lgr1 := r13.lt; refine LL.call (R.callV rfl rfl rfl rfl) rfl rfl rfl (store_any A gs cs gr go _ n left _ _ _ _ _ C.ch (by omega) hn (by first | omega | (simp only [List.length_append, List.length_cons, List.length_nil]; omega))) ?_; rintro e Wd166 ⟨rfl, ob2, C2, hob2, td165⟩; refine ⟨_, rfl, ?_⟩; replace C := C.then C2 hob2 td165; clear C2; have hbn0 : ob2 ≠ gp := (by omega); have hbn1 : ob2 ≠ g12 := (by omega); clear hob2)
    have ztd165 := td165.size
    replace r13 := r13.kept td165 ⟨r13.lt, by omega⟩
    replace rp := rp.kept td165 ⟨rp.lt, by omega⟩
    refine LL.nilS ?_
    refine CC.seq ?_
    refine CC.seq ?_
    refine CC.region ?_
    refine LL.val (R.move rfl rfl) rfl rfl rfl ?_
    refine LL.val (R.subNc rfl rfl rfl rfl (by omega) (by omega)) rfl rfl rfl ?_
    refine LL.val (R.assign rfl rfl) rfl rfl rfl ?_
    refine LL.nilS ?_
    refine CC.block ?_
    rw [e0, e1] at C
    refine CC.loop (α := Nat × Nat × Int) (fun q => [(1, stoV gr go), (2, .pointer (some ⟨gp, 0, none⟩)), (3, .pointer (some ⟨g12, 0, none⟩)), (8, .int .i64 (j : Int)), (9, .int .i64 q.2.2)])
      (fun q W => q.1 ≤ m - j ∧ RowL W g12 65 [sV gs n cs, .int .u64 (left : Int)] ∧ RowL W gp 41 [.int .u64 (k : Int), .int .u64 (p : Int)] ∧ Cs W0 A gs cs gr go ob0 n left (applyS s (putA s m q.1)) (os ++ putA s m q.1) q.2.1 W ∧ q.2.1 ≠ gp ∧ q.2.1 ≠ g12 ∧ q.2.2 = ((m - q.1 : Nat) : Int) - 1) (fun q => m - q.1)
      (0, ob2, _) ⟨rfl, rfl, rfl, rfl, rfl, trivial⟩ ⟨Nat.zero_le _, r13, rp, C, hbn0, hbn1, by have h : ((m - 1 : Nat) : Int) = ((m - 0 : Nat) : Int) - 1 := (by omega); exact h⟩ ?_
    clear r13 rp C hbn0 hbn1
    rintro ⟨t, ob, z⟩ W ⟨ht', r13, rp, C, hbn0, hbn1, hz⟩
    simp only at ht' C hbn0 hbn1 hz
    have ht : t ≤ m := by omega
    have zkp2 := C.kp.size
    show CC none Try.prog _ 101 [] (sl [(1, stoV gr go), (2, .pointer (some ⟨gp, 0, none⟩)), (3, .pointer (some ⟨g12, 0, none⟩)), (8, .int .i64 (j : Int)), (9, .int .i64 z)]) _ W
    by_cases htl : t < m - j
    case pos =>
      obtain ⟨i, hi'⟩ : ∃ i, i + 1 = m - t := ⟨m - t - 1, by omega⟩
      obtain ⟨e3, e4⟩ := eK t ht i hi'
      obtain ⟨e5, e6⟩ := eS t i hi'
      obtain rfl : z = (i : Int) := by omega
      clear eK eS eA eL
      refine CC.seq ?_
      refine CC.seq ?_
      refine CC.region ?_
      refine LL.val (R.move rfl rfl) rfl rfl rfl ?_
      refine LL.val (R.move rfl rfl) rfl rfl rfl ?_
      refine LL.val (R.geT rfl rfl rfl (by omega)) rfl rfl rfl ?_
      refine LL.nilS ?_
      refine CC.yes rfl ?_
      refine CC.skip ?_
      refine EE.thenN ?_
      refine CC.seq ?_
      refine CC.block ?_
      refine CC.seq ?_
      refine CC.growT 8 (by kernel_rfl) (by kernel_rfl) ?_
      refine GG.val (fun w' b' => R.move rfl rfl) rfl rfl ?_
      refine GG.val (fun w' b' => R.move rfl rfl) rfl rfl ?_
      refine GG.val (fun w' b' => R.addNc rfl rfl rfl rfl (by omega)) rfl rfl ?_
      refine GG.call (fun w' => (R.call rfl rfl rfl)) rfl rfl (fun w' b' => (ptrWord_any _ w' (by first | assumption | omega)).mono fun e W' h => ⟨h.1, h.2 ▸ b'⟩) ?_
      refine GG.val (fun w' b' => R.field rfl rfl (I.fld rfl)) rfl rfl ?_
      refine GG.val (fun w' b' => R.load rfl rfl (I.ldNc (vs := [sV gs n cs]) (RowL.cells (r13.up b') rfl) (by rfl) (by rfl))) rfl rfl ?_
      refine GG.val (fun w' b' => R.move rfl rfl) rfl rfl ?_
      refine GG.call (fun w' => (R.call rfl rfl rfl)) rfl rfl (fun w' b' => (ptr_c C hn w' b' (by omega)).mono fun e W' h => ⟨h.1, b'.trans (h.2.mono b'.size)⟩) ?_
      refine GG.nil (fun We82 be81 => ?_)
      have zbe81 := be81.size
      replace r13 := r13.up be81
      replace rp := rp.up be81
      replace C := C.up be81
      (have lgr0 := rp.lt; have lgr1 := r13.lt; refine LL.call (R.callV rfl rfl rfl rfl) rfl rfl rfl (store_any A gs cs gr go _ n left _ _ _ _ _ C.ch (by omega) hn (by first | omega | (have := lA _ ht; simp only [List.length_append, List.length_cons, List.length_nil]; omega))) ?_; rintro e We86 ⟨rfl, ob2, C2, hob2, te85⟩; refine ⟨_, rfl, ?_⟩; replace C := C.then C2 hob2 te85; clear C2; have hbn0 : ob2 ≠ gp := (by omega); have hbn1 : ob2 ≠ g12 := (by omega); clear hob2)
      have zte85 := te85.size
      replace r13 := r13.kept te85 ⟨r13.lt, by omega⟩
      replace rp := rp.kept te85 ⟨rp.lt, by omega⟩
      refine LL.nilS ?_
      refine CC.growT 8 (by kernel_rfl) (by kernel_rfl) ?_
      refine GG.val (fun w' b' => R.move rfl rfl) rfl rfl ?_
      refine GG.val (fun w' b' => R.move rfl rfl) rfl rfl ?_
      refine GG.val (fun w' b' => R.addNc rfl rfl rfl rfl (by omega)) rfl rfl ?_
      refine GG.call (fun w' => (R.call rfl rfl rfl)) rfl rfl (fun w' b' => (keyWord_any _ w' (by first | assumption | omega)).mono fun e W' h => ⟨h.1, h.2 ▸ b'⟩) ?_
      refine GG.val (fun w' b' => R.field rfl rfl (I.fld rfl)) rfl rfl ?_
      refine GG.val (fun w' b' => R.load rfl rfl (I.ldNc (vs := [sV gs n cs]) (RowL.cells (r13.up b') rfl) (by rfl) (by rfl))) rfl rfl ?_
      refine GG.val (fun w' b' => R.move rfl rfl) rfl rfl ?_
      refine GG.call (fun w' => (R.call rfl rfl rfl)) rfl rfl (fun w' b' => (key_c C hn w' b' (by omega)).mono fun e W' h => ⟨h.1, b'.trans (h.2.mono b'.size)⟩) ?_
      refine GG.nil (fun We150 be149 => ?_)
      have zbe149 := be149.size
      replace C := C.up be149
      replace r13 := r13.up be149
      replace rp := rp.up be149
      (have lgr0 := rp.lt; have lgr1 := r13.lt; refine LL.call (R.callV rfl rfl rfl rfl) rfl rfl rfl (store_any A gs cs gr go _ n left _ _ _ _ _ C.ch (by omega) hn (by first | omega | (have := lA _ ht; simp only [List.length_append, List.length_cons, List.length_nil]; omega))) ?_; rintro e We154 ⟨rfl, ob2, C2, hob2, te153⟩; refine ⟨_, rfl, ?_⟩; replace C := C.then C2 hob2 te153; clear C2; have hbn0 : ob2 ≠ gp := (by omega); have hbn1 : ob2 ≠ g12 := (by omega); clear hob2)
      have zte153 := te153.size
      replace r13 := r13.kept te153 ⟨r13.lt, by omega⟩
      replace rp := rp.kept te153 ⟨rp.lt, by omega⟩
      refine LL.nil ?_
      refine EE.inN ?_
      refine EE.thenN ?_
      refine CC.region ?_
      refine LL.val (R.move rfl rfl) rfl rfl rfl ?_
      refine LL.val (R.subI rfl rfl rfl (by omega)) rfl rfl rfl ?_
      refine LL.val (R.assign rfl rfl) rfl rfl rfl ?_
      refine LL.nil ?_
      exact EE.round (t + 1, _, _) ⟨rfl, rfl, rfl, rfl, rfl, trivial⟩ ⟨by show t + 1 ≤ m - j; omega, r13, rp, C.os_eq (by rw [e4, e3]; exact e5) (by rw [e4, e3]; exact e6), hbn0, hbn1, by dsimp only; omega⟩ (by show m - (t + 1) < m - t; omega)
    obtain rfl : t = m - j := by omega
    refine CC.seq ?_
    refine CC.seq ?_
    refine CC.region ?_
    refine LL.val (R.move rfl rfl) rfl rfl rfl ?_
    refine LL.val (R.move rfl rfl) rfl rfl rfl ?_
    refine LL.val (R.geF rfl rfl rfl (by omega)) rfl rfl rfl ?_
    refine LL.nilS ?_
    refine CC.no rfl ?_
    refine CC.exit ?_
    refine EE.thenX ?_
    refine EE.thenX ?_
    refine EE.inX ?_
    refine EE.thenN ?_
    refine CC.seq ?_
    refine CC.growT 6 (by kernel_rfl) (by kernel_rfl) ?_
    refine GG.val (fun w' b' => R.move rfl rfl) rfl rfl ?_
    refine GG.val (fun w' b' => R.move rfl rfl) rfl rfl ?_
    refine GG.call (fun w' => (R.call rfl rfl rfl)) rfl rfl (fun w' b' => (ptrWord_any _ w' (by first | assumption | omega)).mono fun e W' h => ⟨h.1, h.2 ▸ b'⟩) ?_
    refine GG.val (fun w' b' => R.load rfl rfl (I.ldNc (vs := [sV gs n cs, Value.int IntKind.u64 ↑left]) (RowL.cells (r13.up b') rfl) (by rfl) (by rfl))) rfl rfl ?_
    refine GG.val (fun w' b' => R.move rfl rfl) rfl rfl ?_
    refine GG.call (fun w' => (R.call rfl rfl rfl)) rfl rfl (fun w' b' => (ahead_c C hn w' b' (by omega)).mono fun e W' h => ⟨h.1, b'.trans (h.2.mono b'.size)⟩) ?_
    refine GG.nil (fun Wf68 bf67 => ?_)
    have zbf67 := bf67.size
    replace r13 := r13.up bf67
    replace rp := rp.up bf67
    replace C := C.up bf67
    (have lgr0 := rp.lt; have lgr1 := r13.lt; refine LL.call (R.callV rfl rfl rfl rfl) rfl rfl rfl (store_any A gs cs gr go _ n left _ _ _ _ _ C.ch (by omega) hn (by first | omega | (have := lA _ ht; simp only [List.length_append, List.length_cons, List.length_nil]; omega))) ?_; rintro e Wf72 ⟨rfl, ob2, C2, hob2, tf71⟩; refine ⟨_, rfl, ?_⟩; replace C := C.then C2 hob2 tf71; clear C2; have hbn0 : ob2 ≠ gp := (by omega); have hbn1 : ob2 ≠ g12 := (by omega); clear hob2)
    have ztf71 := tf71.size
    replace r13 := r13.kept tf71 ⟨r13.lt, by omega⟩
    replace rp := rp.kept tf71 ⟨rp.lt, by omega⟩
    refine LL.nilS ?_
    refine CC.seq ?_
    refine CC.growT 5 (by kernel_rfl) (by kernel_rfl) ?_
    refine GG.val (fun w' b' => R.move rfl rfl) rfl rfl ?_
    refine GG.val (fun w' b' => R.move rfl rfl) rfl rfl ?_
    refine GG.call (fun w' => (R.call rfl rfl rfl)) rfl rfl (fun w' b' => (keyWord_any _ w' (by first | assumption | omega)).mono fun e W' h => ⟨h.1, h.2 ▸ b'⟩) ?_
    refine GG.val (fun w' b' => R.field rfl rfl (I.fld rfl)) rfl rfl ?_
    refine GG.val (fun w' b' => R.load rfl rfl (I.ld1 rfl (RowL.cell (rp.up b') rfl))) rfl rfl ?_
    refine GG.nil (fun Wf115 bf114 => ?_)
    have zbf114 := bf114.size
    replace C := C.up bf114
    replace r13 := r13.up bf114
    replace rp := rp.up bf114
    (have lgr0 := rp.lt; have lgr1 := r13.lt; refine LL.call (R.callV rfl rfl rfl rfl) rfl rfl rfl (store_any A gs cs gr go _ n left _ _ _ _ _ C.ch (by omega) hn (by first | omega | (have := lA _ ht; simp only [List.length_append, List.length_cons, List.length_nil]; omega))) ?_; rintro e Wf119 ⟨rfl, ob2, C2, hob2, tf118⟩; refine ⟨_, rfl, ?_⟩; replace C := C.then C2 hob2 tf118; clear C2; have hbn0 : ob2 ≠ gp := (by omega); have hbn1 : ob2 ≠ g12 := (by omega); clear hob2)
    have ztf118 := tf118.size
    replace r13 := r13.kept tf118 ⟨r13.lt, by omega⟩
    replace rp := rp.kept tf118 ⟨rp.lt, by omega⟩
    refine LL.nilS ?_
    refine CC.growT 5 (by kernel_rfl) (by kernel_rfl) ?_
    refine GG.val (fun w' b' => R.move rfl rfl) rfl rfl ?_
    refine GG.val (fun w' b' => R.move rfl rfl) rfl rfl ?_
    refine GG.call (fun w' => (R.call rfl rfl rfl)) rfl rfl (fun w' b' => (ptrWord_any _ w' (by first | assumption | omega)).mono fun e W' h => ⟨h.1, h.2 ▸ b'⟩) ?_
    refine GG.val (fun w' b' => R.field rfl rfl (I.fld rfl)) rfl rfl ?_
    refine GG.val (fun w' b' => R.load rfl rfl (I.ld1 rfl (RowL.cell (rp.up b') rfl))) rfl rfl ?_
    refine GG.nil (fun Wf162 bf161 => ?_)
    have zbf161 := bf161.size
    replace C := C.up bf161
    replace r13 := r13.up bf161
    replace rp := rp.up bf161
    (have lgr0 := rp.lt; have lgr1 := r13.lt; refine LL.call (R.callV rfl rfl rfl rfl) rfl rfl rfl (store_any A gs cs gr go _ n left _ _ _ _ _ C.ch (by omega) hn (by first | omega | (have := lA _ ht; simp only [List.length_append, List.length_cons, List.length_nil]; omega))) ?_; rintro e Wf166 ⟨rfl, ob2, C2, hob2, tf165⟩; refine ⟨_, rfl, ?_⟩; replace C := C.then C2 hob2 tf165; clear C2; have hbn0 : ob2 ≠ gp := (by omega); have hbn1 : ob2 ≠ g12 := (by omega); clear hob2)
    have ztf165 := tf165.size
    replace r13 := r13.kept tf165 ⟨r13.lt, by omega⟩
    replace rp := rp.kept tf165 ⟨rp.lt, by omega⟩
    refine LL.nil ?_
    refine EE.end _ rfl rfl ?_
    exact ⟨rfl, (C.os_eq (by rw [eA]; exact eL.1) (by rw [eA]; exact eL.2)).p⟩
end Go.Proofs.Ytfpcpnodcdgbdaa

/- slots: Tidy: what the change does. -/
namespace Go.Proofs.Ytfpcpnodcdgbdaa
set_option linter.unusedVariables false
set_option linter.unusedSimpArgs false
open Go.RowKit Go.Shelf
/-- The first slot that counts for nothing. -/
def dblO (left : Nat) (s : List Nat) : Option Nat := (List.range (overN s)).find? fun j => ptrN s j == aheadN left s j
theorem dblO_some {left : Nat} {s : List Nat} {d : Nat} (h : dblO left s = some d) : d < overN s ∧ ptrN s d = aheadN left s d := by
  have h1 := List.mem_range.1 (List.mem_of_find?_eq_some h)
  have h2 := List.find?_some h
  exact ⟨h1, by simpa using h2⟩
theorem dblO_none {left : Nat} {s : List Nat} (h : dblO left s = none) : ∀ j, j < overN s → ptrN s j ≠ aheadN left s j := fun j hj => by
  have := List.find?_eq_none.1 h j (List.mem_range.2 hj)
  simpa using this
theorem dblO_at {left : Nat} {s : List Nat} {d : Nat} (hd : d < overN s) (h : ptrN s d = aheadN left s d) (hb : ∀ j, j < d → ptrN s j ≠ aheadN left s j) : dblO left s = some d := by
  unfold dblO
  have e : List.range (overN s) = List.range d ++ ((List.range (overN s - d)).map (d + ·)) := by rw [← List.range_add]; congr 1; omega
  rw [e, List.find?_append, List.find?_eq_none.2 fun y hy => by simpa using hb y (List.mem_range.1 hy)]
  obtain ⟨k, hk⟩ : ∃ k, overN s - d = k + 1 := ⟨overN s - d - 1, by omega⟩
  rw [hk, List.range_succ_eq_map]
  simp [h]
theorem dblO_no {left : Nat} {s : List Nat} (h : ∀ j, j < overN s → ptrN s j ≠ aheadN left s j) : dblO left s = none :=
  List.find?_eq_none.2 fun j hj => by simpa using h j (List.mem_range.1 hj)
def tdO (left : Nat) : Nat → List Nat → List Pt
  | 0, _ => []
  | f + 1, s => match dblO left s with
    | none => []
    | some d => shL s d (overN s) ++ tdO left f (applyS s (shL s d (overN s)))
theorem shL_len (s : List Nat) (d m : Nat) (h : d < m) : (shL s d m).length ≤ 2 * m := by unfold shL; rw [List.length_append, shK_len]; simp; omega
theorem tdO_len {left : Nat} : ∀ {f : Nat} {s : List Nat}, s.length ≤ 56 → (tdO left f s).length ≤ f * 56
  | 0, _, _ => by simp [tdO]
  | f + 1, s, h => by
    unfold tdO
    split
    · simp
    · rename_i d hd
      have h1 := (dblO_some hd).1
      have h2 := over_le s
      have h3 := shL_len s d (overN s) h1
      have h4 := tdO_len (left := left) (f := f) (s := applyS s (shL s d (overN s))) (by rw [applyS_len]; exact h)
      rw [List.length_append]
      omega
/-- What a shift leaves. -/
theorem shK_get {s : List Nat} {d : Nat} : ∀ {k : Nat}, 2 * (d + k) < s.length → ∀ j, (d ≤ j → j < d + k → ptrN (applyS s (shK s d k)) j = ptrN s (j + 1) ∧ keyN (applyS s (shK s d k)) j = keyN s (j + 1)) ∧ ((j < d ∨ d + k ≤ j) → ptrN (applyS s (shK s d k)) j = ptrN s j ∧ keyN (applyS s (shK s d k)) j = keyN s j)
  | 0, _, j => ⟨fun h1 h2 => by omega, fun _ => ⟨rfl, rfl⟩⟩
  | k + 1, hl, j => by
    have ih := shK_get (s := s) (d := d) (k := k) (by omega) j
    have e : applyS s (shK s d (k + 1)) = ((applyS s (shK s d k)).set (2 * (d + k)) (keyN s (d + k + 1))).set (2 * (d + k) + 1) (ptrN s (d + k + 1)) := by
      show applyS s (shK s d k ++ ([(((2 * (d + k) : Nat) : Int), keyN s (d + k + 1))] ++ [(((2 * (d + k) + 1 : Nat) : Int), ptrN s (d + k + 1))])) = _
      rw [applyS_app, applyS_app, applyS_one, applyS_one]
    have hl' : (applyS s (shK s d k)).length = s.length := applyS_len _ _
    by_cases hj : j = d + k
    · subst hj
      refine ⟨fun _ _ => ?_, fun h => by omega⟩
      rw [e]
      unfold ptrN keyN
      constructor
      · rw [List.getElem?_set_self (by rw [List.length_set]; omega)]
        rfl
      · rw [List.getElem?_set_ne (by omega), List.getElem?_set_self (by omega)]
        rfl
    · have hp : ptrN (applyS s (shK s d (k + 1))) j = ptrN (applyS s (shK s d k)) j ∧ keyN (applyS s (shK s d (k + 1))) j = keyN (applyS s (shK s d k)) j := by
        rw [e]
        unfold ptrN keyN
        rw [List.getElem?_set_ne (by omega), List.getElem?_set_ne (by omega), List.getElem?_set_ne (by omega), List.getElem?_set_ne (by omega)]
        exact ⟨rfl, rfl⟩
      rw [hp.1, hp.2]
      exact ⟨fun h1 h2 => ih.1 h1 (by omega), fun h => ih.2 (by omega)⟩
theorem shL_get {s : List Nat} {d m : Nat} (hd : d < m) (hm : 2 * m ≤ s.length) (j : Nat) : (j < d → ptrN (applyS s (shL s d m)) j = ptrN s j ∧ keyN (applyS s (shL s d m)) j = keyN s j) ∧ (d ≤ j → j < m - 1 → ptrN (applyS s (shL s d m)) j = ptrN s (j + 1) ∧ keyN (applyS s (shL s d m)) j = keyN s (j + 1)) ∧ (j = m - 1 → ptrN (applyS s (shL s d m)) j = 0) ∧ (m ≤ j → ptrN (applyS s (shL s d m)) j = ptrN s j ∧ keyN (applyS s (shL s d m)) j = keyN s j) := by
  have ih := shK_get (s := s) (d := d) (k := m - 1 - d) (by omega) j
  have e : applyS s (shL s d m) = (applyS s (shK s d (m - 1 - d))).set (2 * (m - 1) + 1) 0 := by unfold shL; rw [applyS_app, applyS_one]
  have hl' : (applyS s (shK s d (m - 1 - d))).length = s.length := applyS_len _ _
  have hne : j ≠ m - 1 → ptrN (applyS s (shL s d m)) j = ptrN (applyS s (shK s d (m - 1 - d))) j := fun h => by
    rw [e]; unfold ptrN; rw [List.getElem?_set_ne (by omega)]
  have hk : keyN (applyS s (shL s d m)) j = keyN (applyS s (shK s d (m - 1 - d))) j := by
    rw [e]; unfold keyN; rw [List.getElem?_set_ne (by omega)]
  refine ⟨fun h => ?_, fun h1 h2 => ?_, fun h => ?_, fun h => ?_⟩
  · rw [hne (by omega), hk]; exact ih.2 (by omega)
  · rw [hne (by omega), hk]; exact ih.1 h1 (by omega)
  · subst h
    rw [e]; unfold ptrN; rw [List.getElem?_set_self (by omega)]; rfl
  · rw [hne (by omega), hk]; exact ih.2 (by omega)
theorem shL_over {left : Nat} {s : List Nat} {d : Nat} (h : d < overN s) : overN (applyS s (shL s d (overN s))) = overN s - 1 := by
  have hl := over_le s
  have g := fun j => shL_get (s := s) h (by omega) j
  refine over_eq (by rw [applyS_len]; omega) (fun i hi => ?_) (.inr ((g (overN s - 1)).2.2.1 rfl))
  by_cases hd : i < d
  · rw [((g i).1 hd).1]; exact over_ne (by omega)
  · rw [((g i).2.1 (by omega) hi).1]; exact over_ne (by omega)
/-- The zeros that are laid behind what is read, from the last slot down. -/
def zrK (s : List Nat) : Nat → List Pt
  | 0 => []
  | t + 1 => zrK s t ++ (if ptrN s (s.length / 2 - 1 - t) = 0 then [] else [(((2 * (s.length / 2 - 1 - t) + 1 : Nat) : Int), 0)])
theorem zrK_len (s : List Nat) : ∀ t, (zrK s t).length ≤ t
  | 0 => Nat.le_refl _
  | t + 1 => by
    unfold zrK
    have := zrK_len s t
    rw [List.length_append]
    split
    · simp; omega
    · simp; omega
theorem zrK_ge {s : List Nat} : ∀ {t : Nat}, t ≤ s.length / 2 → ∀ p ∈ zrK s t, 2 * (s.length / 2 - t) + 1 ≤ p.1.toNat ∧ p.1.toNat % 2 = 1 ∧ p.2 = 0
  | 0, _, p, h => by simp [zrK] at h
  | t + 1, ht, p, h => by
    unfold zrK at h
    rcases List.mem_append.1 h with h | h
    · have := zrK_ge (by omega) p h
      exact ⟨by omega, this.2⟩
    · split at h
      · simp at h
      · rw [List.mem_singleton.1 h]
        simp only [Int.toNat_natCast]
        exact ⟨by omega, by omega, trivial⟩
def tidyA (left : Nat) (s : List Nat) : List Pt := tdO left (overN s) s
def tidyZ (left : Nat) (s : List Nat) : List Pt := zrK (applyS s (tidyA left s)) (s.length / 2 - 1 - overN (applyS s (tidyA left s)))
def tidyL (left : Nat) (s : List Nat) : List Pt := tidyA left s ++ tidyZ left s
set_option maxRecDepth 100000
set_option maxHeartbeats 8000000
theorem double_any (a : Option Addr) (n c left : Nat) (s : List Nat) (w : World) (hv : ReadsT uE 1 w (.slice a n c) s) (hs : s.length = n) (hn : n ≤ 1048576) : Calls Try.prog 57 #[rowV (.slice a n c) left] w fun e w' => ∃ d b, e = .returned (.tuple #[.int .i64 ((d : Nat) : Int), .bool b]) ∧ (b = true → dblO left s = some d) ∧ (b = false → dblO left s = none) ∧ Below w.heap.size w w' := by
  have q := Below.refl w.heap.size w
  have hvF : ∀ X, Below w.heap.size w X → ReadsT uE 1 X (.slice a n c) s := fun X b => hv.up b
  have hov := over_le s
  refine X.fn Try.func57 rfl (n := 20) rfl rfl ?_
  refine CC.seq ?_
  refine CC.region ?_
  refine LL.box [Value.slice a n c, Value.int IntKind.u64 ↑left] rfl rfl rfl rfl rfl ?_
  intro W9 g10 eg10 r11 z12 b8
  replace hv := hv.up b8
  replace q := q.trans (b8.mono q.size)
  refine LL.val (R.assign rfl rfl) rfl rfl rfl ?_
  refine LL.val (R.assign rfl rfl) rfl rfl rfl ?_
  refine LL.nilS ?_
  refine CC.seq ?_
  refine CC.seq ?_
  refine CC.region ?_
  refine LL.val (R.load rfl rfl (I.ldNc (vs := [Value.slice a n c, Value.int IntKind.u64 ↑left]) (RowL.cells r11 rfl) (by rfl) (by rfl))) rfl rfl rfl ?_
  have l41 := r11.lt
  (refine LL.call (R.call rfl rfl rfl) rfl rfl rfl (over_any a n c left s _ (hvF _ q) hs hn) ?_; rintro e W40 ⟨rfl, b37⟩; refine ⟨_, rfl, ?_⟩)
  have zb37 := b37.size
  replace r11 := r11.up b37
  replace b8 := b8.trans (b37.mono b8.size)
  replace hv := hv.up b37
  replace q := q.trans (b37.mono q.size)
  refine LL.val (R.move rfl rfl) rfl rfl rfl ?_
  refine LL.nilS ?_
  refine CC.block ?_
  have yq := q.size
  clear hv
  refine CC.loop (α := Nat) (fun i => [(1, .pointer (some ⟨g10, 0, none⟩)), (6, .int .i64 (overN s : Int)), (7, .int .i64 (i : Int))]) (fun i W => i ≤ overN s ∧ Below w.heap.size w W ∧ RowL W g10 65 [.slice a n c, .int .u64 (left : Int)] ∧ ∀ j, j < i → ptrN s j ≠ aheadN left s j) (fun i => overN s - i) 0 ⟨rfl, rfl, rfl, trivial⟩ ⟨Nat.zero_le _, q, r11, fun j h => by omega⟩ ?_
  clear q r11 b8 b37
  rintro i W ⟨hi, q, r11, hb⟩
  have yq := q.size
  show CC none Try.prog _ 20 [] (sl [(1, .pointer (some ⟨g10, 0, none⟩)), (6, .int .i64 (overN s : Int)), (7, .int .i64 (i : Int))]) _ W
  by_cases hlt : i < overN s
  case neg =>
    obtain rfl : i = overN s := by omega
    have hno := dblO_no (left := left) hb
    refine CC.seq ?_
    refine CC.region ?_
    refine LL.val (R.ltF rfl rfl rfl (by omega)) rfl rfl rfl ?_
    refine LL.nilS ?_
    refine CC.seq ?_
    refine CC.no rfl ?_
    refine CC.exit ?_
    refine EE.thenX ?_
    refine EE.thenX ?_
    refine EE.inX ?_
    refine EE.thenN ?_
    refine CC.seq ?_
    refine CC.region ?_
    refine LL.val (R.assign rfl rfl) rfl rfl rfl ?_
    refine LL.val (R.assign rfl rfl) rfl rfl rfl ?_
    refine LL.nilS ?_
    refine CC.ret ?_
    refine EE.ret _ rfl rfl ?_
    exact ⟨0, false, rfl, fun h => (by cases h), fun _ => hno, q⟩
  have hPt : ∀ X, Below w.heap.size w X → Calls Try.prog 47 #[celV (.slice a n c), .int .i64 (i : Int)] X fun e w' => e = .returned (.int .u64 (ptrN s i : Int)) ∧ Below X.heap.size X w' := fun X b => ptr_any a n c i _ s X (hvF X b) hs hn (ptrN_at (by omega))
  have hAh : ∀ X, Below w.heap.size w X → Calls Try.prog 49 #[rowV (.slice a n c) left, .int .i64 (i : Int)] X fun e w' => e = .returned (.int .u64 (aheadN left s i : Int)) ∧ Below X.heap.size X w' := fun X b => ahead_any a n c left i s X (hvF X b) hs hn (by omega)
  by_cases hp : ptrN s i = aheadN left s i
  · have hyes := dblO_at hlt hp hb
    refine CC.seq ?_
    refine CC.region ?_
    refine LL.val (R.ltT rfl rfl rfl (by omega)) rfl rfl rfl ?_
    refine LL.nilS ?_
    refine CC.seq ?_
    refine CC.yes rfl ?_
    refine CC.skip ?_
    refine EE.thenN ?_
    refine CC.seq ?_
    refine CC.block ?_
    refine CC.seq ?_
    refine CC.region ?_
    refine LL.val (R.move rfl rfl) rfl rfl rfl ?_
    refine LL.val (R.assign rfl rfl) rfl rfl rfl ?_
    refine LL.nilS ?_
    refine CC.seq ?_
    refine CC.grow (by kernel_rfl) (by kernel_rfl) ?_
    refine GG.val (fun w' b' => R.field rfl rfl (I.fld rfl)) rfl rfl ?_
    refine GG.val (fun w' b' => R.load rfl rfl (I.ldNc (vs := [Value.slice a n c]) (RowL.cells (r11.up b') rfl) (by rfl) (by rfl))) rfl rfl ?_
    refine GG.val (fun w' b' => R.move rfl rfl) rfl rfl ?_
    refine GG.call (fun w' => (R.call rfl rfl rfl)) rfl rfl (fun w' b' => (hPt w' (q.trans (b'.mono q.size))).mono fun e W' h => ⟨h.1, b'.trans (h.2.mono b'.size)⟩) ?_
    refine GG.val (fun w' b' => R.load rfl rfl (I.ldNc (vs := [Value.slice a n c, Value.int IntKind.u64 ↑left]) (RowL.cells (r11.up b') rfl) (by rfl) (by rfl))) rfl rfl ?_
    refine GG.val (fun w' b' => R.move rfl rfl) rfl rfl ?_
    refine GG.call (fun w' => (R.call rfl rfl rfl)) rfl rfl (fun w' b' => (hAh w' (q.trans (b'.mono q.size))).mono fun e W' h => ⟨h.1, b'.trans (h.2.mono b'.size)⟩) ?_
    refine GG.val (fun w' b' => R.eqT rfl rfl rfl (by omega)) rfl rfl ?_
    refine GG.nilQ (fun Wb5 bb4 => ?_)
    have zbb4 := bb4.size
    replace q := q.trans (bb4.mono q.size)
    replace r11 := r11.up bb4
    refine EE.thenN ?_
    refine CC.yes rfl ?_
    refine CC.seq ?_
    refine CC.region ?_
    refine LL.val (R.move rfl rfl) rfl rfl rfl ?_
    refine LL.val (R.assign rfl rfl) rfl rfl rfl ?_
    refine LL.val (R.assign rfl rfl) rfl rfl rfl ?_
    refine LL.nilS ?_
    refine CC.ret ?_
    refine EE.inR ?_
    refine EE.thenR ?_
    refine EE.thenR ?_
    refine EE.inR ?_
    refine EE.thenR ?_
    refine EE.ret _ rfl rfl ?_
    exact ⟨i, true, rfl, fun _ => hyes, fun h => (by cases h), q⟩
  · have hb' : ∀ j, j < i + 1 → ptrN s j ≠ aheadN left s j := fun j hj => by
      by_cases e : j = i
      · subst e; exact hp
      · exact hb j (by omega)
    clear hb
    refine CC.seq ?_
    refine CC.region ?_
    refine LL.val (R.ltT rfl rfl rfl (by omega)) rfl rfl rfl ?_
    refine LL.nilS ?_
    refine CC.seq ?_
    refine CC.yes rfl ?_
    refine CC.skip ?_
    refine EE.thenN ?_
    refine CC.seq ?_
    refine CC.block ?_
    refine CC.seq ?_
    refine CC.region ?_
    refine LL.val (R.move rfl rfl) rfl rfl rfl ?_
    refine LL.val (R.assign rfl rfl) rfl rfl rfl ?_
    refine LL.nilS ?_
    refine CC.seq ?_
    refine CC.grow (by kernel_rfl) (by kernel_rfl) ?_
    refine GG.val (fun w' b' => R.field rfl rfl (I.fld rfl)) rfl rfl ?_
    refine GG.val (fun w' b' => R.load rfl rfl (I.ldNc (vs := [Value.slice a n c]) (RowL.cells (r11.up b') rfl) (by rfl) (by rfl))) rfl rfl ?_
    refine GG.val (fun w' b' => R.move rfl rfl) rfl rfl ?_
    refine GG.call (fun w' => (R.call rfl rfl rfl)) rfl rfl (fun w' b' => (hPt w' (q.trans (b'.mono q.size))).mono fun e W' h => ⟨h.1, b'.trans (h.2.mono b'.size)⟩) ?_
    refine GG.val (fun w' b' => R.load rfl rfl (I.ldNc (vs := [Value.slice a n c, Value.int IntKind.u64 ↑left]) (RowL.cells (r11.up b') rfl) (by rfl) (by rfl))) rfl rfl ?_
    refine GG.val (fun w' b' => R.move rfl rfl) rfl rfl ?_
    refine GG.call (fun w' => (R.call rfl rfl rfl)) rfl rfl (fun w' b' => (hAh w' (q.trans (b'.mono q.size))).mono fun e W' h => ⟨h.1, b'.trans (h.2.mono b'.size)⟩) ?_
    refine GG.val (fun w' b' => R.eqF rfl rfl rfl (by omega)) rfl rfl ?_
    refine GG.nilQ (fun Wc5 bc4 => ?_)
    have zbc4 := bc4.size
    replace q := q.trans (bc4.mono q.size)
    replace r11 := r11.up bc4
    refine EE.thenN ?_
    refine CC.no rfl ?_
    refine CC.skip ?_
    refine EE.inN ?_
    refine EE.thenN ?_
    refine CC.region ?_
    refine LL.val (R.addNc rfl rfl rfl rfl (by omega)) rfl rfl rfl ?_
    refine LL.val (R.move rfl rfl) rfl rfl rfl ?_
    refine LL.nil ?_
    exact EE.round (i + 1) ⟨rfl, rfl, rfl, trivial⟩ ⟨by show i + 1 ≤ overN s; omega, q, r11, hb'⟩ (by show overN s - (i + 1) < overN s - i; omega)
theorem double_c {W0 W : World} {A gs cs gr go ob0 ob n left : Nat} {s : List Nat} {os : List Pt} (C : Cs W0 A gs cs gr go ob0 n left s os ob W) (hn : n ≤ 1048576) : Calls Try.prog 57 #[rowV (sV gs n cs) left] W fun e w' => ∃ d b, e = .returned (.tuple #[.int .i64 ((d : Nat) : Int), .bool b]) ∧ (b = true → dblO left s = some d) ∧ (b = false → dblO left s = none) ∧ Below W.heap.size W w' := double_any _ n cs left s W C.ch.reads C.ch.len hn
end Go.Proofs.Ytfpcpnodcdgbdaa

/- slots: Tidy: what the change does. -/
namespace Go.Proofs.Ytfpcpnodcdgbdaa
set_option linter.unusedVariables false
set_option linter.unusedSimpArgs false
open Go.RowKit Go.Shelf
theorem tdO_none {left : Nat} {s : List Nat} (h : dblO left s = none) : ∀ f, tdO left f s = []
  | 0 => rfl
  | f + 1 => by unfold tdO; rw [h]
theorem tdO_some {left : Nat} {s : List Nat} {d f : Nat} (h : dblO left s = some d) : tdO left (f + 1) s = shL s d (overN s) ++ tdO left f (applyS s (shL s d (overN s))) := by
  conv => lhs; unfold tdO
  rw [h]
theorem tdO_step {left : Nat} {s : List Nat} {d : Nat} (h : dblO left s = some d) : tdO left (overN s) s = shL s d (overN s) ++ tdO left (overN (applyS s (shL s d (overN s)))) (applyS s (shL s d (overN s))) := by
  have hd := (dblO_some h).1
  obtain ⟨f, hf⟩ : ∃ f, overN s = f + 1 := ⟨overN s - 1, by omega⟩
  rw [shL_over (left := left) hd, show overN s - 1 = f by omega, ← tdO_some (f := f) h, ← hf]
set_option maxRecDepth 100000
set_option maxHeartbeats 8000000
theorem tidy1_any (A gs cs gr go ob0 n left : Nat) (s : List Nat) (W0 : World) (C0 : Ch W0 A gs cs gr go ob0 n left s []) (hn6 : n ≤ 56) (hn2 : n % 2 = 0 ∧ 4 ≤ n) : Calls Try.prog 56 #[rowV (sV gs n cs) left, stoV gr go] W0 fun e W' => ((e = .returned (.tuple #[]) ∧ setP left (applyS s (tidyL left s))) ∨ (e = .panicked (chain1 (refV 190)) ∧ ¬ setP left (applyS s (tidyL left s)))) ∧ ChP W0 A gs cs gr go ob0 n left (applyS s (tidyL left s)) (tidyL left s) W' := by
  have C := Cs.refl C0
  have hlt := C0.lt
  have hlen := C0.len
  clear C0
  have hn : n ≤ 1048576 := by omega
  have hov := over_le s
  refine X.fn Try.func56 rfl (n := 47) rfl rfl ?_
  refine CC.seq ?_
  refine CC.region ?_
  refine LL.box [sV gs n cs, Value.int IntKind.u64 ↑left] rfl rfl rfl rfl rfl ?_
  intro W9 g10 eg10 r11 z12 b8
  replace C := C.up b8
  refine LL.nilS ?_
  refine CC.seq ?_
  refine CC.seq ?_
  refine CC.region ?_
  refine LL.val (R.load rfl rfl (I.ldNc (vs := [sV gs n cs, Value.int IntKind.u64 ↑left]) (RowL.cells r11 rfl) (by rfl) (by rfl))) rfl rfl rfl ?_
  have l25 := r11.lt
  (refine LL.call (R.call rfl rfl rfl) rfl rfl rfl (double_c C hn) ?_; rintro e W24 ⟨d, bb, rfl, hb1, hb2, b21⟩; refine ⟨_, rfl, ?_⟩)
  have zb21 := b21.size
  replace r11 := r11.up b21
  replace b8 := b8.trans (b21.mono b8.size)
  replace C := C.up b21
  refine LL.val (R.move rfl rfl) rfl rfl rfl ?_
  refine LL.val (R.extract rfl rfl rfl) rfl rfl rfl ?_
  refine LL.val (R.extract rfl rfl rfl) rfl rfl rfl ?_
  refine LL.val (R.assign rfl rfl) rfl rfl rfl ?_
  refine LL.val (R.assign rfl rfl) rfl rfl rfl ?_
  refine LL.nilS ?_
  refine CC.block ?_
  have e00 : tidyA left s = [] ++ tdO left (overN s) s := rfl
  refine CC.loop (α := List Pt × Nat × Nat × Bool) (fun q => [(1, stoV gr go), (2, .pointer (some ⟨g10, 0, none⟩)), (4, .int .i64 (q.2.2.1 : Int)), (5, .bool q.2.2.2)])
    (fun q W => tidyA left s = q.1 ++ tdO left (overN (applyS s q.1)) (applyS s q.1) ∧ RowL W g10 65 [sV gs n cs, .int .u64 (left : Int)] ∧ Cs W0 A gs cs gr go ob0 n left (applyS s q.1) q.1 q.2.1 W ∧ q.2.1 ≠ g10 ∧ (q.2.2.2 = true → dblO left (applyS s q.1) = some q.2.2.1) ∧ (q.2.2.2 = false → dblO left (applyS s q.1) = none)) (fun q => overN (applyS s q.1) + if q.2.2.2 then 1 else 0)
    ([], ob0, d, bb) ⟨rfl, rfl, rfl, rfl, trivial⟩ ⟨e00, r11, C, by show ob0 ≠ g10; omega, hb1, hb2⟩ ?_
  clear C r11 b8 b21 hb1 hb2 e00
  rintro ⟨l, ob, d, bb⟩ W ⟨e0, r11, C, hbn, hb1, hb2⟩
  simp only at e0 C hbn hb1 hb2
  show CC none Try.prog _ 47 [] (sl [(1, stoV gr go), (2, .pointer (some ⟨g10, 0, none⟩)), (4, .int .i64 (d : Int)), (5, .bool bb)]) _ W
  have ll : l.length ≤ 1600 := by
    have h1 := congrArg List.length e0
    have h2 := tdO_len (left := left) (f := overN s) (s := s) (by omega)
    unfold tidyA at h1
    rw [List.length_append] at h1
    have h3 : overN s * 56 ≤ 28 * 56 := Nat.mul_le_mul_right _ (by omega)
    omega
  have sl1 : (applyS s l).length = n := by rw [applyS_len]; exact hlen
  have zkp := C.kp.size
  cases bb with
  | true =>
    replace hb1 := hb1 rfl
    have hst := tdO_step hb1
    obtain ⟨hd1, hd2⟩ := dblO_some hb1
    have hov2 := over_le (applyS s l)
    have hso := shL_over (left := left) hd1
    have hll := shL_len (applyS s l) d _ hd1
    rw [hst, ← List.append_assoc] at e0
    have e1 : applyS (applyS s l) (shL (applyS s l) d (overN (applyS s l))) = applyS s (l ++ shL (applyS s l) d (overN (applyS s l))) := (applyS_app _ _ _).symm
    rw [e1] at e0 hso
    obtain ⟨l2, el2⟩ : ∃ l2, l ++ shL (applyS s l) d (overN (applyS s l)) = l2 := ⟨_, rfl⟩
    rw [el2] at e0 hso
    rw [el2] at e1
    refine CC.seq ?_
    refine CC.seq ?_
    refine CC.region ?_
    refine LL.val (R.move rfl rfl) rfl rfl rfl ?_
    refine LL.nilS ?_
    refine CC.yes rfl ?_
    refine CC.skip ?_
    refine EE.thenN ?_
    refine CC.seq ?_
    refine CC.block ?_
    refine CC.growT 5 (by kernel_rfl) (by kernel_rfl) ?_
    refine GG.val (fun w' b' => R.load rfl rfl (I.ldNc (vs := [sV gs n cs, Value.int IntKind.u64 ↑left]) (RowL.cells (r11.up b') rfl) (by rfl) (by rfl))) rfl rfl ?_
    refine GG.val (fun w' b' => R.move rfl rfl) rfl rfl ?_
    refine GG.val (fun w' b' => R.load rfl rfl (I.ldNc (vs := [sV gs n cs, Value.int IntKind.u64 ↑left]) (RowL.cells (r11.up b') rfl) (by rfl) (by rfl))) rfl rfl ?_
    refine GG.call (fun w' => (R.call rfl rfl rfl)) rfl rfl (fun w' b' => (over_c C hn w' b').mono fun e W' h => ⟨h.1, b'.trans (h.2.mono b'.size)⟩) ?_
    refine GG.val (fun w' b' => R.move rfl rfl) rfl rfl ?_
    refine GG.nil (fun Wa133 ba132 => ?_)
    have zba132 := ba132.size
    replace r11 := r11.up ba132
    replace C := C.up ba132
    (refine LL.call (R.call rfl rfl rfl) rfl rfl rfl (shift_any A gs cs gr go _ n left d _ _ _ _ C.ch hn6 (by omega) hd1 (by omega)) ?_; rintro e Wa137 ⟨rfl, ob2, C2, hob2, ta136⟩; refine ⟨_, rfl, ?_⟩; rw [e1, el2] at C2; have lgr := r11.lt; replace C := C.then C2 hob2 ta136; clear C2; have hbn0 : ob2 ≠ g10 := (by omega); clear hob2)
    have zta136 := ta136.size
    replace r11 := r11.kept ta136 ⟨r11.lt, by omega⟩
    refine LL.nil ?_
    refine EE.inN ?_
    refine EE.thenN ?_
    refine CC.region ?_
    refine LL.val (R.load rfl rfl (I.ldNc (vs := [sV gs n cs, Value.int IntKind.u64 ↑left]) (RowL.cells r11 rfl) (by rfl) (by rfl))) rfl rfl rfl ?_
    have la183 := r11.lt
    (refine LL.call (R.call rfl rfl rfl) rfl rfl rfl (double_c C hn) ?_; rintro e Wa182 ⟨d3, bb3, rfl, hb3, hb4, ba179⟩; refine ⟨_, rfl, ?_⟩)
    have zba179 := ba179.size
    replace C := C.up ba179
    replace r11 := r11.up ba179
    refine LL.val (R.move rfl rfl) rfl rfl rfl ?_
    refine LL.val (R.extract rfl rfl rfl) rfl rfl rfl ?_
    refine LL.val (R.extract rfl rfl rfl) rfl rfl rfl ?_
    refine LL.val (R.assign rfl rfl) rfl rfl rfl ?_
    refine LL.val (R.assign rfl rfl) rfl rfl rfl ?_
    refine LL.nil ?_
    exact EE.round (l2, _, d3, bb3) ⟨rfl, rfl, rfl, rfl, trivial⟩ ⟨e0, r11, C, hbn0, hb3, hb4⟩ (by show overN (applyS s l2) + (if bb3 = true then 1 else 0) < overN (applyS s l) + (if true = true then 1 else 0); rw [hso]; split <;> simp <;> omega)
  | false =>
    replace hb2 := hb2 rfl
    have eA : tidyA left s = l := by rw [e0, tdO_none hb2, List.append_nil]
    clear e0 hb1
    obtain ⟨s1, es1⟩ : ∃ s1, applyS s l = s1 := ⟨_, rfl⟩
    obtain ⟨m, em⟩ : ∃ m, overN s1 = m := ⟨_, rfl⟩
    have hov1 := over_le s1
    rw [es1] at C hb2 sl1
    rw [sl1, em] at hov1
    have eT : tidyL left s = l ++ zrK s1 (n / 2 - 1 - m) := by unfold tidyL tidyZ; rw [eA, es1, em, hlen]
    have eS : ∀ t, applyS s1 (zrK s1 t) = applyS s (l ++ zrK s1 t) := fun t => by rw [applyS_app, es1]
    have hzo : ∀ t, t ≤ n / 2 - 1 - m → overN (applyS s1 (zrK s1 t)) = m := fun t ht => by
      have key : ∀ j, j ≤ m → j < n / 2 → ptrN (applyS s1 (zrK s1 t)) j = ptrN s1 j := fun j hj hj2 => ptrN_ne fun p hp => by
        have := (zrK_ge (t := t) (by omega) p hp).1
        omega
      refine over_eq (by rw [applyS_len, sl1]; exact hov1) (fun j hj => ?_) ?_
      · rw [key j (by omega) (by omega)]; exact over_ne (by omega)
      · rw [applyS_len, sl1]
        rcases over_end s1 with h | h
        · left; omega
        · by_cases e : m = n / 2
          · exact .inl e
          · right; rw [key m (Nat.le_refl _) (by omega), ← em]; exact h
    have hzp : ∀ t j, j + 1 = n / 2 - t → ptrN (applyS s1 (zrK s1 t)) j = ptrN s1 j := fun t j hj => ptrN_ne fun p hp => by
      have := (zrK_ge (t := t) (by omega) p hp).1
      omega
    have hzl := fun t => zrK_len s1 t
    rw [eT, ← eS]
    refine CC.seq ?_
    refine CC.seq ?_
    refine CC.region ?_
    refine LL.val (R.move rfl rfl) rfl rfl rfl ?_
    refine LL.nilS ?_
    refine CC.no rfl ?_
    refine CC.exit ?_
    refine EE.thenX ?_
    refine EE.thenX ?_
    refine EE.inX ?_
    refine EE.thenN ?_
    refine CC.seq ?_
    refine CC.seq ?_
    refine CC.region ?_
    refine LL.val (R.field rfl rfl (I.fld rfl)) rfl rfl rfl ?_
    refine LL.val (R.load rfl rfl (I.ldNc (vs := [sV gs n cs]) (RowL.cells r11 rfl) (by rfl) (by rfl))) rfl rfl rfl ?_
    refine LL.call (R.call rfl rfl rfl) rfl rfl rfl (many_any _ _ _ _ (by first | assumption | omega)) ?_
    rintro e Wb2 ⟨rfl, bb1⟩
    refine ⟨_, rfl, ?_⟩
    have zbb1 := bb1.size
    replace r11 := r11.up bb1
    replace C := C.up bb1
    refine LL.val (R.subNc rfl rfl rfl rfl (by omega) (by omega)) rfl rfl rfl ?_
    refine LL.val (R.assign rfl rfl) rfl rfl rfl ?_
    refine LL.nilS ?_
    refine CC.block ?_
    refine CC.loop (α := Nat × Nat × Int) (fun q => [(1, stoV gr go), (2, .pointer (some ⟨g10, 0, none⟩)), (6, .int .i64 q.2.2)])
      (fun q W => q.1 ≤ n / 2 - 1 - m ∧ RowL W g10 65 [sV gs n cs, .int .u64 (left : Int)] ∧ Cs W0 A gs cs gr go ob0 n left (applyS s1 (zrK s1 q.1)) (l ++ zrK s1 q.1) q.2.1 W ∧ q.2.1 ≠ g10 ∧ q.2.2 = ((n / 2 - q.1 : Nat) : Int) - 1) (fun q => n / 2 - q.1)
      (0, ob, ((n / 2 - 1 : Nat) : Int)) ⟨rfl, rfl, rfl, trivial⟩ ⟨Nat.zero_le _, r11, C.os_eq rfl (List.append_nil _).symm, hbn, by have h : ((n / 2 - 1 : Nat) : Int) = ((n / 2 - 0 : Nat) : Int) - 1 := (by omega); exact h⟩ ?_
    clear r11 C hbn
    rintro ⟨t, ob, z⟩ W ⟨ht, r11, C, hbn, hz⟩
    simp only at ht C hbn hz
    have zkp2 := C.kp.size
    have hzo1 := hzo t ht
    have hzl1 := hzl t
    show CC none Try.prog _ 47 [] (sl [(1, stoV gr go), (2, .pointer (some ⟨g10, 0, none⟩)), (6, .int .i64 z)]) _ W
    by_cases htl : t < n / 2 - 1 - m
    case pos =>
      obtain ⟨j, hj⟩ : ∃ j, j + 1 = n / 2 - t := ⟨n / 2 - t - 1, by omega⟩
      obtain rfl : z = (j : Int) := by omega
      have hp1 := hzp t j hj
      have ej : s1.length / 2 - 1 - t = j := by omega
      by_cases h0 : ptrN s1 j = 0
      · have e1 : zrK s1 (t + 1) = zrK s1 t := by
          show zrK s1 t ++ _ = _
          rw [ej, if_pos h0, List.append_nil]
        refine CC.seq ?_
        refine CC.seq ?_
        refine CC.region ?_
        refine LL.val (R.move rfl rfl) rfl rfl rfl ?_
        refine LL.val (R.load rfl rfl (I.ldNc (vs := [sV gs n cs, Value.int IntKind.u64 ↑left]) (RowL.cells r11 rfl) (by rfl) (by rfl))) rfl rfl rfl ?_
        have lc37 := r11.lt
        (refine LL.call (R.call rfl rfl rfl) rfl rfl rfl (over_c C hn _ (Below.refl _ _)) ?_; rintro e Wc36 ⟨rfl, bc33⟩; refine ⟨_, rfl, ?_⟩; rw [hzo1])
        have zbc33 := bc33.size
        replace r11 := r11.up bc33
        replace C := C.up bc33
        refine LL.val (R.gtT rfl rfl rfl (by omega)) rfl rfl rfl ?_
        refine LL.nilS ?_
        refine CC.yes rfl ?_
        refine CC.skip ?_
        refine EE.thenN ?_
        refine CC.seq ?_
        refine CC.block ?_
        refine CC.seq ?_
        refine CC.region ?_
        refine LL.val (R.field rfl rfl (I.fld rfl)) rfl rfl rfl ?_
        refine LL.val (R.load rfl rfl (I.ldNc (vs := [sV gs n cs]) (RowL.cells r11 rfl) (by rfl) (by rfl))) rfl rfl rfl ?_
        refine LL.val (R.move rfl rfl) rfl rfl rfl ?_
        have lc117 := r11.lt
        (refine LL.call (R.call rfl rfl rfl) rfl rfl rfl (ptr_c C hn _ (Below.refl _ _) (by omega)) ?_; rintro e Wc116 ⟨rfl, bc113⟩; refine ⟨_, rfl, ?_⟩; rw [hp1])
        have zbc113 := bc113.size
        replace bc33 := bc33.trans (bc113.mono bc33.size)
        replace r11 := r11.up bc113
        replace C := C.up bc113
        refine LL.val (R.neF rfl rfl rfl (by omega)) rfl rfl rfl ?_
        refine LL.nilS ?_
        refine CC.no rfl ?_
        refine CC.skip ?_
        refine EE.inN ?_
        refine EE.thenN ?_
        refine CC.region ?_
        refine LL.val (R.move rfl rfl) rfl rfl rfl ?_
        refine LL.val (R.subNc rfl rfl rfl rfl (by omega) (by omega)) rfl rfl rfl ?_
        refine LL.val (R.assign rfl rfl) rfl rfl rfl ?_
        refine LL.nil ?_
        exact EE.round (t + 1, _, ((j - 1 : Nat) : Int)) ⟨rfl, rfl, rfl, trivial⟩ ⟨by show t + 1 ≤ n / 2 - 1 - m; omega, r11, C.os_eq (by rw [e1]) (by rw [e1]), hbn, by have h : ((j - 1 : Nat) : Int) = ((n / 2 - (t + 1) : Nat) : Int) - 1 := (by omega); exact h⟩ (by show n / 2 - (t + 1) < n / 2 - t; omega)
      · have e1 : zrK s1 (t + 1) = zrK s1 t ++ [(((2 * j + 1 : Nat) : Int), 0)] := by
          show zrK s1 t ++ _ = _
          rw [ej, if_neg h0]
        have e2 : applyS s1 (zrK s1 (t + 1)) = (applyS s1 (zrK s1 t)).set (2 * j + 1) 0 := by rw [e1, applyS_app, applyS_one]
        refine CC.seq ?_
        refine CC.seq ?_
        refine CC.region ?_
        refine LL.val (R.move rfl rfl) rfl rfl rfl ?_
        refine LL.val (R.load rfl rfl (I.ldNc (vs := [sV gs n cs, Value.int IntKind.u64 ↑left]) (RowL.cells r11 rfl) (by rfl) (by rfl))) rfl rfl rfl ?_
        have ld51 := r11.lt
        (refine LL.call (R.call rfl rfl rfl) rfl rfl rfl (over_c C hn _ (Below.refl _ _)) ?_; rintro e Wd50 ⟨rfl, bd47⟩; refine ⟨_, rfl, ?_⟩; rw [hzo1])
        have zbd47 := bd47.size
        replace r11 := r11.up bd47
        replace C := C.up bd47
        refine LL.val (R.gtT rfl rfl rfl (by omega)) rfl rfl rfl ?_
        refine LL.nilS ?_
        refine CC.yes rfl ?_
        refine CC.skip ?_
        refine EE.thenN ?_
        refine CC.seq ?_
        refine CC.block ?_
        refine CC.seq ?_
        refine CC.region ?_
        refine LL.val (R.field rfl rfl (I.fld rfl)) rfl rfl rfl ?_
        refine LL.val (R.load rfl rfl (I.ldNc (vs := [sV gs n cs]) (RowL.cells r11 rfl) (by rfl) (by rfl))) rfl rfl rfl ?_
        refine LL.val (R.move rfl rfl) rfl rfl rfl ?_
        have ld159 := r11.lt
        (refine LL.call (R.call rfl rfl rfl) rfl rfl rfl (ptr_c C hn _ (Below.refl _ _) (by omega)) ?_; rintro e Wd158 ⟨rfl, bd155⟩; refine ⟨_, rfl, ?_⟩; rw [hp1])
        have zbd155 := bd155.size
        replace bd47 := bd47.trans (bd155.mono bd47.size)
        replace r11 := r11.up bd155
        replace C := C.up bd155
        refine LL.val (R.neT rfl rfl rfl (by omega)) rfl rfl rfl ?_
        refine LL.nilS ?_
        refine CC.yes rfl ?_
        refine CC.region ?_
        refine LL.val (R.move rfl rfl) rfl rfl rfl ?_
        refine LL.val (R.move rfl rfl) rfl rfl rfl ?_
        refine LL.call (R.call rfl rfl rfl) rfl rfl rfl (ptrWord_any _ _ (by first | assumption | omega)) ?_
        rintro e W' ⟨rfl, rfl⟩
        refine ⟨_, rfl, ?_⟩
        (have lgr0 := r11.lt; refine LL.call (R.callV rfl rfl rfl rfl) rfl rfl rfl (store_any A gs cs gr go _ n left _ _ _ _ _ C.ch (by omega) hn (by first | omega | (simp only [List.length_append, List.length_cons, List.length_nil]; omega))) ?_; rintro e Wd274 ⟨rfl, ob2, C2, hob2, td273⟩; refine ⟨_, rfl, ?_⟩; replace C := C.then C2 hob2 td273; clear C2; have hbn0 : ob2 ≠ g10 := (by omega); clear hob2)
        have ztd273 := td273.size
        replace r11 := r11.kept td273 ⟨r11.lt, by omega⟩
        refine LL.nil ?_
        refine EE.inN ?_
        refine EE.thenN ?_
        refine CC.region ?_
        refine LL.val (R.move rfl rfl) rfl rfl rfl ?_
        refine LL.val (R.subNc rfl rfl rfl rfl (by omega) (by omega)) rfl rfl rfl ?_
        refine LL.val (R.assign rfl rfl) rfl rfl rfl ?_
        refine LL.nil ?_
        exact EE.round (t + 1, _, ((j - 1 : Nat) : Int)) ⟨rfl, rfl, rfl, trivial⟩ ⟨by show t + 1 ≤ n / 2 - 1 - m; omega, r11, C.os_eq e2.symm (by rw [e1, List.append_assoc]), hbn0, by have h : ((j - 1 : Nat) : Int) = ((n / 2 - (t + 1) : Nat) : Int) - 1 := (by omega); exact h⟩ (by show n / 2 - (t + 1) < n / 2 - t; omega)
    obtain rfl : t = n / 2 - 1 - m := by omega
    by_cases hset : setP left (applyS s1 (zrK s1 (n / 2 - 1 - m)))
    · refine CC.seq ?_
      refine CC.seq ?_
      refine CC.region ?_
      refine LL.val (R.move rfl rfl) rfl rfl rfl ?_
      refine LL.val (R.load rfl rfl (I.ldNc (vs := [sV gs n cs, Value.int IntKind.u64 ↑left]) (RowL.cells r11 rfl) (by rfl) (by rfl))) rfl rfl rfl ?_
      have le37 := r11.lt
      (refine LL.call (R.call rfl rfl rfl) rfl rfl rfl (over_c C hn _ (Below.refl _ _)) ?_; rintro e We36 ⟨rfl, be33⟩; refine ⟨_, rfl, ?_⟩; rw [hzo1])
      have zbe33 := be33.size
      replace r11 := r11.up be33
      replace C := C.up be33
      refine LL.val (R.gtF rfl rfl rfl (by omega)) rfl rfl rfl ?_
      refine LL.nilS ?_
      refine CC.no rfl ?_
      refine CC.exit ?_
      refine EE.thenX ?_
      refine EE.thenX ?_
      refine EE.inX ?_
      refine EE.thenN ?_
      refine CC.region ?_
      refine LL.val (R.load rfl rfl (I.ldNc (vs := [sV gs n cs, Value.int IntKind.u64 ↑left]) (RowL.cells r11 rfl) (by rfl) (by rfl))) rfl rfl rfl ?_
      have le85 := r11.lt
      (refine LL.call (R.call rfl rfl rfl) rfl rfl rfl (settled_cT C hn _ (Below.refl _ _) hset) ?_; rintro e We84 ⟨rfl, be81⟩; refine ⟨_, rfl, ?_⟩)
      have zbe81 := be81.size
      replace be33 := be33.trans (be81.mono be33.size)
      replace r11 := r11.up be81
      replace C := C.up be81
      refine LL.val (R.not rfl rfl) rfl rfl rfl ?_
      refine LL.call (R.call rfl rfl rfl) rfl rfl rfl (refuse_F _ _) ?_
      rintro e W' ⟨rfl, rfl⟩
      refine ⟨_, rfl, ?_⟩
      refine LL.nil ?_
      refine EE.end _ rfl rfl ?_
      exact ⟨.inl ⟨rfl, hset⟩, C.p⟩
    · refine CC.seq ?_
      refine CC.seq ?_
      refine CC.region ?_
      refine LL.val (R.move rfl rfl) rfl rfl rfl ?_
      refine LL.val (R.load rfl rfl (I.ldNc (vs := [sV gs n cs, Value.int IntKind.u64 ↑left]) (RowL.cells r11 rfl) (by rfl) (by rfl))) rfl rfl rfl ?_
      have lf37 := r11.lt
      (refine LL.call (R.call rfl rfl rfl) rfl rfl rfl (over_c C hn _ (Below.refl _ _)) ?_; rintro e Wf36 ⟨rfl, bf33⟩; refine ⟨_, rfl, ?_⟩; rw [hzo1])
      have zbf33 := bf33.size
      replace r11 := r11.up bf33
      replace C := C.up bf33
      refine LL.val (R.gtF rfl rfl rfl (by omega)) rfl rfl rfl ?_
      refine LL.nilS ?_
      refine CC.no rfl ?_
      refine CC.exit ?_
      refine EE.thenX ?_
      refine EE.thenX ?_
      refine EE.inX ?_
      refine EE.thenN ?_
      refine CC.region ?_
      refine LL.val (R.load rfl rfl (I.ldNc (vs := [sV gs n cs, Value.int IntKind.u64 ↑left]) (RowL.cells r11 rfl) (by rfl) (by rfl))) rfl rfl rfl ?_
      have lf85 := r11.lt
      (refine LL.call (R.call rfl rfl rfl) rfl rfl rfl (settled_cF C hn _ (Below.refl _ _) hset) ?_; rintro e Wf84 ⟨rfl, bf81⟩; refine ⟨_, rfl, ?_⟩)
      have zbf81 := bf81.size
      replace bf33 := bf33.trans (bf81.mono bf33.size)
      replace r11 := r11.up bf81
      replace C := C.up bf81
      refine LL.val (R.not rfl rfl) rfl rfl rfl ?_
      refine LL.callP (R.call rfl rfl rfl) rfl rfl (refuse_T _ _) ?_
      rintro e Wf122 ⟨rfl, rfl⟩
      refine ⟨_, rfl, ?_⟩
      refine EE.pan ?_
      exact ⟨.inr ⟨rfl, hset⟩, C.p⟩
end Go.Proofs.Ytfpcpnodcdgbdaa

/- slots: a change, its panics recovered. -/
namespace Go.Proofs.Ytfpcpnodcdgbdaa
set_option linter.unusedVariables false
set_option linter.unusedSimpArgs false
open Go.RowKit Go.Shelf
set_option maxRecDepth 100000
set_option maxHeartbeats 4000000
theorem chg1_calm (go ge : Nat) (w : World) : CallsDIn Fence.wide 2 Try.prog 63 [Value.pointer (some ⟨go, 0, none⟩), .pointer (some ⟨ge, 0, none⟩)].toArray .returning w fun e u' w' => (∃ v, e = .returned v) ∧ u' = .returning ∧ w = w' := by
  refine X.recovers (n := 18) (d := 5) (e := 2) Try.func63 rfl rfl rfl rfl rfl rfl rfl rfl rfl rfl rfl (recover_calm) ?_
  refine CC.seq ?_
  refine CC.region ?_
  refine LL.val (R.move rfl rfl) rfl rfl rfl ?_
  refine LL.val (R.eqNilI rfl rfl (by kernel_rfl)) rfl rfl rfl ?_
  refine LL.nilS ?_
  refine CC.no rfl ?_
  refine CC.skip ?_
  refine EE.end _ rfl rfl ?_
  exact ⟨⟨_, rfl⟩, rfl, rfl⟩
theorem chg1_pan (go ge c : Nat) (v0 : Value) (x0 : Int) (w : World) (h1 : RowL w go 43 [v0]) (h2 : RowL w ge 34 [.int .i64 x0]) (hne : go ≠ ge) : CallsDIn Fence.wide 2 Try.prog 63 [Value.pointer (some ⟨go, 0, none⟩), .pointer (some ⟨ge, 0, none⟩)].toArray (.panicking (chain1 (refV c))) w fun e u' w' => (∃ v, e = .returned v) ∧ u' = .panicking [{ v := refV c, recovered := true }] ∧ RowL w' go 43 [.slice none 0 0] ∧ RowL w' ge 34 [.int .i64 (c : Int)] ∧ Kept (fun i => i < w.heap.size ∧ (i ≠ go ∧ i ≠ ge)) w w' := by
  refine X.recovers (n := 18) (d := 5) (e := 2) Try.func63 rfl rfl rfl rfl rfl rfl rfl rfl rfl rfl rfl (recover_one (refV c)) ?_
  refine CC.seq ?_
  refine CC.region ?_
  refine LL.val (R.move rfl rfl) rfl rfl rfl ?_
  refine LL.val (R.neNilI rfl rfl rfl (by kernel_rfl)) rfl rfl rfl ?_
  refine LL.nilS ?_
  refine CC.yes rfl ?_
  refine CC.seq ?_
  refine CC.region ?_
  refine LL.val (R.move rfl rfl) rfl rfl rfl ?_
  refine LL.val (R.assertT rfl rfl (by kernel_rfl)) rfl rfl rfl ?_
  refine LL.val (R.move rfl rfl) rfl rfl rfl ?_
  refine LL.val (R.extract rfl rfl rfl) rfl rfl rfl ?_
  refine LL.val (R.extract rfl rfl rfl) rfl rfl rfl ?_
  have l1 := h1.lt
  have l2 := h2.lt
  refine LL.alloc ([Value.int IntKind.i64 0]) rfl rfl rfl rfl rfl ?_
  intro W4 g5 eg5 r6 z7 b3
  replace h1 := h1.up b3
  replace h2 := h2.up b3
  refine LL.storeN (vs := [Value.int IntKind.i64 ↑c]) rfl rfl rfl rfl r6 (by exact Nat.le_of_ble_eq_true rfl) (ones_of rfl) rfl rfl ?_
  intro W9 r10 b8 z11
  have hlb8 := r6.lt
  replace r10 : RowL W9 _ 88 [Value.int IntKind.i64 ↑c] := r10
  clear r6
  replace b3 := b3.grown b8 b3.size (by rintro k ⟨⟩; omega)
  replace h1 := h1.gr b8 (by have := h1.lt; omega)
  replace h2 := h2.gr b8 (by have := h2.lt; omega)
  have r6 := r10
  clear r10
  refine LL.val (R.assign rfl rfl) rfl rfl rfl ?_
  refine LL.nilS ?_
  refine CC.seq ?_
  refine CC.seq ?_
  refine CC.region ?_
  refine LL.val (R.move rfl rfl) rfl rfl rfl ?_
  refine LL.val (R.not rfl rfl) rfl rfl rfl ?_
  refine LL.nilS ?_
  refine CC.no rfl ?_
  refine CC.skip ?_
  refine EE.thenN ?_
  refine CC.freeZ (fun W_ j => j < W_.heap.size ∧ (j ≠ go ∧ j ≠ ge)) (by kernel_rfl) (by kernel_rfl) (fun W13 b12 z14 => ?_)
  replace b3 := b3.trans (b12.mono b3.size)
  replace h1 := h1.up b12
  replace h2 := h2.up b12
  replace r6 := r6.up b12
  have hok : Kept (fun j => j < W13.heap.size ∧ (j ≠ go ∧ j ≠ ge)) W13 W13 := Kept.refl _ _
  have fzr6 := fzRow (K := fun j => j < W13.heap.size ∧ (j ≠ go ∧ j ≠ ge)) r6 ⟨r6.lt, (by first | trivial | omega)⟩
  refine AA.pure 0 rfl hok (by kernel_rfl) (fun w' b' => R.field rfl rfl (I.fld rfl)) rfl rfl ?_
  refine AA.pure 1 rfl hok (by kernel_rfl) (fun w' b' => R.load rfl rfl (I.ld1 rfl (RowL.cell (fzr6 w' b') rfl))) rfl rfl ?_
  refine AA.one 2 (by kernel_rfl) ?_
  refine ZR.store rfl rfl rfl rfl rfl h1 (by exact Nat.le_of_ble_eq_true rfl) rfl rfl rfl rfl ?_
  intro W16 r17 b15 z18
  have hlb15 := h1.lt
  replace r17 : RowL W16 _ 43 [Value.slice none 0 0] := r17
  clear h1
  replace h2 := h2.gr b15 (by have := h2.lt; omega)
  replace r6 := r6.gr b15 (by have := r6.lt; omega)
  replace hok := hok.trans (grown_kept b15 (fun j h => by have := h.1; have := hok.size; omega) (fun j h e => by cases e; have h2 := h.1; have h3 := h.2; omega))
  have h1 := r17
  clear r17
  refine ⟨hok, ?_⟩
  refine AA.one 3 (by kernel_rfl) ?_
  refine ZR.store rfl rfl rfl rfl rfl h2 (by exact Nat.le_of_ble_eq_true rfl) rfl rfl rfl rfl ?_
  intro W20 r21 b19 z22
  have hlb19 := h2.lt
  replace r21 : RowL W20 _ 34 [Value.int IntKind.i64 ↑c] := r21
  clear h2
  replace r6 := r6.gr b19 (by have := r6.lt; omega)
  replace hok := hok.trans (grown_kept b19 (fun j h => by have := h.1; have := hok.size; omega) (fun j h e => by cases e; have h2 := h.1; have h3 := h.2; omega))
  replace h1 := h1.gr b19 (by have := h1.lt; omega)
  have h2 := r21
  clear r21
  refine ⟨hok, ?_⟩
  refine AA.done rfl ?_
  clear fzr6 hok
  refine EE.end _ rfl rfl ?_
  exact ⟨⟨_, rfl⟩, rfl, h1, h2, ((bkept b3 (fun k hk => hk.1)).trans (grown_kept b15 (fun k hk => by have := hk.1; have := b3.size; omega) (fun k hk e => by cases e; exact hk.2.1 rfl))).trans (grown_kept b19 (fun k hk => by have := hk.1; have := b3.size; omega) (fun k hk e => by cases e; exact hk.2.2 rfl))⟩
theorem callsA {P : Program} {f : FuncId} {a b : Array Value} {w : World} {R : Ending → World → Prop} (h : a = b) (c : Calls P f a w R) : Calls P f b w R := h ▸ c
/-- The work of a change, given as a closure. -/
def WorkT (wf : FuncId) (lb : List Value) (B n left : Nat) (s : List Nat) (s2 : List Nat) (os : List Pt) (w0 : World) : Prop :=
  ∀ (W : World) (gs cs gr go ob : Nat), Below B w0 W → Ch W B gs cs gr go ob n left s [] → Calls Try.prog wf (rowV (.slice (some ⟨gs, 0, none⟩) n cs) left :: stoV gr go :: lb).toArray W fun e W' => e = .returned (.tuple #[]) ∧ ChP W B gs cs gr go ob n left s2 os W'
def WorkP (wf : FuncId) (lb : List Value) (B n left : Nat) (s : List Nat) (c : Nat) (w0 : World) : Prop :=
  ∀ (W : World) (gs cs gr go ob : Nat), Below B w0 W → Ch W B gs cs gr go ob n left s [] → Calls Try.prog wf (rowV (.slice (some ⟨gs, 0, none⟩) n cs) left :: stoV gr go :: lb).toArray W fun e W' => e = .panicked (chain1 (refV c)) ∧ ∃ s2 os, ChP W B gs cs gr go ob n left s2 os W'
theorem change_N (left n : Nat) (v : Value) (s : List Nat) (wf : FuncId) (lb : List Value) (w : World) (hv : ReadsT uE 1 w v s) (hn : s.length = n) (h80 : n ≤ 1048576) (hno : noRow left n) : Calls Try.prog 38 #[.int .u64 (left : Int), v, .func (.func wf) #[] lb.toArray] w fun e w' => e = .returned (.tuple #[.slice none 0 0, .int .i64 2]) ∧ Below w.heap.size w w' := by
  have q := Below.refl w.heap.size w
  have hvF : ∀ X, Below w.heap.size w X → ReadsT uE 1 X v s := fun X b => hv.up b
  clear hv
  refine X.fnP Try.func38 rfl (n := 24) rfl rfl ?_
  refine CC.seq ?_
  refine CC.region ?_
  refine LL.alloc ([Value.slice none 0 0]) rfl rfl rfl rfl rfl ?_
  intro W2 g3 eg3 r4 z5 b1
  replace q := q.trans (b1.mono q.size)
  have l6 := r4.lt
  refine LL.alloc ([Value.int IntKind.i64 0]) rfl rfl rfl rfl rfl ?_
  intro W8 g9 eg9 r10 z11 b7
  replace r4 := r4.up b7
  replace b1 := b1.trans (b7.mono b1.size)
  replace q := q.trans (b7.mono q.size)
  refine LL.nilS ?_
  refine CC.seq ?_
  refine CC.region ?_
  refine LL.val (R.func rfl rfl rfl) rfl rfl rfl ?_
  refine LL.defer rfl rfl rfl rfl rfl rfl ?_
  refine LL.nilS ?_
  refine CC.seq ?_
  refine CC.region ?_
  refine LL.val (R.move rfl rfl) rfl rfl rfl ?_
  refine LL.call (R.call rfl rfl rfl) rfl rfl rfl (uclone_any v s _ (hvF _ q) (by omega)) ?_
  rintro e W1 ⟨v', rfl, o, b1'⟩
  refine ⟨_, rfl, ?_⟩
  have zb1' := b1'.size
  have yq := q.size
  have l4 := r4.lt
  have l10 := r10.lt
  replace r4 := r4.up b1'
  replace r10 := r10.up b1'
  replace q := q.trans (b1'.mono q.size)
  clear b1 b7 b1'
  obtain ⟨aV, cV, rfl, hcV⟩ := (o.reads uEnc).form hn
  clear o
  refine LL.val (R.buildV rfl rfl (v := .agg #[Value.slice aV n cV]) (fun _ => by kernel_rfl)) rfl rfl rfl ?_
  refine LL.val (R.move rfl rfl) rfl rfl rfl ?_
  refine LL.val (R.buildV rfl rfl (v := .agg #[Value.slice aV n cV, Value.int IntKind.u64 ↑left]) (fun _ => by kernel_rfl)) rfl rfl rfl ?_
  have la1 := r4.lt
  have la2 := r10.lt
  refine LL.alloc ([Value.slice none 0 0, Value.int IntKind.u64 0]) rfl rfl rfl rfl rfl ?_
  intro Wa4 ga5 ega5 ra6 za7 ba3
  replace r4 := r4.up ba3
  replace r10 := r10.up ba3
  replace q := q.trans (ba3.mono q.size)
  refine LL.storeN (vs := [Value.slice aV n cV, Value.int IntKind.u64 ↑left]) rfl rfl rfl rfl ra6 (by exact Nat.le_of_ble_eq_true rfl) (ones_of rfl) rfl rfl ?_
  intro Wa9 ra10 ba8 za11
  have hlba8 := ra6.lt
  replace ra10 : RowL Wa9 _ 65 [Value.slice aV n cV, Value.int IntKind.u64 ↑left] := ra10
  clear ra6
  replace ba3 := ba3.grown ba8 ba3.size (by rintro k ⟨⟩; omega)
  replace r4 := r4.gr ba8 (by have := r4.lt; omega)
  replace r10 := r10.gr ba8 (by have := r10.lt; omega)
  replace q := q.grown ba8 q.size (by rintro k ⟨⟩; omega)
  have ra6 := ra10
  clear ra10
  refine LL.nilS ?_
  refine CC.seq ?_
  refine CC.region ?_
  refine LL.val (R.load rfl rfl (I.ldNc (vs := [Value.slice aV n cV, Value.int IntKind.u64 ↑left]) (RowL.cells ra6 rfl) (by rfl) (by rfl))) rfl rfl rfl ?_
  refine LL.call (R.call rfl rfl rfl) rfl rfl rfl (is_F _ _ _ _ _ (by first | assumption | omega) (by first | assumption | omega)) ?_
  rintro e Wa13 ⟨rfl, ba12⟩
  refine ⟨_, rfl, ?_⟩
  have zba12 := ba12.size
  replace ba3 := ba3.trans (ba12.mono ba3.size)
  replace r4 := r4.up ba12
  replace r10 := r10.up ba12
  replace q := q.trans (ba12.mono q.size)
  replace ra6 := ra6.up ba12
  refine LL.val (R.not rfl rfl) rfl rfl rfl ?_
  refine LL.callP (R.call rfl rfl rfl) rfl rfl (refuse_T _ _) ?_
  rintro e Wa16 ⟨rfl, rfl⟩
  refine ⟨_, rfl, ?_⟩
  refine EE.thenP ?_
  (refine EE.panD2 (by kernel_rfl) (chg1_pan g3 g9 2 _ _ _ r4 r10 (by omega)) rfl ?_; rintro e u' W5 ⟨hv, rfl, h1, h2, hk⟩; exact ⟨hv, rfl, _, _, ⟨_, rfl, lv1 rfl (RowL.cell h1 rfl)⟩, ⟨_, rfl, lv1 rfl (RowL.cell h2 rfl)⟩, rfl, hk.onB q (fun j hj => ⟨by have := q.size; omega, by omega⟩)⟩)
theorem change_W (left n : Nat) (v : Value) (s : List Nat) (wf : FuncId) (lb : List Value) (w : World) (hv : ReadsT uE 1 w v s) (hn : s.length = n) (hrow : left ≠ 0 ∧ n % 2 = 0 ∧ 4 ≤ n ∧ n ≤ 56) (eg : entB Try.prog wf = true) (s2 : List Nat) (os : List Pt) (hw : WorkT wf lb w.heap.size n left s s2 os w) : Calls Try.prog 38 #[.int .u64 (left : Int), v, .func (.func wf) #[] lb.toArray] w fun e w' => ∃ vo, e = .returned (.tuple #[vo, .int .i64 0]) ∧ OwnsT pE 2 w' w.heap.size 59 vo os ∧ Below w.heap.size w w' := by
  have h80 : n ≤ 1048576 := by omega
  have q := Below.refl w.heap.size w
  have hvF : ∀ X, Below w.heap.size w X → ReadsT uE 1 X v s := fun X b => hv.up b
  clear hv
  refine X.fnP Try.func38 rfl (n := 24) rfl rfl ?_
  refine CC.seq ?_
  refine CC.region ?_
  refine LL.alloc ([Value.slice none 0 0]) rfl rfl rfl rfl rfl ?_
  intro W2 g3 eg3 r4 z5 b1
  replace q := q.trans (b1.mono q.size)
  have l6 := r4.lt
  refine LL.alloc ([Value.int IntKind.i64 0]) rfl rfl rfl rfl rfl ?_
  intro W8 g9 eg9 r10 z11 b7
  replace r4 := r4.up b7
  replace b1 := b1.trans (b7.mono b1.size)
  replace q := q.trans (b7.mono q.size)
  refine LL.nilS ?_
  refine CC.seq ?_
  refine CC.region ?_
  refine LL.val (R.func rfl rfl rfl) rfl rfl rfl ?_
  refine LL.defer rfl rfl rfl rfl rfl rfl ?_
  refine LL.nilS ?_
  refine CC.seq ?_
  refine CC.region ?_
  refine LL.val (R.move rfl rfl) rfl rfl rfl ?_
  refine LL.call (R.call rfl rfl rfl) rfl rfl rfl (uclone_any v s _ (hvF _ q) (by omega)) ?_
  rintro e W1 ⟨v', rfl, o, b1'⟩
  refine ⟨_, rfl, ?_⟩
  have zb1' := b1'.size
  have yq := q.size
  have l4 := r4.lt
  have l10 := r10.lt
  replace r4 := r4.up b1'
  replace r10 := r10.up b1'
  replace q := q.trans (b1'.mono q.size)
  clear b1 b7 b1'
  obtain ⟨gs, cs, rfl, hgs1, hgs2, hcs⟩ := ownsT_form o hn (by omega)
  have oF : ∀ X, Below W1.heap.size W1 X → OwnsT uE 1 X w.heap.size 22 (.slice (some ⟨gs, 0, none⟩) n cs) s := fun X b => (o.up b).lower (by omega)
  have qn := Below.refl W1.heap.size W1
  clear o
  refine LL.val (R.buildV rfl rfl (v := .agg #[Value.slice (some { block := gs, off := 0 }) n cs]) (fun _ => by kernel_rfl)) rfl rfl rfl ?_
  refine LL.val (R.move rfl rfl) rfl rfl rfl ?_
  refine LL.val (R.buildV rfl rfl (v := .agg #[Value.slice (some { block := gs, off := 0 }) n cs, Value.int IntKind.u64 ↑left]) (fun _ => by kernel_rfl)) rfl rfl rfl ?_
  have la1 := r4.lt
  have la2 := r10.lt
  refine LL.alloc ([Value.slice none 0 0, Value.int IntKind.u64 0]) rfl rfl rfl rfl rfl ?_
  intro Wa4 ga5 ega5 ra6 za7 ba3
  replace r4 := r4.up ba3
  replace r10 := r10.up ba3
  replace q := q.trans (ba3.mono q.size)
  replace qn := qn.trans (ba3.mono qn.size)
  refine LL.storeN (vs := [Value.slice (some { block := gs, off := 0 }) n cs, Value.int IntKind.u64 ↑left]) rfl rfl rfl rfl ra6 (by exact Nat.le_of_ble_eq_true rfl) (ones_of rfl) rfl rfl ?_
  intro Wa9 ra10 ba8 za11
  have hlba8 := ra6.lt
  replace ra10 : RowL Wa9 _ 65 [Value.slice (some { block := gs, off := 0 }) n cs, Value.int IntKind.u64 ↑left] := ra10
  clear ra6
  replace ba3 := ba3.grown ba8 ba3.size (by rintro k ⟨⟩; omega)
  replace r4 := r4.gr ba8 (by have := r4.lt; omega)
  replace r10 := r10.gr ba8 (by have := r10.lt; omega)
  replace q := q.grown ba8 q.size (by rintro k ⟨⟩; omega)
  replace qn := qn.grown ba8 qn.size (by rintro k ⟨⟩; omega)
  have ra6 := ra10
  clear ra10
  refine LL.nilS ?_
  refine CC.seq ?_
  refine CC.region ?_
  refine LL.val (R.load rfl rfl (I.ldNc (vs := [Value.slice (some { block := gs, off := 0 }) n cs, Value.int IntKind.u64 ↑left]) (RowL.cells ra6 rfl) (by rfl) (by rfl))) rfl rfl rfl ?_
  refine LL.call (R.call rfl rfl rfl) rfl rfl rfl (is_T _ _ _ _ _ (by first | assumption | omega)) ?_
  rintro e Wa13 ⟨rfl, ba12⟩
  refine ⟨_, rfl, ?_⟩
  have zba12 := ba12.size
  replace ba3 := ba3.trans (ba12.mono ba3.size)
  replace r4 := r4.up ba12
  replace r10 := r10.up ba12
  replace q := q.trans (ba12.mono q.size)
  replace qn := qn.trans (ba12.mono qn.size)
  replace ra6 := ra6.up ba12
  refine LL.val (R.not rfl rfl) rfl rfl rfl ?_
  refine LL.call (R.call rfl rfl rfl) rfl rfl rfl (refuse_F _ _) ?_
  rintro e W' ⟨rfl, rfl⟩
  refine ⟨_, rfl, ?_⟩
  refine LL.nilS ?_
  refine CC.seq ?_
  refine CC.region ?_
  refine LL.val (R.move rfl rfl) rfl rfl rfl ?_
  refine LL.val (R.load rfl rfl (I.ldNc (vs := [Value.slice (some { block := gs, off := 0 }) n cs, Value.int IntKind.u64 ↑left]) (RowL.cells ra6 rfl) (by rfl) (by rfl))) rfl rfl rfl ?_
  refine LL.val (R.func rfl rfl rfl) rfl rfl rfl ?_
  have C0 : Ch Wa13 w.heap.size gs cs ga5 g3 gs n left s [] := ⟨oF _ qn, ra6, ⟨_, r4, OwnsT.none _ _ _, fun g h => (by cases h)⟩, by have := q.size; have := ra6.lt; omega, by omega⟩
  refine LL.call (R.callV rfl rfl rfl eg) rfl rfl rfl (callsA (by simp) (hw Wa13 gs cs ga5 g3 gs q C0)) ?_
  rintro e W5 ⟨rfl, ob, C, hob, t5⟩
  refine ⟨_, rfl, ?_⟩
  replace r10 := r10.kept t5 ⟨r10.lt, by omega⟩
  replace q := t5.onB q (fun j hj => ⟨by have := q.size; omega, by omega⟩)
  have zt5 := t5.size
  clear r4 ra6 qn oF C0
  obtain ⟨_, _, ⟨vo, r4, oo, hoo⟩, _, hne⟩ := C
  obtain ⟨av, cv, rfl, hcv⟩ := (oo.reads pEnc).form rfl
  have zq := q.size
  have z10 := r10.lt
  have hn3 : ∀ g, (Value.slice av os.length cv).ownBlock = some g → g ≠ g3 ∧ g ≠ g9 := fun g h => by
    have := (hoo g h).1
    have := (hoo g h).2
    omega
  refine LL.nilS ?_
  refine CC.seq ?_
  refine CC.region ?_
  refine LL.val (R.load rfl rfl (I.ld1 rfl (RowL.cell r4 rfl))) rfl rfl rfl ?_
  refine LL.store rfl rfl rfl rfl r4 (by exact Nat.le_of_ble_eq_true rfl) rfl rfl rfl rfl ?_
  intro Wb2 rb3 bb1 zb4
  have hlbb1 := r4.lt
  replace rb3 : RowL Wb2 _ 43 [Value.slice av os.length cv] := rb3
  clear r4
  replace r10 := r10.gr bb1 (by have := r10.lt; omega)
  replace q := q.grown bb1 q.size (by rintro k ⟨⟩; omega)
  have r4 := rb3
  clear rb3
  refine LL.store rfl rfl rfl rfl r10 (by exact Nat.le_of_ble_eq_true rfl) rfl rfl rfl rfl ?_
  intro Wb6 rb7 bb5 zb8
  have hlbb5 := r10.lt
  replace rb7 : RowL Wb6 _ 34 [Value.int IntKind.i64 0] := rb7
  clear r10
  replace q := q.grown bb5 q.size (by rintro k ⟨⟩; omega)
  replace r4 := r4.gr bb5 (by have := r4.lt; omega)
  have r10 := rb7
  clear rb7
  refine LL.nilS ?_
  refine CC.ret ?_
  (refine EE.retD2 (by kernel_rfl) (chg1_calm g3 g9 _) rfl ?_; rintro e u' W6 ⟨hv, rfl, rfl⟩; exact ⟨hv, rfl, _, _, ⟨_, rfl, lv1 rfl (RowL.cell r4 rfl)⟩, ⟨_, rfl, lv1 rfl (RowL.cell r10 rfl)⟩, _, rfl, (oo.grown bb1 (fun e => (hn3 _ e).1 rfl)).grown bb5 (fun e => (hn3 _ e).2 rfl), q⟩)
theorem change_P (left n : Nat) (v : Value) (s : List Nat) (wf : FuncId) (lb : List Value) (w : World) (hv : ReadsT uE 1 w v s) (hn : s.length = n) (hrow : left ≠ 0 ∧ n % 2 = 0 ∧ 4 ≤ n ∧ n ≤ 56) (eg : entB Try.prog wf = true) (c : Nat) (hw : WorkP wf lb w.heap.size n left s c w) : Calls Try.prog 38 #[.int .u64 (left : Int), v, .func (.func wf) #[] lb.toArray] w fun e w' => e = .returned (.tuple #[.slice none 0 0, .int .i64 (c : Int)]) ∧ Below w.heap.size w w' := by
  have h80 : n ≤ 1048576 := by omega
  have q := Below.refl w.heap.size w
  have hvF : ∀ X, Below w.heap.size w X → ReadsT uE 1 X v s := fun X b => hv.up b
  clear hv
  refine X.fnP Try.func38 rfl (n := 24) rfl rfl ?_
  refine CC.seq ?_
  refine CC.region ?_
  refine LL.alloc ([Value.slice none 0 0]) rfl rfl rfl rfl rfl ?_
  intro W2 g3 eg3 r4 z5 b1
  replace q := q.trans (b1.mono q.size)
  have l6 := r4.lt
  refine LL.alloc ([Value.int IntKind.i64 0]) rfl rfl rfl rfl rfl ?_
  intro W8 g9 eg9 r10 z11 b7
  replace r4 := r4.up b7
  replace b1 := b1.trans (b7.mono b1.size)
  replace q := q.trans (b7.mono q.size)
  refine LL.nilS ?_
  refine CC.seq ?_
  refine CC.region ?_
  refine LL.val (R.func rfl rfl rfl) rfl rfl rfl ?_
  refine LL.defer rfl rfl rfl rfl rfl rfl ?_
  refine LL.nilS ?_
  refine CC.seq ?_
  refine CC.region ?_
  refine LL.val (R.move rfl rfl) rfl rfl rfl ?_
  refine LL.call (R.call rfl rfl rfl) rfl rfl rfl (uclone_any v s _ (hvF _ q) (by omega)) ?_
  rintro e W1 ⟨v', rfl, o, b1'⟩
  refine ⟨_, rfl, ?_⟩
  have zb1' := b1'.size
  have yq := q.size
  have l4 := r4.lt
  have l10 := r10.lt
  replace r4 := r4.up b1'
  replace r10 := r10.up b1'
  replace q := q.trans (b1'.mono q.size)
  clear b1 b7 b1'
  obtain ⟨gs, cs, rfl, hgs1, hgs2, hcs⟩ := ownsT_form o hn (by omega)
  have oF : ∀ X, Below W1.heap.size W1 X → OwnsT uE 1 X w.heap.size 22 (.slice (some ⟨gs, 0, none⟩) n cs) s := fun X b => (o.up b).lower (by omega)
  have qn := Below.refl W1.heap.size W1
  clear o
  refine LL.val (R.buildV rfl rfl (v := .agg #[Value.slice (some { block := gs, off := 0 }) n cs]) (fun _ => by kernel_rfl)) rfl rfl rfl ?_
  refine LL.val (R.move rfl rfl) rfl rfl rfl ?_
  refine LL.val (R.buildV rfl rfl (v := .agg #[Value.slice (some { block := gs, off := 0 }) n cs, Value.int IntKind.u64 ↑left]) (fun _ => by kernel_rfl)) rfl rfl rfl ?_
  have la1 := r4.lt
  have la2 := r10.lt
  refine LL.alloc ([Value.slice none 0 0, Value.int IntKind.u64 0]) rfl rfl rfl rfl rfl ?_
  intro Wa4 ga5 ega5 ra6 za7 ba3
  replace r4 := r4.up ba3
  replace r10 := r10.up ba3
  replace q := q.trans (ba3.mono q.size)
  replace qn := qn.trans (ba3.mono qn.size)
  refine LL.storeN (vs := [Value.slice (some { block := gs, off := 0 }) n cs, Value.int IntKind.u64 ↑left]) rfl rfl rfl rfl ra6 (by exact Nat.le_of_ble_eq_true rfl) (ones_of rfl) rfl rfl ?_
  intro Wa9 ra10 ba8 za11
  have hlba8 := ra6.lt
  replace ra10 : RowL Wa9 _ 65 [Value.slice (some { block := gs, off := 0 }) n cs, Value.int IntKind.u64 ↑left] := ra10
  clear ra6
  replace ba3 := ba3.grown ba8 ba3.size (by rintro k ⟨⟩; omega)
  replace r4 := r4.gr ba8 (by have := r4.lt; omega)
  replace r10 := r10.gr ba8 (by have := r10.lt; omega)
  replace q := q.grown ba8 q.size (by rintro k ⟨⟩; omega)
  replace qn := qn.grown ba8 qn.size (by rintro k ⟨⟩; omega)
  have ra6 := ra10
  clear ra10
  refine LL.nilS ?_
  refine CC.seq ?_
  refine CC.region ?_
  refine LL.val (R.load rfl rfl (I.ldNc (vs := [Value.slice (some { block := gs, off := 0 }) n cs, Value.int IntKind.u64 ↑left]) (RowL.cells ra6 rfl) (by rfl) (by rfl))) rfl rfl rfl ?_
  refine LL.call (R.call rfl rfl rfl) rfl rfl rfl (is_T _ _ _ _ _ (by first | assumption | omega)) ?_
  rintro e Wa13 ⟨rfl, ba12⟩
  refine ⟨_, rfl, ?_⟩
  have zba12 := ba12.size
  replace ba3 := ba3.trans (ba12.mono ba3.size)
  replace r4 := r4.up ba12
  replace r10 := r10.up ba12
  replace q := q.trans (ba12.mono q.size)
  replace qn := qn.trans (ba12.mono qn.size)
  replace ra6 := ra6.up ba12
  refine LL.val (R.not rfl rfl) rfl rfl rfl ?_
  refine LL.call (R.call rfl rfl rfl) rfl rfl rfl (refuse_F _ _) ?_
  rintro e W' ⟨rfl, rfl⟩
  refine ⟨_, rfl, ?_⟩
  refine LL.nilS ?_
  refine CC.seq ?_
  refine CC.region ?_
  refine LL.val (R.move rfl rfl) rfl rfl rfl ?_
  refine LL.val (R.load rfl rfl (I.ldNc (vs := [Value.slice (some { block := gs, off := 0 }) n cs, Value.int IntKind.u64 ↑left]) (RowL.cells ra6 rfl) (by rfl) (by rfl))) rfl rfl rfl ?_
  refine LL.val (R.func rfl rfl rfl) rfl rfl rfl ?_
  have C0 : Ch Wa13 w.heap.size gs cs ga5 g3 gs n left s [] := ⟨oF _ qn, ra6, ⟨_, r4, OwnsT.none _ _ _, fun g h => (by cases h)⟩, by have := q.size; have := ra6.lt; omega, by omega⟩
  refine LL.callP (R.callV rfl rfl rfl eg) rfl rfl (callsA (by simp) (hw Wa13 gs cs ga5 g3 gs q C0)) ?_
  rintro e W5 ⟨rfl, s2, os, ob, C, hob, t5⟩
  refine ⟨_, rfl, ?_⟩
  replace r10 := r10.kept t5 ⟨r10.lt, by omega⟩
  replace q := t5.onB q (fun j hj => ⟨by have := q.size; omega, by omega⟩)
  have zt5 := t5.size
  clear r4 ra6 qn oF C0
  obtain ⟨_, _, ⟨vo, r4, oo, hoo⟩, _, hne⟩ := C
  refine EE.thenP ?_
  (refine EE.panD2 (by kernel_rfl) (chg1_pan g3 g9 c _ _ _ r4 r10 (by omega)) rfl ?_; rintro e u' W6 ⟨hv, rfl, h1, h2, hk⟩; exact ⟨hv, rfl, _, _, ⟨_, rfl, lv1 rfl (RowL.cell h1 rfl)⟩, ⟨_, rfl, lv1 rfl (RowL.cell h2 rfl)⟩, rfl, hk.onB q (fun j hj => ⟨by have := q.size; omega, by omega⟩)⟩)
end Go.Proofs.Ytfpcpnodcdgbdaa
