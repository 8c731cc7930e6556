/- What the statements' walks use: Sc5, So2, So3, So4, So5, So6, So7, So8, Sc6, Sc7, Sc8, Sc8b, Sc12, So9, So10, So11, So12, So13, So14, So15, So16, So17, So18, So19, So20, Sc20, Sc22, Sc23. -/
import Derived.Laws.StructEq
import Derived.Test.YtloflmkolnediaaMhb
import Derived.Test.YtloflmkolnediaaMhc
/- scan: New; the iterator over a reader's loads; Look. -/
namespace Go.Proofs.Ytloflmkolnediaa
set_option linter.unusedVariables false
set_option linter.unusedSimpArgs false
open Go.RowKit Go.Shelf
set_option maxRecDepth 100000
set_option maxHeartbeats 4000000
theorem within_T (n lo hi : Int) (w : World) (h : lo ≤ n ∧ n ≤ hi) : Calls Try.prog 38 #[.int .i64 n, .int .i64 lo, .int .i64 hi] w fun e w' => e = .returned (.bool true) ∧ w = w' := by
  have := within_any n lo hi w
  rwa [decide_eq_true h] at this
theorem within_F (n lo hi : Int) (w : World) (h : n < lo ∨ hi < n) : Calls Try.prog 38 #[.int .i64 n, .int .i64 lo, .int .i64 hi] w fun e w' => e = .returned (.bool false) ∧ w = w' := by
  have := within_any n lo hi w
  rwa [decide_eq_false (by omega)] at this
abbrev newRow (key slots : Nat) : List Value := [.int .u64 (key : Int), .int .i64 (slots : Int), .int .i64 0, .int .u64 0, .int .u64 0, .int .i64 0, .int .i64 0, .int .u64 0, .bool false, .bool false, .int .i64 0, .nilFunc]
theorem beginUp_any (g : Nat) {key slots : Nat} {w : World} (h : RowL w g 56 [.int .u64 (key : Int), .int .i64 (slots : Int), .int .i64 0, .int .u64 0, .int .u64 0, .int .i64 0, .int .i64 0, .int .u64 0, .bool false, .bool false, .int .i64 0, .nilFunc]) : Calls Try.prog 54 #[.pointer (some ⟨g, 0, none⟩)] w fun e w' => e = .returned (.tuple #[]) ∧ RowL w' g 56 (rdR g (newR true slots key)) ∧ Kept (fun j => j < w.heap.size ∧ j ≠ g) w w' := by
  have gw := Gw.refl g w
  refine X.fn Try.func54 rfl (n := 4) rfl rfl ?_
  refine CC.region ?_
  refine LL.val (R.move rfl rfl) rfl rfl rfl ?_
  (refine LL.call (R.call rfl rfl rfl) rfl rfl rfl (ask_0 g 0 h (by omega)) ?_; rintro e W11 ⟨rfl, hN, t10⟩; clear h; have h := hN; clear hN; refine ⟨_, rfl, ?_⟩)
  have zt10 := t10.size
  replace gw := gw.kept t10 ⟨by omega, by omega⟩
  refine LL.nil ?_
  refine EE.end _ rfl rfl ?_
  exact ⟨rfl, h, gw⟩
theorem beginDown_any (g : Nat) {key slots : Nat} {w : World} (h : RowL w g 56 [.int .u64 (key : Int), .int .i64 (slots : Int), .int .i64 0, .int .u64 0, .int .u64 0, .int .i64 0, .int .i64 0, .int .u64 0, .bool false, .bool false, .int .i64 0, .nilFunc]) (h2 : 2 ≤ slots) (h28 : slots ≤ 28) : Calls Try.prog 55 #[.pointer (some ⟨g, 0, none⟩)] w fun e w' => e = .returned (.tuple #[]) ∧ RowL w' g 56 (rdR g (newR false slots key)) ∧ Kept (fun j => j < w.heap.size ∧ j ≠ g) w w' := by
  have gw := Gw.refl g w
  refine X.fn Try.func55 rfl (n := 10) rfl rfl ?_
  refine CC.region ?_
  refine LL.val (R.move rfl rfl) rfl rfl rfl ?_
  refine LL.val (R.move rfl rfl) rfl rfl rfl ?_
  refine LL.val (R.nil rfl rfl) rfl rfl rfl ?_
  refine LL.val (R.field rfl rfl (I.fld rfl)) rfl rfl rfl ?_
  refine LL.val (R.field rfl rfl (I.fld rfl)) rfl rfl rfl ?_
  refine LL.val (R.load rfl rfl (I.ld1 rfl (RowL.cell h rfl))) rfl rfl rfl ?_
  refine LL.val (R.subNc rfl rfl rfl rfl (by omega) (by omega)) rfl rfl rfl ?_
  (refine LL.call (R.call rfl rfl rfl) rfl rfl rfl (ask_5 g (slots - 1) h (by omega)) ?_; rintro e W53 ⟨rfl, hN, t52⟩; clear h; have h := hN; clear hN; refine ⟨_, rfl, ?_⟩)
  have zt52 := t52.size
  replace gw := gw.kept t52 ⟨by omega, by omega⟩
  refine LL.nil ?_
  refine EE.end _ rfl rfl ?_
  exact ⟨rfl, h, gw⟩
def wayI (up : Bool) : Int := if up then 1 else 2
theorem new_T (up : Bool) (slots key : Nat) (w : World) (h2 : 2 ≤ slots) (h28 : slots ≤ 28) : Calls Try.prog 9 #[.int .i64 (wayI up), .int .i64 (slots : Int), .int .u64 (key : Int)] w fun e w' => ∃ g, e = .returned (.tuple #[.pointer (some ⟨g, 0, none⟩), .int .i64 0]) ∧ RowL w' g 56 (rdR g (newR up slots key)) ∧ w.heap.size ≤ g ∧ Below w.heap.size w w' := by
  have q := Below.refl w.heap.size w
  cases up
  · refine X.fn Try.func9 rfl (n := 33) rfl rfl ?_
    refine CC.seq ?_
    refine CC.region ?_
    refine LL.val (R.assign rfl rfl) rfl rfl rfl ?_
    refine LL.val (R.assign rfl rfl) rfl rfl rfl ?_
    refine LL.nilS ?_
    refine CC.straight ?_
    refine CC.seq ?_
    refine CC.region ?_
    refine LL.val (R.assign rfl rfl) rfl rfl rfl ?_
    refine LL.nilS ?_
    refine CC.seq ?_
    refine CC.region ?_
    refine LL.call (R.call rfl rfl rfl) rfl rfl rfl (ways_any _) ?_
    rintro e W30 ⟨g32, k33, rfl, h31, b29⟩
    refine ⟨_, rfl, ?_⟩
    have zb29 := b29.size
    replace q := q.trans (b29.mono q.size)
    refine LL.val (R.move rfl rfl) rfl rfl rfl ?_
    (refine LL.val (R.lookKT rfl rfl zKeys rfl rfl (by assumption) (2 : Int) rfl (v := 55) rfl) rfl rfl rfl ?_)
    refine LL.val (R.move rfl rfl) rfl rfl rfl ?_
    refine LL.val (R.extract rfl rfl rfl) rfl rfl rfl ?_
    refine LL.val (R.extract rfl rfl rfl) rfl rfl rfl ?_
    refine LL.val (R.assign rfl rfl) rfl rfl rfl ?_
    refine LL.val (R.assign rfl rfl) rfl rfl rfl ?_
    refine LL.nilS ?_
    refine CC.seq ?_
    refine CC.seq ?_
    refine CC.region ?_
    refine LL.val (R.move rfl rfl) rfl rfl rfl ?_
    refine LL.val (R.not rfl rfl) rfl rfl rfl ?_
    refine LL.val (R.move rfl rfl) rfl rfl rfl ?_
    refine LL.val (R.move rfl rfl) rfl rfl rfl ?_
    (refine LL.call (R.call rfl rfl rfl) rfl rfl rfl (within_T _ _ _ _ (by omega)) ?_; rintro e W' ⟨rfl, rfl⟩; refine ⟨_, rfl, ?_⟩)
    refine LL.val (R.not rfl rfl) rfl rfl rfl ?_
    refine LL.val (R.pick rfl rfl rfl) rfl rfl rfl ?_
    refine LL.nilS ?_
    refine CC.no rfl ?_
    refine CC.skip ?_
    refine EE.thenN ?_
    refine CC.seq ?_
    refine CC.region ?_
    refine LL.val (R.move rfl rfl) rfl rfl rfl ?_
    refine LL.val (R.move rfl rfl) rfl rfl rfl ?_
    refine LL.val (R.buildV rfl rfl (v := .agg #[Value.int IntKind.u64 ↑key, Value.int IntKind.i64 ↑slots]) (fun _ => by kernel_rfl)) rfl rfl rfl ?_
    refine LL.val (R.buildV rfl rfl (v := .agg #[Value.int IntKind.u64 ↑key, Value.int IntKind.i64 ↑slots, Value.int IntKind.i64 0, Value.int IntKind.u64 0, Value.int IntKind.u64 0, Value.int IntKind.i64 0, Value.int IntKind.i64 0, Value.int IntKind.u64 0, Value.bool false, Value.bool false, Value.int IntKind.i64 0, Value.nilFunc]) (fun _ => by kernel_rfl)) rfl rfl rfl ?_
    refine LL.box [Value.int IntKind.u64 ↑key, Value.int IntKind.i64 ↑slots, Value.int IntKind.i64 0, Value.int IntKind.u64 0, Value.int IntKind.u64 0, Value.int IntKind.i64 0, Value.int IntKind.i64 0, Value.int IntKind.u64 0, Value.bool false, Value.bool false, Value.int IntKind.i64 0, Value.nilFunc] rfl rfl rfl rfl rfl ?_
    intro W162 g163 eg163 r164 z165 b161
    replace h31 := h31.up b161
    replace b29 := b29.trans (b161.mono b29.size)
    replace q := q.trans (b161.mono q.size)
    refine LL.val (R.assign rfl rfl) rfl rfl rfl ?_
    refine LL.nilS ?_
    refine CC.seq ?_
    refine CC.region ?_
    refine LL.val (R.move rfl rfl) rfl rfl rfl ?_
    refine LL.val (R.move rfl rfl) rfl rfl rfl ?_
    (refine LL.call (R.callV rfl rfl rfl rfl) rfl rfl rfl (beginDown_any _ (by assumption) h2 h28) ?_; rintro e W190 ⟨rfl, hN, t189⟩; refine ⟨_, rfl, ?_⟩)
    have zt189 := t189.size
    replace b161 := t189.onB b161 (fun j hj => ⟨by have := b161.size; omega, by omega⟩)
    replace b29 := t189.onB b29 (fun j hj => ⟨by have := b29.size; omega, by omega⟩)
    replace q := t189.onB q (fun j hj => ⟨by have := q.size; omega, by omega⟩)
    refine LL.nilS ?_
    refine CC.seq ?_
    refine CC.seq ?_
    refine CC.region ?_
    refine LL.val (R.move rfl rfl) rfl rfl rfl ?_
    refine LL.val (R.assign rfl rfl) rfl rfl rfl ?_
    refine LL.val (R.assign rfl rfl) rfl rfl rfl ?_
    refine LL.nilS ?_
    refine CC.ret ?_
    refine EE.thenR ?_
    refine EE.noR ?_
    refine EE.ret _ rfl rfl ?_
    exact ⟨_, rfl, hN, by omega, q⟩
  · refine X.fn Try.func9 rfl (n := 33) rfl rfl ?_
    refine CC.seq ?_
    refine CC.region ?_
    refine LL.val (R.assign rfl rfl) rfl rfl rfl ?_
    refine LL.val (R.assign rfl rfl) rfl rfl rfl ?_
    refine LL.nilS ?_
    refine CC.straight ?_
    refine CC.seq ?_
    refine CC.region ?_
    refine LL.val (R.assign rfl rfl) rfl rfl rfl ?_
    refine LL.nilS ?_
    refine CC.seq ?_
    refine CC.region ?_
    refine LL.call (R.call rfl rfl rfl) rfl rfl rfl (ways_any _) ?_
    rintro e Wa30 ⟨ga32, ka33, rfl, ha31, ba29⟩
    refine ⟨_, rfl, ?_⟩
    have zba29 := ba29.size
    replace q := q.trans (ba29.mono q.size)
    refine LL.val (R.move rfl rfl) rfl rfl rfl ?_
    (refine LL.val (R.lookKT rfl rfl zKeys rfl rfl (by assumption) (1 : Int) rfl (v := 54) rfl) rfl rfl rfl ?_)
    refine LL.val (R.move rfl rfl) rfl rfl rfl ?_
    refine LL.val (R.extract rfl rfl rfl) rfl rfl rfl ?_
    refine LL.val (R.extract rfl rfl rfl) rfl rfl rfl ?_
    refine LL.val (R.assign rfl rfl) rfl rfl rfl ?_
    refine LL.val (R.assign rfl rfl) rfl rfl rfl ?_
    refine LL.nilS ?_
    refine CC.seq ?_
    refine CC.seq ?_
    refine CC.region ?_
    refine LL.val (R.move rfl rfl) rfl rfl rfl ?_
    refine LL.val (R.not rfl rfl) rfl rfl rfl ?_
    refine LL.val (R.move rfl rfl) rfl rfl rfl ?_
    refine LL.val (R.move rfl rfl) rfl rfl rfl ?_
    (refine LL.call (R.call rfl rfl rfl) rfl rfl rfl (within_T _ _ _ _ (by omega)) ?_; rintro e W' ⟨rfl, rfl⟩; refine ⟨_, rfl, ?_⟩)
    refine LL.val (R.not rfl rfl) rfl rfl rfl ?_
    refine LL.val (R.pick rfl rfl rfl) rfl rfl rfl ?_
    refine LL.nilS ?_
    refine CC.no rfl ?_
    refine CC.skip ?_
    refine EE.thenN ?_
    refine CC.seq ?_
    refine CC.region ?_
    refine LL.val (R.move rfl rfl) rfl rfl rfl ?_
    refine LL.val (R.move rfl rfl) rfl rfl rfl ?_
    refine LL.val (R.buildV rfl rfl (v := .agg #[Value.int IntKind.u64 ↑key, Value.int IntKind.i64 ↑slots]) (fun _ => by kernel_rfl)) rfl rfl rfl ?_
    refine LL.val (R.buildV rfl rfl (v := .agg #[Value.int IntKind.u64 ↑key, Value.int IntKind.i64 ↑slots, Value.int IntKind.i64 0, Value.int IntKind.u64 0, Value.int IntKind.u64 0, Value.int IntKind.i64 0, Value.int IntKind.i64 0, Value.int IntKind.u64 0, Value.bool false, Value.bool false, Value.int IntKind.i64 0, Value.nilFunc]) (fun _ => by kernel_rfl)) rfl rfl rfl ?_
    refine LL.box [Value.int IntKind.u64 ↑key, Value.int IntKind.i64 ↑slots, Value.int IntKind.i64 0, Value.int IntKind.u64 0, Value.int IntKind.u64 0, Value.int IntKind.i64 0, Value.int IntKind.i64 0, Value.int IntKind.u64 0, Value.bool false, Value.bool false, Value.int IntKind.i64 0, Value.nilFunc] rfl rfl rfl rfl rfl ?_
    intro Wa162 ga163 ega163 ra164 za165 ba161
    replace ha31 := ha31.up ba161
    replace ba29 := ba29.trans (ba161.mono ba29.size)
    replace q := q.trans (ba161.mono q.size)
    refine LL.val (R.assign rfl rfl) rfl rfl rfl ?_
    refine LL.nilS ?_
    refine CC.seq ?_
    refine CC.region ?_
    refine LL.val (R.move rfl rfl) rfl rfl rfl ?_
    refine LL.val (R.move rfl rfl) rfl rfl rfl ?_
    (refine LL.call (R.callV rfl rfl rfl rfl) rfl rfl rfl (beginUp_any _ (by assumption)) ?_; rintro e Wa190 ⟨rfl, hN, ta189⟩; refine ⟨_, rfl, ?_⟩)
    have zta189 := ta189.size
    replace ba161 := ta189.onB ba161 (fun j hj => ⟨by have := ba161.size; omega, by omega⟩)
    replace ba29 := ta189.onB ba29 (fun j hj => ⟨by have := ba29.size; omega, by omega⟩)
    replace q := ta189.onB q (fun j hj => ⟨by have := q.size; omega, by omega⟩)
    refine LL.nilS ?_
    refine CC.seq ?_
    refine CC.seq ?_
    refine CC.region ?_
    refine LL.val (R.move rfl rfl) rfl rfl rfl ?_
    refine LL.val (R.assign rfl rfl) rfl rfl rfl ?_
    refine LL.val (R.assign rfl rfl) rfl rfl rfl ?_
    refine LL.nilS ?_
    refine CC.ret ?_
    refine EE.thenR ?_
    refine EE.noR ?_
    refine EE.ret _ rfl rfl ?_
    exact ⟨_, rfl, hN, by omega, q⟩
theorem new_F (way slots : Int) (key : Nat) (w : World) (h : (way ≠ 1 ∧ way ≠ 2) ∨ slots < 2 ∨ 28 < slots) : Calls Try.prog 9 #[.int .i64 way, .int .i64 slots, .int .u64 (key : Int)] w fun e w' => e = .returned (.tuple #[.pointer none, .int .i64 2]) ∧ Below w.heap.size w w' := by
  have q := Below.refl w.heap.size w
  refine X.fn Try.func9 rfl (n := 33) rfl rfl ?_
  refine CC.seq ?_
  refine CC.region ?_
  refine LL.val (R.assign rfl rfl) rfl rfl rfl ?_
  refine LL.val (R.assign rfl rfl) rfl rfl rfl ?_
  refine LL.nilS ?_
  refine CC.fwd (l := 0) (α := Unit) (fun _ => []) (fun _ => []) (fun _ w' => Below w.heap.size w w') rfl ?first ?pass
  case pass =>
    intro _ w1 q
    refine CC.seq ?_
    refine CC.skip ?_
    refine EE.thenN ?_
    refine CC.seq ?_
    refine CC.region ?_
    refine LL.val (R.assign rfl rfl) rfl rfl rfl ?_
    refine LL.val (R.assign rfl rfl) rfl rfl rfl ?_
    refine LL.nilS ?_
    refine CC.ret ?_
    refine EE.jumpR ?_
    refine EE.ret _ rfl rfl ?_
    exact ⟨rfl, q⟩
  case first =>
    by_cases h1 : way = 1
    · subst h1
      have h : slots < 2 ∨ 28 < slots := by omega
      refine CC.seq ?_
      refine CC.region ?_
      refine LL.val (R.assign rfl rfl) rfl rfl rfl ?_
      refine LL.nilS ?_
      refine CC.seq ?_
      refine CC.region ?_
      refine LL.call (R.call rfl rfl rfl) rfl rfl rfl (ways_any _) ?_
      rintro e Wb2 ⟨gb4, kb5, rfl, hb3, bb1⟩
      refine ⟨_, rfl, ?_⟩
      have zbb1 := bb1.size
      replace q := q.trans (bb1.mono q.size)
      refine LL.val (R.move rfl rfl) rfl rfl rfl ?_
      (refine LL.val (R.lookKT rfl rfl zKeys rfl rfl (by assumption) (1 : Int) rfl (v := 54) rfl) rfl rfl rfl ?_)
      refine LL.val (R.move rfl rfl) rfl rfl rfl ?_
      refine LL.val (R.extract rfl rfl rfl) rfl rfl rfl ?_
      refine LL.val (R.extract rfl rfl rfl) rfl rfl rfl ?_
      refine LL.val (R.assign rfl rfl) rfl rfl rfl ?_
      refine LL.val (R.assign rfl rfl) rfl rfl rfl ?_
      refine LL.nilS ?_
      refine CC.seq ?_
      refine CC.seq ?_
      refine CC.region ?_
      refine LL.val (R.move rfl rfl) rfl rfl rfl ?_
      refine LL.val (R.not rfl rfl) rfl rfl rfl ?_
      refine LL.val (R.move rfl rfl) rfl rfl rfl ?_
      refine LL.val (R.move rfl rfl) rfl rfl rfl ?_
      (refine LL.call (R.call rfl rfl rfl) rfl rfl rfl (within_F _ _ _ _ (by omega)) ?_; rintro e W' ⟨rfl, rfl⟩; refine ⟨_, rfl, ?_⟩)
      refine LL.val (R.not rfl rfl) rfl rfl rfl ?_
      refine LL.val (R.pick rfl rfl rfl) rfl rfl rfl ?_
      refine LL.nilS ?_
      refine CC.yes rfl ?_
      refine CC.goto ?_
      refine EE.thenG ?_
      exact EE.jumpTo () rfl trivial q
    by_cases h2 : way = 2
    · subst h2
      have h : slots < 2 ∨ 28 < slots := by omega
      refine CC.seq ?_
      refine CC.region ?_
      refine LL.val (R.assign rfl rfl) rfl rfl rfl ?_
      refine LL.nilS ?_
      refine CC.seq ?_
      refine CC.region ?_
      refine LL.call (R.call rfl rfl rfl) rfl rfl rfl (ways_any _) ?_
      rintro e Wc2 ⟨gc4, kc5, rfl, hc3, bc1⟩
      refine ⟨_, rfl, ?_⟩
      have zbc1 := bc1.size
      replace q := q.trans (bc1.mono q.size)
      refine LL.val (R.move rfl rfl) rfl rfl rfl ?_
      (refine LL.val (R.lookKT rfl rfl zKeys rfl rfl (by assumption) (2 : Int) rfl (v := 55) rfl) rfl rfl rfl ?_)
      refine LL.val (R.move rfl rfl) rfl rfl rfl ?_
      refine LL.val (R.extract rfl rfl rfl) rfl rfl rfl ?_
      refine LL.val (R.extract rfl rfl rfl) rfl rfl rfl ?_
      refine LL.val (R.assign rfl rfl) rfl rfl rfl ?_
      refine LL.val (R.assign rfl rfl) rfl rfl rfl ?_
      refine LL.nilS ?_
      refine CC.seq ?_
      refine CC.seq ?_
      refine CC.region ?_
      refine LL.val (R.move rfl rfl) rfl rfl rfl ?_
      refine LL.val (R.not rfl rfl) rfl rfl rfl ?_
      refine LL.val (R.move rfl rfl) rfl rfl rfl ?_
      refine LL.val (R.move rfl rfl) rfl rfl rfl ?_
      (refine LL.call (R.call rfl rfl rfl) rfl rfl rfl (within_F _ _ _ _ (by omega)) ?_; rintro e W' ⟨rfl, rfl⟩; refine ⟨_, rfl, ?_⟩)
      refine LL.val (R.not rfl rfl) rfl rfl rfl ?_
      refine LL.val (R.pick rfl rfl rfl) rfl rfl rfl ?_
      refine LL.nilS ?_
      refine CC.yes rfl ?_
      refine CC.goto ?_
      refine EE.thenG ?_
      exact EE.jumpTo () rfl trivial q
    have hF : waysF way = none := by
      unfold waysF putMap
      rw [if_neg h2, if_neg h1]
    refine CC.seq ?_
    refine CC.region ?_
    refine LL.val (R.assign rfl rfl) rfl rfl rfl ?_
    refine LL.nilS ?_
    refine CC.seq ?_
    refine CC.region ?_
    refine LL.call (R.call rfl rfl rfl) rfl rfl rfl (ways_any _) ?_
    rintro e Wd2 ⟨gd4, kd5, rfl, hd3, bd1⟩
    refine ⟨_, rfl, ?_⟩
    have zbd1 := bd1.size
    replace q := q.trans (bd1.mono q.size)
    refine LL.val (R.move rfl rfl) rfl rfl rfl ?_
    (refine LL.val (R.lookKF rfl rfl zKeys rfl rfl (by assumption) way rfl hF) rfl rfl rfl ?_)
    refine LL.val (R.move rfl rfl) rfl rfl rfl ?_
    refine LL.val (R.extract rfl rfl rfl) rfl rfl rfl ?_
    refine LL.val (R.extract rfl rfl rfl) rfl rfl rfl ?_
    refine LL.val (R.assign rfl rfl) rfl rfl rfl ?_
    refine LL.val (R.assign rfl rfl) rfl rfl rfl ?_
    refine LL.nilS ?_
    refine CC.seq ?_
    refine CC.seq ?_
    refine CC.region ?_
    refine LL.val (R.move rfl rfl) rfl rfl rfl ?_
    refine LL.val (R.not rfl rfl) rfl rfl rfl ?_
    refine LL.val (R.move rfl rfl) rfl rfl rfl ?_
    refine LL.skip rfl rfl ?_
    refine LL.skip rfl rfl ?_
    refine LL.skip rfl rfl ?_
    refine LL.val (R.pick rfl rfl rfl) rfl rfl rfl ?_
    refine LL.nilS ?_
    refine CC.yes rfl ?_
    refine CC.goto ?_
    refine EE.thenG ?_
    exact EE.jumpTo () rfl trivial q
/-- What is a row. -/
def rowOk (left n : Nat) : Prop := left ≠ 0 ∧ n % 2 = 0 ∧ 4 ≤ n ∧ n ≤ 56
instance (left n : Nat) : Decidable (rowOk left n) := by unfold rowOk; infer_instance
theorem fits_T (left n c : Nat) (a : Option Addr) (w : World) (h : rowOk left n) : Calls Try.prog 43 #[.int .u64 (left : Int), .slice a n c] w fun e w' => e = .returned (.bool true) ∧ w = w' := by
  obtain ⟨h1, h2, h3, h4⟩ := h
  refine X.fn Try.func43 rfl (n := 19) rfl rfl ?_
  refine CC.seq ?_
  refine CC.region ?_
  refine LL.val (R.assign rfl rfl) rfl rfl rfl ?_
  refine LL.nilS ?_
  refine CC.seq ?_
  refine CC.region ?_
  refine LL.val (R.move rfl rfl) rfl rfl rfl ?_
  refine LL.val (R.neT rfl rfl rfl (by omega)) rfl rfl rfl ?_
  refine LL.val (R.move rfl rfl) rfl rfl rfl ?_
  refine LL.val (R.move rfl rfl) rfl rfl rfl ?_
  refine LL.val (R.len rfl rfl rfl rfl) rfl rfl rfl ?_
  refine LL.val (R.remNc rfl rfl rfl rfl (by omega)) rfl rfl rfl ?_
  refine LL.val (R.eqT rfl rfl rfl (by omega)) rfl rfl rfl ?_
  refine LL.val (R.pick rfl rfl rfl) rfl rfl rfl ?_
  refine LL.val (R.move rfl rfl) rfl rfl rfl ?_
  refine LL.val (R.move rfl rfl) rfl rfl rfl ?_
  refine LL.val (R.len rfl rfl rfl rfl) rfl rfl rfl ?_
  refine LL.val (R.quoNc rfl rfl rfl rfl (by omega) (by omega)) rfl rfl rfl ?_
  (refine LL.call (R.call rfl rfl rfl) rfl rfl rfl (within_T _ _ _ _ (by omega)) ?_; rintro e W' ⟨rfl, rfl⟩; refine ⟨_, rfl, ?_⟩)
  refine LL.val (R.pick rfl rfl rfl) rfl rfl rfl ?_
  refine LL.val (R.assign rfl rfl) rfl rfl rfl ?_
  refine LL.nilS ?_
  refine CC.ret ?_
  refine EE.ret _ rfl rfl ?_
  exact ⟨rfl, rfl⟩
theorem fits_F (left n c : Nat) (a : Option Addr) (w : World) (h : ¬ rowOk left n) (hn : n ≤ 1048576) : Calls Try.prog 43 #[.int .u64 (left : Int), .slice a n c] w fun e w' => e = .returned (.bool false) ∧ w = w' := by
  by_cases h1 : left = 0
  · clear h
    refine X.fn Try.func43 rfl (n := 19) rfl rfl ?_
    refine CC.seq ?_
    refine CC.region ?_
    refine LL.val (R.assign rfl rfl) rfl rfl rfl ?_
    refine LL.nilS ?_
    refine CC.seq ?_
    refine CC.region ?_
    refine LL.val (R.move rfl rfl) rfl rfl rfl ?_
    refine LL.val (R.neF rfl rfl rfl (by omega)) rfl rfl rfl ?_
    refine LL.val (R.move rfl rfl) rfl rfl rfl ?_
    refine LL.skip rfl rfl ?_
    refine LL.skip rfl rfl ?_
    refine LL.skip rfl rfl ?_
    refine LL.skip rfl rfl ?_
    refine LL.val (R.pick rfl rfl rfl) rfl rfl rfl ?_
    refine LL.val (R.move rfl rfl) rfl rfl rfl ?_
    refine LL.skip rfl rfl ?_
    refine LL.skip rfl rfl ?_
    refine LL.skip rfl rfl ?_
    refine LL.skip rfl rfl ?_
    refine LL.val (R.pick rfl rfl rfl) rfl rfl rfl ?_
    refine LL.val (R.assign rfl rfl) rfl rfl rfl ?_
    refine LL.nilS ?_
    refine CC.ret ?_
    refine EE.ret _ rfl rfl ?_
    exact ⟨rfl, rfl⟩
  by_cases h2 : n % 2 = 0
  case neg =>
    clear h
    refine X.fn Try.func43 rfl (n := 19) rfl rfl ?_
    refine CC.seq ?_
    refine CC.region ?_
    refine LL.val (R.assign rfl rfl) rfl rfl rfl ?_
    refine LL.nilS ?_
    refine CC.seq ?_
    refine CC.region ?_
    refine LL.val (R.move rfl rfl) rfl rfl rfl ?_
    refine LL.val (R.neT rfl rfl rfl (by omega)) rfl rfl rfl ?_
    refine LL.val (R.move rfl rfl) rfl rfl rfl ?_
    refine LL.val (R.move rfl rfl) rfl rfl rfl ?_
    refine LL.val (R.len rfl rfl rfl rfl) rfl rfl rfl ?_
    refine LL.val (R.remNc rfl rfl rfl rfl (by omega)) rfl rfl rfl ?_
    refine LL.val (R.eqF rfl rfl rfl (by omega)) rfl rfl rfl ?_
    refine LL.val (R.pick rfl rfl rfl) rfl rfl rfl ?_
    refine LL.val (R.move rfl rfl) rfl rfl rfl ?_
    refine LL.skip rfl rfl ?_
    refine LL.skip rfl rfl ?_
    refine LL.skip rfl rfl ?_
    refine LL.skip rfl rfl ?_
    refine LL.val (R.pick rfl rfl rfl) rfl rfl rfl ?_
    refine LL.val (R.assign rfl rfl) rfl rfl rfl ?_
    refine LL.nilS ?_
    refine CC.ret ?_
    refine EE.ret _ rfl rfl ?_
    exact ⟨rfl, rfl⟩
  have h3 : n < 4 ∨ 56 < n := by unfold rowOk at h; omega
  clear h
  refine X.fn Try.func43 rfl (n := 19) rfl rfl ?_
  refine CC.seq ?_
  refine CC.region ?_
  refine LL.val (R.assign rfl rfl) rfl rfl rfl ?_
  refine LL.nilS ?_
  refine CC.seq ?_
  refine CC.region ?_
  refine LL.val (R.move rfl rfl) rfl rfl rfl ?_
  refine LL.val (R.neT rfl rfl rfl (by omega)) rfl rfl rfl ?_
  refine LL.val (R.move rfl rfl) rfl rfl rfl ?_
  refine LL.val (R.move rfl rfl) rfl rfl rfl ?_
  refine LL.val (R.len rfl rfl rfl rfl) rfl rfl rfl ?_
  refine LL.val (R.remNc rfl rfl rfl rfl (by omega)) rfl rfl rfl ?_
  refine LL.val (R.eqT rfl rfl rfl (by omega)) rfl rfl rfl ?_
  refine LL.val (R.pick rfl rfl rfl) rfl rfl rfl ?_
  refine LL.val (R.move rfl rfl) rfl rfl rfl ?_
  refine LL.val (R.move rfl rfl) rfl rfl rfl ?_
  refine LL.val (R.len rfl rfl rfl rfl) rfl rfl rfl ?_
  refine LL.val (R.quoNc rfl rfl rfl rfl (by omega) (by omega)) rfl rfl rfl ?_
  (refine LL.call (R.call rfl rfl rfl) rfl rfl rfl (within_F _ _ _ _ (by omega)) ?_; rintro e W' ⟨rfl, rfl⟩; refine ⟨_, rfl, ?_⟩)
  refine LL.val (R.pick rfl rfl rfl) rfl rfl rfl ?_
  refine LL.val (R.assign rfl rfl) rfl rfl rfl ?_
  refine LL.nilS ?_
  refine CC.ret ?_
  refine EE.ret _ rfl rfl ?_
  exact ⟨rfl, rfl⟩
def lwE (x : Int × Nat) : List Value := [.int .i64 x.1, .int .u64 (x.2 : Int)]
theorem over_any (g left n c : Nat) (a : Option Addr) (w : World) : Calls Try.prog 44 #[.pointer (some ⟨g, 0, none⟩), .int .u64 (left : Int), .slice a n c] w fun e w' => ∃ b1 b2 b3, e = .returned (.func (.func 65) #[] [Value.pointer (some ⟨b1, 0, none⟩), .pointer (some ⟨b2, 0, none⟩), .pointer (some ⟨b3, 0, none⟩)].toArray) ∧ RowL w' b1 26 [.pointer (some ⟨g, 0, none⟩)] ∧ RowL w' b2 23 [.int .u64 (left : Int)] ∧ RowL w' b3 24 [.slice a n c] ∧ (w.heap.size ≤ b1 ∧ w.heap.size ≤ b2 ∧ w.heap.size ≤ b3) ∧ Below w.heap.size w w' := by
  have q := Below.refl w.heap.size w
  refine X.fn Try.func44 rfl (n := 8) rfl rfl ?_
  refine CC.seq ?_
  refine CC.region ?_
  refine LL.box [Value.pointer (some { block := g, off := 0 })] rfl rfl rfl rfl rfl ?_
  intro W2 g3 eg3 r4 z5 b1
  replace q := q.trans (b1.mono q.size)
  have l6 := r4.lt
  refine LL.box [Value.int IntKind.u64 ↑left] rfl rfl rfl rfl rfl ?_
  intro W8 g9 eg9 r10 z11 b7
  replace r4 := r4.up b7
  replace b1 := b1.trans (b7.mono b1.size)
  replace q := q.trans (b7.mono q.size)
  have l12 := r10.lt
  have l13 := r4.lt
  refine LL.box [Value.slice a n c] rfl rfl rfl rfl rfl ?_
  intro W15 g16 eg16 r17 z18 b14
  replace r10 := r10.up b14
  replace b7 := b7.trans (b14.mono b7.size)
  replace r4 := r4.up b14
  replace b1 := b1.trans (b14.mono b1.size)
  replace q := q.trans (b14.mono q.size)
  refine LL.val (R.assign rfl rfl) rfl rfl rfl ?_
  refine LL.nilS ?_
  refine CC.seq ?_
  refine CC.region ?_
  refine LL.val (R.func rfl rfl rfl) rfl rfl rfl ?_
  refine LL.val (R.assign rfl rfl) rfl rfl rfl ?_
  refine LL.nilS ?_
  refine CC.ret ?_
  refine EE.ret _ rfl rfl ?_
  exact ⟨_, _, _, rfl, by assumption, by assumption, by assumption, ⟨by omega, by omega, by omega⟩, q⟩
end Go.Proofs.Ytloflmkolnediaa

/- slots: the pairs that are read, one by one. -/
namespace Go.Proofs.Ytloflmkolnediaa
set_option linter.unusedVariables false
set_option linter.unusedSimpArgs false
open Go.RowKit Go.Shelf
/-- A pair: its key, its pointer. -/
abbrev Pr := Nat × Nat
def prE (p : Pr) : List Value := [.int .u64 (p.1 : Int), .int .u64 (p.2 : Int)]
theorem prEnc : Enc prE 2 := ⟨fun _ => rfl, fun t u hu => by
  simp only [prE, List.mem_cons, List.not_mem_nil, or_false] at hu
  rcases hu with rfl | rfl <;> rfl, by decide⟩
def spE (x : Nat × Pr) : List Value := [.int .i64 (x.1 : Int), .agg (prE x.2).toArray]
def prA (s : List Nat) (j : Nat) : Pr := (keyN s j, ptrN s j)
/-- The pairs that are read of the first slots, each with its slot. -/
def pairF (left : Nat) (s : List Nat) : Nat → List (Nat × Pr)
  | 0 => []
  | j + 1 => if ptrN s j = aheadN left s j then pairF left s j else pairF left s j ++ [(j, prA s j)]
def pairS (left : Nat) (s : List Nat) : List (Nat × Pr) := pairF left s (overN s)
def pairP (left : Nat) (s : List Nat) : List Pr := (pairS left s).map (·.2)
theorem pairF_succ (left : Nat) (s : List Nat) (j : Nat) : pairF left s (j + 1) = if ptrN s j = aheadN left s j then pairF left s j else pairF left s j ++ [(j, prA s j)] := rfl
theorem pairF_pre (left : Nat) (s : List Nat) (j k : Nat) (h : j ≤ k) : pairF left s j <+: pairF left s k := by
  induction k with
  | zero =>
    obtain rfl : j = 0 := by omega
    exact List.prefix_refl _
  | succ k ih =>
    by_cases e : j = k + 1
    · subst e; exact List.prefix_refl _
    · refine (ih (by omega)).trans ?_
      rw [pairF_succ left s k]
      split
      · exact List.prefix_refl _
      · exact List.prefix_append _ _
theorem pairF_len (left : Nat) (s : List Nat) (j : Nat) : (pairF left s j).length ≤ j := by
  induction j with
  | zero => simp [pairF]
  | succ j ih =>
    rw [pairF_succ]
    split
    · omega
    · simp; omega
theorem pairF_lt {left : Nat} {s : List Nat} : ∀ {j : Nat} {x : Nat × Pr}, x ∈ pairF left s j → x.1 < j ∧ x.2 = prA s x.1 ∧ ptrN s x.1 ≠ aheadN left s x.1
  | 0, _, h => by simp [pairF] at h
  | j + 1, x, h => by
    rw [pairF_succ] at h
    split at h
    · have := pairF_lt h
      exact ⟨by omega, this.2⟩
    · rename_i hne
      rcases List.mem_append.1 h with h | h
      · have := pairF_lt h
        exact ⟨by omega, this.2⟩
      · simp only [List.mem_singleton] at h
        subst h
        exact ⟨by simp, rfl, hne⟩
theorem pairS_len (left : Nat) (s : List Nat) : (pairS left s).length ≤ s.length / 2 := Nat.le_trans (pairF_len _ _ _) (over_le s)
set_option maxRecDepth 100000
set_option maxHeartbeats 4000000
theorem ReadsT.keepB {w w' : World} {a : Option Addr} {n c bkl : Nat} {s : List Nat} {D : Nat → Prop} (h : ReadsT uE 1 w (.slice a n c) s) (hs : w.heap.size ≤ w'.heap.size) (hk : Keeps D w w') (hbl : ∀ b off, a = some ⟨b, off, none⟩ → 0 < n → b = bkl) (hD : D bkl) : ReadsT uE 1 w' (.slice a n c) s := by
  obtain ⟨a', cap, e, hc, h'⟩ := h
  cases e
  refine ⟨_, _, rfl, hc, fun hne => ?_⟩
  obtain ⟨b, off, ha, hb, hcell⟩ := h' hne
  refine ⟨b, off, ha, Nat.lt_of_lt_of_le hb hs, fun j hj => ?_⟩
  obtain rfl := hbl b off ha (List.length_pos_iff.2 hne)
  exact (World.cell?_of_block (hk.same b hD)).trans (hcell j hj)
end Go.Proofs.Ytloflmkolnediaa

/- slots: the pairs in a list; a key's slot. -/
namespace Go.Proofs.Ytloflmkolnediaa
set_option linter.unusedVariables false
set_option linter.unusedSimpArgs false
open Go.RowKit Go.Shelf
theorem Try.infoPr : (Try.prog.info? 70).map (fun i => (i.zero, i.size, i.bytes)) = some (some (.agg #[.int .u64 0, .int .u64 0]), 2, 16) := by kernel_rfl
theorem ElPr : ElT Try.prog 63 70 (.agg #[.int .u64 0, .int .u64 0]) 2 16 := info_parts_t Try.underlying63 Try.infoPr rfl
set_option maxRecDepth 100000
set_option maxHeartbeats 4000000
theorem bkl_row {w : World} {a : Option Addr} {n c : Nat} {s : List Nat} (hv : ReadsT uE 1 w (.slice a n c) s) (bk : Nat) : ∃ bkl, (∀ b off, a = some ⟨b, off, none⟩ → 0 < n → b = bkl) ∧ (bkl = bk ∨ bkl < w.heap.size) := by
  obtain ⟨a', cap, e, hc, h'⟩ := hv
  cases e
  by_cases hne : s = []
  · subst hne
    exact ⟨bk, fun _ _ _ h0 => absurd h0 (Nat.lt_irrefl 0), .inl rfl⟩
  · obtain ⟨b, off, ha, hb, _⟩ := h' hne
    exact ⟨b, fun b' off' e _ => by rw [ha] at e; cases e; rfl, .inr hb⟩
end Go.Proofs.Ytloflmkolnediaa

/- slots: which rows are settled. -/
namespace Go.Proofs.Ytloflmkolnediaa
set_option linter.unusedVariables false
set_option linter.unusedSimpArgs false
open Go.RowKit Go.Shelf
/-- What 'settled' asks of a pair, of those ahead of it. -/
def goodP (left : Nat) (s : List Nat) (ps : List Pr) (j : Nat) : Prop := ps[j]? = some (prA s j) ∧ ptrN s j ∉ left :: (ps.take j).map (·.2) ∧ (0 < j → ∀ y, ps[j - 1]? = some y → y.1 < keyN s j)
def setP (left : Nat) (s : List Nat) : Prop := (pairP left s).length < s.length / 2 ∧ (∀ j, j < (pairP left s).length → goodP left s (pairP left s) j) ∧ ∀ j, (pairP left s).length ≤ j → j < s.length / 2 → ptrN s j = 0
set_option maxRecDepth 100000
set_option maxHeartbeats 4000000
end Go.Proofs.Ytloflmkolnediaa

/- slots: settled rows, by their slots; a key's slot; what is refused. -/
namespace Go.Proofs.Ytloflmkolnediaa
set_option linter.unusedVariables false
set_option linter.unusedSimpArgs false
open Go.RowKit Go.Shelf
/-- A settled row of so many pairs. -/
structure Stl (left : Nat) (s : List Nat) (n : Nat) : Prop where
  lt : n < s.length / 2
  ne : ∀ j, j < n → ptrN s j ≠ 0
  z : ∀ j, n ≤ j → j < s.length / 2 → ptrN s j = 0
  nl : ∀ j, j < n → ptrN s j ≠ left
  dis : ∀ i j, i < j → j < n → ptrN s i ≠ ptrN s j
  up : ∀ j, j + 1 < n → keyN s j < keyN s (j + 1)
theorem Stl.over {left : Nat} {s : List Nat} {n : Nat} (h : Stl left s n) : overN s = n := over_eq (by have := h.lt; omega) h.ne (.inr (h.z n (Nat.le_refl _) h.lt))
theorem Stl.aheadNe {left : Nat} {s : List Nat} {n j : Nat} (h : Stl left s n) (hj : j < n) : ptrN s j ≠ aheadN left s j := by
  unfold aheadN
  split
  · exact h.nl j hj
  · exact fun e => h.dis (j - 1) j (by omega) hj e.symm
theorem pairF_all {left : Nat} {s : List Nat} : ∀ {j : Nat}, (∀ i, i < j → ptrN s i ≠ aheadN left s i) → pairF left s j = (List.range j).map fun i => (i, prA s i)
  | 0, _ => rfl
  | j + 1, h => by
    rw [pairF_succ, if_neg (h j (by omega)), pairF_all (fun i hi => h i (by omega)), List.range_succ, List.map_append]
    rfl
theorem Stl.pairS {left : Nat} {s : List Nat} {n : Nat} (h : Stl left s n) : pairS left s = (List.range n).map fun i => (i, prA s i) := by
  unfold Go.Proofs.Ytloflmkolnediaa.pairS
  rw [h.over]
  exact pairF_all fun i hi => h.aheadNe hi
theorem Stl.pairP {left : Nat} {s : List Nat} {n : Nat} (h : Stl left s n) : pairP left s = (List.range n).map (prA s) := by
  unfold Go.Proofs.Ytloflmkolnediaa.pairP
  rw [h.pairS, List.map_map]
  rfl
theorem pairF_full {left : Nat} {s : List Nat} : ∀ {j : Nat}, (pairF left s j).length = j → ∀ i, i < j → ptrN s i ≠ aheadN left s i
  | 0, _, _, h => by omega
  | j + 1, hl, i, hi => by
    rw [pairF_succ] at hl
    by_cases e : ptrN s j = aheadN left s j
    · rw [if_pos e] at hl
      have := pairF_len left s j
      omega
    · rw [if_neg e] at hl
      simp only [List.length_append, List.length_cons, List.length_nil] at hl
      by_cases hij : i = j
      · subst hij; exact e
      · exact pairF_full (j := j) (by omega) i (by omega)
theorem range_map_get {α : Type} {f : Nat → α} {n j : Nat} (h : j < n) : ((List.range n).map f)[j]? = some (f j) := by
  rw [List.getElem?_map, List.getElem?_range h]
  rfl
theorem setP_iff {left : Nat} {s : List Nat} : setP left s ↔ ∃ n, Stl left s n := by
  constructor
  · rintro ⟨h1, h2, h3⟩
    obtain ⟨n, en⟩ : ∃ n, (pairP left s).length = n := ⟨_, rfl⟩
    rw [en] at h1 h2 h3
    have hn : (pairF left s (overN s)).length = n := by rw [← en]; unfold pairP pairS; rw [List.length_map]
    have ho1 : n ≤ overN s := by rw [← hn]; exact pairF_len _ _ _
    have ho2 : overN s ≤ n := by
      rcases Nat.lt_or_ge n (overN s) with h | h
      · exact absurd (h3 n (Nat.le_refl _) h1) (over_ne h)
      · exact h
    have ho : overN s = n := by omega
    rw [ho] at hn
    have hne := pairF_full hn
    have hP : pairP left s = (List.range n).map (prA s) := by
      unfold pairP pairS
      rw [ho, pairF_all hne, List.map_map]
      rfl
    rw [hP] at h2
    have htk : ∀ j, j < n → ((List.range n).map (prA s)).take j = (List.range j).map (prA s) := fun j hj => by
      rw [← List.map_take, List.take_range, Nat.min_eq_left (by omega)]
    refine ⟨n, h1, fun j hj => over_ne (by omega), h3, fun j hj e => ?_, fun i j hij hj e => ?_, fun j hj => ?_⟩
    · exact (h2 j hj).2.1 (by rw [e]; exact List.mem_cons_self ..)
    · refine (h2 j hj).2.1 ?_
      rw [htk j hj]
      refine List.mem_cons_of_mem _ (List.mem_map.2 ⟨prA s i, List.mem_map.2 ⟨i, List.mem_range.2 hij, rfl⟩, e⟩)
    · exact (h2 (j + 1) hj).2.2 (by omega) (prA s j) (range_map_get (by omega))
  · rintro ⟨n, h⟩
    have hP := h.pairP
    have hl : ((List.range n).map (prA s)).length = n := by simp
    refine ⟨by rw [hP, hl]; exact h.lt, fun j hj => ?_, fun j h1 h2 => h.z j (by rw [hP, hl] at h1; exact h1) h2⟩
    rw [hP] at hj ⊢
    rw [hl] at hj
    refine ⟨range_map_get hj, fun hm => ?_, fun h0 y hy => ?_⟩
    · rcases List.mem_cons.1 hm with e | hm
      · exact h.nl j hj e
      · obtain ⟨y, hy, e⟩ := List.mem_map.1 hm
        rw [← List.map_take, List.take_range, Nat.min_eq_left (by omega)] at hy
        obtain ⟨i, hi, rfl⟩ := List.mem_map.1 hy
        exact h.dis i j (List.mem_range.1 hi) hj e
    · rw [range_map_get (by omega)] at hy
      cases hy
      have := h.up (j - 1) (by omega)
      rw [show j - 1 + 1 = j by omega] at this
      exact this
/-- A key's slot. -/
def findN (l : List (Nat × Pr)) (key : Nat) : Nat × Bool := match l.find? fun x => x.2.1 == key with
  | some x => (x.1, true)
  | none => (0, false)
theorem findN_snoc {l : List (Nat × Pr)} {key : Nat} {x : Nat × Pr} (h : ∀ y ∈ l, y.2.1 ≠ key) (hx : x.2.1 ≠ key) : ∀ y ∈ l ++ [x], y.2.1 ≠ key := fun y hy => by
  rcases List.mem_append.1 hy with hy | hy
  · exact h y hy
  · rw [List.mem_singleton.1 hy]; exact hx
theorem findN_none {l : List (Nat × Pr)} {key : Nat} (h : ∀ y ∈ l, y.2.1 ≠ key) : findN l key = (0, false) := by
  unfold findN
  rw [List.find?_eq_none.2 fun y hy => by simpa using h y hy]
theorem findN_at {l : List (Nat × Pr)} {pre t : List (Nat × Pr)} {key : Nat} {x : Nat × Pr} (h : ∀ y ∈ pre, y.2.1 ≠ key) (hx : x.2.1 = key) (hl : pre ++ [x] ++ t = l) : findN l key = (x.1, true) := by
  unfold findN
  rw [← hl, List.append_assoc, List.find?_append, List.find?_eq_none.2 fun y hy => by simpa using h y hy]
  simp [hx]
end Go.Proofs.Ytloflmkolnediaa

/- slots: find; refuse; what may not come in. -/
namespace Go.Proofs.Ytloflmkolnediaa
set_option linter.unusedVariables false
set_option linter.unusedSimpArgs false
open Go.RowKit Go.Shelf
set_option maxRecDepth 100000
set_option maxHeartbeats 4000000
end Go.Proofs.Ytloflmkolnediaa

/- slots: which pairs may not come in. -/
namespace Go.Proofs.Ytloflmkolnediaa
set_option linter.unusedVariables false
set_option linter.unusedSimpArgs false
open Go.RowKit Go.Shelf
set_option maxRecDepth 100000
set_option maxHeartbeats 4000000
end Go.Proofs.Ytloflmkolnediaa

/- slots: a change under way; the closure that stores. -/
namespace Go.Proofs.Ytloflmkolnediaa
set_option linter.unusedVariables false
set_option linter.unusedSimpArgs false
open Go.RowKit Go.Shelf
set_option maxRecDepth 100000
/-- A store: where, and what. An act: its kind, where, and what. -/
abbrev Pt := Int × Nat

def pE (p : Pt) : List Value := [.int .i64 p.1, .int .u64 (p.2 : Int)]

theorem pEnc : Enc pE 2 := ⟨fun _ => rfl, fun t u hu => by
  simp only [pE, List.mem_cons, List.not_mem_nil, or_false] at hu
  rcases hu with rfl | rfl <;> rfl, by decide⟩

theorem Try.infoPut : (Try.prog.info? 99).map (fun i => (i.zero, i.size, i.bytes)) = some (some (.agg #[.int .i64 0, .int .u64 0]), 2, 16) := by kernel_rfl

theorem ElPut : ElT Try.prog 72 99 (.agg #[.int .i64 0, .int .u64 0]) 2 16 := info_parts_t Try.underlying72 Try.infoPut rfl

theorem OwnsT.keptO {α : Type} {enc : α → List Value} {k : Nat} {w w' : World} {base e : Nat} {v : Value} {ts : List α} (h : OwnsT enc k w base e v ts) (hk : ∀ b, v.ownBlock = some b → w'.heap[b]? = w.heap[b]?) : OwnsT enc k w' base e v ts := by
  refine ⟨h.1, ?_⟩
  rcases h.2 with h2 | ⟨g', cap, cur, rfl, hbg, hb, h3⟩
  · exact .inl h2
  · exact .inr ⟨g', cap, cur, rfl, hbg, (hk g' rfl).trans hb, h3⟩

theorem uclone_any (v : Value) (xs : List Nat) (w : World) (ha : ReadsT uE 1 w v xs) (hl : xs.length ≤ 1048576) :
    Calls Try.prog 46 #[v] w fun e w' => ∃ v', e = .returned v' ∧ OwnsT uE 1 w' w.heap.size 23 v' xs ∧ Below w.heap.size w w' := by
  obtain ⟨a, cap, rfl, hc⟩ := ha.form rfl
  refine X.fn Try.func46 rfl (n := 8) rfl rfl ?_
  (repeat (first | (first | refine CC.seq ?_ | refine CC.region ?_ | refine LL.nilS ?_ | refine CC.yes rfl ?_ | refine CC.no rfl ?_ | refine CC.block ?_ | refine EE.thenN ?_ | refine LL.nil ?_ | refine CC.exit ?_ | refine CC.ret ?_ | refine CC.skip ?_ | refine EE.thenX ?_ | refine EE.thenR ?_ | refine EE.inN ?_ | refine EE.inX ?_ | refine EE.inX' rfl ?_ | refine EE.inR ?_ | refine CC.label ?_ | refine EE.thenG ?_ | refine EE.inG ?_) | (first | refine LL.val (R.move rfl rfl) rfl rfl rfl ?_ | refine LL.val (R.assign rfl rfl) rfl rfl rfl ?_ | refine LL.val (R.nil rfl rfl) rfl rfl rfl ?_ | refine LL.val (R.field rfl rfl (I.fld rfl)) rfl rfl rfl ?_ | refine LL.val (R.load rfl rfl (I.ld1 rfl (by assumption))) rfl rfl rfl ?_ | refine LL.val (R.load rfl rfl (I.ld1 rfl (RowL.cell (by assumption) rfl))) rfl rfl rfl ?_ | refine LL.val (R.index rfl rfl rfl (I.ixA1c rfl rfl (by first | omega | decide))) rfl rfl rfl ?_ | refine LL.val (R.index rfl rfl rfl (I.ixS1c rfl rfl (by omega))) rfl rfl rfl ?_ | refine LL.val (R.index rfl rfl rfl (I.ixAc rfl rfl (by first | omega | decide))) rfl rfl rfl ?_ | refine LL.val (R.index rfl rfl rfl (I.ixSc rfl rfl (by omega))) rfl rfl rfl ?_ | refine LL.val (R.index rfl rfl rfl (I.ixA1 rfl (by omega))) rfl rfl rfl ?_ | refine LL.val (R.index rfl rfl rfl (I.ixS1 rfl (by omega))) rfl rfl rfl ?_ | refine LL.val (R.index rfl rfl rfl (I.ixA rfl (by omega))) rfl rfl rfl ?_ | refine LL.val (R.index rfl rfl rfl (I.ixS rfl (by omega))) rfl rfl rfl ?_ | refine LL.val (R.ltT rfl rfl rfl (by omega)) rfl rfl rfl ?_ | refine LL.val (R.ltF rfl rfl rfl (by omega)) rfl rfl rfl ?_ | refine LL.val (R.addNc rfl rfl rfl rfl (by omega)) rfl rfl rfl ?_ | refine LL.val (R.subNc rfl rfl rfl rfl (by omega) (by omega)) rfl rfl rfl ?_ | refine LL.val (R.addN rfl rfl rfl (by omega)) rfl rfl rfl ?_ | refine LL.val (R.subN rfl rfl rfl (by omega) (by omega)) rfl rfl rfl ?_ | refine LL.val (R.subcN rfl rfl rfl rfl (by omega) (by omega)) rfl rfl rfl ?_ | refine LL.val (R.addI rfl rfl rfl (by omega)) rfl rfl rfl ?_ | refine LL.val (R.subI rfl rfl rfl (by omega)) rfl rfl rfl ?_ | refine LL.val (R.mulNc rfl rfl rfl rfl (by omega)) rfl rfl rfl ?_ | refine LL.val (R.mulcN rfl rfl rfl rfl (by omega)) rfl rfl rfl ?_ | refine LL.val (R.quoNc rfl rfl rfl rfl (by omega) (by omega)) rfl rfl rfl ?_ | refine LL.val (R.remNc rfl rfl rfl rfl (by omega)) rfl rfl rfl ?_ | refine LL.val (R.mulN rfl rfl rfl (by omega)) rfl rfl rfl ?_ | refine LL.val (R.quoN rfl rfl rfl (by omega) (by omega)) rfl rfl rfl ?_ | refine LL.val (R.remN rfl rfl rfl (by omega)) rfl rfl rfl ?_ | refine LL.val (R.leT rfl rfl rfl (by omega)) rfl rfl rfl ?_ | refine LL.val (R.leF rfl rfl rfl (by omega)) rfl rfl rfl ?_ | refine LL.val (R.gtT rfl rfl rfl (by omega)) rfl rfl rfl ?_ | refine LL.val (R.gtF rfl rfl rfl (by omega)) rfl rfl rfl ?_ | refine LL.val (R.geT rfl rfl rfl (by omega)) rfl rfl rfl ?_ | refine LL.val (R.geF rfl rfl rfl (by omega)) rfl rfl rfl ?_ | refine LL.val (R.eqT rfl rfl rfl (by omega)) rfl rfl rfl ?_ | refine LL.val (R.eqF rfl rfl rfl (by omega)) rfl rfl rfl ?_ | refine LL.val (R.neT rfl rfl rfl (by omega)) rfl rfl rfl ?_ | refine LL.val (R.neF rfl rfl rfl (by omega)) rfl rfl rfl ?_ | refine LL.val (R.eqPtr rfl rfl rfl rfl rfl) rfl rfl rfl ?_ | refine LL.val (R.nePtr rfl rfl rfl rfl rfl) rfl rfl rfl ?_ | refine LL.val (R.eqSl rfl rfl rfl rfl rfl) rfl rfl rfl ?_ | refine LL.val (R.neSl rfl rfl rfl rfl rfl) rfl rfl rfl ?_ | refine LL.val (R.eqFn rfl rfl rfl rfl) rfl rfl rfl ?_ | refine LL.val (R.eqBool rfl rfl rfl rfl rfl) rfl rfl rfl ?_ | refine LL.val (R.neBool rfl rfl rfl rfl rfl) rfl rfl rfl ?_ | refine LL.val (R.xorU rfl rfl rfl (by first | omega | decide) (by first | omega | decide)) rfl rfl rfl ?_ | refine LL.val (R.addUN rfl rfl rfl (by omega)) rfl rfl rfl ?_ | refine LL.val (R.not rfl rfl) rfl rfl rfl ?_ | refine LL.val (R.lenS rfl rfl rfl rfl) rfl rfl rfl ?_ | refine LL.val (R.len rfl rfl rfl rfl) rfl rfl rfl ?_ | refine LL.val (R.pick rfl rfl rfl) rfl rfl rfl ?_ | refine LL.val (R.extract rfl rfl rfl) rfl rfl rfl ?_ | refine LL.val (R.func rfl rfl rfl) rfl rfl rfl ?_ | refine LL.val (R.slice rfl rfl rfl rfl rfl (I.slA rfl)) rfl rfl rfl ?_ | refine LL.val (R.slice rfl rfl rfl rfl rfl (I.slAto rfl (by omega))) rfl rfl rfl ?_) | refine LL.skip rfl rfl ?_))
  cases a with
  | none =>
    have hx : xs = [] := by
      obtain ⟨a', cap', e, _, h⟩ := ha
      cases e
      rcases Classical.em (xs = []) with h0 | h0
      · exact h0
      · obtain ⟨_, _, h1, _⟩ := h h0
        cases h1
    subst hx
    (repeat (first | (first | refine CC.seq ?_ | refine CC.region ?_ | refine LL.nilS ?_ | refine CC.yes rfl ?_ | refine CC.no rfl ?_ | refine CC.block ?_ | refine EE.thenN ?_ | refine LL.nil ?_ | refine CC.exit ?_ | refine CC.ret ?_ | refine CC.skip ?_ | refine EE.thenX ?_ | refine EE.thenR ?_ | refine EE.inN ?_ | refine EE.inX ?_ | refine EE.inX' rfl ?_ | refine EE.inR ?_ | refine CC.label ?_ | refine EE.thenG ?_ | refine EE.inG ?_) | (first | refine LL.val (R.move rfl rfl) rfl rfl rfl ?_ | refine LL.val (R.assign rfl rfl) rfl rfl rfl ?_ | refine LL.val (R.nil rfl rfl) rfl rfl rfl ?_ | refine LL.val (R.field rfl rfl (I.fld rfl)) rfl rfl rfl ?_ | refine LL.val (R.load rfl rfl (I.ld1 rfl (by assumption))) rfl rfl rfl ?_ | refine LL.val (R.load rfl rfl (I.ld1 rfl (RowL.cell (by assumption) rfl))) rfl rfl rfl ?_ | refine LL.val (R.index rfl rfl rfl (I.ixA1c rfl rfl (by first | omega | decide))) rfl rfl rfl ?_ | refine LL.val (R.index rfl rfl rfl (I.ixS1c rfl rfl (by omega))) rfl rfl rfl ?_ | refine LL.val (R.index rfl rfl rfl (I.ixAc rfl rfl (by first | omega | decide))) rfl rfl rfl ?_ | refine LL.val (R.index rfl rfl rfl (I.ixSc rfl rfl (by omega))) rfl rfl rfl ?_ | refine LL.val (R.index rfl rfl rfl (I.ixA1 rfl (by omega))) rfl rfl rfl ?_ | refine LL.val (R.index rfl rfl rfl (I.ixS1 rfl (by omega))) rfl rfl rfl ?_ | refine LL.val (R.index rfl rfl rfl (I.ixA rfl (by omega))) rfl rfl rfl ?_ | refine LL.val (R.index rfl rfl rfl (I.ixS rfl (by omega))) rfl rfl rfl ?_ | refine LL.val (R.ltT rfl rfl rfl (by omega)) rfl rfl rfl ?_ | refine LL.val (R.ltF rfl rfl rfl (by omega)) rfl rfl rfl ?_ | refine LL.val (R.addNc rfl rfl rfl rfl (by omega)) rfl rfl rfl ?_ | refine LL.val (R.subNc rfl rfl rfl rfl (by omega) (by omega)) rfl rfl rfl ?_ | refine LL.val (R.addN rfl rfl rfl (by omega)) rfl rfl rfl ?_ | refine LL.val (R.subN rfl rfl rfl (by omega) (by omega)) rfl rfl rfl ?_ | refine LL.val (R.subcN rfl rfl rfl rfl (by omega) (by omega)) rfl rfl rfl ?_ | refine LL.val (R.addI rfl rfl rfl (by omega)) rfl rfl rfl ?_ | refine LL.val (R.subI rfl rfl rfl (by omega)) rfl rfl rfl ?_ | refine LL.val (R.mulNc rfl rfl rfl rfl (by omega)) rfl rfl rfl ?_ | refine LL.val (R.mulcN rfl rfl rfl rfl (by omega)) rfl rfl rfl ?_ | refine LL.val (R.quoNc rfl rfl rfl rfl (by omega) (by omega)) rfl rfl rfl ?_ | refine LL.val (R.remNc rfl rfl rfl rfl (by omega)) rfl rfl rfl ?_ | refine LL.val (R.mulN rfl rfl rfl (by omega)) rfl rfl rfl ?_ | refine LL.val (R.quoN rfl rfl rfl (by omega) (by omega)) rfl rfl rfl ?_ | refine LL.val (R.remN rfl rfl rfl (by omega)) rfl rfl rfl ?_ | refine LL.val (R.leT rfl rfl rfl (by omega)) rfl rfl rfl ?_ | refine LL.val (R.leF rfl rfl rfl (by omega)) rfl rfl rfl ?_ | refine LL.val (R.gtT rfl rfl rfl (by omega)) rfl rfl rfl ?_ | refine LL.val (R.gtF rfl rfl rfl (by omega)) rfl rfl rfl ?_ | refine LL.val (R.geT rfl rfl rfl (by omega)) rfl rfl rfl ?_ | refine LL.val (R.geF rfl rfl rfl (by omega)) rfl rfl rfl ?_ | refine LL.val (R.eqT rfl rfl rfl (by omega)) rfl rfl rfl ?_ | refine LL.val (R.eqF rfl rfl rfl (by omega)) rfl rfl rfl ?_ | refine LL.val (R.neT rfl rfl rfl (by omega)) rfl rfl rfl ?_ | refine LL.val (R.neF rfl rfl rfl (by omega)) rfl rfl rfl ?_ | refine LL.val (R.eqPtr rfl rfl rfl rfl rfl) rfl rfl rfl ?_ | refine LL.val (R.nePtr rfl rfl rfl rfl rfl) rfl rfl rfl ?_ | refine LL.val (R.eqSl rfl rfl rfl rfl rfl) rfl rfl rfl ?_ | refine LL.val (R.neSl rfl rfl rfl rfl rfl) rfl rfl rfl ?_ | refine LL.val (R.eqFn rfl rfl rfl rfl) rfl rfl rfl ?_ | refine LL.val (R.eqBool rfl rfl rfl rfl rfl) rfl rfl rfl ?_ | refine LL.val (R.neBool rfl rfl rfl rfl rfl) rfl rfl rfl ?_ | refine LL.val (R.xorU rfl rfl rfl (by first | omega | decide) (by first | omega | decide)) rfl rfl rfl ?_ | refine LL.val (R.addUN rfl rfl rfl (by omega)) rfl rfl rfl ?_ | refine LL.val (R.not rfl rfl) rfl rfl rfl ?_ | refine LL.val (R.lenS rfl rfl rfl rfl) rfl rfl rfl ?_ | refine LL.val (R.len rfl rfl rfl rfl) rfl rfl rfl ?_ | refine LL.val (R.pick rfl rfl rfl) rfl rfl rfl ?_ | refine LL.val (R.extract rfl rfl rfl) rfl rfl rfl ?_ | refine LL.val (R.func rfl rfl rfl) rfl rfl rfl ?_ | refine LL.val (R.slice rfl rfl rfl rfl rfl (I.slA rfl)) rfl rfl rfl ?_ | refine LL.val (R.slice rfl rfl rfl rfl rfl (I.slAto rfl (by omega))) rfl rfl rfl ?_) | refine LL.skip rfl rfl ?_))
    refine EE.ret _ rfl rfl ?_
    exact ⟨_, rfl, OwnsT.none _ _ _, Below.refl _ _⟩
  | some p =>
    (repeat (first | (first | refine CC.seq ?_ | refine CC.region ?_ | refine LL.nilS ?_ | refine CC.yes rfl ?_ | refine CC.no rfl ?_ | refine CC.block ?_ | refine EE.thenN ?_ | refine LL.nil ?_ | refine CC.exit ?_ | refine CC.ret ?_ | refine CC.skip ?_ | refine EE.thenX ?_ | refine EE.thenR ?_ | refine EE.inN ?_ | refine EE.inX ?_ | refine EE.inX' rfl ?_ | refine EE.inR ?_ | refine CC.label ?_ | refine EE.thenG ?_ | refine EE.inG ?_) | (first | refine LL.val (R.move rfl rfl) rfl rfl rfl ?_ | refine LL.val (R.assign rfl rfl) rfl rfl rfl ?_ | refine LL.val (R.nil rfl rfl) rfl rfl rfl ?_ | refine LL.val (R.field rfl rfl (I.fld rfl)) rfl rfl rfl ?_ | refine LL.val (R.load rfl rfl (I.ld1 rfl (by assumption))) rfl rfl rfl ?_ | refine LL.val (R.load rfl rfl (I.ld1 rfl (RowL.cell (by assumption) rfl))) rfl rfl rfl ?_ | refine LL.val (R.index rfl rfl rfl (I.ixA1c rfl rfl (by first | omega | decide))) rfl rfl rfl ?_ | refine LL.val (R.index rfl rfl rfl (I.ixS1c rfl rfl (by omega))) rfl rfl rfl ?_ | refine LL.val (R.index rfl rfl rfl (I.ixAc rfl rfl (by first | omega | decide))) rfl rfl rfl ?_ | refine LL.val (R.index rfl rfl rfl (I.ixSc rfl rfl (by omega))) rfl rfl rfl ?_ | refine LL.val (R.index rfl rfl rfl (I.ixA1 rfl (by omega))) rfl rfl rfl ?_ | refine LL.val (R.index rfl rfl rfl (I.ixS1 rfl (by omega))) rfl rfl rfl ?_ | refine LL.val (R.index rfl rfl rfl (I.ixA rfl (by omega))) rfl rfl rfl ?_ | refine LL.val (R.index rfl rfl rfl (I.ixS rfl (by omega))) rfl rfl rfl ?_ | refine LL.val (R.ltT rfl rfl rfl (by omega)) rfl rfl rfl ?_ | refine LL.val (R.ltF rfl rfl rfl (by omega)) rfl rfl rfl ?_ | refine LL.val (R.addNc rfl rfl rfl rfl (by omega)) rfl rfl rfl ?_ | refine LL.val (R.subNc rfl rfl rfl rfl (by omega) (by omega)) rfl rfl rfl ?_ | refine LL.val (R.addN rfl rfl rfl (by omega)) rfl rfl rfl ?_ | refine LL.val (R.subN rfl rfl rfl (by omega) (by omega)) rfl rfl rfl ?_ | refine LL.val (R.subcN rfl rfl rfl rfl (by omega) (by omega)) rfl rfl rfl ?_ | refine LL.val (R.addI rfl rfl rfl (by omega)) rfl rfl rfl ?_ | refine LL.val (R.subI rfl rfl rfl (by omega)) rfl rfl rfl ?_ | refine LL.val (R.mulNc rfl rfl rfl rfl (by omega)) rfl rfl rfl ?_ | refine LL.val (R.mulcN rfl rfl rfl rfl (by omega)) rfl rfl rfl ?_ | refine LL.val (R.quoNc rfl rfl rfl rfl (by omega) (by omega)) rfl rfl rfl ?_ | refine LL.val (R.remNc rfl rfl rfl rfl (by omega)) rfl rfl rfl ?_ | refine LL.val (R.mulN rfl rfl rfl (by omega)) rfl rfl rfl ?_ | refine LL.val (R.quoN rfl rfl rfl (by omega) (by omega)) rfl rfl rfl ?_ | refine LL.val (R.remN rfl rfl rfl (by omega)) rfl rfl rfl ?_ | refine LL.val (R.leT rfl rfl rfl (by omega)) rfl rfl rfl ?_ | refine LL.val (R.leF rfl rfl rfl (by omega)) rfl rfl rfl ?_ | refine LL.val (R.gtT rfl rfl rfl (by omega)) rfl rfl rfl ?_ | refine LL.val (R.gtF rfl rfl rfl (by omega)) rfl rfl rfl ?_ | refine LL.val (R.geT rfl rfl rfl (by omega)) rfl rfl rfl ?_ | refine LL.val (R.geF rfl rfl rfl (by omega)) rfl rfl rfl ?_ | refine LL.val (R.eqT rfl rfl rfl (by omega)) rfl rfl rfl ?_ | refine LL.val (R.eqF rfl rfl rfl (by omega)) rfl rfl rfl ?_ | refine LL.val (R.neT rfl rfl rfl (by omega)) rfl rfl rfl ?_ | refine LL.val (R.neF rfl rfl rfl (by omega)) rfl rfl rfl ?_ | refine LL.val (R.eqPtr rfl rfl rfl rfl rfl) rfl rfl rfl ?_ | refine LL.val (R.nePtr rfl rfl rfl rfl rfl) rfl rfl rfl ?_ | refine LL.val (R.eqSl rfl rfl rfl rfl rfl) rfl rfl rfl ?_ | refine LL.val (R.neSl rfl rfl rfl rfl rfl) rfl rfl rfl ?_ | refine LL.val (R.eqFn rfl rfl rfl rfl) rfl rfl rfl ?_ | refine LL.val (R.eqBool rfl rfl rfl rfl rfl) rfl rfl rfl ?_ | refine LL.val (R.neBool rfl rfl rfl rfl rfl) rfl rfl rfl ?_ | refine LL.val (R.xorU rfl rfl rfl (by first | omega | decide) (by first | omega | decide)) rfl rfl rfl ?_ | refine LL.val (R.addUN rfl rfl rfl (by omega)) rfl rfl rfl ?_ | refine LL.val (R.not rfl rfl) rfl rfl rfl ?_ | refine LL.val (R.lenS rfl rfl rfl rfl) rfl rfl rfl ?_ | refine LL.val (R.len rfl rfl rfl rfl) rfl rfl rfl ?_ | refine LL.val (R.pick rfl rfl rfl) rfl rfl rfl ?_ | refine LL.val (R.extract rfl rfl rfl) rfl rfl rfl ?_ | refine LL.val (R.func rfl rfl rfl) rfl rfl rfl ?_ | refine LL.val (R.slice rfl rfl rfl rfl rfl (I.slA rfl)) rfl rfl rfl ?_ | refine LL.val (R.slice rfl rfl rfl rfl rfl (I.slAto rfl (by omega))) rfl rfl rfl ?_) | refine LL.skip rfl rfl ?_))
    refine LL.lit (e := 23) [] 0 rfl rfl (fun _ => by kernel_rfl) rfl rfl ?_
    intro w1 g1 e1 r1 z1 b1
    have o1 : OwnsT uE 1 w1 w.heap.size 23 (.slice (some ⟨g1, 0, none⟩) 0 0) [] := RowL.ownsT (ts := []) uEnc r1 (by omega) (by simp [maxLen])
    (repeat (first | (first | refine CC.seq ?_ | refine CC.region ?_ | refine LL.nilS ?_ | refine CC.yes rfl ?_ | refine CC.no rfl ?_ | refine CC.block ?_ | refine EE.thenN ?_ | refine LL.nil ?_ | refine CC.exit ?_ | refine CC.ret ?_ | refine CC.skip ?_ | refine EE.thenX ?_ | refine EE.thenR ?_ | refine EE.inN ?_ | refine EE.inX ?_ | refine EE.inX' rfl ?_ | refine EE.inR ?_ | refine CC.label ?_ | refine EE.thenG ?_ | refine EE.inG ?_) | (first | refine LL.val (R.move rfl rfl) rfl rfl rfl ?_ | refine LL.val (R.assign rfl rfl) rfl rfl rfl ?_ | refine LL.val (R.nil rfl rfl) rfl rfl rfl ?_ | refine LL.val (R.field rfl rfl (I.fld rfl)) rfl rfl rfl ?_ | refine LL.val (R.load rfl rfl (I.ld1 rfl (by assumption))) rfl rfl rfl ?_ | refine LL.val (R.load rfl rfl (I.ld1 rfl (RowL.cell (by assumption) rfl))) rfl rfl rfl ?_ | refine LL.val (R.index rfl rfl rfl (I.ixA1c rfl rfl (by first | omega | decide))) rfl rfl rfl ?_ | refine LL.val (R.index rfl rfl rfl (I.ixS1c rfl rfl (by omega))) rfl rfl rfl ?_ | refine LL.val (R.index rfl rfl rfl (I.ixAc rfl rfl (by first | omega | decide))) rfl rfl rfl ?_ | refine LL.val (R.index rfl rfl rfl (I.ixSc rfl rfl (by omega))) rfl rfl rfl ?_ | refine LL.val (R.index rfl rfl rfl (I.ixA1 rfl (by omega))) rfl rfl rfl ?_ | refine LL.val (R.index rfl rfl rfl (I.ixS1 rfl (by omega))) rfl rfl rfl ?_ | refine LL.val (R.index rfl rfl rfl (I.ixA rfl (by omega))) rfl rfl rfl ?_ | refine LL.val (R.index rfl rfl rfl (I.ixS rfl (by omega))) rfl rfl rfl ?_ | refine LL.val (R.ltT rfl rfl rfl (by omega)) rfl rfl rfl ?_ | refine LL.val (R.ltF rfl rfl rfl (by omega)) rfl rfl rfl ?_ | refine LL.val (R.addNc rfl rfl rfl rfl (by omega)) rfl rfl rfl ?_ | refine LL.val (R.subNc rfl rfl rfl rfl (by omega) (by omega)) rfl rfl rfl ?_ | refine LL.val (R.addN rfl rfl rfl (by omega)) rfl rfl rfl ?_ | refine LL.val (R.subN rfl rfl rfl (by omega) (by omega)) rfl rfl rfl ?_ | refine LL.val (R.subcN rfl rfl rfl rfl (by omega) (by omega)) rfl rfl rfl ?_ | refine LL.val (R.addI rfl rfl rfl (by omega)) rfl rfl rfl ?_ | refine LL.val (R.subI rfl rfl rfl (by omega)) rfl rfl rfl ?_ | refine LL.val (R.mulNc rfl rfl rfl rfl (by omega)) rfl rfl rfl ?_ | refine LL.val (R.mulcN rfl rfl rfl rfl (by omega)) rfl rfl rfl ?_ | refine LL.val (R.quoNc rfl rfl rfl rfl (by omega) (by omega)) rfl rfl rfl ?_ | refine LL.val (R.remNc rfl rfl rfl rfl (by omega)) rfl rfl rfl ?_ | refine LL.val (R.mulN rfl rfl rfl (by omega)) rfl rfl rfl ?_ | refine LL.val (R.quoN rfl rfl rfl (by omega) (by omega)) rfl rfl rfl ?_ | refine LL.val (R.remN rfl rfl rfl (by omega)) rfl rfl rfl ?_ | refine LL.val (R.leT rfl rfl rfl (by omega)) rfl rfl rfl ?_ | refine LL.val (R.leF rfl rfl rfl (by omega)) rfl rfl rfl ?_ | refine LL.val (R.gtT rfl rfl rfl (by omega)) rfl rfl rfl ?_ | refine LL.val (R.gtF rfl rfl rfl (by omega)) rfl rfl rfl ?_ | refine LL.val (R.geT rfl rfl rfl (by omega)) rfl rfl rfl ?_ | refine LL.val (R.geF rfl rfl rfl (by omega)) rfl rfl rfl ?_ | refine LL.val (R.eqT rfl rfl rfl (by omega)) rfl rfl rfl ?_ | refine LL.val (R.eqF rfl rfl rfl (by omega)) rfl rfl rfl ?_ | refine LL.val (R.neT rfl rfl rfl (by omega)) rfl rfl rfl ?_ | refine LL.val (R.neF rfl rfl rfl (by omega)) rfl rfl rfl ?_ | refine LL.val (R.eqPtr rfl rfl rfl rfl rfl) rfl rfl rfl ?_ | refine LL.val (R.nePtr rfl rfl rfl rfl rfl) rfl rfl rfl ?_ | refine LL.val (R.eqSl rfl rfl rfl rfl rfl) rfl rfl rfl ?_ | refine LL.val (R.neSl rfl rfl rfl rfl rfl) rfl rfl rfl ?_ | refine LL.val (R.eqFn rfl rfl rfl rfl) rfl rfl rfl ?_ | refine LL.val (R.eqBool rfl rfl rfl rfl rfl) rfl rfl rfl ?_ | refine LL.val (R.neBool rfl rfl rfl rfl rfl) rfl rfl rfl ?_ | refine LL.val (R.xorU rfl rfl rfl (by first | omega | decide) (by first | omega | decide)) rfl rfl rfl ?_ | refine LL.val (R.addUN rfl rfl rfl (by omega)) rfl rfl rfl ?_ | refine LL.val (R.not rfl rfl) rfl rfl rfl ?_ | refine LL.val (R.lenS rfl rfl rfl rfl) rfl rfl rfl ?_ | refine LL.val (R.len rfl rfl rfl rfl) rfl rfl rfl ?_ | refine LL.val (R.pick rfl rfl rfl) rfl rfl rfl ?_ | refine LL.val (R.extract rfl rfl rfl) rfl rfl rfl ?_ | refine LL.val (R.func rfl rfl rfl) rfl rfl rfl ?_ | refine LL.val (R.slice rfl rfl rfl rfl rfl (I.slA rfl)) rfl rfl rfl ?_ | refine LL.val (R.slice rfl rfl rfl rfl rfl (I.slAto rfl (by omega))) rfl rfl rfl ?_) | refine LL.skip rfl rfl ?_))
    refine LL.append0 rfl rfl uEnc ElU o1 (ha.below b1) (by simp [maxLen]; omega) (by omega) b1.size rfl rfl ?_
    intro v2 w2 o2 b2
    (repeat (first | (first | refine CC.seq ?_ | refine CC.region ?_ | refine LL.nilS ?_ | refine CC.yes rfl ?_ | refine CC.no rfl ?_ | refine CC.block ?_ | refine EE.thenN ?_ | refine LL.nil ?_ | refine CC.exit ?_ | refine CC.ret ?_ | refine CC.skip ?_ | refine EE.thenX ?_ | refine EE.thenR ?_ | refine EE.inN ?_ | refine EE.inX ?_ | refine EE.inX' rfl ?_ | refine EE.inR ?_ | refine CC.label ?_ | refine EE.thenG ?_ | refine EE.inG ?_) | (first | refine LL.val (R.move rfl rfl) rfl rfl rfl ?_ | refine LL.val (R.assign rfl rfl) rfl rfl rfl ?_ | refine LL.val (R.nil rfl rfl) rfl rfl rfl ?_ | refine LL.val (R.field rfl rfl (I.fld rfl)) rfl rfl rfl ?_ | refine LL.val (R.load rfl rfl (I.ld1 rfl (by assumption))) rfl rfl rfl ?_ | refine LL.val (R.load rfl rfl (I.ld1 rfl (RowL.cell (by assumption) rfl))) rfl rfl rfl ?_ | refine LL.val (R.index rfl rfl rfl (I.ixA1c rfl rfl (by first | omega | decide))) rfl rfl rfl ?_ | refine LL.val (R.index rfl rfl rfl (I.ixS1c rfl rfl (by omega))) rfl rfl rfl ?_ | refine LL.val (R.index rfl rfl rfl (I.ixAc rfl rfl (by first | omega | decide))) rfl rfl rfl ?_ | refine LL.val (R.index rfl rfl rfl (I.ixSc rfl rfl (by omega))) rfl rfl rfl ?_ | refine LL.val (R.index rfl rfl rfl (I.ixA1 rfl (by omega))) rfl rfl rfl ?_ | refine LL.val (R.index rfl rfl rfl (I.ixS1 rfl (by omega))) rfl rfl rfl ?_ | refine LL.val (R.index rfl rfl rfl (I.ixA rfl (by omega))) rfl rfl rfl ?_ | refine LL.val (R.index rfl rfl rfl (I.ixS rfl (by omega))) rfl rfl rfl ?_ | refine LL.val (R.ltT rfl rfl rfl (by omega)) rfl rfl rfl ?_ | refine LL.val (R.ltF rfl rfl rfl (by omega)) rfl rfl rfl ?_ | refine LL.val (R.addNc rfl rfl rfl rfl (by omega)) rfl rfl rfl ?_ | refine LL.val (R.subNc rfl rfl rfl rfl (by omega) (by omega)) rfl rfl rfl ?_ | refine LL.val (R.addN rfl rfl rfl (by omega)) rfl rfl rfl ?_ | refine LL.val (R.subN rfl rfl rfl (by omega) (by omega)) rfl rfl rfl ?_ | refine LL.val (R.subcN rfl rfl rfl rfl (by omega) (by omega)) rfl rfl rfl ?_ | refine LL.val (R.addI rfl rfl rfl (by omega)) rfl rfl rfl ?_ | refine LL.val (R.subI rfl rfl rfl (by omega)) rfl rfl rfl ?_ | refine LL.val (R.mulNc rfl rfl rfl rfl (by omega)) rfl rfl rfl ?_ | refine LL.val (R.mulcN rfl rfl rfl rfl (by omega)) rfl rfl rfl ?_ | refine LL.val (R.quoNc rfl rfl rfl rfl (by omega) (by omega)) rfl rfl rfl ?_ | refine LL.val (R.remNc rfl rfl rfl rfl (by omega)) rfl rfl rfl ?_ | refine LL.val (R.mulN rfl rfl rfl (by omega)) rfl rfl rfl ?_ | refine LL.val (R.quoN rfl rfl rfl (by omega) (by omega)) rfl rfl rfl ?_ | refine LL.val (R.remN rfl rfl rfl (by omega)) rfl rfl rfl ?_ | refine LL.val (R.leT rfl rfl rfl (by omega)) rfl rfl rfl ?_ | refine LL.val (R.leF rfl rfl rfl (by omega)) rfl rfl rfl ?_ | refine LL.val (R.gtT rfl rfl rfl (by omega)) rfl rfl rfl ?_ | refine LL.val (R.gtF rfl rfl rfl (by omega)) rfl rfl rfl ?_ | refine LL.val (R.geT rfl rfl rfl (by omega)) rfl rfl rfl ?_ | refine LL.val (R.geF rfl rfl rfl (by omega)) rfl rfl rfl ?_ | refine LL.val (R.eqT rfl rfl rfl (by omega)) rfl rfl rfl ?_ | refine LL.val (R.eqF rfl rfl rfl (by omega)) rfl rfl rfl ?_ | refine LL.val (R.neT rfl rfl rfl (by omega)) rfl rfl rfl ?_ | refine LL.val (R.neF rfl rfl rfl (by omega)) rfl rfl rfl ?_ | refine LL.val (R.eqPtr rfl rfl rfl rfl rfl) rfl rfl rfl ?_ | refine LL.val (R.nePtr rfl rfl rfl rfl rfl) rfl rfl rfl ?_ | refine LL.val (R.eqSl rfl rfl rfl rfl rfl) rfl rfl rfl ?_ | refine LL.val (R.neSl rfl rfl rfl rfl rfl) rfl rfl rfl ?_ | refine LL.val (R.eqFn rfl rfl rfl rfl) rfl rfl rfl ?_ | refine LL.val (R.eqBool rfl rfl rfl rfl rfl) rfl rfl rfl ?_ | refine LL.val (R.neBool rfl rfl rfl rfl rfl) rfl rfl rfl ?_ | refine LL.val (R.xorU rfl rfl rfl (by first | omega | decide) (by first | omega | decide)) rfl rfl rfl ?_ | refine LL.val (R.addUN rfl rfl rfl (by omega)) rfl rfl rfl ?_ | refine LL.val (R.not rfl rfl) rfl rfl rfl ?_ | refine LL.val (R.lenS rfl rfl rfl rfl) rfl rfl rfl ?_ | refine LL.val (R.len rfl rfl rfl rfl) rfl rfl rfl ?_ | refine LL.val (R.pick rfl rfl rfl) rfl rfl rfl ?_ | refine LL.val (R.extract rfl rfl rfl) rfl rfl rfl ?_ | refine LL.val (R.func rfl rfl rfl) rfl rfl rfl ?_ | refine LL.val (R.slice rfl rfl rfl rfl rfl (I.slA rfl)) rfl rfl rfl ?_ | refine LL.val (R.slice rfl rfl rfl rfl rfl (I.slAto rfl (by omega))) rfl rfl rfl ?_) | refine LL.skip rfl rfl ?_))
    refine EE.ret _ rfl rfl ?_
    exact ⟨v2, rfl, o2, b1.trans (b2.mono b1.size)⟩

section
variable {W W' : World} {A gs cs gr go ob n left : Nat} {s : List Nat} {os : List Pt}
end
/-- What a store keeps. -/
abbrev KS (W : World) (gs go ob : Nat) (i : Nat) : Prop := i < W.heap.size ∧ (i ≠ gs ∧ i ≠ go ∧ i ≠ ob)
set_option maxRecDepth 100000
set_option maxHeartbeats 4000000
end Go.Proofs.Ytloflmkolnediaa

/- scan: the loads of a reader, one by one; Look, Trace. -/
namespace Go.Proofs.Ytloflmkolnediaa
set_option linter.unusedVariables false
set_option linter.unusedSimpArgs false
open Go.RowKit Go.Shelf
set_option maxRecDepth 100000
set_option maxHeartbeats 8000000
theorem ReadsT.keptB {w w' : World} {a : Option Addr} {n c bs : Nat} {s : List Nat} {K : Nat → Prop} (h : ReadsT uE 1 w (.slice a n c) s) (hk : Kept K w w') (hbl : ∀ b off, a = some ⟨b, off, none⟩ → 0 < n → b = bs) (hK : bs < w.heap.size → K bs) : ReadsT uE 1 w' (.slice a n c) s := by
  obtain ⟨a', cap, e, hc, h'⟩ := h
  cases e
  refine ⟨_, _, rfl, hc, fun hne => ?_⟩
  obtain ⟨b, off, ha, hb, hcell⟩ := h' hne
  refine ⟨b, off, ha, Nat.lt_of_lt_of_le hb hk.size, fun j hj => ?_⟩
  obtain rfl := hbl b off ha (List.length_pos_iff.2 hne)
  exact (World.cell?_of_block (hk.block b (hK hb))).trans (hcell j hj)
def wV (r : Rd) : Int := if r.dn then 0 else wantR r
theorem wants_any (g : Nat) (r : Rd) {w : World} (h : RowL w g 56 (rdR g r)) : Calls Try.prog 23 #[.pointer (some ⟨g, 0, none⟩)] w fun e w' => e = .returned (.tuple #[.int .i64 (wV r), .bool (!r.dn)]) ∧ w = w' := by
  cases hd : r.dn with
  | true =>
    have e : wV r = 0 := by unfold wV; rw [hd]; rfl
    rw [e]
    exact wants_done g r h hd
  | false =>
    have e : wV r = wantI r.k r.slot := by unfold wV; rw [hd]; rfl
    rw [e]
    exact wants_run g r h hd
/-- What the iterator reads between its rounds. -/
structure OvR (W : World) (b1 b2 b3 g left n c : Nat) (a : Option Addr) (s : List Nat) (r : Rd) : Prop where
  r1 : RowL W b1 26 [.pointer (some ⟨g, 0, none⟩)]
  r2 : RowL W b2 23 [.int .u64 (left : Int)]
  r3 : RowL W b3 24 [.slice a n c]
  rv : ReadsT uE 1 W (.slice a n c) s
  rg : RowL W g 56 (rdR g r)
theorem OvR.up {W X : World} {b1 b2 b3 g left n c : Nat} {a : Option Addr} {s : List Nat} {r : Rd} (h : OvR W b1 b2 b3 g left n c a s r) (hb : Below W.heap.size W X) : OvR X b1 b2 b3 g left n c a s r :=
  ⟨h.r1.up hb, h.r2.up hb, h.r3.up hb, h.rv.up hb, h.rg.up hb⟩
theorem over1_gives (b1 b2 b3 g left n c bs : Nat) (a : Option Addr) (s : List Nat) (r0 : Rd) (w : World) (h : OvR w b1 b2 b3 g left n c a s r0) (hn : s.length = n) (hr : InvR r0) (hs : 2 * r0.slots ≤ n) (hl : n ≤ 56)
    (hbs : ∀ b off, a = some ⟨b, off, none⟩ → 0 < n → b = bs) (hne : b1 ≠ g ∧ b2 ≠ g ∧ b3 ≠ g ∧ bs ≠ g) :
    GivesO Try.prog 65 [Value.pointer (some ⟨b1, 0, none⟩), .pointer (some ⟨b2, 0, none⟩), .pointer (some ⟨b3, 0, none⟩)].toArray (fun x => (lwE x).toArray) (fun k => k = b1 ∨ k = b2 ∨ k = b3 ∨ k = g ∨ k = bs) (fun xs => xs = trL left s r0) g 56 (fun _ => rdR g (endOf left s r0)) w := by
  intro lp J Jx W hW hJ hJx hY h0
  replace h := h.up hW
  have q := Below.refl W.heap.size W
  rw [show (#[.func (.yield lp) #[] #[]] ++ [Value.pointer (some ⟨b1, 0, none⟩), .pointer (some ⟨b2, 0, none⟩), .pointer (some ⟨b3, 0, none⟩)].toArray : Array Value) = #[.func (.yield lp) #[] #[], .pointer (some ⟨b1, 0, none⟩), .pointer (some ⟨b2, 0, none⟩), .pointer (some ⟨b3, 0, none⟩)] from rfl]
  have hr1 := h.r1
  have lg := h.rg.lt
  refine X.fn Try.func65 rfl (n := 34) rfl rfl ?_
  refine CC.seq ?_
  refine CC.region ?_
  refine LL.val (R.load rfl rfl (I.ld1 rfl (RowL.cell hr1 rfl))) rfl rfl rfl ?_
  (refine LL.call (R.call rfl rfl rfl) rfl rfl rfl (wants_any g _ h.rg) ?_; rintro e W' ⟨rfl, rfl⟩; refine ⟨_, rfl, ?_⟩)
  refine LL.val (R.move rfl rfl) rfl rfl rfl ?_
  refine LL.val (R.extract rfl rfl rfl) rfl rfl rfl ?_
  refine LL.val (R.extract rfl rfl rfl) rfl rfl rfl ?_
  refine LL.val (R.assign rfl rfl) rfl rfl rfl ?_
  refine LL.val (R.assign rfl rfl) rfl rfl rfl ?_
  refine LL.nilS ?_
  refine CC.block ?_
  refine CC.loop (α := List (Int × Nat) × Rd) (fun x => [(0, .func (.yield lp) #[] #[]), (1, .pointer (some ⟨b1, 0, none⟩)), (2, .pointer (some ⟨b2, 0, none⟩)), (3, .pointer (some ⟨b3, 0, none⟩)), (5, .int .i64 (wV x.2)), (6, .bool (!x.2.dn))])
    (fun x wr => W.heap.size ≤ wr.heap.size ∧ J (fun _ => False) x.1 wr ∧ OvR wr b1 b2 b3 g left n c a s x.2 ∧ InvR x.2 ∧ x.2.slots = r0.slots ∧ x.1 ++ trL left s x.2 = trL left s r0 ∧ endOf left s x.2 = endOf left s r0) (fun x => muR x.2)
    ([], r0) ⟨rfl, rfl, rfl, rfl, rfl, rfl, trivial⟩ ⟨Nat.le_refl _, h0, h, hr, rfl, rfl, rfl⟩ ?_
  clear h0 q h hr hr1
  rintro ⟨pre, r⟩ wr ⟨hz, hJr, h, hr, hsl, htr, hen⟩
  simp only at hJr h hr hsl htr hen
  show CC none Try.prog _ 34 [] (sl [(0, .func (.yield lp) #[] #[]), (1, .pointer (some ⟨b1, 0, none⟩)), (2, .pointer (some ⟨b2, 0, none⟩)), (3, .pointer (some ⟨b3, 0, none⟩)), (5, .int .i64 (wV r)), (6, .bool (!r.dn))]) _ wr
  cases hd : r.dn with
  | true =>
    rw [trL_dn hd, List.append_nil] at htr
    rw [endOf_dn hd] at hen
    have hrg := h.rg
    rw [hen] at hrg
    rw [htr] at hJr
    rw [show (!true) = false from rfl]
    refine CC.seq ?_
    refine CC.seq ?_
    refine CC.region ?_
    refine LL.val (R.move rfl rfl) rfl rfl rfl ?_
    refine LL.nilS ?_
    refine CC.no rfl ?_
    refine CC.exit ?_
    refine EE.thenX ?_
    refine EE.thenX ?_
    refine EE.inX ?_
    refine EE.end _ rfl rfl ?_
    exact ⟨⟨_, rfl⟩, .inl ⟨_, _, rfl, hJr, hrg⟩⟩
  | false =>
  rw [show (!false) = true from rfl]
  rw [show wV r = wantR r from by unfold wV; rw [hd]; rfl]
  have htn := trL_next (left := left) (s := s) hr hd
  have hen2 := endOf_next (left := left) (s := s) hr hd
  obtain ⟨hin, hmu⟩ := next_inv (left := left) (s := s) hr hd
  have hge := want_ge r
  have hlt := want_lt hr
  obtain ⟨v, hv⟩ : ∃ v, atW left s (wantR r) = v := ⟨_, rfl⟩
  have hnx : giveR r v = nextR left s r := by unfold nextR; rw [hv]
  rw [hv] at htn
  obtain ⟨at', hat⟩ : ∃ z, wantR r = z := ⟨_, rfl⟩
  rw [hat] at hge hlt hv htn ⊢
  have hpart : Part (fun xs => xs = trL left s r0) (pre ++ [(at', v)]) := ⟨_, rfl, by rw [← htr, htn]; exact ⟨trL left s (nextR left s r), by simp⟩⟩
  have hsl2 : (nextR left s r).slots = r0.slots := by rw [← hnx, (give_key r v).2.1]; exact hsl
  have htr2 : (pre ++ [(at', v)]) ++ trL left s (nextR left s r) = trL left s r0 := by rw [← htr, htn]; simp
  have hen3 : endOf left s (nextR left s r) = endOf left s r0 := by rw [← hen2]; exact hen
  have yield : ∀ X, Below wr.heap.size wr X → YieldAt Fence.wide 3 Try.prog lp (lwE (at', v)).toArray X fun e W' => (e = .returned (.bool true) ∧ W.heap.size ≤ W'.heap.size ∧ J (fun _ => False) (pre ++ [(at', v)]) W' ∧ OvR W' b1 b2 b3 g left n c a s r) ∨ (e = .returned (.bool false) ∧ Jx (fun _ => False) (pre ++ [(at', v)]) W') := fun X b => by
    obtain ⟨fn, tm, ag, bd, hy, hR⟩ := hY (fun _ => False) _ _ X (fun k hk => hk.elim) (hJ _ (fun _ => False) _ _ _ hJr (.of_below b) fun k hk => hk.elim) hpart
    refine ⟨fn, tm, ag, bd, hy, hR.mono ?_⟩
    rintro e W' ⟨hs, (⟨rfl, h1, h2⟩ | ⟨rfl, h1⟩)⟩
    · have hX := h.up b
      exact .inl ⟨rfl, by have := hs.size; have := b.size; omega, h1, ⟨hX.r1.same (h2.same b1 (.inl rfl)), hX.r2.same (h2.same b2 (.inr (.inl rfl))), hX.r3.same (h2.same b3 (.inr (.inr (.inl rfl)))), hX.rv.keepB hs.size h2 hbs (.inr (.inr (.inr (.inr rfl)))), hX.rg.same (h2.same g (.inr (.inr (.inr (.inl rfl)))))⟩⟩
    · exact .inr ⟨rfl, h1⟩
  rw [← hnx] at hin hmu hsl2 htr2 hen3
  have hJk : ∀ X Y, J (fun _ => False) (pre ++ [(at', v)]) X → Kept (fun j => j < X.heap.size ∧ j ≠ g) X Y → J (fun _ => False) (pre ++ [(at', v)]) Y := fun X Y hX hk => hJ _ (fun _ => False) _ _ _ hX (.of_kept hk) fun k hk => hk.elim
  have hJb : ∀ X Y, J (fun _ => False) (pre ++ [(at', v)]) X → Below X.heap.size X Y → J (fun _ => False) (pre ++ [(at', v)]) Y := fun X Y hX hk => hJ _ (fun _ => False) _ _ _ hX (.of_below hk) fun k hk => hk.elim
  clear hJr hY
  obtain ⟨hb1, hb2, hb3, hrv, hrg⟩ := h
  have lg' := hrg.lt
  have l1 := hb1.lt
  have l2 := hb2.lt
  have l3 := hb3.lt
  have qn := Below.refl wr.heap.size wr
  have post : ∀ X Y, J (fun _ => False) (pre ++ [(at', v)]) X → OvR X b1 b2 b3 g left n c a s r → Kept (fun j => j < X.heap.size ∧ j ≠ g) X Y → RowL Y g 56 (rdR g (giveR r v)) → J (fun _ => False) (pre ++ [(at', v)]) Y ∧ OvR Y b1 b2 b3 g left n c a s (giveR r v) := fun X Y hX hO hk hg => ⟨hJk _ _ hX hk, ⟨hO.r1.kept hk ⟨hO.r1.lt, hne.1⟩, hO.r2.kept hk ⟨hO.r2.lt, hne.2.1⟩, hO.r3.kept hk ⟨hO.r3.lt, hne.2.2.1⟩, hO.rv.keptB hk hbs (fun h => ⟨h, hne.2.2.2⟩), hg⟩⟩
  by_cases hm : at' = -1
  · subst hm
    obtain rfl : left = v := by rw [← hv]; rfl
    refine CC.seq ?_
    refine CC.seq ?_
    refine CC.region ?_
    refine LL.val (R.move rfl rfl) rfl rfl rfl ?_
    refine LL.nilS ?_
    refine CC.yes rfl ?_
    refine CC.skip ?_
    refine EE.thenN ?_
    refine CC.seq ?_
    refine CC.block ?_
    refine CC.seq ?_
    refine CC.region ?_
    refine LL.val (R.load rfl rfl (I.ld1 rfl (RowL.cell hb2 rfl))) rfl rfl rfl ?_
    refine LL.val (R.assign rfl rfl) rfl rfl rfl ?_
    refine LL.nilS ?_
    refine CC.seq ?_
    refine CC.seq ?_
    refine CC.region ?_
    refine LL.val (R.move rfl rfl) rfl rfl rfl ?_
    refine LL.val (R.neF rfl rfl rfl (by omega)) rfl rfl rfl ?_
    refine LL.nilS ?_
    refine CC.no rfl ?_
    refine CC.skip ?_
    refine EE.thenN ?_
    refine CC.seq ?_
    refine CC.seq ?_
    refine CC.region ?_
    refine LL.val (R.move rfl rfl) rfl rfl rfl ?_
    refine LL.val (R.move rfl rfl) rfl rfl rfl ?_
    refine LL.val (R.move rfl rfl) rfl rfl rfl ?_
    refine LL.yield (vs := lwE (-1, left)) rfl rfl rfl rfl rfl (yield _ (by assumption)) ?_
    rintro e W4 (⟨rfl, z4, hJ4, h4⟩ | ⟨rfl, hJx4⟩)
    · refine ⟨_, rfl, ?_⟩
      clear hb1 hb2 hb3 hrv hrg yield hJk hJb
      have hb1 := h4.r1
      have hrg := h4.rg
      refine LL.val (R.not rfl rfl) rfl rfl rfl ?_
      refine LL.nilS ?_
      refine CC.no rfl ?_
      refine CC.skip ?_
      refine EE.thenN ?_
      refine CC.region ?_
      refine LL.val (R.load rfl rfl (I.ld1 rfl (RowL.cell hb1 rfl))) rfl rfl rfl ?_
      refine LL.val (R.move rfl rfl) rfl rfl rfl ?_
      (refine LL.call (R.call rfl rfl rfl) rfl rfl rfl (give_any g left r hrg hr.k hd hr.slot hr.slots hr.big) ?_; rintro e W5 ⟨rfl, hg5, hk5⟩; obtain ⟨hJ5, h5⟩ := post _ _ hJ4 h4 hk5 hg5; have z5 := hk5.size; clear hb1 hrg hJ4 h4 hk5 post; have hb1 := h5.r1; refine ⟨_, rfl, ?_⟩)
      refine LL.nil ?_
      refine EE.inN ?_
      refine EE.thenN ?_
      refine CC.region ?_
      refine LL.val (R.load rfl rfl (I.ld1 rfl (RowL.cell hb1 rfl))) rfl rfl rfl ?_
      (refine LL.call (R.call rfl rfl rfl) rfl rfl rfl (wants_any g _ hg5) ?_; rintro e W' ⟨rfl, rfl⟩; refine ⟨_, rfl, ?_⟩)
      refine LL.val (R.move rfl rfl) rfl rfl rfl ?_
      refine LL.val (R.extract rfl rfl rfl) rfl rfl rfl ?_
      refine LL.val (R.extract rfl rfl rfl) rfl rfl rfl ?_
      refine LL.val (R.assign rfl rfl) rfl rfl rfl ?_
      refine LL.val (R.assign rfl rfl) rfl rfl rfl ?_
      refine LL.nil ?_
      exact EE.round (pre ++ [(-1, left)], giveR r left) ⟨rfl, rfl, rfl, rfl, rfl, rfl, trivial⟩ ⟨by omega, hJ5, h5, hin, hsl2, htr2, hen3⟩ (by show muR (giveR r left) < muR r; omega)
    · refine ⟨_, rfl, ?_⟩
      refine LL.val (R.not rfl rfl) rfl rfl rfl ?_
      refine LL.nilS ?_
      refine CC.yes rfl ?_
      refine CC.ret ?_
      refine EE.thenR ?_
      refine EE.inR ?_
      refine EE.thenR ?_
      refine EE.thenR ?_
      refine EE.inR ?_
      refine EE.ret _ rfl rfl ?_
      exact ⟨⟨_, rfl⟩, .inr ⟨_, _, hpart, hJx4⟩⟩
  · obtain ⟨j, rfl⟩ : ∃ j : Nat, at' = j := ⟨at'.toNat, by omega⟩
    have hj : s[j]? = some v := by
      rw [← hv]
      unfold atW
      rw [if_neg (by omega), Int.toNat_natCast, List.getElem?_eq_getElem (by omega)]
      rfl
    obtain ⟨bb, off, rfl, lb, hcell⟩ := u_at hrv hj
    have hc0 := hcell _ qn
    refine CC.seq ?_
    refine CC.seq ?_
    refine CC.region ?_
    refine LL.val (R.move rfl rfl) rfl rfl rfl ?_
    refine LL.nilS ?_
    refine CC.yes rfl ?_
    refine CC.skip ?_
    refine EE.thenN ?_
    refine CC.seq ?_
    refine CC.block ?_
    refine CC.seq ?_
    refine CC.region ?_
    refine LL.val (R.load rfl rfl (I.ld1 rfl (RowL.cell hb2 rfl))) rfl rfl rfl ?_
    refine LL.val (R.assign rfl rfl) rfl rfl rfl ?_
    refine LL.nilS ?_
    refine CC.seq ?_
    refine CC.seq ?_
    refine CC.region ?_
    refine LL.val (R.move rfl rfl) rfl rfl rfl ?_
    refine LL.val (R.neT rfl rfl rfl (by omega)) rfl rfl rfl ?_
    refine LL.nilS ?_
    refine CC.yes rfl ?_
    refine CC.region ?_
    refine LL.val (R.load rfl rfl (I.ld1 rfl (RowL.cell hb3 rfl))) rfl rfl rfl ?_
    refine LL.val (R.move rfl rfl) rfl rfl rfl ?_
    refine LL.val (R.index rfl rfl rfl (I.ixS1 rfl (by omega))) rfl rfl rfl ?_
    refine LL.val (R.load rfl rfl (I.ld1 rfl (by assumption))) rfl rfl rfl ?_
    refine LL.val (R.assign rfl rfl) rfl rfl rfl ?_
    refine LL.nilS ?_
    refine CC.seq ?_
    refine CC.seq ?_
    refine CC.region ?_
    refine LL.val (R.move rfl rfl) rfl rfl rfl ?_
    refine LL.val (R.move rfl rfl) rfl rfl rfl ?_
    refine LL.val (R.move rfl rfl) rfl rfl rfl ?_
    refine LL.yield (vs := lwE ((j : Int), v)) rfl rfl rfl rfl rfl (yield _ (by assumption)) ?_
    rintro e W4 (⟨rfl, z4, hJ4, h4⟩ | ⟨rfl, hJx4⟩)
    · refine ⟨_, rfl, ?_⟩
      clear hb1 hb2 hb3 hrv hrg yield hJk hJb
      have hb1 := h4.r1
      have hrg := h4.rg
      refine LL.val (R.not rfl rfl) rfl rfl rfl ?_
      refine LL.nilS ?_
      refine CC.no rfl ?_
      refine CC.skip ?_
      refine EE.thenN ?_
      refine CC.region ?_
      refine LL.val (R.load rfl rfl (I.ld1 rfl (RowL.cell hb1 rfl))) rfl rfl rfl ?_
      refine LL.val (R.move rfl rfl) rfl rfl rfl ?_
      (refine LL.call (R.call rfl rfl rfl) rfl rfl rfl (give_any g v r hrg hr.k hd hr.slot hr.slots hr.big) ?_; rintro e W5 ⟨rfl, hg5, hk5⟩; obtain ⟨hJ5, h5⟩ := post _ _ hJ4 h4 hk5 hg5; have z5 := hk5.size; clear hb1 hrg hJ4 h4 hk5 post; have hb1 := h5.r1; refine ⟨_, rfl, ?_⟩)
      refine LL.nil ?_
      refine EE.inN ?_
      refine EE.thenN ?_
      refine CC.region ?_
      refine LL.val (R.load rfl rfl (I.ld1 rfl (RowL.cell hb1 rfl))) rfl rfl rfl ?_
      (refine LL.call (R.call rfl rfl rfl) rfl rfl rfl (wants_any g _ hg5) ?_; rintro e W' ⟨rfl, rfl⟩; refine ⟨_, rfl, ?_⟩)
      refine LL.val (R.move rfl rfl) rfl rfl rfl ?_
      refine LL.val (R.extract rfl rfl rfl) rfl rfl rfl ?_
      refine LL.val (R.extract rfl rfl rfl) rfl rfl rfl ?_
      refine LL.val (R.assign rfl rfl) rfl rfl rfl ?_
      refine LL.val (R.assign rfl rfl) rfl rfl rfl ?_
      refine LL.nil ?_
      exact EE.round (pre ++ [((j : Int), v)], giveR r v) ⟨rfl, rfl, rfl, rfl, rfl, rfl, trivial⟩ ⟨by omega, hJ5, h5, hin, hsl2, htr2, hen3⟩ (by show muR (giveR r v) < muR r; omega)
    · refine ⟨_, rfl, ?_⟩
      refine LL.val (R.not rfl rfl) rfl rfl rfl ?_
      refine LL.nilS ?_
      refine CC.yes rfl ?_
      refine CC.ret ?_
      refine EE.thenR ?_
      refine EE.inR ?_
      refine EE.thenR ?_
      refine EE.thenR ?_
      refine EE.inR ?_
      refine EE.ret _ rfl rfl ?_
      exact ⟨⟨_, rfl⟩, .inr ⟨_, _, hpart, hJx4⟩⟩
end Go.Proofs.Ytloflmkolnediaa

/- scan: Look, Trace. -/
namespace Go.Proofs.Ytloflmkolnediaa
set_option linter.unusedVariables false
set_option linter.unusedSimpArgs false
open Go.RowKit Go.Shelf
set_option maxRecDepth 100000
set_option maxHeartbeats 8000000
theorem bs_of {W : World} {a : Option Addr} {n c : Nat} {s : List Nat} (h : ReadsT uE 1 W (.slice a n c) s) (hn : s.length = n) (h0 : 0 < n) : ∃ bs, (∀ b off, a = some ⟨b, off, none⟩ → 0 < n → b = bs) ∧ bs < W.heap.size := by
  obtain ⟨a', cap, e, hc, h'⟩ := h
  cases e
  obtain ⟨b, off, ha, hb, _⟩ := h' (by rintro rfl; simp at h0)
  exact ⟨b, fun b' off' e _ => by rw [ha] at e; cases e; rfl, hb⟩
def lookR (up : Bool) (left : Nat) (s : List Nat) (key : Nat) : Rd := endOf left s (newR up (s.length / 2) key)
theorem look_T (up : Bool) (left n c key : Nat) (a : Option Addr) (s : List Nat) (w : World) (hv : ReadsT uE 1 w (.slice a n c) s) (hn : s.length = n) (hr : rowOk left n) : Calls Try.prog 17 #[.int .i64 (wayI up), .int .u64 (left : Int), .slice a n c, .int .u64 (key : Int)] w fun e w' => e = .returned (.tuple #[.int .u64 ((lookR up left s key).found : Int), .bool (lookR up left s key).is]) ∧ Below w.heap.size w w' := by
  have q := Below.refl w.heap.size w
  have hrow := hr
  obtain ⟨r1, r2, r3, r4⟩ := hr
  have hvF : ∀ X, Below w.heap.size w X → ReadsT uE 1 X (.slice a n c) s := fun X b => hv.up b
  obtain ⟨bs, hbs, hbsl⟩ := bs_of hv hn (by omega)
  have hi := (new_inv (up := up) (slots := n / 2) (key := key) (by omega) (by omega)).1
  have hsl : (newR up (n / 2) key).slots = n / 2 := by cases up <;> rfl
  obtain ⟨N, hN⟩ : ∃ N, newR up (n / 2) key = N := ⟨_, rfl⟩
  rw [show lookR up left s key = endOf left s N by unfold lookR; rw [hn, hN]]
  rw [hN] at hi hsl
  clear hv
  refine X.fnM Try.func17 rfl (n := 46) rfl rfl ?_
  refine CC.seq ?_
  refine CC.region ?_
  refine LL.val (R.assign rfl rfl) rfl rfl rfl ?_
  refine LL.val (R.assign rfl rfl) rfl rfl rfl ?_
  refine LL.nilS ?_
  refine CC.seq ?_
  refine CC.region ?_
  refine LL.val (R.move rfl rfl) rfl rfl rfl ?_
  refine LL.val (R.move rfl rfl) rfl rfl rfl ?_
  refine LL.val (R.len rfl rfl rfl rfl) rfl rfl rfl ?_
  refine LL.val (R.quoNc rfl rfl rfl rfl (by omega) (by omega)) rfl rfl rfl ?_
  refine LL.val (R.move rfl rfl) rfl rfl rfl ?_
  (refine LL.call (R.call rfl rfl rfl) rfl rfl rfl (new_T up (n / 2) key _ (by omega) (by omega)) ?_; rintro e W102 ⟨g, rfl, hg, hgl, b99⟩; rw [hN] at hg; refine ⟨_, rfl, ?_⟩)
  have zb99 := b99.size
  replace q := q.trans (b99.mono q.size)
  refine LL.val (R.move rfl rfl) rfl rfl rfl ?_
  refine LL.val (R.extract rfl rfl rfl) rfl rfl rfl ?_
  refine LL.val (R.extract rfl rfl rfl) rfl rfl rfl ?_
  refine LL.val (R.assign rfl rfl) rfl rfl rfl ?_
  refine LL.val (R.assign rfl rfl) rfl rfl rfl ?_
  refine LL.nilS ?_
  refine CC.seq ?_
  refine CC.seq ?_
  refine CC.region ?_
  refine LL.val (R.move rfl rfl) rfl rfl rfl ?_
  refine LL.val (R.neF rfl rfl rfl (by omega)) rfl rfl rfl ?_
  refine LL.val (R.move rfl rfl) rfl rfl rfl ?_
  refine LL.val (R.move rfl rfl) rfl rfl rfl ?_
  refine LL.val (R.move rfl rfl) rfl rfl rfl ?_
  (refine LL.call (R.call rfl rfl rfl) rfl rfl rfl (fits_T left n c a _ hrow) ?_; rintro e W' ⟨rfl, rfl⟩; refine ⟨_, rfl, ?_⟩)
  refine LL.val (R.not rfl rfl) rfl rfl rfl ?_
  refine LL.val (R.pick rfl rfl rfl) rfl rfl rfl ?_
  refine LL.nilS ?_
  refine CC.no rfl ?_
  refine CC.skip ?_
  refine EE.thenN ?_
  refine CC.seq ?_
  refine CC.seq ?_
  refine CC.region ?_
  refine LL.val (R.move rfl rfl) rfl rfl rfl ?_
  refine LL.val (R.move rfl rfl) rfl rfl rfl ?_
  refine LL.val (R.move rfl rfl) rfl rfl rfl ?_
  have l366 := hg.lt
  (refine LL.call (R.call rfl rfl rfl) rfl rfl rfl (over_any g left n c a _) ?_; rintro e W365 ⟨b1, b2, b3, rfl, hb1, hb2, hb3, hbl, b362⟩; refine ⟨_, rfl, ?_⟩)
  have zb362 := b362.size
  replace hg := hg.up b362
  replace b99 := b99.trans (b362.mono b99.size)
  replace q := q.trans (b362.mono q.size)
  refine LL.nilS ?_
  refine CC.block ?_
  obtain ⟨W0, eW⟩ : ∃ X, X = W365 := ⟨_, rfl⟩
  subst eW
  have lg := hg.lt
  have l1 := hb1.lt
  have l2 := hb2.lt
  have l3 := hb3.lt
  have yq := q.size
  have hG := over1_gives b1 b2 b3 g left n c bs a s N W0 ⟨hb1, hb2, hb3, hvF _ q, hg⟩ hn hi (by omega) r4 hbs ⟨by omega, by omega, by omega, by omega⟩
  refine CC.rangeO (γ := Unit) (gf := 65) (lb := [Value.pointer (some ⟨b1, 0, none⟩), .pointer (some ⟨b2, 0, none⟩), .pointer (some ⟨b3, 0, none⟩)]) (encs := lwE) rfl rfl hG (Below.refl _ _) lg (fun k hk => by (try simp only at hk); omega) (fun _ => rfl) rfl
    (fun _ _ W' => Below w.heap.size w W') (fun _ _ _ => False) (fun W' => Below w.heap.size w W' ∧ RowL W' g 56 (rdR g (endOf left s N)))
    (fun m m' p X Y hs ht hm => hs.trans (ht.below yq hgl hs.size))
    (fun m m' p X Y hs ht hm => hs)
    q (fun m xs W' hS hi hro => ⟨hi, hro⟩) (fun m pre W' hp hi => hi.elim)
    (fun _ _ => sl [(10, .pointer (some ⟨g, 0, none⟩))]) (fun _ _ _ => True) (fun _ _ => fun _ _ _ _ _ _ _ => trivial) ?assign ?body ?after
  case assign =>
    rintro l' m pre x W Kc hm h1 hKc
    refine CC.skip ?_
    exact EE.thenK fun a' F => hKc a' _ () (StaysZ.refl _ _ _) (Keeps.refl _ _) h1 (F.keep _ ⟨rfl, trivial⟩) trivial
  case body =>
    rintro l' m pre x _ W hm hl' hrl h1 _ hp
    refine CC.block ?_
    refine CC.skip ?_
    refine EE.inN ?_
    exact EE.roundNZ ⟨StaysZ.refl _ _ _, Keeps.refl _ _, h1⟩
  case after =>
    clear q hg hb1 hb2 hb3 hG
    rintro E W hE ⟨q, hg⟩ hE1
    refine EE.thenN ?_
    refine CC.seq ?_
    refine CC.region ?_
    refine LL.val (R.move rfl rfl) rfl rfl rfl ?_
    have lc14 := hg.lt
    have lc15 := (Array.getElem?_eq_some_iff.1 hE1).1
    (refine LL.call (R.call rfl rfl rfl) rfl rfl rfl (found_any g _ hg) ?_; rintro e Wc13 ⟨rfl, bc10⟩; refine ⟨_, rfl, ?_⟩)
    have zbc10 := bc10.size
    replace q := q.trans (bc10.mono q.size)
    replace hg := hg.up bc10
    replace hE1 := defer_up hE1 bc10
    refine LL.val (R.move rfl rfl) rfl rfl rfl ?_
    refine LL.val (R.extract rfl rfl rfl) rfl rfl rfl ?_
    refine LL.val (R.extract rfl rfl rfl) rfl rfl rfl ?_
    refine LL.val (R.extract rfl rfl rfl) rfl rfl rfl ?_
    refine LL.val (R.assign rfl rfl) rfl rfl rfl ?_
    refine LL.val (R.assign rfl rfl) rfl rfl rfl ?_
    refine LL.val (R.assign rfl rfl) rfl rfl rfl ?_
    refine LL.nilS ?_
    refine CC.seq ?_
    refine CC.region ?_
    refine LL.val (R.move rfl rfl) rfl rfl rfl ?_
    refine LL.val (R.move rfl rfl) rfl rfl rfl ?_
    refine LL.val (R.assign rfl rfl) rfl rfl rfl ?_
    refine LL.val (R.assign rfl rfl) rfl rfl rfl ?_
    refine LL.nilS ?_
    refine CC.ret ?_
    refine EE.ret1 hE1 _ rfl rfl ?_
    exact ⟨rfl, taken_bel q (by omega) (Nat.le_refl _)⟩
theorem look_F (way : Int) (left n c key : Nat) (a : Option Addr) (w : World) (hn : n ≤ 1048576) (h : (way ≠ 1 ∧ way ≠ 2) ∨ ¬ rowOk left n) : Calls Try.prog 17 #[.int .i64 way, .int .u64 (left : Int), .slice a n c, .int .u64 (key : Int)] w fun e w' => e = .returned (.tuple #[.int .u64 0, .bool false]) ∧ Below w.heap.size w w' := by
  have q := Below.refl w.heap.size w
  by_cases h1 : (way ≠ 1 ∧ way ≠ 2) ∨ ((n / 2 : Nat) : Int) < 2 ∨ 28 < ((n / 2 : Nat) : Int)
  · refine X.fnM Try.func17 rfl (n := 46) rfl rfl ?_
    refine CC.seq ?_
    refine CC.region ?_
    refine LL.val (R.assign rfl rfl) rfl rfl rfl ?_
    refine LL.val (R.assign rfl rfl) rfl rfl rfl ?_
    refine LL.nilS ?_
    refine CC.seq ?_
    refine CC.region ?_
    refine LL.val (R.move rfl rfl) rfl rfl rfl ?_
    refine LL.val (R.move rfl rfl) rfl rfl rfl ?_
    refine LL.val (R.len rfl rfl rfl rfl) rfl rfl rfl ?_
    refine LL.val (R.quoNc rfl rfl rfl rfl (by omega) (by omega)) rfl rfl rfl ?_
    refine LL.val (R.move rfl rfl) rfl rfl rfl ?_
    (refine LL.call (R.call rfl rfl rfl) rfl rfl rfl (new_F way ((n / 2 : Nat) : Int) key _ h1) ?_; rintro e W53 ⟨rfl, b50⟩; refine ⟨_, rfl, ?_⟩)
    have zb50 := b50.size
    replace q := q.trans (b50.mono q.size)
    refine LL.val (R.move rfl rfl) rfl rfl rfl ?_
    refine LL.val (R.extract rfl rfl rfl) rfl rfl rfl ?_
    refine LL.val (R.extract rfl rfl rfl) rfl rfl rfl ?_
    refine LL.val (R.assign rfl rfl) rfl rfl rfl ?_
    refine LL.val (R.assign rfl rfl) rfl rfl rfl ?_
    refine LL.nilS ?_
    refine CC.seq ?_
    refine CC.seq ?_
    refine CC.region ?_
    refine LL.val (R.move rfl rfl) rfl rfl rfl ?_
    refine LL.val (R.neT rfl rfl rfl (by omega)) rfl rfl rfl ?_
    refine LL.val (R.move rfl rfl) rfl rfl rfl ?_
    refine LL.skip rfl rfl ?_
    refine LL.skip rfl rfl ?_
    refine LL.skip rfl rfl ?_
    refine LL.skip rfl rfl ?_
    refine LL.val (R.pick rfl rfl rfl) rfl rfl rfl ?_
    refine LL.nilS ?_
    refine CC.yes rfl ?_
    refine CC.seq ?_
    refine CC.region ?_
    refine LL.val (R.assign rfl rfl) rfl rfl rfl ?_
    refine LL.val (R.assign rfl rfl) rfl rfl rfl ?_
    refine LL.nilS ?_
    refine CC.ret ?_
    refine EE.thenR ?_
    refine EE.retM _ rfl rfl ?_
    exact ⟨rfl, q⟩
  have h2 : ¬ rowOk left n := h.resolve_left fun e => h1 (.inl e)
  obtain ⟨up, rfl⟩ : ∃ up, way = wayI up := by
    by_cases e : way = 1
    · exact ⟨true, e⟩
    · exact ⟨false, by unfold wayI; simp; omega⟩
  have h3 : 2 ≤ n / 2 ∧ n / 2 ≤ 28 := by omega
  clear h h1
  refine X.fnM Try.func17 rfl (n := 46) rfl rfl ?_
  refine CC.seq ?_
  refine CC.region ?_
  refine LL.val (R.assign rfl rfl) rfl rfl rfl ?_
  refine LL.val (R.assign rfl rfl) rfl rfl rfl ?_
  refine LL.nilS ?_
  refine CC.seq ?_
  refine CC.region ?_
  refine LL.val (R.move rfl rfl) rfl rfl rfl ?_
  refine LL.val (R.move rfl rfl) rfl rfl rfl ?_
  refine LL.val (R.len rfl rfl rfl rfl) rfl rfl rfl ?_
  refine LL.val (R.quoNc rfl rfl rfl rfl (by omega) (by omega)) rfl rfl rfl ?_
  refine LL.val (R.move rfl rfl) rfl rfl rfl ?_
  (refine LL.call (R.call rfl rfl rfl) rfl rfl rfl (new_T up (n / 2) key _ (by omega) (by omega)) ?_; rintro e Wa53 ⟨g, rfl, hg, hgl, ba50⟩; refine ⟨_, rfl, ?_⟩)
  have zba50 := ba50.size
  replace q := q.trans (ba50.mono q.size)
  refine LL.val (R.move rfl rfl) rfl rfl rfl ?_
  refine LL.val (R.extract rfl rfl rfl) rfl rfl rfl ?_
  refine LL.val (R.extract rfl rfl rfl) rfl rfl rfl ?_
  refine LL.val (R.assign rfl rfl) rfl rfl rfl ?_
  refine LL.val (R.assign rfl rfl) rfl rfl rfl ?_
  refine LL.nilS ?_
  refine CC.seq ?_
  refine CC.seq ?_
  refine CC.region ?_
  refine LL.val (R.move rfl rfl) rfl rfl rfl ?_
  refine LL.val (R.neF rfl rfl rfl (by omega)) rfl rfl rfl ?_
  refine LL.val (R.move rfl rfl) rfl rfl rfl ?_
  refine LL.val (R.move rfl rfl) rfl rfl rfl ?_
  refine LL.val (R.move rfl rfl) rfl rfl rfl ?_
  (refine LL.call (R.call rfl rfl rfl) rfl rfl rfl (fits_F left n c a _ h2 hn) ?_; rintro e W' ⟨rfl, rfl⟩; refine ⟨_, rfl, ?_⟩)
  refine LL.val (R.not rfl rfl) rfl rfl rfl ?_
  refine LL.val (R.pick rfl rfl rfl) rfl rfl rfl ?_
  refine LL.nilS ?_
  refine CC.yes rfl ?_
  refine CC.seq ?_
  refine CC.region ?_
  refine LL.val (R.assign rfl rfl) rfl rfl rfl ?_
  refine LL.val (R.assign rfl rfl) rfl rfl rfl ?_
  refine LL.nilS ?_
  refine CC.ret ?_
  refine EE.thenR ?_
  refine EE.retM _ rfl rfl ?_
  exact ⟨rfl, q⟩
end Go.Proofs.Ytloflmkolnediaa

/- scan: Trace. -/
namespace Go.Proofs.Ytloflmkolnediaa
set_option linter.unusedVariables false
set_option linter.unusedSimpArgs false
open Go.RowKit Go.Shelf
set_option maxRecDepth 100000
set_option maxHeartbeats 8000000
theorem StaysZ.sub {B B' : Nat} {m m' : Nat → Prop} {W W' : World} (h : StaysZ B m W W') (hB : B ≤ B') (hm : ∀ k, m' k → m k) : StaysZ B' m' W W' := ⟨h.size, fun k o hk ho hc => h.same k o (Nat.le_trans hB hk) ho (hc.imp_left (hm k))⟩
theorem StaysZ.blk {B k : Nat} {m : Nat → Prop} {W W' : World} (h : StaysZ B m W W') (hB : B ≤ k) (hm : m k) (hl : k < W.heap.size) : W'.heap[k]? = W.heap[k]? :=
  (h.same k _ hB (Array.getElem?_eq_getElem hl) (.inl hm)).trans (Array.getElem?_eq_getElem hl).symm
abbrev mT (g o1 o2 o3 gy : Nat) (m : Nat → Prop) : Nat → Prop := fun k => (k = g ∨ k = o1 ∨ k = o2 ∨ k = o3 ∨ k = gy) ∨ m k
theorem trace1_T (b1 b2 b3 b4 left n c key bs : Nat) (up : Bool) (a : Option Addr) (s : List Nat) (w : World) (h1 : RowL w b1 22 [.int .i64 (wayI up)]) (h2 : RowL w b2 24 [.slice a n c]) (h3 : RowL w b3 23 [.int .u64 (key : Int)]) (h4 : RowL w b4 23 [.int .u64 (left : Int)]) (hv : ReadsT uE 1 w (.slice a n c) s) (hn : s.length = n) (hr : rowOk left n)
    (hbs : ∀ b off, a = some ⟨b, off, none⟩ → 0 < n → b = bs) (hbl : bs < w.heap.size) :
    GivesZ Try.prog 47 [Value.pointer (some ⟨b1, 0, none⟩), .pointer (some ⟨b2, 0, none⟩), .pointer (some ⟨b3, 0, none⟩), .pointer (some ⟨b4, 0, none⟩)].toArray (fun x => (lwE x).toArray) (fun k => k = bs) (fun xs => xs = trL left s (newR up (n / 2) key)) w := by
  intro lp J Jx W hW hJ hJx hY h0
  replace h1 := h1.up hW
  replace h2 := h2.up hW
  replace h3 := h3.up hW
  replace h4 := h4.up hW
  replace hv := hv.up hW
  have hbl' : bs < W.heap.size := Nat.lt_of_lt_of_le hbl hW.size
  have hrow := hr
  obtain ⟨r1, r2, r3, r4⟩ := hr
  have q := Below.refl W.heap.size W
  have hvF : ∀ X, Below W.heap.size W X → ReadsT uE 1 X (.slice a n c) s := fun X b => hv.up b
  have hi := (new_inv (up := up) (slots := n / 2) (key := key) (by omega) (by omega)).1
  have hsl : (newR up (n / 2) key).slots = n / 2 := by cases up <;> rfl
  obtain ⟨N, hN⟩ : ∃ N, newR up (n / 2) key = N := ⟨_, rfl⟩
  rw [hN] at hi hsl
  rw [hN] at hY ⊢
  clear hv
  rw [show (#[.func (.yield lp) #[] #[]] ++ [Value.pointer (some ⟨b1, 0, none⟩), .pointer (some ⟨b2, 0, none⟩), .pointer (some ⟨b3, 0, none⟩), .pointer (some ⟨b4, 0, none⟩)].toArray : Array Value) = #[.func (.yield lp) #[] #[], .pointer (some ⟨b1, 0, none⟩), .pointer (some ⟨b2, 0, none⟩), .pointer (some ⟨b3, 0, none⟩), .pointer (some ⟨b4, 0, none⟩)] from rfl]
  refine X.fnM Try.func47 rfl (n := 38) rfl rfl ?_
  refine CC.seq ?_
  refine CC.region ?_
  have l23 := h1.lt
  have l24 := h2.lt
  have l25 := h3.lt
  have l26 := h4.lt
  refine LL.box [Value.func (Fn.yield lp) #[] #[]] rfl rfl rfl rfl rfl ?_
  intro W28 g29 eg29 r30 z31 b27
  replace hW := hW.trans (b27.mono hW.size)
  replace h1 := h1.up b27
  replace h2 := h2.up b27
  replace h3 := h3.up b27
  replace h4 := h4.up b27
  replace q := q.trans (b27.mono q.size)
  refine LL.nilS ?_
  refine CC.straight ?_
  refine CC.seq ?_
  refine CC.region ?_
  refine LL.val (R.load rfl rfl (I.ld1 rfl (RowL.cell h1 rfl))) rfl rfl rfl ?_
  refine LL.val (R.load rfl rfl (I.ld1 rfl (RowL.cell h2 rfl))) rfl rfl rfl ?_
  refine LL.val (R.len rfl rfl rfl rfl) rfl rfl rfl ?_
  refine LL.val (R.quoNc rfl rfl rfl rfl (by omega) (by omega)) rfl rfl rfl ?_
  refine LL.val (R.load rfl rfl (I.ld1 rfl (RowL.cell h3 rfl))) rfl rfl rfl ?_
  have l156 := r30.lt
  have l157 := h1.lt
  have l158 := h2.lt
  have l159 := h3.lt
  have l160 := h4.lt
  (refine LL.call (R.call rfl rfl rfl) rfl rfl rfl (new_T up (n / 2) key _ (by omega) (by omega)) ?_; rintro e W155 ⟨g, rfl, hg, hgl, b152⟩; rw [hN] at hg; refine ⟨_, rfl, ?_⟩)
  have zb152 := b152.size
  replace r30 := r30.up b152
  replace b27 := b27.trans (b152.mono b27.size)
  replace hW := hW.trans (b152.mono hW.size)
  replace h1 := h1.up b152
  replace h2 := h2.up b152
  replace h3 := h3.up b152
  replace h4 := h4.up b152
  replace q := q.trans (b152.mono q.size)
  refine LL.val (R.move rfl rfl) rfl rfl rfl ?_
  refine LL.val (R.extract rfl rfl rfl) rfl rfl rfl ?_
  refine LL.val (R.extract rfl rfl rfl) rfl rfl rfl ?_
  refine LL.val (R.assign rfl rfl) rfl rfl rfl ?_
  refine LL.val (R.assign rfl rfl) rfl rfl rfl ?_
  refine LL.nilS ?_
  refine CC.seq ?_
  refine CC.seq ?_
  refine CC.region ?_
  refine LL.val (R.move rfl rfl) rfl rfl rfl ?_
  refine LL.val (R.neF rfl rfl rfl (by omega)) rfl rfl rfl ?_
  refine LL.val (R.move rfl rfl) rfl rfl rfl ?_
  refine LL.val (R.load rfl rfl (I.ld1 rfl (RowL.cell h4 rfl))) rfl rfl rfl ?_
  refine LL.val (R.load rfl rfl (I.ld1 rfl (RowL.cell h2 rfl))) rfl rfl rfl ?_
  (refine LL.call (R.call rfl rfl rfl) rfl rfl rfl (fits_T left n c a _ hrow) ?_; rintro e W' ⟨rfl, rfl⟩; refine ⟨_, rfl, ?_⟩)
  refine LL.val (R.not rfl rfl) rfl rfl rfl ?_
  refine LL.val (R.pick rfl rfl rfl) rfl rfl rfl ?_
  refine LL.nilS ?_
  refine CC.no rfl ?_
  refine CC.skip ?_
  refine EE.thenN ?_
  refine CC.seq ?_
  refine CC.label ?_
  refine EE.thenN ?_
  refine CC.seq ?_
  refine CC.region ?_
  refine LL.val (R.move rfl rfl) rfl rfl rfl ?_
  refine LL.val (R.load rfl rfl (I.ld1 rfl (RowL.cell h4 rfl))) rfl rfl rfl ?_
  refine LL.val (R.load rfl rfl (I.ld1 rfl (RowL.cell h2 rfl))) rfl rfl rfl ?_
  have l584 := hg.lt
  have l585 := r30.lt
  have l586 := h1.lt
  have l587 := h2.lt
  have l588 := h3.lt
  have l589 := h4.lt
  (refine LL.call (R.call rfl rfl rfl) rfl rfl rfl (over_any g left n c a _) ?_; rintro e W583 ⟨o1, o2, o3, rfl, hb1, hb2, hb3, hbl, b580⟩; refine ⟨_, rfl, ?_⟩)
  have zb580 := b580.size
  replace hg := hg.up b580
  replace b152 := b152.trans (b580.mono b152.size)
  replace r30 := r30.up b580
  replace b27 := b27.trans (b580.mono b27.size)
  replace hW := hW.trans (b580.mono hW.size)
  replace h1 := h1.up b580
  replace h2 := h2.up b580
  replace h3 := h3.up b580
  replace h4 := h4.up b580
  replace q := q.trans (b580.mono q.size)
  refine LL.nilS ?_
  refine CC.block ?_
  obtain ⟨W0, eW⟩ : ∃ X, X = W583 := ⟨_, rfl⟩
  obtain ⟨gy, ey⟩ : ∃ X, X = g29 := ⟨_, rfl⟩
  have hry := r30
  subst eW ey
  have lg := hg.lt
  have lo1 := hb1.lt
  have lo2 := hb2.lt
  have lo3 := hb3.lt
  have ly := hry.lt
  have yq := q.size
  have hG := over1_gives o1 o2 o3 g left n c bs a s N W0 ⟨hb1, hb2, hb3, hvF _ q, hg⟩ hn hi (by omega) r4 hbs ⟨by omega, by omega, by omega, by omega⟩
  have turn : ∀ m X Y, TurnsO W0.heap.size g m X Y → TurnsZ W.heap.size (mT g o1 o2 o3 gy m) X Y := fun m X Y ht => ⟨ht.os, ht.tape, ht.output, ht.size, fun k o hk hc => ht.same k o hk (by
    rcases hc with hc | ⟨hc, hd⟩
    · exact .inl (by omega)
    · exact .inr ⟨fun h => hc (.inr h), fun e => hc (.inl (.inl e)), hd⟩)⟩
  have news : ∀ (m m' : Nat → Prop) (X : World), (∀ k, m' k → m k ∨ X.heap.size ≤ k) → ∀ k, mT g o1 o2 o3 gy m' k → mT g o1 o2 o3 gy m k ∨ X.heap.size ≤ k := fun m m' X h k hk => by
    rcases hk with hk | hk
    · exact .inl (.inl hk)
    · exact (h k hk).imp_left .inr
  have hJ0 : J (mT g o1 o2 o3 gy fun _ => False) [] W0 := hJ _ _ _ _ _ h0 (.of_below q) (fun k hk => .inr (by rcases hk with (hk | hk | hk | hk | hk) | hk; omega; omega; omega; omega; omega; exact hk.elim))
  clear h1 h2 h3 h4 h0 hW
  refine CC.rangeO (γ := Unit) (gf := 65) (lb := [Value.pointer (some ⟨o1, 0, none⟩), .pointer (some ⟨o2, 0, none⟩), .pointer (some ⟨o3, 0, none⟩)]) (encs := lwE) rfl rfl hG (Below.refl _ _) lg (fun k hk => by (try simp only at hk); omega) (fun _ => rfl) rfl
    (fun m pre W' => J (mT g o1 o2 o3 gy m) pre W' ∧ RowL W' gy 93 [.func (.yield lp) #[] #[]])
    (fun m pre W' => Jx (mT g o1 o2 o3 gy m) pre W')
    (fun W' => (∃ m, J m (trL left s N) W') ∨ ∃ m pre, Part (fun xs => xs = trL left s N) pre ∧ Jx m pre W')
    (fun m m' p X Y hs ht hm => ⟨hJ _ _ _ _ _ hs.1 (turn _ _ _ ht) (news _ _ _ hm), ht.row hs.2 (.inl (by omega))⟩)
    (fun m m' p X Y hs ht hm => hJx _ _ _ _ _ hs (turn _ _ _ ht) (news _ _ _ hm))
    ⟨hJ0, hry⟩ (fun m xs W' hS hi hro => .inl ⟨_, hS ▸ hi.1⟩) (fun m pre W' hp hi => .inr ⟨_, _, hp, hi⟩)
    (fun x _ => sl [(5, .pointer (some ⟨gy, 0, none⟩)), (8, .int .i64 x.1), (9, .int .u64 (x.2 : Int))]) (fun _ _ _ => True) (fun _ _ => fun _ _ _ _ _ _ _ => trivial) ?assign ?body ?after
  case assign =>
    rintro l' m pre x W Kc hm h1 hKc
    refine CC.seq ?_
    refine CC.region ?_
    refine LL.val (R.assign rfl rfl) rfl rfl rfl ?_
    refine LL.nilS ?_
    refine CC.region ?_
    refine LL.val (R.assign rfl rfl) rfl rfl rfl ?_
    refine LL.nil ?_
    exact EE.thenK fun a' F => hKc a' _ () (StaysZ.refl _ _ _) (Keeps.refl _ _) h1 (F.keep _ ⟨rfl, rfl, rfl, trivial⟩) trivial
  case body =>
    rintro l' m pre x _ X hm hl' hrl ⟨hJr, hyr⟩ _ hp
    clear hry hJ0 hG hb1 hb2 hb3 hg q
    have hX : W0.heap.size ≤ X.heap.size := by
      obtain ⟨r, hr⟩ := hrl
      have := (Array.getElem?_eq_some_iff.1 hr).1
      omega
    have hy := hY _ _ _ X (fun k hk => by
      rcases hk with (hk | hk | hk | hk | hk) | hk
      · omega
      · omega
      · omega
      · omega
      · omega
      · have := hm k hk; omega) hJr hp
    clear hY
    refine CC.block ?_
    refine CC.seq ?_
    refine CC.region ?_
    refine LL.val (R.load rfl rfl (I.ld1 rfl (RowL.cell hyr rfl))) rfl rfl rfl ?_
    refine LL.val (R.move rfl rfl) rfl rfl rfl ?_
    refine LL.val (R.move rfl rfl) rfl rfl rfl ?_
    refine LL.yield (vs := lwE x) rfl rfl rfl rfl rfl hy ?_
    rintro e Y ⟨hs, (⟨rfl, hJ4, hk4⟩ | ⟨rfl, hJx4⟩)⟩
    · refine ⟨_, rfl, ?_⟩
      have kk : Keeps (fun k => k = o1 ∨ k = o2 ∨ k = o3 ∨ k = g ∨ k = bs) X Y := ⟨hs.size, fun k hk => by
        rcases hk with rfl | rfl | rfl | rfl | rfl
        · exact hs.blk (by omega) (.inl (.inr (.inl rfl))) (by omega)
        · exact hs.blk (by omega) (.inl (.inr (.inr (.inl rfl)))) (by omega)
        · exact hs.blk (by omega) (.inl (.inr (.inr (.inr (.inl rfl))))) (by omega)
        · exact hs.blk (by omega) (.inl (.inl rfl)) (by omega)
        · exact hk4.same _ rfl⟩
      have hyr4 := hs.row hyr (by omega) (.inl (.inr (.inr (.inr (.inr rfl)))))
      refine LL.val (R.not rfl rfl) rfl rfl rfl ?_
      refine LL.nilS ?_
      refine CC.no rfl ?_
      refine CC.skip ?_
      refine EE.inN ?_
      exact EE.roundNZ ⟨hs.sub (by omega) (fun k h => .inr h), kk, hJ4, hyr4⟩
    · refine ⟨_, rfl, ?_⟩
      refine LL.val (R.not rfl rfl) rfl rfl rfl ?_
      refine LL.nilS ?_
      refine CC.yes rfl ?_
      refine CC.exit ?_
      refine EE.inX' rfl ?_
      exact EE.roundXZ ⟨hs.sub (by omega) (fun k h => .inr h), rfl, hJx4⟩
  case after =>
    clear hry hJ0 hG hb1 hb2 hb3 hg q
    rintro E Y hE hA hK
    refine EE.noN ?_
    refine EE.end1 hK [] rfl rfl ?_
    refine ⟨⟨_, rfl⟩, ?_⟩
    rcases hA with ⟨m, h⟩ | ⟨m, p, hp, h⟩
    · exact .inl ⟨m, _, rfl, hJ.putObj _ h (by omega) hK rfl⟩
    · exact .inr ⟨m, p, hp, hJx.putObj _ h (by omega) hK rfl⟩
theorem trace1_F (b1 b2 b3 b4 left n c key : Nat) (way : Int) (a : Option Addr) (w : World) (h1 : RowL w b1 22 [.int .i64 way]) (h2 : RowL w b2 24 [.slice a n c]) (h3 : RowL w b3 23 [.int .u64 (key : Int)]) (h4 : RowL w b4 23 [.int .u64 (left : Int)]) (hn : n ≤ 1048576) (h : (way ≠ 1 ∧ way ≠ 2) ∨ ¬ rowOk left n) (D : Nat → Prop) :
    GivesZ Try.prog 47 [Value.pointer (some ⟨b1, 0, none⟩), .pointer (some ⟨b2, 0, none⟩), .pointer (some ⟨b3, 0, none⟩), .pointer (some ⟨b4, 0, none⟩)].toArray (fun x => (lwE x).toArray) D (fun xs => xs = []) w := by
  intro lp J Jx W hW hJ hJx hY h0
  clear hY
  replace h1 := h1.up hW
  replace h2 := h2.up hW
  replace h3 := h3.up hW
  replace h4 := h4.up hW
  have q := Below.refl W.heap.size W
  rw [show (#[.func (.yield lp) #[] #[]] ++ [Value.pointer (some ⟨b1, 0, none⟩), .pointer (some ⟨b2, 0, none⟩), .pointer (some ⟨b3, 0, none⟩), .pointer (some ⟨b4, 0, none⟩)].toArray : Array Value) = #[.func (.yield lp) #[] #[], .pointer (some ⟨b1, 0, none⟩), .pointer (some ⟨b2, 0, none⟩), .pointer (some ⟨b3, 0, none⟩), .pointer (some ⟨b4, 0, none⟩)] from rfl]
  have fin : ∀ X, Below W.heap.size W X → J (fun _ => False) [] X := fun X b => hJ _ _ _ _ _ h0 (.of_below b) fun k hk => hk.elim
  clear h0 hW
  by_cases e1 : (way ≠ 1 ∧ way ≠ 2) ∨ ((n / 2 : Nat) : Int) < 2 ∨ 28 < ((n / 2 : Nat) : Int)
  · refine X.fnM Try.func47 rfl (n := 38) rfl rfl ?_
    refine CC.seq ?_
    refine CC.region ?_
    have l12 := h1.lt
    have l13 := h2.lt
    have l14 := h3.lt
    have l15 := h4.lt
    refine LL.box [Value.func (Fn.yield lp) #[] #[]] rfl rfl rfl rfl rfl ?_
    intro W17 g18 eg18 r19 z20 b16
    replace h1 := h1.up b16
    replace h2 := h2.up b16
    replace h3 := h3.up b16
    replace h4 := h4.up b16
    replace q := q.trans (b16.mono q.size)
    refine LL.nilS ?_
    refine CC.straight ?_
    refine CC.seq ?_
    refine CC.region ?_
    refine LL.val (R.load rfl rfl (I.ld1 rfl (RowL.cell h1 rfl))) rfl rfl rfl ?_
    refine LL.val (R.load rfl rfl (I.ld1 rfl (RowL.cell h2 rfl))) rfl rfl rfl ?_
    refine LL.val (R.len rfl rfl rfl rfl) rfl rfl rfl ?_
    refine LL.val (R.quoNc rfl rfl rfl rfl (by omega) (by omega)) rfl rfl rfl ?_
    refine LL.val (R.load rfl rfl (I.ld1 rfl (RowL.cell h3 rfl))) rfl rfl rfl ?_
    have l85 := r19.lt
    have l86 := h1.lt
    have l87 := h2.lt
    have l88 := h3.lt
    have l89 := h4.lt
    (refine LL.call (R.call rfl rfl rfl) rfl rfl rfl (new_F way ((n / 2 : Nat) : Int) key _ e1) ?_; rintro e W84 ⟨rfl, b81⟩; refine ⟨_, rfl, ?_⟩)
    have zb81 := b81.size
    replace r19 := r19.up b81
    replace b16 := b16.trans (b81.mono b16.size)
    replace h1 := h1.up b81
    replace h2 := h2.up b81
    replace h3 := h3.up b81
    replace h4 := h4.up b81
    replace q := q.trans (b81.mono q.size)
    refine LL.val (R.move rfl rfl) rfl rfl rfl ?_
    refine LL.val (R.extract rfl rfl rfl) rfl rfl rfl ?_
    refine LL.val (R.extract rfl rfl rfl) rfl rfl rfl ?_
    refine LL.val (R.assign rfl rfl) rfl rfl rfl ?_
    refine LL.val (R.assign rfl rfl) rfl rfl rfl ?_
    refine LL.nilS ?_
    refine CC.seq ?_
    refine CC.seq ?_
    refine CC.region ?_
    refine LL.val (R.move rfl rfl) rfl rfl rfl ?_
    refine LL.val (R.neT rfl rfl rfl (by omega)) rfl rfl rfl ?_
    refine LL.val (R.move rfl rfl) rfl rfl rfl ?_
    refine LL.skip rfl rfl ?_
    refine LL.skip rfl rfl ?_
    refine LL.skip rfl rfl ?_
    refine LL.skip rfl rfl ?_
    refine LL.val (R.pick rfl rfl rfl) rfl rfl rfl ?_
    refine LL.nilS ?_
    refine CC.yes rfl ?_
    refine CC.ret ?_
    refine EE.thenR ?_
    refine EE.noR ?_
    refine EE.retM _ rfl rfl ?_
    exact ⟨⟨_, rfl⟩, .inl ⟨_, _, rfl, fin _ q⟩⟩
  have e2 : ¬ rowOk left n := h.resolve_left fun e => e1 (.inl e)
  obtain ⟨up, rfl⟩ : ∃ up, way = wayI up := by
    by_cases e : way = 1
    · exact ⟨true, e⟩
    · exact ⟨false, by unfold wayI; simp; omega⟩
  have e3 : 2 ≤ n / 2 ∧ n / 2 ≤ 28 := by omega
  clear h e1
  refine X.fnM Try.func47 rfl (n := 38) rfl rfl ?_
  refine CC.seq ?_
  refine CC.region ?_
  have la12 := h2.lt
  have la13 := h3.lt
  have la14 := h4.lt
  have la15 := h1.lt
  refine LL.box [Value.func (Fn.yield lp) #[] #[]] rfl rfl rfl rfl rfl ?_
  intro Wa17 ga18 ega18 ra19 za20 ba16
  replace h2 := h2.up ba16
  replace h3 := h3.up ba16
  replace h4 := h4.up ba16
  replace q := q.trans (ba16.mono q.size)
  replace h1 := h1.up ba16
  refine LL.nilS ?_
  refine CC.straight ?_
  refine CC.seq ?_
  refine CC.region ?_
  refine LL.val (R.load rfl rfl (I.ld1 rfl (RowL.cell h1 rfl))) rfl rfl rfl ?_
  refine LL.val (R.load rfl rfl (I.ld1 rfl (RowL.cell h2 rfl))) rfl rfl rfl ?_
  refine LL.val (R.len rfl rfl rfl rfl) rfl rfl rfl ?_
  refine LL.val (R.quoNc rfl rfl rfl rfl (by omega) (by omega)) rfl rfl rfl ?_
  refine LL.val (R.load rfl rfl (I.ld1 rfl (RowL.cell h3 rfl))) rfl rfl rfl ?_
  have la85 := ra19.lt
  have la86 := h2.lt
  have la87 := h3.lt
  have la88 := h4.lt
  have la89 := h1.lt
  (refine LL.call (R.call rfl rfl rfl) rfl rfl rfl (new_T up (n / 2) key _ (by omega) (by omega)) ?_; rintro e Wa84 ⟨g, rfl, hg, hgl, ba81⟩; refine ⟨_, rfl, ?_⟩)
  have zba81 := ba81.size
  replace ra19 := ra19.up ba81
  replace ba16 := ba16.trans (ba81.mono ba16.size)
  replace h2 := h2.up ba81
  replace h3 := h3.up ba81
  replace h4 := h4.up ba81
  replace q := q.trans (ba81.mono q.size)
  replace h1 := h1.up ba81
  refine LL.val (R.move rfl rfl) rfl rfl rfl ?_
  refine LL.val (R.extract rfl rfl rfl) rfl rfl rfl ?_
  refine LL.val (R.extract rfl rfl rfl) rfl rfl rfl ?_
  refine LL.val (R.assign rfl rfl) rfl rfl rfl ?_
  refine LL.val (R.assign rfl rfl) rfl rfl rfl ?_
  refine LL.nilS ?_
  refine CC.seq ?_
  refine CC.seq ?_
  refine CC.region ?_
  refine LL.val (R.move rfl rfl) rfl rfl rfl ?_
  refine LL.val (R.neF rfl rfl rfl (by omega)) rfl rfl rfl ?_
  refine LL.val (R.move rfl rfl) rfl rfl rfl ?_
  refine LL.val (R.load rfl rfl (I.ld1 rfl (RowL.cell h4 rfl))) rfl rfl rfl ?_
  refine LL.val (R.load rfl rfl (I.ld1 rfl (RowL.cell h2 rfl))) rfl rfl rfl ?_
  (refine LL.call (R.call rfl rfl rfl) rfl rfl rfl (fits_F left n c a _ e2 hn) ?_; rintro e W' ⟨rfl, rfl⟩; refine ⟨_, rfl, ?_⟩)
  refine LL.val (R.not rfl rfl) rfl rfl rfl ?_
  refine LL.val (R.pick rfl rfl rfl) rfl rfl rfl ?_
  refine LL.nilS ?_
  refine CC.yes rfl ?_
  refine CC.ret ?_
  refine EE.thenR ?_
  refine EE.noR ?_
  refine EE.retM _ rfl rfl ?_
  exact ⟨⟨_, rfl⟩, .inl ⟨_, _, rfl, fin _ q⟩⟩
/-- The loads that Trace tells. -/
def trS (way : Int) (left : Nat) (s : List Nat) (key : Nat) : List (Int × Nat) :=
  if (way = 1 ∨ way = 2) ∧ rowOk left s.length then trL left s (newR (decide (way = 1)) (s.length / 2) key) else []
theorem trS_T {up : Bool} {left key : Nat} {s : List Nat} (h : rowOk left s.length) : trS (wayI up) left s key = trL left s (newR up (s.length / 2) key) := by
  unfold trS
  rw [if_pos ⟨by cases up <;> simp [wayI], h⟩]
  cases up <;> rfl
theorem trS_F {way : Int} {left key : Nat} {s : List Nat} (h : (way ≠ 1 ∧ way ≠ 2) ∨ ¬ rowOk left s.length) : trS way left s key = [] := by
  unfold trS
  rw [if_neg (fun e => by rcases h with h | h; exact (e.1.elim h.1 h.2); exact h e.2)]
theorem way_cases (way : Int) (left n : Nat) : (∃ up, way = wayI up ∧ rowOk left n) ∨ ((way ≠ 1 ∧ way ≠ 2) ∨ ¬ rowOk left n) := by
  by_cases h : rowOk left n
  · by_cases e : way = 1
    · exact .inl ⟨true, e, h⟩
    by_cases e2 : way = 2
    · exact .inl ⟨false, e2, h⟩
    · exact .inr (.inl ⟨e, e2⟩)
  · exact .inr (.inr h)
theorem exposeT {α : Type} {enc : α → List Value} {k : Nat} {W : World} {v : Value} {ts : List α} (h : ReadsT enc k W v ts) : ∃ X0 : World, W.heap.size ≤ X0.heap.size ∧ (∀ X, Below X0.heap.size X0 X → ReadsT enc k X v ts) ∧ Below X0.heap.size X0 W := ⟨W, Nat.le_refl _, fun X b => h.up b, Below.refl _ _⟩

theorem own_bs {W : World} {B e n c : Nat} {a : Option Addr} {s : List Nat} (o : OwnsT uE 1 W B e (.slice a n c) s) (hn : s.length = n) (h0 : 0 < n) : ∃ bs, (∀ b off, a = some ⟨b, off, none⟩ → 0 < n → b = bs) ∧ B ≤ bs ∧ bs < W.heap.size := by
  rcases o.2 with ⟨h, h1⟩ | ⟨g, cap, cur, h, hB, hg, _⟩
  · cases h; omega
  · cases h
    exact ⟨g, fun b off e _ => by cases e; rfl, hB, (Array.getElem?_eq_some_iff.1 hg).1⟩
theorem trace_fin {b1 b2 b3 b4 left n c key : Nat} {way : Int} {a : Option Addr} {s : List Nat} {w W : World} (q : Below w.heap.size w W) (hv : ReadsT uE 1 W (.slice a n c) s) (hn : s.length = n) (hl : n ≤ 1048576) (hb : 0 < n → ∃ bs, (∀ b off, a = some ⟨b, off, none⟩ → 0 < n → b = bs) ∧ w.heap.size ≤ bs ∧ bs < W.heap.size) (h1 : RowL W b1 22 [.int .i64 way]) (h2 : RowL W b2 24 [.slice a n c]) (h3 : RowL W b3 23 [.int .u64 (key : Int)]) (h4 : RowL W b4 23 [.int .u64 (left : Int)]) : ∃ (lb : List Value) (D : Nat → Prop), Ending.returned (.func (.func 47) #[] #[.pointer (some ⟨b1, 0, none⟩), .pointer (some ⟨b2, 0, none⟩), .pointer (some ⟨b3, 0, none⟩), .pointer (some ⟨b4, 0, none⟩)]) = .returned (.func (.func 47) #[] lb.toArray) ∧ GivesZ Try.prog 47 lb.toArray (fun x => (lwE x).toArray) D (fun xs => xs = trS way left s key) W ∧ (∀ k, D k → w.heap.size ≤ k ∧ k < W.heap.size) ∧ Below w.heap.size w W := by
  subst hn
  rcases way_cases way left s.length with ⟨up, rfl, hr⟩ | hF
  · obtain ⟨bs, h5, h6, h7⟩ := hb (by have := hr.2.2.1; omega)
    refine ⟨[.pointer (some ⟨b1, 0, none⟩), .pointer (some ⟨b2, 0, none⟩), .pointer (some ⟨b3, 0, none⟩), .pointer (some ⟨b4, 0, none⟩)], fun k => k = bs, rfl, ?_, fun k hk => by simp only at hk; omega, q⟩
    rw [trS_T hr]
    exact trace1_T b1 b2 b3 b4 left s.length c key bs up a s W h1 h2 h3 h4 hv rfl hr h5 h7
  · refine ⟨[.pointer (some ⟨b1, 0, none⟩), .pointer (some ⟨b2, 0, none⟩), .pointer (some ⟨b3, 0, none⟩), .pointer (some ⟨b4, 0, none⟩)], fun _ => False, rfl, ?_, fun k hk => hk.elim, q⟩
    rw [trS_F hF]
    exact trace1_F b1 b2 b3 b4 left s.length c key way a W h1 h2 h3 h4 hl hF _
theorem trace_any (way : Int) (left n c key : Nat) (a : Option Addr) (s : List Nat) (w : World) (hv : ReadsT uE 1 w (.slice a n c) s) (hn : s.length = n) (hl : n ≤ 1048576) : Calls Try.prog 20 #[.int .i64 way, .int .u64 (left : Int), .slice a n c, .int .u64 (key : Int)] w fun e w' => ∃ (lb : List Value) (D : Nat → Prop), e = .returned (.func (.func 47) #[] lb.toArray) ∧ GivesZ Try.prog 47 lb.toArray (fun x => (lwE x).toArray) D (fun xs => xs = trS way left s key) w' ∧ (∀ k, D k → w.heap.size ≤ k ∧ k < w'.heap.size) ∧ Below w.heap.size w w' := by
  have q := Below.refl w.heap.size w
  have hvF : ∀ X, Below w.heap.size w X → ReadsT uE 1 X (.slice a n c) s := fun X b => hv.up b
  clear hv
  refine X.fn Try.func20 rfl (n := 13) rfl rfl ?_
  refine CC.seq ?_
  refine CC.region ?_
  refine LL.box [Value.int IntKind.i64 way] rfl rfl rfl rfl rfl ?_
  intro W9 g10 eg10 r11 z12 b8
  replace q := q.trans (b8.mono q.size)
  have l21 := r11.lt
  refine LL.box [Value.int IntKind.u64 ↑left] rfl rfl rfl rfl rfl ?_
  intro W23 g24 eg24 r25 z26 b22
  replace r11 := r11.up b22
  replace b8 := b8.trans (b22.mono b8.size)
  replace q := q.trans (b22.mono q.size)
  have l36 := r25.lt
  have l37 := r11.lt
  refine LL.box [Value.int IntKind.u64 ↑key] rfl rfl rfl rfl rfl ?_
  intro W39 g40 eg40 r41 z42 b38
  replace r25 := r25.up b38
  replace b22 := b22.trans (b38.mono b22.size)
  replace r11 := r11.up b38
  replace b8 := b8.trans (b38.mono b8.size)
  replace q := q.trans (b38.mono q.size)
  refine LL.val (R.assign rfl rfl) rfl rfl rfl ?_
  refine LL.nilS ?_
  refine CC.seq ?_
  refine CC.region ?_
  refine LL.val (R.move rfl rfl) rfl rfl rfl ?_
  have l67 := r41.lt
  have l68 := r25.lt
  have l69 := r11.lt
  (refine LL.call (R.call rfl rfl rfl) rfl rfl rfl (uclone_any _ s _ (hvF _ q) (by omega)) ?_; rintro e W66 ⟨v1, rfl, o1, b63⟩; obtain ⟨a1, c1, rfl, hc1⟩ := (o1.reads uEnc).form hn; have hb := own_bs o1 hn; obtain ⟨X1, hzX1, h1F, q1⟩ := exposeT (o1.reads uEnc); have zq1 := q1.size; clear o1; refine ⟨_, rfl, ?_⟩)
  have zb63 := b63.size
  replace r41 := r41.up b63
  replace b38 := b38.trans (b63.mono b38.size)
  replace r25 := r25.up b63
  replace b22 := b22.trans (b63.mono b22.size)
  replace r11 := r11.up b63
  replace b8 := b8.trans (b63.mono b8.size)
  replace q := q.trans (b63.mono q.size)
  have l83 := r41.lt
  have l84 := r25.lt
  have l85 := r11.lt
  refine LL.alloc ([Value.slice none 0 0]) rfl rfl rfl rfl rfl ?_
  intro W87 g88 eg88 r89 z90 b86
  replace b63 := b63.trans (b86.mono b63.size)
  replace q1 := q1.trans (b86.mono q1.size)
  replace r41 := r41.up b86
  replace b38 := b38.trans (b86.mono b38.size)
  replace r25 := r25.up b86
  replace b22 := b22.trans (b86.mono b22.size)
  replace r11 := r11.up b86
  replace b8 := b8.trans (b86.mono b8.size)
  replace q := q.trans (b86.mono q.size)
  refine LL.store rfl rfl rfl rfl r89 (by exact Nat.le_of_ble_eq_true rfl) rfl rfl rfl rfl ?_
  intro W103 r104 b102 z105
  have hlb102 := r89.lt
  replace r104 : RowL W103 _ 24 [Value.slice a1 n c1] := r104
  clear r89
  replace b86 := b86.grown b102 b86.size (by rintro k ⟨⟩; omega)
  replace b63 := b63.grown b102 b63.size (by rintro k ⟨⟩; omega)
  replace q1 := q1.grown b102 q1.size (by rintro k ⟨⟩; omega)
  replace r41 := r41.gr b102 (by have := r41.lt; omega)
  replace b38 := b38.grown b102 b38.size (by rintro k ⟨⟩; omega)
  replace r25 := r25.gr b102 (by have := r25.lt; omega)
  replace b22 := b22.grown b102 b22.size (by rintro k ⟨⟩; omega)
  replace r11 := r11.gr b102 (by have := r11.lt; omega)
  replace b8 := b8.grown b102 b8.size (by rintro k ⟨⟩; omega)
  replace q := q.grown b102 q.size (by rintro k ⟨⟩; omega)
  have r89 := r104
  clear r104
  refine LL.nilS ?_
  refine CC.seq ?_
  refine CC.region ?_
  refine LL.val (R.func rfl rfl rfl) rfl rfl rfl ?_
  refine LL.val (R.assign rfl rfl) rfl rfl rfl ?_
  refine LL.nilS ?_
  refine CC.ret ?_
  refine EE.ret _ rfl rfl ?_
  exact trace_fin q (h1F _ q1) hn hl (fun h0 => by obtain ⟨bs, y1, y2, y3⟩ := hb h0; exact ⟨bs, y1, by omega, by omega⟩) (by assumption) (by assumption) (by assumption) (by assumption)
end Go.Proofs.Ytloflmkolnediaa

/- scan: the statements' own functions, all readers aside. -/
namespace Go.Proofs.Ytloflmkolnediaa
set_option linter.unusedVariables false
set_option linter.unusedSimpArgs false
open Go.RowKit Go.Shelf
set_option maxRecDepth 100000
set_option maxHeartbeats 8000000
theorem num_any (a : Int) (w : World) : Calls Try.prog 11 #[.int .i64 a] w fun e w' => e = .returned (.int .i64 a) ∧ w = w' := by
  refine X.fn Try.func11 rfl (n := 4) rfl rfl ?_
  refine CC.seq ?_
  refine CC.region ?_
  refine LL.val (R.assign rfl rfl) rfl rfl rfl ?_
  refine LL.nilS ?_
  refine CC.seq ?_
  refine CC.region ?_
  refine LL.val (R.move rfl rfl) rfl rfl rfl ?_
  refine LL.val (R.assign rfl rfl) rfl rfl rfl ?_
  refine LL.nilS ?_
  refine CC.ret ?_
  refine EE.ret _ rfl rfl ?_
  exact ⟨rfl, rfl⟩
theorem at_any (left n c : Nat) (a : Option Addr) (s : List Nat) (z : Int) (w : World) (hv : ReadsT uE 1 w (.slice a n c) s) (hn : s.length = n) (hl : n ≤ 1048576) (hz : z < n) : Calls Try.prog 22 #[.int .u64 (left : Int), .slice a n c, .int .i64 z] w fun e w' => e = .returned (.int .u64 (atW left s z : Int)) ∧ w = w' := by
  by_cases h : z < 0
  · rw [show atW left s z = left from if_pos h]
    refine X.fn Try.func22 rfl (n := 14) rfl rfl ?_
    refine CC.seq ?_
    refine CC.region ?_
    refine LL.val (R.assign rfl rfl) rfl rfl rfl ?_
    refine LL.nilS ?_
    refine CC.seq ?_
    refine CC.seq ?_
    refine CC.region ?_
    refine LL.val (R.move rfl rfl) rfl rfl rfl ?_
    refine LL.val (R.ltT rfl rfl rfl (by omega)) rfl rfl rfl ?_
    refine LL.nilS ?_
    refine CC.yes rfl ?_
    refine CC.seq ?_
    refine CC.region ?_
    refine LL.val (R.move rfl rfl) rfl rfl rfl ?_
    refine LL.val (R.assign rfl rfl) rfl rfl rfl ?_
    refine LL.nilS ?_
    refine CC.ret ?_
    refine EE.thenR ?_
    refine EE.ret _ rfl rfl ?_
    exact ⟨rfl, rfl⟩
  obtain ⟨j, rfl⟩ : ∃ j : Nat, z = j := ⟨z.toNat, by omega⟩
  have hj : s[j]? = some (atW left s j) := by
    unfold atW
    rw [if_neg h, Int.toNat_natCast, List.getElem?_eq_getElem (by omega)]
    rfl
  obtain ⟨v, hv'⟩ : ∃ v, atW left s j = v := ⟨_, rfl⟩
  rw [hv'] at hj ⊢
  obtain ⟨bb, off, rfl, lb, hcell⟩ := u_at hv hj
  have hc0 := hcell _ (Below.refl _ _)
  clear hcell
  refine X.fn Try.func22 rfl (n := 14) rfl rfl ?_
  refine CC.seq ?_
  refine CC.region ?_
  refine LL.val (R.assign rfl rfl) rfl rfl rfl ?_
  refine LL.nilS ?_
  refine CC.seq ?_
  refine CC.seq ?_
  refine CC.region ?_
  refine LL.val (R.move rfl rfl) rfl rfl rfl ?_
  refine LL.val (R.ltF rfl rfl rfl (by omega)) rfl rfl rfl ?_
  refine LL.nilS ?_
  refine CC.no rfl ?_
  refine CC.skip ?_
  refine EE.thenN ?_
  refine CC.seq ?_
  refine CC.region ?_
  refine LL.val (R.move rfl rfl) rfl rfl rfl ?_
  refine LL.val (R.move rfl rfl) rfl rfl rfl ?_
  refine LL.val (R.index rfl rfl rfl (I.ixS1 rfl (by omega))) rfl rfl rfl ?_
  refine LL.val (R.load rfl rfl (I.ld1 rfl (by assumption))) rfl rfl rfl ?_
  refine LL.val (R.assign rfl rfl) rfl rfl rfl ?_
  refine LL.nilS ?_
  refine CC.ret ?_
  refine EE.ret _ rfl rfl ?_
  exact ⟨rfl, rfl⟩
abbrev row8 : List Nat := [1, 4, 3, 6, 0, 0, 0, 0]
theorem row_any (w : World) : Calls Try.prog 35 #[] w fun e w' => ∃ g, e = .returned (.slice (some ⟨g, 0, none⟩) 8 8) ∧ ReadsT uE 1 w' (.slice (some ⟨g, 0, none⟩) 8 8) row8 ∧ w.heap.size ≤ g ∧ Below w.heap.size w w' := by
  have q := Below.refl w.heap.size w
  refine X.fn Try.func35 rfl (n := 2) rfl rfl ?_
  refine CC.seq ?_
  refine CC.region ?_
  refine LL.val (R.assign rfl rfl) rfl rfl rfl ?_
  refine LL.nilS ?_
  refine CC.seq ?_
  refine CC.region ?_
  refine LL.lit (e := 23) [Value.int IntKind.u64 1, Value.int IntKind.u64 4, Value.int IntKind.u64 3, Value.int IntKind.u64 6, Value.int IntKind.u64 0, Value.int IntKind.u64 0, Value.int IntKind.u64 0, Value.int IntKind.u64 0] 8 rfl rfl (fun _ => by kernel_rfl) rfl rfl ?_
  intro W2 g3 eg3 r4 z5 b1
  replace q := q.trans (b1.mono q.size)
  refine LL.val (R.assign rfl rfl) rfl rfl rfl ?_
  refine LL.nilS ?_
  refine CC.ret ?_
  refine EE.ret _ rfl rfl ?_
  exact ⟨_, rfl, (RowL.ownsT (base := w.heap.size) (ts := row8) uEnc r4 (by omega) (by simp [maxLen])).reads uEnc, by omega, q⟩
end Go.Proofs.Ytloflmkolnediaa

/- scan: the chapter's rows; ScanNone. -/
namespace Go.Proofs.Ytloflmkolnediaa
set_option linter.unusedVariables false
set_option linter.unusedSimpArgs false
open Go.RowKit Go.Shelf
set_option maxRecDepth 100000
set_option maxHeartbeats 8000000
def zE (z : Int) : List Value := [.int .i64 z]
theorem zEnc : Enc zE 1 := ⟨fun _ => rfl, fun t u hu => by
  simp only [zE, List.mem_singleton] at hu
  subst hu
  rfl, by decide⟩
theorem trF_at (left : Nat) (s : List Nat) : ∀ (n : Nat) (r : Rd), InvR r → ∀ x ∈ trF left s n r, x.2 = atW left s x.1 ∧ -1 ≤ x.1 ∧ x.1 < 2 * (r.slots : Int) := by
  intro n
  induction n with
  | zero => intro r _ x hx; cases hx
  | succ n ih =>
    intro r hi x hx
    unfold trF at hx
    cases hd : r.dn with
    | true => rw [hd] at hx; cases hx
    | false =>
      rw [hd] at hx
      rcases List.mem_cons.1 hx with rfl | hx
      · exact ⟨rfl, want_ge r, want_lt hi⟩
      · have := ih _ (next_inv (left := left) (s := s) hi hd).1 x hx
        rwa [show (nextR left s r).slots = r.slots from (give_key r _).2.1] at this
theorem trS_at {way : Int} {left key : Nat} {s : List Nat} : ∀ x ∈ trS way left s key, x.2 = atW left s x.1 ∧ -1 ≤ x.1 ∧ x.1 < s.length := by
  intro x hx
  unfold trS at hx
  split at hx
  · rename_i h
    obtain ⟨h0, h1, h2, h3, h4⟩ := h
    have hi := (new_inv (up := decide (way = 1)) (slots := s.length / 2) (key := key) (by omega) (by omega)).1
    have := trF_at left s _ _ hi x hx
    refine ⟨this.1, this.2.1, ?_⟩
    have e : (newR (decide (way = 1)) (s.length / 2) key).slots = s.length / 2 := by unfold newR; split <;> rfl
    rw [e] at this
    omega
  · cases hx
theorem loads_T (way : Int) (a : Option Addr) (n c : Nat) (L : List Int) (w : World) (hv : ReadsT zE 1 w (.slice a n c) L) (hn : L.length = n) (hl : n ≤ 1000) (hL : (trS way 9 row8 3).map (·.1) = L) : Calls Try.prog 36 #[.int .i64 way, .slice a n c] w fun e w' => e = .returned (.bool true) ∧ Below w.heap.size w w' := by
  have q := Below.refl w.heap.size w
  have hvF : ∀ X, Below w.heap.size w X → ReadsT zE 1 X (.slice a n c) L := fun X b => hv.up b
  clear hv
  refine X.fnM Try.func36 rfl (n := 42) rfl rfl ?_
  refine CC.seq ?_
  refine CC.region ?_
  refine LL.box [Value.slice a n c] rfl rfl rfl rfl rfl ?_
  intro W16 g17 eg17 r18 z19 b15
  replace q := q.trans (b15.mono q.size)
  have l36 := r18.lt
  refine LL.alloc ([Value.bool false]) rfl rfl rfl rfl rfl ?_
  intro W38 g39 eg39 r40 z41 b37
  replace r18 := r18.up b37
  replace b15 := b15.trans (b37.mono b15.size)
  replace q := q.trans (b37.mono q.size)
  refine LL.nilS ?_
  refine CC.seq ?_
  refine CC.region ?_
  refine LL.val (R.move rfl rfl) rfl rfl rfl ?_
  have l64 := r40.lt
  have l65 := r18.lt
  (refine LL.call (R.call rfl rfl rfl) rfl rfl rfl (row_any _) ?_; rintro e W63 ⟨gr, rfl, rv, hgr, b60⟩; refine ⟨_, rfl, ?_⟩)
  have zb60 := b60.size
  replace r40 := r40.up b60
  replace b37 := b37.trans (b60.mono b37.size)
  replace r18 := r18.up b60
  replace b15 := b15.trans (b60.mono b15.size)
  replace q := q.trans (b60.mono q.size)
  have l82 := r40.lt
  have l83 := r18.lt
  (refine LL.call (R.call rfl rfl rfl) rfl rfl rfl (trace_any way 9 8 8 3 _ row8 _ rv rfl (by omega)) ?_; rintro e W81 ⟨lb, D, rfl, hG, hDb, b78⟩; refine ⟨_, rfl, ?_⟩)
  have zb78 := b78.size
  replace rv := rv.up b78
  replace b60 := b60.trans (b78.mono b60.size)
  replace r40 := r40.up b78
  replace b37 := b37.trans (b78.mono b37.size)
  replace r18 := r18.up b78
  replace b15 := b15.trans (b78.mono b15.size)
  replace q := q.trans (b78.mono q.size)
  refine LL.val (R.assign rfl rfl) rfl rfl rfl ?_
  refine LL.nilS ?_
  refine CC.seq ?_
  refine CC.seq ?_
  refine CC.region ?_
  refine LL.val (R.move rfl rfl) rfl rfl rfl ?_
  refine LL.val (R.eqFn rfl rfl rfl rfl) rfl rfl rfl ?_
  refine LL.nilS ?_
  refine CC.no rfl ?_
  refine CC.skip ?_
  refine EE.thenN ?_
  refine CC.seq ?_
  refine CC.region ?_
  have l159 := r40.lt
  have l160 := r18.lt
  refine LL.alloc ([Value.int IntKind.i64 0]) rfl rfl rfl rfl rfl ?_
  intro W162 g163 eg163 r164 z165 b161
  replace b78 := b78.trans (b161.mono b78.size)
  replace rv := rv.up b161
  replace b60 := b60.trans (b161.mono b60.size)
  replace r40 := r40.up b161
  replace b37 := b37.trans (b161.mono b37.size)
  replace r18 := r18.up b161
  replace b15 := b15.trans (b161.mono b15.size)
  replace q := q.trans (b161.mono q.size)
  refine LL.store rfl rfl rfl rfl r164 (by exact Nat.le_of_ble_eq_true rfl) rfl rfl rfl rfl ?_
  intro W187 r188 b186 z189
  have hlb186 := r164.lt
  replace r188 : RowL W187 _ 3 [Value.int IntKind.i64 0] := r188
  clear r164
  replace b161 := b161.grown b186 b161.size (by rintro k ⟨⟩; omega)
  replace b78 := b78.grown b186 b78.size (by rintro k ⟨⟩; omega)
  replace b60 := b60.grown b186 b60.size (by rintro k ⟨⟩; omega)
  replace r40 := r40.gr b186 (by have := r40.lt; omega)
  replace b37 := b37.grown b186 b37.size (by rintro k ⟨⟩; omega)
  replace r18 := r18.gr b186 (by have := r18.lt; omega)
  replace b15 := b15.grown b186 b15.size (by rintro k ⟨⟩; omega)
  replace q := q.grown b186 q.size (by rintro k ⟨⟩; omega)
  have r164 := r188
  clear r188
  refine LL.nilS ?_
  refine CC.seq ?_
  refine CC.seq ?_
  refine CC.region ?_
  refine LL.val (R.move rfl rfl) rfl rfl rfl ?_
  refine LL.nilS ?_
  refine CC.block ?_
  obtain ⟨W0, eW⟩ : ∃ X, X = W187 := ⟨_, rfl⟩
  obtain ⟨gw, ew⟩ : ∃ g, g = g17 := ⟨_, rfl⟩
  obtain ⟨gs, es⟩ : ∃ g, g = g39 := ⟨_, rfl⟩
  obtain ⟨gn, en⟩ : ∃ g, g = g163 := ⟨_, rfl⟩
  have rw1 := r18
  have rs1 := r40
  have rn1 := r164
  have hBt := b161
  subst eW ew es en
  have hDk : ∀ k, D k → k < gn := fun k hk => by have := hDb k hk; omega
  have yq := q.size
  have lw := rw1.lt
  have ls := rs1.lt
  have ln := rn1.lt
  have hlen : (trS way 9 row8 3).length = n := by rw [← hn, ← hL, List.length_map]
  clear r18 r40 r164 rv b15 b37 b60 b78 b161
  refine CC.rangeZ (γ := Unit) (gf := 47) (lb := lb) (encs := lwE) rfl rfl hG hBt (fun k hk => by have := hDk k hk; omega) (fun _ => rfl) rfl
    (fun m pre W' => Below w.heap.size w W' ∧ RowL W' gn 3 [.int .i64 (pre.length : Int)] ∧ RowL W' gw 64 [.slice a n c] ∧ RowL W' gs 4 [.bool false]) (fun _ _ _ => False)
    (fun W' => Below w.heap.size w W' ∧ RowL W' gn 3 [.int .i64 (n : Int)] ∧ RowL W' gw 64 [.slice a n c] ∧ RowL W' gs 4 [.bool false])
    (fun m m' p X Y hs ht hm => ⟨hs.1.trans (ht.below yq hs.1.size), ht.row hs.2.1 (.inl ln), ht.row hs.2.2.1 (.inl lw), ht.row hs.2.2.2 (.inl ls)⟩)
    (fun m m' p X Y hs ht hm => hs)
    ⟨q, rn1, rw1, rs1⟩ (fun m xs W' hS hi => by rw [hS, hlen] at hi; exact hi) (fun m pre W' hp hi => hi.elim)
    (fun x _ => sl [(3, .pointer (some ⟨gw, 0, none⟩)), (4, .pointer (some ⟨gs, 0, none⟩)), (6, .pointer (some ⟨gn, 0, none⟩)), (7, .int .i64 x.1), (8, .int .u64 (x.2 : Int))]) (fun _ _ _ => True) (fun _ _ => fun _ _ _ _ _ _ _ => trivial) ?assign ?body ?after
  case assign =>
    rintro l' m pre x W Kc hm h1 hKc
    refine CC.seq ?_
    refine CC.region ?_
    refine LL.val (R.assign rfl rfl) rfl rfl rfl ?_
    refine LL.nilS ?_
    refine CC.region ?_
    refine LL.val (R.assign rfl rfl) rfl rfl rfl ?_
    refine LL.nil ?_
    exact EE.thenK fun a' F => hKc a' _ () (StaysZ.refl _ _ _) (Keeps.refl _ _) h1 (F.keep _ ⟨rfl, rfl, rfl, rfl, rfl, trivial⟩) trivial
  case body =>
    clear q rn1 rw1 rs1 hG hBt
    rintro l' m pre ⟨x, v⟩ _ W hm hl' hrl ⟨q, rn1, rw1, rs1⟩ _ ⟨xs, hxs, tt, hp⟩
    subst hxs
    have hget : (trS way 9 row8 3)[pre.length]? = some (x, v) := by rw [← hp]; simp
    have hx := trS_at _ (List.mem_of_getElem? hget)
    have hpk : pre.length < n := by rw [← hlen]; exact (List.getElem?_eq_some_iff.1 hget).1
    have hg2 : L[pre.length]? = some x := by rw [← hL, List.getElem?_map, hget]; rfl
    have hxd : (pre ++ [(x, v)]).length = pre.length + 1 := by simp
    obtain ⟨b1, o1, rfl, _, hc1⟩ := (hvF _ q).one zEnc hg2
    have c1 := hc1 _ rfl
    obtain ⟨h1, h2, h3⟩ := hx
    simp only at h1 h2 h3
    have h3' : x < ((8 : Nat) : Int) := h3
    have st := StaysZ.refl W0.heap.size m W
    have kp := Keeps.refl D W
    have yz := q.size
    have lW : W0.heap.size ≤ W.heap.size := by
      obtain ⟨r, hr⟩ := hrl
      have := (Array.getElem?_eq_some_iff.1 hr).1
      omega
    have hDn : ∀ k, D k → k < gn ∧ k ≠ gn := fun k hk => by have := hDk k hk; omega
    clear hc1 hp hget hlen hL h3 hrl
    refine CC.block ?_
    refine CC.seq ?_
    refine CC.seq ?_
    refine CC.region ?_
    refine LL.val (R.load rfl rfl (I.ld1 rfl (RowL.cell rn1 rfl))) rfl rfl rfl ?_
    refine LL.val (R.load rfl rfl (I.ld1 rfl (RowL.cell rw1 rfl))) rfl rfl rfl ?_
    refine LL.val (R.len rfl rfl rfl rfl) rfl rfl rfl ?_
    refine LL.val (R.geF rfl rfl rfl (by omega)) rfl rfl rfl ?_
    refine LL.val (R.move rfl rfl) rfl rfl rfl ?_
    refine LL.val (R.move rfl rfl) rfl rfl rfl ?_
    refine LL.val (R.load rfl rfl (I.ld1 rfl (RowL.cell rw1 rfl))) rfl rfl rfl ?_
    refine LL.val (R.load rfl rfl (I.ld1 rfl (RowL.cell rn1 rfl))) rfl rfl rfl ?_
    refine LL.val (R.index rfl rfl rfl (I.ixS1 rfl (by omega))) rfl rfl rfl ?_
    refine LL.val (R.load rfl rfl (I.ld1 rfl (by assumption))) rfl rfl rfl ?_
    refine LL.val (R.neF rfl rfl rfl (by omega)) rfl rfl rfl ?_
    refine LL.val (R.pick rfl rfl rfl) rfl rfl rfl ?_
    refine LL.val (R.move rfl rfl) rfl rfl rfl ?_
    refine LL.val (R.move rfl rfl) rfl rfl rfl ?_
    have lb145 := rn1.lt
    have lb146 := rs1.lt
    have lb147 := rw1.lt
    (refine LL.call (R.call rfl rfl rfl) rfl rfl rfl (row_any _) ?_; rintro e Wb144 ⟨gr2, rfl, rv2, hgr2, bb141⟩; refine ⟨_, rfl, ?_⟩)
    have zbb141 := bb141.size
    replace q := q.trans (bb141.mono q.size)
    replace rn1 := rn1.up bb141
    replace rs1 := rs1.up bb141
    replace rw1 := rw1.up bb141
    replace c1 := cell_up c1 bb141
    replace st := st.trans (StaysZ.of_below bb141)
    replace kp := kp.trans (Keeps.of_below (fun k hk => by have := hDk k hk; omega) bb141)
    refine LL.val (R.move rfl rfl) rfl rfl rfl ?_
    (refine LL.call (R.call rfl rfl rfl) rfl rfl rfl (at_any 9 8 8 _ row8 x _ rv2 rfl (by omega) h3') ?_; rintro e W' ⟨rfl, rfl⟩; rw [← h1]; refine ⟨_, rfl, ?_⟩)
    refine LL.val (R.neF rfl rfl rfl (by omega)) rfl rfl rfl ?_
    refine LL.val (R.pick rfl rfl rfl) rfl rfl rfl ?_
    refine LL.nilS ?_
    refine CC.no rfl ?_
    refine CC.skip ?_
    refine EE.thenN ?_
    refine CC.region ?_
    refine LL.val (R.load rfl rfl (I.ld1 rfl (RowL.cell rn1 rfl))) rfl rfl rfl ?_
    refine LL.val (R.addNc rfl rfl rfl rfl (by omega)) rfl rfl rfl ?_
    refine LL.store rfl rfl rfl rfl rn1 (by exact Nat.le_of_ble_eq_true rfl) rfl rfl rfl rfl ?_
    intro Wb222 rb223 bb221 zb224
    have hlbb221 := rn1.lt
    replace rb223 : RowL Wb222 _ 3 [Value.int IntKind.i64 ↑(pre.length + 1)] := rb223
    clear rn1
    replace rv2 := rv2.gr bb221 (by omega)
    replace q := q.grown bb221 q.size (by rintro k ⟨⟩; omega)
    replace rs1 := rs1.gr bb221 (by have := rs1.lt; omega)
    replace rw1 := rw1.gr bb221 (by have := rw1.lt; omega)
    replace st := st.trans (StaysZ.of_grown bb221 (by omega))
    replace kp := kp.trans (Keeps.of_grown bb221 fun k hk => by have := hDk k hk; omega)
    have rn1 := rb223
    clear rb223
    refine LL.nil ?_
    refine EE.inN ?_
    exact EE.roundNZ ⟨st, kp, q, by rw [hxd]; exact rn1, rw1, rs1⟩
  case after =>
    clear q rn1 rw1 rs1 hG hBt
    rintro E W hE ⟨q, rn1, rw1, rs1⟩ hE1
    have eE := (Array.getElem?_eq_some_iff.1 hE1).1
    have hE9 : gs ≠ E := by omega
    refine EE.thenN ?_
    refine CC.seq ?_
    refine CC.region ?_
    refine LL.val (R.load rfl rfl (I.ld1 rfl (RowL.cell rn1 rfl))) rfl rfl rfl ?_
    refine LL.val (R.load rfl rfl (I.ld1 rfl (RowL.cell rw1 rfl))) rfl rfl rfl ?_
    refine LL.val (R.len rfl rfl rfl rfl) rfl rfl rfl ?_
    refine LL.val (R.eqT rfl rfl rfl (by omega)) rfl rfl rfl ?_
    refine LL.store rfl rfl rfl rfl rs1 (by exact Nat.le_of_ble_eq_true rfl) rfl rfl rfl rfl ?_
    intro Wc2 rc3 bc1 zc4
    have hlbc1 := rs1.lt
    replace rc3 : RowL Wc2 _ 4 [Value.bool true] := rc3
    clear rs1
    replace q := q.grown bc1 q.size (by rintro k ⟨⟩; omega)
    replace rn1 := rn1.gr bc1 (by have := rn1.lt; omega)
    replace rw1 := rw1.gr bc1 (by have := rw1.lt; omega)
    replace hE1 := (bc1.block _ (Array.getElem?_eq_some_iff.1 hE1).1 (by simp; omega)).trans hE1
    have rs1 := rc3
    clear rc3
    refine LL.nilS ?_
    refine CC.ret ?_
    refine EE.retN1 hE1 rfl ⟨_, rfl, lv1 rfl (RowL.cell (taken_up (by assumption) (by omega)) rfl)⟩ ?_
    exact ⟨rfl, taken_bel q (by omega) (Nat.le_refl _)⟩
theorem lits_1 : (trS 1 9 row8 3).map (·.1) = [0, 1, 2, 1, 3, 2] := by decide
theorem lits_2 : (trS 2 9 row8 3).map (·.1) = [6, 4, 2, 3, 1, 2] := by decide
theorem look_1 : (lookR true 9 row8 3).found = 6 ∧ (lookR true 9 row8 3).is = true ∧ (lookR true 9 row8 5).found = 0 ∧ (lookR true 9 row8 5).is = false := by decide
theorem row_ok : rowOk 9 8 := by decide
theorem works_any (w : World) : Calls Try.prog 8 #[] w fun e w' => e = .returned (.bool true) ∧ Below w.heap.size w w' := by
  have q := Below.refl w.heap.size w
  obtain ⟨k1, k2, k3, k4⟩ := look_1
  have hk3 : ∀ (gr : Nat) (W : World), ReadsT uE 1 W (.slice (some ⟨gr, 0, none⟩) 8 8) row8 → Calls Try.prog 17 #[.int .i64 1, .int .u64 9, .slice (some ⟨gr, 0, none⟩) 8 8, .int .u64 3] W fun e w' => e = .returned (.tuple #[.int .u64 6, .bool true]) ∧ Below W.heap.size W w' := fun gr W hv => by
    have := look_T true 9 8 8 3 _ row8 W hv rfl row_ok
    rw [k1, k2] at this
    exact this
  have hk5 : ∀ (gr : Nat) (W : World), ReadsT uE 1 W (.slice (some ⟨gr, 0, none⟩) 8 8) row8 → Calls Try.prog 17 #[.int .i64 1, .int .u64 9, .slice (some ⟨gr, 0, none⟩) 8 8, .int .u64 5] W fun e w' => e = .returned (.tuple #[.int .u64 0, .bool false]) ∧ Below W.heap.size W w' := fun gr W hv => by
    have := look_T true 9 8 8 5 _ row8 W hv rfl row_ok
    rw [k3, k4] at this
    exact this
  have hnew : ∀ W : World, Calls Try.prog 9 #[.int .i64 1, .int .i64 1, .int .u64 0] W fun e w' => e = .returned (.tuple #[.pointer none, .int .i64 2]) ∧ Below W.heap.size W w' := fun W => new_F 1 1 0 W (by omega)
  clear k1 k2 k3 k4
  refine X.fn Try.func8 rfl (n := 43) rfl rfl ?_
  refine CC.seq ?_
  refine CC.region ?_
  refine LL.val (R.assign rfl rfl) rfl rfl rfl ?_
  refine LL.nilS ?_
  refine CC.seq ?_
  refine CC.region ?_
  (refine LL.call (R.call rfl rfl rfl) rfl rfl rfl (row_any _) ?_; rintro e W46 ⟨gr2, rfl, rv2, hgr2, b43⟩; refine ⟨_, rfl, ?_⟩)
  have zb43 := b43.size
  replace q := q.trans (b43.mono q.size)
  (refine LL.call (R.call rfl rfl rfl) rfl rfl rfl (hk3 _ _ rv2) ?_; rintro e W60 ⟨rfl, b57⟩; refine ⟨_, rfl, ?_⟩)
  have zb57 := b57.size
  replace rv2 := rv2.up b57
  replace b43 := b43.trans (b57.mono b43.size)
  replace q := q.trans (b57.mono q.size)
  refine LL.val (R.move rfl rfl) rfl rfl rfl ?_
  refine LL.val (R.extract rfl rfl rfl) rfl rfl rfl ?_
  refine LL.val (R.extract rfl rfl rfl) rfl rfl rfl ?_
  refine LL.val (R.assign rfl rfl) rfl rfl rfl ?_
  refine LL.val (R.assign rfl rfl) rfl rfl rfl ?_
  refine LL.nilS ?_
  refine CC.seq ?_
  refine CC.region ?_
  (refine LL.call (R.call rfl rfl rfl) rfl rfl rfl (row_any _) ?_; rintro e W277 ⟨gr2, rfl, rv2, hgr2, b274⟩; refine ⟨_, rfl, ?_⟩)
  have zb274 := b274.size
  replace b57 := b57.trans (b274.mono b57.size)
  replace b43 := b43.trans (b274.mono b43.size)
  replace q := q.trans (b274.mono q.size)
  (refine LL.call (R.call rfl rfl rfl) rfl rfl rfl (hk5 _ _ rv2) ?_; rintro e W298 ⟨rfl, b295⟩; refine ⟨_, rfl, ?_⟩)
  have zb295 := b295.size
  replace rv2 := rv2.up b295
  replace b274 := b274.trans (b295.mono b274.size)
  replace b57 := b57.trans (b295.mono b57.size)
  replace b43 := b43.trans (b295.mono b43.size)
  replace q := q.trans (b295.mono q.size)
  refine LL.val (R.move rfl rfl) rfl rfl rfl ?_
  refine LL.val (R.extract rfl rfl rfl) rfl rfl rfl ?_
  refine LL.val (R.extract rfl rfl rfl) rfl rfl rfl ?_
  refine LL.val (R.assign rfl rfl) rfl rfl rfl ?_
  refine LL.val (R.assign rfl rfl) rfl rfl rfl ?_
  refine LL.nilS ?_
  refine CC.seq ?_
  refine CC.region ?_
  (refine LL.call (R.call rfl rfl rfl) rfl rfl rfl (hnew _) ?_; rintro e W536 ⟨rfl, b533⟩; refine ⟨_, rfl, ?_⟩)
  have zb533 := b533.size
  replace b295 := b295.trans (b533.mono b295.size)
  replace rv2 := rv2.up b533
  replace b274 := b274.trans (b533.mono b274.size)
  replace b57 := b57.trans (b533.mono b57.size)
  replace b43 := b43.trans (b533.mono b43.size)
  replace q := q.trans (b533.mono q.size)
  refine LL.val (R.move rfl rfl) rfl rfl rfl ?_
  refine LL.val (R.extract rfl rfl rfl) rfl rfl rfl ?_
  refine LL.val (R.extract rfl rfl rfl) rfl rfl rfl ?_
  refine LL.val (R.assign rfl rfl) rfl rfl rfl ?_
  refine LL.val (R.assign rfl rfl) rfl rfl rfl ?_
  refine LL.nilS ?_
  refine CC.seq ?_
  refine CC.region ?_
  refine LL.lit (e := 3) [Value.int IntKind.i64 0, Value.int IntKind.i64 1, Value.int IntKind.i64 2, Value.int IntKind.i64 1, Value.int IntKind.i64 3, Value.int IntKind.i64 2] 6 rfl rfl (fun _ => by kernel_rfl) rfl rfl ?_
  intro W793 g794 eg794 r795 z796 b792
  replace b533 := b533.trans (b792.mono b533.size)
  replace b295 := b295.trans (b792.mono b295.size)
  replace rv2 := rv2.up b792
  replace b274 := b274.trans (b792.mono b274.size)
  replace b57 := b57.trans (b792.mono b57.size)
  replace b43 := b43.trans (b792.mono b43.size)
  replace q := q.trans (b792.mono q.size)
  have l833 := r795.lt
  (refine LL.call (R.call rfl rfl rfl) rfl rfl rfl (loads_T 1 _ 6 6 [0, 1, 2, 1, 3, 2] _ ((RowL.ownsT (base := 0) (ts := [0, 1, 2, 1, 3, 2]) zEnc (by assumption) (by omega) (by simp [maxLen])).reads zEnc) rfl (by omega) lits_1) ?_; rintro e W832 ⟨rfl, b829⟩; refine ⟨_, rfl, ?_⟩)
  have zb829 := b829.size
  replace r795 := r795.up b829
  replace b792 := b792.trans (b829.mono b792.size)
  replace b533 := b533.trans (b829.mono b533.size)
  replace b295 := b295.trans (b829.mono b295.size)
  replace rv2 := rv2.up b829
  replace b274 := b274.trans (b829.mono b274.size)
  replace b57 := b57.trans (b829.mono b57.size)
  replace b43 := b43.trans (b829.mono b43.size)
  replace q := q.trans (b829.mono q.size)
  refine LL.val (R.move rfl rfl) rfl rfl rfl ?_
  have l933 := r795.lt
  refine LL.lit (e := 3) [Value.int IntKind.i64 6, Value.int IntKind.i64 4, Value.int IntKind.i64 2, Value.int IntKind.i64 3, Value.int IntKind.i64 1, Value.int IntKind.i64 2] 6 rfl rfl (fun _ => by kernel_rfl) rfl rfl ?_
  intro W935 g936 eg936 r937 z938 b934
  replace b829 := b829.trans (b934.mono b829.size)
  replace r795 := r795.up b934
  replace b792 := b792.trans (b934.mono b792.size)
  replace b533 := b533.trans (b934.mono b533.size)
  replace b295 := b295.trans (b934.mono b295.size)
  replace rv2 := rv2.up b934
  replace b274 := b274.trans (b934.mono b274.size)
  replace b57 := b57.trans (b934.mono b57.size)
  replace b43 := b43.trans (b934.mono b43.size)
  replace q := q.trans (b934.mono q.size)
  have l988 := r937.lt
  have l989 := r795.lt
  (refine LL.call (R.call rfl rfl rfl) rfl rfl rfl (loads_T 2 _ 6 6 [6, 4, 2, 3, 1, 2] _ ((RowL.ownsT (base := 0) (ts := [6, 4, 2, 3, 1, 2]) zEnc (by assumption) (by omega) (by simp [maxLen])).reads zEnc) rfl (by omega) lits_2) ?_; rintro e W987 ⟨rfl, b984⟩; refine ⟨_, rfl, ?_⟩)
  have zb984 := b984.size
  replace r937 := r937.up b984
  replace b934 := b934.trans (b984.mono b934.size)
  replace b829 := b829.trans (b984.mono b829.size)
  replace r795 := r795.up b984
  replace b792 := b792.trans (b984.mono b792.size)
  replace b533 := b533.trans (b984.mono b533.size)
  replace b295 := b295.trans (b984.mono b295.size)
  replace rv2 := rv2.up b984
  replace b274 := b274.trans (b984.mono b274.size)
  replace b57 := b57.trans (b984.mono b57.size)
  replace b43 := b43.trans (b984.mono b43.size)
  replace q := q.trans (b984.mono q.size)
  refine LL.val (R.pick rfl rfl rfl) rfl rfl rfl ?_
  refine LL.val (R.move rfl rfl) rfl rfl rfl ?_
  refine LL.val (R.move rfl rfl) rfl rfl rfl ?_
  refine LL.val (R.eqT rfl rfl rfl (by omega)) rfl rfl rfl ?_
  refine LL.val (R.pick rfl rfl rfl) rfl rfl rfl ?_
  refine LL.val (R.move rfl rfl) rfl rfl rfl ?_
  refine LL.val (R.move rfl rfl) rfl rfl rfl ?_
  refine LL.val (R.pick rfl rfl rfl) rfl rfl rfl ?_
  refine LL.val (R.move rfl rfl) rfl rfl rfl ?_
  refine LL.val (R.move rfl rfl) rfl rfl rfl ?_
  refine LL.val (R.not rfl rfl) rfl rfl rfl ?_
  refine LL.val (R.pick rfl rfl rfl) rfl rfl rfl ?_
  refine LL.val (R.move rfl rfl) rfl rfl rfl ?_
  refine LL.val (R.move rfl rfl) rfl rfl rfl ?_
  refine LL.call (R.call rfl rfl rfl) rfl rfl rfl (num_any _ _) ?_
  rintro e W' ⟨rfl, rfl⟩
  refine ⟨_, rfl, ?_⟩
  refine LL.val (R.eqT rfl rfl rfl (by omega)) rfl rfl rfl ?_
  refine LL.val (R.pick rfl rfl rfl) rfl rfl rfl ?_
  refine LL.val (R.assign rfl rfl) rfl rfl rfl ?_
  refine LL.nilS ?_
  refine CC.ret ?_
  refine EE.ret _ rfl rfl ?_
  exact ⟨rfl, q⟩
theorem nones_walk (v : Int) (w : World) : Calls Try.prog 5 #[.int .u64 v] w fun e w' => e = .returned (.bool true) ∧ Below w.heap.size w w' := by
  have q := Below.refl w.heap.size w
  refine X.fn Try.func5 rfl (n := 96) rfl rfl ?_
  refine CC.seq ?_
  refine CC.region ?_
  refine LL.val (R.assign rfl rfl) rfl rfl rfl ?_
  refine LL.nilS ?_
  refine CC.seq ?_
  refine CC.region ?_
  refine LL.val (R.assign rfl rfl) rfl rfl rfl ?_
  refine LL.nilS ?_
  refine CC.seq ?_
  refine CC.region ?_
  refine LL.val (R.buildV rfl rfl (v := .agg #[Value.int IntKind.u64 0, Value.int IntKind.i64 0, Value.int IntKind.i64 0, Value.int IntKind.u64 0, Value.int IntKind.u64 0, Value.int IntKind.i64 0, Value.int IntKind.i64 0, Value.int IntKind.u64 0, Value.bool false, Value.bool false, Value.int IntKind.i64 0, Value.nilFunc]) (fun _ => by kernel_rfl)) rfl rfl rfl ?_
  refine LL.box [Value.int IntKind.u64 0, Value.int IntKind.i64 0, Value.int IntKind.i64 0, Value.int IntKind.u64 0, Value.int IntKind.u64 0, Value.int IntKind.i64 0, Value.int IntKind.i64 0, Value.int IntKind.u64 0, Value.bool false, Value.bool false, Value.int IntKind.i64 0, Value.nilFunc] rfl rfl rfl rfl rfl ?_
  intro W30 g31 eg31 r32 z33 b29
  replace q := q.trans (b29.mono q.size)
  refine LL.val (R.assign rfl rfl) rfl rfl rfl ?_
  refine LL.nilS ?_
  refine CC.seq ?_
  refine CC.region ?_
  refine LL.val (R.move rfl rfl) rfl rfl rfl ?_
  (refine LL.call (R.call rfl rfl rfl) rfl rfl rfl (wants_0) ?_; rintro e W' ⟨rfl, rfl⟩; refine ⟨_, rfl, ?_⟩)
  refine LL.val (R.move rfl rfl) rfl rfl rfl ?_
  refine LL.val (R.extract rfl rfl rfl) rfl rfl rfl ?_
  refine LL.val (R.extract rfl rfl rfl) rfl rfl rfl ?_
  refine LL.val (R.assign rfl rfl) rfl rfl rfl ?_
  refine LL.val (R.assign rfl rfl) rfl rfl rfl ?_
  refine LL.nilS ?_
  refine CC.seq ?_
  refine CC.region ?_
  refine LL.val (R.move rfl rfl) rfl rfl rfl ?_
  (refine LL.call (R.call rfl rfl rfl) rfl rfl rfl (wants_Z _ (by assumption)) ?_; rintro e W' ⟨rfl, rfl⟩; refine ⟨_, rfl, ?_⟩)
  refine LL.val (R.move rfl rfl) rfl rfl rfl ?_
  refine LL.val (R.extract rfl rfl rfl) rfl rfl rfl ?_
  refine LL.val (R.extract rfl rfl rfl) rfl rfl rfl ?_
  refine LL.val (R.assign rfl rfl) rfl rfl rfl ?_
  refine LL.val (R.assign rfl rfl) rfl rfl rfl ?_
  refine LL.nilS ?_
  refine CC.seq ?_
  refine CC.region ?_
  refine LL.val (R.move rfl rfl) rfl rfl rfl ?_
  (refine LL.call (R.call rfl rfl rfl) rfl rfl rfl (found_0) ?_; rintro e W' ⟨rfl, rfl⟩; refine ⟨_, rfl, ?_⟩)
  refine LL.val (R.move rfl rfl) rfl rfl rfl ?_
  refine LL.val (R.extract rfl rfl rfl) rfl rfl rfl ?_
  refine LL.val (R.extract rfl rfl rfl) rfl rfl rfl ?_
  refine LL.val (R.extract rfl rfl rfl) rfl rfl rfl ?_
  refine LL.val (R.assign rfl rfl) rfl rfl rfl ?_
  refine LL.val (R.assign rfl rfl) rfl rfl rfl ?_
  refine LL.val (R.assign rfl rfl) rfl rfl rfl ?_
  refine LL.nilS ?_
  refine CC.seq ?_
  refine CC.region ?_
  refine LL.val (R.move rfl rfl) rfl rfl rfl ?_
  (refine LL.call (R.call rfl rfl rfl) rfl rfl rfl (found_Z _ (by assumption)) ?_; rintro e W' ⟨rfl, rfl⟩; refine ⟨_, rfl, ?_⟩)
  refine LL.val (R.move rfl rfl) rfl rfl rfl ?_
  refine LL.val (R.extract rfl rfl rfl) rfl rfl rfl ?_
  refine LL.val (R.extract rfl rfl rfl) rfl rfl rfl ?_
  refine LL.val (R.extract rfl rfl rfl) rfl rfl rfl ?_
  refine LL.val (R.assign rfl rfl) rfl rfl rfl ?_
  refine LL.val (R.assign rfl rfl) rfl rfl rfl ?_
  refine LL.val (R.assign rfl rfl) rfl rfl rfl ?_
  refine LL.nilS ?_
  refine CC.seq ?_
  refine CC.region ?_
  refine LL.val (R.move rfl rfl) rfl rfl rfl ?_
  refine LL.val (R.move rfl rfl) rfl rfl rfl ?_
  (refine LL.call (R.call rfl rfl rfl) rfl rfl rfl (givN_0 _) ?_; rintro e W' ⟨rfl, rfl⟩; refine ⟨_, rfl, ?_⟩)
  refine LL.call (R.call rfl rfl rfl) rfl rfl rfl (num_any _ _) ?_
  rintro e W' ⟨rfl, rfl⟩
  refine ⟨_, rfl, ?_⟩
  refine LL.val (R.eqT rfl rfl rfl (by omega)) rfl rfl rfl ?_
  refine LL.val (R.move rfl rfl) rfl rfl rfl ?_
  refine LL.val (R.move rfl rfl) rfl rfl rfl ?_
  refine LL.val (R.move rfl rfl) rfl rfl rfl ?_
  (refine LL.call (R.call rfl rfl rfl) rfl rfl rfl (givN_Z _ _ (by assumption)) ?_; rintro e W' ⟨rfl, rfl⟩; refine ⟨_, rfl, ?_⟩)
  refine LL.call (R.call rfl rfl rfl) rfl rfl rfl (num_any _ _) ?_
  rintro e W' ⟨rfl, rfl⟩
  refine ⟨_, rfl, ?_⟩
  refine LL.val (R.eqT rfl rfl rfl (by omega)) rfl rfl rfl ?_
  refine LL.val (R.pick rfl rfl rfl) rfl rfl rfl ?_
  refine LL.val (R.move rfl rfl) rfl rfl rfl ?_
  refine LL.val (R.move rfl rfl) rfl rfl rfl ?_
  refine LL.val (R.not rfl rfl) rfl rfl rfl ?_
  refine LL.val (R.pick rfl rfl rfl) rfl rfl rfl ?_
  refine LL.val (R.move rfl rfl) rfl rfl rfl ?_
  refine LL.val (R.move rfl rfl) rfl rfl rfl ?_
  refine LL.val (R.not rfl rfl) rfl rfl rfl ?_
  refine LL.val (R.pick rfl rfl rfl) rfl rfl rfl ?_
  refine LL.val (R.move rfl rfl) rfl rfl rfl ?_
  refine LL.val (R.move rfl rfl) rfl rfl rfl ?_
  refine LL.val (R.not rfl rfl) rfl rfl rfl ?_
  refine LL.val (R.pick rfl rfl rfl) rfl rfl rfl ?_
  refine LL.val (R.move rfl rfl) rfl rfl rfl ?_
  refine LL.val (R.move rfl rfl) rfl rfl rfl ?_
  refine LL.val (R.not rfl rfl) rfl rfl rfl ?_
  refine LL.val (R.pick rfl rfl rfl) rfl rfl rfl ?_
  refine LL.val (R.move rfl rfl) rfl rfl rfl ?_
  refine LL.val (R.move rfl rfl) rfl rfl rfl ?_
  refine LL.val (R.not rfl rfl) rfl rfl rfl ?_
  refine LL.val (R.pick rfl rfl rfl) rfl rfl rfl ?_
  refine LL.val (R.move rfl rfl) rfl rfl rfl ?_
  refine LL.val (R.move rfl rfl) rfl rfl rfl ?_
  refine LL.val (R.not rfl rfl) rfl rfl rfl ?_
  refine LL.val (R.pick rfl rfl rfl) rfl rfl rfl ?_
  refine LL.val (R.move rfl rfl) rfl rfl rfl ?_
  refine LL.val (R.move rfl rfl) rfl rfl rfl ?_
  (refine LL.call (R.call rfl rfl rfl) rfl rfl rfl (loads_0) ?_; rintro e W' ⟨rfl, rfl⟩; refine ⟨_, rfl, ?_⟩)
  refine LL.val (R.move rfl rfl) rfl rfl rfl ?_
  (refine LL.call (R.call rfl rfl rfl) rfl rfl rfl (loads_Z _ (by assumption)) ?_; rintro e W' ⟨rfl, rfl⟩; refine ⟨_, rfl, ?_⟩)
  refine LL.val (R.addIz (z := 0) rfl rfl rfl (by decide) (by decide)) rfl rfl rfl ?_
  refine LL.val (R.eqT rfl rfl rfl (by omega)) rfl rfl rfl ?_
  refine LL.val (R.pick rfl rfl rfl) rfl rfl rfl ?_
  refine LL.val (R.move rfl rfl) rfl rfl rfl ?_
  refine LL.val (R.move rfl rfl) rfl rfl rfl ?_
  (refine LL.call (R.call rfl rfl rfl) rfl rfl rfl (cop_0) ?_; rintro e W' ⟨rfl, rfl⟩; refine ⟨_, rfl, ?_⟩)
  refine LL.val (R.eqPtr rfl rfl rfl rfl rfl) rfl rfl rfl ?_
  refine LL.val (R.pick rfl rfl rfl) rfl rfl rfl ?_
  refine LL.val (R.move rfl rfl) rfl rfl rfl ?_
  refine LL.val (R.move rfl rfl) rfl rfl rfl ?_
  (refine LL.call (R.call rfl rfl rfl) rfl rfl rfl (cop_Z _ (by assumption)) ?_; rintro e W' ⟨rfl, rfl⟩; refine ⟨_, rfl, ?_⟩)
  refine LL.val (R.eqPtr rfl rfl rfl rfl rfl) rfl rfl rfl ?_
  refine LL.val (R.pick rfl rfl rfl) rfl rfl rfl ?_
  refine LL.val (R.move rfl rfl) rfl rfl rfl ?_
  have l742 := r32.lt
  (refine LL.call (R.call rfl rfl rfl) rfl rfl rfl (works_any _) ?_; rintro e W741 ⟨rfl, b738⟩; refine ⟨_, rfl, ?_⟩)
  have zb738 := b738.size
  replace r32 := r32.up b738
  replace b29 := b29.trans (b738.mono b29.size)
  replace q := q.trans (b738.mono q.size)
  refine LL.val (R.pick rfl rfl rfl) rfl rfl rfl ?_
  refine LL.val (R.assign rfl rfl) rfl rfl rfl ?_
  refine LL.nilS ?_
  refine CC.ret ?_
  refine EE.ret _ rfl rfl ?_
  exact ⟨rfl, q⟩
end Go.Proofs.Ytloflmkolnediaa

/- slots: stores applied; a change under way, since its call; shift. -/
namespace Go.Proofs.Ytloflmkolnediaa
set_option linter.unusedVariables false
set_option linter.unusedSimpArgs false
open Go.RowKit Go.Shelf
/-- Words to which stores are applied. -/
def applyS (s : List Nat) (os : List Pt) : List Nat := os.foldl (fun s p => s.set p.1.toNat p.2) s
theorem applyS_nil (s : List Nat) : applyS s [] = s := rfl
theorem applyS_app (s : List Nat) (a b : List Pt) : applyS s (a ++ b) = applyS (applyS s a) b := List.foldl_append
theorem applyS_one (s : List Nat) (j v : Nat) : applyS s [((j : Int), v)] = s.set j v := by simp [applyS]
theorem applyS_len (s : List Nat) (os : List Pt) : (applyS s os).length = s.length := by
  induction os generalizing s with
  | nil => rfl
  | cons p os ih => rw [show p :: os = [p] ++ os from rfl, applyS_app, ih]; simp [applyS]
theorem applyS_ne {s : List Nat} {os : List Pt} {i : Nat} (h : ∀ p ∈ os, p.1.toNat ≠ i) : (applyS s os)[i]? = s[i]? := by
  induction os generalizing s with
  | nil => rfl
  | cons p os ih =>
    rw [show p :: os = [p] ++ os from rfl, applyS_app, ih (fun q hq => h q (List.mem_cons_of_mem _ hq))]
    show (s.set p.1.toNat p.2)[i]? = _
    rw [List.getElem?_set_ne (h p (List.mem_cons_self ..))]
theorem keyN_ne {s : List Nat} {os : List Pt} {j : Nat} (h : ∀ p ∈ os, p.1.toNat ≠ 2 * j) : keyN (applyS s os) j = keyN s j := by unfold keyN; rw [applyS_ne h]
theorem ptrN_ne {s : List Nat} {os : List Pt} {j : Nat} (h : ∀ p ∈ os, p.1.toNat ≠ 2 * j + 1) : ptrN (applyS s os) j = ptrN s j := by unfold ptrN; rw [applyS_ne h]
section
variable {W0 W W' : World} {A gs cs gr go ob0 ob ob2 n left : Nat} {s s2 : List Nat} {os os2 : List Pt}
abbrev sV (gs n cs : Nat) : Value := .slice (some ⟨gs, 0, none⟩) n cs
end
/-- The stores by which the first k of the slots from d on take what is behind them. -/
def shK (s : List Nat) (d : Nat) : Nat → List Pt
  | 0 => []
  | k + 1 => shK s d k ++ [(((2 * (d + k) : Nat) : Int), keyN s (d + k + 1)), (((2 * (d + k) + 1 : Nat) : Int), ptrN s (d + k + 1))]
def shL (s : List Nat) (d m : Nat) : List Pt := shK s d (m - 1 - d) ++ [(((2 * (m - 1) + 1 : Nat) : Int), 0)]
theorem shK_lt {s : List Nat} {d : Nat} : ∀ {k : Nat}, ∀ p ∈ shK s d k, p.1.toNat < 2 * (d + k) ∧ 2 * d ≤ p.1.toNat
  | 0, p, h => by simp [shK] at h
  | k + 1, p, h => by
    unfold shK at h
    rcases List.mem_append.1 h with h | h
    · have := shK_lt p h
      omega
    · simp only [List.mem_cons, List.not_mem_nil, or_false] at h
      rcases h with rfl | rfl <;> simp only [Int.toNat_natCast] <;> omega
theorem shK_len (s : List Nat) (d : Nat) : ∀ k, (shK s d k).length = 2 * k
  | 0 => rfl
  | k + 1 => by unfold shK; rw [List.length_append, shK_len s d k]; simp; omega
set_option maxRecDepth 100000
set_option maxHeartbeats 4000000
end Go.Proofs.Ytloflmkolnediaa

/- slots: what the changes do. -/
namespace Go.Proofs.Ytloflmkolnediaa
set_option linter.unusedVariables false
set_option linter.unusedSimpArgs false
open Go.RowKit Go.Shelf
theorem Stl.rise {left : Nat} {s : List Nat} {n : Nat} (h : Stl left s n) : ∀ (i j : Nat), i < j → j < n → keyN s i < keyN s j := fun i j hij hj => by
  induction j with
  | zero => omega
  | succ j ih =>
    have := h.up j hj
    by_cases e : i = j
    · subst e; exact this
    · have := ih (by omega) (by omega)
      omega
theorem findN_uniq {l : List (Nat × Pr)} {key : Nat} {x : Nat × Pr} (hx : x ∈ l) (hk : x.2.1 = key) (hu : ∀ y ∈ l, y.2.1 = key → y = x) : findN l key = (x.1, true) := by
  unfold findN
  cases h : l.find? fun x => x.2.1 == key with
  | none => exact absurd hk (by simpa using List.find?_eq_none.1 h x hx)
  | some y =>
    have h1 := List.mem_of_find?_eq_some h
    have h2 : y.2.1 = key := by simpa using List.find?_some h
    rw [hu y h1 h2]
theorem find_stlT {left n key i : Nat} {s : List Nat} (h : Stl left s n) (hi : i < n) (hk : keyN s i = key) : findN (pairS left s) key = (i, true) := by
  refine findN_uniq (x := (i, prA s i)) (by rw [h.pairS]; exact List.mem_map.2 ⟨i, List.mem_range.2 hi, rfl⟩) hk fun y hy hyk => ?_
  rw [h.pairS] at hy
  obtain ⟨j, hj, rfl⟩ := List.mem_map.1 hy
  have hj := List.mem_range.1 hj
  have hyk : keyN s j = key := hyk
  rcases Nat.lt_trichotomy i j with e | rfl | e
  · have := h.rise i j e hj; omega
  · rfl
  · have := h.rise j i e hi; omega
theorem find_stlF {left n key : Nat} {s : List Nat} (h : Stl left s n) (hk : ∀ j, j < n → keyN s j ≠ key) : findN (pairS left s) key = (0, false) := findN_none fun y hy => by
  rw [h.pairS] at hy
  obtain ⟨j, hj, rfl⟩ := List.mem_map.1 hy
  exact hk j (List.mem_range.1 hj)
section
variable {W0 W W' : World} {A gs cs gr go ob0 ob ob2 n left : Nat} {s s2 : List Nat} {os os2 : List Pt}
/-- Why a pointer may not come in. -/
def rpE (left : Nat) (s : List Nat) (p c : Nat) : Prop := (c = 2 ∧ (p = 0 ∨ p = left)) ∨ (p ≠ 0 ∧ p ≠ left ∧ ((c = 190 ∧ ¬ setP left s) ∨ (c = 2 ∧ ∃ m, Stl left s m ∧ ∃ j, j < m ∧ ptrN s j = p)))
end
set_option maxRecDepth 100000
set_option maxHeartbeats 4000000
/-- Swap's closure. -/
def swapL (i p : Nat) : List Pt := [(((2 * i + 1 : Nat) : Int), p)]
end Go.Proofs.Ytloflmkolnediaa

/- slots: Take, Put: what the changes do. -/
namespace Go.Proofs.Ytloflmkolnediaa
set_option linter.unusedVariables false
set_option linter.unusedSimpArgs false
open Go.RowKit Go.Shelf
theorem shK_congr {s s1 : List Nat} {d : Nat} (h : ∀ j, d < j → keyN s1 j = keyN s j ∧ ptrN s1 j = ptrN s j) : ∀ k, shK s1 d k = shK s d k
  | 0 => rfl
  | k + 1 => by
    unfold shK
    rw [shK_congr h k, (h (d + k + 1) (by omega)).1, (h (d + k + 1) (by omega)).2]
theorem shL_congr {s s1 : List Nat} {d m : Nat} (h : ∀ j, d < j → keyN s1 j = keyN s j ∧ ptrN s1 j = ptrN s j) : shL s1 d m = shL s d m := by unfold shL; rw [shK_congr h]
def takeL (left : Nat) (s : List Nat) (i m : Nat) : List Pt := [(((2 * i + 1 : Nat) : Int), aheadN left s i)] ++ shL s i m
set_option maxRecDepth 100000
set_option maxHeartbeats 4000000
/-- Put's stores that make room. -/
def upK (s : List Nat) (n : Nat) : Nat → List Pt
  | 0 => []
  | t + 1 => upK s n t ++ [(((2 * (n - 1 - t + 1) + 1 : Nat) : Int), ptrN s (n - 1 - t)), (((2 * (n - 1 - t + 1) : Nat) : Int), keyN s (n - 1 - t))]
theorem upK_len (s : List Nat) (n : Nat) : ∀ t, (upK s n t).length = 2 * t
  | 0 => rfl
  | t + 1 => by unfold upK; rw [List.length_append, upK_len s n t]; simp; omega
theorem upK_ge {s : List Nat} {n : Nat} : ∀ {t : Nat}, t ≤ n → ∀ p ∈ upK s n t, 2 * (n - t) + 2 ≤ p.1.toNat
  | 0, _, p, h => by simp [upK] at h
  | t + 1, ht, p, h => by
    unfold upK at h
    rcases List.mem_append.1 h with h | h
    · have := upK_ge (by omega) p h
      omega
    · simp only [List.mem_cons, List.not_mem_nil, or_false] at h
      rcases h with rfl | rfl <;> simp only [Int.toNat_natCast] <;> omega
def putA (s : List Nat) (m t : Nat) : List Pt := [(((2 * (m + 1) + 1 : Nat) : Int), 0)] ++ upK s m t
theorem putA_ge {s : List Nat} {m t : Nat} (ht : t ≤ m) : ∀ p ∈ putA s m t, 2 * (m - t) + 2 ≤ p.1.toNat := fun p hp => by
  rcases List.mem_append.1 hp with hp | hp
  · rw [List.mem_singleton.1 hp]; simp only [Int.toNat_natCast]; omega
  · exact upK_ge ht p hp
def putL (left : Nat) (s : List Nat) (m i k p : Nat) : List Pt := putA s m (m - i) ++ [(((2 * i + 1 : Nat) : Int), aheadN left s i)] ++ [(((2 * i : Nat) : Int), k)] ++ [(((2 * i + 1 : Nat) : Int), p)]
end Go.Proofs.Ytloflmkolnediaa

/- slots: Put: what the change does. -/
namespace Go.Proofs.Ytloflmkolnediaa
set_option linter.unusedVariables false
set_option linter.unusedSimpArgs false
open Go.RowKit Go.Shelf
set_option maxRecDepth 100000
set_option maxHeartbeats 8000000
end Go.Proofs.Ytloflmkolnediaa

/- slots: Tidy: what the change does. -/
namespace Go.Proofs.Ytloflmkolnediaa
set_option linter.unusedVariables false
set_option linter.unusedSimpArgs false
open Go.RowKit Go.Shelf
/-- The first slot that counts for nothing. -/
def dblO (left : Nat) (s : List Nat) : Option Nat := (List.range (overN s)).find? fun j => ptrN s j == aheadN left s j
theorem dblO_some {left : Nat} {s : List Nat} {d : Nat} (h : dblO left s = some d) : d < overN s ∧ ptrN s d = aheadN left s d := by
  have h1 := List.mem_range.1 (List.mem_of_find?_eq_some h)
  have h2 := List.find?_some h
  exact ⟨h1, by simpa using h2⟩
theorem dblO_none {left : Nat} {s : List Nat} (h : dblO left s = none) : ∀ j, j < overN s → ptrN s j ≠ aheadN left s j := fun j hj => by
  have := List.find?_eq_none.1 h j (List.mem_range.2 hj)
  simpa using this
theorem dblO_at {left : Nat} {s : List Nat} {d : Nat} (hd : d < overN s) (h : ptrN s d = aheadN left s d) (hb : ∀ j, j < d → ptrN s j ≠ aheadN left s j) : dblO left s = some d := by
  unfold dblO
  have e : List.range (overN s) = List.range d ++ ((List.range (overN s - d)).map (d + ·)) := by rw [← List.range_add]; congr 1; omega
  rw [e, List.find?_append, List.find?_eq_none.2 fun y hy => by simpa using hb y (List.mem_range.1 hy)]
  obtain ⟨k, hk⟩ : ∃ k, overN s - d = k + 1 := ⟨overN s - d - 1, by omega⟩
  rw [hk, List.range_succ_eq_map]
  simp [h]
theorem dblO_no {left : Nat} {s : List Nat} (h : ∀ j, j < overN s → ptrN s j ≠ aheadN left s j) : dblO left s = none :=
  List.find?_eq_none.2 fun j hj => by simpa using h j (List.mem_range.1 hj)
def tdO (left : Nat) : Nat → List Nat → List Pt
  | 0, _ => []
  | f + 1, s => match dblO left s with
    | none => []
    | some d => shL s d (overN s) ++ tdO left f (applyS s (shL s d (overN s)))
theorem shL_len (s : List Nat) (d m : Nat) (h : d < m) : (shL s d m).length ≤ 2 * m := by unfold shL; rw [List.length_append, shK_len]; simp; omega
theorem tdO_len {left : Nat} : ∀ {f : Nat} {s : List Nat}, s.length ≤ 56 → (tdO left f s).length ≤ f * 56
  | 0, _, _ => by simp [tdO]
  | f + 1, s, h => by
    unfold tdO
    split
    · simp
    · rename_i d hd
      have h1 := (dblO_some hd).1
      have h2 := over_le s
      have h3 := shL_len s d (overN s) h1
      have h4 := tdO_len (left := left) (f := f) (s := applyS s (shL s d (overN s))) (by rw [applyS_len]; exact h)
      rw [List.length_append]
      omega
/-- What a shift leaves. -/
theorem shK_get {s : List Nat} {d : Nat} : ∀ {k : Nat}, 2 * (d + k) < s.length → ∀ j, (d ≤ j → j < d + k → ptrN (applyS s (shK s d k)) j = ptrN s (j + 1) ∧ keyN (applyS s (shK s d k)) j = keyN s (j + 1)) ∧ ((j < d ∨ d + k ≤ j) → ptrN (applyS s (shK s d k)) j = ptrN s j ∧ keyN (applyS s (shK s d k)) j = keyN s j)
  | 0, _, j => ⟨fun h1 h2 => by omega, fun _ => ⟨rfl, rfl⟩⟩
  | k + 1, hl, j => by
    have ih := shK_get (s := s) (d := d) (k := k) (by omega) j
    have e : applyS s (shK s d (k + 1)) = ((applyS s (shK s d k)).set (2 * (d + k)) (keyN s (d + k + 1))).set (2 * (d + k) + 1) (ptrN s (d + k + 1)) := by
      show applyS s (shK s d k ++ ([(((2 * (d + k) : Nat) : Int), keyN s (d + k + 1))] ++ [(((2 * (d + k) + 1 : Nat) : Int), ptrN s (d + k + 1))])) = _
      rw [applyS_app, applyS_app, applyS_one, applyS_one]
    have hl' : (applyS s (shK s d k)).length = s.length := applyS_len _ _
    by_cases hj : j = d + k
    · subst hj
      refine ⟨fun _ _ => ?_, fun h => by omega⟩
      rw [e]
      unfold ptrN keyN
      constructor
      · rw [List.getElem?_set_self (by rw [List.length_set]; omega)]
        rfl
      · rw [List.getElem?_set_ne (by omega), List.getElem?_set_self (by omega)]
        rfl
    · have hp : ptrN (applyS s (shK s d (k + 1))) j = ptrN (applyS s (shK s d k)) j ∧ keyN (applyS s (shK s d (k + 1))) j = keyN (applyS s (shK s d k)) j := by
        rw [e]
        unfold ptrN keyN
        rw [List.getElem?_set_ne (by omega), List.getElem?_set_ne (by omega), List.getElem?_set_ne (by omega), List.getElem?_set_ne (by omega)]
        exact ⟨rfl, rfl⟩
      rw [hp.1, hp.2]
      exact ⟨fun h1 h2 => ih.1 h1 (by omega), fun h => ih.2 (by omega)⟩
theorem shL_get {s : List Nat} {d m : Nat} (hd : d < m) (hm : 2 * m ≤ s.length) (j : Nat) : (j < d → ptrN (applyS s (shL s d m)) j = ptrN s j ∧ keyN (applyS s (shL s d m)) j = keyN s j) ∧ (d ≤ j → j < m - 1 → ptrN (applyS s (shL s d m)) j = ptrN s (j + 1) ∧ keyN (applyS s (shL s d m)) j = keyN s (j + 1)) ∧ (j = m - 1 → ptrN (applyS s (shL s d m)) j = 0) ∧ (m ≤ j → ptrN (applyS s (shL s d m)) j = ptrN s j ∧ keyN (applyS s (shL s d m)) j = keyN s j) := by
  have ih := shK_get (s := s) (d := d) (k := m - 1 - d) (by omega) j
  have e : applyS s (shL s d m) = (applyS s (shK s d (m - 1 - d))).set (2 * (m - 1) + 1) 0 := by unfold shL; rw [applyS_app, applyS_one]
  have hl' : (applyS s (shK s d (m - 1 - d))).length = s.length := applyS_len _ _
  have hne : j ≠ m - 1 → ptrN (applyS s (shL s d m)) j = ptrN (applyS s (shK s d (m - 1 - d))) j := fun h => by
    rw [e]; unfold ptrN; rw [List.getElem?_set_ne (by omega)]
  have hk : keyN (applyS s (shL s d m)) j = keyN (applyS s (shK s d (m - 1 - d))) j := by
    rw [e]; unfold keyN; rw [List.getElem?_set_ne (by omega)]
  refine ⟨fun h => ?_, fun h1 h2 => ?_, fun h => ?_, fun h => ?_⟩
  · rw [hne (by omega), hk]; exact ih.2 (by omega)
  · rw [hne (by omega), hk]; exact ih.1 h1 (by omega)
  · subst h
    rw [e]; unfold ptrN; rw [List.getElem?_set_self (by omega)]; rfl
  · rw [hne (by omega), hk]; exact ih.2 (by omega)
theorem shL_over {left : Nat} {s : List Nat} {d : Nat} (h : d < overN s) : overN (applyS s (shL s d (overN s))) = overN s - 1 := by
  have hl := over_le s
  have g := fun j => shL_get (s := s) h (by omega) j
  refine over_eq (by rw [applyS_len]; omega) (fun i hi => ?_) (.inr ((g (overN s - 1)).2.2.1 rfl))
  by_cases hd : i < d
  · rw [((g i).1 hd).1]; exact over_ne (by omega)
  · rw [((g i).2.1 (by omega) hi).1]; exact over_ne (by omega)
/-- The zeros that are laid behind what is read, from the last slot down. -/
def zrK (s : List Nat) : Nat → List Pt
  | 0 => []
  | t + 1 => zrK s t ++ (if ptrN s (s.length / 2 - 1 - t) = 0 then [] else [(((2 * (s.length / 2 - 1 - t) + 1 : Nat) : Int), 0)])
theorem zrK_len (s : List Nat) : ∀ t, (zrK s t).length ≤ t
  | 0 => Nat.le_refl _
  | t + 1 => by
    unfold zrK
    have := zrK_len s t
    rw [List.length_append]
    split
    · simp; omega
    · simp; omega
theorem zrK_ge {s : List Nat} : ∀ {t : Nat}, t ≤ s.length / 2 → ∀ p ∈ zrK s t, 2 * (s.length / 2 - t) + 1 ≤ p.1.toNat ∧ p.1.toNat % 2 = 1 ∧ p.2 = 0
  | 0, _, p, h => by simp [zrK] at h
  | t + 1, ht, p, h => by
    unfold zrK at h
    rcases List.mem_append.1 h with h | h
    · have := zrK_ge (by omega) p h
      exact ⟨by omega, this.2⟩
    · split at h
      · simp at h
      · rw [List.mem_singleton.1 h]
        simp only [Int.toNat_natCast]
        exact ⟨by omega, by omega, trivial⟩
def tidyA (left : Nat) (s : List Nat) : List Pt := tdO left (overN s) s
def tidyZ (left : Nat) (s : List Nat) : List Pt := zrK (applyS s (tidyA left s)) (s.length / 2 - 1 - overN (applyS s (tidyA left s)))
def tidyL (left : Nat) (s : List Nat) : List Pt := tidyA left s ++ tidyZ left s
set_option maxRecDepth 100000
set_option maxHeartbeats 8000000
end Go.Proofs.Ytloflmkolnediaa

/- slots: Tidy: what the change does. -/
namespace Go.Proofs.Ytloflmkolnediaa
set_option linter.unusedVariables false
set_option linter.unusedSimpArgs false
open Go.RowKit Go.Shelf
theorem tdO_none {left : Nat} {s : List Nat} (h : dblO left s = none) : ∀ f, tdO left f s = []
  | 0 => rfl
  | f + 1 => by unfold tdO; rw [h]
theorem tdO_some {left : Nat} {s : List Nat} {d f : Nat} (h : dblO left s = some d) : tdO left (f + 1) s = shL s d (overN s) ++ tdO left f (applyS s (shL s d (overN s))) := by
  conv => lhs; unfold tdO
  rw [h]
theorem tdO_step {left : Nat} {s : List Nat} {d : Nat} (h : dblO left s = some d) : tdO left (overN s) s = shL s d (overN s) ++ tdO left (overN (applyS s (shL s d (overN s)))) (applyS s (shL s d (overN s))) := by
  have hd := (dblO_some h).1
  obtain ⟨f, hf⟩ : ∃ f, overN s = f + 1 := ⟨overN s - 1, by omega⟩
  rw [shL_over (left := left) hd, show overN s - 1 = f by omega, ← tdO_some (f := f) h, ← hf]
set_option maxRecDepth 100000
set_option maxHeartbeats 8000000
end Go.Proofs.Ytloflmkolnediaa

/- slots: a change, its panics recovered. -/
namespace Go.Proofs.Ytloflmkolnediaa
set_option linter.unusedVariables false
set_option linter.unusedSimpArgs false
open Go.RowKit Go.Shelf
set_option maxRecDepth 100000
set_option maxHeartbeats 4000000
theorem callsA {P : Program} {f : FuncId} {a b : Array Value} {w : World} {R : Ending → World → Prop} (h : a = b) (c : Calls P f a w R) : Calls P f b w R := h ▸ c
end Go.Proofs.Ytloflmkolnediaa

/- slots: Put, Take, Swap, Tidy, Read, Each, Check. -/
namespace Go.Proofs.Ytloflmkolnediaa
set_option linter.unusedVariables false
set_option linter.unusedSimpArgs false
open Go.RowKit Go.Shelf
/-- How many keys are less. -/
def posN (s : List Nat) (k : Nat) : Nat := ((List.range (overN s)).takeWhile fun j => decide (keyN s j < k)).length
theorem tw_ex (p : Nat → Bool) : ∀ n, ∃ m, m ≤ n ∧ (∀ i, i < m → p i = true) ∧ (m = n ∨ p m = false)
  | 0 => ⟨0, Nat.le_refl _, fun i h => by omega, .inl rfl⟩
  | n + 1 => by
    obtain ⟨m, h1, h2, h3⟩ := tw_ex p n
    rcases h3 with rfl | h3
    · cases hp : p m with
      | false => exact ⟨m, by omega, h2, .inr hp⟩
      | true => exact ⟨m + 1, by omega, fun i hi => by
          by_cases e : i = m
          · subst e; exact hp
          · exact h2 i (by omega), .inl rfl⟩
    · exact ⟨m, by omega, h2, .inr h3⟩
theorem posN_spec (s : List Nat) (k : Nat) : posN s k ≤ overN s ∧ (∀ j, j < posN s k → keyN s j < k) ∧ (posN s k = overN s ∨ k ≤ keyN s (posN s k)) := by
  obtain ⟨m, h1, h2, h3⟩ := tw_ex (fun j => decide (keyN s j < k)) (overN s)
  have e : posN s k = m := tw_len _ _ h1 h2 h3
  rw [e]
  refine ⟨h1, fun j hj => by simpa using h2 j hj, h3.imp_right fun h => by simpa using h⟩
theorem posN_key {left : Nat} {s : List Nat} {n j k : Nat} (h : Stl left s n) (hj : j < n) (hk : keyN s j = k) : posN s k = j := by
  obtain ⟨h1, h2, h3⟩ := posN_spec s k
  rw [h.over] at h1 h3
  rcases Nat.lt_trichotomy (posN s k) j with e | e | e
  · have := h.rise _ _ e hj
    omega
  · exact e
  · have := h2 j e
    omega
open Classical in
noncomputable def putF (left : Nat) (s : List Nat) (k p : Nat) : Nat × List Pt :=
  if noRow left s.length then (2, []) else if p = 0 ∨ p = left then (2, []) else if ¬ setP left s then (190, []) else if ∃ j, j < overN s ∧ ptrN s j = p then (2, []) else
  if ∃ j, j < overN s ∧ keyN s j = k then (191, []) else if overN s + 1 = s.length / 2 then (3, []) else (0, putL left s (overN s) (posN s k) k p)
open Classical in
noncomputable def takeF (left : Nat) (s : List Nat) (k : Nat) : Nat × List Pt :=
  if noRow left s.length then (2, []) else if ¬ setP left s then (190, []) else if ∃ j, j < overN s ∧ keyN s j = k then (0, takeL left s (posN s k) (overN s)) else (5, [])
open Classical in
noncomputable def swapF (left : Nat) (s : List Nat) (k p : Nat) : Nat × List Pt :=
  if noRow left s.length then (2, []) else if p = 0 ∨ p = left then (2, []) else if ¬ setP left s then (190, []) else if ∃ j, j < overN s ∧ ptrN s j = p then (2, []) else
  if ∃ j, j < overN s ∧ keyN s j = k then (0, swapL (posN s k) p) else (5, [])
open Classical in
noncomputable def tidyF (left : Nat) (s : List Nat) : Nat × List Pt :=
  if noRow left s.length then (2, []) else if setP left (applyS s (tidyL left s)) then (0, tidyL left s) else (190, [])
open Classical in
noncomputable def checkF (left : Nat) (s : List Nat) : Nat := if noRow left s.length then 2 else if setP left s then 0 else 190
/-- What a call of a change hands back. -/
def chQ (r : Nat × List Pt) (w : World) (e : Ending) (w' : World) : Prop := ∃ vo, e = .returned (.tuple #[vo, .int .i64 (r.1 : Int)]) ∧ OwnsT pE 2 w' w.heap.size 99 vo r.2 ∧ Below w.heap.size w w'
theorem chQ_nil {c : Nat} {w : World} {e : Ending} {w' : World} (h : e = .returned (.tuple #[.slice none 0 0, .int .i64 (c : Int)]) ∧ Below w.heap.size w w') : chQ (c, []) w e w' := ⟨_, h.1, OwnsT.none _ _ _, h.2⟩
theorem chQ_os {os : List Pt} {w : World} {e : Ending} {w' : World} (h : ∃ vo, e = .returned (.tuple #[vo, .int .i64 0]) ∧ OwnsT pE 2 w' w.heap.size 99 vo os ∧ Below w.heap.size w w') : chQ (0, os) w e w' := h
theorem noRow_not {left n : Nat} (h : ¬ noRow left n) : left ≠ 0 ∧ n % 2 = 0 ∧ 4 ≤ n ∧ n ≤ 56 := Classical.not_not.1 h
set_option maxRecDepth 100000
set_option maxHeartbeats 4000000
open Classical in
noncomputable def readF (left : Nat) (s : List Nat) : List Pr := if noRow left s.length then [] else pairP left s
end Go.Proofs.Ytloflmkolnediaa

/- slots: Each; the document's rows. -/
namespace Go.Proofs.Ytloflmkolnediaa
set_option linter.unusedVariables false
set_option linter.unusedSimpArgs false
open Go.RowKit Go.Shelf
open Classical in
noncomputable def eachS (left : Nat) (s : List Nat) : List Nat := if noRow left s.length then [] else s
set_option maxRecDepth 100000
set_option maxHeartbeats 4000000
end Go.Proofs.Ytloflmkolnediaa

/- slots: the document's rows, and what is read of them. -/
namespace Go.Proofs.Ytloflmkolnediaa
set_option linter.unusedVariables false
set_option linter.unusedSimpArgs false
open Go.RowKit Go.Shelf
def iE (n : Nat) : List Value := [.int .i64 (n : Int)]

theorem iEnc : Enc iE 1 := ⟨fun _ => rfl, fun t u hu => by
  simp only [iE, List.mem_cons, List.not_mem_nil, or_false] at hu
  subst hu
  rfl, by decide⟩

theorem Try.infoInt : (Try.prog.info? 3).map (fun i => (i.zero, i.size, i.bytes)) = some (some (.int .i64 0), 1, 8) := by kernel_rfl

theorem ElIn : ElT Try.prog 64 3 (.int .i64 0) 1 8 := info_parts_t Try.underlying64 Try.infoInt rfl

set_option maxRecDepth 100000
set_option maxHeartbeats 4000000
theorem dright_T (left : Nat) (a : Option Addr) (n c : Nat) (w : World) (h : left ≠ 0 ∧ n % 2 = 0 ∧ 4 ≤ n ∧ n ≤ 56) : Calls Try.prog 45 #[.int .u64 (left : Int), .slice a n c] w fun e w' => e = .returned (.bool true) ∧ w = w' := by
  refine X.fn Try.func45 rfl (n := 23) rfl rfl ?_
  refine CC.seq ?_
  refine CC.region ?_
  refine LL.val (R.assign rfl rfl) rfl rfl rfl ?_
  refine LL.nilS ?_
  refine CC.seq ?_
  refine CC.region ?_
  refine LL.val (R.move rfl rfl) rfl rfl rfl ?_
  refine LL.val (R.neT rfl rfl rfl (by omega)) rfl rfl rfl ?_
  refine LL.val (R.move rfl rfl) rfl rfl rfl ?_
  refine LL.val (R.move rfl rfl) rfl rfl rfl ?_
  refine LL.val (R.len rfl rfl rfl rfl) rfl rfl rfl ?_
  refine LL.val (R.remNc rfl rfl rfl rfl (by omega)) rfl rfl rfl ?_
  refine LL.val (R.eqT rfl rfl rfl (by omega)) rfl rfl rfl ?_
  refine LL.val (R.pick rfl rfl rfl) rfl rfl rfl ?_
  refine LL.val (R.move rfl rfl) rfl rfl rfl ?_
  refine LL.val (R.move rfl rfl) rfl rfl rfl ?_
  refine LL.val (R.len rfl rfl rfl rfl) rfl rfl rfl ?_
  refine LL.val (R.geT rfl rfl rfl (by omega)) rfl rfl rfl ?_
  refine LL.val (R.pick rfl rfl rfl) rfl rfl rfl ?_
  refine LL.val (R.move rfl rfl) rfl rfl rfl ?_
  refine LL.val (R.move rfl rfl) rfl rfl rfl ?_
  refine LL.val (R.len rfl rfl rfl rfl) rfl rfl rfl ?_
  refine LL.val (R.leT rfl rfl rfl (by omega)) rfl rfl rfl ?_
  refine LL.val (R.pick rfl rfl rfl) rfl rfl rfl ?_
  refine LL.val (R.assign rfl rfl) rfl rfl rfl ?_
  refine LL.nilS ?_
  refine CC.ret ?_
  refine EE.ret _ rfl rfl ?_
  exact ⟨rfl, rfl⟩
--C ref09_Right | dright_F _ _ _ _ @w @p @p | S
theorem dright_F (left : Nat) (a : Option Addr) (n c : Nat) (w : World) (h : noRow left n) (hn : n ≤ 1048576) : Calls Try.prog 45 #[.int .u64 (left : Int), .slice a n c] w fun e w' => e = .returned (.bool false) ∧ w = w' := by
  have h2 : left = 0 ∨ n % 2 ≠ 0 ∨ n < 4 ∨ 56 < n := by
    unfold noRow at h
    omega
  clear h
  refine X.fn Try.func45 rfl (n := 23) rfl rfl ?_
  refine CC.seq ?_
  refine CC.region ?_
  refine LL.val (R.assign rfl rfl) rfl rfl rfl ?_
  refine LL.nilS ?_
  refine CC.seq ?_
  refine CC.region ?_
  refine LL.val (R.move rfl rfl) rfl rfl rfl ?_
  refine LL.vsplit (fun h => R.neT rfl rfl rfl h) (fun h => R.neF rfl rfl rfl (Decidable.not_not.1 h)) rfl rfl rfl (fun c1 => ?_) (fun c1 => ?_)
  refine LL.val (R.move rfl rfl) rfl rfl rfl ?_
  refine LL.val (R.move rfl rfl) rfl rfl rfl ?_
  refine LL.val (R.len rfl rfl rfl rfl) rfl rfl rfl ?_
  refine LL.val (R.remNc rfl rfl rfl rfl (by omega)) rfl rfl rfl ?_
  refine LL.vsplit (fun h => R.eqT rfl rfl rfl h) (fun h => R.eqF rfl rfl rfl h) rfl rfl rfl (fun c2 => ?_) (fun c2 => ?_)
  refine LL.val (R.pick rfl rfl rfl) rfl rfl rfl ?_
  refine LL.val (R.move rfl rfl) rfl rfl rfl ?_
  refine LL.val (R.move rfl rfl) rfl rfl rfl ?_
  refine LL.val (R.len rfl rfl rfl rfl) rfl rfl rfl ?_
  refine LL.vsplit (fun h => R.geT rfl rfl rfl h) (fun h => R.geF rfl rfl rfl (Int.not_le.1 h)) rfl rfl rfl (fun c3 => ?_) (fun c3 => ?_)
  refine LL.val (R.pick rfl rfl rfl) rfl rfl rfl ?_
  refine LL.val (R.move rfl rfl) rfl rfl rfl ?_
  refine LL.val (R.move rfl rfl) rfl rfl rfl ?_
  refine LL.val (R.len rfl rfl rfl rfl) rfl rfl rfl ?_
  refine LL.val (R.leF rfl rfl rfl (by omega)) rfl rfl rfl ?_
  refine LL.val (R.pick rfl rfl rfl) rfl rfl rfl ?_
  refine LL.val (R.assign rfl rfl) rfl rfl rfl ?_
  refine LL.nilS ?_
  refine CC.ret ?_
  refine EE.ret _ rfl rfl ?_
  exact ⟨rfl, rfl⟩
  refine LL.val (R.pick rfl rfl rfl) rfl rfl rfl ?_
  refine LL.val (R.move rfl rfl) rfl rfl rfl ?_
  refine LL.skip rfl rfl ?_
  refine LL.skip rfl rfl ?_
  refine LL.skip rfl rfl ?_
  refine LL.val (R.pick rfl rfl rfl) rfl rfl rfl ?_
  refine LL.val (R.assign rfl rfl) rfl rfl rfl ?_
  refine LL.nilS ?_
  refine CC.ret ?_
  refine EE.ret _ rfl rfl ?_
  exact ⟨rfl, rfl⟩
  refine LL.val (R.pick rfl rfl rfl) rfl rfl rfl ?_
  refine LL.val (R.move rfl rfl) rfl rfl rfl ?_
  refine LL.skip rfl rfl ?_
  refine LL.skip rfl rfl ?_
  refine LL.skip rfl rfl ?_
  refine LL.val (R.pick rfl rfl rfl) rfl rfl rfl ?_
  refine LL.val (R.move rfl rfl) rfl rfl rfl ?_
  refine LL.skip rfl rfl ?_
  refine LL.skip rfl rfl ?_
  refine LL.skip rfl rfl ?_
  refine LL.val (R.pick rfl rfl rfl) rfl rfl rfl ?_
  refine LL.val (R.assign rfl rfl) rfl rfl rfl ?_
  refine LL.nilS ?_
  refine CC.ret ?_
  refine EE.ret _ rfl rfl ?_
  exact ⟨rfl, rfl⟩
  refine LL.val (R.move rfl rfl) rfl rfl rfl ?_
  refine LL.skip rfl rfl ?_
  refine LL.skip rfl rfl ?_
  refine LL.skip rfl rfl ?_
  refine LL.skip rfl rfl ?_
  refine LL.val (R.pick rfl rfl rfl) rfl rfl rfl ?_
  refine LL.val (R.move rfl rfl) rfl rfl rfl ?_
  refine LL.skip rfl rfl ?_
  refine LL.skip rfl rfl ?_
  refine LL.skip rfl rfl ?_
  refine LL.val (R.pick rfl rfl rfl) rfl rfl rfl ?_
  refine LL.val (R.move rfl rfl) rfl rfl rfl ?_
  refine LL.skip rfl rfl ?_
  refine LL.skip rfl rfl ?_
  refine LL.skip rfl rfl ?_
  refine LL.val (R.pick rfl rfl rfl) rfl rfl rfl ?_
  refine LL.val (R.assign rfl rfl) rfl rfl rfl ?_
  refine LL.nilS ?_
  refine CC.ret ?_
  refine EE.ret _ rfl rfl ?_
  exact ⟨rfl, rfl⟩
theorem dahead_any (left : Nat) (a : Option Addr) (n c j : Nat) (s : List Nat) (w : World) (hv : ReadsT uE 1 w (.slice a n c) s) (hn : s.length = n) (h : n ≤ 1048576) (hj : j ≤ n / 2) : Calls Try.prog 50 #[.int .u64 (left : Int), .slice a n c, .int .i64 (j : Int)] w fun e w' => e = .returned (.int .u64 (aheadN left s j : Int)) ∧ w = w' := by
  unfold aheadN
  by_cases h0 : j = 0
  · subst h0
    rw [if_pos rfl]
    refine X.fn Try.func50 rfl (n := 16) rfl rfl ?_
    refine CC.seq ?_
    refine CC.region ?_
    refine LL.val (R.assign rfl rfl) rfl rfl rfl ?_
    refine LL.nilS ?_
    refine CC.seq ?_
    refine CC.seq ?_
    refine CC.region ?_
    refine LL.val (R.move rfl rfl) rfl rfl rfl ?_
    refine LL.val (R.eqT rfl rfl rfl (by omega)) rfl rfl rfl ?_
    refine LL.nilS ?_
    refine CC.yes rfl ?_
    refine CC.seq ?_
    refine CC.region ?_
    refine LL.val (R.move rfl rfl) rfl rfl rfl ?_
    refine LL.val (R.assign rfl rfl) rfl rfl rfl ?_
    refine LL.nilS ?_
    refine CC.ret ?_
    refine EE.thenR ?_
    refine EE.ret _ rfl rfl ?_
    exact ⟨rfl, rfl⟩
  · rw [if_neg h0]
    obtain ⟨i, rfl⟩ : ∃ i, j = i + 1 := ⟨j - 1, by omega⟩
    obtain ⟨b, o, rfl, lb, m1⟩ := u_at hv (ptrN_at (s := s) (j := i) (by omega))
    have c1 : w.cell? ⟨b, o + (2 * (i + 1) - 1), none⟩ = some (.int .u64 (ptrN s (i + 1 - 1) : Int)) := m1 w (Below.refl _ _)
    refine X.fn Try.func50 rfl (n := 16) rfl rfl ?_
    refine CC.seq ?_
    refine CC.region ?_
    refine LL.val (R.assign rfl rfl) rfl rfl rfl ?_
    refine LL.nilS ?_
    refine CC.seq ?_
    refine CC.seq ?_
    refine CC.region ?_
    refine LL.val (R.move rfl rfl) rfl rfl rfl ?_
    refine LL.val (R.eqF rfl rfl rfl (by omega)) rfl rfl rfl ?_
    refine LL.nilS ?_
    refine CC.no rfl ?_
    refine CC.skip ?_
    refine EE.thenN ?_
    refine CC.seq ?_
    refine CC.region ?_
    refine LL.val (R.move rfl rfl) rfl rfl rfl ?_
    refine LL.val (R.move rfl rfl) rfl rfl rfl ?_
    refine LL.val (R.mulcN rfl rfl rfl rfl (by omega)) rfl rfl rfl ?_
    refine LL.val (R.subNc rfl rfl rfl rfl (by omega) (by omega)) rfl rfl rfl ?_
    refine LL.val (R.index rfl rfl rfl (I.ixS1 rfl (by omega))) rfl rfl rfl ?_
    refine LL.val (R.load rfl rfl (I.ld1 rfl (by assumption))) rfl rfl rfl ?_
    refine LL.val (R.assign rfl rfl) rfl rfl rfl ?_
    refine LL.nilS ?_
    refine CC.ret ?_
    refine EE.ret _ rfl rfl ?_
    exact ⟨rfl, rfl⟩
theorem draw_any (a : Option Addr) (n c : Nat) (s : List Nat) (w : World) (hv : ReadsT uE 1 w (.slice a n c) s) (hn : s.length = n) (h : n ≤ 1048576) : Calls Try.prog 49 #[.slice a n c] w fun e w' => e = .returned (.int .i64 (overN s : Int)) ∧ w = w' := by
  refine X.fn Try.func49 rfl (n := 21) rfl rfl ?_
  refine CC.seq ?_
  refine CC.region ?_
  refine LL.val (R.assign rfl rfl) rfl rfl rfl ?_
  refine LL.nilS ?_
  refine CC.seq ?_
  refine CC.region ?_
  refine LL.val (R.assign rfl rfl) rfl rfl rfl ?_
  refine LL.nilS ?_
  refine CC.seq ?_
  refine CC.block ?_
  refine CC.loop (α := Nat) (fun i => [(0, .slice a n c), (3, .int .i64 (i : Int))]) (fun i W => i ≤ n / 2 ∧ w = W ∧ ∀ j, j < i → ptrN s j ≠ 0) (fun i => n / 2 - i) 0 ⟨rfl, rfl, trivial⟩ ⟨Nat.zero_le _, rfl, fun j h => by omega⟩ ?_
  rintro i W ⟨hi, rfl, hs⟩
  show CC none Try.prog _ 21 [] (sl [(0, .slice a n c), (3, .int .i64 (i : Int))]) _ w
  by_cases hlt : i < n / 2
  case neg =>
    obtain rfl : i = n / 2 := by omega
    rw [over_eq (s := s) (m := n / 2) (by omega) hs (.inl (by omega))]
    refine CC.seq ?_
    refine CC.seq ?_
    refine CC.region ?_
    refine LL.val (R.move rfl rfl) rfl rfl rfl ?_
    refine LL.val (R.move rfl rfl) rfl rfl rfl ?_
    refine LL.val (R.len rfl rfl rfl rfl) rfl rfl rfl ?_
    refine LL.val (R.quoNc rfl rfl rfl rfl (by omega) (by omega)) rfl rfl rfl ?_
    refine LL.val (R.ltF rfl rfl rfl (by omega)) rfl rfl rfl ?_
    refine LL.val (R.move rfl rfl) rfl rfl rfl ?_
    refine LL.skip rfl rfl ?_
    refine LL.skip rfl rfl ?_
    refine LL.skip rfl rfl ?_
    refine LL.skip rfl rfl ?_
    refine LL.skip rfl rfl ?_
    refine LL.skip rfl rfl ?_
    refine LL.skip rfl rfl ?_
    refine LL.val (R.pick rfl rfl rfl) rfl rfl rfl ?_
    refine LL.nilS ?_
    refine CC.no rfl ?_
    refine CC.exit ?_
    refine EE.thenX ?_
    refine EE.thenX ?_
    refine EE.inX ?_
    refine EE.thenN ?_
    refine CC.seq ?_
    refine CC.region ?_
    refine LL.val (R.move rfl rfl) rfl rfl rfl ?_
    refine LL.val (R.assign rfl rfl) rfl rfl rfl ?_
    refine LL.nilS ?_
    refine CC.ret ?_
    refine EE.ret _ rfl rfl ?_
    exact ⟨rfl, rfl⟩
  obtain ⟨b, o, rfl, lb, m1⟩ := u_at hv (ptrN_at (s := s) (j := i) (by omega))
  have c1 := m1 w (Below.refl _ _)
  by_cases hp : ptrN s i = 0
  · rw [over_eq (s := s) (m := i) (by omega) hs (.inr hp)]
    refine CC.seq ?_
    refine CC.seq ?_
    refine CC.region ?_
    refine LL.val (R.move rfl rfl) rfl rfl rfl ?_
    refine LL.val (R.move rfl rfl) rfl rfl rfl ?_
    refine LL.val (R.len rfl rfl rfl rfl) rfl rfl rfl ?_
    refine LL.val (R.quoNc rfl rfl rfl rfl (by omega) (by omega)) rfl rfl rfl ?_
    refine LL.val (R.ltT rfl rfl rfl (by omega)) rfl rfl rfl ?_
    refine LL.val (R.move rfl rfl) rfl rfl rfl ?_
    refine LL.val (R.move rfl rfl) rfl rfl rfl ?_
    refine LL.val (R.move rfl rfl) rfl rfl rfl ?_
    refine LL.val (R.mulcN rfl rfl rfl rfl (by omega)) rfl rfl rfl ?_
    refine LL.val (R.addNc rfl rfl rfl rfl (by omega)) rfl rfl rfl ?_
    refine LL.val (R.index rfl rfl rfl (I.ixS1 rfl (by omega))) rfl rfl rfl ?_
    refine LL.val (R.load rfl rfl (I.ld1 rfl (by assumption))) rfl rfl rfl ?_
    refine LL.val (R.neF rfl rfl rfl (by omega)) rfl rfl rfl ?_
    refine LL.val (R.pick rfl rfl rfl) rfl rfl rfl ?_
    refine LL.nilS ?_
    refine CC.no rfl ?_
    refine CC.exit ?_
    refine EE.thenX ?_
    refine EE.thenX ?_
    refine EE.inX ?_
    refine EE.thenN ?_
    refine CC.seq ?_
    refine CC.region ?_
    refine LL.val (R.move rfl rfl) rfl rfl rfl ?_
    refine LL.val (R.assign rfl rfl) rfl rfl rfl ?_
    refine LL.nilS ?_
    refine CC.ret ?_
    refine EE.ret _ rfl rfl ?_
    exact ⟨rfl, rfl⟩
  · have hs' : ∀ j, j < i + 1 → ptrN s j ≠ 0 := fun j hj => by
      by_cases e : j = i
      · subst e; exact hp
      · exact hs j (by omega)
    clear hs
    refine CC.seq ?_
    refine CC.seq ?_
    refine CC.region ?_
    refine LL.val (R.move rfl rfl) rfl rfl rfl ?_
    refine LL.val (R.move rfl rfl) rfl rfl rfl ?_
    refine LL.val (R.len rfl rfl rfl rfl) rfl rfl rfl ?_
    refine LL.val (R.quoNc rfl rfl rfl rfl (by omega) (by omega)) rfl rfl rfl ?_
    refine LL.val (R.ltT rfl rfl rfl (by omega)) rfl rfl rfl ?_
    refine LL.val (R.move rfl rfl) rfl rfl rfl ?_
    refine LL.val (R.move rfl rfl) rfl rfl rfl ?_
    refine LL.val (R.move rfl rfl) rfl rfl rfl ?_
    refine LL.val (R.mulcN rfl rfl rfl rfl (by omega)) rfl rfl rfl ?_
    refine LL.val (R.addNc rfl rfl rfl rfl (by omega)) rfl rfl rfl ?_
    refine LL.val (R.index rfl rfl rfl (I.ixS1 rfl (by omega))) rfl rfl rfl ?_
    refine LL.val (R.load rfl rfl (I.ld1 rfl (by assumption))) rfl rfl rfl ?_
    refine LL.val (R.neT rfl rfl rfl (by omega)) rfl rfl rfl ?_
    refine LL.val (R.pick rfl rfl rfl) rfl rfl rfl ?_
    refine LL.nilS ?_
    refine CC.yes rfl ?_
    refine CC.skip ?_
    refine EE.thenN ?_
    refine CC.block ?_
    refine CC.region ?_
    refine LL.val (R.move rfl rfl) rfl rfl rfl ?_
    refine LL.val (R.addNc rfl rfl rfl rfl (by omega)) rfl rfl rfl ?_
    refine LL.val (R.assign rfl rfl) rfl rfl rfl ?_
    refine LL.nil ?_
    refine EE.inN ?_
    exact EE.round (i + 1) ⟨rfl, rfl, trivial⟩ ⟨by show i + 1 ≤ n / 2; omega, rfl, hs'⟩ (by show n / 2 - (i + 1) < n / 2 - i; omega)
theorem own_disj {v1 v2 : Value} (hd : ∀ g, v1.ownBlock = some g → v2.ownBlock ≠ some g) : v1.ownBlock = none ∨ v1.ownBlock ≠ v2.ownBlock := by
  cases h : v1.ownBlock with
  | none => exact .inl rfl
  | some g => exact .inr fun e => hd g h e.symm
theorem own_new2 {α : Type} {enc : α → List Value} {k base e : Nat} {ts : List α} {w : World} {v v' v2 : Value} (hva : v'.ownBlock = v.ownBlock ∨ ∃ b, v'.ownBlock = some b ∧ w.heap.size ≤ b) (hd : ∀ g, v.ownBlock = some g → v2.ownBlock ≠ some g) (o2 : OwnsT enc k w base e v2 ts) : ∀ g, v'.ownBlock = some g → v2.ownBlock ≠ some g := fun g hg h2 => by
  rcases hva with e1 | ⟨b, e1, hb⟩
  · exact hd g (by rw [← e1]; exact hg) h2
  · rw [e1] at hg; cases hg
    rcases own_lt o2 with e2 | ⟨b', e2, hb'⟩
    · rw [e2] at h2; cases h2
    · rw [e2] at h2; cases h2; omega
theorem dread_any (left : Nat) (a : Option Addr) (n c : Nat) (s : List Nat) (w : World) (hv : ReadsT uE 1 w (.slice a n c) s) (hn : s.length = n) (h : n ≤ 1048576) : Calls Try.prog 27 #[.int .u64 (left : Int), .slice a n c] w fun e w' => ∃ v1 v2, e = .returned (.tuple #[v1, v2]) ∧ OwnsT prE 2 w' w.heap.size 70 v1 (pairP left s) ∧ OwnsT iE 1 w' w.heap.size 3 v2 ((pairS left s).map (·.1)) ∧ (∀ g, v1.ownBlock = some g → v2.ownBlock ≠ some g) ∧ Below w.heap.size w w' := by
  have q := Below.refl w.heap.size w
  have hvF : ∀ X, Below w.heap.size w X → ReadsT uE 1 X (.slice a n c) s := fun X b => hv.up b
  clear hv
  have hov := over_le s
  refine X.fn Try.func27 rfl (n := 47) rfl rfl ?_
  refine CC.seq ?_
  refine CC.region ?_
  refine LL.val (R.assign rfl rfl) rfl rfl rfl ?_
  refine LL.val (R.assign rfl rfl) rfl rfl rfl ?_
  refine LL.nilS ?_
  refine CC.seq ?_
  refine CC.region ?_
  refine LL.val (R.assign rfl rfl) rfl rfl rfl ?_
  refine LL.nilS ?_
  refine CC.seq ?_
  refine CC.region ?_
  refine LL.val (R.assign rfl rfl) rfl rfl rfl ?_
  refine LL.nilS ?_
  refine CC.seq ?_
  refine CC.seq ?_
  refine CC.region ?_
  refine LL.val (R.assign rfl rfl) rfl rfl rfl ?_
  refine LL.nilS ?_
  refine CC.block ?_
  refine CC.loop (α := Nat × Value × Value) (fun p => [(0, .int .u64 (left : Int)), (1, .slice a n c), (6, p.2.1), (7, p.2.2), (8, .int .i64 (p.1 : Int))])
    (fun p W => p.1 ≤ overN s ∧ Below w.heap.size w W ∧ OwnsT prE 2 W w.heap.size 70 p.2.1 ((pairF left s p.1).map (·.2)) ∧ OwnsT iE 1 W w.heap.size 3 p.2.2 ((pairF left s p.1).map (·.1)) ∧ ∀ g, p.2.1.ownBlock = some g → p.2.2.ownBlock ≠ some g) (fun p => overN s - p.1)
    (0, .slice none 0 0, .slice none 0 0) ⟨rfl, rfl, rfl, rfl, rfl, trivial⟩ ⟨Nat.zero_le _, q, OwnsT.none _ _ _, OwnsT.none _ _ _, fun g h => (by cases h)⟩ ?_
  clear q
  rintro ⟨i, v1, v2⟩ W ⟨hi, q, o1, o2, hd⟩
  simp only at hi o1 o2 hd
  have yq := q.size
  show CC none Try.prog _ 47 [] (sl [(0, .int .u64 (left : Int)), (1, .slice a n c), (6, v1), (7, v2), (8, .int .i64 (i : Int))]) _ W
  by_cases hlt : i < overN s
  case neg =>
    obtain rfl : i = overN s := by omega
    refine CC.seq ?_
    refine CC.seq ?_
    refine CC.region ?_
    refine LL.val (R.move rfl rfl) rfl rfl rfl ?_
    refine LL.val (R.move rfl rfl) rfl rfl rfl ?_
    refine LL.call (R.call rfl rfl rfl) rfl rfl rfl (draw_any _ _ _ s _ (hvF _ q) hn h) ?_
    rintro e W' ⟨rfl, rfl⟩
    refine ⟨_, rfl, ?_⟩
    refine LL.val (R.ltF rfl rfl rfl (by omega)) rfl rfl rfl ?_
    refine LL.nilS ?_
    refine CC.no rfl ?_
    refine CC.exit ?_
    refine EE.thenX ?_
    refine EE.thenX ?_
    refine EE.inX ?_
    refine EE.thenN ?_
    refine CC.seq ?_
    refine CC.region ?_
    refine LL.val (R.move rfl rfl) rfl rfl rfl ?_
    refine LL.val (R.move rfl rfl) rfl rfl rfl ?_
    refine LL.val (R.assign rfl rfl) rfl rfl rfl ?_
    refine LL.val (R.assign rfl rfl) rfl rfl rfl ?_
    refine LL.nilS ?_
    refine CC.ret ?_
    refine EE.ret _ rfl rfl ?_
    exact ⟨_, _, rfl, o1, o2, hd, q⟩
  obtain ⟨b, o, ea, lb, m1⟩ := u_at (hvF _ (Below.refl _ _)) (ptrN_at (s := s) (j := i) (by omega))
  obtain ⟨b', o', ea', lb', m2⟩ := u_at (hvF _ (Below.refl _ _)) (keyN_at (s := s) (j := i) (by omega))
  rw [ea] at ea'
  cases ea'
  subst ea
  have c1 := m1 W q
  have c2 := m2 W q
  have hAh : ∀ X, Below w.heap.size w X → Calls Try.prog 50 #[.int .u64 (left : Int), .slice (some ⟨b, o, none⟩) n c, .int .i64 (i : Int)] X fun e w' => e = .returned (.int .u64 (aheadN left s i : Int)) ∧ X = w' := fun X hb => dahead_any left _ n c i s X (hvF X hb) hn h (by omega)
  by_cases hne : ptrN s i = aheadN left s i
  · have hst : pairF left s (i + 1) = pairF left s i := by show (if _ then _ else _) = _; rw [if_pos hne]
    rw [← hst] at o1 o2
    refine CC.seq ?_
    refine CC.seq ?_
    refine CC.region ?_
    refine LL.val (R.move rfl rfl) rfl rfl rfl ?_
    refine LL.val (R.move rfl rfl) rfl rfl rfl ?_
    refine LL.call (R.call rfl rfl rfl) rfl rfl rfl (draw_any _ _ _ s _ (hvF _ q) hn h) ?_
    rintro e W' ⟨rfl, rfl⟩
    refine ⟨_, rfl, ?_⟩
    refine LL.val (R.ltT rfl rfl rfl (by omega)) rfl rfl rfl ?_
    refine LL.nilS ?_
    refine CC.yes rfl ?_
    refine CC.skip ?_
    refine EE.thenN ?_
    refine CC.seq ?_
    refine CC.block ?_
    refine CC.seq ?_
    refine CC.grow (by kernel_rfl) (by kernel_rfl) ?_
    refine GG.val (fun w' b' => R.move rfl rfl) rfl rfl ?_
    refine GG.val (fun w' b' => R.move rfl rfl) rfl rfl ?_
    refine GG.val (fun w' b' => R.mulcN rfl rfl rfl rfl (by omega)) rfl rfl ?_
    refine GG.val (fun w' b' => R.addNc rfl rfl rfl rfl (by omega)) rfl rfl ?_
    refine GG.val (fun w' b' => R.index rfl rfl rfl (I.ixS1 rfl (by omega))) rfl rfl ?_
    refine GG.val (fun w' b' => R.load rfl rfl (I.ld1 rfl (cell_up c1 b'))) rfl rfl ?_
    refine GG.val (fun w' b' => R.move rfl rfl) rfl rfl ?_
    refine GG.val (fun w' b' => R.move rfl rfl) rfl rfl ?_
    refine GG.val (fun w' b' => R.move rfl rfl) rfl rfl ?_
    refine GG.call (fun w' => (R.call rfl rfl rfl)) rfl rfl (fun w' b' => (hAh w' (q.trans (b'.mono q.size))).mono fun e W' h => ⟨h.1, h.2 ▸ b'⟩) ?_
    refine GG.val (fun w' b' => R.neF rfl rfl rfl (by omega)) rfl rfl ?_
    refine GG.nilQ (fun Wb5 bb4 => ?_)
    have zbb4 := bb4.size
    replace q := q.trans (bb4.mono q.size)
    replace o1 := o1.up bb4
    replace o2 := o2.up bb4
    replace c1 := cell_up c1 bb4
    replace c2 := cell_up c2 bb4
    refine EE.thenN ?_
    refine CC.no rfl ?_
    refine CC.skip ?_
    refine EE.inN ?_
    refine EE.thenN ?_
    refine CC.region ?_
    refine LL.val (R.move rfl rfl) rfl rfl rfl ?_
    refine LL.val (R.addNc rfl rfl rfl rfl (by omega)) rfl rfl rfl ?_
    refine LL.val (R.assign rfl rfl) rfl rfl rfl ?_
    refine LL.nil ?_
    exact EE.round (i + 1, v1, v2) ⟨rfl, rfl, rfl, rfl, rfl, trivial⟩ ⟨by show i + 1 ≤ overN s; omega, q, o1, o2, hd⟩ (by show overN s - (i + 1) < overN s - i; omega)
  have hst : pairF left s (i + 1) = pairF left s i ++ [(i, prA s i)] := by show (if _ then _ else _) = _; rw [if_neg hne]
  have hs1 : (pairF left s (i + 1)).map (·.2) = (pairF left s i).map (·.2) ++ [prA s i] := by rw [hst, List.map_append]; rfl
  have hs2 : (pairF left s (i + 1)).map (·.1) = (pairF left s i).map (·.1) ++ [i] := by rw [hst, List.map_append]; rfl
  have hl1 : ((pairF left s i).map (·.2)).length ≤ 1048576 := by rw [List.length_map]; have := pairF_len left s i; omega
  have hl2 : ((pairF left s i).map (·.1)).length ≤ 1048576 := by rw [List.length_map]; have := pairF_len left s i; omega
  obtain ⟨ps, eps⟩ : ∃ ps, (pairF left s i).map (·.2) = ps := ⟨_, rfl⟩
  obtain ⟨is, eis⟩ : ∃ is, (pairF left s i).map (·.1) = is := ⟨_, rfl⟩
  rw [eps] at o1 hs1 hl1
  rw [eis] at o2 hs2 hl2
  have og1 := own_ge o1
  obtain ⟨av1, cv1, rfl, hcv1⟩ := (o1.reads prEnc).form rfl
  obtain ⟨av2, cv2, rfl, hcv2⟩ := (o2.reads iEnc).form rfl
  refine CC.seq ?_
  refine CC.seq ?_
  refine CC.region ?_
  refine LL.val (R.move rfl rfl) rfl rfl rfl ?_
  refine LL.val (R.move rfl rfl) rfl rfl rfl ?_
  refine LL.call (R.call rfl rfl rfl) rfl rfl rfl (draw_any _ _ _ s _ (hvF _ q) hn h) ?_
  rintro e W' ⟨rfl, rfl⟩
  refine ⟨_, rfl, ?_⟩
  refine LL.val (R.ltT rfl rfl rfl (by omega)) rfl rfl rfl ?_
  refine LL.nilS ?_
  refine CC.yes rfl ?_
  refine CC.skip ?_
  refine EE.thenN ?_
  refine CC.seq ?_
  refine CC.block ?_
  refine CC.seq ?_
  refine CC.grow (by kernel_rfl) (by kernel_rfl) ?_
  refine GG.val (fun w' b' => R.move rfl rfl) rfl rfl ?_
  refine GG.val (fun w' b' => R.move rfl rfl) rfl rfl ?_
  refine GG.val (fun w' b' => R.mulcN rfl rfl rfl rfl (by omega)) rfl rfl ?_
  refine GG.val (fun w' b' => R.addNc rfl rfl rfl rfl (by omega)) rfl rfl ?_
  refine GG.val (fun w' b' => R.index rfl rfl rfl (I.ixS1 rfl (by omega))) rfl rfl ?_
  refine GG.val (fun w' b' => R.load rfl rfl (I.ld1 rfl (cell_up c1 b'))) rfl rfl ?_
  refine GG.val (fun w' b' => R.move rfl rfl) rfl rfl ?_
  refine GG.val (fun w' b' => R.move rfl rfl) rfl rfl ?_
  refine GG.val (fun w' b' => R.move rfl rfl) rfl rfl ?_
  refine GG.call (fun w' => (R.call rfl rfl rfl)) rfl rfl (fun w' b' => (hAh w' (q.trans (b'.mono q.size))).mono fun e W' h => ⟨h.1, h.2 ▸ b'⟩) ?_
  refine GG.val (fun w' b' => R.neT rfl rfl rfl (by omega)) rfl rfl ?_
  refine GG.nilQ (fun Wc5 bc4 => ?_)
  have zbc4 := bc4.size
  replace q := q.trans (bc4.mono q.size)
  replace c1 := cell_up c1 bc4
  replace c2 := cell_up c2 bc4
  replace o1 := o1.up bc4
  replace o2 := o2.up bc4
  refine EE.thenN ?_
  refine CC.yes rfl ?_
  refine CC.seq ?_
  refine CC.freeZ (fun W_ j => j < W_.heap.size ∧ (j < w.heap.size)) (by kernel_rfl) (by kernel_rfl) (fun Wc7 bc6 zc8 => ?_)
  replace bc4 := bc4.trans (bc6.mono bc4.size)
  replace q := q.trans (bc6.mono q.size)
  replace c1 := cell_up c1 bc6
  replace c2 := cell_up c2 bc6
  replace o1 := o1.up bc6
  replace o2 := o2.up bc6
  have hok : Kept (fun j => j < Wc7.heap.size ∧ (j < w.heap.size)) Wc7 Wc7 := Kept.refl _ _
  have fzc1 := fzCell (K := fun j => j < Wc7.heap.size ∧ (j < w.heap.size)) c1 ⟨World.block_lt_of_cell? _ _ c1, (by first | trivial | omega)⟩
  have fzc2 := fzCell (K := fun j => j < Wc7.heap.size ∧ (j < w.heap.size)) c2 ⟨World.block_lt_of_cell? _ _ c2, (by first | trivial | omega)⟩
  refine AA.pure 0 rfl hok (by kernel_rfl) (fun w' b' => R.move rfl rfl) rfl rfl ?_
  refine AA.pure 1 rfl hok (by kernel_rfl) (fun w' b' => R.move rfl rfl) rfl rfl ?_
  refine AA.pure 2 rfl hok (by kernel_rfl) (fun w' b' => R.move rfl rfl) rfl rfl ?_
  refine AA.pure 3 rfl hok (by kernel_rfl) (fun w' b' => R.mulcN rfl rfl rfl rfl (by omega)) rfl rfl ?_
  refine AA.pure 4 rfl hok (by kernel_rfl) (fun w' b' => R.index rfl rfl rfl (I.ixS1 rfl (by omega))) rfl rfl ?_
  refine AA.pure 5 rfl hok (by kernel_rfl) (fun w' b' => R.load rfl rfl (I.ld1 rfl (cell_kept c2 b' (by refine ⟨?_, ?_⟩ <;> omega)))) rfl rfl ?_
  refine AA.pure 6 rfl hok (by kernel_rfl) (fun w' b' => R.move rfl rfl) rfl rfl ?_
  refine AA.pure 7 rfl hok (by kernel_rfl) (fun w' b' => R.move rfl rfl) rfl rfl ?_
  refine AA.pure 8 rfl hok (by kernel_rfl) (fun w' b' => R.mulcN rfl rfl rfl rfl (by omega)) rfl rfl ?_
  refine AA.pure 9 rfl hok (by kernel_rfl) (fun w' b' => R.addNc rfl rfl rfl rfl (by omega)) rfl rfl ?_
  refine AA.pure 10 rfl hok (by kernel_rfl) (fun w' b' => R.index rfl rfl rfl (I.ixS1 rfl (by omega))) rfl rfl ?_
  refine AA.pure 11 rfl hok (by kernel_rfl) (fun w' b' => R.load rfl rfl (I.ld1 rfl (cell_kept c1 b' (by refine ⟨?_, ?_⟩ <;> omega)))) rfl rfl ?_
  refine AA.pure 12 rfl hok (by kernel_rfl) (fun w' b' => R.buildV rfl rfl (v := .agg #[Value.int IntKind.u64 ↑(keyN s i), Value.int IntKind.u64 ↑(ptrN s i)]) (fun _ => by kernel_rfl)) rfl rfl ?_
  refine AA.one 13 (by kernel_rfl) ?_
  refine ZR.lit (e := 70) [Value.int IntKind.u64 ↑(keyN s i), Value.int IntKind.u64 ↑(ptrN s i)] 1 rfl rfl rfl (fun _ => by kernel_rfl) rfl rfl ?_
  intro Wc10 gc11 egc11 rc12 zc13 bc9
  replace bc6 := bc6.trans (bc9.mono bc6.size)
  replace bc4 := bc4.trans (bc9.mono bc4.size)
  replace q := q.trans (bc9.mono q.size)
  replace c1 := cell_up c1 bc9
  replace c2 := cell_up c2 bc9
  replace o1 := o1.up bc9
  replace o2 := o2.up bc9
  replace hok := hok.trans (bkept bc9 (fun j h => by have := h.1; have := hok.size; omega))
  have yc14 := hok.size
  refine ⟨hok, ?_⟩
  refine AA.one 14 (by kernel_rfl) ?_
  (refine SR.appendT2 rfl rfl rfl prEnc ElPr o1 (RowL.readsT (ts := [prA s i]) prEnc (by assumption) 1 (by simp)) (by simp [maxLen]; omega) (by simp; omega) (by omega) rfl rfl ?_; intro v' Wa oa gra hva; obtain ⟨a', cp, rfl, hcp⟩ := (oa.reads prEnc).form rfl; have hd2 := own_new2 hva hd o2; replace o2 := o2.apart2 gra (own_disj hd); replace q := q.grown gra q.size (fun g hg => by have := own_ge o1 g hg; omega); replace hok := hok.trans (grown_kept gra (fun j h => by have := h.1; have := hok.size; omega) (fun j h e => by have := own_ge o1 j e; omega)); have hsz := gra.size; clear o1 hva hd gra; have o1 := oa; clear oa; refine ⟨hok, ?_⟩)
  refine AA.pure 15 rfl hok (by kernel_rfl) (fun w' b' => R.assign rfl rfl) rfl rfl ?_
  refine AA.done rfl ?_
  clear fzc1 fzc2 hok
  refine EE.thenN ?_
  refine CC.region ?_
  refine LL.val (R.move rfl rfl) rfl rfl rfl ?_
  refine LL.val (R.move rfl rfl) rfl rfl rfl ?_
  refine LL.lit (e := 3) [Value.int IntKind.i64 ↑i] 1 rfl rfl (fun _ => by kernel_rfl) rfl rfl ?_
  intro Wc16 gc17 egc17 rc18 zc19 bc15
  replace o2 := o2.up bc15
  replace q := q.trans (bc15.mono q.size)
  replace o1 := o1.up bc15
  (refine LL.appendT2 rfl rfl iEnc ElIn o2 (us := [i]) (RowL.readsT iEnc (ts := [i]) (by assumption) 1 (Nat.le_refl _)) (by simp [maxLen]; omega) (by simp; omega) (by have := q.size; omega) rfl rfl ?_; intro v' Wa oa gra hva; have hd3 := own_new2 hva (fun g h1 h2 => hd2 g h2 h1) o1; replace o1 := o1.apart2 gra (own_disj fun g h1 h2 => hd2 g h2 h1); replace q := q.grown gra q.size (fun g hg => by have := own_ge o2 g hg; omega); clear o2 hva hd2 gra; have o2 := oa; clear oa)
  refine LL.val (R.assign rfl rfl) rfl rfl rfl ?_
  refine LL.nil ?_
  refine EE.inN ?_
  refine EE.thenN ?_
  refine CC.region ?_
  refine LL.val (R.move rfl rfl) rfl rfl rfl ?_
  refine LL.val (R.addNc rfl rfl rfl rfl (by omega)) rfl rfl rfl ?_
  refine LL.val (R.assign rfl rfl) rfl rfl rfl ?_
  refine LL.nil ?_
  exact EE.round (i + 1, _, _) ⟨rfl, rfl, rfl, rfl, rfl, trivial⟩ ⟨by show i + 1 ≤ overN s; omega, q, by rw [hs1]; exact o1, by rw [hs2]; exact o2, fun g h1 h2 => hd3 g h2 h1⟩ (by show overN s - (i + 1) < overN s - i; omega)
end Go.Proofs.Ytloflmkolnediaa

/- slots: the document's Same, has, fine, Check. -/
namespace Go.Proofs.Ytloflmkolnediaa
set_option linter.unusedVariables false
set_option linter.unusedSimpArgs false
open Go.RowKit Go.Shelf
set_option maxRecDepth 100000
set_option maxHeartbeats 4000000
theorem dhas_any (v : Value) (l : List Pr) (p : Nat) (w : World) (hv : ReadsT prE 2 w v l) (hl : l.length ≤ 1048576) : Calls Try.prog 66 #[v, .int .u64 (p : Int)] w fun e w' => e = .returned (.bool (decide (p ∈ l.map (·.2)))) ∧ w = w' := by
  obtain ⟨N, hN⟩ : ∃ N, l.length = N := ⟨_, rfl⟩
  obtain ⟨a, cap, rfl, hc⟩ := hv.form hN
  rw [hN] at hl
  refine X.fn Try.func66 rfl (n := 19) rfl rfl ?_
  refine CC.seq ?_
  refine CC.region ?_
  refine LL.val (R.assign rfl rfl) rfl rfl rfl ?_
  refine LL.nilS ?_
  refine CC.seq ?_
  refine CC.seq ?_
  refine CC.region ?_
  refine LL.val (R.assign rfl rfl) rfl rfl rfl ?_
  refine LL.nilS ?_
  refine CC.block ?_
  refine CC.loop (α := Nat) (fun i => [(0, .slice a N cap), (1, .int .u64 (p : Int)), (5, .int .i64 (i : Int))]) (fun i W => i ≤ N ∧ w = W ∧ p ∉ (l.take i).map (·.2)) (fun i => N - i) 0 ⟨rfl, rfl, rfl, trivial⟩ ⟨Nat.zero_le _, rfl, by simp⟩ ?_
  rintro i W ⟨hi, rfl, ht⟩
  show CC none Try.prog _ 19 [] (sl [(0, .slice a N cap), (1, .int .u64 (p : Int)), (5, .int .i64 (i : Int))]) _ w
  by_cases hlt : i < N
  case neg =>
    obtain rfl : i = N := by omega
    rw [List.take_of_length_le (by omega)] at ht
    rw [decide_eq_false ht]
    refine CC.seq ?_
    refine CC.seq ?_
    refine CC.region ?_
    refine LL.val (R.move rfl rfl) rfl rfl rfl ?_
    refine LL.val (R.move rfl rfl) rfl rfl rfl ?_
    refine LL.val (R.len rfl rfl rfl rfl) rfl rfl rfl ?_
    refine LL.val (R.ltF rfl rfl rfl (by omega)) rfl rfl rfl ?_
    refine LL.nilS ?_
    refine CC.no rfl ?_
    refine CC.exit ?_
    refine EE.thenX ?_
    refine EE.thenX ?_
    refine EE.inX ?_
    refine EE.thenN ?_
    refine CC.seq ?_
    refine CC.region ?_
    refine LL.val (R.assign rfl rfl) rfl rfl rfl ?_
    refine LL.nilS ?_
    refine CC.ret ?_
    refine EE.ret _ rfl rfl ?_
    exact ⟨rfl, rfl⟩
  obtain ⟨⟨k1, p1⟩, hx⟩ : ∃ x, l[i]? = some x := ⟨_, List.getElem?_eq_getElem (by omega)⟩
  obtain ⟨b1, o1, rfl, _, _⟩ := hv.get prEnc hx
  have c1 : w.cell? ⟨b1, o1 + i * 2 + 1, none⟩ = some (.int .u64 (p1 : Int)) := (hv.elemN prEnc hx).cell (j := 1) rfl
  by_cases h1 : p1 = p
  · subst h1
    rw [decide_eq_true (List.mem_map.2 ⟨_, List.mem_of_getElem? hx, rfl⟩)]
    refine CC.seq ?_
    refine CC.seq ?_
    refine CC.region ?_
    refine LL.val (R.move rfl rfl) rfl rfl rfl ?_
    refine LL.val (R.move rfl rfl) rfl rfl rfl ?_
    refine LL.val (R.len rfl rfl rfl rfl) rfl rfl rfl ?_
    refine LL.val (R.ltT rfl rfl rfl (by omega)) rfl rfl rfl ?_
    refine LL.nilS ?_
    refine CC.yes rfl ?_
    refine CC.skip ?_
    refine EE.thenN ?_
    refine CC.seq ?_
    refine CC.block ?_
    refine CC.seq ?_
    refine CC.region ?_
    refine LL.val (R.move rfl rfl) rfl rfl rfl ?_
    refine LL.val (R.move rfl rfl) rfl rfl rfl ?_
    refine LL.val (R.index rfl rfl rfl (I.ixS rfl (by omega))) rfl rfl rfl ?_
    refine LL.val (R.field rfl rfl (I.fld rfl)) rfl rfl rfl ?_
    refine LL.val (R.load rfl rfl (I.ld1 rfl (by assumption))) rfl rfl rfl ?_
    refine LL.val (R.move rfl rfl) rfl rfl rfl ?_
    refine LL.val (R.eqT rfl rfl rfl (by omega)) rfl rfl rfl ?_
    refine LL.nilS ?_
    refine CC.yes rfl ?_
    refine CC.seq ?_
    refine CC.region ?_
    refine LL.val (R.assign rfl rfl) rfl rfl rfl ?_
    refine LL.nilS ?_
    refine CC.ret ?_
    refine EE.inR ?_
    refine EE.thenR ?_
    refine EE.thenR ?_
    refine EE.inR ?_
    refine EE.thenR ?_
    refine EE.ret _ rfl rfl ?_
    exact ⟨rfl, rfl⟩
  · refine CC.seq ?_
    refine CC.seq ?_
    refine CC.region ?_
    refine LL.val (R.move rfl rfl) rfl rfl rfl ?_
    refine LL.val (R.move rfl rfl) rfl rfl rfl ?_
    refine LL.val (R.len rfl rfl rfl rfl) rfl rfl rfl ?_
    refine LL.val (R.ltT rfl rfl rfl (by omega)) rfl rfl rfl ?_
    refine LL.nilS ?_
    refine CC.yes rfl ?_
    refine CC.skip ?_
    refine EE.thenN ?_
    refine CC.seq ?_
    refine CC.block ?_
    refine CC.seq ?_
    refine CC.region ?_
    refine LL.val (R.move rfl rfl) rfl rfl rfl ?_
    refine LL.val (R.move rfl rfl) rfl rfl rfl ?_
    refine LL.val (R.index rfl rfl rfl (I.ixS rfl (by omega))) rfl rfl rfl ?_
    refine LL.val (R.field rfl rfl (I.fld rfl)) rfl rfl rfl ?_
    refine LL.val (R.load rfl rfl (I.ld1 rfl (by assumption))) rfl rfl rfl ?_
    refine LL.val (R.move rfl rfl) rfl rfl rfl ?_
    refine LL.val (R.eqF rfl rfl rfl (by omega)) rfl rfl rfl ?_
    refine LL.nilS ?_
    refine CC.no rfl ?_
    refine CC.skip ?_
    refine EE.inN ?_
    refine EE.thenN ?_
    refine CC.region ?_
    refine LL.val (R.move rfl rfl) rfl rfl rfl ?_
    refine LL.val (R.addNc rfl rfl rfl rfl (by omega)) rfl rfl rfl ?_
    refine LL.val (R.assign rfl rfl) rfl rfl rfl ?_
    refine LL.nil ?_
    exact EE.round (i + 1) ⟨rfl, rfl, rfl, trivial⟩ ⟨by show i + 1 ≤ N; omega, rfl, by rw [List.take_add_one, hx, List.map_append]; simp only [Option.toList_some, List.map_cons, List.map_nil, List.mem_append, List.mem_singleton, not_or]; exact ⟨ht, fun e => h1 e.symm⟩⟩ (by show N - (i + 1) < N - i; omega)
/-- What 'fine' asks of a pair. -/
def fineAt (left : Nat) (l : List Pr) (i : Nat) (x : Pr) : Prop := (0 < i → ∀ y, l[i - 1]? = some y → y.1 < x.1) ∧ x.2 ∉ (l.take i).map (·.2) ∧ x.2 ≠ left
def fineP (left : Nat) (l : List Pr) : Prop := ∀ i x, l[i]? = some x → fineAt left l i x
theorem dfine_any (left : Nat) (v : Value) (l : List Pr) (w : World) (hv : ReadsT prE 2 w v l) (hl : l.length ≤ 1048576) : Calls Try.prog 48 #[.int .u64 (left : Int), v] w fun e w' => ∃ b, e = .returned (.bool b) ∧ (b = true ↔ fineP left l) ∧ Below w.heap.size w w' := by
  have q := Below.refl w.heap.size w
  obtain ⟨N, hN⟩ : ∃ N, l.length = N := ⟨_, rfl⟩
  obtain ⟨a, cap, rfl, hc⟩ := hv.form hN
  rw [hN] at hl
  have hF : ∀ W, Below w.heap.size w W → ReadsT prE 2 W (.slice a N cap) l := fun W b => hv.up b
  clear hv
  refine X.fn Try.func48 rfl (n := 48) rfl rfl ?_
  refine CC.seq ?_
  refine CC.region ?_
  refine LL.val (R.assign rfl rfl) rfl rfl rfl ?_
  refine LL.nilS ?_
  refine CC.seq ?_
  refine CC.seq ?_
  refine CC.region ?_
  refine LL.val (R.assign rfl rfl) rfl rfl rfl ?_
  refine LL.nilS ?_
  refine CC.block ?_
  refine CC.loop (α := Nat) (fun i => [(0, .int .u64 (left : Int)), (1, .slice a N cap), (5, .int .i64 (i : Int))]) (fun i W => i ≤ N ∧ Below w.heap.size w W ∧ ∀ j x, j < i → l[j]? = some x → fineAt left l j x) (fun i => N - i) 0 ⟨rfl, rfl, rfl, trivial⟩ ⟨Nat.zero_le _, q, fun j x h _ => by omega⟩ ?_
  clear q
  rintro i W ⟨hi, q, ht⟩
  show CC none Try.prog _ 48 [] (sl [(0, .int .u64 (left : Int)), (1, .slice a N cap), (5, .int .i64 (i : Int))]) _ W
  by_cases hlt : i < N
  case neg =>
    obtain rfl : i = N := by omega
    have hyes : fineP left l := fun j x hj => ht j x (by have := (List.getElem?_eq_some_iff.1 hj).1; omega) hj
    refine CC.seq ?_
    refine CC.seq ?_
    refine CC.region ?_
    refine LL.val (R.move rfl rfl) rfl rfl rfl ?_
    refine LL.val (R.move rfl rfl) rfl rfl rfl ?_
    refine LL.val (R.len rfl rfl rfl rfl) rfl rfl rfl ?_
    refine LL.val (R.ltF rfl rfl rfl (by omega)) rfl rfl rfl ?_
    refine LL.nilS ?_
    refine CC.no rfl ?_
    refine CC.exit ?_
    refine EE.thenX ?_
    refine EE.thenX ?_
    refine EE.inX ?_
    refine EE.thenN ?_
    refine CC.seq ?_
    refine CC.region ?_
    refine LL.val (R.assign rfl rfl) rfl rfl rfl ?_
    refine LL.nilS ?_
    refine CC.ret ?_
    refine EE.ret _ rfl rfl ?_
    exact ⟨_, rfl, by simp [hyes], q⟩
  obtain ⟨⟨k1, p1⟩, hx⟩ : ∃ x, l[i]? = some x := ⟨_, List.getElem?_eq_getElem (by omega)⟩
  obtain ⟨b1, o1, rfl, _, _⟩ := (hF _ q).get prEnc hx
  have hcF : ∀ X, Below w.heap.size w X → X.cell? ⟨b1, o1 + i * 2, none⟩ = some (.int .u64 (k1 : Int)) ∧ X.cell? ⟨b1, o1 + i * 2 + 1, none⟩ = some (.int .u64 (p1 : Int)) := fun X hb => ⟨((hF X hb).elemN prEnc hx).cell (j := 0) rfl, ((hF X hb).elemN prEnc hx).cell (j := 1) rfl⟩
  have c1 := (hcF W q).1
  have c2 := (hcF W q).2
  have htl : (l.take i).length = i := by rw [List.length_take]; omega
  have hHa : ∀ X, Below w.heap.size w X → Calls Try.prog 66 #[.slice (some ⟨b1, o1, none⟩) i cap, .int .u64 (p1 : Int)] X fun e w' => e = .returned (.bool (decide (p1 ∈ (l.take i).map (·.2)))) ∧ X = w' := fun X hb => by
    have h1 := (hF X hb).take prEnc i hi cap (by omega)
    exact dhas_any _ (l.take i) p1 X h1 (by omega)
  have bad : ¬ fineAt left l i (k1, p1) → ¬ fineP left l := fun h1 h2 => h1 (h2 i _ hx)
  have good : fineAt left l i (k1, p1) → ∀ j x, j < i + 1 → l[j]? = some x → fineAt left l j x := fun hg j x hj hjx => by
    by_cases e : j = i
    · subst e; rw [hx] at hjx; cases hjx; exact hg
    · exact ht j x (by omega) hjx
  clear ht
  have hrest : ∀ (hpre : 0 < i → ∀ y, l[i - 1]? = some y → y.1 < k1), (p1 ∉ (l.take i).map (·.2) ∧ p1 ≠ left → fineAt left l i (k1, p1)) := fun hpre h => ⟨hpre, h.1, h.2⟩
  have fin : ∀ hg : fineAt left l i (k1, p1), True := fun _ => trivial
  clear fin
  by_cases hi0 : i = 0
  · subst hi0
    have hB : p1 ∉ (l.take 0).map (·.2) := by simp
    by_cases hC : p1 = left
    · have hno := bad fun hg => hg.2.2 hC
      refine CC.seq ?_
      refine CC.seq ?_
      refine CC.region ?_
      refine LL.val (R.move rfl rfl) rfl rfl rfl ?_
      refine LL.val (R.move rfl rfl) rfl rfl rfl ?_
      refine LL.val (R.len rfl rfl rfl rfl) rfl rfl rfl ?_
      refine LL.val (R.ltT rfl rfl rfl (by omega)) rfl rfl rfl ?_
      refine LL.nilS ?_
      refine CC.yes rfl ?_
      refine CC.skip ?_
      refine EE.thenN ?_
      refine CC.seq ?_
      refine CC.block ?_
      refine CC.seq ?_
      refine CC.grow (by kernel_rfl) (by kernel_rfl) ?_
      refine GG.val (fun w' b' => R.move rfl rfl) rfl rfl ?_
      refine GG.val (fun w' b' => R.gtF rfl rfl rfl (by omega)) rfl rfl ?_
      refine GG.val (fun w' b' => R.move rfl rfl) rfl rfl ?_
      refine GG.skip rfl rfl ?_
      refine GG.skip rfl rfl ?_
      refine GG.skip rfl rfl ?_
      refine GG.skip rfl rfl ?_
      refine GG.skip rfl rfl ?_
      refine GG.skip rfl rfl ?_
      refine GG.skip rfl rfl ?_
      refine GG.skip rfl rfl ?_
      refine GG.skip rfl rfl ?_
      refine GG.skip rfl rfl ?_
      refine GG.skip rfl rfl ?_
      refine GG.skip rfl rfl ?_
      refine GG.val (fun w' b' => R.pick rfl rfl rfl) rfl rfl ?_
      refine GG.val (fun w' b' => R.move rfl rfl) rfl rfl ?_
      refine GG.val (fun w' b' => R.move rfl rfl) rfl rfl ?_
      refine GG.val (fun w' b' => R.move rfl rfl) rfl rfl ?_
      refine GG.val (fun w' b' => R.slice rfl rfl rfl rfl rfl (I.slTo rfl (by omega))) rfl rfl ?_
      refine GG.val (fun w' b' => R.move rfl rfl) rfl rfl ?_
      refine GG.val (fun w' b' => R.move rfl rfl) rfl rfl ?_
      refine GG.val (fun w' b' => R.index rfl rfl rfl (I.ixSc rfl rfl (by omega))) rfl rfl ?_
      refine GG.val (fun w' b' => R.field rfl rfl (I.fld rfl)) rfl rfl ?_
      refine GG.val (fun w' b' => R.load rfl rfl (I.ld1 rfl (cell_up c2 b'))) rfl rfl ?_
      refine GG.callDF (fun w' => (R.call rfl rfl rfl)) rfl rfl (fun w' b' => (hHa w' (q.trans (b'.mono q.size))).mono fun e W' h => ⟨h.1, h.2 ▸ b'⟩) (by first | assumption | omega) ?_
      refine GG.val (fun w' b' => R.pick rfl rfl rfl) rfl rfl ?_
      refine GG.val (fun w' b' => R.move rfl rfl) rfl rfl ?_
      refine GG.val (fun w' b' => R.move rfl rfl) rfl rfl ?_
      refine GG.val (fun w' b' => R.move rfl rfl) rfl rfl ?_
      refine GG.val (fun w' b' => R.index rfl rfl rfl (I.ixSc rfl rfl (by omega))) rfl rfl ?_
      refine GG.val (fun w' b' => R.field rfl rfl (I.fld rfl)) rfl rfl ?_
      refine GG.val (fun w' b' => R.load rfl rfl (I.ld1 rfl (cell_up c2 b'))) rfl rfl ?_
      refine GG.val (fun w' b' => R.move rfl rfl) rfl rfl ?_
      refine GG.val (fun w' b' => R.eqT rfl rfl rfl (by omega)) rfl rfl ?_
      refine GG.val (fun w' b' => R.pick rfl rfl rfl) rfl rfl ?_
      refine GG.nilQ (fun Wb6 bb5 => ?_)
      have zbb5 := bb5.size
      replace q := q.trans (bb5.mono q.size)
      replace c1 := cell_up c1 bb5
      replace c2 := cell_up c2 bb5
      refine EE.thenN ?_
      refine CC.yes rfl ?_
      refine CC.seq ?_
      refine CC.region ?_
      refine LL.val (R.assign rfl rfl) rfl rfl rfl ?_
      refine LL.nilS ?_
      refine CC.ret ?_
      refine EE.inR ?_
      refine EE.thenR ?_
      refine EE.thenR ?_
      refine EE.inR ?_
      refine EE.thenR ?_
      refine EE.ret _ rfl rfl ?_
      exact ⟨_, rfl, by simp [hno], q⟩
    · have hg := good (hrest (fun h => absurd h (Nat.lt_irrefl 0)) ⟨hB, hC⟩)
      clear bad good hrest
      refine CC.seq ?_
      refine CC.seq ?_
      refine CC.region ?_
      refine LL.val (R.move rfl rfl) rfl rfl rfl ?_
      refine LL.val (R.move rfl rfl) rfl rfl rfl ?_
      refine LL.val (R.len rfl rfl rfl rfl) rfl rfl rfl ?_
      refine LL.val (R.ltT rfl rfl rfl (by omega)) rfl rfl rfl ?_
      refine LL.nilS ?_
      refine CC.yes rfl ?_
      refine CC.skip ?_
      refine EE.thenN ?_
      refine CC.seq ?_
      refine CC.block ?_
      refine CC.seq ?_
      refine CC.grow (by kernel_rfl) (by kernel_rfl) ?_
      refine GG.val (fun w' b' => R.move rfl rfl) rfl rfl ?_
      refine GG.val (fun w' b' => R.gtF rfl rfl rfl (by omega)) rfl rfl ?_
      refine GG.val (fun w' b' => R.move rfl rfl) rfl rfl ?_
      refine GG.skip rfl rfl ?_
      refine GG.skip rfl rfl ?_
      refine GG.skip rfl rfl ?_
      refine GG.skip rfl rfl ?_
      refine GG.skip rfl rfl ?_
      refine GG.skip rfl rfl ?_
      refine GG.skip rfl rfl ?_
      refine GG.skip rfl rfl ?_
      refine GG.skip rfl rfl ?_
      refine GG.skip rfl rfl ?_
      refine GG.skip rfl rfl ?_
      refine GG.skip rfl rfl ?_
      refine GG.val (fun w' b' => R.pick rfl rfl rfl) rfl rfl ?_
      refine GG.val (fun w' b' => R.move rfl rfl) rfl rfl ?_
      refine GG.val (fun w' b' => R.move rfl rfl) rfl rfl ?_
      refine GG.val (fun w' b' => R.move rfl rfl) rfl rfl ?_
      refine GG.val (fun w' b' => R.slice rfl rfl rfl rfl rfl (I.slTo rfl (by omega))) rfl rfl ?_
      refine GG.val (fun w' b' => R.move rfl rfl) rfl rfl ?_
      refine GG.val (fun w' b' => R.move rfl rfl) rfl rfl ?_
      refine GG.val (fun w' b' => R.index rfl rfl rfl (I.ixSc rfl rfl (by omega))) rfl rfl ?_
      refine GG.val (fun w' b' => R.field rfl rfl (I.fld rfl)) rfl rfl ?_
      refine GG.val (fun w' b' => R.load rfl rfl (I.ld1 rfl (cell_up c2 b'))) rfl rfl ?_
      refine GG.callDF (fun w' => (R.call rfl rfl rfl)) rfl rfl (fun w' b' => (hHa w' (q.trans (b'.mono q.size))).mono fun e W' h => ⟨h.1, h.2 ▸ b'⟩) (by first | assumption | omega) ?_
      refine GG.val (fun w' b' => R.pick rfl rfl rfl) rfl rfl ?_
      refine GG.val (fun w' b' => R.move rfl rfl) rfl rfl ?_
      refine GG.val (fun w' b' => R.move rfl rfl) rfl rfl ?_
      refine GG.val (fun w' b' => R.move rfl rfl) rfl rfl ?_
      refine GG.val (fun w' b' => R.index rfl rfl rfl (I.ixSc rfl rfl (by omega))) rfl rfl ?_
      refine GG.val (fun w' b' => R.field rfl rfl (I.fld rfl)) rfl rfl ?_
      refine GG.val (fun w' b' => R.load rfl rfl (I.ld1 rfl (cell_up c2 b'))) rfl rfl ?_
      refine GG.val (fun w' b' => R.move rfl rfl) rfl rfl ?_
      refine GG.val (fun w' b' => R.eqF rfl rfl rfl (by omega)) rfl rfl ?_
      refine GG.val (fun w' b' => R.pick rfl rfl rfl) rfl rfl ?_
      refine GG.nilQ (fun Wc6 bc5 => ?_)
      have zbc5 := bc5.size
      replace q := q.trans (bc5.mono q.size)
      replace c1 := cell_up c1 bc5
      replace c2 := cell_up c2 bc5
      refine EE.thenN ?_
      refine CC.no rfl ?_
      refine CC.skip ?_
      refine EE.inN ?_
      refine EE.thenN ?_
      refine CC.region ?_
      refine LL.val (R.move rfl rfl) rfl rfl rfl ?_
      refine LL.val (R.addIz (z := 1) rfl rfl rfl (by decide) (by decide)) rfl rfl rfl ?_
      refine LL.val (R.assign rfl rfl) rfl rfl rfl ?_
      refine LL.nil ?_
      exact EE.round (0 + 1) ⟨rfl, rfl, rfl, trivial⟩ ⟨by show 0 + 1 ≤ N; omega, q, hg⟩ (by show N - (0 + 1) < N - 0; omega)
  obtain ⟨⟨ky, py⟩, hy⟩ : ∃ y, l[i - 1]? = some y := ⟨_, List.getElem?_eq_getElem (by omega)⟩
  have c3 : W.cell? ⟨b1, o1 + (i - 1) * 2, none⟩ = some (.int .u64 (ky : Int)) := ((hF W q).elemN prEnc hy).cell (j := 0) rfl
  by_cases hA : ky < k1
  case neg =>
    have hno := bad fun hg => hA (hg.1 (by omega) _ hy)
    clear bad good hrest
    refine CC.seq ?_
    refine CC.seq ?_
    refine CC.region ?_
    refine LL.val (R.move rfl rfl) rfl rfl rfl ?_
    refine LL.val (R.move rfl rfl) rfl rfl rfl ?_
    refine LL.val (R.len rfl rfl rfl rfl) rfl rfl rfl ?_
    refine LL.val (R.ltT rfl rfl rfl (by omega)) rfl rfl rfl ?_
    refine LL.nilS ?_
    refine CC.yes rfl ?_
    refine CC.skip ?_
    refine EE.thenN ?_
    refine CC.seq ?_
    refine CC.block ?_
    refine CC.seq ?_
    refine CC.grow (by kernel_rfl) (by kernel_rfl) ?_
    refine GG.val (fun w' b' => R.move rfl rfl) rfl rfl ?_
    refine GG.val (fun w' b' => R.gtT rfl rfl rfl (by omega)) rfl rfl ?_
    refine GG.val (fun w' b' => R.move rfl rfl) rfl rfl ?_
    refine GG.val (fun w' b' => R.move rfl rfl) rfl rfl ?_
    refine GG.val (fun w' b' => R.move rfl rfl) rfl rfl ?_
    refine GG.val (fun w' b' => R.subNc rfl rfl rfl rfl (by omega) (by omega)) rfl rfl ?_
    refine GG.val (fun w' b' => R.index rfl rfl rfl (I.ixS rfl (by omega))) rfl rfl ?_
    refine GG.val (fun w' b' => R.field rfl rfl (I.fld rfl)) rfl rfl ?_
    refine GG.val (fun w' b' => R.load rfl rfl (I.ld1 rfl (cell_up c3 b'))) rfl rfl ?_
    refine GG.val (fun w' b' => R.move rfl rfl) rfl rfl ?_
    refine GG.val (fun w' b' => R.move rfl rfl) rfl rfl ?_
    refine GG.val (fun w' b' => R.index rfl rfl rfl (I.ixS rfl (by omega))) rfl rfl ?_
    refine GG.val (fun w' b' => R.field rfl rfl (I.fld rfl)) rfl rfl ?_
    refine GG.val (fun w' b' => R.load rfl rfl (I.ld1 rfl (cell_up c1 b'))) rfl rfl ?_
    refine GG.val (fun w' b' => R.geT rfl rfl rfl (by omega)) rfl rfl ?_
    refine GG.val (fun w' b' => R.pick rfl rfl rfl) rfl rfl ?_
    refine GG.val (fun w' b' => R.move rfl rfl) rfl rfl ?_
    refine GG.skip rfl rfl ?_
    refine GG.skip rfl rfl ?_
    refine GG.skip rfl rfl ?_
    refine GG.skip rfl rfl ?_
    refine GG.skip rfl rfl ?_
    refine GG.skip rfl rfl ?_
    refine GG.skip rfl rfl ?_
    refine GG.skip rfl rfl ?_
    refine GG.skip rfl rfl ?_
    refine GG.val (fun w' b' => R.pick rfl rfl rfl) rfl rfl ?_
    refine GG.val (fun w' b' => R.move rfl rfl) rfl rfl ?_
    refine GG.skip rfl rfl ?_
    refine GG.skip rfl rfl ?_
    refine GG.skip rfl rfl ?_
    refine GG.skip rfl rfl ?_
    refine GG.skip rfl rfl ?_
    refine GG.skip rfl rfl ?_
    refine GG.skip rfl rfl ?_
    refine GG.val (fun w' b' => R.pick rfl rfl rfl) rfl rfl ?_
    refine GG.nilQ (fun Wd5 bd4 => ?_)
    have zbd4 := bd4.size
    replace q := q.trans (bd4.mono q.size)
    replace c1 := cell_up c1 bd4
    replace c2 := cell_up c2 bd4
    replace c3 := cell_up c3 bd4
    refine EE.thenN ?_
    refine CC.yes rfl ?_
    refine CC.seq ?_
    refine CC.region ?_
    refine LL.val (R.assign rfl rfl) rfl rfl rfl ?_
    refine LL.nilS ?_
    refine CC.ret ?_
    refine EE.inR ?_
    refine EE.thenR ?_
    refine EE.thenR ?_
    refine EE.inR ?_
    refine EE.thenR ?_
    refine EE.ret _ rfl rfl ?_
    exact ⟨_, rfl, by simp [hno], q⟩
  by_cases hB : p1 ∈ (l.take i).map (·.2)
  · have hno := bad fun hg => hg.2.1 hB
    clear bad good hrest
    refine CC.seq ?_
    refine CC.seq ?_
    refine CC.region ?_
    refine LL.val (R.move rfl rfl) rfl rfl rfl ?_
    refine LL.val (R.move rfl rfl) rfl rfl rfl ?_
    refine LL.val (R.len rfl rfl rfl rfl) rfl rfl rfl ?_
    refine LL.val (R.ltT rfl rfl rfl (by omega)) rfl rfl rfl ?_
    refine LL.nilS ?_
    refine CC.yes rfl ?_
    refine CC.skip ?_
    refine EE.thenN ?_
    refine CC.seq ?_
    refine CC.block ?_
    refine CC.seq ?_
    refine CC.grow (by kernel_rfl) (by kernel_rfl) ?_
    refine GG.val (fun w' b' => R.move rfl rfl) rfl rfl ?_
    refine GG.val (fun w' b' => R.gtT rfl rfl rfl (by omega)) rfl rfl ?_
    refine GG.val (fun w' b' => R.move rfl rfl) rfl rfl ?_
    refine GG.val (fun w' b' => R.move rfl rfl) rfl rfl ?_
    refine GG.val (fun w' b' => R.move rfl rfl) rfl rfl ?_
    refine GG.val (fun w' b' => R.subNc rfl rfl rfl rfl (by omega) (by omega)) rfl rfl ?_
    refine GG.val (fun w' b' => R.index rfl rfl rfl (I.ixS rfl (by omega))) rfl rfl ?_
    refine GG.val (fun w' b' => R.field rfl rfl (I.fld rfl)) rfl rfl ?_
    refine GG.val (fun w' b' => R.load rfl rfl (I.ld1 rfl (cell_up c3 b'))) rfl rfl ?_
    refine GG.val (fun w' b' => R.move rfl rfl) rfl rfl ?_
    refine GG.val (fun w' b' => R.move rfl rfl) rfl rfl ?_
    refine GG.val (fun w' b' => R.index rfl rfl rfl (I.ixS rfl (by omega))) rfl rfl ?_
    refine GG.val (fun w' b' => R.field rfl rfl (I.fld rfl)) rfl rfl ?_
    refine GG.val (fun w' b' => R.load rfl rfl (I.ld1 rfl (cell_up c1 b'))) rfl rfl ?_
    refine GG.val (fun w' b' => R.geF rfl rfl rfl (by omega)) rfl rfl ?_
    refine GG.val (fun w' b' => R.pick rfl rfl rfl) rfl rfl ?_
    refine GG.val (fun w' b' => R.move rfl rfl) rfl rfl ?_
    refine GG.val (fun w' b' => R.move rfl rfl) rfl rfl ?_
    refine GG.val (fun w' b' => R.move rfl rfl) rfl rfl ?_
    refine GG.val (fun w' b' => R.slice rfl rfl rfl rfl rfl (I.slTo rfl (by omega))) rfl rfl ?_
    refine GG.val (fun w' b' => R.move rfl rfl) rfl rfl ?_
    refine GG.val (fun w' b' => R.move rfl rfl) rfl rfl ?_
    refine GG.val (fun w' b' => R.index rfl rfl rfl (I.ixS rfl (by omega))) rfl rfl ?_
    refine GG.val (fun w' b' => R.field rfl rfl (I.fld rfl)) rfl rfl ?_
    refine GG.val (fun w' b' => R.load rfl rfl (I.ld1 rfl (cell_up c2 b'))) rfl rfl ?_
    refine GG.callDT (fun w' => (R.call rfl rfl rfl)) rfl rfl (fun w' b' => (hHa w' (q.trans (b'.mono q.size))).mono fun e W' h => ⟨h.1, h.2 ▸ b'⟩) (by first | assumption | omega) ?_
    refine GG.val (fun w' b' => R.pick rfl rfl rfl) rfl rfl ?_
    refine GG.val (fun w' b' => R.move rfl rfl) rfl rfl ?_
    refine GG.skip rfl rfl ?_
    refine GG.skip rfl rfl ?_
    refine GG.skip rfl rfl ?_
    refine GG.skip rfl rfl ?_
    refine GG.skip rfl rfl ?_
    refine GG.skip rfl rfl ?_
    refine GG.skip rfl rfl ?_
    refine GG.val (fun w' b' => R.pick rfl rfl rfl) rfl rfl ?_
    refine GG.nilQ (fun We6 be5 => ?_)
    have zbe5 := be5.size
    replace q := q.trans (be5.mono q.size)
    replace c1 := cell_up c1 be5
    replace c2 := cell_up c2 be5
    replace c3 := cell_up c3 be5
    refine EE.thenN ?_
    refine CC.yes rfl ?_
    refine CC.seq ?_
    refine CC.region ?_
    refine LL.val (R.assign rfl rfl) rfl rfl rfl ?_
    refine LL.nilS ?_
    refine CC.ret ?_
    refine EE.inR ?_
    refine EE.thenR ?_
    refine EE.thenR ?_
    refine EE.inR ?_
    refine EE.thenR ?_
    refine EE.ret _ rfl rfl ?_
    exact ⟨_, rfl, by simp [hno], q⟩
  by_cases hC : p1 = left
  · have hno := bad fun hg => hg.2.2 hC
    clear bad good hrest
    refine CC.seq ?_
    refine CC.seq ?_
    refine CC.region ?_
    refine LL.val (R.move rfl rfl) rfl rfl rfl ?_
    refine LL.val (R.move rfl rfl) rfl rfl rfl ?_
    refine LL.val (R.len rfl rfl rfl rfl) rfl rfl rfl ?_
    refine LL.val (R.ltT rfl rfl rfl (by omega)) rfl rfl rfl ?_
    refine LL.nilS ?_
    refine CC.yes rfl ?_
    refine CC.skip ?_
    refine EE.thenN ?_
    refine CC.seq ?_
    refine CC.block ?_
    refine CC.seq ?_
    refine CC.grow (by kernel_rfl) (by kernel_rfl) ?_
    refine GG.val (fun w' b' => R.move rfl rfl) rfl rfl ?_
    refine GG.val (fun w' b' => R.gtT rfl rfl rfl (by omega)) rfl rfl ?_
    refine GG.val (fun w' b' => R.move rfl rfl) rfl rfl ?_
    refine GG.val (fun w' b' => R.move rfl rfl) rfl rfl ?_
    refine GG.val (fun w' b' => R.move rfl rfl) rfl rfl ?_
    refine GG.val (fun w' b' => R.subNc rfl rfl rfl rfl (by omega) (by omega)) rfl rfl ?_
    refine GG.val (fun w' b' => R.index rfl rfl rfl (I.ixS rfl (by omega))) rfl rfl ?_
    refine GG.val (fun w' b' => R.field rfl rfl (I.fld rfl)) rfl rfl ?_
    refine GG.val (fun w' b' => R.load rfl rfl (I.ld1 rfl (cell_up c3 b'))) rfl rfl ?_
    refine GG.val (fun w' b' => R.move rfl rfl) rfl rfl ?_
    refine GG.val (fun w' b' => R.move rfl rfl) rfl rfl ?_
    refine GG.val (fun w' b' => R.index rfl rfl rfl (I.ixS rfl (by omega))) rfl rfl ?_
    refine GG.val (fun w' b' => R.field rfl rfl (I.fld rfl)) rfl rfl ?_
    refine GG.val (fun w' b' => R.load rfl rfl (I.ld1 rfl (cell_up c1 b'))) rfl rfl ?_
    refine GG.val (fun w' b' => R.geF rfl rfl rfl (by omega)) rfl rfl ?_
    refine GG.val (fun w' b' => R.pick rfl rfl rfl) rfl rfl ?_
    refine GG.val (fun w' b' => R.move rfl rfl) rfl rfl ?_
    refine GG.val (fun w' b' => R.move rfl rfl) rfl rfl ?_
    refine GG.val (fun w' b' => R.move rfl rfl) rfl rfl ?_
    refine GG.val (fun w' b' => R.slice rfl rfl rfl rfl rfl (I.slTo rfl (by omega))) rfl rfl ?_
    refine GG.val (fun w' b' => R.move rfl rfl) rfl rfl ?_
    refine GG.val (fun w' b' => R.move rfl rfl) rfl rfl ?_
    refine GG.val (fun w' b' => R.index rfl rfl rfl (I.ixS rfl (by omega))) rfl rfl ?_
    refine GG.val (fun w' b' => R.field rfl rfl (I.fld rfl)) rfl rfl ?_
    refine GG.val (fun w' b' => R.load rfl rfl (I.ld1 rfl (cell_up c2 b'))) rfl rfl ?_
    refine GG.callDF (fun w' => (R.call rfl rfl rfl)) rfl rfl (fun w' b' => (hHa w' (q.trans (b'.mono q.size))).mono fun e W' h => ⟨h.1, h.2 ▸ b'⟩) (by first | assumption | omega) ?_
    refine GG.val (fun w' b' => R.pick rfl rfl rfl) rfl rfl ?_
    refine GG.val (fun w' b' => R.move rfl rfl) rfl rfl ?_
    refine GG.val (fun w' b' => R.move rfl rfl) rfl rfl ?_
    refine GG.val (fun w' b' => R.move rfl rfl) rfl rfl ?_
    refine GG.val (fun w' b' => R.index rfl rfl rfl (I.ixS rfl (by omega))) rfl rfl ?_
    refine GG.val (fun w' b' => R.field rfl rfl (I.fld rfl)) rfl rfl ?_
    refine GG.val (fun w' b' => R.load rfl rfl (I.ld1 rfl (cell_up c2 b'))) rfl rfl ?_
    refine GG.val (fun w' b' => R.move rfl rfl) rfl rfl ?_
    refine GG.val (fun w' b' => R.eqT rfl rfl rfl (by omega)) rfl rfl ?_
    refine GG.val (fun w' b' => R.pick rfl rfl rfl) rfl rfl ?_
    refine GG.nilQ (fun Wf6 bf5 => ?_)
    have zbf5 := bf5.size
    replace q := q.trans (bf5.mono q.size)
    replace c1 := cell_up c1 bf5
    replace c2 := cell_up c2 bf5
    replace c3 := cell_up c3 bf5
    refine EE.thenN ?_
    refine CC.yes rfl ?_
    refine CC.seq ?_
    refine CC.region ?_
    refine LL.val (R.assign rfl rfl) rfl rfl rfl ?_
    refine LL.nilS ?_
    refine CC.ret ?_
    refine EE.inR ?_
    refine EE.thenR ?_
    refine EE.thenR ?_
    refine EE.inR ?_
    refine EE.thenR ?_
    refine EE.ret _ rfl rfl ?_
    exact ⟨_, rfl, by simp [hno], q⟩
  · have hg := good (hrest (fun _ y e => by rw [hy] at e; cases e; exact hA) ⟨hB, hC⟩)
    clear bad good hrest
    refine CC.seq ?_
    refine CC.seq ?_
    refine CC.region ?_
    refine LL.val (R.move rfl rfl) rfl rfl rfl ?_
    refine LL.val (R.move rfl rfl) rfl rfl rfl ?_
    refine LL.val (R.len rfl rfl rfl rfl) rfl rfl rfl ?_
    refine LL.val (R.ltT rfl rfl rfl (by omega)) rfl rfl rfl ?_
    refine LL.nilS ?_
    refine CC.yes rfl ?_
    refine CC.skip ?_
    refine EE.thenN ?_
    refine CC.seq ?_
    refine CC.block ?_
    refine CC.seq ?_
    refine CC.grow (by kernel_rfl) (by kernel_rfl) ?_
    refine GG.val (fun w' b' => R.move rfl rfl) rfl rfl ?_
    refine GG.val (fun w' b' => R.gtT rfl rfl rfl (by omega)) rfl rfl ?_
    refine GG.val (fun w' b' => R.move rfl rfl) rfl rfl ?_
    refine GG.val (fun w' b' => R.move rfl rfl) rfl rfl ?_
    refine GG.val (fun w' b' => R.move rfl rfl) rfl rfl ?_
    refine GG.val (fun w' b' => R.subNc rfl rfl rfl rfl (by omega) (by omega)) rfl rfl ?_
    refine GG.val (fun w' b' => R.index rfl rfl rfl (I.ixS rfl (by omega))) rfl rfl ?_
    refine GG.val (fun w' b' => R.field rfl rfl (I.fld rfl)) rfl rfl ?_
    refine GG.val (fun w' b' => R.load rfl rfl (I.ld1 rfl (cell_up c3 b'))) rfl rfl ?_
    refine GG.val (fun w' b' => R.move rfl rfl) rfl rfl ?_
    refine GG.val (fun w' b' => R.move rfl rfl) rfl rfl ?_
    refine GG.val (fun w' b' => R.index rfl rfl rfl (I.ixS rfl (by omega))) rfl rfl ?_
    refine GG.val (fun w' b' => R.field rfl rfl (I.fld rfl)) rfl rfl ?_
    refine GG.val (fun w' b' => R.load rfl rfl (I.ld1 rfl (cell_up c1 b'))) rfl rfl ?_
    refine GG.val (fun w' b' => R.geF rfl rfl rfl (by omega)) rfl rfl ?_
    refine GG.val (fun w' b' => R.pick rfl rfl rfl) rfl rfl ?_
    refine GG.val (fun w' b' => R.move rfl rfl) rfl rfl ?_
    refine GG.val (fun w' b' => R.move rfl rfl) rfl rfl ?_
    refine GG.val (fun w' b' => R.move rfl rfl) rfl rfl ?_
    refine GG.val (fun w' b' => R.slice rfl rfl rfl rfl rfl (I.slTo rfl (by omega))) rfl rfl ?_
    refine GG.val (fun w' b' => R.move rfl rfl) rfl rfl ?_
    refine GG.val (fun w' b' => R.move rfl rfl) rfl rfl ?_
    refine GG.val (fun w' b' => R.index rfl rfl rfl (I.ixS rfl (by omega))) rfl rfl ?_
    refine GG.val (fun w' b' => R.field rfl rfl (I.fld rfl)) rfl rfl ?_
    refine GG.val (fun w' b' => R.load rfl rfl (I.ld1 rfl (cell_up c2 b'))) rfl rfl ?_
    refine GG.callDF (fun w' => (R.call rfl rfl rfl)) rfl rfl (fun w' b' => (hHa w' (q.trans (b'.mono q.size))).mono fun e W' h => ⟨h.1, h.2 ▸ b'⟩) (by first | assumption | omega) ?_
    refine GG.val (fun w' b' => R.pick rfl rfl rfl) rfl rfl ?_
    refine GG.val (fun w' b' => R.move rfl rfl) rfl rfl ?_
    refine GG.val (fun w' b' => R.move rfl rfl) rfl rfl ?_
    refine GG.val (fun w' b' => R.move rfl rfl) rfl rfl ?_
    refine GG.val (fun w' b' => R.index rfl rfl rfl (I.ixS rfl (by omega))) rfl rfl ?_
    refine GG.val (fun w' b' => R.field rfl rfl (I.fld rfl)) rfl rfl ?_
    refine GG.val (fun w' b' => R.load rfl rfl (I.ld1 rfl (cell_up c2 b'))) rfl rfl ?_
    refine GG.val (fun w' b' => R.move rfl rfl) rfl rfl ?_
    refine GG.val (fun w' b' => R.eqF rfl rfl rfl (by omega)) rfl rfl ?_
    refine GG.val (fun w' b' => R.pick rfl rfl rfl) rfl rfl ?_
    refine GG.nilQ (fun Wg6 bg5 => ?_)
    have zbg5 := bg5.size
    replace q := q.trans (bg5.mono q.size)
    replace c1 := cell_up c1 bg5
    replace c2 := cell_up c2 bg5
    replace c3 := cell_up c3 bg5
    refine EE.thenN ?_
    refine CC.no rfl ?_
    refine CC.skip ?_
    refine EE.inN ?_
    refine EE.thenN ?_
    refine CC.region ?_
    refine LL.val (R.move rfl rfl) rfl rfl rfl ?_
    refine LL.val (R.addNc rfl rfl rfl rfl (by omega)) rfl rfl rfl ?_
    refine LL.val (R.assign rfl rfl) rfl rfl rfl ?_
    refine LL.nil ?_
    exact EE.round (i + 1) ⟨rfl, rfl, rfl, trivial⟩ ⟨by show i + 1 ≤ N; omega, q, hg⟩ (by show N - (i + 1) < N - i; omega)
end Go.Proofs.Ytloflmkolnediaa

/- slots: the document's Check. -/
namespace Go.Proofs.Ytloflmkolnediaa
set_option linter.unusedVariables false
set_option linter.unusedSimpArgs false
open Go.RowKit Go.Shelf
theorem set_fine {left : Nat} {s : List Nat} : setP left s ↔ fineP left (pairP left s) ∧ (pairP left s).length = overN s ∧ (pairP left s).length < s.length / 2 ∧ ∀ j, overN s ≤ j → j < s.length / 2 → ptrN s j = 0 := by
  constructor
  · intro h
    obtain ⟨n, hs⟩ := setP_iff.1 h
    have hP := hs.pairP
    have hl : (pairP left s).length = n := by rw [hP]; simp
    rw [hl, hs.over]
    refine ⟨fun i x hx => ?_, rfl, hs.lt, hs.z⟩
    have hi : i < n := by have := (List.getElem?_eq_some_iff.1 hx).1; omega
    rw [hP, range_map_get hi] at hx
    cases hx
    refine ⟨fun h0 y hy => ?_, fun hm => ?_, hs.nl i hi⟩
    · rw [hP, range_map_get (by omega)] at hy
      cases hy
      have := hs.up (i - 1) (by omega)
      rw [show i - 1 + 1 = i by omega] at this
      exact this
    · obtain ⟨y, hy, e⟩ := List.mem_map.1 hm
      rw [hP, ← List.map_take, List.take_range, Nat.min_eq_left (by omega)] at hy
      obtain ⟨j, hj, rfl⟩ := List.mem_map.1 hy
      exact hs.dis j i (List.mem_range.1 hj) hi e
  · rintro ⟨h1, h2, h3, h4⟩
    have hn : (pairF left s (overN s)).length = overN s := (by unfold pairP pairS; rw [List.length_map] : (pairF left s (overN s)).length = (pairP left s).length).trans h2
    have hne := pairF_full hn
    have hP : pairP left s = (List.range (overN s)).map (prA s) := by
      unfold pairP pairS
      rw [pairF_all hne, List.map_map]
      rfl
    rw [h2] at h3
    rw [hP] at h1
    have ha := fun i (hi : i < overN s) => h1 i (prA s i) (range_map_get hi)
    refine setP_iff.2 ⟨overN s, h3, fun j hj => over_ne hj, h4, fun j hj => (ha j hj).2.2, fun i j hij hj e => (ha j hj).2.1 ?_, fun j hj => ?_⟩
    · rw [← List.map_take, List.take_range, Nat.min_eq_left (by omega)]
      exact List.mem_map.2 ⟨prA s i, List.mem_map.2 ⟨i, List.mem_range.2 hij, rfl⟩, e⟩
    · exact (ha (j + 1) hj).1 (by omega) (prA s j) (range_map_get (by omega))
set_option maxRecDepth 100000
set_option maxHeartbeats 4000000
theorem dcheck_any (left n : Nat) (v : Value) (s : List Nat) (w : World) (hv : ReadsT uE 1 w v s) (hn : s.length = n) (h : n ≤ 1048576) : Calls Try.prog 26 #[.int .u64 (left : Int), v] w fun e w' => e = .returned (.int .i64 (checkF left s : Int)) ∧ Below w.heap.size w w' := by
  have q := Below.refl w.heap.size w
  obtain ⟨a, c, rfl, hc⟩ := hv.form hn
  have hvF : ∀ X, Below w.heap.size w X → ReadsT uE 1 X (.slice a n c) s := fun X b => hv.up b
  clear hv
  unfold checkF
  rw [hn]
  by_cases h1 : noRow left n
  · rw [if_pos h1]
    refine X.fn Try.func26 rfl (n := 53) rfl rfl ?_
    refine CC.seq ?_
    refine CC.region ?_
    refine LL.val (R.assign rfl rfl) rfl rfl rfl ?_
    refine LL.nilS ?_
    refine CC.seq ?_
    refine CC.seq ?_
    refine CC.region ?_
    refine LL.val (R.move rfl rfl) rfl rfl rfl ?_
    refine LL.val (R.move rfl rfl) rfl rfl rfl ?_
    refine LL.call (R.call rfl rfl rfl) rfl rfl rfl (dright_F _ _ _ _ _ (by first | assumption | omega) (by first | assumption | omega)) ?_
    rintro e W' ⟨rfl, rfl⟩
    refine ⟨_, rfl, ?_⟩
    refine LL.val (R.not rfl rfl) rfl rfl rfl ?_
    refine LL.nilS ?_
    refine CC.yes rfl ?_
    refine CC.seq ?_
    refine CC.region ?_
    refine LL.val (R.assign rfl rfl) rfl rfl rfl ?_
    refine LL.nilS ?_
    refine CC.ret ?_
    refine EE.thenR ?_
    refine EE.ret _ rfl rfl ?_
    exact ⟨rfl, q⟩
  rw [if_neg h1]
  have hrow := noRow_not h1
  clear h1
  obtain ⟨ps, eps⟩ : ∃ ps, pairP left s = ps := ⟨_, rfl⟩
  obtain ⟨m, em⟩ : ∃ m, overN s = m := ⟨_, rfl⟩
  have hsf := set_fine (left := left) (s := s)
  rw [eps, em, hn] at hsf
  have hpl : ps.length ≤ n / 2 := by rw [← eps, ← hn]; unfold pairP; rw [List.length_map]; exact pairS_len left s
  by_cases hf : fineP left ps
  case neg =>
    have hno : ¬ setP left s := fun hs => hf (hsf.1 hs).1
    rw [if_neg hno]
    refine X.fn Try.func26 rfl (n := 53) rfl rfl ?_
    refine CC.seq ?_
    refine CC.region ?_
    refine LL.val (R.assign rfl rfl) rfl rfl rfl ?_
    refine LL.nilS ?_
    refine CC.seq ?_
    refine CC.seq ?_
    refine CC.region ?_
    refine LL.val (R.move rfl rfl) rfl rfl rfl ?_
    refine LL.val (R.move rfl rfl) rfl rfl rfl ?_
    refine LL.call (R.call rfl rfl rfl) rfl rfl rfl (dright_T _ _ _ _ _ (by first | assumption | omega)) ?_
    rintro e W' ⟨rfl, rfl⟩
    refine ⟨_, rfl, ?_⟩
    refine LL.val (R.not rfl rfl) rfl rfl rfl ?_
    refine LL.nilS ?_
    refine CC.no rfl ?_
    refine CC.skip ?_
    refine EE.thenN ?_
    refine CC.seq ?_
    refine CC.region ?_
    refine LL.val (R.move rfl rfl) rfl rfl rfl ?_
    refine LL.val (R.move rfl rfl) rfl rfl rfl ?_
    (refine LL.call (R.call rfl rfl rfl) rfl rfl rfl (dread_any left a n c s _ (hvF _ q) hn h) ?_; rintro e Wa102 ⟨v1, v2, rfl, o1, o2, hd, ba99⟩; refine ⟨_, rfl, ?_⟩; rw [eps] at o1; obtain ⟨aP, cP, rfl, hcP⟩ := (o1.reads prEnc).form rfl; have hpF : ∀ X, Below (Wa102).heap.size Wa102 X → ReadsT prE 2 X (.slice aP ps.length cP) ps := fun X b => (o1.reads prEnc).up b; have qP := Below.refl (Wa102).heap.size Wa102; clear o1 o2 hd)
    have zba99 := ba99.size
    replace q := q.trans (ba99.mono q.size)
    refine LL.val (R.move rfl rfl) rfl rfl rfl ?_
    refine LL.val (R.extract rfl rfl rfl) rfl rfl rfl ?_
    refine LL.val (R.extract rfl rfl rfl) rfl rfl rfl ?_
    refine LL.val (R.assign rfl rfl) rfl rfl rfl ?_
    refine LL.val (R.assign rfl rfl) rfl rfl rfl ?_
    refine LL.nilS ?_
    refine CC.seq ?_
    refine CC.seq ?_
    refine CC.region ?_
    refine LL.val (R.move rfl rfl) rfl rfl rfl ?_
    refine LL.val (R.move rfl rfl) rfl rfl rfl ?_
    (refine LL.call (R.call rfl rfl rfl) rfl rfl rfl (dfine_any left _ ps _ (hpF _ qP) (by omega)) ?_; rintro e Wa214 ⟨bf, rfl, hbf, ba211⟩; refine ⟨_, rfl, ?_⟩; obtain rfl : bf = false := (by cases bf with | false => rfl | true => exact absurd (hbf.1 rfl) hf); clear hbf)
    have zba211 := ba211.size
    replace ba99 := ba99.trans (ba211.mono ba99.size)
    replace qP := qP.trans (ba211.mono qP.size)
    replace q := q.trans (ba211.mono q.size)
    refine LL.val (R.not rfl rfl) rfl rfl rfl ?_
    refine LL.val (R.move rfl rfl) rfl rfl rfl ?_
    refine LL.skip rfl rfl ?_
    refine LL.skip rfl rfl ?_
    refine LL.skip rfl rfl ?_
    refine LL.skip rfl rfl ?_
    refine LL.skip rfl rfl ?_
    refine LL.val (R.pick rfl rfl rfl) rfl rfl rfl ?_
    refine LL.val (R.move rfl rfl) rfl rfl rfl ?_
    refine LL.skip rfl rfl ?_
    refine LL.skip rfl rfl ?_
    refine LL.skip rfl rfl ?_
    refine LL.skip rfl rfl ?_
    refine LL.skip rfl rfl ?_
    refine LL.skip rfl rfl ?_
    refine LL.val (R.pick rfl rfl rfl) rfl rfl rfl ?_
    refine LL.nilS ?_
    refine CC.yes rfl ?_
    refine CC.seq ?_
    refine CC.region ?_
    refine LL.val (R.assign rfl rfl) rfl rfl rfl ?_
    refine LL.nilS ?_
    refine CC.ret ?_
    refine EE.thenR ?_
    refine EE.ret _ rfl rfl ?_
    exact ⟨rfl, q⟩
  by_cases hl : ps.length = m
  case neg =>
    have hno : ¬ setP left s := fun hs => hl (hsf.1 hs).2.1
    rw [if_neg hno]
    refine X.fn Try.func26 rfl (n := 53) rfl rfl ?_
    refine CC.seq ?_
    refine CC.region ?_
    refine LL.val (R.assign rfl rfl) rfl rfl rfl ?_
    refine LL.nilS ?_
    refine CC.seq ?_
    refine CC.seq ?_
    refine CC.region ?_
    refine LL.val (R.move rfl rfl) rfl rfl rfl ?_
    refine LL.val (R.move rfl rfl) rfl rfl rfl ?_
    refine LL.call (R.call rfl rfl rfl) rfl rfl rfl (dright_T _ _ _ _ _ (by first | assumption | omega)) ?_
    rintro e W' ⟨rfl, rfl⟩
    refine ⟨_, rfl, ?_⟩
    refine LL.val (R.not rfl rfl) rfl rfl rfl ?_
    refine LL.nilS ?_
    refine CC.no rfl ?_
    refine CC.skip ?_
    refine EE.thenN ?_
    refine CC.seq ?_
    refine CC.region ?_
    refine LL.val (R.move rfl rfl) rfl rfl rfl ?_
    refine LL.val (R.move rfl rfl) rfl rfl rfl ?_
    (refine LL.call (R.call rfl rfl rfl) rfl rfl rfl (dread_any left a n c s _ (hvF _ q) hn h) ?_; rintro e Wb102 ⟨v1, v2, rfl, o1, o2, hd, bb99⟩; refine ⟨_, rfl, ?_⟩; rw [eps] at o1; obtain ⟨aP, cP, rfl, hcP⟩ := (o1.reads prEnc).form rfl; have hpF : ∀ X, Below (Wb102).heap.size Wb102 X → ReadsT prE 2 X (.slice aP ps.length cP) ps := fun X b => (o1.reads prEnc).up b; have qP := Below.refl (Wb102).heap.size Wb102; clear o1 o2 hd)
    have zbb99 := bb99.size
    replace q := q.trans (bb99.mono q.size)
    refine LL.val (R.move rfl rfl) rfl rfl rfl ?_
    refine LL.val (R.extract rfl rfl rfl) rfl rfl rfl ?_
    refine LL.val (R.extract rfl rfl rfl) rfl rfl rfl ?_
    refine LL.val (R.assign rfl rfl) rfl rfl rfl ?_
    refine LL.val (R.assign rfl rfl) rfl rfl rfl ?_
    refine LL.nilS ?_
    refine CC.seq ?_
    refine CC.seq ?_
    refine CC.region ?_
    refine LL.val (R.move rfl rfl) rfl rfl rfl ?_
    refine LL.val (R.move rfl rfl) rfl rfl rfl ?_
    (refine LL.call (R.call rfl rfl rfl) rfl rfl rfl (dfine_any left _ ps _ (hpF _ qP) (by omega)) ?_; rintro e Wb214 ⟨bf, rfl, hbf, bb211⟩; refine ⟨_, rfl, ?_⟩; obtain rfl : bf = true := hbf.2 hf; clear hbf)
    have zbb211 := bb211.size
    replace bb99 := bb99.trans (bb211.mono bb99.size)
    replace qP := qP.trans (bb211.mono qP.size)
    replace q := q.trans (bb211.mono q.size)
    refine LL.val (R.not rfl rfl) rfl rfl rfl ?_
    refine LL.val (R.move rfl rfl) rfl rfl rfl ?_
    refine LL.val (R.move rfl rfl) rfl rfl rfl ?_
    refine LL.val (R.len rfl rfl rfl rfl) rfl rfl rfl ?_
    refine LL.val (R.move rfl rfl) rfl rfl rfl ?_
    (refine LL.call (R.call rfl rfl rfl) rfl rfl rfl (draw_any _ _ _ s _ (hvF _ q) hn h) ?_; rintro e W' ⟨rfl, rfl⟩; refine ⟨_, rfl, ?_⟩; rw [em])
    refine LL.val (R.neT rfl rfl rfl (by omega)) rfl rfl rfl ?_
    refine LL.val (R.pick rfl rfl rfl) rfl rfl rfl ?_
    refine LL.val (R.move rfl rfl) rfl rfl rfl ?_
    refine LL.skip rfl rfl ?_
    refine LL.skip rfl rfl ?_
    refine LL.skip rfl rfl ?_
    refine LL.skip rfl rfl ?_
    refine LL.skip rfl rfl ?_
    refine LL.skip rfl rfl ?_
    refine LL.val (R.pick rfl rfl rfl) rfl rfl rfl ?_
    refine LL.nilS ?_
    refine CC.yes rfl ?_
    refine CC.seq ?_
    refine CC.region ?_
    refine LL.val (R.assign rfl rfl) rfl rfl rfl ?_
    refine LL.nilS ?_
    refine CC.ret ?_
    refine EE.thenR ?_
    refine EE.ret _ rfl rfl ?_
    exact ⟨rfl, q⟩
  by_cases hl2 : ps.length < n / 2
  case neg =>
    have hno : ¬ setP left s := fun hs => hl2 (hsf.1 hs).2.2.1
    rw [if_neg hno]
    refine X.fn Try.func26 rfl (n := 53) rfl rfl ?_
    refine CC.seq ?_
    refine CC.region ?_
    refine LL.val (R.assign rfl rfl) rfl rfl rfl ?_
    refine LL.nilS ?_
    refine CC.seq ?_
    refine CC.seq ?_
    refine CC.region ?_
    refine LL.val (R.move rfl rfl) rfl rfl rfl ?_
    refine LL.val (R.move rfl rfl) rfl rfl rfl ?_
    refine LL.call (R.call rfl rfl rfl) rfl rfl rfl (dright_T _ _ _ _ _ (by first | assumption | omega)) ?_
    rintro e W' ⟨rfl, rfl⟩
    refine ⟨_, rfl, ?_⟩
    refine LL.val (R.not rfl rfl) rfl rfl rfl ?_
    refine LL.nilS ?_
    refine CC.no rfl ?_
    refine CC.skip ?_
    refine EE.thenN ?_
    refine CC.seq ?_
    refine CC.region ?_
    refine LL.val (R.move rfl rfl) rfl rfl rfl ?_
    refine LL.val (R.move rfl rfl) rfl rfl rfl ?_
    (refine LL.call (R.call rfl rfl rfl) rfl rfl rfl (dread_any left a n c s _ (hvF _ q) hn h) ?_; rintro e Wc102 ⟨v1, v2, rfl, o1, o2, hd, bc99⟩; refine ⟨_, rfl, ?_⟩; rw [eps] at o1; obtain ⟨aP, cP, rfl, hcP⟩ := (o1.reads prEnc).form rfl; have hpF : ∀ X, Below (Wc102).heap.size Wc102 X → ReadsT prE 2 X (.slice aP ps.length cP) ps := fun X b => (o1.reads prEnc).up b; have qP := Below.refl (Wc102).heap.size Wc102; clear o1 o2 hd)
    have zbc99 := bc99.size
    replace q := q.trans (bc99.mono q.size)
    refine LL.val (R.move rfl rfl) rfl rfl rfl ?_
    refine LL.val (R.extract rfl rfl rfl) rfl rfl rfl ?_
    refine LL.val (R.extract rfl rfl rfl) rfl rfl rfl ?_
    refine LL.val (R.assign rfl rfl) rfl rfl rfl ?_
    refine LL.val (R.assign rfl rfl) rfl rfl rfl ?_
    refine LL.nilS ?_
    refine CC.seq ?_
    refine CC.seq ?_
    refine CC.region ?_
    refine LL.val (R.move rfl rfl) rfl rfl rfl ?_
    refine LL.val (R.move rfl rfl) rfl rfl rfl ?_
    (refine LL.call (R.call rfl rfl rfl) rfl rfl rfl (dfine_any left _ ps _ (hpF _ qP) (by omega)) ?_; rintro e Wc214 ⟨bf, rfl, hbf, bc211⟩; refine ⟨_, rfl, ?_⟩; obtain rfl : bf = true := hbf.2 hf; clear hbf)
    have zbc211 := bc211.size
    replace bc99 := bc99.trans (bc211.mono bc99.size)
    replace qP := qP.trans (bc211.mono qP.size)
    replace q := q.trans (bc211.mono q.size)
    refine LL.val (R.not rfl rfl) rfl rfl rfl ?_
    refine LL.val (R.move rfl rfl) rfl rfl rfl ?_
    refine LL.val (R.move rfl rfl) rfl rfl rfl ?_
    refine LL.val (R.len rfl rfl rfl rfl) rfl rfl rfl ?_
    refine LL.val (R.move rfl rfl) rfl rfl rfl ?_
    (refine LL.call (R.call rfl rfl rfl) rfl rfl rfl (draw_any _ _ _ s _ (hvF _ q) hn h) ?_; rintro e W' ⟨rfl, rfl⟩; refine ⟨_, rfl, ?_⟩; rw [em])
    refine LL.val (R.neF rfl rfl rfl (by omega)) rfl rfl rfl ?_
    refine LL.val (R.pick rfl rfl rfl) rfl rfl rfl ?_
    refine LL.val (R.move rfl rfl) rfl rfl rfl ?_
    refine LL.val (R.move rfl rfl) rfl rfl rfl ?_
    refine LL.val (R.len rfl rfl rfl rfl) rfl rfl rfl ?_
    refine LL.val (R.move rfl rfl) rfl rfl rfl ?_
    refine LL.val (R.len rfl rfl rfl rfl) rfl rfl rfl ?_
    refine LL.val (R.quoNc rfl rfl rfl rfl (by omega) (by omega)) rfl rfl rfl ?_
    refine LL.val (R.geT rfl rfl rfl (by omega)) rfl rfl rfl ?_
    refine LL.val (R.pick rfl rfl rfl) rfl rfl rfl ?_
    refine LL.nilS ?_
    refine CC.yes rfl ?_
    refine CC.seq ?_
    refine CC.region ?_
    refine LL.val (R.assign rfl rfl) rfl rfl rfl ?_
    refine LL.nilS ?_
    refine CC.ret ?_
    refine EE.thenR ?_
    refine EE.ret _ rfl rfl ?_
    exact ⟨rfl, q⟩
  refine X.fn Try.func26 rfl (n := 53) rfl rfl ?_
  refine CC.seq ?_
  refine CC.region ?_
  refine LL.val (R.assign rfl rfl) rfl rfl rfl ?_
  refine LL.nilS ?_
  refine CC.seq ?_
  refine CC.seq ?_
  refine CC.region ?_
  refine LL.val (R.move rfl rfl) rfl rfl rfl ?_
  refine LL.val (R.move rfl rfl) rfl rfl rfl ?_
  refine LL.call (R.call rfl rfl rfl) rfl rfl rfl (dright_T _ _ _ _ _ (by first | assumption | omega)) ?_
  rintro e W' ⟨rfl, rfl⟩
  refine ⟨_, rfl, ?_⟩
  refine LL.val (R.not rfl rfl) rfl rfl rfl ?_
  refine LL.nilS ?_
  refine CC.no rfl ?_
  refine CC.skip ?_
  refine EE.thenN ?_
  refine CC.seq ?_
  refine CC.region ?_
  refine LL.val (R.move rfl rfl) rfl rfl rfl ?_
  refine LL.val (R.move rfl rfl) rfl rfl rfl ?_
  (refine LL.call (R.call rfl rfl rfl) rfl rfl rfl (dread_any left a n c s _ (hvF _ q) hn h) ?_; rintro e Wd102 ⟨v1, v2, rfl, o1, o2, hd, bd99⟩; refine ⟨_, rfl, ?_⟩; rw [eps] at o1; obtain ⟨aP, cP, rfl, hcP⟩ := (o1.reads prEnc).form rfl; have hpF : ∀ X, Below (Wd102).heap.size Wd102 X → ReadsT prE 2 X (.slice aP ps.length cP) ps := fun X b => (o1.reads prEnc).up b; have qP := Below.refl (Wd102).heap.size Wd102; clear o1 o2 hd)
  have zbd99 := bd99.size
  replace q := q.trans (bd99.mono q.size)
  refine LL.val (R.move rfl rfl) rfl rfl rfl ?_
  refine LL.val (R.extract rfl rfl rfl) rfl rfl rfl ?_
  refine LL.val (R.extract rfl rfl rfl) rfl rfl rfl ?_
  refine LL.val (R.assign rfl rfl) rfl rfl rfl ?_
  refine LL.val (R.assign rfl rfl) rfl rfl rfl ?_
  refine LL.nilS ?_
  refine CC.seq ?_
  refine CC.seq ?_
  refine CC.region ?_
  refine LL.val (R.move rfl rfl) rfl rfl rfl ?_
  refine LL.val (R.move rfl rfl) rfl rfl rfl ?_
  (refine LL.call (R.call rfl rfl rfl) rfl rfl rfl (dfine_any left _ ps _ (hpF _ qP) (by omega)) ?_; rintro e Wd214 ⟨bf, rfl, hbf, bd211⟩; refine ⟨_, rfl, ?_⟩; obtain rfl : bf = true := hbf.2 hf; clear hbf)
  have zbd211 := bd211.size
  replace bd99 := bd99.trans (bd211.mono bd99.size)
  replace qP := qP.trans (bd211.mono qP.size)
  replace q := q.trans (bd211.mono q.size)
  refine LL.val (R.not rfl rfl) rfl rfl rfl ?_
  refine LL.val (R.move rfl rfl) rfl rfl rfl ?_
  refine LL.val (R.move rfl rfl) rfl rfl rfl ?_
  refine LL.val (R.len rfl rfl rfl rfl) rfl rfl rfl ?_
  refine LL.val (R.move rfl rfl) rfl rfl rfl ?_
  (refine LL.call (R.call rfl rfl rfl) rfl rfl rfl (draw_any _ _ _ s _ (hvF _ q) hn h) ?_; rintro e W' ⟨rfl, rfl⟩; refine ⟨_, rfl, ?_⟩; rw [em])
  refine LL.val (R.neF rfl rfl rfl (by omega)) rfl rfl rfl ?_
  refine LL.val (R.pick rfl rfl rfl) rfl rfl rfl ?_
  refine LL.val (R.move rfl rfl) rfl rfl rfl ?_
  refine LL.val (R.move rfl rfl) rfl rfl rfl ?_
  refine LL.val (R.len rfl rfl rfl rfl) rfl rfl rfl ?_
  refine LL.val (R.move rfl rfl) rfl rfl rfl ?_
  refine LL.val (R.len rfl rfl rfl rfl) rfl rfl rfl ?_
  refine LL.val (R.quoNc rfl rfl rfl rfl (by omega) (by omega)) rfl rfl rfl ?_
  refine LL.val (R.geF rfl rfl rfl (by omega)) rfl rfl rfl ?_
  refine LL.val (R.pick rfl rfl rfl) rfl rfl rfl ?_
  refine LL.nilS ?_
  refine CC.no rfl ?_
  refine CC.skip ?_
  refine EE.thenN ?_
  refine CC.seq ?_
  refine CC.seq ?_
  refine CC.region ?_
  refine LL.val (R.move rfl rfl) rfl rfl rfl ?_
  refine LL.val (R.len rfl rfl rfl rfl) rfl rfl rfl ?_
  refine LL.val (R.assign rfl rfl) rfl rfl rfl ?_
  refine LL.nilS ?_
  refine CC.block ?_
  have yq := q.size
  refine CC.loop (α := Nat) (fun i => [(1, .slice a n c), (7, .int .i64 (i : Int))]) (fun i W => m ≤ i ∧ i ≤ n / 2 ∧ Below w.heap.size w W ∧ ∀ j, m ≤ j → j < i → ptrN s j = 0) (fun i => n / 2 - i)
    ps.length ⟨rfl, rfl, trivial⟩ ⟨by omega, by omega, q, fun j h1 h2 => by omega⟩ ?_
  clear q qP
  rintro j W ⟨hj1, hj2, q, hz⟩
  show CC none Try.prog _ 53 [] (sl [(1, .slice a n c), (7, .int .i64 (j : Int))]) _ W
  by_cases hlt2 : j < n / 2
  case neg =>
    obtain rfl : j = n / 2 := by omega
    have hyes : setP left s := hsf.2 ⟨hf, hl, hl2, hz⟩
    rw [if_pos hyes]
    refine CC.seq ?_
    refine CC.seq ?_
    refine CC.region ?_
    refine LL.val (R.move rfl rfl) rfl rfl rfl ?_
    refine LL.val (R.move rfl rfl) rfl rfl rfl ?_
    refine LL.val (R.len rfl rfl rfl rfl) rfl rfl rfl ?_
    refine LL.val (R.quoNc rfl rfl rfl rfl (by omega) (by omega)) rfl rfl rfl ?_
    refine LL.val (R.ltF rfl rfl rfl (by omega)) rfl rfl rfl ?_
    refine LL.nilS ?_
    refine CC.no rfl ?_
    refine CC.exit ?_
    refine EE.thenX ?_
    refine EE.thenX ?_
    refine EE.inX ?_
    refine EE.thenN ?_
    refine CC.seq ?_
    refine CC.region ?_
    refine LL.val (R.assign rfl rfl) rfl rfl rfl ?_
    refine LL.nilS ?_
    refine CC.ret ?_
    refine EE.ret _ rfl rfl ?_
    exact ⟨rfl, q⟩
  obtain ⟨b, o, rfl, lb, m1⟩ := u_at (hvF _ (Below.refl _ _)) (ptrN_at (s := s) (j := j) (by omega))
  have c1 := m1 W q
  by_cases hp : ptrN s j = 0
  · have hz' : ∀ k, m ≤ k → k < j + 1 → ptrN s k = 0 := fun k h1 h2 => by
      by_cases e : k = j
      · subst e; exact hp
      · exact hz k h1 (by omega)
    clear hz
    refine CC.seq ?_
    refine CC.seq ?_
    refine CC.region ?_
    refine LL.val (R.move rfl rfl) rfl rfl rfl ?_
    refine LL.val (R.move rfl rfl) rfl rfl rfl ?_
    refine LL.val (R.len rfl rfl rfl rfl) rfl rfl rfl ?_
    refine LL.val (R.quoNc rfl rfl rfl rfl (by omega) (by omega)) rfl rfl rfl ?_
    refine LL.val (R.ltT rfl rfl rfl (by omega)) rfl rfl rfl ?_
    refine LL.nilS ?_
    refine CC.yes rfl ?_
    refine CC.skip ?_
    refine EE.thenN ?_
    refine CC.seq ?_
    refine CC.block ?_
    refine CC.seq ?_
    refine CC.region ?_
    refine LL.val (R.move rfl rfl) rfl rfl rfl ?_
    refine LL.val (R.move rfl rfl) rfl rfl rfl ?_
    refine LL.val (R.mulcN rfl rfl rfl rfl (by omega)) rfl rfl rfl ?_
    refine LL.val (R.addNc rfl rfl rfl rfl (by omega)) rfl rfl rfl ?_
    refine LL.val (R.index rfl rfl rfl (I.ixS1 rfl (by omega))) rfl rfl rfl ?_
    refine LL.val (R.load rfl rfl (I.ld1 rfl (by assumption))) rfl rfl rfl ?_
    refine LL.val (R.neF rfl rfl rfl (by omega)) rfl rfl rfl ?_
    refine LL.nilS ?_
    refine CC.no rfl ?_
    refine CC.skip ?_
    refine EE.inN ?_
    refine EE.thenN ?_
    refine CC.region ?_
    refine LL.val (R.move rfl rfl) rfl rfl rfl ?_
    refine LL.val (R.addNc rfl rfl rfl rfl (by omega)) rfl rfl rfl ?_
    refine LL.val (R.assign rfl rfl) rfl rfl rfl ?_
    refine LL.nil ?_
    exact EE.round (j + 1) ⟨rfl, rfl, trivial⟩ ⟨by show m ≤ j + 1; omega, by show j + 1 ≤ n / 2; omega, q, hz'⟩ (by show n / 2 - (j + 1) < n / 2 - j; omega)
  · have hno : ¬ setP left s := fun hs => hp ((hsf.1 hs).2.2.2 j hj1 hlt2)
    rw [if_neg hno]
    refine CC.seq ?_
    refine CC.seq ?_
    refine CC.region ?_
    refine LL.val (R.move rfl rfl) rfl rfl rfl ?_
    refine LL.val (R.move rfl rfl) rfl rfl rfl ?_
    refine LL.val (R.len rfl rfl rfl rfl) rfl rfl rfl ?_
    refine LL.val (R.quoNc rfl rfl rfl rfl (by omega) (by omega)) rfl rfl rfl ?_
    refine LL.val (R.ltT rfl rfl rfl (by omega)) rfl rfl rfl ?_
    refine LL.nilS ?_
    refine CC.yes rfl ?_
    refine CC.skip ?_
    refine EE.thenN ?_
    refine CC.seq ?_
    refine CC.block ?_
    refine CC.seq ?_
    refine CC.region ?_
    refine LL.val (R.move rfl rfl) rfl rfl rfl ?_
    refine LL.val (R.move rfl rfl) rfl rfl rfl ?_
    refine LL.val (R.mulcN rfl rfl rfl rfl (by omega)) rfl rfl rfl ?_
    refine LL.val (R.addNc rfl rfl rfl rfl (by omega)) rfl rfl rfl ?_
    refine LL.val (R.index rfl rfl rfl (I.ixS1 rfl (by omega))) rfl rfl rfl ?_
    refine LL.val (R.load rfl rfl (I.ld1 rfl (by assumption))) rfl rfl rfl ?_
    refine LL.val (R.neT rfl rfl rfl (by omega)) rfl rfl rfl ?_
    refine LL.nilS ?_
    refine CC.yes rfl ?_
    refine CC.seq ?_
    refine CC.region ?_
    refine LL.val (R.assign rfl rfl) rfl rfl rfl ?_
    refine LL.nilS ?_
    refine CC.ret ?_
    refine EE.inR ?_
    refine EE.thenR ?_
    refine EE.thenR ?_
    refine EE.inR ?_
    refine EE.thenR ?_
    refine EE.ret _ rfl rfl ?_
    exact ⟨rfl, q⟩
end Go.Proofs.Ytloflmkolnediaa

/- scan: what a reader finds in a settled row that stays. -/
namespace Go.Proofs.Ytloflmkolnediaa
set_option linter.unusedVariables false
set_option linter.unusedSimpArgs false
open Go.RowKit Go.Shelf
set_option maxRecDepth 100000
set_option maxHeartbeats 4000000
section
variable {left : Nat} {s : List Nat}
theorem atW_key (j : Nat) : atW left s ((2 * j : Nat) : Int) = keyN s j := by
  unfold atW keyN
  rw [if_neg (by omega), Int.toNat_natCast]
theorem atW_ptr (j : Nat) : atW left s ((2 * j + 1 : Nat) : Int) = ptrN s j := by
  unfold atW ptrN
  rw [if_neg (by omega), Int.toNat_natCast]
theorem atW_ahead (j : Nat) : atW left s (2 * (j : Int) - 1) = aheadN left s j := by
  unfold atW aheadN
  by_cases h : j = 0
  · subst h
    rw [if_pos (by omega), if_pos rfl]
  · rw [if_neg (by omega), if_neg h, show (2 * (j : Int) - 1).toNat = 2 * (j - 1) + 1 by omega]
    rfl
/-- From slot j up. -/
theorem up_slot {key slots j ah pt lo : Nat} (hI : InvR ⟨key, slots, j, ah, pt, lo, 0, false, false, 0⟩) :
    (keyN s j = key ∧ ptrN s j ≠ 0 ∧ ptrN s j ≠ aheadN left s j ∧ (endOf left s ⟨key, slots, j, ah, pt, lo, 0, false, false, 0⟩).found = ptrN s j ∧ (endOf left s ⟨key, slots, j, ah, pt, lo, 0, false, false, 0⟩).is = true) ∨
    (¬ (keyN s j = key ∧ ptrN s j ≠ 0 ∧ ptrN s j ≠ aheadN left s j) ∧ (ptrN s j = 0 ∨ j + 1 = slots) ∧ (endOf left s ⟨key, slots, j, ah, pt, lo, 0, false, false, 0⟩).found = 0 ∧ (endOf left s ⟨key, slots, j, ah, pt, lo, 0, false, false, 0⟩).is = false) ∨
    (¬ (keyN s j = key ∧ ptrN s j ≠ 0 ∧ ptrN s j ≠ aheadN left s j) ∧ ptrN s j ≠ 0 ∧ j + 1 ≠ slots ∧ ∃ ah' pt' lo', InvR ⟨key, slots, j + 1, ah', pt', lo', 0, false, false, 0⟩ ∧ endOf left s ⟨key, slots, j, ah, pt, lo, 0, false, false, 0⟩ = endOf left s ⟨key, slots, j + 1, ah', pt', lo', 0, false, false, 0⟩) := by
  have i1 := (next_inv (left := left) (s := s) hI rfl).1
  rw [endOf_next hI rfl]
  have e0 : nextR left s ⟨key, slots, j, ah, pt, lo, 0, false, false, 0⟩ = if keyN s j = key then ⟨key, slots, j, ah, pt, lo + 1, 0, false, false, 1⟩ else ⟨key, slots, j, ah, pt, lo + 1, 0, false, false, 4⟩ := by
    show giveR _ (atW left s ((2 * j : Nat) : Int)) = _
    rw [atW_key]
    rfl
  rw [e0] at i1 ⊢
  by_cases hk : keyN s j = key
  · rw [if_pos hk] at i1 ⊢
    have i2 := (next_inv (left := left) (s := s) i1 rfl).1
    rw [endOf_next i1 rfl]
    have e1 : nextR left s ⟨key, slots, j, ah, pt, lo + 1, 0, false, false, 1⟩ = ⟨key, slots, j, aheadN left s j, pt, lo + 2, 0, false, false, 2⟩ := by
      show giveR _ (atW left s (2 * (j : Int) - 1)) = _
      rw [atW_ahead]
      rfl
    rw [e1] at i2 ⊢
    have i3 := (next_inv (left := left) (s := s) i2 rfl).1
    rw [endOf_next i2 rfl]
    have e2 : nextR left s ⟨key, slots, j, aheadN left s j, pt, lo + 2, 0, false, false, 2⟩ = ⟨key, slots, j, aheadN left s j, ptrN s j, lo + 3, 0, false, false, 3⟩ := by
      show giveR _ (atW left s ((2 * j + 1 : Nat) : Int)) = _
      rw [atW_ptr]
      rfl
    rw [e2] at i3 ⊢
    have i4 := (next_inv (left := left) (s := s) i3 rfl).1
    rw [endOf_next i3 rfl]
    have e3 : nextR left s ⟨key, slots, j, aheadN left s j, ptrN s j, lo + 3, 0, false, false, 3⟩ = if keyN s j = key ∧ ptrN s j ≠ 0 ∧ ptrN s j ≠ aheadN left s j then ⟨key, slots, j, aheadN left s j, ptrN s j, lo + 4, ptrN s j, true, true, 3⟩ else if ptrN s j = 0 ∨ j + 1 = slots then ⟨key, slots, j, aheadN left s j, ptrN s j, lo + 4, 0, false, true, 3⟩ else ⟨key, slots, j + 1, aheadN left s j, ptrN s j, lo + 4, 0, false, false, 0⟩ := by
      show giveR _ (atW left s ((2 * j : Nat) : Int)) = _
      rw [atW_key]
      rfl
    rw [e3] at i4 ⊢
    by_cases hf : keyN s j = key ∧ ptrN s j ≠ 0 ∧ ptrN s j ≠ aheadN left s j
    · rw [if_pos hf, endOf_dn rfl]
      exact .inl ⟨hf.1, hf.2.1, hf.2.2, rfl, rfl⟩
    · rw [if_neg hf] at i4 ⊢
      by_cases hz : ptrN s j = 0 ∨ j + 1 = slots
      · rw [if_pos hz, endOf_dn rfl]
        exact .inr (.inl ⟨hf, hz, rfl, rfl⟩)
      · rw [if_neg hz] at i4 ⊢
        exact .inr (.inr ⟨hf, fun e => hz (.inl e), fun e => hz (.inr e), _, _, _, i4, rfl⟩)
  · rw [if_neg hk] at i1 ⊢
    have hf : ¬ (keyN s j = key ∧ ptrN s j ≠ 0 ∧ ptrN s j ≠ aheadN left s j) := fun e => hk e.1
    have i4 := (next_inv (left := left) (s := s) i1 rfl).1
    rw [endOf_next i1 rfl]
    have e3 : nextR left s ⟨key, slots, j, ah, pt, lo + 1, 0, false, false, 4⟩ = if ptrN s j = 0 ∨ j + 1 = slots then ⟨key, slots, j, ah, pt, lo + 2, 0, false, true, 4⟩ else ⟨key, slots, j + 1, ah, pt, lo + 2, 0, false, false, 0⟩ := by
      show giveR _ (atW left s ((2 * j + 1 : Nat) : Int)) = _
      rw [atW_ptr]
      rfl
    rw [e3] at i4 ⊢
    by_cases hz : ptrN s j = 0 ∨ j + 1 = slots
    · rw [if_pos hz, endOf_dn rfl]
      exact .inr (.inl ⟨hf, hz, rfl, rfl⟩)
    · rw [if_neg hz] at i4 ⊢
      exact .inr (.inr ⟨hf, fun e => hz (.inl e), fun e => hz (.inr e), _, _, _, i4, rfl⟩)
/-- From slot j down. -/
theorem dn_slot {key slots j ah pt lo : Nat} (hI : InvR ⟨key, slots, j, ah, pt, lo, 0, false, false, 5⟩) :
    (keyN s j = key ∧ ptrN s j ≠ 0 ∧ ptrN s j ≠ aheadN left s j ∧ (endOf left s ⟨key, slots, j, ah, pt, lo, 0, false, false, 5⟩).found = ptrN s j ∧ (endOf left s ⟨key, slots, j, ah, pt, lo, 0, false, false, 5⟩).is = true) ∨
    (¬ (keyN s j = key ∧ ptrN s j ≠ 0 ∧ ptrN s j ≠ aheadN left s j) ∧ j = 0 ∧ (endOf left s ⟨key, slots, j, ah, pt, lo, 0, false, false, 5⟩).found = 0 ∧ (endOf left s ⟨key, slots, j, ah, pt, lo, 0, false, false, 5⟩).is = false) ∨
    (¬ (keyN s j = key ∧ ptrN s j ≠ 0 ∧ ptrN s j ≠ aheadN left s j) ∧ j ≠ 0 ∧ ∃ ah' pt' lo', InvR ⟨key, slots, j - 1, ah', pt', lo', 0, false, false, 5⟩ ∧ endOf left s ⟨key, slots, j, ah, pt, lo, 0, false, false, 5⟩ = endOf left s ⟨key, slots, j - 1, ah', pt', lo', 0, false, false, 5⟩) := by
  have i1 := (next_inv (left := left) (s := s) hI rfl).1
  rw [endOf_next hI rfl]
  have e0 : nextR left s ⟨key, slots, j, ah, pt, lo, 0, false, false, 5⟩ = if keyN s j = key then ⟨key, slots, j, ah, pt, lo + 1, 0, false, false, 6⟩ else if j = 0 then ⟨key, slots, j, ah, pt, lo + 1, 0, false, true, 5⟩ else ⟨key, slots, j - 1, ah, pt, lo + 1, 0, false, false, 5⟩ := by
    show giveR _ (atW left s ((2 * j : Nat) : Int)) = _
    rw [atW_key]
    rfl
  rw [e0] at i1 ⊢
  by_cases hk : keyN s j = key
  · rw [if_pos hk] at i1 ⊢
    have i2 := (next_inv (left := left) (s := s) i1 rfl).1
    rw [endOf_next i1 rfl]
    have e1 : nextR left s ⟨key, slots, j, ah, pt, lo + 1, 0, false, false, 6⟩ = if ptrN s j ≠ 0 then ⟨key, slots, j, ah, ptrN s j, lo + 2, 0, false, false, 7⟩ else if j = 0 then ⟨key, slots, j, ah, ptrN s j, lo + 2, 0, false, true, 6⟩ else ⟨key, slots, j - 1, ah, ptrN s j, lo + 2, 0, false, false, 5⟩ := by
      show giveR _ (atW left s ((2 * j + 1 : Nat) : Int)) = _
      rw [atW_ptr]
      rfl
    rw [e1] at i2 ⊢
    by_cases hp : ptrN s j ≠ 0
    · rw [if_pos hp] at i2 ⊢
      have i3 := (next_inv (left := left) (s := s) i2 rfl).1
      rw [endOf_next i2 rfl]
      have e2 : nextR left s ⟨key, slots, j, ah, ptrN s j, lo + 2, 0, false, false, 7⟩ = ⟨key, slots, j, aheadN left s j, ptrN s j, lo + 3, 0, false, false, 8⟩ := by
        show giveR _ (atW left s (2 * (j : Int) - 1)) = _
        rw [atW_ahead]
        rfl
      rw [e2] at i3 ⊢
      have i4 := (next_inv (left := left) (s := s) i3 rfl).1
      rw [endOf_next i3 rfl]
      have e3 : nextR left s ⟨key, slots, j, aheadN left s j, ptrN s j, lo + 3, 0, false, false, 8⟩ = if keyN s j = key ∧ ptrN s j ≠ aheadN left s j then ⟨key, slots, j, aheadN left s j, ptrN s j, lo + 4, ptrN s j, true, true, 8⟩ else if j = 0 then ⟨key, slots, j, aheadN left s j, ptrN s j, lo + 4, 0, false, true, 8⟩ else ⟨key, slots, j - 1, aheadN left s j, ptrN s j, lo + 4, 0, false, false, 5⟩ := by
        show giveR _ (atW left s ((2 * j : Nat) : Int)) = _
        rw [atW_key]
        rfl
      rw [e3] at i4 ⊢
      by_cases hf : keyN s j = key ∧ ptrN s j ≠ aheadN left s j
      · rw [if_pos hf, endOf_dn rfl]
        exact .inl ⟨hf.1, hp, hf.2, rfl, rfl⟩
      · have hf' : ¬ (keyN s j = key ∧ ptrN s j ≠ 0 ∧ ptrN s j ≠ aheadN left s j) := fun e => hf ⟨e.1, e.2.2⟩
        rw [if_neg hf] at i4 ⊢
        by_cases hz : j = 0
        · rw [if_pos hz, endOf_dn rfl]
          exact .inr (.inl ⟨hf', hz, rfl, rfl⟩)
        · rw [if_neg hz] at i4 ⊢
          exact .inr (.inr ⟨hf', hz, _, _, _, i4, rfl⟩)
    · have hf' : ¬ (keyN s j = key ∧ ptrN s j ≠ 0 ∧ ptrN s j ≠ aheadN left s j) := fun e => hp e.2.1
      rw [if_neg hp] at i2 ⊢
      by_cases hz : j = 0
      · rw [if_pos hz, endOf_dn rfl]
        exact .inr (.inl ⟨hf', hz, rfl, rfl⟩)
      · rw [if_neg hz] at i2 ⊢
        exact .inr (.inr ⟨hf', hz, _, _, _, i2, rfl⟩)
  · have hf' : ¬ (keyN s j = key ∧ ptrN s j ≠ 0 ∧ ptrN s j ≠ aheadN left s j) := fun e => hk e.1
    rw [if_neg hk] at i1 ⊢
    by_cases hz : j = 0
    · rw [if_pos hz, endOf_dn rfl]
      exact .inr (.inl ⟨hf', hz, rfl, rfl⟩)
    · rw [if_neg hz] at i1 ⊢
      exact .inr (.inr ⟨hf', hz, _, _, _, i1, rfl⟩)
/-- What the key's pair has. -/
def pairV (l : List Pr) (key : Nat) : Nat × Bool := match l.find? (fun x => x.1 == key) with
  | some x => (x.2, true)
  | none => (0, false)
theorem pairV_T {m key j : Nat} (hs : Stl left s m) (hj : j < m) (hk : keyN s j = key) : pairV (pairP left s) key = (ptrN s j, true) := by
  unfold pairV
  have : (pairP left s).find? (fun x => x.1 == key) = some (keyN s j, ptrN s j) := by
    rw [hs.pairP, List.find?_eq_some_iff_append]
    refine ⟨by simp [hk], (List.range j).map (prA s), ((List.range m).drop (j + 1)).map (prA s), ?_, ?_⟩
    · have e : List.range m = List.range j ++ j :: (List.range m).drop (j + 1) := by
        have h1 : List.range j = (List.range m).take j := by rw [List.take_range, Nat.min_eq_left (by omega)]
        rw [h1]
        have h2 : j = (List.range m)[j]'(by simpa using hj) := by simp
        conv => rhs; arg 2; arg 1; rw [h2]
        rw [List.getElem_cons_drop, List.take_append_drop]
      conv => lhs; rw [e]
      simp only [List.map_append, List.map_cons]
      rfl
    · intro x hx
      obtain ⟨i, hi, rfl⟩ := List.mem_map.1 hx
      have hi' : i < j := List.mem_range.1 hi
      have := hs.rise i j hi' hj
      simp only [prA, Bool.not_eq_eq_eq_not, Bool.not_true, beq_eq_false_iff_ne]
      omega
  rw [this]
theorem pairV_F {m key : Nat} (hs : Stl left s m) (h : ∀ j, j < m → keyN s j ≠ key) : pairV (pairP left s) key = (0, false) := by
  unfold pairV
  have : (pairP left s).find? (fun x => x.1 == key) = none := by
    rw [hs.pairP, List.find?_eq_none]
    intro x hx
    obtain ⟨i, hi, rfl⟩ := List.mem_map.1 hx
    simpa [prA] using h i (List.mem_range.1 hi)
  rw [this]
theorem up_settled {m key slots : Nat} (hs : Stl left s m) (hsl : slots = s.length / 2) : ∀ (d j ah pt lo : Nat), m - j = d → j ≤ m → (∀ i, i < j → keyN s i ≠ key) → InvR ⟨key, slots, j, ah, pt, lo, 0, false, false, 0⟩ →
    ((endOf left s ⟨key, slots, j, ah, pt, lo, 0, false, false, 0⟩).found, (endOf left s ⟨key, slots, j, ah, pt, lo, 0, false, false, 0⟩).is) = pairV (pairP left s) key := by
  intro d
  induction d with
  | zero =>
    intro j ah pt lo hd hj hn hI
    obtain rfl : j = m := by omega
    have hz := hs.z j (Nat.le_refl _) hs.lt
    rw [pairV_F hs hn]
    rcases up_slot (left := left) (s := s) hI with ⟨_, h, _⟩ | ⟨_, _, h1, h2⟩ | ⟨_, h, _⟩
    · exact absurd hz h
    · rw [h1, h2]
    · exact absurd hz h
  | succ d ih =>
    intro j ah pt lo hd hj hn hI
    have hjm : j < m := by omega
    have hne := hs.ne j hjm
    have hah := hs.aheadNe hjm
    have hlt := hs.lt
    rcases up_slot (left := left) (s := s) hI with ⟨h0, _, _, h1, h2⟩ | ⟨_, h, h1, h2⟩ | ⟨h0, _, _, ah', pt', lo', hI', he⟩
    · rw [h1, h2, pairV_T hs hjm h0]
    · rcases h with h | h
      · exact absurd h hne
      · omega
    · rw [he]
      exact ih (j + 1) ah' pt' lo' (by omega) (by omega) (fun i hi => by
        rcases Nat.lt_or_ge i j with h | h
        · exact hn i h
        · obtain rfl : i = j := by omega
          exact fun e => h0 ⟨e, hne, hah⟩) hI'
theorem dn_settled {m key slots : Nat} (hs : Stl left s m) (hsl : slots = s.length / 2) : ∀ (j ah pt lo : Nat), j < slots → (∀ i, j < i → i < m → keyN s i ≠ key) → InvR ⟨key, slots, j, ah, pt, lo, 0, false, false, 5⟩ →
    ((endOf left s ⟨key, slots, j, ah, pt, lo, 0, false, false, 5⟩).found, (endOf left s ⟨key, slots, j, ah, pt, lo, 0, false, false, 5⟩).is) = pairV (pairP left s) key := by
  intro j
  induction j with
  | zero =>
    intro ah pt lo hj hn hI
    rcases dn_slot (left := left) (s := s) hI with ⟨h0, h3, _, h1, h2⟩ | ⟨h0, _, h1, h2⟩ | ⟨_, h, _⟩
    · have hjm : 0 < m := Nat.lt_of_not_le fun h => h3 (hs.z 0 h (by omega))
      rw [h1, h2, pairV_T hs hjm h0]
    · rw [h1, h2, pairV_F hs (fun i hi => by
        rcases Nat.eq_zero_or_pos i with rfl | h
        · exact fun e => h0 ⟨e, hs.ne 0 hi, hs.aheadNe hi⟩
        · exact hn i h hi)]
    · exact absurd rfl h
  | succ j ih =>
    intro ah pt lo hj hn hI
    rcases dn_slot (left := left) (s := s) hI with ⟨h0, h3, _, h1, h2⟩ | ⟨_, h, _⟩ | ⟨h0, _, ah', pt', lo', hI', he⟩
    · have hjm : j + 1 < m := Nat.lt_of_not_le fun h => h3 (hs.z (j + 1) h (by omega))
      rw [h1, h2, pairV_T hs hjm h0]
    · cases h
    · rw [he]
      exact ih ah' pt' lo' (by omega) (fun i hi him => by
        rcases Nat.lt_or_ge (j + 1) i with h | h
        · exact hn i h him
        · obtain rfl : i = j + 1 := by omega
          exact fun e => h0 ⟨e, hs.ne _ him, hs.aheadNe him⟩) hI'
theorem look_settled {m key : Nat} (up : Bool) (hs : Stl left s m) (hr : rowOk left s.length) : ((lookR up left s key).found, (lookR up left s key).is) = pairV (pairP left s) key := by
  obtain ⟨r1, r2, r3, r4⟩ := hr
  have hi := (new_inv (up := up) (slots := s.length / 2) (key := key) (by omega) (by omega)).1
  cases up
  · exact dn_settled hs rfl (s.length / 2 - 1) 0 0 0 (by omega) (fun i h1 h2 => by have := hs.lt; omega) hi
  · exact up_settled hs rfl _ 0 0 0 0 rfl (Nat.zero_le _) (fun i h => absurd h (Nat.not_lt_zero _)) hi
end
end Go.Proofs.Ytloflmkolnediaa

/- scan: a reader beside a writer: what it knows. -/
namespace Go.Proofs.Ytloflmkolnediaa
set_option linter.unusedVariables false
set_option linter.unusedSimpArgs false
open Go.RowKit Go.Shelf
set_option maxRecDepth 100000
set_option maxHeartbeats 4000000
/-- What a reader that goes up hangs on: K, P, A are a slot's key, pointer, and the one ahead, behind so many stores; what is found is good; where a pair that stays is hid. -/
structure HistU (slots key : Nat) (K P A : Nat → Nat → Nat) (good : Nat → Prop) (Hid : Nat → Nat → Prop) : Prop where
  mono : ∀ j t t', Hid j t → t ≤ t' → Hid j t'
  f1 : ∀ j t1 t2 t3 t4, j < slots → t1 ≤ t2 → t2 ≤ t3 → t3 ≤ t4 → K j t1 = key → K j t4 = key → P j t3 ≠ 0 → P j t3 ≠ A j t2 → good (P j t3)
  n1 : ∀ j t1 t3, j < slots → t1 ≤ t3 → Hid j t1 → K j t1 ≠ key → P j t3 ≠ 0 ∧ j + 1 ≠ slots ∧ Hid (j + 1) t3
  n2 : ∀ j t1 t2 t3 t4, j < slots → t1 ≤ t2 → t2 ≤ t3 → t3 ≤ t4 → Hid j t1 → K j t1 = key → ¬ (K j t4 = key ∧ P j t3 ≠ 0 ∧ P j t3 ≠ A j t2) → P j t3 ≠ 0 ∧ j + 1 ≠ slots ∧ Hid (j + 1) t4
structure HistD (slots key : Nat) (K P A : Nat → Nat → Nat) (good : Nat → Prop) (Hid : Nat → Nat → Prop) : Prop where
  mono : ∀ j t t', Hid j t → t ≤ t' → Hid j t'
  f1 : ∀ j t1 t2 t3 t4, j < slots → t1 ≤ t2 → t2 ≤ t3 → t3 ≤ t4 → K j t1 = key → K j t4 = key → P j t2 ≠ 0 → P j t2 ≠ A j t3 → good (P j t2)
  n1 : ∀ j t1, j < slots → Hid j t1 → K j t1 ≠ key → j ≠ 0 ∧ Hid (j - 1) t1
  n2 : ∀ j t1 t2, j < slots → t1 ≤ t2 → Hid j t1 → K j t1 = key → P j t2 = 0 → j ≠ 0 ∧ Hid (j - 1) t2
  n3 : ∀ j t1 t2 t3 t4, j < slots → t1 ≤ t2 → t2 ≤ t3 → t3 ≤ t4 → Hid j t1 → K j t1 = key → ¬ (K j t4 = key ∧ P j t2 ≠ A j t3) → j ≠ 0 ∧ Hid (j - 1) t4
section
variable {slots key : Nat} {K P A : Nat → Nat → Nat} {good : Nat → Prop} {Hid : Nat → Nat → Prop} {must : Prop}
/-- What a reader knows behind c stores. -/
def InvU (slots key : Nat) (K P A : Nat → Nat → Nat) (good : Nat → Prop) (Hid : Nat → Nat → Prop) (must : Prop) (r : Rd) (c : Nat) : Prop :=
  r.key = key ∧ r.slots = slots ∧ if r.dn then (r.is = true → good r.found) ∧ (r.is = false → r.found = 0 ∧ ¬ must) else match r.k with
  | 0 => ∃ t, t ≤ c ∧ (must → Hid r.slot t)
  | 1 => ∃ t1, t1 ≤ c ∧ (must → Hid r.slot t1) ∧ K r.slot t1 = key
  | 2 => ∃ t1 t2, t1 ≤ t2 ∧ t2 ≤ c ∧ (must → Hid r.slot t1) ∧ K r.slot t1 = key ∧ r.ahead = A r.slot t2
  | 3 => ∃ t1 t2 t3, t1 ≤ t2 ∧ t2 ≤ t3 ∧ t3 ≤ c ∧ (must → Hid r.slot t1) ∧ K r.slot t1 = key ∧ r.ahead = A r.slot t2 ∧ r.ptr = P r.slot t3
  | 4 => ∃ t1, t1 ≤ c ∧ (must → Hid r.slot t1) ∧ K r.slot t1 ≠ key
  | _ => False
def InvD (slots key : Nat) (K P A : Nat → Nat → Nat) (good : Nat → Prop) (Hid : Nat → Nat → Prop) (must : Prop) (r : Rd) (c : Nat) : Prop :=
  r.key = key ∧ r.slots = slots ∧ if r.dn then (r.is = true → good r.found) ∧ (r.is = false → r.found = 0 ∧ ¬ must) else match r.k with
  | 5 => ∃ t, t ≤ c ∧ (must → Hid r.slot t)
  | 6 => ∃ t1, t1 ≤ c ∧ (must → Hid r.slot t1) ∧ K r.slot t1 = key
  | 7 => ∃ t1 t2, t1 ≤ t2 ∧ t2 ≤ c ∧ (must → Hid r.slot t1) ∧ K r.slot t1 = key ∧ r.ptr = P r.slot t2 ∧ r.ptr ≠ 0
  | 8 => ∃ t1 t2 t3, t1 ≤ t2 ∧ t2 ≤ t3 ∧ t3 ≤ c ∧ (must → Hid r.slot t1) ∧ K r.slot t1 = key ∧ r.ptr = P r.slot t2 ∧ r.ptr ≠ 0 ∧ r.ahead = A r.slot t3
  | _ => False
theorem InvU.later {r : Rd} {c c' : Nat} (h : InvU slots key K P A good Hid must r c) (hc : c ≤ c') : InvU slots key K P A good Hid must r c' := by
  obtain ⟨key, slots, slot, ahead, ptr, loads, found, is, dn, k⟩ := r
  obtain ⟨h1, h2, h⟩ := h
  refine ⟨h1, h2, ?_⟩
  cases dn
  · rcases k with _ | _ | _ | _ | _ | k
    · obtain ⟨t, a, b⟩ := h; exact ⟨t, by omega, b⟩
    · obtain ⟨t, a, b⟩ := h; exact ⟨t, by omega, b⟩
    · obtain ⟨t, t2, a, b, d⟩ := h; exact ⟨t, t2, a, by omega, d⟩
    · obtain ⟨t, t2, t3, a, b, d, e⟩ := h; exact ⟨t, t2, t3, a, b, by omega, e⟩
    · obtain ⟨t, a, b⟩ := h; exact ⟨t, by omega, b⟩
    · exact h.elim
  · exact h
theorem InvD.later {r : Rd} {c c' : Nat} (h : InvD slots key K P A good Hid must r c) (hc : c ≤ c') : InvD slots key K P A good Hid must r c' := by
  obtain ⟨key, slots, slot, ahead, ptr, loads, found, is, dn, k⟩ := r
  obtain ⟨h1, h2, h⟩ := h
  refine ⟨h1, h2, ?_⟩
  cases dn
  · rcases k with _ | _ | _ | _ | _ | _ | _ | _ | _ | k
    · exact h.elim
    · exact h.elim
    · exact h.elim
    · exact h.elim
    · exact h.elim
    · obtain ⟨t, a, b⟩ := h; exact ⟨t, by omega, b⟩
    · obtain ⟨t, a, b⟩ := h; exact ⟨t, by omega, b⟩
    · obtain ⟨t, t2, a, b, d⟩ := h; exact ⟨t, t2, a, by omega, d⟩
    · obtain ⟨t, t2, t3, a, b, d, e⟩ := h; exact ⟨t, t2, t3, a, b, by omega, e⟩
    · exact h.elim
  · exact h
theorem InvU.fin {r : Rd} {c : Nat} (h1 : r.key = key) (h2 : r.slots = slots) (hd : r.dn = true) (h3 : r.is = true → good r.found) (h4 : r.is = false → r.found = 0 ∧ ¬ must) : InvU slots key K P A good Hid must r c := ⟨h1, h2, by rw [if_pos hd]; exact ⟨h3, h4⟩⟩
theorem InvD.fin {r : Rd} {c : Nat} (h1 : r.key = key) (h2 : r.slots = slots) (hd : r.dn = true) (h3 : r.is = true → good r.found) (h4 : r.is = false → r.found = 0 ∧ ¬ must) : InvD slots key K P A good Hid must r c := ⟨h1, h2, by rw [if_pos hd]; exact ⟨h3, h4⟩⟩
/-- A load. -/
theorem InvU.step {r : Rd} {c v : Nat} (H : HistU slots key K P A good Hid) (h : InvU slots key K P A good Hid must r c) (hi : InvR r) (hd : r.dn = false) (hv : v = (match r.k with | 0 => K r.slot c | 1 => A r.slot c | 2 => P r.slot c | 3 => K r.slot c | _ => P r.slot c)) : InvU slots key K P A good Hid must (giveR r v) c := by
  obtain ⟨ky, sl, slot, ahead, ptr, loads, found, is, dn, k⟩ := r
  simp only at hd
  subst hd
  obtain ⟨rfl, rfl, h⟩ := h
  have hs : slot < sl := hi.slot
  rcases k with _ | _ | _ | _ | _ | k
  · obtain ⟨t, a, b⟩ := h
    have hb := fun m => H.mono _ _ _ (b m) a
    simp only at hv
    by_cases e : v = ky
    · rw [show giveR ⟨ky, sl, slot, ahead, ptr, loads, found, is, false, 0⟩ v = ⟨ky, sl, slot, ahead, ptr, loads + 1, found, is, false, 1⟩ from if_pos e]
      exact ⟨rfl, rfl, c, Nat.le_refl _, hb, hv.symm.trans e⟩
    · rw [show giveR ⟨ky, sl, slot, ahead, ptr, loads, found, is, false, 0⟩ v = ⟨ky, sl, slot, ahead, ptr, loads + 1, found, is, false, 4⟩ from if_neg e]
      exact ⟨rfl, rfl, c, Nat.le_refl _, hb, fun e' => e (hv.trans e')⟩
  · obtain ⟨t, a, b, d⟩ := h
    exact ⟨rfl, rfl, t, c, a, Nat.le_refl _, b, d, hv⟩
  · obtain ⟨t, t2, a, b, d, e, f⟩ := h
    exact ⟨rfl, rfl, t, t2, c, a, b, Nat.le_refl _, d, e, f, hv⟩
  · obtain ⟨t1, t2, t3, a, b, d, hb, e, f, g⟩ := h
    simp only at hv f g
    by_cases hf : v = ky ∧ ptr ≠ 0 ∧ ptr ≠ ahead
    · rw [show giveR ⟨ky, sl, slot, ahead, ptr, loads, found, is, false, 3⟩ v = ⟨ky, sl, slot, ahead, ptr, loads + 1, ptr, true, true, 3⟩ from if_pos hf]
      refine InvU.fin rfl rfl rfl (fun _ => ?_) (fun h => by cases h)
      show good ptr
      rw [g]
      exact H.f1 slot t1 t2 t3 c hs a b d e (hv.symm.trans hf.1) (by rw [← g]; exact hf.2.1) (by rw [← g, ← f]; exact hf.2.2)
    · have hn := fun m => H.n2 slot t1 t2 t3 c hs a b d (hb m) e (fun h => hf ⟨hv.trans h.1, by rw [g]; exact h.2.1, by rw [g, f]; exact h.2.2⟩)
      rw [show giveR ⟨ky, sl, slot, ahead, ptr, loads, found, is, false, 3⟩ v = upOnR ⟨ky, sl, slot, ahead, ptr, loads + 1, found, is, false, 3⟩ ptr from if_neg hf]
      by_cases hz : ptr = 0 ∨ slot + 1 = sl
      · rw [show upOnR ⟨ky, sl, slot, ahead, ptr, loads + 1, found, is, false, 3⟩ ptr = ⟨ky, sl, slot, ahead, ptr, loads + 1, 0, false, true, 3⟩ from if_pos hz]
        refine InvU.fin rfl rfl rfl (fun h => by cases h) (fun _ => ⟨rfl, fun m => ?_⟩)
        obtain ⟨y1, y2, _⟩ := hn m
        rcases hz with hz | hz
        · exact y1 (by rw [← g]; exact hz)
        · exact y2 hz
      · rw [show upOnR ⟨ky, sl, slot, ahead, ptr, loads + 1, found, is, false, 3⟩ ptr = ⟨ky, sl, slot + 1, ahead, ptr, loads + 1, found, is, false, 0⟩ from if_neg hz]
        exact ⟨rfl, rfl, c, Nat.le_refl _, fun m => (hn m).2.2⟩
  · obtain ⟨t1, a, hb, e⟩ := h
    simp only at hv
    have hn := fun m => H.n1 slot t1 c hs a (hb m) e
    rw [show giveR ⟨ky, sl, slot, ahead, ptr, loads, found, is, false, 4⟩ v = upOnR ⟨ky, sl, slot, ahead, ptr, loads + 1, found, is, false, 4⟩ v from rfl]
    by_cases hz : v = 0 ∨ slot + 1 = sl
    · rw [show upOnR ⟨ky, sl, slot, ahead, ptr, loads + 1, found, is, false, 4⟩ v = ⟨ky, sl, slot, ahead, ptr, loads + 1, 0, false, true, 4⟩ from if_pos hz]
      refine InvU.fin rfl rfl rfl (fun h => by cases h) (fun _ => ⟨rfl, fun m => ?_⟩)
      obtain ⟨y1, y2, _⟩ := hn m
      rcases hz with hz | hz
      · exact y1 (by rw [← hv]; exact hz)
      · exact y2 hz
    · rw [show upOnR ⟨ky, sl, slot, ahead, ptr, loads + 1, found, is, false, 4⟩ v = ⟨ky, sl, slot + 1, ahead, ptr, loads + 1, found, is, false, 0⟩ from if_neg hz]
      exact ⟨rfl, rfl, c, Nat.le_refl _, fun m => (hn m).2.2⟩
  · exact h.elim
theorem InvD.step {r : Rd} {c v : Nat} (H : HistD slots key K P A good Hid) (h : InvD slots key K P A good Hid must r c) (hi : InvR r) (hd : r.dn = false) (hv : v = (match r.k with | 5 => K r.slot c | 6 => P r.slot c | 7 => A r.slot c | _ => K r.slot c)) : InvD slots key K P A good Hid must (giveR r v) c := by
  obtain ⟨ky, sl, slot, ahead, ptr, loads, found, is, dn, k⟩ := r
  simp only at hd
  subst hd
  obtain ⟨rfl, rfl, h⟩ := h
  have hs : slot < sl := hi.slot
  have on : ∀ (pt lo kk : Nat) (hn : must → slot ≠ 0 ∧ Hid (slot - 1) c), InvD sl ky K P A good Hid must (downOnR ⟨ky, sl, slot, ahead, pt, lo, found, is, false, kk⟩) c := fun pt lo kk hn => by
    by_cases hz : slot = 0
    · rw [show downOnR ⟨ky, sl, slot, ahead, pt, lo, found, is, false, kk⟩ = ⟨ky, sl, slot, ahead, pt, lo, 0, false, true, kk⟩ from if_pos hz]
      exact InvD.fin rfl rfl rfl (fun h => by cases h) (fun _ => ⟨rfl, fun m => (hn m).1 hz⟩)
    · rw [show downOnR ⟨ky, sl, slot, ahead, pt, lo, found, is, false, kk⟩ = ⟨ky, sl, slot - 1, ahead, pt, lo, found, is, false, 5⟩ from if_neg hz]
      exact ⟨rfl, rfl, c, Nat.le_refl _, fun m => (hn m).2⟩
  rcases k with _ | _ | _ | _ | _ | _ | _ | _ | _ | k
  · exact h.elim
  · exact h.elim
  · exact h.elim
  · exact h.elim
  · exact h.elim
  · obtain ⟨t, a, b⟩ := h
    have hb := fun m => H.mono _ _ _ (b m) a
    simp only at hv
    by_cases e : v = ky
    · rw [show giveR ⟨ky, sl, slot, ahead, ptr, loads, found, is, false, 5⟩ v = ⟨ky, sl, slot, ahead, ptr, loads + 1, found, is, false, 6⟩ from if_pos e]
      exact ⟨rfl, rfl, c, Nat.le_refl _, hb, hv.symm.trans e⟩
    · rw [show giveR ⟨ky, sl, slot, ahead, ptr, loads, found, is, false, 5⟩ v = downOnR ⟨ky, sl, slot, ahead, ptr, loads + 1, found, is, false, 5⟩ from if_neg e]
      exact on _ _ _ fun m => H.n1 slot c hs (hb m) fun e' => e (hv.trans e')
  · obtain ⟨t, a, b, d⟩ := h
    simp only at hv
    by_cases e : v = 0
    · rw [show giveR ⟨ky, sl, slot, ahead, ptr, loads, found, is, false, 6⟩ v = downOnR ⟨ky, sl, slot, ahead, v, loads + 1, found, is, false, 6⟩ from if_neg fun h => h e]
      exact on _ _ _ fun m => H.n2 slot t c hs a (b m) d (hv.symm.trans e)
    · rw [show giveR ⟨ky, sl, slot, ahead, ptr, loads, found, is, false, 6⟩ v = ⟨ky, sl, slot, ahead, v, loads + 1, found, is, false, 7⟩ from if_pos e]
      exact ⟨rfl, rfl, t, c, a, Nat.le_refl _, b, d, hv, e⟩
  · obtain ⟨t, t2, a, b, d, e, f, g⟩ := h
    exact ⟨rfl, rfl, t, t2, c, a, b, Nat.le_refl _, d, e, f, g, hv⟩
  · obtain ⟨t1, t2, t3, a, b, d, hb, e, f, g, h⟩ := h
    simp only at hv f g h
    by_cases hf : v = ky ∧ ptr ≠ ahead
    · rw [show giveR ⟨ky, sl, slot, ahead, ptr, loads, found, is, false, 8⟩ v = ⟨ky, sl, slot, ahead, ptr, loads + 1, ptr, true, true, 8⟩ from if_pos hf]
      refine InvD.fin rfl rfl rfl (fun _ => ?_) (fun h => by cases h)
      show good ptr
      rw [f]
      exact H.f1 slot t1 t2 t3 c hs a b d e (hv.symm.trans hf.1) (by rw [← f]; exact g) (by rw [← f, ← h]; exact hf.2)
    · rw [show giveR ⟨ky, sl, slot, ahead, ptr, loads, found, is, false, 8⟩ v = downOnR ⟨ky, sl, slot, ahead, ptr, loads + 1, found, is, false, 8⟩ from if_neg hf]
      exact on _ _ _ fun m => H.n3 slot t1 t2 t3 c hs a b d (hb m) e fun y => hf ⟨hv.trans y.1, by rw [f, h]; exact y.2⟩
  · exact h.elim
end
end Go.Proofs.Ytloflmkolnediaa

/- scan: a reader that goes down beside Take. -/
namespace Go.Proofs.Ytloflmkolnediaa
set_option linter.unusedVariables false
set_option linter.unusedSimpArgs false
open Go.RowKit Go.Shelf
set_option maxRecDepth 100000
set_option maxHeartbeats 4000000
/-- The pointer ahead of slot j. -/
def ahP (left : Nat) (P : Nat → Nat → Nat) (j t : Nat) : Nat := if j = 0 then left else P (j - 1) t
section
variable {left : Nat} {s : List Nat} {m i : Nat}
def tkK (s : List Nat) (i m j t : Nat) : Nat := if i ≤ j ∧ j + 1 < m ∧ 2 * (j - i) + 2 ≤ t then keyN s (j + 1) else keyN s j
def tkP (left : Nat) (s : List Nat) (i m j t : Nat) : Nat := if j + 1 = m ∧ 2 * (m - i) ≤ t then 0 else if i ≤ j ∧ j + 1 < m ∧ 2 * (j - i) + 3 ≤ t then ptrN s (j + 1) else if j = i ∧ 1 ≤ t then aheadN left s i else ptrN s j
/-- A pair of the row. -/
def inRow (s : List Nat) (m key p : Nat) : Prop := ∃ x, x < m ∧ keyN s x = key ∧ ptrN s x = p
def tkH (s : List Nat) (i m key j t : Nat) : Prop := ∃ x, x < m ∧ x ≠ i ∧ keyN s x = key ∧ (x ≤ j ∨ (x = j + 1 ∧ i < x ∧ 2 * (x - i) + 1 ≤ t))
theorem Stl.keyI {x y : Nat} (h : Stl left s m) (hx : x < m) (hy : y < m) (e : keyN s x = keyN s y) : x = y := by
  rcases Nat.lt_trichotomy x y with h1 | h1 | h1
  · have := h.rise x y h1 hy; omega
  · exact h1
  · have := h.rise y x h1 hx; omega
theorem Stl.ptrI {x y : Nat} (h : Stl left s m) (hx : x < m) (hy : y < m) (e : ptrN s x = ptrN s y) : x = y := by
  rcases Nat.lt_trichotomy x y with h1 | h1 | h1
  · exact absurd e (h.dis x y h1 hy)
  · exact h1
  · exact absurd e.symm (h.dis y x h1 hx)
/-- No pair's pointer is the one ahead of an earlier, or the same slot. -/
theorem Stl.ahI {x y : Nat} (h : Stl left s m) (hx : x < m) (hy : y ≤ x) : ptrN s x ≠ aheadN left s y := by
  unfold aheadN
  split
  · exact h.nl x hx
  · intro e
    have := h.ptrI hx (by omega) e
    omega
theorem tk_hist {key slots : Nat} (hs : Stl left s m) (hl : left ≠ 0) (hsl : slots = s.length / 2) (hi : i < m) : HistD slots key (tkK s i m) (tkP left s i m) (ahP left (tkP left s i m)) (inRow s m key) (tkH s i m key) where
  mono := fun j t t' ⟨x, h1, h2, h3, h4⟩ ht => ⟨x, h1, h2, h3, h4.imp_right fun h => ⟨h.1, h.2.1, by omega⟩⟩
  f1 := fun j t1 t2 t3 t4 hj h12 h23 h34 k1 k4 p0 pa => by
    have hlt := hs.lt
    by_cases hm : j < m
    case neg =>
      refine absurd ?_ p0
      unfold tkP
      rw [if_neg (by omega), if_neg (by omega), if_neg (by omega)]
      exact hs.z j (by omega) (by omega)
    obtain ⟨v, hv⟩ : ∃ v, tkP left s i m j t2 = v := ⟨_, rfl⟩
    rw [hv] at p0 pa ⊢
    unfold tkP at hv
    by_cases c1 : j + 1 = m ∧ 2 * (m - i) ≤ t2
    · rw [if_pos c1] at hv; exact absurd hv.symm p0
    rw [if_neg c1] at hv
    by_cases c2 : i ≤ j ∧ j + 1 < m ∧ 2 * (j - i) + 3 ≤ t2
    · rw [if_pos c2] at hv
      refine ⟨j + 1, c2.2.1, ?_, hv⟩
      rw [← k4]
      unfold tkK
      rw [if_pos (by omega)]
    rw [if_neg c2] at hv
    by_cases c3 : j = i ∧ 1 ≤ t2
    · rw [if_pos c3] at hv
      refine absurd ?_ pa
      obtain ⟨rfl, _⟩ := c3
      rw [← hv]
      unfold ahP aheadN
      by_cases h0 : j = 0
      · rw [if_pos h0, if_pos h0]
      · rw [if_neg h0, if_neg h0]
        unfold tkP
        rw [if_neg (by omega), if_neg (by omega), if_neg (by omega)]
    rw [if_neg c3] at hv
    by_cases c4 : i ≤ j ∧ j + 1 < m ∧ 2 * (j - i) + 2 ≤ t1
    · refine absurd ?_ pa
      rw [← hv]
      unfold ahP
      rw [if_neg (by omega)]
      unfold tkP
      rw [if_neg (by omega), if_pos (by omega), show j - 1 + 1 = j by omega]
    · refine ⟨j, hm, ?_, hv⟩
      rw [← k1]
      unfold tkK
      rw [if_neg c4]
  n1 := fun j t1 hj ⟨x, h1, h2, h3, h4⟩ hk => by
    rcases h4 with h4 | ⟨h4, h5, h6⟩
    · by_cases e : x = j
      · subst e
        have c : i ≤ x ∧ x + 1 < m ∧ 2 * (x - i) + 2 ≤ t1 := Decidable.byContradiction fun c => hk (by unfold tkK; rw [if_neg c]; exact h3)
        exact ⟨by omega, x, h1, h2, h3, .inr (by omega)⟩
      · exact ⟨by omega, x, h1, h2, h3, .inl (by omega)⟩
    · refine absurd ?_ hk
      unfold tkK
      rw [if_pos (by omega), ← h4]
      exact h3
  n2 := fun j t1 t2 hj h12 ⟨x, h1, h2, h3, h4⟩ hk hp => by
    rcases h4 with h4 | ⟨h4, h5, h6⟩
    · by_cases e : x = j
      · subst e
        have c : x + 1 = m ∧ 2 * (m - i) ≤ t2 := Decidable.byContradiction fun c => by
          unfold tkP at hp
          rw [if_neg c] at hp
          split at hp
          · rename_i c'
            exact hs.ne _ c'.2.1 hp
          · rw [if_neg (by omega)] at hp
            exact hs.ne _ h1 hp
        exact ⟨by omega, x, h1, h2, h3, .inr (by omega)⟩
      · exact ⟨by omega, x, h1, h2, h3, .inl (by omega)⟩
    · exfalso
      unfold tkP at hp
      rw [if_neg (by omega), if_pos (by omega)] at hp
      exact hs.ne _ (by omega) hp
  n3 := fun j t1 t2 t3 t4 hj h12 h23 h34 ⟨x, h1, h2, h3, h4⟩ hk hn => by
    have hlt := hs.lt
    rcases h4 with h4 | ⟨h4, h5, h6⟩
    · by_cases e : x = j
      · subst e
        by_cases c : i < x ∧ 2 * (x - i) + 1 ≤ t4
        · exact ⟨by omega, x, h1, h2, h3, .inr (by omega)⟩
        · exfalso
          refine hn ⟨?_, ?_⟩
          · unfold tkK
            rw [if_neg (by omega)]
            exact h3
          · have e1 : tkP left s i m x t2 = ptrN s x := by
              unfold tkP
              rw [if_neg (by omega), if_neg (by omega), if_neg (by omega)]
            rw [e1]
            unfold ahP
            by_cases h0 : x = 0
            · rw [if_pos h0]; exact hs.nl x h1
            rw [if_neg h0]
            unfold tkP
            rw [if_neg (by omega), if_neg (by omega)]
            split
            · rename_i c'
              exact hs.ahI h1 (by omega)
            · intro e2
              have := hs.ptrI h1 (by omega) e2
              omega
      · exact ⟨by omega, x, h1, h2, h3, .inl (by omega)⟩
    · exfalso
      refine hn ⟨?_, ?_⟩
      · unfold tkK
        rw [if_pos (by omega), ← h4]
        exact h3
      · have e1 : tkP left s i m j t2 = ptrN s x := by
          unfold tkP
          rw [if_neg (by omega), if_pos (by omega), h4]
        rw [e1]
        unfold ahP
        by_cases h0 : j = 0
        · rw [if_pos h0]; exact hs.nl x h1
        rw [if_neg h0]
        unfold tkP
        rw [if_neg (by omega)]
        split
        · rename_i c'
          intro e2
          have := hs.ptrI h1 (by omega) e2
          omega
        · rw [if_neg (by omega)]
          intro e2
          have := hs.ptrI h1 (by omega) e2
          omega
end
end Go.Proofs.Ytloflmkolnediaa
