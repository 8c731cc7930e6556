/- pmem: Copy. pmem: equal lines, equal lists; Same. pmem: the open lines, one by one. pmem: values of a list, one by one; collected. pmem: what a crash may keep. pmem: Crash. -/
import Derived.Test.YtajfffoaebjnlaaPa
import Derived.Test.YtajfffoaebjnlaaMapZ
import Derived.Test.YtajfffoaebjnlaaOwnZ
import Derived.Test.YtajfffoaebjnlaaRange
namespace Go.Proofs.Ytajfffoaebjnlaa
set_option linter.unusedVariables false
set_option linter.unusedSimpArgs false
open Go.RowKit Go.Shelf
set_option maxRecDepth 100000
set_option maxHeartbeats 4000000
theorem copy_any (w : World) (m gn gl qb N : Nat) {s : List Cl} (M : Mem w m gn gl qb N s) :
    Calls Try.prog 16 #[.pointer (some ⟨m, 0, none⟩)] w fun e w' => ∃ m' gn' gl' qb', e = .returned (.pointer (some ⟨m', 0, none⟩)) ∧ Mem w' m' gn' gl' qb' N s ∧ w.heap.size ≤ m' ∧ w.heap.size ≤ gn' ∧ w.heap.size ≤ gl' ∧ w.heap.size ≤ qb' ∧ Below w.heap.size w w' := by
  have q := Below.refl w.heap.size w
  have hr := M.row
  have h0 := M.pos
  have hN := M.le
  have hn := M.now
  have ha := M.last
  have hq := M.qs
  have hl := M.len
  obtain ⟨n1, n2, n3, n4, n5, n6⟩ := M.ne
  have lt := M.lts
  clear M
  have hqF : ∀ W, Below w.heap.size w W → MapK (.int .i64) iK lV W qb (nQ s) (qF s) := fun W b => hq.up b
  clear hq
  refine X.fn Try.func16 rfl (n := 45) rfl rfl ?_
  refine CC.seq ?_
  refine CC.region ?_
  refine LL.val (R.assign rfl rfl) rfl rfl rfl ?_
  refine LL.nilS ?_
  refine CC.seq ?_
  refine CC.seq ?_
  refine CC.region ?_
  refine LL.val (R.move rfl rfl) rfl rfl rfl ?_
  refine LL.call (R.call rfl rfl rfl) rfl rfl rfl (none_F _ _ (by first | assumption | omega) (by first | assumption | omega)) ?_
  rintro e W' ⟨rfl, rfl⟩
  refine ⟨_, rfl, ?_⟩
  refine LL.nilS ?_
  refine CC.no rfl ?_
  refine CC.skip ?_
  refine EE.thenN ?_
  refine CC.seq ?_
  refine CC.freeZ (fun W_ j => j < W_.heap.size ∧ (True)) (by kernel_rfl) (by kernel_rfl) (fun W23 b22 z24 => ?_)
  replace q := q.trans (b22.mono q.size)
  replace hr := hr.up b22
  replace hn := hn.up b22
  replace ha := ha.up b22
  have hok : Kept (fun j => j < W23.heap.size ∧ (True)) W23 W23 := Kept.refl _ _
  have fzhr := fzRow (K := fun j => j < W23.heap.size ∧ (True)) hr ⟨hr.lt, (by first | trivial | omega)⟩
  have fzhn := fzRow (K := fun j => j < W23.heap.size ∧ (True)) hn ⟨hn.lt, (by first | trivial | omega)⟩
  have fzha := fzRow (K := fun j => j < W23.heap.size ∧ (True)) ha ⟨ha.lt, (by first | trivial | omega)⟩
  refine AA.pure 0 rfl hok (by kernel_rfl) (fun w' b' => R.move rfl rfl) rfl rfl ?_
  refine AA.pure 1 rfl hok (by kernel_rfl) (fun w' b' => R.nil rfl rfl) rfl rfl ?_
  refine AA.pure 2 rfl hok (by kernel_rfl) (fun w' b' => R.field rfl rfl (I.fld rfl)) rfl rfl ?_
  refine AA.pure 3 rfl hok (by kernel_rfl) (fun w' b' => R.field rfl rfl (I.fld rfl)) rfl rfl ?_
  refine AA.pure 4 rfl hok (by kernel_rfl) (fun w' b' => R.load rfl rfl (I.ld1 rfl (RowL.cell (fzhr w' b') rfl))) rfl rfl ?_
  refine AA.pure 7 rfl hok (by kernel_rfl) (fun w' b' => R.move rfl rfl) rfl rfl ?_
  refine AA.pure 8 rfl hok (by kernel_rfl) (fun w' b' => R.nil rfl rfl) rfl rfl ?_
  refine AA.pure 9 rfl hok (by kernel_rfl) (fun w' b' => R.field rfl rfl (I.fld rfl)) rfl rfl ?_
  refine AA.pure 10 rfl hok (by kernel_rfl) (fun w' b' => R.load rfl rfl (I.ld1 rfl (RowL.cell (fzhr w' b') rfl))) rfl rfl ?_
  refine AA.pure 12 rfl hok (by kernel_rfl) (fun w' b' => R.move rfl rfl) rfl rfl ?_
  refine AA.pure 13 rfl hok (by kernel_rfl) (fun w' b' => R.nil rfl rfl) rfl rfl ?_
  refine AA.pure 14 rfl hok (by kernel_rfl) (fun w' b' => R.field rfl rfl (I.fld rfl)) rfl rfl ?_
  refine AA.pure 15 rfl hok (by kernel_rfl) (fun w' b' => R.load rfl rfl (I.ld1 rfl (RowL.cell (fzhr w' b') rfl))) rfl rfl ?_
  refine AA.one 5 (by kernel_rfl) ?_
  refine SR.call rfl (R.call rfl rfl rfl) rfl rfl (moved_any nowEnc _ _ _ _ (by first | assumption | omega) (by first | assumption | omega) (by first | assumption | omega)) ?_
  rintro e W35 ⟨g36, rfl, r37, l38, o39, b34⟩
  have zb34 := b34.size
  replace b22 := b22.trans (b34.mono b22.size)
  replace q := q.trans (b34.mono q.size)
  replace hr := hr.up b34
  replace hn := hn.up b34
  replace ha := ha.up b34
  replace hok := hok.trans (bkept b34 (fun j h => by have := h.1; have := hok.size; omega))
  have y40 := hok.size
  refine ⟨_, rfl, hok, ?_⟩
  refine AA.pure 6 rfl hok (by kernel_rfl) (fun w' b' => R.buildV rfl rfl (v := .agg #[Value.slice (some { block := g36, off := 0 }) N N]) (fun _ => by kernel_rfl)) rfl rfl ?_
  refine AA.one 11 (by kernel_rfl) ?_
  refine SR.call rfl (R.call rfl rfl rfl) rfl rfl (moved_any lastEnc _ _ _ _ (by first | assumption | omega) (by first | assumption | omega) (by first | assumption | omega)) ?_
  rintro e W54 ⟨g55, rfl, r56, l57, o58, b53⟩
  have zb53 := b53.size
  replace r37 := r37.up b53
  replace b34 := b34.trans (b53.mono b34.size)
  replace b22 := b22.trans (b53.mono b22.size)
  replace q := q.trans (b53.mono q.size)
  replace hr := hr.up b53
  replace hn := hn.up b53
  replace ha := ha.up b53
  replace hok := hok.trans (bkept b53 (fun j h => by have := h.1; have := hok.size; omega))
  have y59 := hok.size
  refine ⟨_, rfl, hok, ?_⟩
  refine AA.one 16 (by kernel_rfl) ?_
  (refine SR.val rfl (R.mlen rfl rfl (by rfl) (hqF _ q)) rfl rfl hok ?_)
  refine AA.one 17 (by kernel_rfl) ?_
  have l64 := r56.lt
  have l65 := r37.lt
  have l66 := hr.lt
  have l67 := hn.lt
  have l68 := ha.lt
  (refine ZR.makeMap rfl (R.makeMapH rfl rfl (by rfl)) rfl rfl ?_; intro W63 qb2 eqb mk zqb b60; replace mk := mk Nat Ln (.int .i64) iK lV)
  have zb60 := b60.size
  replace r56 := r56.up b60
  replace b53 := b53.trans (b60.mono b53.size)
  replace r37 := r37.up b60
  replace b34 := b34.trans (b60.mono b34.size)
  replace b22 := b22.trans (b60.mono b22.size)
  replace q := q.trans (b60.mono q.size)
  replace hr := hr.up b60
  replace hn := hn.up b60
  replace ha := ha.up b60
  replace hok := hok.trans (bkept b60 (fun j h => by have := h.1; have := hok.size; omega))
  have y69 := hok.size
  refine ⟨hok, ?_⟩
  refine AA.pure 18 rfl hok (by kernel_rfl) (fun w' b' => R.buildV rfl rfl (v := .agg #[Value.slice (some { block := g36, off := 0 }) N N, Value.slice (some { block := g55, off := 0 }) N N, Value.map (some qb2)]) (fun _ => by kernel_rfl)) rfl rfl ?_
  refine AA.one 19 (by kernel_rfl) ?_
  have l79 := r56.lt
  have l80 := r37.lt
  have l81 := hr.lt
  have l82 := hn.lt
  have l83 := ha.lt
  refine ZR.box [Value.slice (some { block := g36, off := 0 }) N N, Value.slice (some { block := g55, off := 0 }) N N, Value.map (some qb2)] rfl rfl rfl rfl rfl rfl ?_
  intro W85 g86 eg86 r87 z88 b84
  replace b60 := b60.trans (b84.mono b60.size)
  replace mk := mk.up b84
  replace r56 := r56.up b84
  replace b53 := b53.trans (b84.mono b53.size)
  replace r37 := r37.up b84
  replace b34 := b34.trans (b84.mono b34.size)
  replace b22 := b22.trans (b84.mono b22.size)
  replace q := q.trans (b84.mono q.size)
  replace hr := hr.up b84
  replace hn := hn.up b84
  replace ha := ha.up b84
  replace hok := hok.trans (bkept b84 (fun j h => by have := h.1; have := hok.size; omega))
  have y89 := hok.size
  refine ⟨hok, ?_⟩
  refine AA.pure 20 rfl hok (by kernel_rfl) (fun w' b' => R.assign rfl rfl) rfl rfl ?_
  refine AA.done rfl ?_
  clear fzhr fzhn fzha hok
  refine EE.thenN ?_
  refine CC.seq ?_
  refine CC.seq ?_
  refine CC.region ?_
  refine LL.val (R.move rfl rfl) rfl rfl rfl ?_
  refine LL.val (R.nil rfl rfl) rfl rfl rfl ?_
  refine LL.val (R.field rfl rfl (I.fld rfl)) rfl rfl rfl ?_
  refine LL.val (R.load rfl rfl (I.ld1 rfl (RowL.cell hr rfl))) rfl rfl rfl ?_
  obtain ⟨gn', gl', m', en, el, em⟩ : ∃ gn' gl' m', gn' = g36 ∧ gl' = g55 ∧ m' = g86 := ⟨_, _, _, rfl, rfl, rfl⟩
  have rm : RowL W85 m' 53 [.slice (some ⟨gn', 0, none⟩) N N, .slice (some ⟨gl', 0, none⟩) N N, .map (some qb2)] := by rw [en, el, em]; assumption
  have rn : RowL W85 gn' 79 (s.flatMap nowE) := by rw [en]; assumption
  have rl : RowL W85 gl' 79 (s.flatMap lastE) := by rw [el]; assumption
  have hb : w.heap.size ≤ gn' ∧ w.heap.size ≤ gl' ∧ w.heap.size ≤ m' ∧ w.heap.size ≤ qb2 ∧ gn' ≠ gl' ∧ gn' ≠ m' ∧ gn' ≠ qb2 ∧ gl' ≠ m' ∧ gl' ≠ qb2 ∧ m' ≠ qb2 := by omega
  have yq := q.size
  have sz : gn' < W85.heap.size ∧ gl' < W85.heap.size ∧ m' < W85.heap.size ∧ qb2 < W85.heap.size := by omega
  subst em
  have rg0 := hqF _ q
  have la5 := r56.lt
  have la6 := r37.lt
  have la7 := hr.lt
  have la8 := hn.lt
  have la9 := ha.lt
  have la10 := rm.lt
  have la11 := rn.lt
  have la12 := rl.lt
  have la13 := r87.lt
  (refine LL.mrange rfl rfl iKeys rfl rg0 rfl rfl ?_; clear rg0; intro Wa4 it eit rg ba1 zit)
  have zba1 := ba1.size
  replace b84 := b84.trans (ba1.mono b84.size)
  replace b60 := b60.trans (ba1.mono b60.size)
  replace mk := mk.up ba1
  replace r56 := r56.up ba1
  replace b53 := b53.trans (ba1.mono b53.size)
  replace r37 := r37.up ba1
  replace b34 := b34.trans (ba1.mono b34.size)
  replace b22 := b22.trans (ba1.mono b22.size)
  replace q := q.trans (ba1.mono q.size)
  replace hr := hr.up ba1
  replace hn := hn.up ba1
  replace ha := ha.up ba1
  replace rm := rm.up ba1
  replace rn := rn.up ba1
  replace rl := rl.up ba1
  replace r87 := r87.up ba1
  refine LL.nilS ?_
  refine CC.block ?_
  have yk := q.size
  refine CC.loop (α := (Nat → Option Ln) × Nat × (Nat → Prop) × Nat) (fun _ => [(3, .pointer (some ⟨m', 0, none⟩)), (32, .pointer (some ⟨it, 0, none⟩))]) (fun st W => Below w.heap.size w W ∧ it < W.heap.size ∧ RowL W m' 53 [.slice (some ⟨gn', 0, none⟩) N N, .slice (some ⟨gl', 0, none⟩) N N, .map (some qb2)] ∧ RowL W gn' 79 (s.flatMap nowE) ∧ RowL W gl' 79 (s.flatMap lastE) ∧
      MapK (.int .i64) iK lV W qb2 st.2.1 st.1 ∧ RangeK (.int .i64) iK lV W qb it (nQ s) (qF s) st.2.2.1 st.2.2.2 ∧ ∀ i, (st.2.2.1 i → st.1 i = none) ∧ (¬ st.2.2.1 i → st.1 i = qF s i)) (fun st => st.2.2.2) ((fun _ => none), 0, (fun i => qF s i ≠ none), nQ s) ⟨rfl, rfl, trivial⟩
    ⟨q, by omega, rm, rn, rl, mk, rg, fun i => ⟨fun _ => rfl, fun h => by
      simp only [ne_eq, Decidable.not_not] at h
      exact h.symm⟩⟩ ?_
  clear q rm rn rl mk rg
  rintro ⟨f', n', left, cnt⟩ W ⟨q, hit, rm, rn, rl, mk, rg, hall⟩
  simp only at mk rg hall
  show CC none Try.prog _ 45 [] (sl [(3, .pointer (some ⟨m', 0, none⟩)), (32, .pointer (some ⟨it, 0, none⟩))]) _ W
  have yk2 := q.size
  refine CC.seq ?_
  refine CC.region ?_
  refine LL.mnext rfl rfl iKeys rg rfl rfl (fun hno => ?_) (fun i x W5 cn hlf hfi rg2 hcn g5 z5 hen => ?_)
  · have hf : f' = qF s := funext fun i => (hall i).2 (hno i)
    subst hf
    have hnn := mk.many rg.map
    subst hnn
    clear rg
    refine LL.val (R.extract rfl rfl rfl) rfl rfl rfl ?_
    refine LL.nilS ?_
    refine CC.seq ?_
    refine CC.no rfl ?_
    refine CC.exit ?_
    refine EE.thenX ?_
    refine EE.thenX ?_
    refine EE.inX ?_
    refine EE.thenN ?_
    refine CC.seq ?_
    refine CC.region ?_
    refine LL.val (R.move rfl rfl) rfl rfl rfl ?_
    refine LL.val (R.assign rfl rfl) rfl rfl rfl ?_
    refine LL.nilS ?_
    refine CC.ret ?_
    refine EE.ret _ rfl rfl ?_
    exact ⟨m', gn', gl', qb2, rfl, ⟨rm, rn, rl, mk, hl, h0, hN, by omega⟩, by omega, by omega, by omega, by omega, q⟩
  · replace rm := rm.gr g5 (by omega)
    replace rn := rn.gr g5 (by omega)
    replace rl := rl.gr g5 (by omega)
    replace mk := mk.gr g5 (by omega)
    replace q := q.grown g5 q.size (by rintro k ⟨⟩; omega)
    clear rg
    refine LL.val (R.extract rfl rfl rfl) rfl rfl rfl ?_
    refine LL.nilS ?_
    refine CC.seq ?_
    refine CC.yes rfl ?_
    refine CC.skip ?_
    refine EE.thenN ?_
    refine CC.block ?_
    refine CC.seq ?_
    refine CC.region ?_
    (refine LL.val (R.entry rfl rfl hen) rfl rfl rfl ?_)
    refine LL.val (R.extract rfl rfl rfl) rfl rfl rfl ?_
    refine LL.val (R.extract rfl rfl rfl) rfl rfl rfl ?_
    have ld33 := rm.lt
    have ld34 := rn.lt
    have ld35 := rl.lt
    refine LL.alloc ([Value.int IntKind.u64 0, Value.int IntKind.u64 0, Value.int IntKind.u64 0, Value.int IntKind.u64 0, Value.int IntKind.u64 0, Value.int IntKind.u64 0, Value.int IntKind.u64 0, Value.int IntKind.u64 0]) rfl rfl rfl rfl rfl ?_
    intro Wd37 gd38 egd38 rd39 zd40 bd36
    replace rg2 := rg2.up bd36
    replace rm := rm.up bd36
    replace rn := rn.up bd36
    replace rl := rl.up bd36
    replace mk := mk.up bd36
    replace q := q.trans (bd36.mono q.size)
    refine LL.val (R.assign rfl rfl) rfl rfl rfl ?_
    (refine LL.storeAll rfl rfl rfl rfl (lE_len x) (by assumption) rfl (lE_one x) rfl rfl ?_; intro Wd52 r5 grd50 z5; have c5 := ln_cells r5)
    have zgrd50 := grd50.size
    replace bd36 := bd36.grown grd50 bd36.size (by rintro k ⟨⟩; omega)
    replace rg2 := rg2.gr grd50 (by have := rg2.lt; omega)
    replace rm := rm.gr grd50 (by have := rm.lt; omega)
    replace rn := rn.gr grd50 (by have := rn.lt; omega)
    replace rl := rl.gr grd50 (by have := rl.lt; omega)
    replace mk := mk.gr grd50 (by have := mk.lt; omega)
    replace q := q.grown grd50 q.size (by rintro k ⟨⟩; omega)
    refine LL.nilS ?_
    refine CC.tailB 6 (by kernel_rfl) (by kernel_rfl) (fun Wd54 bd53 zd55 => ?_)
    replace r5 := r5.up bd53
    replace c5 := c5.up bd53
    replace bd36 := bd36.trans (bd53.mono bd36.size)
    replace rg2 := rg2.up bd53
    replace rm := rm.up bd53
    replace rn := rn.up bd53
    replace rl := rl.up bd53
    replace mk := mk.up bd53
    replace q := q.trans (bd53.mono q.size)
    refine SS.val (R.move rfl rfl) rfl rfl ?_
    refine SS.val (R.nil rfl rfl) rfl rfl ?_
    refine SS.val (R.field rfl rfl (I.fld rfl)) rfl rfl ?_
    refine SS.val (R.load rfl rfl (I.ld1 rfl (RowL.cell rm rfl))) rfl rfl ?_
    refine SS.val (R.move rfl rfl) rfl rfl ?_
    refine SS.val (R.load rfl rfl (I.ldM (by assumption) rfl rfl)) rfl rfl ?_
    refine SS.nil ?_
    (refine LL.mput (.inl rfl) rfl iKeys rfl mk i x rfl rfl rfl rfl rfl ?_; clear mk; intro Wd111 mk grd109 z6)
    have zgrd109 := grd109.size
    replace r5 := r5.gr grd109 (by have := r5.lt; omega)
    replace c5 := c5.gr grd109 (by have := c5.lt; omega)
    replace rg2 := rg2.gr grd109 (by have := rg2.lt; omega)
    replace rm := rm.gr grd109 (by have := rm.lt; omega)
    replace rn := rn.gr grd109 (by have := rn.lt; omega)
    replace rl := rl.gr grd109 (by have := rl.lt; omega)
    replace q := q.grown grd109 q.size (by rintro k ⟨⟩; omega)
    refine LL.nil ?_
    refine EE.inN ?_
    refine EE.round (putF f' i (some x), _, (fun a => left a ∧ a ≠ i), cn) ⟨rfl, rfl, trivial⟩ ⟨q, by omega, rm, rn, rl, mk, rg2, ?_⟩ (by show cn < cnt; exact hcn)
    intro j
    simp only [putF]
    by_cases hj : j = i
    · subst hj
      rw [if_pos rfl]
      exact ⟨fun h => absurd rfl h.2, fun _ => hfi.symm⟩
    · rw [if_neg hj]
      exact ⟨fun h => (hall j).1 h.1, fun h => (hall j).2 fun hl => h ⟨hl, hj⟩⟩
theorem lE_ints (x : Ln) : lE x = intsZ .u64 (x.1.map fun n : Nat => (n : Int)) := by
  unfold lE ints intsZ
  rw [List.map_map]
  rfl
theorem ln_inj {x y : Ln} : (x.1.map fun n : Nat => (n : Int)) = y.1.map (fun n : Nat => (n : Int)) ↔ x = y := by
  constructor
  · intro h
    refine Subtype.ext ((List.map_inj_right (fun a b hab => ?_)).1 h)
    omega
  · rintro rfl
    rfl
section
variable {w : World} {n : Nat} {D : List Deferred} {M : Slots} {o : Oper} {a b : Operand} {t u : TypeId} {x y : Ln}
theorem R.neLT (ho : o.op = .binOp .neq t a b u) (hx : evM M a = some (.agg (lE x).toArray)) (hy : evM M b = some (.agg (lE y).toArray)) (hu : Try.prog.underlying t = some (.array 8 37)) (ht : aggB Try.prog t = true) (hg : Try.prog.eqGuardType Try.prog.depth t = false) (h : x = y) : Runs Try.prog n D M o w (.value (.bool false)) w := by
  rw [lE_ints] at hx hy
  exact R.neZT ho hx hy hu Try.underlying37 rfl (by decide) ht hg (by rw [List.length_map]; exact x.2) (by rw [List.length_map]; exact y.2) (ln_inj.2 h)
theorem R.neLF (ho : o.op = .binOp .neq t a b u) (hx : evM M a = some (.agg (lE x).toArray)) (hy : evM M b = some (.agg (lE y).toArray)) (hu : Try.prog.underlying t = some (.array 8 37)) (ht : aggB Try.prog t = true) (hg : Try.prog.eqGuardType Try.prog.depth t = false) (h : x ≠ y) : Runs Try.prog n D M o w (.value (.bool true)) w := by
  rw [lE_ints] at hx hy
  exact R.neZF ho hx hy hu Try.underlying37 rfl (by decide) ht hg (by rw [List.length_map]; exact x.2) (by rw [List.length_map]; exact y.2) (fun e => h (ln_inj.1 e))
end
set_option maxRecDepth 100000
set_option maxHeartbeats 4000000
theorem eqLs_any (a1 a2 : Option Addr) (N c1 c2 : Nat) (l1 l2 : List Ln) (w : World) (h1 : ReadsT lE 8 w (.slice a1 N c1) l1) (h2 : ReadsT lE 8 w (.slice a2 N c2) l2) (e1 : l1.length = N) (e2 : l2.length = N) (hN : N ≤ 16384) :
    Calls Try.prog 49 #[.slice a1 N c1, .slice a2 N c2] w fun e w' => e = .returned (.bool (decide (l1 = l2))) ∧ Below w.heap.size w w' := by
  have q := Below.refl w.heap.size w
  have hF1 : ∀ W, Below w.heap.size w W → ReadsT lE 8 W (.slice a1 N c1) l1 := fun W hb => h1.up hb
  have hF2 : ∀ W, Below w.heap.size w W → ReadsT lE 8 W (.slice a2 N c2) l2 := fun W hb => h2.up hb
  clear h1 h2
  refine X.fn Try.func49 rfl (n := 26) rfl rfl ?_
  refine CC.seq ?_
  refine CC.region ?_
  refine LL.val (R.assign rfl rfl) rfl rfl rfl ?_
  refine LL.nilS ?_
  refine CC.seq ?_
  refine CC.seq ?_
  refine CC.region ?_
  refine LL.val (R.move rfl rfl) rfl rfl rfl ?_
  refine LL.val (R.len rfl rfl rfl rfl) rfl rfl rfl ?_
  refine LL.val (R.move rfl rfl) rfl rfl rfl ?_
  refine LL.val (R.len rfl rfl rfl rfl) rfl rfl rfl ?_
  refine LL.val (R.neF rfl rfl rfl (by omega)) rfl rfl rfl ?_
  refine LL.nilS ?_
  refine CC.no rfl ?_
  refine CC.skip ?_
  refine EE.thenN ?_
  refine CC.seq ?_
  refine CC.seq ?_
  refine CC.region ?_
  refine LL.val (R.move rfl rfl) rfl rfl rfl ?_
  refine LL.val (R.len rfl rfl rfl rfl) rfl rfl rfl ?_
  refine LL.val (R.move rfl rfl) rfl rfl rfl ?_
  refine LL.nilS ?_
  refine CC.block ?_
  refine CC.loop (α := Nat) (fun i => [(0, .slice a1 N c1), (1, .slice a2 N c2), (12, .int .i64 (N : Int)), (13, .int .i64 (i : Int))]) (fun i W => i ≤ N ∧ Below w.heap.size w W ∧ l1.take i = l2.take i) (fun i => N - i) 0 ⟨rfl, rfl, rfl, rfl, trivial⟩ ⟨by show 0 ≤ N; omega, q, rfl⟩ ?_
  clear q
  rintro i W ⟨hi, q, ht⟩
  show CC none Try.prog _ 26 [] (sl [(0, .slice a1 N c1), (1, .slice a2 N c2), (12, .int .i64 (N : Int)), (13, .int .i64 (i : Int))]) _ W
  by_cases hlt : i < N
  case neg =>
    obtain rfl : i = N := by omega
    rw [List.take_of_length_le (by omega), List.take_of_length_le (by omega)] at ht
    rw [decide_eq_true ht]
    refine CC.seq ?_
    refine CC.region ?_
    refine LL.val (R.ltF rfl rfl rfl (by omega)) rfl rfl rfl ?_
    refine LL.nilS ?_
    refine CC.seq ?_
    refine CC.no rfl ?_
    refine CC.exit ?_
    refine EE.thenX ?_
    refine EE.thenX ?_
    refine EE.inX ?_
    refine EE.thenN ?_
    refine CC.seq ?_
    refine CC.region ?_
    refine LL.val (R.assign rfl rfl) rfl rfl rfl ?_
    refine LL.nilS ?_
    refine CC.ret ?_
    refine EE.ret _ rfl rfl ?_
    exact ⟨rfl, q⟩
  obtain ⟨x, hx⟩ : ∃ x, l1[i]? = some x := ⟨_, List.getElem?_eq_getElem (by omega)⟩
  obtain ⟨y, hy⟩ : ∃ y, l2[i]? = some y := ⟨_, List.getElem?_eq_getElem (by omega)⟩
  obtain ⟨b1, o1, rfl, k1, cs1⟩ := (hF1 W q).get lEnc hx
  obtain ⟨b2, o2, rfl, k2, cs2⟩ := (hF2 W q).get lEnc hy
  have m1 : CellsN W ⟨b1, o1 + i * 8, none⟩ 8 (lE x) := ⟨cs1, lE_len x⟩
  have m2 : CellsN W ⟨b2, o2 + i * 8, none⟩ 8 (lE y) := ⟨cs2, lE_len y⟩
  clear cs1 cs2
  by_cases hxy : x = y
  · refine CC.seq ?_
    refine CC.region ?_
    refine LL.val (R.ltT rfl rfl rfl (by omega)) rfl rfl rfl ?_
    refine LL.nilS ?_
    refine CC.seq ?_
    refine CC.yes rfl ?_
    refine CC.skip ?_
    refine EE.thenN ?_
    refine CC.seq ?_
    refine CC.block ?_
    refine CC.seq ?_
    refine CC.region ?_
    refine LL.val (R.move rfl rfl) rfl rfl rfl ?_
    refine LL.val (R.assign rfl rfl) rfl rfl rfl ?_
    refine LL.nilS ?_
    refine CC.seq ?_
    refine CC.quietB (by kernel_rfl) (by kernel_rfl) (fun Wb2 bb1 zb3 => ?_)
    replace q := q.trans (bb1.mono q.size)
    replace m1 := m1.up bb1
    replace m2 := m2.up bb1
    refine SS.val (R.move rfl rfl) rfl rfl ?_
    refine SS.val (R.move rfl rfl) rfl rfl ?_
    refine SS.val (R.index rfl rfl rfl (I.ixS rfl (by omega))) rfl rfl ?_
    refine SS.val (R.load rfl rfl (I.ldM (by assumption) rfl rfl)) rfl rfl ?_
    refine SS.val (R.move rfl rfl) rfl rfl ?_
    refine SS.val (R.move rfl rfl) rfl rfl ?_
    refine SS.val (R.index rfl rfl rfl (I.ixS rfl (by omega))) rfl rfl ?_
    refine SS.val (R.load rfl rfl (I.ldM (by assumption) rfl rfl)) rfl rfl ?_
    (refine SS.val (R.neLT rfl rfl rfl (by rfl) rfl (by kernel_rfl) hxy) rfl rfl ?_)
    refine SS.nilQ ?_
    refine EE.thenN ?_
    refine CC.no rfl ?_
    refine CC.skip ?_
    refine EE.inN ?_
    refine EE.thenN ?_
    refine CC.region ?_
    refine LL.val (R.addNc rfl rfl rfl rfl (by omega)) rfl rfl rfl ?_
    refine LL.val (R.move rfl rfl) rfl rfl rfl ?_
    refine LL.nil ?_
    exact EE.round (i + 1) ⟨rfl, rfl, rfl, rfl, trivial⟩ ⟨by show i + 1 ≤ N; omega, q, by rw [List.take_add_one, List.take_add_one, hx, hy, ht, hxy]⟩ (by show N - (i + 1) < N - i; omega)
  · rw [decide_eq_false (fun e => hxy (by rw [e, hy] at hx; exact (Option.some.inj hx).symm))]
    refine CC.seq ?_
    refine CC.region ?_
    refine LL.val (R.ltT rfl rfl rfl (by omega)) rfl rfl rfl ?_
    refine LL.nilS ?_
    refine CC.seq ?_
    refine CC.yes rfl ?_
    refine CC.skip ?_
    refine EE.thenN ?_
    refine CC.seq ?_
    refine CC.block ?_
    refine CC.seq ?_
    refine CC.region ?_
    refine LL.val (R.move rfl rfl) rfl rfl rfl ?_
    refine LL.val (R.assign rfl rfl) rfl rfl rfl ?_
    refine LL.nilS ?_
    refine CC.seq ?_
    refine CC.quietB (by kernel_rfl) (by kernel_rfl) (fun Wc2 bc1 zc3 => ?_)
    replace q := q.trans (bc1.mono q.size)
    replace m1 := m1.up bc1
    replace m2 := m2.up bc1
    refine SS.val (R.move rfl rfl) rfl rfl ?_
    refine SS.val (R.move rfl rfl) rfl rfl ?_
    refine SS.val (R.index rfl rfl rfl (I.ixS rfl (by omega))) rfl rfl ?_
    refine SS.val (R.load rfl rfl (I.ldM (by assumption) rfl rfl)) rfl rfl ?_
    refine SS.val (R.move rfl rfl) rfl rfl ?_
    refine SS.val (R.move rfl rfl) rfl rfl ?_
    refine SS.val (R.index rfl rfl rfl (I.ixS rfl (by omega))) rfl rfl ?_
    refine SS.val (R.load rfl rfl (I.ldM (by assumption) rfl rfl)) rfl rfl ?_
    (refine SS.val (R.neLF rfl rfl rfl (by rfl) rfl (by kernel_rfl) hxy) rfl rfl ?_)
    refine SS.nilQ ?_
    refine EE.thenN ?_
    refine CC.yes rfl ?_
    refine CC.seq ?_
    refine CC.region ?_
    refine LL.val (R.assign rfl rfl) rfl rfl rfl ?_
    refine LL.nilS ?_
    refine CC.ret ?_
    refine EE.inR ?_
    refine EE.thenR ?_
    refine EE.thenR ?_
    refine EE.inR ?_
    refine EE.thenR ?_
    refine EE.ret _ rfl rfl ?_
    exact ⟨rfl, q⟩
theorem q_eq : ∀ (s1 s2 : List Cl), s1.length = s2.length → (∀ (i : Nat) (c1 c2 : Cl), s1[i]? = some c1 → s2[i]? = some c2 → c1.2.2 ≠ none → c2.2.2 = c1.2.2) → nQ s1 ≤ nQ s2 ∧ (nQ s1 = nQ s2 → s1.map (fun c => c.2.2) = s2.map (fun c => c.2.2))
  | [], [], _, _ => ⟨Nat.le_refl _, fun _ => rfl⟩
  | [], _ :: _, h, _ => by simp at h
  | _ :: _, [], h, _ => by simp at h
  | c1 :: s1, c2 :: s2, hl, h => by
    have ih := q_eq s1 s2 (by simpa using hl) fun i d1 d2 h1 h2 => h (i + 1) d1 d2 (by simpa using h1) (by simpa using h2)
    have h0 := h 0 c1 c2 rfl rfl
    unfold nQ at *
    rw [List.countP_cons, List.countP_cons]
    cases e1 : c1.2.2 with
    | none =>
      simp only [Option.isSome_none, Bool.false_eq_true, if_false]
      cases e2 : c2.2.2 with
      | none =>
        simp only [Option.isSome_none, Bool.false_eq_true, if_false, List.map_cons, e1, e2]
        exact ⟨by omega, fun h => by rw [ih.2 (by omega)]⟩
      | some y =>
        simp only [Option.isSome_some, if_true]
        exact ⟨by omega, fun h => by omega⟩
    | some x =>
      have h2 := h0 (by rw [e1]; simp)
      rw [e1] at h2
      simp only [h2, Option.isSome_some, if_true, List.map_cons, e1]
      exact ⟨by omega, fun h => by rw [ih.2 (by omega)]⟩
theorem cl_ext {s1 s2 : List Cl} (h1 : s1.map (fun c => c.1) = s2.map (fun c => c.1)) (h2 : s1.map (fun c => c.2.1) = s2.map (fun c => c.2.1)) (h3 : s1.map (fun c => c.2.2) = s2.map (fun c => c.2.2)) : s1 = s2 := by
  have hl : s1.length = s2.length := by simpa using congrArg List.length h1
  refine List.ext_getElem hl fun i a b => ?_
  have g1 := congrArg (fun l => l[i]?) h1
  have g2 := congrArg (fun l => l[i]?) h2
  have g3 := congrArg (fun l => l[i]?) h3
  simp only [List.getElem?_map, List.getElem?_eq_getElem a, List.getElem?_eq_getElem b, Option.map_some, Option.some.injEq] at g1 g2 g3
  exact Prod.ext g1 (Prod.ext g2 g3)
theorem Mem.nowR {w : World} {m gn gl qb N : Nat} {s : List Cl} (M : Mem w m gn gl qb N s) : ReadsT lE 8 w (.slice (some ⟨gn, 0, none⟩) N N) (s.map fun c => c.1) := by
  have h : RowL w gn 79 ((s.map fun c => c.1).flatMap lE) := by rw [List.flatMap_map]; exact M.now
  have := h.readsT lEnc N (by rw [List.length_map, M.len]; exact Nat.le_refl _)
  rw [List.length_map, M.len] at this
  exact this
theorem Mem.lastR {w : World} {m gn gl qb N : Nat} {s : List Cl} (M : Mem w m gn gl qb N s) : ReadsT lE 8 w (.slice (some ⟨gl, 0, none⟩) N N) (s.map fun c => c.2.1) := by
  have h : RowL w gl 79 ((s.map fun c => c.2.1).flatMap lE) := by rw [List.flatMap_map]; exact M.last
  have := h.readsT lEnc N (by rw [List.length_map, M.len]; exact Nat.le_refl _)
  rw [List.length_map, M.len] at this
  exact this
theorem same_any (m1 gn1 gl1 qb1 m2 gn2 gl2 qb2 N : Nat) (s1 s2 : List Cl) (w : World) (M1 : Mem w m1 gn1 gl1 qb1 N s1) (M2 : Mem w m2 gn2 gl2 qb2 N s2) :
    Calls Try.prog 19 #[.pointer (some ⟨m1, 0, none⟩), .pointer (some ⟨m2, 0, none⟩)] w fun e w' => e = .returned (.bool (decide (s1 = s2))) ∧ Below w.heap.size w w' := by
  have q := Below.refl w.heap.size w
  have r1 := M1.row
  have r2 := M2.row
  have h0 := M1.pos
  have hN := M1.le
  have l1 := M1.len
  have l2 := M2.len
  have hM1 : ∀ W, Below w.heap.size w W → Mem W m1 gn1 gl1 qb1 N s1 := fun W b => M1.up b
  have hM2 : ∀ W, Below w.heap.size w W → Mem W m2 gn2 gl2 qb2 N s2 := fun W b => M2.up b
  have hE1 : ∀ W, Below w.heap.size w W → Calls Try.prog 49 #[.slice (some ⟨gn1, 0, none⟩) N N, .slice (some ⟨gn2, 0, none⟩) N N] W fun e w' => e = .returned (.bool (decide ((s1.map fun c => c.1) = s2.map fun c => c.1))) ∧ Below W.heap.size W w' := fun W b =>
    eqLs_any _ _ N N N _ _ W (hM1 W b).nowR (hM2 W b).nowR (by rw [List.length_map, l1]) (by rw [List.length_map, l2]) hN
  have hE2 : ∀ W, Below w.heap.size w W → Calls Try.prog 49 #[.slice (some ⟨gl1, 0, none⟩) N N, .slice (some ⟨gl2, 0, none⟩) N N] W fun e w' => e = .returned (.bool (decide ((s1.map fun c => c.2.1) = s2.map fun c => c.2.1))) ∧ Below W.heap.size W w' := fun W b =>
    eqLs_any _ _ N N N _ _ W (hM1 W b).lastR (hM2 W b).lastR (by rw [List.length_map, l1]) (by rw [List.length_map, l2]) hN
  clear M1 M2
  by_cases e1 : (s1.map fun c => c.1) = s2.map fun c => c.1
  case neg =>
    simp only [decide_eq_false e1] at hE1
    rw [decide_eq_false fun e => e1 (by rw [e])]
    refine X.fn Try.func19 rfl (n := 84) rfl rfl ?_
    refine CC.seq ?_
    refine CC.region ?_
    refine LL.val (R.assign rfl rfl) rfl rfl rfl ?_
    refine LL.nilS ?_
    refine CC.seq ?_
    refine CC.seq ?_
    refine CC.region ?_
    refine LL.val (R.move rfl rfl) rfl rfl rfl ?_
    refine LL.call (R.call rfl rfl rfl) rfl rfl rfl (none_F _ _ (by first | assumption | omega) (by first | assumption | omega)) ?_
    rintro e W' ⟨rfl, rfl⟩
    refine ⟨_, rfl, ?_⟩
    refine LL.val (R.move rfl rfl) rfl rfl rfl ?_
    refine LL.val (R.move rfl rfl) rfl rfl rfl ?_
    refine LL.call (R.call rfl rfl rfl) rfl rfl rfl (none_F _ _ (by first | assumption | omega) (by first | assumption | omega)) ?_
    rintro e W' ⟨rfl, rfl⟩
    refine ⟨_, rfl, ?_⟩
    refine LL.val (R.pick rfl rfl rfl) rfl rfl rfl ?_
    refine LL.nilS ?_
    refine CC.no rfl ?_
    refine CC.skip ?_
    refine EE.thenN ?_
    refine CC.seq ?_
    refine CC.seq ?_
    refine CC.grow (by kernel_rfl) (by kernel_rfl) ?_
    refine GG.val (fun w' b' => R.move rfl rfl) rfl rfl ?_
    refine GG.val (fun w' b' => R.nil rfl rfl) rfl rfl ?_
    refine GG.val (fun w' b' => R.field rfl rfl (I.fld rfl)) rfl rfl ?_
    refine GG.val (fun w' b' => R.field rfl rfl (I.fld rfl)) rfl rfl ?_
    refine GG.val (fun w' b' => R.load rfl rfl (I.ld1 rfl (RowL.cell (r1.up b') rfl))) rfl rfl ?_
    refine GG.val (fun w' b' => R.move rfl rfl) rfl rfl ?_
    refine GG.val (fun w' b' => R.nil rfl rfl) rfl rfl ?_
    refine GG.val (fun w' b' => R.field rfl rfl (I.fld rfl)) rfl rfl ?_
    refine GG.val (fun w' b' => R.field rfl rfl (I.fld rfl)) rfl rfl ?_
    refine GG.val (fun w' b' => R.load rfl rfl (I.ld1 rfl (RowL.cell (r2.up b') rfl))) rfl rfl ?_
    refine GG.call (fun w' => (R.call rfl rfl rfl)) rfl rfl (fun w' b' => (hE1 w' b').mono fun e W' h => ⟨h.1, b'.trans (h.2.mono b'.size)⟩) ?_
    refine GG.val (fun w' b' => R.not rfl rfl) rfl rfl ?_
    refine GG.val (fun w' b' => R.move rfl rfl) rfl rfl ?_
    refine GG.skip rfl rfl ?_
    refine GG.skip rfl rfl ?_
    refine GG.skip rfl rfl ?_
    refine GG.skip rfl rfl ?_
    refine GG.skip rfl rfl ?_
    refine GG.skip rfl rfl ?_
    refine GG.skip rfl rfl ?_
    refine GG.skip rfl rfl ?_
    refine GG.skip rfl rfl ?_
    refine GG.skip rfl rfl ?_
    refine GG.val (fun w' b' => R.pick rfl rfl rfl) rfl rfl ?_
    refine GG.val (fun w' b' => R.move rfl rfl) rfl rfl ?_
    refine GG.skip rfl rfl ?_
    refine GG.skip rfl rfl ?_
    refine GG.skip rfl rfl ?_
    refine GG.skip rfl rfl ?_
    refine GG.skip rfl rfl ?_
    refine GG.skip rfl rfl ?_
    refine GG.skip rfl rfl ?_
    refine GG.skip rfl rfl ?_
    refine GG.skip rfl rfl ?_
    refine GG.skip rfl rfl ?_
    refine GG.skip rfl rfl ?_
    refine GG.val (fun w' b' => R.pick rfl rfl rfl) rfl rfl ?_
    refine GG.nilQ (fun W5 b4 => ?_)
    have zb4 := b4.size
    replace q := q.trans (b4.mono q.size)
    replace r1 := r1.up b4
    replace r2 := r2.up b4
    refine EE.thenN ?_
    refine CC.yes rfl ?_
    refine CC.seq ?_
    refine CC.region ?_
    refine LL.val (R.assign rfl rfl) rfl rfl rfl ?_
    refine LL.nilS ?_
    refine CC.ret ?_
    refine EE.thenR ?_
    refine EE.ret _ rfl rfl ?_
    exact ⟨rfl, q⟩
  simp only [decide_eq_true e1] at hE1
  by_cases e2 : (s1.map fun c => c.2.1) = s2.map fun c => c.2.1
  case neg =>
    simp only [decide_eq_false e2] at hE2
    rw [decide_eq_false fun e => e2 (by rw [e])]
    refine X.fn Try.func19 rfl (n := 84) rfl rfl ?_
    refine CC.seq ?_
    refine CC.region ?_
    refine LL.val (R.assign rfl rfl) rfl rfl rfl ?_
    refine LL.nilS ?_
    refine CC.seq ?_
    refine CC.seq ?_
    refine CC.region ?_
    refine LL.val (R.move rfl rfl) rfl rfl rfl ?_
    refine LL.call (R.call rfl rfl rfl) rfl rfl rfl (none_F _ _ (by first | assumption | omega) (by first | assumption | omega)) ?_
    rintro e W' ⟨rfl, rfl⟩
    refine ⟨_, rfl, ?_⟩
    refine LL.val (R.move rfl rfl) rfl rfl rfl ?_
    refine LL.val (R.move rfl rfl) rfl rfl rfl ?_
    refine LL.call (R.call rfl rfl rfl) rfl rfl rfl (none_F _ _ (by first | assumption | omega) (by first | assumption | omega)) ?_
    rintro e W' ⟨rfl, rfl⟩
    refine ⟨_, rfl, ?_⟩
    refine LL.val (R.pick rfl rfl rfl) rfl rfl rfl ?_
    refine LL.nilS ?_
    refine CC.no rfl ?_
    refine CC.skip ?_
    refine EE.thenN ?_
    refine CC.seq ?_
    refine CC.seq ?_
    refine CC.grow (by kernel_rfl) (by kernel_rfl) ?_
    refine GG.val (fun w' b' => R.move rfl rfl) rfl rfl ?_
    refine GG.val (fun w' b' => R.nil rfl rfl) rfl rfl ?_
    refine GG.val (fun w' b' => R.field rfl rfl (I.fld rfl)) rfl rfl ?_
    refine GG.val (fun w' b' => R.field rfl rfl (I.fld rfl)) rfl rfl ?_
    refine GG.val (fun w' b' => R.load rfl rfl (I.ld1 rfl (RowL.cell (r1.up b') rfl))) rfl rfl ?_
    refine GG.val (fun w' b' => R.move rfl rfl) rfl rfl ?_
    refine GG.val (fun w' b' => R.nil rfl rfl) rfl rfl ?_
    refine GG.val (fun w' b' => R.field rfl rfl (I.fld rfl)) rfl rfl ?_
    refine GG.val (fun w' b' => R.field rfl rfl (I.fld rfl)) rfl rfl ?_
    refine GG.val (fun w' b' => R.load rfl rfl (I.ld1 rfl (RowL.cell (r2.up b') rfl))) rfl rfl ?_
    refine GG.call (fun w' => (R.call rfl rfl rfl)) rfl rfl (fun w' b' => (hE1 w' b').mono fun e W' h => ⟨h.1, b'.trans (h.2.mono b'.size)⟩) ?_
    refine GG.val (fun w' b' => R.not rfl rfl) rfl rfl ?_
    refine GG.val (fun w' b' => R.move rfl rfl) rfl rfl ?_
    refine GG.val (fun w' b' => R.move rfl rfl) rfl rfl ?_
    refine GG.val (fun w' b' => R.nil rfl rfl) rfl rfl ?_
    refine GG.val (fun w' b' => R.field rfl rfl (I.fld rfl)) rfl rfl ?_
    refine GG.val (fun w' b' => R.load rfl rfl (I.ld1 rfl (RowL.cell (r1.up b') rfl))) rfl rfl ?_
    refine GG.val (fun w' b' => R.move rfl rfl) rfl rfl ?_
    refine GG.val (fun w' b' => R.nil rfl rfl) rfl rfl ?_
    refine GG.val (fun w' b' => R.field rfl rfl (I.fld rfl)) rfl rfl ?_
    refine GG.val (fun w' b' => R.load rfl rfl (I.ld1 rfl (RowL.cell (r2.up b') rfl))) rfl rfl ?_
    refine GG.call (fun w' => (R.call rfl rfl rfl)) rfl rfl (fun w' b' => (hE2 w' b').mono fun e W' h => ⟨h.1, b'.trans (h.2.mono b'.size)⟩) ?_
    refine GG.val (fun w' b' => R.not rfl rfl) rfl rfl ?_
    refine GG.val (fun w' b' => R.pick rfl rfl rfl) rfl rfl ?_
    refine GG.val (fun w' b' => R.move rfl rfl) rfl rfl ?_
    refine GG.skip rfl rfl ?_
    refine GG.skip rfl rfl ?_
    refine GG.skip rfl rfl ?_
    refine GG.skip rfl rfl ?_
    refine GG.skip rfl rfl ?_
    refine GG.skip rfl rfl ?_
    refine GG.skip rfl rfl ?_
    refine GG.skip rfl rfl ?_
    refine GG.skip rfl rfl ?_
    refine GG.skip rfl rfl ?_
    refine GG.skip rfl rfl ?_
    refine GG.val (fun w' b' => R.pick rfl rfl rfl) rfl rfl ?_
    refine GG.nilQ (fun Wa5 ba4 => ?_)
    have zba4 := ba4.size
    replace q := q.trans (ba4.mono q.size)
    replace r1 := r1.up ba4
    replace r2 := r2.up ba4
    refine EE.thenN ?_
    refine CC.yes rfl ?_
    refine CC.seq ?_
    refine CC.region ?_
    refine LL.val (R.assign rfl rfl) rfl rfl rfl ?_
    refine LL.nilS ?_
    refine CC.ret ?_
    refine EE.thenR ?_
    refine EE.ret _ rfl rfl ?_
    exact ⟨rfl, q⟩
  simp only [decide_eq_true e2] at hE2
  by_cases e3 : (nQ s1 : Int) = (nQ s2 : Int)
  case neg =>
    rw [decide_eq_false fun e => e3 (by rw [e])]
    refine X.fn Try.func19 rfl (n := 84) rfl rfl ?_
    refine CC.seq ?_
    refine CC.region ?_
    refine LL.val (R.assign rfl rfl) rfl rfl rfl ?_
    refine LL.nilS ?_
    refine CC.seq ?_
    refine CC.seq ?_
    refine CC.region ?_
    refine LL.val (R.move rfl rfl) rfl rfl rfl ?_
    refine LL.call (R.call rfl rfl rfl) rfl rfl rfl (none_F _ _ (by first | assumption | omega) (by first | assumption | omega)) ?_
    rintro e W' ⟨rfl, rfl⟩
    refine ⟨_, rfl, ?_⟩
    refine LL.val (R.move rfl rfl) rfl rfl rfl ?_
    refine LL.val (R.move rfl rfl) rfl rfl rfl ?_
    refine LL.call (R.call rfl rfl rfl) rfl rfl rfl (none_F _ _ (by first | assumption | omega) (by first | assumption | omega)) ?_
    rintro e W' ⟨rfl, rfl⟩
    refine ⟨_, rfl, ?_⟩
    refine LL.val (R.pick rfl rfl rfl) rfl rfl rfl ?_
    refine LL.nilS ?_
    refine CC.no rfl ?_
    refine CC.skip ?_
    refine EE.thenN ?_
    refine CC.seq ?_
    refine CC.seq ?_
    refine CC.grow (by kernel_rfl) (by kernel_rfl) ?_
    refine GG.val (fun w' b' => R.move rfl rfl) rfl rfl ?_
    refine GG.val (fun w' b' => R.nil rfl rfl) rfl rfl ?_
    refine GG.val (fun w' b' => R.field rfl rfl (I.fld rfl)) rfl rfl ?_
    refine GG.val (fun w' b' => R.field rfl rfl (I.fld rfl)) rfl rfl ?_
    refine GG.val (fun w' b' => R.load rfl rfl (I.ld1 rfl (RowL.cell (r1.up b') rfl))) rfl rfl ?_
    refine GG.val (fun w' b' => R.move rfl rfl) rfl rfl ?_
    refine GG.val (fun w' b' => R.nil rfl rfl) rfl rfl ?_
    refine GG.val (fun w' b' => R.field rfl rfl (I.fld rfl)) rfl rfl ?_
    refine GG.val (fun w' b' => R.field rfl rfl (I.fld rfl)) rfl rfl ?_
    refine GG.val (fun w' b' => R.load rfl rfl (I.ld1 rfl (RowL.cell (r2.up b') rfl))) rfl rfl ?_
    refine GG.call (fun w' => (R.call rfl rfl rfl)) rfl rfl (fun w' b' => (hE1 w' b').mono fun e W' h => ⟨h.1, b'.trans (h.2.mono b'.size)⟩) ?_
    refine GG.val (fun w' b' => R.not rfl rfl) rfl rfl ?_
    refine GG.val (fun w' b' => R.move rfl rfl) rfl rfl ?_
    refine GG.val (fun w' b' => R.move rfl rfl) rfl rfl ?_
    refine GG.val (fun w' b' => R.nil rfl rfl) rfl rfl ?_
    refine GG.val (fun w' b' => R.field rfl rfl (I.fld rfl)) rfl rfl ?_
    refine GG.val (fun w' b' => R.load rfl rfl (I.ld1 rfl (RowL.cell (r1.up b') rfl))) rfl rfl ?_
    refine GG.val (fun w' b' => R.move rfl rfl) rfl rfl ?_
    refine GG.val (fun w' b' => R.nil rfl rfl) rfl rfl ?_
    refine GG.val (fun w' b' => R.field rfl rfl (I.fld rfl)) rfl rfl ?_
    refine GG.val (fun w' b' => R.load rfl rfl (I.ld1 rfl (RowL.cell (r2.up b') rfl))) rfl rfl ?_
    refine GG.call (fun w' => (R.call rfl rfl rfl)) rfl rfl (fun w' b' => (hE2 w' b').mono fun e W' h => ⟨h.1, b'.trans (h.2.mono b'.size)⟩) ?_
    refine GG.val (fun w' b' => R.not rfl rfl) rfl rfl ?_
    refine GG.val (fun w' b' => R.pick rfl rfl rfl) rfl rfl ?_
    refine GG.val (fun w' b' => R.move rfl rfl) rfl rfl ?_
    refine GG.val (fun w' b' => R.move rfl rfl) rfl rfl ?_
    refine GG.val (fun w' b' => R.nil rfl rfl) rfl rfl ?_
    refine GG.val (fun w' b' => R.field rfl rfl (I.fld rfl)) rfl rfl ?_
    refine GG.val (fun w' b' => R.load rfl rfl (I.ld1 rfl (RowL.cell (r1.up b') rfl))) rfl rfl ?_
    (refine GG.val (fun w' b' => R.mlen rfl rfl (by rfl) (hM1 w' b').qs) rfl rfl ?_)
    refine GG.val (fun w' b' => R.move rfl rfl) rfl rfl ?_
    refine GG.val (fun w' b' => R.nil rfl rfl) rfl rfl ?_
    refine GG.val (fun w' b' => R.field rfl rfl (I.fld rfl)) rfl rfl ?_
    refine GG.val (fun w' b' => R.load rfl rfl (I.ld1 rfl (RowL.cell (r2.up b') rfl))) rfl rfl ?_
    (refine GG.val (fun w' b' => R.mlen rfl rfl (by rfl) (hM2 w' b').qs) rfl rfl ?_)
    (refine GG.val (fun w' b' => R.neT rfl rfl rfl e3) rfl rfl ?_)
    refine GG.val (fun w' b' => R.pick rfl rfl rfl) rfl rfl ?_
    refine GG.nilQ (fun Wb5 bb4 => ?_)
    have zbb4 := bb4.size
    replace q := q.trans (bb4.mono q.size)
    replace r1 := r1.up bb4
    replace r2 := r2.up bb4
    refine EE.thenN ?_
    refine CC.yes rfl ?_
    refine CC.seq ?_
    refine CC.region ?_
    refine LL.val (R.assign rfl rfl) rfl rfl rfl ?_
    refine LL.nilS ?_
    refine CC.ret ?_
    refine EE.thenR ?_
    refine EE.ret _ rfl rfl ?_
    exact ⟨rfl, q⟩
  refine X.fn Try.func19 rfl (n := 84) rfl rfl ?_
  refine CC.seq ?_
  refine CC.region ?_
  refine LL.val (R.assign rfl rfl) rfl rfl rfl ?_
  refine LL.nilS ?_
  refine CC.seq ?_
  refine CC.seq ?_
  refine CC.region ?_
  refine LL.val (R.move rfl rfl) rfl rfl rfl ?_
  refine LL.call (R.call rfl rfl rfl) rfl rfl rfl (none_F _ _ (by first | assumption | omega) (by first | assumption | omega)) ?_
  rintro e W' ⟨rfl, rfl⟩
  refine ⟨_, rfl, ?_⟩
  refine LL.val (R.move rfl rfl) rfl rfl rfl ?_
  refine LL.val (R.move rfl rfl) rfl rfl rfl ?_
  refine LL.call (R.call rfl rfl rfl) rfl rfl rfl (none_F _ _ (by first | assumption | omega) (by first | assumption | omega)) ?_
  rintro e W' ⟨rfl, rfl⟩
  refine ⟨_, rfl, ?_⟩
  refine LL.val (R.pick rfl rfl rfl) rfl rfl rfl ?_
  refine LL.nilS ?_
  refine CC.no rfl ?_
  refine CC.skip ?_
  refine EE.thenN ?_
  refine CC.seq ?_
  refine CC.seq ?_
  refine CC.grow (by kernel_rfl) (by kernel_rfl) ?_
  refine GG.val (fun w' b' => R.move rfl rfl) rfl rfl ?_
  refine GG.val (fun w' b' => R.nil rfl rfl) rfl rfl ?_
  refine GG.val (fun w' b' => R.field rfl rfl (I.fld rfl)) rfl rfl ?_
  refine GG.val (fun w' b' => R.field rfl rfl (I.fld rfl)) rfl rfl ?_
  refine GG.val (fun w' b' => R.load rfl rfl (I.ld1 rfl (RowL.cell (r1.up b') rfl))) rfl rfl ?_
  refine GG.val (fun w' b' => R.move rfl rfl) rfl rfl ?_
  refine GG.val (fun w' b' => R.nil rfl rfl) rfl rfl ?_
  refine GG.val (fun w' b' => R.field rfl rfl (I.fld rfl)) rfl rfl ?_
  refine GG.val (fun w' b' => R.field rfl rfl (I.fld rfl)) rfl rfl ?_
  refine GG.val (fun w' b' => R.load rfl rfl (I.ld1 rfl (RowL.cell (r2.up b') rfl))) rfl rfl ?_
  refine GG.call (fun w' => (R.call rfl rfl rfl)) rfl rfl (fun w' b' => (hE1 w' b').mono fun e W' h => ⟨h.1, b'.trans (h.2.mono b'.size)⟩) ?_
  refine GG.val (fun w' b' => R.not rfl rfl) rfl rfl ?_
  refine GG.val (fun w' b' => R.move rfl rfl) rfl rfl ?_
  refine GG.val (fun w' b' => R.move rfl rfl) rfl rfl ?_
  refine GG.val (fun w' b' => R.nil rfl rfl) rfl rfl ?_
  refine GG.val (fun w' b' => R.field rfl rfl (I.fld rfl)) rfl rfl ?_
  refine GG.val (fun w' b' => R.load rfl rfl (I.ld1 rfl (RowL.cell (r1.up b') rfl))) rfl rfl ?_
  refine GG.val (fun w' b' => R.move rfl rfl) rfl rfl ?_
  refine GG.val (fun w' b' => R.nil rfl rfl) rfl rfl ?_
  refine GG.val (fun w' b' => R.field rfl rfl (I.fld rfl)) rfl rfl ?_
  refine GG.val (fun w' b' => R.load rfl rfl (I.ld1 rfl (RowL.cell (r2.up b') rfl))) rfl rfl ?_
  refine GG.call (fun w' => (R.call rfl rfl rfl)) rfl rfl (fun w' b' => (hE2 w' b').mono fun e W' h => ⟨h.1, b'.trans (h.2.mono b'.size)⟩) ?_
  refine GG.val (fun w' b' => R.not rfl rfl) rfl rfl ?_
  refine GG.val (fun w' b' => R.pick rfl rfl rfl) rfl rfl ?_
  refine GG.val (fun w' b' => R.move rfl rfl) rfl rfl ?_
  refine GG.val (fun w' b' => R.move rfl rfl) rfl rfl ?_
  refine GG.val (fun w' b' => R.nil rfl rfl) rfl rfl ?_
  refine GG.val (fun w' b' => R.field rfl rfl (I.fld rfl)) rfl rfl ?_
  refine GG.val (fun w' b' => R.load rfl rfl (I.ld1 rfl (RowL.cell (r1.up b') rfl))) rfl rfl ?_
  (refine GG.val (fun w' b' => R.mlen rfl rfl (by rfl) (hM1 w' b').qs) rfl rfl ?_)
  refine GG.val (fun w' b' => R.move rfl rfl) rfl rfl ?_
  refine GG.val (fun w' b' => R.nil rfl rfl) rfl rfl ?_
  refine GG.val (fun w' b' => R.field rfl rfl (I.fld rfl)) rfl rfl ?_
  refine GG.val (fun w' b' => R.load rfl rfl (I.ld1 rfl (RowL.cell (r2.up b') rfl))) rfl rfl ?_
  (refine GG.val (fun w' b' => R.mlen rfl rfl (by rfl) (hM2 w' b').qs) rfl rfl ?_)
  (refine GG.val (fun w' b' => R.neF rfl rfl rfl e3) rfl rfl ?_)
  refine GG.val (fun w' b' => R.pick rfl rfl rfl) rfl rfl ?_
  refine GG.nilQ (fun Wc183 bc182 => ?_)
  have zbc182 := bc182.size
  replace q := q.trans (bc182.mono q.size)
  replace r1 := r1.up bc182
  replace r2 := r2.up bc182
  refine EE.thenN ?_
  refine CC.no rfl ?_
  refine CC.skip ?_
  refine EE.thenN ?_
  refine CC.seq ?_
  refine CC.seq ?_
  refine CC.region ?_
  refine LL.val (R.move rfl rfl) rfl rfl rfl ?_
  refine LL.val (R.nil rfl rfl) rfl rfl rfl ?_
  refine LL.val (R.field rfl rfl (I.fld rfl)) rfl rfl rfl ?_
  refine LL.val (R.load rfl rfl (I.ld1 rfl (RowL.cell r1 rfl))) rfl rfl rfl ?_
  have lc212 := r1.lt
  have lc213 := r2.lt
  (refine LL.mrange rfl rfl iKeys rfl (hM1 _ q).qs rfl rfl ?_; intro Wc211 it eit rg bc208 zit)
  have zbc208 := bc208.size
  replace bc182 := bc182.trans (bc208.mono bc182.size)
  replace q := q.trans (bc208.mono q.size)
  replace r1 := r1.up bc208
  replace r2 := r2.up bc208
  refine LL.nilS ?_
  refine CC.block ?_
  have yk := q.size
  have lt2 := (hM2 _ (Below.refl _ _)).lts
  have lt1 := (hM1 _ (Below.refl _ _)).lts
  refine CC.loop (α := (Nat → Prop) × Nat) (fun _ => [(0, .pointer (some ⟨m1, 0, none⟩)), (1, .pointer (some ⟨m2, 0, none⟩)), (62, .pointer (some ⟨it, 0, none⟩))]) (fun st W => Below w.heap.size w W ∧ it < W.heap.size ∧ RangeK (.int .i64) iK lV W qb1 it (nQ s1) (qF s1) st.1 st.2 ∧ ∀ i, ¬ st.1 i → qF s1 i ≠ none → qF s2 i = qF s1 i) (fun st => st.2) ((fun i => qF s1 i ≠ none), nQ s1) ⟨rfl, rfl, rfl, trivial⟩
    ⟨q, by omega, rg, fun i h h2 => absurd h2 h⟩ ?_
  clear q rg r1 r2
  rintro ⟨left, cnt⟩ W ⟨q, hit, rg, hall⟩
  simp only at rg hall
  show CC none Try.prog _ 84 [] (sl [(0, .pointer (some ⟨m1, 0, none⟩)), (1, .pointer (some ⟨m2, 0, none⟩)), (62, .pointer (some ⟨it, 0, none⟩))]) _ W
  have yk2 := q.size
  refine CC.seq ?_
  refine CC.region ?_
  refine LL.mnext rfl rfl iKeys rg rfl rfl (fun hno => ?_) (fun i x W5 cn hlf hfi rg2 hcn g5 z5 hen => ?_)
  · have heq : s1 = s2 := by
      refine cl_ext e1 e2 ((q_eq s1 s2 (by omega) fun i c1 c2 h1 h2 h3 => ?_).2 (by omega))
      have := hall i (hno i) (by rw [qF_at h1]; exact h3)
      rwa [qF_at h1, qF_at h2] at this
    rw [decide_eq_true heq]
    clear rg
    refine LL.val (R.extract rfl rfl rfl) rfl rfl rfl ?_
    refine LL.nilS ?_
    refine CC.seq ?_
    refine CC.no rfl ?_
    refine CC.exit ?_
    refine EE.thenX ?_
    refine EE.thenX ?_
    refine EE.inX ?_
    refine EE.thenN ?_
    refine CC.seq ?_
    refine CC.region ?_
    refine LL.val (R.assign rfl rfl) rfl rfl rfl ?_
    refine LL.nilS ?_
    refine CC.ret ?_
    refine EE.ret _ rfl rfl ?_
    exact ⟨rfl, q⟩
  · replace q := q.grown g5 q.size (by rintro k ⟨⟩; omega)
    clear rg
    have r2 := (hM2 _ q).row
    cases hy : qF s2 i with
    | none =>
      rw [decide_eq_false fun e => by rw [e, hy] at hfi; cases hfi]
      have hq2 := (hM2 _ q).qs
      refine LL.val (R.extract rfl rfl rfl) rfl rfl rfl ?_
      refine LL.nilS ?_
      refine CC.seq ?_
      refine CC.yes rfl ?_
      refine CC.skip ?_
      refine EE.thenN ?_
      refine CC.block ?_
      refine CC.seq ?_
      refine CC.region ?_
      (refine LL.val (R.entry rfl rfl hen) rfl rfl rfl ?_)
      refine LL.val (R.extract rfl rfl rfl) rfl rfl rfl ?_
      refine LL.val (R.extract rfl rfl rfl) rfl rfl rfl ?_
      have lf29 := r2.lt
      refine LL.alloc ([Value.int IntKind.u64 0, Value.int IntKind.u64 0, Value.int IntKind.u64 0, Value.int IntKind.u64 0, Value.int IntKind.u64 0, Value.int IntKind.u64 0, Value.int IntKind.u64 0, Value.int IntKind.u64 0]) rfl rfl rfl rfl rfl ?_
      intro Wf31 gf32 egf32 rf33 zf34 bf30
      replace rg2 := rg2.up bf30
      replace q := q.trans (bf30.mono q.size)
      replace r2 := r2.up bf30
      replace hq2 := hq2.up bf30
      refine LL.val (R.assign rfl rfl) rfl rfl rfl ?_
      (refine LL.storeAll rfl rfl rfl rfl (lE_len _) (by assumption) rfl (lE_one _) rfl rfl ?_; intro Wf45 rxf46 grf43 zzf48; have cyf47 := ln_cells rxf46)
      have zgrf43 := grf43.size
      replace bf30 := bf30.grown grf43 bf30.size (by rintro k ⟨⟩; omega)
      replace rg2 := rg2.gr grf43 (by have := rg2.lt; omega)
      replace q := q.grown grf43 q.size (by rintro k ⟨⟩; omega)
      replace r2 := r2.gr grf43 (by have := r2.lt; omega)
      replace hq2 := hq2.gr grf43 (by have := hq2.lt; omega)
      refine LL.nilS ?_
      refine CC.seq ?_
      refine CC.region ?_
      refine LL.val (R.move rfl rfl) rfl rfl rfl ?_
      refine LL.val (R.nil rfl rfl) rfl rfl rfl ?_
      refine LL.val (R.field rfl rfl (I.fld rfl)) rfl rfl rfl ?_
      refine LL.val (R.load rfl rfl (I.ld1 rfl (RowL.cell r2 rfl))) rfl rfl rfl ?_
      refine LL.val (R.move rfl rfl) rfl rfl rfl ?_
      (refine LL.val (R.lookKF (z := lV zL) rfl rfl iKeys (by rfl) (by kernel_rfl) hq2 i rfl hy) rfl rfl rfl ?_)
      refine LL.val (R.move rfl rfl) rfl rfl rfl ?_
      refine LL.val (R.extract rfl rfl rfl) rfl rfl rfl ?_
      refine LL.val (R.extract rfl rfl rfl) rfl rfl rfl ?_
      have lf119 := rxf46.lt
      have lf120 := r2.lt
      refine LL.alloc ([Value.int IntKind.u64 0, Value.int IntKind.u64 0, Value.int IntKind.u64 0, Value.int IntKind.u64 0, Value.int IntKind.u64 0, Value.int IntKind.u64 0, Value.int IntKind.u64 0, Value.int IntKind.u64 0]) rfl rfl rfl rfl rfl ?_
      intro Wf122 gf123 egf123 rf124 zf125 bf121
      replace rxf46 := rxf46.up bf121
      replace cyf47 := cyf47.up bf121
      replace bf30 := bf30.trans (bf121.mono bf30.size)
      replace rg2 := rg2.up bf121
      replace q := q.trans (bf121.mono q.size)
      replace r2 := r2.up bf121
      replace hq2 := hq2.up bf121
      refine LL.storeN (vs := [(fun n => Value.int IntKind.u64 ↑n) 0, (fun n => Value.int IntKind.u64 ↑n) 0, (fun n => Value.int IntKind.u64 ↑n) 0, (fun n => Value.int IntKind.u64 ↑n) 0, (fun n => Value.int IntKind.u64 ↑n) 0, (fun n => Value.int IntKind.u64 ↑n) 0, (fun n => Value.int IntKind.u64 ↑n) 0, (fun n => Value.int IntKind.u64 ↑n) 0]) rfl rfl rfl rfl rf124 (by exact Nat.le_of_ble_eq_true rfl) (ones_of rfl) rfl rfl ?_
      intro Wf134 rf135 bf133 zf136
      have hlbf133 := rf124.lt
      replace rf135 : RowL Wf134 _ 79 [(fun n => Value.int IntKind.u64 ↑n) 0, (fun n => Value.int IntKind.u64 ↑n) 0, (fun n => Value.int IntKind.u64 ↑n) 0, (fun n => Value.int IntKind.u64 ↑n) 0, (fun n => Value.int IntKind.u64 ↑n) 0, (fun n => Value.int IntKind.u64 ↑n) 0, (fun n => Value.int IntKind.u64 ↑n) 0, (fun n => Value.int IntKind.u64 ↑n) 0] := rf135
      clear rf124
      replace bf121 := bf121.grown bf133 bf121.size (by rintro k ⟨⟩; omega)
      replace rxf46 := rxf46.gr bf133 (by have := rxf46.lt; omega)
      replace cyf47 := cyf47.gr bf133 (by have := cyf47.lt; omega)
      replace bf30 := bf30.grown bf133 bf30.size (by rintro k ⟨⟩; omega)
      replace rg2 := rg2.gr bf133 (by have := rg2.lt; omega)
      replace q := q.grown bf133 q.size (by rintro k ⟨⟩; omega)
      replace r2 := r2.gr bf133 (by have := r2.lt; omega)
      replace hq2 := hq2.gr bf133 (by have := hq2.lt; omega)
      have rf124 := rf135
      clear rf135
      refine LL.val (R.assign rfl rfl) rfl rfl rfl ?_
      refine LL.nilS ?_
      refine CC.seq ?_
      refine CC.region ?_
      refine LL.val (R.move rfl rfl) rfl rfl rfl ?_
      refine LL.val (R.not rfl rfl) rfl rfl rfl ?_
      refine LL.val (R.move rfl rfl) rfl rfl rfl ?_
      refine LL.skip rfl rfl ?_
      refine LL.skip rfl rfl ?_
      refine LL.skip rfl rfl ?_
      refine LL.val (R.pick rfl rfl rfl) rfl rfl rfl ?_
      refine LL.nilS ?_
      refine CC.yes rfl ?_
      refine CC.seq ?_
      refine CC.region ?_
      refine LL.val (R.assign rfl rfl) rfl rfl rfl ?_
      refine LL.nilS ?_
      refine CC.ret ?_
      refine EE.inR ?_
      refine EE.thenR ?_
      refine EE.inR ?_
      refine EE.thenR ?_
      refine EE.ret _ rfl rfl ?_
      exact ⟨rfl, q⟩
    | some y =>
      have hq2 := (hM2 _ q).qs
      by_cases hxy : y = x
      · refine LL.val (R.extract rfl rfl rfl) rfl rfl rfl ?_
        refine LL.nilS ?_
        refine CC.seq ?_
        refine CC.yes rfl ?_
        refine CC.skip ?_
        refine EE.thenN ?_
        refine CC.block ?_
        refine CC.seq ?_
        refine CC.region ?_
        (refine LL.val (R.entry rfl rfl hen) rfl rfl rfl ?_)
        refine LL.val (R.extract rfl rfl rfl) rfl rfl rfl ?_
        refine LL.val (R.extract rfl rfl rfl) rfl rfl rfl ?_
        have lg29 := r2.lt
        refine LL.alloc ([Value.int IntKind.u64 0, Value.int IntKind.u64 0, Value.int IntKind.u64 0, Value.int IntKind.u64 0, Value.int IntKind.u64 0, Value.int IntKind.u64 0, Value.int IntKind.u64 0, Value.int IntKind.u64 0]) rfl rfl rfl rfl rfl ?_
        intro Wg31 gg32 egg32 rg33 zg34 bg30
        replace rg2 := rg2.up bg30
        replace q := q.trans (bg30.mono q.size)
        replace r2 := r2.up bg30
        replace hq2 := hq2.up bg30
        refine LL.val (R.assign rfl rfl) rfl rfl rfl ?_
        (refine LL.storeAll rfl rfl rfl rfl (lE_len _) (by assumption) rfl (lE_one _) rfl rfl ?_; intro Wg45 rxg46 grg43 zzg48; have cyg47 := ln_cells rxg46)
        have zgrg43 := grg43.size
        replace bg30 := bg30.grown grg43 bg30.size (by rintro k ⟨⟩; omega)
        replace rg2 := rg2.gr grg43 (by have := rg2.lt; omega)
        replace q := q.grown grg43 q.size (by rintro k ⟨⟩; omega)
        replace r2 := r2.gr grg43 (by have := r2.lt; omega)
        replace hq2 := hq2.gr grg43 (by have := hq2.lt; omega)
        refine LL.nilS ?_
        refine CC.seq ?_
        refine CC.region ?_
        refine LL.val (R.move rfl rfl) rfl rfl rfl ?_
        refine LL.val (R.nil rfl rfl) rfl rfl rfl ?_
        refine LL.val (R.field rfl rfl (I.fld rfl)) rfl rfl rfl ?_
        refine LL.val (R.load rfl rfl (I.ld1 rfl (RowL.cell r2 rfl))) rfl rfl rfl ?_
        refine LL.val (R.move rfl rfl) rfl rfl rfl ?_
        (refine LL.val (R.lookKT rfl rfl iKeys (by rfl) (z := lV zL) (by kernel_rfl) hq2 i rfl hy) rfl rfl rfl ?_)
        refine LL.val (R.move rfl rfl) rfl rfl rfl ?_
        refine LL.val (R.extract rfl rfl rfl) rfl rfl rfl ?_
        refine LL.val (R.extract rfl rfl rfl) rfl rfl rfl ?_
        have lg119 := rxg46.lt
        have lg120 := r2.lt
        refine LL.alloc ([Value.int IntKind.u64 0, Value.int IntKind.u64 0, Value.int IntKind.u64 0, Value.int IntKind.u64 0, Value.int IntKind.u64 0, Value.int IntKind.u64 0, Value.int IntKind.u64 0, Value.int IntKind.u64 0]) rfl rfl rfl rfl rfl ?_
        intro Wg122 gg123 egg123 rg124 zg125 bg121
        replace rxg46 := rxg46.up bg121
        replace cyg47 := cyg47.up bg121
        replace bg30 := bg30.trans (bg121.mono bg30.size)
        replace rg2 := rg2.up bg121
        replace q := q.trans (bg121.mono q.size)
        replace r2 := r2.up bg121
        replace hq2 := hq2.up bg121
        (refine LL.storeAll rfl rfl rfl rfl (lE_len _) (by assumption) rfl (lE_one _) rfl rfl ?_; intro Wg129 rxg130 grg127 zzg132; have cyg131 := ln_cells rxg130)
        have zgrg127 := grg127.size
        replace bg121 := bg121.grown grg127 bg121.size (by rintro k ⟨⟩; omega)
        replace rxg46 := rxg46.gr grg127 (by have := rxg46.lt; omega)
        replace cyg47 := cyg47.gr grg127 (by have := cyg47.lt; omega)
        replace bg30 := bg30.grown grg127 bg30.size (by rintro k ⟨⟩; omega)
        replace rg2 := rg2.gr grg127 (by have := rg2.lt; omega)
        replace q := q.grown grg127 q.size (by rintro k ⟨⟩; omega)
        replace r2 := r2.gr grg127 (by have := r2.lt; omega)
        replace hq2 := hq2.gr grg127 (by have := hq2.lt; omega)
        refine LL.val (R.assign rfl rfl) rfl rfl rfl ?_
        refine LL.nilS ?_
        refine CC.seq ?_
        refine CC.region ?_
        refine LL.val (R.move rfl rfl) rfl rfl rfl ?_
        refine LL.val (R.not rfl rfl) rfl rfl rfl ?_
        refine LL.val (R.move rfl rfl) rfl rfl rfl ?_
        refine LL.val (R.load rfl rfl (I.ldM (by assumption) rfl rfl)) rfl rfl rfl ?_
        refine LL.val (R.load rfl rfl (I.ldM (by assumption) rfl rfl)) rfl rfl rfl ?_
        (refine LL.val (R.neLT rfl rfl rfl (by rfl) rfl (by kernel_rfl) hxy) rfl rfl rfl ?_)
        refine LL.val (R.pick rfl rfl rfl) rfl rfl rfl ?_
        refine LL.nilS ?_
        refine CC.no rfl ?_
        refine CC.skip ?_
        refine EE.inN ?_
        refine EE.round ((fun a => left a ∧ a ≠ i), cn) ⟨rfl, rfl, rfl, trivial⟩ ⟨q, by omega, rg2, ?_⟩ (by show cn < cnt; exact hcn)
        intro j h1 h2
        by_cases hj : j = i
        · subst hj
          rw [hy, hfi, hxy]
        · exact hall j (fun hl => h1 ⟨hl, hj⟩) h2
      · rw [decide_eq_false fun e => by rw [e, hy] at hfi; exact hxy (Option.some.inj hfi)]
        refine LL.val (R.extract rfl rfl rfl) rfl rfl rfl ?_
        refine LL.nilS ?_
        refine CC.seq ?_
        refine CC.yes rfl ?_
        refine CC.skip ?_
        refine EE.thenN ?_
        refine CC.block ?_
        refine CC.seq ?_
        refine CC.region ?_
        (refine LL.val (R.entry rfl rfl hen) rfl rfl rfl ?_)
        refine LL.val (R.extract rfl rfl rfl) rfl rfl rfl ?_
        refine LL.val (R.extract rfl rfl rfl) rfl rfl rfl ?_
        have lh29 := r2.lt
        refine LL.alloc ([Value.int IntKind.u64 0, Value.int IntKind.u64 0, Value.int IntKind.u64 0, Value.int IntKind.u64 0, Value.int IntKind.u64 0, Value.int IntKind.u64 0, Value.int IntKind.u64 0, Value.int IntKind.u64 0]) rfl rfl rfl rfl rfl ?_
        intro Wh31 gh32 egh32 rh33 zh34 bh30
        replace rg2 := rg2.up bh30
        replace q := q.trans (bh30.mono q.size)
        replace r2 := r2.up bh30
        replace hq2 := hq2.up bh30
        refine LL.val (R.assign rfl rfl) rfl rfl rfl ?_
        (refine LL.storeAll rfl rfl rfl rfl (lE_len _) (by assumption) rfl (lE_one _) rfl rfl ?_; intro Wh45 rxh46 grh43 zzh48; have cyh47 := ln_cells rxh46)
        have zgrh43 := grh43.size
        replace bh30 := bh30.grown grh43 bh30.size (by rintro k ⟨⟩; omega)
        replace rg2 := rg2.gr grh43 (by have := rg2.lt; omega)
        replace q := q.grown grh43 q.size (by rintro k ⟨⟩; omega)
        replace r2 := r2.gr grh43 (by have := r2.lt; omega)
        replace hq2 := hq2.gr grh43 (by have := hq2.lt; omega)
        refine LL.nilS ?_
        refine CC.seq ?_
        refine CC.region ?_
        refine LL.val (R.move rfl rfl) rfl rfl rfl ?_
        refine LL.val (R.nil rfl rfl) rfl rfl rfl ?_
        refine LL.val (R.field rfl rfl (I.fld rfl)) rfl rfl rfl ?_
        refine LL.val (R.load rfl rfl (I.ld1 rfl (RowL.cell r2 rfl))) rfl rfl rfl ?_
        refine LL.val (R.move rfl rfl) rfl rfl rfl ?_
        (refine LL.val (R.lookKT rfl rfl iKeys (by rfl) (z := lV zL) (by kernel_rfl) hq2 i rfl hy) rfl rfl rfl ?_)
        refine LL.val (R.move rfl rfl) rfl rfl rfl ?_
        refine LL.val (R.extract rfl rfl rfl) rfl rfl rfl ?_
        refine LL.val (R.extract rfl rfl rfl) rfl rfl rfl ?_
        have lh119 := rxh46.lt
        have lh120 := r2.lt
        refine LL.alloc ([Value.int IntKind.u64 0, Value.int IntKind.u64 0, Value.int IntKind.u64 0, Value.int IntKind.u64 0, Value.int IntKind.u64 0, Value.int IntKind.u64 0, Value.int IntKind.u64 0, Value.int IntKind.u64 0]) rfl rfl rfl rfl rfl ?_
        intro Wh122 gh123 egh123 rh124 zh125 bh121
        replace rxh46 := rxh46.up bh121
        replace cyh47 := cyh47.up bh121
        replace bh30 := bh30.trans (bh121.mono bh30.size)
        replace rg2 := rg2.up bh121
        replace q := q.trans (bh121.mono q.size)
        replace r2 := r2.up bh121
        replace hq2 := hq2.up bh121
        (refine LL.storeAll rfl rfl rfl rfl (lE_len _) (by assumption) rfl (lE_one _) rfl rfl ?_; intro Wh129 rxh130 grh127 zzh132; have cyh131 := ln_cells rxh130)
        have zgrh127 := grh127.size
        replace bh121 := bh121.grown grh127 bh121.size (by rintro k ⟨⟩; omega)
        replace rxh46 := rxh46.gr grh127 (by have := rxh46.lt; omega)
        replace cyh47 := cyh47.gr grh127 (by have := cyh47.lt; omega)
        replace bh30 := bh30.grown grh127 bh30.size (by rintro k ⟨⟩; omega)
        replace rg2 := rg2.gr grh127 (by have := rg2.lt; omega)
        replace q := q.grown grh127 q.size (by rintro k ⟨⟩; omega)
        replace r2 := r2.gr grh127 (by have := r2.lt; omega)
        replace hq2 := hq2.gr grh127 (by have := hq2.lt; omega)
        refine LL.val (R.assign rfl rfl) rfl rfl rfl ?_
        refine LL.nilS ?_
        refine CC.seq ?_
        refine CC.region ?_
        refine LL.val (R.move rfl rfl) rfl rfl rfl ?_
        refine LL.val (R.not rfl rfl) rfl rfl rfl ?_
        refine LL.val (R.move rfl rfl) rfl rfl rfl ?_
        refine LL.val (R.load rfl rfl (I.ldM (by assumption) rfl rfl)) rfl rfl rfl ?_
        refine LL.val (R.load rfl rfl (I.ldM (by assumption) rfl rfl)) rfl rfl rfl ?_
        (refine LL.val (R.neLF rfl rfl rfl (by rfl) rfl (by kernel_rfl) hxy) rfl rfl rfl ?_)
        refine LL.val (R.pick rfl rfl rfl) rfl rfl rfl ?_
        refine LL.nilS ?_
        refine CC.yes rfl ?_
        refine CC.seq ?_
        refine CC.region ?_
        refine LL.val (R.assign rfl rfl) rfl rfl rfl ?_
        refine LL.nilS ?_
        refine CC.ret ?_
        refine EE.inR ?_
        refine EE.thenR ?_
        refine EE.inR ?_
        refine EE.thenR ?_
        refine EE.ret _ rfl rfl ?_
        exact ⟨rfl, q⟩
/-- Is a line open? -/
def opC (c : Cl) : Prop := c.1 ≠ c.2.1 ∨ ∃ x, c.2.2 = some x ∧ x ≠ c.2.1
instance (c : Cl) : Decidable (opC c) := by
  unfold opC
  cases h : c.2.2 with
  | none => exact decidable_of_iff (c.1 ≠ c.2.1) ⟨.inl, fun h => h.elim id fun ⟨x, e, _⟩ => by cases e⟩
  | some x => exact decidable_of_iff (c.1 ≠ c.2.1 ∨ x ≠ c.2.1) ⟨fun h => h.imp id fun h => ⟨x, rfl, h⟩, fun h => h.imp id fun ⟨y, e, h⟩ => by cases e; exact h⟩
/-- The first k lines that are open. -/
def opF (s : List Cl) : Nat → List Nat
  | 0 => []
  | k + 1 => opF s k ++ match s[k]? with
    | some c => if opC c then [k] else []
    | none => []
def opS (s : List Cl) : List Nat := opF s s.length
theorem opF_pre (s : List Cl) (j k : Nat) (h : j ≤ k) : opF s j <+: opF s k := by
  induction k with
  | zero => obtain rfl : j = 0 := by omega
            exact List.prefix_refl _
  | succ k ih =>
    by_cases hj : j = k + 1
    · subst hj; exact List.prefix_refl _
    · exact (ih (by omega)).trans (List.prefix_append _ _)
theorem opF_yes {s : List Cl} {k : Nat} {c : Cl} (hc : s[k]? = some c) (h : opC c) : opF s (k + 1) = opF s k ++ [k] := by
  show opF s k ++ (match s[k]? with | some c => if opC c then [k] else [] | none => []) = _
  rw [hc]
  simp only [if_pos h]
theorem opF_no {s : List Cl} {k : Nat} {c : Cl} (hc : s[k]? = some c) (h : ¬opC c) : opF s (k + 1) = opF s k := by
  show opF s k ++ (match s[k]? with | some c => if opC c then [k] else [] | none => []) = _
  rw [hc]
  simp only [if_neg h, List.append_nil]
theorem opF_lt {s : List Cl} : ∀ {k : Nat}, ∀ i ∈ opF s k, i < k ∧ ∃ c, s[i]? = some c ∧ opC c
  | 0, i, h => by cases h
  | k + 1, i, h => by
    rcases List.mem_append.1 h with h | h
    · obtain ⟨h1, h2⟩ := opF_lt i h
      exact ⟨by omega, h2⟩
    · cases hc : s[k]? with
      | none => rw [hc] at h; cases h
      | some c =>
        rw [hc] at h
        simp only at h
        split at h
        · rename_i ho
          obtain rfl := List.mem_singleton.1 h
          exact ⟨by omega, c, hc, ho⟩
        · cases h
theorem opF_len {s : List Cl} : ∀ (k : Nat), (opF s k).length ≤ k
  | 0 => Nat.le_refl _
  | k + 1 => by
    have := opF_len (s := s) k
    show (opF s k ++ _).length ≤ _
    rw [List.length_append]
    have : (match s[k]? with | some c => if opC c then [k] else [] | none => [] : List Nat).length ≤ 1 := by
      split
      · split <;> simp
      · simp
    omega
theorem Mem.gr {w w' : World} {m gn gl qb N g : Nat} {s : List Cl} (M : Mem w m gn gl qb N s) (h : w.grownBy w' (some g)) (hne : m ≠ g ∧ gn ≠ g ∧ gl ≠ g ∧ qb ≠ g) : Mem w' m gn gl qb N s :=
  ⟨M.row.gr h hne.1, M.now.gr h hne.2.1, M.last.gr h hne.2.2.1, M.qs.gr h hne.2.2.2, M.len, M.pos, M.le, M.ne⟩
theorem Mem.keeps {w w' : World} {m gn gl qb N : Nat} {s : List Cl} {D : Nat → Prop} (M : Mem w m gn gl qb N s) (k : Keeps D w w') (h1 : D m) (h2 : D gn) (h3 : D gl) (h4 : D qb) : Mem w' m gn gl qb N s :=
  ⟨M.row.same (k.same m h1), M.now.same (k.same gn h2), M.last.same (k.same gl h3), M.qs.same (k.same qb h4), M.len, M.pos, M.le, M.ne⟩
def iE (n : Nat) : List Value := [.int .i64 (n : Int)]
set_option maxRecDepth 100000
set_option maxHeartbeats 8000000
theorem open1_gives (bk m gn gl qb N : Nat) (s : List Cl) (w : World) (hb : RowL w bk 26 [.pointer (some ⟨m, 0, none⟩)]) (M : Mem w m gn gl qb N s) :
    GivesZ Try.prog 62 [Value.pointer (some ⟨bk, 0, none⟩)].toArray (fun x => (iE x).toArray) (fun k => k = bk ∨ k = m ∨ k = gn ∨ k = gl ∨ k = qb) (fun xs => xs = opS s) w := by
  intro lp J Jx W hW hJ hJx hY h0
  replace hb := hb.up hW
  replace M := M.up hW
  have q := Below.refl W.heap.size W
  rw [show (#[.func (.yield lp) #[] #[]] ++ [Value.pointer (some ⟨bk, 0, none⟩)].toArray : Array Value) = #[.func (.yield lp) #[] #[], .pointer (some ⟨bk, 0, none⟩)] from rfl]
  have hr := M.row
  have hpos := M.pos
  have hN := M.le
  have hl := M.len
  have lts := M.lts
  have lb := hb.lt
  refine X.fn Try.func62 rfl (n := 51) rfl rfl ?_
  refine CC.seq ?_
  refine CC.region ?_
  refine LL.val (R.load rfl rfl (I.ld1 rfl (RowL.cell hb rfl))) rfl rfl rfl ?_
  refine LL.val (R.nil rfl rfl) rfl rfl rfl ?_
  refine LL.val (R.field rfl rfl (I.fld rfl)) rfl rfl rfl ?_
  refine LL.val (R.load rfl rfl (I.ld1 rfl (RowL.cell hr rfl))) rfl rfl rfl ?_
  refine LL.val (R.len rfl rfl rfl rfl) rfl rfl rfl ?_
  refine LL.val (R.move rfl rfl) rfl rfl rfl ?_
  refine LL.nilS ?_
  refine CC.block ?_
  refine CC.loop (α := Nat) (fun i => [(0, .func (.yield lp) #[] #[]), (1, .pointer (some ⟨bk, 0, none⟩)), (10, .slice (some ⟨gl, 0, none⟩) N N), (11, .int .i64 (N : Int)), (12, .int .i64 (i : Int))])
    (fun i wr => i ≤ N ∧ W.heap.size ≤ wr.heap.size ∧ J (fun _ => False) (opF s i) wr ∧ RowL wr bk 26 [.pointer (some ⟨m, 0, none⟩)] ∧ Mem wr m gn gl qb N s) (fun i => N - i)
    0 ⟨rfl, rfl, rfl, rfl, rfl, trivial⟩ ⟨by show 0 ≤ N; omega, Nat.le_refl _, h0, hb, M⟩ ?_
  clear h0 q hb M hr
  rintro i wr ⟨hi, hz, hJi, hb, M⟩
  show CC none Try.prog _ 51 [] (sl [(0, .func (.yield lp) #[] #[]), (1, .pointer (some ⟨bk, 0, none⟩)), (10, .slice (some ⟨gl, 0, none⟩) N N), (11, .int .i64 (N : Int)), (12, .int .i64 (i : Int))]) _ wr
  by_cases hlt : i < N
  case neg =>
    obtain rfl : i = N := by omega
    rw [← hl] at hJi
    refine CC.seq ?_
    refine CC.region ?_
    refine LL.val (R.ltF rfl rfl rfl (by omega)) rfl rfl rfl ?_
    refine LL.nilS ?_
    refine CC.seq ?_
    refine CC.no rfl ?_
    refine CC.exit ?_
    refine EE.thenX ?_
    refine EE.thenX ?_
    refine EE.inX ?_
    refine EE.end _ rfl rfl ?_
    exact ⟨⟨_, rfl⟩, .inl ⟨_, _, rfl, hJi⟩⟩
  obtain ⟨c, hc⟩ : ∃ c, s[i]? = some c := ⟨_, List.getElem?_eq_getElem (by omega)⟩
  have hr := M.row
  have hq := M.qs
  have qn := Below.refl wr.heap.size wr
  have m1 : CellsN wr ⟨gl, 0 + i * 8, none⟩ 8 (lE c.2.1) := by rw [Nat.zero_add]; exact RowL.elemN (enc := lastE) (x := c) lastEnc M.last hc
  have m2 : CellsN wr ⟨gn, 0 + i * 8, none⟩ 8 (lE c.1) := by rw [Nat.zero_add]; exact RowL.elemN (enc := nowE) (x := c) nowEnc M.now hc
  have hqa := qF_at hc
  have lw := M.lts
  have lbw := hb.lt
  by_cases ho : opC c
  case neg =>
    have hno := opF_no hc ho
    have h1 : c.1 = c.2.1 := Decidable.not_not.1 fun h => ho (.inl h)
    have fin : ∀ Wf, Below wr.heap.size wr Wf → RowL Wf bk 26 [.pointer (some ⟨m, 0, none⟩)] → Mem Wf m gn gl qb N s → W.heap.size ≤ Wf.heap.size ∧ J (fun _ => False) (opF s (i + 1)) Wf := fun Wf b _ _ => ⟨by have := b.size; omega, by rw [hno]; exact hJ _ _ _ _ _ hJi (.of_below b) fun k hk => hk.elim⟩
    cases hx : c.2.2 with
    | none =>
      rw [hx] at hqa
      refine CC.seq ?_
      refine CC.region ?_
      refine LL.val (R.ltT rfl rfl rfl (by omega)) rfl rfl rfl ?_
      refine LL.nilS ?_
      refine CC.seq ?_
      refine CC.yes rfl ?_
      refine CC.skip ?_
      refine EE.thenN ?_
      refine CC.seq ?_
      refine CC.block ?_
      refine CC.seq ?_
      refine CC.region ?_
      refine LL.val (R.move rfl rfl) rfl rfl rfl ?_
      refine LL.val (R.index rfl rfl rfl (I.ixS rfl (by omega))) rfl rfl rfl ?_
      refine LL.val (R.load rfl rfl (I.ldM (by assumption) rfl rfl)) rfl rfl rfl ?_
      have lb36 := hb.lt
      have lb37 := hr.lt
      refine LL.alloc ([Value.int IntKind.u64 0, Value.int IntKind.u64 0, Value.int IntKind.u64 0, Value.int IntKind.u64 0, Value.int IntKind.u64 0, Value.int IntKind.u64 0, Value.int IntKind.u64 0, Value.int IntKind.u64 0]) rfl rfl rfl rfl rfl ?_
      intro Wb39 gb40 egb40 rb41 zb42 bb38
      replace hb := hb.up bb38
      replace M := M.up bb38
      replace hr := hr.up bb38
      replace hq := hq.up bb38
      replace qn := qn.trans (bb38.mono qn.size)
      replace m1 := m1.up bb38
      replace m2 := m2.up bb38
      refine LL.val (R.assign rfl rfl) rfl rfl rfl ?_
      (refine LL.storeAll rfl rfl rfl rfl (lE_len _) (by assumption) rfl (lE_one _) rfl rfl ?_; intro Wb53 rxb54 grb51 zzb56; have cyb55 := ln_cells rxb54)
      have zgrb51 := grb51.size
      replace bb38 := bb38.grown grb51 bb38.size (by rintro k ⟨⟩; omega)
      replace hb := hb.gr grb51 (by have := hb.lt; omega)
      replace M := M.gr grb51 (by omega)
      replace hr := hr.gr grb51 (by have := hr.lt; omega)
      replace hq := hq.gr grb51 (by have := hq.lt; omega)
      replace qn := qn.grown grb51 qn.size (by rintro k ⟨⟩; omega)
      replace m1 := m1.gr grb51 (by have := m1.lt; omega)
      replace m2 := m2.gr grb51 (by have := m2.lt; omega)
      refine LL.nilS ?_
      refine CC.seq ?_
      refine CC.region ?_
      refine LL.val (R.load rfl rfl (I.ld1 rfl (RowL.cell hb rfl))) rfl rfl rfl ?_
      refine LL.val (R.nil rfl rfl) rfl rfl rfl ?_
      refine LL.val (R.field rfl rfl (I.fld rfl)) rfl rfl rfl ?_
      refine LL.val (R.load rfl rfl (I.ld1 rfl (RowL.cell hr rfl))) rfl rfl rfl ?_
      refine LL.val (R.move rfl rfl) rfl rfl rfl ?_
      (refine LL.val (R.lookKF (z := lV zL) rfl rfl iKeys (by rfl) (by kernel_rfl) hq i rfl hqa) rfl rfl rfl ?_)
      refine LL.val (R.move rfl rfl) rfl rfl rfl ?_
      refine LL.val (R.extract rfl rfl rfl) rfl rfl rfl ?_
      refine LL.val (R.extract rfl rfl rfl) rfl rfl rfl ?_
      have lb127 := rxb54.lt
      have lb128 := hb.lt
      have lb129 := hr.lt
      refine LL.alloc ([Value.int IntKind.u64 0, Value.int IntKind.u64 0, Value.int IntKind.u64 0, Value.int IntKind.u64 0, Value.int IntKind.u64 0, Value.int IntKind.u64 0, Value.int IntKind.u64 0, Value.int IntKind.u64 0]) rfl rfl rfl rfl rfl ?_
      intro Wb131 gb132 egb132 rb133 zb134 bb130
      replace rxb54 := rxb54.up bb130
      replace cyb55 := cyb55.up bb130
      replace bb38 := bb38.trans (bb130.mono bb38.size)
      replace hb := hb.up bb130
      replace M := M.up bb130
      replace hr := hr.up bb130
      replace hq := hq.up bb130
      replace qn := qn.trans (bb130.mono qn.size)
      replace m1 := m1.up bb130
      replace m2 := m2.up bb130
      refine LL.storeN (vs := [(fun n => Value.int IntKind.u64 ↑n) 0, (fun n => Value.int IntKind.u64 ↑n) 0, (fun n => Value.int IntKind.u64 ↑n) 0, (fun n => Value.int IntKind.u64 ↑n) 0, (fun n => Value.int IntKind.u64 ↑n) 0, (fun n => Value.int IntKind.u64 ↑n) 0, (fun n => Value.int IntKind.u64 ↑n) 0, (fun n => Value.int IntKind.u64 ↑n) 0]) rfl rfl rfl rfl rb133 (by exact Nat.le_of_ble_eq_true rfl) (ones_of rfl) rfl rfl ?_
      intro Wb143 rb144 bb142 zb145
      have hlbb142 := rb133.lt
      replace rb144 : RowL Wb143 _ 79 [(fun n => Value.int IntKind.u64 ↑n) 0, (fun n => Value.int IntKind.u64 ↑n) 0, (fun n => Value.int IntKind.u64 ↑n) 0, (fun n => Value.int IntKind.u64 ↑n) 0, (fun n => Value.int IntKind.u64 ↑n) 0, (fun n => Value.int IntKind.u64 ↑n) 0, (fun n => Value.int IntKind.u64 ↑n) 0, (fun n => Value.int IntKind.u64 ↑n) 0] := rb144
      clear rb133
      replace bb130 := bb130.grown bb142 bb130.size (by rintro k ⟨⟩; omega)
      replace rxb54 := rxb54.gr bb142 (by have := rxb54.lt; omega)
      replace cyb55 := cyb55.gr bb142 (by have := cyb55.lt; omega)
      replace bb38 := bb38.grown bb142 bb38.size (by rintro k ⟨⟩; omega)
      replace hb := hb.gr bb142 (by have := hb.lt; omega)
      replace M := M.gr bb142 (by omega)
      replace hr := hr.gr bb142 (by have := hr.lt; omega)
      replace hq := hq.gr bb142 (by have := hq.lt; omega)
      replace qn := qn.grown bb142 qn.size (by rintro k ⟨⟩; omega)
      replace m1 := m1.gr bb142 (by have := m1.lt; omega)
      replace m2 := m2.gr bb142 (by have := m2.lt; omega)
      have rb133 := rb144
      clear rb144
      refine LL.val (R.assign rfl rfl) rfl rfl rfl ?_
      refine LL.nilS ?_
      refine CC.seq ?_
      refine CC.growT 21 (by kernel_rfl) (by kernel_rfl) ?_
      refine GG.val (fun w' b' => R.load rfl rfl (I.ld1 rfl (RowL.cell (hb.up b') rfl))) rfl rfl ?_
      refine GG.val (fun w' b' => R.nil rfl rfl) rfl rfl ?_
      refine GG.val (fun w' b' => R.field rfl rfl (I.fld rfl)) rfl rfl ?_
      refine GG.val (fun w' b' => R.field rfl rfl (I.fld rfl)) rfl rfl ?_
      refine GG.val (fun w' b' => R.load rfl rfl (I.ld1 rfl (RowL.cell (hr.up b') rfl))) rfl rfl ?_
      refine GG.val (fun w' b' => R.move rfl rfl) rfl rfl ?_
      refine GG.val (fun w' b' => R.index rfl rfl rfl (I.ixS rfl (by omega))) rfl rfl ?_
      refine GG.val (fun w' b' => R.load rfl rfl (I.ldM (CellsN.up (by assumption) b') rfl rfl)) rfl rfl ?_
      refine GG.val (fun w' b' => R.load rfl rfl (I.ldM (CellsN.up (by assumption) b') rfl rfl)) rfl rfl ?_
      (refine GG.val (fun w' b' => R.neLT rfl rfl rfl (by rfl) rfl (by kernel_rfl) h1) rfl rfl ?_)
      refine GG.val (fun w' b' => R.move rfl rfl) rfl rfl ?_
      refine GG.val (fun w' b' => R.move rfl rfl) rfl rfl ?_
      refine GG.val (fun w' b' => R.move rfl rfl) rfl rfl ?_
      refine GG.skip rfl rfl ?_
      refine GG.skip rfl rfl ?_
      refine GG.skip rfl rfl ?_
      refine GG.val (fun w' b' => R.pick rfl rfl rfl) rfl rfl ?_
      refine GG.val (fun w' b' => R.pick rfl rfl rfl) rfl rfl ?_
      refine GG.val (fun w' b' => R.move rfl rfl) rfl rfl ?_
      refine GG.skip rfl rfl ?_
      refine GG.skip rfl rfl ?_
      refine GG.nil (fun Wb269 bb268 => ?_)
      have zbb268 := bb268.size
      replace bb130 := bb130.trans (bb268.mono bb130.size)
      replace rxb54 := rxb54.up bb268
      replace cyb55 := cyb55.up bb268
      replace bb38 := bb38.trans (bb268.mono bb38.size)
      replace hb := hb.up bb268
      replace M := M.up bb268
      replace hr := hr.up bb268
      replace hq := hq.up bb268
      replace qn := qn.trans (bb268.mono qn.size)
      replace m1 := m1.up bb268
      replace m2 := m2.up bb268
      replace rb133 := rb133.up bb268
      refine LL.skip rfl rfl ?_
      refine LL.skip rfl rfl ?_
      refine LL.val (R.pick rfl rfl rfl) rfl rfl rfl ?_
      refine LL.nilS ?_
      refine CC.no rfl ?_
      refine CC.skip ?_
      refine EE.inN ?_
      refine EE.thenN ?_
      refine CC.region ?_
      refine LL.val (R.addNc rfl rfl rfl rfl (by omega)) rfl rfl rfl ?_
      refine LL.val (R.move rfl rfl) rfl rfl rfl ?_
      refine LL.nil ?_
      exact EE.round (i + 1) ⟨rfl, rfl, rfl, rfl, rfl, trivial⟩ ⟨by show i + 1 ≤ N; omega, (fin _ qn hb M).1, (fin _ qn hb M).2, hb, M⟩ (by show N - (i + 1) < N - i; omega)
    | some x =>
      rw [hx] at hqa
      have h2 : x = c.2.1 := Decidable.not_not.1 fun h => ho (.inr ⟨x, hx, h⟩)
      refine CC.seq ?_
      refine CC.region ?_
      refine LL.val (R.ltT rfl rfl rfl (by omega)) rfl rfl rfl ?_
      refine LL.nilS ?_
      refine CC.seq ?_
      refine CC.yes rfl ?_
      refine CC.skip ?_
      refine EE.thenN ?_
      refine CC.seq ?_
      refine CC.block ?_
      refine CC.seq ?_
      refine CC.region ?_
      refine LL.val (R.move rfl rfl) rfl rfl rfl ?_
      refine LL.val (R.index rfl rfl rfl (I.ixS rfl (by omega))) rfl rfl rfl ?_
      refine LL.val (R.load rfl rfl (I.ldM (by assumption) rfl rfl)) rfl rfl rfl ?_
      have lc36 := hb.lt
      have lc37 := hr.lt
      refine LL.alloc ([Value.int IntKind.u64 0, Value.int IntKind.u64 0, Value.int IntKind.u64 0, Value.int IntKind.u64 0, Value.int IntKind.u64 0, Value.int IntKind.u64 0, Value.int IntKind.u64 0, Value.int IntKind.u64 0]) rfl rfl rfl rfl rfl ?_
      intro Wc39 gc40 egc40 rc41 zc42 bc38
      replace hb := hb.up bc38
      replace M := M.up bc38
      replace hr := hr.up bc38
      replace hq := hq.up bc38
      replace qn := qn.trans (bc38.mono qn.size)
      replace m1 := m1.up bc38
      replace m2 := m2.up bc38
      refine LL.val (R.assign rfl rfl) rfl rfl rfl ?_
      (refine LL.storeAll rfl rfl rfl rfl (lE_len _) (by assumption) rfl (lE_one _) rfl rfl ?_; intro Wc53 rxc54 grc51 zzc56; have cyc55 := ln_cells rxc54)
      have zgrc51 := grc51.size
      replace bc38 := bc38.grown grc51 bc38.size (by rintro k ⟨⟩; omega)
      replace hb := hb.gr grc51 (by have := hb.lt; omega)
      replace M := M.gr grc51 (by omega)
      replace hr := hr.gr grc51 (by have := hr.lt; omega)
      replace hq := hq.gr grc51 (by have := hq.lt; omega)
      replace qn := qn.grown grc51 qn.size (by rintro k ⟨⟩; omega)
      replace m1 := m1.gr grc51 (by have := m1.lt; omega)
      replace m2 := m2.gr grc51 (by have := m2.lt; omega)
      refine LL.nilS ?_
      refine CC.seq ?_
      refine CC.region ?_
      refine LL.val (R.load rfl rfl (I.ld1 rfl (RowL.cell hb rfl))) rfl rfl rfl ?_
      refine LL.val (R.nil rfl rfl) rfl rfl rfl ?_
      refine LL.val (R.field rfl rfl (I.fld rfl)) rfl rfl rfl ?_
      refine LL.val (R.load rfl rfl (I.ld1 rfl (RowL.cell hr rfl))) rfl rfl rfl ?_
      refine LL.val (R.move rfl rfl) rfl rfl rfl ?_
      (refine LL.val (R.lookKT rfl rfl iKeys (by rfl) (z := lV zL) (by kernel_rfl) hq i rfl hqa) rfl rfl rfl ?_)
      refine LL.val (R.move rfl rfl) rfl rfl rfl ?_
      refine LL.val (R.extract rfl rfl rfl) rfl rfl rfl ?_
      refine LL.val (R.extract rfl rfl rfl) rfl rfl rfl ?_
      have lc127 := rxc54.lt
      have lc128 := hb.lt
      have lc129 := hr.lt
      refine LL.alloc ([Value.int IntKind.u64 0, Value.int IntKind.u64 0, Value.int IntKind.u64 0, Value.int IntKind.u64 0, Value.int IntKind.u64 0, Value.int IntKind.u64 0, Value.int IntKind.u64 0, Value.int IntKind.u64 0]) rfl rfl rfl rfl rfl ?_
      intro Wc131 gc132 egc132 rc133 zc134 bc130
      replace rxc54 := rxc54.up bc130
      replace cyc55 := cyc55.up bc130
      replace bc38 := bc38.trans (bc130.mono bc38.size)
      replace hb := hb.up bc130
      replace M := M.up bc130
      replace hr := hr.up bc130
      replace hq := hq.up bc130
      replace qn := qn.trans (bc130.mono qn.size)
      replace m1 := m1.up bc130
      replace m2 := m2.up bc130
      (refine LL.storeAll rfl rfl rfl rfl (lE_len _) (by assumption) rfl (lE_one _) rfl rfl ?_; intro Wc138 rxc139 grc136 zzc141; have cyc140 := ln_cells rxc139)
      have zgrc136 := grc136.size
      replace bc130 := bc130.grown grc136 bc130.size (by rintro k ⟨⟩; omega)
      replace rxc54 := rxc54.gr grc136 (by have := rxc54.lt; omega)
      replace cyc55 := cyc55.gr grc136 (by have := cyc55.lt; omega)
      replace bc38 := bc38.grown grc136 bc38.size (by rintro k ⟨⟩; omega)
      replace hb := hb.gr grc136 (by have := hb.lt; omega)
      replace M := M.gr grc136 (by omega)
      replace hr := hr.gr grc136 (by have := hr.lt; omega)
      replace hq := hq.gr grc136 (by have := hq.lt; omega)
      replace qn := qn.grown grc136 qn.size (by rintro k ⟨⟩; omega)
      replace m1 := m1.gr grc136 (by have := m1.lt; omega)
      replace m2 := m2.gr grc136 (by have := m2.lt; omega)
      refine LL.val (R.assign rfl rfl) rfl rfl rfl ?_
      refine LL.nilS ?_
      refine CC.seq ?_
      refine CC.growT 21 (by kernel_rfl) (by kernel_rfl) ?_
      refine GG.val (fun w' b' => R.load rfl rfl (I.ld1 rfl (RowL.cell (hb.up b') rfl))) rfl rfl ?_
      refine GG.val (fun w' b' => R.nil rfl rfl) rfl rfl ?_
      refine GG.val (fun w' b' => R.field rfl rfl (I.fld rfl)) rfl rfl ?_
      refine GG.val (fun w' b' => R.field rfl rfl (I.fld rfl)) rfl rfl ?_
      refine GG.val (fun w' b' => R.load rfl rfl (I.ld1 rfl (RowL.cell (hr.up b') rfl))) rfl rfl ?_
      refine GG.val (fun w' b' => R.move rfl rfl) rfl rfl ?_
      refine GG.val (fun w' b' => R.index rfl rfl rfl (I.ixS rfl (by omega))) rfl rfl ?_
      refine GG.val (fun w' b' => R.load rfl rfl (I.ldM (CellsN.up (by assumption) b') rfl rfl)) rfl rfl ?_
      refine GG.val (fun w' b' => R.load rfl rfl (I.ldM (CellsN.up (by assumption) b') rfl rfl)) rfl rfl ?_
      (refine GG.val (fun w' b' => R.neLT rfl rfl rfl (by rfl) rfl (by kernel_rfl) h1) rfl rfl ?_)
      refine GG.val (fun w' b' => R.move rfl rfl) rfl rfl ?_
      refine GG.val (fun w' b' => R.move rfl rfl) rfl rfl ?_
      refine GG.val (fun w' b' => R.move rfl rfl) rfl rfl ?_
      refine GG.val (fun w' b' => R.load rfl rfl (I.ldM (CellsN.up (by assumption) b') rfl rfl)) rfl rfl ?_
      refine GG.val (fun w' b' => R.load rfl rfl (I.ldM (CellsN.up (by assumption) b') rfl rfl)) rfl rfl ?_
      (refine GG.val (fun w' b' => R.neLT rfl rfl rfl (by rfl) rfl (by kernel_rfl) h2) rfl rfl ?_)
      refine GG.val (fun w' b' => R.pick rfl rfl rfl) rfl rfl ?_
      refine GG.val (fun w' b' => R.pick rfl rfl rfl) rfl rfl ?_
      refine GG.val (fun w' b' => R.move rfl rfl) rfl rfl ?_
      refine GG.skip rfl rfl ?_
      refine GG.skip rfl rfl ?_
      refine GG.nil (fun Wc286 bc285 => ?_)
      have zbc285 := bc285.size
      replace rxc139 := rxc139.up bc285
      replace cyc140 := cyc140.up bc285
      replace bc130 := bc130.trans (bc285.mono bc130.size)
      replace rxc54 := rxc54.up bc285
      replace cyc55 := cyc55.up bc285
      replace bc38 := bc38.trans (bc285.mono bc38.size)
      replace hb := hb.up bc285
      replace M := M.up bc285
      replace hr := hr.up bc285
      replace hq := hq.up bc285
      replace qn := qn.trans (bc285.mono qn.size)
      replace m1 := m1.up bc285
      replace m2 := m2.up bc285
      refine LL.skip rfl rfl ?_
      refine LL.skip rfl rfl ?_
      refine LL.val (R.pick rfl rfl rfl) rfl rfl rfl ?_
      refine LL.nilS ?_
      refine CC.no rfl ?_
      refine CC.skip ?_
      refine EE.inN ?_
      refine EE.thenN ?_
      refine CC.region ?_
      refine LL.val (R.addNc rfl rfl rfl rfl (by omega)) rfl rfl rfl ?_
      refine LL.val (R.move rfl rfl) rfl rfl rfl ?_
      refine LL.nil ?_
      exact EE.round (i + 1) ⟨rfl, rfl, rfl, rfl, rfl, trivial⟩ ⟨by show i + 1 ≤ N; omega, (fin _ qn hb M).1, (fin _ qn hb M).2, hb, M⟩ (by show N - (i + 1) < N - i; omega)
  have hys := opF_yes hc ho
  have hpart : Part (fun xs => xs = opS s) (opF s i ++ [i]) := ⟨_, rfl, by rw [← hys]; exact opF_pre s _ _ (by omega)⟩
  have fin : ∀ Wf, Below wr.heap.size wr Wf → J (fun _ => False) (opF s i) Wf := fun Wf b => hJ _ _ _ _ _ hJi (.of_below b) fun k hk => hk.elim
  have key : ∀ Wf, Below wr.heap.size wr Wf → YieldAt Fence.wide 3 Try.prog lp (iE i).toArray Wf fun e W' => StaysZ W.heap.size (fun _ => False) Wf W' ∧ ((e = .returned (.bool true) ∧ J (fun _ => False) (opF s i ++ [i]) W' ∧ Keeps (fun k => k = bk ∨ k = m ∨ k = gn ∨ k = gl ∨ k = qb) Wf W') ∨ (e = .returned (.bool false) ∧ Jx (fun _ => False) (opF s i ++ [i]) W')) :=
    fun Wf b => hY _ _ _ Wf (fun k hk => hk.elim) (fin Wf b) hpart
  clear hJi
  have yield : ∀ Wf, Below wr.heap.size wr Wf → RowL Wf bk 26 [.pointer (some ⟨m, 0, none⟩)] → Mem Wf m gn gl qb N s → YieldAt Fence.wide 3 Try.prog lp (iE i).toArray Wf fun e W' => (e = .returned (.bool true) ∧ W.heap.size ≤ W'.heap.size ∧ J (fun _ => False) (opF s (i + 1)) W' ∧ RowL W' bk 26 [.pointer (some ⟨m, 0, none⟩)] ∧ Mem W' m gn gl qb N s) ∨ (e = .returned (.bool false) ∧ Jx (fun _ => False) (opF s i ++ [i]) W') := fun Wf b hb M => by
    obtain ⟨fn, tm, ag, bd, hy, hR⟩ := key Wf b
    refine ⟨fn, tm, ag, bd, hy, hR.mono ?_⟩
    rintro e W' ⟨hs, (⟨rfl, h1, h2⟩ | ⟨rfl, h1⟩)⟩
    · exact .inl ⟨rfl, by have := hs.size; have := b.size; omega, by rw [hys]; exact h1, hb.same (h2.same bk (.inl rfl)), M.keeps h2 (.inr (.inl rfl)) (.inr (.inr (.inl rfl))) (.inr (.inr (.inr (.inl rfl)))) (.inr (.inr (.inr (.inr rfl))))⟩
    · exact .inr ⟨rfl, h1⟩
  clear key fin
  by_cases h1 : c.1 = c.2.1
  · obtain ⟨x, hx, h2⟩ : ∃ x, c.2.2 = some x ∧ x ≠ c.2.1 := ho.elim (fun h => absurd h1 h) id
    rw [hx] at hqa
    refine CC.seq ?_
    refine CC.region ?_
    refine LL.val (R.ltT rfl rfl rfl (by omega)) rfl rfl rfl ?_
    refine LL.nilS ?_
    refine CC.seq ?_
    refine CC.yes rfl ?_
    refine CC.skip ?_
    refine EE.thenN ?_
    refine CC.seq ?_
    refine CC.block ?_
    refine CC.seq ?_
    refine CC.region ?_
    refine LL.val (R.move rfl rfl) rfl rfl rfl ?_
    refine LL.val (R.index rfl rfl rfl (I.ixS rfl (by omega))) rfl rfl rfl ?_
    refine LL.val (R.load rfl rfl (I.ldM (by assumption) rfl rfl)) rfl rfl rfl ?_
    have ld36 := hb.lt
    have ld37 := hr.lt
    refine LL.alloc ([Value.int IntKind.u64 0, Value.int IntKind.u64 0, Value.int IntKind.u64 0, Value.int IntKind.u64 0, Value.int IntKind.u64 0, Value.int IntKind.u64 0, Value.int IntKind.u64 0, Value.int IntKind.u64 0]) rfl rfl rfl rfl rfl ?_
    intro Wd39 gd40 egd40 rd41 zd42 bd38
    replace hb := hb.up bd38
    replace M := M.up bd38
    replace hr := hr.up bd38
    replace hq := hq.up bd38
    replace qn := qn.trans (bd38.mono qn.size)
    replace m1 := m1.up bd38
    replace m2 := m2.up bd38
    refine LL.val (R.assign rfl rfl) rfl rfl rfl ?_
    (refine LL.storeAll rfl rfl rfl rfl (lE_len _) (by assumption) rfl (lE_one _) rfl rfl ?_; intro Wd53 rxd54 grd51 zzd56; have cyd55 := ln_cells rxd54)
    have zgrd51 := grd51.size
    replace bd38 := bd38.grown grd51 bd38.size (by rintro k ⟨⟩; omega)
    replace hb := hb.gr grd51 (by have := hb.lt; omega)
    replace M := M.gr grd51 (by omega)
    replace hr := hr.gr grd51 (by have := hr.lt; omega)
    replace hq := hq.gr grd51 (by have := hq.lt; omega)
    replace qn := qn.grown grd51 qn.size (by rintro k ⟨⟩; omega)
    replace m1 := m1.gr grd51 (by have := m1.lt; omega)
    replace m2 := m2.gr grd51 (by have := m2.lt; omega)
    refine LL.nilS ?_
    refine CC.seq ?_
    refine CC.region ?_
    refine LL.val (R.load rfl rfl (I.ld1 rfl (RowL.cell hb rfl))) rfl rfl rfl ?_
    refine LL.val (R.nil rfl rfl) rfl rfl rfl ?_
    refine LL.val (R.field rfl rfl (I.fld rfl)) rfl rfl rfl ?_
    refine LL.val (R.load rfl rfl (I.ld1 rfl (RowL.cell hr rfl))) rfl rfl rfl ?_
    refine LL.val (R.move rfl rfl) rfl rfl rfl ?_
    (refine LL.val (R.lookKT rfl rfl iKeys (by rfl) (z := lV zL) (by kernel_rfl) hq i rfl hqa) rfl rfl rfl ?_)
    refine LL.val (R.move rfl rfl) rfl rfl rfl ?_
    refine LL.val (R.extract rfl rfl rfl) rfl rfl rfl ?_
    refine LL.val (R.extract rfl rfl rfl) rfl rfl rfl ?_
    have ld127 := rxd54.lt
    have ld128 := hb.lt
    have ld129 := hr.lt
    refine LL.alloc ([Value.int IntKind.u64 0, Value.int IntKind.u64 0, Value.int IntKind.u64 0, Value.int IntKind.u64 0, Value.int IntKind.u64 0, Value.int IntKind.u64 0, Value.int IntKind.u64 0, Value.int IntKind.u64 0]) rfl rfl rfl rfl rfl ?_
    intro Wd131 gd132 egd132 rd133 zd134 bd130
    replace rxd54 := rxd54.up bd130
    replace cyd55 := cyd55.up bd130
    replace bd38 := bd38.trans (bd130.mono bd38.size)
    replace hb := hb.up bd130
    replace M := M.up bd130
    replace hr := hr.up bd130
    replace hq := hq.up bd130
    replace qn := qn.trans (bd130.mono qn.size)
    replace m1 := m1.up bd130
    replace m2 := m2.up bd130
    (refine LL.storeAll rfl rfl rfl rfl (lE_len _) (by assumption) rfl (lE_one _) rfl rfl ?_; intro Wd138 rxd139 grd136 zzd141; have cyd140 := ln_cells rxd139)
    have zgrd136 := grd136.size
    replace bd130 := bd130.grown grd136 bd130.size (by rintro k ⟨⟩; omega)
    replace rxd54 := rxd54.gr grd136 (by have := rxd54.lt; omega)
    replace cyd55 := cyd55.gr grd136 (by have := cyd55.lt; omega)
    replace bd38 := bd38.grown grd136 bd38.size (by rintro k ⟨⟩; omega)
    replace hb := hb.gr grd136 (by have := hb.lt; omega)
    replace M := M.gr grd136 (by omega)
    replace hr := hr.gr grd136 (by have := hr.lt; omega)
    replace hq := hq.gr grd136 (by have := hq.lt; omega)
    replace qn := qn.grown grd136 qn.size (by rintro k ⟨⟩; omega)
    replace m1 := m1.gr grd136 (by have := m1.lt; omega)
    replace m2 := m2.gr grd136 (by have := m2.lt; omega)
    refine LL.val (R.assign rfl rfl) rfl rfl rfl ?_
    refine LL.nilS ?_
    refine CC.seq ?_
    refine CC.growT 21 (by kernel_rfl) (by kernel_rfl) ?_
    refine GG.val (fun w' b' => R.load rfl rfl (I.ld1 rfl (RowL.cell (hb.up b') rfl))) rfl rfl ?_
    refine GG.val (fun w' b' => R.nil rfl rfl) rfl rfl ?_
    refine GG.val (fun w' b' => R.field rfl rfl (I.fld rfl)) rfl rfl ?_
    refine GG.val (fun w' b' => R.field rfl rfl (I.fld rfl)) rfl rfl ?_
    refine GG.val (fun w' b' => R.load rfl rfl (I.ld1 rfl (RowL.cell (hr.up b') rfl))) rfl rfl ?_
    refine GG.val (fun w' b' => R.move rfl rfl) rfl rfl ?_
    refine GG.val (fun w' b' => R.index rfl rfl rfl (I.ixS rfl (by omega))) rfl rfl ?_
    refine GG.val (fun w' b' => R.load rfl rfl (I.ldM (CellsN.up (by assumption) b') rfl rfl)) rfl rfl ?_
    refine GG.val (fun w' b' => R.load rfl rfl (I.ldM (CellsN.up (by assumption) b') rfl rfl)) rfl rfl ?_
    (refine GG.val (fun w' b' => R.neLT rfl rfl rfl (by rfl) rfl (by kernel_rfl) h1) rfl rfl ?_)
    refine GG.val (fun w' b' => R.move rfl rfl) rfl rfl ?_
    refine GG.val (fun w' b' => R.move rfl rfl) rfl rfl ?_
    refine GG.val (fun w' b' => R.move rfl rfl) rfl rfl ?_
    refine GG.val (fun w' b' => R.load rfl rfl (I.ldM (CellsN.up (by assumption) b') rfl rfl)) rfl rfl ?_
    refine GG.val (fun w' b' => R.load rfl rfl (I.ldM (CellsN.up (by assumption) b') rfl rfl)) rfl rfl ?_
    (refine GG.val (fun w' b' => R.neLF rfl rfl rfl (by rfl) rfl (by kernel_rfl) h2) rfl rfl ?_)
    refine GG.val (fun w' b' => R.pick rfl rfl rfl) rfl rfl ?_
    refine GG.val (fun w' b' => R.pick rfl rfl rfl) rfl rfl ?_
    refine GG.val (fun w' b' => R.move rfl rfl) rfl rfl ?_
    refine GG.val (fun w' b' => R.move rfl rfl) rfl rfl ?_
    refine GG.val (fun w' b' => R.move rfl rfl) rfl rfl ?_
    refine GG.nil (fun Wd300 bd299 => ?_)
    have zbd299 := bd299.size
    replace rxd139 := rxd139.up bd299
    replace cyd140 := cyd140.up bd299
    replace bd130 := bd130.trans (bd299.mono bd130.size)
    replace rxd54 := rxd54.up bd299
    replace cyd55 := cyd55.up bd299
    replace bd38 := bd38.trans (bd299.mono bd38.size)
    replace hb := hb.up bd299
    replace M := M.up bd299
    replace hr := hr.up bd299
    replace hq := hq.up bd299
    replace qn := qn.trans (bd299.mono qn.size)
    replace m1 := m1.up bd299
    replace m2 := m2.up bd299
    refine LL.yield (vs := iE i) rfl rfl rfl rfl rfl (yield _ qn hb M) ?_
    rintro e W4 (⟨rfl, z4, hJ4, hb4, M4⟩ | ⟨rfl, hJx4⟩)
    · refine ⟨_, rfl, ?_⟩
      clear hb M qn m1 m2 hq hr
      refine LL.val (R.not rfl rfl) rfl rfl rfl ?_
      refine LL.val (R.pick rfl rfl rfl) rfl rfl rfl ?_
      refine LL.nilS ?_
      refine CC.no rfl ?_
      refine CC.skip ?_
      refine EE.inN ?_
      refine EE.thenN ?_
      refine CC.region ?_
      refine LL.val (R.addNc rfl rfl rfl rfl (by omega)) rfl rfl rfl ?_
      refine LL.val (R.move rfl rfl) rfl rfl rfl ?_
      refine LL.nil ?_
      exact EE.round (i + 1) ⟨rfl, rfl, rfl, rfl, rfl, trivial⟩ ⟨by show i + 1 ≤ N; omega, z4, hJ4, hb4, M4⟩ (by show N - (i + 1) < N - i; omega)
    · refine ⟨_, rfl, ?_⟩
      clear hb M qn m1 m2 hq hr
      refine LL.val (R.not rfl rfl) rfl rfl rfl ?_
      refine LL.val (R.pick rfl rfl rfl) rfl rfl rfl ?_
      refine LL.nilS ?_
      refine CC.yes rfl ?_
      refine CC.ret ?_
      refine EE.inR ?_
      refine EE.thenR ?_
      refine EE.thenR ?_
      refine EE.inR ?_
      refine EE.ret _ rfl rfl ?_
      exact ⟨⟨_, rfl⟩, .inr ⟨_, _, hpart, hJx4⟩⟩
  · cases hx : c.2.2 with
    | none =>
      rw [hx] at hqa
      refine CC.seq ?_
      refine CC.region ?_
      refine LL.val (R.ltT rfl rfl rfl (by omega)) rfl rfl rfl ?_
      refine LL.nilS ?_
      refine CC.seq ?_
      refine CC.yes rfl ?_
      refine CC.skip ?_
      refine EE.thenN ?_
      refine CC.seq ?_
      refine CC.block ?_
      refine CC.seq ?_
      refine CC.region ?_
      refine LL.val (R.move rfl rfl) rfl rfl rfl ?_
      refine LL.val (R.index rfl rfl rfl (I.ixS rfl (by omega))) rfl rfl rfl ?_
      refine LL.val (R.load rfl rfl (I.ldM (by assumption) rfl rfl)) rfl rfl rfl ?_
      have lg36 := hb.lt
      have lg37 := hr.lt
      refine LL.alloc ([Value.int IntKind.u64 0, Value.int IntKind.u64 0, Value.int IntKind.u64 0, Value.int IntKind.u64 0, Value.int IntKind.u64 0, Value.int IntKind.u64 0, Value.int IntKind.u64 0, Value.int IntKind.u64 0]) rfl rfl rfl rfl rfl ?_
      intro Wg39 gg40 egg40 rg41 zg42 bg38
      replace hb := hb.up bg38
      replace M := M.up bg38
      replace hr := hr.up bg38
      replace hq := hq.up bg38
      replace qn := qn.trans (bg38.mono qn.size)
      replace m1 := m1.up bg38
      replace m2 := m2.up bg38
      refine LL.val (R.assign rfl rfl) rfl rfl rfl ?_
      (refine LL.storeAll rfl rfl rfl rfl (lE_len _) (by assumption) rfl (lE_one _) rfl rfl ?_; intro Wg53 rxg54 grg51 zzg56; have cyg55 := ln_cells rxg54)
      have zgrg51 := grg51.size
      replace bg38 := bg38.grown grg51 bg38.size (by rintro k ⟨⟩; omega)
      replace hb := hb.gr grg51 (by have := hb.lt; omega)
      replace M := M.gr grg51 (by omega)
      replace hr := hr.gr grg51 (by have := hr.lt; omega)
      replace hq := hq.gr grg51 (by have := hq.lt; omega)
      replace qn := qn.grown grg51 qn.size (by rintro k ⟨⟩; omega)
      replace m1 := m1.gr grg51 (by have := m1.lt; omega)
      replace m2 := m2.gr grg51 (by have := m2.lt; omega)
      refine LL.nilS ?_
      refine CC.seq ?_
      refine CC.region ?_
      refine LL.val (R.load rfl rfl (I.ld1 rfl (RowL.cell hb rfl))) rfl rfl rfl ?_
      refine LL.val (R.nil rfl rfl) rfl rfl rfl ?_
      refine LL.val (R.field rfl rfl (I.fld rfl)) rfl rfl rfl ?_
      refine LL.val (R.load rfl rfl (I.ld1 rfl (RowL.cell hr rfl))) rfl rfl rfl ?_
      refine LL.val (R.move rfl rfl) rfl rfl rfl ?_
      (refine LL.val (R.lookKF (z := lV zL) rfl rfl iKeys (by rfl) (by kernel_rfl) hq i rfl hqa) rfl rfl rfl ?_)
      refine LL.val (R.move rfl rfl) rfl rfl rfl ?_
      refine LL.val (R.extract rfl rfl rfl) rfl rfl rfl ?_
      refine LL.val (R.extract rfl rfl rfl) rfl rfl rfl ?_
      have lg127 := rxg54.lt
      have lg128 := hb.lt
      have lg129 := hr.lt
      refine LL.alloc ([Value.int IntKind.u64 0, Value.int IntKind.u64 0, Value.int IntKind.u64 0, Value.int IntKind.u64 0, Value.int IntKind.u64 0, Value.int IntKind.u64 0, Value.int IntKind.u64 0, Value.int IntKind.u64 0]) rfl rfl rfl rfl rfl ?_
      intro Wg131 gg132 egg132 rg133 zg134 bg130
      replace rxg54 := rxg54.up bg130
      replace cyg55 := cyg55.up bg130
      replace bg38 := bg38.trans (bg130.mono bg38.size)
      replace hb := hb.up bg130
      replace M := M.up bg130
      replace hr := hr.up bg130
      replace hq := hq.up bg130
      replace qn := qn.trans (bg130.mono qn.size)
      replace m1 := m1.up bg130
      replace m2 := m2.up bg130
      refine LL.storeN (vs := [(fun n => Value.int IntKind.u64 ↑n) 0, (fun n => Value.int IntKind.u64 ↑n) 0, (fun n => Value.int IntKind.u64 ↑n) 0, (fun n => Value.int IntKind.u64 ↑n) 0, (fun n => Value.int IntKind.u64 ↑n) 0, (fun n => Value.int IntKind.u64 ↑n) 0, (fun n => Value.int IntKind.u64 ↑n) 0, (fun n => Value.int IntKind.u64 ↑n) 0]) rfl rfl rfl rfl rg133 (by exact Nat.le_of_ble_eq_true rfl) (ones_of rfl) rfl rfl ?_
      intro Wg143 rg144 bg142 zg145
      have hlbg142 := rg133.lt
      replace rg144 : RowL Wg143 _ 79 [(fun n => Value.int IntKind.u64 ↑n) 0, (fun n => Value.int IntKind.u64 ↑n) 0, (fun n => Value.int IntKind.u64 ↑n) 0, (fun n => Value.int IntKind.u64 ↑n) 0, (fun n => Value.int IntKind.u64 ↑n) 0, (fun n => Value.int IntKind.u64 ↑n) 0, (fun n => Value.int IntKind.u64 ↑n) 0, (fun n => Value.int IntKind.u64 ↑n) 0] := rg144
      clear rg133
      replace bg130 := bg130.grown bg142 bg130.size (by rintro k ⟨⟩; omega)
      replace rxg54 := rxg54.gr bg142 (by have := rxg54.lt; omega)
      replace cyg55 := cyg55.gr bg142 (by have := cyg55.lt; omega)
      replace bg38 := bg38.grown bg142 bg38.size (by rintro k ⟨⟩; omega)
      replace hb := hb.gr bg142 (by have := hb.lt; omega)
      replace M := M.gr bg142 (by omega)
      replace hr := hr.gr bg142 (by have := hr.lt; omega)
      replace hq := hq.gr bg142 (by have := hq.lt; omega)
      replace qn := qn.grown bg142 qn.size (by rintro k ⟨⟩; omega)
      replace m1 := m1.gr bg142 (by have := m1.lt; omega)
      replace m2 := m2.gr bg142 (by have := m2.lt; omega)
      have rg133 := rg144
      clear rg144
      refine LL.val (R.assign rfl rfl) rfl rfl rfl ?_
      refine LL.nilS ?_
      refine CC.seq ?_
      refine CC.growT 21 (by kernel_rfl) (by kernel_rfl) ?_
      refine GG.val (fun w' b' => R.load rfl rfl (I.ld1 rfl (RowL.cell (hb.up b') rfl))) rfl rfl ?_
      refine GG.val (fun w' b' => R.nil rfl rfl) rfl rfl ?_
      refine GG.val (fun w' b' => R.field rfl rfl (I.fld rfl)) rfl rfl ?_
      refine GG.val (fun w' b' => R.field rfl rfl (I.fld rfl)) rfl rfl ?_
      refine GG.val (fun w' b' => R.load rfl rfl (I.ld1 rfl (RowL.cell (hr.up b') rfl))) rfl rfl ?_
      refine GG.val (fun w' b' => R.move rfl rfl) rfl rfl ?_
      refine GG.val (fun w' b' => R.index rfl rfl rfl (I.ixS rfl (by omega))) rfl rfl ?_
      refine GG.val (fun w' b' => R.load rfl rfl (I.ldM (CellsN.up (by assumption) b') rfl rfl)) rfl rfl ?_
      refine GG.val (fun w' b' => R.load rfl rfl (I.ldM (CellsN.up (by assumption) b') rfl rfl)) rfl rfl ?_
      (refine GG.val (fun w' b' => R.neLF rfl rfl rfl (by rfl) rfl (by kernel_rfl) h1) rfl rfl ?_)
      refine GG.val (fun w' b' => R.move rfl rfl) rfl rfl ?_
      refine GG.skip rfl rfl ?_
      refine GG.skip rfl rfl ?_
      refine GG.skip rfl rfl ?_
      refine GG.skip rfl rfl ?_
      refine GG.skip rfl rfl ?_
      refine GG.skip rfl rfl ?_
      refine GG.val (fun w' b' => R.pick rfl rfl rfl) rfl rfl ?_
      refine GG.val (fun w' b' => R.move rfl rfl) rfl rfl ?_
      refine GG.val (fun w' b' => R.move rfl rfl) rfl rfl ?_
      refine GG.val (fun w' b' => R.move rfl rfl) rfl rfl ?_
      refine GG.nil (fun Wg262 bg261 => ?_)
      have zbg261 := bg261.size
      replace bg130 := bg130.trans (bg261.mono bg130.size)
      replace rxg54 := rxg54.up bg261
      replace cyg55 := cyg55.up bg261
      replace bg38 := bg38.trans (bg261.mono bg38.size)
      replace hb := hb.up bg261
      replace M := M.up bg261
      replace hr := hr.up bg261
      replace hq := hq.up bg261
      replace qn := qn.trans (bg261.mono qn.size)
      replace m1 := m1.up bg261
      replace m2 := m2.up bg261
      replace rg133 := rg133.up bg261
      refine LL.yield (vs := iE i) rfl rfl rfl rfl rfl (yield _ qn hb M) ?_
      rintro e W4 (⟨rfl, z4, hJ4, hb4, M4⟩ | ⟨rfl, hJx4⟩)
      · refine ⟨_, rfl, ?_⟩
        clear hb M qn m1 m2 hq hr
        refine LL.val (R.not rfl rfl) rfl rfl rfl ?_
        refine LL.val (R.pick rfl rfl rfl) rfl rfl rfl ?_
        refine LL.nilS ?_
        refine CC.no rfl ?_
        refine CC.skip ?_
        refine EE.inN ?_
        refine EE.thenN ?_
        refine CC.region ?_
        refine LL.val (R.addNc rfl rfl rfl rfl (by omega)) rfl rfl rfl ?_
        refine LL.val (R.move rfl rfl) rfl rfl rfl ?_
        refine LL.nil ?_
        exact EE.round (i + 1) ⟨rfl, rfl, rfl, rfl, rfl, trivial⟩ ⟨by show i + 1 ≤ N; omega, z4, hJ4, hb4, M4⟩ (by show N - (i + 1) < N - i; omega)
      · refine ⟨_, rfl, ?_⟩
        clear hb M qn m1 m2 hq hr
        refine LL.val (R.not rfl rfl) rfl rfl rfl ?_
        refine LL.val (R.pick rfl rfl rfl) rfl rfl rfl ?_
        refine LL.nilS ?_
        refine CC.yes rfl ?_
        refine CC.ret ?_
        refine EE.inR ?_
        refine EE.thenR ?_
        refine EE.thenR ?_
        refine EE.inR ?_
        refine EE.ret _ rfl rfl ?_
        exact ⟨⟨_, rfl⟩, .inr ⟨_, _, hpart, hJx4⟩⟩
    | some x =>
      rw [hx] at hqa
      refine CC.seq ?_
      refine CC.region ?_
      refine LL.val (R.ltT rfl rfl rfl (by omega)) rfl rfl rfl ?_
      refine LL.nilS ?_
      refine CC.seq ?_
      refine CC.yes rfl ?_
      refine CC.skip ?_
      refine EE.thenN ?_
      refine CC.seq ?_
      refine CC.block ?_
      refine CC.seq ?_
      refine CC.region ?_
      refine LL.val (R.move rfl rfl) rfl rfl rfl ?_
      refine LL.val (R.index rfl rfl rfl (I.ixS rfl (by omega))) rfl rfl rfl ?_
      refine LL.val (R.load rfl rfl (I.ldM (by assumption) rfl rfl)) rfl rfl rfl ?_
      have lj36 := hb.lt
      have lj37 := hr.lt
      refine LL.alloc ([Value.int IntKind.u64 0, Value.int IntKind.u64 0, Value.int IntKind.u64 0, Value.int IntKind.u64 0, Value.int IntKind.u64 0, Value.int IntKind.u64 0, Value.int IntKind.u64 0, Value.int IntKind.u64 0]) rfl rfl rfl rfl rfl ?_
      intro Wj39 gj40 egj40 rj41 zj42 bj38
      replace hb := hb.up bj38
      replace M := M.up bj38
      replace hr := hr.up bj38
      replace hq := hq.up bj38
      replace qn := qn.trans (bj38.mono qn.size)
      replace m1 := m1.up bj38
      replace m2 := m2.up bj38
      refine LL.val (R.assign rfl rfl) rfl rfl rfl ?_
      (refine LL.storeAll rfl rfl rfl rfl (lE_len _) (by assumption) rfl (lE_one _) rfl rfl ?_; intro Wj53 rxj54 grj51 zzj56; have cyj55 := ln_cells rxj54)
      have zgrj51 := grj51.size
      replace bj38 := bj38.grown grj51 bj38.size (by rintro k ⟨⟩; omega)
      replace hb := hb.gr grj51 (by have := hb.lt; omega)
      replace M := M.gr grj51 (by omega)
      replace hr := hr.gr grj51 (by have := hr.lt; omega)
      replace hq := hq.gr grj51 (by have := hq.lt; omega)
      replace qn := qn.grown grj51 qn.size (by rintro k ⟨⟩; omega)
      replace m1 := m1.gr grj51 (by have := m1.lt; omega)
      replace m2 := m2.gr grj51 (by have := m2.lt; omega)
      refine LL.nilS ?_
      refine CC.seq ?_
      refine CC.region ?_
      refine LL.val (R.load rfl rfl (I.ld1 rfl (RowL.cell hb rfl))) rfl rfl rfl ?_
      refine LL.val (R.nil rfl rfl) rfl rfl rfl ?_
      refine LL.val (R.field rfl rfl (I.fld rfl)) rfl rfl rfl ?_
      refine LL.val (R.load rfl rfl (I.ld1 rfl (RowL.cell hr rfl))) rfl rfl rfl ?_
      refine LL.val (R.move rfl rfl) rfl rfl rfl ?_
      (refine LL.val (R.lookKT rfl rfl iKeys (by rfl) (z := lV zL) (by kernel_rfl) hq i rfl hqa) rfl rfl rfl ?_)
      refine LL.val (R.move rfl rfl) rfl rfl rfl ?_
      refine LL.val (R.extract rfl rfl rfl) rfl rfl rfl ?_
      refine LL.val (R.extract rfl rfl rfl) rfl rfl rfl ?_
      have lj127 := rxj54.lt
      have lj128 := hb.lt
      have lj129 := hr.lt
      refine LL.alloc ([Value.int IntKind.u64 0, Value.int IntKind.u64 0, Value.int IntKind.u64 0, Value.int IntKind.u64 0, Value.int IntKind.u64 0, Value.int IntKind.u64 0, Value.int IntKind.u64 0, Value.int IntKind.u64 0]) rfl rfl rfl rfl rfl ?_
      intro Wj131 gj132 egj132 rj133 zj134 bj130
      replace rxj54 := rxj54.up bj130
      replace cyj55 := cyj55.up bj130
      replace bj38 := bj38.trans (bj130.mono bj38.size)
      replace hb := hb.up bj130
      replace M := M.up bj130
      replace hr := hr.up bj130
      replace hq := hq.up bj130
      replace qn := qn.trans (bj130.mono qn.size)
      replace m1 := m1.up bj130
      replace m2 := m2.up bj130
      (refine LL.storeAll rfl rfl rfl rfl (lE_len _) (by assumption) rfl (lE_one _) rfl rfl ?_; intro Wj138 rxj139 grj136 zzj141; have cyj140 := ln_cells rxj139)
      have zgrj136 := grj136.size
      replace bj130 := bj130.grown grj136 bj130.size (by rintro k ⟨⟩; omega)
      replace rxj54 := rxj54.gr grj136 (by have := rxj54.lt; omega)
      replace cyj55 := cyj55.gr grj136 (by have := cyj55.lt; omega)
      replace bj38 := bj38.grown grj136 bj38.size (by rintro k ⟨⟩; omega)
      replace hb := hb.gr grj136 (by have := hb.lt; omega)
      replace M := M.gr grj136 (by omega)
      replace hr := hr.gr grj136 (by have := hr.lt; omega)
      replace hq := hq.gr grj136 (by have := hq.lt; omega)
      replace qn := qn.grown grj136 qn.size (by rintro k ⟨⟩; omega)
      replace m1 := m1.gr grj136 (by have := m1.lt; omega)
      replace m2 := m2.gr grj136 (by have := m2.lt; omega)
      refine LL.val (R.assign rfl rfl) rfl rfl rfl ?_
      refine LL.nilS ?_
      refine CC.seq ?_
      refine CC.growT 21 (by kernel_rfl) (by kernel_rfl) ?_
      refine GG.val (fun w' b' => R.load rfl rfl (I.ld1 rfl (RowL.cell (hb.up b') rfl))) rfl rfl ?_
      refine GG.val (fun w' b' => R.nil rfl rfl) rfl rfl ?_
      refine GG.val (fun w' b' => R.field rfl rfl (I.fld rfl)) rfl rfl ?_
      refine GG.val (fun w' b' => R.field rfl rfl (I.fld rfl)) rfl rfl ?_
      refine GG.val (fun w' b' => R.load rfl rfl (I.ld1 rfl (RowL.cell (hr.up b') rfl))) rfl rfl ?_
      refine GG.val (fun w' b' => R.move rfl rfl) rfl rfl ?_
      refine GG.val (fun w' b' => R.index rfl rfl rfl (I.ixS rfl (by omega))) rfl rfl ?_
      refine GG.val (fun w' b' => R.load rfl rfl (I.ldM (CellsN.up (by assumption) b') rfl rfl)) rfl rfl ?_
      refine GG.val (fun w' b' => R.load rfl rfl (I.ldM (CellsN.up (by assumption) b') rfl rfl)) rfl rfl ?_
      (refine GG.val (fun w' b' => R.neLF rfl rfl rfl (by rfl) rfl (by kernel_rfl) h1) rfl rfl ?_)
      refine GG.val (fun w' b' => R.move rfl rfl) rfl rfl ?_
      refine GG.skip rfl rfl ?_
      refine GG.skip rfl rfl ?_
      refine GG.skip rfl rfl ?_
      refine GG.skip rfl rfl ?_
      refine GG.skip rfl rfl ?_
      refine GG.skip rfl rfl ?_
      refine GG.val (fun w' b' => R.pick rfl rfl rfl) rfl rfl ?_
      refine GG.val (fun w' b' => R.move rfl rfl) rfl rfl ?_
      refine GG.val (fun w' b' => R.move rfl rfl) rfl rfl ?_
      refine GG.val (fun w' b' => R.move rfl rfl) rfl rfl ?_
      refine GG.nil (fun Wj258 bj257 => ?_)
      have zbj257 := bj257.size
      replace rxj139 := rxj139.up bj257
      replace cyj140 := cyj140.up bj257
      replace bj130 := bj130.trans (bj257.mono bj130.size)
      replace rxj54 := rxj54.up bj257
      replace cyj55 := cyj55.up bj257
      replace bj38 := bj38.trans (bj257.mono bj38.size)
      replace hb := hb.up bj257
      replace M := M.up bj257
      replace hr := hr.up bj257
      replace hq := hq.up bj257
      replace qn := qn.trans (bj257.mono qn.size)
      replace m1 := m1.up bj257
      replace m2 := m2.up bj257
      refine LL.yield (vs := iE i) rfl rfl rfl rfl rfl (yield _ qn hb M) ?_
      rintro e W4 (⟨rfl, z4, hJ4, hb4, M4⟩ | ⟨rfl, hJx4⟩)
      · refine ⟨_, rfl, ?_⟩
        clear hb M qn m1 m2 hq hr
        refine LL.val (R.not rfl rfl) rfl rfl rfl ?_
        refine LL.val (R.pick rfl rfl rfl) rfl rfl rfl ?_
        refine LL.nilS ?_
        refine CC.no rfl ?_
        refine CC.skip ?_
        refine EE.inN ?_
        refine EE.thenN ?_
        refine CC.region ?_
        refine LL.val (R.addNc rfl rfl rfl rfl (by omega)) rfl rfl rfl ?_
        refine LL.val (R.move rfl rfl) rfl rfl rfl ?_
        refine LL.nil ?_
        exact EE.round (i + 1) ⟨rfl, rfl, rfl, rfl, rfl, trivial⟩ ⟨by show i + 1 ≤ N; omega, z4, hJ4, hb4, M4⟩ (by show N - (i + 1) < N - i; omega)
      · refine ⟨_, rfl, ?_⟩
        clear hb M qn m1 m2 hq hr
        refine LL.val (R.not rfl rfl) rfl rfl rfl ?_
        refine LL.val (R.pick rfl rfl rfl) rfl rfl rfl ?_
        refine LL.nilS ?_
        refine CC.yes rfl ?_
        refine CC.ret ?_
        refine EE.inR ?_
        refine EE.thenR ?_
        refine EE.thenR ?_
        refine EE.inR ?_
        refine EE.ret _ rfl rfl ?_
        exact ⟨⟨_, rfl⟩, .inr ⟨_, _, hpart, hJx4⟩⟩
theorem iEnc : Enc iE 1 := ⟨fun _ => rfl, fun t u hu => by
  simp only [iE, List.mem_cons, List.not_mem_nil, or_false] at hu
  subst hu
  rfl, by decide⟩
theorem Try.infoInt : (Try.prog.info? 3).map (fun i => (i.zero, i.size, i.bytes)) = some (some (.int .i64 0), 1, 8) := by kernel_rfl
theorem ElIn : ElT Try.prog 59 3 (.int .i64 0) 1 8 := info_parts_t Try.underlying59 Try.infoInt rfl
set_option maxRecDepth 100000
set_option maxHeartbeats 8000000
theorem vals_any (a : Option Addr) (n cap : Nat) (w : World) : Calls Try.prog 55 #[.slice a n cap] w fun e w' => ∃ bk, e = .returned (.func (.func 66) #[] #[.pointer (some ⟨bk, 0, none⟩)]) ∧ RowL w' bk 59 [.slice a n cap] ∧ w.heap.size ≤ bk ∧ Below w.heap.size w w' := by
  have q := Below.refl w.heap.size w
  refine X.fn Try.func55 rfl (n := 4) rfl rfl ?_
  refine CC.seq ?_
  refine CC.region ?_
  refine LL.box [Value.slice a n cap] rfl rfl rfl rfl rfl ?_
  intro W2 g3 eg3 r4 z5 b1
  replace q := q.trans (b1.mono q.size)
  refine LL.val (R.assign rfl rfl) rfl rfl rfl ?_
  refine LL.nilS ?_
  refine CC.seq ?_
  refine CC.region ?_
  refine LL.val (R.func rfl rfl rfl) rfl rfl rfl ?_
  refine LL.val (R.assign rfl rfl) rfl rfl rfl ?_
  refine LL.nilS ?_
  refine CC.ret ?_
  refine EE.ret _ rfl rfl ?_
  exact ⟨_, rfl, by assumption, by omega, q⟩
--C pmem_Memory_open | open_any _ @w | ⟨@g, rfl, @r, @l, @b⟩
theorem open_any (m : Nat) (w : World) : Calls Try.prog 47 #[.pointer (some ⟨m, 0, none⟩)] w fun e w' => ∃ bk, e = .returned (.func (.func 62) #[] #[.pointer (some ⟨bk, 0, none⟩)]) ∧ RowL w' bk 26 [.pointer (some ⟨m, 0, none⟩)] ∧ w.heap.size ≤ bk ∧ Below w.heap.size w w' := by
  have q := Below.refl w.heap.size w
  refine X.fn Try.func47 rfl (n := 4) rfl rfl ?_
  refine CC.seq ?_
  refine CC.region ?_
  refine LL.box [Value.pointer (some { block := m, off := 0 })] rfl rfl rfl rfl rfl ?_
  intro W2 g3 eg3 r4 z5 b1
  replace q := q.trans (b1.mono q.size)
  refine LL.val (R.assign rfl rfl) rfl rfl rfl ?_
  refine LL.nilS ?_
  refine CC.seq ?_
  refine CC.region ?_
  refine LL.val (R.func rfl rfl rfl) rfl rfl rfl ?_
  refine LL.val (R.assign rfl rfl) rfl rfl rfl ?_
  refine LL.nilS ?_
  refine CC.ret ?_
  refine EE.ret _ rfl rfl ?_
  exact ⟨_, rfl, by assumption, by omega, q⟩
theorem vals1_gives (ns : List Nat) (a : Option Addr) (N cap bk bkl : Nat) (w : World) (hN : ns.length = N) (hN2 : N ≤ 1048576) (hc : RowL w bk 59 [.slice a N cap]) (hv : ReadsT iE 1 w (.slice a N cap) ns) (hbl : ∀ b off, a = some ⟨b, off, none⟩ → 0 < N → b = bkl) :
    GivesZ Try.prog 66 [Value.pointer (some ⟨bk, 0, none⟩)].toArray (fun x => (iE x).toArray) (fun k => k = bkl) (fun xs => xs = ns) w := by
  intro lp J Jx W hW hJ hJx hY h0
  have rc := hc.up hW
  have hvW := hv.up hW
  clear hc hv
  have q := Below.refl W.heap.size W
  rw [show (#[.func (.yield lp) #[] #[]] ++ [Value.pointer (some ⟨bk, 0, none⟩)].toArray : Array Value) = #[.func (.yield lp) #[] #[], .pointer (some ⟨bk, 0, none⟩)] from rfl]
  refine X.fn Try.func66 rfl (n := 16) rfl rfl ?_
  refine CC.seq ?_
  refine CC.region ?_
  refine LL.val (R.load rfl rfl (I.ld1 rfl (RowL.cell rc rfl))) rfl rfl rfl ?_
  refine LL.val (R.len rfl rfl rfl rfl) rfl rfl rfl ?_
  refine LL.val (R.move rfl rfl) rfl rfl rfl ?_
  refine LL.nilS ?_
  refine CC.block ?_
  refine CC.loop (α := Nat) (fun i => [(0, .func (.yield lp) #[] #[]), (5, .slice a N cap), (6, .int .i64 (N : Int)), (7, .int .i64 (i : Int))])
    (fun i wr => i ≤ N ∧ W.heap.size ≤ wr.heap.size ∧ J (fun _ => False) (ns.take i) wr ∧ ReadsT iE 1 wr (.slice a N cap) ns) (fun i => N - i)
    0 ⟨rfl, rfl, rfl, rfl, trivial⟩ ⟨by show 0 ≤ N; omega, Nat.le_refl _, h0, hvW⟩ ?_
  clear rc q hvW h0
  rintro i wr ⟨hi, hz, hJi, hv⟩
  show CC none Try.prog _ 16 [] (sl [(0, .func (.yield lp) #[] #[]), (5, .slice a N cap), (6, .int .i64 (N : Int)), (7, .int .i64 (i : Int))]) _ wr
  by_cases hlt : i < N
  case neg =>
    obtain rfl : i = N := by omega
    rw [← hN, List.take_length] at hJi
    refine CC.seq ?_
    refine CC.region ?_
    refine LL.val (R.ltF rfl rfl rfl (by omega)) rfl rfl rfl ?_
    refine LL.nilS ?_
    refine CC.seq ?_
    refine CC.no rfl ?_
    refine CC.exit ?_
    refine EE.thenX ?_
    refine EE.thenX ?_
    refine EE.inX ?_
    refine EE.end _ rfl rfl ?_
    exact ⟨⟨_, rfl⟩, .inl ⟨_, _, rfl, hJi⟩⟩
  obtain ⟨x, hx⟩ : ∃ x, ns[i]? = some x := ⟨_, List.getElem?_eq_getElem (by omega)⟩
  obtain ⟨bl, off, rfl, hbk, hcs⟩ := hv.one iEnc hx
  obtain rfl := hbl bl off rfl (by omega)
  have c1 : wr.cell? ⟨bl, off + i, none⟩ = some (.int .i64 (x : Int)) := hcs _ rfl
  have hst : ns.take (i + 1) = ns.take i ++ [x] := by rw [List.take_add_one, hx]; rfl
  have hpart : Part (fun xs => xs = ns) (ns.take i ++ [x]) := ⟨_, rfl, by rw [← hst]; exact List.take_prefix _ _⟩
  refine CC.seq ?_
  refine CC.region ?_
  refine LL.val (R.ltT rfl rfl rfl (by omega)) rfl rfl rfl ?_
  refine LL.nilS ?_
  refine CC.seq ?_
  refine CC.yes rfl ?_
  refine CC.skip ?_
  refine EE.thenN ?_
  refine CC.seq ?_
  refine CC.block ?_
  refine CC.seq ?_
  refine CC.region ?_
  refine LL.val (R.index rfl rfl rfl (I.ixS1 rfl (by omega))) rfl rfl rfl ?_
  refine LL.val (R.load rfl rfl (I.ld1 rfl (by assumption))) rfl rfl rfl ?_
  refine LL.val (R.assign rfl rfl) rfl rfl rfl ?_
  refine LL.nilS ?_
  refine CC.seq ?_
  refine CC.region ?_
  refine LL.val (R.move rfl rfl) rfl rfl rfl ?_
  refine LL.val (R.move rfl rfl) rfl rfl rfl ?_
  refine LL.yield (vs := iE x) rfl rfl rfl rfl rfl (hY _ _ _ wr (fun k hk => hk.elim) hJi hpart) ?_
  rintro e W4 ⟨hs4, (⟨rfl, hJ4, hb4⟩ | ⟨rfl, hJx4⟩)⟩
  · refine ⟨_, rfl, ?_⟩
    replace hv := hv.sameB hs4.size (fun o ho => (hb4.same bl rfl).trans ho)
    have y4 := hs4.size
    rw [← hst] at hJ4
    clear c1
    refine LL.val (R.not rfl rfl) rfl rfl rfl ?_
    refine LL.nilS ?_
    refine CC.no rfl ?_
    refine CC.skip ?_
    refine EE.inN ?_
    refine EE.thenN ?_
    refine CC.region ?_
    refine LL.val (R.addNc rfl rfl rfl rfl (by omega)) rfl rfl rfl ?_
    refine LL.val (R.move rfl rfl) rfl rfl rfl ?_
    refine LL.nil ?_
    exact EE.round (i + 1) ⟨rfl, rfl, rfl, rfl, trivial⟩ ⟨by show i + 1 ≤ N; omega, by omega, hJ4, hv⟩ (by show N - (i + 1) < N - i; omega)
  · refine ⟨_, rfl, ?_⟩
    clear c1
    refine LL.val (R.not rfl rfl) rfl rfl rfl ?_
    refine LL.nilS ?_
    refine CC.yes rfl ?_
    refine CC.ret ?_
    refine EE.inR ?_
    refine EE.thenR ?_
    refine EE.thenR ?_
    refine EE.inR ?_
    refine EE.ret _ rfl rfl ?_
    exact ⟨⟨_, rfl⟩, .inr ⟨_, _, hpart, hJx4⟩⟩
theorem appSeq_any (ns : List Nat) (gf : Nat) (lb : List Value) (Dk : Nat → Prop) (w : World) (eg : entB Try.prog gf = true) (hs : GivesZ Try.prog gf lb.toArray (fun x => (iE x).toArray) Dk (fun xs => xs = ns) w) (hDk : ∀ k, Dk k → k < w.heap.size) (hl : ns.length ≤ 1048576) :
    Calls Try.prog 67 #[.slice none 0 0, .func (.func gf) #[] lb.toArray] w fun e w' => ∃ v, e = .returned v ∧ OwnsT iE 1 w' w.heap.size 3 v ns ∧ Below w.heap.size w w' := by
  have q := Below.refl w.heap.size w
  refine X.fnM Try.func67 rfl (n := 13) rfl rfl ?_
  refine CC.seq ?_
  refine CC.region ?_
  refine LL.box [Value.slice none 0 0] rfl rfl rfl rfl rfl ?_
  intro W2 g3 eg3 r4 z5 b1
  replace q := q.trans (b1.mono q.size)
  refine LL.val (R.assign rfl rfl) rfl rfl rfl ?_
  refine LL.nilS ?_
  refine CC.seq ?_
  refine CC.seq ?_
  refine CC.region ?_
  refine LL.val (R.move rfl rfl) rfl rfl rfl ?_
  refine LL.nilS ?_
  refine CC.block ?_
  have yB := q.size
  have l4 := r4.lt
  refine CC.rangeZ (γ := Unit) (gf := gf) (lb := lb) (encs := iE) rfl eg hs q (fun k hk => by have := hDk k hk; omega) (fun _ => rfl) rfl
    (fun m (pre : List Nat) W' => Below w.heap.size w W' ∧ ∃ v, RowL W' g3 59 [v] ∧ OwnsT iE 1 W' W2.heap.size 3 v pre ∧ ∀ g, v.ownBlock = some g → ¬ m g)
    (fun _ _ _ => False)
    (fun W' => Below w.heap.size w W' ∧ ∃ v, RowL W' g3 59 [v] ∧ OwnsT iE 1 W' W2.heap.size 3 v ns)
    (by
      rintro m m' s X Y ⟨h1, v, h3, h4, h5⟩ ht hg
      exact ⟨h1.trans (ht.below yB h1.size), v, ht.row h3 (.inl l4), h4.turn ht h5, own_later h4 h5 hg⟩)
    (fun m m' s X Y hs ht hg => hs)
    ⟨q, _, r4, OwnsT.none _ _ _, fun g hg => by cases hg⟩ ?hIA (fun _ _ _ _ h => h.elim)
    (fun x _ => sl [(2, .pointer (some ⟨g3, 0, none⟩)), (5, .int .i64 (x : Int))]) (fun _ _ _ => True) (fun x c => fun _ W W' row h hg hr => trivial) ?assign ?body ?after
  case hIA =>
    rintro m xs W' rfl ⟨h1, v, h3, h4, _⟩
    exact ⟨h1, v, h3, h4⟩
  case assign =>
    rintro l' m pre x W K hm hI hK
    refine CC.region ?_
    refine LL.val (R.assign rfl rfl) rfl rfl rfl ?_
    refine LL.nil ?_
    exact EE.thenK fun a' F => hK a' _ () (StaysZ.refl _ _ _) (Keeps.refl _ _) hI (F.keep _ ⟨rfl, rfl, trivial⟩) trivial
  case body =>
    rintro l' m pre x c W hm hl' hrl ⟨q, v, r4, o, hmv⟩ _ hpart
    have st := StaysZ.refl W2.heap.size m W
    have kp := Keeps.refl Dk W
    have yq := q.size
    obtain ⟨_, hr0⟩ := hrl
    have hr1 := (Array.getElem?_eq_some_iff.1 hr0).1
    clear hr0
    have hDW : ∀ k, Dk k → k < W.heap.size := fun k hk => by have := hDk k hk; omega
    have hpl : pre.length + 1 ≤ 1048576 := by
      obtain ⟨_, rfl, hp⟩ := hpart
      have := hp.length_le
      rw [List.length_append] at this
      simp only [List.length_cons, List.length_nil] at this
      omega
    refine CC.block ?_
    refine CC.region ?_
    refine LL.val (R.load rfl rfl (I.ld1 rfl (RowL.cell r4 rfl))) rfl rfl rfl ?_
    refine LL.val (R.move rfl rfl) rfl rfl rfl ?_
    have lb1 := r4.lt
    refine LL.lit (e := 3) [Value.int IntKind.i64 ↑x] 1 rfl rfl (fun _ => by kernel_rfl) rfl rfl ?_
    intro Wb3 gb4 egb4 rb5 zb6 bb2
    replace q := q.trans (bb2.mono q.size)
    replace r4 := r4.up bb2
    replace o := o.up bb2
    replace st := st.trans (StaysZ.of_below bb2)
    replace kp := kp.trans (Keeps.of_below (fun k hk => by have := hDk k hk; omega) bb2)
    refine LL.appendT2 rfl rfl iEnc ElIn o (us := [x]) (RowL.readsT iEnc (ts := [x]) (by assumption) 1 (Nat.le_refl _)) (by simp only [List.length_cons, List.length_nil, maxLen]; omega) (by simp only [List.length_cons, List.length_nil]; omega) (by omega) rfl rfl ?_
    intro v' Wc o' gr hv'
    have og := own_ge o
    have zgr := gr.size
    replace r4 := r4.grO gr (fun e => by have := og g3 e; omega)
    replace st := st.trans (StaysZ.own o gr hmv)
    replace kp := kp.trans ⟨gr.size, fun k hk => gr.block k (by have := hDW k hk; omega) (fun e => by have := og k e.symm; have := hDk k hk; omega)⟩
    replace q := q.grown gr q.size (fun j ej => by have := og j ej; omega)
    replace hmv := own_new hv' hmv (fun j hj => by have := (hm j hj).2; omega)
    clear o gr hv'
    obtain ⟨a', cp, rfl, hcp⟩ := (o'.reads iEnc).form rfl
    refine LL.store rfl rfl rfl rfl r4 (by exact Nat.le_of_ble_eq_true rfl) rfl rfl rfl rfl ?_
    intro Wc2 rc3 bc1 zc4
    have hlbc1 := r4.lt
    replace rc3 : RowL Wc2 _ 59 [Value.slice a' (pre ++ [x]).length cp] := rc3
    clear r4
    replace st := st.trans (StaysZ.of_grown bc1 (by omega))
    replace kp := kp.trans (Keeps.of_grown bc1 fun k hk => by have := hDk k hk; omega)
    replace q := q.grown bc1 q.size (by rintro k ⟨⟩; omega)
    replace o' := o'.grown bc1 (own_ne o' (by omega))
    have r4 := rc3
    clear rc3
    refine LL.nil ?_
    refine EE.inN ?_
    exact EE.roundNZ ⟨st, kp, q, _, r4, o', hmv⟩
  case after =>
    rintro E W hE ⟨h1, v, r4, o⟩ hE1
    refine EE.thenN ?_
    refine CC.seq ?_
    refine CC.region ?_
    refine LL.val (R.load rfl rfl (I.ld1 rfl (RowL.cell r4 rfl))) rfl rfl rfl ?_
    refine LL.val (R.assign rfl rfl) rfl rfl rfl ?_
    refine LL.nilS ?_
    refine CC.ret ?_
    refine EE.ret1 hE1 _ rfl rfl ?_
    exact ⟨_, rfl, (own_taken o hE1).lower (by omega), taken_bel h1 (by omega) (Nat.le_refl _)⟩
theorem collect_any (ns : List Nat) (gf : Nat) (lb : List Value) (Dk : Nat → Prop) (w : World) (eg : entB Try.prog gf = true) (hs : GivesZ Try.prog gf lb.toArray (fun x => (iE x).toArray) Dk (fun xs => xs = ns) w) (hDk : ∀ k, Dk k → k < w.heap.size) (hl : ns.length ≤ 1048576) :
    Calls Try.prog 56 #[.func (.func gf) #[] lb.toArray] w fun e w' => ∃ v, e = .returned v ∧ OwnsT iE 1 w' w.heap.size 3 v ns ∧ Below w.heap.size w w' := by
  have q := Below.refl w.heap.size w
  refine X.fn Try.func56 rfl (n := 5) rfl rfl ?_
  refine CC.seq ?_
  refine CC.region ?_
  refine LL.val (R.assign rfl rfl) rfl rfl rfl ?_
  refine LL.nilS ?_
  refine CC.seq ?_
  refine CC.region ?_
  refine LL.val (R.move rfl rfl) rfl rfl rfl ?_
  (refine LL.call (R.call rfl rfl rfl) rfl rfl rfl (appSeq_any ns gf lb Dk _ eg hs hDk hl) ?_; rintro e W18 ⟨v, rfl, o, b15⟩; refine ⟨_, rfl, ?_⟩)
  have zb15 := b15.size
  replace q := q.trans (b15.mono q.size)
  refine LL.val (R.assign rfl rfl) rfl rfl rfl ?_
  refine LL.nilS ?_
  refine CC.ret ?_
  refine EE.ret _ rfl rfl ?_
  exact ⟨_, rfl, o, q⟩
theorem opS_len {w : World} {m gn gl qb N : Nat} {s : List Cl} (M : Mem w m gn gl qb N s) : (opS s).length ≤ 16384 := by
  have := opF_len (s := s) s.length
  have h1 := M.len
  have h2 := M.le
  unfold opS
  omega
/-- What Open tells. -/
def openP (ns : List Nat) (w0 : World) (e : Ending) (w : World) : Prop := ∃ bk a c, e = .returned (.func (.func 66) #[] #[.pointer (some ⟨bk, 0, none⟩)]) ∧ RowL w bk 59 [.slice a ns.length c] ∧ ReadsT iE 1 w (.slice a ns.length c) ns ∧ w0.heap.size ≤ bk ∧ (∀ b off, a = some ⟨b, off, none⟩ → 0 < ns.length → w0.heap.size ≤ b) ∧ Below w0.heap.size w0 w
theorem popen_any (m gn gl qb N : Nat) {s : List Cl} (w : World) (M : Mem w m gn gl qb N s) : Calls Try.prog 31 #[.pointer (some ⟨m, 0, none⟩)] w (openP (opS s) w) := by
  unfold openP
  have q := Below.refl w.heap.size w
  have hr := M.row
  have h0 := M.pos
  refine X.fn Try.func31 rfl (n := 10) rfl rfl ?_
  refine CC.seq ?_
  refine CC.region ?_
  refine LL.val (R.assign rfl rfl) rfl rfl rfl ?_
  refine LL.nilS ?_
  refine CC.seq ?_
  refine CC.seq ?_
  refine CC.region ?_
  refine LL.val (R.move rfl rfl) rfl rfl rfl ?_
  refine LL.call (R.call rfl rfl rfl) rfl rfl rfl (none_F _ _ (by first | assumption | omega) (by first | assumption | omega)) ?_
  rintro e W' ⟨rfl, rfl⟩
  refine ⟨_, rfl, ?_⟩
  refine LL.nilS ?_
  refine CC.no rfl ?_
  refine CC.skip ?_
  refine EE.thenN ?_
  refine CC.seq ?_
  refine CC.region ?_
  refine LL.val (R.move rfl rfl) rfl rfl rfl ?_
  have l69 := hr.lt
  (refine LL.call (R.call rfl rfl rfl) rfl rfl rfl (open_any m _) ?_; rintro e W68 ⟨bo, rfl, ro, lo, b65⟩; refine ⟨_, rfl, ?_⟩)
  have zb65 := b65.size
  replace M := M.up b65
  replace q := q.trans (b65.mono q.size)
  replace hr := hr.up b65
  have l86 := ro.lt
  have l87 := hr.lt
  (refine LL.call (R.call rfl rfl rfl) rfl rfl rfl (collect_any (opS s) _ [.pointer (some ⟨bo, 0, none⟩)] _ _ rfl (open1_gives bo m gn gl qb N s _ ro M) (fun k hk => by have lm := M.lts; have lo2 := ro.lt; omega) (by have := opS_len M; omega)) ?_; rintro e W85 ⟨v, rfl, o, b82⟩; refine ⟨_, rfl, ?_⟩; obtain ⟨a', cp, rfl, hcp⟩ := (o.reads iEnc).form rfl)
  have zb82 := b82.size
  replace ro := ro.up b82
  replace b65 := b65.trans (b82.mono b65.size)
  replace M := M.up b82
  replace q := q.trans (b82.mono q.size)
  replace hr := hr.up b82
  refine LL.call (R.call rfl rfl rfl) rfl rfl rfl (vals_any _ _ _ _) ?_
  rintro e W110 ⟨g111, rfl, r112, l113, b109⟩
  refine ⟨_, rfl, ?_⟩
  have zb109 := b109.size
  replace b82 := b82.trans (b109.mono b82.size)
  replace o := o.up b109
  replace ro := ro.up b109
  replace b65 := b65.trans (b109.mono b65.size)
  replace M := M.up b109
  replace q := q.trans (b109.mono q.size)
  replace hr := hr.up b109
  refine LL.val (R.assign rfl rfl) rfl rfl rfl ?_
  refine LL.nilS ?_
  refine CC.ret ?_
  refine EE.ret _ rfl rfl ?_
  exact ⟨_, a', cp, rfl, by assumption, o.reads iEnc, by omega, fun b off e h0 => by have := own_ge o b (by rw [e]; rfl); omega, q⟩
theorem bkl_own {w : World} {a : Option Addr} {N cap B bk : Nat} {l : List Nat} (hv : ReadsT iE 1 w (.slice a N cap) l) (hN : l.length = N) (hbo : ∀ b off, a = some ⟨b, off, none⟩ → 0 < N → B ≤ b) (h1 : B ≤ bk) (h2 : bk < w.heap.size) : ∃ bkl, (∀ b off, a = some ⟨b, off, none⟩ → 0 < N → b = bkl) ∧ B ≤ bkl ∧ bkl < w.heap.size := by
  by_cases h0 : 0 < N
  · obtain ⟨x, hx⟩ : ∃ x, l[0]? = some x := ⟨_, List.getElem?_eq_getElem (by omega)⟩
    obtain ⟨b, off, rfl, hb, _⟩ := hv.get iEnc hx
    exact ⟨b, fun b' off' e _ => by cases e; rfl, hbo b off rfl h0, hb⟩
  · exact ⟨bk, fun _ _ _ h => absurd h h0, h1, h2⟩
/-- The law's list of what Open tells, by Open's contract. -/
theorem opens_of (ns : List Nat) (p : Option Addr) (w : World) (hOp : ∀ W, Below w.heap.size w W → Calls Try.prog 31 #[.pointer p] W (openP ns W)) (hl : ns.length ≤ 1048576) :
    Calls Try.prog 26 #[.pointer p] w fun e w' => ∃ v, e = .returned v ∧ OwnsT iE 1 w' w.heap.size 3 v ns ∧ Below w.heap.size w w' := by
  have q := Below.refl w.heap.size w
  refine X.fnM Try.func26 rfl (n := 18) rfl rfl ?_
  refine CC.seq ?_
  refine CC.region ?_
  refine LL.val (R.assign rfl rfl) rfl rfl rfl ?_
  refine LL.nilS ?_
  refine CC.seq ?_
  refine CC.region ?_
  refine LL.alloc ([Value.slice none 0 0]) rfl rfl rfl rfl rfl ?_
  intro W16 g17 eg17 r18 z19 b15
  replace q := q.trans (b15.mono q.size)
  refine LL.nilS ?_
  refine CC.seq ?_
  refine CC.region ?_
  refine LL.val (R.move rfl rfl) rfl rfl rfl ?_
  have l32 := r18.lt
  (refine LL.call (R.call rfl rfl rfl) rfl rfl rfl (hOp _ q) ?_; rintro e W31 ⟨bk, a, c, rfl, rb, hr, hbk, hbo, b28⟩; refine ⟨_, rfl, ?_⟩)
  have zb28 := b28.size
  replace r18 := r18.up b28
  replace b15 := b15.trans (b28.mono b15.size)
  replace q := q.trans (b28.mono q.size)
  refine LL.val (R.assign rfl rfl) rfl rfl rfl ?_
  refine LL.nilS ?_
  refine CC.seq ?_
  refine CC.seq ?_
  refine CC.region ?_
  refine LL.val (R.move rfl rfl) rfl rfl rfl ?_
  refine LL.val (R.eqFn rfl rfl rfl rfl) rfl rfl rfl ?_
  refine LL.nilS ?_
  refine CC.no rfl ?_
  refine CC.skip ?_
  refine EE.thenN ?_
  refine CC.seq ?_
  refine CC.seq ?_
  refine CC.region ?_
  refine LL.val (R.move rfl rfl) rfl rfl rfl ?_
  refine LL.nilS ?_
  refine CC.block ?_
  have yB := q.size
  have l4 := r18.lt
  have lbk := rb.lt
  obtain ⟨bkl, hbl, hbB, hblt⟩ := bkl_own hr rfl hbo hbk lbk
  refine CC.rangeZ (γ := Unit) (gf := 66) (lb := [.pointer (some ⟨bk, 0, none⟩)]) (encs := iE) rfl rfl (vals1_gives ns a _ c bk bkl W31 rfl (by omega) rb hr hbl) (Below.refl _ _) (fun k hk => by (try simp only at hk); omega) (fun _ => rfl) rfl
    (fun m (pre : List Nat) W' => Below w.heap.size w W' ∧ ∃ v, RowL W' g17 59 [v] ∧ OwnsT iE 1 W' W31.heap.size 3 v pre ∧ ∀ g, v.ownBlock = some g → ¬ m g)
    (fun _ _ _ => False)
    (fun W' => Below w.heap.size w W' ∧ ∃ v, RowL W' g17 59 [v] ∧ OwnsT iE 1 W' W31.heap.size 3 v ns)
    (by
      rintro m m' s X Y ⟨h1, v, h3, h4, h5⟩ ht hg
      exact ⟨h1.trans (ht.below yB h1.size), v, ht.row h3 (.inl l4), h4.turn ht h5, own_later h4 h5 hg⟩)
    (fun m m' s X Y hs ht hg => hs)
    ⟨q, _, r18, OwnsT.none _ _ _, fun g hg => by cases hg⟩ ?hIA (fun _ _ _ _ h => h.elim)
    (fun x _ => sl [(3, .pointer (some ⟨g17, 0, none⟩)), (5, .int .i64 (x : Int))]) (fun _ _ _ => True) (fun x c => fun _ W W' row h hg hr => trivial) ?assign ?body ?after
  case hIA =>
    rintro m xs W' rfl ⟨h1, v, h3, h4, _⟩
    exact ⟨h1, v, h3, h4⟩
  case assign =>
    rintro l' m pre x W K hm hI hK
    refine CC.region ?_
    refine LL.val (R.assign rfl rfl) rfl rfl rfl ?_
    refine LL.nil ?_
    exact EE.thenK fun a' F => hK a' _ () (StaysZ.refl _ _ _) (Keeps.refl _ _) hI (F.keep _ ⟨rfl, rfl, trivial⟩) trivial
  case body =>
    rintro l' m pre x c W hm hl' hrl ⟨q, v, r18, o, hmv⟩ _ hpart
    have st := StaysZ.refl W31.heap.size m W
    have kp := Keeps.refl (fun k => k = bkl) W
    have yq := q.size
    obtain ⟨_, hr0⟩ := hrl
    have hr1 := (Array.getElem?_eq_some_iff.1 hr0).1
    clear hr0
    have hbW : bkl < W.heap.size := by omega
    have hpl : pre.length + 1 ≤ 1048576 := by
      obtain ⟨_, rfl, hp⟩ := hpart
      have := hp.length_le
      rw [List.length_append] at this
      simp only [List.length_cons, List.length_nil] at this
      omega
    refine CC.block ?_
    refine CC.region ?_
    refine LL.val (R.load rfl rfl (I.ld1 rfl (RowL.cell r18 rfl))) rfl rfl rfl ?_
    refine LL.val (R.move rfl rfl) rfl rfl rfl ?_
    have lb1 := r18.lt
    refine LL.lit (e := 3) [Value.int IntKind.i64 ↑x] 1 rfl rfl (fun _ => by kernel_rfl) rfl rfl ?_
    intro Wb3 gb4 egb4 rb5 zb6 bb2
    replace q := q.trans (bb2.mono q.size)
    replace r18 := r18.up bb2
    replace o := o.up bb2
    replace st := st.trans (StaysZ.of_below bb2)
    replace kp := kp.trans (Keeps.of_below (fun k hk => by (try simp only at hk); omega) bb2)
    refine LL.appendT2 rfl rfl iEnc ElIn o (us := [x]) (RowL.readsT iEnc (ts := [x]) (by assumption) 1 (Nat.le_refl _)) (by simp only [List.length_cons, List.length_nil, maxLen]; omega) (by simp only [List.length_cons, List.length_nil]; omega) (by omega) rfl rfl ?_
    intro v' Wc o' gr hv'
    have og := own_ge o
    have zgr := gr.size
    replace r18 := r18.grO gr (fun e => by have := og g17 e; omega)
    replace st := st.trans (StaysZ.own o gr hmv)
    replace kp := kp.trans ⟨gr.size, fun k hk => gr.block k (by (try simp only at hk); omega) (fun e => by have := og k e.symm; (try simp only at hk); omega)⟩
    replace q := q.grown gr q.size (fun j ej => by have := og j ej; omega)
    replace hmv := own_new hv' hmv (fun j hj => by have := (hm j hj).2; omega)
    clear o gr hv'
    obtain ⟨a', cp, rfl, hcp⟩ := (o'.reads iEnc).form rfl
    refine LL.store rfl rfl rfl rfl r18 (by exact Nat.le_of_ble_eq_true rfl) rfl rfl rfl rfl ?_
    intro Wc2 rc3 bc1 zc4
    have hlbc1 := r18.lt
    replace rc3 : RowL Wc2 _ 59 [Value.slice a' (pre ++ [x]).length cp] := rc3
    clear r18
    replace st := st.trans (StaysZ.of_grown bc1 (by omega))
    replace kp := kp.trans (Keeps.of_grown bc1 fun k hk => by (try simp only at hk); omega)
    replace q := q.grown bc1 q.size (by rintro k ⟨⟩; omega)
    replace o' := o'.grown bc1 (own_ne o' (by omega))
    have r18 := rc3
    clear rc3
    refine LL.nil ?_
    refine EE.inN ?_
    exact EE.roundNZ ⟨st, kp, q, _, r18, o', hmv⟩
  case after =>
    rintro E W hE ⟨h1, v, r18, o⟩ hE1
    refine EE.thenN ?_
    refine CC.seq ?_
    refine CC.region ?_
    refine LL.val (R.load rfl rfl (I.ld1 rfl (RowL.cell r18 rfl))) rfl rfl rfl ?_
    refine LL.val (R.assign rfl rfl) rfl rfl rfl ?_
    refine LL.nilS ?_
    refine CC.ret ?_
    refine EE.ret1 hE1 _ rfl rfl ?_
    exact ⟨_, rfl, (own_taken o hE1).lower (by omega), taken_bel h1 (by omega) (Nat.le_refl _)⟩
--C law07_opens | opens_M _ _ _ _ _ @w @p | ⟨@v, rfl, @o, @b⟩
theorem opens_M (m gn gl qb N : Nat) {s : List Cl} (w : World) (M : Mem w m gn gl qb N s) : Calls Try.prog 26 #[.pointer (some ⟨m, 0, none⟩)] w fun e w' => ∃ v, e = .returned v ∧ OwnsT iE 1 w' w.heap.size 3 v (opS s) ∧ Below w.heap.size w w' :=
  opens_of _ _ w (fun W b => popen_any m gn gl qb N W (M.up b)) (by have := opS_len M; omega)
theorem Mem.turn {w w' : World} {m gn gl qb N B : Nat} {mm : Nat → Prop} {s : List Cl} (M : Mem w m gn gl qb N s) (ht : TurnsZ B mm w w') (hb : m < B ∧ gn < B ∧ gl < B ∧ qb < B) : Mem w' m gn gl qb N s := by
  refine ⟨ht.row M.row (.inl hb.1), ht.row M.now (.inl hb.2.1), ht.row M.last (.inl hb.2.2.1), M.qs.same ?_, M.len, M.pos, M.le, M.ne⟩
  have hx := Array.getElem?_eq_getElem M.qs.lt
  exact (ht.same qb _ hx (.inl hb.2.2.2)).trans hx.symm
set_option maxRecDepth 100000
set_option maxHeartbeats 8000000
theorem kept1_any (i bk m gn gl qb N : Nat) {s : List Cl} {c : Cl} (w : World) (hb : RowL w bk 26 [.pointer (some ⟨m, 0, none⟩)]) (M : Mem w m gn gl qb N s) (hc : s[i]? = some c) : Calls Try.prog 59 #[.int .i64 (i : Int), .pointer (some ⟨bk, 0, none⟩)] w fun e w' => e = .returned (lV c.2.1) ∧ Below w.heap.size w w' := by
  have q := Below.refl w.heap.size w
  have hr := M.row
  have hl := M.len
  have hi := (List.getElem?_eq_some_iff.1 hc).1
  have lts := M.lts
  have m1 : CellsN w ⟨gl, 0 + i * 8, none⟩ 8 (lE c.2.1) := by rw [Nat.zero_add]; exact RowL.elemN (enc := lastE) (x := c) lastEnc M.last hc
  refine X.fn Try.func59 rfl (n := 11) rfl rfl ?_
  refine CC.seq ?_
  refine CC.region ?_
  have l8 := hb.lt
  have l9 := hr.lt
  refine LL.alloc ([Value.int IntKind.u64 0, Value.int IntKind.u64 0, Value.int IntKind.u64 0, Value.int IntKind.u64 0, Value.int IntKind.u64 0, Value.int IntKind.u64 0, Value.int IntKind.u64 0, Value.int IntKind.u64 0]) rfl rfl rfl rfl rfl ?_
  intro W11 g12 eg12 r13 z14 b10
  replace hb := hb.up b10
  replace M := M.up b10
  replace q := q.trans (b10.mono q.size)
  replace hr := hr.up b10
  replace m1 := m1.up b10
  refine LL.nilS ?_
  refine CC.seq ?_
  refine CC.region ?_
  refine LL.val (R.load rfl rfl (I.ld1 rfl (RowL.cell hb rfl))) rfl rfl rfl ?_
  refine LL.val (R.nil rfl rfl) rfl rfl rfl ?_
  refine LL.val (R.field rfl rfl (I.fld rfl)) rfl rfl rfl ?_
  refine LL.val (R.load rfl rfl (I.ld1 rfl (RowL.cell hr rfl))) rfl rfl rfl ?_
  refine LL.val (R.move rfl rfl) rfl rfl rfl ?_
  refine LL.val (R.index rfl rfl rfl (I.ixS rfl (by omega))) rfl rfl rfl ?_
  refine LL.val (R.load rfl rfl (I.ldM (by assumption) rfl rfl)) rfl rfl rfl ?_
  (refine LL.storeAll rfl rfl rfl rfl (lE_len _) (by assumption) rfl (lE_one _) rfl rfl ?_; intro W67 rx68 gr65 zz70; have cr := ln_cells rx68)
  have zgr65 := gr65.size
  replace b10 := b10.grown gr65 b10.size (by rintro k ⟨⟩; omega)
  replace hb := hb.gr gr65 (by have := hb.lt; omega)
  replace M := M.gr gr65 (by omega)
  replace q := q.grown gr65 q.size (by rintro k ⟨⟩; omega)
  replace hr := hr.gr gr65 (by have := hr.lt; omega)
  replace m1 := m1.gr gr65 (by have := m1.lt; omega)
  refine LL.nilS ?_
  refine CC.ret ?_
  refine EE.retC rfl rfl (lvM cr rfl rfl) ?_
  exact ⟨rfl, q⟩
--C pmem_Memory_kept_2 | hK2 @w b' | ⟨rfl, @b⟩
theorem kept2_any (i bk m gn gl qb N : Nat) {s : List Cl} {c : Cl} (w : World) (hb : RowL w bk 26 [.pointer (some ⟨m, 0, none⟩)]) (M : Mem w m gn gl qb N s) (hc : s[i]? = some c) : Calls Try.prog 60 #[.int .i64 (i : Int), .pointer (some ⟨bk, 0, none⟩)] w fun e w' => e = .returned (lV (c.2.2.getD c.2.1)) ∧ Below w.heap.size w w' := by
  have q := Below.refl w.heap.size w
  have hr := M.row
  have hl := M.len
  have hi := (List.getElem?_eq_some_iff.1 hc).1
  have lts := M.lts
  have hq := M.qs
  have hqa := qF_at hc
  have m1 : CellsN w ⟨gl, 0 + i * 8, none⟩ 8 (lE c.2.1) := by rw [Nat.zero_add]; exact RowL.elemN (enc := lastE) (x := c) lastEnc M.last hc
  cases hx : c.2.2 with
  | none =>
    rw [hx] at hqa
    refine X.fn Try.func60 rfl (n := 24) rfl rfl ?_
    refine CC.seq ?_
    refine CC.region ?_
    have l8 := hb.lt
    have l9 := hr.lt
    refine LL.alloc ([Value.int IntKind.u64 0, Value.int IntKind.u64 0, Value.int IntKind.u64 0, Value.int IntKind.u64 0, Value.int IntKind.u64 0, Value.int IntKind.u64 0, Value.int IntKind.u64 0, Value.int IntKind.u64 0]) rfl rfl rfl rfl rfl ?_
    intro W11 g12 eg12 r13 z14 b10
    replace hb := hb.up b10
    replace M := M.up b10
    replace q := q.trans (b10.mono q.size)
    replace hr := hr.up b10
    replace hq := hq.up b10
    replace m1 := m1.up b10
    refine LL.nilS ?_
    refine CC.seq ?_
    refine CC.seq ?_
    refine CC.region ?_
    refine LL.val (R.load rfl rfl (I.ld1 rfl (RowL.cell hb rfl))) rfl rfl rfl ?_
    refine LL.val (R.nil rfl rfl) rfl rfl rfl ?_
    refine LL.val (R.field rfl rfl (I.fld rfl)) rfl rfl rfl ?_
    refine LL.val (R.load rfl rfl (I.ld1 rfl (RowL.cell hr rfl))) rfl rfl rfl ?_
    refine LL.val (R.move rfl rfl) rfl rfl rfl ?_
    (refine LL.val (R.lookKF (z := lV zL) rfl rfl iKeys (by rfl) (by kernel_rfl) hq i rfl hqa) rfl rfl rfl ?_)
    refine LL.val (R.move rfl rfl) rfl rfl rfl ?_
    refine LL.val (R.extract rfl rfl rfl) rfl rfl rfl ?_
    refine LL.val (R.extract rfl rfl rfl) rfl rfl rfl ?_
    have l85 := r13.lt
    have l86 := hb.lt
    have l87 := hr.lt
    refine LL.alloc ([Value.int IntKind.u64 0, Value.int IntKind.u64 0, Value.int IntKind.u64 0, Value.int IntKind.u64 0, Value.int IntKind.u64 0, Value.int IntKind.u64 0, Value.int IntKind.u64 0, Value.int IntKind.u64 0]) rfl rfl rfl rfl rfl ?_
    intro W89 g90 eg90 r91 z92 b88
    replace r13 := r13.up b88
    replace b10 := b10.trans (b88.mono b10.size)
    replace hb := hb.up b88
    replace M := M.up b88
    replace q := q.trans (b88.mono q.size)
    replace hr := hr.up b88
    replace hq := hq.up b88
    replace m1 := m1.up b88
    refine LL.storeN (vs := [(fun n => Value.int IntKind.u64 ↑n) 0, (fun n => Value.int IntKind.u64 ↑n) 0, (fun n => Value.int IntKind.u64 ↑n) 0, (fun n => Value.int IntKind.u64 ↑n) 0, (fun n => Value.int IntKind.u64 ↑n) 0, (fun n => Value.int IntKind.u64 ↑n) 0, (fun n => Value.int IntKind.u64 ↑n) 0, (fun n => Value.int IntKind.u64 ↑n) 0]) rfl rfl rfl rfl r91 (by exact Nat.le_of_ble_eq_true rfl) (ones_of rfl) rfl rfl ?_
    intro W101 r102 b100 z103
    have hlb100 := r91.lt
    replace r102 : RowL W101 _ 79 [(fun n => Value.int IntKind.u64 ↑n) 0, (fun n => Value.int IntKind.u64 ↑n) 0, (fun n => Value.int IntKind.u64 ↑n) 0, (fun n => Value.int IntKind.u64 ↑n) 0, (fun n => Value.int IntKind.u64 ↑n) 0, (fun n => Value.int IntKind.u64 ↑n) 0, (fun n => Value.int IntKind.u64 ↑n) 0, (fun n => Value.int IntKind.u64 ↑n) 0] := r102
    clear r91
    replace b88 := b88.grown b100 b88.size (by rintro k ⟨⟩; omega)
    replace r13 := r13.gr b100 (by have := r13.lt; omega)
    replace b10 := b10.grown b100 b10.size (by rintro k ⟨⟩; omega)
    replace hb := hb.gr b100 (by have := hb.lt; omega)
    replace M := M.gr b100 (by omega)
    replace q := q.grown b100 q.size (by rintro k ⟨⟩; omega)
    replace hr := hr.gr b100 (by have := hr.lt; omega)
    replace hq := hq.gr b100 (by have := hq.lt; omega)
    replace m1 := m1.gr b100 (by have := m1.lt; omega)
    have r91 := r102
    clear r102
    refine LL.val (R.assign rfl rfl) rfl rfl rfl ?_
    refine LL.nilS ?_
    refine CC.seq ?_
    refine CC.region ?_
    refine LL.val (R.move rfl rfl) rfl rfl rfl ?_
    refine LL.nilS ?_
    refine CC.no rfl ?_
    refine CC.skip ?_
    refine EE.thenN ?_
    refine CC.seq ?_
    refine CC.region ?_
    refine LL.val (R.load rfl rfl (I.ld1 rfl (RowL.cell hb rfl))) rfl rfl rfl ?_
    refine LL.val (R.nil rfl rfl) rfl rfl rfl ?_
    refine LL.val (R.field rfl rfl (I.fld rfl)) rfl rfl rfl ?_
    refine LL.val (R.load rfl rfl (I.ld1 rfl (RowL.cell hr rfl))) rfl rfl rfl ?_
    refine LL.val (R.move rfl rfl) rfl rfl rfl ?_
    refine LL.val (R.index rfl rfl rfl (I.ixS rfl (by omega))) rfl rfl rfl ?_
    refine LL.val (R.load rfl rfl (I.ldM (by assumption) rfl rfl)) rfl rfl rfl ?_
    (refine LL.storeAll rfl rfl rfl rfl (lE_len _) (by assumption) rfl (lE_one _) rfl rfl ?_; intro W170 rx171 gr168 zz173; have cy172 := ln_cells rx171)
    have zgr168 := gr168.size
    replace b10 := b10.grown gr168 b10.size (by rintro k ⟨⟩; omega)
    replace hb := hb.gr gr168 (by have := hb.lt; omega)
    replace M := M.gr gr168 (by omega)
    replace q := q.grown gr168 q.size (by rintro k ⟨⟩; omega)
    replace hr := hr.gr gr168 (by have := hr.lt; omega)
    replace hq := hq.gr gr168 (by have := hq.lt; omega)
    replace m1 := m1.gr gr168 (by have := m1.lt; omega)
    replace r91 := r91.gr gr168 (by have := r91.lt; omega)
    refine LL.nilS ?_
    refine CC.ret ?_
    refine EE.retC rfl rfl (lvM (by assumption) rfl rfl) ?_
    exact ⟨rfl, q⟩
  | some x =>
    rw [hx] at hqa
    refine X.fn Try.func60 rfl (n := 24) rfl rfl ?_
    refine CC.seq ?_
    refine CC.region ?_
    have la8 := hb.lt
    have la9 := hr.lt
    refine LL.alloc ([Value.int IntKind.u64 0, Value.int IntKind.u64 0, Value.int IntKind.u64 0, Value.int IntKind.u64 0, Value.int IntKind.u64 0, Value.int IntKind.u64 0, Value.int IntKind.u64 0, Value.int IntKind.u64 0]) rfl rfl rfl rfl rfl ?_
    intro Wa11 ga12 ega12 ra13 za14 ba10
    replace hb := hb.up ba10
    replace M := M.up ba10
    replace q := q.trans (ba10.mono q.size)
    replace hr := hr.up ba10
    replace hq := hq.up ba10
    replace m1 := m1.up ba10
    refine LL.nilS ?_
    refine CC.seq ?_
    refine CC.seq ?_
    refine CC.region ?_
    refine LL.val (R.load rfl rfl (I.ld1 rfl (RowL.cell hb rfl))) rfl rfl rfl ?_
    refine LL.val (R.nil rfl rfl) rfl rfl rfl ?_
    refine LL.val (R.field rfl rfl (I.fld rfl)) rfl rfl rfl ?_
    refine LL.val (R.load rfl rfl (I.ld1 rfl (RowL.cell hr rfl))) rfl rfl rfl ?_
    refine LL.val (R.move rfl rfl) rfl rfl rfl ?_
    (refine LL.val (R.lookKT rfl rfl iKeys (by rfl) (z := lV zL) (by kernel_rfl) hq i rfl hqa) rfl rfl rfl ?_)
    refine LL.val (R.move rfl rfl) rfl rfl rfl ?_
    refine LL.val (R.extract rfl rfl rfl) rfl rfl rfl ?_
    refine LL.val (R.extract rfl rfl rfl) rfl rfl rfl ?_
    have la85 := ra13.lt
    have la86 := hb.lt
    have la87 := hr.lt
    refine LL.alloc ([Value.int IntKind.u64 0, Value.int IntKind.u64 0, Value.int IntKind.u64 0, Value.int IntKind.u64 0, Value.int IntKind.u64 0, Value.int IntKind.u64 0, Value.int IntKind.u64 0, Value.int IntKind.u64 0]) rfl rfl rfl rfl rfl ?_
    intro Wa89 ga90 ega90 ra91 za92 ba88
    replace ra13 := ra13.up ba88
    replace ba10 := ba10.trans (ba88.mono ba10.size)
    replace hb := hb.up ba88
    replace M := M.up ba88
    replace q := q.trans (ba88.mono q.size)
    replace hr := hr.up ba88
    replace hq := hq.up ba88
    replace m1 := m1.up ba88
    (refine LL.storeAll rfl rfl rfl rfl (lE_len _) (by assumption) rfl (lE_one _) rfl rfl ?_; intro Wa96 rxa97 gra94 zza99; have cya98 := ln_cells rxa97)
    have zgra94 := gra94.size
    replace ba88 := ba88.grown gra94 ba88.size (by rintro k ⟨⟩; omega)
    replace ra13 := ra13.gr gra94 (by have := ra13.lt; omega)
    replace ba10 := ba10.grown gra94 ba10.size (by rintro k ⟨⟩; omega)
    replace hb := hb.gr gra94 (by have := hb.lt; omega)
    replace M := M.gr gra94 (by omega)
    replace q := q.grown gra94 q.size (by rintro k ⟨⟩; omega)
    replace hr := hr.gr gra94 (by have := hr.lt; omega)
    replace hq := hq.gr gra94 (by have := hq.lt; omega)
    replace m1 := m1.gr gra94 (by have := m1.lt; omega)
    refine LL.val (R.assign rfl rfl) rfl rfl rfl ?_
    refine LL.nilS ?_
    refine CC.seq ?_
    refine CC.region ?_
    refine LL.val (R.move rfl rfl) rfl rfl rfl ?_
    refine LL.nilS ?_
    refine CC.yes rfl ?_
    refine CC.seq ?_
    refine CC.region ?_
    refine LL.val (R.load rfl rfl (I.ldM (by assumption) rfl rfl)) rfl rfl rfl ?_
    (refine LL.storeAll rfl rfl rfl rfl (lE_len _) (by assumption) rfl (lE_one _) rfl rfl ?_; intro Wa124 rxa125 gra122 zza127; have cya126 := ln_cells rxa125)
    have zgra122 := gra122.size
    replace rxa97 := rxa97.gr gra122 (by have := rxa97.lt; omega)
    replace cya98 := cya98.gr gra122 (by have := cya98.lt; omega)
    replace ba10 := ba10.grown gra122 ba10.size (by rintro k ⟨⟩; omega)
    replace hb := hb.gr gra122 (by have := hb.lt; omega)
    replace M := M.gr gra122 (by omega)
    replace q := q.grown gra122 q.size (by rintro k ⟨⟩; omega)
    replace hr := hr.gr gra122 (by have := hr.lt; omega)
    replace hq := hq.gr gra122 (by have := hq.lt; omega)
    replace m1 := m1.gr gra122 (by have := m1.lt; omega)
    refine LL.nilS ?_
    refine CC.ret ?_
    refine EE.thenR ?_
    refine EE.retC rfl rfl (lvM (by assumption) rfl rfl) ?_
    exact ⟨rfl, q⟩
--C pmem_Memory_kept_3 | hK3 @w b' | ⟨rfl, @b⟩
theorem kept3_any (i bk m gn gl qb N : Nat) {s : List Cl} {c : Cl} (w : World) (hb : RowL w bk 26 [.pointer (some ⟨m, 0, none⟩)]) (M : Mem w m gn gl qb N s) (hc : s[i]? = some c) : Calls Try.prog 61 #[.int .i64 (i : Int), .pointer (some ⟨bk, 0, none⟩)] w fun e w' => e = .returned (lV c.1) ∧ Below w.heap.size w w' := by
  have q := Below.refl w.heap.size w
  have hr := M.row
  have hl := M.len
  have hi := (List.getElem?_eq_some_iff.1 hc).1
  have lts := M.lts
  have m1 : CellsN w ⟨gn, 0 + i * 8, none⟩ 8 (lE c.1) := by rw [Nat.zero_add]; exact RowL.elemN (enc := nowE) (x := c) nowEnc M.now hc
  refine X.fn Try.func61 rfl (n := 12) rfl rfl ?_
  refine CC.seq ?_
  refine CC.region ?_
  have l8 := hb.lt
  have l9 := hr.lt
  refine LL.alloc ([Value.int IntKind.u64 0, Value.int IntKind.u64 0, Value.int IntKind.u64 0, Value.int IntKind.u64 0, Value.int IntKind.u64 0, Value.int IntKind.u64 0, Value.int IntKind.u64 0, Value.int IntKind.u64 0]) rfl rfl rfl rfl rfl ?_
  intro W11 g12 eg12 r13 z14 b10
  replace hb := hb.up b10
  replace M := M.up b10
  replace q := q.trans (b10.mono q.size)
  replace hr := hr.up b10
  replace m1 := m1.up b10
  refine LL.nilS ?_
  refine CC.seq ?_
  refine CC.region ?_
  refine LL.val (R.load rfl rfl (I.ld1 rfl (RowL.cell hb rfl))) rfl rfl rfl ?_
  refine LL.val (R.nil rfl rfl) rfl rfl rfl ?_
  refine LL.val (R.field rfl rfl (I.fld rfl)) rfl rfl rfl ?_
  refine LL.val (R.field rfl rfl (I.fld rfl)) rfl rfl rfl ?_
  refine LL.val (R.load rfl rfl (I.ld1 rfl (RowL.cell hr rfl))) rfl rfl rfl ?_
  refine LL.val (R.move rfl rfl) rfl rfl rfl ?_
  refine LL.val (R.index rfl rfl rfl (I.ixS rfl (by omega))) rfl rfl rfl ?_
  refine LL.val (R.load rfl rfl (I.ldM (by assumption) rfl rfl)) rfl rfl rfl ?_
  (refine LL.storeAll rfl rfl rfl rfl (lE_len _) (by assumption) rfl (lE_one _) rfl rfl ?_; intro W74 rx75 gr72 zz77; have cr := ln_cells rx75)
  have zgr72 := gr72.size
  replace b10 := b10.grown gr72 b10.size (by rintro k ⟨⟩; omega)
  replace hb := hb.gr gr72 (by have := hb.lt; omega)
  replace M := M.gr gr72 (by omega)
  replace q := q.grown gr72 q.size (by rintro k ⟨⟩; omega)
  replace hr := hr.gr gr72 (by have := hr.lt; omega)
  replace m1 := m1.gr gr72 (by have := m1.lt; omega)
  refine LL.nilS ?_
  refine CC.ret ?_
  refine EE.retC rfl rfl (lvM cr rfl rfl) ?_
  exact ⟨rfl, q⟩
abbrev kfV (f bk : Nat) : Value := .func (.func f) #[] #[.pointer (some ⟨bk, 0, none⟩)]
theorem kept_any (m : Nat) (w : World) : Calls Try.prog 46 #[.pointer (some ⟨m, 0, none⟩)] w fun e w' => ∃ bk, e = .returned (.agg #[kfV 59 bk, kfV 60 bk, kfV 61 bk]) ∧ RowL w' bk 26 [.pointer (some ⟨m, 0, none⟩)] ∧ w.heap.size ≤ bk ∧ Below w.heap.size w w' := by
  have q := Below.refl w.heap.size w
  refine X.fn Try.func46 rfl (n := 7) rfl rfl ?_
  refine CC.seq ?_
  refine CC.region ?_
  refine LL.box [Value.pointer (some { block := m, off := 0 })] rfl rfl rfl rfl rfl ?_
  intro W2 g3 eg3 r4 z5 b1
  replace q := q.trans (b1.mono q.size)
  have l6 := r4.lt
  refine LL.alloc ([Value.nilFunc, Value.nilFunc, Value.nilFunc]) rfl rfl rfl rfl rfl ?_
  intro W8 g9 eg9 r10 z11 b7
  replace r4 := r4.up b7
  replace b1 := b1.trans (b7.mono b1.size)
  replace q := q.trans (b7.mono q.size)
  refine LL.nilS ?_
  refine CC.seq ?_
  refine CC.region ?_
  refine LL.val (R.func rfl rfl rfl) rfl rfl rfl ?_
  refine LL.val (R.func rfl rfl rfl) rfl rfl rfl ?_
  refine LL.val (R.func rfl rfl rfl) rfl rfl rfl ?_
  refine LL.val (R.buildV rfl rfl (v := .agg #[Value.func (Fn.func 59) #[] #[Value.pointer (some { block := g3, off := 0 })], Value.func (Fn.func 60) #[] #[Value.pointer (some { block := g3, off := 0 })], Value.func (Fn.func 61) #[] #[Value.pointer (some { block := g3, off := 0 })]]) (fun _ => by kernel_rfl)) rfl rfl rfl ?_
  refine LL.storeN (vs := [Value.func (Fn.func 59) #[] #[Value.pointer (some { block := g3, off := 0 })], Value.func (Fn.func 60) #[] #[Value.pointer (some { block := g3, off := 0 })], Value.func (Fn.func 61) #[] #[Value.pointer (some { block := g3, off := 0 })]]) rfl rfl rfl rfl r10 (by exact Nat.le_of_ble_eq_true rfl) (ones_of rfl) rfl rfl ?_
  intro W13 r14 b12 z15
  have hlb12 := r10.lt
  replace r14 : RowL W13 _ 86 [Value.func (Fn.func 59) #[] #[Value.pointer (some { block := g3, off := 0 })], Value.func (Fn.func 60) #[] #[Value.pointer (some { block := g3, off := 0 })], Value.func (Fn.func 61) #[] #[Value.pointer (some { block := g3, off := 0 })]] := r14
  clear r10
  replace b7 := b7.grown b12 b7.size (by rintro k ⟨⟩; omega)
  replace r4 := r4.gr b12 (by have := r4.lt; omega)
  replace b1 := b1.grown b12 b1.size (by rintro k ⟨⟩; omega)
  replace q := q.grown b12 q.size (by rintro k ⟨⟩; omega)
  have r10 := r14
  clear r14
  refine LL.nilS ?_
  refine CC.ret ?_
  refine EE.retC rfl rfl (lvNc (RowL.cells0 (by assumption)) (by rfl) (by rfl)) ?_
  exact ⟨_, rfl, by assumption, by omega, q⟩
def pkL (c : Cl) (p : Nat) : Ln := if p % 3 = 0 then c.2.1 else if p % 3 = 1 then c.2.2.getD c.2.1 else c.1
/-- What a crash leaves, behind j of the open lines. -/
def crJ (s : List Cl) (ps : List Nat) : Nat → List Ln
  | 0 => s.map fun c => c.2.1
  | j + 1 => match (opS s)[j]?, ps[j]? with
    | some k, some p => (match s[k]? with | some c => (crJ s ps j).set k (pkL c p) | none => crJ s ps j)
    | _, _ => crJ s ps j
def crS (s : List Cl) (ps : List Nat) : List Ln := crJ s ps (opS s).length
theorem crJ_len (s : List Cl) (ps : List Nat) : ∀ j, (crJ s ps j).length = s.length
  | 0 => by simp [crJ]
  | j + 1 => by
    have ih := crJ_len s ps j
    unfold crJ
    split
    · split
      · rw [List.length_set, ih]
      · exact ih
    · exact ih
theorem crJ_step {s : List Cl} {ps : List Nat} {j k p : Nat} {c : Cl} (hk : (opS s)[j]? = some k) (hp : ps[j]? = some p) (hc : s[k]? = some c) : crJ s ps (j + 1) = (crJ s ps j).set k (pkL c p) := by
  show (match (opS s)[j]?, ps[j]? with | some k, some p => (match s[k]? with | some c => (crJ s ps j).set k (pkL c p) | none => crJ s ps j) | _, _ => crJ s ps j) = _
  rw [hk, hp]
  simp only [hc]
theorem crJ_none {s : List Cl} {ps : List Nat} {j : Nat} (hp : ps[j]? = none) : crJ s ps (j + 1) = crJ s ps j := by
  show (match (opS s)[j]?, ps[j]? with | some k, some p => (match s[k]? with | some c => (crJ s ps j).set k (pkL c p) | none => crJ s ps j) | _, _ => crJ s ps j) = _
  rw [hp]
  cases (opS s)[j]? <;> rfl
theorem crJ_stop {s : List Cl} {ps : List Nat} {j : Nat} (h : ps.length ≤ j) : ∀ d, crJ s ps (j + d) = crJ s ps j
  | 0 => rfl
  | d + 1 => by rw [← Nat.add_assoc, crJ_none (List.getElem?_eq_none (by omega)), crJ_stop h d]
def yE (n : Nat) : List Value := [.int .u8 (n : Int)]
theorem yEnc : Enc yE 1 := ⟨fun _ => rfl, fun t u hu => by
  simp only [yE, List.mem_cons, List.not_mem_nil, or_false] at hu
  subst hu
  rfl, by decide⟩
theorem Mem.taken {w : World} {m gn gl qb N E : Nat} {s : List Cl} (M : Mem w m gn gl qb N s) (hE : w.heap[E]? = some (.deferred (some []))) : Mem (Go.Proofs.Ytajfffoaebjnlaa.taken E w) m gn gl qb N s := by
  have key : ∀ {g e : Nat} {xs : List Value}, RowL w g e xs → RowL (Go.Proofs.Ytajfffoaebjnlaa.taken E w) g e xs := fun {g e xs} h => h.same (World.putObj_heap_other (fun h2 => by subst h2; have h3 : w.heap[g]? = _ := h; rw [hE] at h3; cases h3))
  exact ⟨key M.row, key M.now, key M.last, M.qs.same (World.putObj_heap_other (fun h2 => by subst h2; obtain ⟨es, cl, h3, _⟩ := M.qs; rw [hE] at h3; cases h3)), M.len, M.pos, M.le, M.ne⟩
theorem pre_at {α : Type} {pre l : List α} {x : α} (h : pre ++ [x] <+: l) : l[pre.length]? = some x := by
  obtain ⟨t, rfl⟩ := h
  simp
set_option maxRecDepth 100000
set_option maxHeartbeats 8000000
theorem crash_any (m gn gl qb N : Nat) {s : List Cl} (a : Option Addr) (L cp : Nat) (ps : List Nat) (w : World) (M : Mem w m gn gl qb N s) (hps : ReadsT yE 1 w (.slice a L cp) ps) (hL : ps.length = L) (hL2 : L ≤ 1048576) (hb : ∀ p ∈ ps, p < 256) :
    Calls Try.prog 17 #[.pointer (some ⟨m, 0, none⟩), .slice a L cp] w fun e w' => ∃ m' gn' gl' qb', e = .returned (.tuple #[.pointer (some ⟨m', 0, none⟩), .int .i64 0]) ∧ Mem w' m' gn' gl' qb' N ((crS s ps).map nwC) ∧ w.heap.size ≤ m' ∧ w.heap.size ≤ gn' ∧ w.heap.size ≤ gl' ∧ w.heap.size ≤ qb' ∧ Below w.heap.size w w' := by
  have q := Below.refl w.heap.size w
  have hr := M.row
  have h0 := M.pos
  have hN := M.le
  have hl := M.len
  have hpF : ∀ W, Below w.heap.size w W → ReadsT yE 1 W (.slice a L cp) ps := fun W b => hps.up b
  have hMF : ∀ W, Below w.heap.size w W → Mem W m gn gl qb N s := fun W b => M.up b
  have lts := M.lts
  have hla : RowL w gl 79 ((s.map fun c => c.2.1).flatMap lE) := by rw [List.flatMap_map]; exact M.last
  have hll : (s.map fun c => c.2.1).length = N := by rw [List.length_map]; exact hl
  clear hps M
  refine X.fnM Try.func17 rfl (n := 43) rfl rfl ?_
  refine CC.seq ?_
  refine CC.region ?_
  have l1 := hr.lt
  have l2 := hla.lt
  refine LL.box [Value.slice a L cp] rfl rfl rfl rfl rfl ?_
  intro W4 g5 eg5 r6 z7 b3
  replace q := q.trans (b3.mono q.size)
  replace hr := hr.up b3
  replace hla := hla.up b3
  refine LL.val (R.assign rfl rfl) rfl rfl rfl ?_
  refine LL.val (R.assign rfl rfl) rfl rfl rfl ?_
  refine LL.nilS ?_
  refine CC.straight ?_
  refine CC.seq ?_
  refine CC.seq ?_
  refine CC.region ?_
  refine LL.val (R.move rfl rfl) rfl rfl rfl ?_
  refine LL.call (R.call rfl rfl rfl) rfl rfl rfl (none_F _ _ (by first | assumption | omega) (by first | assumption | omega)) ?_
  rintro e W' ⟨rfl, rfl⟩
  refine ⟨_, rfl, ?_⟩
  refine LL.nilS ?_
  refine CC.no rfl ?_
  refine CC.skip ?_
  refine EE.thenN ?_
  refine CC.seq ?_
  refine CC.region ?_
  refine LL.val (R.move rfl rfl) rfl rfl rfl ?_
  refine LL.val (R.nil rfl rfl) rfl rfl rfl ?_
  refine LL.val (R.field rfl rfl (I.fld rfl)) rfl rfl rfl ?_
  refine LL.val (R.load rfl rfl (I.ld1 rfl (RowL.cell hr rfl))) rfl rfl rfl ?_
  refine LL.call (R.call rfl rfl rfl) rfl rfl rfl (moved_any lEnc _ _ _ _ (by first | assumption | omega) (by first | assumption | omega) (by first | assumption | omega)) ?_
  rintro e W9 ⟨g10, rfl, r11, l12, o13, b8⟩
  refine ⟨_, rfl, ?_⟩
  have zb8 := b8.size
  replace r6 := r6.up b8
  replace b3 := b3.trans (b8.mono b3.size)
  replace q := q.trans (b8.mono q.size)
  replace hr := hr.up b8
  replace hla := hla.up b8
  have l15 := r11.lt
  have l16 := r6.lt
  have l17 := hr.lt
  have l18 := hla.lt
  refine LL.alloc ([Value.slice none 0 0]) rfl rfl rfl rfl rfl ?_
  intro W20 g21 eg21 r22 z23 b19
  replace r11 := r11.up b19
  replace b8 := b8.trans (b19.mono b8.size)
  replace r6 := r6.up b19
  replace b3 := b3.trans (b19.mono b3.size)
  replace q := q.trans (b19.mono q.size)
  replace hr := hr.up b19
  replace hla := hla.up b19
  refine LL.store rfl rfl rfl rfl r22 (by exact Nat.le_of_ble_eq_true rfl) rfl rfl rfl rfl ?_
  intro W25 r26 b24 z27
  have hlb24 := r22.lt
  replace r26 : RowL W25 _ 48 [Value.slice (some { block := g10, off := 0 }) N N] := r26
  clear r22
  replace b19 := b19.grown b24 b19.size (by rintro k ⟨⟩; omega)
  replace r11 := r11.gr b24 (by have := r11.lt; omega)
  replace b8 := b8.grown b24 b8.size (by rintro k ⟨⟩; omega)
  replace r6 := r6.gr b24 (by have := r6.lt; omega)
  replace b3 := b3.grown b24 b3.size (by rintro k ⟨⟩; omega)
  replace q := q.grown b24 q.size (by rintro k ⟨⟩; omega)
  replace hr := hr.gr b24 (by have := hr.lt; omega)
  replace hla := hla.gr b24 (by have := hla.lt; omega)
  have r22 := r26
  clear r26
  refine LL.nilS ?_
  refine CC.seq ?_
  refine CC.region ?_
  refine LL.val (R.move rfl rfl) rfl rfl rfl ?_
  refine LL.call (R.call rfl rfl rfl) rfl rfl rfl (kept_any _ _) ?_
  rintro e W29 ⟨g30, rfl, r31, l32, b28⟩
  refine ⟨_, rfl, ?_⟩
  have zb28 := b28.size
  replace b19 := b19.trans (b28.mono b19.size)
  replace r11 := r11.up b28
  replace b8 := b8.trans (b28.mono b8.size)
  replace r6 := r6.up b28
  replace b3 := b3.trans (b28.mono b3.size)
  replace q := q.trans (b28.mono q.size)
  replace hr := hr.up b28
  replace hla := hla.up b28
  replace r22 := r22.up b28
  have l34 := r31.lt
  have l35 := r11.lt
  have l36 := r6.lt
  have l37 := hr.lt
  have l38 := hla.lt
  have l39 := r22.lt
  refine LL.alloc ([Value.nilFunc, Value.nilFunc, Value.nilFunc]) rfl rfl rfl rfl rfl ?_
  intro W41 g42 eg42 r43 z44 b40
  replace r31 := r31.up b40
  replace b28 := b28.trans (b40.mono b28.size)
  replace b19 := b19.trans (b40.mono b19.size)
  replace r11 := r11.up b40
  replace b8 := b8.trans (b40.mono b8.size)
  replace r6 := r6.up b40
  replace b3 := b3.trans (b40.mono b3.size)
  replace q := q.trans (b40.mono q.size)
  replace hr := hr.up b40
  replace hla := hla.up b40
  replace r22 := r22.up b40
  refine LL.storeN (vs := [kfV 59 g30, kfV 60 g30, kfV 61 g30]) rfl rfl rfl rfl r43 (by exact Nat.le_of_ble_eq_true rfl) (ones_of rfl) rfl rfl ?_
  intro W46 r47 b45 z48
  have hlb45 := r43.lt
  replace r47 : RowL W46 _ 86 [kfV 59 g30, kfV 60 g30, kfV 61 g30] := r47
  clear r43
  replace b40 := b40.grown b45 b40.size (by rintro k ⟨⟩; omega)
  replace r31 := r31.gr b45 (by have := r31.lt; omega)
  replace b28 := b28.grown b45 b28.size (by rintro k ⟨⟩; omega)
  replace b19 := b19.grown b45 b19.size (by rintro k ⟨⟩; omega)
  replace r11 := r11.gr b45 (by have := r11.lt; omega)
  replace b8 := b8.grown b45 b8.size (by rintro k ⟨⟩; omega)
  replace r6 := r6.gr b45 (by have := r6.lt; omega)
  replace b3 := b3.grown b45 b3.size (by rintro k ⟨⟩; omega)
  replace q := q.grown b45 q.size (by rintro k ⟨⟩; omega)
  replace hr := hr.gr b45 (by have := hr.lt; omega)
  replace hla := hla.gr b45 (by have := hla.lt; omega)
  replace r22 := r22.gr b45 (by have := r22.lt; omega)
  have r43 := r47
  clear r47
  refine LL.nilS ?_
  refine CC.seq ?_
  refine CC.region ?_
  have l49 := r31.lt
  have l50 := r11.lt
  have l51 := r6.lt
  have l52 := hr.lt
  have l53 := hla.lt
  have l54 := r22.lt
  have l55 := r43.lt
  refine LL.alloc ([Value.int IntKind.i64 0]) rfl rfl rfl rfl rfl ?_
  intro W57 g58 eg58 r59 z60 b56
  replace b40 := b40.trans (b56.mono b40.size)
  replace r31 := r31.up b56
  replace b28 := b28.trans (b56.mono b28.size)
  replace b19 := b19.trans (b56.mono b19.size)
  replace r11 := r11.up b56
  replace b8 := b8.trans (b56.mono b8.size)
  replace r6 := r6.up b56
  replace b3 := b3.trans (b56.mono b3.size)
  replace q := q.trans (b56.mono q.size)
  replace hr := hr.up b56
  replace hla := hla.up b56
  replace r22 := r22.up b56
  replace r43 := r43.up b56
  refine LL.store rfl rfl rfl rfl r59 (by exact Nat.le_of_ble_eq_true rfl) rfl rfl rfl rfl ?_
  intro W62 r63 b61 z64
  have hlb61 := r59.lt
  replace r63 : RowL W62 _ 3 [Value.int IntKind.i64 0] := r63
  clear r59
  replace b56 := b56.grown b61 b56.size (by rintro k ⟨⟩; omega)
  replace b40 := b40.grown b61 b40.size (by rintro k ⟨⟩; omega)
  replace r31 := r31.gr b61 (by have := r31.lt; omega)
  replace b28 := b28.grown b61 b28.size (by rintro k ⟨⟩; omega)
  replace b19 := b19.grown b61 b19.size (by rintro k ⟨⟩; omega)
  replace r11 := r11.gr b61 (by have := r11.lt; omega)
  replace b8 := b8.grown b61 b8.size (by rintro k ⟨⟩; omega)
  replace r6 := r6.gr b61 (by have := r6.lt; omega)
  replace b3 := b3.grown b61 b3.size (by rintro k ⟨⟩; omega)
  replace q := q.grown b61 q.size (by rintro k ⟨⟩; omega)
  replace hr := hr.gr b61 (by have := hr.lt; omega)
  replace hla := hla.gr b61 (by have := hla.lt; omega)
  replace r22 := r22.gr b61 (by have := r22.lt; omega)
  replace r43 := r43.gr b61 (by have := r43.lt; omega)
  have r59 := r63
  clear r63
  refine LL.nilS ?_
  refine CC.seq ?_
  refine CC.label ?_
  refine EE.thenN ?_
  refine CC.seq ?_
  refine CC.seq ?_
  refine CC.region ?_
  refine LL.val (R.move rfl rfl) rfl rfl rfl ?_
  refine LL.call (R.call rfl rfl rfl) rfl rfl rfl (open_any _ _) ?_
  rintro e W66 ⟨g67, rfl, r68, l69, b65⟩
  refine ⟨_, rfl, ?_⟩
  have zb65 := b65.size
  replace b56 := b56.trans (b65.mono b56.size)
  replace b40 := b40.trans (b65.mono b40.size)
  replace r31 := r31.up b65
  replace b28 := b28.trans (b65.mono b28.size)
  replace b19 := b19.trans (b65.mono b19.size)
  replace r11 := r11.up b65
  replace b8 := b8.trans (b65.mono b8.size)
  replace r6 := r6.up b65
  replace b3 := b3.trans (b65.mono b3.size)
  replace q := q.trans (b65.mono q.size)
  replace hr := hr.up b65
  replace hla := hla.up b65
  replace r22 := r22.up b65
  replace r43 := r43.up b65
  replace r59 := r59.up b65
  refine LL.nilS ?_
  refine CC.block ?_
  have yB := q.size
  have l68 : g67 < W66.heap.size := r68.lt
  have hcl : ∀ (pre : List Nat) (x : Nat), Part (fun xs => xs = opS s) (pre ++ [x]) → (opS s)[pre.length]? = some x ∧ pre.length < 16384 ∧ ∃ c, s[x]? = some c := fun pre x hp => by
    obtain ⟨_, rfl, hp⟩ := hp
    have h1 := pre_at hp
    have h2 := opF_lt x (List.mem_of_getElem? h1)
    have h3 := opF_len (s := s) s.length
    have h4 := (List.getElem?_eq_some_iff.1 h1).1
    exact ⟨h1, by unfold opS at h4; omega, h2.2.imp fun c h => h.1⟩
  refine CC.rangeZ (γ := Unit) (gf := 62) (lb := [.pointer (some ⟨g67, 0, none⟩)]) (encs := iE) rfl rfl (open1_gives g67 m gn gl qb N s W66 r68 (hMF _ q)) (Below.refl _ _) (fun k hk => by have lr := r68.lt; (try simp only at hk); omega) (fun _ => rfl) rfl
    (fun mm (pre : List Nat) W' => Below w.heap.size w W' ∧ RowL W' g10 79 ((crJ s ps pre.length).flatMap lE) ∧ RowL W' g21 48 [.slice (some ⟨g10, 0, none⟩) N N] ∧ RowL W' g42 86 [kfV 59 g30, kfV 60 g30, kfV 61 g30] ∧ RowL W' g58 3 [.int .i64 (pre.length : Int)] ∧ RowL W' g5 42 [.slice a L cp] ∧ RowL W' g30 26 [.pointer (some ⟨m, 0, none⟩)] ∧ pre.length ≤ L)
    (fun mm (pre : List Nat) W' => Below w.heap.size w W' ∧ RowL W' g10 79 ((crS s ps).flatMap lE) ∧ RowL W' g21 48 [.slice (some ⟨g10, 0, none⟩) N N])
    (fun W' => Below w.heap.size w W' ∧ RowL W' g10 79 ((crS s ps).flatMap lE) ∧ RowL W' g21 48 [.slice (some ⟨g10, 0, none⟩) N N])
    (by
      rintro mm m' s' X Y ⟨h1, h2, h3, h4, h5, h6, h7, h8⟩ ht hg
      exact ⟨h1.trans (ht.below yB h1.size), ht.row h2 (.inl (by omega)), ht.row h3 (.inl (by omega)), ht.row h4 (.inl (by omega)), ht.row h5 (.inl (by omega)), ht.row h6 (.inl (by omega)), ht.row h7 (.inl (by omega)), h8⟩)
    (by
      rintro mm m' s' X Y ⟨h1, h2, h3⟩ ht hg
      exact ⟨h1.trans (ht.below yB h1.size), ht.row h2 (.inl (by omega)), ht.row h3 (.inl (by omega))⟩)
    ⟨q, by assumption, by assumption, by assumption, by assumption, by assumption, by assumption, Nat.zero_le _⟩ ?hIA ?hIxA
    (fun x _ => sl [(3, .pointer (some ⟨g5, 0, none⟩)), (6, .pointer (some ⟨g21, 0, none⟩)), (7, .pointer (some ⟨g42, 0, none⟩)), (8, .pointer (some ⟨g58, 0, none⟩)), (9, .int .i64 (x : Int))]) (fun _ _ _ => True) (fun x c => fun _ W W' row h hg hr => trivial) ?assign ?body ?after
  case hIA =>
    rintro mm xs W' rfl ⟨h1, h2, h3, _⟩
    exact ⟨h1, h2, h3⟩
  case hIxA =>
    rintro mm pre W' _ h
    exact h
  case assign =>
    rintro l' mm pre x W K hm hI hK
    refine CC.region ?_
    refine LL.val (R.assign rfl rfl) rfl rfl rfl ?_
    refine LL.nil ?_
    exact EE.thenK fun a' F => hK a' _ () (StaysZ.refl _ _ _) (Keeps.refl _ _) hI (F.keep _ ⟨rfl, rfl, rfl, rfl, rfl, trivial⟩) trivial
  case body =>
    rintro l' mm pre x c W hm hl' hrl ⟨q, r11, r22, r43, r59, r6, r31, hpl⟩ _ hpart
    obtain ⟨hx, hpn, c0, hc⟩ := hcl pre x hpart
    have st := StaysZ.refl W66.heap.size mm W
    have kp := Keeps.refl (fun k => k = g67 ∨ k = m ∨ k = gn ∨ k = gl ∨ k = qb) W
    have yq := q.size
    obtain ⟨_, hr0⟩ := hrl
    have hr1 := (Array.getElem?_eq_some_iff.1 hr0).1
    clear hr0
    have hxl := (List.getElem?_eq_some_iff.1 hc).1
    by_cases hend : pre.length = L
    · have hfin : crJ s ps pre.length = crS s ps := by
        have h1 := (List.getElem?_eq_some_iff.1 hx).1
        have h2 := crJ_stop (s := s) (ps := ps) (j := pre.length) (by omega) ((opS s).length - pre.length)
        rw [show pre.length + ((opS s).length - pre.length) = (opS s).length by omega] at h2
        exact h2.symm
      rw [hfin] at r11
      refine CC.block ?_
      refine CC.seq ?_
      refine CC.seq ?_
      refine CC.region ?_
      refine LL.val (R.load rfl rfl (I.ld1 rfl (RowL.cell r59 rfl))) rfl rfl rfl ?_
      refine LL.val (R.load rfl rfl (I.ld1 rfl (RowL.cell r6 rfl))) rfl rfl rfl ?_
      refine LL.val (R.len rfl rfl rfl rfl) rfl rfl rfl ?_
      refine LL.val (R.eqT rfl rfl rfl (by omega)) rfl rfl rfl ?_
      refine LL.nilS ?_
      refine CC.yes rfl ?_
      refine CC.exit ?_
      refine EE.thenX ?_
      refine EE.inX' rfl ?_
      exact EE.roundXZ ⟨st, rfl, q, r11, r22⟩
    obtain ⟨p, hp⟩ : ∃ p, ps[pre.length]? = some p := ⟨_, List.getElem?_eq_getElem (by omega)⟩
    have hp256 := hb p (List.mem_of_getElem? hp)
    obtain ⟨bp, offp, rfl, hbp, hcp⟩ := (hpF W q).one yEnc hp
    have c1 : W.cell? ⟨bp, offp + pre.length, none⟩ = some (.int .u8 (p : Int)) := hcp _ rfl
    have hcr := crJ_step hx hp hc
    have hM0 := hMF W q
    have lw := hM0.lts
    rcases (show p % 3 = 0 ∨ p % 3 = 1 ∨ p % 3 = 2 by omega) with h3 | h3 | h3
    · have c2 : W.cell? ⟨g42, 0 + p % 3, none⟩ = some (kfV 59 g30) := by rw [h3]; exact r43.cell rfl
      have hK1 := fun (w' : World) (b : Below W.heap.size W w') => kept1_any x g30 m gn gl qb N w' (r31.up b) (hMF w' (q.trans (b.mono q.size))) hc
      have hpk : pkL c0 p = c0.2.1 := by unfold pkL; rw [if_pos h3]
      refine CC.block ?_
      refine CC.seq ?_
      refine CC.seq ?_
      refine CC.region ?_
      refine LL.val (R.load rfl rfl (I.ld1 rfl (RowL.cell r59 rfl))) rfl rfl rfl ?_
      refine LL.val (R.load rfl rfl (I.ld1 rfl (RowL.cell r6 rfl))) rfl rfl rfl ?_
      refine LL.val (R.len rfl rfl rfl rfl) rfl rfl rfl ?_
      refine LL.val (R.eqF rfl rfl rfl (by omega)) rfl rfl rfl ?_
      refine LL.nilS ?_
      refine CC.no rfl ?_
      refine CC.skip ?_
      refine EE.thenN ?_
      refine CC.seq ?_
      refine CC.growT 13 (by kernel_rfl) (by kernel_rfl) ?_
      refine GG.val (fun w' b' => R.load rfl rfl (I.ld1 rfl (RowL.cell (r22.up b') rfl))) rfl rfl ?_
      refine GG.val (fun w' b' => R.move rfl rfl) rfl rfl ?_
      refine GG.val (fun w' b' => R.load rfl rfl (I.ld1 rfl (RowL.cell (r6.up b') rfl))) rfl rfl ?_
      refine GG.val (fun w' b' => R.load rfl rfl (I.ld1 rfl (RowL.cell (r59.up b') rfl))) rfl rfl ?_
      refine GG.val (fun w' b' => R.index rfl rfl rfl (I.ixS1 rfl (by omega))) rfl rfl ?_
      (refine GG.val (fun w' b' => R.load rfl rfl (I.ld1 rfl (cell_up c1 b'))) rfl rfl ?_)
      refine GG.val (fun w' b' => R.convI rfl rfl rfl rfl (wrapI (by omega) (by omega))) rfl rfl ?_
      refine GG.val (fun w' b' => R.remNc rfl rfl rfl rfl (by omega)) rfl rfl ?_
      refine GG.val (fun w' b' => R.index rfl rfl rfl (I.ixA1 rfl (by omega))) rfl rfl ?_
      (refine GG.val (fun w' b' => R.load rfl rfl (I.ld1 rfl (cell_up c2 b'))) rfl rfl ?_)
      refine GG.val (fun w' b' => R.move rfl rfl) rfl rfl ?_
      refine GG.call (fun w' => (R.callV rfl rfl rfl rfl)) rfl rfl (fun w' b' => (hK1 w' b').mono fun e W' h => ⟨h.1, b'.trans (h.2.mono b'.size)⟩) ?_
      refine GG.val (fun w' b' => R.index rfl rfl rfl (I.ixS rfl (by omega))) rfl rfl ?_
      refine GG.nil (fun Wc110 bc109 => ?_)
      have zbc109 := bc109.size
      replace q := q.trans (bc109.mono q.size)
      replace r11 := r11.up bc109
      replace r22 := r22.up bc109
      replace r43 := r43.up bc109
      replace r59 := r59.up bc109
      replace r31 := r31.up bc109
      replace st := st.trans (StaysZ.of_below bc109)
      replace kp := kp.trans (Keeps.of_below (fun k hk => by (try simp only at hk); omega) bc109)
      replace r6 := r6.up bc109
      replace c1 := cell_up c1 bc109
      replace hM0 := hM0.up bc109
      replace c2 := cell_up c2 bc109
      (refine LL.storeR (enc := lE) x (c0.2.1) rfl rfl (by show 0 + x * 8 = x * 8; omega) rfl rfl lEnc r11 (by rw [crJ_len]; omega) rfl rfl ?_; clear r11; intro Wc114 r11 grc112 zzc117)
      have zgrc112 := grc112.size
      replace q := q.grown grc112 q.size (by rintro k ⟨⟩; omega)
      replace r22 := r22.gr grc112 (by have := r22.lt; omega)
      replace r43 := r43.gr grc112 (by have := r43.lt; omega)
      replace r59 := r59.gr grc112 (by have := r59.lt; omega)
      replace r31 := r31.gr grc112 (by have := r31.lt; omega)
      replace st := st.trans (StaysZ.of_grown grc112 (by omega))
      replace kp := kp.trans (Keeps.of_grown grc112 fun k hk => by (try simp only at hk); omega)
      replace r6 := r6.gr grc112 (by have := r6.lt; omega)
      replace hM0 := hM0.gr grc112 (by omega)
      replace c2 := cell_gr c2 grc112 (by omega)
      refine LL.nilS ?_
      refine CC.region ?_
      refine LL.val (R.load rfl rfl (I.ld1 rfl (RowL.cell r59 rfl))) rfl rfl rfl ?_
      refine LL.val (R.addNc rfl rfl rfl rfl (by omega)) rfl rfl rfl ?_
      refine LL.store rfl rfl rfl rfl r59 (by exact Nat.le_of_ble_eq_true rfl) rfl rfl rfl rfl ?_
      intro Wc140 rc141 bc139 zc142
      have hlbc139 := r59.lt
      replace rc141 : RowL Wc140 _ 3 [Value.int IntKind.i64 ↑(pre.length + 1)] := rc141
      clear r59
      replace r11 := r11.gr bc139 (by have := r11.lt; omega)
      replace q := q.grown bc139 q.size (by rintro k ⟨⟩; omega)
      replace r22 := r22.gr bc139 (by have := r22.lt; omega)
      replace r43 := r43.gr bc139 (by have := r43.lt; omega)
      replace r31 := r31.gr bc139 (by have := r31.lt; omega)
      replace st := st.trans (StaysZ.of_grown bc139 (by omega))
      replace kp := kp.trans (Keeps.of_grown bc139 fun k hk => by (try simp only at hk); omega)
      replace r6 := r6.gr bc139 (by have := r6.lt; omega)
      replace hM0 := hM0.gr bc139 (by omega)
      replace c2 := cell_gr c2 bc139 (by omega)
      have r59 := rc141
      clear rc141
      refine LL.nil ?_
      refine EE.inN ?_
      exact EE.roundNZ ⟨st, kp, q, by rw [List.length_append, List.length_singleton, hcr, hpk]; exact r11, r22, r43, by rw [List.length_append, List.length_singleton]; exact r59, r6, r31, by rw [List.length_append, List.length_singleton]; omega⟩
    · have c2 : W.cell? ⟨g42, 0 + p % 3, none⟩ = some (kfV 60 g30) := by rw [h3]; exact r43.cell rfl
      have hK2 := fun (w' : World) (b : Below W.heap.size W w') => kept2_any x g30 m gn gl qb N w' (r31.up b) (hMF w' (q.trans (b.mono q.size))) hc
      have hpk : pkL c0 p = c0.2.2.getD c0.2.1 := by unfold pkL; rw [if_neg (by omega), if_pos h3]
      refine CC.block ?_
      refine CC.seq ?_
      refine CC.seq ?_
      refine CC.region ?_
      refine LL.val (R.load rfl rfl (I.ld1 rfl (RowL.cell r59 rfl))) rfl rfl rfl ?_
      refine LL.val (R.load rfl rfl (I.ld1 rfl (RowL.cell r6 rfl))) rfl rfl rfl ?_
      refine LL.val (R.len rfl rfl rfl rfl) rfl rfl rfl ?_
      refine LL.val (R.eqF rfl rfl rfl (by omega)) rfl rfl rfl ?_
      refine LL.nilS ?_
      refine CC.no rfl ?_
      refine CC.skip ?_
      refine EE.thenN ?_
      refine CC.seq ?_
      refine CC.growT 13 (by kernel_rfl) (by kernel_rfl) ?_
      refine GG.val (fun w' b' => R.load rfl rfl (I.ld1 rfl (RowL.cell (r22.up b') rfl))) rfl rfl ?_
      refine GG.val (fun w' b' => R.move rfl rfl) rfl rfl ?_
      refine GG.val (fun w' b' => R.load rfl rfl (I.ld1 rfl (RowL.cell (r6.up b') rfl))) rfl rfl ?_
      refine GG.val (fun w' b' => R.load rfl rfl (I.ld1 rfl (RowL.cell (r59.up b') rfl))) rfl rfl ?_
      refine GG.val (fun w' b' => R.index rfl rfl rfl (I.ixS1 rfl (by omega))) rfl rfl ?_
      (refine GG.val (fun w' b' => R.load rfl rfl (I.ld1 rfl (cell_up c1 b'))) rfl rfl ?_)
      refine GG.val (fun w' b' => R.convI rfl rfl rfl rfl (wrapI (by omega) (by omega))) rfl rfl ?_
      refine GG.val (fun w' b' => R.remNc rfl rfl rfl rfl (by omega)) rfl rfl ?_
      refine GG.val (fun w' b' => R.index rfl rfl rfl (I.ixA1 rfl (by omega))) rfl rfl ?_
      (refine GG.val (fun w' b' => R.load rfl rfl (I.ld1 rfl (cell_up c2 b'))) rfl rfl ?_)
      refine GG.val (fun w' b' => R.move rfl rfl) rfl rfl ?_
      refine GG.call (fun w' => (R.callV rfl rfl rfl rfl)) rfl rfl (fun w' b' => (hK2 w' b').mono fun e W' h => ⟨h.1, b'.trans (h.2.mono b'.size)⟩) ?_
      refine GG.val (fun w' b' => R.index rfl rfl rfl (I.ixS rfl (by omega))) rfl rfl ?_
      refine GG.nil (fun Wd110 bd109 => ?_)
      have zbd109 := bd109.size
      replace q := q.trans (bd109.mono q.size)
      replace r11 := r11.up bd109
      replace r22 := r22.up bd109
      replace r43 := r43.up bd109
      replace r59 := r59.up bd109
      replace r31 := r31.up bd109
      replace st := st.trans (StaysZ.of_below bd109)
      replace kp := kp.trans (Keeps.of_below (fun k hk => by (try simp only at hk); omega) bd109)
      replace r6 := r6.up bd109
      replace c1 := cell_up c1 bd109
      replace hM0 := hM0.up bd109
      replace c2 := cell_up c2 bd109
      (refine LL.storeR (enc := lE) x (c0.2.2.getD c0.2.1) rfl rfl (by show 0 + x * 8 = x * 8; omega) rfl rfl lEnc r11 (by rw [crJ_len]; omega) rfl rfl ?_; clear r11; intro Wd114 r11 grd112 zzd117)
      have zgrd112 := grd112.size
      replace q := q.grown grd112 q.size (by rintro k ⟨⟩; omega)
      replace r22 := r22.gr grd112 (by have := r22.lt; omega)
      replace r43 := r43.gr grd112 (by have := r43.lt; omega)
      replace r59 := r59.gr grd112 (by have := r59.lt; omega)
      replace r31 := r31.gr grd112 (by have := r31.lt; omega)
      replace st := st.trans (StaysZ.of_grown grd112 (by omega))
      replace kp := kp.trans (Keeps.of_grown grd112 fun k hk => by (try simp only at hk); omega)
      replace r6 := r6.gr grd112 (by have := r6.lt; omega)
      replace hM0 := hM0.gr grd112 (by omega)
      replace c2 := cell_gr c2 grd112 (by omega)
      refine LL.nilS ?_
      refine CC.region ?_
      refine LL.val (R.load rfl rfl (I.ld1 rfl (RowL.cell r59 rfl))) rfl rfl rfl ?_
      refine LL.val (R.addNc rfl rfl rfl rfl (by omega)) rfl rfl rfl ?_
      refine LL.store rfl rfl rfl rfl r59 (by exact Nat.le_of_ble_eq_true rfl) rfl rfl rfl rfl ?_
      intro Wd140 rd141 bd139 zd142
      have hlbd139 := r59.lt
      replace rd141 : RowL Wd140 _ 3 [Value.int IntKind.i64 ↑(pre.length + 1)] := rd141
      clear r59
      replace r11 := r11.gr bd139 (by have := r11.lt; omega)
      replace q := q.grown bd139 q.size (by rintro k ⟨⟩; omega)
      replace r22 := r22.gr bd139 (by have := r22.lt; omega)
      replace r43 := r43.gr bd139 (by have := r43.lt; omega)
      replace r31 := r31.gr bd139 (by have := r31.lt; omega)
      replace st := st.trans (StaysZ.of_grown bd139 (by omega))
      replace kp := kp.trans (Keeps.of_grown bd139 fun k hk => by (try simp only at hk); omega)
      replace r6 := r6.gr bd139 (by have := r6.lt; omega)
      replace hM0 := hM0.gr bd139 (by omega)
      replace c2 := cell_gr c2 bd139 (by omega)
      have r59 := rd141
      clear rd141
      refine LL.nil ?_
      refine EE.inN ?_
      exact EE.roundNZ ⟨st, kp, q, by rw [List.length_append, List.length_singleton, hcr, hpk]; exact r11, r22, r43, by rw [List.length_append, List.length_singleton]; exact r59, r6, r31, by rw [List.length_append, List.length_singleton]; omega⟩
    · have c2 : W.cell? ⟨g42, 0 + p % 3, none⟩ = some (kfV 61 g30) := by rw [h3]; exact r43.cell rfl
      have hK3 := fun (w' : World) (b : Below W.heap.size W w') => kept3_any x g30 m gn gl qb N w' (r31.up b) (hMF w' (q.trans (b.mono q.size))) hc
      have hpk : pkL c0 p = c0.1 := by unfold pkL; rw [if_neg (by omega), if_neg (by omega)]
      refine CC.block ?_
      refine CC.seq ?_
      refine CC.seq ?_
      refine CC.region ?_
      refine LL.val (R.load rfl rfl (I.ld1 rfl (RowL.cell r59 rfl))) rfl rfl rfl ?_
      refine LL.val (R.load rfl rfl (I.ld1 rfl (RowL.cell r6 rfl))) rfl rfl rfl ?_
      refine LL.val (R.len rfl rfl rfl rfl) rfl rfl rfl ?_
      refine LL.val (R.eqF rfl rfl rfl (by omega)) rfl rfl rfl ?_
      refine LL.nilS ?_
      refine CC.no rfl ?_
      refine CC.skip ?_
      refine EE.thenN ?_
      refine CC.seq ?_
      refine CC.growT 13 (by kernel_rfl) (by kernel_rfl) ?_
      refine GG.val (fun w' b' => R.load rfl rfl (I.ld1 rfl (RowL.cell (r22.up b') rfl))) rfl rfl ?_
      refine GG.val (fun w' b' => R.move rfl rfl) rfl rfl ?_
      refine GG.val (fun w' b' => R.load rfl rfl (I.ld1 rfl (RowL.cell (r6.up b') rfl))) rfl rfl ?_
      refine GG.val (fun w' b' => R.load rfl rfl (I.ld1 rfl (RowL.cell (r59.up b') rfl))) rfl rfl ?_
      refine GG.val (fun w' b' => R.index rfl rfl rfl (I.ixS1 rfl (by omega))) rfl rfl ?_
      (refine GG.val (fun w' b' => R.load rfl rfl (I.ld1 rfl (cell_up c1 b'))) rfl rfl ?_)
      refine GG.val (fun w' b' => R.convI rfl rfl rfl rfl (wrapI (by omega) (by omega))) rfl rfl ?_
      refine GG.val (fun w' b' => R.remNc rfl rfl rfl rfl (by omega)) rfl rfl ?_
      refine GG.val (fun w' b' => R.index rfl rfl rfl (I.ixA1 rfl (by omega))) rfl rfl ?_
      (refine GG.val (fun w' b' => R.load rfl rfl (I.ld1 rfl (cell_up c2 b'))) rfl rfl ?_)
      refine GG.val (fun w' b' => R.move rfl rfl) rfl rfl ?_
      refine GG.call (fun w' => (R.callV rfl rfl rfl rfl)) rfl rfl (fun w' b' => (hK3 w' b').mono fun e W' h => ⟨h.1, b'.trans (h.2.mono b'.size)⟩) ?_
      refine GG.val (fun w' b' => R.index rfl rfl rfl (I.ixS rfl (by omega))) rfl rfl ?_
      refine GG.nil (fun We110 be109 => ?_)
      have zbe109 := be109.size
      replace q := q.trans (be109.mono q.size)
      replace r11 := r11.up be109
      replace r22 := r22.up be109
      replace r43 := r43.up be109
      replace r59 := r59.up be109
      replace r31 := r31.up be109
      replace st := st.trans (StaysZ.of_below be109)
      replace kp := kp.trans (Keeps.of_below (fun k hk => by (try simp only at hk); omega) be109)
      replace r6 := r6.up be109
      replace c1 := cell_up c1 be109
      replace hM0 := hM0.up be109
      replace c2 := cell_up c2 be109
      (refine LL.storeR (enc := lE) x (c0.1) rfl rfl (by show 0 + x * 8 = x * 8; omega) rfl rfl lEnc r11 (by rw [crJ_len]; omega) rfl rfl ?_; clear r11; intro We114 r11 gre112 zze117)
      have zgre112 := gre112.size
      replace q := q.grown gre112 q.size (by rintro k ⟨⟩; omega)
      replace r22 := r22.gr gre112 (by have := r22.lt; omega)
      replace r43 := r43.gr gre112 (by have := r43.lt; omega)
      replace r59 := r59.gr gre112 (by have := r59.lt; omega)
      replace r31 := r31.gr gre112 (by have := r31.lt; omega)
      replace st := st.trans (StaysZ.of_grown gre112 (by omega))
      replace kp := kp.trans (Keeps.of_grown gre112 fun k hk => by (try simp only at hk); omega)
      replace r6 := r6.gr gre112 (by have := r6.lt; omega)
      replace hM0 := hM0.gr gre112 (by omega)
      replace c2 := cell_gr c2 gre112 (by omega)
      refine LL.nilS ?_
      refine CC.region ?_
      refine LL.val (R.load rfl rfl (I.ld1 rfl (RowL.cell r59 rfl))) rfl rfl rfl ?_
      refine LL.val (R.addNc rfl rfl rfl rfl (by omega)) rfl rfl rfl ?_
      refine LL.store rfl rfl rfl rfl r59 (by exact Nat.le_of_ble_eq_true rfl) rfl rfl rfl rfl ?_
      intro We140 re141 be139 ze142
      have hlbe139 := r59.lt
      replace re141 : RowL We140 _ 3 [Value.int IntKind.i64 ↑(pre.length + 1)] := re141
      clear r59
      replace r11 := r11.gr be139 (by have := r11.lt; omega)
      replace q := q.grown be139 q.size (by rintro k ⟨⟩; omega)
      replace r22 := r22.gr be139 (by have := r22.lt; omega)
      replace r43 := r43.gr be139 (by have := r43.lt; omega)
      replace r31 := r31.gr be139 (by have := r31.lt; omega)
      replace st := st.trans (StaysZ.of_grown be139 (by omega))
      replace kp := kp.trans (Keeps.of_grown be139 fun k hk => by (try simp only at hk); omega)
      replace r6 := r6.gr be139 (by have := r6.lt; omega)
      replace hM0 := hM0.gr be139 (by omega)
      replace c2 := cell_gr c2 be139 (by omega)
      have r59 := re141
      clear re141
      refine LL.nil ?_
      refine EE.inN ?_
      exact EE.roundNZ ⟨st, kp, q, by rw [List.length_append, List.length_singleton, hcr, hpk]; exact r11, r22, r43, by rw [List.length_append, List.length_singleton]; exact r59, r6, r31, by rw [List.length_append, List.length_singleton]; omega⟩
  case after =>
    rintro E W hE ⟨h1, r11, r22⟩ hE1
    have hcs : (crS s ps).length = N := by unfold crS; rw [crJ_len]; exact hl
    have yw := h1.size
    have lE1 := (Array.getElem?_eq_some_iff.1 hE1).1
    refine EE.thenN ?_
    refine CC.seq ?_
    refine CC.region ?_
    refine LL.val (R.load rfl rfl (I.ld1 rfl (RowL.cell r22 rfl))) rfl rfl rfl ?_
    have lf15 := r11.lt
    have lf16 := r22.lt
    have lf17 := (Array.getElem?_eq_some_iff.1 hE1).1
    (refine LL.call (R.call rfl rfl rfl) rfl rfl rfl (on_any g10 N (crS s ps) _ r11 hcs hN h0) ?_; rintro e Wf14 ⟨m', gl', qb', rfl, M', lm', ll', lq', bf11⟩; refine ⟨_, rfl, ?_⟩)
    have zbf11 := bf11.size
    replace h1 := h1.trans (bf11.mono h1.size)
    replace r11 := r11.up bf11
    replace r22 := r22.up bf11
    replace hE1 := defer_up hE1 bf11
    refine LL.val (R.assign rfl rfl) rfl rfl rfl ?_
    refine LL.val (R.assign rfl rfl) rfl rfl rfl ?_
    refine LL.nilS ?_
    refine CC.ret ?_
    refine EE.noR ?_
    refine EE.ret1 hE1 _ rfl rfl ?_
    exact ⟨m', g10, gl', qb', rfl, M'.taken hE1, by omega, by omega, by omega, by omega, taken_bel h1 (by omega) (Nat.le_refl _)⟩
end Go.Proofs.Ytajfffoaebjnlaa
