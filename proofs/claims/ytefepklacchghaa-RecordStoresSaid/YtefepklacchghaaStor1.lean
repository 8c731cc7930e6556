/- record: Stores; the document's Stores; equal stores. -/
import Derived.Test.YtefepklacchghaaRec6
import Derived.Test.YtefepklacchghaaOwnZ
import Derived.Test.YtefepklacchghaaRange
import Derived.Test.YtefepklacchghaaTNew
import Derived.Laws.StructEq
namespace Go.Proofs.Ytefepklacchghaa
set_option linter.unusedVariables false
set_option linter.unusedSimpArgs false
open Go.RowKit Go.Shelf
/-- A store: where, and what. An act: its kind, where, and what. -/
abbrev Pt := Int × Nat

def pE (p : Pt) : List Value := [.int .i64 p.1, .int .u64 (p.2 : Int)]

theorem pEnc : Enc pE 2 := ⟨fun _ => rfl, fun t u hu => by
  simp only [pE, List.mem_cons, List.not_mem_nil, or_false] at hu
  rcases hu with rfl | rfl <;> rfl, by decide⟩

theorem info_parts_t {P : Program} {T e : TypeId} {z : Value} {k bytes : Nat} (hu : P.underlying T = some (.slice e)) (h : (P.info? e).map (fun i => (i.zero, i.size, i.bytes)) = some (some z, k, bytes)) (hz : z.cells.size = k) : ElT P T e z k bytes := by
  refine ⟨hu, ?_, hz⟩
  cases hi : P.info? e with
  | none => rw [hi] at h; cases h
  | some i =>
    rw [hi] at h
    simp only [Option.map_some, Option.some.injEq, Prod.mk.injEq] at h
    exact ⟨i, rfl, h.1, h.2.1, h.2.2⟩

theorem Try.infoPut : (Try.prog.info? 50).map (fun i => (i.zero, i.size, i.bytes)) = some (some (.agg #[.int .i64 0, .int .u64 0]), 2, 16) := by kernel_rfl

theorem ElPut : ElT Try.prog 43 50 (.agg #[.int .i64 0, .int .u64 0]) 2 16 := info_parts_t Try.underlying43 Try.infoPut rfl

/-- The places of a record's stores. -/
def turnL : List Nat := (List.range 16).map fun i => (i + 1) % 16
def tE (x : Nat) : List Value := [.int .i64 (x : Int)]
theorem turn_take {i : Nat} (h : i < 16) : turnL.take (i + 1) = turnL.take i ++ [(i + 1) % 16] := by
  rw [List.take_add_one]
  simp [turnL, h]
def putN (ws : List Nat) (x : Nat) : Pt := ((7 : Int) + (x : Int), (ws[x]?).getD 0)
/-- A record's stores. -/
def putsR (ws : List Nat) : List Pt := turnL.map (putN ws)
theorem putsR_len (ws : List Nat) : (putsR ws).length = 16 := by simp [putsR, turnL]
theorem turn_lt {x : Nat} (h : x ∈ turnL) : x < 16 := by
  simp only [turnL, List.mem_map, List.mem_range] at h
  obtain ⟨i, _, rfl⟩ := h
  omega
set_option maxRecDepth 100000 in
set_option maxHeartbeats 8000000 in
theorem turns_gives (w : World) : GivesZ Try.prog 41 ([] : List Value).toArray (fun x => (tE x).toArray) (fun _ => False) (fun xs => xs = turnL) w := by
  intro lp J Jx W hW hJ hJx hY h0
  rw [show (#[.func (.yield lp) #[] #[]] ++ ([] : List Value).toArray : Array Value) = #[.func (.yield lp) #[] #[]] from rfl]
  refine X.fn Try.func41 rfl (n := 13) rfl rfl ?_
  refine CC.seq ?_
  refine CC.region ?_
  refine LL.val (R.move rfl rfl) rfl rfl rfl ?_
  refine LL.nilS ?_
  refine CC.block ?_
  refine CC.loop (α := Nat × (Nat → Prop)) (fun s => [(0, .func (.yield lp) #[] #[]), (3, .int .i64 (s.1 : Int))])
    (fun s wr => s.1 ≤ 16 ∧ W.heap.size ≤ wr.heap.size ∧ J s.2 (turnL.take s.1) wr ∧ (∀ k, s.2 k → W.heap.size ≤ k ∧ k < wr.heap.size)) (fun s => 16 - s.1)
    (0, fun _ => False) ⟨rfl, rfl, trivial⟩ ⟨by show 0 ≤ 16; omega, Nat.le_refl _, h0, fun k hk => hk.elim⟩ ?_
  rintro ⟨i, m⟩ wr ⟨hi, hz, hJi, hm⟩
  simp only at hi hJi hm
  show CC none Try.prog _ 13 [] (sl [(0, .func (.yield lp) #[] #[]), (3, .int .i64 (i : Int))]) _ wr
  by_cases hlt : i < 16
  case neg =>
    obtain rfl : i = 16 := by omega
    refine CC.seq ?_
    refine CC.region ?_
    refine LL.val (R.ltF rfl rfl rfl (by omega)) rfl rfl rfl ?_
    refine LL.nilS ?_
    refine CC.seq ?_
    refine CC.no rfl ?_
    refine CC.exit ?_
    refine EE.thenX ?_
    refine EE.thenX ?_
    refine EE.inX ?_
    refine EE.end _ rfl rfl ?_
    exact ⟨⟨_, rfl⟩, .inl ⟨_, _, (rfl : turnL.take 16 = turnL), hJi⟩⟩
  have hst := turn_take hlt
  have hpart : Part (fun xs => xs = turnL) (turnL.take i ++ [(i + 1) % 16]) := ⟨_, rfl, by rw [← hst]; exact List.take_prefix _ _⟩
  refine CC.seq ?_
  refine CC.region ?_
  refine LL.val (R.ltT rfl rfl rfl (by omega)) rfl rfl rfl ?_
  refine LL.nilS ?_
  refine CC.seq ?_
  refine CC.yes rfl ?_
  refine CC.skip ?_
  refine EE.thenN ?_
  refine CC.seq ?_
  refine CC.block ?_
  refine CC.seq ?_
  refine CC.region ?_
  refine LL.val (R.move rfl rfl) rfl rfl rfl ?_
  refine LL.val (R.assign rfl rfl) rfl rfl rfl ?_
  refine LL.nilS ?_
  refine CC.seq ?_
  refine CC.region ?_
  refine LL.val (R.move rfl rfl) rfl rfl rfl ?_
  refine LL.val (R.move rfl rfl) rfl rfl rfl ?_
  refine LL.val (R.addNc rfl rfl rfl rfl (by omega)) rfl rfl rfl ?_
  refine LL.val (R.remNc rfl rfl rfl rfl (by omega)) rfl rfl rfl ?_
  refine LL.yield (vs := tE ((i + 1) % 16)) rfl rfl rfl rfl rfl (hY _ _ _ wr hm hJi hpart) ?_
  rintro e W4 ⟨hs4, (⟨rfl, hJ4, hb4⟩ | ⟨rfl, hJx4⟩)⟩
  · refine ⟨_, rfl, ?_⟩
    have y4 := hs4.size
    rw [← hst] at hJ4
    have hm4 : ∀ k, m k → W.heap.size ≤ k ∧ k < W4.heap.size := fun k hk => by have := hm k hk; omega
    refine LL.val (R.not rfl rfl) rfl rfl rfl ?_
    refine LL.nilS ?_
    refine CC.no rfl ?_
    refine CC.skip ?_
    refine EE.inN ?_
    refine EE.thenN ?_
    refine CC.region ?_
    refine LL.val (R.addNc rfl rfl rfl rfl (by omega)) rfl rfl rfl ?_
    refine LL.val (R.move rfl rfl) rfl rfl rfl ?_
    refine LL.nil ?_
    exact EE.round (i + 1, m) ⟨rfl, rfl, trivial⟩ ⟨by show i + 1 ≤ 16; omega, by omega, hJ4, hm4⟩ (by show 16 - (i + 1) < 16 - i; omega)
  · refine ⟨_, rfl, ?_⟩
    refine LL.val (R.not rfl rfl) rfl rfl rfl ?_
    refine LL.nilS ?_
    refine CC.yes rfl ?_
    refine CC.ret ?_
    refine EE.inR ?_
    refine EE.thenR ?_
    refine EE.thenR ?_
    refine EE.inR ?_
    refine EE.ret _ rfl rfl ?_
    exact ⟨⟨_, rfl⟩, .inr ⟨_, _, hpart, hJx4⟩⟩
--C record_turns | turns_any @w | S
set_option maxRecDepth 100000 in
theorem turns_any (w : World) : Calls Try.prog 27 #[] w fun e w' => e = .returned (.func (.func 41) #[] #[]) ∧ w = w' := by
  refine X.fn Try.func27 rfl (n := 1) rfl rfl ?_
  refine CC.seq ?_
  refine CC.region ?_
  refine LL.val (R.assign rfl rfl) rfl rfl rfl ?_
  refine LL.nilS ?_
  refine CC.seq ?_
  refine CC.region ?_
  refine LL.val (R.assign rfl rfl) rfl rfl rfl ?_
  refine LL.nilS ?_
  refine CC.ret ?_
  refine EE.ret _ rfl rfl ?_
  exact ⟨rfl, rfl⟩
set_option maxRecDepth 100000 in
set_option maxHeartbeats 8000000 in
theorem stores_T (n : Nat) (l : Bs) (w : World) (h : okR n l) : Calls Try.prog 15 #[.int .i64 7, recV n l] w fun e w' => ∃ v, e = .returned (.tuple #[v, .int .i64 0]) ∧ OwnsT pE 2 w' w.heap.size 50 v (putsR (recW n l)) ∧ Below w.heap.size w w' := by
  have q := Below.refl w.heap.size w
  have hlr := recW_len (n := n) (nameN_len h.2).2
  refine X.fnM Try.func15 rfl (n := 32) rfl rfl ?_
  refine CC.seq ?_
  refine CC.region ?_
  refine LL.box [Value.int IntKind.i64 7] rfl rfl rfl rfl rfl ?_
  intro W2 g3 eg3 r4 z5 b1
  replace q := q.trans (b1.mono q.size)
  have l6 := r4.lt
  refine LL.box [Value.int IntKind.i64 ↑n, strV l] rfl rfl rfl rfl rfl ?_
  intro W8 g9 eg9 r10 z11 b7
  replace r4 := r4.up b7
  replace b1 := b1.trans (b7.mono b1.size)
  replace q := q.trans (b7.mono q.size)
  refine LL.val (R.assign rfl rfl) rfl rfl rfl ?_
  refine LL.val (R.assign rfl rfl) rfl rfl rfl ?_
  refine LL.nilS ?_
  refine CC.seq ?_
  refine CC.region ?_
  refine LL.val (R.load rfl rfl (I.ldNc (vs := [Value.int IntKind.i64 ↑n, strV l]) (RowL.cells r10 rfl) (by rfl) (by rfl))) rfl rfl rfl ?_
  refine LL.call (R.call rfl rfl rfl) rfl rfl rfl (words_T n l _ h) ?_
  rintro e W1 ⟨v, rfl, o, b1⟩
  refine ⟨_, rfl, ?_⟩
  replace q := q.trans (b1.mono q.size)
  replace r10 := r10.up b1
  replace r4 := r4.up b1
  have y1 := q.size
  obtain ⟨gv, cv, rfl, hgv, lgv, hcv⟩ := owns_at o (by omega)
  have hR := reads_of_owns o
  clear o b1
  refine LL.val (R.move rfl rfl) rfl rfl rfl ?_
  refine LL.val (R.extract rfl rfl rfl) rfl rfl rfl ?_
  refine LL.val (R.extract rfl rfl rfl) rfl rfl rfl ?_
  have la1 := r10.lt
  have la2 := r4.lt
  refine LL.alloc ([Value.slice none 0 0]) rfl rfl rfl rfl rfl ?_
  intro Wa4 ga5 ega5 ra6 za7 ba3
  replace q := q.trans (ba3.mono q.size)
  replace r10 := r10.up ba3
  replace r4 := r4.up ba3
  replace hR := hR.up ba3
  refine LL.store rfl rfl rfl rfl ra6 (by exact Nat.le_of_ble_eq_true rfl) rfl rfl rfl rfl ?_
  intro Wa9 ra10 ba8 za11
  have hlba8 := ra6.lt
  replace ra10 : RowL Wa9 _ 25 [Value.slice (some { block := gv, off := 0 }) 16 cv] := ra10
  clear ra6
  replace ba3 := ba3.grown ba8 ba3.size (by rintro k ⟨⟩; omega)
  replace q := q.grown ba8 q.size (by rintro k ⟨⟩; omega)
  replace r10 := r10.gr ba8 (by have := r10.lt; omega)
  replace r4 := r4.gr ba8 (by have := r4.lt; omega)
  replace hR := hR.gr ba8 (by omega)
  have ra6 := ra10
  clear ra10
  refine LL.val (R.assign rfl rfl) rfl rfl rfl ?_
  refine LL.nilS ?_
  refine CC.seq ?_
  refine CC.seq ?_
  refine CC.region ?_
  refine LL.val (R.move rfl rfl) rfl rfl rfl ?_
  refine LL.val (R.neF rfl rfl rfl (by omega)) rfl rfl rfl ?_
  refine LL.nilS ?_
  refine CC.no rfl ?_
  refine CC.skip ?_
  refine EE.thenN ?_
  refine CC.seq ?_
  refine CC.region ?_
  have la12 := r10.lt
  have la13 := r4.lt
  have la14 := ra6.lt
  refine LL.alloc ([Value.slice none 0 0]) rfl rfl rfl rfl rfl ?_
  intro Wa16 ga17 ega17 ra18 za19 ba15
  replace ba3 := ba3.trans (ba15.mono ba3.size)
  replace q := q.trans (ba15.mono q.size)
  replace r10 := r10.up ba15
  replace r4 := r4.up ba15
  replace hR := hR.up ba15
  replace ra6 := ra6.up ba15
  refine LL.nilS ?_
  refine CC.seq ?_
  refine CC.seq ?_
  refine CC.region ?_
  refine LL.call (R.call rfl rfl rfl) rfl rfl rfl (turns_any _) ?_
  rintro e W' ⟨rfl, rfl⟩
  refine ⟨_, rfl, ?_⟩
  refine LL.nilS ?_
  refine CC.block ?_
  have yB := q.size
  have l3 := r4.lt
  have l5 := ra6.lt
  have l17 := ra18.lt
  have hgl : gv < Wa16.heap.size := by omega
  have hput : ∀ x : Nat, x < 16 → ∃ y : Nat, (recW n l)[x]? = some y ∧ putN (recW n l) x = ((7 : Int) + (x : Int), y) := fun x hx => by
    obtain ⟨y, hy⟩ : ∃ y, (recW n l)[x]? = some y := ⟨_, List.getElem?_eq_getElem (by omega)⟩
    exact ⟨y, hy, by unfold putN; rw [hy]; rfl⟩
  refine CC.rangeZ (γ := Unit) (gf := 41) (lb := []) (encs := tE) rfl rfl (turns_gives Wa16) (Below.refl _ _) (fun _ h => h.elim) (fun _ => rfl) rfl
    (fun m (pre : List Nat) W' => Below w.heap.size w W' ∧ RowL W' g3 3 [.int .i64 7] ∧ RowL W' ga5 25 [.slice (some ⟨gv, 0, none⟩) 16 cv] ∧ Reads W' (.slice (some ⟨gv, 0, none⟩) 16 cv) (ints .u64 (recW n l)) ∧
      ∃ v, RowL W' ga17 43 [v] ∧ OwnsT pE 2 W' Wa16.heap.size 50 v (pre.map (putN (recW n l))) ∧ ∀ g, v.ownBlock = some g → ¬ m g)
    (fun _ _ _ => False)
    (fun W' => Below w.heap.size w W' ∧ ∃ v, RowL W' ga17 43 [v] ∧ OwnsT pE 2 W' Wa16.heap.size 50 v (putsR (recW n l)))
    (by
      rintro m m' s X Y ⟨h1, h4, h6, hR, v, hO, o, hn⟩ ht hg
      exact ⟨h1.trans (ht.below yB h1.size), ht.row h4 (.inl l3), ht.row h6 (.inl l5), hR.turn ht hgl, v, ht.row hO (.inl l17), o.turn ht hn, own_later o hn hg⟩)
    (fun m m' s X Y hs ht hg => hs)
    ⟨q, r4, ra6, hR, _, ra18, OwnsT.none _ _ _, fun g hg => by cases hg⟩ ?hIA (fun _ _ _ _ h => h.elim)
    (fun x _ => sl [(2, .pointer (some ⟨g3, 0, none⟩)), (6, .pointer (some ⟨ga5, 0, none⟩)), (8, .pointer (some ⟨ga17, 0, none⟩)), (9, .int .i64 (x : Int))]) (fun _ _ _ => True) (fun x c => fun _ W W' row h hg hr => trivial) ?assign ?body ?after
  case hIA =>
    rintro m xs W' rfl ⟨h1, _, _, _, v, hO, o, _⟩
    exact ⟨h1, v, hO, o⟩
  case assign =>
    rintro l' m pre x W K hm ⟨h1, h4, h6, hR, v, hO, o, hn⟩ hK
    refine CC.region ?_
    refine LL.val (R.assign rfl rfl) rfl rfl rfl ?_
    refine LL.nil ?_
    exact EE.thenK fun a' F => hK a' _ () (StaysZ.refl _ _ _) (Keeps.refl _ _) ⟨h1, h4, h6, hR, v, hO, o, hn⟩ (F.keep _ ⟨rfl, rfl, rfl, rfl, trivial⟩) trivial
  case body =>
    rintro l' m pre x c W hm hl' hrl ⟨q, r4, ra6, hR, v, rO, o, hn⟩ _ ⟨_, rfl, tt, hp⟩
    have hx : x < 16 := turn_lt (by rw [← hp]; simp)
    have hpl : pre.length ≤ 16 := by
      have := congrArg List.length hp
      simp [turnL] at this
      omega
    obtain ⟨y, hy, hpy⟩ := hput x hx
    have c1 := reads_int hR hy
    have st := StaysZ.refl Wa16.heap.size m W
    have kp := Keeps.refl (fun _ => False) W
    have hne := own_ne o l17
    have hnv := own_ne o hgl
    have hn3 := own_ne o l3
    have hn5 := own_ne o l5
    have yO := q.size
    have l3' := r4.lt
    have l5' := ra6.lt
    have l17' := rO.lt
    refine CC.block ?_
    refine CC.freeZ (fun W_ j => j < W_.heap.size ∧ (j ≠ ga17 ∧ v.ownBlock ≠ some j)) (by kernel_rfl) (by kernel_rfl) (fun Wd b z => ?_)
    replace st := st.trans (StaysZ.of_below b)
    replace kp := kp.trans (Keeps.of_below (fun k hk => hk.elim) b)
    replace q := q.trans (b.mono q.size)
    replace r4 := r4.up b
    replace ra6 := ra6.up b
    replace rO := rO.up b
    replace hR := hR.up b
    replace o := o.up b
    replace c1 := cell_up c1 b
    have hmz : ∀ j, m j → j < Wd.heap.size := fun j hj => by have := (hm j hj).2; have := b.size; omega
    have hok : Kept (fun j => j < Wd.heap.size ∧ (j ≠ ga17 ∧ v.ownBlock ≠ some j)) Wd Wd := Kept.refl _ _
    have fzr4 := fzRow (K := fun j => j < Wd.heap.size ∧ (j ≠ ga17 ∧ v.ownBlock ≠ some j)) r4 ⟨r4.lt, by omega, hn3⟩
    have fzra6 := fzRow (K := fun j => j < Wd.heap.size ∧ (j ≠ ga17 ∧ v.ownBlock ≠ some j)) ra6 ⟨ra6.lt, by omega, hn5⟩
    have fzc1 := fzCell (K := fun j => j < Wd.heap.size ∧ (j ≠ ga17 ∧ v.ownBlock ≠ some j)) c1 ⟨World.block_lt_of_cell? _ _ c1, by omega, hnv⟩
    clear b
    have yW : Wa16.heap.size ≤ Wd.heap.size := by
      obtain ⟨_, hr⟩ := hrl
      have := (Array.getElem?_eq_some_iff.1 hr).1
      omega
    refine AA.pure 1 rfl hok (by kernel_rfl) (fun w' b' => R.load rfl rfl (I.ld1 rfl (RowL.cell (fzr4 w' b') rfl))) rfl rfl ?_
    refine AA.pure 2 rfl hok (by kernel_rfl) (fun w' b' => R.move rfl rfl) rfl rfl ?_
    refine AA.pure 3 rfl hok (by kernel_rfl) (fun w' b' => R.addI rfl rfl rfl (by omega)) rfl rfl ?_
    refine AA.pure 4 rfl hok (by kernel_rfl) (fun w' b' => R.load rfl rfl (I.ld1 rfl (RowL.cell (fzra6 w' b') rfl))) rfl rfl ?_
    refine AA.pure 5 rfl hok (by kernel_rfl) (fun w' b' => R.move rfl rfl) rfl rfl ?_
    refine AA.pure 6 rfl hok (by kernel_rfl) (fun w' b' => R.index rfl rfl rfl (I.ixS1 rfl (by omega))) rfl rfl ?_
    refine AA.pure 7 rfl hok (by kernel_rfl) (fun w' b' => R.load rfl rfl (I.ld1 rfl (fzc1 w' b'))) rfl rfl ?_
    refine AA.pure 8 rfl hok (by kernel_rfl) (fun w' b' => R.buildV rfl rfl (v := .agg #[Value.int IntKind.i64 (7 + ↑x), Value.int IntKind.u64 ↑y]) (fun _ => by kernel_rfl)) rfl rfl ?_
    refine AA.two 0 9 (by kernel_rfl) ?_ ?_
    refine SR.val rfl (R.load rfl rfl (I.ld1 rfl (RowL.cell rO rfl))) rfl rfl hok ?_
    refine AA.one 9 (by kernel_rfl) ?_
    have lc1 := r4.lt
    have lc2 := ra6.lt
    have lc3 := rO.lt
    refine ZR.lit (e := 50) [Value.int IntKind.i64 (7 + ↑x), Value.int IntKind.u64 ↑y] 1 rfl rfl rfl (fun _ => by kernel_rfl) rfl rfl ?_
    intro Wc5 gc6 egc6 rc7 zc8 bc4
    replace st := st.trans (StaysZ.of_below bc4)
    replace kp := kp.trans (Keeps.of_below (fun k hk => hk.elim) bc4)
    replace q := q.trans (bc4.mono q.size)
    replace r4 := r4.up bc4
    replace ra6 := ra6.up bc4
    replace rO := rO.up bc4
    replace hR := hR.up bc4
    replace o := o.up bc4
    replace c1 := cell_up c1 bc4
    replace hok := hok.trans (bkept bc4 (fun j h => by have := h.1; have := hok.size; omega))
    have yc9 := hok.size
    refine ⟨hok, ?_⟩
    refine AA.one 10 (by kernel_rfl) ?_
    (refine SR.appendT2 rfl rfl rfl pEnc ElPut o (RowL.readsT (ts := [((7 : Int) + (x : Int), y)]) pEnc (by assumption) 1 (by simp)) (by simp [maxLen]; omega) (by simp; omega) (by omega) rfl rfl ?_; intro v' Wa oa gra hva; obtain ⟨a', cp, rfl, hcp⟩ := (oa.reads pEnc).form rfl; replace st := st.trans (StaysZ.own o gra hn); replace kp : Keeps (fun _ => False) W Wa := ⟨by have := kp.size; have := gra.size; omega, fun k hk => hk.elim⟩; replace q := q.grown gra q.size (fun g hg => by have := own_ge o g hg; omega); replace r4 := r4.grO gra hn3; replace ra6 := ra6.grO gra hn5; replace rO := rO.grO gra hne; replace c1 := cell_grO c1 gra hnv; replace hR := hR.grO gra hnv; have hn2 := own_new hva hn (fun j hj => by have := hmz j hj; omega); replace hok := hok.trans (grown_kept gra (fun j h => by have := h.1; have := hok.size; omega) (fun j h => h.2.2)); have hsz := gra.size; clear o; have o := oa; clear oa; refine ⟨hok, ?_⟩)
    refine AA.one 11 (by kernel_rfl) ?_
    refine ZR.store rfl rfl rfl rfl rfl rO (by exact Nat.le_of_ble_eq_true rfl) rfl rfl rfl rfl ?_
    intro Wc11 rc12 bc10 zc13
    have hlbc10 := rO.lt
    clear rO
    replace st := st.trans (StaysZ.of_grown bc10 (by omega))
    replace kp := kp.trans (Keeps.of_grown bc10 fun k hk => hk.elim)
    replace q := q.grown bc10 q.size (by rintro k ⟨⟩; omega)
    replace r4 := r4.gr bc10 (by have := r4.lt; omega)
    replace ra6 := ra6.gr bc10 (by have := ra6.lt; omega)
    replace c1 := cell_gr c1 bc10 (by omega)
    replace hR := hR.gr bc10 (by omega)
    replace hok := hok.trans (grown_kept bc10 (fun j h => by have := h.1; have := hok.size; omega) (fun j h e => by cases e; have h2 := h.1; have h3 := h.2; omega))
    have rO := rc12
    clear rc12
    refine ⟨hok, ?_⟩
    refine AA.done rfl ?_
    clear fzr4 fzra6 fzc1 hok
    refine EE.inN ?_
    exact EE.roundNZ ⟨st, kp, q, r4, ra6, hR, _, rO, by rw [List.map_append, List.map_cons, List.map_nil, hpy]; exact o.grown (by assumption) (own_ne o l17), hn2⟩
    have lc14 := r4.lt
    have lc15 := ra6.lt
    have lc16 := rO.lt
    refine ZR.lit (e := 50) [Value.int IntKind.i64 (7 + ↑x), Value.int IntKind.u64 ↑y] 1 rfl rfl rfl (fun _ => by kernel_rfl) rfl rfl ?_
    intro Wc18 gc19 egc19 rc20 zc21 bc17
    replace st := st.trans (StaysZ.of_below bc17)
    replace kp := kp.trans (Keeps.of_below (fun k hk => hk.elim) bc17)
    replace q := q.trans (bc17.mono q.size)
    replace r4 := r4.up bc17
    replace ra6 := ra6.up bc17
    replace rO := rO.up bc17
    replace hR := hR.up bc17
    replace o := o.up bc17
    replace c1 := cell_up c1 bc17
    replace hok := hok.trans (bkept bc17 (fun j h => by have := h.1; have := hok.size; omega))
    have yc22 := hok.size
    refine ⟨hok, ?_⟩
    refine AA.one 0 (by kernel_rfl) ?_
    refine SR.val rfl (R.load rfl rfl (I.ld1 rfl (RowL.cell rO rfl))) rfl rfl hok ?_
    refine AA.one 10 (by kernel_rfl) ?_
    (refine SR.appendT2 rfl rfl rfl pEnc ElPut o (RowL.readsT (ts := [((7 : Int) + (x : Int), y)]) pEnc (by assumption) 1 (by simp)) (by simp [maxLen]; omega) (by simp; omega) (by omega) rfl rfl ?_; intro v' Wa oa gra hva; obtain ⟨a', cp, rfl, hcp⟩ := (oa.reads pEnc).form rfl; replace st := st.trans (StaysZ.own o gra hn); replace kp : Keeps (fun _ => False) W Wa := ⟨by have := kp.size; have := gra.size; omega, fun k hk => hk.elim⟩; replace q := q.grown gra q.size (fun g hg => by have := own_ge o g hg; omega); replace r4 := r4.grO gra hn3; replace ra6 := ra6.grO gra hn5; replace rO := rO.grO gra hne; replace c1 := cell_grO c1 gra hnv; replace hR := hR.grO gra hnv; have hn2 := own_new hva hn (fun j hj => by have := hmz j hj; omega); replace hok := hok.trans (grown_kept gra (fun j h => by have := h.1; have := hok.size; omega) (fun j h => h.2.2)); have hsz := gra.size; clear o; have o := oa; clear oa; refine ⟨hok, ?_⟩)
    refine AA.one 11 (by kernel_rfl) ?_
    refine ZR.store rfl rfl rfl rfl rfl rO (by exact Nat.le_of_ble_eq_true rfl) rfl rfl rfl rfl ?_
    intro Wc24 rc25 bc23 zc26
    have hlbc23 := rO.lt
    clear rO
    replace st := st.trans (StaysZ.of_grown bc23 (by omega))
    replace kp := kp.trans (Keeps.of_grown bc23 fun k hk => hk.elim)
    replace q := q.grown bc23 q.size (by rintro k ⟨⟩; omega)
    replace r4 := r4.gr bc23 (by have := r4.lt; omega)
    replace ra6 := ra6.gr bc23 (by have := ra6.lt; omega)
    replace c1 := cell_gr c1 bc23 (by omega)
    replace hR := hR.gr bc23 (by omega)
    replace hok := hok.trans (grown_kept bc23 (fun j h => by have := h.1; have := hok.size; omega) (fun j h e => by cases e; have h2 := h.1; have h3 := h.2; omega))
    have rO := rc25
    clear rc25
    refine ⟨hok, ?_⟩
    refine AA.done rfl ?_
    clear fzr4 fzra6 fzc1 hok
    refine EE.inN ?_
    exact EE.roundNZ ⟨st, kp, q, r4, ra6, hR, _, rO, by rw [List.map_append, List.map_cons, List.map_nil, hpy]; exact o.grown (by assumption) (own_ne o l17), hn2⟩
  case after =>
    rintro E W hE ⟨h1, v, hO, o⟩ hE1
    refine EE.thenN ?_
    refine CC.seq ?_
    refine CC.region ?_
    refine LL.val (R.load rfl rfl (I.ld1 rfl (RowL.cell hO rfl))) rfl rfl rfl ?_
    refine LL.val (R.assign rfl rfl) rfl rfl rfl ?_
    refine LL.val (R.assign rfl rfl) rfl rfl rfl ?_
    refine LL.nilS ?_
    refine CC.ret ?_
    refine EE.ret1 hE1 _ rfl rfl ?_
    exact ⟨_, rfl, own_taken (o.lower yB) hE1, taken_bel h1 (by omega) (Nat.le_refl _)⟩
end Go.Proofs.Ytefepklacchghaa
