/- The document's words of extents. -/
import Derived.Test.YtklfopclaonggaaDoorEx25
namespace Go.Proofs.YtklfopclaonggaaDoor
set_option linter.unusedVariables false
set_option linter.unusedSimpArgs false
open Go.RowKit Go.Shelf
theorem pow_a (w : World) : Calls Tryd.prog 41 #[.int .i64 16] w fun e w' => e = .returned (.int .u64 ((65536 : Nat) : Int)) ∧ w = w' :=
  power_any 16 (by omega) 65536 (Lib.hid (by decide)) w
theorem pow_b (w : World) : Calls Tryd.prog 41 #[.int .i64 40] w fun e w' => e = .returned (.int .u64 ((1099511627776 : Nat) : Int)) ∧ w = w' :=
  power_any 40 (by omega) 1099511627776 (Lib.hid (by decide)) w
theorem rfl_a (x : Nat) (w : World) (hx : x < 18446744073709551616) : Calls Tryd.prog 43 #[.int .u64 (x : Int), .int .i64 0, .int .i64 16] w fun e w' => e = .returned (.int .u64 ((x % 65536 : Nat) : Int)) ∧ w = w' := by
  have h := rfield_any x 0 16 (by omega) hx (by omega) w
  rw [show x / 2 ^ 0 % 2 ^ 16 = x % 65536 by simp] at h
  exact h
theorem rfl_b (x : Nat) (w : World) (hx : x < 18446744073709551616) : Calls Tryd.prog 43 #[.int .u64 (x : Int), .int .i64 16, .int .i64 24] w fun e w' => e = .returned (.int .u64 ((x / 65536 % 16777216 : Nat) : Int)) ∧ w = w' := by
  have h := rfield_any x 16 24 (by omega) hx (by omega) w
  rw [show x / 2 ^ 16 % 2 ^ 24 = x / 65536 % 16777216 by simp] at h
  exact h
theorem rfl_c (x : Nat) (w : World) (hx : x < 18446744073709551616) : Calls Tryd.prog 43 #[.int .u64 (x : Int), .int .i64 40, .int .i64 16] w fun e w' => e = .returned (.int .u64 ((x / 1099511627776 % 65536 : Nat) : Int)) ∧ w = w' := by
  have h := rfield_any x 40 16 (by omega) hx (by omega) w
  rw [show x / 2 ^ 40 % 2 ^ 16 = x / 1099511627776 % 65536 by simp] at h
  exact h
set_option maxRecDepth 100000 in
set_option maxHeartbeats 16000000 in
theorem rwords_T (l : List Ex) (v : Value) (w : World) (hv : ReadsT eE 3 w v l) (h : vL l) : Calls Tryd.prog 25 #[v] w fun e w' => e = .returned (wdV (wrdZ l)) ∧ Below w.heap.size w w' := by
  have q := Below.refl w.heap.size w
  have hlen : l.length ≤ 1048576 := by have := h.1; omega
  obtain ⟨N, hN⟩ : ∃ N, l.length = N := ⟨_, rfl⟩
  have hN10 : N ≤ 10 := by have := h.1; omega
  obtain ⟨a, cap, rfl, hcap⟩ := hv.form hN
  have hvF : ∀ W, Below w.heap.size w W → ReadsT eE 3 W (.slice a N cap) l := fun W hb => hv.up hb
  refine X.fn Tryd.func25 rfl (n := 38) rfl rfl ?_
  refine CC.seq ?_
  refine CC.region ?_
  refine LL.alloc (intsZ .u64 (List.replicate 10 0)) rfl rfl rfl rfl rfl ?_
  intro W2 g3 eg3 r4 z5 b1
  replace q := q.trans (b1.mono q.size)
  replace hv := hv.up b1
  refine LL.nilS ?_
  refine CC.seq ?_
  refine CC.region ?_
  have l6 := r4.lt
  refine LL.alloc (intsZ .u64 (List.replicate 10 0)) rfl rfl rfl rfl rfl ?_
  intro W8 g9 eg9 r10 z11 b7
  replace r4 := r4.up b7
  replace b1 := b1.trans (b7.mono b1.size)
  replace q := q.trans (b7.mono q.size)
  replace hv := hv.up b7
  refine LL.nilS ?_
  refine CC.seq ?_
  refine CC.seq ?_
  refine CC.region ?_
  refine LL.val (R.assign rfl rfl) rfl rfl rfl ?_
  refine LL.nilS ?_
  refine CC.block ?_
  have yq := q.size
  have rc : RowL W8 g9 53 (intsZ .u64 (wrdZ (l.take 0))) := r10
  have hg : g3 < g9 := by omega
  have hwg : w.heap.size ≤ g3 := by omega
  refine CC.loop (α := Nat) (fun i => [(0, .slice a N cap), (2, .pointer (some ⟨g3, 0, none⟩)), (3, .pointer (some ⟨g9, 0, none⟩)), (4, .int .i64 (i : Int))]) (fun i W => i ≤ N ∧ Below w.heap.size w W ∧ g9 < W.heap.size ∧ RowL W g3 53 (intsZ .u64 (List.replicate 10 0)) ∧ RowL W g9 53 (intsZ .u64 (wrdZ (l.take i)))) (fun i => N - i) 0 ⟨rfl, rfl, rfl, rfl, trivial⟩ ⟨by omega, q, rc.lt, r4, rc⟩ ?_
  clear q r4 r10 rc hv
  rintro i W ⟨hi, q, l9, r4, r10⟩
  show CC none Tryd.prog _ 38 [] (sl [(0, .slice a N cap), (2, .pointer (some ⟨g3, 0, none⟩)), (3, .pointer (some ⟨g9, 0, none⟩)), (4, .int .i64 (i : Int))]) _ W
  have yq := q.size
  have hwl : (wrdZ (l.take i)).length = 10 := wrdZ_len (by simp; omega)
  by_cases hlt : i < N
  case neg =>
    obtain rfl : i = N := by omega
    rw [show l.take i = l from List.take_of_length_le (by omega)] at r10 hwl
    refine CC.seq ?_
    refine CC.seq ?_
    refine CC.region ?_
    refine LL.val (R.move rfl rfl) rfl rfl rfl ?_
    refine LL.val (R.move rfl rfl) rfl rfl rfl ?_
    refine LL.val (R.len rfl rfl rfl rfl) rfl rfl rfl ?_
    refine LL.val (R.ltF rfl rfl rfl (by omega)) rfl rfl rfl ?_
    refine LL.nilS ?_
    refine CC.no rfl ?_
    refine CC.exit ?_
    refine EE.thenX ?_
    refine EE.thenX ?_
    refine EE.inX ?_
    refine EE.thenN ?_
    refine CC.seq ?_
    refine CC.region ?_
    refine LL.val (R.loadZ rfl rfl r10 rfl rfl (by first | assumption | exact List.length_replicate | exact plL_len _ | exact plOf_len _ | simp)) rfl rfl rfl ?_
    refine LL.storeAZ rfl rfl rfl rfl (by first | assumption | exact List.length_replicate | exact plL_len _ | exact plOf_len _ | simp) r4 (by first | (rw [List.length_map]; exact (by first | assumption | exact List.length_replicate | exact plL_len _ | exact plOf_len _ | simp)) | simp) rfl rfl ?_
    intro Wa2 ra3 ba1 za4
    have hlba1 := r4.lt
    clear r4
    replace q := q.grown ba1 q.size (by rintro k ⟨⟩; omega)
    replace r10 := r10.gr ba1 (by have := r10.lt; omega)
    have r4 := ra3
    clear ra3
    refine LL.nilS ?_
    refine CC.ret ?_
    refine EE.retC rfl rfl (lvZ (by assumption) rfl rfl (by first | assumption | exact List.length_replicate | exact plL_len _ | exact plOf_len _ | simp)) ?_
    exact ⟨rfl, q⟩
  obtain ⟨x, hx⟩ : ∃ x, l[i]? = some x := ⟨_, List.getElem?_eq_getElem (by omega)⟩
  have hmx := h.2.1 x (List.mem_of_getElem? hx)
  obtain ⟨bk, off, rfl, hbk, hcs⟩ := (hvF W q).get eEnc hx
  have hset := wrdZ_set h.1 hx
  obtain ⟨f, d, k, rfl, hf, hd, hk⟩ := pkZ_nat hmx
  have hpk : pkZ ((f : Int), (d : Int), (k : Int)) = ((f + d * 65536 + k * 1099511627776 : Nat) : Int) := by unfold pkZ; simp only; omega
  rw [hpk] at hset
  have hcs : Cells W ⟨bk, off + i * 3, none⟩ [.int .i64 (f : Int), .int .i64 (d : Int), .int .i64 (k : Int)] := hcs
  have c1 := hcs.at (j := 0) rfl
  have c2 := hcs.at (j := 1) rfl
  have c3 := hcs.at (j := 2) rfl
  clear hcs
  refine CC.seq ?_
  refine CC.seq ?_
  refine CC.region ?_
  refine LL.val (R.move rfl rfl) rfl rfl rfl ?_
  refine LL.val (R.move rfl rfl) rfl rfl rfl ?_
  refine LL.val (R.len rfl rfl rfl rfl) rfl rfl rfl ?_
  refine LL.val (R.ltT rfl rfl rfl (by omega)) rfl rfl rfl ?_
  refine LL.nilS ?_
  refine CC.yes rfl ?_
  refine CC.skip ?_
  refine EE.thenN ?_
  refine CC.seq ?_
  refine CC.block ?_
  refine CC.join (fun l_ Wb5 => l_ = [(0, Value.slice (some { block := bk, off := off }) N cap), (2, Value.pointer (some { block := g3, off := 0 })), (3, Value.pointer (some { block := g9, off := 0 })), (4, Value.int IntKind.i64 ↑i), (5, Value.int IntKind.i64 ↑i), (6, Value.slice (some { block := bk, off := off }) N cap), (7, Value.int IntKind.i64 ↑N), (8, Value.bool true)] ∧ (Below w.heap.size w Wb5) ∧ (RowL Wb5 g3 53 (intsZ IntKind.u64 (List.replicate 10 0))) ∧ (RowL Wb5 g9 53 (intsZ IntKind.u64 ((wrdZ (List.take i l)).set i ↑(f + d * 65536 + k * 1099511627776)))) ∧ (W.heap.size ≤ Wb5.heap.size)) (fun Jb9 => ?_) ?restJb9
  case' restJb9 =>
    clear q
    clear r4
    clear r10
    rintro _ Wb5 ⟨rfl, q, r4, r10, zb8⟩
  refine EE.inN ?_
  refine EE.thenN ?_
  refine CC.region ?_
  refine LL.val (R.move rfl rfl) rfl rfl rfl ?_
  refine LL.val (R.addNc rfl rfl rfl rfl (by omega)) rfl rfl rfl ?_
  refine LL.val (R.assign rfl rfl) rfl rfl rfl ?_
  refine LL.nil ?_
  exact EE.round (i + 1) ⟨rfl, rfl, rfl, rfl, trivial⟩ ⟨by omega, q, by omega, r4, by rw [← hset]; exact r10⟩ (by omega)
  refine CC.freeZ (fun W_ j => j < W_.heap.size ∧ (j ≠ g9)) (by kernel_rfl) (by kernel_rfl) (fun Wb11 bb10 zb12 => ?_)
  replace q := q.trans (bb10.mono q.size)
  replace r4 := r4.up bb10
  replace r10 := r10.up bb10
  replace hcs := hcs.up bb10
  replace c1 := cell_up c1 bb10
  replace c2 := cell_up c2 bb10
  replace c3 := cell_up c3 bb10
  have hok : Kept (fun j => j < Wb11.heap.size ∧ (j ≠ g9)) Wb11 Wb11 := Kept.refl _ _
  have fzr4 := fzRow (K := fun j => j < Wb11.heap.size ∧ (j ≠ g9)) r4 ⟨r4.lt, (by first | trivial | omega)⟩
  refine AA.pure 0 rfl hok (by kernel_rfl) (fun w' b' => R.move rfl rfl) rfl rfl ?_
  refine AA.pure 1 rfl hok (by kernel_rfl) (fun w' b' => R.move rfl rfl) rfl rfl ?_
  refine AA.pure 2 rfl hok (by kernel_rfl) (fun w' b' => R.move rfl rfl) rfl rfl ?_
  refine AA.pure 3 rfl hok (by kernel_rfl) (fun w' b' => R.index rfl rfl rfl (I.ixS rfl (by omega))) rfl rfl ?_
  refine AA.pure 4 rfl hok (by kernel_rfl) (fun w' b' => R.field rfl rfl (I.fld rfl)) rfl rfl ?_
  refine AA.pure 7 rfl hok (by kernel_rfl) (fun w' b' => R.move rfl rfl) rfl rfl ?_
  refine AA.pure 8 rfl hok (by kernel_rfl) (fun w' b' => R.move rfl rfl) rfl rfl ?_
  refine AA.pure 9 rfl hok (by kernel_rfl) (fun w' b' => R.index rfl rfl rfl (I.ixS rfl (by omega))) rfl rfl ?_
  refine AA.pure 10 rfl hok (by kernel_rfl) (fun w' b' => R.field rfl rfl (I.fld rfl)) rfl rfl ?_
  refine AA.pureC 13 rfl hok (by kernel_rfl) (fun w' => (R.call rfl rfl rfl)) (fun w' b' => pow_a w') rfl rfl ?_
  refine AA.pure 16 rfl hok (by kernel_rfl) (fun w' b' => R.move rfl rfl) rfl rfl ?_
  refine AA.pure 17 rfl hok (by kernel_rfl) (fun w' b' => R.move rfl rfl) rfl rfl ?_
  refine AA.pure 18 rfl hok (by kernel_rfl) (fun w' b' => R.index rfl rfl rfl (I.ixS rfl (by omega))) rfl rfl ?_
  refine AA.pure 19 rfl hok (by kernel_rfl) (fun w' b' => R.field rfl rfl (I.fld rfl)) rfl rfl ?_
  refine AA.pureC 22 rfl hok (by kernel_rfl) (fun w' => (R.call rfl rfl rfl)) (fun w' b' => pow_b w') rfl rfl ?_
  refine AA.three 5 11 20 (by kernel_rfl) ?_ ?_ ?_
  refine SR.val rfl (R.load rfl rfl (I.ld1 rfl (by assumption))) rfl rfl hok ?_
  refine AA.pure 6 rfl hok (by kernel_rfl) (fun w' b' => R.convI rfl rfl rfl rfl (wrapU (by omega) (by omega))) rfl rfl ?_
  refine AA.two 11 20 (by kernel_rfl) ?_ ?_
  refine SR.val rfl (R.load rfl rfl (I.ld1 rfl (by assumption))) rfl rfl hok ?_
  refine AA.pure 12 rfl hok (by kernel_rfl) (fun w' b' => R.convI rfl rfl rfl rfl (wrapU (by omega) (by omega))) rfl rfl ?_
  refine AA.pure 14 rfl hok (by kernel_rfl) (fun w' b' => R.mulUN rfl rfl rfl (by omega)) rfl rfl ?_
  refine AA.pure 15 rfl hok (by kernel_rfl) (fun w' b' => R.addUN rfl rfl rfl (by omega)) rfl rfl ?_
  refine AA.one 20 (by kernel_rfl) ?_
  refine SR.val rfl (R.load rfl rfl (I.ld1 rfl (by assumption))) rfl rfl hok ?_
  refine AA.pure 21 rfl hok (by kernel_rfl) (fun w' b' => R.convI rfl rfl rfl rfl (wrapU (by omega) (by omega))) rfl rfl ?_
  refine AA.pure 23 rfl hok (by kernel_rfl) (fun w' b' => R.mulUN rfl rfl rfl (by omega)) rfl rfl ?_
  refine AA.pure 24 rfl hok (by kernel_rfl) (fun w' b' => R.addUN rfl rfl rfl (by omega)) rfl rfl ?_
  refine AA.pure 25 rfl hok (by kernel_rfl) (fun w' b' => R.index rfl rfl rfl (I.ixA1 rfl (by omega))) rfl rfl ?_
  refine AA.one 26 (by kernel_rfl) ?_
  refine ZR.storeZ rfl rfl rfl (Nat.zero_add _) rfl rfl r10 (by first | omega | (simp only [List.length_set, List.length_replicate]; omega) | (rw [plOf_len]; omega)) rfl rfl ?_
  intro Wb14 rb15 bb13 zb16
  have hlbb13 := r10.lt
  clear r10
  replace q := q.grown bb13 q.size (by rintro k ⟨⟩; omega)
  replace r4 := r4.gr bb13 (by have := r4.lt; omega)
  replace hok := hok.trans (grown_kept bb13 (fun j h => by have := h.1; have := hok.size; omega) (fun j h e => by cases e; have h2 := h.1; have h3 := h.2; omega))
  have r10 := rb15
  clear rb15
  refine ⟨hok, ?_⟩
  refine AA.done rfl ?_
  clear fzr4 hok
  exact EE.weak (Jb9 _ _ ⟨rfl, (by first | assumption | omega), (by first | assumption | omega), (by first | assumption | omega), (by first | assumption | omega)⟩) ⟨rfl, rfl, rfl, rfl, rfl, rfl, rfl, rfl, trivial⟩
  refine SR.val rfl (R.load rfl rfl (I.ld1 rfl (by assumption))) rfl rfl hok ?_
  refine AA.pure 21 rfl hok (by kernel_rfl) (fun w' b' => R.convI rfl rfl rfl rfl (wrapU (by omega) (by omega))) rfl rfl ?_
  refine AA.pure 23 rfl hok (by kernel_rfl) (fun w' b' => R.mulUN rfl rfl rfl (by omega)) rfl rfl ?_
  refine AA.one 11 (by kernel_rfl) ?_
  refine SR.val rfl (R.load rfl rfl (I.ld1 rfl (by assumption))) rfl rfl hok ?_
  refine AA.pure 12 rfl hok (by kernel_rfl) (fun w' b' => R.convI rfl rfl rfl rfl (wrapU (by omega) (by omega))) rfl rfl ?_
  refine AA.pure 14 rfl hok (by kernel_rfl) (fun w' b' => R.mulUN rfl rfl rfl (by omega)) rfl rfl ?_
  refine AA.pure 15 rfl hok (by kernel_rfl) (fun w' b' => R.addUN rfl rfl rfl (by omega)) rfl rfl ?_
  refine AA.pure 24 rfl hok (by kernel_rfl) (fun w' b' => R.addUN rfl rfl rfl (by omega)) rfl rfl ?_
  refine AA.pure 25 rfl hok (by kernel_rfl) (fun w' b' => R.index rfl rfl rfl (I.ixA1 rfl (by omega))) rfl rfl ?_
  refine AA.one 26 (by kernel_rfl) ?_
  refine ZR.storeZ rfl rfl rfl (Nat.zero_add _) rfl rfl r10 (by first | omega | (simp only [List.length_set, List.length_replicate]; omega) | (rw [plOf_len]; omega)) rfl rfl ?_
  intro Wb18 rb19 bb17 zb20
  have hlbb17 := r10.lt
  clear r10
  replace q := q.grown bb17 q.size (by rintro k ⟨⟩; omega)
  replace r4 := r4.gr bb17 (by have := r4.lt; omega)
  replace hok := hok.trans (grown_kept bb17 (fun j h => by have := h.1; have := hok.size; omega) (fun j h e => by cases e; have h2 := h.1; have h3 := h.2; omega))
  have r10 := rb19
  clear rb19
  refine ⟨hok, ?_⟩
  refine AA.done rfl ?_
  clear fzr4 hok
  exact EE.weak (Jb9 _ _ ⟨rfl, (by first | assumption | omega), (by first | assumption | omega), (by first | assumption | omega), (by first | assumption | omega)⟩) ⟨rfl, rfl, rfl, rfl, rfl, rfl, rfl, rfl, trivial⟩
  refine SR.val rfl (R.load rfl rfl (I.ld1 rfl (by assumption))) rfl rfl hok ?_
  refine AA.pure 12 rfl hok (by kernel_rfl) (fun w' b' => R.convI rfl rfl rfl rfl (wrapU (by omega) (by omega))) rfl rfl ?_
  refine AA.pure 14 rfl hok (by kernel_rfl) (fun w' b' => R.mulUN rfl rfl rfl (by omega)) rfl rfl ?_
  refine AA.two 5 20 (by kernel_rfl) ?_ ?_
  refine SR.val rfl (R.load rfl rfl (I.ld1 rfl (by assumption))) rfl rfl hok ?_
  refine AA.pure 6 rfl hok (by kernel_rfl) (fun w' b' => R.convI rfl rfl rfl rfl (wrapU (by omega) (by omega))) rfl rfl ?_
  refine AA.pure 15 rfl hok (by kernel_rfl) (fun w' b' => R.addUN rfl rfl rfl (by omega)) rfl rfl ?_
  refine AA.one 20 (by kernel_rfl) ?_
  refine SR.val rfl (R.load rfl rfl (I.ld1 rfl (by assumption))) rfl rfl hok ?_
  refine AA.pure 21 rfl hok (by kernel_rfl) (fun w' b' => R.convI rfl rfl rfl rfl (wrapU (by omega) (by omega))) rfl rfl ?_
  refine AA.pure 23 rfl hok (by kernel_rfl) (fun w' b' => R.mulUN rfl rfl rfl (by omega)) rfl rfl ?_
  refine AA.pure 24 rfl hok (by kernel_rfl) (fun w' b' => R.addUN rfl rfl rfl (by omega)) rfl rfl ?_
  refine AA.pure 25 rfl hok (by kernel_rfl) (fun w' b' => R.index rfl rfl rfl (I.ixA1 rfl (by omega))) rfl rfl ?_
  refine AA.one 26 (by kernel_rfl) ?_
  refine ZR.storeZ rfl rfl rfl (Nat.zero_add _) rfl rfl r10 (by first | omega | (simp only [List.length_set, List.length_replicate]; omega) | (rw [plOf_len]; omega)) rfl rfl ?_
  intro Wb22 rb23 bb21 zb24
  have hlbb21 := r10.lt
  clear r10
  replace q := q.grown bb21 q.size (by rintro k ⟨⟩; omega)
  replace r4 := r4.gr bb21 (by have := r4.lt; omega)
  replace hok := hok.trans (grown_kept bb21 (fun j h => by have := h.1; have := hok.size; omega) (fun j h e => by cases e; have h2 := h.1; have h3 := h.2; omega))
  have r10 := rb23
  clear rb23
  refine ⟨hok, ?_⟩
  refine AA.done rfl ?_
  clear fzr4 hok
  exact EE.weak (Jb9 _ _ ⟨rfl, (by first | assumption | omega), (by first | assumption | omega), (by first | assumption | omega), (by first | assumption | omega)⟩) ⟨rfl, rfl, rfl, rfl, rfl, rfl, rfl, rfl, trivial⟩
  refine SR.val rfl (R.load rfl rfl (I.ld1 rfl (by assumption))) rfl rfl hok ?_
  refine AA.pure 21 rfl hok (by kernel_rfl) (fun w' b' => R.convI rfl rfl rfl rfl (wrapU (by omega) (by omega))) rfl rfl ?_
  refine AA.pure 23 rfl hok (by kernel_rfl) (fun w' b' => R.mulUN rfl rfl rfl (by omega)) rfl rfl ?_
  refine AA.one 5 (by kernel_rfl) ?_
  refine SR.val rfl (R.load rfl rfl (I.ld1 rfl (by assumption))) rfl rfl hok ?_
  refine AA.pure 6 rfl hok (by kernel_rfl) (fun w' b' => R.convI rfl rfl rfl rfl (wrapU (by omega) (by omega))) rfl rfl ?_
  refine AA.pure 15 rfl hok (by kernel_rfl) (fun w' b' => R.addUN rfl rfl rfl (by omega)) rfl rfl ?_
  refine AA.pure 24 rfl hok (by kernel_rfl) (fun w' b' => R.addUN rfl rfl rfl (by omega)) rfl rfl ?_
  refine AA.pure 25 rfl hok (by kernel_rfl) (fun w' b' => R.index rfl rfl rfl (I.ixA1 rfl (by omega))) rfl rfl ?_
  refine AA.one 26 (by kernel_rfl) ?_
  refine ZR.storeZ rfl rfl rfl (Nat.zero_add _) rfl rfl r10 (by first | omega | (simp only [List.length_set, List.length_replicate]; omega) | (rw [plOf_len]; omega)) rfl rfl ?_
  intro Wb26 rb27 bb25 zb28
  have hlbb25 := r10.lt
  clear r10
  replace q := q.grown bb25 q.size (by rintro k ⟨⟩; omega)
  replace r4 := r4.gr bb25 (by have := r4.lt; omega)
  replace hok := hok.trans (grown_kept bb25 (fun j h => by have := h.1; have := hok.size; omega) (fun j h e => by cases e; have h2 := h.1; have h3 := h.2; omega))
  have r10 := rb27
  clear rb27
  refine ⟨hok, ?_⟩
  refine AA.done rfl ?_
  clear fzr4 hok
  exact EE.weak (Jb9 _ _ ⟨rfl, (by first | assumption | omega), (by first | assumption | omega), (by first | assumption | omega), (by first | assumption | omega)⟩) ⟨rfl, rfl, rfl, rfl, rfl, rfl, rfl, rfl, trivial⟩
  refine SR.val rfl (R.load rfl rfl (I.ld1 rfl (by assumption))) rfl rfl hok ?_
  refine AA.pure 21 rfl hok (by kernel_rfl) (fun w' b' => R.convI rfl rfl rfl rfl (wrapU (by omega) (by omega))) rfl rfl ?_
  refine AA.pure 23 rfl hok (by kernel_rfl) (fun w' b' => R.mulUN rfl rfl rfl (by omega)) rfl rfl ?_
  refine AA.two 5 11 (by kernel_rfl) ?_ ?_
  refine SR.val rfl (R.load rfl rfl (I.ld1 rfl (by assumption))) rfl rfl hok ?_
  refine AA.pure 6 rfl hok (by kernel_rfl) (fun w' b' => R.convI rfl rfl rfl rfl (wrapU (by omega) (by omega))) rfl rfl ?_
  refine AA.one 11 (by kernel_rfl) ?_
  refine SR.val rfl (R.load rfl rfl (I.ld1 rfl (by assumption))) rfl rfl hok ?_
  refine AA.pure 12 rfl hok (by kernel_rfl) (fun w' b' => R.convI rfl rfl rfl rfl (wrapU (by omega) (by omega))) rfl rfl ?_
  refine AA.pure 14 rfl hok (by kernel_rfl) (fun w' b' => R.mulUN rfl rfl rfl (by omega)) rfl rfl ?_
  refine AA.pure 15 rfl hok (by kernel_rfl) (fun w' b' => R.addUN rfl rfl rfl (by omega)) rfl rfl ?_
  refine AA.pure 24 rfl hok (by kernel_rfl) (fun w' b' => R.addUN rfl rfl rfl (by omega)) rfl rfl ?_
  refine AA.pure 25 rfl hok (by kernel_rfl) (fun w' b' => R.index rfl rfl rfl (I.ixA1 rfl (by omega))) rfl rfl ?_
  refine AA.one 26 (by kernel_rfl) ?_
  refine ZR.storeZ rfl rfl rfl (Nat.zero_add _) rfl rfl r10 (by first | omega | (simp only [List.length_set, List.length_replicate]; omega) | (rw [plOf_len]; omega)) rfl rfl ?_
  intro Wb30 rb31 bb29 zb32
  have hlbb29 := r10.lt
  clear r10
  replace q := q.grown bb29 q.size (by rintro k ⟨⟩; omega)
  replace r4 := r4.gr bb29 (by have := r4.lt; omega)
  replace hok := hok.trans (grown_kept bb29 (fun j h => by have := h.1; have := hok.size; omega) (fun j h e => by cases e; have h2 := h.1; have h3 := h.2; omega))
  have r10 := rb31
  clear rb31
  refine ⟨hok, ?_⟩
  refine AA.done rfl ?_
  clear fzr4 hok
  exact EE.weak (Jb9 _ _ ⟨rfl, (by first | assumption | omega), (by first | assumption | omega), (by first | assumption | omega), (by first | assumption | omega)⟩) ⟨rfl, rfl, rfl, rfl, rfl, rfl, rfl, rfl, trivial⟩
  refine SR.val rfl (R.load rfl rfl (I.ld1 rfl (by assumption))) rfl rfl hok ?_
  refine AA.pure 12 rfl hok (by kernel_rfl) (fun w' b' => R.convI rfl rfl rfl rfl (wrapU (by omega) (by omega))) rfl rfl ?_
  refine AA.pure 14 rfl hok (by kernel_rfl) (fun w' b' => R.mulUN rfl rfl rfl (by omega)) rfl rfl ?_
  refine AA.one 5 (by kernel_rfl) ?_
  refine SR.val rfl (R.load rfl rfl (I.ld1 rfl (by assumption))) rfl rfl hok ?_
  refine AA.pure 6 rfl hok (by kernel_rfl) (fun w' b' => R.convI rfl rfl rfl rfl (wrapU (by omega) (by omega))) rfl rfl ?_
  refine AA.pure 15 rfl hok (by kernel_rfl) (fun w' b' => R.addUN rfl rfl rfl (by omega)) rfl rfl ?_
  refine AA.pure 24 rfl hok (by kernel_rfl) (fun w' b' => R.addUN rfl rfl rfl (by omega)) rfl rfl ?_
  refine AA.pure 25 rfl hok (by kernel_rfl) (fun w' b' => R.index rfl rfl rfl (I.ixA1 rfl (by omega))) rfl rfl ?_
  refine AA.one 26 (by kernel_rfl) ?_
  refine ZR.storeZ rfl rfl rfl (Nat.zero_add _) rfl rfl r10 (by first | omega | (simp only [List.length_set, List.length_replicate]; omega) | (rw [plOf_len]; omega)) rfl rfl ?_
  intro Wb34 rb35 bb33 zb36
  have hlbb33 := r10.lt
  clear r10
  replace q := q.grown bb33 q.size (by rintro k ⟨⟩; omega)
  replace r4 := r4.gr bb33 (by have := r4.lt; omega)
  replace hok := hok.trans (grown_kept bb33 (fun j h => by have := h.1; have := hok.size; omega) (fun j h e => by cases e; have h2 := h.1; have h3 := h.2; omega))
  have r10 := rb35
  clear rb35
  refine ⟨hok, ?_⟩
  refine AA.done rfl ?_
  clear fzr4 hok
  exact EE.weak (Jb9 _ _ ⟨rfl, (by first | assumption | omega), (by first | assumption | omega), (by first | assumption | omega), (by first | assumption | omega)⟩) ⟨rfl, rfl, rfl, rfl, rfl, rfl, rfl, rfl, trivial⟩
end Go.Proofs.YtklfopclaonggaaDoor
