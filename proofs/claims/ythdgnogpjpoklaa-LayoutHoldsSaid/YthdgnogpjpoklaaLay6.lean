/- layout: all parts, one by one. -/
import Derived.Test.YthdgnogpjpoklaaLay5
import Derived.Test.YthdgnogpjpoklaaSeqZ
import Derived.Test.YthdgnogpjpoklaaRange
namespace Go.Proofs.Ythdgnogpjpoklaa
set_option linter.unusedVariables false
set_option linter.unusedSimpArgs false
open Go.RowKit Go.Shelf

/-- Parts of a kind: each with its first word, its kind, its number. -/
abbrev Pa := Nat × Nat × Nat
def grp (f m fi wd kd : Nat) : List Pa := (List.range m).map fun j => (f * 64 + j * wd, kd, fi + j)
theorem grp_len (f m fi wd kd : Nat) : (grp f m fi wd kd).length = m := by simp [grp]
theorem grp_at {f m fi wd kd j : Nat} (h : j < m) : (grp f m fi wd kd).take (j + 1) = (grp f m fi wd kd).take j ++ [(f * 64 + j * wd, kd, fi + j)] := by
  rw [List.take_add_one]
  simp [grp, h]
def kF (i r : Nat) : Nat → Nat
  | 0 => 0 | 1 => 1 | 2 => 9 | 3 => 9 + i / 4 | 4 => 9 + i / 4 + r / 4 | _ => 10 + i / 4 + r / 4
def kM (b i r : Nat) : Nat → Nat
  | 0 => 1 | 1 => 8 | 2 => i | 3 => r | 4 => 1 | _ => b - (10 + i / 4 + r / 4)
def kN (i r : Nat) : Nat → Nat
  | 0 => 0 | 1 => 0 | 2 => 1 | 3 => 1 | 4 => 0 | _ => 10 + i / 4 + r / 4
def kW : Nat → Nat
  | 0 => 64 | 1 => 64 | 2 => 16 | 3 => 16 | 4 => 64 | _ => 64
def kG (b i r c : Nat) : List Pa := grp (kF i r c) (kM b i r c) (kN i r c) (kW c) (c + 1)
def preL (b i r : Nat) : Nat → List Pa
  | 0 => []
  | c + 1 => preL b i r c ++ kG b i r c
def allP (b i r : Nat) : List Pa := preL b i r 6
theorem preL_pre (b i r : Nat) : ∀ d c : Nat, c + d = 6 → preL b i r c <+: allP b i r
  | 0, c, h => by obtain rfl : c = 6 := by omega
                  exact List.prefix_refl _
  | d + 1, c, h => (List.prefix_append _ _).trans (preL_pre b i r d (c + 1) (by omega))
def paE (x : Pa) : List Value := [.int .i64 (x.1 : Int), .agg #[.int .i64 (x.2.1 : Int), .int .i64 (x.2.2 : Int)]]
/-- What the table says of a kind. -/
theorem kd_at (b i r t k1 k2 c : Nat) (hc : c < 6) (hi : i ≤ 256) (hr : r ≤ 1024) (hb : b ≤ 2048) (hd : 10 + i / 4 + r / 4 ≤ b) : ∃ F M N : Nat, (kindsL.drop (0 + c * 5)).take 5 = [.int .i64 ((c + 1 : Nat) : Int), fnV F, fnV M, fnV N, .int .i64 (kW c : Int)] ∧ entB Try.prog F = true ∧ entB Try.prog M = true ∧ entB Try.prog N = true ∧
    (∀ w, Calls Try.prog F #[undV b i r t k1 k2] w fun e w' => e = .returned (.int .i64 (kF i r c : Int)) ∧ Below w.heap.size w w') ∧
    (∀ w, Calls Try.prog M #[undV b i r t k1 k2] w fun e w' => e = .returned (.int .i64 (kM b i r c : Int)) ∧ Below w.heap.size w w') ∧
    (∀ w, Calls Try.prog N #[undV b i r t k1 k2] w fun e w' => e = .returned (.int .i64 (kN i r c : Int)) ∧ Below w.heap.size w w') := by
  match c, hc with
  | 0, _ => exact ⟨_, _, _, rfl, rfl, rfl, rfl, fun w => zero_any _ _ _ _ _ _ w, fun w => one_any _ _ _ _ _ _ w, fun w => zero_any _ _ _ _ _ _ w⟩
  | 1, _ => exact ⟨_, _, _, rfl, rfl, rfl, rfl, fun w => one_any _ _ _ _ _ _ w, fun w => kinds1_any _ _ _ _ _ _ w, fun w => zero_any _ _ _ _ _ _ w⟩
  | 2, _ => exact ⟨_, _, _, rfl, rfl, rfl, rfl, fun w => kinds2_any _ _ _ _ _ _ w, fun w => kinds3_any _ _ _ _ _ _ w, fun w => one_any _ _ _ _ _ _ w⟩
  | 3, _ => exact ⟨_, _, _, rfl, rfl, rfl, rfl, fun w => records_any _ _ _ _ _ _ w (by omega), fun w => kinds4_any _ _ _ _ _ _ w, fun w => one_any _ _ _ _ _ _ w⟩
  | 4, _ => exact ⟨_, _, _, rfl, rfl, rfl, rfl, fun w => theMap_any _ _ _ _ _ _ w (by omega) (by omega), fun w => one_any _ _ _ _ _ _ w, fun w => zero_any _ _ _ _ _ _ w⟩
  | 5, _ => exact ⟨_, _, _, rfl, rfl, rfl, rfl, fun w => data_any _ _ _ _ _ _ w (by omega) (by omega), fun w => by
      have := kinds5_any (b : Int) i r t k1 k2 w (by omega) (by omega) (by omega)
      rw [show ((b : Int) - (10 + (i : Int) / 4 + (r : Int) / 4)) = ((kM b i r 5 : Nat) : Int) by simp only [kM]; omega] at this
      exact this, fun w => data_any _ _ _ _ _ _ w (by omega) (by omega)⟩

set_option maxRecDepth 100000 in
set_option maxHeartbeats 8000000 in
theorem each_gives (b i r t k1 k2 : Nat) (a c d e : Int) (bk : Nat) (w : World) (hl : isL b i r t a c d e) (hc : ∃ ty, RowL w bk ty [.int .i64 (b : Int), .int .i64 (i : Int), .int .i64 (r : Int), .int .i64 (t : Int), .int .u64 (k1 : Int), .int .u64 (k2 : Int), .int .i64 a, .int .i64 c, .int .i64 d, .int .i64 e]) :
    GivesZ Try.prog 36 [Value.pointer (some ⟨bk, 0, none⟩)].toArray (fun x => (paE x).toArray) (fun _ => False) (fun xs => xs = allP b i r) w := by
  intro lp J Jx W hW hJ hJx hY h0
  obtain ⟨ty, hc⟩ := hc
  have rc := hc.up hW
  clear hc
  have q := Below.refl W.heap.size W
  rw [show (#[.func (.yield lp) #[] #[]] ++ [Value.pointer (some ⟨bk, 0, none⟩)].toArray : Array Value) = #[.func (.yield lp) #[] #[], .pointer (some ⟨bk, 0, none⟩)] from rfl]
  refine X.fn Try.func36 rfl (n := 52) rfl rfl ?_
  refine CC.seq ?_
  refine CC.seq ?_
  refine CC.region ?_
  refine LL.val (R.load rfl rfl (I.ldNc (vs := [Value.int IntKind.i64 ↑b, Value.int IntKind.i64 ↑i, Value.int IntKind.i64 ↑r, Value.int IntKind.i64 ↑t, Value.int IntKind.u64 ↑k1, Value.int IntKind.u64 ↑k2, Value.int IntKind.i64 a, Value.int IntKind.i64 c, Value.int IntKind.i64 d, Value.int IntKind.i64 e]) (RowL.cells rc rfl) (by rfl) (by rfl))) rfl rfl rfl ?_
  refine LL.callBT (R.call rfl rfl rfl) rfl rfl rfl (is_any _ _ _ _ _ _ _ _ _ _ _) (by first | assumption | omega) (fun W2 b1 => ?_)
  have zb1 := b1.size
  replace hW := hW.trans (b1.mono hW.size)
  replace rc := rc.up b1
  replace q := q.trans (b1.mono q.size)
  refine LL.val (R.not rfl rfl) rfl rfl rfl ?_
  refine LL.nilS ?_
  refine CC.no rfl ?_
  refine CC.skip ?_
  refine EE.thenN ?_
  refine CC.seq ?_
  refine CC.region ?_
  refine LL.val (R.field rfl rfl (I.fld rfl)) rfl rfl rfl ?_
  refine LL.val (R.load rfl rfl (I.ldNc (vs := [Value.int IntKind.i64 ↑b, Value.int IntKind.i64 ↑i, Value.int IntKind.i64 ↑r, Value.int IntKind.i64 ↑t]) (RowL.cells rc rfl) (by rfl) (by rfl))) rfl rfl rfl ?_
  refine LL.val (R.field rfl rfl (I.fld rfl)) rfl rfl rfl ?_
  refine LL.val (R.load rfl rfl (I.ldNc (vs := [Value.int IntKind.u64 ↑k1, Value.int IntKind.u64 ↑k2]) (RowL.cells rc rfl) (by rfl) (by rfl))) rfl rfl rfl ?_
  refine LL.val (R.buildV rfl rfl (v := .agg #[Value.int IntKind.i64 ↑b, Value.int IntKind.i64 ↑i, Value.int IntKind.i64 ↑r, Value.int IntKind.i64 ↑t, Value.int IntKind.u64 ↑k1, Value.int IntKind.u64 ↑k2]) (fun _ => by kernel_rfl)) rfl rfl rfl ?_
  have l3 := rc.lt
  refine LL.alloc ([Value.int IntKind.i64 0, Value.int IntKind.i64 0, Value.int IntKind.i64 0, Value.int IntKind.i64 0, Value.int IntKind.u64 0, Value.int IntKind.u64 0]) rfl rfl rfl rfl rfl ?_
  intro W5 g6 eg6 r7 z8 b4
  replace b1 := b1.trans (b4.mono b1.size)
  replace hW := hW.trans (b4.mono hW.size)
  replace rc := rc.up b4
  replace q := q.trans (b4.mono q.size)
  refine LL.storeN (vs := [Value.int IntKind.i64 ↑b, Value.int IntKind.i64 ↑i, Value.int IntKind.i64 ↑r, Value.int IntKind.i64 ↑t, Value.int IntKind.u64 ↑k1, Value.int IntKind.u64 ↑k2]) rfl rfl rfl rfl r7 (by exact Nat.le_of_ble_eq_true rfl) (ones_of rfl) rfl rfl ?_
  intro W10 r11 b9 z12
  have hlb9 := r7.lt
  replace r11 : RowL W10 _ 68 [Value.int IntKind.i64 ↑b, Value.int IntKind.i64 ↑i, Value.int IntKind.i64 ↑r, Value.int IntKind.i64 ↑t, Value.int IntKind.u64 ↑k1, Value.int IntKind.u64 ↑k2] := r11
  clear r7
  replace b4 := b4.grown b9 b4.size (by rintro k ⟨⟩; omega)
  replace b1 := b1.grown b9 b1.size (by rintro k ⟨⟩; omega)
  replace rc := rc.gr b9 (by have := rc.lt; omega)
  replace q := q.grown b9 q.size (by rintro k ⟨⟩; omega)
  have r7 := r11
  clear r11
  refine LL.nilS ?_
  refine CC.seq ?_
  refine CC.region ?_
  refine LL.call (R.call rfl rfl rfl) rfl rfl rfl (kinds_any _) ?_
  rintro e W14 ⟨g15, rfl, r16, l17, b13⟩
  refine ⟨_, rfl, ?_⟩
  have zb13 := b13.size
  replace b4 := b4.trans (b13.mono b4.size)
  replace b1 := b1.trans (b13.mono b1.size)
  replace rc := rc.up b13
  replace q := q.trans (b13.mono q.size)
  replace r7 := r7.up b13
  refine LL.val (R.len rfl rfl rfl rfl) rfl rfl rfl ?_
  refine LL.val (R.move rfl rfl) rfl rfl rfl ?_
  refine LL.nilS ?_
  refine CC.block ?_
  have hz0 := q.size
  have hJ1 : J (fun k => k = g6 ∨ k = g15) [] W14 := hJ _ _ _ _ _ h0 (.of_below q) (fun k hk => .inr (by omega))
  have g6l := r7.lt
  have g15l := r16.lt
  have hne : g6 ≠ g15 := by omega
  refine CC.loop (α := Nat × (Nat → Prop)) (fun s => [(0, .func (.yield lp) #[] #[]), (3, .pointer (some ⟨g6, 0, none⟩)), (15, .slice (some ⟨g15, 0, none⟩) 6 6), (16, .int .i64 6), (17, .int .i64 (s.1 : Int))])
    (fun s wr => s.1 ≤ 6 ∧ W.heap.size ≤ wr.heap.size ∧ J s.2 (preL b i r s.1) wr ∧ (∀ k, s.2 k → W.heap.size ≤ k ∧ k < wr.heap.size) ∧ s.2 g6 ∧ s.2 g15 ∧
      RowL wr g6 68 [.int .i64 (b : Int), .int .i64 (i : Int), .int .i64 (r : Int), .int .i64 (t : Int), .int .u64 (k1 : Int), .int .u64 (k2 : Int)] ∧ RowL wr g15 79 kindsL) (fun s => 6 - s.1)
    (0, fun k => k = g6 ∨ k = g15) ⟨rfl, rfl, rfl, rfl, rfl, trivial⟩ ⟨by show 0 ≤ 6; omega, hz0, hJ1, fun k hk => by omega, .inl rfl, .inr rfl, r7, r16⟩ ?_
  clear hJ1 q b1 b4 b13 rc r7 r16 b9 hW
  rintro ⟨n, m⟩ wr ⟨hn, hz, hJn, hm, hm6, hm15, r7, r16⟩
  simp only at hn hJn hm hm6 hm15
  show CC none Try.prog _ 52 [] (sl [(0, .func (.yield lp) #[] #[]), (3, .pointer (some ⟨g6, 0, none⟩)), (15, .slice (some ⟨g15, 0, none⟩) 6 6), (16, .int .i64 6), (17, .int .i64 (n : Int))]) _ wr
  by_cases hlt : n < 6
  case neg =>
    obtain rfl : n = 6 := by omega
    refine CC.seq ?_
    refine CC.region ?_
    refine LL.val (R.ltF rfl rfl rfl (by omega)) rfl rfl rfl ?_
    refine LL.nilS ?_
    refine CC.seq ?_
    refine CC.no rfl ?_
    refine CC.exit ?_
    refine EE.thenX ?_
    refine EE.thenX ?_
    refine EE.inX ?_
    refine EE.end _ rfl rfl ?_
    exact ⟨⟨_, rfl⟩, .inl ⟨_, _, rfl, hJn⟩⟩
  obtain ⟨F, M, N, hrow, eF, eM, eN, cF, cM, cN⟩ := kd_at b i r t k1 k2 n hlt (by omega) (by omega) (by omega) (by omega)
  have qn := Below.refl wr.heap.size wr
  refine CC.seq ?_
  refine CC.region ?_
  refine LL.val (R.ltT rfl rfl rfl (by omega)) rfl rfl rfl ?_
  refine LL.nilS ?_
  refine CC.seq ?_
  refine CC.yes rfl ?_
  refine CC.skip ?_
  refine EE.thenN ?_
  refine CC.seq ?_
  refine CC.block ?_
  refine CC.seq ?_
  refine CC.region ?_
  refine LL.val (R.index rfl rfl rfl (I.ixS rfl (by omega))) rfl rfl rfl ?_
  refine LL.val (R.load rfl rfl (I.ldNc (vs := [.int .i64 ((n + 1 : Nat) : Int), fnV F, fnV M, fnV N, .int .i64 (kW n : Int)]) (RowL.cells r16 hrow) rfl rfl)) rfl rfl rfl ?_
  have lb1 := r7.lt
  have lb2 := r16.lt
  refine LL.alloc ([Value.int IntKind.i64 0, Value.nilFunc, Value.nilFunc, Value.nilFunc, Value.int IntKind.i64 0]) rfl rfl rfl rfl rfl ?_
  intro Wb4 gb5 egb5 rb6 zb7 bb3
  replace r7 := r7.up bb3
  replace r16 := r16.up bb3
  replace qn := qn.trans (bb3.mono qn.size)
  refine LL.storeN (vs := [Value.int IntKind.i64 ↑(n + 1), fnV F, fnV M, fnV N, Value.int IntKind.i64 ↑(kW n)]) rfl rfl rfl rfl rb6 (by exact Nat.le_of_ble_eq_true rfl) (ones_of rfl) rfl rfl ?_
  intro Wb9 rb10 bb8 zb11
  have hlbb8 := rb6.lt
  replace rb10 : RowL Wb9 _ 79 [Value.int IntKind.i64 ↑(n + 1), fnV F, fnV M, fnV N, Value.int IntKind.i64 ↑(kW n)] := rb10
  clear rb6
  replace bb3 := bb3.grown bb8 bb3.size (by rintro k ⟨⟩; omega)
  replace r7 := r7.gr bb8 (by have := r7.lt; omega)
  replace r16 := r16.gr bb8 (by have := r16.lt; omega)
  replace qn := qn.grown bb8 qn.size (by rintro k ⟨⟩; omega)
  have rb6 := rb10
  clear rb10
  refine LL.nilS ?_
  refine CC.seq ?_
  refine CC.region ?_
  refine LL.val (R.field rfl rfl (I.fld rfl)) rfl rfl rfl ?_
  refine LL.val (R.load rfl rfl (I.ld1 rfl (RowL.cell rb6 rfl))) rfl rfl rfl ?_
  refine LL.val (R.load rfl rfl (I.ldNc (vs := [Value.int IntKind.i64 ↑b, Value.int IntKind.i64 ↑i, Value.int IntKind.i64 ↑r, Value.int IntKind.i64 ↑t, Value.int IntKind.u64 ↑k1, Value.int IntKind.u64 ↑k2]) (RowL.cells r7 rfl) (by rfl) (by rfl))) rfl rfl rfl ?_
  refine LL.call (R.callV rfl rfl rfl eM) rfl rfl rfl (cM _) ?_
  rintro e Wb13 ⟨rfl, bb12⟩
  refine ⟨_, rfl, ?_⟩
  have zbb12 := bb12.size
  replace bb3 := bb3.trans (bb12.mono bb3.size)
  replace r7 := r7.up bb12
  replace r16 := r16.up bb12
  replace qn := qn.trans (bb12.mono qn.size)
  replace rb6 := rb6.up bb12
  refine LL.val (R.move rfl rfl) rfl rfl rfl ?_
  refine LL.nilS ?_
  refine CC.block ?_
  have zq := qn.size
  have hMb : kM b i r n ≤ 2048 := by match n, hlt with
    | 0, _ | 1, _ | 2, _ | 3, _ | 4, _ | 5, _ => simp only [kM]; omega
  have hFb : kF i r n ≤ 2048 := by match n, hlt with
    | 0, _ | 1, _ | 2, _ | 3, _ | 4, _ | 5, _ => simp only [kF]; omega
  have hNb : kN i r n ≤ 2048 := by match n, hlt with
    | 0, _ | 1, _ | 2, _ | 3, _ | 4, _ | 5, _ => simp only [kN]; omega
  have hWb : kW n ≤ 64 := by match n, hlt with
    | 0, _ | 1, _ | 2, _ | 3, _ | 4, _ | 5, _ => simp [kW]
  have hJb : J (fun k => m k ∨ k = gb5) (preL b i r n ++ (kG b i r n).take 0) Wb13 := by
    rw [List.take_zero, List.append_nil]
    exact hJ _ _ _ _ _ hJn (.of_below qn) (fun k hk => hk.imp_right fun e => by omega)
  have hmb : ∀ k, (m k ∨ k = gb5) → W.heap.size ≤ k ∧ k < Wb13.heap.size := fun k hk => by
    rcases hk with hk | rfl
    · have := hm k hk
      omega
    · omega
  refine CC.loop (α := Nat × (Nat → Prop)) (fun s => [(0, .func (.yield lp) #[] #[]), (3, .pointer (some ⟨g6, 0, none⟩)), (5, .pointer (some ⟨gb5, 0, none⟩)), (15, .slice (some ⟨g15, 0, none⟩) 6 6), (16, .int .i64 6), (17, .int .i64 (n : Int)), (24, .int .i64 (kM b i r n : Int)), (25, .int .i64 (s.1 : Int))])
    (fun s wr => s.1 ≤ kM b i r n ∧ W.heap.size ≤ wr.heap.size ∧ J s.2 (preL b i r n ++ (kG b i r n).take s.1) wr ∧ (∀ k, s.2 k → W.heap.size ≤ k ∧ k < wr.heap.size) ∧ s.2 g6 ∧ s.2 g15 ∧ s.2 gb5 ∧
      RowL wr g6 68 [.int .i64 (b : Int), .int .i64 (i : Int), .int .i64 (r : Int), .int .i64 (t : Int), .int .u64 (k1 : Int), .int .u64 (k2 : Int)] ∧ RowL wr g15 79 kindsL ∧
      RowL wr gb5 79 [.int .i64 ((n + 1 : Nat) : Int), fnV F, fnV M, fnV N, .int .i64 (kW n : Int)]) (fun s => kM b i r n - s.1)
    (0, fun k => m k ∨ k = gb5) ⟨rfl, rfl, rfl, rfl, rfl, rfl, rfl, rfl, trivial⟩ ⟨by show 0 ≤ _; omega, by omega, hJb, hmb, .inl hm6, .inl hm15, .inr rfl, r7, r16, rb6⟩ ?_
  clear hJb hJn r7 r16 rb6 qn bb3 bb8 bb12 hm hm6 hm15
  rintro ⟨j, m'⟩ wr' ⟨hj, hz', hJn, hm, hm6, hm15, hm5, r7, r16, r5⟩
  simp only at hj hJn hm hm6 hm15 hm5
  show CC none Try.prog _ 52 [] (sl [(0, .func (.yield lp) #[] #[]), (3, .pointer (some ⟨g6, 0, none⟩)), (5, .pointer (some ⟨gb5, 0, none⟩)), (15, .slice (some ⟨g15, 0, none⟩) 6 6), (16, .int .i64 6), (17, .int .i64 (n : Int)), (24, .int .i64 (kM b i r n : Int)), (25, .int .i64 (j : Int))]) _ wr'
  by_cases hjl : j < kM b i r n
  case neg =>
    obtain rfl : j = kM b i r n := by omega
    rw [List.take_of_length_le (by unfold kG; rw [grp_len]; omega)] at hJn
    refine CC.seq ?_
    refine CC.region ?_
    refine LL.val (R.ltF rfl rfl rfl (by omega)) rfl rfl rfl ?_
    refine LL.nilS ?_
    refine CC.seq ?_
    refine CC.no rfl ?_
    refine CC.exit ?_
    refine EE.thenX ?_
    refine EE.thenX ?_
    refine EE.inX ?_
    refine EE.inN ?_
    refine EE.thenN ?_
    refine CC.region ?_
    refine LL.val (R.addNc rfl rfl rfl rfl (by omega)) rfl rfl rfl ?_
    refine LL.val (R.move rfl rfl) rfl rfl rfl ?_
    refine LL.nil ?_
    exact EE.round (n + 1, m') ⟨rfl, rfl, rfl, rfl, rfl, trivial⟩ ⟨by show n + 1 ≤ 6; omega, hz', hJn, hm, hm6, hm15, r7, r16⟩ (by show 6 - (n + 1) < 6 - n; omega)
  have hjw : j * kW n ≤ 131072 := by
    have := Nat.mul_le_mul (show j ≤ 2048 by omega) hWb
    omega
  have qj := Below.refl wr'.heap.size wr'
  refine CC.seq ?_
  refine CC.region ?_
  refine LL.val (R.ltT rfl rfl rfl (by omega)) rfl rfl rfl ?_
  refine LL.nilS ?_
  refine CC.seq ?_
  refine CC.yes rfl ?_
  refine CC.skip ?_
  refine EE.thenN ?_
  refine CC.seq ?_
  refine CC.block ?_
  refine CC.seq ?_
  refine CC.region ?_
  refine LL.val (R.move rfl rfl) rfl rfl rfl ?_
  refine LL.val (R.assign rfl rfl) rfl rfl rfl ?_
  refine LL.nilS ?_
  refine CC.seq ?_
  refine CC.growT 20 (by kernel_rfl) (by kernel_rfl) ?_
  refine GG.val (fun w' b' => R.move rfl rfl) rfl rfl ?_
  refine GG.val (fun w' b' => R.field rfl rfl (I.fld rfl)) rfl rfl ?_
  refine GG.val (fun w' b' => R.load rfl rfl (I.ld1 rfl (RowL.cell (r5.up b') rfl))) rfl rfl ?_
  refine GG.val (fun w' b' => R.load rfl rfl (I.ldNc (vs := [Value.int IntKind.i64 ↑b, Value.int IntKind.i64 ↑i, Value.int IntKind.i64 ↑r, Value.int IntKind.i64 ↑t, Value.int IntKind.u64 ↑k1, Value.int IntKind.u64 ↑k2]) (RowL.cells (r7.up b') rfl) (by rfl) (by rfl))) rfl rfl ?_
  refine GG.call (fun w' => (R.callV rfl rfl rfl eF)) rfl rfl (fun w' b' => (cF w').mono fun e W' h => ⟨h.1, b'.trans (h.2.mono b'.size)⟩) ?_
  refine GG.val (fun w' b' => R.mulNc rfl rfl rfl rfl (by omega)) rfl rfl ?_
  refine GG.val (fun w' b' => R.move rfl rfl) rfl rfl ?_
  refine GG.val (fun w' b' => R.field rfl rfl (I.fld rfl)) rfl rfl ?_
  refine GG.val (fun w' b' => R.load rfl rfl (I.ld1 rfl (RowL.cell (r5.up b') rfl))) rfl rfl ?_
  refine GG.val (fun w' b' => R.mulN rfl rfl rfl (by omega)) rfl rfl ?_
  refine GG.val (fun w' b' => R.addN rfl rfl rfl (by omega)) rfl rfl ?_
  refine GG.val (fun w' b' => R.field rfl rfl (I.fld rfl)) rfl rfl ?_
  refine GG.val (fun w' b' => R.load rfl rfl (I.ld1 rfl (RowL.cell (r5.up b') rfl))) rfl rfl ?_
  refine GG.val (fun w' b' => R.field rfl rfl (I.fld rfl)) rfl rfl ?_
  refine GG.val (fun w' b' => R.load rfl rfl (I.ld1 rfl (RowL.cell (r5.up b') rfl))) rfl rfl ?_
  refine GG.val (fun w' b' => R.load rfl rfl (I.ldNc (vs := [Value.int IntKind.i64 ↑b, Value.int IntKind.i64 ↑i, Value.int IntKind.i64 ↑r, Value.int IntKind.i64 ↑t, Value.int IntKind.u64 ↑k1, Value.int IntKind.u64 ↑k2]) (RowL.cells (r7.up b') rfl) (by rfl) (by rfl))) rfl rfl ?_
  refine GG.call (fun w' => (R.callV rfl rfl rfl eN)) rfl rfl (fun w' b' => (cN w').mono fun e W' h => ⟨h.1, b'.trans (h.2.mono b'.size)⟩) ?_
  refine GG.val (fun w' b' => R.move rfl rfl) rfl rfl ?_
  refine GG.val (fun w' b' => R.addN rfl rfl rfl (by omega)) rfl rfl ?_
  refine GG.val (fun w' b' => R.buildV rfl rfl (v := .agg #[Value.int IntKind.i64 ↑(n + 1), Value.int IntKind.i64 ↑(kN i r n + j)]) (fun _ => by kernel_rfl)) rfl rfl ?_
  refine GG.nil (fun Wd5 bd4 => ?_)
  have zbd4 := bd4.size
  replace r7 := r7.up bd4
  replace r16 := r16.up bd4
  replace r5 := r5.up bd4
  replace qj := qj.trans (bd4.mono qj.size)
  have hst : (kG b i r n).take (j + 1) = (kG b i r n).take j ++ [(kF i r n * 64 + j * kW n, n + 1, kN i r n + j)] := grp_at hjl
  have hpart : Part (fun xs => xs = allP b i r) (preL b i r n ++ (kG b i r n).take j ++ [(kF i r n * 64 + j * kW n, n + 1, kN i r n + j)]) := by
    refine ⟨_, rfl, ?_⟩
    rw [List.append_assoc, ← hst]
    exact ((List.prefix_append_right_inj _).2 (List.take_prefix _ _)).trans (preL_pre b i r (5 - n) (n + 1) (by omega))
  have hJ3 : J m' (preL b i r n ++ (kG b i r n).take j) Wd5 := hJ _ _ _ _ _ hJn (.of_below bd4) (fun k hk => .inl hk)
  have hm3 : ∀ k, m' k → W.heap.size ≤ k ∧ k < Wd5.heap.size := fun k hk => by have := hm k hk; omega
  refine LL.yield (vs := paE (kF i r n * 64 + j * kW n, n + 1, kN i r n + j)) rfl rfl rfl rfl rfl (hY _ _ _ Wd5 hm3 hJ3 hpart) ?_
  rintro e W4 ⟨hs4, (⟨rfl, hJ4, hb4⟩ | ⟨rfl, hJx4⟩)⟩
  · refine ⟨_, rfl, ?_⟩
    have w6 := hm _ hm6
    have w15 := hm _ hm15
    have w5 := hm _ hm5
    replace r7 := hs4.row r7 (by omega) hm6
    replace r16 := hs4.row r16 (by omega) hm15
    replace r5 := hs4.row r5 (by omega) hm5
    have y4 := hs4.size
    rw [List.append_assoc, ← hst] at hJ4
    have hm4 : ∀ k, m' k → W.heap.size ≤ k ∧ k < W4.heap.size := fun k hk => by have := hm3 k hk; omega
    refine LL.val (R.not rfl rfl) rfl rfl rfl ?_
    refine LL.nilS ?_
    refine CC.no rfl ?_
    refine CC.skip ?_
    refine EE.inN ?_
    refine EE.thenN ?_
    refine CC.region ?_
    refine LL.val (R.addNc rfl rfl rfl rfl (by omega)) rfl rfl rfl ?_
    refine LL.val (R.move rfl rfl) rfl rfl rfl ?_
    refine LL.nil ?_
    exact EE.round (j + 1, m') ⟨rfl, rfl, rfl, rfl, rfl, rfl, rfl, rfl, trivial⟩ ⟨by show j + 1 ≤ kM b i r n; omega, by omega, hJ4, hm4, hm6, hm15, hm5, r7, r16, r5⟩ (by show kM b i r n - (j + 1) < kM b i r n - j; omega)
  · refine ⟨_, rfl, ?_⟩
    refine LL.val (R.not rfl rfl) rfl rfl rfl ?_
    refine LL.nilS ?_
    refine CC.yes rfl ?_
    refine CC.ret ?_
    refine EE.inR ?_
    refine EE.thenR ?_
    refine EE.thenR ?_
    refine EE.inR ?_
    refine EE.inR ?_
    refine EE.thenR ?_
    refine EE.thenR ?_
    refine EE.inR ?_
    refine EE.ret _ rfl rfl ?_
    exact ⟨⟨_, rfl⟩, .inr ⟨_, _, hpart, hJx4⟩⟩
set_option maxRecDepth 100000 in
set_option maxHeartbeats 8000000 in
theorem each_none (b i r t : Int) (k1 k2 : Nat) (a c d e : Int) (bk : Nat) (w : World) (hl : ¬isL b i r t a c d e) (hc : ∃ ty, RowL w bk ty [.int .i64 b, .int .i64 i, .int .i64 r, .int .i64 t, .int .u64 (k1 : Int), .int .u64 (k2 : Int), .int .i64 a, .int .i64 c, .int .i64 d, .int .i64 e]) :
    GivesZ Try.prog 36 [Value.pointer (some ⟨bk, 0, none⟩)].toArray (fun x => (paE x).toArray) (fun _ => False) (fun xs => xs = []) w := by
  intro lp J Jx W hW hJ hJx hY h0
  obtain ⟨ty, hc⟩ := hc
  have rc := hc.up hW
  clear hc
  have q := Below.refl W.heap.size W
  rw [show (#[.func (.yield lp) #[] #[]] ++ [Value.pointer (some ⟨bk, 0, none⟩)].toArray : Array Value) = #[.func (.yield lp) #[] #[], .pointer (some ⟨bk, 0, none⟩)] from rfl]
  refine X.fn Try.func36 rfl (n := 52) rfl rfl ?_
  refine CC.seq ?_
  refine CC.seq ?_
  refine CC.region ?_
  refine LL.val (R.load rfl rfl (I.ldNc (vs := [Value.int IntKind.i64 b, Value.int IntKind.i64 i, Value.int IntKind.i64 r, Value.int IntKind.i64 t, Value.int IntKind.u64 ↑k1, Value.int IntKind.u64 ↑k2, Value.int IntKind.i64 a, Value.int IntKind.i64 c, Value.int IntKind.i64 d, Value.int IntKind.i64 e]) (RowL.cells rc rfl) (by rfl) (by rfl))) rfl rfl rfl ?_
  refine LL.callBF (R.call rfl rfl rfl) rfl rfl rfl (is_any _ _ _ _ _ _ _ _ _ _ _) (by first | assumption | omega) (fun W2 b1 => ?_)
  have zb1 := b1.size
  replace hW := hW.trans (b1.mono hW.size)
  replace rc := rc.up b1
  replace q := q.trans (b1.mono q.size)
  refine LL.val (R.not rfl rfl) rfl rfl rfl ?_
  refine LL.nilS ?_
  refine CC.yes rfl ?_
  refine CC.ret ?_
  refine EE.thenR ?_
  refine EE.ret _ rfl rfl ?_
  exact ⟨⟨_, rfl⟩, .inl ⟨(fun _ => False), [], rfl, hJ _ _ _ _ _ h0 (.of_below q) (fun k hk => .inl hk)⟩⟩
set_option maxRecDepth 100000 in
set_option maxHeartbeats 8000000 in
theorem peach_any (b i r t : Int) (k1 k2 : Nat) (a c d e : Int) (w : World) : Calls Try.prog 21 #[layV b i r t k1 k2 a c d e] w fun x w' => ∃ bk, x = .returned (.func (.func 36) #[] #[.pointer (some ⟨bk, 0, none⟩)]) ∧ RowL w' bk 27 [.int .i64 b, .int .i64 i, .int .i64 r, .int .i64 t, .int .u64 (k1 : Int), .int .u64 (k2 : Int), .int .i64 a, .int .i64 c, .int .i64 d, .int .i64 e] ∧ w.heap.size ≤ bk ∧ Below w.heap.size w w' := by
  have q := Below.refl w.heap.size w
  refine X.fn Try.func21 rfl (n := 4) rfl rfl ?_
  refine CC.seq ?_
  refine CC.region ?_
  refine LL.box [Value.int IntKind.i64 b, Value.int IntKind.i64 i, Value.int IntKind.i64 r, Value.int IntKind.i64 t, Value.int IntKind.u64 ↑k1, Value.int IntKind.u64 ↑k2, Value.int IntKind.i64 a, Value.int IntKind.i64 c, Value.int IntKind.i64 d, Value.int IntKind.i64 e] rfl rfl rfl rfl rfl ?_
  intro W2 g3 eg3 r4 z5 b1
  replace q := q.trans (b1.mono q.size)
  refine LL.val (R.assign rfl rfl) rfl rfl rfl ?_
  refine LL.nilS ?_
  refine CC.seq ?_
  refine CC.region ?_
  refine LL.val (R.func rfl rfl rfl) rfl rfl rfl ?_
  refine LL.val (R.assign rfl rfl) rfl rfl rfl ?_
  refine LL.nilS ?_
  refine CC.ret ?_
  refine EE.ret _ rfl rfl ?_
  exact ⟨_, rfl, by assumption, by omega, q⟩
end Go.Proofs.Ythdgnogpjpoklaa
