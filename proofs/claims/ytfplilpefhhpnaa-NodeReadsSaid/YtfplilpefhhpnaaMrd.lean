/- What the statements' walks use: So17, So18, So19, So20, So21, So22, So23, So24, So25, So26, So27, So28, So29, So30, So31, So32, Bs, ConvB, Nd5, Nd6, Nd7. -/
import Derived.Lib.ConvBytes
import Derived.Test.YtfplilpefhhpnaaMra
import Derived.Test.YtfplilpefhhpnaaMrb
import Derived.Test.YtfplilpefhhpnaaMrc
/- slots: Each; the document's rows. -/
namespace Go.Proofs.Ytfplilpefhhpnaa
set_option linter.unusedVariables false
set_option linter.unusedSimpArgs false
open Go.RowKit Go.Shelf
open Classical in
noncomputable def eachS (left : Nat) (s : List Nat) : List Nat := if noRow left s.length then [] else s
set_option maxRecDepth 100000
set_option maxHeartbeats 4000000
theorem peach_any (left n : Nat) (v : Value) (s : List Nat) (w : World) (hv : ReadsT uE 1 w v s) (hn : s.length = n) (h80 : n ≤ 1048576) : Calls Try.prog 33 #[.int .u64 (left : Int), v] w fun e w' => ∃ bk a c, e = .returned (.func (.func 75) #[] #[.pointer (some ⟨bk, 0, none⟩)]) ∧ RowL w' bk 96 [.slice a (eachS left s).length c, .int .u64 (left : Int)] ∧ OwnsT uE 1 w' w.heap.size 25 (.slice a (eachS left s).length c) (eachS left s) ∧ w.heap.size ≤ bk ∧ Below w.heap.size w w' := by
  have q := Below.refl w.heap.size w
  have hvF : ∀ X, Below w.heap.size w X → ReadsT uE 1 X v s := fun X b => hv.up b
  clear hv
  have hvlt : ∀ (X : World) (a : Option Addr) (c : Nat), OwnsT uE 1 X w.heap.size 25 (.slice a n c) s → True := fun _ _ _ _ => trivial
  clear hvlt
  unfold eachS
  rw [hn]
  by_cases h1 : noRow left n
  · rw [if_pos h1]
    refine X.fn Try.func33 rfl (n := 18) rfl rfl ?_
    refine CC.seq ?_
    refine CC.region ?_
    refine LL.val (R.assign rfl rfl) rfl rfl rfl ?_
    refine LL.nilS ?_
    refine CC.seq ?_
    refine CC.region ?_
    refine LL.val (R.move rfl rfl) rfl rfl rfl ?_
    (refine LL.call (R.call rfl rfl rfl) rfl rfl rfl (uclone_any v s _ (hvF _ q) (by omega)) ?_; rintro e W18 ⟨v', rfl, o, b15⟩; refine ⟨_, rfl, ?_⟩; obtain ⟨aV, cV, rfl, hcV⟩ := (o.reads uEnc).form hn; clear o)
    have zb15 := b15.size
    replace q := q.trans (b15.mono q.size)
    refine LL.val (R.buildV rfl rfl (v := .agg #[Value.slice aV n cV]) (fun _ => by kernel_rfl)) rfl rfl rfl ?_
    refine LL.val (R.move rfl rfl) rfl rfl rfl ?_
    refine LL.val (R.buildV rfl rfl (v := .agg #[Value.slice aV n cV, Value.int IntKind.u64 ↑left]) (fun _ => by kernel_rfl)) rfl rfl rfl ?_
    refine LL.alloc ([Value.slice none 0 0, Value.int IntKind.u64 0]) rfl rfl rfl rfl rfl ?_
    intro W51 g52 eg52 r53 z54 b50
    replace b15 := b15.trans (b50.mono b15.size)
    replace q := q.trans (b50.mono q.size)
    refine LL.storeN (vs := [Value.slice aV n cV, Value.int IntKind.u64 ↑left]) rfl rfl rfl rfl r53 (by exact Nat.le_of_ble_eq_true rfl) (ones_of rfl) rfl rfl ?_
    intro W64 r65 b63 z66
    have hlb63 := r53.lt
    replace r65 : RowL W64 _ 96 [Value.slice aV n cV, Value.int IntKind.u64 ↑left] := r65
    clear r53
    replace b50 := b50.grown b63 b50.size (by rintro k ⟨⟩; omega)
    replace b15 := b15.grown b63 b15.size (by rintro k ⟨⟩; omega)
    replace q := q.grown b63 q.size (by rintro k ⟨⟩; omega)
    have r53 := r65
    clear r65
    refine LL.nilS ?_
    refine CC.seq ?_
    refine CC.seq ?_
    refine CC.region ?_
    refine LL.val (R.load rfl rfl (I.ldNc (vs := [Value.slice aV n cV, Value.int IntKind.u64 ↑left]) (RowL.cells r53 rfl) (by rfl) (by rfl))) rfl rfl rfl ?_
    refine LL.call (R.call rfl rfl rfl) rfl rfl rfl (is_F _ _ _ _ _ (by first | assumption | omega) (by first | assumption | omega)) ?_
    rintro e W84 ⟨rfl, b83⟩
    refine ⟨_, rfl, ?_⟩
    have zb83 := b83.size
    replace b50 := b50.trans (b83.mono b50.size)
    replace b15 := b15.trans (b83.mono b15.size)
    replace q := q.trans (b83.mono q.size)
    replace r53 := r53.up b83
    refine LL.val (R.not rfl rfl) rfl rfl rfl ?_
    refine LL.nilS ?_
    refine CC.yes rfl ?_
    refine CC.region ?_
    refine LL.val (R.field rfl rfl (I.fld rfl)) rfl rfl rfl ?_
    refine LL.val (R.field rfl rfl (I.fld rfl)) rfl rfl rfl ?_
    refine LL.store rfl rfl rfl rfl r53 (by exact Nat.le_of_ble_eq_true rfl) rfl rfl rfl rfl ?_
    intro W119 r120 b118 z121
    have hlb118 := r53.lt
    replace r120 : RowL W119 _ 96 [Value.slice none 0 0, Value.int IntKind.u64 ↑left] := r120
    clear r53
    replace b50 := b50.grown b118 b50.size (by rintro k ⟨⟩; omega)
    replace b15 := b15.grown b118 b15.size (by rintro k ⟨⟩; omega)
    replace q := q.grown b118 q.size (by rintro k ⟨⟩; omega)
    have r53 := r120
    clear r120
    refine LL.nilS ?_
    refine CC.seq ?_
    refine CC.region ?_
    refine LL.val (R.load rfl rfl (I.ldNc (vs := [Value.slice none 0 0, Value.int IntKind.u64 ↑left]) (RowL.cells r53 rfl) (by rfl) (by rfl))) rfl rfl rfl ?_
    refine LL.call (R.call rfl rfl rfl) rfl rfl rfl (each_any _ _ _ _ _) ?_
    rintro e W139 ⟨g140, rfl, r141, l142, b138⟩
    refine ⟨_, rfl, ?_⟩
    have zb138 := b138.size
    replace b50 := b50.trans (b138.mono b50.size)
    replace b15 := b15.trans (b138.mono b15.size)
    replace q := q.trans (b138.mono q.size)
    replace r53 := r53.up b138
    refine LL.val (R.assign rfl rfl) rfl rfl rfl ?_
    refine LL.nilS ?_
    refine CC.ret ?_
    refine EE.ret _ rfl rfl ?_
    exact ⟨_, _, _, rfl, by assumption, OwnsT.none _ _ _, by omega, q⟩
  · rw [if_neg h1]
    have hrow := noRow_not h1
    clear h1
    rw [hn]
    refine X.fn Try.func33 rfl (n := 18) rfl rfl ?_
    refine CC.seq ?_
    refine CC.region ?_
    refine LL.val (R.assign rfl rfl) rfl rfl rfl ?_
    refine LL.nilS ?_
    refine CC.seq ?_
    refine CC.region ?_
    refine LL.val (R.move rfl rfl) rfl rfl rfl ?_
    (refine LL.call (R.call rfl rfl rfl) rfl rfl rfl (uclone_any v s _ (hvF _ q) (by omega)) ?_; rintro e Wa18 ⟨v', rfl, o, ba15⟩; refine ⟨_, rfl, ?_⟩; obtain ⟨aV, cV, rfl, hcV⟩ := (o.reads uEnc).form hn; have oF : ∀ X, Below (Wa18).heap.size Wa18 X → OwnsT uE 1 X w.heap.size 25 (.slice aV n cV) s := fun X b => (o.up b).lower (by have := q.size; omega); have qn := Below.refl (Wa18).heap.size Wa18; clear o)
    have zba15 := ba15.size
    replace q := q.trans (ba15.mono q.size)
    refine LL.val (R.buildV rfl rfl (v := .agg #[Value.slice aV n cV]) (fun _ => by kernel_rfl)) rfl rfl rfl ?_
    refine LL.val (R.move rfl rfl) rfl rfl rfl ?_
    refine LL.val (R.buildV rfl rfl (v := .agg #[Value.slice aV n cV, Value.int IntKind.u64 ↑left]) (fun _ => by kernel_rfl)) rfl rfl rfl ?_
    refine LL.alloc ([Value.slice none 0 0, Value.int IntKind.u64 0]) rfl rfl rfl rfl rfl ?_
    intro Wa51 ga52 ega52 ra53 za54 ba50
    replace ba15 := ba15.trans (ba50.mono ba15.size)
    replace qn := qn.trans (ba50.mono qn.size)
    replace q := q.trans (ba50.mono q.size)
    refine LL.storeN (vs := [Value.slice aV n cV, Value.int IntKind.u64 ↑left]) rfl rfl rfl rfl ra53 (by exact Nat.le_of_ble_eq_true rfl) (ones_of rfl) rfl rfl ?_
    intro Wa64 ra65 ba63 za66
    have hlba63 := ra53.lt
    replace ra65 : RowL Wa64 _ 96 [Value.slice aV n cV, Value.int IntKind.u64 ↑left] := ra65
    clear ra53
    replace ba50 := ba50.grown ba63 ba50.size (by rintro k ⟨⟩; omega)
    replace ba15 := ba15.grown ba63 ba15.size (by rintro k ⟨⟩; omega)
    replace qn := qn.grown ba63 qn.size (by rintro k ⟨⟩; omega)
    replace q := q.grown ba63 q.size (by rintro k ⟨⟩; omega)
    have ra53 := ra65
    clear ra65
    refine LL.nilS ?_
    refine CC.seq ?_
    refine CC.seq ?_
    refine CC.region ?_
    refine LL.val (R.load rfl rfl (I.ldNc (vs := [Value.slice aV n cV, Value.int IntKind.u64 ↑left]) (RowL.cells ra53 rfl) (by rfl) (by rfl))) rfl rfl rfl ?_
    refine LL.call (R.call rfl rfl rfl) rfl rfl rfl (is_T _ _ _ _ _ (by first | assumption | omega)) ?_
    rintro e Wa84 ⟨rfl, ba83⟩
    refine ⟨_, rfl, ?_⟩
    have zba83 := ba83.size
    replace ba50 := ba50.trans (ba83.mono ba50.size)
    replace ba15 := ba15.trans (ba83.mono ba15.size)
    replace qn := qn.trans (ba83.mono qn.size)
    replace q := q.trans (ba83.mono q.size)
    replace ra53 := ra53.up ba83
    refine LL.val (R.not rfl rfl) rfl rfl rfl ?_
    refine LL.nilS ?_
    refine CC.no rfl ?_
    refine CC.skip ?_
    refine EE.thenN ?_
    refine CC.seq ?_
    refine CC.region ?_
    refine LL.val (R.load rfl rfl (I.ldNc (vs := [Value.slice aV n cV, Value.int IntKind.u64 ↑left]) (RowL.cells ra53 rfl) (by rfl) (by rfl))) rfl rfl rfl ?_
    refine LL.call (R.call rfl rfl rfl) rfl rfl rfl (each_any _ _ _ _ _) ?_
    rintro e Wa111 ⟨ga112, rfl, ra113, la114, ba110⟩
    refine ⟨_, rfl, ?_⟩
    have zba110 := ba110.size
    replace ba83 := ba83.trans (ba110.mono ba83.size)
    replace ba50 := ba50.trans (ba110.mono ba50.size)
    replace ba15 := ba15.trans (ba110.mono ba15.size)
    replace qn := qn.trans (ba110.mono qn.size)
    replace q := q.trans (ba110.mono q.size)
    replace ra53 := ra53.up ba110
    refine LL.val (R.assign rfl rfl) rfl rfl rfl ?_
    refine LL.nilS ?_
    refine CC.ret ?_
    refine EE.ret _ rfl rfl ?_
    exact ⟨_, _, _, rfl, by assumption, oF _ qn, by omega, q⟩
end Go.Proofs.Ytfplilpefhhpnaa
/- slots: the document's rows, and what is read of them. -/
namespace Go.Proofs.Ytfplilpefhhpnaa
set_option linter.unusedVariables false
set_option linter.unusedSimpArgs false
open Go.RowKit Go.Shelf
def iE (n : Nat) : List Value := [.int .i64 (n : Int)]

theorem iEnc : Enc iE 1 := ⟨fun _ => rfl, fun t u hu => by
  simp only [iE, List.mem_cons, List.not_mem_nil, or_false] at hu
  subst hu
  rfl, by decide⟩

theorem Try.infoInt : (Try.prog.info? 3).map (fun i => (i.zero, i.size, i.bytes)) = some (some (.int .i64 0), 1, 8) := by kernel_rfl

theorem ElIn : ElT Try.prog 42 3 (.int .i64 0) 1 8 := info_parts_t Try.underlying42 Try.infoInt rfl

set_option maxRecDepth 100000
set_option maxHeartbeats 4000000
theorem dright_T (left : Nat) (a : Option Addr) (n c : Nat) (w : World) (h : left ≠ 0 ∧ n % 2 = 0 ∧ 4 ≤ n ∧ n ≤ 56) : Calls Try.prog 48 #[.int .u64 (left : Int), .slice a n c] w fun e w' => e = .returned (.bool true) ∧ w = w' := by
  refine X.fn Try.func48 rfl (n := 23) rfl rfl ?_
  refine CC.seq ?_
  refine CC.region ?_
  refine LL.val (R.assign rfl rfl) rfl rfl rfl ?_
  refine LL.nilS ?_
  refine CC.seq ?_
  refine CC.region ?_
  refine LL.val (R.move rfl rfl) rfl rfl rfl ?_
  refine LL.val (R.neT rfl rfl rfl (by omega)) rfl rfl rfl ?_
  refine LL.val (R.move rfl rfl) rfl rfl rfl ?_
  refine LL.val (R.move rfl rfl) rfl rfl rfl ?_
  refine LL.val (R.len rfl rfl rfl rfl) rfl rfl rfl ?_
  refine LL.val (R.remNc rfl rfl rfl rfl (by omega)) rfl rfl rfl ?_
  refine LL.val (R.eqT rfl rfl rfl (by omega)) rfl rfl rfl ?_
  refine LL.val (R.pick rfl rfl rfl) rfl rfl rfl ?_
  refine LL.val (R.move rfl rfl) rfl rfl rfl ?_
  refine LL.val (R.move rfl rfl) rfl rfl rfl ?_
  refine LL.val (R.len rfl rfl rfl rfl) rfl rfl rfl ?_
  refine LL.val (R.geT rfl rfl rfl (by omega)) rfl rfl rfl ?_
  refine LL.val (R.pick rfl rfl rfl) rfl rfl rfl ?_
  refine LL.val (R.move rfl rfl) rfl rfl rfl ?_
  refine LL.val (R.move rfl rfl) rfl rfl rfl ?_
  refine LL.val (R.len rfl rfl rfl rfl) rfl rfl rfl ?_
  refine LL.val (R.leT rfl rfl rfl (by omega)) rfl rfl rfl ?_
  refine LL.val (R.pick rfl rfl rfl) rfl rfl rfl ?_
  refine LL.val (R.assign rfl rfl) rfl rfl rfl ?_
  refine LL.nilS ?_
  refine CC.ret ?_
  refine EE.ret _ rfl rfl ?_
  exact ⟨rfl, rfl⟩
--C ref09_Right | dright_F _ _ _ _ @w @p @p | S
theorem dright_F (left : Nat) (a : Option Addr) (n c : Nat) (w : World) (h : noRow left n) (hn : n ≤ 1048576) : Calls Try.prog 48 #[.int .u64 (left : Int), .slice a n c] w fun e w' => e = .returned (.bool false) ∧ w = w' := by
  have h2 : left = 0 ∨ n % 2 ≠ 0 ∨ n < 4 ∨ 56 < n := by
    unfold noRow at h
    omega
  clear h
  refine X.fn Try.func48 rfl (n := 23) rfl rfl ?_
  refine CC.seq ?_
  refine CC.region ?_
  refine LL.val (R.assign rfl rfl) rfl rfl rfl ?_
  refine LL.nilS ?_
  refine CC.seq ?_
  refine CC.region ?_
  refine LL.val (R.move rfl rfl) rfl rfl rfl ?_
  refine LL.vsplit (fun h => R.neT rfl rfl rfl h) (fun h => R.neF rfl rfl rfl (Decidable.not_not.1 h)) rfl rfl rfl (fun c1 => ?_) (fun c1 => ?_)
  refine LL.val (R.move rfl rfl) rfl rfl rfl ?_
  refine LL.val (R.move rfl rfl) rfl rfl rfl ?_
  refine LL.val (R.len rfl rfl rfl rfl) rfl rfl rfl ?_
  refine LL.val (R.remNc rfl rfl rfl rfl (by omega)) rfl rfl rfl ?_
  refine LL.vsplit (fun h => R.eqT rfl rfl rfl h) (fun h => R.eqF rfl rfl rfl h) rfl rfl rfl (fun c2 => ?_) (fun c2 => ?_)
  refine LL.val (R.pick rfl rfl rfl) rfl rfl rfl ?_
  refine LL.val (R.move rfl rfl) rfl rfl rfl ?_
  refine LL.val (R.move rfl rfl) rfl rfl rfl ?_
  refine LL.val (R.len rfl rfl rfl rfl) rfl rfl rfl ?_
  refine LL.vsplit (fun h => R.geT rfl rfl rfl h) (fun h => R.geF rfl rfl rfl (Int.not_le.1 h)) rfl rfl rfl (fun c3 => ?_) (fun c3 => ?_)
  refine LL.val (R.pick rfl rfl rfl) rfl rfl rfl ?_
  refine LL.val (R.move rfl rfl) rfl rfl rfl ?_
  refine LL.val (R.move rfl rfl) rfl rfl rfl ?_
  refine LL.val (R.len rfl rfl rfl rfl) rfl rfl rfl ?_
  refine LL.val (R.leF rfl rfl rfl (by omega)) rfl rfl rfl ?_
  refine LL.val (R.pick rfl rfl rfl) rfl rfl rfl ?_
  refine LL.val (R.assign rfl rfl) rfl rfl rfl ?_
  refine LL.nilS ?_
  refine CC.ret ?_
  refine EE.ret _ rfl rfl ?_
  exact ⟨rfl, rfl⟩
  refine LL.val (R.pick rfl rfl rfl) rfl rfl rfl ?_
  refine LL.val (R.move rfl rfl) rfl rfl rfl ?_
  refine LL.skip rfl rfl ?_
  refine LL.skip rfl rfl ?_
  refine LL.skip rfl rfl ?_
  refine LL.val (R.pick rfl rfl rfl) rfl rfl rfl ?_
  refine LL.val (R.assign rfl rfl) rfl rfl rfl ?_
  refine LL.nilS ?_
  refine CC.ret ?_
  refine EE.ret _ rfl rfl ?_
  exact ⟨rfl, rfl⟩
  refine LL.val (R.pick rfl rfl rfl) rfl rfl rfl ?_
  refine LL.val (R.move rfl rfl) rfl rfl rfl ?_
  refine LL.skip rfl rfl ?_
  refine LL.skip rfl rfl ?_
  refine LL.skip rfl rfl ?_
  refine LL.val (R.pick rfl rfl rfl) rfl rfl rfl ?_
  refine LL.val (R.move rfl rfl) rfl rfl rfl ?_
  refine LL.skip rfl rfl ?_
  refine LL.skip rfl rfl ?_
  refine LL.skip rfl rfl ?_
  refine LL.val (R.pick rfl rfl rfl) rfl rfl rfl ?_
  refine LL.val (R.assign rfl rfl) rfl rfl rfl ?_
  refine LL.nilS ?_
  refine CC.ret ?_
  refine EE.ret _ rfl rfl ?_
  exact ⟨rfl, rfl⟩
  refine LL.val (R.move rfl rfl) rfl rfl rfl ?_
  refine LL.skip rfl rfl ?_
  refine LL.skip rfl rfl ?_
  refine LL.skip rfl rfl ?_
  refine LL.skip rfl rfl ?_
  refine LL.val (R.pick rfl rfl rfl) rfl rfl rfl ?_
  refine LL.val (R.move rfl rfl) rfl rfl rfl ?_
  refine LL.skip rfl rfl ?_
  refine LL.skip rfl rfl ?_
  refine LL.skip rfl rfl ?_
  refine LL.val (R.pick rfl rfl rfl) rfl rfl rfl ?_
  refine LL.val (R.move rfl rfl) rfl rfl rfl ?_
  refine LL.skip rfl rfl ?_
  refine LL.skip rfl rfl ?_
  refine LL.skip rfl rfl ?_
  refine LL.val (R.pick rfl rfl rfl) rfl rfl rfl ?_
  refine LL.val (R.assign rfl rfl) rfl rfl rfl ?_
  refine LL.nilS ?_
  refine CC.ret ?_
  refine EE.ret _ rfl rfl ?_
  exact ⟨rfl, rfl⟩
theorem dahead_any (left : Nat) (a : Option Addr) (n c j : Nat) (s : List Nat) (w : World) (hv : ReadsT uE 1 w (.slice a n c) s) (hn : s.length = n) (h : n ≤ 1048576) (hj : j ≤ n / 2) : Calls Try.prog 35 #[.int .u64 (left : Int), .slice a n c, .int .i64 (j : Int)] w fun e w' => e = .returned (.int .u64 (aheadN left s j : Int)) ∧ w = w' := by
  unfold aheadN
  by_cases h0 : j = 0
  · subst h0
    rw [if_pos rfl]
    refine X.fn Try.func35 rfl (n := 16) rfl rfl ?_
    refine CC.seq ?_
    refine CC.region ?_
    refine LL.val (R.assign rfl rfl) rfl rfl rfl ?_
    refine LL.nilS ?_
    refine CC.seq ?_
    refine CC.seq ?_
    refine CC.region ?_
    refine LL.val (R.move rfl rfl) rfl rfl rfl ?_
    refine LL.val (R.eqT rfl rfl rfl (by omega)) rfl rfl rfl ?_
    refine LL.nilS ?_
    refine CC.yes rfl ?_
    refine CC.seq ?_
    refine CC.region ?_
    refine LL.val (R.move rfl rfl) rfl rfl rfl ?_
    refine LL.val (R.assign rfl rfl) rfl rfl rfl ?_
    refine LL.nilS ?_
    refine CC.ret ?_
    refine EE.thenR ?_
    refine EE.ret _ rfl rfl ?_
    exact ⟨rfl, rfl⟩
  · rw [if_neg h0]
    obtain ⟨i, rfl⟩ : ∃ i, j = i + 1 := ⟨j - 1, by omega⟩
    obtain ⟨b, o, rfl, lb, m1⟩ := u_at hv (ptrN_at (s := s) (j := i) (by omega))
    have c1 : w.cell? ⟨b, o + (2 * (i + 1) - 1), none⟩ = some (.int .u64 (ptrN s (i + 1 - 1) : Int)) := m1 w (Below.refl _ _)
    refine X.fn Try.func35 rfl (n := 16) rfl rfl ?_
    refine CC.seq ?_
    refine CC.region ?_
    refine LL.val (R.assign rfl rfl) rfl rfl rfl ?_
    refine LL.nilS ?_
    refine CC.seq ?_
    refine CC.seq ?_
    refine CC.region ?_
    refine LL.val (R.move rfl rfl) rfl rfl rfl ?_
    refine LL.val (R.eqF rfl rfl rfl (by omega)) rfl rfl rfl ?_
    refine LL.nilS ?_
    refine CC.no rfl ?_
    refine CC.skip ?_
    refine EE.thenN ?_
    refine CC.seq ?_
    refine CC.region ?_
    refine LL.val (R.move rfl rfl) rfl rfl rfl ?_
    refine LL.val (R.move rfl rfl) rfl rfl rfl ?_
    refine LL.val (R.mulcN rfl rfl rfl rfl (by omega)) rfl rfl rfl ?_
    refine LL.val (R.subNc rfl rfl rfl rfl (by omega) (by omega)) rfl rfl rfl ?_
    refine LL.val (R.index rfl rfl rfl (I.ixS1 rfl (by omega))) rfl rfl rfl ?_
    refine LL.val (R.load rfl rfl (I.ld1 rfl (by assumption))) rfl rfl rfl ?_
    refine LL.val (R.assign rfl rfl) rfl rfl rfl ?_
    refine LL.nilS ?_
    refine CC.ret ?_
    refine EE.ret _ rfl rfl ?_
    exact ⟨rfl, rfl⟩
theorem draw_any (a : Option Addr) (n c : Nat) (s : List Nat) (w : World) (hv : ReadsT uE 1 w (.slice a n c) s) (hn : s.length = n) (h : n ≤ 1048576) : Calls Try.prog 34 #[.slice a n c] w fun e w' => e = .returned (.int .i64 (overN s : Int)) ∧ w = w' := by
  refine X.fn Try.func34 rfl (n := 21) rfl rfl ?_
  refine CC.seq ?_
  refine CC.region ?_
  refine LL.val (R.assign rfl rfl) rfl rfl rfl ?_
  refine LL.nilS ?_
  refine CC.seq ?_
  refine CC.region ?_
  refine LL.val (R.assign rfl rfl) rfl rfl rfl ?_
  refine LL.nilS ?_
  refine CC.seq ?_
  refine CC.block ?_
  refine CC.loop (α := Nat) (fun i => [(0, .slice a n c), (3, .int .i64 (i : Int))]) (fun i W => i ≤ n / 2 ∧ w = W ∧ ∀ j, j < i → ptrN s j ≠ 0) (fun i => n / 2 - i) 0 ⟨rfl, rfl, trivial⟩ ⟨Nat.zero_le _, rfl, fun j h => by omega⟩ ?_
  rintro i W ⟨hi, rfl, hs⟩
  show CC none Try.prog _ 21 [] (sl [(0, .slice a n c), (3, .int .i64 (i : Int))]) _ w
  by_cases hlt : i < n / 2
  case neg =>
    obtain rfl : i = n / 2 := by omega
    rw [over_eq (s := s) (m := n / 2) (by omega) hs (.inl (by omega))]
    refine CC.seq ?_
    refine CC.seq ?_
    refine CC.region ?_
    refine LL.val (R.move rfl rfl) rfl rfl rfl ?_
    refine LL.val (R.move rfl rfl) rfl rfl rfl ?_
    refine LL.val (R.len rfl rfl rfl rfl) rfl rfl rfl ?_
    refine LL.val (R.quoNc rfl rfl rfl rfl (by omega) (by omega)) rfl rfl rfl ?_
    refine LL.val (R.ltF rfl rfl rfl (by omega)) rfl rfl rfl ?_
    refine LL.val (R.move rfl rfl) rfl rfl rfl ?_
    refine LL.skip rfl rfl ?_
    refine LL.skip rfl rfl ?_
    refine LL.skip rfl rfl ?_
    refine LL.skip rfl rfl ?_
    refine LL.skip rfl rfl ?_
    refine LL.skip rfl rfl ?_
    refine LL.skip rfl rfl ?_
    refine LL.val (R.pick rfl rfl rfl) rfl rfl rfl ?_
    refine LL.nilS ?_
    refine CC.no rfl ?_
    refine CC.exit ?_
    refine EE.thenX ?_
    refine EE.thenX ?_
    refine EE.inX ?_
    refine EE.thenN ?_
    refine CC.seq ?_
    refine CC.region ?_
    refine LL.val (R.move rfl rfl) rfl rfl rfl ?_
    refine LL.val (R.assign rfl rfl) rfl rfl rfl ?_
    refine LL.nilS ?_
    refine CC.ret ?_
    refine EE.ret _ rfl rfl ?_
    exact ⟨rfl, rfl⟩
  obtain ⟨b, o, rfl, lb, m1⟩ := u_at hv (ptrN_at (s := s) (j := i) (by omega))
  have c1 := m1 w (Below.refl _ _)
  by_cases hp : ptrN s i = 0
  · rw [over_eq (s := s) (m := i) (by omega) hs (.inr hp)]
    refine CC.seq ?_
    refine CC.seq ?_
    refine CC.region ?_
    refine LL.val (R.move rfl rfl) rfl rfl rfl ?_
    refine LL.val (R.move rfl rfl) rfl rfl rfl ?_
    refine LL.val (R.len rfl rfl rfl rfl) rfl rfl rfl ?_
    refine LL.val (R.quoNc rfl rfl rfl rfl (by omega) (by omega)) rfl rfl rfl ?_
    refine LL.val (R.ltT rfl rfl rfl (by omega)) rfl rfl rfl ?_
    refine LL.val (R.move rfl rfl) rfl rfl rfl ?_
    refine LL.val (R.move rfl rfl) rfl rfl rfl ?_
    refine LL.val (R.move rfl rfl) rfl rfl rfl ?_
    refine LL.val (R.mulcN rfl rfl rfl rfl (by omega)) rfl rfl rfl ?_
    refine LL.val (R.addNc rfl rfl rfl rfl (by omega)) rfl rfl rfl ?_
    refine LL.val (R.index rfl rfl rfl (I.ixS1 rfl (by omega))) rfl rfl rfl ?_
    refine LL.val (R.load rfl rfl (I.ld1 rfl (by assumption))) rfl rfl rfl ?_
    refine LL.val (R.neF rfl rfl rfl (by omega)) rfl rfl rfl ?_
    refine LL.val (R.pick rfl rfl rfl) rfl rfl rfl ?_
    refine LL.nilS ?_
    refine CC.no rfl ?_
    refine CC.exit ?_
    refine EE.thenX ?_
    refine EE.thenX ?_
    refine EE.inX ?_
    refine EE.thenN ?_
    refine CC.seq ?_
    refine CC.region ?_
    refine LL.val (R.move rfl rfl) rfl rfl rfl ?_
    refine LL.val (R.assign rfl rfl) rfl rfl rfl ?_
    refine LL.nilS ?_
    refine CC.ret ?_
    refine EE.ret _ rfl rfl ?_
    exact ⟨rfl, rfl⟩
  · have hs' : ∀ j, j < i + 1 → ptrN s j ≠ 0 := fun j hj => by
      by_cases e : j = i
      · subst e; exact hp
      · exact hs j (by omega)
    clear hs
    refine CC.seq ?_
    refine CC.seq ?_
    refine CC.region ?_
    refine LL.val (R.move rfl rfl) rfl rfl rfl ?_
    refine LL.val (R.move rfl rfl) rfl rfl rfl ?_
    refine LL.val (R.len rfl rfl rfl rfl) rfl rfl rfl ?_
    refine LL.val (R.quoNc rfl rfl rfl rfl (by omega) (by omega)) rfl rfl rfl ?_
    refine LL.val (R.ltT rfl rfl rfl (by omega)) rfl rfl rfl ?_
    refine LL.val (R.move rfl rfl) rfl rfl rfl ?_
    refine LL.val (R.move rfl rfl) rfl rfl rfl ?_
    refine LL.val (R.move rfl rfl) rfl rfl rfl ?_
    refine LL.val (R.mulcN rfl rfl rfl rfl (by omega)) rfl rfl rfl ?_
    refine LL.val (R.addNc rfl rfl rfl rfl (by omega)) rfl rfl rfl ?_
    refine LL.val (R.index rfl rfl rfl (I.ixS1 rfl (by omega))) rfl rfl rfl ?_
    refine LL.val (R.load rfl rfl (I.ld1 rfl (by assumption))) rfl rfl rfl ?_
    refine LL.val (R.neT rfl rfl rfl (by omega)) rfl rfl rfl ?_
    refine LL.val (R.pick rfl rfl rfl) rfl rfl rfl ?_
    refine LL.nilS ?_
    refine CC.yes rfl ?_
    refine CC.skip ?_
    refine EE.thenN ?_
    refine CC.block ?_
    refine CC.region ?_
    refine LL.val (R.move rfl rfl) rfl rfl rfl ?_
    refine LL.val (R.addNc rfl rfl rfl rfl (by omega)) rfl rfl rfl ?_
    refine LL.val (R.assign rfl rfl) rfl rfl rfl ?_
    refine LL.nil ?_
    refine EE.inN ?_
    exact EE.round (i + 1) ⟨rfl, rfl, trivial⟩ ⟨by show i + 1 ≤ n / 2; omega, rfl, hs'⟩ (by show n / 2 - (i + 1) < n / 2 - i; omega)
theorem own_disj {v1 v2 : Value} (hd : ∀ g, v1.ownBlock = some g → v2.ownBlock ≠ some g) : v1.ownBlock = none ∨ v1.ownBlock ≠ v2.ownBlock := by
  cases h : v1.ownBlock with
  | none => exact .inl rfl
  | some g => exact .inr fun e => hd g h e.symm
theorem own_new2 {α : Type} {enc : α → List Value} {k base e : Nat} {ts : List α} {w : World} {v v' v2 : Value} (hva : v'.ownBlock = v.ownBlock ∨ ∃ b, v'.ownBlock = some b ∧ w.heap.size ≤ b) (hd : ∀ g, v.ownBlock = some g → v2.ownBlock ≠ some g) (o2 : OwnsT enc k w base e v2 ts) : ∀ g, v'.ownBlock = some g → v2.ownBlock ≠ some g := fun g hg h2 => by
  rcases hva with e1 | ⟨b, e1, hb⟩
  · exact hd g (by rw [← e1]; exact hg) h2
  · rw [e1] at hg; cases hg
    rcases own_lt o2 with e2 | ⟨b', e2, hb'⟩
    · rw [e2] at h2; cases h2
    · rw [e2] at h2; cases h2; omega
theorem dread_any (left : Nat) (a : Option Addr) (n c : Nat) (s : List Nat) (w : World) (hv : ReadsT uE 1 w (.slice a n c) s) (hn : s.length = n) (h : n ≤ 1048576) : Calls Try.prog 16 #[.int .u64 (left : Int), .slice a n c] w fun e w' => ∃ v1 v2, e = .returned (.tuple #[v1, v2]) ∧ OwnsT prE 2 w' w.heap.size 46 v1 (pairP left s) ∧ OwnsT iE 1 w' w.heap.size 3 v2 ((pairS left s).map (·.1)) ∧ (∀ g, v1.ownBlock = some g → v2.ownBlock ≠ some g) ∧ Below w.heap.size w w' := by
  have q := Below.refl w.heap.size w
  have hvF : ∀ X, Below w.heap.size w X → ReadsT uE 1 X (.slice a n c) s := fun X b => hv.up b
  clear hv
  have hov := over_le s
  refine X.fn Try.func16 rfl (n := 47) rfl rfl ?_
  refine CC.seq ?_
  refine CC.region ?_
  refine LL.val (R.assign rfl rfl) rfl rfl rfl ?_
  refine LL.val (R.assign rfl rfl) rfl rfl rfl ?_
  refine LL.nilS ?_
  refine CC.seq ?_
  refine CC.region ?_
  refine LL.val (R.assign rfl rfl) rfl rfl rfl ?_
  refine LL.nilS ?_
  refine CC.seq ?_
  refine CC.region ?_
  refine LL.val (R.assign rfl rfl) rfl rfl rfl ?_
  refine LL.nilS ?_
  refine CC.seq ?_
  refine CC.seq ?_
  refine CC.region ?_
  refine LL.val (R.assign rfl rfl) rfl rfl rfl ?_
  refine LL.nilS ?_
  refine CC.block ?_
  refine CC.loop (α := Nat × Value × Value) (fun p => [(0, .int .u64 (left : Int)), (1, .slice a n c), (6, p.2.1), (7, p.2.2), (8, .int .i64 (p.1 : Int))])
    (fun p W => p.1 ≤ overN s ∧ Below w.heap.size w W ∧ OwnsT prE 2 W w.heap.size 46 p.2.1 ((pairF left s p.1).map (·.2)) ∧ OwnsT iE 1 W w.heap.size 3 p.2.2 ((pairF left s p.1).map (·.1)) ∧ ∀ g, p.2.1.ownBlock = some g → p.2.2.ownBlock ≠ some g) (fun p => overN s - p.1)
    (0, .slice none 0 0, .slice none 0 0) ⟨rfl, rfl, rfl, rfl, rfl, trivial⟩ ⟨Nat.zero_le _, q, OwnsT.none _ _ _, OwnsT.none _ _ _, fun g h => (by cases h)⟩ ?_
  clear q
  rintro ⟨i, v1, v2⟩ W ⟨hi, q, o1, o2, hd⟩
  simp only at hi o1 o2 hd
  have yq := q.size
  show CC none Try.prog _ 47 [] (sl [(0, .int .u64 (left : Int)), (1, .slice a n c), (6, v1), (7, v2), (8, .int .i64 (i : Int))]) _ W
  by_cases hlt : i < overN s
  case neg =>
    obtain rfl : i = overN s := by omega
    refine CC.seq ?_
    refine CC.seq ?_
    refine CC.region ?_
    refine LL.val (R.move rfl rfl) rfl rfl rfl ?_
    refine LL.val (R.move rfl rfl) rfl rfl rfl ?_
    refine LL.call (R.call rfl rfl rfl) rfl rfl rfl (draw_any _ _ _ s _ (hvF _ q) hn h) ?_
    rintro e W' ⟨rfl, rfl⟩
    refine ⟨_, rfl, ?_⟩
    refine LL.val (R.ltF rfl rfl rfl (by omega)) rfl rfl rfl ?_
    refine LL.nilS ?_
    refine CC.no rfl ?_
    refine CC.exit ?_
    refine EE.thenX ?_
    refine EE.thenX ?_
    refine EE.inX ?_
    refine EE.thenN ?_
    refine CC.seq ?_
    refine CC.region ?_
    refine LL.val (R.move rfl rfl) rfl rfl rfl ?_
    refine LL.val (R.move rfl rfl) rfl rfl rfl ?_
    refine LL.val (R.assign rfl rfl) rfl rfl rfl ?_
    refine LL.val (R.assign rfl rfl) rfl rfl rfl ?_
    refine LL.nilS ?_
    refine CC.ret ?_
    refine EE.ret _ rfl rfl ?_
    exact ⟨_, _, rfl, o1, o2, hd, q⟩
  obtain ⟨b, o, ea, lb, m1⟩ := u_at (hvF _ (Below.refl _ _)) (ptrN_at (s := s) (j := i) (by omega))
  obtain ⟨b', o', ea', lb', m2⟩ := u_at (hvF _ (Below.refl _ _)) (keyN_at (s := s) (j := i) (by omega))
  rw [ea] at ea'
  cases ea'
  subst ea
  have c1 := m1 W q
  have c2 := m2 W q
  have hAh : ∀ X, Below w.heap.size w X → Calls Try.prog 35 #[.int .u64 (left : Int), .slice (some ⟨b, o, none⟩) n c, .int .i64 (i : Int)] X fun e w' => e = .returned (.int .u64 (aheadN left s i : Int)) ∧ X = w' := fun X hb => dahead_any left _ n c i s X (hvF X hb) hn h (by omega)
  by_cases hne : ptrN s i = aheadN left s i
  · have hst : pairF left s (i + 1) = pairF left s i := by show (if _ then _ else _) = _; rw [if_pos hne]
    rw [← hst] at o1 o2
    refine CC.seq ?_
    refine CC.seq ?_
    refine CC.region ?_
    refine LL.val (R.move rfl rfl) rfl rfl rfl ?_
    refine LL.val (R.move rfl rfl) rfl rfl rfl ?_
    refine LL.call (R.call rfl rfl rfl) rfl rfl rfl (draw_any _ _ _ s _ (hvF _ q) hn h) ?_
    rintro e W' ⟨rfl, rfl⟩
    refine ⟨_, rfl, ?_⟩
    refine LL.val (R.ltT rfl rfl rfl (by omega)) rfl rfl rfl ?_
    refine LL.nilS ?_
    refine CC.yes rfl ?_
    refine CC.skip ?_
    refine EE.thenN ?_
    refine CC.seq ?_
    refine CC.block ?_
    refine CC.seq ?_
    refine CC.grow (by kernel_rfl) (by kernel_rfl) ?_
    refine GG.val (fun w' b' => R.move rfl rfl) rfl rfl ?_
    refine GG.val (fun w' b' => R.move rfl rfl) rfl rfl ?_
    refine GG.val (fun w' b' => R.mulcN rfl rfl rfl rfl (by omega)) rfl rfl ?_
    refine GG.val (fun w' b' => R.addNc rfl rfl rfl rfl (by omega)) rfl rfl ?_
    refine GG.val (fun w' b' => R.index rfl rfl rfl (I.ixS1 rfl (by omega))) rfl rfl ?_
    refine GG.val (fun w' b' => R.load rfl rfl (I.ld1 rfl (cell_up c1 b'))) rfl rfl ?_
    refine GG.val (fun w' b' => R.move rfl rfl) rfl rfl ?_
    refine GG.val (fun w' b' => R.move rfl rfl) rfl rfl ?_
    refine GG.val (fun w' b' => R.move rfl rfl) rfl rfl ?_
    refine GG.call (fun w' => (R.call rfl rfl rfl)) rfl rfl (fun w' b' => (hAh w' (q.trans (b'.mono q.size))).mono fun e W' h => ⟨h.1, h.2 ▸ b'⟩) ?_
    refine GG.val (fun w' b' => R.neF rfl rfl rfl (by omega)) rfl rfl ?_
    refine GG.nilQ (fun Wb5 bb4 => ?_)
    have zbb4 := bb4.size
    replace q := q.trans (bb4.mono q.size)
    replace o1 := o1.up bb4
    replace o2 := o2.up bb4
    replace c1 := cell_up c1 bb4
    replace c2 := cell_up c2 bb4
    refine EE.thenN ?_
    refine CC.no rfl ?_
    refine CC.skip ?_
    refine EE.inN ?_
    refine EE.thenN ?_
    refine CC.region ?_
    refine LL.val (R.move rfl rfl) rfl rfl rfl ?_
    refine LL.val (R.addNc rfl rfl rfl rfl (by omega)) rfl rfl rfl ?_
    refine LL.val (R.assign rfl rfl) rfl rfl rfl ?_
    refine LL.nil ?_
    exact EE.round (i + 1, v1, v2) ⟨rfl, rfl, rfl, rfl, rfl, trivial⟩ ⟨by show i + 1 ≤ overN s; omega, q, o1, o2, hd⟩ (by show overN s - (i + 1) < overN s - i; omega)
  have hst : pairF left s (i + 1) = pairF left s i ++ [(i, prA s i)] := by show (if _ then _ else _) = _; rw [if_neg hne]
  have hs1 : (pairF left s (i + 1)).map (·.2) = (pairF left s i).map (·.2) ++ [prA s i] := by rw [hst, List.map_append]; rfl
  have hs2 : (pairF left s (i + 1)).map (·.1) = (pairF left s i).map (·.1) ++ [i] := by rw [hst, List.map_append]; rfl
  have hl1 : ((pairF left s i).map (·.2)).length ≤ 1048576 := by rw [List.length_map]; have := pairF_len left s i; omega
  have hl2 : ((pairF left s i).map (·.1)).length ≤ 1048576 := by rw [List.length_map]; have := pairF_len left s i; omega
  obtain ⟨ps, eps⟩ : ∃ ps, (pairF left s i).map (·.2) = ps := ⟨_, rfl⟩
  obtain ⟨is, eis⟩ : ∃ is, (pairF left s i).map (·.1) = is := ⟨_, rfl⟩
  rw [eps] at o1 hs1 hl1
  rw [eis] at o2 hs2 hl2
  have og1 := own_ge o1
  obtain ⟨av1, cv1, rfl, hcv1⟩ := (o1.reads prEnc).form rfl
  obtain ⟨av2, cv2, rfl, hcv2⟩ := (o2.reads iEnc).form rfl
  refine CC.seq ?_
  refine CC.seq ?_
  refine CC.region ?_
  refine LL.val (R.move rfl rfl) rfl rfl rfl ?_
  refine LL.val (R.move rfl rfl) rfl rfl rfl ?_
  refine LL.call (R.call rfl rfl rfl) rfl rfl rfl (draw_any _ _ _ s _ (hvF _ q) hn h) ?_
  rintro e W' ⟨rfl, rfl⟩
  refine ⟨_, rfl, ?_⟩
  refine LL.val (R.ltT rfl rfl rfl (by omega)) rfl rfl rfl ?_
  refine LL.nilS ?_
  refine CC.yes rfl ?_
  refine CC.skip ?_
  refine EE.thenN ?_
  refine CC.seq ?_
  refine CC.block ?_
  refine CC.seq ?_
  refine CC.grow (by kernel_rfl) (by kernel_rfl) ?_
  refine GG.val (fun w' b' => R.move rfl rfl) rfl rfl ?_
  refine GG.val (fun w' b' => R.move rfl rfl) rfl rfl ?_
  refine GG.val (fun w' b' => R.mulcN rfl rfl rfl rfl (by omega)) rfl rfl ?_
  refine GG.val (fun w' b' => R.addNc rfl rfl rfl rfl (by omega)) rfl rfl ?_
  refine GG.val (fun w' b' => R.index rfl rfl rfl (I.ixS1 rfl (by omega))) rfl rfl ?_
  refine GG.val (fun w' b' => R.load rfl rfl (I.ld1 rfl (cell_up c1 b'))) rfl rfl ?_
  refine GG.val (fun w' b' => R.move rfl rfl) rfl rfl ?_
  refine GG.val (fun w' b' => R.move rfl rfl) rfl rfl ?_
  refine GG.val (fun w' b' => R.move rfl rfl) rfl rfl ?_
  refine GG.call (fun w' => (R.call rfl rfl rfl)) rfl rfl (fun w' b' => (hAh w' (q.trans (b'.mono q.size))).mono fun e W' h => ⟨h.1, h.2 ▸ b'⟩) ?_
  refine GG.val (fun w' b' => R.neT rfl rfl rfl (by omega)) rfl rfl ?_
  refine GG.nilQ (fun Wc5 bc4 => ?_)
  have zbc4 := bc4.size
  replace q := q.trans (bc4.mono q.size)
  replace c1 := cell_up c1 bc4
  replace c2 := cell_up c2 bc4
  replace o1 := o1.up bc4
  replace o2 := o2.up bc4
  refine EE.thenN ?_
  refine CC.yes rfl ?_
  refine CC.seq ?_
  refine CC.freeZ (fun W_ j => j < W_.heap.size ∧ (j < w.heap.size)) (by kernel_rfl) (by kernel_rfl) (fun Wc7 bc6 zc8 => ?_)
  replace bc4 := bc4.trans (bc6.mono bc4.size)
  replace q := q.trans (bc6.mono q.size)
  replace c1 := cell_up c1 bc6
  replace c2 := cell_up c2 bc6
  replace o1 := o1.up bc6
  replace o2 := o2.up bc6
  have hok : Kept (fun j => j < Wc7.heap.size ∧ (j < w.heap.size)) Wc7 Wc7 := Kept.refl _ _
  have fzc1 := fzCell (K := fun j => j < Wc7.heap.size ∧ (j < w.heap.size)) c1 ⟨World.block_lt_of_cell? _ _ c1, (by first | trivial | omega)⟩
  have fzc2 := fzCell (K := fun j => j < Wc7.heap.size ∧ (j < w.heap.size)) c2 ⟨World.block_lt_of_cell? _ _ c2, (by first | trivial | omega)⟩
  refine AA.pure 0 rfl hok (by kernel_rfl) (fun w' b' => R.move rfl rfl) rfl rfl ?_
  refine AA.pure 1 rfl hok (by kernel_rfl) (fun w' b' => R.move rfl rfl) rfl rfl ?_
  refine AA.pure 2 rfl hok (by kernel_rfl) (fun w' b' => R.move rfl rfl) rfl rfl ?_
  refine AA.pure 3 rfl hok (by kernel_rfl) (fun w' b' => R.mulcN rfl rfl rfl rfl (by omega)) rfl rfl ?_
  refine AA.pure 4 rfl hok (by kernel_rfl) (fun w' b' => R.index rfl rfl rfl (I.ixS1 rfl (by omega))) rfl rfl ?_
  refine AA.pure 5 rfl hok (by kernel_rfl) (fun w' b' => R.load rfl rfl (I.ld1 rfl (cell_kept c2 b' (by refine ⟨?_, ?_⟩ <;> omega)))) rfl rfl ?_
  refine AA.pure 6 rfl hok (by kernel_rfl) (fun w' b' => R.move rfl rfl) rfl rfl ?_
  refine AA.pure 7 rfl hok (by kernel_rfl) (fun w' b' => R.move rfl rfl) rfl rfl ?_
  refine AA.pure 8 rfl hok (by kernel_rfl) (fun w' b' => R.mulcN rfl rfl rfl rfl (by omega)) rfl rfl ?_
  refine AA.pure 9 rfl hok (by kernel_rfl) (fun w' b' => R.addNc rfl rfl rfl rfl (by omega)) rfl rfl ?_
  refine AA.pure 10 rfl hok (by kernel_rfl) (fun w' b' => R.index rfl rfl rfl (I.ixS1 rfl (by omega))) rfl rfl ?_
  refine AA.pure 11 rfl hok (by kernel_rfl) (fun w' b' => R.load rfl rfl (I.ld1 rfl (cell_kept c1 b' (by refine ⟨?_, ?_⟩ <;> omega)))) rfl rfl ?_
  refine AA.pure 12 rfl hok (by kernel_rfl) (fun w' b' => R.buildV rfl rfl (v := .agg #[Value.int IntKind.u64 ↑(keyN s i), Value.int IntKind.u64 ↑(ptrN s i)]) (fun _ => by kernel_rfl)) rfl rfl ?_
  refine AA.one 13 (by kernel_rfl) ?_
  refine ZR.lit (e := 46) [Value.int IntKind.u64 ↑(keyN s i), Value.int IntKind.u64 ↑(ptrN s i)] 1 rfl rfl rfl (fun _ => by kernel_rfl) rfl rfl ?_
  intro Wc10 gc11 egc11 rc12 zc13 bc9
  replace bc6 := bc6.trans (bc9.mono bc6.size)
  replace bc4 := bc4.trans (bc9.mono bc4.size)
  replace q := q.trans (bc9.mono q.size)
  replace c1 := cell_up c1 bc9
  replace c2 := cell_up c2 bc9
  replace o1 := o1.up bc9
  replace o2 := o2.up bc9
  replace hok := hok.trans (bkept bc9 (fun j h => by have := h.1; have := hok.size; omega))
  have yc14 := hok.size
  refine ⟨hok, ?_⟩
  refine AA.one 14 (by kernel_rfl) ?_
  (refine SR.appendT2 rfl rfl rfl prEnc ElPr o1 (RowL.readsT (ts := [prA s i]) prEnc (by assumption) 1 (by simp)) (by simp [maxLen]; omega) (by simp; omega) (by omega) rfl rfl ?_; intro v' Wa oa gra hva; obtain ⟨a', cp, rfl, hcp⟩ := (oa.reads prEnc).form rfl; have hd2 := own_new2 hva hd o2; replace o2 := o2.apart2 gra (own_disj hd); replace q := q.grown gra q.size (fun g hg => by have := own_ge o1 g hg; omega); replace hok := hok.trans (grown_kept gra (fun j h => by have := h.1; have := hok.size; omega) (fun j h e => by have := own_ge o1 j e; omega)); have hsz := gra.size; clear o1 hva hd gra; have o1 := oa; clear oa; refine ⟨hok, ?_⟩)
  refine AA.pure 15 rfl hok (by kernel_rfl) (fun w' b' => R.assign rfl rfl) rfl rfl ?_
  refine AA.done rfl ?_
  clear fzc1 fzc2 hok
  refine EE.thenN ?_
  refine CC.region ?_
  refine LL.val (R.move rfl rfl) rfl rfl rfl ?_
  refine LL.val (R.move rfl rfl) rfl rfl rfl ?_
  refine LL.lit (e := 3) [Value.int IntKind.i64 ↑i] 1 rfl rfl (fun _ => by kernel_rfl) rfl rfl ?_
  intro Wc16 gc17 egc17 rc18 zc19 bc15
  replace o2 := o2.up bc15
  replace q := q.trans (bc15.mono q.size)
  replace o1 := o1.up bc15
  (refine LL.appendT2 rfl rfl iEnc ElIn o2 (us := [i]) (RowL.readsT iEnc (ts := [i]) (by assumption) 1 (Nat.le_refl _)) (by simp [maxLen]; omega) (by simp; omega) (by have := q.size; omega) rfl rfl ?_; intro v' Wa oa gra hva; have hd3 := own_new2 hva (fun g h1 h2 => hd2 g h2 h1) o1; replace o1 := o1.apart2 gra (own_disj fun g h1 h2 => hd2 g h2 h1); replace q := q.grown gra q.size (fun g hg => by have := own_ge o2 g hg; omega); clear o2 hva hd2 gra; have o2 := oa; clear oa)
  refine LL.val (R.assign rfl rfl) rfl rfl rfl ?_
  refine LL.nil ?_
  refine EE.inN ?_
  refine EE.thenN ?_
  refine CC.region ?_
  refine LL.val (R.move rfl rfl) rfl rfl rfl ?_
  refine LL.val (R.addNc rfl rfl rfl rfl (by omega)) rfl rfl rfl ?_
  refine LL.val (R.assign rfl rfl) rfl rfl rfl ?_
  refine LL.nil ?_
  exact EE.round (i + 1, _, _) ⟨rfl, rfl, rfl, rfl, rfl, trivial⟩ ⟨by show i + 1 ≤ overN s; omega, q, by rw [hs1]; exact o1, by rw [hs2]; exact o2, fun g h1 h2 => hd3 g h2 h1⟩ (by show overN s - (i + 1) < overN s - i; omega)
end Go.Proofs.Ytfplilpefhhpnaa
/- slots: the document's Same, has, fine, Check. -/
namespace Go.Proofs.Ytfplilpefhhpnaa
set_option linter.unusedVariables false
set_option linter.unusedSimpArgs false
open Go.RowKit Go.Shelf
set_option maxRecDepth 100000
set_option maxHeartbeats 4000000
theorem dprsame_any (va vb : Value) (xs ys : List Pr) (w : World) (ha : ReadsT prE 2 w va xs) (hb : ReadsT prE 2 w vb ys) (hlx : xs.length ≤ 1048576) (hly : ys.length ≤ 1048576) :
    Calls Try.prog 24 #[va, vb] w fun e w' => e = .returned (.bool (decide (xs = ys))) ∧ Below w.heap.size w w' := by
  have q := Below.refl w.heap.size w
  obtain ⟨N, hN⟩ : ∃ N, xs.length = N := ⟨_, rfl⟩
  obtain ⟨N2, hN2⟩ : ∃ N, ys.length = N := ⟨_, rfl⟩
  obtain ⟨a, cap, rfl, hc⟩ := ha.form hN
  obtain ⟨a2, cap2, rfl, hc2⟩ := hb.form hN2
  rw [hN] at hlx
  rw [hN2] at hly
  have hF1 : ∀ W, Below w.heap.size w W → ReadsT prE 2 W (.slice a N cap) xs := fun W b => ha.up b
  have hF2 : ∀ W, Below w.heap.size w W → ReadsT prE 2 W (.slice a2 N2 cap2) ys := fun W b => hb.up b
  clear ha hb
  by_cases hne : N = N2
  case neg =>
    rw [decide_eq_false fun e => hne (by rw [← hN, ← hN2, e])]
    refine X.fn Try.func24 rfl (n := 26) rfl rfl ?_
    refine CC.seq ?_
    refine CC.region ?_
    refine LL.val (R.assign rfl rfl) rfl rfl rfl ?_
    refine LL.nilS ?_
    refine CC.seq ?_
    refine CC.seq ?_
    refine CC.region ?_
    refine LL.val (R.move rfl rfl) rfl rfl rfl ?_
    refine LL.val (R.len rfl rfl rfl rfl) rfl rfl rfl ?_
    refine LL.val (R.move rfl rfl) rfl rfl rfl ?_
    refine LL.val (R.len rfl rfl rfl rfl) rfl rfl rfl ?_
    refine LL.val (R.neT rfl rfl rfl (by omega)) rfl rfl rfl ?_
    refine LL.nilS ?_
    refine CC.yes rfl ?_
    refine CC.seq ?_
    refine CC.region ?_
    refine LL.val (R.assign rfl rfl) rfl rfl rfl ?_
    refine LL.nilS ?_
    refine CC.ret ?_
    refine EE.thenR ?_
    refine EE.ret _ rfl rfl ?_
    exact ⟨rfl, q⟩
  subst hne
  refine X.fn Try.func24 rfl (n := 26) rfl rfl ?_
  refine CC.seq ?_
  refine CC.region ?_
  refine LL.val (R.assign rfl rfl) rfl rfl rfl ?_
  refine LL.nilS ?_
  refine CC.seq ?_
  refine CC.seq ?_
  refine CC.region ?_
  refine LL.val (R.move rfl rfl) rfl rfl rfl ?_
  refine LL.val (R.len rfl rfl rfl rfl) rfl rfl rfl ?_
  refine LL.val (R.move rfl rfl) rfl rfl rfl ?_
  refine LL.val (R.len rfl rfl rfl rfl) rfl rfl rfl ?_
  refine LL.val (R.neF rfl rfl rfl (by omega)) rfl rfl rfl ?_
  refine LL.nilS ?_
  refine CC.no rfl ?_
  refine CC.skip ?_
  refine EE.thenN ?_
  refine CC.seq ?_
  refine CC.seq ?_
  refine CC.region ?_
  refine LL.val (R.assign rfl rfl) rfl rfl rfl ?_
  refine LL.nilS ?_
  refine CC.block ?_
  refine CC.loop (α := Nat) (fun i => [(0, .slice a N cap), (1, .slice a2 N cap2), (5, .int .i64 (i : Int))]) (fun i W => i ≤ N ∧ Below w.heap.size w W ∧ xs.take i = ys.take i) (fun i => N - i) 0 ⟨rfl, rfl, rfl, trivial⟩ ⟨Nat.zero_le _, q, rfl⟩ ?_
  clear q
  rintro i W ⟨hi, q, ht⟩
  show CC none Try.prog _ 26 [] (sl [(0, .slice a N cap), (1, .slice a2 N cap2), (5, .int .i64 (i : Int))]) _ W
  by_cases hlt : i < N
  case neg =>
    obtain rfl : i = N := by omega
    rw [List.take_of_length_le (by omega), List.take_of_length_le (by omega)] at ht
    rw [decide_eq_true ht]
    refine CC.seq ?_
    refine CC.seq ?_
    refine CC.region ?_
    refine LL.val (R.move rfl rfl) rfl rfl rfl ?_
    refine LL.val (R.move rfl rfl) rfl rfl rfl ?_
    refine LL.val (R.len rfl rfl rfl rfl) rfl rfl rfl ?_
    refine LL.val (R.ltF rfl rfl rfl (by omega)) rfl rfl rfl ?_
    refine LL.nilS ?_
    refine CC.no rfl ?_
    refine CC.exit ?_
    refine EE.thenX ?_
    refine EE.thenX ?_
    refine EE.inX ?_
    refine EE.thenN ?_
    refine CC.seq ?_
    refine CC.region ?_
    refine LL.val (R.assign rfl rfl) rfl rfl rfl ?_
    refine LL.nilS ?_
    refine CC.ret ?_
    refine EE.ret _ rfl rfl ?_
    exact ⟨rfl, q⟩
  obtain ⟨⟨k1, p1⟩, hx⟩ : ∃ x, xs[i]? = some x := ⟨_, List.getElem?_eq_getElem (by omega)⟩
  obtain ⟨⟨k2, p2⟩, hy⟩ : ∃ y, ys[i]? = some y := ⟨_, List.getElem?_eq_getElem (by omega)⟩
  obtain ⟨b1, o1, rfl, _, _⟩ := (hF1 _ q).get prEnc hx
  obtain ⟨b2, o2, rfl, _, _⟩ := (hF2 _ q).get prEnc hy
  have m1 : CellsN W ⟨b1, o1 + i * 2, none⟩ 2 [.int .u64 (k1 : Int), .int .u64 (p1 : Int)] := (hF1 W q).elemN prEnc hx
  have m2 : CellsN W ⟨b2, o2 + i * 2, none⟩ 2 [.int .u64 (k2 : Int), .int .u64 (p2 : Int)] := (hF2 W q).elemN prEnc hy
  by_cases h1 : k1 = k2 ∧ p1 = p2
  · obtain ⟨rfl, rfl⟩ := h1
    refine CC.seq ?_
    refine CC.seq ?_
    refine CC.region ?_
    refine LL.val (R.move rfl rfl) rfl rfl rfl ?_
    refine LL.val (R.move rfl rfl) rfl rfl rfl ?_
    refine LL.val (R.len rfl rfl rfl rfl) rfl rfl rfl ?_
    refine LL.val (R.ltT rfl rfl rfl (by omega)) rfl rfl rfl ?_
    refine LL.nilS ?_
    refine CC.yes rfl ?_
    refine CC.skip ?_
    refine EE.thenN ?_
    refine CC.seq ?_
    refine CC.block ?_
    refine CC.seq ?_
    refine CC.quietB (by kernel_rfl) (by kernel_rfl) (fun Wc2 bc1 zc3 => ?_)
    replace q := q.trans (bc1.mono q.size)
    replace m1 := m1.up bc1
    replace m2 := m2.up bc1
    refine SS.val (R.move rfl rfl) rfl rfl ?_
    refine SS.val (R.move rfl rfl) rfl rfl ?_
    refine SS.val (R.index rfl rfl rfl (I.ixS rfl (by omega))) rfl rfl ?_
    refine SS.val (R.load rfl rfl (I.ldM (by assumption) rfl rfl)) rfl rfl ?_
    refine SS.val (R.move rfl rfl) rfl rfl ?_
    refine SS.val (R.move rfl rfl) rfl rfl ?_
    refine SS.val (R.index rfl rfl rfl (I.ixS rfl (by omega))) rfl rfl ?_
    refine SS.val (R.load rfl rfl (I.ldM (by assumption) rfl rfl)) rfl rfl ?_
    refine SS.val (R.neST (p := (↑k1 : Int) = ↑k1 ∧ (↑p1 : Int) = ↑p1) (bs := [decide ((↑k1 : Int) = ↑k1), decide ((↑p1 : Int) = ↑p1)]) rfl rfl rfl rfl (by kernel_rfl) (by kernel_rfl) (by simp) (by first | assumption | omega | exact ⟨rfl, rfl⟩ | exact fun h => h ⟨rfl, rfl⟩)) rfl rfl ?_
    refine SS.nilQ ?_
    refine EE.thenN ?_
    refine CC.no rfl ?_
    refine CC.skip ?_
    refine EE.inN ?_
    refine EE.thenN ?_
    refine CC.region ?_
    refine LL.val (R.move rfl rfl) rfl rfl rfl ?_
    refine LL.val (R.addNc rfl rfl rfl rfl (by omega)) rfl rfl rfl ?_
    refine LL.val (R.assign rfl rfl) rfl rfl rfl ?_
    refine LL.nil ?_
    exact EE.round (i + 1) ⟨rfl, rfl, rfl, trivial⟩ ⟨by show i + 1 ≤ N; omega, q, by rw [List.take_add_one, List.take_add_one, ht, hx, hy]⟩ (by show N - (i + 1) < N - i; omega)
  · have hne : xs ≠ ys := fun e => h1 (by rw [e, hy] at hx; cases hx; exact ⟨rfl, rfl⟩)
    rw [decide_eq_false hne]
    have h2 : (k1 : Int) ≠ k2 ∨ (p1 : Int) ≠ p2 := by omega
    clear h1
    rcases h2 with h2 | h2
    · refine CC.seq ?_
      refine CC.seq ?_
      refine CC.region ?_
      refine LL.val (R.move rfl rfl) rfl rfl rfl ?_
      refine LL.val (R.move rfl rfl) rfl rfl rfl ?_
      refine LL.val (R.len rfl rfl rfl rfl) rfl rfl rfl ?_
      refine LL.val (R.ltT rfl rfl rfl (by omega)) rfl rfl rfl ?_
      refine LL.nilS ?_
      refine CC.yes rfl ?_
      refine CC.skip ?_
      refine EE.thenN ?_
      refine CC.seq ?_
      refine CC.block ?_
      refine CC.seq ?_
      refine CC.quietB (by kernel_rfl) (by kernel_rfl) (fun Wd2 bd1 zd3 => ?_)
      replace q := q.trans (bd1.mono q.size)
      replace m1 := m1.up bd1
      replace m2 := m2.up bd1
      refine SS.val (R.move rfl rfl) rfl rfl ?_
      refine SS.val (R.move rfl rfl) rfl rfl ?_
      refine SS.val (R.index rfl rfl rfl (I.ixS rfl (by omega))) rfl rfl ?_
      refine SS.val (R.load rfl rfl (I.ldM (by assumption) rfl rfl)) rfl rfl ?_
      refine SS.val (R.move rfl rfl) rfl rfl ?_
      refine SS.val (R.move rfl rfl) rfl rfl ?_
      refine SS.val (R.index rfl rfl rfl (I.ixS rfl (by omega))) rfl rfl ?_
      refine SS.val (R.load rfl rfl (I.ldM (by assumption) rfl rfl)) rfl rfl ?_
      refine SS.val (R.neSF (p := (↑k1 : Int) = ↑k2 ∧ (↑p1 : Int) = ↑p2) (bs := [decide ((↑k1 : Int) = ↑k2), decide ((↑p1 : Int) = ↑p2)]) rfl rfl rfl rfl (by kernel_rfl) (by kernel_rfl) (by simp) (by first | assumption | omega | exact ⟨rfl, rfl⟩ | exact fun h => h ⟨rfl, rfl⟩)) rfl rfl ?_
      refine SS.nilQ ?_
      refine EE.thenN ?_
      refine CC.yes rfl ?_
      refine CC.seq ?_
      refine CC.region ?_
      refine LL.val (R.assign rfl rfl) rfl rfl rfl ?_
      refine LL.nilS ?_
      refine CC.ret ?_
      refine EE.inR ?_
      refine EE.thenR ?_
      refine EE.thenR ?_
      refine EE.inR ?_
      refine EE.thenR ?_
      refine EE.ret _ rfl rfl ?_
      exact ⟨rfl, q⟩
    · refine CC.seq ?_
      refine CC.seq ?_
      refine CC.region ?_
      refine LL.val (R.move rfl rfl) rfl rfl rfl ?_
      refine LL.val (R.move rfl rfl) rfl rfl rfl ?_
      refine LL.val (R.len rfl rfl rfl rfl) rfl rfl rfl ?_
      refine LL.val (R.ltT rfl rfl rfl (by omega)) rfl rfl rfl ?_
      refine LL.nilS ?_
      refine CC.yes rfl ?_
      refine CC.skip ?_
      refine EE.thenN ?_
      refine CC.seq ?_
      refine CC.block ?_
      refine CC.seq ?_
      refine CC.quietB (by kernel_rfl) (by kernel_rfl) (fun We2 be1 ze3 => ?_)
      replace q := q.trans (be1.mono q.size)
      replace m1 := m1.up be1
      replace m2 := m2.up be1
      refine SS.val (R.move rfl rfl) rfl rfl ?_
      refine SS.val (R.move rfl rfl) rfl rfl ?_
      refine SS.val (R.index rfl rfl rfl (I.ixS rfl (by omega))) rfl rfl ?_
      refine SS.val (R.load rfl rfl (I.ldM (by assumption) rfl rfl)) rfl rfl ?_
      refine SS.val (R.move rfl rfl) rfl rfl ?_
      refine SS.val (R.move rfl rfl) rfl rfl ?_
      refine SS.val (R.index rfl rfl rfl (I.ixS rfl (by omega))) rfl rfl ?_
      refine SS.val (R.load rfl rfl (I.ldM (by assumption) rfl rfl)) rfl rfl ?_
      refine SS.val (R.neSF (p := (↑k1 : Int) = ↑k2 ∧ (↑p1 : Int) = ↑p2) (bs := [decide ((↑k1 : Int) = ↑k2), decide ((↑p1 : Int) = ↑p2)]) rfl rfl rfl rfl (by kernel_rfl) (by kernel_rfl) (by simp) (by first | assumption | omega | exact ⟨rfl, rfl⟩ | exact fun h => h ⟨rfl, rfl⟩)) rfl rfl ?_
      refine SS.nilQ ?_
      refine EE.thenN ?_
      refine CC.yes rfl ?_
      refine CC.seq ?_
      refine CC.region ?_
      refine LL.val (R.assign rfl rfl) rfl rfl rfl ?_
      refine LL.nilS ?_
      refine CC.ret ?_
      refine EE.inR ?_
      refine EE.thenR ?_
      refine EE.thenR ?_
      refine EE.inR ?_
      refine EE.thenR ?_
      refine EE.ret _ rfl rfl ?_
      exact ⟨rfl, q⟩
theorem dhas_any (v : Value) (l : List Pr) (p : Nat) (w : World) (hv : ReadsT prE 2 w v l) (hl : l.length ≤ 1048576) : Calls Try.prog 74 #[v, .int .u64 (p : Int)] w fun e w' => e = .returned (.bool (decide (p ∈ l.map (·.2)))) ∧ w = w' := by
  obtain ⟨N, hN⟩ : ∃ N, l.length = N := ⟨_, rfl⟩
  obtain ⟨a, cap, rfl, hc⟩ := hv.form hN
  rw [hN] at hl
  refine X.fn Try.func74 rfl (n := 19) rfl rfl ?_
  refine CC.seq ?_
  refine CC.region ?_
  refine LL.val (R.assign rfl rfl) rfl rfl rfl ?_
  refine LL.nilS ?_
  refine CC.seq ?_
  refine CC.seq ?_
  refine CC.region ?_
  refine LL.val (R.assign rfl rfl) rfl rfl rfl ?_
  refine LL.nilS ?_
  refine CC.block ?_
  refine CC.loop (α := Nat) (fun i => [(0, .slice a N cap), (1, .int .u64 (p : Int)), (5, .int .i64 (i : Int))]) (fun i W => i ≤ N ∧ w = W ∧ p ∉ (l.take i).map (·.2)) (fun i => N - i) 0 ⟨rfl, rfl, rfl, trivial⟩ ⟨Nat.zero_le _, rfl, by simp⟩ ?_
  rintro i W ⟨hi, rfl, ht⟩
  show CC none Try.prog _ 19 [] (sl [(0, .slice a N cap), (1, .int .u64 (p : Int)), (5, .int .i64 (i : Int))]) _ w
  by_cases hlt : i < N
  case neg =>
    obtain rfl : i = N := by omega
    rw [List.take_of_length_le (by omega)] at ht
    rw [decide_eq_false ht]
    refine CC.seq ?_
    refine CC.seq ?_
    refine CC.region ?_
    refine LL.val (R.move rfl rfl) rfl rfl rfl ?_
    refine LL.val (R.move rfl rfl) rfl rfl rfl ?_
    refine LL.val (R.len rfl rfl rfl rfl) rfl rfl rfl ?_
    refine LL.val (R.ltF rfl rfl rfl (by omega)) rfl rfl rfl ?_
    refine LL.nilS ?_
    refine CC.no rfl ?_
    refine CC.exit ?_
    refine EE.thenX ?_
    refine EE.thenX ?_
    refine EE.inX ?_
    refine EE.thenN ?_
    refine CC.seq ?_
    refine CC.region ?_
    refine LL.val (R.assign rfl rfl) rfl rfl rfl ?_
    refine LL.nilS ?_
    refine CC.ret ?_
    refine EE.ret _ rfl rfl ?_
    exact ⟨rfl, rfl⟩
  obtain ⟨⟨k1, p1⟩, hx⟩ : ∃ x, l[i]? = some x := ⟨_, List.getElem?_eq_getElem (by omega)⟩
  obtain ⟨b1, o1, rfl, _, _⟩ := hv.get prEnc hx
  have c1 : w.cell? ⟨b1, o1 + i * 2 + 1, none⟩ = some (.int .u64 (p1 : Int)) := (hv.elemN prEnc hx).cell (j := 1) rfl
  by_cases h1 : p1 = p
  · subst h1
    rw [decide_eq_true (List.mem_map.2 ⟨_, List.mem_of_getElem? hx, rfl⟩)]
    refine CC.seq ?_
    refine CC.seq ?_
    refine CC.region ?_
    refine LL.val (R.move rfl rfl) rfl rfl rfl ?_
    refine LL.val (R.move rfl rfl) rfl rfl rfl ?_
    refine LL.val (R.len rfl rfl rfl rfl) rfl rfl rfl ?_
    refine LL.val (R.ltT rfl rfl rfl (by omega)) rfl rfl rfl ?_
    refine LL.nilS ?_
    refine CC.yes rfl ?_
    refine CC.skip ?_
    refine EE.thenN ?_
    refine CC.seq ?_
    refine CC.block ?_
    refine CC.seq ?_
    refine CC.region ?_
    refine LL.val (R.move rfl rfl) rfl rfl rfl ?_
    refine LL.val (R.move rfl rfl) rfl rfl rfl ?_
    refine LL.val (R.index rfl rfl rfl (I.ixS rfl (by omega))) rfl rfl rfl ?_
    refine LL.val (R.field rfl rfl (I.fld rfl)) rfl rfl rfl ?_
    refine LL.val (R.load rfl rfl (I.ld1 rfl (by assumption))) rfl rfl rfl ?_
    refine LL.val (R.move rfl rfl) rfl rfl rfl ?_
    refine LL.val (R.eqT rfl rfl rfl (by omega)) rfl rfl rfl ?_
    refine LL.nilS ?_
    refine CC.yes rfl ?_
    refine CC.seq ?_
    refine CC.region ?_
    refine LL.val (R.assign rfl rfl) rfl rfl rfl ?_
    refine LL.nilS ?_
    refine CC.ret ?_
    refine EE.inR ?_
    refine EE.thenR ?_
    refine EE.thenR ?_
    refine EE.inR ?_
    refine EE.thenR ?_
    refine EE.ret _ rfl rfl ?_
    exact ⟨rfl, rfl⟩
  · refine CC.seq ?_
    refine CC.seq ?_
    refine CC.region ?_
    refine LL.val (R.move rfl rfl) rfl rfl rfl ?_
    refine LL.val (R.move rfl rfl) rfl rfl rfl ?_
    refine LL.val (R.len rfl rfl rfl rfl) rfl rfl rfl ?_
    refine LL.val (R.ltT rfl rfl rfl (by omega)) rfl rfl rfl ?_
    refine LL.nilS ?_
    refine CC.yes rfl ?_
    refine CC.skip ?_
    refine EE.thenN ?_
    refine CC.seq ?_
    refine CC.block ?_
    refine CC.seq ?_
    refine CC.region ?_
    refine LL.val (R.move rfl rfl) rfl rfl rfl ?_
    refine LL.val (R.move rfl rfl) rfl rfl rfl ?_
    refine LL.val (R.index rfl rfl rfl (I.ixS rfl (by omega))) rfl rfl rfl ?_
    refine LL.val (R.field rfl rfl (I.fld rfl)) rfl rfl rfl ?_
    refine LL.val (R.load rfl rfl (I.ld1 rfl (by assumption))) rfl rfl rfl ?_
    refine LL.val (R.move rfl rfl) rfl rfl rfl ?_
    refine LL.val (R.eqF rfl rfl rfl (by omega)) rfl rfl rfl ?_
    refine LL.nilS ?_
    refine CC.no rfl ?_
    refine CC.skip ?_
    refine EE.inN ?_
    refine EE.thenN ?_
    refine CC.region ?_
    refine LL.val (R.move rfl rfl) rfl rfl rfl ?_
    refine LL.val (R.addNc rfl rfl rfl rfl (by omega)) rfl rfl rfl ?_
    refine LL.val (R.assign rfl rfl) rfl rfl rfl ?_
    refine LL.nil ?_
    exact EE.round (i + 1) ⟨rfl, rfl, rfl, trivial⟩ ⟨by show i + 1 ≤ N; omega, rfl, by rw [List.take_add_one, hx, List.map_append]; simp only [Option.toList_some, List.map_cons, List.map_nil, List.mem_append, List.mem_singleton, not_or]; exact ⟨ht, fun e => h1 e.symm⟩⟩ (by show N - (i + 1) < N - i; omega)
/-- What 'fine' asks of a pair. -/
def fineAt (left : Nat) (l : List Pr) (i : Nat) (x : Pr) : Prop := (0 < i → ∀ y, l[i - 1]? = some y → y.1 < x.1) ∧ x.2 ∉ (l.take i).map (·.2) ∧ x.2 ≠ left
def fineP (left : Nat) (l : List Pr) : Prop := ∀ i x, l[i]? = some x → fineAt left l i x
theorem dfine_any (left : Nat) (v : Value) (l : List Pr) (w : World) (hv : ReadsT prE 2 w v l) (hl : l.length ≤ 1048576) : Calls Try.prog 49 #[.int .u64 (left : Int), v] w fun e w' => ∃ b, e = .returned (.bool b) ∧ (b = true ↔ fineP left l) ∧ Below w.heap.size w w' := by
  have q := Below.refl w.heap.size w
  obtain ⟨N, hN⟩ : ∃ N, l.length = N := ⟨_, rfl⟩
  obtain ⟨a, cap, rfl, hc⟩ := hv.form hN
  rw [hN] at hl
  have hF : ∀ W, Below w.heap.size w W → ReadsT prE 2 W (.slice a N cap) l := fun W b => hv.up b
  clear hv
  refine X.fn Try.func49 rfl (n := 48) rfl rfl ?_
  refine CC.seq ?_
  refine CC.region ?_
  refine LL.val (R.assign rfl rfl) rfl rfl rfl ?_
  refine LL.nilS ?_
  refine CC.seq ?_
  refine CC.seq ?_
  refine CC.region ?_
  refine LL.val (R.assign rfl rfl) rfl rfl rfl ?_
  refine LL.nilS ?_
  refine CC.block ?_
  refine CC.loop (α := Nat) (fun i => [(0, .int .u64 (left : Int)), (1, .slice a N cap), (5, .int .i64 (i : Int))]) (fun i W => i ≤ N ∧ Below w.heap.size w W ∧ ∀ j x, j < i → l[j]? = some x → fineAt left l j x) (fun i => N - i) 0 ⟨rfl, rfl, rfl, trivial⟩ ⟨Nat.zero_le _, q, fun j x h _ => by omega⟩ ?_
  clear q
  rintro i W ⟨hi, q, ht⟩
  show CC none Try.prog _ 48 [] (sl [(0, .int .u64 (left : Int)), (1, .slice a N cap), (5, .int .i64 (i : Int))]) _ W
  by_cases hlt : i < N
  case neg =>
    obtain rfl : i = N := by omega
    have hyes : fineP left l := fun j x hj => ht j x (by have := (List.getElem?_eq_some_iff.1 hj).1; omega) hj
    refine CC.seq ?_
    refine CC.seq ?_
    refine CC.region ?_
    refine LL.val (R.move rfl rfl) rfl rfl rfl ?_
    refine LL.val (R.move rfl rfl) rfl rfl rfl ?_
    refine LL.val (R.len rfl rfl rfl rfl) rfl rfl rfl ?_
    refine LL.val (R.ltF rfl rfl rfl (by omega)) rfl rfl rfl ?_
    refine LL.nilS ?_
    refine CC.no rfl ?_
    refine CC.exit ?_
    refine EE.thenX ?_
    refine EE.thenX ?_
    refine EE.inX ?_
    refine EE.thenN ?_
    refine CC.seq ?_
    refine CC.region ?_
    refine LL.val (R.assign rfl rfl) rfl rfl rfl ?_
    refine LL.nilS ?_
    refine CC.ret ?_
    refine EE.ret _ rfl rfl ?_
    exact ⟨_, rfl, by simp [hyes], q⟩
  obtain ⟨⟨k1, p1⟩, hx⟩ : ∃ x, l[i]? = some x := ⟨_, List.getElem?_eq_getElem (by omega)⟩
  obtain ⟨b1, o1, rfl, _, _⟩ := (hF _ q).get prEnc hx
  have hcF : ∀ X, Below w.heap.size w X → X.cell? ⟨b1, o1 + i * 2, none⟩ = some (.int .u64 (k1 : Int)) ∧ X.cell? ⟨b1, o1 + i * 2 + 1, none⟩ = some (.int .u64 (p1 : Int)) := fun X hb => ⟨((hF X hb).elemN prEnc hx).cell (j := 0) rfl, ((hF X hb).elemN prEnc hx).cell (j := 1) rfl⟩
  have c1 := (hcF W q).1
  have c2 := (hcF W q).2
  have htl : (l.take i).length = i := by rw [List.length_take]; omega
  have hHa : ∀ X, Below w.heap.size w X → Calls Try.prog 74 #[.slice (some ⟨b1, o1, none⟩) i cap, .int .u64 (p1 : Int)] X fun e w' => e = .returned (.bool (decide (p1 ∈ (l.take i).map (·.2)))) ∧ X = w' := fun X hb => by
    have h1 := (hF X hb).take prEnc i hi cap (by omega)
    exact dhas_any _ (l.take i) p1 X h1 (by omega)
  have bad : ¬ fineAt left l i (k1, p1) → ¬ fineP left l := fun h1 h2 => h1 (h2 i _ hx)
  have good : fineAt left l i (k1, p1) → ∀ j x, j < i + 1 → l[j]? = some x → fineAt left l j x := fun hg j x hj hjx => by
    by_cases e : j = i
    · subst e; rw [hx] at hjx; cases hjx; exact hg
    · exact ht j x (by omega) hjx
  clear ht
  have hrest : ∀ (hpre : 0 < i → ∀ y, l[i - 1]? = some y → y.1 < k1), (p1 ∉ (l.take i).map (·.2) ∧ p1 ≠ left → fineAt left l i (k1, p1)) := fun hpre h => ⟨hpre, h.1, h.2⟩
  have fin : ∀ hg : fineAt left l i (k1, p1), True := fun _ => trivial
  clear fin
  by_cases hi0 : i = 0
  · subst hi0
    have hB : p1 ∉ (l.take 0).map (·.2) := by simp
    by_cases hC : p1 = left
    · have hno := bad fun hg => hg.2.2 hC
      refine CC.seq ?_
      refine CC.seq ?_
      refine CC.region ?_
      refine LL.val (R.move rfl rfl) rfl rfl rfl ?_
      refine LL.val (R.move rfl rfl) rfl rfl rfl ?_
      refine LL.val (R.len rfl rfl rfl rfl) rfl rfl rfl ?_
      refine LL.val (R.ltT rfl rfl rfl (by omega)) rfl rfl rfl ?_
      refine LL.nilS ?_
      refine CC.yes rfl ?_
      refine CC.skip ?_
      refine EE.thenN ?_
      refine CC.seq ?_
      refine CC.block ?_
      refine CC.seq ?_
      refine CC.grow (by kernel_rfl) (by kernel_rfl) ?_
      refine GG.val (fun w' b' => R.move rfl rfl) rfl rfl ?_
      refine GG.val (fun w' b' => R.gtF rfl rfl rfl (by omega)) rfl rfl ?_
      refine GG.val (fun w' b' => R.move rfl rfl) rfl rfl ?_
      refine GG.skip rfl rfl ?_
      refine GG.skip rfl rfl ?_
      refine GG.skip rfl rfl ?_
      refine GG.skip rfl rfl ?_
      refine GG.skip rfl rfl ?_
      refine GG.skip rfl rfl ?_
      refine GG.skip rfl rfl ?_
      refine GG.skip rfl rfl ?_
      refine GG.skip rfl rfl ?_
      refine GG.skip rfl rfl ?_
      refine GG.skip rfl rfl ?_
      refine GG.skip rfl rfl ?_
      refine GG.val (fun w' b' => R.pick rfl rfl rfl) rfl rfl ?_
      refine GG.val (fun w' b' => R.move rfl rfl) rfl rfl ?_
      refine GG.val (fun w' b' => R.move rfl rfl) rfl rfl ?_
      refine GG.val (fun w' b' => R.move rfl rfl) rfl rfl ?_
      refine GG.val (fun w' b' => R.slice rfl rfl rfl rfl rfl (I.slTo rfl (by omega))) rfl rfl ?_
      refine GG.val (fun w' b' => R.move rfl rfl) rfl rfl ?_
      refine GG.val (fun w' b' => R.move rfl rfl) rfl rfl ?_
      refine GG.val (fun w' b' => R.index rfl rfl rfl (I.ixSc rfl rfl (by omega))) rfl rfl ?_
      refine GG.val (fun w' b' => R.field rfl rfl (I.fld rfl)) rfl rfl ?_
      refine GG.val (fun w' b' => R.load rfl rfl (I.ld1 rfl (cell_up c2 b'))) rfl rfl ?_
      refine GG.callDF (fun w' => (R.call rfl rfl rfl)) rfl rfl (fun w' b' => (hHa w' (q.trans (b'.mono q.size))).mono fun e W' h => ⟨h.1, h.2 ▸ b'⟩) (by first | assumption | omega) ?_
      refine GG.val (fun w' b' => R.pick rfl rfl rfl) rfl rfl ?_
      refine GG.val (fun w' b' => R.move rfl rfl) rfl rfl ?_
      refine GG.val (fun w' b' => R.move rfl rfl) rfl rfl ?_
      refine GG.val (fun w' b' => R.move rfl rfl) rfl rfl ?_
      refine GG.val (fun w' b' => R.index rfl rfl rfl (I.ixSc rfl rfl (by omega))) rfl rfl ?_
      refine GG.val (fun w' b' => R.field rfl rfl (I.fld rfl)) rfl rfl ?_
      refine GG.val (fun w' b' => R.load rfl rfl (I.ld1 rfl (cell_up c2 b'))) rfl rfl ?_
      refine GG.val (fun w' b' => R.move rfl rfl) rfl rfl ?_
      refine GG.val (fun w' b' => R.eqT rfl rfl rfl (by omega)) rfl rfl ?_
      refine GG.val (fun w' b' => R.pick rfl rfl rfl) rfl rfl ?_
      refine GG.nilQ (fun Wb6 bb5 => ?_)
      have zbb5 := bb5.size
      replace q := q.trans (bb5.mono q.size)
      replace c1 := cell_up c1 bb5
      replace c2 := cell_up c2 bb5
      refine EE.thenN ?_
      refine CC.yes rfl ?_
      refine CC.seq ?_
      refine CC.region ?_
      refine LL.val (R.assign rfl rfl) rfl rfl rfl ?_
      refine LL.nilS ?_
      refine CC.ret ?_
      refine EE.inR ?_
      refine EE.thenR ?_
      refine EE.thenR ?_
      refine EE.inR ?_
      refine EE.thenR ?_
      refine EE.ret _ rfl rfl ?_
      exact ⟨_, rfl, by simp [hno], q⟩
    · have hg := good (hrest (fun h => absurd h (Nat.lt_irrefl 0)) ⟨hB, hC⟩)
      clear bad good hrest
      refine CC.seq ?_
      refine CC.seq ?_
      refine CC.region ?_
      refine LL.val (R.move rfl rfl) rfl rfl rfl ?_
      refine LL.val (R.move rfl rfl) rfl rfl rfl ?_
      refine LL.val (R.len rfl rfl rfl rfl) rfl rfl rfl ?_
      refine LL.val (R.ltT rfl rfl rfl (by omega)) rfl rfl rfl ?_
      refine LL.nilS ?_
      refine CC.yes rfl ?_
      refine CC.skip ?_
      refine EE.thenN ?_
      refine CC.seq ?_
      refine CC.block ?_
      refine CC.seq ?_
      refine CC.grow (by kernel_rfl) (by kernel_rfl) ?_
      refine GG.val (fun w' b' => R.move rfl rfl) rfl rfl ?_
      refine GG.val (fun w' b' => R.gtF rfl rfl rfl (by omega)) rfl rfl ?_
      refine GG.val (fun w' b' => R.move rfl rfl) rfl rfl ?_
      refine GG.skip rfl rfl ?_
      refine GG.skip rfl rfl ?_
      refine GG.skip rfl rfl ?_
      refine GG.skip rfl rfl ?_
      refine GG.skip rfl rfl ?_
      refine GG.skip rfl rfl ?_
      refine GG.skip rfl rfl ?_
      refine GG.skip rfl rfl ?_
      refine GG.skip rfl rfl ?_
      refine GG.skip rfl rfl ?_
      refine GG.skip rfl rfl ?_
      refine GG.skip rfl rfl ?_
      refine GG.val (fun w' b' => R.pick rfl rfl rfl) rfl rfl ?_
      refine GG.val (fun w' b' => R.move rfl rfl) rfl rfl ?_
      refine GG.val (fun w' b' => R.move rfl rfl) rfl rfl ?_
      refine GG.val (fun w' b' => R.move rfl rfl) rfl rfl ?_
      refine GG.val (fun w' b' => R.slice rfl rfl rfl rfl rfl (I.slTo rfl (by omega))) rfl rfl ?_
      refine GG.val (fun w' b' => R.move rfl rfl) rfl rfl ?_
      refine GG.val (fun w' b' => R.move rfl rfl) rfl rfl ?_
      refine GG.val (fun w' b' => R.index rfl rfl rfl (I.ixSc rfl rfl (by omega))) rfl rfl ?_
      refine GG.val (fun w' b' => R.field rfl rfl (I.fld rfl)) rfl rfl ?_
      refine GG.val (fun w' b' => R.load rfl rfl (I.ld1 rfl (cell_up c2 b'))) rfl rfl ?_
      refine GG.callDF (fun w' => (R.call rfl rfl rfl)) rfl rfl (fun w' b' => (hHa w' (q.trans (b'.mono q.size))).mono fun e W' h => ⟨h.1, h.2 ▸ b'⟩) (by first | assumption | omega) ?_
      refine GG.val (fun w' b' => R.pick rfl rfl rfl) rfl rfl ?_
      refine GG.val (fun w' b' => R.move rfl rfl) rfl rfl ?_
      refine GG.val (fun w' b' => R.move rfl rfl) rfl rfl ?_
      refine GG.val (fun w' b' => R.move rfl rfl) rfl rfl ?_
      refine GG.val (fun w' b' => R.index rfl rfl rfl (I.ixSc rfl rfl (by omega))) rfl rfl ?_
      refine GG.val (fun w' b' => R.field rfl rfl (I.fld rfl)) rfl rfl ?_
      refine GG.val (fun w' b' => R.load rfl rfl (I.ld1 rfl (cell_up c2 b'))) rfl rfl ?_
      refine GG.val (fun w' b' => R.move rfl rfl) rfl rfl ?_
      refine GG.val (fun w' b' => R.eqF rfl rfl rfl (by omega)) rfl rfl ?_
      refine GG.val (fun w' b' => R.pick rfl rfl rfl) rfl rfl ?_
      refine GG.nilQ (fun Wc6 bc5 => ?_)
      have zbc5 := bc5.size
      replace q := q.trans (bc5.mono q.size)
      replace c1 := cell_up c1 bc5
      replace c2 := cell_up c2 bc5
      refine EE.thenN ?_
      refine CC.no rfl ?_
      refine CC.skip ?_
      refine EE.inN ?_
      refine EE.thenN ?_
      refine CC.region ?_
      refine LL.val (R.move rfl rfl) rfl rfl rfl ?_
      refine LL.val (R.addIz (z := 1) rfl rfl rfl (by decide) (by decide)) rfl rfl rfl ?_
      refine LL.val (R.assign rfl rfl) rfl rfl rfl ?_
      refine LL.nil ?_
      exact EE.round (0 + 1) ⟨rfl, rfl, rfl, trivial⟩ ⟨by show 0 + 1 ≤ N; omega, q, hg⟩ (by show N - (0 + 1) < N - 0; omega)
  obtain ⟨⟨ky, py⟩, hy⟩ : ∃ y, l[i - 1]? = some y := ⟨_, List.getElem?_eq_getElem (by omega)⟩
  have c3 : W.cell? ⟨b1, o1 + (i - 1) * 2, none⟩ = some (.int .u64 (ky : Int)) := ((hF W q).elemN prEnc hy).cell (j := 0) rfl
  by_cases hA : ky < k1
  case neg =>
    have hno := bad fun hg => hA (hg.1 (by omega) _ hy)
    clear bad good hrest
    refine CC.seq ?_
    refine CC.seq ?_
    refine CC.region ?_
    refine LL.val (R.move rfl rfl) rfl rfl rfl ?_
    refine LL.val (R.move rfl rfl) rfl rfl rfl ?_
    refine LL.val (R.len rfl rfl rfl rfl) rfl rfl rfl ?_
    refine LL.val (R.ltT rfl rfl rfl (by omega)) rfl rfl rfl ?_
    refine LL.nilS ?_
    refine CC.yes rfl ?_
    refine CC.skip ?_
    refine EE.thenN ?_
    refine CC.seq ?_
    refine CC.block ?_
    refine CC.seq ?_
    refine CC.grow (by kernel_rfl) (by kernel_rfl) ?_
    refine GG.val (fun w' b' => R.move rfl rfl) rfl rfl ?_
    refine GG.val (fun w' b' => R.gtT rfl rfl rfl (by omega)) rfl rfl ?_
    refine GG.val (fun w' b' => R.move rfl rfl) rfl rfl ?_
    refine GG.val (fun w' b' => R.move rfl rfl) rfl rfl ?_
    refine GG.val (fun w' b' => R.move rfl rfl) rfl rfl ?_
    refine GG.val (fun w' b' => R.subNc rfl rfl rfl rfl (by omega) (by omega)) rfl rfl ?_
    refine GG.val (fun w' b' => R.index rfl rfl rfl (I.ixS rfl (by omega))) rfl rfl ?_
    refine GG.val (fun w' b' => R.field rfl rfl (I.fld rfl)) rfl rfl ?_
    refine GG.val (fun w' b' => R.load rfl rfl (I.ld1 rfl (cell_up c3 b'))) rfl rfl ?_
    refine GG.val (fun w' b' => R.move rfl rfl) rfl rfl ?_
    refine GG.val (fun w' b' => R.move rfl rfl) rfl rfl ?_
    refine GG.val (fun w' b' => R.index rfl rfl rfl (I.ixS rfl (by omega))) rfl rfl ?_
    refine GG.val (fun w' b' => R.field rfl rfl (I.fld rfl)) rfl rfl ?_
    refine GG.val (fun w' b' => R.load rfl rfl (I.ld1 rfl (cell_up c1 b'))) rfl rfl ?_
    refine GG.val (fun w' b' => R.geT rfl rfl rfl (by omega)) rfl rfl ?_
    refine GG.val (fun w' b' => R.pick rfl rfl rfl) rfl rfl ?_
    refine GG.val (fun w' b' => R.move rfl rfl) rfl rfl ?_
    refine GG.skip rfl rfl ?_
    refine GG.skip rfl rfl ?_
    refine GG.skip rfl rfl ?_
    refine GG.skip rfl rfl ?_
    refine GG.skip rfl rfl ?_
    refine GG.skip rfl rfl ?_
    refine GG.skip rfl rfl ?_
    refine GG.skip rfl rfl ?_
    refine GG.skip rfl rfl ?_
    refine GG.val (fun w' b' => R.pick rfl rfl rfl) rfl rfl ?_
    refine GG.val (fun w' b' => R.move rfl rfl) rfl rfl ?_
    refine GG.skip rfl rfl ?_
    refine GG.skip rfl rfl ?_
    refine GG.skip rfl rfl ?_
    refine GG.skip rfl rfl ?_
    refine GG.skip rfl rfl ?_
    refine GG.skip rfl rfl ?_
    refine GG.skip rfl rfl ?_
    refine GG.val (fun w' b' => R.pick rfl rfl rfl) rfl rfl ?_
    refine GG.nilQ (fun Wd5 bd4 => ?_)
    have zbd4 := bd4.size
    replace q := q.trans (bd4.mono q.size)
    replace c1 := cell_up c1 bd4
    replace c2 := cell_up c2 bd4
    replace c3 := cell_up c3 bd4
    refine EE.thenN ?_
    refine CC.yes rfl ?_
    refine CC.seq ?_
    refine CC.region ?_
    refine LL.val (R.assign rfl rfl) rfl rfl rfl ?_
    refine LL.nilS ?_
    refine CC.ret ?_
    refine EE.inR ?_
    refine EE.thenR ?_
    refine EE.thenR ?_
    refine EE.inR ?_
    refine EE.thenR ?_
    refine EE.ret _ rfl rfl ?_
    exact ⟨_, rfl, by simp [hno], q⟩
  by_cases hB : p1 ∈ (l.take i).map (·.2)
  · have hno := bad fun hg => hg.2.1 hB
    clear bad good hrest
    refine CC.seq ?_
    refine CC.seq ?_
    refine CC.region ?_
    refine LL.val (R.move rfl rfl) rfl rfl rfl ?_
    refine LL.val (R.move rfl rfl) rfl rfl rfl ?_
    refine LL.val (R.len rfl rfl rfl rfl) rfl rfl rfl ?_
    refine LL.val (R.ltT rfl rfl rfl (by omega)) rfl rfl rfl ?_
    refine LL.nilS ?_
    refine CC.yes rfl ?_
    refine CC.skip ?_
    refine EE.thenN ?_
    refine CC.seq ?_
    refine CC.block ?_
    refine CC.seq ?_
    refine CC.grow (by kernel_rfl) (by kernel_rfl) ?_
    refine GG.val (fun w' b' => R.move rfl rfl) rfl rfl ?_
    refine GG.val (fun w' b' => R.gtT rfl rfl rfl (by omega)) rfl rfl ?_
    refine GG.val (fun w' b' => R.move rfl rfl) rfl rfl ?_
    refine GG.val (fun w' b' => R.move rfl rfl) rfl rfl ?_
    refine GG.val (fun w' b' => R.move rfl rfl) rfl rfl ?_
    refine GG.val (fun w' b' => R.subNc rfl rfl rfl rfl (by omega) (by omega)) rfl rfl ?_
    refine GG.val (fun w' b' => R.index rfl rfl rfl (I.ixS rfl (by omega))) rfl rfl ?_
    refine GG.val (fun w' b' => R.field rfl rfl (I.fld rfl)) rfl rfl ?_
    refine GG.val (fun w' b' => R.load rfl rfl (I.ld1 rfl (cell_up c3 b'))) rfl rfl ?_
    refine GG.val (fun w' b' => R.move rfl rfl) rfl rfl ?_
    refine GG.val (fun w' b' => R.move rfl rfl) rfl rfl ?_
    refine GG.val (fun w' b' => R.index rfl rfl rfl (I.ixS rfl (by omega))) rfl rfl ?_
    refine GG.val (fun w' b' => R.field rfl rfl (I.fld rfl)) rfl rfl ?_
    refine GG.val (fun w' b' => R.load rfl rfl (I.ld1 rfl (cell_up c1 b'))) rfl rfl ?_
    refine GG.val (fun w' b' => R.geF rfl rfl rfl (by omega)) rfl rfl ?_
    refine GG.val (fun w' b' => R.pick rfl rfl rfl) rfl rfl ?_
    refine GG.val (fun w' b' => R.move rfl rfl) rfl rfl ?_
    refine GG.val (fun w' b' => R.move rfl rfl) rfl rfl ?_
    refine GG.val (fun w' b' => R.move rfl rfl) rfl rfl ?_
    refine GG.val (fun w' b' => R.slice rfl rfl rfl rfl rfl (I.slTo rfl (by omega))) rfl rfl ?_
    refine GG.val (fun w' b' => R.move rfl rfl) rfl rfl ?_
    refine GG.val (fun w' b' => R.move rfl rfl) rfl rfl ?_
    refine GG.val (fun w' b' => R.index rfl rfl rfl (I.ixS rfl (by omega))) rfl rfl ?_
    refine GG.val (fun w' b' => R.field rfl rfl (I.fld rfl)) rfl rfl ?_
    refine GG.val (fun w' b' => R.load rfl rfl (I.ld1 rfl (cell_up c2 b'))) rfl rfl ?_
    refine GG.callDT (fun w' => (R.call rfl rfl rfl)) rfl rfl (fun w' b' => (hHa w' (q.trans (b'.mono q.size))).mono fun e W' h => ⟨h.1, h.2 ▸ b'⟩) (by first | assumption | omega) ?_
    refine GG.val (fun w' b' => R.pick rfl rfl rfl) rfl rfl ?_
    refine GG.val (fun w' b' => R.move rfl rfl) rfl rfl ?_
    refine GG.skip rfl rfl ?_
    refine GG.skip rfl rfl ?_
    refine GG.skip rfl rfl ?_
    refine GG.skip rfl rfl ?_
    refine GG.skip rfl rfl ?_
    refine GG.skip rfl rfl ?_
    refine GG.skip rfl rfl ?_
    refine GG.val (fun w' b' => R.pick rfl rfl rfl) rfl rfl ?_
    refine GG.nilQ (fun We6 be5 => ?_)
    have zbe5 := be5.size
    replace q := q.trans (be5.mono q.size)
    replace c1 := cell_up c1 be5
    replace c2 := cell_up c2 be5
    replace c3 := cell_up c3 be5
    refine EE.thenN ?_
    refine CC.yes rfl ?_
    refine CC.seq ?_
    refine CC.region ?_
    refine LL.val (R.assign rfl rfl) rfl rfl rfl ?_
    refine LL.nilS ?_
    refine CC.ret ?_
    refine EE.inR ?_
    refine EE.thenR ?_
    refine EE.thenR ?_
    refine EE.inR ?_
    refine EE.thenR ?_
    refine EE.ret _ rfl rfl ?_
    exact ⟨_, rfl, by simp [hno], q⟩
  by_cases hC : p1 = left
  · have hno := bad fun hg => hg.2.2 hC
    clear bad good hrest
    refine CC.seq ?_
    refine CC.seq ?_
    refine CC.region ?_
    refine LL.val (R.move rfl rfl) rfl rfl rfl ?_
    refine LL.val (R.move rfl rfl) rfl rfl rfl ?_
    refine LL.val (R.len rfl rfl rfl rfl) rfl rfl rfl ?_
    refine LL.val (R.ltT rfl rfl rfl (by omega)) rfl rfl rfl ?_
    refine LL.nilS ?_
    refine CC.yes rfl ?_
    refine CC.skip ?_
    refine EE.thenN ?_
    refine CC.seq ?_
    refine CC.block ?_
    refine CC.seq ?_
    refine CC.grow (by kernel_rfl) (by kernel_rfl) ?_
    refine GG.val (fun w' b' => R.move rfl rfl) rfl rfl ?_
    refine GG.val (fun w' b' => R.gtT rfl rfl rfl (by omega)) rfl rfl ?_
    refine GG.val (fun w' b' => R.move rfl rfl) rfl rfl ?_
    refine GG.val (fun w' b' => R.move rfl rfl) rfl rfl ?_
    refine GG.val (fun w' b' => R.move rfl rfl) rfl rfl ?_
    refine GG.val (fun w' b' => R.subNc rfl rfl rfl rfl (by omega) (by omega)) rfl rfl ?_
    refine GG.val (fun w' b' => R.index rfl rfl rfl (I.ixS rfl (by omega))) rfl rfl ?_
    refine GG.val (fun w' b' => R.field rfl rfl (I.fld rfl)) rfl rfl ?_
    refine GG.val (fun w' b' => R.load rfl rfl (I.ld1 rfl (cell_up c3 b'))) rfl rfl ?_
    refine GG.val (fun w' b' => R.move rfl rfl) rfl rfl ?_
    refine GG.val (fun w' b' => R.move rfl rfl) rfl rfl ?_
    refine GG.val (fun w' b' => R.index rfl rfl rfl (I.ixS rfl (by omega))) rfl rfl ?_
    refine GG.val (fun w' b' => R.field rfl rfl (I.fld rfl)) rfl rfl ?_
    refine GG.val (fun w' b' => R.load rfl rfl (I.ld1 rfl (cell_up c1 b'))) rfl rfl ?_
    refine GG.val (fun w' b' => R.geF rfl rfl rfl (by omega)) rfl rfl ?_
    refine GG.val (fun w' b' => R.pick rfl rfl rfl) rfl rfl ?_
    refine GG.val (fun w' b' => R.move rfl rfl) rfl rfl ?_
    refine GG.val (fun w' b' => R.move rfl rfl) rfl rfl ?_
    refine GG.val (fun w' b' => R.move rfl rfl) rfl rfl ?_
    refine GG.val (fun w' b' => R.slice rfl rfl rfl rfl rfl (I.slTo rfl (by omega))) rfl rfl ?_
    refine GG.val (fun w' b' => R.move rfl rfl) rfl rfl ?_
    refine GG.val (fun w' b' => R.move rfl rfl) rfl rfl ?_
    refine GG.val (fun w' b' => R.index rfl rfl rfl (I.ixS rfl (by omega))) rfl rfl ?_
    refine GG.val (fun w' b' => R.field rfl rfl (I.fld rfl)) rfl rfl ?_
    refine GG.val (fun w' b' => R.load rfl rfl (I.ld1 rfl (cell_up c2 b'))) rfl rfl ?_
    refine GG.callDF (fun w' => (R.call rfl rfl rfl)) rfl rfl (fun w' b' => (hHa w' (q.trans (b'.mono q.size))).mono fun e W' h => ⟨h.1, h.2 ▸ b'⟩) (by first | assumption | omega) ?_
    refine GG.val (fun w' b' => R.pick rfl rfl rfl) rfl rfl ?_
    refine GG.val (fun w' b' => R.move rfl rfl) rfl rfl ?_
    refine GG.val (fun w' b' => R.move rfl rfl) rfl rfl ?_
    refine GG.val (fun w' b' => R.move rfl rfl) rfl rfl ?_
    refine GG.val (fun w' b' => R.index rfl rfl rfl (I.ixS rfl (by omega))) rfl rfl ?_
    refine GG.val (fun w' b' => R.field rfl rfl (I.fld rfl)) rfl rfl ?_
    refine GG.val (fun w' b' => R.load rfl rfl (I.ld1 rfl (cell_up c2 b'))) rfl rfl ?_
    refine GG.val (fun w' b' => R.move rfl rfl) rfl rfl ?_
    refine GG.val (fun w' b' => R.eqT rfl rfl rfl (by omega)) rfl rfl ?_
    refine GG.val (fun w' b' => R.pick rfl rfl rfl) rfl rfl ?_
    refine GG.nilQ (fun Wf6 bf5 => ?_)
    have zbf5 := bf5.size
    replace q := q.trans (bf5.mono q.size)
    replace c1 := cell_up c1 bf5
    replace c2 := cell_up c2 bf5
    replace c3 := cell_up c3 bf5
    refine EE.thenN ?_
    refine CC.yes rfl ?_
    refine CC.seq ?_
    refine CC.region ?_
    refine LL.val (R.assign rfl rfl) rfl rfl rfl ?_
    refine LL.nilS ?_
    refine CC.ret ?_
    refine EE.inR ?_
    refine EE.thenR ?_
    refine EE.thenR ?_
    refine EE.inR ?_
    refine EE.thenR ?_
    refine EE.ret _ rfl rfl ?_
    exact ⟨_, rfl, by simp [hno], q⟩
  · have hg := good (hrest (fun _ y e => by rw [hy] at e; cases e; exact hA) ⟨hB, hC⟩)
    clear bad good hrest
    refine CC.seq ?_
    refine CC.seq ?_
    refine CC.region ?_
    refine LL.val (R.move rfl rfl) rfl rfl rfl ?_
    refine LL.val (R.move rfl rfl) rfl rfl rfl ?_
    refine LL.val (R.len rfl rfl rfl rfl) rfl rfl rfl ?_
    refine LL.val (R.ltT rfl rfl rfl (by omega)) rfl rfl rfl ?_
    refine LL.nilS ?_
    refine CC.yes rfl ?_
    refine CC.skip ?_
    refine EE.thenN ?_
    refine CC.seq ?_
    refine CC.block ?_
    refine CC.seq ?_
    refine CC.grow (by kernel_rfl) (by kernel_rfl) ?_
    refine GG.val (fun w' b' => R.move rfl rfl) rfl rfl ?_
    refine GG.val (fun w' b' => R.gtT rfl rfl rfl (by omega)) rfl rfl ?_
    refine GG.val (fun w' b' => R.move rfl rfl) rfl rfl ?_
    refine GG.val (fun w' b' => R.move rfl rfl) rfl rfl ?_
    refine GG.val (fun w' b' => R.move rfl rfl) rfl rfl ?_
    refine GG.val (fun w' b' => R.subNc rfl rfl rfl rfl (by omega) (by omega)) rfl rfl ?_
    refine GG.val (fun w' b' => R.index rfl rfl rfl (I.ixS rfl (by omega))) rfl rfl ?_
    refine GG.val (fun w' b' => R.field rfl rfl (I.fld rfl)) rfl rfl ?_
    refine GG.val (fun w' b' => R.load rfl rfl (I.ld1 rfl (cell_up c3 b'))) rfl rfl ?_
    refine GG.val (fun w' b' => R.move rfl rfl) rfl rfl ?_
    refine GG.val (fun w' b' => R.move rfl rfl) rfl rfl ?_
    refine GG.val (fun w' b' => R.index rfl rfl rfl (I.ixS rfl (by omega))) rfl rfl ?_
    refine GG.val (fun w' b' => R.field rfl rfl (I.fld rfl)) rfl rfl ?_
    refine GG.val (fun w' b' => R.load rfl rfl (I.ld1 rfl (cell_up c1 b'))) rfl rfl ?_
    refine GG.val (fun w' b' => R.geF rfl rfl rfl (by omega)) rfl rfl ?_
    refine GG.val (fun w' b' => R.pick rfl rfl rfl) rfl rfl ?_
    refine GG.val (fun w' b' => R.move rfl rfl) rfl rfl ?_
    refine GG.val (fun w' b' => R.move rfl rfl) rfl rfl ?_
    refine GG.val (fun w' b' => R.move rfl rfl) rfl rfl ?_
    refine GG.val (fun w' b' => R.slice rfl rfl rfl rfl rfl (I.slTo rfl (by omega))) rfl rfl ?_
    refine GG.val (fun w' b' => R.move rfl rfl) rfl rfl ?_
    refine GG.val (fun w' b' => R.move rfl rfl) rfl rfl ?_
    refine GG.val (fun w' b' => R.index rfl rfl rfl (I.ixS rfl (by omega))) rfl rfl ?_
    refine GG.val (fun w' b' => R.field rfl rfl (I.fld rfl)) rfl rfl ?_
    refine GG.val (fun w' b' => R.load rfl rfl (I.ld1 rfl (cell_up c2 b'))) rfl rfl ?_
    refine GG.callDF (fun w' => (R.call rfl rfl rfl)) rfl rfl (fun w' b' => (hHa w' (q.trans (b'.mono q.size))).mono fun e W' h => ⟨h.1, h.2 ▸ b'⟩) (by first | assumption | omega) ?_
    refine GG.val (fun w' b' => R.pick rfl rfl rfl) rfl rfl ?_
    refine GG.val (fun w' b' => R.move rfl rfl) rfl rfl ?_
    refine GG.val (fun w' b' => R.move rfl rfl) rfl rfl ?_
    refine GG.val (fun w' b' => R.move rfl rfl) rfl rfl ?_
    refine GG.val (fun w' b' => R.index rfl rfl rfl (I.ixS rfl (by omega))) rfl rfl ?_
    refine GG.val (fun w' b' => R.field rfl rfl (I.fld rfl)) rfl rfl ?_
    refine GG.val (fun w' b' => R.load rfl rfl (I.ld1 rfl (cell_up c2 b'))) rfl rfl ?_
    refine GG.val (fun w' b' => R.move rfl rfl) rfl rfl ?_
    refine GG.val (fun w' b' => R.eqF rfl rfl rfl (by omega)) rfl rfl ?_
    refine GG.val (fun w' b' => R.pick rfl rfl rfl) rfl rfl ?_
    refine GG.nilQ (fun Wg6 bg5 => ?_)
    have zbg5 := bg5.size
    replace q := q.trans (bg5.mono q.size)
    replace c1 := cell_up c1 bg5
    replace c2 := cell_up c2 bg5
    replace c3 := cell_up c3 bg5
    refine EE.thenN ?_
    refine CC.no rfl ?_
    refine CC.skip ?_
    refine EE.inN ?_
    refine EE.thenN ?_
    refine CC.region ?_
    refine LL.val (R.move rfl rfl) rfl rfl rfl ?_
    refine LL.val (R.addNc rfl rfl rfl rfl (by omega)) rfl rfl rfl ?_
    refine LL.val (R.assign rfl rfl) rfl rfl rfl ?_
    refine LL.nil ?_
    exact EE.round (i + 1) ⟨rfl, rfl, rfl, trivial⟩ ⟨by show i + 1 ≤ N; omega, q, hg⟩ (by show N - (i + 1) < N - i; omega)
end Go.Proofs.Ytfplilpefhhpnaa
/- slots: the document's Check. -/
namespace Go.Proofs.Ytfplilpefhhpnaa
set_option linter.unusedVariables false
set_option linter.unusedSimpArgs false
open Go.RowKit Go.Shelf
theorem set_fine {left : Nat} {s : List Nat} : setP left s ↔ fineP left (pairP left s) ∧ (pairP left s).length = overN s ∧ (pairP left s).length < s.length / 2 ∧ ∀ j, overN s ≤ j → j < s.length / 2 → ptrN s j = 0 := by
  constructor
  · intro h
    obtain ⟨n, hs⟩ := setP_iff.1 h
    have hP := hs.pairP
    have hl : (pairP left s).length = n := by rw [hP]; simp
    rw [hl, hs.over]
    refine ⟨fun i x hx => ?_, rfl, hs.lt, hs.z⟩
    have hi : i < n := by have := (List.getElem?_eq_some_iff.1 hx).1; omega
    rw [hP, range_map_get hi] at hx
    cases hx
    refine ⟨fun h0 y hy => ?_, fun hm => ?_, hs.nl i hi⟩
    · rw [hP, range_map_get (by omega)] at hy
      cases hy
      have := hs.up (i - 1) (by omega)
      rw [show i - 1 + 1 = i by omega] at this
      exact this
    · obtain ⟨y, hy, e⟩ := List.mem_map.1 hm
      rw [hP, ← List.map_take, List.take_range, Nat.min_eq_left (by omega)] at hy
      obtain ⟨j, hj, rfl⟩ := List.mem_map.1 hy
      exact hs.dis j i (List.mem_range.1 hj) hi e
  · rintro ⟨h1, h2, h3, h4⟩
    have hn : (pairF left s (overN s)).length = overN s := (by unfold pairP pairS; rw [List.length_map] : (pairF left s (overN s)).length = (pairP left s).length).trans h2
    have hne := pairF_full hn
    have hP : pairP left s = (List.range (overN s)).map (prA s) := by
      unfold pairP pairS
      rw [pairF_all hne, List.map_map]
      rfl
    rw [h2] at h3
    rw [hP] at h1
    have ha := fun i (hi : i < overN s) => h1 i (prA s i) (range_map_get hi)
    refine setP_iff.2 ⟨overN s, h3, fun j hj => over_ne hj, h4, fun j hj => (ha j hj).2.2, fun i j hij hj e => (ha j hj).2.1 ?_, fun j hj => ?_⟩
    · rw [← List.map_take, List.take_range, Nat.min_eq_left (by omega)]
      exact List.mem_map.2 ⟨prA s i, List.mem_map.2 ⟨i, List.mem_range.2 hij, rfl⟩, e⟩
    · exact (ha (j + 1) hj).1 (by omega) (prA s j) (range_map_get (by omega))
set_option maxRecDepth 100000
set_option maxHeartbeats 4000000
theorem dcheck_any (left n : Nat) (v : Value) (s : List Nat) (w : World) (hv : ReadsT uE 1 w v s) (hn : s.length = n) (h : n ≤ 1048576) : Calls Try.prog 31 #[.int .u64 (left : Int), v] w fun e w' => e = .returned (.int .i64 (checkF left s : Int)) ∧ Below w.heap.size w w' := by
  have q := Below.refl w.heap.size w
  obtain ⟨a, c, rfl, hc⟩ := hv.form hn
  have hvF : ∀ X, Below w.heap.size w X → ReadsT uE 1 X (.slice a n c) s := fun X b => hv.up b
  clear hv
  unfold checkF
  rw [hn]
  by_cases h1 : noRow left n
  · rw [if_pos h1]
    refine X.fn Try.func31 rfl (n := 53) rfl rfl ?_
    refine CC.seq ?_
    refine CC.region ?_
    refine LL.val (R.assign rfl rfl) rfl rfl rfl ?_
    refine LL.nilS ?_
    refine CC.seq ?_
    refine CC.seq ?_
    refine CC.region ?_
    refine LL.val (R.move rfl rfl) rfl rfl rfl ?_
    refine LL.val (R.move rfl rfl) rfl rfl rfl ?_
    refine LL.call (R.call rfl rfl rfl) rfl rfl rfl (dright_F _ _ _ _ _ (by first | assumption | omega) (by first | assumption | omega)) ?_
    rintro e W' ⟨rfl, rfl⟩
    refine ⟨_, rfl, ?_⟩
    refine LL.val (R.not rfl rfl) rfl rfl rfl ?_
    refine LL.nilS ?_
    refine CC.yes rfl ?_
    refine CC.seq ?_
    refine CC.region ?_
    refine LL.val (R.assign rfl rfl) rfl rfl rfl ?_
    refine LL.nilS ?_
    refine CC.ret ?_
    refine EE.thenR ?_
    refine EE.ret _ rfl rfl ?_
    exact ⟨rfl, q⟩
  rw [if_neg h1]
  have hrow := noRow_not h1
  clear h1
  obtain ⟨ps, eps⟩ : ∃ ps, pairP left s = ps := ⟨_, rfl⟩
  obtain ⟨m, em⟩ : ∃ m, overN s = m := ⟨_, rfl⟩
  have hsf := set_fine (left := left) (s := s)
  rw [eps, em, hn] at hsf
  have hpl : ps.length ≤ n / 2 := by rw [← eps, ← hn]; unfold pairP; rw [List.length_map]; exact pairS_len left s
  by_cases hf : fineP left ps
  case neg =>
    have hno : ¬ setP left s := fun hs => hf (hsf.1 hs).1
    rw [if_neg hno]
    refine X.fn Try.func31 rfl (n := 53) rfl rfl ?_
    refine CC.seq ?_
    refine CC.region ?_
    refine LL.val (R.assign rfl rfl) rfl rfl rfl ?_
    refine LL.nilS ?_
    refine CC.seq ?_
    refine CC.seq ?_
    refine CC.region ?_
    refine LL.val (R.move rfl rfl) rfl rfl rfl ?_
    refine LL.val (R.move rfl rfl) rfl rfl rfl ?_
    refine LL.call (R.call rfl rfl rfl) rfl rfl rfl (dright_T _ _ _ _ _ (by first | assumption | omega)) ?_
    rintro e W' ⟨rfl, rfl⟩
    refine ⟨_, rfl, ?_⟩
    refine LL.val (R.not rfl rfl) rfl rfl rfl ?_
    refine LL.nilS ?_
    refine CC.no rfl ?_
    refine CC.skip ?_
    refine EE.thenN ?_
    refine CC.seq ?_
    refine CC.region ?_
    refine LL.val (R.move rfl rfl) rfl rfl rfl ?_
    refine LL.val (R.move rfl rfl) rfl rfl rfl ?_
    (refine LL.call (R.call rfl rfl rfl) rfl rfl rfl (dread_any left a n c s _ (hvF _ q) hn h) ?_; rintro e Wa102 ⟨v1, v2, rfl, o1, o2, hd, ba99⟩; refine ⟨_, rfl, ?_⟩; rw [eps] at o1; obtain ⟨aP, cP, rfl, hcP⟩ := (o1.reads prEnc).form rfl; have hpF : ∀ X, Below (Wa102).heap.size Wa102 X → ReadsT prE 2 X (.slice aP ps.length cP) ps := fun X b => (o1.reads prEnc).up b; have qP := Below.refl (Wa102).heap.size Wa102; clear o1 o2 hd)
    have zba99 := ba99.size
    replace q := q.trans (ba99.mono q.size)
    refine LL.val (R.move rfl rfl) rfl rfl rfl ?_
    refine LL.val (R.extract rfl rfl rfl) rfl rfl rfl ?_
    refine LL.val (R.extract rfl rfl rfl) rfl rfl rfl ?_
    refine LL.val (R.assign rfl rfl) rfl rfl rfl ?_
    refine LL.val (R.assign rfl rfl) rfl rfl rfl ?_
    refine LL.nilS ?_
    refine CC.seq ?_
    refine CC.seq ?_
    refine CC.region ?_
    refine LL.val (R.move rfl rfl) rfl rfl rfl ?_
    refine LL.val (R.move rfl rfl) rfl rfl rfl ?_
    (refine LL.call (R.call rfl rfl rfl) rfl rfl rfl (dfine_any left _ ps _ (hpF _ qP) (by omega)) ?_; rintro e Wa214 ⟨bf, rfl, hbf, ba211⟩; refine ⟨_, rfl, ?_⟩; obtain rfl : bf = false := (by cases bf with | false => rfl | true => exact absurd (hbf.1 rfl) hf); clear hbf)
    have zba211 := ba211.size
    replace ba99 := ba99.trans (ba211.mono ba99.size)
    replace qP := qP.trans (ba211.mono qP.size)
    replace q := q.trans (ba211.mono q.size)
    refine LL.val (R.not rfl rfl) rfl rfl rfl ?_
    refine LL.val (R.move rfl rfl) rfl rfl rfl ?_
    refine LL.skip rfl rfl ?_
    refine LL.skip rfl rfl ?_
    refine LL.skip rfl rfl ?_
    refine LL.skip rfl rfl ?_
    refine LL.skip rfl rfl ?_
    refine LL.val (R.pick rfl rfl rfl) rfl rfl rfl ?_
    refine LL.val (R.move rfl rfl) rfl rfl rfl ?_
    refine LL.skip rfl rfl ?_
    refine LL.skip rfl rfl ?_
    refine LL.skip rfl rfl ?_
    refine LL.skip rfl rfl ?_
    refine LL.skip rfl rfl ?_
    refine LL.skip rfl rfl ?_
    refine LL.val (R.pick rfl rfl rfl) rfl rfl rfl ?_
    refine LL.nilS ?_
    refine CC.yes rfl ?_
    refine CC.seq ?_
    refine CC.region ?_
    refine LL.val (R.assign rfl rfl) rfl rfl rfl ?_
    refine LL.nilS ?_
    refine CC.ret ?_
    refine EE.thenR ?_
    refine EE.ret _ rfl rfl ?_
    exact ⟨rfl, q⟩
  by_cases hl : ps.length = m
  case neg =>
    have hno : ¬ setP left s := fun hs => hl (hsf.1 hs).2.1
    rw [if_neg hno]
    refine X.fn Try.func31 rfl (n := 53) rfl rfl ?_
    refine CC.seq ?_
    refine CC.region ?_
    refine LL.val (R.assign rfl rfl) rfl rfl rfl ?_
    refine LL.nilS ?_
    refine CC.seq ?_
    refine CC.seq ?_
    refine CC.region ?_
    refine LL.val (R.move rfl rfl) rfl rfl rfl ?_
    refine LL.val (R.move rfl rfl) rfl rfl rfl ?_
    refine LL.call (R.call rfl rfl rfl) rfl rfl rfl (dright_T _ _ _ _ _ (by first | assumption | omega)) ?_
    rintro e W' ⟨rfl, rfl⟩
    refine ⟨_, rfl, ?_⟩
    refine LL.val (R.not rfl rfl) rfl rfl rfl ?_
    refine LL.nilS ?_
    refine CC.no rfl ?_
    refine CC.skip ?_
    refine EE.thenN ?_
    refine CC.seq ?_
    refine CC.region ?_
    refine LL.val (R.move rfl rfl) rfl rfl rfl ?_
    refine LL.val (R.move rfl rfl) rfl rfl rfl ?_
    (refine LL.call (R.call rfl rfl rfl) rfl rfl rfl (dread_any left a n c s _ (hvF _ q) hn h) ?_; rintro e Wb102 ⟨v1, v2, rfl, o1, o2, hd, bb99⟩; refine ⟨_, rfl, ?_⟩; rw [eps] at o1; obtain ⟨aP, cP, rfl, hcP⟩ := (o1.reads prEnc).form rfl; have hpF : ∀ X, Below (Wb102).heap.size Wb102 X → ReadsT prE 2 X (.slice aP ps.length cP) ps := fun X b => (o1.reads prEnc).up b; have qP := Below.refl (Wb102).heap.size Wb102; clear o1 o2 hd)
    have zbb99 := bb99.size
    replace q := q.trans (bb99.mono q.size)
    refine LL.val (R.move rfl rfl) rfl rfl rfl ?_
    refine LL.val (R.extract rfl rfl rfl) rfl rfl rfl ?_
    refine LL.val (R.extract rfl rfl rfl) rfl rfl rfl ?_
    refine LL.val (R.assign rfl rfl) rfl rfl rfl ?_
    refine LL.val (R.assign rfl rfl) rfl rfl rfl ?_
    refine LL.nilS ?_
    refine CC.seq ?_
    refine CC.seq ?_
    refine CC.region ?_
    refine LL.val (R.move rfl rfl) rfl rfl rfl ?_
    refine LL.val (R.move rfl rfl) rfl rfl rfl ?_
    (refine LL.call (R.call rfl rfl rfl) rfl rfl rfl (dfine_any left _ ps _ (hpF _ qP) (by omega)) ?_; rintro e Wb214 ⟨bf, rfl, hbf, bb211⟩; refine ⟨_, rfl, ?_⟩; obtain rfl : bf = true := hbf.2 hf; clear hbf)
    have zbb211 := bb211.size
    replace bb99 := bb99.trans (bb211.mono bb99.size)
    replace qP := qP.trans (bb211.mono qP.size)
    replace q := q.trans (bb211.mono q.size)
    refine LL.val (R.not rfl rfl) rfl rfl rfl ?_
    refine LL.val (R.move rfl rfl) rfl rfl rfl ?_
    refine LL.val (R.move rfl rfl) rfl rfl rfl ?_
    refine LL.val (R.len rfl rfl rfl rfl) rfl rfl rfl ?_
    refine LL.val (R.move rfl rfl) rfl rfl rfl ?_
    (refine LL.call (R.call rfl rfl rfl) rfl rfl rfl (draw_any _ _ _ s _ (hvF _ q) hn h) ?_; rintro e W' ⟨rfl, rfl⟩; refine ⟨_, rfl, ?_⟩; rw [em])
    refine LL.val (R.neT rfl rfl rfl (by omega)) rfl rfl rfl ?_
    refine LL.val (R.pick rfl rfl rfl) rfl rfl rfl ?_
    refine LL.val (R.move rfl rfl) rfl rfl rfl ?_
    refine LL.skip rfl rfl ?_
    refine LL.skip rfl rfl ?_
    refine LL.skip rfl rfl ?_
    refine LL.skip rfl rfl ?_
    refine LL.skip rfl rfl ?_
    refine LL.skip rfl rfl ?_
    refine LL.val (R.pick rfl rfl rfl) rfl rfl rfl ?_
    refine LL.nilS ?_
    refine CC.yes rfl ?_
    refine CC.seq ?_
    refine CC.region ?_
    refine LL.val (R.assign rfl rfl) rfl rfl rfl ?_
    refine LL.nilS ?_
    refine CC.ret ?_
    refine EE.thenR ?_
    refine EE.ret _ rfl rfl ?_
    exact ⟨rfl, q⟩
  by_cases hl2 : ps.length < n / 2
  case neg =>
    have hno : ¬ setP left s := fun hs => hl2 (hsf.1 hs).2.2.1
    rw [if_neg hno]
    refine X.fn Try.func31 rfl (n := 53) rfl rfl ?_
    refine CC.seq ?_
    refine CC.region ?_
    refine LL.val (R.assign rfl rfl) rfl rfl rfl ?_
    refine LL.nilS ?_
    refine CC.seq ?_
    refine CC.seq ?_
    refine CC.region ?_
    refine LL.val (R.move rfl rfl) rfl rfl rfl ?_
    refine LL.val (R.move rfl rfl) rfl rfl rfl ?_
    refine LL.call (R.call rfl rfl rfl) rfl rfl rfl (dright_T _ _ _ _ _ (by first | assumption | omega)) ?_
    rintro e W' ⟨rfl, rfl⟩
    refine ⟨_, rfl, ?_⟩
    refine LL.val (R.not rfl rfl) rfl rfl rfl ?_
    refine LL.nilS ?_
    refine CC.no rfl ?_
    refine CC.skip ?_
    refine EE.thenN ?_
    refine CC.seq ?_
    refine CC.region ?_
    refine LL.val (R.move rfl rfl) rfl rfl rfl ?_
    refine LL.val (R.move rfl rfl) rfl rfl rfl ?_
    (refine LL.call (R.call rfl rfl rfl) rfl rfl rfl (dread_any left a n c s _ (hvF _ q) hn h) ?_; rintro e Wc102 ⟨v1, v2, rfl, o1, o2, hd, bc99⟩; refine ⟨_, rfl, ?_⟩; rw [eps] at o1; obtain ⟨aP, cP, rfl, hcP⟩ := (o1.reads prEnc).form rfl; have hpF : ∀ X, Below (Wc102).heap.size Wc102 X → ReadsT prE 2 X (.slice aP ps.length cP) ps := fun X b => (o1.reads prEnc).up b; have qP := Below.refl (Wc102).heap.size Wc102; clear o1 o2 hd)
    have zbc99 := bc99.size
    replace q := q.trans (bc99.mono q.size)
    refine LL.val (R.move rfl rfl) rfl rfl rfl ?_
    refine LL.val (R.extract rfl rfl rfl) rfl rfl rfl ?_
    refine LL.val (R.extract rfl rfl rfl) rfl rfl rfl ?_
    refine LL.val (R.assign rfl rfl) rfl rfl rfl ?_
    refine LL.val (R.assign rfl rfl) rfl rfl rfl ?_
    refine LL.nilS ?_
    refine CC.seq ?_
    refine CC.seq ?_
    refine CC.region ?_
    refine LL.val (R.move rfl rfl) rfl rfl rfl ?_
    refine LL.val (R.move rfl rfl) rfl rfl rfl ?_
    (refine LL.call (R.call rfl rfl rfl) rfl rfl rfl (dfine_any left _ ps _ (hpF _ qP) (by omega)) ?_; rintro e Wc214 ⟨bf, rfl, hbf, bc211⟩; refine ⟨_, rfl, ?_⟩; obtain rfl : bf = true := hbf.2 hf; clear hbf)
    have zbc211 := bc211.size
    replace bc99 := bc99.trans (bc211.mono bc99.size)
    replace qP := qP.trans (bc211.mono qP.size)
    replace q := q.trans (bc211.mono q.size)
    refine LL.val (R.not rfl rfl) rfl rfl rfl ?_
    refine LL.val (R.move rfl rfl) rfl rfl rfl ?_
    refine LL.val (R.move rfl rfl) rfl rfl rfl ?_
    refine LL.val (R.len rfl rfl rfl rfl) rfl rfl rfl ?_
    refine LL.val (R.move rfl rfl) rfl rfl rfl ?_
    (refine LL.call (R.call rfl rfl rfl) rfl rfl rfl (draw_any _ _ _ s _ (hvF _ q) hn h) ?_; rintro e W' ⟨rfl, rfl⟩; refine ⟨_, rfl, ?_⟩; rw [em])
    refine LL.val (R.neF rfl rfl rfl (by omega)) rfl rfl rfl ?_
    refine LL.val (R.pick rfl rfl rfl) rfl rfl rfl ?_
    refine LL.val (R.move rfl rfl) rfl rfl rfl ?_
    refine LL.val (R.move rfl rfl) rfl rfl rfl ?_
    refine LL.val (R.len rfl rfl rfl rfl) rfl rfl rfl ?_
    refine LL.val (R.move rfl rfl) rfl rfl rfl ?_
    refine LL.val (R.len rfl rfl rfl rfl) rfl rfl rfl ?_
    refine LL.val (R.quoNc rfl rfl rfl rfl (by omega) (by omega)) rfl rfl rfl ?_
    refine LL.val (R.geT rfl rfl rfl (by omega)) rfl rfl rfl ?_
    refine LL.val (R.pick rfl rfl rfl) rfl rfl rfl ?_
    refine LL.nilS ?_
    refine CC.yes rfl ?_
    refine CC.seq ?_
    refine CC.region ?_
    refine LL.val (R.assign rfl rfl) rfl rfl rfl ?_
    refine LL.nilS ?_
    refine CC.ret ?_
    refine EE.thenR ?_
    refine EE.ret _ rfl rfl ?_
    exact ⟨rfl, q⟩
  refine X.fn Try.func31 rfl (n := 53) rfl rfl ?_
  refine CC.seq ?_
  refine CC.region ?_
  refine LL.val (R.assign rfl rfl) rfl rfl rfl ?_
  refine LL.nilS ?_
  refine CC.seq ?_
  refine CC.seq ?_
  refine CC.region ?_
  refine LL.val (R.move rfl rfl) rfl rfl rfl ?_
  refine LL.val (R.move rfl rfl) rfl rfl rfl ?_
  refine LL.call (R.call rfl rfl rfl) rfl rfl rfl (dright_T _ _ _ _ _ (by first | assumption | omega)) ?_
  rintro e W' ⟨rfl, rfl⟩
  refine ⟨_, rfl, ?_⟩
  refine LL.val (R.not rfl rfl) rfl rfl rfl ?_
  refine LL.nilS ?_
  refine CC.no rfl ?_
  refine CC.skip ?_
  refine EE.thenN ?_
  refine CC.seq ?_
  refine CC.region ?_
  refine LL.val (R.move rfl rfl) rfl rfl rfl ?_
  refine LL.val (R.move rfl rfl) rfl rfl rfl ?_
  (refine LL.call (R.call rfl rfl rfl) rfl rfl rfl (dread_any left a n c s _ (hvF _ q) hn h) ?_; rintro e Wd102 ⟨v1, v2, rfl, o1, o2, hd, bd99⟩; refine ⟨_, rfl, ?_⟩; rw [eps] at o1; obtain ⟨aP, cP, rfl, hcP⟩ := (o1.reads prEnc).form rfl; have hpF : ∀ X, Below (Wd102).heap.size Wd102 X → ReadsT prE 2 X (.slice aP ps.length cP) ps := fun X b => (o1.reads prEnc).up b; have qP := Below.refl (Wd102).heap.size Wd102; clear o1 o2 hd)
  have zbd99 := bd99.size
  replace q := q.trans (bd99.mono q.size)
  refine LL.val (R.move rfl rfl) rfl rfl rfl ?_
  refine LL.val (R.extract rfl rfl rfl) rfl rfl rfl ?_
  refine LL.val (R.extract rfl rfl rfl) rfl rfl rfl ?_
  refine LL.val (R.assign rfl rfl) rfl rfl rfl ?_
  refine LL.val (R.assign rfl rfl) rfl rfl rfl ?_
  refine LL.nilS ?_
  refine CC.seq ?_
  refine CC.seq ?_
  refine CC.region ?_
  refine LL.val (R.move rfl rfl) rfl rfl rfl ?_
  refine LL.val (R.move rfl rfl) rfl rfl rfl ?_
  (refine LL.call (R.call rfl rfl rfl) rfl rfl rfl (dfine_any left _ ps _ (hpF _ qP) (by omega)) ?_; rintro e Wd214 ⟨bf, rfl, hbf, bd211⟩; refine ⟨_, rfl, ?_⟩; obtain rfl : bf = true := hbf.2 hf; clear hbf)
  have zbd211 := bd211.size
  replace bd99 := bd99.trans (bd211.mono bd99.size)
  replace qP := qP.trans (bd211.mono qP.size)
  replace q := q.trans (bd211.mono q.size)
  refine LL.val (R.not rfl rfl) rfl rfl rfl ?_
  refine LL.val (R.move rfl rfl) rfl rfl rfl ?_
  refine LL.val (R.move rfl rfl) rfl rfl rfl ?_
  refine LL.val (R.len rfl rfl rfl rfl) rfl rfl rfl ?_
  refine LL.val (R.move rfl rfl) rfl rfl rfl ?_
  (refine LL.call (R.call rfl rfl rfl) rfl rfl rfl (draw_any _ _ _ s _ (hvF _ q) hn h) ?_; rintro e W' ⟨rfl, rfl⟩; refine ⟨_, rfl, ?_⟩; rw [em])
  refine LL.val (R.neF rfl rfl rfl (by omega)) rfl rfl rfl ?_
  refine LL.val (R.pick rfl rfl rfl) rfl rfl rfl ?_
  refine LL.val (R.move rfl rfl) rfl rfl rfl ?_
  refine LL.val (R.move rfl rfl) rfl rfl rfl ?_
  refine LL.val (R.len rfl rfl rfl rfl) rfl rfl rfl ?_
  refine LL.val (R.move rfl rfl) rfl rfl rfl ?_
  refine LL.val (R.len rfl rfl rfl rfl) rfl rfl rfl ?_
  refine LL.val (R.quoNc rfl rfl rfl rfl (by omega) (by omega)) rfl rfl rfl ?_
  refine LL.val (R.geF rfl rfl rfl (by omega)) rfl rfl rfl ?_
  refine LL.val (R.pick rfl rfl rfl) rfl rfl rfl ?_
  refine LL.nilS ?_
  refine CC.no rfl ?_
  refine CC.skip ?_
  refine EE.thenN ?_
  refine CC.seq ?_
  refine CC.seq ?_
  refine CC.region ?_
  refine LL.val (R.move rfl rfl) rfl rfl rfl ?_
  refine LL.val (R.len rfl rfl rfl rfl) rfl rfl rfl ?_
  refine LL.val (R.assign rfl rfl) rfl rfl rfl ?_
  refine LL.nilS ?_
  refine CC.block ?_
  have yq := q.size
  refine CC.loop (α := Nat) (fun i => [(1, .slice a n c), (7, .int .i64 (i : Int))]) (fun i W => m ≤ i ∧ i ≤ n / 2 ∧ Below w.heap.size w W ∧ ∀ j, m ≤ j → j < i → ptrN s j = 0) (fun i => n / 2 - i)
    ps.length ⟨rfl, rfl, trivial⟩ ⟨by omega, by omega, q, fun j h1 h2 => by omega⟩ ?_
  clear q qP
  rintro j W ⟨hj1, hj2, q, hz⟩
  show CC none Try.prog _ 53 [] (sl [(1, .slice a n c), (7, .int .i64 (j : Int))]) _ W
  by_cases hlt2 : j < n / 2
  case neg =>
    obtain rfl : j = n / 2 := by omega
    have hyes : setP left s := hsf.2 ⟨hf, hl, hl2, hz⟩
    rw [if_pos hyes]
    refine CC.seq ?_
    refine CC.seq ?_
    refine CC.region ?_
    refine LL.val (R.move rfl rfl) rfl rfl rfl ?_
    refine LL.val (R.move rfl rfl) rfl rfl rfl ?_
    refine LL.val (R.len rfl rfl rfl rfl) rfl rfl rfl ?_
    refine LL.val (R.quoNc rfl rfl rfl rfl (by omega) (by omega)) rfl rfl rfl ?_
    refine LL.val (R.ltF rfl rfl rfl (by omega)) rfl rfl rfl ?_
    refine LL.nilS ?_
    refine CC.no rfl ?_
    refine CC.exit ?_
    refine EE.thenX ?_
    refine EE.thenX ?_
    refine EE.inX ?_
    refine EE.thenN ?_
    refine CC.seq ?_
    refine CC.region ?_
    refine LL.val (R.assign rfl rfl) rfl rfl rfl ?_
    refine LL.nilS ?_
    refine CC.ret ?_
    refine EE.ret _ rfl rfl ?_
    exact ⟨rfl, q⟩
  obtain ⟨b, o, rfl, lb, m1⟩ := u_at (hvF _ (Below.refl _ _)) (ptrN_at (s := s) (j := j) (by omega))
  have c1 := m1 W q
  by_cases hp : ptrN s j = 0
  · have hz' : ∀ k, m ≤ k → k < j + 1 → ptrN s k = 0 := fun k h1 h2 => by
      by_cases e : k = j
      · subst e; exact hp
      · exact hz k h1 (by omega)
    clear hz
    refine CC.seq ?_
    refine CC.seq ?_
    refine CC.region ?_
    refine LL.val (R.move rfl rfl) rfl rfl rfl ?_
    refine LL.val (R.move rfl rfl) rfl rfl rfl ?_
    refine LL.val (R.len rfl rfl rfl rfl) rfl rfl rfl ?_
    refine LL.val (R.quoNc rfl rfl rfl rfl (by omega) (by omega)) rfl rfl rfl ?_
    refine LL.val (R.ltT rfl rfl rfl (by omega)) rfl rfl rfl ?_
    refine LL.nilS ?_
    refine CC.yes rfl ?_
    refine CC.skip ?_
    refine EE.thenN ?_
    refine CC.seq ?_
    refine CC.block ?_
    refine CC.seq ?_
    refine CC.region ?_
    refine LL.val (R.move rfl rfl) rfl rfl rfl ?_
    refine LL.val (R.move rfl rfl) rfl rfl rfl ?_
    refine LL.val (R.mulcN rfl rfl rfl rfl (by omega)) rfl rfl rfl ?_
    refine LL.val (R.addNc rfl rfl rfl rfl (by omega)) rfl rfl rfl ?_
    refine LL.val (R.index rfl rfl rfl (I.ixS1 rfl (by omega))) rfl rfl rfl ?_
    refine LL.val (R.load rfl rfl (I.ld1 rfl (by assumption))) rfl rfl rfl ?_
    refine LL.val (R.neF rfl rfl rfl (by omega)) rfl rfl rfl ?_
    refine LL.nilS ?_
    refine CC.no rfl ?_
    refine CC.skip ?_
    refine EE.inN ?_
    refine EE.thenN ?_
    refine CC.region ?_
    refine LL.val (R.move rfl rfl) rfl rfl rfl ?_
    refine LL.val (R.addNc rfl rfl rfl rfl (by omega)) rfl rfl rfl ?_
    refine LL.val (R.assign rfl rfl) rfl rfl rfl ?_
    refine LL.nil ?_
    exact EE.round (j + 1) ⟨rfl, rfl, trivial⟩ ⟨by show m ≤ j + 1; omega, by show j + 1 ≤ n / 2; omega, q, hz'⟩ (by show n / 2 - (j + 1) < n / 2 - j; omega)
  · have hno : ¬ setP left s := fun hs => hp ((hsf.1 hs).2.2.2 j hj1 hlt2)
    rw [if_neg hno]
    refine CC.seq ?_
    refine CC.seq ?_
    refine CC.region ?_
    refine LL.val (R.move rfl rfl) rfl rfl rfl ?_
    refine LL.val (R.move rfl rfl) rfl rfl rfl ?_
    refine LL.val (R.len rfl rfl rfl rfl) rfl rfl rfl ?_
    refine LL.val (R.quoNc rfl rfl rfl rfl (by omega) (by omega)) rfl rfl rfl ?_
    refine LL.val (R.ltT rfl rfl rfl (by omega)) rfl rfl rfl ?_
    refine LL.nilS ?_
    refine CC.yes rfl ?_
    refine CC.skip ?_
    refine EE.thenN ?_
    refine CC.seq ?_
    refine CC.block ?_
    refine CC.seq ?_
    refine CC.region ?_
    refine LL.val (R.move rfl rfl) rfl rfl rfl ?_
    refine LL.val (R.move rfl rfl) rfl rfl rfl ?_
    refine LL.val (R.mulcN rfl rfl rfl rfl (by omega)) rfl rfl rfl ?_
    refine LL.val (R.addNc rfl rfl rfl rfl (by omega)) rfl rfl rfl ?_
    refine LL.val (R.index rfl rfl rfl (I.ixS1 rfl (by omega))) rfl rfl rfl ?_
    refine LL.val (R.load rfl rfl (I.ld1 rfl (by assumption))) rfl rfl rfl ?_
    refine LL.val (R.neT rfl rfl rfl (by omega)) rfl rfl rfl ?_
    refine LL.nilS ?_
    refine CC.yes rfl ?_
    refine CC.seq ?_
    refine CC.region ?_
    refine LL.val (R.assign rfl rfl) rfl rfl rfl ?_
    refine LL.nilS ?_
    refine CC.ret ?_
    refine EE.inR ?_
    refine EE.thenR ?_
    refine EE.thenR ?_
    refine EE.inR ?_
    refine EE.thenR ?_
    refine EE.ret _ rfl rfl ?_
    exact ⟨rfl, q⟩
end Go.Proofs.Ytfplilpefhhpnaa
/- slots: the document's find, pointer, shift. -/
namespace Go.Proofs.Ytfplilpefhhpnaa
set_option linter.unusedVariables false
set_option linter.unusedSimpArgs false
open Go.RowKit Go.Shelf
set_option maxRecDepth 100000
set_option maxHeartbeats 4000000
end Go.Proofs.Ytfplilpefhhpnaa
/- slots: the document's shift. -/
namespace Go.Proofs.Ytfplilpefhhpnaa
set_option linter.unusedVariables false
set_option linter.unusedSimpArgs false
open Go.RowKit Go.Shelf
set_option maxRecDepth 100000
set_option maxHeartbeats 4000000
end Go.Proofs.Ytfplilpefhhpnaa
/- slots: the document's Take, Swap, Put (gen23.py writes this). -/
namespace Go.Proofs.Ytfplilpefhhpnaa
set_option linter.unusedVariables false
set_option linter.unusedSimpArgs false
open Go.RowKit Go.Shelf
set_option maxRecDepth 100000
set_option maxHeartbeats 4000000
end Go.Proofs.Ytfplilpefhhpnaa
/- slots: the document's Put (gen24.py writes this). -/
namespace Go.Proofs.Ytfplilpefhhpnaa
set_option linter.unusedVariables false
set_option linter.unusedSimpArgs false
open Go.RowKit Go.Shelf
set_option maxRecDepth 100000
set_option maxHeartbeats 4000000
end Go.Proofs.Ytfplilpefhhpnaa
/- slots: the document's Apply, empty. -/
namespace Go.Proofs.Ytfplilpefhhpnaa
set_option linter.unusedVariables false
set_option linter.unusedSimpArgs false
open Go.RowKit Go.Shelf
set_option maxRecDepth 100000
set_option maxHeartbeats 4000000
end Go.Proofs.Ytfplilpefhhpnaa
/- slots: the document's Tidy. -/
namespace Go.Proofs.Ytfplilpefhhpnaa
set_option linter.unusedVariables false
set_option linter.unusedSimpArgs false
open Go.RowKit Go.Shelf
set_option maxRecDepth 100000
set_option maxHeartbeats 8000000
end Go.Proofs.Ytfplilpefhhpnaa
/- slots: the laws' own functions. -/
namespace Go.Proofs.Ytfplilpefhhpnaa
set_option linter.unusedVariables false
set_option linter.unusedSimpArgs false
open Go.RowKit Go.Shelf
theorem beqNI (a b : Nat) : (((a : Nat) : Int) == ((b : Nat) : Int)) = decide (a = b) := by
  rw [Bool.eq_iff_iff]
  simp only [beq_iff_eq, decide_eq_true_eq]
  exact ⟨fun h => by omega, fun h => by omega⟩

theorem eqPut (a c b d : Int) (w : World) : (Op.equalIn 10000 68 (.agg #[.int .i64 a, .int .u64 b]) (.agg #[.int .i64 c, .int .u64 d])).run Try.prog w = .ok (a == c && b == d) w := by
  have u3 := Try.underlying3
  have u4 := Try.underlying25
  have a3 := Try.isAgg3
  have z3 := Try.sizeOf3
  have a4 := Try.isAgg25
  have z4 := Try.sizeOf25
  have hS : Try.prog.underlying 68 = some (.struct (Try.prog.fieldsOf 68)) := by kernel_rfl
  rw [show (10000 : Nat) = 9999 + 1 from rfl, run_equalIn_agg w 9999 68 _ _ hS (by kernel_rfl)]
  simp only [Program.fieldsOf, Try.underlying68]
  go_simp
  by_cases h1 : a = c <;> by_cases h2 : b = d <;> simp [h1, h2]

theorem R.nePut {n : Nat} {D : List Deferred} {M : Slots} {w : World} {o : Oper} {x y : Operand} {u : TypeId} {s t : Pt} {b : Bool} (ho : o.op = .binOp .neq 68 x y u) (hx : evM M x = some (.agg (pE s).toArray)) (hy : evM M y = some (.agg (pE t).toArray)) (hb : (!decide (s = t)) = b) : Runs Try.prog n D M o w (.value (.bool b)) w := R.bin ho hx hy (by
  subst hb
  simp only [Sem.run_bind, pE, run_eqGuard_agg w _ _ _ _ _ _ (show Try.prog.eqGuardType Try.prog.depth 68 = false by kernel_rfl), Result.andThen_ok, run_neq_struct, eqPut]
  obtain ⟨s1, s2⟩ := s
  obtain ⟨t1, t2⟩ := t
  simp only [beqNI]
  by_cases h1 : s1 = t1 <;> by_cases h2 : s2 = t2 <;> simp [h1, h2])

set_option maxRecDepth 100000 in
set_option maxHeartbeats 2000000 in
theorem psame_any (va vb : Value) (xs ys : List Pt) (w : World) (ha : ReadsT pE 2 w va xs) (hb : ReadsT pE 2 w vb ys) (hlx : xs.length ≤ 1048576) (hly : ys.length ≤ 1048576) :
    Calls Try.prog 20 #[va, vb] w fun e w' => e = .returned (.bool (decide (xs = ys))) ∧ Below w.heap.size w w' := by
  obtain ⟨N, hN⟩ : ∃ N, xs.length = N := ⟨_, rfl⟩
  obtain ⟨N2, hN2⟩ : ∃ N, ys.length = N := ⟨_, rfl⟩
  obtain ⟨a, cap, rfl, hc⟩ := ha.form hN
  obtain ⟨a2, cap2, rfl, hc2⟩ := hb.form hN2
  rw [hN] at hlx
  rw [hN2] at hly
  refine X.fn Try.func20 rfl (n := 26) rfl rfl ?_
  by_cases hne : N = N2
  · subst hne
    (repeat (first | (first | refine CC.seq ?_ | refine CC.region ?_ | refine LL.nilS ?_ | refine CC.yes rfl ?_ | refine CC.no rfl ?_ | refine CC.block ?_ | refine EE.thenN ?_ | refine LL.nil ?_ | refine CC.exit ?_ | refine CC.ret ?_ | refine CC.skip ?_ | refine EE.thenX ?_ | refine EE.thenR ?_ | refine EE.inN ?_ | refine EE.inX ?_ | refine EE.inX' rfl ?_ | refine EE.inR ?_ | refine CC.label ?_ | refine EE.thenG ?_ | refine EE.inG ?_) | (first | refine LL.val (R.move rfl rfl) rfl rfl rfl ?_ | refine LL.val (R.assign rfl rfl) rfl rfl rfl ?_ | refine LL.val (R.nil rfl rfl) rfl rfl rfl ?_ | refine LL.val (R.field rfl rfl (I.fld rfl)) rfl rfl rfl ?_ | refine LL.val (R.load rfl rfl (I.ld1 rfl (by assumption))) rfl rfl rfl ?_ | refine LL.val (R.load rfl rfl (I.ld1 rfl (RowL.cell (by assumption) rfl))) rfl rfl rfl ?_ | refine LL.val (R.index rfl rfl rfl (I.ixA1c rfl rfl (by first | omega | decide))) rfl rfl rfl ?_ | refine LL.val (R.index rfl rfl rfl (I.ixS1c rfl rfl (by omega))) rfl rfl rfl ?_ | refine LL.val (R.index rfl rfl rfl (I.ixAc rfl rfl (by first | omega | decide))) rfl rfl rfl ?_ | refine LL.val (R.index rfl rfl rfl (I.ixSc rfl rfl (by omega))) rfl rfl rfl ?_ | refine LL.val (R.index rfl rfl rfl (I.ixA1 rfl (by omega))) rfl rfl rfl ?_ | refine LL.val (R.index rfl rfl rfl (I.ixS1 rfl (by omega))) rfl rfl rfl ?_ | refine LL.val (R.index rfl rfl rfl (I.ixA rfl (by omega))) rfl rfl rfl ?_ | refine LL.val (R.index rfl rfl rfl (I.ixS rfl (by omega))) rfl rfl rfl ?_ | refine LL.val (R.ltT rfl rfl rfl (by omega)) rfl rfl rfl ?_ | refine LL.val (R.ltF rfl rfl rfl (by omega)) rfl rfl rfl ?_ | refine LL.val (R.addNc rfl rfl rfl rfl (by omega)) rfl rfl rfl ?_ | refine LL.val (R.subNc rfl rfl rfl rfl (by omega) (by omega)) rfl rfl rfl ?_ | refine LL.val (R.addN rfl rfl rfl (by omega)) rfl rfl rfl ?_ | refine LL.val (R.subN rfl rfl rfl (by omega) (by omega)) rfl rfl rfl ?_ | refine LL.val (R.subcN rfl rfl rfl rfl (by omega) (by omega)) rfl rfl rfl ?_ | refine LL.val (R.addI rfl rfl rfl (by omega)) rfl rfl rfl ?_ | refine LL.val (R.subI rfl rfl rfl (by omega)) rfl rfl rfl ?_ | refine LL.val (R.mulNc rfl rfl rfl rfl (by omega)) rfl rfl rfl ?_ | refine LL.val (R.mulcN rfl rfl rfl rfl (by omega)) rfl rfl rfl ?_ | refine LL.val (R.quoNc rfl rfl rfl rfl (by omega) (by omega)) rfl rfl rfl ?_ | refine LL.val (R.remNc rfl rfl rfl rfl (by omega)) rfl rfl rfl ?_ | refine LL.val (R.mulN rfl rfl rfl (by omega)) rfl rfl rfl ?_ | refine LL.val (R.quoN rfl rfl rfl (by omega) (by omega)) rfl rfl rfl ?_ | refine LL.val (R.remN rfl rfl rfl (by omega)) rfl rfl rfl ?_ | refine LL.val (R.leT rfl rfl rfl (by omega)) rfl rfl rfl ?_ | refine LL.val (R.leF rfl rfl rfl (by omega)) rfl rfl rfl ?_ | refine LL.val (R.gtT rfl rfl rfl (by omega)) rfl rfl rfl ?_ | refine LL.val (R.gtF rfl rfl rfl (by omega)) rfl rfl rfl ?_ | refine LL.val (R.geT rfl rfl rfl (by omega)) rfl rfl rfl ?_ | refine LL.val (R.geF rfl rfl rfl (by omega)) rfl rfl rfl ?_ | refine LL.val (R.eqT rfl rfl rfl (by omega)) rfl rfl rfl ?_ | refine LL.val (R.eqF rfl rfl rfl (by omega)) rfl rfl rfl ?_ | refine LL.val (R.neT rfl rfl rfl (by omega)) rfl rfl rfl ?_ | refine LL.val (R.neF rfl rfl rfl (by omega)) rfl rfl rfl ?_ | refine LL.val (R.eqPtr rfl rfl rfl rfl rfl) rfl rfl rfl ?_ | refine LL.val (R.nePtr rfl rfl rfl rfl rfl) rfl rfl rfl ?_ | refine LL.val (R.eqSl rfl rfl rfl rfl rfl) rfl rfl rfl ?_ | refine LL.val (R.neSl rfl rfl rfl rfl rfl) rfl rfl rfl ?_ | refine LL.val (R.eqFn rfl rfl rfl rfl) rfl rfl rfl ?_ | refine LL.val (R.eqBool rfl rfl rfl rfl rfl) rfl rfl rfl ?_ | refine LL.val (R.neBool rfl rfl rfl rfl rfl) rfl rfl rfl ?_ | refine LL.val (R.xorU rfl rfl rfl (by first | omega | decide) (by first | omega | decide)) rfl rfl rfl ?_ | refine LL.val (R.addUN rfl rfl rfl (by omega)) rfl rfl rfl ?_ | refine LL.val (R.not rfl rfl) rfl rfl rfl ?_ | refine LL.val (R.lenS rfl rfl rfl rfl) rfl rfl rfl ?_ | refine LL.val (R.len rfl rfl rfl rfl) rfl rfl rfl ?_ | refine LL.val (R.pick rfl rfl rfl) rfl rfl rfl ?_ | refine LL.val (R.extract rfl rfl rfl) rfl rfl rfl ?_ | refine LL.val (R.func rfl rfl rfl) rfl rfl rfl ?_ | refine LL.val (R.slice rfl rfl rfl rfl rfl (I.slA rfl)) rfl rfl rfl ?_ | refine LL.val (R.slice rfl rfl rfl rfl rfl (I.slAto rfl (by omega))) rfl rfl rfl ?_) | refine LL.skip rfl rfl ?_))
    refine CC.loop (α := Nat) (fun i => [(0, .slice a N cap), (1, .slice a2 N cap2), (4, .bool false), (5, .int .i64 (i : Int))]) (fun i wr => Below w.heap.size w wr ∧ i ≤ N ∧ xs.take i = ys.take i) (fun i => N - i) 0 ⟨rfl, rfl, rfl, rfl, trivial⟩ ⟨Below.refl _ _, by omega, by simp⟩ ?_
    intro i wr ⟨hbw, hi, ht⟩
    by_cases h1 : i < N
    · obtain ⟨s, hs⟩ : ∃ s, xs[i]? = some s := ⟨_, List.getElem?_eq_getElem (by omega)⟩
      obtain ⟨t, ht2⟩ : ∃ t, ys[i]? = some t := ⟨_, List.getElem?_eq_getElem (by omega)⟩
      obtain ⟨b, off, rfl, hbl, hcs⟩ := ha.get pEnc hs
      obtain ⟨b2, off2, rfl, hbl2, hcs2⟩ := hb.get pEnc ht2
      have hc1 := hcs.below hbw.drew hbl
      have hc3 := hcs2.below hbw.drew hbl2
      (repeat (first | (first | refine CC.seq ?_ | refine CC.region ?_ | refine LL.nilS ?_ | refine CC.yes rfl ?_ | refine CC.no rfl ?_ | refine CC.block ?_ | refine EE.thenN ?_ | refine LL.nil ?_ | refine CC.exit ?_ | refine CC.ret ?_ | refine CC.skip ?_ | refine EE.thenX ?_ | refine EE.thenR ?_ | refine EE.inN ?_ | refine EE.inX ?_ | refine EE.inX' rfl ?_ | refine EE.inR ?_ | refine CC.label ?_ | refine EE.thenG ?_ | refine EE.inG ?_) | (first | refine LL.val (R.move rfl rfl) rfl rfl rfl ?_ | refine LL.val (R.assign rfl rfl) rfl rfl rfl ?_ | refine LL.val (R.nil rfl rfl) rfl rfl rfl ?_ | refine LL.val (R.field rfl rfl (I.fld rfl)) rfl rfl rfl ?_ | refine LL.val (R.load rfl rfl (I.ld1 rfl (by assumption))) rfl rfl rfl ?_ | refine LL.val (R.load rfl rfl (I.ld1 rfl (RowL.cell (by assumption) rfl))) rfl rfl rfl ?_ | refine LL.val (R.index rfl rfl rfl (I.ixA1c rfl rfl (by first | omega | decide))) rfl rfl rfl ?_ | refine LL.val (R.index rfl rfl rfl (I.ixS1c rfl rfl (by omega))) rfl rfl rfl ?_ | refine LL.val (R.index rfl rfl rfl (I.ixAc rfl rfl (by first | omega | decide))) rfl rfl rfl ?_ | refine LL.val (R.index rfl rfl rfl (I.ixSc rfl rfl (by omega))) rfl rfl rfl ?_ | refine LL.val (R.index rfl rfl rfl (I.ixA1 rfl (by omega))) rfl rfl rfl ?_ | refine LL.val (R.index rfl rfl rfl (I.ixS1 rfl (by omega))) rfl rfl rfl ?_ | refine LL.val (R.index rfl rfl rfl (I.ixA rfl (by omega))) rfl rfl rfl ?_ | refine LL.val (R.index rfl rfl rfl (I.ixS rfl (by omega))) rfl rfl rfl ?_ | refine LL.val (R.ltT rfl rfl rfl (by omega)) rfl rfl rfl ?_ | refine LL.val (R.ltF rfl rfl rfl (by omega)) rfl rfl rfl ?_ | refine LL.val (R.addNc rfl rfl rfl rfl (by omega)) rfl rfl rfl ?_ | refine LL.val (R.subNc rfl rfl rfl rfl (by omega) (by omega)) rfl rfl rfl ?_ | refine LL.val (R.addN rfl rfl rfl (by omega)) rfl rfl rfl ?_ | refine LL.val (R.subN rfl rfl rfl (by omega) (by omega)) rfl rfl rfl ?_ | refine LL.val (R.subcN rfl rfl rfl rfl (by omega) (by omega)) rfl rfl rfl ?_ | refine LL.val (R.addI rfl rfl rfl (by omega)) rfl rfl rfl ?_ | refine LL.val (R.subI rfl rfl rfl (by omega)) rfl rfl rfl ?_ | refine LL.val (R.mulNc rfl rfl rfl rfl (by omega)) rfl rfl rfl ?_ | refine LL.val (R.mulcN rfl rfl rfl rfl (by omega)) rfl rfl rfl ?_ | refine LL.val (R.quoNc rfl rfl rfl rfl (by omega) (by omega)) rfl rfl rfl ?_ | refine LL.val (R.remNc rfl rfl rfl rfl (by omega)) rfl rfl rfl ?_ | refine LL.val (R.mulN rfl rfl rfl (by omega)) rfl rfl rfl ?_ | refine LL.val (R.quoN rfl rfl rfl (by omega) (by omega)) rfl rfl rfl ?_ | refine LL.val (R.remN rfl rfl rfl (by omega)) rfl rfl rfl ?_ | refine LL.val (R.leT rfl rfl rfl (by omega)) rfl rfl rfl ?_ | refine LL.val (R.leF rfl rfl rfl (by omega)) rfl rfl rfl ?_ | refine LL.val (R.gtT rfl rfl rfl (by omega)) rfl rfl rfl ?_ | refine LL.val (R.gtF rfl rfl rfl (by omega)) rfl rfl rfl ?_ | refine LL.val (R.geT rfl rfl rfl (by omega)) rfl rfl rfl ?_ | refine LL.val (R.geF rfl rfl rfl (by omega)) rfl rfl rfl ?_ | refine LL.val (R.eqT rfl rfl rfl (by omega)) rfl rfl rfl ?_ | refine LL.val (R.eqF rfl rfl rfl (by omega)) rfl rfl rfl ?_ | refine LL.val (R.neT rfl rfl rfl (by omega)) rfl rfl rfl ?_ | refine LL.val (R.neF rfl rfl rfl (by omega)) rfl rfl rfl ?_ | refine LL.val (R.eqPtr rfl rfl rfl rfl rfl) rfl rfl rfl ?_ | refine LL.val (R.nePtr rfl rfl rfl rfl rfl) rfl rfl rfl ?_ | refine LL.val (R.eqSl rfl rfl rfl rfl rfl) rfl rfl rfl ?_ | refine LL.val (R.neSl rfl rfl rfl rfl rfl) rfl rfl rfl ?_ | refine LL.val (R.eqFn rfl rfl rfl rfl) rfl rfl rfl ?_ | refine LL.val (R.eqBool rfl rfl rfl rfl rfl) rfl rfl rfl ?_ | refine LL.val (R.neBool rfl rfl rfl rfl rfl) rfl rfl rfl ?_ | refine LL.val (R.xorU rfl rfl rfl (by first | omega | decide) (by first | omega | decide)) rfl rfl rfl ?_ | refine LL.val (R.addUN rfl rfl rfl (by omega)) rfl rfl rfl ?_ | refine LL.val (R.not rfl rfl) rfl rfl rfl ?_ | refine LL.val (R.lenS rfl rfl rfl rfl) rfl rfl rfl ?_ | refine LL.val (R.len rfl rfl rfl rfl) rfl rfl rfl ?_ | refine LL.val (R.pick rfl rfl rfl) rfl rfl rfl ?_ | refine LL.val (R.extract rfl rfl rfl) rfl rfl rfl ?_ | refine LL.val (R.func rfl rfl rfl) rfl rfl rfl ?_ | refine LL.val (R.slice rfl rfl rfl rfl rfl (I.slA rfl)) rfl rfl rfl ?_ | refine LL.val (R.slice rfl rfl rfl rfl rfl (I.slAto rfl (by omega))) rfl rfl rfl ?_) | refine LL.skip rfl rfl ?_))
      refine CC.quiet (by kernel_rfl) (by kernel_rfl) ?_
      (repeat (first | refine SS.nil ?_ | refine SS.nilQ ?_ | refine SS.val (R.move rfl rfl) rfl rfl ?_ | refine SS.val (R.assign rfl rfl) rfl rfl ?_ | refine SS.val (R.nil rfl rfl) rfl rfl ?_ | refine SS.val (R.field rfl rfl (I.fld rfl)) rfl rfl ?_ | refine SS.val (R.load rfl rfl (I.ld1 rfl (by assumption))) rfl rfl ?_ | refine SS.val (R.load rfl rfl (I.ld1 rfl (RowL.cell (by assumption) rfl))) rfl rfl ?_ | refine SS.val (R.index rfl rfl rfl (I.ixA1c rfl rfl (by first | omega | decide))) rfl rfl ?_ | refine SS.val (R.index rfl rfl rfl (I.ixS1c rfl rfl (by omega))) rfl rfl ?_ | refine SS.val (R.index rfl rfl rfl (I.ixAc rfl rfl (by first | omega | decide))) rfl rfl ?_ | refine SS.val (R.index rfl rfl rfl (I.ixSc rfl rfl (by omega))) rfl rfl ?_ | refine SS.val (R.index rfl rfl rfl (I.ixA1 rfl (by omega))) rfl rfl ?_ | refine SS.val (R.index rfl rfl rfl (I.ixS1 rfl (by omega))) rfl rfl ?_ | refine SS.val (R.index rfl rfl rfl (I.ixA rfl (by omega))) rfl rfl ?_ | refine SS.val (R.index rfl rfl rfl (I.ixS rfl (by omega))) rfl rfl ?_ | refine SS.val (R.ltT rfl rfl rfl (by omega)) rfl rfl ?_ | refine SS.val (R.ltF rfl rfl rfl (by omega)) rfl rfl ?_ | refine SS.val (R.addNc rfl rfl rfl rfl (by omega)) rfl rfl ?_ | refine SS.val (R.subNc rfl rfl rfl rfl (by omega) (by omega)) rfl rfl ?_ | refine SS.val (R.addN rfl rfl rfl (by omega)) rfl rfl ?_ | refine SS.val (R.subN rfl rfl rfl (by omega) (by omega)) rfl rfl ?_ | refine SS.val (R.subcN rfl rfl rfl rfl (by omega) (by omega)) rfl rfl ?_ | refine SS.val (R.addI rfl rfl rfl (by omega)) rfl rfl ?_ | refine SS.val (R.subI rfl rfl rfl (by omega)) rfl rfl ?_ | refine SS.val (R.mulNc rfl rfl rfl rfl (by omega)) rfl rfl ?_ | refine SS.val (R.mulcN rfl rfl rfl rfl (by omega)) rfl rfl ?_ | refine SS.val (R.quoNc rfl rfl rfl rfl (by omega) (by omega)) rfl rfl ?_ | refine SS.val (R.remNc rfl rfl rfl rfl (by omega)) rfl rfl ?_ | refine SS.val (R.mulN rfl rfl rfl (by omega)) rfl rfl ?_ | refine SS.val (R.quoN rfl rfl rfl (by omega) (by omega)) rfl rfl ?_ | refine SS.val (R.remN rfl rfl rfl (by omega)) rfl rfl ?_ | refine SS.val (R.leT rfl rfl rfl (by omega)) rfl rfl ?_ | refine SS.val (R.leF rfl rfl rfl (by omega)) rfl rfl ?_ | refine SS.val (R.gtT rfl rfl rfl (by omega)) rfl rfl ?_ | refine SS.val (R.gtF rfl rfl rfl (by omega)) rfl rfl ?_ | refine SS.val (R.geT rfl rfl rfl (by omega)) rfl rfl ?_ | refine SS.val (R.geF rfl rfl rfl (by omega)) rfl rfl ?_ | refine SS.val (R.eqT rfl rfl rfl (by omega)) rfl rfl ?_ | refine SS.val (R.eqF rfl rfl rfl (by omega)) rfl rfl ?_ | refine SS.val (R.neT rfl rfl rfl (by omega)) rfl rfl ?_ | refine SS.val (R.neF rfl rfl rfl (by omega)) rfl rfl ?_ | refine SS.val (R.eqPtr rfl rfl rfl rfl rfl) rfl rfl ?_ | refine SS.val (R.nePtr rfl rfl rfl rfl rfl) rfl rfl ?_ | refine SS.val (R.eqSl rfl rfl rfl rfl rfl) rfl rfl ?_ | refine SS.val (R.neSl rfl rfl rfl rfl rfl) rfl rfl ?_ | refine SS.val (R.eqFn rfl rfl rfl rfl) rfl rfl ?_ | refine SS.val (R.eqBool rfl rfl rfl rfl rfl) rfl rfl ?_ | refine SS.val (R.neBool rfl rfl rfl rfl rfl) rfl rfl ?_ | refine SS.val (R.xorU rfl rfl rfl (by first | omega | decide) (by first | omega | decide)) rfl rfl ?_ | refine SS.val (R.addUN rfl rfl rfl (by omega)) rfl rfl ?_ | refine SS.val (R.not rfl rfl) rfl rfl ?_ | refine SS.val (R.lenS rfl rfl rfl rfl) rfl rfl ?_ | refine SS.val (R.len rfl rfl rfl rfl) rfl rfl ?_ | refine SS.val (R.pick rfl rfl rfl) rfl rfl ?_ | refine SS.val (R.extract rfl rfl rfl) rfl rfl ?_ | refine SS.val (R.func rfl rfl rfl) rfl rfl ?_ | refine SS.val (R.slice rfl rfl rfl rfl rfl (I.slA rfl)) rfl rfl ?_ | refine SS.val (R.slice rfl rfl rfl rfl rfl (I.slAto rfl (by omega))) rfl rfl ?_ | refine SS.skip rfl rfl ?_))
      refine SS.val (R.load rfl rfl (I.ldN (vs := pE s) rfl rfl hc1)) rfl rfl ?_
      (repeat (first | refine SS.nil ?_ | refine SS.nilQ ?_ | refine SS.val (R.move rfl rfl) rfl rfl ?_ | refine SS.val (R.assign rfl rfl) rfl rfl ?_ | refine SS.val (R.nil rfl rfl) rfl rfl ?_ | refine SS.val (R.field rfl rfl (I.fld rfl)) rfl rfl ?_ | refine SS.val (R.load rfl rfl (I.ld1 rfl (by assumption))) rfl rfl ?_ | refine SS.val (R.load rfl rfl (I.ld1 rfl (RowL.cell (by assumption) rfl))) rfl rfl ?_ | refine SS.val (R.index rfl rfl rfl (I.ixA1c rfl rfl (by first | omega | decide))) rfl rfl ?_ | refine SS.val (R.index rfl rfl rfl (I.ixS1c rfl rfl (by omega))) rfl rfl ?_ | refine SS.val (R.index rfl rfl rfl (I.ixAc rfl rfl (by first | omega | decide))) rfl rfl ?_ | refine SS.val (R.index rfl rfl rfl (I.ixSc rfl rfl (by omega))) rfl rfl ?_ | refine SS.val (R.index rfl rfl rfl (I.ixA1 rfl (by omega))) rfl rfl ?_ | refine SS.val (R.index rfl rfl rfl (I.ixS1 rfl (by omega))) rfl rfl ?_ | refine SS.val (R.index rfl rfl rfl (I.ixA rfl (by omega))) rfl rfl ?_ | refine SS.val (R.index rfl rfl rfl (I.ixS rfl (by omega))) rfl rfl ?_ | refine SS.val (R.ltT rfl rfl rfl (by omega)) rfl rfl ?_ | refine SS.val (R.ltF rfl rfl rfl (by omega)) rfl rfl ?_ | refine SS.val (R.addNc rfl rfl rfl rfl (by omega)) rfl rfl ?_ | refine SS.val (R.subNc rfl rfl rfl rfl (by omega) (by omega)) rfl rfl ?_ | refine SS.val (R.addN rfl rfl rfl (by omega)) rfl rfl ?_ | refine SS.val (R.subN rfl rfl rfl (by omega) (by omega)) rfl rfl ?_ | refine SS.val (R.subcN rfl rfl rfl rfl (by omega) (by omega)) rfl rfl ?_ | refine SS.val (R.addI rfl rfl rfl (by omega)) rfl rfl ?_ | refine SS.val (R.subI rfl rfl rfl (by omega)) rfl rfl ?_ | refine SS.val (R.mulNc rfl rfl rfl rfl (by omega)) rfl rfl ?_ | refine SS.val (R.mulcN rfl rfl rfl rfl (by omega)) rfl rfl ?_ | refine SS.val (R.quoNc rfl rfl rfl rfl (by omega) (by omega)) rfl rfl ?_ | refine SS.val (R.remNc rfl rfl rfl rfl (by omega)) rfl rfl ?_ | refine SS.val (R.mulN rfl rfl rfl (by omega)) rfl rfl ?_ | refine SS.val (R.quoN rfl rfl rfl (by omega) (by omega)) rfl rfl ?_ | refine SS.val (R.remN rfl rfl rfl (by omega)) rfl rfl ?_ | refine SS.val (R.leT rfl rfl rfl (by omega)) rfl rfl ?_ | refine SS.val (R.leF rfl rfl rfl (by omega)) rfl rfl ?_ | refine SS.val (R.gtT rfl rfl rfl (by omega)) rfl rfl ?_ | refine SS.val (R.gtF rfl rfl rfl (by omega)) rfl rfl ?_ | refine SS.val (R.geT rfl rfl rfl (by omega)) rfl rfl ?_ | refine SS.val (R.geF rfl rfl rfl (by omega)) rfl rfl ?_ | refine SS.val (R.eqT rfl rfl rfl (by omega)) rfl rfl ?_ | refine SS.val (R.eqF rfl rfl rfl (by omega)) rfl rfl ?_ | refine SS.val (R.neT rfl rfl rfl (by omega)) rfl rfl ?_ | refine SS.val (R.neF rfl rfl rfl (by omega)) rfl rfl ?_ | refine SS.val (R.eqPtr rfl rfl rfl rfl rfl) rfl rfl ?_ | refine SS.val (R.nePtr rfl rfl rfl rfl rfl) rfl rfl ?_ | refine SS.val (R.eqSl rfl rfl rfl rfl rfl) rfl rfl ?_ | refine SS.val (R.neSl rfl rfl rfl rfl rfl) rfl rfl ?_ | refine SS.val (R.eqFn rfl rfl rfl rfl) rfl rfl ?_ | refine SS.val (R.eqBool rfl rfl rfl rfl rfl) rfl rfl ?_ | refine SS.val (R.neBool rfl rfl rfl rfl rfl) rfl rfl ?_ | refine SS.val (R.xorU rfl rfl rfl (by first | omega | decide) (by first | omega | decide)) rfl rfl ?_ | refine SS.val (R.addUN rfl rfl rfl (by omega)) rfl rfl ?_ | refine SS.val (R.not rfl rfl) rfl rfl ?_ | refine SS.val (R.lenS rfl rfl rfl rfl) rfl rfl ?_ | refine SS.val (R.len rfl rfl rfl rfl) rfl rfl ?_ | refine SS.val (R.pick rfl rfl rfl) rfl rfl ?_ | refine SS.val (R.extract rfl rfl rfl) rfl rfl ?_ | refine SS.val (R.func rfl rfl rfl) rfl rfl ?_ | refine SS.val (R.slice rfl rfl rfl rfl rfl (I.slA rfl)) rfl rfl ?_ | refine SS.val (R.slice rfl rfl rfl rfl rfl (I.slAto rfl (by omega))) rfl rfl ?_ | refine SS.skip rfl rfl ?_))
      refine SS.val (R.load rfl rfl (I.ldN (vs := pE t) rfl rfl hc3)) rfl rfl ?_
      by_cases hst : s = t
      · refine SS.val (R.nePut (b := false) rfl rfl rfl (by simp [hst])) rfl rfl ?_
        (repeat (first | refine SS.nil ?_ | refine SS.nilQ ?_ | refine SS.val (R.move rfl rfl) rfl rfl ?_ | refine SS.val (R.assign rfl rfl) rfl rfl ?_ | refine SS.val (R.nil rfl rfl) rfl rfl ?_ | refine SS.val (R.field rfl rfl (I.fld rfl)) rfl rfl ?_ | refine SS.val (R.load rfl rfl (I.ld1 rfl (by assumption))) rfl rfl ?_ | refine SS.val (R.load rfl rfl (I.ld1 rfl (RowL.cell (by assumption) rfl))) rfl rfl ?_ | refine SS.val (R.index rfl rfl rfl (I.ixA1c rfl rfl (by first | omega | decide))) rfl rfl ?_ | refine SS.val (R.index rfl rfl rfl (I.ixS1c rfl rfl (by omega))) rfl rfl ?_ | refine SS.val (R.index rfl rfl rfl (I.ixAc rfl rfl (by first | omega | decide))) rfl rfl ?_ | refine SS.val (R.index rfl rfl rfl (I.ixSc rfl rfl (by omega))) rfl rfl ?_ | refine SS.val (R.index rfl rfl rfl (I.ixA1 rfl (by omega))) rfl rfl ?_ | refine SS.val (R.index rfl rfl rfl (I.ixS1 rfl (by omega))) rfl rfl ?_ | refine SS.val (R.index rfl rfl rfl (I.ixA rfl (by omega))) rfl rfl ?_ | refine SS.val (R.index rfl rfl rfl (I.ixS rfl (by omega))) rfl rfl ?_ | refine SS.val (R.ltT rfl rfl rfl (by omega)) rfl rfl ?_ | refine SS.val (R.ltF rfl rfl rfl (by omega)) rfl rfl ?_ | refine SS.val (R.addNc rfl rfl rfl rfl (by omega)) rfl rfl ?_ | refine SS.val (R.subNc rfl rfl rfl rfl (by omega) (by omega)) rfl rfl ?_ | refine SS.val (R.addN rfl rfl rfl (by omega)) rfl rfl ?_ | refine SS.val (R.subN rfl rfl rfl (by omega) (by omega)) rfl rfl ?_ | refine SS.val (R.subcN rfl rfl rfl rfl (by omega) (by omega)) rfl rfl ?_ | refine SS.val (R.addI rfl rfl rfl (by omega)) rfl rfl ?_ | refine SS.val (R.subI rfl rfl rfl (by omega)) rfl rfl ?_ | refine SS.val (R.mulNc rfl rfl rfl rfl (by omega)) rfl rfl ?_ | refine SS.val (R.mulcN rfl rfl rfl rfl (by omega)) rfl rfl ?_ | refine SS.val (R.quoNc rfl rfl rfl rfl (by omega) (by omega)) rfl rfl ?_ | refine SS.val (R.remNc rfl rfl rfl rfl (by omega)) rfl rfl ?_ | refine SS.val (R.mulN rfl rfl rfl (by omega)) rfl rfl ?_ | refine SS.val (R.quoN rfl rfl rfl (by omega) (by omega)) rfl rfl ?_ | refine SS.val (R.remN rfl rfl rfl (by omega)) rfl rfl ?_ | refine SS.val (R.leT rfl rfl rfl (by omega)) rfl rfl ?_ | refine SS.val (R.leF rfl rfl rfl (by omega)) rfl rfl ?_ | refine SS.val (R.gtT rfl rfl rfl (by omega)) rfl rfl ?_ | refine SS.val (R.gtF rfl rfl rfl (by omega)) rfl rfl ?_ | refine SS.val (R.geT rfl rfl rfl (by omega)) rfl rfl ?_ | refine SS.val (R.geF rfl rfl rfl (by omega)) rfl rfl ?_ | refine SS.val (R.eqT rfl rfl rfl (by omega)) rfl rfl ?_ | refine SS.val (R.eqF rfl rfl rfl (by omega)) rfl rfl ?_ | refine SS.val (R.neT rfl rfl rfl (by omega)) rfl rfl ?_ | refine SS.val (R.neF rfl rfl rfl (by omega)) rfl rfl ?_ | refine SS.val (R.eqPtr rfl rfl rfl rfl rfl) rfl rfl ?_ | refine SS.val (R.nePtr rfl rfl rfl rfl rfl) rfl rfl ?_ | refine SS.val (R.eqSl rfl rfl rfl rfl rfl) rfl rfl ?_ | refine SS.val (R.neSl rfl rfl rfl rfl rfl) rfl rfl ?_ | refine SS.val (R.eqFn rfl rfl rfl rfl) rfl rfl ?_ | refine SS.val (R.eqBool rfl rfl rfl rfl rfl) rfl rfl ?_ | refine SS.val (R.neBool rfl rfl rfl rfl rfl) rfl rfl ?_ | refine SS.val (R.xorU rfl rfl rfl (by first | omega | decide) (by first | omega | decide)) rfl rfl ?_ | refine SS.val (R.addUN rfl rfl rfl (by omega)) rfl rfl ?_ | refine SS.val (R.not rfl rfl) rfl rfl ?_ | refine SS.val (R.lenS rfl rfl rfl rfl) rfl rfl ?_ | refine SS.val (R.len rfl rfl rfl rfl) rfl rfl ?_ | refine SS.val (R.pick rfl rfl rfl) rfl rfl ?_ | refine SS.val (R.extract rfl rfl rfl) rfl rfl ?_ | refine SS.val (R.func rfl rfl rfl) rfl rfl ?_ | refine SS.val (R.slice rfl rfl rfl rfl rfl (I.slA rfl)) rfl rfl ?_ | refine SS.val (R.slice rfl rfl rfl rfl rfl (I.slAto rfl (by omega))) rfl rfl ?_ | refine SS.skip rfl rfl ?_))
        (repeat (first | (first | refine CC.seq ?_ | refine CC.region ?_ | refine LL.nilS ?_ | refine CC.yes rfl ?_ | refine CC.no rfl ?_ | refine CC.block ?_ | refine EE.thenN ?_ | refine LL.nil ?_ | refine CC.exit ?_ | refine CC.ret ?_ | refine CC.skip ?_ | refine EE.thenX ?_ | refine EE.thenR ?_ | refine EE.inN ?_ | refine EE.inX ?_ | refine EE.inX' rfl ?_ | refine EE.inR ?_ | refine CC.label ?_ | refine EE.thenG ?_ | refine EE.inG ?_) | (first | refine LL.val (R.move rfl rfl) rfl rfl rfl ?_ | refine LL.val (R.assign rfl rfl) rfl rfl rfl ?_ | refine LL.val (R.nil rfl rfl) rfl rfl rfl ?_ | refine LL.val (R.field rfl rfl (I.fld rfl)) rfl rfl rfl ?_ | refine LL.val (R.load rfl rfl (I.ld1 rfl (by assumption))) rfl rfl rfl ?_ | refine LL.val (R.load rfl rfl (I.ld1 rfl (RowL.cell (by assumption) rfl))) rfl rfl rfl ?_ | refine LL.val (R.index rfl rfl rfl (I.ixA1c rfl rfl (by first | omega | decide))) rfl rfl rfl ?_ | refine LL.val (R.index rfl rfl rfl (I.ixS1c rfl rfl (by omega))) rfl rfl rfl ?_ | refine LL.val (R.index rfl rfl rfl (I.ixAc rfl rfl (by first | omega | decide))) rfl rfl rfl ?_ | refine LL.val (R.index rfl rfl rfl (I.ixSc rfl rfl (by omega))) rfl rfl rfl ?_ | refine LL.val (R.index rfl rfl rfl (I.ixA1 rfl (by omega))) rfl rfl rfl ?_ | refine LL.val (R.index rfl rfl rfl (I.ixS1 rfl (by omega))) rfl rfl rfl ?_ | refine LL.val (R.index rfl rfl rfl (I.ixA rfl (by omega))) rfl rfl rfl ?_ | refine LL.val (R.index rfl rfl rfl (I.ixS rfl (by omega))) rfl rfl rfl ?_ | refine LL.val (R.ltT rfl rfl rfl (by omega)) rfl rfl rfl ?_ | refine LL.val (R.ltF rfl rfl rfl (by omega)) rfl rfl rfl ?_ | refine LL.val (R.addNc rfl rfl rfl rfl (by omega)) rfl rfl rfl ?_ | refine LL.val (R.subNc rfl rfl rfl rfl (by omega) (by omega)) rfl rfl rfl ?_ | refine LL.val (R.addN rfl rfl rfl (by omega)) rfl rfl rfl ?_ | refine LL.val (R.subN rfl rfl rfl (by omega) (by omega)) rfl rfl rfl ?_ | refine LL.val (R.subcN rfl rfl rfl rfl (by omega) (by omega)) rfl rfl rfl ?_ | refine LL.val (R.addI rfl rfl rfl (by omega)) rfl rfl rfl ?_ | refine LL.val (R.subI rfl rfl rfl (by omega)) rfl rfl rfl ?_ | refine LL.val (R.mulNc rfl rfl rfl rfl (by omega)) rfl rfl rfl ?_ | refine LL.val (R.mulcN rfl rfl rfl rfl (by omega)) rfl rfl rfl ?_ | refine LL.val (R.quoNc rfl rfl rfl rfl (by omega) (by omega)) rfl rfl rfl ?_ | refine LL.val (R.remNc rfl rfl rfl rfl (by omega)) rfl rfl rfl ?_ | refine LL.val (R.mulN rfl rfl rfl (by omega)) rfl rfl rfl ?_ | refine LL.val (R.quoN rfl rfl rfl (by omega) (by omega)) rfl rfl rfl ?_ | refine LL.val (R.remN rfl rfl rfl (by omega)) rfl rfl rfl ?_ | refine LL.val (R.leT rfl rfl rfl (by omega)) rfl rfl rfl ?_ | refine LL.val (R.leF rfl rfl rfl (by omega)) rfl rfl rfl ?_ | refine LL.val (R.gtT rfl rfl rfl (by omega)) rfl rfl rfl ?_ | refine LL.val (R.gtF rfl rfl rfl (by omega)) rfl rfl rfl ?_ | refine LL.val (R.geT rfl rfl rfl (by omega)) rfl rfl rfl ?_ | refine LL.val (R.geF rfl rfl rfl (by omega)) rfl rfl rfl ?_ | refine LL.val (R.eqT rfl rfl rfl (by omega)) rfl rfl rfl ?_ | refine LL.val (R.eqF rfl rfl rfl (by omega)) rfl rfl rfl ?_ | refine LL.val (R.neT rfl rfl rfl (by omega)) rfl rfl rfl ?_ | refine LL.val (R.neF rfl rfl rfl (by omega)) rfl rfl rfl ?_ | refine LL.val (R.eqPtr rfl rfl rfl rfl rfl) rfl rfl rfl ?_ | refine LL.val (R.nePtr rfl rfl rfl rfl rfl) rfl rfl rfl ?_ | refine LL.val (R.eqSl rfl rfl rfl rfl rfl) rfl rfl rfl ?_ | refine LL.val (R.neSl rfl rfl rfl rfl rfl) rfl rfl rfl ?_ | refine LL.val (R.eqFn rfl rfl rfl rfl) rfl rfl rfl ?_ | refine LL.val (R.eqBool rfl rfl rfl rfl rfl) rfl rfl rfl ?_ | refine LL.val (R.neBool rfl rfl rfl rfl rfl) rfl rfl rfl ?_ | refine LL.val (R.xorU rfl rfl rfl (by first | omega | decide) (by first | omega | decide)) rfl rfl rfl ?_ | refine LL.val (R.addUN rfl rfl rfl (by omega)) rfl rfl rfl ?_ | refine LL.val (R.not rfl rfl) rfl rfl rfl ?_ | refine LL.val (R.lenS rfl rfl rfl rfl) rfl rfl rfl ?_ | refine LL.val (R.len rfl rfl rfl rfl) rfl rfl rfl ?_ | refine LL.val (R.pick rfl rfl rfl) rfl rfl rfl ?_ | refine LL.val (R.extract rfl rfl rfl) rfl rfl rfl ?_ | refine LL.val (R.func rfl rfl rfl) rfl rfl rfl ?_ | refine LL.val (R.slice rfl rfl rfl rfl rfl (I.slA rfl)) rfl rfl rfl ?_ | refine LL.val (R.slice rfl rfl rfl rfl rfl (I.slAto rfl (by omega))) rfl rfl rfl ?_) | refine LL.skip rfl rfl ?_))
        exact EE.round (i + 1) ⟨rfl, rfl, rfl, rfl, trivial⟩ ⟨hbw.drew, by omega, by rw [List.take_add_one, List.take_add_one, ht, hs, ht2, hst]⟩ (by omega)
      · refine SS.val (R.nePut (b := true) rfl rfl rfl (by simp [hst])) rfl rfl ?_
        (repeat (first | refine SS.nil ?_ | refine SS.nilQ ?_ | refine SS.val (R.move rfl rfl) rfl rfl ?_ | refine SS.val (R.assign rfl rfl) rfl rfl ?_ | refine SS.val (R.nil rfl rfl) rfl rfl ?_ | refine SS.val (R.field rfl rfl (I.fld rfl)) rfl rfl ?_ | refine SS.val (R.load rfl rfl (I.ld1 rfl (by assumption))) rfl rfl ?_ | refine SS.val (R.load rfl rfl (I.ld1 rfl (RowL.cell (by assumption) rfl))) rfl rfl ?_ | refine SS.val (R.index rfl rfl rfl (I.ixA1c rfl rfl (by first | omega | decide))) rfl rfl ?_ | refine SS.val (R.index rfl rfl rfl (I.ixS1c rfl rfl (by omega))) rfl rfl ?_ | refine SS.val (R.index rfl rfl rfl (I.ixAc rfl rfl (by first | omega | decide))) rfl rfl ?_ | refine SS.val (R.index rfl rfl rfl (I.ixSc rfl rfl (by omega))) rfl rfl ?_ | refine SS.val (R.index rfl rfl rfl (I.ixA1 rfl (by omega))) rfl rfl ?_ | refine SS.val (R.index rfl rfl rfl (I.ixS1 rfl (by omega))) rfl rfl ?_ | refine SS.val (R.index rfl rfl rfl (I.ixA rfl (by omega))) rfl rfl ?_ | refine SS.val (R.index rfl rfl rfl (I.ixS rfl (by omega))) rfl rfl ?_ | refine SS.val (R.ltT rfl rfl rfl (by omega)) rfl rfl ?_ | refine SS.val (R.ltF rfl rfl rfl (by omega)) rfl rfl ?_ | refine SS.val (R.addNc rfl rfl rfl rfl (by omega)) rfl rfl ?_ | refine SS.val (R.subNc rfl rfl rfl rfl (by omega) (by omega)) rfl rfl ?_ | refine SS.val (R.addN rfl rfl rfl (by omega)) rfl rfl ?_ | refine SS.val (R.subN rfl rfl rfl (by omega) (by omega)) rfl rfl ?_ | refine SS.val (R.subcN rfl rfl rfl rfl (by omega) (by omega)) rfl rfl ?_ | refine SS.val (R.addI rfl rfl rfl (by omega)) rfl rfl ?_ | refine SS.val (R.subI rfl rfl rfl (by omega)) rfl rfl ?_ | refine SS.val (R.mulNc rfl rfl rfl rfl (by omega)) rfl rfl ?_ | refine SS.val (R.mulcN rfl rfl rfl rfl (by omega)) rfl rfl ?_ | refine SS.val (R.quoNc rfl rfl rfl rfl (by omega) (by omega)) rfl rfl ?_ | refine SS.val (R.remNc rfl rfl rfl rfl (by omega)) rfl rfl ?_ | refine SS.val (R.mulN rfl rfl rfl (by omega)) rfl rfl ?_ | refine SS.val (R.quoN rfl rfl rfl (by omega) (by omega)) rfl rfl ?_ | refine SS.val (R.remN rfl rfl rfl (by omega)) rfl rfl ?_ | refine SS.val (R.leT rfl rfl rfl (by omega)) rfl rfl ?_ | refine SS.val (R.leF rfl rfl rfl (by omega)) rfl rfl ?_ | refine SS.val (R.gtT rfl rfl rfl (by omega)) rfl rfl ?_ | refine SS.val (R.gtF rfl rfl rfl (by omega)) rfl rfl ?_ | refine SS.val (R.geT rfl rfl rfl (by omega)) rfl rfl ?_ | refine SS.val (R.geF rfl rfl rfl (by omega)) rfl rfl ?_ | refine SS.val (R.eqT rfl rfl rfl (by omega)) rfl rfl ?_ | refine SS.val (R.eqF rfl rfl rfl (by omega)) rfl rfl ?_ | refine SS.val (R.neT rfl rfl rfl (by omega)) rfl rfl ?_ | refine SS.val (R.neF rfl rfl rfl (by omega)) rfl rfl ?_ | refine SS.val (R.eqPtr rfl rfl rfl rfl rfl) rfl rfl ?_ | refine SS.val (R.nePtr rfl rfl rfl rfl rfl) rfl rfl ?_ | refine SS.val (R.eqSl rfl rfl rfl rfl rfl) rfl rfl ?_ | refine SS.val (R.neSl rfl rfl rfl rfl rfl) rfl rfl ?_ | refine SS.val (R.eqFn rfl rfl rfl rfl) rfl rfl ?_ | refine SS.val (R.eqBool rfl rfl rfl rfl rfl) rfl rfl ?_ | refine SS.val (R.neBool rfl rfl rfl rfl rfl) rfl rfl ?_ | refine SS.val (R.xorU rfl rfl rfl (by first | omega | decide) (by first | omega | decide)) rfl rfl ?_ | refine SS.val (R.addUN rfl rfl rfl (by omega)) rfl rfl ?_ | refine SS.val (R.not rfl rfl) rfl rfl ?_ | refine SS.val (R.lenS rfl rfl rfl rfl) rfl rfl ?_ | refine SS.val (R.len rfl rfl rfl rfl) rfl rfl ?_ | refine SS.val (R.pick rfl rfl rfl) rfl rfl ?_ | refine SS.val (R.extract rfl rfl rfl) rfl rfl ?_ | refine SS.val (R.func rfl rfl rfl) rfl rfl ?_ | refine SS.val (R.slice rfl rfl rfl rfl rfl (I.slA rfl)) rfl rfl ?_ | refine SS.val (R.slice rfl rfl rfl rfl rfl (I.slAto rfl (by omega))) rfl rfl ?_ | refine SS.skip rfl rfl ?_))
        (repeat (first | (first | refine CC.seq ?_ | refine CC.region ?_ | refine LL.nilS ?_ | refine CC.yes rfl ?_ | refine CC.no rfl ?_ | refine CC.block ?_ | refine EE.thenN ?_ | refine LL.nil ?_ | refine CC.exit ?_ | refine CC.ret ?_ | refine CC.skip ?_ | refine EE.thenX ?_ | refine EE.thenR ?_ | refine EE.inN ?_ | refine EE.inX ?_ | refine EE.inX' rfl ?_ | refine EE.inR ?_ | refine CC.label ?_ | refine EE.thenG ?_ | refine EE.inG ?_) | (first | refine LL.val (R.move rfl rfl) rfl rfl rfl ?_ | refine LL.val (R.assign rfl rfl) rfl rfl rfl ?_ | refine LL.val (R.nil rfl rfl) rfl rfl rfl ?_ | refine LL.val (R.field rfl rfl (I.fld rfl)) rfl rfl rfl ?_ | refine LL.val (R.load rfl rfl (I.ld1 rfl (by assumption))) rfl rfl rfl ?_ | refine LL.val (R.load rfl rfl (I.ld1 rfl (RowL.cell (by assumption) rfl))) rfl rfl rfl ?_ | refine LL.val (R.index rfl rfl rfl (I.ixA1c rfl rfl (by first | omega | decide))) rfl rfl rfl ?_ | refine LL.val (R.index rfl rfl rfl (I.ixS1c rfl rfl (by omega))) rfl rfl rfl ?_ | refine LL.val (R.index rfl rfl rfl (I.ixAc rfl rfl (by first | omega | decide))) rfl rfl rfl ?_ | refine LL.val (R.index rfl rfl rfl (I.ixSc rfl rfl (by omega))) rfl rfl rfl ?_ | refine LL.val (R.index rfl rfl rfl (I.ixA1 rfl (by omega))) rfl rfl rfl ?_ | refine LL.val (R.index rfl rfl rfl (I.ixS1 rfl (by omega))) rfl rfl rfl ?_ | refine LL.val (R.index rfl rfl rfl (I.ixA rfl (by omega))) rfl rfl rfl ?_ | refine LL.val (R.index rfl rfl rfl (I.ixS rfl (by omega))) rfl rfl rfl ?_ | refine LL.val (R.ltT rfl rfl rfl (by omega)) rfl rfl rfl ?_ | refine LL.val (R.ltF rfl rfl rfl (by omega)) rfl rfl rfl ?_ | refine LL.val (R.addNc rfl rfl rfl rfl (by omega)) rfl rfl rfl ?_ | refine LL.val (R.subNc rfl rfl rfl rfl (by omega) (by omega)) rfl rfl rfl ?_ | refine LL.val (R.addN rfl rfl rfl (by omega)) rfl rfl rfl ?_ | refine LL.val (R.subN rfl rfl rfl (by omega) (by omega)) rfl rfl rfl ?_ | refine LL.val (R.subcN rfl rfl rfl rfl (by omega) (by omega)) rfl rfl rfl ?_ | refine LL.val (R.addI rfl rfl rfl (by omega)) rfl rfl rfl ?_ | refine LL.val (R.subI rfl rfl rfl (by omega)) rfl rfl rfl ?_ | refine LL.val (R.mulNc rfl rfl rfl rfl (by omega)) rfl rfl rfl ?_ | refine LL.val (R.mulcN rfl rfl rfl rfl (by omega)) rfl rfl rfl ?_ | refine LL.val (R.quoNc rfl rfl rfl rfl (by omega) (by omega)) rfl rfl rfl ?_ | refine LL.val (R.remNc rfl rfl rfl rfl (by omega)) rfl rfl rfl ?_ | refine LL.val (R.mulN rfl rfl rfl (by omega)) rfl rfl rfl ?_ | refine LL.val (R.quoN rfl rfl rfl (by omega) (by omega)) rfl rfl rfl ?_ | refine LL.val (R.remN rfl rfl rfl (by omega)) rfl rfl rfl ?_ | refine LL.val (R.leT rfl rfl rfl (by omega)) rfl rfl rfl ?_ | refine LL.val (R.leF rfl rfl rfl (by omega)) rfl rfl rfl ?_ | refine LL.val (R.gtT rfl rfl rfl (by omega)) rfl rfl rfl ?_ | refine LL.val (R.gtF rfl rfl rfl (by omega)) rfl rfl rfl ?_ | refine LL.val (R.geT rfl rfl rfl (by omega)) rfl rfl rfl ?_ | refine LL.val (R.geF rfl rfl rfl (by omega)) rfl rfl rfl ?_ | refine LL.val (R.eqT rfl rfl rfl (by omega)) rfl rfl rfl ?_ | refine LL.val (R.eqF rfl rfl rfl (by omega)) rfl rfl rfl ?_ | refine LL.val (R.neT rfl rfl rfl (by omega)) rfl rfl rfl ?_ | refine LL.val (R.neF rfl rfl rfl (by omega)) rfl rfl rfl ?_ | refine LL.val (R.eqPtr rfl rfl rfl rfl rfl) rfl rfl rfl ?_ | refine LL.val (R.nePtr rfl rfl rfl rfl rfl) rfl rfl rfl ?_ | refine LL.val (R.eqSl rfl rfl rfl rfl rfl) rfl rfl rfl ?_ | refine LL.val (R.neSl rfl rfl rfl rfl rfl) rfl rfl rfl ?_ | refine LL.val (R.eqFn rfl rfl rfl rfl) rfl rfl rfl ?_ | refine LL.val (R.eqBool rfl rfl rfl rfl rfl) rfl rfl rfl ?_ | refine LL.val (R.neBool rfl rfl rfl rfl rfl) rfl rfl rfl ?_ | refine LL.val (R.xorU rfl rfl rfl (by first | omega | decide) (by first | omega | decide)) rfl rfl rfl ?_ | refine LL.val (R.addUN rfl rfl rfl (by omega)) rfl rfl rfl ?_ | refine LL.val (R.not rfl rfl) rfl rfl rfl ?_ | refine LL.val (R.lenS rfl rfl rfl rfl) rfl rfl rfl ?_ | refine LL.val (R.len rfl rfl rfl rfl) rfl rfl rfl ?_ | refine LL.val (R.pick rfl rfl rfl) rfl rfl rfl ?_ | refine LL.val (R.extract rfl rfl rfl) rfl rfl rfl ?_ | refine LL.val (R.func rfl rfl rfl) rfl rfl rfl ?_ | refine LL.val (R.slice rfl rfl rfl rfl rfl (I.slA rfl)) rfl rfl rfl ?_ | refine LL.val (R.slice rfl rfl rfl rfl rfl (I.slAto rfl (by omega))) rfl rfl rfl ?_) | refine LL.skip rfl rfl ?_))
        refine EE.ret _ rfl rfl ?_
        refine ⟨?_, hbw.drew⟩
        have : xs ≠ ys := fun e => hst (by rw [e, ht2] at hs; exact (Option.some.inj hs).symm)
        simp [resV, this]
    · obtain rfl : i = N := by omega
      rw [List.take_of_length_le (by omega), List.take_of_length_le (by omega)] at ht
      (repeat (first | (first | refine CC.seq ?_ | refine CC.region ?_ | refine LL.nilS ?_ | refine CC.yes rfl ?_ | refine CC.no rfl ?_ | refine CC.block ?_ | refine EE.thenN ?_ | refine LL.nil ?_ | refine CC.exit ?_ | refine CC.ret ?_ | refine CC.skip ?_ | refine EE.thenX ?_ | refine EE.thenR ?_ | refine EE.inN ?_ | refine EE.inX ?_ | refine EE.inX' rfl ?_ | refine EE.inR ?_ | refine CC.label ?_ | refine EE.thenG ?_ | refine EE.inG ?_) | (first | refine LL.val (R.move rfl rfl) rfl rfl rfl ?_ | refine LL.val (R.assign rfl rfl) rfl rfl rfl ?_ | refine LL.val (R.nil rfl rfl) rfl rfl rfl ?_ | refine LL.val (R.field rfl rfl (I.fld rfl)) rfl rfl rfl ?_ | refine LL.val (R.load rfl rfl (I.ld1 rfl (by assumption))) rfl rfl rfl ?_ | refine LL.val (R.load rfl rfl (I.ld1 rfl (RowL.cell (by assumption) rfl))) rfl rfl rfl ?_ | refine LL.val (R.index rfl rfl rfl (I.ixA1c rfl rfl (by first | omega | decide))) rfl rfl rfl ?_ | refine LL.val (R.index rfl rfl rfl (I.ixS1c rfl rfl (by omega))) rfl rfl rfl ?_ | refine LL.val (R.index rfl rfl rfl (I.ixAc rfl rfl (by first | omega | decide))) rfl rfl rfl ?_ | refine LL.val (R.index rfl rfl rfl (I.ixSc rfl rfl (by omega))) rfl rfl rfl ?_ | refine LL.val (R.index rfl rfl rfl (I.ixA1 rfl (by omega))) rfl rfl rfl ?_ | refine LL.val (R.index rfl rfl rfl (I.ixS1 rfl (by omega))) rfl rfl rfl ?_ | refine LL.val (R.index rfl rfl rfl (I.ixA rfl (by omega))) rfl rfl rfl ?_ | refine LL.val (R.index rfl rfl rfl (I.ixS rfl (by omega))) rfl rfl rfl ?_ | refine LL.val (R.ltT rfl rfl rfl (by omega)) rfl rfl rfl ?_ | refine LL.val (R.ltF rfl rfl rfl (by omega)) rfl rfl rfl ?_ | refine LL.val (R.addNc rfl rfl rfl rfl (by omega)) rfl rfl rfl ?_ | refine LL.val (R.subNc rfl rfl rfl rfl (by omega) (by omega)) rfl rfl rfl ?_ | refine LL.val (R.addN rfl rfl rfl (by omega)) rfl rfl rfl ?_ | refine LL.val (R.subN rfl rfl rfl (by omega) (by omega)) rfl rfl rfl ?_ | refine LL.val (R.subcN rfl rfl rfl rfl (by omega) (by omega)) rfl rfl rfl ?_ | refine LL.val (R.addI rfl rfl rfl (by omega)) rfl rfl rfl ?_ | refine LL.val (R.subI rfl rfl rfl (by omega)) rfl rfl rfl ?_ | refine LL.val (R.mulNc rfl rfl rfl rfl (by omega)) rfl rfl rfl ?_ | refine LL.val (R.mulcN rfl rfl rfl rfl (by omega)) rfl rfl rfl ?_ | refine LL.val (R.quoNc rfl rfl rfl rfl (by omega) (by omega)) rfl rfl rfl ?_ | refine LL.val (R.remNc rfl rfl rfl rfl (by omega)) rfl rfl rfl ?_ | refine LL.val (R.mulN rfl rfl rfl (by omega)) rfl rfl rfl ?_ | refine LL.val (R.quoN rfl rfl rfl (by omega) (by omega)) rfl rfl rfl ?_ | refine LL.val (R.remN rfl rfl rfl (by omega)) rfl rfl rfl ?_ | refine LL.val (R.leT rfl rfl rfl (by omega)) rfl rfl rfl ?_ | refine LL.val (R.leF rfl rfl rfl (by omega)) rfl rfl rfl ?_ | refine LL.val (R.gtT rfl rfl rfl (by omega)) rfl rfl rfl ?_ | refine LL.val (R.gtF rfl rfl rfl (by omega)) rfl rfl rfl ?_ | refine LL.val (R.geT rfl rfl rfl (by omega)) rfl rfl rfl ?_ | refine LL.val (R.geF rfl rfl rfl (by omega)) rfl rfl rfl ?_ | refine LL.val (R.eqT rfl rfl rfl (by omega)) rfl rfl rfl ?_ | refine LL.val (R.eqF rfl rfl rfl (by omega)) rfl rfl rfl ?_ | refine LL.val (R.neT rfl rfl rfl (by omega)) rfl rfl rfl ?_ | refine LL.val (R.neF rfl rfl rfl (by omega)) rfl rfl rfl ?_ | refine LL.val (R.eqPtr rfl rfl rfl rfl rfl) rfl rfl rfl ?_ | refine LL.val (R.nePtr rfl rfl rfl rfl rfl) rfl rfl rfl ?_ | refine LL.val (R.eqSl rfl rfl rfl rfl rfl) rfl rfl rfl ?_ | refine LL.val (R.neSl rfl rfl rfl rfl rfl) rfl rfl rfl ?_ | refine LL.val (R.eqFn rfl rfl rfl rfl) rfl rfl rfl ?_ | refine LL.val (R.eqBool rfl rfl rfl rfl rfl) rfl rfl rfl ?_ | refine LL.val (R.neBool rfl rfl rfl rfl rfl) rfl rfl rfl ?_ | refine LL.val (R.xorU rfl rfl rfl (by first | omega | decide) (by first | omega | decide)) rfl rfl rfl ?_ | refine LL.val (R.addUN rfl rfl rfl (by omega)) rfl rfl rfl ?_ | refine LL.val (R.not rfl rfl) rfl rfl rfl ?_ | refine LL.val (R.lenS rfl rfl rfl rfl) rfl rfl rfl ?_ | refine LL.val (R.len rfl rfl rfl rfl) rfl rfl rfl ?_ | refine LL.val (R.pick rfl rfl rfl) rfl rfl rfl ?_ | refine LL.val (R.extract rfl rfl rfl) rfl rfl rfl ?_ | refine LL.val (R.func rfl rfl rfl) rfl rfl rfl ?_ | refine LL.val (R.slice rfl rfl rfl rfl rfl (I.slA rfl)) rfl rfl rfl ?_ | refine LL.val (R.slice rfl rfl rfl rfl rfl (I.slAto rfl (by omega))) rfl rfl rfl ?_) | refine LL.skip rfl rfl ?_))
      refine EE.ret _ rfl rfl ?_
      exact ⟨by simp [resV, ht], hbw⟩
  · (repeat (first | (first | refine CC.seq ?_ | refine CC.region ?_ | refine LL.nilS ?_ | refine CC.yes rfl ?_ | refine CC.no rfl ?_ | refine CC.block ?_ | refine EE.thenN ?_ | refine LL.nil ?_ | refine CC.exit ?_ | refine CC.ret ?_ | refine CC.skip ?_ | refine EE.thenX ?_ | refine EE.thenR ?_ | refine EE.inN ?_ | refine EE.inX ?_ | refine EE.inX' rfl ?_ | refine EE.inR ?_ | refine CC.label ?_ | refine EE.thenG ?_ | refine EE.inG ?_) | (first | refine LL.val (R.move rfl rfl) rfl rfl rfl ?_ | refine LL.val (R.assign rfl rfl) rfl rfl rfl ?_ | refine LL.val (R.nil rfl rfl) rfl rfl rfl ?_ | refine LL.val (R.field rfl rfl (I.fld rfl)) rfl rfl rfl ?_ | refine LL.val (R.load rfl rfl (I.ld1 rfl (by assumption))) rfl rfl rfl ?_ | refine LL.val (R.load rfl rfl (I.ld1 rfl (RowL.cell (by assumption) rfl))) rfl rfl rfl ?_ | refine LL.val (R.index rfl rfl rfl (I.ixA1c rfl rfl (by first | omega | decide))) rfl rfl rfl ?_ | refine LL.val (R.index rfl rfl rfl (I.ixS1c rfl rfl (by omega))) rfl rfl rfl ?_ | refine LL.val (R.index rfl rfl rfl (I.ixAc rfl rfl (by first | omega | decide))) rfl rfl rfl ?_ | refine LL.val (R.index rfl rfl rfl (I.ixSc rfl rfl (by omega))) rfl rfl rfl ?_ | refine LL.val (R.index rfl rfl rfl (I.ixA1 rfl (by omega))) rfl rfl rfl ?_ | refine LL.val (R.index rfl rfl rfl (I.ixS1 rfl (by omega))) rfl rfl rfl ?_ | refine LL.val (R.index rfl rfl rfl (I.ixA rfl (by omega))) rfl rfl rfl ?_ | refine LL.val (R.index rfl rfl rfl (I.ixS rfl (by omega))) rfl rfl rfl ?_ | refine LL.val (R.ltT rfl rfl rfl (by omega)) rfl rfl rfl ?_ | refine LL.val (R.ltF rfl rfl rfl (by omega)) rfl rfl rfl ?_ | refine LL.val (R.addNc rfl rfl rfl rfl (by omega)) rfl rfl rfl ?_ | refine LL.val (R.subNc rfl rfl rfl rfl (by omega) (by omega)) rfl rfl rfl ?_ | refine LL.val (R.addN rfl rfl rfl (by omega)) rfl rfl rfl ?_ | refine LL.val (R.subN rfl rfl rfl (by omega) (by omega)) rfl rfl rfl ?_ | refine LL.val (R.subcN rfl rfl rfl rfl (by omega) (by omega)) rfl rfl rfl ?_ | refine LL.val (R.addI rfl rfl rfl (by omega)) rfl rfl rfl ?_ | refine LL.val (R.subI rfl rfl rfl (by omega)) rfl rfl rfl ?_ | refine LL.val (R.mulNc rfl rfl rfl rfl (by omega)) rfl rfl rfl ?_ | refine LL.val (R.mulcN rfl rfl rfl rfl (by omega)) rfl rfl rfl ?_ | refine LL.val (R.quoNc rfl rfl rfl rfl (by omega) (by omega)) rfl rfl rfl ?_ | refine LL.val (R.remNc rfl rfl rfl rfl (by omega)) rfl rfl rfl ?_ | refine LL.val (R.mulN rfl rfl rfl (by omega)) rfl rfl rfl ?_ | refine LL.val (R.quoN rfl rfl rfl (by omega) (by omega)) rfl rfl rfl ?_ | refine LL.val (R.remN rfl rfl rfl (by omega)) rfl rfl rfl ?_ | refine LL.val (R.leT rfl rfl rfl (by omega)) rfl rfl rfl ?_ | refine LL.val (R.leF rfl rfl rfl (by omega)) rfl rfl rfl ?_ | refine LL.val (R.gtT rfl rfl rfl (by omega)) rfl rfl rfl ?_ | refine LL.val (R.gtF rfl rfl rfl (by omega)) rfl rfl rfl ?_ | refine LL.val (R.geT rfl rfl rfl (by omega)) rfl rfl rfl ?_ | refine LL.val (R.geF rfl rfl rfl (by omega)) rfl rfl rfl ?_ | refine LL.val (R.eqT rfl rfl rfl (by omega)) rfl rfl rfl ?_ | refine LL.val (R.eqF rfl rfl rfl (by omega)) rfl rfl rfl ?_ | refine LL.val (R.neT rfl rfl rfl (by omega)) rfl rfl rfl ?_ | refine LL.val (R.neF rfl rfl rfl (by omega)) rfl rfl rfl ?_ | refine LL.val (R.eqPtr rfl rfl rfl rfl rfl) rfl rfl rfl ?_ | refine LL.val (R.nePtr rfl rfl rfl rfl rfl) rfl rfl rfl ?_ | refine LL.val (R.eqSl rfl rfl rfl rfl rfl) rfl rfl rfl ?_ | refine LL.val (R.neSl rfl rfl rfl rfl rfl) rfl rfl rfl ?_ | refine LL.val (R.eqFn rfl rfl rfl rfl) rfl rfl rfl ?_ | refine LL.val (R.eqBool rfl rfl rfl rfl rfl) rfl rfl rfl ?_ | refine LL.val (R.neBool rfl rfl rfl rfl rfl) rfl rfl rfl ?_ | refine LL.val (R.xorU rfl rfl rfl (by first | omega | decide) (by first | omega | decide)) rfl rfl rfl ?_ | refine LL.val (R.addUN rfl rfl rfl (by omega)) rfl rfl rfl ?_ | refine LL.val (R.not rfl rfl) rfl rfl rfl ?_ | refine LL.val (R.lenS rfl rfl rfl rfl) rfl rfl rfl ?_ | refine LL.val (R.len rfl rfl rfl rfl) rfl rfl rfl ?_ | refine LL.val (R.pick rfl rfl rfl) rfl rfl rfl ?_ | refine LL.val (R.extract rfl rfl rfl) rfl rfl rfl ?_ | refine LL.val (R.func rfl rfl rfl) rfl rfl rfl ?_ | refine LL.val (R.slice rfl rfl rfl rfl rfl (I.slA rfl)) rfl rfl rfl ?_ | refine LL.val (R.slice rfl rfl rfl rfl rfl (I.slAto rfl (by omega))) rfl rfl rfl ?_) | refine LL.skip rfl rfl ?_))
    refine EE.ret _ rfl rfl ?_
    have : xs ≠ ys := fun e => hne (by rw [← hN, ← hN2, e])
    exact ⟨by simp [resV, this], Below.refl _ _⟩

set_option maxRecDepth 100000
set_option maxHeartbeats 8000000
end Go.Proofs.Ytfplilpefhhpnaa
/- slots: SlotsPuts, SlotsTakes, SlotsSwaps: the walks. -/
namespace Go.Proofs.Ytfplilpefhhpnaa
set_option linter.unusedVariables false
set_option linter.unusedSimpArgs false
open Go.RowKit Go.Shelf
theorem lentR {s : List Nat} {n gl cl : Nat} {W : World} (hn : s.length = n) (hL : ReadsT uE 1 W (.slice (some ⟨gl, 0, none⟩) (n + 1) cl) (s ++ [77])) (hcl : n + 1 ≤ cl) : ReadsT uE 1 W (.slice (some ⟨gl, 0, none⟩) n cl) s := by
  have h := hL.take uEnc n (by omega) cl (by omega)
  have e : (s ++ [77]).take n = s := by rw [← hn]; simp
  rw [e] at h
  exact h
set_option maxRecDepth 100000
set_option maxHeartbeats 8000000
end Go.Proofs.Ytfplilpefhhpnaa
/- slots: rows as lists of pairs: what is read of them, behind each store. -/
namespace Go.Proofs.Ytfplilpefhhpnaa
set_option linter.unusedVariables false
set_option linter.unusedSimpArgs false
open Go.RowKit Go.Shelf
set_option maxRecDepth 100000
set_option maxHeartbeats 8000000
/-- What is read of a list of slots. -/
def rd : Nat → List Pr → List Pr
  | _, [] => []
  | p, x :: t => if x.2 = 0 then [] else if x.2 = p then rd p t else x :: rd x.2 t
def lp : Nat → List Pr → Nat
  | p, [] => p
  | _, x :: t => lp x.2 t
/-- A row as a list of slots. -/
def slP (s : List Nat) : List Pr := (List.range (s.length / 2)).map (prA s)
theorem slP_len (s : List Nat) : (slP s).length = s.length / 2 := by simp [slP]
theorem slP_get (s : List Nat) (j : Nat) : (slP s)[j]? = if j < s.length / 2 then some (prA s j) else none := by
  unfold slP
  rw [List.getElem?_map]
  by_cases h : j < s.length / 2
  · rw [if_pos h, List.getElem?_range h]; rfl
  · rw [if_neg h, List.getElem?_eq_none (by simpa using Nat.le_of_not_lt h)]; rfl
end Go.Proofs.Ytfplilpefhhpnaa
/- slots: Tidy keeps what is read, store by store, and settles. -/
namespace Go.Proofs.Ytfplilpefhhpnaa
set_option linter.unusedVariables false
set_option linter.unusedSimpArgs false
open Go.RowKit Go.Shelf
set_option maxRecDepth 100000
set_option maxHeartbeats 8000000
def preP (s : List Nat) (n : Nat) : List Pr := (List.range n).map (prA s)
def midP (s : List Nat) (d k : Nat) : List Pr := (List.range k).map fun i => prA s (d + i)
theorem preP_len (s : List Nat) (n : Nat) : (preP s n).length = n := by simp [preP]
theorem preP_split (s : List Nat) {d m : Nat} (h : d ≤ m) : preP s m = preP s d ++ midP s d (m - d) := by
  obtain ⟨k, rfl⟩ : ∃ k, m = d + k := ⟨m - d, by omega⟩
  unfold preP midP
  rw [List.range_add, List.map_append, List.map_map, show d + k - d = k by omega]
  rfl
theorem slP_split (s : List Nat) {d : Nat} (h : d ≤ s.length / 2) : slP s = preP s d ++ midP s d (s.length / 2 - d) := preP_split s h
end Go.Proofs.Ytfplilpefhhpnaa
/- slots: what is read behind each store of a change. -/
namespace Go.Proofs.Ytfplilpefhhpnaa
set_option linter.unusedVariables false
set_option linter.unusedSimpArgs false
open Go.RowKit Go.Shelf
set_option maxRecDepth 100000
set_option maxHeartbeats 8000000
/-- Pairs of a settled row. -/
def okB (left : Nat) (B : List Pr) : Prop := (∀ x ∈ B, x.2 ≠ 0 ∧ x.2 ≠ left) ∧ B.Pairwise fun x y => x.1 < y.1 ∧ x.2 ≠ y.2
theorem stl_of {left : Nat} {s : List Nat} {B Z : List Pr} (h : slP s = B ++ Z) (hB : okB left B) (hZ : Z ≠ []) (hz : ∀ z ∈ Z, z.2 = 0) : Stl left s B.length := by
  have hl := congrArg List.length h
  rw [slP_len, List.length_append] at hl
  have hZl : 0 < Z.length := List.length_pos_iff.2 hZ
  have g : ∀ j (hj : j < B.length), prA s j = B[j] := fun j hj => by
    have h1 := slP_get s j
    rw [if_pos (by omega), h, List.getElem?_append_left hj, List.getElem?_eq_getElem hj] at h1
    exact (Option.some.inj h1).symm
  have hp := List.pairwise_iff_getElem.1 hB.2
  refine ⟨by omega, fun j hj => ?_, fun j h1 h2 => ?_, fun j hj => ?_, fun i j hij hj => ?_, fun j hj => ?_⟩
  · have := (hB.1 _ (List.getElem_mem hj)).1
    rw [← g j hj] at this
    exact this
  · have h3 := slP_get s j
    rw [if_pos h2, h, List.getElem?_append_right h1] at h3
    exact hz _ (List.mem_of_getElem? h3)
  · have := (hB.1 _ (List.getElem_mem hj)).2
    rw [← g j hj] at this
    exact this
  · have := (hp i j (by omega) hj hij).2
    rw [← g j hj, ← g i (by omega)] at this
    exact this
  · have := (hp j (j + 1) (by omega) hj (by omega)).1
    rw [← g j (by omega), ← g (j + 1) hj] at this
    exact this
end Go.Proofs.Ytfplilpefhhpnaa
/- slots: SlotsTidies: the walk. -/
namespace Go.Proofs.Ytfplilpefhhpnaa
set_option linter.unusedVariables false
set_option linter.unusedSimpArgs false
open Go.RowKit Go.Shelf
theorem exposeT {α : Type} {enc : α → List Value} {k : Nat} {W : World} {v : Value} {ts : List α} (h : ReadsT enc k W v ts) : ∃ X0 : World, W.heap.size ≤ X0.heap.size ∧ (∀ X, Below X0.heap.size X0 X → ReadsT enc k X v ts) ∧ Below X0.heap.size X0 W := ⟨W, Nat.le_refl _, fun X b => h.up b, Below.refl _ _⟩
theorem readF_row {left : Nat} {s : List Nat} (h : ¬ noRow left s.length) : readF left s = pairP left s := by
  unfold readF
  rw [if_neg h]
set_option maxRecDepth 100000
set_option maxHeartbeats 8000000
end Go.Proofs.Ytfplilpefhhpnaa
/- Strings as lists of bytes. For any seat. -/
namespace Go.Proofs.Ytfplilpefhhpnaa
set_option linter.unusedVariables false
set_option linter.unusedSimpArgs false
open Go.RowKit Go.Shelf

abbrev Bs := List UInt8
abbrev strV (l : Bs) : Value := .string ⟨l.toArray⟩
section
variable {P : Program} {w : World} {o : Oper} {n : Nat} {D : List Deferred} {M : Slots} {x y : Operand} {t u : TypeId} {a b : Bs} {i : Nat}
theorem I.ixStr {c : UInt8} (ht : isStr P t = true) (hi : a[i]? = some c) : (Instr.index t (strV a) (.int .i64 (i : Int))).run P w = .ok (.int .u8 (c.toNat : Int)) w := by
  unfold isStr at ht
  cases hu : P.underlying t with
  | none => rw [hu] at ht; cases ht
  | some d =>
    rw [hu] at ht
    cases d <;> try (cases ht; done)
    have hg : (⟨a.toArray⟩ : ByteArray)[i]? = some c := by
      have hlt := (List.getElem?_eq_some_iff.1 hi)
      obtain ⟨h1, h2⟩ := hlt
      have hs : i < (⟨a.toArray⟩ : ByteArray).size := by simpa [ByteArray.size] using h1
      rw [getElem?_pos _ i hs]
      congr 1
    have h0 : (0 : Int) ≤ (i : Int) := by omega
    simp [Instr.index, asIntOf, run_underlying hu, h0, hg]
theorem R.ixS {c : UInt8} (ho : o.op = .index t x y) (hx : evM M x = some (strV a)) (hy : evM M y = some (.int .i64 (i : Int))) (ht : isStr P t = true) (hi : a[i]? = some c) : Runs P n D M o w (.value (.int .u8 (c.toNat : Int))) w :=
  R.indexV ho hx hy (I.ixStr ht hi)
theorem R.lenS {xs : Array Operand} {ts : Array TypeId} (ho : o.op = .call { callee := .builtin .len, args := xs, argTypes := ts }) (hx : evsM M xs.toList = some [strV a]) (ht : ts[0]? = some t) (h : lenB P t (strV a) = some a.length) : Runs P n D M o w (.value (.int .i64 (a.length : Int))) w := R.len ho hx ht h
end
end Go.Proofs.Ytfplilpefhhpnaa
/- []byte(s); shifts to the left. Over any program. -/
namespace Go.Proofs.Ytfplilpefhhpnaa
set_option linter.unusedVariables false
set_option linter.unusedSimpArgs false
open Go.RowKit Go.Shelf
section
variable {P : Program} {w : World} {t u e : TypeId} {ud : TypeDesc} {o : Oper} {x y : Operand} {n i : Nat} {D : List Deferred} {M : Slots} {ops : Array Oper} {rest : List Oper} {r : Option Nat} {Q : Exit → Act → World → Prop} {ok : World → Prop} {K : Slots → World → Prop}
theorem R.orE {a b z : Nat} (ho : o.op = .binOp .or t x y u) (hx : evM M x = some (.int .u64 (a : Int))) (hy : evM M y = some (.int .u64 (b : Int))) (ha : a < 18446744073709551616) (hb : b < 18446744073709551616) (hz : a ||| b = z) : Runs P n D M o w (.value (.int .u64 (z : Int))) w := by
  subst hz
  exact R.orU ho hx hy ha hb
theorem Reads.kept {w' : World} {K : Nat → Prop} {b off len cap : Nat} {xs : List Value} (h : Reads w (.slice (some ⟨b, off, none⟩) len cap) xs) (hk : Kept K w w') (hb : K b) : Reads w' (.slice (some ⟨b, off, none⟩) len cap) xs := by
  obtain ⟨a, c, e, hc, hr⟩ := h
  refine ⟨a, c, e, hc, fun hx => ?_⟩
  obtain ⟨b', off', ea, hbl, hcell⟩ := hr hx
  simp only [Value.slice.injEq] at e
  rw [← e.1] at ea
  simp only [Option.some.injEq, Addr.mk.injEq] at ea
  obtain ⟨rfl, rfl, _⟩ := ea
  refine ⟨b, off, by rw [← e.1], Nat.lt_of_lt_of_le hbl hk.size, fun j hj => ?_⟩
  rw [← hcell j hj]
  exact World.cell?_of_block (hk.block b hb)
/-- A slice of one's own, of elements of one cell: told so that it is carried. -/
def OwnW (w : World) (base e : Nat) (v : Value) (m : Nat) (xs : List Value) : Prop := w.ownsRow base e 1 v m xs
theorem OwnW.up {w' : World} {base e m : Nat} {v : Value} {xs : List Value} (h : OwnW w base e v m xs) (hb : Below w.heap.size w w') : OwnW w' base e v m xs := by
  refine ⟨h.1, ?_⟩
  rcases h.2 with h2 | ⟨g', cap, cur, rfl, hbg, hg, h3⟩
  · exact .inl h2
  · exact .inr ⟨g', cap, cur, rfl, hbg, (hb.block g' (Array.getElem?_eq_some_iff.1 hg).1).trans hg, h3⟩
theorem OwnW.reads {base e m : Nat} {v : Value} {xs : List Value} (h : OwnW w base e v m xs) : Reads w v xs := reads_of_owns h
variable {T : TypeId} {z : Value} {bytes : Nat}
end
end Go.Proofs.Ytfplilpefhhpnaa
/- node: lay (written by gennd5.py). -/
namespace Go.Proofs.Ytfplilpefhhpnaa
set_option linter.unusedVariables false
set_option linter.unusedSimpArgs false
open Go.RowKit Go.Shelf
set_option maxRecDepth 100000
set_option maxHeartbeats 8000000
theorem Try.infou64 : (Try.prog.info? 25).map (fun i => (i.zero, i.size, i.bytes)) = some (some (.int .u64 0), 1, 8) := by kernel_rfl
theorem El64 : El Try.prog 22 25 (Value.int .u64 0) 8 := ⟨Try.underlying22, info_parts Try.infou64, rfl⟩

/-- Words of a node. -/
abbrev layH (m s lo le wy : Nat) : List Nat := [m, s, lo, le, wy, 0, 0, 0]
def flP (ps : List Pr) : List Nat := ps.flatMap fun p => [p.1, p.2]
def layW (h : List Nat) (ps : List Pr) : List Nat := h ++ flP ps ++ List.replicate (56 - 2 * ps.length) 0
theorem flP_len (ps : List Pr) : (flP ps).length = 2 * ps.length := by
  unfold flP
  induction ps with
  | nil => rfl
  | cons a t ih => rw [List.flatMap_cons, List.length_append, ih]; simp; omega
theorem layW_len {h : List Nat} {ps : List Pr} (hh : h.length = 8) (hp : ps.length ≤ 28) : (layW h ps).length = 64 := by
  unfold layW
  rw [List.length_append, List.length_append, flP_len, List.length_replicate, hh]
  omega
theorem layW_set {h : List Nat} {ps : List Pr} {i k p : Nat} (hh : h.length = 8) (hp : ps.length ≤ 28) (hx : ps[i]? = some (k, p)) : ((layW h (ps.take i)).set (8 + 2 * i) k).set (8 + 2 * i + 1) p = layW h (ps.take (i + 1)) := by
  have hi : i < ps.length := (List.getElem?_eq_some_iff.1 hx).1
  have ht : (ps.take i).length = i := by rw [List.length_take]; omega
  have ht1 : (ps.take (i + 1)).length = i + 1 := by rw [List.length_take]; omega
  have e : ps.take (i + 1) = ps.take i ++ [(k, p)] := by
    rw [List.take_add_one, hx]
    rfl
  have hA : (h ++ flP (ps.take i)).length = 8 + 2 * i := by rw [List.length_append, flP_len, hh, ht]
  have e2 : List.replicate (56 - 2 * i) 0 = 0 :: 0 :: List.replicate (54 - 2 * i) 0 := by
    rw [show 56 - 2 * i = (54 - 2 * i) + 1 + 1 by omega]
    rfl
  have e3 : flP (ps.take (i + 1)) = flP (ps.take i) ++ [k, p] := by
    rw [e]
    unfold flP
    rw [List.flatMap_append]
    rfl
  unfold layW
  rw [ht, ht1, e2, e3, List.set_append_right _ _ (by omega), hA, Nat.sub_self, List.set_cons_zero, List.set_append_right _ _ (by omega), hA, show 8 + 2 * i + 1 - (8 + 2 * i) = 1 by omega, show 56 - 2 * (i + 1) = 54 - 2 * i by omega]
  simp
theorem ints_set {l : List Nat} {i a : Nat} : (ints .u64 l).set i (.int .u64 (a : Int)) = ints .u64 (l.set i a) := by
  unfold ints
  rw [List.map_set]
theorem or_lo {m l : Nat} (hm : 256 * m < 18446744073709551616) (hl : l < 256) : 256 * m ||| l = 256 * m + l := (Nat.two_pow_add_eq_or_of_lt (i := 8) hl m).symm
theorem lay_any (l : Nat) (s : Int) (su lo le : Nat) (wy : Int) (wu : Nat) (ps : List Pr) (pv : Value) (w : World) (hv : ReadsT prE 2 w pv ps) (hl : l ≤ 12) (hn : ps.length ≤ 28) (hsu : IntKind.u64.wrap s = (su : Int)) (hwu : IntKind.u64.wrap wy = (wu : Int)) : Calls Try.prog 36 #[nodeV (l : Int) s lo le wy pv] w fun e w' => ∃ g, e = .returned (.slice (some ⟨g, 0, none⟩) 64 64) ∧ RowL w' g 25 (ints .u64 (layW (layH (7522529147838689024 + l) su lo le wu) ps)) ∧ w.heap.size ≤ g ∧ Below w.heap.size w w' := by
  have q := Below.refl w.heap.size w
  obtain ⟨N, hN⟩ : ∃ N, ps.length = N := ⟨_, rfl⟩
  obtain ⟨a, c, rfl, hc⟩ := hv.form hN
  have hF : ∀ W, Below w.heap.size w W → ReadsT prE 2 W (.slice a N c) ps := fun W b => hv.up b
  rw [hN] at hn
  clear hv
  have hwl : IntKind.u64.wrap (l : Int) = (l : Int) := by
    rw [IntKind.wrap_u64]
    omega
  have hor : 7522529147838689024 ||| l = 7522529147838689024 + l := or_lo (m := 29384879483744879) (by decide) (by omega)
  refine X.fn Try.func36 rfl (n := 56) rfl rfl ?_
  refine CC.seq ?_
  refine CC.region ?_
  refine LL.box [Value.int IntKind.i64 ↑l, Value.int IntKind.i64 s, Value.int IntKind.u64 ↑lo, Value.int IntKind.u64 ↑le, Value.int IntKind.i64 wy, Value.slice a N c] rfl rfl rfl rfl rfl ?_
  intro W9 g10 eg10 r11 z12 b8
  replace q := q.trans (b8.mono q.size)
  refine LL.val (R.assign rfl rfl) rfl rfl rfl ?_
  refine LL.nilS ?_
  refine CC.seq ?_
  refine CC.region ?_
  have l25 := r11.lt
  (refine LL.make (l := 64) (m := 64) El64 rfl rfl rfl (by omega) (by omega) (by omega) rfl rfl ?_; intro W24 g2 eg2 r2 zz2 b21)
  have zb21 := b21.size
  replace r11 := r11.up b21
  replace b8 := b8.trans (b21.mono b8.size)
  replace q := q.trans (b21.mono q.size)
  refine LL.val (R.assign rfl rfl) rfl rfl rfl ?_
  refine LL.nilS ?_
  refine CC.seq ?_
  refine CC.region ?_
  refine LL.val (R.move rfl rfl) rfl rfl rfl ?_
  refine LL.val (R.field rfl rfl (I.fld rfl)) rfl rfl rfl ?_
  refine LL.val (R.load rfl rfl (I.ld1 rfl (RowL.cell r11 rfl))) rfl rfl rfl ?_
  refine LL.val (R.convI rfl rfl rfl rfl hwl) rfl rfl rfl ?_
  refine LL.val (R.orE (a := 7522529147838689024) (b := l) (z := 7522529147838689024 + l) rfl rfl rfl (by decide) (by omega) hor) rfl rfl rfl ?_
  refine LL.val (R.index rfl rfl rfl (I.ixS1c rfl rfl (by omega))) rfl rfl rfl ?_
  refine LL.store rfl rfl rfl rfl r2 (by exact Nat.le_of_ble_eq_true rfl) rfl rfl rfl rfl ?_
  intro W102 r103 b101 z104
  have hlb101 := r2.lt
  replace r103 : RowL W102 _ 25 [Value.int IntKind.u64 ↑(7522529147838689024 + l), Value.int IntKind.u64 0, Value.int IntKind.u64 0, Value.int IntKind.u64 0, Value.int IntKind.u64 0, Value.int IntKind.u64 0, Value.int IntKind.u64 0, Value.int IntKind.u64 0, Value.int IntKind.u64 0, Value.int IntKind.u64 0, Value.int IntKind.u64 0, Value.int IntKind.u64 0, Value.int IntKind.u64 0, Value.int IntKind.u64 0, Value.int IntKind.u64 0, Value.int IntKind.u64 0, Value.int IntKind.u64 0, Value.int IntKind.u64 0, Value.int IntKind.u64 0, Value.int IntKind.u64 0, Value.int IntKind.u64 0, Value.int IntKind.u64 0, Value.int IntKind.u64 0, Value.int IntKind.u64 0, Value.int IntKind.u64 0, Value.int IntKind.u64 0, Value.int IntKind.u64 0, Value.int IntKind.u64 0, Value.int IntKind.u64 0, Value.int IntKind.u64 0, Value.int IntKind.u64 0, Value.int IntKind.u64 0, Value.int IntKind.u64 0, Value.int IntKind.u64 0, Value.int IntKind.u64 0, Value.int IntKind.u64 0, Value.int IntKind.u64 0, Value.int IntKind.u64 0, Value.int IntKind.u64 0, Value.int IntKind.u64 0, Value.int IntKind.u64 0, Value.int IntKind.u64 0, Value.int IntKind.u64 0, Value.int IntKind.u64 0, Value.int IntKind.u64 0, Value.int IntKind.u64 0, Value.int IntKind.u64 0, Value.int IntKind.u64 0, Value.int IntKind.u64 0, Value.int IntKind.u64 0, Value.int IntKind.u64 0, Value.int IntKind.u64 0, Value.int IntKind.u64 0, Value.int IntKind.u64 0, Value.int IntKind.u64 0, Value.int IntKind.u64 0, Value.int IntKind.u64 0, Value.int IntKind.u64 0, Value.int IntKind.u64 0, Value.int IntKind.u64 0, Value.int IntKind.u64 0, Value.int IntKind.u64 0, Value.int IntKind.u64 0, Value.int IntKind.u64 0] := r103
  clear r2
  replace b21 := b21.grown b101 b21.size (by rintro k ⟨⟩; omega)
  replace r11 := r11.gr b101 (by have := r11.lt; omega)
  replace b8 := b8.grown b101 b8.size (by rintro k ⟨⟩; omega)
  replace q := q.grown b101 q.size (by rintro k ⟨⟩; omega)
  have r2 := r103
  clear r103
  refine LL.nilS ?_
  refine CC.seq ?_
  refine CC.region ?_
  refine LL.val (R.move rfl rfl) rfl rfl rfl ?_
  refine LL.val (R.field rfl rfl (I.fld rfl)) rfl rfl rfl ?_
  refine LL.val (R.load rfl rfl (I.ld1 rfl (RowL.cell r11 rfl))) rfl rfl rfl ?_
  refine LL.val (R.convI rfl rfl rfl rfl hsu) rfl rfl rfl ?_
  refine LL.val (R.index rfl rfl rfl (I.ixS1c rfl rfl (by omega))) rfl rfl rfl ?_
  refine LL.store rfl rfl rfl rfl r2 (by exact Nat.le_of_ble_eq_true rfl) rfl rfl rfl rfl ?_
  intro W160 r161 b159 z162
  have hlb159 := r2.lt
  replace r161 : RowL W160 _ 25 [Value.int IntKind.u64 ↑(7522529147838689024 + l), Value.int IntKind.u64 ↑su, Value.int IntKind.u64 0, Value.int IntKind.u64 0, Value.int IntKind.u64 0, Value.int IntKind.u64 0, Value.int IntKind.u64 0, Value.int IntKind.u64 0, Value.int IntKind.u64 0, Value.int IntKind.u64 0, Value.int IntKind.u64 0, Value.int IntKind.u64 0, Value.int IntKind.u64 0, Value.int IntKind.u64 0, Value.int IntKind.u64 0, Value.int IntKind.u64 0, Value.int IntKind.u64 0, Value.int IntKind.u64 0, Value.int IntKind.u64 0, Value.int IntKind.u64 0, Value.int IntKind.u64 0, Value.int IntKind.u64 0, Value.int IntKind.u64 0, Value.int IntKind.u64 0, Value.int IntKind.u64 0, Value.int IntKind.u64 0, Value.int IntKind.u64 0, Value.int IntKind.u64 0, Value.int IntKind.u64 0, Value.int IntKind.u64 0, Value.int IntKind.u64 0, Value.int IntKind.u64 0, Value.int IntKind.u64 0, Value.int IntKind.u64 0, Value.int IntKind.u64 0, Value.int IntKind.u64 0, Value.int IntKind.u64 0, Value.int IntKind.u64 0, Value.int IntKind.u64 0, Value.int IntKind.u64 0, Value.int IntKind.u64 0, Value.int IntKind.u64 0, Value.int IntKind.u64 0, Value.int IntKind.u64 0, Value.int IntKind.u64 0, Value.int IntKind.u64 0, Value.int IntKind.u64 0, Value.int IntKind.u64 0, Value.int IntKind.u64 0, Value.int IntKind.u64 0, Value.int IntKind.u64 0, Value.int IntKind.u64 0, Value.int IntKind.u64 0, Value.int IntKind.u64 0, Value.int IntKind.u64 0, Value.int IntKind.u64 0, Value.int IntKind.u64 0, Value.int IntKind.u64 0, Value.int IntKind.u64 0, Value.int IntKind.u64 0, Value.int IntKind.u64 0, Value.int IntKind.u64 0, Value.int IntKind.u64 0, Value.int IntKind.u64 0] := r161
  clear r2
  replace b21 := b21.grown b159 b21.size (by rintro k ⟨⟩; omega)
  replace r11 := r11.gr b159 (by have := r11.lt; omega)
  replace b8 := b8.grown b159 b8.size (by rintro k ⟨⟩; omega)
  replace q := q.grown b159 q.size (by rintro k ⟨⟩; omega)
  have r2 := r161
  clear r161
  refine LL.nilS ?_
  refine CC.seq ?_
  refine CC.region ?_
  refine LL.val (R.move rfl rfl) rfl rfl rfl ?_
  refine LL.val (R.field rfl rfl (I.fld rfl)) rfl rfl rfl ?_
  refine LL.val (R.load rfl rfl (I.ld1 rfl (RowL.cell r11 rfl))) rfl rfl rfl ?_
  refine LL.val (R.index rfl rfl rfl (I.ixS1c rfl rfl (by omega))) rfl rfl rfl ?_
  refine LL.store rfl rfl rfl rfl r2 (by exact Nat.le_of_ble_eq_true rfl) rfl rfl rfl rfl ?_
  intro W209 r210 b208 z211
  have hlb208 := r2.lt
  replace r210 : RowL W209 _ 25 [Value.int IntKind.u64 ↑(7522529147838689024 + l), Value.int IntKind.u64 ↑su, Value.int IntKind.u64 ↑lo, Value.int IntKind.u64 0, Value.int IntKind.u64 0, Value.int IntKind.u64 0, Value.int IntKind.u64 0, Value.int IntKind.u64 0, Value.int IntKind.u64 0, Value.int IntKind.u64 0, Value.int IntKind.u64 0, Value.int IntKind.u64 0, Value.int IntKind.u64 0, Value.int IntKind.u64 0, Value.int IntKind.u64 0, Value.int IntKind.u64 0, Value.int IntKind.u64 0, Value.int IntKind.u64 0, Value.int IntKind.u64 0, Value.int IntKind.u64 0, Value.int IntKind.u64 0, Value.int IntKind.u64 0, Value.int IntKind.u64 0, Value.int IntKind.u64 0, Value.int IntKind.u64 0, Value.int IntKind.u64 0, Value.int IntKind.u64 0, Value.int IntKind.u64 0, Value.int IntKind.u64 0, Value.int IntKind.u64 0, Value.int IntKind.u64 0, Value.int IntKind.u64 0, Value.int IntKind.u64 0, Value.int IntKind.u64 0, Value.int IntKind.u64 0, Value.int IntKind.u64 0, Value.int IntKind.u64 0, Value.int IntKind.u64 0, Value.int IntKind.u64 0, Value.int IntKind.u64 0, Value.int IntKind.u64 0, Value.int IntKind.u64 0, Value.int IntKind.u64 0, Value.int IntKind.u64 0, Value.int IntKind.u64 0, Value.int IntKind.u64 0, Value.int IntKind.u64 0, Value.int IntKind.u64 0, Value.int IntKind.u64 0, Value.int IntKind.u64 0, Value.int IntKind.u64 0, Value.int IntKind.u64 0, Value.int IntKind.u64 0, Value.int IntKind.u64 0, Value.int IntKind.u64 0, Value.int IntKind.u64 0, Value.int IntKind.u64 0, Value.int IntKind.u64 0, Value.int IntKind.u64 0, Value.int IntKind.u64 0, Value.int IntKind.u64 0, Value.int IntKind.u64 0, Value.int IntKind.u64 0, Value.int IntKind.u64 0] := r210
  clear r2
  replace b21 := b21.grown b208 b21.size (by rintro k ⟨⟩; omega)
  replace r11 := r11.gr b208 (by have := r11.lt; omega)
  replace b8 := b8.grown b208 b8.size (by rintro k ⟨⟩; omega)
  replace q := q.grown b208 q.size (by rintro k ⟨⟩; omega)
  have r2 := r210
  clear r210
  refine LL.nilS ?_
  refine CC.seq ?_
  refine CC.region ?_
  refine LL.val (R.move rfl rfl) rfl rfl rfl ?_
  refine LL.val (R.field rfl rfl (I.fld rfl)) rfl rfl rfl ?_
  refine LL.val (R.load rfl rfl (I.ld1 rfl (RowL.cell r11 rfl))) rfl rfl rfl ?_
  refine LL.val (R.index rfl rfl rfl (I.ixS1c rfl rfl (by omega))) rfl rfl rfl ?_
  refine LL.store rfl rfl rfl rfl r2 (by exact Nat.le_of_ble_eq_true rfl) rfl rfl rfl rfl ?_
  intro W258 r259 b257 z260
  have hlb257 := r2.lt
  replace r259 : RowL W258 _ 25 [Value.int IntKind.u64 ↑(7522529147838689024 + l), Value.int IntKind.u64 ↑su, Value.int IntKind.u64 ↑lo, Value.int IntKind.u64 ↑le, Value.int IntKind.u64 0, Value.int IntKind.u64 0, Value.int IntKind.u64 0, Value.int IntKind.u64 0, Value.int IntKind.u64 0, Value.int IntKind.u64 0, Value.int IntKind.u64 0, Value.int IntKind.u64 0, Value.int IntKind.u64 0, Value.int IntKind.u64 0, Value.int IntKind.u64 0, Value.int IntKind.u64 0, Value.int IntKind.u64 0, Value.int IntKind.u64 0, Value.int IntKind.u64 0, Value.int IntKind.u64 0, Value.int IntKind.u64 0, Value.int IntKind.u64 0, Value.int IntKind.u64 0, Value.int IntKind.u64 0, Value.int IntKind.u64 0, Value.int IntKind.u64 0, Value.int IntKind.u64 0, Value.int IntKind.u64 0, Value.int IntKind.u64 0, Value.int IntKind.u64 0, Value.int IntKind.u64 0, Value.int IntKind.u64 0, Value.int IntKind.u64 0, Value.int IntKind.u64 0, Value.int IntKind.u64 0, Value.int IntKind.u64 0, Value.int IntKind.u64 0, Value.int IntKind.u64 0, Value.int IntKind.u64 0, Value.int IntKind.u64 0, Value.int IntKind.u64 0, Value.int IntKind.u64 0, Value.int IntKind.u64 0, Value.int IntKind.u64 0, Value.int IntKind.u64 0, Value.int IntKind.u64 0, Value.int IntKind.u64 0, Value.int IntKind.u64 0, Value.int IntKind.u64 0, Value.int IntKind.u64 0, Value.int IntKind.u64 0, Value.int IntKind.u64 0, Value.int IntKind.u64 0, Value.int IntKind.u64 0, Value.int IntKind.u64 0, Value.int IntKind.u64 0, Value.int IntKind.u64 0, Value.int IntKind.u64 0, Value.int IntKind.u64 0, Value.int IntKind.u64 0, Value.int IntKind.u64 0, Value.int IntKind.u64 0, Value.int IntKind.u64 0, Value.int IntKind.u64 0] := r259
  clear r2
  replace b21 := b21.grown b257 b21.size (by rintro k ⟨⟩; omega)
  replace r11 := r11.gr b257 (by have := r11.lt; omega)
  replace b8 := b8.grown b257 b8.size (by rintro k ⟨⟩; omega)
  replace q := q.grown b257 q.size (by rintro k ⟨⟩; omega)
  have r2 := r259
  clear r259
  refine LL.nilS ?_
  refine CC.seq ?_
  refine CC.region ?_
  refine LL.val (R.move rfl rfl) rfl rfl rfl ?_
  refine LL.val (R.field rfl rfl (I.fld rfl)) rfl rfl rfl ?_
  refine LL.val (R.load rfl rfl (I.ld1 rfl (RowL.cell r11 rfl))) rfl rfl rfl ?_
  refine LL.val (R.convI rfl rfl rfl rfl hwu) rfl rfl rfl ?_
  refine LL.val (R.index rfl rfl rfl (I.ixS1c rfl rfl (by omega))) rfl rfl rfl ?_
  refine LL.store rfl rfl rfl rfl r2 (by exact Nat.le_of_ble_eq_true rfl) rfl rfl rfl rfl ?_
  intro W316 r317 b315 z318
  have hlb315 := r2.lt
  replace r317 : RowL W316 _ 25 [Value.int IntKind.u64 ↑(7522529147838689024 + l), Value.int IntKind.u64 ↑su, Value.int IntKind.u64 ↑lo, Value.int IntKind.u64 ↑le, Value.int IntKind.u64 ↑wu, Value.int IntKind.u64 0, Value.int IntKind.u64 0, Value.int IntKind.u64 0, Value.int IntKind.u64 0, Value.int IntKind.u64 0, Value.int IntKind.u64 0, Value.int IntKind.u64 0, Value.int IntKind.u64 0, Value.int IntKind.u64 0, Value.int IntKind.u64 0, Value.int IntKind.u64 0, Value.int IntKind.u64 0, Value.int IntKind.u64 0, Value.int IntKind.u64 0, Value.int IntKind.u64 0, Value.int IntKind.u64 0, Value.int IntKind.u64 0, Value.int IntKind.u64 0, Value.int IntKind.u64 0, Value.int IntKind.u64 0, Value.int IntKind.u64 0, Value.int IntKind.u64 0, Value.int IntKind.u64 0, Value.int IntKind.u64 0, Value.int IntKind.u64 0, Value.int IntKind.u64 0, Value.int IntKind.u64 0, Value.int IntKind.u64 0, Value.int IntKind.u64 0, Value.int IntKind.u64 0, Value.int IntKind.u64 0, Value.int IntKind.u64 0, Value.int IntKind.u64 0, Value.int IntKind.u64 0, Value.int IntKind.u64 0, Value.int IntKind.u64 0, Value.int IntKind.u64 0, Value.int IntKind.u64 0, Value.int IntKind.u64 0, Value.int IntKind.u64 0, Value.int IntKind.u64 0, Value.int IntKind.u64 0, Value.int IntKind.u64 0, Value.int IntKind.u64 0, Value.int IntKind.u64 0, Value.int IntKind.u64 0, Value.int IntKind.u64 0, Value.int IntKind.u64 0, Value.int IntKind.u64 0, Value.int IntKind.u64 0, Value.int IntKind.u64 0, Value.int IntKind.u64 0, Value.int IntKind.u64 0, Value.int IntKind.u64 0, Value.int IntKind.u64 0, Value.int IntKind.u64 0, Value.int IntKind.u64 0, Value.int IntKind.u64 0, Value.int IntKind.u64 0] := r317
  clear r2
  replace b21 := b21.grown b315 b21.size (by rintro k ⟨⟩; omega)
  replace r11 := r11.gr b315 (by have := r11.lt; omega)
  replace b8 := b8.grown b315 b8.size (by rintro k ⟨⟩; omega)
  replace q := q.grown b315 q.size (by rintro k ⟨⟩; omega)
  have r2 := r317
  clear r317
  refine LL.nilS ?_
  refine CC.seq ?_
  refine CC.seq ?_
  refine CC.region ?_
  refine LL.val (R.field rfl rfl (I.fld rfl)) rfl rfl rfl ?_
  refine LL.val (R.load rfl rfl (I.ld1 rfl (RowL.cell r11 rfl))) rfl rfl rfl ?_
  refine LL.val (R.len rfl rfl rfl rfl) rfl rfl rfl ?_
  refine LL.val (R.move rfl rfl) rfl rfl rfl ?_
  refine LL.nilS ?_
  refine CC.block ?_
  have r3 : RowL W316 g2 25 (ints .u64 (layW (layH (7522529147838689024 + l) su lo le wu) (ps.take 0))) := r2
  have lg2 := r2.lt
  clear r2
  refine CC.loop (α := Nat) (fun i => [(3, .slice (some ⟨g2, 0, none⟩) 64 64), (32, .slice a N c), (33, .int .i64 (N : Int)), (34, .int .i64 (i : Int))]) (fun i W => i ≤ N ∧ Below w.heap.size w W ∧ RowL W g2 25 (ints .u64 (layW (layH (7522529147838689024 + l) su lo le wu) (ps.take i)))) (fun i => N - i) 0 ⟨rfl, rfl, rfl, rfl, trivial⟩ ⟨Nat.zero_le _, q, r3⟩ ?_
  clear q r3 hor hsu hwu hwl
  rintro i W ⟨hi, q, r2⟩
  show CC none Try.prog _ 56 [] (sl [(3, .slice (some ⟨g2, 0, none⟩) 64 64), (32, .slice a N c), (33, .int .i64 (N : Int)), (34, .int .i64 (i : Int))]) _ W
  by_cases hlt : i < N
  case neg =>
    obtain rfl : i = N := by omega
    have e : ps.take i = ps := List.take_of_length_le (by omega)
    rw [e] at r2
    refine CC.seq ?_
    refine CC.region ?_
    refine LL.val (R.ltF rfl rfl rfl (by omega)) rfl rfl rfl ?_
    refine LL.nilS ?_
    refine CC.seq ?_
    refine CC.no rfl ?_
    refine CC.exit ?_
    refine EE.thenX ?_
    refine EE.thenX ?_
    refine EE.inX ?_
    refine EE.thenN ?_
    refine CC.seq ?_
    refine CC.region ?_
    refine LL.val (R.move rfl rfl) rfl rfl rfl ?_
    refine LL.val (R.assign rfl rfl) rfl rfl rfl ?_
    refine LL.nilS ?_
    refine CC.ret ?_
    refine EE.ret _ rfl rfl ?_
    exact ⟨_, rfl, r2, by omega, q⟩
  obtain ⟨⟨k1, p1⟩, hx⟩ : ∃ x, ps[i]? = some x := ⟨_, List.getElem?_eq_getElem (by omega)⟩
  have rd := hF _ q
  obtain ⟨b1, o1, rfl, _, _⟩ := rd.get prEnc hx
  have m1 : CellsN W ⟨b1, o1 + i * 2, none⟩ 2 [.int .u64 (k1 : Int), .int .u64 (p1 : Int)] := rd.elemN prEnc hx
  have hlen : (layW (layH (7522529147838689024 + l) su lo le wu) (ps.take i)).length = 64 := layW_len rfl (by rw [List.length_take]; omega)
  have hst := layW_set (h := layH (7522529147838689024 + l) su lo le wu) rfl (by omega) hx
  obtain ⟨X, hX⟩ : ∃ X, layW (layH (7522529147838689024 + l) su lo le wu) (ps.take i) = X := ⟨_, rfl⟩
  rw [hX] at r2 hlen hst
  clear rd
  refine CC.seq ?_
  refine CC.region ?_
  refine LL.val (R.ltT rfl rfl rfl (by omega)) rfl rfl rfl ?_
  refine LL.nilS ?_
  refine CC.seq ?_
  refine CC.yes rfl ?_
  refine CC.skip ?_
  refine EE.thenN ?_
  refine CC.seq ?_
  refine CC.block ?_
  refine CC.seq ?_
  refine CC.region ?_
  refine LL.val (R.move rfl rfl) rfl rfl rfl ?_
  refine LL.val (R.index rfl rfl rfl (I.ixS rfl (by omega))) rfl rfl rfl ?_
  refine LL.val (R.load rfl rfl (I.ldNc (by assumption) rfl rfl)) rfl rfl rfl ?_
  have lb71 := r2.lt
  refine LL.alloc ([Value.int IntKind.u64 0, Value.int IntKind.u64 0]) rfl rfl rfl rfl rfl ?_
  intro Wb73 gb74 egb74 rb75 zb76 bb72
  replace q := q.trans (bb72.mono q.size)
  replace m1 := m1.up bb72
  replace r2 := r2.up bb72
  refine LL.val (R.assign rfl rfl) rfl rfl rfl ?_
  refine LL.storeN (vs := [Value.int IntKind.u64 ↑k1, Value.int IntKind.u64 ↑p1]) rfl rfl rfl rfl rb75 (by exact Nat.le_of_ble_eq_true rfl) (ones_of rfl) rfl rfl ?_
  intro Wb106 rb107 bb105 zb108
  have hlbb105 := rb75.lt
  replace rb107 : RowL Wb106 _ 46 [Value.int IntKind.u64 ↑k1, Value.int IntKind.u64 ↑p1] := rb107
  clear rb75
  replace bb72 := bb72.grown bb105 bb72.size (by rintro k ⟨⟩; omega)
  replace q := q.grown bb105 q.size (by rintro k ⟨⟩; omega)
  replace m1 := m1.gr bb105 (by have := m1.lt; omega)
  replace r2 := r2.gr bb105 (by have := r2.lt; omega)
  have rb75 := rb107
  clear rb107
  refine LL.nilS ?_
  refine CC.freeZ (fun W_ j => j < W_.heap.size ∧ (j ≠ g2)) (by kernel_rfl) (by kernel_rfl) (fun Wb110 bb109 zb111 => ?_)
  replace bb72 := bb72.trans (bb109.mono bb72.size)
  replace q := q.trans (bb109.mono q.size)
  replace m1 := m1.up bb109
  replace r2 := r2.up bb109
  replace rb75 := rb75.up bb109
  have hok : Kept (fun j => j < Wb110.heap.size ∧ (j ≠ g2)) Wb110 Wb110 := Kept.refl _ _
  have fzrb75 := fzRow (K := fun j => j < Wb110.heap.size ∧ (j ≠ g2)) rb75 ⟨rb75.lt, (by first | trivial | omega)⟩
  refine AA.pure 0 rfl hok (by kernel_rfl) (fun w' b' => R.move rfl rfl) rfl rfl ?_
  refine AA.pure 1 rfl hok (by kernel_rfl) (fun w' b' => R.move rfl rfl) rfl rfl ?_
  refine AA.pure 2 rfl hok (by kernel_rfl) (fun w' b' => R.mulcN rfl rfl rfl rfl (by omega)) rfl rfl ?_
  refine AA.pure 3 rfl hok (by kernel_rfl) (fun w' b' => R.addI rfl rfl rfl (by omega)) rfl rfl ?_
  refine AA.pure 4 rfl hok (by kernel_rfl) (fun w' b' => R.move rfl rfl) rfl rfl ?_
  refine AA.pure 5 rfl hok (by kernel_rfl) (fun w' b' => R.move rfl rfl) rfl rfl ?_
  refine AA.pure 6 rfl hok (by kernel_rfl) (fun w' b' => R.mulcN rfl rfl rfl rfl (by omega)) rfl rfl ?_
  refine AA.pure 7 rfl hok (by kernel_rfl) (fun w' b' => R.addI rfl rfl rfl (by omega)) rfl rfl ?_
  refine AA.pure 8 rfl hok (by kernel_rfl) (fun w' b' => R.addI rfl rfl rfl (by omega)) rfl rfl ?_
  refine AA.pure 9 rfl hok (by kernel_rfl) (fun w' b' => R.field rfl rfl (I.fld rfl)) rfl rfl ?_
  refine AA.pure 10 rfl hok (by kernel_rfl) (fun w' b' => R.load rfl rfl (I.ld1 rfl (RowL.cell (fzrb75 w' b') rfl))) rfl rfl ?_
  refine AA.pure 11 rfl hok (by kernel_rfl) (fun w' b' => R.field rfl rfl (I.fld rfl)) rfl rfl ?_
  refine AA.pure 12 rfl hok (by kernel_rfl) (fun w' b' => R.load rfl rfl (I.ld1 rfl (RowL.cell (fzrb75 w' b') rfl))) rfl rfl ?_
  refine AA.one 13 (by kernel_rfl) ?_
  (refine SR.val rfl (R.index rfl rfl rfl (I.ixS1 (i := 8 + 2 * i) rfl (by omega))) rfl rfl hok ?_)
  refine AA.one 14 (by kernel_rfl) ?_
  (refine ZR.store (off := 0 + (8 + 2 * i)) rfl rfl rfl rfl rfl r2 (by simp [ints]; omega) rfl rfl rfl rfl ?_; intro Wb115 r9 grb113 zz9; rw [Nat.zero_add, ints_set] at r9; clear r2)
  have zgrb113 := grb113.size
  replace q := q.grown grb113 q.size (by rintro k ⟨⟩; omega)
  replace rb75 := rb75.gr grb113 (by have := rb75.lt; omega)
  replace hok := hok.trans (grown_kept grb113 (fun j h => by have := h.1; have := hok.size; omega) (fun j h e => by cases e; have h2 := h.1; have h3 := h.2; omega))
  refine ⟨hok, ?_⟩
  refine AA.one 15 (by kernel_rfl) ?_
  (refine SR.val rfl (R.index rfl rfl rfl (I.ixS1 (i := 8 + 2 * i + 1) rfl (by omega))) rfl rfl hok ?_)
  refine AA.one 16 (by kernel_rfl) ?_
  (refine ZR.store (off := 0 + (8 + 2 * i + 1)) rfl rfl rfl rfl rfl r9 (by simp [ints]; omega) rfl rfl rfl rfl ?_; intro Wb129 r2 grb127 zz8; rw [Nat.zero_add, ints_set, hst] at r2; clear r9)
  have zgrb127 := grb127.size
  replace q := q.grown grb127 q.size (by rintro k ⟨⟩; omega)
  replace rb75 := rb75.gr grb127 (by have := rb75.lt; omega)
  replace hok := hok.trans (grown_kept grb127 (fun j h => by have := h.1; have := hok.size; omega) (fun j h e => by cases e; have h2 := h.1; have h3 := h.2; omega))
  refine ⟨hok, ?_⟩
  refine AA.done rfl ?_
  clear fzrb75 hok
  refine EE.inN ?_
  refine EE.thenN ?_
  refine CC.region ?_
  refine LL.val (R.addNc rfl rfl rfl rfl (by omega)) rfl rfl rfl ?_
  refine LL.val (R.move rfl rfl) rfl rfl rfl ?_
  refine LL.nil ?_
  exact EE.round (i + 1) ⟨rfl, rfl, rfl, rfl, trivial⟩ ⟨by show i + 1 ≤ N; omega, q, r2⟩ (by show N - (i + 1) < N - i; omega)
end Go.Proofs.Ytfplilpefhhpnaa
/- node: Make, upper (written by gennd6.py). -/
namespace Go.Proofs.Ytfplilpefhhpnaa
set_option linter.unusedVariables false
set_option linter.unusedSimpArgs false
open Go.RowKit Go.Shelf
set_option maxRecDepth 100000
set_option maxHeartbeats 8000000
theorem layW_lt {h : List Nat} {ps : List Pr} (hh : ∀ x ∈ h, x < 18446744073709551616) (hp : ∀ p ∈ ps, p.1 < 18446744073709551616 ∧ p.2 < 18446744073709551616) : ∀ x ∈ layW h ps, x < 18446744073709551616 := by
  intro x hx
  unfold layW flP at hx
  rw [List.mem_append, List.mem_append, List.mem_flatMap] at hx
  rcases hx with (hx | ⟨p, h1, h2⟩) | hx
  · exact hh x hx
  · have := hp p h1
    simp only [List.mem_cons, List.not_mem_nil, or_false] at h2
    rcases h2 with rfl | rfl
    · exact this.1
    · exact this.2
  · rw [(List.mem_replicate.1 hx).2]
    decide
theorem wrap_lt {s : Int} {u : Nat} (h : IntKind.u64.wrap s = (u : Int)) : u < 18446744073709551616 := by
  rw [IntKind.wrap_u64] at h
  omega
theorem row_uE {w : World} {g n : Nat} {ws : List Nat} (r : RowL w g 25 (ints .u64 ws)) (hn : ws.length = n) : ReadsT uE 1 w (.slice (some ⟨g, 0, none⟩) n n) ws := reads_uE (RowL.asInts r .u64 ws rfl hn)
section
variable (l : Nat) (s : Int) (su lo le : Nat) (wy : Int) (wu : Nat) (ps : List Pr) (pv : Value) (w : World) (hv : ReadsT prE 2 w pv ps) (hl : l ≤ 12) (hn : ps.length ≤ 27) (hsu : IntKind.u64.wrap s = (su : Int)) (hwu : IntKind.u64.wrap wy = (wu : Int)) (hlo : lo < 18446744073709551616) (hle : le < 18446744073709551616) (hpl : ∀ p ∈ ps, p.1 < 18446744073709551616 ∧ p.2 < 18446744073709551616)
include hv hl hn hsu hwu hlo hle hpl
theorem make_yes (hS : nodeS (layW (layH (7522529147838689024 + l) su lo le wu) ps)) (hR : (readF le ((layW (layH (7522529147838689024 + l) su lo le wu) ps).drop 8)).length = ps.length) : Calls Try.prog 25 #[nodeV (l : Int) s lo le wy pv] w fun e w' => (∃ g, e = .returned (.tuple #[.slice (some ⟨g, 0, none⟩) 64 64, .int .i64 0]) ∧ RowL w' g 25 (ints .u64 (layW (layH (7522529147838689024 + l) su lo le wu) ps)) ∧ w.heap.size ≤ g) ∧ Below w.heap.size w w' := by
  have q := Below.refl w.heap.size w
  obtain ⟨N, hN⟩ : ∃ N, ps.length = N := ⟨_, rfl⟩
  obtain ⟨a, c, rfl, hc⟩ := hv.form hN
  have hlay := fun W (b : Below w.heap.size w W) => lay_any l s su lo le wy wu ps (.slice a N c) W (hv.up b) hl (by omega) hsu hwu
  have hb : ∀ x ∈ layW (layH (7522529147838689024 + l) su lo le wu) ps, x < 18446744073709551616 := layW_lt (by
    have := wrap_lt hsu
    have := wrap_lt hwu
    intro x hx
    simp only [List.mem_cons, List.not_mem_nil, or_false] at hx
    rcases hx with rfl | rfl | rfl | rfl | rfl | rfl | rfl | rfl <;> omega) hpl
  have hlen : (layW (layH (7522529147838689024 + l) su lo le wu) ps).length = 64 := layW_len rfl (by omega)
  have hg3 : gw (layW (layH (7522529147838689024 + l) su lo le wu) ps) 3 = le := rfl
  rw [hN] at hn hR
  clear hv hsu hwu hpl
  obtain ⟨Y, hX⟩ : ∃ Y, layW (layH (7522529147838689024 + l) su lo le wu) ps = Y := ⟨_, rfl⟩
  rw [hX] at hlay hb hlen hg3 hS hR ⊢
  have hset := fun W g (r : RowL W g 25 (ints .u64 Y)) => (nsettled_any 64 _ Y W (row_uE r hlen) hlen hb).mono fun e w' h => (⟨h.1 hS, h.2.2.2⟩ : (∃ vo, e = .returned (.tuple #[vwV Y vo (.slice (some ⟨g, 0, none⟩) 64 64), .int .i64 0]) ∧ OwnsT prE 2 w' W.heap.size 46 vo (readF (gw Y 3) (Y.drop 8))) ∧ Below W.heap.size W w')
  rw [hg3] at hset
  refine X.fn Try.func25 rfl (n := 41) rfl rfl ?_
  refine CC.seq ?_
  refine CC.region ?_
  refine LL.box [Value.int IntKind.i64 ↑l, Value.int IntKind.i64 s, Value.int IntKind.u64 ↑lo, Value.int IntKind.u64 ↑le, Value.int IntKind.i64 wy, Value.slice a N c] rfl rfl rfl rfl rfl ?_
  intro W16 g17 eg17 r18 z19 b15
  replace q := q.trans (b15.mono q.size)
  refine LL.val (R.assign rfl rfl) rfl rfl rfl ?_
  refine LL.val (R.assign rfl rfl) rfl rfl rfl ?_
  refine LL.nilS ?_
  refine CC.seq ?_
  refine CC.seq ?_
  refine CC.region ?_
  refine LL.val (R.field rfl rfl (I.fld rfl)) rfl rfl rfl ?_
  refine LL.val (R.load rfl rfl (I.ld1 rfl (RowL.cell r18 rfl))) rfl rfl rfl ?_
  refine LL.val (R.ltF rfl rfl rfl (by omega)) rfl rfl rfl ?_
  refine LL.val (R.move rfl rfl) rfl rfl rfl ?_
  refine LL.val (R.field rfl rfl (I.fld rfl)) rfl rfl rfl ?_
  refine LL.val (R.load rfl rfl (I.ld1 rfl (RowL.cell r18 rfl))) rfl rfl rfl ?_
  refine LL.val (R.gtF rfl rfl rfl (by omega)) rfl rfl rfl ?_
  refine LL.val (R.pick rfl rfl rfl) rfl rfl rfl ?_
  refine LL.val (R.move rfl rfl) rfl rfl rfl ?_
  refine LL.val (R.field rfl rfl (I.fld rfl)) rfl rfl rfl ?_
  refine LL.val (R.load rfl rfl (I.ld1 rfl (RowL.cell r18 rfl))) rfl rfl rfl ?_
  refine LL.val (R.len rfl rfl rfl rfl) rfl rfl rfl ?_
  refine LL.val (R.gtF rfl rfl rfl (by omega)) rfl rfl rfl ?_
  refine LL.val (R.pick rfl rfl rfl) rfl rfl rfl ?_
  refine LL.nilS ?_
  refine CC.no rfl ?_
  refine CC.skip ?_
  refine EE.thenN ?_
  refine CC.seq ?_
  refine CC.region ?_
  refine LL.val (R.load rfl rfl (I.ldNc (vs := [Value.int IntKind.i64 ↑l, Value.int IntKind.i64 s, Value.int IntKind.u64 ↑lo, Value.int IntKind.u64 ↑le, Value.int IntKind.i64 wy, Value.slice a N c]) (RowL.cells r18 rfl) (by rfl) (by rfl))) rfl rfl rfl ?_
  have l296 := r18.lt
  (refine LL.call (R.call rfl rfl rfl) rfl rfl rfl (hlay _ q) ?_; rintro e W295 ⟨g7, rfl, r7, hg7, b292⟩; refine ⟨_, rfl, ?_⟩)
  have zb292 := b292.size
  replace r18 := r18.up b292
  replace b15 := b15.trans (b292.mono b15.size)
  replace q := q.trans (b292.mono q.size)
  refine LL.val (R.assign rfl rfl) rfl rfl rfl ?_
  refine LL.nilS ?_
  refine CC.seq ?_
  refine CC.region ?_
  refine LL.val (R.move rfl rfl) rfl rfl rfl ?_
  have l349 := r7.lt
  have l350 := r18.lt
  (refine LL.call (R.call rfl rfl rfl) rfl rfl rfl (hset _ _ r7) ?_; rintro e W348 ⟨⟨vo, rfl, oo⟩, b345⟩; refine ⟨_, rfl, ?_⟩; obtain ⟨av, cv, rfl, hcv⟩ := (oo.reads prEnc).form hR; clear oo)
  have zb345 := b345.size
  replace r7 := r7.up b345
  replace b292 := b292.trans (b345.mono b292.size)
  replace r18 := r18.up b345
  replace b15 := b15.trans (b345.mono b15.size)
  replace q := q.trans (b345.mono q.size)
  refine LL.val (R.move rfl rfl) rfl rfl rfl ?_
  refine LL.val (R.extract rfl rfl rfl) rfl rfl rfl ?_
  refine LL.val (R.extract rfl rfl rfl) rfl rfl rfl ?_
  have l426 := r7.lt
  have l427 := r18.lt
  refine LL.alloc ([Value.int IntKind.i64 0, Value.int IntKind.i64 0, Value.int IntKind.u64 0, Value.int IntKind.u64 0, Value.int IntKind.i64 0, Value.slice none 0 0, Value.slice none 0 0]) rfl rfl rfl rfl rfl ?_
  intro W429 g430 eg430 r431 z432 b428
  replace b345 := b345.trans (b428.mono b345.size)
  replace r7 := r7.up b428
  replace b292 := b292.trans (b428.mono b292.size)
  replace r18 := r18.up b428
  replace b15 := b15.trans (b428.mono b15.size)
  replace q := q.trans (b428.mono q.size)
  refine LL.storeN (vs := [Value.int IntKind.i64 ↑(gw Y 0 % 256), Value.int IntKind.i64 ↑(gw Y 1), Value.int IntKind.u64 ↑(gw Y 2), Value.int IntKind.u64 ↑(gw Y 3), Value.int IntKind.i64 ↑(gw Y 4), Value.slice av N cv, Value.slice (some { block := g7, off := 0 }) 64 64]) rfl rfl rfl rfl r431 (by exact Nat.le_of_ble_eq_true rfl) (ones_of rfl) rfl rfl ?_
  intro W454 r455 b453 z456
  have hlb453 := r431.lt
  replace r455 : RowL W454 _ 70 [Value.int IntKind.i64 ↑(gw Y 0 % 256), Value.int IntKind.i64 ↑(gw Y 1), Value.int IntKind.u64 ↑(gw Y 2), Value.int IntKind.u64 ↑(gw Y 3), Value.int IntKind.i64 ↑(gw Y 4), Value.slice av N cv, Value.slice (some { block := g7, off := 0 }) 64 64] := r455
  clear r431
  replace b428 := b428.grown b453 b428.size (by rintro k ⟨⟩; omega)
  replace b345 := b345.grown b453 b345.size (by rintro k ⟨⟩; omega)
  replace r7 := r7.gr b453 (by have := r7.lt; omega)
  replace b292 := b292.grown b453 b292.size (by rintro k ⟨⟩; omega)
  replace r18 := r18.gr b453 (by have := r18.lt; omega)
  replace b15 := b15.grown b453 b15.size (by rintro k ⟨⟩; omega)
  replace q := q.grown b453 q.size (by rintro k ⟨⟩; omega)
  have r431 := r455
  clear r455
  refine LL.val (R.assign rfl rfl) rfl rfl rfl ?_
  refine LL.nilS ?_
  refine CC.seq ?_
  refine CC.seq ?_
  refine CC.region ?_
  refine LL.val (R.move rfl rfl) rfl rfl rfl ?_
  refine LL.val (R.neF rfl rfl rfl (by omega)) rfl rfl rfl ?_
  refine LL.val (R.move rfl rfl) rfl rfl rfl ?_
  refine LL.val (R.field rfl rfl (I.fld rfl)) rfl rfl rfl ?_
  refine LL.val (R.field rfl rfl (I.fld rfl)) rfl rfl rfl ?_
  refine LL.val (R.load rfl rfl (I.ld1 rfl (RowL.cell r431 rfl))) rfl rfl rfl ?_
  refine LL.val (R.len rfl rfl rfl rfl) rfl rfl rfl ?_
  refine LL.val (R.field rfl rfl (I.fld rfl)) rfl rfl rfl ?_
  refine LL.val (R.load rfl rfl (I.ld1 rfl (RowL.cell r18 rfl))) rfl rfl rfl ?_
  refine LL.val (R.len rfl rfl rfl rfl) rfl rfl rfl ?_
  refine LL.val (R.neF rfl rfl rfl (by omega)) rfl rfl rfl ?_
  refine LL.val (R.pick rfl rfl rfl) rfl rfl rfl ?_
  refine LL.nilS ?_
  refine CC.no rfl ?_
  refine CC.skip ?_
  refine EE.thenN ?_
  refine CC.seq ?_
  refine CC.region ?_
  refine LL.val (R.move rfl rfl) rfl rfl rfl ?_
  refine LL.val (R.assign rfl rfl) rfl rfl rfl ?_
  refine LL.val (R.assign rfl rfl) rfl rfl rfl ?_
  refine LL.nilS ?_
  refine CC.ret ?_
  refine EE.ret _ rfl rfl ?_
  exact ⟨⟨_, rfl, by assumption, by omega⟩, q⟩
end
end Go.Proofs.Ytfplilpefhhpnaa
/- node: upper (written by gennd7.py). -/
namespace Go.Proofs.Ytfplilpefhhpnaa
set_option linter.unusedVariables false
set_option linter.unusedSimpArgs false
open Go.RowKit Go.Shelf
set_option maxRecDepth 100000
set_option maxHeartbeats 8000000
section
variable {P : Program} {T e : TypeId} {k : Nat} {w : World}
/-- A slice from one on, as ReadsT.from says it. -/
theorem I.slFromG {a : Option Addr} {len cap lo : Nat} (h : slB P T = some (e, k)) (h1 : lo ≤ len) : (Instr.sliceAt T (.slice a len cap) (some (.int .i64 (lo : Int))) none none).run P w = .ok (.slice (if cap = lo then a else a.map fun p => p.add (lo * k)) (len - lo) (cap - lo)) w := by
  refine slAt_sl h ?_
  obtain ⟨hu, hs⟩ := sl_of h
  obtain ⟨i, hi', hsz⟩ : ∃ i, P.info? e = some i ∧ i.size = k := by
    unfold szB at hs
    cases hq : P.info? e with
    | none => rw [hq] at hs; cases hs
    | some i => rw [hq] at hs; exact ⟨i, rfl, by simpa using hs⟩
  simp [Instr.slice, run_underlying hu, Instr.sliceBounds, run_sliceBound, sizeOf, typeInfo, hi', hsz, (by omega : (lo : Int) ≤ (len : Int))]
theorem I.slFromE {a : Option Addr} {len cap lo : Nat} (h : slB P T = some (e, k)) (h1 : lo ≤ len) (h2 : cap = lo) : (Instr.sliceAt T (.slice a len cap) (some (.int .i64 (lo : Int))) none none).run P w = .ok (.slice a (len - lo) (cap - lo)) w := by
  rw [I.slFromG h h1, if_pos h2]
end
abbrev drV (a : Option Addr) (N c m : Nat) : Value := .slice (if c = m then a else a.map fun p => p.add (m * 2)) (N - m) (c - m)
section
variable (gv : Nat) (l : Nat) (s : Int) (lo le : Nat) (wy : Int) (a : Option Addr) (N c : Nat) (vs : Value) (ps : List Pr) (m k p : Nat) (w : World) (r : RowL w gv 70 (viewL (l : Int) s lo le wy (.slice a N c) vs)) (hv : ReadsT prE 2 w (.slice a N c) ps) (hN : ps.length = N) (hb : N ≤ 1048576) (hx : ps[m]? = some (k, p))
include r hv hN hb hx
theorem upper_leaf (h0 : l = 0) : Calls Try.prog 37 #[.pointer (some ⟨gv, 0, none⟩), .int .i64 (m : Int)] w fun e w' => e = .returned (nodeV (l : Int) s k 9223372036854775808 0 (drV a N c m)) ∧ Below w.heap.size w w' := by
  have q := Below.refl w.heap.size w
  have _hb := hb
  have hm : m < N := by rw [← hN]; exact (List.getElem?_eq_some_iff.1 hx).1
  obtain ⟨a', c', ee, hc⟩ := hv.form hN
  cases ee
  obtain ⟨b1, o1, rfl, _, _⟩ := hv.get prEnc hx
  have c1 : w.cell? ⟨b1, o1 + m * 2, none⟩ = some (.int .u64 (k : Int)) := (hv.elemN prEnc hx).cell (j := 0) rfl
  have e : drV (some ⟨b1, o1, none⟩) N c m = .slice (some ⟨b1, o1 + m * 2, none⟩) (N - m) (c - m) := by
    unfold drV
    rw [if_neg (by omega)]
    simp [Addr.add]
  rw [e]
  clear hv e
  refine X.fn Try.func37 rfl (n := 59) rfl rfl ?_
  refine CC.seq ?_
  refine CC.region ?_
  have l1 := r.lt
  refine LL.alloc ([Value.int IntKind.i64 0, Value.int IntKind.i64 0, Value.int IntKind.u64 0, Value.int IntKind.u64 0, Value.int IntKind.i64 0, Value.slice none 0 0]) rfl rfl rfl rfl rfl ?_
  intro W3 g4 eg4 r5 z6 b2
  replace q := q.trans (b2.mono q.size)
  replace r := r.up b2
  replace c1 := cell_up c1 b2
  refine LL.nilS ?_
  refine CC.seq ?_
  refine CC.freeZ (fun W_ j => j < W_.heap.size ∧ (True)) (by kernel_rfl) (by kernel_rfl) (fun W8 b7 z9 => ?_)
  replace r5 := r5.up b7
  replace b2 := b2.trans (b7.mono b2.size)
  replace q := q.trans (b7.mono q.size)
  replace r := r.up b7
  replace c1 := cell_up c1 b7
  have hok : Kept (fun j => j < W8.heap.size ∧ (True)) W8 W8 := Kept.refl _ _
  have fzr5 := fzRow (K := fun j => j < W8.heap.size ∧ (True)) r5 ⟨r5.lt, (by first | trivial | omega)⟩
  have fzr := fzRow (K := fun j => j < W8.heap.size ∧ (True)) r ⟨r.lt, (by first | trivial | omega)⟩
  have fzc1 := fzCell (K := fun j => j < W8.heap.size ∧ (True)) c1 ⟨World.block_lt_of_cell? _ _ c1, (by first | trivial | omega)⟩
  refine AA.pure 0 rfl hok (by kernel_rfl) (fun w' b' => R.move rfl rfl) rfl rfl ?_
  refine AA.pure 1 rfl hok (by kernel_rfl) (fun w' b' => R.nil rfl rfl) rfl rfl ?_
  refine AA.pure 2 rfl hok (by kernel_rfl) (fun w' b' => R.field rfl rfl (I.fld rfl)) rfl rfl ?_
  refine AA.pure 3 rfl hok (by kernel_rfl) (fun w' b' => R.field rfl rfl (I.fld rfl)) rfl rfl ?_
  refine AA.pure 4 rfl hok (by kernel_rfl) (fun w' b' => R.load rfl rfl (I.ld1 rfl (RowL.cell (fzr w' b') rfl))) rfl rfl ?_
  refine AA.pure 5 rfl hok (by kernel_rfl) (fun w' b' => R.move rfl rfl) rfl rfl ?_
  refine AA.pure 6 rfl hok (by kernel_rfl) (fun w' b' => R.nil rfl rfl) rfl rfl ?_
  refine AA.pure 7 rfl hok (by kernel_rfl) (fun w' b' => R.field rfl rfl (I.fld rfl)) rfl rfl ?_
  refine AA.pure 8 rfl hok (by kernel_rfl) (fun w' b' => R.field rfl rfl (I.fld rfl)) rfl rfl ?_
  refine AA.pure 9 rfl hok (by kernel_rfl) (fun w' b' => R.load rfl rfl (I.ld1 rfl (RowL.cell (fzr w' b') rfl))) rfl rfl ?_
  refine AA.pure 10 rfl hok (by kernel_rfl) (fun w' b' => R.move rfl rfl) rfl rfl ?_
  refine AA.pure 11 rfl hok (by kernel_rfl) (fun w' b' => R.nil rfl rfl) rfl rfl ?_
  refine AA.pure 12 rfl hok (by kernel_rfl) (fun w' b' => R.field rfl rfl (I.fld rfl)) rfl rfl ?_
  refine AA.pure 13 rfl hok (by kernel_rfl) (fun w' b' => R.field rfl rfl (I.fld rfl)) rfl rfl ?_
  refine AA.pure 14 rfl hok (by kernel_rfl) (fun w' b' => R.load rfl rfl (I.ld1 rfl (RowL.cell (fzr w' b') rfl))) rfl rfl ?_
  refine AA.pure 15 rfl hok (by kernel_rfl) (fun w' b' => R.move rfl rfl) rfl rfl ?_
  refine AA.pure 16 rfl hok (by kernel_rfl) (fun w' b' => R.index rfl rfl rfl (I.ixS rfl (by omega))) rfl rfl ?_
  refine AA.pure 17 rfl hok (by kernel_rfl) (fun w' b' => R.field rfl rfl (I.fld rfl)) rfl rfl ?_
  refine AA.pure 18 rfl hok (by kernel_rfl) (fun w' b' => R.load rfl rfl (I.ld1 rfl (fzc1 w' b'))) rfl rfl ?_
  refine AA.pure 19 rfl hok (by kernel_rfl) (fun w' b' => R.move rfl rfl) rfl rfl ?_
  refine AA.pure 20 rfl hok (by kernel_rfl) (fun w' b' => R.nil rfl rfl) rfl rfl ?_
  refine AA.pure 21 rfl hok (by kernel_rfl) (fun w' b' => R.field rfl rfl (I.fld rfl)) rfl rfl ?_
  refine AA.pure 22 rfl hok (by kernel_rfl) (fun w' b' => R.field rfl rfl (I.fld rfl)) rfl rfl ?_
  refine AA.pure 23 rfl hok (by kernel_rfl) (fun w' b' => R.load rfl rfl (I.ld1 rfl (RowL.cell (fzr w' b') rfl))) rfl rfl ?_
  refine AA.pure 24 rfl hok (by kernel_rfl) (fun w' b' => R.move rfl rfl) rfl rfl ?_
  refine AA.pure 25 rfl hok (by kernel_rfl) (fun w' b' => R.slice rfl rfl rfl rfl rfl (I.slFrom rfl (by omega) (by omega) (by omega))) rfl rfl ?_
  refine AA.pure 26 rfl hok (by kernel_rfl) (fun w' b' => R.buildV rfl rfl (v := .agg #[Value.int IntKind.i64 ↑l, Value.int IntKind.i64 s, Value.int IntKind.u64 ↑k, Value.int IntKind.u64 9223372036854775808, Value.int IntKind.i64 0, Value.slice (some { block := b1, off := o1 + m * (fun x => x.size) Try.prog.types[46] }) (N - m) (c - m)]) (fun _ => by kernel_rfl)) rfl rfl ?_
  refine AA.one 27 (by kernel_rfl) ?_
  have l10 := r5.lt
  have l11 := r.lt
  refine ZR.alloc ([Value.int IntKind.i64 0, Value.int IntKind.i64 0, Value.int IntKind.u64 0, Value.int IntKind.u64 0, Value.int IntKind.i64 0, Value.slice none 0 0]) rfl rfl rfl rfl rfl rfl ?_
  intro W13 g14 eg14 r15 z16 b12
  replace b7 := b7.trans (b12.mono b7.size)
  replace r5 := r5.up b12
  replace b2 := b2.trans (b12.mono b2.size)
  replace q := q.trans (b12.mono q.size)
  replace r := r.up b12
  replace c1 := cell_up c1 b12
  replace hok := hok.trans (bkept b12 (fun j h => by have := h.1; have := hok.size; omega))
  have y17 := hok.size
  refine ⟨hok, ?_⟩
  refine AA.one 28 (by kernel_rfl) ?_
  refine ZR.storeN (vs := [Value.int IntKind.i64 ↑l, Value.int IntKind.i64 s, Value.int IntKind.u64 ↑k, Value.int IntKind.u64 9223372036854775808, Value.int IntKind.i64 0, Value.slice (some { block := b1, off := o1 + m * (fun x => x.size) Try.prog.types[46] }) (N - m) (c - m)]) rfl rfl rfl rfl rfl r15 (by exact Nat.le_of_ble_eq_true rfl) (ones_of rfl) rfl rfl ?_
  intro W19 r20 b18 z21
  have hlb18 := r15.lt
  replace r20 : RowL W19 _ 29 [Value.int IntKind.i64 ↑l, Value.int IntKind.i64 s, Value.int IntKind.u64 ↑k, Value.int IntKind.u64 9223372036854775808, Value.int IntKind.i64 0, Value.slice (some { block := b1, off := o1 + m * (fun x => x.size) Try.prog.types[46] }) (N - m) (c - m)] := r20
  clear r15
  replace b12 := b12.grown b18 b12.size (by rintro k ⟨⟩; omega)
  replace b7 := b7.grown b18 b7.size (by rintro k ⟨⟩; omega)
  replace r5 := r5.gr b18 (by have := r5.lt; omega)
  replace b2 := b2.grown b18 b2.size (by rintro k ⟨⟩; omega)
  replace q := q.grown b18 q.size (by rintro k ⟨⟩; omega)
  replace r := r.gr b18 (by have := r.lt; omega)
  replace c1 := cell_gr c1 b18 (by omega)
  replace hok := hok.trans (grown_kept b18 (fun j h => by have := h.1; have := hok.size; omega) (fun j h e => by cases e; have h2 := h.1; have h3 := h.2; omega))
  have r15 := r20
  clear r20
  refine ⟨hok, ?_⟩
  refine AA.done rfl ?_
  clear fzr5 fzr fzc1 hok
  refine EE.thenN ?_
  refine CC.seq ?_
  refine CC.seq ?_
  refine CC.region ?_
  refine LL.val (R.move rfl rfl) rfl rfl rfl ?_
  refine LL.val (R.nil rfl rfl) rfl rfl rfl ?_
  refine LL.val (R.field rfl rfl (I.fld rfl)) rfl rfl rfl ?_
  refine LL.val (R.field rfl rfl (I.fld rfl)) rfl rfl rfl ?_
  refine LL.val (R.load rfl rfl (I.ld1 rfl (RowL.cell r rfl))) rfl rfl rfl ?_
  refine LL.val (R.gtF rfl rfl rfl (by omega)) rfl rfl rfl ?_
  refine LL.nilS ?_
  refine CC.no rfl ?_
  refine CC.skip ?_
  refine EE.thenN ?_
  refine CC.seq ?_
  refine CC.region ?_
  refine LL.val (R.load rfl rfl (I.ldNc (vs := [Value.int IntKind.i64 ↑l, Value.int IntKind.i64 s, Value.int IntKind.u64 ↑k, Value.int IntKind.u64 9223372036854775808, Value.int IntKind.i64 0, Value.slice (some { block := b1, off := o1 + m * (fun x => x.size) Try.prog.types[46] }) (N - m) (c - m)]) (RowL.cells r15 rfl) (by rfl) (by rfl))) rfl rfl rfl ?_
  refine LL.storeN (vs := [Value.int IntKind.i64 ↑l, Value.int IntKind.i64 s, Value.int IntKind.u64 ↑k, Value.int IntKind.u64 9223372036854775808, Value.int IntKind.i64 0, Value.slice (some { block := b1, off := o1 + m * (fun x => x.size) Try.prog.types[46] }) (N - m) (c - m)]) rfl rfl rfl rfl r5 (by exact Nat.le_of_ble_eq_true rfl) (ones_of rfl) rfl rfl ?_
  intro W23 r24 b22 z25
  have hlb22 := r5.lt
  replace r24 : RowL W23 _ 29 [Value.int IntKind.i64 ↑l, Value.int IntKind.i64 s, Value.int IntKind.u64 ↑k, Value.int IntKind.u64 9223372036854775808, Value.int IntKind.i64 0, Value.slice (some { block := b1, off := o1 + m * (fun x => x.size) Try.prog.types[46] }) (N - m) (c - m)] := r24
  clear r5
  replace b2 := b2.grown b22 b2.size (by rintro k ⟨⟩; omega)
  replace q := q.grown b22 q.size (by rintro k ⟨⟩; omega)
  replace r := r.gr b22 (by have := r.lt; omega)
  replace c1 := cell_gr c1 b22 (by omega)
  replace r15 := r15.gr b22 (by have := r15.lt; omega)
  have r5 := r24
  clear r24
  refine LL.nilS ?_
  refine CC.ret ?_
  refine EE.retC rfl rfl (lvNc (RowL.cells0 (by assumption)) (by rfl) (by rfl)) ?_
  exact ⟨rfl, q⟩
theorem upper_in (h0 : 0 < l) : Calls Try.prog 37 #[.pointer (some ⟨gv, 0, none⟩), .int .i64 (m : Int)] w fun e w' => e = .returned (nodeV (l : Int) s k p 0 (drV a N c (m + 1))) ∧ Below w.heap.size w w' := by
  have q := Below.refl w.heap.size w
  have hm : m < N := by rw [← hN]; exact (List.getElem?_eq_some_iff.1 hx).1
  obtain ⟨a', c', ee, hc⟩ := hv.form hN
  cases ee
  obtain ⟨b1, o1, rfl, _, _⟩ := hv.get prEnc hx
  have c1 : w.cell? ⟨b1, o1 + m * 2, none⟩ = some (.int .u64 (k : Int)) := (hv.elemN prEnc hx).cell (j := 0) rfl
  have c2 : w.cell? ⟨b1, o1 + m * 2 + 1, none⟩ = some (.int .u64 (p : Int)) := (hv.elemN prEnc hx).cell (j := 1) rfl
  by_cases hc1 : c = m + 1
  · have e : drV (some ⟨b1, o1, none⟩) N c (m + 1) = .slice (some ⟨b1, o1, none⟩) (N - (m + 1)) (c - (m + 1)) := by
      unfold drV
      rw [if_pos hc1]
    rw [e]
    clear hv e
    refine X.fn Try.func37 rfl (n := 59) rfl rfl ?_
    refine CC.seq ?_
    refine CC.region ?_
    have l1 := r.lt
    refine LL.alloc ([Value.int IntKind.i64 0, Value.int IntKind.i64 0, Value.int IntKind.u64 0, Value.int IntKind.u64 0, Value.int IntKind.i64 0, Value.slice none 0 0]) rfl rfl rfl rfl rfl ?_
    intro W3 g4 eg4 r5 z6 b2
    replace q := q.trans (b2.mono q.size)
    replace r := r.up b2
    replace c1 := cell_up c1 b2
    replace c2 := cell_up c2 b2
    refine LL.nilS ?_
    refine CC.seq ?_
    refine CC.freeZ (fun W_ j => j < W_.heap.size ∧ (True)) (by kernel_rfl) (by kernel_rfl) (fun W8 b7 z9 => ?_)
    replace r5 := r5.up b7
    replace b2 := b2.trans (b7.mono b2.size)
    replace q := q.trans (b7.mono q.size)
    replace r := r.up b7
    replace c1 := cell_up c1 b7
    replace c2 := cell_up c2 b7
    have hok : Kept (fun j => j < W8.heap.size ∧ (True)) W8 W8 := Kept.refl _ _
    have fzr5 := fzRow (K := fun j => j < W8.heap.size ∧ (True)) r5 ⟨r5.lt, (by first | trivial | omega)⟩
    have fzr := fzRow (K := fun j => j < W8.heap.size ∧ (True)) r ⟨r.lt, (by first | trivial | omega)⟩
    have fzc1 := fzCell (K := fun j => j < W8.heap.size ∧ (True)) c1 ⟨World.block_lt_of_cell? _ _ c1, (by first | trivial | omega)⟩
    have fzc2 := fzCell (K := fun j => j < W8.heap.size ∧ (True)) c2 ⟨World.block_lt_of_cell? _ _ c2, (by first | trivial | omega)⟩
    refine AA.pure 0 rfl hok (by kernel_rfl) (fun w' b' => R.move rfl rfl) rfl rfl ?_
    refine AA.pure 1 rfl hok (by kernel_rfl) (fun w' b' => R.nil rfl rfl) rfl rfl ?_
    refine AA.pure 2 rfl hok (by kernel_rfl) (fun w' b' => R.field rfl rfl (I.fld rfl)) rfl rfl ?_
    refine AA.pure 3 rfl hok (by kernel_rfl) (fun w' b' => R.field rfl rfl (I.fld rfl)) rfl rfl ?_
    refine AA.pure 4 rfl hok (by kernel_rfl) (fun w' b' => R.load rfl rfl (I.ld1 rfl (RowL.cell (fzr w' b') rfl))) rfl rfl ?_
    refine AA.pure 5 rfl hok (by kernel_rfl) (fun w' b' => R.move rfl rfl) rfl rfl ?_
    refine AA.pure 6 rfl hok (by kernel_rfl) (fun w' b' => R.nil rfl rfl) rfl rfl ?_
    refine AA.pure 7 rfl hok (by kernel_rfl) (fun w' b' => R.field rfl rfl (I.fld rfl)) rfl rfl ?_
    refine AA.pure 8 rfl hok (by kernel_rfl) (fun w' b' => R.field rfl rfl (I.fld rfl)) rfl rfl ?_
    refine AA.pure 9 rfl hok (by kernel_rfl) (fun w' b' => R.load rfl rfl (I.ld1 rfl (RowL.cell (fzr w' b') rfl))) rfl rfl ?_
    refine AA.pure 10 rfl hok (by kernel_rfl) (fun w' b' => R.move rfl rfl) rfl rfl ?_
    refine AA.pure 11 rfl hok (by kernel_rfl) (fun w' b' => R.nil rfl rfl) rfl rfl ?_
    refine AA.pure 12 rfl hok (by kernel_rfl) (fun w' b' => R.field rfl rfl (I.fld rfl)) rfl rfl ?_
    refine AA.pure 13 rfl hok (by kernel_rfl) (fun w' b' => R.field rfl rfl (I.fld rfl)) rfl rfl ?_
    refine AA.pure 14 rfl hok (by kernel_rfl) (fun w' b' => R.load rfl rfl (I.ld1 rfl (RowL.cell (fzr w' b') rfl))) rfl rfl ?_
    refine AA.pure 15 rfl hok (by kernel_rfl) (fun w' b' => R.move rfl rfl) rfl rfl ?_
    refine AA.pure 16 rfl hok (by kernel_rfl) (fun w' b' => R.index rfl rfl rfl (I.ixS rfl (by omega))) rfl rfl ?_
    refine AA.pure 17 rfl hok (by kernel_rfl) (fun w' b' => R.field rfl rfl (I.fld rfl)) rfl rfl ?_
    refine AA.pure 18 rfl hok (by kernel_rfl) (fun w' b' => R.load rfl rfl (I.ld1 rfl (fzc1 w' b'))) rfl rfl ?_
    refine AA.pure 19 rfl hok (by kernel_rfl) (fun w' b' => R.move rfl rfl) rfl rfl ?_
    refine AA.pure 20 rfl hok (by kernel_rfl) (fun w' b' => R.nil rfl rfl) rfl rfl ?_
    refine AA.pure 21 rfl hok (by kernel_rfl) (fun w' b' => R.field rfl rfl (I.fld rfl)) rfl rfl ?_
    refine AA.pure 22 rfl hok (by kernel_rfl) (fun w' b' => R.field rfl rfl (I.fld rfl)) rfl rfl ?_
    refine AA.pure 23 rfl hok (by kernel_rfl) (fun w' b' => R.load rfl rfl (I.ld1 rfl (RowL.cell (fzr w' b') rfl))) rfl rfl ?_
    refine AA.pure 24 rfl hok (by kernel_rfl) (fun w' b' => R.move rfl rfl) rfl rfl ?_
    refine AA.pure 25 rfl hok (by kernel_rfl) (fun w' b' => R.slice rfl rfl rfl rfl rfl (I.slFrom rfl (by omega) (by omega) (by omega))) rfl rfl ?_
    refine AA.pure 26 rfl hok (by kernel_rfl) (fun w' b' => R.buildV rfl rfl (v := .agg #[Value.int IntKind.i64 ↑l, Value.int IntKind.i64 s, Value.int IntKind.u64 ↑k, Value.int IntKind.u64 9223372036854775808, Value.int IntKind.i64 0, Value.slice (some { block := b1, off := o1 + m * (fun x => x.size) Try.prog.types[46] }) (N - m) (c - m)]) (fun _ => by kernel_rfl)) rfl rfl ?_
    refine AA.one 27 (by kernel_rfl) ?_
    have l10 := r5.lt
    have l11 := r.lt
    refine ZR.alloc ([Value.int IntKind.i64 0, Value.int IntKind.i64 0, Value.int IntKind.u64 0, Value.int IntKind.u64 0, Value.int IntKind.i64 0, Value.slice none 0 0]) rfl rfl rfl rfl rfl rfl ?_
    intro W13 g14 eg14 r15 z16 b12
    replace b7 := b7.trans (b12.mono b7.size)
    replace r5 := r5.up b12
    replace b2 := b2.trans (b12.mono b2.size)
    replace q := q.trans (b12.mono q.size)
    replace r := r.up b12
    replace c1 := cell_up c1 b12
    replace c2 := cell_up c2 b12
    replace hok := hok.trans (bkept b12 (fun j h => by have := h.1; have := hok.size; omega))
    have y17 := hok.size
    refine ⟨hok, ?_⟩
    refine AA.one 28 (by kernel_rfl) ?_
    refine ZR.storeN (vs := [Value.int IntKind.i64 ↑l, Value.int IntKind.i64 s, Value.int IntKind.u64 ↑k, Value.int IntKind.u64 9223372036854775808, Value.int IntKind.i64 0, Value.slice (some { block := b1, off := o1 + m * (fun x => x.size) Try.prog.types[46] }) (N - m) (c - m)]) rfl rfl rfl rfl rfl r15 (by exact Nat.le_of_ble_eq_true rfl) (ones_of rfl) rfl rfl ?_
    intro W19 r20 b18 z21
    have hlb18 := r15.lt
    replace r20 : RowL W19 _ 29 [Value.int IntKind.i64 ↑l, Value.int IntKind.i64 s, Value.int IntKind.u64 ↑k, Value.int IntKind.u64 9223372036854775808, Value.int IntKind.i64 0, Value.slice (some { block := b1, off := o1 + m * (fun x => x.size) Try.prog.types[46] }) (N - m) (c - m)] := r20
    clear r15
    replace b12 := b12.grown b18 b12.size (by rintro k ⟨⟩; omega)
    replace b7 := b7.grown b18 b7.size (by rintro k ⟨⟩; omega)
    replace r5 := r5.gr b18 (by have := r5.lt; omega)
    replace b2 := b2.grown b18 b2.size (by rintro k ⟨⟩; omega)
    replace q := q.grown b18 q.size (by rintro k ⟨⟩; omega)
    replace r := r.gr b18 (by have := r.lt; omega)
    replace c1 := cell_gr c1 b18 (by omega)
    replace c2 := cell_gr c2 b18 (by omega)
    replace hok := hok.trans (grown_kept b18 (fun j h => by have := h.1; have := hok.size; omega) (fun j h e => by cases e; have h2 := h.1; have h3 := h.2; omega))
    have r15 := r20
    clear r20
    refine ⟨hok, ?_⟩
    refine AA.done rfl ?_
    clear fzr5 fzr fzc1 fzc2 hok
    refine EE.thenN ?_
    refine CC.seq ?_
    refine CC.seq ?_
    refine CC.region ?_
    refine LL.val (R.move rfl rfl) rfl rfl rfl ?_
    refine LL.val (R.nil rfl rfl) rfl rfl rfl ?_
    refine LL.val (R.field rfl rfl (I.fld rfl)) rfl rfl rfl ?_
    refine LL.val (R.field rfl rfl (I.fld rfl)) rfl rfl rfl ?_
    refine LL.val (R.load rfl rfl (I.ld1 rfl (RowL.cell r rfl))) rfl rfl rfl ?_
    refine LL.val (R.gtT rfl rfl rfl (by omega)) rfl rfl rfl ?_
    refine LL.nilS ?_
    refine CC.yes rfl ?_
    refine CC.freeZ (fun W_ j => j < W_.heap.size ∧ (j ≠ g14)) (by kernel_rfl) (by kernel_rfl) (fun W36 b35 z37 => ?_)
    replace b12 := b12.trans (b35.mono b12.size)
    replace b7 := b7.trans (b35.mono b7.size)
    replace r5 := r5.up b35
    replace b2 := b2.trans (b35.mono b2.size)
    replace q := q.trans (b35.mono q.size)
    replace r := r.up b35
    replace c1 := cell_up c1 b35
    replace c2 := cell_up c2 b35
    replace r15 := r15.up b35
    have hok : Kept (fun j => j < W36.heap.size ∧ (j ≠ g14)) W36 W36 := Kept.refl _ _
    have fzr5 := fzRow (K := fun j => j < W36.heap.size ∧ (j ≠ g14)) r5 ⟨r5.lt, (by first | trivial | omega)⟩
    have fzr := fzRow (K := fun j => j < W36.heap.size ∧ (j ≠ g14)) r ⟨r.lt, (by first | trivial | omega)⟩
    have fzc1 := fzCell (K := fun j => j < W36.heap.size ∧ (j ≠ g14)) c1 ⟨World.block_lt_of_cell? _ _ c1, (by first | trivial | omega)⟩
    have fzc2 := fzCell (K := fun j => j < W36.heap.size ∧ (j ≠ g14)) c2 ⟨World.block_lt_of_cell? _ _ c2, (by first | trivial | omega)⟩
    refine AA.pure 0 rfl hok (by kernel_rfl) (fun w' b' => R.move rfl rfl) rfl rfl ?_
    refine AA.pure 1 rfl hok (by kernel_rfl) (fun w' b' => R.nil rfl rfl) rfl rfl ?_
    refine AA.pure 2 rfl hok (by kernel_rfl) (fun w' b' => R.field rfl rfl (I.fld rfl)) rfl rfl ?_
    refine AA.pure 3 rfl hok (by kernel_rfl) (fun w' b' => R.field rfl rfl (I.fld rfl)) rfl rfl ?_
    refine AA.pure 4 rfl hok (by kernel_rfl) (fun w' b' => R.load rfl rfl (I.ld1 rfl (RowL.cell (fzr w' b') rfl))) rfl rfl ?_
    refine AA.pure 5 rfl hok (by kernel_rfl) (fun w' b' => R.move rfl rfl) rfl rfl ?_
    refine AA.pure 6 rfl hok (by kernel_rfl) (fun w' b' => R.index rfl rfl rfl (I.ixS rfl (by omega))) rfl rfl ?_
    refine AA.pure 7 rfl hok (by kernel_rfl) (fun w' b' => R.field rfl rfl (I.fld rfl)) rfl rfl ?_
    refine AA.pure 8 rfl hok (by kernel_rfl) (fun w' b' => R.load rfl rfl (I.ld1 rfl (cell_kept c2 b' (by refine ⟨?_, ?_⟩ <;> omega)))) rfl rfl ?_
    refine AA.pure 9 rfl hok (by kernel_rfl) (fun w' b' => R.move rfl rfl) rfl rfl ?_
    refine AA.pure 10 rfl hok (by kernel_rfl) (fun w' b' => R.nil rfl rfl) rfl rfl ?_
    refine AA.pure 11 rfl hok (by kernel_rfl) (fun w' b' => R.field rfl rfl (I.fld rfl)) rfl rfl ?_
    refine AA.pure 12 rfl hok (by kernel_rfl) (fun w' b' => R.field rfl rfl (I.fld rfl)) rfl rfl ?_
    refine AA.pure 13 rfl hok (by kernel_rfl) (fun w' b' => R.load rfl rfl (I.ld1 rfl (RowL.cell (fzr w' b') rfl))) rfl rfl ?_
    refine AA.pure 14 rfl hok (by kernel_rfl) (fun w' b' => R.move rfl rfl) rfl rfl ?_
    refine AA.pure 15 rfl hok (by kernel_rfl) (fun w' b' => R.addNc rfl rfl rfl rfl (by omega)) rfl rfl ?_
    refine AA.pure 17 rfl hok (by kernel_rfl) (fun w' b' => R.field rfl rfl (I.fld rfl)) rfl rfl ?_
    refine AA.two 16 18 (by kernel_rfl) ?_ ?_
    (refine SR.val rfl (R.slice rfl rfl rfl rfl rfl (I.slFromE (lo := m + 1) rfl (by omega) (by omega))) rfl rfl hok ?_)
    refine AA.one 18 (by kernel_rfl) ?_
    refine ZR.store rfl rfl rfl rfl rfl r15 (by exact Nat.le_of_ble_eq_true rfl) rfl rfl rfl rfl ?_
    intro W39 r40 b38 z41
    have hlb38 := r15.lt
    replace r40 : RowL W39 _ 29 [Value.int IntKind.i64 ↑l, Value.int IntKind.i64 s, Value.int IntKind.u64 ↑k, Value.int IntKind.u64 ↑p, Value.int IntKind.i64 0, Value.slice (some { block := b1, off := o1 + m * (fun x => x.size) Try.prog.types[46] }) (N - m) (c - m)] := r40
    clear r15
    replace b12 := b12.grown b38 b12.size (by rintro k ⟨⟩; omega)
    replace b7 := b7.grown b38 b7.size (by rintro k ⟨⟩; omega)
    replace r5 := r5.gr b38 (by have := r5.lt; omega)
    replace b2 := b2.grown b38 b2.size (by rintro k ⟨⟩; omega)
    replace q := q.grown b38 q.size (by rintro k ⟨⟩; omega)
    replace r := r.gr b38 (by have := r.lt; omega)
    replace c1 := cell_gr c1 b38 (by omega)
    replace c2 := cell_gr c2 b38 (by omega)
    replace hok := hok.trans (grown_kept b38 (fun j h => by have := h.1; have := hok.size; omega) (fun j h e => by cases e; have h2 := h.1; have h3 := h.2; omega))
    have r15 := r40
    clear r40
    refine ⟨hok, ?_⟩
    refine AA.pure 19 rfl hok (by kernel_rfl) (fun w' b' => R.field rfl rfl (I.fld rfl)) rfl rfl ?_
    refine AA.one 20 (by kernel_rfl) ?_
    refine ZR.store rfl rfl rfl rfl rfl r15 (by exact Nat.le_of_ble_eq_true rfl) rfl rfl rfl rfl ?_
    intro W43 r44 b42 z45
    have hlb42 := r15.lt
    replace r44 : RowL W43 _ 29 [Value.int IntKind.i64 ↑l, Value.int IntKind.i64 s, Value.int IntKind.u64 ↑k, Value.int IntKind.u64 ↑p, Value.int IntKind.i64 0, Value.slice (some { block := b1, off := o1 }) (N - (m + 1)) (c - (m + 1))] := r44
    clear r15
    replace b12 := b12.grown b42 b12.size (by rintro k ⟨⟩; omega)
    replace b7 := b7.grown b42 b7.size (by rintro k ⟨⟩; omega)
    replace r5 := r5.gr b42 (by have := r5.lt; omega)
    replace b2 := b2.grown b42 b2.size (by rintro k ⟨⟩; omega)
    replace q := q.grown b42 q.size (by rintro k ⟨⟩; omega)
    replace r := r.gr b42 (by have := r.lt; omega)
    replace c1 := cell_gr c1 b42 (by omega)
    replace c2 := cell_gr c2 b42 (by omega)
    replace hok := hok.trans (grown_kept b42 (fun j h => by have := h.1; have := hok.size; omega) (fun j h e => by cases e; have h2 := h.1; have h3 := h.2; omega))
    have r15 := r44
    clear r44
    refine ⟨hok, ?_⟩
    refine AA.done rfl ?_
    clear fzr5 fzr fzc1 fzc2 hok
    refine EE.thenN ?_
    refine CC.seq ?_
    refine CC.region ?_
    refine LL.val (R.load rfl rfl (I.ldNc (vs := [Value.int IntKind.i64 ↑l, Value.int IntKind.i64 s, Value.int IntKind.u64 ↑k, Value.int IntKind.u64 ↑p, Value.int IntKind.i64 0, Value.slice (some { block := b1, off := o1 }) (N - (m + 1)) (c - (m + 1))]) (RowL.cells r15 rfl) (by rfl) (by rfl))) rfl rfl rfl ?_
    refine LL.storeN (vs := [Value.int IntKind.i64 ↑l, Value.int IntKind.i64 s, Value.int IntKind.u64 ↑k, Value.int IntKind.u64 ↑p, Value.int IntKind.i64 0, Value.slice (some { block := b1, off := o1 }) (N - (m + 1)) (c - (m + 1))]) rfl rfl rfl rfl r5 (by exact Nat.le_of_ble_eq_true rfl) (ones_of rfl) rfl rfl ?_
    intro W47 r48 b46 z49
    have hlb46 := r5.lt
    replace r48 : RowL W47 _ 29 [Value.int IntKind.i64 ↑l, Value.int IntKind.i64 s, Value.int IntKind.u64 ↑k, Value.int IntKind.u64 ↑p, Value.int IntKind.i64 0, Value.slice (some { block := b1, off := o1 }) (N - (m + 1)) (c - (m + 1))] := r48
    clear r5
    replace b2 := b2.grown b46 b2.size (by rintro k ⟨⟩; omega)
    replace q := q.grown b46 q.size (by rintro k ⟨⟩; omega)
    replace r := r.gr b46 (by have := r.lt; omega)
    replace c1 := cell_gr c1 b46 (by omega)
    replace c2 := cell_gr c2 b46 (by omega)
    replace r15 := r15.gr b46 (by have := r15.lt; omega)
    have r5 := r48
    clear r48
    refine LL.nilS ?_
    refine CC.ret ?_
    refine EE.retC rfl rfl (lvNc (RowL.cells0 (by assumption)) (by rfl) (by rfl)) ?_
    exact ⟨rfl, q⟩
    refine ZR.store rfl rfl rfl rfl rfl r15 (by exact Nat.le_of_ble_eq_true rfl) rfl rfl rfl rfl ?_
    intro W51 r52 b50 z53
    have hlb50 := r15.lt
    replace r52 : RowL W51 _ 29 [Value.int IntKind.i64 ↑l, Value.int IntKind.i64 s, Value.int IntKind.u64 ↑k, Value.int IntKind.u64 ↑p, Value.int IntKind.i64 0, Value.slice (some { block := b1, off := o1 + m * (fun x => x.size) Try.prog.types[46] }) (N - m) (c - m)] := r52
    clear r15
    replace b12 := b12.grown b50 b12.size (by rintro k ⟨⟩; omega)
    replace b7 := b7.grown b50 b7.size (by rintro k ⟨⟩; omega)
    replace r5 := r5.gr b50 (by have := r5.lt; omega)
    replace b2 := b2.grown b50 b2.size (by rintro k ⟨⟩; omega)
    replace q := q.grown b50 q.size (by rintro k ⟨⟩; omega)
    replace r := r.gr b50 (by have := r.lt; omega)
    replace c1 := cell_gr c1 b50 (by omega)
    replace c2 := cell_gr c2 b50 (by omega)
    replace hok := hok.trans (grown_kept b50 (fun j h => by have := h.1; have := hok.size; omega) (fun j h e => by cases e; have h2 := h.1; have h3 := h.2; omega))
    have r15 := r52
    clear r52
    refine ⟨hok, ?_⟩
    refine AA.one 16 (by kernel_rfl) ?_
    (refine SR.val rfl (R.slice rfl rfl rfl rfl rfl (I.slFromE (lo := m + 1) rfl (by omega) (by omega))) rfl rfl hok ?_)
    refine AA.pure 19 rfl hok (by kernel_rfl) (fun w' b' => R.field rfl rfl (I.fld rfl)) rfl rfl ?_
    refine AA.one 20 (by kernel_rfl) ?_
    refine ZR.store rfl rfl rfl rfl rfl r15 (by exact Nat.le_of_ble_eq_true rfl) rfl rfl rfl rfl ?_
    intro W55 r56 b54 z57
    have hlb54 := r15.lt
    replace r56 : RowL W55 _ 29 [Value.int IntKind.i64 ↑l, Value.int IntKind.i64 s, Value.int IntKind.u64 ↑k, Value.int IntKind.u64 ↑p, Value.int IntKind.i64 0, Value.slice (some { block := b1, off := o1 }) (N - (m + 1)) (c - (m + 1))] := r56
    clear r15
    replace b12 := b12.grown b54 b12.size (by rintro k ⟨⟩; omega)
    replace b7 := b7.grown b54 b7.size (by rintro k ⟨⟩; omega)
    replace r5 := r5.gr b54 (by have := r5.lt; omega)
    replace b2 := b2.grown b54 b2.size (by rintro k ⟨⟩; omega)
    replace q := q.grown b54 q.size (by rintro k ⟨⟩; omega)
    replace r := r.gr b54 (by have := r.lt; omega)
    replace c1 := cell_gr c1 b54 (by omega)
    replace c2 := cell_gr c2 b54 (by omega)
    replace hok := hok.trans (grown_kept b54 (fun j h => by have := h.1; have := hok.size; omega) (fun j h e => by cases e; have h2 := h.1; have h3 := h.2; omega))
    have r15 := r56
    clear r56
    refine ⟨hok, ?_⟩
    refine AA.done rfl ?_
    clear fzr5 fzr fzc1 fzc2 hok
    refine EE.thenN ?_
    refine CC.seq ?_
    refine CC.region ?_
    refine LL.val (R.load rfl rfl (I.ldNc (vs := [Value.int IntKind.i64 ↑l, Value.int IntKind.i64 s, Value.int IntKind.u64 ↑k, Value.int IntKind.u64 ↑p, Value.int IntKind.i64 0, Value.slice (some { block := b1, off := o1 }) (N - (m + 1)) (c - (m + 1))]) (RowL.cells r15 rfl) (by rfl) (by rfl))) rfl rfl rfl ?_
    refine LL.storeN (vs := [Value.int IntKind.i64 ↑l, Value.int IntKind.i64 s, Value.int IntKind.u64 ↑k, Value.int IntKind.u64 ↑p, Value.int IntKind.i64 0, Value.slice (some { block := b1, off := o1 }) (N - (m + 1)) (c - (m + 1))]) rfl rfl rfl rfl r5 (by exact Nat.le_of_ble_eq_true rfl) (ones_of rfl) rfl rfl ?_
    intro W59 r60 b58 z61
    have hlb58 := r5.lt
    replace r60 : RowL W59 _ 29 [Value.int IntKind.i64 ↑l, Value.int IntKind.i64 s, Value.int IntKind.u64 ↑k, Value.int IntKind.u64 ↑p, Value.int IntKind.i64 0, Value.slice (some { block := b1, off := o1 }) (N - (m + 1)) (c - (m + 1))] := r60
    clear r5
    replace b2 := b2.grown b58 b2.size (by rintro k ⟨⟩; omega)
    replace q := q.grown b58 q.size (by rintro k ⟨⟩; omega)
    replace r := r.gr b58 (by have := r.lt; omega)
    replace c1 := cell_gr c1 b58 (by omega)
    replace c2 := cell_gr c2 b58 (by omega)
    replace r15 := r15.gr b58 (by have := r15.lt; omega)
    have r5 := r60
    clear r60
    refine LL.nilS ?_
    refine CC.ret ?_
    refine EE.retC rfl rfl (lvNc (RowL.cells0 (by assumption)) (by rfl) (by rfl)) ?_
    exact ⟨rfl, q⟩
  · have e : drV (some ⟨b1, o1, none⟩) N c (m + 1) = .slice (some ⟨b1, o1 + (m + 1) * 2, none⟩) (N - (m + 1)) (c - (m + 1)) := by
      unfold drV
      rw [if_neg hc1]
      simp [Addr.add]
    rw [e]
    clear hv e
    refine X.fn Try.func37 rfl (n := 59) rfl rfl ?_
    refine CC.seq ?_
    refine CC.region ?_
    have la1 := r.lt
    refine LL.alloc ([Value.int IntKind.i64 0, Value.int IntKind.i64 0, Value.int IntKind.u64 0, Value.int IntKind.u64 0, Value.int IntKind.i64 0, Value.slice none 0 0]) rfl rfl rfl rfl rfl ?_
    intro Wa3 ga4 ega4 ra5 za6 ba2
    replace q := q.trans (ba2.mono q.size)
    replace r := r.up ba2
    replace c1 := cell_up c1 ba2
    replace c2 := cell_up c2 ba2
    refine LL.nilS ?_
    refine CC.seq ?_
    refine CC.freeZ (fun W_ j => j < W_.heap.size ∧ (True)) (by kernel_rfl) (by kernel_rfl) (fun Wa8 ba7 za9 => ?_)
    replace ra5 := ra5.up ba7
    replace ba2 := ba2.trans (ba7.mono ba2.size)
    replace q := q.trans (ba7.mono q.size)
    replace r := r.up ba7
    replace c1 := cell_up c1 ba7
    replace c2 := cell_up c2 ba7
    have hok : Kept (fun j => j < Wa8.heap.size ∧ (True)) Wa8 Wa8 := Kept.refl _ _
    have fzra5 := fzRow (K := fun j => j < Wa8.heap.size ∧ (True)) ra5 ⟨ra5.lt, (by first | trivial | omega)⟩
    have fzr := fzRow (K := fun j => j < Wa8.heap.size ∧ (True)) r ⟨r.lt, (by first | trivial | omega)⟩
    have fzc1 := fzCell (K := fun j => j < Wa8.heap.size ∧ (True)) c1 ⟨World.block_lt_of_cell? _ _ c1, (by first | trivial | omega)⟩
    have fzc2 := fzCell (K := fun j => j < Wa8.heap.size ∧ (True)) c2 ⟨World.block_lt_of_cell? _ _ c2, (by first | trivial | omega)⟩
    refine AA.pure 0 rfl hok (by kernel_rfl) (fun w' b' => R.move rfl rfl) rfl rfl ?_
    refine AA.pure 1 rfl hok (by kernel_rfl) (fun w' b' => R.nil rfl rfl) rfl rfl ?_
    refine AA.pure 2 rfl hok (by kernel_rfl) (fun w' b' => R.field rfl rfl (I.fld rfl)) rfl rfl ?_
    refine AA.pure 3 rfl hok (by kernel_rfl) (fun w' b' => R.field rfl rfl (I.fld rfl)) rfl rfl ?_
    refine AA.pure 4 rfl hok (by kernel_rfl) (fun w' b' => R.load rfl rfl (I.ld1 rfl (RowL.cell (fzr w' b') rfl))) rfl rfl ?_
    refine AA.pure 5 rfl hok (by kernel_rfl) (fun w' b' => R.move rfl rfl) rfl rfl ?_
    refine AA.pure 6 rfl hok (by kernel_rfl) (fun w' b' => R.nil rfl rfl) rfl rfl ?_
    refine AA.pure 7 rfl hok (by kernel_rfl) (fun w' b' => R.field rfl rfl (I.fld rfl)) rfl rfl ?_
    refine AA.pure 8 rfl hok (by kernel_rfl) (fun w' b' => R.field rfl rfl (I.fld rfl)) rfl rfl ?_
    refine AA.pure 9 rfl hok (by kernel_rfl) (fun w' b' => R.load rfl rfl (I.ld1 rfl (RowL.cell (fzr w' b') rfl))) rfl rfl ?_
    refine AA.pure 10 rfl hok (by kernel_rfl) (fun w' b' => R.move rfl rfl) rfl rfl ?_
    refine AA.pure 11 rfl hok (by kernel_rfl) (fun w' b' => R.nil rfl rfl) rfl rfl ?_
    refine AA.pure 12 rfl hok (by kernel_rfl) (fun w' b' => R.field rfl rfl (I.fld rfl)) rfl rfl ?_
    refine AA.pure 13 rfl hok (by kernel_rfl) (fun w' b' => R.field rfl rfl (I.fld rfl)) rfl rfl ?_
    refine AA.pure 14 rfl hok (by kernel_rfl) (fun w' b' => R.load rfl rfl (I.ld1 rfl (RowL.cell (fzr w' b') rfl))) rfl rfl ?_
    refine AA.pure 15 rfl hok (by kernel_rfl) (fun w' b' => R.move rfl rfl) rfl rfl ?_
    refine AA.pure 16 rfl hok (by kernel_rfl) (fun w' b' => R.index rfl rfl rfl (I.ixS rfl (by omega))) rfl rfl ?_
    refine AA.pure 17 rfl hok (by kernel_rfl) (fun w' b' => R.field rfl rfl (I.fld rfl)) rfl rfl ?_
    refine AA.pure 18 rfl hok (by kernel_rfl) (fun w' b' => R.load rfl rfl (I.ld1 rfl (fzc1 w' b'))) rfl rfl ?_
    refine AA.pure 19 rfl hok (by kernel_rfl) (fun w' b' => R.move rfl rfl) rfl rfl ?_
    refine AA.pure 20 rfl hok (by kernel_rfl) (fun w' b' => R.nil rfl rfl) rfl rfl ?_
    refine AA.pure 21 rfl hok (by kernel_rfl) (fun w' b' => R.field rfl rfl (I.fld rfl)) rfl rfl ?_
    refine AA.pure 22 rfl hok (by kernel_rfl) (fun w' b' => R.field rfl rfl (I.fld rfl)) rfl rfl ?_
    refine AA.pure 23 rfl hok (by kernel_rfl) (fun w' b' => R.load rfl rfl (I.ld1 rfl (RowL.cell (fzr w' b') rfl))) rfl rfl ?_
    refine AA.pure 24 rfl hok (by kernel_rfl) (fun w' b' => R.move rfl rfl) rfl rfl ?_
    refine AA.pure 25 rfl hok (by kernel_rfl) (fun w' b' => R.slice rfl rfl rfl rfl rfl (I.slFrom rfl (by omega) (by omega) (by omega))) rfl rfl ?_
    refine AA.pure 26 rfl hok (by kernel_rfl) (fun w' b' => R.buildV rfl rfl (v := .agg #[Value.int IntKind.i64 ↑l, Value.int IntKind.i64 s, Value.int IntKind.u64 ↑k, Value.int IntKind.u64 9223372036854775808, Value.int IntKind.i64 0, Value.slice (some { block := b1, off := o1 + m * (fun x => x.size) Try.prog.types[46] }) (N - m) (c - m)]) (fun _ => by kernel_rfl)) rfl rfl ?_
    refine AA.one 27 (by kernel_rfl) ?_
    have la10 := ra5.lt
    have la11 := r.lt
    refine ZR.alloc ([Value.int IntKind.i64 0, Value.int IntKind.i64 0, Value.int IntKind.u64 0, Value.int IntKind.u64 0, Value.int IntKind.i64 0, Value.slice none 0 0]) rfl rfl rfl rfl rfl rfl ?_
    intro Wa13 ga14 ega14 ra15 za16 ba12
    replace ba7 := ba7.trans (ba12.mono ba7.size)
    replace ra5 := ra5.up ba12
    replace ba2 := ba2.trans (ba12.mono ba2.size)
    replace q := q.trans (ba12.mono q.size)
    replace r := r.up ba12
    replace c1 := cell_up c1 ba12
    replace c2 := cell_up c2 ba12
    replace hok := hok.trans (bkept ba12 (fun j h => by have := h.1; have := hok.size; omega))
    have ya17 := hok.size
    refine ⟨hok, ?_⟩
    refine AA.one 28 (by kernel_rfl) ?_
    refine ZR.storeN (vs := [Value.int IntKind.i64 ↑l, Value.int IntKind.i64 s, Value.int IntKind.u64 ↑k, Value.int IntKind.u64 9223372036854775808, Value.int IntKind.i64 0, Value.slice (some { block := b1, off := o1 + m * (fun x => x.size) Try.prog.types[46] }) (N - m) (c - m)]) rfl rfl rfl rfl rfl ra15 (by exact Nat.le_of_ble_eq_true rfl) (ones_of rfl) rfl rfl ?_
    intro Wa19 ra20 ba18 za21
    have hlba18 := ra15.lt
    replace ra20 : RowL Wa19 _ 29 [Value.int IntKind.i64 ↑l, Value.int IntKind.i64 s, Value.int IntKind.u64 ↑k, Value.int IntKind.u64 9223372036854775808, Value.int IntKind.i64 0, Value.slice (some { block := b1, off := o1 + m * (fun x => x.size) Try.prog.types[46] }) (N - m) (c - m)] := ra20
    clear ra15
    replace ba12 := ba12.grown ba18 ba12.size (by rintro k ⟨⟩; omega)
    replace ba7 := ba7.grown ba18 ba7.size (by rintro k ⟨⟩; omega)
    replace ra5 := ra5.gr ba18 (by have := ra5.lt; omega)
    replace ba2 := ba2.grown ba18 ba2.size (by rintro k ⟨⟩; omega)
    replace q := q.grown ba18 q.size (by rintro k ⟨⟩; omega)
    replace r := r.gr ba18 (by have := r.lt; omega)
    replace c1 := cell_gr c1 ba18 (by omega)
    replace c2 := cell_gr c2 ba18 (by omega)
    replace hok := hok.trans (grown_kept ba18 (fun j h => by have := h.1; have := hok.size; omega) (fun j h e => by cases e; have h2 := h.1; have h3 := h.2; omega))
    have ra15 := ra20
    clear ra20
    refine ⟨hok, ?_⟩
    refine AA.done rfl ?_
    clear fzra5 fzr fzc1 fzc2 hok
    refine EE.thenN ?_
    refine CC.seq ?_
    refine CC.seq ?_
    refine CC.region ?_
    refine LL.val (R.move rfl rfl) rfl rfl rfl ?_
    refine LL.val (R.nil rfl rfl) rfl rfl rfl ?_
    refine LL.val (R.field rfl rfl (I.fld rfl)) rfl rfl rfl ?_
    refine LL.val (R.field rfl rfl (I.fld rfl)) rfl rfl rfl ?_
    refine LL.val (R.load rfl rfl (I.ld1 rfl (RowL.cell r rfl))) rfl rfl rfl ?_
    refine LL.val (R.gtT rfl rfl rfl (by omega)) rfl rfl rfl ?_
    refine LL.nilS ?_
    refine CC.yes rfl ?_
    refine CC.freeZ (fun W_ j => j < W_.heap.size ∧ (j ≠ ga14)) (by kernel_rfl) (by kernel_rfl) (fun Wa23 ba22 za24 => ?_)
    replace ba12 := ba12.trans (ba22.mono ba12.size)
    replace ba7 := ba7.trans (ba22.mono ba7.size)
    replace ra5 := ra5.up ba22
    replace ba2 := ba2.trans (ba22.mono ba2.size)
    replace q := q.trans (ba22.mono q.size)
    replace r := r.up ba22
    replace c1 := cell_up c1 ba22
    replace c2 := cell_up c2 ba22
    replace ra15 := ra15.up ba22
    have hok : Kept (fun j => j < Wa23.heap.size ∧ (j ≠ ga14)) Wa23 Wa23 := Kept.refl _ _
    have fzra5 := fzRow (K := fun j => j < Wa23.heap.size ∧ (j ≠ ga14)) ra5 ⟨ra5.lt, (by first | trivial | omega)⟩
    have fzr := fzRow (K := fun j => j < Wa23.heap.size ∧ (j ≠ ga14)) r ⟨r.lt, (by first | trivial | omega)⟩
    have fzc1 := fzCell (K := fun j => j < Wa23.heap.size ∧ (j ≠ ga14)) c1 ⟨World.block_lt_of_cell? _ _ c1, (by first | trivial | omega)⟩
    have fzc2 := fzCell (K := fun j => j < Wa23.heap.size ∧ (j ≠ ga14)) c2 ⟨World.block_lt_of_cell? _ _ c2, (by first | trivial | omega)⟩
    refine AA.pure 0 rfl hok (by kernel_rfl) (fun w' b' => R.move rfl rfl) rfl rfl ?_
    refine AA.pure 1 rfl hok (by kernel_rfl) (fun w' b' => R.nil rfl rfl) rfl rfl ?_
    refine AA.pure 2 rfl hok (by kernel_rfl) (fun w' b' => R.field rfl rfl (I.fld rfl)) rfl rfl ?_
    refine AA.pure 3 rfl hok (by kernel_rfl) (fun w' b' => R.field rfl rfl (I.fld rfl)) rfl rfl ?_
    refine AA.pure 4 rfl hok (by kernel_rfl) (fun w' b' => R.load rfl rfl (I.ld1 rfl (RowL.cell (fzr w' b') rfl))) rfl rfl ?_
    refine AA.pure 5 rfl hok (by kernel_rfl) (fun w' b' => R.move rfl rfl) rfl rfl ?_
    refine AA.pure 6 rfl hok (by kernel_rfl) (fun w' b' => R.index rfl rfl rfl (I.ixS rfl (by omega))) rfl rfl ?_
    refine AA.pure 7 rfl hok (by kernel_rfl) (fun w' b' => R.field rfl rfl (I.fld rfl)) rfl rfl ?_
    refine AA.pure 8 rfl hok (by kernel_rfl) (fun w' b' => R.load rfl rfl (I.ld1 rfl (cell_kept c2 b' (by refine ⟨?_, ?_⟩ <;> omega)))) rfl rfl ?_
    refine AA.pure 9 rfl hok (by kernel_rfl) (fun w' b' => R.move rfl rfl) rfl rfl ?_
    refine AA.pure 10 rfl hok (by kernel_rfl) (fun w' b' => R.nil rfl rfl) rfl rfl ?_
    refine AA.pure 11 rfl hok (by kernel_rfl) (fun w' b' => R.field rfl rfl (I.fld rfl)) rfl rfl ?_
    refine AA.pure 12 rfl hok (by kernel_rfl) (fun w' b' => R.field rfl rfl (I.fld rfl)) rfl rfl ?_
    refine AA.pure 13 rfl hok (by kernel_rfl) (fun w' b' => R.load rfl rfl (I.ld1 rfl (RowL.cell (fzr w' b') rfl))) rfl rfl ?_
    refine AA.pure 14 rfl hok (by kernel_rfl) (fun w' b' => R.move rfl rfl) rfl rfl ?_
    refine AA.pure 15 rfl hok (by kernel_rfl) (fun w' b' => R.addNc rfl rfl rfl rfl (by omega)) rfl rfl ?_
    refine AA.pure 16 rfl hok (by kernel_rfl) (fun w' b' => R.slice rfl rfl rfl rfl rfl (I.slFrom rfl (by omega) (by omega) (by omega))) rfl rfl ?_
    refine AA.pure 17 rfl hok (by kernel_rfl) (fun w' b' => R.field rfl rfl (I.fld rfl)) rfl rfl ?_
    refine AA.one 18 (by kernel_rfl) ?_
    refine ZR.store rfl rfl rfl rfl rfl ra15 (by exact Nat.le_of_ble_eq_true rfl) rfl rfl rfl rfl ?_
    intro Wa26 ra27 ba25 za28
    have hlba25 := ra15.lt
    replace ra27 : RowL Wa26 _ 29 [Value.int IntKind.i64 ↑l, Value.int IntKind.i64 s, Value.int IntKind.u64 ↑k, Value.int IntKind.u64 ↑p, Value.int IntKind.i64 0, Value.slice (some { block := b1, off := o1 + m * (fun x => x.size) Try.prog.types[46] }) (N - m) (c - m)] := ra27
    clear ra15
    replace ba12 := ba12.grown ba25 ba12.size (by rintro k ⟨⟩; omega)
    replace ba7 := ba7.grown ba25 ba7.size (by rintro k ⟨⟩; omega)
    replace ra5 := ra5.gr ba25 (by have := ra5.lt; omega)
    replace ba2 := ba2.grown ba25 ba2.size (by rintro k ⟨⟩; omega)
    replace q := q.grown ba25 q.size (by rintro k ⟨⟩; omega)
    replace r := r.gr ba25 (by have := r.lt; omega)
    replace c1 := cell_gr c1 ba25 (by omega)
    replace c2 := cell_gr c2 ba25 (by omega)
    replace hok := hok.trans (grown_kept ba25 (fun j h => by have := h.1; have := hok.size; omega) (fun j h e => by cases e; have h2 := h.1; have h3 := h.2; omega))
    have ra15 := ra27
    clear ra27
    refine ⟨hok, ?_⟩
    refine AA.pure 19 rfl hok (by kernel_rfl) (fun w' b' => R.field rfl rfl (I.fld rfl)) rfl rfl ?_
    refine AA.one 20 (by kernel_rfl) ?_
    refine ZR.store rfl rfl rfl rfl rfl ra15 (by exact Nat.le_of_ble_eq_true rfl) rfl rfl rfl rfl ?_
    intro Wa30 ra31 ba29 za32
    have hlba29 := ra15.lt
    replace ra31 : RowL Wa30 _ 29 [Value.int IntKind.i64 ↑l, Value.int IntKind.i64 s, Value.int IntKind.u64 ↑k, Value.int IntKind.u64 ↑p, Value.int IntKind.i64 0, Value.slice (some { block := b1, off := o1 + (m + 1) * (fun x => x.size) Try.prog.types[46] }) (N - (m + 1)) (c - (m + 1))] := ra31
    clear ra15
    replace ba12 := ba12.grown ba29 ba12.size (by rintro k ⟨⟩; omega)
    replace ba7 := ba7.grown ba29 ba7.size (by rintro k ⟨⟩; omega)
    replace ra5 := ra5.gr ba29 (by have := ra5.lt; omega)
    replace ba2 := ba2.grown ba29 ba2.size (by rintro k ⟨⟩; omega)
    replace q := q.grown ba29 q.size (by rintro k ⟨⟩; omega)
    replace r := r.gr ba29 (by have := r.lt; omega)
    replace c1 := cell_gr c1 ba29 (by omega)
    replace c2 := cell_gr c2 ba29 (by omega)
    replace hok := hok.trans (grown_kept ba29 (fun j h => by have := h.1; have := hok.size; omega) (fun j h e => by cases e; have h2 := h.1; have h3 := h.2; omega))
    have ra15 := ra31
    clear ra31
    refine ⟨hok, ?_⟩
    refine AA.done rfl ?_
    clear fzra5 fzr fzc1 fzc2 hok
    refine EE.thenN ?_
    refine CC.seq ?_
    refine CC.region ?_
    refine LL.val (R.load rfl rfl (I.ldNc (vs := [Value.int IntKind.i64 ↑l, Value.int IntKind.i64 s, Value.int IntKind.u64 ↑k, Value.int IntKind.u64 ↑p, Value.int IntKind.i64 0, Value.slice (some { block := b1, off := o1 + (m + 1) * (fun x => x.size) Try.prog.types[46] }) (N - (m + 1)) (c - (m + 1))]) (RowL.cells ra15 rfl) (by rfl) (by rfl))) rfl rfl rfl ?_
    refine LL.storeN (vs := [Value.int IntKind.i64 ↑l, Value.int IntKind.i64 s, Value.int IntKind.u64 ↑k, Value.int IntKind.u64 ↑p, Value.int IntKind.i64 0, Value.slice (some { block := b1, off := o1 + (m + 1) * (fun x => x.size) Try.prog.types[46] }) (N - (m + 1)) (c - (m + 1))]) rfl rfl rfl rfl ra5 (by exact Nat.le_of_ble_eq_true rfl) (ones_of rfl) rfl rfl ?_
    intro Wa34 ra35 ba33 za36
    have hlba33 := ra5.lt
    replace ra35 : RowL Wa34 _ 29 [Value.int IntKind.i64 ↑l, Value.int IntKind.i64 s, Value.int IntKind.u64 ↑k, Value.int IntKind.u64 ↑p, Value.int IntKind.i64 0, Value.slice (some { block := b1, off := o1 + (m + 1) * (fun x => x.size) Try.prog.types[46] }) (N - (m + 1)) (c - (m + 1))] := ra35
    clear ra5
    replace ba2 := ba2.grown ba33 ba2.size (by rintro k ⟨⟩; omega)
    replace q := q.grown ba33 q.size (by rintro k ⟨⟩; omega)
    replace r := r.gr ba33 (by have := r.lt; omega)
    replace c1 := cell_gr c1 ba33 (by omega)
    replace c2 := cell_gr c2 ba33 (by omega)
    replace ra15 := ra15.gr ba33 (by have := ra15.lt; omega)
    have ra5 := ra35
    clear ra35
    refine LL.nilS ?_
    refine CC.ret ?_
    refine EE.retC rfl rfl (lvNc (RowL.cells0 (by assumption)) (by rfl) (by rfl)) ?_
    exact ⟨rfl, q⟩
end
end Go.Proofs.Ytfplilpefhhpnaa
