/- What the statements' walks use: Wk20, Wk21, Wk22, Wk23, Wk10, Wk12, Wk24, Open, OpenC. -/
import Derived.Test.YtbbddpnjglijdaaDoorRows
import Derived.ProofKit
import Derived.OpenShut
import Derived.ShutString
import Derived.ChangeOld
import Derived.ChangeSame
import Derived.Deep.Slices
import Derived.Test.YtbbddpnjglijdaaDoorMoa
import Derived.Test.YtbbddpnjglijdaaDoorMod
/- walk: the document's walker: done, on, New, Miss (written by genwk20.py). -/
namespace Go.Proofs.YtbbddpnjglijdaaDoor
set_option linter.unusedVariables false
set_option linter.unusedSimpArgs false
open Go.RowKit Go.Shelf
set_option maxRecDepth 100000
set_option maxHeartbeats 8000000
abbrev rwV (d : Int) (a : Option Addr) (n c : Nat) (k : Int) (fol dn : Bool) (x : Wd) : Value := .agg #[.int .i64 d, .slice a n c, .int .i64 k, .bool fol, .bool dn, .int .i64 x.1, .int .i64 x.2.1, strV x.2.2.1, .int .i64 x.2.2.2.1, .int .i64 x.2.2.2.2]
/-- A list of parts that lies in a block. -/
structure PsB (w : World) (bb : Nat) (a : Option Addr) (n c : Nat) (l : List Bs) : Prop where
  r : ReadsT stE 1 w (.slice a n c) l
  at' : ∀ (x : Addr), a = some x → 0 < n → x.block = bb
  lt : bb < w.heap.size
section
variable {w w' : World} {bb r n c : Nat} {a : Option Addr} {l : List Bs}
theorem PsB.up (h : PsB w bb a n c l) (hb : Below w.heap.size w w') : PsB w' bb a n c l := ⟨h.r.up hb, h.at', Nat.lt_of_lt_of_le h.lt hb.size⟩
theorem PsB.gr (h : PsB w bb a n c l) (hb : w.grownBy w' (some r)) (e : r ≠ bb) : PsB w' bb a n c l := ⟨h.r.grown hb fun x n c e1 h0 => by
  cases e1
  have := h.at' x rfl h0
  omega, h.at', Nat.lt_of_lt_of_le h.lt hb.size⟩
theorem PsB.grown (h : PsB w bb a n c l) (hb : w.grownBy w' (some r)) (e : r ≠ bb) : PsB w' bb a n c l := h.gr hb e
theorem PsB.len (h : PsB w bb a n c l) : l.length = n := by
  obtain ⟨_, _, e, _⟩ := h.r.form rfl
  cases e
  rfl
theorem PsB.own {base e : Nat} (o : OwnsT stE 1 w base e (.slice a n c) l) (h0 : 0 < w.heap.size) : ∃ bb, PsB w bb a n c l ∧ (bb = 0 ∨ base ≤ bb) := by
  rcases o.above with h | ⟨b, h, h1, h2⟩
  · refine ⟨0, ⟨o.reads stEnc, fun x e _ => ?_, h0⟩, .inl rfl⟩
    subst e
    cases h
  · refine ⟨b, ⟨o.reads stEnc, fun x e _ => ?_, h2⟩, .inr h1⟩
    subst e
    exact Option.some.inj h
theorem PsB.tail {p : Bs} {rs : List Bs} (h : PsB w bb a n c (p :: rs)) : ∃ a' c', (∀ (P : Program) (T e : TypeId) (w' : World), slB P T = some (e, 1) → (Instr.sliceAt T (.slice a n c) (some (.int .i64 1)) none none).run P w' = .ok (.slice a' (n - 1) c') w') ∧ ∀ X, PsB X bb a n c (p :: rs) → PsB X bb a' (n - 1) c' rs := by
  have h1 : 1 ≤ n := by rw [← h.len]; exact Nat.succ_le_succ (Nat.zero_le _)
  refine ⟨_, _, fun P T e w' hs => I.slFromG (lo := 1) hs h1, fun X hX => ⟨hX.r.from stEnc h1, fun x e h0 => ?_, hX.lt⟩⟩
  cases a with
  | none => split at e <;> cases e
  | some y =>
    have := hX.at' y rfl h1
    split at e
    · cases e
      exact this
    · cases e
      exact this
theorem PsB.head {p : Bs} {rs : List Bs} (h : PsB w bb a n c (p :: rs)) : ∃ off, a = some ⟨bb, off, none⟩ ∧ ∀ X, PsB X bb a n c (p :: rs) → X.cell? ⟨bb, off + 0, none⟩ = some (strV p) := by
  obtain ⟨b, off, e, hb, cs⟩ := h.r.one stEnc (i := 0) (t := p) rfl
  have h1 : 0 < n := by rw [← h.len]; exact Nat.succ_pos _
  have e3 := h.at' _ e h1
  cases e3
  refine ⟨off, e, fun X hX => ?_⟩
  obtain ⟨_, _, e', _, cs⟩ := hX.r.one stEnc (i := 0) (t := p) rfl
  rw [e] at e'
  cases e'
  exact cs _ rfl
end
/-- A value that stands for a walker, in the document. -/
def RwR (s : Wk) (v : Value) (w : World) (bb : Nat) : Prop := (s.fin = none ∧ ∃ a n c, v = rwV s.dir a n c (s.links : Int) s.fol false wdZ ∧ PsB w bb a n c s.ps) ∨ ∃ x d k, s.fin = some x ∧ v = rwV d none 0 0 k s.fol true x
theorem RwR.up {s : Wk} {v : Value} {w w' : World} {bb : Nat} (h : RwR s v w bb) (b : Below w.heap.size w w') : RwR s v w' bb := by
  rcases h with ⟨h0, a, n, c, e, r⟩ | h
  · exact .inl ⟨h0, a, n, c, e, r.up b⟩
  · exact .inr h
theorem RwR.gr {s : Wk} {v : Value} {w w' : World} {bb r : Nat} (h : RwR s v w bb) (b : w.grownBy w' (some r)) (e : r ≠ bb) : RwR s v w' bb := by
  rcases h with ⟨h0, a, n, c, e1, p⟩ | h
  · exact .inl ⟨h0, a, n, c, e1, p.gr b e⟩
  · exact .inr h
theorem RwR.fin {s : Wk} {w : World} {bb : Nat} (x : Wd) (d k : Int) (fol : Bool) (h : s.fin = some x) (hf : s.fol = fol) : RwR s (rwV d none 0 0 k fol true x) w bb := .inr ⟨x, d, k, h, by rw [hf]⟩
theorem RwR.run {s : Wk} {w : World} {bb : Nat} {a : Option Addr} {n c : Nat} {d k : Int} {fol : Bool} {ls : List Bs} (hs : s.fin = none) (h1 : s.dir = d) (h2 : (s.links : Int) = k) (h3 : s.fol = fol) (h4 : s.ps = ls) (r : PsB w bb a n c ls) : RwR s (rwV d a n c k fol false wdZ) w bb := by
  subst h1 h2 h3 h4
  exact .inl ⟨hs, a, n, c, rfl, r⟩
theorem RwR.form {s : Wk} {v : Value} {w : World} {bb : Nat} (h : RwR s v w bb) : ∃ d a n c k fol dn x, v = rwV d a n c k fol dn x := by
  rcases h with ⟨h0, a, n, c, e, r⟩ | ⟨x, d, k, h0, e⟩
  · exact ⟨_, _, _, _, _, _, _, _, e⟩
  · exact ⟨_, _, _, _, _, _, _, _, e⟩
theorem rdone_any (d : Int) (a : Option Addr) (n c : Nat) (k : Int) (fol dn : Bool) (x0 x : Wd) (w : World) : Calls Tryd.prog 43 #[rwV d a n c k fol dn x0, wdV x] w fun e w' => e = .returned (rwV d none 0 0 k fol true x) ∧ Below w.heap.size w w' := by
  have q := Below.refl w.heap.size w
  refine X.fn Tryd.func43 rfl (n := 10) rfl rfl ?_
  refine CC.seq ?_
  refine CC.region ?_
  refine LL.box [Value.int IntKind.i64 d, Value.slice a n c, Value.int IntKind.i64 k, Value.bool fol, Value.bool dn, Value.int IntKind.i64 x0.1, Value.int IntKind.i64 x0.2.1, strV x0.2.2.1, Value.int IntKind.i64 x0.2.2.2.1, Value.int IntKind.i64 x0.2.2.2.2] rfl rfl rfl rfl rfl ?_
  intro W2 g3 eg3 r4 z5 b1
  replace q := q.trans (b1.mono q.size)
  have l6 := r4.lt
  refine LL.box [Value.int IntKind.i64 x.1, Value.int IntKind.i64 x.2.1, strV x.2.2.1, Value.int IntKind.i64 x.2.2.2.1, Value.int IntKind.i64 x.2.2.2.2] rfl rfl rfl rfl rfl ?_
  intro W8 g9 eg9 r10 z11 b7
  replace r4 := r4.up b7
  replace b1 := b1.trans (b7.mono b1.size)
  replace q := q.trans (b7.mono q.size)
  have l12 := r10.lt
  have l13 := r4.lt
  refine LL.alloc ([Value.int IntKind.i64 0, Value.slice none 0 0, Value.int IntKind.i64 0, Value.bool false, Value.bool false, Value.int IntKind.i64 0, Value.int IntKind.i64 0, Value.string { data := { toList := [] } }, Value.int IntKind.i64 0, Value.int IntKind.i64 0]) rfl rfl rfl rfl rfl ?_
  intro W15 g16 eg16 r17 z18 b14
  replace r10 := r10.up b14
  replace b7 := b7.trans (b14.mono b7.size)
  replace r4 := r4.up b14
  replace b1 := b1.trans (b14.mono b1.size)
  replace q := q.trans (b14.mono q.size)
  refine LL.nilS ?_
  refine CC.seq ?_
  refine CC.freeZ (fun W_ j => j < W_.heap.size ∧ (j ≠ g3)) (by kernel_rfl) (by kernel_rfl) (fun W20 b19 z21 => ?_)
  replace r17 := r17.up b19
  replace b14 := b14.trans (b19.mono b14.size)
  replace r10 := r10.up b19
  replace b7 := b7.trans (b19.mono b7.size)
  replace r4 := r4.up b19
  replace b1 := b1.trans (b19.mono b1.size)
  replace q := q.trans (b19.mono q.size)
  have hok : Kept (fun j => j < W20.heap.size ∧ (j ≠ g3)) W20 W20 := Kept.refl _ _
  have fzr17 := fzRow (K := fun j => j < W20.heap.size ∧ (j ≠ g3)) r17 ⟨r17.lt, (by first | trivial | omega)⟩
  have fzr10 := fzRow (K := fun j => j < W20.heap.size ∧ (j ≠ g3)) r10 ⟨r10.lt, (by first | trivial | omega)⟩
  refine AA.pure 0 rfl hok (by kernel_rfl) (fun w' b' => R.load rfl rfl (I.ldNc (vs := [Value.int IntKind.i64 x.1, Value.int IntKind.i64 x.2.1, strV x.2.2.1, Value.int IntKind.i64 x.2.2.2.1, Value.int IntKind.i64 x.2.2.2.2]) (RowL.cells (fzr10 w' b') rfl) (by rfl) (by rfl))) rfl rfl ?_
  refine AA.pure 1 rfl hok (by kernel_rfl) (fun w' b' => R.field rfl rfl (I.fld rfl)) rfl rfl ?_
  refine AA.one 2 (by kernel_rfl) ?_
  refine ZR.store rfl rfl rfl rfl rfl r4 (by exact Nat.le_of_ble_eq_true rfl) rfl rfl rfl rfl ?_
  intro W23 r24 b22 z25
  have hlb22 := r4.lt
  replace r24 : RowL W23 _ 33 [Value.int IntKind.i64 d, Value.slice a n c, Value.int IntKind.i64 k, Value.bool fol, Value.bool true, Value.int IntKind.i64 x0.1, Value.int IntKind.i64 x0.2.1, strV x0.2.2.1, Value.int IntKind.i64 x0.2.2.2.1, Value.int IntKind.i64 x0.2.2.2.2] := r24
  clear r4
  replace r17 := r17.gr b22 (by have := r17.lt; omega)
  replace r10 := r10.gr b22 (by have := r10.lt; omega)
  replace b1 := b1.grown b22 b1.size (by rintro k ⟨⟩; omega)
  replace q := q.grown b22 q.size (by rintro k ⟨⟩; omega)
  replace hok := hok.trans (grown_kept b22 (fun j h => by have := h.1; have := hok.size; omega) (fun j h e => by cases e; have h2 := h.1; have h3 := h.2; omega))
  have r4 := r24
  clear r24
  refine ⟨hok, ?_⟩
  refine AA.pure 3 rfl hok (by kernel_rfl) (fun w' b' => R.field rfl rfl (I.fld rfl)) rfl rfl ?_
  refine AA.one 4 (by kernel_rfl) ?_
  refine ZR.storeN (vs := [Value.int IntKind.i64 x.1, Value.int IntKind.i64 x.2.1, strV x.2.2.1, Value.int IntKind.i64 x.2.2.2.1, Value.int IntKind.i64 x.2.2.2.2]) rfl rfl rfl rfl rfl r4 (by exact Nat.le_of_ble_eq_true rfl) (ones_of rfl) rfl rfl ?_
  intro W27 r28 b26 z29
  have hlb26 := r4.lt
  replace r28 : RowL W27 _ 33 [Value.int IntKind.i64 d, Value.slice a n c, Value.int IntKind.i64 k, Value.bool fol, Value.bool true, Value.int IntKind.i64 x.1, Value.int IntKind.i64 x.2.1, strV x.2.2.1, Value.int IntKind.i64 x.2.2.2.1, Value.int IntKind.i64 x.2.2.2.2] := r28
  clear r4
  replace r17 := r17.gr b26 (by have := r17.lt; omega)
  replace r10 := r10.gr b26 (by have := r10.lt; omega)
  replace b1 := b1.grown b26 b1.size (by rintro k ⟨⟩; omega)
  replace q := q.grown b26 q.size (by rintro k ⟨⟩; omega)
  replace hok := hok.trans (grown_kept b26 (fun j h => by have := h.1; have := hok.size; omega) (fun j h e => by cases e; have h2 := h.1; have h3 := h.2; omega))
  have r4 := r28
  clear r28
  refine ⟨hok, ?_⟩
  refine AA.pure 5 rfl hok (by kernel_rfl) (fun w' b' => R.field rfl rfl (I.fld rfl)) rfl rfl ?_
  refine AA.one 6 (by kernel_rfl) ?_
  refine ZR.store rfl rfl rfl rfl rfl r4 (by exact Nat.le_of_ble_eq_true rfl) rfl rfl rfl rfl ?_
  intro W31 r32 b30 z33
  have hlb30 := r4.lt
  replace r32 : RowL W31 _ 33 [Value.int IntKind.i64 d, Value.slice none 0 0, Value.int IntKind.i64 k, Value.bool fol, Value.bool true, Value.int IntKind.i64 x.1, Value.int IntKind.i64 x.2.1, strV x.2.2.1, Value.int IntKind.i64 x.2.2.2.1, Value.int IntKind.i64 x.2.2.2.2] := r32
  clear r4
  replace r17 := r17.gr b30 (by have := r17.lt; omega)
  replace r10 := r10.gr b30 (by have := r10.lt; omega)
  replace b1 := b1.grown b30 b1.size (by rintro k ⟨⟩; omega)
  replace q := q.grown b30 q.size (by rintro k ⟨⟩; omega)
  replace hok := hok.trans (grown_kept b30 (fun j h => by have := h.1; have := hok.size; omega) (fun j h e => by cases e; have h2 := h.1; have h3 := h.2; omega))
  have r4 := r32
  clear r32
  refine ⟨hok, ?_⟩
  refine AA.done rfl ?_
  clear fzr17 fzr10 hok
  refine EE.thenN ?_
  refine CC.seq ?_
  refine CC.region ?_
  refine LL.val (R.load rfl rfl (I.ldNc (vs := [Value.int IntKind.i64 d, Value.slice none 0 0, Value.int IntKind.i64 k, Value.bool fol, Value.bool true, Value.int IntKind.i64 x.1, Value.int IntKind.i64 x.2.1, strV x.2.2.1, Value.int IntKind.i64 x.2.2.2.1, Value.int IntKind.i64 x.2.2.2.2]) (RowL.cells r4 rfl) (by rfl) (by rfl))) rfl rfl rfl ?_
  refine LL.storeN (vs := [Value.int IntKind.i64 d, Value.slice none 0 0, Value.int IntKind.i64 k, Value.bool fol, Value.bool true, Value.int IntKind.i64 x.1, Value.int IntKind.i64 x.2.1, strV x.2.2.1, Value.int IntKind.i64 x.2.2.2.1, Value.int IntKind.i64 x.2.2.2.2]) rfl rfl rfl rfl r17 (by exact Nat.le_of_ble_eq_true rfl) (ones_of rfl) rfl rfl ?_
  intro W35 r36 b34 z37
  have hlb34 := r17.lt
  replace r36 : RowL W35 _ 33 [Value.int IntKind.i64 d, Value.slice none 0 0, Value.int IntKind.i64 k, Value.bool fol, Value.bool true, Value.int IntKind.i64 x.1, Value.int IntKind.i64 x.2.1, strV x.2.2.1, Value.int IntKind.i64 x.2.2.2.1, Value.int IntKind.i64 x.2.2.2.2] := r36
  clear r17
  replace r10 := r10.gr b34 (by have := r10.lt; omega)
  replace b1 := b1.grown b34 b1.size (by rintro k ⟨⟩; omega)
  replace q := q.grown b34 q.size (by rintro k ⟨⟩; omega)
  replace r4 := r4.gr b34 (by have := r4.lt; omega)
  have r17 := r36
  clear r36
  refine LL.nilS ?_
  refine CC.ret ?_
  refine EE.retC rfl rfl (lvNc (RowL.cells0 (by assumption)) (by rfl) (by rfl)) ?_
  exact ⟨rfl, q⟩
theorem ron_any (d : Int) (a : Option Addr) (n c : Nat) (k : Nat) (fol : Bool) (ls : List Bs) (w : World) (bb : Nat) (hv : PsB w bb a n c ls) (hl : n ≤ 1048576) (h0 : 0 < w.heap.size) : Calls Tryd.prog 35 #[rwV d a n c (k : Int) fol false wdZ] w fun e w' => ∃ v b2, e = .returned v ∧ RwR (Wk.on ⟨d, ls, k, fol, none⟩) v w' b2 ∧ ((b2 = 0 ∨ b2 = bb ∨ w.heap.size ≤ b2) ∧ b2 < w'.heap.size) ∧ Below w.heap.size w w' := by
  have q := Below.refl w.heap.size w
  have hn := hv.len
  have hF : ∀ X, Below w.heap.size w X → PsB X bb a n c ls := fun X b => hv.up b
  have hb0 := hv.lt
  clear hv
  refine X.fn Tryd.func35 rfl (n := 28) rfl rfl ?_
  refine CC.seq ?_
  refine CC.region ?_
  refine LL.box [Value.int IntKind.i64 d, Value.slice a n c, Value.int IntKind.i64 ↑k, Value.bool fol, Value.bool false, Value.int IntKind.i64 0, Value.int IntKind.i64 0, strV [], Value.int IntKind.i64 0, Value.int IntKind.i64 0] rfl rfl rfl rfl rfl ?_
  intro W2 g3 eg3 r4 z5 b1
  replace q := q.trans (b1.mono q.size)
  have l6 := r4.lt
  refine LL.alloc ([Value.int IntKind.i64 0, Value.slice none 0 0, Value.int IntKind.i64 0, Value.bool false, Value.bool false, Value.int IntKind.i64 0, Value.int IntKind.i64 0, Value.string { data := { toList := [] } }, Value.int IntKind.i64 0, Value.int IntKind.i64 0]) rfl rfl rfl rfl rfl ?_
  intro W8 g9 eg9 r10 z11 b7
  replace r4 := r4.up b7
  replace b1 := b1.trans (b7.mono b1.size)
  replace q := q.trans (b7.mono q.size)
  refine LL.nilS ?_
  refine CC.seq ?_
  refine CC.block ?_
  have r8 : RowL W8 g9 33 [.int .i64 0, .slice none 0 0, .int .i64 0, .bool false, .bool false, .int .i64 0, .int .i64 0, strV [], .int .i64 0, .int .i64 0] := r10
  have lg : w.heap.size ≤ g3 ∧ g3 < g9 := by omega
  clear r10
  refine CC.loop (α := List Bs × Option Addr × Nat × Nat) (fun _ => [(1, .pointer (some ⟨g3, 0, none⟩)), (2, .pointer (some ⟨g9, 0, none⟩))]) (fun s W => RowL W g3 33 [.int .i64 d, .slice s.2.1 s.2.2.1 s.2.2.2, .int .i64 (k : Int), .bool fol, .bool false, .int .i64 0, .int .i64 0, strV [], .int .i64 0, .int .i64 0] ∧ RowL W g9 33 [.int .i64 0, .slice none 0 0, .int .i64 0, .bool false, .bool false, .int .i64 0, .int .i64 0, strV [], .int .i64 0, .int .i64 0] ∧ (∀ X, Below w.heap.size w X → PsB X bb s.2.1 s.2.2.1 s.2.2.2 s.1) ∧ s.1.length ≤ 1048576 ∧ skipD s.1 = skipD ls ∧ Below w.heap.size w W) (fun s => s.1.length) (ls, a, n, c) ⟨rfl, rfl, trivial⟩ ⟨r4, r8, hF, by show ls.length ≤ _; omega, rfl, q⟩ ?_
  clear r4 r8 hF q b7 b1
  rintro ⟨l, a1, n1, c1⟩ W ⟨r1, r2, hF, hl1, e, q⟩
  dsimp only at r1 hF hl1 e
  have yq := q.size
  have hn1 := (hF _ q).len
  show CC none Tryd.prog _ 28 [] (sl [(1, .pointer (some ⟨g3, 0, none⟩)), (2, .pointer (some ⟨g9, 0, none⟩))]) _ W
  cases l with
  | nil =>
    have es : Wk.on ⟨d, ls, k, fol, none⟩ = ⟨d, [], k, fol, some (0, 0, [], d, 2)⟩ := by
      unfold Wk.on
      rw [show skipD (Wk.mk d ls k fol none).ps = [] from e.symm]
      rfl
    rw [es]
    obtain rfl : n1 = 0 := hn1.symm
    refine CC.seq ?_
    refine CC.seq ?_
    refine CC.region ?_
    refine LL.val (R.field rfl rfl (I.fld rfl)) rfl rfl rfl ?_
    refine LL.val (R.load rfl rfl (I.ld1 rfl (RowL.cell r1 rfl))) rfl rfl rfl ?_
    refine LL.val (R.len rfl rfl rfl rfl) rfl rfl rfl ?_
    refine LL.val (R.gtF rfl rfl rfl (by omega)) rfl rfl rfl ?_
    refine LL.val (R.move rfl rfl) rfl rfl rfl ?_
    refine LL.skip rfl rfl ?_
    refine LL.skip rfl rfl ?_
    refine LL.skip rfl rfl ?_
    refine LL.skip rfl rfl ?_
    refine LL.skip rfl rfl ?_
    refine LL.val (R.pick rfl rfl rfl) rfl rfl rfl ?_
    refine LL.nilS ?_
    refine CC.no rfl ?_
    refine CC.exit ?_
    refine EE.thenX ?_
    refine EE.thenX ?_
    refine EE.inX ?_
    refine EE.thenN ?_
    refine CC.seq ?_
    refine CC.seq ?_
    refine CC.region ?_
    refine LL.val (R.field rfl rfl (I.fld rfl)) rfl rfl rfl ?_
    refine LL.val (R.load rfl rfl (I.ld1 rfl (RowL.cell r1 rfl))) rfl rfl rfl ?_
    refine LL.val (R.len rfl rfl rfl rfl) rfl rfl rfl ?_
    refine LL.val (R.eqT rfl rfl rfl (by omega)) rfl rfl rfl ?_
    refine LL.nilS ?_
    refine CC.yes rfl ?_
    refine CC.seq ?_
    refine CC.region ?_
    refine LL.val (R.load rfl rfl (I.ldNc (vs := [Value.int IntKind.i64 d, Value.slice a1 0 c1, Value.int IntKind.i64 ↑k, Value.bool fol, Value.bool false, Value.int IntKind.i64 0, Value.int IntKind.i64 0, strV [], Value.int IntKind.i64 0, Value.int IntKind.i64 0]) (RowL.cells r1 rfl) (by rfl) (by rfl))) rfl rfl rfl ?_
    refine LL.val (R.field rfl rfl (I.fld rfl)) rfl rfl rfl ?_
    refine LL.val (R.load rfl rfl (I.ld1 rfl (RowL.cell r1 rfl))) rfl rfl rfl ?_
    refine LL.val (R.buildV rfl rfl (v := .agg #[Value.int IntKind.i64 0, Value.int IntKind.i64 0, Value.string { data := #[] }, Value.int IntKind.i64 d, Value.int IntKind.i64 2]) (fun _ => by kernel_rfl)) rfl rfl rfl ?_
    have la131 := r2.lt
    have la132 := r1.lt
    (refine LL.call (R.call rfl rfl rfl) rfl rfl rfl (rdone_any d _ _ _ _ _ _ wdZ (0, 0, [], d, 2) _) ?_; rintro e Wa130 ⟨rfl, ba127⟩; refine ⟨_, rfl, ?_⟩)
    have zba127 := ba127.size
    replace r2 := r2.up ba127
    replace q := q.trans (ba127.mono q.size)
    replace r1 := r1.up ba127
    refine LL.storeN (vs := [Value.int IntKind.i64 d, Value.slice none 0 0, Value.int IntKind.i64 ↑k, Value.bool fol, Value.bool true, Value.int IntKind.i64 0, Value.int IntKind.i64 0, strV [], Value.int IntKind.i64 d, Value.int IntKind.i64 2]) rfl rfl rfl rfl r2 (by exact Nat.le_of_ble_eq_true rfl) (ones_of rfl) rfl rfl ?_
    intro Wa146 ra147 ba145 za148
    have hlba145 := r2.lt
    replace ra147 : RowL Wa146 _ 33 [Value.int IntKind.i64 d, Value.slice none 0 0, Value.int IntKind.i64 ↑k, Value.bool fol, Value.bool true, Value.int IntKind.i64 0, Value.int IntKind.i64 0, strV [], Value.int IntKind.i64 d, Value.int IntKind.i64 2] := ra147
    clear r2
    replace q := q.grown ba145 q.size (by rintro k ⟨⟩; omega)
    replace r1 := r1.gr ba145 (by have := r1.lt; omega)
    have r2 := ra147
    clear ra147
    refine LL.nilS ?_
    refine CC.ret ?_
    refine EE.thenR ?_
    refine EE.retC rfl rfl (lvNc (RowL.cells0 (by assumption)) (by rfl) (by rfl)) ?_
    exact ⟨_, 0, rfl, RwR.fin (0, 0, [], d, 2) _ _ _ rfl rfl, by omega, q⟩
  | cons p r =>
    have hn2 : r.length + 1 = n1 := hn1
    obtain ⟨off, rfl, c0⟩ := (hF _ q).head
    have c2 := c0 _ (hF _ q)
    have c1' : W.cell? ⟨bb, off, none⟩ = some (strV p) := c2
    by_cases h46 : p = [46]
    · obtain ⟨a', c', hsl, htl⟩ := (hF _ q).tail
      have e2 : skipD r = skipD ls := by
        rw [← e]
        show _ = if p = [46] then skipD r else p :: r
        rw [if_pos h46]
      refine CC.seq ?_
      refine CC.seq ?_
      refine CC.region ?_
      refine LL.val (R.field rfl rfl (I.fld rfl)) rfl rfl rfl ?_
      refine LL.val (R.load rfl rfl (I.ld1 rfl (RowL.cell r1 rfl))) rfl rfl rfl ?_
      refine LL.val (R.len rfl rfl rfl rfl) rfl rfl rfl ?_
      refine LL.val (R.gtT rfl rfl rfl (by omega)) rfl rfl rfl ?_
      refine LL.val (R.move rfl rfl) rfl rfl rfl ?_
      refine LL.val (R.field rfl rfl (I.fld rfl)) rfl rfl rfl ?_
      refine LL.val (R.load rfl rfl (I.ld1 rfl (RowL.cell r1 rfl))) rfl rfl rfl ?_
      refine LL.val (R.index rfl rfl rfl (I.ixS1c rfl rfl (by omega))) rfl rfl rfl ?_
      refine LL.val (R.load rfl rfl (I.ld1 rfl (by assumption))) rfl rfl rfl ?_
      (refine LL.val (R.eqS (a := p) (b := [46]) (c := true) rfl rfl rfl (by simp [h46])) rfl rfl rfl ?_)
      refine LL.val (R.pick rfl rfl rfl) rfl rfl rfl ?_
      refine LL.nilS ?_
      refine CC.yes rfl ?_
      refine CC.skip ?_
      refine EE.thenN ?_
      refine CC.block ?_
      refine CC.region ?_
      refine LL.val (R.field rfl rfl (I.fld rfl)) rfl rfl rfl ?_
      refine LL.val (R.load rfl rfl (I.ld1 rfl (RowL.cell r1 rfl))) rfl rfl rfl ?_
      (refine LL.val (R.slice rfl rfl rfl rfl rfl (hsl _ _ _ _ rfl)) rfl rfl rfl ?_)
      refine LL.val (R.field rfl rfl (I.fld rfl)) rfl rfl rfl ?_
      refine LL.store rfl rfl rfl rfl r1 (by exact Nat.le_of_ble_eq_true rfl) rfl rfl rfl rfl ?_
      intro Wb2 rb3 bb1 zb4
      have hlbb1 := r1.lt
      replace rb3 : RowL Wb2 _ 33 [Value.int IntKind.i64 d, Value.slice a' (n1 - 1) c', Value.int IntKind.i64 ↑k, Value.bool fol, Value.bool false, Value.int IntKind.i64 0, Value.int IntKind.i64 0, strV [], Value.int IntKind.i64 0, Value.int IntKind.i64 0] := rb3
      clear r1
      replace r2 := r2.gr bb1 (by have := r2.lt; omega)
      replace q := q.grown bb1 q.size (by rintro k ⟨⟩; omega)
      replace c2 := cell_gr c2 bb1 (by omega)
      replace c1' := cell_gr c1' bb1 (by omega)
      have r1 := rb3
      clear rb3
      refine LL.nil ?_
      refine EE.inN ?_
      exact EE.round (r, _, _, _) ⟨rfl, rfl, trivial⟩ ⟨r1, r2, fun X b => htl X (hF X b), by show r.length ≤ 1048576; have h9 : r.length + 1 ≤ 1048576 := hl1; omega, e2, q⟩ (by show r.length < (p :: r).length; exact Nat.lt_succ_self _)
    · have es : Wk.on ⟨d, ls, k, fol, none⟩ = ⟨d, p :: r, k, fol, none⟩ := by
        unfold Wk.on
        rw [show skipD (Wk.mk d ls k fol none).ps = p :: r from by
          show skipD ls = _
          rw [← e]
          show (if p = [46] then skipD r else p :: r) = _
          rw [if_neg h46]]
      rw [es]
      refine CC.seq ?_
      refine CC.seq ?_
      refine CC.region ?_
      refine LL.val (R.field rfl rfl (I.fld rfl)) rfl rfl rfl ?_
      refine LL.val (R.load rfl rfl (I.ld1 rfl (RowL.cell r1 rfl))) rfl rfl rfl ?_
      refine LL.val (R.len rfl rfl rfl rfl) rfl rfl rfl ?_
      refine LL.val (R.gtT rfl rfl rfl (by omega)) rfl rfl rfl ?_
      refine LL.val (R.move rfl rfl) rfl rfl rfl ?_
      refine LL.val (R.field rfl rfl (I.fld rfl)) rfl rfl rfl ?_
      refine LL.val (R.load rfl rfl (I.ld1 rfl (RowL.cell r1 rfl))) rfl rfl rfl ?_
      refine LL.val (R.index rfl rfl rfl (I.ixS1c rfl rfl (by omega))) rfl rfl rfl ?_
      refine LL.val (R.load rfl rfl (I.ld1 rfl (by assumption))) rfl rfl rfl ?_
      (refine LL.val (R.eqS (a := p) (b := [46]) (c := false) rfl rfl rfl (by simp [h46])) rfl rfl rfl ?_)
      refine LL.val (R.pick rfl rfl rfl) rfl rfl rfl ?_
      refine LL.nilS ?_
      refine CC.no rfl ?_
      refine CC.exit ?_
      refine EE.thenX ?_
      refine EE.thenX ?_
      refine EE.inX ?_
      refine EE.thenN ?_
      refine CC.seq ?_
      refine CC.seq ?_
      refine CC.region ?_
      refine LL.val (R.field rfl rfl (I.fld rfl)) rfl rfl rfl ?_
      refine LL.val (R.load rfl rfl (I.ld1 rfl (RowL.cell r1 rfl))) rfl rfl rfl ?_
      refine LL.val (R.len rfl rfl rfl rfl) rfl rfl rfl ?_
      refine LL.val (R.eqF rfl rfl rfl (by omega)) rfl rfl rfl ?_
      refine LL.nilS ?_
      refine CC.no rfl ?_
      refine CC.skip ?_
      refine EE.thenN ?_
      refine CC.seq ?_
      refine CC.region ?_
      refine LL.val (R.load rfl rfl (I.ldNc (vs := [Value.int IntKind.i64 d, Value.slice (some { block := bb, off := off }) n1 c1, Value.int IntKind.i64 ↑k, Value.bool fol, Value.bool false, Value.int IntKind.i64 0, Value.int IntKind.i64 0, strV [], Value.int IntKind.i64 0, Value.int IntKind.i64 0]) (RowL.cells r1 rfl) (by rfl) (by rfl))) rfl rfl rfl ?_
      refine LL.storeN (vs := [Value.int IntKind.i64 d, Value.slice (some { block := bb, off := off }) n1 c1, Value.int IntKind.i64 ↑k, Value.bool fol, Value.bool false, Value.int IntKind.i64 0, Value.int IntKind.i64 0, strV [], Value.int IntKind.i64 0, Value.int IntKind.i64 0]) rfl rfl rfl rfl r2 (by exact Nat.le_of_ble_eq_true rfl) (ones_of rfl) rfl rfl ?_
      intro Wc2 rc3 bc1 zc4
      have hlbc1 := r2.lt
      replace rc3 : RowL Wc2 _ 33 [Value.int IntKind.i64 d, Value.slice (some { block := bb, off := off }) n1 c1, Value.int IntKind.i64 ↑k, Value.bool fol, Value.bool false, Value.int IntKind.i64 0, Value.int IntKind.i64 0, strV [], Value.int IntKind.i64 0, Value.int IntKind.i64 0] := rc3
      clear r2
      replace q := q.grown bc1 q.size (by rintro k ⟨⟩; omega)
      replace r1 := r1.gr bc1 (by have := r1.lt; omega)
      replace c2 := cell_gr c2 bc1 (by omega)
      replace c1' := cell_gr c1' bc1 (by omega)
      have r2 := rc3
      clear rc3
      refine LL.nilS ?_
      refine CC.ret ?_
      refine EE.retC rfl rfl (lvNc (RowL.cells0 (by assumption)) (by rfl) (by rfl)) ?_
      exact ⟨_, bb, rfl, RwR.run rfl rfl rfl rfl rfl (hF _ q), by omega, q⟩
theorem rnew_bad (path : Bs) (fol : Bool) (w : World) (hl : path.length ≤ 9223372036854775807) (er : Nat) (he : pathN path = er) (h0 : er ≠ 0) : Calls Tryd.prog 10 #[strV path, .bool fol] w fun e w' => e = .returned (.tuple #[rwV 0 none 0 0 0 false false wdZ, .int .i64 (er : Int)]) ∧ Below w.heap.size w w' := by
  have q := Below.refl w.heap.size w
  have hp := fun W => rparts_any path W hl
  rw [he, if_neg h0] at hp
  have h0' : (er : Int) ≠ 0 := by omega
  refine X.fn Tryd.func10 rfl (n := 21) rfl rfl ?_
  refine CC.seq ?_
  refine CC.region ?_
  refine LL.alloc ([Value.int IntKind.i64 0, Value.slice none 0 0, Value.int IntKind.i64 0, Value.bool false, Value.bool false, Value.int IntKind.i64 0, Value.int IntKind.i64 0, Value.string { data := { toList := [] } }, Value.int IntKind.i64 0, Value.int IntKind.i64 0]) rfl rfl rfl rfl rfl ?_
  intro W9 g10 eg10 r11 z12 b8
  replace q := q.trans (b8.mono q.size)
  refine LL.val (R.assign rfl rfl) rfl rfl rfl ?_
  refine LL.nilS ?_
  refine CC.seq ?_
  refine CC.region ?_
  refine LL.val (R.move rfl rfl) rfl rfl rfl ?_
  have l33 := r11.lt
  (refine LL.call (R.call rfl rfl rfl) rfl rfl rfl (hp _) ?_; rintro e W32 ⟨vp, rfl, op, b29⟩; refine ⟨_, rfl, ?_⟩; obtain ⟨ap, cp, rfl, hcp⟩ := (op.reads stEnc).form rfl)
  have zb29 := b29.size
  replace r11 := r11.up b29
  replace b8 := b8.trans (b29.mono b8.size)
  replace q := q.trans (b29.mono q.size)
  refine LL.val (R.move rfl rfl) rfl rfl rfl ?_
  refine LL.val (R.extract rfl rfl rfl) rfl rfl rfl ?_
  refine LL.val (R.extract rfl rfl rfl) rfl rfl rfl ?_
  refine LL.val (R.assign rfl rfl) rfl rfl rfl ?_
  refine LL.val (R.assign rfl rfl) rfl rfl rfl ?_
  refine LL.nilS ?_
  refine CC.seq ?_
  refine CC.seq ?_
  refine CC.region ?_
  refine LL.val (R.move rfl rfl) rfl rfl rfl ?_
  refine LL.val (R.neT rfl rfl rfl (by omega)) rfl rfl rfl ?_
  refine LL.nilS ?_
  refine CC.yes rfl ?_
  refine CC.seq ?_
  refine CC.region ?_
  refine LL.val (R.buildV rfl rfl (v := .agg #[Value.int IntKind.i64 0, Value.slice none 0 0, Value.int IntKind.i64 0, Value.bool false, Value.bool false, Value.int IntKind.i64 0, Value.int IntKind.i64 0, Value.string { data := #[] }, Value.int IntKind.i64 0, Value.int IntKind.i64 0]) (fun _ => by kernel_rfl)) rfl rfl rfl ?_
  refine LL.val (R.move rfl rfl) rfl rfl rfl ?_
  refine LL.storeN (vs := [Value.int IntKind.i64 0, Value.slice none 0 0, Value.int IntKind.i64 0, Value.bool false, Value.bool false, Value.int IntKind.i64 0, Value.int IntKind.i64 0, Value.string { data := #[] }, Value.int IntKind.i64 0, Value.int IntKind.i64 0]) rfl rfl rfl rfl r11 (by exact Nat.le_of_ble_eq_true rfl) (ones_of rfl) rfl rfl ?_
  intro W118 r119 b117 z120
  have hlb117 := r11.lt
  replace r119 : RowL W118 _ 33 [Value.int IntKind.i64 0, Value.slice none 0 0, Value.int IntKind.i64 0, Value.bool false, Value.bool false, Value.int IntKind.i64 0, Value.int IntKind.i64 0, Value.string { data := #[] }, Value.int IntKind.i64 0, Value.int IntKind.i64 0] := r119
  clear r11
  replace op := op.grown b117 (own_ne op (by omega))
  replace b8 := b8.grown b117 b8.size (by rintro k ⟨⟩; omega)
  replace q := q.grown b117 q.size (by rintro k ⟨⟩; omega)
  have r11 := r119
  clear r119
  refine LL.val (R.assign rfl rfl) rfl rfl rfl ?_
  refine LL.nilS ?_
  refine CC.ret ?_
  refine EE.thenR ?_
  refine EE.ret2 rfl ⟨_, rfl, lvNc (RowL.cells0 (by assumption)) (by rfl) (by rfl)⟩ rfl ?_
  exact ⟨rfl, q⟩
theorem rnew_yes (path : Bs) (fol : Bool) (w : World) (hl : path.length ≤ 9223372036854775807) (hz : pathN path = 0) (h0 : 0 < w.heap.size) : Calls Tryd.prog 10 #[strV path, .bool fol] w fun e w' => ∃ v b2, e = .returned (.tuple #[v, .int .i64 0]) ∧ RwR (newW path fol) v w' b2 ∧ ((b2 = 0 ∨ w.heap.size ≤ b2) ∧ b2 < w'.heap.size) ∧ Below w.heap.size w w' := by
  have q := Below.refl w.heap.size w
  have hp := fun W => rparts_any path W hl
  rw [hz, if_pos rfl] at hp
  have hlen := partsL_len0 hz
  unfold newW
  obtain ⟨ls, els⟩ : ∃ ls, partsL path = ls := ⟨_, rfl⟩
  rw [els] at hp hlen ⊢
  obtain ⟨n, hn⟩ : ∃ n, ls.length = n := ⟨_, rfl⟩
  refine X.fn Tryd.func10 rfl (n := 21) rfl rfl ?_
  refine CC.seq ?_
  refine CC.region ?_
  refine LL.alloc ([Value.int IntKind.i64 0, Value.slice none 0 0, Value.int IntKind.i64 0, Value.bool false, Value.bool false, Value.int IntKind.i64 0, Value.int IntKind.i64 0, Value.string { data := { toList := [] } }, Value.int IntKind.i64 0, Value.int IntKind.i64 0]) rfl rfl rfl rfl rfl ?_
  intro W16 g17 eg17 r18 z19 b15
  replace q := q.trans (b15.mono q.size)
  refine LL.val (R.assign rfl rfl) rfl rfl rfl ?_
  refine LL.nilS ?_
  refine CC.seq ?_
  refine CC.region ?_
  refine LL.val (R.move rfl rfl) rfl rfl rfl ?_
  have l56 := r18.lt
  (refine LL.call (R.call rfl rfl rfl) rfl rfl rfl (hp _) ?_; rintro e W55 ⟨vp, rfl, op, b52⟩; refine ⟨_, rfl, ?_⟩; obtain ⟨ap, cp, rfl, hcp⟩ := (op.reads stEnc).form hn; have zy := b52.size; obtain ⟨bp, hpb, hbp⟩ := PsB.own op (by omega); have lbp := hpb.lt; clear op)
  have zb52 := b52.size
  replace r18 := r18.up b52
  replace b15 := b15.trans (b52.mono b15.size)
  replace q := q.trans (b52.mono q.size)
  refine LL.val (R.move rfl rfl) rfl rfl rfl ?_
  refine LL.val (R.extract rfl rfl rfl) rfl rfl rfl ?_
  refine LL.val (R.extract rfl rfl rfl) rfl rfl rfl ?_
  refine LL.val (R.assign rfl rfl) rfl rfl rfl ?_
  refine LL.val (R.assign rfl rfl) rfl rfl rfl ?_
  refine LL.nilS ?_
  refine CC.seq ?_
  refine CC.seq ?_
  refine CC.region ?_
  refine LL.val (R.move rfl rfl) rfl rfl rfl ?_
  refine LL.val (R.neF rfl rfl rfl (by omega)) rfl rfl rfl ?_
  refine LL.nilS ?_
  refine CC.no rfl ?_
  refine CC.skip ?_
  refine EE.thenN ?_
  refine CC.seq ?_
  refine CC.region ?_
  refine LL.val (R.move rfl rfl) rfl rfl rfl ?_
  refine LL.val (R.move rfl rfl) rfl rfl rfl ?_
  refine LL.val (R.buildV rfl rfl (v := .agg #[Value.int IntKind.i64 1, Value.slice ap n cp, Value.int IntKind.i64 0, Value.bool fol, Value.bool false, Value.int IntKind.i64 0, Value.int IntKind.i64 0, Value.string { data := #[] }, Value.int IntKind.i64 0, Value.int IntKind.i64 0]) (fun _ => by kernel_rfl)) rfl rfl rfl ?_
  have l232 := r18.lt
  (refine LL.call (R.call rfl rfl rfl) rfl rfl rfl (ron_any 1 _ _ _ 0 fol ls _ bp hpb (by omega) (by omega)) ?_; rintro e W231 ⟨vo, bo1, rfl, ho1, hbo1, b228⟩; refine ⟨_, rfl, ?_⟩; obtain ⟨d1, a1, n1, c1, k1, f1, dn1, x1, rfl⟩ := ho1.form)
  have zb228 := b228.size
  replace b52 := b52.trans (b228.mono b52.size)
  replace hpb := hpb.up b228
  replace r18 := r18.up b228
  replace b15 := b15.trans (b228.mono b15.size)
  replace q := q.trans (b228.mono q.size)
  refine LL.storeN (vs := [Value.int IntKind.i64 d1, Value.slice a1 n1 c1, Value.int IntKind.i64 k1, Value.bool f1, Value.bool dn1, Value.int IntKind.i64 x1.1, Value.int IntKind.i64 x1.2.1, strV x1.2.2.1, Value.int IntKind.i64 x1.2.2.2.1, Value.int IntKind.i64 x1.2.2.2.2]) rfl rfl rfl rfl r18 (by exact Nat.le_of_ble_eq_true rfl) (ones_of rfl) rfl rfl ?_
  intro W253 r254 b252 z255
  have hlb252 := r18.lt
  replace r254 : RowL W253 _ 33 [Value.int IntKind.i64 d1, Value.slice a1 n1 c1, Value.int IntKind.i64 k1, Value.bool f1, Value.bool dn1, Value.int IntKind.i64 x1.1, Value.int IntKind.i64 x1.2.1, strV x1.2.2.1, Value.int IntKind.i64 x1.2.2.2.1, Value.int IntKind.i64 x1.2.2.2.2] := r254
  clear r18
  replace ho1 := ho1.gr b252 (by omega)
  replace hpb := hpb.gr b252 (by have := hpb.lt; omega)
  replace b15 := b15.grown b252 b15.size (by rintro k ⟨⟩; omega)
  replace q := q.grown b252 q.size (by rintro k ⟨⟩; omega)
  have r18 := r254
  clear r254
  refine LL.val (R.assign rfl rfl) rfl rfl rfl ?_
  refine LL.nilS ?_
  refine CC.ret ?_
  refine EE.ret2 rfl ⟨_, rfl, lvNc (RowL.cells0 (by assumption)) (by rfl) (by rfl)⟩ rfl ?_
  exact ⟨_, bo1, rfl, ho1, by omega, q⟩
theorem rmiss_any (d : Int) (a : Option Addr) (n c : Nat) (k : Nat) (fol : Bool) (p : Bs) (r : List Bs) (w : World) (bb : Nat) (hv : PsB w bb a n c (p :: r)) (hl : n ≤ 1048576) (h0 : 0 < w.heap.size) : Calls Tryd.prog 16 #[rwV d a n c (k : Int) fol false wdZ] w fun e w' => ∃ v b2, e = .returned v ∧ RwR (Wk.miss ⟨d, p :: r, k, fol, none⟩) v w' b2 ∧ ((b2 = 0 ∨ b2 = bb ∨ w.heap.size ≤ b2) ∧ b2 < w'.heap.size) ∧ Below w.heap.size w w' := by
  have q := Below.refl w.heap.size w
  have hn := hv.len
  have hF : ∀ X, Below w.heap.size w X → PsB X bb a n c (p :: r) := fun X b => hv.up b
  have hb0 := hv.lt
  obtain ⟨off, rfl, c0⟩ := hv.head
  have c1 := fun X (b : Below w.heap.size w X) => c0 X (hF X b)
  clear hv c0
  cases r with
  | nil =>
    obtain rfl : n = 1 := hn.symm
    have es : Wk.miss ⟨d, [p], k, fol, none⟩ = ⟨d, [], k, fol, some (270, d, p, 0, 0)⟩ := rfl
    rw [es]
    refine X.fn Tryd.func16 rfl (n := 20) rfl rfl ?_
    refine CC.seq ?_
    refine CC.region ?_
    refine LL.box [Value.int IntKind.i64 d, Value.slice (some { block := bb, off := off }) 1 c, Value.int IntKind.i64 ↑k, Value.bool fol, Value.bool false, Value.int IntKind.i64 0, Value.int IntKind.i64 0, strV [], Value.int IntKind.i64 0, Value.int IntKind.i64 0] rfl rfl rfl rfl rfl ?_
    intro W9 g10 eg10 r11 z12 b8
    replace q := q.trans (b8.mono q.size)
    have l21 := r11.lt
    refine LL.alloc ([Value.int IntKind.i64 0, Value.slice none 0 0, Value.int IntKind.i64 0, Value.bool false, Value.bool false, Value.int IntKind.i64 0, Value.int IntKind.i64 0, Value.string { data := { toList := [] } }, Value.int IntKind.i64 0, Value.int IntKind.i64 0]) rfl rfl rfl rfl rfl ?_
    intro W23 g24 eg24 r25 z26 b22
    replace r11 := r11.up b22
    replace b8 := b8.trans (b22.mono b8.size)
    replace q := q.trans (b22.mono q.size)
    refine LL.nilS ?_
    refine CC.seq ?_
    refine CC.region ?_
    refine LL.val (R.buildV rfl rfl (v := .agg #[Value.int IntKind.i64 270, Value.int IntKind.i64 0, Value.string { data := #[] }, Value.int IntKind.i64 0, Value.int IntKind.i64 0]) (fun _ => by kernel_rfl)) rfl rfl rfl ?_
    have l45 := r25.lt
    have l46 := r11.lt
    refine LL.alloc ([Value.int IntKind.i64 0, Value.int IntKind.i64 0, Value.string { data := { toList := [] } }, Value.int IntKind.i64 0, Value.int IntKind.i64 0]) rfl rfl rfl rfl rfl ?_
    intro W48 g49 eg49 r50 z51 b47
    replace r25 := r25.up b47
    replace b22 := b22.trans (b47.mono b22.size)
    replace r11 := r11.up b47
    replace b8 := b8.trans (b47.mono b8.size)
    replace q := q.trans (b47.mono q.size)
    refine LL.storeN (vs := [Value.int IntKind.i64 270, Value.int IntKind.i64 0, Value.string { data := #[] }, Value.int IntKind.i64 0, Value.int IntKind.i64 0]) rfl rfl rfl rfl r50 (by exact Nat.le_of_ble_eq_true rfl) (ones_of rfl) rfl rfl ?_
    intro W63 r64 b62 z65
    have hlb62 := r50.lt
    replace r64 : RowL W63 _ 31 [Value.int IntKind.i64 270, Value.int IntKind.i64 0, Value.string { data := #[] }, Value.int IntKind.i64 0, Value.int IntKind.i64 0] := r64
    clear r50
    replace b47 := b47.grown b62 b47.size (by rintro k ⟨⟩; omega)
    replace r25 := r25.gr b62 (by have := r25.lt; omega)
    replace b22 := b22.grown b62 b22.size (by rintro k ⟨⟩; omega)
    replace r11 := r11.gr b62 (by have := r11.lt; omega)
    replace b8 := b8.grown b62 b8.size (by rintro k ⟨⟩; omega)
    replace q := q.grown b62 q.size (by rintro k ⟨⟩; omega)
    have r50 := r64
    clear r64
    refine LL.nilS ?_
    refine CC.seq ?_
    refine CC.seq ?_
    refine CC.region ?_
    refine LL.val (R.field rfl rfl (I.fld rfl)) rfl rfl rfl ?_
    refine LL.val (R.load rfl rfl (I.ld1 rfl (RowL.cell r11 rfl))) rfl rfl rfl ?_
    refine LL.val (R.len rfl rfl rfl rfl) rfl rfl rfl ?_
    refine LL.val (R.eqT rfl rfl rfl (by omega)) rfl rfl rfl ?_
    refine LL.nilS ?_
    refine CC.yes rfl ?_
    refine CC.freeZ (fun W_ j => j < W_.heap.size ∧ (j ≠ g49)) (by kernel_rfl) (by kernel_rfl) (fun W140 b139 z141 => ?_)
    replace b47 := b47.trans (b139.mono b47.size)
    replace r25 := r25.up b139
    replace b22 := b22.trans (b139.mono b22.size)
    replace r11 := r11.up b139
    replace b8 := b8.trans (b139.mono b8.size)
    replace q := q.trans (b139.mono q.size)
    replace r50 := r50.up b139
    have hok : Kept (fun j => j < W140.heap.size ∧ (j ≠ g49)) W140 W140 := Kept.refl _ _
    have fzr25 := fzRow (K := fun j => j < W140.heap.size ∧ (j ≠ g49)) r25 ⟨r25.lt, (by first | trivial | omega)⟩
    have fzr11 := fzRow (K := fun j => j < W140.heap.size ∧ (j ≠ g49)) r11 ⟨r11.lt, (by first | trivial | omega)⟩
    refine AA.pure 0 rfl hok (by kernel_rfl) (fun w' b' => R.field rfl rfl (I.fld rfl)) rfl rfl ?_
    refine AA.pure 1 rfl hok (by kernel_rfl) (fun w' b' => R.load rfl rfl (I.ld1 rfl (RowL.cell (fzr11 w' b') rfl))) rfl rfl ?_
    refine AA.pure 2 rfl hok (by kernel_rfl) (fun w' b' => R.field rfl rfl (I.fld rfl)) rfl rfl ?_
    refine AA.pure 3 rfl hok (by kernel_rfl) (fun w' b' => R.load rfl rfl (I.ld1 rfl (RowL.cell (fzr11 w' b') rfl))) rfl rfl ?_
    refine AA.pure 4 rfl hok (by kernel_rfl) (fun w' b' => R.index rfl rfl rfl (I.ixS1c rfl rfl (by omega))) rfl rfl ?_
    refine AA.pure 6 rfl hok (by kernel_rfl) (fun w' b' => R.field rfl rfl (I.fld rfl)) rfl rfl ?_
    refine AA.two 5 7 (by kernel_rfl) ?_ ?_
    (refine SR.val rfl (R.load rfl rfl (I.ld1 rfl (c1 _ q))) rfl rfl hok ?_)
    refine AA.one 7 (by kernel_rfl) ?_
    refine ZR.store rfl rfl rfl rfl rfl r50 (by exact Nat.le_of_ble_eq_true rfl) rfl rfl rfl rfl ?_
    intro W153 r154 b152 z155
    have hlb152 := r50.lt
    replace r154 : RowL W153 _ 31 [Value.int IntKind.i64 270, Value.int IntKind.i64 d, Value.string { data := #[] }, Value.int IntKind.i64 0, Value.int IntKind.i64 0] := r154
    clear r50
    replace b47 := b47.grown b152 b47.size (by rintro k ⟨⟩; omega)
    replace r25 := r25.gr b152 (by have := r25.lt; omega)
    replace b22 := b22.grown b152 b22.size (by rintro k ⟨⟩; omega)
    replace r11 := r11.gr b152 (by have := r11.lt; omega)
    replace b8 := b8.grown b152 b8.size (by rintro k ⟨⟩; omega)
    replace q := q.grown b152 q.size (by rintro k ⟨⟩; omega)
    replace hok := hok.trans (grown_kept b152 (fun j h => by have := h.1; have := hok.size; omega) (fun j h e => by cases e; have h2 := h.1; have h3 := h.2; omega))
    have r50 := r154
    clear r154
    refine ⟨hok, ?_⟩
    refine AA.pure 8 rfl hok (by kernel_rfl) (fun w' b' => R.field rfl rfl (I.fld rfl)) rfl rfl ?_
    refine AA.one 9 (by kernel_rfl) ?_
    refine ZR.store rfl rfl rfl rfl rfl r50 (by exact Nat.le_of_ble_eq_true rfl) rfl rfl rfl rfl ?_
    intro W167 r168 b166 z169
    have hlb166 := r50.lt
    replace r168 : RowL W167 _ 31 [Value.int IntKind.i64 270, Value.int IntKind.i64 d, Value.string { data := List.toArray p }, Value.int IntKind.i64 0, Value.int IntKind.i64 0] := r168
    clear r50
    replace b47 := b47.grown b166 b47.size (by rintro k ⟨⟩; omega)
    replace r25 := r25.gr b166 (by have := r25.lt; omega)
    replace b22 := b22.grown b166 b22.size (by rintro k ⟨⟩; omega)
    replace r11 := r11.gr b166 (by have := r11.lt; omega)
    replace b8 := b8.grown b166 b8.size (by rintro k ⟨⟩; omega)
    replace q := q.grown b166 q.size (by rintro k ⟨⟩; omega)
    replace hok := hok.trans (grown_kept b166 (fun j h => by have := h.1; have := hok.size; omega) (fun j h e => by cases e; have h2 := h.1; have h3 := h.2; omega))
    have r50 := r168
    clear r168
    refine ⟨hok, ?_⟩
    refine AA.done rfl ?_
    clear fzr25 fzr11 hok
    refine EE.thenN ?_
    refine CC.seq ?_
    refine CC.region ?_
    refine LL.val (R.load rfl rfl (I.ldNc (vs := [Value.int IntKind.i64 d, Value.slice (some { block := bb, off := off }) 1 c, Value.int IntKind.i64 ↑k, Value.bool fol, Value.bool false, Value.int IntKind.i64 0, Value.int IntKind.i64 0, strV [], Value.int IntKind.i64 0, Value.int IntKind.i64 0]) (RowL.cells r11 rfl) (by rfl) (by rfl))) rfl rfl rfl ?_
    refine LL.val (R.load rfl rfl (I.ldNc (vs := [Value.int IntKind.i64 270, Value.int IntKind.i64 d, Value.string { data := List.toArray p }, Value.int IntKind.i64 0, Value.int IntKind.i64 0]) (RowL.cells r50 rfl) (by rfl) (by rfl))) rfl rfl rfl ?_
    have l194 := r25.lt
    have l195 := r11.lt
    have l196 := r50.lt
    (refine LL.call (R.call rfl rfl rfl) rfl rfl rfl (rdone_any d _ _ _ _ _ _ wdZ (270, d, p, 0, 0) _) ?_; rintro e W193 ⟨rfl, b190⟩; refine ⟨_, rfl, ?_⟩)
    have zb190 := b190.size
    replace b47 := b47.trans (b190.mono b47.size)
    replace r25 := r25.up b190
    replace b22 := b22.trans (b190.mono b22.size)
    replace r11 := r11.up b190
    replace b8 := b8.trans (b190.mono b8.size)
    replace q := q.trans (b190.mono q.size)
    replace r50 := r50.up b190
    refine LL.storeN (vs := [Value.int IntKind.i64 d, Value.slice none 0 0, Value.int IntKind.i64 ↑k, Value.bool fol, Value.bool true, Value.int IntKind.i64 270, Value.int IntKind.i64 d, strV p, Value.int IntKind.i64 0, Value.int IntKind.i64 0]) rfl rfl rfl rfl r25 (by exact Nat.le_of_ble_eq_true rfl) (ones_of rfl) rfl rfl ?_
    intro W211 r212 b210 z213
    have hlb210 := r25.lt
    replace r212 : RowL W211 _ 33 [Value.int IntKind.i64 d, Value.slice none 0 0, Value.int IntKind.i64 ↑k, Value.bool fol, Value.bool true, Value.int IntKind.i64 270, Value.int IntKind.i64 d, strV p, Value.int IntKind.i64 0, Value.int IntKind.i64 0] := r212
    clear r25
    replace b22 := b22.grown b210 b22.size (by rintro k ⟨⟩; omega)
    replace r11 := r11.gr b210 (by have := r11.lt; omega)
    replace b8 := b8.grown b210 b8.size (by rintro k ⟨⟩; omega)
    replace q := q.grown b210 q.size (by rintro k ⟨⟩; omega)
    replace r50 := r50.gr b210 (by have := r50.lt; omega)
    have r25 := r212
    clear r212
    refine LL.nilS ?_
    refine CC.ret ?_
    refine EE.retC rfl rfl (lvNc (RowL.cells0 (by assumption)) (by rfl) (by rfl)) ?_
    exact ⟨_, 0, rfl, RwR.fin (270, d, p, 0, 0) _ _ _ rfl rfl, by omega, q⟩
    refine ZR.store rfl rfl rfl rfl rfl r50 (by exact Nat.le_of_ble_eq_true rfl) rfl rfl rfl rfl ?_
    intro W225 r226 b224 z227
    have hlb224 := r50.lt
    replace r226 : RowL W225 _ 31 [Value.int IntKind.i64 270, Value.int IntKind.i64 d, Value.string { data := #[] }, Value.int IntKind.i64 0, Value.int IntKind.i64 0] := r226
    clear r50
    replace b47 := b47.grown b224 b47.size (by rintro k ⟨⟩; omega)
    replace r25 := r25.gr b224 (by have := r25.lt; omega)
    replace b22 := b22.grown b224 b22.size (by rintro k ⟨⟩; omega)
    replace r11 := r11.gr b224 (by have := r11.lt; omega)
    replace b8 := b8.grown b224 b8.size (by rintro k ⟨⟩; omega)
    replace q := q.grown b224 q.size (by rintro k ⟨⟩; omega)
    replace hok := hok.trans (grown_kept b224 (fun j h => by have := h.1; have := hok.size; omega) (fun j h e => by cases e; have h2 := h.1; have h3 := h.2; omega))
    have r50 := r226
    clear r226
    refine ⟨hok, ?_⟩
    refine AA.one 5 (by kernel_rfl) ?_
    (refine SR.val rfl (R.load rfl rfl (I.ld1 rfl (c1 _ q))) rfl rfl hok ?_)
    refine AA.pure 8 rfl hok (by kernel_rfl) (fun w' b' => R.field rfl rfl (I.fld rfl)) rfl rfl ?_
    refine AA.one 9 (by kernel_rfl) ?_
    refine ZR.store rfl rfl rfl rfl rfl r50 (by exact Nat.le_of_ble_eq_true rfl) rfl rfl rfl rfl ?_
    intro W239 r240 b238 z241
    have hlb238 := r50.lt
    replace r240 : RowL W239 _ 31 [Value.int IntKind.i64 270, Value.int IntKind.i64 d, Value.string { data := List.toArray p }, Value.int IntKind.i64 0, Value.int IntKind.i64 0] := r240
    clear r50
    replace b47 := b47.grown b238 b47.size (by rintro k ⟨⟩; omega)
    replace r25 := r25.gr b238 (by have := r25.lt; omega)
    replace b22 := b22.grown b238 b22.size (by rintro k ⟨⟩; omega)
    replace r11 := r11.gr b238 (by have := r11.lt; omega)
    replace b8 := b8.grown b238 b8.size (by rintro k ⟨⟩; omega)
    replace q := q.grown b238 q.size (by rintro k ⟨⟩; omega)
    replace hok := hok.trans (grown_kept b238 (fun j h => by have := h.1; have := hok.size; omega) (fun j h e => by cases e; have h2 := h.1; have h3 := h.2; omega))
    have r50 := r240
    clear r240
    refine ⟨hok, ?_⟩
    refine AA.done rfl ?_
    clear fzr25 fzr11 hok
    refine EE.thenN ?_
    refine CC.seq ?_
    refine CC.region ?_
    refine LL.val (R.load rfl rfl (I.ldNc (vs := [Value.int IntKind.i64 d, Value.slice (some { block := bb, off := off }) 1 c, Value.int IntKind.i64 ↑k, Value.bool fol, Value.bool false, Value.int IntKind.i64 0, Value.int IntKind.i64 0, strV [], Value.int IntKind.i64 0, Value.int IntKind.i64 0]) (RowL.cells r11 rfl) (by rfl) (by rfl))) rfl rfl rfl ?_
    refine LL.val (R.load rfl rfl (I.ldNc (vs := [Value.int IntKind.i64 270, Value.int IntKind.i64 d, Value.string { data := List.toArray p }, Value.int IntKind.i64 0, Value.int IntKind.i64 0]) (RowL.cells r50 rfl) (by rfl) (by rfl))) rfl rfl rfl ?_
    have l266 := r25.lt
    have l267 := r11.lt
    have l268 := r50.lt
    (refine LL.call (R.call rfl rfl rfl) rfl rfl rfl (rdone_any d _ _ _ _ _ _ wdZ (270, d, p, 0, 0) _) ?_; rintro e W265 ⟨rfl, b262⟩; refine ⟨_, rfl, ?_⟩)
    have zb262 := b262.size
    replace b47 := b47.trans (b262.mono b47.size)
    replace r25 := r25.up b262
    replace b22 := b22.trans (b262.mono b22.size)
    replace r11 := r11.up b262
    replace b8 := b8.trans (b262.mono b8.size)
    replace q := q.trans (b262.mono q.size)
    replace r50 := r50.up b262
    refine LL.storeN (vs := [Value.int IntKind.i64 d, Value.slice none 0 0, Value.int IntKind.i64 ↑k, Value.bool fol, Value.bool true, Value.int IntKind.i64 270, Value.int IntKind.i64 d, strV p, Value.int IntKind.i64 0, Value.int IntKind.i64 0]) rfl rfl rfl rfl r25 (by exact Nat.le_of_ble_eq_true rfl) (ones_of rfl) rfl rfl ?_
    intro W283 r284 b282 z285
    have hlb282 := r25.lt
    replace r284 : RowL W283 _ 33 [Value.int IntKind.i64 d, Value.slice none 0 0, Value.int IntKind.i64 ↑k, Value.bool fol, Value.bool true, Value.int IntKind.i64 270, Value.int IntKind.i64 d, strV p, Value.int IntKind.i64 0, Value.int IntKind.i64 0] := r284
    clear r25
    replace b22 := b22.grown b282 b22.size (by rintro k ⟨⟩; omega)
    replace r11 := r11.gr b282 (by have := r11.lt; omega)
    replace b8 := b8.grown b282 b8.size (by rintro k ⟨⟩; omega)
    replace q := q.grown b282 q.size (by rintro k ⟨⟩; omega)
    replace r50 := r50.gr b282 (by have := r50.lt; omega)
    have r25 := r284
    clear r284
    refine LL.nilS ?_
    refine CC.ret ?_
    refine EE.retC rfl rfl (lvNc (RowL.cells0 (by assumption)) (by rfl) (by rfl)) ?_
    exact ⟨_, 0, rfl, RwR.fin (270, d, p, 0, 0) _ _ _ rfl rfl, by omega, q⟩
  | cons p2 r =>
    have hn2 : r.length + 1 + 1 = n := hn
    have es : Wk.miss ⟨d, p :: p2 :: r, k, fol, none⟩ = ⟨d, [], k, fol, some (270, 0, [], 0, 0)⟩ := rfl
    rw [es]
    refine X.fn Tryd.func16 rfl (n := 20) rfl rfl ?_
    refine CC.seq ?_
    refine CC.region ?_
    refine LL.box [Value.int IntKind.i64 d, Value.slice (some { block := bb, off := off }) n c, Value.int IntKind.i64 ↑k, Value.bool fol, Value.bool false, Value.int IntKind.i64 0, Value.int IntKind.i64 0, strV [], Value.int IntKind.i64 0, Value.int IntKind.i64 0] rfl rfl rfl rfl rfl ?_
    intro Wa9 ga10 ega10 ra11 za12 ba8
    replace q := q.trans (ba8.mono q.size)
    have la21 := ra11.lt
    refine LL.alloc ([Value.int IntKind.i64 0, Value.slice none 0 0, Value.int IntKind.i64 0, Value.bool false, Value.bool false, Value.int IntKind.i64 0, Value.int IntKind.i64 0, Value.string { data := { toList := [] } }, Value.int IntKind.i64 0, Value.int IntKind.i64 0]) rfl rfl rfl rfl rfl ?_
    intro Wa23 ga24 ega24 ra25 za26 ba22
    replace ra11 := ra11.up ba22
    replace ba8 := ba8.trans (ba22.mono ba8.size)
    replace q := q.trans (ba22.mono q.size)
    refine LL.nilS ?_
    refine CC.seq ?_
    refine CC.region ?_
    refine LL.val (R.buildV rfl rfl (v := .agg #[Value.int IntKind.i64 270, Value.int IntKind.i64 0, Value.string { data := #[] }, Value.int IntKind.i64 0, Value.int IntKind.i64 0]) (fun _ => by kernel_rfl)) rfl rfl rfl ?_
    have la45 := ra25.lt
    have la46 := ra11.lt
    refine LL.alloc ([Value.int IntKind.i64 0, Value.int IntKind.i64 0, Value.string { data := { toList := [] } }, Value.int IntKind.i64 0, Value.int IntKind.i64 0]) rfl rfl rfl rfl rfl ?_
    intro Wa48 ga49 ega49 ra50 za51 ba47
    replace ra25 := ra25.up ba47
    replace ba22 := ba22.trans (ba47.mono ba22.size)
    replace ra11 := ra11.up ba47
    replace ba8 := ba8.trans (ba47.mono ba8.size)
    replace q := q.trans (ba47.mono q.size)
    refine LL.storeN (vs := [Value.int IntKind.i64 270, Value.int IntKind.i64 0, Value.string { data := #[] }, Value.int IntKind.i64 0, Value.int IntKind.i64 0]) rfl rfl rfl rfl ra50 (by exact Nat.le_of_ble_eq_true rfl) (ones_of rfl) rfl rfl ?_
    intro Wa63 ra64 ba62 za65
    have hlba62 := ra50.lt
    replace ra64 : RowL Wa63 _ 31 [Value.int IntKind.i64 270, Value.int IntKind.i64 0, Value.string { data := #[] }, Value.int IntKind.i64 0, Value.int IntKind.i64 0] := ra64
    clear ra50
    replace ba47 := ba47.grown ba62 ba47.size (by rintro k ⟨⟩; omega)
    replace ra25 := ra25.gr ba62 (by have := ra25.lt; omega)
    replace ba22 := ba22.grown ba62 ba22.size (by rintro k ⟨⟩; omega)
    replace ra11 := ra11.gr ba62 (by have := ra11.lt; omega)
    replace ba8 := ba8.grown ba62 ba8.size (by rintro k ⟨⟩; omega)
    replace q := q.grown ba62 q.size (by rintro k ⟨⟩; omega)
    have ra50 := ra64
    clear ra64
    refine LL.nilS ?_
    refine CC.seq ?_
    refine CC.seq ?_
    refine CC.region ?_
    refine LL.val (R.field rfl rfl (I.fld rfl)) rfl rfl rfl ?_
    refine LL.val (R.load rfl rfl (I.ld1 rfl (RowL.cell ra11 rfl))) rfl rfl rfl ?_
    refine LL.val (R.len rfl rfl rfl rfl) rfl rfl rfl ?_
    refine LL.val (R.eqF rfl rfl rfl (by omega)) rfl rfl rfl ?_
    refine LL.nilS ?_
    refine CC.no rfl ?_
    refine CC.skip ?_
    refine EE.thenN ?_
    refine CC.seq ?_
    refine CC.region ?_
    refine LL.val (R.load rfl rfl (I.ldNc (vs := [Value.int IntKind.i64 d, Value.slice (some { block := bb, off := off }) n c, Value.int IntKind.i64 ↑k, Value.bool fol, Value.bool false, Value.int IntKind.i64 0, Value.int IntKind.i64 0, strV [], Value.int IntKind.i64 0, Value.int IntKind.i64 0]) (RowL.cells ra11 rfl) (by rfl) (by rfl))) rfl rfl rfl ?_
    refine LL.val (R.load rfl rfl (I.ldNc (vs := [Value.int IntKind.i64 270, Value.int IntKind.i64 0, Value.string { data := #[] }, Value.int IntKind.i64 0, Value.int IntKind.i64 0]) (RowL.cells ra50 rfl) (by rfl) (by rfl))) rfl rfl rfl ?_
    have la130 := ra25.lt
    have la131 := ra11.lt
    have la132 := ra50.lt
    (refine LL.call (R.call rfl rfl rfl) rfl rfl rfl (rdone_any d _ _ _ _ _ _ wdZ (270, 0, [], 0, 0) _) ?_; rintro e Wa129 ⟨rfl, ba126⟩; refine ⟨_, rfl, ?_⟩)
    have zba126 := ba126.size
    replace ba47 := ba47.trans (ba126.mono ba47.size)
    replace ra25 := ra25.up ba126
    replace ba22 := ba22.trans (ba126.mono ba22.size)
    replace ra11 := ra11.up ba126
    replace ba8 := ba8.trans (ba126.mono ba8.size)
    replace q := q.trans (ba126.mono q.size)
    replace ra50 := ra50.up ba126
    refine LL.storeN (vs := [Value.int IntKind.i64 d, Value.slice none 0 0, Value.int IntKind.i64 ↑k, Value.bool fol, Value.bool true, Value.int IntKind.i64 270, Value.int IntKind.i64 0, strV [], Value.int IntKind.i64 0, Value.int IntKind.i64 0]) rfl rfl rfl rfl ra25 (by exact Nat.le_of_ble_eq_true rfl) (ones_of rfl) rfl rfl ?_
    intro Wa147 ra148 ba146 za149
    have hlba146 := ra25.lt
    replace ra148 : RowL Wa147 _ 33 [Value.int IntKind.i64 d, Value.slice none 0 0, Value.int IntKind.i64 ↑k, Value.bool fol, Value.bool true, Value.int IntKind.i64 270, Value.int IntKind.i64 0, strV [], Value.int IntKind.i64 0, Value.int IntKind.i64 0] := ra148
    clear ra25
    replace ba22 := ba22.grown ba146 ba22.size (by rintro k ⟨⟩; omega)
    replace ra11 := ra11.gr ba146 (by have := ra11.lt; omega)
    replace ba8 := ba8.grown ba146 ba8.size (by rintro k ⟨⟩; omega)
    replace q := q.grown ba146 q.size (by rintro k ⟨⟩; omega)
    replace ra50 := ra50.gr ba146 (by have := ra50.lt; omega)
    have ra25 := ra148
    clear ra148
    refine LL.nilS ?_
    refine CC.ret ?_
    refine EE.retC rfl rfl (lvNc (RowL.cells0 (by assumption)) (by rfl) (by rfl)) ?_
    exact ⟨_, 0, rfl, RwR.fin (270, 0, [], 0, 0) _ _ _ rfl rfl, by omega, q⟩
end Go.Proofs.YtbbddpnjglijdaaDoor
/- walk: the document's link and Give (written by genwk21.py). -/
namespace Go.Proofs.YtbbddpnjglijdaaDoor
set_option linter.unusedVariables false
set_option linter.unusedSimpArgs false
open Go.RowKit Go.Shelf
theorem LL.keep {P : Program} {ops : Array Oper} {Q : Exit → Act → World → Prop} {n : Nat} {D : List Deferred} {M : Slots} {w : World} {r : Option Nat} {l : List Oper} (L : List (Nat × Value)) (hL : Fits M L) (h : LL r P ops Q n D (sl L) l w) : LL r P ops Q n D M l w := LL.mk fun a F => h.h a (F.keep L hL)

set_option maxRecDepth 100000
set_option maxHeartbeats 8000000
/-- Ways that meet. -/
structure Later21 (A : Prop) : Prop where
  out : A
theorem meet21 {α β : Type} {A : α → β → World → Prop} {B : Prop} (F : α → β → World → Prop) (f : Later21 (∀ a b w, F a b w → A a b w) → B) (k : ∀ a b w, F a b w → A a b w) : B := f ⟨k⟩
section
variable {α : Type} {enc : α → List Value} {k : Nat} {P : Program} {ops : Array Oper} {ok : World → Prop} {n i : Nat} {D : List Deferred} {M : Slots} {w : World} {o : Oper} {K : Slots → World → Prop} {T e : TypeId} {z : Value} {bytes : Nat}
theorem SR.append0 {xs : Array Operand} {g : Nat} {vx : Value} {us : List α} (hi : ops[i]? = some o) (ho : o.op = .call { callee := .builtin .append, args := xs, argTypes := #[T, T] }) (hx : evsM M xs.toList = some [.slice (some ⟨g, 0, none⟩) 0 0, vx]) (E : Enc enc k) (I : ElT P T e z k bytes) (hrow : RowL w g e []) (hr : ReadsT enc k w vx us)
    (h63 : us.length ≤ maxLen) (hb : us.length * bytes ≤ 140737488355328) (hd : dstB n o.dst = true) (hg : wantB ops M o.guard = some true)
    (c : ∀ v' w', OwnsT enc k w' g e v' us → Below w.heap.size w w' → ok w' ∧ K (putM M o.dst v') w') : SR P ops ok i K n D M w := by
  have hown : OwnsT enc k w g e (.slice (some ⟨g, 0, none⟩) 0 0) [] := RowL.ownsT (ts := []) E hrow (Nat.le_refl _) (by simp [maxLen])
  obtain ⟨v', w', h1, h2, h3⟩ := run_append_t0 E I o.type hown hr h63 hb (Nat.le_of_lt hrow.lt)
  have h := c v' w' h2 h3
  refine SR.val (v := v') hi (R.builtin ho hx fun b => ?_) hd hg h.1 h.2
  unfold builtin
  simp only [Sem.run_bind, h1, Result.andThen_ok, Sem.run_pure]
end
def lkR (w0 g3 : Nat) (d k : Int) (fol : Bool) (l : List Bs) (W : World) : Prop := ∃ bb a n c, RowL W g3 33 [.int .i64 (d), .slice a n c, .int .i64 (k), .bool fol, .bool false, .int .i64 0, .int .i64 0, strV [], .int .i64 0, .int .i64 0] ∧ PsB W bb a n c l ∧ (bb = 0 ∨ w0 ≤ bb)
theorem lkR.up {w0 g3 : Nat} {d k : Int} {fol : Bool} {l : List Bs} {W W' : World} (h : lkR w0 g3 d k fol l W) (b : Below W.heap.size W W') : lkR w0 g3 d k fol l W' := by
  obtain ⟨bb, a, n, c, r, p, hb⟩ := h
  exact ⟨bb, a, n, c, r.up b, p.up b, hb⟩
theorem exposeS {α : Type} {enc : α → List Value} {k : Nat} {W : World} {v : Value} {ts : List α} (h : ReadsT enc k W v ts) : ∃ X0 : World, W.heap.size ≤ X0.heap.size ∧ (∀ X, Below X0.heap.size X0 X → ReadsT enc k X v ts) ∧ Below X0.heap.size X0 W := ⟨W, Nat.le_refl _, fun X b => h.up b, Below.refl _ _⟩
theorem rlink_any (d : Int) (a : Option Addr) (n c : Nat) (k : Nat) (fol : Bool) (ls : List Bs) (t : Bs) (w : World) (bb : Nat) (hv : PsB w bb a n c ls) (hl : n ≤ 50000) (ht : t.length ≤ 1048576) (hk : k ≤ 8) (h0 : 0 < w.heap.size) : Calls Tryd.prog 44 #[rwV d a n c (k : Int) fol false wdZ, strV t] w fun e w' => ∃ v b2, e = .returned v ∧ RwR (Wk.link ⟨d, ls, k, fol, none⟩ t) v w' b2 ∧ ((b2 = 0 ∨ b2 = bb ∨ w.heap.size ≤ b2) ∧ b2 < w'.heap.size) ∧ Below w.heap.size w w' := by
  have q := Below.refl w.heap.size w
  have hn := hv.len
  have hF : ∀ X, Below w.heap.size w X → PsB X bb a n c ls := fun X b => hv.up b
  have hb0 := hv.lt
  clear hv
  unfold Wk.link
  dsimp only
  by_cases h8 : 8 < k + 1
  · rw [if_pos h8]
    show Calls _ _ _ _ fun e w' => ∃ v b2, e = .returned v ∧ RwR ⟨d, [], k, fol, some (272, 0, [], 0, 0)⟩ v w' b2 ∧ ((b2 = 0 ∨ b2 = bb ∨ w.heap.size ≤ b2) ∧ b2 < w'.heap.size) ∧ Below w.heap.size w w'
    refine X.fn Tryd.func44 rfl (n := 49) rfl rfl ?_
    refine CC.seq ?_
    refine CC.region ?_
    refine LL.box [Value.int IntKind.i64 d, Value.slice a n c, Value.int IntKind.i64 ↑k, Value.bool fol, Value.bool false, Value.int IntKind.i64 0, Value.int IntKind.i64 0, strV [], Value.int IntKind.i64 0, Value.int IntKind.i64 0] rfl rfl rfl rfl rfl ?_
    intro W9 g10 eg10 r11 z12 b8
    replace q := q.trans (b8.mono q.size)
    have l21 := r11.lt
    refine LL.alloc ([Value.int IntKind.i64 0, Value.slice none 0 0, Value.int IntKind.i64 0, Value.bool false, Value.bool false, Value.int IntKind.i64 0, Value.int IntKind.i64 0, Value.string { data := { toList := [] } }, Value.int IntKind.i64 0, Value.int IntKind.i64 0]) rfl rfl rfl rfl rfl ?_
    intro W23 g24 eg24 r25 z26 b22
    replace r11 := r11.up b22
    replace b8 := b8.trans (b22.mono b8.size)
    replace q := q.trans (b22.mono q.size)
    refine LL.nilS ?_
    refine CC.seq ?_
    refine CC.seq ?_
    refine CC.region ?_
    refine LL.val (R.field rfl rfl (I.fld rfl)) rfl rfl rfl ?_
    refine LL.val (R.load rfl rfl (I.ld1 rfl (RowL.cell r11 rfl))) rfl rfl rfl ?_
    refine LL.val (R.addNc rfl rfl rfl rfl (by omega)) rfl rfl rfl ?_
    refine LL.val (R.field rfl rfl (I.fld rfl)) rfl rfl rfl ?_
    refine LL.store rfl rfl rfl rfl r11 (by exact Nat.le_of_ble_eq_true rfl) rfl rfl rfl rfl ?_
    intro W73 r74 b72 z75
    have hlb72 := r11.lt
    replace r74 : RowL W73 _ 33 [Value.int IntKind.i64 d, Value.slice a n c, Value.int IntKind.i64 ↑(k + 1), Value.bool fol, Value.bool false, Value.int IntKind.i64 0, Value.int IntKind.i64 0, strV [], Value.int IntKind.i64 0, Value.int IntKind.i64 0] := r74
    clear r11
    replace r25 := r25.gr b72 (by have := r25.lt; omega)
    replace b8 := b8.grown b72 b8.size (by rintro k ⟨⟩; omega)
    replace q := q.grown b72 q.size (by rintro k ⟨⟩; omega)
    have r11 := r74
    clear r74
    refine LL.nilS ?_
    refine CC.seq ?_
    refine CC.region ?_
    refine LL.val (R.field rfl rfl (I.fld rfl)) rfl rfl rfl ?_
    refine LL.val (R.load rfl rfl (I.ld1 rfl (RowL.cell r11 rfl))) rfl rfl rfl ?_
    refine LL.val (R.gtT rfl rfl rfl (by omega)) rfl rfl rfl ?_
    refine LL.nilS ?_
    refine CC.yes rfl ?_
    refine CC.seq ?_
    refine CC.region ?_
    refine LL.val (R.load rfl rfl (I.ldNc (vs := [Value.int IntKind.i64 d, Value.slice a n c, Value.int IntKind.i64 ↑(k + 1), Value.bool fol, Value.bool false, Value.int IntKind.i64 0, Value.int IntKind.i64 0, strV [], Value.int IntKind.i64 0, Value.int IntKind.i64 0]) (RowL.cells r11 rfl) (by rfl) (by rfl))) rfl rfl rfl ?_
    refine LL.val (R.buildV rfl rfl (v := .agg #[Value.int IntKind.i64 272, Value.int IntKind.i64 0, Value.string { data := #[] }, Value.int IntKind.i64 0, Value.int IntKind.i64 0]) (fun _ => by kernel_rfl)) rfl rfl rfl ?_
    have l125 := r25.lt
    have l126 := r11.lt
    (refine LL.call (R.call rfl rfl rfl) rfl rfl rfl (rdone_any d _ _ _ _ _ _ wdZ (272, 0, [], 0, 0) _) ?_; rintro e W124 ⟨rfl, b121⟩; refine ⟨_, rfl, ?_⟩)
    have zb121 := b121.size
    replace r25 := r25.up b121
    replace b8 := b8.trans (b121.mono b8.size)
    replace q := q.trans (b121.mono q.size)
    replace r11 := r11.up b121
    refine LL.storeN (vs := [Value.int IntKind.i64 d, Value.slice none 0 0, Value.int IntKind.i64 ↑(k + 1), Value.bool fol, Value.bool true, Value.int IntKind.i64 272, Value.int IntKind.i64 0, strV [], Value.int IntKind.i64 0, Value.int IntKind.i64 0]) rfl rfl rfl rfl r25 (by exact Nat.le_of_ble_eq_true rfl) (ones_of rfl) rfl rfl ?_
    intro W140 r141 b139 z142
    have hlb139 := r25.lt
    replace r141 : RowL W140 _ 33 [Value.int IntKind.i64 d, Value.slice none 0 0, Value.int IntKind.i64 ↑(k + 1), Value.bool fol, Value.bool true, Value.int IntKind.i64 272, Value.int IntKind.i64 0, strV [], Value.int IntKind.i64 0, Value.int IntKind.i64 0] := r141
    clear r25
    replace b8 := b8.grown b139 b8.size (by rintro k ⟨⟩; omega)
    replace q := q.grown b139 q.size (by rintro k ⟨⟩; omega)
    replace r11 := r11.gr b139 (by have := r11.lt; omega)
    have r25 := r141
    clear r141
    refine LL.nilS ?_
    refine CC.ret ?_
    refine EE.thenR ?_
    refine EE.retC rfl rfl (lvNc (RowL.cells0 (by assumption)) (by rfl) (by rfl)) ?_
    exact ⟨_, 0, rfl, RwR.fin (272, 0, [], 0, 0) _ _ _ rfl rfl, by omega, q⟩
  rw [if_neg h8]
  obtain ⟨d', hd'⟩ : ∃ d' : Int, (if t.head? = some 47 then (1 : Int) else d) = d' := ⟨_, rfl⟩
  rw [hd']
  obtain ⟨L, hL⟩ : ∃ L, lpath t = L := ⟨_, rfl⟩
  rw [hL]
  obtain ⟨S, hS⟩ : ∃ S, (if pathN L = 0 then Wk.on ⟨d', partsL L ++ ls, k + 1, fol, none⟩ else Wk.done ⟨d, ls, k, fol, none⟩ ((pathN L : Int), 0, [], 0, 0)) = S := ⟨_, rfl⟩
  rw [hS]
  apply meet21 (fun (g3 g9 : Nat) W' => Below w.heap.size w W' ∧ RowL W' g3 33 [.int .i64 (d'), .slice a n c, .int .i64 (((k + 1 : Nat) : Int)), .bool fol, .bool false, .int .i64 0, .int .i64 0, strV [], .int .i64 0, .int .i64 0] ∧ RowL W' g9 33 [.int .i64 0, .slice none 0 0, .int .i64 0, .bool false, .bool false, .int .i64 0, .int .i64 0, strV [], .int .i64 0, .int .i64 0] ∧ w.heap.size ≤ g3 ∧ g3 < g9)
  case f =>
    intro lat
    by_cases ht0 : t = []
    · have ep : [47] ++ t = L := by
        rw [← hL, ht0]
        rfl
      have ed : d' = d := by
        rw [← hd', ht0]
        rfl
      refine X.fn Tryd.func44 rfl (n := 49) rfl rfl ?_
      refine CC.seq ?_
      refine CC.region ?_
      refine LL.box [Value.int IntKind.i64 d, Value.slice a n c, Value.int IntKind.i64 ↑k, Value.bool fol, Value.bool false, Value.int IntKind.i64 0, Value.int IntKind.i64 0, strV [], Value.int IntKind.i64 0, Value.int IntKind.i64 0] rfl rfl rfl rfl rfl ?_
      intro Wa2 ga3 ega3 ra4 za5 ba1
      replace q := q.trans (ba1.mono q.size)
      have la6 := ra4.lt
      refine LL.alloc ([Value.int IntKind.i64 0, Value.slice none 0 0, Value.int IntKind.i64 0, Value.bool false, Value.bool false, Value.int IntKind.i64 0, Value.int IntKind.i64 0, Value.string { data := { toList := [] } }, Value.int IntKind.i64 0, Value.int IntKind.i64 0]) rfl rfl rfl rfl rfl ?_
      intro Wa8 ga9 ega9 ra10 za11 ba7
      replace ra4 := ra4.up ba7
      replace ba1 := ba1.trans (ba7.mono ba1.size)
      replace q := q.trans (ba7.mono q.size)
      refine LL.nilS ?_
      refine CC.seq ?_
      refine CC.seq ?_
      refine CC.region ?_
      refine LL.val (R.field rfl rfl (I.fld rfl)) rfl rfl rfl ?_
      refine LL.val (R.load rfl rfl (I.ld1 rfl (RowL.cell ra4 rfl))) rfl rfl rfl ?_
      refine LL.val (R.addNc rfl rfl rfl rfl (by omega)) rfl rfl rfl ?_
      refine LL.val (R.field rfl rfl (I.fld rfl)) rfl rfl rfl ?_
      refine LL.store rfl rfl rfl rfl ra4 (by exact Nat.le_of_ble_eq_true rfl) rfl rfl rfl rfl ?_
      intro Wa13 ra14 ba12 za15
      have hlba12 := ra4.lt
      replace ra14 : RowL Wa13 _ 33 [Value.int IntKind.i64 d, Value.slice a n c, Value.int IntKind.i64 ↑(k + 1), Value.bool fol, Value.bool false, Value.int IntKind.i64 0, Value.int IntKind.i64 0, strV [], Value.int IntKind.i64 0, Value.int IntKind.i64 0] := ra14
      clear ra4
      replace ra10 := ra10.gr ba12 (by have := ra10.lt; omega)
      replace ba1 := ba1.grown ba12 ba1.size (by rintro k ⟨⟩; omega)
      replace q := q.grown ba12 q.size (by rintro k ⟨⟩; omega)
      have ra4 := ra14
      clear ra14
      refine LL.nilS ?_
      refine CC.seq ?_
      refine CC.region ?_
      refine LL.val (R.field rfl rfl (I.fld rfl)) rfl rfl rfl ?_
      refine LL.val (R.load rfl rfl (I.ld1 rfl (RowL.cell ra4 rfl))) rfl rfl rfl ?_
      refine LL.val (R.gtF rfl rfl rfl (by omega)) rfl rfl rfl ?_
      refine LL.nilS ?_
      refine CC.no rfl ?_
      refine CC.skip ?_
      refine EE.thenN ?_
      refine CC.seq ?_
      refine CC.region ?_
      refine LL.val (R.move rfl rfl) rfl rfl rfl ?_
      refine LL.val (R.assign rfl rfl) rfl rfl rfl ?_
      refine LL.nilS ?_
      refine CC.seq ?_
      refine CC.seq ?_
      refine CC.region ?_
      refine LL.val (R.move rfl rfl) rfl rfl rfl ?_
      (refine LL.val (R.eqS (a := t) (b := []) (c := true) rfl rfl rfl (by simp [ht0])) rfl rfl rfl ?_)
      refine LL.val (R.move rfl rfl) rfl rfl rfl ?_
      refine LL.skip rfl rfl ?_
      refine LL.skip rfl rfl ?_
      refine LL.skip rfl rfl ?_
      refine LL.val (R.pick rfl rfl rfl) rfl rfl rfl ?_
      refine LL.nilS ?_
      refine CC.yes rfl ?_
      refine CC.region ?_
      refine LL.val (R.move rfl rfl) rfl rfl rfl ?_
      (refine LL.val (R.addS (a := [47]) (b := t) rfl rfl rfl (by simp only [List.length_cons, List.length_nil]; omega)) rfl rfl rfl ?_; rw [ep])
      refine LL.val (R.assign rfl rfl) rfl rfl rfl ?_
      refine LL.nilS ?_
      refine CC.seq ?_
      refine CC.region ?_
      refine LL.val (R.move rfl rfl) rfl rfl rfl ?_
      (refine LL.keep [(2, .pointer (some ⟨ga3, 0, none⟩)), (4, .pointer (some ⟨ga9, 0, none⟩)), (5, strV L), (30, strV L)] ⟨rfl, rfl, rfl, rfl, trivial⟩ ?_; exact lat.out _ _ _ ⟨q, by rw [ed]; assumption, by assumption, by omega, by omega⟩)
    · obtain ⟨x, hx0⟩ : ∃ x, t[0]? = some x := by
        cases t with
        | nil => exact absurd rfl ht0
        | cons x r => exact ⟨x, rfl⟩
      have hh : t.head? = some x := by rw [List.head?_eq_getElem?]; exact hx0
      by_cases hx : x = 47
      · have ep : L = t := by
          rw [← hL]
          unfold lpath
          rw [hh, if_pos (by rw [hx])]
        have ed : d' = 1 := by
          rw [← hd', hh, if_pos (by rw [hx])]
        refine X.fn Tryd.func44 rfl (n := 49) rfl rfl ?_
        refine CC.seq ?_
        refine CC.region ?_
        ((fail_if_success (have := hx4)); have hx4 : x.toNat = 47 := (by rw [hx]; rfl))
        refine LL.box [Value.int IntKind.i64 d, Value.slice a n c, Value.int IntKind.i64 ↑k, Value.bool fol, Value.bool false, Value.int IntKind.i64 0, Value.int IntKind.i64 0, strV [], Value.int IntKind.i64 0, Value.int IntKind.i64 0] rfl rfl rfl rfl rfl ?_
        intro Wb2 gb3 egb3 rb4 zb5 bb1
        replace q := q.trans (bb1.mono q.size)
        have lb6 := rb4.lt
        refine LL.alloc ([Value.int IntKind.i64 0, Value.slice none 0 0, Value.int IntKind.i64 0, Value.bool false, Value.bool false, Value.int IntKind.i64 0, Value.int IntKind.i64 0, Value.string { data := { toList := [] } }, Value.int IntKind.i64 0, Value.int IntKind.i64 0]) rfl rfl rfl rfl rfl ?_
        intro Wb8 gb9 egb9 rb10 zb11 bb7
        replace rb4 := rb4.up bb7
        replace bb1 := bb1.trans (bb7.mono bb1.size)
        replace q := q.trans (bb7.mono q.size)
        refine LL.nilS ?_
        refine CC.seq ?_
        refine CC.seq ?_
        refine CC.region ?_
        refine LL.val (R.field rfl rfl (I.fld rfl)) rfl rfl rfl ?_
        refine LL.val (R.load rfl rfl (I.ld1 rfl (RowL.cell rb4 rfl))) rfl rfl rfl ?_
        refine LL.val (R.addNc rfl rfl rfl rfl (by omega)) rfl rfl rfl ?_
        refine LL.val (R.field rfl rfl (I.fld rfl)) rfl rfl rfl ?_
        refine LL.store rfl rfl rfl rfl rb4 (by exact Nat.le_of_ble_eq_true rfl) rfl rfl rfl rfl ?_
        intro Wb13 rb14 bb12 zb15
        have hlbb12 := rb4.lt
        replace rb14 : RowL Wb13 _ 33 [Value.int IntKind.i64 d, Value.slice a n c, Value.int IntKind.i64 ↑(k + 1), Value.bool fol, Value.bool false, Value.int IntKind.i64 0, Value.int IntKind.i64 0, strV [], Value.int IntKind.i64 0, Value.int IntKind.i64 0] := rb14
        clear rb4
        replace rb10 := rb10.gr bb12 (by have := rb10.lt; omega)
        replace bb1 := bb1.grown bb12 bb1.size (by rintro k ⟨⟩; omega)
        replace q := q.grown bb12 q.size (by rintro k ⟨⟩; omega)
        have rb4 := rb14
        clear rb14
        refine LL.nilS ?_
        refine CC.seq ?_
        refine CC.region ?_
        refine LL.val (R.field rfl rfl (I.fld rfl)) rfl rfl rfl ?_
        refine LL.val (R.load rfl rfl (I.ld1 rfl (RowL.cell rb4 rfl))) rfl rfl rfl ?_
        refine LL.val (R.gtF rfl rfl rfl (by omega)) rfl rfl rfl ?_
        refine LL.nilS ?_
        refine CC.no rfl ?_
        refine CC.skip ?_
        refine EE.thenN ?_
        refine CC.seq ?_
        refine CC.region ?_
        refine LL.val (R.move rfl rfl) rfl rfl rfl ?_
        refine LL.val (R.assign rfl rfl) rfl rfl rfl ?_
        refine LL.nilS ?_
        refine CC.seq ?_
        refine CC.seq ?_
        refine CC.region ?_
        refine LL.val (R.move rfl rfl) rfl rfl rfl ?_
        (refine LL.val (R.eqS (a := t) (b := []) (c := false) rfl rfl rfl (by simp [ht0])) rfl rfl rfl ?_)
        refine LL.val (R.move rfl rfl) rfl rfl rfl ?_
        refine LL.val (R.move rfl rfl) rfl rfl rfl ?_
        (refine LL.val (R.ixS (a := t) (i := 0) rfl rfl rfl rfl hx0) rfl rfl rfl ?_)
        refine LL.val (R.neF rfl rfl rfl (by omega)) rfl rfl rfl ?_
        refine LL.val (R.pick rfl rfl rfl) rfl rfl rfl ?_
        refine LL.nilS ?_
        refine CC.no rfl ?_
        refine CC.region ?_
        refine LL.val (R.field rfl rfl (I.fld rfl)) rfl rfl rfl ?_
        refine LL.store rfl rfl rfl rfl rb4 (by exact Nat.le_of_ble_eq_true rfl) rfl rfl rfl rfl ?_
        intro Wb17 rb18 bb16 zb19
        have hlbb16 := rb4.lt
        replace rb18 : RowL Wb17 _ 33 [Value.int IntKind.i64 1, Value.slice a n c, Value.int IntKind.i64 ↑(k + 1), Value.bool fol, Value.bool false, Value.int IntKind.i64 0, Value.int IntKind.i64 0, strV [], Value.int IntKind.i64 0, Value.int IntKind.i64 0] := rb18
        clear rb4
        replace rb10 := rb10.gr bb16 (by have := rb10.lt; omega)
        replace bb1 := bb1.grown bb16 bb1.size (by rintro k ⟨⟩; omega)
        replace q := q.grown bb16 q.size (by rintro k ⟨⟩; omega)
        have rb4 := rb18
        clear rb18
        refine LL.nilS ?_
        refine CC.seq ?_
        refine CC.region ?_
        refine LL.val (R.move rfl rfl) rfl rfl rfl ?_
        (refine LL.keep [(2, .pointer (some ⟨gb3, 0, none⟩)), (4, .pointer (some ⟨gb9, 0, none⟩)), (5, strV L), (30, strV L)] ⟨rfl, rfl, by rw [ep]; rfl, by rw [ep]; rfl, trivial⟩ ?_; exact lat.out _ _ _ ⟨q, by rw [ed]; assumption, by assumption, by omega, by omega⟩)
      · have ep : [47] ++ t = L := by
          rw [← hL]
          unfold lpath
          rw [hh, if_neg (by intro e; exact hx (Option.some.inj e))]
          rfl
        have ed : d' = d := by
          rw [← hd', hh, if_neg (by intro e; exact hx (Option.some.inj e))]
        have hx4 : x.toNat ≠ 47 := fun e => hx (UInt8.toNat_inj.1 e)
        refine X.fn Tryd.func44 rfl (n := 49) rfl rfl ?_
        refine CC.seq ?_
        refine CC.region ?_
        refine LL.box [Value.int IntKind.i64 d, Value.slice a n c, Value.int IntKind.i64 ↑k, Value.bool fol, Value.bool false, Value.int IntKind.i64 0, Value.int IntKind.i64 0, strV [], Value.int IntKind.i64 0, Value.int IntKind.i64 0] rfl rfl rfl rfl rfl ?_
        intro Wc2 gc3 egc3 rc4 zc5 bc1
        replace q := q.trans (bc1.mono q.size)
        have lc6 := rc4.lt
        refine LL.alloc ([Value.int IntKind.i64 0, Value.slice none 0 0, Value.int IntKind.i64 0, Value.bool false, Value.bool false, Value.int IntKind.i64 0, Value.int IntKind.i64 0, Value.string { data := { toList := [] } }, Value.int IntKind.i64 0, Value.int IntKind.i64 0]) rfl rfl rfl rfl rfl ?_
        intro Wc8 gc9 egc9 rc10 zc11 bc7
        replace rc4 := rc4.up bc7
        replace bc1 := bc1.trans (bc7.mono bc1.size)
        replace q := q.trans (bc7.mono q.size)
        refine LL.nilS ?_
        refine CC.seq ?_
        refine CC.seq ?_
        refine CC.region ?_
        refine LL.val (R.field rfl rfl (I.fld rfl)) rfl rfl rfl ?_
        refine LL.val (R.load rfl rfl (I.ld1 rfl (RowL.cell rc4 rfl))) rfl rfl rfl ?_
        refine LL.val (R.addNc rfl rfl rfl rfl (by omega)) rfl rfl rfl ?_
        refine LL.val (R.field rfl rfl (I.fld rfl)) rfl rfl rfl ?_
        refine LL.store rfl rfl rfl rfl rc4 (by exact Nat.le_of_ble_eq_true rfl) rfl rfl rfl rfl ?_
        intro Wc13 rc14 bc12 zc15
        have hlbc12 := rc4.lt
        replace rc14 : RowL Wc13 _ 33 [Value.int IntKind.i64 d, Value.slice a n c, Value.int IntKind.i64 ↑(k + 1), Value.bool fol, Value.bool false, Value.int IntKind.i64 0, Value.int IntKind.i64 0, strV [], Value.int IntKind.i64 0, Value.int IntKind.i64 0] := rc14
        clear rc4
        replace rc10 := rc10.gr bc12 (by have := rc10.lt; omega)
        replace bc1 := bc1.grown bc12 bc1.size (by rintro k ⟨⟩; omega)
        replace q := q.grown bc12 q.size (by rintro k ⟨⟩; omega)
        have rc4 := rc14
        clear rc14
        refine LL.nilS ?_
        refine CC.seq ?_
        refine CC.region ?_
        refine LL.val (R.field rfl rfl (I.fld rfl)) rfl rfl rfl ?_
        refine LL.val (R.load rfl rfl (I.ld1 rfl (RowL.cell rc4 rfl))) rfl rfl rfl ?_
        refine LL.val (R.gtF rfl rfl rfl (by omega)) rfl rfl rfl ?_
        refine LL.nilS ?_
        refine CC.no rfl ?_
        refine CC.skip ?_
        refine EE.thenN ?_
        refine CC.seq ?_
        refine CC.region ?_
        refine LL.val (R.move rfl rfl) rfl rfl rfl ?_
        refine LL.val (R.assign rfl rfl) rfl rfl rfl ?_
        refine LL.nilS ?_
        refine CC.seq ?_
        refine CC.seq ?_
        refine CC.region ?_
        refine LL.val (R.move rfl rfl) rfl rfl rfl ?_
        (refine LL.val (R.eqS (a := t) (b := []) (c := false) rfl rfl rfl (by simp [ht0])) rfl rfl rfl ?_)
        refine LL.val (R.move rfl rfl) rfl rfl rfl ?_
        refine LL.val (R.move rfl rfl) rfl rfl rfl ?_
        (refine LL.val (R.ixS (a := t) (i := 0) rfl rfl rfl rfl hx0) rfl rfl rfl ?_)
        refine LL.val (R.neT rfl rfl rfl (by omega)) rfl rfl rfl ?_
        refine LL.val (R.pick rfl rfl rfl) rfl rfl rfl ?_
        refine LL.nilS ?_
        refine CC.yes rfl ?_
        refine CC.region ?_
        refine LL.val (R.move rfl rfl) rfl rfl rfl ?_
        (refine LL.val (R.addS (a := [47]) (b := t) rfl rfl rfl (by simp only [List.length_cons, List.length_nil]; omega)) rfl rfl rfl ?_; rw [ep])
        refine LL.val (R.assign rfl rfl) rfl rfl rfl ?_
        refine LL.nilS ?_
        refine CC.seq ?_
        refine CC.region ?_
        refine LL.val (R.move rfl rfl) rfl rfl rfl ?_
        (refine LL.keep [(2, .pointer (some ⟨gc3, 0, none⟩)), (4, .pointer (some ⟨gc9, 0, none⟩)), (5, strV L), (30, strV L)] ⟨rfl, rfl, rfl, rfl, trivial⟩ ?_; exact lat.out _ _ _ ⟨q, by rw [ed]; assumption, by assumption, by omega, by omega⟩)
  case k =>
    rintro g3 g9 W ⟨q, r3, r9, hg3, hg9⟩
    have hLl : L.length ≤ 1048577 := by
      rw [← hL]
      unfold lpath
      split
      · omega
      · simp only [List.length_cons]
        omega
    have hp := fun W => rparts_any L W (by omega)
    have yq := q.size
    clear hL ht
    by_cases hz : pathN L = 0
    · rw [if_pos hz] at hS
      rw [hz, if_pos rfl] at hp
      have hpl := partsL_len0 hz
      obtain ⟨ps, eps⟩ : ∃ ps, partsL L = ps := ⟨_, rfl⟩
      rw [eps] at hp hpl hS
      obtain ⟨N, hN⟩ : ∃ N, ps.length = N := ⟨_, rfl⟩
      have hNn : (ps ++ ls).length = N + n := by rw [List.length_append]; omega
      clear hd'
      have ld5 := r3.lt
      have ld6 := r9.lt
      (refine LL.call (R.call rfl rfl rfl) rfl rfl rfl (hp _) ?_; rintro e Wd4 ⟨vp, rfl, op, bd1⟩; refine ⟨_, rfl, ?_⟩; obtain ⟨ap, cp, rfl, hcp⟩ := (op.reads stEnc).form hN; obtain ⟨X1, hzX1, hpF, q1⟩ := exposeS (op.reads stEnc); have zX1 := q1.size; clear op)
      have zbd1 := bd1.size
      replace q := q.trans (bd1.mono q.size)
      replace r3 := r3.up bd1
      replace r9 := r9.up bd1
      refine LL.val (R.move rfl rfl) rfl rfl rfl ?_
      refine LL.val (R.extract rfl rfl rfl) rfl rfl rfl ?_
      refine LL.val (R.extract rfl rfl rfl) rfl rfl rfl ?_
      refine LL.val (R.assign rfl rfl) rfl rfl rfl ?_
      refine LL.val (R.assign rfl rfl) rfl rfl rfl ?_
      refine LL.nilS ?_
      refine CC.seq ?_
      refine CC.seq ?_
      refine CC.region ?_
      refine LL.val (R.move rfl rfl) rfl rfl rfl ?_
      refine LL.val (R.neF rfl rfl rfl (by omega)) rfl rfl rfl ?_
      refine LL.nilS ?_
      refine CC.no rfl ?_
      refine CC.skip ?_
      refine EE.thenN ?_
      refine CC.seq ?_
      refine CC.join (fun l_ Wd392 => l_ = [(2, Value.pointer (some { block := g3, off := 0 })), (4, Value.pointer (some { block := g9, off := 0 })), (5, Value.string { data := List.toArray L }), (30, Value.string { data := List.toArray L }), (31, Value.tuple #[Value.slice ap N cp, Value.int IntKind.i64 ↑0]), (29, Value.tuple #[Value.slice ap N cp, Value.int IntKind.i64 ↑0]), (32, Value.slice ap N cp), (33, Value.int IntKind.i64 ↑0), (7, Value.int IntKind.i64 ↑0), (34, Value.int IntKind.i64 ↑0), (35, Value.bool false)] ∧ (lkR W.heap.size g3 d' (↑(k + 1)) fol (ps ++ ls) Wd392) ∧ (Below w.heap.size w Wd392) ∧ (RowL Wd392 g9 33 [Value.int IntKind.i64 0, Value.slice none 0 0, Value.int IntKind.i64 0, Value.bool false, Value.bool false, Value.int IntKind.i64 0, Value.int IntKind.i64 0, strV [], Value.int IntKind.i64 0, Value.int IntKind.i64 0]) ∧ (Wd4.heap.size ≤ Wd392.heap.size)) (fun Jd397 => ?_) ?restJd397
      case' restJd397 =>
        clear q
        clear r9
        rintro _ Wd392 ⟨rfl, hj, q, r9, zd396⟩
      refine EE.thenN ?_
      refine CC.seq ?_
      refine CC.region ?_
      ((fail_if_success (have := hok)); obtain ⟨b2, a2, n2, c2, r3, hp2, hbb2⟩ := hj; have lb2 := hp2.lt; have hn2 := hp2.len; rw [hNn] at hn2)
      refine LL.val (R.load rfl rfl (I.ldNc (vs := [Value.int IntKind.i64 d', Value.slice a2 n2 c2, Value.int IntKind.i64 ↑(k + 1), Value.bool fol, Value.bool false, Value.int IntKind.i64 0, Value.int IntKind.i64 0, strV [], Value.int IntKind.i64 0, Value.int IntKind.i64 0]) (RowL.cells r3 rfl) (by rfl) (by rfl))) rfl rfl rfl ?_
      have ld484 := r9.lt
      have ld485 := r3.lt
      (refine LL.call (R.call rfl rfl rfl) rfl rfl rfl (ron_any d' _ _ _ (k + 1) fol (ps ++ ls) _ b2 hp2 (by omega) (by omega)) ?_; rintro e Wd483 ⟨vo, bo1, rfl, ho1, hbo1, bd480⟩; refine ⟨_, rfl, ?_⟩; obtain ⟨d1, a1, n1, c1, k1, f1, dn1, x1, rfl⟩ := ho1.form)
      have zbd480 := bd480.size
      replace q := q.trans (bd480.mono q.size)
      replace r9 := r9.up bd480
      replace r3 := r3.up bd480
      replace hp2 := hp2.up bd480
      refine LL.storeN (vs := [Value.int IntKind.i64 d1, Value.slice a1 n1 c1, Value.int IntKind.i64 k1, Value.bool f1, Value.bool dn1, Value.int IntKind.i64 x1.1, Value.int IntKind.i64 x1.2.1, strV x1.2.2.1, Value.int IntKind.i64 x1.2.2.2.1, Value.int IntKind.i64 x1.2.2.2.2]) rfl rfl rfl rfl r9 (by exact Nat.le_of_ble_eq_true rfl) (ones_of rfl) rfl rfl ?_
      intro Wd524 rd525 bd523 zd526
      have hlbd523 := r9.lt
      replace rd525 : RowL Wd524 _ 33 [Value.int IntKind.i64 d1, Value.slice a1 n1 c1, Value.int IntKind.i64 k1, Value.bool f1, Value.bool dn1, Value.int IntKind.i64 x1.1, Value.int IntKind.i64 x1.2.1, strV x1.2.2.1, Value.int IntKind.i64 x1.2.2.2.1, Value.int IntKind.i64 x1.2.2.2.2] := rd525
      clear r9
      replace ho1 := ho1.gr bd523 (by omega)
      replace q := q.grown bd523 q.size (by rintro k ⟨⟩; omega)
      replace r3 := r3.gr bd523 (by have := r3.lt; omega)
      replace hp2 := hp2.gr bd523 (by have := hp2.lt; omega)
      have r9 := rd525
      clear rd525
      refine LL.nilS ?_
      refine CC.ret ?_
      refine EE.retC rfl rfl (lvNc (RowL.cells0 (by assumption)) (by rfl) (by rfl)) ?_
      exact ⟨_, bo1, rfl, (by rw [← hS]; exact ho1), by omega, q⟩
      refine CC.freeZ (fun W_ j => j < W_.heap.size ∧ (j ≠ g3)) (by kernel_rfl) (by kernel_rfl) (fun Wd528 bd527 zd529 => ?_)
      replace bd1 := bd1.trans (bd527.mono bd1.size)
      replace q1 := q1.trans (bd527.mono q1.size)
      replace q := q.trans (bd527.mono q.size)
      replace r3 := r3.up bd527
      replace r9 := r9.up bd527
      have hok : Kept (fun j => j < Wd528.heap.size ∧ (j ≠ g3)) Wd528 Wd528 := Kept.refl _ _
      have fzr9 := fzRow (K := fun j => j < Wd528.heap.size ∧ (j ≠ g3)) r9 ⟨r9.lt, (by first | trivial | omega)⟩
      refine AA.pure 1 rfl hok (by kernel_rfl) (fun w' b' => R.move rfl rfl) rfl rfl ?_
      refine AA.pure 3 rfl hok (by kernel_rfl) (fun w' b' => R.field rfl rfl (I.fld rfl)) rfl rfl ?_
      refine AA.two 0 4 (by kernel_rfl) ?_ ?_
      have ld564 := r3.lt
      have ld565 := r9.lt
      refine ZR.lit (e := 9) [] 0 rfl rfl rfl (fun _ => by kernel_rfl) rfl rfl ?_
      intro Wd567 gd568 egd568 rd569 zd570 bd566
      replace bd527 := bd527.trans (bd566.mono bd527.size)
      replace bd1 := bd1.trans (bd566.mono bd1.size)
      replace q1 := q1.trans (bd566.mono q1.size)
      replace q := q.trans (bd566.mono q.size)
      replace r3 := r3.up bd566
      replace r9 := r9.up bd566
      replace hok := hok.trans (bkept bd566 (fun j h => by have := h.1; have := hok.size; omega))
      have yd571 := hok.size
      refine ⟨hok, ?_⟩
      refine AA.two 2 4 (by kernel_rfl) ?_ ?_
      have ld586 := rd569.lt
      have ld587 := r3.lt
      have ld588 := r9.lt
      (refine SR.append0 rfl rfl rfl stEnc ElS (by assumption) (hpF _ q1) (by simp only [maxLen]; omega) (by omega) rfl rfl ?_; intro v' Wd585 o1 bd582; obtain ⟨a1, c1, rfl, hc1⟩ := (o1.reads stEnc).form hN)
      have zbd582 := bd582.size
      replace rd569 := rd569.up bd582
      replace bd566 := bd566.trans (bd582.mono bd566.size)
      replace bd527 := bd527.trans (bd582.mono bd527.size)
      replace bd1 := bd1.trans (bd582.mono bd1.size)
      replace q1 := q1.trans (bd582.mono q1.size)
      replace q := q.trans (bd582.mono q.size)
      replace r3 := r3.up bd582
      replace r9 := r9.up bd582
      replace hok := hok.trans (bkept bd582 (fun j h => by have := h.1; have := hok.size; omega))
      have yd592 := hok.size
      refine ⟨hok, ?_⟩
      refine AA.one 4 (by kernel_rfl) ?_
      refine SR.val rfl (R.load rfl rfl (I.ld1 rfl (RowL.cell r3 rfl))) rfl rfl hok ?_
      refine AA.one 5 (by kernel_rfl) ?_
      (refine SR.appendT2 rfl rfl rfl stEnc ElS o1 (us := ls) (hF _ q).r (by simp only [maxLen]; omega) (by omega) (by omega) rfl rfl ?_; intro v' Wz o2 gra hva; replace q := q.grown gra q.size (fun j e => by have := own_ge o1 j e; omega); replace q1 := q1.grown gra q1.size (fun j e => by have := own_ge o1 j e; omega); replace r3 := r3.grO gra (own_ne o1 (by omega)); replace r9 := r9.grO gra (own_ne o1 (by omega)); replace hok := hok.trans (grown_kept gra (fun j h => by have := h.1; have := hok.size; omega) (fun j h e => by have := own_ge o1 j e; have := h.1; omega)); have gsz := gra.size; obtain ⟨a2, c2, rfl, hc2⟩ := (o2.reads stEnc).form hNn; clear o1 gra hva; refine ⟨hok, ?_⟩)
      refine AA.pure 6 rfl hok (by kernel_rfl) (fun w' b' => R.field rfl rfl (I.fld rfl)) rfl rfl ?_
      refine AA.one 7 (by kernel_rfl) ?_
      (refine ZR.store rfl rfl rfl rfl rfl r3 (by exact Nat.le_of_ble_eq_true rfl) rfl rfl rfl rfl ?_; intro Wd671 r5 grd669 zz9; obtain ⟨bb2, hp2, hb2⟩ := PsB.own (o2.grown grd669 (own_ne o2 (by omega))) (by have := grd669.size; have := q.size; omega); have hj : lkR W.heap.size g3 d' ((k + 1 : Nat) : Int) fol (ps ++ ls) Wd671 := ⟨_, _, _, _, r5, hp2, by omega⟩; clear r5 r3 o2 hp2 hb2 bb2)
      have zgrd669 := grd669.size
      replace q := q.grown grd669 q.size (by rintro k ⟨⟩; omega)
      replace r9 := r9.gr grd669 (by have := r9.lt; omega)
      replace hok := hok.trans (grown_kept grd669 (fun j h => by have := h.1; have := hok.size; omega) (fun j h e => by cases e; have h2 := h.1; have h3 := h.2; omega))
      refine ⟨hok, ?_⟩
      refine AA.done rfl ?_
      clear fzr9 hok
      exact EE.weak (Jd397 _ _ ⟨rfl, (by first | assumption | omega), (by first | assumption | omega), (by first | assumption | omega), (by first | assumption | omega)⟩) ⟨rfl, rfl, rfl, rfl, rfl, rfl, rfl, rfl, rfl, rfl, rfl, trivial⟩
      refine SR.val rfl (R.load rfl rfl (I.ld1 rfl (RowL.cell r3 rfl))) rfl rfl hok ?_
      refine AA.one 2 (by kernel_rfl) ?_
      have ld726 := rd569.lt
      have ld727 := r3.lt
      have ld728 := r9.lt
      (refine SR.append0 rfl rfl rfl stEnc ElS (by assumption) (hpF _ q1) (by simp only [maxLen]; omega) (by omega) rfl rfl ?_; intro v' Wd725 o1 bd722; obtain ⟨a1, c1, rfl, hc1⟩ := (o1.reads stEnc).form hN)
      have zbd722 := bd722.size
      replace rd569 := rd569.up bd722
      replace bd566 := bd566.trans (bd722.mono bd566.size)
      replace bd527 := bd527.trans (bd722.mono bd527.size)
      replace bd1 := bd1.trans (bd722.mono bd1.size)
      replace q1 := q1.trans (bd722.mono q1.size)
      replace q := q.trans (bd722.mono q.size)
      replace r3 := r3.up bd722
      replace r9 := r9.up bd722
      replace hok := hok.trans (bkept bd722 (fun j h => by have := h.1; have := hok.size; omega))
      have yd732 := hok.size
      refine ⟨hok, ?_⟩
      refine AA.one 5 (by kernel_rfl) ?_
      (refine SR.appendT2 rfl rfl rfl stEnc ElS o1 (us := ls) (hF _ q).r (by simp only [maxLen]; omega) (by omega) (by omega) rfl rfl ?_; intro v' Wz o2 gra hva; replace q := q.grown gra q.size (fun j e => by have := own_ge o1 j e; omega); replace q1 := q1.grown gra q1.size (fun j e => by have := own_ge o1 j e; omega); replace r3 := r3.grO gra (own_ne o1 (by omega)); replace r9 := r9.grO gra (own_ne o1 (by omega)); replace hok := hok.trans (grown_kept gra (fun j h => by have := h.1; have := hok.size; omega) (fun j h e => by have := own_ge o1 j e; have := h.1; omega)); have gsz := gra.size; obtain ⟨a2, c2, rfl, hc2⟩ := (o2.reads stEnc).form hNn; clear o1 gra hva; refine ⟨hok, ?_⟩)
      refine AA.pure 6 rfl hok (by kernel_rfl) (fun w' b' => R.field rfl rfl (I.fld rfl)) rfl rfl ?_
      refine AA.one 7 (by kernel_rfl) ?_
      (refine ZR.store rfl rfl rfl rfl rfl r3 (by exact Nat.le_of_ble_eq_true rfl) rfl rfl rfl rfl ?_; intro Wd774 r5 grd772 zz9; obtain ⟨bb2, hp2, hb2⟩ := PsB.own (o2.grown grd772 (own_ne o2 (by omega))) (by have := grd772.size; have := q.size; omega); have hj : lkR W.heap.size g3 d' ((k + 1 : Nat) : Int) fol (ps ++ ls) Wd774 := ⟨_, _, _, _, r5, hp2, by omega⟩; clear r5 r3 o2 hp2 hb2 bb2)
      have zgrd772 := grd772.size
      replace q := q.grown grd772 q.size (by rintro k ⟨⟩; omega)
      replace r9 := r9.gr grd772 (by have := r9.lt; omega)
      replace hok := hok.trans (grown_kept grd772 (fun j h => by have := h.1; have := hok.size; omega) (fun j h e => by cases e; have h2 := h.1; have h3 := h.2; omega))
      refine ⟨hok, ?_⟩
      refine AA.done rfl ?_
      clear fzr9 hok
      exact EE.weak (Jd397 _ _ ⟨rfl, (by first | assumption | omega), (by first | assumption | omega), (by first | assumption | omega), (by first | assumption | omega)⟩) ⟨rfl, rfl, rfl, rfl, rfl, rfl, rfl, rfl, rfl, rfl, rfl, trivial⟩
      refine SR.val rfl (R.load rfl rfl (I.ld1 rfl (RowL.cell r3 rfl))) rfl rfl hok ?_
      refine AA.one 0 (by kernel_rfl) ?_
      have ld846 := r3.lt
      have ld847 := r9.lt
      refine ZR.lit (e := 9) [] 0 rfl rfl rfl (fun _ => by kernel_rfl) rfl rfl ?_
      intro Wd849 gd850 egd850 rd851 zd852 bd848
      replace bd527 := bd527.trans (bd848.mono bd527.size)
      replace bd1 := bd1.trans (bd848.mono bd1.size)
      replace q1 := q1.trans (bd848.mono q1.size)
      replace q := q.trans (bd848.mono q.size)
      replace r3 := r3.up bd848
      replace r9 := r9.up bd848
      replace hok := hok.trans (bkept bd848 (fun j h => by have := h.1; have := hok.size; omega))
      have yd853 := hok.size
      refine ⟨hok, ?_⟩
      refine AA.one 2 (by kernel_rfl) ?_
      have ld868 := rd851.lt
      have ld869 := r3.lt
      have ld870 := r9.lt
      (refine SR.append0 rfl rfl rfl stEnc ElS (by assumption) (hpF _ q1) (by simp only [maxLen]; omega) (by omega) rfl rfl ?_; intro v' Wd867 o1 bd864; obtain ⟨a1, c1, rfl, hc1⟩ := (o1.reads stEnc).form hN)
      have zbd864 := bd864.size
      replace rd851 := rd851.up bd864
      replace bd848 := bd848.trans (bd864.mono bd848.size)
      replace bd527 := bd527.trans (bd864.mono bd527.size)
      replace bd1 := bd1.trans (bd864.mono bd1.size)
      replace q1 := q1.trans (bd864.mono q1.size)
      replace q := q.trans (bd864.mono q.size)
      replace r3 := r3.up bd864
      replace r9 := r9.up bd864
      replace hok := hok.trans (bkept bd864 (fun j h => by have := h.1; have := hok.size; omega))
      have yd874 := hok.size
      refine ⟨hok, ?_⟩
      refine AA.one 5 (by kernel_rfl) ?_
      (refine SR.appendT2 rfl rfl rfl stEnc ElS o1 (us := ls) (hF _ q).r (by simp only [maxLen]; omega) (by omega) (by omega) rfl rfl ?_; intro v' Wz o2 gra hva; replace q := q.grown gra q.size (fun j e => by have := own_ge o1 j e; omega); replace q1 := q1.grown gra q1.size (fun j e => by have := own_ge o1 j e; omega); replace r3 := r3.grO gra (own_ne o1 (by omega)); replace r9 := r9.grO gra (own_ne o1 (by omega)); replace hok := hok.trans (grown_kept gra (fun j h => by have := h.1; have := hok.size; omega) (fun j h e => by have := own_ge o1 j e; have := h.1; omega)); have gsz := gra.size; obtain ⟨a2, c2, rfl, hc2⟩ := (o2.reads stEnc).form hNn; clear o1 gra hva; refine ⟨hok, ?_⟩)
      refine AA.pure 6 rfl hok (by kernel_rfl) (fun w' b' => R.field rfl rfl (I.fld rfl)) rfl rfl ?_
      refine AA.one 7 (by kernel_rfl) ?_
      (refine ZR.store rfl rfl rfl rfl rfl r3 (by exact Nat.le_of_ble_eq_true rfl) rfl rfl rfl rfl ?_; intro Wd916 r5 grd914 zz9; obtain ⟨bb2, hp2, hb2⟩ := PsB.own (o2.grown grd914 (own_ne o2 (by omega))) (by have := grd914.size; have := q.size; omega); have hj : lkR W.heap.size g3 d' ((k + 1 : Nat) : Int) fol (ps ++ ls) Wd916 := ⟨_, _, _, _, r5, hp2, by omega⟩; clear r5 r3 o2 hp2 hb2 bb2)
      have zgrd914 := grd914.size
      replace q := q.grown grd914 q.size (by rintro k ⟨⟩; omega)
      replace r9 := r9.gr grd914 (by have := r9.lt; omega)
      replace hok := hok.trans (grown_kept grd914 (fun j h => by have := h.1; have := hok.size; omega) (fun j h e => by cases e; have h2 := h.1; have h3 := h.2; omega))
      refine ⟨hok, ?_⟩
      refine AA.done rfl ?_
      clear fzr9 hok
      exact EE.weak (Jd397 _ _ ⟨rfl, (by first | assumption | omega), (by first | assumption | omega), (by first | assumption | omega), (by first | assumption | omega)⟩) ⟨rfl, rfl, rfl, rfl, rfl, rfl, rfl, rfl, rfl, rfl, rfl, trivial⟩
    · rw [if_neg hz] at hS
      rw [if_neg hz] at hp
      obtain ⟨e0, he0⟩ : ∃ e0, pathN L = e0 := ⟨_, rfl⟩
      have hz' : (e0 : Int) ≠ 0 := by rw [← he0]; omega
      rw [he0] at hp hS
      have le5 := r3.lt
      have le6 := r9.lt
      (refine LL.call (R.call rfl rfl rfl) rfl rfl rfl (hp _) ?_; rintro e We4 ⟨vp, rfl, op, be1⟩; refine ⟨_, rfl, ?_⟩; obtain ⟨ap, cp, rfl, hcp⟩ := (op.reads stEnc).form rfl; clear op)
      have zbe1 := be1.size
      replace q := q.trans (be1.mono q.size)
      replace r3 := r3.up be1
      replace r9 := r9.up be1
      refine LL.val (R.move rfl rfl) rfl rfl rfl ?_
      refine LL.val (R.extract rfl rfl rfl) rfl rfl rfl ?_
      refine LL.val (R.extract rfl rfl rfl) rfl rfl rfl ?_
      refine LL.val (R.assign rfl rfl) rfl rfl rfl ?_
      refine LL.val (R.assign rfl rfl) rfl rfl rfl ?_
      refine LL.nilS ?_
      refine CC.seq ?_
      refine CC.seq ?_
      refine CC.region ?_
      refine LL.val (R.move rfl rfl) rfl rfl rfl ?_
      refine LL.val (R.neT rfl rfl rfl (by omega)) rfl rfl rfl ?_
      refine LL.nilS ?_
      refine CC.yes rfl ?_
      refine CC.seq ?_
      refine CC.region ?_
      refine LL.val (R.load rfl rfl (I.ldNc (vs := [Value.int IntKind.i64 d', Value.slice a n c, Value.int IntKind.i64 ↑(k + 1), Value.bool fol, Value.bool false, Value.int IntKind.i64 0, Value.int IntKind.i64 0, strV [], Value.int IntKind.i64 0, Value.int IntKind.i64 0]) (RowL.cells r3 rfl) (by rfl) (by rfl))) rfl rfl rfl ?_
      refine LL.val (R.move rfl rfl) rfl rfl rfl ?_
      refine LL.val (R.buildV rfl rfl (v := .agg #[Value.int IntKind.i64 ↑e0, Value.int IntKind.i64 0, Value.string { data := #[] }, Value.int IntKind.i64 0, Value.int IntKind.i64 0]) (fun _ => by kernel_rfl)) rfl rfl rfl ?_
      have le203 := r3.lt
      have le204 := r9.lt
      (refine LL.call (R.call rfl rfl rfl) rfl rfl rfl (rdone_any d' _ _ _ _ _ _ wdZ (e0, 0, [], 0, 0) _) ?_; rintro e We202 ⟨rfl, be199⟩; refine ⟨_, rfl, ?_⟩)
      have zbe199 := be199.size
      replace be1 := be1.trans (be199.mono be1.size)
      replace q := q.trans (be199.mono q.size)
      replace r3 := r3.up be199
      replace r9 := r9.up be199
      refine LL.storeN (vs := [Value.int IntKind.i64 d', Value.slice none 0 0, Value.int IntKind.i64 ↑(k + 1), Value.bool fol, Value.bool true, Value.int IntKind.i64 ↑e0, Value.int IntKind.i64 0, strV [], Value.int IntKind.i64 0, Value.int IntKind.i64 0]) rfl rfl rfl rfl r9 (by exact Nat.le_of_ble_eq_true rfl) (ones_of rfl) rfl rfl ?_
      intro We227 re228 be226 ze229
      have hlbe226 := r9.lt
      replace re228 : RowL We227 _ 33 [Value.int IntKind.i64 d', Value.slice none 0 0, Value.int IntKind.i64 ↑(k + 1), Value.bool fol, Value.bool true, Value.int IntKind.i64 ↑e0, Value.int IntKind.i64 0, strV [], Value.int IntKind.i64 0, Value.int IntKind.i64 0] := re228
      clear r9
      replace q := q.grown be226 q.size (by rintro k ⟨⟩; omega)
      replace r3 := r3.gr be226 (by have := r3.lt; omega)
      have r9 := re228
      clear re228
      refine LL.nilS ?_
      refine CC.ret ?_
      refine EE.thenR ?_
      refine EE.retC rfl rfl (lvNc (RowL.cells0 (by assumption)) (by rfl) (by rfl)) ?_
      exact ⟨_, 0, rfl, (by rw [← hS]; exact RwR.fin (e0, 0, [], 0, 0) _ _ _ rfl rfl), by omega, q⟩
end Go.Proofs.YtbbddpnjglijdaaDoor
/- walk: the document's Give (written by genwk22.py). -/
namespace Go.Proofs.YtbbddpnjglijdaaDoor
set_option linter.unusedVariables false
set_option linter.unusedSimpArgs false
open Go.RowKit Go.Shelf
set_option maxRecDepth 100000
set_option maxHeartbeats 8000000
theorem rgive_any (d : Int) (a : Option Addr) (n c : Nat) (k : Nat) (fol : Bool) (p : Bs) (r : List Bs) (f : Fd) (w : World) (bb : Nat) (hv : PsB w bb a n c (p :: r)) (hl : n ≤ 50000) (ht : f.2.1 = 3 → f.2.2.length ≤ 1048576) (hk : k ≤ 8) (h0 : 0 < w.heap.size) : Calls Tryd.prog 17 #[rwV d a n c (k : Int) fol false wdZ, fdV f] w fun e w' => ∃ v b2, e = .returned v ∧ RwR (Wk.give ⟨d, p :: r, k, fol, none⟩ f) v w' b2 ∧ ((b2 = 0 ∨ b2 = bb ∨ w.heap.size ≤ b2) ∧ b2 < w'.heap.size) ∧ Below w.heap.size w w' := by
  have q := Below.refl w.heap.size w
  have hn := hv.len
  have hn2 : r.length + 1 = n := hn
  have hF : ∀ X, Below w.heap.size w X → PsB X bb a n c (p :: r) := fun X b => hv.up b
  have hb0 := hv.lt
  obtain ⟨off, rfl, c0'⟩ := hv.head
  have c0 := fun X (b : Below w.heap.size w X) => c0' X (hF X b)
  obtain ⟨a', c', hsl, htl⟩ := hv.tail
  have hF2 := fun X (b : Below w.heap.size w X) => htl X (hF X b)
  obtain ⟨fi, fk, ft⟩ := f
  dsimp only at ht
  obtain ⟨S, hS⟩ : ∃ S, Wk.give ⟨d, p :: r, k, fol, none⟩ (fi, fk, ft) = S := ⟨_, rfl⟩
  rw [hS]
  unfold Wk.give at hS
  dsimp only at hS
  clear hv c0' hn htl
  have hr0 : r ≠ [] ↔ 1 < n := by
    rw [← hn2]
    cases r with
    | nil => simp
    | cons x y => simp
  by_cases hpp : p = [46, 46]
  · rw [if_pos hpp] at hS
    refine X.fn Tryd.func17 rfl (n := 69) rfl rfl ?_
    refine CC.seq ?_
    refine CC.region ?_
    refine LL.box [Value.int IntKind.i64 d, Value.slice (some { block := bb, off := off }) n c, Value.int IntKind.i64 ↑k, Value.bool fol, Value.bool false, Value.int IntKind.i64 0, Value.int IntKind.i64 0, strV [], Value.int IntKind.i64 0, Value.int IntKind.i64 0] rfl rfl rfl rfl rfl ?_
    intro W9 g10 eg10 r11 z12 b8
    replace q := q.trans (b8.mono q.size)
    have l21 := r11.lt
    refine LL.box [Value.int IntKind.i64 fi, Value.int IntKind.i64 fk, strV ft] rfl rfl rfl rfl rfl ?_
    intro W23 g24 eg24 r25 z26 b22
    replace r11 := r11.up b22
    replace b8 := b8.trans (b22.mono b8.size)
    replace q := q.trans (b22.mono q.size)
    have l36 := r25.lt
    have l37 := r11.lt
    refine LL.alloc ([Value.int IntKind.i64 0, Value.slice none 0 0, Value.int IntKind.i64 0, Value.bool false, Value.bool false, Value.int IntKind.i64 0, Value.int IntKind.i64 0, Value.string { data := { toList := [] } }, Value.int IntKind.i64 0, Value.int IntKind.i64 0]) rfl rfl rfl rfl rfl ?_
    intro W39 g40 eg40 r41 z42 b38
    replace r25 := r25.up b38
    replace b22 := b22.trans (b38.mono b22.size)
    replace r11 := r11.up b38
    replace b8 := b8.trans (b38.mono b8.size)
    replace q := q.trans (b38.mono q.size)
    refine LL.nilS ?_
    refine CC.seq ?_
    refine CC.region ?_
    refine LL.val (R.field rfl rfl (I.fld rfl)) rfl rfl rfl ?_
    refine LL.val (R.load rfl rfl (I.ld1 rfl (RowL.cell r11 rfl))) rfl rfl rfl ?_
    refine LL.val (R.index rfl rfl rfl (I.ixS1c rfl rfl (by omega))) rfl rfl rfl ?_
    (refine LL.val (R.load rfl rfl (I.ld1 rfl (c0 _ q))) rfl rfl rfl ?_)
    refine LL.val (R.assign rfl rfl) rfl rfl rfl ?_
    refine LL.nilS ?_
    refine CC.seq ?_
    refine CC.region ?_
    refine LL.val (R.field rfl rfl (I.fld rfl)) rfl rfl rfl ?_
    refine LL.val (R.load rfl rfl (I.ld1 rfl (RowL.cell r11 rfl))) rfl rfl rfl ?_
    (refine LL.val (R.slice rfl rfl rfl rfl rfl (hsl _ _ _ _ rfl)) rfl rfl rfl ?_)
    refine LL.val (R.field rfl rfl (I.fld rfl)) rfl rfl rfl ?_
    refine LL.store rfl rfl rfl rfl r11 (by exact Nat.le_of_ble_eq_true rfl) rfl rfl rfl rfl ?_
    intro W124 r125 b123 z126
    have hlb123 := r11.lt
    replace r125 : RowL W124 _ 33 [Value.int IntKind.i64 d, Value.slice a' (n - 1) c', Value.int IntKind.i64 ↑k, Value.bool fol, Value.bool false, Value.int IntKind.i64 0, Value.int IntKind.i64 0, strV [], Value.int IntKind.i64 0, Value.int IntKind.i64 0] := r125
    clear r11
    replace r41 := r41.gr b123 (by have := r41.lt; omega)
    replace r25 := r25.gr b123 (by have := r25.lt; omega)
    replace b8 := b8.grown b123 b8.size (by rintro k ⟨⟩; omega)
    replace q := q.grown b123 q.size (by rintro k ⟨⟩; omega)
    have r11 := r125
    clear r125
    refine LL.nilS ?_
    refine CC.seq ?_
    refine CC.region ?_
    refine LL.val (R.field rfl rfl (I.fld rfl)) rfl rfl rfl ?_
    refine LL.val (R.load rfl rfl (I.ld1 rfl (RowL.cell r11 rfl))) rfl rfl rfl ?_
    refine LL.val (R.len rfl rfl rfl rfl) rfl rfl rfl ?_
    refine LL.vsplit (fun h => R.gtT rfl rfl rfl h) (fun h => R.gtF rfl rfl rfl (Int.not_lt.1 h)) rfl rfl rfl (fun c167 => ?_) (fun c167 => ?_)
    refine LL.val (R.assign rfl rfl) rfl rfl rfl ?_
    refine LL.nilS ?_
    refine CC.seq ?_
    refine CC.block ?_
    refine CC.seq ?_
    refine CC.region ?_
    refine LL.val (R.move rfl rfl) rfl rfl rfl ?_
    (refine LL.val (R.eqS (a := p) (b := [46, 46]) (c := true) rfl rfl rfl (by simp [hpp])) rfl rfl rfl ?_)
    refine LL.val (R.assign rfl rfl) rfl rfl rfl ?_
    refine LL.nilS ?_
    refine CC.yes rfl ?_
    refine CC.seq ?_
    refine CC.region ?_
    refine LL.val (R.field rfl rfl (I.fld rfl)) rfl rfl rfl ?_
    refine LL.val (R.load rfl rfl (I.ld1 rfl (RowL.cell r25 rfl))) rfl rfl rfl ?_
    refine LL.val (R.field rfl rfl (I.fld rfl)) rfl rfl rfl ?_
    refine LL.store rfl rfl rfl rfl r11 (by exact Nat.le_of_ble_eq_true rfl) rfl rfl rfl rfl ?_
    intro W239 r240 b238 z241
    have hlb238 := r11.lt
    replace r240 : RowL W239 _ 33 [Value.int IntKind.i64 fi, Value.slice a' (n - 1) c', Value.int IntKind.i64 ↑k, Value.bool fol, Value.bool false, Value.int IntKind.i64 0, Value.int IntKind.i64 0, strV [], Value.int IntKind.i64 0, Value.int IntKind.i64 0] := r240
    clear r11
    replace r41 := r41.gr b238 (by have := r41.lt; omega)
    replace r25 := r25.gr b238 (by have := r25.lt; omega)
    replace b8 := b8.grown b238 b8.size (by rintro k ⟨⟩; omega)
    replace q := q.grown b238 q.size (by rintro k ⟨⟩; omega)
    have r11 := r240
    clear r240
    refine LL.nilS ?_
    refine CC.seq ?_
    refine CC.region ?_
    refine LL.val (R.load rfl rfl (I.ldNc (vs := [Value.int IntKind.i64 fi, Value.slice a' (n - 1) c', Value.int IntKind.i64 ↑k, Value.bool fol, Value.bool false, Value.int IntKind.i64 0, Value.int IntKind.i64 0, strV [], Value.int IntKind.i64 0, Value.int IntKind.i64 0]) (RowL.cells r11 rfl) (by rfl) (by rfl))) rfl rfl rfl ?_
    have l256 := r41.lt
    have l257 := r25.lt
    have l258 := r11.lt
    (refine LL.call (R.call rfl rfl rfl) rfl rfl rfl (ron_any fi _ _ _ k fol r _ bb (hF2 _ q) (by omega) (by omega)) ?_; rintro e W255 ⟨vo, bo1, rfl, ho1, hbo1, b252⟩; refine ⟨_, rfl, ?_⟩; obtain ⟨d1, a1, n1, c1, k1, f1, dn1, x1, rfl⟩ := ho1.form)
    have zb252 := b252.size
    replace r41 := r41.up b252
    replace r25 := r25.up b252
    replace b8 := b8.trans (b252.mono b8.size)
    replace q := q.trans (b252.mono q.size)
    replace r11 := r11.up b252
    refine LL.storeN (vs := [Value.int IntKind.i64 d1, Value.slice a1 n1 c1, Value.int IntKind.i64 k1, Value.bool f1, Value.bool dn1, Value.int IntKind.i64 x1.1, Value.int IntKind.i64 x1.2.1, strV x1.2.2.1, Value.int IntKind.i64 x1.2.2.2.1, Value.int IntKind.i64 x1.2.2.2.2]) rfl rfl rfl rfl r41 (by exact Nat.le_of_ble_eq_true rfl) (ones_of rfl) rfl rfl ?_
    intro W273 r274 b272 z275
    have hlb272 := r41.lt
    replace r274 : RowL W273 _ 33 [Value.int IntKind.i64 d1, Value.slice a1 n1 c1, Value.int IntKind.i64 k1, Value.bool f1, Value.bool dn1, Value.int IntKind.i64 x1.1, Value.int IntKind.i64 x1.2.1, strV x1.2.2.1, Value.int IntKind.i64 x1.2.2.2.1, Value.int IntKind.i64 x1.2.2.2.2] := r274
    clear r41
    replace ho1 := ho1.gr b272 (by omega)
    replace r25 := r25.gr b272 (by have := r25.lt; omega)
    replace b8 := b8.grown b272 b8.size (by rintro k ⟨⟩; omega)
    replace q := q.grown b272 q.size (by rintro k ⟨⟩; omega)
    replace r11 := r11.gr b272 (by have := r11.lt; omega)
    have r41 := r274
    clear r274
    refine LL.nilS ?_
    refine CC.ret ?_
    refine EE.inR ?_
    refine EE.thenR ?_
    refine EE.retC rfl rfl (lvNc (RowL.cells0 (by assumption)) (by rfl) (by rfl)) ?_
    exact ⟨_, bo1, rfl, (by rw [← hS]; exact ho1), by omega, q⟩
    refine LL.val (R.assign rfl rfl) rfl rfl rfl ?_
    refine LL.nilS ?_
    refine CC.seq ?_
    refine CC.block ?_
    refine CC.seq ?_
    refine CC.region ?_
    refine LL.val (R.move rfl rfl) rfl rfl rfl ?_
    (refine LL.val (R.eqS (a := p) (b := [46, 46]) (c := true) rfl rfl rfl (by simp [hpp])) rfl rfl rfl ?_)
    refine LL.val (R.assign rfl rfl) rfl rfl rfl ?_
    refine LL.nilS ?_
    refine CC.yes rfl ?_
    refine CC.seq ?_
    refine CC.region ?_
    refine LL.val (R.field rfl rfl (I.fld rfl)) rfl rfl rfl ?_
    refine LL.val (R.load rfl rfl (I.ld1 rfl (RowL.cell r25 rfl))) rfl rfl rfl ?_
    refine LL.val (R.field rfl rfl (I.fld rfl)) rfl rfl rfl ?_
    refine LL.store rfl rfl rfl rfl r11 (by exact Nat.le_of_ble_eq_true rfl) rfl rfl rfl rfl ?_
    intro W347 r348 b346 z349
    have hlb346 := r11.lt
    replace r348 : RowL W347 _ 33 [Value.int IntKind.i64 fi, Value.slice a' (n - 1) c', Value.int IntKind.i64 ↑k, Value.bool fol, Value.bool false, Value.int IntKind.i64 0, Value.int IntKind.i64 0, strV [], Value.int IntKind.i64 0, Value.int IntKind.i64 0] := r348
    clear r11
    replace r41 := r41.gr b346 (by have := r41.lt; omega)
    replace r25 := r25.gr b346 (by have := r25.lt; omega)
    replace b8 := b8.grown b346 b8.size (by rintro k ⟨⟩; omega)
    replace q := q.grown b346 q.size (by rintro k ⟨⟩; omega)
    have r11 := r348
    clear r348
    refine LL.nilS ?_
    refine CC.seq ?_
    refine CC.region ?_
    refine LL.val (R.load rfl rfl (I.ldNc (vs := [Value.int IntKind.i64 fi, Value.slice a' (n - 1) c', Value.int IntKind.i64 ↑k, Value.bool fol, Value.bool false, Value.int IntKind.i64 0, Value.int IntKind.i64 0, strV [], Value.int IntKind.i64 0, Value.int IntKind.i64 0]) (RowL.cells r11 rfl) (by rfl) (by rfl))) rfl rfl rfl ?_
    have l364 := r41.lt
    have l365 := r25.lt
    have l366 := r11.lt
    (refine LL.call (R.call rfl rfl rfl) rfl rfl rfl (ron_any fi _ _ _ k fol r _ bb (hF2 _ q) (by omega) (by omega)) ?_; rintro e W363 ⟨vo, bo1, rfl, ho1, hbo1, b360⟩; refine ⟨_, rfl, ?_⟩; obtain ⟨d1, a1, n1, c1, k1, f1, dn1, x1, rfl⟩ := ho1.form)
    have zb360 := b360.size
    replace r41 := r41.up b360
    replace r25 := r25.up b360
    replace b8 := b8.trans (b360.mono b8.size)
    replace q := q.trans (b360.mono q.size)
    replace r11 := r11.up b360
    refine LL.storeN (vs := [Value.int IntKind.i64 d1, Value.slice a1 n1 c1, Value.int IntKind.i64 k1, Value.bool f1, Value.bool dn1, Value.int IntKind.i64 x1.1, Value.int IntKind.i64 x1.2.1, strV x1.2.2.1, Value.int IntKind.i64 x1.2.2.2.1, Value.int IntKind.i64 x1.2.2.2.2]) rfl rfl rfl rfl r41 (by exact Nat.le_of_ble_eq_true rfl) (ones_of rfl) rfl rfl ?_
    intro W381 r382 b380 z383
    have hlb380 := r41.lt
    replace r382 : RowL W381 _ 33 [Value.int IntKind.i64 d1, Value.slice a1 n1 c1, Value.int IntKind.i64 k1, Value.bool f1, Value.bool dn1, Value.int IntKind.i64 x1.1, Value.int IntKind.i64 x1.2.1, strV x1.2.2.1, Value.int IntKind.i64 x1.2.2.2.1, Value.int IntKind.i64 x1.2.2.2.2] := r382
    clear r41
    replace ho1 := ho1.gr b380 (by omega)
    replace r25 := r25.gr b380 (by have := r25.lt; omega)
    replace b8 := b8.grown b380 b8.size (by rintro k ⟨⟩; omega)
    replace q := q.grown b380 q.size (by rintro k ⟨⟩; omega)
    replace r11 := r11.gr b380 (by have := r11.lt; omega)
    have r41 := r382
    clear r382
    refine LL.nilS ?_
    refine CC.ret ?_
    refine EE.inR ?_
    refine EE.thenR ?_
    refine EE.retC rfl rfl (lvNc (RowL.cells0 (by assumption)) (by rfl) (by rfl)) ?_
    exact ⟨_, bo1, rfl, (by rw [← hS]; exact ho1), by omega, q⟩
  rw [if_neg hpp] at hS
  by_cases hf3 : fk = 3 ∧ (r ≠ [] ∨ fol = true)
  · rw [if_pos hf3] at hS
    obtain ⟨h3, hor⟩ := hf3
    have ht' := ht h3
    cases fol with
    | true =>
      by_cases hn1 : 1 < n
      · refine X.fn Tryd.func17 rfl (n := 69) rfl rfl ?_
        refine CC.seq ?_
        refine CC.region ?_
        refine LL.box [Value.int IntKind.i64 d, Value.slice (some { block := bb, off := off }) n c, Value.int IntKind.i64 ↑k, Value.bool true, Value.bool false, Value.int IntKind.i64 0, Value.int IntKind.i64 0, strV [], Value.int IntKind.i64 0, Value.int IntKind.i64 0] rfl rfl rfl rfl rfl ?_
        intro Wa9 ga10 ega10 ra11 za12 ba8
        replace q := q.trans (ba8.mono q.size)
        have la21 := ra11.lt
        refine LL.box [Value.int IntKind.i64 fi, Value.int IntKind.i64 fk, strV ft] rfl rfl rfl rfl rfl ?_
        intro Wa23 ga24 ega24 ra25 za26 ba22
        replace ra11 := ra11.up ba22
        replace ba8 := ba8.trans (ba22.mono ba8.size)
        replace q := q.trans (ba22.mono q.size)
        have la36 := ra25.lt
        have la37 := ra11.lt
        refine LL.alloc ([Value.int IntKind.i64 0, Value.slice none 0 0, Value.int IntKind.i64 0, Value.bool false, Value.bool false, Value.int IntKind.i64 0, Value.int IntKind.i64 0, Value.string { data := { toList := [] } }, Value.int IntKind.i64 0, Value.int IntKind.i64 0]) rfl rfl rfl rfl rfl ?_
        intro Wa39 ga40 ega40 ra41 za42 ba38
        replace ra25 := ra25.up ba38
        replace ba22 := ba22.trans (ba38.mono ba22.size)
        replace ra11 := ra11.up ba38
        replace ba8 := ba8.trans (ba38.mono ba8.size)
        replace q := q.trans (ba38.mono q.size)
        refine LL.nilS ?_
        refine CC.seq ?_
        refine CC.region ?_
        refine LL.val (R.field rfl rfl (I.fld rfl)) rfl rfl rfl ?_
        refine LL.val (R.load rfl rfl (I.ld1 rfl (RowL.cell ra11 rfl))) rfl rfl rfl ?_
        refine LL.val (R.index rfl rfl rfl (I.ixS1c rfl rfl (by omega))) rfl rfl rfl ?_
        (refine LL.val (R.load rfl rfl (I.ld1 rfl (c0 _ q))) rfl rfl rfl ?_)
        refine LL.val (R.assign rfl rfl) rfl rfl rfl ?_
        refine LL.nilS ?_
        refine CC.seq ?_
        refine CC.region ?_
        refine LL.val (R.field rfl rfl (I.fld rfl)) rfl rfl rfl ?_
        refine LL.val (R.load rfl rfl (I.ld1 rfl (RowL.cell ra11 rfl))) rfl rfl rfl ?_
        (refine LL.val (R.slice rfl rfl rfl rfl rfl (hsl _ _ _ _ rfl)) rfl rfl rfl ?_)
        refine LL.val (R.field rfl rfl (I.fld rfl)) rfl rfl rfl ?_
        refine LL.store rfl rfl rfl rfl ra11 (by exact Nat.le_of_ble_eq_true rfl) rfl rfl rfl rfl ?_
        intro Wa124 ra125 ba123 za126
        have hlba123 := ra11.lt
        replace ra125 : RowL Wa124 _ 33 [Value.int IntKind.i64 d, Value.slice a' (n - 1) c', Value.int IntKind.i64 ↑k, Value.bool true, Value.bool false, Value.int IntKind.i64 0, Value.int IntKind.i64 0, strV [], Value.int IntKind.i64 0, Value.int IntKind.i64 0] := ra125
        clear ra11
        replace ra41 := ra41.gr ba123 (by have := ra41.lt; omega)
        replace ra25 := ra25.gr ba123 (by have := ra25.lt; omega)
        replace ba8 := ba8.grown ba123 ba8.size (by rintro k ⟨⟩; omega)
        replace q := q.grown ba123 q.size (by rintro k ⟨⟩; omega)
        have ra11 := ra125
        clear ra125
        refine LL.nilS ?_
        refine CC.seq ?_
        refine CC.region ?_
        refine LL.val (R.field rfl rfl (I.fld rfl)) rfl rfl rfl ?_
        refine LL.val (R.load rfl rfl (I.ld1 rfl (RowL.cell ra11 rfl))) rfl rfl rfl ?_
        refine LL.val (R.len rfl rfl rfl rfl) rfl rfl rfl ?_
        refine LL.val (R.gtT rfl rfl rfl (by omega)) rfl rfl rfl ?_
        refine LL.val (R.assign rfl rfl) rfl rfl rfl ?_
        refine LL.nilS ?_
        refine CC.seq ?_
        refine CC.block ?_
        refine CC.seq ?_
        refine CC.region ?_
        refine LL.val (R.move rfl rfl) rfl rfl rfl ?_
        (refine LL.val (R.eqS (a := p) (b := [46, 46]) (c := false) rfl rfl rfl (by simp [hpp])) rfl rfl rfl ?_)
        refine LL.val (R.assign rfl rfl) rfl rfl rfl ?_
        refine LL.nilS ?_
        refine CC.no rfl ?_
        refine CC.seq ?_
        refine CC.region ?_
        refine LL.val (R.field rfl rfl (I.fld rfl)) rfl rfl rfl ?_
        refine LL.val (R.load rfl rfl (I.ld1 rfl (RowL.cell ra25 rfl))) rfl rfl rfl ?_
        refine LL.val (R.eqT rfl rfl rfl (by omega)) rfl rfl rfl ?_
        refine LL.val (R.move rfl rfl) rfl rfl rfl ?_
        refine LL.val (R.move rfl rfl) rfl rfl rfl ?_
        refine LL.val (R.move rfl rfl) rfl rfl rfl ?_
        refine LL.skip rfl rfl ?_
        refine LL.skip rfl rfl ?_
        refine LL.val (R.pick rfl rfl rfl) rfl rfl rfl ?_
        refine LL.val (R.pick rfl rfl rfl) rfl rfl rfl ?_
        refine LL.val (R.assign rfl rfl) rfl rfl rfl ?_
        refine LL.nilS ?_
        refine CC.yes rfl ?_
        refine CC.seq ?_
        refine CC.region ?_
        refine LL.val (R.load rfl rfl (I.ldNc (vs := [Value.int IntKind.i64 d, Value.slice a' (n - 1) c', Value.int IntKind.i64 ↑k, Value.bool true, Value.bool false, Value.int IntKind.i64 0, Value.int IntKind.i64 0, strV [], Value.int IntKind.i64 0, Value.int IntKind.i64 0]) (RowL.cells ra11 rfl) (by rfl) (by rfl))) rfl rfl rfl ?_
        refine LL.val (R.field rfl rfl (I.fld rfl)) rfl rfl rfl ?_
        refine LL.val (R.load rfl rfl (I.ld1 rfl (RowL.cell ra25 rfl))) rfl rfl rfl ?_
        have la321 := ra41.lt
        have la322 := ra25.lt
        have la323 := ra11.lt
        (refine LL.call (R.call rfl rfl rfl) rfl rfl rfl (rlink_any d _ _ _ k true r ft _ bb (hF2 _ q) (by omega) ht' hk (by omega)) ?_; rintro e Wa320 ⟨vo, bo1, rfl, ho1, hbo1, ba317⟩; refine ⟨_, rfl, ?_⟩; obtain ⟨d1, a1, n1, c1, k1, f1, dn1, x1, rfl⟩ := ho1.form)
        have zba317 := ba317.size
        replace ra41 := ra41.up ba317
        replace ra25 := ra25.up ba317
        replace ba8 := ba8.trans (ba317.mono ba8.size)
        replace q := q.trans (ba317.mono q.size)
        replace ra11 := ra11.up ba317
        refine LL.storeN (vs := [Value.int IntKind.i64 d1, Value.slice a1 n1 c1, Value.int IntKind.i64 k1, Value.bool f1, Value.bool dn1, Value.int IntKind.i64 x1.1, Value.int IntKind.i64 x1.2.1, strV x1.2.2.1, Value.int IntKind.i64 x1.2.2.2.1, Value.int IntKind.i64 x1.2.2.2.2]) rfl rfl rfl rfl ra41 (by exact Nat.le_of_ble_eq_true rfl) (ones_of rfl) rfl rfl ?_
        intro Wa338 ra339 ba337 za340
        have hlba337 := ra41.lt
        replace ra339 : RowL Wa338 _ 33 [Value.int IntKind.i64 d1, Value.slice a1 n1 c1, Value.int IntKind.i64 k1, Value.bool f1, Value.bool dn1, Value.int IntKind.i64 x1.1, Value.int IntKind.i64 x1.2.1, strV x1.2.2.1, Value.int IntKind.i64 x1.2.2.2.1, Value.int IntKind.i64 x1.2.2.2.2] := ra339
        clear ra41
        replace ho1 := ho1.gr ba337 (by omega)
        replace ra25 := ra25.gr ba337 (by have := ra25.lt; omega)
        replace ba8 := ba8.grown ba337 ba8.size (by rintro k ⟨⟩; omega)
        replace q := q.grown ba337 q.size (by rintro k ⟨⟩; omega)
        replace ra11 := ra11.gr ba337 (by have := ra11.lt; omega)
        have ra41 := ra339
        clear ra339
        refine LL.nilS ?_
        refine CC.ret ?_
        refine EE.inR ?_
        refine EE.thenR ?_
        refine EE.retC rfl rfl (lvNc (RowL.cells0 (by assumption)) (by rfl) (by rfl)) ?_
        exact ⟨_, bo1, rfl, (by rw [← hS]; exact ho1), by omega, q⟩
      · refine X.fn Tryd.func17 rfl (n := 69) rfl rfl ?_
        refine CC.seq ?_
        refine CC.region ?_
        refine LL.box [Value.int IntKind.i64 d, Value.slice (some { block := bb, off := off }) n c, Value.int IntKind.i64 ↑k, Value.bool true, Value.bool false, Value.int IntKind.i64 0, Value.int IntKind.i64 0, strV [], Value.int IntKind.i64 0, Value.int IntKind.i64 0] rfl rfl rfl rfl rfl ?_
        intro Wb9 gb10 egb10 rb11 zb12 bb8
        replace q := q.trans (bb8.mono q.size)
        have lb21 := rb11.lt
        refine LL.box [Value.int IntKind.i64 fi, Value.int IntKind.i64 fk, strV ft] rfl rfl rfl rfl rfl ?_
        intro Wb23 gb24 egb24 rb25 zb26 bb22
        replace rb11 := rb11.up bb22
        replace bb8 := bb8.trans (bb22.mono bb8.size)
        replace q := q.trans (bb22.mono q.size)
        have lb36 := rb25.lt
        have lb37 := rb11.lt
        refine LL.alloc ([Value.int IntKind.i64 0, Value.slice none 0 0, Value.int IntKind.i64 0, Value.bool false, Value.bool false, Value.int IntKind.i64 0, Value.int IntKind.i64 0, Value.string { data := { toList := [] } }, Value.int IntKind.i64 0, Value.int IntKind.i64 0]) rfl rfl rfl rfl rfl ?_
        intro Wb39 gb40 egb40 rb41 zb42 bb38
        replace rb25 := rb25.up bb38
        replace bb22 := bb22.trans (bb38.mono bb22.size)
        replace rb11 := rb11.up bb38
        replace bb8 := bb8.trans (bb38.mono bb8.size)
        replace q := q.trans (bb38.mono q.size)
        refine LL.nilS ?_
        refine CC.seq ?_
        refine CC.region ?_
        refine LL.val (R.field rfl rfl (I.fld rfl)) rfl rfl rfl ?_
        refine LL.val (R.load rfl rfl (I.ld1 rfl (RowL.cell rb11 rfl))) rfl rfl rfl ?_
        refine LL.val (R.index rfl rfl rfl (I.ixS1c rfl rfl (by omega))) rfl rfl rfl ?_
        (refine LL.val (R.load rfl rfl (I.ld1 rfl (c0 _ q))) rfl rfl rfl ?_)
        refine LL.val (R.assign rfl rfl) rfl rfl rfl ?_
        refine LL.nilS ?_
        refine CC.seq ?_
        refine CC.region ?_
        refine LL.val (R.field rfl rfl (I.fld rfl)) rfl rfl rfl ?_
        refine LL.val (R.load rfl rfl (I.ld1 rfl (RowL.cell rb11 rfl))) rfl rfl rfl ?_
        (refine LL.val (R.slice rfl rfl rfl rfl rfl (hsl _ _ _ _ rfl)) rfl rfl rfl ?_)
        refine LL.val (R.field rfl rfl (I.fld rfl)) rfl rfl rfl ?_
        refine LL.store rfl rfl rfl rfl rb11 (by exact Nat.le_of_ble_eq_true rfl) rfl rfl rfl rfl ?_
        intro Wb124 rb125 bb123 zb126
        have hlbb123 := rb11.lt
        replace rb125 : RowL Wb124 _ 33 [Value.int IntKind.i64 d, Value.slice a' (n - 1) c', Value.int IntKind.i64 ↑k, Value.bool true, Value.bool false, Value.int IntKind.i64 0, Value.int IntKind.i64 0, strV [], Value.int IntKind.i64 0, Value.int IntKind.i64 0] := rb125
        clear rb11
        replace rb41 := rb41.gr bb123 (by have := rb41.lt; omega)
        replace rb25 := rb25.gr bb123 (by have := rb25.lt; omega)
        replace bb8 := bb8.grown bb123 bb8.size (by rintro k ⟨⟩; omega)
        replace q := q.grown bb123 q.size (by rintro k ⟨⟩; omega)
        have rb11 := rb125
        clear rb125
        refine LL.nilS ?_
        refine CC.seq ?_
        refine CC.region ?_
        refine LL.val (R.field rfl rfl (I.fld rfl)) rfl rfl rfl ?_
        refine LL.val (R.load rfl rfl (I.ld1 rfl (RowL.cell rb11 rfl))) rfl rfl rfl ?_
        refine LL.val (R.len rfl rfl rfl rfl) rfl rfl rfl ?_
        refine LL.val (R.gtF rfl rfl rfl (by omega)) rfl rfl rfl ?_
        refine LL.val (R.assign rfl rfl) rfl rfl rfl ?_
        refine LL.nilS ?_
        refine CC.seq ?_
        refine CC.block ?_
        refine CC.seq ?_
        refine CC.region ?_
        refine LL.val (R.move rfl rfl) rfl rfl rfl ?_
        (refine LL.val (R.eqS (a := p) (b := [46, 46]) (c := false) rfl rfl rfl (by simp [hpp])) rfl rfl rfl ?_)
        refine LL.val (R.assign rfl rfl) rfl rfl rfl ?_
        refine LL.nilS ?_
        refine CC.no rfl ?_
        refine CC.seq ?_
        refine CC.region ?_
        refine LL.val (R.field rfl rfl (I.fld rfl)) rfl rfl rfl ?_
        refine LL.val (R.load rfl rfl (I.ld1 rfl (RowL.cell rb25 rfl))) rfl rfl rfl ?_
        refine LL.val (R.eqT rfl rfl rfl (by omega)) rfl rfl rfl ?_
        refine LL.val (R.move rfl rfl) rfl rfl rfl ?_
        refine LL.val (R.move rfl rfl) rfl rfl rfl ?_
        refine LL.val (R.move rfl rfl) rfl rfl rfl ?_
        refine LL.val (R.field rfl rfl (I.fld rfl)) rfl rfl rfl ?_
        refine LL.val (R.load rfl rfl (I.ld1 rfl (RowL.cell rb11 rfl))) rfl rfl rfl ?_
        refine LL.val (R.pick rfl rfl rfl) rfl rfl rfl ?_
        refine LL.val (R.pick rfl rfl rfl) rfl rfl rfl ?_
        refine LL.val (R.assign rfl rfl) rfl rfl rfl ?_
        refine LL.nilS ?_
        refine CC.yes rfl ?_
        refine CC.seq ?_
        refine CC.region ?_
        refine LL.val (R.load rfl rfl (I.ldNc (vs := [Value.int IntKind.i64 d, Value.slice a' (n - 1) c', Value.int IntKind.i64 ↑k, Value.bool true, Value.bool false, Value.int IntKind.i64 0, Value.int IntKind.i64 0, strV [], Value.int IntKind.i64 0, Value.int IntKind.i64 0]) (RowL.cells rb11 rfl) (by rfl) (by rfl))) rfl rfl rfl ?_
        refine LL.val (R.field rfl rfl (I.fld rfl)) rfl rfl rfl ?_
        refine LL.val (R.load rfl rfl (I.ld1 rfl (RowL.cell rb25 rfl))) rfl rfl rfl ?_
        have lb341 := rb41.lt
        have lb342 := rb25.lt
        have lb343 := rb11.lt
        (refine LL.call (R.call rfl rfl rfl) rfl rfl rfl (rlink_any d _ _ _ k true r ft _ bb (hF2 _ q) (by omega) ht' hk (by omega)) ?_; rintro e Wb340 ⟨vo, bo1, rfl, ho1, hbo1, bb337⟩; refine ⟨_, rfl, ?_⟩; obtain ⟨d1, a1, n1, c1, k1, f1, dn1, x1, rfl⟩ := ho1.form)
        have zbb337 := bb337.size
        replace rb41 := rb41.up bb337
        replace rb25 := rb25.up bb337
        replace bb8 := bb8.trans (bb337.mono bb8.size)
        replace q := q.trans (bb337.mono q.size)
        replace rb11 := rb11.up bb337
        refine LL.storeN (vs := [Value.int IntKind.i64 d1, Value.slice a1 n1 c1, Value.int IntKind.i64 k1, Value.bool f1, Value.bool dn1, Value.int IntKind.i64 x1.1, Value.int IntKind.i64 x1.2.1, strV x1.2.2.1, Value.int IntKind.i64 x1.2.2.2.1, Value.int IntKind.i64 x1.2.2.2.2]) rfl rfl rfl rfl rb41 (by exact Nat.le_of_ble_eq_true rfl) (ones_of rfl) rfl rfl ?_
        intro Wb358 rb359 bb357 zb360
        have hlbb357 := rb41.lt
        replace rb359 : RowL Wb358 _ 33 [Value.int IntKind.i64 d1, Value.slice a1 n1 c1, Value.int IntKind.i64 k1, Value.bool f1, Value.bool dn1, Value.int IntKind.i64 x1.1, Value.int IntKind.i64 x1.2.1, strV x1.2.2.1, Value.int IntKind.i64 x1.2.2.2.1, Value.int IntKind.i64 x1.2.2.2.2] := rb359
        clear rb41
        replace ho1 := ho1.gr bb357 (by omega)
        replace rb25 := rb25.gr bb357 (by have := rb25.lt; omega)
        replace bb8 := bb8.grown bb357 bb8.size (by rintro k ⟨⟩; omega)
        replace q := q.grown bb357 q.size (by rintro k ⟨⟩; omega)
        replace rb11 := rb11.gr bb357 (by have := rb11.lt; omega)
        have rb41 := rb359
        clear rb359
        refine LL.nilS ?_
        refine CC.ret ?_
        refine EE.inR ?_
        refine EE.thenR ?_
        refine EE.retC rfl rfl (lvNc (RowL.cells0 (by assumption)) (by rfl) (by rfl)) ?_
        exact ⟨_, bo1, rfl, (by rw [← hS]; exact ho1), by omega, q⟩
    | false =>
      have hn1 : 1 < n := hr0.1 (by rcases hor with h | h; exact h; cases h)
      refine X.fn Tryd.func17 rfl (n := 69) rfl rfl ?_
      refine CC.seq ?_
      refine CC.region ?_
      refine LL.box [Value.int IntKind.i64 d, Value.slice (some { block := bb, off := off }) n c, Value.int IntKind.i64 ↑k, Value.bool false, Value.bool false, Value.int IntKind.i64 0, Value.int IntKind.i64 0, strV [], Value.int IntKind.i64 0, Value.int IntKind.i64 0] rfl rfl rfl rfl rfl ?_
      intro Wc9 gc10 egc10 rc11 zc12 bc8
      replace q := q.trans (bc8.mono q.size)
      have lc21 := rc11.lt
      refine LL.box [Value.int IntKind.i64 fi, Value.int IntKind.i64 fk, strV ft] rfl rfl rfl rfl rfl ?_
      intro Wc23 gc24 egc24 rc25 zc26 bc22
      replace rc11 := rc11.up bc22
      replace bc8 := bc8.trans (bc22.mono bc8.size)
      replace q := q.trans (bc22.mono q.size)
      have lc36 := rc25.lt
      have lc37 := rc11.lt
      refine LL.alloc ([Value.int IntKind.i64 0, Value.slice none 0 0, Value.int IntKind.i64 0, Value.bool false, Value.bool false, Value.int IntKind.i64 0, Value.int IntKind.i64 0, Value.string { data := { toList := [] } }, Value.int IntKind.i64 0, Value.int IntKind.i64 0]) rfl rfl rfl rfl rfl ?_
      intro Wc39 gc40 egc40 rc41 zc42 bc38
      replace rc25 := rc25.up bc38
      replace bc22 := bc22.trans (bc38.mono bc22.size)
      replace rc11 := rc11.up bc38
      replace bc8 := bc8.trans (bc38.mono bc8.size)
      replace q := q.trans (bc38.mono q.size)
      refine LL.nilS ?_
      refine CC.seq ?_
      refine CC.region ?_
      refine LL.val (R.field rfl rfl (I.fld rfl)) rfl rfl rfl ?_
      refine LL.val (R.load rfl rfl (I.ld1 rfl (RowL.cell rc11 rfl))) rfl rfl rfl ?_
      refine LL.val (R.index rfl rfl rfl (I.ixS1c rfl rfl (by omega))) rfl rfl rfl ?_
      (refine LL.val (R.load rfl rfl (I.ld1 rfl (c0 _ q))) rfl rfl rfl ?_)
      refine LL.val (R.assign rfl rfl) rfl rfl rfl ?_
      refine LL.nilS ?_
      refine CC.seq ?_
      refine CC.region ?_
      refine LL.val (R.field rfl rfl (I.fld rfl)) rfl rfl rfl ?_
      refine LL.val (R.load rfl rfl (I.ld1 rfl (RowL.cell rc11 rfl))) rfl rfl rfl ?_
      (refine LL.val (R.slice rfl rfl rfl rfl rfl (hsl _ _ _ _ rfl)) rfl rfl rfl ?_)
      refine LL.val (R.field rfl rfl (I.fld rfl)) rfl rfl rfl ?_
      refine LL.store rfl rfl rfl rfl rc11 (by exact Nat.le_of_ble_eq_true rfl) rfl rfl rfl rfl ?_
      intro Wc124 rc125 bc123 zc126
      have hlbc123 := rc11.lt
      replace rc125 : RowL Wc124 _ 33 [Value.int IntKind.i64 d, Value.slice a' (n - 1) c', Value.int IntKind.i64 ↑k, Value.bool false, Value.bool false, Value.int IntKind.i64 0, Value.int IntKind.i64 0, strV [], Value.int IntKind.i64 0, Value.int IntKind.i64 0] := rc125
      clear rc11
      replace rc41 := rc41.gr bc123 (by have := rc41.lt; omega)
      replace rc25 := rc25.gr bc123 (by have := rc25.lt; omega)
      replace bc8 := bc8.grown bc123 bc8.size (by rintro k ⟨⟩; omega)
      replace q := q.grown bc123 q.size (by rintro k ⟨⟩; omega)
      have rc11 := rc125
      clear rc125
      refine LL.nilS ?_
      refine CC.seq ?_
      refine CC.region ?_
      refine LL.val (R.field rfl rfl (I.fld rfl)) rfl rfl rfl ?_
      refine LL.val (R.load rfl rfl (I.ld1 rfl (RowL.cell rc11 rfl))) rfl rfl rfl ?_
      refine LL.val (R.len rfl rfl rfl rfl) rfl rfl rfl ?_
      refine LL.val (R.gtT rfl rfl rfl (by omega)) rfl rfl rfl ?_
      refine LL.val (R.assign rfl rfl) rfl rfl rfl ?_
      refine LL.nilS ?_
      refine CC.seq ?_
      refine CC.block ?_
      refine CC.seq ?_
      refine CC.region ?_
      refine LL.val (R.move rfl rfl) rfl rfl rfl ?_
      (refine LL.val (R.eqS (a := p) (b := [46, 46]) (c := false) rfl rfl rfl (by simp [hpp])) rfl rfl rfl ?_)
      refine LL.val (R.assign rfl rfl) rfl rfl rfl ?_
      refine LL.nilS ?_
      refine CC.no rfl ?_
      refine CC.seq ?_
      refine CC.region ?_
      refine LL.val (R.field rfl rfl (I.fld rfl)) rfl rfl rfl ?_
      refine LL.val (R.load rfl rfl (I.ld1 rfl (RowL.cell rc25 rfl))) rfl rfl rfl ?_
      refine LL.val (R.eqT rfl rfl rfl (by omega)) rfl rfl rfl ?_
      refine LL.val (R.move rfl rfl) rfl rfl rfl ?_
      refine LL.val (R.move rfl rfl) rfl rfl rfl ?_
      refine LL.val (R.move rfl rfl) rfl rfl rfl ?_
      refine LL.skip rfl rfl ?_
      refine LL.skip rfl rfl ?_
      refine LL.val (R.pick rfl rfl rfl) rfl rfl rfl ?_
      refine LL.val (R.pick rfl rfl rfl) rfl rfl rfl ?_
      refine LL.val (R.assign rfl rfl) rfl rfl rfl ?_
      refine LL.nilS ?_
      refine CC.yes rfl ?_
      refine CC.seq ?_
      refine CC.region ?_
      refine LL.val (R.load rfl rfl (I.ldNc (vs := [Value.int IntKind.i64 d, Value.slice a' (n - 1) c', Value.int IntKind.i64 ↑k, Value.bool false, Value.bool false, Value.int IntKind.i64 0, Value.int IntKind.i64 0, strV [], Value.int IntKind.i64 0, Value.int IntKind.i64 0]) (RowL.cells rc11 rfl) (by rfl) (by rfl))) rfl rfl rfl ?_
      refine LL.val (R.field rfl rfl (I.fld rfl)) rfl rfl rfl ?_
      refine LL.val (R.load rfl rfl (I.ld1 rfl (RowL.cell rc25 rfl))) rfl rfl rfl ?_
      have lc321 := rc41.lt
      have lc322 := rc25.lt
      have lc323 := rc11.lt
      (refine LL.call (R.call rfl rfl rfl) rfl rfl rfl (rlink_any d _ _ _ k false r ft _ bb (hF2 _ q) (by omega) ht' hk (by omega)) ?_; rintro e Wc320 ⟨vo, bo1, rfl, ho1, hbo1, bc317⟩; refine ⟨_, rfl, ?_⟩; obtain ⟨d1, a1, n1, c1, k1, f1, dn1, x1, rfl⟩ := ho1.form)
      have zbc317 := bc317.size
      replace rc41 := rc41.up bc317
      replace rc25 := rc25.up bc317
      replace bc8 := bc8.trans (bc317.mono bc8.size)
      replace q := q.trans (bc317.mono q.size)
      replace rc11 := rc11.up bc317
      refine LL.storeN (vs := [Value.int IntKind.i64 d1, Value.slice a1 n1 c1, Value.int IntKind.i64 k1, Value.bool f1, Value.bool dn1, Value.int IntKind.i64 x1.1, Value.int IntKind.i64 x1.2.1, strV x1.2.2.1, Value.int IntKind.i64 x1.2.2.2.1, Value.int IntKind.i64 x1.2.2.2.2]) rfl rfl rfl rfl rc41 (by exact Nat.le_of_ble_eq_true rfl) (ones_of rfl) rfl rfl ?_
      intro Wc338 rc339 bc337 zc340
      have hlbc337 := rc41.lt
      replace rc339 : RowL Wc338 _ 33 [Value.int IntKind.i64 d1, Value.slice a1 n1 c1, Value.int IntKind.i64 k1, Value.bool f1, Value.bool dn1, Value.int IntKind.i64 x1.1, Value.int IntKind.i64 x1.2.1, strV x1.2.2.1, Value.int IntKind.i64 x1.2.2.2.1, Value.int IntKind.i64 x1.2.2.2.2] := rc339
      clear rc41
      replace ho1 := ho1.gr bc337 (by omega)
      replace rc25 := rc25.gr bc337 (by have := rc25.lt; omega)
      replace bc8 := bc8.grown bc337 bc8.size (by rintro k ⟨⟩; omega)
      replace q := q.grown bc337 q.size (by rintro k ⟨⟩; omega)
      replace rc11 := rc11.gr bc337 (by have := rc11.lt; omega)
      have rc41 := rc339
      clear rc339
      refine LL.nilS ?_
      refine CC.ret ?_
      refine EE.inR ?_
      refine EE.thenR ?_
      refine EE.retC rfl rfl (lvNc (RowL.cells0 (by assumption)) (by rfl) (by rfl)) ?_
      exact ⟨_, bo1, rfl, (by rw [← hS]; exact ho1), by omega, q⟩
  rw [if_neg hf3] at hS
  have hf3' : fk = 3 → ¬(1 < n) ∧ fol = false := fun h3 => by
    have h := not_and.1 hf3 h3
    rw [not_or] at h
    exact ⟨fun h1 => h.1 (hr0.2 h1), by cases fol; rfl; exact absurd rfl h.2⟩
  by_cases hf2 : fk = 2 ∧ r ≠ []
  · rw [if_pos hf2] at hS
    have hn1 := hr0.1 hf2.2
    have h2 := hf2.1
    clear hf3' hf3 hf2
    refine X.fn Tryd.func17 rfl (n := 69) rfl rfl ?_
    refine CC.seq ?_
    refine CC.region ?_
    refine LL.box [Value.int IntKind.i64 d, Value.slice (some { block := bb, off := off }) n c, Value.int IntKind.i64 ↑k, Value.bool fol, Value.bool false, Value.int IntKind.i64 0, Value.int IntKind.i64 0, strV [], Value.int IntKind.i64 0, Value.int IntKind.i64 0] rfl rfl rfl rfl rfl ?_
    intro Wd9 gd10 egd10 rd11 zd12 bd8
    replace q := q.trans (bd8.mono q.size)
    have ld21 := rd11.lt
    refine LL.box [Value.int IntKind.i64 fi, Value.int IntKind.i64 fk, strV ft] rfl rfl rfl rfl rfl ?_
    intro Wd23 gd24 egd24 rd25 zd26 bd22
    replace rd11 := rd11.up bd22
    replace bd8 := bd8.trans (bd22.mono bd8.size)
    replace q := q.trans (bd22.mono q.size)
    have ld36 := rd25.lt
    have ld37 := rd11.lt
    refine LL.alloc ([Value.int IntKind.i64 0, Value.slice none 0 0, Value.int IntKind.i64 0, Value.bool false, Value.bool false, Value.int IntKind.i64 0, Value.int IntKind.i64 0, Value.string { data := { toList := [] } }, Value.int IntKind.i64 0, Value.int IntKind.i64 0]) rfl rfl rfl rfl rfl ?_
    intro Wd39 gd40 egd40 rd41 zd42 bd38
    replace rd25 := rd25.up bd38
    replace bd22 := bd22.trans (bd38.mono bd22.size)
    replace rd11 := rd11.up bd38
    replace bd8 := bd8.trans (bd38.mono bd8.size)
    replace q := q.trans (bd38.mono q.size)
    refine LL.nilS ?_
    refine CC.seq ?_
    refine CC.region ?_
    refine LL.val (R.field rfl rfl (I.fld rfl)) rfl rfl rfl ?_
    refine LL.val (R.load rfl rfl (I.ld1 rfl (RowL.cell rd11 rfl))) rfl rfl rfl ?_
    refine LL.val (R.index rfl rfl rfl (I.ixS1c rfl rfl (by omega))) rfl rfl rfl ?_
    (refine LL.val (R.load rfl rfl (I.ld1 rfl (c0 _ q))) rfl rfl rfl ?_)
    refine LL.val (R.assign rfl rfl) rfl rfl rfl ?_
    refine LL.nilS ?_
    refine CC.seq ?_
    refine CC.region ?_
    refine LL.val (R.field rfl rfl (I.fld rfl)) rfl rfl rfl ?_
    refine LL.val (R.load rfl rfl (I.ld1 rfl (RowL.cell rd11 rfl))) rfl rfl rfl ?_
    (refine LL.val (R.slice rfl rfl rfl rfl rfl (hsl _ _ _ _ rfl)) rfl rfl rfl ?_)
    refine LL.val (R.field rfl rfl (I.fld rfl)) rfl rfl rfl ?_
    refine LL.store rfl rfl rfl rfl rd11 (by exact Nat.le_of_ble_eq_true rfl) rfl rfl rfl rfl ?_
    intro Wd124 rd125 bd123 zd126
    have hlbd123 := rd11.lt
    replace rd125 : RowL Wd124 _ 33 [Value.int IntKind.i64 d, Value.slice a' (n - 1) c', Value.int IntKind.i64 ↑k, Value.bool fol, Value.bool false, Value.int IntKind.i64 0, Value.int IntKind.i64 0, strV [], Value.int IntKind.i64 0, Value.int IntKind.i64 0] := rd125
    clear rd11
    replace rd41 := rd41.gr bd123 (by have := rd41.lt; omega)
    replace rd25 := rd25.gr bd123 (by have := rd25.lt; omega)
    replace bd8 := bd8.grown bd123 bd8.size (by rintro k ⟨⟩; omega)
    replace q := q.grown bd123 q.size (by rintro k ⟨⟩; omega)
    have rd11 := rd125
    clear rd125
    refine LL.nilS ?_
    refine CC.seq ?_
    refine CC.region ?_
    refine LL.val (R.field rfl rfl (I.fld rfl)) rfl rfl rfl ?_
    refine LL.val (R.load rfl rfl (I.ld1 rfl (RowL.cell rd11 rfl))) rfl rfl rfl ?_
    refine LL.val (R.len rfl rfl rfl rfl) rfl rfl rfl ?_
    refine LL.val (R.gtT rfl rfl rfl (by omega)) rfl rfl rfl ?_
    refine LL.val (R.assign rfl rfl) rfl rfl rfl ?_
    refine LL.nilS ?_
    refine CC.seq ?_
    refine CC.block ?_
    refine CC.seq ?_
    refine CC.region ?_
    refine LL.val (R.move rfl rfl) rfl rfl rfl ?_
    (refine LL.val (R.eqS (a := p) (b := [46, 46]) (c := false) rfl rfl rfl (by simp [hpp])) rfl rfl rfl ?_)
    refine LL.val (R.assign rfl rfl) rfl rfl rfl ?_
    refine LL.nilS ?_
    refine CC.no rfl ?_
    refine CC.seq ?_
    refine CC.region ?_
    refine LL.val (R.field rfl rfl (I.fld rfl)) rfl rfl rfl ?_
    refine LL.val (R.load rfl rfl (I.ld1 rfl (RowL.cell rd25 rfl))) rfl rfl rfl ?_
    refine LL.val (R.eqF rfl rfl rfl (by omega)) rfl rfl rfl ?_
    refine LL.val (R.move rfl rfl) rfl rfl rfl ?_
    refine LL.skip rfl rfl ?_
    refine LL.skip rfl rfl ?_
    refine LL.skip rfl rfl ?_
    refine LL.skip rfl rfl ?_
    refine LL.skip rfl rfl ?_
    refine LL.val (R.pick rfl rfl rfl) rfl rfl rfl ?_
    refine LL.val (R.assign rfl rfl) rfl rfl rfl ?_
    refine LL.nilS ?_
    refine CC.no rfl ?_
    refine CC.seq ?_
    refine CC.region ?_
    refine LL.val (R.field rfl rfl (I.fld rfl)) rfl rfl rfl ?_
    refine LL.val (R.load rfl rfl (I.ld1 rfl (RowL.cell rd25 rfl))) rfl rfl rfl ?_
    refine LL.val (R.eqT rfl rfl rfl (by omega)) rfl rfl rfl ?_
    refine LL.val (R.move rfl rfl) rfl rfl rfl ?_
    refine LL.val (R.move rfl rfl) rfl rfl rfl ?_
    refine LL.val (R.pick rfl rfl rfl) rfl rfl rfl ?_
    refine LL.val (R.assign rfl rfl) rfl rfl rfl ?_
    refine LL.nilS ?_
    refine CC.yes rfl ?_
    refine CC.seq ?_
    refine CC.region ?_
    refine LL.val (R.field rfl rfl (I.fld rfl)) rfl rfl rfl ?_
    refine LL.val (R.load rfl rfl (I.ld1 rfl (RowL.cell rd25 rfl))) rfl rfl rfl ?_
    refine LL.val (R.field rfl rfl (I.fld rfl)) rfl rfl rfl ?_
    refine LL.store rfl rfl rfl rfl rd11 (by exact Nat.le_of_ble_eq_true rfl) rfl rfl rfl rfl ?_
    intro Wd368 rd369 bd367 zd370
    have hlbd367 := rd11.lt
    replace rd369 : RowL Wd368 _ 33 [Value.int IntKind.i64 fi, Value.slice a' (n - 1) c', Value.int IntKind.i64 ↑k, Value.bool fol, Value.bool false, Value.int IntKind.i64 0, Value.int IntKind.i64 0, strV [], Value.int IntKind.i64 0, Value.int IntKind.i64 0] := rd369
    clear rd11
    replace rd41 := rd41.gr bd367 (by have := rd41.lt; omega)
    replace rd25 := rd25.gr bd367 (by have := rd25.lt; omega)
    replace bd8 := bd8.grown bd367 bd8.size (by rintro k ⟨⟩; omega)
    replace q := q.grown bd367 q.size (by rintro k ⟨⟩; omega)
    have rd11 := rd369
    clear rd369
    refine LL.nilS ?_
    refine CC.seq ?_
    refine CC.region ?_
    refine LL.val (R.load rfl rfl (I.ldNc (vs := [Value.int IntKind.i64 fi, Value.slice a' (n - 1) c', Value.int IntKind.i64 ↑k, Value.bool fol, Value.bool false, Value.int IntKind.i64 0, Value.int IntKind.i64 0, strV [], Value.int IntKind.i64 0, Value.int IntKind.i64 0]) (RowL.cells rd11 rfl) (by rfl) (by rfl))) rfl rfl rfl ?_
    have ld385 := rd41.lt
    have ld386 := rd25.lt
    have ld387 := rd11.lt
    (refine LL.call (R.call rfl rfl rfl) rfl rfl rfl (ron_any fi _ _ _ k fol r _ bb (hF2 _ q) (by omega) (by omega)) ?_; rintro e Wd384 ⟨vo, bo1, rfl, ho1, hbo1, bd381⟩; refine ⟨_, rfl, ?_⟩; obtain ⟨d1, a1, n1, c1, k1, f1, dn1, x1, rfl⟩ := ho1.form)
    have zbd381 := bd381.size
    replace rd41 := rd41.up bd381
    replace rd25 := rd25.up bd381
    replace bd8 := bd8.trans (bd381.mono bd8.size)
    replace q := q.trans (bd381.mono q.size)
    replace rd11 := rd11.up bd381
    refine LL.storeN (vs := [Value.int IntKind.i64 d1, Value.slice a1 n1 c1, Value.int IntKind.i64 k1, Value.bool f1, Value.bool dn1, Value.int IntKind.i64 x1.1, Value.int IntKind.i64 x1.2.1, strV x1.2.2.1, Value.int IntKind.i64 x1.2.2.2.1, Value.int IntKind.i64 x1.2.2.2.2]) rfl rfl rfl rfl rd41 (by exact Nat.le_of_ble_eq_true rfl) (ones_of rfl) rfl rfl ?_
    intro Wd402 rd403 bd401 zd404
    have hlbd401 := rd41.lt
    replace rd403 : RowL Wd402 _ 33 [Value.int IntKind.i64 d1, Value.slice a1 n1 c1, Value.int IntKind.i64 k1, Value.bool f1, Value.bool dn1, Value.int IntKind.i64 x1.1, Value.int IntKind.i64 x1.2.1, strV x1.2.2.1, Value.int IntKind.i64 x1.2.2.2.1, Value.int IntKind.i64 x1.2.2.2.2] := rd403
    clear rd41
    replace ho1 := ho1.gr bd401 (by omega)
    replace rd25 := rd25.gr bd401 (by have := rd25.lt; omega)
    replace bd8 := bd8.grown bd401 bd8.size (by rintro k ⟨⟩; omega)
    replace q := q.grown bd401 q.size (by rintro k ⟨⟩; omega)
    replace rd11 := rd11.gr bd401 (by have := rd11.lt; omega)
    have rd41 := rd403
    clear rd403
    refine LL.nilS ?_
    refine CC.ret ?_
    refine EE.inR ?_
    refine EE.thenR ?_
    refine EE.retC rfl rfl (lvNc (RowL.cells0 (by assumption)) (by rfl) (by rfl)) ?_
    exact ⟨_, bo1, rfl, (by rw [← hS]; exact ho1), by omega, q⟩
  rw [if_neg hf2] at hS
  by_cases hr : r ≠ []
  · rw [if_pos hr] at hS
    have hn1 := hr0.1 hr
    have hk3 : fk ≠ 3 := fun h => (hf3' h).1 hn1
    have hk2 : fk ≠ 2 := fun h => hf2 ⟨h, hr⟩
    clear hf3' hf3 hf2
    refine X.fn Tryd.func17 rfl (n := 69) rfl rfl ?_
    refine CC.seq ?_
    refine CC.region ?_
    refine LL.box [Value.int IntKind.i64 d, Value.slice (some { block := bb, off := off }) n c, Value.int IntKind.i64 ↑k, Value.bool fol, Value.bool false, Value.int IntKind.i64 0, Value.int IntKind.i64 0, strV [], Value.int IntKind.i64 0, Value.int IntKind.i64 0] rfl rfl rfl rfl rfl ?_
    intro We9 ge10 ege10 re11 ze12 be8
    replace q := q.trans (be8.mono q.size)
    have le21 := re11.lt
    refine LL.box [Value.int IntKind.i64 fi, Value.int IntKind.i64 fk, strV ft] rfl rfl rfl rfl rfl ?_
    intro We23 ge24 ege24 re25 ze26 be22
    replace re11 := re11.up be22
    replace be8 := be8.trans (be22.mono be8.size)
    replace q := q.trans (be22.mono q.size)
    have le36 := re25.lt
    have le37 := re11.lt
    refine LL.alloc ([Value.int IntKind.i64 0, Value.slice none 0 0, Value.int IntKind.i64 0, Value.bool false, Value.bool false, Value.int IntKind.i64 0, Value.int IntKind.i64 0, Value.string { data := { toList := [] } }, Value.int IntKind.i64 0, Value.int IntKind.i64 0]) rfl rfl rfl rfl rfl ?_
    intro We39 ge40 ege40 re41 ze42 be38
    replace re25 := re25.up be38
    replace be22 := be22.trans (be38.mono be22.size)
    replace re11 := re11.up be38
    replace be8 := be8.trans (be38.mono be8.size)
    replace q := q.trans (be38.mono q.size)
    refine LL.nilS ?_
    refine CC.seq ?_
    refine CC.region ?_
    refine LL.val (R.field rfl rfl (I.fld rfl)) rfl rfl rfl ?_
    refine LL.val (R.load rfl rfl (I.ld1 rfl (RowL.cell re11 rfl))) rfl rfl rfl ?_
    refine LL.val (R.index rfl rfl rfl (I.ixS1c rfl rfl (by omega))) rfl rfl rfl ?_
    (refine LL.val (R.load rfl rfl (I.ld1 rfl (c0 _ q))) rfl rfl rfl ?_)
    refine LL.val (R.assign rfl rfl) rfl rfl rfl ?_
    refine LL.nilS ?_
    refine CC.seq ?_
    refine CC.region ?_
    refine LL.val (R.field rfl rfl (I.fld rfl)) rfl rfl rfl ?_
    refine LL.val (R.load rfl rfl (I.ld1 rfl (RowL.cell re11 rfl))) rfl rfl rfl ?_
    (refine LL.val (R.slice rfl rfl rfl rfl rfl (hsl _ _ _ _ rfl)) rfl rfl rfl ?_)
    refine LL.val (R.field rfl rfl (I.fld rfl)) rfl rfl rfl ?_
    refine LL.store rfl rfl rfl rfl re11 (by exact Nat.le_of_ble_eq_true rfl) rfl rfl rfl rfl ?_
    intro We124 re125 be123 ze126
    have hlbe123 := re11.lt
    replace re125 : RowL We124 _ 33 [Value.int IntKind.i64 d, Value.slice a' (n - 1) c', Value.int IntKind.i64 ↑k, Value.bool fol, Value.bool false, Value.int IntKind.i64 0, Value.int IntKind.i64 0, strV [], Value.int IntKind.i64 0, Value.int IntKind.i64 0] := re125
    clear re11
    replace re41 := re41.gr be123 (by have := re41.lt; omega)
    replace re25 := re25.gr be123 (by have := re25.lt; omega)
    replace be8 := be8.grown be123 be8.size (by rintro k ⟨⟩; omega)
    replace q := q.grown be123 q.size (by rintro k ⟨⟩; omega)
    have re11 := re125
    clear re125
    refine LL.nilS ?_
    refine CC.seq ?_
    refine CC.region ?_
    refine LL.val (R.field rfl rfl (I.fld rfl)) rfl rfl rfl ?_
    refine LL.val (R.load rfl rfl (I.ld1 rfl (RowL.cell re11 rfl))) rfl rfl rfl ?_
    refine LL.val (R.len rfl rfl rfl rfl) rfl rfl rfl ?_
    refine LL.val (R.gtT rfl rfl rfl (by omega)) rfl rfl rfl ?_
    refine LL.val (R.assign rfl rfl) rfl rfl rfl ?_
    refine LL.nilS ?_
    refine CC.seq ?_
    refine CC.block ?_
    refine CC.seq ?_
    refine CC.region ?_
    refine LL.val (R.move rfl rfl) rfl rfl rfl ?_
    (refine LL.val (R.eqS (a := p) (b := [46, 46]) (c := false) rfl rfl rfl (by simp [hpp])) rfl rfl rfl ?_)
    refine LL.val (R.assign rfl rfl) rfl rfl rfl ?_
    refine LL.nilS ?_
    refine CC.no rfl ?_
    refine CC.seq ?_
    refine CC.region ?_
    refine LL.val (R.field rfl rfl (I.fld rfl)) rfl rfl rfl ?_
    refine LL.val (R.load rfl rfl (I.ld1 rfl (RowL.cell re25 rfl))) rfl rfl rfl ?_
    refine LL.val (R.eqF rfl rfl rfl (by omega)) rfl rfl rfl ?_
    refine LL.val (R.move rfl rfl) rfl rfl rfl ?_
    refine LL.skip rfl rfl ?_
    refine LL.skip rfl rfl ?_
    refine LL.skip rfl rfl ?_
    refine LL.skip rfl rfl ?_
    refine LL.skip rfl rfl ?_
    refine LL.val (R.pick rfl rfl rfl) rfl rfl rfl ?_
    refine LL.val (R.assign rfl rfl) rfl rfl rfl ?_
    refine LL.nilS ?_
    refine CC.no rfl ?_
    refine CC.seq ?_
    refine CC.region ?_
    refine LL.val (R.field rfl rfl (I.fld rfl)) rfl rfl rfl ?_
    refine LL.val (R.load rfl rfl (I.ld1 rfl (RowL.cell re25 rfl))) rfl rfl rfl ?_
    refine LL.val (R.eqF rfl rfl rfl (by omega)) rfl rfl rfl ?_
    refine LL.val (R.move rfl rfl) rfl rfl rfl ?_
    refine LL.skip rfl rfl ?_
    refine LL.val (R.pick rfl rfl rfl) rfl rfl rfl ?_
    refine LL.val (R.assign rfl rfl) rfl rfl rfl ?_
    refine LL.nilS ?_
    refine CC.no rfl ?_
    refine CC.seq ?_
    refine CC.region ?_
    refine LL.val (R.move rfl rfl) rfl rfl rfl ?_
    refine LL.val (R.assign rfl rfl) rfl rfl rfl ?_
    refine LL.nilS ?_
    refine CC.yes rfl ?_
    refine CC.seq ?_
    refine CC.region ?_
    refine LL.val (R.load rfl rfl (I.ldNc (vs := [Value.int IntKind.i64 d, Value.slice a' (n - 1) c', Value.int IntKind.i64 ↑k, Value.bool fol, Value.bool false, Value.int IntKind.i64 0, Value.int IntKind.i64 0, strV [], Value.int IntKind.i64 0, Value.int IntKind.i64 0]) (RowL.cells re11 rfl) (by rfl) (by rfl))) rfl rfl rfl ?_
    refine LL.val (R.buildV rfl rfl (v := .agg #[Value.int IntKind.i64 271, Value.int IntKind.i64 0, Value.string { data := #[] }, Value.int IntKind.i64 0, Value.int IntKind.i64 0]) (fun _ => by kernel_rfl)) rfl rfl rfl ?_
    have le361 := re41.lt
    have le362 := re25.lt
    have le363 := re11.lt
    (refine LL.call (R.call rfl rfl rfl) rfl rfl rfl (rdone_any d _ _ _ _ _ _ wdZ (271, 0, [], 0, 0) _) ?_; rintro e We360 ⟨rfl, be357⟩; refine ⟨_, rfl, ?_⟩)
    have zbe357 := be357.size
    replace re41 := re41.up be357
    replace re25 := re25.up be357
    replace be8 := be8.trans (be357.mono be8.size)
    replace q := q.trans (be357.mono q.size)
    replace re11 := re11.up be357
    refine LL.storeN (vs := [Value.int IntKind.i64 d, Value.slice none 0 0, Value.int IntKind.i64 ↑k, Value.bool fol, Value.bool true, Value.int IntKind.i64 271, Value.int IntKind.i64 0, strV [], Value.int IntKind.i64 0, Value.int IntKind.i64 0]) rfl rfl rfl rfl re41 (by exact Nat.le_of_ble_eq_true rfl) (ones_of rfl) rfl rfl ?_
    intro We378 re379 be377 ze380
    have hlbe377 := re41.lt
    replace re379 : RowL We378 _ 33 [Value.int IntKind.i64 d, Value.slice none 0 0, Value.int IntKind.i64 ↑k, Value.bool fol, Value.bool true, Value.int IntKind.i64 271, Value.int IntKind.i64 0, strV [], Value.int IntKind.i64 0, Value.int IntKind.i64 0] := re379
    clear re41
    replace re25 := re25.gr be377 (by have := re25.lt; omega)
    replace be8 := be8.grown be377 be8.size (by rintro k ⟨⟩; omega)
    replace q := q.grown be377 q.size (by rintro k ⟨⟩; omega)
    replace re11 := re11.gr be377 (by have := re11.lt; omega)
    have re41 := re379
    clear re379
    refine LL.nilS ?_
    refine CC.ret ?_
    refine EE.inR ?_
    refine EE.thenR ?_
    refine EE.retC rfl rfl (lvNc (RowL.cells0 (by assumption)) (by rfl) (by rfl)) ?_
    exact ⟨_, 0, rfl, (by rw [← hS]; exact RwR.fin (271, 0, [], 0, 0) _ _ _ rfl rfl), by omega, q⟩
  rw [if_neg hr] at hS
  have hn1 : ¬(1 < n) := fun h => hr (hr0.2 h)
  clear hf2
  by_cases h3 : fk = 3
  · obtain ⟨_, rfl⟩ := hf3' h3
    clear hf3' hf3
    refine X.fn Tryd.func17 rfl (n := 69) rfl rfl ?_
    refine CC.seq ?_
    refine CC.region ?_
    refine LL.box [Value.int IntKind.i64 d, Value.slice (some { block := bb, off := off }) n c, Value.int IntKind.i64 ↑k, Value.bool false, Value.bool false, Value.int IntKind.i64 0, Value.int IntKind.i64 0, strV [], Value.int IntKind.i64 0, Value.int IntKind.i64 0] rfl rfl rfl rfl rfl ?_
    intro Wf9 gf10 egf10 rf11 zf12 bf8
    replace q := q.trans (bf8.mono q.size)
    have lf21 := rf11.lt
    refine LL.box [Value.int IntKind.i64 fi, Value.int IntKind.i64 fk, strV ft] rfl rfl rfl rfl rfl ?_
    intro Wf23 gf24 egf24 rf25 zf26 bf22
    replace rf11 := rf11.up bf22
    replace bf8 := bf8.trans (bf22.mono bf8.size)
    replace q := q.trans (bf22.mono q.size)
    have lf36 := rf25.lt
    have lf37 := rf11.lt
    refine LL.alloc ([Value.int IntKind.i64 0, Value.slice none 0 0, Value.int IntKind.i64 0, Value.bool false, Value.bool false, Value.int IntKind.i64 0, Value.int IntKind.i64 0, Value.string { data := { toList := [] } }, Value.int IntKind.i64 0, Value.int IntKind.i64 0]) rfl rfl rfl rfl rfl ?_
    intro Wf39 gf40 egf40 rf41 zf42 bf38
    replace rf25 := rf25.up bf38
    replace bf22 := bf22.trans (bf38.mono bf22.size)
    replace rf11 := rf11.up bf38
    replace bf8 := bf8.trans (bf38.mono bf8.size)
    replace q := q.trans (bf38.mono q.size)
    refine LL.nilS ?_
    refine CC.seq ?_
    refine CC.region ?_
    refine LL.val (R.field rfl rfl (I.fld rfl)) rfl rfl rfl ?_
    refine LL.val (R.load rfl rfl (I.ld1 rfl (RowL.cell rf11 rfl))) rfl rfl rfl ?_
    refine LL.val (R.index rfl rfl rfl (I.ixS1c rfl rfl (by omega))) rfl rfl rfl ?_
    (refine LL.val (R.load rfl rfl (I.ld1 rfl (c0 _ q))) rfl rfl rfl ?_)
    refine LL.val (R.assign rfl rfl) rfl rfl rfl ?_
    refine LL.nilS ?_
    refine CC.seq ?_
    refine CC.region ?_
    refine LL.val (R.field rfl rfl (I.fld rfl)) rfl rfl rfl ?_
    refine LL.val (R.load rfl rfl (I.ld1 rfl (RowL.cell rf11 rfl))) rfl rfl rfl ?_
    (refine LL.val (R.slice rfl rfl rfl rfl rfl (hsl _ _ _ _ rfl)) rfl rfl rfl ?_)
    refine LL.val (R.field rfl rfl (I.fld rfl)) rfl rfl rfl ?_
    refine LL.store rfl rfl rfl rfl rf11 (by exact Nat.le_of_ble_eq_true rfl) rfl rfl rfl rfl ?_
    intro Wf124 rf125 bf123 zf126
    have hlbf123 := rf11.lt
    replace rf125 : RowL Wf124 _ 33 [Value.int IntKind.i64 d, Value.slice a' (n - 1) c', Value.int IntKind.i64 ↑k, Value.bool false, Value.bool false, Value.int IntKind.i64 0, Value.int IntKind.i64 0, strV [], Value.int IntKind.i64 0, Value.int IntKind.i64 0] := rf125
    clear rf11
    replace rf41 := rf41.gr bf123 (by have := rf41.lt; omega)
    replace rf25 := rf25.gr bf123 (by have := rf25.lt; omega)
    replace bf8 := bf8.grown bf123 bf8.size (by rintro k ⟨⟩; omega)
    replace q := q.grown bf123 q.size (by rintro k ⟨⟩; omega)
    have rf11 := rf125
    clear rf125
    refine LL.nilS ?_
    refine CC.seq ?_
    refine CC.region ?_
    refine LL.val (R.field rfl rfl (I.fld rfl)) rfl rfl rfl ?_
    refine LL.val (R.load rfl rfl (I.ld1 rfl (RowL.cell rf11 rfl))) rfl rfl rfl ?_
    refine LL.val (R.len rfl rfl rfl rfl) rfl rfl rfl ?_
    refine LL.val (R.gtF rfl rfl rfl (by omega)) rfl rfl rfl ?_
    refine LL.val (R.assign rfl rfl) rfl rfl rfl ?_
    refine LL.nilS ?_
    refine CC.seq ?_
    refine CC.block ?_
    refine CC.seq ?_
    refine CC.region ?_
    refine LL.val (R.move rfl rfl) rfl rfl rfl ?_
    (refine LL.val (R.eqS (a := p) (b := [46, 46]) (c := false) rfl rfl rfl (by simp [hpp])) rfl rfl rfl ?_)
    refine LL.val (R.assign rfl rfl) rfl rfl rfl ?_
    refine LL.nilS ?_
    refine CC.no rfl ?_
    refine CC.seq ?_
    refine CC.region ?_
    refine LL.val (R.field rfl rfl (I.fld rfl)) rfl rfl rfl ?_
    refine LL.val (R.load rfl rfl (I.ld1 rfl (RowL.cell rf25 rfl))) rfl rfl rfl ?_
    refine LL.val (R.eqT rfl rfl rfl (by omega)) rfl rfl rfl ?_
    refine LL.val (R.move rfl rfl) rfl rfl rfl ?_
    refine LL.val (R.move rfl rfl) rfl rfl rfl ?_
    refine LL.val (R.move rfl rfl) rfl rfl rfl ?_
    refine LL.val (R.field rfl rfl (I.fld rfl)) rfl rfl rfl ?_
    refine LL.val (R.load rfl rfl (I.ld1 rfl (RowL.cell rf11 rfl))) rfl rfl rfl ?_
    refine LL.val (R.pick rfl rfl rfl) rfl rfl rfl ?_
    refine LL.val (R.pick rfl rfl rfl) rfl rfl rfl ?_
    refine LL.val (R.assign rfl rfl) rfl rfl rfl ?_
    refine LL.nilS ?_
    refine CC.no rfl ?_
    refine CC.seq ?_
    refine CC.region ?_
    refine LL.val (R.field rfl rfl (I.fld rfl)) rfl rfl rfl ?_
    refine LL.val (R.load rfl rfl (I.ld1 rfl (RowL.cell rf25 rfl))) rfl rfl rfl ?_
    refine LL.val (R.eqF rfl rfl rfl (by omega)) rfl rfl rfl ?_
    refine LL.val (R.move rfl rfl) rfl rfl rfl ?_
    refine LL.skip rfl rfl ?_
    refine LL.val (R.pick rfl rfl rfl) rfl rfl rfl ?_
    refine LL.val (R.assign rfl rfl) rfl rfl rfl ?_
    refine LL.nilS ?_
    refine CC.no rfl ?_
    refine CC.seq ?_
    refine CC.region ?_
    refine LL.val (R.move rfl rfl) rfl rfl rfl ?_
    refine LL.val (R.assign rfl rfl) rfl rfl rfl ?_
    refine LL.nilS ?_
    refine CC.no rfl ?_
    refine CC.skip ?_
    refine EE.inN ?_
    refine EE.thenN ?_
    refine CC.seq ?_
    refine CC.region ?_
    refine LL.val (R.load rfl rfl (I.ldNc (vs := [Value.int IntKind.i64 d, Value.slice a' (n - 1) c', Value.int IntKind.i64 ↑k, Value.bool false, Value.bool false, Value.int IntKind.i64 0, Value.int IntKind.i64 0, strV [], Value.int IntKind.i64 0, Value.int IntKind.i64 0]) (RowL.cells rf11 rfl) (by rfl) (by rfl))) rfl rfl rfl ?_
    refine LL.val (R.field rfl rfl (I.fld rfl)) rfl rfl rfl ?_
    refine LL.val (R.load rfl rfl (I.ld1 rfl (RowL.cell rf11 rfl))) rfl rfl rfl ?_
    refine LL.val (R.move rfl rfl) rfl rfl rfl ?_
    refine LL.val (R.field rfl rfl (I.fld rfl)) rfl rfl rfl ?_
    refine LL.val (R.load rfl rfl (I.ld1 rfl (RowL.cell rf25 rfl))) rfl rfl rfl ?_
    refine LL.val (R.field rfl rfl (I.fld rfl)) rfl rfl rfl ?_
    refine LL.val (R.load rfl rfl (I.ld1 rfl (RowL.cell rf25 rfl))) rfl rfl rfl ?_
    refine LL.val (R.buildV rfl rfl (v := .agg #[Value.int IntKind.i64 0, Value.int IntKind.i64 d, Value.string { data := List.toArray p }, Value.int IntKind.i64 fi, Value.int IntKind.i64 fk]) (fun _ => by kernel_rfl)) rfl rfl rfl ?_
    have lf481 := rf41.lt
    have lf482 := rf25.lt
    have lf483 := rf11.lt
    (refine LL.call (R.call rfl rfl rfl) rfl rfl rfl (rdone_any d _ _ _ _ _ _ wdZ (0, d, p, fi, fk) _) ?_; rintro e Wf480 ⟨rfl, bf477⟩; refine ⟨_, rfl, ?_⟩)
    have zbf477 := bf477.size
    replace rf41 := rf41.up bf477
    replace rf25 := rf25.up bf477
    replace bf8 := bf8.trans (bf477.mono bf8.size)
    replace q := q.trans (bf477.mono q.size)
    replace rf11 := rf11.up bf477
    refine LL.storeN (vs := [Value.int IntKind.i64 d, Value.slice none 0 0, Value.int IntKind.i64 ↑k, Value.bool false, Value.bool true, Value.int IntKind.i64 0, Value.int IntKind.i64 d, strV p, Value.int IntKind.i64 fi, Value.int IntKind.i64 fk]) rfl rfl rfl rfl rf41 (by exact Nat.le_of_ble_eq_true rfl) (ones_of rfl) rfl rfl ?_
    intro Wf498 rf499 bf497 zf500
    have hlbf497 := rf41.lt
    replace rf499 : RowL Wf498 _ 33 [Value.int IntKind.i64 d, Value.slice none 0 0, Value.int IntKind.i64 ↑k, Value.bool false, Value.bool true, Value.int IntKind.i64 0, Value.int IntKind.i64 d, strV p, Value.int IntKind.i64 fi, Value.int IntKind.i64 fk] := rf499
    clear rf41
    replace rf25 := rf25.gr bf497 (by have := rf25.lt; omega)
    replace bf8 := bf8.grown bf497 bf8.size (by rintro k ⟨⟩; omega)
    replace q := q.grown bf497 q.size (by rintro k ⟨⟩; omega)
    replace rf11 := rf11.gr bf497 (by have := rf11.lt; omega)
    have rf41 := rf499
    clear rf499
    refine LL.nilS ?_
    refine CC.ret ?_
    refine EE.retC rfl rfl (lvNc (RowL.cells0 (by assumption)) (by rfl) (by rfl)) ?_
    exact ⟨_, 0, rfl, (by rw [← hS]; exact RwR.fin (0, d, p, fi, fk) _ _ _ rfl rfl), by omega, q⟩
  · clear hf3' hf3
    refine X.fn Tryd.func17 rfl (n := 69) rfl rfl ?_
    refine CC.seq ?_
    refine CC.region ?_
    refine LL.box [Value.int IntKind.i64 d, Value.slice (some { block := bb, off := off }) n c, Value.int IntKind.i64 ↑k, Value.bool fol, Value.bool false, Value.int IntKind.i64 0, Value.int IntKind.i64 0, strV [], Value.int IntKind.i64 0, Value.int IntKind.i64 0] rfl rfl rfl rfl rfl ?_
    intro Wg9 gg10 egg10 rg11 zg12 bg8
    replace q := q.trans (bg8.mono q.size)
    have lg21 := rg11.lt
    refine LL.box [Value.int IntKind.i64 fi, Value.int IntKind.i64 fk, strV ft] rfl rfl rfl rfl rfl ?_
    intro Wg23 gg24 egg24 rg25 zg26 bg22
    replace rg11 := rg11.up bg22
    replace bg8 := bg8.trans (bg22.mono bg8.size)
    replace q := q.trans (bg22.mono q.size)
    have lg36 := rg25.lt
    have lg37 := rg11.lt
    refine LL.alloc ([Value.int IntKind.i64 0, Value.slice none 0 0, Value.int IntKind.i64 0, Value.bool false, Value.bool false, Value.int IntKind.i64 0, Value.int IntKind.i64 0, Value.string { data := { toList := [] } }, Value.int IntKind.i64 0, Value.int IntKind.i64 0]) rfl rfl rfl rfl rfl ?_
    intro Wg39 gg40 egg40 rg41 zg42 bg38
    replace rg25 := rg25.up bg38
    replace bg22 := bg22.trans (bg38.mono bg22.size)
    replace rg11 := rg11.up bg38
    replace bg8 := bg8.trans (bg38.mono bg8.size)
    replace q := q.trans (bg38.mono q.size)
    refine LL.nilS ?_
    refine CC.seq ?_
    refine CC.region ?_
    refine LL.val (R.field rfl rfl (I.fld rfl)) rfl rfl rfl ?_
    refine LL.val (R.load rfl rfl (I.ld1 rfl (RowL.cell rg11 rfl))) rfl rfl rfl ?_
    refine LL.val (R.index rfl rfl rfl (I.ixS1c rfl rfl (by omega))) rfl rfl rfl ?_
    (refine LL.val (R.load rfl rfl (I.ld1 rfl (c0 _ q))) rfl rfl rfl ?_)
    refine LL.val (R.assign rfl rfl) rfl rfl rfl ?_
    refine LL.nilS ?_
    refine CC.seq ?_
    refine CC.region ?_
    refine LL.val (R.field rfl rfl (I.fld rfl)) rfl rfl rfl ?_
    refine LL.val (R.load rfl rfl (I.ld1 rfl (RowL.cell rg11 rfl))) rfl rfl rfl ?_
    (refine LL.val (R.slice rfl rfl rfl rfl rfl (hsl _ _ _ _ rfl)) rfl rfl rfl ?_)
    refine LL.val (R.field rfl rfl (I.fld rfl)) rfl rfl rfl ?_
    refine LL.store rfl rfl rfl rfl rg11 (by exact Nat.le_of_ble_eq_true rfl) rfl rfl rfl rfl ?_
    intro Wg124 rg125 bg123 zg126
    have hlbg123 := rg11.lt
    replace rg125 : RowL Wg124 _ 33 [Value.int IntKind.i64 d, Value.slice a' (n - 1) c', Value.int IntKind.i64 ↑k, Value.bool fol, Value.bool false, Value.int IntKind.i64 0, Value.int IntKind.i64 0, strV [], Value.int IntKind.i64 0, Value.int IntKind.i64 0] := rg125
    clear rg11
    replace rg41 := rg41.gr bg123 (by have := rg41.lt; omega)
    replace rg25 := rg25.gr bg123 (by have := rg25.lt; omega)
    replace bg8 := bg8.grown bg123 bg8.size (by rintro k ⟨⟩; omega)
    replace q := q.grown bg123 q.size (by rintro k ⟨⟩; omega)
    have rg11 := rg125
    clear rg125
    refine LL.nilS ?_
    refine CC.seq ?_
    refine CC.region ?_
    refine LL.val (R.field rfl rfl (I.fld rfl)) rfl rfl rfl ?_
    refine LL.val (R.load rfl rfl (I.ld1 rfl (RowL.cell rg11 rfl))) rfl rfl rfl ?_
    refine LL.val (R.len rfl rfl rfl rfl) rfl rfl rfl ?_
    refine LL.val (R.gtF rfl rfl rfl (by omega)) rfl rfl rfl ?_
    refine LL.val (R.assign rfl rfl) rfl rfl rfl ?_
    refine LL.nilS ?_
    refine CC.seq ?_
    refine CC.block ?_
    refine CC.seq ?_
    refine CC.region ?_
    refine LL.val (R.move rfl rfl) rfl rfl rfl ?_
    (refine LL.val (R.eqS (a := p) (b := [46, 46]) (c := false) rfl rfl rfl (by simp [hpp])) rfl rfl rfl ?_)
    refine LL.val (R.assign rfl rfl) rfl rfl rfl ?_
    refine LL.nilS ?_
    refine CC.no rfl ?_
    refine CC.seq ?_
    refine CC.region ?_
    refine LL.val (R.field rfl rfl (I.fld rfl)) rfl rfl rfl ?_
    refine LL.val (R.load rfl rfl (I.ld1 rfl (RowL.cell rg25 rfl))) rfl rfl rfl ?_
    refine LL.val (R.eqF rfl rfl rfl (by omega)) rfl rfl rfl ?_
    refine LL.val (R.move rfl rfl) rfl rfl rfl ?_
    refine LL.skip rfl rfl ?_
    refine LL.skip rfl rfl ?_
    refine LL.skip rfl rfl ?_
    refine LL.skip rfl rfl ?_
    refine LL.skip rfl rfl ?_
    refine LL.val (R.pick rfl rfl rfl) rfl rfl rfl ?_
    refine LL.val (R.assign rfl rfl) rfl rfl rfl ?_
    refine LL.nilS ?_
    refine CC.no rfl ?_
    refine CC.seq ?_
    refine CC.region ?_
    refine LL.val (R.field rfl rfl (I.fld rfl)) rfl rfl rfl ?_
    refine LL.val (R.load rfl rfl (I.ld1 rfl (RowL.cell rg25 rfl))) rfl rfl rfl ?_
    refine LL.vsplit (fun h => R.eqT rfl rfl rfl h) (fun h => R.eqF rfl rfl rfl h) rfl rfl rfl (fun cg287 => ?_) (fun cg287 => ?_)
    refine LL.val (R.move rfl rfl) rfl rfl rfl ?_
    refine LL.val (R.move rfl rfl) rfl rfl rfl ?_
    refine LL.val (R.pick rfl rfl rfl) rfl rfl rfl ?_
    refine LL.val (R.assign rfl rfl) rfl rfl rfl ?_
    refine LL.nilS ?_
    refine CC.no rfl ?_
    refine CC.seq ?_
    refine CC.region ?_
    refine LL.val (R.move rfl rfl) rfl rfl rfl ?_
    refine LL.val (R.assign rfl rfl) rfl rfl rfl ?_
    refine LL.nilS ?_
    refine CC.no rfl ?_
    refine CC.skip ?_
    refine EE.inN ?_
    refine EE.thenN ?_
    refine CC.seq ?_
    refine CC.region ?_
    refine LL.val (R.load rfl rfl (I.ldNc (vs := [Value.int IntKind.i64 d, Value.slice a' (n - 1) c', Value.int IntKind.i64 ↑k, Value.bool fol, Value.bool false, Value.int IntKind.i64 0, Value.int IntKind.i64 0, strV [], Value.int IntKind.i64 0, Value.int IntKind.i64 0]) (RowL.cells rg11 rfl) (by rfl) (by rfl))) rfl rfl rfl ?_
    refine LL.val (R.field rfl rfl (I.fld rfl)) rfl rfl rfl ?_
    refine LL.val (R.load rfl rfl (I.ld1 rfl (RowL.cell rg11 rfl))) rfl rfl rfl ?_
    refine LL.val (R.move rfl rfl) rfl rfl rfl ?_
    refine LL.val (R.field rfl rfl (I.fld rfl)) rfl rfl rfl ?_
    refine LL.val (R.load rfl rfl (I.ld1 rfl (RowL.cell rg25 rfl))) rfl rfl rfl ?_
    refine LL.val (R.field rfl rfl (I.fld rfl)) rfl rfl rfl ?_
    refine LL.val (R.load rfl rfl (I.ld1 rfl (RowL.cell rg25 rfl))) rfl rfl rfl ?_
    refine LL.val (R.buildV rfl rfl (v := .agg #[Value.int IntKind.i64 0, Value.int IntKind.i64 d, Value.string { data := List.toArray p }, Value.int IntKind.i64 fi, Value.int IntKind.i64 fk]) (fun _ => by kernel_rfl)) rfl rfl rfl ?_
    have lg442 := rg41.lt
    have lg443 := rg25.lt
    have lg444 := rg11.lt
    (refine LL.call (R.call rfl rfl rfl) rfl rfl rfl (rdone_any d _ _ _ _ _ _ wdZ (0, d, p, fi, fk) _) ?_; rintro e Wg441 ⟨rfl, bg438⟩; refine ⟨_, rfl, ?_⟩)
    have zbg438 := bg438.size
    replace rg41 := rg41.up bg438
    replace rg25 := rg25.up bg438
    replace bg8 := bg8.trans (bg438.mono bg8.size)
    replace q := q.trans (bg438.mono q.size)
    replace rg11 := rg11.up bg438
    refine LL.storeN (vs := [Value.int IntKind.i64 d, Value.slice none 0 0, Value.int IntKind.i64 ↑k, Value.bool fol, Value.bool true, Value.int IntKind.i64 0, Value.int IntKind.i64 d, strV p, Value.int IntKind.i64 fi, Value.int IntKind.i64 fk]) rfl rfl rfl rfl rg41 (by exact Nat.le_of_ble_eq_true rfl) (ones_of rfl) rfl rfl ?_
    intro Wg459 rg460 bg458 zg461
    have hlbg458 := rg41.lt
    replace rg460 : RowL Wg459 _ 33 [Value.int IntKind.i64 d, Value.slice none 0 0, Value.int IntKind.i64 ↑k, Value.bool fol, Value.bool true, Value.int IntKind.i64 0, Value.int IntKind.i64 d, strV p, Value.int IntKind.i64 fi, Value.int IntKind.i64 fk] := rg460
    clear rg41
    replace rg25 := rg25.gr bg458 (by have := rg25.lt; omega)
    replace bg8 := bg8.grown bg458 bg8.size (by rintro k ⟨⟩; omega)
    replace q := q.grown bg458 q.size (by rintro k ⟨⟩; omega)
    replace rg11 := rg11.gr bg458 (by have := rg11.lt; omega)
    have rg41 := rg460
    clear rg460
    refine LL.nilS ?_
    refine CC.ret ?_
    refine EE.retC rfl rfl (lvNc (RowL.cells0 (by assumption)) (by rfl) (by rfl)) ?_
    exact ⟨_, 0, rfl, (by rw [← hS]; exact RwR.fin (0, d, p, fi, fk) _ _ _ rfl rfl), by omega, q⟩
    refine LL.val (R.move rfl rfl) rfl rfl rfl ?_
    refine LL.skip rfl rfl ?_
    refine LL.val (R.pick rfl rfl rfl) rfl rfl rfl ?_
    refine LL.val (R.assign rfl rfl) rfl rfl rfl ?_
    refine LL.nilS ?_
    refine CC.no rfl ?_
    refine CC.seq ?_
    refine CC.region ?_
    refine LL.val (R.move rfl rfl) rfl rfl rfl ?_
    refine LL.val (R.assign rfl rfl) rfl rfl rfl ?_
    refine LL.nilS ?_
    refine CC.no rfl ?_
    refine CC.skip ?_
    refine EE.inN ?_
    refine EE.thenN ?_
    refine CC.seq ?_
    refine CC.region ?_
    refine LL.val (R.load rfl rfl (I.ldNc (vs := [Value.int IntKind.i64 d, Value.slice a' (n - 1) c', Value.int IntKind.i64 ↑k, Value.bool fol, Value.bool false, Value.int IntKind.i64 0, Value.int IntKind.i64 0, strV [], Value.int IntKind.i64 0, Value.int IntKind.i64 0]) (RowL.cells rg11 rfl) (by rfl) (by rfl))) rfl rfl rfl ?_
    refine LL.val (R.field rfl rfl (I.fld rfl)) rfl rfl rfl ?_
    refine LL.val (R.load rfl rfl (I.ld1 rfl (RowL.cell rg11 rfl))) rfl rfl rfl ?_
    refine LL.val (R.move rfl rfl) rfl rfl rfl ?_
    refine LL.val (R.field rfl rfl (I.fld rfl)) rfl rfl rfl ?_
    refine LL.val (R.load rfl rfl (I.ld1 rfl (RowL.cell rg25 rfl))) rfl rfl rfl ?_
    refine LL.val (R.field rfl rfl (I.fld rfl)) rfl rfl rfl ?_
    refine LL.val (R.load rfl rfl (I.ld1 rfl (RowL.cell rg25 rfl))) rfl rfl rfl ?_
    refine LL.val (R.buildV rfl rfl (v := .agg #[Value.int IntKind.i64 0, Value.int IntKind.i64 d, Value.string { data := List.toArray p }, Value.int IntKind.i64 fi, Value.int IntKind.i64 fk]) (fun _ => by kernel_rfl)) rfl rfl rfl ?_
    have lg606 := rg41.lt
    have lg607 := rg25.lt
    have lg608 := rg11.lt
    (refine LL.call (R.call rfl rfl rfl) rfl rfl rfl (rdone_any d _ _ _ _ _ _ wdZ (0, d, p, fi, fk) _) ?_; rintro e Wg605 ⟨rfl, bg602⟩; refine ⟨_, rfl, ?_⟩)
    have zbg602 := bg602.size
    replace rg41 := rg41.up bg602
    replace rg25 := rg25.up bg602
    replace bg8 := bg8.trans (bg602.mono bg8.size)
    replace q := q.trans (bg602.mono q.size)
    replace rg11 := rg11.up bg602
    refine LL.storeN (vs := [Value.int IntKind.i64 d, Value.slice none 0 0, Value.int IntKind.i64 ↑k, Value.bool fol, Value.bool true, Value.int IntKind.i64 0, Value.int IntKind.i64 d, strV p, Value.int IntKind.i64 fi, Value.int IntKind.i64 fk]) rfl rfl rfl rfl rg41 (by exact Nat.le_of_ble_eq_true rfl) (ones_of rfl) rfl rfl ?_
    intro Wg623 rg624 bg622 zg625
    have hlbg622 := rg41.lt
    replace rg624 : RowL Wg623 _ 33 [Value.int IntKind.i64 d, Value.slice none 0 0, Value.int IntKind.i64 ↑k, Value.bool fol, Value.bool true, Value.int IntKind.i64 0, Value.int IntKind.i64 d, strV p, Value.int IntKind.i64 fi, Value.int IntKind.i64 fk] := rg624
    clear rg41
    replace rg25 := rg25.gr bg622 (by have := rg25.lt; omega)
    replace bg8 := bg8.grown bg622 bg8.size (by rintro k ⟨⟩; omega)
    replace q := q.grown bg622 q.size (by rintro k ⟨⟩; omega)
    replace rg11 := rg11.gr bg622 (by have := rg11.lt; omega)
    have rg41 := rg624
    clear rg624
    refine LL.nilS ?_
    refine CC.ret ?_
    refine EE.retC rfl rfl (lvNc (RowL.cells0 (by assumption)) (by rfl) (by rfl)) ?_
    exact ⟨_, 0, rfl, (by rw [← hS]; exact RwR.fin (0, d, p, fi, fk) _ _ _ rfl rfl), by omega, q⟩
end Go.Proofs.YtbbddpnjglijdaaDoor
/- walk: the document's Go (written by genwk23.py). -/
namespace Go.Proofs.YtbbddpnjglijdaaDoor
set_option linter.unusedVariables false
set_option linter.unusedSimpArgs false
open Go.RowKit Go.Shelf
set_option maxRecDepth 100000
set_option maxHeartbeats 8000000
/-- A walker of the document that lies in a block. -/
def RwAt (w : World) (g : Nat) (s : Wk) : Prop := (s.fin = none ∧ ∃ a n c bb, RowL w g 33 [.int .i64 s.dir, .slice a n c, .int .i64 (s.links : Int), .bool s.fol, .bool false, .int .i64 0, .int .i64 0, strV [], .int .i64 0, .int .i64 0] ∧ PsB w bb a n c s.ps ∧ g ≠ bb) ∨ ∃ x d k, s.fin = some x ∧ RowL w g 33 [.int .i64 d, .slice none 0 0, .int .i64 k, .bool s.fol, .bool true, .int .i64 x.1, .int .i64 x.2.1, strV x.2.2.1, .int .i64 x.2.2.2.1, .int .i64 x.2.2.2.2]
theorem RwAt.up {w w' : World} {g : Nat} {s : Wk} (h : RwAt w g s) (b : Below w.heap.size w w') : RwAt w' g s := by
  rcases h with ⟨h0, a, n, c, bb, r, p, hb⟩ | ⟨x, d, k, h0, r⟩
  · exact .inl ⟨h0, a, n, c, bb, r.up b, p.up b, hb⟩
  · exact .inr ⟨x, d, k, h0, r.up b⟩
theorem RwR.put {s : Wk} {w : World} {bb g : Nat} {d k : Int} {a : Option Addr} {n c : Nat} {fol dn : Bool} {x : Wd} (h : RwR s (rwV d a n c k fol dn x) w bb) (r : RowL w g 33 [.int .i64 d, .slice a n c, .int .i64 k, .bool fol, .bool dn, .int .i64 x.1, .int .i64 x.2.1, strV x.2.2.1, .int .i64 x.2.2.2.1, .int .i64 x.2.2.2.2]) (hb : g ≠ bb) : RwAt w g s := by
  rcases h with ⟨h0, a', n', c', e, p⟩ | ⟨x', d', k', h0, e⟩
  · have e2 := congrArg Array.toList (Value.agg.inj e)
    exact .inl ⟨h0, a', n', c', bb, Eq.mp (congrArg (RowL w g 33) e2) r, p, hb⟩
  · have e2 := congrArg Array.toList (Value.agg.inj e)
    exact .inr ⟨x', d', k', h0, Eq.mp (congrArg (RowL w g 33) e2) r⟩
theorem rgo_bad (path : Bs) (fol : Bool) (v : Value) (w : World) (h9 : 0 < w.heap.size) (hl : path.length ≤ 9223372036854775807) (er : Nat) (he : pathN path = er) (h0 : er ≠ 0) : Calls Tryd.prog 20 #[strV path, .bool fol, v] w fun e w' => e = .returned (.tuple #[wdV wdZ, .int .i64 (er : Int)]) ∧ Below w.heap.size w w' := by
  have q := Below.refl w.heap.size w
  have he' : (er : Int) ≠ 0 := by omega
  refine X.fn Tryd.func20 rfl (n := 51) rfl rfl ?_
  refine CC.seq ?_
  refine CC.region ?_
  refine LL.alloc ([Value.int IntKind.i64 0, Value.int IntKind.i64 0, Value.string { data := { toList := [] } }, Value.int IntKind.i64 0, Value.int IntKind.i64 0]) rfl rfl rfl rfl rfl ?_
  intro W9 g10 eg10 r11 z12 b8
  replace q := q.trans (b8.mono q.size)
  refine LL.val (R.assign rfl rfl) rfl rfl rfl ?_
  refine LL.nilS ?_
  refine CC.seq ?_
  refine CC.region ?_
  refine LL.val (R.move rfl rfl) rfl rfl rfl ?_
  refine LL.val (R.move rfl rfl) rfl rfl rfl ?_
  have l41 := r11.lt
  (refine LL.call (R.call rfl rfl rfl) rfl rfl rfl (rnew_bad path fol _ hl er he h0) ?_; rintro e W40 ⟨rfl, b37⟩; refine ⟨_, rfl, ?_⟩)
  have zb37 := b37.size
  replace r11 := r11.up b37
  replace b8 := b8.trans (b37.mono b8.size)
  replace q := q.trans (b37.mono q.size)
  refine LL.val (R.move rfl rfl) rfl rfl rfl ?_
  refine LL.val (R.extract rfl rfl rfl) rfl rfl rfl ?_
  refine LL.val (R.extract rfl rfl rfl) rfl rfl rfl ?_
  have l77 := r11.lt
  refine LL.alloc ([Value.int IntKind.i64 0, Value.slice none 0 0, Value.int IntKind.i64 0, Value.bool false, Value.bool false, Value.int IntKind.i64 0, Value.int IntKind.i64 0, Value.string { data := { toList := [] } }, Value.int IntKind.i64 0, Value.int IntKind.i64 0]) rfl rfl rfl rfl rfl ?_
  intro W79 g80 eg80 r81 z82 b78
  replace b37 := b37.trans (b78.mono b37.size)
  replace r11 := r11.up b78
  replace b8 := b8.trans (b78.mono b8.size)
  replace q := q.trans (b78.mono q.size)
  refine LL.storeN (vs := [Value.int IntKind.i64 0, Value.slice none 0 0, Value.int IntKind.i64 0, Value.bool false, Value.bool false, Value.int IntKind.i64 0, Value.int IntKind.i64 0, strV [], Value.int IntKind.i64 0, Value.int IntKind.i64 0]) rfl rfl rfl rfl r81 (by exact Nat.le_of_ble_eq_true rfl) (ones_of rfl) rfl rfl ?_
  intro W93 r94 b92 z95
  have hlb92 := r81.lt
  replace r94 : RowL W93 _ 33 [Value.int IntKind.i64 0, Value.slice none 0 0, Value.int IntKind.i64 0, Value.bool false, Value.bool false, Value.int IntKind.i64 0, Value.int IntKind.i64 0, strV [], Value.int IntKind.i64 0, Value.int IntKind.i64 0] := r94
  clear r81
  replace b78 := b78.grown b92 b78.size (by rintro k ⟨⟩; omega)
  replace b37 := b37.grown b92 b37.size (by rintro k ⟨⟩; omega)
  replace r11 := r11.gr b92 (by have := r11.lt; omega)
  replace b8 := b8.grown b92 b8.size (by rintro k ⟨⟩; omega)
  replace q := q.grown b92 q.size (by rintro k ⟨⟩; omega)
  have r81 := r94
  clear r94
  refine LL.val (R.assign rfl rfl) rfl rfl rfl ?_
  refine LL.nilS ?_
  refine CC.seq ?_
  refine CC.seq ?_
  refine CC.region ?_
  refine LL.val (R.move rfl rfl) rfl rfl rfl ?_
  refine LL.val (R.neT rfl rfl rfl (by omega)) rfl rfl rfl ?_
  refine LL.nilS ?_
  refine CC.yes rfl ?_
  refine CC.seq ?_
  refine CC.region ?_
  refine LL.val (R.buildV rfl rfl (v := .agg #[Value.int IntKind.i64 0, Value.int IntKind.i64 0, Value.string { data := #[] }, Value.int IntKind.i64 0, Value.int IntKind.i64 0]) (fun _ => by kernel_rfl)) rfl rfl rfl ?_
  refine LL.val (R.move rfl rfl) rfl rfl rfl ?_
  refine LL.storeN (vs := [Value.int IntKind.i64 0, Value.int IntKind.i64 0, Value.string { data := #[] }, Value.int IntKind.i64 0, Value.int IntKind.i64 0]) rfl rfl rfl rfl r11 (by exact Nat.le_of_ble_eq_true rfl) (ones_of rfl) rfl rfl ?_
  intro W151 r152 b150 z153
  have hlb150 := r11.lt
  replace r152 : RowL W151 _ 31 [Value.int IntKind.i64 0, Value.int IntKind.i64 0, Value.string { data := #[] }, Value.int IntKind.i64 0, Value.int IntKind.i64 0] := r152
  clear r11
  replace b8 := b8.grown b150 b8.size (by rintro k ⟨⟩; omega)
  replace q := q.grown b150 q.size (by rintro k ⟨⟩; omega)
  replace r81 := r81.gr b150 (by have := r81.lt; omega)
  have r11 := r152
  clear r152
  refine LL.val (R.assign rfl rfl) rfl rfl rfl ?_
  refine LL.nilS ?_
  refine CC.ret ?_
  refine EE.thenR ?_
  refine EE.ret2 rfl ⟨_, rfl, lvNc (RowL.cells0 (by assumption)) (by rfl) (by rfl)⟩ rfl ?_
  exact ⟨rfl, q⟩
theorem rgo_fin (path : Bs) (fol : Bool) (v : Value) (l : List Pl) (w : World) (h9 : 0 < w.heap.size) (hl : path.length ≤ 9223372036854775807) (hz : pathN path = 0) (hv : ReadsT plE 5 w v l) (hN : l.length ≤ 1048576) (hT : ∀ p ∈ l, p.2.2.2.1 = 3 → p.2.2.2.2.length ≤ 1048576) (x : Wd) (hx : (iterP l 20000 (newW path fol)).fin = some x) : Calls Tryd.prog 20 #[strV path, .bool fol, v] w fun e w' => e = .returned (.tuple #[wdV x, .int .i64 0]) ∧ Below w.heap.size w w' := by
  have q := Below.refl w.heap.size w
  obtain ⟨N, hNl⟩ : ∃ N, l.length = N := ⟨_, rfl⟩
  obtain ⟨a, c, rfl, hc⟩ := hv.form hNl
  have hF : ∀ W, Below w.heap.size w W → ReadsT plE 5 W (.slice a N c) l := fun W b => hv.up b
  have hok := iter_ok (l := l) (new_ok fol hz)
  have has := iter_asks (l := l) (s := newW path fol) (on_asks _)
  clear hv
  refine X.fn Tryd.func20 rfl (n := 51) rfl rfl ?_
  refine CC.seq ?_
  refine CC.region ?_
  refine LL.alloc ([Value.int IntKind.i64 0, Value.int IntKind.i64 0, Value.string { data := { toList := [] } }, Value.int IntKind.i64 0, Value.int IntKind.i64 0]) rfl rfl rfl rfl rfl ?_
  intro W9 g10 eg10 r11 z12 b8
  replace q := q.trans (b8.mono q.size)
  refine LL.val (R.assign rfl rfl) rfl rfl rfl ?_
  refine LL.nilS ?_
  refine CC.seq ?_
  refine CC.region ?_
  refine LL.val (R.move rfl rfl) rfl rfl rfl ?_
  refine LL.val (R.move rfl rfl) rfl rfl rfl ?_
  have l41 := r11.lt
  (refine LL.call (R.call rfl rfl rfl) rfl rfl rfl (rnew_yes path fol _ hl hz (by omega)) ?_; rintro e W40 ⟨vo, bo1, rfl, ho1, hbo1, b37⟩; refine ⟨_, rfl, ?_⟩; obtain ⟨d1, a1, n1, c1, k1, f1, dn1, x1, rfl⟩ := ho1.form)
  have zb37 := b37.size
  replace r11 := r11.up b37
  replace b8 := b8.trans (b37.mono b8.size)
  replace q := q.trans (b37.mono q.size)
  refine LL.val (R.move rfl rfl) rfl rfl rfl ?_
  refine LL.val (R.extract rfl rfl rfl) rfl rfl rfl ?_
  refine LL.val (R.extract rfl rfl rfl) rfl rfl rfl ?_
  have l77 := r11.lt
  refine LL.alloc ([Value.int IntKind.i64 0, Value.slice none 0 0, Value.int IntKind.i64 0, Value.bool false, Value.bool false, Value.int IntKind.i64 0, Value.int IntKind.i64 0, Value.string { data := { toList := [] } }, Value.int IntKind.i64 0, Value.int IntKind.i64 0]) rfl rfl rfl rfl rfl ?_
  intro W79 g80 eg80 r81 z82 b78
  replace b37 := b37.trans (b78.mono b37.size)
  replace ho1 := ho1.up b78
  replace r11 := r11.up b78
  replace b8 := b8.trans (b78.mono b8.size)
  replace q := q.trans (b78.mono q.size)
  refine LL.storeN (vs := [Value.int IntKind.i64 d1, Value.slice a1 n1 c1, Value.int IntKind.i64 k1, Value.bool f1, Value.bool dn1, Value.int IntKind.i64 x1.1, Value.int IntKind.i64 x1.2.1, strV x1.2.2.1, Value.int IntKind.i64 x1.2.2.2.1, Value.int IntKind.i64 x1.2.2.2.2]) rfl rfl rfl rfl r81 (by exact Nat.le_of_ble_eq_true rfl) (ones_of rfl) rfl rfl ?_
  intro W93 r94 b92 z95
  have hlb92 := r81.lt
  replace r94 : RowL W93 _ 33 [Value.int IntKind.i64 d1, Value.slice a1 n1 c1, Value.int IntKind.i64 k1, Value.bool f1, Value.bool dn1, Value.int IntKind.i64 x1.1, Value.int IntKind.i64 x1.2.1, strV x1.2.2.1, Value.int IntKind.i64 x1.2.2.2.1, Value.int IntKind.i64 x1.2.2.2.2] := r94
  clear r81
  replace b78 := b78.grown b92 b78.size (by rintro k ⟨⟩; omega)
  replace b37 := b37.grown b92 b37.size (by rintro k ⟨⟩; omega)
  replace ho1 := ho1.gr b92 (by omega)
  replace r11 := r11.gr b92 (by have := r11.lt; omega)
  replace b8 := b8.grown b92 b8.size (by rintro k ⟨⟩; omega)
  replace q := q.grown b92 q.size (by rintro k ⟨⟩; omega)
  have r81 := r94
  clear r94
  refine LL.val (R.assign rfl rfl) rfl rfl rfl ?_
  refine LL.nilS ?_
  refine CC.seq ?_
  refine CC.seq ?_
  refine CC.region ?_
  refine LL.val (R.move rfl rfl) rfl rfl rfl ?_
  refine LL.val (R.neF rfl rfl rfl (by omega)) rfl rfl rfl ?_
  refine LL.nilS ?_
  refine CC.no rfl ?_
  refine CC.skip ?_
  refine EE.thenN ?_
  refine CC.seq ?_
  refine CC.seq ?_
  refine CC.region ?_
  refine LL.val (R.assign rfl rfl) rfl rfl rfl ?_
  refine LL.nilS ?_
  refine CC.block ?_
  obtain ⟨s0, hs0⟩ : ∃ s, newW path fol = s := ⟨_, rfl⟩
  rw [hs0] at hok has hx ho1
  have hA : RwAt W93 g80 s0 := RwR.put ho1 r81 (by omega)
  have r6 : RowL W93 g10 31 [.int .i64 0, .int .i64 0, strV [], .int .i64 0, .int .i64 0] := r11
  have lg6 : w.heap.size ≤ g10 ∧ g10 < g80 := by omega
  have lgW : g80 < W93.heap.size := by omega
  refine CC.loop (α := Nat) (fun t => [(2, .slice a N c), (6, .pointer (some ⟨g10, 0, none⟩)), (8, .pointer (some ⟨g80, 0, none⟩)), (10, .int .i64 (t : Int))]) (fun t W => t ≤ 20000 ∧ Below w.heap.size w W ∧ RwAt W g80 (iterP l t s0) ∧ RowL W g10 31 [.int .i64 0, .int .i64 0, strV [], .int .i64 0, .int .i64 0]) (fun t => 20000 - t) 0 ⟨rfl, rfl, rfl, rfl, trivial⟩ ⟨Nat.zero_le _, q, hA, r6⟩ ?_
  obtain ⟨gw, egw⟩ : ∃ g, g = g80 := ⟨_, rfl⟩
  obtain ⟨gr, egr⟩ : ∃ g, g = g10 := ⟨_, rfl⟩
  have lgr : w.heap.size ≤ gr ∧ gr < gw := by omega
  rw [← egw, ← egr]
  clear b78 b37 b8 r11 r81 ho1 b92 hbo1 z12 l41 zb37 l77 z82 z95 hlb92 q hA r6 eg80 eg10
  rintro t W ⟨ht, q, hA, r6⟩
  have hk := hok t
  have ha := has t
  have hstep : iterP l (t + 1) s0 = stepP l (iterP l t s0) := rfl
  have hdone : ∀ y, (iterP l t s0).fin = some y → y = x := fun y hy => by
    have := iter_done hy ht
    rw [this, hy] at hx
    exact Option.some.inj hx
  have hlast : t = 20000 → (iterP l t s0).fin = some x := fun e => by rw [e]; exact hx
  obtain ⟨S, hS⟩ : ∃ S, iterP l t s0 = S := ⟨_, rfl⟩
  rw [hS] at hk ha hstep hA hdone hlast
  obtain ⟨sd, sps, sk, sf, sfin⟩ := S
  have yq := q.size
  clear hok has hx hS
  show CC none Tryd.prog _ 51 [] (sl [(2, .slice a N c), (6, .pointer (some ⟨gr, 0, none⟩)), (8, .pointer (some ⟨gw, 0, none⟩)), (10, .int .i64 (t : Int))]) _ W
  rcases hA with ⟨h0, a1, n1, c1, bb, r8, hp, hbb⟩ | ⟨y, d, k, h0, r8⟩
  case inr =>
    obtain rfl := hdone y h0
    clear hstep ha hk hdone hlast
    dsimp only at r8
    refine CC.seq ?_
    refine CC.seq ?_
    refine CC.region ?_
    refine LL.val (R.move rfl rfl) rfl rfl rfl ?_
    refine LL.vsplit (fun h => R.ltT rfl rfl rfl h) (fun h => R.ltF rfl rfl rfl (Int.not_lt.1 h)) rfl rfl rfl (fun ca1 => ?_) (fun ca1 => ?_)
    refine LL.val (R.move rfl rfl) rfl rfl rfl ?_
    refine LL.val (R.field rfl rfl (I.fld rfl)) rfl rfl rfl ?_
    refine LL.val (R.load rfl rfl (I.ld1 rfl (RowL.cell r8 rfl))) rfl rfl rfl ?_
    refine LL.val (R.not rfl rfl) rfl rfl rfl ?_
    refine LL.val (R.pick rfl rfl rfl) rfl rfl rfl ?_
    refine LL.nilS ?_
    refine CC.no rfl ?_
    refine CC.exit ?_
    refine EE.thenX ?_
    refine EE.thenX ?_
    refine EE.inX ?_
    refine EE.thenN ?_
    refine CC.seq ?_
    refine CC.region ?_
    refine LL.val (R.field rfl rfl (I.fld rfl)) rfl rfl rfl ?_
    refine LL.val (R.load rfl rfl (I.ldNc (vs := [Value.int IntKind.i64 y.1, Value.int IntKind.i64 y.2.1, strV y.2.2.1, Value.int IntKind.i64 y.2.2.2.1, Value.int IntKind.i64 y.2.2.2.2]) (RowL.cells r8 rfl) (by rfl) (by rfl))) rfl rfl rfl ?_
    refine LL.storeN (vs := [Value.int IntKind.i64 y.1, Value.int IntKind.i64 y.2.1, strV y.2.2.1, Value.int IntKind.i64 y.2.2.2.1, Value.int IntKind.i64 y.2.2.2.2]) rfl rfl rfl rfl r6 (by exact Nat.le_of_ble_eq_true rfl) (ones_of rfl) rfl rfl ?_
    intro Wa3 ra4 ba2 za5
    have hlba2 := r6.lt
    replace ra4 : RowL Wa3 _ 31 [Value.int IntKind.i64 y.1, Value.int IntKind.i64 y.2.1, strV y.2.2.1, Value.int IntKind.i64 y.2.2.2.1, Value.int IntKind.i64 y.2.2.2.2] := ra4
    clear r6
    replace q := q.grown ba2 q.size (by rintro k ⟨⟩; omega)
    replace r8 := r8.gr ba2 (by have := r8.lt; omega)
    have r6 := ra4
    clear ra4
    refine LL.val (R.assign rfl rfl) rfl rfl rfl ?_
    refine LL.nilS ?_
    refine CC.ret ?_
    refine EE.ret2 rfl ⟨_, rfl, lvNc (RowL.cells0 (by assumption)) (by rfl) (by rfl)⟩ rfl ?_
    exact ⟨rfl, q⟩
    refine LL.val (R.move rfl rfl) rfl rfl rfl ?_
    refine LL.skip rfl rfl ?_
    refine LL.skip rfl rfl ?_
    refine LL.skip rfl rfl ?_
    refine LL.val (R.pick rfl rfl rfl) rfl rfl rfl ?_
    refine LL.nilS ?_
    refine CC.no rfl ?_
    refine CC.exit ?_
    refine EE.thenX ?_
    refine EE.thenX ?_
    refine EE.inX ?_
    refine EE.thenN ?_
    refine CC.seq ?_
    refine CC.region ?_
    refine LL.val (R.field rfl rfl (I.fld rfl)) rfl rfl rfl ?_
    refine LL.val (R.load rfl rfl (I.ldNc (vs := [Value.int IntKind.i64 y.1, Value.int IntKind.i64 y.2.1, strV y.2.2.1, Value.int IntKind.i64 y.2.2.2.1, Value.int IntKind.i64 y.2.2.2.2]) (RowL.cells r8 rfl) (by rfl) (by rfl))) rfl rfl rfl ?_
    refine LL.storeN (vs := [Value.int IntKind.i64 y.1, Value.int IntKind.i64 y.2.1, strV y.2.2.1, Value.int IntKind.i64 y.2.2.2.1, Value.int IntKind.i64 y.2.2.2.2]) rfl rfl rfl rfl r6 (by exact Nat.le_of_ble_eq_true rfl) (ones_of rfl) rfl rfl ?_
    intro Wa7 ra8 ba6 za9
    have hlba6 := r6.lt
    replace ra8 : RowL Wa7 _ 31 [Value.int IntKind.i64 y.1, Value.int IntKind.i64 y.2.1, strV y.2.2.1, Value.int IntKind.i64 y.2.2.2.1, Value.int IntKind.i64 y.2.2.2.2] := ra8
    clear r6
    replace q := q.grown ba6 q.size (by rintro k ⟨⟩; omega)
    replace r8 := r8.gr ba6 (by have := r8.lt; omega)
    have r6 := ra8
    clear ra8
    refine LL.val (R.assign rfl rfl) rfl rfl rfl ?_
    refine LL.nilS ?_
    refine CC.ret ?_
    refine EE.ret2 rfl ⟨_, rfl, lvNc (RowL.cells0 (by assumption)) (by rfl) (by rfl)⟩ rfl ?_
    exact ⟨rfl, q⟩
  dsimp only at h0 r8 hp
  subst h0
  have ht2 : t < 20000 := by
    rcases Nat.lt_or_ge t 20000 with h | h
    · exact h
    · have := hlast (by omega)
      cases this
  obtain ⟨p, r, rfl, hpd⟩ : ∃ p r, sps = p :: r ∧ p ≠ [46] := ha rfl
  have hbig := hk.big
  have hlk : sk ≤ 8 := hk.links
  have hlen := hp.len
  have hlt := hp.lt
  have hlen2 : r.length + 1 = n1 := hlen
  have hbg : n1 ≤ 10000 := by rw [← hlen]; exact hbig
  obtain ⟨off, rfl, c0⟩ := hp.head
  have hpF := fun X (b : Below W.heap.size W X) => hp.up b
  have c1F := fun X (b : Below W.heap.size W X) => c0 X (hpF X b)
  have c1W : W.cell? ⟨bb, off, none⟩ = some (strV p) := c1F W (Below.refl _ _)
  have q2 := Below.refl W.heap.size W
  clear hk ha hdone hlast hbig hlen hp c0
  have hfi := fun (X : World) (b : Below w.heap.size w X) => find_any sd p _ l X (hF X b) hN
  unfold stepP at hstep
  dsimp only at hstep
  cases hf : findP l sd p with
  | none =>
    rw [hf] at hfi hstep
    dsimp only at hstep
    have hfi2 : ∀ X, Below w.heap.size w X → Calls Tryd.prog 27 #[.slice a N c, .int .i64 sd, strV p] X fun e w' => e = .returned (.tuple #[fdV (0, 0, []), .bool false]) ∧ Below X.heap.size X w' := hfi
    clear hfi hF
    refine CC.seq ?_
    refine CC.seq ?_
    refine CC.region ?_
    refine LL.val (R.move rfl rfl) rfl rfl rfl ?_
    refine LL.val (R.ltT rfl rfl rfl (by omega)) rfl rfl rfl ?_
    refine LL.val (R.move rfl rfl) rfl rfl rfl ?_
    refine LL.val (R.field rfl rfl (I.fld rfl)) rfl rfl rfl ?_
    refine LL.val (R.load rfl rfl (I.ld1 rfl (RowL.cell r8 rfl))) rfl rfl rfl ?_
    refine LL.val (R.not rfl rfl) rfl rfl rfl ?_
    refine LL.val (R.pick rfl rfl rfl) rfl rfl rfl ?_
    refine LL.nilS ?_
    refine CC.yes rfl ?_
    refine CC.skip ?_
    refine EE.thenN ?_
    refine CC.seq ?_
    refine CC.block ?_
    refine CC.seq ?_
    refine CC.freeZ (fun W_ j => j < W_.heap.size ∧ (True)) (by kernel_rfl) (by kernel_rfl) (fun Wb276 bb275 zb277 => ?_)
    replace q := q.trans (bb275.mono q.size)
    replace r6 := r6.up bb275
    replace r8 := r8.up bb275
    replace c1W := cell_up c1W bb275
    replace q2 := q2.trans (bb275.mono q2.size)
    have hok : Kept (fun j => j < Wb276.heap.size ∧ (True)) Wb276 Wb276 := Kept.refl _ _
    have fzr6 := fzRow (K := fun j => j < Wb276.heap.size ∧ (True)) r6 ⟨r6.lt, (by first | trivial | omega)⟩
    have fzr8 := fzRow (K := fun j => j < Wb276.heap.size ∧ (True)) r8 ⟨r8.lt, (by first | trivial | omega)⟩
    have fzc1W := fzCell (K := fun j => j < Wb276.heap.size ∧ (True)) c1W ⟨World.block_lt_of_cell? _ _ c1W, (by first | trivial | omega)⟩
    refine AA.pure 0 rfl hok (by kernel_rfl) (fun w' b' => R.move rfl rfl) rfl rfl ?_
    refine AA.pure 1 rfl hok (by kernel_rfl) (fun w' b' => R.field rfl rfl (I.fld rfl)) rfl rfl ?_
    refine AA.pure 2 rfl hok (by kernel_rfl) (fun w' b' => R.load rfl rfl (I.ld1 rfl (RowL.cell (fzr8 w' b') rfl))) rfl rfl ?_
    refine AA.pure 3 rfl hok (by kernel_rfl) (fun w' b' => R.field rfl rfl (I.fld rfl)) rfl rfl ?_
    refine AA.pure 4 rfl hok (by kernel_rfl) (fun w' b' => R.load rfl rfl (I.ld1 rfl (RowL.cell (fzr8 w' b') rfl))) rfl rfl ?_
    refine AA.pure 5 rfl hok (by kernel_rfl) (fun w' b' => R.index rfl rfl rfl (I.ixS1c rfl rfl (by omega))) rfl rfl ?_
    refine AA.pure 6 rfl hok (by kernel_rfl) (fun w' b' => R.load rfl rfl (I.ld1 rfl (fzc1W w' b'))) rfl rfl ?_
    refine AA.two 7 11 (by kernel_rfl) ?_ ?_
    have lb282 := r6.lt
    have lb283 := r8.lt
    (refine SR.call rfl (R.call rfl rfl rfl) rfl rfl (hfi2 _ q) ?_; rintro e Wb281 ⟨rfl, bb278⟩; refine ⟨_, rfl, ?_⟩)
    have zbb278 := bb278.size
    replace bb275 := bb275.trans (bb278.mono bb275.size)
    replace q := q.trans (bb278.mono q.size)
    replace r6 := r6.up bb278
    replace r8 := r8.up bb278
    replace c1W := cell_up c1W bb278
    replace q2 := q2.trans (bb278.mono q2.size)
    replace hok := hok.trans (bkept bb278 (fun j h => by have := h.1; have := hok.size; omega))
    have yb287 := hok.size
    refine ⟨hok, ?_⟩
    refine AA.pure 8 rfl hok (by kernel_rfl) (fun w' b' => R.move rfl rfl) rfl rfl ?_
    refine AA.pure 9 rfl hok (by kernel_rfl) (fun w' b' => R.extract rfl rfl rfl) rfl rfl ?_
    refine AA.pure 10 rfl hok (by kernel_rfl) (fun w' b' => R.extract rfl rfl rfl) rfl rfl ?_
    refine AA.one 11 (by kernel_rfl) ?_
    have lb315 := r6.lt
    have lb316 := r8.lt
    refine ZR.alloc ([Value.int IntKind.i64 0, Value.int IntKind.i64 0, Value.string { data := { toList := [] } }]) rfl rfl rfl rfl rfl rfl ?_
    intro Wb318 gb319 egb319 rb320 zb321 bb317
    replace bb278 := bb278.trans (bb317.mono bb278.size)
    replace bb275 := bb275.trans (bb317.mono bb275.size)
    replace q := q.trans (bb317.mono q.size)
    replace r6 := r6.up bb317
    replace r8 := r8.up bb317
    replace c1W := cell_up c1W bb317
    replace q2 := q2.trans (bb317.mono q2.size)
    replace hok := hok.trans (bkept bb317 (fun j h => by have := h.1; have := hok.size; omega))
    have yb322 := hok.size
    refine ⟨hok, ?_⟩
    refine AA.one 12 (by kernel_rfl) ?_
    refine ZR.storeN (vs := [Value.int IntKind.i64 0, Value.int IntKind.i64 0, strV []]) rfl rfl rfl rfl rfl rb320 (by exact Nat.le_of_ble_eq_true rfl) (ones_of rfl) rfl rfl ?_
    intro Wb354 rb355 bb353 zb356
    have hlbb353 := rb320.lt
    replace rb355 : RowL Wb354 _ 38 [Value.int IntKind.i64 0, Value.int IntKind.i64 0, strV []] := rb355
    clear rb320
    replace bb317 := bb317.grown bb353 bb317.size (by rintro k ⟨⟩; omega)
    replace bb278 := bb278.grown bb353 bb278.size (by rintro k ⟨⟩; omega)
    replace bb275 := bb275.grown bb353 bb275.size (by rintro k ⟨⟩; omega)
    replace q := q.grown bb353 q.size (by rintro k ⟨⟩; omega)
    replace r6 := r6.gr bb353 (by have := r6.lt; omega)
    replace r8 := r8.gr bb353 (by have := r8.lt; omega)
    replace c1W := cell_gr c1W bb353 (by omega)
    replace q2 := q2.grown bb353 q2.size (by rintro k ⟨⟩; omega)
    replace hok := hok.trans (grown_kept bb353 (fun j h => by have := h.1; have := hok.size; omega) (fun j h e => by cases e; have h2 := h.1; have h3 := h.2; omega))
    have rb320 := rb355
    clear rb355
    refine ⟨hok, ?_⟩
    refine AA.pure 13 rfl hok (by kernel_rfl) (fun w' b' => R.assign rfl rfl) rfl rfl ?_
    refine AA.done rfl ?_
    clear fzr6 fzr8 fzc1W hok
    refine EE.thenN ?_
    refine CC.seq ?_
    refine CC.region ?_
    refine LL.val (R.move rfl rfl) rfl rfl rfl ?_
    refine LL.nilS ?_
    refine CC.no rfl ?_
    refine CC.region ?_
    refine LL.val (R.load rfl rfl (I.ldNc (vs := [Value.int IntKind.i64 sd, Value.slice (some { block := bb, off := off }) n1 c1, Value.int IntKind.i64 ↑sk, Value.bool sf, Value.bool false, Value.int IntKind.i64 0, Value.int IntKind.i64 0, strV [], Value.int IntKind.i64 0, Value.int IntKind.i64 0]) (RowL.cells r8 rfl) (by rfl) (by rfl))) rfl rfl rfl ?_
    have lb441 := r6.lt
    have lb442 := r8.lt
    have lb443 := rb320.lt
    (refine LL.call (R.call rfl rfl rfl) rfl rfl rfl (rmiss_any sd _ _ _ sk sf p r _ bb (hpF _ q2) (by omega) (by omega)) ?_; rintro e Wb440 ⟨vo, bo1, rfl, ho1, hbo1, bb437⟩; refine ⟨_, rfl, ?_⟩; obtain ⟨d1, a1, n1, c1, k1, f1, dn1, x1, rfl⟩ := ho1.form)
    have zbb437 := bb437.size
    replace bb317 := bb317.trans (bb437.mono bb317.size)
    replace bb278 := bb278.trans (bb437.mono bb278.size)
    replace bb275 := bb275.trans (bb437.mono bb275.size)
    replace q := q.trans (bb437.mono q.size)
    replace r6 := r6.up bb437
    replace r8 := r8.up bb437
    replace c1W := cell_up c1W bb437
    replace q2 := q2.trans (bb437.mono q2.size)
    replace rb320 := rb320.up bb437
    refine LL.storeN (vs := [Value.int IntKind.i64 d1, Value.slice a1 n1 c1, Value.int IntKind.i64 k1, Value.bool f1, Value.bool dn1, Value.int IntKind.i64 x1.1, Value.int IntKind.i64 x1.2.1, strV x1.2.2.1, Value.int IntKind.i64 x1.2.2.2.1, Value.int IntKind.i64 x1.2.2.2.2]) rfl rfl rfl rfl r8 (by exact Nat.le_of_ble_eq_true rfl) (ones_of rfl) rfl rfl ?_
    intro Wb478 rb479 bb477 zb480
    have hlbb477 := r8.lt
    replace rb479 : RowL Wb478 _ 33 [Value.int IntKind.i64 d1, Value.slice a1 n1 c1, Value.int IntKind.i64 k1, Value.bool f1, Value.bool dn1, Value.int IntKind.i64 x1.1, Value.int IntKind.i64 x1.2.1, strV x1.2.2.1, Value.int IntKind.i64 x1.2.2.2.1, Value.int IntKind.i64 x1.2.2.2.2] := rb479
    clear r8
    replace ho1 := ho1.gr bb477 (by omega)
    replace q := q.grown bb477 q.size (by rintro k ⟨⟩; omega)
    replace r6 := r6.gr bb477 (by have := r6.lt; omega)
    replace c1W := cell_gr c1W bb477 (by omega)
    replace rb320 := rb320.gr bb477 (by have := rb320.lt; omega)
    have r8 := rb479
    clear rb479
    refine LL.nil ?_
    refine EE.inN ?_
    refine EE.thenN ?_
    refine CC.region ?_
    refine LL.val (R.move rfl rfl) rfl rfl rfl ?_
    refine LL.val (R.addNc rfl rfl rfl rfl (by omega)) rfl rfl rfl ?_
    refine LL.val (R.assign rfl rfl) rfl rfl rfl ?_
    refine LL.nil ?_
    exact EE.round (t + 1) ⟨rfl, rfl, rfl, rfl, trivial⟩ ⟨by show t + 1 ≤ 20000; omega, q, by rw [hstep]; exact RwR.put ho1 (by assumption) (by omega), r6⟩ (by show 20000 - (t + 1) < 20000 - t; omega)
    have lb598 := r6.lt
    have lb599 := r8.lt
    refine ZR.alloc ([Value.int IntKind.i64 0, Value.int IntKind.i64 0, Value.string { data := { toList := [] } }]) rfl rfl rfl rfl rfl rfl ?_
    intro Wb601 gb602 egb602 rb603 zb604 bb600
    replace bb275 := bb275.trans (bb600.mono bb275.size)
    replace q := q.trans (bb600.mono q.size)
    replace r6 := r6.up bb600
    replace r8 := r8.up bb600
    replace c1W := cell_up c1W bb600
    replace q2 := q2.trans (bb600.mono q2.size)
    replace hok := hok.trans (bkept bb600 (fun j h => by have := h.1; have := hok.size; omega))
    have yb605 := hok.size
    refine ⟨hok, ?_⟩
    refine AA.one 7 (by kernel_rfl) ?_
    have lb610 := rb603.lt
    have lb611 := r6.lt
    have lb612 := r8.lt
    (refine SR.call rfl (R.call rfl rfl rfl) rfl rfl (hfi2 _ q) ?_; rintro e Wb609 ⟨rfl, bb606⟩; refine ⟨_, rfl, ?_⟩)
    have zbb606 := bb606.size
    replace rb603 := rb603.up bb606
    replace bb600 := bb600.trans (bb606.mono bb600.size)
    replace bb275 := bb275.trans (bb606.mono bb275.size)
    replace q := q.trans (bb606.mono q.size)
    replace r6 := r6.up bb606
    replace r8 := r8.up bb606
    replace c1W := cell_up c1W bb606
    replace q2 := q2.trans (bb606.mono q2.size)
    replace hok := hok.trans (bkept bb606 (fun j h => by have := h.1; have := hok.size; omega))
    have yb616 := hok.size
    refine ⟨hok, ?_⟩
    refine AA.pure 8 rfl hok (by kernel_rfl) (fun w' b' => R.move rfl rfl) rfl rfl ?_
    refine AA.pure 9 rfl hok (by kernel_rfl) (fun w' b' => R.extract rfl rfl rfl) rfl rfl ?_
    refine AA.pure 10 rfl hok (by kernel_rfl) (fun w' b' => R.extract rfl rfl rfl) rfl rfl ?_
    refine AA.one 12 (by kernel_rfl) ?_
    refine ZR.storeN (vs := [Value.int IntKind.i64 0, Value.int IntKind.i64 0, strV []]) rfl rfl rfl rfl rfl rb603 (by exact Nat.le_of_ble_eq_true rfl) (ones_of rfl) rfl rfl ?_
    intro Wb648 rb649 bb647 zb650
    have hlbb647 := rb603.lt
    replace rb649 : RowL Wb648 _ 38 [Value.int IntKind.i64 0, Value.int IntKind.i64 0, strV []] := rb649
    clear rb603
    replace bb600 := bb600.grown bb647 bb600.size (by rintro k ⟨⟩; omega)
    replace bb275 := bb275.grown bb647 bb275.size (by rintro k ⟨⟩; omega)
    replace q := q.grown bb647 q.size (by rintro k ⟨⟩; omega)
    replace r6 := r6.gr bb647 (by have := r6.lt; omega)
    replace r8 := r8.gr bb647 (by have := r8.lt; omega)
    replace c1W := cell_gr c1W bb647 (by omega)
    replace q2 := q2.grown bb647 q2.size (by rintro k ⟨⟩; omega)
    replace hok := hok.trans (grown_kept bb647 (fun j h => by have := h.1; have := hok.size; omega) (fun j h e => by cases e; have h2 := h.1; have h3 := h.2; omega))
    have rb603 := rb649
    clear rb649
    refine ⟨hok, ?_⟩
    refine AA.pure 13 rfl hok (by kernel_rfl) (fun w' b' => R.assign rfl rfl) rfl rfl ?_
    refine AA.done rfl ?_
    clear fzr6 fzr8 fzc1W hok
    refine EE.thenN ?_
    refine CC.seq ?_
    refine CC.region ?_
    refine LL.val (R.move rfl rfl) rfl rfl rfl ?_
    refine LL.nilS ?_
    refine CC.no rfl ?_
    refine CC.region ?_
    refine LL.val (R.load rfl rfl (I.ldNc (vs := [Value.int IntKind.i64 sd, Value.slice (some { block := bb, off := off }) n1 c1, Value.int IntKind.i64 ↑sk, Value.bool sf, Value.bool false, Value.int IntKind.i64 0, Value.int IntKind.i64 0, strV [], Value.int IntKind.i64 0, Value.int IntKind.i64 0]) (RowL.cells r8 rfl) (by rfl) (by rfl))) rfl rfl rfl ?_
    have lb735 := r6.lt
    have lb736 := r8.lt
    have lb737 := rb603.lt
    (refine LL.call (R.call rfl rfl rfl) rfl rfl rfl (rmiss_any sd _ _ _ sk sf p r _ bb (hpF _ q2) (by omega) (by omega)) ?_; rintro e Wb734 ⟨vo, bo1, rfl, ho1, hbo1, bb731⟩; refine ⟨_, rfl, ?_⟩; obtain ⟨d1, a1, n1, c1, k1, f1, dn1, x1, rfl⟩ := ho1.form)
    have zbb731 := bb731.size
    replace bb600 := bb600.trans (bb731.mono bb600.size)
    replace bb275 := bb275.trans (bb731.mono bb275.size)
    replace q := q.trans (bb731.mono q.size)
    replace r6 := r6.up bb731
    replace r8 := r8.up bb731
    replace c1W := cell_up c1W bb731
    replace q2 := q2.trans (bb731.mono q2.size)
    replace rb603 := rb603.up bb731
    refine LL.storeN (vs := [Value.int IntKind.i64 d1, Value.slice a1 n1 c1, Value.int IntKind.i64 k1, Value.bool f1, Value.bool dn1, Value.int IntKind.i64 x1.1, Value.int IntKind.i64 x1.2.1, strV x1.2.2.1, Value.int IntKind.i64 x1.2.2.2.1, Value.int IntKind.i64 x1.2.2.2.2]) rfl rfl rfl rfl r8 (by exact Nat.le_of_ble_eq_true rfl) (ones_of rfl) rfl rfl ?_
    intro Wb772 rb773 bb771 zb774
    have hlbb771 := r8.lt
    replace rb773 : RowL Wb772 _ 33 [Value.int IntKind.i64 d1, Value.slice a1 n1 c1, Value.int IntKind.i64 k1, Value.bool f1, Value.bool dn1, Value.int IntKind.i64 x1.1, Value.int IntKind.i64 x1.2.1, strV x1.2.2.1, Value.int IntKind.i64 x1.2.2.2.1, Value.int IntKind.i64 x1.2.2.2.2] := rb773
    clear r8
    replace ho1 := ho1.gr bb771 (by omega)
    replace q := q.grown bb771 q.size (by rintro k ⟨⟩; omega)
    replace r6 := r6.gr bb771 (by have := r6.lt; omega)
    replace c1W := cell_gr c1W bb771 (by omega)
    replace rb603 := rb603.gr bb771 (by have := rb603.lt; omega)
    have r8 := rb773
    clear rb773
    refine LL.nil ?_
    refine EE.inN ?_
    refine EE.thenN ?_
    refine CC.region ?_
    refine LL.val (R.move rfl rfl) rfl rfl rfl ?_
    refine LL.val (R.addNc rfl rfl rfl rfl (by omega)) rfl rfl rfl ?_
    refine LL.val (R.assign rfl rfl) rfl rfl rfl ?_
    refine LL.nil ?_
    exact EE.round (t + 1) ⟨rfl, rfl, rfl, rfl, trivial⟩ ⟨by show t + 1 ≤ 20000; omega, q, by rw [hstep]; exact RwR.put ho1 (by assumption) (by omega), r6⟩ (by show 20000 - (t + 1) < 20000 - t; omega)
  | some f =>
    rw [hf] at hfi hstep
    dsimp only at hstep
    have ht' : f.2.1 = 3 → f.2.2.length ≤ 1048576 := fun h => by
      obtain ⟨y, hy, rfl⟩ := findP_mem hf
      exact hT y hy h
    have hfi2 : ∀ X, Below w.heap.size w X → Calls Tryd.prog 27 #[.slice a N c, .int .i64 sd, strV p] X fun e w' => e = .returned (.tuple #[fdV f, .bool true]) ∧ Below X.heap.size X w' := hfi
    clear hfi hF
    obtain ⟨fi, fk, ft⟩ := f
    refine CC.seq ?_
    refine CC.seq ?_
    refine CC.region ?_
    refine LL.val (R.move rfl rfl) rfl rfl rfl ?_
    refine LL.val (R.ltT rfl rfl rfl (by omega)) rfl rfl rfl ?_
    refine LL.val (R.move rfl rfl) rfl rfl rfl ?_
    refine LL.val (R.field rfl rfl (I.fld rfl)) rfl rfl rfl ?_
    refine LL.val (R.load rfl rfl (I.ld1 rfl (RowL.cell r8 rfl))) rfl rfl rfl ?_
    refine LL.val (R.not rfl rfl) rfl rfl rfl ?_
    refine LL.val (R.pick rfl rfl rfl) rfl rfl rfl ?_
    refine LL.nilS ?_
    refine CC.yes rfl ?_
    refine CC.skip ?_
    refine EE.thenN ?_
    refine CC.seq ?_
    refine CC.block ?_
    refine CC.seq ?_
    refine CC.freeZ (fun W_ j => j < W_.heap.size ∧ (True)) (by kernel_rfl) (by kernel_rfl) (fun Wc276 bc275 zc277 => ?_)
    replace q := q.trans (bc275.mono q.size)
    replace r6 := r6.up bc275
    replace r8 := r8.up bc275
    replace c1W := cell_up c1W bc275
    replace q2 := q2.trans (bc275.mono q2.size)
    have hok : Kept (fun j => j < Wc276.heap.size ∧ (True)) Wc276 Wc276 := Kept.refl _ _
    have fzr6 := fzRow (K := fun j => j < Wc276.heap.size ∧ (True)) r6 ⟨r6.lt, (by first | trivial | omega)⟩
    have fzr8 := fzRow (K := fun j => j < Wc276.heap.size ∧ (True)) r8 ⟨r8.lt, (by first | trivial | omega)⟩
    have fzc1W := fzCell (K := fun j => j < Wc276.heap.size ∧ (True)) c1W ⟨World.block_lt_of_cell? _ _ c1W, (by first | trivial | omega)⟩
    refine AA.pure 0 rfl hok (by kernel_rfl) (fun w' b' => R.move rfl rfl) rfl rfl ?_
    refine AA.pure 1 rfl hok (by kernel_rfl) (fun w' b' => R.field rfl rfl (I.fld rfl)) rfl rfl ?_
    refine AA.pure 2 rfl hok (by kernel_rfl) (fun w' b' => R.load rfl rfl (I.ld1 rfl (RowL.cell (fzr8 w' b') rfl))) rfl rfl ?_
    refine AA.pure 3 rfl hok (by kernel_rfl) (fun w' b' => R.field rfl rfl (I.fld rfl)) rfl rfl ?_
    refine AA.pure 4 rfl hok (by kernel_rfl) (fun w' b' => R.load rfl rfl (I.ld1 rfl (RowL.cell (fzr8 w' b') rfl))) rfl rfl ?_
    refine AA.pure 5 rfl hok (by kernel_rfl) (fun w' b' => R.index rfl rfl rfl (I.ixS1c rfl rfl (by omega))) rfl rfl ?_
    refine AA.pure 6 rfl hok (by kernel_rfl) (fun w' b' => R.load rfl rfl (I.ld1 rfl (fzc1W w' b'))) rfl rfl ?_
    refine AA.two 7 11 (by kernel_rfl) ?_ ?_
    have lc282 := r6.lt
    have lc283 := r8.lt
    (refine SR.call rfl (R.call rfl rfl rfl) rfl rfl (hfi2 _ q) ?_; rintro e Wc281 ⟨rfl, bc278⟩; refine ⟨_, rfl, ?_⟩)
    have zbc278 := bc278.size
    replace bc275 := bc275.trans (bc278.mono bc275.size)
    replace q := q.trans (bc278.mono q.size)
    replace r6 := r6.up bc278
    replace r8 := r8.up bc278
    replace c1W := cell_up c1W bc278
    replace q2 := q2.trans (bc278.mono q2.size)
    replace hok := hok.trans (bkept bc278 (fun j h => by have := h.1; have := hok.size; omega))
    have yc287 := hok.size
    refine ⟨hok, ?_⟩
    refine AA.pure 8 rfl hok (by kernel_rfl) (fun w' b' => R.move rfl rfl) rfl rfl ?_
    refine AA.pure 9 rfl hok (by kernel_rfl) (fun w' b' => R.extract rfl rfl rfl) rfl rfl ?_
    refine AA.pure 10 rfl hok (by kernel_rfl) (fun w' b' => R.extract rfl rfl rfl) rfl rfl ?_
    refine AA.one 11 (by kernel_rfl) ?_
    have lc315 := r6.lt
    have lc316 := r8.lt
    refine ZR.alloc ([Value.int IntKind.i64 0, Value.int IntKind.i64 0, Value.string { data := { toList := [] } }]) rfl rfl rfl rfl rfl rfl ?_
    intro Wc318 gc319 egc319 rc320 zc321 bc317
    replace bc278 := bc278.trans (bc317.mono bc278.size)
    replace bc275 := bc275.trans (bc317.mono bc275.size)
    replace q := q.trans (bc317.mono q.size)
    replace r6 := r6.up bc317
    replace r8 := r8.up bc317
    replace c1W := cell_up c1W bc317
    replace q2 := q2.trans (bc317.mono q2.size)
    replace hok := hok.trans (bkept bc317 (fun j h => by have := h.1; have := hok.size; omega))
    have yc322 := hok.size
    refine ⟨hok, ?_⟩
    refine AA.one 12 (by kernel_rfl) ?_
    refine ZR.storeN (vs := [Value.int IntKind.i64 fi, Value.int IntKind.i64 fk, strV ft]) rfl rfl rfl rfl rfl rc320 (by exact Nat.le_of_ble_eq_true rfl) (ones_of rfl) rfl rfl ?_
    intro Wc354 rc355 bc353 zc356
    have hlbc353 := rc320.lt
    replace rc355 : RowL Wc354 _ 38 [Value.int IntKind.i64 fi, Value.int IntKind.i64 fk, strV ft] := rc355
    clear rc320
    replace bc317 := bc317.grown bc353 bc317.size (by rintro k ⟨⟩; omega)
    replace bc278 := bc278.grown bc353 bc278.size (by rintro k ⟨⟩; omega)
    replace bc275 := bc275.grown bc353 bc275.size (by rintro k ⟨⟩; omega)
    replace q := q.grown bc353 q.size (by rintro k ⟨⟩; omega)
    replace r6 := r6.gr bc353 (by have := r6.lt; omega)
    replace r8 := r8.gr bc353 (by have := r8.lt; omega)
    replace c1W := cell_gr c1W bc353 (by omega)
    replace q2 := q2.grown bc353 q2.size (by rintro k ⟨⟩; omega)
    replace hok := hok.trans (grown_kept bc353 (fun j h => by have := h.1; have := hok.size; omega) (fun j h e => by cases e; have h2 := h.1; have h3 := h.2; omega))
    have rc320 := rc355
    clear rc355
    refine ⟨hok, ?_⟩
    refine AA.pure 13 rfl hok (by kernel_rfl) (fun w' b' => R.assign rfl rfl) rfl rfl ?_
    refine AA.done rfl ?_
    clear fzr6 fzr8 fzc1W hok
    refine EE.thenN ?_
    refine CC.seq ?_
    refine CC.region ?_
    refine LL.val (R.move rfl rfl) rfl rfl rfl ?_
    refine LL.nilS ?_
    refine CC.yes rfl ?_
    refine CC.region ?_
    refine LL.val (R.load rfl rfl (I.ldNc (vs := [Value.int IntKind.i64 sd, Value.slice (some { block := bb, off := off }) n1 c1, Value.int IntKind.i64 ↑sk, Value.bool sf, Value.bool false, Value.int IntKind.i64 0, Value.int IntKind.i64 0, strV [], Value.int IntKind.i64 0, Value.int IntKind.i64 0]) (RowL.cells r8 rfl) (by rfl) (by rfl))) rfl rfl rfl ?_
    refine LL.val (R.load rfl rfl (I.ldNc (vs := [Value.int IntKind.i64 fi, Value.int IntKind.i64 fk, strV ft]) (RowL.cells rc320 rfl) (by rfl) (by rfl))) rfl rfl rfl ?_
    have lc471 := r6.lt
    have lc472 := r8.lt
    have lc473 := rc320.lt
    (refine LL.call (R.call rfl rfl rfl) rfl rfl rfl (rgive_any sd _ _ _ sk sf p r (fi, fk, ft) _ bb (hpF _ q2) (by omega) ht' hlk (by omega)) ?_; rintro e Wc470 ⟨vo, bo1, rfl, ho1, hbo1, bc467⟩; refine ⟨_, rfl, ?_⟩; obtain ⟨d1, a1, n1, c1, k1, f1, dn1, x1, rfl⟩ := ho1.form)
    have zbc467 := bc467.size
    replace bc317 := bc317.trans (bc467.mono bc317.size)
    replace bc278 := bc278.trans (bc467.mono bc278.size)
    replace bc275 := bc275.trans (bc467.mono bc275.size)
    replace q := q.trans (bc467.mono q.size)
    replace r6 := r6.up bc467
    replace r8 := r8.up bc467
    replace c1W := cell_up c1W bc467
    replace q2 := q2.trans (bc467.mono q2.size)
    replace rc320 := rc320.up bc467
    refine LL.storeN (vs := [Value.int IntKind.i64 d1, Value.slice a1 n1 c1, Value.int IntKind.i64 k1, Value.bool f1, Value.bool dn1, Value.int IntKind.i64 x1.1, Value.int IntKind.i64 x1.2.1, strV x1.2.2.1, Value.int IntKind.i64 x1.2.2.2.1, Value.int IntKind.i64 x1.2.2.2.2]) rfl rfl rfl rfl r8 (by exact Nat.le_of_ble_eq_true rfl) (ones_of rfl) rfl rfl ?_
    intro Wc508 rc509 bc507 zc510
    have hlbc507 := r8.lt
    replace rc509 : RowL Wc508 _ 33 [Value.int IntKind.i64 d1, Value.slice a1 n1 c1, Value.int IntKind.i64 k1, Value.bool f1, Value.bool dn1, Value.int IntKind.i64 x1.1, Value.int IntKind.i64 x1.2.1, strV x1.2.2.1, Value.int IntKind.i64 x1.2.2.2.1, Value.int IntKind.i64 x1.2.2.2.2] := rc509
    clear r8
    replace ho1 := ho1.gr bc507 (by omega)
    replace q := q.grown bc507 q.size (by rintro k ⟨⟩; omega)
    replace r6 := r6.gr bc507 (by have := r6.lt; omega)
    replace c1W := cell_gr c1W bc507 (by omega)
    replace rc320 := rc320.gr bc507 (by have := rc320.lt; omega)
    have r8 := rc509
    clear rc509
    refine LL.nil ?_
    refine EE.inN ?_
    refine EE.thenN ?_
    refine CC.region ?_
    refine LL.val (R.move rfl rfl) rfl rfl rfl ?_
    refine LL.val (R.addNc rfl rfl rfl rfl (by omega)) rfl rfl rfl ?_
    refine LL.val (R.assign rfl rfl) rfl rfl rfl ?_
    refine LL.nil ?_
    exact EE.round (t + 1) ⟨rfl, rfl, rfl, rfl, trivial⟩ ⟨by show t + 1 ≤ 20000; omega, q, by rw [hstep]; exact RwR.put ho1 (by assumption) (by omega), r6⟩ (by show 20000 - (t + 1) < 20000 - t; omega)
    have lc628 := r6.lt
    have lc629 := r8.lt
    refine ZR.alloc ([Value.int IntKind.i64 0, Value.int IntKind.i64 0, Value.string { data := { toList := [] } }]) rfl rfl rfl rfl rfl rfl ?_
    intro Wc631 gc632 egc632 rc633 zc634 bc630
    replace bc275 := bc275.trans (bc630.mono bc275.size)
    replace q := q.trans (bc630.mono q.size)
    replace r6 := r6.up bc630
    replace r8 := r8.up bc630
    replace c1W := cell_up c1W bc630
    replace q2 := q2.trans (bc630.mono q2.size)
    replace hok := hok.trans (bkept bc630 (fun j h => by have := h.1; have := hok.size; omega))
    have yc635 := hok.size
    refine ⟨hok, ?_⟩
    refine AA.one 7 (by kernel_rfl) ?_
    have lc640 := rc633.lt
    have lc641 := r6.lt
    have lc642 := r8.lt
    (refine SR.call rfl (R.call rfl rfl rfl) rfl rfl (hfi2 _ q) ?_; rintro e Wc639 ⟨rfl, bc636⟩; refine ⟨_, rfl, ?_⟩)
    have zbc636 := bc636.size
    replace rc633 := rc633.up bc636
    replace bc630 := bc630.trans (bc636.mono bc630.size)
    replace bc275 := bc275.trans (bc636.mono bc275.size)
    replace q := q.trans (bc636.mono q.size)
    replace r6 := r6.up bc636
    replace r8 := r8.up bc636
    replace c1W := cell_up c1W bc636
    replace q2 := q2.trans (bc636.mono q2.size)
    replace hok := hok.trans (bkept bc636 (fun j h => by have := h.1; have := hok.size; omega))
    have yc646 := hok.size
    refine ⟨hok, ?_⟩
    refine AA.pure 8 rfl hok (by kernel_rfl) (fun w' b' => R.move rfl rfl) rfl rfl ?_
    refine AA.pure 9 rfl hok (by kernel_rfl) (fun w' b' => R.extract rfl rfl rfl) rfl rfl ?_
    refine AA.pure 10 rfl hok (by kernel_rfl) (fun w' b' => R.extract rfl rfl rfl) rfl rfl ?_
    refine AA.one 12 (by kernel_rfl) ?_
    refine ZR.storeN (vs := [Value.int IntKind.i64 fi, Value.int IntKind.i64 fk, strV ft]) rfl rfl rfl rfl rfl rc633 (by exact Nat.le_of_ble_eq_true rfl) (ones_of rfl) rfl rfl ?_
    intro Wc678 rc679 bc677 zc680
    have hlbc677 := rc633.lt
    replace rc679 : RowL Wc678 _ 38 [Value.int IntKind.i64 fi, Value.int IntKind.i64 fk, strV ft] := rc679
    clear rc633
    replace bc630 := bc630.grown bc677 bc630.size (by rintro k ⟨⟩; omega)
    replace bc275 := bc275.grown bc677 bc275.size (by rintro k ⟨⟩; omega)
    replace q := q.grown bc677 q.size (by rintro k ⟨⟩; omega)
    replace r6 := r6.gr bc677 (by have := r6.lt; omega)
    replace r8 := r8.gr bc677 (by have := r8.lt; omega)
    replace c1W := cell_gr c1W bc677 (by omega)
    replace q2 := q2.grown bc677 q2.size (by rintro k ⟨⟩; omega)
    replace hok := hok.trans (grown_kept bc677 (fun j h => by have := h.1; have := hok.size; omega) (fun j h e => by cases e; have h2 := h.1; have h3 := h.2; omega))
    have rc633 := rc679
    clear rc679
    refine ⟨hok, ?_⟩
    refine AA.pure 13 rfl hok (by kernel_rfl) (fun w' b' => R.assign rfl rfl) rfl rfl ?_
    refine AA.done rfl ?_
    clear fzr6 fzr8 fzc1W hok
    refine EE.thenN ?_
    refine CC.seq ?_
    refine CC.region ?_
    refine LL.val (R.move rfl rfl) rfl rfl rfl ?_
    refine LL.nilS ?_
    refine CC.yes rfl ?_
    refine CC.region ?_
    refine LL.val (R.load rfl rfl (I.ldNc (vs := [Value.int IntKind.i64 sd, Value.slice (some { block := bb, off := off }) n1 c1, Value.int IntKind.i64 ↑sk, Value.bool sf, Value.bool false, Value.int IntKind.i64 0, Value.int IntKind.i64 0, strV [], Value.int IntKind.i64 0, Value.int IntKind.i64 0]) (RowL.cells r8 rfl) (by rfl) (by rfl))) rfl rfl rfl ?_
    refine LL.val (R.load rfl rfl (I.ldNc (vs := [Value.int IntKind.i64 fi, Value.int IntKind.i64 fk, strV ft]) (RowL.cells rc633 rfl) (by rfl) (by rfl))) rfl rfl rfl ?_
    have lc795 := r6.lt
    have lc796 := r8.lt
    have lc797 := rc633.lt
    (refine LL.call (R.call rfl rfl rfl) rfl rfl rfl (rgive_any sd _ _ _ sk sf p r (fi, fk, ft) _ bb (hpF _ q2) (by omega) ht' hlk (by omega)) ?_; rintro e Wc794 ⟨vo, bo1, rfl, ho1, hbo1, bc791⟩; refine ⟨_, rfl, ?_⟩; obtain ⟨d1, a1, n1, c1, k1, f1, dn1, x1, rfl⟩ := ho1.form)
    have zbc791 := bc791.size
    replace bc630 := bc630.trans (bc791.mono bc630.size)
    replace bc275 := bc275.trans (bc791.mono bc275.size)
    replace q := q.trans (bc791.mono q.size)
    replace r6 := r6.up bc791
    replace r8 := r8.up bc791
    replace c1W := cell_up c1W bc791
    replace q2 := q2.trans (bc791.mono q2.size)
    replace rc633 := rc633.up bc791
    refine LL.storeN (vs := [Value.int IntKind.i64 d1, Value.slice a1 n1 c1, Value.int IntKind.i64 k1, Value.bool f1, Value.bool dn1, Value.int IntKind.i64 x1.1, Value.int IntKind.i64 x1.2.1, strV x1.2.2.1, Value.int IntKind.i64 x1.2.2.2.1, Value.int IntKind.i64 x1.2.2.2.2]) rfl rfl rfl rfl r8 (by exact Nat.le_of_ble_eq_true rfl) (ones_of rfl) rfl rfl ?_
    intro Wc832 rc833 bc831 zc834
    have hlbc831 := r8.lt
    replace rc833 : RowL Wc832 _ 33 [Value.int IntKind.i64 d1, Value.slice a1 n1 c1, Value.int IntKind.i64 k1, Value.bool f1, Value.bool dn1, Value.int IntKind.i64 x1.1, Value.int IntKind.i64 x1.2.1, strV x1.2.2.1, Value.int IntKind.i64 x1.2.2.2.1, Value.int IntKind.i64 x1.2.2.2.2] := rc833
    clear r8
    replace ho1 := ho1.gr bc831 (by omega)
    replace q := q.grown bc831 q.size (by rintro k ⟨⟩; omega)
    replace r6 := r6.gr bc831 (by have := r6.lt; omega)
    replace c1W := cell_gr c1W bc831 (by omega)
    replace rc633 := rc633.gr bc831 (by have := rc633.lt; omega)
    have r8 := rc833
    clear rc833
    refine LL.nil ?_
    refine EE.inN ?_
    refine EE.thenN ?_
    refine CC.region ?_
    refine LL.val (R.move rfl rfl) rfl rfl rfl ?_
    refine LL.val (R.addNc rfl rfl rfl rfl (by omega)) rfl rfl rfl ?_
    refine LL.val (R.assign rfl rfl) rfl rfl rfl ?_
    refine LL.nil ?_
    exact EE.round (t + 1) ⟨rfl, rfl, rfl, rfl, trivial⟩ ⟨by show t + 1 ≤ 20000; omega, q, by rw [hstep]; exact RwR.put ho1 (by assumption) (by omega), r6⟩ (by show 20000 - (t + 1) < 20000 - t; omega)
end Go.Proofs.YtbbddpnjglijdaaDoor
/- walk: small, end, works (written by genwk10.py). -/
namespace Go.Proofs.YtbbddpnjglijdaaDoor
set_option linter.unusedVariables false
set_option linter.unusedSimpArgs false
open Go.RowKit Go.Shelf
set_option maxRecDepth 100000
set_option maxHeartbeats 8000000
abbrev smL : List Pl := [(1, [97], 2, 2, []), (1, [108], 4, 3, [97]), (2, [98], 3, 1, []), (2, [46, 46], 1, 2, [])]
theorem small_any (w : World) : Calls Tryd.prog 23 #[] w fun e w' => ∃ g, e = .returned (.slice (some ⟨g, 0, none⟩) 4 4) ∧ RowL w' g 70 (smL.flatMap plE) ∧ w.heap.size ≤ g ∧ Below w.heap.size w w' := by
  have q := Below.refl w.heap.size w
  refine X.fn Tryd.func23 rfl (n := 10) rfl rfl ?_
  refine CC.seq ?_
  refine CC.region ?_
  refine LL.val (R.assign rfl rfl) rfl rfl rfl ?_
  refine LL.nilS ?_
  refine CC.seq ?_
  refine CC.region ?_
  refine LL.val (R.buildV rfl rfl (v := .agg #[Value.int IntKind.i64 2, Value.int IntKind.i64 2, Value.string { data := #[] }]) (fun _ => by kernel_rfl)) rfl rfl rfl ?_
  refine LL.val (R.buildV rfl rfl (v := .agg #[Value.int IntKind.i64 1, Value.string { data := #[97] }, Value.int IntKind.i64 2, Value.int IntKind.i64 2, Value.string { data := #[] }]) (fun _ => by kernel_rfl)) rfl rfl rfl ?_
  refine LL.val (R.buildV rfl rfl (v := .agg #[Value.int IntKind.i64 4, Value.int IntKind.i64 3, Value.string { data := #[97] }]) (fun _ => by kernel_rfl)) rfl rfl rfl ?_
  refine LL.val (R.buildV rfl rfl (v := .agg #[Value.int IntKind.i64 1, Value.string { data := #[108] }, Value.int IntKind.i64 4, Value.int IntKind.i64 3, Value.string { data := #[97] }]) (fun _ => by kernel_rfl)) rfl rfl rfl ?_
  refine LL.val (R.buildV rfl rfl (v := .agg #[Value.int IntKind.i64 3, Value.int IntKind.i64 1, Value.string { data := #[] }]) (fun _ => by kernel_rfl)) rfl rfl rfl ?_
  refine LL.val (R.buildV rfl rfl (v := .agg #[Value.int IntKind.i64 2, Value.string { data := #[98] }, Value.int IntKind.i64 3, Value.int IntKind.i64 1, Value.string { data := #[] }]) (fun _ => by kernel_rfl)) rfl rfl rfl ?_
  refine LL.val (R.buildV rfl rfl (v := .agg #[Value.int IntKind.i64 1, Value.int IntKind.i64 2, Value.string { data := #[] }]) (fun _ => by kernel_rfl)) rfl rfl rfl ?_
  refine LL.val (R.buildV rfl rfl (v := .agg #[Value.int IntKind.i64 2, Value.string { data := #[46, 46] }, Value.int IntKind.i64 1, Value.int IntKind.i64 2, Value.string { data := #[] }]) (fun _ => by kernel_rfl)) rfl rfl rfl ?_
  refine LL.lit (e := 70) [Value.int IntKind.i64 1, Value.string { data := #[97] }, Value.int IntKind.i64 2, Value.int IntKind.i64 2, Value.string { data := #[] }, Value.int IntKind.i64 1, Value.string { data := #[108] }, Value.int IntKind.i64 4, Value.int IntKind.i64 3, Value.string { data := #[97] }, Value.int IntKind.i64 2, Value.string { data := #[98] }, Value.int IntKind.i64 3, Value.int IntKind.i64 1, Value.string { data := #[] }, Value.int IntKind.i64 2, Value.string { data := #[46, 46] }, Value.int IntKind.i64 1, Value.int IntKind.i64 2, Value.string { data := #[] }] 4 rfl rfl (fun _ => by kernel_rfl) rfl rfl ?_
  intro W2 g3 eg3 r4 z5 b1
  replace q := q.trans (b1.mono q.size)
  refine LL.val (R.assign rfl rfl) rfl rfl rfl ?_
  refine LL.nilS ?_
  refine CC.ret ?_
  refine EE.ret _ rfl rfl ?_
  exact ⟨_, rfl, by assumption, by omega, q⟩
theorem end_T (path : Bs) (fol : Bool) (x : Wd) (k : Nat) (w : World) (hm : Mx w) (hl : path.length ≤ 1000) (hz : pathN path = 0) (hk : k ≤ 20000) (hx : (iterP smL k (newW path fol)).fin = some x) : Calls Tryd.prog 31 #[strV path, .bool fol, wdV x] w fun e w' => e = .returned (.bool true) ∧ Below w.heap.size w w' := by
  have q := Below.refl w.heap.size w
  have hx2 : (iterP smL 20000 (newW path fol)).fin = some x := by rw [iter_done hx hk]; exact hx
  have hgo := fun W u (h : ReadsT plE 5 W u smL) (m : Mx W) => goes_fin path fol u smL W m (by omega) hz h (by decide) (by decide) x hx2
  clear hx hx2
  refine X.fn Tryd.func31 rfl (n := 23) rfl rfl ?_
  refine CC.seq ?_
  refine CC.region ?_
  refine LL.box [Value.int IntKind.i64 x.1, Value.int IntKind.i64 x.2.1, strV x.2.2.1, Value.int IntKind.i64 x.2.2.2.1, Value.int IntKind.i64 x.2.2.2.2] rfl rfl rfl rfl rfl ?_
  intro W9 g10 eg10 r11 z12 b8
  replace hm := hm.up b8
  replace q := q.trans (b8.mono q.size)
  refine LL.val (R.assign rfl rfl) rfl rfl rfl ?_
  refine LL.nilS ?_
  refine CC.seq ?_
  refine CC.region ?_
  refine LL.val (R.move rfl rfl) rfl rfl rfl ?_
  refine LL.val (R.move rfl rfl) rfl rfl rfl ?_
  refine LL.call (R.call rfl rfl rfl) rfl rfl rfl (small_any _) ?_
  rintro e W46 ⟨g47, rfl, r48, l49, b45⟩
  refine ⟨_, rfl, ?_⟩
  have zb45 := b45.size
  replace r11 := r11.up b45
  replace b8 := b8.trans (b45.mono b8.size)
  replace hm := hm.up b45
  replace q := q.trans (b45.mono q.size)
  have l55 := r48.lt
  have l56 := r11.lt
  (refine LL.call (R.call rfl rfl rfl) rfl rfl rfl (hgo _ _ (RowL.readsT plEnc (ts := smL) (by assumption) 4 (by decide)) (by assumption)) ?_; rintro e W54 ⟨rfl, b51⟩; refine ⟨_, rfl, ?_⟩)
  have zb51 := b51.size
  replace r48 := r48.up b51
  replace b45 := b45.trans (b51.mono b45.size)
  replace r11 := r11.up b51
  replace b8 := b8.trans (b51.mono b8.size)
  replace hm := hm.up b51
  replace q := q.trans (b51.mono q.size)
  refine LL.val (R.move rfl rfl) rfl rfl rfl ?_
  refine LL.val (R.extract rfl rfl rfl) rfl rfl rfl ?_
  refine LL.val (R.extract rfl rfl rfl) rfl rfl rfl ?_
  have l96 := r48.lt
  have l97 := r11.lt
  refine LL.alloc ([Value.int IntKind.i64 0, Value.int IntKind.i64 0, Value.string { data := { toList := [] } }, Value.int IntKind.i64 0, Value.int IntKind.i64 0]) rfl rfl rfl rfl rfl ?_
  intro W99 g100 eg100 r101 z102 b98
  replace b51 := b51.trans (b98.mono b51.size)
  replace r48 := r48.up b98
  replace b45 := b45.trans (b98.mono b45.size)
  replace r11 := r11.up b98
  replace b8 := b8.trans (b98.mono b8.size)
  replace hm := hm.up b98
  replace q := q.trans (b98.mono q.size)
  refine LL.storeN (vs := [Value.int IntKind.i64 x.1, Value.int IntKind.i64 x.2.1, strV x.2.2.1, Value.int IntKind.i64 x.2.2.2.1, Value.int IntKind.i64 x.2.2.2.2]) rfl rfl rfl rfl r101 (by exact Nat.le_of_ble_eq_true rfl) (ones_of rfl) rfl rfl ?_
  intro W114 r115 b113 z116
  have hlb113 := r101.lt
  replace r115 : RowL W114 _ 31 [Value.int IntKind.i64 x.1, Value.int IntKind.i64 x.2.1, strV x.2.2.1, Value.int IntKind.i64 x.2.2.2.1, Value.int IntKind.i64 x.2.2.2.2] := r115
  clear r101
  replace b98 := b98.grown b113 b98.size (by rintro k ⟨⟩; omega)
  replace b51 := b51.grown b113 b51.size (by rintro k ⟨⟩; omega)
  replace r48 := r48.gr b113 (by have := r48.lt; omega)
  replace b45 := b45.grown b113 b45.size (by rintro k ⟨⟩; omega)
  replace r11 := r11.gr b113 (by have := r11.lt; omega)
  replace b8 := b8.grown b113 b8.size (by rintro k ⟨⟩; omega)
  replace hm := hm.gr b113 (by have := hm.lt; omega)
  replace q := q.grown b113 q.size (by rintro k ⟨⟩; omega)
  have r101 := r115
  clear r115
  refine LL.val (R.assign rfl rfl) rfl rfl rfl ?_
  refine LL.nilS ?_
  refine CC.seq ?_
  refine CC.region ?_
  refine LL.val (R.move rfl rfl) rfl rfl rfl ?_
  refine LL.val (R.eqT rfl rfl rfl (by omega)) rfl rfl rfl ?_
  refine LL.val (R.move rfl rfl) rfl rfl rfl ?_
  refine LL.val (R.load rfl rfl (I.ldNc (vs := [Value.int IntKind.i64 x.1, Value.int IntKind.i64 x.2.1, strV x.2.2.1, Value.int IntKind.i64 x.2.2.2.1, Value.int IntKind.i64 x.2.2.2.2]) (RowL.cells r101 rfl) (by rfl) (by rfl))) rfl rfl rfl ?_
  refine LL.val (R.load rfl rfl (I.ldNc (vs := [Value.int IntKind.i64 x.1, Value.int IntKind.i64 x.2.1, strV x.2.2.1, Value.int IntKind.i64 x.2.2.2.1, Value.int IntKind.i64 x.2.2.2.2]) (RowL.cells r11 rfl) (by rfl) (by rfl))) rfl rfl rfl ?_
  refine LL.vsplit (fun h => R.eqST (p := (x.1 : Int) = x.1 ∧ (x.2.1 : Int) = x.2.1 ∧ ({ data := List.toArray x.2.2.1 } : ByteArray).toList = ({ data := List.toArray x.2.2.1 } : ByteArray).toList ∧ (x.2.2.2.1 : Int) = x.2.2.2.1 ∧ (x.2.2.2.2 : Int) = x.2.2.2.2) (bs := [decide ((x.1 : Int) = x.1), decide ((x.2.1 : Int) = x.2.1), ({ data := List.toArray x.2.2.1 } : ByteArray).toList == ({ data := List.toArray x.2.2.1 } : ByteArray).toList, decide ((x.2.2.2.1 : Int) = x.2.2.2.1), decide ((x.2.2.2.2 : Int) = x.2.2.2.2)]) rfl rfl rfl rfl (by kernel_rfl) (by kernel_rfl) (by simp) h) (fun h => R.eqSF (p := (x.1 : Int) = x.1 ∧ (x.2.1 : Int) = x.2.1 ∧ ({ data := List.toArray x.2.2.1 } : ByteArray).toList = ({ data := List.toArray x.2.2.1 } : ByteArray).toList ∧ (x.2.2.2.1 : Int) = x.2.2.2.1 ∧ (x.2.2.2.2 : Int) = x.2.2.2.2) (bs := [decide ((x.1 : Int) = x.1), decide ((x.2.1 : Int) = x.2.1), ({ data := List.toArray x.2.2.1 } : ByteArray).toList == ({ data := List.toArray x.2.2.1 } : ByteArray).toList, decide ((x.2.2.2.1 : Int) = x.2.2.2.1), decide ((x.2.2.2.2 : Int) = x.2.2.2.2)]) rfl rfl rfl rfl (by kernel_rfl) (by kernel_rfl) (by simp) h) rfl rfl rfl (fun c187 => ?_) (fun c187 => ?_)
  refine LL.val (R.pick rfl rfl rfl) rfl rfl rfl ?_
  refine LL.val (R.assign rfl rfl) rfl rfl rfl ?_
  refine LL.nilS ?_
  refine CC.ret ?_
  refine EE.ret _ rfl rfl ?_
  exact ⟨rfl, q⟩
  refine LL.val (R.pick rfl rfl rfl) rfl rfl rfl ?_
  refine LL.val (R.assign rfl rfl) rfl rfl rfl ?_
  refine LL.nilS ?_
  refine CC.ret ?_
  refine EE.ret _ rfl rfl ?_
  exact absurd ⟨rfl, rfl, rfl, rfl, rfl⟩ c187
theorem works17_any (w : World) (hm : Mx w) : Calls Tryd.prog 8 #[] w fun e w' => e = .returned (.bool true) ∧ Below w.heap.size w w' := by
  have q := Below.refl w.heap.size w
  refine X.fn Tryd.func8 rfl (n := 38) rfl rfl ?_
  refine CC.seq ?_
  refine CC.region ?_
  refine LL.val (R.assign rfl rfl) rfl rfl rfl ?_
  refine LL.nilS ?_
  refine CC.seq ?_
  refine CC.region ?_
  (refine LL.call (R.call rfl rfl rfl) rfl rfl rfl (new_bad [98] 140 (by decide +kernel) (by decide) (by assumption) (by decide)) ?_; rintro e W60 ⟨rfl, b57⟩; refine ⟨_, rfl, ?_⟩)
  have zb57 := b57.size
  replace hm := hm.up b57
  replace q := q.trans (b57.mono q.size)
  refine LL.val (R.move rfl rfl) rfl rfl rfl ?_
  refine LL.val (R.extract rfl rfl rfl) rfl rfl rfl ?_
  refine LL.val (R.extract rfl rfl rfl) rfl rfl rfl ?_
  refine LL.val (R.assign rfl rfl) rfl rfl rfl ?_
  refine LL.val (R.assign rfl rfl) rfl rfl rfl ?_
  refine LL.nilS ?_
  refine CC.seq ?_
  refine CC.region ?_
  refine LL.val (R.buildV rfl rfl (v := .agg #[Value.int IntKind.i64 0, Value.int IntKind.i64 2, Value.string { data := #[98] }, Value.int IntKind.i64 3, Value.int IntKind.i64 1]) (fun _ => by kernel_rfl)) rfl rfl rfl ?_
  (refine LL.call (R.call rfl rfl rfl) rfl rfl rfl (end_T [47, 97, 47, 98] false (0, 2, [98], 3, 1) 6 _ (by assumption) (by decide) (by decide +kernel) (by decide) (by decide +kernel)) ?_; rintro e W410 ⟨rfl, b407⟩; refine ⟨_, rfl, ?_⟩)
  have zb407 := b407.size
  replace b57 := b57.trans (b407.mono b57.size)
  replace hm := hm.up b407
  replace q := q.trans (b407.mono q.size)
  refine LL.val (R.move rfl rfl) rfl rfl rfl ?_
  refine LL.val (R.buildV rfl rfl (v := .agg #[Value.int IntKind.i64 0, Value.int IntKind.i64 1, Value.string { data := #[97] }, Value.int IntKind.i64 2, Value.int IntKind.i64 2]) (fun _ => by kernel_rfl)) rfl rfl rfl ?_
  (refine LL.call (R.call rfl rfl rfl) rfl rfl rfl (end_T [47, 108] true (0, 1, [97], 2, 2) 6 _ (by assumption) (by decide) (by decide +kernel) (by decide) (by decide +kernel)) ?_; rintro e W543 ⟨rfl, b540⟩; refine ⟨_, rfl, ?_⟩)
  have zb540 := b540.size
  replace b407 := b407.trans (b540.mono b407.size)
  replace b57 := b57.trans (b540.mono b57.size)
  replace hm := hm.up b540
  replace q := q.trans (b540.mono q.size)
  refine LL.val (R.pick rfl rfl rfl) rfl rfl rfl ?_
  refine LL.val (R.move rfl rfl) rfl rfl rfl ?_
  refine LL.val (R.buildV rfl rfl (v := .agg #[Value.int IntKind.i64 0, Value.int IntKind.i64 1, Value.string { data := #[108] }, Value.int IntKind.i64 4, Value.int IntKind.i64 3]) (fun _ => by kernel_rfl)) rfl rfl rfl ?_
  (refine LL.call (R.call rfl rfl rfl) rfl rfl rfl (end_T [47, 108] false (0, 1, [108], 4, 3) 6 _ (by assumption) (by decide) (by decide +kernel) (by decide) (by decide +kernel)) ?_; rintro e W739 ⟨rfl, b736⟩; refine ⟨_, rfl, ?_⟩)
  have zb736 := b736.size
  replace b540 := b540.trans (b736.mono b540.size)
  replace b407 := b407.trans (b736.mono b407.size)
  replace b57 := b57.trans (b736.mono b57.size)
  replace hm := hm.up b736
  replace q := q.trans (b736.mono q.size)
  refine LL.val (R.pick rfl rfl rfl) rfl rfl rfl ?_
  refine LL.val (R.move rfl rfl) rfl rfl rfl ?_
  refine LL.val (R.buildV rfl rfl (v := .agg #[Value.int IntKind.i64 270, Value.int IntKind.i64 2, Value.string { data := #[99] }, Value.int IntKind.i64 0, Value.int IntKind.i64 0]) (fun _ => by kernel_rfl)) rfl rfl rfl ?_
  (refine LL.call (R.call rfl rfl rfl) rfl rfl rfl (end_T [47, 97, 47, 99] false (270, 2, [99], 0, 0) 6 _ (by assumption) (by decide) (by decide +kernel) (by decide) (by decide +kernel)) ?_; rintro e W942 ⟨rfl, b939⟩; refine ⟨_, rfl, ?_⟩)
  have zb939 := b939.size
  replace b736 := b736.trans (b939.mono b736.size)
  replace b540 := b540.trans (b939.mono b540.size)
  replace b407 := b407.trans (b939.mono b407.size)
  replace b57 := b57.trans (b939.mono b57.size)
  replace hm := hm.up b939
  replace q := q.trans (b939.mono q.size)
  refine LL.val (R.pick rfl rfl rfl) rfl rfl rfl ?_
  refine LL.val (R.move rfl rfl) rfl rfl rfl ?_
  refine LL.val (R.buildV rfl rfl (v := .agg #[Value.int IntKind.i64 270, Value.int IntKind.i64 0, Value.string { data := #[] }, Value.int IntKind.i64 0, Value.int IntKind.i64 0]) (fun _ => by kernel_rfl)) rfl rfl rfl ?_
  (refine LL.call (R.call rfl rfl rfl) rfl rfl rfl (end_T [47, 99, 47, 98] false (270, 0, [], 0, 0) 6 _ (by assumption) (by decide) (by decide +kernel) (by decide) (by decide +kernel)) ?_; rintro e W1152 ⟨rfl, b1149⟩; refine ⟨_, rfl, ?_⟩)
  have zb1149 := b1149.size
  replace b939 := b939.trans (b1149.mono b939.size)
  replace b736 := b736.trans (b1149.mono b736.size)
  replace b540 := b540.trans (b1149.mono b540.size)
  replace b407 := b407.trans (b1149.mono b407.size)
  replace b57 := b57.trans (b1149.mono b57.size)
  replace hm := hm.up b1149
  replace q := q.trans (b1149.mono q.size)
  refine LL.val (R.pick rfl rfl rfl) rfl rfl rfl ?_
  refine LL.val (R.move rfl rfl) rfl rfl rfl ?_
  refine LL.val (R.buildV rfl rfl (v := .agg #[Value.int IntKind.i64 271, Value.int IntKind.i64 0, Value.string { data := #[] }, Value.int IntKind.i64 0, Value.int IntKind.i64 0]) (fun _ => by kernel_rfl)) rfl rfl rfl ?_
  (refine LL.call (R.call rfl rfl rfl) rfl rfl rfl (end_T [47, 97, 47, 98, 47, 99] false (271, 0, [], 0, 0) 6 _ (by assumption) (by decide) (by decide +kernel) (by decide) (by decide +kernel)) ?_; rintro e W1369 ⟨rfl, b1366⟩; refine ⟨_, rfl, ?_⟩)
  have zb1366 := b1366.size
  replace b1149 := b1149.trans (b1366.mono b1149.size)
  replace b939 := b939.trans (b1366.mono b939.size)
  replace b736 := b736.trans (b1366.mono b736.size)
  replace b540 := b540.trans (b1366.mono b540.size)
  replace b407 := b407.trans (b1366.mono b407.size)
  replace b57 := b57.trans (b1366.mono b57.size)
  replace hm := hm.up b1366
  replace q := q.trans (b1366.mono q.size)
  refine LL.val (R.pick rfl rfl rfl) rfl rfl rfl ?_
  refine LL.val (R.move rfl rfl) rfl rfl rfl ?_
  refine LL.val (R.buildV rfl rfl (v := .agg #[Value.int IntKind.i64 0, Value.int IntKind.i64 0, Value.string { data := #[] }, Value.int IntKind.i64 1, Value.int IntKind.i64 2]) (fun _ => by kernel_rfl)) rfl rfl rfl ?_
  (refine LL.call (R.call rfl rfl rfl) rfl rfl rfl (end_T [47, 97, 47, 46, 46] false (0, 0, [], 1, 2) 6 _ (by assumption) (by decide) (by decide +kernel) (by decide) (by decide +kernel)) ?_; rintro e W1593 ⟨rfl, b1590⟩; refine ⟨_, rfl, ?_⟩)
  have zb1590 := b1590.size
  replace b1366 := b1366.trans (b1590.mono b1366.size)
  replace b1149 := b1149.trans (b1590.mono b1149.size)
  replace b939 := b939.trans (b1590.mono b939.size)
  replace b736 := b736.trans (b1590.mono b736.size)
  replace b540 := b540.trans (b1590.mono b540.size)
  replace b407 := b407.trans (b1590.mono b407.size)
  replace b57 := b57.trans (b1590.mono b57.size)
  replace hm := hm.up b1590
  replace q := q.trans (b1590.mono q.size)
  refine LL.val (R.pick rfl rfl rfl) rfl rfl rfl ?_
  refine LL.val (R.move rfl rfl) rfl rfl rfl ?_
  refine LL.val (R.move rfl rfl) rfl rfl rfl ?_
  refine LL.call (R.call rfl rfl rfl) rfl rfl rfl (num17_any _ _) ?_
  rintro e W' ⟨rfl, rfl⟩
  refine ⟨_, rfl, ?_⟩
  refine LL.val (R.eqT rfl rfl rfl (by omega)) rfl rfl rfl ?_
  refine LL.val (R.pick rfl rfl rfl) rfl rfl rfl ?_
  refine LL.val (R.assign rfl rfl) rfl rfl rfl ?_
  refine LL.nilS ?_
  refine CC.ret ?_
  refine EE.ret _ rfl rfl ?_
  exact ⟨rfl, q⟩
end Go.Proofs.YtbbddpnjglijdaaDoor
/- walk: a walker is done behind so many answers; few (written by genwk12.py). -/
namespace Go.Proofs.YtbbddpnjglijdaaDoor
set_option linter.unusedVariables false
set_option linter.unusedSimpArgs false
open Go.RowKit Go.Shelf
set_option maxRecDepth 100000
set_option maxHeartbeats 8000000
theorem flatG_two : ∀ ps : List Bs, (∀ p ∈ ps, p ≠ []) → 2 * ps.length ≤ (flatG ps).length
  | [], _ => Nat.le_refl _
  | x :: ps, h => by
    have e2 : flatG (x :: ps) = (47 :: x) ++ flatG ps := rfl
    have ih := flatG_two ps fun p hp => h p (List.mem_cons_of_mem _ hp)
    have hx : 0 < x.length := List.length_pos_iff.2 (h x (List.mem_cons_self))
    rw [e2, List.length_append, List.length_cons, List.length_cons]
    omega
theorem partsL_two (l : Bs) : 2 * (partsL l).length ≤ l.length + 1 := by
  refine Nat.le_trans (flatG_two _ fun p hp => ?_) (flatG_parts l)
  unfold partsL at hp
  have := (List.mem_filter.1 hp).2
  intro e
  rw [e] at this
  cases this
/-- How many answers there are at most. -/
def muW (s : Wk) : Nat := match s.fin with
  | some _ => 0
  | none => s.ps.length + (8 - s.links) * 57
theorem mu_on (d : Int) (ps : List Bs) (k : Nat) (fol : Bool) : muW (Wk.on ⟨d, ps, k, fol, none⟩) ≤ ps.length + (8 - k) * 57 := by
  unfold Wk.on
  have h1 := skipD_len ps
  dsimp only
  split
  · exact Nat.zero_le _
  · rename_i p r e
    rw [e] at h1
    show (p :: r).length + (8 - k) * 57 ≤ _
    omega
theorem mu_link (d : Int) (r : List Bs) (k : Nat) (fol : Bool) (t : Bs) (ht : t.length ≤ 112) : muW (Wk.link ⟨d, r, k, fol, none⟩ t) ≤ r.length + (8 - k) * 57 := by
  unfold Wk.link
  dsimp only
  split
  · exact Nat.zero_le _
  · rename_i h8
    split
    · refine Nat.le_trans (mu_on _ _ _ _) ?_
      have h2 := partsL_two (lpath t)
      have h3 : (lpath t).length ≤ 113 := by
        unfold lpath
        split
        · omega
        · rw [List.length_cons]
          omega
      rw [List.length_append, show 8 - k = (8 - (k + 1)) + 1 by omega, Nat.add_mul]
      omega
    · exact Nat.zero_le _
theorem mu_give (d : Int) (p : Bs) (r : List Bs) (k : Nat) (fol : Bool) (f : Fd) (ht : f.2.2.length ≤ 112) : muW (Wk.give ⟨d, p :: r, k, fol, none⟩ f) ≤ r.length + (8 - k) * 57 := by
  unfold Wk.give
  dsimp only
  repeat' split
  · exact mu_on _ _ _ _
  · exact mu_link _ _ _ _ _ ht
  · exact mu_on _ _ _ _
  · exact Nat.zero_le _
  · exact Nat.zero_le _
def fewL (l : List Pl) : Prop := l.length ≤ 60 ∧ ∀ p ∈ l, p.2.2.2.2.length ≤ 112
theorem mu_step {l : List Pl} {s : Wk} (ha : s.asks) (hT : fewL l) (hf : s.fin = none) : muW (stepP l s) + 1 ≤ muW s := by
  obtain ⟨d, ps, k, fol, fin⟩ := s
  obtain ⟨p, r, hp, _⟩ := ha hf
  dsimp only at hf hp
  subst hf hp
  have e : muW ⟨d, p :: r, k, fol, none⟩ = r.length + 1 + (8 - k) * 57 := rfl
  rw [e]
  unfold stepP
  dsimp only
  split
  · rename_i f hfi
    obtain ⟨z, hz1, hz2⟩ := findP_mem hfi
    have := mu_give d p r k fol f (by rw [← hz2]; exact hT.2 z hz1)
    omega
  · have : muW (Wk.miss ⟨d, p :: r, k, fol, none⟩) = 0 := rfl
    omega
theorem mu_new {path : Bs} (fol : Bool) (h : pathN path = 0) : muW (newW path fol) ≤ 956 := by
  refine Nat.le_trans (mu_on _ _ _ _) ?_
  have := partsL_two path
  have := pathN_long h
  omega
theorem iter_mu {l : List Pl} {s : Wk} (ha : s.asks) (hT : fewL l) : ∀ n, (iterP l n s).fin = none → muW (iterP l n s) + n ≤ muW s
  | 0, _ => Nat.le_refl _
  | n + 1, h => by
    cases hf : (iterP l n s).fin with
    | some x =>
      have e : iterP l (n + 1) s = iterP l n s := step_done hf
      rw [e, hf] at h
      cases h
    | none =>
      have ih := iter_mu ha hT n hf
      have := mu_step (l := l) (iter_asks ha n) hT hf
      show muW (stepP l (iterP l n s)) + (n + 1) ≤ _
      omega
/-- Behind 1000 answers it is done. -/
theorem ends_in {l : List Pl} {path : Bs} (fol : Bool) (hz : pathN path = 0) (hT : fewL l) {n : Nat} (hn : 957 ≤ n) : ∃ x, (iterP l n (newW path fol)).fin = some x := by
  cases hf : (iterP l n (newW path fol)).fin with
  | some x => exact ⟨x, rfl⟩
  | none =>
    have := iter_mu (on_asks _) hT n hf
    have := mu_new fol hz
    unfold newW at *
    omega
theorem few_any (v : Value) (l : List Pl) (w : World) (hv : ReadsT plE 5 w v l) (hl : l.length ≤ 9223372036854775807) (b : Bool) (hb : b = true ↔ fewL l) : Calls Tryd.prog 18 #[v] w fun e w' => e = .returned (.bool b) ∧ Below w.heap.size w w' := by
  have q := Below.refl w.heap.size w
  obtain ⟨N, hN⟩ : ∃ N, l.length = N := ⟨_, rfl⟩
  obtain ⟨a, cap, rfl, hc⟩ := hv.form hN
  have hF : ∀ W, Below w.heap.size w W → ReadsT plE 5 W (.slice a N cap) l := fun W b => hv.up b
  rw [hN] at hl
  clear hv
  refine X.fn Tryd.func18 rfl (n := 25) rfl rfl ?_
  refine CC.seq ?_
  refine CC.region ?_
  refine LL.val (R.assign rfl rfl) rfl rfl rfl ?_
  refine LL.nilS ?_
  refine CC.seq ?_
  refine CC.seq ?_
  refine CC.region ?_
  refine LL.val (R.assign rfl rfl) rfl rfl rfl ?_
  refine LL.nilS ?_
  refine CC.block ?_
  refine CC.loop (α := Nat) (fun i => [(0, .slice a N cap), (3, .int .i64 (i : Int))]) (fun i W => i ≤ N ∧ i ≤ 61 ∧ Below w.heap.size w W ∧ ∀ p ∈ l.take i, p.2.2.2.2.length ≤ 112) (fun i => N - i) 0 ⟨rfl, rfl, trivial⟩ ⟨Nat.zero_le _, Nat.zero_le _, q, fun p hp => by cases hp⟩ ?_
  clear q
  rintro i W ⟨hi, h61, q, hall⟩
  show CC none Tryd.prog _ 25 [] (sl [(0, .slice a N cap), (3, .int .i64 (i : Int))]) _ W
  by_cases hlt : i < N ∧ i ≤ 60
  case neg =>
    by_cases h60 : N ≤ 60
    · obtain rfl : N = i := by omega
      rw [List.take_of_length_le (by omega)] at hall
      obtain rfl : b = true := hb.2 ⟨by rw [hN]; exact h60, hall⟩
      clear hb
      refine CC.seq ?_
      refine CC.seq ?_
      refine CC.region ?_
      refine LL.val (R.move rfl rfl) rfl rfl rfl ?_
      refine LL.val (R.move rfl rfl) rfl rfl rfl ?_
      refine LL.val (R.len rfl rfl rfl rfl) rfl rfl rfl ?_
      refine LL.val (R.ltF rfl rfl rfl (by omega)) rfl rfl rfl ?_
      refine LL.val (R.move rfl rfl) rfl rfl rfl ?_
      refine LL.skip rfl rfl ?_
      refine LL.skip rfl rfl ?_
      refine LL.val (R.pick rfl rfl rfl) rfl rfl rfl ?_
      refine LL.nilS ?_
      refine CC.no rfl ?_
      refine CC.exit ?_
      refine EE.thenX ?_
      refine EE.thenX ?_
      refine EE.inX ?_
      refine EE.thenN ?_
      refine CC.seq ?_
      refine CC.region ?_
      refine LL.val (R.move rfl rfl) rfl rfl rfl ?_
      refine LL.val (R.len rfl rfl rfl rfl) rfl rfl rfl ?_
      refine LL.val (R.leT rfl rfl rfl (by omega)) rfl rfl rfl ?_
      refine LL.val (R.assign rfl rfl) rfl rfl rfl ?_
      refine LL.nilS ?_
      refine CC.ret ?_
      refine EE.ret _ rfl rfl ?_
      exact ⟨rfl, q⟩
    · obtain rfl : b = false := by
        cases b with
        | false => rfl
        | true => exact absurd (hb.1 rfl).1 (by rw [hN]; exact h60)
      clear hb hall
      obtain rfl : i = 61 := by omega
      refine CC.seq ?_
      refine CC.seq ?_
      refine CC.region ?_
      refine LL.val (R.move rfl rfl) rfl rfl rfl ?_
      refine LL.val (R.move rfl rfl) rfl rfl rfl ?_
      refine LL.val (R.len rfl rfl rfl rfl) rfl rfl rfl ?_
      refine LL.vsplit (fun h => R.ltT rfl rfl rfl h) (fun h => R.ltF rfl rfl rfl (Int.not_lt.1 h)) rfl rfl rfl (fun cb1 => ?_) (fun cb1 => ?_)
      refine LL.val (R.move rfl rfl) rfl rfl rfl ?_
      refine LL.val (R.move rfl rfl) rfl rfl rfl ?_
      refine LL.val (R.leF rfl rfl rfl (by omega)) rfl rfl rfl ?_
      refine LL.val (R.pick rfl rfl rfl) rfl rfl rfl ?_
      refine LL.nilS ?_
      refine CC.no rfl ?_
      refine CC.exit ?_
      refine EE.thenX ?_
      refine EE.thenX ?_
      refine EE.inX ?_
      refine EE.thenN ?_
      refine CC.seq ?_
      refine CC.region ?_
      refine LL.val (R.move rfl rfl) rfl rfl rfl ?_
      refine LL.val (R.len rfl rfl rfl rfl) rfl rfl rfl ?_
      refine LL.val (R.leF rfl rfl rfl (by omega)) rfl rfl rfl ?_
      refine LL.val (R.assign rfl rfl) rfl rfl rfl ?_
      refine LL.nilS ?_
      refine CC.ret ?_
      refine EE.ret _ rfl rfl ?_
      exact ⟨rfl, q⟩
      refine LL.val (R.move rfl rfl) rfl rfl rfl ?_
      refine LL.skip rfl rfl ?_
      refine LL.skip rfl rfl ?_
      refine LL.val (R.pick rfl rfl rfl) rfl rfl rfl ?_
      refine LL.nilS ?_
      refine CC.no rfl ?_
      refine CC.exit ?_
      refine EE.thenX ?_
      refine EE.thenX ?_
      refine EE.inX ?_
      refine EE.thenN ?_
      refine CC.seq ?_
      refine CC.region ?_
      refine LL.val (R.move rfl rfl) rfl rfl rfl ?_
      refine LL.val (R.len rfl rfl rfl rfl) rfl rfl rfl ?_
      refine LL.val (R.leF rfl rfl rfl (by omega)) rfl rfl rfl ?_
      refine LL.val (R.assign rfl rfl) rfl rfl rfl ?_
      refine LL.nilS ?_
      refine CC.ret ?_
      refine EE.ret _ rfl rfl ?_
      exact ⟨rfl, q⟩
  obtain ⟨hlt, hl60⟩ := hlt
  obtain ⟨⟨pd, pn, fi, fk, ft⟩, hx⟩ : ∃ x, l[i]? = some x := ⟨_, List.getElem?_eq_getElem (by omega)⟩
  obtain ⟨b1, o1, rfl, lb1, _⟩ := (hF _ q).get plEnc hx
  have m1 : CellsN W ⟨b1, o1 + i * 5, none⟩ 5 [.int .i64 pd, strV pn, .int .i64 fi, .int .i64 fk, strV ft] := (hF W q).elemN plEnc hx
  have c0 : W.cell? ⟨b1, o1 + i * 5 + 2 + 2, none⟩ = some (strV ft) := m1.at'.at (j := 4) rfl
  obtain ⟨n4, hn4⟩ : ∃ n, ft.length = n := ⟨_, rfl⟩
  by_cases h112 : n4 ≤ 112
  · have hall2 : ∀ p ∈ l.take (i + 1), p.2.2.2.2.length ≤ 112 := fun p hp => by
      rw [List.take_add_one, hx] at hp
      rcases List.mem_append.1 hp with hp | hp
      · exact hall p hp
      · obtain rfl := List.mem_singleton.1 hp
        show ft.length ≤ 112
        omega
    clear hall hb
    refine CC.seq ?_
    refine CC.seq ?_
    refine CC.region ?_
    refine LL.val (R.move rfl rfl) rfl rfl rfl ?_
    refine LL.val (R.move rfl rfl) rfl rfl rfl ?_
    refine LL.val (R.len rfl rfl rfl rfl) rfl rfl rfl ?_
    refine LL.val (R.ltT rfl rfl rfl (by omega)) rfl rfl rfl ?_
    refine LL.val (R.move rfl rfl) rfl rfl rfl ?_
    refine LL.val (R.move rfl rfl) rfl rfl rfl ?_
    refine LL.val (R.leT rfl rfl rfl (by omega)) rfl rfl rfl ?_
    refine LL.val (R.pick rfl rfl rfl) rfl rfl rfl ?_
    refine LL.nilS ?_
    refine CC.yes rfl ?_
    refine CC.skip ?_
    refine EE.thenN ?_
    refine CC.seq ?_
    refine CC.block ?_
    refine CC.seq ?_
    refine CC.region ?_
    refine LL.val (R.move rfl rfl) rfl rfl rfl ?_
    refine LL.val (R.move rfl rfl) rfl rfl rfl ?_
    refine LL.val (R.index rfl rfl rfl (I.ixS rfl (by omega))) rfl rfl rfl ?_
    refine LL.val (R.field rfl rfl (I.fld rfl)) rfl rfl rfl ?_
    refine LL.val (R.field rfl rfl (I.fld rfl)) rfl rfl rfl ?_
    refine LL.val (R.load rfl rfl (I.ld1 rfl (by assumption))) rfl rfl rfl ?_
    refine LL.val (R.lenS rfl rfl rfl rfl) rfl rfl rfl ?_
    refine LL.val (R.gtF rfl rfl rfl (by omega)) rfl rfl rfl ?_
    refine LL.nilS ?_
    refine CC.no rfl ?_
    refine CC.skip ?_
    refine EE.inN ?_
    refine EE.thenN ?_
    refine CC.region ?_
    refine LL.val (R.move rfl rfl) rfl rfl rfl ?_
    refine LL.val (R.addNc rfl rfl rfl rfl (by omega)) rfl rfl rfl ?_
    refine LL.val (R.assign rfl rfl) rfl rfl rfl ?_
    refine LL.nil ?_
    exact EE.round (i + 1) ⟨rfl, rfl, trivial⟩ ⟨by show i + 1 ≤ N; omega, by show i + 1 ≤ 61; omega, q, hall2⟩ (by show N - (i + 1) < N - i; omega)
  · obtain rfl : b = false := by
      cases b with
      | false => rfl
      | true =>
        have h2 : ft.length ≤ 112 := (hb.1 rfl).2 _ (List.mem_of_getElem? hx)
        omega
    clear hall hb
    refine CC.seq ?_
    refine CC.seq ?_
    refine CC.region ?_
    refine LL.val (R.move rfl rfl) rfl rfl rfl ?_
    refine LL.val (R.move rfl rfl) rfl rfl rfl ?_
    refine LL.val (R.len rfl rfl rfl rfl) rfl rfl rfl ?_
    refine LL.val (R.ltT rfl rfl rfl (by omega)) rfl rfl rfl ?_
    refine LL.val (R.move rfl rfl) rfl rfl rfl ?_
    refine LL.val (R.move rfl rfl) rfl rfl rfl ?_
    refine LL.val (R.leT rfl rfl rfl (by omega)) rfl rfl rfl ?_
    refine LL.val (R.pick rfl rfl rfl) rfl rfl rfl ?_
    refine LL.nilS ?_
    refine CC.yes rfl ?_
    refine CC.skip ?_
    refine EE.thenN ?_
    refine CC.seq ?_
    refine CC.block ?_
    refine CC.seq ?_
    refine CC.region ?_
    refine LL.val (R.move rfl rfl) rfl rfl rfl ?_
    refine LL.val (R.move rfl rfl) rfl rfl rfl ?_
    refine LL.val (R.index rfl rfl rfl (I.ixS rfl (by omega))) rfl rfl rfl ?_
    refine LL.val (R.field rfl rfl (I.fld rfl)) rfl rfl rfl ?_
    refine LL.val (R.field rfl rfl (I.fld rfl)) rfl rfl rfl ?_
    refine LL.val (R.load rfl rfl (I.ld1 rfl (by assumption))) rfl rfl rfl ?_
    refine LL.val (R.lenS rfl rfl rfl rfl) rfl rfl rfl ?_
    refine LL.val (R.gtT rfl rfl rfl (by omega)) rfl rfl rfl ?_
    refine LL.nilS ?_
    refine CC.yes rfl ?_
    refine CC.seq ?_
    refine CC.region ?_
    refine LL.val (R.assign rfl rfl) rfl rfl rfl ?_
    refine LL.nilS ?_
    refine CC.ret ?_
    refine EE.inR ?_
    refine EE.thenR ?_
    refine EE.thenR ?_
    refine EE.inR ?_
    refine EE.thenR ?_
    refine EE.ret _ rfl rfl ?_
    exact ⟨rfl, q⟩
end Go.Proofs.YtbbddpnjglijdaaDoor
/- walk: the program's Go (written by genwk24.py). -/
namespace Go.Proofs.YtbbddpnjglijdaaDoor
set_option linter.unusedVariables false
set_option linter.unusedSimpArgs false
open Go.RowKit Go.Shelf

set_option maxRecDepth 100000
set_option maxHeartbeats 8000000
section
variable {P : Program} {n : Nat} {D : List Deferred} {M : Slots} {w : World} {o : Oper} {x : Operand}
variable {t u : TypeId} {y : Operand}
theorem equal_fn_nn (h : isFn P t = true) : (Op.equal t .nilFunc .nilFunc).run P w = .ok true w := by
  unfold isFn at h
  cases hu : P.underlying t with
  | none => rw [hu] at h; cases h
  | some d =>
    rw [hu] at h
    cases d <;> try (cases h; done)
    unfold Op.equal Op.maxDepth Op.equalIn
    simp [run_underlying hu]
theorem R.eqFn0 (ho : o.op = .binOp .eql t x y u) (hx : evM M x = some .nilFunc) (hy : evM M y = some .nilFunc) (h : isFn P t = true) : Runs P n D M o w (.value (.bool true)) w :=
  R.bin ho hx hy (by show ((do eqGuard .eql t x y .nilFunc .nilFunc; binOp .eql t .nilFunc .nilFunc) : Sem Value).run P w = .ok (.bool true) w; simp [eqGuard, binOp, equal_fn_nn h])
end
theorem sm_few : fewL smL := ⟨by decide, by decide⟩
theorem no_few : fewL [] := ⟨by decide, fun p hp => by cases hp⟩
theorem told_any (d : Int) (nm : Bs) (w : World) : Calls Tryd.prog 22 #[.int .i64 d, strV nm] w fun e w' => e = .returned (.tuple #[fdV ((findP smL d nm).getD (0, 0, [])), .bool (findP smL d nm).isSome]) ∧ Below w.heap.size w w' := by
  have q := Below.refl w.heap.size w
  have hfi := fun (W : World) u (h : ReadsT plE 5 W u smL) => find_any d nm u smL W h (by decide)
  obtain ⟨f, hf⟩ : ∃ f, (findP smL d nm).getD (0, 0, []) = f := ⟨_, rfl⟩
  obtain ⟨b, hb⟩ : ∃ f, (findP smL d nm).isSome = f := ⟨_, rfl⟩
  rw [hf, hb] at hfi ⊢
  obtain ⟨fi, fk, ft⟩ := f
  clear hf hb
  refine X.fn Tryd.func22 rfl (n := 12) rfl rfl ?_
  refine CC.seq ?_
  refine CC.region ?_
  refine LL.alloc ([Value.int IntKind.i64 0, Value.int IntKind.i64 0, Value.string { data := { toList := [] } }]) rfl rfl rfl rfl rfl ?_
  intro W16 g17 eg17 r18 z19 b15
  replace q := q.trans (b15.mono q.size)
  refine LL.val (R.assign rfl rfl) rfl rfl rfl ?_
  refine LL.nilS ?_
  refine CC.seq ?_
  refine CC.region ?_
  have l40 := r18.lt
  (refine LL.call (R.call rfl rfl rfl) rfl rfl rfl (small_any _) ?_; rintro e W39 ⟨gs, rfl, rs, hgs, b36⟩; refine ⟨_, rfl, ?_⟩)
  have zb36 := b36.size
  replace r18 := r18.up b36
  replace b15 := b15.trans (b36.mono b15.size)
  replace q := q.trans (b36.mono q.size)
  refine LL.val (R.move rfl rfl) rfl rfl rfl ?_
  refine LL.val (R.move rfl rfl) rfl rfl rfl ?_
  have l93 := rs.lt
  have l94 := r18.lt
  (refine LL.call (R.call rfl rfl rfl) rfl rfl rfl (hfi _ _ (RowL.readsT plEnc (ts := smL) (by assumption) 4 (by decide))) ?_; rintro e W92 ⟨rfl, b89⟩; refine ⟨_, rfl, ?_⟩)
  have zb89 := b89.size
  replace rs := rs.up b89
  replace b36 := b36.trans (b89.mono b36.size)
  replace r18 := r18.up b89
  replace b15 := b15.trans (b89.mono b15.size)
  replace q := q.trans (b89.mono q.size)
  refine LL.val (R.extract rfl rfl rfl) rfl rfl rfl ?_
  refine LL.val (R.extract rfl rfl rfl) rfl rfl rfl ?_
  refine LL.storeN (vs := [Value.int IntKind.i64 fi, Value.int IntKind.i64 fk, strV ft]) rfl rfl rfl rfl r18 (by exact Nat.le_of_ble_eq_true rfl) (ones_of rfl) rfl rfl ?_
  intro W153 r154 b152 z155
  have hlb152 := r18.lt
  replace r154 : RowL W153 _ 38 [Value.int IntKind.i64 fi, Value.int IntKind.i64 fk, strV ft] := r154
  clear r18
  replace rs := rs.gr b152 (by have := rs.lt; omega)
  replace b15 := b15.grown b152 b15.size (by rintro k ⟨⟩; omega)
  replace q := q.grown b152 q.size (by rintro k ⟨⟩; omega)
  have r18 := r154
  clear r154
  refine LL.val (R.assign rfl rfl) rfl rfl rfl ?_
  refine LL.nilS ?_
  refine CC.ret ?_
  refine EE.ret2 rfl ⟨_, rfl, lvNc (RowL.cells0 (by assumption)) (by rfl) (by rfl)⟩ rfl ?_
  exact ⟨rfl, q⟩
theorem nobody_any (d : Int) (nm : Bs) (w : World) : Calls Tryd.prog 45 #[.int .i64 d, strV nm] w fun e w' => e = .returned (.tuple #[fdV ((findP [] d nm).getD (0, 0, [])), .bool (findP [] d nm).isSome]) ∧ Below w.heap.size w w' := by
  have q := Below.refl w.heap.size w
  refine X.fn Tryd.func45 rfl (n := 7) rfl rfl ?_
  refine CC.seq ?_
  refine CC.region ?_
  refine LL.alloc ([Value.int IntKind.i64 0, Value.int IntKind.i64 0, Value.string { data := { toList := [] } }]) rfl rfl rfl rfl rfl ?_
  intro W2 g3 eg3 r4 z5 b1
  replace q := q.trans (b1.mono q.size)
  refine LL.val (R.assign rfl rfl) rfl rfl rfl ?_
  refine LL.nilS ?_
  refine CC.seq ?_
  refine CC.region ?_
  refine LL.val (R.buildV rfl rfl (v := .agg #[Value.int IntKind.i64 0, Value.int IntKind.i64 0, Value.string { data := #[] }]) (fun _ => by kernel_rfl)) rfl rfl rfl ?_
  refine LL.storeN (vs := [Value.int IntKind.i64 0, Value.int IntKind.i64 0, Value.string { data := #[] }]) rfl rfl rfl rfl r4 (by exact Nat.le_of_ble_eq_true rfl) (ones_of rfl) rfl rfl ?_
  intro W7 r8 b6 z9
  have hlb6 := r4.lt
  replace r8 : RowL W7 _ 38 [Value.int IntKind.i64 0, Value.int IntKind.i64 0, Value.string { data := #[] }] := r8
  clear r4
  replace b1 := b1.grown b6 b1.size (by rintro k ⟨⟩; omega)
  replace q := q.grown b6 q.size (by rintro k ⟨⟩; omega)
  have r4 := r8
  clear r8
  refine LL.val (R.assign rfl rfl) rfl rfl rfl ?_
  refine LL.nilS ?_
  refine CC.ret ?_
  refine EE.ret2 rfl ⟨_, rfl, lvNc (RowL.cells0 (by assumption)) (by rfl) (by rfl)⟩ rfl ?_
  exact ⟨rfl, q⟩
theorem pgo_bad (path : Bs) (fol : Bool) (v : Value) (w : World) (hm : Mx w) (hl : path.length ≤ 9223372036854775807) (er : Nat) (he : pathN path = er) (h0 : er ≠ 0) : Calls Tryd.prog 21 #[strV path, .bool fol, v] w fun e w' => e = .returned (.tuple #[wdV wdZ, .int .i64 (er : Int)]) ∧ Below w.heap.size w w' := by
  have q := Below.refl w.heap.size w
  have he' : (er : Int) ≠ 0 := by omega
  refine X.fn Tryd.func21 rfl (n := 61) rfl rfl ?_
  refine CC.seq ?_
  refine CC.region ?_
  refine LL.alloc ([Value.int IntKind.i64 0, Value.int IntKind.i64 0, Value.string { data := { toList := [] } }, Value.int IntKind.i64 0, Value.int IntKind.i64 0]) rfl rfl rfl rfl rfl ?_
  intro W9 g10 eg10 r11 z12 b8
  replace hm := hm.up b8
  replace q := q.trans (b8.mono q.size)
  refine LL.val (R.assign rfl rfl) rfl rfl rfl ?_
  refine LL.nilS ?_
  refine CC.seq ?_
  refine CC.region ?_
  refine LL.val (R.move rfl rfl) rfl rfl rfl ?_
  refine LL.val (R.move rfl rfl) rfl rfl rfl ?_
  have l41 := r11.lt
  (refine LL.call (R.call rfl rfl rfl) rfl rfl rfl (new_bad path er he h0 (by assumption) hl) ?_; rintro e W40 ⟨rfl, b37⟩; refine ⟨_, rfl, ?_⟩)
  have zb37 := b37.size
  replace r11 := r11.up b37
  replace b8 := b8.trans (b37.mono b8.size)
  replace hm := hm.up b37
  replace q := q.trans (b37.mono q.size)
  refine LL.val (R.move rfl rfl) rfl rfl rfl ?_
  refine LL.val (R.extract rfl rfl rfl) rfl rfl rfl ?_
  refine LL.val (R.extract rfl rfl rfl) rfl rfl rfl ?_
  refine LL.val (R.assign rfl rfl) rfl rfl rfl ?_
  refine LL.val (R.assign rfl rfl) rfl rfl rfl ?_
  refine LL.nilS ?_
  refine CC.seq ?_
  refine CC.seq ?_
  refine CC.region ?_
  refine LL.val (R.move rfl rfl) rfl rfl rfl ?_
  refine LL.val (R.neT rfl rfl rfl (by omega)) rfl rfl rfl ?_
  refine LL.nilS ?_
  refine CC.yes rfl ?_
  refine CC.seq ?_
  refine CC.region ?_
  refine LL.val (R.buildV rfl rfl (v := .agg #[Value.int IntKind.i64 0, Value.int IntKind.i64 0, Value.string { data := #[] }, Value.int IntKind.i64 0, Value.int IntKind.i64 0]) (fun _ => by kernel_rfl)) rfl rfl rfl ?_
  refine LL.val (R.move rfl rfl) rfl rfl rfl ?_
  refine LL.storeN (vs := [Value.int IntKind.i64 0, Value.int IntKind.i64 0, Value.string { data := #[] }, Value.int IntKind.i64 0, Value.int IntKind.i64 0]) rfl rfl rfl rfl r11 (by exact Nat.le_of_ble_eq_true rfl) (ones_of rfl) rfl rfl ?_
  intro W126 r127 b125 z128
  have hlb125 := r11.lt
  replace r127 : RowL W126 _ 31 [Value.int IntKind.i64 0, Value.int IntKind.i64 0, Value.string { data := #[] }, Value.int IntKind.i64 0, Value.int IntKind.i64 0] := r127
  clear r11
  replace b8 := b8.grown b125 b8.size (by rintro k ⟨⟩; omega)
  replace q := q.grown b125 q.size (by rintro k ⟨⟩; omega)
  have r11 := r127
  clear r127
  refine LL.val (R.assign rfl rfl) rfl rfl rfl ?_
  refine LL.nilS ?_
  refine CC.ret ?_
  refine EE.thenR ?_
  refine EE.ret2 rfl ⟨_, rfl, lvNc (RowL.cells0 (by assumption)) (by rfl) (by rfl)⟩ rfl ?_
  exact ⟨rfl, q⟩
/-- What a walker asks. -/
def askQ (s : Wk) : Int × Bs × Bool := match s.fin with
  | some _ => (0, [], false)
  | none => (s.dir, s.ps.headD [], true)
theorem asksA (g : Nat) {s : Wk} {w : World} (A : WkAt w g s) (ha : s.asks) : Calls Tryd.prog 24 #[.pointer (some ⟨g, 0, none⟩)] w fun e w' => e = .returned (.tuple #[.int .i64 (askQ s).1, strV (askQ s).2.1, .bool (askQ s).2.2]) ∧ Below w.heap.size w w' := by
  cases hf : s.fin with
  | some y =>
    have := asksD g A y hf
    unfold askQ
    rw [hf]
    exact this
  | none =>
    obtain ⟨p, r, hp, _⟩ := ha hf
    have := asksW g A p r hf hp
    unfold askQ
    rw [hf, hp]
    exact this
theorem fin_uniq {l : List Pl} {s : Wk} {a b : Nat} {x y : Wd} (h1 : (iterP l a s).fin = some x) (h2 : (iterP l b s).fin = some y) : y = x := by
  rcases Nat.le_total a b with h | h
  · rw [iter_done h1 h, h1] at h2
    exact (Option.some.inj h2).symm
  · rw [iter_done h2 h, h2] at h1
    exact Option.some.inj h1
structure LaterG (A : Prop) : Prop where
  out : A
theorem meetH {α : Type} {A : α → World → Prop} {B : Prop} (F : α → World → Prop) (f : LaterG (∀ a w, F a w → A a w) → B) (k : ∀ a w, F a w → A a w) : B := f ⟨k⟩
theorem pgo_fin (path : Bs) (fol : Bool) (fv : Value) (fn : Nat) (hfv : fv = .func (.func fn) #[] #[] ∨ (fv = .nilFunc ∧ fn = 45)) (l : List Pl) (w : World) (hm : Mx w) (hl : path.length ≤ 9223372036854775807) (hz : pathN path = 0) (hen : entB Tryd.prog fn = true) (hfn : ∀ (W : World) (d : Int) (nm : Bs), Calls Tryd.prog fn #[.int .i64 d, strV nm] W fun e w' => e = .returned (.tuple #[fdV ((findP l d nm).getD (0, 0, [])), .bool (findP l d nm).isSome]) ∧ Below W.heap.size W w') (hT : fewL l) (x : Wd) (hx : (iterP l 20000 (newW path fol)).fin = some x) : Calls Tryd.prog 21 #[strV path, .bool fol, fv] w fun e w' => e = .returned (.tuple #[wdV x, .int .i64 0]) ∧ Below w.heap.size w w' := by
  have q := Below.refl w.heap.size w
  have hok := iter_ok (l := l) (new_ok fol hz)
  have has := iter_asks (l := l) (s := newW path fol) (on_asks _)
  refine X.fn Tryd.func21 rfl (n := 61) rfl rfl ?_
  refine CC.seq ?_
  refine CC.region ?_
  refine LL.alloc ([Value.int IntKind.i64 0, Value.int IntKind.i64 0, Value.string { data := { toList := [] } }, Value.int IntKind.i64 0, Value.int IntKind.i64 0]) rfl rfl rfl rfl rfl ?_
  intro W2 g3 eg3 r4 z5 b1
  replace hm := hm.up b1
  replace q := q.trans (b1.mono q.size)
  refine LL.val (R.assign rfl rfl) rfl rfl rfl ?_
  refine LL.nilS ?_
  refine CC.seq ?_
  refine CC.region ?_
  refine LL.val (R.move rfl rfl) rfl rfl rfl ?_
  refine LL.val (R.move rfl rfl) rfl rfl rfl ?_
  obtain ⟨S, hS⟩ : ∃ S, newW path fol = S := ⟨_, rfl⟩
  have hnew := fun (W : World) (m : Mx W) => new_yes (fol := fol) path hz m hl
  rw [hS] at hok has hx hnew
  have hm0 := hm.lt
  have lg3 := r4.lt
  have rr : RowL W2 g3 31 [.int .i64 0, .int .i64 0, strV [], .int .i64 0, .int .i64 0] := r4
  clear r4 b1
  apply meetH (fun (g : Nat) W' => WkAt W' g S ∧ Below w.heap.size w W' ∧ Mx W' ∧ RowL W' g3 31 [.int .i64 0, .int .i64 0, strV [], .int .i64 0, .int .i64 0] ∧ W2.heap.size ≤ g)
  case f =>
    intro lat
    have hN := hnew _ hm
    rcases id hfv with e | ⟨e, e2⟩
    · refine LL.keep [(0, strV path), (1, .bool fol), (2, .func (.func fn) #[] #[]), (6, .pointer (some ⟨g3, 0, none⟩)), (18, strV path), (19, .bool fol)] ⟨rfl, rfl, by rw [← e]; rfl, rfl, rfl, rfl, trivial⟩ ?_
      have la5 := rr.lt
      (refine LL.call (R.call rfl rfl rfl) rfl rfl rfl (hN) ?_; rintro e Wa4 ⟨g, rfl, A, hg, ba1⟩; refine ⟨_, rfl, ?_⟩)
      have zba1 := ba1.size
      replace hm := hm.up ba1
      replace q := q.trans (ba1.mono q.size)
      replace rr := rr.up ba1
      refine LL.val (R.move rfl rfl) rfl rfl rfl ?_
      refine LL.val (R.extract rfl rfl rfl) rfl rfl rfl ?_
      refine LL.val (R.extract rfl rfl rfl) rfl rfl rfl ?_
      refine LL.val (R.assign rfl rfl) rfl rfl rfl ?_
      refine LL.val (R.assign rfl rfl) rfl rfl rfl ?_
      refine LL.nilS ?_
      refine CC.seq ?_
      refine CC.seq ?_
      refine CC.region ?_
      refine LL.val (R.move rfl rfl) rfl rfl rfl ?_
      refine LL.val (R.neF rfl rfl rfl (by omega)) rfl rfl rfl ?_
      refine LL.nilS ?_
      refine CC.no rfl ?_
      refine CC.skip ?_
      refine EE.thenN ?_
      refine CC.seq ?_
      refine CC.seq ?_
      refine CC.region ?_
      refine LL.val (R.move rfl rfl) rfl rfl rfl ?_
      refine LL.val (R.eqFn rfl rfl rfl rfl) rfl rfl rfl ?_
      refine LL.nilS ?_
      refine CC.no rfl ?_
      refine CC.skip ?_
      refine EE.thenN ?_
      refine CC.seq ?_
      refine CC.seq ?_
      refine CC.region ?_
      refine LL.val (R.move rfl rfl) rfl rfl rfl ?_
      (refine LL.keep [(2, .func (.func fn) #[] #[]), (6, .pointer (some ⟨g3, 0, none⟩)), (8, .pointer (some ⟨g, 0, none⟩)), (30, .pointer (some ⟨g, 0, none⟩))] ⟨rfl, rfl, rfl, rfl, trivial⟩ ?_; exact lat.out _ _ ⟨A, q, by assumption, by assumption, hg⟩)
    · refine LL.keep [(0, strV path), (1, .bool fol), (2, .nilFunc), (6, .pointer (some ⟨g3, 0, none⟩)), (18, strV path), (19, .bool fol)] ⟨rfl, rfl, by rw [← e]; rfl, rfl, rfl, rfl, trivial⟩ ?_
      have lb5 := rr.lt
      (refine LL.call (R.call rfl rfl rfl) rfl rfl rfl (hN) ?_; rintro e Wb4 ⟨g, rfl, A, hg, bb1⟩; refine ⟨_, rfl, ?_⟩)
      have zbb1 := bb1.size
      replace hm := hm.up bb1
      replace q := q.trans (bb1.mono q.size)
      replace rr := rr.up bb1
      refine LL.val (R.move rfl rfl) rfl rfl rfl ?_
      refine LL.val (R.extract rfl rfl rfl) rfl rfl rfl ?_
      refine LL.val (R.extract rfl rfl rfl) rfl rfl rfl ?_
      refine LL.val (R.assign rfl rfl) rfl rfl rfl ?_
      refine LL.val (R.assign rfl rfl) rfl rfl rfl ?_
      refine LL.nilS ?_
      refine CC.seq ?_
      refine CC.seq ?_
      refine CC.region ?_
      refine LL.val (R.move rfl rfl) rfl rfl rfl ?_
      refine LL.val (R.neF rfl rfl rfl (by omega)) rfl rfl rfl ?_
      refine LL.nilS ?_
      refine CC.no rfl ?_
      refine CC.skip ?_
      refine EE.thenN ?_
      refine CC.seq ?_
      refine CC.seq ?_
      refine CC.region ?_
      refine LL.val (R.move rfl rfl) rfl rfl rfl ?_
      (refine LL.val (R.eqFn0 rfl rfl rfl rfl) rfl rfl rfl ?_)
      refine LL.nilS ?_
      refine CC.yes rfl ?_
      refine CC.region ?_
      refine LL.val (R.assign rfl rfl) rfl rfl rfl ?_
      refine LL.nilS ?_
      refine CC.seq ?_
      refine CC.seq ?_
      refine CC.region ?_
      refine LL.val (R.move rfl rfl) rfl rfl rfl ?_
      (refine LL.keep [(2, .func (.func fn) #[] #[]), (6, .pointer (some ⟨g3, 0, none⟩)), (8, .pointer (some ⟨g, 0, none⟩)), (30, .pointer (some ⟨g, 0, none⟩))] ⟨by rw [e2]; rfl, rfl, rfl, rfl, trivial⟩ ?_; exact lat.out _ _ ⟨A, q, by assumption, by assumption, hg⟩)
  case k =>
    rintro g W5 ⟨A, q, hm, rr, hg⟩
    have hz5 := q.size
    have lgg : 0 < g ∧ g3 < g ∧ w.heap.size ≤ g3 := by omega
    have AF := fun X (b : Below W5.heap.size W5 X) => A.up b
    have qW := Below.refl W5.heap.size W5
    have has0 : S.asks := has 0
    clear A
    have lc5 := rr.lt
    (refine LL.call (R.call rfl rfl rfl) rfl rfl rfl (asksA g (AF _ qW) has0) ?_; rintro e Wc4 ⟨rfl, bc1⟩; refine ⟨_, rfl, ?_⟩)
    have zbc1 := bc1.size
    replace q := q.trans (bc1.mono q.size)
    replace hm := hm.up bc1
    replace rr := rr.up bc1
    replace qW := qW.trans (bc1.mono qW.size)
    refine LL.val (R.move rfl rfl) rfl rfl rfl ?_
    refine LL.val (R.extract rfl rfl rfl) rfl rfl rfl ?_
    refine LL.val (R.extract rfl rfl rfl) rfl rfl rfl ?_
    refine LL.val (R.extract rfl rfl rfl) rfl rfl rfl ?_
    refine LL.val (R.assign rfl rfl) rfl rfl rfl ?_
    refine LL.val (R.assign rfl rfl) rfl rfl rfl ?_
    refine LL.val (R.assign rfl rfl) rfl rfl rfl ?_
    refine LL.nilS ?_
    refine CC.block ?_
    refine CC.loop (α := Nat) (fun t => [(2, .func (.func fn) #[] #[]), (6, .pointer (some ⟨g3, 0, none⟩)), (8, .pointer (some ⟨g, 0, none⟩)), (10, .int .i64 (askQ (iterP l t S)).1), (11, strV (askQ (iterP l t S)).2.1), (12, .bool (askQ (iterP l t S)).2.2)]) (fun t W => Below w.heap.size w W ∧ WkAt W g (iterP l t S) ∧ Mx W ∧ RowL W g3 31 [.int .i64 0, .int .i64 0, strV [], .int .i64 0, .int .i64 0]) (fun t => muW (iterP l t S)) 0 ⟨rfl, rfl, rfl, rfl, rfl, rfl, trivial⟩ ⟨q, AF _ qW, hm, rr⟩ ?_
    clear q AF hm rr qW bc1 zbc1 lc5 hz5
    rintro t W ⟨q, A, hm, rr⟩
    have jq := q.size
    have jA := A.lt
    have hot := hok t
    have hat := has t
    have hat1 := has (t + 1)
    have hmu := mu_step hat hT
    have hun := fun y (h : (iterP l t S).fin = some y) => fin_uniq hx h
    have hnx : iterP l (t + 1) S = stepP l (iterP l t S) := rfl
    show CC none Tryd.prog _ 61 [] (sl [(2, .func (.func fn) #[] #[]), (6, .pointer (some ⟨g3, 0, none⟩)), (8, .pointer (some ⟨g, 0, none⟩)), (10, .int .i64 (askQ (iterP l t S)).1), (11, strV (askQ (iterP l t S)).2.1), (12, .bool (askQ (iterP l t S)).2.2)]) _ W
    obtain ⟨st, hst⟩ : ∃ s, iterP l t S = s := ⟨_, rfl⟩
    rw [hst] at A hnx hot hat hmu hun
    have AF := fun X (b : Below W.heap.size W X) => A.up b
    have qW := Below.refl W.heap.size W
    clear A hok has hx hnew
    cases hf : st.fin with
    | some y =>
      obtain rfl := hun y hf
      have ea : askQ (iterP l t S) = (0, [], false) := by rw [hst]; unfold askQ; rw [hf]
      rw [ea]
      clear hmu hun hat hat1 hot hnx
      refine CC.seq ?_
      refine CC.seq ?_
      refine CC.region ?_
      refine LL.val (R.move rfl rfl) rfl rfl rfl ?_
      refine LL.nilS ?_
      refine CC.no rfl ?_
      refine CC.exit ?_
      refine EE.thenX ?_
      refine EE.thenX ?_
      refine EE.inX ?_
      refine EE.thenN ?_
      refine CC.seq ?_
      refine CC.region ?_
      refine LL.val (R.move rfl rfl) rfl rfl rfl ?_
      have ld21 := rr.lt
      (refine LL.call (R.call rfl rfl rfl) rfl rfl rfl (doneD g (AF _ qW) y hf) ?_; rintro e Wd20 ⟨rfl, bd17⟩; refine ⟨_, rfl, ?_⟩)
      have zbd17 := bd17.size
      replace q := q.trans (bd17.mono q.size)
      replace hm := hm.up bd17
      replace rr := rr.up bd17
      replace qW := qW.trans (bd17.mono qW.size)
      refine LL.val (R.move rfl rfl) rfl rfl rfl ?_
      refine LL.val (R.extract rfl rfl rfl) rfl rfl rfl ?_
      refine LL.val (R.extract rfl rfl rfl) rfl rfl rfl ?_
      have ld57 := rr.lt
      refine LL.alloc ([Value.int IntKind.i64 0, Value.int IntKind.i64 0, Value.string { data := { toList := [] } }, Value.int IntKind.i64 0, Value.int IntKind.i64 0]) rfl rfl rfl rfl rfl ?_
      intro Wd59 gd60 egd60 rd61 zd62 bd58
      replace bd17 := bd17.trans (bd58.mono bd17.size)
      replace q := q.trans (bd58.mono q.size)
      replace hm := hm.up bd58
      replace rr := rr.up bd58
      replace qW := qW.trans (bd58.mono qW.size)
      refine LL.storeN (vs := [Value.int IntKind.i64 y.1, Value.int IntKind.i64 y.2.1, strV y.2.2.1, Value.int IntKind.i64 y.2.2.2.1, Value.int IntKind.i64 y.2.2.2.2]) rfl rfl rfl rfl rd61 (by exact Nat.le_of_ble_eq_true rfl) (ones_of rfl) rfl rfl ?_
      intro Wd73 rd74 bd72 zd75
      have hlbd72 := rd61.lt
      replace rd74 : RowL Wd73 _ 31 [Value.int IntKind.i64 y.1, Value.int IntKind.i64 y.2.1, strV y.2.2.1, Value.int IntKind.i64 y.2.2.2.1, Value.int IntKind.i64 y.2.2.2.2] := rd74
      clear rd61
      replace bd58 := bd58.grown bd72 bd58.size (by rintro k ⟨⟩; omega)
      replace bd17 := bd17.grown bd72 bd17.size (by rintro k ⟨⟩; omega)
      replace q := q.grown bd72 q.size (by rintro k ⟨⟩; omega)
      replace hm := hm.gr bd72 (by have := hm.lt; omega)
      replace rr := rr.gr bd72 (by have := rr.lt; omega)
      replace qW := qW.grown bd72 qW.size (by rintro k ⟨⟩; omega)
      have rd61 := rd74
      clear rd74
      refine LL.val (R.assign rfl rfl) rfl rfl rfl ?_
      refine LL.nilS ?_
      refine CC.seq ?_
      refine CC.region ?_
      refine LL.val (R.load rfl rfl (I.ldNc (vs := [Value.int IntKind.i64 y.1, Value.int IntKind.i64 y.2.1, strV y.2.2.1, Value.int IntKind.i64 y.2.2.2.1, Value.int IntKind.i64 y.2.2.2.2]) (RowL.cells rd61 rfl) (by rfl) (by rfl))) rfl rfl rfl ?_
      refine LL.storeN (vs := [Value.int IntKind.i64 y.1, Value.int IntKind.i64 y.2.1, strV y.2.2.1, Value.int IntKind.i64 y.2.2.2.1, Value.int IntKind.i64 y.2.2.2.2]) rfl rfl rfl rfl rr (by exact Nat.le_of_ble_eq_true rfl) (ones_of rfl) rfl rfl ?_
      intro Wd104 rd105 bd103 zd106
      have hlbd103 := rr.lt
      replace rd105 : RowL Wd104 _ 31 [Value.int IntKind.i64 y.1, Value.int IntKind.i64 y.2.1, strV y.2.2.1, Value.int IntKind.i64 y.2.2.2.1, Value.int IntKind.i64 y.2.2.2.2] := rd105
      clear rr
      replace q := q.grown bd103 q.size (by rintro k ⟨⟩; omega)
      replace rd61 := rd61.gr bd103 (by have := rd61.lt; omega)
      have rr := rd105
      clear rd105
      refine LL.val (R.assign rfl rfl) rfl rfl rfl ?_
      refine LL.nilS ?_
      refine CC.ret ?_
      refine EE.ret2 rfl ⟨_, rfl, lvNc (RowL.cells0 (by assumption)) (by rfl) (by rfl)⟩ rfl ?_
      exact ⟨rfl, q⟩
    | none =>
      obtain ⟨p, r, hp, _⟩ := hat hf
      have ea : askQ (iterP l t S) = (st.dir, p, true) := by rw [hst]; unfold askQ; rw [hf, hp]; rfl
      rw [ea]
      have hmu2 := hmu hf
      rw [← hnx] at hmu2
      cases hfi : findP l st.dir p with
      | some f =>
        have hft : f.2.1 = 3 → f.2.2.length ≤ 1048576 := fun _ => by
          obtain ⟨z, hz1, hz2⟩ := findP_mem hfi
          rw [← hz2]
          have := hT.2 z hz1
          omega
        have hs1 : iterP l (t + 1) S = st.give f := by
          rw [hnx]
          unfold stepP
          rw [hf, hp]
          dsimp only
          rw [hfi]
        rw [hs1] at hat1 hmu2
        have hfa : ∀ W : World, Calls Tryd.prog fn #[.int .i64 st.dir, strV p] W fun e w' => e = .returned (.tuple #[fdV f, .bool true]) ∧ Below W.heap.size W w' := fun W => by
          have := hfn W st.dir p
          rw [hfi] at this
          exact this
        obtain ⟨fi, fk, ft⟩ := f
        clear hmu hun hat hnx hT
        refine CC.seq ?_
        refine CC.seq ?_
        refine CC.region ?_
        refine LL.val (R.move rfl rfl) rfl rfl rfl ?_
        refine LL.nilS ?_
        refine CC.yes rfl ?_
        refine CC.skip ?_
        refine EE.thenN ?_
        refine CC.seq ?_
        refine CC.block ?_
        refine CC.seq ?_
        refine CC.region ?_
        refine LL.val (R.move rfl rfl) rfl rfl rfl ?_
        refine LL.val (R.move rfl rfl) rfl rfl rfl ?_
        refine LL.val (R.move rfl rfl) rfl rfl rfl ?_
        have le97 := rr.lt
        (refine LL.call (R.callV rfl rfl rfl hen) rfl rfl rfl (hfa _) ?_; rintro e We96 ⟨rfl, be93⟩; refine ⟨_, rfl, ?_⟩)
        have zbe93 := be93.size
        replace q := q.trans (be93.mono q.size)
        replace hm := hm.up be93
        replace rr := rr.up be93
        replace qW := qW.trans (be93.mono qW.size)
        refine LL.val (R.move rfl rfl) rfl rfl rfl ?_
        refine LL.val (R.extract rfl rfl rfl) rfl rfl rfl ?_
        refine LL.val (R.extract rfl rfl rfl) rfl rfl rfl ?_
        have le193 := rr.lt
        refine LL.alloc ([Value.int IntKind.i64 0, Value.int IntKind.i64 0, Value.string { data := { toList := [] } }]) rfl rfl rfl rfl rfl ?_
        intro We195 ge196 ege196 re197 ze198 be194
        replace be93 := be93.trans (be194.mono be93.size)
        replace q := q.trans (be194.mono q.size)
        replace hm := hm.up be194
        replace rr := rr.up be194
        replace qW := qW.trans (be194.mono qW.size)
        refine LL.storeN (vs := [Value.int IntKind.i64 fi, Value.int IntKind.i64 fk, strV ft]) rfl rfl rfl rfl re197 (by exact Nat.le_of_ble_eq_true rfl) (ones_of rfl) rfl rfl ?_
        intro We225 re226 be224 ze227
        have hlbe224 := re197.lt
        replace re226 : RowL We225 _ 38 [Value.int IntKind.i64 fi, Value.int IntKind.i64 fk, strV ft] := re226
        clear re197
        replace be194 := be194.grown be224 be194.size (by rintro k ⟨⟩; omega)
        replace be93 := be93.grown be224 be93.size (by rintro k ⟨⟩; omega)
        replace q := q.grown be224 q.size (by rintro k ⟨⟩; omega)
        replace hm := hm.gr be224 (by have := hm.lt; omega)
        replace rr := rr.gr be224 (by have := rr.lt; omega)
        replace qW := qW.grown be224 qW.size (by rintro k ⟨⟩; omega)
        have re197 := re226
        clear re226
        refine LL.val (R.assign rfl rfl) rfl rfl rfl ?_
        refine LL.nilS ?_
        refine CC.seq ?_
        refine CC.region ?_
        refine LL.val (R.move rfl rfl) rfl rfl rfl ?_
        refine LL.nilS ?_
        refine CC.yes rfl ?_
        refine CC.region ?_
        refine LL.val (R.move rfl rfl) rfl rfl rfl ?_
        refine LL.val (R.load rfl rfl (I.ldNc (vs := [Value.int IntKind.i64 fi, Value.int IntKind.i64 fk, strV ft]) (RowL.cells re197 rfl) (by rfl) (by rfl))) rfl rfl rfl ?_
        (refine LL.call (R.call rfl rfl rfl) rfl rfl rfl (giveW g (AF _ qW) p r hf hp hot (fi, fk, ft) (by assumption) lgg.1 hft) ?_; rintro e We340 ⟨rfl, hW, te339⟩; clear AF qW; have qW := Below.refl (World.heap We340).size We340; have AF := fun X (b : Below (World.heap We340).size We340 X) => hW.up b; refine ⟨_, rfl, ?_⟩)
        have zte339 := te339.size
        replace q := te339.onB q (fun j hj => ⟨by have := q.size; omega, by omega⟩)
        replace hm := hm.kept te339 ⟨by omega, by omega⟩
        replace rr := rr.kept te339 ⟨rr.lt, by omega⟩
        replace re197 := re197.kept te339 ⟨re197.lt, by omega⟩
        refine LL.nil ?_
        refine EE.inN ?_
        refine EE.thenN ?_
        refine CC.region ?_
        refine LL.val (R.move rfl rfl) rfl rfl rfl ?_
        have le389 := rr.lt
        have le390 := re197.lt
        (refine LL.call (R.call rfl rfl rfl) rfl rfl rfl (asksA g (AF _ qW) hat1) ?_; rintro e We388 ⟨rfl, be385⟩; refine ⟨_, rfl, ?_⟩)
        have zbe385 := be385.size
        replace hW := hW.up be385
        replace qW := qW.trans (be385.mono qW.size)
        replace q := q.trans (be385.mono q.size)
        replace hm := hm.up be385
        replace rr := rr.up be385
        replace re197 := re197.up be385
        refine LL.val (R.move rfl rfl) rfl rfl rfl ?_
        refine LL.val (R.extract rfl rfl rfl) rfl rfl rfl ?_
        refine LL.val (R.extract rfl rfl rfl) rfl rfl rfl ?_
        refine LL.val (R.extract rfl rfl rfl) rfl rfl rfl ?_
        refine LL.val (R.assign rfl rfl) rfl rfl rfl ?_
        refine LL.val (R.assign rfl rfl) rfl rfl rfl ?_
        refine LL.val (R.assign rfl rfl) rfl rfl rfl ?_
        refine LL.nil ?_
        exact EE.round (t + 1) ⟨rfl, rfl, rfl, by rw [hs1]; rfl, by rw [hs1]; rfl, by rw [hs1]; rfl, trivial⟩ ⟨q, by rw [hs1]; exact AF _ qW, by assumption, by assumption⟩ (by show muW (iterP l (t + 1) S) < muW (iterP l t S); rw [hs1, hst]; omega)
      | none =>
        have hs1 : iterP l (t + 1) S = st.miss := by
          rw [hnx]
          unfold stepP
          rw [hf, hp]
          dsimp only
          rw [hfi]
        rw [hs1] at hat1 hmu2
        have hfa : ∀ W : World, Calls Tryd.prog fn #[.int .i64 st.dir, strV p] W fun e w' => e = .returned (.tuple #[fdV (0, 0, []), .bool false]) ∧ Below W.heap.size W w' := fun W => by
          have := hfn W st.dir p
          rw [hfi] at this
          exact this
        clear hmu hun hat hnx hT
        refine CC.seq ?_
        refine CC.seq ?_
        refine CC.region ?_
        refine LL.val (R.move rfl rfl) rfl rfl rfl ?_
        refine LL.nilS ?_
        refine CC.yes rfl ?_
        refine CC.skip ?_
        refine EE.thenN ?_
        refine CC.seq ?_
        refine CC.block ?_
        refine CC.seq ?_
        refine CC.region ?_
        refine LL.val (R.move rfl rfl) rfl rfl rfl ?_
        refine LL.val (R.move rfl rfl) rfl rfl rfl ?_
        refine LL.val (R.move rfl rfl) rfl rfl rfl ?_
        have lf97 := rr.lt
        (refine LL.call (R.callV rfl rfl rfl hen) rfl rfl rfl (hfa _) ?_; rintro e Wf96 ⟨rfl, bf93⟩; refine ⟨_, rfl, ?_⟩)
        have zbf93 := bf93.size
        replace q := q.trans (bf93.mono q.size)
        replace hm := hm.up bf93
        replace rr := rr.up bf93
        replace qW := qW.trans (bf93.mono qW.size)
        refine LL.val (R.move rfl rfl) rfl rfl rfl ?_
        refine LL.val (R.extract rfl rfl rfl) rfl rfl rfl ?_
        refine LL.val (R.extract rfl rfl rfl) rfl rfl rfl ?_
        have lf193 := rr.lt
        refine LL.alloc ([Value.int IntKind.i64 0, Value.int IntKind.i64 0, Value.string { data := { toList := [] } }]) rfl rfl rfl rfl rfl ?_
        intro Wf195 gf196 egf196 rf197 zf198 bf194
        replace bf93 := bf93.trans (bf194.mono bf93.size)
        replace q := q.trans (bf194.mono q.size)
        replace hm := hm.up bf194
        replace rr := rr.up bf194
        replace qW := qW.trans (bf194.mono qW.size)
        refine LL.storeN (vs := [Value.int IntKind.i64 0, Value.int IntKind.i64 0, strV []]) rfl rfl rfl rfl rf197 (by exact Nat.le_of_ble_eq_true rfl) (ones_of rfl) rfl rfl ?_
        intro Wf225 rf226 bf224 zf227
        have hlbf224 := rf197.lt
        replace rf226 : RowL Wf225 _ 38 [Value.int IntKind.i64 0, Value.int IntKind.i64 0, strV []] := rf226
        clear rf197
        replace bf194 := bf194.grown bf224 bf194.size (by rintro k ⟨⟩; omega)
        replace bf93 := bf93.grown bf224 bf93.size (by rintro k ⟨⟩; omega)
        replace q := q.grown bf224 q.size (by rintro k ⟨⟩; omega)
        replace hm := hm.gr bf224 (by have := hm.lt; omega)
        replace rr := rr.gr bf224 (by have := rr.lt; omega)
        replace qW := qW.grown bf224 qW.size (by rintro k ⟨⟩; omega)
        have rf197 := rf226
        clear rf226
        refine LL.val (R.assign rfl rfl) rfl rfl rfl ?_
        refine LL.nilS ?_
        refine CC.seq ?_
        refine CC.region ?_
        refine LL.val (R.move rfl rfl) rfl rfl rfl ?_
        refine LL.nilS ?_
        refine CC.no rfl ?_
        refine CC.region ?_
        refine LL.val (R.move rfl rfl) rfl rfl rfl ?_
        (refine LL.call (R.call rfl rfl rfl) rfl rfl rfl (missW g (AF _ qW) p r hf hp hot) ?_; rintro e Wf315 ⟨rfl, hW, tf314⟩; clear AF qW; have qW := Below.refl (World.heap Wf315).size Wf315; have AF := fun X (b : Below (World.heap Wf315).size Wf315 X) => hW.up b; refine ⟨_, rfl, ?_⟩)
        have ztf314 := tf314.size
        replace q := tf314.onB q (fun j hj => ⟨by have := q.size; omega, by omega⟩)
        replace hm := hm.kept tf314 ⟨by omega, by omega⟩
        replace rr := rr.kept tf314 ⟨rr.lt, by omega⟩
        replace rf197 := rf197.kept tf314 ⟨rf197.lt, by omega⟩
        refine LL.nil ?_
        refine EE.inN ?_
        refine EE.thenN ?_
        refine CC.region ?_
        refine LL.val (R.move rfl rfl) rfl rfl rfl ?_
        have lf364 := rr.lt
        have lf365 := rf197.lt
        (refine LL.call (R.call rfl rfl rfl) rfl rfl rfl (asksA g (AF _ qW) hat1) ?_; rintro e Wf363 ⟨rfl, bf360⟩; refine ⟨_, rfl, ?_⟩)
        have zbf360 := bf360.size
        replace hW := hW.up bf360
        replace qW := qW.trans (bf360.mono qW.size)
        replace q := q.trans (bf360.mono q.size)
        replace hm := hm.up bf360
        replace rr := rr.up bf360
        replace rf197 := rf197.up bf360
        refine LL.val (R.move rfl rfl) rfl rfl rfl ?_
        refine LL.val (R.extract rfl rfl rfl) rfl rfl rfl ?_
        refine LL.val (R.extract rfl rfl rfl) rfl rfl rfl ?_
        refine LL.val (R.extract rfl rfl rfl) rfl rfl rfl ?_
        refine LL.val (R.assign rfl rfl) rfl rfl rfl ?_
        refine LL.val (R.assign rfl rfl) rfl rfl rfl ?_
        refine LL.val (R.assign rfl rfl) rfl rfl rfl ?_
        refine LL.nil ?_
        exact EE.round (t + 1) ⟨rfl, rfl, rfl, by rw [hs1]; rfl, by rw [hs1]; rfl, by rw [hs1]; rfl, trivial⟩ ⟨q, by rw [hs1]; exact AF _ qW, by assumption, by assumption⟩ (by show muW (iterP l (t + 1) S) < muW (iterP l t S); rw [hs1, hst]; omega)
end Go.Proofs.YtbbddpnjglijdaaDoor
/- Opening the arguments of a law: slices of numbers, pairs of numbers. -/
namespace Go.Proofs.YtbbddpnjglijdaaDoor
set_option linter.unusedVariables false
set_option linter.unusedSimpArgs false
open Go.RowKit Go.ChangeShapes Go.WideShapes Go.ChangeAt

theorem own : ownKnob Tryd.prog.godebug = none := by kernel_rfl
theorem laidOut : laidOutB Tryd.prog = true := by kernel_rfl

section
variable {H : Type} {enc : TypeId × Value → H} {P : Program} {w : World} {base : Nat} {spare : Nat → Bool} {held : Bool} {r : Reach} {b0 : Nat} {t : TypeId} {v : Value} {d : DataW H} {p : List MemPlace}

end
end Go.Proofs.YtbbddpnjglijdaaDoor
/- Opening the arguments of a law: structs, arrays and slices of them, of integers, truth values and strings. Over any program. -/
namespace Go.Proofs.YtbbddpnjglijdaaDoor
set_option linter.unusedVariables false
set_option linter.unusedSimpArgs false
open Go.RowKit Go.ChangeShapes Go.WideShapes Go.ChangeAt Go.Deep
/-- What lies at a cell: an integer of a kind, a truth value, a string. -/
inductive Ckd where
  | int (k : IntKind)
  | bool
  | str
deriving DecidableEq
def atQ (P : Program) : Nat → TypeId → Nat → Option Ckd
  | 0, _, _ => none
  | d + 1, t, j => match P.underlying t with
    | some (.struct fs) => fs.toList.findSome? fun f => if f.offset ≤ j ∧ j < f.offset + P.cellsOf f.type then atQ P d f.type (j - f.offset) else none
    | some (.array n e) => if j / P.cellsOf e < n then atQ P d e (j % P.cellsOf e) else none
    | some (.int k) => if j = 0 then some (.int k) else none
    | some .bool => if j = 0 then some .bool else none
    | some .string => if j = 0 then some .str else none
    | _ => none
abbrev ZBS := Int × Bool × ByteArray
def cellQ : Ckd → ZBS → Value
  | .int k, z => .int k z.1
  | .bool, z => .bool z.2.1
  | .str, z => .string z.2.2
def wfQ : Ckd → ZBS → Prop
  | .int k, z => (Lit.int k z.1).wf = true
  | .bool, _ => True
  | .str, z => z.2.2.size ≤ maxLen
section
variable {α : Type} {encT : α → List Value} {H : Type} {enc : TypeId × Value → H} {P : Program} {w : World} {base : Nat} {spare : Nat → Bool} {held : Bool} {r : Reach} {b0 : Nat} {t : TypeId} {v : Value} {d : DataW H} {p : List MemPlace}
theorem trod_atQ : ∀ (n : Nat) (t : TypeId) (j fuel : Nat) (cs : List Value) (x : DataW H × List MemPlace) (k : Ckd), atQ P n t j = some k → DataW.trod enc P w base spare held fuel t cs = some x → ∃ z : ZBS, cs[j]? = some (cellQ k z) ∧ wfQ k z
  | 0, _, _, _, _, _, _, h, _ => by cases h
  | n + 1, t, j, fuel, cs, x, k, h, hx => by
    cases hu : P.underlying t with
    | none => simp [atQ, hu] at h
    | some kd =>
      cases kd <;> simp only [atQ, hu] at h <;> try (cases h; done)
      case int q =>
        split at h
        · rename_i hj
          cases h
          subst hj
          obtain ⟨z, e, _, hw⟩ := DataW.trod_int hu hx
          exact ⟨(z, false, ByteArray.empty), by rw [e]; rfl, hw⟩
        · cases h
      case bool =>
        split at h
        · rename_i hj
          cases h
          subst hj
          obtain ⟨b, e, _⟩ := DataW.trod_bool hu hx
          exact ⟨(0, b, ByteArray.empty), by rw [e]; rfl, trivial⟩
        · cases h
      case string =>
        split at h
        · rename_i hj
          cases h
          subst hj
          obtain ⟨s, e, _, hs⟩ := DataW.trod_string hu hx
          exact ⟨(0, false, s), by rw [e]; rfl, hs⟩
        · cases h
      case struct fs =>
        obtain ⟨f, hf, hfk⟩ := List.exists_of_findSome?_eq_some h
        split at hfk
        · rename_i hj
          obtain ⟨xs, m, _, rfl, hl, hlen, hf2⟩ := DataW.trod_struct hu hx
          obtain ⟨i, hi⟩ := List.mem_iff_getElem?.1 hf
          have h2 := hf2 i f (by simpa using hi)
          have hil : i < xs.length := by
            have := (List.getElem?_eq_some_iff.1 hi).1
            rw [Array.length_toList] at this
            omega
          rw [List.getElem?_eq_getElem hil] at h2
          obtain ⟨z, e, hw⟩ := trod_atQ n f.type (j - f.offset) _ _ _ k hfk h2
          refine ⟨z, ?_, hw⟩
          rw [List.getElem?_take] at e
          split at e
          · rw [List.getElem?_drop] at e
            rwa [show f.offset + (j - f.offset) = j by omega] at e
          · cases e
        · cases hfk
      case array m e =>
        split at h
        · rename_i hj
          obtain ⟨xs, m', _, rfl, hl, hlen, hi⟩ := DataW.trod_array hu hx
          have h2 := hi _ hj
          rw [List.getElem?_eq_getElem (by omega)] at h2
          obtain ⟨z, e', hw⟩ := trod_atQ n e (j % P.cellsOf e) _ _ _ k h h2
          refine ⟨z, ?_, hw⟩
          rw [List.getElem?_take] at e'
          split at e'
          · rw [List.getElem?_drop] at e'
            rwa [show j / P.cellsOf e * P.cellsOf e + j % P.cellsOf e = j by rw [Nat.mul_comm]; exact Nat.div_add_mod _ _] at e'
          · cases e'
        · cases h
theorem open_rowsQ {e c : Nat} (ks : Nat → Ckd) (E : Enc encT c) (f : (Nat → ZBS) → α) (hf : ∀ g, encT (f g) = (List.range c).map fun j => cellQ (ks j) (g j)) (ht : P.underlying t = some (.slice e)) (ce : P.cellsOf e = c) (hk : (List.range c).all (fun j => atQ P 9 e j == some (ks j)) = true)
    (hv : Value.okWide P w r b0 t v) (h : DataW.Trod enc P w base spare held t v d p) : ∃ gs : List (Nat → ZBS), ReadsT encT c w v (gs.map f) ∧ (∀ g ∈ gs, ∀ j, j < c → wfQ (ks j) (g j)) ∧ gs.length ≤ 9223372036854775807 := by
  obtain ⟨a, len, cap, rfl⟩ := okWide_slice ht hv
  obtain ⟨fuel, hfu⟩ := h
  rcases open_slice ht hfu with ⟨hcs, _⟩ | ⟨x, l, c', m, n, D, Pl, hcs, hb, hl, hm, hmm, _, hx⟩
  · simp [Value.cells] at hcs
    obtain ⟨rfl, rfl, rfl⟩ := hcs
    exact ⟨[], ReadsT.nil w, by simp, by simp⟩
  · simp [Value.cells] at hcs
    obtain ⟨rfl, rfl, rfl⟩ := hcs
    have hlm : len ≤ m := by rw [hmm]; split <;> omega
    have each : ∀ i, i < len → ∃ g : Nat → ZBS, ∀ j, j < c → w.cell? (x.add (i * c + j)) = some (cellQ (ks j) (g j)) ∧ wfQ (ks j) (g j) := by
      intro i hi
      obtain ⟨cs', h1, h2⟩ := hx i (by omega)
      rw [ce] at h1
      obtain ⟨_, hlen, hcell⟩ := World.cells?_some h1
      have hj : ∀ j, ∃ z : ZBS, j < c → cs'[j]? = some (cellQ (ks j) z) ∧ wfQ (ks j) z := fun j => by
        by_cases hjc : j < c
        · have hkj := List.all_eq_true.1 hk j (List.mem_range.2 hjc)
          obtain ⟨z, h3, h4⟩ := trod_atQ 9 e j n cs' (D i, Pl i) (ks j) (by simpa using hkj) h2
          exact ⟨z, fun _ => ⟨h3, h4⟩⟩
        · exact ⟨(0, false, ByteArray.empty), fun h => absurd h hjc⟩
      refine ⟨fun j => Classical.choose (hj j), fun j hjc => ?_⟩
      have hs := Classical.choose_spec (hj j) hjc
      refine ⟨?_, hs.2⟩
      have := hcell j (by omega)
      rw [add_add] at this
      rw [this]
      exact hs.1
    obtain ⟨G, hG⟩ := choose_lt each
    have hlen : (((List.range len).map G).map f).length = len := by simp
    refine ⟨(List.range len).map G, ⟨some x, cap, by rw [hlen], by rw [hlen]; exact hl, fun hne => ?_⟩, ?_, ?_⟩
    · have h0 : 0 < len := by
        rcases Nat.eq_zero_or_pos len with h0 | h0
        · subst h0; simp at hne
        · exact h0
      have hcp := E.pos
      obtain ⟨b, off, spot⟩ := x
      have hc0 := (hG 0 h0 0 hcp).1
      have hspot : spot = none := by simpa [Addr.add] using World.cell?_spot hc0
      subst hspot
      have hblt : b < w.heap.size := by
        rcases Nat.lt_or_ge b w.heap.size with hb | hb
        · exact hb
        · simp [Addr.add, World.cell?, Array.getElem?_eq_none hb] at hc0
      refine ⟨b, off, rfl, hblt, fun j hj => ?_⟩
      rw [hlen] at hj
      have hil : j / c < len := (Nat.div_lt_iff_lt_mul hcp).2 hj
      have hrl : j % c < c := Nat.mod_lt _ hcp
      have hc1 := (hG (j / c) hil (j % c) hrl).1
      rw [Addr.add_lit] at hc1
      have hje : j / c * c + j % c = j := by rw [Nat.mul_comm]; exact Nat.div_add_mod _ _
      have hget : (((List.range len).map G).map f)[j / c]? = some (f (G (j / c))) := by simp [hil]
      have hg := E.get _ (j / c) _ hget (j % c) hrl
      rw [hje] at hg hc1
      rw [hg, hf, hc1]
      simp [hrl]
    · intro g hg j hj
      obtain ⟨i, hi, rfl⟩ := List.mem_map.1 hg
      exact (hG i (List.mem_range.1 hi) j hj).2
    · simp only [List.length_map, List.length_range]
      unfold maxLen at hm
      omega
end
end Go.Proofs.YtbbddpnjglijdaaDoor
