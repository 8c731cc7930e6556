/- What the statements' walks use: St3, St4, St5, St6, St7, St8, St9, St20, Open, OpenC, OpenD, NoneW, Door. -/
import Derived.Test.YtompfnnmiccipaaGreatDoorRows
import Derived.ProofKit
import Derived.OpenShut
import Derived.ShutString
import Derived.ChangeOld
import Derived.ChangeSame
import Derived.Deep.Slices
import Derived.LaidMore
import Derived.Stop.Joined
import Derived.Lib.LaidTab
import Derived.Shelf.Vars
import Derived.Test.YtompfnnmiccipaaGreatDoorMna
/- stream: Copy; going over the names that were told (written by genst3.py). -/
namespace Go.Proofs.YtompfnnmiccipaaGreatDoor
set_option linter.unusedVariables false
set_option linter.unusedSimpArgs false
open Go.RowKit Go.Shelf
set_option maxRecDepth 100000
set_option maxHeartbeats 8000000
/-- Names with their numbers. -/
def inE (x : Nat × Nm) : List Value := [.int .i64 (x.1 : Int), .agg (nmE x.2).toArray]
def ixN (l : List Nm) : Nat → List (Nat × Nm)
  | 0 => []
  | k + 1 => match l[k]? with
    | some x => ixN l k ++ [(k, x)]
    | none => ixN l k
theorem ixN_step {l : List Nm} {k : Nat} {x : Nm} (h : l[k]? = some x) : ixN l (k + 1) = ixN l k ++ [(k, x)] := by
  show (match l[k]? with | some x => ixN l k ++ [(k, x)] | none => ixN l k) = _
  rw [h]
theorem ixN_len {l : List Nm} : ∀ {k : Nat}, k ≤ l.length → (ixN l k).length = k
  | 0, _ => rfl
  | k + 1, h => by
    rw [ixN_step (List.getElem?_eq_getElem (by omega)), List.length_append, ixN_len (by omega)]
    rfl
theorem ixN_pre {l : List Nm} (k : Nat) : ∀ n, k + n ≤ l.length → ∃ t, ixN l k ++ t = ixN l (k + n)
  | 0, _ => ⟨[], by simp⟩
  | n + 1, h => by
    obtain ⟨t, ht⟩ := ixN_pre (l := l) k n (by omega)
    refine ⟨t ++ [(k + n, l[k + n]'(by omega))], ?_⟩
    show _ = ixN l ((k + n) + 1)
    rw [ixN_step (List.getElem?_eq_getElem (by omega)), ← ht, List.append_assoc]
theorem ixN_at {l : List Nm} {pre : List (Nat × Nm)} {x : Nat × Nm} {t : List (Nat × Nm)} (h : (pre ++ [x]) ++ t = ixN l l.length) : x.1 = pre.length ∧ l[pre.length]? = some x.2 ∧ pre.length < l.length := by
  have hl := congrArg List.length h
  rw [ixN_len (Nat.le_refl _)] at hl
  simp at hl
  have hk : pre.length < l.length := by omega
  obtain ⟨y, hy⟩ : ∃ y, l[pre.length]? = some y := ⟨_, List.getElem?_eq_getElem hk⟩
  obtain ⟨t2, h2⟩ := ixN_pre (l := l) (pre.length + 1) (l.length - (pre.length + 1)) (by omega)
  rw [show pre.length + 1 + (l.length - (pre.length + 1)) = l.length by omega, ixN_step hy, ← h] at h2
  have hl2 : (ixN l pre.length).length = pre.length := ixN_len (by omega)
  simp only [List.append_assoc] at h2
  obtain ⟨_, h4⟩ := List.append_inj h2 hl2
  have h4' : (pre.length, y) :: t2 = x :: t := h4
  obtain rfl := (List.cons.inj h4').1
  exact ⟨rfl, hy, hk⟩
theorem reads_keeps {D : Nat → Prop} {w w' : World} {a : Option Addr} {n c bs : Nat} {l : List Nm} (h : ReadsT nmE 3 w (.slice a n c) l) (hs : w.heap.size ≤ w'.heap.size) (hk : Keeps D w w') (hD : D bs) (hbs : ∀ x, a = some x → 0 < n → x.block = bs) : ReadsT nmE 3 w' (.slice a n c) l := by
  obtain ⟨a', cap, e, hc, h'⟩ := h
  cases e
  refine ⟨a, c, rfl, hc, fun hne => ?_⟩
  obtain ⟨b, off, ha, hlt, hcell⟩ := h' hne
  have hb : b = bs := hbs _ ha (List.length_pos_iff.2 hne)
  subst hb
  exact ⟨b, off, ha, Nat.lt_of_lt_of_le hlt hs, fun j hj => (World.cell?_of_block (hk.same b hD)).trans (hcell j hj)⟩
theorem behind_nil (nv : Value) (us : List Nm) (w : World) (hv : ReadsT nmE 3 w nv us) (h2 : us.length ≤ 1000000) : Calls Tryz.prog 19 #[.slice none 0 0, nv] w fun e w' => ∃ v', e = .returned v' ∧ OwnsT nmE 3 w' w.heap.size 56 v' us ∧ Below w.heap.size w w' :=
  (behind_any (.slice none 0 0) nv [] us w w.heap.size (OwnsT.none _ _ _) hv (by decide) h2 (Nat.le_refl _)).mono fun e w' ⟨v', e1, oz, gra, _⟩ => ⟨v', e1, oz, (Below.refl w.heap.size w).grown gra (Nat.le_refl _) (fun k e => by cases e)⟩
theorem numbered1_gives (b bs : Nat) (a : Option Addr) (n c : Nat) (l : List Nm) (w : World) (hb : RowL w b 25 [.slice a n c]) (hv : ReadsT nmE 3 w (.slice a n c) l) (hn : l.length = n) (h : n ≤ 2000000) (hbs : ∀ x, a = some x → 0 < n → x.block = bs) :
    GivesZ Tryz.prog 30 [Value.pointer (some ⟨b, 0, none⟩)].toArray (fun x => (inE x).toArray) (fun k => k = bs) (fun xs => xs = ixN l l.length) w := by
  intro lp J Jx W hW hJ hJx hY h0
  replace hb := hb.up hW
  replace hv := hv.up hW
  have q := Below.refl W.heap.size W
  rw [show (#[.func (.yield lp) #[] #[]] ++ [Value.pointer (some ⟨b, 0, none⟩)].toArray : Array Value) = #[.func (.yield lp) #[] #[], .pointer (some ⟨b, 0, none⟩)] from rfl]
  refine X.fn Tryz.func30 rfl (n := 18) rfl rfl ?_
  refine CC.seq ?_
  refine CC.region ?_
  refine LL.val (R.load rfl rfl (I.ld1 rfl (RowL.cell hb rfl))) rfl rfl rfl ?_
  refine LL.val (R.len rfl rfl rfl rfl) rfl rfl rfl ?_
  refine LL.val (R.move rfl rfl) rfl rfl rfl ?_
  refine LL.nilS ?_
  refine CC.block ?_
  refine CC.loop (α := Nat) (fun i => [(0, .func (.yield lp) #[] #[]), (5, .slice a n c), (6, .int .i64 (n : Int)), (7, .int .i64 (i : Int))]) (fun i wr => i ≤ n ∧ W.heap.size ≤ wr.heap.size ∧ J (fun _ => False) (ixN l i) wr ∧ ReadsT nmE 3 wr (.slice a n c) l) (fun i => n - i) 0 ⟨rfl, rfl, rfl, rfl, trivial⟩ ⟨Nat.zero_le _, Nat.le_refl _, h0, hv⟩ ?_
  clear h0 q hb hv hW
  rintro i wr ⟨hi, hz, hJi, hv⟩
  show CC none Tryz.prog _ 18 [] (sl [(0, .func (.yield lp) #[] #[]), (5, .slice a n c), (6, .int .i64 (n : Int)), (7, .int .i64 (i : Int))]) _ wr
  by_cases hlt : i < n
  case neg =>
    obtain rfl : n = i := by omega
    refine CC.seq ?_
    refine CC.region ?_
    refine LL.val (R.ltF rfl rfl rfl (by omega)) rfl rfl rfl ?_
    refine LL.nilS ?_
    refine CC.seq ?_
    refine CC.no rfl ?_
    refine CC.exit ?_
    refine EE.thenX ?_
    refine EE.thenX ?_
    refine EE.inX ?_
    refine EE.end _ rfl rfl ?_
    exact ⟨⟨_, rfl⟩, .inl ⟨_, _, by rw [hn], hJi⟩⟩
  obtain ⟨x, hx⟩ : ∃ x, l[i]? = some x := ⟨_, List.getElem?_eq_getElem (by omega)⟩
  have hst := ixN_step hx
  have hpart : Part (fun xs => xs = ixN l l.length) (ixN l i ++ [(i, x)]) := by
    obtain ⟨t, ht⟩ := ixN_pre (l := l) (i + 1) (l.length - (i + 1)) (by omega)
    rw [show i + 1 + (l.length - (i + 1)) = l.length by omega] at ht
    exact ⟨_, rfl, t, by rw [← hst]; exact ht⟩
  obtain ⟨kx, nx, ix⟩ := x
  obtain ⟨b1, o1, rfl, lb1, _⟩ := hv.get nmEnc hx
  have m1 : CellsN wr ⟨b1, o1 + i * 3, none⟩ 3 [.int .u64 (kx : Int), strV nx, .int .i64 ix] := hv.elemN nmEnc hx
  have qn := Below.refl wr.heap.size wr
  have yield : ∀ X, Below wr.heap.size wr X → YieldAt Fence.wide 3 Tryz.prog lp (inE (i, kx, nx, ix)).toArray X fun e W' => (e = .returned (.bool true) ∧ W.heap.size ≤ W'.heap.size ∧ J (fun _ => False) (ixN l (i + 1)) W' ∧ ReadsT nmE 3 W' (.slice (some ⟨b1, o1, none⟩) n c) l) ∨ (e = .returned (.bool false) ∧ Jx (fun _ => False) (ixN l i ++ [(i, kx, nx, ix)]) W') := fun X b => by
    obtain ⟨fn, tm, ag, bd, hy, hR⟩ := hY (fun _ => False) _ _ X (fun k hk => hk.elim) (hJ _ (fun _ => False) _ _ _ hJi (.of_below b) fun k hk => hk.elim) hpart
    refine ⟨fn, tm, ag, bd, hy, hR.mono ?_⟩
    rintro e W' ⟨hs, (⟨rfl, h1, h2⟩ | ⟨rfl, h1⟩)⟩
    · exact .inl ⟨rfl, by have := hs.size; have := b.size; omega, by rw [hst]; exact h1, reads_keeps (hv.up b) hs.size h2 rfl hbs⟩
    · exact .inr ⟨rfl, h1⟩
  clear hJi hY hv
  refine CC.seq ?_
  refine CC.region ?_
  refine LL.val (R.ltT rfl rfl rfl (by omega)) rfl rfl rfl ?_
  refine LL.nilS ?_
  refine CC.seq ?_
  refine CC.yes rfl ?_
  refine CC.skip ?_
  refine EE.thenN ?_
  refine CC.seq ?_
  refine CC.block ?_
  refine CC.seq ?_
  refine CC.region ?_
  refine LL.val (R.move rfl rfl) rfl rfl rfl ?_
  refine LL.val (R.index rfl rfl rfl (I.ixS rfl (by omega))) rfl rfl rfl ?_
  refine LL.val (R.load rfl rfl (I.ldNc (by assumption) rfl rfl)) rfl rfl rfl ?_
  refine LL.alloc ([Value.int IntKind.u64 0, Value.string { data := { toList := [] } }, Value.int IntKind.i64 0]) rfl rfl rfl rfl rfl ?_
  intro Wb2 gb3 egb3 rb4 zb5 bb1
  replace m1 := m1.up bb1
  replace qn := qn.trans (bb1.mono qn.size)
  refine LL.val (R.assign rfl rfl) rfl rfl rfl ?_
  refine LL.storeN (vs := [Value.int IntKind.u64 ↑kx, strV nx, Value.int IntKind.i64 ix]) rfl rfl rfl rfl rb4 (by exact Nat.le_of_ble_eq_true rfl) (ones_of rfl) rfl rfl ?_
  intro Wb7 rb8 bb6 zb9
  have hlbb6 := rb4.lt
  replace rb8 : RowL Wb7 _ 56 [Value.int IntKind.u64 ↑kx, strV nx, Value.int IntKind.i64 ix] := rb8
  clear rb4
  replace bb1 := bb1.grown bb6 bb1.size (by rintro k ⟨⟩; omega)
  replace m1 := m1.gr bb6 (by have := m1.lt; omega)
  replace qn := qn.grown bb6 qn.size (by rintro k ⟨⟩; omega)
  have rb4 := rb8
  clear rb8
  refine LL.nilS ?_
  refine CC.seq ?_
  refine CC.region ?_
  refine LL.val (R.move rfl rfl) rfl rfl rfl ?_
  refine LL.val (R.move rfl rfl) rfl rfl rfl ?_
  refine LL.val (R.load rfl rfl (I.ldNc (vs := [Value.int IntKind.u64 ↑kx, strV nx, Value.int IntKind.i64 ix]) (RowL.cells rb4 rfl) (by rfl) (by rfl))) rfl rfl rfl ?_
  refine LL.yield (vs := inE (i, kx, nx, ix)) rfl rfl rfl rfl rfl (yield _ qn) ?_
  rintro e W4 (⟨rfl, z4, hJ4, hv4⟩ | ⟨rfl, hJx4⟩)
  · refine ⟨_, rfl, ?_⟩
    clear qn yield m1
    refine LL.val (R.not rfl rfl) rfl rfl rfl ?_
    refine LL.nilS ?_
    refine CC.no rfl ?_
    refine CC.skip ?_
    refine EE.inN ?_
    refine EE.thenN ?_
    refine CC.region ?_
    refine LL.val (R.addNc rfl rfl rfl rfl (by omega)) rfl rfl rfl ?_
    refine LL.val (R.move rfl rfl) rfl rfl rfl ?_
    refine LL.nil ?_
    exact EE.round (i + 1) ⟨rfl, rfl, rfl, rfl, trivial⟩ ⟨by show i + 1 ≤ n; omega, z4, hJ4, hv4⟩ (by show n - (i + 1) < n - i; omega)
  · refine ⟨_, rfl, ?_⟩
    clear qn yield m1
    refine LL.val (R.not rfl rfl) rfl rfl rfl ?_
    refine LL.nilS ?_
    refine CC.yes rfl ?_
    refine CC.ret ?_
    refine EE.inR ?_
    refine EE.thenR ?_
    refine EE.thenR ?_
    refine EE.inR ?_
    refine EE.ret _ rfl rfl ?_
    exact ⟨⟨_, rfl⟩, .inr ⟨_, _, hpart, hJx4⟩⟩
end Go.Proofs.YtompfnnmiccipaaGreatDoor
/- stream: Told; the law's told (written by genst4.py). -/
namespace Go.Proofs.YtompfnnmiccipaaGreatDoor
set_option linter.unusedVariables false
set_option linter.unusedSimpArgs false
open Go.RowKit Go.Shelf
set_option maxRecDepth 100000
set_option maxHeartbeats 8000000
theorem StaysZ.sub {B B' : Nat} {m m' : Nat → Prop} {W W' : World} (h : StaysZ B m W W') (hB : B ≤ B') (hm : ∀ k, m' k → m k) : StaysZ B' m' W W' := ⟨h.size, fun k o hk ho hc => h.same k o (Nat.le_trans hB hk) ho (hc.imp_left (hm k))⟩
theorem numbered_any (a : Option Addr) (n c : Nat) (w : World) : Calls Tryz.prog 21 #[.slice a n c] w fun e w' => ∃ o1, e = .returned (.func (.func 30) #[] #[.pointer (some ⟨o1, 0, none⟩)]) ∧ RowL w' o1 25 [.slice a n c] ∧ w.heap.size ≤ o1 ∧ Below w.heap.size w w' := by
  have q := Below.refl w.heap.size w
  refine X.fn Tryz.func21 rfl (n := 4) rfl rfl ?_
  refine CC.seq ?_
  refine CC.region ?_
  refine LL.box [Value.slice a n c] rfl rfl rfl rfl rfl ?_
  intro W2 g3 eg3 r4 z5 b1
  replace q := q.trans (b1.mono q.size)
  refine LL.val (R.assign rfl rfl) rfl rfl rfl ?_
  refine LL.nilS ?_
  refine CC.seq ?_
  refine CC.region ?_
  refine LL.val (R.func rfl rfl rfl) rfl rfl rfl ?_
  refine LL.val (R.assign rfl rfl) rfl rfl rfl ?_
  refine LL.nilS ?_
  refine CC.ret ?_
  refine EE.ret _ rfl rfl ?_
  exact ⟨_, rfl, by assumption, by omega, q⟩
def mG (gy : Nat) (m : Nat → Prop) (k : Nat) : Prop := k = gy ∨ m k
theorem told1_gives (b3 bs : Nat) (a : Option Addr) (n c : Nat) (l : List Nm) (w : World) (hb : RowL w b3 25 [.slice a n c]) (hv : ReadsT nmE 3 w (.slice a n c) l) (hn : l.length = n) (h : n ≤ 2000000) (hbs : ∀ x, a = some x → 0 < n → x.block = bs) (hbl : bs < w.heap.size) :
    GivesZ Tryz.prog 20 [Value.pointer (some ⟨b3, 0, none⟩)].toArray (fun x => (inE x).toArray) (fun k => k = bs) (fun xs => xs = ixN l l.length) w := by
  intro lp J Jx W hW hJ hJx hY h0
  replace hb := hb.up hW
  replace hv := hv.up hW
  have hbl' : bs < W.heap.size := Nat.lt_of_lt_of_le hbl hW.size
  have q := Below.refl W.heap.size W
  have hvF : ∀ X, Below W.heap.size W X → ReadsT nmE 3 X (.slice a n c) l := fun X b => hv.up b
  clear hv
  rw [show (#[.func (.yield lp) #[] #[]] ++ [Value.pointer (some ⟨b3, 0, none⟩)].toArray : Array Value) = #[.func (.yield lp) #[] #[], .pointer (some ⟨b3, 0, none⟩)] from rfl]
  refine X.fnM Tryz.func20 rfl (n := 14) rfl rfl ?_
  refine CC.seq ?_
  refine CC.region ?_
  have l9 := hb.lt
  refine LL.box [Value.func (Fn.yield lp) #[] #[]] rfl rfl rfl rfl rfl ?_
  intro W11 g12 eg12 r13 z14 b10
  replace hW := hW.trans (b10.mono hW.size)
  replace hb := hb.up b10
  replace q := q.trans (b10.mono q.size)
  refine LL.nilS ?_
  refine CC.straight ?_
  refine CC.seq ?_
  refine CC.label ?_
  refine EE.thenN ?_
  refine CC.seq ?_
  refine CC.region ?_
  refine LL.val (R.load rfl rfl (I.ld1 rfl (RowL.cell hb rfl))) rfl rfl rfl ?_
  have l28 := r13.lt
  have l29 := hb.lt
  (refine LL.call (R.call rfl rfl rfl) rfl rfl rfl (numbered_any a n c _) ?_; rintro e W27 ⟨o1, rfl, hb1, ho1, b24⟩; refine ⟨_, rfl, ?_⟩)
  have zb24 := b24.size
  replace r13 := r13.up b24
  replace b10 := b10.trans (b24.mono b10.size)
  replace hW := hW.trans (b24.mono hW.size)
  replace hb := hb.up b24
  replace q := q.trans (b24.mono q.size)
  refine LL.nilS ?_
  refine CC.block ?_
  obtain ⟨W0, eW⟩ : ∃ X, X = W27 := ⟨_, rfl⟩
  obtain ⟨gy, ey⟩ : ∃ X, X = g12 := ⟨_, rfl⟩
  have hry := r13
  subst eW ey
  have lo1 := hb1.lt
  have ly := hry.lt
  have yq := q.size
  have hG := numbered1_gives o1 bs a n c l W0 hb1 (hvF _ q) hn h hbs
  have turn : ∀ m X Y, TurnsZ W0.heap.size m X Y → TurnsZ W.heap.size (mG gy m) X Y := fun m X Y ht => ⟨ht.os, ht.tape, ht.output, ht.size, fun k o hk hc => ht.same k o hk (by
    rcases hc with hc | ⟨hc, hd⟩
    · exact .inl (by omega)
    · exact .inr ⟨fun h => hc (.inr h), hd⟩)⟩
  have news : ∀ (m m' : Nat → Prop) (X : World), (∀ k, m' k → m k ∨ X.heap.size ≤ k) → ∀ k, mG gy m' k → mG gy m k ∨ X.heap.size ≤ k := fun m m' X h k hk => by
    rcases hk with hk | hk
    · exact .inl (.inl hk)
    · exact (h k hk).imp_left .inr
  have hJ0 : J (mG gy fun _ => False) [] W0 := hJ _ _ _ _ _ h0 (.of_below q) (fun k hk => .inr (by rcases hk with hk | hk; omega; exact hk.elim))
  clear h0 hW hb hvF b10 b24
  have qB := Below.refl W0.heap.size W0
  have lbs : bs < W0.heap.size := by omega
  refine CC.rangeZ (γ := Nat) (gf := 30) (lb := [Value.pointer (some ⟨o1, 0, none⟩)]) (encs := inE) rfl rfl hG qB (fun k hk => by (try simp only at hk); omega) (fun _ => rfl) rfl
    (fun m pre W' => W0.heap.size ≤ W'.heap.size ∧ J (mG gy m) pre W' ∧ RowL W' gy 64 [.func (.yield lp) #[] #[]])
    (fun m pre W' => Jx (mG gy m) pre W')
    (fun W' => (∃ m, J m (ixN l l.length) W') ∨ ∃ m pre, Part (fun xs => xs = ixN l l.length) pre ∧ Jx m pre W')
    (fun m m' s X Y hs ht hm => ⟨by have := ht.size; omega, hJ _ _ _ _ _ hs.2.1 (turn _ _ _ ht) (news _ _ _ hm), ht.row hs.2.2 (.inl (by omega))⟩)
    (fun m m' s X Y hs ht hm => hJx _ _ _ _ _ hs (turn _ _ _ ht) (news _ _ _ hm))
    ⟨Nat.le_refl _, hJ0, hry⟩ (fun m xs W' hS hi => .inl ⟨_, hS ▸ hi.2.1⟩) (fun m pre W' hp hi => .inr ⟨_, _, hp, hi⟩)
    (fun x g => sl [(2, .pointer (some ⟨gy, 0, none⟩)), (3, .int .i64 (x.1 : Int)), (4, .pointer (some ⟨g, 0, none⟩))]) (fun x g W' => RowL W' g 56 (nmE x.2) ∧ W0.heap.size ≤ g) (fun x g => fun _ W W' row h hg hr => ⟨RowL.own () W W' row h.1 hg hr, h.2⟩) ?assign ?body ?after
  case assign =>
    rintro l' m pre ⟨i, kx, nx, ix⟩ X Kc hm ⟨h1, h2, h3⟩ hKc
    have qa := Below.refl X.heap.size X
    have hup : ∀ Y, Below X.heap.size X Y → W0.heap.size ≤ Y.heap.size ∧ J (mG gy m) pre Y ∧ RowL Y gy 64 [.func (.yield lp) #[] #[]] := fun Y b => ⟨by have := b.size; omega, hJ _ _ _ _ _ h2 (.of_below b) (fun k hk => .inl hk), h3.up b⟩
    clear h2 h3 hry hb1
    refine CC.seq ?_
    refine CC.region ?_
    refine LL.val (R.assign rfl rfl) rfl rfl rfl ?_
    refine LL.nilS ?_
    refine CC.region ?_
    refine LL.alloc ([Value.int IntKind.u64 0, Value.string { data := { toList := [] } }, Value.int IntKind.i64 0]) rfl rfl rfl rfl rfl ?_
    intro Wa2 ga3 ega3 ra4 za5 ba1
    replace qa := qa.trans (ba1.mono qa.size)
    refine LL.storeN (vs := [Value.int IntKind.u64 ↑kx, strV nx, Value.int IntKind.i64 ix]) rfl rfl rfl rfl ra4 (by exact Nat.le_of_ble_eq_true rfl) (ones_of rfl) rfl rfl ?_
    intro Wa7 ra8 ba6 za9
    have hlba6 := ra4.lt
    replace ra8 : RowL Wa7 _ 56 [Value.int IntKind.u64 ↑kx, strV nx, Value.int IntKind.i64 ix] := ra8
    clear ra4
    replace ba1 := ba1.grown ba6 ba1.size (by rintro k ⟨⟩; omega)
    replace qa := qa.grown ba6 qa.size (by rintro k ⟨⟩; omega)
    have ra4 := ra8
    clear ra8
    refine LL.nil ?_
    exact EE.thenK fun a' F => hKc a' _ _ (StaysZ.of_below qa) (Keeps.of_below (fun k hk => by (try simp only at hk); omega) qa) (hup _ qa) (F.keep _ ⟨rfl, rfl, rfl, trivial⟩) ⟨by assumption, by omega⟩
  case body =>
    rintro l' m pre ⟨i, kx, nx, ix⟩ g X hm hl' hrl ⟨hz, hJr, hyr⟩ ⟨hx, hgB⟩ hp
    have hx : RowL X g 56 [.int .u64 (kx : Int), strV nx, .int .i64 ix] := hx
    clear hry hJ0 hG hb1 q
    have hy := hY _ _ _ X (fun k hk => by
      rcases hk with hk | hk
      · omega
      · have := hm k hk; omega) hJr hp
    clear hY
    refine CC.block ?_
    refine CC.seq ?_
    refine CC.region ?_
    refine LL.val (R.load rfl rfl (I.ld1 rfl (RowL.cell hyr rfl))) rfl rfl rfl ?_
    refine LL.val (R.move rfl rfl) rfl rfl rfl ?_
    refine LL.val (R.load rfl rfl (I.ldNc (vs := [Value.int IntKind.u64 ↑kx, strV nx, Value.int IntKind.i64 ix]) (RowL.cells hx rfl) (by rfl) (by rfl))) rfl rfl rfl ?_
    refine LL.yield (vs := inE (i, kx, nx, ix)) rfl rfl rfl rfl rfl hy ?_
    rintro e Y ⟨hs, (⟨rfl, hJ4, hk4⟩ | ⟨rfl, hJx4⟩)⟩
    · refine ⟨_, rfl, ?_⟩
      have hyr4 := hs.row hyr (by omega) (.inl rfl)
      have hsz := hs.size
      refine LL.val (R.not rfl rfl) rfl rfl rfl ?_
      refine LL.nilS ?_
      refine CC.no rfl ?_
      refine CC.skip ?_
      refine EE.inN ?_
      exact EE.roundNZ ⟨hs.sub (by omega) (fun k h => .inr h), hk4, by omega, hJ4, hyr4⟩
    · refine ⟨_, rfl, ?_⟩
      refine LL.val (R.not rfl rfl) rfl rfl rfl ?_
      refine LL.nilS ?_
      refine CC.yes rfl ?_
      refine CC.exit ?_
      refine EE.inX' rfl ?_
      exact EE.roundXZ ⟨hs.sub (by omega) (fun k h => .inr h), rfl, hJx4⟩
  case after =>
    clear hry hJ0 hG hb1 q
    rintro E Y hE hA hK
    refine EE.noN ?_
    refine EE.end1 hK [] rfl rfl ?_
    refine ⟨⟨_, rfl⟩, ?_⟩
    rcases hA with ⟨m, h⟩ | ⟨m, p, hp, h⟩
    · exact .inl ⟨m, _, rfl, hJ.putObj _ h (by omega) hK rfl⟩
    · exact .inr ⟨m, p, hp, hJx.putObj _ h (by omega) hK rfl⟩
end Go.Proofs.YtompfnnmiccipaaGreatDoor
/- stream: Told; the law's told (written by genst5.py). -/
namespace Go.Proofs.YtompfnnmiccipaaGreatDoor
set_option linter.unusedVariables false
set_option linter.unusedSimpArgs false
open Go.RowKit Go.Shelf
set_option maxRecDepth 100000
set_option maxHeartbeats 8000000
def toR (b : Nat) (ts : List Nm) (W : World) : Prop := ∃ a n c, RowL W b 25 [.slice a n c] ∧ OwnsT nmE 3 W (b + 1) 56 (.slice a n c) ts
theorem toR.up {b : Nat} {ts : List Nm} {W W' : World} (h : toR b ts W) (k : Below W.heap.size W W') : toR b ts W' := by
  obtain ⟨a, n, c, r, o⟩ := h
  exact ⟨a, n, c, r.up k, o.up k⟩
theorem told_any (g : Nat) {p : Bs} {many : Int} {key : Nat} {over : Bool} {why : Int} {w : World} (a : Option Addr) (n c : Nat) (ts : List Nm) (h : RowL w g 36 (stL p many key (.slice a n c) over why true)) (o : ReadsT nmE 3 w (.slice a n c) ts) (h1 : ts.length ≤ 1000000) : Calls Tryz.prog 15 #[.pointer (some ⟨g, 0, none⟩)] w fun e w' => ∃ b3, e = .returned (.func (.func 20) #[] #[.pointer (some ⟨b3, 0, none⟩)]) ∧ toR b3 ts w' ∧ w.heap.size ≤ b3 ∧ Below w.heap.size w w' := by
  have q := Below.refl w.heap.size w
  have hF := fun X (b : Below w.heap.size w X) => o.up b
  clear o
  refine X.fn Tryz.func15 rfl (n := 14) rfl rfl ?_
  refine CC.seq ?_
  refine CC.region ?_
  refine LL.val (R.assign rfl rfl) rfl rfl rfl ?_
  refine LL.nilS ?_
  refine CC.seq ?_
  refine CC.region ?_
  have l33 := h.lt
  refine LL.alloc ([Value.slice none 0 0]) rfl rfl rfl rfl rfl ?_
  intro W35 g36 eg36 r37 z38 b34
  replace h := h.up b34
  replace q := q.trans (b34.mono q.size)
  refine LL.nilS ?_
  refine CC.seq ?_
  refine CC.seq ?_
  refine CC.region ?_
  refine LL.val (R.move rfl rfl) rfl rfl rfl ?_
  refine LL.call (R.call rfl rfl rfl) rfl rfl rfl (snone_any _ (by assumption)) ?_
  rintro e W' ⟨rfl, rfl⟩
  refine ⟨_, rfl, ?_⟩
  refine LL.val (R.not rfl rfl) rfl rfl rfl ?_
  refine LL.nilS ?_
  refine CC.yes rfl ?_
  refine CC.freeZ (fun W_ j => j < W_.heap.size ∧ (j ≠ g36)) (by kernel_rfl) (by kernel_rfl) (fun W94 b93 z95 => ?_)
  replace r37 := r37.up b93
  replace b34 := b34.trans (b93.mono b34.size)
  replace h := h.up b93
  replace q := q.trans (b93.mono q.size)
  have hok : Kept (fun j => j < W94.heap.size ∧ (j ≠ g36)) W94 W94 := Kept.refl _ _
  have fzh := fzRow (K := fun j => j < W94.heap.size ∧ (j ≠ g36)) h ⟨h.lt, (by first | trivial | omega)⟩
  refine AA.pure 1 rfl hok (by kernel_rfl) (fun w' b' => R.move rfl rfl) rfl rfl ?_
  refine AA.pure 2 rfl hok (by kernel_rfl) (fun w' b' => R.nil rfl rfl) rfl rfl ?_
  refine AA.pure 3 rfl hok (by kernel_rfl) (fun w' b' => R.field rfl rfl (I.fld rfl)) rfl rfl ?_
  refine AA.pure 4 rfl hok (by kernel_rfl) (fun w' b' => R.load rfl rfl (I.ld1 rfl (RowL.cell (fzh w' b') rfl))) rfl rfl ?_
  refine AA.one 0 (by kernel_rfl) ?_
  refine SR.val rfl (R.load rfl rfl (I.ld1 rfl (RowL.cell r37 rfl))) rfl rfl hok ?_
  refine AA.one 5 (by kernel_rfl) ?_
  have l127 := r37.lt
  have l128 := h.lt
  (refine SR.call rfl (R.call rfl rfl rfl) rfl rfl (behind_nil _ ts _ (hF _ q) h1) ?_; rintro e W126 ⟨v', rfl, oz, b123⟩; refine ⟨_, rfl, ?_⟩; obtain ⟨az, cz, rfl, _⟩ := (oz.reads nmEnc).form rfl)
  have zb123 := b123.size
  replace b93 := b93.trans (b123.mono b93.size)
  replace r37 := r37.up b123
  replace b34 := b34.trans (b123.mono b34.size)
  replace h := h.up b123
  replace q := q.trans (b123.mono q.size)
  replace hok := hok.trans (bkept b123 (fun j h => by have := h.1; have := hok.size; omega))
  have y132 := hok.size
  refine ⟨hok, ?_⟩
  refine AA.one 6 (by kernel_rfl) ?_
  refine ZR.store rfl rfl rfl rfl rfl r37 (by exact Nat.le_of_ble_eq_true rfl) rfl rfl rfl rfl ?_
  intro W152 r153 b151 z154
  have hlb151 := r37.lt
  replace r153 : RowL W152 _ 25 [Value.slice az ts.length cz] := r153
  clear r37
  replace oz := oz.grown b151 (own_ne oz (by omega))
  replace b34 := b34.grown b151 b34.size (by rintro k ⟨⟩; omega)
  replace h := h.gr b151 (by have := h.lt; omega)
  replace q := q.grown b151 q.size (by rintro k ⟨⟩; omega)
  replace hok := hok.trans (grown_kept b151 (fun j h => by have := h.1; have := hok.size; omega) (fun j h e => by cases e; have h2 := h.1; have h3 := h.2; omega))
  have r37 := r153
  clear r153
  refine ⟨hok, ?_⟩
  refine AA.done rfl ?_
  clear fzh hok
  refine EE.thenN ?_
  refine CC.seq ?_
  refine CC.region ?_
  refine LL.val (R.func rfl rfl rfl) rfl rfl rfl ?_
  refine LL.val (R.assign rfl rfl) rfl rfl rfl ?_
  refine LL.nilS ?_
  refine CC.ret ?_
  refine EE.ret _ rfl rfl ?_
  exact ⟨_, rfl, ⟨_, _, _, (by assumption), OwnsT.lower oz (by omega)⟩, by omega, q⟩
theorem ltold_of (pv : Value) (ts : List Nm) {w : World} (h1 : ts.length ≤ 1000000) (hcon : ∀ W, Below w.heap.size w W → Calls Tryz.prog 15 #[pv] W fun e w' => ∃ b3, e = .returned (.func (.func 20) #[] #[.pointer (some ⟨b3, 0, none⟩)]) ∧ toR b3 ts w' ∧ W.heap.size ≤ b3 ∧ Below W.heap.size W w') : Calls Tryz.prog 6 #[pv] w fun e w' => ∃ a' n' c', e = .returned (.tuple #[.slice a' n' c', .bool true]) ∧ ReadsT nmE 3 w' (.slice a' n' c') ts ∧ Below w.heap.size w w' := by
  have q := Below.refl w.heap.size w
  refine X.fnM Tryz.func6 rfl (n := 24) rfl rfl ?_
  refine CC.seq ?_
  refine CC.region ?_
  refine LL.alloc ([Value.slice none 0 0]) rfl rfl rfl rfl rfl ?_
  intro W9 g10 eg10 r11 z12 b8
  replace q := q.trans (b8.mono q.size)
  have l21 := r11.lt
  refine LL.alloc ([Value.bool false]) rfl rfl rfl rfl rfl ?_
  intro W23 g24 eg24 r25 z26 b22
  replace r11 := r11.up b22
  replace b8 := b8.trans (b22.mono b8.size)
  replace q := q.trans (b22.mono q.size)
  refine LL.nilS ?_
  refine CC.seq ?_
  refine CC.region ?_
  have l36 := r25.lt
  have l37 := r11.lt
  refine LL.alloc ([Value.slice none 0 0]) rfl rfl rfl rfl rfl ?_
  intro W39 g40 eg40 r41 z42 b38
  replace r25 := r25.up b38
  replace b22 := b22.trans (b38.mono b22.size)
  replace r11 := r11.up b38
  replace b8 := b8.trans (b38.mono b8.size)
  replace q := q.trans (b38.mono q.size)
  refine LL.nilS ?_
  refine CC.seq ?_
  refine CC.region ?_
  refine LL.val (R.move rfl rfl) rfl rfl rfl ?_
  have l57 := r41.lt
  have l58 := r25.lt
  have l59 := r11.lt
  (refine LL.call (R.call rfl rfl rfl) rfl rfl rfl (hcon _ q) ?_; rintro e W56 ⟨b3, rfl, htr, hb3, b53⟩; refine ⟨_, rfl, ?_⟩)
  have zb53 := b53.size
  replace r41 := r41.up b53
  replace b38 := b38.trans (b53.mono b38.size)
  replace r25 := r25.up b53
  replace b22 := b22.trans (b53.mono b22.size)
  replace r11 := r11.up b53
  replace b8 := b8.trans (b53.mono b8.size)
  replace q := q.trans (b53.mono q.size)
  refine LL.val (R.assign rfl rfl) rfl rfl rfl ?_
  refine LL.nilS ?_
  refine CC.seq ?_
  refine CC.seq ?_
  refine CC.region ?_
  refine LL.val (R.move rfl rfl) rfl rfl rfl ?_
  refine LL.val (R.eqFn rfl rfl rfl rfl) rfl rfl rfl ?_
  refine LL.nilS ?_
  refine CC.no rfl ?_
  refine CC.skip ?_
  refine EE.thenN ?_
  refine CC.seq ?_
  refine CC.seq ?_
  refine CC.region ?_
  refine LL.val (R.move rfl rfl) rfl rfl rfl ?_
  refine LL.nilS ?_
  refine CC.block ?_
  obtain ⟨a3, n3, c3, r3, o3⟩ := htr
  obtain ⟨bs, hbs, hbl, hb9⟩ : ∃ bs, (∀ x, a3 = some x → 0 < n3 → x.block = bs) ∧ bs < W56.heap.size ∧ b3 ≤ bs := by
    rcases o3.above with e | ⟨b, e, hbx, hb⟩
    · exact ⟨b3, fun x hx _ => (by subst hx; cases e), r3.lt, Nat.le_refl _⟩
    · exact ⟨b, fun x hx _ => (by subst hx; exact Option.some.inj e), hb, by omega⟩
  have hn3 : ts.length = n3 := by
    obtain ⟨_, _, e, _⟩ := (o3.reads nmEnc).form rfl
    cases e
    rfl
  have rr := o3.reads nmEnc
  obtain ⟨W0, eW⟩ : ∃ X, X = W56 := ⟨_, rfl⟩
  obtain ⟨ga, ea⟩ : ∃ X, X = g10 := ⟨_, rfl⟩
  obtain ⟨gb, eb⟩ : ∃ X, X = g24 := ⟨_, rfl⟩
  obtain ⟨go, eo⟩ : ∃ X, X = g40 := ⟨_, rfl⟩
  have ra1 := r11
  have rb1 := r25
  have ro1 := r41
  subst eW ea eb eo
  have hG := told1_gives b3 bs a3 n3 c3 ts W0 r3 rr hn3 (by omega) hbs hbl
  have hord : ga < gb ∧ gb < go ∧ go < W0.heap.size ∧ go < bs ∧ w.heap.size ≤ ga := by have := ro1.lt; omega
  have qB := Below.refl W0.heap.size W0
  have hwz := q.size
  clear b8 b22 b38 b53 r11 r25 r41 r3 rr o3
  refine CC.rangeZ (γ := Nat) (gf := 20) (lb := [Value.pointer (some ⟨b3, 0, none⟩)]) (encs := inE) rfl rfl hG qB (fun k hk => by (try simp only at hk); omega) (fun _ => rfl) rfl
    (fun m pre W' => W0.heap.size ≤ W'.heap.size ∧ Below w.heap.size w W' ∧ RowL W' ga 25 [.slice none 0 0] ∧ RowL W' gb 4 [.bool false] ∧ ∃ a n c, RowL W' go 25 [.slice a n c] ∧ OwnsT nmE 3 W' W0.heap.size 56 (.slice a n c) (ts.take pre.length) ∧ ∀ b, (Value.slice a n c).ownBlock = some b → ¬ m b)
    (fun m pre W' => False)
    (fun W' => W0.heap.size ≤ W'.heap.size ∧ Below w.heap.size w W' ∧ RowL W' ga 25 [.slice none 0 0] ∧ RowL W' gb 4 [.bool false] ∧ ∃ a n c, RowL W' go 25 [.slice a n c] ∧ OwnsT nmE 3 W' W0.heap.size 56 (.slice a n c) ts)
    (fun m m' s X Y hs ht hm => by
      obtain ⟨h1, hq, ra, rb, a, n, c, r, o, hno⟩ := hs
      exact ⟨Nat.le_trans h1 ht.size, hq.trans (ht.below hwz (Nat.le_trans hwz h1)), ht.row ra (.inl (by omega)), ht.row rb (.inl (by omega)), a, n, c, ht.row r (.inl (by omega)), o.turn ht hno, own_later o hno hm⟩)
    (fun m m' s X Y hs ht hm => hs)
    ⟨Nat.le_refl _, q, ra1, rb1, _, _, _, ro1, OwnsT.none _ _ _, fun b hb => by cases hb⟩
    (fun m xs W' hS hi => by
      obtain ⟨h1, hq, ra, rb, a, n, c, r, o, hno⟩ := hi
      rw [hS, ixN_len (Nat.le_refl _), List.take_length] at o
      exact ⟨h1, hq, ra, rb, a, n, c, r, o⟩)
    (fun m pre W' hp hi => hi.elim)
    (fun x g => sl [(2, .pointer (some ⟨ga, 0, none⟩)), (3, .pointer (some ⟨gb, 0, none⟩)), (4, .pointer (some ⟨go, 0, none⟩)), (6, .int .i64 (x.1 : Int)), (7, .pointer (some ⟨g, 0, none⟩))]) (fun x g W' => RowL W' g 56 (nmE x.2) ∧ W0.heap.size ≤ g) (fun x g => fun _ W W' row h hg hr => ⟨RowL.own () W W' row h.1 hg hr, h.2⟩) ?assign ?body ?after
  case assign =>
    rintro l' m pre ⟨i, kx, nx, ix⟩ X Kc hm ⟨h8, hq, ra, rb, a, n, c, r, o, hno⟩ hKc
    have qa := Below.refl X.heap.size X
    have hup : ∀ Y, Below X.heap.size X Y → W0.heap.size ≤ Y.heap.size ∧ Below w.heap.size w Y ∧ RowL Y ga 25 [.slice none 0 0] ∧ RowL Y gb 4 [.bool false] ∧ ∃ a n c, RowL Y go 25 [.slice a n c] ∧ OwnsT nmE 3 Y W0.heap.size 56 (.slice a n c) (ts.take pre.length) ∧ ∀ b, (Value.slice a n c).ownBlock = some b → ¬ m b := fun Y b => ⟨Nat.le_trans h8 b.size, hq.trans (b.mono hq.size), ra.up b, rb.up b, a, n, c, r.up b, o.up b, hno⟩
    clear r o ra1 rb1 ro1 ra rb hq q
    refine CC.seq ?_
    refine CC.region ?_
    refine LL.val (R.assign rfl rfl) rfl rfl rfl ?_
    refine LL.nilS ?_
    refine CC.region ?_
    refine LL.alloc ([Value.int IntKind.u64 0, Value.string { data := { toList := [] } }, Value.int IntKind.i64 0]) rfl rfl rfl rfl rfl ?_
    intro Wa2 ga3 ega3 ra4 za5 ba1
    replace qa := qa.trans (ba1.mono qa.size)
    refine LL.storeN (vs := [Value.int IntKind.u64 ↑kx, strV nx, Value.int IntKind.i64 ix]) rfl rfl rfl rfl ra4 (by exact Nat.le_of_ble_eq_true rfl) (ones_of rfl) rfl rfl ?_
    intro Wa7 ra8 ba6 za9
    have hlba6 := ra4.lt
    replace ra8 : RowL Wa7 _ 56 [Value.int IntKind.u64 ↑kx, strV nx, Value.int IntKind.i64 ix] := ra8
    clear ra4
    replace ba1 := ba1.grown ba6 ba1.size (by rintro k ⟨⟩; omega)
    replace qa := qa.grown ba6 qa.size (by rintro k ⟨⟩; omega)
    have ra4 := ra8
    clear ra8
    refine LL.nil ?_
    exact EE.thenK fun a' F => hKc a' _ _ (StaysZ.of_below qa) (Keeps.of_below (fun k hk => by (try simp only at hk); omega) qa) (hup _ qa) (F.keep _ ⟨rfl, rfl, rfl, rfl, rfl, trivial⟩) ⟨by assumption, by omega⟩
  case body =>
    rintro l' m pre ⟨i, kx, nx, ix⟩ g7 X hm hl' hrl ⟨hz, hq, ra, rb, a, n, c, r, o, hno⟩ ⟨hx, hgB⟩ ⟨xs, hxs, tt, hp⟩
    rw [hxs] at hp
    obtain ⟨e1, e2, e3⟩ := ixN_at hp
    dsimp only at e1 e2
    subst e1
    have hx : RowL X g7 56 [.int .u64 (kx : Int), strV nx, .int .i64 ix] := hx
    have hxd : (pre ++ [(pre.length, kx, nx, ix)]).length = pre.length + 1 := by simp
    have hst : ts.take (pre.length + 1) = ts.take pre.length ++ [(kx, nx, ix)] := by rw [List.take_add_one, e2]; rfl
    have hlt : (ts.take pre.length).length = pre.length := by rw [List.length_take]; omega
    obtain ⟨_, _, e, _⟩ := (o.reads nmEnc).form hlt
    cases e
    have st := StaysZ.refl W0.heap.size m X
    have kp := Keeps.refl (fun k => k = bs) X
    have yX := Below.refl X.heap.size X
    clear ra1 rb1 ro1 hl' hrl hp hxs q
    refine CC.block ?_
    refine CC.seq ?_
    refine CC.seq ?_
    refine CC.region ?_
    refine LL.val (R.move rfl rfl) rfl rfl rfl ?_
    refine LL.val (R.load rfl rfl (I.ld1 rfl (RowL.cell r rfl))) rfl rfl rfl ?_
    refine LL.val (R.len rfl rfl rfl rfl) rfl rfl rfl ?_
    refine LL.val (R.neF rfl rfl rfl (by omega)) rfl rfl rfl ?_
    refine LL.nilS ?_
    refine CC.no rfl ?_
    refine CC.skip ?_
    refine EE.thenN ?_
    refine CC.region ?_
    refine LL.val (R.load rfl rfl (I.ld1 rfl (RowL.cell r rfl))) rfl rfl rfl ?_
    refine LL.val (R.load rfl rfl (I.ldNc (vs := [Value.int IntKind.u64 ↑kx, strV nx, Value.int IntKind.i64 ix]) (RowL.cells hx rfl) (by rfl) (by rfl))) rfl rfl rfl ?_
    have lb1 := ra.lt
    have lb2 := rb.lt
    have lb3 := hx.lt
    have lb4 := hx.lt
    have lb5 := r.lt
    refine LL.lit (e := 56) [Value.int IntKind.u64 ↑kx, strV nx, Value.int IntKind.i64 ix] 1 rfl rfl (fun _ => by kernel_rfl) rfl rfl ?_
    intro Wb7 gb8 egb8 rb9 zb10 bb6
    replace hq := hq.trans (bb6.mono hq.size)
    replace ra := ra.up bb6
    replace rb := rb.up bb6
    replace hx := hx.up bb6
    replace r := r.up bb6
    replace o := o.up bb6
    replace st := st.trans (StaysZ.of_below bb6)
    replace kp := kp.trans (Keeps.of_below (fun k hk => by (try simp only at hk); omega) bb6)
    replace yX := yX.trans (bb6.mono yX.size)
    (refine LL.appendT2 rfl rfl nmEnc ElNm o (us := [(kx, nx, ix)]) (RowL.readsT nmEnc (ts := [(kx, nx, ix)]) (by assumption) 1 (Nat.le_refl _)) (by rw [hlt]; simp [maxLen]; omega) (by rw [hlt]; simp; omega) (by omega) rfl rfl ?_; intro v' Wz ob gra hva; have gz := gra.size; have hno2 := own_new hva hno (fun j hj => by have := hm j hj; have := yX.size; omega); replace st := st.trans (StaysZ.own o gra hno); replace kp : Keeps (fun k => k = bs) X Wz := ⟨Nat.le_trans kp.size gz, fun k hk => (by subst hk; exact (gra.block k (by omega) (fun e => by have := own_ge o k e.symm; omega)).trans (kp.same k rfl))⟩; replace hq := hq.grown gra hq.size (fun j e => by have := own_ge o j e; omega); replace ra := ra.grO gra (own_ne o (by omega)); replace rb := rb.grO gra (own_ne o (by omega)); replace r := r.grO gra (own_ne o (by omega)); rw [← hst] at ob; obtain ⟨az, cz, rfl, _⟩ := (ob.reads nmEnc).form (n := pre.length + 1) (by rw [List.length_take]; omega); clear hx o gra hva yX)
    refine LL.store rfl rfl rfl rfl r (by exact Nat.le_of_ble_eq_true rfl) rfl rfl rfl rfl ?_
    intro Wb12 rb13 bb11 zb14
    have hlbb11 := r.lt
    replace rb13 : RowL Wb12 _ 25 [Value.slice az (pre.length + 1) cz] := rb13
    clear r
    replace st := st.trans (StaysZ.of_grown bb11 (by omega))
    replace kp := kp.trans (Keeps.of_grown bb11 fun k hk => by (try simp only at hk); omega)
    replace hq := hq.grown bb11 hq.size (by rintro k ⟨⟩; omega)
    replace ra := ra.gr bb11 (by have := ra.lt; omega)
    replace rb := rb.gr bb11 (by have := rb.lt; omega)
    replace ob := ob.grown bb11 (own_ne ob (by omega))
    have r := rb13
    clear rb13
    refine LL.nil ?_
    refine EE.inN ?_
    exact EE.roundNZ ⟨st, kp, by omega, hq, ra, rb, _, _, _, r, by rw [hxd]; exact ob, hno2⟩
  case after =>
    rintro E Y hE ⟨hz, q2, ra2, rb2, a, n, c, r, o⟩ hE1
    have zz := q2.size
    clear ra1 rb1 ro1 q
    refine EE.thenN ?_
    refine CC.seq ?_
    refine CC.region ?_
    refine LL.val (R.load rfl rfl (I.ld1 rfl (RowL.cell r rfl))) rfl rfl rfl ?_
    refine LL.store rfl rfl rfl rfl ra2 (by exact Nat.le_of_ble_eq_true rfl) rfl rfl rfl rfl ?_
    intro Wc2 rc3 bc1 zc4
    have hlbc1 := ra2.lt
    replace rc3 : RowL Wc2 _ 25 [Value.slice a n c] := rc3
    clear ra2
    replace q2 := q2.grown bc1 q2.size (by rintro k ⟨⟩; omega)
    replace rb2 := rb2.gr bc1 (by have := rb2.lt; omega)
    replace r := r.gr bc1 (by have := r.lt; omega)
    replace o := o.grown bc1 (own_ne o (by omega))
    replace hE1 := (bc1.block _ (Array.getElem?_eq_some_iff.1 hE1).1 (by simp; omega)).trans hE1
    have ra2 := rc3
    clear rc3
    refine LL.store rfl rfl rfl rfl rb2 (by exact Nat.le_of_ble_eq_true rfl) rfl rfl rfl rfl ?_
    intro Wc6 rc7 bc5 zc8
    have hlbc5 := rb2.lt
    replace rc7 : RowL Wc6 _ 4 [Value.bool true] := rc7
    clear rb2
    replace q2 := q2.grown bc5 q2.size (by rintro k ⟨⟩; omega)
    replace r := r.gr bc5 (by have := r.lt; omega)
    replace o := o.grown bc5 (own_ne o (by omega))
    replace hE1 := (bc5.block _ (Array.getElem?_eq_some_iff.1 hE1).1 (by simp; omega)).trans hE1
    replace ra2 := ra2.gr bc5 (by have := ra2.lt; omega)
    have rb2 := rc7
    clear rc7
    refine LL.nilS ?_
    refine CC.ret ?_
    refine EE.retN2 hE1 rfl ⟨_, rfl, lv1 rfl (RowL.cell (taken_up (by assumption) (by omega)) rfl)⟩ ⟨_, rfl, lv1 rfl (RowL.cell (taken_up (by assumption) (by omega)) rfl)⟩ ?_
    exact ⟨_, _, _, rfl, (own_taken o hE1).reads nmEnc, taken_bel q2 (by omega) (Nat.le_refl _)⟩
theorem ltold_any (g : Nat) {p : Bs} {many : Int} {key : Nat} {over : Bool} {why : Int} {w : World} (a : Option Addr) (n c : Nat) (ts : List Nm) (h : RowL w g 36 (stL p many key (.slice a n c) over why true)) (o : ReadsT nmE 3 w (.slice a n c) ts) (h1 : ts.length ≤ 1000000) : Calls Tryz.prog 6 #[.pointer (some ⟨g, 0, none⟩)] w fun e w' => ∃ a' n' c', e = .returned (.tuple #[.slice a' n' c', .bool true]) ∧ ReadsT nmE 3 w' (.slice a' n' c') ts ∧ Below w.heap.size w w' :=
  ltold_of _ ts h1 fun _ b => told_any g a n c ts (h.up b) (o.up b) h1
end Go.Proofs.YtompfnnmiccipaaGreatDoor
/- stream: the document's SameNames, Call, Seek, Right; same (written by genst6.py). -/
namespace Go.Proofs.YtompfnnmiccipaaGreatDoor
set_option linter.unusedVariables false
set_option linter.unusedSimpArgs false
open Go.RowKit Go.Shelf
set_option maxRecDepth 100000
set_option maxHeartbeats 8000000
theorem num28_any (z : Int) (w : World) : Calls Tryz.prog 8 #[.int .i64 z] w fun e w' => e = .returned (.int .i64 z) ∧ w = w' := by
  refine X.fn Tryz.func8 rfl (n := 4) rfl rfl ?_
  refine CC.seq ?_
  refine CC.region ?_
  refine LL.val (R.assign rfl rfl) rfl rfl rfl ?_
  refine LL.nilS ?_
  refine CC.seq ?_
  refine CC.region ?_
  refine LL.val (R.move rfl rfl) rfl rfl rfl ?_
  refine LL.val (R.assign rfl rfl) rfl rfl rfl ?_
  refine LL.nilS ?_
  refine CC.ret ?_
  refine EE.ret _ rfl rfl ?_
  exact ⟨rfl, rfl⟩
section
variable (p : Bs) (many : Int) (key : Nat) (over : Bool) (why : Int) (a2 : Option Addr) (n2 c2 : Nat) (w : World)
end
end Go.Proofs.YtompfnnmiccipaaGreatDoor
/- stream: the document's Take (written by genst7.py). -/
namespace Go.Proofs.YtompfnnmiccipaaGreatDoor
set_option linter.unusedVariables false
set_option linter.unusedSimpArgs false
open Go.RowKit Go.Shelf
set_option maxRecDepth 100000
set_option maxHeartbeats 8000000
section
variable {α : Type} {enc : α → List Value} {k : Nat} {P : Program} {ops : Array Oper} {ok : World → Prop} {n i : Nat} {D : List Deferred} {M : Slots} {w : World} {o : Oper} {K : Slots → World → Prop} {T e : TypeId} {z : Value} {bytes : Nat}
end

/-- A list of names that lies in a block. -/
structure NmB (w : World) (bb : Nat) (a : Option Addr) (n c : Nat) (l : List Nm) : Prop where
  r : ReadsT nmE 3 w (.slice a n c) l
  at' : ∀ (x : Addr), a = some x → 0 < n → x.block = bb
  lt : bb < w.heap.size
section
variable {w w' : World} {bb r n c : Nat} {a : Option Addr} {l : List Nm}
theorem NmB.up (h : NmB w bb a n c l) (hb : Below w.heap.size w w') : NmB w' bb a n c l := ⟨h.r.up hb, h.at', Nat.lt_of_lt_of_le h.lt hb.size⟩
theorem NmB.gr (h : NmB w bb a n c l) (hb : w.grownBy w' (some r)) (e : r ≠ bb) : NmB w' bb a n c l := ⟨h.r.grown hb fun x n c e1 h0 => by
  cases e1
  have := h.at' x rfl h0
  omega, h.at', Nat.lt_of_lt_of_le h.lt hb.size⟩
theorem NmB.len (h : NmB w bb a n c l) : l.length = n := by
  obtain ⟨_, _, e, _⟩ := h.r.form rfl
  cases e
  rfl
theorem NmB.own {base e : Nat} (o : OwnsT nmE 3 w base e (.slice a n c) l) (h0 : 0 < w.heap.size) : ∃ bb, NmB w bb a n c l ∧ (bb = 0 ∨ base ≤ bb) := by
  rcases o.above with h | ⟨b, h, h1, h2⟩
  · refine ⟨0, ⟨o.reads nmEnc, fun x e _ => ?_, h0⟩, .inl rfl⟩
    subst e
    cases h
  · refine ⟨b, ⟨o.reads nmEnc, fun x e _ => ?_, h2⟩, .inr h1⟩
    subst e
    exact Option.some.inj h
end
section
variable (p : Bs) (many : Int) (key : Nat) (why : Int) (a2 : Option Addr) (n2 c2 : Nat) (w : World) (er : Int) {ino kd lk sz : Int} {ba : Option Addr} {bn bc : Nat} {tx : Bs} {na : Option Addr} {nn nc : Nat} {k2 : Nat}
end
end Go.Proofs.YtompfnnmiccipaaGreatDoor
/- stream: a stream with its names (written by genst8.py). -/
namespace Go.Proofs.YtompfnnmiccipaaGreatDoor
set_option linter.unusedVariables false
set_option linter.unusedSimpArgs false
open Go.RowKit Go.Shelf
set_option maxRecDepth 100000
set_option maxHeartbeats 8000000
/-- A stream in a block, and the block of its names. -/
def Sm (W : World) (g bo : Nat) (p : Bs) (many : Int) (key : Nat) (ts : List Nm) (over : Bool) (why : Int) : Prop := ∃ a n c, RowL W g 36 (stL p many key (.slice a n c) over why true) ∧ OwnsT nmE 3 W 0 56 (.slice a n c) ts ∧ (∀ b, (Value.slice a n c).ownBlock = some b → b = bo ∧ b ≠ g) ∧ bo < W.heap.size
section
variable {w w' : World} {g bo r : Nat} {p : Bs} {many : Int} {key : Nat} {ts : List Nm} {over : Bool} {why : Int}
theorem Sm.up (S : Sm w g bo p many key ts over why) (b : Below w.heap.size w w') : Sm w' g bo p many key ts over why := by
  obtain ⟨a, n, c, r, o, h, hl⟩ := S
  exact ⟨a, n, c, r.up b, o.up b, h, Nat.lt_of_lt_of_le hl b.size⟩
theorem Sm.lt (S : Sm w g bo p many key ts over why) : g < w.heap.size := by
  obtain ⟨a, n, c, r, o, h, hl⟩ := S
  exact r.lt
theorem NmB.kept {K : Nat → Prop} {bb n c : Nat} {a : Option Addr} {l : List Nm} (h : NmB w bb a n c l) (hk : Kept K w w') (hK : K bb) : NmB w' bb a n c l := ⟨reads_kept h.r hk fun x n c e h0 _ => by
  cases e
  rw [h.at' x rfl h0]
  exact hK, h.at', Nat.lt_of_lt_of_le h.lt hk.size⟩
theorem Sm.gr (S : Sm w g bo p many key ts over why) (b : w.grownBy w' (some r)) (e : r ≠ g ∧ r ≠ bo) : Sm w' g bo p many key ts over why := by
  obtain ⟨a, n, c, r, o, h, hl⟩ := S
  exact ⟨a, n, c, r.grO b (fun e' => by first | exact e.1 (Option.some.inj e').symm | exact e.1 (Option.some.inj e') | (cases e'; exact e.1 rfl)), o.grown b (fun e' => e.2 (h _ e').1), h, Nat.lt_of_lt_of_le hl b.size⟩
theorem Sm.over_any (S : Sm w g bo p many key ts over why) : Calls Tryz.prog 5 #[.pointer (some ⟨g, 0, none⟩)] w fun e w' => e = .returned (.tuple #[.bool over, .int .i64 why]) ∧ Below w.heap.size w w' := by
  obtain ⟨a, n, c, r, o, h, hl⟩ := S
  exact sover_any g r
theorem Sm.cursor_any (S : Sm w g bo p many key ts over why) : Calls Tryz.prog 11 #[.pointer (some ⟨g, 0, none⟩)] w fun e w' => e = .returned (.int .u64 (key : Int)) ∧ Below w.heap.size w w' := by
  obtain ⟨a, n, c, r, o, h, hl⟩ := S
  exact scursor_any g r
theorem Sm.call_F (S : Sm w g bo p many key ts false why) : Calls Tryz.prog 4 #[.pointer (some ⟨g, 0, none⟩)] w fun e w' => e = .returned (.tuple #[caV 14 p many key, .bool true]) ∧ Below w.heap.size w w' := by
  obtain ⟨a, n, c, r, o, h, hl⟩ := S
  exact scall_F g r
theorem Sm.told_any (S : Sm w g bo p many key ts over why) (h1 : ts.length ≤ 1000000) : Calls Tryz.prog 6 #[.pointer (some ⟨g, 0, none⟩)] w fun e w' => ∃ a' n' c', e = .returned (.tuple #[.slice a' n' c', .bool true]) ∧ ReadsT nmE 3 w' (.slice a' n' c') ts ∧ Below w.heap.size w w' := by
  obtain ⟨a, n, c, r, o, h, hl⟩ := S
  exact ltold_any g a n c ts r (o.reads nmEnc) h1
theorem Sm.of_row (r : RowL w g 36 (stL p many key (.slice none 0 0) over why true)) : Sm w g g p many key [] over why := ⟨_, _, _, r, OwnsT.none _ _ _, fun b hb => (by cases hb), r.lt⟩
end
section
variable {w : World} {g bo : Nat} {p : Bs} {many : Int} {key : Nat} {ts : List Nm} {why : Int} (er : Int) {ino kd lk sz : Int} {ba : Option Addr} {bn bc : Nat} {tx : Bs} {na : Option Addr} {nn nc : Nat} {k2 : Nat}
theorem Sm.take_over (S : Sm w g bo p many key ts true why) : Calls Tryz.prog 9 #[.pointer (some ⟨g, 0, none⟩), .agg #[.int .i64 er, .int .i64 ino, .int .i64 kd, .int .i64 lk, .int .i64 sz, .slice ba bn bc, strV tx, .slice na nn nc, .int .u64 (k2 : Int)]] w fun e w' => e = .returned (.int .i64 5) ∧ Below w.heap.size w w' := by
  obtain ⟨a, n, c, r, o, h, hl⟩ := S
  exact Go.Proofs.YtompfnnmiccipaaGreatDoor.take_over g a n c r
theorem Sm.take_end (S : Sm w g bo p many key ts false 0) (he : er ≠ 0 ∨ nn = 0) : Calls Tryz.prog 9 #[.pointer (some ⟨g, 0, none⟩), .agg #[.int .i64 er, .int .i64 ino, .int .i64 kd, .int .i64 lk, .int .i64 sz, .slice ba bn bc, strV tx, .slice na nn nc, .int .u64 (k2 : Int)]] w fun e w' => e = .returned (.int .i64 0) ∧ Sm w' g bo p many key ts true er ∧ Kept (fun j => j < w.heap.size ∧ j ≠ g) w w' := by
  obtain ⟨a, n, c, r, o, h, hl⟩ := S
  have hK : ∀ b, (Value.slice a n c).ownBlock = some b → b < w.heap.size ∧ b ≠ g := fun b hb => by
    rcases o.above with h0 | ⟨b', h0, h1, h2⟩
    · rw [h0] at hb; cases hb
    · rw [h0] at hb; cases hb; exact ⟨h2, (h _ h0).2⟩
  by_cases h0 : er = 0
  · subst h0
    obtain rfl : nn = 0 := he.resolve_left (fun h => h rfl)
    exact (Go.Proofs.YtompfnnmiccipaaGreatDoor.take_end g a n c r).mono fun e w' ⟨e1, r', t⟩ => ⟨e1, ⟨a, n, c, r', own_kept o t hK, h, Nat.lt_of_lt_of_le hl t.size⟩, t⟩
  · exact (Go.Proofs.YtompfnnmiccipaaGreatDoor.take_err g h0 a n c r).mono fun e w' ⟨e1, r', t⟩ => ⟨e1, ⟨a, n, c, r', own_kept o t hK, h, Nat.lt_of_lt_of_le hl t.size⟩, t⟩
theorem Sm.take_more (S : Sm w g bo p many key ts false why) (hn0 : 0 < nn) (us : List Nm) (hv : ReadsT nmE 3 w (.slice na nn nc) us) (hvn : ∀ x, na = some x → x.block ≠ g) (h1 : ts.length ≤ 1000000) (h2 : us.length ≤ 1000000) : Calls Tryz.prog 9 #[.pointer (some ⟨g, 0, none⟩), .agg #[.int .i64 0, .int .i64 ino, .int .i64 kd, .int .i64 lk, .int .i64 sz, .slice ba bn bc, strV tx, .slice na nn nc, .int .u64 (k2 : Int)]] w fun e w' => e = .returned (.int .i64 0) ∧ ∃ b2, Sm w' g b2 p many k2 (ts ++ us) false why ∧ (b2 = bo ∨ w.heap.size ≤ b2) ∧ Kept (fun j => j < w.heap.size ∧ j ≠ g ∧ j ≠ bo) w w' := by
  obtain ⟨a, n, c, r, o, h, hl⟩ := S
  have hg := r.lt
  refine (Go.Proofs.YtompfnnmiccipaaGreatDoor.take_more g hn0 a n c ts us r o (fun b hb => (h b hb).2) hv hvn h1 h2).mono fun e w' ⟨e1, a', n', c', r', o', hva, t⟩ => ⟨e1, ?_⟩
  have t2 : Kept (fun j => j < w.heap.size ∧ j ≠ g ∧ j ≠ bo) w w' := t.less fun j hj => ⟨hj.1, hj.2.1, fun e => hj.2.2 (h j e).1⟩
  rcases hva with hva | ⟨b, hb, hlt⟩
  · exact ⟨bo, ⟨a', n', c', r', o', fun b hb => h b (by rw [← hva]; exact hb), Nat.lt_of_lt_of_le hl t.size⟩, .inl rfl, t2⟩
  · exact ⟨b, ⟨a', n', c', r', o', fun b' hb' => (by rw [hb] at hb'; cases hb'; exact ⟨rfl, by omega⟩), by
    rcases o'.above with h0 | ⟨b', h0, h1, h2⟩
    · rw [h0] at hb; cases hb
    · rw [h0] at hb; cases hb; exact h2⟩, .inr hlt, t2⟩
end
end Go.Proofs.YtompfnnmiccipaaGreatDoor
/- stream: the statements' rows: works (written by genst9.py). -/
namespace Go.Proofs.YtompfnnmiccipaaGreatDoor
set_option linter.unusedVariables false
set_option linter.unusedSimpArgs false
open Go.RowKit Go.Shelf
set_option maxRecDepth 100000
set_option maxHeartbeats 8000000
theorem works28_any (w : World) : Calls Tryz.prog 13 #[] w fun e w' => e = .returned (.bool true) ∧ Below w.heap.size w w' := by
  have q := Below.refl w.heap.size w
  refine X.fn Tryz.func13 rfl (n := 117) rfl rfl ?_
  refine CC.seq ?_
  refine CC.region ?_
  refine LL.val (R.assign rfl rfl) rfl rfl rfl ?_
  refine LL.nilS ?_
  refine CC.seq ?_
  refine CC.region ?_
  (refine LL.call (R.call rfl rfl rfl) rfl rfl rfl (snew_yes [47] 2 ⟨by decide, by decide⟩) ?_; rintro e W88 ⟨g, rfl, rg, hg0, b85⟩; refine ⟨_, rfl, ?_⟩; have hgl := rg.lt; have hS := Sm.of_row rg; clear rg)
  have zb85 := b85.size
  replace q := q.trans (b85.mono q.size)
  refine LL.val (R.move rfl rfl) rfl rfl rfl ?_
  refine LL.val (R.extract rfl rfl rfl) rfl rfl rfl ?_
  refine LL.val (R.extract rfl rfl rfl) rfl rfl rfl ?_
  refine LL.val (R.assign rfl rfl) rfl rfl rfl ?_
  refine LL.val (R.assign rfl rfl) rfl rfl rfl ?_
  refine LL.nilS ?_
  refine CC.seq ?_
  refine CC.region ?_
  refine LL.val (R.move rfl rfl) rfl rfl rfl ?_
  (refine LL.call (R.call rfl rfl rfl) rfl rfl rfl (Sm.call_F hS) ?_; rintro e W606 ⟨rfl, b603⟩; refine ⟨_, rfl, ?_⟩)
  have zb603 := b603.size
  replace b85 := b85.trans (b603.mono b85.size)
  replace hS := hS.up b603
  replace q := q.trans (b603.mono q.size)
  refine LL.val (R.move rfl rfl) rfl rfl rfl ?_
  refine LL.val (R.extract rfl rfl rfl) rfl rfl rfl ?_
  refine LL.val (R.extract rfl rfl rfl) rfl rfl rfl ?_
  refine LL.alloc ([Value.int IntKind.i64 0, Value.string { data := { toList := [] } }, Value.string { data := { toList := [] } }, Value.int IntKind.i64 0, Value.int IntKind.i64 0, Value.int IntKind.u64 0, Value.slice none 0 0]) rfl rfl rfl rfl rfl ?_
  intro W947 g948 eg948 r949 z950 b946
  replace b603 := b603.trans (b946.mono b603.size)
  replace b85 := b85.trans (b946.mono b85.size)
  replace hS := hS.up b946
  replace q := q.trans (b946.mono q.size)
  refine LL.storeN (vs := [Value.int IntKind.i64 14, strV [47], strV [], Value.int IntKind.i64 0, Value.int IntKind.i64 2, Value.int IntKind.u64 ↑0, Value.slice none 0 0]) rfl rfl rfl rfl r949 (by exact Nat.le_of_ble_eq_true rfl) (ones_of rfl) rfl rfl ?_
  intro W1045 r1046 b1044 z1047
  have hlb1044 := r949.lt
  replace r1046 : RowL W1045 _ 32 [Value.int IntKind.i64 14, strV [47], strV [], Value.int IntKind.i64 0, Value.int IntKind.i64 2, Value.int IntKind.u64 ↑0, Value.slice none 0 0] := r1046
  clear r949
  replace b946 := b946.grown b1044 b946.size (by rintro k ⟨⟩; omega)
  replace b603 := b603.grown b1044 b603.size (by rintro k ⟨⟩; omega)
  replace b85 := b85.grown b1044 b85.size (by rintro k ⟨⟩; omega)
  replace hS := hS.gr b1044 (by have := hS.lt; omega)
  replace q := q.grown b1044 q.size (by rintro k ⟨⟩; omega)
  have r949 := r1046
  clear r1046
  refine LL.val (R.assign rfl rfl) rfl rfl rfl ?_
  refine LL.nilS ?_
  refine CC.seq ?_
  refine CC.region ?_
  refine LL.val (R.move rfl rfl) rfl rfl rfl ?_
  refine LL.val (R.buildV rfl rfl (v := .agg #[Value.int IntKind.u64 1, Value.string { data := #[97] }, Value.int IntKind.i64 2]) (fun _ => by kernel_rfl)) rfl rfl rfl ?_
  refine LL.val (R.buildV rfl rfl (v := .agg #[Value.int IntKind.u64 3, Value.string { data := #[98] }, Value.int IntKind.i64 3]) (fun _ => by kernel_rfl)) rfl rfl rfl ?_
  have l1513 := r949.lt
  refine LL.lit (e := 56) [Value.int IntKind.u64 1, Value.string { data := #[97] }, Value.int IntKind.i64 2, Value.int IntKind.u64 3, Value.string { data := #[98] }, Value.int IntKind.i64 3] 2 rfl rfl (fun _ => by kernel_rfl) rfl rfl ?_
  intro W1515 g1516 eg1516 r1517 z1518 b1514
  replace b946 := b946.trans (b1514.mono b946.size)
  replace b603 := b603.trans (b1514.mono b603.size)
  replace b85 := b85.trans (b1514.mono b85.size)
  replace hS := hS.up b1514
  replace q := q.trans (b1514.mono q.size)
  replace r949 := r949.up b1514
  refine LL.val (R.buildV rfl rfl (v := .agg #[Value.int IntKind.i64 0, Value.int IntKind.i64 0, Value.int IntKind.i64 0, Value.int IntKind.i64 0, Value.int IntKind.i64 0, Value.slice none 0 0, Value.string { data := #[] }, Value.slice (some { block := g1516, off := 0 }) 2 2, Value.int IntKind.u64 4]) (fun _ => by kernel_rfl)) rfl rfl rfl ?_
  (refine LL.call (R.call rfl rfl rfl) rfl rfl rfl (Sm.take_more hS (by decide) [(1, [97], 2), (3, [98], 3)] (RowL.readsT nmEnc (ts := [(1, [97], 2), (3, [98], 3)]) (by assumption) 2 (Nat.le_refl _)) (fun x e => by cases e; dsimp only; omega) (by decide) (by decide)) ?_; rintro e W1642 ⟨rfl, b1, hN, hb1, t1641⟩; clear hS; have hS := hN; clear hN; refine ⟨_, rfl, ?_⟩)
  have zt1641 := t1641.size
  replace r1517 := r1517.kept t1641 ⟨r1517.lt, by omega⟩
  replace b85 := t1641.onB b85 (fun j hj => ⟨by have := b85.size; omega, by omega⟩)
  replace q := t1641.onB q (fun j hj => ⟨by have := q.size; omega, by omega⟩)
  replace r949 := r949.kept t1641 ⟨r949.lt, by omega⟩
  refine LL.val (R.assign rfl rfl) rfl rfl rfl ?_
  refine LL.nilS ?_
  refine CC.seq ?_
  refine CC.region ?_
  refine LL.val (R.move rfl rfl) rfl rfl rfl ?_
  refine LL.val (R.buildV rfl rfl (v := .agg #[Value.int IntKind.u64 9, Value.string { data := #[99] }, Value.int IntKind.i64 4]) (fun _ => by kernel_rfl)) rfl rfl rfl ?_
  have l2054 := r1517.lt
  have l2055 := r949.lt
  refine LL.lit (e := 56) [Value.int IntKind.u64 9, Value.string { data := #[99] }, Value.int IntKind.i64 4] 1 rfl rfl (fun _ => by kernel_rfl) rfl rfl ?_
  intro W2057 g2058 eg2058 r2059 z2060 b2056
  replace hS := hS.up b2056
  replace r1517 := r1517.up b2056
  replace b85 := b85.trans (b2056.mono b85.size)
  replace q := q.trans (b2056.mono q.size)
  replace r949 := r949.up b2056
  refine LL.val (R.buildV rfl rfl (v := .agg #[Value.int IntKind.i64 0, Value.int IntKind.i64 0, Value.int IntKind.i64 0, Value.int IntKind.i64 0, Value.int IntKind.i64 0, Value.slice none 0 0, Value.string { data := #[] }, Value.slice (some { block := g2058, off := 0 }) 1 1, Value.int IntKind.u64 10]) (fun _ => by kernel_rfl)) rfl rfl rfl ?_
  (refine LL.call (R.call rfl rfl rfl) rfl rfl rfl (Sm.take_more hS (by decide) [(9, [99], 4)] (RowL.readsT nmEnc (ts := [(9, [99], 4)]) (by assumption) 1 (Nat.le_refl _)) (fun x e => by cases e; dsimp only; omega) (by decide) (by decide)) ?_; rintro e W2202 ⟨rfl, b2, hN, hb2, t2201⟩; clear hS; have hS := hN; clear hN; refine ⟨_, rfl, ?_⟩)
  have zt2201 := t2201.size
  replace r1517 := r1517.kept t2201 ⟨r1517.lt, by omega⟩
  replace b85 := t2201.onB b85 (fun j hj => ⟨by have := b85.size; omega, by omega⟩)
  replace q := t2201.onB q (fun j hj => ⟨by have := q.size; omega, by omega⟩)
  replace r949 := r949.kept t2201 ⟨r949.lt, by omega⟩
  refine LL.val (R.assign rfl rfl) rfl rfl rfl ?_
  refine LL.nilS ?_
  refine CC.seq ?_
  refine CC.region ?_
  refine LL.val (R.move rfl rfl) rfl rfl rfl ?_
  refine LL.val (R.buildV rfl rfl (v := .agg #[Value.int IntKind.i64 0, Value.int IntKind.i64 0, Value.int IntKind.i64 0, Value.int IntKind.i64 0, Value.int IntKind.i64 0, Value.slice none 0 0, Value.string { data := #[] }, Value.slice none 0 0, Value.int IntKind.u64 10]) (fun _ => by kernel_rfl)) rfl rfl rfl ?_
  (refine LL.call (R.call rfl rfl rfl) rfl rfl rfl (Sm.take_end 0 hS (.inr rfl)) ?_; rintro e W2547 ⟨rfl, hN, t2546⟩; clear hS; have hS := hN; clear hN; refine ⟨_, rfl, ?_⟩)
  have zt2546 := t2546.size
  replace r1517 := r1517.kept t2546 ⟨r1517.lt, by omega⟩
  replace b85 := t2546.onB b85 (fun j hj => ⟨by have := b85.size; omega, by omega⟩)
  replace q := t2546.onB q (fun j hj => ⟨by have := q.size; omega, by omega⟩)
  replace r949 := r949.kept t2546 ⟨r949.lt, by omega⟩
  refine LL.val (R.assign rfl rfl) rfl rfl rfl ?_
  refine LL.nilS ?_
  refine CC.seq ?_
  refine CC.region ?_
  refine LL.val (R.move rfl rfl) rfl rfl rfl ?_
  have l2798 := r1517.lt
  have l2799 := r949.lt
  (refine LL.call (R.call rfl rfl rfl) rfl rfl rfl (Sm.over_any hS) ?_; rintro e W2797 ⟨rfl, b2794⟩; refine ⟨_, rfl, ?_⟩)
  have zb2794 := b2794.size
  replace hS := hS.up b2794
  replace r1517 := r1517.up b2794
  replace b85 := b85.trans (b2794.mono b85.size)
  replace q := q.trans (b2794.mono q.size)
  replace r949 := r949.up b2794
  refine LL.val (R.move rfl rfl) rfl rfl rfl ?_
  refine LL.val (R.extract rfl rfl rfl) rfl rfl rfl ?_
  refine LL.val (R.extract rfl rfl rfl) rfl rfl rfl ?_
  refine LL.val (R.assign rfl rfl) rfl rfl rfl ?_
  refine LL.val (R.assign rfl rfl) rfl rfl rfl ?_
  refine LL.nilS ?_
  refine CC.seq ?_
  refine CC.region ?_
  refine LL.val (R.move rfl rfl) rfl rfl rfl ?_
  have l3467 := r1517.lt
  have l3468 := r949.lt
  (refine LL.call (R.call rfl rfl rfl) rfl rfl rfl (Sm.told_any hS (by decide)) ?_; rintro e W3466 ⟨a9, n9, c9, rfl, ot, b3463⟩; refine ⟨_, rfl, ?_⟩; obtain ⟨_, _, e9, _⟩ := ot.form (n := 3) rfl; cases e9; clear ot)
  have zb3463 := b3463.size
  replace b2794 := b2794.trans (b3463.mono b2794.size)
  replace hS := hS.up b3463
  replace r1517 := r1517.up b3463
  replace b85 := b85.trans (b3463.mono b85.size)
  replace q := q.trans (b3463.mono q.size)
  replace r949 := r949.up b3463
  refine LL.val (R.move rfl rfl) rfl rfl rfl ?_
  refine LL.val (R.extract rfl rfl rfl) rfl rfl rfl ?_
  refine LL.val (R.extract rfl rfl rfl) rfl rfl rfl ?_
  refine LL.val (R.assign rfl rfl) rfl rfl rfl ?_
  refine LL.val (R.assign rfl rfl) rfl rfl rfl ?_
  refine LL.nilS ?_
  refine CC.seq ?_
  refine CC.region ?_
  have l4043 := r1517.lt
  have l4044 := r949.lt
  (refine LL.call (R.call rfl rfl rfl) rfl rfl rfl (snew_no [47] 0 (by decide)) ?_; rintro e W4042 ⟨rfl, b4039⟩; refine ⟨_, rfl, ?_⟩)
  have zb4039 := b4039.size
  replace b3463 := b3463.trans (b4039.mono b3463.size)
  replace b2794 := b2794.trans (b4039.mono b2794.size)
  replace hS := hS.up b4039
  replace r1517 := r1517.up b4039
  replace b85 := b85.trans (b4039.mono b85.size)
  replace q := q.trans (b4039.mono q.size)
  replace r949 := r949.up b4039
  refine LL.val (R.move rfl rfl) rfl rfl rfl ?_
  refine LL.val (R.extract rfl rfl rfl) rfl rfl rfl ?_
  refine LL.val (R.extract rfl rfl rfl) rfl rfl rfl ?_
  refine LL.val (R.assign rfl rfl) rfl rfl rfl ?_
  refine LL.val (R.assign rfl rfl) rfl rfl rfl ?_
  refine LL.nilS ?_
  refine CC.seq ?_
  refine CC.region ?_
  refine LL.val (R.move rfl rfl) rfl rfl rfl ?_
  refine LL.call (R.call rfl rfl rfl) rfl rfl rfl (num28_any _ _) ?_
  rintro e W' ⟨rfl, rfl⟩
  refine ⟨_, rfl, ?_⟩
  refine LL.val (R.move rfl rfl) rfl rfl rfl ?_
  refine LL.call (R.call rfl rfl rfl) rfl rfl rfl (num28_any _ _) ?_
  rintro e W' ⟨rfl, rfl⟩
  refine ⟨_, rfl, ?_⟩
  refine LL.val (R.addIz (z := 0) rfl rfl rfl (by decide) (by decide)) rfl rfl rfl ?_
  refine LL.val (R.move rfl rfl) rfl rfl rfl ?_
  refine LL.call (R.call rfl rfl rfl) rfl rfl rfl (num28_any _ _) ?_
  rintro e W' ⟨rfl, rfl⟩
  refine ⟨_, rfl, ?_⟩
  refine LL.val (R.addIz (z := 0) rfl rfl rfl (by decide) (by decide)) rfl rfl rfl ?_
  refine LL.val (R.move rfl rfl) rfl rfl rfl ?_
  refine LL.call (R.call rfl rfl rfl) rfl rfl rfl (num28_any _ _) ?_
  rintro e W' ⟨rfl, rfl⟩
  refine ⟨_, rfl, ?_⟩
  refine LL.val (R.addIz (z := 0) rfl rfl rfl (by decide) (by decide)) rfl rfl rfl ?_
  refine LL.val (R.move rfl rfl) rfl rfl rfl ?_
  refine LL.call (R.call rfl rfl rfl) rfl rfl rfl (num28_any _ _) ?_
  rintro e W' ⟨rfl, rfl⟩
  refine ⟨_, rfl, ?_⟩
  refine LL.val (R.addIz (z := 0) rfl rfl rfl (by decide) (by decide)) rfl rfl rfl ?_
  refine LL.val (R.eqT rfl rfl rfl (by omega)) rfl rfl rfl ?_
  refine LL.val (R.move rfl rfl) rfl rfl rfl ?_
  refine LL.val (R.move rfl rfl) rfl rfl rfl ?_
  refine LL.val (R.pick rfl rfl rfl) rfl rfl rfl ?_
  refine LL.val (R.move rfl rfl) rfl rfl rfl ?_
  refine LL.val (R.field rfl rfl (I.fld rfl)) rfl rfl rfl ?_
  refine LL.val (R.load rfl rfl (I.ld1 rfl (RowL.cell r949 rfl))) rfl rfl rfl ?_
  refine LL.val (R.eqT rfl rfl rfl (by omega)) rfl rfl rfl ?_
  refine LL.val (R.pick rfl rfl rfl) rfl rfl rfl ?_
  refine LL.val (R.move rfl rfl) rfl rfl rfl ?_
  refine LL.val (R.field rfl rfl (I.fld rfl)) rfl rfl rfl ?_
  refine LL.val (R.load rfl rfl (I.ld1 rfl (RowL.cell r949 rfl))) rfl rfl rfl ?_
  (refine LL.val (R.eqS (a := [47]) (b := [47]) (c := true) rfl rfl rfl (by simp)) rfl rfl rfl ?_)
  refine LL.val (R.pick rfl rfl rfl) rfl rfl rfl ?_
  refine LL.val (R.move rfl rfl) rfl rfl rfl ?_
  refine LL.val (R.field rfl rfl (I.fld rfl)) rfl rfl rfl ?_
  refine LL.val (R.load rfl rfl (I.ld1 rfl (RowL.cell r949 rfl))) rfl rfl rfl ?_
  refine LL.val (R.eqT rfl rfl rfl (by omega)) rfl rfl rfl ?_
  refine LL.val (R.pick rfl rfl rfl) rfl rfl rfl ?_
  refine LL.val (R.move rfl rfl) rfl rfl rfl ?_
  refine LL.val (R.field rfl rfl (I.fld rfl)) rfl rfl rfl ?_
  refine LL.val (R.load rfl rfl (I.ld1 rfl (RowL.cell r949 rfl))) rfl rfl rfl ?_
  refine LL.val (R.eqT rfl rfl rfl (by omega)) rfl rfl rfl ?_
  refine LL.val (R.pick rfl rfl rfl) rfl rfl rfl ?_
  refine LL.val (R.move rfl rfl) rfl rfl rfl ?_
  refine LL.val (R.move rfl rfl) rfl rfl rfl ?_
  refine LL.val (R.pick rfl rfl rfl) rfl rfl rfl ?_
  refine LL.val (R.move rfl rfl) rfl rfl rfl ?_
  refine LL.val (R.move rfl rfl) rfl rfl rfl ?_
  refine LL.val (R.pick rfl rfl rfl) rfl rfl rfl ?_
  refine LL.val (R.move rfl rfl) rfl rfl rfl ?_
  refine LL.val (R.move rfl rfl) rfl rfl rfl ?_
  refine LL.val (R.len rfl rfl rfl rfl) rfl rfl rfl ?_
  refine LL.val (R.eqT rfl rfl rfl (by omega)) rfl rfl rfl ?_
  refine LL.val (R.pick rfl rfl rfl) rfl rfl rfl ?_
  refine LL.val (R.move rfl rfl) rfl rfl rfl ?_
  refine LL.val (R.move rfl rfl) rfl rfl rfl ?_
  have l9830 := r1517.lt
  have l9831 := r949.lt
  (refine LL.call (R.call rfl rfl rfl) rfl rfl rfl (Sm.cursor_any hS) ?_; rintro e W9829 ⟨rfl, b9826⟩; refine ⟨_, rfl, ?_⟩)
  have zb9826 := b9826.size
  replace b4039 := b4039.trans (b9826.mono b4039.size)
  replace b3463 := b3463.trans (b9826.mono b3463.size)
  replace b2794 := b2794.trans (b9826.mono b2794.size)
  replace hS := hS.up b9826
  replace r1517 := r1517.up b9826
  replace b85 := b85.trans (b9826.mono b85.size)
  replace q := q.trans (b9826.mono q.size)
  replace r949 := r949.up b9826
  refine LL.vsplit (fun h => R.eqT rfl rfl rfl h) (fun h => R.eqF rfl rfl rfl h) rfl rfl rfl (fun c9937 => ?_) (fun c9937 => ?_)
  refine LL.val (R.pick rfl rfl rfl) rfl rfl rfl ?_
  refine LL.val (R.move rfl rfl) rfl rfl rfl ?_
  refine LL.val (R.move rfl rfl) rfl rfl rfl ?_
  refine LL.val (R.buildV rfl rfl (v := .agg #[Value.int IntKind.i64 0, Value.int IntKind.i64 0, Value.int IntKind.i64 0, Value.int IntKind.i64 0, Value.int IntKind.i64 0, Value.slice none 0 0, Value.string { data := #[] }, Value.slice none 0 0, Value.int IntKind.u64 0]) (fun _ => by kernel_rfl)) rfl rfl rfl ?_
  have l10434 := r1517.lt
  have l10435 := r949.lt
  (refine LL.call (R.call rfl rfl rfl) rfl rfl rfl (Sm.take_over 0 hS) ?_; rintro e W10433 ⟨rfl, b10430⟩; refine ⟨_, rfl, ?_⟩)
  have zb10430 := b10430.size
  replace b9826 := b9826.trans (b10430.mono b9826.size)
  replace b4039 := b4039.trans (b10430.mono b4039.size)
  replace b3463 := b3463.trans (b10430.mono b3463.size)
  replace b2794 := b2794.trans (b10430.mono b2794.size)
  replace hS := hS.up b10430
  replace r1517 := r1517.up b10430
  replace b85 := b85.trans (b10430.mono b85.size)
  replace q := q.trans (b10430.mono q.size)
  replace r949 := r949.up b10430
  refine LL.call (R.call rfl rfl rfl) rfl rfl rfl (num28_any _ _) ?_
  rintro e W' ⟨rfl, rfl⟩
  refine ⟨_, rfl, ?_⟩
  refine LL.val (R.eqT rfl rfl rfl (by omega)) rfl rfl rfl ?_
  refine LL.val (R.pick rfl rfl rfl) rfl rfl rfl ?_
  refine LL.val (R.move rfl rfl) rfl rfl rfl ?_
  refine LL.val (R.move rfl rfl) rfl rfl rfl ?_
  refine LL.call (R.call rfl rfl rfl) rfl rfl rfl (num28_any _ _) ?_
  rintro e W' ⟨rfl, rfl⟩
  refine ⟨_, rfl, ?_⟩
  refine LL.val (R.eqT rfl rfl rfl (by omega)) rfl rfl rfl ?_
  refine LL.val (R.pick rfl rfl rfl) rfl rfl rfl ?_
  refine LL.val (R.assign rfl rfl) rfl rfl rfl ?_
  refine LL.nilS ?_
  refine CC.ret ?_
  refine EE.ret _ rfl rfl ?_
  exact ⟨rfl, q⟩
  refine LL.val (R.pick rfl rfl rfl) rfl rfl rfl ?_
  refine LL.val (R.move rfl rfl) rfl rfl rfl ?_
  refine LL.skip rfl rfl ?_
  refine LL.skip rfl rfl ?_
  refine LL.skip rfl rfl ?_
  refine LL.skip rfl rfl ?_
  refine LL.skip rfl rfl ?_
  refine LL.val (R.pick rfl rfl rfl) rfl rfl rfl ?_
  refine LL.val (R.move rfl rfl) rfl rfl rfl ?_
  refine LL.skip rfl rfl ?_
  refine LL.skip rfl rfl ?_
  refine LL.skip rfl rfl ?_
  refine LL.val (R.pick rfl rfl rfl) rfl rfl rfl ?_
  refine LL.val (R.assign rfl rfl) rfl rfl rfl ?_
  refine LL.nilS ?_
  refine CC.ret ?_
  refine EE.ret _ rfl rfl ?_
  exact absurd (show ((10 : Nat) : Int) = 10 from rfl) (by assumption)
end Go.Proofs.YtompfnnmiccipaaGreatDoor
/- stream: no stream, no model (written by genst20.py). -/
namespace Go.Proofs.YtompfnnmiccipaaGreatDoor
set_option linter.unusedVariables false
set_option linter.unusedSimpArgs false
open Go.RowKit Go.Shelf
set_option maxRecDepth 100000
set_option maxHeartbeats 8000000
abbrev zsL : List Value := [.int .i64 0, strV [], strV [], .int .i64 0, .int .i64 0, .int .u64 0, .slice none 0 0, .slice none 0 0, .bool false, .int .i64 0, .bool false]
/-- What is no stream: nil, or the zero one. -/
def NoS (w : World) (v : Value) : Prop := v = .pointer none ∨ ∃ g, v = .pointer (some ⟨g, 0, none⟩) ∧ RowL w g 36 zsL
theorem NoS.up {w w' : World} {v : Value} (h : NoS w v) (b : Below w.heap.size w w') : NoS w' v := by
  rcases h with e | ⟨g, e, r⟩
  · exact .inl e
  · exact .inr ⟨g, e, r.up b⟩
theorem nnone_any {w : World} {v : Value} (h : NoS w v) : Calls Tryz.prog 14 #[v] w fun e w' => e = .returned (.bool true) ∧ w = w' := by
  rcases h with rfl | ⟨g, rfl, h⟩
  · refine X.fn Tryz.func14 rfl (n := 12) rfl rfl ?_
    refine CC.seq ?_
    refine CC.region ?_
    refine LL.val (R.assign rfl rfl) rfl rfl rfl ?_
    refine LL.nilS ?_
    refine CC.seq ?_
    refine CC.region ?_
    refine LL.val (R.move rfl rfl) rfl rfl rfl ?_
    refine LL.val (R.eqPtr rfl rfl rfl rfl rfl) rfl rfl rfl ?_
    refine LL.val (R.move rfl rfl) rfl rfl rfl ?_
    refine LL.skip rfl rfl ?_
    refine LL.skip rfl rfl ?_
    refine LL.skip rfl rfl ?_
    refine LL.skip rfl rfl ?_
    refine LL.skip rfl rfl ?_
    refine LL.val (R.pick rfl rfl rfl) rfl rfl rfl ?_
    refine LL.val (R.assign rfl rfl) rfl rfl rfl ?_
    refine LL.nilS ?_
    refine CC.ret ?_
    refine EE.ret _ rfl rfl ?_
    exact ⟨rfl, rfl⟩
  · refine X.fn Tryz.func14 rfl (n := 12) rfl rfl ?_
    refine CC.seq ?_
    refine CC.region ?_
    refine LL.val (R.assign rfl rfl) rfl rfl rfl ?_
    refine LL.nilS ?_
    refine CC.seq ?_
    refine CC.region ?_
    refine LL.val (R.move rfl rfl) rfl rfl rfl ?_
    refine LL.val (R.eqPtr rfl rfl rfl rfl rfl) rfl rfl rfl ?_
    refine LL.val (R.move rfl rfl) rfl rfl rfl ?_
    refine LL.val (R.move rfl rfl) rfl rfl rfl ?_
    refine LL.val (R.nil rfl rfl) rfl rfl rfl ?_
    refine LL.val (R.field rfl rfl (I.fld rfl)) rfl rfl rfl ?_
    refine LL.val (R.load rfl rfl (I.ld1 rfl (RowL.cell h rfl))) rfl rfl rfl ?_
    refine LL.val (R.not rfl rfl) rfl rfl rfl ?_
    refine LL.val (R.pick rfl rfl rfl) rfl rfl rfl ?_
    refine LL.val (R.assign rfl rfl) rfl rfl rfl ?_
    refine LL.nilS ?_
    refine CC.ret ?_
    refine EE.ret _ rfl rfl ?_
    exact ⟨rfl, rfl⟩
section
variable {v : Value} {w : World}
theorem ncall_any (h : NoS w v) : Calls Tryz.prog 4 #[v] w fun e w' => e = .returned (.tuple #[caV 0 [] 0 0, .bool false]) ∧ Below w.heap.size w w' := by
  have q := Below.refl w.heap.size w
  refine X.fn Tryz.func4 rfl (n := 18) rfl rfl ?_
  refine CC.seq ?_
  refine CC.region ?_
  refine LL.alloc ([Value.int IntKind.i64 0, Value.string { data := { toList := [] } }, Value.string { data := { toList := [] } }, Value.int IntKind.i64 0, Value.int IntKind.i64 0, Value.int IntKind.u64 0, Value.slice none 0 0]) rfl rfl rfl rfl rfl ?_
  intro W2 g3 eg3 r4 z5 b1
  replace h := h.up b1
  replace q := q.trans (b1.mono q.size)
  refine LL.val (R.assign rfl rfl) rfl rfl rfl ?_
  refine LL.nilS ?_
  refine CC.seq ?_
  refine CC.seq ?_
  refine CC.region ?_
  refine LL.val (R.move rfl rfl) rfl rfl rfl ?_
  refine LL.call (R.call rfl rfl rfl) rfl rfl rfl (nnone_any h) ?_
  rintro e W' ⟨rfl, rfl⟩
  refine ⟨_, rfl, ?_⟩
  refine LL.val (R.move rfl rfl) rfl rfl rfl ?_
  refine LL.skip rfl rfl ?_
  refine LL.skip rfl rfl ?_
  refine LL.skip rfl rfl ?_
  refine LL.skip rfl rfl ?_
  refine LL.val (R.pick rfl rfl rfl) rfl rfl rfl ?_
  refine LL.nilS ?_
  refine CC.yes rfl ?_
  refine CC.seq ?_
  refine CC.region ?_
  refine LL.val (R.buildV rfl rfl (v := .agg #[Value.int IntKind.i64 0, Value.string { data := #[] }, Value.string { data := #[] }, Value.int IntKind.i64 0, Value.int IntKind.i64 0, Value.int IntKind.u64 0, Value.slice none 0 0]) (fun _ => by kernel_rfl)) rfl rfl rfl ?_
  refine LL.storeN (vs := [Value.int IntKind.i64 0, Value.string { data := #[] }, Value.string { data := #[] }, Value.int IntKind.i64 0, Value.int IntKind.i64 0, Value.int IntKind.u64 0, Value.slice none 0 0]) rfl rfl rfl rfl r4 (by exact Nat.le_of_ble_eq_true rfl) (ones_of rfl) rfl rfl ?_
  intro W7 r8 b6 z9
  have hlb6 := r4.lt
  replace r8 : RowL W7 _ 32 [Value.int IntKind.i64 0, Value.string { data := #[] }, Value.string { data := #[] }, Value.int IntKind.i64 0, Value.int IntKind.i64 0, Value.int IntKind.u64 0, Value.slice none 0 0] := r8
  clear r4
  replace b1 := b1.grown b6 b1.size (by rintro k ⟨⟩; omega)
  replace q := q.grown b6 q.size (by rintro k ⟨⟩; omega)
  have r4 := r8
  clear r8
  refine LL.val (R.assign rfl rfl) rfl rfl rfl ?_
  refine LL.nilS ?_
  refine CC.ret ?_
  refine EE.thenR ?_
  refine EE.ret2 rfl ⟨_, rfl, lvNc (RowL.cells0 (by assumption)) (by rfl) (by rfl)⟩ rfl ?_
  exact ⟨rfl, q⟩
--C stream_Stream_none | nnone_any h | S
theorem nover_any (h : NoS w v) : Calls Tryz.prog 5 #[v] w fun e w' => e = .returned (.tuple #[.bool true, .int .i64 1]) ∧ Below w.heap.size w w' := by
  have q := Below.refl w.heap.size w
  refine X.fn Tryz.func5 rfl (n := 14) rfl rfl ?_
  refine CC.seq ?_
  refine CC.region ?_
  refine LL.val (R.assign rfl rfl) rfl rfl rfl ?_
  refine LL.val (R.assign rfl rfl) rfl rfl rfl ?_
  refine LL.nilS ?_
  refine CC.seq ?_
  refine CC.seq ?_
  refine CC.region ?_
  refine LL.val (R.move rfl rfl) rfl rfl rfl ?_
  refine LL.call (R.call rfl rfl rfl) rfl rfl rfl (nnone_any h) ?_
  rintro e W' ⟨rfl, rfl⟩
  refine ⟨_, rfl, ?_⟩
  refine LL.nilS ?_
  refine CC.yes rfl ?_
  refine CC.seq ?_
  refine CC.region ?_
  refine LL.val (R.assign rfl rfl) rfl rfl rfl ?_
  refine LL.val (R.assign rfl rfl) rfl rfl rfl ?_
  refine LL.nilS ?_
  refine CC.ret ?_
  refine EE.thenR ?_
  refine EE.ret _ rfl rfl ?_
  exact ⟨rfl, q⟩
--C stream_Stream_none | nnone_any h | S
theorem ncursor_any (h : NoS w v) : Calls Tryz.prog 11 #[v] w fun e w' => e = .returned (.int .u64 ((0 : Nat) : Int)) ∧ Below w.heap.size w w' := by
  have q := Below.refl w.heap.size w
  refine X.fn Tryz.func11 rfl (n := 11) rfl rfl ?_
  refine CC.seq ?_
  refine CC.region ?_
  refine LL.val (R.assign rfl rfl) rfl rfl rfl ?_
  refine LL.nilS ?_
  refine CC.seq ?_
  refine CC.seq ?_
  refine CC.region ?_
  refine LL.val (R.move rfl rfl) rfl rfl rfl ?_
  refine LL.call (R.call rfl rfl rfl) rfl rfl rfl (nnone_any h) ?_
  rintro e W' ⟨rfl, rfl⟩
  refine ⟨_, rfl, ?_⟩
  refine LL.nilS ?_
  refine CC.yes rfl ?_
  refine CC.seq ?_
  refine CC.region ?_
  refine LL.val (R.assign rfl rfl) rfl rfl rfl ?_
  refine LL.nilS ?_
  refine CC.ret ?_
  refine EE.thenR ?_
  refine EE.ret _ rfl rfl ?_
  exact ⟨rfl, q⟩
--C stream_Stream_none | nnone_any h | S
theorem nseek_any (h : NoS w v) (k2 : Nat) : Calls Tryz.prog 10 #[v, .int .u64 (k2 : Int)] w fun e w' => e = .returned (.int .i64 1) ∧ Below w.heap.size w w' := by
  have q := Below.refl w.heap.size w
  refine X.fn Tryz.func10 rfl (n := 19) rfl rfl ?_
  refine CC.seq ?_
  refine CC.region ?_
  refine LL.val (R.assign rfl rfl) rfl rfl rfl ?_
  refine LL.nilS ?_
  refine CC.seq ?_
  refine CC.seq ?_
  refine CC.region ?_
  refine LL.val (R.move rfl rfl) rfl rfl rfl ?_
  refine LL.call (R.call rfl rfl rfl) rfl rfl rfl (nnone_any h) ?_
  rintro e W' ⟨rfl, rfl⟩
  refine ⟨_, rfl, ?_⟩
  refine LL.nilS ?_
  refine CC.yes rfl ?_
  refine CC.seq ?_
  refine CC.region ?_
  refine LL.val (R.assign rfl rfl) rfl rfl rfl ?_
  refine LL.nilS ?_
  refine CC.ret ?_
  refine EE.thenR ?_
  refine EE.ret _ rfl rfl ?_
  exact ⟨rfl, q⟩
--C stream_Stream_none | nnone_any h | S
theorem ncopy_any (h : NoS w v) : Calls Tryz.prog 12 #[v] w fun e w' => e = .returned (.pointer none) ∧ Below w.heap.size w w' := by
  have q := Below.refl w.heap.size w
  refine X.fn Tryz.func12 rfl (n := 15) rfl rfl ?_
  refine CC.seq ?_
  refine CC.region ?_
  refine LL.val (R.assign rfl rfl) rfl rfl rfl ?_
  refine LL.nilS ?_
  refine CC.seq ?_
  refine CC.seq ?_
  refine CC.region ?_
  refine LL.val (R.move rfl rfl) rfl rfl rfl ?_
  refine LL.call (R.call rfl rfl rfl) rfl rfl rfl (nnone_any h) ?_
  rintro e W' ⟨rfl, rfl⟩
  refine ⟨_, rfl, ?_⟩
  refine LL.nilS ?_
  refine CC.yes rfl ?_
  refine CC.seq ?_
  refine CC.region ?_
  refine LL.val (R.assign rfl rfl) rfl rfl rfl ?_
  refine LL.nilS ?_
  refine CC.ret ?_
  refine EE.thenR ?_
  refine EE.ret _ rfl rfl ?_
  exact ⟨rfl, q⟩
--C stream_Stream_none | nnone_any h | S
theorem ntake_any (h : NoS w v) (a : Value) : Calls Tryz.prog 9 #[v, a] w fun e w' => e = .returned (.int .i64 1) ∧ Below w.heap.size w w' := by
  have q := Below.refl w.heap.size w
  refine X.fn Tryz.func9 rfl (n := 26) rfl rfl ?_
  refine CC.seq ?_
  refine CC.region ?_
  refine LL.box _ rfl rfl rfl rfl rfl ?_
  intro W2 g3 eg3 r4 z5 b1
  replace h := h.up b1
  replace q := q.trans (b1.mono q.size)
  refine LL.val (R.assign rfl rfl) rfl rfl rfl ?_
  refine LL.nilS ?_
  refine CC.fwd (l := 0) (α := Unit) (fun _ => []) (fun _ => [(5, .int .i64 1)]) (fun _ W => Below w.heap.size w W) rfl ?first ?pass
  case pass =>
    rintro _ W q
    refine CC.seq ?_
    refine CC.skip ?_
    refine EE.thenN ?_
    refine CC.seq ?_
    refine CC.region ?_
    refine LL.val (R.move rfl rfl) rfl rfl rfl ?_
    refine LL.val (R.assign rfl rfl) rfl rfl rfl ?_
    refine LL.nilS ?_
    refine CC.ret ?_
    refine EE.jumpR ?_
    refine EE.ret _ rfl rfl ?_
    exact ⟨rfl, q⟩
  case first =>
    refine CC.seq ?_
    refine CC.region ?_
    refine LL.val (R.assign rfl rfl) rfl rfl rfl ?_
    refine LL.nilS ?_
    refine CC.seq ?_
    refine CC.seq ?_
    refine CC.region ?_
    refine LL.val (R.move rfl rfl) rfl rfl rfl ?_
    refine LL.call (R.call rfl rfl rfl) rfl rfl rfl (nnone_any h) ?_
    rintro e W' ⟨rfl, rfl⟩
    refine ⟨_, rfl, ?_⟩
    refine LL.nilS ?_
    refine CC.yes rfl ?_
    refine CC.seq ?_
    refine CC.region ?_
    refine LL.val (R.assign rfl rfl) rfl rfl rfl ?_
    refine LL.nilS ?_
    refine CC.goto ?_
    refine EE.thenG ?_
    exact EE.jumpTo () rfl ⟨rfl, trivial⟩ q
--C stream_Stream_none | hF _ q | S
theorem ntold_any (h : NoS w v) : Calls Tryz.prog 15 #[v] w fun e w' => ∃ b3, e = .returned (.func (.func 20) #[] #[.pointer (some ⟨b3, 0, none⟩)]) ∧ toR b3 [] w' ∧ w.heap.size ≤ b3 ∧ Below w.heap.size w w' := by
  have q := Below.refl w.heap.size w
  have hF := fun X (b : Below w.heap.size w X) => nnone_any (h.up b)
  clear h
  refine X.fn Tryz.func15 rfl (n := 14) rfl rfl ?_
  refine CC.seq ?_
  refine CC.region ?_
  refine LL.val (R.assign rfl rfl) rfl rfl rfl ?_
  refine LL.nilS ?_
  refine CC.seq ?_
  refine CC.region ?_
  refine LL.alloc ([Value.slice none 0 0]) rfl rfl rfl rfl rfl ?_
  intro W2 g3 eg3 r4 z5 b1
  replace q := q.trans (b1.mono q.size)
  refine LL.nilS ?_
  refine CC.seq ?_
  refine CC.seq ?_
  refine CC.region ?_
  refine LL.val (R.move rfl rfl) rfl rfl rfl ?_
  refine LL.call (R.call rfl rfl rfl) rfl rfl rfl (hF _ q) ?_
  rintro e W' ⟨rfl, rfl⟩
  refine ⟨_, rfl, ?_⟩
  refine LL.val (R.not rfl rfl) rfl rfl rfl ?_
  refine LL.nilS ?_
  refine CC.no rfl ?_
  refine CC.skip ?_
  refine EE.thenN ?_
  refine CC.seq ?_
  refine CC.region ?_
  refine LL.val (R.func rfl rfl rfl) rfl rfl rfl ?_
  refine LL.val (R.assign rfl rfl) rfl rfl rfl ?_
  refine LL.nilS ?_
  refine CC.ret ?_
  refine EE.ret _ rfl rfl ?_
  exact ⟨_, rfl, ⟨_, _, _, (by assumption), OwnsT.none _ _ _⟩, by omega, q⟩
theorem nltold_any (h : NoS w v) : Calls Tryz.prog 6 #[v] w fun e w' => ∃ a' c', e = .returned (.tuple #[.slice a' 0 c', .bool true]) ∧ Below w.heap.size w w' := by
  refine (ltold_of v [] (by decide) fun _ b => ntold_any (h.up b)).mono fun e w' ⟨a, n, c, e1, hr, t⟩ => ?_
  obtain ⟨_, _, e2, _⟩ := hr.form (n := 0) rfl
  cases e2
  exact ⟨_, _, e1, t⟩
end
theorem mnone_nil (w : World) : Calls Tryz.prog 22 #[.pointer none] w fun e w' => e = .returned (.bool true) ∧ w = w' := by
  refine X.fn Tryz.func22 rfl (n := 12) rfl rfl ?_
  refine CC.seq ?_
  refine CC.region ?_
  refine LL.val (R.assign rfl rfl) rfl rfl rfl ?_
  refine LL.nilS ?_
  refine CC.seq ?_
  refine CC.region ?_
  refine LL.val (R.move rfl rfl) rfl rfl rfl ?_
  refine LL.val (R.eqPtr rfl rfl rfl rfl rfl) rfl rfl rfl ?_
  refine LL.val (R.move rfl rfl) rfl rfl rfl ?_
  refine LL.skip rfl rfl ?_
  refine LL.skip rfl rfl ?_
  refine LL.skip rfl rfl ?_
  refine LL.skip rfl rfl ?_
  refine LL.skip rfl rfl ?_
  refine LL.val (R.pick rfl rfl rfl) rfl rfl rfl ?_
  refine LL.val (R.assign rfl rfl) rfl rfl rfl ?_
  refine LL.nilS ?_
  refine CC.ret ?_
  refine EE.ret _ rfl rfl ?_
  exact ⟨rfl, rfl⟩
--C model_Model_none | mnone_nil @w | S
theorem mdo_nil (w : World) : Calls Tryz.prog 16 #[.pointer none, caV 0 [] 0 0] w fun e w' => e = .returned (.agg #[.int .i64 1, .int .i64 0, .int .i64 0, .int .i64 0, .int .i64 0, .slice none 0 0, strV [], .slice none 0 0, .int .u64 0]) ∧ Below w.heap.size w w' := by
  have q := Below.refl w.heap.size w
  refine X.fn Tryz.func16 rfl (n := 29) rfl rfl ?_
  refine CC.seq ?_
  refine CC.region ?_
  refine LL.box [Value.pointer none] rfl rfl rfl rfl rfl ?_
  intro W2 g3 eg3 r4 z5 b1
  replace q := q.trans (b1.mono q.size)
  have l6 := r4.lt
  refine LL.box [Value.int IntKind.i64 0, strV [], strV [], Value.int IntKind.i64 0, Value.int IntKind.i64 0, Value.int IntKind.u64 ↑0, Value.slice none 0 0] rfl rfl rfl rfl rfl ?_
  intro W8 g9 eg9 r10 z11 b7
  replace r4 := r4.up b7
  replace b1 := b1.trans (b7.mono b1.size)
  replace q := q.trans (b7.mono q.size)
  have l12 := r10.lt
  have l13 := r4.lt
  refine LL.alloc ([Value.int IntKind.i64 0, Value.int IntKind.i64 0, Value.int IntKind.i64 0, Value.int IntKind.i64 0, Value.int IntKind.i64 0, Value.slice none 0 0, Value.string { data := { toList := [] } }, Value.slice none 0 0, Value.int IntKind.u64 0]) rfl rfl rfl rfl rfl ?_
  intro W15 g16 eg16 r17 z18 b14
  replace r10 := r10.up b14
  replace b7 := b7.trans (b14.mono b7.size)
  replace r4 := r4.up b14
  replace b1 := b1.trans (b14.mono b1.size)
  replace q := q.trans (b14.mono q.size)
  refine LL.nilS ?_
  refine CC.seq ?_
  refine CC.seq ?_
  refine CC.region ?_
  refine LL.val (R.load rfl rfl (I.ld1 rfl (RowL.cell r4 rfl))) rfl rfl rfl ?_
  refine LL.call (R.call rfl rfl rfl) rfl rfl rfl (mnone_nil _) ?_
  rintro e W' ⟨rfl, rfl⟩
  refine ⟨_, rfl, ?_⟩
  refine LL.nilS ?_
  refine CC.yes rfl ?_
  refine CC.seq ?_
  refine CC.region ?_
  refine LL.val (R.buildV rfl rfl (v := .agg #[Value.int IntKind.i64 1, Value.int IntKind.i64 0, Value.int IntKind.i64 0, Value.int IntKind.i64 0, Value.int IntKind.i64 0, Value.slice none 0 0, Value.string { data := #[] }, Value.slice none 0 0, Value.int IntKind.u64 0]) (fun _ => by kernel_rfl)) rfl rfl rfl ?_
  refine LL.storeN (vs := [Value.int IntKind.i64 1, Value.int IntKind.i64 0, Value.int IntKind.i64 0, Value.int IntKind.i64 0, Value.int IntKind.i64 0, Value.slice none 0 0, Value.string { data := #[] }, Value.slice none 0 0, Value.int IntKind.u64 0]) rfl rfl rfl rfl r17 (by exact Nat.le_of_ble_eq_true rfl) (ones_of rfl) rfl rfl ?_
  intro W20 r21 b19 z22
  have hlb19 := r17.lt
  replace r21 : RowL W20 _ 28 [Value.int IntKind.i64 1, Value.int IntKind.i64 0, Value.int IntKind.i64 0, Value.int IntKind.i64 0, Value.int IntKind.i64 0, Value.slice none 0 0, Value.string { data := #[] }, Value.slice none 0 0, Value.int IntKind.u64 0] := r21
  clear r17
  replace b14 := b14.grown b19 b14.size (by rintro k ⟨⟩; omega)
  replace r10 := r10.gr b19 (by have := r10.lt; omega)
  replace b7 := b7.grown b19 b7.size (by rintro k ⟨⟩; omega)
  replace r4 := r4.gr b19 (by have := r4.lt; omega)
  replace b1 := b1.grown b19 b1.size (by rintro k ⟨⟩; omega)
  replace q := q.grown b19 q.size (by rintro k ⟨⟩; omega)
  have r17 := r21
  clear r21
  refine LL.nilS ?_
  refine CC.ret ?_
  refine EE.thenR ?_
  refine EE.retC rfl rfl (lvNc (RowL.cells0 (by assumption)) (by rfl) (by rfl)) ?_
  exact ⟨rfl, q⟩
theorem run_nil (p : Bs) (many : Int) (w : World) : Calls Tryz.prog 7 #[.pointer none, strV p, .int .i64 many] w fun e w' => e = .returned (.tuple #[.slice none 0 0, .int .i64 1]) ∧ Below w.heap.size w w' := by
  have q := Below.refl w.heap.size w
  refine X.fn Tryz.func7 rfl (n := 56) rfl rfl ?_
  refine CC.seq ?_
  refine CC.region ?_
  refine LL.val (R.assign rfl rfl) rfl rfl rfl ?_
  refine LL.val (R.assign rfl rfl) rfl rfl rfl ?_
  refine LL.nilS ?_
  refine CC.seq ?_
  refine CC.seq ?_
  refine CC.region ?_
  refine LL.val (R.move rfl rfl) rfl rfl rfl ?_
  refine LL.val (R.buildV rfl rfl (v := .agg #[Value.int IntKind.i64 0, Value.string { data := #[] }, Value.string { data := #[] }, Value.int IntKind.i64 0, Value.int IntKind.i64 0, Value.int IntKind.u64 0, Value.slice none 0 0]) (fun _ => by kernel_rfl)) rfl rfl rfl ?_
  (refine LL.call (R.call rfl rfl rfl) rfl rfl rfl (mdo_nil _) ?_; rintro e W32 ⟨rfl, b29⟩; refine ⟨_, rfl, ?_⟩)
  have zb29 := b29.size
  replace q := q.trans (b29.mono q.size)
  refine LL.val (R.fieldC rfl rfl (v := Value.int IntKind.i64 1) (fun _ => by kernel_rfl)) rfl rfl rfl ?_
  refine LL.val (R.eqT rfl rfl rfl (by omega)) rfl rfl rfl ?_
  refine LL.nilS ?_
  refine CC.yes rfl ?_
  refine CC.seq ?_
  refine CC.region ?_
  refine LL.val (R.assign rfl rfl) rfl rfl rfl ?_
  refine LL.val (R.assign rfl rfl) rfl rfl rfl ?_
  refine LL.nilS ?_
  refine CC.ret ?_
  refine EE.thenR ?_
  refine EE.ret _ rfl rfl ?_
  exact ⟨rfl, q⟩
--C law28_num | num28_any _ @w | S
theorem snone_top {ino kd lk sz : Int} {ba : Option Addr} {bn bc : Nat} {tx : Bs} {na : Option Addr} {nn nc : Nat} {k2 : Nat} (er : Int) (w : World) : Calls Tryz.prog 3 #[.agg #[.int .i64 er, .int .i64 ino, .int .i64 kd, .int .i64 lk, .int .i64 sz, .slice ba bn bc, strV tx, .slice na nn nc, .int .u64 (k2 : Int)]] w fun e w' => e = .returned (.bool true) ∧ Below w.heap.size w w' := by
  have q := Below.refl w.heap.size w
  have hN : ∀ X : World, NoS X (.pointer none) := fun X => .inl rfl
  refine X.fn Tryz.func3 rfl (n := 138) rfl rfl ?_
  refine CC.seq ?_
  refine CC.region ?_
  refine LL.box [Value.int IntKind.i64 er, Value.int IntKind.i64 ino, Value.int IntKind.i64 kd, Value.int IntKind.i64 lk, Value.int IntKind.i64 sz, Value.slice ba bn bc, strV tx, Value.slice na nn nc, Value.int IntKind.u64 ↑k2] rfl rfl rfl rfl rfl ?_
  intro W128 g129 eg129 r130 z131 b127
  replace q := q.trans (b127.mono q.size)
  refine LL.val (R.assign rfl rfl) rfl rfl rfl ?_
  refine LL.nilS ?_
  refine CC.seq ?_
  refine CC.region ?_
  refine LL.val (R.assign rfl rfl) rfl rfl rfl ?_
  refine LL.nilS ?_
  refine CC.seq ?_
  refine CC.region ?_
  refine LL.val (R.buildV rfl rfl (v := .agg #[Value.int IntKind.i64 0, Value.string { data := #[] }, Value.string { data := #[] }, Value.int IntKind.i64 0, Value.int IntKind.i64 0, Value.int IntKind.u64 0, Value.slice none 0 0, Value.slice none 0 0, Value.bool false, Value.int IntKind.i64 0, Value.bool false]) (fun _ => by kernel_rfl)) rfl rfl rfl ?_
  have l708 := r130.lt
  refine LL.box [Value.int IntKind.i64 0, Value.string { data := #[] }, Value.string { data := #[] }, Value.int IntKind.i64 0, Value.int IntKind.i64 0, Value.int IntKind.u64 0, Value.slice none 0 0, Value.slice none 0 0, Value.bool false, Value.int IntKind.i64 0, Value.bool false] rfl rfl rfl rfl rfl ?_
  intro W710 g711 eg711 r712 z713 b709
  replace r130 := r130.up b709
  replace b127 := b127.trans (b709.mono b127.size)
  replace q := q.trans (b709.mono q.size)
  refine LL.val (R.assign rfl rfl) rfl rfl rfl ?_
  refine LL.nilS ?_
  refine CC.seq ?_
  refine CC.region ?_
  refine LL.val (R.move rfl rfl) rfl rfl rfl ?_
  have l1042 := r712.lt
  have l1043 := r130.lt
  (refine LL.call (R.call rfl rfl rfl) rfl rfl rfl (ncall_any (hN _)) ?_; rintro e W1041 ⟨rfl, b1038⟩; refine ⟨_, rfl, ?_⟩)
  have zb1038 := b1038.size
  replace r712 := r712.up b1038
  replace b709 := b709.trans (b1038.mono b709.size)
  replace r130 := r130.up b1038
  replace b127 := b127.trans (b1038.mono b127.size)
  replace q := q.trans (b1038.mono q.size)
  refine LL.val (R.move rfl rfl) rfl rfl rfl ?_
  refine LL.val (R.extract rfl rfl rfl) rfl rfl rfl ?_
  refine LL.val (R.extract rfl rfl rfl) rfl rfl rfl ?_
  have l1695 := r712.lt
  have l1696 := r130.lt
  refine LL.alloc ([Value.int IntKind.i64 0, Value.string { data := { toList := [] } }, Value.string { data := { toList := [] } }, Value.int IntKind.i64 0, Value.int IntKind.i64 0, Value.int IntKind.u64 0, Value.slice none 0 0]) rfl rfl rfl rfl rfl ?_
  intro W1698 g1699 eg1699 r1700 z1701 b1697
  replace b1038 := b1038.trans (b1697.mono b1038.size)
  replace r712 := r712.up b1697
  replace b709 := b709.trans (b1697.mono b709.size)
  replace r130 := r130.up b1697
  replace b127 := b127.trans (b1697.mono b127.size)
  replace q := q.trans (b1697.mono q.size)
  refine LL.storeN (vs := [Value.int IntKind.i64 0, strV [], strV [], Value.int IntKind.i64 0, Value.int IntKind.i64 0, Value.int IntKind.u64 ↑0, Value.slice none 0 0]) rfl rfl rfl rfl r1700 (by exact Nat.le_of_ble_eq_true rfl) (ones_of rfl) rfl rfl ?_
  intro W1883 r1884 b1882 z1885
  have hlb1882 := r1700.lt
  replace r1884 : RowL W1883 _ 32 [Value.int IntKind.i64 0, strV [], strV [], Value.int IntKind.i64 0, Value.int IntKind.i64 0, Value.int IntKind.u64 ↑0, Value.slice none 0 0] := r1884
  clear r1700
  replace b1697 := b1697.grown b1882 b1697.size (by rintro k ⟨⟩; omega)
  replace b1038 := b1038.grown b1882 b1038.size (by rintro k ⟨⟩; omega)
  replace r712 := r712.gr b1882 (by have := r712.lt; omega)
  replace b709 := b709.grown b1882 b709.size (by rintro k ⟨⟩; omega)
  replace r130 := r130.gr b1882 (by have := r130.lt; omega)
  replace b127 := b127.grown b1882 b127.size (by rintro k ⟨⟩; omega)
  replace q := q.grown b1882 q.size (by rintro k ⟨⟩; omega)
  have r1700 := r1884
  clear r1884
  refine LL.val (R.assign rfl rfl) rfl rfl rfl ?_
  refine LL.nilS ?_
  refine CC.seq ?_
  refine CC.region ?_
  refine LL.val (R.move rfl rfl) rfl rfl rfl ?_
  have l2260 := r712.lt
  have l2261 := r130.lt
  have l2262 := r1700.lt
  (refine LL.call (R.call rfl rfl rfl) rfl rfl rfl (ncall_any (.inr ⟨_, rfl, by assumption⟩)) ?_; rintro e W2259 ⟨rfl, b2256⟩; refine ⟨_, rfl, ?_⟩)
  have zb2256 := b2256.size
  replace b1697 := b1697.trans (b2256.mono b1697.size)
  replace b1038 := b1038.trans (b2256.mono b1038.size)
  replace r712 := r712.up b2256
  replace b709 := b709.trans (b2256.mono b709.size)
  replace r130 := r130.up b2256
  replace b127 := b127.trans (b2256.mono b127.size)
  replace q := q.trans (b2256.mono q.size)
  replace r1700 := r1700.up b2256
  refine LL.val (R.move rfl rfl) rfl rfl rfl ?_
  refine LL.val (R.extract rfl rfl rfl) rfl rfl rfl ?_
  refine LL.val (R.extract rfl rfl rfl) rfl rfl rfl ?_
  have l2986 := r712.lt
  have l2987 := r130.lt
  have l2988 := r1700.lt
  refine LL.alloc ([Value.int IntKind.i64 0, Value.string { data := { toList := [] } }, Value.string { data := { toList := [] } }, Value.int IntKind.i64 0, Value.int IntKind.i64 0, Value.int IntKind.u64 0, Value.slice none 0 0]) rfl rfl rfl rfl rfl ?_
  intro W2990 g2991 eg2991 r2992 z2993 b2989
  replace b2256 := b2256.trans (b2989.mono b2256.size)
  replace b1697 := b1697.trans (b2989.mono b1697.size)
  replace b1038 := b1038.trans (b2989.mono b1038.size)
  replace r712 := r712.up b2989
  replace b709 := b709.trans (b2989.mono b709.size)
  replace r130 := r130.up b2989
  replace b127 := b127.trans (b2989.mono b127.size)
  replace q := q.trans (b2989.mono q.size)
  replace r1700 := r1700.up b2989
  refine LL.storeN (vs := [Value.int IntKind.i64 0, strV [], strV [], Value.int IntKind.i64 0, Value.int IntKind.i64 0, Value.int IntKind.u64 ↑0, Value.slice none 0 0]) rfl rfl rfl rfl r2992 (by exact Nat.le_of_ble_eq_true rfl) (ones_of rfl) rfl rfl ?_
  intro W3193 r3194 b3192 z3195
  have hlb3192 := r2992.lt
  replace r3194 : RowL W3193 _ 32 [Value.int IntKind.i64 0, strV [], strV [], Value.int IntKind.i64 0, Value.int IntKind.i64 0, Value.int IntKind.u64 ↑0, Value.slice none 0 0] := r3194
  clear r2992
  replace b2989 := b2989.grown b3192 b2989.size (by rintro k ⟨⟩; omega)
  replace b2256 := b2256.grown b3192 b2256.size (by rintro k ⟨⟩; omega)
  replace b1697 := b1697.grown b3192 b1697.size (by rintro k ⟨⟩; omega)
  replace b1038 := b1038.grown b3192 b1038.size (by rintro k ⟨⟩; omega)
  replace r712 := r712.gr b3192 (by have := r712.lt; omega)
  replace b709 := b709.grown b3192 b709.size (by rintro k ⟨⟩; omega)
  replace r130 := r130.gr b3192 (by have := r130.lt; omega)
  replace b127 := b127.grown b3192 b127.size (by rintro k ⟨⟩; omega)
  replace q := q.grown b3192 q.size (by rintro k ⟨⟩; omega)
  replace r1700 := r1700.gr b3192 (by have := r1700.lt; omega)
  have r2992 := r3194
  clear r3194
  refine LL.val (R.assign rfl rfl) rfl rfl rfl ?_
  refine LL.nilS ?_
  refine CC.seq ?_
  refine CC.region ?_
  refine LL.val (R.move rfl rfl) rfl rfl rfl ?_
  have l3618 := r712.lt
  have l3619 := r130.lt
  have l3620 := r1700.lt
  have l3621 := r2992.lt
  (refine LL.call (R.call rfl rfl rfl) rfl rfl rfl (nover_any (hN _)) ?_; rintro e W3617 ⟨rfl, b3614⟩; refine ⟨_, rfl, ?_⟩)
  have zb3614 := b3614.size
  replace b2989 := b2989.trans (b3614.mono b2989.size)
  replace b2256 := b2256.trans (b3614.mono b2256.size)
  replace b1697 := b1697.trans (b3614.mono b1697.size)
  replace b1038 := b1038.trans (b3614.mono b1038.size)
  replace r712 := r712.up b3614
  replace b709 := b709.trans (b3614.mono b709.size)
  replace r130 := r130.up b3614
  replace b127 := b127.trans (b3614.mono b127.size)
  replace q := q.trans (b3614.mono q.size)
  replace r1700 := r1700.up b3614
  replace r2992 := r2992.up b3614
  refine LL.val (R.move rfl rfl) rfl rfl rfl ?_
  refine LL.val (R.extract rfl rfl rfl) rfl rfl rfl ?_
  refine LL.val (R.extract rfl rfl rfl) rfl rfl rfl ?_
  refine LL.val (R.assign rfl rfl) rfl rfl rfl ?_
  refine LL.val (R.assign rfl rfl) rfl rfl rfl ?_
  refine LL.nilS ?_
  refine CC.seq ?_
  refine CC.region ?_
  refine LL.val (R.move rfl rfl) rfl rfl rfl ?_
  have l4850 := r712.lt
  have l4851 := r130.lt
  have l4852 := r1700.lt
  have l4853 := r2992.lt
  (refine LL.call (R.call rfl rfl rfl) rfl rfl rfl (nover_any (.inr ⟨_, rfl, by assumption⟩)) ?_; rintro e W4849 ⟨rfl, b4846⟩; refine ⟨_, rfl, ?_⟩)
  have zb4846 := b4846.size
  replace b3614 := b3614.trans (b4846.mono b3614.size)
  replace b2989 := b2989.trans (b4846.mono b2989.size)
  replace b2256 := b2256.trans (b4846.mono b2256.size)
  replace b1697 := b1697.trans (b4846.mono b1697.size)
  replace b1038 := b1038.trans (b4846.mono b1038.size)
  replace r712 := r712.up b4846
  replace b709 := b709.trans (b4846.mono b709.size)
  replace r130 := r130.up b4846
  replace b127 := b127.trans (b4846.mono b127.size)
  replace q := q.trans (b4846.mono q.size)
  replace r1700 := r1700.up b4846
  replace r2992 := r2992.up b4846
  refine LL.val (R.move rfl rfl) rfl rfl rfl ?_
  refine LL.val (R.extract rfl rfl rfl) rfl rfl rfl ?_
  refine LL.val (R.extract rfl rfl rfl) rfl rfl rfl ?_
  refine LL.val (R.assign rfl rfl) rfl rfl rfl ?_
  refine LL.val (R.assign rfl rfl) rfl rfl rfl ?_
  refine LL.nilS ?_
  refine CC.seq ?_
  refine CC.region ?_
  refine LL.val (R.move rfl rfl) rfl rfl rfl ?_
  have l6203 := r712.lt
  have l6204 := r130.lt
  have l6205 := r1700.lt
  have l6206 := r2992.lt
  (refine LL.call (R.call rfl rfl rfl) rfl rfl rfl (nltold_any (hN _)) ?_; rintro e W6202 ⟨a9, c9, rfl, b6199⟩; refine ⟨_, rfl, ?_⟩)
  have zb6199 := b6199.size
  replace b4846 := b4846.trans (b6199.mono b4846.size)
  replace b3614 := b3614.trans (b6199.mono b3614.size)
  replace b2989 := b2989.trans (b6199.mono b2989.size)
  replace b2256 := b2256.trans (b6199.mono b2256.size)
  replace b1697 := b1697.trans (b6199.mono b1697.size)
  replace b1038 := b1038.trans (b6199.mono b1038.size)
  replace r712 := r712.up b6199
  replace b709 := b709.trans (b6199.mono b709.size)
  replace r130 := r130.up b6199
  replace b127 := b127.trans (b6199.mono b127.size)
  replace q := q.trans (b6199.mono q.size)
  replace r1700 := r1700.up b6199
  replace r2992 := r2992.up b6199
  refine LL.val (R.move rfl rfl) rfl rfl rfl ?_
  refine LL.val (R.extract rfl rfl rfl) rfl rfl rfl ?_
  refine LL.val (R.extract rfl rfl rfl) rfl rfl rfl ?_
  refine LL.val (R.assign rfl rfl) rfl rfl rfl ?_
  refine LL.val (R.assign rfl rfl) rfl rfl rfl ?_
  refine LL.nilS ?_
  refine CC.seq ?_
  refine CC.region ?_
  refine LL.val (R.move rfl rfl) rfl rfl rfl ?_
  have l7567 := r712.lt
  have l7568 := r130.lt
  have l7569 := r1700.lt
  have l7570 := r2992.lt
  (refine LL.call (R.call rfl rfl rfl) rfl rfl rfl (nltold_any (.inr ⟨_, rfl, by assumption⟩)) ?_; rintro e W7566 ⟨a8, c8, rfl, b7563⟩; refine ⟨_, rfl, ?_⟩)
  have zb7563 := b7563.size
  replace b6199 := b6199.trans (b7563.mono b6199.size)
  replace b4846 := b4846.trans (b7563.mono b4846.size)
  replace b3614 := b3614.trans (b7563.mono b3614.size)
  replace b2989 := b2989.trans (b7563.mono b2989.size)
  replace b2256 := b2256.trans (b7563.mono b2256.size)
  replace b1697 := b1697.trans (b7563.mono b1697.size)
  replace b1038 := b1038.trans (b7563.mono b1038.size)
  replace r712 := r712.up b7563
  replace b709 := b709.trans (b7563.mono b709.size)
  replace r130 := r130.up b7563
  replace b127 := b127.trans (b7563.mono b127.size)
  replace q := q.trans (b7563.mono q.size)
  replace r1700 := r1700.up b7563
  replace r2992 := r2992.up b7563
  refine LL.val (R.move rfl rfl) rfl rfl rfl ?_
  refine LL.val (R.extract rfl rfl rfl) rfl rfl rfl ?_
  refine LL.val (R.extract rfl rfl rfl) rfl rfl rfl ?_
  refine LL.val (R.assign rfl rfl) rfl rfl rfl ?_
  refine LL.val (R.assign rfl rfl) rfl rfl rfl ?_
  refine LL.nilS ?_
  refine CC.seq ?_
  refine CC.region ?_
  have l8744 := r712.lt
  have l8745 := r130.lt
  have l8746 := r1700.lt
  have l8747 := r2992.lt
  (refine LL.call (R.call rfl rfl rfl) rfl rfl rfl (run_nil [47] 1 _) ?_; rintro e W8743 ⟨rfl, b8740⟩; refine ⟨_, rfl, ?_⟩)
  have zb8740 := b8740.size
  replace b7563 := b7563.trans (b8740.mono b7563.size)
  replace b6199 := b6199.trans (b8740.mono b6199.size)
  replace b4846 := b4846.trans (b8740.mono b4846.size)
  replace b3614 := b3614.trans (b8740.mono b3614.size)
  replace b2989 := b2989.trans (b8740.mono b2989.size)
  replace b2256 := b2256.trans (b8740.mono b2256.size)
  replace b1697 := b1697.trans (b8740.mono b1697.size)
  replace b1038 := b1038.trans (b8740.mono b1038.size)
  replace r712 := r712.up b8740
  replace b709 := b709.trans (b8740.mono b709.size)
  replace r130 := r130.up b8740
  replace b127 := b127.trans (b8740.mono b127.size)
  replace q := q.trans (b8740.mono q.size)
  replace r1700 := r1700.up b8740
  replace r2992 := r2992.up b8740
  refine LL.val (R.move rfl rfl) rfl rfl rfl ?_
  refine LL.val (R.extract rfl rfl rfl) rfl rfl rfl ?_
  refine LL.val (R.extract rfl rfl rfl) rfl rfl rfl ?_
  refine LL.val (R.assign rfl rfl) rfl rfl rfl ?_
  refine LL.val (R.assign rfl rfl) rfl rfl rfl ?_
  refine LL.nilS ?_
  refine CC.seq ?_
  refine CC.region ?_
  refine LL.val (R.move rfl rfl) rfl rfl rfl ?_
  refine LL.val (R.load rfl rfl (I.ldNc (vs := [Value.int IntKind.i64 er, Value.int IntKind.i64 ino, Value.int IntKind.i64 kd, Value.int IntKind.i64 lk, Value.int IntKind.i64 sz, Value.slice ba bn bc, strV tx, Value.slice na nn nc, Value.int IntKind.u64 ↑k2]) (RowL.cells r130 rfl) (by rfl) (by rfl))) rfl rfl rfl ?_
  have l10273 := r712.lt
  have l10274 := r130.lt
  have l10275 := r1700.lt
  have l10276 := r2992.lt
  (refine LL.call (R.call rfl rfl rfl) rfl rfl rfl (ntake_any (hN _) _) ?_; rintro e W10272 ⟨rfl, b10269⟩; refine ⟨_, rfl, ?_⟩)
  have zb10269 := b10269.size
  replace b8740 := b8740.trans (b10269.mono b8740.size)
  replace b7563 := b7563.trans (b10269.mono b7563.size)
  replace b6199 := b6199.trans (b10269.mono b6199.size)
  replace b4846 := b4846.trans (b10269.mono b4846.size)
  replace b3614 := b3614.trans (b10269.mono b3614.size)
  replace b2989 := b2989.trans (b10269.mono b2989.size)
  replace b2256 := b2256.trans (b10269.mono b2256.size)
  replace b1697 := b1697.trans (b10269.mono b1697.size)
  replace b1038 := b1038.trans (b10269.mono b1038.size)
  replace r712 := r712.up b10269
  replace b709 := b709.trans (b10269.mono b709.size)
  replace r130 := r130.up b10269
  replace b127 := b127.trans (b10269.mono b127.size)
  replace q := q.trans (b10269.mono q.size)
  replace r1700 := r1700.up b10269
  replace r2992 := r2992.up b10269
  refine LL.call (R.call rfl rfl rfl) rfl rfl rfl (num28_any _ _) ?_
  rintro e W' ⟨rfl, rfl⟩
  refine ⟨_, rfl, ?_⟩
  refine LL.val (R.eqT rfl rfl rfl (by omega)) rfl rfl rfl ?_
  refine LL.val (R.move rfl rfl) rfl rfl rfl ?_
  refine LL.val (R.move rfl rfl) rfl rfl rfl ?_
  refine LL.val (R.load rfl rfl (I.ldNc (vs := [Value.int IntKind.i64 er, Value.int IntKind.i64 ino, Value.int IntKind.i64 kd, Value.int IntKind.i64 lk, Value.int IntKind.i64 sz, Value.slice ba bn bc, strV tx, Value.slice na nn nc, Value.int IntKind.u64 ↑k2]) (RowL.cells r130 rfl) (by rfl) (by rfl))) rfl rfl rfl ?_
  have l11417 := r712.lt
  have l11418 := r130.lt
  have l11419 := r1700.lt
  have l11420 := r2992.lt
  (refine LL.call (R.call rfl rfl rfl) rfl rfl rfl (ntake_any (.inr ⟨_, rfl, by assumption⟩) _) ?_; rintro e W11416 ⟨rfl, b11413⟩; refine ⟨_, rfl, ?_⟩)
  have zb11413 := b11413.size
  replace b10269 := b10269.trans (b11413.mono b10269.size)
  replace b8740 := b8740.trans (b11413.mono b8740.size)
  replace b7563 := b7563.trans (b11413.mono b7563.size)
  replace b6199 := b6199.trans (b11413.mono b6199.size)
  replace b4846 := b4846.trans (b11413.mono b4846.size)
  replace b3614 := b3614.trans (b11413.mono b3614.size)
  replace b2989 := b2989.trans (b11413.mono b2989.size)
  replace b2256 := b2256.trans (b11413.mono b2256.size)
  replace b1697 := b1697.trans (b11413.mono b1697.size)
  replace b1038 := b1038.trans (b11413.mono b1038.size)
  replace r712 := r712.up b11413
  replace b709 := b709.trans (b11413.mono b709.size)
  replace r130 := r130.up b11413
  replace b127 := b127.trans (b11413.mono b127.size)
  replace q := q.trans (b11413.mono q.size)
  replace r1700 := r1700.up b11413
  replace r2992 := r2992.up b11413
  refine LL.call (R.call rfl rfl rfl) rfl rfl rfl (num28_any _ _) ?_
  rintro e W' ⟨rfl, rfl⟩
  refine ⟨_, rfl, ?_⟩
  refine LL.val (R.eqT rfl rfl rfl (by omega)) rfl rfl rfl ?_
  refine LL.val (R.pick rfl rfl rfl) rfl rfl rfl ?_
  refine LL.val (R.move rfl rfl) rfl rfl rfl ?_
  refine LL.val (R.move rfl rfl) rfl rfl rfl ?_
  have l12528 := r712.lt
  have l12529 := r130.lt
  have l12530 := r1700.lt
  have l12531 := r2992.lt
  (refine LL.call (R.call rfl rfl rfl) rfl rfl rfl (nseek_any (hN _) 0) ?_; rintro e W12527 ⟨rfl, b12524⟩; refine ⟨_, rfl, ?_⟩)
  have zb12524 := b12524.size
  replace b11413 := b11413.trans (b12524.mono b11413.size)
  replace b10269 := b10269.trans (b12524.mono b10269.size)
  replace b8740 := b8740.trans (b12524.mono b8740.size)
  replace b7563 := b7563.trans (b12524.mono b7563.size)
  replace b6199 := b6199.trans (b12524.mono b6199.size)
  replace b4846 := b4846.trans (b12524.mono b4846.size)
  replace b3614 := b3614.trans (b12524.mono b3614.size)
  replace b2989 := b2989.trans (b12524.mono b2989.size)
  replace b2256 := b2256.trans (b12524.mono b2256.size)
  replace b1697 := b1697.trans (b12524.mono b1697.size)
  replace b1038 := b1038.trans (b12524.mono b1038.size)
  replace r712 := r712.up b12524
  replace b709 := b709.trans (b12524.mono b709.size)
  replace r130 := r130.up b12524
  replace b127 := b127.trans (b12524.mono b127.size)
  replace q := q.trans (b12524.mono q.size)
  replace r1700 := r1700.up b12524
  replace r2992 := r2992.up b12524
  refine LL.call (R.call rfl rfl rfl) rfl rfl rfl (num28_any _ _) ?_
  rintro e W' ⟨rfl, rfl⟩
  refine ⟨_, rfl, ?_⟩
  refine LL.val (R.eqT rfl rfl rfl (by omega)) rfl rfl rfl ?_
  refine LL.val (R.pick rfl rfl rfl) rfl rfl rfl ?_
  refine LL.val (R.move rfl rfl) rfl rfl rfl ?_
  refine LL.val (R.move rfl rfl) rfl rfl rfl ?_
  have l13650 := r712.lt
  have l13651 := r130.lt
  have l13652 := r1700.lt
  have l13653 := r2992.lt
  (refine LL.call (R.call rfl rfl rfl) rfl rfl rfl (nseek_any (.inr ⟨_, rfl, by assumption⟩) 0) ?_; rintro e W13649 ⟨rfl, b13646⟩; refine ⟨_, rfl, ?_⟩)
  have zb13646 := b13646.size
  replace b12524 := b12524.trans (b13646.mono b12524.size)
  replace b11413 := b11413.trans (b13646.mono b11413.size)
  replace b10269 := b10269.trans (b13646.mono b10269.size)
  replace b8740 := b8740.trans (b13646.mono b8740.size)
  replace b7563 := b7563.trans (b13646.mono b7563.size)
  replace b6199 := b6199.trans (b13646.mono b6199.size)
  replace b4846 := b4846.trans (b13646.mono b4846.size)
  replace b3614 := b3614.trans (b13646.mono b3614.size)
  replace b2989 := b2989.trans (b13646.mono b2989.size)
  replace b2256 := b2256.trans (b13646.mono b2256.size)
  replace b1697 := b1697.trans (b13646.mono b1697.size)
  replace b1038 := b1038.trans (b13646.mono b1038.size)
  replace r712 := r712.up b13646
  replace b709 := b709.trans (b13646.mono b709.size)
  replace r130 := r130.up b13646
  replace b127 := b127.trans (b13646.mono b127.size)
  replace q := q.trans (b13646.mono q.size)
  replace r1700 := r1700.up b13646
  replace r2992 := r2992.up b13646
  refine LL.call (R.call rfl rfl rfl) rfl rfl rfl (num28_any _ _) ?_
  rintro e W' ⟨rfl, rfl⟩
  refine ⟨_, rfl, ?_⟩
  refine LL.val (R.eqT rfl rfl rfl (by omega)) rfl rfl rfl ?_
  refine LL.val (R.pick rfl rfl rfl) rfl rfl rfl ?_
  refine LL.val (R.move rfl rfl) rfl rfl rfl ?_
  refine LL.val (R.move rfl rfl) rfl rfl rfl ?_
  refine LL.val (R.not rfl rfl) rfl rfl rfl ?_
  refine LL.val (R.pick rfl rfl rfl) rfl rfl rfl ?_
  refine LL.val (R.move rfl rfl) rfl rfl rfl ?_
  refine LL.val (R.move rfl rfl) rfl rfl rfl ?_
  refine LL.val (R.not rfl rfl) rfl rfl rfl ?_
  refine LL.val (R.pick rfl rfl rfl) rfl rfl rfl ?_
  refine LL.val (R.move rfl rfl) rfl rfl rfl ?_
  refine LL.val (R.move rfl rfl) rfl rfl rfl ?_
  refine LL.val (R.pick rfl rfl rfl) rfl rfl rfl ?_
  refine LL.val (R.move rfl rfl) rfl rfl rfl ?_
  refine LL.val (R.move rfl rfl) rfl rfl rfl ?_
  refine LL.val (R.pick rfl rfl rfl) rfl rfl rfl ?_
  refine LL.val (R.move rfl rfl) rfl rfl rfl ?_
  refine LL.val (R.move rfl rfl) rfl rfl rfl ?_
  refine LL.call (R.call rfl rfl rfl) rfl rfl rfl (num28_any _ _) ?_
  rintro e W' ⟨rfl, rfl⟩
  refine ⟨_, rfl, ?_⟩
  refine LL.val (R.eqT rfl rfl rfl (by omega)) rfl rfl rfl ?_
  refine LL.val (R.pick rfl rfl rfl) rfl rfl rfl ?_
  refine LL.val (R.move rfl rfl) rfl rfl rfl ?_
  refine LL.val (R.move rfl rfl) rfl rfl rfl ?_
  refine LL.call (R.call rfl rfl rfl) rfl rfl rfl (num28_any _ _) ?_
  rintro e W' ⟨rfl, rfl⟩
  refine ⟨_, rfl, ?_⟩
  refine LL.val (R.eqT rfl rfl rfl (by omega)) rfl rfl rfl ?_
  refine LL.val (R.pick rfl rfl rfl) rfl rfl rfl ?_
  refine LL.val (R.move rfl rfl) rfl rfl rfl ?_
  refine LL.val (R.move rfl rfl) rfl rfl rfl ?_
  refine LL.val (R.pick rfl rfl rfl) rfl rfl rfl ?_
  refine LL.val (R.move rfl rfl) rfl rfl rfl ?_
  refine LL.val (R.move rfl rfl) rfl rfl rfl ?_
  refine LL.val (R.pick rfl rfl rfl) rfl rfl rfl ?_
  refine LL.val (R.move rfl rfl) rfl rfl rfl ?_
  refine LL.val (R.move rfl rfl) rfl rfl rfl ?_
  refine LL.val (R.len rfl rfl rfl rfl) rfl rfl rfl ?_
  refine LL.val (R.move rfl rfl) rfl rfl rfl ?_
  refine LL.val (R.len rfl rfl rfl rfl) rfl rfl rfl ?_
  refine LL.val (R.addIz (z := 0) rfl rfl rfl (by decide) (by decide)) rfl rfl rfl ?_
  refine LL.val (R.eqT rfl rfl rfl (by omega)) rfl rfl rfl ?_
  refine LL.val (R.pick rfl rfl rfl) rfl rfl rfl ?_
  refine LL.val (R.move rfl rfl) rfl rfl rfl ?_
  refine LL.val (R.move rfl rfl) rfl rfl rfl ?_
  have l22219 := r712.lt
  have l22220 := r130.lt
  have l22221 := r1700.lt
  have l22222 := r2992.lt
  (refine LL.call (R.call rfl rfl rfl) rfl rfl rfl (ncursor_any (hN _)) ?_; rintro e W22218 ⟨rfl, b22215⟩; refine ⟨_, rfl, ?_⟩)
  have zb22215 := b22215.size
  replace b13646 := b13646.trans (b22215.mono b13646.size)
  replace b12524 := b12524.trans (b22215.mono b12524.size)
  replace b11413 := b11413.trans (b22215.mono b11413.size)
  replace b10269 := b10269.trans (b22215.mono b10269.size)
  replace b8740 := b8740.trans (b22215.mono b8740.size)
  replace b7563 := b7563.trans (b22215.mono b7563.size)
  replace b6199 := b6199.trans (b22215.mono b6199.size)
  replace b4846 := b4846.trans (b22215.mono b4846.size)
  replace b3614 := b3614.trans (b22215.mono b3614.size)
  replace b2989 := b2989.trans (b22215.mono b2989.size)
  replace b2256 := b2256.trans (b22215.mono b2256.size)
  replace b1697 := b1697.trans (b22215.mono b1697.size)
  replace b1038 := b1038.trans (b22215.mono b1038.size)
  replace r712 := r712.up b22215
  replace b709 := b709.trans (b22215.mono b709.size)
  replace r130 := r130.up b22215
  replace b127 := b127.trans (b22215.mono b127.size)
  replace q := q.trans (b22215.mono q.size)
  replace r1700 := r1700.up b22215
  replace r2992 := r2992.up b22215
  refine LL.val (R.move rfl rfl) rfl rfl rfl ?_
  have l22483 := r712.lt
  have l22484 := r130.lt
  have l22485 := r1700.lt
  have l22486 := r2992.lt
  (refine LL.call (R.call rfl rfl rfl) rfl rfl rfl (ncursor_any (.inr ⟨_, rfl, by assumption⟩)) ?_; rintro e W22482 ⟨rfl, b22479⟩; refine ⟨_, rfl, ?_⟩)
  have zb22479 := b22479.size
  replace b22215 := b22215.trans (b22479.mono b22215.size)
  replace b13646 := b13646.trans (b22479.mono b13646.size)
  replace b12524 := b12524.trans (b22479.mono b12524.size)
  replace b11413 := b11413.trans (b22479.mono b11413.size)
  replace b10269 := b10269.trans (b22479.mono b10269.size)
  replace b8740 := b8740.trans (b22479.mono b8740.size)
  replace b7563 := b7563.trans (b22479.mono b7563.size)
  replace b6199 := b6199.trans (b22479.mono b6199.size)
  replace b4846 := b4846.trans (b22479.mono b4846.size)
  replace b3614 := b3614.trans (b22479.mono b3614.size)
  replace b2989 := b2989.trans (b22479.mono b2989.size)
  replace b2256 := b2256.trans (b22479.mono b2256.size)
  replace b1697 := b1697.trans (b22479.mono b1697.size)
  replace b1038 := b1038.trans (b22479.mono b1038.size)
  replace r712 := r712.up b22479
  replace b709 := b709.trans (b22479.mono b709.size)
  replace r130 := r130.up b22479
  replace b127 := b127.trans (b22479.mono b127.size)
  replace q := q.trans (b22479.mono q.size)
  replace r1700 := r1700.up b22479
  replace r2992 := r2992.up b22479
  refine LL.val (R.addUN rfl rfl rfl (by omega)) rfl rfl rfl ?_
  refine LL.val (R.eqT rfl rfl rfl (by omega)) rfl rfl rfl ?_
  refine LL.val (R.pick rfl rfl rfl) rfl rfl rfl ?_
  refine LL.val (R.move rfl rfl) rfl rfl rfl ?_
  refine LL.val (R.move rfl rfl) rfl rfl rfl ?_
  have l23550 := r712.lt
  have l23551 := r130.lt
  have l23552 := r1700.lt
  have l23553 := r2992.lt
  (refine LL.call (R.call rfl rfl rfl) rfl rfl rfl (ncopy_any (hN _)) ?_; rintro e W23549 ⟨rfl, b23546⟩; refine ⟨_, rfl, ?_⟩)
  have zb23546 := b23546.size
  replace b22479 := b22479.trans (b23546.mono b22479.size)
  replace b22215 := b22215.trans (b23546.mono b22215.size)
  replace b13646 := b13646.trans (b23546.mono b13646.size)
  replace b12524 := b12524.trans (b23546.mono b12524.size)
  replace b11413 := b11413.trans (b23546.mono b11413.size)
  replace b10269 := b10269.trans (b23546.mono b10269.size)
  replace b8740 := b8740.trans (b23546.mono b8740.size)
  replace b7563 := b7563.trans (b23546.mono b7563.size)
  replace b6199 := b6199.trans (b23546.mono b6199.size)
  replace b4846 := b4846.trans (b23546.mono b4846.size)
  replace b3614 := b3614.trans (b23546.mono b3614.size)
  replace b2989 := b2989.trans (b23546.mono b2989.size)
  replace b2256 := b2256.trans (b23546.mono b2256.size)
  replace b1697 := b1697.trans (b23546.mono b1697.size)
  replace b1038 := b1038.trans (b23546.mono b1038.size)
  replace r712 := r712.up b23546
  replace b709 := b709.trans (b23546.mono b709.size)
  replace r130 := r130.up b23546
  replace b127 := b127.trans (b23546.mono b127.size)
  replace q := q.trans (b23546.mono q.size)
  replace r1700 := r1700.up b23546
  replace r2992 := r2992.up b23546
  refine LL.val (R.eqPtr rfl rfl rfl rfl rfl) rfl rfl rfl ?_
  refine LL.val (R.pick rfl rfl rfl) rfl rfl rfl ?_
  refine LL.val (R.move rfl rfl) rfl rfl rfl ?_
  refine LL.val (R.move rfl rfl) rfl rfl rfl ?_
  refine LL.call (R.call rfl rfl rfl) rfl rfl rfl (num28_any _ _) ?_
  rintro e W' ⟨rfl, rfl⟩
  refine ⟨_, rfl, ?_⟩
  refine LL.val (R.eqT rfl rfl rfl (by omega)) rfl rfl rfl ?_
  refine LL.val (R.pick rfl rfl rfl) rfl rfl rfl ?_
  refine LL.val (R.move rfl rfl) rfl rfl rfl ?_
  have l25332 := r712.lt
  have l25333 := r130.lt
  have l25334 := r1700.lt
  have l25335 := r2992.lt
  (refine LL.call (R.call rfl rfl rfl) rfl rfl rfl (works28_any _) ?_; rintro e W25331 ⟨rfl, b25328⟩; refine ⟨_, rfl, ?_⟩)
  have zb25328 := b25328.size
  replace b23546 := b23546.trans (b25328.mono b23546.size)
  replace b22479 := b22479.trans (b25328.mono b22479.size)
  replace b22215 := b22215.trans (b25328.mono b22215.size)
  replace b13646 := b13646.trans (b25328.mono b13646.size)
  replace b12524 := b12524.trans (b25328.mono b12524.size)
  replace b11413 := b11413.trans (b25328.mono b11413.size)
  replace b10269 := b10269.trans (b25328.mono b10269.size)
  replace b8740 := b8740.trans (b25328.mono b8740.size)
  replace b7563 := b7563.trans (b25328.mono b7563.size)
  replace b6199 := b6199.trans (b25328.mono b6199.size)
  replace b4846 := b4846.trans (b25328.mono b4846.size)
  replace b3614 := b3614.trans (b25328.mono b3614.size)
  replace b2989 := b2989.trans (b25328.mono b2989.size)
  replace b2256 := b2256.trans (b25328.mono b2256.size)
  replace b1697 := b1697.trans (b25328.mono b1697.size)
  replace b1038 := b1038.trans (b25328.mono b1038.size)
  replace r712 := r712.up b25328
  replace b709 := b709.trans (b25328.mono b709.size)
  replace r130 := r130.up b25328
  replace b127 := b127.trans (b25328.mono b127.size)
  replace q := q.trans (b25328.mono q.size)
  replace r1700 := r1700.up b25328
  replace r2992 := r2992.up b25328
  refine LL.val (R.pick rfl rfl rfl) rfl rfl rfl ?_
  refine LL.val (R.assign rfl rfl) rfl rfl rfl ?_
  refine LL.nilS ?_
  refine CC.ret ?_
  refine EE.ret _ rfl rfl ?_
  exact ⟨rfl, q⟩
end Go.Proofs.YtompfnnmiccipaaGreatDoor
/- Opening the arguments of a law: slices of numbers, pairs of numbers. -/
namespace Go.Proofs.YtompfnnmiccipaaGreatDoor
set_option linter.unusedVariables false
set_option linter.unusedSimpArgs false
open Go.RowKit Go.ChangeShapes Go.WideShapes Go.ChangeAt

theorem own : ownKnob Tryz.prog.godebug = none := by kernel_rfl
theorem laidOut : laidOutB Tryz.prog = true := by kernel_rfl

section
variable {H : Type} {enc : TypeId × Value → H} {P : Program} {w : World} {base : Nat} {spare : Nat → Bool} {held : Bool} {r : Reach} {b0 : Nat} {t : TypeId} {v : Value} {d : DataW H} {p : List MemPlace}

theorem wf_u64 {n : Int} (h : (Lit.int .u64 n).wf = true) : 0 ≤ n ∧ n < 18446744073709551616 := by
  simp [Lit.wf, IntKind.min, IntKind.max, IntKind.signed, IntKind.bits] at h; omega
end
end Go.Proofs.YtompfnnmiccipaaGreatDoor
/- Opening the arguments of a law: structs, arrays and slices of them, of integers, truth values and strings. Over any program. -/
namespace Go.Proofs.YtompfnnmiccipaaGreatDoor
set_option linter.unusedVariables false
set_option linter.unusedSimpArgs false
open Go.RowKit Go.ChangeShapes Go.WideShapes Go.ChangeAt Go.Deep
/-- What lies at a cell: an integer of a kind, a truth value, a string. -/
inductive Ckd where
  | int (k : IntKind)
  | bool
  | str
deriving DecidableEq
def atQ (P : Program) : Nat → TypeId → Nat → Option Ckd
  | 0, _, _ => none
  | d + 1, t, j => match P.underlying t with
    | some (.struct fs) => fs.toList.findSome? fun f => if f.offset ≤ j ∧ j < f.offset + P.cellsOf f.type then atQ P d f.type (j - f.offset) else none
    | some (.array n e) => if j / P.cellsOf e < n then atQ P d e (j % P.cellsOf e) else none
    | some (.int k) => if j = 0 then some (.int k) else none
    | some .bool => if j = 0 then some .bool else none
    | some .string => if j = 0 then some .str else none
    | _ => none
abbrev ZBS := Int × Bool × ByteArray
def cellQ : Ckd → ZBS → Value
  | .int k, z => .int k z.1
  | .bool, z => .bool z.2.1
  | .str, z => .string z.2.2
def wfQ : Ckd → ZBS → Prop
  | .int k, z => (Lit.int k z.1).wf = true
  | .bool, _ => True
  | .str, z => z.2.2.size ≤ maxLen
section
variable {α : Type} {encT : α → List Value} {H : Type} {enc : TypeId × Value → H} {P : Program} {w : World} {base : Nat} {spare : Nat → Bool} {held : Bool} {r : Reach} {b0 : Nat} {t : TypeId} {v : Value} {d : DataW H} {p : List MemPlace}
theorem trod_atQ : ∀ (n : Nat) (t : TypeId) (j fuel : Nat) (cs : List Value) (x : DataW H × List MemPlace) (k : Ckd), atQ P n t j = some k → DataW.trod enc P w base spare held fuel t cs = some x → ∃ z : ZBS, cs[j]? = some (cellQ k z) ∧ wfQ k z
  | 0, _, _, _, _, _, _, h, _ => by cases h
  | n + 1, t, j, fuel, cs, x, k, h, hx => by
    cases hu : P.underlying t with
    | none => simp [atQ, hu] at h
    | some kd =>
      cases kd <;> simp only [atQ, hu] at h <;> try (cases h; done)
      case int q =>
        split at h
        · rename_i hj
          cases h
          subst hj
          obtain ⟨z, e, _, hw⟩ := DataW.trod_int hu hx
          exact ⟨(z, false, ByteArray.empty), by rw [e]; rfl, hw⟩
        · cases h
      case bool =>
        split at h
        · rename_i hj
          cases h
          subst hj
          obtain ⟨b, e, _⟩ := DataW.trod_bool hu hx
          exact ⟨(0, b, ByteArray.empty), by rw [e]; rfl, trivial⟩
        · cases h
      case string =>
        split at h
        · rename_i hj
          cases h
          subst hj
          obtain ⟨s, e, _, hs⟩ := DataW.trod_string hu hx
          exact ⟨(0, false, s), by rw [e]; rfl, hs⟩
        · cases h
      case struct fs =>
        obtain ⟨f, hf, hfk⟩ := List.exists_of_findSome?_eq_some h
        split at hfk
        · rename_i hj
          obtain ⟨xs, m, _, rfl, hl, hlen, hf2⟩ := DataW.trod_struct hu hx
          obtain ⟨i, hi⟩ := List.mem_iff_getElem?.1 hf
          have h2 := hf2 i f (by simpa using hi)
          have hil : i < xs.length := by
            have := (List.getElem?_eq_some_iff.1 hi).1
            rw [Array.length_toList] at this
            omega
          rw [List.getElem?_eq_getElem hil] at h2
          obtain ⟨z, e, hw⟩ := trod_atQ n f.type (j - f.offset) _ _ _ k hfk h2
          refine ⟨z, ?_, hw⟩
          rw [List.getElem?_take] at e
          split at e
          · rw [List.getElem?_drop] at e
            rwa [show f.offset + (j - f.offset) = j by omega] at e
          · cases e
        · cases hfk
      case array m e =>
        split at h
        · rename_i hj
          obtain ⟨xs, m', _, rfl, hl, hlen, hi⟩ := DataW.trod_array hu hx
          have h2 := hi _ hj
          rw [List.getElem?_eq_getElem (by omega)] at h2
          obtain ⟨z, e', hw⟩ := trod_atQ n e (j % P.cellsOf e) _ _ _ k h h2
          refine ⟨z, ?_, hw⟩
          rw [List.getElem?_take] at e'
          split at e'
          · rw [List.getElem?_drop] at e'
            rwa [show j / P.cellsOf e * P.cellsOf e + j % P.cellsOf e = j by rw [Nat.mul_comm]; exact Nat.div_add_mod _ _] at e'
          · cases e'
        · cases h
end
end Go.Proofs.YtompfnnmiccipaaGreatDoor
/- Opening slices of structs that hold slices: what lies at a cell is a predicate. Over any program. -/
namespace Go.Proofs.YtompfnnmiccipaaGreatDoor
set_option linter.unusedVariables false
set_option linter.unusedSimpArgs false
open Go.RowKit Go.ChangeShapes Go.WideShapes Go.ChangeAt Go.Deep
/-- The type of what lies at a cell. -/
def lfQ (P : Program) : Nat → TypeId → Nat → Option TypeId
  | 0, _, _ => none
  | d + 1, t, j => match P.underlying t with
    | some (.struct fs) => fs.toList.findSome? fun f => if f.offset ≤ j ∧ j < f.offset + P.cellsOf f.type then lfQ P d f.type (j - f.offset) else none
    | some (.slice _) => if j = 0 then some t else none
    | _ => none
section
variable {α : Type} {encT : α → List Value} {H : Type} {enc : TypeId × Value → H} {P : Program} {w : World} {base : Nat} {spare : Nat → Bool} {held : Bool} {r : Reach} {b0 : Nat} {t : TypeId} {v : Value} {d : DataW H} {p : List MemPlace}
theorem trod_lfQ : ∀ (n : Nat) (t : TypeId) (j fuel : Nat) (cs : List Value) (x : DataW H × List MemPlace) (t' : TypeId), lfQ P n t j = some t' → DataW.trod enc P w base spare held fuel t cs = some x → ∃ v fuel' x', cs[j]? = some v ∧ DataW.trod enc P w base spare held fuel' t' [v] = some x'
  | 0, _, _, _, _, _, _, h, _ => by cases h
  | n + 1, t, j, fuel, cs, x, k, h, hx => by
    cases hu : P.underlying t with
    | none => simp [lfQ, hu] at h
    | some kd =>
      cases kd <;> simp only [lfQ, hu] at h <;> try (cases h; done)
      case slice q =>
        split at h
        · rename_i hj
          cases h
          subst hj
          rcases open_slice hu hx with ⟨hcs, _⟩ | ⟨a, l, c', m, n, D, Pl, hcs, _⟩
          · subst hcs
            exact ⟨_, fuel, x, rfl, hx⟩
          · subst hcs
            exact ⟨_, fuel, x, rfl, hx⟩
        · cases h
      case struct fs =>
        obtain ⟨f, hf, hfk⟩ := List.exists_of_findSome?_eq_some h
        split at hfk
        · rename_i hj
          obtain ⟨xs, m, _, rfl, hl, hlen, hf2⟩ := DataW.trod_struct hu hx
          obtain ⟨i, hi⟩ := List.mem_iff_getElem?.1 hf
          have h2 := hf2 i f (by simpa using hi)
          have hil : i < xs.length := by
            have := (List.getElem?_eq_some_iff.1 hi).1
            rw [Array.length_toList] at this
            omega
          rw [List.getElem?_eq_getElem hil] at h2
          obtain ⟨z, f', x', e, hw⟩ := trod_lfQ n f.type (j - f.offset) _ _ _ k hfk h2
          refine ⟨z, f', x', ?_, hw⟩
          rw [List.getElem?_take] at e
          split at e
          · rw [List.getElem?_drop] at e
            rwa [show f.offset + (j - f.offset) = j by omega] at e
          · cases e
        · cases hfk
end
end Go.Proofs.YtompfnnmiccipaaGreatDoor
/- StreamNone: the answer opened. -/
namespace Go.Proofs.YtompfnnmiccipaaGreatDoor
set_option linter.unusedVariables false
set_option linter.unusedSimpArgs false
open Go.RowKit Go.Shelf Go.ChangeShapes Go.WideShapes Go.ChangeAt Go.Deep
set_option maxRecDepth 100000
set_option maxHeartbeats 8000000
def anK (j : Nat) : Ckd := if j = 6 then .str else if j = 8 then .int .u64 else .int .i64
section
variable {H : Type} {enc : TypeId × Value → H} {w : World} {base : Nat} {spare : Nat → Bool} {held : Bool} {r : Reach} {b0 : Nat} {v : Value} {d : DataW H} {p : List MemPlace}
theorem open_structR {P : Program} {t : TypeId} {c : Nat} (R : Nat → Value → Prop) (hs : (match P.underlying t with | some (.struct _) | some (.array _ _) => true | _ => false) = true) (hc : P.cellsOf t = c) (hk : ∀ n cs x, DataW.trod enc P w base spare held n t cs = some x → ∀ j, j < c → ∃ v, cs[j]? = some v ∧ R j v)
    (hv : Value.okWide P w r b0 t v) (h : DataW.Trod enc P w base spare held t v d p) : ∃ V : Nat → Value, v = .agg ((List.range c).map V).toArray ∧ ∀ j, j < c → R j (V j) := by
  have hg : ∃ cs, v = .agg cs ∧ cs.size = P.cellsOf t := by
    unfold Value.okWide at hv
    split at hv
    · obtain ⟨cs, h1, h2, _⟩ := hv; exact ⟨cs, h1, h2⟩
    · obtain ⟨cs, h1, h2, _⟩ := hv; exact ⟨cs, h1, h2⟩
    · rename_i h1 h2
      split at hs <;> simp_all
  obtain ⟨cs, rfl, hsz⟩ := hg
  obtain ⟨fuel, hf⟩ := h
  have key : ∀ j, ∃ z : Value, j < c → cs.toList[j]? = some z ∧ R j z := by
    intro j
    by_cases hj : j < c
    · obtain ⟨z, h1, h2⟩ := hk fuel _ _ hf j hj
      exact ⟨z, fun _ => ⟨h1, h2⟩⟩
    · exact ⟨.bool false, fun h => absurd h hj⟩
  refine ⟨fun j => Classical.choose (key j), ?_, fun j hj => (Classical.choose_spec (key j) hj).2⟩
  congr 1
  apply Array.ext'
  apply List.ext_getElem?
  intro j
  simp only [List.getElem?_map]
  by_cases hj : j < c
  · rw [(Classical.choose_spec (key j) hj).1, List.getElem?_range hj]
    rfl
  · rw [List.getElem?_eq_none (by rw [Array.length_toList, hsz, hc]; omega), List.getElem?_eq_none (by simp; omega)]
    rfl
theorem open_slv {fuel : Nat} {t e : TypeId} {P : Program} {v : Value} {x0 : DataW H × List MemPlace} (ht : P.underlying t = some (.slice e)) (h : DataW.trod enc P w base spare held fuel t [v] = some x0) : ∃ a n c, v = .slice a n c := by
  rcases open_slice ht h with ⟨hcs, _⟩ | ⟨y, l, c', m, n, D, Pl, hcs, _⟩
  · exact ⟨_, _, _, (List.cons.inj hcs).1⟩
  · exact ⟨_, _, _, (List.cons.inj hcs).1⟩
theorem open_ans (hv : Value.okWide Tryz.prog w r b0 28 v) (h : DataW.Trod enc Tryz.prog w base spare held 28 v d p) : ∃ (er ino kd lk sz : Int) (ba : Option Addr) (bn bc : Nat) (tx : Bs) (na : Option Addr) (nn nc k2 : Nat), v = .agg #[.int .i64 er, .int .i64 ino, .int .i64 kd, .int .i64 lk, .int .i64 sz, .slice ba bn bc, strV tx, .slice na nn nc, .int .u64 (k2 : Int)] := by
  obtain ⟨V, e, hV⟩ := open_structR (c := 9) (fun j v => (j ≠ 5 → j ≠ 7 → ∃ z : ZBS, v = cellQ (anK j) z ∧ wfQ (anK j) z) ∧ (j = 5 ∨ j = 7 → ∃ a n c, v = .slice a n c)) (by kernel_rfl) (by kernel_rfl) (fun n cs x hx j hj => by
    by_cases h5 : j = 5
    · subst h5
      obtain ⟨v, f', x', h1, h2⟩ := trod_lfQ 9 28 5 n cs x 24 (by kernel_rfl) hx
      exact ⟨v, h1, fun h => absurd rfl h, fun _ => open_slv Tryz.underlying24 h2⟩
    by_cases h7 : j = 7
    · subst h7
      obtain ⟨v, f', x', h1, h2⟩ := trod_lfQ 9 28 7 n cs x 25 (by kernel_rfl) hx
      exact ⟨v, h1, fun _ h => absurd rfl h, fun _ => open_slv Tryz.underlying25 h2⟩
    have hall : (List.range 9).all (fun j => j == 5 || (j == 7 || atQ Tryz.prog 9 28 j == some (anK j))) = true := by kernel_rfl
    have hk := List.all_eq_true.1 hall j (List.mem_range.2 hj)
    have hk2 : atQ Tryz.prog 9 28 j = some (anK j) := by simpa [h5, h7] using hk
    obtain ⟨z, h1, h2⟩ := trod_atQ 9 28 j n cs x (anK j) hk2 hx
    exact ⟨_, h1, fun _ _ => ⟨z, rfl, h2⟩, fun h => absurd h (by omega)⟩) hv h
  subst e
  obtain ⟨z0, e0, _⟩ := (hV 0 (by decide)).1 (by decide) (by decide)
  obtain ⟨z1, e1, _⟩ := (hV 1 (by decide)).1 (by decide) (by decide)
  obtain ⟨z2, e2, _⟩ := (hV 2 (by decide)).1 (by decide) (by decide)
  obtain ⟨z3, e3, _⟩ := (hV 3 (by decide)).1 (by decide) (by decide)
  obtain ⟨z4, e4, _⟩ := (hV 4 (by decide)).1 (by decide) (by decide)
  obtain ⟨a5, n5, c5, e5⟩ := (hV 5 (by decide)).2 (.inl rfl)
  obtain ⟨z6, e6, _⟩ := (hV 6 (by decide)).1 (by decide) (by decide)
  obtain ⟨a7, n7, c7, e7⟩ := (hV 7 (by decide)).2 (.inr rfl)
  obtain ⟨z8, e8, f8⟩ := (hV 8 (by decide)).1 (by decide) (by decide)
  refine ⟨z0.1, z1.1, z2.1, z3.1, z4.1, a5, n5, c5, z6.2.2.data.toList, a7, n7, c7, z8.1.toNat, ?_⟩
  show Value.agg [V 0, V 1, V 2, V 3, V 4, V 5, V 6, V 7, V 8].toArray = _
  rw [e0, e1, e2, e3, e4, e5, e6, e7, e8, Int.toNat_of_nonneg (wf_u64 f8).1, show strV z6.2.2.data.toList = Value.string z6.2.2 from congrArg Value.string (bs_data z6.2.2).symm]
  rfl
end
end Go.Proofs.YtompfnnmiccipaaGreatDoor
/- What the package's variables hold when the call begins. -/
namespace Go.Proofs.YtompfnnmiccipaaGreatDoor
set_option linter.unusedVariables false
set_option linter.unusedSimpArgs false
open Go.ChangeShapes Go.WideShapes Go.ChangeAt Go.WideMaps Go.WideElems Go.RowKit

def laidHere : List (String × DataW Unit) := [("unicode/utf8.acceptRanges", Rows.laid_unicode_utf8_acceptRanges), ("hedgerow/hash.turns", Rows.laid_hedgerow_hash_turns), ("unicode/utf8.first", Rows.laid_unicode_utf8_first)]
theorem mx_of {W : World} (_h : W.ShapedOpen Tryz.prog) : True := trivial
variable {H : Type} {enc : TypeId × Value → H}
/-- The wrap with the variables' datum and the world's shape. -/
theorem handed_laid_shaped {a : Assume} {C : Checked} {os : Os} {f : FuncId} {fn : Func} {s : ChangeSpec} {conds : List PathCond} {apart fresh handsOn again : Bool} {X : World → Array Value → Prop}
    (own : ownKnob C.prog.godebug = none) (started : os.Started) (noInit : C.prog.inits.idxOf? f = none) (hfn : C.prog.funcs[f]? = some fn)
    (witness : ∃ (w : World) (tape : Tape) (i : Input), w.os = os ∧ (w.forCall tape i).Shaped C.prog ∧ i.vars = [] ∧ Input.okWide C.prog (w.forCall tape i) .any w.heap.size f i ∧
      ((s.pre enc C.prog fn conds apart (w.forCall tape i).memory i.args ∧ X (w.forCall tape i).memory i.args) ∧ sizedMet enc C.prog fn (OpenSpec.ofChange s) apart (w.forCall tape i).memory i.args) ∧ a.holds C.prog (lone (Frame.enter C.prog f i.args .normal) [] (w.forCall tape i)))
    (contract : ∀ (W : World) (base : Nat) (args : Array Value) (ds gs : List (DataW H)) (before : List MemPlace),
      (∀ (j : Nat) t v, fn.params[j]? = some t → args[j]? = some v → Value.okWide C.prog W .any base t v) →
      DataW.Whole enc C.prog fn.params.toList s.vars apart W args.toList ds gs before →
      W.ShapedOpen C.prog →
      Calls C.prog f args W fun e W' => ∃ v, e = .returned v ∧ s.post enc C.prog fn apart fresh handsOn again W args v W') :
    ReturnsInHanded a C os f .any (fun w args => (s.pre enc C.prog fn conds apart w args ∧ X w args) ∧ sizedMet enc C.prog fn (OpenSpec.ofChange s) apart w args) (s.post enc C.prog fn apart fresh handsOn again) := by
  refine returnsInHanded_of_calls own started noInit witness ?_
  intro w tape i _ hsh _ hok hpre _
  obtain ⟨_, _, _, fn', hfn', _, _, _, _, hval⟩ := hok
  obtain rfl : fn' = fn := Option.some.inj (hfn'.symm.trans hfn)
  obtain ⟨⟨⟨ds, gs, before, hw, _⟩, _⟩, _⟩ := hpre
  refine (contract (w.forCall tape i) w.heap.size i.args ds gs before hval (DataW.Whole.of_heap (w' := w.forCall tape i) (by rfl) hw) hsh).mono fun e W' ⟨v, he, hp⟩ => ?_
  subst he
  exact ChangeSpec.post_blind hp

end Go.Proofs.YtompfnnmiccipaaGreatDoor
