/- pmem: what a memory is, and its words. pmem: words stored and loaded; what may be named. pmem: Load, Store, Flush, Evict. pmem: moved, flat, on; memories that are made. pmem: memories that are made. pmem: Fence. -/
import Derived.Test.YtajfffoaebjnlaaCellE
import Derived.Test.YtajfffoaebjnlaaProg
import Derived.Test.YtajfffoaebjnlaaMap
import Derived.Test.YtajfffoaebjnlaaEqA
import Derived.Test.YtajfffoaebjnlaaZeros
namespace Go.Proofs.Ytajfffoaebjnlaa
set_option linter.unusedVariables false
set_option linter.unusedSimpArgs false
open Go.RowKit Go.Shelf
open Go.MapKept (IsKey)
/-- A line: eight words. -/
abbrev Ln := {l : List Nat // l.length = 8}
/-- What stands, what lasts, what is queued. -/
abbrev Cl := Ln × Ln × Option Ln
def zL : Ln := ⟨List.replicate 8 0, rfl⟩
abbrev lV (x : Ln) : Value := .agg (ints .u64 x.1).toArray
def lE (x : Ln) : List Value := ints .u64 x.1
def nowE (c : Cl) : List Value := lE c.1
def lastE (c : Cl) : List Value := lE c.2.1
def cE (c : Cl) : List Value := lE c.1 ++ (lE c.2.1 ++ (lE (c.2.2.getD zL) ++ [.bool c.2.2.isSome]))
theorem lE_len (x : Ln) : (lE x).length = 8 := by unfold lE; rw [List.length_map, x.2]
theorem lE_one (x : Ln) : ∀ u ∈ lE x, u.oneCell' = true := fun u hu => by
  simp only [lE, List.mem_map] at hu
  obtain ⟨z, _, rfl⟩ := hu
  rfl
theorem lEnc : Enc lE 8 := ⟨lE_len, lE_one, by decide⟩
theorem nowEnc : Enc nowE 8 := ⟨fun _ => lE_len _, fun _ => lE_one _, by decide⟩
theorem lastEnc : Enc lastE 8 := ⟨fun _ => lE_len _, fun _ => lE_one _, by decide⟩
theorem cEnc : Enc cE 25 := ⟨fun c => by simp [cE, lE_len], fun c u hu => by
  simp only [cE, List.mem_append, List.mem_singleton] at hu
  rcases hu with h | h | h | rfl
  · exact lE_one _ u h
  · exact lE_one _ u h
  · exact lE_one _ u h
  · rfl, by decide⟩
abbrev iK (n : Nat) : Value := .int .i64 (n : Int)
theorem iKeys : KeyE Try.prog 3 (.int .i64) iK := ⟨by kernel_rfl, fun _ => rfl, fun a b h => by
  simp only [iK, Value.int.injEq, true_and] at h
  omega⟩
def qF (s : List Cl) : Nat → Option Ln := fun i => (s[i]?).bind (·.2.2)
def nQ (s : List Cl) : Nat := s.countP fun c => c.2.2.isSome
/-- A memory of the program. -/
structure Mem (w : World) (m gn gl qb N : Nat) (s : List Cl) : Prop where
  row : RowL w m 53 [.slice (some ⟨gn, 0, none⟩) N N, .slice (some ⟨gl, 0, none⟩) N N, .map (some qb)]
  now : RowL w gn 79 (s.flatMap nowE)
  last : RowL w gl 79 (s.flatMap lastE)
  qs : MapK (.int .i64) iK lV w qb (nQ s) (qF s)
  len : s.length = N
  pos : 0 < N
  le : N ≤ 16384
  ne : m ≠ gn ∧ m ≠ gl ∧ m ≠ qb ∧ gn ≠ gl ∧ gn ≠ qb ∧ gl ≠ qb
section
variable {w w' : World} {m gn gl qb N : Nat} {s : List Cl}
theorem Mem.up (h : Mem w m gn gl qb N s) (b : Below w.heap.size w w') : Mem w' m gn gl qb N s := ⟨h.row.up b, h.now.up b, h.last.up b, h.qs.up b, h.len, h.pos, h.le, h.ne⟩
theorem Mem.lts (h : Mem w m gn gl qb N s) : m < w.heap.size ∧ gn < w.heap.size ∧ gl < w.heap.size ∧ qb < w.heap.size := ⟨h.row.lt, h.now.lt, h.last.lt, h.qs.lt⟩
theorem Mem.kept {K : Nat → Prop} (h : Mem w m gn gl qb N s) (k : Kept K w w') (h1 : K m) (h2 : K gn) (h3 : K gl) (h4 : K qb) : Mem w' m gn gl qb N s := ⟨h.row.kept k h1, h.now.kept k h2, h.last.kept k h3, h.qs.kept k h4, h.len, h.pos, h.le, h.ne⟩
end
set_option maxRecDepth 100000
theorem none_F (m N : Nat) {a : Option Addr} {c : Nat} {v2 v3 : Value} {w : World} (h : RowL w m 53 [.slice a N c, v2, v3]) (hN : 0 < N) : Calls Try.prog 45 #[.pointer (some ⟨m, 0, none⟩)] w fun e w' => e = .returned (.bool false) ∧ w = w' := by
  refine X.fn Try.func45 rfl (n := 14) rfl rfl ?_
  refine CC.seq ?_
  refine CC.region ?_
  refine LL.val (R.assign rfl rfl) rfl rfl rfl ?_
  refine LL.nilS ?_
  refine CC.seq ?_
  refine CC.region ?_
  refine LL.val (R.move rfl rfl) rfl rfl rfl ?_
  refine LL.val (R.eqPtr rfl rfl rfl rfl rfl) rfl rfl rfl ?_
  refine LL.val (R.move rfl rfl) rfl rfl rfl ?_
  refine LL.val (R.move rfl rfl) rfl rfl rfl ?_
  refine LL.val (R.nil rfl rfl) rfl rfl rfl ?_
  refine LL.val (R.field rfl rfl (I.fld rfl)) rfl rfl rfl ?_
  refine LL.val (R.field rfl rfl (I.fld rfl)) rfl rfl rfl ?_
  refine LL.val (R.load rfl rfl (I.ld1 rfl (RowL.cell h rfl))) rfl rfl rfl ?_
  refine LL.val (R.len rfl rfl rfl rfl) rfl rfl rfl ?_
  refine LL.val (R.eqF rfl rfl rfl (by omega)) rfl rfl rfl ?_
  refine LL.val (R.pick rfl rfl rfl) rfl rfl rfl ?_
  refine LL.val (R.assign rfl rfl) rfl rfl rfl ?_
  refine LL.nilS ?_
  refine CC.ret ?_
  refine EE.ret _ rfl rfl ?_
  exact ⟨rfl, rfl⟩
theorem none_0 (w : World) : Calls Try.prog 45 #[.pointer none] w fun e w' => e = .returned (.bool true) ∧ w = w' := by
  refine X.fn Try.func45 rfl (n := 14) rfl rfl ?_
  refine CC.seq ?_
  refine CC.region ?_
  refine LL.val (R.assign rfl rfl) rfl rfl rfl ?_
  refine LL.nilS ?_
  refine CC.seq ?_
  refine CC.region ?_
  refine LL.val (R.move rfl rfl) rfl rfl rfl ?_
  refine LL.val (R.eqPtr rfl rfl rfl rfl rfl) rfl rfl rfl ?_
  refine LL.val (R.move rfl rfl) rfl rfl rfl ?_
  refine LL.skip rfl rfl ?_
  refine LL.skip rfl rfl ?_
  refine LL.skip rfl rfl ?_
  refine LL.skip rfl rfl ?_
  refine LL.skip rfl rfl ?_
  refine LL.skip rfl rfl ?_
  refine LL.skip rfl rfl ?_
  refine LL.val (R.pick rfl rfl rfl) rfl rfl rfl ?_
  refine LL.val (R.assign rfl rfl) rfl rfl rfl ?_
  refine LL.nilS ?_
  refine CC.ret ?_
  refine EE.ret _ rfl rfl ?_
  exact ⟨rfl, rfl⟩
theorem none_Z (m : Nat) {a : Option Addr} {c : Nat} {v2 v3 : Value} {w : World} (h : RowL w m 53 [.slice a 0 c, v2, v3]) : Calls Try.prog 45 #[.pointer (some ⟨m, 0, none⟩)] w fun e w' => e = .returned (.bool true) ∧ w = w' := by
  refine X.fn Try.func45 rfl (n := 14) rfl rfl ?_
  refine CC.seq ?_
  refine CC.region ?_
  refine LL.val (R.assign rfl rfl) rfl rfl rfl ?_
  refine LL.nilS ?_
  refine CC.seq ?_
  refine CC.region ?_
  refine LL.val (R.move rfl rfl) rfl rfl rfl ?_
  refine LL.val (R.eqPtr rfl rfl rfl rfl rfl) rfl rfl rfl ?_
  refine LL.val (R.move rfl rfl) rfl rfl rfl ?_
  refine LL.val (R.move rfl rfl) rfl rfl rfl ?_
  refine LL.val (R.nil rfl rfl) rfl rfl rfl ?_
  refine LL.val (R.field rfl rfl (I.fld rfl)) rfl rfl rfl ?_
  refine LL.val (R.field rfl rfl (I.fld rfl)) rfl rfl rfl ?_
  refine LL.val (R.load rfl rfl (I.ld1 rfl (RowL.cell h rfl))) rfl rfl rfl ?_
  refine LL.val (R.len rfl rfl rfl rfl) rfl rfl rfl ?_
  refine LL.val (R.eqT rfl rfl rfl (by omega)) rfl rfl rfl ?_
  refine LL.val (R.pick rfl rfl rfl) rfl rfl rfl ?_
  refine LL.val (R.assign rfl rfl) rfl rfl rfl ?_
  refine LL.nilS ?_
  refine CC.ret ?_
  refine EE.ret _ rfl rfl ?_
  exact ⟨rfl, rfl⟩
--C pmem_stand_words | words_any _ _ @p @p | S
theorem words_any (m N : Nat) {a : Option Addr} {c : Nat} {v2 v3 : Value} {w : World} (h : RowL w m 53 [.slice a N c, v2, v3]) (hN : N ≤ 16384) : Calls Try.prog 53 #[.pointer (some ⟨m, 0, none⟩)] w fun e w' => e = .returned (.int .i64 ((N * 8 : Nat) : Int)) ∧ w = w' := by
  refine X.fn Try.func53 rfl (n := 9) rfl rfl ?_
  refine CC.seq ?_
  refine CC.region ?_
  refine LL.val (R.assign rfl rfl) rfl rfl rfl ?_
  refine LL.nilS ?_
  refine CC.seq ?_
  refine CC.region ?_
  refine LL.val (R.move rfl rfl) rfl rfl rfl ?_
  refine LL.val (R.nil rfl rfl) rfl rfl rfl ?_
  refine LL.val (R.field rfl rfl (I.fld rfl)) rfl rfl rfl ?_
  refine LL.val (R.load rfl rfl (I.ld1 rfl (RowL.cell h rfl))) rfl rfl rfl ?_
  refine LL.val (R.len rfl rfl rfl rfl) rfl rfl rfl ?_
  refine LL.val (R.mulNc rfl rfl rfl rfl (by omega)) rfl rfl rfl ?_
  refine LL.val (R.assign rfl rfl) rfl rfl rfl ?_
  refine LL.nilS ?_
  refine CC.ret ?_
  refine EE.ret _ rfl rfl ?_
  exact ⟨rfl, rfl⟩
/-- A line with another word. -/
def wrC (c : Cl) (j v : Nat) : Cl := (⟨c.1.1.set j v, by rw [List.length_set]; exact c.1.2⟩, c.2)
theorem wrC_now (c : Cl) (j v : Nat) : nowE (wrC c j v) = (nowE c).set j (.int .u64 (v : Int)) := by
  unfold nowE lE wrC
  simp only [ints, List.map_set]
theorem set_get {s : List Cl} {i : Nat} {c : Cl} (hc : s[i]? = some c) : s.set i c = s := by
  obtain ⟨h, rfl⟩ := List.getElem?_eq_some_iff.1 hc
  exact List.set_getElem_self h
theorem set_last {s : List Cl} {i : Nat} {c u : Cl} (hc : s[i]? = some c) (h : lastE u = lastE c) : (s.set i u).flatMap lastE = s.flatMap lastE := by
  rw [lastEnc.set s i u (List.getElem?_eq_some_iff.1 hc).1, h, ← lastEnc.set s i c (List.getElem?_eq_some_iff.1 hc).1, set_get hc]
theorem set_now {s : List Cl} {i : Nat} {c u : Cl} (hc : s[i]? = some c) (h : nowE u = nowE c) : (s.set i u).flatMap nowE = s.flatMap nowE := by
  rw [nowEnc.set s i u (List.getElem?_eq_some_iff.1 hc).1, h, ← nowEnc.set s i c (List.getElem?_eq_some_iff.1 hc).1, set_get hc]
theorem qF_set {s : List Cl} {i : Nat} {c u : Cl} (hc : s[i]? = some c) (h : u.2.2 = c.2.2) : qF (s.set i u) = qF s := by
  funext j
  unfold qF
  rw [List.getElem?_set]
  by_cases hj : i = j
  · subst hj
    rw [if_pos rfl, if_pos (List.getElem?_eq_some_iff.1 hc).1, hc]
    exact h
  · rw [if_neg hj]
theorem countP_set {α : Type} (p : α → Bool) : ∀ (l : List α) (i : Nat) (c u : α), l[i]? = some c → (l.set i u).countP p + (if p c then 1 else 0) = l.countP p + (if p u then 1 else 0)
  | [], _, _, _, h => by simp at h
  | x :: l, 0, c, u, h => by
    simp at h
    subst h
    rw [List.set_cons_zero, List.countP_cons, List.countP_cons]
    omega
  | x :: l, i + 1, c, u, h => by
    have := countP_set p l i c u (by simpa using h)
    rw [List.set_cons_succ, List.countP_cons, List.countP_cons]
    omega
theorem nQ_set {s : List Cl} {i : Nat} {c u : Cl} (hc : s[i]? = some c) (h : u.2.2 = c.2.2) : nQ (s.set i u) = nQ s := by
  have := countP_set (fun c : Cl => c.2.2.isSome) s i c u hc
  simp only [h] at this
  unfold nQ
  omega
set_option maxRecDepth 100000
set_option maxHeartbeats 2000000
theorem put_any (m gn N j v : Nat) {c0 : Nat} {v2 v3 : Value} {w : World} {s : List Cl} {c : Cl} (h : RowL w m 53 [.slice (some ⟨gn, 0, none⟩) N c0, v2, v3]) (hn : RowL w gn 79 (s.flatMap nowE)) (hl : s.length = N) (hN : N ≤ 16384) (hc : s[j / 8]? = some c) :
    Calls Try.prog 35 #[.pointer (some ⟨m, 0, none⟩), .int .i64 (j : Int), .int .u64 (v : Int)] w fun e w' => e = .returned (.tuple #[]) ∧ RowL w' gn 79 ((s.set (j / 8) (wrC c (j % 8) v)).flatMap nowE) ∧ w.grownBy w' (some gn) ∧ w'.heap.size = w.heap.size := by
  have hj := (List.getElem?_eq_some_iff.1 hc).1
  refine X.fn Try.func35 rfl (n := 17) rfl rfl ?_
  refine CC.region ?_
  refine LL.val (R.move rfl rfl) rfl rfl rfl ?_
  refine LL.val (R.nil rfl rfl) rfl rfl rfl ?_
  refine LL.val (R.field rfl rfl (I.fld rfl)) rfl rfl rfl ?_
  refine LL.val (R.load rfl rfl (I.ld1 rfl (RowL.cell h rfl))) rfl rfl rfl ?_
  refine LL.val (R.move rfl rfl) rfl rfl rfl ?_
  refine LL.val (R.quoNc rfl rfl rfl rfl (by omega) (by omega)) rfl rfl rfl ?_
  refine LL.val (R.move rfl rfl) rfl rfl rfl ?_
  refine LL.val (R.remNc rfl rfl rfl rfl (by omega)) rfl rfl rfl ?_
  refine LL.val (R.move rfl rfl) rfl rfl rfl ?_
  refine LL.val (R.index rfl rfl rfl (I.ixS rfl (by omega))) rfl rfl rfl ?_
  refine LL.val (R.index rfl rfl rfl (I.ixA1 rfl (by omega))) rfl rfl rfl ?_
  (refine LL.store1 (j / 8) (j % 8) c (wrC c (j % 8) v) rfl rfl rfl rfl (by show 0 + j / 8 * 8 + j % 8 = j / 8 * 8 + j % 8; omega) nowEnc hn hc (by omega) (wrC_now c (j % 8) v) rfl rfl rfl rfl ?_; intro W1 rn g1 z1)
  refine LL.nil ?_
  refine EE.end _ rfl rfl ?_
  exact ⟨rfl, rn, g1, z1⟩
--C pmem_stand_get | get_any _ _ _ _ _ @p @p @p @p @p @p | S
theorem get_any (m gn N j y : Nat) {c0 : Nat} {v2 v3 : Value} {w : World} {s : List Cl} {c : Cl} (h : RowL w m 53 [.slice (some ⟨gn, 0, none⟩) N c0, v2, v3]) (hn : RowL w gn 79 (s.flatMap nowE)) (hl : s.length = N) (hN : N ≤ 16384) (hc : s[j / 8]? = some c) (hy : c.1.1[j % 8]? = some y) :
    Calls Try.prog 51 #[.pointer (some ⟨m, 0, none⟩), .int .i64 (j : Int)] w fun e w' => e = .returned (.int .u64 (y : Int)) ∧ w = w' := by
  have hj := (List.getElem?_eq_some_iff.1 hc).1
  have c1 : w.cell? ⟨gn, 0 + j / 8 * 8 + j % 8, none⟩ = some (.int .u64 (y : Int)) := by
    refine hn.cell ?_
    rw [Nat.zero_add, nowEnc.get s (j / 8) c hc (j % 8) (by omega)]
    simp [nowE, lE, ints, hy]
  refine X.fn Try.func51 rfl (n := 16) rfl rfl ?_
  refine CC.seq ?_
  refine CC.region ?_
  refine LL.val (R.assign rfl rfl) rfl rfl rfl ?_
  refine LL.nilS ?_
  refine CC.seq ?_
  refine CC.region ?_
  refine LL.val (R.move rfl rfl) rfl rfl rfl ?_
  refine LL.val (R.nil rfl rfl) rfl rfl rfl ?_
  refine LL.val (R.field rfl rfl (I.fld rfl)) rfl rfl rfl ?_
  refine LL.val (R.load rfl rfl (I.ld1 rfl (RowL.cell h rfl))) rfl rfl rfl ?_
  refine LL.val (R.move rfl rfl) rfl rfl rfl ?_
  refine LL.val (R.quoNc rfl rfl rfl rfl (by omega) (by omega)) rfl rfl rfl ?_
  refine LL.val (R.move rfl rfl) rfl rfl rfl ?_
  refine LL.val (R.remNc rfl rfl rfl rfl (by omega)) rfl rfl rfl ?_
  refine LL.val (R.index rfl rfl rfl (I.ixS rfl (by omega))) rfl rfl rfl ?_
  refine LL.val (R.index rfl rfl rfl (I.ixA1 rfl (by omega))) rfl rfl rfl ?_
  refine LL.val (R.load rfl rfl (I.ld1 rfl (by assumption))) rfl rfl rfl ?_
  refine LL.val (R.assign rfl rfl) rfl rfl rfl ?_
  refine LL.nilS ?_
  refine CC.ret ?_
  refine EE.ret _ rfl rfl ?_
  exact ⟨rfl, rfl⟩
--C pmem_Memory_hasWord_1 | hw1_any _ _ _ @p @p @p | S
theorem hw1_any (bk m N : Nat) {a : Option Addr} {c : Nat} {v2 v3 : Value} {w : World} (hb : RowL w bk 26 [.pointer (some ⟨m, 0, none⟩)]) (h : RowL w m 53 [.slice a N c, v2, v3]) (hN : N ≤ 16384) : Calls Try.prog 64 #[.pointer (some ⟨bk, 0, none⟩)] w fun e w' => e = .returned (.int .i64 ((N * 8 : Nat) : Int)) ∧ w = w' := by
  refine X.fn Try.func64 rfl (n := 6) rfl rfl ?_
  refine CC.seq ?_
  refine CC.region ?_
  refine LL.val (R.assign rfl rfl) rfl rfl rfl ?_
  refine LL.nilS ?_
  refine CC.seq ?_
  refine CC.region ?_
  refine LL.val (R.load rfl rfl (I.ld1 rfl (RowL.cell hb rfl))) rfl rfl rfl ?_
  refine LL.val (R.nil rfl rfl) rfl rfl rfl ?_
  refine LL.val (R.field rfl rfl (I.fld rfl)) rfl rfl rfl ?_
  refine LL.call (R.call rfl rfl rfl) rfl rfl rfl (words_any _ _ (by first | assumption | omega) (by first | assumption | omega)) ?_
  rintro e W' ⟨rfl, rfl⟩
  refine ⟨_, rfl, ?_⟩
  refine LL.val (R.assign rfl rfl) rfl rfl rfl ?_
  refine LL.nilS ?_
  refine CC.ret ?_
  refine EE.ret _ rfl rfl ?_
  exact ⟨rfl, rfl⟩
--C pmem_Memory_hasLine_1 | hl1_any _ _ _ @p @p @p | S
theorem hl1_any (bk m N : Nat) {a : Option Addr} {c : Nat} {v2 v3 : Value} {w : World} (hb : RowL w bk 26 [.pointer (some ⟨m, 0, none⟩)]) (h : RowL w m 53 [.slice a N c, v2, v3]) (hN : N ≤ 16384) : Calls Try.prog 65 #[.pointer (some ⟨bk, 0, none⟩)] w fun e w' => e = .returned (.int .i64 (N : Int)) ∧ w = w' := by
  refine X.fn Try.func65 rfl (n := 8) rfl rfl ?_
  refine CC.seq ?_
  refine CC.region ?_
  refine LL.val (R.assign rfl rfl) rfl rfl rfl ?_
  refine LL.nilS ?_
  refine CC.seq ?_
  refine CC.region ?_
  refine LL.val (R.load rfl rfl (I.ld1 rfl (RowL.cell hb rfl))) rfl rfl rfl ?_
  refine LL.val (R.nil rfl rfl) rfl rfl rfl ?_
  refine LL.val (R.field rfl rfl (I.fld rfl)) rfl rfl rfl ?_
  refine LL.val (R.field rfl rfl (I.fld rfl)) rfl rfl rfl ?_
  refine LL.val (R.load rfl rfl (I.ld1 rfl (RowL.cell h rfl))) rfl rfl rfl ?_
  refine LL.val (R.len rfl rfl rfl rfl) rfl rfl rfl ?_
  refine LL.val (R.assign rfl rfl) rfl rfl rfl ?_
  refine LL.nilS ?_
  refine CC.ret ?_
  refine EE.ret _ rfl rfl ?_
  exact ⟨rfl, rfl⟩
theorem placeW_T (bk m N : Nat) (a : Int) {a0 : Option Addr} {c : Nat} {v2 v3 : Value} {w : World} (hb : RowL w bk 26 [.pointer (some ⟨m, 0, none⟩)]) (h : RowL w m 53 [.slice a0 N c, v2, v3]) (hN : N ≤ 16384) (h0 : 0 < N) (ha : 0 ≤ a ∧ a < ((N * 8 : Nat) : Int)) :
    Calls Try.prog 63 #[.pointer (some ⟨m, 0, none⟩), .int .i64 a, .func (.func 64) #[] #[.pointer (some ⟨bk, 0, none⟩)]] w fun e w' => e = .returned (.int .i64 0) ∧ w = w' := by
  refine X.fn Try.func63 rfl (n := 19) rfl rfl ?_
  refine CC.seq ?_
  refine CC.region ?_
  refine LL.val (R.assign rfl rfl) rfl rfl rfl ?_
  refine LL.nilS ?_
  refine CC.seq ?_
  refine CC.block ?_
  refine CC.seq ?_
  refine CC.region ?_
  refine LL.val (R.move rfl rfl) rfl rfl rfl ?_
  refine LL.call (R.call rfl rfl rfl) rfl rfl rfl (none_F _ _ (by first | assumption | omega) (by first | assumption | omega)) ?_
  rintro e W' ⟨rfl, rfl⟩
  refine ⟨_, rfl, ?_⟩
  refine LL.val (R.assign rfl rfl) rfl rfl rfl ?_
  refine LL.nilS ?_
  refine CC.no rfl ?_
  refine CC.seq ?_
  refine CC.region ?_
  refine LL.val (R.move rfl rfl) rfl rfl rfl ?_
  refine LL.val (R.ltF rfl rfl rfl (by omega)) rfl rfl rfl ?_
  refine LL.val (R.move rfl rfl) rfl rfl rfl ?_
  refine LL.val (R.move rfl rfl) rfl rfl rfl ?_
  refine LL.val (R.move rfl rfl) rfl rfl rfl ?_
  refine LL.call (R.callV rfl rfl rfl rfl) rfl rfl rfl (hw1_any _ _ _ (by first | assumption | omega) (by first | assumption | omega) (by first | assumption | omega)) ?_
  rintro e W' ⟨rfl, rfl⟩
  refine ⟨_, rfl, ?_⟩
  refine LL.val (R.geF rfl rfl rfl (by omega)) rfl rfl rfl ?_
  refine LL.val (R.pick rfl rfl rfl) rfl rfl rfl ?_
  refine LL.val (R.assign rfl rfl) rfl rfl rfl ?_
  refine LL.nilS ?_
  refine CC.no rfl ?_
  refine CC.skip ?_
  refine EE.inN ?_
  refine EE.thenN ?_
  refine CC.seq ?_
  refine CC.region ?_
  refine LL.val (R.assign rfl rfl) rfl rfl rfl ?_
  refine LL.nilS ?_
  refine CC.ret ?_
  refine EE.ret _ rfl rfl ?_
  exact ⟨rfl, rfl⟩
theorem placeW_F (bk m N : Nat) (a : Int) {a0 : Option Addr} {c : Nat} {v2 v3 : Value} {w : World} (hb : RowL w bk 26 [.pointer (some ⟨m, 0, none⟩)]) (h : RowL w m 53 [.slice a0 N c, v2, v3]) (hN : N ≤ 16384) (h0 : 0 < N) (ha : a < 0 ∨ ((N * 8 : Nat) : Int) ≤ a) :
    Calls Try.prog 63 #[.pointer (some ⟨m, 0, none⟩), .int .i64 a, .func (.func 64) #[] #[.pointer (some ⟨bk, 0, none⟩)]] w fun e w' => e = .returned (.int .i64 4) ∧ w = w' := by
  refine X.fn Try.func63 rfl (n := 19) rfl rfl ?_
  refine CC.seq ?_
  refine CC.region ?_
  refine LL.val (R.assign rfl rfl) rfl rfl rfl ?_
  refine LL.nilS ?_
  refine CC.seq ?_
  refine CC.block ?_
  refine CC.seq ?_
  refine CC.region ?_
  refine LL.val (R.move rfl rfl) rfl rfl rfl ?_
  refine LL.call (R.call rfl rfl rfl) rfl rfl rfl (none_F _ _ (by first | assumption | omega) (by first | assumption | omega)) ?_
  rintro e W' ⟨rfl, rfl⟩
  refine ⟨_, rfl, ?_⟩
  refine LL.val (R.assign rfl rfl) rfl rfl rfl ?_
  refine LL.nilS ?_
  refine CC.no rfl ?_
  refine CC.seq ?_
  refine CC.region ?_
  refine LL.val (R.move rfl rfl) rfl rfl rfl ?_
  refine LL.vsplit (fun h => R.ltT rfl rfl rfl h) (fun h => R.ltF rfl rfl rfl (Int.not_lt.1 h)) rfl rfl rfl (fun c1 => ?_) (fun c1 => ?_)
  refine LL.val (R.move rfl rfl) rfl rfl rfl ?_
  refine LL.skip rfl rfl ?_
  refine LL.skip rfl rfl ?_
  refine LL.skip rfl rfl ?_
  refine LL.skip rfl rfl ?_
  refine LL.val (R.pick rfl rfl rfl) rfl rfl rfl ?_
  refine LL.val (R.assign rfl rfl) rfl rfl rfl ?_
  refine LL.nilS ?_
  refine CC.yes rfl ?_
  refine CC.seq ?_
  refine CC.region ?_
  refine LL.val (R.assign rfl rfl) rfl rfl rfl ?_
  refine LL.nilS ?_
  refine CC.ret ?_
  refine EE.inR ?_
  refine EE.thenR ?_
  refine EE.ret _ rfl rfl ?_
  exact ⟨rfl, rfl⟩
  refine LL.val (R.move rfl rfl) rfl rfl rfl ?_
  refine LL.val (R.move rfl rfl) rfl rfl rfl ?_
  refine LL.val (R.move rfl rfl) rfl rfl rfl ?_
  refine LL.call (R.callV rfl rfl rfl rfl) rfl rfl rfl (hw1_any _ _ _ (by first | assumption | omega) (by first | assumption | omega) (by first | assumption | omega)) ?_
  rintro e W' ⟨rfl, rfl⟩
  refine ⟨_, rfl, ?_⟩
  refine LL.val (R.geT rfl rfl rfl (by omega)) rfl rfl rfl ?_
  refine LL.val (R.pick rfl rfl rfl) rfl rfl rfl ?_
  refine LL.val (R.assign rfl rfl) rfl rfl rfl ?_
  refine LL.nilS ?_
  refine CC.yes rfl ?_
  refine CC.seq ?_
  refine CC.region ?_
  refine LL.val (R.assign rfl rfl) rfl rfl rfl ?_
  refine LL.nilS ?_
  refine CC.ret ?_
  refine EE.inR ?_
  refine EE.thenR ?_
  refine EE.ret _ rfl rfl ?_
  exact ⟨rfl, rfl⟩
theorem placeL_T (bk m N : Nat) (a : Int) {a0 : Option Addr} {c : Nat} {v2 v3 : Value} {w : World} (hb : RowL w bk 26 [.pointer (some ⟨m, 0, none⟩)]) (h : RowL w m 53 [.slice a0 N c, v2, v3]) (hN : N ≤ 16384) (h0 : 0 < N) (ha : 0 ≤ a ∧ a < (N : Int)) :
    Calls Try.prog 63 #[.pointer (some ⟨m, 0, none⟩), .int .i64 a, .func (.func 65) #[] #[.pointer (some ⟨bk, 0, none⟩)]] w fun e w' => e = .returned (.int .i64 0) ∧ w = w' := by
  refine X.fn Try.func63 rfl (n := 19) rfl rfl ?_
  refine CC.seq ?_
  refine CC.region ?_
  refine LL.val (R.assign rfl rfl) rfl rfl rfl ?_
  refine LL.nilS ?_
  refine CC.seq ?_
  refine CC.block ?_
  refine CC.seq ?_
  refine CC.region ?_
  refine LL.val (R.move rfl rfl) rfl rfl rfl ?_
  refine LL.call (R.call rfl rfl rfl) rfl rfl rfl (none_F _ _ (by first | assumption | omega) (by first | assumption | omega)) ?_
  rintro e W' ⟨rfl, rfl⟩
  refine ⟨_, rfl, ?_⟩
  refine LL.val (R.assign rfl rfl) rfl rfl rfl ?_
  refine LL.nilS ?_
  refine CC.no rfl ?_
  refine CC.seq ?_
  refine CC.region ?_
  refine LL.val (R.move rfl rfl) rfl rfl rfl ?_
  refine LL.val (R.ltF rfl rfl rfl (by omega)) rfl rfl rfl ?_
  refine LL.val (R.move rfl rfl) rfl rfl rfl ?_
  refine LL.val (R.move rfl rfl) rfl rfl rfl ?_
  refine LL.val (R.move rfl rfl) rfl rfl rfl ?_
  refine LL.call (R.callV rfl rfl rfl rfl) rfl rfl rfl (hl1_any _ _ _ (by first | assumption | omega) (by first | assumption | omega) (by first | assumption | omega)) ?_
  rintro e W' ⟨rfl, rfl⟩
  refine ⟨_, rfl, ?_⟩
  refine LL.val (R.geF rfl rfl rfl (by omega)) rfl rfl rfl ?_
  refine LL.val (R.pick rfl rfl rfl) rfl rfl rfl ?_
  refine LL.val (R.assign rfl rfl) rfl rfl rfl ?_
  refine LL.nilS ?_
  refine CC.no rfl ?_
  refine CC.skip ?_
  refine EE.inN ?_
  refine EE.thenN ?_
  refine CC.seq ?_
  refine CC.region ?_
  refine LL.val (R.assign rfl rfl) rfl rfl rfl ?_
  refine LL.nilS ?_
  refine CC.ret ?_
  refine EE.ret _ rfl rfl ?_
  exact ⟨rfl, rfl⟩
theorem placeL_F (bk m N : Nat) (a : Int) {a0 : Option Addr} {c : Nat} {v2 v3 : Value} {w : World} (hb : RowL w bk 26 [.pointer (some ⟨m, 0, none⟩)]) (h : RowL w m 53 [.slice a0 N c, v2, v3]) (hN : N ≤ 16384) (h0 : 0 < N) (ha : a < 0 ∨ (N : Int) ≤ a) :
    Calls Try.prog 63 #[.pointer (some ⟨m, 0, none⟩), .int .i64 a, .func (.func 65) #[] #[.pointer (some ⟨bk, 0, none⟩)]] w fun e w' => e = .returned (.int .i64 4) ∧ w = w' := by
  refine X.fn Try.func63 rfl (n := 19) rfl rfl ?_
  refine CC.seq ?_
  refine CC.region ?_
  refine LL.val (R.assign rfl rfl) rfl rfl rfl ?_
  refine LL.nilS ?_
  refine CC.seq ?_
  refine CC.block ?_
  refine CC.seq ?_
  refine CC.region ?_
  refine LL.val (R.move rfl rfl) rfl rfl rfl ?_
  refine LL.call (R.call rfl rfl rfl) rfl rfl rfl (none_F _ _ (by first | assumption | omega) (by first | assumption | omega)) ?_
  rintro e W' ⟨rfl, rfl⟩
  refine ⟨_, rfl, ?_⟩
  refine LL.val (R.assign rfl rfl) rfl rfl rfl ?_
  refine LL.nilS ?_
  refine CC.no rfl ?_
  refine CC.seq ?_
  refine CC.region ?_
  refine LL.val (R.move rfl rfl) rfl rfl rfl ?_
  refine LL.vsplit (fun h => R.ltT rfl rfl rfl h) (fun h => R.ltF rfl rfl rfl (Int.not_lt.1 h)) rfl rfl rfl (fun c1 => ?_) (fun c1 => ?_)
  refine LL.val (R.move rfl rfl) rfl rfl rfl ?_
  refine LL.skip rfl rfl ?_
  refine LL.skip rfl rfl ?_
  refine LL.skip rfl rfl ?_
  refine LL.skip rfl rfl ?_
  refine LL.val (R.pick rfl rfl rfl) rfl rfl rfl ?_
  refine LL.val (R.assign rfl rfl) rfl rfl rfl ?_
  refine LL.nilS ?_
  refine CC.yes rfl ?_
  refine CC.seq ?_
  refine CC.region ?_
  refine LL.val (R.assign rfl rfl) rfl rfl rfl ?_
  refine LL.nilS ?_
  refine CC.ret ?_
  refine EE.inR ?_
  refine EE.thenR ?_
  refine EE.ret _ rfl rfl ?_
  exact ⟨rfl, rfl⟩
  refine LL.val (R.move rfl rfl) rfl rfl rfl ?_
  refine LL.val (R.move rfl rfl) rfl rfl rfl ?_
  refine LL.val (R.move rfl rfl) rfl rfl rfl ?_
  refine LL.call (R.callV rfl rfl rfl rfl) rfl rfl rfl (hl1_any _ _ _ (by first | assumption | omega) (by first | assumption | omega) (by first | assumption | omega)) ?_
  rintro e W' ⟨rfl, rfl⟩
  refine ⟨_, rfl, ?_⟩
  refine LL.val (R.geT rfl rfl rfl (by omega)) rfl rfl rfl ?_
  refine LL.val (R.pick rfl rfl rfl) rfl rfl rfl ?_
  refine LL.val (R.assign rfl rfl) rfl rfl rfl ?_
  refine LL.nilS ?_
  refine CC.yes rfl ?_
  refine CC.seq ?_
  refine CC.region ?_
  refine LL.val (R.assign rfl rfl) rfl rfl rfl ?_
  refine LL.nilS ?_
  refine CC.ret ?_
  refine EE.inR ?_
  refine EE.thenR ?_
  refine EE.ret _ rfl rfl ?_
  exact ⟨rfl, rfl⟩
def flC (c : Cl) : Cl := (c.1, c.2.1, some c.1)
def evC (c : Cl) : Cl := (c.1, c.1, none)
theorem qF_put {s : List Cl} {i : Nat} {c u : Cl} {o : Option Ln} (hc : s[i]? = some c) (h : u.2.2 = o) : putF (qF s) i o = qF (s.set i u) := by
  funext j
  unfold putF qF
  rw [List.getElem?_set]
  by_cases hj : j = i
  · subst hj
    rw [if_pos rfl, if_pos rfl, if_pos (List.getElem?_eq_some_iff.1 hc).1]
    exact h.symm
  · rw [if_neg hj, if_neg (Ne.symm hj)]
theorem qF_at {s : List Cl} {i : Nat} {c : Cl} (hc : s[i]? = some c) : qF s i = c.2.2 := by
  unfold qF
  rw [hc]
  rfl
theorem nQ_puts {s : List Cl} {i : Nat} {c u : Cl} (hc : s[i]? = some c) (h : u.2.2.isSome = true) : (if (qF s i).isSome then nQ s else nQ s + 1) = nQ (s.set i u) := by
  have := countP_set (fun c : Cl => c.2.2.isSome) s i c u hc
  rw [qF_at hc]
  unfold nQ
  simp only [h, if_true] at this
  split
  · rename_i h2; rw [if_pos h2] at this; omega
  · rename_i h2; rw [if_neg h2] at this; omega
theorem nQ_del {s : List Cl} {i : Nat} {c u : Cl} (hc : s[i]? = some c) (h : u.2.2 = none) : (if (qF s i).isSome then nQ s - 1 else nQ s) = nQ (s.set i u) := by
  have := countP_set (fun c : Cl => c.2.2.isSome) s i c u hc
  rw [qF_at hc]
  unfold nQ
  simp only [h, Option.isSome_none, Bool.false_eq_true, if_false] at this
  split
  · rename_i h2; rw [if_pos h2] at this; omega
  · rename_i h2; rw [if_neg h2] at this; omega
set_option maxRecDepth 100000
set_option maxHeartbeats 2000000
theorem hasWord_T (m N : Nat) (a : Int) {a0 : Option Addr} {c : Nat} {v2 v3 : Value} (w : World) (h : RowL w m 53 [.slice a0 N c, v2, v3]) (hN : N ≤ 16384) (h0 : 0 < N) (ha : 0 ≤ a ∧ a < ((N * 8 : Nat) : Int)) :
    Calls Try.prog 50 #[.pointer (some ⟨m, 0, none⟩), .int .i64 a] w fun e w' => e = .returned (.int .i64 0) ∧ Below w.heap.size w w' := by
  have q := Below.refl w.heap.size w
  refine X.fn Try.func50 rfl (n := 9) rfl rfl ?_
  refine CC.seq ?_
  refine CC.region ?_
  have l1 := h.lt
  refine LL.box [Value.pointer (some { block := m, off := 0 })] rfl rfl rfl rfl rfl ?_
  intro W3 g4 eg4 r5 z6 b2
  replace h := h.up b2
  replace q := q.trans (b2.mono q.size)
  refine LL.val (R.assign rfl rfl) rfl rfl rfl ?_
  refine LL.nilS ?_
  refine CC.seq ?_
  refine CC.region ?_
  refine LL.val (R.load rfl rfl (I.ld1 rfl (RowL.cell r5 rfl))) rfl rfl rfl ?_
  refine LL.val (R.move rfl rfl) rfl rfl rfl ?_
  refine LL.val (R.func rfl rfl rfl) rfl rfl rfl ?_
  refine LL.call (R.call rfl rfl rfl) rfl rfl rfl (placeW_T _ _ _ _ (by first | assumption | omega) (by first | assumption | omega) (by first | assumption | omega) (by first | assumption | omega) (by first | assumption | omega)) ?_
  rintro e W' ⟨rfl, rfl⟩
  refine ⟨_, rfl, ?_⟩
  refine LL.val (R.assign rfl rfl) rfl rfl rfl ?_
  refine LL.nilS ?_
  refine CC.ret ?_
  refine EE.ret _ rfl rfl ?_
  exact ⟨rfl, q⟩
--C pmem_Memory_hasWord | hasWord_F _ _ _ @w @p @p @p @p | ⟨rfl, @b⟩
theorem hasWord_F (m N : Nat) (a : Int) {a0 : Option Addr} {c : Nat} {v2 v3 : Value} (w : World) (h : RowL w m 53 [.slice a0 N c, v2, v3]) (hN : N ≤ 16384) (h0 : 0 < N) (ha : a < 0 ∨ ((N * 8 : Nat) : Int) ≤ a) :
    Calls Try.prog 50 #[.pointer (some ⟨m, 0, none⟩), .int .i64 a] w fun e w' => e = .returned (.int .i64 4) ∧ Below w.heap.size w w' := by
  have q := Below.refl w.heap.size w
  refine X.fn Try.func50 rfl (n := 9) rfl rfl ?_
  refine CC.seq ?_
  refine CC.region ?_
  have l1 := h.lt
  refine LL.box [Value.pointer (some { block := m, off := 0 })] rfl rfl rfl rfl rfl ?_
  intro W3 g4 eg4 r5 z6 b2
  replace h := h.up b2
  replace q := q.trans (b2.mono q.size)
  refine LL.val (R.assign rfl rfl) rfl rfl rfl ?_
  refine LL.nilS ?_
  refine CC.seq ?_
  refine CC.region ?_
  refine LL.val (R.load rfl rfl (I.ld1 rfl (RowL.cell r5 rfl))) rfl rfl rfl ?_
  refine LL.val (R.move rfl rfl) rfl rfl rfl ?_
  refine LL.val (R.func rfl rfl rfl) rfl rfl rfl ?_
  refine LL.call (R.call rfl rfl rfl) rfl rfl rfl (placeW_F _ _ _ _ (by first | assumption | omega) (by first | assumption | omega) (by first | assumption | omega) (by first | assumption | omega) (by first | assumption | omega)) ?_
  rintro e W' ⟨rfl, rfl⟩
  refine ⟨_, rfl, ?_⟩
  refine LL.val (R.assign rfl rfl) rfl rfl rfl ?_
  refine LL.nilS ?_
  refine CC.ret ?_
  refine EE.ret _ rfl rfl ?_
  exact ⟨rfl, q⟩
--C pmem_Memory_hasLine | hasLine_T _ _ _ @w @p @p @p @p | ⟨rfl, @b⟩
theorem hasLine_T (m N : Nat) (a : Int) {a0 : Option Addr} {c : Nat} {v2 v3 : Value} (w : World) (h : RowL w m 53 [.slice a0 N c, v2, v3]) (hN : N ≤ 16384) (h0 : 0 < N) (ha : 0 ≤ a ∧ a < (N : Int)) :
    Calls Try.prog 52 #[.pointer (some ⟨m, 0, none⟩), .int .i64 a] w fun e w' => e = .returned (.int .i64 0) ∧ Below w.heap.size w w' := by
  have q := Below.refl w.heap.size w
  refine X.fn Try.func52 rfl (n := 9) rfl rfl ?_
  refine CC.seq ?_
  refine CC.region ?_
  have l1 := h.lt
  refine LL.box [Value.pointer (some { block := m, off := 0 })] rfl rfl rfl rfl rfl ?_
  intro W3 g4 eg4 r5 z6 b2
  replace h := h.up b2
  replace q := q.trans (b2.mono q.size)
  refine LL.val (R.assign rfl rfl) rfl rfl rfl ?_
  refine LL.nilS ?_
  refine CC.seq ?_
  refine CC.region ?_
  refine LL.val (R.load rfl rfl (I.ld1 rfl (RowL.cell r5 rfl))) rfl rfl rfl ?_
  refine LL.val (R.move rfl rfl) rfl rfl rfl ?_
  refine LL.val (R.func rfl rfl rfl) rfl rfl rfl ?_
  refine LL.call (R.call rfl rfl rfl) rfl rfl rfl (placeL_T _ _ _ _ (by first | assumption | omega) (by first | assumption | omega) (by first | assumption | omega) (by first | assumption | omega) (by first | assumption | omega)) ?_
  rintro e W' ⟨rfl, rfl⟩
  refine ⟨_, rfl, ?_⟩
  refine LL.val (R.assign rfl rfl) rfl rfl rfl ?_
  refine LL.nilS ?_
  refine CC.ret ?_
  refine EE.ret _ rfl rfl ?_
  exact ⟨rfl, q⟩
--C pmem_Memory_hasLine | hasLine_F _ _ _ @w @p @p @p @p | ⟨rfl, @b⟩
theorem hasLine_F (m N : Nat) (a : Int) {a0 : Option Addr} {c : Nat} {v2 v3 : Value} (w : World) (h : RowL w m 53 [.slice a0 N c, v2, v3]) (hN : N ≤ 16384) (h0 : 0 < N) (ha : a < 0 ∨ (N : Int) ≤ a) :
    Calls Try.prog 52 #[.pointer (some ⟨m, 0, none⟩), .int .i64 a] w fun e w' => e = .returned (.int .i64 4) ∧ Below w.heap.size w w' := by
  have q := Below.refl w.heap.size w
  refine X.fn Try.func52 rfl (n := 9) rfl rfl ?_
  refine CC.seq ?_
  refine CC.region ?_
  have l1 := h.lt
  refine LL.box [Value.pointer (some { block := m, off := 0 })] rfl rfl rfl rfl rfl ?_
  intro W3 g4 eg4 r5 z6 b2
  replace h := h.up b2
  replace q := q.trans (b2.mono q.size)
  refine LL.val (R.assign rfl rfl) rfl rfl rfl ?_
  refine LL.nilS ?_
  refine CC.seq ?_
  refine CC.region ?_
  refine LL.val (R.load rfl rfl (I.ld1 rfl (RowL.cell r5 rfl))) rfl rfl rfl ?_
  refine LL.val (R.move rfl rfl) rfl rfl rfl ?_
  refine LL.val (R.func rfl rfl rfl) rfl rfl rfl ?_
  refine LL.call (R.call rfl rfl rfl) rfl rfl rfl (placeL_F _ _ _ _ (by first | assumption | omega) (by first | assumption | omega) (by first | assumption | omega) (by first | assumption | omega) (by first | assumption | omega)) ?_
  rintro e W' ⟨rfl, rfl⟩
  refine ⟨_, rfl, ?_⟩
  refine LL.val (R.assign rfl rfl) rfl rfl rfl ?_
  refine LL.nilS ?_
  refine CC.ret ?_
  refine EE.ret _ rfl rfl ?_
  exact ⟨rfl, q⟩
/-- What a call of a memory keeps of what there was. -/
abbrev KM (w : World) (gn gl qb : Nat) (i : Nat) : Prop := i < w.heap.size ∧ i ≠ gn ∧ i ≠ gl ∧ i ≠ qb
theorem km_bel {w w' : World} {gn gl qb : Nat} (b : Below w.heap.size w w') : Kept (KM w gn gl qb) w w' := bkept b fun _ h => h.1
theorem km_gr {w w1 w2 : World} {gn gl qb g : Nat} (h : Kept (KM w gn gl qb) w w1) (hg : w1.grownBy w2 (some g)) (he : g = gn ∨ g = gl ∨ g = qb) : Kept (KM w gn gl qb) w w2 :=
  h.trans (grown_kept hg (fun j hj => by have := hj.1; have := h.size; omega) fun j hj e => by cases e; obtain ⟨_, h1, h2, h3⟩ := hj; omega)
theorem load_T (w : World) (m gn gl qb N j y : Nat) {s : List Cl} {c : Cl} (M : Mem w m gn gl qb N s) (hc : s[j / 8]? = some c) (hy : c.1.1[j % 8]? = some y) :
    Calls Try.prog 21 #[.pointer (some ⟨m, 0, none⟩), .int .i64 (j : Int)] w fun e w' => e = .returned (.tuple #[.int .u64 (y : Int), .int .i64 0]) ∧ Below w.heap.size w w' := by
  have q := Below.refl w.heap.size w
  have hr := M.row
  have hn := M.now
  have hl := M.len
  have h0 := M.pos
  have hN := M.le
  have hj := (List.getElem?_eq_some_iff.1 hc).1
  refine X.fn Try.func21 rfl (n := 18) rfl rfl ?_
  refine CC.seq ?_
  refine CC.region ?_
  refine LL.val (R.assign rfl rfl) rfl rfl rfl ?_
  refine LL.val (R.assign rfl rfl) rfl rfl rfl ?_
  refine LL.nilS ?_
  refine CC.seq ?_
  refine CC.seq ?_
  refine CC.region ?_
  refine LL.val (R.move rfl rfl) rfl rfl rfl ?_
  refine LL.val (R.move rfl rfl) rfl rfl rfl ?_
  refine LL.call (R.call rfl rfl rfl) rfl rfl rfl (hasWord_T _ _ _ _ (by first | assumption | omega) (by first | assumption | omega) (by first | assumption | omega) (by first | assumption | omega)) ?_
  rintro e W2 ⟨rfl, b1⟩
  refine ⟨_, rfl, ?_⟩
  have zb1 := b1.size
  replace M := M.up b1
  replace q := q.trans (b1.mono q.size)
  replace hr := hr.up b1
  replace hn := hn.up b1
  refine LL.val (R.assign rfl rfl) rfl rfl rfl ?_
  refine LL.nilS ?_
  refine CC.seq ?_
  refine CC.region ?_
  refine LL.val (R.move rfl rfl) rfl rfl rfl ?_
  refine LL.val (R.neF rfl rfl rfl (by omega)) rfl rfl rfl ?_
  refine LL.nilS ?_
  refine CC.no rfl ?_
  refine CC.skip ?_
  refine EE.thenN ?_
  refine CC.seq ?_
  refine CC.region ?_
  refine LL.val (R.move rfl rfl) rfl rfl rfl ?_
  refine LL.val (R.nil rfl rfl) rfl rfl rfl ?_
  refine LL.val (R.field rfl rfl (I.fld rfl)) rfl rfl rfl ?_
  refine LL.val (R.move rfl rfl) rfl rfl rfl ?_
  refine LL.call (R.call rfl rfl rfl) rfl rfl rfl (get_any _ _ _ _ _ (by first | assumption | omega) (by first | assumption | omega) (by first | assumption | omega) (by first | assumption | omega) (by first | assumption | omega) (by first | assumption | omega)) ?_
  rintro e W' ⟨rfl, rfl⟩
  refine ⟨_, rfl, ?_⟩
  refine LL.val (R.assign rfl rfl) rfl rfl rfl ?_
  refine LL.val (R.assign rfl rfl) rfl rfl rfl ?_
  refine LL.nilS ?_
  refine CC.ret ?_
  refine EE.ret _ rfl rfl ?_
  exact ⟨rfl, q⟩
theorem load_F (w : World) (m gn gl qb N : Nat) (a : Int) {s : List Cl} (M : Mem w m gn gl qb N s) (ha : a < 0 ∨ ((N * 8 : Nat) : Int) ≤ a) :
    Calls Try.prog 21 #[.pointer (some ⟨m, 0, none⟩), .int .i64 a] w fun e w' => e = .returned (.tuple #[.int .u64 0, .int .i64 4]) ∧ Below w.heap.size w w' := by
  have q := Below.refl w.heap.size w
  have hr := M.row
  have h0 := M.pos
  have hN := M.le
  refine X.fn Try.func21 rfl (n := 18) rfl rfl ?_
  refine CC.seq ?_
  refine CC.region ?_
  refine LL.val (R.assign rfl rfl) rfl rfl rfl ?_
  refine LL.val (R.assign rfl rfl) rfl rfl rfl ?_
  refine LL.nilS ?_
  refine CC.seq ?_
  refine CC.seq ?_
  refine CC.region ?_
  refine LL.val (R.move rfl rfl) rfl rfl rfl ?_
  refine LL.val (R.move rfl rfl) rfl rfl rfl ?_
  refine LL.call (R.call rfl rfl rfl) rfl rfl rfl (hasWord_F _ _ _ _ (by first | assumption | omega) (by first | assumption | omega) (by first | assumption | omega) (by first | assumption | omega)) ?_
  rintro e W2 ⟨rfl, b1⟩
  refine ⟨_, rfl, ?_⟩
  have zb1 := b1.size
  replace M := M.up b1
  replace q := q.trans (b1.mono q.size)
  replace hr := hr.up b1
  refine LL.val (R.assign rfl rfl) rfl rfl rfl ?_
  refine LL.nilS ?_
  refine CC.seq ?_
  refine CC.region ?_
  refine LL.val (R.move rfl rfl) rfl rfl rfl ?_
  refine LL.val (R.neT rfl rfl rfl (by omega)) rfl rfl rfl ?_
  refine LL.nilS ?_
  refine CC.yes rfl ?_
  refine CC.seq ?_
  refine CC.region ?_
  refine LL.val (R.move rfl rfl) rfl rfl rfl ?_
  refine LL.val (R.assign rfl rfl) rfl rfl rfl ?_
  refine LL.val (R.assign rfl rfl) rfl rfl rfl ?_
  refine LL.nilS ?_
  refine CC.ret ?_
  refine EE.thenR ?_
  refine EE.ret _ rfl rfl ?_
  exact ⟨rfl, q⟩
theorem store_T (w : World) (m gn gl qb N j v : Nat) {s : List Cl} {c : Cl} (M : Mem w m gn gl qb N s) (hc : s[j / 8]? = some c) :
    Calls Try.prog 22 #[.pointer (some ⟨m, 0, none⟩), .int .i64 (j : Int), .int .u64 (v : Int)] w fun e w' => e = .returned (.int .i64 0) ∧ Mem w' m gn gl qb N (s.set (j / 8) (wrC c (j % 8) v)) ∧ Kept (KM w gn gl qb) w w' := by
  have q := Below.refl w.heap.size w
  have hr := M.row
  have hn := M.now
  have hl := M.len
  have h0 := M.pos
  have hN := M.le
  have hj := (List.getElem?_eq_some_iff.1 hc).1
  obtain ⟨n1, n2, n3, n4, n5, n6⟩ := M.ne
  refine X.fn Try.func22 rfl (n := 20) rfl rfl ?_
  refine CC.seq ?_
  refine CC.region ?_
  refine LL.val (R.assign rfl rfl) rfl rfl rfl ?_
  refine LL.nilS ?_
  refine CC.seq ?_
  refine CC.seq ?_
  refine CC.region ?_
  refine LL.val (R.move rfl rfl) rfl rfl rfl ?_
  refine LL.val (R.move rfl rfl) rfl rfl rfl ?_
  refine LL.call (R.call rfl rfl rfl) rfl rfl rfl (hasWord_T _ _ _ _ (by first | assumption | omega) (by first | assumption | omega) (by first | assumption | omega) (by first | assumption | omega)) ?_
  rintro e W2 ⟨rfl, b1⟩
  refine ⟨_, rfl, ?_⟩
  have zb1 := b1.size
  replace M := M.up b1
  replace q := q.trans (b1.mono q.size)
  replace hr := hr.up b1
  replace hn := hn.up b1
  refine LL.val (R.assign rfl rfl) rfl rfl rfl ?_
  refine LL.nilS ?_
  refine CC.seq ?_
  refine CC.region ?_
  refine LL.val (R.move rfl rfl) rfl rfl rfl ?_
  refine LL.val (R.neF rfl rfl rfl (by omega)) rfl rfl rfl ?_
  refine LL.nilS ?_
  refine CC.no rfl ?_
  refine CC.skip ?_
  refine EE.thenN ?_
  refine CC.seq ?_
  refine CC.region ?_
  refine LL.val (R.move rfl rfl) rfl rfl rfl ?_
  refine LL.val (R.nil rfl rfl) rfl rfl rfl ?_
  refine LL.val (R.field rfl rfl (I.fld rfl)) rfl rfl rfl ?_
  refine LL.val (R.move rfl rfl) rfl rfl rfl ?_
  refine LL.val (R.move rfl rfl) rfl rfl rfl ?_
  (refine LL.call (R.call rfl rfl rfl) rfl rfl rfl (put_any m gn N j v hr hn hl hN hc) ?_; rintro e W5 ⟨rfl, rn, g5, z5⟩; refine ⟨_, rfl, ?_⟩)
  refine LL.nilS ?_
  refine CC.seq ?_
  refine CC.region ?_
  refine LL.val (R.assign rfl rfl) rfl rfl rfl ?_
  refine LL.nilS ?_
  refine CC.ret ?_
  refine EE.ret _ rfl rfl ?_
  exact ⟨rfl, ⟨hr.gr g5 n1, rn, by rw [set_last (u := wrC c (j % 8) v) hc rfl]; exact M.last.gr g5 (Ne.symm n4), by rw [qF_set (u := wrC c (j % 8) v) hc rfl, nQ_set (u := wrC c (j % 8) v) hc rfl]; exact M.qs.gr g5 (Ne.symm n5), by rw [List.length_set]; exact hl, h0, hN, M.ne⟩, km_gr (km_bel q) g5 (.inl rfl)⟩
theorem store_F (w : World) (m gn gl qb N : Nat) (a v : Int) {s : List Cl} (M : Mem w m gn gl qb N s) (ha : a < 0 ∨ ((N * 8 : Nat) : Int) ≤ a) :
    Calls Try.prog 22 #[.pointer (some ⟨m, 0, none⟩), .int .i64 a, .int .u64 v] w fun e w' => e = .returned (.int .i64 4) ∧ Below w.heap.size w w' := by
  have q := Below.refl w.heap.size w
  have hr := M.row
  have h0 := M.pos
  have hN := M.le
  refine X.fn Try.func22 rfl (n := 20) rfl rfl ?_
  refine CC.seq ?_
  refine CC.region ?_
  refine LL.val (R.assign rfl rfl) rfl rfl rfl ?_
  refine LL.nilS ?_
  refine CC.seq ?_
  refine CC.seq ?_
  refine CC.region ?_
  refine LL.val (R.move rfl rfl) rfl rfl rfl ?_
  refine LL.val (R.move rfl rfl) rfl rfl rfl ?_
  refine LL.call (R.call rfl rfl rfl) rfl rfl rfl (hasWord_F _ _ _ _ (by first | assumption | omega) (by first | assumption | omega) (by first | assumption | omega) (by first | assumption | omega)) ?_
  rintro e W2 ⟨rfl, b1⟩
  refine ⟨_, rfl, ?_⟩
  have zb1 := b1.size
  replace M := M.up b1
  replace q := q.trans (b1.mono q.size)
  replace hr := hr.up b1
  refine LL.val (R.assign rfl rfl) rfl rfl rfl ?_
  refine LL.nilS ?_
  refine CC.seq ?_
  refine CC.region ?_
  refine LL.val (R.move rfl rfl) rfl rfl rfl ?_
  refine LL.val (R.neT rfl rfl rfl (by omega)) rfl rfl rfl ?_
  refine LL.nilS ?_
  refine CC.yes rfl ?_
  refine CC.seq ?_
  refine CC.region ?_
  refine LL.val (R.move rfl rfl) rfl rfl rfl ?_
  refine LL.val (R.assign rfl rfl) rfl rfl rfl ?_
  refine LL.nilS ?_
  refine CC.ret ?_
  refine EE.thenR ?_
  refine EE.ret _ rfl rfl ?_
  exact ⟨rfl, q⟩
theorem flush_F (w : World) (m gn gl qb N : Nat) (a : Int) {s : List Cl} (M : Mem w m gn gl qb N s) (ha : a < 0 ∨ (N : Int) ≤ a) :
    Calls Try.prog 23 #[.pointer (some ⟨m, 0, none⟩), .int .i64 a] w fun e w' => e = .returned (.int .i64 4) ∧ Below w.heap.size w w' := by
  have q := Below.refl w.heap.size w
  have hr := M.row
  have h0 := M.pos
  have hN := M.le
  refine X.fn Try.func23 rfl (n := 25) rfl rfl ?_
  refine CC.seq ?_
  refine CC.region ?_
  refine LL.val (R.assign rfl rfl) rfl rfl rfl ?_
  refine LL.nilS ?_
  refine CC.seq ?_
  refine CC.seq ?_
  refine CC.region ?_
  refine LL.val (R.move rfl rfl) rfl rfl rfl ?_
  refine LL.val (R.move rfl rfl) rfl rfl rfl ?_
  refine LL.call (R.call rfl rfl rfl) rfl rfl rfl (hasLine_F _ _ _ _ (by first | assumption | omega) (by first | assumption | omega) (by first | assumption | omega) (by first | assumption | omega)) ?_
  rintro e W2 ⟨rfl, b1⟩
  refine ⟨_, rfl, ?_⟩
  have zb1 := b1.size
  replace M := M.up b1
  replace q := q.trans (b1.mono q.size)
  replace hr := hr.up b1
  refine LL.val (R.assign rfl rfl) rfl rfl rfl ?_
  refine LL.nilS ?_
  refine CC.seq ?_
  refine CC.region ?_
  refine LL.val (R.move rfl rfl) rfl rfl rfl ?_
  refine LL.val (R.neT rfl rfl rfl (by omega)) rfl rfl rfl ?_
  refine LL.nilS ?_
  refine CC.yes rfl ?_
  refine CC.seq ?_
  refine CC.region ?_
  refine LL.val (R.move rfl rfl) rfl rfl rfl ?_
  refine LL.val (R.assign rfl rfl) rfl rfl rfl ?_
  refine LL.nilS ?_
  refine CC.ret ?_
  refine EE.thenR ?_
  refine EE.ret _ rfl rfl ?_
  exact ⟨rfl, q⟩
theorem evict_F (w : World) (m gn gl qb N : Nat) (a : Int) {s : List Cl} (M : Mem w m gn gl qb N s) (ha : a < 0 ∨ (N : Int) ≤ a) :
    Calls Try.prog 25 #[.pointer (some ⟨m, 0, none⟩), .int .i64 a] w fun e w' => e = .returned (.int .i64 4) ∧ Below w.heap.size w w' := by
  have q := Below.refl w.heap.size w
  have hr := M.row
  have h0 := M.pos
  have hN := M.le
  refine X.fn Try.func25 rfl (n := 31) rfl rfl ?_
  refine CC.seq ?_
  refine CC.region ?_
  refine LL.val (R.assign rfl rfl) rfl rfl rfl ?_
  refine LL.nilS ?_
  refine CC.seq ?_
  refine CC.seq ?_
  refine CC.region ?_
  refine LL.val (R.move rfl rfl) rfl rfl rfl ?_
  refine LL.val (R.move rfl rfl) rfl rfl rfl ?_
  refine LL.call (R.call rfl rfl rfl) rfl rfl rfl (hasLine_F _ _ _ _ (by first | assumption | omega) (by first | assumption | omega) (by first | assumption | omega) (by first | assumption | omega)) ?_
  rintro e W2 ⟨rfl, b1⟩
  refine ⟨_, rfl, ?_⟩
  have zb1 := b1.size
  replace M := M.up b1
  replace q := q.trans (b1.mono q.size)
  replace hr := hr.up b1
  refine LL.val (R.assign rfl rfl) rfl rfl rfl ?_
  refine LL.nilS ?_
  refine CC.seq ?_
  refine CC.region ?_
  refine LL.val (R.move rfl rfl) rfl rfl rfl ?_
  refine LL.val (R.neT rfl rfl rfl (by omega)) rfl rfl rfl ?_
  refine LL.nilS ?_
  refine CC.yes rfl ?_
  refine CC.seq ?_
  refine CC.region ?_
  refine LL.val (R.move rfl rfl) rfl rfl rfl ?_
  refine LL.val (R.assign rfl rfl) rfl rfl rfl ?_
  refine LL.nilS ?_
  refine CC.ret ?_
  refine EE.thenR ?_
  refine EE.ret _ rfl rfl ?_
  exact ⟨rfl, q⟩
theorem flush_T (w : World) (m gn gl qb N i : Nat) {s : List Cl} {c : Cl} (M : Mem w m gn gl qb N s) (hc : s[i]? = some c) :
    Calls Try.prog 23 #[.pointer (some ⟨m, 0, none⟩), .int .i64 (i : Int)] w fun e w' => e = .returned (.int .i64 0) ∧ Mem w' m gn gl qb N (s.set i (flC c)) ∧ Kept (KM w gn gl qb) w w' := by
  have q := Below.refl w.heap.size w
  have hr := M.row
  have hq := M.qs
  have hl := M.len
  have h0 := M.pos
  have hN := M.le
  have hi := (List.getElem?_eq_some_iff.1 hc).1
  have cs : CellsN w ⟨gn, 0 + i * 8, none⟩ 8 (nowE c) := by rw [Nat.zero_add]; exact M.now.elemN nowEnc hc
  obtain ⟨n1, n2, n3, n4, n5, n6⟩ := M.ne
  refine X.fn Try.func23 rfl (n := 25) rfl rfl ?_
  refine CC.seq ?_
  refine CC.region ?_
  refine LL.val (R.assign rfl rfl) rfl rfl rfl ?_
  refine LL.nilS ?_
  refine CC.seq ?_
  refine CC.seq ?_
  refine CC.region ?_
  refine LL.val (R.move rfl rfl) rfl rfl rfl ?_
  refine LL.val (R.move rfl rfl) rfl rfl rfl ?_
  refine LL.call (R.call rfl rfl rfl) rfl rfl rfl (hasLine_T _ _ _ _ (by first | assumption | omega) (by first | assumption | omega) (by first | assumption | omega) (by first | assumption | omega)) ?_
  rintro e W2 ⟨rfl, b1⟩
  refine ⟨_, rfl, ?_⟩
  have zb1 := b1.size
  replace M := M.up b1
  replace q := q.trans (b1.mono q.size)
  replace hr := hr.up b1
  replace hq := hq.up b1
  replace cs := cs.up b1
  refine LL.val (R.assign rfl rfl) rfl rfl rfl ?_
  refine LL.nilS ?_
  refine CC.seq ?_
  refine CC.region ?_
  refine LL.val (R.move rfl rfl) rfl rfl rfl ?_
  refine LL.val (R.neF rfl rfl rfl (by omega)) rfl rfl rfl ?_
  refine LL.nilS ?_
  refine CC.no rfl ?_
  refine CC.skip ?_
  refine EE.thenN ?_
  refine CC.seq ?_
  refine CC.tailB 13 (by kernel_rfl) (by kernel_rfl) (fun W5 b4 z6 => ?_)
  replace b1 := b1.trans (b4.mono b1.size)
  replace M := M.up b4
  replace q := q.trans (b4.mono q.size)
  replace hr := hr.up b4
  replace hq := hq.up b4
  replace cs := cs.up b4
  refine SS.val (R.move rfl rfl) rfl rfl ?_
  refine SS.val (R.nil rfl rfl) rfl rfl ?_
  refine SS.val (R.field rfl rfl (I.fld rfl)) rfl rfl ?_
  refine SS.val (R.load rfl rfl (I.ld1 rfl (RowL.cell hr rfl))) rfl rfl ?_
  refine SS.val (R.move rfl rfl) rfl rfl ?_
  refine SS.val (R.move rfl rfl) rfl rfl ?_
  refine SS.val (R.nil rfl rfl) rfl rfl ?_
  refine SS.val (R.field rfl rfl (I.fld rfl)) rfl rfl ?_
  refine SS.val (R.field rfl rfl (I.fld rfl)) rfl rfl ?_
  refine SS.val (R.load rfl rfl (I.ld1 rfl (RowL.cell hr rfl))) rfl rfl ?_
  refine SS.val (R.move rfl rfl) rfl rfl ?_
  refine SS.val (R.index rfl rfl rfl (I.ixS rfl (by omega))) rfl rfl ?_
  refine SS.val (R.load rfl rfl (I.ldM (by assumption) rfl rfl)) rfl rfl ?_
  refine SS.nil ?_
  (refine LL.mput (.inl rfl) rfl iKeys rfl hq i c.1 rfl rfl rfl rfl rfl ?_; intro W5 mq g5 z5)
  refine LL.nilS ?_
  refine CC.seq ?_
  refine CC.region ?_
  refine LL.val (R.assign rfl rfl) rfl rfl rfl ?_
  refine LL.nilS ?_
  refine CC.ret ?_
  refine EE.ret _ rfl rfl ?_
  exact ⟨rfl, ⟨hr.gr g5 n3, by rw [set_now (u := flC c) hc rfl]; exact M.now.gr g5 n5, by rw [set_last (u := flC c) hc rfl]; exact M.last.gr g5 n6, by rw [← nQ_puts (u := flC c) hc rfl, ← qF_put (u := flC c) hc rfl]; exact mq, by rw [List.length_set]; exact hl, h0, hN, M.ne⟩, km_gr (km_bel q) g5 (.inr (.inr rfl))⟩
theorem evict_T (w : World) (m gn gl qb N i : Nat) {s : List Cl} {c : Cl} (M : Mem w m gn gl qb N s) (hc : s[i]? = some c) :
    Calls Try.prog 25 #[.pointer (some ⟨m, 0, none⟩), .int .i64 (i : Int)] w fun e w' => e = .returned (.int .i64 0) ∧ Mem w' m gn gl qb N (s.set i (evC c)) ∧ Kept (KM w gn gl qb) w w' := by
  have q := Below.refl w.heap.size w
  have hr := M.row
  have hq := M.qs
  have ha := M.last
  have hl := M.len
  have h0 := M.pos
  have hN := M.le
  have hi := (List.getElem?_eq_some_iff.1 hc).1
  have cs : CellsN w ⟨gn, 0 + i * 8, none⟩ 8 (nowE c) := by rw [Nat.zero_add]; exact M.now.elemN nowEnc hc
  obtain ⟨n1, n2, n3, n4, n5, n6⟩ := M.ne
  refine X.fn Try.func25 rfl (n := 31) rfl rfl ?_
  refine CC.seq ?_
  refine CC.region ?_
  refine LL.val (R.assign rfl rfl) rfl rfl rfl ?_
  refine LL.nilS ?_
  refine CC.seq ?_
  refine CC.seq ?_
  refine CC.region ?_
  refine LL.val (R.move rfl rfl) rfl rfl rfl ?_
  refine LL.val (R.move rfl rfl) rfl rfl rfl ?_
  refine LL.call (R.call rfl rfl rfl) rfl rfl rfl (hasLine_T _ _ _ _ (by first | assumption | omega) (by first | assumption | omega) (by first | assumption | omega) (by first | assumption | omega)) ?_
  rintro e W2 ⟨rfl, b1⟩
  refine ⟨_, rfl, ?_⟩
  have zb1 := b1.size
  replace M := M.up b1
  replace q := q.trans (b1.mono q.size)
  replace hr := hr.up b1
  replace hq := hq.up b1
  replace ha := ha.up b1
  replace cs := cs.up b1
  refine LL.val (R.assign rfl rfl) rfl rfl rfl ?_
  refine LL.nilS ?_
  refine CC.seq ?_
  refine CC.region ?_
  refine LL.val (R.move rfl rfl) rfl rfl rfl ?_
  refine LL.val (R.neF rfl rfl rfl (by omega)) rfl rfl rfl ?_
  refine LL.nilS ?_
  refine CC.no rfl ?_
  refine CC.skip ?_
  refine EE.thenN ?_
  refine CC.seq ?_
  refine CC.tailB 14 (by kernel_rfl) (by kernel_rfl) (fun W5 b4 z6 => ?_)
  replace b1 := b1.trans (b4.mono b1.size)
  replace M := M.up b4
  replace q := q.trans (b4.mono q.size)
  replace hr := hr.up b4
  replace hq := hq.up b4
  replace ha := ha.up b4
  replace cs := cs.up b4
  refine SS.val (R.move rfl rfl) rfl rfl ?_
  refine SS.val (R.nil rfl rfl) rfl rfl ?_
  refine SS.val (R.field rfl rfl (I.fld rfl)) rfl rfl ?_
  refine SS.val (R.load rfl rfl (I.ld1 rfl (RowL.cell hr rfl))) rfl rfl ?_
  refine SS.val (R.move rfl rfl) rfl rfl ?_
  refine SS.val (R.move rfl rfl) rfl rfl ?_
  refine SS.val (R.nil rfl rfl) rfl rfl ?_
  refine SS.val (R.field rfl rfl (I.fld rfl)) rfl rfl ?_
  refine SS.val (R.field rfl rfl (I.fld rfl)) rfl rfl ?_
  refine SS.val (R.load rfl rfl (I.ld1 rfl (RowL.cell hr rfl))) rfl rfl ?_
  refine SS.val (R.move rfl rfl) rfl rfl ?_
  refine SS.val (R.index rfl rfl rfl (I.ixS rfl (by omega))) rfl rfl ?_
  refine SS.val (R.load rfl rfl (I.ldM (by assumption) rfl rfl)) rfl rfl ?_
  refine SS.val (R.index rfl rfl rfl (I.ixS rfl (by omega))) rfl rfl ?_
  refine SS.nil ?_
  (refine LL.storeR i (evC c) rfl rfl (by show 0 + i * 8 = i * 8; omega) rfl rfl lastEnc ha hi rfl rfl ?_; intro W5 ra g5 z5; replace hr := hr.gr g5 n2; replace hq := hq.gr g5 (Ne.symm n6))
  refine LL.nilS ?_
  refine CC.seq ?_
  refine CC.region ?_
  refine LL.val (R.move rfl rfl) rfl rfl rfl ?_
  refine LL.val (R.nil rfl rfl) rfl rfl rfl ?_
  refine LL.val (R.field rfl rfl (I.fld rfl)) rfl rfl rfl ?_
  refine LL.val (R.load rfl rfl (I.ld1 rfl (RowL.cell hr rfl))) rfl rfl rfl ?_
  refine LL.val (R.move rfl rfl) rfl rfl rfl ?_
  (refine LL.mdel rfl iKeys i rfl rfl hq rfl rfl ?_; intro W6 mq g6 z6)
  refine LL.nilS ?_
  refine CC.seq ?_
  refine CC.region ?_
  refine LL.val (R.assign rfl rfl) rfl rfl rfl ?_
  refine LL.nilS ?_
  refine CC.ret ?_
  refine EE.ret _ rfl rfl ?_
  exact ⟨rfl, ⟨hr.gr g6 n3, by rw [set_now (u := evC c) hc rfl]; exact (M.now.gr g5 n4).gr g6 n5, ra.gr g6 n6, by rw [← nQ_del (u := evC c) hc rfl, ← qF_put (u := evC c) hc rfl]; exact mq, by rw [List.length_set]; exact hl, h0, hN, M.ne⟩, km_gr (km_gr (km_bel q) g5 (.inr (.inl rfl))) g6 (.inr (.inr rfl))⟩
theorem info_parts_t {P : Program} {T e : TypeId} {z : Value} {k bytes : Nat} (hu : P.underlying T = some (.slice e)) (h : (P.info? e).map (fun i => (i.zero, i.size, i.bytes)) = some (some z, k, bytes)) (hz : z.cells.size = k) : ElT P T e z k bytes := by
  refine ⟨hu, ?_, hz⟩
  cases hi : P.info? e with
  | none => rw [hi] at h; cases h
  | some i =>
    rw [hi] at h
    simp only [Option.map_some, Option.some.injEq, Prod.mk.injEq] at h
    exact ⟨i, rfl, h.1, h.2.1, h.2.2⟩

def zC : Cl := (zL, zL, none)
theorem Try.infoLn : (Try.prog.info? 79).map (fun i => (i.zero, i.size, i.bytes)) = some (some (lV zL), 8, 64) := by kernel_rfl
theorem ElLn : ElT Try.prog 48 79 (lV zL) 8 64 := info_parts_t Try.underlying48 Try.infoLn rfl
theorem Try.infoU : (Try.prog.info? 37).map (fun i => (i.zero, i.size, i.bytes)) = some (some (.int .u64 0), 1, 8) := by kernel_rfl
theorem ElU : ElT Try.prog 22 37 (.int .u64 0) 1 8 := info_parts_t Try.underlying22 Try.infoU rfl
theorem ElU1 : El Try.prog 22 37 (.int .u64 0) 8 := ⟨Try.underlying22, info_parts Try.infoU, rfl⟩
set_option maxRecDepth 100000
set_option maxHeartbeats 2000000
theorem moved_any {α : Type} {enc : α → List Value} (E : Enc enc 8) (g N : Nat) (s : List α) (w : World) (h : RowL w g 79 (s.flatMap enc)) (hl : s.length = N) (hN : N ≤ 16384) :
    Calls Try.prog 36 #[.slice (some ⟨g, 0, none⟩) N N] w fun e w' => ∃ g', e = .returned (.slice (some ⟨g', 0, none⟩) N N) ∧ RowL w' g' 79 (s.flatMap enc) ∧ w.heap.size ≤ g' ∧ g' < w'.heap.size ∧ Below w.heap.size w w' := by
  have q := Below.refl w.heap.size w
  have hfl := E.flat s
  have cs : CellsN w ⟨g, 0, none⟩ (N * 8) (s.flatMap enc) := h.cellsN (by rw [List.drop_zero, List.take_of_length_le (by omega)]) (by omega)
  have hg := h.lt
  refine X.fn Try.func36 rfl (n := 11) rfl rfl ?_
  refine CC.seq ?_
  refine CC.region ?_
  refine LL.val (R.assign rfl rfl) rfl rfl rfl ?_
  refine LL.nilS ?_
  refine CC.seq ?_
  refine CC.region ?_
  refine LL.val (R.move rfl rfl) rfl rfl rfl ?_
  refine LL.val (R.len rfl rfl rfl rfl) rfl rfl rfl ?_
  have l32 := h.lt
  (refine LL.makeE ElLn rfl (by decide) rfl rfl rfl (Nat.le_refl _) (by omega) (by omega) rfl rfl ?_; intro W31 g1 eg1 r1 zg1 b28)
  have zb28 := b28.size
  replace h := h.up b28
  replace q := q.trans (b28.mono q.size)
  replace cs := cs.up b28
  refine LL.val (R.assign rfl rfl) rfl rfl rfl ?_
  refine LL.nilS ?_
  refine CC.seq ?_
  refine CC.region ?_
  refine LL.val (R.move rfl rfl) rfl rfl rfl ?_
  refine LL.val (R.move rfl rfl) rfl rfl rfl ?_
  (refine LL.copyE rfl rfl ElLn r1 cs (by simp [zL]) (E.ones s) rfl rfl ?_; intro W72 r2 gr70 zr2; clear r1)
  have zgr70 := gr70.size
  replace b28 := b28.grown gr70 b28.size (by rintro k ⟨⟩; omega)
  replace h := h.gr gr70 (by have := h.lt; omega)
  replace q := q.grown gr70 q.size (by rintro k ⟨⟩; omega)
  replace cs := cs.gr gr70 (by have := cs.lt; omega)
  refine LL.nilS ?_
  refine CC.seq ?_
  refine CC.region ?_
  refine LL.val (R.move rfl rfl) rfl rfl rfl ?_
  refine LL.val (R.assign rfl rfl) rfl rfl rfl ?_
  refine LL.nilS ?_
  refine CC.ret ?_
  refine EE.ret _ rfl rfl ?_
  exact ⟨g1, rfl, r2, by omega, r2.lt, q⟩
def uE (x : Nat) : List Value := [.int .u64 (x : Int)]
theorem uEnc : Enc uE 1 := ⟨fun _ => rfl, fun t u hu => by
  simp only [uE, List.mem_cons, List.not_mem_nil, or_false] at hu
  subst hu
  rfl, by decide⟩
theorem flat_u (ws : List Nat) : ws.flatMap uE = ints .u64 ws := by
  induction ws with
  | nil => rfl
  | cons x ws ih => rw [List.flatMap_cons, ih]; rfl
/-- The words of lines. -/
def wdS (pr : Cl → Ln) (s : List Cl) : List Nat := s.flatMap fun c => (pr c).1
theorem wdS_len (pr : Cl → Ln) (s : List Cl) : (wdS pr s).length = s.length * 8 := by
  induction s with
  | nil => rfl
  | cons c s ih => unfold wdS at *; rw [List.flatMap_cons, List.length_append, ih, (pr c).2, List.length_cons]; omega
theorem wdS_succ (pr : Cl → Ln) {s : List Cl} {i : Nat} {c : Cl} (hc : s[i]? = some c) : wdS pr (s.take (i + 1)) = wdS pr (s.take i) ++ (pr c).1 := by
  unfold wdS
  rw [List.take_add_one, hc, List.flatMap_append]
  simp
theorem wdS_row (pr : Cl → Ln) (s : List Cl) : (s.flatMap fun c => lE (pr c)) = ints .u64 (wdS pr s) := by
  unfold wdS lE ints
  rw [List.map_flatMap]
theorem prEnc (pr : Cl → Ln) : Enc (fun c => lE (pr c)) 8 := ⟨fun _ => lE_len _, fun _ => lE_one _, by decide⟩
theorem ln_reads {x : Ln} {w : World} {g e : Nat} (h : RowL w g e (lE x)) : ReadsT uE 1 w (.slice (some ⟨g, 0, none⟩) 8 8) x.1 := by
  have := RowL.readsT uEnc (ts := x.1) (by rw [flat_u]; exact h) 8 (by rw [x.2]; omega)
  rw [x.2] at this
  exact this
theorem ln_cells {x : Ln} {w : World} {g e : Nat} (h : RowL w g e (lE x)) : CellsN w ⟨g, 0, none⟩ 8 (lE x) := h.cellsN (by rw [List.drop_zero, List.take_of_length_le (by rw [lE_len]; omega)]) (by rw [lE_len]; omega)
theorem flat_any (pr : Cl → Ln) (g N : Nat) (s : List Cl) (w : World) (h : RowL w g 79 (s.flatMap fun c => lE (pr c))) (hl : s.length = N) (hN : N ≤ 16384) :
    Calls Try.prog 54 #[.slice (some ⟨g, 0, none⟩) N N] w fun e w' => ∃ v, e = .returned v ∧ ReadsT uE 1 w' v (wdS pr s) ∧ Below w.heap.size w w' := by
  have q := Below.refl w.heap.size w
  have hh : ∀ W, Below w.heap.size w W → RowL W g 79 (s.flatMap fun c => lE (pr c)) := fun W b => h.below b h.lt
  clear h
  refine X.fn Try.func54 rfl (n := 21) rfl rfl ?_
  refine CC.seq ?_
  refine CC.region ?_
  refine LL.val (R.assign rfl rfl) rfl rfl rfl ?_
  refine LL.nilS ?_
  refine CC.seq ?_
  refine CC.region ?_
  refine LL.val (R.move rfl rfl) rfl rfl rfl ?_
  refine LL.val (R.len rfl rfl rfl rfl) rfl rfl rfl ?_
  refine LL.val (R.mulNc rfl rfl rfl rfl (by omega)) rfl rfl rfl ?_
  (refine LL.make (l := 0) (m := N * 8) ElU1 rfl rfl rfl (by omega) (by omega) (by omega) rfl rfl ?_; intro W20 g1 eg1 r1 zg1 b17)
  have zb17 := b17.size
  replace q := q.trans (b17.mono q.size)
  refine LL.val (R.assign rfl rfl) rfl rfl rfl ?_
  refine LL.nilS ?_
  refine CC.seq ?_
  refine CC.seq ?_
  refine CC.region ?_
  refine LL.val (R.move rfl rfl) rfl rfl rfl ?_
  refine LL.val (R.len rfl rfl rfl rfl) rfl rfl rfl ?_
  refine LL.val (R.move rfl rfl) rfl rfl rfl ?_
  refine LL.nilS ?_
  refine CC.block ?_
  have o := r1.own0 (enc := uE) (k := 1) (base := w.heap.size) (cap := N * 8) (by simp) (by omega) (by simp only [maxLen]; omega)
  have yq := q.size
  refine CC.loop (α := Nat) (fun i => [(3, .slice (some ⟨g1, 0, none⟩) (i * 8) (N * 8)), (10, .slice (some ⟨g, 0, none⟩) N N), (11, .int .i64 (N : Int)), (12, .int .i64 (i : Int))]) (fun i W => i ≤ N ∧ Below w.heap.size w W ∧ g1 < W.heap.size ∧ OwnsT uE 1 W w.heap.size 37 (.slice (some ⟨g1, 0, none⟩) (i * 8) (N * 8)) (wdS pr (s.take i))) (fun i => N - i) 0 ⟨by first | rfl | (rw [Nat.zero_mul]; rfl), rfl, rfl, rfl, trivial⟩ ⟨by show 0 ≤ N; omega, q, by omega, by rw [Nat.zero_mul]; exact o⟩ ?_
  clear r1 o q
  rintro i W ⟨hi, q, hg1, o⟩
  show CC none Try.prog _ 21 [] (sl [(3, .slice (some ⟨g1, 0, none⟩) (i * 8) (N * 8)), (10, .slice (some ⟨g, 0, none⟩) N N), (11, .int .i64 (N : Int)), (12, .int .i64 (i : Int))]) _ W
  by_cases hlt : i < N
  case neg =>
    obtain rfl : i = N := by omega
    rw [List.take_of_length_le (by omega)] at o
    refine CC.seq ?_
    refine CC.region ?_
    refine LL.val (R.ltF rfl rfl rfl (by omega)) rfl rfl rfl ?_
    refine LL.nilS ?_
    refine CC.seq ?_
    refine CC.no rfl ?_
    refine CC.exit ?_
    refine EE.thenX ?_
    refine EE.thenX ?_
    refine EE.inX ?_
    refine EE.thenN ?_
    refine CC.seq ?_
    refine CC.region ?_
    refine LL.val (R.move rfl rfl) rfl rfl rfl ?_
    refine LL.val (R.assign rfl rfl) rfl rfl rfl ?_
    refine LL.nilS ?_
    refine CC.ret ?_
    refine EE.ret _ rfl rfl ?_
    exact ⟨_, rfl, o.reads uEnc, q⟩
  obtain ⟨c, hc⟩ : ∃ c, s[i]? = some c := ⟨_, List.getElem?_eq_getElem (by omega)⟩
  have cs : CellsN W ⟨g, 0 + i * 8, none⟩ 8 (lE (pr c)) := by rw [Nat.zero_add]; exact RowL.elemN (enc := fun c => lE (pr c)) (x := c) (prEnc pr) (hh W q) hc
  have hp := (pr c).2
  have hs := wdS_succ pr hc
  refine CC.seq ?_
  refine CC.region ?_
  refine LL.val (R.ltT rfl rfl rfl (by omega)) rfl rfl rfl ?_
  refine LL.nilS ?_
  refine CC.seq ?_
  refine CC.yes rfl ?_
  refine CC.skip ?_
  refine EE.thenN ?_
  refine CC.seq ?_
  refine CC.block ?_
  refine CC.seq ?_
  refine CC.region ?_
  refine LL.val (R.index rfl rfl rfl (I.ixS rfl (by omega))) rfl rfl rfl ?_
  refine LL.val (R.load rfl rfl (I.ldM (by assumption) rfl rfl)) rfl rfl rfl ?_
  refine LL.alloc ([Value.int IntKind.u64 0, Value.int IntKind.u64 0, Value.int IntKind.u64 0, Value.int IntKind.u64 0, Value.int IntKind.u64 0, Value.int IntKind.u64 0, Value.int IntKind.u64 0, Value.int IntKind.u64 0]) rfl rfl rfl rfl rfl ?_
  intro Wb34 gb35 egb35 rb36 zb37 bb33
  replace q := q.trans (bb33.mono q.size)
  replace o := o.up bb33
  replace cs := cs.up bb33
  (refine LL.storeAll rfl rfl rfl rfl (lE_len _) (by assumption) rfl (lE_one _) rfl rfl ?_; intro Wb41 r5 grb39 z5)
  have zgrb39 := grb39.size
  replace bb33 := bb33.grown grb39 bb33.size (by rintro k ⟨⟩; omega)
  replace q := q.grown grb39 q.size (by rintro k ⟨⟩; omega)
  replace o := o.grown grb39 (fun e => by simp [Value.ownBlock] at e; omega)
  refine LL.nilS ?_
  refine CC.region ?_
  refine LL.val (R.move rfl rfl) rfl rfl rfl ?_
  refine LL.val (R.slice rfl rfl rfl rfl rfl (I.slA rfl)) rfl rfl rfl ?_
  (refine LL.appendF rfl rfl uEnc ElU o (ln_reads r5) 8 hp (by omega) (by omega) rfl rfl ?_; intro Wb65 o2 grb63)
  have zgrb63 := grb63.size
  replace r5 := r5.gr grb63 (by have := r5.lt; omega)
  replace q := q.grown grb63 q.size (by rintro k ⟨⟩; omega)
  refine LL.val (R.assign rfl rfl) rfl rfl rfl ?_
  refine LL.nil ?_
  refine EE.inN ?_
  refine EE.thenN ?_
  refine CC.region ?_
  refine LL.val (R.addNc rfl rfl rfl rfl (by omega)) rfl rfl rfl ?_
  refine LL.val (R.move rfl rfl) rfl rfl rfl ?_
  refine LL.nil ?_
  exact EE.round (i + 1) ⟨by show some (Value.slice _ (i * 8 + 8) _) = some (Value.slice _ ((i + 1) * 8) _); rw [Nat.add_mul], rfl, rfl, rfl, trivial⟩ ⟨by show i + 1 ≤ N; omega, q, by omega, by rw [hs, Nat.add_mul, Nat.one_mul]; exact o2⟩ (by show N - (i + 1) < N - i; omega)
/-- A line that stands, and lasts. -/
def nwC (x : Ln) : Cl := (x, x, none)
theorem nw_now (ls : List Ln) : (ls.map nwC).flatMap nowE = ls.flatMap lE := by
  rw [List.flatMap_map]; rfl
theorem nw_last (ls : List Ln) : (ls.map nwC).flatMap lastE = ls.flatMap lE := by
  rw [List.flatMap_map]; rfl
theorem nw_q (ls : List Ln) : qF (ls.map nwC) = fun _ => none := by
  funext i
  unfold qF
  rw [List.getElem?_map]
  cases ls[i]? <;> rfl
theorem nw_n (ls : List Ln) : nQ (ls.map nwC) = 0 := by
  unfold nQ
  rw [List.countP_map]
  induction ls with
  | nil => rfl
  | cons x ls ih => rw [List.countP_cons, ih]; rfl
set_option maxRecDepth 100000
set_option maxHeartbeats 2000000
theorem on_any (g N : Nat) (ls : List Ln) (w : World) (h : RowL w g 79 (ls.flatMap lE)) (hl : ls.length = N) (hN : N ≤ 16384) (h0 : 0 < N) :
    Calls Try.prog 48 #[.slice (some ⟨g, 0, none⟩) N N] w fun e w' => ∃ m gl qb, e = .returned (.pointer (some ⟨m, 0, none⟩)) ∧ Mem w' m g gl qb N (ls.map nwC) ∧ w.heap.size ≤ m ∧ w.heap.size ≤ gl ∧ w.heap.size ≤ qb ∧ Below w.heap.size w w' := by
  have q := Below.refl w.heap.size w
  have hg := h.lt
  refine X.fn Try.func48 rfl (n := 10) rfl rfl ?_
  refine CC.seq ?_
  refine CC.region ?_
  refine LL.val (R.assign rfl rfl) rfl rfl rfl ?_
  refine LL.nilS ?_
  refine CC.seq ?_
  refine CC.region ?_
  refine LL.val (R.move rfl rfl) rfl rfl rfl ?_
  refine LL.val (R.buildV rfl rfl (v := .agg #[Value.slice (some { block := g, off := 0 }) N N]) (fun _ => by kernel_rfl)) rfl rfl rfl ?_
  refine LL.val (R.move rfl rfl) rfl rfl rfl ?_
  refine LL.call (R.call rfl rfl rfl) rfl rfl rfl (moved_any lEnc _ _ _ _ (by first | assumption | omega) (by first | assumption | omega) (by first | assumption | omega)) ?_
  rintro e W27 ⟨g28, rfl, r29, l30, o31, b26⟩
  refine ⟨_, rfl, ?_⟩
  have zb26 := b26.size
  replace h := h.up b26
  replace q := q.trans (b26.mono q.size)
  have l37 := r29.lt
  have l38 := h.lt
  (refine LL.makeMap (R.makeMap0 rfl) rfl rfl rfl ?_; intro W36 qb eqb mk zqb b33; replace mk := mk Nat Ln (.int .i64) iK lV)
  have zb33 := b33.size
  replace r29 := r29.up b33
  replace b26 := b26.trans (b33.mono b26.size)
  replace h := h.up b33
  replace q := q.trans (b33.mono q.size)
  refine LL.val (R.buildV rfl rfl (v := .agg #[Value.slice (some { block := g, off := 0 }) N N, Value.slice (some { block := g28, off := 0 }) N N, Value.map (some qb)]) (fun _ => by kernel_rfl)) rfl rfl rfl ?_
  have l51 := r29.lt
  have l52 := h.lt
  refine LL.box [Value.slice (some { block := g, off := 0 }) N N, Value.slice (some { block := g28, off := 0 }) N N, Value.map (some qb)] rfl rfl rfl rfl rfl ?_
  intro W54 g55 eg55 r56 z57 b53
  replace b33 := b33.trans (b53.mono b33.size)
  replace mk := mk.up b53
  replace r29 := r29.up b53
  replace b26 := b26.trans (b53.mono b26.size)
  replace h := h.up b53
  replace q := q.trans (b53.mono q.size)
  refine LL.val (R.assign rfl rfl) rfl rfl rfl ?_
  refine LL.nilS ?_
  refine CC.ret ?_
  refine EE.ret _ rfl rfl ?_
  exact ⟨_, _, _, rfl, ⟨by assumption, by rw [nw_now]; exact h, by rw [nw_last]; assumption, by rw [nw_q, nw_n]; exact mk, by rw [List.length_map]; exact hl, h0, hN, by omega⟩, by omega, by omega, by omega, q⟩
theorem flat_rep (N : Nat) : (List.replicate N (ints .u64 zL.1)).flatten = (List.replicate N zL).flatMap lE := by
  unfold List.flatMap lE
  rw [List.map_replicate]
theorem new_T (N : Nat) (a : Int) (w : World) (ha : a = ((N * 8 : Nat) : Int)) (h0 : 0 < N) (hN : N ≤ 16384) :
    Calls Try.prog 20 #[.int .i64 a] w fun e w' => ∃ m gn gl qb, e = .returned (.tuple #[.pointer (some ⟨m, 0, none⟩), .int .i64 0]) ∧ Mem w' m gn gl qb N ((List.replicate N zL).map nwC) ∧ w.heap.size ≤ m ∧ w.heap.size ≤ gn ∧ w.heap.size ≤ gl ∧ w.heap.size ≤ qb ∧ Below w.heap.size w w' := by
  have q := Below.refl w.heap.size w
  subst ha
  have e8 : N * 8 / 8 = N := by omega
  refine X.fn Try.func20 rfl (n := 19) rfl rfl ?_
  refine CC.seq ?_
  refine CC.region ?_
  refine LL.val (R.assign rfl rfl) rfl rfl rfl ?_
  refine LL.val (R.assign rfl rfl) rfl rfl rfl ?_
  refine LL.nilS ?_
  refine CC.seq ?_
  refine CC.seq ?_
  refine CC.region ?_
  refine LL.val (R.move rfl rfl) rfl rfl rfl ?_
  refine LL.val (R.ltF rfl rfl rfl (by omega)) rfl rfl rfl ?_
  refine LL.val (R.move rfl rfl) rfl rfl rfl ?_
  refine LL.val (R.move rfl rfl) rfl rfl rfl ?_
  refine LL.val (R.gtF rfl rfl rfl (by omega)) rfl rfl rfl ?_
  refine LL.val (R.pick rfl rfl rfl) rfl rfl rfl ?_
  refine LL.val (R.move rfl rfl) rfl rfl rfl ?_
  refine LL.val (R.move rfl rfl) rfl rfl rfl ?_
  refine LL.val (R.remNc rfl rfl rfl rfl (by omega)) rfl rfl rfl ?_
  refine LL.val (R.neF rfl rfl rfl (by omega)) rfl rfl rfl ?_
  refine LL.val (R.pick rfl rfl rfl) rfl rfl rfl ?_
  refine LL.nilS ?_
  refine CC.no rfl ?_
  refine CC.skip ?_
  refine EE.thenN ?_
  refine CC.seq ?_
  refine CC.region ?_
  refine LL.val (R.move rfl rfl) rfl rfl rfl ?_
  refine LL.val (R.quoNc rfl rfl rfl rfl (by omega) (by omega)) rfl rfl rfl ?_
  (refine LL.makeE (l := N) (m := N) ElLn rfl (by decide) rfl (by show some (Value.int .i64 ((N * 8 / 8 : Nat) : Int)) = _; rw [e8]) (by show some (Value.int .i64 ((N * 8 / 8 : Nat) : Int)) = _; rw [e8]) (Nat.le_refl _) (by omega) (by omega) rfl rfl ?_; intro W64 g1 eg1 r1 zg1 b61; rw [flat_rep] at r1; have hrl : (List.replicate N zL).length = N := List.length_replicate)
  have zb61 := b61.size
  replace q := q.trans (b61.mono q.size)
  refine LL.call (R.call rfl rfl rfl) rfl rfl rfl (on_any _ _ _ _ (by first | assumption | omega) (by first | assumption | omega) (by first | assumption | omega) (by first | assumption | omega)) ?_
  rintro e W71 ⟨g73, k78, x76, rfl, h72, l74, o75, y77, b70⟩
  refine ⟨_, rfl, ?_⟩
  have zb70 := b70.size
  replace r1 := r1.up b70
  replace b61 := b61.trans (b70.mono b61.size)
  replace q := q.trans (b70.mono q.size)
  refine LL.val (R.assign rfl rfl) rfl rfl rfl ?_
  refine LL.val (R.assign rfl rfl) rfl rfl rfl ?_
  refine LL.nilS ?_
  refine CC.ret ?_
  refine EE.ret _ rfl rfl ?_
  exact ⟨_, _, _, _, rfl, by assumption, by omega, by omega, by omega, by omega, q⟩
--C pmem_New | new_F _ @w @p | ⟨rfl, @b⟩
theorem new_F (a : Int) (w : World) (ha : a < 8 ∨ 131072 < a ∨ a % 8 ≠ 0) :
    Calls Try.prog 20 #[.int .i64 a] w fun e w' => e = .returned (.tuple #[.pointer none, .int .i64 2]) ∧ Below w.heap.size w w' := by
  have q := Below.refl w.heap.size w
  refine X.fn Try.func20 rfl (n := 19) rfl rfl ?_
  refine CC.seq ?_
  refine CC.region ?_
  refine LL.val (R.assign rfl rfl) rfl rfl rfl ?_
  refine LL.val (R.assign rfl rfl) rfl rfl rfl ?_
  refine LL.nilS ?_
  refine CC.seq ?_
  refine CC.seq ?_
  refine CC.region ?_
  refine LL.val (R.move rfl rfl) rfl rfl rfl ?_
  refine LL.vsplit (fun h => R.ltT rfl rfl rfl h) (fun h => R.ltF rfl rfl rfl (Int.not_lt.1 h)) rfl rfl rfl (fun c1 => ?_) (fun c1 => ?_)
  refine LL.val (R.move rfl rfl) rfl rfl rfl ?_
  refine LL.skip rfl rfl ?_
  refine LL.skip rfl rfl ?_
  refine LL.val (R.pick rfl rfl rfl) rfl rfl rfl ?_
  refine LL.val (R.move rfl rfl) rfl rfl rfl ?_
  refine LL.skip rfl rfl ?_
  refine LL.skip rfl rfl ?_
  refine LL.skip rfl rfl ?_
  refine LL.val (R.pick rfl rfl rfl) rfl rfl rfl ?_
  refine LL.nilS ?_
  refine CC.yes rfl ?_
  refine CC.seq ?_
  refine CC.region ?_
  refine LL.val (R.assign rfl rfl) rfl rfl rfl ?_
  refine LL.val (R.assign rfl rfl) rfl rfl rfl ?_
  refine LL.nilS ?_
  refine CC.ret ?_
  refine EE.thenR ?_
  refine EE.ret _ rfl rfl ?_
  exact ⟨rfl, q⟩
  refine LL.val (R.move rfl rfl) rfl rfl rfl ?_
  refine LL.val (R.move rfl rfl) rfl rfl rfl ?_
  refine LL.vsplit (fun h => R.gtT rfl rfl rfl h) (fun h => R.gtF rfl rfl rfl (Int.not_lt.1 h)) rfl rfl rfl (fun c2 => ?_) (fun c2 => ?_)
  refine LL.val (R.pick rfl rfl rfl) rfl rfl rfl ?_
  refine LL.val (R.move rfl rfl) rfl rfl rfl ?_
  refine LL.skip rfl rfl ?_
  refine LL.skip rfl rfl ?_
  refine LL.skip rfl rfl ?_
  refine LL.val (R.pick rfl rfl rfl) rfl rfl rfl ?_
  refine LL.nilS ?_
  refine CC.yes rfl ?_
  refine CC.seq ?_
  refine CC.region ?_
  refine LL.val (R.assign rfl rfl) rfl rfl rfl ?_
  refine LL.val (R.assign rfl rfl) rfl rfl rfl ?_
  refine LL.nilS ?_
  refine CC.ret ?_
  refine EE.thenR ?_
  refine EE.ret _ rfl rfl ?_
  exact ⟨rfl, q⟩
  refine LL.val (R.pick rfl rfl rfl) rfl rfl rfl ?_
  refine LL.val (R.move rfl rfl) rfl rfl rfl ?_
  refine LL.val (R.move rfl rfl) rfl rfl rfl ?_
  refine LL.val (R.remIc rfl rfl rfl rfl (by omega) (by omega)) rfl rfl rfl ?_
  refine LL.val (R.neT rfl rfl rfl (by omega)) rfl rfl rfl ?_
  refine LL.val (R.pick rfl rfl rfl) rfl rfl rfl ?_
  refine LL.nilS ?_
  refine CC.yes rfl ?_
  refine CC.seq ?_
  refine CC.region ?_
  refine LL.val (R.assign rfl rfl) rfl rfl rfl ?_
  refine LL.val (R.assign rfl rfl) rfl rfl rfl ?_
  refine LL.nilS ?_
  refine CC.ret ?_
  refine EE.thenR ?_
  refine EE.ret _ rfl rfl ?_
  exact ⟨rfl, q⟩
/-- The words, line by line. -/
def lnAt (ws : List Nat) (i : Nat) : Ln := ⟨(List.range 8).map fun j => (ws[i * 8 + j]?).getD 0, by simp⟩
def lnS (N : Nat) (ws : List Nat) : List Ln := (List.range N).map (lnAt ws)
theorem lnS_len (N : Nat) (ws : List Nat) : (lnS N ws).length = N := by simp [lnS]
theorem lnS_at {N i : Nat} (ws : List Nat) (h : i < N) : (lnS N ws)[i]? = some (lnAt ws i) := by
  unfold lnS
  rw [List.getElem?_map, List.getElem?_range h]
  rfl
theorem lnAt_nil (i : Nat) : lnAt [] i = zL := Subtype.ext (by simp only [lnAt, zL, List.getElem?_nil, Option.getD_none]; rfl)
theorem lnS_nil (N : Nat) : lnS N [] = List.replicate N zL := by
  refine List.eq_replicate_iff.2 ⟨lnS_len _ _, fun b hb => ?_⟩
  obtain ⟨i, _, rfl⟩ := List.mem_map.1 hb
  exact lnAt_nil i
theorem lnS_succ {N k v : Nat} {ws : List Nat} (hl : ws.length = N * 8) (hv : ws[k]? = some v) : lnS N (ws.take (k + 1)) = (lnS N (ws.take k)).set (k / 8) ⟨(lnAt (ws.take k) (k / 8)).1.set (k % 8) v, by rw [List.length_set]; exact (lnAt _ _).2⟩ := by
  have hk := (List.getElem?_eq_some_iff.1 hv).1
  refine List.ext_getElem? fun i => ?_
  rw [List.getElem?_set]
  by_cases hi : i < N
  · rw [lnS_at _ hi, lnS_at _ hi]
    by_cases he : k / 8 = i
    · subst he
      rw [if_pos rfl, if_pos (by rw [lnS_len]; omega)]
      congr 1
      refine Subtype.ext ?_
      simp only [lnAt]
      refine List.ext_getElem? fun j => ?_
      rw [List.getElem?_map, List.getElem?_set, List.length_map, List.length_range, List.getElem?_map]
      by_cases hj : j < 8
      · rw [List.getElem?_range hj]
        by_cases hjk : k % 8 = j
        · subst hjk
          rw [if_pos rfl, if_pos (by omega)]
          simp only [Option.map_some]
          rw [show k / 8 * 8 + k % 8 = k by omega, List.getElem?_take, if_pos (by omega), hv]
          rfl
        · rw [if_neg hjk]
          simp only [Option.map_some]
          rw [List.getElem?_take, List.getElem?_take]
          by_cases h1 : k / 8 * 8 + j < k
          · rw [if_pos (by omega), if_pos h1]
          · rw [if_neg (by omega), if_neg h1]
      · rw [List.getElem?_eq_none (l := List.range 8) (by simp; omega)]
        by_cases hjk : k % 8 = j
        · omega
        · rw [if_neg hjk]
          rfl
    · rw [if_neg he]
      congr 1
      refine Subtype.ext ?_
      simp only [lnAt]
      refine List.map_congr_left fun j hj => ?_
      have hj := List.mem_range.1 hj
      rw [List.getElem?_take, List.getElem?_take]
      by_cases h1 : i * 8 + j < k
      · rw [if_pos (by omega), if_pos h1]
      · rw [if_neg (by omega), if_neg h1]
  · rw [List.getElem?_eq_none (by rw [lnS_len]; omega), if_neg (by omega), List.getElem?_eq_none (by rw [lnS_len]; omega)]
def mdC (x : Ln) : Cl := (x, zL, none)
theorem md_now (ls : List Ln) : (ls.map mdC).flatMap nowE = ls.flatMap lE := by
  rw [List.flatMap_map]; rfl
theorem md_q (ls : List Ln) : qF (ls.map mdC) = fun _ => none := by
  funext i
  unfold qF
  rw [List.getElem?_map]
  cases ls[i]? <;> rfl
theorem md_n (ls : List Ln) : nQ (ls.map mdC) = 0 := by
  unfold nQ
  rw [List.countP_map]
  induction ls with
  | nil => rfl
  | cons x ls ih => rw [List.countP_cons, ih]; rfl
theorem Mem.put {w w' : World} {m gn gl qb N i : Nat} {s : List Cl} {c u : Cl} (M : Mem w m gn gl qb N s) (hc : s[i]? = some c) (rn : RowL w' gn 79 ((s.set i u).flatMap nowE)) (g : w.grownBy w' (some gn)) (h1 : lastE u = lastE c) (h2 : u.2.2 = c.2.2) : Mem w' m gn gl qb N (s.set i u) := by
  obtain ⟨n1, n2, n3, n4, n5, n6⟩ := M.ne
  exact ⟨M.row.gr g n1, rn, by rw [set_last (u := u) hc h1]; exact M.last.gr g (Ne.symm n4), by rw [qF_set (u := u) hc h2, nQ_set (u := u) hc h2]; exact M.qs.gr g (Ne.symm n5), by rw [List.length_set]; exact M.len, M.pos, M.le, M.ne⟩
def ofS (N : Nat) (ws : List Nat) : List Cl := (lnS N ws).map nwC
theorem of_T (a : Option Addr) (L cp N : Nat) (ws : List Nat) (w : World) (hv : ReadsT uE 1 w (.slice a L cp) ws) (hL : L = N * 8) (h0 : 0 < N) (hN : N ≤ 16384) :
    Calls Try.prog 11 #[.slice a L cp] w fun e w' => ∃ m gn gl qb, e = .returned (.tuple #[.pointer (some ⟨m, 0, none⟩), .int .i64 0]) ∧ Mem w' m gn gl qb N (ofS N ws) ∧ w.heap.size ≤ m ∧ w.heap.size ≤ gn ∧ w.heap.size ≤ gl ∧ w.heap.size ≤ qb ∧ Below w.heap.size w w' := by
  have q := Below.refl w.heap.size w
  have hlen : ws.length = L := by obtain ⟨_, _, e, _⟩ := hv; cases e; rfl
  have hvF : ∀ W, Below w.heap.size w W → ReadsT uE 1 W (.slice a L cp) ws := fun W hb => hv.up hb
  clear hv
  refine X.fn Try.func11 rfl (n := 41) rfl rfl ?_
  refine CC.seq ?_
  refine CC.region ?_
  refine LL.val (R.assign rfl rfl) rfl rfl rfl ?_
  refine LL.val (R.assign rfl rfl) rfl rfl rfl ?_
  refine LL.nilS ?_
  refine CC.seq ?_
  refine CC.region ?_
  refine LL.val (R.move rfl rfl) rfl rfl rfl ?_
  refine LL.val (R.len rfl rfl rfl rfl) rfl rfl rfl ?_
  (refine LL.call (R.call rfl rfl rfl) rfl rfl rfl (new_T N (L : Int) _ (by rw [hL]) h0 hN) ?_; rintro e W20 ⟨m, gn, gl, qb, rfl, M, lm, ln, ll, lq, b17⟩; refine ⟨_, rfl, ?_⟩)
  have zb17 := b17.size
  replace q := q.trans (b17.mono q.size)
  refine LL.val (R.move rfl rfl) rfl rfl rfl ?_
  refine LL.val (R.extract rfl rfl rfl) rfl rfl rfl ?_
  refine LL.val (R.extract rfl rfl rfl) rfl rfl rfl ?_
  refine LL.val (R.assign rfl rfl) rfl rfl rfl ?_
  refine LL.val (R.assign rfl rfl) rfl rfl rfl ?_
  refine LL.nilS ?_
  refine CC.seq ?_
  refine CC.seq ?_
  refine CC.region ?_
  refine LL.val (R.move rfl rfl) rfl rfl rfl ?_
  refine LL.val (R.neF rfl rfl rfl (by omega)) rfl rfl rfl ?_
  refine LL.nilS ?_
  refine CC.no rfl ?_
  refine CC.skip ?_
  refine EE.thenN ?_
  refine CC.seq ?_
  refine CC.seq ?_
  refine CC.region ?_
  refine LL.val (R.move rfl rfl) rfl rfl rfl ?_
  refine LL.val (R.len rfl rfl rfl rfl) rfl rfl rfl ?_
  refine LL.val (R.move rfl rfl) rfl rfl rfl ?_
  refine LL.nilS ?_
  refine CC.block ?_
  have yq := q.size
  have hst : (List.replicate N zL).map nwC = (lnS N (ws.take 0)).map mdC := by
    rw [List.take_zero, lnS_nil, List.map_replicate, List.map_replicate]
    rfl
  rw [hst] at M
  have hmd : ∀ k i, i < N → ((lnS N (ws.take k)).map mdC)[i]? = some (mdC (lnAt (ws.take k) i)) := fun k i hi => by
    rw [List.getElem?_map, lnS_at _ hi]
    rfl
  refine CC.loop (α := Nat) (fun k => [(4, .pointer (some ⟨m, 0, none⟩)), (17, .slice a L cp), (18, .int .i64 (L : Int)), (19, .int .i64 (k : Int))]) (fun k W => k ≤ L ∧ Below w.heap.size w W ∧ Mem W m gn gl qb N ((lnS N (ws.take k)).map mdC)) (fun k => L - k) 0 ⟨rfl, rfl, rfl, rfl, trivial⟩ ⟨by show 0 ≤ L; omega, q, M⟩ ?_
  clear q M hst
  rintro k W ⟨hk, q, M⟩
  show CC none Try.prog _ 41 [] (sl [(4, .pointer (some ⟨m, 0, none⟩)), (17, .slice a L cp), (18, .int .i64 (L : Int)), (19, .int .i64 (k : Int))]) _ W
  obtain ⟨n1, n2, n3, n4, n5, n6⟩ := M.ne
  have yw := q.size
  by_cases hlt : k < L
  case neg =>
    obtain rfl : k = L := by omega
    have hr := M.row
    have hn := M.now
    rw [List.take_of_length_le (by omega)] at M hn
    have hml : ((lnS N ws).map mdC).length = N := by rw [List.length_map, lnS_len]
    have hq : MapK (.int .i64) iK lV W qb 0 (fun _ => none) := by have := M.qs; rwa [md_q, md_n] at this
    have lt := M.lts
    clear M
    refine CC.seq ?_
    refine CC.region ?_
    refine LL.val (R.ltF rfl rfl rfl (by omega)) rfl rfl rfl ?_
    refine LL.nilS ?_
    refine CC.seq ?_
    refine CC.no rfl ?_
    refine CC.exit ?_
    refine EE.thenX ?_
    refine EE.thenX ?_
    refine EE.inX ?_
    refine EE.thenN ?_
    refine CC.seq ?_
    refine CC.region ?_
    refine LL.val (R.move rfl rfl) rfl rfl rfl ?_
    refine LL.val (R.move rfl rfl) rfl rfl rfl ?_
    refine LL.val (R.nil rfl rfl) rfl rfl rfl ?_
    refine LL.val (R.field rfl rfl (I.fld rfl)) rfl rfl rfl ?_
    refine LL.val (R.field rfl rfl (I.fld rfl)) rfl rfl rfl ?_
    refine LL.val (R.load rfl rfl (I.ld1 rfl (RowL.cell hr rfl))) rfl rfl rfl ?_
    have la47 := hr.lt
    have la48 := hn.lt
    (refine LL.call (R.call rfl rfl rfl) rfl rfl rfl (moved_any nowEnc _ _ _ _ hn hml hN) ?_; rintro e Wa46 ⟨g2, rfl, rg2, lg2, lg3, ba43⟩; refine ⟨_, rfl, ?_⟩)
    have zba43 := ba43.size
    replace q := q.trans (ba43.mono q.size)
    replace hr := hr.up ba43
    replace hn := hn.up ba43
    replace hq := hq.up ba43
    refine LL.val (R.nil rfl rfl) rfl rfl rfl ?_
    refine LL.val (R.field rfl rfl (I.fld rfl)) rfl rfl rfl ?_
    refine LL.store rfl rfl rfl rfl hr (by exact Nat.le_of_ble_eq_true rfl) rfl rfl rfl rfl ?_
    intro Wa71 ra72 ba70 za73
    have hlba70 := hr.lt
    replace ra72 : RowL Wa71 _ 53 [Value.slice (some { block := gn, off := 0 }) N N, Value.slice (some { block := g2, off := 0 }) N N, Value.map (some qb)] := ra72
    clear hr
    replace rg2 := rg2.gr ba70 (by have := rg2.lt; omega)
    replace q := q.grown ba70 q.size (by rintro k ⟨⟩; omega)
    replace hn := hn.gr ba70 (by have := hn.lt; omega)
    replace hq := hq.gr ba70 (by have := hq.lt; omega)
    have hr := ra72
    clear ra72
    refine LL.nilS ?_
    refine CC.seq ?_
    refine CC.region ?_
    refine LL.val (R.move rfl rfl) rfl rfl rfl ?_
    refine LL.val (R.assign rfl rfl) rfl rfl rfl ?_
    refine LL.val (R.assign rfl rfl) rfl rfl rfl ?_
    refine LL.nilS ?_
    refine CC.ret ?_
    refine EE.ret _ rfl rfl ?_
    exact ⟨m, gn, g2, qb, rfl, ⟨by assumption, by rw [ofS, nw_now, ← md_now]; exact hn, by rw [ofS, nw_last, ← md_now]; exact rg2, by rw [ofS, nw_q, nw_n]; exact hq, by rw [ofS, List.length_map, lnS_len], h0, hN, by omega⟩, by omega, by omega, by omega, by omega, q⟩
  obtain ⟨v, hvk⟩ : ∃ v, ws[k]? = some v := ⟨_, List.getElem?_eq_getElem (by omega)⟩
  obtain ⟨b, off, rfl, hb, hcell⟩ := (hvF W q).one uEnc hvk
  have c1 : W.cell? ⟨b, off + k, none⟩ = some (.int .u64 (v : Int)) := hcell _ rfl
  have hc := hmd k (k / 8) (by omega)
  have hsx := lnS_succ (N := N) (by omega) hvk
  refine CC.seq ?_
  refine CC.region ?_
  refine LL.val (R.ltT rfl rfl rfl (by omega)) rfl rfl rfl ?_
  refine LL.nilS ?_
  refine CC.seq ?_
  refine CC.yes rfl ?_
  refine CC.skip ?_
  refine EE.thenN ?_
  refine CC.seq ?_
  refine CC.block ?_
  refine CC.seq ?_
  refine CC.region ?_
  refine LL.val (R.move rfl rfl) rfl rfl rfl ?_
  refine LL.val (R.index rfl rfl rfl (I.ixS1 rfl (by omega))) rfl rfl rfl ?_
  refine LL.val (R.load rfl rfl (I.ld1 rfl (by assumption))) rfl rfl rfl ?_
  refine LL.val (R.assign rfl rfl) rfl rfl rfl ?_
  refine LL.val (R.assign rfl rfl) rfl rfl rfl ?_
  refine LL.nilS ?_
  refine CC.region ?_
  refine LL.val (R.move rfl rfl) rfl rfl rfl ?_
  refine LL.val (R.nil rfl rfl) rfl rfl rfl ?_
  refine LL.val (R.field rfl rfl (I.fld rfl)) rfl rfl rfl ?_
  refine LL.val (R.move rfl rfl) rfl rfl rfl ?_
  refine LL.val (R.move rfl rfl) rfl rfl rfl ?_
  (refine LL.call (R.call rfl rfl rfl) rfl rfl rfl (put_any m gn N k v M.row M.now M.len M.le hc) ?_; rintro e Wb48 ⟨rfl, rn, grb46, z5⟩; refine ⟨_, rfl, ?_⟩; replace M := M.put hc rn grb46 rfl rfl)
  have zgrb46 := grb46.size
  replace q := q.grown grb46 q.size (by rintro k ⟨⟩; omega)
  refine LL.nil ?_
  refine EE.inN ?_
  refine EE.thenN ?_
  refine CC.region ?_
  refine LL.val (R.addNc rfl rfl rfl rfl (by omega)) rfl rfl rfl ?_
  refine LL.val (R.move rfl rfl) rfl rfl rfl ?_
  refine LL.nil ?_
  exact EE.round (k + 1) ⟨rfl, rfl, rfl, rfl, trivial⟩ ⟨by show k + 1 ≤ L; omega, q, by rw [hsx, List.map_set]; exact M⟩ (by show L - (k + 1) < L - k; omega)
--C pmem_Of | of_F _ _ _ @w @p @p | ⟨rfl, @b⟩
theorem of_F (a : Option Addr) (L cp : Nat) (w : World) (hL : L < 8 ∨ 131072 < L ∨ L % 8 ≠ 0) (hL2 : L ≤ 9223372036854775807) :
    Calls Try.prog 11 #[.slice a L cp] w fun e w' => e = .returned (.tuple #[.pointer none, .int .i64 2]) ∧ Below w.heap.size w w' := by
  have q := Below.refl w.heap.size w
  refine X.fn Try.func11 rfl (n := 41) rfl rfl ?_
  refine CC.seq ?_
  refine CC.region ?_
  refine LL.val (R.assign rfl rfl) rfl rfl rfl ?_
  refine LL.val (R.assign rfl rfl) rfl rfl rfl ?_
  refine LL.nilS ?_
  refine CC.seq ?_
  refine CC.region ?_
  refine LL.val (R.move rfl rfl) rfl rfl rfl ?_
  refine LL.val (R.len rfl rfl rfl rfl) rfl rfl rfl ?_
  refine LL.call (R.call rfl rfl rfl) rfl rfl rfl (new_F _ _ (by first | assumption | omega)) ?_
  rintro e W2 ⟨rfl, b1⟩
  refine ⟨_, rfl, ?_⟩
  have zb1 := b1.size
  replace q := q.trans (b1.mono q.size)
  refine LL.val (R.move rfl rfl) rfl rfl rfl ?_
  refine LL.val (R.extract rfl rfl rfl) rfl rfl rfl ?_
  refine LL.val (R.extract rfl rfl rfl) rfl rfl rfl ?_
  refine LL.val (R.assign rfl rfl) rfl rfl rfl ?_
  refine LL.val (R.assign rfl rfl) rfl rfl rfl ?_
  refine LL.nilS ?_
  refine CC.seq ?_
  refine CC.seq ?_
  refine CC.region ?_
  refine LL.val (R.move rfl rfl) rfl rfl rfl ?_
  refine LL.val (R.neT rfl rfl rfl (by omega)) rfl rfl rfl ?_
  refine LL.nilS ?_
  refine CC.yes rfl ?_
  refine CC.seq ?_
  refine CC.region ?_
  refine LL.val (R.move rfl rfl) rfl rfl rfl ?_
  refine LL.val (R.assign rfl rfl) rfl rfl rfl ?_
  refine LL.val (R.assign rfl rfl) rfl rfl rfl ?_
  refine LL.nilS ?_
  refine CC.ret ?_
  refine EE.thenR ?_
  refine EE.ret _ rfl rfl ?_
  exact ⟨rfl, q⟩
--C pmem_Memory_Image | image_any _ _ _ _ _ @w @p | ⟨@v, rfl, @h, @b⟩
theorem image_any (m gn gl qb N : Nat) (w : World) {s : List Cl} (M : Mem w m gn gl qb N s) : Calls Try.prog 28 #[.pointer (some ⟨m, 0, none⟩)] w fun e w' => ∃ v, e = .returned v ∧ ReadsT uE 1 w' v (wdS (fun c => c.1) s) ∧ Below w.heap.size w w' := by
  have q := Below.refl w.heap.size w
  have hr := M.row
  have hn : RowL w gn 79 (s.flatMap fun c => lE c.1) := M.now
  have hl := M.len
  have h0 := M.pos
  have hN := M.le
  refine X.fn Try.func28 rfl (n := 11) rfl rfl ?_
  refine CC.seq ?_
  refine CC.region ?_
  refine LL.val (R.assign rfl rfl) rfl rfl rfl ?_
  refine LL.nilS ?_
  refine CC.seq ?_
  refine CC.seq ?_
  refine CC.region ?_
  refine LL.val (R.move rfl rfl) rfl rfl rfl ?_
  refine LL.call (R.call rfl rfl rfl) rfl rfl rfl (none_F _ _ (by first | assumption | omega) (by first | assumption | omega)) ?_
  rintro e W' ⟨rfl, rfl⟩
  refine ⟨_, rfl, ?_⟩
  refine LL.nilS ?_
  refine CC.no rfl ?_
  refine CC.skip ?_
  refine EE.thenN ?_
  refine CC.seq ?_
  refine CC.region ?_
  refine LL.val (R.move rfl rfl) rfl rfl rfl ?_
  refine LL.val (R.nil rfl rfl) rfl rfl rfl ?_
  refine LL.val (R.field rfl rfl (I.fld rfl)) rfl rfl rfl ?_
  refine LL.val (R.field rfl rfl (I.fld rfl)) rfl rfl rfl ?_
  refine LL.val (R.load rfl rfl (I.ld1 rfl (RowL.cell hr rfl))) rfl rfl rfl ?_
  refine LL.call (R.call rfl rfl rfl) rfl rfl rfl (flat_any (fun c => c.1) _ _ _ _ (by first | assumption | omega) (by first | assumption | omega) (by first | assumption | omega)) ?_
  rintro e W2 ⟨v4, rfl, h3, b1⟩
  refine ⟨_, rfl, ?_⟩
  have zb1 := b1.size
  replace M := M.up b1
  replace q := q.trans (b1.mono q.size)
  replace hr := hr.up b1
  replace hn := hn.up b1
  refine LL.val (R.assign rfl rfl) rfl rfl rfl ?_
  refine LL.nilS ?_
  refine CC.ret ?_
  refine EE.ret _ rfl rfl ?_
  exact ⟨_, rfl, by assumption, q⟩
--C pmem_Memory_Lasting | lasting_any _ _ _ _ _ @w @p | ⟨@v, rfl, @h, @b⟩
theorem lasting_any (m gn gl qb N : Nat) (w : World) {s : List Cl} (M : Mem w m gn gl qb N s) : Calls Try.prog 29 #[.pointer (some ⟨m, 0, none⟩)] w fun e w' => ∃ v, e = .returned v ∧ ReadsT uE 1 w' v (wdS (fun c => c.2.1) s) ∧ Below w.heap.size w w' := by
  have q := Below.refl w.heap.size w
  have hr := M.row
  have hn : RowL w gl 79 (s.flatMap fun c => lE c.2.1) := M.last
  have hl := M.len
  have h0 := M.pos
  have hN := M.le
  refine X.fn Try.func29 rfl (n := 10) rfl rfl ?_
  refine CC.seq ?_
  refine CC.region ?_
  refine LL.val (R.assign rfl rfl) rfl rfl rfl ?_
  refine LL.nilS ?_
  refine CC.seq ?_
  refine CC.seq ?_
  refine CC.region ?_
  refine LL.val (R.move rfl rfl) rfl rfl rfl ?_
  refine LL.call (R.call rfl rfl rfl) rfl rfl rfl (none_F _ _ (by first | assumption | omega) (by first | assumption | omega)) ?_
  rintro e W' ⟨rfl, rfl⟩
  refine ⟨_, rfl, ?_⟩
  refine LL.nilS ?_
  refine CC.no rfl ?_
  refine CC.skip ?_
  refine EE.thenN ?_
  refine CC.seq ?_
  refine CC.region ?_
  refine LL.val (R.move rfl rfl) rfl rfl rfl ?_
  refine LL.val (R.nil rfl rfl) rfl rfl rfl ?_
  refine LL.val (R.field rfl rfl (I.fld rfl)) rfl rfl rfl ?_
  refine LL.val (R.load rfl rfl (I.ld1 rfl (RowL.cell hr rfl))) rfl rfl rfl ?_
  refine LL.call (R.call rfl rfl rfl) rfl rfl rfl (flat_any (fun c => c.2.1) _ _ _ _ (by first | assumption | omega) (by first | assumption | omega) (by first | assumption | omega)) ?_
  rintro e W2 ⟨v4, rfl, h3, b1⟩
  refine ⟨_, rfl, ?_⟩
  have zb1 := b1.size
  replace M := M.up b1
  replace q := q.trans (b1.mono q.size)
  replace hr := hr.up b1
  replace hn := hn.up b1
  refine LL.val (R.assign rfl rfl) rfl rfl rfl ?_
  refine LL.nilS ?_
  refine CC.ret ?_
  refine EE.ret _ rfl rfl ?_
  exact ⟨_, rfl, by assumption, q⟩
--C pmem_Memory_Len | len_any _ _ _ _ _ @w @p | S
theorem len_any (m gn gl qb N : Nat) (w : World) {s : List Cl} (M : Mem w m gn gl qb N s) : Calls Try.prog 27 #[.pointer (some ⟨m, 0, none⟩)] w fun e w' => e = .returned (.int .i64 ((N * 8 : Nat) : Int)) ∧ w = w' := by
  have hr := M.row
  have h0 := M.pos
  have hN := M.le
  refine X.fn Try.func27 rfl (n := 9) rfl rfl ?_
  refine CC.seq ?_
  refine CC.region ?_
  refine LL.val (R.assign rfl rfl) rfl rfl rfl ?_
  refine LL.nilS ?_
  refine CC.seq ?_
  refine CC.seq ?_
  refine CC.region ?_
  refine LL.val (R.move rfl rfl) rfl rfl rfl ?_
  refine LL.call (R.call rfl rfl rfl) rfl rfl rfl (none_F _ _ (by first | assumption | omega) (by first | assumption | omega)) ?_
  rintro e W' ⟨rfl, rfl⟩
  refine ⟨_, rfl, ?_⟩
  refine LL.nilS ?_
  refine CC.no rfl ?_
  refine CC.skip ?_
  refine EE.thenN ?_
  refine CC.seq ?_
  refine CC.region ?_
  refine LL.val (R.move rfl rfl) rfl rfl rfl ?_
  refine LL.val (R.nil rfl rfl) rfl rfl rfl ?_
  refine LL.val (R.field rfl rfl (I.fld rfl)) rfl rfl rfl ?_
  refine LL.call (R.call rfl rfl rfl) rfl rfl rfl (words_any _ _ (by first | assumption | omega) (by first | assumption | omega)) ?_
  rintro e W' ⟨rfl, rfl⟩
  refine ⟨_, rfl, ?_⟩
  refine LL.val (R.assign rfl rfl) rfl rfl rfl ?_
  refine LL.nilS ?_
  refine CC.ret ?_
  refine EE.ret _ rfl rfl ?_
  exact ⟨rfl, rfl⟩
def feC (c : Cl) : Cl := (c.1, c.2.2.getD c.2.1, none)
theorem last_flat (s : List Cl) : s.flatMap lastE = (s.map fun c => c.2.1).flatMap lE := by
  rw [List.flatMap_map]; rfl
theorem qF_some {s : List Cl} {i : Nat} {x : Ln} (h : qF s i = some x) : ∃ c, s[i]? = some c ∧ c.2.2 = some x := by
  unfold qF at h
  cases hc : s[i]? with
  | none => rw [hc] at h; cases h
  | some c => rw [hc] at h; exact ⟨c, rfl, h⟩
theorem fe_q (s : List Cl) : qF (s.map feC) = fun _ => none := by
  funext i
  unfold qF
  rw [List.getElem?_map]
  cases s[i]? <;> rfl
theorem fe_n (s : List Cl) : nQ (s.map feC) = 0 := by
  unfold nQ
  rw [List.countP_map]
  induction s with
  | nil => rfl
  | cons x ls ih => rw [List.countP_cons, ih]; rfl
set_option maxRecDepth 100000
set_option maxHeartbeats 4000000
theorem fence_any (w : World) (m gn gl qb N : Nat) {s : List Cl} (M : Mem w m gn gl qb N s) :
    Calls Try.prog 24 #[.pointer (some ⟨m, 0, none⟩)] w fun e w' => e = .returned (.int .i64 0) ∧ Mem w' m gn gl qb N (s.map feC) ∧ Kept (KM w gn gl qb) w w' := by
  have hr := M.row
  have h0 := M.pos
  have hN := M.le
  have hn := M.now
  have ha := M.last
  have hq := M.qs
  have hl := M.len
  obtain ⟨n1, n2, n3, n4, n5, n6⟩ := M.ne
  have lt := M.lts
  have hok := Kept.refl (KM w gn gl qb) w
  clear M
  refine X.fn Try.func24 rfl (n := 28) rfl rfl ?_
  refine CC.seq ?_
  refine CC.region ?_
  refine LL.val (R.assign rfl rfl) rfl rfl rfl ?_
  refine LL.nilS ?_
  refine CC.seq ?_
  refine CC.seq ?_
  refine CC.region ?_
  refine LL.val (R.move rfl rfl) rfl rfl rfl ?_
  refine LL.call (R.call rfl rfl rfl) rfl rfl rfl (none_F _ _ (by first | assumption | omega) (by first | assumption | omega)) ?_
  rintro e W' ⟨rfl, rfl⟩
  refine ⟨_, rfl, ?_⟩
  refine LL.nilS ?_
  refine CC.no rfl ?_
  refine CC.skip ?_
  refine EE.thenN ?_
  refine CC.seq ?_
  refine CC.seq ?_
  refine CC.region ?_
  refine LL.val (R.move rfl rfl) rfl rfl rfl ?_
  refine LL.val (R.nil rfl rfl) rfl rfl rfl ?_
  refine LL.val (R.field rfl rfl (I.fld rfl)) rfl rfl rfl ?_
  refine LL.val (R.load rfl rfl (I.ld1 rfl (RowL.cell hr rfl))) rfl rfl rfl ?_
  have l54 := hr.lt
  have l55 := hn.lt
  have l56 := ha.lt
  (refine LL.mrange rfl rfl iKeys rfl hq rfl rfl ?_; clear hq; intro W53 it eit rg b50 zit; replace hok := hok.trans (bkept b50 fun j h => h.1))
  have zb50 := b50.size
  replace hr := hr.up b50
  replace hn := hn.up b50
  replace ha := ha.up b50
  have y57 := hok.size
  refine LL.nilS ?_
  refine CC.block ?_
  have yk := hok.size
  refine CC.loop (α := List Cl × (Nat → Prop) × Nat) (fun _ => [(0, .pointer (some ⟨m, 0, none⟩)), (11, .pointer (some ⟨it, 0, none⟩))]) (fun st W => Kept (KM w gn gl qb) w W ∧ it < W.heap.size ∧ RowL W m 53 [.slice (some ⟨gn, 0, none⟩) N N, .slice (some ⟨gl, 0, none⟩) N N, .map (some qb)] ∧ RowL W gn 79 (s.flatMap nowE) ∧ RowL W gl 79 (st.1.flatMap lastE) ∧
      RangeK (.int .i64) iK lV W qb it (nQ s) (qF s) st.2.1 st.2.2 ∧ st.1.length = N ∧ ∀ i c t, s[i]? = some c → st.1[i]? = some t → (st.2.1 i → t.2.1 = c.2.1) ∧ (¬ st.2.1 i → t.2.1 = c.2.2.getD c.2.1)) (fun st => st.2.2) (s, (fun i => qF s i ≠ none), nQ s) ⟨rfl, rfl, trivial⟩
    ⟨hok, by omega, hr, hn, ha, rg, hl, fun i c t h1 h2 => by
      simp only at h2
      rw [h1] at h2
      cases h2
      refine ⟨fun _ => rfl, fun h => ?_⟩
      simp only [ne_eq, Decidable.not_not, qF_at h1] at h
      rw [h]
      rfl⟩ ?_
  clear hok hr hn ha rg
  rintro ⟨ts, left, cnt⟩ W ⟨hok, hit, hr, hn, ha, rg, hlt, hall⟩
  simp only at ha rg hlt hall
  show CC none Try.prog _ 28 [] (sl [(0, .pointer (some ⟨m, 0, none⟩)), (11, .pointer (some ⟨it, 0, none⟩))]) _ W
  have yk2 := hok.size
  refine CC.seq ?_
  refine CC.region ?_
  refine LL.mnext rfl rfl iKeys rg rfl rfl (fun hno => ?_) (fun i x W5 cn hlf hfi rg2 hcn g5 z5 hen => ?_)
  · have hq := rg.map
    clear rg
    refine LL.val (R.extract rfl rfl rfl) rfl rfl rfl ?_
    refine LL.nilS ?_
    refine CC.seq ?_
    refine CC.no rfl ?_
    refine CC.exit ?_
    refine EE.thenX ?_
    refine EE.thenX ?_
    refine EE.inX ?_
    refine EE.thenN ?_
    refine CC.seq ?_
    refine CC.region ?_
    refine LL.val (R.move rfl rfl) rfl rfl rfl ?_
    refine LL.val (R.nil rfl rfl) rfl rfl rfl ?_
    refine LL.val (R.field rfl rfl (I.fld rfl)) rfl rfl rfl ?_
    refine LL.val (R.load rfl rfl (I.ld1 rfl (RowL.cell hr rfl))) rfl rfl rfl ?_
    (refine LL.mclear rfl rfl rfl hq rfl rfl ?_; intro W6 mq g6 z6)
    refine LL.nilS ?_
    refine CC.seq ?_
    refine CC.region ?_
    refine LL.val (R.assign rfl rfl) rfl rfl rfl ?_
    refine LL.nilS ?_
    refine CC.ret ?_
    refine EE.ret _ rfl rfl ?_
    refine ⟨rfl, ⟨hr.gr g6 n3, by rw [show (s.map feC).flatMap nowE = s.flatMap nowE by rw [List.flatMap_map]; rfl]; exact hn.gr g6 n5, ?_, by rw [fe_q, fe_n]; exact mq, by rw [List.length_map]; exact hl, h0, hN, by omega⟩, km_gr hok g6 (.inr (.inr rfl))⟩
    have e1 : (s.map feC).flatMap lastE = ts.flatMap lastE := by
      rw [last_flat, last_flat]
      congr 1
      refine List.ext_getElem? fun i => ?_
      rw [List.getElem?_map, List.getElem?_map, List.getElem?_map]
      rcases Nat.lt_or_ge i N with hi | hi
      · obtain ⟨c, hc⟩ : ∃ c, s[i]? = some c := ⟨_, List.getElem?_eq_getElem (by omega)⟩
        obtain ⟨t, ht⟩ : ∃ t, ts[i]? = some t := ⟨_, List.getElem?_eq_getElem (by omega)⟩
        rw [hc, ht]
        simp only [Option.map_some]
        rw [(hall i c t hc ht).2 (hno i)]
        rfl
      · rw [List.getElem?_eq_none (by omega), List.getElem?_eq_none (by omega)]
        rfl
    rw [e1]
    exact ha.gr g6 n6
  · obtain ⟨c, hc, hcx⟩ := qF_some hfi
    have hi := (List.getElem?_eq_some_iff.1 hc).1
    obtain ⟨t, ht⟩ : ∃ t, ts[i]? = some t := ⟨_, List.getElem?_eq_getElem (by omega)⟩
    replace hr := hr.gr g5 (by omega)
    replace hn := hn.gr g5 (by omega)
    replace ha := ha.gr g5 (by omega)
    replace hok : Kept (KM w gn gl qb) w W5 := hok.trans (grown_kept g5 (fun j hj => by have := hj.1; omega) fun j hj e => by cases e; have := hj.1; omega)
    clear rg
    refine LL.val (R.extract rfl rfl rfl) rfl rfl rfl ?_
    refine LL.nilS ?_
    refine CC.seq ?_
    refine CC.yes rfl ?_
    refine CC.skip ?_
    refine EE.thenN ?_
    refine CC.block ?_
    refine CC.seq ?_
    refine CC.region ?_
    (refine LL.val (R.entry rfl rfl hen) rfl rfl rfl ?_)
    refine LL.val (R.extract rfl rfl rfl) rfl rfl rfl ?_
    refine LL.val (R.extract rfl rfl rfl) rfl rfl rfl ?_
    have lc33 := hr.lt
    have lc34 := hn.lt
    have lc35 := ha.lt
    refine LL.alloc ([Value.int IntKind.u64 0, Value.int IntKind.u64 0, Value.int IntKind.u64 0, Value.int IntKind.u64 0, Value.int IntKind.u64 0, Value.int IntKind.u64 0, Value.int IntKind.u64 0, Value.int IntKind.u64 0]) rfl rfl rfl rfl rfl ?_
    intro Wc37 gc38 egc38 rc39 zc40 bc36
    replace rg2 := rg2.up bc36
    replace hr := hr.up bc36
    replace hn := hn.up bc36
    replace ha := ha.up bc36
    replace hok := hok.trans (bkept bc36 (fun j h => by have := h.1; have := hok.size; omega))
    have yc41 := hok.size
    refine LL.val (R.assign rfl rfl) rfl rfl rfl ?_
    (refine LL.storeAll rfl rfl rfl rfl (lE_len x) (by assumption) rfl (lE_one x) rfl rfl ?_; intro Wc53 r5 grc51 z5; have c5 := ln_cells r5)
    have zgrc51 := grc51.size
    replace bc36 := bc36.grown grc51 bc36.size (by rintro k ⟨⟩; omega)
    replace rg2 := rg2.gr grc51 (by have := rg2.lt; omega)
    replace hr := hr.gr grc51 (by have := hr.lt; omega)
    replace hn := hn.gr grc51 (by have := hn.lt; omega)
    replace ha := ha.gr grc51 (by have := ha.lt; omega)
    replace hok := hok.trans (grown_kept grc51 (fun j h => by have := h.1; have := hok.size; omega) (fun j h e => by cases e; have h2 := h.1; have h3 := h.2; omega))
    refine LL.nilS ?_
    refine CC.tailB 7 (by kernel_rfl) (by kernel_rfl) (fun Wc55 bc54 zc56 => ?_)
    replace r5 := r5.up bc54
    replace c5 := c5.up bc54
    replace bc36 := bc36.trans (bc54.mono bc36.size)
    replace rg2 := rg2.up bc54
    replace hr := hr.up bc54
    replace hn := hn.up bc54
    replace ha := ha.up bc54
    replace hok := hok.trans (bkept bc54 (fun j h => by have := h.1; have := hok.size; omega))
    have yc57 := hok.size
    refine SS.val (R.move rfl rfl) rfl rfl ?_
    refine SS.val (R.nil rfl rfl) rfl rfl ?_
    refine SS.val (R.field rfl rfl (I.fld rfl)) rfl rfl ?_
    refine SS.val (R.load rfl rfl (I.ld1 rfl (RowL.cell hr rfl))) rfl rfl ?_
    refine SS.val (R.move rfl rfl) rfl rfl ?_
    refine SS.val (R.load rfl rfl (I.ldM (by assumption) rfl rfl)) rfl rfl ?_
    refine SS.val (R.index rfl rfl rfl (I.ixS rfl (by omega))) rfl rfl ?_
    refine SS.nil ?_
    (refine LL.storeR i (t.1, x, t.2.2) rfl rfl (by show 0 + i * 8 = i * 8; omega) rfl rfl lastEnc ha (by omega) rfl rfl ?_; intro Wc121 ra grc119 z6)
    have zgrc119 := grc119.size
    replace r5 := r5.gr grc119 (by have := r5.lt; omega)
    replace c5 := c5.gr grc119 (by have := c5.lt; omega)
    replace rg2 := rg2.gr grc119 (by have := rg2.lt; omega)
    replace hr := hr.gr grc119 (by have := hr.lt; omega)
    replace hn := hn.gr grc119 (by have := hn.lt; omega)
    replace hok := hok.trans (grown_kept grc119 (fun j h => by have := h.1; have := hok.size; omega) (fun j h e => by cases e; have h2 := h.1; have h3 := h.2; omega))
    refine LL.nil ?_
    refine EE.inN ?_
    refine EE.round (ts.set i (t.1, x, t.2.2), (fun a => left a ∧ a ≠ i), cn) ⟨rfl, rfl, trivial⟩ ⟨hok, by omega, hr, hn, ra, rg2, by show (ts.set i _).length = N; rw [List.length_set]; exact hlt, ?_⟩ (by show cn < cnt; exact hcn)
    intro j c' t' hj ht'
    simp only at ht' ⊢
    rw [List.getElem?_set] at ht'
    by_cases hji : i = j
    · subst hji
      rw [if_pos rfl, if_pos (by omega)] at ht'
      cases ht'
      rw [hc] at hj
      cases hj
      refine ⟨fun h => absurd rfl h.2, fun _ => ?_⟩
      rw [hcx]
      rfl
    · rw [if_neg hji] at ht'
      have := hall j c' t' hj ht'
      exact ⟨fun h => this.1 h.1, fun h => this.2 fun hl => h ⟨hl, fun e => hji e.symm⟩⟩
end Go.Proofs.Ytajfffoaebjnlaa
