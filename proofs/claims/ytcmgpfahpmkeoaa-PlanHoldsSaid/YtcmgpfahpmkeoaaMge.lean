/- What the statements' walks use: Pc, Rn4, Open, OpenI, OpenT, RnS, Hl1, Hl2, Hl3, OpenU. -/
import Derived.Test.YtcmgpfahpmkeoaaRows
import Derived.ProofKit
import Derived.OpenShut
import Derived.ShutString
import Derived.ChangeOld
import Derived.ChangeSame
import Derived.Deep.Slices
import Derived.Deep.SlicePairs
import Derived.Lib.SmallJoins
import Derived.Test.YtcmgpfahpmkeoaaMga
import Derived.Test.YtcmgpfahpmkeoaaMgb
import Derived.Test.YtcmgpfahpmkeoaaMgc
import Derived.Test.YtcmgpfahpmkeoaaMgd
/- pmem: the document's memory; with, Store, Flush, Evict. pmem: the document's Of. pmem: the document's Fence, Words. pmem: the document's Words, Open. pmem: the document's Crash. pmem: the law's same, num, is; the document's Same. -/
namespace Go.Proofs.Ytcmgpfahpmkeoaa
set_option linter.unusedVariables false
set_option linter.unusedSimpArgs false
open Go.RowKit Go.Shelf
/-- The cells of a line of the document's. -/
def cX (a b q : Ln) (h : Bool) : List Value := lE a ++ (lE b ++ (lE q ++ [.bool h]))
theorem cE_cX (c : Cl) : cE c = cX c.1 c.2.1 (c.2.2.getD zL) c.2.2.isSome := rfl
theorem cX_len (a b q : Ln) (h : Bool) : (cX a b q h).length = 25 := by simp [cX, lE_len]
theorem cX_one (a b q : Ln) (h : Bool) : ∀ u ∈ cX a b q h, u.oneCell' = true := fun u hu => by
  simp only [cX, List.mem_append, List.mem_singleton] at hu
  rcases hu with h | h | h | rfl
  · exact lE_one _ u h
  · exact lE_one _ u h
  · exact lE_one _ u h
  · rfl
def stL (a : Ln) (j v : Nat) : Ln := ⟨a.1.set j v, by rw [List.length_set]; exact a.2⟩
theorem lE_st (a : Ln) (j v : Nat) : (lE a).set j (.int .u64 (v : Int)) = lE (stL a j v) := by
  unfold lE stL
  simp only [ints, List.map_set]
theorem cX_now {a b q : Ln} {h : Bool} {j v : Nat} (hj : j < 8) : (cX a b q h).set j (.int .u64 (v : Int)) = cX (stL a j v) b q h := by
  unfold cX
  rw [List.set_append_left _ _ (by rw [lE_len]; exact hj), lE_st]
theorem cX_last {a b q : Ln} {h : Bool} {j v : Nat} (hj : j < 8) : (cX a b q h).set (8 + j) (.int .u64 (v : Int)) = cX a (stL b j v) q h := by
  unfold cX
  rw [List.set_append_right _ _ (by rw [lE_len]; omega), lE_len, show 8 + j - 8 = j by omega, List.set_append_left _ _ (by rw [lE_len]; exact hj), lE_st]
theorem cX_has {a b q : Ln} {h h' : Bool} : (cX a b q h).set 24 (.bool h') = cX a b q h' := by
  unfold cX
  rw [List.set_append_right _ _ (by rw [lE_len]; omega), lE_len, List.set_append_right _ _ (by rw [lE_len]; omega), lE_len, List.set_append_right _ _ (by rw [lE_len]; omega), lE_len]
  rfl
theorem take_l {a : Ln} {r : List Value} {k : Nat} (h : 8 ≤ k) : (lE a ++ r).take k = lE a ++ r.take (k - 8) := by
  rw [List.take_append, List.take_of_length_le (by rw [lE_len]; exact h), lE_len]
theorem drop_l {a : Ln} {r : List Value} {k : Nat} (h : 8 ≤ k) : (lE a ++ r).drop k = r.drop (k - 8) := by
  rw [List.drop_append, List.drop_of_length_le (by rw [lE_len]; exact h), lE_len, List.nil_append]
theorem cX_q {a b q x : Ln} {h : Bool} : (cX a b q h).take 16 ++ lE x ++ (cX a b q h).drop (16 + (lE x).length) = cX a b x h := by
  unfold cX
  rw [lE_len, take_l (by omega), take_l (by omega), drop_l (by omega), drop_l (by omega), drop_l (by omega)]
  simp
theorem cX_l {a b q x : Ln} {h : Bool} : (cX a b q h).take 8 ++ lE x ++ (cX a b q h).drop (8 + (lE x).length) = cX a x q h := by
  unfold cX
  rw [lE_len, take_l (by omega), drop_l (by omega), drop_l (by omega)]
  simp
theorem cX_n {a b q x : Ln} {h : Bool} : (cX a b q h).take 0 ++ lE x ++ (cX a b q h).drop (0 + (lE x).length) = cX x b q h := by
  unfold cX
  rw [lE_len, drop_l (by omega)]
  simp
section
variable {w : World} {b o : Nat} {x y q : Ln} {h : Bool}
theorem CellsN.xn (c : CellsN w ⟨b, o, none⟩ 25 (cX x y q h)) : CellsN w ⟨b, o + 0, none⟩ 8 (lE x) := c.part 0 (by unfold cX; rw [List.drop_zero, take_l (Nat.le_refl _)]; simp) (by omega)
theorem CellsN.xl (c : CellsN w ⟨b, o, none⟩ 25 (cX x y q h)) : CellsN w ⟨b, o + 8, none⟩ 8 (lE y) := c.part 8 (by unfold cX; rw [drop_l (by omega), Nat.sub_self, List.drop_zero, take_l (Nat.le_refl _)]; simp) (by omega)
theorem CellsN.xq (c : CellsN w ⟨b, o, none⟩ 25 (cX x y q h)) : CellsN w ⟨b, o + 16, none⟩ 8 (lE q) := c.part 16 (by unfold cX; rw [drop_l (by omega), drop_l (by omega), show 16 - 8 - 8 = 0 from rfl, List.drop_zero, take_l (Nat.le_refl _)]; simp) (by omega)
theorem CellsN.xh (c : CellsN w ⟨b, o, none⟩ 25 (cX x y q h)) : w.cell? ⟨b, o + 24, none⟩ = some (.bool h) := c.cell (by
  unfold cX
  rw [List.getElem?_append_right (by rw [lE_len]; omega), lE_len, List.getElem?_append_right (by rw [lE_len]; omega), lE_len, List.getElem?_append_right (by rw [lE_len]; omega), lE_len]
  rfl)
theorem CellsN.w8 (c : CellsN w ⟨b, o, none⟩ 8 (lE x)) {j v : Nat} (hv : x.1[j]? = some v) : w.cell? ⟨b, o + j, none⟩ = some (.int .u64 (v : Int)) := c.cell (by simp [lE, ints, hv])
theorem cX_cells {g e : Nat} (r : RowL w g e (cX x y q h)) : CellsN w ⟨g, 0, none⟩ 25 (cX x y q h) := r.cellsN (by rw [List.drop_zero, List.take_of_length_le (by rw [cX_len]; omega)]) (by rw [cX_len]; omega)
end
theorem ln_form (x : Ln) : ∃ a0 a1 a2 a3 a4 a5 a6 a7 : Nat, x.1 = [a0, a1, a2, a3, a4, a5, a6, a7] := by
  obtain ⟨l, hl⟩ := x
  match l, hl with
  | [a0, a1, a2, a3, a4, a5, a6, a7], _ => exact ⟨a0, a1, a2, a3, a4, a5, a6, a7, rfl⟩
section
variable {P : Program} {w : World} {o : Oper} {n : Nat} {D : List Deferred} {M : Slots} {r : Option Nat} {ops : Array Oper} {Q : Exit → Act → World → Prop} {rest : List Oper} {x y : Operand} {t e g off : Nat} {a b q u : Ln} {h h' : Bool}
theorem LL.stNow (j v : Nat) (hj : j < 8) (ho : o.op = .store t x y) (hx : evM M x = some (.pointer (some ⟨g, off, none⟩))) (hoff : off = j) (hy : evM M y = some (.int .u64 (v : Int))) (hz : szB P t = some 1) (hr : RowL w g e (cX a b q h)) (hd : o.dst = none) (hg : wantB ops M o.guard = some true)
    (kk : ∀ w', RowL w' g e (cX (stL a j v) b q h) → w.grownBy w' (some g) → w'.heap.size = w.heap.size → LL r P ops Q n D M rest w') : LL r P ops Q n D M (o :: rest) w := by
  subst hoff
  refine LL.store ho hx hy hz hr (by rw [cX_len]; omega) rfl rfl hd hg ?_
  intro w' r' g' z'
  rw [cX_now hj] at r'
  exact kk w' r' g' z'
theorem LL.stQ (ho : o.op = .store t x y) (hx : evM M x = some (.pointer (some ⟨g, off, none⟩))) (hoff : off = 16) (hy : evM M y = some (.agg (lE u).toArray)) (hz : szB P t = some 8) (hr : RowL w g e (cX a b q h)) (hd : o.dst = none) (hg : wantB ops M o.guard = some true)
    (kk : ∀ w', RowL w' g e (cX a b u h) → w.grownBy w' (some g) → w'.heap.size = w.heap.size → LL r P ops Q n D M rest w') : LL r P ops Q n D M (o :: rest) w := by
  subst hoff
  refine LL.storeN (vs := lE u) ho hx hy (by rw [hz, lE_len]) hr (by rw [cX_len, lE_len]; omega) (lE_one _) hd hg ?_
  intro w' r' g' z'
  rw [cX_q] at r'
  exact kk w' r' g' z'
theorem LL.stH (ho : o.op = .store t x y) (hx : evM M x = some (.pointer (some ⟨g, off, none⟩))) (hoff : off = 24) (hy : evM M y = some (.bool h')) (hz : szB P t = some 1) (hr : RowL w g e (cX a b q h)) (hd : o.dst = none) (hg : wantB ops M o.guard = some true)
    (kk : ∀ w', RowL w' g e (cX a b q h') → w.grownBy w' (some g) → w'.heap.size = w.heap.size → LL r P ops Q n D M rest w') : LL r P ops Q n D M (o :: rest) w := by
  subst hoff
  refine LL.store ho hx hy hz hr (by rw [cX_len]; omega) rfl rfl hd hg ?_
  intro w' r' g' z'
  rw [cX_has] at r'
  exact kk w' r' g' z'
end
abbrev cV (c : Cl) : Value := .agg (cE c).toArray
set_option maxRecDepth 100000
set_option maxHeartbeats 8000000
/-- The document's memory, in a slice of its own. -/
def docP (s : List Cl) (N : Nat) (w0 : World) (e : Ending) (w : World) : Prop := ∃ g cap, e = .returned (.slice (some ⟨g, 0, none⟩) N cap) ∧ ReadsT cE 25 w (.slice (some ⟨g, 0, none⟩) N cap) s ∧ w0.heap.size ≤ g ∧ g < w.heap.size ∧ Below w0.heap.size w0 w
set_option maxRecDepth 100000
set_option maxHeartbeats 8000000
theorem right_T (a : Int) (w : World) (h : 8 ≤ a ∧ a ≤ 131072 ∧ a % 8 = 0) : Calls Try.prog 15 #[.int .i64 a] w fun e w' => e = .returned (.bool true) ∧ w = w' := by
  refine X.fn Try.func15 rfl (n := 14) rfl rfl ?_
  refine CC.seq ?_
  refine CC.region ?_
  refine LL.val (R.assign rfl rfl) rfl rfl rfl ?_
  refine LL.nilS ?_
  refine CC.seq ?_
  refine CC.region ?_
  refine LL.val (R.move rfl rfl) rfl rfl rfl ?_
  refine LL.val (R.geT rfl rfl rfl (by omega)) rfl rfl rfl ?_
  refine LL.val (R.move rfl rfl) rfl rfl rfl ?_
  refine LL.val (R.move rfl rfl) rfl rfl rfl ?_
  refine LL.val (R.leT rfl rfl rfl (by omega)) rfl rfl rfl ?_
  refine LL.val (R.pick rfl rfl rfl) rfl rfl rfl ?_
  refine LL.val (R.move rfl rfl) rfl rfl rfl ?_
  refine LL.val (R.move rfl rfl) rfl rfl rfl ?_
  refine LL.val (R.remIc rfl rfl rfl rfl (by omega) (by omega)) rfl rfl rfl ?_
  refine LL.val (R.eqT rfl rfl rfl (by omega)) rfl rfl rfl ?_
  refine LL.val (R.pick rfl rfl rfl) rfl rfl rfl ?_
  refine LL.val (R.assign rfl rfl) rfl rfl rfl ?_
  refine LL.nilS ?_
  refine CC.ret ?_
  refine EE.ret _ rfl rfl ?_
  exact ⟨rfl, rfl⟩
--C ref07_Right | right_F _ @w @p | S
theorem right_F (a : Int) (w : World) (h : a < 8 ∨ 131072 < a ∨ a % 8 ≠ 0) : Calls Try.prog 15 #[.int .i64 a] w fun e w' => e = .returned (.bool false) ∧ w = w' := by
  refine X.fn Try.func15 rfl (n := 14) rfl rfl ?_
  refine CC.seq ?_
  refine CC.region ?_
  refine LL.val (R.assign rfl rfl) rfl rfl rfl ?_
  refine LL.nilS ?_
  refine CC.seq ?_
  refine CC.region ?_
  refine LL.val (R.move rfl rfl) rfl rfl rfl ?_
  refine LL.vsplit (fun h => R.geT rfl rfl rfl h) (fun h => R.geF rfl rfl rfl (Int.not_le.1 h)) rfl rfl rfl (fun c1 => ?_) (fun c1 => ?_)
  refine LL.val (R.move rfl rfl) rfl rfl rfl ?_
  refine LL.val (R.move rfl rfl) rfl rfl rfl ?_
  refine LL.vsplit (fun h => R.leT rfl rfl rfl h) (fun h => R.leF rfl rfl rfl (Int.not_le.1 h)) rfl rfl rfl (fun c2 => ?_) (fun c2 => ?_)
  refine LL.val (R.pick rfl rfl rfl) rfl rfl rfl ?_
  refine LL.val (R.move rfl rfl) rfl rfl rfl ?_
  refine LL.val (R.move rfl rfl) rfl rfl rfl ?_
  refine LL.val (R.remIc rfl rfl rfl rfl (by omega) (by omega)) rfl rfl rfl ?_
  refine LL.val (R.eqF rfl rfl rfl (by omega)) rfl rfl rfl ?_
  refine LL.val (R.pick rfl rfl rfl) rfl rfl rfl ?_
  refine LL.val (R.assign rfl rfl) rfl rfl rfl ?_
  refine LL.nilS ?_
  refine CC.ret ?_
  refine EE.ret _ rfl rfl ?_
  exact ⟨rfl, rfl⟩
  refine LL.val (R.pick rfl rfl rfl) rfl rfl rfl ?_
  refine LL.val (R.move rfl rfl) rfl rfl rfl ?_
  refine LL.skip rfl rfl ?_
  refine LL.skip rfl rfl ?_
  refine LL.skip rfl rfl ?_
  refine LL.val (R.pick rfl rfl rfl) rfl rfl rfl ?_
  refine LL.val (R.assign rfl rfl) rfl rfl rfl ?_
  refine LL.nilS ?_
  refine CC.ret ?_
  refine EE.ret _ rfl rfl ?_
  exact ⟨rfl, rfl⟩
  refine LL.val (R.move rfl rfl) rfl rfl rfl ?_
  refine LL.skip rfl rfl ?_
  refine LL.skip rfl rfl ?_
  refine LL.val (R.pick rfl rfl rfl) rfl rfl rfl ?_
  refine LL.val (R.move rfl rfl) rfl rfl rfl ?_
  refine LL.skip rfl rfl ?_
  refine LL.skip rfl rfl ?_
  refine LL.skip rfl rfl ?_
  refine LL.val (R.pick rfl rfl rfl) rfl rfl rfl ?_
  refine LL.val (R.assign rfl rfl) rfl rfl rfl ?_
  refine LL.nilS ?_
  refine CC.ret ?_
  refine EE.ret _ rfl rfl ?_
  exact ⟨rfl, rfl⟩
section
variable {α : Type} {enc : α → List Value} {k : Nat} {P : Program} {w : World} {o : Oper} {n : Nat} {D : List Deferred} {M : Slots} {e : TypeId} {ops : Array Oper} {ok : World → Prop} {K : Slots → World → Prop}
theorem ZR.store1 {jj : Nat} {x y : Operand} {t : TypeId} {g off : Nat} {ts : List α} {v : Value} (i c : Nat) (s u : α) (hj : ops[jj]? = some o) (ho : o.op = .store t x y) (hx : evM M x = some (.pointer (some ⟨g, off, none⟩))) (hy : evM M y = some v) (hz : szB P t = some 1) (hoff : off = i * k + c) (E : Enc enc k)
    (hr : RowL w g e (ts.flatMap enc)) (hs : ts[i]? = some s) (hc : c < k) (hu : enc u = (enc s).set c v) (h1 : v.oneCell' = true) (hcs : v.cells = #[v]) (hd : o.dst = none) (hg : wantB ops M o.guard = some true)
    (kk : ∀ w', RowL w' g e ((ts.set i u).flatMap enc) → w.grownBy w' (some g) → w'.heap.size = w.heap.size → ok w' ∧ K M w') : SR P ops ok jj K n D M w := by
  have hi : i < ts.length := (List.getElem?_eq_some_iff.1 hs).1
  have hin : i * k + k ≤ ts.length * k := by
    have : (i + 1) * k ≤ ts.length * k := Nat.mul_le_mul_right _ hi
    rw [Nat.add_mul] at this
    omega
  have hf := E.flat ts
  subst hoff
  refine ZR.store hj ho hx hy hz hr (by omega) h1 hcs hd hg ?_
  intro w' r' g' z'
  refine kk w' ?_ g' z'
  rw [← E.setF ts i c s u v hs hc hu]
  exact r'
end
theorem cE_rep (N : Nat) : (List.replicate N (cE zC)).flatten = (List.replicate N zC).flatMap cE := by
  unfold List.flatMap
  rw [List.map_replicate]
def lstC (c : Cl) (j v : Nat) : Cl := (c.1, stL c.2.1 j v, c.2.2)
theorem cE_now (c : Cl) (j v : Nat) (hj : j < 8) : cE (wrC c j v) = (cE c).set j (.int .u64 (v : Int)) := by
  rw [cE_cX, cE_cX, cX_now hj]
  rfl
theorem cE_last (c : Cl) (j v : Nat) (hj : j < 8) : cE (lstC c j v) = (cE c).set (8 + j) (.int .u64 (v : Int)) := by
  rw [cE_cX, cE_cX, cX_last hj]
  rfl
/-- The first i of a list done. -/
def mixS {α : Type} (f : α → α) (s : List α) (i : Nat) : List α := (s.take i).map f ++ s.drop i
section
variable {α : Type} {f : α → α} {s : List α} {i : Nat} {c : α}
theorem mix_0 : mixS f s 0 = s := by simp [mixS]
theorem mix_end (h : s.length ≤ i) : mixS f s i = s.map f := by
  unfold mixS
  rw [List.take_of_length_le h, List.drop_of_length_le h, List.append_nil]
theorem mix_len : (mixS f s i).length = s.length := by
  unfold mixS
  rw [List.length_append, List.length_map, List.length_take, List.length_drop]
  omega
theorem mix_at (hc : s[i]? = some c) : (mixS f s i)[i]? = some c := by
  have h := (List.getElem?_eq_some_iff.1 hc).1
  unfold mixS
  rw [List.getElem?_append_right (by rw [List.length_map, List.length_take]; omega), List.length_map, List.length_take, List.getElem?_drop, show i + (i - min i s.length) = i by omega]
  exact hc
theorem mix_set (hc : s[i]? = some c) : (mixS f s i).set i (f c) = mixS f s (i + 1) := by
  obtain ⟨h, hv⟩ := List.getElem?_eq_some_iff.1 hc
  unfold mixS
  have hl : ((s.take i).map f).length = i := by rw [List.length_map, List.length_take]; omega
  rw [List.set_append_right _ _ (by omega), hl, Nat.sub_self, List.drop_eq_getElem_cons h, List.set_cons_zero, List.take_add_one, hc]
  simp
end
set_option maxRecDepth 100000
set_option maxHeartbeats 8000000
theorem LL.storeW {P : Program} {w : World} {o : Oper} {n : Nat} {D : List Deferred} {M : Slots} {r : Option Nat} {ops : Array Oper} {Q : Exit → Act → World → Prop} {rest : List Oper} {x y : Operand} {t g off e : Nat} {k : IntKind} {l : List Nat} (i v : Nat) (ho : o.op = .store t x y) (hx : evM M x = some (.pointer (some ⟨g, off, none⟩))) (hoff : off = i) (hy : evM M y = some (.int k (v : Int))) (hz : szB P t = some 1) (hr : RowL w g e (ints k l)) (hi : i < l.length) (hd : o.dst = none) (hg : wantB ops M o.guard = some true)
    (kk : ∀ w', RowL w' g e (ints k (l.set i v)) → w.grownBy w' (some g) → w'.heap.size = w.heap.size → LL r P ops Q n D M rest w') : LL r P ops Q n D M (o :: rest) w := by
  subst hoff
  refine LL.store ho hx hy hz hr (by rw [List.length_map]; exact hi) rfl rfl hd hg ?_
  intro w' r' g' z'
  refine kk w' ?_ g' z'
  rw [show ints k (l.set off v) = (ints k l).set off (.int k (v : Int)) from List.map_set ..]
  exact r'
/-- The first i words, and noughts. -/
def tzS (ws : List Nat) (L i : Nat) : List Nat := ws.take i ++ List.replicate (L - i) 0
theorem tzS_set {ws : List Nat} {L i v : Nat} (hl : ws.length = L) (hv : ws[i]? = some v) : (tzS ws L i).set i v = tzS ws L (i + 1) := by
  have hi := (List.getElem?_eq_some_iff.1 hv).1
  unfold tzS
  have ht : (ws.take i).length = i := by rw [List.length_take]; omega
  rw [List.set_append_right _ _ (by omega), ht, Nat.sub_self, show L - i = (L - (i + 1)) + 1 by omega, List.replicate_succ, List.set_cons_zero, List.take_add_one, hv]
  simp
theorem tzS_len {ws : List Nat} {L i : Nat} (hl : ws.length = L) (hi : i ≤ L) : (tzS ws L i).length = L := by
  unfold tzS
  rw [List.length_append, List.length_take, List.length_replicate]
  omega
theorem wdS_get (pr : Cl → Ln) : ∀ (s : List Cl) (i j : Nat), j < 8 → (wdS pr s)[i * 8 + j]? = (s[i]?).bind fun c => (pr c).1[j]?
  | [], i, j, _ => by simp [wdS]
  | c :: s, 0, j, hj => by
    unfold wdS
    rw [List.flatMap_cons, List.getElem?_append_left (by rw [(pr c).2]; omega), Nat.zero_mul, Nat.zero_add]
    rfl
  | c :: s, i + 1, j, hj => by
    have := wdS_get pr s i j hj
    unfold wdS at *
    rw [List.flatMap_cons, List.getElem?_append_right (by rw [(pr c).2]; omega), (pr c).2, show (i + 1) * 8 + j - 8 = i * 8 + j by omega, this]
    rfl
set_option maxRecDepth 100000
set_option maxHeartbeats 8000000
theorem R.rem8 {P : Program} {w : World} {n : Nat} {D : List Deferred} {M : Slots} {o : Oper} {x y : Operand} {t u : TypeId} {a : Nat} (ho : o.op = .binOp .rem t x y u) (hx : evM M x = some (.int .u8 (a : Int))) (hy : evM M y = some (.int .u8 3)) : Runs P n D M o w (.value (.int .u8 ((a % 3 : Nat) : Int))) w :=
  R.bin ho hx hy (by
    have e : ((a : Int).tmod 3) = ((a % 3 : Nat) : Int) := by rw [Int.tmod_eq_emod_of_nonneg (by omega)]; simp
    obtain ⟨q, hq⟩ : ∃ q, a % 3 = q := ⟨_, rfl⟩
    rw [hq] at e ⊢
    simp [eqGuard, binOp, Op.intDiv, e])
theorem opF_up {s : List Cl} : ∀ k, (opF s k).Pairwise (· < ·)
  | 0 => List.Pairwise.nil
  | k + 1 => by
    show (opF s k ++ _).Pairwise _
    refine List.pairwise_append.2 ⟨opF_up k, ?_, fun a ha b hb => ?_⟩
    · split
      · split <;> simp
      · simp
    · have h1 := (opF_lt a ha).1
      have : b = k := by
        split at hb
        · split at hb
          · exact List.mem_singleton.1 hb
          · cases hb
        · cases hb
      omega
theorem crJ_fresh {s : List Cl} {ps : List Nat} {k : Nat} {c : Cl} (hc : s[k]? = some c) : ∀ (j : Nat), (∀ i, i < j → (opS s)[i]? ≠ some k) → (crJ s ps j)[k]? = some c.2.1
  | 0, _ => by
    show (s.map fun c => c.2.1)[k]? = _
    rw [List.getElem?_map, hc]
    rfl
  | j + 1, h => by
    have ih := crJ_fresh (ps := ps) hc j fun i hi => h i (by omega)
    unfold crJ
    split
    · rename_i k' p h1 h2
      split
      · have : k' ≠ k := fun e => h j (by omega) (by rw [h1, e])
        rw [List.getElem?_set_ne this]
        exact ih
      · exact ih
    · exact ih
theorem op_first {s : List Cl} {j k : Nat} (h : (opS s)[j]? = some k) : ∀ i, i < j → (opS s)[i]? ≠ some k := fun i hi e => by
  obtain ⟨h1, e1⟩ := List.getElem?_eq_some_iff.1 h
  obtain ⟨h2, e2⟩ := List.getElem?_eq_some_iff.1 e
  have := List.pairwise_iff_getElem.1 (opF_up (s := s) s.length) i j h2 h1 hi
  have e3 : (opF s s.length)[i] = k := e2
  have e4 : (opF s s.length)[j] = k := e1
  omega
def lsC (d : Cl) (x : Ln) : Cl := (d.1, x, d.2.2)
theorem cE_ls (d : Cl) (x : Ln) : cE (lsC d x) = (cE d).take 8 ++ lE x ++ (cE d).drop (8 + (lE x).length) := cX_l.symm
theorem ls_map {ds : List Cl} {k : Nat} {d : Cl} {x : Ln} : (ds.set k (lsC d x)).map (fun c => c.2.1) = (ds.map fun c => c.2.1).set k x := by
  rw [List.map_set]
  rfl
def nlC (d : Cl) : Cl := nwC d.2.1
set_option maxRecDepth 100000
set_option maxHeartbeats 8000000
set_option maxRecDepth 100000
set_option maxHeartbeats 8000000
theorem dsame_any (a1 a2 : Option Addr) (n1 n2 c1 c2 : Nat) (l1 l2 : List Nat) (w : World) (h1 : ReadsT uE 1 w (.slice a1 n1 c1) l1) (h2 : ReadsT uE 1 w (.slice a2 n2 c2) l2) (e1 : l1.length = n1) (e2 : l2.length = n2) (hN : n1 ≤ 1048576) (hN2 : n2 ≤ 1048576) :
    Calls Try.prog 25 #[.slice a1 n1 c1, .slice a2 n2 c2] w fun e w' => e = .returned (.bool (decide (l1 = l2))) ∧ Below w.heap.size w w' := by
  have q := Below.refl w.heap.size w
  have hF1 : ∀ W, Below w.heap.size w W → ReadsT uE 1 W (.slice a1 n1 c1) l1 := fun W hb => h1.up hb
  have hF2 : ∀ W, Below w.heap.size w W → ReadsT uE 1 W (.slice a2 n2 c2) l2 := fun W hb => h2.up hb
  clear h1 h2
  by_cases hn : n1 = n2
  case neg =>
    rw [decide_eq_false fun e => hn (by rw [← e1, ← e2, e])]
    refine X.fn Try.func25 rfl (n := 26) rfl rfl ?_
    refine CC.seq ?_
    refine CC.region ?_
    refine LL.val (R.assign rfl rfl) rfl rfl rfl ?_
    refine LL.nilS ?_
    refine CC.seq ?_
    refine CC.seq ?_
    refine CC.region ?_
    refine LL.val (R.move rfl rfl) rfl rfl rfl ?_
    refine LL.val (R.len rfl rfl rfl rfl) rfl rfl rfl ?_
    refine LL.val (R.move rfl rfl) rfl rfl rfl ?_
    refine LL.val (R.len rfl rfl rfl rfl) rfl rfl rfl ?_
    refine LL.val (R.neT rfl rfl rfl (by omega)) rfl rfl rfl ?_
    refine LL.nilS ?_
    refine CC.yes rfl ?_
    refine CC.seq ?_
    refine CC.region ?_
    refine LL.val (R.assign rfl rfl) rfl rfl rfl ?_
    refine LL.nilS ?_
    refine CC.ret ?_
    refine EE.thenR ?_
    refine EE.ret _ rfl rfl ?_
    exact ⟨rfl, q⟩
  subst hn
  refine X.fn Try.func25 rfl (n := 26) rfl rfl ?_
  refine CC.seq ?_
  refine CC.region ?_
  refine LL.val (R.assign rfl rfl) rfl rfl rfl ?_
  refine LL.nilS ?_
  refine CC.seq ?_
  refine CC.seq ?_
  refine CC.region ?_
  refine LL.val (R.move rfl rfl) rfl rfl rfl ?_
  refine LL.val (R.len rfl rfl rfl rfl) rfl rfl rfl ?_
  refine LL.val (R.move rfl rfl) rfl rfl rfl ?_
  refine LL.val (R.len rfl rfl rfl rfl) rfl rfl rfl ?_
  refine LL.val (R.neF rfl rfl rfl (by omega)) rfl rfl rfl ?_
  refine LL.nilS ?_
  refine CC.no rfl ?_
  refine CC.skip ?_
  refine EE.thenN ?_
  refine CC.seq ?_
  refine CC.seq ?_
  refine CC.region ?_
  refine LL.val (R.assign rfl rfl) rfl rfl rfl ?_
  refine LL.nilS ?_
  refine CC.block ?_
  refine CC.loop (α := Nat) (fun i => [(0, .slice a1 n1 c1), (1, .slice a2 n1 c2), (5, .int .i64 (i : Int))]) (fun i W => i ≤ n1 ∧ Below w.heap.size w W ∧ l1.take i = l2.take i) (fun i => n1 - i) 0 ⟨rfl, rfl, rfl, trivial⟩ ⟨by show 0 ≤ n1; omega, q, rfl⟩ ?_
  clear q
  rintro i W ⟨hi, q, ht⟩
  show CC none Try.prog _ 26 [] (sl [(0, .slice a1 n1 c1), (1, .slice a2 n1 c2), (5, .int .i64 (i : Int))]) _ W
  by_cases hlt : i < n1
  case neg =>
    obtain rfl : i = n1 := by omega
    rw [List.take_of_length_le (by omega), List.take_of_length_le (by omega)] at ht
    rw [decide_eq_true ht]
    refine CC.seq ?_
    refine CC.seq ?_
    refine CC.region ?_
    refine LL.val (R.move rfl rfl) rfl rfl rfl ?_
    refine LL.val (R.move rfl rfl) rfl rfl rfl ?_
    refine LL.val (R.len rfl rfl rfl rfl) rfl rfl rfl ?_
    refine LL.val (R.ltF rfl rfl rfl (by omega)) rfl rfl rfl ?_
    refine LL.nilS ?_
    refine CC.no rfl ?_
    refine CC.exit ?_
    refine EE.thenX ?_
    refine EE.thenX ?_
    refine EE.inX ?_
    refine EE.thenN ?_
    refine CC.seq ?_
    refine CC.region ?_
    refine LL.val (R.assign rfl rfl) rfl rfl rfl ?_
    refine LL.nilS ?_
    refine CC.ret ?_
    refine EE.ret _ rfl rfl ?_
    exact ⟨rfl, q⟩
  obtain ⟨x, hx⟩ : ∃ x, l1[i]? = some x := ⟨_, List.getElem?_eq_getElem (by omega)⟩
  obtain ⟨y, hy⟩ : ∃ y, l2[i]? = some y := ⟨_, List.getElem?_eq_getElem (by omega)⟩
  obtain ⟨b1, o1, rfl, k1, _⟩ := (hF1 W q).one uEnc hx
  obtain ⟨b2, o2, rfl, k2, _⟩ := (hF2 W q).one uEnc hy
  have m1 : ∀ W', Below w.heap.size w W' → W'.cell? ⟨b1, o1 + i, none⟩ = some (.int .u64 (x : Int)) := fun W' b => by
    obtain ⟨_, _, e, _, cs⟩ := (hF1 W' b).one uEnc hx
    cases e
    exact cs _ rfl
  have m2 : ∀ W', Below w.heap.size w W' → W'.cell? ⟨b2, o2 + i, none⟩ = some (.int .u64 (y : Int)) := fun W' b => by
    obtain ⟨_, _, e, _, cs⟩ := (hF2 W' b).one uEnc hy
    cases e
    exact cs _ rfl
  by_cases hxy : x = y
  · refine CC.seq ?_
    refine CC.seq ?_
    refine CC.region ?_
    refine LL.val (R.move rfl rfl) rfl rfl rfl ?_
    refine LL.val (R.move rfl rfl) rfl rfl rfl ?_
    refine LL.val (R.len rfl rfl rfl rfl) rfl rfl rfl ?_
    refine LL.val (R.ltT rfl rfl rfl (by omega)) rfl rfl rfl ?_
    refine LL.nilS ?_
    refine CC.yes rfl ?_
    refine CC.skip ?_
    refine EE.thenN ?_
    refine CC.seq ?_
    refine CC.block ?_
    refine CC.seq ?_
    refine CC.quietB (by kernel_rfl) (by kernel_rfl) (fun Wc2 bc1 zc3 => ?_)
    replace q := q.trans (bc1.mono q.size)
    refine SS.val (R.move rfl rfl) rfl rfl ?_
    refine SS.val (R.move rfl rfl) rfl rfl ?_
    refine SS.val (R.index rfl rfl rfl (I.ixS1 rfl (by omega))) rfl rfl ?_
    (refine SS.val (R.load rfl rfl (I.ld1 rfl (m1 _ q))) rfl rfl ?_)
    refine SS.val (R.move rfl rfl) rfl rfl ?_
    refine SS.val (R.move rfl rfl) rfl rfl ?_
    refine SS.val (R.index rfl rfl rfl (I.ixS1 rfl (by omega))) rfl rfl ?_
    (refine SS.val (R.load rfl rfl (I.ld1 rfl (m2 _ q))) rfl rfl ?_)
    refine SS.val (R.neF rfl rfl rfl (by omega)) rfl rfl ?_
    refine SS.nilQ ?_
    refine EE.thenN ?_
    refine CC.no rfl ?_
    refine CC.skip ?_
    refine EE.inN ?_
    refine EE.thenN ?_
    refine CC.region ?_
    refine LL.val (R.move rfl rfl) rfl rfl rfl ?_
    refine LL.val (R.addNc rfl rfl rfl rfl (by omega)) rfl rfl rfl ?_
    refine LL.val (R.assign rfl rfl) rfl rfl rfl ?_
    refine LL.nil ?_
    exact EE.round (i + 1) ⟨rfl, rfl, rfl, trivial⟩ ⟨by show i + 1 ≤ n1; omega, q, by rw [List.take_add_one, List.take_add_one, hx, hy, ht, hxy]⟩ (by show n1 - (i + 1) < n1 - i; omega)
  · rw [decide_eq_false (fun e => hxy (by rw [e, hy] at hx; exact (Option.some.inj hx).symm))]
    refine CC.seq ?_
    refine CC.seq ?_
    refine CC.region ?_
    refine LL.val (R.move rfl rfl) rfl rfl rfl ?_
    refine LL.val (R.move rfl rfl) rfl rfl rfl ?_
    refine LL.val (R.len rfl rfl rfl rfl) rfl rfl rfl ?_
    refine LL.val (R.ltT rfl rfl rfl (by omega)) rfl rfl rfl ?_
    refine LL.nilS ?_
    refine CC.yes rfl ?_
    refine CC.skip ?_
    refine EE.thenN ?_
    refine CC.seq ?_
    refine CC.block ?_
    refine CC.seq ?_
    refine CC.quietB (by kernel_rfl) (by kernel_rfl) (fun Wd2 bd1 zd3 => ?_)
    replace q := q.trans (bd1.mono q.size)
    refine SS.val (R.move rfl rfl) rfl rfl ?_
    refine SS.val (R.move rfl rfl) rfl rfl ?_
    refine SS.val (R.index rfl rfl rfl (I.ixS1 rfl (by omega))) rfl rfl ?_
    (refine SS.val (R.load rfl rfl (I.ld1 rfl (m1 _ q))) rfl rfl ?_)
    refine SS.val (R.move rfl rfl) rfl rfl ?_
    refine SS.val (R.move rfl rfl) rfl rfl ?_
    refine SS.val (R.index rfl rfl rfl (I.ixS1 rfl (by omega))) rfl rfl ?_
    (refine SS.val (R.load rfl rfl (I.ld1 rfl (m2 _ q))) rfl rfl ?_)
    refine SS.val (R.neT rfl rfl rfl (by omega)) rfl rfl ?_
    refine SS.nilQ ?_
    refine EE.thenN ?_
    refine CC.yes rfl ?_
    refine CC.seq ?_
    refine CC.region ?_
    refine LL.val (R.assign rfl rfl) rfl rfl rfl ?_
    refine LL.nilS ?_
    refine CC.ret ?_
    refine EE.inR ?_
    refine EE.thenR ?_
    refine EE.thenR ?_
    refine EE.inR ?_
    refine EE.thenR ?_
    refine EE.ret _ rfl rfl ?_
    exact ⟨rfl, q⟩
/-- Equal lists are told the same. -/
theorem dsame_T (v1 v2 : Value) (l : List Nat) (w : World) (h1 : ReadsT uE 1 w v1 l) (h2 : ReadsT uE 1 w v2 l) (hN : l.length ≤ 1048576) : Calls Try.prog 25 #[v1, v2] w fun e w' => e = .returned (.bool true) ∧ Below w.heap.size w w' := by
  obtain ⟨a1, c1, rfl, _⟩ := h1.form rfl
  obtain ⟨a2, c2, rfl, _⟩ := h2.form rfl
  have := dsame_any a1 a2 _ _ c1 c2 l l w h1 h2 rfl rfl hN hN
  rwa [decide_eq_true rfl] at this
end Go.Proofs.Ytcmgpfahpmkeoaa

/- plan.Run refused; PlanRuns: the walk. -/
namespace Go.Proofs.Ytcmgpfahpmkeoaa
set_option linter.unusedVariables false
set_option linter.unusedSimpArgs false
open Go.RowKit Go.Shelf
set_option maxRecDepth 100000
set_option maxHeartbeats 8000000
theorem run_F (m gn gl qb N : Nat) {s : List Cl} (va : Value) (l : List Ac) (w : World) (M : Mem w m gn gl qb N s) (hl : l.length ≤ 4194304) (hf : fitAs N l = false) (ha : ReadsT aE 3 w va l) : Calls Try.prog 18 #[.pointer (some ⟨m, 0, none⟩), va] w fun e w' => e = .returned (.int .i64 2) ∧ Below w.heap.size w w' := by
  have hls := M.len
  have lts := M.lts
  have hN := M.le
  have h0 := M.pos
  have q := Below.refl w.heap.size w
  obtain ⟨n, en⟩ : ∃ n, l.length = n := ⟨_, rfl⟩
  obtain ⟨a, cp, rfl, _⟩ := ha.form en
  rw [en] at hl
  have hck := check_any (.slice a n cp) l w ha (by rw [en]; exact hl)
  have hMF : ∀ W, Below w.heap.size w W → Mem W m gn gl qb N s := fun W b => M.up b
  have haF : ∀ W, Below w.heap.size w W → ReadsT aE 3 W (.slice a n cp) l := fun W b => ha.up b
  clear M ha
  cases hk : okAs l with
  | false =>
    have e0 : chkN l = 2 := by unfold chkN; rw [if_neg (by rw [hk]; decide)]
    rw [e0] at hck
    refine X.fn Try.func18 rfl (n := 64) rfl rfl ?_
    refine CC.seq ?_
    refine CC.region ?_
    refine LL.val (R.assign rfl rfl) rfl rfl rfl ?_
    refine LL.nilS ?_
    refine CC.seq ?_
    refine CC.region ?_
    refine LL.val (R.move rfl rfl) rfl rfl rfl ?_
    refine LL.call (R.call rfl rfl rfl) rfl rfl rfl (len_any m gn gl qb N _ (hMF _ q)) ?_
    rintro e W' ⟨rfl, rfl⟩
    refine ⟨_, rfl, ?_⟩
    refine LL.val (R.assign rfl rfl) rfl rfl rfl ?_
    refine LL.nilS ?_
    refine CC.seq ?_
    refine CC.seq ?_
    refine CC.region ?_
    refine LL.val (R.move rfl rfl) rfl rfl rfl ?_
    refine LL.val (R.eqF rfl rfl rfl (by omega)) rfl rfl rfl ?_
    refine LL.nilS ?_
    refine CC.no rfl ?_
    refine CC.skip ?_
    refine EE.thenN ?_
    refine CC.seq ?_
    refine CC.seq ?_
    refine CC.region ?_
    refine LL.val (R.move rfl rfl) rfl rfl rfl ?_
    (refine LL.call (R.call rfl rfl rfl) rfl rfl rfl hck ?_; rintro e W53 ⟨rfl, b50⟩; refine ⟨_, rfl, ?_⟩)
    have zb50 := b50.size
    replace q := q.trans (b50.mono q.size)
    refine LL.val (R.assign rfl rfl) rfl rfl rfl ?_
    refine LL.nilS ?_
    refine CC.seq ?_
    refine CC.region ?_
    refine LL.val (R.move rfl rfl) rfl rfl rfl ?_
    refine LL.val (R.neT rfl rfl rfl (by omega)) rfl rfl rfl ?_
    refine LL.nilS ?_
    refine CC.yes rfl ?_
    refine CC.seq ?_
    refine CC.region ?_
    refine LL.val (R.move rfl rfl) rfl rfl rfl ?_
    refine LL.val (R.assign rfl rfl) rfl rfl rfl ?_
    refine LL.nilS ?_
    refine CC.ret ?_
    refine EE.thenR ?_
    refine EE.ret _ rfl rfl ?_
    exact ⟨rfl, q⟩
  | true =>
    have e0 : chkN l = 0 := by unfold chkN; rw [if_pos hk]
    rw [e0] at hck
    refine X.fn Try.func18 rfl (n := 64) rfl rfl ?_
    refine CC.seq ?_
    refine CC.region ?_
    refine LL.val (R.assign rfl rfl) rfl rfl rfl ?_
    refine LL.nilS ?_
    refine CC.seq ?_
    refine CC.region ?_
    refine LL.val (R.move rfl rfl) rfl rfl rfl ?_
    refine LL.call (R.call rfl rfl rfl) rfl rfl rfl (len_any m gn gl qb N _ (hMF _ q)) ?_
    rintro e W' ⟨rfl, rfl⟩
    refine ⟨_, rfl, ?_⟩
    refine LL.val (R.assign rfl rfl) rfl rfl rfl ?_
    refine LL.nilS ?_
    refine CC.seq ?_
    refine CC.seq ?_
    refine CC.region ?_
    refine LL.val (R.move rfl rfl) rfl rfl rfl ?_
    refine LL.val (R.eqF rfl rfl rfl (by omega)) rfl rfl rfl ?_
    refine LL.nilS ?_
    refine CC.no rfl ?_
    refine CC.skip ?_
    refine EE.thenN ?_
    refine CC.seq ?_
    refine CC.seq ?_
    refine CC.region ?_
    refine LL.val (R.move rfl rfl) rfl rfl rfl ?_
    (refine LL.call (R.call rfl rfl rfl) rfl rfl rfl hck ?_; rintro e Wa53 ⟨rfl, ba50⟩; refine ⟨_, rfl, ?_⟩)
    have zba50 := ba50.size
    replace q := q.trans (ba50.mono q.size)
    refine LL.val (R.assign rfl rfl) rfl rfl rfl ?_
    refine LL.nilS ?_
    refine CC.seq ?_
    refine CC.region ?_
    refine LL.val (R.move rfl rfl) rfl rfl rfl ?_
    refine LL.val (R.neF rfl rfl rfl (by omega)) rfl rfl rfl ?_
    refine LL.nilS ?_
    refine CC.no rfl ?_
    refine CC.skip ?_
    refine EE.thenN ?_
    refine CC.seq ?_
    refine CC.seq ?_
    refine CC.region ?_
    refine LL.val (R.move rfl rfl) rfl rfl rfl ?_
    refine LL.val (R.len rfl rfl rfl rfl) rfl rfl rfl ?_
    refine LL.val (R.move rfl rfl) rfl rfl rfl ?_
    refine LL.nilS ?_
    refine CC.block ?_
    have yq := q.size
    refine CC.loop (α := Nat) (fun i => [(0, .pointer (some ⟨m, 0, none⟩)), (1, .slice a n cp), (5, .int .i64 ((N * 8 : Nat) : Int)), (21, .slice a n cp), (22, .int .i64 (n : Int)), (23, .int .i64 (i : Int))]) (fun i W => i ≤ n ∧ Below w.heap.size w W ∧ ∀ j, j < i → ∀ x, l[j]? = some x → fitA N x = true) (fun i => n - i) 0 ⟨rfl, rfl, rfl, rfl, rfl, rfl, trivial⟩ ⟨Nat.zero_le _, q, fun j hj => by omega⟩ ?_
    clear q
    rintro i W ⟨hi, q, hall⟩
    have yw := q.size
    by_cases hlt : i < n
    case neg =>
      have := fitAs_all (N := N) (l := l) (fun j hj => hall j (by omega))
      rw [hf] at this
      cases this
    obtain ⟨⟨k, x, v⟩, hget⟩ : ∃ x, l[i]? = some x := ⟨_, List.getElem?_eq_getElem (by omega)⟩
    have hoa := okAs_at hk hget
    obtain ⟨bs, os, rfl, lbs, _⟩ := (haF w (Below.refl _ _)).get aEnc hget
    have m1 : CellsN W ⟨bs, os + i * 3, none⟩ 3 [.int .i64 k, .int .i64 x, .int .u64 (v : Int)] := (haF W q).elemN aEnc hget
    cases hfa : fitA N (k, x, v) with
    | false =>
      rcases fit_no hfa hoa with ⟨rfl, h3⟩ | ⟨rfl, h3⟩
      · clear hoa hfa hall hget
        refine CC.seq ?_
        refine CC.region ?_
        refine LL.val (R.ltT rfl rfl rfl (by omega)) rfl rfl rfl ?_
        refine LL.nilS ?_
        refine CC.seq ?_
        refine CC.yes rfl ?_
        refine CC.skip ?_
        refine EE.thenN ?_
        refine CC.seq ?_
        refine CC.block ?_
        refine CC.seq ?_
        refine CC.region ?_
        refine LL.val (R.index rfl rfl rfl (I.ixS rfl (by omega))) rfl rfl rfl ?_
        refine LL.val (R.load rfl rfl (I.ldM (by assumption) rfl rfl)) rfl rfl rfl ?_
        refine LL.alloc ([Value.int IntKind.i64 0, Value.int IntKind.i64 0, Value.int IntKind.u64 0]) rfl rfl rfl rfl rfl ?_
        intro Wb2 gb3 egb3 rb4 zb5 bb1
        replace q := q.trans (bb1.mono q.size)
        replace m1 := m1.up bb1
        refine LL.storeN (vs := [Value.int IntKind.i64 1, Value.int IntKind.i64 x, Value.int IntKind.u64 ↑v]) rfl rfl rfl rfl rb4 (by exact Nat.le_of_ble_eq_true rfl) (ones_of rfl) rfl rfl ?_
        intro Wb7 rb8 bb6 zb9
        have hlbb6 := rb4.lt
        replace rb8 : RowL Wb7 _ 38 [Value.int IntKind.i64 1, Value.int IntKind.i64 x, Value.int IntKind.u64 ↑v] := rb8
        clear rb4
        replace bb1 := bb1.grown bb6 bb1.size (by rintro k ⟨⟩; omega)
        replace q := q.grown bb6 q.size (by rintro k ⟨⟩; omega)
        replace m1 := m1.gr bb6 (by have := m1.lt; omega)
        have rb4 := rb8
        clear rb8
        refine LL.nilS ?_
        refine CC.seq ?_
        refine CC.grow (by kernel_rfl) (by kernel_rfl) ?_
        refine GG.val (fun w' b' => R.field rfl rfl (I.fld rfl)) rfl rfl ?_
        refine GG.val (fun w' b' => R.load rfl rfl (I.ld1 rfl (RowL.cell (rb4.up b') rfl))) rfl rfl ?_
        refine GG.val (fun w' b' => R.eqT rfl rfl rfl (by omega)) rfl rfl ?_
        refine GG.val (fun w' b' => R.move rfl rfl) rfl rfl ?_
        refine GG.val (fun w' b' => R.field rfl rfl (I.fld rfl)) rfl rfl ?_
        refine GG.val (fun w' b' => R.load rfl rfl (I.ld1 rfl (RowL.cell (rb4.up b') rfl))) rfl rfl ?_
        refine GG.val (fun w' b' => R.move rfl rfl) rfl rfl ?_
        refine GG.val (fun w' b' => R.geT rfl rfl rfl (by omega)) rfl rfl ?_
        refine GG.val (fun w' b' => R.pick rfl rfl rfl) rfl rfl ?_
        refine GG.val (fun w' b' => R.move rfl rfl) rfl rfl ?_
        refine GG.skip rfl rfl ?_
        refine GG.skip rfl rfl ?_
        refine GG.skip rfl rfl ?_
        refine GG.skip rfl rfl ?_
        refine GG.skip rfl rfl ?_
        refine GG.skip rfl rfl ?_
        refine GG.skip rfl rfl ?_
        refine GG.skip rfl rfl ?_
        refine GG.skip rfl rfl ?_
        refine GG.skip rfl rfl ?_
        refine GG.val (fun w' b' => R.pick rfl rfl rfl) rfl rfl ?_
        refine GG.nilQ (fun Wb14 bb13 => ?_)
        have zbb13 := bb13.size
        replace bb1 := bb1.trans (bb13.mono bb1.size)
        replace q := q.trans (bb13.mono q.size)
        replace m1 := m1.up bb13
        replace rb4 := rb4.up bb13
        refine EE.thenN ?_
        refine CC.yes rfl ?_
        refine CC.seq ?_
        refine CC.region ?_
        refine LL.val (R.assign rfl rfl) rfl rfl rfl ?_
        refine LL.nilS ?_
        refine CC.ret ?_
        refine EE.inR ?_
        refine EE.thenR ?_
        refine EE.thenR ?_
        refine EE.inR ?_
        refine EE.thenR ?_
        refine EE.ret _ rfl rfl ?_
        exact ⟨rfl, q⟩
      · clear hoa hfa hall hget
        refine CC.seq ?_
        refine CC.region ?_
        refine LL.val (R.ltT rfl rfl rfl (by omega)) rfl rfl rfl ?_
        refine LL.nilS ?_
        refine CC.seq ?_
        refine CC.yes rfl ?_
        refine CC.skip ?_
        refine EE.thenN ?_
        refine CC.seq ?_
        refine CC.block ?_
        refine CC.seq ?_
        refine CC.region ?_
        refine LL.val (R.index rfl rfl rfl (I.ixS rfl (by omega))) rfl rfl rfl ?_
        refine LL.val (R.load rfl rfl (I.ldM (by assumption) rfl rfl)) rfl rfl rfl ?_
        refine LL.alloc ([Value.int IntKind.i64 0, Value.int IntKind.i64 0, Value.int IntKind.u64 0]) rfl rfl rfl rfl rfl ?_
        intro Wc2 gc3 egc3 rc4 zc5 bc1
        replace q := q.trans (bc1.mono q.size)
        replace m1 := m1.up bc1
        refine LL.storeN (vs := [Value.int IntKind.i64 2, Value.int IntKind.i64 x, Value.int IntKind.u64 ↑v]) rfl rfl rfl rfl rc4 (by exact Nat.le_of_ble_eq_true rfl) (ones_of rfl) rfl rfl ?_
        intro Wc7 rc8 bc6 zc9
        have hlbc6 := rc4.lt
        replace rc8 : RowL Wc7 _ 38 [Value.int IntKind.i64 2, Value.int IntKind.i64 x, Value.int IntKind.u64 ↑v] := rc8
        clear rc4
        replace bc1 := bc1.grown bc6 bc1.size (by rintro k ⟨⟩; omega)
        replace q := q.grown bc6 q.size (by rintro k ⟨⟩; omega)
        replace m1 := m1.gr bc6 (by have := m1.lt; omega)
        have rc4 := rc8
        clear rc8
        refine LL.nilS ?_
        refine CC.seq ?_
        refine CC.grow (by kernel_rfl) (by kernel_rfl) ?_
        refine GG.val (fun w' b' => R.field rfl rfl (I.fld rfl)) rfl rfl ?_
        refine GG.val (fun w' b' => R.load rfl rfl (I.ld1 rfl (RowL.cell (rc4.up b') rfl))) rfl rfl ?_
        refine GG.val (fun w' b' => R.eqF rfl rfl rfl (by omega)) rfl rfl ?_
        refine GG.val (fun w' b' => R.move rfl rfl) rfl rfl ?_
        refine GG.skip rfl rfl ?_
        refine GG.skip rfl rfl ?_
        refine GG.skip rfl rfl ?_
        refine GG.skip rfl rfl ?_
        refine GG.val (fun w' b' => R.pick rfl rfl rfl) rfl rfl ?_
        refine GG.val (fun w' b' => R.move rfl rfl) rfl rfl ?_
        refine GG.val (fun w' b' => R.field rfl rfl (I.fld rfl)) rfl rfl ?_
        refine GG.val (fun w' b' => R.load rfl rfl (I.ld1 rfl (RowL.cell (rc4.up b') rfl))) rfl rfl ?_
        refine GG.val (fun w' b' => R.eqT rfl rfl rfl (by omega)) rfl rfl ?_
        refine GG.val (fun w' b' => R.move rfl rfl) rfl rfl ?_
        refine GG.val (fun w' b' => R.field rfl rfl (I.fld rfl)) rfl rfl ?_
        refine GG.val (fun w' b' => R.load rfl rfl (I.ld1 rfl (RowL.cell (rc4.up b') rfl))) rfl rfl ?_
        refine GG.val (fun w' b' => R.move rfl rfl) rfl rfl ?_
        refine GG.call (fun w' => (R.call rfl rfl rfl)) rfl rfl (fun w' b' => (line_any _ w' (by first | assumption | omega)).mono fun e W' h => ⟨h.1, h.2 ▸ b'⟩) ?_
        refine GG.val (fun w' b' => R.geT rfl rfl rfl (by omega)) rfl rfl ?_
        refine GG.val (fun w' b' => R.pick rfl rfl rfl) rfl rfl ?_
        refine GG.val (fun w' b' => R.pick rfl rfl rfl) rfl rfl ?_
        refine GG.nilQ (fun Wc14 bc13 => ?_)
        have zbc13 := bc13.size
        replace bc1 := bc1.trans (bc13.mono bc1.size)
        replace q := q.trans (bc13.mono q.size)
        replace m1 := m1.up bc13
        replace rc4 := rc4.up bc13
        refine EE.thenN ?_
        refine CC.yes rfl ?_
        refine CC.seq ?_
        refine CC.region ?_
        refine LL.val (R.assign rfl rfl) rfl rfl rfl ?_
        refine LL.nilS ?_
        refine CC.ret ?_
        refine EE.inR ?_
        refine EE.thenR ?_
        refine EE.thenR ?_
        refine EE.inR ?_
        refine EE.thenR ?_
        refine EE.ret _ rfl rfl ?_
        exact ⟨rfl, q⟩
    | true =>
      have hall2 : ∀ j, j < i + 1 → ∀ x, l[j]? = some x → fitA N x = true := fun j hj y hy => by
        by_cases hj2 : j < i
        · exact hall j hj2 y hy
        · obtain rfl : j = i := by omega
          rw [hget] at hy
          rw [← Option.some.inj hy]
          exact hfa
      by_cases k1 : k = 1
      · have h3 := fit_1 hfa k1
        subst k1
        refine CC.seq ?_
        refine CC.region ?_
        refine LL.val (R.ltT rfl rfl rfl (by omega)) rfl rfl rfl ?_
        refine LL.nilS ?_
        refine CC.seq ?_
        refine CC.yes rfl ?_
        refine CC.skip ?_
        refine EE.thenN ?_
        refine CC.seq ?_
        refine CC.block ?_
        refine CC.seq ?_
        refine CC.region ?_
        refine LL.val (R.index rfl rfl rfl (I.ixS rfl (by omega))) rfl rfl rfl ?_
        refine LL.val (R.load rfl rfl (I.ldM (by assumption) rfl rfl)) rfl rfl rfl ?_
        refine LL.alloc ([Value.int IntKind.i64 0, Value.int IntKind.i64 0, Value.int IntKind.u64 0]) rfl rfl rfl rfl rfl ?_
        intro Wd2 gd3 egd3 rd4 zd5 bd1
        replace q := q.trans (bd1.mono q.size)
        replace m1 := m1.up bd1
        refine LL.storeN (vs := [Value.int IntKind.i64 1, Value.int IntKind.i64 x, Value.int IntKind.u64 ↑v]) rfl rfl rfl rfl rd4 (by exact Nat.le_of_ble_eq_true rfl) (ones_of rfl) rfl rfl ?_
        intro Wd7 rd8 bd6 zd9
        have hlbd6 := rd4.lt
        replace rd8 : RowL Wd7 _ 38 [Value.int IntKind.i64 1, Value.int IntKind.i64 x, Value.int IntKind.u64 ↑v] := rd8
        clear rd4
        replace bd1 := bd1.grown bd6 bd1.size (by rintro k ⟨⟩; omega)
        replace q := q.grown bd6 q.size (by rintro k ⟨⟩; omega)
        replace m1 := m1.gr bd6 (by have := m1.lt; omega)
        have rd4 := rd8
        clear rd8
        refine LL.nilS ?_
        refine CC.seq ?_
        refine CC.grow (by kernel_rfl) (by kernel_rfl) ?_
        refine GG.val (fun w' b' => R.field rfl rfl (I.fld rfl)) rfl rfl ?_
        refine GG.val (fun w' b' => R.load rfl rfl (I.ld1 rfl (RowL.cell (rd4.up b') rfl))) rfl rfl ?_
        refine GG.val (fun w' b' => R.eqT rfl rfl rfl (by omega)) rfl rfl ?_
        refine GG.val (fun w' b' => R.move rfl rfl) rfl rfl ?_
        refine GG.val (fun w' b' => R.field rfl rfl (I.fld rfl)) rfl rfl ?_
        refine GG.val (fun w' b' => R.load rfl rfl (I.ld1 rfl (RowL.cell (rd4.up b') rfl))) rfl rfl ?_
        refine GG.val (fun w' b' => R.move rfl rfl) rfl rfl ?_
        refine GG.val (fun w' b' => R.geF rfl rfl rfl (by omega)) rfl rfl ?_
        refine GG.val (fun w' b' => R.pick rfl rfl rfl) rfl rfl ?_
        refine GG.val (fun w' b' => R.move rfl rfl) rfl rfl ?_
        refine GG.val (fun w' b' => R.field rfl rfl (I.fld rfl)) rfl rfl ?_
        refine GG.val (fun w' b' => R.load rfl rfl (I.ld1 rfl (RowL.cell (rd4.up b') rfl))) rfl rfl ?_
        refine GG.val (fun w' b' => R.eqF rfl rfl rfl (by omega)) rfl rfl ?_
        refine GG.val (fun w' b' => R.move rfl rfl) rfl rfl ?_
        refine GG.skip rfl rfl ?_
        refine GG.skip rfl rfl ?_
        refine GG.skip rfl rfl ?_
        refine GG.skip rfl rfl ?_
        refine GG.skip rfl rfl ?_
        refine GG.val (fun w' b' => R.pick rfl rfl rfl) rfl rfl ?_
        refine GG.val (fun w' b' => R.pick rfl rfl rfl) rfl rfl ?_
        refine GG.nilQ (fun Wd14 bd13 => ?_)
        have zbd13 := bd13.size
        replace bd1 := bd1.trans (bd13.mono bd1.size)
        replace q := q.trans (bd13.mono q.size)
        replace m1 := m1.up bd13
        replace rd4 := rd4.up bd13
        refine EE.thenN ?_
        refine CC.no rfl ?_
        refine CC.skip ?_
        refine EE.inN ?_
        refine EE.thenN ?_
        refine CC.region ?_
        refine LL.val (R.addNc rfl rfl rfl rfl (by omega)) rfl rfl rfl ?_
        refine LL.val (R.move rfl rfl) rfl rfl rfl ?_
        refine LL.nil ?_
        exact EE.round (i + 1) ⟨rfl, rfl, rfl, rfl, rfl, rfl, trivial⟩ ⟨by omega, q, hall2⟩ (by omega)
      by_cases k2 : k = 2
      · have h3 := fit_2 hfa k2
        subst k2
        refine CC.seq ?_
        refine CC.region ?_
        refine LL.val (R.ltT rfl rfl rfl (by omega)) rfl rfl rfl ?_
        refine LL.nilS ?_
        refine CC.seq ?_
        refine CC.yes rfl ?_
        refine CC.skip ?_
        refine EE.thenN ?_
        refine CC.seq ?_
        refine CC.block ?_
        refine CC.seq ?_
        refine CC.region ?_
        refine LL.val (R.index rfl rfl rfl (I.ixS rfl (by omega))) rfl rfl rfl ?_
        refine LL.val (R.load rfl rfl (I.ldM (by assumption) rfl rfl)) rfl rfl rfl ?_
        refine LL.alloc ([Value.int IntKind.i64 0, Value.int IntKind.i64 0, Value.int IntKind.u64 0]) rfl rfl rfl rfl rfl ?_
        intro We2 ge3 ege3 re4 ze5 be1
        replace q := q.trans (be1.mono q.size)
        replace m1 := m1.up be1
        refine LL.storeN (vs := [Value.int IntKind.i64 2, Value.int IntKind.i64 x, Value.int IntKind.u64 ↑v]) rfl rfl rfl rfl re4 (by exact Nat.le_of_ble_eq_true rfl) (ones_of rfl) rfl rfl ?_
        intro We7 re8 be6 ze9
        have hlbe6 := re4.lt
        replace re8 : RowL We7 _ 38 [Value.int IntKind.i64 2, Value.int IntKind.i64 x, Value.int IntKind.u64 ↑v] := re8
        clear re4
        replace be1 := be1.grown be6 be1.size (by rintro k ⟨⟩; omega)
        replace q := q.grown be6 q.size (by rintro k ⟨⟩; omega)
        replace m1 := m1.gr be6 (by have := m1.lt; omega)
        have re4 := re8
        clear re8
        refine LL.nilS ?_
        refine CC.seq ?_
        refine CC.grow (by kernel_rfl) (by kernel_rfl) ?_
        refine GG.val (fun w' b' => R.field rfl rfl (I.fld rfl)) rfl rfl ?_
        refine GG.val (fun w' b' => R.load rfl rfl (I.ld1 rfl (RowL.cell (re4.up b') rfl))) rfl rfl ?_
        refine GG.val (fun w' b' => R.eqF rfl rfl rfl (by omega)) rfl rfl ?_
        refine GG.val (fun w' b' => R.move rfl rfl) rfl rfl ?_
        refine GG.skip rfl rfl ?_
        refine GG.skip rfl rfl ?_
        refine GG.skip rfl rfl ?_
        refine GG.skip rfl rfl ?_
        refine GG.val (fun w' b' => R.pick rfl rfl rfl) rfl rfl ?_
        refine GG.val (fun w' b' => R.move rfl rfl) rfl rfl ?_
        refine GG.val (fun w' b' => R.field rfl rfl (I.fld rfl)) rfl rfl ?_
        refine GG.val (fun w' b' => R.load rfl rfl (I.ld1 rfl (RowL.cell (re4.up b') rfl))) rfl rfl ?_
        refine GG.val (fun w' b' => R.eqT rfl rfl rfl (by omega)) rfl rfl ?_
        refine GG.val (fun w' b' => R.move rfl rfl) rfl rfl ?_
        refine GG.val (fun w' b' => R.field rfl rfl (I.fld rfl)) rfl rfl ?_
        refine GG.val (fun w' b' => R.load rfl rfl (I.ld1 rfl (RowL.cell (re4.up b') rfl))) rfl rfl ?_
        refine GG.val (fun w' b' => R.move rfl rfl) rfl rfl ?_
        refine GG.call (fun w' => (R.call rfl rfl rfl)) rfl rfl (fun w' b' => (line_any _ w' (by first | assumption | omega)).mono fun e W' h => ⟨h.1, h.2 ▸ b'⟩) ?_
        refine GG.val (fun w' b' => R.geF rfl rfl rfl (by omega)) rfl rfl ?_
        refine GG.val (fun w' b' => R.pick rfl rfl rfl) rfl rfl ?_
        refine GG.val (fun w' b' => R.pick rfl rfl rfl) rfl rfl ?_
        refine GG.nilQ (fun We14 be13 => ?_)
        have zbe13 := be13.size
        replace be1 := be1.trans (be13.mono be1.size)
        replace q := q.trans (be13.mono q.size)
        replace m1 := m1.up be13
        replace re4 := re4.up be13
        refine EE.thenN ?_
        refine CC.no rfl ?_
        refine CC.skip ?_
        refine EE.inN ?_
        refine EE.thenN ?_
        refine CC.region ?_
        refine LL.val (R.addNc rfl rfl rfl rfl (by omega)) rfl rfl rfl ?_
        refine LL.val (R.move rfl rfl) rfl rfl rfl ?_
        refine LL.nil ?_
        exact EE.round (i + 1) ⟨rfl, rfl, rfl, rfl, rfl, rfl, trivial⟩ ⟨by omega, q, hall2⟩ (by omega)
      have h3 := fit_3 hfa k1 k2
      refine CC.seq ?_
      refine CC.region ?_
      refine LL.val (R.ltT rfl rfl rfl (by omega)) rfl rfl rfl ?_
      refine LL.nilS ?_
      refine CC.seq ?_
      refine CC.yes rfl ?_
      refine CC.skip ?_
      refine EE.thenN ?_
      refine CC.seq ?_
      refine CC.block ?_
      refine CC.seq ?_
      refine CC.region ?_
      refine LL.val (R.index rfl rfl rfl (I.ixS rfl (by omega))) rfl rfl rfl ?_
      refine LL.val (R.load rfl rfl (I.ldM (by assumption) rfl rfl)) rfl rfl rfl ?_
      refine LL.alloc ([Value.int IntKind.i64 0, Value.int IntKind.i64 0, Value.int IntKind.u64 0]) rfl rfl rfl rfl rfl ?_
      intro Wf2 gf3 egf3 rf4 zf5 bf1
      replace q := q.trans (bf1.mono q.size)
      replace m1 := m1.up bf1
      refine LL.storeN (vs := [Value.int IntKind.i64 k, Value.int IntKind.i64 x, Value.int IntKind.u64 ↑v]) rfl rfl rfl rfl rf4 (by exact Nat.le_of_ble_eq_true rfl) (ones_of rfl) rfl rfl ?_
      intro Wf7 rf8 bf6 zf9
      have hlbf6 := rf4.lt
      replace rf8 : RowL Wf7 _ 38 [Value.int IntKind.i64 k, Value.int IntKind.i64 x, Value.int IntKind.u64 ↑v] := rf8
      clear rf4
      replace bf1 := bf1.grown bf6 bf1.size (by rintro k ⟨⟩; omega)
      replace q := q.grown bf6 q.size (by rintro k ⟨⟩; omega)
      replace m1 := m1.gr bf6 (by have := m1.lt; omega)
      have rf4 := rf8
      clear rf8
      refine LL.nilS ?_
      refine CC.seq ?_
      refine CC.grow (by kernel_rfl) (by kernel_rfl) ?_
      refine GG.val (fun w' b' => R.field rfl rfl (I.fld rfl)) rfl rfl ?_
      refine GG.val (fun w' b' => R.load rfl rfl (I.ld1 rfl (RowL.cell (rf4.up b') rfl))) rfl rfl ?_
      refine GG.val (fun w' b' => R.eqF rfl rfl rfl (by omega)) rfl rfl ?_
      refine GG.val (fun w' b' => R.move rfl rfl) rfl rfl ?_
      refine GG.skip rfl rfl ?_
      refine GG.skip rfl rfl ?_
      refine GG.skip rfl rfl ?_
      refine GG.skip rfl rfl ?_
      refine GG.val (fun w' b' => R.pick rfl rfl rfl) rfl rfl ?_
      refine GG.val (fun w' b' => R.move rfl rfl) rfl rfl ?_
      refine GG.val (fun w' b' => R.field rfl rfl (I.fld rfl)) rfl rfl ?_
      refine GG.val (fun w' b' => R.load rfl rfl (I.ld1 rfl (RowL.cell (rf4.up b') rfl))) rfl rfl ?_
      refine GG.val (fun w' b' => R.eqF rfl rfl rfl (by omega)) rfl rfl ?_
      refine GG.val (fun w' b' => R.move rfl rfl) rfl rfl ?_
      refine GG.skip rfl rfl ?_
      refine GG.skip rfl rfl ?_
      refine GG.skip rfl rfl ?_
      refine GG.skip rfl rfl ?_
      refine GG.skip rfl rfl ?_
      refine GG.val (fun w' b' => R.pick rfl rfl rfl) rfl rfl ?_
      refine GG.val (fun w' b' => R.pick rfl rfl rfl) rfl rfl ?_
      refine GG.nilQ (fun Wf14 bf13 => ?_)
      have zbf13 := bf13.size
      replace bf1 := bf1.trans (bf13.mono bf1.size)
      replace q := q.trans (bf13.mono q.size)
      replace m1 := m1.up bf13
      replace rf4 := rf4.up bf13
      refine EE.thenN ?_
      refine CC.no rfl ?_
      refine CC.skip ?_
      refine EE.inN ?_
      refine EE.thenN ?_
      refine CC.region ?_
      refine LL.val (R.addNc rfl rfl rfl rfl (by omega)) rfl rfl rfl ?_
      refine LL.val (R.move rfl rfl) rfl rfl rfl ?_
      refine LL.nil ?_
      exact EE.round (i + 1) ⟨rfl, rfl, rfl, rfl, rfl, rfl, trivial⟩ ⟨by omega, q, hall2⟩ (by omega)
theorem psame_T {m1 gn1 gl1 qb1 m2 gn2 gl2 qb2 N : Nat} {s : List Cl} {w : World} (M1 : Mem w m1 gn1 gl1 qb1 N s) (M2 : Mem w m2 gn2 gl2 qb2 N s) : Calls Try.prog 19 #[.pointer (some ⟨m1, 0, none⟩), .pointer (some ⟨m2, 0, none⟩)] w fun e w' => e = .returned (.bool true) ∧ Below w.heap.size w w' := by
  have h := same_any m1 gn1 gl1 qb1 m2 gn2 gl2 qb2 N s s w M1 M2
  rw [decide_eq_true rfl] at h
  exact h
theorem fit_snoc {N : Nat} {l : List Ac} {i : Nat} {x : Ac} (h : l[i]? = some x) : fitAs N (l.take (i + 1)) = (fitAs N (l.take i) && fitA N x) := by
  unfold fitAs
  rw [List.take_add_one, h, List.all_append]
  simp
theorem runs_walk (v0 v1 : Value) (ws : List Nat) (l : List Ac) (w : World) (hv : ReadsT uE 1 w v0 ws) (ha : ReadsT aE 3 w v1 l) (hL : ws.length ≤ 9223372036854775807) (hn : l.length ≤ 9223372036854775807) : Calls Try.prog 4 #[v0, v1] w fun e w' => e = .returned (.bool true) ∧ Below w.heap.size w w' := by
  have q := Below.refl w.heap.size w
  obtain ⟨a0, c0, rfl, _⟩ := hv.form rfl
  obtain ⟨a1, c1, rfl, _⟩ := ha.form rfl
  obtain ⟨L, eL⟩ : ∃ L, ws.length = L := ⟨_, rfl⟩
  obtain ⟨n, en⟩ : ∃ n, l.length = n := ⟨_, rfl⟩
  rw [eL] at hv hL ⊢
  rw [en] at ha hn ⊢
  have hvF : ∀ W, Below w.heap.size w W → ReadsT uE 1 W (.slice a0 L c0) ws := fun W b => hv.up b
  have haF : ∀ W, Below w.heap.size w W → ReadsT aE 3 W (.slice a1 n c1) l := fun W b => ha.up b
  clear hv ha
  by_cases h64 : L ≤ 64
  case neg =>
    refine X.fn Try.func4 rfl (n := 105) rfl rfl ?_
    refine CC.seq ?_
    refine CC.region ?_
    refine LL.val (R.assign rfl rfl) rfl rfl rfl ?_
    refine LL.nilS ?_
    refine CC.seq ?_
    refine CC.seq ?_
    refine CC.region ?_
    refine LL.val (R.move rfl rfl) rfl rfl rfl ?_
    refine LL.val (R.len rfl rfl rfl rfl) rfl rfl rfl ?_
    refine LL.val (R.gtT rfl rfl rfl (by omega)) rfl rfl rfl ?_
    refine LL.val (R.move rfl rfl) rfl rfl rfl ?_
    refine LL.skip rfl rfl ?_
    refine LL.skip rfl rfl ?_
    refine LL.skip rfl rfl ?_
    refine LL.skip rfl rfl ?_
    refine LL.val (R.pick rfl rfl rfl) rfl rfl rfl ?_
    refine LL.val (R.move rfl rfl) rfl rfl rfl ?_
    refine LL.skip rfl rfl ?_
    refine LL.skip rfl rfl ?_
    refine LL.skip rfl rfl ?_
    refine LL.val (R.pick rfl rfl rfl) rfl rfl rfl ?_
    refine LL.nilS ?_
    refine CC.yes rfl ?_
    refine CC.seq ?_
    refine CC.region ?_
    refine LL.call (R.call rfl rfl rfl) rfl rfl rfl (works_any _) ?_
    rintro e W2 ⟨rfl, b1⟩
    refine ⟨_, rfl, ?_⟩
    have zb1 := b1.size
    replace q := q.trans (b1.mono q.size)
    refine LL.val (R.assign rfl rfl) rfl rfl rfl ?_
    refine LL.nilS ?_
    refine CC.ret ?_
    refine EE.thenR ?_
    refine EE.ret _ rfl rfl ?_
    exact ⟨rfl, q⟩
  by_cases h8 : 8 ≤ L ∧ L % 8 = 0
  case neg =>
    have hr : (L : Int) < 8 ∨ 131072 < (L : Int) ∨ (L : Int) % 8 ≠ 0 := by omega
    clear h8
    refine X.fn Try.func4 rfl (n := 105) rfl rfl ?_
    refine CC.seq ?_
    refine CC.region ?_
    refine LL.val (R.assign rfl rfl) rfl rfl rfl ?_
    refine LL.nilS ?_
    refine CC.seq ?_
    refine CC.seq ?_
    refine CC.region ?_
    refine LL.val (R.move rfl rfl) rfl rfl rfl ?_
    refine LL.val (R.len rfl rfl rfl rfl) rfl rfl rfl ?_
    refine LL.val (R.gtF rfl rfl rfl (by omega)) rfl rfl rfl ?_
    refine LL.val (R.move rfl rfl) rfl rfl rfl ?_
    refine LL.val (R.move rfl rfl) rfl rfl rfl ?_
    refine LL.val (R.len rfl rfl rfl rfl) rfl rfl rfl ?_
    refine LL.call (R.call rfl rfl rfl) rfl rfl rfl (right_F _ _ (by first | assumption | omega)) ?_
    rintro e W' ⟨rfl, rfl⟩
    refine ⟨_, rfl, ?_⟩
    refine LL.val (R.not rfl rfl) rfl rfl rfl ?_
    refine LL.val (R.pick rfl rfl rfl) rfl rfl rfl ?_
    refine LL.val (R.move rfl rfl) rfl rfl rfl ?_
    refine LL.skip rfl rfl ?_
    refine LL.skip rfl rfl ?_
    refine LL.skip rfl rfl ?_
    refine LL.val (R.pick rfl rfl rfl) rfl rfl rfl ?_
    refine LL.nilS ?_
    refine CC.yes rfl ?_
    refine CC.seq ?_
    refine CC.region ?_
    refine LL.call (R.call rfl rfl rfl) rfl rfl rfl (works_any _) ?_
    rintro e Wa2 ⟨rfl, ba1⟩
    refine ⟨_, rfl, ?_⟩
    have zba1 := ba1.size
    replace q := q.trans (ba1.mono q.size)
    refine LL.val (R.assign rfl rfl) rfl rfl rfl ?_
    refine LL.nilS ?_
    refine CC.ret ?_
    refine EE.thenR ?_
    refine EE.ret _ rfl rfl ?_
    exact ⟨rfl, q⟩
  obtain ⟨N, rfl⟩ : ∃ N, L = N * 8 := ⟨L / 8, by omega⟩
  have h0 : 0 < N := by omega
  have hN : N ≤ 16384 := by omega
  clear h8
  by_cases h60 : n ≤ 60
  case neg =>
    refine X.fn Try.func4 rfl (n := 105) rfl rfl ?_
    refine CC.seq ?_
    refine CC.region ?_
    refine LL.val (R.assign rfl rfl) rfl rfl rfl ?_
    refine LL.nilS ?_
    refine CC.seq ?_
    refine CC.seq ?_
    refine CC.region ?_
    refine LL.val (R.move rfl rfl) rfl rfl rfl ?_
    refine LL.val (R.len rfl rfl rfl rfl) rfl rfl rfl ?_
    refine LL.val (R.gtF rfl rfl rfl (by omega)) rfl rfl rfl ?_
    refine LL.val (R.move rfl rfl) rfl rfl rfl ?_
    refine LL.val (R.move rfl rfl) rfl rfl rfl ?_
    refine LL.val (R.len rfl rfl rfl rfl) rfl rfl rfl ?_
    refine LL.call (R.call rfl rfl rfl) rfl rfl rfl (right_T _ _ (by first | assumption | omega)) ?_
    rintro e W' ⟨rfl, rfl⟩
    refine ⟨_, rfl, ?_⟩
    refine LL.val (R.not rfl rfl) rfl rfl rfl ?_
    refine LL.val (R.pick rfl rfl rfl) rfl rfl rfl ?_
    refine LL.val (R.move rfl rfl) rfl rfl rfl ?_
    refine LL.val (R.move rfl rfl) rfl rfl rfl ?_
    refine LL.val (R.len rfl rfl rfl rfl) rfl rfl rfl ?_
    refine LL.val (R.gtT rfl rfl rfl (by omega)) rfl rfl rfl ?_
    refine LL.val (R.pick rfl rfl rfl) rfl rfl rfl ?_
    refine LL.nilS ?_
    refine CC.yes rfl ?_
    refine CC.seq ?_
    refine CC.region ?_
    refine LL.call (R.call rfl rfl rfl) rfl rfl rfl (works_any _) ?_
    rintro e Wb2 ⟨rfl, bb1⟩
    refine ⟨_, rfl, ?_⟩
    have zbb1 := bb1.size
    replace q := q.trans (bb1.mono q.size)
    refine LL.val (R.assign rfl rfl) rfl rfl rfl ?_
    refine LL.nilS ?_
    refine CC.ret ?_
    refine EE.thenR ?_
    refine EE.ret _ rfl rfl ?_
    exact ⟨rfl, q⟩
  refine X.fn Try.func4 rfl (n := 105) rfl rfl ?_
  refine CC.seq ?_
  refine CC.region ?_
  refine LL.val (R.assign rfl rfl) rfl rfl rfl ?_
  refine LL.nilS ?_
  refine CC.seq ?_
  refine CC.seq ?_
  refine CC.region ?_
  refine LL.val (R.move rfl rfl) rfl rfl rfl ?_
  refine LL.val (R.len rfl rfl rfl rfl) rfl rfl rfl ?_
  refine LL.val (R.gtF rfl rfl rfl (by omega)) rfl rfl rfl ?_
  refine LL.val (R.move rfl rfl) rfl rfl rfl ?_
  refine LL.val (R.move rfl rfl) rfl rfl rfl ?_
  refine LL.val (R.len rfl rfl rfl rfl) rfl rfl rfl ?_
  refine LL.call (R.call rfl rfl rfl) rfl rfl rfl (right_T _ _ (by first | assumption | omega)) ?_
  rintro e W' ⟨rfl, rfl⟩
  refine ⟨_, rfl, ?_⟩
  refine LL.val (R.not rfl rfl) rfl rfl rfl ?_
  refine LL.val (R.pick rfl rfl rfl) rfl rfl rfl ?_
  refine LL.val (R.move rfl rfl) rfl rfl rfl ?_
  refine LL.val (R.move rfl rfl) rfl rfl rfl ?_
  refine LL.val (R.len rfl rfl rfl rfl) rfl rfl rfl ?_
  refine LL.val (R.gtF rfl rfl rfl (by omega)) rfl rfl rfl ?_
  refine LL.val (R.pick rfl rfl rfl) rfl rfl rfl ?_
  refine LL.nilS ?_
  refine CC.no rfl ?_
  refine CC.skip ?_
  refine EE.thenN ?_
  refine CC.seq ?_
  refine CC.region ?_
  refine LL.val (R.move rfl rfl) rfl rfl rfl ?_
  ((fail_if_success (have := lts)); refine LL.call (R.call rfl rfl rfl) rfl rfl rfl (of_T a0 (N * 8) c0 N ws _ (hvF _ q) rfl h0 hN) ?_; rintro e Wc228 ⟨m, gn, gl, qb, rfl, M, lm, ln, ll, lq, bc225⟩; refine ⟨_, rfl, ?_⟩; have lts := M.lts)
  have zbc225 := bc225.size
  replace q := q.trans (bc225.mono q.size)
  refine LL.val (R.move rfl rfl) rfl rfl rfl ?_
  refine LL.val (R.extract rfl rfl rfl) rfl rfl rfl ?_
  refine LL.val (R.extract rfl rfl rfl) rfl rfl rfl ?_
  refine LL.val (R.assign rfl rfl) rfl rfl rfl ?_
  refine LL.val (R.assign rfl rfl) rfl rfl rfl ?_
  refine LL.nilS ?_
  refine CC.seq ?_
  refine CC.region ?_
  refine LL.val (R.move rfl rfl) rfl rfl rfl ?_
  (refine LL.call (R.call rfl rfl rfl) rfl rfl rfl (of_T a0 (N * 8) c0 N ws _ (hvF _ q) rfl h0 hN) ?_; rintro e Wc326 ⟨m2, gn2, gl2, qb2, rfl, M2, lm2, ln2, ll2, lq2, bc323⟩; refine ⟨_, rfl, ?_⟩; have lts2 := M2.lts; replace M := M.up bc323)
  have zbc323 := bc323.size
  replace bc225 := bc225.trans (bc323.mono bc225.size)
  replace q := q.trans (bc323.mono q.size)
  refine LL.val (R.move rfl rfl) rfl rfl rfl ?_
  refine LL.val (R.extract rfl rfl rfl) rfl rfl rfl ?_
  refine LL.val (R.extract rfl rfl rfl) rfl rfl rfl ?_
  refine LL.val (R.assign rfl rfl) rfl rfl rfl ?_
  refine LL.val (R.assign rfl rfl) rfl rfl rfl ?_
  refine LL.nilS ?_
  refine CC.seq ?_
  refine CC.region ?_
  refine LL.val (R.assign rfl rfl) rfl rfl rfl ?_
  refine LL.nilS ?_
  refine CC.seq ?_
  refine CC.seq ?_
  refine CC.region ?_
  refine LL.val (R.assign rfl rfl) rfl rfl rfl ?_
  refine LL.nilS ?_
  refine CC.block ?_
  have yq := q.size
  refine CC.loop (α := Nat × Bool) (fun t => [(0, .slice a0 (N * 8) c0), (1, .slice a1 n c1), (5, .pointer (some ⟨m, 0, none⟩)), (6, .int .i64 0), (7, .pointer (some ⟨m2, 0, none⟩)), (8, .int .i64 0), (9, .bool t.2), (10, .int .i64 (t.1 : Int))]) (fun t W => t.1 ≤ n ∧ Below w.heap.size w W ∧ Mem W m gn gl qb N (ofS N ws) ∧ Mem W m2 gn2 gl2 qb2 N (ofS N ws) ∧ t.2 = fitAs N (l.take t.1)) (fun t => n - t.1) (0, true) ⟨rfl, rfl, rfl, rfl, rfl, rfl, rfl, rfl, trivial⟩ ⟨Nat.zero_le _, q, M, M2, rfl⟩ ?_
  clear q M M2
  rintro ⟨i, b⟩ W ⟨hi, q, M, M2, hb⟩
  simp only at hi hb
  show CC none Try.prog _ 105 [] (sl [(0, .slice a0 (N * 8) c0), (1, .slice a1 n c1), (5, .pointer (some ⟨m, 0, none⟩)), (6, .int .i64 0), (7, .pointer (some ⟨m2, 0, none⟩)), (8, .int .i64 0), (9, .bool b), (10, .int .i64 (i : Int))]) _ W
  have yw := q.size
  by_cases hlt : i < n
  case pos =>
    obtain ⟨⟨k, x, v⟩, hget⟩ : ∃ x, l[i]? = some x := ⟨_, List.getElem?_eq_getElem (by omega)⟩
    obtain ⟨bs, os, rfl, lbs, _⟩ := (haF w (Below.refl _ _)).get aEnc hget
    have m1 : CellsN W ⟨bs, os + i * 3, none⟩ 3 [.int .i64 k, .int .i64 x, .int .u64 (v : Int)] := (haF W q).elemN aEnc hget
    have hsn := fit_snoc (N := N) hget
    rw [← hb] at hsn
    have hMF : ∀ W', Below W.heap.size W W' → Mem W' m gn gl qb N (ofS N ws) := fun W' b => M.up b
    have hMF2 : ∀ W', Below W.heap.size W W' → Mem W' m2 gn2 gl2 qb2 N (ofS N ws) := fun W' b => M2.up b
    have q1 := Below.refl W.heap.size W
    clear M M2 hb
    cases b with
    | false =>
      refine CC.seq ?_
      refine CC.seq ?_
      refine CC.region ?_
      refine LL.val (R.move rfl rfl) rfl rfl rfl ?_
      refine LL.val (R.move rfl rfl) rfl rfl rfl ?_
      refine LL.val (R.len rfl rfl rfl rfl) rfl rfl rfl ?_
      refine LL.val (R.ltT rfl rfl rfl (by omega)) rfl rfl rfl ?_
      refine LL.nilS ?_
      refine CC.yes rfl ?_
      refine CC.skip ?_
      refine EE.thenN ?_
      refine CC.seq ?_
      refine CC.block ?_
      refine CC.region ?_
      refine LL.val (R.move rfl rfl) rfl rfl rfl ?_
      refine LL.val (R.move rfl rfl) rfl rfl rfl ?_
      refine LL.skip rfl rfl ?_
      refine LL.skip rfl rfl ?_
      refine LL.skip rfl rfl ?_
      refine LL.skip rfl rfl ?_
      refine LL.skip rfl rfl ?_
      refine LL.skip rfl rfl ?_
      refine LL.skip rfl rfl ?_
      refine LL.val (R.pick rfl rfl rfl) rfl rfl rfl ?_
      refine LL.val (R.assign rfl rfl) rfl rfl rfl ?_
      refine LL.nil ?_
      refine EE.inN ?_
      refine EE.thenN ?_
      refine CC.region ?_
      refine LL.val (R.move rfl rfl) rfl rfl rfl ?_
      refine LL.val (R.addNc rfl rfl rfl rfl (by omega)) rfl rfl rfl ?_
      refine LL.val (R.assign rfl rfl) rfl rfl rfl ?_
      refine LL.nil ?_
      exact EE.round (i + 1, false) ⟨rfl, rfl, rfl, rfl, rfl, rfl, rfl, rfl, trivial⟩ ⟨by show i + 1 ≤ n; omega, q, hMF _ q1, hMF2 _ q1, by show false = _; rw [hsn]; rfl⟩ (by show n - (i + 1) < n - i; omega)
    | true =>
      cases hfa : fitA N (k, x, v) with
      | true =>
        refine CC.seq ?_
        refine CC.seq ?_
        refine CC.region ?_
        refine LL.val (R.move rfl rfl) rfl rfl rfl ?_
        refine LL.val (R.move rfl rfl) rfl rfl rfl ?_
        refine LL.val (R.len rfl rfl rfl rfl) rfl rfl rfl ?_
        refine LL.val (R.ltT rfl rfl rfl (by omega)) rfl rfl rfl ?_
        refine LL.nilS ?_
        refine CC.yes rfl ?_
        refine CC.skip ?_
        refine EE.thenN ?_
        refine CC.seq ?_
        refine CC.block ?_
        refine CC.region ?_
        refine LL.val (R.move rfl rfl) rfl rfl rfl ?_
        refine LL.val (R.move rfl rfl) rfl rfl rfl ?_
        refine LL.val (R.move rfl rfl) rfl rfl rfl ?_
        refine LL.val (R.move rfl rfl) rfl rfl rfl ?_
        refine LL.val (R.index rfl rfl rfl (I.ixS rfl (by omega))) rfl rfl rfl ?_
        refine LL.val (R.load rfl rfl (I.ldM (by assumption) rfl rfl)) rfl rfl rfl ?_
        refine LL.val (R.move rfl rfl) rfl rfl rfl ?_
        refine LL.val (R.len rfl rfl rfl rfl) rfl rfl rfl ?_
        (refine LL.call (R.call rfl rfl rfl) rfl rfl rfl (right_T2 N k x v _ hN hfa) ?_; rintro e We88 ⟨rfl, be85⟩; refine ⟨_, rfl, ?_⟩)
        have zbe85 := be85.size
        replace q := q.trans (be85.mono q.size)
        replace m1 := m1.up be85
        replace q1 := q1.trans (be85.mono q1.size)
        refine LL.val (R.pick rfl rfl rfl) rfl rfl rfl ?_
        refine LL.val (R.assign rfl rfl) rfl rfl rfl ?_
        refine LL.nil ?_
        refine EE.inN ?_
        refine EE.thenN ?_
        refine CC.region ?_
        refine LL.val (R.move rfl rfl) rfl rfl rfl ?_
        refine LL.val (R.addNc rfl rfl rfl rfl (by omega)) rfl rfl rfl ?_
        refine LL.val (R.assign rfl rfl) rfl rfl rfl ?_
        refine LL.nil ?_
        exact EE.round (i + 1, true) ⟨rfl, rfl, rfl, rfl, rfl, rfl, rfl, rfl, trivial⟩ ⟨by show i + 1 ≤ n; omega, q, hMF _ q1, hMF2 _ q1, by show true = _; rw [hsn, hfa]; rfl⟩ (by show n - (i + 1) < n - i; omega)
      | false =>
        refine CC.seq ?_
        refine CC.seq ?_
        refine CC.region ?_
        refine LL.val (R.move rfl rfl) rfl rfl rfl ?_
        refine LL.val (R.move rfl rfl) rfl rfl rfl ?_
        refine LL.val (R.len rfl rfl rfl rfl) rfl rfl rfl ?_
        refine LL.val (R.ltT rfl rfl rfl (by omega)) rfl rfl rfl ?_
        refine LL.nilS ?_
        refine CC.yes rfl ?_
        refine CC.skip ?_
        refine EE.thenN ?_
        refine CC.seq ?_
        refine CC.block ?_
        refine CC.region ?_
        refine LL.val (R.move rfl rfl) rfl rfl rfl ?_
        refine LL.val (R.move rfl rfl) rfl rfl rfl ?_
        refine LL.val (R.move rfl rfl) rfl rfl rfl ?_
        refine LL.val (R.move rfl rfl) rfl rfl rfl ?_
        refine LL.val (R.index rfl rfl rfl (I.ixS rfl (by omega))) rfl rfl rfl ?_
        refine LL.val (R.load rfl rfl (I.ldM (by assumption) rfl rfl)) rfl rfl rfl ?_
        refine LL.val (R.move rfl rfl) rfl rfl rfl ?_
        refine LL.val (R.len rfl rfl rfl rfl) rfl rfl rfl ?_
        (refine LL.call (R.call rfl rfl rfl) rfl rfl rfl (right_F2 N k x v _ hN hfa) ?_; rintro e Wf88 ⟨rfl, bf85⟩; refine ⟨_, rfl, ?_⟩)
        have zbf85 := bf85.size
        replace q := q.trans (bf85.mono q.size)
        replace m1 := m1.up bf85
        replace q1 := q1.trans (bf85.mono q1.size)
        refine LL.val (R.pick rfl rfl rfl) rfl rfl rfl ?_
        refine LL.val (R.assign rfl rfl) rfl rfl rfl ?_
        refine LL.nil ?_
        refine EE.inN ?_
        refine EE.thenN ?_
        refine CC.region ?_
        refine LL.val (R.move rfl rfl) rfl rfl rfl ?_
        refine LL.val (R.addNc rfl rfl rfl rfl (by omega)) rfl rfl rfl ?_
        refine LL.val (R.assign rfl rfl) rfl rfl rfl ?_
        refine LL.nil ?_
        exact EE.round (i + 1, false) ⟨rfl, rfl, rfl, rfl, rfl, rfl, rfl, rfl, trivial⟩ ⟨by show i + 1 ≤ n; omega, q, hMF _ q1, hMF2 _ q1, by show false = _; rw [hsn, hfa]; rfl⟩ (by show n - (i + 1) < n - i; omega)
  obtain rfl : i = n := by omega
  rw [List.take_of_length_le (by omega)] at hb
  have lM := M.lts
  have lM2 := M2.lts
  cases b with
  | false =>
    have hMF : ∀ W', Below W.heap.size W W' → Mem W' m gn gl qb N (ofS N ws) := fun W' b => M.up b
    have hMF2 : ∀ W', Below W.heap.size W W' → Mem W' m2 gn2 gl2 qb2 N (ofS N ws) := fun W' b => M2.up b
    have q1 := Below.refl W.heap.size W
    clear M M2
    refine CC.seq ?_
    refine CC.seq ?_
    refine CC.region ?_
    refine LL.val (R.move rfl rfl) rfl rfl rfl ?_
    refine LL.val (R.move rfl rfl) rfl rfl rfl ?_
    refine LL.val (R.len rfl rfl rfl rfl) rfl rfl rfl ?_
    refine LL.val (R.ltF rfl rfl rfl (by omega)) rfl rfl rfl ?_
    refine LL.nilS ?_
    refine CC.no rfl ?_
    refine CC.exit ?_
    refine EE.thenX ?_
    refine EE.thenX ?_
    refine EE.inX ?_
    refine EE.thenN ?_
    refine CC.seq ?_
    refine CC.region ?_
    refine LL.val (R.move rfl rfl) rfl rfl rfl ?_
    refine LL.val (R.move rfl rfl) rfl rfl rfl ?_
    (refine LL.call (R.call rfl rfl rfl) rfl rfl rfl (run_F m gn gl qb N _ l _ (hMF _ q1) (by omega) hb.symm (haF _ q)) ?_; rintro e Wg130 ⟨rfl, bg127⟩; refine ⟨_, rfl, ?_⟩)
    have zbg127 := bg127.size
    replace q := q.trans (bg127.mono q.size)
    replace q1 := q1.trans (bg127.mono q1.size)
    refine LL.call (R.call rfl rfl rfl) rfl rfl rfl (num_any _ _) ?_
    rintro e W' ⟨rfl, rfl⟩
    refine ⟨_, rfl, ?_⟩
    refine LL.val (R.assign rfl rfl) rfl rfl rfl ?_
    refine LL.nilS ?_
    refine CC.seq ?_
    refine CC.seq ?_
    refine CC.region ?_
    refine LL.val (R.move rfl rfl) rfl rfl rfl ?_
    refine LL.call (R.call rfl rfl rfl) rfl rfl rfl (num_any _ _) ?_
    rintro e W' ⟨rfl, rfl⟩
    refine ⟨_, rfl, ?_⟩
    refine LL.val (R.move rfl rfl) rfl rfl rfl ?_
    refine LL.call (R.call rfl rfl rfl) rfl rfl rfl (num_any _ _) ?_
    rintro e W' ⟨rfl, rfl⟩
    refine ⟨_, rfl, ?_⟩
    refine LL.val (R.addIz (z := 0) rfl rfl rfl (by decide) (by decide)) rfl rfl rfl ?_
    refine LL.val (R.neF rfl rfl rfl (by omega)) rfl rfl rfl ?_
    refine LL.val (R.move rfl rfl) rfl rfl rfl ?_
    refine LL.val (R.move rfl rfl) rfl rfl rfl ?_
    (refine LL.call (R.call rfl rfl rfl) rfl rfl rfl (run_0 _ _) ?_; rintro e Wg354 ⟨rfl, bg351⟩; refine ⟨_, rfl, ?_⟩)
    have zbg351 := bg351.size
    replace bg127 := bg127.trans (bg351.mono bg127.size)
    replace q := q.trans (bg351.mono q.size)
    replace q1 := q1.trans (bg351.mono q1.size)
    refine LL.call (R.call rfl rfl rfl) rfl rfl rfl (num_any _ _) ?_
    rintro e W' ⟨rfl, rfl⟩
    refine ⟨_, rfl, ?_⟩
    refine LL.val (R.neF rfl rfl rfl (by omega)) rfl rfl rfl ?_
    refine LL.val (R.pick rfl rfl rfl) rfl rfl rfl ?_
    refine LL.nilS ?_
    refine CC.no rfl ?_
    refine CC.skip ?_
    refine EE.thenN ?_
    refine CC.seq ?_
    refine CC.seq ?_
    refine CC.region ?_
    refine LL.val (R.move rfl rfl) rfl rfl rfl ?_
    refine LL.val (R.not rfl rfl) rfl rfl rfl ?_
    refine LL.nilS ?_
    refine CC.yes rfl ?_
    refine CC.seq ?_
    refine CC.region ?_
    refine LL.val (R.move rfl rfl) rfl rfl rfl ?_
    refine LL.val (R.eqT rfl rfl rfl (by omega)) rfl rfl rfl ?_
    refine LL.val (R.move rfl rfl) rfl rfl rfl ?_
    refine LL.val (R.move rfl rfl) rfl rfl rfl ?_
    refine LL.val (R.move rfl rfl) rfl rfl rfl ?_
    (refine LL.call (R.call rfl rfl rfl) rfl rfl rfl (psame_T (hMF _ q1) (hMF2 _ q1)) ?_; rintro e Wg585 ⟨rfl, bg582⟩; refine ⟨_, rfl, ?_⟩)
    have zbg582 := bg582.size
    replace bg351 := bg351.trans (bg582.mono bg351.size)
    replace bg127 := bg127.trans (bg582.mono bg127.size)
    replace q := q.trans (bg582.mono q.size)
    replace q1 := q1.trans (bg582.mono q1.size)
    refine LL.val (R.pick rfl rfl rfl) rfl rfl rfl ?_
    refine LL.val (R.move rfl rfl) rfl rfl rfl ?_
    refine LL.call (R.call rfl rfl rfl) rfl rfl rfl (works_any _) ?_
    rintro e Wg653 ⟨rfl, bg652⟩
    refine ⟨_, rfl, ?_⟩
    have zbg652 := bg652.size
    replace bg582 := bg582.trans (bg652.mono bg582.size)
    replace bg351 := bg351.trans (bg652.mono bg351.size)
    replace bg127 := bg127.trans (bg652.mono bg127.size)
    replace q := q.trans (bg652.mono q.size)
    replace q1 := q1.trans (bg652.mono q1.size)
    refine LL.val (R.pick rfl rfl rfl) rfl rfl rfl ?_
    refine LL.val (R.assign rfl rfl) rfl rfl rfl ?_
    refine LL.nilS ?_
    refine CC.ret ?_
    refine EE.thenR ?_
    refine EE.ret _ rfl rfl ?_
    exact ⟨rfl, q⟩
  | true =>
    refine CC.seq ?_
    refine CC.seq ?_
    refine CC.region ?_
    refine LL.val (R.move rfl rfl) rfl rfl rfl ?_
    refine LL.val (R.move rfl rfl) rfl rfl rfl ?_
    refine LL.val (R.len rfl rfl rfl rfl) rfl rfl rfl ?_
    refine LL.val (R.ltF rfl rfl rfl (by omega)) rfl rfl rfl ?_
    refine LL.nilS ?_
    refine CC.no rfl ?_
    refine CC.exit ?_
    refine EE.thenX ?_
    refine EE.thenX ?_
    refine EE.inX ?_
    refine EE.thenN ?_
    refine CC.seq ?_
    refine CC.region ?_
    refine LL.val (R.move rfl rfl) rfl rfl rfl ?_
    refine LL.val (R.move rfl rfl) rfl rfl rfl ?_
    (refine LL.call (R.call rfl rfl rfl) rfl rfl rfl (run_T m gn gl qb N _ l _ M (by omega) hb.symm (fun W' h => haF W' (h.onB q (fun j hj => ⟨by omega, by omega⟩)))) ?_; rintro e Wh88 ⟨rfl, M3, th87⟩; refine ⟨_, rfl, ?_⟩; replace M2 := M2.kept th87 ⟨by omega, by omega⟩ ⟨by omega, by omega⟩ ⟨by omega, by omega⟩ ⟨by omega, by omega⟩; clear M; have M := M3; clear M3)
    have zth87 := th87.size
    replace q := th87.onB q (fun j hj => ⟨by have := q.size; omega, by omega⟩)
    refine LL.call (R.call rfl rfl rfl) rfl rfl rfl (num_any _ _) ?_
    rintro e W' ⟨rfl, rfl⟩
    refine ⟨_, rfl, ?_⟩
    refine LL.val (R.assign rfl rfl) rfl rfl rfl ?_
    refine LL.nilS ?_
    refine CC.seq ?_
    refine CC.seq ?_
    refine CC.region ?_
    refine LL.val (R.move rfl rfl) rfl rfl rfl ?_
    refine LL.call (R.call rfl rfl rfl) rfl rfl rfl (num_any _ _) ?_
    rintro e W' ⟨rfl, rfl⟩
    refine ⟨_, rfl, ?_⟩
    refine LL.val (R.move rfl rfl) rfl rfl rfl ?_
    refine LL.call (R.call rfl rfl rfl) rfl rfl rfl (num_any _ _) ?_
    rintro e W' ⟨rfl, rfl⟩
    refine ⟨_, rfl, ?_⟩
    refine LL.val (R.addIz (z := 0) rfl rfl rfl (by decide) (by decide)) rfl rfl rfl ?_
    refine LL.val (R.neF rfl rfl rfl (by omega)) rfl rfl rfl ?_
    refine LL.val (R.move rfl rfl) rfl rfl rfl ?_
    refine LL.val (R.move rfl rfl) rfl rfl rfl ?_
    (refine LL.call (R.call rfl rfl rfl) rfl rfl rfl (run_0 _ _) ?_; rintro e Wh242 ⟨rfl, bh239⟩; refine ⟨_, rfl, ?_⟩; replace M := M.up bh239; replace M2 := M2.up bh239)
    have zbh239 := bh239.size
    replace q := q.trans (bh239.mono q.size)
    refine LL.call (R.call rfl rfl rfl) rfl rfl rfl (num_any _ _) ?_
    rintro e W' ⟨rfl, rfl⟩
    refine ⟨_, rfl, ?_⟩
    refine LL.val (R.neF rfl rfl rfl (by omega)) rfl rfl rfl ?_
    refine LL.val (R.pick rfl rfl rfl) rfl rfl rfl ?_
    refine LL.nilS ?_
    refine CC.no rfl ?_
    refine CC.skip ?_
    refine EE.thenN ?_
    refine CC.seq ?_
    refine CC.seq ?_
    refine CC.region ?_
    refine LL.val (R.move rfl rfl) rfl rfl rfl ?_
    refine LL.val (R.not rfl rfl) rfl rfl rfl ?_
    refine LL.nilS ?_
    refine CC.no rfl ?_
    refine CC.skip ?_
    refine EE.thenN ?_
    refine CC.seq ?_
    refine CC.seq ?_
    refine CC.region ?_
    refine LL.val (R.assign rfl rfl) rfl rfl rfl ?_
    refine LL.nilS ?_
    refine CC.block ?_
    have yq2 := q.size
    refine CC.loop (α := Nat) (fun j => [(0, .slice a0 (N * 8) c0), (1, .slice a1 i c1), (5, .pointer (some ⟨m, 0, none⟩)), (7, .pointer (some ⟨m2, 0, none⟩)), (11, .int .i64 0), (12, .int .i64 (j : Int))]) (fun j W => j ≤ i ∧ Below w.heap.size w W ∧ Mem W m gn gl qb N (doAs (ofS N ws) l) ∧ Mem W m2 gn2 gl2 qb2 N (doAs (ofS N ws) (l.take j))) (fun j => i - j) 0 ⟨rfl, rfl, rfl, rfl, rfl, rfl, trivial⟩ ⟨Nat.zero_le _, q, M, M2⟩ ?_
    clear q M M2
    rintro j W2 ⟨hj, q, M, M2⟩
    have yw2 := q.size
    have lM3 := M.lts
    have lM4 := M2.lts
    by_cases hlt2 : j < i
    case neg =>
      obtain rfl : j = i := by omega
      rw [List.take_of_length_le (by omega)] at M2
      refine CC.seq ?_
      refine CC.seq ?_
      refine CC.region ?_
      refine LL.val (R.move rfl rfl) rfl rfl rfl ?_
      refine LL.val (R.move rfl rfl) rfl rfl rfl ?_
      refine LL.val (R.len rfl rfl rfl rfl) rfl rfl rfl ?_
      refine LL.val (R.ltF rfl rfl rfl (by omega)) rfl rfl rfl ?_
      refine LL.nilS ?_
      refine CC.no rfl ?_
      refine CC.exit ?_
      refine EE.thenX ?_
      refine EE.thenX ?_
      refine EE.inX ?_
      refine EE.thenN ?_
      refine CC.seq ?_
      refine CC.region ?_
      refine LL.val (R.move rfl rfl) rfl rfl rfl ?_
      refine LL.val (R.eqT rfl rfl rfl (by omega)) rfl rfl rfl ?_
      refine LL.val (R.move rfl rfl) rfl rfl rfl ?_
      refine LL.val (R.move rfl rfl) rfl rfl rfl ?_
      refine LL.val (R.move rfl rfl) rfl rfl rfl ?_
      (refine LL.call (R.call rfl rfl rfl) rfl rfl rfl (psame_T M M2) ?_; rintro e Wi67 ⟨rfl, bi64⟩; refine ⟨_, rfl, ?_⟩)
      have zbi64 := bi64.size
      replace q := q.trans (bi64.mono q.size)
      replace M := M.up bi64
      replace M2 := M2.up bi64
      refine LL.val (R.pick rfl rfl rfl) rfl rfl rfl ?_
      refine LL.val (R.move rfl rfl) rfl rfl rfl ?_
      refine LL.call (R.call rfl rfl rfl) rfl rfl rfl (works_any _) ?_
      rintro e Wi93 ⟨rfl, bi92⟩
      refine ⟨_, rfl, ?_⟩
      have zbi92 := bi92.size
      replace bi64 := bi64.trans (bi92.mono bi64.size)
      replace q := q.trans (bi92.mono q.size)
      replace M := M.up bi92
      replace M2 := M2.up bi92
      refine LL.val (R.pick rfl rfl rfl) rfl rfl rfl ?_
      refine LL.val (R.assign rfl rfl) rfl rfl rfl ?_
      refine LL.nilS ?_
      refine CC.ret ?_
      refine EE.ret _ rfl rfl ?_
      exact ⟨rfl, q⟩
    obtain ⟨⟨k, x, v⟩, hget⟩ : ∃ x, l[j]? = some x := ⟨_, List.getElem?_eq_getElem (by omega)⟩
    have hfa := fitAs_at hb.symm hget
    have hds := doAs_snoc (ofS N ws) hget
    obtain ⟨bs, os, rfl, lbs, _⟩ := (haF w (Below.refl _ _)).get aEnc hget
    have m1 : CellsN W2 ⟨bs, os + j * 3, none⟩ 3 [.int .i64 k, .int .i64 x, .int .u64 (v : Int)] := (haF W2 q).elemN aEnc hget
    refine CC.seq ?_
    refine CC.seq ?_
    refine CC.region ?_
    refine LL.val (R.move rfl rfl) rfl rfl rfl ?_
    refine LL.val (R.move rfl rfl) rfl rfl rfl ?_
    refine LL.val (R.len rfl rfl rfl rfl) rfl rfl rfl ?_
    refine LL.val (R.ltT rfl rfl rfl (by omega)) rfl rfl rfl ?_
    refine LL.nilS ?_
    refine CC.yes rfl ?_
    refine CC.skip ?_
    refine EE.thenN ?_
    refine CC.seq ?_
    refine CC.block ?_
    refine CC.seq ?_
    refine CC.region ?_
    refine LL.val (R.move rfl rfl) rfl rfl rfl ?_
    refine LL.val (R.move rfl rfl) rfl rfl rfl ?_
    refine LL.val (R.move rfl rfl) rfl rfl rfl ?_
    refine LL.val (R.index rfl rfl rfl (I.ixS rfl (by omega))) rfl rfl rfl ?_
    refine LL.val (R.load rfl rfl (I.ldM (by assumption) rfl rfl)) rfl rfl rfl ?_
    (refine LL.call (R.call rfl rfl rfl) rfl rfl rfl (done_any m2 gn2 gl2 qb2 N k x v _ M2 hfa) ?_; rintro e Wj67 ⟨rfl, M3, tj66⟩; refine ⟨_, rfl, ?_⟩; clear m1; replace M := M.kept tj66 ⟨by omega, by omega⟩ ⟨by omega, by omega⟩ ⟨by omega, by omega⟩ ⟨by omega, by omega⟩; clear M2; have M2 := M3; clear M3)
    have ztj66 := tj66.size
    replace q := tj66.onB q (fun j hj => ⟨by have := q.size; omega, by omega⟩)
    refine LL.val (R.not rfl rfl) rfl rfl rfl ?_
    refine LL.nilS ?_
    refine CC.no rfl ?_
    refine CC.skip ?_
    refine EE.inN ?_
    refine EE.thenN ?_
    refine CC.region ?_
    refine LL.val (R.move rfl rfl) rfl rfl rfl ?_
    refine LL.val (R.addNc rfl rfl rfl rfl (by omega)) rfl rfl rfl ?_
    refine LL.val (R.assign rfl rfl) rfl rfl rfl ?_
    refine LL.nil ?_
    exact EE.round (j + 1) ⟨rfl, rfl, rfl, rfl, rfl, rfl, trivial⟩ ⟨by omega, q, M, by rw [hds]; exact M2⟩ (by omega)
end Go.Proofs.Ytcmgpfahpmkeoaa

/- Opening the arguments of a law: slices of numbers, pairs of numbers. -/
namespace Go.Proofs.Ytcmgpfahpmkeoaa
set_option linter.unusedVariables false
set_option linter.unusedSimpArgs false
open Go.RowKit Go.ChangeShapes Go.WideShapes Go.ChangeAt

theorem own : ownKnob Try.prog.godebug = none := by kernel_rfl
theorem laidOut : laidOutB Try.prog = true := by kernel_rfl

section
variable {H : Type} {enc : TypeId × Value → H} {P : Program} {w : World} {base : Nat} {spare : Nat → Bool} {held : Bool} {r : Reach} {b0 : Nat} {t : TypeId} {v : Value} {d : DataW H} {p : List MemPlace}

theorem wf_u8 {n : Int} (h : (Lit.int .u8 n).wf = true) : 0 ≤ n ∧ n < 256 := by
  simp [Lit.wf, IntKind.min, IntKind.max, IntKind.signed, IntKind.bits] at h; omega
theorem wf_u64 {n : Int} (h : (Lit.int .u64 n).wf = true) : 0 ≤ n ∧ n < 18446744073709551616 := by
  simp [Lit.wf, IntKind.min, IntKind.max, IntKind.signed, IntKind.bits] at h; omega
theorem wf_i64 {n : Int} (h : (Lit.int .i64 n).wf = true) : -9223372036854775808 ≤ n ∧ n ≤ 9223372036854775807 := by
  simp [Lit.wf, IntKind.min, IntKind.max, IntKind.signed, IntKind.bits] at h; omega

/-- A slice of unsigned numbers. -/
theorem open_nats {e : TypeId} {k : IntKind} {M : Nat} (ht : P.underlying t = some (.slice e)) (he : P.underlying e = some (.int k)) (hc : P.cellsOf e = 1) (hk : ∀ n, (Lit.int k n).wf = true → 0 ≤ n ∧ n < (M : Int))
    (hv : Value.okWide P w r b0 t v) (h : DataW.Trod enc P w base spare held t v d p) : ∃ ns : List Nat, Reads w v (ints k ns) ∧ (∀ n ∈ ns, n < M) ∧ ns.length ≤ 9223372036854775807 := by
  obtain ⟨a, len, cap, rfl⟩ := okWide_slice ht hv
  obtain ⟨fuel, hf⟩ := h
  rcases open_ints ht he hc hf with ⟨hcs, _⟩ | ⟨x, l, c, zs, hcs, _, hl, hm, hz, _, hcell, hwz⟩
  · simp [Value.cells] at hcs
    obtain ⟨rfl, rfl, rfl⟩ := hcs
    exact ⟨[], Reads.nil w, by simp, by simp⟩
  · simp [Value.cells] at hcs
    obtain ⟨rfl, rfl, rfl⟩ := hcs
    have hlz : len ≤ zs.length := by rw [hz]; split <;> omega
    refine ⟨(zs.take len).map Int.toNat, ?_, ?_, ?_⟩
    · have hlen : ((zs.take len).map Int.toNat).length = len := by simp; omega
      refine ⟨some x, cap, by rw [List.length_map, hlen], by rw [List.length_map, hlen]; exact hl, fun hne => ?_⟩
      have h0 : 0 < len := by
        rcases Nat.eq_zero_or_pos len with h0 | h0
        · subst h0; simp at hne
        · exact h0
      obtain ⟨b, off, spot⟩ := x
      have hc0 := hcell 0 (by omega)
      have hspot : spot = none := by simpa [Addr.add] using World.cell?_spot hc0
      subst hspot
      have hblt : b < w.heap.size := by
        rcases Nat.lt_or_ge b w.heap.size with hb | hb
        · exact hb
        · simp [Addr.add, World.cell?, Array.getElem?_eq_none hb] at hc0
      refine ⟨b, off, rfl, hblt, fun j hj => ?_⟩
      rw [List.length_map, hlen] at hj
      have hcj := hcell j (by omega)
      have hjz : j < zs.length := by omega
      have hw := hk _ (hwz zs[j] (List.getElem_mem hjz))
      rw [Addr.add_lit] at hcj
      rw [hcj]
      simp [List.getElem?_take, hj, hjz, List.getD]
      omega
    · intro n hn
      simp only [List.mem_map] at hn
      obtain ⟨z, hz', rfl⟩ := hn
      have := hk _ (hwz z (List.mem_of_mem_take hz'))
      omega
    · simp only [List.length_map, List.length_take]
      unfold maxLen at hm
      omega

/-- An array of two ints. -/
theorem open_two {e : TypeId} (ht : P.underlying t = some (.array 2 e)) (he : P.underlying e = some (.int .i64)) (hc : P.cellsOf e = 1) (hC : P.cellsOf t = 2)
    (hv : Value.okWide P w r b0 t v) (h : DataW.Trod enc P w base spare held t v d p) : ∃ x y : Int, v = .agg #[.int .i64 x, .int .i64 y] ∧ (Lit.int .i64 x).wf = true ∧ (Lit.int .i64 y).wf = true := by
  have hg : ∃ cs, v = .agg cs ∧ cs.size = P.cellsOf t := by
    simp only [Value.okWide, ht] at hv
    obtain ⟨cs, h1, h2, _⟩ := hv
    exact ⟨cs, h1, h2⟩
  obtain ⟨cs, rfl, hsz⟩ := hg
  obtain ⟨fuel, hf⟩ := h
  obtain ⟨xs, m, _, _, hl, hx, hi⟩ := DataW.trod_array ht hf
  have h0 := hi 0 (by omega)
  have h1 := hi 1 (by omega)
  rw [List.getElem?_eq_getElem (by omega)] at h0 h1
  obtain ⟨n0, e0, _, w0⟩ := DataW.trod_int he h0
  obtain ⟨n1, e1, _, w1⟩ := DataW.trod_int he h1
  refine ⟨n0, n1, ?_, w0, w1⟩
  rw [hc] at e0 e1
  simp only [Value.cells] at e0 e1 hl
  rw [hC] at hl
  congr 1
  apply Array.ext'
  match hcs : cs.toList, hl with
  | [c0, c1], _ =>
    rw [hcs] at e0 e1
    simp at e0 e1
    simp [e0, e1]
theorem open_twoK {k : IntKind} {e : TypeId} (ht : P.underlying t = some (.array 2 e)) (he : P.underlying e = some (.int k)) (hc : P.cellsOf e = 1) (hC : P.cellsOf t = 2)
    (hv : Value.okWide P w r b0 t v) (h : DataW.Trod enc P w base spare held t v d p) : ∃ x y : Int, v = .agg #[Value.int k x, Value.int k y] ∧ (Lit.int k x).wf = true ∧ (Lit.int k y).wf = true := by
  have hg : ∃ cs, v = .agg cs ∧ cs.size = P.cellsOf t := by
    simp only [Value.okWide, ht] at hv
    obtain ⟨cs, h1, h2, _⟩ := hv
    exact ⟨cs, h1, h2⟩
  obtain ⟨cs, rfl, hsz⟩ := hg
  obtain ⟨fuel, hf⟩ := h
  obtain ⟨xs, m, _, _, hl, hx, hi⟩ := DataW.trod_array ht hf
  have h0 := hi 0 (by omega)
  have h1 := hi 1 (by omega)
  rw [List.getElem?_eq_getElem (by omega)] at h0 h1
  obtain ⟨n0, e0, _, w0⟩ := DataW.trod_int he h0
  obtain ⟨n1, e1, _, w1⟩ := DataW.trod_int he h1
  refine ⟨n0, n1, ?_, w0, w1⟩
  rw [hc] at e0 e1
  simp only [Value.cells] at e0 e1 hl
  rw [hC] at hl
  congr 1
  apply Array.ext'
  match hcs : cs.toList, hl with
  | [c0, c1], _ =>
    rw [hcs] at e0 e1
    simp at e0 e1
    simp [e0, e1]
end
end Go.Proofs.Ytcmgpfahpmkeoaa

/- Opening the arguments of a law: structs and arrays of integers, and of such. Over any program. -/
namespace Go.Proofs.Ytcmgpfahpmkeoaa
set_option linter.unusedVariables false
set_option linter.unusedSimpArgs false
open Go.RowKit Go.ChangeShapes Go.WideShapes Go.ChangeAt
/-- Which kind of integer lies at a cell. -/
def atC (P : Program) : Nat → TypeId → Nat → Option IntKind
  | 0, _, _ => none
  | d + 1, t, j => match P.underlying t with
    | some (.struct fs) => fs.toList.findSome? fun f => if f.offset ≤ j ∧ j < f.offset + P.cellsOf f.type then atC P d f.type (j - f.offset) else none
    | some (.array n e) => if j / P.cellsOf e < n then atC P d e (j % P.cellsOf e) else none
    | some (.int k) => if j = 0 then some k else none
    | _ => none
section
variable {H : Type} {enc : TypeId × Value → H} {P : Program} {w : World} {base : Nat} {spare : Nat → Bool} {held : Bool} {r : Reach} {b0 : Nat} {t : TypeId} {v : Value} {d : DataW H} {p : List MemPlace}
theorem trod_at : ∀ (n : Nat) (t : TypeId) (j fuel : Nat) (cs : List Value) (x : DataW H × List MemPlace) (k : IntKind), atC P n t j = some k → DataW.trod enc P w base spare held fuel t cs = some x → ∃ z : Int, cs[j]? = some (.int k z) ∧ (Lit.int k z).wf = true
  | 0, _, _, _, _, _, _, h, _ => by cases h
  | n + 1, t, j, fuel, cs, x, k, h, hx => by
    cases hu : P.underlying t with
    | none => simp [atC, hu] at h
    | some kd =>
      cases kd <;> simp only [atC, hu] at h <;> try (cases h; done)
      case int q =>
        split at h
        · rename_i hj
          cases h
          subst hj
          obtain ⟨z, e, _, hw⟩ := DataW.trod_int hu hx
          exact ⟨z, by rw [e]; rfl, hw⟩
        · cases h
      case struct fs =>
        obtain ⟨f, hf, hfk⟩ := List.exists_of_findSome?_eq_some h
        split at hfk
        · rename_i hj
          obtain ⟨xs, m, _, rfl, hl, hlen, hf2⟩ := DataW.trod_struct hu hx
          obtain ⟨i, hi⟩ := List.mem_iff_getElem?.1 hf
          have h2 := hf2 i f (by simpa using hi)
          have hil : i < xs.length := by
            have := (List.getElem?_eq_some_iff.1 hi).1
            rw [Array.length_toList] at this
            omega
          rw [List.getElem?_eq_getElem hil] at h2
          obtain ⟨z, e, hw⟩ := trod_at n f.type (j - f.offset) _ _ _ k hfk h2
          refine ⟨z, ?_, hw⟩
          rw [List.getElem?_take] at e
          split at e
          · rw [List.getElem?_drop] at e
            rwa [show f.offset + (j - f.offset) = j by omega] at e
          · cases e
        · cases hfk
      case array m e =>
        split at h
        · rename_i hj
          obtain ⟨xs, m', _, rfl, hl, hlen, hi⟩ := DataW.trod_array hu hx
          have h2 := hi _ hj
          rw [List.getElem?_eq_getElem (by omega)] at h2
          obtain ⟨z, e', hw⟩ := trod_at n e (j % P.cellsOf e) _ _ _ k h h2
          refine ⟨z, ?_, hw⟩
          rw [List.getElem?_take] at e'
          split at e'
          · rw [List.getElem?_drop] at e'
            rwa [show j / P.cellsOf e * P.cellsOf e + j % P.cellsOf e = j by rw [Nat.mul_comm]; exact Nat.div_add_mod _ _] at e'
          · cases e'
        · cases h
theorem open_ints {c : Nat} (ks : Nat → IntKind) (hs : (match P.underlying t with | some (.struct _) | some (.array _ _) => true | _ => false) = true) (hc : P.cellsOf t = c) (hk : (List.range c).all (fun j => atC P 9 t j == some (ks j)) = true)
    (hv : Value.okWide P w r b0 t v) (h : DataW.Trod enc P w base spare held t v d p) : ∃ g : Nat → Int, v = .agg ((List.range c).map fun j => Value.int (ks j) (g j)).toArray ∧ ∀ j, j < c → (Lit.int (ks j) (g j)).wf = true := by
  have hg : ∃ cs, v = .agg cs ∧ cs.size = P.cellsOf t := by
    unfold Value.okWide at hv
    split at hv
    · obtain ⟨cs, h1, h2, _⟩ := hv; exact ⟨cs, h1, h2⟩
    · obtain ⟨cs, h1, h2, _⟩ := hv; exact ⟨cs, h1, h2⟩
    · rename_i h1 h2
      split at hs <;> simp_all
  obtain ⟨cs, rfl, hsz⟩ := hg
  obtain ⟨fuel, hf⟩ := h
  have key : ∀ j, ∃ z : Int, j < c → cs.toList[j]? = some (.int (ks j) z) ∧ (Lit.int (ks j) z).wf = true := by
    intro j
    by_cases hj : j < c
    · have hk' := List.all_eq_true.1 hk j (List.mem_range.2 hj)
      have hk'' : atC P 9 t j = some (ks j) := by simpa using hk'
      obtain ⟨z, h1, h2⟩ := trod_at 9 t j fuel _ _ _ hk'' hf
      exact ⟨z, fun _ => ⟨h1, h2⟩⟩
    · exact ⟨0, fun h => absurd h hj⟩
  refine ⟨fun j => Classical.choose (key j), ?_, fun j hj => (Classical.choose_spec (key j) hj).2⟩
  congr 1
  apply Array.ext'
  apply List.ext_getElem?
  intro j
  simp only [List.toList_toArray, List.getElem?_map]
  by_cases hj : j < c
  · rw [(Classical.choose_spec (key j) hj).1, List.getElem?_range hj]
    rfl
  · rw [List.getElem?_eq_none (by rw [Array.length_toList, hsz, hc]; omega), List.getElem?_eq_none (by simp; omega)]
    rfl
end
end Go.Proofs.Ytcmgpfahpmkeoaa

/- Opening the arguments of a law: slices of structs of integers. Over any program. -/
namespace Go.Proofs.Ytcmgpfahpmkeoaa
set_option linter.unusedVariables false
set_option linter.unusedSimpArgs false
open Go.RowKit Go.ChangeShapes Go.WideShapes Go.ChangeAt Go.Deep
section
variable {α : Type} {encT : α → List Value} {H : Type} {enc : TypeId × Value → H} {P : Program} {w : World} {base : Nat} {spare : Nat → Bool} {held : Bool} {r : Reach} {b0 : Nat} {t : TypeId} {v : Value} {d : DataW H} {p : List MemPlace}
theorem open_rowsT {e c : Nat} (ks : Nat → IntKind) (E : Enc encT c) (f : (Nat → Int) → α) (hf : ∀ g, encT (f g) = (List.range c).map fun j => Value.int (ks j) (g j)) (ht : P.underlying t = some (.slice e)) (ce : P.cellsOf e = c) (hk : (List.range c).all (fun j => atC P 9 e j == some (ks j)) = true)
    (hv : Value.okWide P w r b0 t v) (h : DataW.Trod enc P w base spare held t v d p) : ∃ gs : List (Nat → Int), ReadsT encT c w v (gs.map f) ∧ (∀ g ∈ gs, ∀ j, j < c → (Lit.int (ks j) (g j)).wf = true) ∧ gs.length ≤ 9223372036854775807 := by
  obtain ⟨a, len, cap, rfl⟩ := okWide_slice ht hv
  obtain ⟨fuel, hfu⟩ := h
  rcases open_slice ht hfu with ⟨hcs, _⟩ | ⟨x, l, c', m, n, D, Pl, hcs, hb, hl, hm, hmm, _, hx⟩
  · simp [Value.cells] at hcs
    obtain ⟨rfl, rfl, rfl⟩ := hcs
    exact ⟨[], ReadsT.nil w, by simp, by simp⟩
  · simp [Value.cells] at hcs
    obtain ⟨rfl, rfl, rfl⟩ := hcs
    have hlm : len ≤ m := by rw [hmm]; split <;> omega
    have each : ∀ i, i < len → ∃ g : Nat → Int, ∀ j, j < c → w.cell? (x.add (i * c + j)) = some (.int (ks j) (g j)) ∧ (Lit.int (ks j) (g j)).wf = true := by
      intro i hi
      obtain ⟨cs', h1, h2⟩ := hx i (by omega)
      rw [ce] at h1
      obtain ⟨_, hlen, hcell⟩ := World.cells?_some h1
      have hj : ∀ j, ∃ z : Int, j < c → cs'[j]? = some (.int (ks j) z) ∧ (Lit.int (ks j) z).wf = true := fun j => by
        by_cases hjc : j < c
        · have hkj := List.all_eq_true.1 hk j (List.mem_range.2 hjc)
          obtain ⟨z, h3, h4⟩ := trod_at 9 e j n cs' (D i, Pl i) (ks j) (by simpa using hkj) h2
          exact ⟨z, fun _ => ⟨h3, h4⟩⟩
        · exact ⟨0, fun h => absurd h hjc⟩
      refine ⟨fun j => Classical.choose (hj j), fun j hjc => ?_⟩
      have hs := Classical.choose_spec (hj j) hjc
      refine ⟨?_, hs.2⟩
      have := hcell j (by omega)
      rw [add_add] at this
      rw [this]
      exact hs.1
    obtain ⟨G, hG⟩ := choose_lt each
    have hlen : (((List.range len).map G).map f).length = len := by simp
    refine ⟨(List.range len).map G, ⟨some x, cap, by rw [hlen], by rw [hlen]; exact hl, fun hne => ?_⟩, ?_, ?_⟩
    · have h0 : 0 < len := by
        rcases Nat.eq_zero_or_pos len with h0 | h0
        · subst h0; simp at hne
        · exact h0
      have hcp := E.pos
      obtain ⟨b, off, spot⟩ := x
      have hc0 := (hG 0 h0 0 hcp).1
      have hspot : spot = none := by simpa [Addr.add] using World.cell?_spot hc0
      subst hspot
      have hblt : b < w.heap.size := by
        rcases Nat.lt_or_ge b w.heap.size with hb | hb
        · exact hb
        · simp [Addr.add, World.cell?, Array.getElem?_eq_none hb] at hc0
      refine ⟨b, off, rfl, hblt, fun j hj => ?_⟩
      rw [hlen] at hj
      have hil : j / c < len := (Nat.div_lt_iff_lt_mul hcp).2 hj
      have hrl : j % c < c := Nat.mod_lt _ hcp
      have hc1 := (hG (j / c) hil (j % c) hrl).1
      rw [Addr.add_lit] at hc1
      have hje : j / c * c + j % c = j := by rw [Nat.mul_comm]; exact Nat.div_add_mod _ _
      have hget : (((List.range len).map G).map f)[j / c]? = some (f (G (j / c))) := by simp [hil]
      have hg := E.get _ (j / c) _ hget (j % c) hrl
      rw [hje] at hg hc1
      rw [hg, hf, hc1]
      simp [hrl]
    · intro g hg j hj
      obtain ⟨i, hi, rfl⟩ := List.mem_map.1 hg
      exact (hG i (List.mem_range.1 hi) j hj).2
    · simp only [List.length_map, List.length_range]
      unfold maxLen at hm
      omega
end
end Go.Proofs.Ytcmgpfahpmkeoaa

/- plan: what the shells hand over. -/
namespace Go.Proofs.Ytcmgpfahpmkeoaa
set_option linter.unusedVariables false
set_option linter.unusedSimpArgs false
open Go.RowKit Go.Shelf
def acF (g : Nat → Int) : Int × Int × Int := (g 0, g 1, g 2)

theorem acts_pos {gs : List (Nat → Int)} (h : ∀ g ∈ gs, ∀ j, j < 3 → (Lit.int (if j = 2 then IntKind.u64 else IntKind.i64) (g j)).wf = true) : ∀ x ∈ gs.map acF, 0 ≤ x.2.2 := fun x hx => by
  obtain ⟨g, hg, rfl⟩ := List.mem_map.1 hx
  have := h g hg 2 (by decide)
  rw [if_pos rfl] at this
  exact (wf_u64 this).1

theorem acts_len {gs : List (Nat → Int)} (h : gs.length ≤ 9223372036854775807) : (gs.map acF).length ≤ 9223372036854775807 := by
  rw [List.length_map]
  exact h

theorem reads_uE {w : World} {v : Value} {ws : List Nat} (h : Reads w v (ints .u64 ws)) : ReadsT uE 1 w v ws := by
  obtain ⟨a, cap, e, hc, h⟩ := h
  have hl : (ints .u64 ws).length = ws.length := by simp [ints]
  rw [hl] at e hc
  exact ⟨a, cap, e, hc, fun hne => by
    obtain ⟨b, off, h1, h2, h3⟩ := h (by intro e; rw [e] at hl; exact hne (List.eq_nil_of_length_eq_zero hl.symm))
    exact ⟨b, off, h1, h2, fun j hj => by rw [flat_u]; exact h3 j (by omega)⟩⟩

theorem flat_y (ws : List Nat) : ws.flatMap yE = ints .u8 ws := by
  induction ws with
  | nil => rfl
  | cons x ws ih => rw [List.flatMap_cons, ih]; rfl

theorem reads_yE {w : World} {v : Value} {ws : List Nat} (h : Reads w v (ints .u8 ws)) : ReadsT yE 1 w v ws := by
  obtain ⟨a, cap, e, hc, h⟩ := h
  have hl : (ints .u8 ws).length = ws.length := by simp [ints]
  rw [hl] at e hc
  exact ⟨a, cap, e, hc, fun hne => by
    obtain ⟨b, off, h1, h2, h3⟩ := h (by intro e; rw [e] at hl; exact hne (List.eq_nil_of_length_eq_zero hl.symm))
    exact ⟨b, off, h1, h2, fun j hj => by rw [flat_y]; exact h3 j (by omega)⟩⟩

def actE (x : Int × Int × Int) : List Value := [.int .i64 x.1, .int .i64 x.2.1, .int .u64 x.2.2]
theorem actEnc : Enc actE 3 := ⟨fun _ => rfl, fun a u hu => by
  simp only [actE, List.mem_cons, List.not_mem_nil, or_false] at hu
  rcases hu with rfl | rfl | rfl <;> rfl, by decide⟩
def toAc (x : Int × Int × Int) : Ac := (x.1, x.2.1, x.2.2.toNat)
theorem flat_ac {xs : List (Int × Int × Int)} (h : ∀ x ∈ xs, 0 ≤ x.2.2) : (xs.map toAc).flatMap aE = xs.flatMap actE := by
  induction xs with
  | nil => rfl
  | cons x xs ih =>
    have h0 := h x (List.mem_cons_self ..)
    rw [List.map_cons, List.flatMap_cons, List.flatMap_cons, ih fun y hy => h y (List.mem_cons_of_mem _ hy)]
    show aE (x.1, x.2.1, x.2.2.toNat) ++ _ = actE x ++ _
    unfold aE actE
    simp only
    rw [Int.toNat_of_nonneg h0]
theorem reads_aE {w : World} {v : Value} {xs : List (Int × Int × Int)} (h : ReadsT actE 3 w v xs) (hx : ∀ x ∈ xs, 0 ≤ x.2.2) : ReadsT aE 3 w v (xs.map toAc) := by
  obtain ⟨a, cap, e, hc, h⟩ := h
  refine ⟨a, cap, by rw [List.length_map]; exact e, by rw [List.length_map]; exact hc, fun hne => ?_⟩
  obtain ⟨b, off, h1, h2, h3⟩ := h (fun e => hne (by rw [e]; rfl))
  exact ⟨b, off, h1, h2, fun j hj => by rw [flat_ac hx]; exact h3 j (by rw [List.length_map] at hj; exact hj)⟩
theorem len_ac {gs : List (Nat → Int)} (h : gs.length ≤ 9223372036854775807) : ((gs.map acF).map toAc).length ≤ 9223372036854775807 := by
  rw [List.length_map, List.length_map]
  exact h
end Go.Proofs.Ytcmgpfahpmkeoaa

/- plan: what a crash leaves of a plan under way. -/
namespace Go.Proofs.Ytcmgpfahpmkeoaa
set_option linter.unusedVariables false
set_option linter.unusedSimpArgs false
open Go.RowKit Go.Shelf
/-- Words behind so many stores. -/
def appW (ws : List Nat) (l : List Pt) (k : Nat) : List Nat := (l.take k).foldl (fun w p => w.set p.1.toNat p.2) ws
theorem appW_zero (ws : List Nat) (l : List Pt) : appW ws l 0 = ws := by simp [appW]
theorem appW_succ {ws : List Nat} {l : List Pt} {k : Nat} {p : Pt} (h : l[k]? = some p) : appW ws l (k + 1) = (appW ws l k).set p.1.toNat p.2 := by
  unfold appW
  rw [List.take_add_one, h, List.foldl_append]
  rfl
theorem appW_len (ws : List Nat) (l : List Pt) : ∀ k, (appW ws l k).length = ws.length := by
  intro k
  unfold appW
  generalize l.take k = t
  induction t generalizing ws with
  | nil => rfl
  | cons p t ih => rw [List.foldl_cons, ih, List.length_set]
theorem lnAt_set {ws : List Nat} {j v i : Nat} (h : i ≠ j / 8) : lnAt (ws.set j v) i = lnAt ws i := by
  refine Subtype.ext ?_
  simp only [lnAt]
  refine List.map_congr_left fun x hx => ?_
  have hx := List.mem_range.1 hx
  rw [List.getElem?_set, if_neg (by omega)]
theorem lnAt_in {ws : List Nat} {j v : Nat} (h : j < ws.length) : lnAt (ws.set j v) (j / 8) = ⟨(lnAt ws (j / 8)).1.set (j % 8) v, by rw [List.length_set]; exact (lnAt _ _).2⟩ := by
  refine Subtype.ext ?_
  simp only [lnAt]
  refine List.ext_getElem? fun x => ?_
  rw [List.getElem?_map, List.getElem?_set, List.length_map, List.length_range, List.getElem?_map]
  by_cases hx : x < 8
  · rw [List.getElem?_range hx]
    simp only [Option.map_some]
    rw [List.getElem?_set]
    by_cases he : j % 8 = x
    · subst he
      rw [if_pos (by omega), if_pos h, if_pos rfl, if_pos (by omega)]
      rfl
    · rw [if_neg (by omega), if_neg he]
  · rw [List.getElem?_eq_none (l := List.range 8) (by simp; omega)]
    by_cases he : j % 8 = x
    · omega
    · rw [if_neg he]; rfl
/-- A line is settled. -/
def setC (c : Cl) : Prop := c.2.1 = c.1 ∧ (c.2.2 = none ∨ c.2.2 = some c.1)
def flushedC (c : Cl) : Prop := c.2.2 = some c.1 ∨ c.2.2 = none ∧ c.2.1 = c.1
structure HolI (ws : List Nat) (l : List Pt) (N : Nat) (s : List Cl) (least most : Nat) (line : Int) (fl : Bool) : Prop where
  len : s.length = N
  wl : ws.length = N * 8
  le : least ≤ most
  now : ∀ (i : Nat) (c : Cl), s[i]? = some c → c.1 = lnAt (appW ws l most) i
  set : ∀ (i : Nat) (c : Cl), s[i]? = some c → (i : Int) ≠ line → setC c
  last : ∀ (i : Nat) (c : Cl), s[i]? = some c → (i : Int) = line → ∃ k, least ≤ k ∧ k ≤ most ∧ c.2.1 = lnAt (appW ws l k) i
  que : ∀ (i : Nat) (c : Cl) (x : Ln), s[i]? = some c → (i : Int) = line → c.2.2 = some x → ∃ k, least ≤ k ∧ k ≤ most ∧ x = lnAt (appW ws l k) i
  flu : fl = true → ∀ (i : Nat) (c : Cl), s[i]? = some c → (i : Int) = line → flushedC c
  oth : ∀ (k i : Nat), least ≤ k → k ≤ most → i < N → (i : Int) ≠ line → lnAt (appW ws l k) i = lnAt (appW ws l most) i
section
variable {ws : List Nat} {l : List Pt} {N : Nat} {s : List Cl} {least most : Nat} {line : Int} {fl : Bool}
theorem HolI.start (hl : ws.length = N * 8) : HolI ws l N (ofS N ws) 0 0 (-1) false := by
  have key : ∀ i c, (ofS N ws)[i]? = some c → c = nwC (lnAt ws i) := fun i c h => by
    unfold ofS at h
    rw [List.getElem?_map] at h
    by_cases hi : i < N
    · rw [lnS_at _ hi] at h; exact (Option.some.inj h).symm
    · rw [List.getElem?_eq_none (by rw [lnS_len]; omega)] at h; cases h
  refine ⟨by simp [ofS, lnS_len], hl, Nat.le_refl _, fun i c h => ?_, fun i c h _ => ?_, fun i c h hi => by omega, fun i c x h hi => by omega, fun h => (by cases h), fun k i h1 h2 _ _ => ?_⟩
  · rw [key i c h, appW_zero]; rfl
  · rw [key i c h]; exact ⟨rfl, .inl rfl⟩
  · obtain rfl : k = 0 := by omega
    rfl
theorem HolI.store (h : HolI ws l N s least most line fl) {j v : Nat} (hp : l[most]? = some ((j : Int), v)) (hj : j < N * 8) (hok : line = -1 ∨ line = ((j / 8 : Nat) : Int)) :
    HolI ws l N (doA s (1, (j : Int), v)) least (most + 1) ((j / 8 : Nat) : Int) false := by
  obtain ⟨c, hc⟩ : ∃ c, s[j / 8]? = some c := ⟨_, List.getElem?_eq_getElem (by rw [h.len]; omega)⟩
  have e1 : appW ws l (most + 1) = (appW ws l most).set j v := by rw [appW_succ hp]; rfl
  have hN : j / 8 < N := by omega
  rw [doA_1 hc]
  have at_ : ∀ i d, (s.set (j / 8) (wrC c (j % 8) v))[i]? = some d → (i = j / 8 ∧ d = wrC c (j % 8) v) ∨ (i ≠ j / 8 ∧ s[i]? = some d) := fun i d hd => by
    rw [List.getElem?_set] at hd
    split at hd
    · rename_i e
      rw [if_pos (by rw [h.len]; omega)] at hd
      exact .inl ⟨e.symm, (Option.some.inj hd).symm⟩
    · rename_i e
      exact .inr ⟨fun e2 => e e2.symm, hd⟩
  refine ⟨by rw [List.length_set, h.len], h.wl, by have := h.le; omega, fun i d hd => ?_, fun i d hd hi => ?_, fun i d hd hi => ?_, fun i d x hd hi hx => ?_, fun h => (by cases h), fun k i h1 h2 h3 h4 => ?_⟩
  · rcases at_ i d hd with ⟨rfl, rfl⟩ | ⟨hi, hd⟩
    · rw [e1, lnAt_in (by rw [appW_len, h.wl]; exact hj)]
      show (⟨c.1.1.set (j % 8) v, _⟩ : Ln) = _
      refine Subtype.ext ?_
      show c.1.1.set (j % 8) v = _
      rw [h.now _ _ hc]
    · rw [e1, lnAt_set hi]; exact h.now i d hd
  · rcases at_ i d hd with ⟨rfl, rfl⟩ | ⟨hi2, hd⟩
    · exact absurd rfl hi
    · exact h.set i d hd (by omega)
  · rcases at_ i d hd with ⟨rfl, rfl⟩ | ⟨hi2, hd⟩
    · by_cases hln : ((j / 8 : Nat) : Int) = line
      · obtain ⟨k, k1, k2, k3⟩ := h.last _ _ hc hln
        exact ⟨k, k1, by omega, k3⟩
      · exact ⟨most, h.le, by omega, by
          have := (h.set _ _ hc hln).1
          show c.2.1 = _
          rw [this]
          exact h.now _ _ hc⟩
    · omega
  · rcases at_ i d hd with ⟨rfl, rfl⟩ | ⟨hi2, hd⟩
    · have hx : c.2.2 = some x := hx
      by_cases hln : ((j / 8 : Nat) : Int) = line
      · obtain ⟨k, k1, k2, k3⟩ := h.que _ _ _ hc hln hx
        exact ⟨k, k1, by omega, k3⟩
      · rcases (h.set _ _ hc hln).2 with e | e
        · rw [e] at hx; cases hx
        · rw [e] at hx
          exact ⟨most, h.le, by omega, by rw [← Option.some.inj hx]; exact h.now _ _ hc⟩
    · omega
  · have hi : i ≠ j / 8 := by omega
    rw [e1, lnAt_set hi]
    by_cases hk : k = most + 1
    · rw [hk, e1, lnAt_set hi]
    · exact h.oth k i h1 (by omega) h3 (by omega)
theorem HolI.flush (h : HolI ws l N s least most line fl) {j : Nat} (hj : j < N) : HolI ws l N (doA s (2, (j : Int), 0)) least most line (fl || decide ((j : Int) = line)) := by
  obtain ⟨c, hc⟩ : ∃ c, s[j]? = some c := ⟨_, List.getElem?_eq_getElem (by rw [h.len]; omega)⟩
  rw [doA_2 hc]
  have at_ : ∀ i d, (s.set j (flC c))[i]? = some d → (i = j ∧ d = flC c) ∨ (i ≠ j ∧ s[i]? = some d) := fun i d hd => by
    rw [List.getElem?_set] at hd
    split at hd
    · rename_i e
      rw [if_pos (by rw [h.len]; omega)] at hd
      exact .inl ⟨e.symm, (Option.some.inj hd).symm⟩
    · rename_i e
      exact .inr ⟨fun e2 => e e2.symm, hd⟩
  refine ⟨by rw [List.length_set, h.len], h.wl, h.le, fun i d hd => ?_, fun i d hd hi => ?_, fun i d hd hi => ?_, fun i d x hd hi hx => ?_, fun hf i d hd hi => ?_, h.oth⟩
  · rcases at_ i d hd with ⟨rfl, rfl⟩ | ⟨_, hd⟩
    · (have e := h.now _ _ hc; exact e)
    · exact h.now _ _ hd
  · rcases at_ i d hd with ⟨rfl, rfl⟩ | ⟨_, hd⟩
    · exact ⟨(have e := (h.set _ _ hc hi).1; e), .inr rfl⟩
    · exact h.set _ _ hd hi
  · rcases at_ i d hd with ⟨rfl, rfl⟩ | ⟨_, hd⟩
    · (have e := h.last _ _ hc hi; exact e)
    · exact h.last _ _ hd hi
  · rcases at_ i d hd with ⟨rfl, rfl⟩ | ⟨_, hd⟩
    · exact ⟨most, h.le, Nat.le_refl _, by rw [← Option.some.inj (show some c.1 = some x from hx)]; exact h.now _ _ hc⟩
    · exact h.que _ _ _ hd hi hx
  · rcases at_ i d hd with ⟨rfl, rfl⟩ | ⟨hij, hd⟩
    · exact .inl rfl
    · have : fl = true := by
        cases fl with
        | true => rfl
        | false => simp at hf; omega
      exact h.flu this _ _ hd hi
theorem HolI.fence (h : HolI ws l N s least most line fl) (hok : line = -1 ∨ fl = true) {x : Int} {v : Nat} : HolI ws l N (doA s (3, x, v)) most most (-1) false := by
  rw [doA_3]
  have at_ : ∀ i d, (s.map feC)[i]? = some d → ∃ c, s[i]? = some c ∧ d = feC c := fun i d hd => by
    rw [List.getElem?_map] at hd
    cases hs : s[i]? with
    | none => rw [hs] at hd; cases hd
    | some c => rw [hs] at hd; exact ⟨c, hs, (Option.some.inj hd).symm⟩
  refine ⟨by rw [List.length_map, h.len], h.wl, Nat.le_refl _, fun i d hd => ?_, fun i d hd hi => ?_, fun i d hd hi => by omega, fun i d x hd hi => by omega, fun h => (by cases h), fun k i h1 h2 h3 h4 => by rw [show k = most by omega]⟩
  · obtain ⟨c, hc, rfl⟩ := at_ i d hd
    (have e := h.now _ _ hc; exact e)
  · obtain ⟨c, hc, rfl⟩ := at_ i d hd
    refine ⟨?_, .inl rfl⟩
    show c.2.2.getD c.2.1 = c.1
    by_cases hl : (i : Int) = line
    · have hf : fl = true := by rcases hok with e | e; omega; exact e
      rcases h.flu hf _ _ hc hl with e | ⟨e, e2⟩
      · rw [e]; rfl
      · rw [e]; exact e2
    · obtain ⟨e1, e | e⟩ := h.set _ _ hc hl
      · rw [e]; exact e1
      · rw [e]; rfl
theorem HolI.evict (h : HolI ws l N s least most line fl) {j : Nat} {c : Cl} (hc : s[j]? = some c) : HolI ws l N (s.set j (evC c)) least most line fl := by
  have hj := (List.getElem?_eq_some_iff.1 hc).1
  have at_ : ∀ i d, (s.set j (evC c))[i]? = some d → (i = j ∧ d = evC c) ∨ (i ≠ j ∧ s[i]? = some d) := fun i d hd => by
    rw [List.getElem?_set] at hd
    split at hd
    · rename_i e
      (try rw [if_pos (by omega)] at hd)
      exact .inl ⟨e.symm, (Option.some.inj hd).symm⟩
    · rename_i e
      exact .inr ⟨fun e2 => e e2.symm, hd⟩
  refine ⟨by rw [List.length_set, h.len], h.wl, h.le, fun i d hd => ?_, fun i d hd hi => ?_, fun i d hd hi => ?_, fun i d x hd hi hx => ?_, fun hf i d hd hi => ?_, h.oth⟩
  · rcases at_ i d hd with ⟨rfl, rfl⟩ | ⟨_, hd⟩
    · (have e := h.now _ _ hc; exact e)
    · exact h.now _ _ hd
  · rcases at_ i d hd with ⟨rfl, rfl⟩ | ⟨_, hd⟩
    · exact ⟨rfl, .inl rfl⟩
    · exact h.set _ _ hd hi
  · rcases at_ i d hd with ⟨rfl, rfl⟩ | ⟨_, hd⟩
    · exact ⟨most, h.le, Nat.le_refl _, h.now _ _ hc⟩
    · exact h.last _ _ hd hi
  · rcases at_ i d hd with ⟨rfl, rfl⟩ | ⟨_, hd⟩
    · cases hx
    · exact h.que _ _ _ hd hi hx
  · rcases at_ i d hd with ⟨rfl, rfl⟩ | ⟨_, hd⟩
    · exact .inr ⟨rfl, rfl⟩
    · exact h.flu hf _ _ hd hi
end
theorem pk_mem (c : Cl) (p : Nat) : pkL c p = c.1 ∨ pkL c p = c.2.1 ∨ c.2.2 = some (pkL c p) := by
  unfold pkL
  split
  · exact .inr (.inl rfl)
  · split
    · cases h : c.2.2 with
      | none => exact .inr (.inl rfl)
      | some x => exact .inr (.inr rfl)
    · exact .inl rfl
theorem crJ_mem (s : List Cl) (ps : List Nat) : ∀ (j i : Nat) (x : Ln), (crJ s ps j)[i]? = some x → ∃ c : Cl, s[i]? = some c ∧ (x = c.1 ∨ x = c.2.1 ∨ c.2.2 = some x)
  | 0, i, x, h => by
    simp only [crJ, List.getElem?_map] at h
    cases hs : s[i]? with
    | none => rw [hs] at h; cases h
    | some c => rw [hs] at h; exact ⟨c, rfl, .inr (.inl (Option.some.inj h).symm)⟩
  | j + 1, i, x, h => by
    have ih := crJ_mem s ps j i x
    unfold crJ at h
    split at h
    · rename_i k p hk hp
      split at h
      · rename_i c hc
        rw [List.getElem?_set] at h
        split at h
        · rename_i e
          subst e
          split at h
          · refine ⟨c, hc, ?_⟩
            rw [← Option.some.inj h]
            exact pk_mem c p
          · cases h
        · exact ih h
      · exact ih h
    · exact ih h
theorem wdS_nw (N : Nat) (ws : List Nat) (hl : ws.length = N * 8) : wdS (fun c => c.1) ((lnS N ws).map nwC) = ws := by
  refine List.ext_getElem? fun x => ?_
  by_cases hx : x < N * 8
  · have e := wdS_get (fun c => c.1) ((lnS N ws).map nwC) (x / 8) (x % 8) (by omega)
    rw [show x / 8 * 8 + x % 8 = x by omega, List.getElem?_map, lnS_at _ (by omega)] at e
    rw [e]
    show ((List.range 8).map fun j => (ws[x / 8 * 8 + j]?).getD 0)[x % 8]? = _
    rw [List.getElem?_map, List.getElem?_range (by omega)]
    show some ((ws[x / 8 * 8 + x % 8]?).getD 0) = _
    rw [show x / 8 * 8 + x % 8 = x by omega, List.getElem?_eq_getElem (by omega)]
    rfl
  · rw [List.getElem?_eq_none (by rw [wdS_len, List.length_map, lnS_len]; omega), List.getElem?_eq_none (by omega)]
theorem HolI.crash {ws : List Nat} {l : List Pt} {N : Nat} {s : List Cl} {least most : Nat} {line : Int} {fl : Bool} (h : HolI ws l N s least most line fl) (ps : List Nat) : ∃ k, least ≤ k ∧ k ≤ most ∧ wdS (fun c => c.1) ((crS s ps).map nwC) = appW ws l k := by
  have hlen : (crS s ps).length = N := by rw [crS, crJ_len, h.len]
  have hm : ∀ (i : Nat) (x : Ln), (crS s ps)[i]? = some x → ∃ c : Cl, s[i]? = some c ∧ (x = c.1 ∨ x = c.2.1 ∨ c.2.2 = some x) := fun i x hx => crJ_mem s ps _ i x hx
  have ho : ∀ (i : Nat) (x : Ln), (crS s ps)[i]? = some x → (i : Int) ≠ line → x = lnAt (appW ws l most) i := fun i x hx hi => by
    obtain ⟨c, hc, hx⟩ := hm i x hx
    obtain ⟨e1, e2⟩ := h.set _ _ hc hi
    have hn := h.now _ _ hc
    rcases hx with e | e | e
    · rw [e]; exact hn
    · rw [e, e1]; exact hn
    · rcases e2 with e3 | e3
      · rw [e3] at e; cases e
      · rw [e3] at e; rw [← Option.some.inj e]; exact hn
  obtain ⟨k, k1, k2, hk⟩ : ∃ k, least ≤ k ∧ k ≤ most ∧ ∀ (i : Nat) (x : Ln), (crS s ps)[i]? = some x → (i : Int) = line → x = lnAt (appW ws l k) i := by
    by_cases hl : ∃ i : Nat, (i : Int) = line ∧ i < N
    · obtain ⟨i, rfl, hi⟩ := hl
      obtain ⟨x, hx⟩ : ∃ x, (crS s ps)[i]? = some x := ⟨_, List.getElem?_eq_getElem (by omega)⟩
      obtain ⟨c, hc, hxc⟩ := hm i x hx
      have key : ∃ k, least ≤ k ∧ k ≤ most ∧ x = lnAt (appW ws l k) i := by
        rcases hxc with e | e | e
        · exact ⟨most, h.le, Nat.le_refl _, by rw [e]; exact h.now _ _ hc⟩
        · obtain ⟨k, k1, k2, k3⟩ := h.last _ _ hc rfl
          exact ⟨k, k1, k2, by rw [e]; exact k3⟩
        · exact h.que _ _ _ hc rfl e
      obtain ⟨k, k1, k2, k3⟩ := key
      refine ⟨k, k1, k2, fun i2 x2 hx2 hi2 => ?_⟩
      obtain rfl : i2 = i := by omega
      rw [hx] at hx2
      rw [← Option.some.inj hx2]
      exact k3
    · refine ⟨most, h.le, Nat.le_refl _, fun i x hx hi => ?_⟩
      have := (List.getElem?_eq_some_iff.1 hx).1
      exact absurd ⟨i, hi, by omega⟩ hl
  refine ⟨k, k1, k2, ?_⟩
  have e : crS s ps = lnS N (appW ws l k) := by
    refine List.ext_getElem? fun i => ?_
    by_cases hi : i < N
    · obtain ⟨x, hx⟩ : ∃ x, (crS s ps)[i]? = some x := ⟨_, List.getElem?_eq_getElem (by omega)⟩
      rw [hx, lnS_at _ hi]
      by_cases hln : (i : Int) = line
      · rw [hk i x hx hln]
      · rw [ho i x hx hln, h.oth k i k1 k2 hi hln]
    · rw [List.getElem?_eq_none (by omega), List.getElem?_eq_none (by rw [lnS_len]; omega)]
  rw [e]
  exact wdS_nw N _ (by rw [appW_len, h.wl])
end Go.Proofs.Ytcmgpfahpmkeoaa

/- plan: Apply; a step of a plan under way. -/
namespace Go.Proofs.Ytcmgpfahpmkeoaa
set_option linter.unusedVariables false
set_option linter.unusedSimpArgs false
open Go.RowKit Go.Shelf
set_option maxRecDepth 100000
set_option maxHeartbeats 8000000
theorem uclone_any (v : Value) (xs : List Nat) (w : World) (ha : ReadsT uE 1 w v xs) (hl : xs.length ≤ 1048576) :
    Calls Try.prog 49 #[v] w fun e w' => ∃ v', e = .returned v' ∧ OwnsT uE 1 w' w.heap.size 36 v' xs ∧ Below w.heap.size w w' := by
  obtain ⟨a, cap, rfl, hc⟩ := ha.form rfl
  refine X.fn Try.func49 rfl (n := 8) rfl rfl ?_
  (repeat (first | (first | refine CC.seq ?_ | refine CC.region ?_ | refine LL.nilS ?_ | refine CC.yes rfl ?_ | refine CC.no rfl ?_ | refine CC.block ?_ | refine EE.thenN ?_ | refine LL.nil ?_ | refine CC.exit ?_ | refine CC.ret ?_ | refine CC.skip ?_ | refine EE.thenX ?_ | refine EE.thenR ?_ | refine EE.inN ?_ | refine EE.inX ?_ | refine EE.inX' rfl ?_ | refine EE.inR ?_ | refine CC.label ?_ | refine EE.thenG ?_ | refine EE.inG ?_) | (first | refine LL.val (R.move rfl rfl) rfl rfl rfl ?_ | refine LL.val (R.assign rfl rfl) rfl rfl rfl ?_ | refine LL.val (R.nil rfl rfl) rfl rfl rfl ?_ | refine LL.val (R.field rfl rfl (I.fld rfl)) rfl rfl rfl ?_ | refine LL.val (R.load rfl rfl (I.ld1 rfl (by assumption))) rfl rfl rfl ?_ | refine LL.val (R.load rfl rfl (I.ld1 rfl (RowL.cell (by assumption) rfl))) rfl rfl rfl ?_ | refine LL.val (R.index rfl rfl rfl (I.ixA1c rfl rfl (by first | omega | decide))) rfl rfl rfl ?_ | refine LL.val (R.index rfl rfl rfl (I.ixS1c rfl rfl (by omega))) rfl rfl rfl ?_ | refine LL.val (R.index rfl rfl rfl (I.ixAc rfl rfl (by first | omega | decide))) rfl rfl rfl ?_ | refine LL.val (R.index rfl rfl rfl (I.ixSc rfl rfl (by omega))) rfl rfl rfl ?_ | refine LL.val (R.index rfl rfl rfl (I.ixA1 rfl (by omega))) rfl rfl rfl ?_ | refine LL.val (R.index rfl rfl rfl (I.ixS1 rfl (by omega))) rfl rfl rfl ?_ | refine LL.val (R.index rfl rfl rfl (I.ixA rfl (by omega))) rfl rfl rfl ?_ | refine LL.val (R.index rfl rfl rfl (I.ixS rfl (by omega))) rfl rfl rfl ?_ | refine LL.val (R.ltT rfl rfl rfl (by omega)) rfl rfl rfl ?_ | refine LL.val (R.ltF rfl rfl rfl (by omega)) rfl rfl rfl ?_ | refine LL.val (R.addNc rfl rfl rfl rfl (by omega)) rfl rfl rfl ?_ | refine LL.val (R.subNc rfl rfl rfl rfl (by omega) (by omega)) rfl rfl rfl ?_ | refine LL.val (R.addN rfl rfl rfl (by omega)) rfl rfl rfl ?_ | refine LL.val (R.subN rfl rfl rfl (by omega) (by omega)) rfl rfl rfl ?_ | refine LL.val (R.subcN rfl rfl rfl rfl (by omega) (by omega)) rfl rfl rfl ?_ | refine LL.val (R.addI rfl rfl rfl (by omega)) rfl rfl rfl ?_ | refine LL.val (R.subI rfl rfl rfl (by omega)) rfl rfl rfl ?_ | refine LL.val (R.mulNc rfl rfl rfl rfl (by omega)) rfl rfl rfl ?_ | refine LL.val (R.mulcN rfl rfl rfl rfl (by omega)) rfl rfl rfl ?_ | refine LL.val (R.quoNc rfl rfl rfl rfl (by omega) (by omega)) rfl rfl rfl ?_ | refine LL.val (R.remNc rfl rfl rfl rfl (by omega)) rfl rfl rfl ?_ | refine LL.val (R.mulN rfl rfl rfl (by omega)) rfl rfl rfl ?_ | refine LL.val (R.quoN rfl rfl rfl (by omega) (by omega)) rfl rfl rfl ?_ | refine LL.val (R.remN rfl rfl rfl (by omega)) rfl rfl rfl ?_ | refine LL.val (R.leT rfl rfl rfl (by omega)) rfl rfl rfl ?_ | refine LL.val (R.leF rfl rfl rfl (by omega)) rfl rfl rfl ?_ | refine LL.val (R.gtT rfl rfl rfl (by omega)) rfl rfl rfl ?_ | refine LL.val (R.gtF rfl rfl rfl (by omega)) rfl rfl rfl ?_ | refine LL.val (R.geT rfl rfl rfl (by omega)) rfl rfl rfl ?_ | refine LL.val (R.geF rfl rfl rfl (by omega)) rfl rfl rfl ?_ | refine LL.val (R.eqT rfl rfl rfl (by omega)) rfl rfl rfl ?_ | refine LL.val (R.eqF rfl rfl rfl (by omega)) rfl rfl rfl ?_ | refine LL.val (R.neT rfl rfl rfl (by omega)) rfl rfl rfl ?_ | refine LL.val (R.neF rfl rfl rfl (by omega)) rfl rfl rfl ?_ | refine LL.val (R.eqPtr rfl rfl rfl rfl rfl) rfl rfl rfl ?_ | refine LL.val (R.nePtr rfl rfl rfl rfl rfl) rfl rfl rfl ?_ | refine LL.val (R.eqSl rfl rfl rfl rfl rfl) rfl rfl rfl ?_ | refine LL.val (R.neSl rfl rfl rfl rfl rfl) rfl rfl rfl ?_ | refine LL.val (R.eqFn rfl rfl rfl rfl) rfl rfl rfl ?_ | refine LL.val (R.eqBool rfl rfl rfl rfl rfl) rfl rfl rfl ?_ | refine LL.val (R.neBool rfl rfl rfl rfl rfl) rfl rfl rfl ?_ | refine LL.val (R.xorU rfl rfl rfl (by first | omega | decide) (by first | omega | decide)) rfl rfl rfl ?_ | refine LL.val (R.addUN rfl rfl rfl (by omega)) rfl rfl rfl ?_ | refine LL.val (R.not rfl rfl) rfl rfl rfl ?_ | refine LL.val (R.lenS rfl rfl rfl rfl) rfl rfl rfl ?_ | refine LL.val (R.len rfl rfl rfl rfl) rfl rfl rfl ?_ | refine LL.val (R.pick rfl rfl rfl) rfl rfl rfl ?_ | refine LL.val (R.extract rfl rfl rfl) rfl rfl rfl ?_ | refine LL.val (R.func rfl rfl rfl) rfl rfl rfl ?_ | refine LL.val (R.slice rfl rfl rfl rfl rfl (I.slA rfl)) rfl rfl rfl ?_ | refine LL.val (R.slice rfl rfl rfl rfl rfl (I.slAto rfl (by omega))) rfl rfl rfl ?_) | refine LL.skip rfl rfl ?_))
  cases a with
  | none =>
    have hx : xs = [] := by
      obtain ⟨a', cap', e, _, h⟩ := ha
      cases e
      rcases Classical.em (xs = []) with h0 | h0
      · exact h0
      · obtain ⟨_, _, h1, _⟩ := h h0
        cases h1
    subst hx
    (repeat (first | (first | refine CC.seq ?_ | refine CC.region ?_ | refine LL.nilS ?_ | refine CC.yes rfl ?_ | refine CC.no rfl ?_ | refine CC.block ?_ | refine EE.thenN ?_ | refine LL.nil ?_ | refine CC.exit ?_ | refine CC.ret ?_ | refine CC.skip ?_ | refine EE.thenX ?_ | refine EE.thenR ?_ | refine EE.inN ?_ | refine EE.inX ?_ | refine EE.inX' rfl ?_ | refine EE.inR ?_ | refine CC.label ?_ | refine EE.thenG ?_ | refine EE.inG ?_) | (first | refine LL.val (R.move rfl rfl) rfl rfl rfl ?_ | refine LL.val (R.assign rfl rfl) rfl rfl rfl ?_ | refine LL.val (R.nil rfl rfl) rfl rfl rfl ?_ | refine LL.val (R.field rfl rfl (I.fld rfl)) rfl rfl rfl ?_ | refine LL.val (R.load rfl rfl (I.ld1 rfl (by assumption))) rfl rfl rfl ?_ | refine LL.val (R.load rfl rfl (I.ld1 rfl (RowL.cell (by assumption) rfl))) rfl rfl rfl ?_ | refine LL.val (R.index rfl rfl rfl (I.ixA1c rfl rfl (by first | omega | decide))) rfl rfl rfl ?_ | refine LL.val (R.index rfl rfl rfl (I.ixS1c rfl rfl (by omega))) rfl rfl rfl ?_ | refine LL.val (R.index rfl rfl rfl (I.ixAc rfl rfl (by first | omega | decide))) rfl rfl rfl ?_ | refine LL.val (R.index rfl rfl rfl (I.ixSc rfl rfl (by omega))) rfl rfl rfl ?_ | refine LL.val (R.index rfl rfl rfl (I.ixA1 rfl (by omega))) rfl rfl rfl ?_ | refine LL.val (R.index rfl rfl rfl (I.ixS1 rfl (by omega))) rfl rfl rfl ?_ | refine LL.val (R.index rfl rfl rfl (I.ixA rfl (by omega))) rfl rfl rfl ?_ | refine LL.val (R.index rfl rfl rfl (I.ixS rfl (by omega))) rfl rfl rfl ?_ | refine LL.val (R.ltT rfl rfl rfl (by omega)) rfl rfl rfl ?_ | refine LL.val (R.ltF rfl rfl rfl (by omega)) rfl rfl rfl ?_ | refine LL.val (R.addNc rfl rfl rfl rfl (by omega)) rfl rfl rfl ?_ | refine LL.val (R.subNc rfl rfl rfl rfl (by omega) (by omega)) rfl rfl rfl ?_ | refine LL.val (R.addN rfl rfl rfl (by omega)) rfl rfl rfl ?_ | refine LL.val (R.subN rfl rfl rfl (by omega) (by omega)) rfl rfl rfl ?_ | refine LL.val (R.subcN rfl rfl rfl rfl (by omega) (by omega)) rfl rfl rfl ?_ | refine LL.val (R.addI rfl rfl rfl (by omega)) rfl rfl rfl ?_ | refine LL.val (R.subI rfl rfl rfl (by omega)) rfl rfl rfl ?_ | refine LL.val (R.mulNc rfl rfl rfl rfl (by omega)) rfl rfl rfl ?_ | refine LL.val (R.mulcN rfl rfl rfl rfl (by omega)) rfl rfl rfl ?_ | refine LL.val (R.quoNc rfl rfl rfl rfl (by omega) (by omega)) rfl rfl rfl ?_ | refine LL.val (R.remNc rfl rfl rfl rfl (by omega)) rfl rfl rfl ?_ | refine LL.val (R.mulN rfl rfl rfl (by omega)) rfl rfl rfl ?_ | refine LL.val (R.quoN rfl rfl rfl (by omega) (by omega)) rfl rfl rfl ?_ | refine LL.val (R.remN rfl rfl rfl (by omega)) rfl rfl rfl ?_ | refine LL.val (R.leT rfl rfl rfl (by omega)) rfl rfl rfl ?_ | refine LL.val (R.leF rfl rfl rfl (by omega)) rfl rfl rfl ?_ | refine LL.val (R.gtT rfl rfl rfl (by omega)) rfl rfl rfl ?_ | refine LL.val (R.gtF rfl rfl rfl (by omega)) rfl rfl rfl ?_ | refine LL.val (R.geT rfl rfl rfl (by omega)) rfl rfl rfl ?_ | refine LL.val (R.geF rfl rfl rfl (by omega)) rfl rfl rfl ?_ | refine LL.val (R.eqT rfl rfl rfl (by omega)) rfl rfl rfl ?_ | refine LL.val (R.eqF rfl rfl rfl (by omega)) rfl rfl rfl ?_ | refine LL.val (R.neT rfl rfl rfl (by omega)) rfl rfl rfl ?_ | refine LL.val (R.neF rfl rfl rfl (by omega)) rfl rfl rfl ?_ | refine LL.val (R.eqPtr rfl rfl rfl rfl rfl) rfl rfl rfl ?_ | refine LL.val (R.nePtr rfl rfl rfl rfl rfl) rfl rfl rfl ?_ | refine LL.val (R.eqSl rfl rfl rfl rfl rfl) rfl rfl rfl ?_ | refine LL.val (R.neSl rfl rfl rfl rfl rfl) rfl rfl rfl ?_ | refine LL.val (R.eqFn rfl rfl rfl rfl) rfl rfl rfl ?_ | refine LL.val (R.eqBool rfl rfl rfl rfl rfl) rfl rfl rfl ?_ | refine LL.val (R.neBool rfl rfl rfl rfl rfl) rfl rfl rfl ?_ | refine LL.val (R.xorU rfl rfl rfl (by first | omega | decide) (by first | omega | decide)) rfl rfl rfl ?_ | refine LL.val (R.addUN rfl rfl rfl (by omega)) rfl rfl rfl ?_ | refine LL.val (R.not rfl rfl) rfl rfl rfl ?_ | refine LL.val (R.lenS rfl rfl rfl rfl) rfl rfl rfl ?_ | refine LL.val (R.len rfl rfl rfl rfl) rfl rfl rfl ?_ | refine LL.val (R.pick rfl rfl rfl) rfl rfl rfl ?_ | refine LL.val (R.extract rfl rfl rfl) rfl rfl rfl ?_ | refine LL.val (R.func rfl rfl rfl) rfl rfl rfl ?_ | refine LL.val (R.slice rfl rfl rfl rfl rfl (I.slA rfl)) rfl rfl rfl ?_ | refine LL.val (R.slice rfl rfl rfl rfl rfl (I.slAto rfl (by omega))) rfl rfl rfl ?_) | refine LL.skip rfl rfl ?_))
    refine EE.ret _ rfl rfl ?_
    exact ⟨_, rfl, OwnsT.none _ _ _, Below.refl _ _⟩
  | some p =>
    (repeat (first | (first | refine CC.seq ?_ | refine CC.region ?_ | refine LL.nilS ?_ | refine CC.yes rfl ?_ | refine CC.no rfl ?_ | refine CC.block ?_ | refine EE.thenN ?_ | refine LL.nil ?_ | refine CC.exit ?_ | refine CC.ret ?_ | refine CC.skip ?_ | refine EE.thenX ?_ | refine EE.thenR ?_ | refine EE.inN ?_ | refine EE.inX ?_ | refine EE.inX' rfl ?_ | refine EE.inR ?_ | refine CC.label ?_ | refine EE.thenG ?_ | refine EE.inG ?_) | (first | refine LL.val (R.move rfl rfl) rfl rfl rfl ?_ | refine LL.val (R.assign rfl rfl) rfl rfl rfl ?_ | refine LL.val (R.nil rfl rfl) rfl rfl rfl ?_ | refine LL.val (R.field rfl rfl (I.fld rfl)) rfl rfl rfl ?_ | refine LL.val (R.load rfl rfl (I.ld1 rfl (by assumption))) rfl rfl rfl ?_ | refine LL.val (R.load rfl rfl (I.ld1 rfl (RowL.cell (by assumption) rfl))) rfl rfl rfl ?_ | refine LL.val (R.index rfl rfl rfl (I.ixA1c rfl rfl (by first | omega | decide))) rfl rfl rfl ?_ | refine LL.val (R.index rfl rfl rfl (I.ixS1c rfl rfl (by omega))) rfl rfl rfl ?_ | refine LL.val (R.index rfl rfl rfl (I.ixAc rfl rfl (by first | omega | decide))) rfl rfl rfl ?_ | refine LL.val (R.index rfl rfl rfl (I.ixSc rfl rfl (by omega))) rfl rfl rfl ?_ | refine LL.val (R.index rfl rfl rfl (I.ixA1 rfl (by omega))) rfl rfl rfl ?_ | refine LL.val (R.index rfl rfl rfl (I.ixS1 rfl (by omega))) rfl rfl rfl ?_ | refine LL.val (R.index rfl rfl rfl (I.ixA rfl (by omega))) rfl rfl rfl ?_ | refine LL.val (R.index rfl rfl rfl (I.ixS rfl (by omega))) rfl rfl rfl ?_ | refine LL.val (R.ltT rfl rfl rfl (by omega)) rfl rfl rfl ?_ | refine LL.val (R.ltF rfl rfl rfl (by omega)) rfl rfl rfl ?_ | refine LL.val (R.addNc rfl rfl rfl rfl (by omega)) rfl rfl rfl ?_ | refine LL.val (R.subNc rfl rfl rfl rfl (by omega) (by omega)) rfl rfl rfl ?_ | refine LL.val (R.addN rfl rfl rfl (by omega)) rfl rfl rfl ?_ | refine LL.val (R.subN rfl rfl rfl (by omega) (by omega)) rfl rfl rfl ?_ | refine LL.val (R.subcN rfl rfl rfl rfl (by omega) (by omega)) rfl rfl rfl ?_ | refine LL.val (R.addI rfl rfl rfl (by omega)) rfl rfl rfl ?_ | refine LL.val (R.subI rfl rfl rfl (by omega)) rfl rfl rfl ?_ | refine LL.val (R.mulNc rfl rfl rfl rfl (by omega)) rfl rfl rfl ?_ | refine LL.val (R.mulcN rfl rfl rfl rfl (by omega)) rfl rfl rfl ?_ | refine LL.val (R.quoNc rfl rfl rfl rfl (by omega) (by omega)) rfl rfl rfl ?_ | refine LL.val (R.remNc rfl rfl rfl rfl (by omega)) rfl rfl rfl ?_ | refine LL.val (R.mulN rfl rfl rfl (by omega)) rfl rfl rfl ?_ | refine LL.val (R.quoN rfl rfl rfl (by omega) (by omega)) rfl rfl rfl ?_ | refine LL.val (R.remN rfl rfl rfl (by omega)) rfl rfl rfl ?_ | refine LL.val (R.leT rfl rfl rfl (by omega)) rfl rfl rfl ?_ | refine LL.val (R.leF rfl rfl rfl (by omega)) rfl rfl rfl ?_ | refine LL.val (R.gtT rfl rfl rfl (by omega)) rfl rfl rfl ?_ | refine LL.val (R.gtF rfl rfl rfl (by omega)) rfl rfl rfl ?_ | refine LL.val (R.geT rfl rfl rfl (by omega)) rfl rfl rfl ?_ | refine LL.val (R.geF rfl rfl rfl (by omega)) rfl rfl rfl ?_ | refine LL.val (R.eqT rfl rfl rfl (by omega)) rfl rfl rfl ?_ | refine LL.val (R.eqF rfl rfl rfl (by omega)) rfl rfl rfl ?_ | refine LL.val (R.neT rfl rfl rfl (by omega)) rfl rfl rfl ?_ | refine LL.val (R.neF rfl rfl rfl (by omega)) rfl rfl rfl ?_ | refine LL.val (R.eqPtr rfl rfl rfl rfl rfl) rfl rfl rfl ?_ | refine LL.val (R.nePtr rfl rfl rfl rfl rfl) rfl rfl rfl ?_ | refine LL.val (R.eqSl rfl rfl rfl rfl rfl) rfl rfl rfl ?_ | refine LL.val (R.neSl rfl rfl rfl rfl rfl) rfl rfl rfl ?_ | refine LL.val (R.eqFn rfl rfl rfl rfl) rfl rfl rfl ?_ | refine LL.val (R.eqBool rfl rfl rfl rfl rfl) rfl rfl rfl ?_ | refine LL.val (R.neBool rfl rfl rfl rfl rfl) rfl rfl rfl ?_ | refine LL.val (R.xorU rfl rfl rfl (by first | omega | decide) (by first | omega | decide)) rfl rfl rfl ?_ | refine LL.val (R.addUN rfl rfl rfl (by omega)) rfl rfl rfl ?_ | refine LL.val (R.not rfl rfl) rfl rfl rfl ?_ | refine LL.val (R.lenS rfl rfl rfl rfl) rfl rfl rfl ?_ | refine LL.val (R.len rfl rfl rfl rfl) rfl rfl rfl ?_ | refine LL.val (R.pick rfl rfl rfl) rfl rfl rfl ?_ | refine LL.val (R.extract rfl rfl rfl) rfl rfl rfl ?_ | refine LL.val (R.func rfl rfl rfl) rfl rfl rfl ?_ | refine LL.val (R.slice rfl rfl rfl rfl rfl (I.slA rfl)) rfl rfl rfl ?_ | refine LL.val (R.slice rfl rfl rfl rfl rfl (I.slAto rfl (by omega))) rfl rfl rfl ?_) | refine LL.skip rfl rfl ?_))
    refine LL.lit (e := 36) [] 0 rfl rfl (fun _ => by kernel_rfl) rfl rfl ?_
    intro w1 g1 e1 r1 z1 b1
    have o1 : OwnsT uE 1 w1 w.heap.size 36 (.slice (some ⟨g1, 0, none⟩) 0 0) [] := RowL.ownsT (ts := []) uEnc r1 (by omega) (by simp [maxLen])
    (repeat (first | (first | refine CC.seq ?_ | refine CC.region ?_ | refine LL.nilS ?_ | refine CC.yes rfl ?_ | refine CC.no rfl ?_ | refine CC.block ?_ | refine EE.thenN ?_ | refine LL.nil ?_ | refine CC.exit ?_ | refine CC.ret ?_ | refine CC.skip ?_ | refine EE.thenX ?_ | refine EE.thenR ?_ | refine EE.inN ?_ | refine EE.inX ?_ | refine EE.inX' rfl ?_ | refine EE.inR ?_ | refine CC.label ?_ | refine EE.thenG ?_ | refine EE.inG ?_) | (first | refine LL.val (R.move rfl rfl) rfl rfl rfl ?_ | refine LL.val (R.assign rfl rfl) rfl rfl rfl ?_ | refine LL.val (R.nil rfl rfl) rfl rfl rfl ?_ | refine LL.val (R.field rfl rfl (I.fld rfl)) rfl rfl rfl ?_ | refine LL.val (R.load rfl rfl (I.ld1 rfl (by assumption))) rfl rfl rfl ?_ | refine LL.val (R.load rfl rfl (I.ld1 rfl (RowL.cell (by assumption) rfl))) rfl rfl rfl ?_ | refine LL.val (R.index rfl rfl rfl (I.ixA1c rfl rfl (by first | omega | decide))) rfl rfl rfl ?_ | refine LL.val (R.index rfl rfl rfl (I.ixS1c rfl rfl (by omega))) rfl rfl rfl ?_ | refine LL.val (R.index rfl rfl rfl (I.ixAc rfl rfl (by first | omega | decide))) rfl rfl rfl ?_ | refine LL.val (R.index rfl rfl rfl (I.ixSc rfl rfl (by omega))) rfl rfl rfl ?_ | refine LL.val (R.index rfl rfl rfl (I.ixA1 rfl (by omega))) rfl rfl rfl ?_ | refine LL.val (R.index rfl rfl rfl (I.ixS1 rfl (by omega))) rfl rfl rfl ?_ | refine LL.val (R.index rfl rfl rfl (I.ixA rfl (by omega))) rfl rfl rfl ?_ | refine LL.val (R.index rfl rfl rfl (I.ixS rfl (by omega))) rfl rfl rfl ?_ | refine LL.val (R.ltT rfl rfl rfl (by omega)) rfl rfl rfl ?_ | refine LL.val (R.ltF rfl rfl rfl (by omega)) rfl rfl rfl ?_ | refine LL.val (R.addNc rfl rfl rfl rfl (by omega)) rfl rfl rfl ?_ | refine LL.val (R.subNc rfl rfl rfl rfl (by omega) (by omega)) rfl rfl rfl ?_ | refine LL.val (R.addN rfl rfl rfl (by omega)) rfl rfl rfl ?_ | refine LL.val (R.subN rfl rfl rfl (by omega) (by omega)) rfl rfl rfl ?_ | refine LL.val (R.subcN rfl rfl rfl rfl (by omega) (by omega)) rfl rfl rfl ?_ | refine LL.val (R.addI rfl rfl rfl (by omega)) rfl rfl rfl ?_ | refine LL.val (R.subI rfl rfl rfl (by omega)) rfl rfl rfl ?_ | refine LL.val (R.mulNc rfl rfl rfl rfl (by omega)) rfl rfl rfl ?_ | refine LL.val (R.mulcN rfl rfl rfl rfl (by omega)) rfl rfl rfl ?_ | refine LL.val (R.quoNc rfl rfl rfl rfl (by omega) (by omega)) rfl rfl rfl ?_ | refine LL.val (R.remNc rfl rfl rfl rfl (by omega)) rfl rfl rfl ?_ | refine LL.val (R.mulN rfl rfl rfl (by omega)) rfl rfl rfl ?_ | refine LL.val (R.quoN rfl rfl rfl (by omega) (by omega)) rfl rfl rfl ?_ | refine LL.val (R.remN rfl rfl rfl (by omega)) rfl rfl rfl ?_ | refine LL.val (R.leT rfl rfl rfl (by omega)) rfl rfl rfl ?_ | refine LL.val (R.leF rfl rfl rfl (by omega)) rfl rfl rfl ?_ | refine LL.val (R.gtT rfl rfl rfl (by omega)) rfl rfl rfl ?_ | refine LL.val (R.gtF rfl rfl rfl (by omega)) rfl rfl rfl ?_ | refine LL.val (R.geT rfl rfl rfl (by omega)) rfl rfl rfl ?_ | refine LL.val (R.geF rfl rfl rfl (by omega)) rfl rfl rfl ?_ | refine LL.val (R.eqT rfl rfl rfl (by omega)) rfl rfl rfl ?_ | refine LL.val (R.eqF rfl rfl rfl (by omega)) rfl rfl rfl ?_ | refine LL.val (R.neT rfl rfl rfl (by omega)) rfl rfl rfl ?_ | refine LL.val (R.neF rfl rfl rfl (by omega)) rfl rfl rfl ?_ | refine LL.val (R.eqPtr rfl rfl rfl rfl rfl) rfl rfl rfl ?_ | refine LL.val (R.nePtr rfl rfl rfl rfl rfl) rfl rfl rfl ?_ | refine LL.val (R.eqSl rfl rfl rfl rfl rfl) rfl rfl rfl ?_ | refine LL.val (R.neSl rfl rfl rfl rfl rfl) rfl rfl rfl ?_ | refine LL.val (R.eqFn rfl rfl rfl rfl) rfl rfl rfl ?_ | refine LL.val (R.eqBool rfl rfl rfl rfl rfl) rfl rfl rfl ?_ | refine LL.val (R.neBool rfl rfl rfl rfl rfl) rfl rfl rfl ?_ | refine LL.val (R.xorU rfl rfl rfl (by first | omega | decide) (by first | omega | decide)) rfl rfl rfl ?_ | refine LL.val (R.addUN rfl rfl rfl (by omega)) rfl rfl rfl ?_ | refine LL.val (R.not rfl rfl) rfl rfl rfl ?_ | refine LL.val (R.lenS rfl rfl rfl rfl) rfl rfl rfl ?_ | refine LL.val (R.len rfl rfl rfl rfl) rfl rfl rfl ?_ | refine LL.val (R.pick rfl rfl rfl) rfl rfl rfl ?_ | refine LL.val (R.extract rfl rfl rfl) rfl rfl rfl ?_ | refine LL.val (R.func rfl rfl rfl) rfl rfl rfl ?_ | refine LL.val (R.slice rfl rfl rfl rfl rfl (I.slA rfl)) rfl rfl rfl ?_ | refine LL.val (R.slice rfl rfl rfl rfl rfl (I.slAto rfl (by omega))) rfl rfl rfl ?_) | refine LL.skip rfl rfl ?_))
    refine LL.append0 rfl rfl uEnc ElU o1 (ha.below b1) (by simp [maxLen]; omega) (by omega) b1.size rfl rfl ?_
    intro v2 w2 o2 b2
    (repeat (first | (first | refine CC.seq ?_ | refine CC.region ?_ | refine LL.nilS ?_ | refine CC.yes rfl ?_ | refine CC.no rfl ?_ | refine CC.block ?_ | refine EE.thenN ?_ | refine LL.nil ?_ | refine CC.exit ?_ | refine CC.ret ?_ | refine CC.skip ?_ | refine EE.thenX ?_ | refine EE.thenR ?_ | refine EE.inN ?_ | refine EE.inX ?_ | refine EE.inX' rfl ?_ | refine EE.inR ?_ | refine CC.label ?_ | refine EE.thenG ?_ | refine EE.inG ?_) | (first | refine LL.val (R.move rfl rfl) rfl rfl rfl ?_ | refine LL.val (R.assign rfl rfl) rfl rfl rfl ?_ | refine LL.val (R.nil rfl rfl) rfl rfl rfl ?_ | refine LL.val (R.field rfl rfl (I.fld rfl)) rfl rfl rfl ?_ | refine LL.val (R.load rfl rfl (I.ld1 rfl (by assumption))) rfl rfl rfl ?_ | refine LL.val (R.load rfl rfl (I.ld1 rfl (RowL.cell (by assumption) rfl))) rfl rfl rfl ?_ | refine LL.val (R.index rfl rfl rfl (I.ixA1c rfl rfl (by first | omega | decide))) rfl rfl rfl ?_ | refine LL.val (R.index rfl rfl rfl (I.ixS1c rfl rfl (by omega))) rfl rfl rfl ?_ | refine LL.val (R.index rfl rfl rfl (I.ixAc rfl rfl (by first | omega | decide))) rfl rfl rfl ?_ | refine LL.val (R.index rfl rfl rfl (I.ixSc rfl rfl (by omega))) rfl rfl rfl ?_ | refine LL.val (R.index rfl rfl rfl (I.ixA1 rfl (by omega))) rfl rfl rfl ?_ | refine LL.val (R.index rfl rfl rfl (I.ixS1 rfl (by omega))) rfl rfl rfl ?_ | refine LL.val (R.index rfl rfl rfl (I.ixA rfl (by omega))) rfl rfl rfl ?_ | refine LL.val (R.index rfl rfl rfl (I.ixS rfl (by omega))) rfl rfl rfl ?_ | refine LL.val (R.ltT rfl rfl rfl (by omega)) rfl rfl rfl ?_ | refine LL.val (R.ltF rfl rfl rfl (by omega)) rfl rfl rfl ?_ | refine LL.val (R.addNc rfl rfl rfl rfl (by omega)) rfl rfl rfl ?_ | refine LL.val (R.subNc rfl rfl rfl rfl (by omega) (by omega)) rfl rfl rfl ?_ | refine LL.val (R.addN rfl rfl rfl (by omega)) rfl rfl rfl ?_ | refine LL.val (R.subN rfl rfl rfl (by omega) (by omega)) rfl rfl rfl ?_ | refine LL.val (R.subcN rfl rfl rfl rfl (by omega) (by omega)) rfl rfl rfl ?_ | refine LL.val (R.addI rfl rfl rfl (by omega)) rfl rfl rfl ?_ | refine LL.val (R.subI rfl rfl rfl (by omega)) rfl rfl rfl ?_ | refine LL.val (R.mulNc rfl rfl rfl rfl (by omega)) rfl rfl rfl ?_ | refine LL.val (R.mulcN rfl rfl rfl rfl (by omega)) rfl rfl rfl ?_ | refine LL.val (R.quoNc rfl rfl rfl rfl (by omega) (by omega)) rfl rfl rfl ?_ | refine LL.val (R.remNc rfl rfl rfl rfl (by omega)) rfl rfl rfl ?_ | refine LL.val (R.mulN rfl rfl rfl (by omega)) rfl rfl rfl ?_ | refine LL.val (R.quoN rfl rfl rfl (by omega) (by omega)) rfl rfl rfl ?_ | refine LL.val (R.remN rfl rfl rfl (by omega)) rfl rfl rfl ?_ | refine LL.val (R.leT rfl rfl rfl (by omega)) rfl rfl rfl ?_ | refine LL.val (R.leF rfl rfl rfl (by omega)) rfl rfl rfl ?_ | refine LL.val (R.gtT rfl rfl rfl (by omega)) rfl rfl rfl ?_ | refine LL.val (R.gtF rfl rfl rfl (by omega)) rfl rfl rfl ?_ | refine LL.val (R.geT rfl rfl rfl (by omega)) rfl rfl rfl ?_ | refine LL.val (R.geF rfl rfl rfl (by omega)) rfl rfl rfl ?_ | refine LL.val (R.eqT rfl rfl rfl (by omega)) rfl rfl rfl ?_ | refine LL.val (R.eqF rfl rfl rfl (by omega)) rfl rfl rfl ?_ | refine LL.val (R.neT rfl rfl rfl (by omega)) rfl rfl rfl ?_ | refine LL.val (R.neF rfl rfl rfl (by omega)) rfl rfl rfl ?_ | refine LL.val (R.eqPtr rfl rfl rfl rfl rfl) rfl rfl rfl ?_ | refine LL.val (R.nePtr rfl rfl rfl rfl rfl) rfl rfl rfl ?_ | refine LL.val (R.eqSl rfl rfl rfl rfl rfl) rfl rfl rfl ?_ | refine LL.val (R.neSl rfl rfl rfl rfl rfl) rfl rfl rfl ?_ | refine LL.val (R.eqFn rfl rfl rfl rfl) rfl rfl rfl ?_ | refine LL.val (R.eqBool rfl rfl rfl rfl rfl) rfl rfl rfl ?_ | refine LL.val (R.neBool rfl rfl rfl rfl rfl) rfl rfl rfl ?_ | refine LL.val (R.xorU rfl rfl rfl (by first | omega | decide) (by first | omega | decide)) rfl rfl rfl ?_ | refine LL.val (R.addUN rfl rfl rfl (by omega)) rfl rfl rfl ?_ | refine LL.val (R.not rfl rfl) rfl rfl rfl ?_ | refine LL.val (R.lenS rfl rfl rfl rfl) rfl rfl rfl ?_ | refine LL.val (R.len rfl rfl rfl rfl) rfl rfl rfl ?_ | refine LL.val (R.pick rfl rfl rfl) rfl rfl rfl ?_ | refine LL.val (R.extract rfl rfl rfl) rfl rfl rfl ?_ | refine LL.val (R.func rfl rfl rfl) rfl rfl rfl ?_ | refine LL.val (R.slice rfl rfl rfl rfl rfl (I.slA rfl)) rfl rfl rfl ?_ | refine LL.val (R.slice rfl rfl rfl rfl rfl (I.slAto rfl (by omega))) rfl rfl rfl ?_) | refine LL.skip rfl rfl ?_))
    refine EE.ret _ rfl rfl ?_
    exact ⟨v2, rfl, o2, b1.trans (b2.mono b1.size)⟩

theorem hol_step {ws : List Nat} {l : List Pt} {N : Nat} {s : List Cl} {least most : Nat} {line : Int} {fl : Bool} {P : List Ac} {i : Nat} {k x : Int} {v : Nat} (H : HolI ws l N s least most line fl) (hP : P[i]? = some (k, x, v)) (hfit : fitA N (k, x, v) = true) (hfo : foldO true (P.take i) = (line, fl, true)) (hok : (foldO true P).2.2 = true) (hm : (stoP (P.take i)).length = most) (hst : stoP P = l) :
    ∃ line' fl', HolI ws l N (doA s (k, x, v)) (if k = 3 then most else least) (if k = 1 then most + 1 else most) line' fl' ∧ foldO true (P.take (i + 1)) = (line', fl', true) ∧ (stoP (P.take (i + 1))).length = (if k = 1 then most + 1 else most) := by
  have e1 : P.take (i + 1) = P.take i ++ [(k, x, v)] := by rw [List.take_add_one, hP]; rfl
  have h2 : (foldO true (P.take (i + 1))).2.2 = true := by
    cases h : (foldO true (P.take (i + 1))).2.2 with
    | true => rfl
    | false =>
      have := foldO_pre (t := P.drop (i + 1)) h
      rw [List.take_append_drop] at this
      rw [this, h] at hok
      cases hok
  have h3 : foldO true (P.take (i + 1)) = stepO (line, fl, true) (k, x, v) := by rw [e1, foldO_snoc, hfo]
  rw [h3] at h2 ⊢
  have h4 := stoP_snoc hP
  by_cases k1 : k = 1
  · have hx := fit_1 hfit k1
    subst k1
    obtain ⟨j, rfl⟩ : ∃ j : Nat, x = (j : Int) := ⟨x.toNat, by omega⟩
    have hlm : l[most]? = some ((j : Int), v) := by
      have h5 : stoP (P.take (i + 1)) <+: stoP P := by
        have : stoP P = stoP (P.take (i + 1)) ++ stoP (P.drop (i + 1)) := by rw [← stoP_append, List.take_append_drop]
        rw [this]
        exact List.prefix_append _ _
      rw [hst, h4, if_pos rfl] at h5
      rw [← hm]
      exact pre_at h5
    have e2 : stepO (line, fl, true) (1, (j : Int), v) = (((j / 8 : Nat) : Int), false, decide (line = -1) || decide (line = ((j / 8 : Nat) : Int))) := rfl
    rw [e2] at h2 ⊢
    have h6 : line = -1 ∨ line = ((j / 8 : Nat) : Int) := by simpa using h2
    refine ⟨_, _, ?_, Prod.ext rfl (Prod.ext rfl h2), ?_⟩
    · rw [if_neg (show ¬((1 : Int) = 3) by decide), if_pos rfl]
      exact H.store hlm (by omega) h6
    · rw [h4, if_pos rfl, if_pos rfl, List.length_append, hm]
      rfl
  by_cases k2 : k = 2
  · obtain ⟨h5, h6, rfl⟩ := fit_2 hfit k2
    subst k2
    obtain ⟨j, rfl⟩ : ∃ j : Nat, x = (j : Int) := ⟨x.toNat, by omega⟩
    have e2 : stepO (line, fl, true) (2, (j : Int), 0) = (line, fl || decide ((j : Int) = line), true) := rfl
    rw [e2]
    refine ⟨_, _, ?_, rfl, ?_⟩
    · rw [if_neg (show ¬((2 : Int) = 3) by decide), if_neg (show ¬((2 : Int) = 1) by decide)]
      exact H.flush (by omega)
    · rw [h4, if_neg (show ¬((2 : Int) = 1) by decide), if_neg (show ¬((2 : Int) = 1) by decide), List.append_nil, hm]
  obtain ⟨rfl, rfl, rfl⟩ := fit_3 hfit k1 k2
  have e2 : stepO (line, fl, true) (3, 0, 0) = (-1, false, decide (line = -1) || fl) := rfl
  rw [e2] at h2 ⊢
  have h6 : line = -1 ∨ fl = true := by simpa using h2
  refine ⟨_, _, ?_, Prod.ext rfl (Prod.ext rfl h2), ?_⟩
  · rw [if_pos rfl, if_neg (show ¬((3 : Int) = 1) by decide)]
    exact H.fence h6
  · rw [h4, if_neg (show ¬((3 : Int) = 1) by decide), if_neg (show ¬((3 : Int) = 1) by decide), List.append_nil, hm]
theorem fit_plan {N : Nat} : ∀ (l : List Pt) (o : Option Nat), (∀ k, o = some k → k < N) → (∀ p ∈ l, 0 ≤ p.1 ∧ p.1 < ((N * 8 : Nat) : Int)) → ∀ a ∈ planP o l, fitA N a = true := by
  have key : ∀ k : Nat, k < N → ∀ a ∈ setA k, fitA N a = true := by
    intro k hk a ha
    simp only [setA, List.mem_cons, List.not_mem_nil, or_false] at ha
    rcases ha with rfl | rfl
    · simp [fitA, okA]; omega
    · simp [fitA, okA]
  intro l
  induction l with
  | nil =>
    intro o ho _ a ha
    cases o with
    | none => cases ha
    | some k => exact key k (ho k rfl) a ha
  | cons p l ih =>
    intro o ho hl a ha
    obtain ⟨hp0, hp1⟩ := hl p (List.mem_cons_self ..)
    have ha' : a ∈ gapA o p ∨ a = stA p ∨ a ∈ planP (some (lnP p)) l := by
      have : a ∈ gapA o p ++ stA p :: planP (some (lnP p)) l := ha
      simpa using this
    rcases ha' with ha' | rfl | ha'
    · unfold gapA at ha'
      split at ha'
      · rename_i k
        split at ha'
        · cases ha'
        · exact key k (ho k rfl) a ha'
      · cases ha'
    · simp only [fitA, okA, stA, if_true, Bool.and_eq_true, Bool.or_eq_true, decide_eq_true_eq]; exact ⟨⟨decide_eq_true hp0, .inr (decide_eq_true hp1)⟩, .inl (decide_eq_true (show (1 : Int) ≠ 2 by decide))⟩
    · refine ih (some (lnP p)) (fun k hk => ?_) (fun q hq => hl q (List.mem_cons_of_mem _ hq)) a ha'
      cases hk
      unfold lnP
      omega
theorem readsT_far {α : Type} {enc : α → List Value} {k : Nat} {K : Nat → Prop} {w w' : World} {v : Value} {ts : List α} (h : ReadsT enc k w v ts) (hk : Kept K w w') (hb : ∀ b off n c, v = .slice (some ⟨b, off, none⟩) n c → b < w.heap.size → K b) : ReadsT enc k w' v ts := by
  have h0 := h
  obtain ⟨a, cap, e, hc, h⟩ := h
  rcases Classical.em (ts = []) with hne | hne
  · subst hne
    exact ⟨a, cap, e, hc, fun h => (h rfl).elim⟩
  · obtain ⟨b, off, ha, hlt, _⟩ := h hne
    subst ha
    subst e
    exact h0.kp hk (hb _ _ _ _ rfl hlt)
theorem ownsT_ge {α : Type} {enc : α → List Value} {k : Nat} {w : World} {base e : Nat} {v : Value} {ts : List α} (h : OwnsT enc k w base e v ts) : ∀ b off n c, v = .slice (some ⟨b, off, none⟩) n c → base ≤ b := by
  intro b off n c hv
  rcases h.2 with ⟨e1, _⟩ | ⟨g, cap, cur, e1, hbg, _⟩
  · rw [e1] at hv; cases hv
  · rw [e1] at hv; cases hv; exact hbg
theorem dsame_F (v1 v2 : Value) (l1 l2 : List Nat) (w : World) (h1 : ReadsT uE 1 w v1 l1) (h2 : ReadsT uE 1 w v2 l2) (hN : l1.length ≤ 1048576) (hN2 : l2.length ≤ 1048576) (hne : l1 ≠ l2) : Calls Try.prog 25 #[v1, v2] w fun e w' => e = .returned (.bool false) ∧ Below w.heap.size w w' := by
  obtain ⟨a1, c1, rfl, _⟩ := h1.form rfl
  obtain ⟨a2, c2, rfl, _⟩ := h2.form rfl
  have h := dsame_any a1 a2 _ _ c1 c2 l1 l2 w h1 h2 rfl rfl hN hN2
  rw [decide_eq_false hne] at h
  exact h
set_option maxRecDepth 100000
set_option maxHeartbeats 8000000
theorem apply_T (v0 v2 : Value) (ws : List Nat) (l : List Pt) (L k : Nat) (w : World) (hv : ReadsT uE 1 w v0 ws) (hp : ReadsT pE 2 w v2 l) (eL : ws.length = L) (hL : L ≤ 1048576) (hl : l.length ≤ 1048576) (hk : k ≤ l.length) (hin : ∀ p ∈ l, 0 ≤ p.1 ∧ p.1 < (L : Int)) :
    Calls Try.prog 24 #[v0, .int .i64 (k : Int), v2] w fun e w' => ∃ v, e = .returned (.tuple #[v, .int .i64 0]) ∧ ReadsT uE 1 w' v (appW ws l k) ∧ Below w.heap.size w w' := by
  have q := Below.refl w.heap.size w
  obtain ⟨n, en⟩ : ∃ n, l.length = n := ⟨_, rfl⟩
  obtain ⟨a0, c0, rfl, _⟩ := hv.form eL
  obtain ⟨a2, c2, rfl, hc2⟩ := hp.form en
  rw [en] at hl hk
  have hvF : ∀ W, Below w.heap.size w W → ReadsT uE 1 W (.slice a0 L c0) ws := fun W b => hv.up b
  have hpF : ∀ W, Below w.heap.size w W → ReadsT pE 2 W (.slice a2 n c2) l := fun W b => hp.up b
  clear hv hp
  refine X.fn Try.func24 rfl (n := 58) rfl rfl ?_
  refine CC.seq ?_
  refine CC.region ?_
  refine LL.val (R.assign rfl rfl) rfl rfl rfl ?_
  refine LL.val (R.assign rfl rfl) rfl rfl rfl ?_
  refine LL.nilS ?_
  refine CC.seq ?_
  refine CC.seq ?_
  refine CC.region ?_
  refine LL.val (R.move rfl rfl) rfl rfl rfl ?_
  refine LL.val (R.ltF rfl rfl rfl (by omega)) rfl rfl rfl ?_
  refine LL.val (R.move rfl rfl) rfl rfl rfl ?_
  refine LL.val (R.move rfl rfl) rfl rfl rfl ?_
  refine LL.val (R.move rfl rfl) rfl rfl rfl ?_
  refine LL.val (R.len rfl rfl rfl rfl) rfl rfl rfl ?_
  refine LL.val (R.gtF rfl rfl rfl (by omega)) rfl rfl rfl ?_
  refine LL.val (R.pick rfl rfl rfl) rfl rfl rfl ?_
  refine LL.nilS ?_
  refine CC.no rfl ?_
  refine CC.skip ?_
  refine EE.thenN ?_
  refine CC.seq ?_
  refine CC.seq ?_
  refine CC.region ?_
  refine LL.val (R.move rfl rfl) rfl rfl rfl ?_
  refine LL.val (R.move rfl rfl) rfl rfl rfl ?_
  refine LL.val (R.slice rfl rfl rfl rfl rfl (I.slTo rfl (by omega))) rfl rfl rfl ?_
  refine LL.val (R.len rfl rfl rfl rfl) rfl rfl rfl ?_
  refine LL.val (R.move rfl rfl) rfl rfl rfl ?_
  refine LL.nilS ?_
  refine CC.block ?_
  have yq := q.size
  refine CC.loop (α := Nat) (fun i => [(0, .slice a0 L c0), (1, .int .i64 (k : Int)), (2, .slice a2 n c2), (23, .slice a2 k c2), (24, .int .i64 (k : Int)), (25, .int .i64 (i : Int))]) (fun i W => i ≤ k ∧ Below w.heap.size w W) (fun i => k - i) 0 ⟨rfl, rfl, rfl, rfl, rfl, rfl, trivial⟩ ⟨Nat.zero_le _, q⟩ ?_
  clear q
  rintro i W ⟨hi, q⟩
  have yw := q.size
  by_cases hlt : i < k
  case pos =>
    obtain ⟨⟨x, v⟩, hget⟩ : ∃ x, l[i]? = some x := ⟨_, List.getElem?_eq_getElem (by omega)⟩
    have hx := hin _ (List.mem_of_getElem? hget)
    simp only at hx
    obtain ⟨bs, os, rfl, lbs, _⟩ := (hpF w (Below.refl _ _)).get pEnc hget
    have m1 : CellsN W ⟨bs, os + i * 2, none⟩ 2 [.int .i64 x, .int .u64 (v : Int)] := (hpF W q).elemN pEnc hget
    refine CC.seq ?_
    refine CC.region ?_
    refine LL.val (R.ltT rfl rfl rfl (by omega)) rfl rfl rfl ?_
    refine LL.nilS ?_
    refine CC.seq ?_
    refine CC.yes rfl ?_
    refine CC.skip ?_
    refine EE.thenN ?_
    refine CC.seq ?_
    refine CC.block ?_
    refine CC.seq ?_
    refine CC.region ?_
    refine LL.val (R.index rfl rfl rfl (I.ixS rfl (by omega))) rfl rfl rfl ?_
    refine LL.val (R.load rfl rfl (I.ldM (by assumption) rfl rfl)) rfl rfl rfl ?_
    refine LL.alloc ([Value.int IntKind.i64 0, Value.int IntKind.u64 0]) rfl rfl rfl rfl rfl ?_
    intro Wa2 ga3 ega3 ra4 za5 ba1
    replace q := q.trans (ba1.mono q.size)
    replace m1 := m1.up ba1
    refine LL.storeN (vs := [Value.int IntKind.i64 x, Value.int IntKind.u64 ↑v]) rfl rfl rfl rfl ra4 (by exact Nat.le_of_ble_eq_true rfl) (ones_of rfl) rfl rfl ?_
    intro Wa7 ra8 ba6 za9
    have hlba6 := ra4.lt
    replace ra8 : RowL Wa7 _ 56 [Value.int IntKind.i64 x, Value.int IntKind.u64 ↑v] := ra8
    clear ra4
    replace ba1 := ba1.grown ba6 ba1.size (by rintro k ⟨⟩; omega)
    replace q := q.grown ba6 q.size (by rintro k ⟨⟩; omega)
    replace m1 := m1.gr ba6 (by have := m1.lt; omega)
    have ra4 := ra8
    clear ra8
    refine LL.nilS ?_
    refine CC.seq ?_
    refine CC.region ?_
    refine LL.val (R.field rfl rfl (I.fld rfl)) rfl rfl rfl ?_
    refine LL.val (R.load rfl rfl (I.ld1 rfl (RowL.cell ra4 rfl))) rfl rfl rfl ?_
    refine LL.val (R.ltF rfl rfl rfl (by omega)) rfl rfl rfl ?_
    refine LL.val (R.move rfl rfl) rfl rfl rfl ?_
    refine LL.val (R.field rfl rfl (I.fld rfl)) rfl rfl rfl ?_
    refine LL.val (R.load rfl rfl (I.ld1 rfl (RowL.cell ra4 rfl))) rfl rfl rfl ?_
    refine LL.val (R.move rfl rfl) rfl rfl rfl ?_
    refine LL.val (R.len rfl rfl rfl rfl) rfl rfl rfl ?_
    refine LL.val (R.geF rfl rfl rfl (by omega)) rfl rfl rfl ?_
    refine LL.val (R.pick rfl rfl rfl) rfl rfl rfl ?_
    refine LL.nilS ?_
    refine CC.no rfl ?_
    refine CC.skip ?_
    refine EE.inN ?_
    refine EE.thenN ?_
    refine CC.region ?_
    refine LL.val (R.addNc rfl rfl rfl rfl (by omega)) rfl rfl rfl ?_
    refine LL.val (R.move rfl rfl) rfl rfl rfl ?_
    refine LL.nil ?_
    exact EE.round (i + 1) ⟨rfl, rfl, rfl, rfl, rfl, rfl, trivial⟩ ⟨by omega, q⟩ (by omega)
  obtain rfl : i = k := by omega
  refine CC.seq ?_
  refine CC.region ?_
  refine LL.val (R.ltF rfl rfl rfl (by omega)) rfl rfl rfl ?_
  refine LL.nilS ?_
  refine CC.seq ?_
  refine CC.no rfl ?_
  refine CC.exit ?_
  refine EE.thenX ?_
  refine EE.thenX ?_
  refine EE.inX ?_
  refine EE.thenN ?_
  refine CC.seq ?_
  refine CC.region ?_
  refine LL.val (R.move rfl rfl) rfl rfl rfl ?_
  (refine LL.call (R.call rfl rfl rfl) rfl rfl rfl (uclone_any _ ws _ (hvF _ q) (by omega)) ?_; rintro e Wb18 ⟨v', rfl, o1, bb15⟩; refine ⟨_, rfl, ?_⟩)
  have zbb15 := bb15.size
  replace q := q.trans (bb15.mono q.size)
  refine LL.val (R.assign rfl rfl) rfl rfl rfl ?_
  refine LL.nilS ?_
  refine CC.seq ?_
  refine CC.seq ?_
  refine CC.region ?_
  refine LL.val (R.move rfl rfl) rfl rfl rfl ?_
  refine LL.val (R.move rfl rfl) rfl rfl rfl ?_
  refine LL.val (R.slice rfl rfl rfl rfl rfl (I.slTo rfl (by omega))) rfl rfl rfl ?_
  refine LL.val (R.len rfl rfl rfl rfl) rfl rfl rfl ?_
  refine LL.val (R.move rfl rfl) rfl rfl rfl ?_
  refine LL.nilS ?_
  refine CC.block ?_
  have yq2 := q.size
  refine CC.loop (α := Nat) (fun j => [(10, v'), (44, .slice a2 i c2), (45, .int .i64 (i : Int)), (46, .int .i64 (j : Int))]) (fun j W' => j ≤ i ∧ Below w.heap.size w W' ∧ OwnsT uE 1 W' W.heap.size 36 v' (appW ws l j)) (fun j => i - j) 0 ⟨rfl, rfl, rfl, rfl, trivial⟩ ⟨Nat.zero_le _, q, by rw [appW_zero]; exact o1⟩ ?_
  clear q o1
  rintro j W' ⟨hj, q, o1⟩
  have yw2 := q.size
  show CC none Try.prog _ 58 [] (sl [(10, v'), (44, .slice a2 i c2), (45, .int .i64 (i : Int)), (46, .int .i64 (j : Int))]) _ W'
  have hln : (appW ws l j).length = L := by rw [appW_len]; exact eL
  by_cases hlt2 : j < i
  case neg =>
    obtain rfl : j = i := by omega
    refine CC.seq ?_
    refine CC.region ?_
    refine LL.val (R.ltF rfl rfl rfl (by omega)) rfl rfl rfl ?_
    refine LL.nilS ?_
    refine CC.seq ?_
    refine CC.no rfl ?_
    refine CC.exit ?_
    refine EE.thenX ?_
    refine EE.thenX ?_
    refine EE.inX ?_
    refine EE.thenN ?_
    refine CC.seq ?_
    refine CC.region ?_
    refine LL.val (R.move rfl rfl) rfl rfl rfl ?_
    refine LL.val (R.assign rfl rfl) rfl rfl rfl ?_
    refine LL.val (R.assign rfl rfl) rfl rfl rfl ?_
    refine LL.nilS ?_
    refine CC.ret ?_
    refine EE.ret _ rfl rfl ?_
    exact ⟨_, rfl, o1.reads uEnc, q⟩
  obtain ⟨⟨x, v⟩, hget⟩ : ∃ x, l[j]? = some x := ⟨_, List.getElem?_eq_getElem (by omega)⟩
  obtain ⟨hx1, hx2⟩ := hin _ (List.mem_of_getElem? hget)
  simp only at hx1 hx2
  have es := appW_succ (ws := ws) hget
  obtain ⟨x, rfl⟩ : ∃ y : Nat, x = (y : Int) := ⟨x.toNat, by omega⟩
  rw [show ((x : Int), v).1.toNat = x from rfl] at es
  obtain ⟨sx, esx⟩ : ∃ sx, appW ws l j = sx := ⟨_, rfl⟩
  rw [esx] at o1 hln es
  clear esx
  obtain ⟨bs, os, rfl, lbs, _⟩ := (hpF w (Below.refl _ _)).get pEnc hget
  have m1 : CellsN W' ⟨bs, os + j * 2, none⟩ 2 [.int .i64 (x : Int), .int .u64 (v : Int)] := (hpF W' q).elemN pEnc hget
  obtain ⟨g, cg, rfl, hbg, hgw, hcg⟩ := ownsT_form o1 hln (by omega)
  obtain ⟨u, hu⟩ : ∃ u, sx[x]? = some u := ⟨_, List.getElem?_eq_getElem (by omega)⟩
  refine CC.seq ?_
  refine CC.region ?_
  refine LL.val (R.ltT rfl rfl rfl (by omega)) rfl rfl rfl ?_
  refine LL.nilS ?_
  refine CC.seq ?_
  refine CC.yes rfl ?_
  refine CC.skip ?_
  refine EE.thenN ?_
  refine CC.seq ?_
  refine CC.block ?_
  refine CC.seq ?_
  refine CC.region ?_
  refine LL.val (R.index rfl rfl rfl (I.ixS rfl (by omega))) rfl rfl rfl ?_
  refine LL.val (R.load rfl rfl (I.ldM (by assumption) rfl rfl)) rfl rfl rfl ?_
  refine LL.alloc ([Value.int IntKind.i64 0, Value.int IntKind.u64 0]) rfl rfl rfl rfl rfl ?_
  intro Wd2 gd3 egd3 rd4 zd5 bd1
  replace q := q.trans (bd1.mono q.size)
  replace m1 := m1.up bd1
  replace o1 := o1.up bd1
  refine LL.storeN (vs := [Value.int IntKind.i64 ↑x, Value.int IntKind.u64 ↑v]) rfl rfl rfl rfl rd4 (by exact Nat.le_of_ble_eq_true rfl) (ones_of rfl) rfl rfl ?_
  intro Wd7 rd8 bd6 zd9
  have hlbd6 := rd4.lt
  replace rd8 : RowL Wd7 _ 56 [Value.int IntKind.i64 ↑x, Value.int IntKind.u64 ↑v] := rd8
  clear rd4
  replace bd1 := bd1.grown bd6 bd1.size (by rintro k ⟨⟩; omega)
  replace q := q.grown bd6 q.size (by rintro k ⟨⟩; omega)
  replace m1 := m1.gr bd6 (by have := m1.lt; omega)
  replace o1 := o1.grown bd6 (fun e => by simp [Value.ownBlock] at e; omega)
  have rd4 := rd8
  clear rd8
  refine LL.nilS ?_
  refine CC.region ?_
  refine LL.val (R.move rfl rfl) rfl rfl rfl ?_
  refine LL.val (R.field rfl rfl (I.fld rfl)) rfl rfl rfl ?_
  refine LL.val (R.load rfl rfl (I.ld1 rfl (RowL.cell rd4 rfl))) rfl rfl rfl ?_
  refine LL.val (R.field rfl rfl (I.fld rfl)) rfl rfl rfl ?_
  refine LL.val (R.load rfl rfl (I.ld1 rfl (RowL.cell rd4 rfl))) rfl rfl rfl ?_
  refine LL.val (R.index rfl rfl rfl (I.ixS1 rfl (by omega))) rfl rfl rfl ?_
  (refine LL.storeF x 0 u v rfl rfl rfl rfl (by simp) uEnc o1 hu (by decide) rfl rfl rfl rfl rfl ?_; intro Wa oa gra hsz; replace q := q.grown gra q.size (fun g hg => by cases hg; omega); clear gra o1; have o1 := oa; clear oa)
  refine LL.nil ?_
  refine EE.inN ?_
  refine EE.thenN ?_
  refine CC.region ?_
  refine LL.val (R.addNc rfl rfl rfl rfl (by omega)) rfl rfl rfl ?_
  refine LL.val (R.move rfl rfl) rfl rfl rfl ?_
  refine LL.nil ?_
  exact EE.round (j + 1) ⟨rfl, rfl, rfl, rfl, trivial⟩ ⟨by show j + 1 ≤ i; omega, q, by rw [es]; exact o1⟩ (by show i - (j + 1) < i - j; omega)
end Go.Proofs.Ytcmgpfahpmkeoaa

/- PlanHolds: the walk. -/
namespace Go.Proofs.Ytcmgpfahpmkeoaa
set_option linter.unusedVariables false
set_option linter.unusedSimpArgs false
open Go.RowKit Go.Shelf
/-- Whole numbers in a slice. -/
def inE (x : Int) : List Value := [.int .i64 x]
theorem inEnc : Enc inE 1 := ⟨fun _ => rfl, fun t u hu => by
  simp only [inE, List.mem_cons, List.not_mem_nil, or_false] at hu
  subst hu
  rfl, by decide⟩
def inF (g : Nat → Int) : Int := g 0
theorem len_in {gs : List (Nat → Int)} (h : gs.length ≤ 9223372036854775807) : (gs.map inF).length ≤ 9223372036854775807 := by
  rw [List.length_map]
  exact h
structure HSt where
  i : Nat
  least : Nat
  most : Nat
  s : List Cl
  line : Int
  fl : Bool
def HSt.I (w W0 : World) (m gn gl qb N : Nat) (ws : List Nat) (l : List Pt) (P : List Ac) (t : HSt) (W : World) : Prop := t.i ≤ P.length ∧ Below w.heap.size w W ∧ Mem W m gn gl qb N t.s ∧ Kept (KM W0 gn gl qb) W0 W ∧ HolI ws l N t.s t.least t.most t.line t.fl ∧ foldO true (P.take t.i) = (t.line, t.fl, true) ∧ (stoP (P.take t.i)).length = t.most
set_option maxRecDepth 100000
set_option maxHeartbeats 8000000
theorem holds_walk (v0 v1 : Value) (a2 : Int) (v3 v4 : Value) (ws : List Nat) (l : List Pt) (w : World) (hv : ReadsT uE 1 w v0 ws) (hL : ws.length ≤ 9223372036854775807) (hp : ReadsT pE 2 w v1 l) (hpw : ∀ p ∈ l, p.1 ≤ 9223372036854775807) (hn : l.length ≤ 9223372036854775807) (es : List Int) (hE : ReadsT inE 1 w v3 es) (hEn : es.length ≤ 9223372036854775807) (ps : List Nat) (hps : ReadsT yE 1 w v4 ps) (hpb : ∀ p ∈ ps, p < 256) (hpn : ps.length ≤ 9223372036854775807) : Calls Try.prog 5 #[v0, v1, .int .i64 a2, v3, v4] w fun e w' => e = .returned (.bool true) ∧ Below w.heap.size w w' := by
  have q := Below.refl w.heap.size w
  obtain ⟨a0, c0, rfl, _⟩ := hv.form rfl
  obtain ⟨a1, c1, rfl, _⟩ := hp.form rfl
  obtain ⟨a3, c3, rfl, _⟩ := hE.form rfl
  obtain ⟨a4, c4, rfl, _⟩ := hps.form rfl
  obtain ⟨L, eL⟩ : ∃ L, ws.length = L := ⟨_, rfl⟩
  obtain ⟨n, en⟩ : ∃ n, l.length = n := ⟨_, rfl⟩
  obtain ⟨ne, ene⟩ : ∃ n, es.length = n := ⟨_, rfl⟩
  obtain ⟨np, enp⟩ : ∃ n, ps.length = n := ⟨_, rfl⟩
  rw [eL] at hv hL ⊢
  rw [en] at hp hn ⊢
  rw [ene] at hE hEn ⊢
  rw [enp] at hps hpn ⊢
  have hvF : ∀ W, Below w.heap.size w W → ReadsT uE 1 W (.slice a0 L c0) ws := fun W b => hv.up b
  have hpF : ∀ W, Below w.heap.size w W → ReadsT pE 2 W (.slice a1 n c1) l := fun W b => hp.up b
  have hEF : ∀ W, Below w.heap.size w W → ReadsT inE 1 W (.slice a3 ne c3) es := fun W b => hE.up b
  have hkF : ∀ W, Below w.heap.size w W → ReadsT yE 1 W (.slice a4 np c4) ps := fun W b => hps.up b
  clear hv hp hE hps
  by_cases h64 : L ≤ 64
  case neg =>
    refine X.fn Try.func5 rfl (n := 162) rfl rfl ?_
    refine CC.seq ?_
    refine CC.region ?_
    refine LL.val (R.assign rfl rfl) rfl rfl rfl ?_
    refine LL.nilS ?_
    refine CC.seq ?_
    refine CC.seq ?_
    refine CC.region ?_
    refine LL.val (R.move rfl rfl) rfl rfl rfl ?_
    refine LL.val (R.len rfl rfl rfl rfl) rfl rfl rfl ?_
    refine LL.val (R.gtT rfl rfl rfl (by omega)) rfl rfl rfl ?_
    refine LL.val (R.move rfl rfl) rfl rfl rfl ?_
    refine LL.skip rfl rfl ?_
    refine LL.skip rfl rfl ?_
    refine LL.skip rfl rfl ?_
    refine LL.skip rfl rfl ?_
    refine LL.val (R.pick rfl rfl rfl) rfl rfl rfl ?_
    refine LL.val (R.move rfl rfl) rfl rfl rfl ?_
    refine LL.skip rfl rfl ?_
    refine LL.skip rfl rfl ?_
    refine LL.skip rfl rfl ?_
    refine LL.val (R.pick rfl rfl rfl) rfl rfl rfl ?_
    refine LL.val (R.move rfl rfl) rfl rfl rfl ?_
    refine LL.skip rfl rfl ?_
    refine LL.skip rfl rfl ?_
    refine LL.skip rfl rfl ?_
    refine LL.val (R.pick rfl rfl rfl) rfl rfl rfl ?_
    refine LL.val (R.move rfl rfl) rfl rfl rfl ?_
    refine LL.skip rfl rfl ?_
    refine LL.skip rfl rfl ?_
    refine LL.skip rfl rfl ?_
    refine LL.val (R.pick rfl rfl rfl) rfl rfl rfl ?_
    refine LL.nilS ?_
    refine CC.yes rfl ?_
    refine CC.seq ?_
    refine CC.region ?_
    refine LL.call (R.call rfl rfl rfl) rfl rfl rfl (works_any _) ?_
    rintro e W2 ⟨rfl, b1⟩
    refine ⟨_, rfl, ?_⟩
    have zb1 := b1.size
    replace q := q.trans (b1.mono q.size)
    refine LL.val (R.assign rfl rfl) rfl rfl rfl ?_
    refine LL.nilS ?_
    refine CC.ret ?_
    refine EE.thenR ?_
    refine EE.ret _ rfl rfl ?_
    exact ⟨rfl, q⟩
  by_cases h8 : 8 ≤ L ∧ L % 8 = 0
  case neg =>
    have hr : (L : Int) < 8 ∨ 131072 < (L : Int) ∨ (L : Int) % 8 ≠ 0 := by omega
    clear h8
    refine X.fn Try.func5 rfl (n := 162) rfl rfl ?_
    refine CC.seq ?_
    refine CC.region ?_
    refine LL.val (R.assign rfl rfl) rfl rfl rfl ?_
    refine LL.nilS ?_
    refine CC.seq ?_
    refine CC.seq ?_
    refine CC.region ?_
    refine LL.val (R.move rfl rfl) rfl rfl rfl ?_
    refine LL.val (R.len rfl rfl rfl rfl) rfl rfl rfl ?_
    refine LL.val (R.gtF rfl rfl rfl (by omega)) rfl rfl rfl ?_
    refine LL.val (R.move rfl rfl) rfl rfl rfl ?_
    refine LL.val (R.move rfl rfl) rfl rfl rfl ?_
    refine LL.val (R.len rfl rfl rfl rfl) rfl rfl rfl ?_
    refine LL.call (R.call rfl rfl rfl) rfl rfl rfl (right_F _ _ (by first | assumption | omega)) ?_
    rintro e W' ⟨rfl, rfl⟩
    refine ⟨_, rfl, ?_⟩
    refine LL.val (R.not rfl rfl) rfl rfl rfl ?_
    refine LL.val (R.pick rfl rfl rfl) rfl rfl rfl ?_
    refine LL.val (R.move rfl rfl) rfl rfl rfl ?_
    refine LL.skip rfl rfl ?_
    refine LL.skip rfl rfl ?_
    refine LL.skip rfl rfl ?_
    refine LL.val (R.pick rfl rfl rfl) rfl rfl rfl ?_
    refine LL.val (R.move rfl rfl) rfl rfl rfl ?_
    refine LL.skip rfl rfl ?_
    refine LL.skip rfl rfl ?_
    refine LL.skip rfl rfl ?_
    refine LL.val (R.pick rfl rfl rfl) rfl rfl rfl ?_
    refine LL.val (R.move rfl rfl) rfl rfl rfl ?_
    refine LL.skip rfl rfl ?_
    refine LL.skip rfl rfl ?_
    refine LL.skip rfl rfl ?_
    refine LL.val (R.pick rfl rfl rfl) rfl rfl rfl ?_
    refine LL.nilS ?_
    refine CC.yes rfl ?_
    refine CC.seq ?_
    refine CC.region ?_
    refine LL.call (R.call rfl rfl rfl) rfl rfl rfl (works_any _) ?_
    rintro e Wa2 ⟨rfl, ba1⟩
    refine ⟨_, rfl, ?_⟩
    have zba1 := ba1.size
    replace q := q.trans (ba1.mono q.size)
    refine LL.val (R.assign rfl rfl) rfl rfl rfl ?_
    refine LL.nilS ?_
    refine CC.ret ?_
    refine EE.thenR ?_
    refine EE.ret _ rfl rfl ?_
    exact ⟨rfl, q⟩
  obtain ⟨N, rfl⟩ : ∃ N, L = N * 8 := ⟨L / 8, by omega⟩
  have h0 : 0 < N := by omega
  have hN : N ≤ 16384 := by omega
  clear h8
  by_cases h60 : n ≤ 60
  case neg =>
    refine X.fn Try.func5 rfl (n := 162) rfl rfl ?_
    refine CC.seq ?_
    refine CC.region ?_
    refine LL.val (R.assign rfl rfl) rfl rfl rfl ?_
    refine LL.nilS ?_
    refine CC.seq ?_
    refine CC.seq ?_
    refine CC.region ?_
    refine LL.val (R.move rfl rfl) rfl rfl rfl ?_
    refine LL.val (R.len rfl rfl rfl rfl) rfl rfl rfl ?_
    refine LL.val (R.gtF rfl rfl rfl (by omega)) rfl rfl rfl ?_
    refine LL.val (R.move rfl rfl) rfl rfl rfl ?_
    refine LL.val (R.move rfl rfl) rfl rfl rfl ?_
    refine LL.val (R.len rfl rfl rfl rfl) rfl rfl rfl ?_
    refine LL.call (R.call rfl rfl rfl) rfl rfl rfl (right_T _ _ (by first | assumption | omega)) ?_
    rintro e W' ⟨rfl, rfl⟩
    refine ⟨_, rfl, ?_⟩
    refine LL.val (R.not rfl rfl) rfl rfl rfl ?_
    refine LL.val (R.pick rfl rfl rfl) rfl rfl rfl ?_
    refine LL.val (R.move rfl rfl) rfl rfl rfl ?_
    refine LL.val (R.move rfl rfl) rfl rfl rfl ?_
    refine LL.val (R.len rfl rfl rfl rfl) rfl rfl rfl ?_
    refine LL.val (R.gtT rfl rfl rfl (by omega)) rfl rfl rfl ?_
    refine LL.val (R.pick rfl rfl rfl) rfl rfl rfl ?_
    refine LL.val (R.move rfl rfl) rfl rfl rfl ?_
    refine LL.skip rfl rfl ?_
    refine LL.skip rfl rfl ?_
    refine LL.skip rfl rfl ?_
    refine LL.val (R.pick rfl rfl rfl) rfl rfl rfl ?_
    refine LL.val (R.move rfl rfl) rfl rfl rfl ?_
    refine LL.skip rfl rfl ?_
    refine LL.skip rfl rfl ?_
    refine LL.skip rfl rfl ?_
    refine LL.val (R.pick rfl rfl rfl) rfl rfl rfl ?_
    refine LL.nilS ?_
    refine CC.yes rfl ?_
    refine CC.seq ?_
    refine CC.region ?_
    refine LL.call (R.call rfl rfl rfl) rfl rfl rfl (works_any _) ?_
    rintro e Wb2 ⟨rfl, bb1⟩
    refine ⟨_, rfl, ?_⟩
    have zbb1 := bb1.size
    replace q := q.trans (bb1.mono q.size)
    refine LL.val (R.assign rfl rfl) rfl rfl rfl ?_
    refine LL.nilS ?_
    refine CC.ret ?_
    refine EE.thenR ?_
    refine EE.ret _ rfl rfl ?_
    exact ⟨rfl, q⟩
  by_cases h200 : ne ≤ 200
  case neg =>
    refine X.fn Try.func5 rfl (n := 162) rfl rfl ?_
    refine CC.seq ?_
    refine CC.region ?_
    refine LL.val (R.assign rfl rfl) rfl rfl rfl ?_
    refine LL.nilS ?_
    refine CC.seq ?_
    refine CC.seq ?_
    refine CC.region ?_
    refine LL.val (R.move rfl rfl) rfl rfl rfl ?_
    refine LL.val (R.len rfl rfl rfl rfl) rfl rfl rfl ?_
    refine LL.val (R.gtF rfl rfl rfl (by omega)) rfl rfl rfl ?_
    refine LL.val (R.move rfl rfl) rfl rfl rfl ?_
    refine LL.val (R.move rfl rfl) rfl rfl rfl ?_
    refine LL.val (R.len rfl rfl rfl rfl) rfl rfl rfl ?_
    refine LL.call (R.call rfl rfl rfl) rfl rfl rfl (right_T _ _ (by first | assumption | omega)) ?_
    rintro e W' ⟨rfl, rfl⟩
    refine ⟨_, rfl, ?_⟩
    refine LL.val (R.not rfl rfl) rfl rfl rfl ?_
    refine LL.val (R.pick rfl rfl rfl) rfl rfl rfl ?_
    refine LL.val (R.move rfl rfl) rfl rfl rfl ?_
    refine LL.val (R.move rfl rfl) rfl rfl rfl ?_
    refine LL.val (R.len rfl rfl rfl rfl) rfl rfl rfl ?_
    refine LL.val (R.gtF rfl rfl rfl (by omega)) rfl rfl rfl ?_
    refine LL.val (R.pick rfl rfl rfl) rfl rfl rfl ?_
    refine LL.val (R.move rfl rfl) rfl rfl rfl ?_
    refine LL.val (R.move rfl rfl) rfl rfl rfl ?_
    refine LL.val (R.len rfl rfl rfl rfl) rfl rfl rfl ?_
    refine LL.val (R.gtT rfl rfl rfl (by omega)) rfl rfl rfl ?_
    refine LL.val (R.pick rfl rfl rfl) rfl rfl rfl ?_
    refine LL.val (R.move rfl rfl) rfl rfl rfl ?_
    refine LL.skip rfl rfl ?_
    refine LL.skip rfl rfl ?_
    refine LL.skip rfl rfl ?_
    refine LL.val (R.pick rfl rfl rfl) rfl rfl rfl ?_
    refine LL.nilS ?_
    refine CC.yes rfl ?_
    refine CC.seq ?_
    refine CC.region ?_
    refine LL.call (R.call rfl rfl rfl) rfl rfl rfl (works_any _) ?_
    rintro e Wc2 ⟨rfl, bc1⟩
    refine ⟨_, rfl, ?_⟩
    have zbc1 := bc1.size
    replace q := q.trans (bc1.mono q.size)
    refine LL.val (R.assign rfl rfl) rfl rfl rfl ?_
    refine LL.nilS ?_
    refine CC.ret ?_
    refine EE.thenR ?_
    refine EE.ret _ rfl rfl ?_
    exact ⟨rfl, q⟩
  by_cases h10 : np ≤ 10
  case neg =>
    refine X.fn Try.func5 rfl (n := 162) rfl rfl ?_
    refine CC.seq ?_
    refine CC.region ?_
    refine LL.val (R.assign rfl rfl) rfl rfl rfl ?_
    refine LL.nilS ?_
    refine CC.seq ?_
    refine CC.seq ?_
    refine CC.region ?_
    refine LL.val (R.move rfl rfl) rfl rfl rfl ?_
    refine LL.val (R.len rfl rfl rfl rfl) rfl rfl rfl ?_
    refine LL.val (R.gtF rfl rfl rfl (by omega)) rfl rfl rfl ?_
    refine LL.val (R.move rfl rfl) rfl rfl rfl ?_
    refine LL.val (R.move rfl rfl) rfl rfl rfl ?_
    refine LL.val (R.len rfl rfl rfl rfl) rfl rfl rfl ?_
    refine LL.call (R.call rfl rfl rfl) rfl rfl rfl (right_T _ _ (by first | assumption | omega)) ?_
    rintro e W' ⟨rfl, rfl⟩
    refine ⟨_, rfl, ?_⟩
    refine LL.val (R.not rfl rfl) rfl rfl rfl ?_
    refine LL.val (R.pick rfl rfl rfl) rfl rfl rfl ?_
    refine LL.val (R.move rfl rfl) rfl rfl rfl ?_
    refine LL.val (R.move rfl rfl) rfl rfl rfl ?_
    refine LL.val (R.len rfl rfl rfl rfl) rfl rfl rfl ?_
    refine LL.val (R.gtF rfl rfl rfl (by omega)) rfl rfl rfl ?_
    refine LL.val (R.pick rfl rfl rfl) rfl rfl rfl ?_
    refine LL.val (R.move rfl rfl) rfl rfl rfl ?_
    refine LL.val (R.move rfl rfl) rfl rfl rfl ?_
    refine LL.val (R.len rfl rfl rfl rfl) rfl rfl rfl ?_
    refine LL.val (R.gtF rfl rfl rfl (by omega)) rfl rfl rfl ?_
    refine LL.val (R.pick rfl rfl rfl) rfl rfl rfl ?_
    refine LL.val (R.move rfl rfl) rfl rfl rfl ?_
    refine LL.val (R.move rfl rfl) rfl rfl rfl ?_
    refine LL.val (R.len rfl rfl rfl rfl) rfl rfl rfl ?_
    refine LL.val (R.gtT rfl rfl rfl (by omega)) rfl rfl rfl ?_
    refine LL.val (R.pick rfl rfl rfl) rfl rfl rfl ?_
    refine LL.nilS ?_
    refine CC.yes rfl ?_
    refine CC.seq ?_
    refine CC.region ?_
    refine LL.call (R.call rfl rfl rfl) rfl rfl rfl (works_any _) ?_
    rintro e Wd2 ⟨rfl, bd1⟩
    refine ⟨_, rfl, ?_⟩
    have zbd1 := bd1.size
    replace q := q.trans (bd1.mono q.size)
    refine LL.val (R.assign rfl rfl) rfl rfl rfl ?_
    refine LL.nilS ?_
    refine CC.ret ?_
    refine EE.thenR ?_
    refine EE.ret _ rfl rfl ?_
    exact ⟨rfl, q⟩
  refine X.fn Try.func5 rfl (n := 162) rfl rfl ?_
  refine CC.seq ?_
  refine CC.region ?_
  refine LL.val (R.assign rfl rfl) rfl rfl rfl ?_
  refine LL.nilS ?_
  refine CC.seq ?_
  refine CC.seq ?_
  refine CC.region ?_
  refine LL.val (R.move rfl rfl) rfl rfl rfl ?_
  refine LL.val (R.len rfl rfl rfl rfl) rfl rfl rfl ?_
  refine LL.val (R.gtF rfl rfl rfl (by omega)) rfl rfl rfl ?_
  refine LL.val (R.move rfl rfl) rfl rfl rfl ?_
  refine LL.val (R.move rfl rfl) rfl rfl rfl ?_
  refine LL.val (R.len rfl rfl rfl rfl) rfl rfl rfl ?_
  refine LL.call (R.call rfl rfl rfl) rfl rfl rfl (right_T _ _ (by first | assumption | omega)) ?_
  rintro e W' ⟨rfl, rfl⟩
  refine ⟨_, rfl, ?_⟩
  refine LL.val (R.not rfl rfl) rfl rfl rfl ?_
  refine LL.val (R.pick rfl rfl rfl) rfl rfl rfl ?_
  refine LL.val (R.move rfl rfl) rfl rfl rfl ?_
  refine LL.val (R.move rfl rfl) rfl rfl rfl ?_
  refine LL.val (R.len rfl rfl rfl rfl) rfl rfl rfl ?_
  refine LL.val (R.gtF rfl rfl rfl (by omega)) rfl rfl rfl ?_
  refine LL.val (R.pick rfl rfl rfl) rfl rfl rfl ?_
  refine LL.val (R.move rfl rfl) rfl rfl rfl ?_
  refine LL.val (R.move rfl rfl) rfl rfl rfl ?_
  refine LL.val (R.len rfl rfl rfl rfl) rfl rfl rfl ?_
  refine LL.val (R.gtF rfl rfl rfl (by omega)) rfl rfl rfl ?_
  refine LL.val (R.pick rfl rfl rfl) rfl rfl rfl ?_
  refine LL.val (R.move rfl rfl) rfl rfl rfl ?_
  refine LL.val (R.move rfl rfl) rfl rfl rfl ?_
  refine LL.val (R.len rfl rfl rfl rfl) rfl rfl rfl ?_
  refine LL.val (R.gtF rfl rfl rfl (by omega)) rfl rfl rfl ?_
  refine LL.val (R.pick rfl rfl rfl) rfl rfl rfl ?_
  refine LL.nilS ?_
  refine CC.no rfl ?_
  refine CC.skip ?_
  refine EE.thenN ?_
  refine CC.seq ?_
  refine CC.seq ?_
  refine CC.region ?_
  refine LL.val (R.assign rfl rfl) rfl rfl rfl ?_
  refine LL.nilS ?_
  refine CC.block ?_
  refine CC.loop (α := Nat) (fun i => [(0, .slice a0 (N * 8) c0), (1, .slice a1 n c1), (2, .int .i64 a2), (3, .slice a3 ne c3), (4, .slice a4 np c4), (11, .int .i64 (i : Int))]) (fun i W => i ≤ n ∧ Below w.heap.size w W ∧ ∀ j, j < i → ∀ p, l[j]? = some p → 0 ≤ p.1 ∧ p.1 < ((N * 8 : Nat) : Int)) (fun i => n - i) 0 ⟨rfl, rfl, rfl, rfl, rfl, rfl, trivial⟩ ⟨Nat.zero_le _, q, fun j hj => by omega⟩ ?_
  clear q
  rintro i W ⟨hi, q, hall⟩
  have yw := q.size
  by_cases hlt : i < n
  case pos =>
    obtain ⟨⟨x, v⟩, hget⟩ : ∃ x, l[i]? = some x := ⟨_, List.getElem?_eq_getElem (by omega)⟩
    obtain ⟨bs, os, rfl, lbs, _⟩ := (hpF w (Below.refl _ _)).get pEnc hget
    have m1 : CellsN W ⟨bs, os + i * 2, none⟩ 2 [.int .i64 x, .int .u64 (v : Int)] := (hpF W q).elemN pEnc hget
    have c1' : W.cell? ⟨bs, os + i * 2, none⟩ = some (.int .i64 x) := m1.cell (j := 0) rfl
    by_cases hx : x < 0
    · clear hall
      refine CC.seq ?_
      refine CC.seq ?_
      refine CC.region ?_
      refine LL.val (R.move rfl rfl) rfl rfl rfl ?_
      refine LL.val (R.move rfl rfl) rfl rfl rfl ?_
      refine LL.val (R.len rfl rfl rfl rfl) rfl rfl rfl ?_
      refine LL.val (R.ltT rfl rfl rfl (by omega)) rfl rfl rfl ?_
      refine LL.nilS ?_
      refine CC.yes rfl ?_
      refine CC.skip ?_
      refine EE.thenN ?_
      refine CC.seq ?_
      refine CC.block ?_
      refine CC.seq ?_
      refine CC.region ?_
      refine LL.val (R.move rfl rfl) rfl rfl rfl ?_
      refine LL.val (R.move rfl rfl) rfl rfl rfl ?_
      refine LL.val (R.index rfl rfl rfl (I.ixS rfl (by omega))) rfl rfl rfl ?_
      refine LL.val (R.field rfl rfl (I.fld rfl)) rfl rfl rfl ?_
      refine LL.val (R.load rfl rfl (I.ld1 rfl (by assumption))) rfl rfl rfl ?_
      refine LL.val (R.ltT rfl rfl rfl (by omega)) rfl rfl rfl ?_
      refine LL.val (R.move rfl rfl) rfl rfl rfl ?_
      refine LL.skip rfl rfl ?_
      refine LL.skip rfl rfl ?_
      refine LL.skip rfl rfl ?_
      refine LL.skip rfl rfl ?_
      refine LL.skip rfl rfl ?_
      refine LL.skip rfl rfl ?_
      refine LL.skip rfl rfl ?_
      refine LL.skip rfl rfl ?_
      refine LL.val (R.pick rfl rfl rfl) rfl rfl rfl ?_
      refine LL.nilS ?_
      refine CC.yes rfl ?_
      refine CC.seq ?_
      refine CC.region ?_
      refine LL.call (R.call rfl rfl rfl) rfl rfl rfl (works_any _) ?_
      rintro e Wf2 ⟨rfl, bf1⟩
      refine ⟨_, rfl, ?_⟩
      have zbf1 := bf1.size
      replace q := q.trans (bf1.mono q.size)
      replace m1 := m1.up bf1
      replace c1' := cell_up c1' bf1
      refine LL.val (R.assign rfl rfl) rfl rfl rfl ?_
      refine LL.nilS ?_
      refine CC.ret ?_
      refine EE.inR ?_
      refine EE.thenR ?_
      refine EE.thenR ?_
      refine EE.inR ?_
      refine EE.thenR ?_
      refine EE.ret _ rfl rfl ?_
      exact ⟨rfl, q⟩
    by_cases hx2 : ((N * 8 : Nat) : Int) ≤ x
    · clear hall
      refine CC.seq ?_
      refine CC.seq ?_
      refine CC.region ?_
      refine LL.val (R.move rfl rfl) rfl rfl rfl ?_
      refine LL.val (R.move rfl rfl) rfl rfl rfl ?_
      refine LL.val (R.len rfl rfl rfl rfl) rfl rfl rfl ?_
      refine LL.val (R.ltT rfl rfl rfl (by omega)) rfl rfl rfl ?_
      refine LL.nilS ?_
      refine CC.yes rfl ?_
      refine CC.skip ?_
      refine EE.thenN ?_
      refine CC.seq ?_
      refine CC.block ?_
      refine CC.seq ?_
      refine CC.region ?_
      refine LL.val (R.move rfl rfl) rfl rfl rfl ?_
      refine LL.val (R.move rfl rfl) rfl rfl rfl ?_
      refine LL.val (R.index rfl rfl rfl (I.ixS rfl (by omega))) rfl rfl rfl ?_
      refine LL.val (R.field rfl rfl (I.fld rfl)) rfl rfl rfl ?_
      refine LL.val (R.load rfl rfl (I.ld1 rfl (by assumption))) rfl rfl rfl ?_
      refine LL.val (R.ltF rfl rfl rfl (by omega)) rfl rfl rfl ?_
      refine LL.val (R.move rfl rfl) rfl rfl rfl ?_
      refine LL.val (R.move rfl rfl) rfl rfl rfl ?_
      refine LL.val (R.move rfl rfl) rfl rfl rfl ?_
      refine LL.val (R.index rfl rfl rfl (I.ixS rfl (by omega))) rfl rfl rfl ?_
      refine LL.val (R.field rfl rfl (I.fld rfl)) rfl rfl rfl ?_
      refine LL.val (R.load rfl rfl (I.ld1 rfl (by assumption))) rfl rfl rfl ?_
      refine LL.val (R.move rfl rfl) rfl rfl rfl ?_
      refine LL.val (R.len rfl rfl rfl rfl) rfl rfl rfl ?_
      refine LL.val (R.geT rfl rfl rfl (by omega)) rfl rfl rfl ?_
      refine LL.val (R.pick rfl rfl rfl) rfl rfl rfl ?_
      refine LL.nilS ?_
      refine CC.yes rfl ?_
      refine CC.seq ?_
      refine CC.region ?_
      refine LL.call (R.call rfl rfl rfl) rfl rfl rfl (works_any _) ?_
      rintro e Wg2 ⟨rfl, bg1⟩
      refine ⟨_, rfl, ?_⟩
      have zbg1 := bg1.size
      replace q := q.trans (bg1.mono q.size)
      replace m1 := m1.up bg1
      replace c1' := cell_up c1' bg1
      refine LL.val (R.assign rfl rfl) rfl rfl rfl ?_
      refine LL.nilS ?_
      refine CC.ret ?_
      refine EE.inR ?_
      refine EE.thenR ?_
      refine EE.thenR ?_
      refine EE.inR ?_
      refine EE.thenR ?_
      refine EE.ret _ rfl rfl ?_
      exact ⟨rfl, q⟩
    have hall2 : ∀ j, j < i + 1 → ∀ p, l[j]? = some p → 0 ≤ p.1 ∧ p.1 < ((N * 8 : Nat) : Int) := fun j hj y hy => by
      by_cases hj2 : j < i
      · exact hall j hj2 y hy
      · obtain rfl : j = i := by omega
        rw [hget] at hy
        rw [← Option.some.inj hy]
        show 0 ≤ x ∧ x < _
        omega
    clear hall
    refine CC.seq ?_
    refine CC.seq ?_
    refine CC.region ?_
    refine LL.val (R.move rfl rfl) rfl rfl rfl ?_
    refine LL.val (R.move rfl rfl) rfl rfl rfl ?_
    refine LL.val (R.len rfl rfl rfl rfl) rfl rfl rfl ?_
    refine LL.val (R.ltT rfl rfl rfl (by omega)) rfl rfl rfl ?_
    refine LL.nilS ?_
    refine CC.yes rfl ?_
    refine CC.skip ?_
    refine EE.thenN ?_
    refine CC.seq ?_
    refine CC.block ?_
    refine CC.seq ?_
    refine CC.region ?_
    refine LL.val (R.move rfl rfl) rfl rfl rfl ?_
    refine LL.val (R.move rfl rfl) rfl rfl rfl ?_
    refine LL.val (R.index rfl rfl rfl (I.ixS rfl (by omega))) rfl rfl rfl ?_
    refine LL.val (R.field rfl rfl (I.fld rfl)) rfl rfl rfl ?_
    refine LL.val (R.load rfl rfl (I.ld1 rfl (by assumption))) rfl rfl rfl ?_
    refine LL.val (R.ltF rfl rfl rfl (by omega)) rfl rfl rfl ?_
    refine LL.val (R.move rfl rfl) rfl rfl rfl ?_
    refine LL.val (R.move rfl rfl) rfl rfl rfl ?_
    refine LL.val (R.move rfl rfl) rfl rfl rfl ?_
    refine LL.val (R.index rfl rfl rfl (I.ixS rfl (by omega))) rfl rfl rfl ?_
    refine LL.val (R.field rfl rfl (I.fld rfl)) rfl rfl rfl ?_
    refine LL.val (R.load rfl rfl (I.ld1 rfl (by assumption))) rfl rfl rfl ?_
    refine LL.val (R.move rfl rfl) rfl rfl rfl ?_
    refine LL.val (R.len rfl rfl rfl rfl) rfl rfl rfl ?_
    refine LL.val (R.geF rfl rfl rfl (by omega)) rfl rfl rfl ?_
    refine LL.val (R.pick rfl rfl rfl) rfl rfl rfl ?_
    refine LL.nilS ?_
    refine CC.no rfl ?_
    refine CC.skip ?_
    refine EE.inN ?_
    refine EE.thenN ?_
    refine CC.region ?_
    refine LL.val (R.move rfl rfl) rfl rfl rfl ?_
    refine LL.val (R.addNc rfl rfl rfl rfl (by omega)) rfl rfl rfl ?_
    refine LL.val (R.assign rfl rfl) rfl rfl rfl ?_
    refine LL.nil ?_
    exact EE.round (i + 1) ⟨rfl, rfl, rfl, rfl, rfl, rfl, trivial⟩ ⟨by omega, q, hall2⟩ (by omega)
  obtain rfl : n = i := by omega
  have hin : ∀ p ∈ l, 0 ≤ p.1 ∧ p.1 < ((N * 8 : Nat) : Int) := fun p hp => by
    obtain ⟨j, hj⟩ := List.mem_iff_getElem?.1 hp
    exact hall j (by have := (List.getElem?_eq_some_iff.1 hj).1; omega) p hj
  clear hall
  have hokp : okPs l = true := List.all_eq_true.2 fun p hp => decide_eq_true (hin p hp).1
  have hno : orderN l = 0 := by unfold orderN; rw [if_pos hokp]
  have hord := fun (X : World) (b : Below w.heap.size w X) => order_any (.slice a1 n c1) l X (hpF X b) (by omega) hpw
  rw [hno] at hord
  obtain ⟨P, eP⟩ : ∃ P, orderP l = P := ⟨_, rfl⟩
  obtain ⟨hP1, hP2⟩ := order_fine hokp
  have hPl := orderP_len l
  have hPf : ∀ a ∈ orderP l, fitA N a = true := by
    unfold orderP
    rw [if_pos hokp]
    exact fit_plan l none (fun k hk => by cases hk) hin
  rw [eP] at hord hP1 hP2 hPl hPf
  have hPo : (foldO true P).2.2 = true := by
    unfold ordP at hP1
    have h1 := (Bool.and_eq_true _ _ ▸ hP1).1
    have h2 := foldO_ok h1
    rw [h2] at h1
    exact h1
  clear hP1 eP hokp hno
  refine CC.seq ?_
  refine CC.seq ?_
  refine CC.region ?_
  refine LL.val (R.move rfl rfl) rfl rfl rfl ?_
  refine LL.val (R.move rfl rfl) rfl rfl rfl ?_
  refine LL.val (R.len rfl rfl rfl rfl) rfl rfl rfl ?_
  refine LL.val (R.ltF rfl rfl rfl (by omega)) rfl rfl rfl ?_
  refine LL.nilS ?_
  refine CC.no rfl ?_
  refine CC.exit ?_
  refine EE.thenX ?_
  refine EE.thenX ?_
  refine EE.inX ?_
  refine EE.thenN ?_
  refine CC.seq ?_
  refine CC.region ?_
  refine LL.val (R.move rfl rfl) rfl rfl rfl ?_
  (refine LL.call (R.call rfl rfl rfl) rfl rfl rfl (of_T a0 (N * 8) c0 N ws _ (hvF _ q) rfl h0 hN) ?_; rintro e Wi74 ⟨m, gn, gl, qb, rfl, M, lm, ln, ll, lq, bi71⟩; refine ⟨_, rfl, ?_⟩; have lts := M.lts)
  have zbi71 := bi71.size
  replace q := q.trans (bi71.mono q.size)
  refine LL.val (R.move rfl rfl) rfl rfl rfl ?_
  refine LL.val (R.extract rfl rfl rfl) rfl rfl rfl ?_
  refine LL.val (R.extract rfl rfl rfl) rfl rfl rfl ?_
  refine LL.val (R.assign rfl rfl) rfl rfl rfl ?_
  refine LL.val (R.assign rfl rfl) rfl rfl rfl ?_
  refine LL.nilS ?_
  refine CC.seq ?_
  refine CC.region ?_
  refine LL.val (R.move rfl rfl) rfl rfl rfl ?_
  (refine LL.call (R.call rfl rfl rfl) rfl rfl rfl (hord _ q) ?_; rintro e Wi172 ⟨vP, rfl, oP, bi169⟩; refine ⟨_, rfl, ?_⟩; replace M := M.up bi169)
  have zbi169 := bi169.size
  replace bi71 := bi71.trans (bi169.mono bi71.size)
  replace q := q.trans (bi169.mono q.size)
  refine LL.val (R.move rfl rfl) rfl rfl rfl ?_
  refine LL.val (R.extract rfl rfl rfl) rfl rfl rfl ?_
  refine LL.val (R.extract rfl rfl rfl) rfl rfl rfl ?_
  refine LL.val (R.assign rfl rfl) rfl rfl rfl ?_
  refine LL.val (R.assign rfl rfl) rfl rfl rfl ?_
  refine LL.nilS ?_
  refine CC.seq ?_
  refine CC.seq ?_
  refine CC.region ?_
  refine LL.val (R.move rfl rfl) rfl rfl rfl ?_
  refine LL.call (R.call rfl rfl rfl) rfl rfl rfl (num_any _ _) ?_
  rintro e W' ⟨rfl, rfl⟩
  refine ⟨_, rfl, ?_⟩
  refine LL.val (R.move rfl rfl) rfl rfl rfl ?_
  refine LL.call (R.call rfl rfl rfl) rfl rfl rfl (num_any _ _) ?_
  rintro e W' ⟨rfl, rfl⟩
  refine ⟨_, rfl, ?_⟩
  refine LL.val (R.addIz (z := 0) rfl rfl rfl (by decide) (by decide)) rfl rfl rfl ?_
  refine LL.val (R.neF rfl rfl rfl (by omega)) rfl rfl rfl ?_
  refine LL.nilS ?_
  refine CC.no rfl ?_
  refine CC.skip ?_
  refine EE.thenN ?_
  refine CC.seq ?_
  refine CC.region ?_
  refine LL.val (R.assign rfl rfl) rfl rfl rfl ?_
  refine LL.val (R.assign rfl rfl) rfl rfl rfl ?_
  refine LL.nilS ?_
  refine CC.seq ?_
  refine CC.seq ?_
  refine CC.region ?_
  refine LL.val (R.assign rfl rfl) rfl rfl rfl ?_
  refine LL.nilS ?_
  refine CC.block ?_
  -- rest
  obtain ⟨W0, eW0⟩ : ∃ X, X = Wi172 := ⟨_, rfl⟩
  rw [← eW0] at oP M q ⊢
  have lM := M.lts
  obtain ⟨K, eK⟩ : ∃ K, P.length = K := ⟨_, rfl⟩
  obtain ⟨aP, cP, rfl, _⟩ := (oP.reads aEnc).form eK
  have hPF : ∀ X, Kept (KM W0 gn gl qb) W0 X → ReadsT aE 3 X (.slice aP K cP) P := fun X h => readsT_far (oP.reads aEnc) h (fun b off n c e hlt => by have := ownsT_ge oP b off n c e; exact ⟨hlt, by omega, by omega, by omega⟩)
  have lm0 : w.heap.size ≤ m := by omega
  have ln0 : w.heap.size ≤ gn := by omega
  have ll0 : w.heap.size ≤ gl := by omega
  have lq0 : w.heap.size ≤ qb := by omega
  have hK : K ≤ 182 := by omega
  clear oP lm ln ll lq lts bi169 bi71 zbi71 zbi169 eW0 hord hpw
  have y0 := q.size
  refine CC.loop (α := HSt) (fun t => [(0, .slice a0 (N * 8) c0), (1, .slice a1 n c1), (2, .int .i64 a2), (3, .slice a3 ne c3), (4, .slice a4 np c4), (12, .pointer (some ⟨m, 0, none⟩)), (14, .slice aP K cP), (16, .int .i64 (t.least : Int)), (17, .int .i64 (t.most : Int)), (18, .int .i64 (t.i : Int))]) (HSt.I w W0 m gn gl qb N ws l P) (fun t => K - t.i) ⟨0, 0, 0, ofS N ws, -1, false⟩ ⟨rfl, rfl, rfl, rfl, rfl, rfl, rfl, rfl, rfl, rfl, trivial⟩ ⟨Nat.zero_le _, q, M, Kept.refl _ _, HolI.start eL, rfl, rfl⟩ ?_
  clear q M
  rintro ⟨i, least, most, s, line, fl⟩ W1 ⟨hi1, q, M, hok, H, hfo, hm⟩
  simp only at hi1 M H hfo hm
  rw [eK] at hi1
  show CC none Try.prog _ 162 [] (sl [(0, .slice a0 (N * 8) c0), (1, .slice a1 n c1), (2, .int .i64 a2), (3, .slice a3 ne c3), (4, .slice a4 np c4), (12, .pointer (some ⟨m, 0, none⟩)), (14, .slice aP K cP), (16, .int .i64 (least : Int)), (17, .int .i64 (most : Int)), (18, .int .i64 (i : Int))]) _ W1
  have yw1 := q.size
  have lM1 := M.lts
  have hmi : most ≤ i := by
    have h1 := stoP_len (P.take i)
    rw [List.length_take] at h1
    omega
  have hml : most ≤ n := by
    have h1 : stoP P = stoP (P.take i) ++ stoP (P.drop i) := by rw [← stoP_append, List.take_append_drop]
    have h2 := congrArg List.length h1
    rw [hP2, List.length_append] at h2
    omega
  have hle := H.le
  by_cases hc : i < K ∧ (i : Int) < a2
  case neg =>
    obtain ⟨kk, kk1, kk2, ek⟩ := H.crash ps
    clear hPF hPo hPf hfo hm hPl H
    have hcc : ¬i < K ∨ (i < K ∧ ¬(i : Int) < a2) := by omega
    clear hc
    have hjp : ∀ j, j ≤ most → j ≤ l.length := by intro j hj; omega
    rcases hcc with hcc | ⟨hcc, hcc2⟩
    · refine CC.seq ?_
      refine CC.seq ?_
      refine CC.region ?_
      refine LL.val (R.move rfl rfl) rfl rfl rfl ?_
      refine LL.val (R.move rfl rfl) rfl rfl rfl ?_
      refine LL.val (R.len rfl rfl rfl rfl) rfl rfl rfl ?_
      refine LL.val (R.ltF rfl rfl rfl (by omega)) rfl rfl rfl ?_
      refine LL.val (R.move rfl rfl) rfl rfl rfl ?_
      refine LL.skip rfl rfl ?_
      refine LL.skip rfl rfl ?_
      refine LL.skip rfl rfl ?_
      refine LL.val (R.pick rfl rfl rfl) rfl rfl rfl ?_
      refine LL.nilS ?_
      refine CC.no rfl ?_
      refine CC.exit ?_
      refine EE.thenX ?_
      refine EE.thenX ?_
      refine EE.inX ?_
      refine EE.thenN ?_
      refine CC.seq ?_
      refine CC.region ?_
      refine LL.val (R.move rfl rfl) rfl rfl rfl ?_
      refine LL.val (R.move rfl rfl) rfl rfl rfl ?_
      (refine LL.call (R.call rfl rfl rfl) rfl rfl rfl (crash_any m gn gl qb N a4 np c4 ps _ M (hkF _ q) enp (by omega) hpb) ?_; rintro e Wj116 ⟨m5, gn5, gl5, qb5, rfl, M5, _, _, _, _, bj113⟩; refine ⟨_, rfl, ?_⟩; clear M)
      have zbj113 := bj113.size
      replace q := q.trans (bj113.mono q.size)
      replace hok := hok.trans (bkept bj113 (fun j h => by have := h.1; have := hok.size; omega))
      have yj120 := hok.size
      refine LL.val (R.move rfl rfl) rfl rfl rfl ?_
      refine LL.val (R.extract rfl rfl rfl) rfl rfl rfl ?_
      refine LL.val (R.extract rfl rfl rfl) rfl rfl rfl ?_
      refine LL.val (R.assign rfl rfl) rfl rfl rfl ?_
      refine LL.val (R.assign rfl rfl) rfl rfl rfl ?_
      refine LL.nilS ?_
      refine CC.seq ?_
      refine CC.seq ?_
      refine CC.region ?_
      refine LL.val (R.move rfl rfl) rfl rfl rfl ?_
      refine LL.call (R.call rfl rfl rfl) rfl rfl rfl (num_any _ _) ?_
      rintro e W' ⟨rfl, rfl⟩
      refine ⟨_, rfl, ?_⟩
      refine LL.val (R.neF rfl rfl rfl (by omega)) rfl rfl rfl ?_
      refine LL.nilS ?_
      refine CC.no rfl ?_
      refine CC.skip ?_
      refine EE.thenN ?_
      refine CC.seq ?_
      refine CC.region ?_
      refine LL.val (R.move rfl rfl) rfl rfl rfl ?_
      (refine LL.call (R.call rfl rfl rfl) rfl rfl rfl (image_any m5 gn5 gl5 qb5 N _ M5) ?_; rintro e Wj257 ⟨v6, rfl, r6, bj254⟩; refine ⟨_, rfl, ?_⟩; rw [ek] at r6; clear M5; obtain ⟨W6, eW6⟩ : ∃ X, X = Wj257 := ⟨_, rfl⟩)
      have zbj254 := bj254.size
      replace bj113 := bj113.trans (bj254.mono bj113.size)
      replace q := q.trans (bj254.mono q.size)
      replace hok := hok.trans (bkept bj254 (fun j h => by have := h.1; have := hok.size; omega))
      have yj261 := hok.size
      refine LL.val (R.assign rfl rfl) rfl rfl rfl ?_
      refine LL.nilS ?_
      refine CC.seq ?_
      refine CC.seq ?_
      refine CC.region ?_
      refine LL.val (R.move rfl rfl) rfl rfl rfl ?_
      refine LL.val (R.assign rfl rfl) rfl rfl rfl ?_
      refine LL.nilS ?_
      refine CC.block ?_
      rw [← eW6] at r6 q ⊢
      have h6F : ∀ X, Below W6.heap.size W6 X → ReadsT uE 1 X v6 (appW ws l kk) := fun X b => r6.up b
      have y6 := q.size
      have hln : ∀ j, (appW ws l j).length ≤ 1048576 := fun j => by rw [appW_len]; omega
      clear r6 hok
      refine CC.loop (α := Nat) (fun j => [(0, .slice a0 (N * 8) c0), (1, .slice a1 n c1), (17, .int .i64 (most : Int)), (21, v6), (22, .int .i64 (j : Int))]) (fun j W => least ≤ j ∧ j ≤ kk ∧ Below w.heap.size w W ∧ Below W6.heap.size W6 W) (fun j => kk - j) least ⟨rfl, rfl, rfl, rfl, rfl, trivial⟩ ⟨Nat.le_refl _, kk1, q, Below.refl _ _⟩ ?_
      clear q
      rintro j W ⟨hj1, hj2, q, q6⟩
      have yw9 := q.size
      have yw8 := q6.size
      show CC none Try.prog _ 162 [] (sl [(0, .slice a0 (N * 8) c0), (1, .slice a1 n c1), (17, .int .i64 (most : Int)), (21, v6), (22, .int .i64 (j : Int))]) _ W
      by_cases hs : appW ws l j = appW ws l kk
      · refine CC.seq ?_
        refine CC.seq ?_
        refine CC.region ?_
        refine LL.val (R.move rfl rfl) rfl rfl rfl ?_
        refine LL.val (R.move rfl rfl) rfl rfl rfl ?_
        refine LL.val (R.leT rfl rfl rfl (by omega)) rfl rfl rfl ?_
        refine LL.nilS ?_
        refine CC.yes rfl ?_
        refine CC.skip ?_
        refine EE.thenN ?_
        refine CC.seq ?_
        refine CC.block ?_
        refine CC.seq ?_
        refine CC.region ?_
        refine LL.val (R.move rfl rfl) rfl rfl rfl ?_
        refine LL.val (R.move rfl rfl) rfl rfl rfl ?_
        refine LL.val (R.move rfl rfl) rfl rfl rfl ?_
        (refine LL.call (R.call rfl rfl rfl) rfl rfl rfl (apply_T _ _ ws l (N * 8) j _ (hvF _ q) (hpF _ q) eL (by omega) (by omega) (hjp j (by omega)) hin) ?_; rintro e Wk88 ⟨v7, rfl, r7, bk85⟩; refine ⟨_, rfl, ?_⟩; rw [hs] at r7)
        have zbk85 := bk85.size
        replace q := q.trans (bk85.mono q.size)
        replace q6 := q6.trans (bk85.mono q6.size)
        refine LL.val (R.move rfl rfl) rfl rfl rfl ?_
        refine LL.val (R.extract rfl rfl rfl) rfl rfl rfl ?_
        refine LL.val (R.extract rfl rfl rfl) rfl rfl rfl ?_
        refine LL.val (R.assign rfl rfl) rfl rfl rfl ?_
        refine LL.val (R.assign rfl rfl) rfl rfl rfl ?_
        refine LL.nilS ?_
        refine CC.seq ?_
        refine CC.seq ?_
        refine CC.region ?_
        refine LL.val (R.move rfl rfl) rfl rfl rfl ?_
        refine LL.call (R.call rfl rfl rfl) rfl rfl rfl (num_any _ _) ?_
        rintro e W' ⟨rfl, rfl⟩
        refine ⟨_, rfl, ?_⟩
        refine LL.val (R.neF rfl rfl rfl (by omega)) rfl rfl rfl ?_
        refine LL.nilS ?_
        refine CC.no rfl ?_
        refine CC.skip ?_
        refine EE.thenN ?_
        refine CC.seq ?_
        refine CC.region ?_
        refine LL.val (R.move rfl rfl) rfl rfl rfl ?_
        refine LL.val (R.move rfl rfl) rfl rfl rfl ?_
        (refine LL.call (R.call rfl rfl rfl) rfl rfl rfl (dsame_T _ _ (appW ws l kk) _ r7 (h6F _ q6) (hln kk)) ?_; rintro e Wk242 ⟨rfl, bk239⟩; refine ⟨_, rfl, ?_⟩; clear r7)
        have zbk239 := bk239.size
        replace bk85 := bk85.trans (bk239.mono bk85.size)
        replace q := q.trans (bk239.mono q.size)
        replace q6 := q6.trans (bk239.mono q6.size)
        refine LL.nilS ?_
        refine CC.yes rfl ?_
        refine CC.seq ?_
        refine CC.region ?_
        refine LL.call (R.call rfl rfl rfl) rfl rfl rfl (works_any _) ?_
        rintro e Wk261 ⟨rfl, bk260⟩
        refine ⟨_, rfl, ?_⟩
        have zbk260 := bk260.size
        replace bk239 := bk239.trans (bk260.mono bk239.size)
        replace bk85 := bk85.trans (bk260.mono bk85.size)
        replace q := q.trans (bk260.mono q.size)
        replace q6 := q6.trans (bk260.mono q6.size)
        refine LL.val (R.assign rfl rfl) rfl rfl rfl ?_
        refine LL.nilS ?_
        refine CC.ret ?_
        refine EE.inR ?_
        refine EE.thenR ?_
        refine EE.thenR ?_
        refine EE.inR ?_
        refine EE.thenR ?_
        refine EE.ret _ rfl rfl ?_
        exact ⟨rfl, q⟩
      · have hjk : j < kk := by
          rcases Nat.lt_or_ge j kk with h | h
          · exact h
          · exact absurd (by rw [show j = kk by omega]) hs
        refine CC.seq ?_
        refine CC.seq ?_
        refine CC.region ?_
        refine LL.val (R.move rfl rfl) rfl rfl rfl ?_
        refine LL.val (R.move rfl rfl) rfl rfl rfl ?_
        refine LL.val (R.leT rfl rfl rfl (by omega)) rfl rfl rfl ?_
        refine LL.nilS ?_
        refine CC.yes rfl ?_
        refine CC.skip ?_
        refine EE.thenN ?_
        refine CC.seq ?_
        refine CC.block ?_
        refine CC.seq ?_
        refine CC.region ?_
        refine LL.val (R.move rfl rfl) rfl rfl rfl ?_
        refine LL.val (R.move rfl rfl) rfl rfl rfl ?_
        refine LL.val (R.move rfl rfl) rfl rfl rfl ?_
        (refine LL.call (R.call rfl rfl rfl) rfl rfl rfl (apply_T _ _ ws l (N * 8) j _ (hvF _ q) (hpF _ q) eL (by omega) (by omega) (hjp j (by omega)) hin) ?_; rintro e Wl88 ⟨v7, rfl, r7, bl85⟩; refine ⟨_, rfl, ?_⟩)
        have zbl85 := bl85.size
        replace q := q.trans (bl85.mono q.size)
        replace q6 := q6.trans (bl85.mono q6.size)
        refine LL.val (R.move rfl rfl) rfl rfl rfl ?_
        refine LL.val (R.extract rfl rfl rfl) rfl rfl rfl ?_
        refine LL.val (R.extract rfl rfl rfl) rfl rfl rfl ?_
        refine LL.val (R.assign rfl rfl) rfl rfl rfl ?_
        refine LL.val (R.assign rfl rfl) rfl rfl rfl ?_
        refine LL.nilS ?_
        refine CC.seq ?_
        refine CC.seq ?_
        refine CC.region ?_
        refine LL.val (R.move rfl rfl) rfl rfl rfl ?_
        refine LL.call (R.call rfl rfl rfl) rfl rfl rfl (num_any _ _) ?_
        rintro e W' ⟨rfl, rfl⟩
        refine ⟨_, rfl, ?_⟩
        refine LL.val (R.neF rfl rfl rfl (by omega)) rfl rfl rfl ?_
        refine LL.nilS ?_
        refine CC.no rfl ?_
        refine CC.skip ?_
        refine EE.thenN ?_
        refine CC.seq ?_
        refine CC.region ?_
        refine LL.val (R.move rfl rfl) rfl rfl rfl ?_
        refine LL.val (R.move rfl rfl) rfl rfl rfl ?_
        (refine LL.call (R.call rfl rfl rfl) rfl rfl rfl (dsame_F _ _ _ _ _ r7 (h6F _ q6) (hln j) (hln kk) hs) ?_; rintro e Wl242 ⟨rfl, bl239⟩; refine ⟨_, rfl, ?_⟩; clear r7)
        have zbl239 := bl239.size
        replace bl85 := bl85.trans (bl239.mono bl85.size)
        replace q := q.trans (bl239.mono q.size)
        replace q6 := q6.trans (bl239.mono q6.size)
        refine LL.nilS ?_
        refine CC.no rfl ?_
        refine CC.skip ?_
        refine EE.inN ?_
        refine EE.thenN ?_
        refine CC.region ?_
        refine LL.val (R.move rfl rfl) rfl rfl rfl ?_
        refine LL.val (R.addNc rfl rfl rfl rfl (by omega)) rfl rfl rfl ?_
        refine LL.val (R.assign rfl rfl) rfl rfl rfl ?_
        refine LL.nil ?_
        exact EE.round (j + 1) ⟨rfl, rfl, rfl, rfl, rfl, trivial⟩ ⟨by omega, by omega, q, q6⟩ (by omega)
    · refine CC.seq ?_
      refine CC.seq ?_
      refine CC.region ?_
      refine LL.val (R.move rfl rfl) rfl rfl rfl ?_
      refine LL.val (R.move rfl rfl) rfl rfl rfl ?_
      refine LL.val (R.len rfl rfl rfl rfl) rfl rfl rfl ?_
      refine LL.val (R.ltT rfl rfl rfl (by omega)) rfl rfl rfl ?_
      refine LL.val (R.move rfl rfl) rfl rfl rfl ?_
      refine LL.val (R.move rfl rfl) rfl rfl rfl ?_
      refine LL.val (R.move rfl rfl) rfl rfl rfl ?_
      refine LL.val (R.ltF rfl rfl rfl (by omega)) rfl rfl rfl ?_
      refine LL.val (R.pick rfl rfl rfl) rfl rfl rfl ?_
      refine LL.nilS ?_
      refine CC.no rfl ?_
      refine CC.exit ?_
      refine EE.thenX ?_
      refine EE.thenX ?_
      refine EE.inX ?_
      refine EE.thenN ?_
      refine CC.seq ?_
      refine CC.region ?_
      refine LL.val (R.move rfl rfl) rfl rfl rfl ?_
      refine LL.val (R.move rfl rfl) rfl rfl rfl ?_
      (refine LL.call (R.call rfl rfl rfl) rfl rfl rfl (crash_any m gn gl qb N a4 np c4 ps _ M (hkF _ q) enp (by omega) hpb) ?_; rintro e Wm158 ⟨m5, gn5, gl5, qb5, rfl, M5, _, _, _, _, bm155⟩; refine ⟨_, rfl, ?_⟩; clear M)
      have zbm155 := bm155.size
      replace q := q.trans (bm155.mono q.size)
      replace hok := hok.trans (bkept bm155 (fun j h => by have := h.1; have := hok.size; omega))
      have ym162 := hok.size
      refine LL.val (R.move rfl rfl) rfl rfl rfl ?_
      refine LL.val (R.extract rfl rfl rfl) rfl rfl rfl ?_
      refine LL.val (R.extract rfl rfl rfl) rfl rfl rfl ?_
      refine LL.val (R.assign rfl rfl) rfl rfl rfl ?_
      refine LL.val (R.assign rfl rfl) rfl rfl rfl ?_
      refine LL.nilS ?_
      refine CC.seq ?_
      refine CC.seq ?_
      refine CC.region ?_
      refine LL.val (R.move rfl rfl) rfl rfl rfl ?_
      refine LL.call (R.call rfl rfl rfl) rfl rfl rfl (num_any _ _) ?_
      rintro e W' ⟨rfl, rfl⟩
      refine ⟨_, rfl, ?_⟩
      refine LL.val (R.neF rfl rfl rfl (by omega)) rfl rfl rfl ?_
      refine LL.nilS ?_
      refine CC.no rfl ?_
      refine CC.skip ?_
      refine EE.thenN ?_
      refine CC.seq ?_
      refine CC.region ?_
      refine LL.val (R.move rfl rfl) rfl rfl rfl ?_
      (refine LL.call (R.call rfl rfl rfl) rfl rfl rfl (image_any m5 gn5 gl5 qb5 N _ M5) ?_; rintro e Wm299 ⟨v6, rfl, r6, bm296⟩; refine ⟨_, rfl, ?_⟩; rw [ek] at r6; clear M5; obtain ⟨W6, eW6⟩ : ∃ X, X = Wm299 := ⟨_, rfl⟩)
      have zbm296 := bm296.size
      replace bm155 := bm155.trans (bm296.mono bm155.size)
      replace q := q.trans (bm296.mono q.size)
      replace hok := hok.trans (bkept bm296 (fun j h => by have := h.1; have := hok.size; omega))
      have ym303 := hok.size
      refine LL.val (R.assign rfl rfl) rfl rfl rfl ?_
      refine LL.nilS ?_
      refine CC.seq ?_
      refine CC.seq ?_
      refine CC.region ?_
      refine LL.val (R.move rfl rfl) rfl rfl rfl ?_
      refine LL.val (R.assign rfl rfl) rfl rfl rfl ?_
      refine LL.nilS ?_
      refine CC.block ?_
      rw [← eW6] at r6 q ⊢
      have h6F : ∀ X, Below W6.heap.size W6 X → ReadsT uE 1 X v6 (appW ws l kk) := fun X b => r6.up b
      have y6 := q.size
      have hln : ∀ j, (appW ws l j).length ≤ 1048576 := fun j => by rw [appW_len]; omega
      clear r6 hok
      refine CC.loop (α := Nat) (fun j => [(0, .slice a0 (N * 8) c0), (1, .slice a1 n c1), (17, .int .i64 (most : Int)), (21, v6), (22, .int .i64 (j : Int))]) (fun j W => least ≤ j ∧ j ≤ kk ∧ Below w.heap.size w W ∧ Below W6.heap.size W6 W) (fun j => kk - j) least ⟨rfl, rfl, rfl, rfl, rfl, trivial⟩ ⟨Nat.le_refl _, kk1, q, Below.refl _ _⟩ ?_
      clear q
      rintro j W ⟨hj1, hj2, q, q6⟩
      have yw9 := q.size
      have yw8 := q6.size
      show CC none Try.prog _ 162 [] (sl [(0, .slice a0 (N * 8) c0), (1, .slice a1 n c1), (17, .int .i64 (most : Int)), (21, v6), (22, .int .i64 (j : Int))]) _ W
      by_cases hs : appW ws l j = appW ws l kk
      · refine CC.seq ?_
        refine CC.seq ?_
        refine CC.region ?_
        refine LL.val (R.move rfl rfl) rfl rfl rfl ?_
        refine LL.val (R.move rfl rfl) rfl rfl rfl ?_
        refine LL.val (R.leT rfl rfl rfl (by omega)) rfl rfl rfl ?_
        refine LL.nilS ?_
        refine CC.yes rfl ?_
        refine CC.skip ?_
        refine EE.thenN ?_
        refine CC.seq ?_
        refine CC.block ?_
        refine CC.seq ?_
        refine CC.region ?_
        refine LL.val (R.move rfl rfl) rfl rfl rfl ?_
        refine LL.val (R.move rfl rfl) rfl rfl rfl ?_
        refine LL.val (R.move rfl rfl) rfl rfl rfl ?_
        (refine LL.call (R.call rfl rfl rfl) rfl rfl rfl (apply_T _ _ ws l (N * 8) j _ (hvF _ q) (hpF _ q) eL (by omega) (by omega) (hjp j (by omega)) hin) ?_; rintro e Wn88 ⟨v7, rfl, r7, bn85⟩; refine ⟨_, rfl, ?_⟩; rw [hs] at r7)
        have zbn85 := bn85.size
        replace q := q.trans (bn85.mono q.size)
        replace q6 := q6.trans (bn85.mono q6.size)
        refine LL.val (R.move rfl rfl) rfl rfl rfl ?_
        refine LL.val (R.extract rfl rfl rfl) rfl rfl rfl ?_
        refine LL.val (R.extract rfl rfl rfl) rfl rfl rfl ?_
        refine LL.val (R.assign rfl rfl) rfl rfl rfl ?_
        refine LL.val (R.assign rfl rfl) rfl rfl rfl ?_
        refine LL.nilS ?_
        refine CC.seq ?_
        refine CC.seq ?_
        refine CC.region ?_
        refine LL.val (R.move rfl rfl) rfl rfl rfl ?_
        refine LL.call (R.call rfl rfl rfl) rfl rfl rfl (num_any _ _) ?_
        rintro e W' ⟨rfl, rfl⟩
        refine ⟨_, rfl, ?_⟩
        refine LL.val (R.neF rfl rfl rfl (by omega)) rfl rfl rfl ?_
        refine LL.nilS ?_
        refine CC.no rfl ?_
        refine CC.skip ?_
        refine EE.thenN ?_
        refine CC.seq ?_
        refine CC.region ?_
        refine LL.val (R.move rfl rfl) rfl rfl rfl ?_
        refine LL.val (R.move rfl rfl) rfl rfl rfl ?_
        (refine LL.call (R.call rfl rfl rfl) rfl rfl rfl (dsame_T _ _ (appW ws l kk) _ r7 (h6F _ q6) (hln kk)) ?_; rintro e Wn242 ⟨rfl, bn239⟩; refine ⟨_, rfl, ?_⟩; clear r7)
        have zbn239 := bn239.size
        replace bn85 := bn85.trans (bn239.mono bn85.size)
        replace q := q.trans (bn239.mono q.size)
        replace q6 := q6.trans (bn239.mono q6.size)
        refine LL.nilS ?_
        refine CC.yes rfl ?_
        refine CC.seq ?_
        refine CC.region ?_
        refine LL.call (R.call rfl rfl rfl) rfl rfl rfl (works_any _) ?_
        rintro e Wn261 ⟨rfl, bn260⟩
        refine ⟨_, rfl, ?_⟩
        have zbn260 := bn260.size
        replace bn239 := bn239.trans (bn260.mono bn239.size)
        replace bn85 := bn85.trans (bn260.mono bn85.size)
        replace q := q.trans (bn260.mono q.size)
        replace q6 := q6.trans (bn260.mono q6.size)
        refine LL.val (R.assign rfl rfl) rfl rfl rfl ?_
        refine LL.nilS ?_
        refine CC.ret ?_
        refine EE.inR ?_
        refine EE.thenR ?_
        refine EE.thenR ?_
        refine EE.inR ?_
        refine EE.thenR ?_
        refine EE.ret _ rfl rfl ?_
        exact ⟨rfl, q⟩
      · have hjk : j < kk := by
          rcases Nat.lt_or_ge j kk with h | h
          · exact h
          · exact absurd (by rw [show j = kk by omega]) hs
        refine CC.seq ?_
        refine CC.seq ?_
        refine CC.region ?_
        refine LL.val (R.move rfl rfl) rfl rfl rfl ?_
        refine LL.val (R.move rfl rfl) rfl rfl rfl ?_
        refine LL.val (R.leT rfl rfl rfl (by omega)) rfl rfl rfl ?_
        refine LL.nilS ?_
        refine CC.yes rfl ?_
        refine CC.skip ?_
        refine EE.thenN ?_
        refine CC.seq ?_
        refine CC.block ?_
        refine CC.seq ?_
        refine CC.region ?_
        refine LL.val (R.move rfl rfl) rfl rfl rfl ?_
        refine LL.val (R.move rfl rfl) rfl rfl rfl ?_
        refine LL.val (R.move rfl rfl) rfl rfl rfl ?_
        (refine LL.call (R.call rfl rfl rfl) rfl rfl rfl (apply_T _ _ ws l (N * 8) j _ (hvF _ q) (hpF _ q) eL (by omega) (by omega) (hjp j (by omega)) hin) ?_; rintro e Wo88 ⟨v7, rfl, r7, bo85⟩; refine ⟨_, rfl, ?_⟩)
        have zbo85 := bo85.size
        replace q := q.trans (bo85.mono q.size)
        replace q6 := q6.trans (bo85.mono q6.size)
        refine LL.val (R.move rfl rfl) rfl rfl rfl ?_
        refine LL.val (R.extract rfl rfl rfl) rfl rfl rfl ?_
        refine LL.val (R.extract rfl rfl rfl) rfl rfl rfl ?_
        refine LL.val (R.assign rfl rfl) rfl rfl rfl ?_
        refine LL.val (R.assign rfl rfl) rfl rfl rfl ?_
        refine LL.nilS ?_
        refine CC.seq ?_
        refine CC.seq ?_
        refine CC.region ?_
        refine LL.val (R.move rfl rfl) rfl rfl rfl ?_
        refine LL.call (R.call rfl rfl rfl) rfl rfl rfl (num_any _ _) ?_
        rintro e W' ⟨rfl, rfl⟩
        refine ⟨_, rfl, ?_⟩
        refine LL.val (R.neF rfl rfl rfl (by omega)) rfl rfl rfl ?_
        refine LL.nilS ?_
        refine CC.no rfl ?_
        refine CC.skip ?_
        refine EE.thenN ?_
        refine CC.seq ?_
        refine CC.region ?_
        refine LL.val (R.move rfl rfl) rfl rfl rfl ?_
        refine LL.val (R.move rfl rfl) rfl rfl rfl ?_
        (refine LL.call (R.call rfl rfl rfl) rfl rfl rfl (dsame_F _ _ _ _ _ r7 (h6F _ q6) (hln j) (hln kk) hs) ?_; rintro e Wo242 ⟨rfl, bo239⟩; refine ⟨_, rfl, ?_⟩; clear r7)
        have zbo239 := bo239.size
        replace bo85 := bo85.trans (bo239.mono bo85.size)
        replace q := q.trans (bo239.mono q.size)
        replace q6 := q6.trans (bo239.mono q6.size)
        refine LL.nilS ?_
        refine CC.no rfl ?_
        refine CC.skip ?_
        refine EE.inN ?_
        refine EE.thenN ?_
        refine CC.region ?_
        refine LL.val (R.move rfl rfl) rfl rfl rfl ?_
        refine LL.val (R.addNc rfl rfl rfl rfl (by omega)) rfl rfl rfl ?_
        refine LL.val (R.assign rfl rfl) rfl rfl rfl ?_
        refine LL.nil ?_
        exact EE.round (j + 1) ⟨rfl, rfl, rfl, rfl, rfl, trivial⟩ ⟨by omega, by omega, q, q6⟩ (by omega)
  obtain ⟨hc1, hc2⟩ := hc
  obtain ⟨⟨k, x, v⟩, hget⟩ : ∃ x, P[i]? = some x := ⟨_, List.getElem?_eq_getElem (by omega)⟩
  have hfa := hPf _ (List.mem_of_getElem? hget)
  have hfa1 : fitAs N [(k, x, v)] = true := by simp [fitAs, hfa]
  obtain ⟨bs, os, rfl, lbs, _⟩ := (hPF W0 (Kept.refl _ _)).get aEnc hget
  have m1 : CellsN W1 ⟨bs, os + i * 3, none⟩ 3 [.int .i64 k, .int .i64 x, .int .u64 (v : Int)] := (hPF W1 hok).elemN aEnc hget
  have cell0 : ∀ X, Kept (KM W0 gn gl qb) W0 X → X.cell? ⟨bs, os + i * 3, none⟩ = some (.int .i64 k) := fun X h => ((hPF X h).elemN aEnc hget).cell (j := 0) rfl
  obtain ⟨line', fl', H2, hfo2, hm2⟩ := hol_step H hget hfa hfo hPo hm hP2
  have hlen2 : (doA s (k, x, v)).length = N := by rw [doA_len]; exact M.len
  clear H hfo hm
  by_cases k1 : k = 1
  case pos =>
    subst k1
    rw [if_neg (show ¬((1 : Int) = 3) by decide), if_pos rfl] at H2
    rw [if_pos rfl] at hm2
    by_cases he : i < ne
    case neg =>
      refine CC.seq ?_
      refine CC.seq ?_
      refine CC.region ?_
      refine LL.val (R.move rfl rfl) rfl rfl rfl ?_
      refine LL.val (R.move rfl rfl) rfl rfl rfl ?_
      refine LL.val (R.len rfl rfl rfl rfl) rfl rfl rfl ?_
      refine LL.val (R.ltT rfl rfl rfl (by omega)) rfl rfl rfl ?_
      refine LL.val (R.move rfl rfl) rfl rfl rfl ?_
      refine LL.val (R.move rfl rfl) rfl rfl rfl ?_
      refine LL.val (R.move rfl rfl) rfl rfl rfl ?_
      refine LL.val (R.ltT rfl rfl rfl (by omega)) rfl rfl rfl ?_
      refine LL.val (R.pick rfl rfl rfl) rfl rfl rfl ?_
      refine LL.nilS ?_
      refine CC.yes rfl ?_
      refine CC.skip ?_
      refine EE.thenN ?_
      refine CC.seq ?_
      refine CC.block ?_
      refine CC.seq ?_
      refine CC.seq ?_
      refine CC.region ?_
      refine LL.val (R.move rfl rfl) rfl rfl rfl ?_
      refine LL.val (R.move rfl rfl) rfl rfl rfl ?_
      refine LL.val (R.move rfl rfl) rfl rfl rfl ?_
      refine LL.val (R.index rfl rfl rfl (I.ixS rfl (by omega))) rfl rfl rfl ?_
      refine LL.val (R.load rfl rfl (I.ldM (by assumption) rfl rfl)) rfl rfl rfl ?_
      refine LL.lit (e := 38) [Value.int IntKind.i64 1, Value.int IntKind.i64 x, Value.int IntKind.u64 ↑v] 1 rfl rfl (fun _ => by kernel_rfl) rfl rfl ?_
      intro Wp107 gp108 egp108 rp109 zp110 bp106
      replace q := q.trans (bp106.mono q.size)
      replace M := M.up bp106
      replace hok := hok.trans (bkept bp106 (fun j h => by have := h.1; have := hok.size; omega))
      have yp111 := hok.size
      replace m1 := m1.up bp106
      (refine LL.call (R.call rfl rfl rfl) rfl rfl rfl (run_T m gn gl qb N _ [(1, x, v)] _ M (by simp) hfa1 (fun W' h => (RowL.readsT aEnc (ts := [(1, x, v)]) (by assumption) 1 (Nat.le_refl _)).kp h ⟨by omega, by omega, by omega, by omega⟩)) ?_; rintro e Wp115 ⟨rfl, M3, tp114⟩; refine ⟨_, rfl, ?_⟩; replace hok := km_tr hok tp114; clear m1; clear M; have M : Mem Wp115 m gn gl qb N (doA s (1, x, v)) := M3; clear M3)
      have ztp114 := tp114.size
      replace rp109 := rp109.kept tp114 ⟨rp109.lt, by omega⟩
      replace q := tp114.onB q (fun j hj => ⟨by have := q.size; omega, by omega⟩)
      refine LL.call (R.call rfl rfl rfl) rfl rfl rfl (num_any _ _) ?_
      rintro e W' ⟨rfl, rfl⟩
      refine ⟨_, rfl, ?_⟩
      refine LL.val (R.neF rfl rfl rfl (by omega)) rfl rfl rfl ?_
      refine LL.nilS ?_
      refine CC.no rfl ?_
      refine CC.skip ?_
      refine EE.thenN ?_
      refine CC.seq ?_
      refine CC.seq ?_
      refine CC.region ?_
      refine LL.val (R.move rfl rfl) rfl rfl rfl ?_
      refine LL.val (R.move rfl rfl) rfl rfl rfl ?_
      refine LL.val (R.index rfl rfl rfl (I.ixS rfl (by omega))) rfl rfl rfl ?_
      refine LL.val (R.field rfl rfl (I.fld rfl)) rfl rfl rfl ?_
      (refine LL.val (R.load rfl rfl (I.ld1 rfl (cell0 _ hok))) rfl rfl rfl ?_)
      refine LL.nilS ?_
      refine CC.block ?_
      refine CC.seq ?_
      refine CC.region ?_
      refine LL.val (R.eqT rfl rfl rfl (by omega)) rfl rfl rfl ?_
      refine LL.val (R.assign rfl rfl) rfl rfl rfl ?_
      refine LL.nilS ?_
      refine CC.yes rfl ?_
      refine CC.region ?_
      refine LL.val (R.move rfl rfl) rfl rfl rfl ?_
      refine LL.val (R.addNc rfl rfl rfl rfl (by omega)) rfl rfl rfl ?_
      refine LL.val (R.assign rfl rfl) rfl rfl rfl ?_
      refine LL.nil ?_
      refine EE.inN ?_
      refine EE.thenN ?_
      refine CC.seq ?_
      refine CC.region ?_
      refine LL.val (R.move rfl rfl) rfl rfl rfl ?_
      refine LL.val (R.move rfl rfl) rfl rfl rfl ?_
      refine LL.val (R.len rfl rfl rfl rfl) rfl rfl rfl ?_
      refine LL.val (R.ltF rfl rfl rfl (by omega)) rfl rfl rfl ?_
      refine LL.nilS ?_
      refine CC.no rfl ?_
      refine CC.skip ?_
      refine EE.inN ?_
      refine EE.thenN ?_
      refine CC.region ?_
      refine LL.val (R.move rfl rfl) rfl rfl rfl ?_
      refine LL.val (R.addNc rfl rfl rfl rfl (by omega)) rfl rfl rfl ?_
      refine LL.val (R.assign rfl rfl) rfl rfl rfl ?_
      refine LL.nil ?_
      exact EE.round ⟨i + 1, least, most + 1, _, line', fl'⟩ ⟨rfl, rfl, rfl, rfl, rfl, rfl, rfl, rfl, rfl, rfl, trivial⟩ ⟨by show i + 1 ≤ P.length; omega, q, M, hok, H2, hfo2, hm2⟩ (by show K - (i + 1) < K - i; omega)
    obtain ⟨z, hez⟩ : ∃ z, es[i]? = some z := ⟨_, List.getElem?_eq_getElem (by omega)⟩
    obtain ⟨be, oe, rfl, lbe, _⟩ := (hEF w (Below.refl _ _)).one inEnc hez
    have hz : ∀ X, Below w.heap.size w X → X.cell? ⟨be, oe + i, none⟩ = some (.int .i64 z) := fun X b => by
      obtain ⟨b2, o2, e2, _, h2⟩ := (hEF X b).one inEnc hez
      cases e2
      exact h2 _ rfl
    by_cases hzz : 0 ≤ z ∧ z < (N : Int)
    · obtain ⟨z, rfl⟩ : ∃ y : Nat, z = (y : Int) := ⟨z.toNat, by omega⟩
      obtain ⟨c, hcz⟩ : ∃ c, (doA s (1, x, v))[z]? = some c := ⟨_, List.getElem?_eq_getElem (by omega)⟩
      refine CC.seq ?_
      refine CC.seq ?_
      refine CC.region ?_
      refine LL.val (R.move rfl rfl) rfl rfl rfl ?_
      refine LL.val (R.move rfl rfl) rfl rfl rfl ?_
      refine LL.val (R.len rfl rfl rfl rfl) rfl rfl rfl ?_
      refine LL.val (R.ltT rfl rfl rfl (by omega)) rfl rfl rfl ?_
      refine LL.val (R.move rfl rfl) rfl rfl rfl ?_
      refine LL.val (R.move rfl rfl) rfl rfl rfl ?_
      refine LL.val (R.move rfl rfl) rfl rfl rfl ?_
      refine LL.val (R.ltT rfl rfl rfl (by omega)) rfl rfl rfl ?_
      refine LL.val (R.pick rfl rfl rfl) rfl rfl rfl ?_
      refine LL.nilS ?_
      refine CC.yes rfl ?_
      refine CC.skip ?_
      refine EE.thenN ?_
      refine CC.seq ?_
      refine CC.block ?_
      refine CC.seq ?_
      refine CC.seq ?_
      refine CC.region ?_
      refine LL.val (R.move rfl rfl) rfl rfl rfl ?_
      refine LL.val (R.move rfl rfl) rfl rfl rfl ?_
      refine LL.val (R.move rfl rfl) rfl rfl rfl ?_
      refine LL.val (R.index rfl rfl rfl (I.ixS rfl (by omega))) rfl rfl rfl ?_
      refine LL.val (R.load rfl rfl (I.ldM (by assumption) rfl rfl)) rfl rfl rfl ?_
      refine LL.lit (e := 38) [Value.int IntKind.i64 1, Value.int IntKind.i64 x, Value.int IntKind.u64 ↑v] 1 rfl rfl (fun _ => by kernel_rfl) rfl rfl ?_
      intro Wq212 gq213 egq213 rq214 zq215 bq211
      replace q := q.trans (bq211.mono q.size)
      replace M := M.up bq211
      replace hok := hok.trans (bkept bq211 (fun j h => by have := h.1; have := hok.size; omega))
      have yq216 := hok.size
      replace m1 := m1.up bq211
      (refine LL.call (R.call rfl rfl rfl) rfl rfl rfl (run_T m gn gl qb N _ [(1, x, v)] _ M (by simp) hfa1 (fun W' h => (RowL.readsT aEnc (ts := [(1, x, v)]) (by assumption) 1 (Nat.le_refl _)).kp h ⟨by omega, by omega, by omega, by omega⟩)) ?_; rintro e Wq220 ⟨rfl, M3, tq219⟩; refine ⟨_, rfl, ?_⟩; replace hok := km_tr hok tq219; clear m1; clear M; have M : Mem Wq220 m gn gl qb N (doA s (1, x, v)) := M3; clear M3)
      have ztq219 := tq219.size
      replace rq214 := rq214.kept tq219 ⟨rq214.lt, by omega⟩
      replace q := tq219.onB q (fun j hj => ⟨by have := q.size; omega, by omega⟩)
      refine LL.call (R.call rfl rfl rfl) rfl rfl rfl (num_any _ _) ?_
      rintro e W' ⟨rfl, rfl⟩
      refine ⟨_, rfl, ?_⟩
      refine LL.val (R.neF rfl rfl rfl (by omega)) rfl rfl rfl ?_
      refine LL.nilS ?_
      refine CC.no rfl ?_
      refine CC.skip ?_
      refine EE.thenN ?_
      refine CC.seq ?_
      refine CC.seq ?_
      refine CC.region ?_
      refine LL.val (R.move rfl rfl) rfl rfl rfl ?_
      refine LL.val (R.move rfl rfl) rfl rfl rfl ?_
      refine LL.val (R.index rfl rfl rfl (I.ixS rfl (by omega))) rfl rfl rfl ?_
      refine LL.val (R.field rfl rfl (I.fld rfl)) rfl rfl rfl ?_
      (refine LL.val (R.load rfl rfl (I.ld1 rfl (cell0 _ hok))) rfl rfl rfl ?_)
      refine LL.nilS ?_
      refine CC.block ?_
      refine CC.seq ?_
      refine CC.region ?_
      refine LL.val (R.eqT rfl rfl rfl (by omega)) rfl rfl rfl ?_
      refine LL.val (R.assign rfl rfl) rfl rfl rfl ?_
      refine LL.nilS ?_
      refine CC.yes rfl ?_
      refine CC.region ?_
      refine LL.val (R.move rfl rfl) rfl rfl rfl ?_
      refine LL.val (R.addNc rfl rfl rfl rfl (by omega)) rfl rfl rfl ?_
      refine LL.val (R.assign rfl rfl) rfl rfl rfl ?_
      refine LL.nil ?_
      refine EE.inN ?_
      refine EE.thenN ?_
      refine CC.seq ?_
      refine CC.region ?_
      refine LL.val (R.move rfl rfl) rfl rfl rfl ?_
      refine LL.val (R.move rfl rfl) rfl rfl rfl ?_
      refine LL.val (R.len rfl rfl rfl rfl) rfl rfl rfl ?_
      refine LL.val (R.ltT rfl rfl rfl (by omega)) rfl rfl rfl ?_
      refine LL.nilS ?_
      refine CC.yes rfl ?_
      refine CC.region ?_
      refine LL.val (R.move rfl rfl) rfl rfl rfl ?_
      refine LL.val (R.move rfl rfl) rfl rfl rfl ?_
      refine LL.val (R.move rfl rfl) rfl rfl rfl ?_
      refine LL.val (R.index rfl rfl rfl (I.ixS1 rfl (by omega))) rfl rfl rfl ?_
      (refine LL.val (R.load rfl rfl (I.ld1 rfl (hz _ q))) rfl rfl rfl ?_)
      (refine LL.call (R.call rfl rfl rfl) rfl rfl rfl (evict_T _ m gn gl qb N z M hcz) ?_; rintro e Wq514 ⟨rfl, M3, tq513⟩; refine ⟨_, rfl, ?_⟩; replace hok := km_tr hok tq513; clear M; have M := M3; clear M3)
      have ztq513 := tq513.size
      replace rq214 := rq214.kept tq513 ⟨rq214.lt, by omega⟩
      replace q := tq513.onB q (fun j hj => ⟨by have := q.size; omega, by omega⟩)
      refine LL.nil ?_
      refine EE.inN ?_
      refine EE.thenN ?_
      refine CC.region ?_
      refine LL.val (R.move rfl rfl) rfl rfl rfl ?_
      refine LL.val (R.addNc rfl rfl rfl rfl (by omega)) rfl rfl rfl ?_
      refine LL.val (R.assign rfl rfl) rfl rfl rfl ?_
      refine LL.nil ?_
      exact EE.round ⟨i + 1, least, most + 1, _, line', fl'⟩ ⟨rfl, rfl, rfl, rfl, rfl, rfl, rfl, rfl, rfl, rfl, trivial⟩ ⟨by show i + 1 ≤ P.length; omega, q, M, hok, H2.evict hcz, hfo2, hm2⟩ (by show K - (i + 1) < K - i; omega)
    · refine CC.seq ?_
      refine CC.seq ?_
      refine CC.region ?_
      refine LL.val (R.move rfl rfl) rfl rfl rfl ?_
      refine LL.val (R.move rfl rfl) rfl rfl rfl ?_
      refine LL.val (R.len rfl rfl rfl rfl) rfl rfl rfl ?_
      refine LL.val (R.ltT rfl rfl rfl (by omega)) rfl rfl rfl ?_
      refine LL.val (R.move rfl rfl) rfl rfl rfl ?_
      refine LL.val (R.move rfl rfl) rfl rfl rfl ?_
      refine LL.val (R.move rfl rfl) rfl rfl rfl ?_
      refine LL.val (R.ltT rfl rfl rfl (by omega)) rfl rfl rfl ?_
      refine LL.val (R.pick rfl rfl rfl) rfl rfl rfl ?_
      refine LL.nilS ?_
      refine CC.yes rfl ?_
      refine CC.skip ?_
      refine EE.thenN ?_
      refine CC.seq ?_
      refine CC.block ?_
      refine CC.seq ?_
      refine CC.seq ?_
      refine CC.region ?_
      refine LL.val (R.move rfl rfl) rfl rfl rfl ?_
      refine LL.val (R.move rfl rfl) rfl rfl rfl ?_
      refine LL.val (R.move rfl rfl) rfl rfl rfl ?_
      refine LL.val (R.index rfl rfl rfl (I.ixS rfl (by omega))) rfl rfl rfl ?_
      refine LL.val (R.load rfl rfl (I.ldM (by assumption) rfl rfl)) rfl rfl rfl ?_
      refine LL.lit (e := 38) [Value.int IntKind.i64 1, Value.int IntKind.i64 x, Value.int IntKind.u64 ↑v] 1 rfl rfl (fun _ => by kernel_rfl) rfl rfl ?_
      intro Wr212 gr213 egr213 rr214 zr215 br211
      replace q := q.trans (br211.mono q.size)
      replace M := M.up br211
      replace hok := hok.trans (bkept br211 (fun j h => by have := h.1; have := hok.size; omega))
      have yr216 := hok.size
      replace m1 := m1.up br211
      (refine LL.call (R.call rfl rfl rfl) rfl rfl rfl (run_T m gn gl qb N _ [(1, x, v)] _ M (by simp) hfa1 (fun W' h => (RowL.readsT aEnc (ts := [(1, x, v)]) (by assumption) 1 (Nat.le_refl _)).kp h ⟨by omega, by omega, by omega, by omega⟩)) ?_; rintro e Wr220 ⟨rfl, M3, tr219⟩; refine ⟨_, rfl, ?_⟩; replace hok := km_tr hok tr219; clear m1; clear M; have M : Mem Wr220 m gn gl qb N (doA s (1, x, v)) := M3; clear M3)
      have ztr219 := tr219.size
      replace rr214 := rr214.kept tr219 ⟨rr214.lt, by omega⟩
      replace q := tr219.onB q (fun j hj => ⟨by have := q.size; omega, by omega⟩)
      refine LL.call (R.call rfl rfl rfl) rfl rfl rfl (num_any _ _) ?_
      rintro e W' ⟨rfl, rfl⟩
      refine ⟨_, rfl, ?_⟩
      refine LL.val (R.neF rfl rfl rfl (by omega)) rfl rfl rfl ?_
      refine LL.nilS ?_
      refine CC.no rfl ?_
      refine CC.skip ?_
      refine EE.thenN ?_
      refine CC.seq ?_
      refine CC.seq ?_
      refine CC.region ?_
      refine LL.val (R.move rfl rfl) rfl rfl rfl ?_
      refine LL.val (R.move rfl rfl) rfl rfl rfl ?_
      refine LL.val (R.index rfl rfl rfl (I.ixS rfl (by omega))) rfl rfl rfl ?_
      refine LL.val (R.field rfl rfl (I.fld rfl)) rfl rfl rfl ?_
      (refine LL.val (R.load rfl rfl (I.ld1 rfl (cell0 _ hok))) rfl rfl rfl ?_)
      refine LL.nilS ?_
      refine CC.block ?_
      refine CC.seq ?_
      refine CC.region ?_
      refine LL.val (R.eqT rfl rfl rfl (by omega)) rfl rfl rfl ?_
      refine LL.val (R.assign rfl rfl) rfl rfl rfl ?_
      refine LL.nilS ?_
      refine CC.yes rfl ?_
      refine CC.region ?_
      refine LL.val (R.move rfl rfl) rfl rfl rfl ?_
      refine LL.val (R.addNc rfl rfl rfl rfl (by omega)) rfl rfl rfl ?_
      refine LL.val (R.assign rfl rfl) rfl rfl rfl ?_
      refine LL.nil ?_
      refine EE.inN ?_
      refine EE.thenN ?_
      refine CC.seq ?_
      refine CC.region ?_
      refine LL.val (R.move rfl rfl) rfl rfl rfl ?_
      refine LL.val (R.move rfl rfl) rfl rfl rfl ?_
      refine LL.val (R.len rfl rfl rfl rfl) rfl rfl rfl ?_
      refine LL.val (R.ltT rfl rfl rfl (by omega)) rfl rfl rfl ?_
      refine LL.nilS ?_
      refine CC.yes rfl ?_
      refine CC.region ?_
      refine LL.val (R.move rfl rfl) rfl rfl rfl ?_
      refine LL.val (R.move rfl rfl) rfl rfl rfl ?_
      refine LL.val (R.move rfl rfl) rfl rfl rfl ?_
      refine LL.val (R.index rfl rfl rfl (I.ixS1 rfl (by omega))) rfl rfl rfl ?_
      (refine LL.val (R.load rfl rfl (I.ld1 rfl (hz _ q))) rfl rfl rfl ?_)
      have lr534 := rr214.lt
      (refine LL.call (R.call rfl rfl rfl) rfl rfl rfl (evict_F _ m gn gl qb N z M (by omega)) ?_; rintro e Wr533 ⟨rfl, br530⟩; refine ⟨_, rfl, ?_⟩)
      have zbr530 := br530.size
      replace hok := hok.trans (bkept br530 (fun j h => by have := h.1; have := hok.size; omega))
      have yr538 := hok.size
      replace M := M.up br530
      replace rr214 := rr214.up br530
      replace q := q.trans (br530.mono q.size)
      refine LL.nil ?_
      refine EE.inN ?_
      refine EE.thenN ?_
      refine CC.region ?_
      refine LL.val (R.move rfl rfl) rfl rfl rfl ?_
      refine LL.val (R.addNc rfl rfl rfl rfl (by omega)) rfl rfl rfl ?_
      refine LL.val (R.assign rfl rfl) rfl rfl rfl ?_
      refine LL.nil ?_
      exact EE.round ⟨i + 1, least, most + 1, _, line', fl'⟩ ⟨rfl, rfl, rfl, rfl, rfl, rfl, rfl, rfl, rfl, rfl, trivial⟩ ⟨by show i + 1 ≤ P.length; omega, q, M, hok, H2, hfo2, hm2⟩ (by show K - (i + 1) < K - i; omega)
  by_cases k3 : k = 3
  case pos =>
    subst k3
    rw [if_pos rfl, if_neg (show ¬((3 : Int) = 1) by decide)] at H2
    rw [if_neg (show ¬((3 : Int) = 1) by decide)] at hm2
    by_cases he : i < ne
    case neg =>
      refine CC.seq ?_
      refine CC.seq ?_
      refine CC.region ?_
      refine LL.val (R.move rfl rfl) rfl rfl rfl ?_
      refine LL.val (R.move rfl rfl) rfl rfl rfl ?_
      refine LL.val (R.len rfl rfl rfl rfl) rfl rfl rfl ?_
      refine LL.val (R.ltT rfl rfl rfl (by omega)) rfl rfl rfl ?_
      refine LL.val (R.move rfl rfl) rfl rfl rfl ?_
      refine LL.val (R.move rfl rfl) rfl rfl rfl ?_
      refine LL.val (R.move rfl rfl) rfl rfl rfl ?_
      refine LL.val (R.ltT rfl rfl rfl (by omega)) rfl rfl rfl ?_
      refine LL.val (R.pick rfl rfl rfl) rfl rfl rfl ?_
      refine LL.nilS ?_
      refine CC.yes rfl ?_
      refine CC.skip ?_
      refine EE.thenN ?_
      refine CC.seq ?_
      refine CC.block ?_
      refine CC.seq ?_
      refine CC.seq ?_
      refine CC.region ?_
      refine LL.val (R.move rfl rfl) rfl rfl rfl ?_
      refine LL.val (R.move rfl rfl) rfl rfl rfl ?_
      refine LL.val (R.move rfl rfl) rfl rfl rfl ?_
      refine LL.val (R.index rfl rfl rfl (I.ixS rfl (by omega))) rfl rfl rfl ?_
      refine LL.val (R.load rfl rfl (I.ldM (by assumption) rfl rfl)) rfl rfl rfl ?_
      refine LL.lit (e := 38) [Value.int IntKind.i64 3, Value.int IntKind.i64 x, Value.int IntKind.u64 ↑v] 1 rfl rfl (fun _ => by kernel_rfl) rfl rfl ?_
      intro Ws107 gs108 egs108 rs109 zs110 bs106
      replace q := q.trans (bs106.mono q.size)
      replace M := M.up bs106
      replace hok := hok.trans (bkept bs106 (fun j h => by have := h.1; have := hok.size; omega))
      have ys111 := hok.size
      replace m1 := m1.up bs106
      (refine LL.call (R.call rfl rfl rfl) rfl rfl rfl (run_T m gn gl qb N _ [(3, x, v)] _ M (by simp) hfa1 (fun W' h => (RowL.readsT aEnc (ts := [(3, x, v)]) (by assumption) 1 (Nat.le_refl _)).kp h ⟨by omega, by omega, by omega, by omega⟩)) ?_; rintro e Ws115 ⟨rfl, M3, ts114⟩; refine ⟨_, rfl, ?_⟩; replace hok := km_tr hok ts114; clear m1; clear M; have M : Mem Ws115 m gn gl qb N (doA s (3, x, v)) := M3; clear M3)
      have zts114 := ts114.size
      replace rs109 := rs109.kept ts114 ⟨rs109.lt, by omega⟩
      replace q := ts114.onB q (fun j hj => ⟨by have := q.size; omega, by omega⟩)
      refine LL.call (R.call rfl rfl rfl) rfl rfl rfl (num_any _ _) ?_
      rintro e W' ⟨rfl, rfl⟩
      refine ⟨_, rfl, ?_⟩
      refine LL.val (R.neF rfl rfl rfl (by omega)) rfl rfl rfl ?_
      refine LL.nilS ?_
      refine CC.no rfl ?_
      refine CC.skip ?_
      refine EE.thenN ?_
      refine CC.seq ?_
      refine CC.seq ?_
      refine CC.region ?_
      refine LL.val (R.move rfl rfl) rfl rfl rfl ?_
      refine LL.val (R.move rfl rfl) rfl rfl rfl ?_
      refine LL.val (R.index rfl rfl rfl (I.ixS rfl (by omega))) rfl rfl rfl ?_
      refine LL.val (R.field rfl rfl (I.fld rfl)) rfl rfl rfl ?_
      (refine LL.val (R.load rfl rfl (I.ld1 rfl (cell0 _ hok))) rfl rfl rfl ?_)
      refine LL.nilS ?_
      refine CC.block ?_
      refine CC.seq ?_
      refine CC.region ?_
      refine LL.val (R.eqF rfl rfl rfl (by omega)) rfl rfl rfl ?_
      refine LL.val (R.assign rfl rfl) rfl rfl rfl ?_
      refine LL.nilS ?_
      refine CC.no rfl ?_
      refine CC.seq ?_
      refine CC.region ?_
      refine LL.val (R.eqT rfl rfl rfl (by omega)) rfl rfl rfl ?_
      refine LL.val (R.assign rfl rfl) rfl rfl rfl ?_
      refine LL.nilS ?_
      refine CC.yes rfl ?_
      refine CC.region ?_
      refine LL.val (R.move rfl rfl) rfl rfl rfl ?_
      refine LL.val (R.assign rfl rfl) rfl rfl rfl ?_
      refine LL.nil ?_
      refine EE.inN ?_
      refine EE.thenN ?_
      refine CC.seq ?_
      refine CC.region ?_
      refine LL.val (R.move rfl rfl) rfl rfl rfl ?_
      refine LL.val (R.move rfl rfl) rfl rfl rfl ?_
      refine LL.val (R.len rfl rfl rfl rfl) rfl rfl rfl ?_
      refine LL.val (R.ltF rfl rfl rfl (by omega)) rfl rfl rfl ?_
      refine LL.nilS ?_
      refine CC.no rfl ?_
      refine CC.skip ?_
      refine EE.inN ?_
      refine EE.thenN ?_
      refine CC.region ?_
      refine LL.val (R.move rfl rfl) rfl rfl rfl ?_
      refine LL.val (R.addNc rfl rfl rfl rfl (by omega)) rfl rfl rfl ?_
      refine LL.val (R.assign rfl rfl) rfl rfl rfl ?_
      refine LL.nil ?_
      exact EE.round ⟨i + 1, most, most, _, line', fl'⟩ ⟨rfl, rfl, rfl, rfl, rfl, rfl, rfl, rfl, rfl, rfl, trivial⟩ ⟨by show i + 1 ≤ P.length; omega, q, M, hok, H2, hfo2, hm2⟩ (by show K - (i + 1) < K - i; omega)
    obtain ⟨z, hez⟩ : ∃ z, es[i]? = some z := ⟨_, List.getElem?_eq_getElem (by omega)⟩
    obtain ⟨be, oe, rfl, lbe, _⟩ := (hEF w (Below.refl _ _)).one inEnc hez
    have hz : ∀ X, Below w.heap.size w X → X.cell? ⟨be, oe + i, none⟩ = some (.int .i64 z) := fun X b => by
      obtain ⟨b2, o2, e2, _, h2⟩ := (hEF X b).one inEnc hez
      cases e2
      exact h2 _ rfl
    by_cases hzz : 0 ≤ z ∧ z < (N : Int)
    · obtain ⟨z, rfl⟩ : ∃ y : Nat, z = (y : Int) := ⟨z.toNat, by omega⟩
      obtain ⟨c, hcz⟩ : ∃ c, (doA s (3, x, v))[z]? = some c := ⟨_, List.getElem?_eq_getElem (by omega)⟩
      refine CC.seq ?_
      refine CC.seq ?_
      refine CC.region ?_
      refine LL.val (R.move rfl rfl) rfl rfl rfl ?_
      refine LL.val (R.move rfl rfl) rfl rfl rfl ?_
      refine LL.val (R.len rfl rfl rfl rfl) rfl rfl rfl ?_
      refine LL.val (R.ltT rfl rfl rfl (by omega)) rfl rfl rfl ?_
      refine LL.val (R.move rfl rfl) rfl rfl rfl ?_
      refine LL.val (R.move rfl rfl) rfl rfl rfl ?_
      refine LL.val (R.move rfl rfl) rfl rfl rfl ?_
      refine LL.val (R.ltT rfl rfl rfl (by omega)) rfl rfl rfl ?_
      refine LL.val (R.pick rfl rfl rfl) rfl rfl rfl ?_
      refine LL.nilS ?_
      refine CC.yes rfl ?_
      refine CC.skip ?_
      refine EE.thenN ?_
      refine CC.seq ?_
      refine CC.block ?_
      refine CC.seq ?_
      refine CC.seq ?_
      refine CC.region ?_
      refine LL.val (R.move rfl rfl) rfl rfl rfl ?_
      refine LL.val (R.move rfl rfl) rfl rfl rfl ?_
      refine LL.val (R.move rfl rfl) rfl rfl rfl ?_
      refine LL.val (R.index rfl rfl rfl (I.ixS rfl (by omega))) rfl rfl rfl ?_
      refine LL.val (R.load rfl rfl (I.ldM (by assumption) rfl rfl)) rfl rfl rfl ?_
      refine LL.lit (e := 38) [Value.int IntKind.i64 3, Value.int IntKind.i64 x, Value.int IntKind.u64 ↑v] 1 rfl rfl (fun _ => by kernel_rfl) rfl rfl ?_
      intro Wt212 gt213 egt213 rt214 zt215 bt211
      replace q := q.trans (bt211.mono q.size)
      replace M := M.up bt211
      replace hok := hok.trans (bkept bt211 (fun j h => by have := h.1; have := hok.size; omega))
      have yt216 := hok.size
      replace m1 := m1.up bt211
      (refine LL.call (R.call rfl rfl rfl) rfl rfl rfl (run_T m gn gl qb N _ [(3, x, v)] _ M (by simp) hfa1 (fun W' h => (RowL.readsT aEnc (ts := [(3, x, v)]) (by assumption) 1 (Nat.le_refl _)).kp h ⟨by omega, by omega, by omega, by omega⟩)) ?_; rintro e Wt220 ⟨rfl, M3, tt219⟩; refine ⟨_, rfl, ?_⟩; replace hok := km_tr hok tt219; clear m1; clear M; have M : Mem Wt220 m gn gl qb N (doA s (3, x, v)) := M3; clear M3)
      have ztt219 := tt219.size
      replace rt214 := rt214.kept tt219 ⟨rt214.lt, by omega⟩
      replace q := tt219.onB q (fun j hj => ⟨by have := q.size; omega, by omega⟩)
      refine LL.call (R.call rfl rfl rfl) rfl rfl rfl (num_any _ _) ?_
      rintro e W' ⟨rfl, rfl⟩
      refine ⟨_, rfl, ?_⟩
      refine LL.val (R.neF rfl rfl rfl (by omega)) rfl rfl rfl ?_
      refine LL.nilS ?_
      refine CC.no rfl ?_
      refine CC.skip ?_
      refine EE.thenN ?_
      refine CC.seq ?_
      refine CC.seq ?_
      refine CC.region ?_
      refine LL.val (R.move rfl rfl) rfl rfl rfl ?_
      refine LL.val (R.move rfl rfl) rfl rfl rfl ?_
      refine LL.val (R.index rfl rfl rfl (I.ixS rfl (by omega))) rfl rfl rfl ?_
      refine LL.val (R.field rfl rfl (I.fld rfl)) rfl rfl rfl ?_
      (refine LL.val (R.load rfl rfl (I.ld1 rfl (cell0 _ hok))) rfl rfl rfl ?_)
      refine LL.nilS ?_
      refine CC.block ?_
      refine CC.seq ?_
      refine CC.region ?_
      refine LL.val (R.eqF rfl rfl rfl (by omega)) rfl rfl rfl ?_
      refine LL.val (R.assign rfl rfl) rfl rfl rfl ?_
      refine LL.nilS ?_
      refine CC.no rfl ?_
      refine CC.seq ?_
      refine CC.region ?_
      refine LL.val (R.eqT rfl rfl rfl (by omega)) rfl rfl rfl ?_
      refine LL.val (R.assign rfl rfl) rfl rfl rfl ?_
      refine LL.nilS ?_
      refine CC.yes rfl ?_
      refine CC.region ?_
      refine LL.val (R.move rfl rfl) rfl rfl rfl ?_
      refine LL.val (R.assign rfl rfl) rfl rfl rfl ?_
      refine LL.nil ?_
      refine EE.inN ?_
      refine EE.thenN ?_
      refine CC.seq ?_
      refine CC.region ?_
      refine LL.val (R.move rfl rfl) rfl rfl rfl ?_
      refine LL.val (R.move rfl rfl) rfl rfl rfl ?_
      refine LL.val (R.len rfl rfl rfl rfl) rfl rfl rfl ?_
      refine LL.val (R.ltT rfl rfl rfl (by omega)) rfl rfl rfl ?_
      refine LL.nilS ?_
      refine CC.yes rfl ?_
      refine CC.region ?_
      refine LL.val (R.move rfl rfl) rfl rfl rfl ?_
      refine LL.val (R.move rfl rfl) rfl rfl rfl ?_
      refine LL.val (R.move rfl rfl) rfl rfl rfl ?_
      refine LL.val (R.index rfl rfl rfl (I.ixS1 rfl (by omega))) rfl rfl rfl ?_
      (refine LL.val (R.load rfl rfl (I.ld1 rfl (hz _ q))) rfl rfl rfl ?_)
      (refine LL.call (R.call rfl rfl rfl) rfl rfl rfl (evict_T _ m gn gl qb N z M hcz) ?_; rintro e Wt528 ⟨rfl, M3, tt527⟩; refine ⟨_, rfl, ?_⟩; replace hok := km_tr hok tt527; clear M; have M := M3; clear M3)
      have ztt527 := tt527.size
      replace rt214 := rt214.kept tt527 ⟨rt214.lt, by omega⟩
      replace q := tt527.onB q (fun j hj => ⟨by have := q.size; omega, by omega⟩)
      refine LL.nil ?_
      refine EE.inN ?_
      refine EE.thenN ?_
      refine CC.region ?_
      refine LL.val (R.move rfl rfl) rfl rfl rfl ?_
      refine LL.val (R.addNc rfl rfl rfl rfl (by omega)) rfl rfl rfl ?_
      refine LL.val (R.assign rfl rfl) rfl rfl rfl ?_
      refine LL.nil ?_
      exact EE.round ⟨i + 1, most, most, _, line', fl'⟩ ⟨rfl, rfl, rfl, rfl, rfl, rfl, rfl, rfl, rfl, rfl, trivial⟩ ⟨by show i + 1 ≤ P.length; omega, q, M, hok, H2.evict hcz, hfo2, hm2⟩ (by show K - (i + 1) < K - i; omega)
    · refine CC.seq ?_
      refine CC.seq ?_
      refine CC.region ?_
      refine LL.val (R.move rfl rfl) rfl rfl rfl ?_
      refine LL.val (R.move rfl rfl) rfl rfl rfl ?_
      refine LL.val (R.len rfl rfl rfl rfl) rfl rfl rfl ?_
      refine LL.val (R.ltT rfl rfl rfl (by omega)) rfl rfl rfl ?_
      refine LL.val (R.move rfl rfl) rfl rfl rfl ?_
      refine LL.val (R.move rfl rfl) rfl rfl rfl ?_
      refine LL.val (R.move rfl rfl) rfl rfl rfl ?_
      refine LL.val (R.ltT rfl rfl rfl (by omega)) rfl rfl rfl ?_
      refine LL.val (R.pick rfl rfl rfl) rfl rfl rfl ?_
      refine LL.nilS ?_
      refine CC.yes rfl ?_
      refine CC.skip ?_
      refine EE.thenN ?_
      refine CC.seq ?_
      refine CC.block ?_
      refine CC.seq ?_
      refine CC.seq ?_
      refine CC.region ?_
      refine LL.val (R.move rfl rfl) rfl rfl rfl ?_
      refine LL.val (R.move rfl rfl) rfl rfl rfl ?_
      refine LL.val (R.move rfl rfl) rfl rfl rfl ?_
      refine LL.val (R.index rfl rfl rfl (I.ixS rfl (by omega))) rfl rfl rfl ?_
      refine LL.val (R.load rfl rfl (I.ldM (by assumption) rfl rfl)) rfl rfl rfl ?_
      refine LL.lit (e := 38) [Value.int IntKind.i64 3, Value.int IntKind.i64 x, Value.int IntKind.u64 ↑v] 1 rfl rfl (fun _ => by kernel_rfl) rfl rfl ?_
      intro Wu212 gu213 egu213 ru214 zu215 bu211
      replace q := q.trans (bu211.mono q.size)
      replace M := M.up bu211
      replace hok := hok.trans (bkept bu211 (fun j h => by have := h.1; have := hok.size; omega))
      have yu216 := hok.size
      replace m1 := m1.up bu211
      (refine LL.call (R.call rfl rfl rfl) rfl rfl rfl (run_T m gn gl qb N _ [(3, x, v)] _ M (by simp) hfa1 (fun W' h => (RowL.readsT aEnc (ts := [(3, x, v)]) (by assumption) 1 (Nat.le_refl _)).kp h ⟨by omega, by omega, by omega, by omega⟩)) ?_; rintro e Wu220 ⟨rfl, M3, tu219⟩; refine ⟨_, rfl, ?_⟩; replace hok := km_tr hok tu219; clear m1; clear M; have M : Mem Wu220 m gn gl qb N (doA s (3, x, v)) := M3; clear M3)
      have ztu219 := tu219.size
      replace ru214 := ru214.kept tu219 ⟨ru214.lt, by omega⟩
      replace q := tu219.onB q (fun j hj => ⟨by have := q.size; omega, by omega⟩)
      refine LL.call (R.call rfl rfl rfl) rfl rfl rfl (num_any _ _) ?_
      rintro e W' ⟨rfl, rfl⟩
      refine ⟨_, rfl, ?_⟩
      refine LL.val (R.neF rfl rfl rfl (by omega)) rfl rfl rfl ?_
      refine LL.nilS ?_
      refine CC.no rfl ?_
      refine CC.skip ?_
      refine EE.thenN ?_
      refine CC.seq ?_
      refine CC.seq ?_
      refine CC.region ?_
      refine LL.val (R.move rfl rfl) rfl rfl rfl ?_
      refine LL.val (R.move rfl rfl) rfl rfl rfl ?_
      refine LL.val (R.index rfl rfl rfl (I.ixS rfl (by omega))) rfl rfl rfl ?_
      refine LL.val (R.field rfl rfl (I.fld rfl)) rfl rfl rfl ?_
      (refine LL.val (R.load rfl rfl (I.ld1 rfl (cell0 _ hok))) rfl rfl rfl ?_)
      refine LL.nilS ?_
      refine CC.block ?_
      refine CC.seq ?_
      refine CC.region ?_
      refine LL.val (R.eqF rfl rfl rfl (by omega)) rfl rfl rfl ?_
      refine LL.val (R.assign rfl rfl) rfl rfl rfl ?_
      refine LL.nilS ?_
      refine CC.no rfl ?_
      refine CC.seq ?_
      refine CC.region ?_
      refine LL.val (R.eqT rfl rfl rfl (by omega)) rfl rfl rfl ?_
      refine LL.val (R.assign rfl rfl) rfl rfl rfl ?_
      refine LL.nilS ?_
      refine CC.yes rfl ?_
      refine CC.region ?_
      refine LL.val (R.move rfl rfl) rfl rfl rfl ?_
      refine LL.val (R.assign rfl rfl) rfl rfl rfl ?_
      refine LL.nil ?_
      refine EE.inN ?_
      refine EE.thenN ?_
      refine CC.seq ?_
      refine CC.region ?_
      refine LL.val (R.move rfl rfl) rfl rfl rfl ?_
      refine LL.val (R.move rfl rfl) rfl rfl rfl ?_
      refine LL.val (R.len rfl rfl rfl rfl) rfl rfl rfl ?_
      refine LL.val (R.ltT rfl rfl rfl (by omega)) rfl rfl rfl ?_
      refine LL.nilS ?_
      refine CC.yes rfl ?_
      refine CC.region ?_
      refine LL.val (R.move rfl rfl) rfl rfl rfl ?_
      refine LL.val (R.move rfl rfl) rfl rfl rfl ?_
      refine LL.val (R.move rfl rfl) rfl rfl rfl ?_
      refine LL.val (R.index rfl rfl rfl (I.ixS1 rfl (by omega))) rfl rfl rfl ?_
      (refine LL.val (R.load rfl rfl (I.ld1 rfl (hz _ q))) rfl rfl rfl ?_)
      have lu549 := ru214.lt
      (refine LL.call (R.call rfl rfl rfl) rfl rfl rfl (evict_F _ m gn gl qb N z M (by omega)) ?_; rintro e Wu548 ⟨rfl, bu545⟩; refine ⟨_, rfl, ?_⟩)
      have zbu545 := bu545.size
      replace hok := hok.trans (bkept bu545 (fun j h => by have := h.1; have := hok.size; omega))
      have yu553 := hok.size
      replace M := M.up bu545
      replace ru214 := ru214.up bu545
      replace q := q.trans (bu545.mono q.size)
      refine LL.nil ?_
      refine EE.inN ?_
      refine EE.thenN ?_
      refine CC.region ?_
      refine LL.val (R.move rfl rfl) rfl rfl rfl ?_
      refine LL.val (R.addNc rfl rfl rfl rfl (by omega)) rfl rfl rfl ?_
      refine LL.val (R.assign rfl rfl) rfl rfl rfl ?_
      refine LL.nil ?_
      exact EE.round ⟨i + 1, most, most, _, line', fl'⟩ ⟨rfl, rfl, rfl, rfl, rfl, rfl, rfl, rfl, rfl, rfl, trivial⟩ ⟨by show i + 1 ≤ P.length; omega, q, M, hok, H2, hfo2, hm2⟩ (by show K - (i + 1) < K - i; omega)
  obtain rfl : k = 2 := by
    rcases okA_kind (show okA (k, x, v) = true by have h := hfa; simp only [fitA, Bool.and_eq_true] at h; exact h.1.1) with ⟨e, _⟩ | ⟨e, _⟩ | ⟨e, _⟩
    · exact absurd e k1
    · exact e
    · exact absurd e k3
  clear k1 k3
  rw [if_neg (show ¬((2 : Int) = 3) by decide), if_neg (show ¬((2 : Int) = 1) by decide)] at H2
  rw [if_neg (show ¬((2 : Int) = 1) by decide)] at hm2
  by_cases he : i < ne
  case neg =>
    refine CC.seq ?_
    refine CC.seq ?_
    refine CC.region ?_
    refine LL.val (R.move rfl rfl) rfl rfl rfl ?_
    refine LL.val (R.move rfl rfl) rfl rfl rfl ?_
    refine LL.val (R.len rfl rfl rfl rfl) rfl rfl rfl ?_
    refine LL.val (R.ltT rfl rfl rfl (by omega)) rfl rfl rfl ?_
    refine LL.val (R.move rfl rfl) rfl rfl rfl ?_
    refine LL.val (R.move rfl rfl) rfl rfl rfl ?_
    refine LL.val (R.move rfl rfl) rfl rfl rfl ?_
    refine LL.val (R.ltT rfl rfl rfl (by omega)) rfl rfl rfl ?_
    refine LL.val (R.pick rfl rfl rfl) rfl rfl rfl ?_
    refine LL.nilS ?_
    refine CC.yes rfl ?_
    refine CC.skip ?_
    refine EE.thenN ?_
    refine CC.seq ?_
    refine CC.block ?_
    refine CC.seq ?_
    refine CC.seq ?_
    refine CC.region ?_
    refine LL.val (R.move rfl rfl) rfl rfl rfl ?_
    refine LL.val (R.move rfl rfl) rfl rfl rfl ?_
    refine LL.val (R.move rfl rfl) rfl rfl rfl ?_
    refine LL.val (R.index rfl rfl rfl (I.ixS rfl (by omega))) rfl rfl rfl ?_
    refine LL.val (R.load rfl rfl (I.ldM (by assumption) rfl rfl)) rfl rfl rfl ?_
    refine LL.lit (e := 38) [Value.int IntKind.i64 2, Value.int IntKind.i64 x, Value.int IntKind.u64 ↑v] 1 rfl rfl (fun _ => by kernel_rfl) rfl rfl ?_
    intro Wv107 gv108 egv108 rv109 zv110 bv106
    replace q := q.trans (bv106.mono q.size)
    replace M := M.up bv106
    replace hok := hok.trans (bkept bv106 (fun j h => by have := h.1; have := hok.size; omega))
    have yv111 := hok.size
    replace m1 := m1.up bv106
    (refine LL.call (R.call rfl rfl rfl) rfl rfl rfl (run_T m gn gl qb N _ [(2, x, v)] _ M (by simp) hfa1 (fun W' h => (RowL.readsT aEnc (ts := [(2, x, v)]) (by assumption) 1 (Nat.le_refl _)).kp h ⟨by omega, by omega, by omega, by omega⟩)) ?_; rintro e Wv115 ⟨rfl, M3, tv114⟩; refine ⟨_, rfl, ?_⟩; replace hok := km_tr hok tv114; clear m1; clear M; have M : Mem Wv115 m gn gl qb N (doA s (2, x, v)) := M3; clear M3)
    have ztv114 := tv114.size
    replace rv109 := rv109.kept tv114 ⟨rv109.lt, by omega⟩
    replace q := tv114.onB q (fun j hj => ⟨by have := q.size; omega, by omega⟩)
    refine LL.call (R.call rfl rfl rfl) rfl rfl rfl (num_any _ _) ?_
    rintro e W' ⟨rfl, rfl⟩
    refine ⟨_, rfl, ?_⟩
    refine LL.val (R.neF rfl rfl rfl (by omega)) rfl rfl rfl ?_
    refine LL.nilS ?_
    refine CC.no rfl ?_
    refine CC.skip ?_
    refine EE.thenN ?_
    refine CC.seq ?_
    refine CC.seq ?_
    refine CC.region ?_
    refine LL.val (R.move rfl rfl) rfl rfl rfl ?_
    refine LL.val (R.move rfl rfl) rfl rfl rfl ?_
    refine LL.val (R.index rfl rfl rfl (I.ixS rfl (by omega))) rfl rfl rfl ?_
    refine LL.val (R.field rfl rfl (I.fld rfl)) rfl rfl rfl ?_
    (refine LL.val (R.load rfl rfl (I.ld1 rfl (cell0 _ hok))) rfl rfl rfl ?_)
    refine LL.nilS ?_
    refine CC.block ?_
    refine CC.seq ?_
    refine CC.region ?_
    refine LL.val (R.eqF rfl rfl rfl (by omega)) rfl rfl rfl ?_
    refine LL.val (R.assign rfl rfl) rfl rfl rfl ?_
    refine LL.nilS ?_
    refine CC.no rfl ?_
    refine CC.seq ?_
    refine CC.region ?_
    refine LL.val (R.eqF rfl rfl rfl (by omega)) rfl rfl rfl ?_
    refine LL.val (R.assign rfl rfl) rfl rfl rfl ?_
    refine LL.nilS ?_
    refine CC.no rfl ?_
    refine CC.skip ?_
    refine EE.inN ?_
    refine EE.thenN ?_
    refine CC.seq ?_
    refine CC.region ?_
    refine LL.val (R.move rfl rfl) rfl rfl rfl ?_
    refine LL.val (R.move rfl rfl) rfl rfl rfl ?_
    refine LL.val (R.len rfl rfl rfl rfl) rfl rfl rfl ?_
    refine LL.val (R.ltF rfl rfl rfl (by omega)) rfl rfl rfl ?_
    refine LL.nilS ?_
    refine CC.no rfl ?_
    refine CC.skip ?_
    refine EE.inN ?_
    refine EE.thenN ?_
    refine CC.region ?_
    refine LL.val (R.move rfl rfl) rfl rfl rfl ?_
    refine LL.val (R.addNc rfl rfl rfl rfl (by omega)) rfl rfl rfl ?_
    refine LL.val (R.assign rfl rfl) rfl rfl rfl ?_
    refine LL.nil ?_
    exact EE.round ⟨i + 1, least, most, _, line', fl'⟩ ⟨rfl, rfl, rfl, rfl, rfl, rfl, rfl, rfl, rfl, rfl, trivial⟩ ⟨by show i + 1 ≤ P.length; omega, q, M, hok, H2, hfo2, hm2⟩ (by show K - (i + 1) < K - i; omega)
  obtain ⟨z, hez⟩ : ∃ z, es[i]? = some z := ⟨_, List.getElem?_eq_getElem (by omega)⟩
  obtain ⟨be, oe, rfl, lbe, _⟩ := (hEF w (Below.refl _ _)).one inEnc hez
  have hz : ∀ X, Below w.heap.size w X → X.cell? ⟨be, oe + i, none⟩ = some (.int .i64 z) := fun X b => by
    obtain ⟨b2, o2, e2, _, h2⟩ := (hEF X b).one inEnc hez
    cases e2
    exact h2 _ rfl
  by_cases hzz : 0 ≤ z ∧ z < (N : Int)
  · obtain ⟨z, rfl⟩ : ∃ y : Nat, z = (y : Int) := ⟨z.toNat, by omega⟩
    obtain ⟨c, hcz⟩ : ∃ c, (doA s (2, x, v))[z]? = some c := ⟨_, List.getElem?_eq_getElem (by omega)⟩
    refine CC.seq ?_
    refine CC.seq ?_
    refine CC.region ?_
    refine LL.val (R.move rfl rfl) rfl rfl rfl ?_
    refine LL.val (R.move rfl rfl) rfl rfl rfl ?_
    refine LL.val (R.len rfl rfl rfl rfl) rfl rfl rfl ?_
    refine LL.val (R.ltT rfl rfl rfl (by omega)) rfl rfl rfl ?_
    refine LL.val (R.move rfl rfl) rfl rfl rfl ?_
    refine LL.val (R.move rfl rfl) rfl rfl rfl ?_
    refine LL.val (R.move rfl rfl) rfl rfl rfl ?_
    refine LL.val (R.ltT rfl rfl rfl (by omega)) rfl rfl rfl ?_
    refine LL.val (R.pick rfl rfl rfl) rfl rfl rfl ?_
    refine LL.nilS ?_
    refine CC.yes rfl ?_
    refine CC.skip ?_
    refine EE.thenN ?_
    refine CC.seq ?_
    refine CC.block ?_
    refine CC.seq ?_
    refine CC.seq ?_
    refine CC.region ?_
    refine LL.val (R.move rfl rfl) rfl rfl rfl ?_
    refine LL.val (R.move rfl rfl) rfl rfl rfl ?_
    refine LL.val (R.move rfl rfl) rfl rfl rfl ?_
    refine LL.val (R.index rfl rfl rfl (I.ixS rfl (by omega))) rfl rfl rfl ?_
    refine LL.val (R.load rfl rfl (I.ldM (by assumption) rfl rfl)) rfl rfl rfl ?_
    refine LL.lit (e := 38) [Value.int IntKind.i64 2, Value.int IntKind.i64 x, Value.int IntKind.u64 ↑v] 1 rfl rfl (fun _ => by kernel_rfl) rfl rfl ?_
    intro Ww212 gw213 egw213 rw214 zw215 bw211
    replace q := q.trans (bw211.mono q.size)
    replace M := M.up bw211
    replace hok := hok.trans (bkept bw211 (fun j h => by have := h.1; have := hok.size; omega))
    have yw216 := hok.size
    replace m1 := m1.up bw211
    (refine LL.call (R.call rfl rfl rfl) rfl rfl rfl (run_T m gn gl qb N _ [(2, x, v)] _ M (by simp) hfa1 (fun W' h => (RowL.readsT aEnc (ts := [(2, x, v)]) (by assumption) 1 (Nat.le_refl _)).kp h ⟨by omega, by omega, by omega, by omega⟩)) ?_; rintro e Ww220 ⟨rfl, M3, tw219⟩; refine ⟨_, rfl, ?_⟩; replace hok := km_tr hok tw219; clear m1; clear M; have M : Mem Ww220 m gn gl qb N (doA s (2, x, v)) := M3; clear M3)
    have ztw219 := tw219.size
    replace rw214 := rw214.kept tw219 ⟨rw214.lt, by omega⟩
    replace q := tw219.onB q (fun j hj => ⟨by have := q.size; omega, by omega⟩)
    refine LL.call (R.call rfl rfl rfl) rfl rfl rfl (num_any _ _) ?_
    rintro e W' ⟨rfl, rfl⟩
    refine ⟨_, rfl, ?_⟩
    refine LL.val (R.neF rfl rfl rfl (by omega)) rfl rfl rfl ?_
    refine LL.nilS ?_
    refine CC.no rfl ?_
    refine CC.skip ?_
    refine EE.thenN ?_
    refine CC.seq ?_
    refine CC.seq ?_
    refine CC.region ?_
    refine LL.val (R.move rfl rfl) rfl rfl rfl ?_
    refine LL.val (R.move rfl rfl) rfl rfl rfl ?_
    refine LL.val (R.index rfl rfl rfl (I.ixS rfl (by omega))) rfl rfl rfl ?_
    refine LL.val (R.field rfl rfl (I.fld rfl)) rfl rfl rfl ?_
    (refine LL.val (R.load rfl rfl (I.ld1 rfl (cell0 _ hok))) rfl rfl rfl ?_)
    refine LL.nilS ?_
    refine CC.block ?_
    refine CC.seq ?_
    refine CC.region ?_
    refine LL.val (R.eqF rfl rfl rfl (by omega)) rfl rfl rfl ?_
    refine LL.val (R.assign rfl rfl) rfl rfl rfl ?_
    refine LL.nilS ?_
    refine CC.no rfl ?_
    refine CC.seq ?_
    refine CC.region ?_
    refine LL.val (R.eqF rfl rfl rfl (by omega)) rfl rfl rfl ?_
    refine LL.val (R.assign rfl rfl) rfl rfl rfl ?_
    refine LL.nilS ?_
    refine CC.no rfl ?_
    refine CC.skip ?_
    refine EE.inN ?_
    refine EE.thenN ?_
    refine CC.seq ?_
    refine CC.region ?_
    refine LL.val (R.move rfl rfl) rfl rfl rfl ?_
    refine LL.val (R.move rfl rfl) rfl rfl rfl ?_
    refine LL.val (R.len rfl rfl rfl rfl) rfl rfl rfl ?_
    refine LL.val (R.ltT rfl rfl rfl (by omega)) rfl rfl rfl ?_
    refine LL.nilS ?_
    refine CC.yes rfl ?_
    refine CC.region ?_
    refine LL.val (R.move rfl rfl) rfl rfl rfl ?_
    refine LL.val (R.move rfl rfl) rfl rfl rfl ?_
    refine LL.val (R.move rfl rfl) rfl rfl rfl ?_
    refine LL.val (R.index rfl rfl rfl (I.ixS1 rfl (by omega))) rfl rfl rfl ?_
    (refine LL.val (R.load rfl rfl (I.ld1 rfl (hz _ q))) rfl rfl rfl ?_)
    (refine LL.call (R.call rfl rfl rfl) rfl rfl rfl (evict_T _ m gn gl qb N z M hcz) ?_; rintro e Ww500 ⟨rfl, M3, tw499⟩; refine ⟨_, rfl, ?_⟩; replace hok := km_tr hok tw499; clear M; have M := M3; clear M3)
    have ztw499 := tw499.size
    replace rw214 := rw214.kept tw499 ⟨rw214.lt, by omega⟩
    replace q := tw499.onB q (fun j hj => ⟨by have := q.size; omega, by omega⟩)
    refine LL.nil ?_
    refine EE.inN ?_
    refine EE.thenN ?_
    refine CC.region ?_
    refine LL.val (R.move rfl rfl) rfl rfl rfl ?_
    refine LL.val (R.addNc rfl rfl rfl rfl (by omega)) rfl rfl rfl ?_
    refine LL.val (R.assign rfl rfl) rfl rfl rfl ?_
    refine LL.nil ?_
    exact EE.round ⟨i + 1, least, most, _, line', fl'⟩ ⟨rfl, rfl, rfl, rfl, rfl, rfl, rfl, rfl, rfl, rfl, trivial⟩ ⟨by show i + 1 ≤ P.length; omega, q, M, hok, H2.evict hcz, hfo2, hm2⟩ (by show K - (i + 1) < K - i; omega)
  · refine CC.seq ?_
    refine CC.seq ?_
    refine CC.region ?_
    refine LL.val (R.move rfl rfl) rfl rfl rfl ?_
    refine LL.val (R.move rfl rfl) rfl rfl rfl ?_
    refine LL.val (R.len rfl rfl rfl rfl) rfl rfl rfl ?_
    refine LL.val (R.ltT rfl rfl rfl (by omega)) rfl rfl rfl ?_
    refine LL.val (R.move rfl rfl) rfl rfl rfl ?_
    refine LL.val (R.move rfl rfl) rfl rfl rfl ?_
    refine LL.val (R.move rfl rfl) rfl rfl rfl ?_
    refine LL.val (R.ltT rfl rfl rfl (by omega)) rfl rfl rfl ?_
    refine LL.val (R.pick rfl rfl rfl) rfl rfl rfl ?_
    refine LL.nilS ?_
    refine CC.yes rfl ?_
    refine CC.skip ?_
    refine EE.thenN ?_
    refine CC.seq ?_
    refine CC.block ?_
    refine CC.seq ?_
    refine CC.seq ?_
    refine CC.region ?_
    refine LL.val (R.move rfl rfl) rfl rfl rfl ?_
    refine LL.val (R.move rfl rfl) rfl rfl rfl ?_
    refine LL.val (R.move rfl rfl) rfl rfl rfl ?_
    refine LL.val (R.index rfl rfl rfl (I.ixS rfl (by omega))) rfl rfl rfl ?_
    refine LL.val (R.load rfl rfl (I.ldM (by assumption) rfl rfl)) rfl rfl rfl ?_
    refine LL.lit (e := 38) [Value.int IntKind.i64 2, Value.int IntKind.i64 x, Value.int IntKind.u64 ↑v] 1 rfl rfl (fun _ => by kernel_rfl) rfl rfl ?_
    intro Wx212 gx213 egx213 rx214 zx215 bx211
    replace q := q.trans (bx211.mono q.size)
    replace M := M.up bx211
    replace hok := hok.trans (bkept bx211 (fun j h => by have := h.1; have := hok.size; omega))
    have yx216 := hok.size
    replace m1 := m1.up bx211
    (refine LL.call (R.call rfl rfl rfl) rfl rfl rfl (run_T m gn gl qb N _ [(2, x, v)] _ M (by simp) hfa1 (fun W' h => (RowL.readsT aEnc (ts := [(2, x, v)]) (by assumption) 1 (Nat.le_refl _)).kp h ⟨by omega, by omega, by omega, by omega⟩)) ?_; rintro e Wx220 ⟨rfl, M3, tx219⟩; refine ⟨_, rfl, ?_⟩; replace hok := km_tr hok tx219; clear m1; clear M; have M : Mem Wx220 m gn gl qb N (doA s (2, x, v)) := M3; clear M3)
    have ztx219 := tx219.size
    replace rx214 := rx214.kept tx219 ⟨rx214.lt, by omega⟩
    replace q := tx219.onB q (fun j hj => ⟨by have := q.size; omega, by omega⟩)
    refine LL.call (R.call rfl rfl rfl) rfl rfl rfl (num_any _ _) ?_
    rintro e W' ⟨rfl, rfl⟩
    refine ⟨_, rfl, ?_⟩
    refine LL.val (R.neF rfl rfl rfl (by omega)) rfl rfl rfl ?_
    refine LL.nilS ?_
    refine CC.no rfl ?_
    refine CC.skip ?_
    refine EE.thenN ?_
    refine CC.seq ?_
    refine CC.seq ?_
    refine CC.region ?_
    refine LL.val (R.move rfl rfl) rfl rfl rfl ?_
    refine LL.val (R.move rfl rfl) rfl rfl rfl ?_
    refine LL.val (R.index rfl rfl rfl (I.ixS rfl (by omega))) rfl rfl rfl ?_
    refine LL.val (R.field rfl rfl (I.fld rfl)) rfl rfl rfl ?_
    (refine LL.val (R.load rfl rfl (I.ld1 rfl (cell0 _ hok))) rfl rfl rfl ?_)
    refine LL.nilS ?_
    refine CC.block ?_
    refine CC.seq ?_
    refine CC.region ?_
    refine LL.val (R.eqF rfl rfl rfl (by omega)) rfl rfl rfl ?_
    refine LL.val (R.assign rfl rfl) rfl rfl rfl ?_
    refine LL.nilS ?_
    refine CC.no rfl ?_
    refine CC.seq ?_
    refine CC.region ?_
    refine LL.val (R.eqF rfl rfl rfl (by omega)) rfl rfl rfl ?_
    refine LL.val (R.assign rfl rfl) rfl rfl rfl ?_
    refine LL.nilS ?_
    refine CC.no rfl ?_
    refine CC.skip ?_
    refine EE.inN ?_
    refine EE.thenN ?_
    refine CC.seq ?_
    refine CC.region ?_
    refine LL.val (R.move rfl rfl) rfl rfl rfl ?_
    refine LL.val (R.move rfl rfl) rfl rfl rfl ?_
    refine LL.val (R.len rfl rfl rfl rfl) rfl rfl rfl ?_
    refine LL.val (R.ltT rfl rfl rfl (by omega)) rfl rfl rfl ?_
    refine LL.nilS ?_
    refine CC.yes rfl ?_
    refine CC.region ?_
    refine LL.val (R.move rfl rfl) rfl rfl rfl ?_
    refine LL.val (R.move rfl rfl) rfl rfl rfl ?_
    refine LL.val (R.move rfl rfl) rfl rfl rfl ?_
    refine LL.val (R.index rfl rfl rfl (I.ixS1 rfl (by omega))) rfl rfl rfl ?_
    (refine LL.val (R.load rfl rfl (I.ld1 rfl (hz _ q))) rfl rfl rfl ?_)
    have lx519 := rx214.lt
    (refine LL.call (R.call rfl rfl rfl) rfl rfl rfl (evict_F _ m gn gl qb N z M (by omega)) ?_; rintro e Wx518 ⟨rfl, bx515⟩; refine ⟨_, rfl, ?_⟩)
    have zbx515 := bx515.size
    replace hok := hok.trans (bkept bx515 (fun j h => by have := h.1; have := hok.size; omega))
    have yx523 := hok.size
    replace M := M.up bx515
    replace rx214 := rx214.up bx515
    replace q := q.trans (bx515.mono q.size)
    refine LL.nil ?_
    refine EE.inN ?_
    refine EE.thenN ?_
    refine CC.region ?_
    refine LL.val (R.move rfl rfl) rfl rfl rfl ?_
    refine LL.val (R.addNc rfl rfl rfl rfl (by omega)) rfl rfl rfl ?_
    refine LL.val (R.assign rfl rfl) rfl rfl rfl ?_
    refine LL.nil ?_
    exact EE.round ⟨i + 1, least, most, _, line', fl'⟩ ⟨rfl, rfl, rfl, rfl, rfl, rfl, rfl, rfl, rfl, rfl, trivial⟩ ⟨by show i + 1 ≤ P.length; omega, q, M, hok, H2, hfo2, hm2⟩ (by show K - (i + 1) < K - i; omega)
end Go.Proofs.Ytcmgpfahpmkeoaa

/- Opening the arguments of a law: slices of pairs of an int and a uint64. -/
namespace Go.Proofs.Ytcmgpfahpmkeoaa
set_option linter.unusedVariables false
set_option linter.unusedSimpArgs false
open Go.RowKit Go.ChangeShapes Go.WideShapes Go.ChangeAt Go.Deep Go.Joins

def iuE (a : Int × Nat) : List Value := [.int .i64 a.1, .int .u64 (a.2 : Int)]
theorem iuEnc : Enc iuE 2 := ⟨fun _ => rfl, fun a u hu => by
  simp only [iuE, List.mem_cons, List.not_mem_nil, or_false] at hu
  rcases hu with rfl | rfl <;> rfl, by decide⟩
def numV : Value → Int
  | .int _ z => z
  | _ => 0

section
variable {H : Type} {enc : TypeId × Value → H} {P : Program} {w : World} {base : Nat} {spare : Nat → Bool} {held : Bool} {r : Reach} {b0 : Nat} {t : TypeId} {v : Value} {d : DataW H} {p : List MemPlace} {f0 f1 : Field}
theorem open_ius {e : TypeId} (ht : P.underlying t = some (.slice e)) (he : P.underlying e = some (.struct #[f0, f1])) (ce : P.cellsOf e = 2) (o0 : f0.offset = 0) (o1 : f1.offset = 1) (c0 : P.cellsOf f0.type = 1) (c1 : P.cellsOf f1.type = 1)
    (u0 : P.underlying f0.type = some (.int .i64)) (u1 : P.underlying f1.type = some (.int .u64)) (hv : Value.okWide P w r b0 t v) (h : DataW.Trod enc P w base spare held t v d p) :
    ∃ xs : List (Int × Nat), ReadsT iuE 2 w v xs ∧ (∀ x ∈ xs, (Lit.int .i64 x.1).wf = true ∧ x.2 < 18446744073709551616) ∧ xs.length ≤ 9223372036854775807 := by
  obtain ⟨a, len, cap, rfl⟩ := okWide_slice ht hv
  obtain ⟨fuel, hf⟩ := h
  rcases open_slice_pairs ht he ce o0 o1 c0 c1 hf with ⟨hcs, _⟩ | ⟨x, l, c, m, n, V0, V1, D0, D1, P0, P1, hcs, _, hl, hm, hmm, _, hi⟩
  · simp [Value.cells] at hcs
    obtain ⟨rfl, rfl, rfl⟩ := hcs
    exact ⟨[], ReadsT.nil w, by simp, by simp⟩
  · simp [Value.cells] at hcs
    obtain ⟨rfl, rfl, rfl⟩ := hcs
    have hlm : len ≤ m := by rw [hmm]; split <;> omega
    have key : ∀ i, i < len → V0 i = .int .i64 (numV (V0 i)) ∧ V1 i = .int .u64 (((numV (V1 i)).toNat : Nat) : Int) ∧ (Lit.int .i64 (numV (V0 i))).wf = true ∧ (numV (V1 i)).toNat < 18446744073709551616 := by
      intro i hlt
      obtain ⟨_, _, h1, h2⟩ := hi i (by omega)
      obtain ⟨n0, e0, _, w0⟩ := DataW.trod_int u0 h1
      obtain ⟨n1, e1, _, w1⟩ := DataW.trod_int u1 h2
      simp only [List.cons.injEq, and_true] at e0 e1
      rw [e0, e1]
      have := wf_u64 w1
      exact ⟨rfl, by show Value.int .u64 n1 = .int .u64 ((n1.toNat : Nat) : Int); rw [Int.toNat_of_nonneg this.1], w0, by show n1.toNat < _; omega⟩
    have hlen : ((List.range len).map fun i => (numV (V0 i), (numV (V1 i)).toNat)).length = len := by simp
    refine ⟨(List.range len).map fun i => (numV (V0 i), (numV (V1 i)).toNat), ⟨some x, cap, by rw [hlen], by rw [hlen]; exact hl, fun hne => ?_⟩, ?_, ?_⟩
    · have h0 : 0 < len := by
        rcases Nat.eq_zero_or_pos len with h0 | h0
        · subst h0; simp at hne
        · exact h0
      obtain ⟨b, off, spot⟩ := x
      have hc0 := (hi 0 (by omega)).1
      have hspot : spot = none := by simpa [Addr.add] using World.cell?_spot hc0
      subst hspot
      have hblt : b < w.heap.size := by
        rcases Nat.lt_or_ge b w.heap.size with hb | hb
        · exact hb
        · simp [Addr.add, World.cell?, Array.getElem?_eq_none hb] at hc0
      refine ⟨b, off, rfl, hblt, fun j hj => ?_⟩
      rw [hlen] at hj
      have hil : j / 2 < len := by omega
      obtain ⟨hc1, hc2, _, _⟩ := hi (j / 2) (by omega)
      obtain ⟨k1, k2, _, _⟩ := key (j / 2) hil
      rw [Addr.add_lit] at hc1 hc2
      have hget : ((List.range len).map fun i => (numV (V0 i), (numV (V1 i)).toNat))[j / 2]? = some (numV (V0 (j / 2)), (numV (V1 (j / 2))).toNat) := by simp [hil]
      have hg := iuEnc.get _ (j / 2) _ hget (j % 2) (by omega)
      have hje : j / 2 * 2 + j % 2 = j := by omega
      rw [hje] at hg
      rw [hg]
      rcases (by omega : j % 2 = 0 ∨ j % 2 = 1) with hm0 | hm0
      · rw [hm0]
        have : off + j = off + j / 2 * 2 := by omega
        rw [this, hc1, k1]
        rfl
      · rw [hm0]
        have : off + j = off + (j / 2 * 2 + 1) := by omega
        rw [this, hc2, k2]
        rfl
    · intro y hy
      obtain ⟨i, hir, rfl⟩ := List.mem_map.1 hy
      obtain ⟨_, _, w1, w2⟩ := key i (List.mem_range.1 hir)
      exact ⟨w1, w2⟩
    · rw [hlen]
      unfold maxLen at hm
      omega
end
end Go.Proofs.Ytcmgpfahpmkeoaa
