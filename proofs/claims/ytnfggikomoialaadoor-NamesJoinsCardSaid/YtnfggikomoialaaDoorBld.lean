/- strings.Builder: what a call writes into one that it has made. -/
import Derived.Test.YtnfggikomoialaaDoorNm3
import Derived.Lib.AppendStr
import Derived.Lib.Builder
import Derived.Laws.Externs
namespace Go.Proofs.YtnfggikomoialaaDoor
set_option linter.unusedVariables false
set_option linter.unusedSimpArgs false
open Go.RowKit Go.Shelf

section
variable {P : Program} {w w' : World} {o : Oper} {n : Nat} {D : List Deferred} {M : Slots} {x y : Operand} {t u : TypeId}
theorem equal_ptr_same {te : TypeId} {j : TypeInfo} (a : Addr) (hp : P.underlying t = some (.pointer te)) (hte : P.info? te = some j) : (Op.equal t (.pointer (some a)) (.pointer (some a))).run P w = .ok true w := by
  have h : ∀ d : Nat, (Op.equalIn (d + 1) t (.pointer (some a)) (.pointer (some a))).run P w = .ok true w := fun d => by
    simp [Op.equalIn, run_underlying hp, sizeOf, typeInfo, hte, run_sameAddr_same]
  simp [Op.equal, Op.maxDepth, h 9999]
theorem R.nePtrSame {te : TypeId} {j : TypeInfo} (a : Addr) (hp : P.underlying t = some (.pointer te)) (hte : P.info? te = some j) (ho : o.op = .binOp .neq t x y u) (hx : evM M x = some (.pointer (some a))) (hy : evM M y = some (.pointer (some a))) : Runs P n D M o w (.value (.bool false)) w :=
  R.bin ho hx hy (I.eqOf (by rintro _ _ _ _ ⟨h, _⟩; cases h) (by rintro _ h; cases h) (equal_ptr_same a hp hte) (.inl ⟨_, _, rfl, rfl⟩)).2
/-- A call of the model's own. -/
theorem R.extern {f : FuncId} {xs : Array Operand} {ts : Array TypeId} {vs : List Value} {v : Value} (ho : o.op = .call { callee := .value (.func f), args := xs, argTypes := ts }) (hx : evsM M xs.toList = some vs) (hr : (callFunc f vs.toArray).run P w = .ok (.value v) w') : Runs P n D M o w (.value v) w' := fun a F => by
  have hm := evs_mapA F hx
  unfold execOp
  simp only [ho]
  have hf : a.eval (.func f) = .func (.func f) #[] #[] := rfl
  simp only [resolve, hf, hm, Deferred.ofValue, invoke, Sem.run_bind, Sem.run_pure, Result.andThen_ok, Array.empty_append, Array.append_empty]
  exact hr
end
abbrev BTy : TypeId := 64
abbrev u8T : TypeId := 5
/-- A builder that holds these bytes. -/
def BldAt (w : World) (B b : Nat) (l : Bs) : Prop := Lib.IsBuilder BTy u8T B b (Lib.byteCells l) w
theorem bld_lt {w : World} {B b : Nat} {l : Bs} (h : BldAt w B b l) : b < w.heap.size := by
  rcases h with h | h <;> exact h.lt
theorem sizeBuilder : (Tryd.prog.info? BTy).map (·.size) = some 2 := by kernel_rfl
theorem liesBuilder : liesAt Tryd.prog Tryd.prog.depth BTy (2 / Tryd.prog.cellsOf BTy) 0 BTy 1 = true := by kernel_rfl
set_option maxRecDepth 100000 in
theorem copyCheck_any (B b : Nat) (bs : List Value) (w : World) (h : Lib.IsBuilder BTy u8T B b bs w) :
    Calls Tryd.prog 52 #[.pointer (some ⟨b, 0, none⟩)] w fun e w' => e = .returned (.tuple #[]) ∧ Lib.BuilderAt BTy u8T B b (.pointer (some ⟨b, 0, none⟩)) bs w' ∧ w.grownBy w' (some b) := by
  obtain ⟨j, hj, hjs⟩ := Option.map_eq_some_iff.1 sizeBuilder
  rcases h with h | h
  · have c0 := h.cell0
    have hsh := h.shape
    have hfz := h.frozen0
    refine X.fn Tryd.func52 rfl (n := 20) rfl rfl ?_
    (refine CC.seq ?_; refine CC.region ?_; refine LL.val (R.move rfl rfl) rfl rfl rfl ?_; refine LL.val (R.nil rfl rfl) rfl rfl rfl ?_; refine LL.val (R.field rfl rfl (I.fld rfl)) rfl rfl rfl ?_; refine LL.val (R.load rfl rfl (I.ld1 rfl (by assumption))) rfl rfl rfl ?_; refine LL.val (R.eqPtr rfl rfl rfl rfl rfl) rfl rfl rfl ?_; refine LL.nilS ?_; refine CC.yes rfl ?_; refine CC.region ?_; refine LL.val (R.move rfl rfl) rfl rfl rfl ?_; refine LL.val (R.move rfl rfl) rfl rfl rfl ?_)
    refine LL.val (R.conv rfl rfl (Lib.run_to_unsafe w ⟨b, 0, none⟩ Tryd.underlying61 Tryd.underlying74 hj (by rw [hjs]; decide) hsh (Nat.zero_lt_succ 1))) rfl rfl rfl ?_
    refine LL.val (R.extern rfl rfl (by rw [run_callFunc_extern Tryd.func57 (by kernel_rfl) (by kernel_rfl) (by kernel_rfl) (e := Extern.AbiNoEscape.same) (by kernel_rfl)]; exact rfl)) rfl rfl rfl ?_
    refine LL.val (R.conv rfl rfl (Lib.run_from_unsafe w ⟨b, 0, none⟩ Tryd.underlying74 Tryd.underlying61 hj hsh liesBuilder)) rfl rfl rfl ?_
    (refine LL.val (R.nil rfl rfl) rfl rfl rfl ?_; refine LL.val (R.field rfl rfl (I.fld rfl)) rfl rfl rfl ?_)
    refine LL.unit (R.store rfl rfl rfl (I.st1 (u := .pointer none) rfl c0 hfz rfl rfl)) rfl rfl rfl ?_
    (refine LL.nil ?_)
    refine EE.end [] rfl rfl ?_
    exact ⟨rfl, h.used _, grown_set _ _ _⟩
  · have c0 := h.cell0
    refine X.fn Tryd.func52 rfl (n := 20) rfl rfl ?_
    (refine CC.seq ?_; refine CC.region ?_; refine LL.val (R.move rfl rfl) rfl rfl rfl ?_; refine LL.val (R.nil rfl rfl) rfl rfl rfl ?_; refine LL.val (R.field rfl rfl (I.fld rfl)) rfl rfl rfl ?_; refine LL.val (R.load rfl rfl (I.ld1 rfl (by assumption))) rfl rfl rfl ?_; refine LL.val (R.eqPtr rfl rfl rfl rfl rfl) rfl rfl rfl ?_; refine LL.nilS ?_; refine CC.no rfl ?_; refine CC.seq ?_; refine CC.region ?_; refine LL.val (R.move rfl rfl) rfl rfl rfl ?_; refine LL.val (R.nil rfl rfl) rfl rfl rfl ?_; refine LL.val (R.field rfl rfl (I.fld rfl)) rfl rfl rfl ?_; refine LL.val (R.load rfl rfl (I.ld1 rfl (by assumption))) rfl rfl rfl ?_; refine LL.val (R.move rfl rfl) rfl rfl rfl ?_)
    refine LL.val (R.nePtrSame ⟨b, 0, none⟩ Tryd.underlying61 hj rfl rfl rfl) rfl rfl rfl ?_
    (refine LL.nilS ?_; refine CC.no rfl ?_; refine CC.skip ?_)
    refine EE.end [] rfl rfl ?_
    exact ⟨rfl, h, grown_refl _ _⟩
theorem infoByte8 : (Tryd.prog.info? u8T).map (fun i => (i.zero, i.size, i.bytes)) = some (some (.int .u8 0), 1, 1) := by kernel_rfl
theorem byteCells_append (a b : Bs) : Lib.byteCells (a ++ b) = Lib.byteCells a ++ Lib.byteCells b := by simp [Lib.byteCells]
theorem strCells_eq (s : Bs) : Lib.strCells ⟨s.toArray⟩ = Lib.byteCells s := by simp [Lib.strCells, Lib.byteCells]
set_option maxRecDepth 100000 in
theorem bwrite_any (B b : Nat) (l s : Bs) (w : World) (h : BldAt w B b l) (hlen : l.length + s.length ≤ 1048576) (hB : B ≤ w.heap.size) :
    Calls Tryd.prog 46 #[.pointer (some ⟨b, 0, none⟩), strV s] w fun e w' => (∃ v, e = .returned v) ∧ BldAt w' B b (l ++ s) ∧ Below B w w' := by
  obtain ⟨i0, hi, hz0, hz1, hz2⟩ : ∃ i, Tryd.prog.info? u8T = some i ∧ i.zero = some (.int .u8 0) ∧ i.size = 1 ∧ i.bytes = 1 := by
    obtain ⟨i, hi, he⟩ := Option.map_eq_some_iff.1 infoByte8
    simp only [Prod.mk.injEq] at he
    exact ⟨i, hi, he.1, he.2.1, he.2.2⟩
  refine X.fn Tryd.func46 rfl (n := 19) rfl rfl ?_
  (refine CC.seq ?_; refine CC.region ?_; refine LL.val (R.assign rfl rfl) rfl rfl rfl ?_; refine LL.val (R.assign rfl rfl) rfl rfl rfl ?_; refine LL.nilS ?_; refine CC.seq ?_; refine CC.region ?_; refine LL.val (R.move rfl rfl) rfl rfl rfl ?_)
  refine LL.call (R.call rfl rfl rfl) rfl rfl rfl (copyCheck_any B b _ w h) ?_
  rintro e w1 ⟨rfl, h1, g1⟩
  refine ⟨_, rfl, ?_⟩
  obtain ⟨hBb, v, hbk, hown, hne⟩ := h1
  have hs1 := g1.size
  have c1 : w1.cell? ⟨b, 0 + 1, none⟩ = some v := by rw [Lib.cell_of_heap hbk]; rfl
  have hlt : b < w1.heap.size := (Array.getElem?_eq_some_iff.1 hbk).1
  obtain ⟨v', w2, hr, hown', hgrow, _⟩ := Lib.run_append_own_string w1 B 62 9 62 u8T i0 Tryd.underlying62 Tryd.underlying9 hi hz0 hz1 hz2 v _ _ hown ⟨s.toArray⟩ (by rw [Lib.byteCells_length]; simp [ByteArray.size, maxLen]; omega) (by rw [Lib.byteCells_length]; simp [ByteArray.size]; omega) (by omega)
  have hb2 : w2.heap[b]? = some (.cells #[.pointer (some ⟨b, 0, none⟩), v] BTy (0, 0)) := by
    rw [hgrow.block b hlt (fun e => hne e.symm)]
    exact hbk
  have hrow2 : RowL w2 b BTy [.pointer (some ⟨b, 0, none⟩), v] := hb2
  rw [strCells_eq, ← byteCells_append] at hown'
  have hbel : Below B w w2 := ((Below.refl B w).grown g1 hB (by rintro k ⟨⟩; exact hBb)).grown hgrow (by omega) (fun k hk => (hown.lt k hk).1)
  (refine LL.nilS ?_; refine CC.seq ?_; refine CC.region ?_; refine LL.val (R.move rfl rfl) rfl rfl rfl ?_; refine LL.val (R.move rfl rfl) rfl rfl rfl ?_; refine LL.val (R.nil rfl rfl) rfl rfl rfl ?_; refine LL.val (R.field rfl rfl (I.fld rfl)) rfl rfl rfl ?_; refine LL.val (R.load rfl rfl (I.ld1 rfl (by assumption))) rfl rfl rfl ?_; refine LL.val (R.move rfl rfl) rfl rfl rfl ?_)
  refine LL.val (v := v') (w' := w2) (R.builtin rfl rfl fun cs => by unfold builtin; simp only [Sem.run_bind, hr, Result.andThen_ok, Sem.run_pure]) rfl rfl rfl ?_
  obtain ⟨ao, n', cap, rfl⟩ : ∃ ao n' cap, v' = .slice ao n' cap := by
    rcases hown'.2 with ⟨hv, _⟩ | ⟨g, cap, cur, hv, _⟩
    · exact ⟨_, _, _, hv⟩
    · exact ⟨_, _, _, hv⟩
  (refine LL.val (R.nil rfl rfl) rfl rfl rfl ?_; refine LL.val (R.field rfl rfl (I.fld rfl)) rfl rfl rfl ?_)
  refine LL.store rfl rfl rfl rfl hrow2 (by exact Nat.le_of_ble_eq_true rfl) rfl rfl rfl rfl ?_
  intro w3 r3 g3 z3
  (refine LL.nilS ?_; refine CC.seq ?_; refine CC.region ?_; refine LL.val (R.move rfl rfl) rfl rfl rfl ?_; refine LL.val (R.lenS rfl rfl rfl rfl) rfl rfl rfl ?_; refine LL.val (R.assign rfl rfl) rfl rfl rfl ?_; refine LL.val (R.assign rfl rfl) rfl rfl rfl ?_; refine LL.nilS ?_; refine CC.ret ?_)
  refine EE.ret _ rfl rfl ?_
  refine ⟨⟨_, rfl⟩, .inr ⟨hBb, _, r3, ?_, ?_⟩, hbel.grown g3 (by have := hbel.size; omega) (by rintro k ⟨⟩; exact hBb)⟩
  · have e1 : (⟨s.toArray⟩ : ByteArray).size = s.length := by simp [ByteArray.size]
    have e2 : (Lib.byteCells (l ++ s)).length = (Lib.byteCells l).length + (⟨s.toArray⟩ : ByteArray).size := by simp [Lib.byteCells, e1]
    rw [e2]
    exact hown'.kept g3 (.inr (Lib.ownBlock_ne hown' hb2 (by decide)))
  · exact Lib.ownBlock_ne hown' hb2 (by decide)
theorem bstring_any (B b : Nat) (l : Bs) (w : World) (h : BldAt w B b l) (hB : B ≤ w.heap.size) : Calls Tryd.prog 47 #[.pointer (some ⟨b, 0, none⟩)] w fun e w' => e = .returned (strV l) ∧ Below B w w' :=
  Tryd.Builder_String_any B b l w h hB
end Go.Proofs.YtnfggikomoialaaDoor
