/- Strings as lists of bytes. For any seat. -/
import Derived.Test.YtefepklacchghaaUp
import Derived.Test.YtefepklacchghaaRes1
namespace Go.Proofs.Ytefepklacchghaa
set_option linter.unusedVariables false
set_option linter.unusedSimpArgs false
open Go.RowKit Go.Shelf

abbrev Bs := List UInt8
abbrev strV (l : Bs) : Value := .string ⟨l.toArray⟩
def stE (l : Bs) : List Value := [strV l]
theorem stEnc : Enc stE 1 := ⟨fun _ => rfl, fun t u hu => by
  simp only [stE, List.mem_cons, List.not_mem_nil, or_false] at hu
  subst hu
  rfl, by decide⟩
theorem bs_list (l : Bs) : (⟨l.toArray⟩ : ByteArray).toList = l := by rw [ByteArray.toList_eq]
theorem bs_data (s : ByteArray) : s = ⟨s.data.toList.toArray⟩ := by cases s; simp
section
variable {P : Program} {w : World} {o : Oper} {n : Nat} {D : List Deferred} {M : Slots} {x y : Operand} {t u : TypeId} {a b : Bs} {i : Nat}
theorem R.eqS {c : Bool} (ho : o.op = .binOp .eql t x y u) (hx : evM M x = some (strV a)) (hy : evM M y = some (strV b)) (hc : decide (a = b) = c) : Runs P n D M o w (.value (.bool c)) w :=
  R.eqStr ho hx hy (by rw [bs_list, bs_list, ← hc, Bool.eq_iff_iff]; simp)
theorem R.neS {c : Bool} (ho : o.op = .binOp .neq t x y u) (hx : evM M x = some (strV a)) (hy : evM M y = some (strV b)) (hc : (!decide (a = b)) = c) : Runs P n D M o w (.value (.bool c)) w :=
  R.neStr ho hx hy (by rw [bs_list, bs_list, ← hc, Bool.eq_iff_iff]; simp)
theorem I.ixStr {c : UInt8} (ht : isStr P t = true) (hi : a[i]? = some c) : (Instr.index t (strV a) (.int .i64 (i : Int))).run P w = .ok (.int .u8 (c.toNat : Int)) w := by
  unfold isStr at ht
  cases hu : P.underlying t with
  | none => rw [hu] at ht; cases ht
  | some d =>
    rw [hu] at ht
    cases d <;> try (cases ht; done)
    have hg : (⟨a.toArray⟩ : ByteArray)[i]? = some c := by
      have hlt := (List.getElem?_eq_some_iff.1 hi)
      obtain ⟨h1, h2⟩ := hlt
      have hs : i < (⟨a.toArray⟩ : ByteArray).size := by simpa [ByteArray.size] using h1
      rw [getElem?_pos _ i hs]
      congr 1
    have h0 : (0 : Int) ≤ (i : Int) := by omega
    simp [Instr.index, asIntOf, run_underlying hu, h0, hg]
theorem R.ixS {c : UInt8} (ho : o.op = .index t x y) (hx : evM M x = some (strV a)) (hy : evM M y = some (.int .i64 (i : Int))) (ht : isStr P t = true) (hi : a[i]? = some c) : Runs P n D M o w (.value (.int .u8 (c.toNat : Int))) w :=
  R.indexV ho hx hy (I.ixStr ht hi)
theorem R.lenS {xs : Array Operand} {ts : Array TypeId} (ho : o.op = .call { callee := .builtin .len, args := xs, argTypes := ts }) (hx : evsM M xs.toList = some [strV a]) (ht : ts[0]? = some t) (h : lenB P t (strV a) = some a.length) : Runs P n D M o w (.value (.int .i64 (a.length : Int))) w := R.len ho hx ht h
theorem I.slStr {lo hi : Nat} (ht : isStr P t = true) (h1 : lo ≤ hi) (h2 : hi ≤ a.length) : (Instr.sliceAt t (strV a) (some (.int .i64 (lo : Int))) (some (.int .i64 (hi : Int))) none).run P w = .ok (strV ((a.drop lo).take (hi - lo))) w := by
  unfold isStr at ht
  cases hu : P.underlying t with
  | none => rw [hu] at ht; cases ht
  | some d =>
    rw [hu] at ht
    cases d <;> try (cases ht; done)
    have e : (⟨a.toArray⟩ : ByteArray).extract lo hi = ⟨((a.drop lo).take (hi - lo)).toArray⟩ := by
      apply ByteArray.ext
      rw [ByteArray.data_extract]
      apply Array.toList_inj.1
      rw [Array.toList_extract]
    have hs : (⟨a.toArray⟩ : ByteArray).size = a.length := by simp [ByteArray.size]
    simp [Instr.sliceAt, Instr.slice, run_underlying hu, Instr.sliceBounds, run_sliceBound, hs, (by omega : (hi : Int) ≤ (a.length : Int)), (by omega : (lo : Int) ≤ (hi : Int)), e]
theorem R.addS (ho : o.op = .binOp .add t x y u) (hx : evM M x = some (strV a)) (hy : evM M y = some (strV b)) (h : a.length + b.length ≤ 9223372036854775807) : Runs P n D M o w (.value (strV (a ++ b))) w :=
  R.bin ho hx hy (by
    have e : (⟨a.toArray⟩ : ByteArray) ++ ⟨b.toArray⟩ = ⟨(a ++ b).toArray⟩ := by
      apply ByteArray.ext
      rw [ByteArray.data_append]
      simp
    have h1 : ¬ (((a.length + b.length : Nat) : Int) > IntKind.i64.max) := by
      show ¬ (((a.length + b.length : Nat) : Int) > 9223372036854775807)
      omega
    have hs : (⟨a.toArray⟩ : ByteArray).size = a.length := by simp [ByteArray.size]
    have hs2 : (⟨b.toArray⟩ : ByteArray).size = b.length := by simp [ByteArray.size]
    simp only [eqGuard, binOp, Op.stringOp, hs, hs2]
    rw [if_neg h1, e]
    rfl)
end
/-- What the call owns, over a turn of an iterator. -/
theorem ownsT_turns {α : Type} {enc : α → List Value} {k B m : Nat} {W W' : World} {base e : Nat} {v : Value} {ts : List α} (h : OwnsT enc k W base e v ts) (hb : ∀ b, v.ownBlock = some b → b < B ∨ m ≤ b) (ht : Turns B m W W') : OwnsT enc k W' base e v ts := by
  refine ⟨h.1, ?_⟩
  rcases h.2 with h2 | ⟨g', cap, cur, rfl, hbg, hg, h3⟩
  · exact .inl h2
  · refine .inr ⟨g', cap, cur, rfl, hbg, ht.same g' _ hg ?_, h3⟩
    rcases hb g' rfl with h4 | h4
    · exact .inl h4
    · exact .inr ⟨h4, rfl⟩
/-- Things, each with its place. -/
def numB {α : Type} (ts : List α) : List (Nat × α) := ts.mapIdx fun i t => (i, t)
theorem numB_len {α : Type} (ts : List α) : (numB ts).length = ts.length := by simp [numB]
theorem numB_get {α : Type} {ts : List α} {i : Nat} {t : α} (h : ts[i]? = some t) : (numB ts)[i]? = some (i, t) := by simp [numB, h]
theorem numB_snoc {α : Type} (ts : List α) (t : α) : numB (ts ++ [t]) = numB ts ++ [(ts.length, t)] := by simp [numB, List.mapIdx_append]
theorem numB_pre {α : Type} (a b : List α) : numB a <+: numB (a ++ b) := by
  unfold numB
  rw [List.mapIdx_append]
  exact List.prefix_append _ _
theorem numB_snd {α : Type} (ts : List α) : (numB ts).map (·.2) = ts := by
  apply List.ext_getElem?
  intro i
  simp only [numB, List.getElem?_map, List.getElem?_mapIdx]
  cases ts[i]? <;> rfl
theorem numB_part {α : Type} {ts : List α} {pre : List (Nat × α)} {x : Nat × α} (h : Part (fun xs => xs = numB ts) (pre ++ [x])) : x.1 = pre.length ∧ ts[pre.length]? = some x.2 ∧ pre = (numB ts).take pre.length := by
  obtain ⟨_, rfl, hp⟩ := h
  have h1 : (numB ts)[pre.length]? = some x := by
    obtain ⟨s, hs⟩ := hp
    rw [← hs, List.append_assoc, List.getElem?_append_right (Nat.le_refl _)]
    simp
  have h2 : pre = (numB ts).take pre.length := by
    obtain ⟨s, hs⟩ := hp
    rw [← hs, List.append_assoc, List.take_left]
  have h3 : ts[pre.length]?.map (fun t => (pre.length, t)) = some x := by
    rw [← h1]
    simp [numB]
  cases ht : ts[pre.length]? with
  | none => rw [ht] at h3; cases h3
  | some t =>
    rw [ht] at h3
    cases h3
    exact ⟨rfl, rfl, h2⟩
end Go.Proofs.Ytefepklacchghaa
