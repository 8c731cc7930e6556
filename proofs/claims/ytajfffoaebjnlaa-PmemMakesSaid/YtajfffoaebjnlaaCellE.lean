/- Slices whose elements have many cells: made, copied; parts of elements loaded and stored. Over any program. -/
import Derived.Test.YtajfffoaebjnlaaTFld
import Derived.Test.YtajfffoaebjnlaaFreeZ
import Derived.Test.YtajfffoaebjnlaaOwnZ
namespace Go.Proofs.Ytajfffoaebjnlaa
set_option linter.unusedVariables false
set_option linter.unusedSimpArgs false
open Go.RowKit Go.Shelf

/-- k cells from a place on. -/
structure CellsN (w : World) (p : Addr) (k : Nat) (vs : List Value) : Prop where
  at' : Cells w p vs
  len : vs.length = k
section
variable {w w' : World} {p : Addr} {k b o : Nat} {vs : List Value} {P : Program} {t : TypeId}
theorem CellsN.lt (h : CellsN w ⟨b, o, none⟩ k vs) (hk : 0 < k) : b < w.heap.size := by
  have hl := h.len
  obtain ⟨u, hu⟩ : ∃ u, vs[0]? = some u := ⟨_, List.getElem?_eq_getElem (by omega)⟩
  have := h.at' 0 u hu
  rw [add_plain] at this
  exact World.block_lt_of_cell? _ _ this
theorem CellsN.up (h : CellsN w ⟨b, o, none⟩ k vs) (hb : Below w.heap.size w w') : CellsN w' ⟨b, o, none⟩ k vs := ⟨fun j u hu => by
  have h1 := h.at' j u hu
  rw [add_plain] at *
  exact (hb.cell (p := ⟨b, o + j, none⟩) (World.block_lt_of_cell? _ _ h1)).trans h1, h.len⟩
theorem CellsN.gr {r : Nat} (h : CellsN w ⟨b, o, none⟩ k vs) (hg : w.grownBy w' (some r)) (hne : b ≠ r) : CellsN w' ⟨b, o, none⟩ k vs := ⟨fun j u hu => by
  have h1 := h.at' j u hu
  rw [add_plain] at *
  exact (World.cell?_of_block (hg.block b (World.block_lt_of_cell? _ _ h1) (by simpa using hne))).trans h1, h.len⟩
theorem CellsN.kept {K : Nat → Prop} (h : CellsN w ⟨b, o, none⟩ k vs) (hk : Kept K w w') (hb : K b) : CellsN w' ⟨b, o, none⟩ k vs := ⟨fun j u hu => by
  have h1 := h.at' j u hu
  rw [add_plain] at *
  exact (World.cell?_of_block (hk.block b hb)).trans h1, h.len⟩
/-- A part. -/
theorem CellsN.part {us : List Value} (h : CellsN w ⟨b, o, none⟩ k vs) (c : Nat) {k' : Nat} (hu : (vs.drop c).take k' = us) (hl : c + k' ≤ k) : CellsN w ⟨b, o + c, none⟩ k' us := by
  have hv := h.len
  subst hu
  refine ⟨fun j u hj => ?_, by rw [List.length_take, List.length_drop]; omega⟩
  have hlt := (List.getElem?_eq_some_iff.1 hj).1
  rw [List.length_take, List.length_drop] at hlt
  rw [List.getElem?_take, if_pos (by omega), List.getElem?_drop] at hj
  have := h.at' _ u hj
  rw [add_plain] at *
  rw [Nat.add_assoc]
  exact this
theorem CellsN.cell {u : Value} (h : CellsN w ⟨b, o, none⟩ k vs) {j : Nat} (hu : vs[j]? = some u) : w.cell? ⟨b, o + j, none⟩ = some u := by
  have := h.at' j u hu
  rwa [add_plain] at this
theorem I.ldM (h : CellsN w p k vs) (hT : aggB P t = true) (hz : szB P t = some k) : (Instr.loadAt t (.pointer (some p))).run P w = .ok (.agg vs.toArray) w := I.ldN hT (by rw [hz, h.len]) h.at'
theorem lvM (h : CellsN w p k vs) (hT : aggB P t = true) (hz : szB P t = some k) : (loadVar t p).run P w = .ok (.agg vs.toArray) w := lvN hT (by rw [hz, h.len]) h.at'
theorem RowL.cellsN {g e off : Nat} {xs : List Value} (h : RowL w g e xs) (hv : (xs.drop off).take k = vs) (hl : off + k ≤ xs.length) : CellsN w ⟨g, off, none⟩ k vs := by
  have hlen : vs.length = k := by rw [← hv, List.length_take, List.length_drop]; omega
  exact ⟨h.cells (by rw [hlen]; exact hv), hlen⟩
theorem RowL.elemN {α : Type} {enc : α → List Value} {g e i : Nat} {ts : List α} {x : α} (E : Enc enc k) (h : RowL w g e (ts.flatMap enc)) (hx : ts[i]? = some x) : CellsN w ⟨g, i * k, none⟩ k (enc x) := by
  have hi := (List.getElem?_eq_some_iff.1 hx).1
  have hf := E.flat ts
  have hin : i * k + k ≤ ts.length * k := by
    have : (i + 1) * k ≤ ts.length * k := Nat.mul_le_mul_right _ hi
    rw [Nat.add_mul] at this
    omega
  refine h.cellsN ?_ (by omega)
  rw [E.drop, ← Nat.one_mul k, E.take]
  rw [show ts.drop i = x :: ts.drop (i + 1) by rw [← (List.getElem?_eq_some_iff.1 hx).2]; exact List.drop_eq_getElem_cons hi]
  simp
theorem ReadsT.elemN {α : Type} {enc : α → List Value} (E : Enc enc k) {off n cap i : Nat} {ts : List α} {x : α} (h : ReadsT enc k w (.slice (some ⟨b, off, none⟩) n cap) ts) (hx : ts[i]? = some x) : CellsN w ⟨b, off + i * k, none⟩ k (enc x) := by
  obtain ⟨b', off', e, _, hc⟩ := h.get E hx
  simp only [Option.some.injEq, Addr.mk.injEq] at e
  obtain ⟨rfl, rfl, _⟩ := e
  exact ⟨hc, E.len x⟩
theorem ReadsT.kp {α : Type} {enc : α → List Value} {K : Nat → Prop} {off n cap : Nat} {ts : List α} (h : ReadsT enc k w (.slice (some ⟨b, off, none⟩) n cap) ts) (hk : Kept K w w') (hb : K b) : ReadsT enc k w' (.slice (some ⟨b, off, none⟩) n cap) ts :=
  h.sameB hk.size fun _ ho => (hk.block b hb).trans ho
end

section
variable {α : Type} {enc : α → List Value} {k : Nat} {P : Program} {w : World} {o : Oper} {n : Nat} {D : List Deferred} {M : Slots} {T e : TypeId} {z : Value} {bytes : Nat} {r : Option Nat} {ops : Array Oper} {Q : Exit → Act → World → Prop} {rest : List Oper}
theorem madeCells_rep (zs : List Value) (hk : 0 < zs.length) (m : Nat) : (madeCells zs.toArray (m * zs.length)).toList = (List.replicate m zs).flatten := by
  apply List.ext_getElem?
  intro j
  unfold madeCells
  simp only [Array.toList_map, Array.toList_range, List.getElem?_map, List.size_toArray]
  have key : ∀ (m j : Nat), (List.replicate m zs).flatten[j]? = if j < m * zs.length then zs[j % zs.length]? else none := by
    intro m
    induction m with
    | zero => intro j; simp
    | succ m ih =>
      intro j
      rw [List.replicate_succ, List.flatten_cons, List.getElem?_append]
      by_cases hj : j < zs.length
      · rw [if_pos hj, Nat.mod_eq_of_lt hj, if_pos]
        rw [Nat.add_mul]; omega
      · rw [if_neg hj, ih (j - zs.length)]
        have e1 : (j - zs.length) % zs.length = j % zs.length := by
          conv => rhs; rw [show j = (j - zs.length) + zs.length by omega, Nat.add_mod_right]
        rw [e1, Nat.add_mul]
        by_cases h2 : j - zs.length < m * zs.length
        · rw [if_pos h2, if_pos (by omega)]
        · rw [if_neg h2, if_neg (by omega)]
  rw [key]
  by_cases hj : j < m * zs.length
  · have hm : j % zs.length < zs.length := Nat.mod_lt _ hk
    rw [if_pos hj, List.getElem?_range hj, List.getElem?_eq_getElem hm]
    simp [hm]
  · rw [if_neg hj, List.getElem?_eq_none (by simpa using Nat.le_of_not_lt hj)]
    rfl
/-- make([]T, l, m) of elements of many cells. -/
theorem run_mkE {zs : List Value} (I : ElT P T e z k bytes) (hzc : z.cells = zs.toArray) (hk : 0 < k) (l m : Nat) (hl : l ≤ m) (hb : bytes * m ≤ 281474976710656) (hn : m ≤ 9223372036854775807) (w : World) :
    ∃ w', (Instr.makeSlice T (.int .i64 (l : Int)) (.int .i64 (m : Int))).run P w = .ok (.slice (some ⟨w.heap.size, 0, none⟩) l m) w' ∧ RowL w' w.heap.size e (List.replicate m zs).flatten ∧ Below w.heap.size w w' ∧ w'.heap.size = w.heap.size + 1 := by
  obtain ⟨i, hi, hz, hsz, hby⟩ := I.info
  have hm := I.many
  rw [hzc] at hm
  have hzl : zs.length = k := by simpa using hm
  have hb' : (i.bytes : Int) * (m : Int) ≤ 281474976710656 := by
    have h : ((i.bytes * m : Nat) : Int) ≤ 281474976710656 := by rw [hby]; omega
    rwa [Int.natCast_mul] at h
  have h := run_make (P := P) w T e i z I.under hi hz .i64 .i64 l m (by omega) (by omega) hb' (by omega)
  simp only [Int.toNat_natCast, hsz, hzc] at h
  refine ⟨_, h, ?_, Below.alloc0 w _, by simp⟩
  have e1 : madeCells zs.toArray (m * k) = (List.replicate m zs).flatten.toArray := by
    rw [← madeCells_rep zs (by omega) m, hzl]
  rw [e1]
  exact RowL.new w e _
theorem LL.makeE {x y : Operand} {l m : Nat} {zs : List Value} (I : ElT P T e z k bytes) (hzc : z.cells = zs.toArray) (hk : 0 < k) (ho : o.op = .makeSlice T x y) (hx : evM M x = some (.int .i64 (l : Int))) (hy : evM M y = some (.int .i64 (m : Int))) (hl : l ≤ m) (hb : bytes * m ≤ 281474976710656) (hn : m ≤ 9223372036854775807) (hd : dstB n o.dst = true) (hg : wantB ops M o.guard = some true)
    (c : ∀ w1 g, g = w.heap.size → RowL w1 g e (List.replicate m zs).flatten → w1.heap.size = g + 1 → Below w.heap.size w w1 → LL r P ops Q n D (putM M o.dst (.slice (some ⟨g, 0, none⟩) l m)) rest w1) : LL r P ops Q n D M (o :: rest) w := by
  obtain ⟨w', h1, h2, h3, h4⟩ := run_mkE I hzc hk l m hl hb hn w
  exact LL.val (R.make ho hx hy h1) hd (by rw [ho]; rfl) hg (c w' _ rfl h2 h4 h3)
/-- copy(d, s) of elements of many cells, into a row as long as what is copied. -/
theorem LL.copyE {xs : Array Operand} {dT sT : TypeId} {g : Nat} {p : Addr} {m dc sc : Nat} {row cs : List Value} (ho : o.op = .call { callee := .builtin .copy, args := xs, argTypes := #[dT, sT] }) (hx : evsM M xs.toList = some [.slice (some ⟨g, 0, none⟩) m dc, .slice (some p) m sc])
    (I : ElT P dT e z k bytes) (hr : RowL w g e row) (hcs : CellsN w p (m * k) cs) (hl : row.length = m * k) (h1 : ∀ v ∈ cs, v.oneCell' = true) (hd : dstB n o.dst = true) (hg : wantB ops M o.guard = some true)
    (c : ∀ w1, RowL w1 g e cs → w.grownBy w1 (some g) → w1.heap.size = w.heap.size → LL r P ops Q n D (putM M o.dst (.int .i64 (m : Int))) rest w1) : LL r P ops Q n D M (o :: rest) w := by
  obtain ⟨i, hi, hz, hsz, hby⟩ := I.info
  have hcl := hcs.len
  have hl1 := run_loadCells_list (P := P) w p cs hcs.at'
  rw [hcl] at hl1
  have hst := run_storeCells_at P g 0 e cs 0 row.toArray w hr (by simp; omega) h1
  have hrun : (Builtin.copy_ #[dT, sT] o.type #[.slice (some ⟨g, 0, none⟩) m dc, .slice (some p) m sc]).run P w = .ok (goInt m) (w.setRow g cs.toArray) := by
    have e1 : ((row.toArray.toList.take (0 + 0) ++ cs ++ row.toArray.toList.drop (0 + 0 + cs.length)).toArray : Array Value) = cs.toArray := by
      simp only [Nat.add_zero, List.take_zero, List.nil_append, Nat.zero_add, List.toList_toArray]
      rw [List.drop_of_length_le (by omega)]
      simp
    rw [e1] at hst
    simp [Builtin.copy_, run_underlying I.under, Builtin.lenOf, Builtin.firstCells, sizeOf, typeInfo, hi, hsz, hl1, hst]
  refine LL.val (v := .int .i64 (m : Int)) (R.builtin ho hx fun b => ?_) hd (by rw [ho]; rfl) hg (c _ (setRow_heap w g row.toArray _ e (0, 0) hr) (setRow_grown w g _) (by simp))
  unfold builtin
  simp only [Sem.run_bind, hrun, Result.andThen_ok, Sem.run_pure]
  rfl
theorem Enc.setN (E : Enc enc k) (ts : List α) (i c : Nat) (t u : α) (vs : List Value) (ht : ts[i]? = some t) (hc : c + vs.length ≤ k) (hu : enc u = (enc t).take c ++ vs ++ (enc t).drop (c + vs.length)) : (ts.flatMap enc).take (i * k + c) ++ vs ++ (ts.flatMap enc).drop (i * k + c + vs.length) = (ts.set i u).flatMap enc := by
  have hi : i < ts.length := (List.getElem?_eq_some_iff.1 ht).1
  have hlen := E.flat ts
  have hin : i * k + k ≤ ts.length * k := by
    have : (i + 1) * k ≤ ts.length * k := Nat.mul_le_mul_right _ hi
    rw [Nat.add_mul] at this
    omega
  have hself : ts.set i t = ts := by
    rw [List.getElem?_eq_getElem hi] at ht
    cases ht
    simp
  have h0 := E.set ts i t hi
  rw [hself] at h0
  have hA : ((ts.flatMap enc).take (i * k)).length = i * k := by rw [List.length_take]; omega
  have hel := E.len t
  rw [E.set ts i u hi, hu]
  have h1 : (ts.flatMap enc).take (i * k + c) = (ts.flatMap enc).take (i * k) ++ (enc t).take c := by
    conv => lhs; rw [h0]
    rw [List.append_assoc, List.take_append, hA, List.take_of_length_le (by omega), show i * k + c - i * k = c by omega, List.take_append_of_le_length (by omega)]
  have h2 : (ts.flatMap enc).drop (i * k + c + vs.length) = (enc t).drop (c + vs.length) ++ (ts.flatMap enc).drop (i * k + k) := by
    conv => lhs; rw [h0]
    rw [List.append_assoc, List.drop_append, hA, List.drop_of_length_le (l := (ts.flatMap enc).take (i * k)) (by omega), List.nil_append, show i * k + c + vs.length - i * k = c + vs.length by omega, List.drop_append_of_le_length (by omega)]
  rw [h1, h2]
  simp [List.append_assoc]
/-- A part of an element of a row, stored anew. -/
theorem LL.storeP {x y : Operand} {t : TypeId} {g off : Nat} {ts : List α} {vs : List Value} (i c : Nat) (s u : α) (ho : o.op = .store t x y) (hx : evM M x = some (.pointer (some ⟨g, off, none⟩))) (hy : evM M y = some (.agg vs.toArray)) (hz : szB P t = some vs.length) (hoff : off = i * k + c) (E : Enc enc k)
    (hr : RowL w g e (ts.flatMap enc)) (hs : ts[i]? = some s) (hc : c + vs.length ≤ k) (hu : enc u = (enc s).take c ++ vs ++ (enc s).drop (c + vs.length)) (h1 : ∀ v ∈ vs, v.oneCell' = true) (hd : o.dst = none) (hg : wantB ops M o.guard = some true)
    (kk : ∀ w', RowL w' g e ((ts.set i u).flatMap enc) → w.grownBy w' (some g) → w'.heap.size = w.heap.size → LL r P ops Q n D M rest w') : LL r P ops Q n D M (o :: rest) w := by
  have hi : i < ts.length := (List.getElem?_eq_some_iff.1 hs).1
  have hin : i * k + k ≤ ts.length * k := by
    have : (i + 1) * k ≤ ts.length * k := Nat.mul_le_mul_right _ hi
    rw [Nat.add_mul] at this
    omega
  have hf := E.flat ts
  subst hoff
  refine LL.storeN (vs := vs) ho hx hy hz hr (by omega) h1 hd hg ?_
  intro w' r' g' z'
  refine kk w' ?_ g' z'
  rw [← E.setN ts i c s u vs hs hc hu]
  exact r'
/-- A whole element of a row, stored anew. -/
theorem LL.storeR {x y : Operand} {t : TypeId} {g off : Nat} {ts : List α} (i : Nat) (u : α) (ho : o.op = .store t x y) (hx : evM M x = some (.pointer (some ⟨g, off, none⟩))) (hoff : off = i * k) (hy : evM M y = some (.agg (enc u).toArray)) (hz : szB P t = some k) (E : Enc enc k)
    (hr : RowL w g e (ts.flatMap enc)) (hi : i < ts.length) (hd : o.dst = none) (hg : wantB ops M o.guard = some true)
    (kk : ∀ w', RowL w' g e ((ts.set i u).flatMap enc) → w.grownBy w' (some g) → w'.heap.size = w.heap.size → LL r P ops Q n D M rest w') : LL r P ops Q n D M (o :: rest) w := by
  have hl := E.len u
  exact LL.storeP i 0 ts[i] u ho hx hy (by rw [hz, hl]) (by rw [hoff]; rfl) E hr (List.getElem?_eq_getElem hi) (by rw [hl]; omega) (by rw [List.take_zero, List.nil_append, List.drop_of_length_le (by rw [E.len, hl]; omega), List.append_nil]) (E.one u) hd hg kk
/-- One cell of an element of a row, stored anew. -/
theorem LL.store1 {x y : Operand} {t : TypeId} {g off : Nat} {ts : List α} {v : Value} (i c : Nat) (s u : α) (ho : o.op = .store t x y) (hx : evM M x = some (.pointer (some ⟨g, off, none⟩))) (hy : evM M y = some v) (hz : szB P t = some 1) (hoff : off = i * k + c) (E : Enc enc k)
    (hr : RowL w g e (ts.flatMap enc)) (hs : ts[i]? = some s) (hc : c < k) (hu : enc u = (enc s).set c v) (h1 : v.oneCell' = true) (hcs : v.cells = #[v]) (hd : o.dst = none) (hg : wantB ops M o.guard = some true)
    (kk : ∀ w', RowL w' g e ((ts.set i u).flatMap enc) → w.grownBy w' (some g) → w'.heap.size = w.heap.size → LL r P ops Q n D M rest w') : LL r P ops Q n D M (o :: rest) w := by
  have hi : i < ts.length := (List.getElem?_eq_some_iff.1 hs).1
  have hin : i * k + k ≤ ts.length * k := by
    have : (i + 1) * k ≤ ts.length * k := Nat.mul_le_mul_right _ hi
    rw [Nat.add_mul] at this
    omega
  have hf := E.flat ts
  subst hoff
  refine LL.store ho hx hy hz hr (by omega) h1 hcs hd hg ?_
  intro w' r' g' z'
  refine kk w' ?_ g' z'
  rw [← E.setF ts i c s u v hs hc hu]
  exact r'
/-- A part of an element of a slice of one's own, stored anew. -/
theorem LL.storeFs {x y : Operand} {t : TypeId} {base g off N cap : Nat} {ts : List α} {vs : List Value} (i c : Nat) (s u : α) (ho : o.op = .store t x y) (hx : evM M x = some (.pointer (some ⟨g, off, none⟩))) (hy : evM M y = some (.agg vs.toArray)) (hz : szB P t = some vs.length) (hoff : off = i * k + c) (E : Enc enc k)
    (hown : OwnsT enc k w base e (.slice (some ⟨g, 0, none⟩) N cap) ts) (hs : ts[i]? = some s) (hc : c + vs.length ≤ k) (hu : enc u = (enc s).take c ++ vs ++ (enc s).drop (c + vs.length)) (h1 : ∀ v ∈ vs, v.oneCell' = true) (hd : o.dst = none) (hg : wantB ops M o.guard = some true)
    (kk : ∀ w', OwnsT enc k w' base e (.slice (some ⟨g, 0, none⟩) N cap) (ts.set i u) → w.grownBy w' (some g) → w'.heap.size = w.heap.size → LL r P ops Q n D M rest w') : LL r P ops Q n D M (o :: rest) w := by
  rcases id hown.2 with ⟨e1, _⟩ | ⟨g', cap', cur, e1, hbg, hg', hnc, hcm, hcs', htake⟩
  · cases e1
  · cases e1
    have hrow : RowL w g e cur.toList := hg'
    have hi : i < ts.length := (List.getElem?_eq_some_iff.1 hs).1
    have hin : i * k + k ≤ ts.length * k := by
      have : (i + 1) * k ≤ ts.length * k := Nat.mul_le_mul_right _ hi
      rw [Nat.add_mul] at this
      omega
    have hck : ts.length * k ≤ cap * k := Nat.mul_le_mul_right _ hnc
    have hcl : cur.toList.length = cap * k := by simpa using hcs'
    have hf := E.flat ts
    subst hoff
    refine LL.storeN (vs := vs) ho hx hy hz hrow (by omega) h1 hd hg ?_
    intro w' r' g' z'
    refine kk w' ⟨E.flat _, .inr ⟨g, cap, _, by rw [List.length_set], hbg, r', by rw [List.length_set]; exact hnc, hcm, ?_, ?_⟩⟩ g' z'
    · simp only [List.size_toArray, List.length_append, List.length_take, List.length_drop, hcl]
      omega
    · rw [List.length_set, ← E.setN ts i c s u vs hs hc hu]
      have hcur : cur.toList = ts.flatMap enc ++ cur.toList.drop (ts.length * k) := by rw [← htake, List.take_append_drop]
      have hsp := set_part (ts.flatMap enc) (cur.toList.drop (ts.length * k)) vs (i * k + c) vs.length rfl (by omega)
      rw [← hcur, hf] at hsp
      simp only [List.toList_toArray]
      exact hsp
/-- A row that is made, as a slice of one's own without elements. -/
theorem RowL.own0 {g cap base : Nat} {xs : List Value} (h : RowL w g e xs) (hl : xs.length = cap * k) (hb : base ≤ g) (hc : cap ≤ maxLen) : OwnsT enc k w base e (.slice (some ⟨g, 0, none⟩) 0 cap) [] :=
  ⟨by simp, .inr ⟨g, cap, xs.toArray, rfl, hb, h, Nat.zero_le _, hc, by simpa using hl, by simp⟩⟩
theorem OwnsT.vlen {base m cap : Nat} {a : Option Addr} {ts : List α} (h : OwnsT enc k w base e (.slice a m cap) ts) : ts.length = m := by
  rcases h.2 with ⟨e1, h0⟩ | ⟨g', cap', cur, e1, _⟩
  · simp only [Value.slice.injEq] at e1
    omega
  · simp only [Value.slice.injEq] at e1
    exact e1.2.1.symm
/-- append(s, x...) where there is room. -/
theorem LL.appendF {xs : Array Operand} {base g m cap : Nat} {vx : Value} {ts us : List α} (ho : o.op = .call { callee := .builtin .append, args := xs, argTypes := #[T, T] }) (hx : evsM M xs.toList = some [.slice (some ⟨g, 0, none⟩) m cap, vx]) (E : Enc enc k) (I : ElT P T e z k bytes) (hown : OwnsT enc k w base e (.slice (some ⟨g, 0, none⟩) m cap) ts) (hr : ReadsT enc k w vx us)
    (l : Nat) (hlu : us.length = l) (hne : 0 < l) (hroom : m + l ≤ cap) (hd : dstB n o.dst = true) (hg : wantB ops M o.guard = some true)
    (c : ∀ w', OwnsT enc k w' base e (.slice (some ⟨g, 0, none⟩) (m + l) cap) (ts ++ us) → w.grownBy w' (some g) → LL r P ops Q n D (putM M o.dst (.slice (some ⟨g, 0, none⟩) (m + l) cap)) rest w') : LL r P ops Q n D M (o :: rest) w := by
  have hlen := hown.vlen
  obtain ⟨i, hi, hz, hsz, hby⟩ := I.info
  obtain ⟨a, cap2, rfl, hc, hcell⟩ := hr
  obtain ⟨b, off, rfl, _, hh⟩ := hcell (by rintro rfl; simp at hlu; omega)
  subst hlu
  have hnews : ∀ j u, (us.flatMap enc)[j]? = some u → w.cell? ((⟨b, off, none⟩ : Addr).add j) = some u := fun j u hj => by
    have hjl : j < us.length * k := by
      have := (List.getElem?_eq_some_iff.1 hj).1
      rwa [E.flat] at this
    rw [Addr.add_lit, hh j hjl, hj]
  have hown' : w.ownsRow base e k (.slice (some ⟨g, 0, none⟩) m cap) m (ts.flatMap enc) := by
    have := hown
    unfold OwnsT at this
    rwa [hlen] at this
  obtain ⟨w', h1, h2, h3⟩ := run_append_fits (P := P) (w := w) base T o.type e i k I.under hi hsz g m cap _ hown' ⟨b, off, none⟩ us.length cap2 (us.flatMap enc) (E.flat us) hnews (E.ones us) hroom
  refine LL.val (v := .slice (some ⟨g, 0, none⟩) (m + us.length) cap) (R.builtin ho hx fun b => ?_) hd (by rw [ho]; rfl) hg (c w' ?_ h3)
  · unfold builtin
    simp only [Sem.run_bind, h1, Result.andThen_ok, Sem.run_pure]
  · unfold OwnsT
    rw [List.length_append, hlen, List.flatMap_append]
    exact h2
/-- A store of all of a row. -/
theorem LL.storeAll {x y : Operand} {t : TypeId} {g m : Nat} {vs xs : List Value} (ho : o.op = .store t x y) (hx : evM M x = some (.pointer (some ⟨g, 0, none⟩))) (hy : evM M y = some (.agg vs.toArray)) (hz : szB P t = some m) (hl : vs.length = m) (hr : RowL w g e xs) (hxl : xs.length = m) (h1 : ∀ v ∈ vs, v.oneCell' = true) (hd : o.dst = none) (hg : wantB ops M o.guard = some true)
    (kk : ∀ w', RowL w' g e vs → w.grownBy w' (some g) → w'.heap.size = w.heap.size → LL r P ops Q n D M rest w') : LL r P ops Q n D M (o :: rest) w := by
  refine LL.storeN (vs := vs) ho hx hy (by rw [hz, hl]) hr (by omega) h1 hd hg ?_
  intro w' r' g' z'
  refine kk w' ?_ g' z'
  have e1 : xs.take 0 ++ vs ++ xs.drop (0 + vs.length) = vs := by
    rw [List.drop_of_length_le (by omega)]
    simp
  first
    | (rw [← e1]; exact r')
    | (have := r'; simp only [List.take_zero, List.nil_append, Nat.zero_add] at this; rw [List.drop_of_length_le (by omega), List.append_nil] at this; exact this)
end
end Go.Proofs.Ytajfffoaebjnlaa
