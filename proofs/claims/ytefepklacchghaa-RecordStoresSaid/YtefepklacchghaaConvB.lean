/- []byte(s); shifts to the left. Over any program. -/
import Derived.Test.YtefepklacchghaaTWalk
import Derived.Test.YtefepklacchghaaBs
import Derived.Lib.ConvBytes
namespace Go.Proofs.Ytefepklacchghaa
set_option linter.unusedVariables false
set_option linter.unusedSimpArgs false
open Go.RowKit Go.Shelf
/-- A string's bytes, as numbers. -/
def nbL (l : Bs) : List Nat := l.map UInt8.toNat
theorem nbL_len (l : Bs) : (nbL l).length = l.length := by simp [nbL]
theorem nbL_lt (l : Bs) : ∀ x ∈ nbL l, x < 256 := by
  intro x hx
  obtain ⟨c, _, rfl⟩ := List.mem_map.1 hx
  exact c.toNat_lt
section
variable {P : Program} {w : World} {t u e : TypeId} {ud : TypeDesc} {o : Oper} {x y : Operand} {n i : Nat} {D : List Deferred} {M : Slots} {ops : Array Oper} {rest : List Oper} {r : Option Nat} {Q : Exit → Act → World → Prop} {ok : World → Prop} {K : Slots → World → Prop}
theorem conv_bytes (l : Bs) (hs : P.underlying t = some ud) (hd : P.underlying u = some (.slice e)) (he : P.underlying e = some (.int .u8)) : ∃ v w1, (convert t u (strV l)).run P w = .ok v w1 ∧ Reads w1 v (ints .u8 (nbL l)) ∧ Below w.heap.size w w1 ∧ ∃ c, v = .slice (some ⟨w.heap.size, 0, none⟩) l.length c := by
  refine ⟨_, _, Lib.run_convert_string_bytes w t u e ⟨l.toArray⟩ hs hd he, ?_, ?_, _, rfl⟩
  · refine ⟨some ⟨w.heap.size, 0, none⟩, grownCap w l.length 0 e, by simp [nbL, ByteArray.size], ?_, fun _ => ⟨w.heap.size, 0, rfl, ?_, fun j hj => ?_⟩⟩
    · simp only [List.length_map, nbL_len]
      exact grownCap_ge w l.length 0 e
    · rw [Lib.bytesWorld_size]; omega
    · simp only [List.length_map, nbL_len] at hj
      have := Lib.bytesWorld_cell w e ⟨l.toArray⟩ j (by simpa [ByteArray.size] using hj)
      rw [Nat.zero_add, this]
      simp [ints, nbL, hj]
  · exact ⟨rfl, rfl, rfl, by rw [Lib.bytesWorld_size]; omega, fun k hk => Lib.bytesWorld_at_old w e _ k hk⟩
theorem LL.strBytes (l : Bs) (ho : o.op = .convert t u x) (hx : evM M x = some (strV l)) (hs : P.underlying t = some ud) (hd : P.underlying u = some (.slice e)) (he : P.underlying e = some (.int .u8)) (hdst : dstB n o.dst = true) (hg : wantB ops M o.guard = some true)
    (k : ∀ v w1 c, v = .slice (some ⟨w.heap.size, 0, none⟩) l.length c → Reads w1 v (ints .u8 (nbL l)) → Below w.heap.size w w1 → LL r P ops Q n D (putM M o.dst v) rest w1) : LL r P ops Q n D M (o :: rest) w := by
  obtain ⟨v, w1, h1, h2, h3, c, h4⟩ := conv_bytes (w := w) l hs hd he
  exact LL.val (R.conv ho hx h1) hdst (by rw [ho]; rfl) hg (k v w1 c h4 h2 h3)
theorem ZR.strBytes (l : Bs) (hi : ops[i]? = some o) (ho : o.op = .convert t u x) (hx : evM M x = some (strV l)) (hs : P.underlying t = some ud) (hd : P.underlying u = some (.slice e)) (he : P.underlying e = some (.int .u8)) (hdst : dstB n o.dst = true) (hg : wantB ops M o.guard = some true)
    (k : ∀ v w1 c, v = .slice (some ⟨w.heap.size, 0, none⟩) l.length c → Reads w1 v (ints .u8 (nbL l)) → Below w.heap.size w w1 → ok w1 ∧ K (putM M o.dst v) w1) : SR P ops ok i K n D M w := by
  obtain ⟨v, w1, h1, h2, h3, c, h4⟩ := conv_bytes (w := w) l hs hd he
  have h := k v w1 c h4 h2 h3
  exact SR.val hi (R.conv ho hx h1) hdst hg h.1 h.2
/-- A shift to the left that loses nothing. -/
theorem R.shlE {a : Nat} {b z : Nat} {k2 : IntKind} (ho : o.op = .binOp .shl t x y u) (hx : evM M x = some (.int .u64 (a : Int))) (hy : evM M y = some (.int k2 (b : Int))) (hb : b < 64) (hz : a * 2 ^ b = z) (hl : z < 18446744073709551616) : Runs P n D M o w (.value (.int .u64 (z : Int))) w := R.bin ho hx hy (by
  subst hz
  have h1 : ¬ ((b : Int) < 0) := by omega
  have h2 : Nat.min b 64 = b := Nat.min_eq_left (by omega)
  have h5 : ((a : Int) * (2 : Int) ^ b) = ((a * 2 ^ b : Nat) : Int) := by simp
  have h4 : IntKind.u64.wrap ((a : Int) * (2 : Int) ^ b) = (a : Int) * (2 : Int) ^ b := by
    rw [h5]
    obtain ⟨q, hq⟩ : ∃ q : Nat, a * 2 ^ b = q := ⟨_, rfl⟩
    rw [hq] at hl ⊢
    exact IntWalk.u64_in _ (by omega)
  simp [eqGuard, binOp, Op.shift, h1, IntKind.bits, h2, h4])
theorem R.mulUE {a b z : Nat} (ho : o.op = .binOp .mul t x y u) (hx : evM M x = some (.int .u64 (a : Int))) (hy : evM M y = some (.int .u64 (b : Int))) (hz : a * b = z) (hl : z < 18446744073709551616) : Runs P n D M o w (.value (.int .u64 (z : Int))) w := by
  subst hz
  exact R.mulUN ho hx hy hl
theorem R.addUE {a b z : Nat} (ho : o.op = .binOp .add t x y u) (hx : evM M x = some (.int .u64 (a : Int))) (hy : evM M y = some (.int .u64 (b : Int))) (hz : a + b = z) (hl : z < 18446744073709551616) : Runs P n D M o w (.value (.int .u64 (z : Int))) w := by
  subst hz
  exact R.addUN ho hx hy hl
theorem or_add {a m : Nat} (h : a < 65536) : a ||| (65536 * m) = a + 65536 * m := by
  have : (65536 : Nat) = 2 ^ 16 := by decide
  rw [this, Nat.or_comm, ← Nat.two_pow_add_eq_or_of_lt (by omega), Nat.add_comm]
theorem R.orE {a b z : Nat} (ho : o.op = .binOp .or t x y u) (hx : evM M x = some (.int .u64 (a : Int))) (hy : evM M y = some (.int .u64 (b : Int))) (ha : a < 18446744073709551616) (hb : b < 18446744073709551616) (hz : a ||| b = z) : Runs P n D M o w (.value (.int .u64 (z : Int))) w := by
  subst hz
  exact R.orU ho hx hy ha hb
theorem Reads.kept {w' : World} {K : Nat → Prop} {b off len cap : Nat} {xs : List Value} (h : Reads w (.slice (some ⟨b, off, none⟩) len cap) xs) (hk : Kept K w w') (hb : K b) : Reads w' (.slice (some ⟨b, off, none⟩) len cap) xs := by
  obtain ⟨a, c, e, hc, hr⟩ := h
  refine ⟨a, c, e, hc, fun hx => ?_⟩
  obtain ⟨b', off', ea, hbl, hcell⟩ := hr hx
  simp only [Value.slice.injEq] at e
  rw [← e.1] at ea
  simp only [Option.some.injEq, Addr.mk.injEq] at ea
  obtain ⟨rfl, rfl, _⟩ := ea
  refine ⟨b, off, by rw [← e.1], Nat.lt_of_lt_of_le hbl hk.size, fun j hj => ?_⟩
  rw [← hcell j hj]
  exact World.cell?_of_block (hk.block b hb)
/-- A slice of one's own, of elements of one cell: told so that it is carried. -/
def OwnW (w : World) (base e : Nat) (v : Value) (m : Nat) (xs : List Value) : Prop := w.ownsRow base e 1 v m xs
theorem OwnW.up {w' : World} {base e m : Nat} {v : Value} {xs : List Value} (h : OwnW w base e v m xs) (hb : Below w.heap.size w w') : OwnW w' base e v m xs := by
  refine ⟨h.1, ?_⟩
  rcases h.2 with h2 | ⟨g', cap, cur, rfl, hbg, hg, h3⟩
  · exact .inl h2
  · exact .inr ⟨g', cap, cur, rfl, hbg, (hb.block g' (Array.getElem?_eq_some_iff.1 hg).1).trans hg, h3⟩
theorem OwnW.low {base base' e m : Nat} {v : Value} {xs : List Value} (h : OwnW w base' e v m xs) (hb : base ≤ base') : OwnW w base e v m xs := by
  refine ⟨h.1, ?_⟩
  rcases h.2 with h2 | ⟨g', cap, cur, rfl, hbg, h3⟩
  · exact .inl h2
  · exact .inr ⟨g', cap, cur, rfl, by omega, h3⟩
theorem OwnW.reads {base e m : Nat} {v : Value} {xs : List Value} (h : OwnW w base e v m xs) : Reads w v xs := reads_of_owns h
variable {T : TypeId} {z : Value} {bytes : Nat}
/-- append(s, x...) onto a row that is known. -/
theorem LL.appendL {xs : Array Operand} {g : Nat} {vx : Value} {us ys : List Value} (ho : o.op = .call { callee := .builtin .append, args := xs, argTypes := #[T, T] }) (hx : evsM M xs.toList = some [.slice (some ⟨g, 0, none⟩) us.length us.length, vx]) (I : El P T e z bytes) (hrow : RowL w g e us) (hr : Reads w vx ys) (hone : ∀ u ∈ ys, u.oneCell' = true)
    (h63 : us.length + ys.length ≤ maxLen) (hb : (us.length + ys.length) * bytes ≤ 140737488355328) (hd : dstB n o.dst = true) (hg : wantB ops M o.guard = some true)
    (k : ∀ v' w1, OwnW w1 g e v' (us.length + ys.length) (us ++ ys) → w.grownBy w1 (some g) → LL r P ops Q n D (putM M o.dst v') rest w1) : LL r P ops Q n D M (o :: rest) w :=
  LL.append ho hx I (RowL.owns (base := g) hrow (Nat.le_refl _) (by omega)) hr hone h63 hb (Nat.le_of_lt hrow.lt) hd hg fun v' w1 o1 g1 => k v' w1 o1 g1
theorem ZR.appendL {xs : Array Operand} {g : Nat} {vx : Value} {us ys : List Value} (hi : ops[i]? = some o) (ho : o.op = .call { callee := .builtin .append, args := xs, argTypes := #[T, T] }) (hx : evsM M xs.toList = some [.slice (some ⟨g, 0, none⟩) us.length us.length, vx]) (I : El P T e z bytes) (hrow : RowL w g e us) (hr : Reads w vx ys) (hone : ∀ u ∈ ys, u.oneCell' = true)
    (h63 : us.length + ys.length ≤ maxLen) (hb : (us.length + ys.length) * bytes ≤ 140737488355328) (hd : dstB n o.dst = true) (hg : wantB ops M o.guard = some true)
    (k : ∀ v' w1, OwnW w1 g e v' (us.length + ys.length) (us ++ ys) → w.grownBy w1 (some g) → ok w1 ∧ K (putM M o.dst v') w1) : SR P ops ok i K n D M w :=
  ZR.append hi ho hx I (RowL.owns (base := g) hrow (Nat.le_refl _) (by omega)) hr hone h63 hb (Nat.le_of_lt hrow.lt) hd hg fun v' w1 o1 g1 => k v' w1 o1 g1
end
end Go.Proofs.Ytefepklacchghaa
