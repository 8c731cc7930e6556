/- plan: numbered, an iterator over acts, each with how many stores are ahead of it; Each. -/
import Derived.Test.YtcmgpfahpmkeoaaChk
import Derived.Test.YtcmgpfahpmkeoaaSeqZ
namespace Go.Proofs.Ytcmgpfahpmkeoaa
set_option linter.unusedVariables false
set_option linter.unusedSimpArgs false
open Go.RowKit Go.Shelf

def cntS (l : List Ac) : Nat := (l.filter fun a => decide (a.1 = 1)).length
def encN (x : Nat × Ac) : List Value := [.int .i64 (x.1 : Int), .agg (aE x.2).toArray]
def preN (l : List Ac) : Nat → List (Nat × Ac)
  | 0 => []
  | k + 1 => preN l k ++ (match l[k]? with | some a => [(cntS (l.take k), a)] | none => [])
def numL (l : List Ac) : List (Nat × Ac) := preN l l.length
theorem preN_step {l : List Ac} {k : Nat} {a : Ac} (h : l[k]? = some a) : preN l (k + 1) = preN l k ++ [(cntS (l.take k), a)] := by
  show preN l k ++ _ = _
  rw [h]
theorem preN_len {l : List Ac} : ∀ {k : Nat}, k ≤ l.length → (preN l k).length = k
  | 0, _ => rfl
  | k + 1, h => by
    obtain ⟨a, ha⟩ : ∃ a, l[k]? = some a := ⟨_, List.getElem?_eq_getElem (by omega)⟩
    rw [preN_step ha, List.length_append, preN_len (by omega)]
    rfl
theorem preN_pre (l : List Ac) : ∀ d k : Nat, k + d = l.length → preN l k <+: numL l
  | 0, k, h => by unfold numL; rw [show k = l.length by omega]; exact List.prefix_refl _
  | d + 1, k, h => by
    obtain ⟨a, ha⟩ : ∃ a, l[k]? = some a := ⟨_, List.getElem?_eq_getElem (by omega)⟩
    have := preN_pre l d (k + 1) (by omega)
    rw [preN_step ha] at this
    exact (List.prefix_append _ _).trans this
theorem cntS_snoc {l : List Ac} {k : Nat} {a : Ac} (h : l[k]? = some a) : cntS (l.take (k + 1)) = cntS (l.take k) + if a.1 = 1 then 1 else 0 := by
  unfold cntS
  rw [List.take_add_one, h, List.filter_append, List.length_append]
  simp only [Option.toList_some]
  by_cases h1 : a.1 = 1 <;> simp [List.filter, h1]
theorem cntS_le (l : List Ac) : cntS l ≤ l.length := List.length_filter_le _ _
/-- A beginning of what numbered gives. -/
theorem numL_part {l : List Ac} {pre : List (Nat × Ac)} {x : Nat × Ac} (h : Part (fun xs => xs = numL l) (pre ++ [x])) : pre.length < l.length ∧ l[pre.length]? = some x.2 ∧ x.1 = cntS (l.take pre.length) ∧ pre = preN l pre.length := by
  obtain ⟨_, rfl, hp⟩ := h
  have hlen := hp.length_le
  unfold numL at hlen
  rw [preN_len (Nat.le_refl _), List.length_append] at hlen
  simp only [List.length_cons, List.length_nil] at hlen
  obtain ⟨a, ha⟩ : ∃ a, l[pre.length]? = some a := ⟨_, List.getElem?_eq_getElem (by omega)⟩
  have h2 := preN_pre l (l.length - (pre.length + 1)) (pre.length + 1) (by omega)
  have e : pre ++ [x] = preN l (pre.length + 1) := by
    have l1 : (pre ++ [x]).length = (preN l (pre.length + 1)).length := by rw [preN_len (by omega)]; simp
    exact (List.prefix_of_prefix_length_le hp h2 (by omega)).eq_of_length l1
  rw [preN_step ha] at e
  obtain ⟨e1, e2⟩ := List.append_inj' e rfl
  simp only [List.cons.injEq, and_true] at e2
  exact ⟨by omega, by rw [e2]; exact ha, by rw [e2], e1⟩
/-- The blocks that a slice's elements lie in. -/
def atD (v : Value) : Nat → Prop := fun k => ∃ off n cap, v = .slice (some ⟨k, off, none⟩) n cap ∧ 0 < n
theorem ReadsT.keepD {α : Type} {enc : α → List Value} {k : Nat} {w w' : World} {v : Value} {ts : List α} (h : ReadsT enc k w v ts) (hk : Keeps (atD v) w w') : ReadsT enc k w' v ts := by
  obtain ⟨a, cap, e, hc, h'⟩ := h
  refine ⟨a, cap, e, hc, fun hne => ?_⟩
  obtain ⟨b, off, ha, hlt, hcell⟩ := h' hne
  have hb : atD v b := ⟨off, ts.length, cap, by rw [e, ha], List.length_pos_iff.2 hne⟩
  exact ⟨b, off, ha, Nat.lt_of_lt_of_le hlt hk.size, fun j hj => (World.cell?_of_block (hk.same b hb)).trans (hcell j hj)⟩
theorem ReadsT.atD_lt {α : Type} {enc : α → List Value} {k : Nat} {w : World} {v : Value} {ts : List α} (h : ReadsT enc k w v ts) : ∀ j, atD v j → j < w.heap.size := by
  rintro j ⟨off, n, cap, e, hn⟩
  obtain ⟨a, cap', e', hc, h'⟩ := h
  rw [e] at e'
  simp only [Value.slice.injEq] at e'
  obtain ⟨e1, e2, e3⟩ := e'
  obtain ⟨b, off', ha, hlt, _⟩ := h' (by intro h0; rw [h0] at e2; simp at e2; omega)
  rw [← e1] at ha
  cases ha
  exact hlt

set_option maxRecDepth 100000 in
set_option maxHeartbeats 4000000 in
theorem numbered_gives (b : Nat) (v : Value) (l : List Ac) (w : World) (hc : RowL w b 24 [v]) (ha : ReadsT aE 3 w v l) (hl : l.length ≤ 4194304) :
    GivesZ Try.prog 50 [Value.pointer (some ⟨b, 0, none⟩)].toArray (fun x => (encN x).toArray) (atD v) (fun xs => xs = numL l) w := by
  intro lp J Jx W hW hJ hJx hY h0
  have hcW := hc.up hW
  have haW := ha.up hW
  obtain ⟨N, hN⟩ : ∃ N, l.length = N := ⟨_, rfl⟩
  obtain ⟨a, cap, rfl, hcp⟩ := ha.form hN
  rw [hN] at hl
  rw [show (#[.func (.yield lp) #[] #[]] ++ [Value.pointer (some ⟨b, 0, none⟩)].toArray : Array Value) = #[.func (.yield lp) #[] #[], .pointer (some ⟨b, 0, none⟩)] from rfl]
  have c0 := hcW.cell (j := 0) rfl
  refine X.fn Try.func50 rfl (n := 23) rfl rfl ?_
  (refine CC.seq ?_; refine CC.region ?_; refine LL.val (R.assign rfl rfl) rfl rfl rfl ?_; refine LL.nilS ?_; refine CC.seq ?_; refine CC.region ?_; refine LL.val (R.load rfl rfl (I.ld1 rfl (by assumption))) rfl rfl rfl ?_; refine LL.val (R.len rfl rfl rfl rfl) rfl rfl rfl ?_; refine LL.val (R.move rfl rfl) rfl rfl rfl ?_; refine LL.nilS ?_; refine CC.block ?_)
  refine CC.loop (α := Nat × (Nat → Prop)) (fun s => [(0, .func (.yield lp) #[] #[]), (3, .int .i64 (cntS (l.take s.1) : Int)), (6, .slice a N cap), (7, .int .i64 (N : Int)), (8, .int .i64 (s.1 : Int))]) (fun s wr => s.1 ≤ N ∧ W.heap.size ≤ wr.heap.size ∧ J s.2 (preN l s.1) wr ∧ (∀ k, s.2 k → W.heap.size ≤ k ∧ k < wr.heap.size) ∧ ReadsT aE 3 wr (.slice a N cap) l) (fun s => N - s.1) (0, fun _ => False) ⟨rfl, rfl, rfl, rfl, rfl, trivial⟩ ⟨by show 0 ≤ N; omega, Nat.le_refl _, h0, fun k hk => hk.elim, haW⟩ ?_
  rintro ⟨k, m⟩ wr ⟨hk, hz, hJk, hm, har⟩
  simp only at hk hJk hm
  show CC none Try.prog _ 23 [] (sl [(0, .func (.yield lp) #[] #[]), (3, .int .i64 (cntS (l.take k) : Int)), (6, .slice a N cap), (7, .int .i64 (N : Int)), (8, .int .i64 (k : Int))]) _ wr
  by_cases hlt : k < N
  · obtain ⟨x, hx⟩ : ∃ x, l[k]? = some x := ⟨_, List.getElem?_eq_getElem (by omega)⟩
    obtain ⟨bk, off, rfl, hbl, hcs⟩ := har.get aEnc hx
    have hst := preN_step hx
    have hcn := cntS_snoc hx
    have hcl := cntS_le (l.take k)
    rw [List.length_take] at hcl
    have hpart : Part (fun xs => xs = numL l) (preN l k ++ [(cntS (l.take k), x)]) := ⟨_, rfl, by rw [← hst]; exact preN_pre l (N - (k + 1)) (k + 1) (by omega)⟩
    (refine CC.seq ?_; refine CC.region ?_; refine LL.val (R.ltT rfl rfl rfl (by omega)) rfl rfl rfl ?_; refine LL.nilS ?_; refine CC.seq ?_; refine CC.yes rfl ?_; refine CC.skip ?_; refine EE.thenN ?_; refine CC.seq ?_; refine CC.block ?_; refine CC.seq ?_; refine CC.region ?_; refine LL.val (R.index rfl rfl rfl (I.ixS rfl (by omega))) rfl rfl rfl ?_)
    refine LL.val (R.load rfl rfl (I.ldN (vs := aE x) rfl rfl hcs)) rfl rfl rfl ?_
    refine LL.alloc [.int .i64 0, .int .i64 0, .int .u64 0] rfl rfl rfl rfl rfl ?_
    intro W2 g eg r zg b2
    skip
    refine LL.storeN (vs := aE x) rfl rfl rfl rfl r (Nat.le_of_ble_eq_true rfl) (aEnc.one _) rfl rfl ?_
    intro W3 r gr z3
    replace r : RowL W3 g 38 (aE x) := r
    have b3 : Below wr.heap.size wr W3 := b2.grown gr b2.size (by rintro k ⟨⟩; omega)
    have y3 := b3.size
    have hgl := r.lt
    have hJ3 : J (fun j => m j ∨ j = g) (preN l k) W3 := hJ _ _ _ _ _ hJk (.of_below b3) (fun j hj => hj.imp_right fun e => by omega)
    have hm3 : ∀ j, (m j ∨ j = g) → W.heap.size ≤ j ∧ j < W3.heap.size := fun j hj => by
      rcases hj with hj | rfl
      · have := hm j hj; omega
      · omega
    have har3 := har.up b3
    (refine LL.nilS ?_; refine CC.seq ?_; refine CC.seq ?_; refine CC.region ?_; refine LL.val (R.move rfl rfl) rfl rfl rfl ?_; refine LL.val (R.move rfl rfl) rfl rfl rfl ?_)
    refine LL.val (R.load rfl rfl (I.ldN (vs := aE x) rfl rfl (r.cells rfl))) rfl rfl rfl ?_
    refine LL.yield (vs := encN (cntS (l.take k), x)) rfl rfl rfl rfl rfl (hY _ _ (cntS (l.take k), x) W3 hm3 hJ3 hpart) ?_
    rintro e W4 ⟨hs4, (⟨rfl, hJ4, hb4⟩ | ⟨rfl, hJx4⟩)⟩
    · refine ⟨_, rfl, ?_⟩
      have r4 := hs4.row r (by omega) (.inr rfl)
      have har4 := har3.keepD hb4
      have y4 := hs4.size
      have c1 := r4.cell (j := 0) rfl
      obtain ⟨kx, rest⟩ := x
      simp only at hcn
      by_cases h1 : kx = 1
      · subst h1
        rw [if_pos rfl] at hcn
        (refine LL.val (R.not rfl rfl) rfl rfl rfl ?_; refine LL.nilS ?_; refine CC.no rfl ?_; refine CC.skip ?_; refine EE.thenN ?_; refine CC.seq ?_; refine CC.region ?_; refine LL.val (R.field rfl rfl (I.fld rfl)) rfl rfl rfl ?_; refine LL.val (R.load rfl rfl (I.ld1 rfl (by assumption))) rfl rfl rfl ?_; refine LL.val (R.eqT rfl rfl rfl (by omega)) rfl rfl rfl ?_; refine LL.nilS ?_; refine CC.yes rfl ?_; refine CC.region ?_; refine LL.val (R.move rfl rfl) rfl rfl rfl ?_; refine LL.val (R.addNc rfl rfl rfl rfl (by omega)) rfl rfl rfl ?_; refine LL.val (R.assign rfl rfl) rfl rfl rfl ?_; refine LL.nil ?_; refine EE.inN ?_; refine EE.thenN ?_; refine CC.region ?_; refine LL.val (R.addNc rfl rfl rfl rfl (by omega)) rfl rfl rfl ?_; refine LL.val (R.move rfl rfl) rfl rfl rfl ?_; refine LL.nil ?_)
        refine EE.round (k + 1, fun j => m j ∨ j = g) ⟨rfl, by rw [hcn]; rfl, rfl, rfl, rfl, trivial⟩ ⟨by show k + 1 ≤ N; omega, by omega, by rw [hst]; exact hJ4, fun j hj => by have := hm3 j hj; omega, har4⟩ (by show N - (k + 1) < N - k; omega)
      · rw [if_neg h1, Nat.add_zero] at hcn
        (refine LL.val (R.not rfl rfl) rfl rfl rfl ?_; refine LL.nilS ?_; refine CC.no rfl ?_; refine CC.skip ?_; refine EE.thenN ?_; refine CC.seq ?_; refine CC.region ?_; refine LL.val (R.field rfl rfl (I.fld rfl)) rfl rfl rfl ?_; refine LL.val (R.load rfl rfl (I.ld1 rfl (by assumption))) rfl rfl rfl ?_; refine LL.val (R.eqF rfl rfl rfl (by omega)) rfl rfl rfl ?_; refine LL.nilS ?_; refine CC.no rfl ?_; refine CC.skip ?_; refine EE.inN ?_; refine EE.thenN ?_; refine CC.region ?_; refine LL.val (R.addNc rfl rfl rfl rfl (by omega)) rfl rfl rfl ?_; refine LL.val (R.move rfl rfl) rfl rfl rfl ?_; refine LL.nil ?_)
        refine EE.round (k + 1, fun j => m j ∨ j = g) ⟨rfl, by rw [hcn]; rfl, rfl, rfl, rfl, trivial⟩ ⟨by show k + 1 ≤ N; omega, by omega, by rw [hst]; exact hJ4, fun j hj => by have := hm3 j hj; omega, har4⟩ (by show N - (k + 1) < N - k; omega)
    · refine ⟨_, rfl, ?_⟩
      (refine LL.val (R.not rfl rfl) rfl rfl rfl ?_; refine LL.nilS ?_; refine CC.yes rfl ?_; refine CC.ret ?_; refine EE.thenR ?_; refine EE.inR ?_; refine EE.thenR ?_; refine EE.thenR ?_; refine EE.inR ?_)
      refine EE.ret [] rfl rfl ?_
      exact ⟨⟨_, rfl⟩, .inr ⟨_, _, hpart, hJx4⟩⟩
  · obtain rfl : k = N := by omega
    (refine CC.seq ?_; refine CC.region ?_; refine LL.val (R.ltF rfl rfl rfl (by omega)) rfl rfl rfl ?_; refine LL.nilS ?_; refine CC.seq ?_; refine CC.no rfl ?_; refine CC.exit ?_; refine EE.thenX ?_; refine EE.thenX ?_; refine EE.inX ?_)
    refine EE.end [] rfl rfl ?_
    exact ⟨⟨_, rfl⟩, .inl ⟨_, _, rfl, by unfold numL; rw [hN]; exact hJk⟩⟩
set_option maxRecDepth 100000 in
theorem numbered_any (v : Value) (l : List Ac) (w : World) (ha : ReadsT aE 3 w v l) : Calls Try.prog 30 #[v] w fun e w' => ∃ b, e = .returned (.func (.func 50) #[] [Value.pointer (some ⟨b, 0, none⟩)].toArray) ∧ RowL w' b 24 [v] ∧ w.heap.size ≤ b ∧ Below w.heap.size w w' := by
  obtain ⟨a, cap, rfl, hcp⟩ := ha.form rfl
  have q := Below.refl w.heap.size w
  refine X.fn Try.func30 rfl (n := 4) rfl rfl ?_
  (refine CC.seq ?_; refine CC.region ?_)
  refine LL.box [.slice a l.length cap] rfl rfl rfl rfl rfl ?_
  intro W g eg r zg b
  have hsz_ := b.size
  replace q := q.trans (b.mono q.size)
  (refine LL.val (R.assign rfl rfl) rfl rfl rfl ?_; refine LL.nilS ?_; refine CC.seq ?_; refine CC.region ?_; refine LL.val (R.func rfl rfl rfl) rfl rfl rfl ?_; refine LL.val (R.assign rfl rfl) rfl rfl rfl ?_; refine LL.nilS ?_; refine CC.ret ?_)
  refine EE.ret _ rfl rfl ?_
  exact ⟨g, rfl, r, by omega, q⟩
set_option maxRecDepth 100000 in
set_option maxHeartbeats 2000000 in
theorem each_any (va : Value) (l : List Pt) (w : World) (ha : ReadsT pE 2 w va l) (hl : l.length ≤ 1048576) (hw : ∀ p ∈ l, p.1 ≤ 9223372036854775807) :
    Calls Try.prog 9 #[va] w fun e w' => ∃ b v, e = .returned (.func (.func 50) #[] [Value.pointer (some ⟨b, 0, none⟩)].toArray) ∧ RowL w' b 24 [v] ∧ ReadsT aE 3 w' v (orderP l) ∧ w.heap.size ≤ b ∧ Below w.heap.size w w' := by
  obtain ⟨a, cap, rfl, hcp⟩ := ha.form rfl
  have q := Below.refl w.heap.size w
  refine X.fn Try.func9 rfl (n := 12) rfl rfl ?_
  (refine CC.seq ?_; refine CC.region ?_; refine LL.val (R.assign rfl rfl) rfl rfl rfl ?_; refine LL.nilS ?_; refine CC.seq ?_; refine CC.region ?_; refine LL.val (R.move rfl rfl) rfl rfl rfl ?_)
  refine LL.call (R.call rfl rfl rfl) rfl rfl rfl (order_any _ _ _ ha hl hw) ?_
  rintro e W ⟨v, rfl, o, b⟩
  refine ⟨_, rfl, ?_⟩
  have hsz_ := b.size
  replace q := q.trans (b.mono q.size)
  have rd := o.reads aEnc
  obtain ⟨a', cap', rfl, _⟩ := rd.form rfl
  (refine LL.val (R.move rfl rfl) rfl rfl rfl ?_; refine LL.val (R.extract rfl rfl rfl) rfl rfl rfl ?_; refine LL.val (R.extract rfl rfl rfl) rfl rfl rfl ?_; refine LL.val (R.assign rfl rfl) rfl rfl rfl ?_; refine LL.val (R.assign rfl rfl) rfl rfl rfl ?_; refine LL.nilS ?_; refine CC.seq ?_; refine CC.region ?_; refine LL.val (R.move rfl rfl) rfl rfl rfl ?_)
  refine LL.call (R.call rfl rfl rfl) rfl rfl rfl (numbered_any _ _ _ rd) ?_
  rintro e W ⟨g, rfl, r, hg, b⟩
  refine ⟨_, rfl, ?_⟩
  have hsz_ := b.size
  replace q := q.trans (b.mono q.size)
  replace rd := rd.up b
  (refine LL.val (R.assign rfl rfl) rfl rfl rfl ?_; refine LL.nilS ?_; refine CC.ret ?_)
  refine EE.ret _ rfl rfl ?_
  exact ⟨g, _, rfl, r, rd, by have := q.size; omega, q⟩
end Go.Proofs.Ytcmgpfahpmkeoaa
