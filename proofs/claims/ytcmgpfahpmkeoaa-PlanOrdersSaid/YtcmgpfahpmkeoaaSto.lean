/- plan.Stores. -/
import Derived.Test.YtcmgpfahpmkeoaaOrded
namespace Go.Proofs.Ytcmgpfahpmkeoaa
set_option linter.unusedVariables false
set_option linter.unusedSimpArgs false
open Go.RowKit Go.Shelf

section
variable {P : Program} {ops : Array Oper} {Q : Exit → Act → World → Prop} {ok : World → Prop} {n i : Nat} {D : List Deferred} {M : Slots} {w : World} {o : Oper} {t : TypeId} {K : Slots → World → Prop}
/-- A store of a whole value into a row that is known, as a step of a drawn region. -/
theorem SR.storeN {x y : Operand} {vs : List Value} {g off e : Nat} {xs : List Value} (hi : ops[i]? = some o) (ho : o.op = .store t x y) (hx : evM M x = some (.pointer (some ⟨g, off, none⟩))) (hy : evM M y = some (.agg vs.toArray)) (hz : szB P t = some vs.length) (hr : RowL w g e xs) (hl : off + vs.length ≤ xs.length) (h1 : ∀ u ∈ vs, u.oneCell' = true) (hd : o.dst = none) (hg : wantB ops M o.guard = some true)
    (c : ∀ w1, RowL w1 g e (xs.take off ++ vs ++ xs.drop (off + vs.length)) → w.grownBy w1 (some g) → w1.heap.size = w.heap.size → ok w1 ∧ K M w1) : SR P ops ok i K n D M w := SR.mk fun K' hK a F => by
  obtain ⟨w1, h2, h3, h4, h5⟩ := I.stN (t := t) hz hr hl h1
  have h := c _ h3 h4 h5
  unfold stepR
  simp only [hi]
  rw [if_pos (F.want hg)]
  refine .inr (.inl ⟨_, R.store ho hx hy h2 a F, h.1, ?_⟩)
  rw [hd]
  exact hK _ _ h.2 _ F

end
def putA (a : Ac) : Pt := (a.2.1, a.2.2)
def stoP (l : List Ac) : List Pt := (l.filter fun a => decide (a.1 = 1)).map putA
theorem stoP_snoc {l : List Ac} {i : Nat} {a : Ac} (h : l[i]? = some a) : stoP (l.take (i + 1)) = stoP (l.take i) ++ if a.1 = 1 then [putA a] else [] := by
  unfold stoP
  rw [List.take_add_one, h, List.filter_append, List.map_append]
  simp only [Option.toList_some]
  by_cases h1 : a.1 = 1 <;> simp [List.filter, h1]
theorem stoP_len (l : List Ac) : (stoP l).length ≤ l.length := by unfold stoP; rw [List.length_map]; exact List.length_filter_le _ _

set_option maxRecDepth 100000 in
set_option maxHeartbeats 4000000 in
theorem stores1_any (x : Ac) (w : World) :
    Calls Try.prog 32 #[.agg (aE x).toArray] w fun e w' => e = .returned (.tuple #[.agg (pE (putA x)).toArray, .bool (decide (x.1 = 1))]) ∧ Below w.heap.size w w' := by
  have q := Below.refl w.heap.size w
  refine X.fn Try.func32 rfl (n := 12) rfl rfl ?_
  (refine CC.seq ?_; refine CC.region ?_)
  refine LL.box (aE x) rfl rfl rfl rfl rfl ?_
  intro W g1 eg r1 zg b
  have hsz_ := b.size
  replace q := q.trans (b.mono q.size)
  skip
  refine LL.alloc [.int .i64 0, .int .u64 0] rfl rfl rfl rfl rfl ?_
  intro W g2 eg r2 zg b
  have hsz_ := b.size
  replace q := q.trans (b.mono q.size)
  replace r1 := r1.up b
  obtain ⟨W1, rfl⟩ : ∃ X, X = W := ⟨_, rfl⟩
  have hlt := r2.lt
  have h12 : g1 < g2 := by have := r1.lt; omega
  (refine LL.val (R.assign rfl rfl) rfl rfl rfl ?_; refine LL.nilS ?_; refine CC.seq ?_)
  obtain ⟨okP, hokP⟩ : ∃ okP : World → Prop, okP = fun W' => RowL W' g1 38 (aE x) := ⟨_, rfl⟩
  have okE : ∀ {W'}, okP W' → RowL W' g1 38 (aE x) := fun h => by rw [hokP] at h; exact h
  have hok : okP W1.drew := by rw [hokP]; exact r1.drew
  refine CC.phase okP 9 (by kernel_rfl) rfl (by kernel_rfl) rfl (by kernel_rfl) ?_
  (refine AA.pure 0 rfl (by assumption) (by kernel_rfl) (fun w' hw' => R.field rfl rfl (I.fld rfl)) rfl rfl ?_)
  refine AA.pure 1 rfl (by assumption) (by kernel_rfl) (fun w' hw' => R.load rfl rfl (I.ld1 rfl (RowL.cell (j := 1) (okE hw') rfl))) rfl rfl ?_
  (refine AA.pure 2 rfl (by assumption) (by kernel_rfl) (fun w' hw' => R.field rfl rfl (I.fld rfl)) rfl rfl ?_)
  refine AA.pure 3 rfl (by assumption) (by kernel_rfl) (fun w' hw' => R.load rfl rfl (I.ld1 rfl (RowL.cell (j := 2) (okE hw') rfl))) rfl rfl ?_
  refine AA.pure 4 rfl (by assumption) (by kernel_rfl) (fun w' hw' => R.buildV rfl rfl (v := .agg (pE (putA x)).toArray) (fun _ => by kernel_rfl)) rfl rfl ?_
  (refine AA.pure 5 rfl (by assumption) (by kernel_rfl) (fun w' hw' => R.field rfl rfl (I.fld rfl)) rfl rfl ?_)
  refine AA.pure 6 rfl (by assumption) (by kernel_rfl) (fun w' hw' => R.load rfl rfl (I.ld1 rfl (RowL.cell (j := 0) (okE hw') rfl))) rfl rfl ?_
  refine AA.pure 7 rfl (by assumption) (by kernel_rfl) (fun w' hw' => R.eqX (c := decide (x.1 = 1)) rfl rfl rfl rfl) rfl rfl ?_
  refine AA.one 8 (by kernel_rfl) ?_
  refine SR.storeN (vs := pE (putA x)) rfl rfl rfl rfl rfl r2.drew (Nat.le_of_ble_eq_true rfl) (pEnc.one _) rfl rfl ?_
  intro W3 r3 g3 z3
  replace r3 : RowL W3 g2 56 (pE (putA x)) := r3
  have r13 : RowL W3 g1 38 (aE x) := (okE hok).gr g3 (by omega)
  refine ⟨by rw [hokP]; exact r13, ?_⟩
  refine AA.done (by kernel_rfl) ?_
  refine EE.tailL ?_
  have q3 : Below w.heap.size w W3 := (q.trans ((below_drew (w := W1)).mono q.size)).grown g3 q.size (by rintro k ⟨⟩; omega)
  (refine LL.val (R.assign rfl rfl) rfl rfl rfl ?_; refine LL.nilS ?_; refine CC.ret ?_)
  refine EE.ret2 rfl ⟨_, rfl, lvN (vs := pE (putA x)) rfl rfl (r3.cells rfl)⟩ rfl ?_
  exact ⟨rfl, q3⟩

set_option maxRecDepth 100000 in
set_option maxHeartbeats 8000000 in
theorem stores_any (va : Value) (l : List Ac) (w : World) (ha : ReadsT aE 3 w va l) (hl : l.length ≤ 4194304) :
    Calls Try.prog 14 #[va] w fun e w' => ∃ v, e = .returned v ∧ OwnsT pE 2 w' w.heap.size 56 v (stoP l) ∧ Below w.heap.size w w' := by
  have q := Below.refl w.heap.size w
  obtain ⟨N, hN⟩ : ∃ N, l.length = N := ⟨_, rfl⟩
  have har := ha
  obtain ⟨a, cap, rfl, hc⟩ := ha.form hN
  rw [hN] at hl
  have hk : Calls Try.prog 31 #[.slice a N cap, .func (.func 32) #[] #[]] w fun e w' => ∃ v, e = .returned v ∧ OwnsT pE 2 w' w.heap.size 56 v (stoP l) ∧ Below w.heap.size w w' := by
    refine X.fn Try.func31 rfl (n := 29) rfl rfl ?_
    (refine CC.seq ?_; refine CC.region ?_; refine LL.val (R.assign rfl rfl) rfl rfl rfl ?_; refine LL.nilS ?_; refine CC.seq ?_; refine CC.region ?_; refine LL.val (R.assign rfl rfl) rfl rfl rfl ?_; refine LL.nilS ?_; refine CC.seq ?_; refine CC.seq ?_; refine CC.region ?_; refine LL.val (R.move rfl rfl) rfl rfl rfl ?_; refine LL.val (R.len rfl rfl rfl rfl) rfl rfl rfl ?_; refine LL.val (R.move rfl rfl) rfl rfl rfl ?_; refine LL.nilS ?_; refine CC.block ?_)
    refine CC.loop (α := Nat × Value) (fun s => [(1, .func (.func 32) #[] #[]), (5, s.2), (10, .slice a N cap), (11, .int .i64 (N : Int)), (12, .int .i64 (s.1 : Int))]) (fun s W => s.1 ≤ N ∧ Below w.heap.size w W ∧ OwnsT pE 2 W w.heap.size 56 s.2 (stoP (l.take s.1))) (fun s => N - s.1) (0, .slice none 0 0) ⟨rfl, rfl, rfl, rfl, rfl, trivial⟩ ⟨by show 0 ≤ N; omega, q, OwnsT.none _ _ _⟩ ?_
    rintro ⟨i, v⟩ W ⟨hi, q, o⟩
    simp only at hi o
    show CC none Try.prog _ 29 [] (sl [(1, .func (.func 32) #[] #[]), (5, v), (10, .slice a N cap), (11, .int .i64 (N : Int)), (12, .int .i64 (i : Int))]) _ W
    by_cases hlt : i < N
    case neg =>
      obtain rfl : i = N := by omega
      rw [← hN, List.take_length] at o
      (refine CC.seq ?_; refine CC.region ?_; refine LL.val (R.ltF rfl rfl rfl (by omega)) rfl rfl rfl ?_; refine LL.nilS ?_; refine CC.seq ?_; refine CC.no rfl ?_; refine CC.exit ?_; refine EE.thenX ?_; refine EE.thenX ?_; refine EE.inX ?_; refine EE.thenN ?_; refine CC.seq ?_; refine CC.region ?_; refine LL.val (R.move rfl rfl) rfl rfl rfl ?_; refine LL.val (R.assign rfl rfl) rfl rfl rfl ?_; refine LL.nilS ?_; refine CC.ret ?_)
      refine EE.ret _ rfl rfl ?_
      exact ⟨v, rfl, o, q⟩
    obtain ⟨x, hx⟩ : ∃ x, l[i]? = some x := ⟨_, List.getElem?_eq_getElem (by omega)⟩
    obtain ⟨bk, off, rfl, hbl, hcs⟩ := (har.up q).get aEnc hx
    have hsn := stoP_snoc hx
    have hsl := stoP_len (l.take i)
    rw [List.length_take] at hsl
    (refine CC.seq ?_; refine CC.region ?_; refine LL.val (R.ltT rfl rfl rfl (by omega)) rfl rfl rfl ?_; refine LL.nilS ?_; refine CC.seq ?_; refine CC.yes rfl ?_; refine CC.skip ?_; refine EE.thenN ?_; refine CC.seq ?_; refine CC.block ?_; refine CC.seq ?_; refine CC.region ?_; refine LL.val (R.index rfl rfl rfl (I.ixS rfl (by omega))) rfl rfl rfl ?_)
    refine LL.val (R.load rfl rfl (I.ldN (vs := aE x) rfl rfl hcs)) rfl rfl rfl ?_
    refine LL.alloc [.int .i64 0, .int .i64 0, .int .u64 0] rfl rfl rfl rfl rfl ?_
    intro W2 g eg r zg b
    skip
    refine LL.storeN (vs := aE x) rfl rfl rfl rfl r (Nat.le_of_ble_eq_true rfl) (aEnc.one _) rfl rfl ?_
    intro W3 r gr z3
    replace r : RowL W3 g 38 (aE x) := r
    have b3 : Below W.heap.size W W3 := b.grown gr b.size (by rintro k ⟨⟩; omega)
    have q3 := q.trans (b3.mono q.size)
    have o3 := o.up b3
    (refine LL.nilS ?_; refine CC.seq ?_; refine CC.region ?_; refine LL.val (R.move rfl rfl) rfl rfl rfl ?_)
    refine LL.val (R.load rfl rfl (I.ldN (vs := aE x) rfl rfl (r.cells rfl))) rfl rfl rfl ?_
    refine LL.call (R.callV rfl rfl rfl rfl) rfl rfl rfl (stores1_any x W3) ?_
    rintro e W4 ⟨rfl, b4⟩
    refine ⟨_, rfl, ?_⟩
    have q4 := q3.trans (b4.mono q3.size)
    have o4 := o3.up b4
    (refine LL.val (R.move rfl rfl) rfl rfl rfl ?_; refine LL.val (R.extract rfl rfl rfl) rfl rfl rfl ?_; refine LL.val (R.extract rfl rfl rfl) rfl rfl rfl ?_)
    refine LL.alloc [.int .i64 0, .int .u64 0] rfl rfl rfl rfl rfl ?_
    intro W5 g8 eg8 r8 zg8 b5
    skip
    refine LL.storeN (vs := pE (putA x)) rfl rfl rfl rfl r8 (Nat.le_of_ble_eq_true rfl) (pEnc.one _) rfl rfl ?_
    intro W6 r8 gr8 z6
    replace r8 : RowL W6 g8 56 (pE (putA x)) := r8
    have b6 : Below W4.heap.size W4 W6 := b5.grown gr8 b5.size (by rintro k ⟨⟩; omega)
    have q6 := q4.trans (b6.mono q4.size)
    have o6 := o4.up b6
    by_cases h1 : x.1 = 1
    · rw [decide_eq_true h1]
      rw [if_pos h1] at hsn
      (refine LL.val (R.assign rfl rfl) rfl rfl rfl ?_; refine LL.nilS ?_; refine CC.seq ?_; refine CC.region ?_; refine LL.val (R.move rfl rfl) rfl rfl rfl ?_; refine LL.nilS ?_; refine CC.yes rfl ?_; refine CC.region ?_; refine LL.val (R.move rfl rfl) rfl rfl rfl ?_)
      refine LL.val (R.load rfl rfl (I.ldN (vs := pE (putA x)) rfl rfl (r8.cells rfl))) rfl rfl rfl ?_
      refine LL.lit (e := 56) (pE (putA x)) 1 rfl rfl (fun _ => by kernel_rfl) rfl rfl ?_
      intro W7 g7 eg7 r7 zg7 b7
      have rd : ReadsT pE 2 W7 (.slice (some ⟨g7, 0, none⟩) 1 1) [putA x] := RowL.readsT (ts := [putA x]) pEnc (by simpa using r7) 1 (by simp)
      refine LL.appendT2 rfl rfl pEnc ElPut (o6.up b7) rd (by simp only [List.length_cons, List.length_nil, maxLen]; omega) (by simp only [List.length_cons, List.length_nil]; omega) (by have := q6.size; have := b7.size; omega) rfl rfl ?_
      intro v' W8 o8 g8' _
      (refine LL.val (R.assign rfl rfl) rfl rfl rfl ?_; refine LL.nil ?_; refine EE.inN ?_; refine EE.thenN ?_; refine CC.region ?_; refine LL.val (R.addNc rfl rfl rfl rfl (by omega)) rfl rfl rfl ?_; refine LL.val (R.move rfl rfl) rfl rfl rfl ?_; refine LL.nil ?_)
      refine EE.round (i + 1, v') ⟨rfl, rfl, rfl, rfl, rfl, trivial⟩ ⟨by show i + 1 ≤ N; omega, (q6.trans (b7.mono q6.size)).trans ((o6.up b7).bel g8' (by have := q6.size; have := b7.size; omega)), ?_⟩ (by show N - (i + 1) < N - i; omega)
      show OwnsT pE 2 W8 w.heap.size _ v' (stoP (l.take (i + 1)))
      rw [hsn]
      exact o8
    · rw [decide_eq_false h1]
      rw [if_neg h1, List.append_nil] at hsn
      (refine LL.val (R.assign rfl rfl) rfl rfl rfl ?_; refine LL.nilS ?_; refine CC.seq ?_; refine CC.region ?_; refine LL.val (R.move rfl rfl) rfl rfl rfl ?_; refine LL.nilS ?_; refine CC.no rfl ?_; refine CC.skip ?_; refine EE.inN ?_; refine EE.thenN ?_; refine CC.region ?_; refine LL.val (R.addNc rfl rfl rfl rfl (by omega)) rfl rfl rfl ?_; refine LL.val (R.move rfl rfl) rfl rfl rfl ?_; refine LL.nil ?_)
      refine EE.round (i + 1, v) ⟨rfl, rfl, rfl, rfl, rfl, trivial⟩ ⟨by show i + 1 ≤ N; omega, q6, ?_⟩ (by show N - (i + 1) < N - i; omega)
      show OwnsT pE 2 W6 w.heap.size _ v (stoP (l.take (i + 1)))
      rw [hsn]
      exact o6
  refine X.fn Try.func14 rfl (n := 5) rfl rfl ?_
  (refine CC.seq ?_; refine CC.region ?_; refine LL.val (R.assign rfl rfl) rfl rfl rfl ?_; refine LL.nilS ?_; refine CC.seq ?_; refine CC.region ?_; refine LL.val (R.move rfl rfl) rfl rfl rfl ?_)
  refine LL.call (R.call rfl rfl rfl) rfl rfl rfl hk ?_
  rintro e W ⟨v, rfl, o, b⟩
  refine ⟨_, rfl, ?_⟩
  (refine LL.val (R.assign rfl rfl) rfl rfl rfl ?_; refine LL.nilS ?_; refine CC.ret ?_)
  refine EE.ret _ rfl rfl ?_
  exact ⟨_, rfl, o, b⟩
end Go.Proofs.Ytcmgpfahpmkeoaa
