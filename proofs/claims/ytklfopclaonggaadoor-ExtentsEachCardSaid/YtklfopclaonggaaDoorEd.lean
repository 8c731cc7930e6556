/- extents: gather, gone. extents: Each, Blocks. extents: Find, Blocks. -/
import Derived.Test.YtklfopclaonggaaDoorEc
namespace Go.Proofs.YtklfopclaonggaaDoor
set_option linter.unusedVariables false
set_option linter.unusedSimpArgs false
open Go.RowKit Go.Shelf
theorem gat_lit {s : List Bl} {k : Nat} (hi : ∀ b ∈ s, litB b) (hk : s.length ≤ k) (hk2 : k ≤ 4096) : ∀ x ∈ gat s, litE x := fun x hx => by
  have h1 := gat_many s x hx
  have hmem : ∀ i : Nat, (i : Int) < x.2.2 → (x.1 + (i : Int), x.2.1 + (i : Int)) ∈ s := fun i h => by
    rw [← blS_gat s]
    exact List.mem_flatMap.2 ⟨x, hx, mem_blE.2 ⟨i, h, rfl⟩⟩
  have f0 := hi _ (hmem 0 (by omega))
  have hl : (blE x).length ≤ s.length := by
    rw [← blS_gat s]
    unfold blS
    obtain ⟨p, t, e⟩ := List.append_of_mem hx
    rw [e]
    simp only [List.flatMap_append, List.flatMap_cons, List.length_append]
    omega
  rw [blE_len] at hl
  simp only [litB] at f0
  unfold litE
  omega
theorem gatR_lit {s : List Int} {k : Nat} (hi : ∀ d ∈ s, 0 ≤ d ∧ d ≤ 4096) (hk : s.length ≤ k) (hk2 : k ≤ 4096) : ∀ x ∈ gatR s, litB x := fun x hx => by
  have h1 := gatR_many s x hx
  have hmem : ∀ i : Nat, (i : Int) < x.2 → x.1 + (i : Int) ∈ s := fun i h => by
    rw [← dvS_gatR s]
    exact List.mem_flatMap.2 ⟨x, hx, by simp only [dvE, List.mem_map, List.mem_range]; exact ⟨i, by omega, rfl⟩⟩
  have f0 := hi _ (hmem 0 (by omega))
  have hl : (dvE x).length ≤ s.length := by
    rw [← dvS_gatR s]
    unfold dvS
    obtain ⟨p, t, e⟩ := List.append_of_mem hx
    rw [e]
    simp only [List.flatMap_append, List.flatMap_cons, List.length_append]
    omega
  simp only [dvE, List.length_map, List.length_range] at hl
  unfold litB
  omega
/-- Places with small numbers. -/
def smP (p : List Int) : Prop := p.length = 128 ∧ ∀ (i : Nat) (z : Int), p[i]? = some z → 0 ≤ z ∧ z < 2048
theorem okP.small {p : List Int} (h : okP p) : smP p := ⟨h.len, fun i z hz => h.at hz⟩
theorem nzF_lit {p : List Int} (h : smP p) (k : Nat) (hk : k ≤ 128) : ∀ b ∈ nzF p k, litB b := fun b hb => by
  obtain ⟨i, hi, hz, rfl⟩ := mem_nzF.1 hb
  obtain ⟨z, hz2⟩ : ∃ z, p[i]? = some z := ⟨_, List.getElem?_eq_getElem (by have := h.1; omega)⟩
  have := h.2 i z hz2
  rw [hz2]
  unfold litB
  simp only [Option.getD_some]
  omega
theorem dvF_lit {p : List Int} (h : smP p) (f k : Nat) : ∀ d ∈ dvF p f k, 0 ≤ d ∧ d ≤ 4096 := fun d hd => by
  obtain ⟨h0, i, hi, e⟩ := mem_dvF.1 hd
  cases hz : p[f + i]? with
  | none => rw [hz] at e; simp at e; omega
  | some z => rw [hz] at e; have := h.2 _ z hz; simp only [Option.getD_some] at e; omega
set_option maxRecDepth 100000 in
set_option maxHeartbeats 8000000 in
theorem gather_any (p : List Int) (w : World) (hp : smP p) : Calls Tryd.prog 38 #[plV p] w fun e w' => ∃ v, e = .returned v ∧ OwnsT eE 3 w' w.heap.size 41 v (gat (nz p)) ∧ Below w.heap.size w w' := by
  have q := Below.refl w.heap.size w
  have hpl := hp.1
  refine X.fn Tryd.func38 rfl (n := 20) rfl rfl ?_
  refine CC.seq ?_
  refine CC.region ?_
  refine LL.box _ rfl rfl rfl rfl rfl ?_
  intro W2 g3 eg3 r4 z5 b1
  replace q := q.trans (b1.mono q.size)
  refine LL.val (R.assign rfl rfl) rfl rfl rfl ?_
  refine LL.nilS ?_
  refine CC.seq ?_
  refine CC.region ?_
  refine LL.val (R.assign rfl rfl) rfl rfl rfl ?_
  refine LL.nilS ?_
  refine CC.seq ?_
  refine CC.seq ?_
  refine CC.region ?_
  refine LL.val (R.loadZ rfl rfl r4 rfl rfl (by first | assumption | exact List.length_replicate | exact plL_len _ | exact plOf_len _ | simp)) rfl rfl rfl ?_
  refine LL.val (R.move rfl rfl) rfl rfl rfl ?_
  refine LL.nilS ?_
  refine CC.block ?_
  have yw := q.size
  refine CC.loop (α := Nat × Value) (fun s => [(3, s.2), (6, plV p), (7, .int .i64 (s.1 : Int))]) (fun s W => s.1 ≤ 128 ∧ Below w.heap.size w W ∧ OwnsT eE 3 W w.heap.size 41 s.2 (gat (nzF p s.1))) (fun s => 128 - s.1) (0, .slice none 0 0) ⟨rfl, rfl, rfl, trivial⟩ ⟨by show 0 ≤ 128; omega, q, OwnsT.none _ _ _⟩ ?_
  clear q r4
  rintro ⟨i, v⟩ W ⟨hi, q, o⟩
  simp only at hi o
  show CC none Tryd.prog _ 20 [] (sl [(3, v), (6, plV p), (7, .int .i64 (i : Int))]) _ W
  by_cases hlt : i < 128
  case neg =>
    obtain rfl : i = 128 := by omega
    refine CC.seq ?_
    refine CC.region ?_
    refine LL.val (R.ltF rfl rfl rfl (by omega)) rfl rfl rfl ?_
    refine LL.nilS ?_
    refine CC.seq ?_
    refine CC.no rfl ?_
    refine CC.exit ?_
    refine EE.thenX ?_
    refine EE.thenX ?_
    refine EE.inX ?_
    refine EE.thenN ?_
    refine CC.seq ?_
    refine CC.region ?_
    refine LL.val (R.move rfl rfl) rfl rfl rfl ?_
    refine LL.val (R.assign rfl rfl) rfl rfl rfl ?_
    refine LL.nilS ?_
    refine CC.ret ?_
    refine EE.ret _ rfl rfl ?_
    exact ⟨_, rfl, o, q⟩
  obtain ⟨z, hz⟩ : ∃ z, p[i]? = some z := ⟨_, List.getElem?_eq_getElem (by omega)⟩
  have hzb := hp.2 i z hz
  have hs := nzF_succ p i
  rw [hz] at hs
  simp only [Option.getD_some] at hs
  have hln : (gat (nzF p i)).length ≤ 4096 := by have := gat_len (nzF p i); have := nzF_len p i; omega
  by_cases h0 : z = 0
  · rw [if_pos h0, List.append_nil] at hs
    refine CC.seq ?_
    refine CC.region ?_
    refine LL.val (R.ltT rfl rfl rfl (by omega)) rfl rfl rfl ?_
    refine LL.nilS ?_
    refine CC.seq ?_
    refine CC.yes rfl ?_
    refine CC.skip ?_
    refine EE.thenN ?_
    refine CC.seq ?_
    refine CC.block ?_
    refine CC.seq ?_
    refine CC.region ?_
    refine LL.val (R.move rfl rfl) rfl rfl rfl ?_
    refine LL.val (R.ixZ rfl rfl rfl rfl (by assumption) (by assumption)) rfl rfl rfl ?_
    refine LL.val (R.assign rfl rfl) rfl rfl rfl ?_
    refine LL.val (R.assign rfl rfl) rfl rfl rfl ?_
    refine LL.nilS ?_
    refine CC.seq ?_
    refine CC.seq ?_
    refine CC.region ?_
    refine LL.val (R.move rfl rfl) rfl rfl rfl ?_
    refine LL.val (R.eqT rfl rfl rfl (by omega)) rfl rfl rfl ?_
    refine LL.nilS ?_
    refine CC.yes rfl ?_
    refine CC.exit ?_
    refine EE.thenX ?_
    refine EE.inX ?_
    refine EE.thenN ?_
    refine CC.region ?_
    refine LL.val (R.addNc rfl rfl rfl rfl (by omega)) rfl rfl rfl ?_
    refine LL.val (R.move rfl rfl) rfl rfl rfl ?_
    refine LL.nil ?_
    exact EE.round (i + 1, v) ⟨rfl, rfl, rfl, trivial⟩ ⟨by show i + 1 ≤ 128; omega, q, by show OwnsT eE 3 _ _ _ v (gat (nzF p (i + 1))); rw [hs]; exact o⟩ (by show 128 - (i + 1) < 128 - i; omega)
  rw [if_neg h0] at hs
  refine CC.seq ?_
  refine CC.region ?_
  refine LL.val (R.ltT rfl rfl rfl (by omega)) rfl rfl rfl ?_
  refine LL.nilS ?_
  refine CC.seq ?_
  refine CC.yes rfl ?_
  refine CC.skip ?_
  refine EE.thenN ?_
  refine CC.seq ?_
  refine CC.block ?_
  refine CC.seq ?_
  refine CC.region ?_
  refine LL.val (R.move rfl rfl) rfl rfl rfl ?_
  refine LL.val (R.ixZ rfl rfl rfl rfl (by assumption) (by assumption)) rfl rfl rfl ?_
  refine LL.val (R.assign rfl rfl) rfl rfl rfl ?_
  refine LL.val (R.assign rfl rfl) rfl rfl rfl ?_
  refine LL.nilS ?_
  refine CC.seq ?_
  refine CC.seq ?_
  refine CC.region ?_
  refine LL.val (R.move rfl rfl) rfl rfl rfl ?_
  refine LL.val (R.eqF rfl rfl rfl (by omega)) rfl rfl rfl ?_
  refine LL.nilS ?_
  refine CC.no rfl ?_
  refine CC.skip ?_
  refine EE.thenN ?_
  refine CC.region ?_
  refine LL.val (R.move rfl rfl) rfl rfl rfl ?_
  refine LL.val (R.move rfl rfl) rfl rfl rfl ?_
  refine LL.val (R.move rfl rfl) rfl rfl rfl ?_
  refine LL.val (R.buildV rfl rfl (v := .agg #[Value.int IntKind.i64 ↑i, Value.int IntKind.i64 z, Value.int IntKind.i64 1]) (fun _ => by kernel_rfl)) rfl rfl rfl ?_
  refine LL.call (R.call rfl rfl rfl) rfl rfl rfl (joinedE_any (gat (nzF p i)) (i : Int) z v w.heap.size _ o q.size (gat_lit (nzF_lit hp i (by omega)) (nzF_len p i) (by omega)) (by unfold litB; simp only; omega) hln) ?_
  rintro e W1 ⟨v', rfl, o', b1⟩
  refine ⟨_, rfl, ?_⟩
  rw [← gat_snoc, ← hs] at o'
  replace q := q.trans b1
  refine LL.val (R.assign rfl rfl) rfl rfl rfl ?_
  refine LL.nil ?_
  refine EE.inN ?_
  refine EE.thenN ?_
  refine CC.region ?_
  refine LL.val (R.addNc rfl rfl rfl rfl (by omega)) rfl rfl rfl ?_
  refine LL.val (R.move rfl rfl) rfl rfl rfl ?_
  refine LL.nil ?_
  exact EE.round (i + 1, v') ⟨rfl, rfl, rfl, trivial⟩ ⟨by show i + 1 ≤ 128; omega, q, o'⟩ (by show 128 - (i + 1) < 128 - i; omega)
set_option maxRecDepth 100000 in
set_option maxHeartbeats 8000000 in
theorem gone_any (p : List Int) (f k : Nat) (w : World) (hp : smP p) (hf : f + k ≤ 128) : Calls Tryd.prog 37 #[plV p, .int .i64 (f : Int), .int .i64 ((f + k : Nat) : Int)] w fun e w' => ∃ v, e = .returned v ∧ OwnsT rE 2 w' w.heap.size 64 v (gatR (dvF p f k)) ∧ Below w.heap.size w w' := by
  have q := Below.refl w.heap.size w
  have hpl := hp.1
  obtain ⟨ad, hsl, had⟩ := I.slAP (P := Tryd.prog) (t := 70) (m := 128) (k := 1) (b := w.heap.size) (off := 0) (lo := f) (hi := f + k) rfl (by omega) (by omega)
  rw [show f + k - f = k by omega] at hsl
  refine X.fn Tryd.func37 rfl (n := 26) rfl rfl ?_
  refine CC.seq ?_
  refine CC.region ?_
  refine LL.box _ rfl rfl rfl rfl rfl ?_
  intro W2 g3 eg3 r4 z5 b1
  replace q := q.trans (b1.mono q.size)
  refine LL.val (R.assign rfl rfl) rfl rfl rfl ?_
  refine LL.nilS ?_
  refine CC.seq ?_
  refine CC.region ?_
  refine LL.val (R.assign rfl rfl) rfl rfl rfl ?_
  refine LL.nilS ?_
  refine CC.seq ?_
  refine CC.seq ?_
  refine CC.region ?_
  refine LL.val (R.move rfl rfl) rfl rfl rfl ?_
  refine LL.val (R.move rfl rfl) rfl rfl rfl ?_
  (subst eg3; refine LL.val (R.slice rfl rfl rfl rfl rfl (hsl _)) rfl rfl rfl ?_)
  refine LL.val (R.len rfl rfl rfl rfl) rfl rfl rfl ?_
  refine LL.val (R.move rfl rfl) rfl rfl rfl ?_
  refine LL.nilS ?_
  refine CC.block ?_
  have yw := q.size
  refine CC.loop (α := Nat × Value) (fun s => [(7, s.2), (12, .slice (some ad) k (128 - f)), (13, .int .i64 (k : Int)), (14, .int .i64 (s.1 : Int))]) (fun s W => s.1 ≤ k ∧ Below w.heap.size w W ∧ W2.heap.size ≤ W.heap.size ∧ RowL W w.heap.size 70 (intsZ .i64 p) ∧ OwnsT rE 2 W (w.heap.size + 1) 64 s.2 (gatR (dvF p f s.1))) (fun s => k - s.1) (0, .slice none 0 0) ⟨rfl, rfl, rfl, rfl, trivial⟩ ⟨by show 0 ≤ k; omega, q, Nat.le_refl _, r4, OwnsT.none _ _ _⟩ ?_
  clear q r4
  rintro ⟨i, v⟩ W ⟨hi, q, y2, r4, o⟩
  simp only at hi o
  show CC none Tryd.prog _ 26 [] (sl [(7, v), (12, .slice (some ad) k (128 - f)), (13, .int .i64 (k : Int)), (14, .int .i64 (i : Int))]) _ W
  by_cases hlt : i < k
  case neg =>
    obtain rfl : i = k := by omega
    refine CC.seq ?_
    refine CC.region ?_
    refine LL.val (R.ltF rfl rfl rfl (by omega)) rfl rfl rfl ?_
    refine LL.nilS ?_
    refine CC.seq ?_
    refine CC.no rfl ?_
    refine CC.exit ?_
    refine EE.thenX ?_
    refine EE.thenX ?_
    refine EE.inX ?_
    refine EE.thenN ?_
    refine CC.seq ?_
    refine CC.region ?_
    refine LL.val (R.move rfl rfl) rfl rfl rfl ?_
    refine LL.val (R.assign rfl rfl) rfl rfl rfl ?_
    refine LL.nilS ?_
    refine CC.ret ?_
    refine EE.ret _ rfl rfl ?_
    exact ⟨_, rfl, o.lower (Nat.le_succ _), q⟩
  obtain rfl := had (by omega)
  obtain ⟨z, hz⟩ : ∃ z, p[f + i]? = some z := ⟨_, List.getElem?_eq_getElem (by omega)⟩
  have hzb := hp.2 (f + i) z hz
  have hs : dvF p f (i + 1) = dvF p f i ++ if z = 0 then [] else [z] := by
    show dvF p f i ++ (if (p[f + i]?).getD 0 = 0 then [] else [(p[f + i]?).getD 0]) = _
    rw [hz]
    rfl
  have c1 : W.cell? ⟨w.heap.size, 0 + f * 1 + i, none⟩ = some (.int .i64 z) := RowL.cell r4 (by rw [show 0 + f * 1 + i = f + i by omega]; simp [hz])
  have hln : (gatR (dvF p f i)).length ≤ 4096 := by have := gatR_len (dvF p f i); have := dvF_len p f i; omega
  by_cases h0 : z = 0
  · rw [if_pos h0, List.append_nil] at hs
    refine CC.seq ?_
    refine CC.region ?_
    refine LL.val (R.ltT rfl rfl rfl (by omega)) rfl rfl rfl ?_
    refine LL.nilS ?_
    refine CC.seq ?_
    refine CC.yes rfl ?_
    refine CC.skip ?_
    refine EE.thenN ?_
    refine CC.seq ?_
    refine CC.block ?_
    refine CC.seq ?_
    refine CC.region ?_
    refine LL.val (R.index rfl rfl rfl (I.ixS1 rfl (by omega))) rfl rfl rfl ?_
    refine LL.val (R.load rfl rfl (I.ld1 rfl (by assumption))) rfl rfl rfl ?_
    refine LL.val (R.assign rfl rfl) rfl rfl rfl ?_
    refine LL.nilS ?_
    refine CC.seq ?_
    refine CC.seq ?_
    refine CC.region ?_
    refine LL.val (R.move rfl rfl) rfl rfl rfl ?_
    refine LL.val (R.eqT rfl rfl rfl (by omega)) rfl rfl rfl ?_
    refine LL.nilS ?_
    refine CC.yes rfl ?_
    refine CC.exit ?_
    refine EE.thenX ?_
    refine EE.inX ?_
    refine EE.thenN ?_
    refine CC.region ?_
    refine LL.val (R.addNc rfl rfl rfl rfl (by omega)) rfl rfl rfl ?_
    refine LL.val (R.move rfl rfl) rfl rfl rfl ?_
    refine LL.nil ?_
    exact EE.round (i + 1, v) ⟨rfl, rfl, rfl, rfl, trivial⟩ ⟨by show i + 1 ≤ k; omega, q, y2, r4, by show OwnsT rE 2 _ _ _ v (gatR (dvF p f (i + 1))); rw [hs]; exact o⟩ (by show k - (i + 1) < k - i; omega)
  rw [if_neg h0] at hs
  refine CC.seq ?_
  refine CC.region ?_
  refine LL.val (R.ltT rfl rfl rfl (by omega)) rfl rfl rfl ?_
  refine LL.nilS ?_
  refine CC.seq ?_
  refine CC.yes rfl ?_
  refine CC.skip ?_
  refine EE.thenN ?_
  refine CC.seq ?_
  refine CC.block ?_
  refine CC.seq ?_
  refine CC.region ?_
  refine LL.val (R.index rfl rfl rfl (I.ixS1 rfl (by omega))) rfl rfl rfl ?_
  refine LL.val (R.load rfl rfl (I.ld1 rfl (by assumption))) rfl rfl rfl ?_
  refine LL.val (R.assign rfl rfl) rfl rfl rfl ?_
  refine LL.nilS ?_
  refine CC.seq ?_
  refine CC.seq ?_
  refine CC.region ?_
  refine LL.val (R.move rfl rfl) rfl rfl rfl ?_
  refine LL.val (R.eqF rfl rfl rfl (by omega)) rfl rfl rfl ?_
  refine LL.nilS ?_
  refine CC.no rfl ?_
  refine CC.skip ?_
  refine EE.thenN ?_
  refine CC.region ?_
  refine LL.val (R.move rfl rfl) rfl rfl rfl ?_
  refine LL.val (R.move rfl rfl) rfl rfl rfl ?_
  refine LL.val (R.buildV rfl rfl (v := .agg #[Value.int IntKind.i64 z, Value.int IntKind.i64 1]) (fun _ => by kernel_rfl)) rfl rfl rfl ?_
  refine LL.call (R.call rfl rfl rfl) rfl rfl rfl (joinedR_any (gatR (dvF p f i)) z v (w.heap.size + 1) _ o (by omega) (gatR_lit (dvF_lit hp f i) (dvF_len p f i) (by omega)) (by omega) hln) ?_
  rintro e W1 ⟨v', rfl, o', b1⟩
  refine ⟨_, rfl, ?_⟩
  rw [← gatR_snoc, ← hs] at o'
  have y1 := b1.size
  replace r4 : RowL W1 w.heap.size 70 (intsZ .i64 p) := r4.below b1 (Nat.lt_succ_self _)
  replace q := q.trans (b1.mono (Nat.le_succ _))
  refine LL.val (R.assign rfl rfl) rfl rfl rfl ?_
  refine LL.nil ?_
  refine EE.inN ?_
  refine EE.thenN ?_
  refine CC.region ?_
  refine LL.val (R.addNc rfl rfl rfl rfl (by omega)) rfl rfl rfl ?_
  refine LL.val (R.move rfl rfl) rfl rfl rfl ?_
  refine LL.nil ?_
  exact EE.round (i + 1, v') ⟨rfl, rfl, rfl, rfl, trivial⟩ ⟨by show i + 1 ≤ k; omega, q, by omega, r4, o'⟩ (by show k - (i + 1) < k - i; omega)
--C extents_Check | check_T _ _ @w @p @p @p | ⟨rfl, @b⟩
theorem check_T (v : Value) (l : List Ex) (w : World) (hv : ReadsT eE 3 w v l) (hlen : l.length ≤ 1048576) (h : vL l) : Calls Tryd.prog 14 #[v] w fun e w' => e = .returned (.int .i64 0) ∧ Below w.heap.size w w' :=
  (check_any v l w hv hlen).mono fun e w' ⟨⟨n, he, hn⟩, hb⟩ => by
    rcases hn with ⟨rfl, _⟩ | ⟨rfl, hn⟩
    · exact ⟨he, hb⟩
    · exact absurd h hn
theorem check_F (v : Value) (l : List Ex) (w : World) (hv : ReadsT eE 3 w v l) (hlen : l.length ≤ 1048576) (h : ¬vL l) : Calls Tryd.prog 14 #[v] w fun e w' => e = .returned (.int .i64 2) ∧ Below w.heap.size w w' :=
  (check_any v l w hv hlen).mono fun e w' ⟨⟨n, he, hn⟩, hb⟩ => by
    rcases hn with ⟨rfl, hn⟩ | ⟨rfl, _⟩
    · exact absurd hn h
    · exact ⟨he, hb⟩
/-- The list, if it is a map; or none. -/
noncomputable def eL (l : List Ex) : List Ex := @ite _ (vL l) (Classical.propDecidable _) l []
theorem eL_T {l : List Ex} (h : vL l) : eL l = l := by unfold eL; rw [if_pos h]
theorem eL_F {l : List Ex} (h : ¬vL l) : eL l = [] := by unfold eL; rw [if_neg h]
theorem vL_nil : vL [] := ⟨by simp, by simp, List.Pairwise.nil, trivial⟩
theorem eL_v (l : List Ex) : vL (eL l) := by
  by_cases h : vL l
  · rw [eL_T h]; exact h
  · rw [eL_F h]; exact vL_nil
/-- What Each tells. -/
def eachP (l : List Ex) (w0 : World) (e : Ending) (w : World) : Prop := ∃ bk a c, e = .returned (.func (.func 45) #[] #[.pointer (some ⟨bk, 0, none⟩)]) ∧ RowL w bk 22 [.slice a (eL l).length c] ∧ ReadsT eE 3 w (.slice a (eL l).length c) (eL l) ∧ w0.heap.size ≤ bk ∧ (∀ b off, a = some ⟨b, off, none⟩ → 0 < (eL l).length → w0.heap.size ≤ b) ∧ Below w0.heap.size w0 w
set_option maxRecDepth 100000 in
set_option maxHeartbeats 4000000 in
theorem each_any (l : List Ex) (v : Value) (w : World) (hv : ReadsT eE 3 w v l) (hlen : l.length ≤ 1048576) : Calls Tryd.prog 17 #[v] w (eachP l w) := by
  unfold eachP
  have q := Below.refl w.heap.size w
  by_cases h : vL l
  case neg =>
    rw [eL_F h]
    refine X.fn Tryd.func17 rfl (n := 10) rfl rfl ?_
    refine CC.seq ?_
    refine CC.region ?_
    refine LL.val (R.assign rfl rfl) rfl rfl rfl ?_
    refine LL.nilS ?_
    refine CC.seq ?_
    refine CC.seq ?_
    refine CC.region ?_
    refine LL.val (R.move rfl rfl) rfl rfl rfl ?_
    refine LL.call (R.call rfl rfl rfl) rfl rfl rfl (check_F _ _ _ (by first | assumption | omega) (by first | assumption | omega) (by first | assumption | omega)) ?_
    rintro e W2 ⟨rfl, b1⟩
    refine ⟨_, rfl, ?_⟩
    have zb1 := b1.size
    replace hv := hv.up b1
    replace q := q.trans (b1.mono q.size)
    refine LL.val (R.neT rfl rfl rfl (by omega)) rfl rfl rfl ?_
    refine LL.nilS ?_
    refine CC.yes rfl ?_
    refine CC.seq ?_
    refine CC.region ?_
    refine LL.call (R.call rfl rfl rfl) rfl rfl rfl (blocks_any _ _ _ _) ?_
    rintro e W5 ⟨g6, rfl, r7, l8, b4⟩
    refine ⟨_, rfl, ?_⟩
    have zb4 := b4.size
    replace b1 := b1.trans (b4.mono b1.size)
    replace hv := hv.up b4
    replace q := q.trans (b4.mono q.size)
    refine LL.val (R.assign rfl rfl) rfl rfl rfl ?_
    refine LL.nilS ?_
    refine CC.ret ?_
    refine EE.thenR ?_
    refine EE.ret _ rfl rfl ?_
    exact ⟨_, none, 0, rfl, by assumption, ReadsT.nil _, by omega, fun _ _ e => (by cases e), q⟩
  rw [eL_T h]
  refine X.fn Tryd.func17 rfl (n := 10) rfl rfl ?_
  refine CC.seq ?_
  refine CC.region ?_
  refine LL.val (R.assign rfl rfl) rfl rfl rfl ?_
  refine LL.nilS ?_
  refine CC.seq ?_
  refine CC.seq ?_
  refine CC.region ?_
  refine LL.val (R.move rfl rfl) rfl rfl rfl ?_
  refine LL.call (R.call rfl rfl rfl) rfl rfl rfl (check_T _ _ _ (by first | assumption | omega) (by first | assumption | omega) (by first | assumption | omega)) ?_
  rintro e Wa2 ⟨rfl, ba1⟩
  refine ⟨_, rfl, ?_⟩
  have zba1 := ba1.size
  replace hv := hv.up ba1
  replace q := q.trans (ba1.mono q.size)
  refine LL.val (R.neF rfl rfl rfl (by omega)) rfl rfl rfl ?_
  refine LL.nilS ?_
  refine CC.no rfl ?_
  refine CC.skip ?_
  refine EE.thenN ?_
  refine CC.seq ?_
  refine CC.region ?_
  refine LL.val (R.move rfl rfl) rfl rfl rfl ?_
  have yq := q.size
  refine LL.appendT2 rfl rfl eEnc ElEx (OwnsT.none _ w.heap.size _) hv (by simp [maxLen]; omega) (by simp; omega) (by omega) rfl rfl ?_
  intro v' Wa oa gra hva
  rw [List.nil_append] at oa
  have hr := oa.reads eEnc
  obtain ⟨a', cp, rfl, hcp⟩ := hr.form rfl
  replace q := q.grown gra (by omega) (fun g hg => by cases hg)
  have yg := gra.size
  refine LL.call (R.call rfl rfl rfl) rfl rfl rfl (blocks_any _ _ _ _) ?_
  rintro e Wb2 ⟨gb3, rfl, rb4, lb5, bb1⟩
  refine ⟨_, rfl, ?_⟩
  have zbb1 := bb1.size
  replace oa := oa.up bb1
  replace hr := hr.up bb1
  replace q := q.trans (bb1.mono q.size)
  refine LL.val (R.assign rfl rfl) rfl rfl rfl ?_
  refine LL.nilS ?_
  refine CC.ret ?_
  refine EE.ret _ rfl rfl ?_
  exact ⟨_, a', cp, rfl, by assumption, hr, by omega, fun b off e h0 => own_ge oa b (by rw [e]; rfl), q⟩
/-- Where a block lies, by the blocks of a map; 0: nowhere. -/
def lkB (s : List Bl) (b : Int) : Int := match s.find? fun x => x.1 == b with
  | some x => x.2
  | none => 0
noncomputable def fndE (l : List Ex) (b : Int) : Int := lkB (blS (eL l)) b
theorem lkB_miss {s : List Bl} {b : Int} (h : ∀ x ∈ s, x.1 ≠ b) : lkB s b = 0 := by
  unfold lkB
  rw [List.find?_eq_none.2 fun x hx => by simpa using h x hx]
theorem lkB_hit {s t : List Bl} {x : Bl} {b : Int} (h : ∀ y ∈ s, y.1 ≠ b) (hx : x.1 = b) : lkB (s ++ x :: t) b = x.2 := by
  unfold lkB
  rw [List.find?_append, List.find?_eq_none.2 fun x hx => by simpa using h x hx]
  simp [hx]
theorem fnd_no {l : List Ex} (h : ¬vL l) (b : Int) : fndE l b = 0 := by unfold fndE; rw [eL_F h]; rfl
theorem fnd_at {l : List Ex} (h : vL l) {i : Nat} (hi : i < 128) : fndE l (i : Int) = ((plL l)[i]?).getD 0 := by
  unfold fndE
  rw [eL_T h]
  have hz := vL_nz h
  by_cases hex : ∃ x ∈ blS l, x.1 = (i : Int)
  · obtain ⟨x, hx, e⟩ := hex
    rw [← hz, nz, mem_nzF] at hx
    obtain ⟨j, hj, hne, rfl⟩ := hx
    have : j = i := by simp only at e; omega
    subst this
    have hu := vL_up h
    have hm : ((j : Int), ((plL l)[j]?).getD 0) ∈ blS l := by rw [← hz, nz, mem_nzF]; exact ⟨j, hj, hne, rfl⟩
    obtain ⟨s, t, e2⟩ := List.append_of_mem hm
    rw [e2]
    refine lkB_hit (fun y hy => ?_) rfl
    rw [e2] at hu
    have := (List.pairwise_append.1 hu).2.2 y hy ((j : Int), ((plL l)[j]?).getD 0) (by simp)
    simp only at this
    omega
  · rw [lkB_miss fun x hx e => hex ⟨x, hx, e⟩]
    by_cases h0 : ((plL l)[i]?).getD 0 = 0
    · exact h0.symm
    · exfalso
      refine hex ⟨((i : Int), ((plL l)[i]?).getD 0), ?_, rfl⟩
      rw [← hz, nz, mem_nzF]
      exact ⟨i, hi, h0, rfl⟩
theorem fnd_out {l : List Ex} {b : Int} (h : b < 0 ∨ 128 ≤ b) : fndE l b = 0 := by
  unfold fndE
  refine lkB_miss fun x hx e => ?_
  have := vL_in (eL_v l) x hx
  omega
theorem fnd_bnd (l : List Ex) (b : Int) : 0 ≤ fndE l b ∧ fndE l b < 2048 := by
  unfold fndE lkB
  split
  · rename_i x hx
    have := vL_in (eL_v l) x (List.mem_of_find?_eq_some hx)
    omega
  · omega
theorem bkl_own {w : World} {a : Option Addr} {N cap B bk : Nat} {l : List Ex} (hv : ReadsT eE 3 w (.slice a N cap) l) (hN : l.length = N) (hbo : ∀ b off, a = some ⟨b, off, none⟩ → 0 < N → B ≤ b) (h1 : B ≤ bk) (h2 : bk < w.heap.size) : ∃ bkl, (∀ b off, a = some ⟨b, off, none⟩ → 0 < N → b = bkl) ∧ B ≤ bkl ∧ bkl < w.heap.size := by
  by_cases h0 : 0 < N
  · obtain ⟨x, hx⟩ : ∃ x, l[0]? = some x := ⟨_, List.getElem?_eq_getElem (by omega)⟩
    obtain ⟨b, off, rfl, hb, _⟩ := hv.get eEnc hx
    exact ⟨b, fun b' off' e _ => by cases e; rfl, hbo b off rfl h0, hb⟩
  · exact ⟨bk, fun _ _ _ h => absurd h h0, h1, h2⟩
set_option maxRecDepth 100000 in
set_option maxHeartbeats 8000000 in
theorem find_any (l : List Ex) (b : Int) (v : Value) (w : World) (hv : ReadsT eE 3 w v l) (hlen : l.length ≤ 1048576) : Calls Tryd.prog 11 #[v, .int .i64 b] w fun e w' => e = .returned (.tuple #[.int .i64 (fndE l b), .bool (decide (fndE l b ≠ 0))]) ∧ Below w.heap.size w w' := by
  have q := Below.refl w.heap.size w
  have hvF : ∀ W, Below w.heap.size w W → ReadsT eE 3 W v l := fun W hb => hv.up hb
  clear hv
  refine X.fnM Tryd.func11 rfl (n := 20) rfl rfl ?_
  refine CC.seq ?_
  refine CC.region ?_
  refine LL.box [Value.int IntKind.i64 b] rfl rfl rfl rfl rfl ?_
  intro W2 g3 eg3 r4 z5 b1
  replace q := q.trans (b1.mono q.size)
  refine LL.val (R.assign rfl rfl) rfl rfl rfl ?_
  refine LL.val (R.assign rfl rfl) rfl rfl rfl ?_
  refine LL.nilS ?_
  refine CC.straight ?_
  refine CC.seq ?_
  refine CC.region ?_
  have l6 := r4.lt
  refine LL.alloc ([Value.int IntKind.i64 0]) rfl rfl rfl rfl rfl ?_
  intro W8 g9 eg9 r10 z11 b7
  replace r4 := r4.up b7
  replace b1 := b1.trans (b7.mono b1.size)
  replace q := q.trans (b7.mono q.size)
  refine LL.store rfl rfl rfl rfl r10 (by exact Nat.le_of_ble_eq_true rfl) rfl rfl rfl rfl ?_
  intro W13 r14 b12 z15
  have hlb12 := r10.lt
  replace r14 : RowL W13 _ 3 [Value.int IntKind.i64 0] := r14
  clear r10
  replace b7 := b7.grown b12 b7.size (by rintro k ⟨⟩; omega)
  replace r4 := r4.gr b12 (by have := r4.lt; omega)
  replace b1 := b1.grown b12 b1.size (by rintro k ⟨⟩; omega)
  replace q := q.grown b12 q.size (by rintro k ⟨⟩; omega)
  have r10 := r14
  clear r14
  refine LL.nilS ?_
  refine CC.seq ?_
  refine CC.label ?_
  refine EE.thenN ?_
  refine CC.seq ?_
  refine CC.seq ?_
  refine CC.region ?_
  refine LL.val (R.move rfl rfl) rfl rfl rfl ?_
  have yE := q.size
  refine LL.call (R.call rfl rfl rfl) rfl rfl rfl (each_any l v _ (hvF _ q) (by omega)) ?_
  rintro e W5 ⟨bk, a, c, rfl, rb, hr, hbk, hbo, b5⟩
  refine ⟨_, rfl, ?_⟩
  replace q := q.trans (b5.mono q.size)
  have l3 := r4.lt
  have l9 := r10.lt
  replace r4 := r4.up b5
  replace r10 := r10.up b5
  have y5 := b5.size
  have lb := rb.lt
  obtain ⟨bkl, hbl, hbB, hblt⟩ := bkl_own hr rfl hbo hbk lb
  refine LL.nilS ?_
  refine CC.block ?_
  have yB := q.size
  refine CC.rangeZ (γ := Unit) (gf := 45) (lb := [.pointer (some ⟨bk, 0, none⟩)]) (encs := rE) rfl rfl (blocks_gives (eL l) (eL_v l).2.1 a _ c bk bkl W5 rfl (by have := (eL_v l).1; omega) rb hr hbl) (Below.refl _ _) (fun k hk => by (try simp only at hk); omega) (fun _ => rfl) rfl
    (fun m (pre : List Bl) W' => Below w.heap.size w W' ∧ RowL W' g3 3 [.int .i64 b] ∧ RowL W' g9 3 [.int .i64 0] ∧ ∀ y ∈ pre, y.1 ≠ b)
    (fun m (pre : List Bl) W' => Below w.heap.size w W' ∧ RowL W' g9 3 [.int .i64 (fndE l b)])
    (fun W' => Below w.heap.size w W' ∧ RowL W' g9 3 [.int .i64 (fndE l b)])
    (by
      rintro m m' s X Y ⟨h1, h3, h9, hn⟩ ht hg
      exact ⟨h1.trans (ht.below yB h1.size), ht.row h3 (.inl (by omega)), ht.row h9 (.inl (by omega)), hn⟩)
    (by
      rintro m m' s X Y ⟨h1, h9⟩ ht hg
      exact ⟨h1.trans (ht.below yB h1.size), ht.row h9 (.inl (by omega))⟩)
    ⟨q, r4, r10, fun y hy => by cases hy⟩ ?hIA ?hIxA
    (fun x _ => sl [(3, .pointer (some ⟨g3, 0, none⟩)), (6, .pointer (some ⟨g9, 0, none⟩)), (7, .int .i64 x.1), (8, .int .i64 x.2)]) (fun _ _ _ => True) (fun x c => fun _ W W' row h hg hr => trivial) ?assign ?body ?after
  case hIA =>
    rintro m xs W' rfl ⟨h1, h3, h9, hn⟩
    have : fndE l b = 0 := lkB_miss hn
    rw [this]
    exact ⟨h1, h9⟩
  case hIxA =>
    rintro m pre W' _ h
    exact h
  case assign =>
    rintro l' m pre x W K hm ⟨h1, h3, h9, hn⟩ hK
    refine CC.seq ?_
    refine CC.region ?_
    refine LL.val (R.assign rfl rfl) rfl rfl rfl ?_
    refine LL.nilS ?_
    refine CC.region ?_
    refine LL.val (R.assign rfl rfl) rfl rfl rfl ?_
    refine LL.nil ?_
    exact EE.thenK fun a' F => hK a' _ () (StaysZ.refl _ _ _) (Keeps.refl _ _) ⟨h1, h3, h9, hn⟩ (F.keep _ ⟨rfl, rfl, rfl, rfl, trivial⟩) trivial
  case body =>
    rintro l' m pre ⟨f, d⟩ c W hm hl' hrl ⟨q, r4, r10, hn⟩ _ ⟨_, rfl, tt, hp⟩
    have st := StaysZ.refl W5.heap.size m W
    have kp := Keeps.refl (fun k => k = bkl) W
    have yq := q.size
    obtain ⟨_, hr0⟩ := hrl
    have hr1 := (Array.getElem?_eq_some_iff.1 hr0).1
    clear hr0
    have hbW : bkl < W.heap.size := by omega
    have hbn : bkl ≠ g9 := by omega
    by_cases hfb : f = b
    · have hres : fndE l b = d := by
        have e : blS (eL l) = pre ++ (f, d) :: tt := by rw [← hp]; simp
        unfold fndE
        rw [e]
        exact lkB_hit hn hfb
      refine CC.block ?_
      refine CC.seq ?_
      refine CC.region ?_
      refine LL.val (R.move rfl rfl) rfl rfl rfl ?_
      refine LL.val (R.load rfl rfl (I.ld1 rfl (RowL.cell r4 rfl))) rfl rfl rfl ?_
      refine LL.val (R.eqT rfl rfl rfl (by omega)) rfl rfl rfl ?_
      refine LL.nilS ?_
      refine CC.yes rfl ?_
      refine CC.seq ?_
      refine CC.region ?_
      refine LL.val (R.move rfl rfl) rfl rfl rfl ?_
      refine LL.store rfl rfl rfl rfl r10 (by exact Nat.le_of_ble_eq_true rfl) rfl rfl rfl rfl ?_
      intro Wc2 rc3 bc1 zc4
      have hlbc1 := r10.lt
      replace rc3 : RowL Wc2 _ 3 [Value.int IntKind.i64 d] := rc3
      clear r10
      replace q := q.grown bc1 q.size (by rintro k ⟨⟩; omega)
      replace r4 := r4.gr bc1 (by have := r4.lt; omega)
      replace st := st.trans (StaysZ.of_grown bc1 (by omega))
      replace kp := kp.trans (Keeps.of_grown bc1 fun k hk => by (try simp only at hk); omega)
      have r10 := rc3
      clear rc3
      refine LL.nilS ?_
      refine CC.exit ?_
      refine EE.inX' rfl ?_
      exact EE.roundXZ ⟨st, rfl, q, by rw [hres]; exact r10⟩
    · refine CC.block ?_
      refine CC.seq ?_
      refine CC.region ?_
      refine LL.val (R.move rfl rfl) rfl rfl rfl ?_
      refine LL.val (R.load rfl rfl (I.ld1 rfl (RowL.cell r4 rfl))) rfl rfl rfl ?_
      refine LL.val (R.eqF rfl rfl rfl (by omega)) rfl rfl rfl ?_
      refine LL.nilS ?_
      refine CC.no rfl ?_
      refine CC.skip ?_
      refine EE.inN ?_
      exact EE.roundNZ ⟨st, kp, q, r4, r10, fun y hy => (by rcases List.mem_append.1 hy with hy | hy; exact hn y hy; obtain rfl := List.mem_singleton.1 hy; exact hfb)⟩
  case after =>
    rintro E W hE ⟨h1, r10⟩ hE1
    by_cases h0 : fndE l b = 0
    · rw [decide_eq_false (by omega)]
      refine EE.thenN ?_
      refine CC.seq ?_
      refine CC.quietB (by kernel_rfl) (by kernel_rfl) (fun We2 be1 ze3 => ?_)
      replace h1 := h1.trans (be1.mono h1.size)
      replace r10 := r10.up be1
      replace hE1 := defer_up hE1 be1
      refine SS.val (R.load rfl rfl (I.ld1 rfl (RowL.cell r10 rfl))) rfl rfl ?_
      refine SS.val (R.load rfl rfl (I.ld1 rfl (RowL.cell r10 rfl))) rfl rfl ?_
      refine SS.val (R.neF rfl rfl rfl (by omega)) rfl rfl ?_
      refine SS.val (R.assign rfl rfl) rfl rfl ?_
      refine SS.val (R.assign rfl rfl) rfl rfl ?_
      refine SS.nilQ ?_
      refine EE.thenN ?_
      refine CC.ret ?_
      refine EE.noR ?_
      refine EE.ret1 hE1 _ rfl rfl ?_
      exact ⟨rfl, taken_bel h1 (by omega) (Nat.le_refl _)⟩
    · rw [decide_eq_true h0]
      refine EE.thenN ?_
      refine CC.seq ?_
      refine CC.quietB (by kernel_rfl) (by kernel_rfl) (fun Wf2 bf1 zf3 => ?_)
      replace h1 := h1.trans (bf1.mono h1.size)
      replace r10 := r10.up bf1
      replace hE1 := defer_up hE1 bf1
      refine SS.val (R.load rfl rfl (I.ld1 rfl (RowL.cell r10 rfl))) rfl rfl ?_
      refine SS.val (R.load rfl rfl (I.ld1 rfl (RowL.cell r10 rfl))) rfl rfl ?_
      refine SS.val (R.neT rfl rfl rfl (by omega)) rfl rfl ?_
      refine SS.val (R.assign rfl rfl) rfl rfl ?_
      refine SS.val (R.assign rfl rfl) rfl rfl ?_
      refine SS.nilQ ?_
      refine EE.thenN ?_
      refine CC.ret ?_
      refine EE.noR ?_
      refine EE.ret1 hE1 _ rfl rfl ?_
      exact ⟨rfl, taken_bel h1 (by omega) (Nat.le_refl _)⟩
set_option maxRecDepth 100000 in
set_option maxHeartbeats 8000000 in
theorem nblocks_any (l : List Ex) (v : Value) (w : World) (hv : ReadsT eE 3 w v l) (hlen : l.length ≤ 1048576) : Calls Tryd.prog 15 #[v] w fun e w' => e = .returned (.int .i64 ((blS (eL l)).length : Int)) ∧ Below w.heap.size w w' := by
  have q := Below.refl w.heap.size w
  have hvF : ∀ W, Below w.heap.size w W → ReadsT eE 3 W v l := fun W hb => hv.up hb
  clear hv
  refine X.fnM Tryd.func15 rfl (n := 11) rfl rfl ?_
  refine CC.seq ?_
  refine CC.region ?_
  refine LL.val (R.assign rfl rfl) rfl rfl rfl ?_
  refine LL.nilS ?_
  refine CC.seq ?_
  refine CC.region ?_
  refine LL.alloc ([Value.int IntKind.i64 0]) rfl rfl rfl rfl rfl ?_
  intro W2 g3 eg3 r4 z5 b1
  replace q := q.trans (b1.mono q.size)
  refine LL.store rfl rfl rfl rfl r4 (by exact Nat.le_of_ble_eq_true rfl) rfl rfl rfl rfl ?_
  intro W7 r8 b6 z9
  have hlb6 := r4.lt
  replace r8 : RowL W7 _ 3 [Value.int IntKind.i64 0] := r8
  clear r4
  replace b1 := b1.grown b6 b1.size (by rintro k ⟨⟩; omega)
  replace q := q.grown b6 q.size (by rintro k ⟨⟩; omega)
  have r4 := r8
  clear r8
  refine LL.nilS ?_
  refine CC.seq ?_
  refine CC.seq ?_
  refine CC.region ?_
  refine LL.val (R.move rfl rfl) rfl rfl rfl ?_
  have yE := q.size
  refine LL.call (R.call rfl rfl rfl) rfl rfl rfl (each_any l v _ (hvF _ q) (by omega)) ?_
  rintro e W5 ⟨bk, a, c, rfl, rb, hr, hbk, hbo, b5⟩
  refine ⟨_, rfl, ?_⟩
  replace q := q.trans (b5.mono q.size)
  have l3 := r4.lt
  replace r4 := r4.up b5
  have y5 := b5.size
  have lb := rb.lt
  obtain ⟨bkl, hbl, hbB, hblt⟩ := bkl_own hr rfl hbo hbk lb
  refine LL.nilS ?_
  refine CC.block ?_
  have yB := q.size
  refine CC.rangeZ (γ := Unit) (gf := 45) (lb := [.pointer (some ⟨bk, 0, none⟩)]) (encs := rE) rfl rfl (blocks_gives (eL l) (eL_v l).2.1 a _ c bk bkl W5 rfl (by have := (eL_v l).1; omega) rb hr hbl) (Below.refl _ _) (fun k hk => by (try simp only at hk); omega) (fun _ => rfl) rfl
    (fun m (pre : List Bl) W' => Below w.heap.size w W' ∧ RowL W' g3 3 [.int .i64 (pre.length : Int)])
    (fun _ _ _ => False)
    (fun W' => Below w.heap.size w W' ∧ RowL W' g3 3 [.int .i64 ((blS (eL l)).length : Int)])
    (by
      rintro m m' s X Y ⟨h1, h3⟩ ht hg
      exact ⟨h1.trans (ht.below yB h1.size), ht.row h3 (.inl (by omega))⟩)
    (fun m m' s X Y hs ht hg => hs)
    ⟨q, r4⟩ ?hIA (fun _ _ _ _ h => h.elim)
    (fun x _ => sl [(3, .pointer (some ⟨g3, 0, none⟩))]) (fun _ _ _ => True) (fun x c => fun _ W W' row h hg hr => trivial) ?assign ?body ?after
  case hIA =>
    rintro m xs W' rfl ⟨h1, h3⟩
    exact ⟨h1, h3⟩
  case assign =>
    rintro l' m pre x W K hm ⟨h1, h3⟩ hK
    refine CC.skip ?_
    exact EE.thenK fun a' F => hK a' _ () (StaysZ.refl _ _ _) (Keeps.refl _ _) ⟨h1, h3⟩ (F.keep _ ⟨rfl, trivial⟩) trivial
  case body =>
    rintro l' m pre ⟨f, d⟩ c W hm hl' hrl ⟨q, r4⟩ _ ⟨_, rfl, tt, hp⟩
    have hpl : pre.length < 100000 := by
      have h1 := congrArg List.length hp
      have h2 := gat_len (blS (eL l))
      have h3 : (blS (eL l)).length ≤ 128 := by rw [← vL_nz (eL_v l)]; exact nzF_len _ _
      simp only [List.length_append, List.length_cons, List.length_nil] at h1
      omega
    have st := StaysZ.refl W5.heap.size m W
    have kp := Keeps.refl (fun k => k = bkl) W
    have yq := q.size
    obtain ⟨_, hr0⟩ := hrl
    have hr1 := (Array.getElem?_eq_some_iff.1 hr0).1
    clear hr0
    have hbW : bkl < W.heap.size := by omega
    have hbn : bkl ≠ g3 := by omega
    refine CC.block ?_
    refine CC.region ?_
    refine LL.val (R.load rfl rfl (I.ld1 rfl (RowL.cell r4 rfl))) rfl rfl rfl ?_
    refine LL.val (R.addNc rfl rfl rfl rfl (by omega)) rfl rfl rfl ?_
    refine LL.store rfl rfl rfl rfl r4 (by exact Nat.le_of_ble_eq_true rfl) rfl rfl rfl rfl ?_
    intro Wc2 rc3 bc1 zc4
    have hlbc1 := r4.lt
    replace rc3 : RowL Wc2 _ 3 [Value.int IntKind.i64 ↑(pre.length + 1)] := rc3
    clear r4
    replace q := q.grown bc1 q.size (by rintro k ⟨⟩; omega)
    replace st := st.trans (StaysZ.of_grown bc1 (by omega))
    replace kp := kp.trans (Keeps.of_grown bc1 fun k hk => by (try simp only at hk); omega)
    have r4 := rc3
    clear rc3
    refine LL.nil ?_
    refine EE.inN ?_
    exact EE.roundNZ ⟨st, kp, q, by rw [List.length_append]; exact r4⟩
  case after =>
    rintro E W hE ⟨h1, r4⟩ hE1
    refine EE.thenN ?_
    refine CC.seq ?_
    refine CC.region ?_
    refine LL.val (R.load rfl rfl (I.ld1 rfl (RowL.cell r4 rfl))) rfl rfl rfl ?_
    refine LL.val (R.assign rfl rfl) rfl rfl rfl ?_
    refine LL.nilS ?_
    refine CC.ret ?_
    refine EE.ret1 hE1 _ rfl rfl ?_
    exact ⟨rfl, taken_bel h1 (by omega) (Nat.le_refl _)⟩
end Go.Proofs.YtklfopclaonggaaDoor
