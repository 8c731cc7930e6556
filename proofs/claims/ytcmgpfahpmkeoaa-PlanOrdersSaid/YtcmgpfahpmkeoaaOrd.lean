/- plan.Order. -/
import Derived.Test.YtcmgpfahpmkeoaaOrdM
namespace Go.Proofs.Ytcmgpfahpmkeoaa
set_option linter.unusedVariables false
set_option linter.unusedSimpArgs false
open Go.RowKit Go.Shelf

/-- The line that the plan under way keeps. -/
def lineI (o : Option Nat) : Int := match o with
  | some k => (k : Int)
  | none => 0
theorem prevL_succ {l : List Pt} {i : Nat} {p : Pt} (hp : l[i]? = some p) : prevL l (i + 1) = some (lnP p) := by show (l[i]?).map lnP = _; rw [hp]; rfl
theorem prevL_pos {l : List Pt} {i : Nat} (h0 : 0 < i) (hi : i ≤ l.length) : ∃ p, l[i - 1]? = some p ∧ prevL l i = some (lnP p) := by
  obtain ⟨j, rfl⟩ : ∃ j, i = j + 1 := ⟨i - 1, by omega⟩
  have hj : l[j]? = some l[j] := List.getElem?_eq_getElem (by omega)
  exact ⟨_, by simp, prevL_succ hj⟩

set_option maxRecDepth 100000 in
set_option maxHeartbeats 8000000 in
theorem order_any (va : Value) (l : List Pt) (w : World) (ha : ReadsT pE 2 w va l) (hl : l.length ≤ 1048576) (hw : ∀ p ∈ l, p.1 ≤ 9223372036854775807) :
    Calls Try.prog 7 #[va] w fun e w' => ∃ v, e = .returned (.tuple #[v, .int .i64 (orderN l : Int)]) ∧ OwnsT aE 3 w' w.heap.size 38 v (orderP l) ∧ Below w.heap.size w w' := by
  have q := Below.refl w.heap.size w
  obtain ⟨N, hN⟩ : ∃ N, l.length = N := ⟨_, rfl⟩
  have har := ha
  obtain ⟨a, cap, rfl, hc⟩ := ha.form hN
  rw [hN] at hl
  refine X.fn Try.func7 rfl (n := 50) rfl rfl ?_
  (refine CC.seq ?_; refine CC.region ?_; refine LL.val (R.assign rfl rfl) rfl rfl rfl ?_; refine LL.val (R.assign rfl rfl) rfl rfl rfl ?_; refine LL.nilS ?_; refine CC.seq ?_; refine CC.region ?_)
  refine LL.val (R.buildV rfl rfl (v := .agg #[.slice none 0 0, .int .i64 0]) (fun _ => by kernel_rfl)) rfl rfl rfl ?_
  refine LL.alloc [.slice none 0 0, .int .i64 0] rfl rfl rfl rfl rfl ?_
  intro W0 g eg r0 zg b0
  skip
  refine LL.storeN (vs := [.slice none 0 0, .int .i64 0]) rfl rfl rfl rfl r0 (Nat.le_of_ble_eq_true rfl) (by simp [Value.oneCell']) rfl rfl ?_
  intro W1 r1 g1 z1
  have b1 : Below w.heap.size w W1 := b0.grown g1 b0.size (by rintro k ⟨⟩; omega)
  have lay1 : LayAt W1 g w.heap.size 0 [] := ⟨.slice none 0 0, r1, OwnsT.none _ _ _, by simp [Value.ownBlock], by omega⟩
  clear r0 r1 b0 g1 z1 zg
  (refine LL.nilS ?_; refine CC.seq ?_; refine CC.seq ?_; refine CC.region ?_; refine LL.val (R.move rfl rfl) rfl rfl rfl ?_; refine LL.val (R.len rfl rfl rfl rfl) rfl rfl rfl ?_; refine LL.val (R.move rfl rfl) rfl rfl rfl ?_; refine LL.nilS ?_; refine CC.block ?_)
  refine CC.loop (α := Nat × List Ac) (fun s => [(0, .slice a N cap), (4, .pointer (some ⟨g, 0, none⟩)), (8, .slice a N cap), (9, .int .i64 (N : Int)), (10, .int .i64 (s.1 : Int))]) (fun s W => PAt l s.1 s.2 ∧ Below w.heap.size w W ∧ LayAt W g w.heap.size (lineI (prevL l s.1)) s.2) (fun s => N - s.1) (0, []) ⟨rfl, rfl, rfl, rfl, rfl, trivial⟩ ⟨PAt.zero l, b1, lay1⟩ ?_
  rintro ⟨i, ts⟩ W ⟨hP, q, lay⟩
  simp only at hP lay
  show CC none Try.prog _ 50 [] (sl [(0, .slice a N cap), (4, .pointer (some ⟨g, 0, none⟩)), (8, .slice a N cap), (9, .int .i64 (N : Int)), (10, .int .i64 (i : Int))]) _ W
  have hi := hP.le
  rw [hN] at hi
  have hlen := hP.len
  have hg := lay.lt
  by_cases hlt : i < N
  case neg =>
    obtain rfl : i = l.length := by omega
    obtain ⟨h1, h2, h3⟩ := hP.ok
    rw [h2, h3]
    by_cases h0 : l.length = 0
    · have e0 : prevL l l.length = none := by rw [h0]; rfl
      rw [e0] at lay ⊢
      obtain ⟨v, lay⟩ := lay
      have c0 := lay.row.cell (j := 0) rfl
      (refine CC.seq ?_; refine CC.region ?_; refine LL.val (R.ltF rfl rfl rfl (by omega)) rfl rfl rfl ?_; refine LL.nilS ?_; refine CC.seq ?_; refine CC.no rfl ?_; refine CC.exit ?_; refine EE.thenX ?_; refine EE.thenX ?_; refine EE.inX ?_; refine EE.thenN ?_; refine CC.seq ?_; refine CC.seq ?_; refine CC.region ?_; refine LL.val (R.move rfl rfl) rfl rfl rfl ?_; refine LL.val (R.len rfl rfl rfl rfl) rfl rfl rfl ?_; refine LL.val (R.gtF rfl rfl rfl (by omega)) rfl rfl rfl ?_; refine LL.nilS ?_; refine CC.no rfl ?_; refine CC.skip ?_; refine EE.thenN ?_; refine CC.seq ?_; refine CC.region ?_; refine LL.val (R.field rfl rfl (I.fld rfl)) rfl rfl rfl ?_; refine LL.val (R.field rfl rfl (I.fld rfl)) rfl rfl rfl ?_; refine LL.val (R.load rfl rfl (I.ld1 rfl (by assumption))) rfl rfl rfl ?_; refine LL.val (R.assign rfl rfl) rfl rfl rfl ?_; refine LL.val (R.assign rfl rfl) rfl rfl rfl ?_; refine LL.nilS ?_; refine CC.ret ?_)
      refine EE.ret _ rfl rfl ?_
      refine ⟨v, rfl, ?_, q⟩
      simpa [endA] using lay.own
    · obtain ⟨p, _, e0⟩ := prevL_pos (l := l) (i := l.length) (by omega) (Nat.le_refl _)
      rw [e0] at lay ⊢
      have c1 : W.cell? ⟨g, 0 + 1, none⟩ = some (.int .i64 (lnP p : Int)) := by
        obtain ⟨v, lay⟩ := lay
        exact lay.row.cell (j := 1) rfl
      (refine CC.seq ?_; refine CC.region ?_; refine LL.val (R.ltF rfl rfl rfl (by omega)) rfl rfl rfl ?_; refine LL.nilS ?_; refine CC.seq ?_; refine CC.no rfl ?_; refine CC.exit ?_; refine EE.thenX ?_; refine EE.thenX ?_; refine EE.inX ?_; refine EE.thenN ?_; refine CC.seq ?_; refine CC.seq ?_; refine CC.region ?_; refine LL.val (R.move rfl rfl) rfl rfl rfl ?_; refine LL.val (R.len rfl rfl rfl rfl) rfl rfl rfl ?_; refine LL.val (R.gtT rfl rfl rfl (by omega)) rfl rfl rfl ?_; refine LL.nilS ?_; refine CC.yes rfl ?_; refine CC.region ?_; refine LL.val (R.field rfl rfl (I.fld rfl)) rfl rfl rfl ?_; refine LL.val (R.field rfl rfl (I.fld rfl)) rfl rfl rfl ?_; refine LL.val (R.load rfl rfl (I.ld1 rfl (by assumption))) rfl rfl rfl ?_)
      obtain ⟨v0, lay⟩ := lay
      refine LL.call (R.call rfl rfl rfl) rfl rfl rfl (settle_any g _ _ _ _ ts W lay (by omega)) ?_
      rintro e W2 ⟨⟨vv, rfl⟩, ⟨v, lay2, _⟩, b2, _⟩
      refine ⟨_, rfl, ?_⟩
      have c0 := lay2.row.cell (j := 0) rfl
      (refine LL.nilS ?_; refine CC.seq ?_; refine CC.region ?_; refine LL.val (R.field rfl rfl (I.fld rfl)) rfl rfl rfl ?_; refine LL.val (R.field rfl rfl (I.fld rfl)) rfl rfl rfl ?_; refine LL.val (R.load rfl rfl (I.ld1 rfl (by assumption))) rfl rfl rfl ?_; refine LL.val (R.assign rfl rfl) rfl rfl rfl ?_; refine LL.val (R.assign rfl rfl) rfl rfl rfl ?_; refine LL.nilS ?_; refine CC.ret ?_)
      refine EE.ret _ rfl rfl ?_
      exact ⟨v, rfl, lay2.own, q.trans b2⟩
  obtain ⟨p, hp⟩ : ∃ p, l[i]? = some p := ⟨_, List.getElem?_eq_getElem (by omega)⟩
  obtain ⟨bk, off, rfl, hbl, hcs⟩ := (har.up q).get pEnc hp
  (refine CC.seq ?_; refine CC.region ?_; refine LL.val (R.ltT rfl rfl rfl (by omega)) rfl rfl rfl ?_; refine LL.nilS ?_; refine CC.seq ?_; refine CC.yes rfl ?_; refine CC.skip ?_; refine EE.thenN ?_; refine CC.seq ?_; refine CC.block ?_; refine CC.seq ?_; refine CC.region ?_; refine LL.val (R.move rfl rfl) rfl rfl rfl ?_; refine LL.val (R.index rfl rfl rfl (I.ixS rfl (by omega))) rfl rfl rfl ?_)
  refine LL.val (R.load rfl rfl (I.ldN (vs := pE p) rfl rfl hcs)) rfl rfl rfl ?_
  refine LL.alloc [.int .i64 0, .int .u64 0] rfl rfl rfl rfl rfl ?_
  intro W2 g6 eg6 r6 zg6 b6
  (refine LL.val (R.assign rfl rfl) rfl rfl rfl ?_)
  refine LL.storeN (vs := pE p) rfl rfl rfl rfl r6 (Nat.le_of_ble_eq_true rfl) (pEnc.one _) rfl rfl ?_
  intro W3 r6 gr6 z6
  have q3 : Below w.heap.size w W3 := (q.trans (b6.mono q.size)).grown gr6 (by omega) (by rintro k ⟨⟩; have := q.size; omega)
  obtain ⟨v, lay⟩ := lay
  have lay3 := lay.up (b6.grown gr6 b6.size (by rintro k ⟨⟩; omega))
  have hv6 : v.ownBlock ≠ some g6 := by
    rcases lay.own.above with h0 | ⟨b, h0, _, hb⟩
    · rw [h0]; simp
    · rw [h0]; intro e; cases e; omega
  have r6 : RowL W3 g6 56 (pE p) := r6
  clear gr6 z6 b6
  have c6 := r6.cell (j := 0) rfl
  have hpw := hw p (List.mem_of_getElem? hp)
  by_cases hneg : p.1 < 0
  · have h1 := PAt.neg hp hneg
    have e1 : orderN l = 2 := by unfold orderN; rw [h1]; rfl
    have e2 : orderP l = [] := by unfold orderP; rw [h1]; rfl
    rw [e1, e2]
    (refine LL.nilS ?_; refine CC.seq ?_; refine CC.seq ?_; refine CC.region ?_; refine LL.val (R.field rfl rfl (I.fld rfl)) rfl rfl rfl ?_; refine LL.val (R.load rfl rfl (I.ld1 rfl (by assumption))) rfl rfl rfl ?_; refine LL.val (R.ltT rfl rfl rfl (by omega)) rfl rfl rfl ?_; refine LL.nilS ?_; refine CC.yes rfl ?_; refine CC.seq ?_; refine CC.region ?_; refine LL.val (R.assign rfl rfl) rfl rfl rfl ?_; refine LL.val (R.assign rfl rfl) rfl rfl rfl ?_; refine LL.nilS ?_; refine CC.ret ?_; refine EE.thenR ?_; refine EE.inR ?_; refine EE.thenR ?_; refine EE.thenR ?_; refine EE.inR ?_; refine EE.thenR ?_)
    refine EE.ret _ rfl rfl ?_
    exact ⟨_, rfl, OwnsT.none _ _ _, q3⟩
  obtain ⟨n, hn⟩ : ∃ n : Nat, p.1 = (n : Int) := ⟨p.1.toNat, by omega⟩
  have hln := lnP_nat hn
  have hst := hP.step hp (by omega)
  have hpc : (pE p) = [.int .i64 (n : Int), .int .u64 (p.2 : Int)] := by unfold pE; rw [hn]
  rw [hn] at c6 hpw
  have hps := prevL_succ hp
  have q3d := q3.trans ((below_drew (w := W3)).mono (by have := q3.size; omega))
  have layd := lay3.up (below_drew (w := W3))
  have r6d := r6.up (below_drew (w := W3))
  have c6d : W3.drew.cell? ⟨g6, 0, none⟩ = some (.int .i64 (n : Int)) := c6
  (refine LL.nilS ?_; refine CC.seq ?_; refine CC.seq ?_; refine CC.region ?_; refine LL.val (R.field rfl rfl (I.fld rfl)) rfl rfl rfl ?_; refine LL.val (R.load rfl rfl (I.ld1 rfl (by assumption))) rfl rfl rfl ?_; refine LL.val (R.ltF rfl rfl rfl (by omega)) rfl rfl rfl ?_; refine LL.nilS ?_; refine CC.no rfl ?_; refine CC.skip ?_; refine EE.thenN ?_; refine CC.seq ?_; refine CC.seq ?_)
  refine CC.quiet (by kernel_rfl) (by kernel_rfl) ?_
  have hway : ∃ o, prevL l i = o ∧ ((i = 0 ∧ o = none) ∨ (0 < i ∧ ∃ k, o = some k ∧ k = lnP p) ∨ (0 < i ∧ ∃ k, o = some k ∧ k ≠ lnP p)) := by
    refine ⟨_, rfl, ?_⟩
    rcases Nat.eq_zero_or_pos i with h0 | h0
    · exact .inl ⟨h0, by rw [h0]; rfl⟩
    · obtain ⟨p', _, e0⟩ := prevL_pos (l := l) (i := i) h0 (by omega)
      by_cases hk : lnP p' = lnP p
      · exact .inr (.inl ⟨h0, _, e0, hk⟩)
      · exact .inr (.inr ⟨h0, _, e0, hk⟩)
  obtain ⟨o, ho, hway⟩ := hway
  rw [ho] at hst layd
  rcases hway with ⟨h0, rfl⟩ | ⟨h0, k, rfl, hk⟩ | ⟨h0, k, rfl, hk⟩
  case' inl =>
    (refine SS.val (R.move rfl rfl) rfl rfl ?_; refine SS.val (R.gtF rfl rfl rfl (by omega)) rfl rfl ?_; refine SS.val (R.move rfl rfl) rfl rfl ?_; refine SS.skip rfl rfl ?_; refine SS.skip rfl rfl ?_; refine SS.skip rfl rfl ?_; refine SS.skip rfl rfl ?_; refine SS.skip rfl rfl ?_; refine SS.skip rfl rfl ?_; refine SS.val (R.pick rfl rfl rfl) rfl rfl ?_; refine SS.nilQ ?_)
    (refine EE.thenN ?_; refine CC.no rfl ?_; refine CC.skip ?_; refine EE.thenN ?_; refine CC.seq ?_; refine CC.region ?_; refine LL.val (R.field rfl rfl (I.fld rfl)) rfl rfl rfl ?_)
    obtain ⟨W4, hW4⟩ : ∃ X, X = W3.drew := ⟨_, rfl⟩
    rw [← hW4] at layd q3d r6d ⊢
    have lay4 : ∃ v, LayW W4 g w.heap.size v (lineI none) (ts ++ gapA none p) ∧ v.ownBlock ≠ some g6 := ⟨_, by simpa [gapA] using layd, hv6⟩
  case' inr.inl =>
    have cg : W3.drew.cell? ⟨g, 0 + 1, none⟩ = some (.int .i64 (k : Int)) := by
      exact layd.row.cell (j := 1) rfl
    have hkn : k = n / 8 := by omega
    (refine SS.val (R.move rfl rfl) rfl rfl ?_; refine SS.val (R.gtT rfl rfl rfl (by omega)) rfl rfl ?_; refine SS.val (R.move rfl rfl) rfl rfl ?_; refine SS.val (R.field rfl rfl (I.fld rfl)) rfl rfl ?_; refine SS.val (R.load rfl rfl (I.ld1 rfl (by assumption))) rfl rfl ?_)
    refine SS.call (R.call rfl rfl rfl) rfl rfl (line_any n _ (by omega)) ?_
    (refine SS.val (R.field rfl rfl (I.fld rfl)) rfl rfl ?_; refine SS.val (R.load rfl rfl (I.ld1 rfl (by assumption))) rfl rfl ?_; refine SS.val (R.neF rfl rfl rfl (by omega)) rfl rfl ?_; refine SS.val (R.pick rfl rfl rfl) rfl rfl ?_; refine SS.nilQ ?_)
    (refine EE.thenN ?_; refine CC.no rfl ?_; refine CC.skip ?_; refine EE.thenN ?_; refine CC.seq ?_; refine CC.region ?_; refine LL.val (R.field rfl rfl (I.fld rfl)) rfl rfl rfl ?_)
    obtain ⟨W4, hW4⟩ : ∃ X, X = W3.drew := ⟨_, rfl⟩
    rw [← hW4] at layd q3d r6d ⊢
    have lay4 : ∃ v, LayW W4 g w.heap.size v (lineI (some k)) (ts ++ gapA (some k) p) ∧ v.ownBlock ≠ some g6 := ⟨_, by simpa [gapA, hk] using layd, hv6⟩
  case' inr.inr =>
    have cg : W3.drew.cell? ⟨g, 0 + 1, none⟩ = some (.int .i64 (k : Int)) := by
      exact layd.row.cell (j := 1) rfl
    have hkn : k ≠ n / 8 := by omega
    (refine SS.val (R.move rfl rfl) rfl rfl ?_; refine SS.val (R.gtT rfl rfl rfl (by omega)) rfl rfl ?_; refine SS.val (R.move rfl rfl) rfl rfl ?_; refine SS.val (R.field rfl rfl (I.fld rfl)) rfl rfl ?_; refine SS.val (R.load rfl rfl (I.ld1 rfl (by assumption))) rfl rfl ?_)
    refine SS.call (R.call rfl rfl rfl) rfl rfl (line_any n _ (by omega)) ?_
    (refine SS.val (R.field rfl rfl (I.fld rfl)) rfl rfl ?_; refine SS.val (R.load rfl rfl (I.ld1 rfl (by assumption))) rfl rfl ?_; refine SS.val (R.neT rfl rfl rfl (by omega)) rfl rfl ?_; refine SS.val (R.pick rfl rfl rfl) rfl rfl ?_; refine SS.nilQ ?_)
    (refine EE.thenN ?_; refine CC.yes rfl ?_; refine CC.region ?_; refine LL.val (R.field rfl rfl (I.fld rfl)) rfl rfl rfl ?_; refine LL.val (R.field rfl rfl (I.fld rfl)) rfl rfl rfl ?_; refine LL.val (R.load rfl rfl (I.ld1 rfl (by assumption))) rfl rfl rfl ?_)
    refine LL.call (R.call rfl rfl rfl) rfl rfl rfl (settle_any g _ _ _ _ ts _ layd (by omega)) ?_
    rintro e W4 ⟨⟨vv, rfl⟩, ⟨v4, lay4', hv4'⟩, b4, kp4⟩
    refine ⟨_, rfl, ?_⟩
    have hgl := layd.row.lt
    have hg6l := r6d.lt
    have y4 := b4.size
    have yd : W3.drew.heap.size = W3.heap.size := rfl
    have hv4 : v4.ownBlock ≠ some g6 := by
      rcases hv4' with e | ⟨b, e, hb⟩
      · rw [e]; exact hv6
      · rw [e]; intro e2; cases e2; omega
    replace r6d : RowL W4 g6 56 (pE p) := r6d.same (kp4 g6 hg6l (by omega) hv6)
    replace q3d := q3d.trans b4
    have lay4 : ∃ v, LayW W4 g w.heap.size v (lineI (some k)) (ts ++ gapA (some k) p) ∧ v.ownBlock ≠ some g6 := ⟨v4, by simpa [gapA, Ne.symm hk] using lay4', hv4⟩
    (refine LL.nilS ?_; refine CC.seq ?_; refine CC.region ?_; refine LL.val (R.field rfl rfl (I.fld rfl)) rfl rfl rfl ?_)
  all_goals
    obtain ⟨v4, lay4, hv4⟩ := lay4
    refine LL.val (R.load rfl rfl (I.ldN (vs := pE p) rfl rfl (r6d.cells rfl))) rfl rfl rfl ?_
    refine LL.call (R.call rfl rfl rfl) rfl rfl rfl (store_any g _ _ _ p _ _ lay4 (by have := gapA_len (prevL l i) p; rw [ho] at this; rw [List.length_append]; omega)) ?_
    rintro e W5 ⟨⟨vv5, rfl⟩, ⟨v5, lay5, hv5⟩, b5, kp5⟩
    refine ⟨_, rfl, ?_⟩
    have hgl4 := lay4.row.lt
    have hg6l4 := r6d.lt
    have y5 := b5.size
    have r65 : RowL W5 g6 56 (pE p) := r6d.same (kp5 g6 hg6l4 (by omega) hv4)
    have q5 := q3d.trans b5
    have c65 : W5.cell? ⟨g6, 0 + 0, none⟩ = some (.int .i64 (n : Int)) := by rw [← hn]; exact r65.cell (j := 0) rfl
    (repeat (first | (first | refine CC.seq ?_ | refine CC.region ?_ | refine LL.nilS ?_ | refine CC.yes rfl ?_ | refine CC.no rfl ?_ | refine CC.block ?_ | refine EE.thenN ?_ | refine LL.nil ?_ | refine CC.exit ?_ | refine CC.ret ?_ | refine CC.skip ?_ | refine EE.thenX ?_ | refine EE.thenR ?_ | refine EE.inN ?_ | refine EE.inX ?_ | refine EE.inX' rfl ?_ | refine EE.inR ?_ | refine CC.label ?_ | refine EE.thenG ?_ | refine EE.inG ?_) | (first | refine LL.val (R.move rfl rfl) rfl rfl rfl ?_ | refine LL.val (R.assign rfl rfl) rfl rfl rfl ?_ | refine LL.val (R.nil rfl rfl) rfl rfl rfl ?_ | refine LL.val (R.field rfl rfl (I.fld rfl)) rfl rfl rfl ?_ | refine LL.val (R.load rfl rfl (I.ld1 rfl (by assumption))) rfl rfl rfl ?_ | refine LL.val (R.load rfl rfl (I.ld1 rfl (RowL.cell (by assumption) rfl))) rfl rfl rfl ?_ | refine LL.val (R.index rfl rfl rfl (I.ixA1c rfl rfl (by first | omega | decide))) rfl rfl rfl ?_ | refine LL.val (R.index rfl rfl rfl (I.ixS1c rfl rfl (by omega))) rfl rfl rfl ?_ | refine LL.val (R.index rfl rfl rfl (I.ixAc rfl rfl (by first | omega | decide))) rfl rfl rfl ?_ | refine LL.val (R.index rfl rfl rfl (I.ixSc rfl rfl (by omega))) rfl rfl rfl ?_ | refine LL.val (R.index rfl rfl rfl (I.ixA1 rfl (by omega))) rfl rfl rfl ?_ | refine LL.val (R.index rfl rfl rfl (I.ixS1 rfl (by omega))) rfl rfl rfl ?_ | refine LL.val (R.index rfl rfl rfl (I.ixA rfl (by omega))) rfl rfl rfl ?_ | refine LL.val (R.index rfl rfl rfl (I.ixS rfl (by omega))) rfl rfl rfl ?_ | refine LL.val (R.ltT rfl rfl rfl (by omega)) rfl rfl rfl ?_ | refine LL.val (R.ltF rfl rfl rfl (by omega)) rfl rfl rfl ?_ | refine LL.val (R.addNc rfl rfl rfl rfl (by omega)) rfl rfl rfl ?_ | refine LL.val (R.subNc rfl rfl rfl rfl (by omega) (by omega)) rfl rfl rfl ?_ | refine LL.val (R.addN rfl rfl rfl (by omega)) rfl rfl rfl ?_ | refine LL.val (R.subN rfl rfl rfl (by omega) (by omega)) rfl rfl rfl ?_ | refine LL.val (R.subcN rfl rfl rfl rfl (by omega) (by omega)) rfl rfl rfl ?_ | refine LL.val (R.addI rfl rfl rfl (by omega)) rfl rfl rfl ?_ | refine LL.val (R.subI rfl rfl rfl (by omega)) rfl rfl rfl ?_ | refine LL.val (R.mulNc rfl rfl rfl rfl (by omega)) rfl rfl rfl ?_ | refine LL.val (R.mulcN rfl rfl rfl rfl (by omega)) rfl rfl rfl ?_ | refine LL.val (R.quoNc rfl rfl rfl rfl (by omega) (by omega)) rfl rfl rfl ?_ | refine LL.val (R.remNc rfl rfl rfl rfl (by omega)) rfl rfl rfl ?_ | refine LL.val (R.mulN rfl rfl rfl (by omega)) rfl rfl rfl ?_ | refine LL.val (R.quoN rfl rfl rfl (by omega) (by omega)) rfl rfl rfl ?_ | refine LL.val (R.remN rfl rfl rfl (by omega)) rfl rfl rfl ?_ | refine LL.val (R.leT rfl rfl rfl (by omega)) rfl rfl rfl ?_ | refine LL.val (R.leF rfl rfl rfl (by omega)) rfl rfl rfl ?_ | refine LL.val (R.gtT rfl rfl rfl (by omega)) rfl rfl rfl ?_ | refine LL.val (R.gtF rfl rfl rfl (by omega)) rfl rfl rfl ?_ | refine LL.val (R.geT rfl rfl rfl (by omega)) rfl rfl rfl ?_ | refine LL.val (R.geF rfl rfl rfl (by omega)) rfl rfl rfl ?_ | refine LL.val (R.eqT rfl rfl rfl (by omega)) rfl rfl rfl ?_ | refine LL.val (R.eqF rfl rfl rfl (by omega)) rfl rfl rfl ?_ | refine LL.val (R.neT rfl rfl rfl (by omega)) rfl rfl rfl ?_ | refine LL.val (R.neF rfl rfl rfl (by omega)) rfl rfl rfl ?_ | refine LL.val (R.eqPtr rfl rfl rfl rfl rfl) rfl rfl rfl ?_ | refine LL.val (R.nePtr rfl rfl rfl rfl rfl) rfl rfl rfl ?_ | refine LL.val (R.eqSl rfl rfl rfl rfl rfl) rfl rfl rfl ?_ | refine LL.val (R.neSl rfl rfl rfl rfl rfl) rfl rfl rfl ?_ | refine LL.val (R.eqFn rfl rfl rfl rfl) rfl rfl rfl ?_ | refine LL.val (R.eqBool rfl rfl rfl rfl rfl) rfl rfl rfl ?_ | refine LL.val (R.neBool rfl rfl rfl rfl rfl) rfl rfl rfl ?_ | refine LL.val (R.xorU rfl rfl rfl (by first | omega | decide) (by first | omega | decide)) rfl rfl rfl ?_ | refine LL.val (R.addUN rfl rfl rfl (by omega)) rfl rfl rfl ?_ | refine LL.val (R.not rfl rfl) rfl rfl rfl ?_ | refine LL.val (R.lenS rfl rfl rfl rfl) rfl rfl rfl ?_ | refine LL.val (R.len rfl rfl rfl rfl) rfl rfl rfl ?_ | refine LL.val (R.pick rfl rfl rfl) rfl rfl rfl ?_ | refine LL.val (R.extract rfl rfl rfl) rfl rfl rfl ?_ | refine LL.val (R.func rfl rfl rfl) rfl rfl rfl ?_ | refine LL.val (R.slice rfl rfl rfl rfl rfl (I.slA rfl)) rfl rfl rfl ?_ | refine LL.val (R.slice rfl rfl rfl rfl rfl (I.slAto rfl (by omega))) rfl rfl rfl ?_) | refine LL.skip rfl rfl ?_))
    refine LL.call (R.call rfl rfl rfl) rfl rfl rfl (line_any n _ (by omega)) ?_
    rintro e W6 ⟨rfl, rfl⟩
    refine ⟨_, rfl, ?_⟩
    (repeat (first | (first | refine CC.seq ?_ | refine CC.region ?_ | refine LL.nilS ?_ | refine CC.yes rfl ?_ | refine CC.no rfl ?_ | refine CC.block ?_ | refine EE.thenN ?_ | refine LL.nil ?_ | refine CC.exit ?_ | refine CC.ret ?_ | refine CC.skip ?_ | refine EE.thenX ?_ | refine EE.thenR ?_ | refine EE.inN ?_ | refine EE.inX ?_ | refine EE.inX' rfl ?_ | refine EE.inR ?_ | refine CC.label ?_ | refine EE.thenG ?_ | refine EE.inG ?_) | (first | refine LL.val (R.move rfl rfl) rfl rfl rfl ?_ | refine LL.val (R.assign rfl rfl) rfl rfl rfl ?_ | refine LL.val (R.nil rfl rfl) rfl rfl rfl ?_ | refine LL.val (R.field rfl rfl (I.fld rfl)) rfl rfl rfl ?_ | refine LL.val (R.load rfl rfl (I.ld1 rfl (by assumption))) rfl rfl rfl ?_ | refine LL.val (R.load rfl rfl (I.ld1 rfl (RowL.cell (by assumption) rfl))) rfl rfl rfl ?_ | refine LL.val (R.index rfl rfl rfl (I.ixA1c rfl rfl (by first | omega | decide))) rfl rfl rfl ?_ | refine LL.val (R.index rfl rfl rfl (I.ixS1c rfl rfl (by omega))) rfl rfl rfl ?_ | refine LL.val (R.index rfl rfl rfl (I.ixAc rfl rfl (by first | omega | decide))) rfl rfl rfl ?_ | refine LL.val (R.index rfl rfl rfl (I.ixSc rfl rfl (by omega))) rfl rfl rfl ?_ | refine LL.val (R.index rfl rfl rfl (I.ixA1 rfl (by omega))) rfl rfl rfl ?_ | refine LL.val (R.index rfl rfl rfl (I.ixS1 rfl (by omega))) rfl rfl rfl ?_ | refine LL.val (R.index rfl rfl rfl (I.ixA rfl (by omega))) rfl rfl rfl ?_ | refine LL.val (R.index rfl rfl rfl (I.ixS rfl (by omega))) rfl rfl rfl ?_ | refine LL.val (R.ltT rfl rfl rfl (by omega)) rfl rfl rfl ?_ | refine LL.val (R.ltF rfl rfl rfl (by omega)) rfl rfl rfl ?_ | refine LL.val (R.addNc rfl rfl rfl rfl (by omega)) rfl rfl rfl ?_ | refine LL.val (R.subNc rfl rfl rfl rfl (by omega) (by omega)) rfl rfl rfl ?_ | refine LL.val (R.addN rfl rfl rfl (by omega)) rfl rfl rfl ?_ | refine LL.val (R.subN rfl rfl rfl (by omega) (by omega)) rfl rfl rfl ?_ | refine LL.val (R.subcN rfl rfl rfl rfl (by omega) (by omega)) rfl rfl rfl ?_ | refine LL.val (R.addI rfl rfl rfl (by omega)) rfl rfl rfl ?_ | refine LL.val (R.subI rfl rfl rfl (by omega)) rfl rfl rfl ?_ | refine LL.val (R.mulNc rfl rfl rfl rfl (by omega)) rfl rfl rfl ?_ | refine LL.val (R.mulcN rfl rfl rfl rfl (by omega)) rfl rfl rfl ?_ | refine LL.val (R.quoNc rfl rfl rfl rfl (by omega) (by omega)) rfl rfl rfl ?_ | refine LL.val (R.remNc rfl rfl rfl rfl (by omega)) rfl rfl rfl ?_ | refine LL.val (R.mulN rfl rfl rfl (by omega)) rfl rfl rfl ?_ | refine LL.val (R.quoN rfl rfl rfl (by omega) (by omega)) rfl rfl rfl ?_ | refine LL.val (R.remN rfl rfl rfl (by omega)) rfl rfl rfl ?_ | refine LL.val (R.leT rfl rfl rfl (by omega)) rfl rfl rfl ?_ | refine LL.val (R.leF rfl rfl rfl (by omega)) rfl rfl rfl ?_ | refine LL.val (R.gtT rfl rfl rfl (by omega)) rfl rfl rfl ?_ | refine LL.val (R.gtF rfl rfl rfl (by omega)) rfl rfl rfl ?_ | refine LL.val (R.geT rfl rfl rfl (by omega)) rfl rfl rfl ?_ | refine LL.val (R.geF rfl rfl rfl (by omega)) rfl rfl rfl ?_ | refine LL.val (R.eqT rfl rfl rfl (by omega)) rfl rfl rfl ?_ | refine LL.val (R.eqF rfl rfl rfl (by omega)) rfl rfl rfl ?_ | refine LL.val (R.neT rfl rfl rfl (by omega)) rfl rfl rfl ?_ | refine LL.val (R.neF rfl rfl rfl (by omega)) rfl rfl rfl ?_ | refine LL.val (R.eqPtr rfl rfl rfl rfl rfl) rfl rfl rfl ?_ | refine LL.val (R.nePtr rfl rfl rfl rfl rfl) rfl rfl rfl ?_ | refine LL.val (R.eqSl rfl rfl rfl rfl rfl) rfl rfl rfl ?_ | refine LL.val (R.neSl rfl rfl rfl rfl rfl) rfl rfl rfl ?_ | refine LL.val (R.eqFn rfl rfl rfl rfl) rfl rfl rfl ?_ | refine LL.val (R.eqBool rfl rfl rfl rfl rfl) rfl rfl rfl ?_ | refine LL.val (R.neBool rfl rfl rfl rfl rfl) rfl rfl rfl ?_ | refine LL.val (R.xorU rfl rfl rfl (by first | omega | decide) (by first | omega | decide)) rfl rfl rfl ?_ | refine LL.val (R.addUN rfl rfl rfl (by omega)) rfl rfl rfl ?_ | refine LL.val (R.not rfl rfl) rfl rfl rfl ?_ | refine LL.val (R.lenS rfl rfl rfl rfl) rfl rfl rfl ?_ | refine LL.val (R.len rfl rfl rfl rfl) rfl rfl rfl ?_ | refine LL.val (R.pick rfl rfl rfl) rfl rfl rfl ?_ | refine LL.val (R.extract rfl rfl rfl) rfl rfl rfl ?_ | refine LL.val (R.func rfl rfl rfl) rfl rfl rfl ?_ | refine LL.val (R.slice rfl rfl rfl rfl rfl (I.slA rfl)) rfl rfl rfl ?_ | refine LL.val (R.slice rfl rfl rfl rfl rfl (I.slAto rfl (by omega))) rfl rfl rfl ?_) | refine LL.skip rfl rfl ?_))
    refine LL.store rfl rfl rfl rfl lay5.row (by exact Nat.le_of_ble_eq_true rfl) rfl rfl rfl rfl ?_
    intro W7 r7 g7 z7
    (repeat (first | (first | refine CC.seq ?_ | refine CC.region ?_ | refine LL.nilS ?_ | refine CC.yes rfl ?_ | refine CC.no rfl ?_ | refine CC.block ?_ | refine EE.thenN ?_ | refine LL.nil ?_ | refine CC.exit ?_ | refine CC.ret ?_ | refine CC.skip ?_ | refine EE.thenX ?_ | refine EE.thenR ?_ | refine EE.inN ?_ | refine EE.inX ?_ | refine EE.inX' rfl ?_ | refine EE.inR ?_ | refine CC.label ?_ | refine EE.thenG ?_ | refine EE.inG ?_) | (first | refine LL.val (R.move rfl rfl) rfl rfl rfl ?_ | refine LL.val (R.assign rfl rfl) rfl rfl rfl ?_ | refine LL.val (R.nil rfl rfl) rfl rfl rfl ?_ | refine LL.val (R.field rfl rfl (I.fld rfl)) rfl rfl rfl ?_ | refine LL.val (R.load rfl rfl (I.ld1 rfl (by assumption))) rfl rfl rfl ?_ | refine LL.val (R.load rfl rfl (I.ld1 rfl (RowL.cell (by assumption) rfl))) rfl rfl rfl ?_ | refine LL.val (R.index rfl rfl rfl (I.ixA1c rfl rfl (by first | omega | decide))) rfl rfl rfl ?_ | refine LL.val (R.index rfl rfl rfl (I.ixS1c rfl rfl (by omega))) rfl rfl rfl ?_ | refine LL.val (R.index rfl rfl rfl (I.ixAc rfl rfl (by first | omega | decide))) rfl rfl rfl ?_ | refine LL.val (R.index rfl rfl rfl (I.ixSc rfl rfl (by omega))) rfl rfl rfl ?_ | refine LL.val (R.index rfl rfl rfl (I.ixA1 rfl (by omega))) rfl rfl rfl ?_ | refine LL.val (R.index rfl rfl rfl (I.ixS1 rfl (by omega))) rfl rfl rfl ?_ | refine LL.val (R.index rfl rfl rfl (I.ixA rfl (by omega))) rfl rfl rfl ?_ | refine LL.val (R.index rfl rfl rfl (I.ixS rfl (by omega))) rfl rfl rfl ?_ | refine LL.val (R.ltT rfl rfl rfl (by omega)) rfl rfl rfl ?_ | refine LL.val (R.ltF rfl rfl rfl (by omega)) rfl rfl rfl ?_ | refine LL.val (R.addNc rfl rfl rfl rfl (by omega)) rfl rfl rfl ?_ | refine LL.val (R.subNc rfl rfl rfl rfl (by omega) (by omega)) rfl rfl rfl ?_ | refine LL.val (R.addN rfl rfl rfl (by omega)) rfl rfl rfl ?_ | refine LL.val (R.subN rfl rfl rfl (by omega) (by omega)) rfl rfl rfl ?_ | refine LL.val (R.subcN rfl rfl rfl rfl (by omega) (by omega)) rfl rfl rfl ?_ | refine LL.val (R.addI rfl rfl rfl (by omega)) rfl rfl rfl ?_ | refine LL.val (R.subI rfl rfl rfl (by omega)) rfl rfl rfl ?_ | refine LL.val (R.mulNc rfl rfl rfl rfl (by omega)) rfl rfl rfl ?_ | refine LL.val (R.mulcN rfl rfl rfl rfl (by omega)) rfl rfl rfl ?_ | refine LL.val (R.quoNc rfl rfl rfl rfl (by omega) (by omega)) rfl rfl rfl ?_ | refine LL.val (R.remNc rfl rfl rfl rfl (by omega)) rfl rfl rfl ?_ | refine LL.val (R.mulN rfl rfl rfl (by omega)) rfl rfl rfl ?_ | refine LL.val (R.quoN rfl rfl rfl (by omega) (by omega)) rfl rfl rfl ?_ | refine LL.val (R.remN rfl rfl rfl (by omega)) rfl rfl rfl ?_ | refine LL.val (R.leT rfl rfl rfl (by omega)) rfl rfl rfl ?_ | refine LL.val (R.leF rfl rfl rfl (by omega)) rfl rfl rfl ?_ | refine LL.val (R.gtT rfl rfl rfl (by omega)) rfl rfl rfl ?_ | refine LL.val (R.gtF rfl rfl rfl (by omega)) rfl rfl rfl ?_ | refine LL.val (R.geT rfl rfl rfl (by omega)) rfl rfl rfl ?_ | refine LL.val (R.geF rfl rfl rfl (by omega)) rfl rfl rfl ?_ | refine LL.val (R.eqT rfl rfl rfl (by omega)) rfl rfl rfl ?_ | refine LL.val (R.eqF rfl rfl rfl (by omega)) rfl rfl rfl ?_ | refine LL.val (R.neT rfl rfl rfl (by omega)) rfl rfl rfl ?_ | refine LL.val (R.neF rfl rfl rfl (by omega)) rfl rfl rfl ?_ | refine LL.val (R.eqPtr rfl rfl rfl rfl rfl) rfl rfl rfl ?_ | refine LL.val (R.nePtr rfl rfl rfl rfl rfl) rfl rfl rfl ?_ | refine LL.val (R.eqSl rfl rfl rfl rfl rfl) rfl rfl rfl ?_ | refine LL.val (R.neSl rfl rfl rfl rfl rfl) rfl rfl rfl ?_ | refine LL.val (R.eqFn rfl rfl rfl rfl) rfl rfl rfl ?_ | refine LL.val (R.eqBool rfl rfl rfl rfl rfl) rfl rfl rfl ?_ | refine LL.val (R.neBool rfl rfl rfl rfl rfl) rfl rfl rfl ?_ | refine LL.val (R.xorU rfl rfl rfl (by first | omega | decide) (by first | omega | decide)) rfl rfl rfl ?_ | refine LL.val (R.addUN rfl rfl rfl (by omega)) rfl rfl rfl ?_ | refine LL.val (R.not rfl rfl) rfl rfl rfl ?_ | refine LL.val (R.lenS rfl rfl rfl rfl) rfl rfl rfl ?_ | refine LL.val (R.len rfl rfl rfl rfl) rfl rfl rfl ?_ | refine LL.val (R.pick rfl rfl rfl) rfl rfl rfl ?_ | refine LL.val (R.extract rfl rfl rfl) rfl rfl rfl ?_ | refine LL.val (R.func rfl rfl rfl) rfl rfl rfl ?_ | refine LL.val (R.slice rfl rfl rfl rfl rfl (I.slA rfl)) rfl rfl rfl ?_ | refine LL.val (R.slice rfl rfl rfl rfl rfl (I.slAto rfl (by omega))) rfl rfl rfl ?_) | refine LL.skip rfl rfl ?_))
    refine EE.round (i + 1, ts ++ gapA _ p ++ [stA p]) ⟨rfl, rfl, rfl, rfl, rfl, trivial⟩ ⟨hst, q5.grown g7 (by omega) (by rintro k ⟨⟩; omega), v5, ?_, lay5.own.grown g7 lay5.ne, lay5.ne, lay5.le⟩ (by show N - (i + 1) < N - i; omega)
    rw [hps]
    show RowL W7 g 68 [v5, .int .i64 (lnP p : Int)]
    rw [hln]
    exact r7
end Go.Proofs.Ytcmgpfahpmkeoaa
