/- The walks of NamesJoins, NamesHolds. -/
import Derived.Test.YtnfggikomoialaaDoorBack
import Derived.Test.YtnfggikomoialaaDoorChecksW
namespace Go.Proofs.YtnfggikomoialaaDoor
set_option linter.unusedVariables false
set_option linter.unusedSimpArgs false
open Go.RowKit Go.Shelf

def minS (ps : List Bs) : Nat := (ps.map fun p => min p.length 4000).sum
theorem minS_step {ps : List Bs} {k : Nat} {p : Bs} (h : ps[k]? = some p) : minS (ps.take (k + 1)) = minS (ps.take k) + min p.length 4000 := by
  unfold minS
  rw [List.take_add_one, h]
  simp
theorem minS_take (ps : List Bs) : ∀ k, minS (ps.take k) ≤ 4000 * k
  | 0 => by simp [minS]
  | k + 1 => by
    have ih := minS_take ps k
    by_cases hk : k < ps.length
    · rw [minS_step (List.getElem?_eq_getElem hk)]
      omega
    · rw [List.take_of_length_le (by omega)] at ih ⊢
      omega
theorem minS_flat {ps : List Bs} (h : minS ps ≤ 3000) : (flatG ps).length ≤ 3000 + ps.length := by
  have key : ∀ ps : List Bs, minS ps ≤ 3000 → (flatG ps).length = minS ps + ps.length := by
    intro ps
    induction ps with
    | nil => intro _; rfl
    | cons x ps ih =>
      intro h
      have e : minS (x :: ps) = min x.length 4000 + minS ps := by simp [minS]
      have e2 : flatG (x :: ps) = (47 :: x) ++ flatG ps := rfl
      rw [e] at h
      rw [e, e2, List.length_append, ih (by omega), List.length_cons, List.length_cons]
      omega
  rw [key ps h]
  omega
set_option maxRecDepth 100000 in
set_option maxHeartbeats 1000000 in
theorem few_any (v : Value) (ps : List Bs) (w : World) (ha : ReadsT stE 1 w v ps) (hl : ps.length ≤ 9223372036854775807) :
    Calls Tryd.prog 17 #[v] w fun e w' => (∃ B, e = .returned (.bool B) ∧ (B = true → (flatG ps).length ≤ 100000)) ∧ w = w' := by
  obtain ⟨N, hN⟩ : ∃ N, ps.length = N := ⟨_, rfl⟩
  have ha0 := ha
  obtain ⟨a, cap, rfl, hc⟩ := ha.form hN
  rw [hN] at hl
  refine X.fn Tryd.func17 rfl (n := 30) rfl rfl ?_
  (refine CC.seq ?_; refine CC.region ?_; refine LL.val (R.assign rfl rfl) rfl rfl rfl ?_; refine LL.nilS ?_; refine CC.seq ?_; refine CC.region ?_; refine LL.val (R.assign rfl rfl) rfl rfl rfl ?_; refine LL.nilS ?_; refine CC.seq ?_; refine CC.seq ?_; refine CC.region ?_; refine LL.val (R.assign rfl rfl) rfl rfl rfl ?_; refine LL.nilS ?_; refine CC.block ?_)
  refine CC.loop (α := Nat) (fun k => [(0, .slice a N cap), (3, .int .i64 (minS (ps.take k) : Int)), (4, .int .i64 (k : Int))]) (fun k W => k ≤ N ∧ k ≤ 201 ∧ w = W) (fun k => N - k) 0 ⟨rfl, rfl, rfl, trivial⟩ ⟨by omega, by omega, rfl⟩ ?_
  rintro k W ⟨hk, hk2, rfl⟩
  have hb := minS_take ps k
  by_cases hlt : k < N
  · by_cases h200 : k ≤ 200
    · obtain ⟨p, hp⟩ : ∃ p, ps[k]? = some p := ⟨_, List.getElem?_eq_getElem (by omega)⟩
      obtain ⟨bl, off, rfl, hbl, hcs⟩ := ReadsT.one stEnc ha0 hp
      have hc1 := hcs _ rfl
      have hst := minS_step hp
      obtain ⟨F, hF⟩ : ∃ F, minS (ps.take k) = F := ⟨_, rfl⟩
      rw [hF] at hst hb ⊢
      (refine CC.seq ?_; refine CC.seq ?_; refine CC.region ?_; refine LL.val (R.move rfl rfl) rfl rfl rfl ?_; refine LL.val (R.move rfl rfl) rfl rfl rfl ?_; refine LL.val (R.len rfl rfl rfl rfl) rfl rfl rfl ?_; refine LL.val (R.ltT rfl rfl rfl (by omega)) rfl rfl rfl ?_; refine LL.val (R.move rfl rfl) rfl rfl rfl ?_; refine LL.val (R.move rfl rfl) rfl rfl rfl ?_; refine LL.val (R.leT rfl rfl rfl (by omega)) rfl rfl rfl ?_; refine LL.val (R.pick rfl rfl rfl) rfl rfl rfl ?_; refine LL.nilS ?_; refine CC.yes rfl ?_; refine CC.skip ?_; refine EE.thenN ?_; refine CC.seq ?_; refine CC.block ?_; refine CC.region ?_; refine LL.val (R.move rfl rfl) rfl rfl rfl ?_; refine LL.val (R.move rfl rfl) rfl rfl rfl ?_; refine LL.val (R.move rfl rfl) rfl rfl rfl ?_; refine LL.val (R.index rfl rfl rfl (I.ixS1 rfl (by omega))) rfl rfl rfl ?_; refine LL.val (R.load rfl rfl (I.ld1 rfl (by assumption))) rfl rfl rfl ?_; refine LL.val (R.lenS rfl rfl rfl rfl) rfl rfl rfl ?_)
      refine LL.val (R.min rfl rfl) rfl rfl rfl ?_
      have hm : (if (4000 : Int) < (p.length : Int) then (4000 : Int) else (p.length : Int)) = ((min p.length 4000 : Nat) : Int) := by split <;> omega
      rw [hm]
      obtain ⟨G, hG⟩ : ∃ G, min p.length 4000 = G := ⟨_, rfl⟩
      rw [hG] at hst ⊢
      (refine LL.val (R.addN rfl rfl rfl (by omega)) rfl rfl rfl ?_; refine LL.val (R.assign rfl rfl) rfl rfl rfl ?_; refine LL.nil ?_; refine EE.inN ?_; refine EE.thenN ?_; refine CC.region ?_; refine LL.val (R.move rfl rfl) rfl rfl rfl ?_; refine LL.val (R.addNc rfl rfl rfl rfl (by omega)) rfl rfl rfl ?_; refine LL.val (R.assign rfl rfl) rfl rfl rfl ?_; refine LL.nil ?_)
      exact EE.round (k + 1) ⟨rfl, by rw [hst]; rfl, rfl, trivial⟩ ⟨by omega, by omega, rfl⟩ (by omega)
    · (refine CC.seq ?_; refine CC.seq ?_; refine CC.region ?_; refine LL.val (R.move rfl rfl) rfl rfl rfl ?_; refine LL.val (R.move rfl rfl) rfl rfl rfl ?_; refine LL.val (R.len rfl rfl rfl rfl) rfl rfl rfl ?_; refine LL.val (R.ltT rfl rfl rfl (by omega)) rfl rfl rfl ?_; refine LL.val (R.move rfl rfl) rfl rfl rfl ?_; refine LL.val (R.move rfl rfl) rfl rfl rfl ?_; refine LL.val (R.leF rfl rfl rfl (by omega)) rfl rfl rfl ?_; refine LL.val (R.pick rfl rfl rfl) rfl rfl rfl ?_; refine LL.nilS ?_; refine CC.no rfl ?_; refine CC.exit ?_; refine EE.thenX ?_; refine EE.thenX ?_; refine EE.inX ?_; refine EE.thenN ?_; refine CC.seq ?_; refine CC.region ?_; refine LL.val (R.move rfl rfl) rfl rfl rfl ?_; refine LL.val (R.len rfl rfl rfl rfl) rfl rfl rfl ?_; refine LL.val (R.leF rfl rfl rfl (by omega)) rfl rfl rfl ?_; refine LL.val (R.move rfl rfl) rfl rfl rfl ?_; refine LL.skip rfl rfl ?_; refine LL.skip rfl rfl ?_; refine LL.val (R.pick rfl rfl rfl) rfl rfl rfl ?_; refine LL.val (R.assign rfl rfl) rfl rfl rfl ?_; refine LL.nilS ?_; refine CC.ret ?_)
      refine EE.ret _ rfl rfl ?_
      exact ⟨⟨_, rfl, fun h => by cases h⟩, rfl⟩
  · obtain rfl : k = N := by omega
    rw [List.take_of_length_le (by omega)] at hb ⊢
    have hfl := @minS_flat ps
    obtain ⟨F, hF⟩ : ∃ F, minS ps = F := ⟨_, rfl⟩
    rw [hF] at hb hfl ⊢
    by_cases h200 : k ≤ 200
    · by_cases h3000 : F ≤ 3000
      · have := hfl h3000
        (refine CC.seq ?_; refine CC.seq ?_; refine CC.region ?_; refine LL.val (R.move rfl rfl) rfl rfl rfl ?_; refine LL.val (R.move rfl rfl) rfl rfl rfl ?_; refine LL.val (R.len rfl rfl rfl rfl) rfl rfl rfl ?_; refine LL.val (R.ltF rfl rfl rfl (by omega)) rfl rfl rfl ?_; refine LL.val (R.move rfl rfl) rfl rfl rfl ?_; refine LL.skip rfl rfl ?_; refine LL.skip rfl rfl ?_; refine LL.val (R.pick rfl rfl rfl) rfl rfl rfl ?_; refine LL.nilS ?_; refine CC.no rfl ?_; refine CC.exit ?_; refine EE.thenX ?_; refine EE.thenX ?_; refine EE.inX ?_; refine EE.thenN ?_; refine CC.seq ?_; refine CC.region ?_; refine LL.val (R.move rfl rfl) rfl rfl rfl ?_; refine LL.val (R.len rfl rfl rfl rfl) rfl rfl rfl ?_; refine LL.val (R.leT rfl rfl rfl (by omega)) rfl rfl rfl ?_; refine LL.val (R.move rfl rfl) rfl rfl rfl ?_; refine LL.val (R.move rfl rfl) rfl rfl rfl ?_; refine LL.val (R.leT rfl rfl rfl (by omega)) rfl rfl rfl ?_; refine LL.val (R.pick rfl rfl rfl) rfl rfl rfl ?_; refine LL.val (R.assign rfl rfl) rfl rfl rfl ?_; refine LL.nilS ?_; refine CC.ret ?_)
        refine EE.ret _ rfl rfl ?_
        exact ⟨⟨_, rfl, fun _ => by omega⟩, rfl⟩
      · (refine CC.seq ?_; refine CC.seq ?_; refine CC.region ?_; refine LL.val (R.move rfl rfl) rfl rfl rfl ?_; refine LL.val (R.move rfl rfl) rfl rfl rfl ?_; refine LL.val (R.len rfl rfl rfl rfl) rfl rfl rfl ?_; refine LL.val (R.ltF rfl rfl rfl (by omega)) rfl rfl rfl ?_; refine LL.val (R.move rfl rfl) rfl rfl rfl ?_; refine LL.skip rfl rfl ?_; refine LL.skip rfl rfl ?_; refine LL.val (R.pick rfl rfl rfl) rfl rfl rfl ?_; refine LL.nilS ?_; refine CC.no rfl ?_; refine CC.exit ?_; refine EE.thenX ?_; refine EE.thenX ?_; refine EE.inX ?_; refine EE.thenN ?_; refine CC.seq ?_; refine CC.region ?_; refine LL.val (R.move rfl rfl) rfl rfl rfl ?_; refine LL.val (R.len rfl rfl rfl rfl) rfl rfl rfl ?_; refine LL.val (R.leT rfl rfl rfl (by omega)) rfl rfl rfl ?_; refine LL.val (R.move rfl rfl) rfl rfl rfl ?_; refine LL.val (R.move rfl rfl) rfl rfl rfl ?_; refine LL.val (R.leF rfl rfl rfl (by omega)) rfl rfl rfl ?_; refine LL.val (R.pick rfl rfl rfl) rfl rfl rfl ?_; refine LL.val (R.assign rfl rfl) rfl rfl rfl ?_; refine LL.nilS ?_; refine CC.ret ?_)
        refine EE.ret _ rfl rfl ?_
        exact ⟨⟨_, rfl, fun h => by cases h⟩, rfl⟩
    · (refine CC.seq ?_; refine CC.seq ?_; refine CC.region ?_; refine LL.val (R.move rfl rfl) rfl rfl rfl ?_; refine LL.val (R.move rfl rfl) rfl rfl rfl ?_; refine LL.val (R.len rfl rfl rfl rfl) rfl rfl rfl ?_; refine LL.val (R.ltF rfl rfl rfl (by omega)) rfl rfl rfl ?_; refine LL.val (R.move rfl rfl) rfl rfl rfl ?_; refine LL.skip rfl rfl ?_; refine LL.skip rfl rfl ?_; refine LL.val (R.pick rfl rfl rfl) rfl rfl rfl ?_; refine LL.nilS ?_; refine CC.no rfl ?_; refine CC.exit ?_; refine EE.thenX ?_; refine EE.thenX ?_; refine EE.inX ?_; refine EE.thenN ?_; refine CC.seq ?_; refine CC.region ?_; refine LL.val (R.move rfl rfl) rfl rfl rfl ?_; refine LL.val (R.len rfl rfl rfl rfl) rfl rfl rfl ?_; refine LL.val (R.leF rfl rfl rfl (by omega)) rfl rfl rfl ?_; refine LL.val (R.move rfl rfl) rfl rfl rfl ?_; refine LL.skip rfl rfl ?_; refine LL.skip rfl rfl ?_; refine LL.val (R.pick rfl rfl rfl) rfl rfl rfl ?_; refine LL.val (R.assign rfl rfl) rfl rfl rfl ?_; refine LL.nilS ?_; refine CC.ret ?_)
      refine EE.ret _ rfl rfl ?_
      exact ⟨⟨_, rfl, fun h => by cases h⟩, rfl⟩

set_option maxRecDepth 100000 in
set_option maxHeartbeats 4000000 in
theorem joins_walk (v : Value) (ps : List Bs) (w : World) (hm : Mx w) (ha : ReadsT stE 1 w v ps) (hl : ps.length ≤ 9223372036854775807) :
    Calls Tryd.prog 5 #[v] w fun e w' => e = .returned (.bool true) ∧ Below w.heap.size w w' := by
  have q := Below.refl w.heap.size w
  refine X.fn Tryd.func5 rfl (n := 51) rfl rfl ?_
  (refine CC.seq ?_; refine CC.region ?_; refine LL.val (R.assign rfl rfl) rfl rfl rfl ?_; refine LL.nilS ?_; refine CC.seq ?_; refine CC.seq ?_; refine CC.region ?_; refine LL.val (R.move rfl rfl) rfl rfl rfl ?_)
  refine LL.call (R.call rfl rfl rfl) rfl rfl rfl (few_any v ps w ha hl) ?_
  rintro e W ⟨⟨B, rfl, hB⟩, rfl⟩
  refine ⟨_, rfl, ?_⟩
  cases B with
  | false =>
    (refine LL.val (R.not rfl rfl) rfl rfl rfl ?_; refine LL.nilS ?_; refine CC.yes rfl ?_; refine CC.seq ?_; refine CC.region ?_)
    refine LL.call (R.call rfl rfl rfl) rfl rfl rfl (works_any _ hm) ?_
    rintro e W ⟨rfl, b⟩
    refine ⟨_, rfl, ?_⟩
    have hsz_ := b.size
    replace q := q.trans (b.mono q.size)
    (refine LL.val (R.assign rfl rfl) rfl rfl rfl ?_; refine LL.nilS ?_; refine CC.ret ?_; refine EE.thenR ?_)
    refine EE.ret _ rfl rfl ?_
    exact ⟨rfl, q⟩
  | true =>
    have hs := hB rfl
    have hcount := flatG_count ps
    (refine LL.val (R.not rfl rfl) rfl rfl rfl ?_; refine LL.nilS ?_; refine CC.no rfl ?_; refine CC.skip ?_; refine EE.thenN ?_; refine CC.seq ?_; refine CC.region ?_; refine LL.val (R.move rfl rfl) rfl rfl rfl ?_)
    refine LL.call (R.call rfl rfl rfl) rfl rfl rfl (join_any v ps _ ha hs) ?_
    rintro e W ⟨rfl, b⟩
    refine ⟨_, rfl, ?_⟩
    have hsz_ := b.size
    replace q := q.trans (b.mono q.size)
    replace hm := hm.up b
    replace ha := ha.up b
    (refine LL.val (R.move rfl rfl) rfl rfl rfl ?_; refine LL.val (R.extract rfl rfl rfl) rfl rfl rfl ?_; refine LL.val (R.extract rfl rfl rfl) rfl rfl rfl ?_; refine LL.val (R.assign rfl rfl) rfl rfl rfl ?_; refine LL.val (R.assign rfl rfl) rfl rfl rfl ?_; refine LL.nilS ?_; refine CC.seq ?_; refine CC.region ?_; refine LL.val (R.move rfl rfl) rfl rfl rfl ?_)
    refine LL.call (R.call rfl rfl rfl) rfl rfl rfl (rjoin_any v ps _ ha hs) ?_
    rintro e W ⟨rfl, rfl⟩
    refine ⟨_, rfl, ?_⟩
    have hjp := @join_path ps
    by_cases h0 : joinN ps = 0
    · rw [if_pos h0, h0]
      obtain ⟨hp1, hp2⟩ := hjp h0
      have hgl : (glueL ps).length ≤ 100000 := by
        unfold glueL
        split
        · simp
        · exact hs
      obtain ⟨s, hse⟩ : ∃ s, glueL ps = s := ⟨_, rfl⟩
      rw [hse] at hp1 hp2 hgl ⊢
      (refine LL.val (R.move rfl rfl) rfl rfl rfl ?_; refine LL.val (R.extract rfl rfl rfl) rfl rfl rfl ?_; refine LL.val (R.extract rfl rfl rfl) rfl rfl rfl ?_; refine LL.val (R.assign rfl rfl) rfl rfl rfl ?_; refine LL.val (R.assign rfl rfl) rfl rfl rfl ?_; refine LL.nilS ?_; refine CC.seq ?_; refine CC.seq ?_; refine CC.region ?_; refine LL.val (R.move rfl rfl) rfl rfl rfl ?_; refine LL.val (R.move rfl rfl) rfl rfl rfl ?_)
      refine LL.val (R.neS (c := false) rfl rfl rfl (by simp)) rfl rfl rfl ?_
      (refine LL.val (R.move rfl rfl) rfl rfl rfl ?_; refine LL.val (R.move rfl rfl) rfl rfl rfl ?_)
      refine LL.call (R.call rfl rfl rfl) rfl rfl rfl (num_any _ _) ?_
      rintro e W ⟨rfl, rfl⟩
      refine ⟨_, rfl, ?_⟩
      have H := parts_any s w
      (refine LL.val (R.move rfl rfl) rfl rfl rfl ?_; refine LL.val (R.neF rfl rfl rfl (by omega)) rfl rfl rfl ?_; refine LL.val (R.pick rfl rfl rfl) rfl rfl rfl ?_; refine LL.nilS ?_; refine CC.no rfl ?_; refine CC.skip ?_; refine EE.thenN ?_; refine CC.seq ?_; refine CC.seq ?_; refine CC.region ?_; refine LL.val (R.move rfl rfl) rfl rfl rfl ?_; refine LL.val (R.neF rfl rfl rfl (by omega)) rfl rfl rfl ?_; refine LL.nilS ?_; refine CC.no rfl ?_; refine CC.skip ?_; refine EE.thenN ?_; refine CC.seq ?_; refine CC.region ?_; refine LL.val (R.move rfl rfl) rfl rfl rfl ?_)
      refine LL.call (R.call rfl rfl rfl) rfl rfl rfl (parts_any s _ hm (by omega)) ?_
      rintro e W ⟨v2, rfl, o, b⟩
      refine ⟨_, rfl, ?_⟩
      have hsz_ := b.size
      replace q := q.trans (b.mono q.size)
      replace hm := hm.up b
      replace ha := ha.up b
      rw [if_pos hp1, hp2] at o
      rw [hp1]
      (refine LL.val (R.move rfl rfl) rfl rfl rfl ?_; refine LL.val (R.extract rfl rfl rfl) rfl rfl rfl ?_; refine LL.val (R.extract rfl rfl rfl) rfl rfl rfl ?_; refine LL.val (R.assign rfl rfl) rfl rfl rfl ?_; refine LL.val (R.assign rfl rfl) rfl rfl rfl ?_; refine LL.nilS ?_; refine CC.seq ?_; refine CC.region ?_; refine LL.val (R.move rfl rfl) rfl rfl rfl ?_; refine LL.val (R.move rfl rfl) rfl rfl rfl ?_)
      refine LL.call (R.call rfl rfl rfl) rfl rfl rfl (rsame_any _ _ _ _ _ (o.reads stEnc) ha (by omega) (by omega)) ?_
      rintro e W ⟨rfl, b⟩
      refine ⟨_, rfl, ?_⟩
      have hsz_ := b.size
      replace q := q.trans (b.mono q.size)
      replace hm := hm.up b
      rw [decide_eq_true rfl]
      (refine LL.val (R.move rfl rfl) rfl rfl rfl ?_; refine LL.val (R.move rfl rfl) rfl rfl rfl ?_)
      refine LL.call (R.call rfl rfl rfl) rfl rfl rfl (num_any _ _) ?_
      rintro e W ⟨rfl, rfl⟩
      refine ⟨_, rfl, ?_⟩
      (refine LL.val (R.eqT rfl rfl rfl (by omega)) rfl rfl rfl ?_; refine LL.val (R.pick rfl rfl rfl) rfl rfl rfl ?_; refine LL.val (R.move rfl rfl) rfl rfl rfl ?_)
      refine LL.call (R.call rfl rfl rfl) rfl rfl rfl (works_any _ hm) ?_
      rintro e W ⟨rfl, b⟩
      refine ⟨_, rfl, ?_⟩
      have hsz_ := b.size
      replace q := q.trans (b.mono q.size)
      (refine LL.val (R.pick rfl rfl rfl) rfl rfl rfl ?_; refine LL.val (R.assign rfl rfl) rfl rfl rfl ?_; refine LL.nilS ?_; refine CC.ret ?_)
      refine EE.ret _ rfl rfl ?_
      exact ⟨rfl, q⟩
    · rw [if_neg h0]
      obtain ⟨n, hn⟩ : ∃ n, joinN ps = n := ⟨_, rfl⟩
      rw [hn] at h0 ⊢
      (refine LL.val (R.move rfl rfl) rfl rfl rfl ?_; refine LL.val (R.extract rfl rfl rfl) rfl rfl rfl ?_; refine LL.val (R.extract rfl rfl rfl) rfl rfl rfl ?_; refine LL.val (R.assign rfl rfl) rfl rfl rfl ?_; refine LL.val (R.assign rfl rfl) rfl rfl rfl ?_; refine LL.nilS ?_; refine CC.seq ?_; refine CC.seq ?_; refine CC.region ?_; refine LL.val (R.move rfl rfl) rfl rfl rfl ?_; refine LL.val (R.move rfl rfl) rfl rfl rfl ?_)
      refine LL.val (R.neS (a := []) (b := []) (c := false) rfl rfl rfl (by simp)) rfl rfl rfl ?_
      (refine LL.val (R.move rfl rfl) rfl rfl rfl ?_; refine LL.val (R.move rfl rfl) rfl rfl rfl ?_)
      refine LL.call (R.call rfl rfl rfl) rfl rfl rfl (num_any _ _) ?_
      rintro e W ⟨rfl, rfl⟩
      refine ⟨_, rfl, ?_⟩
      (refine LL.val (R.move rfl rfl) rfl rfl rfl ?_; refine LL.val (R.neF rfl rfl rfl (by omega)) rfl rfl rfl ?_; refine LL.val (R.pick rfl rfl rfl) rfl rfl rfl ?_; refine LL.nilS ?_; refine CC.no rfl ?_; refine CC.skip ?_; refine EE.thenN ?_; refine CC.seq ?_; refine CC.seq ?_; refine CC.region ?_; refine LL.val (R.move rfl rfl) rfl rfl rfl ?_; refine LL.val (R.neT rfl rfl rfl (by omega)) rfl rfl rfl ?_; refine LL.nilS ?_; refine CC.yes rfl ?_; refine CC.seq ?_; refine CC.region ?_)
      refine LL.call (R.call rfl rfl rfl) rfl rfl rfl (works_any _ hm) ?_
      rintro e W ⟨rfl, b⟩
      refine ⟨_, rfl, ?_⟩
      have hsz_ := b.size
      replace q := q.trans (b.mono q.size)
      (refine LL.val (R.assign rfl rfl) rfl rfl rfl ?_; refine LL.nilS ?_; refine CC.ret ?_; refine EE.thenR ?_)
      refine EE.ret _ rfl rfl ?_
      exact ⟨rfl, q⟩

set_option maxRecDepth 100000 in
set_option maxHeartbeats 8000000 in
theorem holds_walk (s : ByteArray) (w : World) (hm : Mx w) (hl : s.size ≤ 9223372036854775807) :
    Calls Tryd.prog 8 #[.string s] w fun e w' => e = .returned (.bool true) ∧ Below w.heap.size w w' := by
  obtain ⟨l, rfl⟩ : ∃ l : Bs, s = ⟨l.toArray⟩ := ⟨s.data.toList, bs_data s⟩
  replace hl : l.length ≤ 9223372036854775807 := by simpa [ByteArray.size] using hl
  show Calls Tryd.prog 8 #[strV l] w _
  have q := Below.refl w.heap.size w
  refine X.fn Tryd.func8 rfl (n := 122) rfl rfl ?_
  by_cases h1 : 2000 < l.length
  · (refine CC.seq ?_; refine CC.region ?_; refine LL.val (R.assign rfl rfl) rfl rfl rfl ?_; refine LL.nilS ?_; refine CC.seq ?_; refine CC.seq ?_; refine CC.region ?_; refine LL.val (R.move rfl rfl) rfl rfl rfl ?_; refine LL.val (R.lenS rfl rfl rfl rfl) rfl rfl rfl ?_; refine LL.val (R.gtT rfl rfl rfl (by omega)) rfl rfl rfl ?_; refine LL.nilS ?_; refine CC.yes rfl ?_; refine CC.seq ?_; refine CC.region ?_)
    refine LL.call (R.call rfl rfl rfl) rfl rfl rfl (works_any _ hm) ?_
    rintro e W ⟨rfl, b⟩
    refine ⟨_, rfl, ?_⟩
    have hsz_ := b.size
    replace q := q.trans (b.mono q.size)
    (refine LL.val (R.assign rfl rfl) rfl rfl rfl ?_; refine LL.nilS ?_; refine CC.ret ?_; refine EE.thenR ?_)
    refine EE.ret _ rfl rfl ?_
    exact ⟨rfl, q⟩
  (refine CC.seq ?_; refine CC.region ?_; refine LL.val (R.assign rfl rfl) rfl rfl rfl ?_; refine LL.nilS ?_; refine CC.seq ?_; refine CC.seq ?_; refine CC.region ?_; refine LL.val (R.move rfl rfl) rfl rfl rfl ?_; refine LL.val (R.lenS rfl rfl rfl rfl) rfl rfl rfl ?_; refine LL.val (R.gtF rfl rfl rfl (by omega)) rfl rfl rfl ?_; refine LL.nilS ?_; refine CC.no rfl ?_; refine CC.skip ?_; refine EE.thenN ?_; refine CC.seq ?_; refine CC.region ?_; refine LL.val (R.move rfl rfl) rfl rfl rfl ?_)
  refine LL.call (R.call rfl rfl rfl) rfl rfl rfl (short_any l _ hm hl) ?_
  rintro e W ⟨rfl, b⟩
  refine ⟨_, rfl, ?_⟩
  have hsz_ := b.size
  replace q := q.trans (b.mono q.size)
  replace hm := hm.up b
  (refine LL.val (R.move rfl rfl) rfl rfl rfl ?_; refine LL.val (R.extract rfl rfl rfl) rfl rfl rfl ?_; refine LL.val (R.extract rfl rfl rfl) rfl rfl rfl ?_; refine LL.val (R.assign rfl rfl) rfl rfl rfl ?_; refine LL.val (R.assign rfl rfl) rfl rfl rfl ?_; refine LL.nilS ?_; refine CC.seq ?_; refine CC.seq ?_; refine CC.region ?_; refine LL.val (R.move rfl rfl) rfl rfl rfl ?_)
  refine LL.call (R.call rfl rfl rfl) rfl rfl rfl (num_any _ _) ?_
  rintro e W ⟨rfl, rfl⟩
  refine ⟨_, rfl, ?_⟩
  by_cases h0 : pathN l = 0
  case neg =>
    rw [if_neg h0]
    obtain ⟨n, hn⟩ : ∃ n, pathN l = n := ⟨_, rfl⟩
    rw [hn] at h0 ⊢
    (refine LL.val (R.neT rfl rfl rfl (by omega)) rfl rfl rfl ?_; refine LL.nilS ?_; refine CC.yes rfl ?_; refine CC.seq ?_; refine CC.region ?_)
    refine LL.call (R.call rfl rfl rfl) rfl rfl rfl (works_any _ hm) ?_
    rintro e W ⟨rfl, b⟩
    refine ⟨_, rfl, ?_⟩
    have hsz_ := b.size
    replace q := q.trans (b.mono q.size)
    (refine LL.val (R.assign rfl rfl) rfl rfl rfl ?_; refine LL.nilS ?_; refine CC.ret ?_; refine EE.thenR ?_)
    refine EE.ret _ rfl rfl ?_
    exact ⟨rfl, q⟩
  rw [if_pos h0, h0]
  obtain ⟨hp1, hp2⟩ := short_path h0
  have hgs := (glue_short h0).2
  have hcnt := partsL_len l
  obtain ⟨t, ht⟩ : ∃ t, glueL (partsL l) = t := ⟨_, rfl⟩
  rw [ht] at hp1 hp2 hgs ⊢
  have H := short_any t W hm (by omega)
  rw [hp1, if_pos rfl, hp2, ht] at H
  (refine LL.val (R.neF rfl rfl rfl (by omega)) rfl rfl rfl ?_; refine LL.nilS ?_; refine CC.no rfl ?_; refine CC.skip ?_; refine EE.thenN ?_; refine CC.seq ?_; refine CC.region ?_; refine LL.val (R.move rfl rfl) rfl rfl rfl ?_)
  refine LL.call (R.call rfl rfl rfl) rfl rfl rfl (H) ?_
  rintro e W ⟨rfl, b⟩
  refine ⟨_, rfl, ?_⟩
  have hsz_ := b.size
  replace q := q.trans (b.mono q.size)
  replace hm := hm.up b
  have H := parts_any l W hm hl
  rw [h0, if_pos rfl] at H
  (refine LL.val (R.move rfl rfl) rfl rfl rfl ?_; refine LL.val (R.extract rfl rfl rfl) rfl rfl rfl ?_; refine LL.val (R.extract rfl rfl rfl) rfl rfl rfl ?_; refine LL.val (R.assign rfl rfl) rfl rfl rfl ?_; refine LL.val (R.assign rfl rfl) rfl rfl rfl ?_; refine LL.nilS ?_; refine CC.seq ?_; refine CC.region ?_; refine LL.val (R.move rfl rfl) rfl rfl rfl ?_)
  refine LL.call (R.call rfl rfl rfl) rfl rfl rfl (H) ?_
  rintro e W ⟨v1, rfl, o1, b⟩
  refine ⟨_, rfl, ?_⟩
  have hsz_ := b.size
  replace q := q.trans (b.mono q.size)
  replace hm := hm.up b
  have H := parts_any t W hm (by omega)
  rw [hp1, if_pos rfl, hp2] at H
  (refine LL.val (R.move rfl rfl) rfl rfl rfl ?_; refine LL.val (R.extract rfl rfl rfl) rfl rfl rfl ?_; refine LL.val (R.extract rfl rfl rfl) rfl rfl rfl ?_; refine LL.val (R.assign rfl rfl) rfl rfl rfl ?_; refine LL.val (R.assign rfl rfl) rfl rfl rfl ?_; refine LL.nilS ?_; refine CC.seq ?_; refine CC.region ?_; refine LL.val (R.move rfl rfl) rfl rfl rfl ?_)
  refine LL.call (R.call rfl rfl rfl) rfl rfl rfl (H) ?_
  rintro e W ⟨v2, rfl, o2, b⟩
  refine ⟨_, rfl, ?_⟩
  have hsz_ := b.size
  replace q := q.trans (b.mono q.size)
  replace hm := hm.up b
  replace o1 := o1.up b
  (refine LL.val (R.move rfl rfl) rfl rfl rfl ?_; refine LL.val (R.extract rfl rfl rfl) rfl rfl rfl ?_; refine LL.val (R.extract rfl rfl rfl) rfl rfl rfl ?_; refine LL.val (R.assign rfl rfl) rfl rfl rfl ?_; refine LL.val (R.assign rfl rfl) rfl rfl rfl ?_; refine LL.nilS ?_; refine CC.seq ?_; refine CC.seq ?_; refine CC.region ?_; refine LL.val (R.move rfl rfl) rfl rfl rfl ?_)
  refine LL.call (R.call rfl rfl rfl) rfl rfl rfl (num_any _ _) ?_
  rintro e W ⟨rfl, rfl⟩
  refine ⟨_, rfl, ?_⟩
  (refine LL.val (R.move rfl rfl) rfl rfl rfl ?_)
  refine LL.call (R.call rfl rfl rfl) rfl rfl rfl (num_any _ _) ?_
  rintro e W ⟨rfl, rfl⟩
  refine ⟨_, rfl, ?_⟩
  (refine LL.val (R.addN rfl rfl rfl (by omega)) rfl rfl rfl ?_; refine LL.val (R.move rfl rfl) rfl rfl rfl ?_)
  refine LL.call (R.call rfl rfl rfl) rfl rfl rfl (num_any _ _) ?_
  rintro e W ⟨rfl, rfl⟩
  refine ⟨_, rfl, ?_⟩
  (refine LL.val (R.addN rfl rfl rfl (by omega)) rfl rfl rfl ?_; refine LL.val (R.neF rfl rfl rfl (by omega)) rfl rfl rfl ?_; refine LL.val (R.move rfl rfl) rfl rfl rfl ?_; refine LL.val (R.move rfl rfl) rfl rfl rfl ?_; refine LL.val (R.move rfl rfl) rfl rfl rfl ?_)
  refine LL.val (R.neS (c := false) rfl rfl rfl (by simp)) rfl rfl rfl ?_
  (refine LL.val (R.pick rfl rfl rfl) rfl rfl rfl ?_; refine LL.val (R.move rfl rfl) rfl rfl rfl ?_; refine LL.val (R.move rfl rfl) rfl rfl rfl ?_; refine LL.val (R.move rfl rfl) rfl rfl rfl ?_)
  refine LL.call (R.call rfl rfl rfl) rfl rfl rfl (rsame_any _ _ _ _ _ (o1.reads stEnc) (o2.reads stEnc) (by omega) (by omega)) ?_
  rintro e W ⟨rfl, b⟩
  refine ⟨_, rfl, ?_⟩
  have hsz_ := b.size
  replace q := q.trans (b.mono q.size)
  replace hm := hm.up b
  replace o1 := o1.up b
  rw [decide_eq_true rfl]
  (refine LL.val (R.not rfl rfl) rfl rfl rfl ?_; refine LL.val (R.pick rfl rfl rfl) rfl rfl rfl ?_; refine LL.val (R.move rfl rfl) rfl rfl rfl ?_; refine LL.val (R.move rfl rfl) rfl rfl rfl ?_; refine LL.val (R.lenS rfl rfl rfl rfl) rfl rfl rfl ?_; refine LL.val (R.move rfl rfl) rfl rfl rfl ?_; refine LL.val (R.lenS rfl rfl rfl rfl) rfl rfl rfl ?_; refine LL.val (R.gtF rfl rfl rfl (by omega)) rfl rfl rfl ?_; refine LL.val (R.pick rfl rfl rfl) rfl rfl rfl ?_; refine LL.nilS ?_; refine CC.no rfl ?_; refine CC.skip ?_; refine EE.thenN ?_; refine CC.seq ?_; refine CC.region ?_; refine LL.val (R.move rfl rfl) rfl rfl rfl ?_)
  refine LL.call (R.call rfl rfl rfl) rfl rfl rfl (psplit_any l _ hm hl) ?_
  rintro e W ⟨rfl, b⟩
  refine ⟨_, rfl, ?_⟩
  have hsz_ := b.size
  replace q := q.trans (b.mono q.size)
  replace hm := hm.up b
  replace o1 := o1.up b
  obtain ⟨⟨d, nm, n⟩, hn⟩ : ∃ n, splitN l = n := ⟨_, rfl⟩
  rw [hn]
  dsimp only
  (refine LL.val (R.move rfl rfl) rfl rfl rfl ?_; refine LL.val (R.extract rfl rfl rfl) rfl rfl rfl ?_; refine LL.val (R.extract rfl rfl rfl) rfl rfl rfl ?_; refine LL.val (R.extract rfl rfl rfl) rfl rfl rfl ?_; refine LL.val (R.assign rfl rfl) rfl rfl rfl ?_; refine LL.val (R.assign rfl rfl) rfl rfl rfl ?_; refine LL.val (R.assign rfl rfl) rfl rfl rfl ?_; refine LL.nilS ?_; refine CC.seq ?_; refine CC.seq ?_; refine CC.region ?_; refine LL.val (R.move rfl rfl) rfl rfl rfl ?_)
  refine LL.call (R.call rfl rfl rfl) rfl rfl rfl (num_any _ _) ?_
  rintro e W ⟨rfl, rfl⟩
  refine ⟨_, rfl, ?_⟩
  by_cases hn0 : n = 0
  case neg =>
    (refine LL.val (R.neT rfl rfl rfl (by omega)) rfl rfl rfl ?_; refine LL.nilS ?_; refine CC.yes rfl ?_; refine CC.seq ?_; refine CC.region ?_)
    refine LL.call (R.call rfl rfl rfl) rfl rfl rfl (works_any _ hm) ?_
    rintro e W ⟨rfl, b⟩
    refine ⟨_, rfl, ?_⟩
    have hsz_ := b.size
    replace q := q.trans (b.mono q.size)
    (refine LL.val (R.assign rfl rfl) rfl rfl rfl ?_; refine LL.nilS ?_; refine CC.ret ?_; refine EE.thenR ?_)
    refine EE.ret _ rfl rfl ?_
    exact ⟨rfl, q⟩
  subst hn0
  obtain ⟨hd1, hd2, hd3, hd4⟩ := split_path h0 hn
  have hdl := (pathN_inv hd1).1
  have hdn : nm.length ≤ 9223372036854775807 := by
    have hmem : nm ∈ partsL l := by rw [← hd2]; simp
    have := (okParts_of h0 nm hmem).short
    omega
  have H := under_any l d W hm hl (by omega)
  rw [hd4] at H
  dsimp only at H
  (refine LL.val (R.neF rfl rfl rfl (by omega)) rfl rfl rfl ?_; refine LL.nilS ?_; refine CC.no rfl ?_; refine CC.skip ?_; refine EE.thenN ?_; refine CC.seq ?_; refine CC.region ?_; refine LL.val (R.move rfl rfl) rfl rfl rfl ?_; refine LL.val (R.move rfl rfl) rfl rfl rfl ?_)
  refine LL.call (R.call rfl rfl rfl) rfl rfl rfl (H) ?_
  rintro e W ⟨rfl, b⟩
  refine ⟨_, rfl, ?_⟩
  have hsz_ := b.size
  replace q := q.trans (b.mono q.size)
  replace hm := hm.up b
  replace o1 := o1.up b
  have H := parts_any d W hm (by omega)
  rw [hd1, if_pos rfl] at H
  (refine LL.val (R.move rfl rfl) rfl rfl rfl ?_; refine LL.val (R.extract rfl rfl rfl) rfl rfl rfl ?_; refine LL.val (R.extract rfl rfl rfl) rfl rfl rfl ?_; refine LL.val (R.assign rfl rfl) rfl rfl rfl ?_; refine LL.val (R.assign rfl rfl) rfl rfl rfl ?_; refine LL.nilS ?_; refine CC.seq ?_; refine CC.region ?_; refine LL.val (R.move rfl rfl) rfl rfl rfl ?_)
  refine LL.call (R.call rfl rfl rfl) rfl rfl rfl (H) ?_
  rintro e W ⟨v3, rfl, o3, b⟩
  refine ⟨_, rfl, ?_⟩
  have hsz_ := b.size
  replace q := q.trans (b.mono q.size)
  replace hm := hm.up b
  replace o1 := o1.up b
  (refine LL.val (R.move rfl rfl) rfl rfl rfl ?_; refine LL.val (R.extract rfl rfl rfl) rfl rfl rfl ?_; refine LL.val (R.extract rfl rfl rfl) rfl rfl rfl ?_; refine LL.val (R.assign rfl rfl) rfl rfl rfl ?_; refine LL.val (R.assign rfl rfl) rfl rfl rfl ?_; refine LL.nilS ?_; refine CC.seq ?_; refine CC.region ?_; refine LL.val (R.move rfl rfl) rfl rfl rfl ?_; refine LL.val (R.move rfl rfl) rfl rfl rfl ?_; refine LL.val (R.move rfl rfl) rfl rfl rfl ?_)
  refine LL.call (R.call rfl rfl rfl) rfl rfl rfl (num_any _ _) ?_
  rintro e W ⟨rfl, rfl⟩
  refine ⟨_, rfl, ?_⟩
  (refine LL.val (R.move rfl rfl) rfl rfl rfl ?_)
  refine LL.call (R.call rfl rfl rfl) rfl rfl rfl (num_any _ _) ?_
  rintro e W ⟨rfl, rfl⟩
  refine ⟨_, rfl, ?_⟩
  have hd2l : (partsL d).length + 1 = (partsL l).length := by rw [← hd2, List.length_append]; rfl
  have h3 := o3.reads stEnc
  obtain ⟨WL, rfl⟩ : ∃ X, X = W := ⟨_, rfl⟩
  have qL := Below.refl WL.heap.size WL
  have qw := q
  (refine LL.val (R.addN rfl rfl rfl (by omega)) rfl rfl rfl ?_; refine LL.val (R.eqT rfl rfl rfl (by omega)) rfl rfl rfl ?_; refine LL.val (R.pick rfl rfl rfl) rfl rfl rfl ?_; refine LL.val (R.move rfl rfl) rfl rfl rfl ?_)
  refine LL.lit (e := 9) [] 0 rfl rfl (fun _ => by kernel_rfl) rfl rfl ?_
  intro W g eg r0 zg b
  have hsz_ := b.size
  replace q := q.trans (b.mono q.size)
  replace qL := qL.trans (b.mono qL.size)
  have o0 : OwnsT stE 1 W g 9 (.slice (some ⟨g, 0, none⟩) 0 0) [] := RowL.ownsT (ts := []) stEnc r0 (Nat.le_refl _) (by simp)
  (refine LL.val (R.move rfl rfl) rfl rfl rfl ?_)
  refine LL.appendT2 rfl rfl stEnc ElS o0 (h3.up qL) (by simp [maxLen]; omega) (by simp; omega) (by omega) rfl rfl ?_
  intro v4 W o4 g4 _
  replace qL := qL.trans ((o0.bel g4 (by omega)).mono (by omega))
  rw [List.nil_append] at o4
  have hz4 := qL.size
  (refine LL.val (R.move rfl rfl) rfl rfl rfl ?_)
  refine LL.lit (e := 9) (stE nm) 1 rfl rfl (fun _ => by kernel_rfl) rfl rfl ?_
  intro W g2 eg2 r2 zg2 b
  have hgW : g ≤ W.heap.size := by
    rcases o4.above with h | ⟨b', h, h5, h6⟩ <;> omega
  replace qL := qL.trans (b.mono qL.size)
  replace o4 := o4.up b
  have rd : ReadsT stE 1 W (.slice (some ⟨g2, 0, none⟩) 1 1) [nm] := RowL.readsT (ts := [nm]) stEnc (by exact r2) 1 (by simp)
  refine LL.appendT2 rfl rfl stEnc ElS o4 rd (by simp only [List.length_singleton, maxLen]; omega) (by simp only [List.length_singleton]; omega) hgW rfl rfl ?_
  intro v5 W o5 g5 _
  replace qL := qL.trans ((o4.bel g5 hgW).mono (by omega))
  rw [hd2] at o5
  replace q := qw.trans (qL.mono qw.size)
  replace hm := hm.up qL
  replace o1 := o1.up qL
  (refine LL.val (R.move rfl rfl) rfl rfl rfl ?_)
  refine LL.call (R.call rfl rfl rfl) rfl rfl rfl (rsame_any _ _ _ _ _ (o5.reads stEnc) (o1.reads stEnc) (by omega) (by omega)) ?_
  rintro e W ⟨rfl, b⟩
  refine ⟨_, rfl, ?_⟩
  have hsz_ := b.size
  replace q := q.trans (b.mono q.size)
  replace hm := hm.up b
  rw [decide_eq_true rfl]
  have H := check_any nm hdn W
  rw [hd3] at H
  (refine LL.val (R.pick rfl rfl rfl) rfl rfl rfl ?_; refine LL.val (R.move rfl rfl) rfl rfl rfl ?_; refine LL.val (R.move rfl rfl) rfl rfl rfl ?_)
  refine LL.call (R.call rfl rfl rfl) rfl rfl rfl (H) ?_
  rintro e W ⟨rfl, b⟩
  refine ⟨_, rfl, ?_⟩
  have hsz_ := b.size
  replace q := q.trans (b.mono q.size)
  replace hm := hm.up b
  skip
  refine LL.call (R.call rfl rfl rfl) rfl rfl rfl (num_any _ _) ?_
  rintro e W ⟨rfl, rfl⟩
  refine ⟨_, rfl, ?_⟩
  (refine LL.val (R.eqT rfl rfl rfl (by omega)) rfl rfl rfl ?_; refine LL.val (R.pick rfl rfl rfl) rfl rfl rfl ?_; refine LL.val (R.move rfl rfl) rfl rfl rfl ?_)
  refine LL.call (R.call rfl rfl rfl) rfl rfl rfl (works_any _ hm) ?_
  rintro e W ⟨rfl, b⟩
  refine ⟨_, rfl, ?_⟩
  have hsz_ := b.size
  replace q := q.trans (b.mono q.size)
  (refine LL.val (R.pick rfl rfl rfl) rfl rfl rfl ?_; refine LL.val (R.assign rfl rfl) rfl rfl rfl ?_; refine LL.nilS ?_; refine CC.ret ?_)
  refine EE.ret _ rfl rfl ?_
  exact ⟨rfl, q⟩
end Go.Proofs.YtnfggikomoialaaDoor
