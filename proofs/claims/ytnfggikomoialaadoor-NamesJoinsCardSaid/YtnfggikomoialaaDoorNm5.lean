/- names: glue, Join, Short, Split, Under. -/
import Derived.Test.YtnfggikomoialaaDoorBld
namespace Go.Proofs.YtnfggikomoialaaDoor
set_option linter.unusedVariables false
set_option linter.unusedSimpArgs false
open Go.RowKit Go.Shelf

def flatG (ps : List Bs) : Bs := ps.flatMap fun p => 47 :: p
/-- Parts put together. -/
def glueL (ps : List Bs) : Bs := if ps = [] then [47] else flatG ps
theorem flatG_step {ps : List Bs} {k : Nat} {p : Bs} (h : ps[k]? = some p) : flatG (ps.take (k + 1)) = flatG (ps.take k) ++ [47] ++ p := by
  unfold flatG
  rw [List.take_add_one, h, List.flatMap_append, List.append_assoc]
  simp
theorem flatG_take (ps : List Bs) (k : Nat) : (flatG (ps.take k)).length ≤ (flatG ps).length := by
  have : flatG ps = flatG (ps.take k) ++ flatG (ps.drop k) := by
    unfold flatG
    rw [← List.flatMap_append, List.take_append_drop]
  rw [this, List.length_append]
  omega
theorem flatG_mem {ps : List Bs} {p : Bs} (h : p ∈ ps) : p.length + 1 ≤ (flatG ps).length := by
  induction ps with
  | nil => cases h
  | cons x ps ih =>
    have e : flatG (x :: ps) = (47 :: x) ++ flatG ps := rfl
    rw [e, List.length_append, List.length_cons]
    rcases List.mem_cons.1 h with rfl | h
    · omega
    · have := ih h
      omega
theorem flatG_count (ps : List Bs) : ps.length ≤ (flatG ps).length := by
  induction ps with
  | nil => exact Nat.le_refl _
  | cons x ps ih =>
    have e : flatG (x :: ps) = (47 :: x) ++ flatG ps := rfl
    rw [e, List.length_append, List.length_cons, List.length_cons]
    omega
theorem BldAt.low {w : World} {B b : Nat} {l : Bs} (h : BldAt w B b l) : B ≤ b := by rcases h with h | h <;> exact h.1

set_option maxRecDepth 100000 in
set_option maxHeartbeats 1000000 in
theorem glue_any (v : Value) (ps : List Bs) (w : World) (ha : ReadsT stE 1 w v ps) (hs : (flatG ps).length ≤ 100000) :
    Calls Tryd.prog 32 #[v] w fun e w' => e = .returned (strV (glueL ps)) ∧ Below w.heap.size w w' := by
  obtain ⟨N, hN⟩ : ∃ N, ps.length = N := ⟨_, rfl⟩
  have hcount := flatG_count ps
  have ha0 := ha
  obtain ⟨a, cap, rfl, hc⟩ := ha.form hN
  have q := Below.refl w.heap.size w
  refine X.fn Tryd.func32 rfl (n := 21) rfl rfl ?_
  (refine CC.seq ?_; refine CC.region ?_; refine LL.val (R.assign rfl rfl) rfl rfl rfl ?_; refine LL.nilS ?_; refine CC.seq ?_; refine CC.region ?_)
  refine LL.alloc [.pointer none, .slice none 0 0] rfl rfl rfl rfl rfl ?_
  intro W g eg r zg b
  have hsz_ := b.size
  replace q := q.trans (b.mono q.size)
  replace ha := ha.up b
  have hB : BldAt W w.heap.size g [] := .inl ⟨by omega, .slice none 0 0, r, World.ownsRow_nil _ _ _ _, by simp [Value.ownBlock]⟩
  (refine LL.nilS ?_; refine CC.seq ?_; refine CC.seq ?_; refine CC.region ?_; refine LL.val (R.move rfl rfl) rfl rfl rfl ?_; refine LL.val (R.len rfl rfl rfl rfl) rfl rfl rfl ?_; refine LL.val (R.move rfl rfl) rfl rfl rfl ?_; refine LL.nilS ?_; refine CC.block ?_)
  refine CC.loop (α := Nat) (fun k => [(0, .slice a N cap), (3, .pointer (some ⟨g, 0, none⟩)), (6, .slice a N cap), (7, .int .i64 (N : Int)), (8, .int .i64 (k : Int))]) (fun k W => k ≤ N ∧ Below w.heap.size w W ∧ BldAt W w.heap.size g (flatG (ps.take k))) (fun k => N - k) 0 ⟨rfl, rfl, rfl, rfl, rfl, trivial⟩ ⟨by omega, q, hB⟩ ?_
  rintro k W ⟨hk, q, hB⟩
  by_cases hlt : k < N
  · obtain ⟨p, hp⟩ : ∃ p, ps[k]? = some p := ⟨_, List.getElem?_eq_getElem (by omega)⟩
    obtain ⟨bl, off, rfl, hbl, hcs⟩ := ReadsT.one stEnc (ha0.up q) hp
    have hc1 := hcs _ rfl
    have hst := flatG_step hp
    have h1 := flatG_take ps (k + 1)
    rw [hst, List.length_append, List.length_append] at h1
    simp only [List.length_singleton] at h1
    (refine CC.seq ?_; refine CC.region ?_; refine LL.val (R.ltT rfl rfl rfl (by omega)) rfl rfl rfl ?_; refine LL.nilS ?_; refine CC.seq ?_; refine CC.yes rfl ?_; refine CC.skip ?_; refine EE.thenN ?_; refine CC.seq ?_; refine CC.block ?_; refine CC.seq ?_; refine CC.region ?_; refine LL.val (R.index rfl rfl rfl (I.ixS1 rfl (by omega))) rfl rfl rfl ?_; refine LL.val (R.load rfl rfl (I.ld1 rfl (by assumption))) rfl rfl rfl ?_; refine LL.val (R.assign rfl rfl) rfl rfl rfl ?_; refine LL.nilS ?_; refine CC.seq ?_; refine CC.region ?_)
    refine LL.call (R.call rfl rfl rfl) rfl rfl rfl (bwrite_any w.heap.size g _ [47] W hB (by simp only [List.length_singleton]; omega) q.size) ?_
    rintro e W ⟨⟨_, rfl⟩, hB, b⟩
    refine ⟨_, rfl, ?_⟩
    replace q := q.trans b
    (refine LL.nilS ?_; refine CC.region ?_; refine LL.val (R.move rfl rfl) rfl rfl rfl ?_)
    refine LL.call (R.call rfl rfl rfl) rfl rfl rfl (bwrite_any w.heap.size g _ p W hB (by rw [List.length_append]; simp only [List.length_singleton]; omega) q.size) ?_
    rintro e W ⟨⟨_, rfl⟩, hB, b⟩
    refine ⟨_, rfl, ?_⟩
    replace q := q.trans b
    (refine LL.nil ?_; refine EE.inN ?_; refine EE.thenN ?_; refine CC.region ?_; refine LL.val (R.addNc rfl rfl rfl rfl (by omega)) rfl rfl rfl ?_; refine LL.val (R.move rfl rfl) rfl rfl rfl ?_; refine LL.nil ?_)
    exact EE.round (k + 1) ⟨rfl, rfl, rfl, rfl, rfl, trivial⟩ ⟨by omega, q, by rw [hst]; exact hB⟩ (by omega)
  · obtain rfl : k = N := by omega
    rw [List.take_of_length_le (by omega)] at hB
    by_cases h0 : k = 0
    · have hps : ps = [] := List.eq_nil_of_length_eq_zero (by omega)
      subst hps
      (refine CC.seq ?_; refine CC.region ?_; refine LL.val (R.ltF rfl rfl rfl (by omega)) rfl rfl rfl ?_; refine LL.nilS ?_; refine CC.seq ?_; refine CC.no rfl ?_; refine CC.exit ?_; refine EE.thenX ?_; refine EE.thenX ?_; refine EE.inX ?_; refine EE.thenN ?_; refine CC.seq ?_; refine CC.seq ?_; refine CC.region ?_; refine LL.val (R.move rfl rfl) rfl rfl rfl ?_; refine LL.val (R.len rfl rfl rfl rfl) rfl rfl rfl ?_; refine LL.val (R.eqT rfl rfl rfl (by omega)) rfl rfl rfl ?_; refine LL.nilS ?_; refine CC.yes rfl ?_; refine CC.region ?_)
      refine LL.call (R.call rfl rfl rfl) rfl rfl rfl (bwrite_any w.heap.size g _ [47] W hB (by simp [flatG]) q.size) ?_
      rintro e W ⟨⟨_, rfl⟩, hB, b⟩
      refine ⟨_, rfl, ?_⟩
      replace q := q.trans b
      (refine LL.nilS ?_; refine CC.seq ?_; refine CC.region ?_)
      refine LL.call (R.call rfl rfl rfl) rfl rfl rfl (bstring_any w.heap.size g _ W hB q.size) ?_
      rintro e W ⟨rfl, b⟩
      refine ⟨_, rfl, ?_⟩
      (refine LL.val (R.assign rfl rfl) rfl rfl rfl ?_; refine LL.nilS ?_; refine CC.ret ?_)
      refine EE.ret _ rfl rfl ?_
      exact ⟨rfl, q.trans b⟩
    · have hps : ps ≠ [] := fun e => h0 (by rw [← hN, e]; rfl)
      (refine CC.seq ?_; refine CC.region ?_; refine LL.val (R.ltF rfl rfl rfl (by omega)) rfl rfl rfl ?_; refine LL.nilS ?_; refine CC.seq ?_; refine CC.no rfl ?_; refine CC.exit ?_; refine EE.thenX ?_; refine EE.thenX ?_; refine EE.inX ?_; refine EE.thenN ?_; refine CC.seq ?_; refine CC.seq ?_; refine CC.region ?_; refine LL.val (R.move rfl rfl) rfl rfl rfl ?_; refine LL.val (R.len rfl rfl rfl rfl) rfl rfl rfl ?_; refine LL.val (R.eqF rfl rfl rfl (by omega)) rfl rfl rfl ?_; refine LL.nilS ?_; refine CC.no rfl ?_; refine CC.skip ?_; refine EE.thenN ?_; refine CC.seq ?_; refine CC.region ?_)
      refine LL.call (R.call rfl rfl rfl) rfl rfl rfl (bstring_any w.heap.size g _ W hB q.size) ?_
      rintro e W ⟨rfl, b⟩
      refine ⟨_, rfl, ?_⟩
      (refine LL.val (R.assign rfl rfl) rfl rfl rfl ?_; refine LL.nilS ?_; refine CC.ret ?_)
      refine EE.ret _ rfl rfl ?_
      exact ⟨by unfold glueL; rw [if_neg hps]; rfl, q.trans b⟩

/-- Why parts may not be put together. -/
def partN (p : Bs) : Nat := if dotsB p then 0 else nameN p
def partsN : List Bs → Nat
  | [] => 0
  | p :: ps => if partN p = 0 then partsN ps else partN p
def joinN (ps : List Bs) : Nat := if partsN ps = 0 then (if 1000 < (flatG ps).length then 3 else 0) else partsN ps
theorem partsN_at {ps : List Bs} {k : Nat} {p : Bs} (h : ps[k]? = some p) (hz : partsN (ps.take k) = 0) (hp : partN p ≠ 0) : partsN ps = partN p := by
  induction ps generalizing k with
  | nil => simp at h
  | cons x ps ih =>
    cases k with
    | zero =>
      simp at h
      subst h
      show (if partN x = 0 then _ else _) = _
      rw [if_neg hp]
    | succ k =>
      rw [List.take_succ_cons] at hz
      have hz' : (if partN x = 0 then partsN (ps.take k) else partN x) = 0 := hz
      by_cases hx : partN x = 0
      · rw [if_pos hx] at hz'
        show (if partN x = 0 then _ else _) = _
        rw [if_pos hx]
        exact ih (by simpa using h) hz'
      · rw [if_neg hx] at hz'
        exact absurd hz' hx
theorem partsN_step {ps : List Bs} {k : Nat} {p : Bs} (h : ps[k]? = some p) (hz : partsN (ps.take k) = 0) (hp : partN p = 0) : partsN (ps.take (k + 1)) = 0 := by
  induction ps generalizing k with
  | nil => simp at h
  | cons x ps ih =>
    cases k with
    | zero =>
      simp at h
      subst h
      show (if partN x = 0 then partsN (ps.take 0) else _) = _
      rw [if_pos hp]
      rfl
    | succ k =>
      rw [List.take_succ_cons] at hz ⊢
      have hz' : (if partN x = 0 then partsN (ps.take k) else partN x) = 0 := hz
      show (if partN x = 0 then partsN (ps.take (k + 1)) else partN x) = 0
      by_cases hx : partN x = 0
      · rw [if_pos hx] at hz' ⊢
        exact ih (by simpa using h) hz'
      · rw [if_neg hx] at hz'
        exact absurd hz' hx

set_option maxRecDepth 100000 in
set_option maxHeartbeats 2000000 in
theorem join_any (v : Value) (ps : List Bs) (w : World) (ha : ReadsT stE 1 w v ps) (hs : (flatG ps).length ≤ 100000) :
    Calls Tryd.prog 18 #[v] w fun e w' => e = .returned (.tuple #[strV (if joinN ps = 0 then glueL ps else []), .int .i64 (joinN ps : Int)]) ∧ Below w.heap.size w w' := by
  obtain ⟨N, hN⟩ : ∃ N, ps.length = N := ⟨_, rfl⟩
  have hcount := flatG_count ps
  have ha0 := ha
  obtain ⟨a, cap, rfl, hc⟩ := ha.form hN
  have q := Below.refl w.heap.size w
  refine X.fn Tryd.func18 rfl (n := 36) rfl rfl ?_
  (refine CC.seq ?_; refine CC.region ?_; refine LL.val (R.assign rfl rfl) rfl rfl rfl ?_; refine LL.val (R.assign rfl rfl) rfl rfl rfl ?_; refine LL.nilS ?_)
  refine CC.fwd (l := 0) (α := Unit) (fun _ => []) (fun _ => [(4, .int .i64 (joinN ps : Int))]) (fun _ w' => Below w.heap.size w w' ∧ joinN ps ≠ 0) rfl ?first ?pass
  case pass =>
    rintro _ W ⟨q, hne⟩
    (refine CC.seq ?_; refine CC.skip ?_; refine EE.thenN ?_; refine CC.seq ?_; refine CC.region ?_; refine LL.val (R.move rfl rfl) rfl rfl rfl ?_; refine LL.val (R.assign rfl rfl) rfl rfl rfl ?_; refine LL.val (R.assign rfl rfl) rfl rfl rfl ?_; refine LL.nilS ?_; refine CC.ret ?_)
    refine EE.jumpR ?_
    refine EE.ret _ rfl rfl ?_
    rw [if_neg hne]
    exact ⟨rfl, q⟩
  case first =>
    (refine CC.seq ?_; refine CC.region ?_; refine LL.val (R.assign rfl rfl) rfl rfl rfl ?_; refine LL.nilS ?_; refine CC.seq ?_; refine CC.region ?_; refine LL.val (R.assign rfl rfl) rfl rfl rfl ?_; refine LL.nilS ?_; refine CC.seq ?_; refine CC.seq ?_; refine CC.region ?_; refine LL.val (R.move rfl rfl) rfl rfl rfl ?_; refine LL.val (R.len rfl rfl rfl rfl) rfl rfl rfl ?_; refine LL.val (R.move rfl rfl) rfl rfl rfl ?_; refine LL.nilS ?_; refine CC.block ?_)
    refine CC.loop (α := Nat) (fun k => [(0, .slice a N cap), (4, .int .i64 0), (5, .int .i64 ((flatG (ps.take k)).length : Int)), (8, .slice a N cap), (9, .int .i64 (N : Int)), (10, .int .i64 (k : Int))]) (fun k W => k ≤ N ∧ Below w.heap.size w W ∧ partsN (ps.take k) = 0) (fun k => N - k) 0 ⟨rfl, rfl, rfl, rfl, rfl, rfl, trivial⟩ ⟨by omega, q, rfl⟩ ?_
    rintro k W ⟨hk, q, hz⟩
    by_cases hlt : k < N
    · obtain ⟨p, hp⟩ : ∃ p, ps[k]? = some p := ⟨_, List.getElem?_eq_getElem (by omega)⟩
      obtain ⟨bl, off, rfl, hbl, hcs⟩ := ReadsT.one stEnc (ha0.up q) hp
      have hc1 := hcs _ rfl
      have hst := flatG_step hp
      have h1 := flatG_take ps (k + 1)
      have hlen : (flatG (ps.take (k + 1))).length = (flatG (ps.take k)).length + (1 + p.length) := by
        rw [hst, List.length_append, List.length_append]
        simp only [List.length_singleton]
        omega
      obtain ⟨F, hF⟩ : ∃ F, (flatG (ps.take k)).length = F := ⟨_, rfl⟩
      rw [hF] at hlen ⊢
      (refine CC.seq ?_; refine CC.region ?_; refine LL.val (R.ltT rfl rfl rfl (by omega)) rfl rfl rfl ?_; refine LL.nilS ?_; refine CC.seq ?_; refine CC.yes rfl ?_; refine CC.skip ?_; refine EE.thenN ?_; refine CC.seq ?_; refine CC.block ?_; refine CC.seq ?_; refine CC.region ?_; refine LL.val (R.index rfl rfl rfl (I.ixS1 rfl (by omega))) rfl rfl rfl ?_; refine LL.val (R.load rfl rfl (I.ld1 rfl (by assumption))) rfl rfl rfl ?_; refine LL.val (R.assign rfl rfl) rfl rfl rfl ?_; refine LL.nilS ?_; refine CC.seq ?_; refine CC.seq ?_; refine CC.region ?_; refine LL.val (R.move rfl rfl) rfl rfl rfl ?_)
      refine LL.call (R.call rfl rfl rfl) rfl rfl rfl (dots_any p _) ?_
      rintro e W ⟨rfl, rfl⟩
      refine ⟨_, rfl, ?_⟩
      cases hd : dotsB p with
      | true =>
        have hp0 : partN p = 0 := by unfold partN; rw [hd]; rfl
        (refine LL.nilS ?_; refine CC.yes rfl ?_; refine CC.seq ?_; refine CC.region ?_; refine LL.val (R.move rfl rfl) rfl rfl rfl ?_; refine LL.val (R.move rfl rfl) rfl rfl rfl ?_; refine LL.val (R.lenS rfl rfl rfl rfl) rfl rfl rfl ?_; refine LL.val (R.addI rfl rfl rfl (by omega)) rfl rfl rfl ?_; refine LL.val (R.addI rfl rfl rfl (by omega)) rfl rfl rfl ?_; refine LL.val (R.assign rfl rfl) rfl rfl rfl ?_; refine LL.nilS ?_; refine CC.exit ?_; refine EE.thenX ?_; refine EE.inX ?_; refine EE.thenN ?_; refine CC.region ?_; refine LL.val (R.addNc rfl rfl rfl rfl (by omega)) rfl rfl rfl ?_; refine LL.val (R.move rfl rfl) rfl rfl rfl ?_; refine LL.nil ?_)
        exact EE.round (k + 1) ⟨rfl, rfl, by rw [hlen]; rfl, rfl, rfl, rfl, trivial⟩ ⟨by omega, q, partsN_step hp hz hp0⟩ (by omega)
      | false =>
        have hpe : partN p = nameN p := by unfold partN; rw [hd]; rfl
        have hpl : p.length ≤ 9223372036854775807 := by omega
        (refine LL.nilS ?_; refine CC.no rfl ?_; refine CC.skip ?_; refine EE.thenN ?_; refine CC.seq ?_; refine CC.seq ?_; refine CC.region ?_; refine LL.val (R.move rfl rfl) rfl rfl rfl ?_)
        refine LL.call (R.call rfl rfl rfl) rfl rfl rfl (check_any p hpl _) ?_
        rintro e W ⟨rfl, b⟩
        refine ⟨_, rfl, ?_⟩
        have hsz_ := b.size
        replace q := q.trans (b.mono q.size)
        by_cases hn : nameN p = 0
        · have hp0 : partN p = 0 := by rw [hpe, hn]
          rw [hn]
          (refine LL.val (R.assign rfl rfl) rfl rfl rfl ?_; refine LL.nilS ?_; refine CC.seq ?_; refine CC.region ?_; refine LL.val (R.move rfl rfl) rfl rfl rfl ?_; refine LL.val (R.neF rfl rfl rfl (by omega)) rfl rfl rfl ?_; refine LL.nilS ?_; refine CC.no rfl ?_; refine CC.skip ?_; refine EE.thenN ?_; refine CC.region ?_; refine LL.val (R.move rfl rfl) rfl rfl rfl ?_; refine LL.val (R.move rfl rfl) rfl rfl rfl ?_; refine LL.val (R.lenS rfl rfl rfl rfl) rfl rfl rfl ?_; refine LL.val (R.addI rfl rfl rfl (by omega)) rfl rfl rfl ?_; refine LL.val (R.addI rfl rfl rfl (by omega)) rfl rfl rfl ?_; refine LL.val (R.assign rfl rfl) rfl rfl rfl ?_; refine LL.nil ?_; refine EE.inN ?_; refine EE.thenN ?_; refine CC.region ?_; refine LL.val (R.addNc rfl rfl rfl rfl (by omega)) rfl rfl rfl ?_; refine LL.val (R.move rfl rfl) rfl rfl rfl ?_; refine LL.nil ?_)
          exact EE.round (k + 1) ⟨rfl, rfl, by rw [hlen]; rfl, rfl, rfl, rfl, trivial⟩ ⟨by omega, q, partsN_step hp hz hp0⟩ (by omega)
        · have hpn : partsN ps = nameN p := by rw [partsN_at hp hz (by rw [hpe]; exact hn), hpe]
          have hj : joinN ps = nameN p := by unfold joinN; rw [hpn, if_neg hn]
          obtain ⟨m, hm⟩ : ∃ m, nameN p = m := ⟨_, rfl⟩
          rw [hm] at hn hj ⊢
          (refine LL.val (R.assign rfl rfl) rfl rfl rfl ?_; refine LL.nilS ?_; refine CC.seq ?_; refine CC.region ?_; refine LL.val (R.move rfl rfl) rfl rfl rfl ?_; refine LL.val (R.neT rfl rfl rfl (by omega)) rfl rfl rfl ?_; refine LL.nilS ?_; refine CC.yes rfl ?_)
          refine CC.goto ?_
          (refine EE.thenG ?_; refine EE.inG ?_; refine EE.thenG ?_; refine EE.thenG ?_; refine EE.inG ?_; refine EE.thenG ?_)
          exact EE.jumpTo () rfl ⟨by rw [hj]; rfl, trivial⟩ ⟨q, by rw [hj]; exact hn⟩
    · obtain rfl : k = N := by omega
      rw [List.take_of_length_le (by omega)] at hz ⊢
      obtain ⟨F, hF⟩ : ∃ F, (flatG ps).length = F := ⟨_, rfl⟩
      rw [hF]
      have hj : joinN ps = if 1000 < F then 3 else 0 := by unfold joinN; rw [hz, if_pos rfl, hF]
      by_cases h1 : 1000 < F
      · rw [if_pos h1] at hj
        (refine CC.seq ?_; refine CC.region ?_; refine LL.val (R.ltF rfl rfl rfl (by omega)) rfl rfl rfl ?_; refine LL.nilS ?_; refine CC.seq ?_; refine CC.no rfl ?_; refine CC.exit ?_; refine EE.thenX ?_; refine EE.thenX ?_; refine EE.inX ?_; refine EE.thenN ?_; refine CC.seq ?_; refine CC.seq ?_; refine CC.region ?_; refine LL.val (R.move rfl rfl) rfl rfl rfl ?_; refine LL.val (R.gtT rfl rfl rfl (by omega)) rfl rfl rfl ?_; refine LL.nilS ?_; refine CC.yes rfl ?_; refine CC.seq ?_; refine CC.region ?_; refine LL.val (R.assign rfl rfl) rfl rfl rfl ?_; refine LL.nilS ?_)
        refine CC.goto ?_
        (refine EE.thenG ?_)
        exact EE.jumpTo () rfl ⟨by rw [hj]; rfl, trivial⟩ ⟨q, by rw [hj]; decide⟩
      · rw [if_neg h1] at hj
        (refine CC.seq ?_; refine CC.region ?_; refine LL.val (R.ltF rfl rfl rfl (by omega)) rfl rfl rfl ?_; refine LL.nilS ?_; refine CC.seq ?_; refine CC.no rfl ?_; refine CC.exit ?_; refine EE.thenX ?_; refine EE.thenX ?_; refine EE.inX ?_; refine EE.thenN ?_; refine CC.seq ?_; refine CC.seq ?_; refine CC.region ?_; refine LL.val (R.move rfl rfl) rfl rfl rfl ?_; refine LL.val (R.gtF rfl rfl rfl (by omega)) rfl rfl rfl ?_; refine LL.nilS ?_; refine CC.no rfl ?_; refine CC.skip ?_; refine EE.thenN ?_; refine CC.seq ?_; refine CC.seq ?_; refine CC.region ?_; refine LL.val (R.move rfl rfl) rfl rfl rfl ?_)
        refine LL.call (R.call rfl rfl rfl) rfl rfl rfl (glue_any _ ps _ (ha0.up q) hs) ?_
        rintro e W ⟨rfl, b⟩
        refine ⟨_, rfl, ?_⟩
        have hsz_ := b.size
        replace q := q.trans (b.mono q.size)
        (refine LL.val (R.assign rfl rfl) rfl rfl rfl ?_; refine LL.val (R.assign rfl rfl) rfl rfl rfl ?_; refine LL.nilS ?_; refine CC.ret ?_; refine EE.thenR ?_)
        refine EE.jumpR ?_
        refine EE.ret _ rfl rfl ?_
        rw [hj]
        exact ⟨rfl, q⟩
end Go.Proofs.YtnfggikomoialaaDoor
