/- What the statements' walks use: So16, So17, So18, So19, So20, So21, So22, So23, So24, So25. -/

import Derived.Test.YtfpcpnodcdgbdaaMrb
import Derived.Test.YtfpcpnodcdgbdaaMrc
/- slots: Put, Take, Swap, Tidy, Read, Each, Check. -/
namespace Go.Proofs.Ytfpcpnodcdgbdaa
set_option linter.unusedVariables false
set_option linter.unusedSimpArgs false
open Go.RowKit Go.Shelf
/-- How many keys are less. -/
def posN (s : List Nat) (k : Nat) : Nat := ((List.range (overN s)).takeWhile fun j => decide (keyN s j < k)).length
theorem tw_ex (p : Nat → Bool) : ∀ n, ∃ m, m ≤ n ∧ (∀ i, i < m → p i = true) ∧ (m = n ∨ p m = false)
  | 0 => ⟨0, Nat.le_refl _, fun i h => by omega, .inl rfl⟩
  | n + 1 => by
    obtain ⟨m, h1, h2, h3⟩ := tw_ex p n
    rcases h3 with rfl | h3
    · cases hp : p m with
      | false => exact ⟨m, by omega, h2, .inr hp⟩
      | true => exact ⟨m + 1, by omega, fun i hi => by
          by_cases e : i = m
          · subst e; exact hp
          · exact h2 i (by omega), .inl rfl⟩
    · exact ⟨m, by omega, h2, .inr h3⟩
theorem posN_spec (s : List Nat) (k : Nat) : posN s k ≤ overN s ∧ (∀ j, j < posN s k → keyN s j < k) ∧ (posN s k = overN s ∨ k ≤ keyN s (posN s k)) := by
  obtain ⟨m, h1, h2, h3⟩ := tw_ex (fun j => decide (keyN s j < k)) (overN s)
  have e : posN s k = m := tw_len _ _ h1 h2 h3
  rw [e]
  refine ⟨h1, fun j hj => by simpa using h2 j hj, h3.imp_right fun h => by simpa using h⟩
theorem posN_key {left : Nat} {s : List Nat} {n j k : Nat} (h : Stl left s n) (hj : j < n) (hk : keyN s j = k) : posN s k = j := by
  obtain ⟨h1, h2, h3⟩ := posN_spec s k
  rw [h.over] at h1 h3
  rcases Nat.lt_trichotomy (posN s k) j with e | e | e
  · have := h.rise _ _ e hj
    omega
  · exact e
  · have := h2 j e
    omega
open Classical in
noncomputable def putF (left : Nat) (s : List Nat) (k p : Nat) : Nat × List Pt :=
  if noRow left s.length then (2, []) else if p = 0 ∨ p = left then (2, []) else if ¬ setP left s then (190, []) else if ∃ j, j < overN s ∧ ptrN s j = p then (2, []) else
  if ∃ j, j < overN s ∧ keyN s j = k then (191, []) else if overN s + 1 = s.length / 2 then (3, []) else (0, putL left s (overN s) (posN s k) k p)
open Classical in
noncomputable def takeF (left : Nat) (s : List Nat) (k : Nat) : Nat × List Pt :=
  if noRow left s.length then (2, []) else if ¬ setP left s then (190, []) else if ∃ j, j < overN s ∧ keyN s j = k then (0, takeL left s (posN s k) (overN s)) else (5, [])
open Classical in
noncomputable def swapF (left : Nat) (s : List Nat) (k p : Nat) : Nat × List Pt :=
  if noRow left s.length then (2, []) else if p = 0 ∨ p = left then (2, []) else if ¬ setP left s then (190, []) else if ∃ j, j < overN s ∧ ptrN s j = p then (2, []) else
  if ∃ j, j < overN s ∧ keyN s j = k then (0, swapL (posN s k) p) else (5, [])
open Classical in
noncomputable def tidyF (left : Nat) (s : List Nat) : Nat × List Pt :=
  if noRow left s.length then (2, []) else if setP left (applyS s (tidyL left s)) then (0, tidyL left s) else (190, [])
open Classical in
noncomputable def checkF (left : Nat) (s : List Nat) : Nat := if noRow left s.length then 2 else if setP left s then 0 else 190
/-- What a call of a change hands back. -/
def chQ (r : Nat × List Pt) (w : World) (e : Ending) (w' : World) : Prop := ∃ vo, e = .returned (.tuple #[vo, .int .i64 (r.1 : Int)]) ∧ OwnsT pE 2 w' w.heap.size 59 vo r.2 ∧ Below w.heap.size w w'
theorem chQ_nil {c : Nat} {w : World} {e : Ending} {w' : World} (h : e = .returned (.tuple #[.slice none 0 0, .int .i64 (c : Int)]) ∧ Below w.heap.size w w') : chQ (c, []) w e w' := ⟨_, h.1, OwnsT.none _ _ _, h.2⟩
theorem chQ_os {os : List Pt} {w : World} {e : Ending} {w' : World} (h : ∃ vo, e = .returned (.tuple #[vo, .int .i64 0]) ∧ OwnsT pE 2 w' w.heap.size 59 vo os ∧ Below w.heap.size w w') : chQ (0, os) w e w' := h
theorem noRow_not {left n : Nat} (h : ¬ noRow left n) : left ≠ 0 ∧ n % 2 = 0 ∧ 4 ≤ n ∧ n ≤ 56 := Classical.not_not.1 h
set_option maxRecDepth 100000
set_option maxHeartbeats 4000000
/-- What a change's work comes to, of pairs that are captured. -/
theorem swap_chg (left n k p gp : Nat) (v : Value) (s : List Nat) (w : World) (hv : ReadsT uE 1 w v s) (hn : s.length = n) (h80 : n ≤ 1048576) (rp : RowL w gp 41 [.int .u64 (k : Int), .int .u64 (p : Int)]) : Calls Try.prog 38 #[.int .u64 (left : Int), v, .func (.func 55) #[] [Value.pointer (some ⟨gp, 0, none⟩)].toArray] w (chQ (swapF left s k p) w) := by
  unfold swapF
  rw [hn]
  split
  · rename_i h; exact (change_N left n v s _ _ w hv hn h80 h).mono fun e w' h => chQ_nil h
  rename_i h1
  have hrow := noRow_not h1
  have lgp := rp.lt
  have pan : ∀ c, rpE left s p c → Calls Try.prog 38 #[.int .u64 (left : Int), v, .func (.func 55) #[] [Value.pointer (some ⟨gp, 0, none⟩)].toArray] w (chQ (c, []) w) := fun c hE =>
    (change_P left n v s _ _ w hv hn hrow (by kernel_rfl) c fun W gs cs gr go ob b C => (swap1_E w.heap.size gs cs gr go ob n left gp k p c s [] W C (by omega) (rp.up b) hE).mono fun e W' h => ⟨h.1, s, [], ((Cs.refl C).up h.2).p⟩).mono fun e w' h => chQ_nil h
  split
  · rename_i h2; exact pan 2 (.inl ⟨rfl, h2⟩)
  rename_i h2
  have hp : p ≠ 0 ∧ p ≠ left := ⟨fun e => h2 (.inl e), fun e => h2 (.inr e)⟩
  split
  · rename_i h3; exact pan 190 (.inr ⟨hp.1, hp.2, .inl ⟨rfl, h3⟩⟩)
  rename_i h3
  obtain ⟨m, hs⟩ := setP_iff.1 (Classical.not_not.1 h3)
  rw [hs.over]
  split
  · rename_i h4
    exact pan 2 (.inr ⟨hp.1, hp.2, .inr ⟨rfl, m, hs, h4⟩⟩)
  rename_i h4
  have hne : ∀ j, j < m → ptrN s j ≠ p := fun j hj e => h4 ⟨j, hj, e⟩
  split
  · rename_i h5
    obtain ⟨i, hi, hk⟩ := h5
    rw [posN_key hs hi hk]
    exact (change_W left n v s _ _ w hv hn hrow (by kernel_rfl) _ (swapL i p) fun W gs cs gr go ob b C => (swap1_T w.heap.size gs cs gr go ob n left gp k p m i s [] W C (by omega) (by simp) (rp.up b) (by have := C.lt; omega) hp hs hne hi hk).mono fun e W' h => ⟨h.1, h.2⟩).mono fun e w' h => chQ_os h
  · rename_i h5
    have hk : ∀ j, j < m → keyN s j ≠ k := fun j hj e => h5 ⟨j, hj, e⟩
    exact (change_P left n v s _ _ w hv hn hrow (by kernel_rfl) 5 fun W gs cs gr go ob b C => (swap1_N w.heap.size gs cs gr go ob n left gp k p m s [] W C (by omega) (rp.up b) hp hs hne hk).mono fun e W' h => ⟨h.1, s, [], ((Cs.refl C).up h.2).p⟩).mono fun e w' h => chQ_nil h
theorem put_chg (left n k p gp : Nat) (v : Value) (s : List Nat) (w : World) (hv : ReadsT uE 1 w v s) (hn : s.length = n) (h80 : n ≤ 1048576) (rp : RowL w gp 41 [.int .u64 (k : Int), .int .u64 (p : Int)]) : Calls Try.prog 38 #[.int .u64 (left : Int), v, .func (.func 39) #[] [Value.pointer (some ⟨gp, 0, none⟩)].toArray] w (chQ (putF left s k p) w) := by
  unfold putF
  rw [hn]
  split
  · rename_i h; exact (change_N left n v s _ _ w hv hn h80 h).mono fun e w' h => chQ_nil h
  rename_i h1
  have hrow := noRow_not h1
  have lgp := rp.lt
  have pan : ∀ c, rpE left s p c → Calls Try.prog 38 #[.int .u64 (left : Int), v, .func (.func 39) #[] [Value.pointer (some ⟨gp, 0, none⟩)].toArray] w (chQ (c, []) w) := fun c hE =>
    (change_P left n v s _ _ w hv hn hrow (by kernel_rfl) c fun W gs cs gr go ob b C => (put1_E w.heap.size gs cs gr go ob n left gp k p c s [] W C (by omega) (rp.up b) hE).mono fun e W' h => ⟨h.1, s, [], ((Cs.refl C).up h.2).p⟩).mono fun e w' h => chQ_nil h
  split
  · rename_i h2; exact pan 2 (.inl ⟨rfl, h2⟩)
  rename_i h2
  have hp : p ≠ 0 ∧ p ≠ left := ⟨fun e => h2 (.inl e), fun e => h2 (.inr e)⟩
  split
  · rename_i h3; exact pan 190 (.inr ⟨hp.1, hp.2, .inl ⟨rfl, h3⟩⟩)
  rename_i h3
  obtain ⟨m, hs⟩ := setP_iff.1 (Classical.not_not.1 h3)
  rw [hs.over]
  split
  · rename_i h4
    exact pan 2 (.inr ⟨hp.1, hp.2, .inr ⟨rfl, m, hs, h4⟩⟩)
  rename_i h4
  have hne : ∀ j, j < m → ptrN s j ≠ p := fun j hj e => h4 ⟨j, hj, e⟩
  have pan2 : ∀ c, (∀ (W : World) (gs cs gr go ob : Nat), Below w.heap.size w W → Ch W w.heap.size gs cs gr go ob n left s [] → Calls Try.prog 39 #[rowV (sV gs n cs) left, stoV gr go, .pointer (some ⟨gp, 0, none⟩)] W fun e W' => e = .panicked (chain1 (refV c)) ∧ Below W.heap.size W W') → Calls Try.prog 38 #[.int .u64 (left : Int), v, .func (.func 39) #[] [Value.pointer (some ⟨gp, 0, none⟩)].toArray] w (chQ (c, []) w) := fun c hc =>
    (change_P left n v s _ _ w hv hn hrow (by kernel_rfl) c fun W gs cs gr go ob b C => (hc W gs cs gr go ob b C).mono fun e W' h => ⟨h.1, s, [], ((Cs.refl C).up h.2).p⟩).mono fun e w' h => chQ_nil h
  have hml := hs.lt
  rw [hn] at hml
  split
  · rename_i h5
    obtain ⟨i, hi, hk⟩ := h5
    exact pan2 191 fun W gs cs gr go ob b C => put1_W w.heap.size gs cs gr go ob n left gp k p m i s [] W C (by omega) (rp.up b) hp hs hne hi hk
  rename_i h5
  have hk : ∀ j, j < m → keyN s j ≠ k := fun j hj e => h5 ⟨j, hj, e⟩
  split
  · rename_i h6
    exact pan2 3 fun W gs cs gr go ob b C => put1_L w.heap.size gs cs gr go ob n left gp k p m s [] W C (by omega) (rp.up b) hp hs hne hk (by omega)
  rename_i h6
  obtain ⟨q1, q2, q3⟩ := posN_spec s k
  rw [hs.over] at q1 q3
  have q4 : posN s k = m ∨ k < keyN s (posN s k) := by
    rcases Nat.lt_or_ge (posN s k) m with h | h
    · have := hk _ h
      omega
    · omega
  exact (change_W left n v s _ _ w hv hn hrow (by kernel_rfl) _ (putL left s m (posN s k) k p) fun W gs cs gr go ob b C => (put1_T w.heap.size gs cs gr go ob n left gp k p m (posN s k) s [] W C (by omega) (by simp) (rp.up b) (by have := C.lt; omega) hp hs hne hk (by omega) q1 q2 q4).mono fun e W' h => ⟨h.1, h.2⟩).mono fun e w' h => chQ_os h
theorem take_chg (left n k gp : Nat) (v : Value) (s : List Nat) (w : World) (hv : ReadsT uE 1 w v s) (hn : s.length = n) (h80 : n ≤ 1048576) (rp : RowL w gp 22 [.int .u64 (k : Int)]) : Calls Try.prog 38 #[.int .u64 (left : Int), v, .func (.func 52) #[] [Value.pointer (some ⟨gp, 0, none⟩)].toArray] w (chQ (takeF left s k) w) := by
  unfold takeF
  rw [hn]
  split
  · rename_i h; exact (change_N left n v s _ _ w hv hn h80 h).mono fun e w' h => chQ_nil h
  rename_i h1
  have hrow := noRow_not h1
  have lgp := rp.lt
  have pan2 : ∀ c, (∀ (W : World) (gs cs gr go ob : Nat), Below w.heap.size w W → Ch W w.heap.size gs cs gr go ob n left s [] → Calls Try.prog 52 #[rowV (sV gs n cs) left, stoV gr go, .pointer (some ⟨gp, 0, none⟩)] W fun e W' => e = .panicked (chain1 (refV c)) ∧ Below W.heap.size W W') → Calls Try.prog 38 #[.int .u64 (left : Int), v, .func (.func 52) #[] [Value.pointer (some ⟨gp, 0, none⟩)].toArray] w (chQ (c, []) w) := fun c hc =>
    (change_P left n v s _ _ w hv hn hrow (by kernel_rfl) c fun W gs cs gr go ob b C => (hc W gs cs gr go ob b C).mono fun e W' h => ⟨h.1, s, [], ((Cs.refl C).up h.2).p⟩).mono fun e w' h => chQ_nil h
  split
  · rename_i h3; exact pan2 190 fun W gs cs gr go ob b C => take1_E w.heap.size gs cs gr go ob n left gp k s [] W C (by omega) h3
  rename_i h3
  obtain ⟨m, hs⟩ := setP_iff.1 (Classical.not_not.1 h3)
  rw [hs.over]
  split
  · rename_i h5
    obtain ⟨i, hi, hk⟩ := h5
    rw [posN_key hs hi hk]
    exact (change_W left n v s _ _ w hv hn hrow (by kernel_rfl) _ (takeL left s i m) fun W gs cs gr go ob b C => (take1_T w.heap.size gs cs gr go ob n left gp k m i s [] W C (by omega) (by simp) (rp.up b) (by have := C.lt; omega) hs hi hk).mono fun e W' h => ⟨h.1, h.2⟩).mono fun e w' h => chQ_os h
  · rename_i h5
    have hk : ∀ j, j < m → keyN s j ≠ k := fun j hj e => h5 ⟨j, hj, e⟩
    exact pan2 5 fun W gs cs gr go ob b C => take1_N w.heap.size gs cs gr go ob n left gp k m s [] W C (by omega) (rp.up b) hs hk
theorem tidy_chg (left n : Nat) (v : Value) (s : List Nat) (w : World) (hv : ReadsT uE 1 w v s) (hn : s.length = n) (h80 : n ≤ 1048576) : Calls Try.prog 38 #[.int .u64 (left : Int), v, .func (.func 56) #[] ([] : List Value).toArray] w (chQ (tidyF left s) w) := by
  unfold tidyF
  rw [hn]
  split
  · rename_i h; exact (change_N left n v s _ _ w hv hn h80 h).mono fun e w' h => chQ_nil h
  rename_i h1
  have hrow := noRow_not h1
  split
  · rename_i h2
    exact (change_W left n v s _ _ w hv hn hrow (by kernel_rfl) (applyS s (tidyL left s)) (tidyL left s) fun W gs cs gr go ob b C => (tidy1_any w.heap.size gs cs gr go ob n left s W C (by omega) (by omega)).mono fun e W' h => by
      rcases h with ⟨⟨h3, _⟩ | ⟨_, h3⟩, h4⟩
      · exact ⟨h3, h4⟩
      · exact absurd h2 h3).mono fun e w' h => chQ_os h
  · rename_i h2
    exact (change_P left n v s _ _ w hv hn hrow (by kernel_rfl) 190 fun W gs cs gr go ob b C => (tidy1_any w.heap.size gs cs gr go ob n left s W C (by omega) (by omega)).mono fun e W' h => by
      rcases h with ⟨⟨_, h3⟩ | ⟨h3, _⟩, h4⟩
      · exact absurd h3 h2
      · exact ⟨h3, _, _, h4⟩).mono fun e w' h => chQ_nil h
theorem put_any (left n k p : Nat) (v : Value) (s : List Nat) (w : World) (hv : ReadsT uE 1 w v s) (hn : s.length = n) (h80 : n ≤ 1048576) : Calls Try.prog 19 #[.int .u64 (left : Int), v, .agg #[.int .u64 (k : Int), .int .u64 (p : Int)]] w (chQ (putF left s k p) w) := by
  have q := Below.refl w.heap.size w
  have hvF : ∀ X, Below w.heap.size w X → ReadsT uE 1 X v s := fun X b => hv.up b
  clear hv
  refine X.fn Try.func19 rfl (n := 14) rfl rfl ?_
  refine CC.seq ?_
  refine CC.region ?_
  refine LL.box [Value.int IntKind.u64 ↑k, Value.int IntKind.u64 ↑p] rfl rfl rfl rfl rfl ?_
  intro W9 g10 eg10 r11 z12 b8
  replace q := q.trans (b8.mono q.size)
  refine LL.val (R.assign rfl rfl) rfl rfl rfl ?_
  refine LL.val (R.assign rfl rfl) rfl rfl rfl ?_
  refine LL.nilS ?_
  refine CC.seq ?_
  refine CC.region ?_
  refine LL.val (R.move rfl rfl) rfl rfl rfl ?_
  refine LL.val (R.move rfl rfl) rfl rfl rfl ?_
  refine LL.val (R.func rfl rfl rfl) rfl rfl rfl ?_
  have l57 := r11.lt
  (refine LL.call (R.call rfl rfl rfl) rfl rfl rfl (put_chg left n k p _ v s _ (hvF _ q) hn h80 (by assumption)) ?_; rintro e W56 ⟨vo, rfl, o, b53⟩; refine ⟨_, rfl, ?_⟩)
  have zb53 := b53.size
  replace r11 := r11.up b53
  replace b8 := b8.trans (b53.mono b8.size)
  replace q := q.trans (b53.mono q.size)
  refine LL.val (R.extract rfl rfl rfl) rfl rfl rfl ?_
  refine LL.val (R.extract rfl rfl rfl) rfl rfl rfl ?_
  refine LL.val (R.assign rfl rfl) rfl rfl rfl ?_
  refine LL.val (R.assign rfl rfl) rfl rfl rfl ?_
  refine LL.nilS ?_
  refine CC.ret ?_
  refine EE.ret _ rfl rfl ?_
  exact ⟨_, rfl, o.lower (by omega), q⟩
theorem take_any (left n k : Nat) (v : Value) (s : List Nat) (w : World) (hv : ReadsT uE 1 w v s) (hn : s.length = n) (h80 : n ≤ 1048576) : Calls Try.prog 22 #[.int .u64 (left : Int), v, .int .u64 (k : Int)] w (chQ (takeF left s k) w) := by
  have q := Below.refl w.heap.size w
  have hvF : ∀ X, Below w.heap.size w X → ReadsT uE 1 X v s := fun X b => hv.up b
  clear hv
  refine X.fn Try.func22 rfl (n := 14) rfl rfl ?_
  refine CC.seq ?_
  refine CC.region ?_
  refine LL.box [Value.int IntKind.u64 ↑k] rfl rfl rfl rfl rfl ?_
  intro W9 g10 eg10 r11 z12 b8
  replace q := q.trans (b8.mono q.size)
  refine LL.val (R.assign rfl rfl) rfl rfl rfl ?_
  refine LL.val (R.assign rfl rfl) rfl rfl rfl ?_
  refine LL.nilS ?_
  refine CC.seq ?_
  refine CC.region ?_
  refine LL.val (R.move rfl rfl) rfl rfl rfl ?_
  refine LL.val (R.move rfl rfl) rfl rfl rfl ?_
  refine LL.val (R.func rfl rfl rfl) rfl rfl rfl ?_
  have l57 := r11.lt
  (refine LL.call (R.call rfl rfl rfl) rfl rfl rfl (take_chg left n k _ v s _ (hvF _ q) hn h80 (by assumption)) ?_; rintro e W56 ⟨vo, rfl, o, b53⟩; refine ⟨_, rfl, ?_⟩)
  have zb53 := b53.size
  replace r11 := r11.up b53
  replace b8 := b8.trans (b53.mono b8.size)
  replace q := q.trans (b53.mono q.size)
  refine LL.val (R.extract rfl rfl rfl) rfl rfl rfl ?_
  refine LL.val (R.extract rfl rfl rfl) rfl rfl rfl ?_
  refine LL.val (R.assign rfl rfl) rfl rfl rfl ?_
  refine LL.val (R.assign rfl rfl) rfl rfl rfl ?_
  refine LL.nilS ?_
  refine CC.ret ?_
  refine EE.ret _ rfl rfl ?_
  exact ⟨_, rfl, o.lower (by omega), q⟩
theorem swap_any (left n k p : Nat) (v : Value) (s : List Nat) (w : World) (hv : ReadsT uE 1 w v s) (hn : s.length = n) (h80 : n ≤ 1048576) : Calls Try.prog 24 #[.int .u64 (left : Int), v, .agg #[.int .u64 (k : Int), .int .u64 (p : Int)]] w (chQ (swapF left s k p) w) := by
  have q := Below.refl w.heap.size w
  have hvF : ∀ X, Below w.heap.size w X → ReadsT uE 1 X v s := fun X b => hv.up b
  clear hv
  refine X.fn Try.func24 rfl (n := 14) rfl rfl ?_
  refine CC.seq ?_
  refine CC.region ?_
  refine LL.box [Value.int IntKind.u64 ↑k, Value.int IntKind.u64 ↑p] rfl rfl rfl rfl rfl ?_
  intro W9 g10 eg10 r11 z12 b8
  replace q := q.trans (b8.mono q.size)
  refine LL.val (R.assign rfl rfl) rfl rfl rfl ?_
  refine LL.val (R.assign rfl rfl) rfl rfl rfl ?_
  refine LL.nilS ?_
  refine CC.seq ?_
  refine CC.region ?_
  refine LL.val (R.move rfl rfl) rfl rfl rfl ?_
  refine LL.val (R.move rfl rfl) rfl rfl rfl ?_
  refine LL.val (R.func rfl rfl rfl) rfl rfl rfl ?_
  have l57 := r11.lt
  (refine LL.call (R.call rfl rfl rfl) rfl rfl rfl (swap_chg left n k p _ v s _ (hvF _ q) hn h80 (by assumption)) ?_; rintro e W56 ⟨vo, rfl, o, b53⟩; refine ⟨_, rfl, ?_⟩)
  have zb53 := b53.size
  replace r11 := r11.up b53
  replace b8 := b8.trans (b53.mono b8.size)
  replace q := q.trans (b53.mono q.size)
  refine LL.val (R.extract rfl rfl rfl) rfl rfl rfl ?_
  refine LL.val (R.extract rfl rfl rfl) rfl rfl rfl ?_
  refine LL.val (R.assign rfl rfl) rfl rfl rfl ?_
  refine LL.val (R.assign rfl rfl) rfl rfl rfl ?_
  refine LL.nilS ?_
  refine CC.ret ?_
  refine EE.ret _ rfl rfl ?_
  exact ⟨_, rfl, o.lower (by omega), q⟩
theorem tidy_any (left n : Nat) (v : Value) (s : List Nat) (w : World) (hv : ReadsT uE 1 w v s) (hn : s.length = n) (h80 : n ≤ 1048576) : Calls Try.prog 26 #[.int .u64 (left : Int), v] w (chQ (tidyF left s) w) := by
  have q := Below.refl w.heap.size w
  have hvF : ∀ X, Below w.heap.size w X → ReadsT uE 1 X v s := fun X b => hv.up b
  clear hv
  refine X.fn Try.func26 rfl (n := 11) rfl rfl ?_
  refine CC.seq ?_
  refine CC.region ?_
  refine LL.val (R.assign rfl rfl) rfl rfl rfl ?_
  refine LL.val (R.assign rfl rfl) rfl rfl rfl ?_
  refine LL.nilS ?_
  refine CC.seq ?_
  refine CC.region ?_
  refine LL.val (R.move rfl rfl) rfl rfl rfl ?_
  refine LL.val (R.move rfl rfl) rfl rfl rfl ?_
  (refine LL.call (R.call rfl rfl rfl) rfl rfl rfl (tidy_chg left n v s _ (hvF _ q) hn h80) ?_; rintro e W32 ⟨vo, rfl, o, b29⟩; refine ⟨_, rfl, ?_⟩)
  have zb29 := b29.size
  replace q := q.trans (b29.mono q.size)
  refine LL.val (R.extract rfl rfl rfl) rfl rfl rfl ?_
  refine LL.val (R.extract rfl rfl rfl) rfl rfl rfl ?_
  refine LL.val (R.assign rfl rfl) rfl rfl rfl ?_
  refine LL.val (R.assign rfl rfl) rfl rfl rfl ?_
  refine LL.nilS ?_
  refine CC.ret ?_
  refine EE.ret _ rfl rfl ?_
  exact ⟨_, rfl, o.lower (by omega), q⟩
open Classical in
noncomputable def readF (left : Nat) (s : List Nat) : List Pr := if noRow left s.length then [] else pairP left s
theorem read_any (left n : Nat) (v : Value) (s : List Nat) (w : World) (hv : ReadsT uE 1 w v s) (hn : s.length = n) (h80 : n ≤ 1048576) : Calls Try.prog 14 #[.int .u64 (left : Int), v] w fun e w' => ∃ vo, e = .returned vo ∧ OwnsT prE 2 w' w.heap.size 41 vo (readF left s) ∧ Below w.heap.size w w' := by
  have q := Below.refl w.heap.size w
  obtain ⟨a, c, rfl, hc⟩ := hv.form hn
  have hvF : ∀ X, Below w.heap.size w X → ReadsT uE 1 X (.slice a n c) s := fun X b => hv.up b
  clear hv
  unfold readF
  rw [hn]
  by_cases h1 : noRow left n
  · rw [if_pos h1]
    refine X.fn Try.func14 rfl (n := 15) rfl rfl ?_
    refine CC.seq ?_
    refine CC.region ?_
    refine LL.val (R.assign rfl rfl) rfl rfl rfl ?_
    refine LL.nilS ?_
    refine CC.seq ?_
    refine CC.region ?_
    refine LL.val (R.move rfl rfl) rfl rfl rfl ?_
    refine LL.val (R.buildV rfl rfl (v := .agg #[Value.slice a n c]) (fun _ => by kernel_rfl)) rfl rfl rfl ?_
    refine LL.val (R.move rfl rfl) rfl rfl rfl ?_
    refine LL.val (R.buildV rfl rfl (v := .agg #[Value.slice a n c, Value.int IntKind.u64 ↑left]) (fun _ => by kernel_rfl)) rfl rfl rfl ?_
    refine LL.alloc ([Value.slice none 0 0, Value.int IntKind.u64 0]) rfl rfl rfl rfl rfl ?_
    intro W2 g3 eg3 r4 z5 b1
    replace q := q.trans (b1.mono q.size)
    refine LL.storeN (vs := [Value.slice a n c, Value.int IntKind.u64 ↑left]) rfl rfl rfl rfl r4 (by exact Nat.le_of_ble_eq_true rfl) (ones_of rfl) rfl rfl ?_
    intro W7 r8 b6 z9
    have hlb6 := r4.lt
    replace r8 : RowL W7 _ 65 [Value.slice a n c, Value.int IntKind.u64 ↑left] := r8
    clear r4
    replace b1 := b1.grown b6 b1.size (by rintro k ⟨⟩; omega)
    replace q := q.grown b6 q.size (by rintro k ⟨⟩; omega)
    have r4 := r8
    clear r8
    refine LL.nilS ?_
    refine CC.seq ?_
    refine CC.seq ?_
    refine CC.region ?_
    refine LL.val (R.load rfl rfl (I.ldNc (vs := [Value.slice a n c, Value.int IntKind.u64 ↑left]) (RowL.cells r4 rfl) (by rfl) (by rfl))) rfl rfl rfl ?_
    refine LL.call (R.call rfl rfl rfl) rfl rfl rfl (is_F _ _ _ _ _ (by first | assumption | omega) (by first | assumption | omega)) ?_
    rintro e W11 ⟨rfl, b10⟩
    refine ⟨_, rfl, ?_⟩
    have zb10 := b10.size
    replace b1 := b1.trans (b10.mono b1.size)
    replace q := q.trans (b10.mono q.size)
    replace r4 := r4.up b10
    refine LL.val (R.not rfl rfl) rfl rfl rfl ?_
    refine LL.nilS ?_
    refine CC.yes rfl ?_
    refine CC.seq ?_
    refine CC.region ?_
    refine LL.val (R.assign rfl rfl) rfl rfl rfl ?_
    refine LL.nilS ?_
    refine CC.ret ?_
    refine EE.thenR ?_
    refine EE.ret _ rfl rfl ?_
    exact ⟨_, rfl, OwnsT.none _ _ _, q⟩
  · rw [if_neg h1]
    have hrow := noRow_not h1
    clear h1
    refine X.fn Try.func14 rfl (n := 15) rfl rfl ?_
    refine CC.seq ?_
    refine CC.region ?_
    refine LL.val (R.assign rfl rfl) rfl rfl rfl ?_
    refine LL.nilS ?_
    refine CC.seq ?_
    refine CC.region ?_
    refine LL.val (R.move rfl rfl) rfl rfl rfl ?_
    refine LL.val (R.buildV rfl rfl (v := .agg #[Value.slice a n c]) (fun _ => by kernel_rfl)) rfl rfl rfl ?_
    refine LL.val (R.move rfl rfl) rfl rfl rfl ?_
    refine LL.val (R.buildV rfl rfl (v := .agg #[Value.slice a n c, Value.int IntKind.u64 ↑left]) (fun _ => by kernel_rfl)) rfl rfl rfl ?_
    refine LL.alloc ([Value.slice none 0 0, Value.int IntKind.u64 0]) rfl rfl rfl rfl rfl ?_
    intro Wa44 ga45 ega45 ra46 za47 ba43
    replace q := q.trans (ba43.mono q.size)
    refine LL.storeN (vs := [Value.slice a n c, Value.int IntKind.u64 ↑left]) rfl rfl rfl rfl ra46 (by exact Nat.le_of_ble_eq_true rfl) (ones_of rfl) rfl rfl ?_
    intro Wa57 ra58 ba56 za59
    have hlba56 := ra46.lt
    replace ra58 : RowL Wa57 _ 65 [Value.slice a n c, Value.int IntKind.u64 ↑left] := ra58
    clear ra46
    replace ba43 := ba43.grown ba56 ba43.size (by rintro k ⟨⟩; omega)
    replace q := q.grown ba56 q.size (by rintro k ⟨⟩; omega)
    have ra46 := ra58
    clear ra58
    refine LL.nilS ?_
    refine CC.seq ?_
    refine CC.seq ?_
    refine CC.region ?_
    refine LL.val (R.load rfl rfl (I.ldNc (vs := [Value.slice a n c, Value.int IntKind.u64 ↑left]) (RowL.cells ra46 rfl) (by rfl) (by rfl))) rfl rfl rfl ?_
    refine LL.call (R.call rfl rfl rfl) rfl rfl rfl (is_T _ _ _ _ _ (by first | assumption | omega)) ?_
    rintro e Wa77 ⟨rfl, ba76⟩
    refine ⟨_, rfl, ?_⟩
    have zba76 := ba76.size
    replace ba43 := ba43.trans (ba76.mono ba43.size)
    replace q := q.trans (ba76.mono q.size)
    replace ra46 := ra46.up ba76
    refine LL.val (R.not rfl rfl) rfl rfl rfl ?_
    refine LL.nilS ?_
    refine CC.no rfl ?_
    refine CC.skip ?_
    refine EE.thenN ?_
    refine CC.seq ?_
    refine CC.region ?_
    refine LL.val (R.load rfl rfl (I.ldNc (vs := [Value.slice a n c, Value.int IntKind.u64 ↑left]) (RowL.cells ra46 rfl) (by rfl) (by rfl))) rfl rfl rfl ?_
    have la99 := ra46.lt
    (refine LL.call (R.call rfl rfl rfl) rfl rfl rfl (pairs_any a n c left s _ (hvF _ q) hn h80) ?_; rintro e Wa98 ⟨vo, rfl, o, ba95⟩; refine ⟨_, rfl, ?_⟩)
    have zba95 := ba95.size
    replace ba76 := ba76.trans (ba95.mono ba76.size)
    replace ba43 := ba43.trans (ba95.mono ba43.size)
    replace q := q.trans (ba95.mono q.size)
    replace ra46 := ra46.up ba95
    refine LL.val (R.assign rfl rfl) rfl rfl rfl ?_
    refine LL.nilS ?_
    refine CC.ret ?_
    refine EE.ret _ rfl rfl ?_
    exact ⟨_, rfl, o.lower (by omega), q⟩
theorem check_any (left n : Nat) (v : Value) (s : List Nat) (w : World) (hv : ReadsT uE 1 w v s) (hn : s.length = n) (h80 : n ≤ 1048576) : Calls Try.prog 16 #[.int .u64 (left : Int), v] w fun e w' => e = .returned (.int .i64 (checkF left s : Int)) ∧ Below w.heap.size w w' := by
  have q := Below.refl w.heap.size w
  obtain ⟨a, c, rfl, hc⟩ := hv.form hn
  have hvF : ∀ X, Below w.heap.size w X → ReadsT uE 1 X (.slice a n c) s := fun X b => hv.up b
  clear hv
  unfold checkF
  rw [hn]
  by_cases h1 : noRow left n
  · rw [if_pos h1]
    refine X.fn Try.func16 rfl (n := 18) rfl rfl ?_
    refine CC.seq ?_
    refine CC.region ?_
    refine LL.val (R.assign rfl rfl) rfl rfl rfl ?_
    refine LL.nilS ?_
    refine CC.seq ?_
    refine CC.region ?_
    refine LL.val (R.move rfl rfl) rfl rfl rfl ?_
    refine LL.val (R.buildV rfl rfl (v := .agg #[Value.slice a n c]) (fun _ => by kernel_rfl)) rfl rfl rfl ?_
    refine LL.val (R.move rfl rfl) rfl rfl rfl ?_
    refine LL.val (R.buildV rfl rfl (v := .agg #[Value.slice a n c, Value.int IntKind.u64 ↑left]) (fun _ => by kernel_rfl)) rfl rfl rfl ?_
    refine LL.alloc ([Value.slice none 0 0, Value.int IntKind.u64 0]) rfl rfl rfl rfl rfl ?_
    intro W2 g3 eg3 r4 z5 b1
    replace q := q.trans (b1.mono q.size)
    refine LL.storeN (vs := [Value.slice a n c, Value.int IntKind.u64 ↑left]) rfl rfl rfl rfl r4 (by exact Nat.le_of_ble_eq_true rfl) (ones_of rfl) rfl rfl ?_
    intro W7 r8 b6 z9
    have hlb6 := r4.lt
    replace r8 : RowL W7 _ 65 [Value.slice a n c, Value.int IntKind.u64 ↑left] := r8
    clear r4
    replace b1 := b1.grown b6 b1.size (by rintro k ⟨⟩; omega)
    replace q := q.grown b6 q.size (by rintro k ⟨⟩; omega)
    have r4 := r8
    clear r8
    refine LL.nilS ?_
    refine CC.seq ?_
    refine CC.block ?_
    refine CC.seq ?_
    refine CC.region ?_
    refine LL.val (R.load rfl rfl (I.ldNc (vs := [Value.slice a n c, Value.int IntKind.u64 ↑left]) (RowL.cells r4 rfl) (by rfl) (by rfl))) rfl rfl rfl ?_
    refine LL.call (R.call rfl rfl rfl) rfl rfl rfl (is_F _ _ _ _ _ (by first | assumption | omega) (by first | assumption | omega)) ?_
    rintro e W11 ⟨rfl, b10⟩
    refine ⟨_, rfl, ?_⟩
    have zb10 := b10.size
    replace b1 := b1.trans (b10.mono b1.size)
    replace q := q.trans (b10.mono q.size)
    replace r4 := r4.up b10
    refine LL.val (R.not rfl rfl) rfl rfl rfl ?_
    refine LL.val (R.assign rfl rfl) rfl rfl rfl ?_
    refine LL.nilS ?_
    refine CC.yes rfl ?_
    refine CC.seq ?_
    refine CC.region ?_
    refine LL.val (R.assign rfl rfl) rfl rfl rfl ?_
    refine LL.nilS ?_
    refine CC.ret ?_
    refine EE.inR ?_
    refine EE.thenR ?_
    refine EE.ret _ rfl rfl ?_
    exact ⟨rfl, q⟩
  · rw [if_neg h1]
    have hrow := noRow_not h1
    clear h1
    by_cases h2 : setP left s
    · rw [if_pos h2]
      refine X.fn Try.func16 rfl (n := 18) rfl rfl ?_
      refine CC.seq ?_
      refine CC.region ?_
      refine LL.val (R.assign rfl rfl) rfl rfl rfl ?_
      refine LL.nilS ?_
      refine CC.seq ?_
      refine CC.region ?_
      refine LL.val (R.move rfl rfl) rfl rfl rfl ?_
      refine LL.val (R.buildV rfl rfl (v := .agg #[Value.slice a n c]) (fun _ => by kernel_rfl)) rfl rfl rfl ?_
      refine LL.val (R.move rfl rfl) rfl rfl rfl ?_
      refine LL.val (R.buildV rfl rfl (v := .agg #[Value.slice a n c, Value.int IntKind.u64 ↑left]) (fun _ => by kernel_rfl)) rfl rfl rfl ?_
      refine LL.alloc ([Value.slice none 0 0, Value.int IntKind.u64 0]) rfl rfl rfl rfl rfl ?_
      intro Wa44 ga45 ega45 ra46 za47 ba43
      replace q := q.trans (ba43.mono q.size)
      refine LL.storeN (vs := [Value.slice a n c, Value.int IntKind.u64 ↑left]) rfl rfl rfl rfl ra46 (by exact Nat.le_of_ble_eq_true rfl) (ones_of rfl) rfl rfl ?_
      intro Wa57 ra58 ba56 za59
      have hlba56 := ra46.lt
      replace ra58 : RowL Wa57 _ 65 [Value.slice a n c, Value.int IntKind.u64 ↑left] := ra58
      clear ra46
      replace ba43 := ba43.grown ba56 ba43.size (by rintro k ⟨⟩; omega)
      replace q := q.grown ba56 q.size (by rintro k ⟨⟩; omega)
      have ra46 := ra58
      clear ra58
      refine LL.nilS ?_
      refine CC.seq ?_
      refine CC.block ?_
      refine CC.seq ?_
      refine CC.region ?_
      refine LL.val (R.load rfl rfl (I.ldNc (vs := [Value.slice a n c, Value.int IntKind.u64 ↑left]) (RowL.cells ra46 rfl) (by rfl) (by rfl))) rfl rfl rfl ?_
      refine LL.call (R.call rfl rfl rfl) rfl rfl rfl (is_T _ _ _ _ _ (by first | assumption | omega)) ?_
      rintro e Wa77 ⟨rfl, ba76⟩
      refine ⟨_, rfl, ?_⟩
      have zba76 := ba76.size
      replace ba43 := ba43.trans (ba76.mono ba43.size)
      replace q := q.trans (ba76.mono q.size)
      replace ra46 := ra46.up ba76
      refine LL.val (R.not rfl rfl) rfl rfl rfl ?_
      refine LL.val (R.assign rfl rfl) rfl rfl rfl ?_
      refine LL.nilS ?_
      refine CC.no rfl ?_
      refine CC.seq ?_
      refine CC.region ?_
      refine LL.val (R.load rfl rfl (I.ldNc (vs := [Value.slice a n c, Value.int IntKind.u64 ↑left]) (RowL.cells ra46 rfl) (by rfl) (by rfl))) rfl rfl rfl ?_
      have la107 := ra46.lt
      (refine LL.call (R.call rfl rfl rfl) rfl rfl rfl (settled_T a n c left s _ (hvF _ q) hn h80 h2) ?_; rintro e Wa106 ⟨rfl, ba103⟩; refine ⟨_, rfl, ?_⟩)
      have zba103 := ba103.size
      replace ba76 := ba76.trans (ba103.mono ba76.size)
      replace ba43 := ba43.trans (ba103.mono ba43.size)
      replace q := q.trans (ba103.mono q.size)
      replace ra46 := ra46.up ba103
      refine LL.val (R.not rfl rfl) rfl rfl rfl ?_
      refine LL.val (R.assign rfl rfl) rfl rfl rfl ?_
      refine LL.nilS ?_
      refine CC.no rfl ?_
      refine CC.skip ?_
      refine EE.inN ?_
      refine EE.thenN ?_
      refine CC.seq ?_
      refine CC.region ?_
      refine LL.val (R.assign rfl rfl) rfl rfl rfl ?_
      refine LL.nilS ?_
      refine CC.ret ?_
      refine EE.ret _ rfl rfl ?_
      exact ⟨rfl, q⟩
    · rw [if_neg h2]
      refine X.fn Try.func16 rfl (n := 18) rfl rfl ?_
      refine CC.seq ?_
      refine CC.region ?_
      refine LL.val (R.assign rfl rfl) rfl rfl rfl ?_
      refine LL.nilS ?_
      refine CC.seq ?_
      refine CC.region ?_
      refine LL.val (R.move rfl rfl) rfl rfl rfl ?_
      refine LL.val (R.buildV rfl rfl (v := .agg #[Value.slice a n c]) (fun _ => by kernel_rfl)) rfl rfl rfl ?_
      refine LL.val (R.move rfl rfl) rfl rfl rfl ?_
      refine LL.val (R.buildV rfl rfl (v := .agg #[Value.slice a n c, Value.int IntKind.u64 ↑left]) (fun _ => by kernel_rfl)) rfl rfl rfl ?_
      refine LL.alloc ([Value.slice none 0 0, Value.int IntKind.u64 0]) rfl rfl rfl rfl rfl ?_
      intro Wb44 gb45 egb45 rb46 zb47 bb43
      replace q := q.trans (bb43.mono q.size)
      refine LL.storeN (vs := [Value.slice a n c, Value.int IntKind.u64 ↑left]) rfl rfl rfl rfl rb46 (by exact Nat.le_of_ble_eq_true rfl) (ones_of rfl) rfl rfl ?_
      intro Wb57 rb58 bb56 zb59
      have hlbb56 := rb46.lt
      replace rb58 : RowL Wb57 _ 65 [Value.slice a n c, Value.int IntKind.u64 ↑left] := rb58
      clear rb46
      replace bb43 := bb43.grown bb56 bb43.size (by rintro k ⟨⟩; omega)
      replace q := q.grown bb56 q.size (by rintro k ⟨⟩; omega)
      have rb46 := rb58
      clear rb58
      refine LL.nilS ?_
      refine CC.seq ?_
      refine CC.block ?_
      refine CC.seq ?_
      refine CC.region ?_
      refine LL.val (R.load rfl rfl (I.ldNc (vs := [Value.slice a n c, Value.int IntKind.u64 ↑left]) (RowL.cells rb46 rfl) (by rfl) (by rfl))) rfl rfl rfl ?_
      refine LL.call (R.call rfl rfl rfl) rfl rfl rfl (is_T _ _ _ _ _ (by first | assumption | omega)) ?_
      rintro e Wb77 ⟨rfl, bb76⟩
      refine ⟨_, rfl, ?_⟩
      have zbb76 := bb76.size
      replace bb43 := bb43.trans (bb76.mono bb43.size)
      replace q := q.trans (bb76.mono q.size)
      replace rb46 := rb46.up bb76
      refine LL.val (R.not rfl rfl) rfl rfl rfl ?_
      refine LL.val (R.assign rfl rfl) rfl rfl rfl ?_
      refine LL.nilS ?_
      refine CC.no rfl ?_
      refine CC.seq ?_
      refine CC.region ?_
      refine LL.val (R.load rfl rfl (I.ldNc (vs := [Value.slice a n c, Value.int IntKind.u64 ↑left]) (RowL.cells rb46 rfl) (by rfl) (by rfl))) rfl rfl rfl ?_
      have lb107 := rb46.lt
      (refine LL.call (R.call rfl rfl rfl) rfl rfl rfl (settled_F a n c left s _ (hvF _ q) hn h80 h2) ?_; rintro e Wb106 ⟨rfl, bb103⟩; refine ⟨_, rfl, ?_⟩)
      have zbb103 := bb103.size
      replace bb76 := bb76.trans (bb103.mono bb76.size)
      replace bb43 := bb43.trans (bb103.mono bb43.size)
      replace q := q.trans (bb103.mono q.size)
      replace rb46 := rb46.up bb103
      refine LL.val (R.not rfl rfl) rfl rfl rfl ?_
      refine LL.val (R.assign rfl rfl) rfl rfl rfl ?_
      refine LL.nilS ?_
      refine CC.yes rfl ?_
      refine CC.seq ?_
      refine CC.region ?_
      refine LL.val (R.assign rfl rfl) rfl rfl rfl ?_
      refine LL.nilS ?_
      refine CC.ret ?_
      refine EE.inR ?_
      refine EE.thenR ?_
      refine EE.ret _ rfl rfl ?_
      exact ⟨rfl, q⟩
end Go.Proofs.Ytfpcpnodcdgbdaa

/- slots: Each; the document's rows. -/
namespace Go.Proofs.Ytfpcpnodcdgbdaa
set_option linter.unusedVariables false
set_option linter.unusedSimpArgs false
open Go.RowKit Go.Shelf
open Classical in
noncomputable def eachS (left : Nat) (s : List Nat) : List Nat := if noRow left s.length then [] else s
set_option maxRecDepth 100000
set_option maxHeartbeats 4000000
theorem peach_any (left n : Nat) (v : Value) (s : List Nat) (w : World) (hv : ReadsT uE 1 w v s) (hn : s.length = n) (h80 : n ≤ 1048576) : Calls Try.prog 18 #[.int .u64 (left : Int), v] w fun e w' => ∃ bk a c, e = .returned (.func (.func 62) #[] #[.pointer (some ⟨bk, 0, none⟩)]) ∧ RowL w' bk 65 [.slice a (eachS left s).length c, .int .u64 (left : Int)] ∧ OwnsT uE 1 w' w.heap.size 22 (.slice a (eachS left s).length c) (eachS left s) ∧ w.heap.size ≤ bk ∧ Below w.heap.size w w' := by
  have q := Below.refl w.heap.size w
  have hvF : ∀ X, Below w.heap.size w X → ReadsT uE 1 X v s := fun X b => hv.up b
  clear hv
  have hvlt : ∀ (X : World) (a : Option Addr) (c : Nat), OwnsT uE 1 X w.heap.size 22 (.slice a n c) s → True := fun _ _ _ _ => trivial
  clear hvlt
  unfold eachS
  rw [hn]
  by_cases h1 : noRow left n
  · rw [if_pos h1]
    refine X.fn Try.func18 rfl (n := 18) rfl rfl ?_
    refine CC.seq ?_
    refine CC.region ?_
    refine LL.val (R.assign rfl rfl) rfl rfl rfl ?_
    refine LL.nilS ?_
    refine CC.seq ?_
    refine CC.region ?_
    refine LL.val (R.move rfl rfl) rfl rfl rfl ?_
    (refine LL.call (R.call rfl rfl rfl) rfl rfl rfl (uclone_any v s _ (hvF _ q) (by omega)) ?_; rintro e W18 ⟨v', rfl, o, b15⟩; refine ⟨_, rfl, ?_⟩; obtain ⟨aV, cV, rfl, hcV⟩ := (o.reads uEnc).form hn; clear o)
    have zb15 := b15.size
    replace q := q.trans (b15.mono q.size)
    refine LL.val (R.buildV rfl rfl (v := .agg #[Value.slice aV n cV]) (fun _ => by kernel_rfl)) rfl rfl rfl ?_
    refine LL.val (R.move rfl rfl) rfl rfl rfl ?_
    refine LL.val (R.buildV rfl rfl (v := .agg #[Value.slice aV n cV, Value.int IntKind.u64 ↑left]) (fun _ => by kernel_rfl)) rfl rfl rfl ?_
    refine LL.alloc ([Value.slice none 0 0, Value.int IntKind.u64 0]) rfl rfl rfl rfl rfl ?_
    intro W51 g52 eg52 r53 z54 b50
    replace b15 := b15.trans (b50.mono b15.size)
    replace q := q.trans (b50.mono q.size)
    refine LL.storeN (vs := [Value.slice aV n cV, Value.int IntKind.u64 ↑left]) rfl rfl rfl rfl r53 (by exact Nat.le_of_ble_eq_true rfl) (ones_of rfl) rfl rfl ?_
    intro W64 r65 b63 z66
    have hlb63 := r53.lt
    replace r65 : RowL W64 _ 65 [Value.slice aV n cV, Value.int IntKind.u64 ↑left] := r65
    clear r53
    replace b50 := b50.grown b63 b50.size (by rintro k ⟨⟩; omega)
    replace b15 := b15.grown b63 b15.size (by rintro k ⟨⟩; omega)
    replace q := q.grown b63 q.size (by rintro k ⟨⟩; omega)
    have r53 := r65
    clear r65
    refine LL.nilS ?_
    refine CC.seq ?_
    refine CC.seq ?_
    refine CC.region ?_
    refine LL.val (R.load rfl rfl (I.ldNc (vs := [Value.slice aV n cV, Value.int IntKind.u64 ↑left]) (RowL.cells r53 rfl) (by rfl) (by rfl))) rfl rfl rfl ?_
    refine LL.call (R.call rfl rfl rfl) rfl rfl rfl (is_F _ _ _ _ _ (by first | assumption | omega) (by first | assumption | omega)) ?_
    rintro e W84 ⟨rfl, b83⟩
    refine ⟨_, rfl, ?_⟩
    have zb83 := b83.size
    replace b50 := b50.trans (b83.mono b50.size)
    replace b15 := b15.trans (b83.mono b15.size)
    replace q := q.trans (b83.mono q.size)
    replace r53 := r53.up b83
    refine LL.val (R.not rfl rfl) rfl rfl rfl ?_
    refine LL.nilS ?_
    refine CC.yes rfl ?_
    refine CC.region ?_
    refine LL.val (R.field rfl rfl (I.fld rfl)) rfl rfl rfl ?_
    refine LL.val (R.field rfl rfl (I.fld rfl)) rfl rfl rfl ?_
    refine LL.store rfl rfl rfl rfl r53 (by exact Nat.le_of_ble_eq_true rfl) rfl rfl rfl rfl ?_
    intro W119 r120 b118 z121
    have hlb118 := r53.lt
    replace r120 : RowL W119 _ 65 [Value.slice none 0 0, Value.int IntKind.u64 ↑left] := r120
    clear r53
    replace b50 := b50.grown b118 b50.size (by rintro k ⟨⟩; omega)
    replace b15 := b15.grown b118 b15.size (by rintro k ⟨⟩; omega)
    replace q := q.grown b118 q.size (by rintro k ⟨⟩; omega)
    have r53 := r120
    clear r120
    refine LL.nilS ?_
    refine CC.seq ?_
    refine CC.region ?_
    refine LL.val (R.load rfl rfl (I.ldNc (vs := [Value.slice none 0 0, Value.int IntKind.u64 ↑left]) (RowL.cells r53 rfl) (by rfl) (by rfl))) rfl rfl rfl ?_
    refine LL.call (R.call rfl rfl rfl) rfl rfl rfl (each_any _ _ _ _ _) ?_
    rintro e W139 ⟨g140, rfl, r141, l142, b138⟩
    refine ⟨_, rfl, ?_⟩
    have zb138 := b138.size
    replace b50 := b50.trans (b138.mono b50.size)
    replace b15 := b15.trans (b138.mono b15.size)
    replace q := q.trans (b138.mono q.size)
    replace r53 := r53.up b138
    refine LL.val (R.assign rfl rfl) rfl rfl rfl ?_
    refine LL.nilS ?_
    refine CC.ret ?_
    refine EE.ret _ rfl rfl ?_
    exact ⟨_, _, _, rfl, by assumption, OwnsT.none _ _ _, by omega, q⟩
  · rw [if_neg h1]
    have hrow := noRow_not h1
    clear h1
    rw [hn]
    refine X.fn Try.func18 rfl (n := 18) rfl rfl ?_
    refine CC.seq ?_
    refine CC.region ?_
    refine LL.val (R.assign rfl rfl) rfl rfl rfl ?_
    refine LL.nilS ?_
    refine CC.seq ?_
    refine CC.region ?_
    refine LL.val (R.move rfl rfl) rfl rfl rfl ?_
    (refine LL.call (R.call rfl rfl rfl) rfl rfl rfl (uclone_any v s _ (hvF _ q) (by omega)) ?_; rintro e Wa18 ⟨v', rfl, o, ba15⟩; refine ⟨_, rfl, ?_⟩; obtain ⟨aV, cV, rfl, hcV⟩ := (o.reads uEnc).form hn; have oF : ∀ X, Below (Wa18).heap.size Wa18 X → OwnsT uE 1 X w.heap.size 22 (.slice aV n cV) s := fun X b => (o.up b).lower (by have := q.size; omega); have qn := Below.refl (Wa18).heap.size Wa18; clear o)
    have zba15 := ba15.size
    replace q := q.trans (ba15.mono q.size)
    refine LL.val (R.buildV rfl rfl (v := .agg #[Value.slice aV n cV]) (fun _ => by kernel_rfl)) rfl rfl rfl ?_
    refine LL.val (R.move rfl rfl) rfl rfl rfl ?_
    refine LL.val (R.buildV rfl rfl (v := .agg #[Value.slice aV n cV, Value.int IntKind.u64 ↑left]) (fun _ => by kernel_rfl)) rfl rfl rfl ?_
    refine LL.alloc ([Value.slice none 0 0, Value.int IntKind.u64 0]) rfl rfl rfl rfl rfl ?_
    intro Wa51 ga52 ega52 ra53 za54 ba50
    replace ba15 := ba15.trans (ba50.mono ba15.size)
    replace qn := qn.trans (ba50.mono qn.size)
    replace q := q.trans (ba50.mono q.size)
    refine LL.storeN (vs := [Value.slice aV n cV, Value.int IntKind.u64 ↑left]) rfl rfl rfl rfl ra53 (by exact Nat.le_of_ble_eq_true rfl) (ones_of rfl) rfl rfl ?_
    intro Wa64 ra65 ba63 za66
    have hlba63 := ra53.lt
    replace ra65 : RowL Wa64 _ 65 [Value.slice aV n cV, Value.int IntKind.u64 ↑left] := ra65
    clear ra53
    replace ba50 := ba50.grown ba63 ba50.size (by rintro k ⟨⟩; omega)
    replace ba15 := ba15.grown ba63 ba15.size (by rintro k ⟨⟩; omega)
    replace qn := qn.grown ba63 qn.size (by rintro k ⟨⟩; omega)
    replace q := q.grown ba63 q.size (by rintro k ⟨⟩; omega)
    have ra53 := ra65
    clear ra65
    refine LL.nilS ?_
    refine CC.seq ?_
    refine CC.seq ?_
    refine CC.region ?_
    refine LL.val (R.load rfl rfl (I.ldNc (vs := [Value.slice aV n cV, Value.int IntKind.u64 ↑left]) (RowL.cells ra53 rfl) (by rfl) (by rfl))) rfl rfl rfl ?_
    refine LL.call (R.call rfl rfl rfl) rfl rfl rfl (is_T _ _ _ _ _ (by first | assumption | omega)) ?_
    rintro e Wa84 ⟨rfl, ba83⟩
    refine ⟨_, rfl, ?_⟩
    have zba83 := ba83.size
    replace ba50 := ba50.trans (ba83.mono ba50.size)
    replace ba15 := ba15.trans (ba83.mono ba15.size)
    replace qn := qn.trans (ba83.mono qn.size)
    replace q := q.trans (ba83.mono q.size)
    replace ra53 := ra53.up ba83
    refine LL.val (R.not rfl rfl) rfl rfl rfl ?_
    refine LL.nilS ?_
    refine CC.no rfl ?_
    refine CC.skip ?_
    refine EE.thenN ?_
    refine CC.seq ?_
    refine CC.region ?_
    refine LL.val (R.load rfl rfl (I.ldNc (vs := [Value.slice aV n cV, Value.int IntKind.u64 ↑left]) (RowL.cells ra53 rfl) (by rfl) (by rfl))) rfl rfl rfl ?_
    refine LL.call (R.call rfl rfl rfl) rfl rfl rfl (each_any _ _ _ _ _) ?_
    rintro e Wa111 ⟨ga112, rfl, ra113, la114, ba110⟩
    refine ⟨_, rfl, ?_⟩
    have zba110 := ba110.size
    replace ba83 := ba83.trans (ba110.mono ba83.size)
    replace ba50 := ba50.trans (ba110.mono ba50.size)
    replace ba15 := ba15.trans (ba110.mono ba15.size)
    replace qn := qn.trans (ba110.mono qn.size)
    replace q := q.trans (ba110.mono q.size)
    replace ra53 := ra53.up ba110
    refine LL.val (R.assign rfl rfl) rfl rfl rfl ?_
    refine LL.nilS ?_
    refine CC.ret ?_
    refine EE.ret _ rfl rfl ?_
    exact ⟨_, _, _, rfl, by assumption, oF _ qn, by omega, q⟩
end Go.Proofs.Ytfpcpnodcdgbdaa

/- slots: the document's rows, and what is read of them. -/
namespace Go.Proofs.Ytfpcpnodcdgbdaa
set_option linter.unusedVariables false
set_option linter.unusedSimpArgs false
open Go.RowKit Go.Shelf
def iE (n : Nat) : List Value := [.int .i64 (n : Int)]

theorem iEnc : Enc iE 1 := ⟨fun _ => rfl, fun t u hu => by
  simp only [iE, List.mem_cons, List.not_mem_nil, or_false] at hu
  subst hu
  rfl, by decide⟩

theorem Try.infoInt : (Try.prog.info? 3).map (fun i => (i.zero, i.size, i.bytes)) = some (some (.int .i64 0), 1, 8) := by kernel_rfl

theorem ElIn : ElT Try.prog 26 3 (.int .i64 0) 1 8 := info_parts_t Try.underlying26 Try.infoInt rfl

set_option maxRecDepth 100000
set_option maxHeartbeats 4000000
theorem dright_T (left : Nat) (a : Option Addr) (n c : Nat) (w : World) (h : left ≠ 0 ∧ n % 2 = 0 ∧ 4 ≤ n ∧ n ≤ 56) : Calls Try.prog 10 #[.int .u64 (left : Int), .slice a n c] w fun e w' => e = .returned (.bool true) ∧ w = w' := by
  refine X.fn Try.func10 rfl (n := 23) rfl rfl ?_
  refine CC.seq ?_
  refine CC.region ?_
  refine LL.val (R.assign rfl rfl) rfl rfl rfl ?_
  refine LL.nilS ?_
  refine CC.seq ?_
  refine CC.region ?_
  refine LL.val (R.move rfl rfl) rfl rfl rfl ?_
  refine LL.val (R.neT rfl rfl rfl (by omega)) rfl rfl rfl ?_
  refine LL.val (R.move rfl rfl) rfl rfl rfl ?_
  refine LL.val (R.move rfl rfl) rfl rfl rfl ?_
  refine LL.val (R.len rfl rfl rfl rfl) rfl rfl rfl ?_
  refine LL.val (R.remNc rfl rfl rfl rfl (by omega)) rfl rfl rfl ?_
  refine LL.val (R.eqT rfl rfl rfl (by omega)) rfl rfl rfl ?_
  refine LL.val (R.pick rfl rfl rfl) rfl rfl rfl ?_
  refine LL.val (R.move rfl rfl) rfl rfl rfl ?_
  refine LL.val (R.move rfl rfl) rfl rfl rfl ?_
  refine LL.val (R.len rfl rfl rfl rfl) rfl rfl rfl ?_
  refine LL.val (R.geT rfl rfl rfl (by omega)) rfl rfl rfl ?_
  refine LL.val (R.pick rfl rfl rfl) rfl rfl rfl ?_
  refine LL.val (R.move rfl rfl) rfl rfl rfl ?_
  refine LL.val (R.move rfl rfl) rfl rfl rfl ?_
  refine LL.val (R.len rfl rfl rfl rfl) rfl rfl rfl ?_
  refine LL.val (R.leT rfl rfl rfl (by omega)) rfl rfl rfl ?_
  refine LL.val (R.pick rfl rfl rfl) rfl rfl rfl ?_
  refine LL.val (R.assign rfl rfl) rfl rfl rfl ?_
  refine LL.nilS ?_
  refine CC.ret ?_
  refine EE.ret _ rfl rfl ?_
  exact ⟨rfl, rfl⟩
--C ref09_Right | dright_F _ _ _ _ @w @p @p | S
theorem dright_F (left : Nat) (a : Option Addr) (n c : Nat) (w : World) (h : noRow left n) (hn : n ≤ 1048576) : Calls Try.prog 10 #[.int .u64 (left : Int), .slice a n c] w fun e w' => e = .returned (.bool false) ∧ w = w' := by
  have h2 : left = 0 ∨ n % 2 ≠ 0 ∨ n < 4 ∨ 56 < n := by
    unfold noRow at h
    omega
  clear h
  refine X.fn Try.func10 rfl (n := 23) rfl rfl ?_
  refine CC.seq ?_
  refine CC.region ?_
  refine LL.val (R.assign rfl rfl) rfl rfl rfl ?_
  refine LL.nilS ?_
  refine CC.seq ?_
  refine CC.region ?_
  refine LL.val (R.move rfl rfl) rfl rfl rfl ?_
  refine LL.vsplit (fun h => R.neT rfl rfl rfl h) (fun h => R.neF rfl rfl rfl (Decidable.not_not.1 h)) rfl rfl rfl (fun c1 => ?_) (fun c1 => ?_)
  refine LL.val (R.move rfl rfl) rfl rfl rfl ?_
  refine LL.val (R.move rfl rfl) rfl rfl rfl ?_
  refine LL.val (R.len rfl rfl rfl rfl) rfl rfl rfl ?_
  refine LL.val (R.remNc rfl rfl rfl rfl (by omega)) rfl rfl rfl ?_
  refine LL.vsplit (fun h => R.eqT rfl rfl rfl h) (fun h => R.eqF rfl rfl rfl h) rfl rfl rfl (fun c2 => ?_) (fun c2 => ?_)
  refine LL.val (R.pick rfl rfl rfl) rfl rfl rfl ?_
  refine LL.val (R.move rfl rfl) rfl rfl rfl ?_
  refine LL.val (R.move rfl rfl) rfl rfl rfl ?_
  refine LL.val (R.len rfl rfl rfl rfl) rfl rfl rfl ?_
  refine LL.vsplit (fun h => R.geT rfl rfl rfl h) (fun h => R.geF rfl rfl rfl (Int.not_le.1 h)) rfl rfl rfl (fun c3 => ?_) (fun c3 => ?_)
  refine LL.val (R.pick rfl rfl rfl) rfl rfl rfl ?_
  refine LL.val (R.move rfl rfl) rfl rfl rfl ?_
  refine LL.val (R.move rfl rfl) rfl rfl rfl ?_
  refine LL.val (R.len rfl rfl rfl rfl) rfl rfl rfl ?_
  refine LL.val (R.leF rfl rfl rfl (by omega)) rfl rfl rfl ?_
  refine LL.val (R.pick rfl rfl rfl) rfl rfl rfl ?_
  refine LL.val (R.assign rfl rfl) rfl rfl rfl ?_
  refine LL.nilS ?_
  refine CC.ret ?_
  refine EE.ret _ rfl rfl ?_
  exact ⟨rfl, rfl⟩
  refine LL.val (R.pick rfl rfl rfl) rfl rfl rfl ?_
  refine LL.val (R.move rfl rfl) rfl rfl rfl ?_
  refine LL.skip rfl rfl ?_
  refine LL.skip rfl rfl ?_
  refine LL.skip rfl rfl ?_
  refine LL.val (R.pick rfl rfl rfl) rfl rfl rfl ?_
  refine LL.val (R.assign rfl rfl) rfl rfl rfl ?_
  refine LL.nilS ?_
  refine CC.ret ?_
  refine EE.ret _ rfl rfl ?_
  exact ⟨rfl, rfl⟩
  refine LL.val (R.pick rfl rfl rfl) rfl rfl rfl ?_
  refine LL.val (R.move rfl rfl) rfl rfl rfl ?_
  refine LL.skip rfl rfl ?_
  refine LL.skip rfl rfl ?_
  refine LL.skip rfl rfl ?_
  refine LL.val (R.pick rfl rfl rfl) rfl rfl rfl ?_
  refine LL.val (R.move rfl rfl) rfl rfl rfl ?_
  refine LL.skip rfl rfl ?_
  refine LL.skip rfl rfl ?_
  refine LL.skip rfl rfl ?_
  refine LL.val (R.pick rfl rfl rfl) rfl rfl rfl ?_
  refine LL.val (R.assign rfl rfl) rfl rfl rfl ?_
  refine LL.nilS ?_
  refine CC.ret ?_
  refine EE.ret _ rfl rfl ?_
  exact ⟨rfl, rfl⟩
  refine LL.val (R.move rfl rfl) rfl rfl rfl ?_
  refine LL.skip rfl rfl ?_
  refine LL.skip rfl rfl ?_
  refine LL.skip rfl rfl ?_
  refine LL.skip rfl rfl ?_
  refine LL.val (R.pick rfl rfl rfl) rfl rfl rfl ?_
  refine LL.val (R.move rfl rfl) rfl rfl rfl ?_
  refine LL.skip rfl rfl ?_
  refine LL.skip rfl rfl ?_
  refine LL.skip rfl rfl ?_
  refine LL.val (R.pick rfl rfl rfl) rfl rfl rfl ?_
  refine LL.val (R.move rfl rfl) rfl rfl rfl ?_
  refine LL.skip rfl rfl ?_
  refine LL.skip rfl rfl ?_
  refine LL.skip rfl rfl ?_
  refine LL.val (R.pick rfl rfl rfl) rfl rfl rfl ?_
  refine LL.val (R.assign rfl rfl) rfl rfl rfl ?_
  refine LL.nilS ?_
  refine CC.ret ?_
  refine EE.ret _ rfl rfl ?_
  exact ⟨rfl, rfl⟩
theorem dahead_any (left : Nat) (a : Option Addr) (n c j : Nat) (s : List Nat) (w : World) (hv : ReadsT uE 1 w (.slice a n c) s) (hn : s.length = n) (h : n ≤ 1048576) (hj : j ≤ n / 2) : Calls Try.prog 31 #[.int .u64 (left : Int), .slice a n c, .int .i64 (j : Int)] w fun e w' => e = .returned (.int .u64 (aheadN left s j : Int)) ∧ w = w' := by
  unfold aheadN
  by_cases h0 : j = 0
  · subst h0
    rw [if_pos rfl]
    refine X.fn Try.func31 rfl (n := 16) rfl rfl ?_
    refine CC.seq ?_
    refine CC.region ?_
    refine LL.val (R.assign rfl rfl) rfl rfl rfl ?_
    refine LL.nilS ?_
    refine CC.seq ?_
    refine CC.seq ?_
    refine CC.region ?_
    refine LL.val (R.move rfl rfl) rfl rfl rfl ?_
    refine LL.val (R.eqT rfl rfl rfl (by omega)) rfl rfl rfl ?_
    refine LL.nilS ?_
    refine CC.yes rfl ?_
    refine CC.seq ?_
    refine CC.region ?_
    refine LL.val (R.move rfl rfl) rfl rfl rfl ?_
    refine LL.val (R.assign rfl rfl) rfl rfl rfl ?_
    refine LL.nilS ?_
    refine CC.ret ?_
    refine EE.thenR ?_
    refine EE.ret _ rfl rfl ?_
    exact ⟨rfl, rfl⟩
  · rw [if_neg h0]
    obtain ⟨i, rfl⟩ : ∃ i, j = i + 1 := ⟨j - 1, by omega⟩
    obtain ⟨b, o, rfl, lb, m1⟩ := u_at hv (ptrN_at (s := s) (j := i) (by omega))
    have c1 : w.cell? ⟨b, o + (2 * (i + 1) - 1), none⟩ = some (.int .u64 (ptrN s (i + 1 - 1) : Int)) := m1 w (Below.refl _ _)
    refine X.fn Try.func31 rfl (n := 16) rfl rfl ?_
    refine CC.seq ?_
    refine CC.region ?_
    refine LL.val (R.assign rfl rfl) rfl rfl rfl ?_
    refine LL.nilS ?_
    refine CC.seq ?_
    refine CC.seq ?_
    refine CC.region ?_
    refine LL.val (R.move rfl rfl) rfl rfl rfl ?_
    refine LL.val (R.eqF rfl rfl rfl (by omega)) rfl rfl rfl ?_
    refine LL.nilS ?_
    refine CC.no rfl ?_
    refine CC.skip ?_
    refine EE.thenN ?_
    refine CC.seq ?_
    refine CC.region ?_
    refine LL.val (R.move rfl rfl) rfl rfl rfl ?_
    refine LL.val (R.move rfl rfl) rfl rfl rfl ?_
    refine LL.val (R.mulcN rfl rfl rfl rfl (by omega)) rfl rfl rfl ?_
    refine LL.val (R.subNc rfl rfl rfl rfl (by omega) (by omega)) rfl rfl rfl ?_
    refine LL.val (R.index rfl rfl rfl (I.ixS1 rfl (by omega))) rfl rfl rfl ?_
    refine LL.val (R.load rfl rfl (I.ld1 rfl (by assumption))) rfl rfl rfl ?_
    refine LL.val (R.assign rfl rfl) rfl rfl rfl ?_
    refine LL.nilS ?_
    refine CC.ret ?_
    refine EE.ret _ rfl rfl ?_
    exact ⟨rfl, rfl⟩
theorem draw_any (a : Option Addr) (n c : Nat) (s : List Nat) (w : World) (hv : ReadsT uE 1 w (.slice a n c) s) (hn : s.length = n) (h : n ≤ 1048576) : Calls Try.prog 30 #[.slice a n c] w fun e w' => e = .returned (.int .i64 (overN s : Int)) ∧ w = w' := by
  refine X.fn Try.func30 rfl (n := 21) rfl rfl ?_
  refine CC.seq ?_
  refine CC.region ?_
  refine LL.val (R.assign rfl rfl) rfl rfl rfl ?_
  refine LL.nilS ?_
  refine CC.seq ?_
  refine CC.region ?_
  refine LL.val (R.assign rfl rfl) rfl rfl rfl ?_
  refine LL.nilS ?_
  refine CC.seq ?_
  refine CC.block ?_
  refine CC.loop (α := Nat) (fun i => [(0, .slice a n c), (3, .int .i64 (i : Int))]) (fun i W => i ≤ n / 2 ∧ w = W ∧ ∀ j, j < i → ptrN s j ≠ 0) (fun i => n / 2 - i) 0 ⟨rfl, rfl, trivial⟩ ⟨Nat.zero_le _, rfl, fun j h => by omega⟩ ?_
  rintro i W ⟨hi, rfl, hs⟩
  show CC none Try.prog _ 21 [] (sl [(0, .slice a n c), (3, .int .i64 (i : Int))]) _ w
  by_cases hlt : i < n / 2
  case neg =>
    obtain rfl : i = n / 2 := by omega
    rw [over_eq (s := s) (m := n / 2) (by omega) hs (.inl (by omega))]
    refine CC.seq ?_
    refine CC.seq ?_
    refine CC.region ?_
    refine LL.val (R.move rfl rfl) rfl rfl rfl ?_
    refine LL.val (R.move rfl rfl) rfl rfl rfl ?_
    refine LL.val (R.len rfl rfl rfl rfl) rfl rfl rfl ?_
    refine LL.val (R.quoNc rfl rfl rfl rfl (by omega) (by omega)) rfl rfl rfl ?_
    refine LL.val (R.ltF rfl rfl rfl (by omega)) rfl rfl rfl ?_
    refine LL.val (R.move rfl rfl) rfl rfl rfl ?_
    refine LL.skip rfl rfl ?_
    refine LL.skip rfl rfl ?_
    refine LL.skip rfl rfl ?_
    refine LL.skip rfl rfl ?_
    refine LL.skip rfl rfl ?_
    refine LL.skip rfl rfl ?_
    refine LL.skip rfl rfl ?_
    refine LL.val (R.pick rfl rfl rfl) rfl rfl rfl ?_
    refine LL.nilS ?_
    refine CC.no rfl ?_
    refine CC.exit ?_
    refine EE.thenX ?_
    refine EE.thenX ?_
    refine EE.inX ?_
    refine EE.thenN ?_
    refine CC.seq ?_
    refine CC.region ?_
    refine LL.val (R.move rfl rfl) rfl rfl rfl ?_
    refine LL.val (R.assign rfl rfl) rfl rfl rfl ?_
    refine LL.nilS ?_
    refine CC.ret ?_
    refine EE.ret _ rfl rfl ?_
    exact ⟨rfl, rfl⟩
  obtain ⟨b, o, rfl, lb, m1⟩ := u_at hv (ptrN_at (s := s) (j := i) (by omega))
  have c1 := m1 w (Below.refl _ _)
  by_cases hp : ptrN s i = 0
  · rw [over_eq (s := s) (m := i) (by omega) hs (.inr hp)]
    refine CC.seq ?_
    refine CC.seq ?_
    refine CC.region ?_
    refine LL.val (R.move rfl rfl) rfl rfl rfl ?_
    refine LL.val (R.move rfl rfl) rfl rfl rfl ?_
    refine LL.val (R.len rfl rfl rfl rfl) rfl rfl rfl ?_
    refine LL.val (R.quoNc rfl rfl rfl rfl (by omega) (by omega)) rfl rfl rfl ?_
    refine LL.val (R.ltT rfl rfl rfl (by omega)) rfl rfl rfl ?_
    refine LL.val (R.move rfl rfl) rfl rfl rfl ?_
    refine LL.val (R.move rfl rfl) rfl rfl rfl ?_
    refine LL.val (R.move rfl rfl) rfl rfl rfl ?_
    refine LL.val (R.mulcN rfl rfl rfl rfl (by omega)) rfl rfl rfl ?_
    refine LL.val (R.addNc rfl rfl rfl rfl (by omega)) rfl rfl rfl ?_
    refine LL.val (R.index rfl rfl rfl (I.ixS1 rfl (by omega))) rfl rfl rfl ?_
    refine LL.val (R.load rfl rfl (I.ld1 rfl (by assumption))) rfl rfl rfl ?_
    refine LL.val (R.neF rfl rfl rfl (by omega)) rfl rfl rfl ?_
    refine LL.val (R.pick rfl rfl rfl) rfl rfl rfl ?_
    refine LL.nilS ?_
    refine CC.no rfl ?_
    refine CC.exit ?_
    refine EE.thenX ?_
    refine EE.thenX ?_
    refine EE.inX ?_
    refine EE.thenN ?_
    refine CC.seq ?_
    refine CC.region ?_
    refine LL.val (R.move rfl rfl) rfl rfl rfl ?_
    refine LL.val (R.assign rfl rfl) rfl rfl rfl ?_
    refine LL.nilS ?_
    refine CC.ret ?_
    refine EE.ret _ rfl rfl ?_
    exact ⟨rfl, rfl⟩
  · have hs' : ∀ j, j < i + 1 → ptrN s j ≠ 0 := fun j hj => by
      by_cases e : j = i
      · subst e; exact hp
      · exact hs j (by omega)
    clear hs
    refine CC.seq ?_
    refine CC.seq ?_
    refine CC.region ?_
    refine LL.val (R.move rfl rfl) rfl rfl rfl ?_
    refine LL.val (R.move rfl rfl) rfl rfl rfl ?_
    refine LL.val (R.len rfl rfl rfl rfl) rfl rfl rfl ?_
    refine LL.val (R.quoNc rfl rfl rfl rfl (by omega) (by omega)) rfl rfl rfl ?_
    refine LL.val (R.ltT rfl rfl rfl (by omega)) rfl rfl rfl ?_
    refine LL.val (R.move rfl rfl) rfl rfl rfl ?_
    refine LL.val (R.move rfl rfl) rfl rfl rfl ?_
    refine LL.val (R.move rfl rfl) rfl rfl rfl ?_
    refine LL.val (R.mulcN rfl rfl rfl rfl (by omega)) rfl rfl rfl ?_
    refine LL.val (R.addNc rfl rfl rfl rfl (by omega)) rfl rfl rfl ?_
    refine LL.val (R.index rfl rfl rfl (I.ixS1 rfl (by omega))) rfl rfl rfl ?_
    refine LL.val (R.load rfl rfl (I.ld1 rfl (by assumption))) rfl rfl rfl ?_
    refine LL.val (R.neT rfl rfl rfl (by omega)) rfl rfl rfl ?_
    refine LL.val (R.pick rfl rfl rfl) rfl rfl rfl ?_
    refine LL.nilS ?_
    refine CC.yes rfl ?_
    refine CC.skip ?_
    refine EE.thenN ?_
    refine CC.block ?_
    refine CC.region ?_
    refine LL.val (R.move rfl rfl) rfl rfl rfl ?_
    refine LL.val (R.addNc rfl rfl rfl rfl (by omega)) rfl rfl rfl ?_
    refine LL.val (R.assign rfl rfl) rfl rfl rfl ?_
    refine LL.nil ?_
    refine EE.inN ?_
    exact EE.round (i + 1) ⟨rfl, rfl, trivial⟩ ⟨by show i + 1 ≤ n / 2; omega, rfl, hs'⟩ (by show n / 2 - (i + 1) < n / 2 - i; omega)
theorem own_disj {v1 v2 : Value} (hd : ∀ g, v1.ownBlock = some g → v2.ownBlock ≠ some g) : v1.ownBlock = none ∨ v1.ownBlock ≠ v2.ownBlock := by
  cases h : v1.ownBlock with
  | none => exact .inl rfl
  | some g => exact .inr fun e => hd g h e.symm
theorem own_new2 {α : Type} {enc : α → List Value} {k base e : Nat} {ts : List α} {w : World} {v v' v2 : Value} (hva : v'.ownBlock = v.ownBlock ∨ ∃ b, v'.ownBlock = some b ∧ w.heap.size ≤ b) (hd : ∀ g, v.ownBlock = some g → v2.ownBlock ≠ some g) (o2 : OwnsT enc k w base e v2 ts) : ∀ g, v'.ownBlock = some g → v2.ownBlock ≠ some g := fun g hg h2 => by
  rcases hva with e1 | ⟨b, e1, hb⟩
  · exact hd g (by rw [← e1]; exact hg) h2
  · rw [e1] at hg; cases hg
    rcases own_lt o2 with e2 | ⟨b', e2, hb'⟩
    · rw [e2] at h2; cases h2
    · rw [e2] at h2; cases h2; omega
theorem dread_any (left : Nat) (a : Option Addr) (n c : Nat) (s : List Nat) (w : World) (hv : ReadsT uE 1 w (.slice a n c) s) (hn : s.length = n) (h : n ≤ 1048576) : Calls Try.prog 11 #[.int .u64 (left : Int), .slice a n c] w fun e w' => ∃ v1 v2, e = .returned (.tuple #[v1, v2]) ∧ OwnsT prE 2 w' w.heap.size 41 v1 (pairP left s) ∧ OwnsT iE 1 w' w.heap.size 3 v2 ((pairS left s).map (·.1)) ∧ (∀ g, v1.ownBlock = some g → v2.ownBlock ≠ some g) ∧ Below w.heap.size w w' := by
  have q := Below.refl w.heap.size w
  have hvF : ∀ X, Below w.heap.size w X → ReadsT uE 1 X (.slice a n c) s := fun X b => hv.up b
  clear hv
  have hov := over_le s
  refine X.fn Try.func11 rfl (n := 47) rfl rfl ?_
  refine CC.seq ?_
  refine CC.region ?_
  refine LL.val (R.assign rfl rfl) rfl rfl rfl ?_
  refine LL.val (R.assign rfl rfl) rfl rfl rfl ?_
  refine LL.nilS ?_
  refine CC.seq ?_
  refine CC.region ?_
  refine LL.val (R.assign rfl rfl) rfl rfl rfl ?_
  refine LL.nilS ?_
  refine CC.seq ?_
  refine CC.region ?_
  refine LL.val (R.assign rfl rfl) rfl rfl rfl ?_
  refine LL.nilS ?_
  refine CC.seq ?_
  refine CC.seq ?_
  refine CC.region ?_
  refine LL.val (R.assign rfl rfl) rfl rfl rfl ?_
  refine LL.nilS ?_
  refine CC.block ?_
  refine CC.loop (α := Nat × Value × Value) (fun p => [(0, .int .u64 (left : Int)), (1, .slice a n c), (6, p.2.1), (7, p.2.2), (8, .int .i64 (p.1 : Int))])
    (fun p W => p.1 ≤ overN s ∧ Below w.heap.size w W ∧ OwnsT prE 2 W w.heap.size 41 p.2.1 ((pairF left s p.1).map (·.2)) ∧ OwnsT iE 1 W w.heap.size 3 p.2.2 ((pairF left s p.1).map (·.1)) ∧ ∀ g, p.2.1.ownBlock = some g → p.2.2.ownBlock ≠ some g) (fun p => overN s - p.1)
    (0, .slice none 0 0, .slice none 0 0) ⟨rfl, rfl, rfl, rfl, rfl, trivial⟩ ⟨Nat.zero_le _, q, OwnsT.none _ _ _, OwnsT.none _ _ _, fun g h => (by cases h)⟩ ?_
  clear q
  rintro ⟨i, v1, v2⟩ W ⟨hi, q, o1, o2, hd⟩
  simp only at hi o1 o2 hd
  have yq := q.size
  show CC none Try.prog _ 47 [] (sl [(0, .int .u64 (left : Int)), (1, .slice a n c), (6, v1), (7, v2), (8, .int .i64 (i : Int))]) _ W
  by_cases hlt : i < overN s
  case neg =>
    obtain rfl : i = overN s := by omega
    refine CC.seq ?_
    refine CC.seq ?_
    refine CC.region ?_
    refine LL.val (R.move rfl rfl) rfl rfl rfl ?_
    refine LL.val (R.move rfl rfl) rfl rfl rfl ?_
    refine LL.call (R.call rfl rfl rfl) rfl rfl rfl (draw_any _ _ _ s _ (hvF _ q) hn h) ?_
    rintro e W' ⟨rfl, rfl⟩
    refine ⟨_, rfl, ?_⟩
    refine LL.val (R.ltF rfl rfl rfl (by omega)) rfl rfl rfl ?_
    refine LL.nilS ?_
    refine CC.no rfl ?_
    refine CC.exit ?_
    refine EE.thenX ?_
    refine EE.thenX ?_
    refine EE.inX ?_
    refine EE.thenN ?_
    refine CC.seq ?_
    refine CC.region ?_
    refine LL.val (R.move rfl rfl) rfl rfl rfl ?_
    refine LL.val (R.move rfl rfl) rfl rfl rfl ?_
    refine LL.val (R.assign rfl rfl) rfl rfl rfl ?_
    refine LL.val (R.assign rfl rfl) rfl rfl rfl ?_
    refine LL.nilS ?_
    refine CC.ret ?_
    refine EE.ret _ rfl rfl ?_
    exact ⟨_, _, rfl, o1, o2, hd, q⟩
  obtain ⟨b, o, ea, lb, m1⟩ := u_at (hvF _ (Below.refl _ _)) (ptrN_at (s := s) (j := i) (by omega))
  obtain ⟨b', o', ea', lb', m2⟩ := u_at (hvF _ (Below.refl _ _)) (keyN_at (s := s) (j := i) (by omega))
  rw [ea] at ea'
  cases ea'
  subst ea
  have c1 := m1 W q
  have c2 := m2 W q
  have hAh : ∀ X, Below w.heap.size w X → Calls Try.prog 31 #[.int .u64 (left : Int), .slice (some ⟨b, o, none⟩) n c, .int .i64 (i : Int)] X fun e w' => e = .returned (.int .u64 (aheadN left s i : Int)) ∧ X = w' := fun X hb => dahead_any left _ n c i s X (hvF X hb) hn h (by omega)
  by_cases hne : ptrN s i = aheadN left s i
  · have hst : pairF left s (i + 1) = pairF left s i := by show (if _ then _ else _) = _; rw [if_pos hne]
    rw [← hst] at o1 o2
    refine CC.seq ?_
    refine CC.seq ?_
    refine CC.region ?_
    refine LL.val (R.move rfl rfl) rfl rfl rfl ?_
    refine LL.val (R.move rfl rfl) rfl rfl rfl ?_
    refine LL.call (R.call rfl rfl rfl) rfl rfl rfl (draw_any _ _ _ s _ (hvF _ q) hn h) ?_
    rintro e W' ⟨rfl, rfl⟩
    refine ⟨_, rfl, ?_⟩
    refine LL.val (R.ltT rfl rfl rfl (by omega)) rfl rfl rfl ?_
    refine LL.nilS ?_
    refine CC.yes rfl ?_
    refine CC.skip ?_
    refine EE.thenN ?_
    refine CC.seq ?_
    refine CC.block ?_
    refine CC.seq ?_
    refine CC.grow (by kernel_rfl) (by kernel_rfl) ?_
    refine GG.val (fun w' b' => R.move rfl rfl) rfl rfl ?_
    refine GG.val (fun w' b' => R.move rfl rfl) rfl rfl ?_
    refine GG.val (fun w' b' => R.mulcN rfl rfl rfl rfl (by omega)) rfl rfl ?_
    refine GG.val (fun w' b' => R.addNc rfl rfl rfl rfl (by omega)) rfl rfl ?_
    refine GG.val (fun w' b' => R.index rfl rfl rfl (I.ixS1 rfl (by omega))) rfl rfl ?_
    refine GG.val (fun w' b' => R.load rfl rfl (I.ld1 rfl (cell_up c1 b'))) rfl rfl ?_
    refine GG.val (fun w' b' => R.move rfl rfl) rfl rfl ?_
    refine GG.val (fun w' b' => R.move rfl rfl) rfl rfl ?_
    refine GG.val (fun w' b' => R.move rfl rfl) rfl rfl ?_
    refine GG.call (fun w' => (R.call rfl rfl rfl)) rfl rfl (fun w' b' => (hAh w' (q.trans (b'.mono q.size))).mono fun e W' h => ⟨h.1, h.2 ▸ b'⟩) ?_
    refine GG.val (fun w' b' => R.neF rfl rfl rfl (by omega)) rfl rfl ?_
    refine GG.nilQ (fun Wb5 bb4 => ?_)
    have zbb4 := bb4.size
    replace q := q.trans (bb4.mono q.size)
    replace o1 := o1.up bb4
    replace o2 := o2.up bb4
    replace c1 := cell_up c1 bb4
    replace c2 := cell_up c2 bb4
    refine EE.thenN ?_
    refine CC.no rfl ?_
    refine CC.skip ?_
    refine EE.inN ?_
    refine EE.thenN ?_
    refine CC.region ?_
    refine LL.val (R.move rfl rfl) rfl rfl rfl ?_
    refine LL.val (R.addNc rfl rfl rfl rfl (by omega)) rfl rfl rfl ?_
    refine LL.val (R.assign rfl rfl) rfl rfl rfl ?_
    refine LL.nil ?_
    exact EE.round (i + 1, v1, v2) ⟨rfl, rfl, rfl, rfl, rfl, trivial⟩ ⟨by show i + 1 ≤ overN s; omega, q, o1, o2, hd⟩ (by show overN s - (i + 1) < overN s - i; omega)
  have hst : pairF left s (i + 1) = pairF left s i ++ [(i, prA s i)] := by show (if _ then _ else _) = _; rw [if_neg hne]
  have hs1 : (pairF left s (i + 1)).map (·.2) = (pairF left s i).map (·.2) ++ [prA s i] := by rw [hst, List.map_append]; rfl
  have hs2 : (pairF left s (i + 1)).map (·.1) = (pairF left s i).map (·.1) ++ [i] := by rw [hst, List.map_append]; rfl
  have hl1 : ((pairF left s i).map (·.2)).length ≤ 1048576 := by rw [List.length_map]; have := pairF_len left s i; omega
  have hl2 : ((pairF left s i).map (·.1)).length ≤ 1048576 := by rw [List.length_map]; have := pairF_len left s i; omega
  obtain ⟨ps, eps⟩ : ∃ ps, (pairF left s i).map (·.2) = ps := ⟨_, rfl⟩
  obtain ⟨is, eis⟩ : ∃ is, (pairF left s i).map (·.1) = is := ⟨_, rfl⟩
  rw [eps] at o1 hs1 hl1
  rw [eis] at o2 hs2 hl2
  have og1 := own_ge o1
  obtain ⟨av1, cv1, rfl, hcv1⟩ := (o1.reads prEnc).form rfl
  obtain ⟨av2, cv2, rfl, hcv2⟩ := (o2.reads iEnc).form rfl
  refine CC.seq ?_
  refine CC.seq ?_
  refine CC.region ?_
  refine LL.val (R.move rfl rfl) rfl rfl rfl ?_
  refine LL.val (R.move rfl rfl) rfl rfl rfl ?_
  refine LL.call (R.call rfl rfl rfl) rfl rfl rfl (draw_any _ _ _ s _ (hvF _ q) hn h) ?_
  rintro e W' ⟨rfl, rfl⟩
  refine ⟨_, rfl, ?_⟩
  refine LL.val (R.ltT rfl rfl rfl (by omega)) rfl rfl rfl ?_
  refine LL.nilS ?_
  refine CC.yes rfl ?_
  refine CC.skip ?_
  refine EE.thenN ?_
  refine CC.seq ?_
  refine CC.block ?_
  refine CC.seq ?_
  refine CC.grow (by kernel_rfl) (by kernel_rfl) ?_
  refine GG.val (fun w' b' => R.move rfl rfl) rfl rfl ?_
  refine GG.val (fun w' b' => R.move rfl rfl) rfl rfl ?_
  refine GG.val (fun w' b' => R.mulcN rfl rfl rfl rfl (by omega)) rfl rfl ?_
  refine GG.val (fun w' b' => R.addNc rfl rfl rfl rfl (by omega)) rfl rfl ?_
  refine GG.val (fun w' b' => R.index rfl rfl rfl (I.ixS1 rfl (by omega))) rfl rfl ?_
  refine GG.val (fun w' b' => R.load rfl rfl (I.ld1 rfl (cell_up c1 b'))) rfl rfl ?_
  refine GG.val (fun w' b' => R.move rfl rfl) rfl rfl ?_
  refine GG.val (fun w' b' => R.move rfl rfl) rfl rfl ?_
  refine GG.val (fun w' b' => R.move rfl rfl) rfl rfl ?_
  refine GG.call (fun w' => (R.call rfl rfl rfl)) rfl rfl (fun w' b' => (hAh w' (q.trans (b'.mono q.size))).mono fun e W' h => ⟨h.1, h.2 ▸ b'⟩) ?_
  refine GG.val (fun w' b' => R.neT rfl rfl rfl (by omega)) rfl rfl ?_
  refine GG.nilQ (fun Wc5 bc4 => ?_)
  have zbc4 := bc4.size
  replace q := q.trans (bc4.mono q.size)
  replace c1 := cell_up c1 bc4
  replace c2 := cell_up c2 bc4
  replace o1 := o1.up bc4
  replace o2 := o2.up bc4
  refine EE.thenN ?_
  refine CC.yes rfl ?_
  refine CC.seq ?_
  refine CC.freeZ (fun W_ j => j < W_.heap.size ∧ (j < w.heap.size)) (by kernel_rfl) (by kernel_rfl) (fun Wc7 bc6 zc8 => ?_)
  replace bc4 := bc4.trans (bc6.mono bc4.size)
  replace q := q.trans (bc6.mono q.size)
  replace c1 := cell_up c1 bc6
  replace c2 := cell_up c2 bc6
  replace o1 := o1.up bc6
  replace o2 := o2.up bc6
  have hok : Kept (fun j => j < Wc7.heap.size ∧ (j < w.heap.size)) Wc7 Wc7 := Kept.refl _ _
  have fzc1 := fzCell (K := fun j => j < Wc7.heap.size ∧ (j < w.heap.size)) c1 ⟨World.block_lt_of_cell? _ _ c1, (by first | trivial | omega)⟩
  have fzc2 := fzCell (K := fun j => j < Wc7.heap.size ∧ (j < w.heap.size)) c2 ⟨World.block_lt_of_cell? _ _ c2, (by first | trivial | omega)⟩
  refine AA.pure 0 rfl hok (by kernel_rfl) (fun w' b' => R.move rfl rfl) rfl rfl ?_
  refine AA.pure 1 rfl hok (by kernel_rfl) (fun w' b' => R.move rfl rfl) rfl rfl ?_
  refine AA.pure 2 rfl hok (by kernel_rfl) (fun w' b' => R.move rfl rfl) rfl rfl ?_
  refine AA.pure 3 rfl hok (by kernel_rfl) (fun w' b' => R.mulcN rfl rfl rfl rfl (by omega)) rfl rfl ?_
  refine AA.pure 4 rfl hok (by kernel_rfl) (fun w' b' => R.index rfl rfl rfl (I.ixS1 rfl (by omega))) rfl rfl ?_
  refine AA.pure 5 rfl hok (by kernel_rfl) (fun w' b' => R.load rfl rfl (I.ld1 rfl (cell_kept c2 b' (by refine ⟨?_, ?_⟩ <;> omega)))) rfl rfl ?_
  refine AA.pure 6 rfl hok (by kernel_rfl) (fun w' b' => R.move rfl rfl) rfl rfl ?_
  refine AA.pure 7 rfl hok (by kernel_rfl) (fun w' b' => R.move rfl rfl) rfl rfl ?_
  refine AA.pure 8 rfl hok (by kernel_rfl) (fun w' b' => R.mulcN rfl rfl rfl rfl (by omega)) rfl rfl ?_
  refine AA.pure 9 rfl hok (by kernel_rfl) (fun w' b' => R.addNc rfl rfl rfl rfl (by omega)) rfl rfl ?_
  refine AA.pure 10 rfl hok (by kernel_rfl) (fun w' b' => R.index rfl rfl rfl (I.ixS1 rfl (by omega))) rfl rfl ?_
  refine AA.pure 11 rfl hok (by kernel_rfl) (fun w' b' => R.load rfl rfl (I.ld1 rfl (cell_kept c1 b' (by refine ⟨?_, ?_⟩ <;> omega)))) rfl rfl ?_
  refine AA.pure 12 rfl hok (by kernel_rfl) (fun w' b' => R.buildV rfl rfl (v := .agg #[Value.int IntKind.u64 ↑(keyN s i), Value.int IntKind.u64 ↑(ptrN s i)]) (fun _ => by kernel_rfl)) rfl rfl ?_
  refine AA.one 13 (by kernel_rfl) ?_
  refine ZR.lit (e := 41) [Value.int IntKind.u64 ↑(keyN s i), Value.int IntKind.u64 ↑(ptrN s i)] 1 rfl rfl rfl (fun _ => by kernel_rfl) rfl rfl ?_
  intro Wc10 gc11 egc11 rc12 zc13 bc9
  replace bc6 := bc6.trans (bc9.mono bc6.size)
  replace bc4 := bc4.trans (bc9.mono bc4.size)
  replace q := q.trans (bc9.mono q.size)
  replace c1 := cell_up c1 bc9
  replace c2 := cell_up c2 bc9
  replace o1 := o1.up bc9
  replace o2 := o2.up bc9
  replace hok := hok.trans (bkept bc9 (fun j h => by have := h.1; have := hok.size; omega))
  have yc14 := hok.size
  refine ⟨hok, ?_⟩
  refine AA.one 14 (by kernel_rfl) ?_
  (refine SR.appendT2 rfl rfl rfl prEnc ElPr o1 (RowL.readsT (ts := [prA s i]) prEnc (by assumption) 1 (by simp)) (by simp [maxLen]; omega) (by simp; omega) (by omega) rfl rfl ?_; intro v' Wa oa gra hva; obtain ⟨a', cp, rfl, hcp⟩ := (oa.reads prEnc).form rfl; have hd2 := own_new2 hva hd o2; replace o2 := o2.apart2 gra (own_disj hd); replace q := q.grown gra q.size (fun g hg => by have := own_ge o1 g hg; omega); replace hok := hok.trans (grown_kept gra (fun j h => by have := h.1; have := hok.size; omega) (fun j h e => by have := own_ge o1 j e; omega)); have hsz := gra.size; clear o1 hva hd gra; have o1 := oa; clear oa; refine ⟨hok, ?_⟩)
  refine AA.pure 15 rfl hok (by kernel_rfl) (fun w' b' => R.assign rfl rfl) rfl rfl ?_
  refine AA.done rfl ?_
  clear fzc1 fzc2 hok
  refine EE.thenN ?_
  refine CC.region ?_
  refine LL.val (R.move rfl rfl) rfl rfl rfl ?_
  refine LL.val (R.move rfl rfl) rfl rfl rfl ?_
  refine LL.lit (e := 3) [Value.int IntKind.i64 ↑i] 1 rfl rfl (fun _ => by kernel_rfl) rfl rfl ?_
  intro Wc16 gc17 egc17 rc18 zc19 bc15
  replace o2 := o2.up bc15
  replace q := q.trans (bc15.mono q.size)
  replace o1 := o1.up bc15
  (refine LL.appendT2 rfl rfl iEnc ElIn o2 (us := [i]) (RowL.readsT iEnc (ts := [i]) (by assumption) 1 (Nat.le_refl _)) (by simp [maxLen]; omega) (by simp; omega) (by have := q.size; omega) rfl rfl ?_; intro v' Wa oa gra hva; have hd3 := own_new2 hva (fun g h1 h2 => hd2 g h2 h1) o1; replace o1 := o1.apart2 gra (own_disj fun g h1 h2 => hd2 g h2 h1); replace q := q.grown gra q.size (fun g hg => by have := own_ge o2 g hg; omega); clear o2 hva hd2 gra; have o2 := oa; clear oa)
  refine LL.val (R.assign rfl rfl) rfl rfl rfl ?_
  refine LL.nil ?_
  refine EE.inN ?_
  refine EE.thenN ?_
  refine CC.region ?_
  refine LL.val (R.move rfl rfl) rfl rfl rfl ?_
  refine LL.val (R.addNc rfl rfl rfl rfl (by omega)) rfl rfl rfl ?_
  refine LL.val (R.assign rfl rfl) rfl rfl rfl ?_
  refine LL.nil ?_
  exact EE.round (i + 1, _, _) ⟨rfl, rfl, rfl, rfl, rfl, trivial⟩ ⟨by show i + 1 ≤ overN s; omega, q, by rw [hs1]; exact o1, by rw [hs2]; exact o2, fun g h1 h2 => hd3 g h2 h1⟩ (by show overN s - (i + 1) < overN s - i; omega)
end Go.Proofs.Ytfpcpnodcdgbdaa

/- slots: the document's Same, has, fine, Check. -/
namespace Go.Proofs.Ytfpcpnodcdgbdaa
set_option linter.unusedVariables false
set_option linter.unusedSimpArgs false
open Go.RowKit Go.Shelf
set_option maxRecDepth 100000
set_option maxHeartbeats 4000000
theorem dprsame_any (va vb : Value) (xs ys : List Pr) (w : World) (ha : ReadsT prE 2 w va xs) (hb : ReadsT prE 2 w vb ys) (hlx : xs.length ≤ 1048576) (hly : ys.length ≤ 1048576) :
    Calls Try.prog 13 #[va, vb] w fun e w' => e = .returned (.bool (decide (xs = ys))) ∧ Below w.heap.size w w' := by
  have q := Below.refl w.heap.size w
  obtain ⟨N, hN⟩ : ∃ N, xs.length = N := ⟨_, rfl⟩
  obtain ⟨N2, hN2⟩ : ∃ N, ys.length = N := ⟨_, rfl⟩
  obtain ⟨a, cap, rfl, hc⟩ := ha.form hN
  obtain ⟨a2, cap2, rfl, hc2⟩ := hb.form hN2
  rw [hN] at hlx
  rw [hN2] at hly
  have hF1 : ∀ W, Below w.heap.size w W → ReadsT prE 2 W (.slice a N cap) xs := fun W b => ha.up b
  have hF2 : ∀ W, Below w.heap.size w W → ReadsT prE 2 W (.slice a2 N2 cap2) ys := fun W b => hb.up b
  clear ha hb
  by_cases hne : N = N2
  case neg =>
    rw [decide_eq_false fun e => hne (by rw [← hN, ← hN2, e])]
    refine X.fn Try.func13 rfl (n := 26) rfl rfl ?_
    refine CC.seq ?_
    refine CC.region ?_
    refine LL.val (R.assign rfl rfl) rfl rfl rfl ?_
    refine LL.nilS ?_
    refine CC.seq ?_
    refine CC.seq ?_
    refine CC.region ?_
    refine LL.val (R.move rfl rfl) rfl rfl rfl ?_
    refine LL.val (R.len rfl rfl rfl rfl) rfl rfl rfl ?_
    refine LL.val (R.move rfl rfl) rfl rfl rfl ?_
    refine LL.val (R.len rfl rfl rfl rfl) rfl rfl rfl ?_
    refine LL.val (R.neT rfl rfl rfl (by omega)) rfl rfl rfl ?_
    refine LL.nilS ?_
    refine CC.yes rfl ?_
    refine CC.seq ?_
    refine CC.region ?_
    refine LL.val (R.assign rfl rfl) rfl rfl rfl ?_
    refine LL.nilS ?_
    refine CC.ret ?_
    refine EE.thenR ?_
    refine EE.ret _ rfl rfl ?_
    exact ⟨rfl, q⟩
  subst hne
  refine X.fn Try.func13 rfl (n := 26) rfl rfl ?_
  refine CC.seq ?_
  refine CC.region ?_
  refine LL.val (R.assign rfl rfl) rfl rfl rfl ?_
  refine LL.nilS ?_
  refine CC.seq ?_
  refine CC.seq ?_
  refine CC.region ?_
  refine LL.val (R.move rfl rfl) rfl rfl rfl ?_
  refine LL.val (R.len rfl rfl rfl rfl) rfl rfl rfl ?_
  refine LL.val (R.move rfl rfl) rfl rfl rfl ?_
  refine LL.val (R.len rfl rfl rfl rfl) rfl rfl rfl ?_
  refine LL.val (R.neF rfl rfl rfl (by omega)) rfl rfl rfl ?_
  refine LL.nilS ?_
  refine CC.no rfl ?_
  refine CC.skip ?_
  refine EE.thenN ?_
  refine CC.seq ?_
  refine CC.seq ?_
  refine CC.region ?_
  refine LL.val (R.assign rfl rfl) rfl rfl rfl ?_
  refine LL.nilS ?_
  refine CC.block ?_
  refine CC.loop (α := Nat) (fun i => [(0, .slice a N cap), (1, .slice a2 N cap2), (5, .int .i64 (i : Int))]) (fun i W => i ≤ N ∧ Below w.heap.size w W ∧ xs.take i = ys.take i) (fun i => N - i) 0 ⟨rfl, rfl, rfl, trivial⟩ ⟨Nat.zero_le _, q, rfl⟩ ?_
  clear q
  rintro i W ⟨hi, q, ht⟩
  show CC none Try.prog _ 26 [] (sl [(0, .slice a N cap), (1, .slice a2 N cap2), (5, .int .i64 (i : Int))]) _ W
  by_cases hlt : i < N
  case neg =>
    obtain rfl : i = N := by omega
    rw [List.take_of_length_le (by omega), List.take_of_length_le (by omega)] at ht
    rw [decide_eq_true ht]
    refine CC.seq ?_
    refine CC.seq ?_
    refine CC.region ?_
    refine LL.val (R.move rfl rfl) rfl rfl rfl ?_
    refine LL.val (R.move rfl rfl) rfl rfl rfl ?_
    refine LL.val (R.len rfl rfl rfl rfl) rfl rfl rfl ?_
    refine LL.val (R.ltF rfl rfl rfl (by omega)) rfl rfl rfl ?_
    refine LL.nilS ?_
    refine CC.no rfl ?_
    refine CC.exit ?_
    refine EE.thenX ?_
    refine EE.thenX ?_
    refine EE.inX ?_
    refine EE.thenN ?_
    refine CC.seq ?_
    refine CC.region ?_
    refine LL.val (R.assign rfl rfl) rfl rfl rfl ?_
    refine LL.nilS ?_
    refine CC.ret ?_
    refine EE.ret _ rfl rfl ?_
    exact ⟨rfl, q⟩
  obtain ⟨⟨k1, p1⟩, hx⟩ : ∃ x, xs[i]? = some x := ⟨_, List.getElem?_eq_getElem (by omega)⟩
  obtain ⟨⟨k2, p2⟩, hy⟩ : ∃ y, ys[i]? = some y := ⟨_, List.getElem?_eq_getElem (by omega)⟩
  obtain ⟨b1, o1, rfl, _, _⟩ := (hF1 _ q).get prEnc hx
  obtain ⟨b2, o2, rfl, _, _⟩ := (hF2 _ q).get prEnc hy
  have m1 : CellsN W ⟨b1, o1 + i * 2, none⟩ 2 [.int .u64 (k1 : Int), .int .u64 (p1 : Int)] := (hF1 W q).elemN prEnc hx
  have m2 : CellsN W ⟨b2, o2 + i * 2, none⟩ 2 [.int .u64 (k2 : Int), .int .u64 (p2 : Int)] := (hF2 W q).elemN prEnc hy
  by_cases h1 : k1 = k2 ∧ p1 = p2
  · obtain ⟨rfl, rfl⟩ := h1
    refine CC.seq ?_
    refine CC.seq ?_
    refine CC.region ?_
    refine LL.val (R.move rfl rfl) rfl rfl rfl ?_
    refine LL.val (R.move rfl rfl) rfl rfl rfl ?_
    refine LL.val (R.len rfl rfl rfl rfl) rfl rfl rfl ?_
    refine LL.val (R.ltT rfl rfl rfl (by omega)) rfl rfl rfl ?_
    refine LL.nilS ?_
    refine CC.yes rfl ?_
    refine CC.skip ?_
    refine EE.thenN ?_
    refine CC.seq ?_
    refine CC.block ?_
    refine CC.seq ?_
    refine CC.quietB (by kernel_rfl) (by kernel_rfl) (fun Wc2 bc1 zc3 => ?_)
    replace q := q.trans (bc1.mono q.size)
    replace m1 := m1.up bc1
    replace m2 := m2.up bc1
    refine SS.val (R.move rfl rfl) rfl rfl ?_
    refine SS.val (R.move rfl rfl) rfl rfl ?_
    refine SS.val (R.index rfl rfl rfl (I.ixS rfl (by omega))) rfl rfl ?_
    refine SS.val (R.load rfl rfl (I.ldM (by assumption) rfl rfl)) rfl rfl ?_
    refine SS.val (R.move rfl rfl) rfl rfl ?_
    refine SS.val (R.move rfl rfl) rfl rfl ?_
    refine SS.val (R.index rfl rfl rfl (I.ixS rfl (by omega))) rfl rfl ?_
    refine SS.val (R.load rfl rfl (I.ldM (by assumption) rfl rfl)) rfl rfl ?_
    refine SS.val (R.neST (p := (↑k1 : Int) = ↑k1 ∧ (↑p1 : Int) = ↑p1) (bs := [decide ((↑k1 : Int) = ↑k1), decide ((↑p1 : Int) = ↑p1)]) rfl rfl rfl rfl (by kernel_rfl) (by kernel_rfl) (by simp) (by first | assumption | omega | exact ⟨rfl, rfl⟩ | exact fun h => h ⟨rfl, rfl⟩)) rfl rfl ?_
    refine SS.nilQ ?_
    refine EE.thenN ?_
    refine CC.no rfl ?_
    refine CC.skip ?_
    refine EE.inN ?_
    refine EE.thenN ?_
    refine CC.region ?_
    refine LL.val (R.move rfl rfl) rfl rfl rfl ?_
    refine LL.val (R.addNc rfl rfl rfl rfl (by omega)) rfl rfl rfl ?_
    refine LL.val (R.assign rfl rfl) rfl rfl rfl ?_
    refine LL.nil ?_
    exact EE.round (i + 1) ⟨rfl, rfl, rfl, trivial⟩ ⟨by show i + 1 ≤ N; omega, q, by rw [List.take_add_one, List.take_add_one, ht, hx, hy]⟩ (by show N - (i + 1) < N - i; omega)
  · have hne : xs ≠ ys := fun e => h1 (by rw [e, hy] at hx; cases hx; exact ⟨rfl, rfl⟩)
    rw [decide_eq_false hne]
    have h2 : (k1 : Int) ≠ k2 ∨ (p1 : Int) ≠ p2 := by omega
    clear h1
    rcases h2 with h2 | h2
    · refine CC.seq ?_
      refine CC.seq ?_
      refine CC.region ?_
      refine LL.val (R.move rfl rfl) rfl rfl rfl ?_
      refine LL.val (R.move rfl rfl) rfl rfl rfl ?_
      refine LL.val (R.len rfl rfl rfl rfl) rfl rfl rfl ?_
      refine LL.val (R.ltT rfl rfl rfl (by omega)) rfl rfl rfl ?_
      refine LL.nilS ?_
      refine CC.yes rfl ?_
      refine CC.skip ?_
      refine EE.thenN ?_
      refine CC.seq ?_
      refine CC.block ?_
      refine CC.seq ?_
      refine CC.quietB (by kernel_rfl) (by kernel_rfl) (fun Wd2 bd1 zd3 => ?_)
      replace q := q.trans (bd1.mono q.size)
      replace m1 := m1.up bd1
      replace m2 := m2.up bd1
      refine SS.val (R.move rfl rfl) rfl rfl ?_
      refine SS.val (R.move rfl rfl) rfl rfl ?_
      refine SS.val (R.index rfl rfl rfl (I.ixS rfl (by omega))) rfl rfl ?_
      refine SS.val (R.load rfl rfl (I.ldM (by assumption) rfl rfl)) rfl rfl ?_
      refine SS.val (R.move rfl rfl) rfl rfl ?_
      refine SS.val (R.move rfl rfl) rfl rfl ?_
      refine SS.val (R.index rfl rfl rfl (I.ixS rfl (by omega))) rfl rfl ?_
      refine SS.val (R.load rfl rfl (I.ldM (by assumption) rfl rfl)) rfl rfl ?_
      refine SS.val (R.neSF (p := (↑k1 : Int) = ↑k2 ∧ (↑p1 : Int) = ↑p2) (bs := [decide ((↑k1 : Int) = ↑k2), decide ((↑p1 : Int) = ↑p2)]) rfl rfl rfl rfl (by kernel_rfl) (by kernel_rfl) (by simp) (by first | assumption | omega | exact ⟨rfl, rfl⟩ | exact fun h => h ⟨rfl, rfl⟩)) rfl rfl ?_
      refine SS.nilQ ?_
      refine EE.thenN ?_
      refine CC.yes rfl ?_
      refine CC.seq ?_
      refine CC.region ?_
      refine LL.val (R.assign rfl rfl) rfl rfl rfl ?_
      refine LL.nilS ?_
      refine CC.ret ?_
      refine EE.inR ?_
      refine EE.thenR ?_
      refine EE.thenR ?_
      refine EE.inR ?_
      refine EE.thenR ?_
      refine EE.ret _ rfl rfl ?_
      exact ⟨rfl, q⟩
    · refine CC.seq ?_
      refine CC.seq ?_
      refine CC.region ?_
      refine LL.val (R.move rfl rfl) rfl rfl rfl ?_
      refine LL.val (R.move rfl rfl) rfl rfl rfl ?_
      refine LL.val (R.len rfl rfl rfl rfl) rfl rfl rfl ?_
      refine LL.val (R.ltT rfl rfl rfl (by omega)) rfl rfl rfl ?_
      refine LL.nilS ?_
      refine CC.yes rfl ?_
      refine CC.skip ?_
      refine EE.thenN ?_
      refine CC.seq ?_
      refine CC.block ?_
      refine CC.seq ?_
      refine CC.quietB (by kernel_rfl) (by kernel_rfl) (fun We2 be1 ze3 => ?_)
      replace q := q.trans (be1.mono q.size)
      replace m1 := m1.up be1
      replace m2 := m2.up be1
      refine SS.val (R.move rfl rfl) rfl rfl ?_
      refine SS.val (R.move rfl rfl) rfl rfl ?_
      refine SS.val (R.index rfl rfl rfl (I.ixS rfl (by omega))) rfl rfl ?_
      refine SS.val (R.load rfl rfl (I.ldM (by assumption) rfl rfl)) rfl rfl ?_
      refine SS.val (R.move rfl rfl) rfl rfl ?_
      refine SS.val (R.move rfl rfl) rfl rfl ?_
      refine SS.val (R.index rfl rfl rfl (I.ixS rfl (by omega))) rfl rfl ?_
      refine SS.val (R.load rfl rfl (I.ldM (by assumption) rfl rfl)) rfl rfl ?_
      refine SS.val (R.neSF (p := (↑k1 : Int) = ↑k2 ∧ (↑p1 : Int) = ↑p2) (bs := [decide ((↑k1 : Int) = ↑k2), decide ((↑p1 : Int) = ↑p2)]) rfl rfl rfl rfl (by kernel_rfl) (by kernel_rfl) (by simp) (by first | assumption | omega | exact ⟨rfl, rfl⟩ | exact fun h => h ⟨rfl, rfl⟩)) rfl rfl ?_
      refine SS.nilQ ?_
      refine EE.thenN ?_
      refine CC.yes rfl ?_
      refine CC.seq ?_
      refine CC.region ?_
      refine LL.val (R.assign rfl rfl) rfl rfl rfl ?_
      refine LL.nilS ?_
      refine CC.ret ?_
      refine EE.inR ?_
      refine EE.thenR ?_
      refine EE.thenR ?_
      refine EE.inR ?_
      refine EE.thenR ?_
      refine EE.ret _ rfl rfl ?_
      exact ⟨rfl, q⟩
theorem dhas_any (v : Value) (l : List Pr) (p : Nat) (w : World) (hv : ReadsT prE 2 w v l) (hl : l.length ≤ 1048576) : Calls Try.prog 61 #[v, .int .u64 (p : Int)] w fun e w' => e = .returned (.bool (decide (p ∈ l.map (·.2)))) ∧ w = w' := by
  obtain ⟨N, hN⟩ : ∃ N, l.length = N := ⟨_, rfl⟩
  obtain ⟨a, cap, rfl, hc⟩ := hv.form hN
  rw [hN] at hl
  refine X.fn Try.func61 rfl (n := 19) rfl rfl ?_
  refine CC.seq ?_
  refine CC.region ?_
  refine LL.val (R.assign rfl rfl) rfl rfl rfl ?_
  refine LL.nilS ?_
  refine CC.seq ?_
  refine CC.seq ?_
  refine CC.region ?_
  refine LL.val (R.assign rfl rfl) rfl rfl rfl ?_
  refine LL.nilS ?_
  refine CC.block ?_
  refine CC.loop (α := Nat) (fun i => [(0, .slice a N cap), (1, .int .u64 (p : Int)), (5, .int .i64 (i : Int))]) (fun i W => i ≤ N ∧ w = W ∧ p ∉ (l.take i).map (·.2)) (fun i => N - i) 0 ⟨rfl, rfl, rfl, trivial⟩ ⟨Nat.zero_le _, rfl, by simp⟩ ?_
  rintro i W ⟨hi, rfl, ht⟩
  show CC none Try.prog _ 19 [] (sl [(0, .slice a N cap), (1, .int .u64 (p : Int)), (5, .int .i64 (i : Int))]) _ w
  by_cases hlt : i < N
  case neg =>
    obtain rfl : i = N := by omega
    rw [List.take_of_length_le (by omega)] at ht
    rw [decide_eq_false ht]
    refine CC.seq ?_
    refine CC.seq ?_
    refine CC.region ?_
    refine LL.val (R.move rfl rfl) rfl rfl rfl ?_
    refine LL.val (R.move rfl rfl) rfl rfl rfl ?_
    refine LL.val (R.len rfl rfl rfl rfl) rfl rfl rfl ?_
    refine LL.val (R.ltF rfl rfl rfl (by omega)) rfl rfl rfl ?_
    refine LL.nilS ?_
    refine CC.no rfl ?_
    refine CC.exit ?_
    refine EE.thenX ?_
    refine EE.thenX ?_
    refine EE.inX ?_
    refine EE.thenN ?_
    refine CC.seq ?_
    refine CC.region ?_
    refine LL.val (R.assign rfl rfl) rfl rfl rfl ?_
    refine LL.nilS ?_
    refine CC.ret ?_
    refine EE.ret _ rfl rfl ?_
    exact ⟨rfl, rfl⟩
  obtain ⟨⟨k1, p1⟩, hx⟩ : ∃ x, l[i]? = some x := ⟨_, List.getElem?_eq_getElem (by omega)⟩
  obtain ⟨b1, o1, rfl, _, _⟩ := hv.get prEnc hx
  have c1 : w.cell? ⟨b1, o1 + i * 2 + 1, none⟩ = some (.int .u64 (p1 : Int)) := (hv.elemN prEnc hx).cell (j := 1) rfl
  by_cases h1 : p1 = p
  · subst h1
    rw [decide_eq_true (List.mem_map.2 ⟨_, List.mem_of_getElem? hx, rfl⟩)]
    refine CC.seq ?_
    refine CC.seq ?_
    refine CC.region ?_
    refine LL.val (R.move rfl rfl) rfl rfl rfl ?_
    refine LL.val (R.move rfl rfl) rfl rfl rfl ?_
    refine LL.val (R.len rfl rfl rfl rfl) rfl rfl rfl ?_
    refine LL.val (R.ltT rfl rfl rfl (by omega)) rfl rfl rfl ?_
    refine LL.nilS ?_
    refine CC.yes rfl ?_
    refine CC.skip ?_
    refine EE.thenN ?_
    refine CC.seq ?_
    refine CC.block ?_
    refine CC.seq ?_
    refine CC.region ?_
    refine LL.val (R.move rfl rfl) rfl rfl rfl ?_
    refine LL.val (R.move rfl rfl) rfl rfl rfl ?_
    refine LL.val (R.index rfl rfl rfl (I.ixS rfl (by omega))) rfl rfl rfl ?_
    refine LL.val (R.field rfl rfl (I.fld rfl)) rfl rfl rfl ?_
    refine LL.val (R.load rfl rfl (I.ld1 rfl (by assumption))) rfl rfl rfl ?_
    refine LL.val (R.move rfl rfl) rfl rfl rfl ?_
    refine LL.val (R.eqT rfl rfl rfl (by omega)) rfl rfl rfl ?_
    refine LL.nilS ?_
    refine CC.yes rfl ?_
    refine CC.seq ?_
    refine CC.region ?_
    refine LL.val (R.assign rfl rfl) rfl rfl rfl ?_
    refine LL.nilS ?_
    refine CC.ret ?_
    refine EE.inR ?_
    refine EE.thenR ?_
    refine EE.thenR ?_
    refine EE.inR ?_
    refine EE.thenR ?_
    refine EE.ret _ rfl rfl ?_
    exact ⟨rfl, rfl⟩
  · refine CC.seq ?_
    refine CC.seq ?_
    refine CC.region ?_
    refine LL.val (R.move rfl rfl) rfl rfl rfl ?_
    refine LL.val (R.move rfl rfl) rfl rfl rfl ?_
    refine LL.val (R.len rfl rfl rfl rfl) rfl rfl rfl ?_
    refine LL.val (R.ltT rfl rfl rfl (by omega)) rfl rfl rfl ?_
    refine LL.nilS ?_
    refine CC.yes rfl ?_
    refine CC.skip ?_
    refine EE.thenN ?_
    refine CC.seq ?_
    refine CC.block ?_
    refine CC.seq ?_
    refine CC.region ?_
    refine LL.val (R.move rfl rfl) rfl rfl rfl ?_
    refine LL.val (R.move rfl rfl) rfl rfl rfl ?_
    refine LL.val (R.index rfl rfl rfl (I.ixS rfl (by omega))) rfl rfl rfl ?_
    refine LL.val (R.field rfl rfl (I.fld rfl)) rfl rfl rfl ?_
    refine LL.val (R.load rfl rfl (I.ld1 rfl (by assumption))) rfl rfl rfl ?_
    refine LL.val (R.move rfl rfl) rfl rfl rfl ?_
    refine LL.val (R.eqF rfl rfl rfl (by omega)) rfl rfl rfl ?_
    refine LL.nilS ?_
    refine CC.no rfl ?_
    refine CC.skip ?_
    refine EE.inN ?_
    refine EE.thenN ?_
    refine CC.region ?_
    refine LL.val (R.move rfl rfl) rfl rfl rfl ?_
    refine LL.val (R.addNc rfl rfl rfl rfl (by omega)) rfl rfl rfl ?_
    refine LL.val (R.assign rfl rfl) rfl rfl rfl ?_
    refine LL.nil ?_
    exact EE.round (i + 1) ⟨rfl, rfl, rfl, trivial⟩ ⟨by show i + 1 ≤ N; omega, rfl, by rw [List.take_add_one, hx, List.map_append]; simp only [Option.toList_some, List.map_cons, List.map_nil, List.mem_append, List.mem_singleton, not_or]; exact ⟨ht, fun e => h1 e.symm⟩⟩ (by show N - (i + 1) < N - i; omega)
/-- What 'fine' asks of a pair. -/
def fineAt (left : Nat) (l : List Pr) (i : Nat) (x : Pr) : Prop := (0 < i → ∀ y, l[i - 1]? = some y → y.1 < x.1) ∧ x.2 ∉ (l.take i).map (·.2) ∧ x.2 ≠ left
def fineP (left : Nat) (l : List Pr) : Prop := ∀ i x, l[i]? = some x → fineAt left l i x
theorem dfine_any (left : Nat) (v : Value) (l : List Pr) (w : World) (hv : ReadsT prE 2 w v l) (hl : l.length ≤ 1048576) : Calls Try.prog 35 #[.int .u64 (left : Int), v] w fun e w' => ∃ b, e = .returned (.bool b) ∧ (b = true ↔ fineP left l) ∧ Below w.heap.size w w' := by
  have q := Below.refl w.heap.size w
  obtain ⟨N, hN⟩ : ∃ N, l.length = N := ⟨_, rfl⟩
  obtain ⟨a, cap, rfl, hc⟩ := hv.form hN
  rw [hN] at hl
  have hF : ∀ W, Below w.heap.size w W → ReadsT prE 2 W (.slice a N cap) l := fun W b => hv.up b
  clear hv
  refine X.fn Try.func35 rfl (n := 48) rfl rfl ?_
  refine CC.seq ?_
  refine CC.region ?_
  refine LL.val (R.assign rfl rfl) rfl rfl rfl ?_
  refine LL.nilS ?_
  refine CC.seq ?_
  refine CC.seq ?_
  refine CC.region ?_
  refine LL.val (R.assign rfl rfl) rfl rfl rfl ?_
  refine LL.nilS ?_
  refine CC.block ?_
  refine CC.loop (α := Nat) (fun i => [(0, .int .u64 (left : Int)), (1, .slice a N cap), (5, .int .i64 (i : Int))]) (fun i W => i ≤ N ∧ Below w.heap.size w W ∧ ∀ j x, j < i → l[j]? = some x → fineAt left l j x) (fun i => N - i) 0 ⟨rfl, rfl, rfl, trivial⟩ ⟨Nat.zero_le _, q, fun j x h _ => by omega⟩ ?_
  clear q
  rintro i W ⟨hi, q, ht⟩
  show CC none Try.prog _ 48 [] (sl [(0, .int .u64 (left : Int)), (1, .slice a N cap), (5, .int .i64 (i : Int))]) _ W
  by_cases hlt : i < N
  case neg =>
    obtain rfl : i = N := by omega
    have hyes : fineP left l := fun j x hj => ht j x (by have := (List.getElem?_eq_some_iff.1 hj).1; omega) hj
    refine CC.seq ?_
    refine CC.seq ?_
    refine CC.region ?_
    refine LL.val (R.move rfl rfl) rfl rfl rfl ?_
    refine LL.val (R.move rfl rfl) rfl rfl rfl ?_
    refine LL.val (R.len rfl rfl rfl rfl) rfl rfl rfl ?_
    refine LL.val (R.ltF rfl rfl rfl (by omega)) rfl rfl rfl ?_
    refine LL.nilS ?_
    refine CC.no rfl ?_
    refine CC.exit ?_
    refine EE.thenX ?_
    refine EE.thenX ?_
    refine EE.inX ?_
    refine EE.thenN ?_
    refine CC.seq ?_
    refine CC.region ?_
    refine LL.val (R.assign rfl rfl) rfl rfl rfl ?_
    refine LL.nilS ?_
    refine CC.ret ?_
    refine EE.ret _ rfl rfl ?_
    exact ⟨_, rfl, by simp [hyes], q⟩
  obtain ⟨⟨k1, p1⟩, hx⟩ : ∃ x, l[i]? = some x := ⟨_, List.getElem?_eq_getElem (by omega)⟩
  obtain ⟨b1, o1, rfl, _, _⟩ := (hF _ q).get prEnc hx
  have hcF : ∀ X, Below w.heap.size w X → X.cell? ⟨b1, o1 + i * 2, none⟩ = some (.int .u64 (k1 : Int)) ∧ X.cell? ⟨b1, o1 + i * 2 + 1, none⟩ = some (.int .u64 (p1 : Int)) := fun X hb => ⟨((hF X hb).elemN prEnc hx).cell (j := 0) rfl, ((hF X hb).elemN prEnc hx).cell (j := 1) rfl⟩
  have c1 := (hcF W q).1
  have c2 := (hcF W q).2
  have htl : (l.take i).length = i := by rw [List.length_take]; omega
  have hHa : ∀ X, Below w.heap.size w X → Calls Try.prog 61 #[.slice (some ⟨b1, o1, none⟩) i cap, .int .u64 (p1 : Int)] X fun e w' => e = .returned (.bool (decide (p1 ∈ (l.take i).map (·.2)))) ∧ X = w' := fun X hb => by
    have h1 := (hF X hb).take prEnc i hi cap (by omega)
    exact dhas_any _ (l.take i) p1 X h1 (by omega)
  have bad : ¬ fineAt left l i (k1, p1) → ¬ fineP left l := fun h1 h2 => h1 (h2 i _ hx)
  have good : fineAt left l i (k1, p1) → ∀ j x, j < i + 1 → l[j]? = some x → fineAt left l j x := fun hg j x hj hjx => by
    by_cases e : j = i
    · subst e; rw [hx] at hjx; cases hjx; exact hg
    · exact ht j x (by omega) hjx
  clear ht
  have hrest : ∀ (hpre : 0 < i → ∀ y, l[i - 1]? = some y → y.1 < k1), (p1 ∉ (l.take i).map (·.2) ∧ p1 ≠ left → fineAt left l i (k1, p1)) := fun hpre h => ⟨hpre, h.1, h.2⟩
  have fin : ∀ hg : fineAt left l i (k1, p1), True := fun _ => trivial
  clear fin
  by_cases hi0 : i = 0
  · subst hi0
    have hB : p1 ∉ (l.take 0).map (·.2) := by simp
    by_cases hC : p1 = left
    · have hno := bad fun hg => hg.2.2 hC
      refine CC.seq ?_
      refine CC.seq ?_
      refine CC.region ?_
      refine LL.val (R.move rfl rfl) rfl rfl rfl ?_
      refine LL.val (R.move rfl rfl) rfl rfl rfl ?_
      refine LL.val (R.len rfl rfl rfl rfl) rfl rfl rfl ?_
      refine LL.val (R.ltT rfl rfl rfl (by omega)) rfl rfl rfl ?_
      refine LL.nilS ?_
      refine CC.yes rfl ?_
      refine CC.skip ?_
      refine EE.thenN ?_
      refine CC.seq ?_
      refine CC.block ?_
      refine CC.seq ?_
      refine CC.grow (by kernel_rfl) (by kernel_rfl) ?_
      refine GG.val (fun w' b' => R.move rfl rfl) rfl rfl ?_
      refine GG.val (fun w' b' => R.gtF rfl rfl rfl (by omega)) rfl rfl ?_
      refine GG.val (fun w' b' => R.move rfl rfl) rfl rfl ?_
      refine GG.skip rfl rfl ?_
      refine GG.skip rfl rfl ?_
      refine GG.skip rfl rfl ?_
      refine GG.skip rfl rfl ?_
      refine GG.skip rfl rfl ?_
      refine GG.skip rfl rfl ?_
      refine GG.skip rfl rfl ?_
      refine GG.skip rfl rfl ?_
      refine GG.skip rfl rfl ?_
      refine GG.skip rfl rfl ?_
      refine GG.skip rfl rfl ?_
      refine GG.skip rfl rfl ?_
      refine GG.val (fun w' b' => R.pick rfl rfl rfl) rfl rfl ?_
      refine GG.val (fun w' b' => R.move rfl rfl) rfl rfl ?_
      refine GG.val (fun w' b' => R.move rfl rfl) rfl rfl ?_
      refine GG.val (fun w' b' => R.move rfl rfl) rfl rfl ?_
      refine GG.val (fun w' b' => R.slice rfl rfl rfl rfl rfl (I.slTo rfl (by omega))) rfl rfl ?_
      refine GG.val (fun w' b' => R.move rfl rfl) rfl rfl ?_
      refine GG.val (fun w' b' => R.move rfl rfl) rfl rfl ?_
      refine GG.val (fun w' b' => R.index rfl rfl rfl (I.ixSc rfl rfl (by omega))) rfl rfl ?_
      refine GG.val (fun w' b' => R.field rfl rfl (I.fld rfl)) rfl rfl ?_
      refine GG.val (fun w' b' => R.load rfl rfl (I.ld1 rfl (cell_up c2 b'))) rfl rfl ?_
      refine GG.callDF (fun w' => (R.call rfl rfl rfl)) rfl rfl (fun w' b' => (hHa w' (q.trans (b'.mono q.size))).mono fun e W' h => ⟨h.1, h.2 ▸ b'⟩) (by first | assumption | omega) ?_
      refine GG.val (fun w' b' => R.pick rfl rfl rfl) rfl rfl ?_
      refine GG.val (fun w' b' => R.move rfl rfl) rfl rfl ?_
      refine GG.val (fun w' b' => R.move rfl rfl) rfl rfl ?_
      refine GG.val (fun w' b' => R.move rfl rfl) rfl rfl ?_
      refine GG.val (fun w' b' => R.index rfl rfl rfl (I.ixSc rfl rfl (by omega))) rfl rfl ?_
      refine GG.val (fun w' b' => R.field rfl rfl (I.fld rfl)) rfl rfl ?_
      refine GG.val (fun w' b' => R.load rfl rfl (I.ld1 rfl (cell_up c2 b'))) rfl rfl ?_
      refine GG.val (fun w' b' => R.move rfl rfl) rfl rfl ?_
      refine GG.val (fun w' b' => R.eqT rfl rfl rfl (by omega)) rfl rfl ?_
      refine GG.val (fun w' b' => R.pick rfl rfl rfl) rfl rfl ?_
      refine GG.nilQ (fun Wb6 bb5 => ?_)
      have zbb5 := bb5.size
      replace q := q.trans (bb5.mono q.size)
      replace c1 := cell_up c1 bb5
      replace c2 := cell_up c2 bb5
      refine EE.thenN ?_
      refine CC.yes rfl ?_
      refine CC.seq ?_
      refine CC.region ?_
      refine LL.val (R.assign rfl rfl) rfl rfl rfl ?_
      refine LL.nilS ?_
      refine CC.ret ?_
      refine EE.inR ?_
      refine EE.thenR ?_
      refine EE.thenR ?_
      refine EE.inR ?_
      refine EE.thenR ?_
      refine EE.ret _ rfl rfl ?_
      exact ⟨_, rfl, by simp [hno], q⟩
    · have hg := good (hrest (fun h => absurd h (Nat.lt_irrefl 0)) ⟨hB, hC⟩)
      clear bad good hrest
      refine CC.seq ?_
      refine CC.seq ?_
      refine CC.region ?_
      refine LL.val (R.move rfl rfl) rfl rfl rfl ?_
      refine LL.val (R.move rfl rfl) rfl rfl rfl ?_
      refine LL.val (R.len rfl rfl rfl rfl) rfl rfl rfl ?_
      refine LL.val (R.ltT rfl rfl rfl (by omega)) rfl rfl rfl ?_
      refine LL.nilS ?_
      refine CC.yes rfl ?_
      refine CC.skip ?_
      refine EE.thenN ?_
      refine CC.seq ?_
      refine CC.block ?_
      refine CC.seq ?_
      refine CC.grow (by kernel_rfl) (by kernel_rfl) ?_
      refine GG.val (fun w' b' => R.move rfl rfl) rfl rfl ?_
      refine GG.val (fun w' b' => R.gtF rfl rfl rfl (by omega)) rfl rfl ?_
      refine GG.val (fun w' b' => R.move rfl rfl) rfl rfl ?_
      refine GG.skip rfl rfl ?_
      refine GG.skip rfl rfl ?_
      refine GG.skip rfl rfl ?_
      refine GG.skip rfl rfl ?_
      refine GG.skip rfl rfl ?_
      refine GG.skip rfl rfl ?_
      refine GG.skip rfl rfl ?_
      refine GG.skip rfl rfl ?_
      refine GG.skip rfl rfl ?_
      refine GG.skip rfl rfl ?_
      refine GG.skip rfl rfl ?_
      refine GG.skip rfl rfl ?_
      refine GG.val (fun w' b' => R.pick rfl rfl rfl) rfl rfl ?_
      refine GG.val (fun w' b' => R.move rfl rfl) rfl rfl ?_
      refine GG.val (fun w' b' => R.move rfl rfl) rfl rfl ?_
      refine GG.val (fun w' b' => R.move rfl rfl) rfl rfl ?_
      refine GG.val (fun w' b' => R.slice rfl rfl rfl rfl rfl (I.slTo rfl (by omega))) rfl rfl ?_
      refine GG.val (fun w' b' => R.move rfl rfl) rfl rfl ?_
      refine GG.val (fun w' b' => R.move rfl rfl) rfl rfl ?_
      refine GG.val (fun w' b' => R.index rfl rfl rfl (I.ixSc rfl rfl (by omega))) rfl rfl ?_
      refine GG.val (fun w' b' => R.field rfl rfl (I.fld rfl)) rfl rfl ?_
      refine GG.val (fun w' b' => R.load rfl rfl (I.ld1 rfl (cell_up c2 b'))) rfl rfl ?_
      refine GG.callDF (fun w' => (R.call rfl rfl rfl)) rfl rfl (fun w' b' => (hHa w' (q.trans (b'.mono q.size))).mono fun e W' h => ⟨h.1, h.2 ▸ b'⟩) (by first | assumption | omega) ?_
      refine GG.val (fun w' b' => R.pick rfl rfl rfl) rfl rfl ?_
      refine GG.val (fun w' b' => R.move rfl rfl) rfl rfl ?_
      refine GG.val (fun w' b' => R.move rfl rfl) rfl rfl ?_
      refine GG.val (fun w' b' => R.move rfl rfl) rfl rfl ?_
      refine GG.val (fun w' b' => R.index rfl rfl rfl (I.ixSc rfl rfl (by omega))) rfl rfl ?_
      refine GG.val (fun w' b' => R.field rfl rfl (I.fld rfl)) rfl rfl ?_
      refine GG.val (fun w' b' => R.load rfl rfl (I.ld1 rfl (cell_up c2 b'))) rfl rfl ?_
      refine GG.val (fun w' b' => R.move rfl rfl) rfl rfl ?_
      refine GG.val (fun w' b' => R.eqF rfl rfl rfl (by omega)) rfl rfl ?_
      refine GG.val (fun w' b' => R.pick rfl rfl rfl) rfl rfl ?_
      refine GG.nilQ (fun Wc6 bc5 => ?_)
      have zbc5 := bc5.size
      replace q := q.trans (bc5.mono q.size)
      replace c1 := cell_up c1 bc5
      replace c2 := cell_up c2 bc5
      refine EE.thenN ?_
      refine CC.no rfl ?_
      refine CC.skip ?_
      refine EE.inN ?_
      refine EE.thenN ?_
      refine CC.region ?_
      refine LL.val (R.move rfl rfl) rfl rfl rfl ?_
      refine LL.val (R.addIz (z := 1) rfl rfl rfl (by decide) (by decide)) rfl rfl rfl ?_
      refine LL.val (R.assign rfl rfl) rfl rfl rfl ?_
      refine LL.nil ?_
      exact EE.round (0 + 1) ⟨rfl, rfl, rfl, trivial⟩ ⟨by show 0 + 1 ≤ N; omega, q, hg⟩ (by show N - (0 + 1) < N - 0; omega)
  obtain ⟨⟨ky, py⟩, hy⟩ : ∃ y, l[i - 1]? = some y := ⟨_, List.getElem?_eq_getElem (by omega)⟩
  have c3 : W.cell? ⟨b1, o1 + (i - 1) * 2, none⟩ = some (.int .u64 (ky : Int)) := ((hF W q).elemN prEnc hy).cell (j := 0) rfl
  by_cases hA : ky < k1
  case neg =>
    have hno := bad fun hg => hA (hg.1 (by omega) _ hy)
    clear bad good hrest
    refine CC.seq ?_
    refine CC.seq ?_
    refine CC.region ?_
    refine LL.val (R.move rfl rfl) rfl rfl rfl ?_
    refine LL.val (R.move rfl rfl) rfl rfl rfl ?_
    refine LL.val (R.len rfl rfl rfl rfl) rfl rfl rfl ?_
    refine LL.val (R.ltT rfl rfl rfl (by omega)) rfl rfl rfl ?_
    refine LL.nilS ?_
    refine CC.yes rfl ?_
    refine CC.skip ?_
    refine EE.thenN ?_
    refine CC.seq ?_
    refine CC.block ?_
    refine CC.seq ?_
    refine CC.grow (by kernel_rfl) (by kernel_rfl) ?_
    refine GG.val (fun w' b' => R.move rfl rfl) rfl rfl ?_
    refine GG.val (fun w' b' => R.gtT rfl rfl rfl (by omega)) rfl rfl ?_
    refine GG.val (fun w' b' => R.move rfl rfl) rfl rfl ?_
    refine GG.val (fun w' b' => R.move rfl rfl) rfl rfl ?_
    refine GG.val (fun w' b' => R.move rfl rfl) rfl rfl ?_
    refine GG.val (fun w' b' => R.subNc rfl rfl rfl rfl (by omega) (by omega)) rfl rfl ?_
    refine GG.val (fun w' b' => R.index rfl rfl rfl (I.ixS rfl (by omega))) rfl rfl ?_
    refine GG.val (fun w' b' => R.field rfl rfl (I.fld rfl)) rfl rfl ?_
    refine GG.val (fun w' b' => R.load rfl rfl (I.ld1 rfl (cell_up c3 b'))) rfl rfl ?_
    refine GG.val (fun w' b' => R.move rfl rfl) rfl rfl ?_
    refine GG.val (fun w' b' => R.move rfl rfl) rfl rfl ?_
    refine GG.val (fun w' b' => R.index rfl rfl rfl (I.ixS rfl (by omega))) rfl rfl ?_
    refine GG.val (fun w' b' => R.field rfl rfl (I.fld rfl)) rfl rfl ?_
    refine GG.val (fun w' b' => R.load rfl rfl (I.ld1 rfl (cell_up c1 b'))) rfl rfl ?_
    refine GG.val (fun w' b' => R.geT rfl rfl rfl (by omega)) rfl rfl ?_
    refine GG.val (fun w' b' => R.pick rfl rfl rfl) rfl rfl ?_
    refine GG.val (fun w' b' => R.move rfl rfl) rfl rfl ?_
    refine GG.skip rfl rfl ?_
    refine GG.skip rfl rfl ?_
    refine GG.skip rfl rfl ?_
    refine GG.skip rfl rfl ?_
    refine GG.skip rfl rfl ?_
    refine GG.skip rfl rfl ?_
    refine GG.skip rfl rfl ?_
    refine GG.skip rfl rfl ?_
    refine GG.skip rfl rfl ?_
    refine GG.val (fun w' b' => R.pick rfl rfl rfl) rfl rfl ?_
    refine GG.val (fun w' b' => R.move rfl rfl) rfl rfl ?_
    refine GG.skip rfl rfl ?_
    refine GG.skip rfl rfl ?_
    refine GG.skip rfl rfl ?_
    refine GG.skip rfl rfl ?_
    refine GG.skip rfl rfl ?_
    refine GG.skip rfl rfl ?_
    refine GG.skip rfl rfl ?_
    refine GG.val (fun w' b' => R.pick rfl rfl rfl) rfl rfl ?_
    refine GG.nilQ (fun Wd5 bd4 => ?_)
    have zbd4 := bd4.size
    replace q := q.trans (bd4.mono q.size)
    replace c1 := cell_up c1 bd4
    replace c2 := cell_up c2 bd4
    replace c3 := cell_up c3 bd4
    refine EE.thenN ?_
    refine CC.yes rfl ?_
    refine CC.seq ?_
    refine CC.region ?_
    refine LL.val (R.assign rfl rfl) rfl rfl rfl ?_
    refine LL.nilS ?_
    refine CC.ret ?_
    refine EE.inR ?_
    refine EE.thenR ?_
    refine EE.thenR ?_
    refine EE.inR ?_
    refine EE.thenR ?_
    refine EE.ret _ rfl rfl ?_
    exact ⟨_, rfl, by simp [hno], q⟩
  by_cases hB : p1 ∈ (l.take i).map (·.2)
  · have hno := bad fun hg => hg.2.1 hB
    clear bad good hrest
    refine CC.seq ?_
    refine CC.seq ?_
    refine CC.region ?_
    refine LL.val (R.move rfl rfl) rfl rfl rfl ?_
    refine LL.val (R.move rfl rfl) rfl rfl rfl ?_
    refine LL.val (R.len rfl rfl rfl rfl) rfl rfl rfl ?_
    refine LL.val (R.ltT rfl rfl rfl (by omega)) rfl rfl rfl ?_
    refine LL.nilS ?_
    refine CC.yes rfl ?_
    refine CC.skip ?_
    refine EE.thenN ?_
    refine CC.seq ?_
    refine CC.block ?_
    refine CC.seq ?_
    refine CC.grow (by kernel_rfl) (by kernel_rfl) ?_
    refine GG.val (fun w' b' => R.move rfl rfl) rfl rfl ?_
    refine GG.val (fun w' b' => R.gtT rfl rfl rfl (by omega)) rfl rfl ?_
    refine GG.val (fun w' b' => R.move rfl rfl) rfl rfl ?_
    refine GG.val (fun w' b' => R.move rfl rfl) rfl rfl ?_
    refine GG.val (fun w' b' => R.move rfl rfl) rfl rfl ?_
    refine GG.val (fun w' b' => R.subNc rfl rfl rfl rfl (by omega) (by omega)) rfl rfl ?_
    refine GG.val (fun w' b' => R.index rfl rfl rfl (I.ixS rfl (by omega))) rfl rfl ?_
    refine GG.val (fun w' b' => R.field rfl rfl (I.fld rfl)) rfl rfl ?_
    refine GG.val (fun w' b' => R.load rfl rfl (I.ld1 rfl (cell_up c3 b'))) rfl rfl ?_
    refine GG.val (fun w' b' => R.move rfl rfl) rfl rfl ?_
    refine GG.val (fun w' b' => R.move rfl rfl) rfl rfl ?_
    refine GG.val (fun w' b' => R.index rfl rfl rfl (I.ixS rfl (by omega))) rfl rfl ?_
    refine GG.val (fun w' b' => R.field rfl rfl (I.fld rfl)) rfl rfl ?_
    refine GG.val (fun w' b' => R.load rfl rfl (I.ld1 rfl (cell_up c1 b'))) rfl rfl ?_
    refine GG.val (fun w' b' => R.geF rfl rfl rfl (by omega)) rfl rfl ?_
    refine GG.val (fun w' b' => R.pick rfl rfl rfl) rfl rfl ?_
    refine GG.val (fun w' b' => R.move rfl rfl) rfl rfl ?_
    refine GG.val (fun w' b' => R.move rfl rfl) rfl rfl ?_
    refine GG.val (fun w' b' => R.move rfl rfl) rfl rfl ?_
    refine GG.val (fun w' b' => R.slice rfl rfl rfl rfl rfl (I.slTo rfl (by omega))) rfl rfl ?_
    refine GG.val (fun w' b' => R.move rfl rfl) rfl rfl ?_
    refine GG.val (fun w' b' => R.move rfl rfl) rfl rfl ?_
    refine GG.val (fun w' b' => R.index rfl rfl rfl (I.ixS rfl (by omega))) rfl rfl ?_
    refine GG.val (fun w' b' => R.field rfl rfl (I.fld rfl)) rfl rfl ?_
    refine GG.val (fun w' b' => R.load rfl rfl (I.ld1 rfl (cell_up c2 b'))) rfl rfl ?_
    refine GG.callDT (fun w' => (R.call rfl rfl rfl)) rfl rfl (fun w' b' => (hHa w' (q.trans (b'.mono q.size))).mono fun e W' h => ⟨h.1, h.2 ▸ b'⟩) (by first | assumption | omega) ?_
    refine GG.val (fun w' b' => R.pick rfl rfl rfl) rfl rfl ?_
    refine GG.val (fun w' b' => R.move rfl rfl) rfl rfl ?_
    refine GG.skip rfl rfl ?_
    refine GG.skip rfl rfl ?_
    refine GG.skip rfl rfl ?_
    refine GG.skip rfl rfl ?_
    refine GG.skip rfl rfl ?_
    refine GG.skip rfl rfl ?_
    refine GG.skip rfl rfl ?_
    refine GG.val (fun w' b' => R.pick rfl rfl rfl) rfl rfl ?_
    refine GG.nilQ (fun We6 be5 => ?_)
    have zbe5 := be5.size
    replace q := q.trans (be5.mono q.size)
    replace c1 := cell_up c1 be5
    replace c2 := cell_up c2 be5
    replace c3 := cell_up c3 be5
    refine EE.thenN ?_
    refine CC.yes rfl ?_
    refine CC.seq ?_
    refine CC.region ?_
    refine LL.val (R.assign rfl rfl) rfl rfl rfl ?_
    refine LL.nilS ?_
    refine CC.ret ?_
    refine EE.inR ?_
    refine EE.thenR ?_
    refine EE.thenR ?_
    refine EE.inR ?_
    refine EE.thenR ?_
    refine EE.ret _ rfl rfl ?_
    exact ⟨_, rfl, by simp [hno], q⟩
  by_cases hC : p1 = left
  · have hno := bad fun hg => hg.2.2 hC
    clear bad good hrest
    refine CC.seq ?_
    refine CC.seq ?_
    refine CC.region ?_
    refine LL.val (R.move rfl rfl) rfl rfl rfl ?_
    refine LL.val (R.move rfl rfl) rfl rfl rfl ?_
    refine LL.val (R.len rfl rfl rfl rfl) rfl rfl rfl ?_
    refine LL.val (R.ltT rfl rfl rfl (by omega)) rfl rfl rfl ?_
    refine LL.nilS ?_
    refine CC.yes rfl ?_
    refine CC.skip ?_
    refine EE.thenN ?_
    refine CC.seq ?_
    refine CC.block ?_
    refine CC.seq ?_
    refine CC.grow (by kernel_rfl) (by kernel_rfl) ?_
    refine GG.val (fun w' b' => R.move rfl rfl) rfl rfl ?_
    refine GG.val (fun w' b' => R.gtT rfl rfl rfl (by omega)) rfl rfl ?_
    refine GG.val (fun w' b' => R.move rfl rfl) rfl rfl ?_
    refine GG.val (fun w' b' => R.move rfl rfl) rfl rfl ?_
    refine GG.val (fun w' b' => R.move rfl rfl) rfl rfl ?_
    refine GG.val (fun w' b' => R.subNc rfl rfl rfl rfl (by omega) (by omega)) rfl rfl ?_
    refine GG.val (fun w' b' => R.index rfl rfl rfl (I.ixS rfl (by omega))) rfl rfl ?_
    refine GG.val (fun w' b' => R.field rfl rfl (I.fld rfl)) rfl rfl ?_
    refine GG.val (fun w' b' => R.load rfl rfl (I.ld1 rfl (cell_up c3 b'))) rfl rfl ?_
    refine GG.val (fun w' b' => R.move rfl rfl) rfl rfl ?_
    refine GG.val (fun w' b' => R.move rfl rfl) rfl rfl ?_
    refine GG.val (fun w' b' => R.index rfl rfl rfl (I.ixS rfl (by omega))) rfl rfl ?_
    refine GG.val (fun w' b' => R.field rfl rfl (I.fld rfl)) rfl rfl ?_
    refine GG.val (fun w' b' => R.load rfl rfl (I.ld1 rfl (cell_up c1 b'))) rfl rfl ?_
    refine GG.val (fun w' b' => R.geF rfl rfl rfl (by omega)) rfl rfl ?_
    refine GG.val (fun w' b' => R.pick rfl rfl rfl) rfl rfl ?_
    refine GG.val (fun w' b' => R.move rfl rfl) rfl rfl ?_
    refine GG.val (fun w' b' => R.move rfl rfl) rfl rfl ?_
    refine GG.val (fun w' b' => R.move rfl rfl) rfl rfl ?_
    refine GG.val (fun w' b' => R.slice rfl rfl rfl rfl rfl (I.slTo rfl (by omega))) rfl rfl ?_
    refine GG.val (fun w' b' => R.move rfl rfl) rfl rfl ?_
    refine GG.val (fun w' b' => R.move rfl rfl) rfl rfl ?_
    refine GG.val (fun w' b' => R.index rfl rfl rfl (I.ixS rfl (by omega))) rfl rfl ?_
    refine GG.val (fun w' b' => R.field rfl rfl (I.fld rfl)) rfl rfl ?_
    refine GG.val (fun w' b' => R.load rfl rfl (I.ld1 rfl (cell_up c2 b'))) rfl rfl ?_
    refine GG.callDF (fun w' => (R.call rfl rfl rfl)) rfl rfl (fun w' b' => (hHa w' (q.trans (b'.mono q.size))).mono fun e W' h => ⟨h.1, h.2 ▸ b'⟩) (by first | assumption | omega) ?_
    refine GG.val (fun w' b' => R.pick rfl rfl rfl) rfl rfl ?_
    refine GG.val (fun w' b' => R.move rfl rfl) rfl rfl ?_
    refine GG.val (fun w' b' => R.move rfl rfl) rfl rfl ?_
    refine GG.val (fun w' b' => R.move rfl rfl) rfl rfl ?_
    refine GG.val (fun w' b' => R.index rfl rfl rfl (I.ixS rfl (by omega))) rfl rfl ?_
    refine GG.val (fun w' b' => R.field rfl rfl (I.fld rfl)) rfl rfl ?_
    refine GG.val (fun w' b' => R.load rfl rfl (I.ld1 rfl (cell_up c2 b'))) rfl rfl ?_
    refine GG.val (fun w' b' => R.move rfl rfl) rfl rfl ?_
    refine GG.val (fun w' b' => R.eqT rfl rfl rfl (by omega)) rfl rfl ?_
    refine GG.val (fun w' b' => R.pick rfl rfl rfl) rfl rfl ?_
    refine GG.nilQ (fun Wf6 bf5 => ?_)
    have zbf5 := bf5.size
    replace q := q.trans (bf5.mono q.size)
    replace c1 := cell_up c1 bf5
    replace c2 := cell_up c2 bf5
    replace c3 := cell_up c3 bf5
    refine EE.thenN ?_
    refine CC.yes rfl ?_
    refine CC.seq ?_
    refine CC.region ?_
    refine LL.val (R.assign rfl rfl) rfl rfl rfl ?_
    refine LL.nilS ?_
    refine CC.ret ?_
    refine EE.inR ?_
    refine EE.thenR ?_
    refine EE.thenR ?_
    refine EE.inR ?_
    refine EE.thenR ?_
    refine EE.ret _ rfl rfl ?_
    exact ⟨_, rfl, by simp [hno], q⟩
  · have hg := good (hrest (fun _ y e => by rw [hy] at e; cases e; exact hA) ⟨hB, hC⟩)
    clear bad good hrest
    refine CC.seq ?_
    refine CC.seq ?_
    refine CC.region ?_
    refine LL.val (R.move rfl rfl) rfl rfl rfl ?_
    refine LL.val (R.move rfl rfl) rfl rfl rfl ?_
    refine LL.val (R.len rfl rfl rfl rfl) rfl rfl rfl ?_
    refine LL.val (R.ltT rfl rfl rfl (by omega)) rfl rfl rfl ?_
    refine LL.nilS ?_
    refine CC.yes rfl ?_
    refine CC.skip ?_
    refine EE.thenN ?_
    refine CC.seq ?_
    refine CC.block ?_
    refine CC.seq ?_
    refine CC.grow (by kernel_rfl) (by kernel_rfl) ?_
    refine GG.val (fun w' b' => R.move rfl rfl) rfl rfl ?_
    refine GG.val (fun w' b' => R.gtT rfl rfl rfl (by omega)) rfl rfl ?_
    refine GG.val (fun w' b' => R.move rfl rfl) rfl rfl ?_
    refine GG.val (fun w' b' => R.move rfl rfl) rfl rfl ?_
    refine GG.val (fun w' b' => R.move rfl rfl) rfl rfl ?_
    refine GG.val (fun w' b' => R.subNc rfl rfl rfl rfl (by omega) (by omega)) rfl rfl ?_
    refine GG.val (fun w' b' => R.index rfl rfl rfl (I.ixS rfl (by omega))) rfl rfl ?_
    refine GG.val (fun w' b' => R.field rfl rfl (I.fld rfl)) rfl rfl ?_
    refine GG.val (fun w' b' => R.load rfl rfl (I.ld1 rfl (cell_up c3 b'))) rfl rfl ?_
    refine GG.val (fun w' b' => R.move rfl rfl) rfl rfl ?_
    refine GG.val (fun w' b' => R.move rfl rfl) rfl rfl ?_
    refine GG.val (fun w' b' => R.index rfl rfl rfl (I.ixS rfl (by omega))) rfl rfl ?_
    refine GG.val (fun w' b' => R.field rfl rfl (I.fld rfl)) rfl rfl ?_
    refine GG.val (fun w' b' => R.load rfl rfl (I.ld1 rfl (cell_up c1 b'))) rfl rfl ?_
    refine GG.val (fun w' b' => R.geF rfl rfl rfl (by omega)) rfl rfl ?_
    refine GG.val (fun w' b' => R.pick rfl rfl rfl) rfl rfl ?_
    refine GG.val (fun w' b' => R.move rfl rfl) rfl rfl ?_
    refine GG.val (fun w' b' => R.move rfl rfl) rfl rfl ?_
    refine GG.val (fun w' b' => R.move rfl rfl) rfl rfl ?_
    refine GG.val (fun w' b' => R.slice rfl rfl rfl rfl rfl (I.slTo rfl (by omega))) rfl rfl ?_
    refine GG.val (fun w' b' => R.move rfl rfl) rfl rfl ?_
    refine GG.val (fun w' b' => R.move rfl rfl) rfl rfl ?_
    refine GG.val (fun w' b' => R.index rfl rfl rfl (I.ixS rfl (by omega))) rfl rfl ?_
    refine GG.val (fun w' b' => R.field rfl rfl (I.fld rfl)) rfl rfl ?_
    refine GG.val (fun w' b' => R.load rfl rfl (I.ld1 rfl (cell_up c2 b'))) rfl rfl ?_
    refine GG.callDF (fun w' => (R.call rfl rfl rfl)) rfl rfl (fun w' b' => (hHa w' (q.trans (b'.mono q.size))).mono fun e W' h => ⟨h.1, h.2 ▸ b'⟩) (by first | assumption | omega) ?_
    refine GG.val (fun w' b' => R.pick rfl rfl rfl) rfl rfl ?_
    refine GG.val (fun w' b' => R.move rfl rfl) rfl rfl ?_
    refine GG.val (fun w' b' => R.move rfl rfl) rfl rfl ?_
    refine GG.val (fun w' b' => R.move rfl rfl) rfl rfl ?_
    refine GG.val (fun w' b' => R.index rfl rfl rfl (I.ixS rfl (by omega))) rfl rfl ?_
    refine GG.val (fun w' b' => R.field rfl rfl (I.fld rfl)) rfl rfl ?_
    refine GG.val (fun w' b' => R.load rfl rfl (I.ld1 rfl (cell_up c2 b'))) rfl rfl ?_
    refine GG.val (fun w' b' => R.move rfl rfl) rfl rfl ?_
    refine GG.val (fun w' b' => R.eqF rfl rfl rfl (by omega)) rfl rfl ?_
    refine GG.val (fun w' b' => R.pick rfl rfl rfl) rfl rfl ?_
    refine GG.nilQ (fun Wg6 bg5 => ?_)
    have zbg5 := bg5.size
    replace q := q.trans (bg5.mono q.size)
    replace c1 := cell_up c1 bg5
    replace c2 := cell_up c2 bg5
    replace c3 := cell_up c3 bg5
    refine EE.thenN ?_
    refine CC.no rfl ?_
    refine CC.skip ?_
    refine EE.inN ?_
    refine EE.thenN ?_
    refine CC.region ?_
    refine LL.val (R.move rfl rfl) rfl rfl rfl ?_
    refine LL.val (R.addNc rfl rfl rfl rfl (by omega)) rfl rfl rfl ?_
    refine LL.val (R.assign rfl rfl) rfl rfl rfl ?_
    refine LL.nil ?_
    exact EE.round (i + 1) ⟨rfl, rfl, rfl, trivial⟩ ⟨by show i + 1 ≤ N; omega, q, hg⟩ (by show N - (i + 1) < N - i; omega)
end Go.Proofs.Ytfpcpnodcdgbdaa

/- slots: the document's Check. -/
namespace Go.Proofs.Ytfpcpnodcdgbdaa
set_option linter.unusedVariables false
set_option linter.unusedSimpArgs false
open Go.RowKit Go.Shelf
theorem set_fine {left : Nat} {s : List Nat} : setP left s ↔ fineP left (pairP left s) ∧ (pairP left s).length = overN s ∧ (pairP left s).length < s.length / 2 ∧ ∀ j, overN s ≤ j → j < s.length / 2 → ptrN s j = 0 := by
  constructor
  · intro h
    obtain ⟨n, hs⟩ := setP_iff.1 h
    have hP := hs.pairP
    have hl : (pairP left s).length = n := by rw [hP]; simp
    rw [hl, hs.over]
    refine ⟨fun i x hx => ?_, rfl, hs.lt, hs.z⟩
    have hi : i < n := by have := (List.getElem?_eq_some_iff.1 hx).1; omega
    rw [hP, range_map_get hi] at hx
    cases hx
    refine ⟨fun h0 y hy => ?_, fun hm => ?_, hs.nl i hi⟩
    · rw [hP, range_map_get (by omega)] at hy
      cases hy
      have := hs.up (i - 1) (by omega)
      rw [show i - 1 + 1 = i by omega] at this
      exact this
    · obtain ⟨y, hy, e⟩ := List.mem_map.1 hm
      rw [hP, ← List.map_take, List.take_range, Nat.min_eq_left (by omega)] at hy
      obtain ⟨j, hj, rfl⟩ := List.mem_map.1 hy
      exact hs.dis j i (List.mem_range.1 hj) hi e
  · rintro ⟨h1, h2, h3, h4⟩
    have hn : (pairF left s (overN s)).length = overN s := (by unfold pairP pairS; rw [List.length_map] : (pairF left s (overN s)).length = (pairP left s).length).trans h2
    have hne := pairF_full hn
    have hP : pairP left s = (List.range (overN s)).map (prA s) := by
      unfold pairP pairS
      rw [pairF_all hne, List.map_map]
      rfl
    rw [h2] at h3
    rw [hP] at h1
    have ha := fun i (hi : i < overN s) => h1 i (prA s i) (range_map_get hi)
    refine setP_iff.2 ⟨overN s, h3, fun j hj => over_ne hj, h4, fun j hj => (ha j hj).2.2, fun i j hij hj e => (ha j hj).2.1 ?_, fun j hj => ?_⟩
    · rw [← List.map_take, List.take_range, Nat.min_eq_left (by omega)]
      exact List.mem_map.2 ⟨prA s i, List.mem_map.2 ⟨i, List.mem_range.2 hij, rfl⟩, e⟩
    · exact (ha (j + 1) hj).1 (by omega) (prA s j) (range_map_get (by omega))
set_option maxRecDepth 100000
set_option maxHeartbeats 4000000
theorem dcheck_any (left n : Nat) (v : Value) (s : List Nat) (w : World) (hv : ReadsT uE 1 w v s) (hn : s.length = n) (h : n ≤ 1048576) : Calls Try.prog 17 #[.int .u64 (left : Int), v] w fun e w' => e = .returned (.int .i64 (checkF left s : Int)) ∧ Below w.heap.size w w' := by
  have q := Below.refl w.heap.size w
  obtain ⟨a, c, rfl, hc⟩ := hv.form hn
  have hvF : ∀ X, Below w.heap.size w X → ReadsT uE 1 X (.slice a n c) s := fun X b => hv.up b
  clear hv
  unfold checkF
  rw [hn]
  by_cases h1 : noRow left n
  · rw [if_pos h1]
    refine X.fn Try.func17 rfl (n := 53) rfl rfl ?_
    refine CC.seq ?_
    refine CC.region ?_
    refine LL.val (R.assign rfl rfl) rfl rfl rfl ?_
    refine LL.nilS ?_
    refine CC.seq ?_
    refine CC.seq ?_
    refine CC.region ?_
    refine LL.val (R.move rfl rfl) rfl rfl rfl ?_
    refine LL.val (R.move rfl rfl) rfl rfl rfl ?_
    refine LL.call (R.call rfl rfl rfl) rfl rfl rfl (dright_F _ _ _ _ _ (by first | assumption | omega) (by first | assumption | omega)) ?_
    rintro e W' ⟨rfl, rfl⟩
    refine ⟨_, rfl, ?_⟩
    refine LL.val (R.not rfl rfl) rfl rfl rfl ?_
    refine LL.nilS ?_
    refine CC.yes rfl ?_
    refine CC.seq ?_
    refine CC.region ?_
    refine LL.val (R.assign rfl rfl) rfl rfl rfl ?_
    refine LL.nilS ?_
    refine CC.ret ?_
    refine EE.thenR ?_
    refine EE.ret _ rfl rfl ?_
    exact ⟨rfl, q⟩
  rw [if_neg h1]
  have hrow := noRow_not h1
  clear h1
  obtain ⟨ps, eps⟩ : ∃ ps, pairP left s = ps := ⟨_, rfl⟩
  obtain ⟨m, em⟩ : ∃ m, overN s = m := ⟨_, rfl⟩
  have hsf := set_fine (left := left) (s := s)
  rw [eps, em, hn] at hsf
  have hpl : ps.length ≤ n / 2 := by rw [← eps, ← hn]; unfold pairP; rw [List.length_map]; exact pairS_len left s
  by_cases hf : fineP left ps
  case neg =>
    have hno : ¬ setP left s := fun hs => hf (hsf.1 hs).1
    rw [if_neg hno]
    refine X.fn Try.func17 rfl (n := 53) rfl rfl ?_
    refine CC.seq ?_
    refine CC.region ?_
    refine LL.val (R.assign rfl rfl) rfl rfl rfl ?_
    refine LL.nilS ?_
    refine CC.seq ?_
    refine CC.seq ?_
    refine CC.region ?_
    refine LL.val (R.move rfl rfl) rfl rfl rfl ?_
    refine LL.val (R.move rfl rfl) rfl rfl rfl ?_
    refine LL.call (R.call rfl rfl rfl) rfl rfl rfl (dright_T _ _ _ _ _ (by first | assumption | omega)) ?_
    rintro e W' ⟨rfl, rfl⟩
    refine ⟨_, rfl, ?_⟩
    refine LL.val (R.not rfl rfl) rfl rfl rfl ?_
    refine LL.nilS ?_
    refine CC.no rfl ?_
    refine CC.skip ?_
    refine EE.thenN ?_
    refine CC.seq ?_
    refine CC.region ?_
    refine LL.val (R.move rfl rfl) rfl rfl rfl ?_
    refine LL.val (R.move rfl rfl) rfl rfl rfl ?_
    (refine LL.call (R.call rfl rfl rfl) rfl rfl rfl (dread_any left a n c s _ (hvF _ q) hn h) ?_; rintro e Wa102 ⟨v1, v2, rfl, o1, o2, hd, ba99⟩; refine ⟨_, rfl, ?_⟩; rw [eps] at o1; obtain ⟨aP, cP, rfl, hcP⟩ := (o1.reads prEnc).form rfl; have hpF : ∀ X, Below (Wa102).heap.size Wa102 X → ReadsT prE 2 X (.slice aP ps.length cP) ps := fun X b => (o1.reads prEnc).up b; have qP := Below.refl (Wa102).heap.size Wa102; clear o1 o2 hd)
    have zba99 := ba99.size
    replace q := q.trans (ba99.mono q.size)
    refine LL.val (R.move rfl rfl) rfl rfl rfl ?_
    refine LL.val (R.extract rfl rfl rfl) rfl rfl rfl ?_
    refine LL.val (R.extract rfl rfl rfl) rfl rfl rfl ?_
    refine LL.val (R.assign rfl rfl) rfl rfl rfl ?_
    refine LL.val (R.assign rfl rfl) rfl rfl rfl ?_
    refine LL.nilS ?_
    refine CC.seq ?_
    refine CC.seq ?_
    refine CC.region ?_
    refine LL.val (R.move rfl rfl) rfl rfl rfl ?_
    refine LL.val (R.move rfl rfl) rfl rfl rfl ?_
    (refine LL.call (R.call rfl rfl rfl) rfl rfl rfl (dfine_any left _ ps _ (hpF _ qP) (by omega)) ?_; rintro e Wa214 ⟨bf, rfl, hbf, ba211⟩; refine ⟨_, rfl, ?_⟩; obtain rfl : bf = false := (by cases bf with | false => rfl | true => exact absurd (hbf.1 rfl) hf); clear hbf)
    have zba211 := ba211.size
    replace ba99 := ba99.trans (ba211.mono ba99.size)
    replace qP := qP.trans (ba211.mono qP.size)
    replace q := q.trans (ba211.mono q.size)
    refine LL.val (R.not rfl rfl) rfl rfl rfl ?_
    refine LL.val (R.move rfl rfl) rfl rfl rfl ?_
    refine LL.skip rfl rfl ?_
    refine LL.skip rfl rfl ?_
    refine LL.skip rfl rfl ?_
    refine LL.skip rfl rfl ?_
    refine LL.skip rfl rfl ?_
    refine LL.val (R.pick rfl rfl rfl) rfl rfl rfl ?_
    refine LL.val (R.move rfl rfl) rfl rfl rfl ?_
    refine LL.skip rfl rfl ?_
    refine LL.skip rfl rfl ?_
    refine LL.skip rfl rfl ?_
    refine LL.skip rfl rfl ?_
    refine LL.skip rfl rfl ?_
    refine LL.skip rfl rfl ?_
    refine LL.val (R.pick rfl rfl rfl) rfl rfl rfl ?_
    refine LL.nilS ?_
    refine CC.yes rfl ?_
    refine CC.seq ?_
    refine CC.region ?_
    refine LL.val (R.assign rfl rfl) rfl rfl rfl ?_
    refine LL.nilS ?_
    refine CC.ret ?_
    refine EE.thenR ?_
    refine EE.ret _ rfl rfl ?_
    exact ⟨rfl, q⟩
  by_cases hl : ps.length = m
  case neg =>
    have hno : ¬ setP left s := fun hs => hl (hsf.1 hs).2.1
    rw [if_neg hno]
    refine X.fn Try.func17 rfl (n := 53) rfl rfl ?_
    refine CC.seq ?_
    refine CC.region ?_
    refine LL.val (R.assign rfl rfl) rfl rfl rfl ?_
    refine LL.nilS ?_
    refine CC.seq ?_
    refine CC.seq ?_
    refine CC.region ?_
    refine LL.val (R.move rfl rfl) rfl rfl rfl ?_
    refine LL.val (R.move rfl rfl) rfl rfl rfl ?_
    refine LL.call (R.call rfl rfl rfl) rfl rfl rfl (dright_T _ _ _ _ _ (by first | assumption | omega)) ?_
    rintro e W' ⟨rfl, rfl⟩
    refine ⟨_, rfl, ?_⟩
    refine LL.val (R.not rfl rfl) rfl rfl rfl ?_
    refine LL.nilS ?_
    refine CC.no rfl ?_
    refine CC.skip ?_
    refine EE.thenN ?_
    refine CC.seq ?_
    refine CC.region ?_
    refine LL.val (R.move rfl rfl) rfl rfl rfl ?_
    refine LL.val (R.move rfl rfl) rfl rfl rfl ?_
    (refine LL.call (R.call rfl rfl rfl) rfl rfl rfl (dread_any left a n c s _ (hvF _ q) hn h) ?_; rintro e Wb102 ⟨v1, v2, rfl, o1, o2, hd, bb99⟩; refine ⟨_, rfl, ?_⟩; rw [eps] at o1; obtain ⟨aP, cP, rfl, hcP⟩ := (o1.reads prEnc).form rfl; have hpF : ∀ X, Below (Wb102).heap.size Wb102 X → ReadsT prE 2 X (.slice aP ps.length cP) ps := fun X b => (o1.reads prEnc).up b; have qP := Below.refl (Wb102).heap.size Wb102; clear o1 o2 hd)
    have zbb99 := bb99.size
    replace q := q.trans (bb99.mono q.size)
    refine LL.val (R.move rfl rfl) rfl rfl rfl ?_
    refine LL.val (R.extract rfl rfl rfl) rfl rfl rfl ?_
    refine LL.val (R.extract rfl rfl rfl) rfl rfl rfl ?_
    refine LL.val (R.assign rfl rfl) rfl rfl rfl ?_
    refine LL.val (R.assign rfl rfl) rfl rfl rfl ?_
    refine LL.nilS ?_
    refine CC.seq ?_
    refine CC.seq ?_
    refine CC.region ?_
    refine LL.val (R.move rfl rfl) rfl rfl rfl ?_
    refine LL.val (R.move rfl rfl) rfl rfl rfl ?_
    (refine LL.call (R.call rfl rfl rfl) rfl rfl rfl (dfine_any left _ ps _ (hpF _ qP) (by omega)) ?_; rintro e Wb214 ⟨bf, rfl, hbf, bb211⟩; refine ⟨_, rfl, ?_⟩; obtain rfl : bf = true := hbf.2 hf; clear hbf)
    have zbb211 := bb211.size
    replace bb99 := bb99.trans (bb211.mono bb99.size)
    replace qP := qP.trans (bb211.mono qP.size)
    replace q := q.trans (bb211.mono q.size)
    refine LL.val (R.not rfl rfl) rfl rfl rfl ?_
    refine LL.val (R.move rfl rfl) rfl rfl rfl ?_
    refine LL.val (R.move rfl rfl) rfl rfl rfl ?_
    refine LL.val (R.len rfl rfl rfl rfl) rfl rfl rfl ?_
    refine LL.val (R.move rfl rfl) rfl rfl rfl ?_
    (refine LL.call (R.call rfl rfl rfl) rfl rfl rfl (draw_any _ _ _ s _ (hvF _ q) hn h) ?_; rintro e W' ⟨rfl, rfl⟩; refine ⟨_, rfl, ?_⟩; rw [em])
    refine LL.val (R.neT rfl rfl rfl (by omega)) rfl rfl rfl ?_
    refine LL.val (R.pick rfl rfl rfl) rfl rfl rfl ?_
    refine LL.val (R.move rfl rfl) rfl rfl rfl ?_
    refine LL.skip rfl rfl ?_
    refine LL.skip rfl rfl ?_
    refine LL.skip rfl rfl ?_
    refine LL.skip rfl rfl ?_
    refine LL.skip rfl rfl ?_
    refine LL.skip rfl rfl ?_
    refine LL.val (R.pick rfl rfl rfl) rfl rfl rfl ?_
    refine LL.nilS ?_
    refine CC.yes rfl ?_
    refine CC.seq ?_
    refine CC.region ?_
    refine LL.val (R.assign rfl rfl) rfl rfl rfl ?_
    refine LL.nilS ?_
    refine CC.ret ?_
    refine EE.thenR ?_
    refine EE.ret _ rfl rfl ?_
    exact ⟨rfl, q⟩
  by_cases hl2 : ps.length < n / 2
  case neg =>
    have hno : ¬ setP left s := fun hs => hl2 (hsf.1 hs).2.2.1
    rw [if_neg hno]
    refine X.fn Try.func17 rfl (n := 53) rfl rfl ?_
    refine CC.seq ?_
    refine CC.region ?_
    refine LL.val (R.assign rfl rfl) rfl rfl rfl ?_
    refine LL.nilS ?_
    refine CC.seq ?_
    refine CC.seq ?_
    refine CC.region ?_
    refine LL.val (R.move rfl rfl) rfl rfl rfl ?_
    refine LL.val (R.move rfl rfl) rfl rfl rfl ?_
    refine LL.call (R.call rfl rfl rfl) rfl rfl rfl (dright_T _ _ _ _ _ (by first | assumption | omega)) ?_
    rintro e W' ⟨rfl, rfl⟩
    refine ⟨_, rfl, ?_⟩
    refine LL.val (R.not rfl rfl) rfl rfl rfl ?_
    refine LL.nilS ?_
    refine CC.no rfl ?_
    refine CC.skip ?_
    refine EE.thenN ?_
    refine CC.seq ?_
    refine CC.region ?_
    refine LL.val (R.move rfl rfl) rfl rfl rfl ?_
    refine LL.val (R.move rfl rfl) rfl rfl rfl ?_
    (refine LL.call (R.call rfl rfl rfl) rfl rfl rfl (dread_any left a n c s _ (hvF _ q) hn h) ?_; rintro e Wc102 ⟨v1, v2, rfl, o1, o2, hd, bc99⟩; refine ⟨_, rfl, ?_⟩; rw [eps] at o1; obtain ⟨aP, cP, rfl, hcP⟩ := (o1.reads prEnc).form rfl; have hpF : ∀ X, Below (Wc102).heap.size Wc102 X → ReadsT prE 2 X (.slice aP ps.length cP) ps := fun X b => (o1.reads prEnc).up b; have qP := Below.refl (Wc102).heap.size Wc102; clear o1 o2 hd)
    have zbc99 := bc99.size
    replace q := q.trans (bc99.mono q.size)
    refine LL.val (R.move rfl rfl) rfl rfl rfl ?_
    refine LL.val (R.extract rfl rfl rfl) rfl rfl rfl ?_
    refine LL.val (R.extract rfl rfl rfl) rfl rfl rfl ?_
    refine LL.val (R.assign rfl rfl) rfl rfl rfl ?_
    refine LL.val (R.assign rfl rfl) rfl rfl rfl ?_
    refine LL.nilS ?_
    refine CC.seq ?_
    refine CC.seq ?_
    refine CC.region ?_
    refine LL.val (R.move rfl rfl) rfl rfl rfl ?_
    refine LL.val (R.move rfl rfl) rfl rfl rfl ?_
    (refine LL.call (R.call rfl rfl rfl) rfl rfl rfl (dfine_any left _ ps _ (hpF _ qP) (by omega)) ?_; rintro e Wc214 ⟨bf, rfl, hbf, bc211⟩; refine ⟨_, rfl, ?_⟩; obtain rfl : bf = true := hbf.2 hf; clear hbf)
    have zbc211 := bc211.size
    replace bc99 := bc99.trans (bc211.mono bc99.size)
    replace qP := qP.trans (bc211.mono qP.size)
    replace q := q.trans (bc211.mono q.size)
    refine LL.val (R.not rfl rfl) rfl rfl rfl ?_
    refine LL.val (R.move rfl rfl) rfl rfl rfl ?_
    refine LL.val (R.move rfl rfl) rfl rfl rfl ?_
    refine LL.val (R.len rfl rfl rfl rfl) rfl rfl rfl ?_
    refine LL.val (R.move rfl rfl) rfl rfl rfl ?_
    (refine LL.call (R.call rfl rfl rfl) rfl rfl rfl (draw_any _ _ _ s _ (hvF _ q) hn h) ?_; rintro e W' ⟨rfl, rfl⟩; refine ⟨_, rfl, ?_⟩; rw [em])
    refine LL.val (R.neF rfl rfl rfl (by omega)) rfl rfl rfl ?_
    refine LL.val (R.pick rfl rfl rfl) rfl rfl rfl ?_
    refine LL.val (R.move rfl rfl) rfl rfl rfl ?_
    refine LL.val (R.move rfl rfl) rfl rfl rfl ?_
    refine LL.val (R.len rfl rfl rfl rfl) rfl rfl rfl ?_
    refine LL.val (R.move rfl rfl) rfl rfl rfl ?_
    refine LL.val (R.len rfl rfl rfl rfl) rfl rfl rfl ?_
    refine LL.val (R.quoNc rfl rfl rfl rfl (by omega) (by omega)) rfl rfl rfl ?_
    refine LL.val (R.geT rfl rfl rfl (by omega)) rfl rfl rfl ?_
    refine LL.val (R.pick rfl rfl rfl) rfl rfl rfl ?_
    refine LL.nilS ?_
    refine CC.yes rfl ?_
    refine CC.seq ?_
    refine CC.region ?_
    refine LL.val (R.assign rfl rfl) rfl rfl rfl ?_
    refine LL.nilS ?_
    refine CC.ret ?_
    refine EE.thenR ?_
    refine EE.ret _ rfl rfl ?_
    exact ⟨rfl, q⟩
  refine X.fn Try.func17 rfl (n := 53) rfl rfl ?_
  refine CC.seq ?_
  refine CC.region ?_
  refine LL.val (R.assign rfl rfl) rfl rfl rfl ?_
  refine LL.nilS ?_
  refine CC.seq ?_
  refine CC.seq ?_
  refine CC.region ?_
  refine LL.val (R.move rfl rfl) rfl rfl rfl ?_
  refine LL.val (R.move rfl rfl) rfl rfl rfl ?_
  refine LL.call (R.call rfl rfl rfl) rfl rfl rfl (dright_T _ _ _ _ _ (by first | assumption | omega)) ?_
  rintro e W' ⟨rfl, rfl⟩
  refine ⟨_, rfl, ?_⟩
  refine LL.val (R.not rfl rfl) rfl rfl rfl ?_
  refine LL.nilS ?_
  refine CC.no rfl ?_
  refine CC.skip ?_
  refine EE.thenN ?_
  refine CC.seq ?_
  refine CC.region ?_
  refine LL.val (R.move rfl rfl) rfl rfl rfl ?_
  refine LL.val (R.move rfl rfl) rfl rfl rfl ?_
  (refine LL.call (R.call rfl rfl rfl) rfl rfl rfl (dread_any left a n c s _ (hvF _ q) hn h) ?_; rintro e Wd102 ⟨v1, v2, rfl, o1, o2, hd, bd99⟩; refine ⟨_, rfl, ?_⟩; rw [eps] at o1; obtain ⟨aP, cP, rfl, hcP⟩ := (o1.reads prEnc).form rfl; have hpF : ∀ X, Below (Wd102).heap.size Wd102 X → ReadsT prE 2 X (.slice aP ps.length cP) ps := fun X b => (o1.reads prEnc).up b; have qP := Below.refl (Wd102).heap.size Wd102; clear o1 o2 hd)
  have zbd99 := bd99.size
  replace q := q.trans (bd99.mono q.size)
  refine LL.val (R.move rfl rfl) rfl rfl rfl ?_
  refine LL.val (R.extract rfl rfl rfl) rfl rfl rfl ?_
  refine LL.val (R.extract rfl rfl rfl) rfl rfl rfl ?_
  refine LL.val (R.assign rfl rfl) rfl rfl rfl ?_
  refine LL.val (R.assign rfl rfl) rfl rfl rfl ?_
  refine LL.nilS ?_
  refine CC.seq ?_
  refine CC.seq ?_
  refine CC.region ?_
  refine LL.val (R.move rfl rfl) rfl rfl rfl ?_
  refine LL.val (R.move rfl rfl) rfl rfl rfl ?_
  (refine LL.call (R.call rfl rfl rfl) rfl rfl rfl (dfine_any left _ ps _ (hpF _ qP) (by omega)) ?_; rintro e Wd214 ⟨bf, rfl, hbf, bd211⟩; refine ⟨_, rfl, ?_⟩; obtain rfl : bf = true := hbf.2 hf; clear hbf)
  have zbd211 := bd211.size
  replace bd99 := bd99.trans (bd211.mono bd99.size)
  replace qP := qP.trans (bd211.mono qP.size)
  replace q := q.trans (bd211.mono q.size)
  refine LL.val (R.not rfl rfl) rfl rfl rfl ?_
  refine LL.val (R.move rfl rfl) rfl rfl rfl ?_
  refine LL.val (R.move rfl rfl) rfl rfl rfl ?_
  refine LL.val (R.len rfl rfl rfl rfl) rfl rfl rfl ?_
  refine LL.val (R.move rfl rfl) rfl rfl rfl ?_
  (refine LL.call (R.call rfl rfl rfl) rfl rfl rfl (draw_any _ _ _ s _ (hvF _ q) hn h) ?_; rintro e W' ⟨rfl, rfl⟩; refine ⟨_, rfl, ?_⟩; rw [em])
  refine LL.val (R.neF rfl rfl rfl (by omega)) rfl rfl rfl ?_
  refine LL.val (R.pick rfl rfl rfl) rfl rfl rfl ?_
  refine LL.val (R.move rfl rfl) rfl rfl rfl ?_
  refine LL.val (R.move rfl rfl) rfl rfl rfl ?_
  refine LL.val (R.len rfl rfl rfl rfl) rfl rfl rfl ?_
  refine LL.val (R.move rfl rfl) rfl rfl rfl ?_
  refine LL.val (R.len rfl rfl rfl rfl) rfl rfl rfl ?_
  refine LL.val (R.quoNc rfl rfl rfl rfl (by omega) (by omega)) rfl rfl rfl ?_
  refine LL.val (R.geF rfl rfl rfl (by omega)) rfl rfl rfl ?_
  refine LL.val (R.pick rfl rfl rfl) rfl rfl rfl ?_
  refine LL.nilS ?_
  refine CC.no rfl ?_
  refine CC.skip ?_
  refine EE.thenN ?_
  refine CC.seq ?_
  refine CC.seq ?_
  refine CC.region ?_
  refine LL.val (R.move rfl rfl) rfl rfl rfl ?_
  refine LL.val (R.len rfl rfl rfl rfl) rfl rfl rfl ?_
  refine LL.val (R.assign rfl rfl) rfl rfl rfl ?_
  refine LL.nilS ?_
  refine CC.block ?_
  have yq := q.size
  refine CC.loop (α := Nat) (fun i => [(1, .slice a n c), (7, .int .i64 (i : Int))]) (fun i W => m ≤ i ∧ i ≤ n / 2 ∧ Below w.heap.size w W ∧ ∀ j, m ≤ j → j < i → ptrN s j = 0) (fun i => n / 2 - i)
    ps.length ⟨rfl, rfl, trivial⟩ ⟨by omega, by omega, q, fun j h1 h2 => by omega⟩ ?_
  clear q qP
  rintro j W ⟨hj1, hj2, q, hz⟩
  show CC none Try.prog _ 53 [] (sl [(1, .slice a n c), (7, .int .i64 (j : Int))]) _ W
  by_cases hlt2 : j < n / 2
  case neg =>
    obtain rfl : j = n / 2 := by omega
    have hyes : setP left s := hsf.2 ⟨hf, hl, hl2, hz⟩
    rw [if_pos hyes]
    refine CC.seq ?_
    refine CC.seq ?_
    refine CC.region ?_
    refine LL.val (R.move rfl rfl) rfl rfl rfl ?_
    refine LL.val (R.move rfl rfl) rfl rfl rfl ?_
    refine LL.val (R.len rfl rfl rfl rfl) rfl rfl rfl ?_
    refine LL.val (R.quoNc rfl rfl rfl rfl (by omega) (by omega)) rfl rfl rfl ?_
    refine LL.val (R.ltF rfl rfl rfl (by omega)) rfl rfl rfl ?_
    refine LL.nilS ?_
    refine CC.no rfl ?_
    refine CC.exit ?_
    refine EE.thenX ?_
    refine EE.thenX ?_
    refine EE.inX ?_
    refine EE.thenN ?_
    refine CC.seq ?_
    refine CC.region ?_
    refine LL.val (R.assign rfl rfl) rfl rfl rfl ?_
    refine LL.nilS ?_
    refine CC.ret ?_
    refine EE.ret _ rfl rfl ?_
    exact ⟨rfl, q⟩
  obtain ⟨b, o, rfl, lb, m1⟩ := u_at (hvF _ (Below.refl _ _)) (ptrN_at (s := s) (j := j) (by omega))
  have c1 := m1 W q
  by_cases hp : ptrN s j = 0
  · have hz' : ∀ k, m ≤ k → k < j + 1 → ptrN s k = 0 := fun k h1 h2 => by
      by_cases e : k = j
      · subst e; exact hp
      · exact hz k h1 (by omega)
    clear hz
    refine CC.seq ?_
    refine CC.seq ?_
    refine CC.region ?_
    refine LL.val (R.move rfl rfl) rfl rfl rfl ?_
    refine LL.val (R.move rfl rfl) rfl rfl rfl ?_
    refine LL.val (R.len rfl rfl rfl rfl) rfl rfl rfl ?_
    refine LL.val (R.quoNc rfl rfl rfl rfl (by omega) (by omega)) rfl rfl rfl ?_
    refine LL.val (R.ltT rfl rfl rfl (by omega)) rfl rfl rfl ?_
    refine LL.nilS ?_
    refine CC.yes rfl ?_
    refine CC.skip ?_
    refine EE.thenN ?_
    refine CC.seq ?_
    refine CC.block ?_
    refine CC.seq ?_
    refine CC.region ?_
    refine LL.val (R.move rfl rfl) rfl rfl rfl ?_
    refine LL.val (R.move rfl rfl) rfl rfl rfl ?_
    refine LL.val (R.mulcN rfl rfl rfl rfl (by omega)) rfl rfl rfl ?_
    refine LL.val (R.addNc rfl rfl rfl rfl (by omega)) rfl rfl rfl ?_
    refine LL.val (R.index rfl rfl rfl (I.ixS1 rfl (by omega))) rfl rfl rfl ?_
    refine LL.val (R.load rfl rfl (I.ld1 rfl (by assumption))) rfl rfl rfl ?_
    refine LL.val (R.neF rfl rfl rfl (by omega)) rfl rfl rfl ?_
    refine LL.nilS ?_
    refine CC.no rfl ?_
    refine CC.skip ?_
    refine EE.inN ?_
    refine EE.thenN ?_
    refine CC.region ?_
    refine LL.val (R.move rfl rfl) rfl rfl rfl ?_
    refine LL.val (R.addNc rfl rfl rfl rfl (by omega)) rfl rfl rfl ?_
    refine LL.val (R.assign rfl rfl) rfl rfl rfl ?_
    refine LL.nil ?_
    exact EE.round (j + 1) ⟨rfl, rfl, trivial⟩ ⟨by show m ≤ j + 1; omega, by show j + 1 ≤ n / 2; omega, q, hz'⟩ (by show n / 2 - (j + 1) < n / 2 - j; omega)
  · have hno : ¬ setP left s := fun hs => hp ((hsf.1 hs).2.2.2 j hj1 hlt2)
    rw [if_neg hno]
    refine CC.seq ?_
    refine CC.seq ?_
    refine CC.region ?_
    refine LL.val (R.move rfl rfl) rfl rfl rfl ?_
    refine LL.val (R.move rfl rfl) rfl rfl rfl ?_
    refine LL.val (R.len rfl rfl rfl rfl) rfl rfl rfl ?_
    refine LL.val (R.quoNc rfl rfl rfl rfl (by omega) (by omega)) rfl rfl rfl ?_
    refine LL.val (R.ltT rfl rfl rfl (by omega)) rfl rfl rfl ?_
    refine LL.nilS ?_
    refine CC.yes rfl ?_
    refine CC.skip ?_
    refine EE.thenN ?_
    refine CC.seq ?_
    refine CC.block ?_
    refine CC.seq ?_
    refine CC.region ?_
    refine LL.val (R.move rfl rfl) rfl rfl rfl ?_
    refine LL.val (R.move rfl rfl) rfl rfl rfl ?_
    refine LL.val (R.mulcN rfl rfl rfl rfl (by omega)) rfl rfl rfl ?_
    refine LL.val (R.addNc rfl rfl rfl rfl (by omega)) rfl rfl rfl ?_
    refine LL.val (R.index rfl rfl rfl (I.ixS1 rfl (by omega))) rfl rfl rfl ?_
    refine LL.val (R.load rfl rfl (I.ld1 rfl (by assumption))) rfl rfl rfl ?_
    refine LL.val (R.neT rfl rfl rfl (by omega)) rfl rfl rfl ?_
    refine LL.nilS ?_
    refine CC.yes rfl ?_
    refine CC.seq ?_
    refine CC.region ?_
    refine LL.val (R.assign rfl rfl) rfl rfl rfl ?_
    refine LL.nilS ?_
    refine CC.ret ?_
    refine EE.inR ?_
    refine EE.thenR ?_
    refine EE.thenR ?_
    refine EE.inR ?_
    refine EE.thenR ?_
    refine EE.ret _ rfl rfl ?_
    exact ⟨rfl, q⟩
end Go.Proofs.Ytfpcpnodcdgbdaa

/- slots: the document's find, pointer, shift. -/
namespace Go.Proofs.Ytfpcpnodcdgbdaa
set_option linter.unusedVariables false
set_option linter.unusedSimpArgs false
open Go.RowKit Go.Shelf
/-- What find finds. -/
def fndP (l : List Pr) (k i : Nat) (b : Bool) : Prop := i ≤ l.length ∧ (∀ j x, j < i → l[j]? = some x → x.1 < k) ∧ (∀ x, l[i]? = some x → k ≤ x.1) ∧ (b = true ↔ ∃ p, l[i]? = some (k, p))
set_option maxRecDepth 100000
set_option maxHeartbeats 4000000
theorem dfind_any (v : Value) (l : List Pr) (k : Nat) (w : World) (hv : ReadsT prE 2 w v l) (hl : l.length ≤ 1048576) : Calls Try.prog 51 #[v, .int .u64 (k : Int)] w fun e w' => ∃ i b, e = .returned (.tuple #[.int .i64 ((i : Nat) : Int), .bool b]) ∧ fndP l k i b ∧ Below w.heap.size w w' := by
  have q := Below.refl w.heap.size w
  obtain ⟨N, hN⟩ : ∃ N, l.length = N := ⟨_, rfl⟩
  obtain ⟨a, cap, rfl, hc⟩ := hv.form hN
  rw [hN] at hl
  have hF : ∀ W, Below w.heap.size w W → ReadsT prE 2 W (.slice a N cap) l := fun W b => hv.up b
  clear hv
  refine X.fn Try.func51 rfl (n := 36) rfl rfl ?_
  refine CC.seq ?_
  refine CC.region ?_
  refine LL.val (R.assign rfl rfl) rfl rfl rfl ?_
  refine LL.val (R.assign rfl rfl) rfl rfl rfl ?_
  refine LL.nilS ?_
  refine CC.seq ?_
  refine CC.region ?_
  refine LL.val (R.assign rfl rfl) rfl rfl rfl ?_
  refine LL.nilS ?_
  refine CC.seq ?_
  refine CC.block ?_
  refine CC.loop (α := Nat) (fun i => [(0, .slice a N cap), (1, .int .u64 (k : Int)), (6, .int .i64 (i : Int))]) (fun i W => i ≤ N ∧ Below w.heap.size w W ∧ ∀ j x, j < i → l[j]? = some x → x.1 < k) (fun i => N - i) 0 ⟨rfl, rfl, rfl, trivial⟩ ⟨Nat.zero_le _, q, fun j x h => by omega⟩ ?_
  clear q
  rintro i W ⟨hi, q, ht⟩
  show CC none Try.prog _ 36 [] (sl [(0, .slice a N cap), (1, .int .u64 (k : Int)), (6, .int .i64 (i : Int))]) _ W
  by_cases hlt : i < N
  case neg =>
    obtain rfl : i = N := by omega
    have hno : l[i]? = none := List.getElem?_eq_none (by omega)
    have hR : fndP l k i false := ⟨by omega, ht, fun x hx => (by rw [hno] at hx; cases hx), by simp [hno]⟩
    clear ht
    refine CC.seq ?_
    refine CC.seq ?_
    refine CC.region ?_
    refine LL.val (R.move rfl rfl) rfl rfl rfl ?_
    refine LL.val (R.move rfl rfl) rfl rfl rfl ?_
    refine LL.val (R.len rfl rfl rfl rfl) rfl rfl rfl ?_
    refine LL.val (R.ltF rfl rfl rfl (by omega)) rfl rfl rfl ?_
    refine LL.val (R.move rfl rfl) rfl rfl rfl ?_
    refine LL.skip rfl rfl ?_
    refine LL.skip rfl rfl ?_
    refine LL.skip rfl rfl ?_
    refine LL.skip rfl rfl ?_
    refine LL.skip rfl rfl ?_
    refine LL.skip rfl rfl ?_
    refine LL.skip rfl rfl ?_
    refine LL.val (R.pick rfl rfl rfl) rfl rfl rfl ?_
    refine LL.nilS ?_
    refine CC.no rfl ?_
    refine CC.exit ?_
    refine EE.thenX ?_
    refine EE.thenX ?_
    refine EE.inX ?_
    refine EE.thenN ?_
    refine CC.seq ?_
    refine CC.quietB (by kernel_rfl) (by kernel_rfl) (fun Wa2 ba1 za3 => ?_)
    replace q := q.trans (ba1.mono q.size)
    refine SS.val (R.move rfl rfl) rfl rfl ?_
    refine SS.val (R.move rfl rfl) rfl rfl ?_
    refine SS.val (R.move rfl rfl) rfl rfl ?_
    refine SS.val (R.len rfl rfl rfl rfl) rfl rfl ?_
    refine SS.val (R.ltF rfl rfl rfl (by omega)) rfl rfl ?_
    refine SS.val (R.move rfl rfl) rfl rfl ?_
    refine SS.skip rfl rfl ?_
    refine SS.skip rfl rfl ?_
    refine SS.skip rfl rfl ?_
    refine SS.skip rfl rfl ?_
    refine SS.skip rfl rfl ?_
    refine SS.skip rfl rfl ?_
    refine SS.skip rfl rfl ?_
    refine SS.val (R.pick rfl rfl rfl) rfl rfl ?_
    refine SS.val (R.assign rfl rfl) rfl rfl ?_
    refine SS.val (R.assign rfl rfl) rfl rfl ?_
    refine SS.nilQ ?_
    refine EE.thenN ?_
    refine CC.ret ?_
    refine EE.ret _ rfl rfl ?_
    exact ⟨_, _, rfl, hR, q⟩
  obtain ⟨⟨k1, p1⟩, hx⟩ : ∃ x, l[i]? = some x := ⟨_, List.getElem?_eq_getElem (by omega)⟩
  obtain ⟨b1, o1, rfl, _, _⟩ := (hF _ q).get prEnc hx
  have c1 : W.cell? ⟨b1, o1 + i * 2, none⟩ = some (.int .u64 (k1 : Int)) := ((hF W q).elemN prEnc hx).cell (j := 0) rfl
  by_cases h1 : k1 < k
  · have ht' : ∀ j x, j < i + 1 → l[j]? = some x → x.1 < k := fun j x hj hjx => by
      by_cases e : j = i
      · subst e; rw [hx] at hjx; cases hjx; exact h1
      · exact ht j x (by omega) hjx
    clear ht
    refine CC.seq ?_
    refine CC.seq ?_
    refine CC.region ?_
    refine LL.val (R.move rfl rfl) rfl rfl rfl ?_
    refine LL.val (R.move rfl rfl) rfl rfl rfl ?_
    refine LL.val (R.len rfl rfl rfl rfl) rfl rfl rfl ?_
    refine LL.val (R.ltT rfl rfl rfl (by omega)) rfl rfl rfl ?_
    refine LL.val (R.move rfl rfl) rfl rfl rfl ?_
    refine LL.val (R.move rfl rfl) rfl rfl rfl ?_
    refine LL.val (R.move rfl rfl) rfl rfl rfl ?_
    refine LL.val (R.index rfl rfl rfl (I.ixS rfl (by omega))) rfl rfl rfl ?_
    refine LL.val (R.field rfl rfl (I.fld rfl)) rfl rfl rfl ?_
    refine LL.val (R.load rfl rfl (I.ld1 rfl (by assumption))) rfl rfl rfl ?_
    refine LL.val (R.move rfl rfl) rfl rfl rfl ?_
    refine LL.val (R.ltT rfl rfl rfl (by omega)) rfl rfl rfl ?_
    refine LL.val (R.pick rfl rfl rfl) rfl rfl rfl ?_
    refine LL.nilS ?_
    refine CC.yes rfl ?_
    refine CC.skip ?_
    refine EE.thenN ?_
    refine CC.block ?_
    refine CC.region ?_
    refine LL.val (R.move rfl rfl) rfl rfl rfl ?_
    refine LL.val (R.addNc rfl rfl rfl rfl (by omega)) rfl rfl rfl ?_
    refine LL.val (R.assign rfl rfl) rfl rfl rfl ?_
    refine LL.nil ?_
    refine EE.inN ?_
    exact EE.round (i + 1) ⟨rfl, rfl, rfl, trivial⟩ ⟨by show i + 1 ≤ N; omega, q, ht'⟩ (by show N - (i + 1) < N - i; omega)
  by_cases h2 : k1 = k
  · subst h2
    have hR : fndP l k1 i true := ⟨by omega, ht, fun x hx' => (by rw [hx] at hx'; cases hx'; exact Nat.le_refl _), ⟨fun _ => ⟨_, hx⟩, fun _ => rfl⟩⟩
    clear ht
    refine CC.seq ?_
    refine CC.seq ?_
    refine CC.region ?_
    refine LL.val (R.move rfl rfl) rfl rfl rfl ?_
    refine LL.val (R.move rfl rfl) rfl rfl rfl ?_
    refine LL.val (R.len rfl rfl rfl rfl) rfl rfl rfl ?_
    refine LL.val (R.ltT rfl rfl rfl (by omega)) rfl rfl rfl ?_
    refine LL.val (R.move rfl rfl) rfl rfl rfl ?_
    refine LL.val (R.move rfl rfl) rfl rfl rfl ?_
    refine LL.val (R.move rfl rfl) rfl rfl rfl ?_
    refine LL.val (R.index rfl rfl rfl (I.ixS rfl (by omega))) rfl rfl rfl ?_
    refine LL.val (R.field rfl rfl (I.fld rfl)) rfl rfl rfl ?_
    refine LL.val (R.load rfl rfl (I.ld1 rfl (by assumption))) rfl rfl rfl ?_
    refine LL.val (R.move rfl rfl) rfl rfl rfl ?_
    refine LL.val (R.ltF rfl rfl rfl (by omega)) rfl rfl rfl ?_
    refine LL.val (R.pick rfl rfl rfl) rfl rfl rfl ?_
    refine LL.nilS ?_
    refine CC.no rfl ?_
    refine CC.exit ?_
    refine EE.thenX ?_
    refine EE.thenX ?_
    refine EE.inX ?_
    refine EE.thenN ?_
    refine CC.seq ?_
    refine CC.quietB (by kernel_rfl) (by kernel_rfl) (fun Wc2 bc1 zc3 => ?_)
    replace q := q.trans (bc1.mono q.size)
    replace c1 := cell_up c1 bc1
    refine SS.val (R.move rfl rfl) rfl rfl ?_
    refine SS.val (R.move rfl rfl) rfl rfl ?_
    refine SS.val (R.move rfl rfl) rfl rfl ?_
    refine SS.val (R.len rfl rfl rfl rfl) rfl rfl ?_
    refine SS.val (R.ltT rfl rfl rfl (by omega)) rfl rfl ?_
    refine SS.val (R.move rfl rfl) rfl rfl ?_
    refine SS.val (R.move rfl rfl) rfl rfl ?_
    refine SS.val (R.move rfl rfl) rfl rfl ?_
    refine SS.val (R.index rfl rfl rfl (I.ixS rfl (by omega))) rfl rfl ?_
    refine SS.val (R.field rfl rfl (I.fld rfl)) rfl rfl ?_
    refine SS.val (R.load rfl rfl (I.ld1 rfl (by assumption))) rfl rfl ?_
    refine SS.val (R.move rfl rfl) rfl rfl ?_
    refine SS.val (R.eqT rfl rfl rfl (by omega)) rfl rfl ?_
    refine SS.val (R.pick rfl rfl rfl) rfl rfl ?_
    refine SS.val (R.assign rfl rfl) rfl rfl ?_
    refine SS.val (R.assign rfl rfl) rfl rfl ?_
    refine SS.nilQ ?_
    refine EE.thenN ?_
    refine CC.ret ?_
    refine EE.ret _ rfl rfl ?_
    exact ⟨_, _, rfl, hR, q⟩
  · have hR : fndP l k i false := ⟨by omega, ht, fun x hx' => (by rw [hx] at hx'; cases hx'; show k ≤ k1; omega), ⟨fun h => (by cases h), fun ⟨p, hp⟩ => (by rw [hx] at hp; cases hp; exact absurd rfl h2)⟩⟩
    clear ht
    refine CC.seq ?_
    refine CC.seq ?_
    refine CC.region ?_
    refine LL.val (R.move rfl rfl) rfl rfl rfl ?_
    refine LL.val (R.move rfl rfl) rfl rfl rfl ?_
    refine LL.val (R.len rfl rfl rfl rfl) rfl rfl rfl ?_
    refine LL.val (R.ltT rfl rfl rfl (by omega)) rfl rfl rfl ?_
    refine LL.val (R.move rfl rfl) rfl rfl rfl ?_
    refine LL.val (R.move rfl rfl) rfl rfl rfl ?_
    refine LL.val (R.move rfl rfl) rfl rfl rfl ?_
    refine LL.val (R.index rfl rfl rfl (I.ixS rfl (by omega))) rfl rfl rfl ?_
    refine LL.val (R.field rfl rfl (I.fld rfl)) rfl rfl rfl ?_
    refine LL.val (R.load rfl rfl (I.ld1 rfl (by assumption))) rfl rfl rfl ?_
    refine LL.val (R.move rfl rfl) rfl rfl rfl ?_
    refine LL.val (R.ltF rfl rfl rfl (by omega)) rfl rfl rfl ?_
    refine LL.val (R.pick rfl rfl rfl) rfl rfl rfl ?_
    refine LL.nilS ?_
    refine CC.no rfl ?_
    refine CC.exit ?_
    refine EE.thenX ?_
    refine EE.thenX ?_
    refine EE.inX ?_
    refine EE.thenN ?_
    refine CC.seq ?_
    refine CC.quietB (by kernel_rfl) (by kernel_rfl) (fun Wd2 bd1 zd3 => ?_)
    replace q := q.trans (bd1.mono q.size)
    replace c1 := cell_up c1 bd1
    refine SS.val (R.move rfl rfl) rfl rfl ?_
    refine SS.val (R.move rfl rfl) rfl rfl ?_
    refine SS.val (R.move rfl rfl) rfl rfl ?_
    refine SS.val (R.len rfl rfl rfl rfl) rfl rfl ?_
    refine SS.val (R.ltT rfl rfl rfl (by omega)) rfl rfl ?_
    refine SS.val (R.move rfl rfl) rfl rfl ?_
    refine SS.val (R.move rfl rfl) rfl rfl ?_
    refine SS.val (R.move rfl rfl) rfl rfl ?_
    refine SS.val (R.index rfl rfl rfl (I.ixS rfl (by omega))) rfl rfl ?_
    refine SS.val (R.field rfl rfl (I.fld rfl)) rfl rfl ?_
    refine SS.val (R.load rfl rfl (I.ld1 rfl (by assumption))) rfl rfl ?_
    refine SS.val (R.move rfl rfl) rfl rfl ?_
    refine SS.val (R.eqF rfl rfl rfl (by omega)) rfl rfl ?_
    refine SS.val (R.pick rfl rfl rfl) rfl rfl ?_
    refine SS.val (R.assign rfl rfl) rfl rfl ?_
    refine SS.val (R.assign rfl rfl) rfl rfl ?_
    refine SS.nilQ ?_
    refine EE.thenN ?_
    refine CC.ret ?_
    refine EE.ret _ rfl rfl ?_
    exact ⟨_, _, rfl, hR, q⟩
theorem fnd_set {left m k i : Nat} {s : List Nat} {b : Bool} (hs : Stl left s m) (h : fndP (pairP left s) k i b) : i = posN s k ∧ (b = true ↔ ∃ j, j < m ∧ keyN s j = k) := by
  rw [hs.pairP] at h
  obtain ⟨h1, h2, h3, h4⟩ := h
  rw [List.length_map, List.length_range] at h1
  obtain ⟨q1, q2, q3⟩ := posN_spec s k
  rw [hs.over] at q1 q3
  have g := fun j (hj : j < m) => range_map_get (f := prA s) hj
  have e : i = posN s k := by
    rcases Nat.lt_trichotomy i (posN s k) with e | e | e
    · have a := h3 _ (g i (by omega))
      have b : keyN s i < k := q2 i e
      have a : k ≤ keyN s i := a
      omega
    · exact e
    · have a := h2 _ _ e (g (posN s k) (by omega))
      have a : keyN s (posN s k) < k := a
      omega
  refine ⟨e, h4.trans ⟨fun ⟨p, hp⟩ => ?_, fun ⟨j, hj, hk⟩ => ?_⟩⟩
  · have hi : i < m := by have := (List.getElem?_eq_some_iff.1 hp).1; simpa using this
    rw [g i hi] at hp
    have e1 : prA s i = (k, p) := Option.some.inj hp
    exact ⟨i, hi, congrArg Prod.fst e1⟩
  · have e2 : i = j := by rw [e]; exact posN_key hs hj hk
    subst e2
    exact ⟨ptrN s i, by rw [g i hj, ← hk]; rfl⟩
open Classical in
noncomputable def ptrF (left : Nat) (s : List Nat) (p : Nat) : Nat :=
  if noRow left s.length then 2 else if p = 0 ∨ p = left then 2 else if ¬ setP left s then 190 else if ∃ j, j < overN s ∧ ptrN s j = p then 2 else 0
theorem mem_ptr {left m p : Nat} {s : List Nat} (hs : Stl left s m) : p ∈ (pairP left s).map (·.2) ↔ ∃ j, j < overN s ∧ ptrN s j = p := by
  rw [hs.pairP, hs.over, List.map_map]
  constructor
  · intro h
    obtain ⟨j, hj, e⟩ := List.mem_map.1 h
    exact ⟨j, List.mem_range.1 hj, e⟩
  · rintro ⟨j, hj, e⟩
    exact List.mem_map.2 ⟨j, List.mem_range.2 hj, e⟩
theorem dpointer_any (left n k p : Nat) (v : Value) (s : List Nat) (w : World) (hv : ReadsT uE 1 w v s) (hn : s.length = n) (h : n ≤ 1048576) : Calls Try.prog 50 #[.int .u64 (left : Int), v, .agg #[.int .u64 (k : Int), .int .u64 (p : Int)]] w fun e w' => e = .returned (.int .i64 (ptrF left s p : Int)) ∧ Below w.heap.size w w' := by
  have q := Below.refl w.heap.size w
  obtain ⟨a, c, rfl, hc⟩ := hv.form hn
  have hvF : ∀ X, Below w.heap.size w X → ReadsT uE 1 X (.slice a n c) s := fun X b => hv.up b
  clear hv
  unfold ptrF
  rw [hn]
  by_cases h1 : noRow left n
  · rw [if_pos h1]
    refine X.fn Try.func50 rfl (n := 43) rfl rfl ?_
    refine CC.seq ?_
    refine CC.region ?_
    refine LL.box [Value.int IntKind.u64 ↑k, Value.int IntKind.u64 ↑p] rfl rfl rfl rfl rfl ?_
    intro W2 g3 eg3 r4 z5 b1
    replace q := q.trans (b1.mono q.size)
    refine LL.val (R.assign rfl rfl) rfl rfl rfl ?_
    refine LL.nilS ?_
    refine CC.seq ?_
    refine CC.seq ?_
    refine CC.region ?_
    refine LL.val (R.move rfl rfl) rfl rfl rfl ?_
    refine LL.val (R.move rfl rfl) rfl rfl rfl ?_
    refine LL.call (R.call rfl rfl rfl) rfl rfl rfl (dright_F _ _ _ _ _ (by first | assumption | omega) (by first | assumption | omega)) ?_
    rintro e W' ⟨rfl, rfl⟩
    refine ⟨_, rfl, ?_⟩
    refine LL.val (R.not rfl rfl) rfl rfl rfl ?_
    refine LL.val (R.move rfl rfl) rfl rfl rfl ?_
    refine LL.skip rfl rfl ?_
    refine LL.skip rfl rfl ?_
    refine LL.skip rfl rfl ?_
    refine LL.val (R.pick rfl rfl rfl) rfl rfl rfl ?_
    refine LL.val (R.move rfl rfl) rfl rfl rfl ?_
    refine LL.skip rfl rfl ?_
    refine LL.skip rfl rfl ?_
    refine LL.skip rfl rfl ?_
    refine LL.skip rfl rfl ?_
    refine LL.val (R.pick rfl rfl rfl) rfl rfl rfl ?_
    refine LL.nilS ?_
    refine CC.yes rfl ?_
    refine CC.seq ?_
    refine CC.region ?_
    refine LL.val (R.assign rfl rfl) rfl rfl rfl ?_
    refine LL.nilS ?_
    refine CC.ret ?_
    refine EE.thenR ?_
    refine EE.ret _ rfl rfl ?_
    exact ⟨rfl, q⟩
  rw [if_neg h1]
  have hrow := noRow_not h1
  by_cases h2 : p = 0 ∨ p = left
  · rw [if_pos h2]
    rcases h2 with rfl | rfl
    · refine X.fn Try.func50 rfl (n := 43) rfl rfl ?_
      refine CC.seq ?_
      refine CC.region ?_
      refine LL.box [Value.int IntKind.u64 ↑k, Value.int IntKind.u64 ↑0] rfl rfl rfl rfl rfl ?_
      intro Wa2 ga3 ega3 ra4 za5 ba1
      replace q := q.trans (ba1.mono q.size)
      refine LL.val (R.assign rfl rfl) rfl rfl rfl ?_
      refine LL.nilS ?_
      refine CC.seq ?_
      refine CC.seq ?_
      refine CC.region ?_
      refine LL.val (R.move rfl rfl) rfl rfl rfl ?_
      refine LL.val (R.move rfl rfl) rfl rfl rfl ?_
      refine LL.call (R.call rfl rfl rfl) rfl rfl rfl (dright_T _ _ _ _ _ (by first | assumption | omega)) ?_
      rintro e W' ⟨rfl, rfl⟩
      refine ⟨_, rfl, ?_⟩
      refine LL.val (R.not rfl rfl) rfl rfl rfl ?_
      refine LL.val (R.move rfl rfl) rfl rfl rfl ?_
      refine LL.val (R.field rfl rfl (I.fld rfl)) rfl rfl rfl ?_
      refine LL.val (R.load rfl rfl (I.ld1 rfl (RowL.cell ra4 rfl))) rfl rfl rfl ?_
      refine LL.val (R.eqT rfl rfl rfl (by omega)) rfl rfl rfl ?_
      refine LL.val (R.pick rfl rfl rfl) rfl rfl rfl ?_
      refine LL.val (R.move rfl rfl) rfl rfl rfl ?_
      refine LL.skip rfl rfl ?_
      refine LL.skip rfl rfl ?_
      refine LL.skip rfl rfl ?_
      refine LL.skip rfl rfl ?_
      refine LL.val (R.pick rfl rfl rfl) rfl rfl rfl ?_
      refine LL.nilS ?_
      refine CC.yes rfl ?_
      refine CC.seq ?_
      refine CC.region ?_
      refine LL.val (R.assign rfl rfl) rfl rfl rfl ?_
      refine LL.nilS ?_
      refine CC.ret ?_
      refine EE.thenR ?_
      refine EE.ret _ rfl rfl ?_
      exact ⟨rfl, q⟩
    · refine X.fn Try.func50 rfl (n := 43) rfl rfl ?_
      refine CC.seq ?_
      refine CC.region ?_
      refine LL.box [Value.int IntKind.u64 ↑k, Value.int IntKind.u64 ↑p] rfl rfl rfl rfl rfl ?_
      intro Wb2 gb3 egb3 rb4 zb5 bb1
      replace q := q.trans (bb1.mono q.size)
      refine LL.val (R.assign rfl rfl) rfl rfl rfl ?_
      refine LL.nilS ?_
      refine CC.seq ?_
      refine CC.seq ?_
      refine CC.region ?_
      refine LL.val (R.move rfl rfl) rfl rfl rfl ?_
      refine LL.val (R.move rfl rfl) rfl rfl rfl ?_
      refine LL.call (R.call rfl rfl rfl) rfl rfl rfl (dright_T _ _ _ _ _ (by first | assumption | omega)) ?_
      rintro e W' ⟨rfl, rfl⟩
      refine ⟨_, rfl, ?_⟩
      refine LL.val (R.not rfl rfl) rfl rfl rfl ?_
      refine LL.val (R.move rfl rfl) rfl rfl rfl ?_
      refine LL.val (R.field rfl rfl (I.fld rfl)) rfl rfl rfl ?_
      refine LL.val (R.load rfl rfl (I.ld1 rfl (RowL.cell rb4 rfl))) rfl rfl rfl ?_
      refine LL.val (R.eqF rfl rfl rfl (by omega)) rfl rfl rfl ?_
      refine LL.val (R.pick rfl rfl rfl) rfl rfl rfl ?_
      refine LL.val (R.move rfl rfl) rfl rfl rfl ?_
      refine LL.val (R.field rfl rfl (I.fld rfl)) rfl rfl rfl ?_
      refine LL.val (R.load rfl rfl (I.ld1 rfl (RowL.cell rb4 rfl))) rfl rfl rfl ?_
      refine LL.val (R.move rfl rfl) rfl rfl rfl ?_
      refine LL.val (R.eqT rfl rfl rfl (by omega)) rfl rfl rfl ?_
      refine LL.val (R.pick rfl rfl rfl) rfl rfl rfl ?_
      refine LL.nilS ?_
      refine CC.yes rfl ?_
      refine CC.seq ?_
      refine CC.region ?_
      refine LL.val (R.assign rfl rfl) rfl rfl rfl ?_
      refine LL.nilS ?_
      refine CC.ret ?_
      refine EE.thenR ?_
      refine EE.ret _ rfl rfl ?_
      exact ⟨rfl, q⟩
  rw [if_neg h2]
  have hp : p ≠ 0 ∧ p ≠ left := ⟨fun e => h2 (.inl e), fun e => h2 (.inr e)⟩
  clear h2
  obtain ⟨ps, eps⟩ : ∃ ps, pairP left s = ps := ⟨_, rfl⟩
  have hpl : ps.length ≤ n / 2 := by rw [← eps, ← hn]; unfold pairP; rw [List.length_map]; exact pairS_len left s
  have hckT : setP left s → checkF left s = 0 := fun hs => by unfold checkF; rw [hn, if_neg h1, if_pos hs]
  have hckF : ¬ setP left s → checkF left s = 190 := fun hs => by unfold checkF; rw [hn, if_neg h1, if_neg hs]
  clear h1
  by_cases h3 : setP left s
  case neg =>
    have hck := hckF h3
    rw [if_pos h3]
    refine X.fn Try.func50 rfl (n := 43) rfl rfl ?_
    refine CC.seq ?_
    refine CC.region ?_
    refine LL.box [Value.int IntKind.u64 ↑k, Value.int IntKind.u64 ↑p] rfl rfl rfl rfl rfl ?_
    intro Wc16 gc17 egc17 rc18 zc19 bc15
    replace q := q.trans (bc15.mono q.size)
    refine LL.val (R.assign rfl rfl) rfl rfl rfl ?_
    refine LL.nilS ?_
    refine CC.seq ?_
    refine CC.seq ?_
    refine CC.region ?_
    refine LL.val (R.move rfl rfl) rfl rfl rfl ?_
    refine LL.val (R.move rfl rfl) rfl rfl rfl ?_
    refine LL.call (R.call rfl rfl rfl) rfl rfl rfl (dright_T _ _ _ _ _ (by first | assumption | omega)) ?_
    rintro e W' ⟨rfl, rfl⟩
    refine ⟨_, rfl, ?_⟩
    refine LL.val (R.not rfl rfl) rfl rfl rfl ?_
    refine LL.val (R.move rfl rfl) rfl rfl rfl ?_
    refine LL.val (R.field rfl rfl (I.fld rfl)) rfl rfl rfl ?_
    refine LL.val (R.load rfl rfl (I.ld1 rfl (RowL.cell rc18 rfl))) rfl rfl rfl ?_
    refine LL.val (R.eqF rfl rfl rfl (by omega)) rfl rfl rfl ?_
    refine LL.val (R.pick rfl rfl rfl) rfl rfl rfl ?_
    refine LL.val (R.move rfl rfl) rfl rfl rfl ?_
    refine LL.val (R.field rfl rfl (I.fld rfl)) rfl rfl rfl ?_
    refine LL.val (R.load rfl rfl (I.ld1 rfl (RowL.cell rc18 rfl))) rfl rfl rfl ?_
    refine LL.val (R.move rfl rfl) rfl rfl rfl ?_
    refine LL.val (R.eqF rfl rfl rfl (by omega)) rfl rfl rfl ?_
    refine LL.val (R.pick rfl rfl rfl) rfl rfl rfl ?_
    refine LL.nilS ?_
    refine CC.no rfl ?_
    refine CC.skip ?_
    refine EE.thenN ?_
    refine CC.seq ?_
    refine CC.region ?_
    refine LL.val (R.move rfl rfl) rfl rfl rfl ?_
    refine LL.val (R.move rfl rfl) rfl rfl rfl ?_
    have lc312 := rc18.lt
    (refine LL.call (R.call rfl rfl rfl) rfl rfl rfl (dcheck_any left n _ s _ (hvF _ q) hn h) ?_; rintro e Wc311 ⟨rfl, bc308⟩; refine ⟨_, rfl, ?_⟩; rw [hck])
    have zbc308 := bc308.size
    replace rc18 := rc18.up bc308
    replace bc15 := bc15.trans (bc308.mono bc15.size)
    replace q := q.trans (bc308.mono q.size)
    refine LL.val (R.assign rfl rfl) rfl rfl rfl ?_
    refine LL.nilS ?_
    refine CC.seq ?_
    refine CC.region ?_
    refine LL.val (R.move rfl rfl) rfl rfl rfl ?_
    refine LL.val (R.move rfl rfl) rfl rfl rfl ?_
    have lc376 := rc18.lt
    (refine LL.call (R.call rfl rfl rfl) rfl rfl rfl (dread_any left a n c s _ (hvF _ q) hn h) ?_; rintro e Wc375 ⟨v1, v2, rfl, o1, o2, hd, bc372⟩; refine ⟨_, rfl, ?_⟩; rw [eps] at o1; obtain ⟨aP, cP, rfl, hcP⟩ := (o1.reads prEnc).form rfl; have hpF : ∀ X, Below (Wc375).heap.size Wc375 X → ReadsT prE 2 X (.slice aP ps.length cP) ps := fun X b => (o1.reads prEnc).up b; have qP := Below.refl (Wc375).heap.size Wc375; clear o1 o2 hd)
    have zbc372 := bc372.size
    replace bc308 := bc308.trans (bc372.mono bc308.size)
    replace rc18 := rc18.up bc372
    replace bc15 := bc15.trans (bc372.mono bc15.size)
    replace q := q.trans (bc372.mono q.size)
    refine LL.val (R.move rfl rfl) rfl rfl rfl ?_
    refine LL.val (R.extract rfl rfl rfl) rfl rfl rfl ?_
    refine LL.val (R.extract rfl rfl rfl) rfl rfl rfl ?_
    refine LL.val (R.assign rfl rfl) rfl rfl rfl ?_
    refine LL.val (R.assign rfl rfl) rfl rfl rfl ?_
    refine LL.nilS ?_
    refine CC.seq ?_
    refine CC.seq ?_
    refine CC.region ?_
    refine LL.val (R.move rfl rfl) rfl rfl rfl ?_
    refine LL.val (R.eqF rfl rfl rfl (by omega)) rfl rfl rfl ?_
    refine LL.val (R.move rfl rfl) rfl rfl rfl ?_
    refine LL.skip rfl rfl ?_
    refine LL.skip rfl rfl ?_
    refine LL.skip rfl rfl ?_
    refine LL.skip rfl rfl ?_
    refine LL.val (R.pick rfl rfl rfl) rfl rfl rfl ?_
    refine LL.nilS ?_
    refine CC.no rfl ?_
    refine CC.skip ?_
    refine EE.thenN ?_
    refine CC.seq ?_
    refine CC.region ?_
    refine LL.val (R.move rfl rfl) rfl rfl rfl ?_
    refine LL.val (R.assign rfl rfl) rfl rfl rfl ?_
    refine LL.nilS ?_
    refine CC.ret ?_
    refine EE.ret _ rfl rfl ?_
    exact ⟨rfl, q⟩
  have hck := hckT h3
  rw [if_neg (fun h => h h3)]
  obtain ⟨m, hs⟩ := setP_iff.1 h3
  have hmp := mem_ptr (p := p) hs
  rw [eps] at hmp
  by_cases h4 : ∃ j, j < overN s ∧ ptrN s j = p
  · rw [if_pos h4]
    have hm := hmp.2 h4
    clear h4 hmp
    refine X.fn Try.func50 rfl (n := 43) rfl rfl ?_
    refine CC.seq ?_
    refine CC.region ?_
    refine LL.box [Value.int IntKind.u64 ↑k, Value.int IntKind.u64 ↑p] rfl rfl rfl rfl rfl ?_
    intro Wd16 gd17 egd17 rd18 zd19 bd15
    replace q := q.trans (bd15.mono q.size)
    refine LL.val (R.assign rfl rfl) rfl rfl rfl ?_
    refine LL.nilS ?_
    refine CC.seq ?_
    refine CC.seq ?_
    refine CC.region ?_
    refine LL.val (R.move rfl rfl) rfl rfl rfl ?_
    refine LL.val (R.move rfl rfl) rfl rfl rfl ?_
    refine LL.call (R.call rfl rfl rfl) rfl rfl rfl (dright_T _ _ _ _ _ (by first | assumption | omega)) ?_
    rintro e W' ⟨rfl, rfl⟩
    refine ⟨_, rfl, ?_⟩
    refine LL.val (R.not rfl rfl) rfl rfl rfl ?_
    refine LL.val (R.move rfl rfl) rfl rfl rfl ?_
    refine LL.val (R.field rfl rfl (I.fld rfl)) rfl rfl rfl ?_
    refine LL.val (R.load rfl rfl (I.ld1 rfl (RowL.cell rd18 rfl))) rfl rfl rfl ?_
    refine LL.val (R.eqF rfl rfl rfl (by omega)) rfl rfl rfl ?_
    refine LL.val (R.pick rfl rfl rfl) rfl rfl rfl ?_
    refine LL.val (R.move rfl rfl) rfl rfl rfl ?_
    refine LL.val (R.field rfl rfl (I.fld rfl)) rfl rfl rfl ?_
    refine LL.val (R.load rfl rfl (I.ld1 rfl (RowL.cell rd18 rfl))) rfl rfl rfl ?_
    refine LL.val (R.move rfl rfl) rfl rfl rfl ?_
    refine LL.val (R.eqF rfl rfl rfl (by omega)) rfl rfl rfl ?_
    refine LL.val (R.pick rfl rfl rfl) rfl rfl rfl ?_
    refine LL.nilS ?_
    refine CC.no rfl ?_
    refine CC.skip ?_
    refine EE.thenN ?_
    refine CC.seq ?_
    refine CC.region ?_
    refine LL.val (R.move rfl rfl) rfl rfl rfl ?_
    refine LL.val (R.move rfl rfl) rfl rfl rfl ?_
    have ld312 := rd18.lt
    (refine LL.call (R.call rfl rfl rfl) rfl rfl rfl (dcheck_any left n _ s _ (hvF _ q) hn h) ?_; rintro e Wd311 ⟨rfl, bd308⟩; refine ⟨_, rfl, ?_⟩; rw [hck])
    have zbd308 := bd308.size
    replace rd18 := rd18.up bd308
    replace bd15 := bd15.trans (bd308.mono bd15.size)
    replace q := q.trans (bd308.mono q.size)
    refine LL.val (R.assign rfl rfl) rfl rfl rfl ?_
    refine LL.nilS ?_
    refine CC.seq ?_
    refine CC.region ?_
    refine LL.val (R.move rfl rfl) rfl rfl rfl ?_
    refine LL.val (R.move rfl rfl) rfl rfl rfl ?_
    have ld376 := rd18.lt
    (refine LL.call (R.call rfl rfl rfl) rfl rfl rfl (dread_any left a n c s _ (hvF _ q) hn h) ?_; rintro e Wd375 ⟨v1, v2, rfl, o1, o2, hd, bd372⟩; refine ⟨_, rfl, ?_⟩; rw [eps] at o1; obtain ⟨aP, cP, rfl, hcP⟩ := (o1.reads prEnc).form rfl; have hpF : ∀ X, Below (Wd375).heap.size Wd375 X → ReadsT prE 2 X (.slice aP ps.length cP) ps := fun X b => (o1.reads prEnc).up b; have qP := Below.refl (Wd375).heap.size Wd375; clear o1 o2 hd)
    have zbd372 := bd372.size
    replace bd308 := bd308.trans (bd372.mono bd308.size)
    replace rd18 := rd18.up bd372
    replace bd15 := bd15.trans (bd372.mono bd15.size)
    replace q := q.trans (bd372.mono q.size)
    refine LL.val (R.move rfl rfl) rfl rfl rfl ?_
    refine LL.val (R.extract rfl rfl rfl) rfl rfl rfl ?_
    refine LL.val (R.extract rfl rfl rfl) rfl rfl rfl ?_
    refine LL.val (R.assign rfl rfl) rfl rfl rfl ?_
    refine LL.val (R.assign rfl rfl) rfl rfl rfl ?_
    refine LL.nilS ?_
    refine CC.seq ?_
    refine CC.seq ?_
    refine CC.region ?_
    refine LL.val (R.move rfl rfl) rfl rfl rfl ?_
    refine LL.val (R.eqT rfl rfl rfl (by omega)) rfl rfl rfl ?_
    refine LL.val (R.move rfl rfl) rfl rfl rfl ?_
    refine LL.val (R.move rfl rfl) rfl rfl rfl ?_
    refine LL.val (R.field rfl rfl (I.fld rfl)) rfl rfl rfl ?_
    refine LL.val (R.load rfl rfl (I.ld1 rfl (RowL.cell rd18 rfl))) rfl rfl rfl ?_
    (refine LL.call (R.call rfl rfl rfl) rfl rfl rfl (dhas_any _ ps p _ (hpF _ qP) (by omega)) ?_; rintro e W' ⟨rfl, rfl⟩; refine ⟨_, rfl, ?_⟩; rw [decide_eq_true hm])
    refine LL.val (R.pick rfl rfl rfl) rfl rfl rfl ?_
    refine LL.nilS ?_
    refine CC.yes rfl ?_
    refine CC.seq ?_
    refine CC.region ?_
    refine LL.val (R.assign rfl rfl) rfl rfl rfl ?_
    refine LL.nilS ?_
    refine CC.ret ?_
    refine EE.thenR ?_
    refine EE.ret _ rfl rfl ?_
    exact ⟨rfl, q⟩
  · rw [if_neg h4]
    have hm : p ∉ ps.map (·.2) := fun e => h4 (hmp.1 e)
    clear h4 hmp
    refine X.fn Try.func50 rfl (n := 43) rfl rfl ?_
    refine CC.seq ?_
    refine CC.region ?_
    refine LL.box [Value.int IntKind.u64 ↑k, Value.int IntKind.u64 ↑p] rfl rfl rfl rfl rfl ?_
    intro We16 ge17 ege17 re18 ze19 be15
    replace q := q.trans (be15.mono q.size)
    refine LL.val (R.assign rfl rfl) rfl rfl rfl ?_
    refine LL.nilS ?_
    refine CC.seq ?_
    refine CC.seq ?_
    refine CC.region ?_
    refine LL.val (R.move rfl rfl) rfl rfl rfl ?_
    refine LL.val (R.move rfl rfl) rfl rfl rfl ?_
    refine LL.call (R.call rfl rfl rfl) rfl rfl rfl (dright_T _ _ _ _ _ (by first | assumption | omega)) ?_
    rintro e W' ⟨rfl, rfl⟩
    refine ⟨_, rfl, ?_⟩
    refine LL.val (R.not rfl rfl) rfl rfl rfl ?_
    refine LL.val (R.move rfl rfl) rfl rfl rfl ?_
    refine LL.val (R.field rfl rfl (I.fld rfl)) rfl rfl rfl ?_
    refine LL.val (R.load rfl rfl (I.ld1 rfl (RowL.cell re18 rfl))) rfl rfl rfl ?_
    refine LL.val (R.eqF rfl rfl rfl (by omega)) rfl rfl rfl ?_
    refine LL.val (R.pick rfl rfl rfl) rfl rfl rfl ?_
    refine LL.val (R.move rfl rfl) rfl rfl rfl ?_
    refine LL.val (R.field rfl rfl (I.fld rfl)) rfl rfl rfl ?_
    refine LL.val (R.load rfl rfl (I.ld1 rfl (RowL.cell re18 rfl))) rfl rfl rfl ?_
    refine LL.val (R.move rfl rfl) rfl rfl rfl ?_
    refine LL.val (R.eqF rfl rfl rfl (by omega)) rfl rfl rfl ?_
    refine LL.val (R.pick rfl rfl rfl) rfl rfl rfl ?_
    refine LL.nilS ?_
    refine CC.no rfl ?_
    refine CC.skip ?_
    refine EE.thenN ?_
    refine CC.seq ?_
    refine CC.region ?_
    refine LL.val (R.move rfl rfl) rfl rfl rfl ?_
    refine LL.val (R.move rfl rfl) rfl rfl rfl ?_
    have le312 := re18.lt
    (refine LL.call (R.call rfl rfl rfl) rfl rfl rfl (dcheck_any left n _ s _ (hvF _ q) hn h) ?_; rintro e We311 ⟨rfl, be308⟩; refine ⟨_, rfl, ?_⟩; rw [hck])
    have zbe308 := be308.size
    replace re18 := re18.up be308
    replace be15 := be15.trans (be308.mono be15.size)
    replace q := q.trans (be308.mono q.size)
    refine LL.val (R.assign rfl rfl) rfl rfl rfl ?_
    refine LL.nilS ?_
    refine CC.seq ?_
    refine CC.region ?_
    refine LL.val (R.move rfl rfl) rfl rfl rfl ?_
    refine LL.val (R.move rfl rfl) rfl rfl rfl ?_
    have le376 := re18.lt
    (refine LL.call (R.call rfl rfl rfl) rfl rfl rfl (dread_any left a n c s _ (hvF _ q) hn h) ?_; rintro e We375 ⟨v1, v2, rfl, o1, o2, hd, be372⟩; refine ⟨_, rfl, ?_⟩; rw [eps] at o1; obtain ⟨aP, cP, rfl, hcP⟩ := (o1.reads prEnc).form rfl; have hpF : ∀ X, Below (We375).heap.size We375 X → ReadsT prE 2 X (.slice aP ps.length cP) ps := fun X b => (o1.reads prEnc).up b; have qP := Below.refl (We375).heap.size We375; clear o1 o2 hd)
    have zbe372 := be372.size
    replace be308 := be308.trans (be372.mono be308.size)
    replace re18 := re18.up be372
    replace be15 := be15.trans (be372.mono be15.size)
    replace q := q.trans (be372.mono q.size)
    refine LL.val (R.move rfl rfl) rfl rfl rfl ?_
    refine LL.val (R.extract rfl rfl rfl) rfl rfl rfl ?_
    refine LL.val (R.extract rfl rfl rfl) rfl rfl rfl ?_
    refine LL.val (R.assign rfl rfl) rfl rfl rfl ?_
    refine LL.val (R.assign rfl rfl) rfl rfl rfl ?_
    refine LL.nilS ?_
    refine CC.seq ?_
    refine CC.seq ?_
    refine CC.region ?_
    refine LL.val (R.move rfl rfl) rfl rfl rfl ?_
    refine LL.val (R.eqT rfl rfl rfl (by omega)) rfl rfl rfl ?_
    refine LL.val (R.move rfl rfl) rfl rfl rfl ?_
    refine LL.val (R.move rfl rfl) rfl rfl rfl ?_
    refine LL.val (R.field rfl rfl (I.fld rfl)) rfl rfl rfl ?_
    refine LL.val (R.load rfl rfl (I.ld1 rfl (RowL.cell re18 rfl))) rfl rfl rfl ?_
    (refine LL.call (R.call rfl rfl rfl) rfl rfl rfl (dhas_any _ ps p _ (hpF _ qP) (by omega)) ?_; rintro e W' ⟨rfl, rfl⟩; refine ⟨_, rfl, ?_⟩; rw [decide_eq_false hm])
    refine LL.val (R.pick rfl rfl rfl) rfl rfl rfl ?_
    refine LL.nilS ?_
    refine CC.no rfl ?_
    refine CC.skip ?_
    refine EE.thenN ?_
    refine CC.seq ?_
    refine CC.region ?_
    refine LL.val (R.move rfl rfl) rfl rfl rfl ?_
    refine LL.val (R.assign rfl rfl) rfl rfl rfl ?_
    refine LL.nilS ?_
    refine CC.ret ?_
    refine EE.ret _ rfl rfl ?_
    exact ⟨rfl, q⟩
end Go.Proofs.Ytfpcpnodcdgbdaa

/- slots: the document's shift. -/
namespace Go.Proofs.Ytfpcpnodcdgbdaa
set_option linter.unusedVariables false
set_option linter.unusedSimpArgs false
open Go.RowKit Go.Shelf
set_option maxRecDepth 100000
set_option maxHeartbeats 4000000
theorem dshift_any (n d m : Nat) (v : Value) (s : List Nat) (w : World) (hv : ReadsT uE 1 w v s) (hn : s.length = n) (h : n ≤ 56) (hd : d < m) (hm : 2 * m ≤ n) : Calls Try.prog 54 #[v, .int .i64 (d : Int), .int .i64 (m : Int)] w fun e w' => ∃ vo, e = .returned vo ∧ OwnsT pE 2 w' w.heap.size 59 vo (shL s d m) ∧ Below w.heap.size w w' := by
  have q := Below.refl w.heap.size w
  obtain ⟨a, c, rfl, hc⟩ := hv.form hn
  have hvF : ∀ X, Below w.heap.size w X → ReadsT uE 1 X (.slice a n c) s := fun X b => hv.up b
  clear hv
  refine X.fn Try.func54 rfl (n := 45) rfl rfl ?_
  refine CC.seq ?_
  refine CC.region ?_
  refine LL.val (R.assign rfl rfl) rfl rfl rfl ?_
  refine LL.nilS ?_
  refine CC.seq ?_
  refine CC.region ?_
  refine LL.val (R.assign rfl rfl) rfl rfl rfl ?_
  refine LL.nilS ?_
  refine CC.seq ?_
  refine CC.seq ?_
  refine CC.region ?_
  refine LL.val (R.move rfl rfl) rfl rfl rfl ?_
  refine LL.val (R.assign rfl rfl) rfl rfl rfl ?_
  refine LL.nilS ?_
  refine CC.block ?_
  refine CC.loop (α := Nat × Value) (fun p => [(0, .slice a n c), (2, .int .i64 (m : Int)), (7, p.2), (8, .int .i64 ((d + p.1 : Nat) : Int))])
    (fun p W => d + p.1 ≤ m - 1 ∧ Below w.heap.size w W ∧ OwnsT pE 2 W w.heap.size 59 p.2 (shK s d p.1)) (fun p => m - p.1)
    (0, .slice none 0 0) ⟨rfl, rfl, rfl, rfl, trivial⟩ ⟨by show d + 0 ≤ m - 1; omega, q, OwnsT.none _ _ _⟩ ?_
  clear q
  rintro ⟨k, vo⟩ W ⟨hk, q, o1⟩
  simp only at hk o1
  have yq := q.size
  show CC none Try.prog _ 45 [] (sl [(0, .slice a n c), (2, .int .i64 (m : Int)), (7, vo), (8, .int .i64 ((d + k : Nat) : Int))]) _ W
  have hl1 : (shK s d k).length ≤ 200 := by rw [shK_len]; omega
  obtain ⟨ps, eps⟩ : ∃ ps, shK s d k = ps := ⟨_, rfl⟩
  by_cases hlt2 : d + k ≤ m - 2 ∧ 2 ≤ m
  case neg =>
    obtain rfl : k = m - 1 - d := by omega
    have eL : shL s d m = ps ++ [(((2 * m - 1 : Nat) : Int), 0)] := by unfold shL; rw [eps, show 2 * (m - 1) + 1 = 2 * m - 1 by omega]
    rw [eps] at o1 hl1
    clear hlt2 eps
    obtain ⟨av1, cv1, rfl, hcv1⟩ := (o1.reads pEnc).form rfl
    refine CC.seq ?_
    refine CC.seq ?_
    refine CC.region ?_
    refine LL.val (R.move rfl rfl) rfl rfl rfl ?_
    refine LL.val (R.move rfl rfl) rfl rfl rfl ?_
    refine LL.val (R.subI rfl rfl rfl (by omega)) rfl rfl rfl ?_
    refine LL.val (R.leF rfl rfl rfl (by omega)) rfl rfl rfl ?_
    refine LL.nilS ?_
    refine CC.no rfl ?_
    refine CC.exit ?_
    refine EE.thenX ?_
    refine EE.thenX ?_
    refine EE.inX ?_
    refine EE.thenN ?_
    refine CC.seq ?_
    refine CC.region ?_
    refine LL.val (R.move rfl rfl) rfl rfl rfl ?_
    refine LL.val (R.move rfl rfl) rfl rfl rfl ?_
    refine LL.val (R.mulcN rfl rfl rfl rfl (by omega)) rfl rfl rfl ?_
    refine LL.val (R.subNc rfl rfl rfl rfl (by omega) (by omega)) rfl rfl rfl ?_
    refine LL.val (R.buildV rfl rfl (v := .agg #[Value.int IntKind.i64 ↑(2 * m - 1), Value.int IntKind.u64 0]) (fun _ => by kernel_rfl)) rfl rfl rfl ?_
    refine LL.lit (e := 59) [Value.int IntKind.i64 ↑(2 * m - 1), Value.int IntKind.u64 0] 1 rfl rfl (fun _ => by kernel_rfl) rfl rfl ?_
    intro Wa2 ga3 ega3 ra4 za5 ba1
    replace q := q.trans (ba1.mono q.size)
    replace o1 := o1.up ba1
    (refine LL.appendT2 rfl rfl pEnc ElPut o1 (us := [(((2 * m - 1 : Nat) : Int), 0)]) (RowL.readsT pEnc (ts := [(((2 * m - 1 : Nat) : Int), 0)]) (by assumption) 1 (Nat.le_refl _)) (by simp [maxLen]; omega) (by simp; omega) (by have := q.size; omega) rfl rfl ?_; intro v' Wa oa gra hva; replace q := q.grown gra q.size (fun g hg => by have := own_ge o1 g hg; omega); clear o1 hva gra; have o1 := oa; clear oa)
    refine LL.val (R.assign rfl rfl) rfl rfl rfl ?_
    refine LL.nilS ?_
    refine CC.ret ?_
    refine EE.ret _ rfl rfl ?_
    exact ⟨_, rfl, by rw [eL]; exact o1, q⟩
  obtain ⟨hlt2, hm2⟩ := hlt2
  obtain ⟨b, o, rfl, lb, m1⟩ := u_at (hvF _ (Below.refl _ _)) (keyN_at (s := s) (j := d + k + 1) (by omega))
  obtain ⟨b', o', ea', lb', m2⟩ := u_at (hvF _ (Below.refl _ _)) (ptrN_at (s := s) (j := d + k + 1) (by omega))
  cases ea'
  have c1 := m1 W q
  have c2 := m2 W q
  have e3 : shK s d (k + 1) = ps ++ [(((2 * (d + k) : Nat) : Int), keyN s (d + k + 1)), (((2 * (d + k) + 1 : Nat) : Int), ptrN s (d + k + 1))] := by rw [← eps]; rfl
  rw [eps] at o1 hl1
  clear eps
  have og1 := own_ge o1
  obtain ⟨av1, cv1, rfl, hcv1⟩ := (o1.reads pEnc).form rfl
  refine CC.seq ?_
  refine CC.seq ?_
  refine CC.region ?_
  refine LL.val (R.move rfl rfl) rfl rfl rfl ?_
  refine LL.val (R.move rfl rfl) rfl rfl rfl ?_
  refine LL.val (R.subNc rfl rfl rfl rfl (by omega) (by omega)) rfl rfl rfl ?_
  refine LL.val (R.leT rfl rfl rfl (by omega)) rfl rfl rfl ?_
  refine LL.nilS ?_
  refine CC.yes rfl ?_
  refine CC.skip ?_
  refine EE.thenN ?_
  refine CC.seq ?_
  refine CC.block ?_
  refine CC.freeZ (fun W_ j => j < W_.heap.size ∧ (j < w.heap.size)) (by kernel_rfl) (by kernel_rfl) (fun Wb2 bb1 zb3 => ?_)
  replace q := q.trans (bb1.mono q.size)
  replace c1 := cell_up c1 bb1
  replace c2 := cell_up c2 bb1
  replace o1 := o1.up bb1
  have hok : Kept (fun j => j < Wb2.heap.size ∧ (j < w.heap.size)) Wb2 Wb2 := Kept.refl _ _
  have fzc1 := fzCell (K := fun j => j < Wb2.heap.size ∧ (j < w.heap.size)) c1 ⟨World.block_lt_of_cell? _ _ c1, (by first | trivial | omega)⟩
  have fzc2 := fzCell (K := fun j => j < Wb2.heap.size ∧ (j < w.heap.size)) c2 ⟨World.block_lt_of_cell? _ _ c2, (by first | trivial | omega)⟩
  refine AA.pure 0 rfl hok (by kernel_rfl) (fun w' b' => R.move rfl rfl) rfl rfl ?_
  refine AA.pure 1 rfl hok (by kernel_rfl) (fun w' b' => R.move rfl rfl) rfl rfl ?_
  refine AA.pure 2 rfl hok (by kernel_rfl) (fun w' b' => R.mulcN rfl rfl rfl rfl (by omega)) rfl rfl ?_
  refine AA.pure 3 rfl hok (by kernel_rfl) (fun w' b' => R.move rfl rfl) rfl rfl ?_
  refine AA.pure 4 rfl hok (by kernel_rfl) (fun w' b' => R.move rfl rfl) rfl rfl ?_
  refine AA.pure 5 rfl hok (by kernel_rfl) (fun w' b' => R.mulcN rfl rfl rfl rfl (by omega)) rfl rfl ?_
  refine AA.pure 6 rfl hok (by kernel_rfl) (fun w' b' => R.addNc rfl rfl rfl rfl (by omega)) rfl rfl ?_
  refine AA.pure 7 rfl hok (by kernel_rfl) (fun w' b' => R.index rfl rfl rfl (I.ixS1 rfl (by omega))) rfl rfl ?_
  refine AA.pure 8 rfl hok (by kernel_rfl) (fun w' b' => R.load rfl rfl (I.ld1 rfl (cell_kept c1 b' (by refine ⟨?_, ?_⟩ <;> omega)))) rfl rfl ?_
  refine AA.pure 9 rfl hok (by kernel_rfl) (fun w' b' => R.buildV rfl rfl (v := .agg #[Value.int IntKind.i64 ↑(2 * (d + k)), Value.int IntKind.u64 ↑(keyN s (d + k + 1))]) (fun _ => by kernel_rfl)) rfl rfl ?_
  refine AA.pure 10 rfl hok (by kernel_rfl) (fun w' b' => R.move rfl rfl) rfl rfl ?_
  refine AA.pure 11 rfl hok (by kernel_rfl) (fun w' b' => R.mulcN rfl rfl rfl rfl (by omega)) rfl rfl ?_
  refine AA.pure 12 rfl hok (by kernel_rfl) (fun w' b' => R.addNc rfl rfl rfl rfl (by omega)) rfl rfl ?_
  refine AA.pure 13 rfl hok (by kernel_rfl) (fun w' b' => R.move rfl rfl) rfl rfl ?_
  refine AA.pure 14 rfl hok (by kernel_rfl) (fun w' b' => R.move rfl rfl) rfl rfl ?_
  refine AA.pure 15 rfl hok (by kernel_rfl) (fun w' b' => R.mulcN rfl rfl rfl rfl (by omega)) rfl rfl ?_
  refine AA.pure 16 rfl hok (by kernel_rfl) (fun w' b' => R.addNc rfl rfl rfl rfl (by omega)) rfl rfl ?_
  refine AA.pure 17 rfl hok (by kernel_rfl) (fun w' b' => R.index rfl rfl rfl (I.ixS1 rfl (by omega))) rfl rfl ?_
  refine AA.pure 18 rfl hok (by kernel_rfl) (fun w' b' => R.load rfl rfl (I.ld1 rfl (cell_kept c2 b' (by refine ⟨?_, ?_⟩ <;> omega)))) rfl rfl ?_
  refine AA.pure 19 rfl hok (by kernel_rfl) (fun w' b' => R.buildV rfl rfl (v := .agg #[Value.int IntKind.i64 ↑(2 * (d + k) + 1), Value.int IntKind.u64 ↑(ptrN s (d + k + 1))]) (fun _ => by kernel_rfl)) rfl rfl ?_
  refine AA.one 20 (by kernel_rfl) ?_
  refine ZR.lit (e := 59) [Value.int IntKind.i64 ↑(2 * (d + k)), Value.int IntKind.u64 ↑(keyN s (d + k + 1)), Value.int IntKind.i64 ↑(2 * (d + k) + 1), Value.int IntKind.u64 ↑(ptrN s (d + k + 1))] 2 rfl rfl rfl (fun _ => by kernel_rfl) rfl rfl ?_
  intro Wb5 gb6 egb6 rb7 zb8 bb4
  replace bb1 := bb1.trans (bb4.mono bb1.size)
  replace q := q.trans (bb4.mono q.size)
  replace c1 := cell_up c1 bb4
  replace c2 := cell_up c2 bb4
  replace o1 := o1.up bb4
  replace hok := hok.trans (bkept bb4 (fun j h => by have := h.1; have := hok.size; omega))
  have yb9 := hok.size
  refine ⟨hok, ?_⟩
  refine AA.one 21 (by kernel_rfl) ?_
  (refine SR.appendT2 rfl rfl rfl pEnc ElPut o1 (us := [(((2 * (d + k) : Nat) : Int), keyN s (d + k + 1)), (((2 * (d + k) + 1 : Nat) : Int), ptrN s (d + k + 1))]) (RowL.readsT pEnc (ts := [(((2 * (d + k) : Nat) : Int), keyN s (d + k + 1)), (((2 * (d + k) + 1 : Nat) : Int), ptrN s (d + k + 1))]) (by assumption) 2 (by simp)) (by simp [maxLen]; omega) (by simp; omega) (by omega) rfl rfl ?_; intro v' Wa oa gra hva; replace q := q.grown gra q.size (fun g hg => by have := own_ge o1 g hg; omega); replace hok := hok.trans (grown_kept gra (fun j h => by have := h.1; have := hok.size; omega) (fun j h e => by have := own_ge o1 j e; omega)); have hsz := gra.size; clear o1 hva gra; have o1 := oa; clear oa; refine ⟨hok, ?_⟩)
  refine AA.pure 22 rfl hok (by kernel_rfl) (fun w' b' => R.assign rfl rfl) rfl rfl ?_
  refine AA.done rfl ?_
  clear fzc1 fzc2 hok
  refine EE.inN ?_
  refine EE.thenN ?_
  refine CC.region ?_
  refine LL.val (R.move rfl rfl) rfl rfl rfl ?_
  refine LL.val (R.addNc rfl rfl rfl rfl (by omega)) rfl rfl rfl ?_
  refine LL.val (R.assign rfl rfl) rfl rfl rfl ?_
  refine LL.nil ?_
  exact EE.round (k + 1, _) ⟨rfl, rfl, rfl, rfl, trivial⟩ ⟨by show d + (k + 1) ≤ m - 1; omega, q, by rw [e3]; exact o1⟩ (by show m - (k + 1) < m - k; omega)
end Go.Proofs.Ytfpcpnodcdgbdaa

/- slots: the document's Take, Swap, Put (gen23.py writes this). -/
namespace Go.Proofs.Ytfpcpnodcdgbdaa
set_option linter.unusedVariables false
set_option linter.unusedSimpArgs false
open Go.RowKit Go.Shelf
set_option maxRecDepth 100000
set_option maxHeartbeats 4000000
theorem dtake_any (left n k : Nat) (v : Value) (s : List Nat) (w : World) (hv : ReadsT uE 1 w v s) (hn : s.length = n) (h : n ≤ 1048576) : Calls Try.prog 23 #[.int .u64 (left : Int), v, .int .u64 (k : Int)] w (chQ (takeF left s k) w) := by
  have q := Below.refl w.heap.size w
  obtain ⟨a, c, rfl, hc⟩ := hv.form hn
  have hvF : ∀ X, Below w.heap.size w X → ReadsT uE 1 X (.slice a n c) s := fun X b => hv.up b
  clear hv
  have hck := Eq.refl (checkF left s)
  conv at hck => { rhs; unfold checkF; rw [hn] }
  unfold takeF
  rw [hn]
  by_cases h1 : noRow left n
  · rw [if_pos h1] at hck
    rw [if_pos h1]
    refine X.fn Try.func23 rfl (n := 48) rfl rfl ?_
    refine CC.seq ?_
    refine CC.region ?_
    refine LL.val (R.assign rfl rfl) rfl rfl rfl ?_
    refine LL.val (R.assign rfl rfl) rfl rfl rfl ?_
    refine LL.nilS ?_
    refine CC.seq ?_
    refine CC.seq ?_
    refine CC.region ?_
    refine LL.val (R.move rfl rfl) rfl rfl rfl ?_
    refine LL.val (R.move rfl rfl) rfl rfl rfl ?_
    (refine LL.call (R.call rfl rfl rfl) rfl rfl rfl (dcheck_any left n _ s _ (hvF _ q) hn h) ?_; rintro e W32 ⟨rfl, b29⟩; refine ⟨_, rfl, ?_⟩; rw [hck])
    have zb29 := b29.size
    replace q := q.trans (b29.mono q.size)
    refine LL.val (R.assign rfl rfl) rfl rfl rfl ?_
    refine LL.nilS ?_
    refine CC.seq ?_
    refine CC.region ?_
    refine LL.val (R.move rfl rfl) rfl rfl rfl ?_
    refine LL.val (R.neT rfl rfl rfl (by omega)) rfl rfl rfl ?_
    refine LL.nilS ?_
    refine CC.yes rfl ?_
    refine CC.seq ?_
    refine CC.region ?_
    refine LL.val (R.move rfl rfl) rfl rfl rfl ?_
    refine LL.val (R.assign rfl rfl) rfl rfl rfl ?_
    refine LL.val (R.assign rfl rfl) rfl rfl rfl ?_
    refine LL.nilS ?_
    refine CC.ret ?_
    refine EE.thenR ?_
    refine EE.ret _ rfl rfl ?_
    exact ⟨_, rfl, OwnsT.none _ _ _, q⟩
  rw [if_neg h1] at hck
  rw [if_neg h1]
  have hrow := noRow_not h1
  clear h1
  by_cases h3 : setP left s
  case neg =>
    rw [if_neg h3] at hck
    rw [if_pos h3]
    refine X.fn Try.func23 rfl (n := 48) rfl rfl ?_
    refine CC.seq ?_
    refine CC.region ?_
    refine LL.val (R.assign rfl rfl) rfl rfl rfl ?_
    refine LL.val (R.assign rfl rfl) rfl rfl rfl ?_
    refine LL.nilS ?_
    refine CC.seq ?_
    refine CC.seq ?_
    refine CC.region ?_
    refine LL.val (R.move rfl rfl) rfl rfl rfl ?_
    refine LL.val (R.move rfl rfl) rfl rfl rfl ?_
    (refine LL.call (R.call rfl rfl rfl) rfl rfl rfl (dcheck_any left n _ s _ (hvF _ q) hn h) ?_; rintro e Wa32 ⟨rfl, ba29⟩; refine ⟨_, rfl, ?_⟩; rw [hck])
    have zba29 := ba29.size
    replace q := q.trans (ba29.mono q.size)
    refine LL.val (R.assign rfl rfl) rfl rfl rfl ?_
    refine LL.nilS ?_
    refine CC.seq ?_
    refine CC.region ?_
    refine LL.val (R.move rfl rfl) rfl rfl rfl ?_
    refine LL.val (R.neT rfl rfl rfl (by omega)) rfl rfl rfl ?_
    refine LL.nilS ?_
    refine CC.yes rfl ?_
    refine CC.seq ?_
    refine CC.region ?_
    refine LL.val (R.move rfl rfl) rfl rfl rfl ?_
    refine LL.val (R.assign rfl rfl) rfl rfl rfl ?_
    refine LL.val (R.assign rfl rfl) rfl rfl rfl ?_
    refine LL.nilS ?_
    refine CC.ret ?_
    refine EE.thenR ?_
    refine EE.ret _ rfl rfl ?_
    exact ⟨_, rfl, OwnsT.none _ _ _, q⟩
  rw [if_pos h3] at hck
  rw [if_neg (fun h => h h3)]
  obtain ⟨ps, eps⟩ : ∃ ps, pairP left s = ps := ⟨_, rfl⟩
  have hpl : ps.length ≤ n / 2 := by rw [← eps, ← hn]; unfold pairP; rw [List.length_map]; exact pairS_len left s
  obtain ⟨m, hs⟩ := setP_iff.1 h3
  have hfnd : ∀ i b, fndP ps k i b → i = posN s k ∧ (b = true ↔ ∃ j, j < m ∧ keyN s j = k) := fun i b hf => fnd_set hs (by rw [eps]; exact hf)
  have hpm : ps.length = m := by rw [← eps, hs.pairP, List.length_map, List.length_range]
  have hml := hs.lt
  rw [hn] at hml
  rw [hs.over]
  obtain rfl := hpm
  by_cases hyes : ∃ j, j < ps.length ∧ keyN s j = k
  case neg =>
    have hno := hyes
    clear hyes
    rw [if_neg hno]
    refine X.fn Try.func23 rfl (n := 48) rfl rfl ?_
    refine CC.seq ?_
    refine CC.region ?_
    refine LL.val (R.assign rfl rfl) rfl rfl rfl ?_
    refine LL.val (R.assign rfl rfl) rfl rfl rfl ?_
    refine LL.nilS ?_
    refine CC.seq ?_
    refine CC.seq ?_
    refine CC.region ?_
    refine LL.val (R.move rfl rfl) rfl rfl rfl ?_
    refine LL.val (R.move rfl rfl) rfl rfl rfl ?_
    (refine LL.call (R.call rfl rfl rfl) rfl rfl rfl (dcheck_any left n _ s _ (hvF _ q) hn h) ?_; rintro e Wb88 ⟨rfl, bb85⟩; refine ⟨_, rfl, ?_⟩; rw [hck])
    have zbb85 := bb85.size
    replace q := q.trans (bb85.mono q.size)
    refine LL.val (R.assign rfl rfl) rfl rfl rfl ?_
    refine LL.nilS ?_
    refine CC.seq ?_
    refine CC.region ?_
    refine LL.val (R.move rfl rfl) rfl rfl rfl ?_
    refine LL.val (R.neF rfl rfl rfl (by omega)) rfl rfl rfl ?_
    refine LL.nilS ?_
    refine CC.no rfl ?_
    refine CC.skip ?_
    refine EE.thenN ?_
    refine CC.seq ?_
    refine CC.region ?_
    refine LL.val (R.move rfl rfl) rfl rfl rfl ?_
    refine LL.val (R.move rfl rfl) rfl rfl rfl ?_
    (refine LL.call (R.call rfl rfl rfl) rfl rfl rfl (dread_any left a n c s _ (hvF _ q) hn h) ?_; rintro e Wb207 ⟨v1, v2, rfl, o1, o2, hd, bb204⟩; refine ⟨_, rfl, ?_⟩; rw [eps] at o1; obtain ⟨aP, cP, rfl, hcP⟩ := (o1.reads prEnc).form rfl; have hpF : ∀ X, Below (Wb207).heap.size Wb207 X → ReadsT prE 2 X (.slice aP ps.length cP) ps := fun X b => (o1.reads prEnc).up b; have qP := Below.refl (Wb207).heap.size Wb207; clear o1 o2 hd)
    have zbb204 := bb204.size
    replace bb85 := bb85.trans (bb204.mono bb85.size)
    replace q := q.trans (bb204.mono q.size)
    refine LL.val (R.move rfl rfl) rfl rfl rfl ?_
    refine LL.val (R.extract rfl rfl rfl) rfl rfl rfl ?_
    refine LL.val (R.extract rfl rfl rfl) rfl rfl rfl ?_
    refine LL.val (R.assign rfl rfl) rfl rfl rfl ?_
    refine LL.val (R.assign rfl rfl) rfl rfl rfl ?_
    refine LL.nilS ?_
    refine CC.seq ?_
    refine CC.region ?_
    refine LL.val (R.move rfl rfl) rfl rfl rfl ?_
    refine LL.val (R.move rfl rfl) rfl rfl rfl ?_
    (refine LL.call (R.call rfl rfl rfl) rfl rfl rfl (dfind_any _ ps k _ (hpF _ qP) (by omega)) ?_; rintro e Wb375 ⟨fi, fb, rfl, hfn, bb372⟩; obtain ⟨rfl, hfb⟩ := hfnd fi fb hfn; obtain rfl : fb = false := (by revert hfb; cases fb with | false => exact fun _ => rfl | true => exact fun h => absurd (h.1 rfl) hno); clear hfn hfb; refine ⟨_, rfl, ?_⟩)
    have zbb372 := bb372.size
    replace bb204 := bb204.trans (bb372.mono bb204.size)
    replace qP := qP.trans (bb372.mono qP.size)
    replace bb85 := bb85.trans (bb372.mono bb85.size)
    replace q := q.trans (bb372.mono q.size)
    refine LL.val (R.move rfl rfl) rfl rfl rfl ?_
    refine LL.val (R.extract rfl rfl rfl) rfl rfl rfl ?_
    refine LL.val (R.extract rfl rfl rfl) rfl rfl rfl ?_
    refine LL.val (R.assign rfl rfl) rfl rfl rfl ?_
    refine LL.val (R.assign rfl rfl) rfl rfl rfl ?_
    refine LL.nilS ?_
    refine CC.seq ?_
    refine CC.seq ?_
    refine CC.region ?_
    refine LL.val (R.move rfl rfl) rfl rfl rfl ?_
    refine LL.val (R.not rfl rfl) rfl rfl rfl ?_
    refine LL.nilS ?_
    refine CC.yes rfl ?_
    refine CC.seq ?_
    refine CC.region ?_
    refine LL.val (R.assign rfl rfl) rfl rfl rfl ?_
    refine LL.val (R.assign rfl rfl) rfl rfl rfl ?_
    refine LL.nilS ?_
    refine CC.ret ?_
    refine EE.thenR ?_
    refine EE.ret _ rfl rfl ?_
    exact ⟨_, rfl, OwnsT.none _ _ _, q⟩
  rw [if_pos hyes]
  have hpos : posN s k < ps.length := by obtain ⟨j, hj, hk⟩ := hyes; rw [posN_key hs hj hk]; exact hj
  have hshl := shL_len s (posN s k) _ hpos
  unfold takeL
  refine X.fn Try.func23 rfl (n := 48) rfl rfl ?_
  refine CC.seq ?_
  refine CC.region ?_
  refine LL.val (R.assign rfl rfl) rfl rfl rfl ?_
  refine LL.val (R.assign rfl rfl) rfl rfl rfl ?_
  refine LL.nilS ?_
  refine CC.seq ?_
  refine CC.seq ?_
  refine CC.region ?_
  refine LL.val (R.move rfl rfl) rfl rfl rfl ?_
  refine LL.val (R.move rfl rfl) rfl rfl rfl ?_
  (refine LL.call (R.call rfl rfl rfl) rfl rfl rfl (dcheck_any left n _ s _ (hvF _ q) hn h) ?_; rintro e Wc116 ⟨rfl, bc113⟩; refine ⟨_, rfl, ?_⟩; rw [hck])
  have zbc113 := bc113.size
  replace q := q.trans (bc113.mono q.size)
  refine LL.val (R.assign rfl rfl) rfl rfl rfl ?_
  refine LL.nilS ?_
  refine CC.seq ?_
  refine CC.region ?_
  refine LL.val (R.move rfl rfl) rfl rfl rfl ?_
  refine LL.val (R.neF rfl rfl rfl (by omega)) rfl rfl rfl ?_
  refine LL.nilS ?_
  refine CC.no rfl ?_
  refine CC.skip ?_
  refine EE.thenN ?_
  refine CC.seq ?_
  refine CC.region ?_
  refine LL.val (R.move rfl rfl) rfl rfl rfl ?_
  refine LL.val (R.move rfl rfl) rfl rfl rfl ?_
  (refine LL.call (R.call rfl rfl rfl) rfl rfl rfl (dread_any left a n c s _ (hvF _ q) hn h) ?_; rintro e Wc270 ⟨v1, v2, rfl, o1, o2, hd, bc267⟩; refine ⟨_, rfl, ?_⟩; rw [eps] at o1; obtain ⟨aP, cP, rfl, hcP⟩ := (o1.reads prEnc).form rfl; have hpF : ∀ X, Below (Wc270).heap.size Wc270 X → ReadsT prE 2 X (.slice aP ps.length cP) ps := fun X b => (o1.reads prEnc).up b; have qP := Below.refl (Wc270).heap.size Wc270; clear o1 o2 hd)
  have zbc267 := bc267.size
  replace bc113 := bc113.trans (bc267.mono bc113.size)
  replace q := q.trans (bc267.mono q.size)
  refine LL.val (R.move rfl rfl) rfl rfl rfl ?_
  refine LL.val (R.extract rfl rfl rfl) rfl rfl rfl ?_
  refine LL.val (R.extract rfl rfl rfl) rfl rfl rfl ?_
  refine LL.val (R.assign rfl rfl) rfl rfl rfl ?_
  refine LL.val (R.assign rfl rfl) rfl rfl rfl ?_
  refine LL.nilS ?_
  refine CC.seq ?_
  refine CC.region ?_
  refine LL.val (R.move rfl rfl) rfl rfl rfl ?_
  refine LL.val (R.move rfl rfl) rfl rfl rfl ?_
  (refine LL.call (R.call rfl rfl rfl) rfl rfl rfl (dfind_any _ ps k _ (hpF _ qP) (by omega)) ?_; rintro e Wc487 ⟨fi, fb, rfl, hfn, bc484⟩; obtain ⟨rfl, hfb⟩ := hfnd fi fb hfn; obtain rfl : fb = true := (by revert hfb; cases fb with | false => exact fun h => absurd (h.2 hyes) (by decide) | true => exact fun _ => rfl); clear hfn hfb; refine ⟨_, rfl, ?_⟩)
  have zbc484 := bc484.size
  replace bc267 := bc267.trans (bc484.mono bc267.size)
  replace qP := qP.trans (bc484.mono qP.size)
  replace bc113 := bc113.trans (bc484.mono bc113.size)
  replace q := q.trans (bc484.mono q.size)
  refine LL.val (R.move rfl rfl) rfl rfl rfl ?_
  refine LL.val (R.extract rfl rfl rfl) rfl rfl rfl ?_
  refine LL.val (R.extract rfl rfl rfl) rfl rfl rfl ?_
  refine LL.val (R.assign rfl rfl) rfl rfl rfl ?_
  refine LL.val (R.assign rfl rfl) rfl rfl rfl ?_
  refine LL.nilS ?_
  refine CC.seq ?_
  refine CC.seq ?_
  refine CC.region ?_
  refine LL.val (R.move rfl rfl) rfl rfl rfl ?_
  refine LL.val (R.not rfl rfl) rfl rfl rfl ?_
  refine LL.nilS ?_
  refine CC.no rfl ?_
  refine CC.skip ?_
  refine EE.thenN ?_
  refine CC.seq ?_
  refine CC.region ?_
  refine LL.val (R.move rfl rfl) rfl rfl rfl ?_
  refine LL.val (R.mulcN rfl rfl rfl rfl (by omega)) rfl rfl rfl ?_
  refine LL.val (R.addNc rfl rfl rfl rfl (by omega)) rfl rfl rfl ?_
  refine LL.val (R.move rfl rfl) rfl rfl rfl ?_
  refine LL.val (R.move rfl rfl) rfl rfl rfl ?_
  refine LL.val (R.move rfl rfl) rfl rfl rfl ?_
  (refine LL.call (R.call rfl rfl rfl) rfl rfl rfl (dahead_any left a n c (posN s k) s _ (hvF _ q) hn (by omega) (by omega)) ?_; rintro e W' ⟨rfl, rfl⟩; refine ⟨_, rfl, ?_⟩)
  refine LL.val (R.buildV rfl rfl (v := .agg #[Value.int IntKind.i64 ↑(2 * posN s k + 1), Value.int IntKind.u64 ↑(aheadN left s (posN s k))]) (fun _ => by kernel_rfl)) rfl rfl rfl ?_
  refine LL.lit (e := 59) [Value.int IntKind.i64 ↑(2 * posN s k + 1), Value.int IntKind.u64 ↑(aheadN left s (posN s k))] 1 rfl rfl (fun _ => by kernel_rfl) rfl rfl ?_
  intro Wc933 gc934 egc934 rc935 zc936 bc932
  replace bc484 := bc484.trans (bc932.mono bc484.size)
  replace bc267 := bc267.trans (bc932.mono bc267.size)
  replace qP := qP.trans (bc932.mono qP.size)
  replace bc113 := bc113.trans (bc932.mono bc113.size)
  replace q := q.trans (bc932.mono q.size)
  refine LL.val (R.move rfl rfl) rfl rfl rfl ?_
  refine LL.val (R.move rfl rfl) rfl rfl rfl ?_
  refine LL.val (R.move rfl rfl) rfl rfl rfl ?_
  refine LL.val (R.len rfl rfl rfl rfl) rfl rfl rfl ?_
  have lc1093 := rc935.lt
  (refine LL.call (R.call rfl rfl rfl) rfl rfl rfl (dshift_any n (posN s k) ps.length _ s _ (hvF _ q) hn (by omega) hpos (by omega)) ?_; rintro e Wc1092 ⟨v2, rfl, o2, bc1089⟩; refine ⟨_, rfl, ?_⟩)
  have zbc1089 := bc1089.size
  replace rc935 := rc935.up bc1089
  replace bc932 := bc932.trans (bc1089.mono bc932.size)
  replace bc484 := bc484.trans (bc1089.mono bc484.size)
  replace bc267 := bc267.trans (bc1089.mono bc267.size)
  replace qP := qP.trans (bc1089.mono qP.size)
  replace bc113 := bc113.trans (bc1089.mono bc113.size)
  replace q := q.trans (bc1089.mono q.size)
  (refine LL.appendT2 rfl rfl pEnc ElPut (RowL.ownsT (base := w.heap.size) pEnc (ts := [(((2 * posN s k + 1 : Nat) : Int), aheadN left s (posN s k))]) (by assumption) (by have := q.size; omega) (by first | simp [maxLen])) (us := shL s (posN s k) ps.length) (o2.reads pEnc) (by first | (simp [maxLen]; omega)) (by first | (simp; omega)) (by have := q.size; omega) rfl rfl ?_; intro v' Wa oa gra hva; replace q := q.grown gra q.size (fun g hg => by cases hg; have := q.size; dsimp only; omega); clear o2 hva gra; have o1 := oa; clear oa)
  refine LL.val (R.assign rfl rfl) rfl rfl rfl ?_
  refine LL.val (R.assign rfl rfl) rfl rfl rfl ?_
  refine LL.nilS ?_
  refine CC.ret ?_
  refine EE.ret _ rfl rfl ?_
  exact ⟨_, rfl, o1, q⟩
theorem dswap_any (left n k p : Nat) (v : Value) (s : List Nat) (w : World) (hv : ReadsT uE 1 w v s) (hn : s.length = n) (h : n ≤ 1048576) : Calls Try.prog 25 #[.int .u64 (left : Int), v, .agg #[.int .u64 (k : Int), .int .u64 (p : Int)]] w (chQ (swapF left s k p) w) := by
  have q := Below.refl w.heap.size w
  obtain ⟨a, c, rfl, hc⟩ := hv.form hn
  have hvF : ∀ X, Below w.heap.size w X → ReadsT uE 1 X (.slice a n c) s := fun X b => hv.up b
  clear hv
  have hck := Eq.refl (ptrF left s p)
  conv at hck => { rhs; unfold ptrF; rw [hn] }
  unfold swapF
  rw [hn]
  by_cases h1 : noRow left n
  · rw [if_pos h1] at hck
    rw [if_pos h1]
    clear h1
    refine X.fn Try.func25 rfl (n := 42) rfl rfl ?_
    refine CC.seq ?_
    refine CC.region ?_
    refine LL.box [Value.int IntKind.u64 ↑k, Value.int IntKind.u64 ↑p] rfl rfl rfl rfl rfl ?_
    intro W9 g10 eg10 r11 z12 b8
    replace q := q.trans (b8.mono q.size)
    refine LL.val (R.assign rfl rfl) rfl rfl rfl ?_
    refine LL.val (R.assign rfl rfl) rfl rfl rfl ?_
    refine LL.nilS ?_
    refine CC.seq ?_
    refine CC.seq ?_
    refine CC.region ?_
    refine LL.val (R.move rfl rfl) rfl rfl rfl ?_
    refine LL.val (R.move rfl rfl) rfl rfl rfl ?_
    refine LL.val (R.load rfl rfl (I.ldNc (vs := [Value.int IntKind.u64 ↑k, Value.int IntKind.u64 ↑p]) (RowL.cells r11 rfl) (by rfl) (by rfl))) rfl rfl rfl ?_
    have l57 := r11.lt
    (refine LL.call (R.call rfl rfl rfl) rfl rfl rfl (dpointer_any left n k p _ s _ (hvF _ q) hn h) ?_; rintro e W56 ⟨rfl, b53⟩; refine ⟨_, rfl, ?_⟩; rw [hck])
    have zb53 := b53.size
    replace r11 := r11.up b53
    replace b8 := b8.trans (b53.mono b8.size)
    replace q := q.trans (b53.mono q.size)
    refine LL.val (R.assign rfl rfl) rfl rfl rfl ?_
    refine LL.nilS ?_
    refine CC.seq ?_
    refine CC.region ?_
    refine LL.val (R.move rfl rfl) rfl rfl rfl ?_
    refine LL.val (R.neT rfl rfl rfl (by omega)) rfl rfl rfl ?_
    refine LL.nilS ?_
    refine CC.yes rfl ?_
    refine CC.seq ?_
    refine CC.region ?_
    refine LL.val (R.move rfl rfl) rfl rfl rfl ?_
    refine LL.val (R.assign rfl rfl) rfl rfl rfl ?_
    refine LL.val (R.assign rfl rfl) rfl rfl rfl ?_
    refine LL.nilS ?_
    refine CC.ret ?_
    refine EE.thenR ?_
    refine EE.ret _ rfl rfl ?_
    exact ⟨_, rfl, OwnsT.none _ _ _, q⟩
  rw [if_neg h1] at hck
  rw [if_neg h1]
  have hrow := noRow_not h1
  clear h1
  by_cases h2 : p = 0 ∨ p = left
  · rw [if_pos h2] at hck
    rw [if_pos h2]
    clear h2
    refine X.fn Try.func25 rfl (n := 42) rfl rfl ?_
    refine CC.seq ?_
    refine CC.region ?_
    refine LL.box [Value.int IntKind.u64 ↑k, Value.int IntKind.u64 ↑p] rfl rfl rfl rfl rfl ?_
    intro Wa9 ga10 ega10 ra11 za12 ba8
    replace q := q.trans (ba8.mono q.size)
    refine LL.val (R.assign rfl rfl) rfl rfl rfl ?_
    refine LL.val (R.assign rfl rfl) rfl rfl rfl ?_
    refine LL.nilS ?_
    refine CC.seq ?_
    refine CC.seq ?_
    refine CC.region ?_
    refine LL.val (R.move rfl rfl) rfl rfl rfl ?_
    refine LL.val (R.move rfl rfl) rfl rfl rfl ?_
    refine LL.val (R.load rfl rfl (I.ldNc (vs := [Value.int IntKind.u64 ↑k, Value.int IntKind.u64 ↑p]) (RowL.cells ra11 rfl) (by rfl) (by rfl))) rfl rfl rfl ?_
    have la57 := ra11.lt
    (refine LL.call (R.call rfl rfl rfl) rfl rfl rfl (dpointer_any left n k p _ s _ (hvF _ q) hn h) ?_; rintro e Wa56 ⟨rfl, ba53⟩; refine ⟨_, rfl, ?_⟩; rw [hck])
    have zba53 := ba53.size
    replace ra11 := ra11.up ba53
    replace ba8 := ba8.trans (ba53.mono ba8.size)
    replace q := q.trans (ba53.mono q.size)
    refine LL.val (R.assign rfl rfl) rfl rfl rfl ?_
    refine LL.nilS ?_
    refine CC.seq ?_
    refine CC.region ?_
    refine LL.val (R.move rfl rfl) rfl rfl rfl ?_
    refine LL.val (R.neT rfl rfl rfl (by omega)) rfl rfl rfl ?_
    refine LL.nilS ?_
    refine CC.yes rfl ?_
    refine CC.seq ?_
    refine CC.region ?_
    refine LL.val (R.move rfl rfl) rfl rfl rfl ?_
    refine LL.val (R.assign rfl rfl) rfl rfl rfl ?_
    refine LL.val (R.assign rfl rfl) rfl rfl rfl ?_
    refine LL.nilS ?_
    refine CC.ret ?_
    refine EE.thenR ?_
    refine EE.ret _ rfl rfl ?_
    exact ⟨_, rfl, OwnsT.none _ _ _, q⟩
  rw [if_neg h2] at hck
  rw [if_neg h2]
  clear h2
  by_cases h3 : setP left s
  case neg =>
    rw [if_pos h3] at hck
    rw [if_pos h3]
    clear h3
    refine X.fn Try.func25 rfl (n := 42) rfl rfl ?_
    refine CC.seq ?_
    refine CC.region ?_
    refine LL.box [Value.int IntKind.u64 ↑k, Value.int IntKind.u64 ↑p] rfl rfl rfl rfl rfl ?_
    intro Wb9 gb10 egb10 rb11 zb12 bb8
    replace q := q.trans (bb8.mono q.size)
    refine LL.val (R.assign rfl rfl) rfl rfl rfl ?_
    refine LL.val (R.assign rfl rfl) rfl rfl rfl ?_
    refine LL.nilS ?_
    refine CC.seq ?_
    refine CC.seq ?_
    refine CC.region ?_
    refine LL.val (R.move rfl rfl) rfl rfl rfl ?_
    refine LL.val (R.move rfl rfl) rfl rfl rfl ?_
    refine LL.val (R.load rfl rfl (I.ldNc (vs := [Value.int IntKind.u64 ↑k, Value.int IntKind.u64 ↑p]) (RowL.cells rb11 rfl) (by rfl) (by rfl))) rfl rfl rfl ?_
    have lb57 := rb11.lt
    (refine LL.call (R.call rfl rfl rfl) rfl rfl rfl (dpointer_any left n k p _ s _ (hvF _ q) hn h) ?_; rintro e Wb56 ⟨rfl, bb53⟩; refine ⟨_, rfl, ?_⟩; rw [hck])
    have zbb53 := bb53.size
    replace rb11 := rb11.up bb53
    replace bb8 := bb8.trans (bb53.mono bb8.size)
    replace q := q.trans (bb53.mono q.size)
    refine LL.val (R.assign rfl rfl) rfl rfl rfl ?_
    refine LL.nilS ?_
    refine CC.seq ?_
    refine CC.region ?_
    refine LL.val (R.move rfl rfl) rfl rfl rfl ?_
    refine LL.val (R.neT rfl rfl rfl (by omega)) rfl rfl rfl ?_
    refine LL.nilS ?_
    refine CC.yes rfl ?_
    refine CC.seq ?_
    refine CC.region ?_
    refine LL.val (R.move rfl rfl) rfl rfl rfl ?_
    refine LL.val (R.assign rfl rfl) rfl rfl rfl ?_
    refine LL.val (R.assign rfl rfl) rfl rfl rfl ?_
    refine LL.nilS ?_
    refine CC.ret ?_
    refine EE.thenR ?_
    refine EE.ret _ rfl rfl ?_
    exact ⟨_, rfl, OwnsT.none _ _ _, q⟩
  rw [if_neg (fun h => h h3)] at hck
  rw [if_neg (fun h => h h3)]
  by_cases h4 : ∃ j, j < overN s ∧ ptrN s j = p
  · rw [if_pos h4] at hck
    rw [if_pos h4]
    clear h3 h4
    refine X.fn Try.func25 rfl (n := 42) rfl rfl ?_
    refine CC.seq ?_
    refine CC.region ?_
    refine LL.box [Value.int IntKind.u64 ↑k, Value.int IntKind.u64 ↑p] rfl rfl rfl rfl rfl ?_
    intro Wc9 gc10 egc10 rc11 zc12 bc8
    replace q := q.trans (bc8.mono q.size)
    refine LL.val (R.assign rfl rfl) rfl rfl rfl ?_
    refine LL.val (R.assign rfl rfl) rfl rfl rfl ?_
    refine LL.nilS ?_
    refine CC.seq ?_
    refine CC.seq ?_
    refine CC.region ?_
    refine LL.val (R.move rfl rfl) rfl rfl rfl ?_
    refine LL.val (R.move rfl rfl) rfl rfl rfl ?_
    refine LL.val (R.load rfl rfl (I.ldNc (vs := [Value.int IntKind.u64 ↑k, Value.int IntKind.u64 ↑p]) (RowL.cells rc11 rfl) (by rfl) (by rfl))) rfl rfl rfl ?_
    have lc57 := rc11.lt
    (refine LL.call (R.call rfl rfl rfl) rfl rfl rfl (dpointer_any left n k p _ s _ (hvF _ q) hn h) ?_; rintro e Wc56 ⟨rfl, bc53⟩; refine ⟨_, rfl, ?_⟩; rw [hck])
    have zbc53 := bc53.size
    replace rc11 := rc11.up bc53
    replace bc8 := bc8.trans (bc53.mono bc8.size)
    replace q := q.trans (bc53.mono q.size)
    refine LL.val (R.assign rfl rfl) rfl rfl rfl ?_
    refine LL.nilS ?_
    refine CC.seq ?_
    refine CC.region ?_
    refine LL.val (R.move rfl rfl) rfl rfl rfl ?_
    refine LL.val (R.neT rfl rfl rfl (by omega)) rfl rfl rfl ?_
    refine LL.nilS ?_
    refine CC.yes rfl ?_
    refine CC.seq ?_
    refine CC.region ?_
    refine LL.val (R.move rfl rfl) rfl rfl rfl ?_
    refine LL.val (R.assign rfl rfl) rfl rfl rfl ?_
    refine LL.val (R.assign rfl rfl) rfl rfl rfl ?_
    refine LL.nilS ?_
    refine CC.ret ?_
    refine EE.thenR ?_
    refine EE.ret _ rfl rfl ?_
    exact ⟨_, rfl, OwnsT.none _ _ _, q⟩
  rw [if_neg h4] at hck
  rw [if_neg h4]
  clear h4
  obtain ⟨ps, eps⟩ : ∃ ps, pairP left s = ps := ⟨_, rfl⟩
  have hpl : ps.length ≤ n / 2 := by rw [← eps, ← hn]; unfold pairP; rw [List.length_map]; exact pairS_len left s
  obtain ⟨m, hs⟩ := setP_iff.1 h3
  have hfnd : ∀ i b, fndP ps k i b → i = posN s k ∧ (b = true ↔ ∃ j, j < m ∧ keyN s j = k) := fun i b hf => fnd_set hs (by rw [eps]; exact hf)
  have hpm : ps.length = m := by rw [← eps, hs.pairP, List.length_map, List.length_range]
  have hml := hs.lt
  rw [hn] at hml
  rw [hs.over]
  obtain rfl := hpm
  by_cases hyes : ∃ j, j < ps.length ∧ keyN s j = k
  case neg =>
    have hno := hyes
    clear hyes
    rw [if_neg hno]
    refine X.fn Try.func25 rfl (n := 42) rfl rfl ?_
    refine CC.seq ?_
    refine CC.region ?_
    refine LL.box [Value.int IntKind.u64 ↑k, Value.int IntKind.u64 ↑p] rfl rfl rfl rfl rfl ?_
    intro Wd23 gd24 egd24 rd25 zd26 bd22
    replace q := q.trans (bd22.mono q.size)
    refine LL.val (R.assign rfl rfl) rfl rfl rfl ?_
    refine LL.val (R.assign rfl rfl) rfl rfl rfl ?_
    refine LL.nilS ?_
    refine CC.seq ?_
    refine CC.seq ?_
    refine CC.region ?_
    refine LL.val (R.move rfl rfl) rfl rfl rfl ?_
    refine LL.val (R.move rfl rfl) rfl rfl rfl ?_
    refine LL.val (R.load rfl rfl (I.ldNc (vs := [Value.int IntKind.u64 ↑k, Value.int IntKind.u64 ↑p]) (RowL.cells rd25 rfl) (by rfl) (by rfl))) rfl rfl rfl ?_
    have ld151 := rd25.lt
    (refine LL.call (R.call rfl rfl rfl) rfl rfl rfl (dpointer_any left n k p _ s _ (hvF _ q) hn h) ?_; rintro e Wd150 ⟨rfl, bd147⟩; refine ⟨_, rfl, ?_⟩; rw [hck])
    have zbd147 := bd147.size
    replace rd25 := rd25.up bd147
    replace bd22 := bd22.trans (bd147.mono bd22.size)
    replace q := q.trans (bd147.mono q.size)
    refine LL.val (R.assign rfl rfl) rfl rfl rfl ?_
    refine LL.nilS ?_
    refine CC.seq ?_
    refine CC.region ?_
    refine LL.val (R.move rfl rfl) rfl rfl rfl ?_
    refine LL.val (R.neF rfl rfl rfl (by omega)) rfl rfl rfl ?_
    refine LL.nilS ?_
    refine CC.no rfl ?_
    refine CC.skip ?_
    refine EE.thenN ?_
    refine CC.seq ?_
    refine CC.region ?_
    refine LL.val (R.move rfl rfl) rfl rfl rfl ?_
    refine LL.val (R.move rfl rfl) rfl rfl rfl ?_
    have ld287 := rd25.lt
    (refine LL.call (R.call rfl rfl rfl) rfl rfl rfl (dread_any left a n c s _ (hvF _ q) hn h) ?_; rintro e Wd286 ⟨v1, v2, rfl, o1, o2, hd, bd283⟩; refine ⟨_, rfl, ?_⟩; rw [eps] at o1; obtain ⟨aP, cP, rfl, hcP⟩ := (o1.reads prEnc).form rfl; have hpF : ∀ X, Below (Wd286).heap.size Wd286 X → ReadsT prE 2 X (.slice aP ps.length cP) ps := fun X b => (o1.reads prEnc).up b; have qP := Below.refl (Wd286).heap.size Wd286; clear o1 o2 hd)
    have zbd283 := bd283.size
    replace bd147 := bd147.trans (bd283.mono bd147.size)
    replace rd25 := rd25.up bd283
    replace bd22 := bd22.trans (bd283.mono bd22.size)
    replace q := q.trans (bd283.mono q.size)
    refine LL.val (R.move rfl rfl) rfl rfl rfl ?_
    refine LL.val (R.extract rfl rfl rfl) rfl rfl rfl ?_
    refine LL.val (R.extract rfl rfl rfl) rfl rfl rfl ?_
    refine LL.val (R.assign rfl rfl) rfl rfl rfl ?_
    refine LL.val (R.assign rfl rfl) rfl rfl rfl ?_
    refine LL.nilS ?_
    refine CC.seq ?_
    refine CC.region ?_
    refine LL.val (R.move rfl rfl) rfl rfl rfl ?_
    refine LL.val (R.field rfl rfl (I.fld rfl)) rfl rfl rfl ?_
    refine LL.val (R.load rfl rfl (I.ld1 rfl (RowL.cell rd25 rfl))) rfl rfl rfl ?_
    have ld503 := rd25.lt
    (refine LL.call (R.call rfl rfl rfl) rfl rfl rfl (dfind_any _ ps k _ (hpF _ qP) (by omega)) ?_; rintro e Wd502 ⟨fi, fb, rfl, hfn, bd499⟩; obtain ⟨rfl, hfb⟩ := hfnd fi fb hfn; obtain rfl : fb = false := (by revert hfb; cases fb with | false => exact fun _ => rfl | true => exact fun h => absurd (h.1 rfl) hno); clear hfn hfb; refine ⟨_, rfl, ?_⟩)
    have zbd499 := bd499.size
    replace bd283 := bd283.trans (bd499.mono bd283.size)
    replace qP := qP.trans (bd499.mono qP.size)
    replace bd147 := bd147.trans (bd499.mono bd147.size)
    replace rd25 := rd25.up bd499
    replace bd22 := bd22.trans (bd499.mono bd22.size)
    replace q := q.trans (bd499.mono q.size)
    refine LL.val (R.move rfl rfl) rfl rfl rfl ?_
    refine LL.val (R.extract rfl rfl rfl) rfl rfl rfl ?_
    refine LL.val (R.extract rfl rfl rfl) rfl rfl rfl ?_
    refine LL.val (R.assign rfl rfl) rfl rfl rfl ?_
    refine LL.val (R.assign rfl rfl) rfl rfl rfl ?_
    refine LL.nilS ?_
    refine CC.seq ?_
    refine CC.seq ?_
    refine CC.region ?_
    refine LL.val (R.move rfl rfl) rfl rfl rfl ?_
    refine LL.val (R.not rfl rfl) rfl rfl rfl ?_
    refine LL.nilS ?_
    refine CC.yes rfl ?_
    refine CC.seq ?_
    refine CC.region ?_
    refine LL.val (R.assign rfl rfl) rfl rfl rfl ?_
    refine LL.val (R.assign rfl rfl) rfl rfl rfl ?_
    refine LL.nilS ?_
    refine CC.ret ?_
    refine EE.thenR ?_
    refine EE.ret _ rfl rfl ?_
    exact ⟨_, rfl, OwnsT.none _ _ _, q⟩
  rw [if_pos hyes]
  have hpos : posN s k < ps.length := by obtain ⟨j, hj, hk⟩ := hyes; rw [posN_key hs hj hk]; exact hj
  unfold swapL
  refine X.fn Try.func25 rfl (n := 42) rfl rfl ?_
  refine CC.seq ?_
  refine CC.region ?_
  refine LL.box [Value.int IntKind.u64 ↑k, Value.int IntKind.u64 ↑p] rfl rfl rfl rfl rfl ?_
  intro We23 ge24 ege24 re25 ze26 be22
  replace q := q.trans (be22.mono q.size)
  refine LL.val (R.assign rfl rfl) rfl rfl rfl ?_
  refine LL.val (R.assign rfl rfl) rfl rfl rfl ?_
  refine LL.nilS ?_
  refine CC.seq ?_
  refine CC.seq ?_
  refine CC.region ?_
  refine LL.val (R.move rfl rfl) rfl rfl rfl ?_
  refine LL.val (R.move rfl rfl) rfl rfl rfl ?_
  refine LL.val (R.load rfl rfl (I.ldNc (vs := [Value.int IntKind.u64 ↑k, Value.int IntKind.u64 ↑p]) (RowL.cells re25 rfl) (by rfl) (by rfl))) rfl rfl rfl ?_
  have le151 := re25.lt
  (refine LL.call (R.call rfl rfl rfl) rfl rfl rfl (dpointer_any left n k p _ s _ (hvF _ q) hn h) ?_; rintro e We150 ⟨rfl, be147⟩; refine ⟨_, rfl, ?_⟩; rw [hck])
  have zbe147 := be147.size
  replace re25 := re25.up be147
  replace be22 := be22.trans (be147.mono be22.size)
  replace q := q.trans (be147.mono q.size)
  refine LL.val (R.assign rfl rfl) rfl rfl rfl ?_
  refine LL.nilS ?_
  refine CC.seq ?_
  refine CC.region ?_
  refine LL.val (R.move rfl rfl) rfl rfl rfl ?_
  refine LL.val (R.neF rfl rfl rfl (by omega)) rfl rfl rfl ?_
  refine LL.nilS ?_
  refine CC.no rfl ?_
  refine CC.skip ?_
  refine EE.thenN ?_
  refine CC.seq ?_
  refine CC.region ?_
  refine LL.val (R.move rfl rfl) rfl rfl rfl ?_
  refine LL.val (R.move rfl rfl) rfl rfl rfl ?_
  have le287 := re25.lt
  (refine LL.call (R.call rfl rfl rfl) rfl rfl rfl (dread_any left a n c s _ (hvF _ q) hn h) ?_; rintro e We286 ⟨v1, v2, rfl, o1, o2, hd, be283⟩; refine ⟨_, rfl, ?_⟩; rw [eps] at o1; obtain ⟨aP, cP, rfl, hcP⟩ := (o1.reads prEnc).form rfl; have hpF : ∀ X, Below (We286).heap.size We286 X → ReadsT prE 2 X (.slice aP ps.length cP) ps := fun X b => (o1.reads prEnc).up b; have qP := Below.refl (We286).heap.size We286; clear o1 o2 hd)
  have zbe283 := be283.size
  replace be147 := be147.trans (be283.mono be147.size)
  replace re25 := re25.up be283
  replace be22 := be22.trans (be283.mono be22.size)
  replace q := q.trans (be283.mono q.size)
  refine LL.val (R.move rfl rfl) rfl rfl rfl ?_
  refine LL.val (R.extract rfl rfl rfl) rfl rfl rfl ?_
  refine LL.val (R.extract rfl rfl rfl) rfl rfl rfl ?_
  refine LL.val (R.assign rfl rfl) rfl rfl rfl ?_
  refine LL.val (R.assign rfl rfl) rfl rfl rfl ?_
  refine LL.nilS ?_
  refine CC.seq ?_
  refine CC.region ?_
  refine LL.val (R.move rfl rfl) rfl rfl rfl ?_
  refine LL.val (R.field rfl rfl (I.fld rfl)) rfl rfl rfl ?_
  refine LL.val (R.load rfl rfl (I.ld1 rfl (RowL.cell re25 rfl))) rfl rfl rfl ?_
  have le503 := re25.lt
  (refine LL.call (R.call rfl rfl rfl) rfl rfl rfl (dfind_any _ ps k _ (hpF _ qP) (by omega)) ?_; rintro e We502 ⟨fi, fb, rfl, hfn, be499⟩; obtain ⟨rfl, hfb⟩ := hfnd fi fb hfn; obtain rfl : fb = true := (by revert hfb; cases fb with | false => exact fun h => absurd (h.2 hyes) (by decide) | true => exact fun _ => rfl); clear hfn hfb; refine ⟨_, rfl, ?_⟩)
  have zbe499 := be499.size
  replace be283 := be283.trans (be499.mono be283.size)
  replace qP := qP.trans (be499.mono qP.size)
  replace be147 := be147.trans (be499.mono be147.size)
  replace re25 := re25.up be499
  replace be22 := be22.trans (be499.mono be22.size)
  replace q := q.trans (be499.mono q.size)
  refine LL.val (R.move rfl rfl) rfl rfl rfl ?_
  refine LL.val (R.extract rfl rfl rfl) rfl rfl rfl ?_
  refine LL.val (R.extract rfl rfl rfl) rfl rfl rfl ?_
  refine LL.val (R.assign rfl rfl) rfl rfl rfl ?_
  refine LL.val (R.assign rfl rfl) rfl rfl rfl ?_
  refine LL.nilS ?_
  refine CC.seq ?_
  refine CC.seq ?_
  refine CC.region ?_
  refine LL.val (R.move rfl rfl) rfl rfl rfl ?_
  refine LL.val (R.not rfl rfl) rfl rfl rfl ?_
  refine LL.nilS ?_
  refine CC.no rfl ?_
  refine CC.skip ?_
  refine EE.thenN ?_
  refine CC.seq ?_
  refine CC.region ?_
  refine LL.val (R.move rfl rfl) rfl rfl rfl ?_
  refine LL.val (R.mulcN rfl rfl rfl rfl (by omega)) rfl rfl rfl ?_
  refine LL.val (R.addNc rfl rfl rfl rfl (by omega)) rfl rfl rfl ?_
  refine LL.val (R.field rfl rfl (I.fld rfl)) rfl rfl rfl ?_
  refine LL.val (R.load rfl rfl (I.ld1 rfl (RowL.cell re25 rfl))) rfl rfl rfl ?_
  refine LL.val (R.buildV rfl rfl (v := .agg #[Value.int IntKind.i64 ↑(2 * posN s k + 1), Value.int IntKind.u64 ↑p]) (fun _ => by kernel_rfl)) rfl rfl rfl ?_
  have le843 := re25.lt
  refine LL.lit (e := 59) [Value.int IntKind.i64 ↑(2 * posN s k + 1), Value.int IntKind.u64 ↑p] 1 rfl rfl (fun _ => by kernel_rfl) rfl rfl ?_
  intro We845 ge846 ege846 re847 ze848 be844
  replace be499 := be499.trans (be844.mono be499.size)
  replace be283 := be283.trans (be844.mono be283.size)
  replace qP := qP.trans (be844.mono qP.size)
  replace be147 := be147.trans (be844.mono be147.size)
  replace re25 := re25.up be844
  replace be22 := be22.trans (be844.mono be22.size)
  replace q := q.trans (be844.mono q.size)
  refine LL.val (R.assign rfl rfl) rfl rfl rfl ?_
  refine LL.val (R.assign rfl rfl) rfl rfl rfl ?_
  refine LL.nilS ?_
  refine CC.ret ?_
  refine EE.ret _ rfl rfl ?_
  exact ⟨_, rfl, RowL.ownsT (base := w.heap.size) pEnc (ts := [(((2 * posN s k + 1 : Nat) : Int), p)]) (by assumption) (by first | omega) (by first | simp [maxLen]), q⟩
end Go.Proofs.Ytfpcpnodcdgbdaa

/- slots: the document's Put (gen24.py writes this). -/
namespace Go.Proofs.Ytfpcpnodcdgbdaa
set_option linter.unusedVariables false
set_option linter.unusedSimpArgs false
open Go.RowKit Go.Shelf
theorem exposeP {W : World} {v : Value} {ps : List Pr} (h : ReadsT prE 2 W v ps) : ∃ X0 : World, W.heap.size ≤ X0.heap.size ∧ (∀ X, Below X0.heap.size X0 X → ReadsT prE 2 X v ps) ∧ Below X0.heap.size X0 W := ⟨W, Nat.le_refl _, fun X b => h.up b, Below.refl _ _⟩
set_option maxRecDepth 100000
set_option maxHeartbeats 4000000
theorem dput_any (left n k p : Nat) (v : Value) (s : List Nat) (w : World) (hv : ReadsT uE 1 w v s) (hn : s.length = n) (h : n ≤ 1048576) : Calls Try.prog 20 #[.int .u64 (left : Int), v, .agg #[.int .u64 (k : Int), .int .u64 (p : Int)]] w (chQ (putF left s k p) w) := by
  have q := Below.refl w.heap.size w
  obtain ⟨a, c, rfl, hc⟩ := hv.form hn
  have hvF : ∀ X, Below w.heap.size w X → ReadsT uE 1 X (.slice a n c) s := fun X b => hv.up b
  clear hv
  have hck := Eq.refl (ptrF left s p)
  conv at hck => { rhs; unfold ptrF; rw [hn] }
  unfold putF
  rw [hn]
  refine X.fn Try.func20 rfl (n := 108) rfl rfl ?_
  refine CC.seq ?_
  refine CC.region ?_
  refine LL.box [Value.int IntKind.u64 ↑k, Value.int IntKind.u64 ↑p] rfl rfl rfl rfl rfl ?_
  intro W2 g3 eg3 r4 z5 b1
  replace q := q.trans (b1.mono q.size)
  refine LL.val (R.assign rfl rfl) rfl rfl rfl ?_
  refine LL.val (R.assign rfl rfl) rfl rfl rfl ?_
  refine LL.nilS ?_
  refine CC.seq ?_
  refine CC.seq ?_
  refine CC.region ?_
  refine LL.val (R.move rfl rfl) rfl rfl rfl ?_
  refine LL.val (R.move rfl rfl) rfl rfl rfl ?_
  refine LL.val (R.load rfl rfl (I.ldNc (vs := [Value.int IntKind.u64 ↑k, Value.int IntKind.u64 ↑p]) (RowL.cells r4 rfl) (by rfl) (by rfl))) rfl rfl rfl ?_
  have rp := r4
  clear r4
  by_cases h1 : noRow left n
  · rw [if_pos h1] at hck
    rw [if_pos h1]
    clear h1
    have la5 := rp.lt
    (refine LL.call (R.call rfl rfl rfl) rfl rfl rfl (dpointer_any left n k p _ s _ (hvF _ q) hn h) ?_; rintro e Wa4 ⟨rfl, ba1⟩; refine ⟨_, rfl, ?_⟩; rw [hck])
    have zba1 := ba1.size
    replace b1 := b1.trans (ba1.mono b1.size)
    replace q := q.trans (ba1.mono q.size)
    replace rp := rp.up ba1
    refine LL.val (R.assign rfl rfl) rfl rfl rfl ?_
    refine LL.nilS ?_
    refine CC.seq ?_
    refine CC.region ?_
    refine LL.val (R.move rfl rfl) rfl rfl rfl ?_
    refine LL.val (R.neT rfl rfl rfl (by omega)) rfl rfl rfl ?_
    refine LL.nilS ?_
    refine CC.yes rfl ?_
    refine CC.seq ?_
    refine CC.region ?_
    refine LL.val (R.move rfl rfl) rfl rfl rfl ?_
    refine LL.val (R.assign rfl rfl) rfl rfl rfl ?_
    refine LL.val (R.assign rfl rfl) rfl rfl rfl ?_
    refine LL.nilS ?_
    refine CC.ret ?_
    refine EE.thenR ?_
    refine EE.ret _ rfl rfl ?_
    exact ⟨_, rfl, OwnsT.none _ _ _, q⟩
  rw [if_neg h1] at hck
  rw [if_neg h1]
  have hrow := noRow_not h1
  clear h1
  by_cases h2 : p = 0 ∨ p = left
  · rw [if_pos h2] at hck
    rw [if_pos h2]
    clear h2
    have lb5 := rp.lt
    (refine LL.call (R.call rfl rfl rfl) rfl rfl rfl (dpointer_any left n k p _ s _ (hvF _ q) hn h) ?_; rintro e Wb4 ⟨rfl, bb1⟩; refine ⟨_, rfl, ?_⟩; rw [hck])
    have zbb1 := bb1.size
    replace b1 := b1.trans (bb1.mono b1.size)
    replace q := q.trans (bb1.mono q.size)
    replace rp := rp.up bb1
    refine LL.val (R.assign rfl rfl) rfl rfl rfl ?_
    refine LL.nilS ?_
    refine CC.seq ?_
    refine CC.region ?_
    refine LL.val (R.move rfl rfl) rfl rfl rfl ?_
    refine LL.val (R.neT rfl rfl rfl (by omega)) rfl rfl rfl ?_
    refine LL.nilS ?_
    refine CC.yes rfl ?_
    refine CC.seq ?_
    refine CC.region ?_
    refine LL.val (R.move rfl rfl) rfl rfl rfl ?_
    refine LL.val (R.assign rfl rfl) rfl rfl rfl ?_
    refine LL.val (R.assign rfl rfl) rfl rfl rfl ?_
    refine LL.nilS ?_
    refine CC.ret ?_
    refine EE.thenR ?_
    refine EE.ret _ rfl rfl ?_
    exact ⟨_, rfl, OwnsT.none _ _ _, q⟩
  rw [if_neg h2] at hck
  rw [if_neg h2]
  clear h2
  by_cases h3 : setP left s
  case neg =>
    rw [if_pos h3] at hck
    rw [if_pos h3]
    clear h3
    have lc5 := rp.lt
    (refine LL.call (R.call rfl rfl rfl) rfl rfl rfl (dpointer_any left n k p _ s _ (hvF _ q) hn h) ?_; rintro e Wc4 ⟨rfl, bc1⟩; refine ⟨_, rfl, ?_⟩; rw [hck])
    have zbc1 := bc1.size
    replace b1 := b1.trans (bc1.mono b1.size)
    replace q := q.trans (bc1.mono q.size)
    replace rp := rp.up bc1
    refine LL.val (R.assign rfl rfl) rfl rfl rfl ?_
    refine LL.nilS ?_
    refine CC.seq ?_
    refine CC.region ?_
    refine LL.val (R.move rfl rfl) rfl rfl rfl ?_
    refine LL.val (R.neT rfl rfl rfl (by omega)) rfl rfl rfl ?_
    refine LL.nilS ?_
    refine CC.yes rfl ?_
    refine CC.seq ?_
    refine CC.region ?_
    refine LL.val (R.move rfl rfl) rfl rfl rfl ?_
    refine LL.val (R.assign rfl rfl) rfl rfl rfl ?_
    refine LL.val (R.assign rfl rfl) rfl rfl rfl ?_
    refine LL.nilS ?_
    refine CC.ret ?_
    refine EE.thenR ?_
    refine EE.ret _ rfl rfl ?_
    exact ⟨_, rfl, OwnsT.none _ _ _, q⟩
  rw [if_neg (fun h => h h3)] at hck
  rw [if_neg (fun h => h h3)]
  by_cases h4 : ∃ j, j < overN s ∧ ptrN s j = p
  · rw [if_pos h4] at hck
    rw [if_pos h4]
    clear h3 h4
    have ld5 := rp.lt
    (refine LL.call (R.call rfl rfl rfl) rfl rfl rfl (dpointer_any left n k p _ s _ (hvF _ q) hn h) ?_; rintro e Wd4 ⟨rfl, bd1⟩; refine ⟨_, rfl, ?_⟩; rw [hck])
    have zbd1 := bd1.size
    replace b1 := b1.trans (bd1.mono b1.size)
    replace q := q.trans (bd1.mono q.size)
    replace rp := rp.up bd1
    refine LL.val (R.assign rfl rfl) rfl rfl rfl ?_
    refine LL.nilS ?_
    refine CC.seq ?_
    refine CC.region ?_
    refine LL.val (R.move rfl rfl) rfl rfl rfl ?_
    refine LL.val (R.neT rfl rfl rfl (by omega)) rfl rfl rfl ?_
    refine LL.nilS ?_
    refine CC.yes rfl ?_
    refine CC.seq ?_
    refine CC.region ?_
    refine LL.val (R.move rfl rfl) rfl rfl rfl ?_
    refine LL.val (R.assign rfl rfl) rfl rfl rfl ?_
    refine LL.val (R.assign rfl rfl) rfl rfl rfl ?_
    refine LL.nilS ?_
    refine CC.ret ?_
    refine EE.thenR ?_
    refine EE.ret _ rfl rfl ?_
    exact ⟨_, rfl, OwnsT.none _ _ _, q⟩
  rw [if_neg h4] at hck
  rw [if_neg h4]
  clear h4
  obtain ⟨ps, eps⟩ : ∃ ps, pairP left s = ps := ⟨_, rfl⟩
  have hpl : ps.length ≤ n / 2 := by rw [← eps, ← hn]; unfold pairP; rw [List.length_map]; exact pairS_len left s
  obtain ⟨m, hs⟩ := setP_iff.1 h3
  have hfnd : ∀ i b, fndP ps k i b → i = posN s k ∧ (b = true ↔ ∃ j, j < m ∧ keyN s j = k) := fun i b hf => fnd_set hs (by rw [eps]; exact hf)
  have hpm : ps.length = m := by rw [← eps, hs.pairP, List.length_map, List.length_range]
  have hml := hs.lt
  rw [hn] at hml
  rw [hs.over]
  obtain rfl := hpm
  by_cases hyes : ∃ j, j < ps.length ∧ keyN s j = k
  · rw [if_pos hyes]
    have le5 := rp.lt
    (refine LL.call (R.call rfl rfl rfl) rfl rfl rfl (dpointer_any left n k p _ s _ (hvF _ q) hn h) ?_; rintro e We4 ⟨rfl, be1⟩; refine ⟨_, rfl, ?_⟩; rw [hck])
    have zbe1 := be1.size
    replace b1 := b1.trans (be1.mono b1.size)
    replace q := q.trans (be1.mono q.size)
    replace rp := rp.up be1
    refine LL.val (R.assign rfl rfl) rfl rfl rfl ?_
    refine LL.nilS ?_
    refine CC.seq ?_
    refine CC.region ?_
    refine LL.val (R.move rfl rfl) rfl rfl rfl ?_
    refine LL.val (R.neF rfl rfl rfl (by omega)) rfl rfl rfl ?_
    refine LL.nilS ?_
    refine CC.no rfl ?_
    refine CC.skip ?_
    refine EE.thenN ?_
    refine CC.seq ?_
    refine CC.region ?_
    refine LL.val (R.move rfl rfl) rfl rfl rfl ?_
    refine LL.val (R.move rfl rfl) rfl rfl rfl ?_
    have le141 := rp.lt
    (refine LL.call (R.call rfl rfl rfl) rfl rfl rfl (dread_any left a n c s _ (hvF _ q) hn h) ?_; rintro e We140 ⟨v1, v2, rfl, o1, o2, hd, be137⟩; refine ⟨_, rfl, ?_⟩; rw [eps] at o1; obtain ⟨aP, cP, rfl, hcP⟩ := (o1.reads prEnc).form rfl; have hpF : ∀ X, Below (We140).heap.size We140 X → ReadsT prE 2 X (.slice aP ps.length cP) ps := fun X b => (o1.reads prEnc).up b; have qP := Below.refl (We140).heap.size We140; clear o1 o2 hd)
    have zbe137 := be137.size
    replace be1 := be1.trans (be137.mono be1.size)
    replace b1 := b1.trans (be137.mono b1.size)
    replace q := q.trans (be137.mono q.size)
    replace rp := rp.up be137
    refine LL.val (R.move rfl rfl) rfl rfl rfl ?_
    refine LL.val (R.extract rfl rfl rfl) rfl rfl rfl ?_
    refine LL.val (R.extract rfl rfl rfl) rfl rfl rfl ?_
    refine LL.val (R.assign rfl rfl) rfl rfl rfl ?_
    refine LL.val (R.assign rfl rfl) rfl rfl rfl ?_
    refine LL.nilS ?_
    refine CC.seq ?_
    refine CC.region ?_
    refine LL.val (R.move rfl rfl) rfl rfl rfl ?_
    refine LL.val (R.field rfl rfl (I.fld rfl)) rfl rfl rfl ?_
    refine LL.val (R.load rfl rfl (I.ld1 rfl (RowL.cell rp rfl))) rfl rfl rfl ?_
    have le357 := rp.lt
    (refine LL.call (R.call rfl rfl rfl) rfl rfl rfl (dfind_any _ ps k _ (hpF _ qP) (by omega)) ?_; rintro e We356 ⟨fi, fb, rfl, hfn, be353⟩; obtain ⟨rfl, hfb⟩ := hfnd fi fb hfn; obtain rfl : fb = true := (by revert hfb; cases fb with | false => exact fun h => absurd (h.2 hyes) (by decide) | true => exact fun _ => rfl); clear hfn hfb; refine ⟨_, rfl, ?_⟩)
    have zbe353 := be353.size
    replace be137 := be137.trans (be353.mono be137.size)
    replace qP := qP.trans (be353.mono qP.size)
    replace be1 := be1.trans (be353.mono be1.size)
    replace b1 := b1.trans (be353.mono b1.size)
    replace q := q.trans (be353.mono q.size)
    replace rp := rp.up be353
    refine LL.val (R.move rfl rfl) rfl rfl rfl ?_
    refine LL.val (R.extract rfl rfl rfl) rfl rfl rfl ?_
    refine LL.val (R.extract rfl rfl rfl) rfl rfl rfl ?_
    refine LL.val (R.assign rfl rfl) rfl rfl rfl ?_
    refine LL.val (R.assign rfl rfl) rfl rfl rfl ?_
    refine LL.nilS ?_
    refine CC.seq ?_
    refine CC.region ?_
    refine LL.val (R.move rfl rfl) rfl rfl rfl ?_
    refine LL.val (R.len rfl rfl rfl rfl) rfl rfl rfl ?_
    refine LL.val (R.assign rfl rfl) rfl rfl rfl ?_
    refine LL.nilS ?_
    refine CC.seq ?_
    refine CC.seq ?_
    refine CC.region ?_
    refine LL.val (R.move rfl rfl) rfl rfl rfl ?_
    refine LL.nilS ?_
    refine CC.yes rfl ?_
    refine CC.seq ?_
    refine CC.region ?_
    refine LL.val (R.assign rfl rfl) rfl rfl rfl ?_
    refine LL.val (R.assign rfl rfl) rfl rfl rfl ?_
    refine LL.nilS ?_
    refine CC.ret ?_
    refine EE.thenR ?_
    refine EE.ret _ rfl rfl ?_
    exact ⟨_, rfl, OwnsT.none _ _ _, q⟩
  have hno := hyes
  clear hyes
  rw [if_neg hno]
  by_cases hful : ps.length + 1 = n / 2
  · rw [if_pos hful]
    have lf5 := rp.lt
    (refine LL.call (R.call rfl rfl rfl) rfl rfl rfl (dpointer_any left n k p _ s _ (hvF _ q) hn h) ?_; rintro e Wf4 ⟨rfl, bf1⟩; refine ⟨_, rfl, ?_⟩; rw [hck])
    have zbf1 := bf1.size
    replace b1 := b1.trans (bf1.mono b1.size)
    replace q := q.trans (bf1.mono q.size)
    replace rp := rp.up bf1
    refine LL.val (R.assign rfl rfl) rfl rfl rfl ?_
    refine LL.nilS ?_
    refine CC.seq ?_
    refine CC.region ?_
    refine LL.val (R.move rfl rfl) rfl rfl rfl ?_
    refine LL.val (R.neF rfl rfl rfl (by omega)) rfl rfl rfl ?_
    refine LL.nilS ?_
    refine CC.no rfl ?_
    refine CC.skip ?_
    refine EE.thenN ?_
    refine CC.seq ?_
    refine CC.region ?_
    refine LL.val (R.move rfl rfl) rfl rfl rfl ?_
    refine LL.val (R.move rfl rfl) rfl rfl rfl ?_
    have lf141 := rp.lt
    (refine LL.call (R.call rfl rfl rfl) rfl rfl rfl (dread_any left a n c s _ (hvF _ q) hn h) ?_; rintro e Wf140 ⟨v1, v2, rfl, o1, o2, hd, bf137⟩; refine ⟨_, rfl, ?_⟩; rw [eps] at o1; obtain ⟨aP, cP, rfl, hcP⟩ := (o1.reads prEnc).form rfl; have hpF : ∀ X, Below (Wf140).heap.size Wf140 X → ReadsT prE 2 X (.slice aP ps.length cP) ps := fun X b => (o1.reads prEnc).up b; have qP := Below.refl (Wf140).heap.size Wf140; clear o1 o2 hd)
    have zbf137 := bf137.size
    replace bf1 := bf1.trans (bf137.mono bf1.size)
    replace b1 := b1.trans (bf137.mono b1.size)
    replace q := q.trans (bf137.mono q.size)
    replace rp := rp.up bf137
    refine LL.val (R.move rfl rfl) rfl rfl rfl ?_
    refine LL.val (R.extract rfl rfl rfl) rfl rfl rfl ?_
    refine LL.val (R.extract rfl rfl rfl) rfl rfl rfl ?_
    refine LL.val (R.assign rfl rfl) rfl rfl rfl ?_
    refine LL.val (R.assign rfl rfl) rfl rfl rfl ?_
    refine LL.nilS ?_
    refine CC.seq ?_
    refine CC.region ?_
    refine LL.val (R.move rfl rfl) rfl rfl rfl ?_
    refine LL.val (R.field rfl rfl (I.fld rfl)) rfl rfl rfl ?_
    refine LL.val (R.load rfl rfl (I.ld1 rfl (RowL.cell rp rfl))) rfl rfl rfl ?_
    have lf357 := rp.lt
    (refine LL.call (R.call rfl rfl rfl) rfl rfl rfl (dfind_any _ ps k _ (hpF _ qP) (by omega)) ?_; rintro e Wf356 ⟨fi, fb, rfl, hfn, bf353⟩; obtain ⟨rfl, hfb⟩ := hfnd fi fb hfn; obtain rfl : fb = false := (by revert hfb; cases fb with | false => exact fun _ => rfl | true => exact fun h => absurd (h.1 rfl) hno); clear hfn hfb; refine ⟨_, rfl, ?_⟩)
    have zbf353 := bf353.size
    replace bf137 := bf137.trans (bf353.mono bf137.size)
    replace qP := qP.trans (bf353.mono qP.size)
    replace bf1 := bf1.trans (bf353.mono bf1.size)
    replace b1 := b1.trans (bf353.mono b1.size)
    replace q := q.trans (bf353.mono q.size)
    replace rp := rp.up bf353
    refine LL.val (R.move rfl rfl) rfl rfl rfl ?_
    refine LL.val (R.extract rfl rfl rfl) rfl rfl rfl ?_
    refine LL.val (R.extract rfl rfl rfl) rfl rfl rfl ?_
    refine LL.val (R.assign rfl rfl) rfl rfl rfl ?_
    refine LL.val (R.assign rfl rfl) rfl rfl rfl ?_
    refine LL.nilS ?_
    refine CC.seq ?_
    refine CC.region ?_
    refine LL.val (R.move rfl rfl) rfl rfl rfl ?_
    refine LL.val (R.len rfl rfl rfl rfl) rfl rfl rfl ?_
    refine LL.val (R.assign rfl rfl) rfl rfl rfl ?_
    refine LL.nilS ?_
    refine CC.seq ?_
    refine CC.seq ?_
    refine CC.region ?_
    refine LL.val (R.move rfl rfl) rfl rfl rfl ?_
    refine LL.nilS ?_
    refine CC.no rfl ?_
    refine CC.skip ?_
    refine EE.thenN ?_
    refine CC.seq ?_
    refine CC.seq ?_
    refine CC.region ?_
    refine LL.val (R.move rfl rfl) rfl rfl rfl ?_
    refine LL.val (R.addNc rfl rfl rfl rfl (by omega)) rfl rfl rfl ?_
    refine LL.val (R.move rfl rfl) rfl rfl rfl ?_
    refine LL.val (R.len rfl rfl rfl rfl) rfl rfl rfl ?_
    refine LL.val (R.quoNc rfl rfl rfl rfl (by omega) (by omega)) rfl rfl rfl ?_
    refine LL.val (R.geT rfl rfl rfl (by omega)) rfl rfl rfl ?_
    refine LL.nilS ?_
    refine CC.yes rfl ?_
    refine CC.seq ?_
    refine CC.region ?_
    refine LL.val (R.assign rfl rfl) rfl rfl rfl ?_
    refine LL.val (R.assign rfl rfl) rfl rfl rfl ?_
    refine LL.nilS ?_
    refine CC.ret ?_
    refine EE.thenR ?_
    refine EE.ret _ rfl rfl ?_
    exact ⟨_, rfl, OwnsT.none _ _ _, q⟩
  rw [if_neg hful]
  have hpos : posN s k ≤ ps.length := by have := (posN_spec s k).1; rw [hs.over] at this; exact this
  have lg5 := rp.lt
  (refine LL.call (R.call rfl rfl rfl) rfl rfl rfl (dpointer_any left n k p _ s _ (hvF _ q) hn h) ?_; rintro e Wg4 ⟨rfl, bg1⟩; refine ⟨_, rfl, ?_⟩; rw [hck])
  have zbg1 := bg1.size
  replace b1 := b1.trans (bg1.mono b1.size)
  replace q := q.trans (bg1.mono q.size)
  replace rp := rp.up bg1
  refine LL.val (R.assign rfl rfl) rfl rfl rfl ?_
  refine LL.nilS ?_
  refine CC.seq ?_
  refine CC.region ?_
  refine LL.val (R.move rfl rfl) rfl rfl rfl ?_
  refine LL.val (R.neF rfl rfl rfl (by omega)) rfl rfl rfl ?_
  refine LL.nilS ?_
  refine CC.no rfl ?_
  refine CC.skip ?_
  refine EE.thenN ?_
  refine CC.seq ?_
  refine CC.region ?_
  refine LL.val (R.move rfl rfl) rfl rfl rfl ?_
  refine LL.val (R.move rfl rfl) rfl rfl rfl ?_
  have lg141 := rp.lt
  (refine LL.call (R.call rfl rfl rfl) rfl rfl rfl (dread_any left a n c s _ (hvF _ q) hn h) ?_; rintro e Wg140 ⟨v1, v2, rfl, o1, o2, hd, bg137⟩; refine ⟨_, rfl, ?_⟩; rw [eps] at o1; obtain ⟨aP, cP, rfl, hcP⟩ := (o1.reads prEnc).form rfl; obtain ⟨X0, hzX, hpF, qP⟩ := exposeP (o1.reads prEnc); have zX := Nat.le_trans q.size (Nat.le_trans (bg137).size hzX); clear o1 o2 hd)
  have zbg137 := bg137.size
  replace bg1 := bg1.trans (bg137.mono bg1.size)
  replace b1 := b1.trans (bg137.mono b1.size)
  replace q := q.trans (bg137.mono q.size)
  replace rp := rp.up bg137
  refine LL.val (R.move rfl rfl) rfl rfl rfl ?_
  refine LL.val (R.extract rfl rfl rfl) rfl rfl rfl ?_
  refine LL.val (R.extract rfl rfl rfl) rfl rfl rfl ?_
  refine LL.val (R.assign rfl rfl) rfl rfl rfl ?_
  refine LL.val (R.assign rfl rfl) rfl rfl rfl ?_
  refine LL.nilS ?_
  refine CC.seq ?_
  refine CC.region ?_
  refine LL.val (R.move rfl rfl) rfl rfl rfl ?_
  refine LL.val (R.field rfl rfl (I.fld rfl)) rfl rfl rfl ?_
  refine LL.val (R.load rfl rfl (I.ld1 rfl (RowL.cell rp rfl))) rfl rfl rfl ?_
  have lg357 := rp.lt
  (refine LL.call (R.call rfl rfl rfl) rfl rfl rfl (dfind_any _ ps k _ (hpF _ qP) (by omega)) ?_; rintro e Wg356 ⟨fi, fb, rfl, hfn, bg353⟩; obtain ⟨rfl, hfb⟩ := hfnd fi fb hfn; obtain rfl : fb = false := (by revert hfb; cases fb with | false => exact fun _ => rfl | true => exact fun h => absurd (h.1 rfl) hno); clear hfn hfb; refine ⟨_, rfl, ?_⟩)
  have zbg353 := bg353.size
  replace bg137 := bg137.trans (bg353.mono bg137.size)
  replace qP := qP.trans (bg353.mono qP.size)
  replace bg1 := bg1.trans (bg353.mono bg1.size)
  replace b1 := b1.trans (bg353.mono b1.size)
  replace q := q.trans (bg353.mono q.size)
  replace rp := rp.up bg353
  refine LL.val (R.move rfl rfl) rfl rfl rfl ?_
  refine LL.val (R.extract rfl rfl rfl) rfl rfl rfl ?_
  refine LL.val (R.extract rfl rfl rfl) rfl rfl rfl ?_
  refine LL.val (R.assign rfl rfl) rfl rfl rfl ?_
  refine LL.val (R.assign rfl rfl) rfl rfl rfl ?_
  refine LL.nilS ?_
  refine CC.seq ?_
  refine CC.region ?_
  refine LL.val (R.move rfl rfl) rfl rfl rfl ?_
  refine LL.val (R.len rfl rfl rfl rfl) rfl rfl rfl ?_
  refine LL.val (R.assign rfl rfl) rfl rfl rfl ?_
  refine LL.nilS ?_
  refine CC.seq ?_
  refine CC.seq ?_
  refine CC.region ?_
  refine LL.val (R.move rfl rfl) rfl rfl rfl ?_
  refine LL.nilS ?_
  refine CC.no rfl ?_
  refine CC.skip ?_
  refine EE.thenN ?_
  refine CC.seq ?_
  refine CC.seq ?_
  refine CC.region ?_
  refine LL.val (R.move rfl rfl) rfl rfl rfl ?_
  refine LL.val (R.addNc rfl rfl rfl rfl (by omega)) rfl rfl rfl ?_
  refine LL.val (R.move rfl rfl) rfl rfl rfl ?_
  refine LL.val (R.len rfl rfl rfl rfl) rfl rfl rfl ?_
  refine LL.val (R.quoNc rfl rfl rfl rfl (by omega) (by omega)) rfl rfl rfl ?_
  refine LL.val (R.geF rfl rfl rfl (by omega)) rfl rfl rfl ?_
  refine LL.nilS ?_
  refine CC.no rfl ?_
  refine CC.skip ?_
  refine EE.thenN ?_
  refine CC.seq ?_
  refine CC.region ?_
  refine LL.val (R.assign rfl rfl) rfl rfl rfl ?_
  refine LL.nilS ?_
  refine CC.seq ?_
  refine CC.seq ?_
  refine CC.region ?_
  refine LL.val (R.move rfl rfl) rfl rfl rfl ?_
  refine LL.val (R.addNc rfl rfl rfl rfl (by omega)) rfl rfl rfl ?_
  refine LL.val (R.move rfl rfl) rfl rfl rfl ?_
  refine LL.val (R.len rfl rfl rfl rfl) rfl rfl rfl ?_
  refine LL.val (R.quoNc rfl rfl rfl rfl (by omega) (by omega)) rfl rfl rfl ?_
  refine LL.val (R.ltT rfl rfl rfl (by omega)) rfl rfl rfl ?_
  refine LL.nilS ?_
  refine CC.yes rfl ?_
  refine CC.region ?_
  refine LL.val (R.move rfl rfl) rfl rfl rfl ?_
  refine LL.val (R.move rfl rfl) rfl rfl rfl ?_
  refine LL.val (R.mulcN rfl rfl rfl rfl (by omega)) rfl rfl rfl ?_
  refine LL.val (R.addNc rfl rfl rfl rfl (by omega)) rfl rfl rfl ?_
  refine LL.val (R.buildV rfl rfl (v := .agg #[Value.int IntKind.i64 ↑(2 * ps.length + 3), Value.int IntKind.u64 0]) (fun _ => by kernel_rfl)) rfl rfl rfl ?_
  have lg1033 := rp.lt
  refine LL.lit (e := 59) [Value.int IntKind.i64 ↑(2 * ps.length + 3), Value.int IntKind.u64 0] 1 rfl rfl (fun _ => by kernel_rfl) rfl rfl ?_
  intro Wg1035 gg1036 egg1036 rg1037 zg1038 bg1034
  replace bg353 := bg353.trans (bg1034.mono bg353.size)
  replace bg137 := bg137.trans (bg1034.mono bg137.size)
  replace qP := qP.trans (bg1034.mono qP.size)
  replace bg1 := bg1.trans (bg1034.mono bg1.size)
  replace b1 := b1.trans (bg1034.mono b1.size)
  replace q := q.trans (bg1034.mono q.size)
  replace rp := rp.up bg1034
  (refine LL.appendT2 rfl rfl pEnc ElPut (OwnsT.none _ X0.heap.size _) (us := [(((2 * ps.length + 3 : Nat) : Int), 0)]) (RowL.readsT pEnc (ts := [(((2 * ps.length + 3 : Nat) : Int), 0)]) (by assumption) 1 (by simp)) (by simp [maxLen]) (by simp) (by have := qP.size; omega) rfl rfl ?_; intro v' Wa oa gra hva; replace q := q.grown gra q.size (fun g hg => by cases hg); replace qP := qP.grown gra qP.size (fun g hg => by cases hg); replace rp := rp.grO gra (fun e => by cases e); have hsz := gra.size; clear hva gra; have o1 := oa; clear oa)
  refine LL.val (R.assign rfl rfl) rfl rfl rfl ?_
  refine LL.nilS ?_
  refine CC.seq ?_
  refine CC.seq ?_
  refine CC.region ?_
  refine LL.val (R.move rfl rfl) rfl rfl rfl ?_
  refine LL.val (R.subI rfl rfl rfl (by omega)) rfl rfl rfl ?_
  refine LL.val (R.assign rfl rfl) rfl rfl rfl ?_
  refine LL.nilS ?_
  refine CC.block ?_
  have hpA : [] ++ [(((2 * ps.length + 3 : Nat) : Int), 0)] = putA s ps.length 0 := by unfold putA upK; rw [List.append_nil, List.nil_append]; rfl
  rw [hpA] at o1
  have yq := q.size
  clear hfnd hck hno hpA
  refine CC.loop (α := Nat × Value × Int) (fun x => [(0, .int .u64 (left : Int)), (1, .slice a n c), (5, .pointer (some ⟨g3, 0, none⟩)), (9, .slice aP ps.length cP), (11, .int .i64 (posN s k : Int)), (14, x.2.1), (15, .int .i64 x.2.2)])
    (fun x W => x.1 ≤ ps.length - posN s k ∧ x.2.2 = ((ps.length - x.1 : Nat) : Int) - 1 ∧ Below w.heap.size w W ∧ Below X0.heap.size X0 W ∧ RowL W g3 41 [.int .u64 (k : Int), .int .u64 (p : Int)] ∧ g3 < X0.heap.size ∧ OwnsT pE 2 W X0.heap.size 59 x.2.1 (putA s ps.length x.1)) (fun x => ps.length - x.1)
    (0, _, _) ⟨rfl, rfl, rfl, rfl, rfl, rfl, rfl, trivial⟩ ⟨Nat.zero_le _, by dsimp only; omega, q, qP, rp, by omega, o1⟩ ?_
  clear q qP rp o1
  rintro ⟨t, vo, z⟩ W ⟨ht, hz, q, qP, rp, hg3, o1⟩
  simp only at ht hz o1
  have yq := q.size
  have yp := qP.size
  show CC none Try.prog _ 108 [] (sl [(0, .int .u64 (left : Int)), (1, .slice a n c), (5, .pointer (some ⟨g3, 0, none⟩)), (9, .slice aP ps.length cP), (11, .int .i64 (posN s k : Int)), (14, vo), (15, .int .i64 z)]) _ W
  have hl1 : (putA s ps.length t).length ≤ 200 := by unfold putA; rw [List.length_append, upK_len]; simp; omega
  by_cases hlt2 : t < ps.length - posN s k
  case pos =>
    obtain ⟨i, hi⟩ : ∃ i, i + 1 = ps.length - t := ⟨ps.length - t - 1, by omega⟩
    obtain rfl : z = (i : Int) := by omega
    have hx : ps[i]? = some (prA s i) := by rw [← eps, hs.pairP]; exact range_map_get (by omega)
    obtain ⟨b1, o1', rfl, _, _⟩ := (hpF _ qP).get prEnc hx
    have c1 : W.cell? ⟨b1, o1' + i * 2, none⟩ = some (.int .u64 (keyN s i : Int)) := ((hpF W qP).elemN prEnc hx).cell (j := 0) rfl
    have c2 : W.cell? ⟨b1, o1' + i * 2 + 1, none⟩ = some (.int .u64 (ptrN s i : Int)) := ((hpF W qP).elemN prEnc hx).cell (j := 1) rfl
    have e : putA s ps.length (t + 1) = putA s ps.length t ++ [(((2 * i + 3 : Nat) : Int), ptrN s i), (((2 * i + 2 : Nat) : Int), keyN s i)] := by
      unfold putA
      show _ ++ (upK s ps.length t ++ _) = _
      rw [show ps.length - 1 - t = i by omega, List.append_assoc]
      rfl
    obtain ⟨xs, exs⟩ : ∃ xs, putA s ps.length t = xs := ⟨_, rfl⟩
    rw [exs] at o1 e hl1
    clear exs
    have og1 := own_ge o1
    obtain ⟨av1, cv1, rfl, hcv1⟩ := (o1.reads pEnc).form rfl
    refine CC.seq ?_
    refine CC.seq ?_
    refine CC.region ?_
    refine LL.val (R.move rfl rfl) rfl rfl rfl ?_
    refine LL.val (R.move rfl rfl) rfl rfl rfl ?_
    refine LL.val (R.geT rfl rfl rfl (by omega)) rfl rfl rfl ?_
    refine LL.nilS ?_
    refine CC.yes rfl ?_
    refine CC.skip ?_
    refine EE.thenN ?_
    refine CC.seq ?_
    refine CC.block ?_
    refine CC.freeZ (fun W_ j => j < W_.heap.size ∧ (j < X0.heap.size)) (by kernel_rfl) (by kernel_rfl) (fun Wh14 bh13 zh15 => ?_)
    replace q := q.trans (bh13.mono q.size)
    replace qP := qP.trans (bh13.mono qP.size)
    replace rp := rp.up bh13
    replace c1 := cell_up c1 bh13
    replace c2 := cell_up c2 bh13
    replace o1 := o1.up bh13
    have hok : Kept (fun j => j < Wh14.heap.size ∧ (j < X0.heap.size)) Wh14 Wh14 := Kept.refl _ _
    have fzrp := fzRow (K := fun j => j < Wh14.heap.size ∧ (j < X0.heap.size)) rp ⟨rp.lt, (by first | trivial | omega)⟩
    refine AA.pure 0 rfl hok (by kernel_rfl) (fun w' b' => R.move rfl rfl) rfl rfl ?_
    refine AA.pure 1 rfl hok (by kernel_rfl) (fun w' b' => R.move rfl rfl) rfl rfl ?_
    refine AA.pure 2 rfl hok (by kernel_rfl) (fun w' b' => R.mulcN rfl rfl rfl rfl (by omega)) rfl rfl ?_
    refine AA.pure 3 rfl hok (by kernel_rfl) (fun w' b' => R.addNc rfl rfl rfl rfl (by omega)) rfl rfl ?_
    refine AA.pure 4 rfl hok (by kernel_rfl) (fun w' b' => R.move rfl rfl) rfl rfl ?_
    refine AA.pure 5 rfl hok (by kernel_rfl) (fun w' b' => R.move rfl rfl) rfl rfl ?_
    refine AA.pure 6 rfl hok (by kernel_rfl) (fun w' b' => R.index rfl rfl rfl (I.ixS rfl (by omega))) rfl rfl ?_
    refine AA.pure 7 rfl hok (by kernel_rfl) (fun w' b' => R.field rfl rfl (I.fld rfl)) rfl rfl ?_
    refine AA.pure 10 rfl hok (by kernel_rfl) (fun w' b' => R.move rfl rfl) rfl rfl ?_
    refine AA.pure 11 rfl hok (by kernel_rfl) (fun w' b' => R.mulcN rfl rfl rfl rfl (by omega)) rfl rfl ?_
    refine AA.pure 12 rfl hok (by kernel_rfl) (fun w' b' => R.addNc rfl rfl rfl rfl (by omega)) rfl rfl ?_
    refine AA.pure 13 rfl hok (by kernel_rfl) (fun w' b' => R.move rfl rfl) rfl rfl ?_
    refine AA.pure 14 rfl hok (by kernel_rfl) (fun w' b' => R.move rfl rfl) rfl rfl ?_
    refine AA.pure 15 rfl hok (by kernel_rfl) (fun w' b' => R.index rfl rfl rfl (I.ixS rfl (by omega))) rfl rfl ?_
    refine AA.pure 16 rfl hok (by kernel_rfl) (fun w' b' => R.field rfl rfl (I.fld rfl)) rfl rfl ?_
    refine AA.two 8 17 (by kernel_rfl) ?_ ?_
    refine SR.val rfl (R.load rfl rfl (I.ld1 rfl (by assumption))) rfl rfl hok ?_
    refine AA.pure 9 rfl hok (by kernel_rfl) (fun w' b' => R.buildV rfl rfl (v := .agg #[Value.int IntKind.i64 ↑(2 * i + 3), Value.int IntKind.u64 ↑(ptrN s i)]) (fun _ => by kernel_rfl)) rfl rfl ?_
    refine AA.one 17 (by kernel_rfl) ?_
    refine SR.val rfl (R.load rfl rfl (I.ld1 rfl (by assumption))) rfl rfl hok ?_
    refine AA.pure 18 rfl hok (by kernel_rfl) (fun w' b' => R.buildV rfl rfl (v := .agg #[Value.int IntKind.i64 ↑(2 * i + 2), Value.int IntKind.u64 ↑(keyN s i)]) (fun _ => by kernel_rfl)) rfl rfl ?_
    refine AA.one 19 (by kernel_rfl) ?_
    have lh16 := rp.lt
    refine ZR.lit (e := 59) [Value.int IntKind.i64 ↑(2 * i + 3), Value.int IntKind.u64 ↑(ptrN s i), Value.int IntKind.i64 ↑(2 * i + 2), Value.int IntKind.u64 ↑(keyN s i)] 2 rfl rfl rfl (fun _ => by kernel_rfl) rfl rfl ?_
    intro Wh18 gh19 egh19 rh20 zh21 bh17
    replace bh13 := bh13.trans (bh17.mono bh13.size)
    replace q := q.trans (bh17.mono q.size)
    replace qP := qP.trans (bh17.mono qP.size)
    replace rp := rp.up bh17
    replace c1 := cell_up c1 bh17
    replace c2 := cell_up c2 bh17
    replace o1 := o1.up bh17
    replace hok := hok.trans (bkept bh17 (fun j h => by have := h.1; have := hok.size; omega))
    have yh22 := hok.size
    refine ⟨hok, ?_⟩
    refine AA.one 20 (by kernel_rfl) ?_
    (refine SR.appendT2 rfl rfl rfl pEnc ElPut o1 (us := [(((2 * i + 3 : Nat) : Int), ptrN s i), (((2 * i + 2 : Nat) : Int), keyN s i)]) (RowL.readsT pEnc (ts := [(((2 * i + 3 : Nat) : Int), ptrN s i), (((2 * i + 2 : Nat) : Int), keyN s i)]) (by assumption) 2 (by simp)) (by simp [maxLen]; omega) (by simp; omega) (by omega) rfl rfl ?_; intro v' Wa oa gra hva; replace q := q.grown gra q.size (fun g hg => by have := own_ge o1 g hg; omega); replace qP := qP.grown gra qP.size (fun g hg => by have := own_ge o1 g hg; omega); replace rp := rp.grO gra (fun e => by have := own_ge o1 _ e; omega); replace hok := hok.trans (grown_kept gra (fun j h => by have := h.1; have := hok.size; omega) (fun j h e => by have := own_ge o1 j e; omega)); have hsz := gra.size; clear o1 hva gra; have o1 := oa; clear oa; refine ⟨hok, ?_⟩)
    refine AA.pure 21 rfl hok (by kernel_rfl) (fun w' b' => R.assign rfl rfl) rfl rfl ?_
    refine AA.done rfl ?_
    clear fzrp hok
    refine EE.inN ?_
    refine EE.thenN ?_
    refine CC.region ?_
    refine LL.val (R.move rfl rfl) rfl rfl rfl ?_
    refine LL.val (R.subI rfl rfl rfl (by omega)) rfl rfl rfl ?_
    refine LL.val (R.assign rfl rfl) rfl rfl rfl ?_
    refine LL.nil ?_
    exact EE.round (t + 1, _, _) ⟨rfl, rfl, rfl, rfl, rfl, rfl, rfl, trivial⟩ ⟨by show t + 1 ≤ ps.length - posN s k; omega, by dsimp only; omega, q, qP, rp, hg3, by dsimp only; rw [e]; exact o1⟩ (by show ps.length - (t + 1) < ps.length - t; omega)
    refine SR.val rfl (R.load rfl rfl (I.ld1 rfl (by assumption))) rfl rfl hok ?_
    refine AA.pure 18 rfl hok (by kernel_rfl) (fun w' b' => R.buildV rfl rfl (v := .agg #[Value.int IntKind.i64 ↑(2 * i + 2), Value.int IntKind.u64 ↑(keyN s i)]) (fun _ => by kernel_rfl)) rfl rfl ?_
    refine AA.one 8 (by kernel_rfl) ?_
    refine SR.val rfl (R.load rfl rfl (I.ld1 rfl (by assumption))) rfl rfl hok ?_
    refine AA.pure 9 rfl hok (by kernel_rfl) (fun w' b' => R.buildV rfl rfl (v := .agg #[Value.int IntKind.i64 ↑(2 * i + 3), Value.int IntKind.u64 ↑(ptrN s i)]) (fun _ => by kernel_rfl)) rfl rfl ?_
    refine AA.one 19 (by kernel_rfl) ?_
    have lh23 := rp.lt
    refine ZR.lit (e := 59) [Value.int IntKind.i64 ↑(2 * i + 3), Value.int IntKind.u64 ↑(ptrN s i), Value.int IntKind.i64 ↑(2 * i + 2), Value.int IntKind.u64 ↑(keyN s i)] 2 rfl rfl rfl (fun _ => by kernel_rfl) rfl rfl ?_
    intro Wh25 gh26 egh26 rh27 zh28 bh24
    replace bh13 := bh13.trans (bh24.mono bh13.size)
    replace q := q.trans (bh24.mono q.size)
    replace qP := qP.trans (bh24.mono qP.size)
    replace rp := rp.up bh24
    replace c1 := cell_up c1 bh24
    replace c2 := cell_up c2 bh24
    replace o1 := o1.up bh24
    replace hok := hok.trans (bkept bh24 (fun j h => by have := h.1; have := hok.size; omega))
    have yh29 := hok.size
    refine ⟨hok, ?_⟩
    refine AA.one 20 (by kernel_rfl) ?_
    (refine SR.appendT2 rfl rfl rfl pEnc ElPut o1 (us := [(((2 * i + 3 : Nat) : Int), ptrN s i), (((2 * i + 2 : Nat) : Int), keyN s i)]) (RowL.readsT pEnc (ts := [(((2 * i + 3 : Nat) : Int), ptrN s i), (((2 * i + 2 : Nat) : Int), keyN s i)]) (by assumption) 2 (by simp)) (by simp [maxLen]; omega) (by simp; omega) (by omega) rfl rfl ?_; intro v' Wa oa gra hva; replace q := q.grown gra q.size (fun g hg => by have := own_ge o1 g hg; omega); replace qP := qP.grown gra qP.size (fun g hg => by have := own_ge o1 g hg; omega); replace rp := rp.grO gra (fun e => by have := own_ge o1 _ e; omega); replace hok := hok.trans (grown_kept gra (fun j h => by have := h.1; have := hok.size; omega) (fun j h e => by have := own_ge o1 j e; omega)); have hsz := gra.size; clear o1 hva gra; have o1 := oa; clear oa; refine ⟨hok, ?_⟩)
    refine AA.pure 21 rfl hok (by kernel_rfl) (fun w' b' => R.assign rfl rfl) rfl rfl ?_
    refine AA.done rfl ?_
    clear fzrp hok
    refine EE.inN ?_
    refine EE.thenN ?_
    refine CC.region ?_
    refine LL.val (R.move rfl rfl) rfl rfl rfl ?_
    refine LL.val (R.subI rfl rfl rfl (by omega)) rfl rfl rfl ?_
    refine LL.val (R.assign rfl rfl) rfl rfl rfl ?_
    refine LL.nil ?_
    exact EE.round (t + 1, _, _) ⟨rfl, rfl, rfl, rfl, rfl, rfl, rfl, trivial⟩ ⟨by show t + 1 ≤ ps.length - posN s k; omega, by dsimp only; omega, q, qP, rp, hg3, by dsimp only; rw [e]; exact o1⟩ (by show ps.length - (t + 1) < ps.length - t; omega)
  obtain rfl : t = ps.length - posN s k := by omega
  have e : putL left s ps.length (posN s k) k p = putA s ps.length (ps.length - posN s k) ++ [(((2 * posN s k + 1 : Nat) : Int), aheadN left s (posN s k)), (((2 * posN s k : Nat) : Int), k), (((2 * posN s k + 1 : Nat) : Int), p)] := by
    unfold putL
    rw [List.append_assoc, List.append_assoc]
    rfl
  rw [e]
  obtain ⟨xs, exs⟩ : ∃ xs, putA s ps.length (ps.length - posN s k) = xs := ⟨_, rfl⟩
  rw [exs] at o1 hl1 ⊢
  clear exs
  have og1 := own_ge o1
  obtain ⟨av1, cv1, rfl, hcv1⟩ := (o1.reads pEnc).form rfl
  have hAh : ∀ X, Below w.heap.size w X → Calls Try.prog 31 #[.int .u64 (left : Int), .slice a n c, .int .i64 (posN s k : Int)] X fun e w' => e = .returned (.int .u64 (aheadN left s (posN s k) : Int)) ∧ X = w' := fun X hb => dahead_any left _ n c _ s X (hvF X hb) hn h (by omega)
  refine CC.seq ?_
  refine CC.seq ?_
  refine CC.region ?_
  refine LL.val (R.move rfl rfl) rfl rfl rfl ?_
  refine LL.val (R.move rfl rfl) rfl rfl rfl ?_
  refine LL.val (R.geF rfl rfl rfl (by omega)) rfl rfl rfl ?_
  refine LL.nilS ?_
  refine CC.no rfl ?_
  refine CC.exit ?_
  refine EE.thenX ?_
  refine EE.thenX ?_
  refine EE.inX ?_
  refine EE.thenN ?_
  refine CC.seq ?_
  refine CC.freeZ (fun W_ j => j < W_.heap.size ∧ (j < X0.heap.size)) (by kernel_rfl) (by kernel_rfl) (fun Wi2 bi1 zi3 => ?_)
  replace q := q.trans (bi1.mono q.size)
  replace qP := qP.trans (bi1.mono qP.size)
  replace rp := rp.up bi1
  replace o1 := o1.up bi1
  have hok : Kept (fun j => j < Wi2.heap.size ∧ (j < X0.heap.size)) Wi2 Wi2 := Kept.refl _ _
  have fzrp := fzRow (K := fun j => j < Wi2.heap.size ∧ (j < X0.heap.size)) rp ⟨rp.lt, (by first | trivial | omega)⟩
  refine AA.pure 0 rfl hok (by kernel_rfl) (fun w' b' => R.move rfl rfl) rfl rfl ?_
  refine AA.pure 1 rfl hok (by kernel_rfl) (fun w' b' => R.move rfl rfl) rfl rfl ?_
  refine AA.pure 2 rfl hok (by kernel_rfl) (fun w' b' => R.mulcN rfl rfl rfl rfl (by omega)) rfl rfl ?_
  refine AA.pure 3 rfl hok (by kernel_rfl) (fun w' b' => R.addNc rfl rfl rfl rfl (by omega)) rfl rfl ?_
  refine AA.pure 4 rfl hok (by kernel_rfl) (fun w' b' => R.move rfl rfl) rfl rfl ?_
  refine AA.pure 5 rfl hok (by kernel_rfl) (fun w' b' => R.move rfl rfl) rfl rfl ?_
  refine AA.pure 6 rfl hok (by kernel_rfl) (fun w' b' => R.move rfl rfl) rfl rfl ?_
  refine AA.pure 9 rfl hok (by kernel_rfl) (fun w' b' => R.move rfl rfl) rfl rfl ?_
  refine AA.pure 10 rfl hok (by kernel_rfl) (fun w' b' => R.mulcN rfl rfl rfl rfl (by omega)) rfl rfl ?_
  refine AA.pure 11 rfl hok (by kernel_rfl) (fun w' b' => R.field rfl rfl (I.fld rfl)) rfl rfl ?_
  refine AA.pure 12 rfl hok (by kernel_rfl) (fun w' b' => R.load rfl rfl (I.ld1 rfl (RowL.cell (fzrp w' b') rfl))) rfl rfl ?_
  refine AA.pure 13 rfl hok (by kernel_rfl) (fun w' b' => R.buildV rfl rfl (v := .agg #[Value.int IntKind.i64 ↑(2 * posN s k), Value.int IntKind.u64 ↑k]) (fun _ => by kernel_rfl)) rfl rfl ?_
  refine AA.pure 14 rfl hok (by kernel_rfl) (fun w' b' => R.move rfl rfl) rfl rfl ?_
  refine AA.pure 15 rfl hok (by kernel_rfl) (fun w' b' => R.mulcN rfl rfl rfl rfl (by omega)) rfl rfl ?_
  refine AA.pure 16 rfl hok (by kernel_rfl) (fun w' b' => R.addNc rfl rfl rfl rfl (by omega)) rfl rfl ?_
  refine AA.pure 17 rfl hok (by kernel_rfl) (fun w' b' => R.field rfl rfl (I.fld rfl)) rfl rfl ?_
  refine AA.pure 18 rfl hok (by kernel_rfl) (fun w' b' => R.load rfl rfl (I.ld1 rfl (RowL.cell (fzrp w' b') rfl))) rfl rfl ?_
  refine AA.pure 19 rfl hok (by kernel_rfl) (fun w' b' => R.buildV rfl rfl (v := .agg #[Value.int IntKind.i64 ↑(2 * posN s k + 1), Value.int IntKind.u64 ↑p]) (fun _ => by kernel_rfl)) rfl rfl ?_
  refine AA.one 7 (by kernel_rfl) ?_
  refine SR.call rfl (R.call rfl rfl rfl) rfl rfl (hAh _ q) ?_
  rintro e W' ⟨rfl, rfl⟩
  refine ⟨_, rfl, hok, ?_⟩
  refine AA.pure 8 rfl hok (by kernel_rfl) (fun w' b' => R.buildV rfl rfl (v := .agg #[Value.int IntKind.i64 ↑(2 * posN s k + 1), Value.int IntKind.u64 ↑(aheadN left s (posN s k))]) (fun _ => by kernel_rfl)) rfl rfl ?_
  refine AA.one 20 (by kernel_rfl) ?_
  have li6 := rp.lt
  refine ZR.lit (e := 59) [Value.int IntKind.i64 ↑(2 * posN s k + 1), Value.int IntKind.u64 ↑(aheadN left s (posN s k)), Value.int IntKind.i64 ↑(2 * posN s k), Value.int IntKind.u64 ↑k, Value.int IntKind.i64 ↑(2 * posN s k + 1), Value.int IntKind.u64 ↑p] 3 rfl rfl rfl (fun _ => by kernel_rfl) rfl rfl ?_
  intro Wi8 gi9 egi9 ri10 zi11 bi7
  replace bi1 := bi1.trans (bi7.mono bi1.size)
  replace q := q.trans (bi7.mono q.size)
  replace qP := qP.trans (bi7.mono qP.size)
  replace rp := rp.up bi7
  replace o1 := o1.up bi7
  replace hok := hok.trans (bkept bi7 (fun j h => by have := h.1; have := hok.size; omega))
  have yi12 := hok.size
  refine ⟨hok, ?_⟩
  refine AA.one 21 (by kernel_rfl) ?_
  (refine SR.appendT2 rfl rfl rfl pEnc ElPut o1 (us := [(((2 * posN s k + 1 : Nat) : Int), aheadN left s (posN s k)), (((2 * posN s k : Nat) : Int), k), (((2 * posN s k + 1 : Nat) : Int), p)]) (RowL.readsT pEnc (ts := [(((2 * posN s k + 1 : Nat) : Int), aheadN left s (posN s k)), (((2 * posN s k : Nat) : Int), k), (((2 * posN s k + 1 : Nat) : Int), p)]) (by assumption) 3 (by simp)) (by simp [maxLen]; omega) (by simp; omega) (by omega) rfl rfl ?_; intro v' Wa oa gra hva; replace q := q.grown gra q.size (fun g hg => by have := own_ge o1 g hg; omega); replace qP := qP.grown gra qP.size (fun g hg => by have := own_ge o1 g hg; omega); replace rp := rp.grO gra (fun e => by have := own_ge o1 _ e; omega); replace hok := hok.trans (grown_kept gra (fun j h => by have := h.1; have := hok.size; omega) (fun j h e => by have := own_ge o1 j e; omega)); have hsz := gra.size; clear o1 hva gra; have o1 := oa; clear oa; refine ⟨hok, ?_⟩)
  refine AA.pure 22 rfl hok (by kernel_rfl) (fun w' b' => R.assign rfl rfl) rfl rfl ?_
  refine AA.pure 23 rfl hok (by kernel_rfl) (fun w' b' => R.assign rfl rfl) rfl rfl ?_
  refine AA.done rfl ?_
  clear fzrp hok
  refine EE.thenN ?_
  refine CC.ret ?_
  refine EE.ret _ rfl rfl ?_
  exact ⟨_, rfl, o1.lower zX, q⟩
end Go.Proofs.Ytfpcpnodcdgbdaa

/- slots: the document's Apply, empty. -/
namespace Go.Proofs.Ytfpcpnodcdgbdaa
set_option linter.unusedVariables false
set_option linter.unusedSimpArgs false
open Go.RowKit Go.Shelf
set_option maxRecDepth 100000
set_option maxHeartbeats 4000000
theorem dapply_any (n : Nat) (v vp : Value) (s : List Nat) (os : List Pt) (w : World) (hv : ReadsT uE 1 w v s) (hn : s.length = n) (h : n ≤ 1048576) (hp : ReadsT pE 2 w vp os) (hl : os.length ≤ 1048576) (h0 : ∀ p ∈ os, 0 ≤ p.1) : Calls Try.prog 28 #[v, vp] w fun e w' => ∃ vo, e = .returned vo ∧ OwnsT uE 1 w' w.heap.size 22 vo (applyS s os) ∧ Below w.heap.size w w' := by
  have q := Below.refl w.heap.size w
  obtain ⟨N, hN⟩ : ∃ N, os.length = N := ⟨_, rfl⟩
  obtain ⟨a, c, rfl, hc⟩ := hv.form hn
  obtain ⟨a2, c2, rfl, hc2⟩ := hp.form hN
  rw [hN] at hl
  have hvF : ∀ X, Below w.heap.size w X → ReadsT uE 1 X (.slice a n c) s := fun X b => hv.up b
  have hpF : ∀ X, Below w.heap.size w X → ReadsT pE 2 X (.slice a2 N c2) os := fun X b => hp.up b
  clear hv hp
  refine X.fn Try.func28 rfl (n := 45) rfl rfl ?_
  refine CC.seq ?_
  refine CC.region ?_
  refine LL.val (R.assign rfl rfl) rfl rfl rfl ?_
  refine LL.nilS ?_
  refine CC.seq ?_
  refine CC.region ?_
  refine LL.lit (e := 22) [] 0 rfl rfl (fun _ => by kernel_rfl) rfl rfl ?_
  intro W2 g3 eg3 r4 z5 b1
  replace q := q.trans (b1.mono q.size)
  refine LL.val (R.move rfl rfl) rfl rfl rfl ?_
  (refine LL.appendT2 rfl rfl uEnc ElU (RowL.ownsT (base := w.heap.size) uEnc (ts := []) (by assumption) (by omega) (by simp)) (us := s) (hvF _ q) (by simp [maxLen]; omega) (by simp; omega) (by have := q.size; omega) rfl rfl ?_; intro v' Wa oa gra hva; replace q := q.grown gra q.size (fun g hg => by cases hg; dsimp only; omega); clear hva gra; have o1 := oa; clear oa; rw [List.nil_append] at o1)
  refine LL.val (R.assign rfl rfl) rfl rfl rfl ?_
  refine LL.nilS ?_
  refine CC.seq ?_
  refine CC.seq ?_
  refine CC.region ?_
  refine LL.val (R.assign rfl rfl) rfl rfl rfl ?_
  refine LL.nilS ?_
  refine CC.block ?_
  have yq := q.size
  refine CC.loop (α := Nat) (fun i => [(1, .slice a2 N c2), (5, v'), (6, .int .i64 (i : Int))]) (fun i W => i ≤ N ∧ Below w.heap.size w W ∧ OwnsT uE 1 W w.heap.size 22 v' (applyS s (os.take i))) (fun i => N - i) 0 ⟨rfl, rfl, rfl, trivial⟩ ⟨Nat.zero_le _, q, o1⟩ ?_
  clear q o1
  rintro i W ⟨hi, q, o1⟩
  have yq := q.size
  show CC none Try.prog _ 45 [] (sl [(1, .slice a2 N c2), (5, v'), (6, .int .i64 (i : Int))]) _ W
  by_cases hlt : i < N
  case neg =>
    obtain rfl : i = N := by omega
    rw [List.take_of_length_le (by omega)] at o1
    refine CC.seq ?_
    refine CC.seq ?_
    refine CC.region ?_
    refine LL.val (R.move rfl rfl) rfl rfl rfl ?_
    refine LL.val (R.move rfl rfl) rfl rfl rfl ?_
    refine LL.val (R.len rfl rfl rfl rfl) rfl rfl rfl ?_
    refine LL.val (R.ltF rfl rfl rfl (by omega)) rfl rfl rfl ?_
    refine LL.nilS ?_
    refine CC.no rfl ?_
    refine CC.exit ?_
    refine EE.thenX ?_
    refine EE.thenX ?_
    refine EE.inX ?_
    refine EE.thenN ?_
    refine CC.seq ?_
    refine CC.region ?_
    refine LL.val (R.move rfl rfl) rfl rfl rfl ?_
    refine LL.val (R.assign rfl rfl) rfl rfl rfl ?_
    refine LL.nilS ?_
    refine CC.ret ?_
    refine EE.ret _ rfl rfl ?_
    exact ⟨_, rfl, o1, q⟩
  obtain ⟨⟨z, y⟩, hx⟩ : ∃ x, os[i]? = some x := ⟨_, List.getElem?_eq_getElem (by omega)⟩
  have hz := h0 _ (List.mem_of_getElem? hx)
  simp only at hz
  obtain ⟨j, rfl⟩ := Int.eq_ofNat_of_zero_le hz
  obtain ⟨b1, o1', rfl, _, _⟩ := (hpF _ q).get pEnc hx
  have c1 : W.cell? ⟨b1, o1' + i * 2, none⟩ = some (.int .i64 (j : Int)) := ((hpF W q).elemN pEnc hx).cell (j := 0) rfl
  have c2 : W.cell? ⟨b1, o1' + i * 2 + 1, none⟩ = some (.int .u64 (y : Int)) := ((hpF W q).elemN pEnc hx).cell (j := 1) rfl
  have hln : (applyS s (os.take i)).length = n := by rw [applyS_len]; exact hn
  have es : applyS s (os.take (i + 1)) = (applyS s (os.take i)).set j y := by
    rw [List.take_add_one, hx, applyS_app]
    exact applyS_one _ _ _
  obtain ⟨sx, esx⟩ : ∃ sx, applyS s (os.take i) = sx := ⟨_, rfl⟩
  rw [esx] at o1 hln es
  clear esx
  by_cases hj : j < n
  case neg =>
    have e2 : sx.set j y = sx := List.set_eq_of_length_le (by omega)
    rw [e2] at es
    obtain ⟨av, cv, rfl, hcv⟩ := (o1.reads uEnc).form hln
    refine CC.seq ?_
    refine CC.seq ?_
    refine CC.region ?_
    refine LL.val (R.move rfl rfl) rfl rfl rfl ?_
    refine LL.val (R.move rfl rfl) rfl rfl rfl ?_
    refine LL.val (R.len rfl rfl rfl rfl) rfl rfl rfl ?_
    refine LL.val (R.ltT rfl rfl rfl (by omega)) rfl rfl rfl ?_
    refine LL.nilS ?_
    refine CC.yes rfl ?_
    refine CC.skip ?_
    refine EE.thenN ?_
    refine CC.seq ?_
    refine CC.block ?_
    refine CC.seq ?_
    refine CC.region ?_
    refine LL.val (R.move rfl rfl) rfl rfl rfl ?_
    refine LL.val (R.move rfl rfl) rfl rfl rfl ?_
    refine LL.val (R.index rfl rfl rfl (I.ixS rfl (by omega))) rfl rfl rfl ?_
    refine LL.val (R.field rfl rfl (I.fld rfl)) rfl rfl rfl ?_
    refine LL.val (R.load rfl rfl (I.ld1 rfl (by assumption))) rfl rfl rfl ?_
    refine LL.val (R.geT rfl rfl rfl (by omega)) rfl rfl rfl ?_
    refine LL.val (R.move rfl rfl) rfl rfl rfl ?_
    refine LL.val (R.move rfl rfl) rfl rfl rfl ?_
    refine LL.val (R.move rfl rfl) rfl rfl rfl ?_
    refine LL.val (R.index rfl rfl rfl (I.ixS rfl (by omega))) rfl rfl rfl ?_
    refine LL.val (R.field rfl rfl (I.fld rfl)) rfl rfl rfl ?_
    refine LL.val (R.load rfl rfl (I.ld1 rfl (by assumption))) rfl rfl rfl ?_
    refine LL.val (R.move rfl rfl) rfl rfl rfl ?_
    refine LL.val (R.len rfl rfl rfl rfl) rfl rfl rfl ?_
    refine LL.val (R.ltF rfl rfl rfl (by omega)) rfl rfl rfl ?_
    refine LL.val (R.pick rfl rfl rfl) rfl rfl rfl ?_
    refine LL.nilS ?_
    refine CC.no rfl ?_
    refine CC.skip ?_
    refine EE.inN ?_
    refine EE.thenN ?_
    refine CC.region ?_
    refine LL.val (R.move rfl rfl) rfl rfl rfl ?_
    refine LL.val (R.addNc rfl rfl rfl rfl (by omega)) rfl rfl rfl ?_
    refine LL.val (R.assign rfl rfl) rfl rfl rfl ?_
    refine LL.nil ?_
    exact EE.round (i + 1) ⟨rfl, rfl, rfl, trivial⟩ ⟨by show i + 1 ≤ N; omega, q, by rw [es]; exact o1⟩ (by show N - (i + 1) < N - i; omega)
  obtain ⟨g, cg, rfl, hbg, hgw, hcg⟩ := ownsT_form o1 hln (by omega)
  obtain ⟨u, hu⟩ : ∃ u, sx[j]? = some u := ⟨_, List.getElem?_eq_getElem (by omega)⟩
  refine CC.seq ?_
  refine CC.seq ?_
  refine CC.region ?_
  refine LL.val (R.move rfl rfl) rfl rfl rfl ?_
  refine LL.val (R.move rfl rfl) rfl rfl rfl ?_
  refine LL.val (R.len rfl rfl rfl rfl) rfl rfl rfl ?_
  refine LL.val (R.ltT rfl rfl rfl (by omega)) rfl rfl rfl ?_
  refine LL.nilS ?_
  refine CC.yes rfl ?_
  refine CC.skip ?_
  refine EE.thenN ?_
  refine CC.seq ?_
  refine CC.block ?_
  refine CC.seq ?_
  refine CC.region ?_
  refine LL.val (R.move rfl rfl) rfl rfl rfl ?_
  refine LL.val (R.move rfl rfl) rfl rfl rfl ?_
  refine LL.val (R.index rfl rfl rfl (I.ixS rfl (by omega))) rfl rfl rfl ?_
  refine LL.val (R.field rfl rfl (I.fld rfl)) rfl rfl rfl ?_
  refine LL.val (R.load rfl rfl (I.ld1 rfl (by assumption))) rfl rfl rfl ?_
  refine LL.val (R.geT rfl rfl rfl (by omega)) rfl rfl rfl ?_
  refine LL.val (R.move rfl rfl) rfl rfl rfl ?_
  refine LL.val (R.move rfl rfl) rfl rfl rfl ?_
  refine LL.val (R.move rfl rfl) rfl rfl rfl ?_
  refine LL.val (R.index rfl rfl rfl (I.ixS rfl (by omega))) rfl rfl rfl ?_
  refine LL.val (R.field rfl rfl (I.fld rfl)) rfl rfl rfl ?_
  refine LL.val (R.load rfl rfl (I.ld1 rfl (by assumption))) rfl rfl rfl ?_
  refine LL.val (R.move rfl rfl) rfl rfl rfl ?_
  refine LL.val (R.len rfl rfl rfl rfl) rfl rfl rfl ?_
  refine LL.val (R.ltT rfl rfl rfl (by omega)) rfl rfl rfl ?_
  refine LL.val (R.pick rfl rfl rfl) rfl rfl rfl ?_
  refine LL.nilS ?_
  refine CC.yes rfl ?_
  refine CC.tailB 12 (by kernel_rfl) (by kernel_rfl) (fun Wc2 bc1 zc3 => ?_)
  replace q := q.trans (bc1.mono q.size)
  replace c1 := cell_up c1 bc1
  replace c2 := cell_up c2 bc1
  replace o1 := o1.up bc1
  refine SS.val (R.move rfl rfl) rfl rfl ?_
  refine SS.val (R.move rfl rfl) rfl rfl ?_
  refine SS.val (R.move rfl rfl) rfl rfl ?_
  refine SS.val (R.index rfl rfl rfl (I.ixS rfl (by omega))) rfl rfl ?_
  refine SS.val (R.field rfl rfl (I.fld rfl)) rfl rfl ?_
  refine SS.val (R.load rfl rfl (I.ld1 rfl (by assumption))) rfl rfl ?_
  refine SS.val (R.move rfl rfl) rfl rfl ?_
  refine SS.val (R.move rfl rfl) rfl rfl ?_
  refine SS.val (R.index rfl rfl rfl (I.ixS rfl (by omega))) rfl rfl ?_
  refine SS.val (R.field rfl rfl (I.fld rfl)) rfl rfl ?_
  refine SS.val (R.load rfl rfl (I.ld1 rfl (by assumption))) rfl rfl ?_
  refine SS.val (R.index rfl rfl rfl (I.ixS1 rfl (by omega))) rfl rfl ?_
  refine SS.nil ?_
  (refine LL.storeF j 0 u y rfl rfl rfl rfl (by simp) uEnc o1 hu (by decide) rfl rfl rfl rfl rfl ?_; intro Wa oa gra hsz; replace q := q.grown gra q.size (fun g hg => by cases hg; omega); clear gra o1; have o1 := oa; clear oa)
  refine LL.nil ?_
  refine EE.inN ?_
  refine EE.thenN ?_
  refine CC.region ?_
  refine LL.val (R.move rfl rfl) rfl rfl rfl ?_
  refine LL.val (R.addNc rfl rfl rfl rfl (by omega)) rfl rfl rfl ?_
  refine LL.val (R.assign rfl rfl) rfl rfl rfl ?_
  refine LL.nil ?_
  exact EE.round (i + 1) ⟨rfl, rfl, rfl, trivial⟩ ⟨by show i + 1 ≤ N; omega, q, by rw [es]; exact o1⟩ (by show N - (i + 1) < N - i; omega)
--C ref09_Raw | draw_any _ _ _ s _ (hvF _ q) hn h | S
--C ref09_ahead | hAh @w q | S
theorem dempty_any (left n : Nat) (v : Value) (s : List Nat) (w : World) (hv : ReadsT uE 1 w v s) (hn : s.length = n) (h : n ≤ 1048576) : Calls Try.prog 58 #[.int .u64 (left : Int), v] w fun e w' => ∃ z : Int, e = .returned (.int .i64 z) ∧ (∀ d, dblO left s = some d → z = (d : Int)) ∧ (dblO left s = none → z = -1) ∧ Below w.heap.size w w' := by
  have q := Below.refl w.heap.size w
  obtain ⟨a, c, rfl, hc⟩ := hv.form hn
  have hvF : ∀ X, Below w.heap.size w X → ReadsT uE 1 X (.slice a n c) s := fun X b => hv.up b
  clear hv
  have hov := over_le s
  refine X.fn Try.func58 rfl (n := 24) rfl rfl ?_
  refine CC.seq ?_
  refine CC.region ?_
  refine LL.val (R.assign rfl rfl) rfl rfl rfl ?_
  refine LL.nilS ?_
  refine CC.seq ?_
  refine CC.seq ?_
  refine CC.region ?_
  refine LL.val (R.assign rfl rfl) rfl rfl rfl ?_
  refine LL.nilS ?_
  refine CC.block ?_
  refine CC.loop (α := Nat) (fun i => [(0, .int .u64 (left : Int)), (1, .slice a n c), (5, .int .i64 (i : Int))]) (fun i W => i ≤ overN s ∧ Below w.heap.size w W ∧ ∀ j, j < i → ptrN s j ≠ aheadN left s j) (fun i => overN s - i) 0 ⟨rfl, rfl, rfl, trivial⟩ ⟨Nat.zero_le _, q, fun j h => by omega⟩ ?_
  clear q
  rintro i W ⟨hi, q, hb⟩
  have yq := q.size
  show CC none Try.prog _ 24 [] (sl [(0, .int .u64 (left : Int)), (1, .slice a n c), (5, .int .i64 (i : Int))]) _ W
  by_cases hlt : i < overN s
  case neg =>
    obtain rfl : i = overN s := by omega
    have hno := dblO_no (left := left) hb
    clear hb
    refine CC.seq ?_
    refine CC.seq ?_
    refine CC.region ?_
    refine LL.val (R.move rfl rfl) rfl rfl rfl ?_
    refine LL.val (R.move rfl rfl) rfl rfl rfl ?_
    refine LL.call (R.call rfl rfl rfl) rfl rfl rfl (draw_any _ _ _ s _ (hvF _ q) hn h) ?_
    rintro e W' ⟨rfl, rfl⟩
    refine ⟨_, rfl, ?_⟩
    refine LL.val (R.ltF rfl rfl rfl (by omega)) rfl rfl rfl ?_
    refine LL.nilS ?_
    refine CC.no rfl ?_
    refine CC.exit ?_
    refine EE.thenX ?_
    refine EE.thenX ?_
    refine EE.inX ?_
    refine EE.thenN ?_
    refine CC.seq ?_
    refine CC.region ?_
    refine LL.val (R.assign rfl rfl) rfl rfl rfl ?_
    refine LL.nilS ?_
    refine CC.ret ?_
    refine EE.ret _ rfl rfl ?_
    exact ⟨_, rfl, fun d hd => (by rw [hno] at hd; cases hd), fun _ => rfl, q⟩
  obtain ⟨b, o, rfl, lb, m1⟩ := u_at (hvF _ (Below.refl _ _)) (ptrN_at (s := s) (j := i) (by omega))
  have c1 := m1 W q
  have hAh : ∀ X, Below w.heap.size w X → Calls Try.prog 31 #[.int .u64 (left : Int), .slice (some ⟨b, o, none⟩) n c, .int .i64 (i : Int)] X fun e w' => e = .returned (.int .u64 (aheadN left s i : Int)) ∧ X = w' := fun X hb => dahead_any left _ n c i s X (hvF X hb) hn h (by omega)
  by_cases hp : ptrN s i = aheadN left s i
  · have hyes := dblO_at hlt hp hb
    clear hb
    refine CC.seq ?_
    refine CC.seq ?_
    refine CC.region ?_
    refine LL.val (R.move rfl rfl) rfl rfl rfl ?_
    refine LL.val (R.move rfl rfl) rfl rfl rfl ?_
    refine LL.call (R.call rfl rfl rfl) rfl rfl rfl (draw_any _ _ _ s _ (hvF _ q) hn h) ?_
    rintro e W' ⟨rfl, rfl⟩
    refine ⟨_, rfl, ?_⟩
    refine LL.val (R.ltT rfl rfl rfl (by omega)) rfl rfl rfl ?_
    refine LL.nilS ?_
    refine CC.yes rfl ?_
    refine CC.skip ?_
    refine EE.thenN ?_
    refine CC.seq ?_
    refine CC.block ?_
    refine CC.seq ?_
    refine CC.grow (by kernel_rfl) (by kernel_rfl) ?_
    refine GG.val (fun w' b' => R.move rfl rfl) rfl rfl ?_
    refine GG.val (fun w' b' => R.move rfl rfl) rfl rfl ?_
    refine GG.val (fun w' b' => R.mulcN rfl rfl rfl rfl (by omega)) rfl rfl ?_
    refine GG.val (fun w' b' => R.addNc rfl rfl rfl rfl (by omega)) rfl rfl ?_
    refine GG.val (fun w' b' => R.index rfl rfl rfl (I.ixS1 rfl (by omega))) rfl rfl ?_
    refine GG.val (fun w' b' => R.load rfl rfl (I.ld1 rfl (cell_up c1 b'))) rfl rfl ?_
    refine GG.val (fun w' b' => R.move rfl rfl) rfl rfl ?_
    refine GG.val (fun w' b' => R.move rfl rfl) rfl rfl ?_
    refine GG.val (fun w' b' => R.move rfl rfl) rfl rfl ?_
    refine GG.call (fun w' => (R.call rfl rfl rfl)) rfl rfl (fun w' b' => (hAh w' (q.trans (b'.mono q.size))).mono fun e W' h => ⟨h.1, h.2 ▸ b'⟩) ?_
    refine GG.val (fun w' b' => R.eqT rfl rfl rfl (by omega)) rfl rfl ?_
    refine GG.nilQ (fun Wb5 bb4 => ?_)
    have zbb4 := bb4.size
    replace q := q.trans (bb4.mono q.size)
    replace c1 := cell_up c1 bb4
    refine EE.thenN ?_
    refine CC.yes rfl ?_
    refine CC.seq ?_
    refine CC.region ?_
    refine LL.val (R.move rfl rfl) rfl rfl rfl ?_
    refine LL.val (R.assign rfl rfl) rfl rfl rfl ?_
    refine LL.nilS ?_
    refine CC.ret ?_
    refine EE.inR ?_
    refine EE.thenR ?_
    refine EE.thenR ?_
    refine EE.inR ?_
    refine EE.thenR ?_
    refine EE.ret _ rfl rfl ?_
    exact ⟨_, rfl, fun d hd => (by rw [hyes] at hd; cases hd; rfl), fun hno => (by rw [hno] at hyes; cases hyes), q⟩
  · have hb' : ∀ j, j < i + 1 → ptrN s j ≠ aheadN left s j := fun j hj => by
      by_cases e : j = i
      · subst e; exact hp
      · exact hb j (by omega)
    clear hb
    refine CC.seq ?_
    refine CC.seq ?_
    refine CC.region ?_
    refine LL.val (R.move rfl rfl) rfl rfl rfl ?_
    refine LL.val (R.move rfl rfl) rfl rfl rfl ?_
    refine LL.call (R.call rfl rfl rfl) rfl rfl rfl (draw_any _ _ _ s _ (hvF _ q) hn h) ?_
    rintro e W' ⟨rfl, rfl⟩
    refine ⟨_, rfl, ?_⟩
    refine LL.val (R.ltT rfl rfl rfl (by omega)) rfl rfl rfl ?_
    refine LL.nilS ?_
    refine CC.yes rfl ?_
    refine CC.skip ?_
    refine EE.thenN ?_
    refine CC.seq ?_
    refine CC.block ?_
    refine CC.seq ?_
    refine CC.grow (by kernel_rfl) (by kernel_rfl) ?_
    refine GG.val (fun w' b' => R.move rfl rfl) rfl rfl ?_
    refine GG.val (fun w' b' => R.move rfl rfl) rfl rfl ?_
    refine GG.val (fun w' b' => R.mulcN rfl rfl rfl rfl (by omega)) rfl rfl ?_
    refine GG.val (fun w' b' => R.addNc rfl rfl rfl rfl (by omega)) rfl rfl ?_
    refine GG.val (fun w' b' => R.index rfl rfl rfl (I.ixS1 rfl (by omega))) rfl rfl ?_
    refine GG.val (fun w' b' => R.load rfl rfl (I.ld1 rfl (cell_up c1 b'))) rfl rfl ?_
    refine GG.val (fun w' b' => R.move rfl rfl) rfl rfl ?_
    refine GG.val (fun w' b' => R.move rfl rfl) rfl rfl ?_
    refine GG.val (fun w' b' => R.move rfl rfl) rfl rfl ?_
    refine GG.call (fun w' => (R.call rfl rfl rfl)) rfl rfl (fun w' b' => (hAh w' (q.trans (b'.mono q.size))).mono fun e W' h => ⟨h.1, h.2 ▸ b'⟩) ?_
    refine GG.val (fun w' b' => R.eqF rfl rfl rfl (by omega)) rfl rfl ?_
    refine GG.nilQ (fun Wc5 bc4 => ?_)
    have zbc4 := bc4.size
    replace q := q.trans (bc4.mono q.size)
    replace c1 := cell_up c1 bc4
    refine EE.thenN ?_
    refine CC.no rfl ?_
    refine CC.skip ?_
    refine EE.inN ?_
    refine EE.thenN ?_
    refine CC.region ?_
    refine LL.val (R.move rfl rfl) rfl rfl rfl ?_
    refine LL.val (R.addNc rfl rfl rfl rfl (by omega)) rfl rfl rfl ?_
    refine LL.val (R.assign rfl rfl) rfl rfl rfl ?_
    refine LL.nil ?_
    exact EE.round (i + 1) ⟨rfl, rfl, rfl, trivial⟩ ⟨by show i + 1 ≤ overN s; omega, q, hb'⟩ (by show overN s - (i + 1) < overN s - i; omega)
end Go.Proofs.Ytfpcpnodcdgbdaa
