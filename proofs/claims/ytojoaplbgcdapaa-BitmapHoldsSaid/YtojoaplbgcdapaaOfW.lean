/- The walk of BitmapOf. -/
import Derived.Test.YtojoaplbgcdapaaIsB
namespace Go.Proofs.Ytojoaplbgcdapaa
set_option linter.unusedVariables false
set_option linter.unusedSimpArgs false
open Go.RowKit Go.Shelf

set_option maxRecDepth 100000 in
set_option maxHeartbeats 8000000 in
theorem of_walk (bits : Int) (va : Value) (l : List Nat) (w : World) (hbits : -9223372036854775808 ≤ bits ∧ bits ≤ 9223372036854775807) (ha : ReadsT uE 1 w va l) (hwf : ∀ x ∈ l, x < 18446744073709551616) (hlx : l.length ≤ 9223372036854775807) :
    Calls Try.prog 3 #[.int .i64 bits, va] w fun e w' => e = .returned (.bool true) ∧ Below w.heap.size w w' := by
  obtain ⟨N, hN⟩ : ∃ N, l.length = N := ⟨_, rfl⟩
  obtain ⟨a, cap, rfl, hc⟩ := ha.form hN
  rw [hN] at hlx
  have q := Below.refl w.heap.size w
  refine X.fn Try.func3 rfl (n := 72) rfl rfl ?_
  by_cases h20 : 20 < N
  · (refine CC.seq ?_; refine CC.region ?_; refine LL.val (R.assign rfl rfl) rfl rfl rfl ?_; refine LL.nilS ?_; refine CC.seq ?_; refine CC.seq ?_; refine CC.region ?_; refine LL.val (R.move rfl rfl) rfl rfl rfl ?_; refine LL.val (R.len rfl rfl rfl rfl) rfl rfl rfl ?_; refine LL.val (R.gtT rfl rfl rfl (by omega)) rfl rfl rfl ?_; refine LL.nilS ?_; refine CC.yes rfl ?_; refine CC.seq ?_; refine CC.region ?_)
    refine LL.call (R.call rfl rfl rfl) rfl rfl rfl (works_any _) ?_
    rintro e W ⟨rfl, b⟩
    refine ⟨_, rfl, ?_⟩
    have hsz_ := b.size
    replace q := q.trans (b.mono q.size)
    (refine LL.val (R.assign rfl rfl) rfl rfl rfl ?_; refine LL.nilS ?_; refine CC.ret ?_; refine EE.thenR ?_)
    refine EE.ret _ rfl rfl ?_
    exact ⟨rfl, q⟩
  have ha0 := ha
  (refine CC.seq ?_; refine CC.region ?_; refine LL.val (R.assign rfl rfl) rfl rfl rfl ?_; refine LL.nilS ?_; refine CC.seq ?_; refine CC.seq ?_; refine CC.region ?_; refine LL.val (R.move rfl rfl) rfl rfl rfl ?_; refine LL.val (R.len rfl rfl rfl rfl) rfl rfl rfl ?_; refine LL.val (R.gtF rfl rfl rfl (by omega)) rfl rfl rfl ?_; refine LL.nilS ?_; refine CC.no rfl ?_; refine CC.skip ?_; refine EE.thenN ?_; refine CC.seq ?_; refine CC.region ?_; refine LL.val (R.move rfl rfl) rfl rfl rfl ?_)
  refine LL.lit (e := 61) [] 0 rfl rfl (fun _ => by kernel_rfl) rfl rfl ?_
  intro W g eg r0 zg b
  have hsz_ := b.size
  replace q := q.trans (b.mono q.size)
  replace ha := ha.up b
  have o0 : OwnsT uE 1 W g 61 (.slice (some ⟨g, 0, none⟩) 0 0) [] := RowL.ownsT (ts := []) uEnc r0 (Nat.le_refl _) (by simp)
  (refine LL.val (R.move rfl rfl) rfl rfl rfl ?_)
  refine LL.appendT2 rfl rfl uEnc ElU o0 ha (by simp [maxLen]; omega) (by simp; omega) (by omega) rfl rfl ?_
  intro v1 W o1 g1 _
  replace q := q.trans ((o0.bel g1 (by omega)).mono (by omega))
  replace ha := ha0.up q
  rw [List.nil_append] at o1
  clear o0 r0 g1
  skip
  refine LL.call (R.call rfl rfl rfl) rfl rfl rfl (of_any bits v1 l W hbits (o1.reads uEnc) (by omega) hwf) ?_
  rintro e W ⟨hcase, b⟩
  have hsz_ := b.size
  replace q := q.trans (b.mono q.size)
  replace ha := ha.up b
  by_cases hok : OfOk bits l
  case neg =>
    obtain rfl : e = .returned (.tuple #[.pointer none, .int .i64 2]) := by
      rcases hcase with ⟨h, _⟩ | ⟨_, h⟩
      · exact absurd h hok
      · exact h
    refine ⟨_, rfl, ?_⟩
    (refine LL.val (R.move rfl rfl) rfl rfl rfl ?_; refine LL.val (R.extract rfl rfl rfl) rfl rfl rfl ?_; refine LL.val (R.extract rfl rfl rfl) rfl rfl rfl ?_; refine LL.val (R.assign rfl rfl) rfl rfl rfl ?_; refine LL.val (R.assign rfl rfl) rfl rfl rfl ?_; refine LL.nilS ?_; refine CC.seq ?_; refine CC.region ?_; refine LL.val (R.move rfl rfl) rfl rfl rfl ?_; refine LL.val (R.move rfl rfl) rfl rfl rfl ?_)
    refine LL.call (R.call rfl rfl rfl) rfl rfl rfl (rof_any bits _ l W hbits ha (by omega) hwf) ?_
    rintro e W ⟨hcase, b⟩
    have hsz_ := b.size
    replace q := q.trans (b.mono q.size)
    obtain rfl : e = .returned (.tuple #[.slice none 0 0, .int .i64 2]) := by
      rcases hcase with ⟨h, _⟩ | ⟨_, h⟩
      · exact absurd h hok
      · exact h
    refine ⟨_, rfl, ?_⟩
    (refine LL.val (R.move rfl rfl) rfl rfl rfl ?_; refine LL.val (R.extract rfl rfl rfl) rfl rfl rfl ?_; refine LL.val (R.extract rfl rfl rfl) rfl rfl rfl ?_; refine LL.val (R.assign rfl rfl) rfl rfl rfl ?_; refine LL.val (R.assign rfl rfl) rfl rfl rfl ?_; refine LL.nilS ?_; refine CC.seq ?_; refine CC.seq ?_; refine CC.region ?_; refine LL.val (R.move rfl rfl) rfl rfl rfl ?_)
    refine LL.call (R.call rfl rfl rfl) rfl rfl rfl (num_any _ _) ?_
    rintro e W ⟨rfl, rfl⟩
    refine ⟨_, rfl, ?_⟩
    (refine LL.val (R.move rfl rfl) rfl rfl rfl ?_; refine LL.val (R.neF rfl rfl rfl (by omega)) rfl rfl rfl ?_; refine LL.val (R.move rfl rfl) rfl rfl rfl ?_; refine LL.val (R.move rfl rfl) rfl rfl rfl ?_; refine LL.val (R.eqPtr rfl rfl rfl rfl rfl) rfl rfl rfl ?_; refine LL.val (R.move rfl rfl) rfl rfl rfl ?_; refine LL.val (R.neT rfl rfl rfl (by omega)) rfl rfl rfl ?_; refine LL.val (R.neBool rfl rfl rfl rfl rfl) rfl rfl rfl ?_; refine LL.val (R.pick rfl rfl rfl) rfl rfl rfl ?_; refine LL.nilS ?_; refine CC.no rfl ?_; refine CC.skip ?_; refine EE.thenN ?_; refine CC.seq ?_; refine CC.seq ?_; refine CC.region ?_; refine LL.val (R.move rfl rfl) rfl rfl rfl ?_; refine LL.val (R.neT rfl rfl rfl (by omega)) rfl rfl rfl ?_; refine LL.nilS ?_; refine CC.yes rfl ?_; refine CC.seq ?_; refine CC.region ?_)
    refine LL.call (R.call rfl rfl rfl) rfl rfl rfl (works_any _) ?_
    rintro e W ⟨rfl, b⟩
    refine ⟨_, rfl, ?_⟩
    have hsz_ := b.size
    replace q := q.trans (b.mono q.size)
    (refine LL.val (R.assign rfl rfl) rfl rfl rfl ?_; refine LL.nilS ?_; refine CC.ret ?_; refine EE.thenR ?_)
    refine EE.ret _ rfl rfl ?_
    exact ⟨rfl, q⟩
  case pos =>
    obtain ⟨n, rfl⟩ : ∃ n : Nat, bits = n := ⟨bits.toNat, by have := hok.1; omega⟩
    obtain ⟨g, v, rfl, h⟩ : ∃ g v, e = .returned (.tuple #[.pointer (some ⟨g, 0, none⟩), .int .i64 0]) ∧ BmAt W _ g v n l := by
      rcases hcase with ⟨_, g, v, he, hB, hg⟩ | ⟨hno, _⟩
      · exact ⟨g, v, he, hB⟩
      · exact absurd hok hno
    clear hcase
    refine ⟨_, rfl, ?_⟩
    (refine LL.val (R.move rfl rfl) rfl rfl rfl ?_; refine LL.val (R.extract rfl rfl rfl) rfl rfl rfl ?_; refine LL.val (R.extract rfl rfl rfl) rfl rfl rfl ?_; refine LL.val (R.assign rfl rfl) rfl rfl rfl ?_; refine LL.val (R.assign rfl rfl) rfl rfl rfl ?_; refine LL.nilS ?_; refine CC.seq ?_; refine CC.region ?_; refine LL.val (R.move rfl rfl) rfl rfl rfl ?_; refine LL.val (R.move rfl rfl) rfl rfl rfl ?_)
    refine LL.call (R.call rfl rfl rfl) rfl rfl rfl (rof_any n _ l W hbits ha (by omega) hwf) ?_
    rintro e W ⟨hcase, b⟩
    have hsz_ := b.size
    replace q := q.trans (b.mono q.size)
    replace ha := ha.up b
    replace h := h.up b
    obtain ⟨vb, rfl, ob⟩ : ∃ v, e = .returned (.tuple #[v, .int .i64 0]) ∧ OwnsT bE 1 W _ 4 v (mapB l n) := by
      rcases hcase with ⟨_, v, he, hB⟩ | ⟨hno, _⟩
      · exact ⟨v, he, hB⟩
      · exact absurd hok hno
    clear hcase
    have hb := ob.reads bEnc
    refine ⟨_, rfl, ?_⟩
    (refine LL.val (R.move rfl rfl) rfl rfl rfl ?_; refine LL.val (R.extract rfl rfl rfl) rfl rfl rfl ?_; refine LL.val (R.extract rfl rfl rfl) rfl rfl rfl ?_; refine LL.val (R.assign rfl rfl) rfl rfl rfl ?_; refine LL.val (R.assign rfl rfl) rfl rfl rfl ?_; refine LL.nilS ?_; refine CC.seq ?_; refine CC.seq ?_; refine CC.region ?_; refine LL.val (R.move rfl rfl) rfl rfl rfl ?_)
    refine LL.call (R.call rfl rfl rfl) rfl rfl rfl (num_any _ _) ?_
    rintro e W ⟨rfl, rfl⟩
    refine ⟨_, rfl, ?_⟩
    (refine LL.val (R.move rfl rfl) rfl rfl rfl ?_; refine LL.val (R.neF rfl rfl rfl (by omega)) rfl rfl rfl ?_; refine LL.val (R.move rfl rfl) rfl rfl rfl ?_; refine LL.val (R.move rfl rfl) rfl rfl rfl ?_; refine LL.val (R.eqPtr rfl rfl rfl rfl rfl) rfl rfl rfl ?_; refine LL.val (R.move rfl rfl) rfl rfl rfl ?_; refine LL.val (R.neF rfl rfl rfl (by omega)) rfl rfl rfl ?_; refine LL.val (R.neBool rfl rfl rfl rfl rfl) rfl rfl rfl ?_; refine LL.val (R.pick rfl rfl rfl) rfl rfl rfl ?_; refine LL.nilS ?_; refine CC.no rfl ?_; refine CC.skip ?_; refine EE.thenN ?_; refine CC.seq ?_; refine CC.seq ?_; refine CC.region ?_; refine LL.val (R.move rfl rfl) rfl rfl rfl ?_; refine LL.val (R.neF rfl rfl rfl (by omega)) rfl rfl rfl ?_; refine LL.nilS ?_; refine CC.no rfl ?_; refine CC.skip ?_; refine EE.thenN ?_; refine CC.seq ?_; refine CC.region ?_; refine LL.val (R.move rfl rfl) rfl rfl rfl ?_; refine LL.val (R.move rfl rfl) rfl rfl rfl ?_)
    refine LL.call (R.call rfl rfl rfl) rfl rfl rfl (bwords_made _ h) ?_
    rintro e W ⟨v2, rfl, o2, b⟩
    refine ⟨_, rfl, ?_⟩
    have hsz_ := b.size
    replace q := q.trans (b.mono q.size)
    replace ha := ha.up b
    replace h := h.up b
    replace hb := hb.up b
    skip
    refine LL.call (R.call rfl rfl rfl) rfl rfl rfl (of_any n v2 l W hbits (o2.reads uEnc) (by omega) hwf) ?_
    rintro e W ⟨hcase, b⟩
    have hsz_ := b.size
    replace q := q.trans (b.mono q.size)
    replace ha := ha.up b
    replace h := h.up b
    replace hb := hb.up b
    obtain ⟨g2, v2, rfl, h2⟩ : ∃ g v, e = .returned (.tuple #[.pointer (some ⟨g, 0, none⟩), .int .i64 0]) ∧ BmAt W _ g v n l := by
      rcases hcase with ⟨_, g, v, he, hB, hg⟩ | ⟨hno, _⟩
      · exact ⟨g, v, he, hB⟩
      · exact absurd hok hno
    clear hcase
    refine ⟨_, rfl, ?_⟩
    (refine LL.val (R.move rfl rfl) rfl rfl rfl ?_; refine LL.val (R.extract rfl rfl rfl) rfl rfl rfl ?_; refine LL.val (R.extract rfl rfl rfl) rfl rfl rfl ?_; refine LL.val (R.assign rfl rfl) rfl rfl rfl ?_; refine LL.val (R.assign rfl rfl) rfl rfl rfl ?_; refine LL.nilS ?_; refine CC.seq ?_; refine CC.region ?_; refine LL.val (R.move rfl rfl) rfl rfl rfl ?_; refine LL.val (R.move rfl rfl) rfl rfl rfl ?_)
    refine LL.call (R.call rfl rfl rfl) rfl rfl rfl (is_any _ h hb) ?_
    rintro e W ⟨rfl, b⟩
    refine ⟨_, rfl, ?_⟩
    have hsz_ := b.size
    replace q := q.trans (b.mono q.size)
    replace ha := ha.up b
    replace h := h.up b
    replace h2 := h2.up b
    (refine LL.val (R.move rfl rfl) rfl rfl rfl ?_; refine LL.val (R.move rfl rfl) rfl rfl rfl ?_)
    refine LL.call (R.call rfl rfl rfl) rfl rfl rfl (bwords_made _ h) ?_
    rintro e W ⟨v3, rfl, o3, b⟩
    refine ⟨_, rfl, ?_⟩
    have hsz_ := b.size
    replace q := q.trans (b.mono q.size)
    replace ha := ha.up b
    replace h := h.up b
    replace h2 := h2.up b
    (refine LL.val (R.move rfl rfl) rfl rfl rfl ?_)
    refine LL.call (R.call rfl rfl rfl) rfl rfl rfl (wsame_any _ _ l l _ (o3.reads uEnc) ha (by omega) (by omega)) ?_
    rintro e W ⟨rfl, b⟩
    refine ⟨_, rfl, ?_⟩
    have hsz_ := b.size
    replace q := q.trans (b.mono q.size)
    replace h := h.up b
    replace h2 := h2.up b
    rw [decide_eq_true rfl]
    (refine LL.val (R.pick rfl rfl rfl) rfl rfl rfl ?_; refine LL.val (R.move rfl rfl) rfl rfl rfl ?_; refine LL.val (R.move rfl rfl) rfl rfl rfl ?_)
    refine LL.call (R.call rfl rfl rfl) rfl rfl rfl (num_any _ _) ?_
    rintro e W ⟨rfl, rfl⟩
    refine ⟨_, rfl, ?_⟩
    (refine LL.val (R.eqT rfl rfl rfl (by omega)) rfl rfl rfl ?_; refine LL.val (R.pick rfl rfl rfl) rfl rfl rfl ?_; refine LL.val (R.move rfl rfl) rfl rfl rfl ?_; refine LL.val (R.move rfl rfl) rfl rfl rfl ?_; refine LL.val (R.move rfl rfl) rfl rfl rfl ?_)
    refine LL.call (R.call rfl rfl rfl) rfl rfl rfl (bsame_any _ h h2) ?_
    rintro e W ⟨rfl, b⟩
    refine ⟨_, rfl, ?_⟩
    have hsz_ := b.size
    replace q := q.trans (b.mono q.size)
    rw [decide_eq_true ⟨rfl, rfl⟩]
    (refine LL.val (R.pick rfl rfl rfl) rfl rfl rfl ?_; refine LL.val (R.move rfl rfl) rfl rfl rfl ?_)
    refine LL.call (R.call rfl rfl rfl) rfl rfl rfl (works_any _) ?_
    rintro e W ⟨rfl, b⟩
    refine ⟨_, rfl, ?_⟩
    have hsz_ := b.size
    replace q := q.trans (b.mono q.size)
    (refine LL.val (R.pick rfl rfl rfl) rfl rfl rfl ?_; refine LL.val (R.assign rfl rfl) rfl rfl rfl ?_; refine LL.nilS ?_; refine CC.ret ?_)
    refine EE.ret _ rfl rfl ?_
    exact ⟨rfl, q⟩
end Go.Proofs.Ytojoaplbgcdapaa
