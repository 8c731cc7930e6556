/- What the statements' walks use: StoresW, Open, OpenI, OpenT, OpenR, OpenN, Door. -/
import Derived.Test.YtnoefalgmekjbaaDoorRows
import Derived.ProofKit
import Derived.OpenShut
import Derived.ShutString
import Derived.ChangeOld
import Derived.ChangeSame
import Derived.Deep.Slices
import Derived.LaidMore
import Derived.Stop.Joined
import Derived.Lib.LaidTab
import Derived.Test.YtnoefalgmekjbaaDoorMsa
import Derived.Test.YtnoefalgmekjbaaDoorMsb
import Derived.Test.YtnoefalgmekjbaaDoorMse
/- InodeStores: the walk. -/
namespace Go.Proofs.YtnoefalgmekjbaaDoor
set_option linter.unusedVariables false
set_option linter.unusedSimpArgs false
open Go.RowKit Go.Shelf
set_option maxRecDepth 100000
set_option maxHeartbeats 8000000
theorem beqNI (a b : Nat) : (((a : Nat) : Int) == ((b : Nat) : Int)) = decide (a = b) := by
  rw [Bool.eq_iff_iff]
  simp only [beq_iff_eq, decide_eq_true_eq]
  exact ⟨fun h => by omega, fun h => by omega⟩

theorem eqPut (a c b d : Int) (w : World) : (Op.equalIn 10000 59 (.agg #[.int .i64 a, .int .u64 b]) (.agg #[.int .i64 c, .int .u64 d])).run Tryd.prog w = .ok (a == c && b == d) w := by
  have u3 := Tryd.underlying3
  have u4 := Tryd.underlying41
  have a3 := Tryd.isAgg3
  have z3 := Tryd.sizeOf3
  have a4 := Tryd.isAgg41
  have z4 := Tryd.sizeOf41
  have hS : Tryd.prog.underlying 59 = some (.struct (Tryd.prog.fieldsOf 59)) := by kernel_rfl
  rw [show (10000 : Nat) = 9999 + 1 from rfl, run_equalIn_agg w 9999 59 _ _ hS (by kernel_rfl)]
  simp only [Program.fieldsOf, Tryd.underlying59]
  go_simp
  by_cases h1 : a = c <;> by_cases h2 : b = d <;> simp [h1, h2]

theorem R.nePut {n : Nat} {D : List Deferred} {M : Slots} {w : World} {o : Oper} {x y : Operand} {u : TypeId} {s t : Pt} {b : Bool} (ho : o.op = .binOp .neq 59 x y u) (hx : evM M x = some (.agg (pE s).toArray)) (hy : evM M y = some (.agg (pE t).toArray)) (hb : (!decide (s = t)) = b) : Runs Tryd.prog n D M o w (.value (.bool b)) w := R.bin ho hx hy (by
  subst hb
  simp only [Sem.run_bind, pE, run_eqGuard_agg w _ _ _ _ _ _ (show Tryd.prog.eqGuardType Tryd.prog.depth 59 = false by kernel_rfl), Result.andThen_ok, run_neq_struct, eqPut]
  obtain ⟨s1, s2⟩ := s
  obtain ⟨t1, t2⟩ := t
  simp only [beqNI]
  by_cases h1 : s1 = t1 <;> by_cases h2 : s2 = t2 <;> simp [h1, h2])

set_option maxRecDepth 100000 in
set_option maxHeartbeats 2000000 in
theorem psame_any (va vb : Value) (xs ys : List Pt) (w : World) (ha : ReadsT pE 2 w va xs) (hb : ReadsT pE 2 w vb ys) (hlx : xs.length ≤ 1048576) (hly : ys.length ≤ 1048576) :
    Calls Tryd.prog 22 #[va, vb] w fun e w' => e = .returned (.bool (decide (xs = ys))) ∧ Below w.heap.size w w' := by
  obtain ⟨N, hN⟩ : ∃ N, xs.length = N := ⟨_, rfl⟩
  obtain ⟨N2, hN2⟩ : ∃ N, ys.length = N := ⟨_, rfl⟩
  obtain ⟨a, cap, rfl, hc⟩ := ha.form hN
  obtain ⟨a2, cap2, rfl, hc2⟩ := hb.form hN2
  rw [hN] at hlx
  rw [hN2] at hly
  refine X.fn Tryd.func22 rfl (n := 26) rfl rfl ?_
  by_cases hne : N = N2
  · subst hne
    (repeat (first | (first | refine CC.seq ?_ | refine CC.region ?_ | refine LL.nilS ?_ | refine CC.yes rfl ?_ | refine CC.no rfl ?_ | refine CC.block ?_ | refine EE.thenN ?_ | refine LL.nil ?_ | refine CC.exit ?_ | refine CC.ret ?_ | refine CC.skip ?_ | refine EE.thenX ?_ | refine EE.thenR ?_ | refine EE.inN ?_ | refine EE.inX ?_ | refine EE.inX' rfl ?_ | refine EE.inR ?_ | refine CC.label ?_ | refine EE.thenG ?_ | refine EE.inG ?_) | (first | refine LL.val (R.move rfl rfl) rfl rfl rfl ?_ | refine LL.val (R.assign rfl rfl) rfl rfl rfl ?_ | refine LL.val (R.nil rfl rfl) rfl rfl rfl ?_ | refine LL.val (R.field rfl rfl (I.fld rfl)) rfl rfl rfl ?_ | refine LL.val (R.load rfl rfl (I.ld1 rfl (by assumption))) rfl rfl rfl ?_ | refine LL.val (R.load rfl rfl (I.ld1 rfl (RowL.cell (by assumption) rfl))) rfl rfl rfl ?_ | refine LL.val (R.index rfl rfl rfl (I.ixA1c rfl rfl (by first | omega | decide))) rfl rfl rfl ?_ | refine LL.val (R.index rfl rfl rfl (I.ixS1c rfl rfl (by omega))) rfl rfl rfl ?_ | refine LL.val (R.index rfl rfl rfl (I.ixAc rfl rfl (by first | omega | decide))) rfl rfl rfl ?_ | refine LL.val (R.index rfl rfl rfl (I.ixSc rfl rfl (by omega))) rfl rfl rfl ?_ | refine LL.val (R.index rfl rfl rfl (I.ixA1 rfl (by omega))) rfl rfl rfl ?_ | refine LL.val (R.index rfl rfl rfl (I.ixS1 rfl (by omega))) rfl rfl rfl ?_ | refine LL.val (R.index rfl rfl rfl (I.ixA rfl (by omega))) rfl rfl rfl ?_ | refine LL.val (R.index rfl rfl rfl (I.ixS rfl (by omega))) rfl rfl rfl ?_ | refine LL.val (R.ltT rfl rfl rfl (by omega)) rfl rfl rfl ?_ | refine LL.val (R.ltF rfl rfl rfl (by omega)) rfl rfl rfl ?_ | refine LL.val (R.addNc rfl rfl rfl rfl (by omega)) rfl rfl rfl ?_ | refine LL.val (R.subNc rfl rfl rfl rfl (by omega) (by omega)) rfl rfl rfl ?_ | refine LL.val (R.addN rfl rfl rfl (by omega)) rfl rfl rfl ?_ | refine LL.val (R.subN rfl rfl rfl (by omega) (by omega)) rfl rfl rfl ?_ | refine LL.val (R.subcN rfl rfl rfl rfl (by omega) (by omega)) rfl rfl rfl ?_ | refine LL.val (R.addI rfl rfl rfl (by omega)) rfl rfl rfl ?_ | refine LL.val (R.subI rfl rfl rfl (by omega)) rfl rfl rfl ?_ | refine LL.val (R.mulNc rfl rfl rfl rfl (by omega)) rfl rfl rfl ?_ | refine LL.val (R.mulcN rfl rfl rfl rfl (by omega)) rfl rfl rfl ?_ | refine LL.val (R.quoNc rfl rfl rfl rfl (by omega) (by omega)) rfl rfl rfl ?_ | refine LL.val (R.remNc rfl rfl rfl rfl (by omega)) rfl rfl rfl ?_ | refine LL.val (R.mulN rfl rfl rfl (by omega)) rfl rfl rfl ?_ | refine LL.val (R.quoN rfl rfl rfl (by omega) (by omega)) rfl rfl rfl ?_ | refine LL.val (R.remN rfl rfl rfl (by omega)) rfl rfl rfl ?_ | refine LL.val (R.leT rfl rfl rfl (by omega)) rfl rfl rfl ?_ | refine LL.val (R.leF rfl rfl rfl (by omega)) rfl rfl rfl ?_ | refine LL.val (R.gtT rfl rfl rfl (by omega)) rfl rfl rfl ?_ | refine LL.val (R.gtF rfl rfl rfl (by omega)) rfl rfl rfl ?_ | refine LL.val (R.geT rfl rfl rfl (by omega)) rfl rfl rfl ?_ | refine LL.val (R.geF rfl rfl rfl (by omega)) rfl rfl rfl ?_ | refine LL.val (R.eqT rfl rfl rfl (by omega)) rfl rfl rfl ?_ | refine LL.val (R.eqF rfl rfl rfl (by omega)) rfl rfl rfl ?_ | refine LL.val (R.neT rfl rfl rfl (by omega)) rfl rfl rfl ?_ | refine LL.val (R.neF rfl rfl rfl (by omega)) rfl rfl rfl ?_ | refine LL.val (R.eqPtr rfl rfl rfl rfl rfl) rfl rfl rfl ?_ | refine LL.val (R.nePtr rfl rfl rfl rfl rfl) rfl rfl rfl ?_ | refine LL.val (R.eqSl rfl rfl rfl rfl rfl) rfl rfl rfl ?_ | refine LL.val (R.neSl rfl rfl rfl rfl rfl) rfl rfl rfl ?_ | refine LL.val (R.eqFn rfl rfl rfl rfl) rfl rfl rfl ?_ | refine LL.val (R.eqBool rfl rfl rfl rfl rfl) rfl rfl rfl ?_ | refine LL.val (R.neBool rfl rfl rfl rfl rfl) rfl rfl rfl ?_ | refine LL.val (R.xorU rfl rfl rfl (by first | omega | decide) (by first | omega | decide)) rfl rfl rfl ?_ | refine LL.val (R.addUN rfl rfl rfl (by omega)) rfl rfl rfl ?_ | refine LL.val (R.not rfl rfl) rfl rfl rfl ?_ | refine LL.val (R.lenS rfl rfl rfl rfl) rfl rfl rfl ?_ | refine LL.val (R.len rfl rfl rfl rfl) rfl rfl rfl ?_ | refine LL.val (R.pick rfl rfl rfl) rfl rfl rfl ?_ | refine LL.val (R.extract rfl rfl rfl) rfl rfl rfl ?_ | refine LL.val (R.func rfl rfl rfl) rfl rfl rfl ?_ | refine LL.val (R.slice rfl rfl rfl rfl rfl (I.slA rfl)) rfl rfl rfl ?_ | refine LL.val (R.slice rfl rfl rfl rfl rfl (I.slAto rfl (by omega))) rfl rfl rfl ?_) | refine LL.skip rfl rfl ?_))
    refine CC.loop (α := Nat) (fun i => [(0, .slice a N cap), (1, .slice a2 N cap2), (4, .bool false), (5, .int .i64 (i : Int))]) (fun i wr => Below w.heap.size w wr ∧ i ≤ N ∧ xs.take i = ys.take i) (fun i => N - i) 0 ⟨rfl, rfl, rfl, rfl, trivial⟩ ⟨Below.refl _ _, by omega, by simp⟩ ?_
    intro i wr ⟨hbw, hi, ht⟩
    by_cases h1 : i < N
    · obtain ⟨s, hs⟩ : ∃ s, xs[i]? = some s := ⟨_, List.getElem?_eq_getElem (by omega)⟩
      obtain ⟨t, ht2⟩ : ∃ t, ys[i]? = some t := ⟨_, List.getElem?_eq_getElem (by omega)⟩
      obtain ⟨b, off, rfl, hbl, hcs⟩ := ha.get pEnc hs
      obtain ⟨b2, off2, rfl, hbl2, hcs2⟩ := hb.get pEnc ht2
      have hc1 := hcs.below hbw.drew hbl
      have hc3 := hcs2.below hbw.drew hbl2
      (repeat (first | (first | refine CC.seq ?_ | refine CC.region ?_ | refine LL.nilS ?_ | refine CC.yes rfl ?_ | refine CC.no rfl ?_ | refine CC.block ?_ | refine EE.thenN ?_ | refine LL.nil ?_ | refine CC.exit ?_ | refine CC.ret ?_ | refine CC.skip ?_ | refine EE.thenX ?_ | refine EE.thenR ?_ | refine EE.inN ?_ | refine EE.inX ?_ | refine EE.inX' rfl ?_ | refine EE.inR ?_ | refine CC.label ?_ | refine EE.thenG ?_ | refine EE.inG ?_) | (first | refine LL.val (R.move rfl rfl) rfl rfl rfl ?_ | refine LL.val (R.assign rfl rfl) rfl rfl rfl ?_ | refine LL.val (R.nil rfl rfl) rfl rfl rfl ?_ | refine LL.val (R.field rfl rfl (I.fld rfl)) rfl rfl rfl ?_ | refine LL.val (R.load rfl rfl (I.ld1 rfl (by assumption))) rfl rfl rfl ?_ | refine LL.val (R.load rfl rfl (I.ld1 rfl (RowL.cell (by assumption) rfl))) rfl rfl rfl ?_ | refine LL.val (R.index rfl rfl rfl (I.ixA1c rfl rfl (by first | omega | decide))) rfl rfl rfl ?_ | refine LL.val (R.index rfl rfl rfl (I.ixS1c rfl rfl (by omega))) rfl rfl rfl ?_ | refine LL.val (R.index rfl rfl rfl (I.ixAc rfl rfl (by first | omega | decide))) rfl rfl rfl ?_ | refine LL.val (R.index rfl rfl rfl (I.ixSc rfl rfl (by omega))) rfl rfl rfl ?_ | refine LL.val (R.index rfl rfl rfl (I.ixA1 rfl (by omega))) rfl rfl rfl ?_ | refine LL.val (R.index rfl rfl rfl (I.ixS1 rfl (by omega))) rfl rfl rfl ?_ | refine LL.val (R.index rfl rfl rfl (I.ixA rfl (by omega))) rfl rfl rfl ?_ | refine LL.val (R.index rfl rfl rfl (I.ixS rfl (by omega))) rfl rfl rfl ?_ | refine LL.val (R.ltT rfl rfl rfl (by omega)) rfl rfl rfl ?_ | refine LL.val (R.ltF rfl rfl rfl (by omega)) rfl rfl rfl ?_ | refine LL.val (R.addNc rfl rfl rfl rfl (by omega)) rfl rfl rfl ?_ | refine LL.val (R.subNc rfl rfl rfl rfl (by omega) (by omega)) rfl rfl rfl ?_ | refine LL.val (R.addN rfl rfl rfl (by omega)) rfl rfl rfl ?_ | refine LL.val (R.subN rfl rfl rfl (by omega) (by omega)) rfl rfl rfl ?_ | refine LL.val (R.subcN rfl rfl rfl rfl (by omega) (by omega)) rfl rfl rfl ?_ | refine LL.val (R.addI rfl rfl rfl (by omega)) rfl rfl rfl ?_ | refine LL.val (R.subI rfl rfl rfl (by omega)) rfl rfl rfl ?_ | refine LL.val (R.mulNc rfl rfl rfl rfl (by omega)) rfl rfl rfl ?_ | refine LL.val (R.mulcN rfl rfl rfl rfl (by omega)) rfl rfl rfl ?_ | refine LL.val (R.quoNc rfl rfl rfl rfl (by omega) (by omega)) rfl rfl rfl ?_ | refine LL.val (R.remNc rfl rfl rfl rfl (by omega)) rfl rfl rfl ?_ | refine LL.val (R.mulN rfl rfl rfl (by omega)) rfl rfl rfl ?_ | refine LL.val (R.quoN rfl rfl rfl (by omega) (by omega)) rfl rfl rfl ?_ | refine LL.val (R.remN rfl rfl rfl (by omega)) rfl rfl rfl ?_ | refine LL.val (R.leT rfl rfl rfl (by omega)) rfl rfl rfl ?_ | refine LL.val (R.leF rfl rfl rfl (by omega)) rfl rfl rfl ?_ | refine LL.val (R.gtT rfl rfl rfl (by omega)) rfl rfl rfl ?_ | refine LL.val (R.gtF rfl rfl rfl (by omega)) rfl rfl rfl ?_ | refine LL.val (R.geT rfl rfl rfl (by omega)) rfl rfl rfl ?_ | refine LL.val (R.geF rfl rfl rfl (by omega)) rfl rfl rfl ?_ | refine LL.val (R.eqT rfl rfl rfl (by omega)) rfl rfl rfl ?_ | refine LL.val (R.eqF rfl rfl rfl (by omega)) rfl rfl rfl ?_ | refine LL.val (R.neT rfl rfl rfl (by omega)) rfl rfl rfl ?_ | refine LL.val (R.neF rfl rfl rfl (by omega)) rfl rfl rfl ?_ | refine LL.val (R.eqPtr rfl rfl rfl rfl rfl) rfl rfl rfl ?_ | refine LL.val (R.nePtr rfl rfl rfl rfl rfl) rfl rfl rfl ?_ | refine LL.val (R.eqSl rfl rfl rfl rfl rfl) rfl rfl rfl ?_ | refine LL.val (R.neSl rfl rfl rfl rfl rfl) rfl rfl rfl ?_ | refine LL.val (R.eqFn rfl rfl rfl rfl) rfl rfl rfl ?_ | refine LL.val (R.eqBool rfl rfl rfl rfl rfl) rfl rfl rfl ?_ | refine LL.val (R.neBool rfl rfl rfl rfl rfl) rfl rfl rfl ?_ | refine LL.val (R.xorU rfl rfl rfl (by first | omega | decide) (by first | omega | decide)) rfl rfl rfl ?_ | refine LL.val (R.addUN rfl rfl rfl (by omega)) rfl rfl rfl ?_ | refine LL.val (R.not rfl rfl) rfl rfl rfl ?_ | refine LL.val (R.lenS rfl rfl rfl rfl) rfl rfl rfl ?_ | refine LL.val (R.len rfl rfl rfl rfl) rfl rfl rfl ?_ | refine LL.val (R.pick rfl rfl rfl) rfl rfl rfl ?_ | refine LL.val (R.extract rfl rfl rfl) rfl rfl rfl ?_ | refine LL.val (R.func rfl rfl rfl) rfl rfl rfl ?_ | refine LL.val (R.slice rfl rfl rfl rfl rfl (I.slA rfl)) rfl rfl rfl ?_ | refine LL.val (R.slice rfl rfl rfl rfl rfl (I.slAto rfl (by omega))) rfl rfl rfl ?_) | refine LL.skip rfl rfl ?_))
      refine CC.quiet (by kernel_rfl) (by kernel_rfl) ?_
      (repeat (first | refine SS.nil ?_ | refine SS.nilQ ?_ | refine SS.val (R.move rfl rfl) rfl rfl ?_ | refine SS.val (R.assign rfl rfl) rfl rfl ?_ | refine SS.val (R.nil rfl rfl) rfl rfl ?_ | refine SS.val (R.field rfl rfl (I.fld rfl)) rfl rfl ?_ | refine SS.val (R.load rfl rfl (I.ld1 rfl (by assumption))) rfl rfl ?_ | refine SS.val (R.load rfl rfl (I.ld1 rfl (RowL.cell (by assumption) rfl))) rfl rfl ?_ | refine SS.val (R.index rfl rfl rfl (I.ixA1c rfl rfl (by first | omega | decide))) rfl rfl ?_ | refine SS.val (R.index rfl rfl rfl (I.ixS1c rfl rfl (by omega))) rfl rfl ?_ | refine SS.val (R.index rfl rfl rfl (I.ixAc rfl rfl (by first | omega | decide))) rfl rfl ?_ | refine SS.val (R.index rfl rfl rfl (I.ixSc rfl rfl (by omega))) rfl rfl ?_ | refine SS.val (R.index rfl rfl rfl (I.ixA1 rfl (by omega))) rfl rfl ?_ | refine SS.val (R.index rfl rfl rfl (I.ixS1 rfl (by omega))) rfl rfl ?_ | refine SS.val (R.index rfl rfl rfl (I.ixA rfl (by omega))) rfl rfl ?_ | refine SS.val (R.index rfl rfl rfl (I.ixS rfl (by omega))) rfl rfl ?_ | refine SS.val (R.ltT rfl rfl rfl (by omega)) rfl rfl ?_ | refine SS.val (R.ltF rfl rfl rfl (by omega)) rfl rfl ?_ | refine SS.val (R.addNc rfl rfl rfl rfl (by omega)) rfl rfl ?_ | refine SS.val (R.subNc rfl rfl rfl rfl (by omega) (by omega)) rfl rfl ?_ | refine SS.val (R.addN rfl rfl rfl (by omega)) rfl rfl ?_ | refine SS.val (R.subN rfl rfl rfl (by omega) (by omega)) rfl rfl ?_ | refine SS.val (R.subcN rfl rfl rfl rfl (by omega) (by omega)) rfl rfl ?_ | refine SS.val (R.addI rfl rfl rfl (by omega)) rfl rfl ?_ | refine SS.val (R.subI rfl rfl rfl (by omega)) rfl rfl ?_ | refine SS.val (R.mulNc rfl rfl rfl rfl (by omega)) rfl rfl ?_ | refine SS.val (R.mulcN rfl rfl rfl rfl (by omega)) rfl rfl ?_ | refine SS.val (R.quoNc rfl rfl rfl rfl (by omega) (by omega)) rfl rfl ?_ | refine SS.val (R.remNc rfl rfl rfl rfl (by omega)) rfl rfl ?_ | refine SS.val (R.mulN rfl rfl rfl (by omega)) rfl rfl ?_ | refine SS.val (R.quoN rfl rfl rfl (by omega) (by omega)) rfl rfl ?_ | refine SS.val (R.remN rfl rfl rfl (by omega)) rfl rfl ?_ | refine SS.val (R.leT rfl rfl rfl (by omega)) rfl rfl ?_ | refine SS.val (R.leF rfl rfl rfl (by omega)) rfl rfl ?_ | refine SS.val (R.gtT rfl rfl rfl (by omega)) rfl rfl ?_ | refine SS.val (R.gtF rfl rfl rfl (by omega)) rfl rfl ?_ | refine SS.val (R.geT rfl rfl rfl (by omega)) rfl rfl ?_ | refine SS.val (R.geF rfl rfl rfl (by omega)) rfl rfl ?_ | refine SS.val (R.eqT rfl rfl rfl (by omega)) rfl rfl ?_ | refine SS.val (R.eqF rfl rfl rfl (by omega)) rfl rfl ?_ | refine SS.val (R.neT rfl rfl rfl (by omega)) rfl rfl ?_ | refine SS.val (R.neF rfl rfl rfl (by omega)) rfl rfl ?_ | refine SS.val (R.eqPtr rfl rfl rfl rfl rfl) rfl rfl ?_ | refine SS.val (R.nePtr rfl rfl rfl rfl rfl) rfl rfl ?_ | refine SS.val (R.eqSl rfl rfl rfl rfl rfl) rfl rfl ?_ | refine SS.val (R.neSl rfl rfl rfl rfl rfl) rfl rfl ?_ | refine SS.val (R.eqFn rfl rfl rfl rfl) rfl rfl ?_ | refine SS.val (R.eqBool rfl rfl rfl rfl rfl) rfl rfl ?_ | refine SS.val (R.neBool rfl rfl rfl rfl rfl) rfl rfl ?_ | refine SS.val (R.xorU rfl rfl rfl (by first | omega | decide) (by first | omega | decide)) rfl rfl ?_ | refine SS.val (R.addUN rfl rfl rfl (by omega)) rfl rfl ?_ | refine SS.val (R.not rfl rfl) rfl rfl ?_ | refine SS.val (R.lenS rfl rfl rfl rfl) rfl rfl ?_ | refine SS.val (R.len rfl rfl rfl rfl) rfl rfl ?_ | refine SS.val (R.pick rfl rfl rfl) rfl rfl ?_ | refine SS.val (R.extract rfl rfl rfl) rfl rfl ?_ | refine SS.val (R.func rfl rfl rfl) rfl rfl ?_ | refine SS.val (R.slice rfl rfl rfl rfl rfl (I.slA rfl)) rfl rfl ?_ | refine SS.val (R.slice rfl rfl rfl rfl rfl (I.slAto rfl (by omega))) rfl rfl ?_ | refine SS.skip rfl rfl ?_))
      refine SS.val (R.load rfl rfl (I.ldN (vs := pE s) rfl rfl hc1)) rfl rfl ?_
      (repeat (first | refine SS.nil ?_ | refine SS.nilQ ?_ | refine SS.val (R.move rfl rfl) rfl rfl ?_ | refine SS.val (R.assign rfl rfl) rfl rfl ?_ | refine SS.val (R.nil rfl rfl) rfl rfl ?_ | refine SS.val (R.field rfl rfl (I.fld rfl)) rfl rfl ?_ | refine SS.val (R.load rfl rfl (I.ld1 rfl (by assumption))) rfl rfl ?_ | refine SS.val (R.load rfl rfl (I.ld1 rfl (RowL.cell (by assumption) rfl))) rfl rfl ?_ | refine SS.val (R.index rfl rfl rfl (I.ixA1c rfl rfl (by first | omega | decide))) rfl rfl ?_ | refine SS.val (R.index rfl rfl rfl (I.ixS1c rfl rfl (by omega))) rfl rfl ?_ | refine SS.val (R.index rfl rfl rfl (I.ixAc rfl rfl (by first | omega | decide))) rfl rfl ?_ | refine SS.val (R.index rfl rfl rfl (I.ixSc rfl rfl (by omega))) rfl rfl ?_ | refine SS.val (R.index rfl rfl rfl (I.ixA1 rfl (by omega))) rfl rfl ?_ | refine SS.val (R.index rfl rfl rfl (I.ixS1 rfl (by omega))) rfl rfl ?_ | refine SS.val (R.index rfl rfl rfl (I.ixA rfl (by omega))) rfl rfl ?_ | refine SS.val (R.index rfl rfl rfl (I.ixS rfl (by omega))) rfl rfl ?_ | refine SS.val (R.ltT rfl rfl rfl (by omega)) rfl rfl ?_ | refine SS.val (R.ltF rfl rfl rfl (by omega)) rfl rfl ?_ | refine SS.val (R.addNc rfl rfl rfl rfl (by omega)) rfl rfl ?_ | refine SS.val (R.subNc rfl rfl rfl rfl (by omega) (by omega)) rfl rfl ?_ | refine SS.val (R.addN rfl rfl rfl (by omega)) rfl rfl ?_ | refine SS.val (R.subN rfl rfl rfl (by omega) (by omega)) rfl rfl ?_ | refine SS.val (R.subcN rfl rfl rfl rfl (by omega) (by omega)) rfl rfl ?_ | refine SS.val (R.addI rfl rfl rfl (by omega)) rfl rfl ?_ | refine SS.val (R.subI rfl rfl rfl (by omega)) rfl rfl ?_ | refine SS.val (R.mulNc rfl rfl rfl rfl (by omega)) rfl rfl ?_ | refine SS.val (R.mulcN rfl rfl rfl rfl (by omega)) rfl rfl ?_ | refine SS.val (R.quoNc rfl rfl rfl rfl (by omega) (by omega)) rfl rfl ?_ | refine SS.val (R.remNc rfl rfl rfl rfl (by omega)) rfl rfl ?_ | refine SS.val (R.mulN rfl rfl rfl (by omega)) rfl rfl ?_ | refine SS.val (R.quoN rfl rfl rfl (by omega) (by omega)) rfl rfl ?_ | refine SS.val (R.remN rfl rfl rfl (by omega)) rfl rfl ?_ | refine SS.val (R.leT rfl rfl rfl (by omega)) rfl rfl ?_ | refine SS.val (R.leF rfl rfl rfl (by omega)) rfl rfl ?_ | refine SS.val (R.gtT rfl rfl rfl (by omega)) rfl rfl ?_ | refine SS.val (R.gtF rfl rfl rfl (by omega)) rfl rfl ?_ | refine SS.val (R.geT rfl rfl rfl (by omega)) rfl rfl ?_ | refine SS.val (R.geF rfl rfl rfl (by omega)) rfl rfl ?_ | refine SS.val (R.eqT rfl rfl rfl (by omega)) rfl rfl ?_ | refine SS.val (R.eqF rfl rfl rfl (by omega)) rfl rfl ?_ | refine SS.val (R.neT rfl rfl rfl (by omega)) rfl rfl ?_ | refine SS.val (R.neF rfl rfl rfl (by omega)) rfl rfl ?_ | refine SS.val (R.eqPtr rfl rfl rfl rfl rfl) rfl rfl ?_ | refine SS.val (R.nePtr rfl rfl rfl rfl rfl) rfl rfl ?_ | refine SS.val (R.eqSl rfl rfl rfl rfl rfl) rfl rfl ?_ | refine SS.val (R.neSl rfl rfl rfl rfl rfl) rfl rfl ?_ | refine SS.val (R.eqFn rfl rfl rfl rfl) rfl rfl ?_ | refine SS.val (R.eqBool rfl rfl rfl rfl rfl) rfl rfl ?_ | refine SS.val (R.neBool rfl rfl rfl rfl rfl) rfl rfl ?_ | refine SS.val (R.xorU rfl rfl rfl (by first | omega | decide) (by first | omega | decide)) rfl rfl ?_ | refine SS.val (R.addUN rfl rfl rfl (by omega)) rfl rfl ?_ | refine SS.val (R.not rfl rfl) rfl rfl ?_ | refine SS.val (R.lenS rfl rfl rfl rfl) rfl rfl ?_ | refine SS.val (R.len rfl rfl rfl rfl) rfl rfl ?_ | refine SS.val (R.pick rfl rfl rfl) rfl rfl ?_ | refine SS.val (R.extract rfl rfl rfl) rfl rfl ?_ | refine SS.val (R.func rfl rfl rfl) rfl rfl ?_ | refine SS.val (R.slice rfl rfl rfl rfl rfl (I.slA rfl)) rfl rfl ?_ | refine SS.val (R.slice rfl rfl rfl rfl rfl (I.slAto rfl (by omega))) rfl rfl ?_ | refine SS.skip rfl rfl ?_))
      refine SS.val (R.load rfl rfl (I.ldN (vs := pE t) rfl rfl hc3)) rfl rfl ?_
      by_cases hst : s = t
      · refine SS.val (R.nePut (b := false) rfl rfl rfl (by simp [hst])) rfl rfl ?_
        (repeat (first | refine SS.nil ?_ | refine SS.nilQ ?_ | refine SS.val (R.move rfl rfl) rfl rfl ?_ | refine SS.val (R.assign rfl rfl) rfl rfl ?_ | refine SS.val (R.nil rfl rfl) rfl rfl ?_ | refine SS.val (R.field rfl rfl (I.fld rfl)) rfl rfl ?_ | refine SS.val (R.load rfl rfl (I.ld1 rfl (by assumption))) rfl rfl ?_ | refine SS.val (R.load rfl rfl (I.ld1 rfl (RowL.cell (by assumption) rfl))) rfl rfl ?_ | refine SS.val (R.index rfl rfl rfl (I.ixA1c rfl rfl (by first | omega | decide))) rfl rfl ?_ | refine SS.val (R.index rfl rfl rfl (I.ixS1c rfl rfl (by omega))) rfl rfl ?_ | refine SS.val (R.index rfl rfl rfl (I.ixAc rfl rfl (by first | omega | decide))) rfl rfl ?_ | refine SS.val (R.index rfl rfl rfl (I.ixSc rfl rfl (by omega))) rfl rfl ?_ | refine SS.val (R.index rfl rfl rfl (I.ixA1 rfl (by omega))) rfl rfl ?_ | refine SS.val (R.index rfl rfl rfl (I.ixS1 rfl (by omega))) rfl rfl ?_ | refine SS.val (R.index rfl rfl rfl (I.ixA rfl (by omega))) rfl rfl ?_ | refine SS.val (R.index rfl rfl rfl (I.ixS rfl (by omega))) rfl rfl ?_ | refine SS.val (R.ltT rfl rfl rfl (by omega)) rfl rfl ?_ | refine SS.val (R.ltF rfl rfl rfl (by omega)) rfl rfl ?_ | refine SS.val (R.addNc rfl rfl rfl rfl (by omega)) rfl rfl ?_ | refine SS.val (R.subNc rfl rfl rfl rfl (by omega) (by omega)) rfl rfl ?_ | refine SS.val (R.addN rfl rfl rfl (by omega)) rfl rfl ?_ | refine SS.val (R.subN rfl rfl rfl (by omega) (by omega)) rfl rfl ?_ | refine SS.val (R.subcN rfl rfl rfl rfl (by omega) (by omega)) rfl rfl ?_ | refine SS.val (R.addI rfl rfl rfl (by omega)) rfl rfl ?_ | refine SS.val (R.subI rfl rfl rfl (by omega)) rfl rfl ?_ | refine SS.val (R.mulNc rfl rfl rfl rfl (by omega)) rfl rfl ?_ | refine SS.val (R.mulcN rfl rfl rfl rfl (by omega)) rfl rfl ?_ | refine SS.val (R.quoNc rfl rfl rfl rfl (by omega) (by omega)) rfl rfl ?_ | refine SS.val (R.remNc rfl rfl rfl rfl (by omega)) rfl rfl ?_ | refine SS.val (R.mulN rfl rfl rfl (by omega)) rfl rfl ?_ | refine SS.val (R.quoN rfl rfl rfl (by omega) (by omega)) rfl rfl ?_ | refine SS.val (R.remN rfl rfl rfl (by omega)) rfl rfl ?_ | refine SS.val (R.leT rfl rfl rfl (by omega)) rfl rfl ?_ | refine SS.val (R.leF rfl rfl rfl (by omega)) rfl rfl ?_ | refine SS.val (R.gtT rfl rfl rfl (by omega)) rfl rfl ?_ | refine SS.val (R.gtF rfl rfl rfl (by omega)) rfl rfl ?_ | refine SS.val (R.geT rfl rfl rfl (by omega)) rfl rfl ?_ | refine SS.val (R.geF rfl rfl rfl (by omega)) rfl rfl ?_ | refine SS.val (R.eqT rfl rfl rfl (by omega)) rfl rfl ?_ | refine SS.val (R.eqF rfl rfl rfl (by omega)) rfl rfl ?_ | refine SS.val (R.neT rfl rfl rfl (by omega)) rfl rfl ?_ | refine SS.val (R.neF rfl rfl rfl (by omega)) rfl rfl ?_ | refine SS.val (R.eqPtr rfl rfl rfl rfl rfl) rfl rfl ?_ | refine SS.val (R.nePtr rfl rfl rfl rfl rfl) rfl rfl ?_ | refine SS.val (R.eqSl rfl rfl rfl rfl rfl) rfl rfl ?_ | refine SS.val (R.neSl rfl rfl rfl rfl rfl) rfl rfl ?_ | refine SS.val (R.eqFn rfl rfl rfl rfl) rfl rfl ?_ | refine SS.val (R.eqBool rfl rfl rfl rfl rfl) rfl rfl ?_ | refine SS.val (R.neBool rfl rfl rfl rfl rfl) rfl rfl ?_ | refine SS.val (R.xorU rfl rfl rfl (by first | omega | decide) (by first | omega | decide)) rfl rfl ?_ | refine SS.val (R.addUN rfl rfl rfl (by omega)) rfl rfl ?_ | refine SS.val (R.not rfl rfl) rfl rfl ?_ | refine SS.val (R.lenS rfl rfl rfl rfl) rfl rfl ?_ | refine SS.val (R.len rfl rfl rfl rfl) rfl rfl ?_ | refine SS.val (R.pick rfl rfl rfl) rfl rfl ?_ | refine SS.val (R.extract rfl rfl rfl) rfl rfl ?_ | refine SS.val (R.func rfl rfl rfl) rfl rfl ?_ | refine SS.val (R.slice rfl rfl rfl rfl rfl (I.slA rfl)) rfl rfl ?_ | refine SS.val (R.slice rfl rfl rfl rfl rfl (I.slAto rfl (by omega))) rfl rfl ?_ | refine SS.skip rfl rfl ?_))
        (repeat (first | (first | refine CC.seq ?_ | refine CC.region ?_ | refine LL.nilS ?_ | refine CC.yes rfl ?_ | refine CC.no rfl ?_ | refine CC.block ?_ | refine EE.thenN ?_ | refine LL.nil ?_ | refine CC.exit ?_ | refine CC.ret ?_ | refine CC.skip ?_ | refine EE.thenX ?_ | refine EE.thenR ?_ | refine EE.inN ?_ | refine EE.inX ?_ | refine EE.inX' rfl ?_ | refine EE.inR ?_ | refine CC.label ?_ | refine EE.thenG ?_ | refine EE.inG ?_) | (first | refine LL.val (R.move rfl rfl) rfl rfl rfl ?_ | refine LL.val (R.assign rfl rfl) rfl rfl rfl ?_ | refine LL.val (R.nil rfl rfl) rfl rfl rfl ?_ | refine LL.val (R.field rfl rfl (I.fld rfl)) rfl rfl rfl ?_ | refine LL.val (R.load rfl rfl (I.ld1 rfl (by assumption))) rfl rfl rfl ?_ | refine LL.val (R.load rfl rfl (I.ld1 rfl (RowL.cell (by assumption) rfl))) rfl rfl rfl ?_ | refine LL.val (R.index rfl rfl rfl (I.ixA1c rfl rfl (by first | omega | decide))) rfl rfl rfl ?_ | refine LL.val (R.index rfl rfl rfl (I.ixS1c rfl rfl (by omega))) rfl rfl rfl ?_ | refine LL.val (R.index rfl rfl rfl (I.ixAc rfl rfl (by first | omega | decide))) rfl rfl rfl ?_ | refine LL.val (R.index rfl rfl rfl (I.ixSc rfl rfl (by omega))) rfl rfl rfl ?_ | refine LL.val (R.index rfl rfl rfl (I.ixA1 rfl (by omega))) rfl rfl rfl ?_ | refine LL.val (R.index rfl rfl rfl (I.ixS1 rfl (by omega))) rfl rfl rfl ?_ | refine LL.val (R.index rfl rfl rfl (I.ixA rfl (by omega))) rfl rfl rfl ?_ | refine LL.val (R.index rfl rfl rfl (I.ixS rfl (by omega))) rfl rfl rfl ?_ | refine LL.val (R.ltT rfl rfl rfl (by omega)) rfl rfl rfl ?_ | refine LL.val (R.ltF rfl rfl rfl (by omega)) rfl rfl rfl ?_ | refine LL.val (R.addNc rfl rfl rfl rfl (by omega)) rfl rfl rfl ?_ | refine LL.val (R.subNc rfl rfl rfl rfl (by omega) (by omega)) rfl rfl rfl ?_ | refine LL.val (R.addN rfl rfl rfl (by omega)) rfl rfl rfl ?_ | refine LL.val (R.subN rfl rfl rfl (by omega) (by omega)) rfl rfl rfl ?_ | refine LL.val (R.subcN rfl rfl rfl rfl (by omega) (by omega)) rfl rfl rfl ?_ | refine LL.val (R.addI rfl rfl rfl (by omega)) rfl rfl rfl ?_ | refine LL.val (R.subI rfl rfl rfl (by omega)) rfl rfl rfl ?_ | refine LL.val (R.mulNc rfl rfl rfl rfl (by omega)) rfl rfl rfl ?_ | refine LL.val (R.mulcN rfl rfl rfl rfl (by omega)) rfl rfl rfl ?_ | refine LL.val (R.quoNc rfl rfl rfl rfl (by omega) (by omega)) rfl rfl rfl ?_ | refine LL.val (R.remNc rfl rfl rfl rfl (by omega)) rfl rfl rfl ?_ | refine LL.val (R.mulN rfl rfl rfl (by omega)) rfl rfl rfl ?_ | refine LL.val (R.quoN rfl rfl rfl (by omega) (by omega)) rfl rfl rfl ?_ | refine LL.val (R.remN rfl rfl rfl (by omega)) rfl rfl rfl ?_ | refine LL.val (R.leT rfl rfl rfl (by omega)) rfl rfl rfl ?_ | refine LL.val (R.leF rfl rfl rfl (by omega)) rfl rfl rfl ?_ | refine LL.val (R.gtT rfl rfl rfl (by omega)) rfl rfl rfl ?_ | refine LL.val (R.gtF rfl rfl rfl (by omega)) rfl rfl rfl ?_ | refine LL.val (R.geT rfl rfl rfl (by omega)) rfl rfl rfl ?_ | refine LL.val (R.geF rfl rfl rfl (by omega)) rfl rfl rfl ?_ | refine LL.val (R.eqT rfl rfl rfl (by omega)) rfl rfl rfl ?_ | refine LL.val (R.eqF rfl rfl rfl (by omega)) rfl rfl rfl ?_ | refine LL.val (R.neT rfl rfl rfl (by omega)) rfl rfl rfl ?_ | refine LL.val (R.neF rfl rfl rfl (by omega)) rfl rfl rfl ?_ | refine LL.val (R.eqPtr rfl rfl rfl rfl rfl) rfl rfl rfl ?_ | refine LL.val (R.nePtr rfl rfl rfl rfl rfl) rfl rfl rfl ?_ | refine LL.val (R.eqSl rfl rfl rfl rfl rfl) rfl rfl rfl ?_ | refine LL.val (R.neSl rfl rfl rfl rfl rfl) rfl rfl rfl ?_ | refine LL.val (R.eqFn rfl rfl rfl rfl) rfl rfl rfl ?_ | refine LL.val (R.eqBool rfl rfl rfl rfl rfl) rfl rfl rfl ?_ | refine LL.val (R.neBool rfl rfl rfl rfl rfl) rfl rfl rfl ?_ | refine LL.val (R.xorU rfl rfl rfl (by first | omega | decide) (by first | omega | decide)) rfl rfl rfl ?_ | refine LL.val (R.addUN rfl rfl rfl (by omega)) rfl rfl rfl ?_ | refine LL.val (R.not rfl rfl) rfl rfl rfl ?_ | refine LL.val (R.lenS rfl rfl rfl rfl) rfl rfl rfl ?_ | refine LL.val (R.len rfl rfl rfl rfl) rfl rfl rfl ?_ | refine LL.val (R.pick rfl rfl rfl) rfl rfl rfl ?_ | refine LL.val (R.extract rfl rfl rfl) rfl rfl rfl ?_ | refine LL.val (R.func rfl rfl rfl) rfl rfl rfl ?_ | refine LL.val (R.slice rfl rfl rfl rfl rfl (I.slA rfl)) rfl rfl rfl ?_ | refine LL.val (R.slice rfl rfl rfl rfl rfl (I.slAto rfl (by omega))) rfl rfl rfl ?_) | refine LL.skip rfl rfl ?_))
        exact EE.round (i + 1) ⟨rfl, rfl, rfl, rfl, trivial⟩ ⟨hbw.drew, by omega, by rw [List.take_add_one, List.take_add_one, ht, hs, ht2, hst]⟩ (by omega)
      · refine SS.val (R.nePut (b := true) rfl rfl rfl (by simp [hst])) rfl rfl ?_
        (repeat (first | refine SS.nil ?_ | refine SS.nilQ ?_ | refine SS.val (R.move rfl rfl) rfl rfl ?_ | refine SS.val (R.assign rfl rfl) rfl rfl ?_ | refine SS.val (R.nil rfl rfl) rfl rfl ?_ | refine SS.val (R.field rfl rfl (I.fld rfl)) rfl rfl ?_ | refine SS.val (R.load rfl rfl (I.ld1 rfl (by assumption))) rfl rfl ?_ | refine SS.val (R.load rfl rfl (I.ld1 rfl (RowL.cell (by assumption) rfl))) rfl rfl ?_ | refine SS.val (R.index rfl rfl rfl (I.ixA1c rfl rfl (by first | omega | decide))) rfl rfl ?_ | refine SS.val (R.index rfl rfl rfl (I.ixS1c rfl rfl (by omega))) rfl rfl ?_ | refine SS.val (R.index rfl rfl rfl (I.ixAc rfl rfl (by first | omega | decide))) rfl rfl ?_ | refine SS.val (R.index rfl rfl rfl (I.ixSc rfl rfl (by omega))) rfl rfl ?_ | refine SS.val (R.index rfl rfl rfl (I.ixA1 rfl (by omega))) rfl rfl ?_ | refine SS.val (R.index rfl rfl rfl (I.ixS1 rfl (by omega))) rfl rfl ?_ | refine SS.val (R.index rfl rfl rfl (I.ixA rfl (by omega))) rfl rfl ?_ | refine SS.val (R.index rfl rfl rfl (I.ixS rfl (by omega))) rfl rfl ?_ | refine SS.val (R.ltT rfl rfl rfl (by omega)) rfl rfl ?_ | refine SS.val (R.ltF rfl rfl rfl (by omega)) rfl rfl ?_ | refine SS.val (R.addNc rfl rfl rfl rfl (by omega)) rfl rfl ?_ | refine SS.val (R.subNc rfl rfl rfl rfl (by omega) (by omega)) rfl rfl ?_ | refine SS.val (R.addN rfl rfl rfl (by omega)) rfl rfl ?_ | refine SS.val (R.subN rfl rfl rfl (by omega) (by omega)) rfl rfl ?_ | refine SS.val (R.subcN rfl rfl rfl rfl (by omega) (by omega)) rfl rfl ?_ | refine SS.val (R.addI rfl rfl rfl (by omega)) rfl rfl ?_ | refine SS.val (R.subI rfl rfl rfl (by omega)) rfl rfl ?_ | refine SS.val (R.mulNc rfl rfl rfl rfl (by omega)) rfl rfl ?_ | refine SS.val (R.mulcN rfl rfl rfl rfl (by omega)) rfl rfl ?_ | refine SS.val (R.quoNc rfl rfl rfl rfl (by omega) (by omega)) rfl rfl ?_ | refine SS.val (R.remNc rfl rfl rfl rfl (by omega)) rfl rfl ?_ | refine SS.val (R.mulN rfl rfl rfl (by omega)) rfl rfl ?_ | refine SS.val (R.quoN rfl rfl rfl (by omega) (by omega)) rfl rfl ?_ | refine SS.val (R.remN rfl rfl rfl (by omega)) rfl rfl ?_ | refine SS.val (R.leT rfl rfl rfl (by omega)) rfl rfl ?_ | refine SS.val (R.leF rfl rfl rfl (by omega)) rfl rfl ?_ | refine SS.val (R.gtT rfl rfl rfl (by omega)) rfl rfl ?_ | refine SS.val (R.gtF rfl rfl rfl (by omega)) rfl rfl ?_ | refine SS.val (R.geT rfl rfl rfl (by omega)) rfl rfl ?_ | refine SS.val (R.geF rfl rfl rfl (by omega)) rfl rfl ?_ | refine SS.val (R.eqT rfl rfl rfl (by omega)) rfl rfl ?_ | refine SS.val (R.eqF rfl rfl rfl (by omega)) rfl rfl ?_ | refine SS.val (R.neT rfl rfl rfl (by omega)) rfl rfl ?_ | refine SS.val (R.neF rfl rfl rfl (by omega)) rfl rfl ?_ | refine SS.val (R.eqPtr rfl rfl rfl rfl rfl) rfl rfl ?_ | refine SS.val (R.nePtr rfl rfl rfl rfl rfl) rfl rfl ?_ | refine SS.val (R.eqSl rfl rfl rfl rfl rfl) rfl rfl ?_ | refine SS.val (R.neSl rfl rfl rfl rfl rfl) rfl rfl ?_ | refine SS.val (R.eqFn rfl rfl rfl rfl) rfl rfl ?_ | refine SS.val (R.eqBool rfl rfl rfl rfl rfl) rfl rfl ?_ | refine SS.val (R.neBool rfl rfl rfl rfl rfl) rfl rfl ?_ | refine SS.val (R.xorU rfl rfl rfl (by first | omega | decide) (by first | omega | decide)) rfl rfl ?_ | refine SS.val (R.addUN rfl rfl rfl (by omega)) rfl rfl ?_ | refine SS.val (R.not rfl rfl) rfl rfl ?_ | refine SS.val (R.lenS rfl rfl rfl rfl) rfl rfl ?_ | refine SS.val (R.len rfl rfl rfl rfl) rfl rfl ?_ | refine SS.val (R.pick rfl rfl rfl) rfl rfl ?_ | refine SS.val (R.extract rfl rfl rfl) rfl rfl ?_ | refine SS.val (R.func rfl rfl rfl) rfl rfl ?_ | refine SS.val (R.slice rfl rfl rfl rfl rfl (I.slA rfl)) rfl rfl ?_ | refine SS.val (R.slice rfl rfl rfl rfl rfl (I.slAto rfl (by omega))) rfl rfl ?_ | refine SS.skip rfl rfl ?_))
        (repeat (first | (first | refine CC.seq ?_ | refine CC.region ?_ | refine LL.nilS ?_ | refine CC.yes rfl ?_ | refine CC.no rfl ?_ | refine CC.block ?_ | refine EE.thenN ?_ | refine LL.nil ?_ | refine CC.exit ?_ | refine CC.ret ?_ | refine CC.skip ?_ | refine EE.thenX ?_ | refine EE.thenR ?_ | refine EE.inN ?_ | refine EE.inX ?_ | refine EE.inX' rfl ?_ | refine EE.inR ?_ | refine CC.label ?_ | refine EE.thenG ?_ | refine EE.inG ?_) | (first | refine LL.val (R.move rfl rfl) rfl rfl rfl ?_ | refine LL.val (R.assign rfl rfl) rfl rfl rfl ?_ | refine LL.val (R.nil rfl rfl) rfl rfl rfl ?_ | refine LL.val (R.field rfl rfl (I.fld rfl)) rfl rfl rfl ?_ | refine LL.val (R.load rfl rfl (I.ld1 rfl (by assumption))) rfl rfl rfl ?_ | refine LL.val (R.load rfl rfl (I.ld1 rfl (RowL.cell (by assumption) rfl))) rfl rfl rfl ?_ | refine LL.val (R.index rfl rfl rfl (I.ixA1c rfl rfl (by first | omega | decide))) rfl rfl rfl ?_ | refine LL.val (R.index rfl rfl rfl (I.ixS1c rfl rfl (by omega))) rfl rfl rfl ?_ | refine LL.val (R.index rfl rfl rfl (I.ixAc rfl rfl (by first | omega | decide))) rfl rfl rfl ?_ | refine LL.val (R.index rfl rfl rfl (I.ixSc rfl rfl (by omega))) rfl rfl rfl ?_ | refine LL.val (R.index rfl rfl rfl (I.ixA1 rfl (by omega))) rfl rfl rfl ?_ | refine LL.val (R.index rfl rfl rfl (I.ixS1 rfl (by omega))) rfl rfl rfl ?_ | refine LL.val (R.index rfl rfl rfl (I.ixA rfl (by omega))) rfl rfl rfl ?_ | refine LL.val (R.index rfl rfl rfl (I.ixS rfl (by omega))) rfl rfl rfl ?_ | refine LL.val (R.ltT rfl rfl rfl (by omega)) rfl rfl rfl ?_ | refine LL.val (R.ltF rfl rfl rfl (by omega)) rfl rfl rfl ?_ | refine LL.val (R.addNc rfl rfl rfl rfl (by omega)) rfl rfl rfl ?_ | refine LL.val (R.subNc rfl rfl rfl rfl (by omega) (by omega)) rfl rfl rfl ?_ | refine LL.val (R.addN rfl rfl rfl (by omega)) rfl rfl rfl ?_ | refine LL.val (R.subN rfl rfl rfl (by omega) (by omega)) rfl rfl rfl ?_ | refine LL.val (R.subcN rfl rfl rfl rfl (by omega) (by omega)) rfl rfl rfl ?_ | refine LL.val (R.addI rfl rfl rfl (by omega)) rfl rfl rfl ?_ | refine LL.val (R.subI rfl rfl rfl (by omega)) rfl rfl rfl ?_ | refine LL.val (R.mulNc rfl rfl rfl rfl (by omega)) rfl rfl rfl ?_ | refine LL.val (R.mulcN rfl rfl rfl rfl (by omega)) rfl rfl rfl ?_ | refine LL.val (R.quoNc rfl rfl rfl rfl (by omega) (by omega)) rfl rfl rfl ?_ | refine LL.val (R.remNc rfl rfl rfl rfl (by omega)) rfl rfl rfl ?_ | refine LL.val (R.mulN rfl rfl rfl (by omega)) rfl rfl rfl ?_ | refine LL.val (R.quoN rfl rfl rfl (by omega) (by omega)) rfl rfl rfl ?_ | refine LL.val (R.remN rfl rfl rfl (by omega)) rfl rfl rfl ?_ | refine LL.val (R.leT rfl rfl rfl (by omega)) rfl rfl rfl ?_ | refine LL.val (R.leF rfl rfl rfl (by omega)) rfl rfl rfl ?_ | refine LL.val (R.gtT rfl rfl rfl (by omega)) rfl rfl rfl ?_ | refine LL.val (R.gtF rfl rfl rfl (by omega)) rfl rfl rfl ?_ | refine LL.val (R.geT rfl rfl rfl (by omega)) rfl rfl rfl ?_ | refine LL.val (R.geF rfl rfl rfl (by omega)) rfl rfl rfl ?_ | refine LL.val (R.eqT rfl rfl rfl (by omega)) rfl rfl rfl ?_ | refine LL.val (R.eqF rfl rfl rfl (by omega)) rfl rfl rfl ?_ | refine LL.val (R.neT rfl rfl rfl (by omega)) rfl rfl rfl ?_ | refine LL.val (R.neF rfl rfl rfl (by omega)) rfl rfl rfl ?_ | refine LL.val (R.eqPtr rfl rfl rfl rfl rfl) rfl rfl rfl ?_ | refine LL.val (R.nePtr rfl rfl rfl rfl rfl) rfl rfl rfl ?_ | refine LL.val (R.eqSl rfl rfl rfl rfl rfl) rfl rfl rfl ?_ | refine LL.val (R.neSl rfl rfl rfl rfl rfl) rfl rfl rfl ?_ | refine LL.val (R.eqFn rfl rfl rfl rfl) rfl rfl rfl ?_ | refine LL.val (R.eqBool rfl rfl rfl rfl rfl) rfl rfl rfl ?_ | refine LL.val (R.neBool rfl rfl rfl rfl rfl) rfl rfl rfl ?_ | refine LL.val (R.xorU rfl rfl rfl (by first | omega | decide) (by first | omega | decide)) rfl rfl rfl ?_ | refine LL.val (R.addUN rfl rfl rfl (by omega)) rfl rfl rfl ?_ | refine LL.val (R.not rfl rfl) rfl rfl rfl ?_ | refine LL.val (R.lenS rfl rfl rfl rfl) rfl rfl rfl ?_ | refine LL.val (R.len rfl rfl rfl rfl) rfl rfl rfl ?_ | refine LL.val (R.pick rfl rfl rfl) rfl rfl rfl ?_ | refine LL.val (R.extract rfl rfl rfl) rfl rfl rfl ?_ | refine LL.val (R.func rfl rfl rfl) rfl rfl rfl ?_ | refine LL.val (R.slice rfl rfl rfl rfl rfl (I.slA rfl)) rfl rfl rfl ?_ | refine LL.val (R.slice rfl rfl rfl rfl rfl (I.slAto rfl (by omega))) rfl rfl rfl ?_) | refine LL.skip rfl rfl ?_))
        refine EE.ret _ rfl rfl ?_
        refine ⟨?_, hbw.drew⟩
        have : xs ≠ ys := fun e => hst (by rw [e, ht2] at hs; exact (Option.some.inj hs).symm)
        simp [resV, this]
    · obtain rfl : i = N := by omega
      rw [List.take_of_length_le (by omega), List.take_of_length_le (by omega)] at ht
      (repeat (first | (first | refine CC.seq ?_ | refine CC.region ?_ | refine LL.nilS ?_ | refine CC.yes rfl ?_ | refine CC.no rfl ?_ | refine CC.block ?_ | refine EE.thenN ?_ | refine LL.nil ?_ | refine CC.exit ?_ | refine CC.ret ?_ | refine CC.skip ?_ | refine EE.thenX ?_ | refine EE.thenR ?_ | refine EE.inN ?_ | refine EE.inX ?_ | refine EE.inX' rfl ?_ | refine EE.inR ?_ | refine CC.label ?_ | refine EE.thenG ?_ | refine EE.inG ?_) | (first | refine LL.val (R.move rfl rfl) rfl rfl rfl ?_ | refine LL.val (R.assign rfl rfl) rfl rfl rfl ?_ | refine LL.val (R.nil rfl rfl) rfl rfl rfl ?_ | refine LL.val (R.field rfl rfl (I.fld rfl)) rfl rfl rfl ?_ | refine LL.val (R.load rfl rfl (I.ld1 rfl (by assumption))) rfl rfl rfl ?_ | refine LL.val (R.load rfl rfl (I.ld1 rfl (RowL.cell (by assumption) rfl))) rfl rfl rfl ?_ | refine LL.val (R.index rfl rfl rfl (I.ixA1c rfl rfl (by first | omega | decide))) rfl rfl rfl ?_ | refine LL.val (R.index rfl rfl rfl (I.ixS1c rfl rfl (by omega))) rfl rfl rfl ?_ | refine LL.val (R.index rfl rfl rfl (I.ixAc rfl rfl (by first | omega | decide))) rfl rfl rfl ?_ | refine LL.val (R.index rfl rfl rfl (I.ixSc rfl rfl (by omega))) rfl rfl rfl ?_ | refine LL.val (R.index rfl rfl rfl (I.ixA1 rfl (by omega))) rfl rfl rfl ?_ | refine LL.val (R.index rfl rfl rfl (I.ixS1 rfl (by omega))) rfl rfl rfl ?_ | refine LL.val (R.index rfl rfl rfl (I.ixA rfl (by omega))) rfl rfl rfl ?_ | refine LL.val (R.index rfl rfl rfl (I.ixS rfl (by omega))) rfl rfl rfl ?_ | refine LL.val (R.ltT rfl rfl rfl (by omega)) rfl rfl rfl ?_ | refine LL.val (R.ltF rfl rfl rfl (by omega)) rfl rfl rfl ?_ | refine LL.val (R.addNc rfl rfl rfl rfl (by omega)) rfl rfl rfl ?_ | refine LL.val (R.subNc rfl rfl rfl rfl (by omega) (by omega)) rfl rfl rfl ?_ | refine LL.val (R.addN rfl rfl rfl (by omega)) rfl rfl rfl ?_ | refine LL.val (R.subN rfl rfl rfl (by omega) (by omega)) rfl rfl rfl ?_ | refine LL.val (R.subcN rfl rfl rfl rfl (by omega) (by omega)) rfl rfl rfl ?_ | refine LL.val (R.addI rfl rfl rfl (by omega)) rfl rfl rfl ?_ | refine LL.val (R.subI rfl rfl rfl (by omega)) rfl rfl rfl ?_ | refine LL.val (R.mulNc rfl rfl rfl rfl (by omega)) rfl rfl rfl ?_ | refine LL.val (R.mulcN rfl rfl rfl rfl (by omega)) rfl rfl rfl ?_ | refine LL.val (R.quoNc rfl rfl rfl rfl (by omega) (by omega)) rfl rfl rfl ?_ | refine LL.val (R.remNc rfl rfl rfl rfl (by omega)) rfl rfl rfl ?_ | refine LL.val (R.mulN rfl rfl rfl (by omega)) rfl rfl rfl ?_ | refine LL.val (R.quoN rfl rfl rfl (by omega) (by omega)) rfl rfl rfl ?_ | refine LL.val (R.remN rfl rfl rfl (by omega)) rfl rfl rfl ?_ | refine LL.val (R.leT rfl rfl rfl (by omega)) rfl rfl rfl ?_ | refine LL.val (R.leF rfl rfl rfl (by omega)) rfl rfl rfl ?_ | refine LL.val (R.gtT rfl rfl rfl (by omega)) rfl rfl rfl ?_ | refine LL.val (R.gtF rfl rfl rfl (by omega)) rfl rfl rfl ?_ | refine LL.val (R.geT rfl rfl rfl (by omega)) rfl rfl rfl ?_ | refine LL.val (R.geF rfl rfl rfl (by omega)) rfl rfl rfl ?_ | refine LL.val (R.eqT rfl rfl rfl (by omega)) rfl rfl rfl ?_ | refine LL.val (R.eqF rfl rfl rfl (by omega)) rfl rfl rfl ?_ | refine LL.val (R.neT rfl rfl rfl (by omega)) rfl rfl rfl ?_ | refine LL.val (R.neF rfl rfl rfl (by omega)) rfl rfl rfl ?_ | refine LL.val (R.eqPtr rfl rfl rfl rfl rfl) rfl rfl rfl ?_ | refine LL.val (R.nePtr rfl rfl rfl rfl rfl) rfl rfl rfl ?_ | refine LL.val (R.eqSl rfl rfl rfl rfl rfl) rfl rfl rfl ?_ | refine LL.val (R.neSl rfl rfl rfl rfl rfl) rfl rfl rfl ?_ | refine LL.val (R.eqFn rfl rfl rfl rfl) rfl rfl rfl ?_ | refine LL.val (R.eqBool rfl rfl rfl rfl rfl) rfl rfl rfl ?_ | refine LL.val (R.neBool rfl rfl rfl rfl rfl) rfl rfl rfl ?_ | refine LL.val (R.xorU rfl rfl rfl (by first | omega | decide) (by first | omega | decide)) rfl rfl rfl ?_ | refine LL.val (R.addUN rfl rfl rfl (by omega)) rfl rfl rfl ?_ | refine LL.val (R.not rfl rfl) rfl rfl rfl ?_ | refine LL.val (R.lenS rfl rfl rfl rfl) rfl rfl rfl ?_ | refine LL.val (R.len rfl rfl rfl rfl) rfl rfl rfl ?_ | refine LL.val (R.pick rfl rfl rfl) rfl rfl rfl ?_ | refine LL.val (R.extract rfl rfl rfl) rfl rfl rfl ?_ | refine LL.val (R.func rfl rfl rfl) rfl rfl rfl ?_ | refine LL.val (R.slice rfl rfl rfl rfl rfl (I.slA rfl)) rfl rfl rfl ?_ | refine LL.val (R.slice rfl rfl rfl rfl rfl (I.slAto rfl (by omega))) rfl rfl rfl ?_) | refine LL.skip rfl rfl ?_))
      refine EE.ret _ rfl rfl ?_
      exact ⟨by simp [resV, ht], hbw⟩
  · (repeat (first | (first | refine CC.seq ?_ | refine CC.region ?_ | refine LL.nilS ?_ | refine CC.yes rfl ?_ | refine CC.no rfl ?_ | refine CC.block ?_ | refine EE.thenN ?_ | refine LL.nil ?_ | refine CC.exit ?_ | refine CC.ret ?_ | refine CC.skip ?_ | refine EE.thenX ?_ | refine EE.thenR ?_ | refine EE.inN ?_ | refine EE.inX ?_ | refine EE.inX' rfl ?_ | refine EE.inR ?_ | refine CC.label ?_ | refine EE.thenG ?_ | refine EE.inG ?_) | (first | refine LL.val (R.move rfl rfl) rfl rfl rfl ?_ | refine LL.val (R.assign rfl rfl) rfl rfl rfl ?_ | refine LL.val (R.nil rfl rfl) rfl rfl rfl ?_ | refine LL.val (R.field rfl rfl (I.fld rfl)) rfl rfl rfl ?_ | refine LL.val (R.load rfl rfl (I.ld1 rfl (by assumption))) rfl rfl rfl ?_ | refine LL.val (R.load rfl rfl (I.ld1 rfl (RowL.cell (by assumption) rfl))) rfl rfl rfl ?_ | refine LL.val (R.index rfl rfl rfl (I.ixA1c rfl rfl (by first | omega | decide))) rfl rfl rfl ?_ | refine LL.val (R.index rfl rfl rfl (I.ixS1c rfl rfl (by omega))) rfl rfl rfl ?_ | refine LL.val (R.index rfl rfl rfl (I.ixAc rfl rfl (by first | omega | decide))) rfl rfl rfl ?_ | refine LL.val (R.index rfl rfl rfl (I.ixSc rfl rfl (by omega))) rfl rfl rfl ?_ | refine LL.val (R.index rfl rfl rfl (I.ixA1 rfl (by omega))) rfl rfl rfl ?_ | refine LL.val (R.index rfl rfl rfl (I.ixS1 rfl (by omega))) rfl rfl rfl ?_ | refine LL.val (R.index rfl rfl rfl (I.ixA rfl (by omega))) rfl rfl rfl ?_ | refine LL.val (R.index rfl rfl rfl (I.ixS rfl (by omega))) rfl rfl rfl ?_ | refine LL.val (R.ltT rfl rfl rfl (by omega)) rfl rfl rfl ?_ | refine LL.val (R.ltF rfl rfl rfl (by omega)) rfl rfl rfl ?_ | refine LL.val (R.addNc rfl rfl rfl rfl (by omega)) rfl rfl rfl ?_ | refine LL.val (R.subNc rfl rfl rfl rfl (by omega) (by omega)) rfl rfl rfl ?_ | refine LL.val (R.addN rfl rfl rfl (by omega)) rfl rfl rfl ?_ | refine LL.val (R.subN rfl rfl rfl (by omega) (by omega)) rfl rfl rfl ?_ | refine LL.val (R.subcN rfl rfl rfl rfl (by omega) (by omega)) rfl rfl rfl ?_ | refine LL.val (R.addI rfl rfl rfl (by omega)) rfl rfl rfl ?_ | refine LL.val (R.subI rfl rfl rfl (by omega)) rfl rfl rfl ?_ | refine LL.val (R.mulNc rfl rfl rfl rfl (by omega)) rfl rfl rfl ?_ | refine LL.val (R.mulcN rfl rfl rfl rfl (by omega)) rfl rfl rfl ?_ | refine LL.val (R.quoNc rfl rfl rfl rfl (by omega) (by omega)) rfl rfl rfl ?_ | refine LL.val (R.remNc rfl rfl rfl rfl (by omega)) rfl rfl rfl ?_ | refine LL.val (R.mulN rfl rfl rfl (by omega)) rfl rfl rfl ?_ | refine LL.val (R.quoN rfl rfl rfl (by omega) (by omega)) rfl rfl rfl ?_ | refine LL.val (R.remN rfl rfl rfl (by omega)) rfl rfl rfl ?_ | refine LL.val (R.leT rfl rfl rfl (by omega)) rfl rfl rfl ?_ | refine LL.val (R.leF rfl rfl rfl (by omega)) rfl rfl rfl ?_ | refine LL.val (R.gtT rfl rfl rfl (by omega)) rfl rfl rfl ?_ | refine LL.val (R.gtF rfl rfl rfl (by omega)) rfl rfl rfl ?_ | refine LL.val (R.geT rfl rfl rfl (by omega)) rfl rfl rfl ?_ | refine LL.val (R.geF rfl rfl rfl (by omega)) rfl rfl rfl ?_ | refine LL.val (R.eqT rfl rfl rfl (by omega)) rfl rfl rfl ?_ | refine LL.val (R.eqF rfl rfl rfl (by omega)) rfl rfl rfl ?_ | refine LL.val (R.neT rfl rfl rfl (by omega)) rfl rfl rfl ?_ | refine LL.val (R.neF rfl rfl rfl (by omega)) rfl rfl rfl ?_ | refine LL.val (R.eqPtr rfl rfl rfl rfl rfl) rfl rfl rfl ?_ | refine LL.val (R.nePtr rfl rfl rfl rfl rfl) rfl rfl rfl ?_ | refine LL.val (R.eqSl rfl rfl rfl rfl rfl) rfl rfl rfl ?_ | refine LL.val (R.neSl rfl rfl rfl rfl rfl) rfl rfl rfl ?_ | refine LL.val (R.eqFn rfl rfl rfl rfl) rfl rfl rfl ?_ | refine LL.val (R.eqBool rfl rfl rfl rfl rfl) rfl rfl rfl ?_ | refine LL.val (R.neBool rfl rfl rfl rfl rfl) rfl rfl rfl ?_ | refine LL.val (R.xorU rfl rfl rfl (by first | omega | decide) (by first | omega | decide)) rfl rfl rfl ?_ | refine LL.val (R.addUN rfl rfl rfl (by omega)) rfl rfl rfl ?_ | refine LL.val (R.not rfl rfl) rfl rfl rfl ?_ | refine LL.val (R.lenS rfl rfl rfl rfl) rfl rfl rfl ?_ | refine LL.val (R.len rfl rfl rfl rfl) rfl rfl rfl ?_ | refine LL.val (R.pick rfl rfl rfl) rfl rfl rfl ?_ | refine LL.val (R.extract rfl rfl rfl) rfl rfl rfl ?_ | refine LL.val (R.func rfl rfl rfl) rfl rfl rfl ?_ | refine LL.val (R.slice rfl rfl rfl rfl rfl (I.slA rfl)) rfl rfl rfl ?_ | refine LL.val (R.slice rfl rfl rfl rfl rfl (I.slAto rfl (by omega))) rfl rfl rfl ?_) | refine LL.skip rfl rfl ?_))
    refine EE.ret _ rfl rfl ?_
    have : xs ≠ ys := fun e => hne (by rw [← hN, ← hN2, e])
    exact ⟨by simp [resV, this], Below.refl _ _⟩

section
variable {α : Type} {enc : α → List Value} {k : Nat} {P : Program} {ops : Array Oper} {ok : World → Prop} {n i : Nat} {D : List Deferred} {M : Slots} {w : World} {o : Oper} {K : Slots → World → Prop} {T e : TypeId} {z : Value} {bytes : Nat}
end
def stoE (ps : List Pt) (e0 : Int) (w0 : World) (e : Ending) (w : World) : Prop := ∃ v, e = .returned (.tuple #[v, .int .i64 e0]) ∧ ReadsT pE 2 w v ps ∧ Below w0.heap.size w0 w
theorem stores_all (a : Nat) (ha : a ≤ 1099511627776) (was : List Nat) (hl : was.length ≤ 40) (k l z : Int) (x : Option Addr) (n c : Nat) (m : List Ex) (r p : Int) (t : Bs) (hlen : m.length ≤ 1048576) (htl : t.length ≤ 1048576) : ∃ ps e0, ps.length ≤ 16 ∧ (∀ v w, Start w → Reads w v (ints .u64 was) → ReadsT eE 3 w (.slice x n c) m → Calls Tryd.prog 20 #[.int .i64 (a : Int), v, inV k l z (.slice x n c) r p t] w (stoE ps e0 w)) ∧ ∀ v w, Reads w v (ints .u64 was) → ReadsT eE 3 w (.slice x n c) m → Calls Tryd.prog 21 #[.int .i64 (a : Int), v, inV k l z (.slice x n c) r p t] w (stoE ps e0 w) := by
  by_cases hok : okI k l z m r p t
  case neg =>
    refine ⟨[], 240, by decide, fun v w hS hv hu => ?_, fun v w hv hu => ?_⟩
    · obtain ⟨_, _, rfl, _⟩ := hv.intsN rfl
      exact (stI_F a _ _ _ k l z x n c m r p t w hu hlen htl hok).mono fun e w' ⟨he, hb⟩ => ⟨_, he, ReadsT.nil _, hb⟩
    · obtain ⟨_, _, rfl, _⟩ := hv.intsN rfl
      exact (stD_F a _ _ _ k l z x n c m r p t w hu hlen htl hok).mono fun e w' ⟨he, hb⟩ => ⟨_, he, ReadsT.nil _, hb⟩
  by_cases h16 : was.length = 16
  case neg =>
    refine ⟨[], 240, by decide, fun v w hS hv hu => ?_, fun v w hv hu => ?_⟩
    · obtain ⟨_, _, rfl, _⟩ := hv.intsN rfl
      exact (stI_L a _ _ _ h16 (by omega) k l z x n c m r p t w hS hu hlen hok).mono fun e w' ⟨he, hb⟩ => ⟨_, he, ReadsT.nil _, hb⟩
    · obtain ⟨_, _, rfl, _⟩ := hv.intsN rfl
      exact (stD_L a _ _ _ h16 (by omega) k l z x n c m r p t w hu hlen hok).mono fun e w' ⟨he, hb⟩ => ⟨_, he, ReadsT.nil _, hb⟩
  refine ⟨difS a (inoW k l z m r p t) was 16, 0, difS_len _ _ _ _, fun v w hS hv hu => ?_, fun v w hv hu => ?_⟩
  · obtain ⟨_, _, rfl, _⟩ := hv.intsN h16
    obtain ⟨bk, off, rfl, hW, hc⟩ := reads_wds hv h16
    exact (stI_T a bk off _ was k l z x n c m r p t w hS hu hlen hok ha hW h16).mono fun e w' ⟨v, he, ho, hb⟩ => ⟨v, he, ho.reads pEnc, hb⟩
  · obtain ⟨_, _, rfl, _⟩ := hv.intsN h16
    obtain ⟨bk, off, rfl, hW, hc⟩ := reads_wds hv h16
    exact (stD_T a bk off _ was k l z x n c m r p t w hu hlen hok ha hW h16).mono fun e w' ⟨v, he, ho, hb⟩ => ⟨v, he, ho.reads pEnc, hb⟩
theorem instores_out (at_ : Int) (v : Value) (was : List Nat) (k l z : Int) (x : Option Addr) (n c : Nat) (m : List Ex) (r p : Int) (t : Bs) (w : World) (hS : Start w) (hv : Reads w v (ints .u64 was)) (hu : ReadsT eE 3 w (.slice x n c) m) (hn : n ≤ 9223372036854775807) (hwn : was.length ≤ 9223372036854775807) (ht : t.length ≤ 9223372036854775807) (h : 40 < was.length ∨ ¬(n ≤ 30 ∧ t.length ≤ 300) ∨ at_ < 0 ∨ 1099511627776 < at_) : Calls Tryd.prog 5 #[.int .i64 at_, v, inV k l z (.slice x n c) r p t] w fun e w' => e = .returned (.bool true) ∧ Below w.heap.size w w' := by
  have q := Below.refl w.heap.size w
  have hSF : ∀ X, Below w.heap.size w X → Start X := fun X b => hS.up b
  obtain ⟨f1, e1⟩ : ∃ f : Bool, f = decide (n ≤ 30 ∧ t.length ≤ 300) := ⟨_, rfl⟩
  have hfa := fun W => few_any k l z x n c r p t W hn ht f1 e1
  obtain ⟨N, hN⟩ : ∃ N, was.length = N := ⟨_, rfl⟩
  obtain ⟨a, cap, rfl, hcap, _⟩ := hv.intsN hN
  rw [hN] at h hwn
  clear hS hv hu
  by_cases hA : 40 < N
  · clear h
    refine X.fn Tryd.func5 rfl (n := 56) rfl rfl ?_
    refine Zr ?_
    refine LL.box [Value.int IntKind.i64 k, Value.int IntKind.i64 l, Value.int IntKind.i64 z, Value.slice x n c, Value.int IntKind.i64 r, Value.int IntKind.i64 p, strV t] rfl rfl rfl rfl rfl ?_
    intro W2 g3 eg3 r4 z5 b1
    replace q := Zu q b1; refine Za ?_; refine Zq ?_; refine Zc ?_; refine Zr ?_; refine Zm ?_; refine Zn ?_; refine ZgtT ?_; refine Zm ?_; refine Zs ?_; refine Zs ?_; refine Zs ?_; refine Zp ?_; refine Zm ?_; refine Zs ?_; refine Zs ?_; refine Zp ?_; refine Zm ?_; refine Zs ?_; refine Zs ?_; refine Zp ?_; refine Zq ?_; refine CC.yes rfl ?_; refine Zr ?_
    refine LL.call (R.call rfl rfl rfl) rfl rfl rfl (works_any _ (hSF _ q)) ?_
    rintro e W7 ⟨rfl, b6⟩
    refine ⟨_, rfl, ?_⟩; have zb6 := b6.size; replace r4 := r4.up b6; replace b1 := Zu b1 b6; replace q := Zu q b6; refine Za ?_; refine Zq ?_; refine CC.ret ?_; refine EE.thenR ?_; refine EE.ret _ rfl rfl ?_
    exact ⟨rfl, q⟩
  cases f1 with
  | false =>
    clear h
    refine X.fn Tryd.func5 rfl (n := 56) rfl rfl ?_
    refine Zr ?_
    refine LL.box [Value.int IntKind.i64 k, Value.int IntKind.i64 l, Value.int IntKind.i64 z, Value.slice x n c, Value.int IntKind.i64 r, Value.int IntKind.i64 p, strV t] rfl rfl rfl rfl rfl ?_
    intro Wa2 ga3 ega3 ra4 za5 ba1
    replace q := Zu q ba1; refine Za ?_; refine Zq ?_; refine Zc ?_; refine Zr ?_; refine Zm ?_; refine Zn ?_; refine ZgtF ?_; refine Zm ?_; refine Zv ra4 ?_
    refine LL.call (R.call rfl rfl rfl) rfl rfl rfl (hfa _) ?_
    rintro e Wa7 ⟨rfl, ba6⟩
    refine ⟨_, rfl, ?_⟩; have zba6 := ba6.size; replace ra4 := ra4.up ba6; replace ba1 := Zu ba1 ba6; replace q := Zu q ba6; refine Zt ?_; refine Zp ?_; refine Zm ?_; refine Zs ?_; refine Zs ?_; refine Zp ?_; refine Zm ?_; refine Zs ?_; refine Zs ?_; refine Zp ?_; refine Zq ?_; refine CC.yes rfl ?_; refine Zr ?_
    refine LL.call (R.call rfl rfl rfl) rfl rfl rfl (works_any _ (hSF _ q)) ?_
    rintro e Wa10 ⟨rfl, ba9⟩
    refine ⟨_, rfl, ?_⟩; have zba9 := ba9.size; replace ba6 := Zu ba6 ba9; replace ra4 := ra4.up ba9; replace ba1 := Zu ba1 ba9; replace q := Zu q ba9; refine Za ?_; refine Zq ?_; refine CC.ret ?_; refine EE.thenR ?_; refine EE.ret _ rfl rfl ?_
    exact ⟨rfl, q⟩
  | true =>
    have h2 : at_ < 0 ∨ 1099511627776 < at_ := by
      rcases h with h | h | h
      · exact absurd h hA
      · exact absurd (of_decide_eq_true e1.symm) h
      · exact h
    clear h
    by_cases hB : at_ < 0
    · refine X.fn Tryd.func5 rfl (n := 56) rfl rfl ?_
      refine Zr ?_
      refine LL.box [Value.int IntKind.i64 k, Value.int IntKind.i64 l, Value.int IntKind.i64 z, Value.slice x n c, Value.int IntKind.i64 r, Value.int IntKind.i64 p, strV t] rfl rfl rfl rfl rfl ?_
      intro Wb2 gb3 egb3 rb4 zb5 bb1
      replace q := Zu q bb1; refine Za ?_; refine Zq ?_; refine Zc ?_; refine Zr ?_; refine Zm ?_; refine Zn ?_; refine ZgtF ?_; refine Zm ?_; refine Zv rb4 ?_
      refine LL.call (R.call rfl rfl rfl) rfl rfl rfl (hfa _) ?_
      rintro e Wb7 ⟨rfl, bb6⟩
      refine ⟨_, rfl, ?_⟩; have zbb6 := bb6.size; replace rb4 := rb4.up bb6; replace bb1 := Zu bb1 bb6; replace q := Zu q bb6; refine Zt ?_; refine Zp ?_; refine Zm ?_; refine Zm ?_; refine ZltT ?_; refine Zp ?_; refine Zm ?_; refine Zs ?_; refine Zs ?_; refine Zp ?_; refine Zq ?_; refine CC.yes rfl ?_; refine Zr ?_
      refine LL.call (R.call rfl rfl rfl) rfl rfl rfl (works_any _ (hSF _ q)) ?_
      rintro e Wb10 ⟨rfl, bb9⟩
      refine ⟨_, rfl, ?_⟩; have zbb9 := bb9.size; replace bb6 := Zu bb6 bb9; replace rb4 := rb4.up bb9; replace bb1 := Zu bb1 bb9; replace q := Zu q bb9; refine Za ?_; refine Zq ?_; refine CC.ret ?_; refine EE.thenR ?_; refine EE.ret _ rfl rfl ?_
      exact ⟨rfl, q⟩
    · refine X.fn Tryd.func5 rfl (n := 56) rfl rfl ?_
      refine Zr ?_
      refine LL.box [Value.int IntKind.i64 k, Value.int IntKind.i64 l, Value.int IntKind.i64 z, Value.slice x n c, Value.int IntKind.i64 r, Value.int IntKind.i64 p, strV t] rfl rfl rfl rfl rfl ?_
      intro Wc2 gc3 egc3 rc4 zc5 bc1
      replace q := Zu q bc1; refine Za ?_; refine Zq ?_; refine Zc ?_; refine Zr ?_; refine Zm ?_; refine Zn ?_; refine ZgtF ?_; refine Zm ?_; refine Zv rc4 ?_
      refine LL.call (R.call rfl rfl rfl) rfl rfl rfl (hfa _) ?_
      rintro e Wc7 ⟨rfl, bc6⟩
      refine ⟨_, rfl, ?_⟩; have zbc6 := bc6.size; replace rc4 := rc4.up bc6; replace bc1 := Zu bc1 bc6; replace q := Zu q bc6; refine Zt ?_; refine Zp ?_; refine Zm ?_; refine Zm ?_; refine ZltF ?_; refine Zp ?_; refine Zm ?_; refine Zm ?_; refine ZgtT ?_; refine Zp ?_; refine Zq ?_; refine CC.yes rfl ?_; refine Zr ?_
      refine LL.call (R.call rfl rfl rfl) rfl rfl rfl (works_any _ (hSF _ q)) ?_
      rintro e Wc10 ⟨rfl, bc9⟩
      refine ⟨_, rfl, ?_⟩; have zbc9 := bc9.size; replace bc6 := Zu bc6 bc9; replace rc4 := rc4.up bc9; replace bc1 := Zu bc1 bc9; replace q := Zu q bc9; refine Za ?_; refine Zq ?_; refine CC.ret ?_; refine EE.thenR ?_; refine EE.ret _ rfl rfl ?_
      exact ⟨rfl, q⟩
theorem psame_T (ps : List Pt) (v1 v2 : Value) (w : World) (h1 : ReadsT pE 2 w v1 ps) (h2 : ReadsT pE 2 w v2 ps) (hl : ps.length ≤ 1048576) : Calls Tryd.prog 22 #[v1, v2] w fun e w' => e = .returned (.bool true) ∧ Below w.heap.size w w' := by
  have := psame_any v1 v2 ps ps w h1 h2 hl hl
  rwa [decide_eq_true rfl] at this
theorem instores_in (a : Nat) (v : Value) (was : List Nat) (k l z : Int) (x : Option Addr) (n c : Nat) (m : List Ex) (r p : Int) (t : Bs) (w : World) (hS : Start w) (hv : Reads w v (ints .u64 was)) (hu : ReadsT eE 3 w (.slice x n c) m) (hml : m.length = n) (hwl : was.length ≤ 40) (hf : n ≤ 30 ∧ t.length ≤ 300) (ha : a ≤ 1099511627776) : Calls Tryd.prog 5 #[.int .i64 (a : Int), v, inV k l z (.slice x n c) r p t] w fun e w' => e = .returned (.bool true) ∧ Below w.heap.size w w' := by
  have q := Below.refl w.heap.size w
  have hSF : ∀ X, Below w.heap.size w X → Start X := fun X b => hS.up b
  have hfa := fun W => few_any k l z x n c r p t W (by omega) (by omega) true (decide_eq_true hf).symm
  have hvF : ∀ X, Below w.heap.size w X → Reads X v (ints .u64 was) := fun X b => hv.up b
  have huF : ∀ X, Below w.heap.size w X → ReadsT eE 3 X (.slice x n c) m := fun X b => hu.up b
  obtain ⟨ps, e0, hps16, h1, h2⟩ := stores_all a ha was hwl k l z x n c m r p t (by omega) (by omega)
  have hps : ps.length ≤ 1048576 := by omega
  obtain ⟨N, hN⟩ : ∃ N, was.length = N := ⟨_, rfl⟩
  obtain ⟨a1, cap, rfl, hcap, _⟩ := hv.intsN hN
  rw [hN] at hwl
  clear hS hu
  have hlu : (ints .u64 was).length = N := by simp [ints, hN]
  refine X.fn Tryd.func5 rfl (n := 56) rfl rfl ?_
  refine Zr ?_
  refine LL.box [Value.int IntKind.i64 k, Value.int IntKind.i64 l, Value.int IntKind.i64 z, Value.slice x n c, Value.int IntKind.i64 r, Value.int IntKind.i64 p, strV t] rfl rfl rfl rfl rfl ?_
  intro W23 g24 eg24 r25 z26 b22
  replace q := Zu q b22; replace hv := hv.up b22; refine Za ?_; refine Zq ?_; refine Zc ?_; refine Zr ?_; refine Zm ?_; refine Zn ?_; refine ZgtF ?_; refine Zm ?_; refine Zv r25 ?_
  refine LL.call (R.call rfl rfl rfl) rfl rfl rfl (hfa _) ?_
  rintro e W196 ⟨rfl, b195⟩
  refine ⟨_, rfl, ?_⟩; have zb195 := b195.size; replace r25 := r25.up b195; replace b22 := Zu b22 b195; replace q := Zu q b195; replace hv := hv.up b195; refine Zt ?_; refine Zp ?_; refine Zm ?_; refine Zm ?_; refine ZltF ?_; refine Zp ?_; refine Zm ?_; refine Zm ?_; refine ZgtF ?_; refine Zp ?_; refine Zq ?_; refine CC.no rfl ?_; refine CC.skip ?_; refine EE.thenN ?_; refine Zc ?_
  refine CC.freeZ (fun W_ j => j < W_.heap.size ∧ (True)) (by kernel_rfl) (by kernel_rfl) (fun W439 b438 z440 => ?_)
  replace b195 := Zu b195 b438; replace r25 := r25.up b438; replace b22 := Zu b22 b438; replace q := Zu q b438; replace hv := hv.up b438
  have hok : Kept (fun j => j < W439.heap.size ∧ (True)) W439 W439 := Kept.refl _ _
  have fzr25 := fzRow (K := fun j => j < W439.heap.size ∧ (True)) r25 ⟨r25.lt, (by first | trivial | omega)⟩
  refine AA.pure 0 rfl hok (by kernel_rfl) (fun w' b' => R.move rfl rfl) rfl rfl ?_
  refine AA.pure 2 rfl hok (by kernel_rfl) (fun w' b' => R.move rfl rfl) rfl rfl ?_
  refine AA.pure 4 rfl hok (by kernel_rfl) (fun w' b' => R.load rfl rfl (I.ldNc (vs := [Value.int IntKind.i64 k, Value.int IntKind.i64 l, Value.int IntKind.i64 z, Value.slice x n c, Value.int IntKind.i64 r, Value.int IntKind.i64 p, strV t]) (RowL.cells (fzr25 w' b') rfl) (by rfl) (by rfl))) rfl rfl ?_
  refine AA.one 1 (by kernel_rfl) ?_
  have l465 := r25.lt
  refine ZR.lit (e := 41) [] 0 rfl rfl rfl (fun _ => by kernel_rfl) rfl rfl ?_
  intro W467 g468 eg468 r469 z470 b466
  replace b438 := Zu b438 b466; replace b195 := Zu b195 b466; replace r25 := r25.up b466; replace b22 := Zu b22 b466; replace q := Zu q b466; replace hv := hv.up b466; replace hok := Zh hok b466; have y471 := hok.size
  refine ⟨hok, ?_⟩
  refine AA.one 3 (by kernel_rfl) ?_
  refine ZR.appendL rfl rfl rfl El64 r469 (by first | assumption | exact OwnW.reads (by assumption)) (ints_one _ _) (by simp only [maxLen, List.length_map, List.length_cons, List.length_nil]; omega) (by simp only [maxLen, List.length_map, List.length_cons, List.length_nil]; omega) rfl rfl ?_
  have hlb502 := r469.lt
  intro v499 W500 o501 b502
  clear r469
  replace o501 := o501.low (show w.heap.size ≤ _ by omega)
  replace b466 := Zg b466 b502; replace b438 := Zg b438 b502; replace b195 := Zg b195 b502; replace r25 := Zd r25 b502; replace b22 := Zg b22 b502; replace q := Zg q b502; replace hok := Zo hok b502; have zb502 := b502.size
  refine ⟨hok, ?_⟩
  refine AA.one 5 (by kernel_rfl) ?_
  have l507 := r25.lt
  (refine SR.call rfl (R.call rfl rfl rfl) rfl rfl (h1 _ _ (hSF _ q) (OwnW.reads (by assumption)) (huF _ q)) ?_; rintro e W506 ⟨v4, rfl, rd4, b503⟩; refine ⟨_, rfl, ?_⟩; obtain ⟨x4, c4, rfl, _⟩ := rd4.form rfl)
  have zb503 := b503.size; replace o501 := o501.up b503; replace b466 := Zu b466 b503; replace b438 := Zu b438 b503; replace b195 := Zu b195 b503; replace r25 := r25.up b503; replace b22 := Zu b22 b503; replace q := Zu q b503; replace hok := Zh hok b503; have y511 := hok.size
  refine ⟨hok, ?_⟩
  refine AA.pure 6 rfl hok (by kernel_rfl) (fun w' b' => R.move rfl rfl) rfl rfl ?_
  refine AA.pure 7 rfl hok (by kernel_rfl) (fun w' b' => R.extract rfl rfl rfl) rfl rfl ?_
  refine AA.pure 8 rfl hok (by kernel_rfl) (fun w' b' => R.extract rfl rfl rfl) rfl rfl ?_
  refine AA.pure 9 rfl hok (by kernel_rfl) (fun w' b' => R.assign rfl rfl) rfl rfl ?_
  refine AA.pure 10 rfl hok (by kernel_rfl) (fun w' b' => R.assign rfl rfl) rfl rfl ?_
  refine AA.done rfl ?_
  clear fzr25 hok
  refine EE.thenN ?_; refine Zr ?_; refine Zm ?_; refine Zm ?_; refine Zv r25 ?_; have l596 := r25.lt
  (refine LL.call (R.call rfl rfl rfl) rfl rfl rfl (h2 _ _ (hvF _ q) (huF _ q)) ?_; rintro e W595 ⟨v5, rfl, rd5, b592⟩; refine ⟨_, rfl, ?_⟩; obtain ⟨x5, c5, rfl, _⟩ := rd5.form rfl)
  have zb592 := b592.size; replace b503 := Zu b503 b592; replace rd4 := rd4.up b592; replace o501 := o501.up b592; replace b466 := Zu b466 b592; replace b438 := Zu b438 b592; replace b195 := Zu b195 b592; replace r25 := r25.up b592; replace b22 := Zu b22 b592; replace q := Zu q b592; refine Zm ?_; refine Zx ?_; refine Zx ?_; refine Za ?_; refine Za ?_; refine Zq ?_; refine Zr ?_; refine Zm ?_; refine Zm ?_
  have l788 := r25.lt
  (refine LL.call (R.call rfl rfl rfl) rfl rfl rfl (psame_T ps _ _ _ rd4 rd5 hps) ?_; rintro e W787 ⟨rfl, b784⟩; refine ⟨_, rfl, ?_⟩)
  have zb784 := b784.size; replace b592 := Zu b592 b784; replace rd5 := rd5.up b784; replace b503 := Zu b503 b784; replace rd4 := rd4.up b784; replace o501 := o501.up b784; replace b466 := Zu b466 b784; replace b438 := Zu b438 b784; replace b195 := Zu b195 b784; replace r25 := r25.up b784; replace b22 := Zu b22 b784; replace q := Zu q b784; refine Zm ?_; refine Zm ?_
  refine LL.call (R.call rfl rfl rfl) rfl rfl rfl (num_any _ _) ?_
  rintro e W' ⟨rfl, rfl⟩
  refine ⟨_, rfl, ?_⟩; refine Zm ?_; refine ZeqT ?_; refine Zp ?_; refine Zm ?_
  refine LL.call (R.call rfl rfl rfl) rfl rfl rfl (works_any _ (hSF _ q)) ?_
  rintro e W985 ⟨rfl, b984⟩
  refine ⟨_, rfl, ?_⟩; have zb984 := b984.size; replace b784 := Zu b784 b984; replace b592 := Zu b592 b984; replace rd5 := rd5.up b984; replace b503 := Zu b503 b984; replace rd4 := rd4.up b984; replace o501 := o501.up b984; replace b466 := Zu b466 b984; replace b438 := Zu b438 b984; replace b195 := Zu b195 b984; replace r25 := r25.up b984; replace b22 := Zu b22 b984; replace q := Zu q b984; refine Zp ?_
  refine Za ?_; refine Zq ?_; refine CC.ret ?_; refine EE.ret _ rfl rfl ?_
  exact ⟨rfl, q⟩
theorem instores_shell (at_ : Int) (v : Value) (was : List Nat) (k l z : Int) (x : Option Addr) (n c : Nat) (m : List Ex) (r p : Int) (s : ByteArray) (w : World) (hS : Start w) (hv : Reads w v (ints .u64 was)) (hwl : was.length ≤ 9223372036854775807) (hu : ReadsT eE 3 w (.slice x n c) m) (hl : m.length ≤ 9223372036854775807) (hs : s.size ≤ maxLen) : Calls Tryd.prog 5 #[.int .i64 at_, v, .agg #[.int .i64 k, .int .i64 l, .int .i64 z, .slice x n c, .int .i64 r, .int .i64 p, .string s]] w fun e w' => e = .returned (.bool true) ∧ Below w.heap.size w w' := by
  obtain ⟨t, rfl⟩ : ∃ l : Bs, s = ⟨l.toArray⟩ := ⟨s.data.toList, bs_data s⟩
  obtain ⟨_, _, e, _⟩ := hu.form rfl
  cases e
  have hs2 : t.length ≤ 9223372036854775807 := by simpa [ByteArray.size, maxLen] using hs
  by_cases h : 40 < was.length ∨ ¬(m.length ≤ 30 ∧ t.length ≤ 300) ∨ at_ < 0 ∨ 1099511627776 < at_
  · exact instores_out at_ v was k l z x _ c m r p t w hS hv hu hl hwl hs2 h
  · obtain ⟨a, rfl⟩ : ∃ a : Nat, at_ = (a : Int) := ⟨at_.toNat, by omega⟩
    exact instores_in a v was k l z x _ c m r p t w hS hv hu rfl (by omega) (by omega) (by omega)
end Go.Proofs.YtnoefalgmekjbaaDoor

/- Opening the arguments of a law: slices of numbers, pairs of numbers. -/
namespace Go.Proofs.YtnoefalgmekjbaaDoor
set_option linter.unusedVariables false
set_option linter.unusedSimpArgs false
open Go.RowKit Go.ChangeShapes Go.WideShapes Go.ChangeAt

theorem own : ownKnob Tryd.prog.godebug = none := by kernel_rfl
theorem laidOut : laidOutB Tryd.prog = true := by kernel_rfl

section
variable {H : Type} {enc : TypeId × Value → H} {P : Program} {w : World} {base : Nat} {spare : Nat → Bool} {held : Bool} {r : Reach} {b0 : Nat} {t : TypeId} {v : Value} {d : DataW H} {p : List MemPlace}

/-- A slice of unsigned numbers. -/
theorem open_nats {e : TypeId} {k : IntKind} {M : Nat} (ht : P.underlying t = some (.slice e)) (he : P.underlying e = some (.int k)) (hc : P.cellsOf e = 1) (hk : ∀ n, (Lit.int k n).wf = true → 0 ≤ n ∧ n < (M : Int))
    (hv : Value.okWide P w r b0 t v) (h : DataW.Trod enc P w base spare held t v d p) : ∃ ns : List Nat, Reads w v (ints k ns) ∧ (∀ n ∈ ns, n < M) ∧ ns.length ≤ 9223372036854775807 := by
  obtain ⟨a, len, cap, rfl⟩ := okWide_slice ht hv
  obtain ⟨fuel, hf⟩ := h
  rcases open_ints ht he hc hf with ⟨hcs, _⟩ | ⟨x, l, c, zs, hcs, _, hl, hm, hz, _, hcell, hwz⟩
  · simp [Value.cells] at hcs
    obtain ⟨rfl, rfl, rfl⟩ := hcs
    exact ⟨[], Reads.nil w, by simp, by simp⟩
  · simp [Value.cells] at hcs
    obtain ⟨rfl, rfl, rfl⟩ := hcs
    have hlz : len ≤ zs.length := by rw [hz]; split <;> omega
    refine ⟨(zs.take len).map Int.toNat, ?_, ?_, ?_⟩
    · have hlen : ((zs.take len).map Int.toNat).length = len := by simp; omega
      refine ⟨some x, cap, by rw [List.length_map, hlen], by rw [List.length_map, hlen]; exact hl, fun hne => ?_⟩
      have h0 : 0 < len := by
        rcases Nat.eq_zero_or_pos len with h0 | h0
        · subst h0; simp at hne
        · exact h0
      obtain ⟨b, off, spot⟩ := x
      have hc0 := hcell 0 (by omega)
      have hspot : spot = none := by simpa [Addr.add] using World.cell?_spot hc0
      subst hspot
      have hblt : b < w.heap.size := by
        rcases Nat.lt_or_ge b w.heap.size with hb | hb
        · exact hb
        · simp [Addr.add, World.cell?, Array.getElem?_eq_none hb] at hc0
      refine ⟨b, off, rfl, hblt, fun j hj => ?_⟩
      rw [List.length_map, hlen] at hj
      have hcj := hcell j (by omega)
      have hjz : j < zs.length := by omega
      have hw := hk _ (hwz zs[j] (List.getElem_mem hjz))
      rw [Addr.add_lit] at hcj
      rw [hcj]
      simp [List.getElem?_take, hj, hjz, List.getD]
      omega
    · intro n hn
      simp only [List.mem_map] at hn
      obtain ⟨z, hz', rfl⟩ := hn
      have := hk _ (hwz z (List.mem_of_mem_take hz'))
      omega
    · simp only [List.length_map, List.length_take]
      unfold maxLen at hm
      omega

end
end Go.Proofs.YtnoefalgmekjbaaDoor


/- Opening the arguments of a law: structs and arrays of integers, and of such. Over any program. -/
namespace Go.Proofs.YtnoefalgmekjbaaDoor
set_option linter.unusedVariables false
set_option linter.unusedSimpArgs false
open Go.RowKit Go.ChangeShapes Go.WideShapes Go.ChangeAt
/-- Which kind of integer lies at a cell. -/
def atC (P : Program) : Nat → TypeId → Nat → Option IntKind
  | 0, _, _ => none
  | d + 1, t, j => match P.underlying t with
    | some (.struct fs) => fs.toList.findSome? fun f => if f.offset ≤ j ∧ j < f.offset + P.cellsOf f.type then atC P d f.type (j - f.offset) else none
    | some (.array n e) => if j / P.cellsOf e < n then atC P d e (j % P.cellsOf e) else none
    | some (.int k) => if j = 0 then some k else none
    | _ => none
section
variable {H : Type} {enc : TypeId × Value → H} {P : Program} {w : World} {base : Nat} {spare : Nat → Bool} {held : Bool} {r : Reach} {b0 : Nat} {t : TypeId} {v : Value} {d : DataW H} {p : List MemPlace}
theorem trod_at : ∀ (n : Nat) (t : TypeId) (j fuel : Nat) (cs : List Value) (x : DataW H × List MemPlace) (k : IntKind), atC P n t j = some k → DataW.trod enc P w base spare held fuel t cs = some x → ∃ z : Int, cs[j]? = some (.int k z) ∧ (Lit.int k z).wf = true
  | 0, _, _, _, _, _, _, h, _ => by cases h
  | n + 1, t, j, fuel, cs, x, k, h, hx => by
    cases hu : P.underlying t with
    | none => simp [atC, hu] at h
    | some kd =>
      cases kd <;> simp only [atC, hu] at h <;> try (cases h; done)
      case int q =>
        split at h
        · rename_i hj
          cases h
          subst hj
          obtain ⟨z, e, _, hw⟩ := DataW.trod_int hu hx
          exact ⟨z, by rw [e]; rfl, hw⟩
        · cases h
      case struct fs =>
        obtain ⟨f, hf, hfk⟩ := List.exists_of_findSome?_eq_some h
        split at hfk
        · rename_i hj
          obtain ⟨xs, m, _, rfl, hl, hlen, hf2⟩ := DataW.trod_struct hu hx
          obtain ⟨i, hi⟩ := List.mem_iff_getElem?.1 hf
          have h2 := hf2 i f (by simpa using hi)
          have hil : i < xs.length := by
            have := (List.getElem?_eq_some_iff.1 hi).1
            rw [Array.length_toList] at this
            omega
          rw [List.getElem?_eq_getElem hil] at h2
          obtain ⟨z, e, hw⟩ := trod_at n f.type (j - f.offset) _ _ _ k hfk h2
          refine ⟨z, ?_, hw⟩
          rw [List.getElem?_take] at e
          split at e
          · rw [List.getElem?_drop] at e
            rwa [show f.offset + (j - f.offset) = j by omega] at e
          · cases e
        · cases hfk
      case array m e =>
        split at h
        · rename_i hj
          obtain ⟨xs, m', _, rfl, hl, hlen, hi⟩ := DataW.trod_array hu hx
          have h2 := hi _ hj
          rw [List.getElem?_eq_getElem (by omega)] at h2
          obtain ⟨z, e', hw⟩ := trod_at n e (j % P.cellsOf e) _ _ _ k h h2
          refine ⟨z, ?_, hw⟩
          rw [List.getElem?_take] at e'
          split at e'
          · rw [List.getElem?_drop] at e'
            rwa [show j / P.cellsOf e * P.cellsOf e + j % P.cellsOf e = j by rw [Nat.mul_comm]; exact Nat.div_add_mod _ _] at e'
          · cases e'
        · cases h
theorem open_ints {c : Nat} (ks : Nat → IntKind) (hs : (match P.underlying t with | some (.struct _) | some (.array _ _) => true | _ => false) = true) (hc : P.cellsOf t = c) (hk : (List.range c).all (fun j => atC P 9 t j == some (ks j)) = true)
    (hv : Value.okWide P w r b0 t v) (h : DataW.Trod enc P w base spare held t v d p) : ∃ g : Nat → Int, v = .agg ((List.range c).map fun j => Value.int (ks j) (g j)).toArray ∧ ∀ j, j < c → (Lit.int (ks j) (g j)).wf = true := by
  have hg : ∃ cs, v = .agg cs ∧ cs.size = P.cellsOf t := by
    unfold Value.okWide at hv
    split at hv
    · obtain ⟨cs, h1, h2, _⟩ := hv; exact ⟨cs, h1, h2⟩
    · obtain ⟨cs, h1, h2, _⟩ := hv; exact ⟨cs, h1, h2⟩
    · rename_i h1 h2
      split at hs <;> simp_all
  obtain ⟨cs, rfl, hsz⟩ := hg
  obtain ⟨fuel, hf⟩ := h
  have key : ∀ j, ∃ z : Int, j < c → cs.toList[j]? = some (.int (ks j) z) ∧ (Lit.int (ks j) z).wf = true := by
    intro j
    by_cases hj : j < c
    · have hk' := List.all_eq_true.1 hk j (List.mem_range.2 hj)
      have hk'' : atC P 9 t j = some (ks j) := by simpa using hk'
      obtain ⟨z, h1, h2⟩ := trod_at 9 t j fuel _ _ _ hk'' hf
      exact ⟨z, fun _ => ⟨h1, h2⟩⟩
    · exact ⟨0, fun h => absurd h hj⟩
  refine ⟨fun j => Classical.choose (key j), ?_, fun j hj => (Classical.choose_spec (key j) hj).2⟩
  congr 1
  apply Array.ext'
  apply List.ext_getElem?
  intro j
  simp only [List.toList_toArray, List.getElem?_map]
  by_cases hj : j < c
  · rw [(Classical.choose_spec (key j) hj).1, List.getElem?_range hj]
    rfl
  · rw [List.getElem?_eq_none (by rw [Array.length_toList, hsz, hc]; omega), List.getElem?_eq_none (by simp; omega)]
    rfl
end
end Go.Proofs.YtnoefalgmekjbaaDoor


/- Opening the arguments of a law: slices of structs of integers. Over any program. -/
namespace Go.Proofs.YtnoefalgmekjbaaDoor
set_option linter.unusedVariables false
set_option linter.unusedSimpArgs false
open Go.RowKit Go.ChangeShapes Go.WideShapes Go.ChangeAt Go.Deep
section
variable {α : Type} {encT : α → List Value} {H : Type} {enc : TypeId × Value → H} {P : Program} {w : World} {base : Nat} {spare : Nat → Bool} {held : Bool} {r : Reach} {b0 : Nat} {t : TypeId} {v : Value} {d : DataW H} {p : List MemPlace}
end
end Go.Proofs.YtnoefalgmekjbaaDoor


/- Opening the arguments of a law: a struct of an int and a string. Over any program. -/
namespace Go.Proofs.YtnoefalgmekjbaaDoor
set_option linter.unusedVariables false
set_option linter.unusedSimpArgs false
open Go.RowKit Go.ChangeShapes Go.WideShapes Go.ChangeAt
section
variable {H : Type} {enc : TypeId × Value → H} {P : Program} {w : World} {base : Nat} {spare : Nat → Bool} {held : Bool} {r : Reach} {b0 : Nat} {t : TypeId} {v : Value} {d : DataW H} {p : List MemPlace}
end
end Go.Proofs.YtnoefalgmekjbaaDoor


/- Opening an inode: a struct of numbers, a slice of structs of numbers, a string. Over any program. -/
namespace Go.Proofs.YtnoefalgmekjbaaDoor
set_option linter.unusedVariables false
set_option linter.unusedSimpArgs false
open Go.RowKit Go.ChangeShapes Go.WideShapes Go.ChangeAt Go.Deep
section
variable {α : Type} {encT : α → List Value} {H : Type} {enc : TypeId × Value → H} {P : Program} {w : World} {base : Nat} {spare : Nat → Bool} {held : Bool} {r : Reach} {b0 : Nat} {t : TypeId} {v : Value} {d : DataW H} {p : List MemPlace}
theorem open_rowsC {e c fuel : Nat} {cs : List Value} {x0 : DataW H × List MemPlace} (ks : Nat → IntKind) (E : Enc encT c) (f : (Nat → Int) → α) (hf : ∀ g, encT (f g) = (List.range c).map fun j => Value.int (ks j) (g j)) (ht : P.underlying t = some (.slice e)) (ce : P.cellsOf e = c) (hk : (List.range c).all (fun j => atC P 9 e j == some (ks j)) = true)
    (hfu : DataW.trod enc P w base spare held fuel t cs = some x0) : ∃ (a : Option Addr) (n k : Nat) (gs : List (Nat → Int)), cs = [.slice a n k] ∧ ReadsT encT c w (.slice a n k) (gs.map f) ∧ (∀ g ∈ gs, ∀ j, j < c → (Lit.int (ks j) (g j)).wf = true) ∧ gs.length ≤ 9223372036854775807 := by
  rcases open_slice ht hfu with ⟨rfl, _⟩ | ⟨x, len, cap, m, n, D, Pl, rfl, hb, hl, hm, hmm, _, hx⟩
  · exact ⟨none, 0, 0, [], rfl, ReadsT.nil w, by simp, by simp⟩
  · have hlm : len ≤ m := by rw [hmm]; split <;> omega
    have each : ∀ i, i < len → ∃ g : Nat → Int, ∀ j, j < c → w.cell? (x.add (i * c + j)) = some (.int (ks j) (g j)) ∧ (Lit.int (ks j) (g j)).wf = true := by
      intro i hi
      obtain ⟨cs', h1, h2⟩ := hx i (by omega)
      rw [ce] at h1
      obtain ⟨_, hlen, hcell⟩ := World.cells?_some h1
      have hj : ∀ j, ∃ z : Int, j < c → cs'[j]? = some (.int (ks j) z) ∧ (Lit.int (ks j) z).wf = true := fun j => by
        by_cases hjc : j < c
        · have hkj := List.all_eq_true.1 hk j (List.mem_range.2 hjc)
          obtain ⟨z, h3, h4⟩ := trod_at 9 e j n cs' (D i, Pl i) (ks j) (by simpa using hkj) h2
          exact ⟨z, fun _ => ⟨h3, h4⟩⟩
        · exact ⟨0, fun h => absurd h hjc⟩
      refine ⟨fun j => Classical.choose (hj j), fun j hjc => ?_⟩
      have hs := Classical.choose_spec (hj j) hjc
      refine ⟨?_, hs.2⟩
      have := hcell j (by omega)
      rw [add_add] at this
      rw [this]
      exact hs.1
    obtain ⟨G, hG⟩ := choose_lt each
    have hlen : (((List.range len).map G).map f).length = len := by simp
    refine ⟨some x, len, cap, (List.range len).map G, rfl, ⟨some x, cap, by rw [hlen], by rw [hlen]; exact hl, fun hne => ?_⟩, ?_, ?_⟩
    · have h0 : 0 < len := by
        rcases Nat.eq_zero_or_pos len with h0 | h0
        · subst h0; simp at hne
        · exact h0
      have hcp := E.pos
      obtain ⟨b, off, spot⟩ := x
      have hc0 := (hG 0 h0 0 hcp).1
      have hspot : spot = none := by simpa [Addr.add] using World.cell?_spot hc0
      subst hspot
      have hblt : b < w.heap.size := by
        rcases Nat.lt_or_ge b w.heap.size with hb | hb
        · exact hb
        · simp [Addr.add, World.cell?, Array.getElem?_eq_none hb] at hc0
      refine ⟨b, off, rfl, hblt, fun j hj => ?_⟩
      rw [hlen] at hj
      have hil : j / c < len := (Nat.div_lt_iff_lt_mul hcp).2 hj
      have hrl : j % c < c := Nat.mod_lt _ hcp
      have hc1 := (hG (j / c) hil (j % c) hrl).1
      rw [Addr.add_lit] at hc1
      have hje : j / c * c + j % c = j := by rw [Nat.mul_comm]; exact Nat.div_add_mod _ _
      have hget : (((List.range len).map G).map f)[j / c]? = some (f (G (j / c))) := by simp [hil]
      have hg := E.get _ (j / c) _ hget (j % c) hrl
      rw [hje] at hg hc1
      rw [hg, hf, hc1]
      simp [hrl]
    · intro g hg j hj
      obtain ⟨i, hi, rfl⟩ := List.mem_map.1 hg
      exact (hG i (List.mem_range.1 hi) j hj).2
    · simp only [List.length_map, List.length_range]
      unfold maxLen at hm
      omega
theorem fld_at {fs : Array Field} {f : Field} {i n : Nat} {cs : List Value} {xs : List (DataW H × List MemPlace)} (hf2 : ∀ (i : Nat) (f : Field), fs[i]? = some f → DataW.trod enc P w base spare held n f.type ((cs.drop f.offset).take (P.cellsOf f.type)) = xs[i]?) (hlen : xs.length = fs.size) (hi : fs.toList[i]? = some f) (ho : f.offset = i) (hc : P.cellsOf f.type = 1) : ∃ y, DataW.trod enc P w base spare held n f.type ((cs.drop i).take 1) = some y := by
  have hx : i < xs.length := by
    have := (List.getElem?_eq_some_iff.1 hi).1
    rw [Array.length_toList] at this
    omega
  have g := hf2 i f (by simpa using hi)
  rw [List.getElem?_eq_getElem hx, ho, hc] at g
  exact ⟨_, g⟩
theorem open_in {fs : Array Field} {f0 f1 f2 f3 f4 f5 f6 : Field} {e c : Nat} (ks : Nat → IntKind) (E : Enc encT c) (f : (Nat → Int) → α) (hf : ∀ g, encT (f g) = (List.range c).map fun j => Value.int (ks j) (g j)) (hu : P.underlying t = some (.struct fs)) (h0 : fs.toList[0]? = some f0) (h1 : fs.toList[1]? = some f1) (h2 : fs.toList[2]? = some f2) (h3 : fs.toList[3]? = some f3) (h4 : fs.toList[4]? = some f4) (h5 : fs.toList[5]? = some f5) (h6 : fs.toList[6]? = some f6) (o0 : f0.offset = 0) (o1 : f1.offset = 1) (o2 : f2.offset = 2) (o3 : f3.offset = 3) (o4 : f4.offset = 4) (o5 : f5.offset = 5) (o6 : f6.offset = 6) (t0 : P.underlying f0.type = some (.int .i64)) (t1 : P.underlying f1.type = some (.int .i64)) (t2 : P.underlying f2.type = some (.int .i64)) (t3 : P.underlying f3.type = some (.slice e)) (t4 : P.underlying f4.type = some (.int .i64)) (t5 : P.underlying f5.type = some (.int .i64)) (t6 : P.underlying f6.type = some (.string)) (c0 : P.cellsOf f0.type = 1) (c1 : P.cellsOf f1.type = 1) (c2 : P.cellsOf f2.type = 1) (c3 : P.cellsOf f3.type = 1) (c4 : P.cellsOf f4.type = 1) (c5 : P.cellsOf f5.type = 1) (c6 : P.cellsOf f6.type = 1) (hc : P.cellsOf t = 7) (ce : P.cellsOf e = c) (hk : (List.range c).all (fun j => atC P 9 e j == some (ks j)) = true)
    (hv : Value.okWide P w r b0 t v) (h : DataW.Trod enc P w base spare held t v d p) : ∃ (k l z : Int) (a : Option Addr) (n m : Nat) (gs : List (Nat → Int)) (rr pp : Int) (s : ByteArray), v = .agg #[.int .i64 k, .int .i64 l, .int .i64 z, .slice a n m, .int .i64 rr, .int .i64 pp, .string s] ∧ ReadsT encT c w (.slice a n m) (gs.map f) ∧ gs.length ≤ 9223372036854775807 ∧ ((Lit.int .i64 k).wf = true ∧ (Lit.int .i64 l).wf = true ∧ (Lit.int .i64 z).wf = true ∧ (Lit.int .i64 rr).wf = true ∧ (Lit.int .i64 pp).wf = true) ∧ (∀ g ∈ gs, ∀ j, j < c → (Lit.int (ks j) (g j)).wf = true) ∧ s.size ≤ maxLen := by
  have hg : ∃ cs, v = .agg cs ∧ cs.size = P.cellsOf t := by
    unfold Value.okWide at hv
    rw [hu] at hv
    obtain ⟨cs, h1, h2, _⟩ := hv
    exact ⟨cs, h1, h2⟩
  obtain ⟨cs, rfl, hsz⟩ := hg
  rw [hc] at hsz
  obtain ⟨fuel, hfu⟩ := h
  obtain ⟨xs, m, _, e0, hl, hlen, hf2⟩ := DataW.trod_struct hu hfu
  obtain ⟨y0, g0⟩ := fld_at hf2 hlen h0 o0 c0
  obtain ⟨y1, g1⟩ := fld_at hf2 hlen h1 o1 c1
  obtain ⟨y2, g2⟩ := fld_at hf2 hlen h2 o2 c2
  obtain ⟨y3, g3⟩ := fld_at hf2 hlen h3 o3 c3
  obtain ⟨y4, g4⟩ := fld_at hf2 hlen h4 o4 c4
  obtain ⟨y5, g5⟩ := fld_at hf2 hlen h5 o5 c5
  obtain ⟨y6, g6⟩ := fld_at hf2 hlen h6 o6 c6
  obtain ⟨z0, e10, _, w0⟩ := DataW.trod_int t0 g0
  obtain ⟨z1, e11, _, w1⟩ := DataW.trod_int t1 g1
  obtain ⟨z2, e12, _, w2⟩ := DataW.trod_int t2 g2
  obtain ⟨z4, e14, _, w4⟩ := DataW.trod_int t4 g4
  obtain ⟨z5, e15, _, w5⟩ := DataW.trod_int t5 g5
  obtain ⟨s, e16, _, hs⟩ := DataW.trod_string t6 g6
  obtain ⟨a, n, k, gs, e13, hr, hw, hgl⟩ := open_rowsC ks E f hf t3 ce hk g3
  refine ⟨z0, z1, z2, a, n, k, gs, z4, z5, s, ?_, hr, hgl, ⟨w0, w1, w2, w4, w5⟩, hw, hs⟩
  congr 1
  apply Array.ext'
  have hlen2 : cs.toList.length = 7 := by rw [Array.length_toList, hsz]
  have ec : (Value.agg cs).cells.toList = cs.toList := rfl
  rw [ec] at e10 e11 e12 e13 e14 e15 e16
  match hcs : cs.toList, hlen2 with
  | [a0, a1, a2, a3, a4, a5, a6], _ =>
    rw [hcs] at e10 e11 e12 e13 e14 e15 e16
    simp only [List.drop_zero, List.take_succ_cons, List.take_zero, List.cons.injEq, and_true, List.drop_succ_cons] at e10 e11 e12 e13 e14 e15 e16
    rw [e10, e11, e12, e13, e14, e15, e16]
end
end Go.Proofs.YtnoefalgmekjbaaDoor


/- What the package's variable holds when the call begins. -/
namespace Go.Proofs.YtnoefalgmekjbaaDoor
set_option linter.unusedVariables false
set_option linter.unusedSimpArgs false
open Go.ChangeShapes Go.WideShapes Go.ChangeAt Go.WideMaps Go.WideElems Go.RowKit

def laidHere : List (String × DataW Unit) := [("hedgerow/extents.widths", Rows.laid_hedgerow_extents_widths)]
theorem gTurns : Tryd.prog.globalNamed "hedgerow/extents.widths" = some 0 := by kernel_rfl
theorem tTurns : (Tryd.prog.globals[0]?).map (·.type) = some 133 := by kernel_rfl
theorem door_met (os : Os) (args : Array Value) : laidMetH Tryd.prog laidHere ((World.doorLaid Tryd.prog 14 os).forCall (fun _ _ => 0) ⟨#[], args, []⟩).memory :=
  laidMetH_of_parts3 (fuel := 8) (laidMet_of_run' 8 (by kernel_rfl) (by kernel_rfl)) (by kernel_rfl) (by kernel_rfl)
theorem of_laid {W : World} (h : laidMetH Tryd.prog laidHere W) : Start W := by
  rw [MakeChecks.laidMetH_plain _ _ _ (by kernel_rfl)] at h
  have hT := Lib.tabIs_of_head (k := .i64) (zs := [16, 24, 16]) gTurns tTurns Tryd.underlying133 Tryd.underlying3 (by kernel_rfl) (by kernel_rfl) h
  have hc : ∀ i, i < 3 → W.cell? ⟨0, i, none⟩ = some (.int .i64 ([16, 24, 16].getD i 0)) := fun i hi => hT.cell gTurns i hi
  refine ⟨hc 0 (by decide), hc 1 (by decide), hc 2 (by decide), ?_⟩
  obtain ⟨o, ho, _⟩ := cells_of_cell (hc 0 (by decide))
  exact (Array.getElem?_eq_some_iff.1 ho).1
end Go.Proofs.YtnoefalgmekjbaaDoor
