/- What the statements' walks use: Fwd, EqS, LayA, TClear, TSet, TFld, SeqZ, OwnZ, CellE, Jn1, MapZ, Jn2, Bs, ConvB, Jn3, Math, B, Str, Crc, Reg, More, C, Seal, Jn4, Jn5, LayB, Jn6, Jn7. -/
import Derived.Tactics
import Derived.Tactics2
import Derived.ChangeKeysEq
import Derived.Laws.StructEq
import Derived.Test.YtaeaokimhbbnfaaGreatDoorProg
import Derived.WalkKit
import Derived.IntWalk
import Derived.Lib.Hide
import Derived.OneCell
import Derived.Lib.ConvBytes
import Derived.Deep.QuietTactic
import Derived.BigQuiet
import Derived.StillTailTactics
import Derived.Deep.RegionLaw
import Derived.Deep.AppendLies
import Derived.Test.YtaeaokimhbbnfaaGreatDoorMba
/- A scope in which the run jumps ahead to a label. Over any program. -/
namespace Go.Proofs.YtaeaokimhbbnfaaGreatDoor
set_option linter.unusedVariables false
set_option linter.unusedSimpArgs false
open Go.RowKit Go.Shelf

section
variable {P : Program} {w : World} {n : Nat} {D : List Deferred} {M : Slots} {Q : Exit → Act → World → Prop}
theorem CC.fwd {α : Type} {l : Nat} {c rest : Code} (Dx : α → List Deferred) (L : α → List (Nat × Value)) (I : α → World → Prop) (hf : findLabel c l = some rest)
    (first : CC none P (Exit.jump l (fun a' w' => ∃ x, Fr n (Dx x) (sl (L x)) a' ∧ I x w') Q) n D M c w)
    (pass : ∀ x w, I x w → CC none P (Exit.jump l (fun _ _ => False) Q) n (Dx x) (sl (L x)) rest w) : CC none P Q n D M (.scope c) w := CC.mk fun a F => by
  refine (wpIn_wide (n := 3)).2 (wp_scope_jumps l (fun a' w' => ∃ x, Fr n (Dx x) (sl (L x)) a' ∧ I x w') (fun _ _ => 0) hf ((wpIn_wide (n := 3)).1 (first.h a F)) ?_)
  rintro a w ⟨x, hF, hI⟩
  refine (wpIn_wide (n := 3)).1 (Code.wpIn_mono ?_ ((pass x w hI).h a hF))
  intro e a' w' hq
  cases e <;> try exact hq
  exact hq.2.elim
theorem EE.jumpTo {α : Type} {l : Nat} {Dx : α → List Deferred} {L : α → List (Nat × Value)} {I : α → World → Prop} (x : α) (hD : D = Dx x) (hL : Fits M (L x)) (hI : I x w) : EE (Exit.jump l (fun a' w' => ∃ x, Fr n (Dx x) (sl (L x)) a' ∧ I x w') Q) n D M (.goto l) w := EE.mk fun _ F => ⟨rfl, x, by subst hD; exact F.keep _ hL, hI⟩
end
set_option linter.unusedVariables false
set_option linter.unusedSimpArgs false
section
variable {P : Program}
def eqF (P : Program) (g : TypeId → List Value → List Value → Option (List Bool)) (xs ys : List Value) : List Field → Option (List Bool)
  | [] => some []
  | f :: fs => if f.name = "_" then none else match g f.type ((xs.drop f.offset).take (P.cellsOf f.type)) ((ys.drop f.offset).take (P.cellsOf f.type)), eqF P g xs ys fs with
    | some a, some b => some (a ++ b)
    | _, _ => none
def eqI (g : List Value → List Value → Option (List Bool)) (c : Nat) (xs ys : List Value) : List Nat → Option (List Bool)
  | [] => some []
  | i :: is => match g ((xs.drop (i * c)).take c) ((ys.drop (i * c)).take c), eqI g c xs ys is with
    | some a, some b => some (a ++ b)
    | _, _ => none
def eqC (P : Program) : Nat → TypeId → List Value → List Value → Option (List Bool)
  | 0, _, _, _ => none
  | d + 1, t, xs, ys => match P.underlying t with
    | some (.struct fs) => if P.stoodInHeld t = true then none else eqF P (eqC P d) xs ys fs.toList
    | some (.array n e) => if n = 0 then none else eqI (eqC P d e) (P.cellsOf e) xs ys (List.range n)
    | some (.int _) => match xs, ys with
      | [.int k a], [.int k' b] => if k = k' then some [decide (a = b)] else none
      | _, _ => none
    | some .bool => match xs, ys with
      | [.bool a], [.bool b] => some [a == b]
      | _, _ => none
    | some .string => match xs, ys with
      | [.string a], [.string b] => some [a.toList == b.toList]
      | _, _ => none
    | _ => none
def valC (P : Program) (t : TypeId) (xs : List Value) : Value := match P.underlying t with
  | some (.struct _) | some (.array _ _) => .agg xs.toArray
  | _ => xs.headD undef
theorem eqC_part {d : Nat} {t : TypeId} {xs ys : List Value} {off : Nat} {bs : List Bool} (h : eqC P d t ((xs.drop off).take (P.cellsOf t)) ((ys.drop off).take (P.cellsOf t)) = some bs) (w : World) :
    (part t xs.toArray off).run P w = .ok (valC P t ((xs.drop off).take (P.cellsOf t))) w ∧ (part t ys.toArray off).run P w = .ok (valC P t ((ys.drop off).take (P.cellsOf t))) w := by
  cases d with
  | zero => cases h
  | succ d =>
    have one : ∀ (zs : List Value) (v : Value), (zs.drop off).take (P.cellsOf t) = [v] → zs.toArray[off]? = some v := by
      intro zs v hz
      have : ((zs.drop off).take (P.cellsOf t))[0]? = some v := by rw [hz]; rfl
      rw [List.getElem?_take] at this
      split at this
      · simpa using this
      · cases this
    have agg : ∀ zs : List Value, zs.toArray.extract off (off + P.cellsOf t) = ((zs.drop off).take (P.cellsOf t)).toArray := by
      intro zs
      simp [List.extract]
    cases hu : P.underlying t with
    | none => simp [eqC, hu] at h
    | some kd =>
      obtain ⟨i, hi⟩ := info_of_underlying hu
      cases kd <;> simp only [eqC, hu] at h <;> try (cases h; done)
      case bool =>
        split at h
        · rename_i a b e1 e2
          rw [e1, e2]
          simp [part, isAgg, run_underlying hu, valC, hu, one xs _ e1, one ys _ e2]
        · cases h
      case int =>
        split at h
        · rename_i a b e1 e2
          rw [e1, e2]
          simp [part, isAgg, run_underlying hu, valC, hu, one xs _ e1, one ys _ e2]
        · cases h
      case string =>
        split at h
        · rename_i a b e1 e2
          rw [e1, e2]
          simp [part, isAgg, run_underlying hu, valC, hu, one xs _ e1, one ys _ e2]
        · cases h
      case struct fs => simp [part, isAgg, run_underlying hu, run_sizeOf _ hi, valC, hu, List.extract]
      case array n e => simp [part, isAgg, run_underlying hu, run_sizeOf _ hi, valC, hu, List.extract]
theorem fieldsOf_eq {t : TypeId} {fs : Array Field} (h : P.underlying t = some (.struct fs)) : P.fieldsOf t = fs := by simp [Program.fieldsOf, h]
theorem run_eqF {d dd : Nat} {xs ys : List Value} (IH : ∀ t xs ys bs w, eqC P d t xs ys = some bs → (Op.equalIn dd t (valC P t xs) (valC P t ys)).run P w = .ok (bs.all id) w) :
    ∀ (fs : List Field) (bs : List Bool) (w : World), eqF P (eqC P d) xs ys fs = some bs → (Op.eqFields dd xs.toArray ys.toArray fs).run P w = .ok (bs.all id) w
  | [], bs, w, h => by simp only [eqF, Option.some.injEq] at h; subst h; simp [Op.eqFields]
  | f :: fs, bs, w, h => by
    simp only [eqF] at h
    split at h
    · cases h
    rename_i hn
    split at h
    · rename_i a b h1 h2
      cases h
      obtain ⟨p1, p2⟩ := eqC_part h1 w
      simp only [Op.eqFields, ne_eq, hn, not_false_eq_true, if_true, Sem.run_bind, p1, p2, Result.andThen_ok, IH _ _ _ _ w h1, List.all_append]
      cases ha : a.all id
      · simp
      · simpa using run_eqF IH fs b w h2
    · cases h
theorem run_eqI {d dd : Nat} {e : TypeId} {xs ys : List Value} (IH : ∀ t xs ys bs w, eqC P d t xs ys = some bs → (Op.equalIn dd t (valC P t xs) (valC P t ys)).run P w = .ok (bs.all id) w) :
    ∀ (is : List Nat) (bs : List Bool) (w : World), eqI (eqC P d e) (P.cellsOf e) xs ys is = some bs → (Op.eqItems dd e (P.cellsOf e) xs.toArray ys.toArray is).run P w = .ok (bs.all id) w
  | [], bs, w, h => by simp only [eqI, Option.some.injEq] at h; subst h; simp [Op.eqItems]
  | i :: is, bs, w, h => by
    simp only [eqI] at h
    split at h
    · rename_i a b h1 h2
      cases h
      obtain ⟨p1, p2⟩ := eqC_part h1 w
      simp only [Op.eqItems, Sem.run_bind, p1, p2, Result.andThen_ok, IH _ _ _ _ w h1, List.all_append]
      cases ha : a.all id
      · simp
      · simpa using run_eqI IH is b w h2
    · cases h
theorem run_eqC : ∀ (d k : Nat) (t : TypeId) (xs ys : List Value) (bs : List Bool) (w : World), eqC P d t xs ys = some bs → (Op.equalIn (d + k) t (valC P t xs) (valC P t ys)).run P w = .ok (bs.all id) w
  | 0, _, _, _, _, _, _, h => by cases h
  | d + 1, k, t, xs, ys, bs, w, h => by
    have IH := fun t xs ys bs w => run_eqC d k t xs ys bs w
    rw [show d + 1 + k = (d + k) + 1 by omega]
    cases hu : P.underlying t with
    | none => simp [eqC, hu] at h
    | some kd =>
      cases kd <;> simp only [eqC, hu] at h <;> try (cases h; done)
      case bool =>
        split at h
        · rename_i a b
          cases h
          simp [valC, hu, run_equalIn_bool' w (d + k) t a b hu]
        · cases h
      case int q =>
        split at h
        · rename_i k1 a k2 b
          split at h
          · rename_i hk
            subst hk
            cases h
            simp only [valC, hu, List.headD_cons, List.all_cons, List.all_nil, Bool.and_true, id]
            exact run_equalIn_int w (d + k) t k1 q a b hu
          · cases h
        · cases h
      case string =>
        split at h
        · rename_i a b
          cases h
          simp [valC, hu, run_equalIn_string w (d + k) t a b hu]
        · cases h
      case struct fs =>
        split at h
        · cases h
        rename_i hst
        simp only [valC, hu]
        have hf := fieldsOf_eq hu
        rw [run_equalIn_struct w (d + k) t _ _ (by rw [hf]; exact hu) (by simpa using hst), hf]
        exact run_eqF IH _ _ _ h
      case array n e =>
        split at h
        · cases h
        rename_i hn0
        cases n with
        | zero => exact absurd rfl hn0
        | succ n =>
          have hi : ∃ i, P.info? e = some i := by
            rw [show List.range (n + 1) = 0 :: (List.range n).map Nat.succ by rw [List.range_succ_eq_map]] at h
            simp only [eqI] at h
            split at h
            · rename_i a b h1 h2
              cases d with
              | zero => cases h1
              | succ d =>
                cases hue : P.underlying e with
                | none => simp [eqC, hue] at h1
                | some _ => exact info_of_underlying hue
            · cases h
          obtain ⟨i, hi⟩ := hi
          simp only [valC, hu]
          rw [run_equalIn_array w (d + k) _ _ hu hi]
          exact run_eqI IH _ _ _ h
theorem valC_agg {t : TypeId} {xs : List Value} (h : aggB P t = true) : valC P t xs = .agg xs.toArray := by
  unfold aggB at h
  unfold valC
  split at h <;> first | rfl | simp_all
variable {n : Nat} {D : List Deferred} {M : Slots} {w : World} {o : Oper} {x y : Operand} {t u : TypeId} {xs ys : List Value} {bs : List Bool} {p : Prop} [Decidable p]
theorem R.eqBsS (ho : o.op = .binOp .eql t x y u) (hx : evM M x = some (.agg xs.toArray)) (hy : evM M y = some (.agg ys.toArray)) (ht : aggB P t = true) (hg : P.eqGuardType P.depth t = false) (hb : eqC P 9 t xs ys = some bs) (hp : bs.all id = decide p) : Runs P n D M o w (.value (.bool (decide p))) w := R.bin ho hx hy (by
  have h := run_eqC 9 9991 t xs ys bs w hb
  rw [valC_agg ht, valC_agg ht] at h
  simp only [Sem.run_bind, run_eqGuard_agg w _ _ _ _ _ _ hg, Result.andThen_ok, run_eql_struct]
  rw [show (10000 : Nat) = 9 + 9991 from rfl, h, hp]
  rfl)
theorem R.neS' (ho : o.op = .binOp .neq t x y u) (hx : evM M x = some (.agg xs.toArray)) (hy : evM M y = some (.agg ys.toArray)) (ht : aggB P t = true) (hg : P.eqGuardType P.depth t = false) (hb : eqC P 9 t xs ys = some bs) (hp : bs.all id = decide p) : Runs P n D M o w (.value (.bool (decide ¬p))) w := R.bin ho hx hy (by
  have h := run_eqC 9 9991 t xs ys bs w hb
  rw [valC_agg ht, valC_agg ht] at h
  simp only [Sem.run_bind, run_eqGuard_agg w _ _ _ _ _ _ hg, Result.andThen_ok, run_neq_struct]
  rw [show (10000 : Nat) = 9 + 9991 from rfl, h, hp]
  simp)
theorem R.eqST (ho : o.op = .binOp .eql t x y u) (hx : evM M x = some (.agg xs.toArray)) (hy : evM M y = some (.agg ys.toArray)) (ht : aggB P t = true) (hg : P.eqGuardType P.depth t = false) (hb : eqC P 9 t xs ys = some bs) (hp : bs.all id = decide p) (h : p) : Runs P n D M o w (.value (.bool true)) w := by
  have := R.eqBsS (w := w) (n := n) (D := D) ho hx hy ht hg hb hp
  rwa [decide_eq_true h] at this
theorem R.eqSF (ho : o.op = .binOp .eql t x y u) (hx : evM M x = some (.agg xs.toArray)) (hy : evM M y = some (.agg ys.toArray)) (ht : aggB P t = true) (hg : P.eqGuardType P.depth t = false) (hb : eqC P 9 t xs ys = some bs) (hp : bs.all id = decide p) (h : ¬p) : Runs P n D M o w (.value (.bool false)) w := by
  have := R.eqBsS (w := w) (n := n) (D := D) ho hx hy ht hg hb hp
  rwa [decide_eq_false h] at this
theorem R.neST (ho : o.op = .binOp .neq t x y u) (hx : evM M x = some (.agg xs.toArray)) (hy : evM M y = some (.agg ys.toArray)) (ht : aggB P t = true) (hg : P.eqGuardType P.depth t = false) (hb : eqC P 9 t xs ys = some bs) (hp : bs.all id = decide p) (h : p) : Runs P n D M o w (.value (.bool false)) w := by
  have := R.neS' (w := w) (n := n) (D := D) ho hx hy ht hg hb hp
  rwa [decide_eq_false (not_not_intro h)] at this
theorem R.neSF (ho : o.op = .binOp .neq t x y u) (hx : evM M x = some (.agg xs.toArray)) (hy : evM M y = some (.agg ys.toArray)) (ht : aggB P t = true) (hg : P.eqGuardType P.depth t = false) (hb : eqC P 9 t xs ys = some bs) (hp : bs.all id = decide p) (h : ¬p) : Runs P n D M o w (.value (.bool true)) w := by
  have := R.neS' (w := w) (n := n) (D := D) ho hx hy ht hg hb hp
  rwa [decide_eq_true h] at this
end
set_option linter.unusedVariables false
set_option linter.unusedSimpArgs false
set_option maxRecDepth 100000 in
set_option maxHeartbeats 2000000 in
theorem ly_within_any (a b c : Int) (w : World) : Calls Tryz.prog 65 #[.int .i64 a, .int .i64 b, .int .i64 c] w fun e w' => e = .returned (.bool (decide (b ≤ a ∧ a ≤ c))) ∧ w = w' := by
  refine X.fn Tryz.func65 rfl (n := 15) rfl rfl ?_
  refine Zr ?_; refine Za ?_; refine Zq ?_; refine Zr ?_; refine Zm ?_; refine Zm ?_
  refine LL.vsplit (fun h => R.leT rfl rfl rfl h) (fun h => R.leF rfl rfl rfl (Int.not_le.1 h)) rfl rfl rfl (fun c1 => ?_) (fun c1 => ?_)
  refine Zm ?_; refine Zm ?_; refine Zm ?_
  refine LL.vsplit (fun h => R.leT rfl rfl rfl h) (fun h => R.leF rfl rfl rfl (Int.not_le.1 h)) rfl rfl rfl (fun c2 => ?_) (fun c2 => ?_)
  refine Zp ?_; refine Za ?_; refine Zq ?_; refine ZR ?_; refine EE.ret _ rfl rfl ?_
  exact ⟨by simp [resV]; omega, rfl⟩
  refine Zp ?_; refine Za ?_; refine Zq ?_; refine ZR ?_; refine EE.ret _ rfl rfl ?_
  exact ⟨by simp [resV]; omega, rfl⟩
  refine Zm ?_; refine Zs ?_; refine Zs ?_; refine Zs ?_; refine Zp ?_; refine Za ?_; refine Zq ?_; refine ZR ?_; refine EE.ret _ rfl rfl ?_
  exact ⟨by simp [resV]; omega, rfl⟩
/-- A form and a key under way. -/
abbrev undV (b i r t : Int) (k1 k2 : Nat) : Value := .agg #[.int .i64 b, .int .i64 i, .int .i64 r, .int .i64 t, .int .u64 (k1 : Int), .int .u64 (k2 : Int)]
set_option maxRecDepth 100000 in
set_option maxHeartbeats 2000000 in
theorem ly_records_any (b i r t : Int) (k1 k2 : Nat) (w : World) (h : 0 ≤ i ∧ i ≤ 256) : Calls Tryz.prog 67 #[undV b i r t k1 k2] w fun e w' => e = .returned (.int .i64 (9 + i / 4)) ∧ Below w.heap.size w w' := by
  have q := Below.refl w.heap.size w
  obtain ⟨i, rfl⟩ : ∃ n : Nat, i = n := ⟨i.toNat, by omega⟩
  refine X.fn Tryz.func67 rfl (n := 8) rfl rfl ?_
  refine Zr ?_
  refine LL.box [.int .i64 b, .int .i64 ↑i, .int .i64 r, .int .i64 t, .int .u64 ↑k1, .int .u64 ↑k2] rfl rfl rfl rfl rfl ?_
  intro W2 g3 eg3 r4 z5 b1
  replace q := Zu q b1; refine Za ?_; refine Zq ?_; refine Zr ?_; refine Zf ?_; refine Zf ?_; refine Zl r4 ?_
  refine LL.val (R.quoNc rfl rfl rfl rfl (by omega) (by omega)) rfl rfl rfl ?_
  refine LL.val (R.addI rfl rfl rfl (by omega)) rfl rfl rfl ?_
  refine Za ?_; refine Zq ?_; refine ZR ?_; refine EE.ret _ rfl rfl ?_
  exact ⟨by simp [resV], q⟩
set_option maxRecDepth 100000 in
set_option maxHeartbeats 2000000 in
theorem ly_theMap_any (b i r t : Int) (k1 k2 : Nat) (w : World) (h : 0 ≤ i ∧ i ≤ 256) (h2 : 0 ≤ r ∧ r ≤ 1024) : Calls Tryz.prog 68 #[undV b i r t k1 k2] w fun e w' => e = .returned (.int .i64 (9 + i / 4 + r / 4)) ∧ Below w.heap.size w w' := by
  have q := Below.refl w.heap.size w
  obtain ⟨r, rfl⟩ : ∃ n : Nat, r = n := ⟨r.toNat, by omega⟩
  refine X.fn Tryz.func68 rfl (n := 10) rfl rfl ?_
  refine Zr ?_
  refine LL.box [.int .i64 b, .int .i64 i, .int .i64 ↑r, .int .i64 t, .int .u64 ↑k1, .int .u64 ↑k2] rfl rfl rfl rfl rfl ?_
  intro W2 g3 eg3 r4 z5 b1
  replace q := Zu q b1; refine Za ?_; refine Zq ?_; refine Zc ?_
  refine CC.grow (by kernel_rfl) (by kernel_rfl) ?_
  refine Gv r4 ?_
  refine Gc (fun w' b' => ly_records_any _ _ _ _ _ _ w' (by omega)) ?_
  refine Gf ?_
  refine Gf ?_
  refine Gl r4 ?_
  refine GG.val (fun w' b' => R.quoNc rfl rfl rfl rfl (by omega) (by omega)) rfl rfl ?_
  refine GG.val (fun w' b' => R.addI rfl rfl rfl (by omega)) rfl rfl ?_
  refine GG.val (fun w' b' => R.assign rfl rfl) rfl rfl ?_
  refine GG.nilQ (fun W10 b9 => ?_)
  have zb9 := b9.size; replace r4 := r4.up b9; replace q := Zu q b9; refine ZT ?_; refine ZR ?_; refine EE.ret _ rfl rfl ?_
  exact ⟨by simp [resV], q⟩
set_option maxRecDepth 100000 in
set_option maxHeartbeats 2000000 in
theorem ly_data_any (b i r t : Int) (k1 k2 : Nat) (w : World) (h : 0 ≤ i ∧ i ≤ 256) (h2 : 0 ≤ r ∧ r ≤ 1024) : Calls Tryz.prog 66 #[undV b i r t k1 k2] w fun e w' => e = .returned (.int .i64 (10 + i / 4 + r / 4)) ∧ Below w.heap.size w w' := by
  have q := Below.refl w.heap.size w
  refine X.fn Tryz.func66 rfl (n := 6) rfl rfl ?_
  refine Zr ?_
  refine LL.box [.int .i64 b, .int .i64 i, .int .i64 r, .int .i64 t, .int .u64 ↑k1, .int .u64 ↑k2] rfl rfl rfl rfl rfl ?_
  intro W2 g3 eg3 r4 z5 b1
  replace q := Zu q b1; refine Za ?_; refine Zq ?_; refine Zr ?_; refine Zv r4 ?_
  refine Zy (R.call rfl rfl rfl) (ly_theMap_any _ _ _ _ _ _ _ (by omega) (by omega)) ?_
  rintro e W7 ⟨rfl, b6⟩
  refine ⟨_, rfl, ?_⟩; have zb6 := b6.size; replace r4 := r4.up b6; replace q := Zu q b6
  refine LL.val (R.addI rfl rfl rfl (by omega)) rfl rfl rfl ?_
  refine Za ?_; refine Zq ?_; refine ZR ?_; refine EE.ret _ rfl rfl ?_
  exact ⟨by simp [resV]; omega, q⟩
abbrev formV (b i r t : Int) : Value := .agg #[.int .i64 b, .int .i64 i, .int .i64 r, .int .i64 t]
abbrev keyV (k1 k2 : Nat) : Value := .agg #[.int .u64 (k1 : Int), .int .u64 (k2 : Int)]
/-- A layout. -/
abbrev layV (b i r t : Int) (k1 k2 : Nat) (a c d e : Int) : Value := .agg #[.int .i64 b, .int .i64 i, .int .i64 r, .int .i64 t, .int .u64 (k1 : Int), .int .u64 (k2 : Int), .int .i64 a, .int .i64 c, .int .i64 d, .int .i64 e]
abbrev ly_okF (b i r t : Int) : Prop := (32 ≤ b ∧ b ≤ 2048) ∧ (1 ≤ t ∧ t ≤ 40) ∧ (4 ≤ i ∧ i ≤ 256) ∧ i % 4 = 0 ∧ (4 ≤ r ∧ r ≤ 1024) ∧ r % 4 = 0 ∧ 4 ≤ b - (10 + i / 4 + r / 4)
set_option maxRecDepth 100000 in
set_option maxHeartbeats 4000000 in
theorem ly_of_any (b i r t : Int) (k1 k2 : Nat) (w : World) : Calls Tryz.prog 46 #[formV b i r t, keyV k1 k2] w fun e w' => e = .returned (.tuple (if ly_okF b i r t then #[layV b i r t k1 k2 9 (9 + i / 4) (9 + i / 4 + r / 4) (10 + i / 4 + r / 4), .int .i64 0] else #[layV 0 0 0 0 0 0 0 0 0 0, .int .i64 2])) ∧ Below w.heap.size w w' := by
  have q := Below.refl w.heap.size w
  refine X.fn Tryz.func46 rfl (n := 57) rfl rfl ?_
  refine Zr ?_
  refine LL.box [.int .i64 b, .int .i64 i, .int .i64 r, .int .i64 t] rfl rfl rfl rfl rfl ?_
  intro W2 g3 eg3 r4 z5 b1
  replace q := Zu q b1; have l6 := r4.lt
  refine LL.box [.int .u64 ↑k1, .int .u64 ↑k2] rfl rfl rfl rfl rfl ?_
  intro W8 g9 eg9 r10 z11 b7
  replace r4 := r4.up b7; replace q := Zu q b7; have l12 := r10.lt; have l13 := r4.lt
  refine LL.alloc ([.int .i64 0, .int .i64 0, .int .i64 0, .int .i64 0, .int .u64 0, .int .u64 0, .int .i64 0, .int .i64 0, .int .i64 0, .int .i64 0]) rfl rfl rfl rfl rfl ?_
  intro W15 g16 eg16 r17 z18 b14
  replace r10 := r10.up b14; replace r4 := r4.up b14; replace q := Zu q b14; refine Za ?_; refine Zq ?_
  refine CC.fwd (l := 0) (α := Unit) (fun _ => []) (fun _ => [(4, .pointer (some ⟨g16, 0, none⟩))]) (fun _ W => Below w.heap.size w W ∧ ¬ ly_okF b i r t ∧ RowL W g16 31 [.int .i64 0, .int .i64 0, .int .i64 0, .int .i64 0, .int .u64 0, .int .u64 0, .int .i64 0, .int .i64 0, .int .i64 0, .int .i64 0]) rfl ?first ?pass
  case pass =>
    rintro _ W ⟨q, hne, r14⟩
    refine Zc ?_; refine ZK ?_; refine ZT ?_; refine Zr ?_
    refine LL.val (R.buildV rfl rfl (v := .agg #[Value.int IntKind.i64 0, Value.int IntKind.i64 0, Value.int IntKind.i64 0, Value.int IntKind.i64 0, Value.int IntKind.u64 0, Value.int IntKind.u64 0, Value.int IntKind.i64 0, Value.int IntKind.i64 0, Value.int IntKind.i64 0, Value.int IntKind.i64 0]) (fun _ => by kernel_rfl)) rfl rfl rfl ?_
    refine LL.storeN (vs := [.int .i64 0, .int .i64 0, .int .i64 0, .int .i64 0, .int .u64 0, .int .u64 0, .int .i64 0, .int .i64 0, .int .i64 0, .int .i64 0]) rfl rfl rfl rfl r14 (by exact Nat.le_of_ble_eq_true rfl) (ones_of rfl) rfl rfl ?_
    intro Wa2 ra3 ba1 za4
    have hlba1 := r14.lt
    replace ra3 : RowL Wa2 _ 31 [.int .i64 0, .int .i64 0, .int .i64 0, .int .i64 0, .int .u64 0, .int .u64 0, .int .i64 0, .int .i64 0, .int .i64 0, .int .i64 0] := ra3
    clear r14
    replace q := Zg q ba1
    have r14 := ra3
    clear ra3
    refine Za ?_; refine Zq ?_; refine ZR ?_; refine EE.jumpR ?_
    refine EE.ret2 rfl ⟨_, rfl, lvNc (RowL.cells0 (by assumption)) (by rfl) (by rfl)⟩ rfl ?_
    (rw [if_neg hne]; exact ⟨rfl, q⟩)
  case first =>
    refine Zr ?_; refine Zv r4 ?_; refine Zv r10 ?_
    refine LL.val (R.buildV rfl rfl (v := .agg #[Value.int IntKind.i64 b, Value.int IntKind.i64 i, Value.int IntKind.i64 r, Value.int IntKind.i64 t, Value.int IntKind.u64 ↑k1, Value.int IntKind.u64 ↑k2]) (fun _ => by kernel_rfl)) rfl rfl rfl ?_
    have lb1 := r17.lt; have lb2 := r10.lt; have lb3 := r4.lt
    refine LL.alloc ([.int .i64 0, .int .i64 0, .int .i64 0, .int .i64 0, .int .u64 0, .int .u64 0]) rfl rfl rfl rfl rfl ?_
    intro Wb5 gb6 egb6 rb7 zb8 bb4
    replace r17 := r17.up bb4; replace r10 := r10.up bb4; replace r4 := r4.up bb4; replace q := Zu q bb4
    refine LL.storeN (vs := [.int .i64 b, .int .i64 i, .int .i64 r, .int .i64 t, .int .u64 ↑k1, .int .u64 ↑k2]) rfl rfl rfl rfl rb7 (by exact Nat.le_of_ble_eq_true rfl) (ones_of rfl) rfl rfl ?_
    intro Wb10 rb11 bb9 zb12
    have hlbb9 := rb7.lt
    replace rb11 : RowL Wb10 _ 118 [.int .i64 b, .int .i64 i, .int .i64 r, .int .i64 t, .int .u64 ↑k1, .int .u64 ↑k2] := rb11
    clear rb7
    replace r17 := Zd r17 bb9; replace r10 := Zd r10 bb9; replace r4 := Zd r4 bb9; replace q := Zg q bb9
    have rb7 := rb11
    clear rb11
    refine Zq ?_; refine Zc ?_; refine Zr ?_; refine Zf ?_; refine Zl r4 ?_
    refine LL.callD (R.call rfl rfl rfl) rfl rfl rfl (ly_within_any _ _ _ _) (fun cb13 => ?_) (fun cb13 => ?_)
    refine Zt ?_; refine Zm ?_; refine Zf ?_; refine Zl r4 ?_
    refine LL.callD (R.call rfl rfl rfl) rfl rfl rfl (ly_within_any _ _ _ _) (fun cb14 => ?_) (fun cb14 => ?_)
    refine Zt ?_; refine Zp ?_; refine Zq ?_; refine ZN ?_; refine ZK ?_; refine ZT ?_; refine Zc ?_; refine Zr ?_; refine Zf ?_; refine Zl r4 ?_
    refine LL.callD (R.call rfl rfl rfl) rfl rfl rfl (ly_within_any _ _ _ _) (fun cb15 => ?_) (fun cb15 => ?_)
    refine Zt ?_; refine Zm ?_; refine Zf ?_; refine Zl r4 ?_
    refine LL.val (R.remIc rfl rfl rfl rfl (by omega) (by omega)) rfl rfl rfl ?_
    refine LL.vsplit (fun h => R.neT rfl rfl rfl h) (fun h => R.neF rfl rfl rfl (Decidable.not_not.1 h)) rfl rfl rfl (fun cb16 => ?_) (fun cb16 => ?_)
    refine Zp ?_; refine Zq ?_; refine ZY ?_; refine CC.goto ?_; refine EE.thenG ?_
    (refine EE.jumpTo () rfl ?_ ⟨q, by omega, r17⟩; exact ⟨rfl, trivial⟩)
    refine Zp ?_; refine Zq ?_; refine ZN ?_; refine ZK ?_; refine ZT ?_; refine Zc ?_; refine Zr ?_; refine Zf ?_; refine Zl r4 ?_
    refine LL.callD (R.call rfl rfl rfl) rfl rfl rfl (ly_within_any _ _ _ _) (fun cb17 => ?_) (fun cb17 => ?_)
    refine Zt ?_; refine Zm ?_; refine Zf ?_; refine Zl r4 ?_
    refine LL.val (R.remIc rfl rfl rfl rfl (by omega) (by omega)) rfl rfl rfl ?_
    refine LL.vsplit (fun h => R.neT rfl rfl rfl h) (fun h => R.neF rfl rfl rfl (Decidable.not_not.1 h)) rfl rfl rfl (fun cb18 => ?_) (fun cb18 => ?_)
    refine Zp ?_; refine Zq ?_; refine ZY ?_; refine CC.goto ?_; refine EE.thenG ?_
    (refine EE.jumpTo () rfl ?_ ⟨q, by omega, r17⟩; exact ⟨rfl, trivial⟩)
    refine Zp ?_; refine Zq ?_; refine ZN ?_; refine ZK ?_; refine ZT ?_; refine Zc ?_; refine Zc ?_
    refine CC.grow (by kernel_rfl) (by kernel_rfl) ?_
    refine Gf ?_
    refine Gf ?_
    refine GG.val (fun w' b' => R.load rfl rfl (I.ld1 rfl (RowL.cell (rb7.up b') rfl))) rfl rfl ?_
    refine GG.val (fun w' b' => R.load rfl rfl (I.ldNc (vs := [Value.int IntKind.i64 b, Value.int IntKind.i64 i, Value.int IntKind.i64 r, Value.int IntKind.i64 t, Value.int IntKind.u64 ↑k1, Value.int IntKind.u64 ↑k2]) (RowL.cells (rb7.up b') rfl) (by rfl) (by rfl))) rfl rfl ?_
    refine GG.call (fun w' => (R.call rfl rfl rfl)) rfl rfl (fun w' b' => (ly_data_any _ _ _ _ _ _ w' (by omega) (by omega)).mono fun e W' h => ⟨h.1, b'.trans (h.2.mono b'.size)⟩) ?_
    refine GG.val (fun w' b' => R.subI rfl rfl rfl (by omega)) rfl rfl ?_
    refine GG.vsplit (fun h w' b' => (fun h => R.ltT rfl rfl rfl h) h) (fun h w' b' => (fun h => R.ltF rfl rfl rfl (Int.not_lt.1 h)) h) rfl rfl (fun cb22 => ?_) (fun cb22 => ?_)
    refine GG.nilQ (fun Wb24 bb23 => ?_)
    have zbb23 := bb23.size; replace r17 := r17.up bb23; replace r10 := r10.up bb23; replace r4 := r4.up bb23; replace q := Zu q bb23; replace rb7 := rb7.up bb23; refine ZT ?_; refine ZY ?_; refine CC.goto ?_; refine EE.thenG ?_
    (refine EE.jumpTo () rfl ?_ ⟨q, by omega, r17⟩; exact ⟨rfl, trivial⟩)
    refine GG.nilQ (fun Wb26 bb25 => ?_)
    have zbb25 := bb25.size; replace r17 := r17.up bb25; replace r10 := r10.up bb25; replace r4 := r4.up bb25; replace q := Zu q bb25; replace rb7 := rb7.up bb25; refine ZT ?_; refine ZN ?_; refine ZK ?_; refine ZT ?_; refine Zc ?_; refine Zc ?_
    refine CC.growT 9 (by kernel_rfl) (by kernel_rfl) ?_
    refine Gv r4 ?_
    refine Gv r10 ?_
    refine GG.val (fun w' b' => R.load rfl rfl (I.ldNc (vs := [Value.int IntKind.i64 b, Value.int IntKind.i64 i, Value.int IntKind.i64 r, Value.int IntKind.i64 t, Value.int IntKind.u64 ↑k1, Value.int IntKind.u64 ↑k2]) (RowL.cells (rb7.up b') rfl) (by rfl) (by rfl))) rfl rfl ?_
    refine GG.call (fun w' => (R.call rfl rfl rfl)) rfl rfl (fun w' b' => (ly_records_any _ _ _ _ _ _ w' (by omega)).mono fun e W' h => ⟨h.1, b'.trans (h.2.mono b'.size)⟩) ?_
    refine GG.val (fun w' b' => R.load rfl rfl (I.ldNc (vs := [Value.int IntKind.i64 b, Value.int IntKind.i64 i, Value.int IntKind.i64 r, Value.int IntKind.i64 t, Value.int IntKind.u64 ↑k1, Value.int IntKind.u64 ↑k2]) (RowL.cells (rb7.up b') rfl) (by rfl) (by rfl))) rfl rfl ?_
    refine GG.call (fun w' => (R.call rfl rfl rfl)) rfl rfl (fun w' b' => (ly_theMap_any _ _ _ _ _ _ w' (by omega) (by omega)).mono fun e W' h => ⟨h.1, b'.trans (h.2.mono b'.size)⟩) ?_
    refine GG.val (fun w' b' => R.load rfl rfl (I.ldNc (vs := [Value.int IntKind.i64 b, Value.int IntKind.i64 i, Value.int IntKind.i64 r, Value.int IntKind.i64 t, Value.int IntKind.u64 ↑k1, Value.int IntKind.u64 ↑k2]) (RowL.cells (rb7.up b') rfl) (by rfl) (by rfl))) rfl rfl ?_
    refine GG.call (fun w' => (R.call rfl rfl rfl)) rfl rfl (fun w' b' => (ly_data_any _ _ _ _ _ _ w' (by omega) (by omega)).mono fun e W' h => ⟨h.1, b'.trans (h.2.mono b'.size)⟩) ?_
    refine GG.val (fun w' b' => R.buildV rfl rfl (v := .agg #[Value.int IntKind.i64 b, Value.int IntKind.i64 i, Value.int IntKind.i64 r, Value.int IntKind.i64 t, Value.int IntKind.u64 ↑k1, Value.int IntKind.u64 ↑k2, Value.int IntKind.i64 9, Value.int IntKind.i64 (9 + i / 4), Value.int IntKind.i64 (9 + i / 4 + r / 4), Value.int IntKind.i64 (10 + i / 4 + r / 4)]) (fun _ => by kernel_rfl)) rfl rfl ?_
    refine GG.nil (fun Wb31 bb30 => ?_)
    have zbb30 := bb30.size; replace r17 := r17.up bb30; replace r10 := r10.up bb30; replace r4 := r4.up bb30; replace q := Zu q bb30; replace rb7 := rb7.up bb30
    refine LL.storeN (vs := [.int .i64 b, .int .i64 i, .int .i64 r, .int .i64 t, .int .u64 ↑k1, .int .u64 ↑k2, .int .i64 9, .int .i64 (9 + i / 4), .int .i64 (9 + i / 4 + r / 4), .int .i64 (10 + i / 4 + r / 4)]) rfl rfl rfl rfl r17 (by exact Nat.le_of_ble_eq_true rfl) (ones_of rfl) rfl rfl ?_
    intro Wb33 rb34 bb32 zb35
    have hlbb32 := r17.lt
    replace rb34 : RowL Wb33 _ 31 [.int .i64 b, .int .i64 i, .int .i64 r, .int .i64 t, .int .u64 ↑k1, .int .u64 ↑k2, .int .i64 9, .int .i64 (9 + i / 4), .int .i64 (9 + i / 4 + r / 4), .int .i64 (10 + i / 4 + r / 4)] := rb34
    clear r17
    replace r10 := Zd r10 bb32; replace r4 := Zd r4 bb32; replace q := Zg q bb32; replace rb7 := Zd rb7 bb32
    have r17 := rb34
    clear rb34
    refine Za ?_; refine Zq ?_; refine ZR ?_; refine EE.thenR ?_; refine EE.jumpR ?_
    refine EE.ret2 rfl ⟨_, rfl, lvNc (RowL.cells0 (by assumption)) (by rfl) (by rfl)⟩ rfl ?_
    (rw [if_pos (by omega)]; exact ⟨rfl, q⟩)
    refine Zt ?_; refine Zm ?_; refine Zs ?_; refine Zs ?_; refine Zs ?_; refine Zs ?_; refine Zp ?_; refine Zq ?_; refine ZY ?_; refine CC.goto ?_; refine EE.thenG ?_
    (refine EE.jumpTo () rfl ?_ ⟨q, by omega, r17⟩; exact ⟨rfl, trivial⟩)
    refine Zt ?_; refine Zm ?_; refine Zs ?_; refine Zs ?_; refine Zs ?_; refine Zs ?_; refine Zp ?_; refine Zq ?_; refine ZY ?_; refine CC.goto ?_; refine EE.thenG ?_
    (refine EE.jumpTo () rfl ?_ ⟨q, by omega, r17⟩; exact ⟨rfl, trivial⟩)
    refine Zt ?_; refine Zp ?_; refine Zq ?_; refine ZY ?_; refine CC.goto ?_; refine EE.thenG ?_
    (refine EE.jumpTo () rfl ?_ ⟨q, by omega, r17⟩; exact ⟨rfl, trivial⟩)
    refine Zt ?_; refine Zm ?_; refine Zs ?_; refine Zs ?_; refine Zs ?_; refine Zs ?_; refine Zp ?_; refine Zq ?_; refine ZY ?_; refine CC.goto ?_; refine EE.thenG ?_
    (refine EE.jumpTo () rfl ?_ ⟨q, by omega, r17⟩; exact ⟨rfl, trivial⟩)
--C layout_Of | ly_of_T _ _ _ _ _ _ @w @p | ⟨rfl, @b⟩
--C layout_Of | ly_of_F _ _ _ _ _ _ @w @p | ⟨rfl, @b⟩
theorem ly_of_T (b i r t : Int) (k1 k2 : Nat) (w : World) (h : ly_okF b i r t) : Calls Tryz.prog 46 #[formV b i r t, keyV k1 k2] w fun e w' => e = .returned (.tuple #[layV b i r t k1 k2 9 (9 + i / 4) (9 + i / 4 + r / 4) (10 + i / 4 + r / 4), .int .i64 0]) ∧ Below w.heap.size w w' := by
  have := ly_of_any b i r t k1 k2 w
  rwa [if_pos h] at this
theorem ly_of_F (b i r t : Int) (k1 k2 : Nat) (w : World) (h : ¬ly_okF b i r t) : Calls Tryz.prog 46 #[formV b i r t, keyV k1 k2] w fun e w' => e = .returned (.tuple #[layV 0 0 0 0 0 0 0 0 0 0, .int .i64 2]) ∧ Below w.heap.size w w' := by
  have := ly_of_any b i r t k1 k2 w
  rwa [if_neg h] at this
set_option maxRecDepth 100000 in
set_option maxHeartbeats 4000000 in
theorem ly_rof_any (b i r t : Int) (k1 k2 : Nat) (w : World) : Calls Tryz.prog 23 #[formV b i r t, keyV k1 k2] w fun e w' => e = .returned (.tuple (if ly_okF b i r t then #[layV b i r t k1 k2 9 (9 + i / 4) (9 + i / 4 + r / 4) (10 + i / 4 + r / 4), .int .i64 0] else #[layV 0 0 0 0 0 0 0 0 0 0, .int .i64 2])) ∧ Below w.heap.size w w' := by
  have q := Below.refl w.heap.size w
  refine X.fn Tryz.func23 rfl (n := 87) rfl rfl ?_
  refine Zr ?_
  refine LL.box [.int .i64 b, .int .i64 i, .int .i64 r, .int .i64 t] rfl rfl rfl rfl rfl ?_
  intro W2 g3 eg3 r4 z5 b1
  replace q := Zu q b1; have l6 := r4.lt
  refine LL.box [.int .u64 ↑k1, .int .u64 ↑k2] rfl rfl rfl rfl rfl ?_
  intro W8 g9 eg9 r10 z11 b7
  replace r4 := r4.up b7; replace q := Zu q b7; have l12 := r10.lt; have l13 := r4.lt
  refine LL.alloc ([.int .i64 0, .int .i64 0, .int .i64 0, .int .i64 0, .int .u64 0, .int .u64 0, .int .i64 0, .int .i64 0, .int .i64 0, .int .i64 0]) rfl rfl rfl rfl rfl ?_
  intro W15 g16 eg16 r17 z18 b14
  replace r10 := r10.up b14; replace r4 := r4.up b14; replace q := Zu q b14; refine Za ?_; refine Zq ?_; refine Zc ?_; refine Zr ?_; refine Zf ?_; refine Zl r4 ?_
  refine LL.vsplit (fun h => R.ltT rfl rfl rfl h) (fun h => R.ltF rfl rfl rfl (Int.not_lt.1 h)) rfl rfl rfl (fun c19 => ?_) (fun c19 => ?_)
  refine Zm ?_; refine Zs ?_; refine Zs ?_; refine Zs ?_; refine Zp ?_; refine Zm ?_; refine Zs ?_; refine Zs ?_; refine Zs ?_; refine Zp ?_; refine Zm ?_; refine Zs ?_; refine Zs ?_; refine Zs ?_; refine Zp ?_; refine Zm ?_; refine Zs ?_; refine Zs ?_; refine Zs ?_; refine Zs ?_; refine Zp ?_; refine Zm ?_; refine Zs ?_; refine Zs ?_; refine Zs ?_; refine Zp ?_; refine Zm ?_; refine Zs ?_; refine Zs ?_
  refine Zs ?_; refine Zp ?_; refine Zm ?_; refine Zs ?_; refine Zs ?_; refine Zs ?_; refine Zs ?_; refine Zp ?_; refine Zm ?_; refine Zs ?_; refine Zs ?_; refine Zs ?_; refine Zp ?_; refine Zm ?_; refine Zs ?_; refine Zs ?_; refine Zs ?_; refine Zp ?_; refine Zq ?_; refine ZY ?_; refine Zr ?_
  refine LL.val (R.buildV rfl rfl (v := .agg #[Value.int IntKind.i64 0, Value.int IntKind.i64 0, Value.int IntKind.i64 0, Value.int IntKind.i64 0, Value.int IntKind.u64 0, Value.int IntKind.u64 0, Value.int IntKind.i64 0, Value.int IntKind.i64 0, Value.int IntKind.i64 0, Value.int IntKind.i64 0]) (fun _ => by kernel_rfl)) rfl rfl rfl ?_
  refine LL.storeN (vs := [.int .i64 0, .int .i64 0, .int .i64 0, .int .i64 0, .int .u64 0, .int .u64 0, .int .i64 0, .int .i64 0, .int .i64 0, .int .i64 0]) rfl rfl rfl rfl r17 (by exact Nat.le_of_ble_eq_true rfl) (ones_of rfl) rfl rfl ?_
  intro W21 r22 b20 z23
  have hlb20 := r17.lt
  replace r22 : RowL W21 _ 31 [.int .i64 0, .int .i64 0, .int .i64 0, .int .i64 0, .int .u64 0, .int .u64 0, .int .i64 0, .int .i64 0, .int .i64 0, .int .i64 0] := r22
  clear r17
  replace r10 := Zd r10 b20; replace r4 := Zd r4 b20; replace q := Zg q b20
  have r17 := r22
  clear r22
  refine Za ?_; refine Zq ?_; refine ZR ?_; refine EE.thenR ?_
  refine EE.ret2 rfl ⟨_, rfl, lvNc (RowL.cells0 (by assumption)) (by rfl) (by rfl)⟩ rfl ?_
  (rw [if_neg (by omega)]; exact ⟨rfl, q⟩)
  refine Zm ?_; refine Zf ?_; refine Zl r4 ?_
  refine LL.vsplit (fun h => R.gtT rfl rfl rfl h) (fun h => R.gtF rfl rfl rfl (Int.not_lt.1 h)) rfl rfl rfl (fun c24 => ?_) (fun c24 => ?_)
  refine Zp ?_; refine Zm ?_; refine Zs ?_; refine Zs ?_; refine Zs ?_; refine Zp ?_; refine Zm ?_; refine Zs ?_; refine Zs ?_; refine Zs ?_; refine Zp ?_; refine Zm ?_; refine Zs ?_; refine Zs ?_; refine Zs ?_; refine Zs ?_; refine Zp ?_; refine Zm ?_; refine Zs ?_; refine Zs ?_; refine Zs ?_; refine Zp ?_; refine Zm ?_; refine Zs ?_; refine Zs ?_; refine Zs ?_; refine Zp ?_; refine Zm ?_; refine Zs ?_
  refine Zs ?_; refine Zs ?_; refine Zs ?_; refine Zp ?_; refine Zm ?_; refine Zs ?_; refine Zs ?_; refine Zs ?_; refine Zp ?_; refine Zm ?_; refine Zs ?_; refine Zs ?_; refine Zs ?_; refine Zp ?_; refine Zq ?_; refine ZY ?_; refine Zr ?_
  refine LL.val (R.buildV rfl rfl (v := .agg #[Value.int IntKind.i64 0, Value.int IntKind.i64 0, Value.int IntKind.i64 0, Value.int IntKind.i64 0, Value.int IntKind.u64 0, Value.int IntKind.u64 0, Value.int IntKind.i64 0, Value.int IntKind.i64 0, Value.int IntKind.i64 0, Value.int IntKind.i64 0]) (fun _ => by kernel_rfl)) rfl rfl rfl ?_
  refine LL.storeN (vs := [.int .i64 0, .int .i64 0, .int .i64 0, .int .i64 0, .int .u64 0, .int .u64 0, .int .i64 0, .int .i64 0, .int .i64 0, .int .i64 0]) rfl rfl rfl rfl r17 (by exact Nat.le_of_ble_eq_true rfl) (ones_of rfl) rfl rfl ?_
  intro W26 r27 b25 z28
  have hlb25 := r17.lt
  replace r27 : RowL W26 _ 31 [.int .i64 0, .int .i64 0, .int .i64 0, .int .i64 0, .int .u64 0, .int .u64 0, .int .i64 0, .int .i64 0, .int .i64 0, .int .i64 0] := r27
  clear r17
  replace r10 := Zd r10 b25; replace r4 := Zd r4 b25; replace q := Zg q b25
  have r17 := r27
  clear r27
  refine Za ?_; refine Zq ?_; refine ZR ?_; refine EE.thenR ?_
  refine EE.ret2 rfl ⟨_, rfl, lvNc (RowL.cells0 (by assumption)) (by rfl) (by rfl)⟩ rfl ?_
  (rw [if_neg (by omega)]; exact ⟨rfl, q⟩)
  refine Zp ?_; refine Zm ?_; refine Zf ?_; refine Zl r4 ?_
  refine LL.vsplit (fun h => R.ltT rfl rfl rfl h) (fun h => R.ltF rfl rfl rfl (Int.not_lt.1 h)) rfl rfl rfl (fun c29 => ?_) (fun c29 => ?_)
  refine Zp ?_; refine Zm ?_; refine Zs ?_; refine Zs ?_; refine Zs ?_; refine Zp ?_; refine Zm ?_; refine Zs ?_; refine Zs ?_; refine Zs ?_; refine Zs ?_; refine Zp ?_; refine Zm ?_; refine Zs ?_; refine Zs ?_; refine Zs ?_; refine Zp ?_; refine Zm ?_; refine Zs ?_; refine Zs ?_; refine Zs ?_; refine Zp ?_; refine Zm ?_; refine Zs ?_; refine Zs ?_; refine Zs ?_; refine Zs ?_; refine Zp ?_; refine Zm ?_
  refine Zs ?_; refine Zs ?_; refine Zs ?_; refine Zp ?_; refine Zm ?_; refine Zs ?_; refine Zs ?_; refine Zs ?_; refine Zp ?_; refine Zq ?_; refine ZY ?_; refine Zr ?_
  refine LL.val (R.buildV rfl rfl (v := .agg #[Value.int IntKind.i64 0, Value.int IntKind.i64 0, Value.int IntKind.i64 0, Value.int IntKind.i64 0, Value.int IntKind.u64 0, Value.int IntKind.u64 0, Value.int IntKind.i64 0, Value.int IntKind.i64 0, Value.int IntKind.i64 0, Value.int IntKind.i64 0]) (fun _ => by kernel_rfl)) rfl rfl rfl ?_
  refine LL.storeN (vs := [.int .i64 0, .int .i64 0, .int .i64 0, .int .i64 0, .int .u64 0, .int .u64 0, .int .i64 0, .int .i64 0, .int .i64 0, .int .i64 0]) rfl rfl rfl rfl r17 (by exact Nat.le_of_ble_eq_true rfl) (ones_of rfl) rfl rfl ?_
  intro W31 r32 b30 z33
  have hlb30 := r17.lt
  replace r32 : RowL W31 _ 31 [.int .i64 0, .int .i64 0, .int .i64 0, .int .i64 0, .int .u64 0, .int .u64 0, .int .i64 0, .int .i64 0, .int .i64 0, .int .i64 0] := r32
  clear r17
  replace r10 := Zd r10 b30; replace r4 := Zd r4 b30; replace q := Zg q b30
  have r17 := r32
  clear r32
  refine Za ?_; refine Zq ?_; refine ZR ?_; refine EE.thenR ?_
  refine EE.ret2 rfl ⟨_, rfl, lvNc (RowL.cells0 (by assumption)) (by rfl) (by rfl)⟩ rfl ?_
  (rw [if_neg (by omega)]; exact ⟨rfl, q⟩)
  refine Zp ?_; refine Zm ?_; refine Zf ?_; refine Zl r4 ?_
  refine LL.vsplit (fun h => R.gtT rfl rfl rfl h) (fun h => R.gtF rfl rfl rfl (Int.not_lt.1 h)) rfl rfl rfl (fun c34 => ?_) (fun c34 => ?_)
  refine Zp ?_; refine Zm ?_; refine Zs ?_; refine Zs ?_; refine Zs ?_; refine Zs ?_; refine Zp ?_; refine Zm ?_; refine Zs ?_; refine Zs ?_; refine Zs ?_; refine Zp ?_; refine Zm ?_; refine Zs ?_; refine Zs ?_; refine Zs ?_; refine Zp ?_; refine Zm ?_; refine Zs ?_; refine Zs ?_; refine Zs ?_; refine Zs ?_; refine Zp ?_; refine Zm ?_; refine Zs ?_; refine Zs ?_; refine Zs ?_; refine Zp ?_; refine Zm ?_
  refine Zs ?_; refine Zs ?_; refine Zs ?_; refine Zp ?_; refine Zq ?_; refine ZY ?_; refine Zr ?_
  refine LL.val (R.buildV rfl rfl (v := .agg #[Value.int IntKind.i64 0, Value.int IntKind.i64 0, Value.int IntKind.i64 0, Value.int IntKind.i64 0, Value.int IntKind.u64 0, Value.int IntKind.u64 0, Value.int IntKind.i64 0, Value.int IntKind.i64 0, Value.int IntKind.i64 0, Value.int IntKind.i64 0]) (fun _ => by kernel_rfl)) rfl rfl rfl ?_
  refine LL.storeN (vs := [.int .i64 0, .int .i64 0, .int .i64 0, .int .i64 0, .int .u64 0, .int .u64 0, .int .i64 0, .int .i64 0, .int .i64 0, .int .i64 0]) rfl rfl rfl rfl r17 (by exact Nat.le_of_ble_eq_true rfl) (ones_of rfl) rfl rfl ?_
  intro W36 r37 b35 z38
  have hlb35 := r17.lt
  replace r37 : RowL W36 _ 31 [.int .i64 0, .int .i64 0, .int .i64 0, .int .i64 0, .int .u64 0, .int .u64 0, .int .i64 0, .int .i64 0, .int .i64 0, .int .i64 0] := r37
  clear r17
  replace r10 := Zd r10 b35; replace r4 := Zd r4 b35; replace q := Zg q b35
  have r17 := r37
  clear r37
  refine Za ?_; refine Zq ?_; refine ZR ?_; refine EE.thenR ?_
  refine EE.ret2 rfl ⟨_, rfl, lvNc (RowL.cells0 (by assumption)) (by rfl) (by rfl)⟩ rfl ?_
  (rw [if_neg (by omega)]; exact ⟨rfl, q⟩)
  refine Zp ?_; refine Zm ?_; refine Zf ?_; refine Zl r4 ?_
  refine LL.val (R.remIc rfl rfl rfl rfl (by omega) (by omega)) rfl rfl rfl ?_
  refine LL.vsplit (fun h => R.neT rfl rfl rfl h) (fun h => R.neF rfl rfl rfl (Decidable.not_not.1 h)) rfl rfl rfl (fun c39 => ?_) (fun c39 => ?_)
  refine Zp ?_; refine Zm ?_; refine Zs ?_; refine Zs ?_; refine Zs ?_; refine Zp ?_; refine Zm ?_; refine Zs ?_; refine Zs ?_; refine Zs ?_; refine Zp ?_; refine Zm ?_; refine Zs ?_; refine Zs ?_; refine Zs ?_; refine Zs ?_; refine Zp ?_; refine Zm ?_; refine Zs ?_; refine Zs ?_; refine Zs ?_; refine Zp ?_; refine Zm ?_; refine Zs ?_; refine Zs ?_; refine Zs ?_; refine Zp ?_; refine Zq ?_; refine ZY ?_
  refine Zr ?_
  refine LL.val (R.buildV rfl rfl (v := .agg #[Value.int IntKind.i64 0, Value.int IntKind.i64 0, Value.int IntKind.i64 0, Value.int IntKind.i64 0, Value.int IntKind.u64 0, Value.int IntKind.u64 0, Value.int IntKind.i64 0, Value.int IntKind.i64 0, Value.int IntKind.i64 0, Value.int IntKind.i64 0]) (fun _ => by kernel_rfl)) rfl rfl rfl ?_
  refine LL.storeN (vs := [.int .i64 0, .int .i64 0, .int .i64 0, .int .i64 0, .int .u64 0, .int .u64 0, .int .i64 0, .int .i64 0, .int .i64 0, .int .i64 0]) rfl rfl rfl rfl r17 (by exact Nat.le_of_ble_eq_true rfl) (ones_of rfl) rfl rfl ?_
  intro W41 r42 b40 z43
  have hlb40 := r17.lt
  replace r42 : RowL W41 _ 31 [.int .i64 0, .int .i64 0, .int .i64 0, .int .i64 0, .int .u64 0, .int .u64 0, .int .i64 0, .int .i64 0, .int .i64 0, .int .i64 0] := r42
  clear r17
  replace r10 := Zd r10 b40; replace r4 := Zd r4 b40; replace q := Zg q b40
  have r17 := r42
  clear r42
  refine Za ?_; refine Zq ?_; refine ZR ?_; refine EE.thenR ?_
  refine EE.ret2 rfl ⟨_, rfl, lvNc (RowL.cells0 (by assumption)) (by rfl) (by rfl)⟩ rfl ?_
  (rw [if_neg (by omega)]; exact ⟨rfl, q⟩)
  refine Zp ?_; refine Zm ?_; refine Zf ?_; refine Zl r4 ?_
  refine LL.vsplit (fun h => R.ltT rfl rfl rfl h) (fun h => R.ltF rfl rfl rfl (Int.not_lt.1 h)) rfl rfl rfl (fun c44 => ?_) (fun c44 => ?_)
  refine Zp ?_; refine Zm ?_; refine Zs ?_; refine Zs ?_; refine Zs ?_; refine Zp ?_; refine Zm ?_; refine Zs ?_; refine Zs ?_; refine Zs ?_; refine Zs ?_; refine Zp ?_; refine Zm ?_; refine Zs ?_; refine Zs ?_; refine Zs ?_; refine Zp ?_; refine Zm ?_; refine Zs ?_; refine Zs ?_; refine Zs ?_; refine Zp ?_; refine Zq ?_; refine ZY ?_; refine Zr ?_
  refine LL.val (R.buildV rfl rfl (v := .agg #[Value.int IntKind.i64 0, Value.int IntKind.i64 0, Value.int IntKind.i64 0, Value.int IntKind.i64 0, Value.int IntKind.u64 0, Value.int IntKind.u64 0, Value.int IntKind.i64 0, Value.int IntKind.i64 0, Value.int IntKind.i64 0, Value.int IntKind.i64 0]) (fun _ => by kernel_rfl)) rfl rfl rfl ?_
  refine LL.storeN (vs := [.int .i64 0, .int .i64 0, .int .i64 0, .int .i64 0, .int .u64 0, .int .u64 0, .int .i64 0, .int .i64 0, .int .i64 0, .int .i64 0]) rfl rfl rfl rfl r17 (by exact Nat.le_of_ble_eq_true rfl) (ones_of rfl) rfl rfl ?_
  intro W46 r47 b45 z48
  have hlb45 := r17.lt
  replace r47 : RowL W46 _ 31 [.int .i64 0, .int .i64 0, .int .i64 0, .int .i64 0, .int .u64 0, .int .u64 0, .int .i64 0, .int .i64 0, .int .i64 0, .int .i64 0] := r47
  clear r17
  replace r10 := Zd r10 b45; replace r4 := Zd r4 b45; replace q := Zg q b45
  have r17 := r47
  clear r47
  refine Za ?_; refine Zq ?_; refine ZR ?_; refine EE.thenR ?_
  refine EE.ret2 rfl ⟨_, rfl, lvNc (RowL.cells0 (by assumption)) (by rfl) (by rfl)⟩ rfl ?_
  (rw [if_neg (by omega)]; exact ⟨rfl, q⟩)
  refine Zp ?_; refine Zm ?_; refine Zf ?_; refine Zl r4 ?_
  refine LL.vsplit (fun h => R.gtT rfl rfl rfl h) (fun h => R.gtF rfl rfl rfl (Int.not_lt.1 h)) rfl rfl rfl (fun c49 => ?_) (fun c49 => ?_)
  refine Zp ?_; refine Zm ?_; refine Zs ?_; refine Zs ?_; refine Zs ?_; refine Zs ?_; refine Zp ?_; refine Zm ?_; refine Zs ?_; refine Zs ?_; refine Zs ?_; refine Zp ?_; refine Zm ?_; refine Zs ?_; refine Zs ?_; refine Zs ?_; refine Zp ?_; refine Zq ?_; refine ZY ?_; refine Zr ?_
  refine LL.val (R.buildV rfl rfl (v := .agg #[Value.int IntKind.i64 0, Value.int IntKind.i64 0, Value.int IntKind.i64 0, Value.int IntKind.i64 0, Value.int IntKind.u64 0, Value.int IntKind.u64 0, Value.int IntKind.i64 0, Value.int IntKind.i64 0, Value.int IntKind.i64 0, Value.int IntKind.i64 0]) (fun _ => by kernel_rfl)) rfl rfl rfl ?_
  refine LL.storeN (vs := [.int .i64 0, .int .i64 0, .int .i64 0, .int .i64 0, .int .u64 0, .int .u64 0, .int .i64 0, .int .i64 0, .int .i64 0, .int .i64 0]) rfl rfl rfl rfl r17 (by exact Nat.le_of_ble_eq_true rfl) (ones_of rfl) rfl rfl ?_
  intro W51 r52 b50 z53
  have hlb50 := r17.lt
  replace r52 : RowL W51 _ 31 [.int .i64 0, .int .i64 0, .int .i64 0, .int .i64 0, .int .u64 0, .int .u64 0, .int .i64 0, .int .i64 0, .int .i64 0, .int .i64 0] := r52
  clear r17
  replace r10 := Zd r10 b50; replace r4 := Zd r4 b50; replace q := Zg q b50
  have r17 := r52
  clear r52
  refine Za ?_; refine Zq ?_; refine ZR ?_; refine EE.thenR ?_
  refine EE.ret2 rfl ⟨_, rfl, lvNc (RowL.cells0 (by assumption)) (by rfl) (by rfl)⟩ rfl ?_
  (rw [if_neg (by omega)]; exact ⟨rfl, q⟩)
  refine Zp ?_; refine Zm ?_; refine Zf ?_; refine Zl r4 ?_
  refine LL.val (R.remIc rfl rfl rfl rfl (by omega) (by omega)) rfl rfl rfl ?_
  refine LL.vsplit (fun h => R.neT rfl rfl rfl h) (fun h => R.neF rfl rfl rfl (Decidable.not_not.1 h)) rfl rfl rfl (fun c54 => ?_) (fun c54 => ?_)
  refine Zp ?_; refine Zm ?_; refine Zs ?_; refine Zs ?_; refine Zs ?_; refine Zp ?_; refine Zm ?_; refine Zs ?_; refine Zs ?_; refine Zs ?_; refine Zp ?_; refine Zq ?_; refine ZY ?_; refine Zr ?_
  refine LL.val (R.buildV rfl rfl (v := .agg #[Value.int IntKind.i64 0, Value.int IntKind.i64 0, Value.int IntKind.i64 0, Value.int IntKind.i64 0, Value.int IntKind.u64 0, Value.int IntKind.u64 0, Value.int IntKind.i64 0, Value.int IntKind.i64 0, Value.int IntKind.i64 0, Value.int IntKind.i64 0]) (fun _ => by kernel_rfl)) rfl rfl rfl ?_
  refine LL.storeN (vs := [.int .i64 0, .int .i64 0, .int .i64 0, .int .i64 0, .int .u64 0, .int .u64 0, .int .i64 0, .int .i64 0, .int .i64 0, .int .i64 0]) rfl rfl rfl rfl r17 (by exact Nat.le_of_ble_eq_true rfl) (ones_of rfl) rfl rfl ?_
  intro W56 r57 b55 z58
  have hlb55 := r17.lt
  replace r57 : RowL W56 _ 31 [.int .i64 0, .int .i64 0, .int .i64 0, .int .i64 0, .int .u64 0, .int .u64 0, .int .i64 0, .int .i64 0, .int .i64 0, .int .i64 0] := r57
  clear r17
  replace r10 := Zd r10 b55; replace r4 := Zd r4 b55; replace q := Zg q b55
  have r17 := r57
  clear r57
  refine Za ?_; refine Zq ?_; refine ZR ?_; refine EE.thenR ?_
  refine EE.ret2 rfl ⟨_, rfl, lvNc (RowL.cells0 (by assumption)) (by rfl) (by rfl)⟩ rfl ?_
  (rw [if_neg (by omega)]; exact ⟨rfl, q⟩)
  refine Zp ?_; refine Zm ?_; refine Zf ?_; refine Zl r4 ?_
  refine LL.vsplit (fun h => R.ltT rfl rfl rfl h) (fun h => R.ltF rfl rfl rfl (Int.not_lt.1 h)) rfl rfl rfl (fun c59 => ?_) (fun c59 => ?_)
  refine Zp ?_; refine Zm ?_; refine Zs ?_; refine Zs ?_; refine Zs ?_; refine Zp ?_; refine Zq ?_; refine ZY ?_; refine Zr ?_
  refine LL.val (R.buildV rfl rfl (v := .agg #[Value.int IntKind.i64 0, Value.int IntKind.i64 0, Value.int IntKind.i64 0, Value.int IntKind.i64 0, Value.int IntKind.u64 0, Value.int IntKind.u64 0, Value.int IntKind.i64 0, Value.int IntKind.i64 0, Value.int IntKind.i64 0, Value.int IntKind.i64 0]) (fun _ => by kernel_rfl)) rfl rfl rfl ?_
  refine LL.storeN (vs := [.int .i64 0, .int .i64 0, .int .i64 0, .int .i64 0, .int .u64 0, .int .u64 0, .int .i64 0, .int .i64 0, .int .i64 0, .int .i64 0]) rfl rfl rfl rfl r17 (by exact Nat.le_of_ble_eq_true rfl) (ones_of rfl) rfl rfl ?_
  intro W61 r62 b60 z63
  have hlb60 := r17.lt
  replace r62 : RowL W61 _ 31 [.int .i64 0, .int .i64 0, .int .i64 0, .int .i64 0, .int .u64 0, .int .u64 0, .int .i64 0, .int .i64 0, .int .i64 0, .int .i64 0] := r62
  clear r17
  replace r10 := Zd r10 b60; replace r4 := Zd r4 b60; replace q := Zg q b60
  have r17 := r62
  clear r62
  refine Za ?_; refine Zq ?_; refine ZR ?_; refine EE.thenR ?_
  refine EE.ret2 rfl ⟨_, rfl, lvNc (RowL.cells0 (by assumption)) (by rfl) (by rfl)⟩ rfl ?_
  (rw [if_neg (by omega)]; exact ⟨rfl, q⟩)
  refine Zp ?_; refine Zm ?_; refine Zf ?_; refine Zl r4 ?_
  refine LL.vsplit (fun h => R.gtT rfl rfl rfl h) (fun h => R.gtF rfl rfl rfl (Int.not_lt.1 h)) rfl rfl rfl (fun c64 => ?_) (fun c64 => ?_)
  refine Zp ?_; refine Zq ?_; refine ZY ?_; refine Zr ?_
  refine LL.val (R.buildV rfl rfl (v := .agg #[Value.int IntKind.i64 0, Value.int IntKind.i64 0, Value.int IntKind.i64 0, Value.int IntKind.i64 0, Value.int IntKind.u64 0, Value.int IntKind.u64 0, Value.int IntKind.i64 0, Value.int IntKind.i64 0, Value.int IntKind.i64 0, Value.int IntKind.i64 0]) (fun _ => by kernel_rfl)) rfl rfl rfl ?_
  refine LL.storeN (vs := [.int .i64 0, .int .i64 0, .int .i64 0, .int .i64 0, .int .u64 0, .int .u64 0, .int .i64 0, .int .i64 0, .int .i64 0, .int .i64 0]) rfl rfl rfl rfl r17 (by exact Nat.le_of_ble_eq_true rfl) (ones_of rfl) rfl rfl ?_
  intro W66 r67 b65 z68
  have hlb65 := r17.lt
  replace r67 : RowL W66 _ 31 [.int .i64 0, .int .i64 0, .int .i64 0, .int .i64 0, .int .u64 0, .int .u64 0, .int .i64 0, .int .i64 0, .int .i64 0, .int .i64 0] := r67
  clear r17
  replace r10 := Zd r10 b65; replace r4 := Zd r4 b65; replace q := Zg q b65
  have r17 := r67
  clear r67
  refine Za ?_; refine Zq ?_; refine ZR ?_; refine EE.thenR ?_
  refine EE.ret2 rfl ⟨_, rfl, lvNc (RowL.cells0 (by assumption)) (by rfl) (by rfl)⟩ rfl ?_
  (rw [if_neg (by omega)]; exact ⟨rfl, q⟩)
  refine Zp ?_; refine Zq ?_; refine ZN ?_; refine ZK ?_; refine ZT ?_; refine Zr ?_; refine Zv r4 ?_; refine Zv r10 ?_
  refine LL.val (R.buildV rfl rfl (v := .agg #[Value.int IntKind.i64 b, Value.int IntKind.i64 i, Value.int IntKind.i64 r, Value.int IntKind.i64 t, Value.int IntKind.u64 ↑k1, Value.int IntKind.u64 ↑k2, Value.int IntKind.i64 9, Value.int IntKind.i64 0, Value.int IntKind.i64 0, Value.int IntKind.i64 0]) (fun _ => by kernel_rfl)) rfl rfl rfl ?_
  have l69 := r17.lt; have l70 := r10.lt; have l71 := r4.lt
  refine LL.alloc ([.int .i64 0, .int .i64 0, .int .i64 0, .int .i64 0, .int .u64 0, .int .u64 0, .int .i64 0, .int .i64 0, .int .i64 0, .int .i64 0]) rfl rfl rfl rfl rfl ?_
  intro W73 g74 eg74 r75 z76 b72
  replace r17 := r17.up b72; replace r10 := r10.up b72; replace r4 := r4.up b72; replace q := Zu q b72
  refine LL.storeN (vs := [.int .i64 b, .int .i64 i, .int .i64 r, .int .i64 t, .int .u64 ↑k1, .int .u64 ↑k2, .int .i64 9, .int .i64 0, .int .i64 0, .int .i64 0]) rfl rfl rfl rfl r75 (by exact Nat.le_of_ble_eq_true rfl) (ones_of rfl) rfl rfl ?_
  intro W78 r79 b77 z80
  have hlb77 := r75.lt
  replace r79 : RowL W78 _ 31 [.int .i64 b, .int .i64 i, .int .i64 r, .int .i64 t, .int .u64 ↑k1, .int .u64 ↑k2, .int .i64 9, .int .i64 0, .int .i64 0, .int .i64 0] := r79
  clear r75
  replace r17 := Zd r17 b77; replace r10 := Zd r10 b77; replace r4 := Zd r4 b77; replace q := Zg q b77
  have r75 := r79
  clear r79
  refine Zq ?_; refine Zr ?_; refine Zf ?_; refine Zl r75 ?_; refine Zf ?_; refine Zl r4 ?_
  refine LL.val (R.quoIc rfl rfl rfl rfl (by omega) (by omega) (by omega)) rfl rfl rfl ?_
  refine LL.val (R.addI rfl rfl rfl (by omega)) rfl rfl rfl ?_
  refine Zf ?_
  refine LL.store rfl rfl rfl rfl r75 (by exact Nat.le_of_ble_eq_true rfl) rfl rfl rfl rfl ?_
  intro W82 r83 b81 z84
  have hlb81 := r75.lt
  replace r83 : RowL W82 _ 31 [.int .i64 b, .int .i64 i, .int .i64 r, .int .i64 t, .int .u64 ↑k1, .int .u64 ↑k2, .int .i64 9, .int .i64 (9 + i / 4), .int .i64 0, .int .i64 0] := r83
  clear r75
  replace r17 := Zd r17 b81; replace r10 := Zd r10 b81; replace r4 := Zd r4 b81; replace q := Zg q b81
  have r75 := r83
  clear r83
  refine Zq ?_; refine Zr ?_; refine Zf ?_; refine Zl r75 ?_; refine Zf ?_; refine Zl r4 ?_
  refine LL.val (R.quoIc rfl rfl rfl rfl (by omega) (by omega) (by omega)) rfl rfl rfl ?_
  refine LL.val (R.addI rfl rfl rfl (by omega)) rfl rfl rfl ?_
  refine Zf ?_
  refine LL.store rfl rfl rfl rfl r75 (by exact Nat.le_of_ble_eq_true rfl) rfl rfl rfl rfl ?_
  intro W86 r87 b85 z88
  have hlb85 := r75.lt
  replace r87 : RowL W86 _ 31 [.int .i64 b, .int .i64 i, .int .i64 r, .int .i64 t, .int .u64 ↑k1, .int .u64 ↑k2, .int .i64 9, .int .i64 (9 + i / 4), .int .i64 (9 + i / 4 + r / 4), .int .i64 0] := r87
  clear r75
  replace r17 := Zd r17 b85; replace r10 := Zd r10 b85; replace r4 := Zd r4 b85; replace q := Zg q b85
  have r75 := r87
  clear r87
  refine Zq ?_; refine Zr ?_; refine Zf ?_; refine Zl r75 ?_
  refine LL.val (R.addI rfl rfl rfl (by omega)) rfl rfl rfl ?_
  refine Zf ?_
  refine LL.store rfl rfl rfl rfl r75 (by exact Nat.le_of_ble_eq_true rfl) rfl rfl rfl rfl ?_
  intro W90 r91 b89 z92
  have hlb89 := r75.lt
  replace r91 : RowL W90 _ 31 [.int .i64 b, .int .i64 i, .int .i64 r, .int .i64 t, .int .u64 ↑k1, .int .u64 ↑k2, .int .i64 9, .int .i64 (9 + i / 4), .int .i64 (9 + i / 4 + r / 4), .int .i64 (9 + i / 4 + r / 4 + 1)] := r91
  clear r75
  replace r17 := Zd r17 b89; replace r10 := Zd r10 b89; replace r4 := Zd r4 b89; replace q := Zg q b89
  have r75 := r91
  clear r91
  refine Zq ?_; refine Zc ?_; refine Zr ?_; refine Zf ?_; refine Zl r4 ?_; refine Zf ?_; refine Zl r75 ?_
  refine LL.val (R.subI rfl rfl rfl (by omega)) rfl rfl rfl ?_
  refine LL.vsplit (fun h => R.ltT rfl rfl rfl h) (fun h => R.ltF rfl rfl rfl (Int.not_lt.1 h)) rfl rfl rfl (fun c93 => ?_) (fun c93 => ?_)
  refine Zq ?_; refine ZY ?_; refine Zr ?_
  refine LL.val (R.buildV rfl rfl (v := .agg #[Value.int IntKind.i64 0, Value.int IntKind.i64 0, Value.int IntKind.i64 0, Value.int IntKind.i64 0, Value.int IntKind.u64 0, Value.int IntKind.u64 0, Value.int IntKind.i64 0, Value.int IntKind.i64 0, Value.int IntKind.i64 0, Value.int IntKind.i64 0]) (fun _ => by kernel_rfl)) rfl rfl rfl ?_
  refine LL.storeN (vs := [.int .i64 0, .int .i64 0, .int .i64 0, .int .i64 0, .int .u64 0, .int .u64 0, .int .i64 0, .int .i64 0, .int .i64 0, .int .i64 0]) rfl rfl rfl rfl r17 (by exact Nat.le_of_ble_eq_true rfl) (ones_of rfl) rfl rfl ?_
  intro W95 r96 b94 z97
  have hlb94 := r17.lt
  replace r96 : RowL W95 _ 31 [.int .i64 0, .int .i64 0, .int .i64 0, .int .i64 0, .int .u64 0, .int .u64 0, .int .i64 0, .int .i64 0, .int .i64 0, .int .i64 0] := r96
  clear r17
  replace r10 := Zd r10 b94; replace r4 := Zd r4 b94; replace q := Zg q b94; replace r75 := Zd r75 b94
  have r17 := r96
  clear r96
  refine Za ?_; refine Zq ?_; refine ZR ?_; refine EE.thenR ?_
  refine EE.ret2 rfl ⟨_, rfl, lvNc (RowL.cells0 (by assumption)) (by rfl) (by rfl)⟩ rfl ?_
  (rw [if_neg (by omega)]; exact ⟨rfl, q⟩)
  refine Zq ?_; refine ZN ?_; refine ZK ?_; refine ZT ?_; refine Zr ?_; refine Zv r75 ?_
  refine LL.storeN (vs := [.int .i64 b, .int .i64 i, .int .i64 r, .int .i64 t, .int .u64 ↑k1, .int .u64 ↑k2, .int .i64 9, .int .i64 (9 + i / 4), .int .i64 (9 + i / 4 + r / 4), .int .i64 (9 + i / 4 + r / 4 + 1)]) rfl rfl rfl rfl r17 (by exact Nat.le_of_ble_eq_true rfl) (ones_of rfl) rfl rfl ?_
  intro W99 r100 b98 z101
  have hlb98 := r17.lt
  replace r100 : RowL W99 _ 31 [.int .i64 b, .int .i64 i, .int .i64 r, .int .i64 t, .int .u64 ↑k1, .int .u64 ↑k2, .int .i64 9, .int .i64 (9 + i / 4), .int .i64 (9 + i / 4 + r / 4), .int .i64 (9 + i / 4 + r / 4 + 1)] := r100
  clear r17
  replace r10 := Zd r10 b98; replace r4 := Zd r4 b98; replace q := Zg q b98; replace r75 := Zd r75 b98
  have r17 := r100
  clear r100
  refine Za ?_; refine Zq ?_; refine ZR ?_
  refine EE.ret2 rfl ⟨_, rfl, lvNc (RowL.cells0 (by assumption)) (by rfl) (by rfl)⟩ rfl ?_
  (rw [if_pos (by omega)]; exact ⟨by simp; omega, q⟩)
--C ref13_Of | ly_rof_T _ _ _ _ _ _ @w @p | ⟨rfl, @b⟩
--C ref13_Of | ly_rof_F _ _ _ _ _ _ @w @p | ⟨rfl, @b⟩
theorem ly_rof_T (b i r t : Int) (k1 k2 : Nat) (w : World) (h : ly_okF b i r t) : Calls Tryz.prog 23 #[formV b i r t, keyV k1 k2] w fun e w' => e = .returned (.tuple #[layV b i r t k1 k2 9 (9 + i / 4) (9 + i / 4 + r / 4) (10 + i / 4 + r / 4), .int .i64 0]) ∧ Below w.heap.size w w' := by
  have := ly_rof_any b i r t k1 k2 w
  rwa [if_pos h] at this
theorem ly_rof_F (b i r t : Int) (k1 k2 : Nat) (w : World) (h : ¬ly_okF b i r t) : Calls Tryz.prog 23 #[formV b i r t, keyV k1 k2] w fun e w' => e = .returned (.tuple #[layV 0 0 0 0 0 0 0 0 0 0, .int .i64 2]) ∧ Below w.heap.size w w' := by
  have := ly_rof_any b i r t k1 k2 w
  rwa [if_neg h] at this
set_option maxRecDepth 100000
set_option maxHeartbeats 4000000
/-- The layout of its form and key. -/
abbrev isL (b i r t a c d e : Int) : Prop := ly_okF b i r t ∧ a = 9 ∧ c = 9 + i / 4 ∧ d = 9 + i / 4 + r / 4 ∧ e = 10 + i / 4 + r / 4
set_option linter.unusedVariables false
set_option linter.unusedSimpArgs false
section
variable {α : Type} {enc : α → List Value} {k : Nat} {P : Program} {T e : TypeId} {z : Value} {bytes : Nat}
end
set_option linter.unusedVariables false
set_option linter.unusedSimpArgs false
section
variable {α : Type} {enc : α → List Value} {k : Nat}
theorem Enc.set (E : Enc enc k) (ts : List α) (i : Nat) (t : α) (h : i < ts.length) : (ts.set i t).flatMap enc = (ts.flatMap enc).take (i * k) ++ enc t ++ (ts.flatMap enc).drop (i * k + k) := by
  have hp : i * k + k = (i + 1) * k := by rw [Nat.add_mul]; omega
  rw [List.set_eq_take_append_cons_drop, if_pos h, List.flatMap_append, List.flatMap_cons, hp, E.drop, E.take, List.append_assoc]
theorem OwnsT.block {w : World} {base e : Nat} {v : Value} {ts : List α} (h : OwnsT enc k w base e v ts) : (v = .slice Option.none 0 0 ∧ ts = []) ∨ ∃ g cap, v = .slice (some ⟨g, 0, Option.none⟩) ts.length cap ∧ ts.length ≤ cap ∧ base ≤ g ∧ g < w.heap.size := by
  rcases h.2 with ⟨e1, h0⟩ | ⟨g, cap, cur, e1, hbg, hg, hnc, _⟩
  · exact .inl ⟨e1, List.eq_nil_of_length_eq_zero h0⟩
  · exact .inr ⟨g, cap, e1, hnc, hbg, (Array.getElem?_eq_some_iff.1 hg).1⟩
end
section
variable {α : Type} {enc : α → List Value} {k : Nat} {P : Program} {w : World} {o : Oper} {n : Nat} {D : List Deferred} {M : Slots} {T e : TypeId} {z : Value} {bytes : Nat} {r : Option Nat} {ops : Array Oper} {Q : Exit → Act → World → Prop} {rest : List Oper}
end
set_option linter.unusedVariables false
set_option linter.unusedSimpArgs false
section
variable {α : Type} {enc : α → List Value} {k : Nat} {P : Program} {e : TypeId} {r : Option Nat} {ops : Array Oper} {Q : Exit → Act → World → Prop} {rest : List Oper} {w : World} {n : Nat} {D : List Deferred} {M : Slots} {o : Oper}
theorem Enc.setF (E : Enc enc k) (ts : List α) (i c : Nat) (t u : α) (v : Value) (ht : ts[i]? = some t) (hc : c < k) (hu : enc u = (enc t).set c v) : (ts.flatMap enc).set (i * k + c) v = (ts.set i u).flatMap enc := by
  have hi : i < ts.length := (List.getElem?_eq_some_iff.1 ht).1
  have hlen := E.flat ts
  have hin : i * k + k ≤ ts.length * k := by
    have : (i + 1) * k ≤ ts.length * k := Nat.mul_le_mul_right _ hi
    rw [Nat.add_mul] at this
    omega
  have hself : ts.set i t = ts := by
    rw [List.getElem?_eq_getElem hi] at ht
    cases ht
    simp
  have h0 := E.set ts i t hi
  rw [hself] at h0
  have hA : ((ts.flatMap enc).take (i * k)).length = i * k := by rw [List.length_take]; omega
  rw [E.set ts i u hi]
  conv => lhs; rw [h0]
  rw [List.append_assoc, List.set_append_right _ _ (by rw [hA]; omega), hA, show i * k + c - i * k = c by omega, List.set_append_left _ _ (by rw [E.len]; exact hc), ← hu, List.append_assoc]
theorem ownsT_setF {w' : World} (E : Enc enc k) {base g N cap i c : Nat} {ts : List α} {t u : α} {v : Value} (hown : OwnsT enc k w base e (.slice (some ⟨g, 0, none⟩) N cap) ts) (ht : ts[i]? = some t) (hc : c < k) (hu : enc u = (enc t).set c v)
    (hr : ∀ cs, RowL w g e cs → RowL w' g e (cs.set (i * k + c) v)) : OwnsT enc k w' base e (.slice (some ⟨g, 0, none⟩) N cap) (ts.set i u) := by
  rcases id hown.2 with ⟨e1, _⟩ | ⟨g', cap', cur, e1, hbg, hg', hnc, hcm, hcs, htake⟩
  · cases e1
  · cases e1
    have hrow : RowL w g e cur.toList := hg'
    have hi : i < ts.length := (List.getElem?_eq_some_iff.1 ht).1
    have hin : i * k + k ≤ ts.length * k := by
      have : (i + 1) * k ≤ ts.length * k := Nat.mul_le_mul_right _ hi
      rw [Nat.add_mul] at this
      omega
    refine ⟨E.flat _, .inr ⟨g, cap, _, by rw [List.length_set], hbg, hr _ hrow, by rw [List.length_set]; exact hnc, hcm, ?_, ?_⟩⟩
    · simpa using hcs
    · rw [List.length_set, List.take_set, htake, E.setF ts i c t u v ht hc hu]
theorem LL.storeF {x y : Operand} {t : TypeId} {base g off N cap : Nat} {ts : List α} {v : Value} (i c : Nat) (s u : α) (ho : o.op = .store t x y) (hx : evM M x = some (.pointer (some ⟨g, off, none⟩))) (hy : evM M y = some v) (hz : szB P t = some 1) (hoff : off = i * k + c) (E : Enc enc k)
    (hown : OwnsT enc k w base e (.slice (some ⟨g, 0, none⟩) N cap) ts) (hs : ts[i]? = some s) (hc : c < k) (hu : enc u = (enc s).set c v) (h1 : v.oneCell' = true) (hcs : v.cells = #[v]) (hd : o.dst = none) (hg : wantB ops M o.guard = some true)
    (kk : ∀ w', OwnsT enc k w' base e (.slice (some ⟨g, 0, none⟩) N cap) (ts.set i u) → w.grownBy w' (some g) → w'.heap.size = w.heap.size → LL r P ops Q n D M rest w') : LL r P ops Q n D M (o :: rest) w := by
  rcases id hown.2 with ⟨e1, _⟩ | ⟨g', cap', cur, e1, hbg, hg', hnc, hcm, hcs', htake⟩
  · cases e1
  · cases e1
    have hrow : RowL w g e cur.toList := hg'
    have hi : i < ts.length := (List.getElem?_eq_some_iff.1 hs).1
    have hin : i * k + k ≤ ts.length * k := by
      have : (i + 1) * k ≤ ts.length * k := Nat.mul_le_mul_right _ hi
      rw [Nat.add_mul] at this
      omega
    have hck : ts.length * k ≤ cap * k := Nat.mul_le_mul_right _ hnc
    have hcl : cur.toList.length = cap * k := by simpa using hcs'
    subst hoff
    refine LL.store ho hx hy hz hrow (by omega) h1 hcs hd hg ?_
    intro w' r' g' z'
    refine kk w' (ownsT_setF E hown hs hc hu fun cs hcs => ?_) g' z'
    have e2 : cs = cur.toList := by
      have := hcs.symm.trans hrow
      have h2 : cs.toArray = cur := by simpa using this
      rw [← h2]
    rw [e2]
    exact r'
end
set_option linter.unusedVariables false
set_option linter.unusedSimpArgs false
/-- What a round keeps for the iterator: of the blocks from B on those that the iterator laid, and all that hold no cells. -/
structure StaysZ (B : Nat) (m : Nat → Prop) (W W' : World) : Prop where
  size : W.heap.size ≤ W'.heap.size
  same : ∀ (k : Nat) (o : Obj), B ≤ k → W.heap[k]? = some o → (m k ∨ o.isCells = false) → W'.heap[k]? = some o
/-- What an iterator's own steps may turn: no more than that. -/
structure TurnsZ (B : Nat) (m : Nat → Prop) (W W' : World) : Prop where
  os : W'.os = W.os
  tape : W'.tape = W.tape
  output : W'.output = W.output
  size : W.heap.size ≤ W'.heap.size
  same : ∀ (k : Nat) (o : Obj), W.heap[k]? = some o → (k < B ∨ (¬ m k ∧ o.isCells = true)) → W'.heap[k]? = some o
/-- What the iterator does leaves it; what it lays since may be its own. -/
def AbidesZ {β : Type} (B : Nat) (J : (Nat → Prop) → β → World → Prop) : Prop := ∀ m m' s W W', J m s W → TurnsZ B m W W' → (∀ k, m' k → m k ∨ W.heap.size ≤ k) → J m' s W'
section small
variable {B B' n : Nat} {m : Nat → Prop} {W W' X Y : World}
theorem StaysZ.refl (B : Nat) (m : Nat → Prop) (W : World) : StaysZ B m W W := ⟨Nat.le_refl _, fun _ _ _ h _ => h⟩
theorem StaysZ.trans (h : StaysZ B m X W) (k : StaysZ B m W Y) : StaysZ B m X Y := ⟨Nat.le_trans h.size k.size, fun i o hb ho hc => k.same i o hb (h.same i o hb ho hc) hc⟩
theorem StaysZ.mono (h : StaysZ B m X W) (hb : B ≤ B') : StaysZ B' m X W := ⟨h.size, fun k o hk => h.same k o (Nat.le_trans hb hk)⟩
theorem StaysZ.of_below (h : Below W.heap.size W W') : StaysZ B m W W' :=
  ⟨h.size, fun k _ _ hk _ => (h.block k (Array.getElem?_eq_some_iff.1 hk).1).trans hk⟩
theorem StaysZ.record {l : Nat} {r : Loop} (h : StaysZ B m X W) (hb : B ≤ l) (hl : X.heap[l]? = some (.loop r)) : W.heap[l]? = some (.loop r) := h.same l _ hb hl (.inr rfl)
theorem StaysZ.turn {l : Nat} {o : Obj} (hb : l < B) : StaysZ B m W (W.putObj l o) :=
  ⟨by simp, fun k _ hk hx _ => (World.putObj_heap_other (by omega)).trans hx⟩
/-- A write into a block that lies ahead of B. -/
theorem StaysZ.of_grown {b : Nat} {W W' : World} (h : W.grownBy W' (some b)) (hb : b < B) : StaysZ B m W W' :=
  ⟨h.size, fun k o hk ho _ => (h.block k (Array.getElem?_eq_some_iff.1 ho).1 (by simp; omega)).trans ho⟩
theorem StaysZ.row {g e : Nat} {xs : List Value} (h : StaysZ B m W W') (hr : RowL W g e xs) (hb : B ≤ g) (hm : m g) : RowL W' g e xs := h.same g _ hb hr (.inl hm)
theorem TurnsZ.refl (B : Nat) (m : Nat → Prop) (W : World) : TurnsZ B m W W := ⟨rfl, rfl, rfl, Nat.le_refl _, fun _ _ h _ => h⟩
theorem TurnsZ.trans (h : TurnsZ B m X W) (k : TurnsZ B m W Y) : TurnsZ B m X Y :=
  ⟨k.os.trans h.os, k.tape.trans h.tape, k.output.trans h.output, Nat.le_trans h.size k.size, fun i o ho hc => k.same i o (h.same i o ho hc) hc⟩
theorem TurnsZ.mono (h : TurnsZ B' m X W) (hb : B ≤ B') : TurnsZ B m X W := ⟨h.os, h.tape, h.output, h.size, fun k o hk hc => h.same k o hk (hc.imp (fun h => by omega) id)⟩
theorem TurnsZ.of_below (h : Below W.heap.size W W') : TurnsZ B m W W' :=
  ⟨h.os, h.tape, h.output, h.size, fun k _ hk _ => (h.block k (Array.getElem?_eq_some_iff.1 hk).1).trans hk⟩
theorem TurnsZ.putObj (h : TurnsZ B m X W) {l : Nat} {o : Obj} (o' : Obj) (hb : B ≤ l) (hl : W.heap[l]? = some o) (ho : o.isCells = false) : TurnsZ B m X (W.putObj l o') :=
  h.trans ⟨rfl, rfl, rfl, by simp, fun k x hk hc => by
    refine (World.putObj_heap_other (fun e => ?_)).trans hk
    subst e; rw [hl] at hk; cases hk; rcases hc with hc | ⟨_, hc⟩
    · omega
    · rw [ho] at hc; cases hc⟩
theorem TurnsZ.row {g e : Nat} {xs : List Value} (h : TurnsZ B m W W') (hr : RowL W g e xs) (hb : g < B ∨ ¬ m g) : RowL W' g e xs := h.same g _ hr (hb.imp_right fun h => ⟨h, rfl⟩)
theorem TurnsZ.below (h : TurnsZ B m W W') (hn : n ≤ B) (hs : n ≤ W.heap.size) : Below n W W' := ⟨h.os, h.tape, h.output, h.size, fun k hk => by
  have hlt : k < W.heap.size := by omega
  have ho := Array.getElem?_eq_getElem hlt
  exact (h.same k _ ho (.inl (by omega))).trans ho.symm⟩
theorem AbidesZ.putObj {β : Type} {I : (Nat → Prop) → β → World → Prop} (h : AbidesZ B I) {s : β} {l : Nat} {o : Obj} (o' : Obj) (hs : I m s W) (hb : B ≤ l) (hl : W.heap[l]? = some o) (ho : o.isCells = false) : I m s (W.putObj l o') :=
  h m m s W _ hs ((TurnsZ.refl _ _ _).putObj o' hb hl ho) (fun _ hk => .inl hk)
end small
/-- WHAT AN ITERATOR'S VALUE GIVES: one of the lists of S, or a beginning of one, where a round has said 'no more'. -/
def GivesZ {α : Type} (P : Program) (g : Nat) (lb : Array Value) (encs : α → Array Value) (D : Nat → Prop) (S : List α → Prop) (w : World) : Prop :=
  ∀ (l : Nat) (J Jx : (Nat → Prop) → List α → World → Prop) (W : World), Below w.heap.size w W → (AbidesZ W.heap.size J) → (AbidesZ W.heap.size Jx) →
    (∀ m pre x W1, (∀ k, m k → W.heap.size ≤ k ∧ k < W1.heap.size) → J m pre W1 → Part S (pre ++ [x]) → YieldAt Fence.wide 3 P l (encs x) W1 fun e W' =>
      StaysZ W.heap.size m W1 W' ∧ ((e = .returned (.bool true) ∧ J m (pre ++ [x]) W' ∧ Keeps D W1 W') ∨ (e = .returned (.bool false) ∧ Jx m (pre ++ [x]) W'))) →
    (J (fun _ => False) [] W) →
    Calls P g (#[.func (.yield l) #[] #[]] ++ lb) W fun e W' => (∃ v, e = .returned v) ∧ ((∃ m xs, S xs ∧ J m xs W') ∨ (∃ m pre, Part S pre ∧ Jx m pre W'))
theorem GivesZ.later {α : Type} {P : Program} {g : Nat} {lb : Array Value} {encs : α → Array Value} {D : Nat → Prop} {S : List α → Prop} {w w' : World}
    (h : GivesZ P g lb encs D S w) (hb : Below w.heap.size w w') : GivesZ P g lb encs D S w' :=
  fun l J Jx W hW hJ hJx hY h0 => h l J Jx W (hb.trans (hW.mono hb.size)) hJ hJx hY h0
section core
variable {α : Type} {P : Program}
end core
section
variable {α γ : Type} {P : Program} {n : Nat} {D : List Deferred} {M : Slots}
end
set_option linter.unusedVariables false
set_option linter.unusedSimpArgs false
section
variable {α : Type} {enc : α → List Value} {k e B : Nat} {m : Nat → Prop} {w w' : World} {v : Value} {ts : List α}
theorem OwnsT.same {base : Nat} (h : OwnsT enc k w base e v ts) (hz : w.heap.size ≤ w'.heap.size) (hs : ∀ (g : Nat) (cs : Array Value), v.ownBlock = some g → w.heap[g]? = some (.cells cs e) → w'.heap[g]? = some (.cells cs e)) : OwnsT enc k w' base e v ts := by
  rcases id h.2 with ⟨e1, e2⟩ | ⟨g, cap, cur, rfl, hbg, hg, r⟩
  · exact ⟨h.1, .inl ⟨e1, e2⟩⟩
  · exact ⟨h.1, .inr ⟨g, cap, cur, rfl, hbg, hs g cur rfl hg, r⟩⟩
theorem OwnsT.turn {base : Nat} (h : OwnsT enc k w base e v ts) (ht : TurnsZ B m w w') (hm : ∀ g, v.ownBlock = some g → ¬ m g) : OwnsT enc k w' base e v ts :=
  h.same ht.size fun g cs hg hx => ht.same g _ hx (.inr ⟨hm g hg, rfl⟩)
theorem TurnsZ.cell {b o : Nat} {u : Value} (ht : TurnsZ B m w w') (h : w.cell? ⟨b, o, none⟩ = some u) (hb : b < B) : w'.cell? ⟨b, o, none⟩ = some u := by
  have hlt := World.block_lt_of_cell? _ _ h
  have hx := Array.getElem?_eq_getElem hlt
  exact (World.cell?_of_block ((ht.same b _ hx (.inl hb)).trans hx.symm)).trans h
theorem Reads.sameB {b off len cap : Nat} {xs : List Value} (h : Reads w (.slice (some ⟨b, off, none⟩) len cap) xs) (hz : w.heap.size ≤ w'.heap.size) (hs : ∀ o, w.heap[b]? = some o → w'.heap[b]? = some o) : Reads w' (.slice (some ⟨b, off, none⟩) len cap) xs := by
  obtain ⟨a, c, e, hc, hr⟩ := h
  refine ⟨a, c, e, hc, fun hx => ?_⟩
  obtain ⟨b', off', ea, hb, hcell⟩ := hr hx
  simp only [Value.slice.injEq] at e
  rw [← e.1] at ea
  simp only [Option.some.injEq, Addr.mk.injEq] at ea
  obtain ⟨rfl, rfl, _⟩ := ea
  refine ⟨b, off, by rw [← e.1], Nat.lt_of_lt_of_le hb hz, fun j hj => ?_⟩
  rw [← hcell j hj]
  have hx := Array.getElem?_eq_getElem hb
  exact World.cell?_of_block ((hs _ hx).trans hx.symm)
theorem Reads.turn {b off len cap : Nat} {xs : List Value} (h : Reads w (.slice (some ⟨b, off, none⟩) len cap) xs) (ht : TurnsZ B m w w') (hb : b < B) : Reads w' (.slice (some ⟨b, off, none⟩) len cap) xs :=
  h.sameB ht.size fun o ho => ht.same b o ho (.inl hb)
theorem Reads.grO {b off len cap : Nat} {r : Option Nat} {xs : List Value} (h : Reads w (.slice (some ⟨b, off, none⟩) len cap) xs) (hg : w.grownBy w' r) (hr : r ≠ some b) : Reads w' (.slice (some ⟨b, off, none⟩) len cap) xs := by
  cases r with
  | none => exact h.up (Below.of_none hg)
  | some g => exact h.gr hg (fun e => hr (by rw [e]))
theorem ReadsT.sameB {b off len cap : Nat} (h : ReadsT enc k w (.slice (some ⟨b, off, none⟩) len cap) ts) (hz : w.heap.size ≤ w'.heap.size) (hs : ∀ o, w.heap[b]? = some o → w'.heap[b]? = some o) : ReadsT enc k w' (.slice (some ⟨b, off, none⟩) len cap) ts := by
  obtain ⟨a, c, e, hc, hr⟩ := h
  refine ⟨a, c, e, hc, fun hx => ?_⟩
  obtain ⟨b', off', ea, hb, hcell⟩ := hr hx
  simp only [Value.slice.injEq] at e
  rw [← e.1] at ea
  simp only [Option.some.injEq, Addr.mk.injEq] at ea
  obtain ⟨rfl, rfl, _⟩ := ea
  refine ⟨b, off, by rw [← e.1], Nat.lt_of_lt_of_le hb hz, ?_⟩
  have hx := Array.getElem?_eq_getElem hb
  have hbk := (hs _ hx).trans hx.symm
  intro j hj
  rw [← hcell j hj]
  exact World.cell?_of_block hbk
theorem reads_cell {b off len cap j : Nat} {xs : List Value} {u : Value} (h : Reads w (.slice (some ⟨b, off, none⟩) len cap) xs) (hu : xs[j]? = some u) : w.cell? ⟨b, off + j, none⟩ = some u := by
  obtain ⟨a, c, e, hc, hr⟩ := h
  have hj := (List.getElem?_eq_some_iff.1 hu).1
  obtain ⟨b', off', ea, hb, hcell⟩ := hr (by intro h0; rw [h0] at hj; exact Nat.not_lt_zero _ hj)
  simp only [Value.slice.injEq] at e
  rw [← e.1] at ea
  simp only [Option.some.injEq, Addr.mk.injEq] at ea
  obtain ⟨rfl, rfl, _⟩ := ea
  rw [hcell j hj]
  exact hu
theorem reads_int {b off len cap j : Nat} {kk : IntKind} {ns : List Nat} {y : Nat} (h : Reads w (.slice (some ⟨b, off, none⟩) len cap) (ints kk ns)) (hy : ns[j]? = some y) : w.cell? ⟨b, off + j, none⟩ = some (.int kk (y : Int)) :=
  reads_cell h (by simp only [ints, List.getElem?_map, hy]; rfl)
/-- A write into a slice of one's own, in a round. -/
theorem StaysZ.own {base : Nat} (h : OwnsT enc k w base e v ts) (hg : w.grownBy w' v.ownBlock) (hm : ∀ g, v.ownBlock = some g → ¬ m g) : StaysZ B m w w' := by
  refine ⟨hg.size, fun j o hb hj hc => ?_⟩
  have hlt := (Array.getElem?_eq_some_iff.1 hj).1
  refine (hg.block j hlt fun ej => ?_).trans hj
  rcases id h.2 with ⟨e1, e2⟩ | ⟨g, cap, cur, rfl, hbg, hgg, r⟩
  · rw [e1] at ej; cases ej
  · have ej' : j = g := by simpa [Value.ownBlock] using ej
    subst ej'
    rcases hc with hc | hc
    · exact hm j rfl hc
    · rw [hgg] at hj; cases hj; cases hc
theorem ownsT_form {base N : Nat} (h : OwnsT enc k w base e v ts) (hN : ts.length = N) (hn : 0 < N) : ∃ g cap, v = .slice (some ⟨g, 0, none⟩) N cap ∧ base ≤ g ∧ g < w.heap.size ∧ N ≤ cap := by
  subst hN
  rcases id h.2 with ⟨rfl, e1⟩ | ⟨g, cap, cur, rfl, hbg, hg, hnc, hcm, hcs, htake⟩
  · rw [e1] at hn; exact absurd hn (Nat.lt_irrefl _)
  · exact ⟨g, cap, rfl, hbg, (Array.getElem?_eq_some_iff.1 hg).1, hnc⟩
end
set_option linter.unusedVariables false
set_option linter.unusedSimpArgs false
/-- k cells from a place on. -/
structure CellsN (w : World) (p : Addr) (k : Nat) (vs : List Value) : Prop where
  at' : Cells w p vs
  len : vs.length = k
section
variable {w w' : World} {p : Addr} {k b o : Nat} {vs : List Value} {P : Program} {t : TypeId}
theorem CellsN.lt (h : CellsN w ⟨b, o, none⟩ k vs) (hk : 0 < k) : b < w.heap.size := by
  have hl := h.len
  obtain ⟨u, hu⟩ : ∃ u, vs[0]? = some u := ⟨_, List.getElem?_eq_getElem (by omega)⟩
  have := h.at' 0 u hu
  rw [add_plain] at this
  exact World.block_lt_of_cell? _ _ this
theorem CellsN.up (h : CellsN w ⟨b, o, none⟩ k vs) (hb : Below w.heap.size w w') : CellsN w' ⟨b, o, none⟩ k vs := ⟨fun j u hu => by
  have h1 := h.at' j u hu
  rw [add_plain] at *
  exact (hb.cell (p := ⟨b, o + j, none⟩) (World.block_lt_of_cell? _ _ h1)).trans h1, h.len⟩
theorem CellsN.gr {r : Nat} (h : CellsN w ⟨b, o, none⟩ k vs) (hg : w.grownBy w' (some r)) (hne : b ≠ r) : CellsN w' ⟨b, o, none⟩ k vs := ⟨fun j u hu => by
  have h1 := h.at' j u hu
  rw [add_plain] at *
  exact (World.cell?_of_block (hg.block b (World.block_lt_of_cell? _ _ h1) (by simpa using hne))).trans h1, h.len⟩
theorem CellsN.kept {K : Nat → Prop} (h : CellsN w ⟨b, o, none⟩ k vs) (hk : Kept K w w') (hb : K b) : CellsN w' ⟨b, o, none⟩ k vs := ⟨fun j u hu => by
  have h1 := h.at' j u hu
  rw [add_plain] at *
  exact (World.cell?_of_block (hk.block b hb)).trans h1, h.len⟩
/-- A part. -/
theorem CellsN.part {us : List Value} (h : CellsN w ⟨b, o, none⟩ k vs) (c : Nat) {k' : Nat} (hu : (vs.drop c).take k' = us) (hl : c + k' ≤ k) : CellsN w ⟨b, o + c, none⟩ k' us := by
  have hv := h.len
  subst hu
  refine ⟨fun j u hj => ?_, by rw [List.length_take, List.length_drop]; omega⟩
  have hlt := (List.getElem?_eq_some_iff.1 hj).1
  rw [List.length_take, List.length_drop] at hlt
  rw [List.getElem?_take, if_pos (by omega), List.getElem?_drop] at hj
  have := h.at' _ u hj
  rw [add_plain] at *
  rw [Nat.add_assoc]
  exact this
theorem CellsN.cell {u : Value} (h : CellsN w ⟨b, o, none⟩ k vs) {j : Nat} (hu : vs[j]? = some u) : w.cell? ⟨b, o + j, none⟩ = some u := by
  have := h.at' j u hu
  rwa [add_plain] at this
theorem I.ldM (h : CellsN w p k vs) (hT : aggB P t = true) (hz : szB P t = some k) : (Instr.loadAt t (.pointer (some p))).run P w = .ok (.agg vs.toArray) w := I.ldN hT (by rw [hz, h.len]) h.at'
theorem RowL.cellsN {g e off : Nat} {xs : List Value} (h : RowL w g e xs) (hv : (xs.drop off).take k = vs) (hl : off + k ≤ xs.length) : CellsN w ⟨g, off, none⟩ k vs := by
  have hlen : vs.length = k := by rw [← hv, List.length_take, List.length_drop]; omega
  exact ⟨h.cells (by rw [hlen]; exact hv), hlen⟩
theorem RowL.elemN {α : Type} {enc : α → List Value} {g e i : Nat} {ts : List α} {x : α} (E : Enc enc k) (h : RowL w g e (ts.flatMap enc)) (hx : ts[i]? = some x) : CellsN w ⟨g, i * k, none⟩ k (enc x) := by
  have hi := (List.getElem?_eq_some_iff.1 hx).1
  have hf := E.flat ts
  have hin : i * k + k ≤ ts.length * k := by
    have : (i + 1) * k ≤ ts.length * k := Nat.mul_le_mul_right _ hi
    rw [Nat.add_mul] at this
    omega
  refine h.cellsN ?_ (by omega)
  rw [E.drop, ← Nat.one_mul k, E.take]
  rw [show ts.drop i = x :: ts.drop (i + 1) by rw [← (List.getElem?_eq_some_iff.1 hx).2]; exact List.drop_eq_getElem_cons hi]
  simp
theorem ReadsT.elemN {α : Type} {enc : α → List Value} (E : Enc enc k) {off n cap i : Nat} {ts : List α} {x : α} (h : ReadsT enc k w (.slice (some ⟨b, off, none⟩) n cap) ts) (hx : ts[i]? = some x) : CellsN w ⟨b, off + i * k, none⟩ k (enc x) := by
  obtain ⟨b', off', e, _, hc⟩ := h.get E hx
  simp only [Option.some.injEq, Addr.mk.injEq] at e
  obtain ⟨rfl, rfl, _⟩ := e
  exact ⟨hc, E.len x⟩
theorem ReadsT.kp {α : Type} {enc : α → List Value} {K : Nat → Prop} {off n cap : Nat} {ts : List α} (h : ReadsT enc k w (.slice (some ⟨b, off, none⟩) n cap) ts) (hk : Kept K w w') (hb : K b) : ReadsT enc k w' (.slice (some ⟨b, off, none⟩) n cap) ts :=
  h.sameB hk.size fun _ ho => (hk.block b hb).trans ho
end
section
variable {α : Type} {enc : α → List Value} {k : Nat} {P : Program} {w : World} {o : Oper} {n : Nat} {D : List Deferred} {M : Slots} {T e : TypeId} {z : Value} {bytes : Nat} {r : Option Nat} {ops : Array Oper} {Q : Exit → Act → World → Prop} {rest : List Oper}
theorem madeCells_rep (zs : List Value) (hk : 0 < zs.length) (m : Nat) : (madeCells zs.toArray (m * zs.length)).toList = (List.replicate m zs).flatten := by
  apply List.ext_getElem?
  intro j
  unfold madeCells
  simp only [Array.toList_map, Array.toList_range, List.getElem?_map, List.size_toArray]
  have key : ∀ (m j : Nat), (List.replicate m zs).flatten[j]? = if j < m * zs.length then zs[j % zs.length]? else none := by
    intro m
    induction m with
    | zero => intro j; simp
    | succ m ih =>
      intro j
      rw [List.replicate_succ, List.flatten_cons, List.getElem?_append]
      by_cases hj : j < zs.length
      · rw [if_pos hj, Nat.mod_eq_of_lt hj, if_pos]
        rw [Nat.add_mul]; omega
      · rw [if_neg hj, ih (j - zs.length)]
        have e1 : (j - zs.length) % zs.length = j % zs.length := by
          conv => rhs; rw [show j = (j - zs.length) + zs.length by omega, Nat.add_mod_right]
        rw [e1, Nat.add_mul]
        by_cases h2 : j - zs.length < m * zs.length
        · rw [if_pos h2, if_pos (by omega)]
        · rw [if_neg h2, if_neg (by omega)]
  rw [key]
  by_cases hj : j < m * zs.length
  · have hm : j % zs.length < zs.length := Nat.mod_lt _ hk
    rw [if_pos hj, List.getElem?_range hj, List.getElem?_eq_getElem hm]
    simp [hm]
  · rw [if_neg hj, List.getElem?_eq_none (by simpa using Nat.le_of_not_lt hj)]
    rfl
/-- make([]T, l, m) of elements of many cells. -/
theorem run_mkE {zs : List Value} (I : ElT P T e z k bytes) (hzc : z.cells = zs.toArray) (hk : 0 < k) (l m : Nat) (hl : l ≤ m) (hb : bytes * m ≤ 281474976710656) (hn : m ≤ 9223372036854775807) (w : World) :
    ∃ w', (Instr.makeSlice T (.int .i64 (l : Int)) (.int .i64 (m : Int))).run P w = .ok (.slice (some ⟨w.heap.size, 0, none⟩) l m) w' ∧ RowL w' w.heap.size e (List.replicate m zs).flatten ∧ Below w.heap.size w w' ∧ w'.heap.size = w.heap.size + 1 := by
  obtain ⟨i, hi, hz, hsz, hby⟩ := I.info
  have hm := I.many
  rw [hzc] at hm
  have hzl : zs.length = k := by simpa using hm
  have hb' : (i.bytes : Int) * (m : Int) ≤ 281474976710656 := by
    have h : ((i.bytes * m : Nat) : Int) ≤ 281474976710656 := by rw [hby]; omega
    rwa [Int.natCast_mul] at h
  have h := run_make (P := P) w T e i z I.under hi hz .i64 .i64 l m (by omega) (by omega) hb' (by omega)
  simp only [Int.toNat_natCast, hsz, hzc] at h
  refine ⟨_, h, ?_, Below.alloc0 w _, by simp⟩
  have e1 : madeCells zs.toArray (m * k) = (List.replicate m zs).flatten.toArray := by
    rw [← madeCells_rep zs (by omega) m, hzl]
  rw [e1]
  exact RowL.new w e _
theorem LL.makeE {x y : Operand} {l m : Nat} {zs : List Value} (I : ElT P T e z k bytes) (hzc : z.cells = zs.toArray) (hk : 0 < k) (ho : o.op = .makeSlice T x y) (hx : evM M x = some (.int .i64 (l : Int))) (hy : evM M y = some (.int .i64 (m : Int))) (hl : l ≤ m) (hb : bytes * m ≤ 281474976710656) (hn : m ≤ 9223372036854775807) (hd : dstB n o.dst = true) (hg : wantB ops M o.guard = some true)
    (c : ∀ w1 g, g = w.heap.size → RowL w1 g e (List.replicate m zs).flatten → w1.heap.size = g + 1 → Below w.heap.size w w1 → LL r P ops Q n D (putM M o.dst (.slice (some ⟨g, 0, none⟩) l m)) rest w1) : LL r P ops Q n D M (o :: rest) w := by
  obtain ⟨w', h1, h2, h3, h4⟩ := run_mkE I hzc hk l m hl hb hn w
  exact LL.val (R.make ho hx hy h1) hd (by rw [ho]; rfl) hg (c w' _ rfl h2 h4 h3)
end
set_option maxHeartbeats 8000000
/-- A redo, cell by cell: kind, inode, sixteen words, from, to, their keys, record, whether a directory. -/
abbrev redL (k n : Int) (a : Nat → Nat) (f t : Int) (fk tk : Nat) (r : Int) (d : Bool) : List Value := [.int .i64 k, .int .i64 n, .int .u64 (a 0 : Int), .int .u64 (a 1 : Int), .int .u64 (a 2 : Int), .int .u64 (a 3 : Int), .int .u64 (a 4 : Int), .int .u64 (a 5 : Int), .int .u64 (a 6 : Int), .int .u64 (a 7 : Int), .int .u64 (a 8 : Int), .int .u64 (a 9 : Int), .int .u64 (a 10 : Int), .int .u64 (a 11 : Int), .int .u64 (a 12 : Int), .int .u64 (a 13 : Int), .int .u64 (a 14 : Int), .int .u64 (a 15 : Int), .int .i64 f, .int .i64 t, .int .u64 (fk : Int), .int .u64 (tk : Int), .int .i64 r, .bool d]
abbrev redV (k n : Int) (a : Nat → Nat) (f t : Int) (fk tk : Nat) (r : Int) (d : Bool) : Value := .agg #[.int .i64 k, .int .i64 n, .int .u64 (a 0 : Int), .int .u64 (a 1 : Int), .int .u64 (a 2 : Int), .int .u64 (a 3 : Int), .int .u64 (a 4 : Int), .int .u64 (a 5 : Int), .int .u64 (a 6 : Int), .int .u64 (a 7 : Int), .int .u64 (a 8 : Int), .int .u64 (a 9 : Int), .int .u64 (a 10 : Int), .int .u64 (a 11 : Int), .int .u64 (a 12 : Int), .int .u64 (a 13 : Int), .int .u64 (a 14 : Int), .int .u64 (a 15 : Int), .int .i64 f, .int .i64 t, .int .u64 (fk : Int), .int .u64 (tk : Int), .int .i64 r, .bool d]
abbrev unRV (k n : Int) (a : Nat → Nat) (f t : Int) (fk tk : Nat) (r : Int) (d : Bool) (lb li lr lt : Int) (k1 k2 : Nat) (la lc ld le : Int) : Value := .agg #[.int .i64 k, .int .i64 n, .int .u64 (a 0 : Int), .int .u64 (a 1 : Int), .int .u64 (a 2 : Int), .int .u64 (a 3 : Int), .int .u64 (a 4 : Int), .int .u64 (a 5 : Int), .int .u64 (a 6 : Int), .int .u64 (a 7 : Int), .int .u64 (a 8 : Int), .int .u64 (a 9 : Int), .int .u64 (a 10 : Int), .int .u64 (a 11 : Int), .int .u64 (a 12 : Int), .int .u64 (a 13 : Int), .int .u64 (a 14 : Int), .int .u64 (a 15 : Int), .int .i64 f, .int .i64 t, .int .u64 (fk : Int), .int .u64 (tk : Int), .int .i64 r, .bool d, .int .i64 lb, .int .i64 li, .int .i64 lr, .int .i64 lt, .int .u64 (k1 : Int), .int .u64 (k2 : Int), .int .i64 la, .int .i64 lc, .int .i64 ld, .int .i64 le]
abbrev jKW (w : World) (go : Nat) (i : Nat) : Prop := i < w.heap.size ∧ i ≠ go
/-- What a refusal is. -/
abbrev jrefV (c : Int) : Value := .iface 95 (.agg #[.int .i64 c])
theorem jrefuse_F (c : Int) (w : World) : Calls Tryz.prog 37 #[.int .i64 c, .bool false] w fun x w' => x = .returned (.tuple #[]) ∧ w = w' := by
  refine X.fn Tryz.func37 rfl (n := 8) rfl rfl ?_
  refine Zr ?_; refine Zm ?_; refine Zq ?_; refine ZN ?_; refine ZK ?_; refine EE.end _ rfl rfl ?_
  exact ⟨rfl, rfl⟩
--C journal_refuse | jrefuse_T _ @w | P ⟨rfl, rfl⟩
theorem jrefuse_T (c : Int) (w : World) : Calls Tryz.prog 37 #[.int .i64 c, .bool true] w fun x w' => x = .panicked (chain1 (jrefV c)) ∧ w = w' := by
  refine X.fn Tryz.func37 rfl (n := 8) rfl rfl ?_
  refine Zr ?_; refine Zm ?_; refine Zq ?_; refine ZY ?_; refine CC.region ?_; refine Zm ?_
  refine LL.val (R.buildV rfl rfl (v := .agg #[Value.int IntKind.i64 c]) (fun _ => by kernel_rfl)) rfl rfl rfl ?_
  refine LL.val (R.mkIface rfl rfl (by kernel_rfl)) rfl rfl rfl ?_
  refine LL.panic rfl rfl rfl ?_; refine EE.pan ?_
  exact ⟨rfl, rfl⟩
--C journal_within_int | jwithin_T _ _ _ @w @p | S
theorem jwithin_T (n lo hi : Int) (w : World) (h : lo ≤ n ∧ n ≤ hi) : Calls Tryz.prog 49 #[.int .i64 n, .int .i64 lo, .int .i64 hi] w fun e w' => e = .returned (.bool true) ∧ w = w' := by
  refine X.fn Tryz.func49 rfl (n := 15) rfl rfl ?_
  refine Zr ?_; refine Za ?_; refine Zq ?_; refine Zr ?_; refine Zm ?_; refine Zm ?_; refine ZleT ?_; refine Zm ?_; refine Zm ?_; refine Zm ?_; refine ZleT ?_; refine Zp ?_; refine Za ?_; refine Zq ?_; refine ZR ?_; refine EE.ret _ rfl rfl ?_
  exact ⟨rfl, rfl⟩
--C journal_within_int | jwithin_F _ _ _ @w @p | S
theorem jwithin_F (n lo hi : Int) (w : World) (h : n < lo ∨ hi < n) : Calls Tryz.prog 49 #[.int .i64 n, .int .i64 lo, .int .i64 hi] w fun e w' => e = .returned (.bool false) ∧ w = w' := by
  by_cases h1 : n < lo
  · refine X.fn Tryz.func49 rfl (n := 15) rfl rfl ?_
    refine Zr ?_; refine Za ?_; refine Zq ?_; refine Zr ?_; refine Zm ?_; refine Zm ?_; refine ZleF ?_; refine Zm ?_; refine Zs ?_; refine Zs ?_; refine Zs ?_; refine Zp ?_; refine Za ?_; refine Zq ?_; refine ZR ?_; refine EE.ret _ rfl rfl ?_
    exact ⟨rfl, rfl⟩
  · refine X.fn Tryz.func49 rfl (n := 15) rfl rfl ?_
    refine Zr ?_; refine Za ?_; refine Zq ?_; refine Zr ?_; refine Zm ?_; refine Zm ?_; refine ZleT ?_; refine Zm ?_; refine Zm ?_; refine Zm ?_; refine ZleF ?_; refine Zp ?_; refine Za ?_; refine Zq ?_; refine ZR ?_; refine EE.ret _ rfl rfl ?_
    exact ⟨rfl, rfl⟩
/-- A word as a small number. -/
def smallZ (x : Nat) : Int := if x ≤ 2048 then (x : Int) else -1
theorem small_any (x : Nat) (w : World) (hx : x < 18446744073709551616) : Calls Tryz.prog 59 #[.int .u64 (x : Int)] w fun e w' => e = .returned (.int .i64 (smallZ x)) ∧ w = w' := by
  unfold smallZ
  by_cases h : x ≤ 2048
  · rw [if_pos h]
    refine X.fn Tryz.func59 rfl (n := 7) rfl rfl ?_
    refine Zr ?_; refine Za ?_; refine Zq ?_; refine Zc ?_; refine Zr ?_; refine Zm ?_; refine ZgtF ?_; refine Zq ?_; refine ZN ?_; refine ZK ?_; refine ZT ?_; refine Zr ?_; refine Zm ?_
    refine LL.val (R.convI rfl rfl rfl rfl (wrapI (by omega) (by omega))) rfl rfl rfl ?_
    refine Za ?_; refine Zq ?_; refine ZR ?_; refine EE.ret _ rfl rfl ?_
    exact ⟨rfl, rfl⟩
  · rw [if_neg h]
    refine X.fn Tryz.func59 rfl (n := 7) rfl rfl ?_
    refine Zr ?_; refine Za ?_; refine Zq ?_; refine Zc ?_; refine Zr ?_; refine Zm ?_; refine ZgtT ?_; refine Zq ?_; refine ZY ?_; refine Zr ?_; refine Za ?_; refine Zq ?_; refine ZR ?_; refine EE.thenR ?_; refine EE.ret _ rfl rfl ?_
    exact ⟨rfl, rfl⟩
theorem jgrd1_calm (ge : Nat) (w : World) : CallsDIn Fence.wide 2 Tryz.prog 45 [Value.pointer (some ⟨ge, 0, none⟩)].toArray .returning w fun e u' w' => (∃ v, e = .returned v) ∧ u' = .returning ∧ w = w' := by
  refine X.recovers (n := 17) (d := 4) (e := 1) Tryz.func45 rfl rfl rfl rfl rfl rfl rfl rfl rfl rfl rfl (recover_calm) ?_
  refine Zr ?_; refine Zm ?_
  refine LL.val (R.eqNilI rfl rfl (by kernel_rfl)) rfl rfl rfl ?_
  refine Zq ?_; refine ZN ?_; refine ZK ?_; refine EE.end _ rfl rfl ?_
  exact ⟨⟨_, rfl⟩, rfl, rfl⟩
theorem jgrd1_pan (c : Int) (ge : Nat) (x0 : Int) (w : World) (h2 : RowL w ge 34 [.int .i64 x0]) : CallsDIn Fence.wide 2 Tryz.prog 45 [Value.pointer (some ⟨ge, 0, none⟩)].toArray (.panicking (chain1 (jrefV c))) w fun e u' w' => (∃ v, e = .returned v) ∧ u' = .panicking [{ v := jrefV c, recovered := true }] ∧ RowL w' ge 34 [.int .i64 c] ∧ Kept (fun i => i < w.heap.size ∧ i ≠ ge) w w' := by
  refine X.recovers (n := 17) (d := 4) (e := 1) Tryz.func45 rfl rfl rfl rfl rfl rfl rfl rfl rfl rfl rfl (recover_one (jrefV c)) ?_
  have hkk := Kept.refl (fun i => i < w.heap.size ∧ i ≠ ge) w
  have lge := h2.lt; refine Zr ?_; refine Zm ?_
  refine LL.val (R.neNilI rfl rfl rfl (by kernel_rfl)) rfl rfl rfl ?_
  refine Zq ?_; refine ZY ?_; refine Zr ?_; refine Zm ?_
  refine LL.val (R.assertT rfl rfl (by kernel_rfl)) rfl rfl rfl ?_
  refine Zm ?_; refine Zx ?_; refine Zx ?_; have l1 := h2.lt
  refine LL.alloc ([.int .i64 0]) rfl rfl rfl rfl rfl ?_
  intro W3 g4 eg4 r5 z6 b2
  replace h2 := h2.up b2; replace hkk := Zh hkk b2; have y7 := hkk.size
  refine LL.storeN (vs := [.int .i64 c]) rfl rfl rfl rfl r5 (by exact Nat.le_of_ble_eq_true rfl) (ones_of rfl) rfl rfl ?_
  intro W9 r10 b8 z11
  have hlb8 := r5.lt
  replace r10 : RowL W9 _ 95 [.int .i64 c] := r10
  clear r5
  replace h2 := Zd h2 b8; replace hkk := Zo hkk b8
  have r5 := r10
  clear r10
  refine Za ?_; refine Zq ?_; refine Zc ?_; refine Zr ?_; refine Zm ?_; refine Zt ?_; refine Zq ?_; refine ZN ?_; refine ZK ?_; refine ZT ?_; refine CC.region ?_; refine Zf ?_; refine Zl r5 ?_
  refine LL.store rfl rfl rfl rfl h2 (by exact Nat.le_of_ble_eq_true rfl) rfl rfl rfl rfl ?_
  intro W13 r14 b12 z15
  have hlb12 := h2.lt
  replace r14 : RowL W13 _ 34 [.int .i64 c] := r14
  clear h2
  replace hkk := Zo hkk b12; replace r5 := Zd r5 b12
  have h2 := r14
  clear r14
  refine ZL ?_; refine EE.end _ rfl rfl ?_
  exact ⟨⟨_, rfl⟩, rfl, h2, hkk⟩
theorem jcallsA {P : Program} {f : FuncId} {a b : Array Value} {w : World} {R : Ending → World → Prop} (h : a = b) (c : Calls P f a w R) : Calls P f b w R := h ▸ c
theorem jguarded_R (F : FuncId) (cap : List Value) (eF : entB Tryz.prog F = true) (go : Nat) (Rp : Nat → World → Prop) (w : World) (hgo : go < w.heap.size)
    (hR : ∀ n X Y b, Rp n X → w.heap.size ≤ b → b < n → X.grownBy Y (some b) → Rp n Y)
    (hwork : ∀ W, Below w.heap.size w W → Calls Tryz.prog F cap.toArray W fun e W' => e = .returned (.tuple #[]) ∧ Rp W.heap.size W' ∧ Kept (jKW W go) W W') :
    Calls Tryz.prog 24 #[.func (.func F) #[] cap.toArray] w fun e w' => e = .returned (.int .i64 0) ∧ (∃ n, w.heap.size ≤ n ∧ Rp n w') ∧ Kept (jKW w go) w w' := by
  have q := Below.refl w.heap.size w
  have hkk := Kept.refl (jKW w go) w
  refine X.fnP Tryz.func24 rfl (n := 6) rfl rfl ?_
  refine Zr ?_
  refine LL.alloc ([.int .i64 0]) rfl rfl rfl rfl rfl ?_
  intro W2 g3 eg3 r4 z5 b1
  replace q := Zu q b1; replace hkk := Zh hkk b1; have y6 := hkk.size; refine Zq ?_; refine Zr ?_
  refine LL.val (R.func rfl rfl rfl) rfl rfl rfl ?_
  refine LL.defer rfl rfl rfl rfl rfl rfl ?_; refine Zq ?_; refine Zr ?_; refine Zm ?_; have lr4 := r4.lt
  refine LL.call (R.callV rfl rfl rfl eF) rfl rfl rfl (jcallsA (by simp) (hwork _ q)) ?_
  rintro e W5 ⟨rfl, hr5, t5⟩
  refine ⟨_, rfl, ?_⟩
  replace r4 := r4.kept t5 ⟨r4.lt, by omega⟩
  have zt5 := t5.size
  replace hkk := hkk.trans (t5.less fun j hj => ⟨by have := hj.1; omega, hj.2⟩)
  have hlo : w.heap.size ≤ W2.heap.size := by omega
  have hb3 : g3 < W2.heap.size := by omega
  obtain ⟨N2, hN2⟩ : ∃ N, W2.heap.size = N := ⟨_, rfl⟩
  rw [hN2] at hr5 hlo hb3
  clear t5
  refine Zq ?_; refine Zr ?_
  refine LL.store rfl rfl rfl rfl r4 (by exact Nat.le_of_ble_eq_true rfl) rfl rfl rfl rfl ?_
  intro Wa2 ra3 ba1 za4
  have hlba1 := r4.lt
  replace ra3 : RowL Wa2 _ 34 [.int .i64 0] := ra3
  clear r4
  replace hkk := Zo hkk ba1
  have r4 := ra3
  clear ra3
  refine Zq ?_; refine ZR ?_
  (refine EE.retD (by kernel_rfl) (jgrd1_calm g3 _) rfl ?_; rintro e u' W6 ⟨hv, rfl, rfl⟩; exact ⟨hv, rfl, _, ⟨_, rfl, lv1 rfl (RowL.cell r4 rfl)⟩, rfl, ⟨N2, hlo, hR N2 _ _ g3 hr5 (by omega) hb3 (by assumption)⟩, hkk⟩)
theorem jguarded_P (c : Int) (F : FuncId) (cap : List Value) (eF : entB Tryz.prog F = true) (go : Nat) (w : World) (hgo : go < w.heap.size)
    (hwork : ∀ W, Below w.heap.size w W → Calls Tryz.prog F cap.toArray W fun e W' => e = .panicked (chain1 (jrefV c)) ∧ Kept (jKW W go) W W') :
    Calls Tryz.prog 24 #[.func (.func F) #[] cap.toArray] w fun e w' => e = .returned (.int .i64 c) ∧ Kept (jKW w go) w w' := by
  have q := Below.refl w.heap.size w
  have hkk := Kept.refl (jKW w go) w
  refine X.fnP Tryz.func24 rfl (n := 6) rfl rfl ?_
  refine Zr ?_
  refine LL.alloc ([.int .i64 0]) rfl rfl rfl rfl rfl ?_
  intro W2 g3 eg3 r4 z5 b1
  replace q := Zu q b1; replace hkk := Zh hkk b1; have y6 := hkk.size; refine Zq ?_; refine Zr ?_
  refine LL.val (R.func rfl rfl rfl) rfl rfl rfl ?_
  refine LL.defer rfl rfl rfl rfl rfl rfl ?_; refine Zq ?_; refine Zr ?_; refine Zm ?_; have lr4 := r4.lt
  refine LL.callP (R.callV rfl rfl rfl eF) rfl rfl (jcallsA (by simp) (hwork _ q)) ?_
  rintro e W5 ⟨rfl, t5⟩
  refine ⟨_, rfl, ?_⟩
  replace r4 := r4.kept t5 ⟨r4.lt, by omega⟩
  have zt5 := t5.size
  replace hkk := hkk.trans (t5.less fun j hj => ⟨by have := hj.1; omega, hj.2⟩)
  refine EE.thenP ?_
  (refine EE.panD (by kernel_rfl) (jgrd1_pan c g3 _ _ r4) rfl ?_; rintro e u' W6 ⟨hv, rfl, h2, hk⟩; exact ⟨hv, rfl, _, ⟨_, rfl, lv1 rfl (RowL.cell h2 rfl)⟩, rfl, hkk.trans (hk.less fun j hj => ⟨by have := hj.1; omega, by have := hj.1; omega⟩)⟩)
set_option linter.unusedVariables false
set_option linter.unusedSimpArgs false
section
variable {P : Program} {w : World} {t : TypeId} {o : Oper} {x y : Operand} {n i : Nat} {D : List Deferred} {M : Slots} {ops : Array Oper} {ok : World → Prop} {K : Slots → World → Prop}
theorem ZR.makeMap (hi : ops[i]? = some o) (hr : Runs P n D M o w (.value (.map (some w.heap.size))) (w.alloc (.map #[] 0))) (hd : dstB n o.dst = true) (hg : wantB ops M o.guard = some true)
    (c : ∀ w1 g, g = w.heap.size → (∀ (α β : Type) (d : TypeDesc) (ke : α → Value) (ve : β → Value), MapK d ke ve w1 g 0 (fun _ => none)) → w1.heap.size = g + 1 → Below w.heap.size w w1 → ok w1 ∧ K (putM M o.dst (.map (some g))) w1) : SR P ops ok i K n D M w :=
  have h := c _ _ rfl (fun _ _ _ _ _ => (MapK.made w).2 fun _ => rfl) (by simp) (Below.alloc0 w _)
  SR.val hi hr hd hg h.1 h.2
end
set_option linter.unusedVariables false
set_option linter.unusedSimpArgs false
set_option maxRecDepth 100000
set_option maxHeartbeats 8000000
theorem jKeys : KeyE Tryz.prog 24 (.int .i64) (fun z : Int => .int .i64 z) := ⟨by kernel_rfl, fun _ => rfl, fun a b h => by
  simp only [Value.int.injEq, true_and] at h
  exact h⟩
abbrev jfnV (f : Nat) : Value := .func (.func f) #[] #[]
/-- What a kind has: how many words its body has, four functions. -/
def jkdV (x : Int × Nat × Nat × Nat × Nat) : Value := .agg #[.int .i64 x.1, jfnV x.2.1, jfnV x.2.2.1, jfnV x.2.2.2.1, jfnV x.2.2.2.2]
def jkd1 : Int × Nat × Nat × Nat × Nat := (17, 54, 55, 57, 58)
def jkd2 : Int × Nat × Nat × Nat × Nat := (7, 60, 61, 62, 63)
def jkindsF : Int → Option (Int × Nat × Nat × Nat × Nat) := putMap (putMap (fun _ => none) 1 (some jkd1)) 2 (some jkd2)
theorem jkF_1 : jkindsF 1 = some jkd1 := rfl
theorem jkF_2 : jkindsF 2 = some jkd2 := rfl
theorem jkF_no {k : Int} (h : k < 1 ∨ 2 < k) : jkindsF k = none := by
  unfold jkindsF putMap
  rw [if_neg (by omega), if_neg (by omega)]
abbrev JMap (w : World) (m n : Nat) : Prop := MapK (.int .i64) (fun z : Int => .int .i64 z) jkdV w m n jkindsF
theorem jkinds_any (w : World) : Calls Tryz.prog 38 #[] w fun e w' => ∃ m n, e = .returned (.map (some m)) ∧ JMap w' m n ∧ Below w.heap.size w w' := by
  have q := Below.refl w.heap.size w
  refine X.fn Tryz.func38 rfl (n := 5) rfl rfl ?_
  refine Zr ?_; refine Za ?_; refine Zq ?_; refine Zr ?_
  (refine LL.makeMap (R.makeMap0 rfl) rfl rfl rfl ?_; intro W25 qb eqb mk zqb b22; replace mk := mk Int (Int × Nat × Nat × Nat × Nat) (.int .i64) (fun z : Int => .int .i64 z) jkdV)
  have zb22 := b22.size; replace q := Zu q b22
  refine LL.val (R.buildV rfl rfl (v := .agg #[Value.int IntKind.i64 17, Value.func (Fn.func 54) #[] #[], Value.func (Fn.func 55) #[] #[], Value.func (Fn.func 57) #[] #[], Value.func (Fn.func 58) #[] #[]]) (fun _ => by kernel_rfl)) rfl rfl rfl ?_
  (refine LL.mput (.inr rfl) rfl jKeys rfl mk (1 : Int) jkd1 rfl rfl rfl rfl rfl ?_; intro W60 mq gr58 zz5; replace mk := mq; clear mq)
  have zgr58 := gr58.size; replace q := Zg q gr58
  refine LL.val (R.buildV rfl rfl (v := .agg #[Value.int IntKind.i64 7, Value.func (Fn.func 60) #[] #[], Value.func (Fn.func 61) #[] #[], Value.func (Fn.func 62) #[] #[], Value.func (Fn.func 63) #[] #[]]) (fun _ => by kernel_rfl)) rfl rfl rfl ?_
  (refine LL.mput (.inr rfl) rfl jKeys rfl mk (2 : Int) jkd2 rfl rfl rfl rfl rfl ?_; intro W102 mq gr100 zz5; replace mk := mq; clear mq)
  have zgr100 := gr100.size; replace q := Zg q gr100; refine Zm ?_; refine Za ?_; refine Zq ?_; refine ZR ?_; refine EE.ret _ rfl rfl ?_
  exact ⟨_, _, rfl, mk, q⟩
--C layout_Of | ly_of_T _ _ _ _ _ _ @w @p | ⟨rfl, @b⟩
--C layout_Of | ly_of_F _ _ _ _ _ _ @w @p | ⟨rfl, @b⟩
--C journal_refuse | jrefuse_F _ @w | S
--C journal_refuse | jrefuse_T _ @w | P ⟨rfl, rfl⟩
section
variable (b i r t : Int) (k1 k2 : Nat) (a c d e : Int) (w : World)
theorem jlay_T (h : isL b i r t a c d e) : Calls Tryz.prog 26 #[layV b i r t k1 k2 a c d e] w fun x w' => x = .returned (.tuple #[]) ∧ Below w.heap.size w w' := by
  have q := Below.refl w.heap.size w
  obtain ⟨hok, rfl, rfl, rfl, rfl⟩ := h
  refine X.fn Tryz.func26 rfl (n := 20) rfl rfl ?_
  refine Zr ?_
  refine LL.box [Value.int IntKind.i64 b, Value.int IntKind.i64 i, Value.int IntKind.i64 r, Value.int IntKind.i64 t, Value.int IntKind.u64 ↑k1, Value.int IntKind.u64 ↑k2, Value.int IntKind.i64 9, Value.int IntKind.i64 (9 + i / 4), Value.int IntKind.i64 (9 + i / 4 + r / 4), Value.int IntKind.i64 (10 + i / 4 + r / 4)] rfl rfl rfl rfl rfl ?_
  intro W2 g3 eg3 r4 z5 b1
  replace q := q.trans (b1.mono q.size)
  refine LL.nilS ?_; refine CC.seq ?_; refine CC.region ?_
  refine LL.val (R.field rfl rfl (I.fld rfl)) rfl rfl rfl ?_
  refine LL.val (R.load rfl rfl (I.ldNc (vs := [Value.int IntKind.i64 b, Value.int IntKind.i64 i, Value.int IntKind.i64 r, Value.int IntKind.i64 t]) (RowL.cells r4 rfl) (by rfl) (by rfl))) rfl rfl rfl ?_
  refine LL.val (R.field rfl rfl (I.fld rfl)) rfl rfl rfl ?_
  refine LL.val (R.load rfl rfl (I.ldNc (vs := [Value.int IntKind.u64 ↑k1, Value.int IntKind.u64 ↑k2]) (RowL.cells r4 rfl) (by rfl) (by rfl))) rfl rfl rfl ?_
  refine Zy (R.call rfl rfl rfl) (ly_of_T _ _ _ _ _ _ _ (by first | assumption | omega)) ?_
  rintro e W7 ⟨rfl, b6⟩
  refine ⟨_, rfl, ?_⟩; have zb6 := b6.size; replace r4 := r4.up b6; replace q := Zu q b6; refine Zm ?_; refine Zx ?_; refine Zx ?_; have l9 := r4.lt
  refine LL.alloc ([.int .i64 0, .int .i64 0, .int .i64 0, .int .i64 0, .int .u64 0, .int .u64 0, .int .i64 0, .int .i64 0, .int .i64 0, .int .i64 0]) rfl rfl rfl rfl rfl ?_
  intro W11 g12 eg12 r13 z14 b10
  replace r4 := r4.up b10; replace q := Zu q b10
  refine LL.storeN (vs := [.int .i64 b, .int .i64 i, .int .i64 r, .int .i64 t, .int .u64 ↑k1, .int .u64 ↑k2, .int .i64 9, .int .i64 (9 + i / 4), .int .i64 (9 + i / 4 + r / 4), .int .i64 (10 + i / 4 + r / 4)]) rfl rfl rfl rfl r13 (by exact Nat.le_of_ble_eq_true rfl) (ones_of rfl) rfl rfl ?_
  intro W16 r17 b15 z18
  have hlb15 := r13.lt
  replace r17 : RowL W16 _ 31 [.int .i64 b, .int .i64 i, .int .i64 r, .int .i64 t, .int .u64 ↑k1, .int .u64 ↑k2, .int .i64 9, .int .i64 (9 + i / 4), .int .i64 (9 + i / 4 + r / 4), .int .i64 (10 + i / 4 + r / 4)] := r17
  clear r13
  replace r4 := Zd r4 b15; replace q := Zg q b15
  have r13 := r17
  clear r17
  refine Za ?_; refine Zq ?_; refine CC.region ?_; refine Zm ?_; refine ZneF ?_; refine Zm ?_; refine Zv r13 ?_; refine Zv r4 ?_
  refine LL.val (R.neST (p := (b : Int) = b ∧ (i : Int) = i ∧ (r : Int) = r ∧ (t : Int) = t ∧ (↑k1 : Int) = ↑k1 ∧ (↑k2 : Int) = ↑k2 ∧ (9 : Int) = 9 ∧ (9 + i / 4 : Int) = 9 + i / 4 ∧ (9 + i / 4 + r / 4 : Int) = 9 + i / 4 + r / 4 ∧ (10 + i / 4 + r / 4 : Int) = 10 + i / 4 + r / 4) (bs := [decide ((b : Int) = b), decide ((i : Int) = i), decide ((r : Int) = r), decide ((t : Int) = t), decide ((↑k1 : Int) = ↑k1), decide ((↑k2 : Int) = ↑k2), decide ((9 : Int) = 9), decide ((9 + i / 4 : Int) = 9 + i / 4), decide ((9 + i / 4 + r / 4 : Int) = 9 + i / 4 + r / 4), decide ((10 + i / 4 + r / 4 : Int) = 10 + i / 4 + r / 4)]) rfl rfl rfl rfl (by kernel_rfl) (by kernel_rfl) (by simp) (by first | assumption | omega | exact ⟨rfl, rfl⟩ | exact fun h => h ⟨rfl, rfl⟩)) rfl rfl rfl ?_
  refine Zp ?_
  refine Zy (R.call rfl rfl rfl) (jrefuse_F _ _) ?_
  rintro e W' ⟨rfl, rfl⟩
  refine ⟨_, rfl, ?_⟩; refine LL.nil ?_; refine EE.end _ rfl rfl ?_
  exact ⟨rfl, q⟩
end
/-- No words. -/
def noA : Nat → Nat := fun _ => 0
theorem jnm1_any (k n : Int) (a : Nat → Nat) (f t : Int) (fk tk : Nat) (r : Int) (d : Bool) (w : World) : Calls Tryz.prog 54 #[redV k n a f t fk tk r d] w fun x w' => x = .returned (redV k n a 0 0 0 0 0 false) ∧ Below w.heap.size w w' := by
  have q := Below.refl w.heap.size w
  refine X.fn Tryz.func54 rfl (n := 10) rfl rfl ?_
  refine CC.seq ?_; refine CC.region ?_
  refine LL.box (redL k n a f t fk tk r d) rfl rfl rfl rfl rfl ?_
  intro W2 g3 eg3 r4 z5 b1
  replace q := Zu q b1; have l6 := r4.lt
  refine LL.alloc ([Value.int IntKind.i64 0, Value.int IntKind.i64 0, Value.int IntKind.u64 0, Value.int IntKind.u64 0, Value.int IntKind.u64 0, Value.int IntKind.u64 0, Value.int IntKind.u64 0, Value.int IntKind.u64 0, Value.int IntKind.u64 0, Value.int IntKind.u64 0, Value.int IntKind.u64 0, Value.int IntKind.u64 0, Value.int IntKind.u64 0, Value.int IntKind.u64 0, Value.int IntKind.u64 0, Value.int IntKind.u64 0, Value.int IntKind.u64 0, Value.int IntKind.u64 0, Value.int IntKind.i64 0, Value.int IntKind.i64 0, Value.int IntKind.u64 0, Value.int IntKind.u64 0, Value.int IntKind.i64 0, Value.bool false]) rfl rfl rfl rfl rfl ?_
  intro W8 g9 eg9 r10 z11 b7
  replace r4 := r4.up b7
  replace b1 := b1.trans (b7.mono b1.size)
  replace q := q.trans (b7.mono q.size)
  refine LL.nilS ?_; refine CC.seq ?_; refine CC.region ?_
  refine LL.val (R.field rfl rfl (I.fld rfl)) rfl rfl rfl ?_
  refine LL.val (R.load rfl rfl (I.ld1 rfl (RowL.cell r4 rfl))) rfl rfl rfl ?_
  refine LL.val (R.field rfl rfl (I.fld rfl)) rfl rfl rfl ?_
  refine LL.val (R.load rfl rfl (I.ld1 rfl (RowL.cell r4 rfl))) rfl rfl rfl ?_
  refine LL.val (R.field rfl rfl (I.fld rfl)) rfl rfl rfl ?_
  refine LL.val (R.load rfl rfl (I.ldNc (vs := [Value.int IntKind.u64 ↑(a 0), Value.int IntKind.u64 ↑(a 1), Value.int IntKind.u64 ↑(a 2), Value.int IntKind.u64 ↑(a 3), Value.int IntKind.u64 ↑(a 4), Value.int IntKind.u64 ↑(a 5), Value.int IntKind.u64 ↑(a 6), Value.int IntKind.u64 ↑(a 7), Value.int IntKind.u64 ↑(a 8), Value.int IntKind.u64 ↑(a 9), Value.int IntKind.u64 ↑(a 10), Value.int IntKind.u64 ↑(a 11), Value.int IntKind.u64 ↑(a 12), Value.int IntKind.u64 ↑(a 13), Value.int IntKind.u64 ↑(a 14), Value.int IntKind.u64 ↑(a 15)]) (RowL.cells r4 rfl) (by rfl) (by rfl))) rfl rfl rfl ?_
  refine LL.val (R.buildV rfl rfl (v := .agg #[Value.int IntKind.i64 k, Value.int IntKind.i64 n, Value.int IntKind.u64 ↑(a 0), Value.int IntKind.u64 ↑(a 1), Value.int IntKind.u64 ↑(a 2), Value.int IntKind.u64 ↑(a 3), Value.int IntKind.u64 ↑(a 4), Value.int IntKind.u64 ↑(a 5), Value.int IntKind.u64 ↑(a 6), Value.int IntKind.u64 ↑(a 7), Value.int IntKind.u64 ↑(a 8), Value.int IntKind.u64 ↑(a 9), Value.int IntKind.u64 ↑(a 10), Value.int IntKind.u64 ↑(a 11), Value.int IntKind.u64 ↑(a 12), Value.int IntKind.u64 ↑(a 13), Value.int IntKind.u64 ↑(a 14), Value.int IntKind.u64 ↑(a 15), Value.int IntKind.i64 0, Value.int IntKind.i64 0, Value.int IntKind.u64 0, Value.int IntKind.u64 0, Value.int IntKind.i64 0, Value.bool false]) (fun _ => by kernel_rfl)) rfl rfl rfl ?_
  refine LL.storeN (vs := (redL k n a 0 0 0 0 0 false)) rfl rfl rfl rfl r10 (by exact Nat.le_of_ble_eq_true rfl) (ones_of rfl) rfl rfl ?_
  intro W13 r14 b12 z15
  have hlb12 := r10.lt
  replace r14 : RowL W13 _ 28 (redL k n a 0 0 0 0 0 false) := r14
  clear r10
  replace r4 := Zd r4 b12; replace b1 := Zg b1 b12; replace q := Zg q b12
  have r10 := r14
  clear r14
  refine Zq ?_; refine ZR ?_
  refine EE.retC rfl rfl (lvNc (RowL.cells0 (by assumption)) (by rfl) (by rfl)) ?_
  exact ⟨rfl, q⟩
theorem jnm2_any (k n : Int) (a : Nat → Nat) (f t : Int) (fk tk : Nat) (r : Int) (d : Bool) (w : World) : Calls Tryz.prog 60 #[redV k n a f t fk tk r d] w fun x w' => x = .returned (redV k n noA f t fk tk r d) ∧ Below w.heap.size w w' := by
  have q := Below.refl w.heap.size w
  refine X.fn Tryz.func60 rfl (n := 6) rfl rfl ?_
  refine Zr ?_
  refine LL.box (redL k n a f t fk tk r d) rfl rfl rfl rfl rfl ?_
  intro W2 g3 eg3 r4 z5 b1
  replace q := Zu q b1; have l6 := r4.lt
  refine LL.alloc ((redL 0 0 noA 0 0 0 0 0 false)) rfl rfl rfl rfl rfl ?_
  intro W8 g9 eg9 r10 z11 b7
  replace r4 := r4.up b7; replace b1 := Zu b1 b7; replace q := Zu q b7; refine Zq ?_; refine Zr ?_
  refine LL.val (R.buildV rfl rfl (v := .agg #[Value.int IntKind.u64 0, Value.int IntKind.u64 0, Value.int IntKind.u64 0, Value.int IntKind.u64 0, Value.int IntKind.u64 0, Value.int IntKind.u64 0, Value.int IntKind.u64 0, Value.int IntKind.u64 0, Value.int IntKind.u64 0, Value.int IntKind.u64 0, Value.int IntKind.u64 0, Value.int IntKind.u64 0, Value.int IntKind.u64 0, Value.int IntKind.u64 0, Value.int IntKind.u64 0, Value.int IntKind.u64 0]) (fun _ => by kernel_rfl)) rfl rfl rfl ?_
  refine Zf ?_
  refine LL.storeN (vs := [.int .u64 0, .int .u64 0, .int .u64 0, .int .u64 0, .int .u64 0, .int .u64 0, .int .u64 0, .int .u64 0, .int .u64 0, .int .u64 0, .int .u64 0, .int .u64 0, .int .u64 0, .int .u64 0, .int .u64 0, .int .u64 0]) rfl rfl rfl rfl r4 (by exact Nat.le_of_ble_eq_true rfl) (ones_of rfl) rfl rfl ?_
  intro W13 r14 b12 z15
  have hlb12 := r4.lt
  replace r14 : RowL W13 _ 28 (redL k n noA f t fk tk r d) := r14
  clear r4
  replace r10 := Zd r10 b12; replace b1 := Zg b1 b12; replace q := Zg q b12
  have r4 := r14
  clear r14
  refine Zq ?_; refine CC.seq ?_; refine CC.region ?_
  refine LL.val (R.load rfl rfl (I.ldNc (vs := [Value.int IntKind.i64 k, Value.int IntKind.i64 n, Value.int IntKind.u64 0, Value.int IntKind.u64 0, Value.int IntKind.u64 0, Value.int IntKind.u64 0, Value.int IntKind.u64 0, Value.int IntKind.u64 0, Value.int IntKind.u64 0, Value.int IntKind.u64 0, Value.int IntKind.u64 0, Value.int IntKind.u64 0, Value.int IntKind.u64 0, Value.int IntKind.u64 0, Value.int IntKind.u64 0, Value.int IntKind.u64 0, Value.int IntKind.u64 0, Value.int IntKind.u64 0, Value.int IntKind.i64 f, Value.int IntKind.i64 t, Value.int IntKind.u64 ↑fk, Value.int IntKind.u64 ↑tk, Value.int IntKind.i64 r, Value.bool d]) (RowL.cells r4 rfl) (by rfl) (by rfl))) rfl rfl rfl ?_
  refine LL.storeN (vs := [Value.int IntKind.i64 k, Value.int IntKind.i64 n, Value.int IntKind.u64 0, Value.int IntKind.u64 0, Value.int IntKind.u64 0, Value.int IntKind.u64 0, Value.int IntKind.u64 0, Value.int IntKind.u64 0, Value.int IntKind.u64 0, Value.int IntKind.u64 0, Value.int IntKind.u64 0, Value.int IntKind.u64 0, Value.int IntKind.u64 0, Value.int IntKind.u64 0, Value.int IntKind.u64 0, Value.int IntKind.u64 0, Value.int IntKind.u64 0, Value.int IntKind.u64 0, Value.int IntKind.i64 f, Value.int IntKind.i64 t, Value.int IntKind.u64 ↑fk, Value.int IntKind.u64 ↑tk, Value.int IntKind.i64 r, Value.bool d]) rfl rfl rfl rfl r10 (by exact Nat.le_of_ble_eq_true rfl) (ones_of rfl) rfl rfl ?_
  intro W17 r18 b16 z19
  have hlb16 := r10.lt
  replace r18 : RowL W17 _ 28 [Value.int IntKind.i64 k, Value.int IntKind.i64 n, Value.int IntKind.u64 0, Value.int IntKind.u64 0, Value.int IntKind.u64 0, Value.int IntKind.u64 0, Value.int IntKind.u64 0, Value.int IntKind.u64 0, Value.int IntKind.u64 0, Value.int IntKind.u64 0, Value.int IntKind.u64 0, Value.int IntKind.u64 0, Value.int IntKind.u64 0, Value.int IntKind.u64 0, Value.int IntKind.u64 0, Value.int IntKind.u64 0, Value.int IntKind.u64 0, Value.int IntKind.u64 0, Value.int IntKind.i64 f, Value.int IntKind.i64 t, Value.int IntKind.u64 ↑fk, Value.int IntKind.u64 ↑tk, Value.int IntKind.i64 r, Value.bool d] := r18
  clear r10
  replace b1 := b1.grown b16 b1.size (by rintro k ⟨⟩; omega)
  replace q := q.grown b16 q.size (by rintro k ⟨⟩; omega)
  replace r4 := r4.gr b16 (by have := r4.lt; omega)
  have r10 := r18
  clear r18
  refine Zq ?_; refine ZR ?_
  refine EE.retC rfl rfl (lvNc (RowL.cells0 (by assumption)) (by rfl) (by rfl)) ?_
  exact ⟨rfl, q⟩
set_option linter.unusedVariables false
set_option linter.unusedSimpArgs false
abbrev Bs := List UInt8
abbrev strV (l : Bs) : Value := .string ⟨l.toArray⟩
theorem bs_list (l : Bs) : (⟨l.toArray⟩ : ByteArray).toList = l := by rw [ByteArray.toList_eq]
section
variable {P : Program} {w : World} {o : Oper} {n : Nat} {D : List Deferred} {M : Slots} {x y : Operand} {t u : TypeId} {a b : Bs} {i : Nat}
theorem R.eqS {c : Bool} (ho : o.op = .binOp .eql t x y u) (hx : evM M x = some (strV a)) (hy : evM M y = some (strV b)) (hc : decide (a = b) = c) : Runs P n D M o w (.value (.bool c)) w :=
  R.eqStr ho hx hy (by rw [bs_list, bs_list, ← hc, Bool.eq_iff_iff]; simp)
theorem I.ixStr {c : UInt8} (ht : isStr P t = true) (hi : a[i]? = some c) : (Instr.index t (strV a) (.int .i64 (i : Int))).run P w = .ok (.int .u8 (c.toNat : Int)) w := by
  unfold isStr at ht
  cases hu : P.underlying t with
  | none => rw [hu] at ht; cases ht
  | some d =>
    rw [hu] at ht
    cases d <;> try (cases ht; done)
    have hg : (⟨a.toArray⟩ : ByteArray)[i]? = some c := by
      have hlt := (List.getElem?_eq_some_iff.1 hi)
      obtain ⟨h1, h2⟩ := hlt
      have hs : i < (⟨a.toArray⟩ : ByteArray).size := by simpa [ByteArray.size] using h1
      rw [getElem?_pos _ i hs]
      congr 1
    have h0 : (0 : Int) ≤ (i : Int) := by omega
    simp [Instr.index, asIntOf, run_underlying hu, h0, hg]
theorem R.ixS {c : UInt8} (ho : o.op = .index t x y) (hx : evM M x = some (strV a)) (hy : evM M y = some (.int .i64 (i : Int))) (ht : isStr P t = true) (hi : a[i]? = some c) : Runs P n D M o w (.value (.int .u8 (c.toNat : Int))) w :=
  R.indexV ho hx hy (I.ixStr ht hi)
theorem R.lenS {xs : Array Operand} {ts : Array TypeId} (ho : o.op = .call { callee := .builtin .len, args := xs, argTypes := ts }) (hx : evsM M xs.toList = some [strV a]) (ht : ts[0]? = some t) (h : lenB P t (strV a) = some a.length) : Runs P n D M o w (.value (.int .i64 (a.length : Int))) w := R.len ho hx ht h
end
set_option linter.unusedVariables false
set_option linter.unusedSimpArgs false
/-- A string's bytes, as numbers. -/
def nbL (l : Bs) : List Nat := l.map UInt8.toNat
theorem nbL_len (l : Bs) : (nbL l).length = l.length := by simp [nbL]
theorem nbL_lt (l : Bs) : ∀ x ∈ nbL l, x < 256 := by
  intro x hx
  obtain ⟨c, _, rfl⟩ := List.mem_map.1 hx
  exact c.toNat_lt
section
variable {P : Program} {w : World} {t u e : TypeId} {ud : TypeDesc} {o : Oper} {x y : Operand} {n i : Nat} {D : List Deferred} {M : Slots} {ops : Array Oper} {rest : List Oper} {r : Option Nat} {Q : Exit → Act → World → Prop} {ok : World → Prop} {K : Slots → World → Prop}
theorem conv_bytes (l : Bs) (hs : P.underlying t = some ud) (hd : P.underlying u = some (.slice e)) (he : P.underlying e = some (.int .u8)) : ∃ v w1, (convert t u (strV l)).run P w = .ok v w1 ∧ Reads w1 v (ints .u8 (nbL l)) ∧ Below w.heap.size w w1 ∧ ∃ c, v = .slice (some ⟨w.heap.size, 0, none⟩) l.length c := by
  refine ⟨_, _, Lib.run_convert_string_bytes w t u e ⟨l.toArray⟩ hs hd he, ?_, ?_, _, rfl⟩
  · refine ⟨some ⟨w.heap.size, 0, none⟩, grownCap w l.length 0 e, by simp [nbL, ByteArray.size], ?_, fun _ => ⟨w.heap.size, 0, rfl, ?_, fun j hj => ?_⟩⟩
    · simp only [List.length_map, nbL_len]
      exact grownCap_ge w l.length 0 e
    · rw [Lib.bytesWorld_size]; omega
    · simp only [List.length_map, nbL_len] at hj
      have := Lib.bytesWorld_cell w e ⟨l.toArray⟩ j (by simpa [ByteArray.size] using hj)
      rw [Nat.zero_add, this]
      simp [ints, nbL, hj]
  · exact ⟨rfl, rfl, rfl, by rw [Lib.bytesWorld_size]; omega, fun k hk => Lib.bytesWorld_at_old w e _ k hk⟩
theorem LL.strBytes (l : Bs) (ho : o.op = .convert t u x) (hx : evM M x = some (strV l)) (hs : P.underlying t = some ud) (hd : P.underlying u = some (.slice e)) (he : P.underlying e = some (.int .u8)) (hdst : dstB n o.dst = true) (hg : wantB ops M o.guard = some true)
    (k : ∀ v w1 c, v = .slice (some ⟨w.heap.size, 0, none⟩) l.length c → Reads w1 v (ints .u8 (nbL l)) → Below w.heap.size w w1 → LL r P ops Q n D (putM M o.dst v) rest w1) : LL r P ops Q n D M (o :: rest) w := by
  obtain ⟨v, w1, h1, h2, h3, c, h4⟩ := conv_bytes (w := w) l hs hd he
  exact LL.val (R.conv ho hx h1) hdst (by rw [ho]; rfl) hg (k v w1 c h4 h2 h3)
theorem ZR.strBytes (l : Bs) (hi : ops[i]? = some o) (ho : o.op = .convert t u x) (hx : evM M x = some (strV l)) (hs : P.underlying t = some ud) (hd : P.underlying u = some (.slice e)) (he : P.underlying e = some (.int .u8)) (hdst : dstB n o.dst = true) (hg : wantB ops M o.guard = some true)
    (k : ∀ v w1 c, v = .slice (some ⟨w.heap.size, 0, none⟩) l.length c → Reads w1 v (ints .u8 (nbL l)) → Below w.heap.size w w1 → ok w1 ∧ K (putM M o.dst v) w1) : SR P ops ok i K n D M w := by
  obtain ⟨v, w1, h1, h2, h3, c, h4⟩ := conv_bytes (w := w) l hs hd he
  have h := k v w1 c h4 h2 h3
  exact SR.val hi (R.conv ho hx h1) hdst hg h.1 h.2
/-- A shift to the left that loses nothing. -/
theorem R.shlE {a : Nat} {b z : Nat} {k2 : IntKind} (ho : o.op = .binOp .shl t x y u) (hx : evM M x = some (.int .u64 (a : Int))) (hy : evM M y = some (.int k2 (b : Int))) (hb : b < 64) (hz : a * 2 ^ b = z) (hl : z < 18446744073709551616) : Runs P n D M o w (.value (.int .u64 (z : Int))) w := R.bin ho hx hy (by
  subst hz
  have h1 : ¬ ((b : Int) < 0) := by omega
  have h2 : Nat.min b 64 = b := Nat.min_eq_left (by omega)
  have h5 : ((a : Int) * (2 : Int) ^ b) = ((a * 2 ^ b : Nat) : Int) := by simp
  have h4 : IntKind.u64.wrap ((a : Int) * (2 : Int) ^ b) = (a : Int) * (2 : Int) ^ b := by
    rw [h5]
    obtain ⟨q, hq⟩ : ∃ q : Nat, a * 2 ^ b = q := ⟨_, rfl⟩
    rw [hq] at hl ⊢
    exact IntWalk.u64_in _ (by omega)
  simp [eqGuard, binOp, Op.shift, h1, IntKind.bits, h2, h4])
theorem R.orE {a b z : Nat} (ho : o.op = .binOp .or t x y u) (hx : evM M x = some (.int .u64 (a : Int))) (hy : evM M y = some (.int .u64 (b : Int))) (ha : a < 18446744073709551616) (hb : b < 18446744073709551616) (hz : a ||| b = z) : Runs P n D M o w (.value (.int .u64 (z : Int))) w := by
  subst hz
  exact R.orU ho hx hy ha hb
theorem Reads.kept {w' : World} {K : Nat → Prop} {b off len cap : Nat} {xs : List Value} (h : Reads w (.slice (some ⟨b, off, none⟩) len cap) xs) (hk : Kept K w w') (hb : K b) : Reads w' (.slice (some ⟨b, off, none⟩) len cap) xs := by
  obtain ⟨a, c, e, hc, hr⟩ := h
  refine ⟨a, c, e, hc, fun hx => ?_⟩
  obtain ⟨b', off', ea, hbl, hcell⟩ := hr hx
  simp only [Value.slice.injEq] at e
  rw [← e.1] at ea
  simp only [Option.some.injEq, Addr.mk.injEq] at ea
  obtain ⟨rfl, rfl, _⟩ := ea
  refine ⟨b, off, by rw [← e.1], Nat.lt_of_lt_of_le hbl hk.size, fun j hj => ?_⟩
  rw [← hcell j hj]
  exact World.cell?_of_block (hk.block b hb)
/-- A slice of one's own, of elements of one cell: told so that it is carried. -/
def OwnW (w : World) (base e : Nat) (v : Value) (m : Nat) (xs : List Value) : Prop := w.ownsRow base e 1 v m xs
theorem OwnW.up {w' : World} {base e m : Nat} {v : Value} {xs : List Value} (h : OwnW w base e v m xs) (hb : Below w.heap.size w w') : OwnW w' base e v m xs := by
  refine ⟨h.1, ?_⟩
  rcases h.2 with h2 | ⟨g', cap, cur, rfl, hbg, hg, h3⟩
  · exact .inl h2
  · exact .inr ⟨g', cap, cur, rfl, hbg, (hb.block g' (Array.getElem?_eq_some_iff.1 hg).1).trans hg, h3⟩
theorem OwnW.low {base base' e m : Nat} {v : Value} {xs : List Value} (h : OwnW w base' e v m xs) (hb : base ≤ base') : OwnW w base e v m xs := by
  refine ⟨h.1, ?_⟩
  rcases h.2 with h2 | ⟨g', cap, cur, rfl, hbg, h3⟩
  · exact .inl h2
  · exact .inr ⟨g', cap, cur, rfl, by omega, h3⟩
theorem OwnW.reads {base e m : Nat} {v : Value} {xs : List Value} (h : OwnW w base e v m xs) : Reads w v xs := reads_of_owns h
variable {T : TypeId} {z : Value} {bytes : Nat}
/-- append(s, x...) onto a row that is known. -/
theorem LL.appendL {xs : Array Operand} {g : Nat} {vx : Value} {us ys : List Value} (ho : o.op = .call { callee := .builtin .append, args := xs, argTypes := #[T, T] }) (hx : evsM M xs.toList = some [.slice (some ⟨g, 0, none⟩) us.length us.length, vx]) (I : El P T e z bytes) (hrow : RowL w g e us) (hr : Reads w vx ys) (hone : ∀ u ∈ ys, u.oneCell' = true)
    (h63 : us.length + ys.length ≤ maxLen) (hb : (us.length + ys.length) * bytes ≤ 140737488355328) (hd : dstB n o.dst = true) (hg : wantB ops M o.guard = some true)
    (k : ∀ v' w1, OwnW w1 g e v' (us.length + ys.length) (us ++ ys) → w.grownBy w1 (some g) → LL r P ops Q n D (putM M o.dst v') rest w1) : LL r P ops Q n D M (o :: rest) w :=
  LL.append ho hx I (RowL.owns (base := g) hrow (Nat.le_refl _) (by omega)) hr hone h63 hb (Nat.le_of_lt hrow.lt) hd hg fun v' w1 o1 g1 => k v' w1 o1 g1
theorem ZR.appendL {xs : Array Operand} {g : Nat} {vx : Value} {us ys : List Value} (hi : ops[i]? = some o) (ho : o.op = .call { callee := .builtin .append, args := xs, argTypes := #[T, T] }) (hx : evsM M xs.toList = some [.slice (some ⟨g, 0, none⟩) us.length us.length, vx]) (I : El P T e z bytes) (hrow : RowL w g e us) (hr : Reads w vx ys) (hone : ∀ u ∈ ys, u.oneCell' = true)
    (h63 : us.length + ys.length ≤ maxLen) (hb : (us.length + ys.length) * bytes ≤ 140737488355328) (hd : dstB n o.dst = true) (hg : wantB ops M o.guard = some true)
    (k : ∀ v' w1, OwnW w1 g e v' (us.length + ys.length) (us ++ ys) → w.grownBy w1 (some g) → ok w1 ∧ K (putM M o.dst v') w1) : SR P ops ok i K n D M w :=
  ZR.append hi ho hx I (RowL.owns (base := g) hrow (Nat.le_refl _) (by omega)) hr hone h63 hb (Nat.le_of_lt hrow.lt) hd hg fun v' w1 o1 g1 => k v' w1 o1 g1
end
def okNm (f t : Int) (fk tk : Nat) (r li lr : Int) : Prop := (1 ≤ f ∧ f ≤ li) ∧ (1 ≤ t ∧ t ≤ li) ∧ (1 ≤ r ∧ r ≤ lr) ∧ (f ≠ t ∨ fk ≠ tk)
theorem jmay2_T (k n : Int) (a : Nat → Nat) (f t : Int) (fk tk : Nat) (r : Int) (d : Bool) (lb li lr lt : Int) (k1 k2 : Nat) (la lc ld le : Int) (w : World) (h : okNm f t fk tk r li lr) : Calls Tryz.prog 61 #[unRV k n a f t fk tk r d lb li lr lt k1 k2 la lc ld le] w fun x w' => x = .returned (.bool true) ∧ Below w.heap.size w w' := by
  have q := Below.refl w.heap.size w
  obtain ⟨h1, h2, h3, h4⟩ := h
  by_cases hft : f = t
  · have h5 : fk ≠ tk := h4.resolve_left (fun e => e hft)
    subst hft
    clear h4
    refine X.fn Tryz.func61 rfl (n := 48) rfl rfl ?_
    refine Zr ?_
    refine LL.box [.int .i64 k, .int .i64 n, .int .u64 ↑(a 0), .int .u64 ↑(a 1), .int .u64 ↑(a 2), .int .u64 ↑(a 3), .int .u64 ↑(a 4), .int .u64 ↑(a 5), .int .u64 ↑(a 6), .int .u64 ↑(a 7), .int .u64 ↑(a 8), .int .u64 ↑(a 9), .int .u64 ↑(a 10), .int .u64 ↑(a 11), .int .u64 ↑(a 12), .int .u64 ↑(a 13), .int .u64 ↑(a 14), .int .u64 ↑(a 15), .int .i64 f, .int .i64 f, .int .u64 ↑fk, .int .u64 ↑tk, .int .i64 r, .bool d, .int .i64 lb, .int .i64 li, .int .i64 lr, .int .i64 lt, .int .u64 ↑k1, .int .u64 ↑k2, .int .i64 la, .int .i64 lc, .int .i64 ld, .int .i64 le] rfl rfl rfl rfl rfl ?_
    intro W2 g3 eg3 r4 z5 b1
    replace q := Zu q b1; refine Za ?_; refine Zq ?_; refine Zr ?_; refine Zf ?_; refine Zf ?_; refine Zf ?_; refine Zl r4 ?_; refine Za ?_; refine Zq ?_; refine Zr ?_; refine Zf ?_; refine Zf ?_; refine Zl r4 ?_; refine Zm ?_
    refine Zy (R.call rfl rfl rfl) (jwithin_T _ _ _ _ (by first | assumption | omega)) ?_
    rintro e W' ⟨rfl, rfl⟩
    refine ⟨_, rfl, ?_⟩; refine Zm ?_; refine Zf ?_; refine Zf ?_; refine Zl r4 ?_; refine Zm ?_
    refine Zy (R.call rfl rfl rfl) (jwithin_T _ _ _ _ (by first | assumption | omega)) ?_
    rintro e W' ⟨rfl, rfl⟩
    refine ⟨_, rfl, ?_⟩; refine Zp ?_; refine Zm ?_; refine Zf ?_; refine Zf ?_; refine Zl r4 ?_; refine Zf ?_; refine Zf ?_; refine Zf ?_; refine Zl r4 ?_
    refine Zy (R.call rfl rfl rfl) (jwithin_T _ _ _ _ (by first | assumption | omega)) ?_
    rintro e W' ⟨rfl, rfl⟩
    refine ⟨_, rfl, ?_⟩; refine Zp ?_; refine Zm ?_; refine Zf ?_; refine Zf ?_; refine Zl r4 ?_; refine Zf ?_; refine Zf ?_; refine Zl r4 ?_; refine ZneF ?_; refine Zm ?_; refine Zf ?_; refine Zf ?_; refine Zl r4 ?_; refine Zf ?_; refine Zf ?_; refine Zl r4 ?_; refine ZneT ?_; refine Zp ?_; refine Zp ?_; refine Za ?_; refine Zq ?_; refine ZR ?_; refine EE.ret _ rfl rfl ?_
    exact ⟨rfl, q⟩
  · clear h4
    refine X.fn Tryz.func61 rfl (n := 48) rfl rfl ?_
    refine Zr ?_
    refine LL.box [.int .i64 k, .int .i64 n, .int .u64 ↑(a 0), .int .u64 ↑(a 1), .int .u64 ↑(a 2), .int .u64 ↑(a 3), .int .u64 ↑(a 4), .int .u64 ↑(a 5), .int .u64 ↑(a 6), .int .u64 ↑(a 7), .int .u64 ↑(a 8), .int .u64 ↑(a 9), .int .u64 ↑(a 10), .int .u64 ↑(a 11), .int .u64 ↑(a 12), .int .u64 ↑(a 13), .int .u64 ↑(a 14), .int .u64 ↑(a 15), .int .i64 f, .int .i64 t, .int .u64 ↑fk, .int .u64 ↑tk, .int .i64 r, .bool d, .int .i64 lb, .int .i64 li, .int .i64 lr, .int .i64 lt, .int .u64 ↑k1, .int .u64 ↑k2, .int .i64 la, .int .i64 lc, .int .i64 ld, .int .i64 le] rfl rfl rfl rfl rfl ?_
    intro Wa2 ga3 ega3 ra4 za5 ba1
    replace q := Zu q ba1; refine Za ?_; refine Zq ?_; refine Zr ?_; refine Zf ?_; refine Zf ?_; refine Zf ?_; refine Zl ra4 ?_; refine Za ?_; refine Zq ?_; refine Zr ?_; refine Zf ?_; refine Zf ?_; refine Zl ra4 ?_; refine Zm ?_
    refine Zy (R.call rfl rfl rfl) (jwithin_T _ _ _ _ (by first | assumption | omega)) ?_
    rintro e W' ⟨rfl, rfl⟩
    refine ⟨_, rfl, ?_⟩; refine Zm ?_; refine Zf ?_; refine Zf ?_; refine Zl ra4 ?_; refine Zm ?_
    refine Zy (R.call rfl rfl rfl) (jwithin_T _ _ _ _ (by first | assumption | omega)) ?_
    rintro e W' ⟨rfl, rfl⟩
    refine ⟨_, rfl, ?_⟩; refine Zp ?_; refine Zm ?_; refine Zf ?_; refine Zf ?_; refine Zl ra4 ?_; refine Zf ?_; refine Zf ?_; refine Zf ?_; refine Zl ra4 ?_
    refine Zy (R.call rfl rfl rfl) (jwithin_T _ _ _ _ (by first | assumption | omega)) ?_
    rintro e W' ⟨rfl, rfl⟩
    refine ⟨_, rfl, ?_⟩; refine Zp ?_; refine Zm ?_; refine Zf ?_; refine Zf ?_; refine Zl ra4 ?_; refine Zf ?_; refine Zf ?_; refine Zl ra4 ?_; refine ZneT ?_; refine Zm ?_; refine Zs ?_; refine Zs ?_; refine Zs ?_; refine Zs ?_; refine Zs ?_; refine Zs ?_; refine Zs ?_; refine Zp ?_; refine Zp ?_; refine Za ?_; refine Zq ?_; refine ZR ?_; refine EE.ret _ rfl rfl ?_
    exact ⟨rfl, q⟩
theorem jmay2_F (k n : Int) (a : Nat → Nat) (f t : Int) (fk tk : Nat) (r : Int) (d : Bool) (lb li lr lt : Int) (k1 k2 : Nat) (la lc ld le : Int) (w : World) (h : ¬okNm f t fk tk r li lr) : Calls Tryz.prog 61 #[unRV k n a f t fk tk r d lb li lr lt k1 k2 la lc ld le] w fun x w' => x = .returned (.bool false) ∧ Below w.heap.size w w' := by
  have q := Below.refl w.heap.size w
  by_cases h1 : 1 ≤ f ∧ f ≤ li
  case neg =>
    have h1' : f < 1 ∨ li < f := by omega
    clear h
    refine X.fn Tryz.func61 rfl (n := 48) rfl rfl ?_
    refine Zr ?_
    refine LL.box [.int .i64 k, .int .i64 n, .int .u64 ↑(a 0), .int .u64 ↑(a 1), .int .u64 ↑(a 2), .int .u64 ↑(a 3), .int .u64 ↑(a 4), .int .u64 ↑(a 5), .int .u64 ↑(a 6), .int .u64 ↑(a 7), .int .u64 ↑(a 8), .int .u64 ↑(a 9), .int .u64 ↑(a 10), .int .u64 ↑(a 11), .int .u64 ↑(a 12), .int .u64 ↑(a 13), .int .u64 ↑(a 14), .int .u64 ↑(a 15), .int .i64 f, .int .i64 t, .int .u64 ↑fk, .int .u64 ↑tk, .int .i64 r, .bool d, .int .i64 lb, .int .i64 li, .int .i64 lr, .int .i64 lt, .int .u64 ↑k1, .int .u64 ↑k2, .int .i64 la, .int .i64 lc, .int .i64 ld, .int .i64 le] rfl rfl rfl rfl rfl ?_
    intro W2 g3 eg3 r4 z5 b1
    replace q := Zu q b1; refine Za ?_; refine Zq ?_; refine Zr ?_; refine Zf ?_; refine Zf ?_; refine Zf ?_; refine Zl r4 ?_; refine Za ?_; refine Zq ?_; refine Zr ?_; refine Zf ?_; refine Zf ?_; refine Zl r4 ?_; refine Zm ?_
    refine Zy (R.call rfl rfl rfl) (jwithin_F _ _ _ _ (by first | assumption | omega)) ?_
    rintro e W' ⟨rfl, rfl⟩
    refine ⟨_, rfl, ?_⟩; refine Zm ?_; refine Zs ?_; refine Zs ?_; refine Zs ?_; refine Zs ?_; refine Zs ?_; refine Zp ?_; refine Zm ?_; refine Zs ?_; refine Zs ?_; refine Zs ?_; refine Zs ?_; refine Zs ?_; refine Zs ?_; refine Zs ?_; refine Zs ?_; refine Zp ?_; refine Zm ?_; refine Zs ?_; refine Zs ?_; refine Zs ?_; refine Zs ?_; refine Zs ?_; refine Zs ?_; refine Zs ?_; refine Zs ?_; refine Zs ?_
    refine Zs ?_; refine Zs ?_; refine Zs ?_; refine Zs ?_; refine Zs ?_; refine Zs ?_; refine Zs ?_; refine Zp ?_; refine Za ?_; refine Zq ?_; refine ZR ?_; refine EE.ret _ rfl rfl ?_
    exact ⟨rfl, q⟩
  by_cases h2 : 1 ≤ t ∧ t ≤ li
  case neg =>
    have h2' : t < 1 ∨ li < t := by omega
    clear h
    refine X.fn Tryz.func61 rfl (n := 48) rfl rfl ?_
    refine Zr ?_
    refine LL.box [.int .i64 k, .int .i64 n, .int .u64 ↑(a 0), .int .u64 ↑(a 1), .int .u64 ↑(a 2), .int .u64 ↑(a 3), .int .u64 ↑(a 4), .int .u64 ↑(a 5), .int .u64 ↑(a 6), .int .u64 ↑(a 7), .int .u64 ↑(a 8), .int .u64 ↑(a 9), .int .u64 ↑(a 10), .int .u64 ↑(a 11), .int .u64 ↑(a 12), .int .u64 ↑(a 13), .int .u64 ↑(a 14), .int .u64 ↑(a 15), .int .i64 f, .int .i64 t, .int .u64 ↑fk, .int .u64 ↑tk, .int .i64 r, .bool d, .int .i64 lb, .int .i64 li, .int .i64 lr, .int .i64 lt, .int .u64 ↑k1, .int .u64 ↑k2, .int .i64 la, .int .i64 lc, .int .i64 ld, .int .i64 le] rfl rfl rfl rfl rfl ?_
    intro Wa2 ga3 ega3 ra4 za5 ba1
    replace q := Zu q ba1; refine Za ?_; refine Zq ?_; refine Zr ?_; refine Zf ?_; refine Zf ?_; refine Zf ?_; refine Zl ra4 ?_; refine Za ?_; refine Zq ?_; refine Zr ?_; refine Zf ?_; refine Zf ?_; refine Zl ra4 ?_; refine Zm ?_
    refine Zy (R.call rfl rfl rfl) (jwithin_T _ _ _ _ (by first | assumption | omega)) ?_
    rintro e W' ⟨rfl, rfl⟩
    refine ⟨_, rfl, ?_⟩; refine Zm ?_; refine Zf ?_; refine Zf ?_; refine Zl ra4 ?_; refine Zm ?_
    refine Zy (R.call rfl rfl rfl) (jwithin_F _ _ _ _ (by first | assumption | omega)) ?_
    rintro e W' ⟨rfl, rfl⟩
    refine ⟨_, rfl, ?_⟩; refine Zp ?_; refine Zm ?_; refine Zs ?_; refine Zs ?_; refine Zs ?_; refine Zs ?_; refine Zs ?_; refine Zs ?_; refine Zs ?_; refine Zs ?_; refine Zp ?_; refine Zm ?_; refine Zs ?_; refine Zs ?_; refine Zs ?_; refine Zs ?_; refine Zs ?_; refine Zs ?_; refine Zs ?_; refine Zs ?_; refine Zs ?_; refine Zs ?_; refine Zs ?_; refine Zs ?_; refine Zs ?_; refine Zs ?_; refine Zs ?_
    refine Zs ?_; refine Zp ?_; refine Za ?_; refine Zq ?_; refine ZR ?_; refine EE.ret _ rfl rfl ?_
    exact ⟨rfl, q⟩
  by_cases h3 : 1 ≤ r ∧ r ≤ lr
  case neg =>
    have h3' : r < 1 ∨ lr < r := by omega
    clear h
    refine X.fn Tryz.func61 rfl (n := 48) rfl rfl ?_
    refine Zr ?_
    refine LL.box [.int .i64 k, .int .i64 n, .int .u64 ↑(a 0), .int .u64 ↑(a 1), .int .u64 ↑(a 2), .int .u64 ↑(a 3), .int .u64 ↑(a 4), .int .u64 ↑(a 5), .int .u64 ↑(a 6), .int .u64 ↑(a 7), .int .u64 ↑(a 8), .int .u64 ↑(a 9), .int .u64 ↑(a 10), .int .u64 ↑(a 11), .int .u64 ↑(a 12), .int .u64 ↑(a 13), .int .u64 ↑(a 14), .int .u64 ↑(a 15), .int .i64 f, .int .i64 t, .int .u64 ↑fk, .int .u64 ↑tk, .int .i64 r, .bool d, .int .i64 lb, .int .i64 li, .int .i64 lr, .int .i64 lt, .int .u64 ↑k1, .int .u64 ↑k2, .int .i64 la, .int .i64 lc, .int .i64 ld, .int .i64 le] rfl rfl rfl rfl rfl ?_
    intro Wb2 gb3 egb3 rb4 zb5 bb1
    replace q := Zu q bb1; refine Za ?_; refine Zq ?_; refine Zr ?_; refine Zf ?_; refine Zf ?_; refine Zf ?_; refine Zl rb4 ?_; refine Za ?_; refine Zq ?_; refine Zr ?_; refine Zf ?_; refine Zf ?_; refine Zl rb4 ?_; refine Zm ?_
    refine Zy (R.call rfl rfl rfl) (jwithin_T _ _ _ _ (by first | assumption | omega)) ?_
    rintro e W' ⟨rfl, rfl⟩
    refine ⟨_, rfl, ?_⟩; refine Zm ?_; refine Zf ?_; refine Zf ?_; refine Zl rb4 ?_; refine Zm ?_
    refine Zy (R.call rfl rfl rfl) (jwithin_T _ _ _ _ (by first | assumption | omega)) ?_
    rintro e W' ⟨rfl, rfl⟩
    refine ⟨_, rfl, ?_⟩; refine Zp ?_; refine Zm ?_; refine Zf ?_; refine Zf ?_; refine Zl rb4 ?_; refine Zf ?_; refine Zf ?_; refine Zf ?_; refine Zl rb4 ?_
    refine Zy (R.call rfl rfl rfl) (jwithin_F _ _ _ _ (by first | assumption | omega)) ?_
    rintro e W' ⟨rfl, rfl⟩
    refine ⟨_, rfl, ?_⟩; refine Zp ?_; refine Zm ?_; refine Zs ?_; refine Zs ?_; refine Zs ?_; refine Zs ?_; refine Zs ?_; refine Zs ?_; refine Zs ?_; refine Zs ?_; refine Zs ?_; refine Zs ?_; refine Zs ?_; refine Zs ?_; refine Zs ?_; refine Zs ?_; refine Zs ?_; refine Zs ?_; refine Zp ?_; refine Za ?_; refine Zq ?_; refine ZR ?_; refine EE.ret _ rfl rfl ?_
    exact ⟨rfl, q⟩
  have h4 : f = t ∧ fk = tk := by
    refine ⟨Classical.not_not.1 fun e => h ⟨h1, h2, h3, .inl e⟩, Classical.not_not.1 fun e => h ⟨h1, h2, h3, .inr e⟩⟩
  obtain ⟨rfl, rfl⟩ := h4
  clear h
  refine X.fn Tryz.func61 rfl (n := 48) rfl rfl ?_
  refine Zr ?_
  refine LL.box [.int .i64 k, .int .i64 n, .int .u64 ↑(a 0), .int .u64 ↑(a 1), .int .u64 ↑(a 2), .int .u64 ↑(a 3), .int .u64 ↑(a 4), .int .u64 ↑(a 5), .int .u64 ↑(a 6), .int .u64 ↑(a 7), .int .u64 ↑(a 8), .int .u64 ↑(a 9), .int .u64 ↑(a 10), .int .u64 ↑(a 11), .int .u64 ↑(a 12), .int .u64 ↑(a 13), .int .u64 ↑(a 14), .int .u64 ↑(a 15), .int .i64 f, .int .i64 f, .int .u64 ↑fk, .int .u64 ↑fk, .int .i64 r, .bool d, .int .i64 lb, .int .i64 li, .int .i64 lr, .int .i64 lt, .int .u64 ↑k1, .int .u64 ↑k2, .int .i64 la, .int .i64 lc, .int .i64 ld, .int .i64 le] rfl rfl rfl rfl rfl ?_
  intro Wc2 gc3 egc3 rc4 zc5 bc1
  replace q := Zu q bc1; refine Za ?_; refine Zq ?_; refine Zr ?_; refine Zf ?_; refine Zf ?_; refine Zf ?_; refine Zl rc4 ?_; refine Za ?_; refine Zq ?_; refine Zr ?_; refine Zf ?_; refine Zf ?_; refine Zl rc4 ?_; refine Zm ?_
  refine Zy (R.call rfl rfl rfl) (jwithin_T _ _ _ _ (by first | assumption | omega)) ?_
  rintro e W' ⟨rfl, rfl⟩
  refine ⟨_, rfl, ?_⟩; refine Zm ?_; refine Zf ?_; refine Zf ?_; refine Zl rc4 ?_; refine Zm ?_
  refine Zy (R.call rfl rfl rfl) (jwithin_T _ _ _ _ (by first | assumption | omega)) ?_
  rintro e W' ⟨rfl, rfl⟩
  refine ⟨_, rfl, ?_⟩; refine Zp ?_; refine Zm ?_; refine Zf ?_; refine Zf ?_; refine Zl rc4 ?_; refine Zf ?_; refine Zf ?_; refine Zf ?_; refine Zl rc4 ?_
  refine Zy (R.call rfl rfl rfl) (jwithin_T _ _ _ _ (by first | assumption | omega)) ?_
  rintro e W' ⟨rfl, rfl⟩
  refine ⟨_, rfl, ?_⟩; refine Zp ?_; refine Zm ?_; refine Zf ?_; refine Zf ?_; refine Zl rc4 ?_; refine Zf ?_; refine Zf ?_; refine Zl rc4 ?_; refine ZneF ?_; refine Zm ?_; refine Zf ?_; refine Zf ?_; refine Zl rc4 ?_; refine Zf ?_; refine Zf ?_; refine Zl rc4 ?_; refine ZneF ?_; refine Zp ?_; refine Zp ?_; refine Za ?_; refine Zq ?_; refine ZR ?_; refine EE.ret _ rfl rfl ?_
  exact ⟨rfl, q⟩
/-- A name's body. -/
def bodyN (n f t : Nat) (fk tk r : Nat) (d : Bool) : List Nat := [f, fk, t, tk, r, n, if d then 1 else 0]
theorem jbody2_any (k : Int) (n : Nat) (a : Nat → Nat) (f t : Nat) (fk tk : Nat) (r : Nat) (d : Bool) (w : World) (hn : n ≤ 4096) (hf : f ≤ 4096) (ht : t ≤ 4096) (hr : r ≤ 4096) : Calls Tryz.prog 62 #[redV k (n : Int) a (f : Int) (t : Int) fk tk (r : Int) d] w fun x w' => ∃ g, x = .returned (.slice (some ⟨g, 0, none⟩) 7 7) ∧ RowL w' g 25 (ints .u64 (bodyN n f t fk tk r d)) ∧ w.heap.size ≤ g ∧ Below w.heap.size w w' := by
  have q := Below.refl w.heap.size w
  cases d with
  | true =>
    refine X.fn Tryz.func62 rfl (n := 26) rfl rfl ?_
    refine Zr ?_
    refine LL.box (redL k (↑n) a (↑f) (↑t) fk tk (↑r) true) rfl rfl rfl rfl rfl ?_
    intro W2 g3 eg3 r4 z5 b1
    replace q := Zu q b1; refine Za ?_; refine Zq ?_; refine Zr ?_; refine Zf ?_; refine Zl r4 ?_
    refine LL.val (R.convI rfl rfl rfl rfl (wrapU (by omega) (by omega))) rfl rfl rfl ?_
    refine Zf ?_; refine Zl r4 ?_; refine Zf ?_; refine Zl r4 ?_
    refine LL.val (R.convI rfl rfl rfl rfl (wrapU (by omega) (by omega))) rfl rfl rfl ?_
    refine Zf ?_; refine Zl r4 ?_; refine Zf ?_; refine Zl r4 ?_
    refine LL.val (R.convI rfl rfl rfl rfl (wrapU (by omega) (by omega))) rfl rfl rfl ?_
    refine Zf ?_; refine Zl r4 ?_
    refine LL.val (R.convI rfl rfl rfl rfl (wrapU (by omega) (by omega))) rfl rfl rfl ?_
    have l6 := r4.lt
    refine LL.lit (e := 25) [Value.int IntKind.u64 ↑f, Value.int IntKind.u64 ↑fk, Value.int IntKind.u64 ↑t, Value.int IntKind.u64 ↑tk, Value.int IntKind.u64 ↑r, Value.int IntKind.u64 ↑n, Value.int IntKind.u64 0] 7 rfl rfl (fun _ => by kernel_rfl) rfl rfl ?_
    intro W8 g9 eg9 r10 z11 b7
    replace r4 := r4.up b7; replace q := Zu q b7; refine Za ?_; refine Zq ?_; refine Zc ?_; refine Zr ?_; refine Zf ?_; refine Zl r4 ?_; refine Zq ?_; refine ZY ?_; refine CC.region ?_; refine Zm ?_; refine Zi ?_
    refine LL.store rfl rfl rfl rfl r10 (by exact Nat.le_of_ble_eq_true rfl) rfl rfl rfl rfl ?_
    intro W13 r14 b12 z15
    have hlb12 := r10.lt
    replace r14 : RowL W13 _ 25 [.int .u64 ↑f, .int .u64 ↑fk, .int .u64 ↑t, .int .u64 ↑tk, .int .u64 ↑r, .int .u64 ↑n, .int .u64 1] := r14
    clear r10
    replace r4 := Zd r4 b12; replace q := Zg q b12
    have r10 := r14
    clear r14
    refine Zq ?_; refine Zr ?_; refine Zm ?_; refine Za ?_; refine Zq ?_; refine ZR ?_; refine EE.ret _ rfl rfl ?_
    exact ⟨_, rfl, by assumption, by omega, q⟩
  | false =>
    refine X.fn Tryz.func62 rfl (n := 26) rfl rfl ?_
    refine Zr ?_
    refine LL.box (redL k (↑n) a (↑f) (↑t) fk tk (↑r) false) rfl rfl rfl rfl rfl ?_
    intro Wa2 ga3 ega3 ra4 za5 ba1
    replace q := Zu q ba1; refine Za ?_; refine Zq ?_; refine Zr ?_; refine Zf ?_; refine Zl ra4 ?_
    refine LL.val (R.convI rfl rfl rfl rfl (wrapU (by omega) (by omega))) rfl rfl rfl ?_
    refine Zf ?_; refine Zl ra4 ?_; refine Zf ?_; refine Zl ra4 ?_
    refine LL.val (R.convI rfl rfl rfl rfl (wrapU (by omega) (by omega))) rfl rfl rfl ?_
    refine Zf ?_; refine Zl ra4 ?_; refine Zf ?_; refine Zl ra4 ?_
    refine LL.val (R.convI rfl rfl rfl rfl (wrapU (by omega) (by omega))) rfl rfl rfl ?_
    refine Zf ?_; refine Zl ra4 ?_
    refine LL.val (R.convI rfl rfl rfl rfl (wrapU (by omega) (by omega))) rfl rfl rfl ?_
    have la6 := ra4.lt
    refine LL.lit (e := 25) [Value.int IntKind.u64 ↑f, Value.int IntKind.u64 ↑fk, Value.int IntKind.u64 ↑t, Value.int IntKind.u64 ↑tk, Value.int IntKind.u64 ↑r, Value.int IntKind.u64 ↑n, Value.int IntKind.u64 0] 7 rfl rfl (fun _ => by kernel_rfl) rfl rfl ?_
    intro Wa8 ga9 ega9 ra10 za11 ba7
    replace ra4 := ra4.up ba7; replace q := Zu q ba7; refine Za ?_; refine Zq ?_; refine Zc ?_; refine Zr ?_; refine Zf ?_; refine Zl ra4 ?_; refine Zq ?_; refine ZN ?_; refine ZK ?_; refine ZT ?_; refine Zr ?_; refine Zm ?_; refine Za ?_; refine Zq ?_; refine ZR ?_; refine EE.ret _ rfl rfl ?_
    exact ⟨_, rfl, by assumption, by omega, q⟩
/-- Two numbers that have no bit in common. -/
theorem or_disj (x y : Nat) (h : x &&& y = 0) : x ||| y = x + y := by
  have hx : x < 2 ^ (x + y) := Nat.lt_of_le_of_lt (Nat.le_add_right x y) Nat.lt_two_pow_self
  have hy : y < 2 ^ (x + y) := Nat.lt_of_le_of_lt (Nat.le_add_left y x) Nat.lt_two_pow_self
  have hxy : x + y < 2 ^ (x + y) := Nat.lt_two_pow_self
  have hb : BitVec.ofNat (x + y) x &&& BitVec.ofNat (x + y) y = 0#(x + y) := by
    apply BitVec.eq_of_toNat_eq
    simp [BitVec.toNat_and, Nat.mod_eq_of_lt hx, Nat.mod_eq_of_lt hy, h]
  have := congrArg BitVec.toNat (BitVec.add_eq_or_of_and_eq_zero _ _ hb)
  simp [BitVec.toNat_add, BitVec.toNat_or, Nat.mod_eq_of_lt hx, Nat.mod_eq_of_lt hy, Nat.mod_eq_of_lt hxy] at this
  exact this.symm
/-- The bits of a field as a number. -/
theorem mask_val (a k : Nat) (h2 : k + a ≤ 64) : 18446744073709551615 / 2 ^ (64 - k) * 2 ^ a % 18446744073709551616 = (2 ^ k - 1) * 2 ^ a := by
  have e1 : (18446744073709551615 : Nat) = 2 ^ 64 - 1 := by decide
  have e2 : (18446744073709551615 : Nat) / 2 ^ (64 - k) = 2 ^ k - 1 := by
    rw [e1]
    have hk : (2:Nat) ^ 64 = 2 ^ k * 2 ^ (64 - k) := by rw [← Nat.pow_add]; congr 1; omega
    have hp : 0 < (2:Nat) ^ (64 - k) := Nat.two_pow_pos _
    have hq : 1 ≤ (2:Nat) ^ k := Nat.one_le_two_pow
    rw [hk]
    apply Nat.div_eq_of_lt_le
    · have : (2 ^ k - 1) * 2 ^ (64 - k) = 2 ^ k * 2 ^ (64 - k) - 2 ^ (64 - k) := by rw [Nat.sub_mul, Nat.one_mul]
      omega
    · have : (2 ^ k - 1 + 1) * 2 ^ (64 - k) = 2 ^ k * 2 ^ (64 - k) := by rw [Nat.sub_add_cancel hq]
      have : 0 < 2 ^ k * 2 ^ (64 - k) := Nat.mul_pos (by omega) hp
      omega
  rw [e2]
  apply Nat.mod_eq_of_lt
  have : (2:Nat) ^ k * 2 ^ a ≤ 2 ^ 64 := by rw [← Nat.pow_add]; exact Nat.pow_le_pow_right (by decide) (by omega)
  have e3 : (2:Nat) ^ 64 = 18446744073709551616 := by decide
  have : (2 ^ k - 1) * 2 ^ a = 2 ^ k * 2 ^ a - 2 ^ a := by rw [Nat.sub_mul, Nat.one_mul]
  have : 0 < (2:Nat) ^ a := Nat.two_pow_pos _
  omega
theorem mask_lt (a k : Nat) (h2 : k + a ≤ 64) : (2 ^ k - 1) * 2 ^ a < 18446744073709551616 := by
  have : (2:Nat) ^ k * 2 ^ a ≤ 2 ^ 64 := by rw [← Nat.pow_add]; exact Nat.pow_le_pow_right (by decide) (by omega)
  have e3 : (2:Nat) ^ 64 = 18446744073709551616 := by decide
  have : (2 ^ k - 1) * 2 ^ a = 2 ^ k * 2 ^ a - 2 ^ a := by rw [Nat.sub_mul, Nat.one_mul]
  have : 0 < (2:Nat) ^ a := Nat.two_pow_pos _
  omega
theorem testBit_mask (a k i : Nat) : ((2 ^ k - 1) * 2 ^ a).testBit i = (decide (a ≤ i) && decide (i - a < k)) := by
  rw [Nat.mul_comm, Nat.testBit_two_pow_mul, Nat.testBit_two_pow_sub_one]
/-- What a mask leaves of a word, moved down, is the field. -/
theorem and_mask_div (x a k : Nat) : (x &&& ((2 ^ k - 1) * 2 ^ a)) / 2 ^ a = x / 2 ^ a % 2 ^ k := by
  apply Nat.eq_of_testBit_eq
  intro i
  simp only [Nat.testBit_div_two_pow, Nat.testBit_and, testBit_mask, Nat.testBit_mod_two_pow]
  rw [show i + a - a = i by omega]
  simp [Bool.and_comm]
/-- A word without a field, and the field's value put there. -/
theorem with_val (x a k v : Nat) (hx : x < 18446744073709551616) (h2 : k + a ≤ 64) (hv : v < 2 ^ k) :
    (x &&& (18446744073709551615 - (2 ^ k - 1) * 2 ^ a)) ||| (v * 2 ^ a % 18446744073709551616) = x - x / 2 ^ a % 2 ^ k * 2 ^ a + v * 2 ^ a := by
  have hm := mask_lt a k h2
  have e3 : (2:Nat) ^ 64 = 18446744073709551616 := by decide
  have hva : v * 2 ^ a < 18446744073709551616 := by
    have : v * 2 ^ a ≤ (2 ^ k - 1) * 2 ^ a := Nat.mul_le_mul_right _ (by omega)
    omega
  rw [Nat.mod_eq_of_lt hva]
  have hand : x &&& (18446744073709551615 - (2 ^ k - 1) * 2 ^ a) = x - x / 2 ^ a % 2 ^ k * 2 ^ a := by
    have hsum : (x &&& (18446744073709551615 - (2 ^ k - 1) * 2 ^ a)) + (x &&& ((2 ^ k - 1) * 2 ^ a)) = x := by
      rw [← or_disj _ _]
      · apply Nat.eq_of_testBit_eq
        intro i
        have hb : (18446744073709551615 - (2 ^ k - 1) * 2 ^ a).testBit i = (decide (i < 64) && !((2 ^ k - 1) * 2 ^ a).testBit i) := by
          have := Nat.testBit_two_pow_sub_succ (n := 64) (x := (2 ^ k - 1) * 2 ^ a) (by omega) i
          rw [show (18446744073709551615 - (2 ^ k - 1) * 2 ^ a) = 2 ^ 64 - ((2 ^ k - 1) * 2 ^ a + 1) by omega]
          exact this
        simp only [Nat.testBit_or, Nat.testBit_and, hb]
        by_cases hi : i < 64
        · cases x.testBit i <;> cases ((2 ^ k - 1) * 2 ^ a).testBit i <;> simp [hi]
        · have : x.testBit i = false := Nat.testBit_lt_two_pow (Nat.lt_of_lt_of_le (by omega : x < 2 ^ 64) (Nat.pow_le_pow_right (by decide) (by omega)))
          simp [this]
      · apply Nat.eq_of_testBit_eq
        intro i
        have hb : (18446744073709551615 - (2 ^ k - 1) * 2 ^ a).testBit i = (decide (i < 64) && !((2 ^ k - 1) * 2 ^ a).testBit i) := by
          have := Nat.testBit_two_pow_sub_succ (n := 64) (x := (2 ^ k - 1) * 2 ^ a) (by omega) i
          rw [show (18446744073709551615 - (2 ^ k - 1) * 2 ^ a) = 2 ^ 64 - ((2 ^ k - 1) * 2 ^ a + 1) by omega]
          exact this
        simp only [Nat.testBit_and, hb, Nat.zero_testBit]
        cases x.testBit i <;> cases ((2 ^ k - 1) * 2 ^ a).testBit i <;> simp
    have hf : x &&& ((2 ^ k - 1) * 2 ^ a) = x / 2 ^ a % 2 ^ k * 2 ^ a := by
      rw [← and_mask_div x a k]
      have hd : (x &&& ((2 ^ k - 1) * 2 ^ a)) % 2 ^ a = 0 := by
        apply Nat.eq_of_testBit_eq
        intro i
        simp only [Nat.testBit_mod_two_pow, Nat.testBit_and, testBit_mask, Nat.zero_testBit]
        by_cases hi : i < a
        · simp [hi, show ¬ a ≤ i by omega]
        · simp [hi]
      have := Nat.div_add_mod (x &&& ((2 ^ k - 1) * 2 ^ a)) (2 ^ a)
      rw [hd, Nat.mul_comm (2 ^ a) (_ / _)] at this
      omega
    omega
  rw [hand, ← hand]
  rw [← or_disj _ _]
  apply Nat.eq_of_testBit_eq
  intro i
  have hb : (18446744073709551615 - (2 ^ k - 1) * 2 ^ a).testBit i = (decide (i < 64) && !((2 ^ k - 1) * 2 ^ a).testBit i) := by
    have := Nat.testBit_two_pow_sub_succ (n := 64) (x := (2 ^ k - 1) * 2 ^ a) (by omega) i
    rw [show (18446744073709551615 - (2 ^ k - 1) * 2 ^ a) = 2 ^ 64 - ((2 ^ k - 1) * 2 ^ a + 1) by omega]
    exact this
  simp only [Nat.testBit_and, hb, Nat.zero_testBit, testBit_mask, Nat.mul_comm v, Nat.testBit_two_pow_mul]
  by_cases hi : a ≤ i
  · by_cases hik : i - a < k
    · simp [hi, hik]
    · have : v.testBit (i - a) = false := Nat.testBit_lt_two_pow (Nat.lt_of_lt_of_le hv (Nat.pow_le_pow_right (by decide) (by omega)))
      simp [this]
  · simp [hi]
open Go.RowKit
/-- The first k bytes of a word, the lowest first. -/
def byteL (x k : Nat) : List Nat := (List.range k).map fun i => x / 256 ^ i % 256
theorem byteL_succ (x k : Nat) : byteL x (k + 1) = byteL x k ++ [x / 256 ^ k % 256] := by simp [byteL, List.range_succ]
theorem byteL_length (x k : Nat) : (byteL x k).length = k := by simp [byteL]
def bytesL (ws : List Nat) : List Nat := ws.flatMap fun x => byteL x 8
theorem Tryz.info5 : (Tryz.prog.info? 5).map (fun i => (i.zero, i.size, i.bytes)) = some (some (.int .u8 0), 1, 1) := by kernel_rfl
theorem El8 : El Tryz.prog 109 5 (Value.int .u8 0) 1 := ⟨Tryz.underlying109, info_parts Tryz.info5, rfl⟩
theorem Tryz.infou64 : (Tryz.prog.info? 25).map (fun i => (i.zero, i.size, i.bytes)) = some (some (.int .u64 0), 1, 8) := by kernel_rfl
theorem El64 : El Tryz.prog 33 25 (Value.int .u64 0) 8 := ⟨Tryz.underlying33, info_parts Tryz.infou64, rfl⟩
theorem byte_move (x i : Nat) : IntKind.u8.wrap ((x : Int) / 2 ^ (8 * i)) = ((x / 256 ^ i % 256 : Nat) : Int) := by
  rw [IntKind.wrap_u8', show (256 : Nat) = 2 ^ 8 by rfl, ← Nat.pow_mul]
  simp
theorem bytes1_step {w : World} {n0 e : Nat} {v : Value} {n : Nat} {xs : List Nat} {x k : Nat} (h : w.ownsRow n0 e 1 v (n + 1) (ints .u8 (xs ++ byteL x k) ++ [.int .u8 (IntKind.u8.wrap ((x : Int) / 2 ^ (8 * k)))])) :
    w.ownsRow n0 e 1 v (n + 1) (ints .u8 (xs ++ byteL x (k + 1))) := by
  rw [byte_move] at h
  rw [byteL_succ]
  simpa using h
set_option maxHeartbeats 400000 in
theorem bytes1_any (x B n0 : Nat) (v : Value) (n : Nat) (xs : List Nat) (w : World) (hbox : Boxed w B 109 v) (hrow : w.ownsRow n0 5 1 v n (ints .u8 xs)) (hn : n0 ≤ w.heap.size) (hB : n0 ≤ B) (hlen : n + 8 ≤ 140737488355328) :
    Calls Tryz.prog 122 #[.int .u64 x, .pointer (some ⟨B, 0, none⟩)] w fun e w' => e = .returned (.tuple #[]) ∧ ∃ v', Boxed w' B 109 v' ∧ w'.ownsRow n0 5 1 v' (n + 8) (ints .u8 (xs ++ byteL x 8)) ∧ Below n0 w w' := by
  go_enter Tryz.func122, Tryz.ntmps122
  go_wp2
  go_loopw [4] (fun i wr => ∃ k : Nat, k ≤ 8 ∧ i = .int .i64 k ∧ ∃ v m, m = n + k ∧ Boxed wr B 109 v ∧ wr.ownsRow n0 5 1 v m (ints .u8 (xs ++ byteL x k)) ∧ Below n0 w wr) (fun i _ => 8 - (intOf i).toNat)
  case atStart => exact ⟨0, by omega, rfl, v, n, rfl, hbox, by simpa [byteL] using hrow, Below.refl _ _⟩
  case round =>
    obtain ⟨k, hk, rfl, v, m, hm, hb, hr, hbel⟩ := hrel
    by_cases hlt : k < 8
    · have hc := hb.cell
      have hca : ∀ o, (wr.alloc o).cell? ⟨B, 0, none⟩ = some v := fun o => (hb.alloc o).cell
      have hmb : m + 1 ≤ 140737488355328 := by omega
      have HM := Lib.hid hm
      clear hm
      have hwr : IntKind.i64.wrap (8 * (k : Int)) = 8 * (k : Int) := IntWalk.i64_in _ (by omega)
      have hw0 : (0 : Int) ≤ 8 * (k : Int) := by omega
      have hw1 : (8 * (k : Int)).toNat = 8 * k := by omega
      go_wp2
      go_region_law (refine step_app El8 rfl rfl (by simp [Act.eval]) (by simp [Act.eval]; exact ⟨rfl, rfl⟩) (hr.alloc _) (by first | exact cell_new _ _ _ | exact cell_new_d _ _ _) rfl (by simp; omega) (by simp [maxLen]; omega) (by simp; have := hbel.size; omega) ?_; intro g cap w1 hown hgrow _ _; obtain ⟨c1, f1, H⟩ := box_app hb (by decide) hr (by have := hbel.size; omega) hB hown (grown_undrew hgrow); clear hown hgrow)
      all_goals go_wp2
      all_goals (obtain ⟨g1, g2, g3⟩ := H.out; clear H)
      all_goals go_roundw
      all_goals first
        | (simp [intOf]; omega)
        | exact ⟨k + 1, by omega, by go_num, _, m + 1, by have := HM.out; omega, g1, bytes1_step g2, hbel.trans g3⟩
    · obtain rfl : k = 8 := by omega
      go_wp2
      go_end0
      subst hm
      exact ⟨rfl, v, hb, hr, hbel⟩
theorem bytesL_snoc (l : List Nat) (x : Nat) : bytesL (l ++ [x]) = bytesL l ++ byteL x 8 := by simp [bytesL]
theorem bytesL_length (l : List Nat) : (bytesL l).length = 8 * l.length := by
  induction l with
  | nil => rfl
  | cons x l ih => simp only [bytesL, List.flatMap_cons, List.length_append, byteL_length, List.length_cons] at *; omega
set_option maxHeartbeats 400000 in
theorem bytes_any (v : Value) (ws : List Nat) (w : World) (hv : Reads w v (ints .u64 ws)) (hlen : ws.length ≤ 1048576) :
    Calls Tryz.prog 84 #[v] w fun e w' => ∃ v', e = .returned v' ∧ w'.ownsRow w.heap.size 5 1 v' (8 * ws.length) (ints .u8 (bytesL ws)) ∧ Below w.heap.size w w' := by
  obtain ⟨a, cap, rfl, hcap, hcells⟩ := hv.ints
  have hmk := run_mk El8 0 (8 * ws.length) (by omega) (by omega) (by omega)
  have hwr : IntKind.i64.wrap ((ws.length : Int) * 8) = 8 * (ws.length : Int) := by rw [IntWalk.i64_in _ (by omega)]; omega
  have hm2 : ∀ w, (Instr.makeSlice 109 (.int .i64 0) (.int .i64 (8 * (ws.length : Int)))).run Tryz.prog w = _ := fun w => hmk 0 (8 * (ws.length : Int)) rfl (by omega) w
  have hown := owns_made (e := 5) (z := .int .u8 0) w 0 (8 * ws.length) w.heap.size (by omega) (by simp [maxLen]; omega) (Nat.le_refl _)
  have hbel := (Below.refl w.heap.size w).alloc (Nat.le_refl _) (.cells (madeCells #[.int .u8 0] (8 * ws.length)) 5)
  clear hmk
  go_enter Tryz.func84, Tryz.ntmps84
  go_wp2
  go_loopw [14] (fun i wr => ∃ k : Nat, k ≤ ws.length ∧ i = .int .i64 k ∧ ∃ v, Boxed wr (w.heap.size + 1) 109 v ∧ wr.ownsRow w.heap.size 5 1 v (8 * k) (ints .u8 (bytesL (ws.take k))) ∧ Below w.heap.size w wr) (fun i _ => ws.length - (intOf i).toNat)
  case atStart =>
    refine ⟨0, by omega, rfl, _, by have := Boxed.new (w.alloc (.cells (madeCells #[.int .u8 0] (8 * ws.length)) 5)) 109 (.slice (some ⟨w.heap.size, 0, none⟩) 0 (8 * ws.length)); simpa using this, hown.alloc _, hbel.alloc (by simp) _⟩
  case round =>
    obtain ⟨k, hk, rfl, v, hb, hr, hbl⟩ := hrel
    by_cases hlt : k < ws.length
    · obtain ⟨b, off, rfl, hbs, hc⟩ := hcells (by omega)
      have hck : wr.cell? ⟨b, off + k, none⟩ = some (.int .u64 ((ws[k]?.getD 0 : Nat) : Int)) := (hbl.cell (p := ⟨b, off + k, none⟩) hbs).trans (hc k hlt)
      have hsz := hbl.size
      clear hc hcells
      have hts := Lib.hid (take_snoc ws 0 k hlt)
      go_wp2_with (first | (go_at_call 122; refine (bytes1_any _ _ w.heap.size v (8 * k) _ _ hb hr (by omega) (by omega) (by omega)).mono ?_; rintro e w1 ⟨rfl, v', g1, g2, g3⟩))
      go_roundw
      case rel => exact ⟨k + 1, by omega, by go_num, v', g1, by rw [hts.out, bytesL_snoc, show ws[k]?.getD 0 = ws[k] by simp [hlt]]; exact g2, hbl.trans g3⟩
      case measure => simp [intOf]; omega
    · obtain rfl : k = ws.length := by omega
      have hc := hb.cell
      go_wp2
      go_ret
      exact ⟨v, rfl, by simpa using hr, hbl⟩
theorem Below.drewN {B : Nat} {a w : World} (h : Below B a w) (n : Nat) : Below B a (w.drewN n) := ⟨h.os, h.tape, h.output, h.size, h.block⟩
def crcBit (s : Nat) : Nat := if s % 2 = 1 then (s / 2) ^^^ 14514072000185962306 else s / 2
def crcN : Nat → Nat → Nat
  | 0, s => s
  | n + 1, s => crcBit (crcN n s)
def crcByte (s b : Nat) : Nat := crcN 8 (s ^^^ b)
def crcL (s : Nat) (bs : List Nat) : Nat := bs.foldl crcByte s
def notU (x : Nat) : Nat := 18446744073709551615 - x
def more (s : Nat) (bs : List Nat) : Nat := notU (crcL (notU s) bs)
theorem xor_lt {a b : Nat} (ha : a < 18446744073709551616) (hb : b < 18446744073709551616) : a ^^^ b < 18446744073709551616 := Nat.xor_lt_two_pow (n := 64) ha hb
theorem crcBit_lt {s : Nat} (h : s < 18446744073709551616) : crcBit s < 18446744073709551616 := by
  unfold crcBit
  split
  · exact xor_lt (by omega) (by decide)
  · omega
theorem crcN_lt {s : Nat} (h : s < 18446744073709551616) (n : Nat) : crcN n s < 18446744073709551616 := by
  induction n with
  | zero => exact h
  | succ n ih => exact crcBit_lt ih
theorem crcByte_lt {s b : Nat} (h : s < 18446744073709551616) (hb : b < 256) : crcByte s b < 18446744073709551616 := crcN_lt (xor_lt h (by omega)) 8
theorem crcL_snoc (s : Nat) (bs : List Nat) (b : Nat) : crcL s (bs ++ [b]) = crcByte (crcL s bs) b := by simp [crcL]
theorem crcL_lt {s : Nat} (h : s < 18446744073709551616) (bs : List Nat) (hb : ∀ x ∈ bs, x < 256) : crcL s bs < 18446744073709551616 := by
  induction bs generalizing s with
  | nil => exact h
  | cons b r ih => exact ih (crcByte_lt h (hb b (by simp))) (fun x hx => hb x (by simp [hx]))
theorem notU_lt (x : Nat) : notU x < 18446744073709551616 := by unfold notU; omega
theorem more_lt (s : Nat) (bs : List Nat) : more s bs < 18446744073709551616 := notU_lt _
theorem notU_xor {x : Nat} (h : x < 18446744073709551616) : 18446744073709551615 ^^^ x = notU x := by
  apply Nat.eq_of_testBit_eq
  intro i
  have e1 : (18446744073709551615 : Nat) = 2 ^ 64 - 1 := by decide
  have e2 : notU x = 2 ^ 64 - (x + 1) := by unfold notU; omega
  rw [e2, Nat.testBit_two_pow_sub_succ (show x < 2 ^ 64 from h), Nat.testBit_xor, e1, Nat.testBit_two_pow_sub_one]
  by_cases hi : i < 64
  · simp [hi]
  · have : x.testBit i = false := Nat.testBit_lt_two_pow (Nat.lt_of_lt_of_le (show x < 2 ^ 64 from h) (Nat.pow_le_pow_right (by decide) (by omega)))
    simp [hi, this]
theorem not_u64 {x : Nat} (h : x < 18446744073709551616) : bits .xor .u64 IntKind.u64.max (x : Int) = ((notU x : Nat) : Int) := by
  have e := u64_xor_nat 18446744073709551615 x (by decide) h
  rw [notU_xor h] at e
  exact e
theorem enter_any (s : Nat) (hs : s < 18446744073709551616) (w : World) : Calls Tryz.prog 139 #[.int .u64 s] w fun e w' => e = .returned (.int .u64 (notU s)) ∧ w = w' := by
  have hn := not_u64 hs
  go_enter Tryz.func139, Tryz.ntmps139
  go_wp2
  go_ret
  exact ⟨rfl, rfl⟩
theorem rg_set_grown {W Y : World} {B : Nat} (h : W.grownBy Y (some B)) (u : Value) : W.grownBy (Y.setCell ⟨B, 0, none⟩ u) (some B) := grown_trans h (grownBy_setCell' _ _ _)
theorem set_cell {W : World} {B : Nat} {v : Value} (h : W.cell? ⟨B, 0, none⟩ = some v) (u : Value) : (W.setCell ⟨B, 0, none⟩ u).cell? ⟨B, 0, none⟩ = some u := World.cell?_setCell_same' _ _ _ (by rw [h]; rfl)
theorem set_other {W : World} {B : Nat} {a : Addr} {v : Value} (h : W.cell? a = some v) (hne : a.block ≠ B) (u : Value) : (W.setCell ⟨B, 0, none⟩ u).cell? a = some v :=
  grown_cell h (grownBy_setCell' _ _ _) (by simpa using hne)
theorem fell_any (R B s : Nat) (w : World) (hs : s < 18446744073709551616) (hR : w.cell? ⟨R, 0, none⟩ = some (.pointer (some ⟨B, 0, none⟩))) (hB : w.cell? ⟨B, 0, none⟩ = some (.int .u64 s)) (hf : w.frozen? ⟨B, 0, none⟩ = false) :
    Calls Tryz.prog 151 #[.pointer (some ⟨R, 0, none⟩)] w fun e w' => e = .returned (.bool (s % 2 == 1)) ∧ w' = w.setCell ⟨B, 0, none⟩ (.int .u64 ((s / 2 : Nat) : Int)) := by
  have hb : bits .and .u64 (s : Int) 1 = ((s % 2 : Nat) : Int) := (u64_and_nat s 1 hs (by decide)).trans (by rw [Nat.and_one_is_mod])
  obtain ⟨b, hbe⟩ : ∃ b, s % 2 = b := ⟨_, rfl⟩
  rw [hbe] at hb ⊢
  have hB2 := hB
  go_enter Tryz.func151, Tryz.ntmps151
  go_wp2
  go_ret
  refine ⟨congrArg Ending.returned (congrArg Value.bool ?_), by simp⟩
  have : b < 2 := by omega
  rcases (by omega : b = 0 ∨ b = 1) with rfl | rfl <;> rfl
/-- A byte taken in: the register's box has the next number; all else lies as it lay. -/
theorem rg_take_any (B s c : Nat) (w : World) (hs : s < 18446744073709551616) (hc : c < 256) (hB : w.cell? ⟨B, 0, none⟩ = some (.int .u64 s)) (hf : w.frozen? ⟨B, 0, none⟩ = false) :
    Calls Tryz.prog 141 #[.pointer (some ⟨B, 0, none⟩), .int .u8 c] w fun e w' => (∃ v, e = .returned v) ∧ w.grownBy w' (some B) ∧ w'.cell? ⟨B, 0, none⟩ = some (.int .u64 (crcByte s c)) ∧ w'.frozen? ⟨B, 0, none⟩ = false := by
  have hlt : B < w.heap.size := by
    obtain ⟨o, ho, _⟩ := cells_of_cell hB
    exact (Array.getElem?_eq_some_iff.1 ho).1
  have hx := u64_xor_nat s c hs (by omega)
  have hzl : s ^^^ c < 18446744073709551616 := xor_lt hs (by omega)
  obtain ⟨z, hz⟩ : ∃ z, s ^^^ c = z := ⟨_, rfl⟩
  have HZ : Hid (crcByte s c = crcN 8 z) := Lib.hid (by rw [← hz]; rfl)
  rw [hz] at hx hzl
  clear hz
  obtain ⟨W0, hW0⟩ : ∃ W0, w.alloc (.cells #[.pointer (some ⟨B, 0, none⟩)] 197) = W0 := ⟨_, rfl⟩
  have hbx := box_new w (.pointer (some ⟨B, 0, none⟩)) 197
  have hg0 : w.grownBy W0 (some B) := by rw [← hW0]; exact World.grownBy_alloc _ _ _
  have hB0 : W0.cell? ⟨B, 0, none⟩ = some (.int .u64 s) ∧ W0.frozen? ⟨B, 0, none⟩ = false := by rw [← hW0]; exact box_alloc ⟨hB, hf⟩ _
  rw [hW0] at hbx
  obtain ⟨R, hR⟩ : ∃ R, w.heap.size = R := ⟨_, rfl⟩
  rw [hR] at hbx
  have hRB : R ≠ B := by omega
  have hbx1 := hbx.1
  go_enter Tryz.func141, Tryz.ntmps141
  rw [← hR] at hbx1
  go_wp2
  go_loopw [13] (fun i wr => ∃ k q : Nat, k ≤ 8 ∧ i = .int .i64 k ∧ q = crcN k z ∧ q < 18446744073709551616 ∧ w.grownBy wr (some B) ∧ wr.cell? ⟨B, 0, none⟩ = some (.int .u64 q) ∧ wr.frozen? ⟨B, 0, none⟩ = false ∧ wr.cell? ⟨R, 0, none⟩ = some (.pointer (some ⟨B, 0, none⟩))) (fun i _ => 8 - (intOf i).toNat)
  case atStart => exact ⟨0, z, by omega, rfl, rfl, hzl, rg_set_grown hg0 _, set_cell hB0.1 _, by rw [World.frozen?_setCell]; exact hB0.2, set_other hbx.1 (by simpa using hRB) _⟩
  case round =>
    obtain ⟨k, q, hk, rfl, hq, hql, hgr, hqc, hqf, hrc⟩ := hrel
    by_cases hk8 : k < 8
    · have hst : crcN (k + 1) z = crcBit q := by rw [hq]; rfl
      have hbl := crcBit_lt hql
      have HT := Lib.hid hst
      clear hst hq hbx hbx1 hB0 hg0 hW0 hR
      obtain ⟨y, hy⟩ : ∃ y, q / 2 = y := ⟨_, rfl⟩
      have hyl : y < 18446744073709551616 := by omega
      have hx2 : bits .xor .u64 (y : Int) 14514072000185962306 = ((y ^^^ 14514072000185962306 : Nat) : Int) := u64_xor_nat y 14514072000185962306 hyl (by decide)
      have hfl := fell_any R B q wr hql hrc hqc hqf
      rw [hy] at hfl
      have g1 := rg_set_grown hgr (.int .u64 y)
      have c1 := set_cell hqc (.int .u64 y)
      have f1 : (wr.setCell ⟨B, 0, none⟩ (.int .u64 y)).frozen? ⟨B, 0, none⟩ = false := by rw [World.frozen?_setCell]; exact hqf
      have r1 := set_other hrc (by simpa using hRB) (.int .u64 y)
      obtain ⟨wr1, hwr1⟩ : ∃ wr1, wr.setCell ⟨B, 0, none⟩ (.int .u64 y) = wr1 := ⟨_, rfl⟩
      rw [hwr1] at g1 c1 f1 r1 hfl
      clear hwr1
      by_cases h1 : q % 2 = 1
      · have hcb : crcBit q = y ^^^ 14514072000185962306 := by unfold crcBit; rw [if_pos h1, hy]
        have HC := Lib.hid hcb
        rw [show (q % 2 == 1) = true by simp [h1]] at hfl
        obtain ⟨q2, hq2⟩ : ∃ q2, y ^^^ 14514072000185962306 = q2 := ⟨_, rfl⟩
        rw [hq2] at hx2
        have HQ := Lib.hid hq2
        clear hcb hq2 hy h1
        go_wp2_with (go_at_call 151; refine hfl.mono ?_; rintro e w' ⟨rfl, rfl⟩)
        go_roundw
        case rel => exact ⟨k + 1, q2, by omega, by go_num, by rw [HT.out, HC.out, HQ.out], by have := HQ.out; have := HC.out; omega, rg_set_grown g1 _, set_cell c1 _, by rw [World.frozen?_setCell]; exact f1, set_other r1 (by simpa using hRB) _⟩
        case measure => simp [intOf]; omega
      · have hcb : crcBit q = y := by unfold crcBit; rw [if_neg h1, hy]
        have HC := Lib.hid hcb
        rw [show (q % 2 == 1) = false by simp [h1]] at hfl
        clear hcb hy h1
        go_wp2_with (go_at_call 151; refine hfl.mono ?_; rintro e w' ⟨rfl, rfl⟩)
        go_roundw
        case rel => exact ⟨k + 1, y, by omega, by go_num, by rw [HT.out, HC.out], hyl, g1, c1, f1, r1⟩
        case measure => simp [intOf]; omega
    · obtain rfl : k = 8 := by omega
      have HQ := Lib.hid hq
      clear hq
      go_wp2
      go_end0
      exact ⟨⟨_, rfl⟩, hgr, by rw [HZ.out, ← HQ.out]; exact hqc, hqf⟩
theorem sum_any (B s : Nat) (w : World) (hs : s < 18446744073709551616) (hB : w.cell? ⟨B, 0, none⟩ = some (.int .u64 s)) :
    Calls Tryz.prog 142 #[.pointer (some ⟨B, 0, none⟩)] w fun e w' => e = .returned (.int .u64 (notU s)) ∧ w = w' := by
  have hn := not_u64 hs
  go_enter Tryz.func142, Tryz.ntmps142
  go_wp2
  go_ret
  exact ⟨rfl, rfl⟩
/-- The bytes of a slice, one by one. -/
theorem bytes_gives (b n cap : Nat) (a : Option Addr) (bs : List Nat) (w : World) (hb : b < w.heap.size) (hc : w.cell? ⟨b, 0, none⟩ = some (.slice a n cap)) (hr : Reads w (.slice a n cap) (ints .u8 bs)) (hn : bs.length = n) (hn63 : n ≤ 9223372036854775807) :
    Gives Tryz.prog 150 #[.pointer (some ⟨b, 0, none⟩)] (fun c : Nat => #[.int .u8 (c : Int)]) (fun k => 0 < n ∧ ∃ x, a = some x ∧ k = x.block) (fun xs => xs = bs) w := by
  intro l J Jx W hW hJ hJx hY h0
  have hcells : 0 < n → ∃ b off, a = some ⟨b, off, none⟩ ∧ b < w.heap.size ∧ ∀ j, j < n → w.cell? ⟨b, off + j, none⟩ = some (.int .u8 ((bs[j]?.getD 0 : Nat) : Int)) := by
    obtain ⟨a', cap', e, _, h⟩ := hr.intsN hn
    cases e
    exact h
  have hcW : W.cell? ⟨b, 0, none⟩ = some (.slice a n cap) := (hW.cell (p := ⟨b, 0, none⟩) hb).trans hc
  refine (callsIn_wide (n := 3)).1 (callsIn_of_wp Tryz.func150 rfl trivial ?_ rfl)
  simp only [Tryz.ntmps150, List.size_toArray, List.length_cons, List.length_nil, Nat.reduceAdd, Nat.reduceSub, Array.replicate_succ, Array.replicate_zero, List.push_toArray, List.append_toArray, List.nil_append, List.cons_append, List.append_nil]
  gi_wp2
  gi_loopw [7] (fun v wr => ∃ k : Nat, v = .int .i64 (k : Int) ∧ k ≤ n ∧ J W.heap.size (bs.take k) wr ∧ Keeps (fun k => 0 < n ∧ ∃ x, a = some x ∧ k = x.block) W wr) (fun v _ => n - (intOf v).toNat)
  case atStart => exact ⟨0, rfl, by omega, h0 _, .refl _ _⟩
  case round =>
    obtain ⟨k, rfl, hk, hJk, hkp⟩ := hrel
    by_cases hlt : k < n
    · obtain ⟨b2, off, rfl, hbs, hcl⟩ := hcells (by omega)
      have hck : wr.cell? ⟨b2, off + k, none⟩ = some (.int .u8 ((bs[k]?.getD 0 : Nat) : Int)) := (hkp.cell (p := ⟨b2, off + k, none⟩) ⟨by omega, _, rfl, rfl⟩).trans ((hW.cell (p := ⟨b2, off + k, none⟩) hbs).trans (hcl k hlt))
      obtain ⟨c, hce⟩ : ∃ c, bs[k]?.getD 0 = c := ⟨_, rfl⟩
      rw [hce] at hck
      have hts : bs.take k ++ [c] = bs.take (k + 1) := by
        rw [List.take_succ_eq_append_getElem (by omega)]
        congr 2
        rw [← hce, List.getElem?_eq_getElem (by omega)]; rfl
      have hpart : Part (fun xs => xs = bs) (bs.take k ++ [c]) := ⟨bs, rfl, by rw [hts]; exact List.take_prefix _ _⟩
      have h1 : ((k : Int) < (n : Int)) := by omega
      have hw1 : IntKind.i64.wrap ((k : Int) + 1) = ((k + 1 : Nat) : Int) := by rw [IntWalk.i64_in _ (by omega)]; omega
      obtain ⟨fn, tmps, assign, body, hy, hR⟩ := hY _ _ c wr (Nat.le_refl _) hJk hpart
      have HTS := Lib.hid hts
      clear hts hce hcells hcl
      gi_wp2
      refine (round_any hR).mono ?_
      rintro e W3 ⟨hs3, (⟨rfl, hJ3, hb3⟩ | ⟨rfl, hJx3⟩)⟩
      · gi_wp2
        go_roundw
        case rel => exact ⟨k + 1, by first | rfl | simp only [hw1] | simp, by omega, by rw [← HTS.out]; exact hJ3, hkp.trans hb3⟩
        case measure => simp [intOf, hw1]; omega
      · gi_wp2
        refine bodyPost_ret (results_none rfl _ _ _) rfl ?_
        exact ⟨⟨_, rfl⟩, .inr ⟨_, _, hpart, hJx3⟩⟩
    · obtain rfl : k = n := by omega
      gi_wp2
      go_end0
      exact ⟨⟨_, rfl⟩, .inl ⟨_, _, rfl, by rw [← hn, List.take_length] at hJk; exact hJk⟩⟩
attribute [local go_sem] Oper.semAt_some
theorem mo_each_any (v : Value) (n cap : Nat) (a : Option Addr) (hv : v = .slice a n cap) (w : World) : Calls Tryz.prog 140 #[v] w fun e w' => e = .returned (.func (.func 150) #[] #[.pointer (some ⟨w.heap.size, 0, none⟩)]) ∧ w' = w.alloc (.cells #[v] 109) := by
  subst hv
  go_enter Tryz.func140, Tryz.ntmps140
  go_wp2
  go_ret
  exact ⟨rfl, rfl⟩
theorem more_any (s : Nat) (v : Value) (bs : List Nat) (w : World) (hs : s < 18446744073709551616) (hv : Reads w v (ints .u8 bs)) (hb : ∀ x ∈ bs, x < 256) (hlen : bs.length ≤ 9223372036854775807) :
    Calls Tryz.prog 121 #[.int .u64 s, v] w fun e w' => e = .returned (.int .u64 (more s bs)) ∧ Below w.heap.size w w' := by
  obtain ⟨n, hnl⟩ : ∃ n, bs.length = n := ⟨_, rfl⟩
  have hr := Lib.hid hv
  obtain ⟨a, cap, rfl, hcap, hcells⟩ := hv.intsN hnl
  obtain ⟨s0, hs0⟩ : ∃ s0, notU s = s0 := ⟨_, rfl⟩
  have hs0l : s0 < 18446744073709551616 := by rw [← hs0]; exact notU_lt s
  have hmore : Hid (more s bs = notU (crcL s0 bs)) := Lib.hid (by rw [← hs0]; rfl)
  have hcl := crcL_lt hs0l bs hb
  have hen := enter_any s hs
  rw [hs0] at hen
  have hpl : ∀ pre c, Part (fun xs => xs = bs) (pre ++ [c]) → crcL s0 pre < 18446744073709551616 ∧ c < 256 := by
    rintro pre c ⟨_, rfl, t, ht⟩
    refine ⟨crcL_lt hs0l pre (fun x hx => hb x (by rw [← ht]; simp [hx])), hb c (by rw [← ht]; simp)⟩
  clear hv hs0
  refine calls_marks Tryz.func121 rfl ?_
  simp only [Tryz.ntmps121, List.size_toArray, List.length_cons, List.length_nil, Nat.reduceAdd, Nat.reduceSub, Array.replicate_succ, Array.replicate_zero, List.push_toArray, List.append_toArray, List.nil_append, List.cons_append, List.append_nil]
  go_wp2_with (first
    | (go_at_call 139; refine (hen _).mono ?_; rintro e w1 ⟨rfl, rfl⟩)
    | (go_at_call 140; refine (mo_each_any _ n cap a rfl _).mono ?_; rintro e w2 ⟨rfl, rfl⟩))
  refine (wpIn_wide (n := 3)).1 ?_
  obtain ⟨W0, hW0⟩ : ∃ W0, (w.alloc (.cells #[.int .u64 s0] 187)).alloc (.cells #[.slice a n cap] 109) = W0 := ⟨_, rfl⟩
  have hsz : W0.heap.size = w.heap.size + 2 := by rw [← hW0]; simp
  have hB0 : Below w.heap.size w W0 := by rw [← hW0]; exact (by repeat (first | exact Below.refl _ _ | assumption | refine Below.drewN ?_ _ | refine Below.drew ?_ | refine Below.alloc ?_ (by first | omega | (simp; done) | (simp; omega)) _))
  have hc1 := box_alloc (box_new w (.int .u64 s0) 187) (.cells #[.slice a n cap] 109)
  have hc2 := box_new (w.alloc (.cells #[.int .u64 s0] 187)) (.slice a n cap) 109
  rw [World.size_alloc] at hc2
  rw [hW0] at hc1 hc2 ⊢
  have hr0 := hr.out.below hB0
  have hD : ∀ k, (0 < n ∧ ∃ x : Addr, a = some x ∧ k = x.block) → k < w.heap.size := by
    rintro k ⟨h0, x, rfl, rfl⟩
    obtain ⟨b, off, e, hlt, _⟩ := hcells h0
    cases e
    exact hlt
  obtain ⟨B, hBe⟩ : ∃ B, w.heap.size = B := ⟨_, rfl⟩
  have hbg := bytes_gives (w.heap.size + 1) n cap a bs W0 (by omega) hc2.1 hr0 hnl (by omega)
  rw [hBe] at hc1 hbg ⊢
  refine range_break (id := 0) (gf := 150) (lb := #[.pointer (some ⟨B + 1, 0, none⟩)]) rfl (enters_of Tryz.func150 (by kernel_rfl) rfl) hbg (Below.refl _ _) (fun k e => by have := hD k e; omega) (fun _ => rfl)
    (fun m pre W' => (W'.cell? ⟨B, 0, none⟩ = some (.int .u64 (crcL s0 pre : Nat)) ∧ W'.frozen? ⟨B, 0, none⟩ = false) ∧ Below B w W')
    (fun _ _ _ => False)
    (fun W' => W'.cell? ⟨B, 0, none⟩ = some (.int .u64 (crcL s0 bs : Nat)) ∧ Below B w W')
    (fun m => Abides.and (Abides.cell (b := ⟨B, 0, none⟩) (show B < W0.heap.size by omega) (fun (pre : List Nat) => .int .u64 ((crcL s0 pre : Nat) : Int))) (Abides.below (by omega) (by omega)))
    (fun m _ _ _ h _ => h)
    (fun m => ⟨hc1, by rw [← hBe]; exact hB0⟩)
    (fun c a' _ => a' = { tmps := #[.int .u64 (s : Int), .slice a n cap, undef, undef, .int .u64 0, .pointer (some ⟨B, 0, none⟩), .int .u8 (c : Int), .int .u64 (s : Int), .int .u64 (s0 : Int), .slice a n cap, .func (.func 150) #[] #[.pointer (some ⟨B + 1, 0, none⟩)], .int .u8 (c : Int), undef, undef, undef], defers := [] })
    (fun _ _ _ _ _ _ hs _ _ => hs)
    (fun m xs W' hS hi => by subst hS; exact ⟨hi.1.1, hi.2⟩)
    (fun m pre W' hp hi => hi.elim) ?assign ?body ?after
  case assign =>
    intro l' m pre c Wr K _ hi hK
    gi_wp2
    exact hK _ _ (.refl _ _ _) (.refl _ _) hi (by simp)
  case body =>
    rintro l' m pre c a' Wr hm _ _ ⟨⟨hc, hf⟩, hBl⟩ rfl hpart
    obtain ⟨hq, hcl8⟩ := hpl pre c hpart
    obtain ⟨q, hqe⟩ : ∃ q, crcL s0 pre = q := ⟨_, rfl⟩
    rw [hqe] at hc hq
    have htk := rg_take_any B q c Wr hq hcl8 hc hf
    have hsn : crcL s0 (pre ++ [c]) = crcByte q c := by rw [crcL_snoc, hqe]
    have HSN := Lib.hid hsn
    clear hsn hqe hpl
    gi_wp2_with (refine ⟨trivial, ?_⟩; gi_at_call 141; refine (CallsIn.inRound l' (callsIn_wide.2 htk)).mono ?_; rintro e W' ⟨⟨v, rfl⟩, hg', hc', hf'⟩)
    exact ⟨.of_grown hg' (by omega), .of_grown hg' (fun k hk => ⟨by have := hD k hk; have := hBl.size; omega, by have := hD k hk; omega⟩), ⟨by rw [HSN.out]; exact hc', hf'⟩, hBl.grown hg' (by have := hBl.size; omega) (fun k e => by cases e; exact Nat.le_refl _)⟩
  case after =>
    rintro E Wd hE ⟨hc, hBl⟩ hK
    have hsm := sum_any B (crcL s0 bs) Wd hcl hc
    rw [← hmore.out] at hsm
    go_wp2_with (go_at_call 142; refine hsm.mono ?_; rintro e w' ⟨rfl, rfl⟩)
    refine ⟨by simp, .inl ⟨_, _, rfl, run_takeDeferred hK, ?_⟩⟩
    exact ⟨_, results_tmp rfl _ _ _, rfl, by rw [← hBe] at hBl; exact taken_below hBl (by omega)⟩
theorem take_eq_succ {α : Type} (xs ys : List α) (k : Nat) (h : xs.take k = ys.take k) (hx : k < xs.length) (hy : k < ys.length) (he : xs[k] = ys[k]) : xs.take (k + 1) = ys.take (k + 1) := by
  rw [List.take_succ_eq_append_getElem hx, List.take_succ_eq_append_getElem hy, h, he]
set_option maxHeartbeats 400000 in
theorem same_any (v1 v2 : Value) (xs ys : List Nat) (w : World) (h1 : Reads w v1 (ints .u64 xs)) (h2 : Reads w v2 (ints .u64 ys)) (hx : xs.length ≤ 1048576) (hy : ys.length ≤ 1048576) :
    Calls Tryz.prog 14 #[v1, v2] w fun e w' => e = .returned (.bool (decide (xs = ys))) ∧ ∃ n, w' = w.drewN n := by
  obtain ⟨a, cap, rfl, hcap, hcells⟩ := h1.ints
  obtain ⟨b, cap2, rfl, hcap2, hcells2⟩ := h2.ints
  clear h1 h2
  by_cases hl : xs.length = ys.length
  · have hbe : (xs.length == ys.length) = true := by simp [hl]
    have HL := Lib.hid hl
    have hle : ys.length ≤ xs.length := by omega
    have hle2 : xs.length ≤ ys.length := by omega
    have hbi : (((xs.length : Nat) : Int) == ((ys.length : Nat) : Int)) = true := by simp; omega
    clear hl hbe
    go_enter Tryz.func14, Tryz.ntmps14
    go_wp2
    go_loopw [5] (fun i wr => ∃ k n : Nat, k ≤ xs.length ∧ i = .int .i64 k ∧ xs.take k = ys.take k ∧ wr = w.drewN n) (fun i _ => xs.length - (intOf i).toNat)
    case atStart => exact ⟨0, 0, by omega, rfl, rfl, rfl⟩
    case round =>
      obtain ⟨k, n, hk, rfl, ht, rfl⟩ := hrel
      have HT := Lib.hid ht
      clear ht
      by_cases hlt : k < xs.length
      · obtain ⟨p, o, rfl, hps, hc⟩ := hcells (by omega)
        obtain ⟨p2, o2, rfl, hps2, hc2⟩ := hcells2 (by omega)
        have hck := hc k hlt
        have hck2 := hc2 k (by omega)
        have hk2 : k < ys.length := by omega
        clear hc hc2 hcells hcells2
        simp only [hlt, hk2, getElem?_pos, Option.getD_some] at hck hck2
        obtain ⟨c, hce⟩ : ∃ c, xs[k] = c := ⟨_, rfl⟩
        obtain ⟨d, hde⟩ : ∃ d, ys[k] = d := ⟨_, rfl⟩
        rw [hce] at hck
        rw [hde] at hck2
        have i1 : (0 : Int) ≤ (k : Int) := by omega
        have i2 : (k : Int) < (xs.length : Int) := by omega
        have i3 : (k : Int) < (ys.length : Int) := by omega
        have Hc := Lib.hid hce
        have Hd := Lib.hid hde
        clear hce hde
        by_cases hcd : c = d
        · subst hcd
          go_wp2
          go_quiet (fail)
          go_wp2
          go_roundw
          case rel => exact ⟨k + 1, _, by omega, by go_num, take_eq_succ xs ys k HT.out hlt hk2 (by rw [Hc.out, Hd.out]), rfl⟩
          case measure => simp [intOf]; omega
        · have hne : ((c : Int) == (d : Int)) = false := by simp; omega
          go_wp2
          go_quiet (fail)
          go_wp2
          go_ret
          refine ⟨ret1 (congrArg Value.bool ?_), n + nq, by simp only [World.drewN_drewN]⟩
          symm
          rw [decide_eq_false_iff_not]
          intro e
          subst e
          exact hcd (by rw [← Hc.out, ← Hd.out])
      · obtain rfl : k = xs.length := by omega
        go_wp2
        go_ret
        refine ⟨ret1 (congrArg Value.bool ?_), _, rfl⟩
        symm
        rw [decide_eq_true_eq]
        have e := HT.out
        rw [List.take_length, HL.out, List.take_length] at e
        exact e
  · have hbi : (((xs.length : Nat) : Int) == ((ys.length : Nat) : Int)) = false := by simp; omega
    have HL := Lib.hid hl
    clear hl
    go_enter Tryz.func14, Tryz.ntmps14
    go_wp2
    go_ret
    refine ⟨ret1 (congrArg Value.bool ?_), 0, rfl⟩
    symm
    rw [decide_eq_false_iff_not]
    intro e
    exact HL.out (by rw [e])
theorem bytesL_lt (ws : List Nat) : ∀ x ∈ bytesL ws, x < 256 := by
  intro x hx
  simp only [bytesL, List.mem_flatMap] at hx
  obtain ⟨y, _, hy⟩ := hx
  simp only [byteL, List.mem_map] at hy
  obtain ⟨i, _, rfl⟩ := hy
  omega
def wsum (ws : List Nat) : Nat := more 0 (bytesL ws)
theorem wsum_lt (ws : List Nat) : wsum ws < 18446744073709551616 := more_lt _ _
theorem psum_any (v : Value) (bs : List Nat) (w : World) (hv : Reads w v (ints .u8 bs)) (hb : ∀ x ∈ bs, x < 256) (hlen : bs.length ≤ 9223372036854775807) :
    Calls Tryz.prog 83 #[v] w fun e w' => e = .returned (.int .u64 (more 0 bs)) ∧ Below w.heap.size w w' := by
  obtain ⟨a, cap, rfl, hcap, hcells⟩ := hv.ints
  have hm := more_any 0 _ bs w (by decide) hv hb hlen
  obtain ⟨n, hn⟩ : ∃ n, bs.length = n := ⟨_, rfl⟩
  rw [hn] at hm ⊢
  go_enter Tryz.func83, Tryz.ntmps83
  go_wp2_with (go_at_call 121; refine hm.mono ?_; rintro e w1 ⟨rfl, hb1⟩)
  go_ret
  exact ⟨rfl, hb1⟩
theorem pwords_any (v : Value) (ws : List Nat) (w : World) (hv : Reads w v (ints .u64 ws)) (hlen : ws.length ≤ 1048576) :
    Calls Tryz.prog 69 #[v] w fun e w' => e = .returned (.int .u64 (wsum ws)) ∧ Below w.heap.size w w' := by
  have hby := bytes_any v ws w hv hlen
  obtain ⟨a, cap, rfl, hcap, hcells⟩ := hv.ints
  obtain ⟨n, hn⟩ : ∃ n, ws.length = n := ⟨_, rfl⟩
  have hbl := bytesL_length ws
  obtain ⟨W, hW⟩ : ∃ W, wsum ws = W := ⟨_, rfl⟩
  have hW' : more 0 (bytesL ws) = W := hW
  rw [hn] at hby hlen hbl ⊢
  rw [hW]
  have HB := Lib.hid hbl
  have HY := Lib.hid hby
  have HW := Lib.hid hW'
  clear hby hbl hW hW' hcells
  go_enter Tryz.func69, Tryz.ntmps69
  go_wp2_with (first
    | (go_at_call 84; refine HY.out.mono ?_; rintro e w1 ⟨v', rfl, hown, hb1⟩; have hrd := reads_of_owns hown; clear hown)
    | (go_at_call 83; refine (psum_any _ _ _ hrd (bytesL_lt _) (by rw [HB.out]; omega)).mono ?_; rw [HW.out]; rintro e w2 ⟨rfl, hb2⟩))
  go_ret
  exact ⟨rfl, hb1.trans (hb2.mono hb1.size)⟩
theorem owns_low {w : World} {base base' e n : Nat} {v : Value} {xs : List Value} (h : w.ownsRow base' e 1 v n xs) (hb : base ≤ base') : w.ownsRow base e 1 v n xs := by
  refine ⟨h.1, ?_⟩
  rcases h.2 with h2 | ⟨g, cap, cur, rfl, hbg, hg, h3⟩
  · exact .inl h2
  · exact .inr ⟨g, cap, cur, rfl, Nat.le_trans hb hbg, hg, h3⟩
theorem pseal_own (v : Value) (ws : List Nat) (w : World) (hv : Reads w v (ints .u64 ws)) (hlen : ws.length ≤ 1048576) :
    Calls Tryz.prog 47 #[v] w fun e w' => ∃ v', e = .returned v' ∧ w'.ownsRow w.heap.size 25 1 v' (ws.length + 1) (ints .u64 (ws ++ [wsum ws])) ∧ Below w.heap.size w w' := by
  have hvr := Lib.hid hv
  obtain ⟨n, hn⟩ : ∃ n, ws.length = n := ⟨_, rfl⟩
  obtain ⟨a, cap, rfl, hcap, hcells⟩ := hv.intsN hn
  have hpw := Lib.hid fun (w' : World) (h : Reads w' (.slice a n cap) (ints .u64 ws)) => pwords_any _ ws w' h hlen
  obtain ⟨S, hS⟩ : ∃ S, wsum ws = S := ⟨_, rfl⟩
  rw [hS] at hpw ⊢
  rw [hn]
  rw [hn] at hlen
  have hU := run_upto3 El64 a n cap n hcap
  have hi : ints .u64 (ws ++ [S]) = ints .u64 ws ++ [.int .u64 S] := by simp
  have HI := Lib.hid hi
  have HT : ∀ w', Reads w' (.slice a n cap) (ints .u64 ws) → Reads w' (.slice a n n) (ints .u64 ws) := fun w' h => by
    have := h.take n (Nat.le_refl _) n (Nat.le_refl _)
    rwa [List.take_of_length_le (by simp; omega)] at this
  have HTH := Lib.hid HT
  clear hv hS hi HT hcells
  go_enter Tryz.func47, Tryz.ntmps47
  go_wp2
  go_region_law (first
    | (refine step_call1 rfl rfl (by first | (simp [Act.eval]; done) | (simp [Act.eval]; exact ⟨rfl, rfl⟩) | (simp [Act.eval]; rfl)) (enters_of Tryz.func69 (by kernel_rfl) rfl) (hpw.out _ (hvr.out.drew)) ?_; rintro e w1 ⟨rfl, hb1⟩; have hv1 := Lib.hid (HTH.out _ (hvr.out.drew.below hb1)); refine ⟨_, rfl, ?_⟩)
    | (refine step_full El64 rfl rfl (by first | (simp [Act.eval]; done) | (simp [Act.eval]; exact ⟨rfl, rfl⟩) | (simp [Act.eval]; rfl)) (by first | (simp [Act.eval]; done) | (simp [Act.eval]; exact ⟨rfl, rfl⟩) | (simp [Act.eval]; rfl)) (hv1.out.alloc _) (by first | exact cell_new _ _ _ | exact cell_new_d _ _ _) rfl (by omega) (by simp [maxLen]; omega) ?_; intro g cp w2 hown hgr))
  all_goals go_wp2
  all_goals go_ret
  all_goals
    have hb2 : Below w1.heap.size w1 w2 := ((Below.refl _ w1).alloc (Nat.le_refl _) _).grown hgr (by simp) (fun k e => by cases e)
    exact ⟨_, rfl, by rw [HI.out]; exact owns_low hown (by have h := hb1.size; have h2 : w.drew.heap.size = w.heap.size := rfl; simp; omega), (Below.refl _ w).drew.trans (hb1.trans (hb2.mono hb1.size))⟩
def jsixL (a : Nat → Nat) : List Nat := [a 0, a 1, a 2, a 3, a 4, a 5, a 6, a 7, a 8, a 9, a 10, a 11, a 12, a 13, a 14, a 15]
theorem jwith_any (h : Nat) (v : Value) (l : List Nat) (w : World) (hv : Reads w v (ints .u64 l)) (hl : l.length ≤ 1024) : Calls Tryz.prog 48 #[.int .u64 (h : Int), v] w fun x w' => ∃ v', x = .returned v' ∧ OwnW w' w.heap.size 25 v' (1 + l.length) (ints .u64 (h :: l)) ∧ Below w.heap.size w w' := by
  have q := Below.refl w.heap.size w
  obtain ⟨N, hN⟩ : ∃ N, l.length = N := ⟨_, rfl⟩
  obtain ⟨x, c, rfl, hc, _⟩ := hv.intsN hN
  have hlu : (ints .u64 l).length = N := by simp [ints, hN]
  refine X.fn Tryz.func48 rfl (n := 9) rfl rfl ?_
  refine Zr ?_; refine Za ?_; refine Zq ?_; refine Zr ?_; refine Zm ?_
  refine LL.lit (e := 25) [Value.int IntKind.u64 ↑h] 1 rfl rfl (fun _ => by kernel_rfl) rfl rfl ?_
  intro W2 g3 eg3 r4 z5 b1
  replace q := Zu q b1; replace hv := hv.up b1; refine Zm ?_
  refine LL.appendL rfl rfl El64 r4 (by first | assumption | exact OwnW.reads (by assumption)) (ints_one _ _) (by simp only [maxLen, List.length_map, List.length_cons, List.length_nil]; omega) (by simp only [maxLen, List.length_map, List.length_cons, List.length_nil]; omega) rfl rfl ?_
  have hlb9 := r4.lt
  intro v6 W7 o8 b9
  clear r4
  replace o8 := o8.low (show w.heap.size ≤ _ by omega)
  replace q := Zg q b9; have zb9 := b9.size; refine Za ?_; refine Zq ?_; refine ZR ?_; refine EE.ret _ rfl rfl ?_
  have ho := o8
  simp only [List.length_cons, List.length_nil, hlu, Nat.zero_add] at ho
  rw [hN]
  exact ⟨_, rfl, ho, q⟩
theorem row_part {w : World} {g e lo m : Nat} {xs : List Value} {ns : List Nat} (h : RowL w g e xs) (hx : (xs.drop lo).take m = ints .u64 ns) (hm : ns.length = m) : Reads w (.slice (some ⟨g, lo, none⟩) m m) (ints .u64 ns) := by
  have hl : (ints .u64 ns).length = m := by simp [ints, hm]
  have hc : Cells w ⟨g, lo, none⟩ (ints .u64 ns) := h.cells (by rw [hl]; exact hx)
  refine ⟨some ⟨g, lo, none⟩, m, by rw [hl], by rw [hl]; exact Nat.le_refl _, fun _ => ⟨g, lo, rfl, h.lt, fun j hj => ?_⟩⟩
  have := hc j _ (List.getElem?_eq_getElem hj)
  rw [add_plain] at this
  rw [this, List.getElem?_eq_getElem hj]
/-- An inode's body. -/
def bodyI (n : Nat) (a : Nat → Nat) : List Nat := n :: jsixL a
theorem jbody1_any (k : Int) (n : Nat) (a : Nat → Nat) (f t : Int) (fk tk : Nat) (r : Int) (d : Bool) (w : World) (hn : n ≤ 4096) : Calls Tryz.prog 57 #[redV k (n : Int) a f t fk tk r d] w fun x w' => ∃ v, x = .returned v ∧ Reads w' v (ints .u64 (bodyI n a)) ∧ Below w.heap.size w w' := by
  have q := Below.refl w.heap.size w
  have hl6 : (jsixL a).length = 16 := rfl
  refine X.fn Tryz.func57 rfl (n := 10) rfl rfl ?_
  refine Zr ?_
  refine LL.box (redL k (↑n) a f t fk tk r d) rfl rfl rfl rfl rfl ?_
  intro W2 g3 eg3 r4 z5 b1
  replace q := Zu q b1
  ((fail_if_success (have := rs)); have rs := row_part (lo := 2) (m := 16) (ns := jsixL a) (by assumption) rfl rfl)
  refine Za ?_; refine Zq ?_; refine Zc ?_
  refine CC.freeZ (fun W_ j => j < W_.heap.size ∧ (True)) (by kernel_rfl) (by kernel_rfl) (fun W7 b6 z8 => ?_)
  replace r4 := r4.up b6; replace q := Zu q b6; replace rs := rs.up b6
  have hok : Kept (fun j => j < W7.heap.size ∧ (True)) W7 W7 := Kept.refl _ _
  have fzr4 := fzRow (K := fun j => j < W7.heap.size ∧ (True)) r4 ⟨r4.lt, (by first | trivial | omega)⟩
  refine AA.pure 0 rfl hok (by kernel_rfl) (fun w' b' => R.field rfl rfl (I.fld rfl)) rfl rfl ?_
  refine AA.pure 1 rfl hok (by kernel_rfl) (fun w' b' => R.load rfl rfl (I.ld1 rfl (RowL.cell (fzr4 w' b') rfl))) rfl rfl ?_
  refine AA.pure 2 rfl hok (by kernel_rfl) (fun w' b' => R.convI rfl rfl rfl rfl (wrapU (by omega) (by omega))) rfl rfl ?_
  refine AA.pure 4 rfl hok (by kernel_rfl) (fun w' b' => R.field rfl rfl (I.fld rfl)) rfl rfl ?_
  refine AA.pure 5 rfl hok (by kernel_rfl) (fun w' b' => R.slice rfl rfl rfl rfl rfl (I.slA rfl)) rfl rfl ?_
  refine AA.one 3 (by kernel_rfl) ?_
  have l9 := r4.lt
  refine ZR.lit (e := 25) [Value.int IntKind.u64 ↑n] 1 rfl rfl rfl (fun _ => by kernel_rfl) rfl rfl ?_
  intro W11 g12 eg12 r13 z14 b10
  replace r4 := r4.up b10; replace q := Zu q b10; replace rs := rs.up b10; replace hok := Zh hok b10; have y15 := hok.size
  refine ⟨hok, ?_⟩
  refine AA.one 6 (by kernel_rfl) ?_
  refine ZR.appendL rfl rfl rfl El64 r13 (by first | assumption | exact OwnW.reads (by assumption)) (ints_one _ _) (by simp only [maxLen, List.length_map, List.length_cons, List.length_nil]; omega) (by simp only [maxLen, List.length_map, List.length_cons, List.length_nil]; omega) rfl rfl ?_
  have hlb19 := r13.lt
  intro v16 W17 o18 b19
  clear r13
  replace o18 := o18.low (show w.heap.size ≤ _ by omega)
  replace r4 := Zd r4 b19; replace q := Zg q b19
  replace rs := rs.gr b19 (by omega)
  replace hok := Zo hok b19; have zb19 := b19.size
  refine ⟨hok, ?_⟩
  refine AA.pure 7 rfl hok (by kernel_rfl) (fun w' b' => R.assign rfl rfl) rfl rfl ?_
  refine AA.done rfl ?_
  clear fzr4 hok
  refine ZT ?_; refine ZR ?_; refine EE.ret _ rfl rfl ?_
  exact ⟨_, rfl, OwnW.reads (by assumption), q⟩
/-- A name's words, sealed. -/
def wdsN (n f t : Nat) (fk tk r : Nat) (d : Bool) : List Nat := 1794 :: bodyN n f t fk tk r d
/-- An inode's words, sealed. -/
def wdsI (n : Nat) (a : Nat → Nat) : List Nat := 4353 :: bodyI n a
set_option maxRecDepth 100000 in
set_option maxHeartbeats 4000000 in
theorem ly_is_any (b i r t : Int) (k1 k2 : Nat) (a c d e : Int) (w : World) : Calls Tryz.prog 119 #[layV b i r t k1 k2 a c d e] w fun x w' => x = .returned (.bool (decide (isL b i r t a c d e))) ∧ Below w.heap.size w w' := by
  have q := Below.refl w.heap.size w
  refine X.fn Tryz.func119 rfl (n := 20) rfl rfl ?_
  by_cases hok : ly_okF b i r t
  · refine CC.seq ?_; refine CC.region ?_
    refine LL.box [Value.int IntKind.i64 b, Value.int IntKind.i64 i, Value.int IntKind.i64 r, Value.int IntKind.i64 t, Value.int IntKind.u64 ↑k1, Value.int IntKind.u64 ↑k2, Value.int IntKind.i64 a, Value.int IntKind.i64 c, Value.int IntKind.i64 d, Value.int IntKind.i64 e] rfl rfl rfl rfl rfl ?_
    intro W2 g3 eg3 r4 z5 b1
    replace q := q.trans (b1.mono q.size)
    refine LL.val (R.assign rfl rfl) rfl rfl rfl ?_
    refine LL.nilS ?_; refine CC.seq ?_; refine CC.region ?_
    refine LL.val (R.field rfl rfl (I.fld rfl)) rfl rfl rfl ?_
    refine LL.val (R.load rfl rfl (I.ldNc (vs := [Value.int IntKind.i64 b, Value.int IntKind.i64 i, Value.int IntKind.i64 r, Value.int IntKind.i64 t]) (RowL.cells r4 rfl) (by rfl) (by rfl))) rfl rfl rfl ?_
    refine LL.val (R.field rfl rfl (I.fld rfl)) rfl rfl rfl ?_
    refine LL.val (R.load rfl rfl (I.ldNc (vs := [Value.int IntKind.u64 ↑k1, Value.int IntKind.u64 ↑k2]) (RowL.cells r4 rfl) (by rfl) (by rfl))) rfl rfl rfl ?_
    refine LL.call (R.call rfl rfl rfl) rfl rfl rfl (ly_of_T _ _ _ _ _ _ _ (by first | assumption | omega)) ?_
    rintro e W7 ⟨rfl, b6⟩
    refine ⟨_, rfl, ?_⟩; have zb6 := b6.size; replace r4 := r4.up b6
    replace b1 := b1.trans (b6.mono b1.size)
    replace q := q.trans (b6.mono q.size)
    refine LL.val (R.move rfl rfl) rfl rfl rfl ?_
    refine LL.val (R.extract rfl rfl rfl) rfl rfl rfl ?_
    refine LL.val (R.extract rfl rfl rfl) rfl rfl rfl ?_
    have l9 := r4.lt
    refine LL.alloc ([Value.int IntKind.i64 0, Value.int IntKind.i64 0, Value.int IntKind.i64 0, Value.int IntKind.i64 0, Value.int IntKind.u64 0, Value.int IntKind.u64 0, Value.int IntKind.i64 0, Value.int IntKind.i64 0, Value.int IntKind.i64 0, Value.int IntKind.i64 0]) rfl rfl rfl rfl rfl ?_
    intro W11 g12 eg12 r13 z14 b10
    replace b6 := b6.trans (b10.mono b6.size)
    replace r4 := r4.up b10
    replace b1 := b1.trans (b10.mono b1.size)
    replace q := q.trans (b10.mono q.size)
    refine LL.storeN (vs := [Value.int IntKind.i64 b, Value.int IntKind.i64 i, Value.int IntKind.i64 r, Value.int IntKind.i64 t, Value.int IntKind.u64 ↑k1, Value.int IntKind.u64 ↑k2, Value.int IntKind.i64 9, Value.int IntKind.i64 (9 + i / 4), Value.int IntKind.i64 (9 + i / 4 + r / 4), Value.int IntKind.i64 (10 + i / 4 + r / 4)]) rfl rfl rfl rfl r13 (by exact Nat.le_of_ble_eq_true rfl) (ones_of rfl) rfl rfl ?_
    intro W16 r17 b15 z18
    have hlb15 := r13.lt
    replace r17 : RowL W16 _ 31 [Value.int IntKind.i64 b, Value.int IntKind.i64 i, Value.int IntKind.i64 r, Value.int IntKind.i64 t, Value.int IntKind.u64 ↑k1, Value.int IntKind.u64 ↑k2, Value.int IntKind.i64 9, Value.int IntKind.i64 (9 + i / 4), Value.int IntKind.i64 (9 + i / 4 + r / 4), Value.int IntKind.i64 (10 + i / 4 + r / 4)] := r17
    clear r13
    replace b10 := b10.grown b15 b10.size (by rintro k ⟨⟩; omega)
    replace b6 := b6.grown b15 b6.size (by rintro k ⟨⟩; omega)
    replace r4 := r4.gr b15 (by have := r4.lt; omega)
    replace b1 := b1.grown b15 b1.size (by rintro k ⟨⟩; omega)
    replace q := q.grown b15 q.size (by rintro k ⟨⟩; omega)
    have r13 := r17
    clear r17
    refine LL.val (R.assign rfl rfl) rfl rfl rfl ?_
    refine LL.nilS ?_; refine CC.seq ?_; refine CC.region ?_
    refine LL.val (R.move rfl rfl) rfl rfl rfl ?_
    refine LL.val (R.eqT rfl rfl rfl (by omega)) rfl rfl rfl ?_
    refine LL.val (R.move rfl rfl) rfl rfl rfl ?_
    refine LL.val (R.load rfl rfl (I.ldNc (vs := [Value.int IntKind.i64 b, Value.int IntKind.i64 i, Value.int IntKind.i64 r, Value.int IntKind.i64 t, Value.int IntKind.u64 ↑k1, Value.int IntKind.u64 ↑k2, Value.int IntKind.i64 9, Value.int IntKind.i64 (9 + i / 4), Value.int IntKind.i64 (9 + i / 4 + r / 4), Value.int IntKind.i64 (10 + i / 4 + r / 4)]) (RowL.cells r13 rfl) (by rfl) (by rfl))) rfl rfl rfl ?_
    refine LL.val (R.load rfl rfl (I.ldNc (vs := [Value.int IntKind.i64 b, Value.int IntKind.i64 i, Value.int IntKind.i64 r, Value.int IntKind.i64 t, Value.int IntKind.u64 ↑k1, Value.int IntKind.u64 ↑k2, Value.int IntKind.i64 a, Value.int IntKind.i64 c, Value.int IntKind.i64 d, Value.int IntKind.i64 e]) (RowL.cells r4 rfl) (by rfl) (by rfl))) rfl rfl rfl ?_
    refine LL.vsplit (fun h => R.eqST (p := (b : Int) = b ∧ (i : Int) = i ∧ (r : Int) = r ∧ (t : Int) = t ∧ (↑k1 : Int) = ↑k1 ∧ (↑k2 : Int) = ↑k2 ∧ (9 : Int) = a ∧ (9 + i / 4 : Int) = c ∧ (9 + i / 4 + r / 4 : Int) = d ∧ (10 + i / 4 + r / 4 : Int) = e) (bs := [decide ((b : Int) = b), decide ((i : Int) = i), decide ((r : Int) = r), decide ((t : Int) = t), decide ((↑k1 : Int) = ↑k1), decide ((↑k2 : Int) = ↑k2), decide ((9 : Int) = a), decide ((9 + i / 4 : Int) = c), decide ((9 + i / 4 + r / 4 : Int) = d), decide ((10 + i / 4 + r / 4 : Int) = e)]) rfl rfl rfl rfl (by kernel_rfl) (by kernel_rfl) (by simp) h) (fun h => R.eqSF (p := (b : Int) = b ∧ (i : Int) = i ∧ (r : Int) = r ∧ (t : Int) = t ∧ (↑k1 : Int) = ↑k1 ∧ (↑k2 : Int) = ↑k2 ∧ (9 : Int) = a ∧ (9 + i / 4 : Int) = c ∧ (9 + i / 4 + r / 4 : Int) = d ∧ (10 + i / 4 + r / 4 : Int) = e) (bs := [decide ((b : Int) = b), decide ((i : Int) = i), decide ((r : Int) = r), decide ((t : Int) = t), decide ((↑k1 : Int) = ↑k1), decide ((↑k2 : Int) = ↑k2), decide ((9 : Int) = a), decide ((9 + i / 4 : Int) = c), decide ((9 + i / 4 + r / 4 : Int) = d), decide ((10 + i / 4 + r / 4 : Int) = e)]) rfl rfl rfl rfl (by kernel_rfl) (by kernel_rfl) (by simp) h) rfl rfl rfl (fun c19 => ?_) (fun c19 => ?_)
    refine LL.val (R.pick rfl rfl rfl) rfl rfl rfl ?_
    refine LL.val (R.assign rfl rfl) rfl rfl rfl ?_
    refine LL.nilS ?_; refine CC.ret ?_; refine EE.ret _ rfl rfl ?_
    exact ⟨by simp [resV]; omega, q⟩
    refine LL.val (R.pick rfl rfl rfl) rfl rfl rfl ?_
    refine LL.val (R.assign rfl rfl) rfl rfl rfl ?_
    refine LL.nilS ?_; refine CC.ret ?_; refine EE.ret _ rfl rfl ?_
    exact ⟨by simp [resV]; omega, q⟩
  · refine CC.seq ?_; refine CC.region ?_
    refine LL.box [Value.int IntKind.i64 b, Value.int IntKind.i64 i, Value.int IntKind.i64 r, Value.int IntKind.i64 t, Value.int IntKind.u64 ↑k1, Value.int IntKind.u64 ↑k2, Value.int IntKind.i64 a, Value.int IntKind.i64 c, Value.int IntKind.i64 d, Value.int IntKind.i64 e] rfl rfl rfl rfl rfl ?_
    intro Wa2 ga3 ega3 ra4 za5 ba1
    replace q := q.trans (ba1.mono q.size)
    refine LL.val (R.assign rfl rfl) rfl rfl rfl ?_
    refine LL.nilS ?_; refine CC.seq ?_; refine CC.region ?_
    refine LL.val (R.field rfl rfl (I.fld rfl)) rfl rfl rfl ?_
    refine LL.val (R.load rfl rfl (I.ldNc (vs := [Value.int IntKind.i64 b, Value.int IntKind.i64 i, Value.int IntKind.i64 r, Value.int IntKind.i64 t]) (RowL.cells ra4 rfl) (by rfl) (by rfl))) rfl rfl rfl ?_
    refine LL.val (R.field rfl rfl (I.fld rfl)) rfl rfl rfl ?_
    refine LL.val (R.load rfl rfl (I.ldNc (vs := [Value.int IntKind.u64 ↑k1, Value.int IntKind.u64 ↑k2]) (RowL.cells ra4 rfl) (by rfl) (by rfl))) rfl rfl rfl ?_
    refine LL.call (R.call rfl rfl rfl) rfl rfl rfl (ly_of_F _ _ _ _ _ _ _ (by first | assumption | omega)) ?_
    rintro e Wa7 ⟨rfl, ba6⟩
    refine ⟨_, rfl, ?_⟩; have zba6 := ba6.size; replace ra4 := ra4.up ba6
    replace ba1 := ba1.trans (ba6.mono ba1.size)
    replace q := q.trans (ba6.mono q.size)
    refine LL.val (R.move rfl rfl) rfl rfl rfl ?_
    refine LL.val (R.extract rfl rfl rfl) rfl rfl rfl ?_
    refine LL.val (R.extract rfl rfl rfl) rfl rfl rfl ?_
    have la9 := ra4.lt
    refine LL.alloc ([Value.int IntKind.i64 0, Value.int IntKind.i64 0, Value.int IntKind.i64 0, Value.int IntKind.i64 0, Value.int IntKind.u64 0, Value.int IntKind.u64 0, Value.int IntKind.i64 0, Value.int IntKind.i64 0, Value.int IntKind.i64 0, Value.int IntKind.i64 0]) rfl rfl rfl rfl rfl ?_
    intro Wa11 ga12 ega12 ra13 za14 ba10
    replace ba6 := ba6.trans (ba10.mono ba6.size)
    replace ra4 := ra4.up ba10
    replace ba1 := ba1.trans (ba10.mono ba1.size)
    replace q := q.trans (ba10.mono q.size)
    refine LL.storeN (vs := [Value.int IntKind.i64 0, Value.int IntKind.i64 0, Value.int IntKind.i64 0, Value.int IntKind.i64 0, Value.int IntKind.u64 ↑0, Value.int IntKind.u64 ↑0, Value.int IntKind.i64 0, Value.int IntKind.i64 0, Value.int IntKind.i64 0, Value.int IntKind.i64 0]) rfl rfl rfl rfl ra13 (by exact Nat.le_of_ble_eq_true rfl) (ones_of rfl) rfl rfl ?_
    intro Wa16 ra17 ba15 za18
    have hlba15 := ra13.lt
    replace ra17 : RowL Wa16 _ 31 [Value.int IntKind.i64 0, Value.int IntKind.i64 0, Value.int IntKind.i64 0, Value.int IntKind.i64 0, Value.int IntKind.u64 ↑0, Value.int IntKind.u64 ↑0, Value.int IntKind.i64 0, Value.int IntKind.i64 0, Value.int IntKind.i64 0, Value.int IntKind.i64 0] := ra17
    clear ra13
    replace ba10 := ba10.grown ba15 ba10.size (by rintro k ⟨⟩; omega)
    replace ba6 := ba6.grown ba15 ba6.size (by rintro k ⟨⟩; omega)
    replace ra4 := ra4.gr ba15 (by have := ra4.lt; omega)
    replace ba1 := ba1.grown ba15 ba1.size (by rintro k ⟨⟩; omega)
    replace q := q.grown ba15 q.size (by rintro k ⟨⟩; omega)
    have ra13 := ra17
    clear ra17
    refine LL.val (R.assign rfl rfl) rfl rfl rfl ?_
    refine LL.nilS ?_; refine CC.seq ?_; refine CC.region ?_
    refine LL.val (R.move rfl rfl) rfl rfl rfl ?_
    refine LL.val (R.eqF rfl rfl rfl (by omega)) rfl rfl rfl ?_
    refine LL.val (R.move rfl rfl) rfl rfl rfl ?_
    refine LL.skip rfl rfl ?_; refine LL.skip rfl rfl ?_; refine LL.skip rfl rfl ?_
    refine LL.val (R.pick rfl rfl rfl) rfl rfl rfl ?_
    refine LL.val (R.assign rfl rfl) rfl rfl rfl ?_
    refine LL.nilS ?_; refine CC.ret ?_; refine EE.ret _ rfl rfl ?_
    exact ⟨by simp [resV]; omega, q⟩
set_option maxRecDepth 100000 in
set_option maxHeartbeats 4000000 in
theorem ly_zero_any (b i r t : Int) (k1 k2 : Nat) (w : World) : Calls Tryz.prog 132 #[undV b i r t k1 k2] w fun e w' => e = .returned (.int .i64 0) ∧ Below w.heap.size w w' := by
  have q := Below.refl w.heap.size w
  refine X.fn Tryz.func132 rfl (n := 3) rfl rfl ?_
  refine CC.seq ?_; refine CC.region ?_
  refine LL.box [Value.int IntKind.i64 b, Value.int IntKind.i64 i, Value.int IntKind.i64 r, Value.int IntKind.i64 t, Value.int IntKind.u64 ↑k1, Value.int IntKind.u64 ↑k2] rfl rfl rfl rfl rfl ?_
  intro W2 g3 eg3 r4 z5 b1
  replace q := q.trans (b1.mono q.size)
  refine LL.val (R.assign rfl rfl) rfl rfl rfl ?_
  refine LL.nilS ?_; refine CC.seq ?_; refine CC.region ?_
  refine LL.val (R.assign rfl rfl) rfl rfl rfl ?_
  refine LL.nilS ?_; refine CC.ret ?_; refine EE.ret _ rfl rfl ?_
  exact ⟨rfl, q⟩
set_option maxRecDepth 100000 in
set_option maxHeartbeats 4000000 in
theorem ly_one_any (b i r t : Int) (k1 k2 : Nat) (w : World) : Calls Tryz.prog 133 #[undV b i r t k1 k2] w fun e w' => e = .returned (.int .i64 1) ∧ Below w.heap.size w w' := by
  have q := Below.refl w.heap.size w
  refine X.fn Tryz.func133 rfl (n := 3) rfl rfl ?_
  refine CC.seq ?_; refine CC.region ?_
  refine LL.box [Value.int IntKind.i64 b, Value.int IntKind.i64 i, Value.int IntKind.i64 r, Value.int IntKind.i64 t, Value.int IntKind.u64 ↑k1, Value.int IntKind.u64 ↑k2] rfl rfl rfl rfl rfl ?_
  intro W2 g3 eg3 r4 z5 b1
  replace q := q.trans (b1.mono q.size)
  refine LL.val (R.assign rfl rfl) rfl rfl rfl ?_
  refine LL.nilS ?_; refine CC.seq ?_; refine CC.region ?_
  refine LL.val (R.assign rfl rfl) rfl rfl rfl ?_
  refine LL.nilS ?_; refine CC.ret ?_; refine EE.ret _ rfl rfl ?_
  exact ⟨rfl, q⟩
set_option maxRecDepth 100000 in
set_option maxHeartbeats 4000000 in
theorem ly_kinds1_any (b i r t : Int) (k1 k2 : Nat) (w : World) : Calls Tryz.prog 134 #[undV b i r t k1 k2] w fun e w' => e = .returned (.int .i64 8) ∧ Below w.heap.size w w' := by
  have q := Below.refl w.heap.size w
  refine X.fn Tryz.func134 rfl (n := 3) rfl rfl ?_
  refine CC.seq ?_; refine CC.region ?_
  refine LL.box [Value.int IntKind.i64 b, Value.int IntKind.i64 i, Value.int IntKind.i64 r, Value.int IntKind.i64 t, Value.int IntKind.u64 ↑k1, Value.int IntKind.u64 ↑k2] rfl rfl rfl rfl rfl ?_
  intro W2 g3 eg3 r4 z5 b1
  replace q := q.trans (b1.mono q.size)
  refine LL.val (R.assign rfl rfl) rfl rfl rfl ?_
  refine LL.nilS ?_; refine CC.seq ?_; refine CC.region ?_
  refine LL.val (R.assign rfl rfl) rfl rfl rfl ?_
  refine LL.nilS ?_; refine CC.ret ?_; refine EE.ret _ rfl rfl ?_
  exact ⟨rfl, q⟩
abbrev ly_fnV (f : Nat) : Value := .func (.func f) #[] #[]
abbrev ly_kindsL : List Value := [.int .i64 1, ly_fnV 132, ly_fnV 133, ly_fnV 132, .int .i64 64, .int .i64 2, ly_fnV 133, ly_fnV 134, ly_fnV 132, .int .i64 64, .int .i64 3, ly_fnV 135, ly_fnV 136, ly_fnV 133, .int .i64 16, .int .i64 4, ly_fnV 67, ly_fnV 137, ly_fnV 133, .int .i64 16, .int .i64 5, ly_fnV 68, ly_fnV 133, ly_fnV 132, .int .i64 64, .int .i64 6, ly_fnV 66, ly_fnV 138, ly_fnV 66, .int .i64 64]
set_option maxRecDepth 100000 in
set_option maxHeartbeats 4000000 in
theorem ly_kinds_any (w : World) : Calls Tryz.prog 120 #[] w fun e w' => ∃ g, e = .returned (.slice (some ⟨g, 0, none⟩) 6 6) ∧ RowL w' g 175 ly_kindsL ∧ w.heap.size ≤ g ∧ Below w.heap.size w w' := by
  have q := Below.refl w.heap.size w
  refine X.fn Tryz.func120 rfl (n := 8) rfl rfl ?_
  refine CC.seq ?_; refine CC.region ?_
  refine LL.val (R.assign rfl rfl) rfl rfl rfl ?_
  refine LL.nilS ?_; refine CC.seq ?_; refine CC.region ?_
  refine LL.val (R.buildV rfl rfl (v := .agg #[Value.int IntKind.i64 1, Value.func (Fn.func 132) #[] #[], Value.func (Fn.func 133) #[] #[], Value.func (Fn.func 132) #[] #[], Value.int IntKind.i64 64]) (fun _ => by kernel_rfl)) rfl rfl rfl ?_
  refine LL.val (R.buildV rfl rfl (v := .agg #[Value.int IntKind.i64 2, Value.func (Fn.func 133) #[] #[], Value.func (Fn.func 134) #[] #[], Value.func (Fn.func 132) #[] #[], Value.int IntKind.i64 64]) (fun _ => by kernel_rfl)) rfl rfl rfl ?_
  refine LL.val (R.buildV rfl rfl (v := .agg #[Value.int IntKind.i64 3, Value.func (Fn.func 135) #[] #[], Value.func (Fn.func 136) #[] #[], Value.func (Fn.func 133) #[] #[], Value.int IntKind.i64 16]) (fun _ => by kernel_rfl)) rfl rfl rfl ?_
  refine LL.val (R.buildV rfl rfl (v := .agg #[Value.int IntKind.i64 4, Value.func (Fn.func 67) #[] #[], Value.func (Fn.func 137) #[] #[], Value.func (Fn.func 133) #[] #[], Value.int IntKind.i64 16]) (fun _ => by kernel_rfl)) rfl rfl rfl ?_
  refine LL.val (R.buildV rfl rfl (v := .agg #[Value.int IntKind.i64 5, Value.func (Fn.func 68) #[] #[], Value.func (Fn.func 133) #[] #[], Value.func (Fn.func 132) #[] #[], Value.int IntKind.i64 64]) (fun _ => by kernel_rfl)) rfl rfl rfl ?_
  refine LL.val (R.buildV rfl rfl (v := .agg #[Value.int IntKind.i64 6, Value.func (Fn.func 66) #[] #[], Value.func (Fn.func 138) #[] #[], Value.func (Fn.func 66) #[] #[], Value.int IntKind.i64 64]) (fun _ => by kernel_rfl)) rfl rfl rfl ?_
  refine LL.lit (e := 175) [Value.int IntKind.i64 1, Value.func (Fn.func 132) #[] #[], Value.func (Fn.func 133) #[] #[], Value.func (Fn.func 132) #[] #[], Value.int IntKind.i64 64, Value.int IntKind.i64 2, Value.func (Fn.func 133) #[] #[], Value.func (Fn.func 134) #[] #[], Value.func (Fn.func 132) #[] #[], Value.int IntKind.i64 64, Value.int IntKind.i64 3, Value.func (Fn.func 135) #[] #[], Value.func (Fn.func 136) #[] #[], Value.func (Fn.func 133) #[] #[], Value.int IntKind.i64 16, Value.int IntKind.i64 4, Value.func (Fn.func 67) #[] #[], Value.func (Fn.func 137) #[] #[], Value.func (Fn.func 133) #[] #[], Value.int IntKind.i64 16, Value.int IntKind.i64 5, Value.func (Fn.func 68) #[] #[], Value.func (Fn.func 133) #[] #[], Value.func (Fn.func 132) #[] #[], Value.int IntKind.i64 64, Value.int IntKind.i64 6, Value.func (Fn.func 66) #[] #[], Value.func (Fn.func 138) #[] #[], Value.func (Fn.func 66) #[] #[], Value.int IntKind.i64 64] 6 rfl rfl (fun _ => by kernel_rfl) rfl rfl ?_
  intro W2 g3 eg3 r4 z5 b1
  replace q := q.trans (b1.mono q.size)
  refine LL.val (R.assign rfl rfl) rfl rfl rfl ?_
  refine LL.nilS ?_; refine CC.ret ?_; refine EE.ret _ rfl rfl ?_
  exact ⟨_, rfl, by assumption, by omega, q⟩
set_option maxRecDepth 100000 in
set_option maxHeartbeats 8000000 in
theorem ly_first2_any (b i r t : Int) (k1 k2 : Nat) (a c d e n : Int) (w : World) (hl : isL b i r t a c d e) (hn : 0 ≤ n ∧ n ≤ 7) : Calls Tryz.prog 82 #[layV b i r t k1 k2 a c d e, .int .i64 2, .int .i64 n] w fun x w' => x = .returned (.tuple #[.int .i64 (64 + 64 * n), .int .i64 0]) ∧ Below w.heap.size w w' := by
  have q := Below.refl w.heap.size w
  refine X.fn Tryz.func82 rfl (n := 63) rfl rfl ?_
  refine CC.seq ?_; refine CC.region ?_
  refine LL.box [Value.int IntKind.i64 b, Value.int IntKind.i64 i, Value.int IntKind.i64 r, Value.int IntKind.i64 t, Value.int IntKind.u64 ↑k1, Value.int IntKind.u64 ↑k2, Value.int IntKind.i64 a, Value.int IntKind.i64 c, Value.int IntKind.i64 d, Value.int IntKind.i64 e] rfl rfl rfl rfl rfl ?_
  intro W2 g3 eg3 r4 z5 b1
  replace q := q.trans (b1.mono q.size)
  refine LL.val (R.assign rfl rfl) rfl rfl rfl ?_
  refine LL.val (R.assign rfl rfl) rfl rfl rfl ?_
  refine LL.nilS ?_; refine CC.seq ?_; refine CC.seq ?_; refine CC.region ?_
  refine LL.val (R.load rfl rfl (I.ldNc (vs := [Value.int IntKind.i64 b, Value.int IntKind.i64 i, Value.int IntKind.i64 r, Value.int IntKind.i64 t, Value.int IntKind.u64 ↑k1, Value.int IntKind.u64 ↑k2, Value.int IntKind.i64 a, Value.int IntKind.i64 c, Value.int IntKind.i64 d, Value.int IntKind.i64 e]) (RowL.cells r4 rfl) (by rfl) (by rfl))) rfl rfl rfl ?_
  refine LL.callBT (R.call rfl rfl rfl) rfl rfl rfl (ly_is_any _ _ _ _ _ _ _ _ _ _ _) (by first | assumption | omega) (fun W7 b6 => ?_)
  have zb6 := b6.size; replace r4 := r4.up b6
  replace b1 := b1.trans (b6.mono b1.size)
  replace q := q.trans (b6.mono q.size)
  refine LL.val (R.not rfl rfl) rfl rfl rfl ?_
  refine LL.nilS ?_; refine CC.no rfl ?_; refine CC.skip ?_; refine EE.thenN ?_; refine CC.seq ?_; refine CC.region ?_
  refine LL.val (R.field rfl rfl (I.fld rfl)) rfl rfl rfl ?_
  refine LL.val (R.load rfl rfl (I.ldNc (vs := [Value.int IntKind.i64 b, Value.int IntKind.i64 i, Value.int IntKind.i64 r, Value.int IntKind.i64 t]) (RowL.cells r4 rfl) (by rfl) (by rfl))) rfl rfl rfl ?_
  refine LL.val (R.field rfl rfl (I.fld rfl)) rfl rfl rfl ?_
  refine LL.val (R.load rfl rfl (I.ldNc (vs := [Value.int IntKind.u64 ↑k1, Value.int IntKind.u64 ↑k2]) (RowL.cells r4 rfl) (by rfl) (by rfl))) rfl rfl rfl ?_
  refine LL.val (R.buildV rfl rfl (v := .agg #[Value.int IntKind.i64 b, Value.int IntKind.i64 i, Value.int IntKind.i64 r, Value.int IntKind.i64 t, Value.int IntKind.u64 ↑k1, Value.int IntKind.u64 ↑k2]) (fun _ => by kernel_rfl)) rfl rfl rfl ?_
  have l8 := r4.lt
  refine LL.alloc ([Value.int IntKind.i64 0, Value.int IntKind.i64 0, Value.int IntKind.i64 0, Value.int IntKind.i64 0, Value.int IntKind.u64 0, Value.int IntKind.u64 0]) rfl rfl rfl rfl rfl ?_
  intro W10 g11 eg11 r12 z13 b9
  replace b6 := b6.trans (b9.mono b6.size)
  replace r4 := r4.up b9
  replace b1 := b1.trans (b9.mono b1.size)
  replace q := q.trans (b9.mono q.size)
  refine LL.storeN (vs := [Value.int IntKind.i64 b, Value.int IntKind.i64 i, Value.int IntKind.i64 r, Value.int IntKind.i64 t, Value.int IntKind.u64 ↑k1, Value.int IntKind.u64 ↑k2]) rfl rfl rfl rfl r12 (by exact Nat.le_of_ble_eq_true rfl) (ones_of rfl) rfl rfl ?_
  intro W15 r16 b14 z17
  have hlb14 := r12.lt
  replace r16 : RowL W15 _ 118 [Value.int IntKind.i64 b, Value.int IntKind.i64 i, Value.int IntKind.i64 r, Value.int IntKind.i64 t, Value.int IntKind.u64 ↑k1, Value.int IntKind.u64 ↑k2] := r16
  clear r12
  replace b9 := b9.grown b14 b9.size (by rintro k ⟨⟩; omega)
  replace b6 := b6.grown b14 b6.size (by rintro k ⟨⟩; omega)
  replace r4 := r4.gr b14 (by have := r4.lt; omega)
  replace b1 := b1.grown b14 b1.size (by rintro k ⟨⟩; omega)
  replace q := q.grown b14 q.size (by rintro k ⟨⟩; omega)
  have r12 := r16
  clear r16
  refine LL.nilS ?_; refine CC.seq ?_; refine CC.seq ?_; refine CC.region ?_
  refine LL.call (R.call rfl rfl rfl) rfl rfl rfl (ly_kinds_any _) ?_
  rintro e W19 ⟨g20, rfl, r21, l22, b18⟩
  refine ⟨_, rfl, ?_⟩; have zb18 := b18.size
  replace b9 := b9.trans (b18.mono b9.size)
  replace b6 := b6.trans (b18.mono b6.size)
  replace r4 := r4.up b18
  replace b1 := b1.trans (b18.mono b1.size)
  replace q := q.trans (b18.mono q.size)
  replace r12 := r12.up b18
  refine LL.val (R.len rfl rfl rfl rfl) rfl rfl rfl ?_
  refine LL.val (R.move rfl rfl) rfl rfl rfl ?_
  refine LL.nilS ?_; refine CC.block ?_
  refine CC.loopN 7 ?_
  refine RN.step ?_
  refine CC.seq ?_; refine CC.region ?_
  refine LL.val (R.ltT rfl rfl rfl (by omega)) rfl rfl rfl ?_
  refine LL.nilS ?_; refine CC.seq ?_; refine CC.yes rfl ?_; refine CC.skip ?_; refine EE.thenN ?_; refine CC.seq ?_; refine CC.block ?_; refine CC.seq ?_; refine CC.region ?_
  refine LL.val (R.index rfl rfl rfl (I.ixSc rfl rfl (by omega))) rfl rfl rfl ?_
  refine LL.val (R.load rfl rfl (I.ldNc (vs := [Value.int IntKind.i64 1, ly_fnV 132, ly_fnV 133, ly_fnV 132, Value.int IntKind.i64 64]) (RowL.cells r21 rfl) (by rfl) (by rfl))) rfl rfl rfl ?_
  have l24 := r21.lt; have l25 := r4.lt; have l26 := r12.lt
  refine LL.alloc ([Value.int IntKind.i64 0, Value.nilFunc, Value.nilFunc, Value.nilFunc, Value.int IntKind.i64 0]) rfl rfl rfl rfl rfl ?_
  intro W28 g29 eg29 r30 z31 b27
  replace r21 := r21.up b27
  replace b18 := b18.trans (b27.mono b18.size)
  replace b9 := b9.trans (b27.mono b9.size)
  replace b6 := b6.trans (b27.mono b6.size)
  replace r4 := r4.up b27
  replace b1 := b1.trans (b27.mono b1.size)
  replace q := q.trans (b27.mono q.size)
  replace r12 := r12.up b27
  refine LL.storeN (vs := [Value.int IntKind.i64 1, ly_fnV 132, ly_fnV 133, ly_fnV 132, Value.int IntKind.i64 64]) rfl rfl rfl rfl r30 (by exact Nat.le_of_ble_eq_true rfl) (ones_of rfl) rfl rfl ?_
  intro W33 r34 b32 z35
  have hlb32 := r30.lt
  replace r34 : RowL W33 _ 175 [Value.int IntKind.i64 1, ly_fnV 132, ly_fnV 133, ly_fnV 132, Value.int IntKind.i64 64] := r34
  clear r30
  replace b27 := b27.grown b32 b27.size (by rintro k ⟨⟩; omega)
  replace r21 := r21.gr b32 (by have := r21.lt; omega)
  replace b18 := b18.grown b32 b18.size (by rintro k ⟨⟩; omega)
  replace b9 := b9.grown b32 b9.size (by rintro k ⟨⟩; omega)
  replace b6 := b6.grown b32 b6.size (by rintro k ⟨⟩; omega)
  replace r4 := r4.gr b32 (by have := r4.lt; omega)
  replace b1 := b1.grown b32 b1.size (by rintro k ⟨⟩; omega)
  replace q := q.grown b32 q.size (by rintro k ⟨⟩; omega)
  replace r12 := r12.gr b32 (by have := r12.lt; omega)
  have r30 := r34
  clear r34
  refine LL.nilS ?_; refine CC.seq ?_
  refine CC.grow (by kernel_rfl) (by kernel_rfl) ?_
  refine GG.val (fun w' b' => R.field rfl rfl (I.fld rfl)) rfl rfl ?_
  refine GG.val (fun w' b' => R.load rfl rfl (I.ld1 rfl (RowL.cell (r30.up b') rfl))) rfl rfl ?_
  refine GG.val (fun w' b' => R.move rfl rfl) rfl rfl ?_
  refine GG.val (fun w' b' => R.eqF rfl rfl rfl (by omega)) rfl rfl ?_
  refine GG.val (fun w' b' => R.move rfl rfl) rfl rfl ?_
  refine GG.skip rfl rfl ?_
  refine GG.skip rfl rfl ?_
  refine GG.skip rfl rfl ?_
  refine GG.skip rfl rfl ?_
  refine GG.skip rfl rfl ?_
  refine GG.skip rfl rfl ?_
  refine GG.skip rfl rfl ?_
  refine GG.skip rfl rfl ?_
  refine GG.skip rfl rfl ?_
  refine GG.skip rfl rfl ?_
  refine GG.skip rfl rfl ?_
  refine GG.skip rfl rfl ?_
  refine GG.skip rfl rfl ?_
  refine GG.skip rfl rfl ?_
  refine GG.skip rfl rfl ?_
  refine GG.skip rfl rfl ?_
  refine GG.val (fun w' b' => R.pick rfl rfl rfl) rfl rfl ?_
  refine GG.nilQ (fun W40 b39 => ?_)
  have zb39 := b39.size
  replace b27 := b27.trans (b39.mono b27.size)
  replace r21 := r21.up b39
  replace b18 := b18.trans (b39.mono b18.size)
  replace b9 := b9.trans (b39.mono b9.size)
  replace b6 := b6.trans (b39.mono b6.size)
  replace r4 := r4.up b39
  replace b1 := b1.trans (b39.mono b1.size)
  replace q := q.trans (b39.mono q.size)
  replace r12 := r12.up b39; replace r30 := r30.up b39; refine EE.thenN ?_; refine CC.no rfl ?_; refine CC.skip ?_; refine EE.inN ?_; refine EE.thenN ?_; refine CC.region ?_
  refine LL.val (R.addIz (z := 1) rfl rfl rfl (by decide) (by decide)) rfl rfl rfl ?_
  refine LL.val (R.move rfl rfl) rfl rfl rfl ?_
  refine LL.nil ?_; refine EE.again ?_
  refine RN.step ?_
  refine CC.seq ?_; refine CC.region ?_
  refine LL.val (R.ltT rfl rfl rfl (by omega)) rfl rfl rfl ?_
  refine LL.nilS ?_; refine CC.seq ?_; refine CC.yes rfl ?_; refine CC.skip ?_; refine EE.thenN ?_; refine CC.seq ?_; refine CC.block ?_; refine CC.seq ?_; refine CC.region ?_
  refine LL.val (R.index rfl rfl rfl (I.ixSc rfl rfl (by omega))) rfl rfl rfl ?_
  refine LL.val (R.load rfl rfl (I.ldNc (vs := [Value.int IntKind.i64 2, ly_fnV 133, ly_fnV 134, ly_fnV 132, Value.int IntKind.i64 64]) (RowL.cells r21 rfl) (by rfl) (by rfl))) rfl rfl rfl ?_
  have l41 := r21.lt; have l42 := r4.lt; have l43 := r12.lt; have l44 := r30.lt
  refine LL.alloc ([Value.int IntKind.i64 0, Value.nilFunc, Value.nilFunc, Value.nilFunc, Value.int IntKind.i64 0]) rfl rfl rfl rfl rfl ?_
  intro W46 g47 eg47 r48 z49 b45
  replace b39 := b39.trans (b45.mono b39.size)
  replace b27 := b27.trans (b45.mono b27.size)
  replace r21 := r21.up b45
  replace b18 := b18.trans (b45.mono b18.size)
  replace b9 := b9.trans (b45.mono b9.size)
  replace b6 := b6.trans (b45.mono b6.size)
  replace r4 := r4.up b45
  replace b1 := b1.trans (b45.mono b1.size)
  replace q := q.trans (b45.mono q.size)
  replace r12 := r12.up b45; replace r30 := r30.up b45
  refine LL.storeN (vs := [Value.int IntKind.i64 2, ly_fnV 133, ly_fnV 134, ly_fnV 132, Value.int IntKind.i64 64]) rfl rfl rfl rfl r48 (by exact Nat.le_of_ble_eq_true rfl) (ones_of rfl) rfl rfl ?_
  intro W51 r52 b50 z53
  have hlb50 := r48.lt
  replace r52 : RowL W51 _ 175 [Value.int IntKind.i64 2, ly_fnV 133, ly_fnV 134, ly_fnV 132, Value.int IntKind.i64 64] := r52
  clear r48
  replace b45 := b45.grown b50 b45.size (by rintro k ⟨⟩; omega)
  replace b39 := b39.grown b50 b39.size (by rintro k ⟨⟩; omega)
  replace b27 := b27.grown b50 b27.size (by rintro k ⟨⟩; omega)
  replace r21 := r21.gr b50 (by have := r21.lt; omega)
  replace b18 := b18.grown b50 b18.size (by rintro k ⟨⟩; omega)
  replace b9 := b9.grown b50 b9.size (by rintro k ⟨⟩; omega)
  replace b6 := b6.grown b50 b6.size (by rintro k ⟨⟩; omega)
  replace r4 := r4.gr b50 (by have := r4.lt; omega)
  replace b1 := b1.grown b50 b1.size (by rintro k ⟨⟩; omega)
  replace q := q.grown b50 q.size (by rintro k ⟨⟩; omega)
  replace r12 := r12.gr b50 (by have := r12.lt; omega)
  replace r30 := r30.gr b50 (by have := r30.lt; omega)
  have r48 := r52
  clear r52
  refine LL.nilS ?_; refine CC.seq ?_
  refine CC.grow (by kernel_rfl) (by kernel_rfl) ?_
  refine GG.val (fun w' b' => R.field rfl rfl (I.fld rfl)) rfl rfl ?_
  refine GG.val (fun w' b' => R.load rfl rfl (I.ld1 rfl (RowL.cell (r48.up b') rfl))) rfl rfl ?_
  refine GG.val (fun w' b' => R.move rfl rfl) rfl rfl ?_
  refine GG.val (fun w' b' => R.eqT rfl rfl rfl (by omega)) rfl rfl ?_
  refine GG.val (fun w' b' => R.move rfl rfl) rfl rfl ?_
  refine GG.val (fun w' b' => R.move rfl rfl) rfl rfl ?_
  refine GG.val (fun w' b' => R.field rfl rfl (I.fld rfl)) rfl rfl ?_
  refine GG.val (fun w' b' => R.load rfl rfl (I.ld1 rfl (RowL.cell (r48.up b') rfl))) rfl rfl ?_
  refine GG.val (fun w' b' => R.load rfl rfl (I.ldNc (vs := [Value.int IntKind.i64 b, Value.int IntKind.i64 i, Value.int IntKind.i64 r, Value.int IntKind.i64 t, Value.int IntKind.u64 ↑k1, Value.int IntKind.u64 ↑k2]) (RowL.cells (r12.up b') rfl) (by rfl) (by rfl))) rfl rfl ?_
  refine GG.call (fun w' => (R.callV rfl rfl rfl rfl)) rfl rfl (fun w' b' => (ly_zero_any _ _ _ _ _ _ w').mono fun e W' h => ⟨h.1, b'.trans (h.2.mono b'.size)⟩) ?_
  refine GG.val (fun w' b' => R.field rfl rfl (I.fld rfl)) rfl rfl ?_
  refine GG.val (fun w' b' => R.load rfl rfl (I.ld1 rfl (RowL.cell (r48.up b') rfl))) rfl rfl ?_
  refine GG.val (fun w' b' => R.load rfl rfl (I.ldNc (vs := [Value.int IntKind.i64 b, Value.int IntKind.i64 i, Value.int IntKind.i64 r, Value.int IntKind.i64 t, Value.int IntKind.u64 ↑k1, Value.int IntKind.u64 ↑k2]) (RowL.cells (r12.up b') rfl) (by rfl) (by rfl))) rfl rfl ?_
  refine GG.call (fun w' => (R.callV rfl rfl rfl rfl)) rfl rfl (fun w' b' => (ly_zero_any _ _ _ _ _ _ w').mono fun e W' h => ⟨h.1, b'.trans (h.2.mono b'.size)⟩) ?_
  refine GG.val (fun w' b' => R.field rfl rfl (I.fld rfl)) rfl rfl ?_
  refine GG.val (fun w' b' => R.load rfl rfl (I.ld1 rfl (RowL.cell (r48.up b') rfl))) rfl rfl ?_
  refine GG.val (fun w' b' => R.load rfl rfl (I.ldNc (vs := [Value.int IntKind.i64 b, Value.int IntKind.i64 i, Value.int IntKind.i64 r, Value.int IntKind.i64 t, Value.int IntKind.u64 ↑k1, Value.int IntKind.u64 ↑k2]) (RowL.cells (r12.up b') rfl) (by rfl) (by rfl))) rfl rfl ?_
  refine GG.call (fun w' => (R.callV rfl rfl rfl rfl)) rfl rfl (fun w' b' => (ly_kinds1_any _ _ _ _ _ _ w').mono fun e W' h => ⟨h.1, b'.trans (h.2.mono b'.size)⟩) ?_
  refine GG.val (fun w' b' => R.addIz (z := 8) rfl rfl rfl (by decide) (by decide)) rfl rfl ?_
  refine GG.val (fun w' b' => R.subIz (z := 7) rfl rfl rfl (by decide) (by decide)) rfl rfl ?_
  refine GG.callDT (fun w' => (R.call rfl rfl rfl)) rfl rfl (fun w' b' => (ly_within_any _ _ _ w').mono fun e W' h => ⟨h.1, h.2 ▸ b'⟩) (by first | assumption | omega) ?_
  refine GG.val (fun w' b' => R.pick rfl rfl rfl) rfl rfl ?_
  refine GG.nilQ (fun W58 b57 => ?_)
  have zb57 := b57.size
  replace b45 := b45.trans (b57.mono b45.size)
  replace b39 := b39.trans (b57.mono b39.size)
  replace b27 := b27.trans (b57.mono b27.size)
  replace r21 := r21.up b57
  replace b18 := b18.trans (b57.mono b18.size)
  replace b9 := b9.trans (b57.mono b9.size)
  replace b6 := b6.trans (b57.mono b6.size)
  replace r4 := r4.up b57
  replace b1 := b1.trans (b57.mono b1.size)
  replace q := q.trans (b57.mono q.size)
  replace r12 := r12.up b57; replace r30 := r30.up b57; replace r48 := r48.up b57; refine EE.thenN ?_; refine CC.yes rfl ?_; refine CC.seq ?_
  refine CC.grow (by kernel_rfl) (by kernel_rfl) ?_
  refine GG.val (fun w' b' => R.field rfl rfl (I.fld rfl)) rfl rfl ?_
  refine GG.val (fun w' b' => R.load rfl rfl (I.ld1 rfl (RowL.cell (r48.up b') rfl))) rfl rfl ?_
  refine GG.val (fun w' b' => R.load rfl rfl (I.ldNc (vs := [Value.int IntKind.i64 b, Value.int IntKind.i64 i, Value.int IntKind.i64 r, Value.int IntKind.i64 t, Value.int IntKind.u64 ↑k1, Value.int IntKind.u64 ↑k2]) (RowL.cells (r12.up b') rfl) (by rfl) (by rfl))) rfl rfl ?_
  refine GG.call (fun w' => (R.callV rfl rfl rfl rfl)) rfl rfl (fun w' b' => (ly_one_any _ _ _ _ _ _ w').mono fun e W' h => ⟨h.1, b'.trans (h.2.mono b'.size)⟩) ?_
  refine GG.val (fun w' b' => R.mulIz (z := 64) rfl rfl rfl (by decide) (by decide)) rfl rfl ?_
  refine GG.val (fun w' b' => R.move rfl rfl) rfl rfl ?_
  refine GG.val (fun w' b' => R.field rfl rfl (I.fld rfl)) rfl rfl ?_
  refine GG.val (fun w' b' => R.load rfl rfl (I.ld1 rfl (RowL.cell (r48.up b') rfl))) rfl rfl ?_
  refine GG.val (fun w' b' => R.load rfl rfl (I.ldNc (vs := [Value.int IntKind.i64 b, Value.int IntKind.i64 i, Value.int IntKind.i64 r, Value.int IntKind.i64 t, Value.int IntKind.u64 ↑k1, Value.int IntKind.u64 ↑k2]) (RowL.cells (r12.up b') rfl) (by rfl) (by rfl))) rfl rfl ?_
  refine GG.call (fun w' => (R.callV rfl rfl rfl rfl)) rfl rfl (fun w' b' => (ly_zero_any _ _ _ _ _ _ w').mono fun e W' h => ⟨h.1, b'.trans (h.2.mono b'.size)⟩) ?_
  refine GG.val (fun w' b' => R.subI rfl rfl rfl (by omega)) rfl rfl ?_
  refine GG.val (fun w' b' => R.field rfl rfl (I.fld rfl)) rfl rfl ?_
  refine GG.val (fun w' b' => R.load rfl rfl (I.ld1 rfl (RowL.cell (r48.up b') rfl))) rfl rfl ?_
  refine GG.val (fun w' b' => R.mulI rfl rfl rfl (by omega)) rfl rfl ?_
  refine GG.val (fun w' b' => R.addI rfl rfl rfl (by omega)) rfl rfl ?_
  refine GG.val (fun w' b' => R.assign rfl rfl) rfl rfl ?_
  refine GG.val (fun w' b' => R.assign rfl rfl) rfl rfl ?_
  refine GG.nilQ (fun W63 b62 => ?_)
  have zb62 := b62.size
  replace b57 := b57.trans (b62.mono b57.size)
  replace b45 := b45.trans (b62.mono b45.size)
  replace b39 := b39.trans (b62.mono b39.size)
  replace b27 := b27.trans (b62.mono b27.size)
  replace r21 := r21.up b62
  replace b18 := b18.trans (b62.mono b18.size)
  replace b9 := b9.trans (b62.mono b9.size)
  replace b6 := b6.trans (b62.mono b6.size)
  replace r4 := r4.up b62
  replace b1 := b1.trans (b62.mono b1.size)
  replace q := q.trans (b62.mono q.size)
  replace r12 := r12.up b62; replace r30 := r30.up b62; replace r48 := r48.up b62; refine EE.thenN ?_; refine CC.ret ?_; refine EE.inR ?_; refine EE.thenR ?_; refine EE.thenR ?_; refine EE.inR ?_; refine EE.thenR ?_; refine EE.ret _ rfl rfl ?_
  exact ⟨by simp [resV]; omega, q⟩
set_option maxRecDepth 100000 in
set_option maxHeartbeats 8000000 in
theorem ly_first2_out (b i r t : Int) (k1 k2 : Nat) (a c d e n : Int) (w : World) (hl : isL b i r t a c d e) (hn : ¬(0 ≤ n ∧ n ≤ 7)) : Calls Tryz.prog 82 #[layV b i r t k1 k2 a c d e, .int .i64 2, .int .i64 n] w fun x w' => x = .returned (.tuple #[.int .i64 0, .int .i64 4]) ∧ Below w.heap.size w w' := by
  have q := Below.refl w.heap.size w
  refine X.fn Tryz.func82 rfl (n := 63) rfl rfl ?_
  refine CC.seq ?_; refine CC.region ?_
  refine LL.box [Value.int IntKind.i64 b, Value.int IntKind.i64 i, Value.int IntKind.i64 r, Value.int IntKind.i64 t, Value.int IntKind.u64 ↑k1, Value.int IntKind.u64 ↑k2, Value.int IntKind.i64 a, Value.int IntKind.i64 c, Value.int IntKind.i64 d, Value.int IntKind.i64 e] rfl rfl rfl rfl rfl ?_
  intro W2 g3 eg3 r4 z5 b1
  replace q := q.trans (b1.mono q.size)
  refine LL.val (R.assign rfl rfl) rfl rfl rfl ?_
  refine LL.val (R.assign rfl rfl) rfl rfl rfl ?_
  refine LL.nilS ?_; refine CC.seq ?_; refine CC.seq ?_; refine CC.region ?_
  refine LL.val (R.load rfl rfl (I.ldNc (vs := [Value.int IntKind.i64 b, Value.int IntKind.i64 i, Value.int IntKind.i64 r, Value.int IntKind.i64 t, Value.int IntKind.u64 ↑k1, Value.int IntKind.u64 ↑k2, Value.int IntKind.i64 a, Value.int IntKind.i64 c, Value.int IntKind.i64 d, Value.int IntKind.i64 e]) (RowL.cells r4 rfl) (by rfl) (by rfl))) rfl rfl rfl ?_
  refine LL.callBT (R.call rfl rfl rfl) rfl rfl rfl (ly_is_any _ _ _ _ _ _ _ _ _ _ _) (by first | assumption | omega) (fun W7 b6 => ?_)
  have zb6 := b6.size; replace r4 := r4.up b6
  replace b1 := b1.trans (b6.mono b1.size)
  replace q := q.trans (b6.mono q.size)
  refine LL.val (R.not rfl rfl) rfl rfl rfl ?_
  refine LL.nilS ?_; refine CC.no rfl ?_; refine CC.skip ?_; refine EE.thenN ?_; refine CC.seq ?_; refine CC.region ?_
  refine LL.val (R.field rfl rfl (I.fld rfl)) rfl rfl rfl ?_
  refine LL.val (R.load rfl rfl (I.ldNc (vs := [Value.int IntKind.i64 b, Value.int IntKind.i64 i, Value.int IntKind.i64 r, Value.int IntKind.i64 t]) (RowL.cells r4 rfl) (by rfl) (by rfl))) rfl rfl rfl ?_
  refine LL.val (R.field rfl rfl (I.fld rfl)) rfl rfl rfl ?_
  refine LL.val (R.load rfl rfl (I.ldNc (vs := [Value.int IntKind.u64 ↑k1, Value.int IntKind.u64 ↑k2]) (RowL.cells r4 rfl) (by rfl) (by rfl))) rfl rfl rfl ?_
  refine LL.val (R.buildV rfl rfl (v := .agg #[Value.int IntKind.i64 b, Value.int IntKind.i64 i, Value.int IntKind.i64 r, Value.int IntKind.i64 t, Value.int IntKind.u64 ↑k1, Value.int IntKind.u64 ↑k2]) (fun _ => by kernel_rfl)) rfl rfl rfl ?_
  have l8 := r4.lt
  refine LL.alloc ([Value.int IntKind.i64 0, Value.int IntKind.i64 0, Value.int IntKind.i64 0, Value.int IntKind.i64 0, Value.int IntKind.u64 0, Value.int IntKind.u64 0]) rfl rfl rfl rfl rfl ?_
  intro W10 g11 eg11 r12 z13 b9
  replace b6 := b6.trans (b9.mono b6.size)
  replace r4 := r4.up b9
  replace b1 := b1.trans (b9.mono b1.size)
  replace q := q.trans (b9.mono q.size)
  refine LL.storeN (vs := [Value.int IntKind.i64 b, Value.int IntKind.i64 i, Value.int IntKind.i64 r, Value.int IntKind.i64 t, Value.int IntKind.u64 ↑k1, Value.int IntKind.u64 ↑k2]) rfl rfl rfl rfl r12 (by exact Nat.le_of_ble_eq_true rfl) (ones_of rfl) rfl rfl ?_
  intro W15 r16 b14 z17
  have hlb14 := r12.lt
  replace r16 : RowL W15 _ 118 [Value.int IntKind.i64 b, Value.int IntKind.i64 i, Value.int IntKind.i64 r, Value.int IntKind.i64 t, Value.int IntKind.u64 ↑k1, Value.int IntKind.u64 ↑k2] := r16
  clear r12
  replace b9 := b9.grown b14 b9.size (by rintro k ⟨⟩; omega)
  replace b6 := b6.grown b14 b6.size (by rintro k ⟨⟩; omega)
  replace r4 := r4.gr b14 (by have := r4.lt; omega)
  replace b1 := b1.grown b14 b1.size (by rintro k ⟨⟩; omega)
  replace q := q.grown b14 q.size (by rintro k ⟨⟩; omega)
  have r12 := r16
  clear r16
  refine LL.nilS ?_; refine CC.seq ?_; refine CC.seq ?_; refine CC.region ?_
  refine LL.call (R.call rfl rfl rfl) rfl rfl rfl (ly_kinds_any _) ?_
  rintro e W19 ⟨g20, rfl, r21, l22, b18⟩
  refine ⟨_, rfl, ?_⟩; have zb18 := b18.size
  replace b9 := b9.trans (b18.mono b9.size)
  replace b6 := b6.trans (b18.mono b6.size)
  replace r4 := r4.up b18
  replace b1 := b1.trans (b18.mono b1.size)
  replace q := q.trans (b18.mono q.size)
  replace r12 := r12.up b18
  refine LL.val (R.len rfl rfl rfl rfl) rfl rfl rfl ?_
  refine LL.val (R.move rfl rfl) rfl rfl rfl ?_
  refine LL.nilS ?_; refine CC.block ?_
  refine CC.loopN 7 ?_
  refine RN.step ?_
  refine CC.seq ?_; refine CC.region ?_
  refine LL.val (R.ltT rfl rfl rfl (by omega)) rfl rfl rfl ?_
  refine LL.nilS ?_; refine CC.seq ?_; refine CC.yes rfl ?_; refine CC.skip ?_; refine EE.thenN ?_; refine CC.seq ?_; refine CC.block ?_; refine CC.seq ?_; refine CC.region ?_
  refine LL.val (R.index rfl rfl rfl (I.ixSc rfl rfl (by omega))) rfl rfl rfl ?_
  refine LL.val (R.load rfl rfl (I.ldNc (vs := [Value.int IntKind.i64 1, ly_fnV 132, ly_fnV 133, ly_fnV 132, Value.int IntKind.i64 64]) (RowL.cells r21 rfl) (by rfl) (by rfl))) rfl rfl rfl ?_
  have l24 := r21.lt; have l25 := r4.lt; have l26 := r12.lt
  refine LL.alloc ([Value.int IntKind.i64 0, Value.nilFunc, Value.nilFunc, Value.nilFunc, Value.int IntKind.i64 0]) rfl rfl rfl rfl rfl ?_
  intro W28 g29 eg29 r30 z31 b27
  replace r21 := r21.up b27
  replace b18 := b18.trans (b27.mono b18.size)
  replace b9 := b9.trans (b27.mono b9.size)
  replace b6 := b6.trans (b27.mono b6.size)
  replace r4 := r4.up b27
  replace b1 := b1.trans (b27.mono b1.size)
  replace q := q.trans (b27.mono q.size)
  replace r12 := r12.up b27
  refine LL.storeN (vs := [Value.int IntKind.i64 1, ly_fnV 132, ly_fnV 133, ly_fnV 132, Value.int IntKind.i64 64]) rfl rfl rfl rfl r30 (by exact Nat.le_of_ble_eq_true rfl) (ones_of rfl) rfl rfl ?_
  intro W33 r34 b32 z35
  have hlb32 := r30.lt
  replace r34 : RowL W33 _ 175 [Value.int IntKind.i64 1, ly_fnV 132, ly_fnV 133, ly_fnV 132, Value.int IntKind.i64 64] := r34
  clear r30
  replace b27 := b27.grown b32 b27.size (by rintro k ⟨⟩; omega)
  replace r21 := r21.gr b32 (by have := r21.lt; omega)
  replace b18 := b18.grown b32 b18.size (by rintro k ⟨⟩; omega)
  replace b9 := b9.grown b32 b9.size (by rintro k ⟨⟩; omega)
  replace b6 := b6.grown b32 b6.size (by rintro k ⟨⟩; omega)
  replace r4 := r4.gr b32 (by have := r4.lt; omega)
  replace b1 := b1.grown b32 b1.size (by rintro k ⟨⟩; omega)
  replace q := q.grown b32 q.size (by rintro k ⟨⟩; omega)
  replace r12 := r12.gr b32 (by have := r12.lt; omega)
  have r30 := r34
  clear r34
  refine LL.nilS ?_; refine CC.seq ?_
  refine CC.grow (by kernel_rfl) (by kernel_rfl) ?_
  refine GG.val (fun w' b' => R.field rfl rfl (I.fld rfl)) rfl rfl ?_
  refine GG.val (fun w' b' => R.load rfl rfl (I.ld1 rfl (RowL.cell (r30.up b') rfl))) rfl rfl ?_
  refine GG.val (fun w' b' => R.move rfl rfl) rfl rfl ?_
  refine GG.val (fun w' b' => R.eqF rfl rfl rfl (by omega)) rfl rfl ?_
  refine GG.val (fun w' b' => R.move rfl rfl) rfl rfl ?_
  refine GG.skip rfl rfl ?_
  refine GG.skip rfl rfl ?_
  refine GG.skip rfl rfl ?_
  refine GG.skip rfl rfl ?_
  refine GG.skip rfl rfl ?_
  refine GG.skip rfl rfl ?_
  refine GG.skip rfl rfl ?_
  refine GG.skip rfl rfl ?_
  refine GG.skip rfl rfl ?_
  refine GG.skip rfl rfl ?_
  refine GG.skip rfl rfl ?_
  refine GG.skip rfl rfl ?_
  refine GG.skip rfl rfl ?_
  refine GG.skip rfl rfl ?_
  refine GG.skip rfl rfl ?_
  refine GG.skip rfl rfl ?_
  refine GG.val (fun w' b' => R.pick rfl rfl rfl) rfl rfl ?_
  refine GG.nilQ (fun W40 b39 => ?_)
  have zb39 := b39.size
  replace b27 := b27.trans (b39.mono b27.size)
  replace r21 := r21.up b39
  replace b18 := b18.trans (b39.mono b18.size)
  replace b9 := b9.trans (b39.mono b9.size)
  replace b6 := b6.trans (b39.mono b6.size)
  replace r4 := r4.up b39
  replace b1 := b1.trans (b39.mono b1.size)
  replace q := q.trans (b39.mono q.size)
  replace r12 := r12.up b39; replace r30 := r30.up b39; refine EE.thenN ?_; refine CC.no rfl ?_; refine CC.skip ?_; refine EE.inN ?_; refine EE.thenN ?_; refine CC.region ?_
  refine LL.val (R.addIz (z := 1) rfl rfl rfl (by decide) (by decide)) rfl rfl rfl ?_
  refine LL.val (R.move rfl rfl) rfl rfl rfl ?_
  refine LL.nil ?_; refine EE.again ?_
  refine RN.step ?_
  refine CC.seq ?_; refine CC.region ?_
  refine LL.val (R.ltT rfl rfl rfl (by omega)) rfl rfl rfl ?_
  refine LL.nilS ?_; refine CC.seq ?_; refine CC.yes rfl ?_; refine CC.skip ?_; refine EE.thenN ?_; refine CC.seq ?_; refine CC.block ?_; refine CC.seq ?_; refine CC.region ?_
  refine LL.val (R.index rfl rfl rfl (I.ixSc rfl rfl (by omega))) rfl rfl rfl ?_
  refine LL.val (R.load rfl rfl (I.ldNc (vs := [Value.int IntKind.i64 2, ly_fnV 133, ly_fnV 134, ly_fnV 132, Value.int IntKind.i64 64]) (RowL.cells r21 rfl) (by rfl) (by rfl))) rfl rfl rfl ?_
  have l41 := r21.lt; have l42 := r4.lt; have l43 := r12.lt; have l44 := r30.lt
  refine LL.alloc ([Value.int IntKind.i64 0, Value.nilFunc, Value.nilFunc, Value.nilFunc, Value.int IntKind.i64 0]) rfl rfl rfl rfl rfl ?_
  intro W46 g47 eg47 r48 z49 b45
  replace b39 := b39.trans (b45.mono b39.size)
  replace b27 := b27.trans (b45.mono b27.size)
  replace r21 := r21.up b45
  replace b18 := b18.trans (b45.mono b18.size)
  replace b9 := b9.trans (b45.mono b9.size)
  replace b6 := b6.trans (b45.mono b6.size)
  replace r4 := r4.up b45
  replace b1 := b1.trans (b45.mono b1.size)
  replace q := q.trans (b45.mono q.size)
  replace r12 := r12.up b45; replace r30 := r30.up b45
  refine LL.storeN (vs := [Value.int IntKind.i64 2, ly_fnV 133, ly_fnV 134, ly_fnV 132, Value.int IntKind.i64 64]) rfl rfl rfl rfl r48 (by exact Nat.le_of_ble_eq_true rfl) (ones_of rfl) rfl rfl ?_
  intro W51 r52 b50 z53
  have hlb50 := r48.lt
  replace r52 : RowL W51 _ 175 [Value.int IntKind.i64 2, ly_fnV 133, ly_fnV 134, ly_fnV 132, Value.int IntKind.i64 64] := r52
  clear r48
  replace b45 := b45.grown b50 b45.size (by rintro k ⟨⟩; omega)
  replace b39 := b39.grown b50 b39.size (by rintro k ⟨⟩; omega)
  replace b27 := b27.grown b50 b27.size (by rintro k ⟨⟩; omega)
  replace r21 := r21.gr b50 (by have := r21.lt; omega)
  replace b18 := b18.grown b50 b18.size (by rintro k ⟨⟩; omega)
  replace b9 := b9.grown b50 b9.size (by rintro k ⟨⟩; omega)
  replace b6 := b6.grown b50 b6.size (by rintro k ⟨⟩; omega)
  replace r4 := r4.gr b50 (by have := r4.lt; omega)
  replace b1 := b1.grown b50 b1.size (by rintro k ⟨⟩; omega)
  replace q := q.grown b50 q.size (by rintro k ⟨⟩; omega)
  replace r12 := r12.gr b50 (by have := r12.lt; omega)
  replace r30 := r30.gr b50 (by have := r30.lt; omega)
  have r48 := r52
  clear r52
  refine LL.nilS ?_; refine CC.seq ?_
  refine CC.grow (by kernel_rfl) (by kernel_rfl) ?_
  refine GG.val (fun w' b' => R.field rfl rfl (I.fld rfl)) rfl rfl ?_
  refine GG.val (fun w' b' => R.load rfl rfl (I.ld1 rfl (RowL.cell (r48.up b') rfl))) rfl rfl ?_
  refine GG.val (fun w' b' => R.move rfl rfl) rfl rfl ?_
  refine GG.val (fun w' b' => R.eqT rfl rfl rfl (by omega)) rfl rfl ?_
  refine GG.val (fun w' b' => R.move rfl rfl) rfl rfl ?_
  refine GG.val (fun w' b' => R.move rfl rfl) rfl rfl ?_
  refine GG.val (fun w' b' => R.field rfl rfl (I.fld rfl)) rfl rfl ?_
  refine GG.val (fun w' b' => R.load rfl rfl (I.ld1 rfl (RowL.cell (r48.up b') rfl))) rfl rfl ?_
  refine GG.val (fun w' b' => R.load rfl rfl (I.ldNc (vs := [Value.int IntKind.i64 b, Value.int IntKind.i64 i, Value.int IntKind.i64 r, Value.int IntKind.i64 t, Value.int IntKind.u64 ↑k1, Value.int IntKind.u64 ↑k2]) (RowL.cells (r12.up b') rfl) (by rfl) (by rfl))) rfl rfl ?_
  refine GG.call (fun w' => (R.callV rfl rfl rfl rfl)) rfl rfl (fun w' b' => (ly_zero_any _ _ _ _ _ _ w').mono fun e W' h => ⟨h.1, b'.trans (h.2.mono b'.size)⟩) ?_
  refine GG.val (fun w' b' => R.field rfl rfl (I.fld rfl)) rfl rfl ?_
  refine GG.val (fun w' b' => R.load rfl rfl (I.ld1 rfl (RowL.cell (r48.up b') rfl))) rfl rfl ?_
  refine GG.val (fun w' b' => R.load rfl rfl (I.ldNc (vs := [Value.int IntKind.i64 b, Value.int IntKind.i64 i, Value.int IntKind.i64 r, Value.int IntKind.i64 t, Value.int IntKind.u64 ↑k1, Value.int IntKind.u64 ↑k2]) (RowL.cells (r12.up b') rfl) (by rfl) (by rfl))) rfl rfl ?_
  refine GG.call (fun w' => (R.callV rfl rfl rfl rfl)) rfl rfl (fun w' b' => (ly_zero_any _ _ _ _ _ _ w').mono fun e W' h => ⟨h.1, b'.trans (h.2.mono b'.size)⟩) ?_
  refine GG.val (fun w' b' => R.field rfl rfl (I.fld rfl)) rfl rfl ?_
  refine GG.val (fun w' b' => R.load rfl rfl (I.ld1 rfl (RowL.cell (r48.up b') rfl))) rfl rfl ?_
  refine GG.val (fun w' b' => R.load rfl rfl (I.ldNc (vs := [Value.int IntKind.i64 b, Value.int IntKind.i64 i, Value.int IntKind.i64 r, Value.int IntKind.i64 t, Value.int IntKind.u64 ↑k1, Value.int IntKind.u64 ↑k2]) (RowL.cells (r12.up b') rfl) (by rfl) (by rfl))) rfl rfl ?_
  refine GG.call (fun w' => (R.callV rfl rfl rfl rfl)) rfl rfl (fun w' b' => (ly_kinds1_any _ _ _ _ _ _ w').mono fun e W' h => ⟨h.1, b'.trans (h.2.mono b'.size)⟩) ?_
  refine GG.val (fun w' b' => R.addIz (z := 8) rfl rfl rfl (by decide) (by decide)) rfl rfl ?_
  refine GG.val (fun w' b' => R.subIz (z := 7) rfl rfl rfl (by decide) (by decide)) rfl rfl ?_
  refine GG.callDF (fun w' => (R.call rfl rfl rfl)) rfl rfl (fun w' b' => (ly_within_any _ _ _ w').mono fun e W' h => ⟨h.1, h.2 ▸ b'⟩) (by first | assumption | omega) ?_
  refine GG.val (fun w' b' => R.pick rfl rfl rfl) rfl rfl ?_
  refine GG.nilQ (fun W58 b57 => ?_)
  have zb57 := b57.size
  replace b45 := b45.trans (b57.mono b45.size)
  replace b39 := b39.trans (b57.mono b39.size)
  replace b27 := b27.trans (b57.mono b27.size)
  replace r21 := r21.up b57
  replace b18 := b18.trans (b57.mono b18.size)
  replace b9 := b9.trans (b57.mono b9.size)
  replace b6 := b6.trans (b57.mono b6.size)
  replace r4 := r4.up b57
  replace b1 := b1.trans (b57.mono b1.size)
  replace q := q.trans (b57.mono q.size)
  replace r12 := r12.up b57; replace r30 := r30.up b57; replace r48 := r48.up b57; refine EE.thenN ?_; refine CC.no rfl ?_; refine CC.skip ?_; refine EE.inN ?_; refine EE.thenN ?_; refine CC.region ?_
  refine LL.val (R.addIz (z := 2) rfl rfl rfl (by decide) (by decide)) rfl rfl rfl ?_
  refine LL.val (R.move rfl rfl) rfl rfl rfl ?_
  refine LL.nil ?_; refine EE.again ?_
  refine RN.step ?_
  refine CC.seq ?_; refine CC.region ?_
  refine LL.val (R.ltT rfl rfl rfl (by omega)) rfl rfl rfl ?_
  refine LL.nilS ?_; refine CC.seq ?_; refine CC.yes rfl ?_; refine CC.skip ?_; refine EE.thenN ?_; refine CC.seq ?_; refine CC.block ?_; refine CC.seq ?_; refine CC.region ?_
  refine LL.val (R.index rfl rfl rfl (I.ixSc rfl rfl (by omega))) rfl rfl rfl ?_
  refine LL.val (R.load rfl rfl (I.ldNc (vs := [Value.int IntKind.i64 3, ly_fnV 135, ly_fnV 136, ly_fnV 133, Value.int IntKind.i64 16]) (RowL.cells r21 rfl) (by rfl) (by rfl))) rfl rfl rfl ?_
  have l59 := r21.lt; have l60 := r4.lt; have l61 := r12.lt; have l62 := r30.lt; have l63 := r48.lt
  refine LL.alloc ([Value.int IntKind.i64 0, Value.nilFunc, Value.nilFunc, Value.nilFunc, Value.int IntKind.i64 0]) rfl rfl rfl rfl rfl ?_
  intro W65 g66 eg66 r67 z68 b64
  replace b57 := b57.trans (b64.mono b57.size)
  replace b45 := b45.trans (b64.mono b45.size)
  replace b39 := b39.trans (b64.mono b39.size)
  replace b27 := b27.trans (b64.mono b27.size)
  replace r21 := r21.up b64
  replace b18 := b18.trans (b64.mono b18.size)
  replace b9 := b9.trans (b64.mono b9.size)
  replace b6 := b6.trans (b64.mono b6.size)
  replace r4 := r4.up b64
  replace b1 := b1.trans (b64.mono b1.size)
  replace q := q.trans (b64.mono q.size)
  replace r12 := r12.up b64; replace r30 := r30.up b64; replace r48 := r48.up b64
  refine LL.storeN (vs := [Value.int IntKind.i64 3, ly_fnV 135, ly_fnV 136, ly_fnV 133, Value.int IntKind.i64 16]) rfl rfl rfl rfl r67 (by exact Nat.le_of_ble_eq_true rfl) (ones_of rfl) rfl rfl ?_
  intro W70 r71 b69 z72
  have hlb69 := r67.lt
  replace r71 : RowL W70 _ 175 [Value.int IntKind.i64 3, ly_fnV 135, ly_fnV 136, ly_fnV 133, Value.int IntKind.i64 16] := r71
  clear r67
  replace b64 := b64.grown b69 b64.size (by rintro k ⟨⟩; omega)
  replace b57 := b57.grown b69 b57.size (by rintro k ⟨⟩; omega)
  replace b45 := b45.grown b69 b45.size (by rintro k ⟨⟩; omega)
  replace b39 := b39.grown b69 b39.size (by rintro k ⟨⟩; omega)
  replace b27 := b27.grown b69 b27.size (by rintro k ⟨⟩; omega)
  replace r21 := r21.gr b69 (by have := r21.lt; omega)
  replace b18 := b18.grown b69 b18.size (by rintro k ⟨⟩; omega)
  replace b9 := b9.grown b69 b9.size (by rintro k ⟨⟩; omega)
  replace b6 := b6.grown b69 b6.size (by rintro k ⟨⟩; omega)
  replace r4 := r4.gr b69 (by have := r4.lt; omega)
  replace b1 := b1.grown b69 b1.size (by rintro k ⟨⟩; omega)
  replace q := q.grown b69 q.size (by rintro k ⟨⟩; omega)
  replace r12 := r12.gr b69 (by have := r12.lt; omega)
  replace r30 := r30.gr b69 (by have := r30.lt; omega)
  replace r48 := r48.gr b69 (by have := r48.lt; omega)
  have r67 := r71
  clear r71
  refine LL.nilS ?_; refine CC.seq ?_
  refine CC.grow (by kernel_rfl) (by kernel_rfl) ?_
  refine GG.val (fun w' b' => R.field rfl rfl (I.fld rfl)) rfl rfl ?_
  refine GG.val (fun w' b' => R.load rfl rfl (I.ld1 rfl (RowL.cell (r67.up b') rfl))) rfl rfl ?_
  refine GG.val (fun w' b' => R.move rfl rfl) rfl rfl ?_
  refine GG.val (fun w' b' => R.eqF rfl rfl rfl (by omega)) rfl rfl ?_
  refine GG.val (fun w' b' => R.move rfl rfl) rfl rfl ?_
  refine GG.skip rfl rfl ?_
  refine GG.skip rfl rfl ?_
  refine GG.skip rfl rfl ?_
  refine GG.skip rfl rfl ?_
  refine GG.skip rfl rfl ?_
  refine GG.skip rfl rfl ?_
  refine GG.skip rfl rfl ?_
  refine GG.skip rfl rfl ?_
  refine GG.skip rfl rfl ?_
  refine GG.skip rfl rfl ?_
  refine GG.skip rfl rfl ?_
  refine GG.skip rfl rfl ?_
  refine GG.skip rfl rfl ?_
  refine GG.skip rfl rfl ?_
  refine GG.skip rfl rfl ?_
  refine GG.skip rfl rfl ?_
  refine GG.val (fun w' b' => R.pick rfl rfl rfl) rfl rfl ?_
  refine GG.nilQ (fun W77 b76 => ?_)
  have zb76 := b76.size
  replace b64 := b64.trans (b76.mono b64.size)
  replace b57 := b57.trans (b76.mono b57.size)
  replace b45 := b45.trans (b76.mono b45.size)
  replace b39 := b39.trans (b76.mono b39.size)
  replace b27 := b27.trans (b76.mono b27.size)
  replace r21 := r21.up b76
  replace b18 := b18.trans (b76.mono b18.size)
  replace b9 := b9.trans (b76.mono b9.size)
  replace b6 := b6.trans (b76.mono b6.size)
  replace r4 := r4.up b76
  replace b1 := b1.trans (b76.mono b1.size)
  replace q := q.trans (b76.mono q.size)
  replace r12 := r12.up b76; replace r30 := r30.up b76; replace r48 := r48.up b76; replace r67 := r67.up b76; refine EE.thenN ?_; refine CC.no rfl ?_; refine CC.skip ?_; refine EE.inN ?_; refine EE.thenN ?_; refine CC.region ?_
  refine LL.val (R.addIz (z := 3) rfl rfl rfl (by decide) (by decide)) rfl rfl rfl ?_
  refine LL.val (R.move rfl rfl) rfl rfl rfl ?_
  refine LL.nil ?_; refine EE.again ?_
  refine RN.step ?_
  refine CC.seq ?_; refine CC.region ?_
  refine LL.val (R.ltT rfl rfl rfl (by omega)) rfl rfl rfl ?_
  refine LL.nilS ?_; refine CC.seq ?_; refine CC.yes rfl ?_; refine CC.skip ?_; refine EE.thenN ?_; refine CC.seq ?_; refine CC.block ?_; refine CC.seq ?_; refine CC.region ?_
  refine LL.val (R.index rfl rfl rfl (I.ixSc rfl rfl (by omega))) rfl rfl rfl ?_
  refine LL.val (R.load rfl rfl (I.ldNc (vs := [Value.int IntKind.i64 4, ly_fnV 67, ly_fnV 137, ly_fnV 133, Value.int IntKind.i64 16]) (RowL.cells r21 rfl) (by rfl) (by rfl))) rfl rfl rfl ?_
  have l78 := r21.lt; have l79 := r4.lt; have l80 := r12.lt; have l81 := r30.lt; have l82 := r48.lt; have l83 := r67.lt
  refine LL.alloc ([Value.int IntKind.i64 0, Value.nilFunc, Value.nilFunc, Value.nilFunc, Value.int IntKind.i64 0]) rfl rfl rfl rfl rfl ?_
  intro W85 g86 eg86 r87 z88 b84
  replace b76 := b76.trans (b84.mono b76.size)
  replace b64 := b64.trans (b84.mono b64.size)
  replace b57 := b57.trans (b84.mono b57.size)
  replace b45 := b45.trans (b84.mono b45.size)
  replace b39 := b39.trans (b84.mono b39.size)
  replace b27 := b27.trans (b84.mono b27.size)
  replace r21 := r21.up b84
  replace b18 := b18.trans (b84.mono b18.size)
  replace b9 := b9.trans (b84.mono b9.size)
  replace b6 := b6.trans (b84.mono b6.size)
  replace r4 := r4.up b84
  replace b1 := b1.trans (b84.mono b1.size)
  replace q := q.trans (b84.mono q.size)
  replace r12 := r12.up b84; replace r30 := r30.up b84; replace r48 := r48.up b84; replace r67 := r67.up b84
  refine LL.storeN (vs := [Value.int IntKind.i64 4, ly_fnV 67, ly_fnV 137, ly_fnV 133, Value.int IntKind.i64 16]) rfl rfl rfl rfl r87 (by exact Nat.le_of_ble_eq_true rfl) (ones_of rfl) rfl rfl ?_
  intro W90 r91 b89 z92
  have hlb89 := r87.lt
  replace r91 : RowL W90 _ 175 [Value.int IntKind.i64 4, ly_fnV 67, ly_fnV 137, ly_fnV 133, Value.int IntKind.i64 16] := r91
  clear r87
  replace b84 := b84.grown b89 b84.size (by rintro k ⟨⟩; omega)
  replace b76 := b76.grown b89 b76.size (by rintro k ⟨⟩; omega)
  replace b64 := b64.grown b89 b64.size (by rintro k ⟨⟩; omega)
  replace b57 := b57.grown b89 b57.size (by rintro k ⟨⟩; omega)
  replace b45 := b45.grown b89 b45.size (by rintro k ⟨⟩; omega)
  replace b39 := b39.grown b89 b39.size (by rintro k ⟨⟩; omega)
  replace b27 := b27.grown b89 b27.size (by rintro k ⟨⟩; omega)
  replace r21 := r21.gr b89 (by have := r21.lt; omega)
  replace b18 := b18.grown b89 b18.size (by rintro k ⟨⟩; omega)
  replace b9 := b9.grown b89 b9.size (by rintro k ⟨⟩; omega)
  replace b6 := b6.grown b89 b6.size (by rintro k ⟨⟩; omega)
  replace r4 := r4.gr b89 (by have := r4.lt; omega)
  replace b1 := b1.grown b89 b1.size (by rintro k ⟨⟩; omega)
  replace q := q.grown b89 q.size (by rintro k ⟨⟩; omega)
  replace r12 := r12.gr b89 (by have := r12.lt; omega)
  replace r30 := r30.gr b89 (by have := r30.lt; omega)
  replace r48 := r48.gr b89 (by have := r48.lt; omega)
  replace r67 := r67.gr b89 (by have := r67.lt; omega)
  have r87 := r91
  clear r91
  refine LL.nilS ?_; refine CC.seq ?_
  refine CC.grow (by kernel_rfl) (by kernel_rfl) ?_
  refine GG.val (fun w' b' => R.field rfl rfl (I.fld rfl)) rfl rfl ?_
  refine GG.val (fun w' b' => R.load rfl rfl (I.ld1 rfl (RowL.cell (r87.up b') rfl))) rfl rfl ?_
  refine GG.val (fun w' b' => R.move rfl rfl) rfl rfl ?_
  refine GG.val (fun w' b' => R.eqF rfl rfl rfl (by omega)) rfl rfl ?_
  refine GG.val (fun w' b' => R.move rfl rfl) rfl rfl ?_
  refine GG.skip rfl rfl ?_
  refine GG.skip rfl rfl ?_
  refine GG.skip rfl rfl ?_
  refine GG.skip rfl rfl ?_
  refine GG.skip rfl rfl ?_
  refine GG.skip rfl rfl ?_
  refine GG.skip rfl rfl ?_
  refine GG.skip rfl rfl ?_
  refine GG.skip rfl rfl ?_
  refine GG.skip rfl rfl ?_
  refine GG.skip rfl rfl ?_
  refine GG.skip rfl rfl ?_
  refine GG.skip rfl rfl ?_
  refine GG.skip rfl rfl ?_
  refine GG.skip rfl rfl ?_
  refine GG.skip rfl rfl ?_
  refine GG.val (fun w' b' => R.pick rfl rfl rfl) rfl rfl ?_
  refine GG.nilQ (fun W97 b96 => ?_)
  have zb96 := b96.size
  replace b84 := b84.trans (b96.mono b84.size)
  replace b76 := b76.trans (b96.mono b76.size)
  replace b64 := b64.trans (b96.mono b64.size)
  replace b57 := b57.trans (b96.mono b57.size)
  replace b45 := b45.trans (b96.mono b45.size)
  replace b39 := b39.trans (b96.mono b39.size)
  replace b27 := b27.trans (b96.mono b27.size)
  replace r21 := r21.up b96
  replace b18 := b18.trans (b96.mono b18.size)
  replace b9 := b9.trans (b96.mono b9.size)
  replace b6 := b6.trans (b96.mono b6.size)
  replace r4 := r4.up b96
  replace b1 := b1.trans (b96.mono b1.size)
  replace q := q.trans (b96.mono q.size)
  replace r12 := r12.up b96; replace r30 := r30.up b96; replace r48 := r48.up b96; replace r67 := r67.up b96; replace r87 := r87.up b96; refine EE.thenN ?_; refine CC.no rfl ?_; refine CC.skip ?_; refine EE.inN ?_; refine EE.thenN ?_; refine CC.region ?_
  refine LL.val (R.addIz (z := 4) rfl rfl rfl (by decide) (by decide)) rfl rfl rfl ?_
  refine LL.val (R.move rfl rfl) rfl rfl rfl ?_
  refine LL.nil ?_; refine EE.again ?_
  refine RN.step ?_
  refine CC.seq ?_; refine CC.region ?_
  refine LL.val (R.ltT rfl rfl rfl (by omega)) rfl rfl rfl ?_
  refine LL.nilS ?_; refine CC.seq ?_; refine CC.yes rfl ?_; refine CC.skip ?_; refine EE.thenN ?_; refine CC.seq ?_; refine CC.block ?_; refine CC.seq ?_; refine CC.region ?_
  refine LL.val (R.index rfl rfl rfl (I.ixSc rfl rfl (by omega))) rfl rfl rfl ?_
  refine LL.val (R.load rfl rfl (I.ldNc (vs := [Value.int IntKind.i64 5, ly_fnV 68, ly_fnV 133, ly_fnV 132, Value.int IntKind.i64 64]) (RowL.cells r21 rfl) (by rfl) (by rfl))) rfl rfl rfl ?_
  have l98 := r21.lt; have l99 := r4.lt; have l100 := r12.lt; have l101 := r30.lt; have l102 := r48.lt; have l103 := r67.lt; have l104 := r87.lt
  refine LL.alloc ([Value.int IntKind.i64 0, Value.nilFunc, Value.nilFunc, Value.nilFunc, Value.int IntKind.i64 0]) rfl rfl rfl rfl rfl ?_
  intro W106 g107 eg107 r108 z109 b105
  replace b96 := b96.trans (b105.mono b96.size)
  replace b84 := b84.trans (b105.mono b84.size)
  replace b76 := b76.trans (b105.mono b76.size)
  replace b64 := b64.trans (b105.mono b64.size)
  replace b57 := b57.trans (b105.mono b57.size)
  replace b45 := b45.trans (b105.mono b45.size)
  replace b39 := b39.trans (b105.mono b39.size)
  replace b27 := b27.trans (b105.mono b27.size)
  replace r21 := r21.up b105
  replace b18 := b18.trans (b105.mono b18.size)
  replace b9 := b9.trans (b105.mono b9.size)
  replace b6 := b6.trans (b105.mono b6.size)
  replace r4 := r4.up b105
  replace b1 := b1.trans (b105.mono b1.size)
  replace q := q.trans (b105.mono q.size)
  replace r12 := r12.up b105; replace r30 := r30.up b105; replace r48 := r48.up b105; replace r67 := r67.up b105; replace r87 := r87.up b105
  refine LL.storeN (vs := [Value.int IntKind.i64 5, ly_fnV 68, ly_fnV 133, ly_fnV 132, Value.int IntKind.i64 64]) rfl rfl rfl rfl r108 (by exact Nat.le_of_ble_eq_true rfl) (ones_of rfl) rfl rfl ?_
  intro W111 r112 b110 z113
  have hlb110 := r108.lt
  replace r112 : RowL W111 _ 175 [Value.int IntKind.i64 5, ly_fnV 68, ly_fnV 133, ly_fnV 132, Value.int IntKind.i64 64] := r112
  clear r108
  replace b105 := b105.grown b110 b105.size (by rintro k ⟨⟩; omega)
  replace b96 := b96.grown b110 b96.size (by rintro k ⟨⟩; omega)
  replace b84 := b84.grown b110 b84.size (by rintro k ⟨⟩; omega)
  replace b76 := b76.grown b110 b76.size (by rintro k ⟨⟩; omega)
  replace b64 := b64.grown b110 b64.size (by rintro k ⟨⟩; omega)
  replace b57 := b57.grown b110 b57.size (by rintro k ⟨⟩; omega)
  replace b45 := b45.grown b110 b45.size (by rintro k ⟨⟩; omega)
  replace b39 := b39.grown b110 b39.size (by rintro k ⟨⟩; omega)
  replace b27 := b27.grown b110 b27.size (by rintro k ⟨⟩; omega)
  replace r21 := r21.gr b110 (by have := r21.lt; omega)
  replace b18 := b18.grown b110 b18.size (by rintro k ⟨⟩; omega)
  replace b9 := b9.grown b110 b9.size (by rintro k ⟨⟩; omega)
  replace b6 := b6.grown b110 b6.size (by rintro k ⟨⟩; omega)
  replace r4 := r4.gr b110 (by have := r4.lt; omega)
  replace b1 := b1.grown b110 b1.size (by rintro k ⟨⟩; omega)
  replace q := q.grown b110 q.size (by rintro k ⟨⟩; omega)
  replace r12 := r12.gr b110 (by have := r12.lt; omega)
  replace r30 := r30.gr b110 (by have := r30.lt; omega)
  replace r48 := r48.gr b110 (by have := r48.lt; omega)
  replace r67 := r67.gr b110 (by have := r67.lt; omega)
  replace r87 := r87.gr b110 (by have := r87.lt; omega)
  have r108 := r112
  clear r112
  refine LL.nilS ?_; refine CC.seq ?_
  refine CC.grow (by kernel_rfl) (by kernel_rfl) ?_
  refine GG.val (fun w' b' => R.field rfl rfl (I.fld rfl)) rfl rfl ?_
  refine GG.val (fun w' b' => R.load rfl rfl (I.ld1 rfl (RowL.cell (r108.up b') rfl))) rfl rfl ?_
  refine GG.val (fun w' b' => R.move rfl rfl) rfl rfl ?_
  refine GG.val (fun w' b' => R.eqF rfl rfl rfl (by omega)) rfl rfl ?_
  refine GG.val (fun w' b' => R.move rfl rfl) rfl rfl ?_
  refine GG.skip rfl rfl ?_
  refine GG.skip rfl rfl ?_
  refine GG.skip rfl rfl ?_
  refine GG.skip rfl rfl ?_
  refine GG.skip rfl rfl ?_
  refine GG.skip rfl rfl ?_
  refine GG.skip rfl rfl ?_
  refine GG.skip rfl rfl ?_
  refine GG.skip rfl rfl ?_
  refine GG.skip rfl rfl ?_
  refine GG.skip rfl rfl ?_
  refine GG.skip rfl rfl ?_
  refine GG.skip rfl rfl ?_
  refine GG.skip rfl rfl ?_
  refine GG.skip rfl rfl ?_
  refine GG.skip rfl rfl ?_
  refine GG.val (fun w' b' => R.pick rfl rfl rfl) rfl rfl ?_
  refine GG.nilQ (fun W118 b117 => ?_)
  have zb117 := b117.size
  replace b105 := b105.trans (b117.mono b105.size)
  replace b96 := b96.trans (b117.mono b96.size)
  replace b84 := b84.trans (b117.mono b84.size)
  replace b76 := b76.trans (b117.mono b76.size)
  replace b64 := b64.trans (b117.mono b64.size)
  replace b57 := b57.trans (b117.mono b57.size)
  replace b45 := b45.trans (b117.mono b45.size)
  replace b39 := b39.trans (b117.mono b39.size)
  replace b27 := b27.trans (b117.mono b27.size)
  replace r21 := r21.up b117
  replace b18 := b18.trans (b117.mono b18.size)
  replace b9 := b9.trans (b117.mono b9.size)
  replace b6 := b6.trans (b117.mono b6.size)
  replace r4 := r4.up b117
  replace b1 := b1.trans (b117.mono b1.size)
  replace q := q.trans (b117.mono q.size)
  replace r12 := r12.up b117; replace r30 := r30.up b117; replace r48 := r48.up b117; replace r67 := r67.up b117; replace r87 := r87.up b117; replace r108 := r108.up b117; refine EE.thenN ?_; refine CC.no rfl ?_; refine CC.skip ?_; refine EE.inN ?_; refine EE.thenN ?_; refine CC.region ?_
  refine LL.val (R.addIz (z := 5) rfl rfl rfl (by decide) (by decide)) rfl rfl rfl ?_
  refine LL.val (R.move rfl rfl) rfl rfl rfl ?_
  refine LL.nil ?_; refine EE.again ?_
  refine RN.step ?_
  refine CC.seq ?_; refine CC.region ?_
  refine LL.val (R.ltT rfl rfl rfl (by omega)) rfl rfl rfl ?_
  refine LL.nilS ?_; refine CC.seq ?_; refine CC.yes rfl ?_; refine CC.skip ?_; refine EE.thenN ?_; refine CC.seq ?_; refine CC.block ?_; refine CC.seq ?_; refine CC.region ?_
  refine LL.val (R.index rfl rfl rfl (I.ixSc rfl rfl (by omega))) rfl rfl rfl ?_
  refine LL.val (R.load rfl rfl (I.ldNc (vs := [Value.int IntKind.i64 6, ly_fnV 66, ly_fnV 138, ly_fnV 66, Value.int IntKind.i64 64]) (RowL.cells r21 rfl) (by rfl) (by rfl))) rfl rfl rfl ?_
  have l119 := r21.lt; have l120 := r4.lt; have l121 := r12.lt; have l122 := r30.lt; have l123 := r48.lt; have l124 := r67.lt; have l125 := r87.lt; have l126 := r108.lt
  refine LL.alloc ([Value.int IntKind.i64 0, Value.nilFunc, Value.nilFunc, Value.nilFunc, Value.int IntKind.i64 0]) rfl rfl rfl rfl rfl ?_
  intro W128 g129 eg129 r130 z131 b127
  replace b117 := b117.trans (b127.mono b117.size)
  replace b105 := b105.trans (b127.mono b105.size)
  replace b96 := b96.trans (b127.mono b96.size)
  replace b84 := b84.trans (b127.mono b84.size)
  replace b76 := b76.trans (b127.mono b76.size)
  replace b64 := b64.trans (b127.mono b64.size)
  replace b57 := b57.trans (b127.mono b57.size)
  replace b45 := b45.trans (b127.mono b45.size)
  replace b39 := b39.trans (b127.mono b39.size)
  replace b27 := b27.trans (b127.mono b27.size)
  replace r21 := r21.up b127
  replace b18 := b18.trans (b127.mono b18.size)
  replace b9 := b9.trans (b127.mono b9.size)
  replace b6 := b6.trans (b127.mono b6.size)
  replace r4 := r4.up b127
  replace b1 := b1.trans (b127.mono b1.size)
  replace q := q.trans (b127.mono q.size)
  replace r12 := r12.up b127; replace r30 := r30.up b127; replace r48 := r48.up b127; replace r67 := r67.up b127; replace r87 := r87.up b127; replace r108 := r108.up b127
  refine LL.storeN (vs := [Value.int IntKind.i64 6, ly_fnV 66, ly_fnV 138, ly_fnV 66, Value.int IntKind.i64 64]) rfl rfl rfl rfl r130 (by exact Nat.le_of_ble_eq_true rfl) (ones_of rfl) rfl rfl ?_
  intro W133 r134 b132 z135
  have hlb132 := r130.lt
  replace r134 : RowL W133 _ 175 [Value.int IntKind.i64 6, ly_fnV 66, ly_fnV 138, ly_fnV 66, Value.int IntKind.i64 64] := r134
  clear r130
  replace b127 := b127.grown b132 b127.size (by rintro k ⟨⟩; omega)
  replace b117 := b117.grown b132 b117.size (by rintro k ⟨⟩; omega)
  replace b105 := b105.grown b132 b105.size (by rintro k ⟨⟩; omega)
  replace b96 := b96.grown b132 b96.size (by rintro k ⟨⟩; omega)
  replace b84 := b84.grown b132 b84.size (by rintro k ⟨⟩; omega)
  replace b76 := b76.grown b132 b76.size (by rintro k ⟨⟩; omega)
  replace b64 := b64.grown b132 b64.size (by rintro k ⟨⟩; omega)
  replace b57 := b57.grown b132 b57.size (by rintro k ⟨⟩; omega)
  replace b45 := b45.grown b132 b45.size (by rintro k ⟨⟩; omega)
  replace b39 := b39.grown b132 b39.size (by rintro k ⟨⟩; omega)
  replace b27 := b27.grown b132 b27.size (by rintro k ⟨⟩; omega)
  replace r21 := r21.gr b132 (by have := r21.lt; omega)
  replace b18 := b18.grown b132 b18.size (by rintro k ⟨⟩; omega)
  replace b9 := b9.grown b132 b9.size (by rintro k ⟨⟩; omega)
  replace b6 := b6.grown b132 b6.size (by rintro k ⟨⟩; omega)
  replace r4 := r4.gr b132 (by have := r4.lt; omega)
  replace b1 := b1.grown b132 b1.size (by rintro k ⟨⟩; omega)
  replace q := q.grown b132 q.size (by rintro k ⟨⟩; omega)
  replace r12 := r12.gr b132 (by have := r12.lt; omega)
  replace r30 := r30.gr b132 (by have := r30.lt; omega)
  replace r48 := r48.gr b132 (by have := r48.lt; omega)
  replace r67 := r67.gr b132 (by have := r67.lt; omega)
  replace r87 := r87.gr b132 (by have := r87.lt; omega)
  replace r108 := r108.gr b132 (by have := r108.lt; omega)
  have r130 := r134
  clear r134
  refine LL.nilS ?_; refine CC.seq ?_
  refine CC.grow (by kernel_rfl) (by kernel_rfl) ?_
  refine GG.val (fun w' b' => R.field rfl rfl (I.fld rfl)) rfl rfl ?_
  refine GG.val (fun w' b' => R.load rfl rfl (I.ld1 rfl (RowL.cell (r130.up b') rfl))) rfl rfl ?_
  refine GG.val (fun w' b' => R.move rfl rfl) rfl rfl ?_
  refine GG.val (fun w' b' => R.eqF rfl rfl rfl (by omega)) rfl rfl ?_
  refine GG.val (fun w' b' => R.move rfl rfl) rfl rfl ?_
  refine GG.skip rfl rfl ?_
  refine GG.skip rfl rfl ?_
  refine GG.skip rfl rfl ?_
  refine GG.skip rfl rfl ?_
  refine GG.skip rfl rfl ?_
  refine GG.skip rfl rfl ?_
  refine GG.skip rfl rfl ?_
  refine GG.skip rfl rfl ?_
  refine GG.skip rfl rfl ?_
  refine GG.skip rfl rfl ?_
  refine GG.skip rfl rfl ?_
  refine GG.skip rfl rfl ?_
  refine GG.skip rfl rfl ?_
  refine GG.skip rfl rfl ?_
  refine GG.skip rfl rfl ?_
  refine GG.skip rfl rfl ?_
  refine GG.val (fun w' b' => R.pick rfl rfl rfl) rfl rfl ?_
  refine GG.nilQ (fun W140 b139 => ?_)
  have zb139 := b139.size
  replace b127 := b127.trans (b139.mono b127.size)
  replace b117 := b117.trans (b139.mono b117.size)
  replace b105 := b105.trans (b139.mono b105.size)
  replace b96 := b96.trans (b139.mono b96.size)
  replace b84 := b84.trans (b139.mono b84.size)
  replace b76 := b76.trans (b139.mono b76.size)
  replace b64 := b64.trans (b139.mono b64.size)
  replace b57 := b57.trans (b139.mono b57.size)
  replace b45 := b45.trans (b139.mono b45.size)
  replace b39 := b39.trans (b139.mono b39.size)
  replace b27 := b27.trans (b139.mono b27.size)
  replace r21 := r21.up b139
  replace b18 := b18.trans (b139.mono b18.size)
  replace b9 := b9.trans (b139.mono b9.size)
  replace b6 := b6.trans (b139.mono b6.size)
  replace r4 := r4.up b139
  replace b1 := b1.trans (b139.mono b1.size)
  replace q := q.trans (b139.mono q.size)
  replace r12 := r12.up b139; replace r30 := r30.up b139; replace r48 := r48.up b139; replace r67 := r67.up b139; replace r87 := r87.up b139; replace r108 := r108.up b139; replace r130 := r130.up b139; refine EE.thenN ?_; refine CC.no rfl ?_; refine CC.skip ?_; refine EE.inN ?_; refine EE.thenN ?_; refine CC.region ?_
  refine LL.val (R.addIz (z := 6) rfl rfl rfl (by decide) (by decide)) rfl rfl rfl ?_
  refine LL.val (R.move rfl rfl) rfl rfl rfl ?_
  refine LL.nil ?_; refine EE.again ?_
  refine RN.step ?_
  refine CC.seq ?_; refine CC.region ?_
  refine LL.val (R.ltF rfl rfl rfl (by omega)) rfl rfl rfl ?_
  refine LL.nilS ?_; refine CC.seq ?_; refine CC.no rfl ?_; refine CC.exit ?_; refine EE.thenX ?_; refine EE.thenX ?_; refine EE.inX ?_; refine EE.thenN ?_; refine CC.seq ?_; refine CC.region ?_
  refine LL.val (R.assign rfl rfl) rfl rfl rfl ?_
  refine LL.val (R.assign rfl rfl) rfl rfl rfl ?_
  refine LL.nilS ?_; refine CC.ret ?_; refine EE.ret _ rfl rfl ?_
  exact ⟨rfl, q⟩
set_option maxRecDepth 100000 in
set_option maxHeartbeats 8000000 in
theorem ly_first2_bad (b i r t : Int) (k1 k2 : Nat) (a c d e n : Int) (w : World) (hl : ¬isL b i r t a c d e) : Calls Tryz.prog 82 #[layV b i r t k1 k2 a c d e, .int .i64 2, .int .i64 n] w fun x w' => x = .returned (.tuple #[.int .i64 0, .int .i64 2]) ∧ Below w.heap.size w w' := by
  have q := Below.refl w.heap.size w
  refine X.fn Tryz.func82 rfl (n := 63) rfl rfl ?_
  refine CC.seq ?_; refine CC.region ?_
  refine LL.box [Value.int IntKind.i64 b, Value.int IntKind.i64 i, Value.int IntKind.i64 r, Value.int IntKind.i64 t, Value.int IntKind.u64 ↑k1, Value.int IntKind.u64 ↑k2, Value.int IntKind.i64 a, Value.int IntKind.i64 c, Value.int IntKind.i64 d, Value.int IntKind.i64 e] rfl rfl rfl rfl rfl ?_
  intro W2 g3 eg3 r4 z5 b1
  replace q := q.trans (b1.mono q.size)
  refine LL.val (R.assign rfl rfl) rfl rfl rfl ?_
  refine LL.val (R.assign rfl rfl) rfl rfl rfl ?_
  refine LL.nilS ?_; refine CC.seq ?_; refine CC.seq ?_; refine CC.region ?_
  refine LL.val (R.load rfl rfl (I.ldNc (vs := [Value.int IntKind.i64 b, Value.int IntKind.i64 i, Value.int IntKind.i64 r, Value.int IntKind.i64 t, Value.int IntKind.u64 ↑k1, Value.int IntKind.u64 ↑k2, Value.int IntKind.i64 a, Value.int IntKind.i64 c, Value.int IntKind.i64 d, Value.int IntKind.i64 e]) (RowL.cells r4 rfl) (by rfl) (by rfl))) rfl rfl rfl ?_
  refine LL.callBF (R.call rfl rfl rfl) rfl rfl rfl (ly_is_any _ _ _ _ _ _ _ _ _ _ _) (by first | assumption | omega) (fun W7 b6 => ?_)
  have zb6 := b6.size; replace r4 := r4.up b6
  replace b1 := b1.trans (b6.mono b1.size)
  replace q := q.trans (b6.mono q.size)
  refine LL.val (R.not rfl rfl) rfl rfl rfl ?_
  refine LL.nilS ?_; refine CC.yes rfl ?_; refine CC.seq ?_; refine CC.region ?_
  refine LL.val (R.assign rfl rfl) rfl rfl rfl ?_
  refine LL.val (R.assign rfl rfl) rfl rfl rfl ?_
  refine LL.nilS ?_; refine CC.ret ?_; refine EE.thenR ?_; refine EE.ret _ rfl rfl ?_
  exact ⟨rfl, q⟩
set_option maxRecDepth 100000 in
set_option maxHeartbeats 8000000 in
theorem ly_pJournal_any (b i r t : Int) (k1 k2 : Nat) (a c d e n : Int) (w : World) (hl : isL b i r t a c d e) (hn : 0 ≤ n ∧ n ≤ 7) : Calls Tryz.prog 64 #[layV b i r t k1 k2 a c d e, .int .i64 n] w fun x w' => x = .returned (.tuple #[.int .i64 (64 + 64 * n), .int .i64 0]) ∧ Below w.heap.size w w' := by
  have q := Below.refl w.heap.size w
  refine X.fn Tryz.func64 rfl (n := 11) rfl rfl ?_
  refine CC.seq ?_; refine CC.region ?_
  refine LL.box [Value.int IntKind.i64 b, Value.int IntKind.i64 i, Value.int IntKind.i64 r, Value.int IntKind.i64 t, Value.int IntKind.u64 ↑k1, Value.int IntKind.u64 ↑k2, Value.int IntKind.i64 a, Value.int IntKind.i64 c, Value.int IntKind.i64 d, Value.int IntKind.i64 e] rfl rfl rfl rfl rfl ?_
  intro W2 g3 eg3 r4 z5 b1
  replace q := q.trans (b1.mono q.size)
  refine LL.val (R.assign rfl rfl) rfl rfl rfl ?_
  refine LL.val (R.assign rfl rfl) rfl rfl rfl ?_
  refine LL.nilS ?_; refine CC.seq ?_; refine CC.region ?_
  refine LL.val (R.load rfl rfl (I.ldNc (vs := [Value.int IntKind.i64 b, Value.int IntKind.i64 i, Value.int IntKind.i64 r, Value.int IntKind.i64 t, Value.int IntKind.u64 ↑k1, Value.int IntKind.u64 ↑k2, Value.int IntKind.i64 a, Value.int IntKind.i64 c, Value.int IntKind.i64 d, Value.int IntKind.i64 e]) (RowL.cells r4 rfl) (by rfl) (by rfl))) rfl rfl rfl ?_
  refine LL.val (R.move rfl rfl) rfl rfl rfl ?_
  refine LL.call (R.call rfl rfl rfl) rfl rfl rfl (ly_first2_any _ _ _ _ _ _ _ _ _ _ _ _ (by first | assumption | omega) (by first | assumption | omega)) ?_
  rintro e W7 ⟨rfl, b6⟩
  refine ⟨_, rfl, ?_⟩; have zb6 := b6.size; replace r4 := r4.up b6
  replace b1 := b1.trans (b6.mono b1.size)
  replace q := q.trans (b6.mono q.size)
  refine LL.val (R.extract rfl rfl rfl) rfl rfl rfl ?_
  refine LL.val (R.extract rfl rfl rfl) rfl rfl rfl ?_
  refine LL.val (R.assign rfl rfl) rfl rfl rfl ?_
  refine LL.val (R.assign rfl rfl) rfl rfl rfl ?_
  refine LL.nilS ?_; refine CC.ret ?_; refine EE.ret _ rfl rfl ?_
  exact ⟨rfl, q⟩
set_option maxRecDepth 100000 in
set_option maxHeartbeats 8000000 in
theorem ly_pJournal_out (b i r t : Int) (k1 k2 : Nat) (a c d e n : Int) (w : World) (hl : isL b i r t a c d e) (hn : ¬(0 ≤ n ∧ n ≤ 7)) : Calls Tryz.prog 64 #[layV b i r t k1 k2 a c d e, .int .i64 n] w fun x w' => x = .returned (.tuple #[.int .i64 0, .int .i64 4]) ∧ Below w.heap.size w w' := by
  have q := Below.refl w.heap.size w
  refine X.fn Tryz.func64 rfl (n := 11) rfl rfl ?_
  refine CC.seq ?_; refine CC.region ?_
  refine LL.box [Value.int IntKind.i64 b, Value.int IntKind.i64 i, Value.int IntKind.i64 r, Value.int IntKind.i64 t, Value.int IntKind.u64 ↑k1, Value.int IntKind.u64 ↑k2, Value.int IntKind.i64 a, Value.int IntKind.i64 c, Value.int IntKind.i64 d, Value.int IntKind.i64 e] rfl rfl rfl rfl rfl ?_
  intro W2 g3 eg3 r4 z5 b1
  replace q := q.trans (b1.mono q.size)
  refine LL.val (R.assign rfl rfl) rfl rfl rfl ?_
  refine LL.val (R.assign rfl rfl) rfl rfl rfl ?_
  refine LL.nilS ?_; refine CC.seq ?_; refine CC.region ?_
  refine LL.val (R.load rfl rfl (I.ldNc (vs := [Value.int IntKind.i64 b, Value.int IntKind.i64 i, Value.int IntKind.i64 r, Value.int IntKind.i64 t, Value.int IntKind.u64 ↑k1, Value.int IntKind.u64 ↑k2, Value.int IntKind.i64 a, Value.int IntKind.i64 c, Value.int IntKind.i64 d, Value.int IntKind.i64 e]) (RowL.cells r4 rfl) (by rfl) (by rfl))) rfl rfl rfl ?_
  refine LL.val (R.move rfl rfl) rfl rfl rfl ?_
  refine LL.call (R.call rfl rfl rfl) rfl rfl rfl (ly_first2_out _ _ _ _ _ _ _ _ _ _ _ _ (by first | assumption | omega) (by first | assumption | omega)) ?_
  rintro e W7 ⟨rfl, b6⟩
  refine ⟨_, rfl, ?_⟩; have zb6 := b6.size; replace r4 := r4.up b6
  replace b1 := b1.trans (b6.mono b1.size)
  replace q := q.trans (b6.mono q.size)
  refine LL.val (R.extract rfl rfl rfl) rfl rfl rfl ?_
  refine LL.val (R.extract rfl rfl rfl) rfl rfl rfl ?_
  refine LL.val (R.assign rfl rfl) rfl rfl rfl ?_
  refine LL.val (R.assign rfl rfl) rfl rfl rfl ?_
  refine LL.nilS ?_; refine CC.ret ?_; refine EE.ret _ rfl rfl ?_
  exact ⟨rfl, q⟩
set_option maxRecDepth 100000 in
set_option maxHeartbeats 8000000 in
theorem ly_pJournal_bad (b i r t : Int) (k1 k2 : Nat) (a c d e n : Int) (w : World) (hl : ¬isL b i r t a c d e) : Calls Tryz.prog 64 #[layV b i r t k1 k2 a c d e, .int .i64 n] w fun x w' => x = .returned (.tuple #[.int .i64 0, .int .i64 2]) ∧ Below w.heap.size w w' := by
  have q := Below.refl w.heap.size w
  refine X.fn Tryz.func64 rfl (n := 11) rfl rfl ?_
  refine CC.seq ?_; refine CC.region ?_
  refine LL.box [Value.int IntKind.i64 b, Value.int IntKind.i64 i, Value.int IntKind.i64 r, Value.int IntKind.i64 t, Value.int IntKind.u64 ↑k1, Value.int IntKind.u64 ↑k2, Value.int IntKind.i64 a, Value.int IntKind.i64 c, Value.int IntKind.i64 d, Value.int IntKind.i64 e] rfl rfl rfl rfl rfl ?_
  intro W2 g3 eg3 r4 z5 b1
  replace q := q.trans (b1.mono q.size)
  refine LL.val (R.assign rfl rfl) rfl rfl rfl ?_
  refine LL.val (R.assign rfl rfl) rfl rfl rfl ?_
  refine LL.nilS ?_; refine CC.seq ?_; refine CC.region ?_
  refine LL.val (R.load rfl rfl (I.ldNc (vs := [Value.int IntKind.i64 b, Value.int IntKind.i64 i, Value.int IntKind.i64 r, Value.int IntKind.i64 t, Value.int IntKind.u64 ↑k1, Value.int IntKind.u64 ↑k2, Value.int IntKind.i64 a, Value.int IntKind.i64 c, Value.int IntKind.i64 d, Value.int IntKind.i64 e]) (RowL.cells r4 rfl) (by rfl) (by rfl))) rfl rfl rfl ?_
  refine LL.val (R.move rfl rfl) rfl rfl rfl ?_
  refine LL.call (R.call rfl rfl rfl) rfl rfl rfl (ly_first2_bad _ _ _ _ _ _ _ _ _ _ _ _ (by first | assumption | omega)) ?_
  rintro e W7 ⟨rfl, b6⟩
  refine ⟨_, rfl, ?_⟩; have zb6 := b6.size; replace r4 := r4.up b6
  replace b1 := b1.trans (b6.mono b1.size)
  replace q := q.trans (b6.mono q.size)
  refine LL.val (R.extract rfl rfl rfl) rfl rfl rfl ?_
  refine LL.val (R.extract rfl rfl rfl) rfl rfl rfl ?_
  refine LL.val (R.assign rfl rfl) rfl rfl rfl ?_
  refine LL.val (R.assign rfl rfl) rfl rfl rfl ?_
  refine LL.nilS ?_; refine CC.ret ?_; refine EE.ret _ rfl rfl ?_
  exact ⟨rfl, q⟩
set_option linter.unusedVariables false
set_option linter.unusedSimpArgs false
set_option maxRecDepth 100000
set_option maxHeartbeats 8000000
section
variable (b i r t : Int) (k1 k2 : Nat) (a c d e n : Int) (w : World)
theorem jat_T (hl : isL b i r t a c d e) (hn : 0 ≤ n ∧ n ≤ 7) : Calls Tryz.prog 43 #[layV b i r t k1 k2 a c d e, .int .i64 n] w fun x w' => x = .returned (.int .i64 (64 + 64 * n)) ∧ Below w.heap.size w w' := by
  have q := Below.refl w.heap.size w
  refine X.fn Tryz.func43 rfl (n := 17) rfl rfl ?_
  refine Zr ?_
  refine LL.box [.int .i64 b, .int .i64 i, .int .i64 r, .int .i64 t, .int .u64 ↑k1, .int .u64 ↑k2, .int .i64 a, .int .i64 c, .int .i64 d, .int .i64 e] rfl rfl rfl rfl rfl ?_
  intro W2 g3 eg3 r4 z5 b1
  replace q := Zu q b1; refine Za ?_; refine Zq ?_; refine Zr ?_; refine Zv r4 ?_; refine Zm ?_
  refine Zy (R.call rfl rfl rfl) (ly_pJournal_any _ _ _ _ _ _ _ _ _ _ _ _ (by first | assumption | omega) (by first | assumption | omega)) ?_
  rintro e W7 ⟨rfl, b6⟩
  refine ⟨_, rfl, ?_⟩; have zb6 := b6.size; replace r4 := r4.up b6; replace q := Zu q b6; refine Zm ?_; refine Zx ?_; refine Zx ?_; refine Za ?_; refine Za ?_; refine Zq ?_; refine Zr ?_; refine Zm ?_; refine ZneF ?_
  refine Zy (R.call rfl rfl rfl) (jrefuse_F _ _) ?_
  rintro e W' ⟨rfl, rfl⟩
  refine ⟨_, rfl, ?_⟩; refine Zq ?_; refine Zr ?_; refine Zm ?_; refine Za ?_; refine Zq ?_; refine ZR ?_; refine EE.ret _ rfl rfl ?_
  exact ⟨rfl, q⟩
theorem jat_O (hl : isL b i r t a c d e) (hn : ¬(0 ≤ n ∧ n ≤ 7)) : Calls Tryz.prog 43 #[layV b i r t k1 k2 a c d e, .int .i64 n] w fun x w' => x = .panicked (chain1 (jrefV 2)) ∧ Below w.heap.size w w' := by
  have q := Below.refl w.heap.size w
  refine X.fnP Tryz.func43 rfl (n := 17) rfl rfl ?_
  refine Zr ?_
  refine LL.box [.int .i64 b, .int .i64 i, .int .i64 r, .int .i64 t, .int .u64 ↑k1, .int .u64 ↑k2, .int .i64 a, .int .i64 c, .int .i64 d, .int .i64 e] rfl rfl rfl rfl rfl ?_
  intro W2 g3 eg3 r4 z5 b1
  replace q := Zu q b1; refine Za ?_; refine Zq ?_; refine Zr ?_; refine Zv r4 ?_; refine Zm ?_
  refine Zy (R.call rfl rfl rfl) (ly_pJournal_out _ _ _ _ _ _ _ _ _ _ _ _ (by first | assumption | omega) (by first | assumption | omega)) ?_
  rintro e W7 ⟨rfl, b6⟩
  refine ⟨_, rfl, ?_⟩; have zb6 := b6.size; replace r4 := r4.up b6; replace q := Zu q b6; refine Zm ?_; refine Zx ?_; refine Zx ?_; refine Za ?_; refine Za ?_; refine Zq ?_; refine Zr ?_; refine Zm ?_; refine ZneT ?_
  refine LL.callP (R.call rfl rfl rfl) rfl rfl (jrefuse_T _ _) ?_
  rintro e W10 ⟨rfl, rfl⟩
  refine ⟨_, rfl, ?_⟩; refine EE.thenP ?_; refine EE.panM ?_
  exact ⟨rfl, q⟩
theorem jat_B (hl : ¬isL b i r t a c d e) : Calls Tryz.prog 43 #[layV b i r t k1 k2 a c d e, .int .i64 n] w fun x w' => x = .panicked (chain1 (jrefV 2)) ∧ Below w.heap.size w w' := by
  have q := Below.refl w.heap.size w
  refine X.fnP Tryz.func43 rfl (n := 17) rfl rfl ?_
  refine Zr ?_
  refine LL.box [.int .i64 b, .int .i64 i, .int .i64 r, .int .i64 t, .int .u64 ↑k1, .int .u64 ↑k2, .int .i64 a, .int .i64 c, .int .i64 d, .int .i64 e] rfl rfl rfl rfl rfl ?_
  intro W2 g3 eg3 r4 z5 b1
  replace q := Zu q b1; refine Za ?_; refine Zq ?_; refine Zr ?_; refine Zv r4 ?_; refine Zm ?_
  refine Zy (R.call rfl rfl rfl) (ly_pJournal_bad _ _ _ _ _ _ _ _ _ _ _ _ (by first | assumption | omega)) ?_
  rintro e W7 ⟨rfl, b6⟩
  refine ⟨_, rfl, ?_⟩; have zb6 := b6.size; replace r4 := r4.up b6; replace q := Zu q b6; refine Zm ?_; refine Zx ?_; refine Zx ?_; refine Za ?_; refine Za ?_; refine Zq ?_; refine Zr ?_; refine Zm ?_; refine ZneT ?_
  refine LL.callP (R.call rfl rfl rfl) rfl rfl (jrefuse_T _ _) ?_
  rintro e W10 ⟨rfl, rfl⟩
  refine ⟨_, rfl, ?_⟩; refine EE.thenP ?_; refine EE.panM ?_
  exact ⟨rfl, q⟩
theorem jat_P (h : ¬(isL b i r t a c d e ∧ 0 ≤ n ∧ n ≤ 7)) : Calls Tryz.prog 43 #[layV b i r t k1 k2 a c d e, .int .i64 n] w fun x w' => x = .panicked (chain1 (jrefV 2)) ∧ Below w.heap.size w w' := by
  by_cases hl : isL b i r t a c d e
  · exact jat_O b i r t k1 k2 a c d e n w hl (fun hn => h ⟨hl, hn⟩)
  · exact jat_B b i r t k1 k2 a c d e n w hl
end
/-- A layout, cell by cell. -/
abbrev jlyL (b i r t : Int) (k1 k2 : Nat) (a c d e : Int) : List Value := [.int .i64 b, .int .i64 i, .int .i64 r, .int .i64 t, .int .u64 (k1 : Int), .int .u64 (k2 : Int), .int .i64 a, .int .i64 c, .int .i64 d, .int .i64 e]
theorem strike1_T (b i r t : Int) (k1 k2 : Nat) (a c d e n : Int) (gl gn go : Nat) (v0 : Value) (w : World) (hl : isL b i r t a c d e) (hn : 0 ≤ n ∧ n ≤ 7) (r1 : RowL w gl 31 (jlyL b i r t k1 k2 a c d e)) (r2 : RowL w gn 3 [.int .i64 n]) (r3 : RowL w go 50 [v0]) (hne : go ≠ gl ∧ go ≠ gn) : Calls Tryz.prog 44 #[.pointer (some ⟨gl, 0, none⟩), .pointer (some ⟨gn, 0, none⟩), .pointer (some ⟨go, 0, none⟩)] w fun x w' => x = .returned (.tuple #[]) ∧ (∃ gp, RowL w' go 50 [.slice (some ⟨gp, 0, none⟩) 1 1] ∧ RowL w' gp 59 [.int .i64 (64 + 64 * n), .int .u64 0] ∧ w.heap.size ≤ gp) ∧ Kept (jKW w go) w w' := by
  have q := Below.refl w.heap.size w
  have hok := Kept.refl (fun j => j < w.heap.size ∧ j ≠ go) w
  have lgo := r3.lt; have lgl := r1.lt; have lgn := r2.lt
  refine X.fn Tryz.func44 rfl (n := 8) rfl rfl ?_
  refine CC.region ?_; refine Zv r1 ?_; refine Zl r2 ?_
  refine Zy (R.call rfl rfl rfl) (jat_T _ _ _ _ _ _ _ _ _ _ _ _ (by first | assumption | omega) (by first | assumption | omega)) ?_
  rintro e W2 ⟨rfl, b1⟩
  refine ⟨_, rfl, ?_⟩; have zb1 := b1.size; replace r1 := r1.up b1; replace r2 := r2.up b1; replace r3 := r3.up b1; replace q := Zu q b1; replace hok := Zh hok b1; have y4 := hok.size
  refine LL.val (R.buildV rfl rfl (v := .agg #[Value.int IntKind.i64 (64 + 64 * n), Value.int IntKind.u64 0]) (fun _ => by kernel_rfl)) rfl rfl rfl ?_
  have l5 := r1.lt; have l6 := r2.lt; have l7 := r3.lt
  refine LL.lit (e := 59) [Value.int IntKind.i64 (64 + 64 * n), Value.int IntKind.u64 0] 1 rfl rfl (fun _ => by kernel_rfl) rfl rfl ?_
  intro W9 g10 eg10 r11 z12 b8
  replace r1 := r1.up b8; replace r2 := r2.up b8; replace r3 := r3.up b8; replace q := Zu q b8; replace hok := Zh hok b8; have y13 := hok.size
  refine LL.store rfl rfl rfl rfl r3 (by exact Nat.le_of_ble_eq_true rfl) rfl rfl rfl rfl ?_
  intro W15 r16 b14 z17
  have hlb14 := r3.lt
  replace r16 : RowL W15 _ 50 [.slice (some { block := g10, off := 0 }) 1 1] := r16
  clear r3
  replace r11 := Zd r11 b14; replace r1 := Zd r1 b14; replace r2 := Zd r2 b14; replace hok := Zo hok b14
  have r3 := r16
  clear r16
  refine ZL ?_; refine EE.end _ rfl rfl ?_
  exact ⟨rfl, ⟨_, r3, r11, by omega⟩, hok⟩
theorem strike1_P (b i r t : Int) (k1 k2 : Nat) (a c d e n : Int) (gl gn go ge : Nat) (w : World) (h : ¬(isL b i r t a c d e ∧ 0 ≤ n ∧ n ≤ 7)) (r1 : RowL w gl 31 (jlyL b i r t k1 k2 a c d e)) (r2 : RowL w gn 3 [.int .i64 n]) : Calls Tryz.prog 44 #[.pointer (some ⟨gl, 0, none⟩), .pointer (some ⟨gn, 0, none⟩), .pointer (some ⟨go, 0, none⟩)] w fun x w' => x = .panicked (chain1 (jrefV 2)) ∧ Kept (jKW w ge) w w' := by
  have q := Below.refl w.heap.size w
  have lgl := r1.lt; have lgn := r2.lt
  refine X.fnP Tryz.func44 rfl (n := 8) rfl rfl ?_
  refine CC.region ?_; refine Zv r1 ?_; refine Zl r2 ?_; have l23 := r1.lt; have l24 := r2.lt
  (refine LL.callP (R.call rfl rfl rfl) rfl rfl (jat_P b i r t k1 k2 a c d e n _ h) ?_; rintro e W22 ⟨rfl, b19⟩; refine ⟨_, rfl, ?_⟩)
  have zb19 := b19.size; replace r1 := r1.up b19; replace r2 := r2.up b19; replace q := Zu q b19; refine EE.panM ?_
  exact ⟨rfl, bkept q (fun _ hj => hj.1)⟩
theorem strike_T (b i r t : Int) (k1 k2 : Nat) (a c d e n : Int) (w : World) (hl : isL b i r t a c d e) (hn : 0 ≤ n ∧ n ≤ 7) : Calls Tryz.prog 20 #[layV b i r t k1 k2 a c d e, .int .i64 n] w fun x w' => ∃ gp, x = .returned (.tuple #[.slice (some ⟨gp, 0, none⟩) 1 1, .int .i64 0]) ∧ RowL w' gp 59 [.int .i64 (64 + 64 * n), .int .u64 0] ∧ w.heap.size ≤ gp ∧ Below w.heap.size w w' := by
  have q := Below.refl w.heap.size w
  refine X.fn Tryz.func20 rfl (n := 12) rfl rfl ?_
  refine Zr ?_
  refine LL.box [.int .i64 b, .int .i64 i, .int .i64 r, .int .i64 t, .int .u64 ↑k1, .int .u64 ↑k2, .int .i64 a, .int .i64 c, .int .i64 d, .int .i64 e] rfl rfl rfl rfl rfl ?_
  intro W2 g3 eg3 r4 z5 b1
  replace q := Zu q b1; have l6 := r4.lt
  refine LL.box [.int .i64 n] rfl rfl rfl rfl rfl ?_
  intro W8 g9 eg9 r10 z11 b7
  replace r4 := r4.up b7; replace b1 := Zu b1 b7; replace q := Zu q b7; refine Za ?_; refine Za ?_; refine Zq ?_; refine Zr ?_; have l12 := r10.lt; have l13 := r4.lt
  refine LL.alloc ([.slice none 0 0]) rfl rfl rfl rfl rfl ?_
  intro W15 g16 eg16 r17 z18 b14
  replace r10 := r10.up b14; replace b7 := Zu b7 b14; replace r4 := r4.up b14; replace b1 := Zu b1 b14; replace q := Zu q b14; refine Zq ?_; refine Zr ?_
  refine LL.val (R.func rfl rfl rfl) rfl rfl rfl ?_
  (have lg4 := r4.lt; have lg10 := r10.lt; have lg17 := r17.lt; refine Zy (R.call rfl rfl rfl) (jguarded_R _ [Value.pointer (some ⟨g3, 0, none⟩), .pointer (some ⟨g9, 0, none⟩), .pointer (some ⟨g16, 0, none⟩)] (by kernel_rfl) g16 (fun n' X => ∃ gp, RowL X g16 50 [.slice (some ⟨gp, 0, none⟩) 1 1] ∧ RowL X gp 59 [.int .i64 (64 + 64 * n), .int .u64 0] ∧ n' ≤ gp) _ (by omega) (fun n' X Y b' ⟨gp, h1, h2, h3⟩ hb1 hb2 hg => ⟨gp, h1.gr hg (by omega), h2.gr hg (by omega), h3⟩) (fun W' b' => strike1_T b i r t k1 k2 a c d e n g3 g9 g16 _ W' hl hn (r4.up b') (r10.up b') (r17.up b') ⟨by omega, by omega⟩)) ?_; rintro e @W ⟨rfl, ⟨n9, hn9, gp, r91, r92, h93⟩, t9⟩; refine ⟨_, rfl, ?_⟩; replace q := t9.onB q (fun j hj => ⟨by omega, by omega⟩); clear r4 b1 r10 b7 r17 b14)
  refine Za ?_; refine Zq ?_; refine Zr ?_; refine Zl r91 ?_; refine Zm ?_; refine Za ?_; refine Za ?_; refine Zq ?_; refine ZR ?_; refine EE.ret _ rfl rfl ?_
  exact ⟨gp, rfl, r92, by omega, q⟩
theorem strike_P (b i r t : Int) (k1 k2 : Nat) (a c d e n : Int) (w : World) (h : ¬(isL b i r t a c d e ∧ 0 ≤ n ∧ n ≤ 7)) : Calls Tryz.prog 20 #[layV b i r t k1 k2 a c d e, .int .i64 n] w fun x w' => x = .returned (.tuple #[.slice none 0 0, .int .i64 2]) ∧ Below w.heap.size w w' := by
  have q := Below.refl w.heap.size w
  refine X.fn Tryz.func20 rfl (n := 12) rfl rfl ?_
  refine Zr ?_
  refine LL.box [.int .i64 b, .int .i64 i, .int .i64 r, .int .i64 t, .int .u64 ↑k1, .int .u64 ↑k2, .int .i64 a, .int .i64 c, .int .i64 d, .int .i64 e] rfl rfl rfl rfl rfl ?_
  intro W2 g3 eg3 r4 z5 b1
  replace q := Zu q b1; have l6 := r4.lt
  refine LL.box [.int .i64 n] rfl rfl rfl rfl rfl ?_
  intro W8 g9 eg9 r10 z11 b7
  replace r4 := r4.up b7; replace b1 := Zu b1 b7; replace q := Zu q b7; refine Za ?_; refine Za ?_; refine Zq ?_; refine Zr ?_; have l12 := r10.lt; have l13 := r4.lt
  refine LL.alloc ([.slice none 0 0]) rfl rfl rfl rfl rfl ?_
  intro W15 g16 eg16 r17 z18 b14
  replace r10 := r10.up b14; replace b7 := Zu b7 b14; replace r4 := r4.up b14; replace b1 := Zu b1 b14; replace q := Zu q b14; refine Zq ?_; refine Zr ?_
  refine LL.val (R.func rfl rfl rfl) rfl rfl rfl ?_
  (have lg4 := r4.lt; have lg10 := r10.lt; have lg17 := r17.lt; refine Zy (R.call rfl rfl rfl) (jguarded_P 2 _ [Value.pointer (some ⟨g3, 0, none⟩), .pointer (some ⟨g9, 0, none⟩), .pointer (some ⟨g16, 0, none⟩)] (by kernel_rfl) g3 _ (by omega) (fun W' b' => strike1_P b i r t k1 k2 a c d e n g3 g9 g16 _ W' h (r4.up b') (r10.up b'))) ?_; rintro e @W ⟨rfl, t9⟩; refine ⟨_, rfl, ?_⟩; replace q := t9.onB q (fun j hj => ⟨by omega, by omega⟩); replace r17 := r17.kept t9 ⟨by omega, by omega⟩; clear r4 b1 r10 b7 b14)
  refine Za ?_; refine Zq ?_; refine Zr ?_; refine Zl r17 ?_; refine Zm ?_; refine Za ?_; refine Za ?_; refine Zq ?_; refine ZR ?_; refine EE.ret _ rfl rfl ?_
  exact ⟨rfl, q⟩
end Go.Proofs.YtaeaokimhbbnfaaGreatDoor
