/- Equal structs and arrays of integers, truth values, strings, and of such: cell by cell. Over any program. -/
import Derived.Test.YtajfffoaebjnlaaAuto
import Derived.Tactics
import Derived.Tactics2
import Derived.ChangeKeysEq
import Derived.Laws.StructEq
namespace Go.Proofs.Ytajfffoaebjnlaa
set_option linter.unusedVariables false
set_option linter.unusedSimpArgs false
open Go.RowKit Go.Shelf
section
variable {P : Program}
def eqF (P : Program) (g : TypeId → List Value → List Value → Option (List Bool)) (xs ys : List Value) : List Field → Option (List Bool)
  | [] => some []
  | f :: fs => if f.name = "_" then none else match g f.type ((xs.drop f.offset).take (P.cellsOf f.type)) ((ys.drop f.offset).take (P.cellsOf f.type)), eqF P g xs ys fs with
    | some a, some b => some (a ++ b)
    | _, _ => none
def eqI (g : List Value → List Value → Option (List Bool)) (c : Nat) (xs ys : List Value) : List Nat → Option (List Bool)
  | [] => some []
  | i :: is => match g ((xs.drop (i * c)).take c) ((ys.drop (i * c)).take c), eqI g c xs ys is with
    | some a, some b => some (a ++ b)
    | _, _ => none
def eqC (P : Program) : Nat → TypeId → List Value → List Value → Option (List Bool)
  | 0, _, _, _ => none
  | d + 1, t, xs, ys => match P.underlying t with
    | some (.struct fs) => if P.stoodInHeld t = true then none else eqF P (eqC P d) xs ys fs.toList
    | some (.array n e) => if n = 0 then none else eqI (eqC P d e) (P.cellsOf e) xs ys (List.range n)
    | some (.int _) => match xs, ys with
      | [.int k a], [.int k' b] => if k = k' then some [decide (a = b)] else none
      | _, _ => none
    | some .bool => match xs, ys with
      | [.bool a], [.bool b] => some [a == b]
      | _, _ => none
    | some .string => match xs, ys with
      | [.string a], [.string b] => some [a.toList == b.toList]
      | _, _ => none
    | _ => none
def valC (P : Program) (t : TypeId) (xs : List Value) : Value := match P.underlying t with
  | some (.struct _) | some (.array _ _) => .agg xs.toArray
  | _ => xs.headD undef
theorem eqC_part {d : Nat} {t : TypeId} {xs ys : List Value} {off : Nat} {bs : List Bool} (h : eqC P d t ((xs.drop off).take (P.cellsOf t)) ((ys.drop off).take (P.cellsOf t)) = some bs) (w : World) :
    (part t xs.toArray off).run P w = .ok (valC P t ((xs.drop off).take (P.cellsOf t))) w ∧ (part t ys.toArray off).run P w = .ok (valC P t ((ys.drop off).take (P.cellsOf t))) w := by
  cases d with
  | zero => cases h
  | succ d =>
    have one : ∀ (zs : List Value) (v : Value), (zs.drop off).take (P.cellsOf t) = [v] → zs.toArray[off]? = some v := by
      intro zs v hz
      have : ((zs.drop off).take (P.cellsOf t))[0]? = some v := by rw [hz]; rfl
      rw [List.getElem?_take] at this
      split at this
      · simpa using this
      · cases this
    have agg : ∀ zs : List Value, zs.toArray.extract off (off + P.cellsOf t) = ((zs.drop off).take (P.cellsOf t)).toArray := by
      intro zs
      simp [List.extract]
    cases hu : P.underlying t with
    | none => simp [eqC, hu] at h
    | some kd =>
      obtain ⟨i, hi⟩ := info_of_underlying hu
      cases kd <;> simp only [eqC, hu] at h <;> try (cases h; done)
      case bool =>
        split at h
        · rename_i a b e1 e2
          rw [e1, e2]
          simp [part, isAgg, run_underlying hu, valC, hu, one xs _ e1, one ys _ e2]
        · cases h
      case int =>
        split at h
        · rename_i a b e1 e2
          rw [e1, e2]
          simp [part, isAgg, run_underlying hu, valC, hu, one xs _ e1, one ys _ e2]
        · cases h
      case string =>
        split at h
        · rename_i a b e1 e2
          rw [e1, e2]
          simp [part, isAgg, run_underlying hu, valC, hu, one xs _ e1, one ys _ e2]
        · cases h
      case struct fs => simp [part, isAgg, run_underlying hu, run_sizeOf _ hi, valC, hu, List.extract]
      case array n e => simp [part, isAgg, run_underlying hu, run_sizeOf _ hi, valC, hu, List.extract]
theorem fieldsOf_eq {t : TypeId} {fs : Array Field} (h : P.underlying t = some (.struct fs)) : P.fieldsOf t = fs := by simp [Program.fieldsOf, h]
theorem run_eqF {d dd : Nat} {xs ys : List Value} (IH : ∀ t xs ys bs w, eqC P d t xs ys = some bs → (Op.equalIn dd t (valC P t xs) (valC P t ys)).run P w = .ok (bs.all id) w) :
    ∀ (fs : List Field) (bs : List Bool) (w : World), eqF P (eqC P d) xs ys fs = some bs → (Op.eqFields dd xs.toArray ys.toArray fs).run P w = .ok (bs.all id) w
  | [], bs, w, h => by simp only [eqF, Option.some.injEq] at h; subst h; simp [Op.eqFields]
  | f :: fs, bs, w, h => by
    simp only [eqF] at h
    split at h
    · cases h
    rename_i hn
    split at h
    · rename_i a b h1 h2
      cases h
      obtain ⟨p1, p2⟩ := eqC_part h1 w
      simp only [Op.eqFields, ne_eq, hn, not_false_eq_true, if_true, Sem.run_bind, p1, p2, Result.andThen_ok, IH _ _ _ _ w h1, List.all_append]
      cases ha : a.all id
      · simp
      · simpa using run_eqF IH fs b w h2
    · cases h
theorem run_eqI {d dd : Nat} {e : TypeId} {xs ys : List Value} (IH : ∀ t xs ys bs w, eqC P d t xs ys = some bs → (Op.equalIn dd t (valC P t xs) (valC P t ys)).run P w = .ok (bs.all id) w) :
    ∀ (is : List Nat) (bs : List Bool) (w : World), eqI (eqC P d e) (P.cellsOf e) xs ys is = some bs → (Op.eqItems dd e (P.cellsOf e) xs.toArray ys.toArray is).run P w = .ok (bs.all id) w
  | [], bs, w, h => by simp only [eqI, Option.some.injEq] at h; subst h; simp [Op.eqItems]
  | i :: is, bs, w, h => by
    simp only [eqI] at h
    split at h
    · rename_i a b h1 h2
      cases h
      obtain ⟨p1, p2⟩ := eqC_part h1 w
      simp only [Op.eqItems, Sem.run_bind, p1, p2, Result.andThen_ok, IH _ _ _ _ w h1, List.all_append]
      cases ha : a.all id
      · simp
      · simpa using run_eqI IH is b w h2
    · cases h
theorem run_eqC : ∀ (d k : Nat) (t : TypeId) (xs ys : List Value) (bs : List Bool) (w : World), eqC P d t xs ys = some bs → (Op.equalIn (d + k) t (valC P t xs) (valC P t ys)).run P w = .ok (bs.all id) w
  | 0, _, _, _, _, _, _, h => by cases h
  | d + 1, k, t, xs, ys, bs, w, h => by
    have IH := fun t xs ys bs w => run_eqC d k t xs ys bs w
    rw [show d + 1 + k = (d + k) + 1 by omega]
    cases hu : P.underlying t with
    | none => simp [eqC, hu] at h
    | some kd =>
      cases kd <;> simp only [eqC, hu] at h <;> try (cases h; done)
      case bool =>
        split at h
        · rename_i a b
          cases h
          simp [valC, hu, run_equalIn_bool' w (d + k) t a b hu]
        · cases h
      case int q =>
        split at h
        · rename_i k1 a k2 b
          split at h
          · rename_i hk
            subst hk
            cases h
            simp only [valC, hu, List.headD_cons, List.all_cons, List.all_nil, Bool.and_true, id]
            exact run_equalIn_int w (d + k) t k1 q a b hu
          · cases h
        · cases h
      case string =>
        split at h
        · rename_i a b
          cases h
          simp [valC, hu, run_equalIn_string w (d + k) t a b hu]
        · cases h
      case struct fs =>
        split at h
        · cases h
        rename_i hst
        simp only [valC, hu]
        have hf := fieldsOf_eq hu
        rw [run_equalIn_struct w (d + k) t _ _ (by rw [hf]; exact hu) (by simpa using hst), hf]
        exact run_eqF IH _ _ _ h
      case array n e =>
        split at h
        · cases h
        rename_i hn0
        cases n with
        | zero => exact absurd rfl hn0
        | succ n =>
          have hi : ∃ i, P.info? e = some i := by
            rw [show List.range (n + 1) = 0 :: (List.range n).map Nat.succ by rw [List.range_succ_eq_map]] at h
            simp only [eqI] at h
            split at h
            · rename_i a b h1 h2
              cases d with
              | zero => cases h1
              | succ d =>
                cases hue : P.underlying e with
                | none => simp [eqC, hue] at h1
                | some _ => exact info_of_underlying hue
            · cases h
          obtain ⟨i, hi⟩ := hi
          simp only [valC, hu]
          rw [run_equalIn_array w (d + k) _ _ hu hi]
          exact run_eqI IH _ _ _ h
theorem valC_agg {t : TypeId} {xs : List Value} (h : aggB P t = true) : valC P t xs = .agg xs.toArray := by
  unfold aggB at h
  unfold valC
  split at h <;> first | rfl | simp_all
variable {n : Nat} {D : List Deferred} {M : Slots} {w : World} {o : Oper} {x y : Operand} {t u : TypeId} {xs ys : List Value} {bs : List Bool} {p : Prop} [Decidable p]
theorem R.eqBsS (ho : o.op = .binOp .eql t x y u) (hx : evM M x = some (.agg xs.toArray)) (hy : evM M y = some (.agg ys.toArray)) (ht : aggB P t = true) (hg : P.eqGuardType P.depth t = false) (hb : eqC P 9 t xs ys = some bs) (hp : bs.all id = decide p) : Runs P n D M o w (.value (.bool (decide p))) w := R.bin ho hx hy (by
  have h := run_eqC 9 9991 t xs ys bs w hb
  rw [valC_agg ht, valC_agg ht] at h
  simp only [Sem.run_bind, run_eqGuard_agg w _ _ _ _ _ _ hg, Result.andThen_ok, run_eql_struct]
  rw [show (10000 : Nat) = 9 + 9991 from rfl, h, hp]
  rfl)
theorem R.neS' (ho : o.op = .binOp .neq t x y u) (hx : evM M x = some (.agg xs.toArray)) (hy : evM M y = some (.agg ys.toArray)) (ht : aggB P t = true) (hg : P.eqGuardType P.depth t = false) (hb : eqC P 9 t xs ys = some bs) (hp : bs.all id = decide p) : Runs P n D M o w (.value (.bool (decide ¬p))) w := R.bin ho hx hy (by
  have h := run_eqC 9 9991 t xs ys bs w hb
  rw [valC_agg ht, valC_agg ht] at h
  simp only [Sem.run_bind, run_eqGuard_agg w _ _ _ _ _ _ hg, Result.andThen_ok, run_neq_struct]
  rw [show (10000 : Nat) = 9 + 9991 from rfl, h, hp]
  simp)
theorem R.eqST (ho : o.op = .binOp .eql t x y u) (hx : evM M x = some (.agg xs.toArray)) (hy : evM M y = some (.agg ys.toArray)) (ht : aggB P t = true) (hg : P.eqGuardType P.depth t = false) (hb : eqC P 9 t xs ys = some bs) (hp : bs.all id = decide p) (h : p) : Runs P n D M o w (.value (.bool true)) w := by
  have := R.eqBsS (w := w) (n := n) (D := D) ho hx hy ht hg hb hp
  rwa [decide_eq_true h] at this
theorem R.eqSF (ho : o.op = .binOp .eql t x y u) (hx : evM M x = some (.agg xs.toArray)) (hy : evM M y = some (.agg ys.toArray)) (ht : aggB P t = true) (hg : P.eqGuardType P.depth t = false) (hb : eqC P 9 t xs ys = some bs) (hp : bs.all id = decide p) (h : ¬p) : Runs P n D M o w (.value (.bool false)) w := by
  have := R.eqBsS (w := w) (n := n) (D := D) ho hx hy ht hg hb hp
  rwa [decide_eq_false h] at this
theorem R.neST (ho : o.op = .binOp .neq t x y u) (hx : evM M x = some (.agg xs.toArray)) (hy : evM M y = some (.agg ys.toArray)) (ht : aggB P t = true) (hg : P.eqGuardType P.depth t = false) (hb : eqC P 9 t xs ys = some bs) (hp : bs.all id = decide p) (h : p) : Runs P n D M o w (.value (.bool false)) w := by
  have := R.neS' (w := w) (n := n) (D := D) ho hx hy ht hg hb hp
  rwa [decide_eq_false (not_not_intro h)] at this
theorem R.neSF (ho : o.op = .binOp .neq t x y u) (hx : evM M x = some (.agg xs.toArray)) (hy : evM M y = some (.agg ys.toArray)) (ht : aggB P t = true) (hg : P.eqGuardType P.depth t = false) (hb : eqC P 9 t xs ys = some bs) (hp : bs.all id = decide p) (h : ¬p) : Runs P n D M o w (.value (.bool true)) w := by
  have := R.neS' (w := w) (n := n) (D := D) ho hx hy ht hg hb hp
  rwa [decide_eq_true h] at this
end
end Go.Proofs.Ytajfffoaebjnlaa
