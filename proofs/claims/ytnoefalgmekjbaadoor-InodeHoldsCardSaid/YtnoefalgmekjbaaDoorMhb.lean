/- What the statements' walks use: Zip, OwnZ, EqS, Mesh, TNew, TClear, TSet, TFld, Fwd, Ea, Arr, Eb, Ec, Ed, Ee, Wd6, EqA, Ef, Eg, Eh, Ex22, Ex23, Ex24, Ex25, Ex26, Ex29, Ex30, Ex31. -/
import Derived.Tactics
import Derived.Tactics2
import Derived.ChangeKeysEq
import Derived.Laws.StructEq
import Derived.Deep.Upon
import Derived.Test.YtnoefalgmekjbaaDoorProg
import Derived.WalkKit
import Derived.IntWalk
import Derived.Lib.Hide
import Derived.Deep.QuietTactic
import Derived.BigQuiet
import Derived.Test.YtnoefalgmekjbaaDoorMha
/- Short names for the steps that walks take most often. -/
namespace Go.Proofs.YtnoefalgmekjbaaDoor
set_option linter.unusedVariables false
set_option linter.unusedSimpArgs false
open Go.RowKit Go.Shelf
set_option linter.unusedVariables false
section
variable {P : Program} {r : Option Nat} {ops : Array Oper} {Q : Exit → Act → World → Prop} {n : Nat} {D : List Deferred} {M : Slots} {o : Oper} {rest : List Oper} {w w' : World} {t u : TypeId} {x y : Operand} {v vx : Value}
theorem Zm (k : LL r P ops Q n D (putM M o.dst (v)) rest w) (ho : o.op = .move x := by exact rfl) (hx : evM M x = some v := by exact rfl)  (hd : dstB n o.dst = true := by exact rfl) (hdf : dfB o.op = false := by exact rfl) (hg : wantB ops M o.guard = some true := by exact rfl) : LL r P ops Q n D M (o :: rest) w := LL.val (R.move ho hx) hd hdf hg k
theorem Za (k : LL r P ops Q n D (putM M o.dst (v)) rest w) (ho : o.op = .assign x := by exact rfl) (hx : evM M x = some v := by exact rfl)  (hd : dstB n o.dst = true := by exact rfl) (hdf : dfB o.op = false := by exact rfl) (hg : wantB ops M o.guard = some true := by exact rfl) : LL r P ops Q n D M (o :: rest) w := LL.val (R.assign ho hx) hd hdf hg k
theorem Zp {c : Operand} {b : Bool} (k : LL r P ops Q n D (putM M o.dst (v)) rest w) (ho : o.op = .pick c x y := by exact rfl) (hc : evM M c = some (.bool b) := by exact rfl) (hv : evM M (bif b then x else y) = some v := by exact rfl)  (hd : dstB n o.dst = true := by exact rfl) (hdf : dfB o.op = false := by exact rfl) (hg : wantB ops M o.guard = some true := by exact rfl) : LL r P ops Q n D M (o :: rest) w := LL.val (R.pick ho hc hv) hd hdf hg k
theorem Zf {i off g p : Nat} (k : LL r P ops Q n D (putM M o.dst (.pointer (some ⟨g, p + off, none⟩))) rest w) (ho : o.op = .fieldAddr t x i := by exact rfl) (hx : evM M x = some (.pointer (some ⟨g, p, none⟩)) := by exact rfl) (h : fldB P t i = some (off, true) := by exact rfl)  (hd : dstB n o.dst = true := by exact rfl) (hdf : dfB o.op = false := by exact rfl) (hg : wantB ops M o.guard = some true := by exact rfl) : LL r P ops Q n D M (o :: rest) w := LL.val (R.field ho hx (I.fld h)) hd hdf hg k
theorem Zl {g e j : Nat} {xs : List Value} (row : RowL w g e xs) (k : LL r P ops Q n D (putM M o.dst (v)) rest w) (ho : o.op = .load t x := by exact rfl) (hx : evM M x = some (.pointer (some ⟨g, j, none⟩)) := by exact rfl) (hT : oneB P t = true := by exact rfl) (hu : xs[j]? = some v := by exact rfl)  (hd : dstB n o.dst = true := by exact rfl) (hdf : dfB o.op = false := by exact rfl) (hg : wantB ops M o.guard = some true := by exact rfl) : LL r P ops Q n D M (o :: rest) w := LL.val (R.load ho hx (I.ld1 hT (RowL.cell row hu))) hd hdf hg k
theorem Zk {p : Addr} (k : LL r P ops Q n D (putM M o.dst (v)) rest w) (ho : o.op = .load t x := by exact rfl) (hx : evM M x = some (.pointer (some p)) := by exact rfl) (hT : oneB P t = true := by exact rfl) (hc : w.cell? p = some v := by assumption)  (hd : dstB n o.dst = true := by exact rfl) (hdf : dfB o.op = false := by exact rfl) (hg : wantB ops M o.guard = some true := by exact rfl) : LL r P ops Q n D M (o :: rest) w := LL.val (R.load ho hx (I.ld1 hT hc)) hd hdf hg k
theorem Zv {g e : Nat} {xs : List Value} (row : RowL w g e xs) (k : LL r P ops Q n D (putM M o.dst (.agg xs.toArray)) rest w) (ho : o.op = .load t x := by exact rfl) (hx : evM M x = some (.pointer (some ⟨g, 0, none⟩)) := by exact rfl) (hT : aggB P t = true := by exact rfl) (hz : szB P t = some xs.length := by exact rfl)  (hd : dstB n o.dst = true := by exact rfl) (hdf : dfB o.op = false := by exact rfl) (hg : wantB ops M o.guard = some true := by exact rfl) : LL r P ops Q n D M (o :: rest) w := LL.val (R.load ho hx (I.ldNc row.cells0 hT hz)) hd hdf hg k
theorem Zx {i : Nat} {vs : Array Value} (k : LL r P ops Q n D (putM M o.dst (v)) rest w) (ho : o.op = .extract x i := by exact rfl) (hx : evM M x = some (.tuple vs) := by exact rfl) (hv : vs[i]? = some v := by exact rfl)  (hd : dstB n o.dst = true := by exact rfl) (hdf : dfB o.op = false := by exact rfl) (hg : wantB ops M o.guard = some true := by exact rfl) : LL r P ops Q n D M (o :: rest) w := LL.val (R.extract ho hx hv) hd hdf hg k
theorem Zt {b : Bool} (k : LL r P ops Q n D (putM M o.dst (.bool (!b))) rest w) (ho : o.op = .unOp .not t x := by exact rfl) (hx : evM M x = some (.bool b) := by exact rfl)  (hd : dstB n o.dst = true := by exact rfl) (hdf : dfB o.op = false := by exact rfl) (hg : wantB ops M o.guard = some true := by exact rfl) : LL r P ops Q n D M (o :: rest) w := LL.val (R.not ho hx) hd hdf hg k
theorem Zi {e bl off len cap i : Nat} (k : LL r P ops Q n D (putM M o.dst (.pointer (some ⟨bl, off + (@OfNat.ofNat Nat i (instOfNatNat i)), none⟩))) rest w) (ho : o.op = .indexAddr t x y := by exact rfl) (hx : evM M x = some (.slice (some ⟨bl, off, none⟩) len cap) := by exact rfl) (hy : evM M y = some (.int .i64 (@OfNat.ofNat Int i instOfNat)) := by exact rfl) (hlit : Nat.ble i 18446744073709551616 = true := by exact rfl) (h : slB P t = some (e, 1) := by exact rfl) (hi : (@OfNat.ofNat Nat i (instOfNatNat i)) < len := by omega)  (hd : dstB n o.dst = true := by exact rfl) (hdf : dfB o.op = false := by exact rfl) (hg : wantB ops M o.guard = some true := by exact rfl) : LL r P ops Q n D M (o :: rest) w := LL.val (R.index ho hx hy (I.ixS1c hlit h hi)) hd hdf hg k
theorem Zn {xs : Array Operand} {ts : Array TypeId} {m : Nat} (k : LL r P ops Q n D (putM M o.dst (.int .i64 (m : Int))) rest w) (ho : o.op = .call { callee := .builtin .len, args := xs, argTypes := ts } := by exact rfl) (hx : evsM M xs.toList = some [v] := by exact rfl) (ht : ts[0]? = some t := by exact rfl) (h : lenB P t v = some m := by exact rfl)  (hd : dstB n o.dst = true := by exact rfl) (hdf : dfB o.op = false := by exact rfl) (hg : wantB ops M o.guard = some true := by exact rfl) : LL r P ops Q n D M (o :: rest) w := LL.val (R.len ho hx ht h) hd hdf hg k
theorem ZeqT {kk : IntKind} {a b : Int} (k : LL r P ops Q n D (putM M o.dst (.bool true)) rest w) (ho : o.op = .binOp .eql t x y u := by exact rfl) (hx : evM M x = some (.int kk a) := by exact rfl) (hy : evM M y = some (.int kk b) := by exact rfl) (h : a = b := by omega)  (hd : dstB n o.dst = true := by exact rfl) (hdf : dfB o.op = false := by exact rfl) (hg : wantB ops M o.guard = some true := by exact rfl) : LL r P ops Q n D M (o :: rest) w := LL.val (R.eqT ho hx hy h) hd hdf hg k
theorem ZeqF {kk : IntKind} {a b : Int} (k : LL r P ops Q n D (putM M o.dst (.bool false)) rest w) (ho : o.op = .binOp .eql t x y u := by exact rfl) (hx : evM M x = some (.int kk a) := by exact rfl) (hy : evM M y = some (.int kk b) := by exact rfl) (h : a ≠ b := by omega)  (hd : dstB n o.dst = true := by exact rfl) (hdf : dfB o.op = false := by exact rfl) (hg : wantB ops M o.guard = some true := by exact rfl) : LL r P ops Q n D M (o :: rest) w := LL.val (R.eqF ho hx hy h) hd hdf hg k
theorem ZneT {kk : IntKind} {a b : Int} (k : LL r P ops Q n D (putM M o.dst (.bool true)) rest w) (ho : o.op = .binOp .neq t x y u := by exact rfl) (hx : evM M x = some (.int kk a) := by exact rfl) (hy : evM M y = some (.int kk b) := by exact rfl) (h : a ≠ b := by omega)  (hd : dstB n o.dst = true := by exact rfl) (hdf : dfB o.op = false := by exact rfl) (hg : wantB ops M o.guard = some true := by exact rfl) : LL r P ops Q n D M (o :: rest) w := LL.val (R.neT ho hx hy h) hd hdf hg k
theorem ZneF {kk : IntKind} {a b : Int} (k : LL r P ops Q n D (putM M o.dst (.bool false)) rest w) (ho : o.op = .binOp .neq t x y u := by exact rfl) (hx : evM M x = some (.int kk a) := by exact rfl) (hy : evM M y = some (.int kk b) := by exact rfl) (h : a = b := by omega)  (hd : dstB n o.dst = true := by exact rfl) (hdf : dfB o.op = false := by exact rfl) (hg : wantB ops M o.guard = some true := by exact rfl) : LL r P ops Q n D M (o :: rest) w := LL.val (R.neF ho hx hy h) hd hdf hg k
theorem ZltT {kk : IntKind} {a b : Int} (k : LL r P ops Q n D (putM M o.dst (.bool true)) rest w) (ho : o.op = .binOp .lss t x y u := by exact rfl) (hx : evM M x = some (.int kk a) := by exact rfl) (hy : evM M y = some (.int kk b) := by exact rfl) (h : a < b := by omega)  (hd : dstB n o.dst = true := by exact rfl) (hdf : dfB o.op = false := by exact rfl) (hg : wantB ops M o.guard = some true := by exact rfl) : LL r P ops Q n D M (o :: rest) w := LL.val (R.ltT ho hx hy h) hd hdf hg k
theorem ZltF {kk : IntKind} {a b : Int} (k : LL r P ops Q n D (putM M o.dst (.bool false)) rest w) (ho : o.op = .binOp .lss t x y u := by exact rfl) (hx : evM M x = some (.int kk a) := by exact rfl) (hy : evM M y = some (.int kk b) := by exact rfl) (h : b ≤ a := by omega)  (hd : dstB n o.dst = true := by exact rfl) (hdf : dfB o.op = false := by exact rfl) (hg : wantB ops M o.guard = some true := by exact rfl) : LL r P ops Q n D M (o :: rest) w := LL.val (R.ltF ho hx hy h) hd hdf hg k
theorem ZleT {kk : IntKind} {a b : Int} (k : LL r P ops Q n D (putM M o.dst (.bool true)) rest w) (ho : o.op = .binOp .leq t x y u := by exact rfl) (hx : evM M x = some (.int kk a) := by exact rfl) (hy : evM M y = some (.int kk b) := by exact rfl) (h : a ≤ b := by omega)  (hd : dstB n o.dst = true := by exact rfl) (hdf : dfB o.op = false := by exact rfl) (hg : wantB ops M o.guard = some true := by exact rfl) : LL r P ops Q n D M (o :: rest) w := LL.val (R.leT ho hx hy h) hd hdf hg k
theorem ZleF {kk : IntKind} {a b : Int} (k : LL r P ops Q n D (putM M o.dst (.bool false)) rest w) (ho : o.op = .binOp .leq t x y u := by exact rfl) (hx : evM M x = some (.int kk a) := by exact rfl) (hy : evM M y = some (.int kk b) := by exact rfl) (h : b < a := by omega)  (hd : dstB n o.dst = true := by exact rfl) (hdf : dfB o.op = false := by exact rfl) (hg : wantB ops M o.guard = some true := by exact rfl) : LL r P ops Q n D M (o :: rest) w := LL.val (R.leF ho hx hy h) hd hdf hg k
theorem ZgtT {kk : IntKind} {a b : Int} (k : LL r P ops Q n D (putM M o.dst (.bool true)) rest w) (ho : o.op = .binOp .gtr t x y u := by exact rfl) (hx : evM M x = some (.int kk a) := by exact rfl) (hy : evM M y = some (.int kk b) := by exact rfl) (h : b < a := by omega)  (hd : dstB n o.dst = true := by exact rfl) (hdf : dfB o.op = false := by exact rfl) (hg : wantB ops M o.guard = some true := by exact rfl) : LL r P ops Q n D M (o :: rest) w := LL.val (R.gtT ho hx hy h) hd hdf hg k
theorem ZgtF {kk : IntKind} {a b : Int} (k : LL r P ops Q n D (putM M o.dst (.bool false)) rest w) (ho : o.op = .binOp .gtr t x y u := by exact rfl) (hx : evM M x = some (.int kk a) := by exact rfl) (hy : evM M y = some (.int kk b) := by exact rfl) (h : a ≤ b := by omega)  (hd : dstB n o.dst = true := by exact rfl) (hdf : dfB o.op = false := by exact rfl) (hg : wantB ops M o.guard = some true := by exact rfl) : LL r P ops Q n D M (o :: rest) w := LL.val (R.gtF ho hx hy h) hd hdf hg k
theorem ZgeT {kk : IntKind} {a b : Int} (k : LL r P ops Q n D (putM M o.dst (.bool true)) rest w) (ho : o.op = .binOp .geq t x y u := by exact rfl) (hx : evM M x = some (.int kk a) := by exact rfl) (hy : evM M y = some (.int kk b) := by exact rfl) (h : b ≤ a := by omega)  (hd : dstB n o.dst = true := by exact rfl) (hdf : dfB o.op = false := by exact rfl) (hg : wantB ops M o.guard = some true := by exact rfl) : LL r P ops Q n D M (o :: rest) w := LL.val (R.geT ho hx hy h) hd hdf hg k
theorem ZgeF {kk : IntKind} {a b : Int} (k : LL r P ops Q n D (putM M o.dst (.bool false)) rest w) (ho : o.op = .binOp .geq t x y u := by exact rfl) (hx : evM M x = some (.int kk a) := by exact rfl) (hy : evM M y = some (.int kk b) := by exact rfl) (h : a < b := by omega)  (hd : dstB n o.dst = true := by exact rfl) (hdf : dfB o.op = false := by exact rfl) (hg : wantB ops M o.guard = some true := by exact rfl) : LL r P ops Q n D M (o :: rest) w := LL.val (R.geF ho hx hy h) hd hdf hg k
theorem Zy {f : FuncId} {args : Array Value} {R : Ending → World → Prop} (hr : Runs P n D M o w (.enter f args) w) (hc : Calls P f args w R) (k : ∀ e w', R e w' → ∃ v, e = .returned v ∧ LL r P ops Q n D (putM M o.dst v) rest w') (hd : dstB n o.dst = true := by exact rfl) (hdf : dfB o.op = false := by exact rfl) (hg : wantB ops M o.guard = some true := by exact rfl) : LL r P ops Q n D M (o :: rest) w := LL.call hr hd hdf hg hc k
theorem ZY {c : Operand} {x y : Code} (h : CC r P Q n D M x w) (hc : evM M c = some (.bool true) := by exact rfl) : CC r P Q n D M (.cond c x y) w := CC.yes hc h
theorem ZN {c : Operand} {x y : Code} (h : CC r P Q n D M y w) (hc : evM M c = some (.bool false) := by exact rfl) : CC r P Q n D M (.cond c x y) w := CC.no hc h
theorem ZT {y : Code} (h : CC r P Q n D M y w) : EE (Exit.then (y.wpIn (Wr r) 3 P Q) Q) n D M .normal w := EE.thenN h
theorem ZK (h : EE Q n D M .normal w) : CC r P Q n D M .skip w := CC.skip h
theorem ZR (h : EE Q n D M .ret w) : CC r P Q n D M .ret w := CC.ret h
theorem ZL (k : EE Q n D M .normal w) : LL r P ops Q n D M [] w := LL.nil k
theorem Zs (k : LL r P ops Q n D (putM M o.dst undef) rest w) (hd : dstB n o.dst = true := by exact rfl) (hg : wantB ops M o.guard = some false := by exact rfl) : LL r P ops Q n D M (o :: rest) w := LL.skip hd hg k
theorem Zq {y : Code} (k : CC r P Q n D M y w) : LL r P ops (Exit.then (y.wpIn (Wr r) 3 P Q) Q) n D M [] w := LL.nilS k
theorem Zr {id : Nat} {l : List Oper} {y : Code} (h : LL r P l.toArray (Exit.then (y.wpIn (Wr r) 3 P Q) Q) n D M l w) : CC r P Q n D M (.seq (.region id l.toArray false) y) w := CC.seq (CC.region h)
theorem Zc {x y : Code} (h : CC r P (Exit.then (y.wpIn (Wr r) 3 P Q) Q) n D M x w) : CC r P Q n D M (.seq x y) w := CC.seq h
end
section
variable {w w' : World}
theorem Zu {a b c : World} (h : Below a.heap.size a b) (k : Below b.heap.size b c) : Below a.heap.size a c := h.trans (k.mono h.size)
theorem Zg {a : World} {r : Nat} (h : Below a.heap.size a w) (hg : w.grownBy w' (some r)) (hr : a.heap.size ≤ r := by omega) : Below a.heap.size a w' := h.grown hg h.size (by rintro k ⟨⟩; exact hr)
theorem Zd {g e r : Nat} {xs : List Value} (h : RowL w g e xs) (hg : w.grownBy w' (some r)) (hne : g < w.heap.size → g ≠ r := by omega) : RowL w' g e xs := h.gr hg (hne h.lt)
theorem Ze {b o r : Nat} {v : Value} (h : w.cell? ⟨b, o, none⟩ = some v) (hg : w.grownBy w' (some r)) (hne : b ≠ r := by omega) : w'.cell? ⟨b, o, none⟩ = some v := cell_gr h hg hne
theorem Zh {a : World} {K : Nat → Prop} (h : Kept K a w) (b : Below w.heap.size w w') (hk : ∀ j, K j → j < a.heap.size := by exact fun j h => h.1) : Kept K a w' := h.trans (bkept b (fun j hj => by have := hk j hj; have := h.size; omega))
theorem Zo {a : World} {K : Nat → Prop} {r : Nat} (h : Kept K a w) (hg : w.grownBy w' (some r)) (hk : ∀ j, K j → j < a.heap.size := by exact fun j h => h.1) (hr : ∀ j, K j → r ≠ j := by intro j h e; subst e; have h2 := h.1; have h3 := h.2; omega) : Kept K a w' := h.trans (grown_kept hg (fun j hj => by have := hk j hj; have := h.size; omega) (fun j hj e => hr j hj (by cases e; rfl)))
end
section
variable {P : Program} {ops : Array Oper} {K : Act → Prop} {n : Nat} {D : List Deferred} {M : Slots} {o : Oper} {rest : List Oper} {W : World} {t u : TypeId} {x y : Operand} {v vx : Value}
theorem Gm (k : GG P ops (fun X => Below W.heap.size W X) K n D (putM M o.dst (v)) rest) (ho : o.op = .move x := by exact rfl) (hx : evM M x = some v := by exact rfl)  (hd : dstB n o.dst = true := by exact rfl) (hg : wantB ops M o.guard = some true := by exact rfl) : GG P ops (fun X => Below W.heap.size W X) K n D M (o :: rest) := GG.val (fun w' b' => R.move ho hx) hd hg k
theorem Gf {i off g p : Nat} (k : GG P ops (fun X => Below W.heap.size W X) K n D (putM M o.dst (.pointer (some ⟨g, p + off, none⟩))) rest) (ho : o.op = .fieldAddr t x i := by exact rfl) (hx : evM M x = some (.pointer (some ⟨g, p, none⟩)) := by exact rfl) (h : fldB P t i = some (off, true) := by exact rfl)  (hd : dstB n o.dst = true := by exact rfl) (hg : wantB ops M o.guard = some true := by exact rfl) : GG P ops (fun X => Below W.heap.size W X) K n D M (o :: rest) := GG.val (fun w' b' => R.field ho hx (I.fld h)) hd hg k
theorem Gt {b : Bool} (k : GG P ops (fun X => Below W.heap.size W X) K n D (putM M o.dst (.bool (!b))) rest) (ho : o.op = .unOp .not t x := by exact rfl) (hx : evM M x = some (.bool b) := by exact rfl)  (hd : dstB n o.dst = true := by exact rfl) (hg : wantB ops M o.guard = some true := by exact rfl) : GG P ops (fun X => Below W.heap.size W X) K n D M (o :: rest) := GG.val (fun w' b' => R.not ho hx) hd hg k
theorem Gl {g e j : Nat} {xs : List Value} (row : RowL W g e xs) (k : GG P ops (fun X => Below W.heap.size W X) K n D (putM M o.dst (v)) rest) (ho : o.op = .load t x := by exact rfl) (hx : evM M x = some (.pointer (some ⟨g, j, none⟩)) := by exact rfl) (hT : oneB P t = true := by exact rfl) (hu : xs[j]? = some v := by exact rfl)  (hd : dstB n o.dst = true := by exact rfl) (hg : wantB ops M o.guard = some true := by exact rfl) : GG P ops (fun X => Below W.heap.size W X) K n D M (o :: rest) := GG.val (fun w' b' => R.load ho hx (I.ld1 hT (RowL.cell (row.up b') hu))) hd hg k
theorem Gv {g e : Nat} {xs : List Value} (row : RowL W g e xs) (k : GG P ops (fun X => Below W.heap.size W X) K n D (putM M o.dst (.agg xs.toArray)) rest) (ho : o.op = .load t x := by exact rfl) (hx : evM M x = some (.pointer (some ⟨g, 0, none⟩)) := by exact rfl) (hT : aggB P t = true := by exact rfl) (hz : szB P t = some xs.length := by exact rfl)  (hd : dstB n o.dst = true := by exact rfl) (hg : wantB ops M o.guard = some true := by exact rfl) : GG P ops (fun X => Below W.heap.size W X) K n D M (o :: rest) := GG.val (fun w' b' => R.load ho hx (I.ldNc (row.up b').cells0 hT hz)) hd hg k
theorem Gc {f : FuncId} {args : Array Value} (hc : ∀ w', Below W.heap.size W w' → Calls P f args w' fun e W' => e = .returned v ∧ Below w'.heap.size w' W') (k : GG P ops (fun X => Below W.heap.size W X) K n D (putM M o.dst (v)) rest) (hr : ∀ w, Runs P n D M o w (.enter f args) w := by exact fun w' => R.call rfl rfl rfl) (hd : dstB n o.dst = true := by exact rfl) (hg : wantB ops M o.guard = some true := by exact rfl) : GG P ops (fun X => Below W.heap.size W X) K n D M (o :: rest) := GG.call hr hd hg (fun w' b' => (hc w' b').mono fun e W' h => ⟨h.1, b'.trans (h.2.mono b'.size)⟩) k
theorem Gw {f : FuncId} {args : Array Value} (hc : ∀ w', Below W.heap.size W w' → Calls P f args w' fun e W' => e = .returned v ∧ Below w'.heap.size w' W') (k : GG P ops (fun X => Below W.heap.size W X) K n D (putM M o.dst (v)) rest) (hr : ∀ w, Runs P n D M o w (.enter f args) w := by exact fun w' => R.callV rfl rfl rfl rfl) (hd : dstB n o.dst = true := by exact rfl) (hg : wantB ops M o.guard = some true := by exact rfl) : GG P ops (fun X => Below W.heap.size W X) K n D M (o :: rest) := GG.call hr hd hg (fun w' b' => (hc w' b').mono fun e W' h => ⟨h.1, b'.trans (h.2.mono b'.size)⟩) k
end
set_option linter.unusedVariables false
set_option linter.unusedSimpArgs false
section
variable {α : Type} {enc : α → List Value} {k e B : Nat} {m : Nat → Prop} {w w' : World} {v : Value} {ts : List α}
theorem OwnsT.same {base : Nat} (h : OwnsT enc k w base e v ts) (hz : w.heap.size ≤ w'.heap.size) (hs : ∀ (g : Nat) (cs : Array Value), v.ownBlock = some g → w.heap[g]? = some (.cells cs e) → w'.heap[g]? = some (.cells cs e)) : OwnsT enc k w' base e v ts := by
  rcases id h.2 with ⟨e1, e2⟩ | ⟨g, cap, cur, rfl, hbg, hg, r⟩
  · exact ⟨h.1, .inl ⟨e1, e2⟩⟩
  · exact ⟨h.1, .inr ⟨g, cap, cur, rfl, hbg, hs g cur rfl hg, r⟩⟩
theorem OwnsT.turn {base : Nat} (h : OwnsT enc k w base e v ts) (ht : TurnsZ B m w w') (hm : ∀ g, v.ownBlock = some g → ¬ m g) : OwnsT enc k w' base e v ts :=
  h.same ht.size fun g cs hg hx => ht.same g _ hx (.inr ⟨hm g hg, rfl⟩)
theorem TurnsZ.cell {b o : Nat} {u : Value} (ht : TurnsZ B m w w') (h : w.cell? ⟨b, o, none⟩ = some u) (hb : b < B) : w'.cell? ⟨b, o, none⟩ = some u := by
  have hlt := World.block_lt_of_cell? _ _ h
  have hx := Array.getElem?_eq_getElem hlt
  exact (World.cell?_of_block ((ht.same b _ hx (.inl hb)).trans hx.symm)).trans h
theorem Reads.sameB {b off len cap : Nat} {xs : List Value} (h : Reads w (.slice (some ⟨b, off, none⟩) len cap) xs) (hz : w.heap.size ≤ w'.heap.size) (hs : ∀ o, w.heap[b]? = some o → w'.heap[b]? = some o) : Reads w' (.slice (some ⟨b, off, none⟩) len cap) xs := by
  obtain ⟨a, c, e, hc, hr⟩ := h
  refine ⟨a, c, e, hc, fun hx => ?_⟩
  obtain ⟨b', off', ea, hb, hcell⟩ := hr hx
  simp only [Value.slice.injEq] at e
  rw [← e.1] at ea
  simp only [Option.some.injEq, Addr.mk.injEq] at ea
  obtain ⟨rfl, rfl, _⟩ := ea
  refine ⟨b, off, by rw [← e.1], Nat.lt_of_lt_of_le hb hz, fun j hj => ?_⟩
  rw [← hcell j hj]
  have hx := Array.getElem?_eq_getElem hb
  exact World.cell?_of_block ((hs _ hx).trans hx.symm)
theorem Reads.turn {b off len cap : Nat} {xs : List Value} (h : Reads w (.slice (some ⟨b, off, none⟩) len cap) xs) (ht : TurnsZ B m w w') (hb : b < B) : Reads w' (.slice (some ⟨b, off, none⟩) len cap) xs :=
  h.sameB ht.size fun o ho => ht.same b o ho (.inl hb)
theorem Reads.grO {b off len cap : Nat} {r : Option Nat} {xs : List Value} (h : Reads w (.slice (some ⟨b, off, none⟩) len cap) xs) (hg : w.grownBy w' r) (hr : r ≠ some b) : Reads w' (.slice (some ⟨b, off, none⟩) len cap) xs := by
  cases r with
  | none => exact h.up (Below.of_none hg)
  | some g => exact h.gr hg (fun e => hr (by rw [e]))
theorem ReadsT.sameB {b off len cap : Nat} (h : ReadsT enc k w (.slice (some ⟨b, off, none⟩) len cap) ts) (hz : w.heap.size ≤ w'.heap.size) (hs : ∀ o, w.heap[b]? = some o → w'.heap[b]? = some o) : ReadsT enc k w' (.slice (some ⟨b, off, none⟩) len cap) ts := by
  obtain ⟨a, c, e, hc, hr⟩ := h
  refine ⟨a, c, e, hc, fun hx => ?_⟩
  obtain ⟨b', off', ea, hb, hcell⟩ := hr hx
  simp only [Value.slice.injEq] at e
  rw [← e.1] at ea
  simp only [Option.some.injEq, Addr.mk.injEq] at ea
  obtain ⟨rfl, rfl, _⟩ := ea
  refine ⟨b, off, by rw [← e.1], Nat.lt_of_lt_of_le hb hz, ?_⟩
  have hx := Array.getElem?_eq_getElem hb
  have hbk := (hs _ hx).trans hx.symm
  intro j hj
  rw [← hcell j hj]
  exact World.cell?_of_block hbk
/-- A write into a slice of one's own, in a round. -/
theorem StaysZ.own {base : Nat} (h : OwnsT enc k w base e v ts) (hg : w.grownBy w' v.ownBlock) (hm : ∀ g, v.ownBlock = some g → ¬ m g) : StaysZ B m w w' := by
  refine ⟨hg.size, fun j o hb hj hc => ?_⟩
  have hlt := (Array.getElem?_eq_some_iff.1 hj).1
  refine (hg.block j hlt fun ej => ?_).trans hj
  rcases id h.2 with ⟨e1, e2⟩ | ⟨g, cap, cur, rfl, hbg, hgg, r⟩
  · rw [e1] at ej; cases ej
  · have ej' : j = g := by simpa [Value.ownBlock] using ej
    subst ej'
    rcases hc with hc | hc
    · exact hm j rfl hc
    · rw [hgg] at hj; cases hj; cases hc
theorem ownsT_form {base N : Nat} (h : OwnsT enc k w base e v ts) (hN : ts.length = N) (hn : 0 < N) : ∃ g cap, v = .slice (some ⟨g, 0, none⟩) N cap ∧ base ≤ g ∧ g < w.heap.size ∧ N ≤ cap := by
  subst hN
  rcases id h.2 with ⟨rfl, e1⟩ | ⟨g, cap, cur, rfl, hbg, hg, hnc, hcm, hcs, htake⟩
  · rw [e1] at hn; exact absurd hn (Nat.lt_irrefl _)
  · exact ⟨g, cap, rfl, hbg, (Array.getElem?_eq_some_iff.1 hg).1, hnc⟩
end
set_option linter.unusedVariables false
set_option linter.unusedSimpArgs false
section
variable {P : Program}
def eqF (P : Program) (g : TypeId → List Value → List Value → Option (List Bool)) (xs ys : List Value) : List Field → Option (List Bool)
  | [] => some []
  | f :: fs => if f.name = "_" then none else match g f.type ((xs.drop f.offset).take (P.cellsOf f.type)) ((ys.drop f.offset).take (P.cellsOf f.type)), eqF P g xs ys fs with
    | some a, some b => some (a ++ b)
    | _, _ => none
def eqI (g : List Value → List Value → Option (List Bool)) (c : Nat) (xs ys : List Value) : List Nat → Option (List Bool)
  | [] => some []
  | i :: is => match g ((xs.drop (i * c)).take c) ((ys.drop (i * c)).take c), eqI g c xs ys is with
    | some a, some b => some (a ++ b)
    | _, _ => none
def eqC (P : Program) : Nat → TypeId → List Value → List Value → Option (List Bool)
  | 0, _, _, _ => none
  | d + 1, t, xs, ys => match P.underlying t with
    | some (.struct fs) => if P.stoodInHeld t = true then none else eqF P (eqC P d) xs ys fs.toList
    | some (.array n e) => if n = 0 then none else eqI (eqC P d e) (P.cellsOf e) xs ys (List.range n)
    | some (.int _) => match xs, ys with
      | [.int k a], [.int k' b] => if k = k' then some [decide (a = b)] else none
      | _, _ => none
    | some .bool => match xs, ys with
      | [.bool a], [.bool b] => some [a == b]
      | _, _ => none
    | some .string => match xs, ys with
      | [.string a], [.string b] => some [a.toList == b.toList]
      | _, _ => none
    | _ => none
def valC (P : Program) (t : TypeId) (xs : List Value) : Value := match P.underlying t with
  | some (.struct _) | some (.array _ _) => .agg xs.toArray
  | _ => xs.headD undef
theorem eqC_part {d : Nat} {t : TypeId} {xs ys : List Value} {off : Nat} {bs : List Bool} (h : eqC P d t ((xs.drop off).take (P.cellsOf t)) ((ys.drop off).take (P.cellsOf t)) = some bs) (w : World) :
    (part t xs.toArray off).run P w = .ok (valC P t ((xs.drop off).take (P.cellsOf t))) w ∧ (part t ys.toArray off).run P w = .ok (valC P t ((ys.drop off).take (P.cellsOf t))) w := by
  cases d with
  | zero => cases h
  | succ d =>
    have one : ∀ (zs : List Value) (v : Value), (zs.drop off).take (P.cellsOf t) = [v] → zs.toArray[off]? = some v := by
      intro zs v hz
      have : ((zs.drop off).take (P.cellsOf t))[0]? = some v := by rw [hz]; rfl
      rw [List.getElem?_take] at this
      split at this
      · simpa using this
      · cases this
    have agg : ∀ zs : List Value, zs.toArray.extract off (off + P.cellsOf t) = ((zs.drop off).take (P.cellsOf t)).toArray := by
      intro zs
      simp [List.extract]
    cases hu : P.underlying t with
    | none => simp [eqC, hu] at h
    | some kd =>
      obtain ⟨i, hi⟩ := info_of_underlying hu
      cases kd <;> simp only [eqC, hu] at h <;> try (cases h; done)
      case bool =>
        split at h
        · rename_i a b e1 e2
          rw [e1, e2]
          simp [part, isAgg, run_underlying hu, valC, hu, one xs _ e1, one ys _ e2]
        · cases h
      case int =>
        split at h
        · rename_i a b e1 e2
          rw [e1, e2]
          simp [part, isAgg, run_underlying hu, valC, hu, one xs _ e1, one ys _ e2]
        · cases h
      case string =>
        split at h
        · rename_i a b e1 e2
          rw [e1, e2]
          simp [part, isAgg, run_underlying hu, valC, hu, one xs _ e1, one ys _ e2]
        · cases h
      case struct fs => simp [part, isAgg, run_underlying hu, run_sizeOf _ hi, valC, hu, List.extract]
      case array n e => simp [part, isAgg, run_underlying hu, run_sizeOf _ hi, valC, hu, List.extract]
theorem fieldsOf_eq {t : TypeId} {fs : Array Field} (h : P.underlying t = some (.struct fs)) : P.fieldsOf t = fs := by simp [Program.fieldsOf, h]
theorem run_eqF {d dd : Nat} {xs ys : List Value} (IH : ∀ t xs ys bs w, eqC P d t xs ys = some bs → (Op.equalIn dd t (valC P t xs) (valC P t ys)).run P w = .ok (bs.all id) w) :
    ∀ (fs : List Field) (bs : List Bool) (w : World), eqF P (eqC P d) xs ys fs = some bs → (Op.eqFields dd xs.toArray ys.toArray fs).run P w = .ok (bs.all id) w
  | [], bs, w, h => by simp only [eqF, Option.some.injEq] at h; subst h; simp [Op.eqFields]
  | f :: fs, bs, w, h => by
    simp only [eqF] at h
    split at h
    · cases h
    rename_i hn
    split at h
    · rename_i a b h1 h2
      cases h
      obtain ⟨p1, p2⟩ := eqC_part h1 w
      simp only [Op.eqFields, ne_eq, hn, not_false_eq_true, if_true, Sem.run_bind, p1, p2, Result.andThen_ok, IH _ _ _ _ w h1, List.all_append]
      cases ha : a.all id
      · simp
      · simpa using run_eqF IH fs b w h2
    · cases h
theorem run_eqI {d dd : Nat} {e : TypeId} {xs ys : List Value} (IH : ∀ t xs ys bs w, eqC P d t xs ys = some bs → (Op.equalIn dd t (valC P t xs) (valC P t ys)).run P w = .ok (bs.all id) w) :
    ∀ (is : List Nat) (bs : List Bool) (w : World), eqI (eqC P d e) (P.cellsOf e) xs ys is = some bs → (Op.eqItems dd e (P.cellsOf e) xs.toArray ys.toArray is).run P w = .ok (bs.all id) w
  | [], bs, w, h => by simp only [eqI, Option.some.injEq] at h; subst h; simp [Op.eqItems]
  | i :: is, bs, w, h => by
    simp only [eqI] at h
    split at h
    · rename_i a b h1 h2
      cases h
      obtain ⟨p1, p2⟩ := eqC_part h1 w
      simp only [Op.eqItems, Sem.run_bind, p1, p2, Result.andThen_ok, IH _ _ _ _ w h1, List.all_append]
      cases ha : a.all id
      · simp
      · simpa using run_eqI IH is b w h2
    · cases h
theorem run_eqC : ∀ (d k : Nat) (t : TypeId) (xs ys : List Value) (bs : List Bool) (w : World), eqC P d t xs ys = some bs → (Op.equalIn (d + k) t (valC P t xs) (valC P t ys)).run P w = .ok (bs.all id) w
  | 0, _, _, _, _, _, _, h => by cases h
  | d + 1, k, t, xs, ys, bs, w, h => by
    have IH := fun t xs ys bs w => run_eqC d k t xs ys bs w
    rw [show d + 1 + k = (d + k) + 1 by omega]
    cases hu : P.underlying t with
    | none => simp [eqC, hu] at h
    | some kd =>
      cases kd <;> simp only [eqC, hu] at h <;> try (cases h; done)
      case bool =>
        split at h
        · rename_i a b
          cases h
          simp [valC, hu, run_equalIn_bool' w (d + k) t a b hu]
        · cases h
      case int q =>
        split at h
        · rename_i k1 a k2 b
          split at h
          · rename_i hk
            subst hk
            cases h
            simp only [valC, hu, List.headD_cons, List.all_cons, List.all_nil, Bool.and_true, id]
            exact run_equalIn_int w (d + k) t k1 q a b hu
          · cases h
        · cases h
      case string =>
        split at h
        · rename_i a b
          cases h
          simp [valC, hu, run_equalIn_string w (d + k) t a b hu]
        · cases h
      case struct fs =>
        split at h
        · cases h
        rename_i hst
        simp only [valC, hu]
        have hf := fieldsOf_eq hu
        rw [run_equalIn_struct w (d + k) t _ _ (by rw [hf]; exact hu) (by simpa using hst), hf]
        exact run_eqF IH _ _ _ h
      case array n e =>
        split at h
        · cases h
        rename_i hn0
        cases n with
        | zero => exact absurd rfl hn0
        | succ n =>
          have hi : ∃ i, P.info? e = some i := by
            rw [show List.range (n + 1) = 0 :: (List.range n).map Nat.succ by rw [List.range_succ_eq_map]] at h
            simp only [eqI] at h
            split at h
            · rename_i a b h1 h2
              cases d with
              | zero => cases h1
              | succ d =>
                cases hue : P.underlying e with
                | none => simp [eqC, hue] at h1
                | some _ => exact info_of_underlying hue
            · cases h
          obtain ⟨i, hi⟩ := hi
          simp only [valC, hu]
          rw [run_equalIn_array w (d + k) _ _ hu hi]
          exact run_eqI IH _ _ _ h
theorem valC_agg {t : TypeId} {xs : List Value} (h : aggB P t = true) : valC P t xs = .agg xs.toArray := by
  unfold aggB at h
  unfold valC
  split at h <;> first | rfl | simp_all
variable {n : Nat} {D : List Deferred} {M : Slots} {w : World} {o : Oper} {x y : Operand} {t u : TypeId} {xs ys : List Value} {bs : List Bool} {p : Prop} [Decidable p]
theorem R.neS' (ho : o.op = .binOp .neq t x y u) (hx : evM M x = some (.agg xs.toArray)) (hy : evM M y = some (.agg ys.toArray)) (ht : aggB P t = true) (hg : P.eqGuardType P.depth t = false) (hb : eqC P 9 t xs ys = some bs) (hp : bs.all id = decide p) : Runs P n D M o w (.value (.bool (decide ¬p))) w := R.bin ho hx hy (by
  have h := run_eqC 9 9991 t xs ys bs w hb
  rw [valC_agg ht, valC_agg ht] at h
  simp only [Sem.run_bind, run_eqGuard_agg w _ _ _ _ _ _ hg, Result.andThen_ok, run_neq_struct]
  rw [show (10000 : Nat) = 9 + 9991 from rfl, h, hp]
  simp)
theorem R.neST (ho : o.op = .binOp .neq t x y u) (hx : evM M x = some (.agg xs.toArray)) (hy : evM M y = some (.agg ys.toArray)) (ht : aggB P t = true) (hg : P.eqGuardType P.depth t = false) (hb : eqC P 9 t xs ys = some bs) (hp : bs.all id = decide p) (h : p) : Runs P n D M o w (.value (.bool false)) w := by
  have := R.neS' (w := w) (n := n) (D := D) ho hx hy ht hg hb hp
  rwa [decide_eq_false (not_not_intro h)] at this
theorem R.neSF (ho : o.op = .binOp .neq t x y u) (hx : evM M x = some (.agg xs.toArray)) (hy : evM M y = some (.agg ys.toArray)) (ht : aggB P t = true) (hg : P.eqGuardType P.depth t = false) (hb : eqC P 9 t xs ys = some bs) (hp : bs.all id = decide p) (h : ¬p) : Runs P n D M o w (.value (.bool true)) w := by
  have := R.neS' (w := w) (n := n) (D := D) ho hx hy ht hg hb hp
  rwa [decide_eq_true h] at this
end
set_option linter.unusedVariables false
set_option linter.unusedSimpArgs false
def dstO (ops : Array Oper) (i : Nat) : Option Nat := (ops[i]?).bind (·.dst)
def depB (ops : Array Oper) (i j : Nat) : Bool := match ops[i]? with
  | some o => o.after.any fun e => Region.binds .any e && Nat.beq e.on j
  | none => false
def AtD (d : Option Nat) (a : Act) (v : Value) : Prop := ∀ s, d = some s → a.tmps.getD s undef = v
/-- One step: what it needs of the others, what it makes. -/
structure MS (P : Program) (ops : Array Oper) (ok : World → Prop) (acts : List Nat) (φ : Nat → Value → World → Prop) (i : Nat) (R : Value → World → Prop) (n : Nat) (D : List Deferred) (M : Slots) (w : World) : Prop where
  h : ∀ a o, ops[i]? = some o → Fr n D M a → (∀ j ∈ acts, depB ops i j = true → ∃ v, AtD (dstO ops j) a v ∧ φ j v w) → ∀ K : Act → World → Prop, (∀ v w', ok w' → R v w' → K (a.put o.dst v) w') → stepR P ops ok i K a w
section
variable {P : Program} {ops : Array Oper} {Q : Exit → Act → World → Prop} {ok : World → Prop} {acts : List Nat} {φ : Nat → Value → World → Prop} {n i : Nat} {D : List Deferred} {M : Slots} {w w' : World} {o : Oper} {v : Value} {R : Value → World → Prop}
theorem MS.val (hi : ops[i]? = some o) (hr : Runs P n D M o w (.value v) w') (hg : wantB ops M o.guard = some true) (hok : ok w') (h : R v w') : MS P ops ok acts φ i R n D M w := MS.mk fun a o' ho F _ K hK => by
  obtain rfl : o = o' := Option.some.inj (hi.symm.trans ho)
  unfold stepR
  simp only [hi]
  rw [if_pos (F.want hg)]
  exact .inl ⟨v, w', hr a F, hok, hK _ _ hok h⟩
theorem MS.call {g : FuncId} {args : Array Value} {R' : Ending → World → Prop} (hi : ops[i]? = some o) (hr : Runs P n D M o w (.enter g args) w) (hg : wantB ops M o.guard = some true) (hc : Calls P g args w R') (k : ∀ e w'', R' e w'' → ∃ v, e = .returned v ∧ ok w'' ∧ R v w'') : MS P ops ok acts φ i R n D M w := MS.mk fun a o' ho F _ K hK => by
  obtain rfl : o = o' := Option.some.inj (hi.symm.trans ho)
  unfold stepR
  simp only [hi]
  rw [if_pos (F.want hg)]
  exact .inr (.inr ⟨g, args, w, R', hr a F, hc, fun e w'' hR => by
    obtain ⟨v, he, h1, h2⟩ := k e w'' hR
    exact ⟨v, he, h1, hK _ _ h1 h2⟩⟩)
end
set_option linter.unusedVariables false
set_option linter.unusedSimpArgs false
section
variable {α : Type} {enc : α → List Value} {k : Nat} {P : Program} {T e : TypeId} {z : Value} {bytes : Nat}
theorem run_append_t0 (E : Enc enc k) (I : ElT P T e z k bytes) (ty : TypeId) {base g : Nat} {vx : Value} {us : List α} {w : World} (hown : OwnsT enc k w base e (.slice (some ⟨g, 0, none⟩) 0 0) []) (hr : ReadsT enc k w vx us)
    (h63 : us.length ≤ maxLen) (hb : us.length * bytes ≤ 140737488355328) (hbase : base ≤ w.heap.size) :
    ∃ v' w', (Builtin.append_ #[T, T] ty #[.slice (some ⟨g, 0, none⟩) 0 0, vx]).run P w = .ok v' w' ∧ OwnsT enc k w' base e v' us ∧ Below w.heap.size w w' := by
  obtain ⟨i, hi, hz, hsz, hby⟩ := I.info
  obtain ⟨a, cap, rfl, hc, hcell⟩ := hr
  rcases Classical.em (us = []) with h0 | h0
  · subst h0
    refine ⟨_, w, run_append_nothing w T T ty e i I.under hi _ 0 0 (Nat.le_refl _) _ ?_, hown, Below.refl _ _⟩
    cases a with
    | none => exact Src.ofNil w I.under cap
    | some p => exact Src.ofSlice w I.under p 0 cap [] (by simp) (by simp) (by simp)
  · obtain ⟨b, off, rfl, _, hh⟩ := hcell h0
    have hnews : ∀ j u, (us.flatMap enc)[j]? = some u → w.cell? ((⟨b, off, none⟩ : Addr).add j) = some u := fun j u hj => by
      have hjl : j < us.length * k := by
        have := (List.getElem?_eq_some_iff.1 hj).1
        rwa [E.flat] at this
      rw [Addr.add_lit, hh j hjl, hj]
    obtain ⟨v', w', h1, h2, h3⟩ := run_append_arg_grows (P := P) (w := w) T ty e i z k bytes I.under hi hz hsz hby I.many E.pos ⟨g, 0, none⟩ 0 0 [] (by simp) (by simp) ⟨b, off, none⟩ us.length cap (us.flatMap enc) (E.flat us) hnews (by have := List.length_pos_iff.2 h0; omega) (by omega) (by simpa using hb)
    refine ⟨v', w', h1, ?_, ⟨h3.os, h3.tape, h3.output, h3.size, fun j hj => h3.block j hj (by simp)⟩⟩
    have h4 : OwnsT enc k w' w.heap.size e v' us := by
      unfold OwnsT
      simpa using h2
    exact h4.lower hbase
end
section
variable {α : Type} {enc : α → List Value} {k : Nat} {P : Program} {ops : Array Oper} {Q : Exit → Act → World → Prop} {ok : World → Prop} {acts : List Nat} {φ : Nat → Value → World → Prop} {n i f : Nat} {D : List Deferred} {M : Slots} {w w' : World} {o : Oper} {v : Value} {Rv : Value → World → Prop} {T e t : TypeId} {z : Value} {bytes : Nat} {listed listed1 : Array Bool} {K : Slots → World → Prop} {r : Option Nat} {rest : List Oper}
theorem LL.append0 {xs : Array Operand} {g base : Nat} {vx : Value} {us : List α} (ho : o.op = .call { callee := .builtin .append, args := xs, argTypes := #[T, T] }) (hx : evsM M xs.toList = some [.slice (some ⟨g, 0, none⟩) 0 0, vx]) (E : Enc enc k) (I : ElT P T e z k bytes) (hown : OwnsT enc k w base e (.slice (some ⟨g, 0, none⟩) 0 0) []) (hr : ReadsT enc k w vx us)
    (h63 : us.length ≤ maxLen) (hb : us.length * bytes ≤ 140737488355328) (hbase : base ≤ w.heap.size) (hd : dstB n o.dst = true) (hg : wantB ops M o.guard = some true)
    (c : ∀ v' w', OwnsT enc k w' base e v' us → Below w.heap.size w w' → LL r P ops Q n D (putM M o.dst v') rest w') : LL r P ops Q n D M (o :: rest) w := by
  obtain ⟨v', w', h1, h2, h3⟩ := run_append_t0 E I o.type hown hr h63 hb hbase
  refine LL.val (v := v') (R.builtin ho hx fun b => ?_) hd (by rw [ho]; rfl) hg (c v' w' h2 h3)
  unfold builtin
  simp only [Sem.run_bind, h1, Result.andThen_ok, Sem.run_pure]
theorem MS.append0 {xs : Array Operand} {g base : Nat} {vx : Value} {us : List α} (hi : ops[i]? = some o) (ho : o.op = .call { callee := .builtin .append, args := xs, argTypes := #[T, T] }) (hx : evsM M xs.toList = some [.slice (some ⟨g, 0, none⟩) 0 0, vx]) (E : Enc enc k) (I : ElT P T e z k bytes) (hown : OwnsT enc k w base e (.slice (some ⟨g, 0, none⟩) 0 0) []) (hr : ReadsT enc k w vx us)
    (h63 : us.length ≤ maxLen) (hb : us.length * bytes ≤ 140737488355328) (hbase : base ≤ w.heap.size) (hg : wantB ops M o.guard = some true)
    (c : ∀ v' w', OwnsT enc k w' base e v' us → Below w.heap.size w w' → ok w' ∧ Rv v' w') : MS P ops ok acts φ i Rv n D M w := by
  obtain ⟨v', w', h1, h2, h3⟩ := run_append_t0 E I o.type hown hr h63 hb hbase
  have h := c v' w' h2 h3
  refine MS.val (v := v') hi (R.builtin ho hx fun b => ?_) hg h.1 h.2
  unfold builtin
  simp only [Sem.run_bind, h1, Result.andThen_ok, Sem.run_pure]
theorem MS.lit {ps : Array (Nat × Operand)} {m : Nat} {vs : List (Nat × Value)} (cs : List Value) (len : Nat) (hi : ops[i]? = some o) (ho : o.op = .buildSlice t m ps) (hx : evpM M ps.toList = some vs) (hr : ∀ w, (Instr.buildSlice t m vs.toArray).run P w = .ok (.slice (some ⟨w.heap.size, 0, none⟩) len len) (w.alloc (.cells cs.toArray e))) (hg : wantB ops M o.guard = some true)
    (c : ∀ w1 g, g = w.heap.size → RowL w1 g e cs → Below w.heap.size w w1 → ok w1 ∧ Rv (.slice (some ⟨g, 0, none⟩) len len) w1) : MS P ops ok acts φ i Rv n D M w :=
  have h := c _ _ rfl (RowL.new w e cs) (Below.alloc0 w _)
  MS.val hi (R.buildSlice ho hx (hr w)) hg h.1 h.2
theorem AA.weak {L : List (Nat × Value)} (h : AA P ops ok Q n D (sl L) f listed1 w) (hL : Fits M L) (he : listed1 = listed) : AA P ops ok Q n D M f listed w := by
  subst he; exact AA.mk fun a F => h.h a (F.keep L hL)
theorem SR.lit {ps : Array (Nat × Operand)} {m : Nat} {vs : List (Nat × Value)} (cs : List Value) (len : Nat) (hi : ops[i]? = some o) (ho : o.op = .buildSlice t m ps) (hx : evpM M ps.toList = some vs) (hr : ∀ w, (Instr.buildSlice t m vs.toArray).run P w = .ok (.slice (some ⟨w.heap.size, 0, none⟩) len len) (w.alloc (.cells cs.toArray e))) (hd : dstB n o.dst = true) (hg : wantB ops M o.guard = some true)
    (c : ∀ w1 g, g = w.heap.size → RowL w1 g e cs → Below w.heap.size w w1 → ok w1 ∧ K (putM M o.dst (.slice (some ⟨g, 0, none⟩) len len)) w1) : SR P ops ok i K n D M w :=
  have h := c _ _ rfl (RowL.new w e cs) (Below.alloc0 w _)
  SR.val hi (R.buildSlice ho hx (hr w)) hd hg h.1 h.2
theorem SR.appendT2 {xs : Array Operand} {vx : Value} {base : Nat} {ts us : List α} (hi : ops[i]? = some o) (ho : o.op = .call { callee := .builtin .append, args := xs, argTypes := #[T, T] }) (hx : evsM M xs.toList = some [v, vx]) (E : Enc enc k) (I : ElT P T e z k bytes) (hown : OwnsT enc k w base e v ts) (hr : ReadsT enc k w vx us)
    (h63 : ts.length + us.length ≤ maxLen) (hb : (ts.length + us.length) * bytes ≤ 140737488355328) (hbase : base ≤ w.heap.size) (hd : dstB n o.dst = true) (hg : wantB ops M o.guard = some true)
    (c : ∀ v' w', OwnsT enc k w' base e v' (ts ++ us) → w.grownBy w' v.ownBlock → (v'.ownBlock = v.ownBlock ∨ ∃ b, v'.ownBlock = some b ∧ w.heap.size ≤ b) → ok w' ∧ K (putM M o.dst v') w') : SR P ops ok i K n D M w := by
  obtain ⟨v', w', h1, h2, h3, h4⟩ := run_append_t2 E I o.type hown hr h63 hb hbase
  have h := c v' w' h2 h3 h4
  refine SR.val (v := v') hi (R.builtin ho hx fun b => ?_) hd hg h.1 h.2
  unfold builtin
  simp only [Sem.run_bind, h1, Result.andThen_ok, Sem.run_pure]
/-- A store of one cell into a row that is known, as a step of a drawn region. -/
theorem SR.store {x y : Operand} {g off e : Nat} {xs : List Value} (hi : ops[i]? = some o) (ho : o.op = .store t x y) (hx : evM M x = some (.pointer (some ⟨g, off, none⟩))) (hy : evM M y = some v) (hz : szB P t = some 1) (hr : RowL w g e xs) (hl : off < xs.length) (h1 : v.oneCell' = true) (hcs : v.cells = #[v]) (hd : o.dst = none) (hg : wantB ops M o.guard = some true)
    (c : ∀ w1, RowL w1 g e (xs.set off v) → w.grownBy w1 (some g) → w1.heap.size = w.heap.size → ok w1 ∧ K M w1) : SR P ops ok i K n D M w := SR.mk fun K' hK a F => by
  have h := c _ (hr.set off v) (grown_set w _ v) (by simp [World.setCell])
  unfold stepR
  simp only [hi]
  rw [if_pos (F.want hg)]
  refine .inr (.inl ⟨_, R.store ho hx hy (I.st1R hz hr hl h1 hcs) a F, h.1, ?_⟩)
  rw [hd]
  exact hK _ _ h.2 _ F
end
set_option linter.unusedVariables false
set_option linter.unusedSimpArgs false
section
variable {α : Type} {enc : α → List Value} {k : Nat} {P : Program} {T e : TypeId} {z : Value} {bytes : Nat}
end
set_option linter.unusedVariables false
set_option linter.unusedSimpArgs false
section
variable {α : Type} {enc : α → List Value} {k : Nat}
theorem Enc.set (E : Enc enc k) (ts : List α) (i : Nat) (t : α) (h : i < ts.length) : (ts.set i t).flatMap enc = (ts.flatMap enc).take (i * k) ++ enc t ++ (ts.flatMap enc).drop (i * k + k) := by
  have hp : i * k + k = (i + 1) * k := by rw [Nat.add_mul]; omega
  rw [List.set_eq_take_append_cons_drop, if_pos h, List.flatMap_append, List.flatMap_cons, hp, E.drop, E.take, List.append_assoc]
theorem OwnsT.block {w : World} {base e : Nat} {v : Value} {ts : List α} (h : OwnsT enc k w base e v ts) : (v = .slice Option.none 0 0 ∧ ts = []) ∨ ∃ g cap, v = .slice (some ⟨g, 0, Option.none⟩) ts.length cap ∧ ts.length ≤ cap ∧ base ≤ g ∧ g < w.heap.size := by
  rcases h.2 with ⟨e1, h0⟩ | ⟨g, cap, cur, e1, hbg, hg, hnc, _⟩
  · exact .inl ⟨e1, List.eq_nil_of_length_eq_zero h0⟩
  · exact .inr ⟨g, cap, e1, hnc, hbg, (Array.getElem?_eq_some_iff.1 hg).1⟩
end
section
variable {α : Type} {enc : α → List Value} {k : Nat} {P : Program} {w : World} {o : Oper} {n : Nat} {D : List Deferred} {M : Slots} {T e : TypeId} {z : Value} {bytes : Nat} {r : Option Nat} {ops : Array Oper} {Q : Exit → Act → World → Prop} {rest : List Oper}
end
set_option linter.unusedVariables false
set_option linter.unusedSimpArgs false
section
variable {α : Type} {enc : α → List Value} {k : Nat} {P : Program} {e : TypeId} {r : Option Nat} {ops : Array Oper} {Q : Exit → Act → World → Prop} {rest : List Oper} {w : World} {n : Nat} {D : List Deferred} {M : Slots} {o : Oper}
theorem Enc.setF (E : Enc enc k) (ts : List α) (i c : Nat) (t u : α) (v : Value) (ht : ts[i]? = some t) (hc : c < k) (hu : enc u = (enc t).set c v) : (ts.flatMap enc).set (i * k + c) v = (ts.set i u).flatMap enc := by
  have hi : i < ts.length := (List.getElem?_eq_some_iff.1 ht).1
  have hlen := E.flat ts
  have hin : i * k + k ≤ ts.length * k := by
    have : (i + 1) * k ≤ ts.length * k := Nat.mul_le_mul_right _ hi
    rw [Nat.add_mul] at this
    omega
  have hself : ts.set i t = ts := by
    rw [List.getElem?_eq_getElem hi] at ht
    cases ht
    simp
  have h0 := E.set ts i t hi
  rw [hself] at h0
  have hA : ((ts.flatMap enc).take (i * k)).length = i * k := by rw [List.length_take]; omega
  rw [E.set ts i u hi]
  conv => lhs; rw [h0]
  rw [List.append_assoc, List.set_append_right _ _ (by rw [hA]; omega), hA, show i * k + c - i * k = c by omega, List.set_append_left _ _ (by rw [E.len]; exact hc), ← hu, List.append_assoc]
theorem ownsT_setF {w' : World} (E : Enc enc k) {base g N cap i c : Nat} {ts : List α} {t u : α} {v : Value} (hown : OwnsT enc k w base e (.slice (some ⟨g, 0, none⟩) N cap) ts) (ht : ts[i]? = some t) (hc : c < k) (hu : enc u = (enc t).set c v)
    (hr : ∀ cs, RowL w g e cs → RowL w' g e (cs.set (i * k + c) v)) : OwnsT enc k w' base e (.slice (some ⟨g, 0, none⟩) N cap) (ts.set i u) := by
  rcases id hown.2 with ⟨e1, _⟩ | ⟨g', cap', cur, e1, hbg, hg', hnc, hcm, hcs, htake⟩
  · cases e1
  · cases e1
    have hrow : RowL w g e cur.toList := hg'
    have hi : i < ts.length := (List.getElem?_eq_some_iff.1 ht).1
    have hin : i * k + k ≤ ts.length * k := by
      have : (i + 1) * k ≤ ts.length * k := Nat.mul_le_mul_right _ hi
      rw [Nat.add_mul] at this
      omega
    refine ⟨E.flat _, .inr ⟨g, cap, _, by rw [List.length_set], hbg, hr _ hrow, by rw [List.length_set]; exact hnc, hcm, ?_, ?_⟩⟩
    · simpa using hcs
    · rw [List.length_set, List.take_set, htake, E.setF ts i c t u v ht hc hu]
theorem LL.storeF {x y : Operand} {t : TypeId} {base g off N cap : Nat} {ts : List α} {v : Value} (i c : Nat) (s u : α) (ho : o.op = .store t x y) (hx : evM M x = some (.pointer (some ⟨g, off, none⟩))) (hy : evM M y = some v) (hz : szB P t = some 1) (hoff : off = i * k + c) (E : Enc enc k)
    (hown : OwnsT enc k w base e (.slice (some ⟨g, 0, none⟩) N cap) ts) (hs : ts[i]? = some s) (hc : c < k) (hu : enc u = (enc s).set c v) (h1 : v.oneCell' = true) (hcs : v.cells = #[v]) (hd : o.dst = none) (hg : wantB ops M o.guard = some true)
    (kk : ∀ w', OwnsT enc k w' base e (.slice (some ⟨g, 0, none⟩) N cap) (ts.set i u) → w.grownBy w' (some g) → w'.heap.size = w.heap.size → LL r P ops Q n D M rest w') : LL r P ops Q n D M (o :: rest) w := by
  rcases id hown.2 with ⟨e1, _⟩ | ⟨g', cap', cur, e1, hbg, hg', hnc, hcm, hcs', htake⟩
  · cases e1
  · cases e1
    have hrow : RowL w g e cur.toList := hg'
    have hi : i < ts.length := (List.getElem?_eq_some_iff.1 hs).1
    have hin : i * k + k ≤ ts.length * k := by
      have : (i + 1) * k ≤ ts.length * k := Nat.mul_le_mul_right _ hi
      rw [Nat.add_mul] at this
      omega
    have hck : ts.length * k ≤ cap * k := Nat.mul_le_mul_right _ hnc
    have hcl : cur.toList.length = cap * k := by simpa using hcs'
    subst hoff
    refine LL.store ho hx hy hz hrow (by omega) h1 hcs hd hg ?_
    intro w' r' g' z'
    refine kk w' (ownsT_setF E hown hs hc hu fun cs hcs => ?_) g' z'
    have e2 : cs = cur.toList := by
      have := hcs.symm.trans hrow
      have h2 : cs.toArray = cur := by simpa using this
      rw [← h2]
    rw [e2]
    exact r'
end
set_option linter.unusedVariables false
set_option linter.unusedSimpArgs false
section
variable {P : Program} {w : World} {n : Nat} {D : List Deferred} {M : Slots} {Q : Exit → Act → World → Prop}
theorem CC.fwd {α : Type} {l : Nat} {c rest : Code} (Dx : α → List Deferred) (L : α → List (Nat × Value)) (I : α → World → Prop) (hf : findLabel c l = some rest)
    (first : CC none P (Exit.jump l (fun a' w' => ∃ x, Fr n (Dx x) (sl (L x)) a' ∧ I x w') Q) n D M c w)
    (pass : ∀ x w, I x w → CC none P (Exit.jump l (fun _ _ => False) Q) n (Dx x) (sl (L x)) rest w) : CC none P Q n D M (.scope c) w := CC.mk fun a F => by
  refine (wpIn_wide (n := 3)).2 (wp_scope_jumps l (fun a' w' => ∃ x, Fr n (Dx x) (sl (L x)) a' ∧ I x w') (fun _ _ => 0) hf ((wpIn_wide (n := 3)).1 (first.h a F)) ?_)
  rintro a w ⟨x, hF, hI⟩
  refine (wpIn_wide (n := 3)).1 (Code.wpIn_mono ?_ ((pass x w hI).h a hF))
  intro e a' w' hq
  cases e <;> try exact hq
  exact hq.2.elim
theorem EE.jumpTo {α : Type} {l : Nat} {Dx : α → List Deferred} {L : α → List (Nat × Value)} {I : α → World → Prop} (x : α) (hD : D = Dx x) (hL : Fits M (L x)) (hI : I x w) : EE (Exit.jump l (fun a' w' => ∃ x, Fr n (Dx x) (sl (L x)) a' ∧ I x w') Q) n D M (.goto l) w := EE.mk fun _ F => ⟨rfl, x, by subst hD; exact F.keep _ hL, hI⟩
end
set_option linter.unusedVariables false
set_option linter.unusedSimpArgs false
set_option maxRecDepth 100000
set_option maxHeartbeats 8000000
theorem info_parts_t {P : Program} {T e : TypeId} {z : Value} {k bytes : Nat} (hu : P.underlying T = some (.slice e)) (h : (P.info? e).map (fun i => (i.zero, i.size, i.bytes)) = some (some z, k, bytes)) (hz : z.cells.size = k) : ElT P T e z k bytes := by
  refine ⟨hu, ?_, hz⟩
  cases hi : P.info? e with
  | none => rw [hi] at h; cases h
  | some i =>
    rw [hi] at h
    simp only [Option.map_some, Option.some.injEq, Prod.mk.injEq] at h
    exact ⟨i, rfl, h.1, h.2.1, h.2.2⟩
def eE (x : Ex) : List Value := [.int .i64 x.1, .int .i64 x.2.1, .int .i64 x.2.2]
abbrev exV (x : Ex) : Value := .agg #[.int .i64 x.1, .int .i64 x.2.1, .int .i64 x.2.2]
theorem eEnc : Enc eE 3 := ⟨fun _ => rfl, fun t u hu => by
  simp only [eE, List.mem_cons, List.not_mem_nil, or_false] at hu
  rcases hu with rfl | rfl | rfl <;> rfl, by decide⟩
theorem Tryd.infoEx : (Tryd.prog.info? 98).map (fun i => (i.zero, i.size, i.bytes)) = some (some (.agg #[.int .i64 0, .int .i64 0, .int .i64 0]), 3, 24) := by kernel_rfl
theorem ElEx : ElT Tryd.prog 23 98 (.agg #[.int .i64 0, .int .i64 0, .int .i64 0]) 3 24 := info_parts_t Tryd.underlying23 Tryd.infoEx rfl
def exF (g : Nat → Int) : Ex := (g 0, g 1, g 2)
def f1E (x : Ex) : Prop := x.1 < 0 ∨ x.2.1 < 1 ∨ x.2.2 < 1
def f2E (x : Ex) : Prop := x.2.2 > 128 ∨ x.1 > 128 - x.2.2
def f3E (x : Ex) : Prop := x.2.1 > 2048 - x.2.2
instance (x : Ex) : Decidable (f1E x) := by unfold f1E; infer_instance
instance (x : Ex) : Decidable (f2E x) := by unfold f2E; infer_instance
instance (x : Ex) : Decidable (f3E x) := by unfold f3E; infer_instance
set_option maxRecDepth 100000 in
theorem faults1_any (x : Ex) (w : World) : Calls Tryd.prog 96 #[exV x] w fun e w' => e = .returned (.bool (decide (f1E x))) ∧ Below w.heap.size w w' := by
  have q := Below.refl w.heap.size w
  by_cases h1 : x.1 < 0
  · rw [decide_eq_true (by unfold f1E; omega)]
    refine X.fn Tryd.func96 rfl (n := 16) rfl rfl ?_
    refine Zr ?_
    refine LL.box [.int .i64 x.1, .int .i64 x.2.1, .int .i64 x.2.2] rfl rfl rfl rfl rfl ?_
    intro W2 g3 eg3 r4 z5 b1
    replace q := Zu q b1; refine Za ?_; refine Zq ?_; refine Zr ?_; refine Zf ?_; refine Zl r4 ?_; refine ZltT ?_; refine Zm ?_; refine Zs ?_; refine Zs ?_; refine Zs ?_; refine Zp ?_; refine Zm ?_; refine Zs ?_; refine Zs ?_; refine Zs ?_; refine Zp ?_; refine Za ?_; refine Zq ?_; refine ZR ?_; refine EE.ret _ rfl rfl ?_
    exact ⟨rfl, q⟩
  by_cases h2 : x.2.1 < 1
  · rw [decide_eq_true (by unfold f1E; omega)]
    refine X.fn Tryd.func96 rfl (n := 16) rfl rfl ?_
    refine Zr ?_
    refine LL.box [.int .i64 x.1, .int .i64 x.2.1, .int .i64 x.2.2] rfl rfl rfl rfl rfl ?_
    intro Wa2 ga3 ega3 ra4 za5 ba1
    replace q := Zu q ba1; refine Za ?_; refine Zq ?_; refine Zr ?_; refine Zf ?_; refine Zl ra4 ?_; refine ZltF ?_; refine Zm ?_; refine Zf ?_; refine Zl ra4 ?_; refine ZltT ?_; refine Zp ?_; refine Zm ?_; refine Zs ?_; refine Zs ?_; refine Zs ?_; refine Zp ?_; refine Za ?_; refine Zq ?_; refine ZR ?_; refine EE.ret _ rfl rfl ?_
    exact ⟨rfl, q⟩
  by_cases h3 : x.2.2 < 1
  · rw [decide_eq_true (by unfold f1E; omega)]
    refine X.fn Tryd.func96 rfl (n := 16) rfl rfl ?_
    refine Zr ?_
    refine LL.box [.int .i64 x.1, .int .i64 x.2.1, .int .i64 x.2.2] rfl rfl rfl rfl rfl ?_
    intro Wb2 gb3 egb3 rb4 zb5 bb1
    replace q := Zu q bb1; refine Za ?_; refine Zq ?_; refine Zr ?_; refine Zf ?_; refine Zl rb4 ?_; refine ZltF ?_; refine Zm ?_; refine Zf ?_; refine Zl rb4 ?_; refine ZltF ?_; refine Zp ?_; refine Zm ?_; refine Zf ?_; refine Zl rb4 ?_; refine ZltT ?_; refine Zp ?_; refine Za ?_; refine Zq ?_; refine ZR ?_; refine EE.ret _ rfl rfl ?_
    exact ⟨rfl, q⟩
  · rw [decide_eq_false (by unfold f1E; omega)]
    refine X.fn Tryd.func96 rfl (n := 16) rfl rfl ?_
    refine Zr ?_
    refine LL.box [.int .i64 x.1, .int .i64 x.2.1, .int .i64 x.2.2] rfl rfl rfl rfl rfl ?_
    intro Wc2 gc3 egc3 rc4 zc5 bc1
    replace q := Zu q bc1; refine Za ?_; refine Zq ?_; refine Zr ?_; refine Zf ?_; refine Zl rc4 ?_; refine ZltF ?_; refine Zm ?_; refine Zf ?_; refine Zl rc4 ?_; refine ZltF ?_; refine Zp ?_; refine Zm ?_; refine Zf ?_; refine Zl rc4 ?_; refine ZltF ?_; refine Zp ?_; refine Za ?_; refine Zq ?_; refine ZR ?_; refine EE.ret _ rfl rfl ?_
    exact ⟨rfl, q⟩
set_option maxRecDepth 100000 in
theorem faults2_any (x : Ex) (w : World) (hs : 1 ≤ x.2.2) : Calls Tryd.prog 97 #[exV x] w fun e w' => e = .returned (.bool (decide (f2E x))) ∧ Below w.heap.size w w' := by
  have q := Below.refl w.heap.size w
  by_cases h1 : x.2.2 > 128
  · rw [decide_eq_true (by unfold f2E; omega)]
    refine X.fn Tryd.func97 rfl (n := 14) rfl rfl ?_
    refine Zr ?_
    refine LL.box [.int .i64 x.1, .int .i64 x.2.1, .int .i64 x.2.2] rfl rfl rfl rfl rfl ?_
    intro W2 g3 eg3 r4 z5 b1
    replace q := Zu q b1; refine Za ?_; refine Zq ?_; refine Zr ?_; refine Zf ?_; refine Zl r4 ?_; refine ZgtT ?_; refine Zm ?_; refine Zs ?_; refine Zs ?_; refine Zs ?_; refine Zs ?_; refine Zs ?_; refine Zs ?_; refine Zp ?_; refine Za ?_; refine Zq ?_; refine ZR ?_; refine EE.ret _ rfl rfl ?_
    exact ⟨rfl, q⟩
  by_cases h2 : x.1 > 128 - x.2.2
  · rw [decide_eq_true (by unfold f2E; omega)]
    refine X.fn Tryd.func97 rfl (n := 14) rfl rfl ?_
    refine Zr ?_
    refine LL.box [.int .i64 x.1, .int .i64 x.2.1, .int .i64 x.2.2] rfl rfl rfl rfl rfl ?_
    intro Wa2 ga3 ega3 ra4 za5 ba1
    replace q := Zu q ba1; refine Za ?_; refine Zq ?_; refine Zr ?_; refine Zf ?_; refine Zl ra4 ?_; refine ZgtF ?_; refine Zm ?_; refine Zf ?_; refine Zl ra4 ?_; refine Zf ?_; refine Zl ra4 ?_
    refine LL.val (R.subI rfl rfl rfl (by omega)) rfl rfl rfl ?_
    refine ZgtT ?_; refine Zp ?_; refine Za ?_; refine Zq ?_; refine ZR ?_; refine EE.ret _ rfl rfl ?_
    exact ⟨rfl, q⟩
  · rw [decide_eq_false (by unfold f2E; omega)]
    refine X.fn Tryd.func97 rfl (n := 14) rfl rfl ?_
    refine Zr ?_
    refine LL.box [.int .i64 x.1, .int .i64 x.2.1, .int .i64 x.2.2] rfl rfl rfl rfl rfl ?_
    intro Wb2 gb3 egb3 rb4 zb5 bb1
    replace q := Zu q bb1; refine Za ?_; refine Zq ?_; refine Zr ?_; refine Zf ?_; refine Zl rb4 ?_; refine ZgtF ?_; refine Zm ?_; refine Zf ?_; refine Zl rb4 ?_; refine Zf ?_; refine Zl rb4 ?_
    refine LL.val (R.subI rfl rfl rfl (by omega)) rfl rfl rfl ?_
    refine ZgtF ?_; refine Zp ?_; refine Za ?_; refine Zq ?_; refine ZR ?_; refine EE.ret _ rfl rfl ?_
    exact ⟨rfl, q⟩
set_option maxRecDepth 100000 in
theorem faults3_any (x : Ex) (w : World) (hs : 1 ≤ x.2.2) (h : x.2.2 ≤ 128) : Calls Tryd.prog 98 #[exV x] w fun e w' => e = .returned (.bool (decide (f3E x))) ∧ Below w.heap.size w w' := by
  have q := Below.refl w.heap.size w
  by_cases h1 : x.2.1 > 2048 - x.2.2
  · rw [decide_eq_true (by unfold f3E; omega)]
    refine X.fn Tryd.func98 rfl (n := 9) rfl rfl ?_
    refine Zr ?_
    refine LL.box [.int .i64 x.1, .int .i64 x.2.1, .int .i64 x.2.2] rfl rfl rfl rfl rfl ?_
    intro W2 g3 eg3 r4 z5 b1
    replace q := Zu q b1; refine Za ?_; refine Zq ?_; refine Zr ?_; refine Zf ?_; refine Zl r4 ?_; refine Zf ?_; refine Zl r4 ?_
    refine LL.val (R.subI rfl rfl rfl (by omega)) rfl rfl rfl ?_
    refine ZgtT ?_; refine Za ?_; refine Zq ?_; refine ZR ?_; refine EE.ret _ rfl rfl ?_
    exact ⟨rfl, q⟩
  · rw [decide_eq_false (by unfold f3E; omega)]
    refine X.fn Tryd.func98 rfl (n := 9) rfl rfl ?_
    refine Zr ?_
    refine LL.box [.int .i64 x.1, .int .i64 x.2.1, .int .i64 x.2.2] rfl rfl rfl rfl rfl ?_
    intro Wa2 ga3 ega3 ra4 za5 ba1
    replace q := Zu q ba1; refine Za ?_; refine Zq ?_; refine Zr ?_; refine Zf ?_; refine Zl ra4 ?_; refine Zf ?_; refine Zl ra4 ?_
    refine LL.val (R.subI rfl rfl rfl (by omega)) rfl rfl rfl ?_
    refine ZgtF ?_; refine Za ?_; refine Zq ?_; refine ZR ?_; refine EE.ret _ rfl rfl ?_
    exact ⟨rfl, q⟩
set_option maxRecDepth 100000 in
theorem faults_any (w : World) : Calls Tryd.prog 94 #[] w fun e w' => ∃ g, e = .returned (.slice (some ⟨g, 0, none⟩) 3 3) ∧ RowL w' g 104 [.func (.func 96) #[] #[], .func (.func 97) #[] #[], .func (.func 98) #[] #[]] ∧ w.heap.size ≤ g ∧ Below w.heap.size w w' := by
  have q := Below.refl w.heap.size w
  refine X.fn Tryd.func94 rfl (n := 2) rfl rfl ?_
  refine Zr ?_; refine Za ?_; refine Zq ?_; refine Zr ?_
  refine LL.lit (e := 104) [Value.func (Fn.func 96) #[] #[], Value.func (Fn.func 97) #[] #[], Value.func (Fn.func 98) #[] #[]] 3 rfl rfl (fun _ => by kernel_rfl) rfl rfl ?_
  intro W2 g3 eg3 r4 z5 b1
  replace q := Zu q b1; refine Za ?_; refine Zq ?_; refine ZR ?_; refine EE.ret _ rfl rfl ?_
  exact ⟨_, rfl, by assumption, by omega, q⟩
set_option maxRecDepth 100000 in
theorem apart_any (x y : Ex) (w : World) (hx : mayE x) (hy : mayE y) : Calls Tryd.prog 88 #[exV x, exV y] w fun e w' => e = .returned (.bool (decide (apartE x y))) ∧ Below w.heap.size w w' := by
  have q := Below.refl w.heap.size w
  unfold mayE at hx hy
  by_cases h1 : x.2.1 + x.2.2 ≤ y.2.1
  · rw [decide_eq_true (by unfold apartE; omega)]
    refine X.fn Tryd.func88 rfl (n := 23) rfl rfl ?_
    refine Zr ?_
    refine LL.box [.int .i64 x.1, .int .i64 x.2.1, .int .i64 x.2.2] rfl rfl rfl rfl rfl ?_
    intro W2 g3 eg3 r4 z5 b1
    replace q := Zu q b1; have l6 := r4.lt
    refine LL.box [.int .i64 y.1, .int .i64 y.2.1, .int .i64 y.2.2] rfl rfl rfl rfl rfl ?_
    intro W8 g9 eg9 r10 z11 b7
    replace r4 := r4.up b7; replace b1 := Zu b1 b7; replace q := Zu q b7; refine Za ?_; refine Zq ?_; refine Zr ?_; refine Zf ?_; refine Zl r4 ?_; refine Zf ?_; refine Zl r4 ?_
    refine LL.val (R.addI rfl rfl rfl (by omega)) rfl rfl rfl ?_
    refine Zf ?_; refine Zl r10 ?_; refine ZleT ?_; refine Zm ?_; refine Zs ?_; refine Zs ?_; refine Zs ?_; refine Zs ?_; refine Zs ?_; refine Zs ?_; refine Zs ?_; refine Zs ?_; refine Zp ?_; refine Za ?_; refine Zq ?_; refine ZR ?_; refine EE.ret _ rfl rfl ?_
    exact ⟨rfl, q⟩
  by_cases h2 : y.2.1 + y.2.2 ≤ x.2.1
  · rw [decide_eq_true (by unfold apartE; omega)]
    refine X.fn Tryd.func88 rfl (n := 23) rfl rfl ?_
    refine Zr ?_
    refine LL.box [.int .i64 x.1, .int .i64 x.2.1, .int .i64 x.2.2] rfl rfl rfl rfl rfl ?_
    intro Wa2 ga3 ega3 ra4 za5 ba1
    replace q := Zu q ba1; have la6 := ra4.lt
    refine LL.box [.int .i64 y.1, .int .i64 y.2.1, .int .i64 y.2.2] rfl rfl rfl rfl rfl ?_
    intro Wa8 ga9 ega9 ra10 za11 ba7
    replace ra4 := ra4.up ba7; replace ba1 := Zu ba1 ba7; replace q := Zu q ba7; refine Za ?_; refine Zq ?_; refine Zr ?_; refine Zf ?_; refine Zl ra4 ?_; refine Zf ?_; refine Zl ra4 ?_
    refine LL.val (R.addI rfl rfl rfl (by omega)) rfl rfl rfl ?_
    refine Zf ?_; refine Zl ra10 ?_; refine ZleF ?_; refine Zm ?_; refine Zf ?_; refine Zl ra10 ?_; refine Zf ?_; refine Zl ra10 ?_
    refine LL.val (R.addI rfl rfl rfl (by omega)) rfl rfl rfl ?_
    refine Zf ?_; refine Zl ra4 ?_; refine ZleT ?_; refine Zp ?_; refine Za ?_; refine Zq ?_; refine ZR ?_; refine EE.ret _ rfl rfl ?_
    exact ⟨rfl, q⟩
  · rw [decide_eq_false (by unfold apartE; omega)]
    refine X.fn Tryd.func88 rfl (n := 23) rfl rfl ?_
    refine Zr ?_
    refine LL.box [.int .i64 x.1, .int .i64 x.2.1, .int .i64 x.2.2] rfl rfl rfl rfl rfl ?_
    intro Wb2 gb3 egb3 rb4 zb5 bb1
    replace q := Zu q bb1; have lb6 := rb4.lt
    refine LL.box [.int .i64 y.1, .int .i64 y.2.1, .int .i64 y.2.2] rfl rfl rfl rfl rfl ?_
    intro Wb8 gb9 egb9 rb10 zb11 bb7
    replace rb4 := rb4.up bb7; replace bb1 := Zu bb1 bb7; replace q := Zu q bb7; refine Za ?_; refine Zq ?_; refine Zr ?_; refine Zf ?_; refine Zl rb4 ?_; refine Zf ?_; refine Zl rb4 ?_
    refine LL.val (R.addI rfl rfl rfl (by omega)) rfl rfl rfl ?_
    refine Zf ?_; refine Zl rb10 ?_; refine ZleF ?_; refine Zm ?_; refine Zf ?_; refine Zl rb10 ?_; refine Zf ?_; refine Zl rb10 ?_
    refine LL.val (R.addI rfl rfl rfl (by omega)) rfl rfl rfl ?_
    refine Zf ?_; refine Zl rb4 ?_; refine ZleF ?_; refine Zp ?_; refine Za ?_; refine Zq ?_; refine ZR ?_; refine EE.ret _ rfl rfl ?_
    exact ⟨rfl, q⟩
set_option maxRecDepth 100000 in
theorem follow_any (x y : Ex) (w : World) (hx : mayE x) (hy : mayE y) : Calls Tryd.prog 89 #[exV x, exV y] w fun e w' => e = .returned (.bool (decide (followE x y))) ∧ Below w.heap.size w w' := by
  have q := Below.refl w.heap.size w
  unfold mayE at hx hy
  by_cases h1 : x.1 + x.2.2 ≤ y.1
  case neg =>
    rw [decide_eq_false (by unfold followE; omega)]
    refine X.fn Tryd.func89 rfl (n := 29) rfl rfl ?_
    refine Zr ?_
    refine LL.box [.int .i64 x.1, .int .i64 x.2.1, .int .i64 x.2.2] rfl rfl rfl rfl rfl ?_
    intro W2 g3 eg3 r4 z5 b1
    replace q := Zu q b1; have l6 := r4.lt
    refine LL.box [.int .i64 y.1, .int .i64 y.2.1, .int .i64 y.2.2] rfl rfl rfl rfl rfl ?_
    intro W8 g9 eg9 r10 z11 b7
    replace r4 := r4.up b7; replace b1 := Zu b1 b7; replace q := Zu q b7; refine Za ?_; refine Zq ?_; refine Zr ?_; refine Zf ?_; refine Zl r4 ?_; refine Zf ?_; refine Zl r4 ?_
    refine LL.val (R.addI rfl rfl rfl (by omega)) rfl rfl rfl ?_
    refine Zf ?_; refine Zl r4 ?_; refine Zf ?_; refine Zl r4 ?_
    refine LL.val (R.addI rfl rfl rfl (by omega)) rfl rfl rfl ?_
    refine Zf ?_; refine Zl r10 ?_
    refine LL.val (R.buildV rfl rfl (v := .agg #[Value.int IntKind.i64 (x.1 + x.2.2), Value.int IntKind.i64 (x.2.1 + x.2.2), Value.int IntKind.i64 y.2.2]) (fun _ => by kernel_rfl)) rfl rfl rfl ?_
    have l12 := r10.lt; have l13 := r4.lt
    refine LL.alloc ([.int .i64 0, .int .i64 0, .int .i64 0]) rfl rfl rfl rfl rfl ?_
    intro W15 g16 eg16 r17 z18 b14
    replace r10 := r10.up b14; replace b7 := Zu b7 b14; replace r4 := r4.up b14; replace b1 := Zu b1 b14; replace q := Zu q b14
    refine LL.storeN (vs := [.int .i64 (x.1 + x.2.2), .int .i64 (x.2.1 + x.2.2), .int .i64 y.2.2]) rfl rfl rfl rfl r17 (by exact Nat.le_of_ble_eq_true rfl) (ones_of rfl) rfl rfl ?_
    intro W20 r21 b19 z22
    have hlb19 := r17.lt
    replace r21 : RowL W20 _ 98 [.int .i64 (x.1 + x.2.2), .int .i64 (x.2.1 + x.2.2), .int .i64 y.2.2] := r21
    clear r17
    replace b14 := Zg b14 b19; replace r10 := Zd r10 b19; replace b7 := Zg b7 b19; replace r4 := Zd r4 b19; replace b1 := Zg b1 b19; replace q := Zg q b19
    have r17 := r21
    clear r21
    refine Zq ?_; refine Zr ?_; refine Zf ?_; refine Zl r10 ?_; refine Zf ?_; refine Zl r17 ?_; refine ZgeF ?_; refine Zm ?_; refine Zs ?_; refine Zs ?_; refine Zs ?_; refine Zp ?_; refine Za ?_; refine Zq ?_; refine ZR ?_; refine EE.ret _ rfl rfl ?_
    exact ⟨rfl, q⟩
  by_cases h2 : y.1 = x.1 + x.2.2 ∧ y.2.1 = x.2.1 + x.2.2
  · rw [decide_eq_false (by unfold followE; omega)]
    refine X.fn Tryd.func89 rfl (n := 29) rfl rfl ?_
    refine Zr ?_
    refine LL.box [.int .i64 x.1, .int .i64 x.2.1, .int .i64 x.2.2] rfl rfl rfl rfl rfl ?_
    intro Wa2 ga3 ega3 ra4 za5 ba1
    replace q := Zu q ba1; have la6 := ra4.lt
    refine LL.box [.int .i64 y.1, .int .i64 y.2.1, .int .i64 y.2.2] rfl rfl rfl rfl rfl ?_
    intro Wa8 ga9 ega9 ra10 za11 ba7
    replace ra4 := ra4.up ba7; replace ba1 := Zu ba1 ba7; replace q := Zu q ba7; refine Za ?_; refine Zq ?_; refine Zr ?_; refine Zf ?_; refine Zl ra4 ?_; refine Zf ?_; refine Zl ra4 ?_
    refine LL.val (R.addI rfl rfl rfl (by omega)) rfl rfl rfl ?_
    refine Zf ?_; refine Zl ra4 ?_; refine Zf ?_; refine Zl ra4 ?_
    refine LL.val (R.addI rfl rfl rfl (by omega)) rfl rfl rfl ?_
    refine Zf ?_; refine Zl ra10 ?_
    refine LL.val (R.buildV rfl rfl (v := .agg #[Value.int IntKind.i64 (x.1 + x.2.2), Value.int IntKind.i64 (x.2.1 + x.2.2), Value.int IntKind.i64 y.2.2]) (fun _ => by kernel_rfl)) rfl rfl rfl ?_
    have la12 := ra10.lt; have la13 := ra4.lt
    refine LL.alloc ([.int .i64 0, .int .i64 0, .int .i64 0]) rfl rfl rfl rfl rfl ?_
    intro Wa15 ga16 ega16 ra17 za18 ba14
    replace ra10 := ra10.up ba14; replace ba7 := Zu ba7 ba14; replace ra4 := ra4.up ba14; replace ba1 := Zu ba1 ba14; replace q := Zu q ba14
    refine LL.storeN (vs := [.int .i64 (x.1 + x.2.2), .int .i64 (x.2.1 + x.2.2), .int .i64 y.2.2]) rfl rfl rfl rfl ra17 (by exact Nat.le_of_ble_eq_true rfl) (ones_of rfl) rfl rfl ?_
    intro Wa20 ra21 ba19 za22
    have hlba19 := ra17.lt
    replace ra21 : RowL Wa20 _ 98 [.int .i64 (x.1 + x.2.2), .int .i64 (x.2.1 + x.2.2), .int .i64 y.2.2] := ra21
    clear ra17
    replace ba14 := Zg ba14 ba19; replace ra10 := Zd ra10 ba19; replace ba7 := Zg ba7 ba19; replace ra4 := Zd ra4 ba19; replace ba1 := Zg ba1 ba19; replace q := Zg q ba19
    have ra17 := ra21
    clear ra21
    refine Zq ?_; refine Zr ?_; refine Zf ?_; refine Zl ra10 ?_; refine Zf ?_; refine Zl ra17 ?_; refine ZgeT ?_; refine Zm ?_; refine Zv ra10 ?_; refine Zv ra17 ?_
    refine LL.val (R.neST (p := (y.1 : Int) = x.1 + x.2.2 ∧ (y.2.1 : Int) = x.2.1 + x.2.2 ∧ (y.2.2 : Int) = y.2.2) (bs := [decide ((y.1 : Int) = x.1 + x.2.2), decide ((y.2.1 : Int) = x.2.1 + x.2.2), decide ((y.2.2 : Int) = y.2.2)]) rfl rfl rfl rfl (by kernel_rfl) (by kernel_rfl) (by simp) (by first | assumption | omega | exact ⟨rfl, rfl⟩ | exact fun h => h ⟨rfl, rfl⟩)) rfl rfl rfl ?_
    refine Zp ?_; refine Za ?_; refine Zq ?_; refine ZR ?_; refine EE.ret _ rfl rfl ?_
    exact ⟨rfl, q⟩
  · rw [decide_eq_true (by unfold followE; omega)]
    refine X.fn Tryd.func89 rfl (n := 29) rfl rfl ?_
    refine Zr ?_
    refine LL.box [.int .i64 x.1, .int .i64 x.2.1, .int .i64 x.2.2] rfl rfl rfl rfl rfl ?_
    intro Wb2 gb3 egb3 rb4 zb5 bb1
    replace q := Zu q bb1; have lb6 := rb4.lt
    refine LL.box [.int .i64 y.1, .int .i64 y.2.1, .int .i64 y.2.2] rfl rfl rfl rfl rfl ?_
    intro Wb8 gb9 egb9 rb10 zb11 bb7
    replace rb4 := rb4.up bb7; replace bb1 := Zu bb1 bb7; replace q := Zu q bb7; refine Za ?_; refine Zq ?_; refine Zr ?_; refine Zf ?_; refine Zl rb4 ?_; refine Zf ?_; refine Zl rb4 ?_
    refine LL.val (R.addI rfl rfl rfl (by omega)) rfl rfl rfl ?_
    refine Zf ?_; refine Zl rb4 ?_; refine Zf ?_; refine Zl rb4 ?_
    refine LL.val (R.addI rfl rfl rfl (by omega)) rfl rfl rfl ?_
    refine Zf ?_; refine Zl rb10 ?_
    refine LL.val (R.buildV rfl rfl (v := .agg #[Value.int IntKind.i64 (x.1 + x.2.2), Value.int IntKind.i64 (x.2.1 + x.2.2), Value.int IntKind.i64 y.2.2]) (fun _ => by kernel_rfl)) rfl rfl rfl ?_
    have lb12 := rb10.lt; have lb13 := rb4.lt
    refine LL.alloc ([.int .i64 0, .int .i64 0, .int .i64 0]) rfl rfl rfl rfl rfl ?_
    intro Wb15 gb16 egb16 rb17 zb18 bb14
    replace rb10 := rb10.up bb14; replace bb7 := Zu bb7 bb14; replace rb4 := rb4.up bb14; replace bb1 := Zu bb1 bb14; replace q := Zu q bb14
    refine LL.storeN (vs := [.int .i64 (x.1 + x.2.2), .int .i64 (x.2.1 + x.2.2), .int .i64 y.2.2]) rfl rfl rfl rfl rb17 (by exact Nat.le_of_ble_eq_true rfl) (ones_of rfl) rfl rfl ?_
    intro Wb20 rb21 bb19 zb22
    have hlbb19 := rb17.lt
    replace rb21 : RowL Wb20 _ 98 [.int .i64 (x.1 + x.2.2), .int .i64 (x.2.1 + x.2.2), .int .i64 y.2.2] := rb21
    clear rb17
    replace bb14 := Zg bb14 bb19; replace rb10 := Zd rb10 bb19; replace bb7 := Zg bb7 bb19; replace rb4 := Zd rb4 bb19; replace bb1 := Zg bb1 bb19; replace q := Zg q bb19
    have rb17 := rb21
    clear rb21
    refine Zq ?_; refine Zr ?_; refine Zf ?_; refine Zl rb10 ?_; refine Zf ?_; refine Zl rb17 ?_; refine ZgeT ?_; refine Zm ?_; refine Zv rb10 ?_; refine Zv rb17 ?_
    refine LL.val (R.neSF (p := (y.1 : Int) = x.1 + x.2.2 ∧ (y.2.1 : Int) = x.2.1 + x.2.2 ∧ (y.2.2 : Int) = y.2.2) (bs := [decide ((y.1 : Int) = x.1 + x.2.2), decide ((y.2.1 : Int) = x.2.1 + x.2.2), decide ((y.2.2 : Int) = y.2.2)]) rfl rfl rfl rfl (by kernel_rfl) (by kernel_rfl) (by simp) (by first | assumption | omega | exact ⟨rfl, rfl⟩ | exact fun h => h ⟨rfl, rfl⟩)) rfl rfl rfl ?_
    refine Zp ?_; refine Za ?_; refine Zq ?_; refine ZR ?_; refine EE.ret _ rfl rfl ?_
    exact ⟨rfl, q⟩
--C extents_faults_1 | faults1_any _ @w | DB
--C extents_faults_2 | faults2_any _ @w (by assumption) | DB
--C extents_faults_3 | faults3_any _ @w (by assumption) (by assumption) | DB
set_option maxRecDepth 100000 in
set_option maxHeartbeats 4000000 in
theorem may_any (x : Ex) (w : World) : Calls Tryd.prog 87 #[exV x] w fun e w' => e = .returned (.bool (decide (mayE x))) ∧ Below w.heap.size w w' := by
  have q := Below.refl w.heap.size w
  by_cases h1 : f1E x
  · rw [decide_eq_false (by unfold mayE; unfold f1E at h1; omega)]
    refine X.fn Tryd.func87 rfl (n := 15) rfl rfl ?_
    refine Zr ?_
    refine LL.box [.int .i64 x.1, .int .i64 x.2.1, .int .i64 x.2.2] rfl rfl rfl rfl rfl ?_
    intro W2 g3 eg3 r4 z5 b1
    replace q := Zu q b1; refine Za ?_; refine Zq ?_; refine Zc ?_; refine Zr ?_
    refine Zy (R.call rfl rfl rfl) (faults_any _) ?_
    rintro e W7 ⟨g8, rfl, r9, l10, b6⟩
    refine ⟨_, rfl, ?_⟩; have zb6 := b6.size; replace r4 := r4.up b6; replace b1 := Zu b1 b6; replace q := Zu q b6; refine Zn ?_; refine Zm ?_; refine Zq ?_; refine CC.block ?_
    refine CC.loopN 6 ?_
    refine RN.step ?_
    refine Zr ?_; refine ZltT ?_; refine Zq ?_; refine Zc ?_; refine ZY ?_; refine ZK ?_; refine ZT ?_; refine Zc ?_; refine CC.block ?_; refine Zr ?_; refine Zi ?_; refine Zl r9 ?_; refine Za ?_; refine Zq ?_; refine Zr ?_; refine Zm ?_; refine Zv r4 ?_
    refine LL.callBT (R.callV rfl rfl rfl rfl) rfl rfl rfl (faults1_any _ _) (by first | assumption | omega) (fun W13 b12 => ?_)
    have zb12 := b12.size; replace r9 := r9.up b12; replace b6 := Zu b6 b12; replace r4 := r4.up b12; replace b1 := Zu b1 b12; replace q := Zu q b12; refine Zq ?_; refine ZY ?_; refine Zr ?_; refine Za ?_; refine Zq ?_; refine ZR ?_; refine EE.inR ?_; refine EE.thenR ?_; refine EE.thenR ?_; refine EE.inR ?_; refine EE.thenR ?_; refine EE.ret _ rfl rfl ?_
    exact ⟨rfl, q⟩
  have h11 : 1 ≤ x.2.2 := by unfold f1E at h1; omega
  by_cases h2 : f2E x
  · rw [decide_eq_false (by unfold mayE; unfold f2E at h2; omega)]
    refine X.fn Tryd.func87 rfl (n := 15) rfl rfl ?_
    refine Zr ?_
    refine LL.box [.int .i64 x.1, .int .i64 x.2.1, .int .i64 x.2.2] rfl rfl rfl rfl rfl ?_
    intro Wa2 ga3 ega3 ra4 za5 ba1
    replace q := Zu q ba1; refine Za ?_; refine Zq ?_; refine Zc ?_; refine Zr ?_
    refine Zy (R.call rfl rfl rfl) (faults_any _) ?_
    rintro e Wa7 ⟨ga8, rfl, ra9, la10, ba6⟩
    refine ⟨_, rfl, ?_⟩; have zba6 := ba6.size; replace ra4 := ra4.up ba6; replace ba1 := Zu ba1 ba6; replace q := Zu q ba6; refine Zn ?_; refine Zm ?_; refine Zq ?_; refine CC.block ?_
    refine CC.loopN 6 ?_
    refine RN.step ?_
    refine Zr ?_; refine ZltT ?_; refine Zq ?_; refine Zc ?_; refine ZY ?_; refine ZK ?_; refine ZT ?_; refine Zc ?_; refine CC.block ?_; refine Zr ?_; refine Zi ?_; refine Zl ra9 ?_; refine Za ?_; refine Zq ?_; refine Zr ?_; refine Zm ?_; refine Zv ra4 ?_
    refine LL.callBF (R.callV rfl rfl rfl rfl) rfl rfl rfl (faults1_any _ _) (by first | assumption | omega) (fun Wa13 ba12 => ?_)
    have zba12 := ba12.size; replace ra9 := ra9.up ba12; replace ba6 := Zu ba6 ba12; replace ra4 := ra4.up ba12; replace ba1 := Zu ba1 ba12; replace q := Zu q ba12; refine Zq ?_; refine ZN ?_; refine ZK ?_; refine EE.inN ?_; refine ZT ?_; refine CC.region ?_
    refine LL.val (R.addIz (z := 1) rfl rfl rfl (by decide) (by decide)) rfl rfl rfl ?_
    refine Zm ?_; refine ZL ?_; refine EE.again ?_
    refine RN.step ?_
    refine Zr ?_; refine ZltT ?_; refine Zq ?_; refine Zc ?_; refine ZY ?_; refine ZK ?_; refine ZT ?_; refine Zc ?_; refine CC.block ?_; refine Zr ?_; refine Zi ?_; refine Zl ra9 ?_; refine Za ?_; refine Zq ?_; refine Zr ?_; refine Zm ?_; refine Zv ra4 ?_
    refine LL.callBT (R.callV rfl rfl rfl rfl) rfl rfl rfl (faults2_any _ _ (by assumption)) (by first | assumption | omega) (fun Wa15 ba14 => ?_)
    have zba14 := ba14.size; replace ba12 := Zu ba12 ba14; replace ra9 := ra9.up ba14; replace ba6 := Zu ba6 ba14; replace ra4 := ra4.up ba14; replace ba1 := Zu ba1 ba14; replace q := Zu q ba14; refine Zq ?_; refine ZY ?_; refine Zr ?_; refine Za ?_; refine Zq ?_; refine ZR ?_; refine EE.inR ?_; refine EE.thenR ?_; refine EE.thenR ?_; refine EE.inR ?_; refine EE.thenR ?_; refine EE.ret _ rfl rfl ?_
    exact ⟨rfl, q⟩
  have h21 : x.2.2 ≤ 128 := by unfold f2E at h2; omega
  by_cases h3 : f3E x
  · rw [decide_eq_false (by unfold mayE; unfold f3E at h3; omega)]
    refine X.fn Tryd.func87 rfl (n := 15) rfl rfl ?_
    refine Zr ?_
    refine LL.box [.int .i64 x.1, .int .i64 x.2.1, .int .i64 x.2.2] rfl rfl rfl rfl rfl ?_
    intro Wb2 gb3 egb3 rb4 zb5 bb1
    replace q := Zu q bb1; refine Za ?_; refine Zq ?_; refine Zc ?_; refine Zr ?_
    refine Zy (R.call rfl rfl rfl) (faults_any _) ?_
    rintro e Wb7 ⟨gb8, rfl, rb9, lb10, bb6⟩
    refine ⟨_, rfl, ?_⟩; have zbb6 := bb6.size; replace rb4 := rb4.up bb6; replace bb1 := Zu bb1 bb6; replace q := Zu q bb6; refine Zn ?_; refine Zm ?_; refine Zq ?_; refine CC.block ?_
    refine CC.loopN 6 ?_
    refine RN.step ?_
    refine Zr ?_; refine ZltT ?_; refine Zq ?_; refine Zc ?_; refine ZY ?_; refine ZK ?_; refine ZT ?_; refine Zc ?_; refine CC.block ?_; refine Zr ?_; refine Zi ?_; refine Zl rb9 ?_; refine Za ?_; refine Zq ?_; refine Zr ?_; refine Zm ?_; refine Zv rb4 ?_
    refine LL.callBF (R.callV rfl rfl rfl rfl) rfl rfl rfl (faults1_any _ _) (by first | assumption | omega) (fun Wb13 bb12 => ?_)
    have zbb12 := bb12.size; replace rb9 := rb9.up bb12; replace bb6 := Zu bb6 bb12; replace rb4 := rb4.up bb12; replace bb1 := Zu bb1 bb12; replace q := Zu q bb12; refine Zq ?_; refine ZN ?_; refine ZK ?_; refine EE.inN ?_; refine ZT ?_; refine CC.region ?_
    refine LL.val (R.addIz (z := 1) rfl rfl rfl (by decide) (by decide)) rfl rfl rfl ?_
    refine Zm ?_; refine ZL ?_; refine EE.again ?_
    refine RN.step ?_
    refine Zr ?_; refine ZltT ?_; refine Zq ?_; refine Zc ?_; refine ZY ?_; refine ZK ?_; refine ZT ?_; refine Zc ?_; refine CC.block ?_; refine Zr ?_; refine Zi ?_; refine Zl rb9 ?_; refine Za ?_; refine Zq ?_; refine Zr ?_; refine Zm ?_; refine Zv rb4 ?_
    refine LL.callBF (R.callV rfl rfl rfl rfl) rfl rfl rfl (faults2_any _ _ (by assumption)) (by first | assumption | omega) (fun Wb15 bb14 => ?_)
    have zbb14 := bb14.size; replace bb12 := Zu bb12 bb14; replace rb9 := rb9.up bb14; replace bb6 := Zu bb6 bb14; replace rb4 := rb4.up bb14; replace bb1 := Zu bb1 bb14; replace q := Zu q bb14; refine Zq ?_; refine ZN ?_; refine ZK ?_; refine EE.inN ?_; refine ZT ?_; refine CC.region ?_
    refine LL.val (R.addIz (z := 2) rfl rfl rfl (by decide) (by decide)) rfl rfl rfl ?_
    refine Zm ?_; refine ZL ?_; refine EE.again ?_
    refine RN.step ?_
    refine Zr ?_; refine ZltT ?_; refine Zq ?_; refine Zc ?_; refine ZY ?_; refine ZK ?_; refine ZT ?_; refine Zc ?_; refine CC.block ?_; refine Zr ?_; refine Zi ?_; refine Zl rb9 ?_; refine Za ?_; refine Zq ?_; refine Zr ?_; refine Zm ?_; refine Zv rb4 ?_
    refine LL.callBT (R.callV rfl rfl rfl rfl) rfl rfl rfl (faults3_any _ _ (by assumption) (by assumption)) (by first | assumption | omega) (fun Wb17 bb16 => ?_)
    have zbb16 := bb16.size; replace bb14 := Zu bb14 bb16; replace bb12 := Zu bb12 bb16; replace rb9 := rb9.up bb16; replace bb6 := Zu bb6 bb16; replace rb4 := rb4.up bb16; replace bb1 := Zu bb1 bb16; replace q := Zu q bb16; refine Zq ?_; refine ZY ?_; refine Zr ?_; refine Za ?_; refine Zq ?_; refine ZR ?_; refine EE.inR ?_; refine EE.thenR ?_; refine EE.thenR ?_; refine EE.inR ?_; refine EE.thenR ?_
    refine EE.ret _ rfl rfl ?_
    exact ⟨rfl, q⟩
  · rw [decide_eq_true (by unfold mayE; unfold f1E at h1; unfold f2E at h2; unfold f3E at h3; omega)]
    refine X.fn Tryd.func87 rfl (n := 15) rfl rfl ?_
    refine Zr ?_
    refine LL.box [.int .i64 x.1, .int .i64 x.2.1, .int .i64 x.2.2] rfl rfl rfl rfl rfl ?_
    intro Wc2 gc3 egc3 rc4 zc5 bc1
    replace q := Zu q bc1; refine Za ?_; refine Zq ?_; refine Zc ?_; refine Zr ?_
    refine Zy (R.call rfl rfl rfl) (faults_any _) ?_
    rintro e Wc7 ⟨gc8, rfl, rc9, lc10, bc6⟩
    refine ⟨_, rfl, ?_⟩; have zbc6 := bc6.size; replace rc4 := rc4.up bc6; replace bc1 := Zu bc1 bc6; replace q := Zu q bc6; refine Zn ?_; refine Zm ?_; refine Zq ?_; refine CC.block ?_
    refine CC.loopN 6 ?_
    refine RN.step ?_
    refine Zr ?_; refine ZltT ?_; refine Zq ?_; refine Zc ?_; refine ZY ?_; refine ZK ?_; refine ZT ?_; refine Zc ?_; refine CC.block ?_; refine Zr ?_; refine Zi ?_; refine Zl rc9 ?_; refine Za ?_; refine Zq ?_; refine Zr ?_; refine Zm ?_; refine Zv rc4 ?_
    refine LL.callBF (R.callV rfl rfl rfl rfl) rfl rfl rfl (faults1_any _ _) (by first | assumption | omega) (fun Wc13 bc12 => ?_)
    have zbc12 := bc12.size; replace rc9 := rc9.up bc12; replace bc6 := Zu bc6 bc12; replace rc4 := rc4.up bc12; replace bc1 := Zu bc1 bc12; replace q := Zu q bc12; refine Zq ?_; refine ZN ?_; refine ZK ?_; refine EE.inN ?_; refine ZT ?_; refine CC.region ?_
    refine LL.val (R.addIz (z := 1) rfl rfl rfl (by decide) (by decide)) rfl rfl rfl ?_
    refine Zm ?_; refine ZL ?_; refine EE.again ?_
    refine RN.step ?_
    refine Zr ?_; refine ZltT ?_; refine Zq ?_; refine Zc ?_; refine ZY ?_; refine ZK ?_; refine ZT ?_; refine Zc ?_; refine CC.block ?_; refine Zr ?_; refine Zi ?_; refine Zl rc9 ?_; refine Za ?_; refine Zq ?_; refine Zr ?_; refine Zm ?_; refine Zv rc4 ?_
    refine LL.callBF (R.callV rfl rfl rfl rfl) rfl rfl rfl (faults2_any _ _ (by assumption)) (by first | assumption | omega) (fun Wc15 bc14 => ?_)
    have zbc14 := bc14.size; replace bc12 := Zu bc12 bc14; replace rc9 := rc9.up bc14; replace bc6 := Zu bc6 bc14; replace rc4 := rc4.up bc14; replace bc1 := Zu bc1 bc14; replace q := Zu q bc14; refine Zq ?_; refine ZN ?_; refine ZK ?_; refine EE.inN ?_; refine ZT ?_; refine CC.region ?_
    refine LL.val (R.addIz (z := 2) rfl rfl rfl (by decide) (by decide)) rfl rfl rfl ?_
    refine Zm ?_; refine ZL ?_; refine EE.again ?_
    refine RN.step ?_
    refine Zr ?_; refine ZltT ?_; refine Zq ?_; refine Zc ?_; refine ZY ?_; refine ZK ?_; refine ZT ?_; refine Zc ?_; refine CC.block ?_; refine Zr ?_; refine Zi ?_; refine Zl rc9 ?_; refine Za ?_; refine Zq ?_; refine Zr ?_; refine Zm ?_; refine Zv rc4 ?_
    refine LL.callBF (R.callV rfl rfl rfl rfl) rfl rfl rfl (faults3_any _ _ (by assumption) (by assumption)) (by first | assumption | omega) (fun Wc17 bc16 => ?_)
    have zbc16 := bc16.size; replace bc14 := Zu bc14 bc16; replace bc12 := Zu bc12 bc16; replace rc9 := rc9.up bc16; replace bc6 := Zu bc6 bc16; replace rc4 := rc4.up bc16; replace bc1 := Zu bc1 bc16; replace q := Zu q bc16; refine Zq ?_; refine ZN ?_; refine ZK ?_; refine EE.inN ?_; refine ZT ?_; refine CC.region ?_
    refine LL.val (R.addIz (z := 3) rfl rfl rfl (by decide) (by decide)) rfl rfl rfl ?_
    refine Zm ?_; refine ZL ?_; refine EE.again ?_
    refine RN.step ?_
    refine Zr ?_; refine ZltF ?_; refine Zq ?_; refine Zc ?_; refine ZN ?_; refine CC.exit ?_; refine EE.thenX ?_; refine EE.thenX ?_; refine EE.inX ?_; refine ZT ?_; refine Zr ?_; refine Za ?_; refine Zq ?_; refine ZR ?_; refine EE.ret _ rfl rfl ?_
    exact ⟨rfl, q⟩
/-- The list as far as it was looked at may be a map's. -/
structure preV (l : List Ex) (i : Nat) : Prop where
  may : ∀ j x, j < i → l[j]? = some x → mayE x
  apart : ∀ j k x y, j < k → k < i → l[j]? = some x → l[k]? = some y → apartE x y
  follow : ∀ j x y, j + 1 < i → l[j]? = some x → l[j + 1]? = some y → followE x y
theorem preV_zero (l : List Ex) : preV l 0 := ⟨fun _ _ h => by omega, fun _ _ _ _ _ h => by omega, fun _ _ _ h => by omega⟩
theorem preV_succ {l : List Ex} {i : Nat} {x : Ex} (h : preV l i) (hx : l[i]? = some x) (hm : mayE x) (ha : ∀ j y, j < i → l[j]? = some y → apartE y x) (hf : ∀ y, 0 < i → l[i - 1]? = some y → followE y x) : preV l (i + 1) := by
  refine ⟨fun j y hj hy => ?_, fun j k y z hjk hk hy hz => ?_, fun j y z hj hy hz => ?_⟩
  · by_cases e : j = i
    · subst e; rw [hx] at hy; cases hy; exact hm
    · exact h.may j y (by omega) hy
  · by_cases e : k = i
    · subst e; rw [hx] at hz; cases hz; exact ha j y hjk hy
    · exact h.apart j k y z hjk (by omega) hy hz
  · by_cases e : j + 1 = i
    · subst e; rw [hx] at hz; cases hz; exact hf y (by omega) (by simpa using hy)
    · exact h.follow j y z (by omega) hy hz
theorem preV_of {l : List Ex} (h : vL l) : preV l l.length := by
  refine ⟨fun j x _ hx => h.2.1 x (List.mem_of_getElem? hx), fun j k x y hjk hk hx hy => ?_, fun j x y _ hx hy => chE_at.1 h.2.2.2 j x y hx hy⟩
  obtain ⟨hj, rfl⟩ := List.getElem?_eq_some_iff.1 hx
  obtain ⟨hk, rfl⟩ := List.getElem?_eq_some_iff.1 hy
  exact List.pairwise_iff_getElem.1 h.2.2.1 j k hj hk hjk
theorem vL_of {l : List Ex} (hl : l.length ≤ 10) (h : preV l l.length) : vL l := by
  refine ⟨hl, fun x hx => ?_, List.pairwise_iff_getElem.2 fun j k hj hk hjk => h.apart j k _ _ hjk hk (List.getElem?_eq_getElem hj) (List.getElem?_eq_getElem hk), chE_at.2 fun j x y hx hy => h.follow j x y (List.getElem?_eq_some_iff.1 hy).1 hx hy⟩
  obtain ⟨j, hj, rfl⟩ := List.mem_iff_getElem.1 hx
  exact h.may j _ hj (List.getElem?_eq_getElem hj)
set_option maxRecDepth 100000 in
set_option maxHeartbeats 8000000 in
theorem check_any (v : Value) (l : List Ex) (w : World) (hv : ReadsT eE 3 w v l) (hlen : l.length ≤ 1048576) : Calls Tryd.prog 80 #[v] w fun e w' => (∃ n : Int, e = .returned (.int .i64 n) ∧ ((n = 0 ∧ vL l) ∨ (n = 2 ∧ ¬vL l))) ∧ Below w.heap.size w w' := by
  have q := Below.refl w.heap.size w
  obtain ⟨N, hN⟩ : ∃ N, l.length = N := ⟨_, rfl⟩
  rw [hN] at hlen
  obtain ⟨a, cap, rfl, hcap⟩ := hv.form hN
  refine X.fn Tryd.func80 rfl (n := 46) rfl rfl ?_
  refine Zr ?_; refine Za ?_; refine Zq ?_
  refine CC.fwd (l := 0) (α := Unit) (fun _ => []) (fun _ => []) (fun _ W => Below w.heap.size w W ∧ ¬vL l) rfl ?first ?pass
  case pass =>
    rintro _ W ⟨q, hno⟩
    refine Zc ?_; refine ZK ?_; refine ZT ?_; refine Zr ?_; refine Za ?_; refine Zq ?_; refine ZR ?_; refine EE.jumpR ?_; refine EE.ret _ rfl rfl ?_
    exact ⟨⟨2, rfl, .inr ⟨rfl, hno⟩⟩, q⟩
  case first =>
    by_cases h10 : 10 < N
    · have hno : ¬vL l := fun h => by have := h.1; omega
      refine Zc ?_; refine Zr ?_; refine Zm ?_; refine Zn ?_; refine ZgtT ?_; refine Zq ?_; refine ZY ?_; refine CC.goto ?_; refine EE.thenG ?_
      (refine EE.jumpTo () rfl ?_ ⟨q, hno⟩; exact trivial)
    refine Zc ?_; refine Zr ?_; refine Zm ?_; refine Zn ?_; refine ZgtF ?_; refine Zq ?_; refine ZN ?_; refine ZK ?_; refine ZT ?_; refine Zc ?_; refine Zr ?_; refine Zm ?_; refine Zn ?_; refine Zm ?_; refine Zq ?_; refine CC.block ?_
    refine CC.loop (α := Nat) (fun i => [(0, .slice a N cap), (10, .slice a N cap), (11, .int .i64 (N : Int)), (12, .int .i64 (i : Int))]) (fun i W => i ≤ N ∧ Below w.heap.size w W ∧ preV l i) (fun i => N - i) 0 ⟨rfl, rfl, rfl, rfl, trivial⟩ ⟨by omega, q, preV_zero l⟩ ?_
    clear q
    rintro i W ⟨hi, q, hp⟩
    show CC none Tryd.prog _ 46 [] (sl [(0, .slice a N cap), (10, .slice a N cap), (11, .int .i64 (N : Int)), (12, .int .i64 (i : Int))]) _ W
    by_cases hlt : i < N
    case neg =>
      obtain rfl : i = N := by omega
      have hy : vL l := vL_of (by omega) (by rw [hN]; exact hp)
      refine Zr ?_; refine ZltF ?_; refine Zq ?_; refine Zc ?_; refine ZN ?_; refine CC.exit ?_; refine EE.thenX ?_; refine EE.thenX ?_; refine EE.inX ?_; refine ZT ?_; refine Zc ?_; refine Zr ?_; refine Za ?_; refine Zq ?_; refine ZR ?_; refine EE.thenR ?_; refine EE.jumpR ?_; refine EE.ret _ rfl rfl ?_
      exact ⟨⟨0, rfl, .inl ⟨rfl, hy⟩⟩, q⟩
    obtain ⟨x, hx⟩ : ∃ x, l[i]? = some x := ⟨_, List.getElem?_eq_getElem (by omega)⟩
    have hvW := hv.up q
    have yq := q.size
    obtain ⟨bk, off, rfl, hbk, hcs⟩ := hvW.get eEnc hx
    have hcs : Cells W ⟨bk, off + i * 3, none⟩ [.int .i64 x.1, .int .i64 x.2.1, .int .i64 x.2.2] := hcs
    by_cases hm : mayE x
    case neg =>
      have hno : ¬vL l := fun h => hm ((preV_of h).may i x (by omega) hx)
      refine Zr ?_; refine ZltT ?_; refine Zq ?_; refine Zc ?_; refine ZY ?_; refine ZK ?_; refine ZT ?_; refine Zc ?_; refine CC.block ?_; refine Zr ?_; refine Zm ?_
      refine LL.val (R.index rfl rfl rfl (I.ixS rfl (by omega))) rfl rfl rfl ?_
      refine LL.val (R.load rfl rfl (I.ldNc (by assumption) rfl rfl)) rfl rfl rfl ?_
      refine LL.alloc ([.int .i64 0, .int .i64 0, .int .i64 0]) rfl rfl rfl rfl rfl ?_
      intro We2 ge3 ege3 re4 ze5 be1
      replace q := Zu q be1; replace hvW := hvW.up be1; replace hcs := hcs.up be1; refine Za ?_
      refine LL.storeN (vs := [.int .i64 x.1, .int .i64 x.2.1, .int .i64 x.2.2]) rfl rfl rfl rfl re4 (by exact Nat.le_of_ble_eq_true rfl) (ones_of rfl) rfl rfl ?_
      intro We7 re8 be6 ze9
      have hlbe6 := re4.lt
      replace re8 : RowL We7 _ 98 [.int .i64 x.1, .int .i64 x.2.1, .int .i64 x.2.2] := re8
      clear re4
      replace be1 := Zg be1 be6; replace q := Zg q be6
      replace hvW := hvW.gr be6 (by omega)
      replace hcs := hcs.gr be6 (by omega)
      have re4 := re8
      clear re8
      refine Zq ?_; refine Zc ?_; refine Zr ?_; refine Zv re4 ?_
      refine LL.callBF (R.call rfl rfl rfl) rfl rfl rfl (may_any _ _) (by first | assumption | omega) (fun We11 be10 => ?_)
      have zbe10 := be10.size; replace be1 := Zu be1 be10; replace q := Zu q be10; replace hvW := hvW.up be10; replace hcs := hcs.up be10; replace re4 := re4.up be10; refine Zt ?_; refine Zq ?_; refine ZY ?_; refine CC.goto ?_; refine EE.thenG ?_; refine EE.inG ?_; refine EE.thenG ?_; refine EE.thenG ?_; refine EE.inG ?_; refine EE.thenG ?_
      (refine EE.jumpTo () rfl ?_ ⟨q, hno⟩; exact trivial)
    refine Zr ?_; refine ZltT ?_; refine Zq ?_; refine Zc ?_; refine ZY ?_; refine ZK ?_; refine ZT ?_; refine Zc ?_; refine CC.block ?_; refine Zr ?_; refine Zm ?_
    refine LL.val (R.index rfl rfl rfl (I.ixS rfl (by omega))) rfl rfl rfl ?_
    refine LL.val (R.load rfl rfl (I.ldNc (by assumption) rfl rfl)) rfl rfl rfl ?_
    refine LL.alloc ([.int .i64 0, .int .i64 0, .int .i64 0]) rfl rfl rfl rfl rfl ?_
    intro Wf2 gf3 egf3 rf4 zf5 bf1
    replace q := Zu q bf1; replace hvW := hvW.up bf1; replace hcs := hcs.up bf1; refine Za ?_
    refine LL.storeN (vs := [.int .i64 x.1, .int .i64 x.2.1, .int .i64 x.2.2]) rfl rfl rfl rfl rf4 (by exact Nat.le_of_ble_eq_true rfl) (ones_of rfl) rfl rfl ?_
    intro Wf7 rf8 bf6 zf9
    have hlbf6 := rf4.lt
    replace rf8 : RowL Wf7 _ 98 [.int .i64 x.1, .int .i64 x.2.1, .int .i64 x.2.2] := rf8
    clear rf4
    replace bf1 := Zg bf1 bf6; replace q := Zg q bf6
    replace hvW := hvW.gr bf6 (by omega)
    replace hcs := hcs.gr bf6 (by omega)
    have rf4 := rf8
    clear rf8
    refine Zq ?_; refine Zc ?_; refine Zr ?_; refine Zv rf4 ?_
    refine LL.callBT (R.call rfl rfl rfl) rfl rfl rfl (may_any _ _) (by first | assumption | omega) (fun Wf11 bf10 => ?_)
    have zbf10 := bf10.size; replace bf1 := Zu bf1 bf10; replace q := Zu q bf10; replace hvW := hvW.up bf10; replace hcs := hcs.up bf10; replace rf4 := rf4.up bf10; refine Zt ?_; refine Zq ?_; refine ZN ?_; refine ZK ?_; refine ZT ?_; refine Zc ?_; refine Zr ?_; refine Zm ?_; refine Zm ?_
    refine LL.val (R.slice rfl rfl rfl rfl rfl (I.slTo rfl (by omega))) rfl rfl rfl ?_
    refine Zn ?_; refine Zm ?_; refine Zq ?_; refine CC.block ?_
    have yB : W.heap.size ≤ Wf11.heap.size := by omega
    have lf3 := rf4.lt
    refine CC.loop (α := Nat) (fun k => [(0, .slice (some ⟨bk, off, none⟩) N cap), (3, .int .i64 (i : Int)), (4, .pointer (some ⟨gf3, 0, none⟩)), (10, .slice (some ⟨bk, off, none⟩) N cap), (11, .int .i64 (N : Int)), (12, .int .i64 (i : Int)), (22, .slice (some ⟨bk, off, none⟩) i cap), (23, .int .i64 (i : Int)), (24, .int .i64 (k : Int))]) (fun k W' => k ≤ i ∧ Below w.heap.size w W' ∧ W.heap.size ≤ W'.heap.size ∧ RowL W' gf3 98 [.int .i64 x.1, .int .i64 x.2.1, .int .i64 x.2.2] ∧ ∀ j y, j < k → l[j]? = some y → apartE y x) (fun k => i - k) 0 ⟨rfl, rfl, rfl, rfl, rfl, rfl, rfl, rfl, rfl, trivial⟩ ⟨by omega, q, by omega, rf4, fun j y h => by omega⟩ ?_
    clear q rf4 hcs
    rintro k W' ⟨hk, q, yB, rf4, ha⟩
    show CC none Tryd.prog _ 46 [] (sl [(0, .slice (some ⟨bk, off, none⟩) N cap), (3, .int .i64 (i : Int)), (4, .pointer (some ⟨gf3, 0, none⟩)), (10, .slice (some ⟨bk, off, none⟩) N cap), (11, .int .i64 (N : Int)), (12, .int .i64 (i : Int)), (22, .slice (some ⟨bk, off, none⟩) i cap), (23, .int .i64 (i : Int)), (24, .int .i64 (k : Int))]) _ W'
    have yq := q.size; have lf3 := rf4.lt
    have hvW := hv.up q
    by_cases hlk : k < i
    · obtain ⟨y, hy⟩ : ∃ y, l[k]? = some y := ⟨_, List.getElem?_eq_getElem (by omega)⟩
      obtain ⟨_, _, e1, hbk', hcs⟩ := hvW.get eEnc hy
      cases e1
      have hcs : Cells W' ⟨bk, off + k * 3, none⟩ [.int .i64 y.1, .int .i64 y.2.1, .int .i64 y.2.2] := hcs
      have hmy := hp.may k y hlk hy
      by_cases hap : apartE y x
      case neg =>
        have hno : ¬vL l := fun h => hap ((preV_of h).apart k i y x hlk (by omega) hy hx)
        refine Zr ?_; refine ZltT ?_; refine Zq ?_; refine Zc ?_; refine ZY ?_; refine ZK ?_; refine ZT ?_; refine Zc ?_; refine CC.block ?_; refine Zr ?_
        refine LL.val (R.index rfl rfl rfl (I.ixS rfl (by omega))) rfl rfl rfl ?_
        refine LL.val (R.load rfl rfl (I.ldNc (by assumption) rfl rfl)) rfl rfl rfl ?_
        have lg1 := rf4.lt
        refine LL.alloc ([.int .i64 0, .int .i64 0, .int .i64 0]) rfl rfl rfl rfl rfl ?_
        intro Wg3 gg4 egg4 rg5 zg6 bg2
        replace q := Zu q bg2; replace rf4 := rf4.up bg2; replace hvW := hvW.up bg2; replace hcs := hcs.up bg2
        refine LL.storeN (vs := [.int .i64 y.1, .int .i64 y.2.1, .int .i64 y.2.2]) rfl rfl rfl rfl rg5 (by exact Nat.le_of_ble_eq_true rfl) (ones_of rfl) rfl rfl ?_
        intro Wg8 rg9 bg7 zg10
        have hlbg7 := rg5.lt
        replace rg9 : RowL Wg8 _ 98 [.int .i64 y.1, .int .i64 y.2.1, .int .i64 y.2.2] := rg9
        clear rg5
        replace bg2 := Zg bg2 bg7; replace q := Zg q bg7; replace rf4 := Zd rf4 bg7
        replace hvW := hvW.gr bg7 (by omega)
        replace hcs := hcs.gr bg7 (by omega)
        have rg5 := rg9
        clear rg9
        refine Zq ?_; refine Zr ?_; refine Zv rg5 ?_; refine Zv rf4 ?_
        refine LL.callBF (R.call rfl rfl rfl) rfl rfl rfl (apart_any _ _ _ (by first | assumption | omega) (by first | assumption | omega)) (by first | assumption | omega) (fun Wg12 bg11 => ?_)
        have zbg11 := bg11.size; replace bg2 := Zu bg2 bg11; replace q := Zu q bg11; replace rf4 := rf4.up bg11; replace hvW := hvW.up bg11; replace hcs := hcs.up bg11; replace rg5 := rg5.up bg11; refine Zt ?_; refine Zq ?_; refine ZY ?_; refine CC.goto ?_; refine EE.inG ?_; refine EE.thenG ?_; refine EE.thenG ?_; refine EE.inG ?_; refine EE.thenG ?_; refine EE.inG ?_; refine EE.thenG ?_; refine EE.thenG ?_
        refine EE.inG ?_; refine EE.thenG ?_
        (refine EE.jumpTo () rfl ?_ ⟨q, hno⟩; exact trivial)
      have ha' : ∀ j z, j < k + 1 → l[j]? = some z → apartE z x := fun j z hj hz => by
        by_cases e : j = k
        · subst e; rw [hy] at hz; cases hz; exact hap
        · exact ha j z (by omega) hz
      refine Zr ?_; refine ZltT ?_; refine Zq ?_; refine Zc ?_; refine ZY ?_; refine ZK ?_; refine ZT ?_; refine Zc ?_; refine CC.block ?_; refine Zr ?_
      refine LL.val (R.index rfl rfl rfl (I.ixS rfl (by omega))) rfl rfl rfl ?_
      refine LL.val (R.load rfl rfl (I.ldNc (by assumption) rfl rfl)) rfl rfl rfl ?_
      have lh1 := rf4.lt
      refine LL.alloc ([.int .i64 0, .int .i64 0, .int .i64 0]) rfl rfl rfl rfl rfl ?_
      intro Wh3 gh4 egh4 rh5 zh6 bh2
      replace q := Zu q bh2; replace rf4 := rf4.up bh2; replace hvW := hvW.up bh2; replace hcs := hcs.up bh2
      refine LL.storeN (vs := [.int .i64 y.1, .int .i64 y.2.1, .int .i64 y.2.2]) rfl rfl rfl rfl rh5 (by exact Nat.le_of_ble_eq_true rfl) (ones_of rfl) rfl rfl ?_
      intro Wh8 rh9 bh7 zh10
      have hlbh7 := rh5.lt
      replace rh9 : RowL Wh8 _ 98 [.int .i64 y.1, .int .i64 y.2.1, .int .i64 y.2.2] := rh9
      clear rh5
      replace bh2 := Zg bh2 bh7; replace q := Zg q bh7; replace rf4 := Zd rf4 bh7
      replace hvW := hvW.gr bh7 (by omega)
      replace hcs := hcs.gr bh7 (by omega)
      have rh5 := rh9
      clear rh9
      refine Zq ?_; refine Zr ?_; refine Zv rh5 ?_; refine Zv rf4 ?_
      refine LL.callBT (R.call rfl rfl rfl) rfl rfl rfl (apart_any _ _ _ (by first | assumption | omega) (by first | assumption | omega)) (by first | assumption | omega) (fun Wh12 bh11 => ?_)
      have zbh11 := bh11.size; replace bh2 := Zu bh2 bh11; replace q := Zu q bh11; replace rf4 := rf4.up bh11; replace hvW := hvW.up bh11; replace hcs := hcs.up bh11; replace rh5 := rh5.up bh11; refine Zt ?_; refine Zq ?_; refine ZN ?_; refine ZK ?_; refine EE.inN ?_; refine ZT ?_; refine CC.region ?_
      refine LL.val (R.addNc rfl rfl rfl rfl (by omega)) rfl rfl rfl ?_
      refine Zm ?_; refine ZL ?_
      exact EE.round (k + 1) ⟨rfl, rfl, rfl, rfl, rfl, rfl, rfl, rfl, rfl, trivial⟩ ⟨by omega, q, by omega, rf4, ha'⟩ (by omega)
    obtain rfl : k = i := by omega
    by_cases h0 : 0 < k
    case neg =>
      obtain rfl : k = 0 := by omega
      have hp' := preV_succ hp hx hm ha fun y h => by omega
      refine Zr ?_; refine ZltF ?_; refine Zq ?_; refine Zc ?_; refine ZN ?_; refine CC.exit ?_; refine EE.thenX ?_; refine EE.thenX ?_; refine EE.inX ?_; refine ZT ?_; refine Zc ?_
      refine CC.grow (by kernel_rfl) (by kernel_rfl) ?_
      refine Gm ?_
      refine GG.val (fun w' b' => R.gtF rfl rfl rfl (by omega)) rfl rfl ?_
      refine Gm ?_
      refine GG.skip rfl rfl ?_
      refine GG.skip rfl rfl ?_
      refine GG.skip rfl rfl ?_
      refine GG.skip rfl rfl ?_
      refine GG.skip rfl rfl ?_
      refine GG.skip rfl rfl ?_
      refine GG.skip rfl rfl ?_
      refine GG.skip rfl rfl ?_
      refine GG.val (fun w' b' => R.pick rfl rfl rfl) rfl rfl ?_
      refine GG.nilQ (fun Wi5 bi4 => ?_)
      have zbi4 := bi4.size; replace q := Zu q bi4; replace rf4 := rf4.up bi4; replace hvW := hvW.up bi4; refine ZT ?_; refine ZN ?_; refine ZK ?_; refine EE.inN ?_; refine ZT ?_; refine CC.region ?_
      refine LL.val (R.addIz (z := 1) rfl rfl rfl (by decide) (by decide)) rfl rfl rfl ?_
      refine Zm ?_; refine ZL ?_
      exact EE.round (0 + 1) ⟨rfl, rfl, rfl, rfl, trivial⟩ ⟨by omega, q, hp'⟩ (by omega)
    obtain ⟨y, hy⟩ : ∃ y, l[k - 1]? = some y := ⟨_, List.getElem?_eq_getElem (by omega)⟩
    obtain ⟨_, _, e1, hbk', hcs⟩ := hvW.get eEnc hy
    cases e1
    have hcs : Cells W' ⟨bk, off + (k - 1) * 3, none⟩ [.int .i64 y.1, .int .i64 y.2.1, .int .i64 y.2.2] := hcs
    have hmy := hp.may (k - 1) y (by omega) hy
    by_cases hf : followE y x
    case neg =>
      have hno : ¬vL l := fun h => hf ((preV_of h).follow (k - 1) y x (by omega) hy (by rw [show k - 1 + 1 = k by omega]; exact hx))
      refine Zr ?_; refine ZltF ?_; refine Zq ?_; refine Zc ?_; refine ZN ?_; refine CC.exit ?_; refine EE.thenX ?_; refine EE.thenX ?_; refine EE.inX ?_; refine ZT ?_; refine Zc ?_
      refine CC.grow (by kernel_rfl) (by kernel_rfl) ?_
      refine Gm ?_
      refine GG.val (fun w' b' => R.gtT rfl rfl rfl (by omega)) rfl rfl ?_
      refine Gm ?_
      refine Gm ?_
      refine Gm ?_
      refine GG.val (fun w' b' => R.subNc rfl rfl rfl rfl (by omega) (by omega)) rfl rfl ?_
      refine GG.val (fun w' b' => R.index rfl rfl rfl (I.ixS rfl (by omega))) rfl rfl ?_
      refine GG.val (fun w' b' => R.load rfl rfl (I.ldNc (hcs.up b') rfl rfl)) rfl rfl ?_
      refine Gv rf4 ?_
      refine GG.callDF (fun w' => (R.call rfl rfl rfl)) rfl rfl (fun w' b' => (follow_any _ _ w' (by first | assumption | omega) (by first | assumption | omega)).mono fun e W' h => ⟨h.1, b'.trans (h.2.mono b'.size)⟩) (by first | assumption | omega) ?_
      refine Gt ?_
      refine GG.val (fun w' b' => R.pick rfl rfl rfl) rfl rfl ?_
      refine GG.nilQ (fun Wj5 bj4 => ?_)
      have zbj4 := bj4.size; replace q := Zu q bj4; replace rf4 := rf4.up bj4; replace hvW := hvW.up bj4; replace hcs := hcs.up bj4; refine ZT ?_; refine ZY ?_; refine CC.goto ?_; refine EE.inG ?_; refine EE.thenG ?_; refine EE.thenG ?_; refine EE.inG ?_; refine EE.thenG ?_
      (refine EE.jumpTo () rfl ?_ ⟨q, hno⟩; exact trivial)
    have hp' := preV_succ hp hx hm ha fun z _ hz => by rw [hy] at hz; cases hz; exact hf
    refine Zr ?_; refine ZltF ?_; refine Zq ?_; refine Zc ?_; refine ZN ?_; refine CC.exit ?_; refine EE.thenX ?_; refine EE.thenX ?_; refine EE.inX ?_; refine ZT ?_; refine Zc ?_
    refine CC.grow (by kernel_rfl) (by kernel_rfl) ?_
    refine Gm ?_
    refine GG.val (fun w' b' => R.gtT rfl rfl rfl (by omega)) rfl rfl ?_
    refine Gm ?_
    refine Gm ?_
    refine Gm ?_
    refine GG.val (fun w' b' => R.subNc rfl rfl rfl rfl (by omega) (by omega)) rfl rfl ?_
    refine GG.val (fun w' b' => R.index rfl rfl rfl (I.ixS rfl (by omega))) rfl rfl ?_
    refine GG.val (fun w' b' => R.load rfl rfl (I.ldNc (hcs.up b') rfl rfl)) rfl rfl ?_
    refine Gv rf4 ?_
    refine GG.callDT (fun w' => (R.call rfl rfl rfl)) rfl rfl (fun w' b' => (follow_any _ _ w' (by first | assumption | omega) (by first | assumption | omega)).mono fun e W' h => ⟨h.1, b'.trans (h.2.mono b'.size)⟩) (by first | assumption | omega) ?_
    refine Gt ?_
    refine GG.val (fun w' b' => R.pick rfl rfl rfl) rfl rfl ?_
    refine GG.nilQ (fun Wk5 bk4 => ?_)
    have zbk4 := bk4.size; replace q := Zu q bk4; replace rf4 := rf4.up bk4; replace hvW := hvW.up bk4; replace hcs := hcs.up bk4; refine ZT ?_; refine ZN ?_; refine ZK ?_; refine EE.inN ?_; refine ZT ?_; refine CC.region ?_
    refine LL.val (R.addNc rfl rfl rfl rfl (by omega)) rfl rfl rfl ?_
    refine Zm ?_; refine ZL ?_
    exact EE.round (k + 1) ⟨rfl, rfl, rfl, rfl, trivial⟩ ⟨by omega, q, hp'⟩ (by omega)
set_option linter.unusedVariables false
set_option linter.unusedSimpArgs false
/-- Whole numbers of a kind. -/
abbrev intsZ (k : IntKind) (ns : List Int) : List Value := ns.map fun z : Int => Value.int k z
section
variable {P : Program} {w w' : World} {t : TypeId} {o : Oper} {x y : Operand} {n : Nat} {D : List Deferred} {M : Slots} {r : Option Nat} {ops : Array Oper} {Q : Exit → Act → World → Prop} {rest : List Oper}
def avB (P : Program) (t : TypeId) (n : Nat) : Bool := match P.underlying t with
  | some (.array m e) => m == n && (P.plainKey e && (szB P e == some 1))
  | _ => false
theorem I.ixV {i : Nat} {cs : Array Value} {v : Value} (h : avB P t n = true) (hi : i < n) (hv : cs[i]? = some v) : (Instr.index t (.agg cs) (.int .i64 (i : Int))).run P w = .ok v w := by
  unfold avB at h
  cases hu : P.underlying t with
  | none => rw [hu] at h; cases h
  | some u =>
    rw [hu] at h
    cases u <;> try (cases h; done)
    rename_i m e
    simp only [Bool.and_eq_true, beq_iff_eq] at h
    obtain ⟨rfl, he, hz⟩ := h
    have h1 : (i : Int) < (m : Int) := by omega
    have := run_part_plain (P := P) w he hv
    simp [Instr.index, asIntOf, run_underlying hu, h1, size_of_sz hz, this]
    exact fun hh => absurd hi (by omega)
/-- An element of an array's value. -/
theorem R.ixZ {i m : Nat} {k : IntKind} {ns : List Int} {z : Int} (ho : o.op = .index t x y) (hx : evM M x = some (.agg (intsZ k ns).toArray)) (hy : evM M y = some (.int .i64 (i : Int))) (h : avB P t m = true) (hl : ns.length = m) (hv : ns[i]? = some z) : Runs P n D M o w (.value (.int k z)) w :=
  R.indexV ho hx hy (I.ixV h (by have := (List.getElem?_eq_some_iff.1 hv).1; omega) (by simp [hv]))
theorem R.ixVc {i m : Nat} {cs : Array Value} {v : Value} (hlit : Nat.ble i 18446744073709551616 = true) (ho : o.op = .index t x y) (hx : evM M x = some (.agg cs)) (hy : evM M y = some (.int .i64 (@OfNat.ofNat Int i instOfNat))) (hm : arB P t = some (m, 1)) (h : avB P t m = true) (hi : Nat.blt i m = true) (hv : cs[i]? = some v) : Runs P n D M o w (.value v) w :=
  R.indexV ho hx hy (I.ixV (i := i) h (by simpa [Nat.blt_eq] using hi) hv)
/-- All of an array's row. -/
theorem R.loadZ {g e m : Nat} {k : IntKind} {ns : List Int} (ho : o.op = .load t x) (hx : evM M x = some (.pointer (some ⟨g, 0, none⟩))) (hr : RowL w g e (intsZ k ns)) (ha : aggB P t = true) (hz : szB P t = some m) (hl : ns.length = m) : Runs P n D M o w (.value (.agg (intsZ k ns).toArray)) w :=
  R.load ho hx (I.ldNc (RowL.cells0 hr) ha (by rw [hz, List.length_map, hl]))
/-- A store into an array's row. -/
theorem LL.storeZ {g off e i : Nat} {k : IntKind} {ns : List Int} {z : Int} (ho : o.op = .store t x y) (hx : evM M x = some (.pointer (some ⟨g, off, none⟩))) (hoff : off = i) (hy : evM M y = some (.int k z)) (hz : szB P t = some 1) (hr : RowL w g e (intsZ k ns)) (hi : i < ns.length) (hd : o.dst = none) (hg : wantB ops M o.guard = some true)
    (kk : ∀ w', RowL w' g e (intsZ k (ns.set i z)) → w.grownBy w' (some g) → w'.heap.size = w.heap.size → LL r P ops Q n D M rest w') : LL r P ops Q n D M (o :: rest) w := by
  subst hoff
  refine LL.store ho hx hy hz hr (by rw [List.length_map]; exact hi) rfl rfl hd hg ?_
  intro w' r' g' z'
  refine kk w' ?_ g' z'
  rw [show intsZ k (ns.set off z) = (intsZ k ns).set off (.int k z) from List.map_set ..]
  exact r'
/-- A store of a whole array. -/
theorem LL.storeAZ {g e m : Nat} {k : IntKind} {ns : List Int} {xs : List Value} (ho : o.op = .store t x y) (hx : evM M x = some (.pointer (some ⟨g, 0, none⟩))) (hy : evM M y = some (.agg (intsZ k ns).toArray)) (hz : szB P t = some m) (hl : ns.length = m) (hr : RowL w g e xs) (hxl : xs.length = m) (hd : o.dst = none) (hg : wantB ops M o.guard = some true)
    (kk : ∀ w', RowL w' g e (intsZ k ns) → w.grownBy w' (some g) → w'.heap.size = w.heap.size → LL r P ops Q n D M rest w') : LL r P ops Q n D M (o :: rest) w := by
  refine LL.storeN (vs := intsZ k ns) ho hx hy (by rw [hz, List.length_map, hl]) hr (by rw [List.length_map]; omega) (fun u hu => by simp only [List.mem_map] at hu; obtain ⟨z, _, rfl⟩ := hu; rfl) hd hg ?_
  intro w' r' g' z'
  refine kk w' ?_ g' z'
  have e1 : xs.take 0 ++ (intsZ k ns) ++ xs.drop (0 + (intsZ k ns).length) = intsZ k ns := by
    rw [List.drop_of_length_le (by rw [List.length_map]; omega)]
    simp
  first
    | (rw [← e1]; exact r')
    | (have := r'; simp only [List.take_zero, List.nil_append, Nat.zero_add, List.length_map] at this; rw [List.drop_of_length_le (by omega), List.append_nil] at this; exact this)
theorem ZR.storeZ {ok : World → Prop} {j : Nat} {K : Slots → World → Prop} {g off e i : Nat} {k : IntKind} {ns : List Int} {z : Int} (hj : ops[j]? = some o) (ho : o.op = .store t x y) (hx : evM M x = some (.pointer (some ⟨g, off, none⟩))) (hoff : off = i) (hy : evM M y = some (.int k z)) (hz : szB P t = some 1) (hr : RowL w g e (intsZ k ns)) (hi : i < ns.length) (hd : o.dst = none) (hg : wantB ops M o.guard = some true)
    (kk : ∀ w', RowL w' g e (intsZ k (ns.set i z)) → w.grownBy w' (some g) → w'.heap.size = w.heap.size → ok w' ∧ K M w') : SR P ops ok j K n D M w := by
  subst hoff
  refine ZR.store hj ho hx hy hz hr (by rw [List.length_map]; exact hi) rfl rfl hd hg ?_
  intro w' r' g' z'
  refine kk w' ?_ g' z'
  rw [show intsZ k (ns.set off z) = (intsZ k ns).set off (.int k z) from List.map_set ..]
  exact r'
theorem ZR.storeAZ {ok : World → Prop} {j : Nat} {K : Slots → World → Prop} {g e m : Nat} {k : IntKind} {ns : List Int} {xs : List Value} (hj : ops[j]? = some o) (ho : o.op = .store t x y) (hx : evM M x = some (.pointer (some ⟨g, 0, none⟩))) (hy : evM M y = some (.agg (intsZ k ns).toArray)) (hz : szB P t = some m) (hl : ns.length = m) (hr : RowL w g e xs) (hxl : xs.length = m) (hd : o.dst = none) (hg : wantB ops M o.guard = some true)
    (kk : ∀ w', RowL w' g e (intsZ k ns) → w.grownBy w' (some g) → w'.heap.size = w.heap.size → ok w' ∧ K M w') : SR P ops ok j K n D M w := by
  refine ZR.storeN (vs := intsZ k ns) hj ho hx hy (by rw [hz, List.length_map, hl]) hr (by rw [List.length_map]; omega) (fun u hu => by simp only [List.mem_map] at hu; obtain ⟨z, _, rfl⟩ := hu; rfl) hd hg ?_
  intro w' r' g' z'
  refine kk w' ?_ g' z'
  have e1 : xs.take 0 ++ (intsZ k ns) ++ xs.drop (0 + (intsZ k ns).length) = intsZ k ns := by
    rw [List.drop_of_length_le (by rw [List.length_map]; omega)]
    simp
  rw [← e1]
  exact r'
theorem lvZ {g e m : Nat} {k : IntKind} {ns : List Int} (hr : RowL w g e (intsZ k ns)) (ha : aggB P t = true) (hz : szB P t = some m) (hl : ns.length = m) : (loadVar t ⟨g, 0, none⟩).run P w = .ok (.agg (intsZ k ns).toArray) w :=
  lvNc (RowL.cells0 hr) ha (by rw [hz, List.length_map, hl])
end
theorem blS_pre {l : List Ex} {i : Nat} {x : Ex} (hx : l[i]? = some x) (k : Nat) : blS (l.take i) ++ (blE x).take k <+: blS l := by
  have e : l = l.take i ++ x :: l.drop (i + 1) := by
    obtain ⟨hi, rfl⟩ := List.getElem?_eq_some_iff.1 hx
    simp
  conv => rhs; rw [e, blS_app, blS_cons]
  exact (List.prefix_append_right_inj _).2 ((List.take_prefix _ _).trans (List.prefix_append _ _))
theorem blS_take {l : List Ex} {i : Nat} {x : Ex} (hx : l[i]? = some x) : blS (l.take (i + 1)) = blS (l.take i) ++ blE x := by
  rw [List.take_add_one, hx, blS_app]
  simp [blS_one]
abbrev plV (p : List Int) : Value := .agg (intsZ .i64 p).toArray
abbrev zeroP : List Int := List.replicate 128 0
/-- Small numbers. -/
abbrev litE (x : Ex) : Prop := (0 ≤ x.1 ∧ x.1 ≤ 4096) ∧ (0 ≤ x.2.1 ∧ x.2.1 ≤ 4096) ∧ (0 ≤ x.2.2 ∧ x.2.2 ≤ 4096)
abbrev litB (b : Bl) : Prop := (0 ≤ b.1 ∧ b.1 ≤ 4096) ∧ (0 ≤ b.2 ∧ b.2 ≤ 4096)
theorem gat_lit {s : List Bl} {k : Nat} (hi : ∀ b ∈ s, litB b) (hk : s.length ≤ k) (hk2 : k ≤ 4096) : ∀ x ∈ gat s, litE x := fun x hx => by
  have h1 := gat_many s x hx
  have hmem : ∀ i : Nat, (i : Int) < x.2.2 → (x.1 + (i : Int), x.2.1 + (i : Int)) ∈ s := fun i h => by
    rw [← blS_gat s]
    exact List.mem_flatMap.2 ⟨x, hx, mem_blE.2 ⟨i, h, rfl⟩⟩
  have f0 := hi _ (hmem 0 (by omega))
  have hl : (blE x).length ≤ s.length := by
    rw [← blS_gat s]
    unfold blS
    obtain ⟨p, t, e⟩ := List.append_of_mem hx
    rw [e]
    simp only [List.flatMap_append, List.flatMap_cons, List.length_append]
    omega
  rw [blE_len] at hl
  simp only [litB] at f0
  unfold litE
  omega
/-- Places with small numbers. -/
def smP (p : List Int) : Prop := p.length = 128 ∧ ∀ (i : Nat) (z : Int), p[i]? = some z → 0 ≤ z ∧ z < 2048
theorem okP.small {p : List Int} (h : okP p) : smP p := ⟨h.len, fun i z hz => h.at hz⟩
theorem nzF_lit {p : List Int} (h : smP p) (k : Nat) (hk : k ≤ 128) : ∀ b ∈ nzF p k, litB b := fun b hb => by
  obtain ⟨i, hi, hz, rfl⟩ := mem_nzF.1 hb
  obtain ⟨z, hz2⟩ : ∃ z, p[i]? = some z := ⟨_, List.getElem?_eq_getElem (by have := h.1; omega)⟩
  have := h.2 i z hz2
  rw [hz2]
  unfold litB
  simp only [Option.getD_some]
  omega
theorem check_T (v : Value) (l : List Ex) (w : World) (hv : ReadsT eE 3 w v l) (hlen : l.length ≤ 1048576) (h : vL l) : Calls Tryd.prog 80 #[v] w fun e w' => e = .returned (.int .i64 0) ∧ Below w.heap.size w w' :=
  (check_any v l w hv hlen).mono fun e w' ⟨⟨n, he, hn⟩, hb⟩ => by
    rcases hn with ⟨rfl, _⟩ | ⟨rfl, hn⟩
    · exact ⟨he, hb⟩
    · exact absurd h hn
theorem check_F (v : Value) (l : List Ex) (w : World) (hv : ReadsT eE 3 w v l) (hlen : l.length ≤ 1048576) (h : ¬vL l) : Calls Tryd.prog 80 #[v] w fun e w' => e = .returned (.int .i64 2) ∧ Below w.heap.size w w' :=
  (check_any v l w hv hlen).mono fun e w' ⟨⟨n, he, hn⟩, hb⟩ => by
    rcases hn with ⟨rfl, hn⟩ | ⟨rfl, _⟩
    · exact absurd hn h
    · exact ⟨he, hb⟩
/-- The list, if it is a map; or none. -/
noncomputable def eL (l : List Ex) : List Ex := @ite _ (vL l) (Classical.propDecidable _) l []
theorem nz_mem {p : List Int} (hl : p.length = 128) {b : Bl} : b ∈ nz p ↔ ∃ i : Nat, p[i]? = some b.2 ∧ b.2 ≠ 0 ∧ b.1 = (i : Int) := by
  rw [nz, mem_nzF]
  constructor
  · rintro ⟨i, hi, hz, rfl⟩
    obtain ⟨z, hz2⟩ : ∃ z, p[i]? = some z := ⟨_, List.getElem?_eq_getElem (by omega)⟩
    rw [hz2] at hz ⊢
    exact ⟨i, by simpa using hz2, hz, rfl⟩
  · rintro ⟨i, h1, h2, h3⟩
    have hi := (List.getElem?_eq_some_iff.1 h1).1
    exact ⟨i, by omega, by rw [h1]; exact h2, by rw [h1]; exact Prod.ext h3 rfl⟩
open Go.RowKit
theorem within_int {n lo hi : Int} {w : World} (b : Bool) (h : (decide (lo ≤ n) && decide (n ≤ hi)) = b) : Calls Tryd.prog 79 #[.int .i64 n, .int .i64 lo, .int .i64 hi] w fun e w' => e = .returned (.bool b) ∧ w = w' := by
  subst h
  by_cases h1 : lo ≤ n
  · go_enter Tryd.func79, Tryd.ntmps79
    go_wp2
    go_ret
    exact ⟨by simp [h1], rfl⟩
  · go_enter Tryd.func79, Tryd.ntmps79
    go_wp2
    go_ret
    exact ⟨by simp; omega, rfl⟩
theorem within_u64 {n lo hi : Int} {w : World} (b : Bool) (h : (decide (lo ≤ n) && decide (n ≤ hi)) = b) : Calls Tryd.prog 77 #[.int .u64 n, .int .u64 lo, .int .u64 hi] w fun e w' => e = .returned (.bool b) ∧ w = w' := by
  subst h
  by_cases h1 : lo ≤ n
  · go_enter Tryd.func77, Tryd.ntmps77
    go_wp2
    go_ret
    exact ⟨by simp [h1], rfl⟩
  · go_enter Tryd.func77, Tryd.ntmps77
    go_wp2
    go_ret
    exact ⟨by simp; omega, rfl⟩
/-- A callee that leaves the world alone, in a region that draws its order. -/
theorem quiet_same {P : Program} {f : FuncId} {args : Array Value} {w : World} {n : Nat} {v : Value}
    (h : Calls P f args (w.drewN n) fun e w' => e = .returned v ∧ w.drewN n = w') : Calls P f args (w.drewN n) fun e w'' => e = .returned v ∧ ∃ m, w'' = w.drewN m :=
  h.mono fun _ _ ⟨he, hm⟩ => ⟨he, n, hm.symm⟩
theorem mask_int (a k : Nat) (h1 : 1 ≤ k) (h2 : k + a ≤ 64) : IntKind.u64.wrap (18446744073709551615 / 2 ^ (64 - (k : Int)).toNat * 2 ^ (a : Int).toNat) = (((2 ^ k - 1) * 2 ^ a : Nat) : Int) := by
  have e := mask_val a k h2
  rw [show (64 - (k : Int)).toNat = 64 - k by omega, Int.toNat_natCast, IntKind.wrap_u64, ← e]
  simp
theorem fieldMask_ok (a k : Nat) (h1 : 1 ≤ k) (h2 : k + a ≤ 64) (w : World) : Calls Tryd.prog 55 #[.int .i64 a, .int .i64 k] w fun e w' => e = .returned (.tuple #[.int .u64 ((2 ^ k - 1) * 2 ^ a : Nat), .bool true]) ∧ w = w' := by
  have m := mask_int a k h1 h2
  rw [show (64 - (k : Int)).toNat = 64 - k by omega, Int.toNat_natCast] at m
  have M := Lib.hid m
  clear m
  go_enter Tryd.func55, Tryd.ntmps55
  go_wp2_with (first | (go_at_call 79; refine (within_int true (by simp; omega)).mono ?_; rintro e w' ⟨rfl, rfl⟩))
  go_ret2
  exact ⟨by simp only [← M.out]; rfl, rfl⟩
theorem of_any (x m : Nat) (hx : x < 18446744073709551616) (hm : m < 18446744073709551616) (w : World) : Calls Tryd.prog 56 #[.int .u64 m, .int .u64 x] w fun e w' => e = .returned (.int .u64 (x &&& m : Nat)) ∧ w = w' := by
  have e := Lib.hid (u64_and_nat x m hx hm)
  go_enter Tryd.func56, Tryd.ntmps56
  go_wp2
  go_ret
  exact ⟨ret1 (int_eq e.out), rfl⟩
theorem without_any (x m : Nat) (hx : x < 18446744073709551616) (hm : m < 18446744073709551616) (w : World) : Calls Tryd.prog 78 #[.int .u64 m, .int .u64 x] w fun e w' => e = .returned (.int .u64 (x &&& (18446744073709551615 - m) : Nat)) ∧ w = w' := by
  have e := Lib.hid (u64_andNot_nat x m hx hm)
  go_enter Tryd.func78, Tryd.ntmps78
  go_wp2
  go_ret
  exact ⟨ret1 (int_eq e.out), rfl⟩
theorem field_ok (x a k : Nat) (hx : x < 18446744073709551616) (h1 : 1 ≤ k) (h2 : k + a ≤ 64) (w : World) : Calls Tryd.prog 39 #[.int .u64 x, .int .i64 a, .int .i64 k] w fun e w' => e = .returned (.tuple #[.int .u64 (x / 2 ^ a % 2 ^ k : Nat), .int .i64 0]) ∧ w = w' := by
  have e := Lib.hid (and_mask_div x a k)
  have hm := mask_lt a k h2
  obtain ⟨M, hM⟩ : ∃ M, (2 ^ k - 1) * 2 ^ a = M := ⟨_, rfl⟩
  have f := fieldMask_ok a k h1 h2 w
  rw [hM] at f e hm
  clear hM
  have F := Lib.hid f
  clear f
  go_enter Tryd.func39, Tryd.ntmps39
  go_wp2_with (first | (go_at_call 55; refine F.out.mono ?_; rintro e w' ⟨rfl, rfl⟩) | (go_at_call 56; refine (of_any x M hx hm _).mono ?_; rintro e w' ⟨rfl, rfl⟩))
  go_ret2
  exact ⟨by simp [← e.out], rfl⟩
theorem mask_down (a k : Nat) : (2 ^ k - 1) * 2 ^ a / 2 ^ a = 2 ^ k - 1 := Nat.mul_div_cancel _ (Nat.two_pow_pos a)
theorem with_ok (x a k v : Nat) (hx : x < 18446744073709551616) (h1 : 1 ≤ k) (h2 : k + a ≤ 64) (hv : v < 2 ^ k) (w : World) : Calls Tryd.prog 47 #[.int .u64 x, .int .i64 a, .int .i64 k, .int .u64 v] w fun e w' => e = .returned (.tuple #[.int .u64 (x - x / 2 ^ a % 2 ^ k * 2 ^ a + v * 2 ^ a : Nat), .int .i64 0]) ∧ ∃ n, w' = w.drewN n := by
  have e := Lib.hid (with_val x a k v hx h2 hv)
  have hd := mask_down a k
  have hm := mask_lt a k h2
  have hq : 1 ≤ 2 ^ k := Nat.one_le_two_pow
  have f := fieldMask_ok a k h1 h2 w
  obtain ⟨M, hM⟩ : ∃ M, (2 ^ k - 1) * 2 ^ a = M := ⟨_, rfl⟩
  rw [hM] at f hm hd e
  have hf : (M : Int) / 2 ^ a = ((2 ^ k - 1 : Nat) : Int) := by
    have e : (M : Int) / 2 ^ a = ((M / 2 ^ a : Nat) : Int) := by simp
    rw [e, hd]
  clear hM hd
  have F := Lib.hid f
  have HF := Lib.hid hf
  clear f hf
  go_enter Tryd.func47, Tryd.ntmps47
  go_wp2_with (first | (go_at_call 55; refine F.out.mono ?_; rintro e w' ⟨rfl, rfl⟩) | (go_at_call 77; refine (within_u64 true (by rw [HF.out]; simp; omega)).mono ?_; rintro e w' ⟨rfl, rfl⟩))
  go_quiet ((go_at_call 78; exact quiet_same (without_any x M hx hm _)))
  go_wp2
  go_ret2
  refine ⟨ret1 (congrArg Value.tuple ?_), _, rfl⟩
  have eo := u64_or_nat (x &&& (18446744073709551615 - M)) (v * 2 ^ a % 18446744073709551616) (Nat.lt_of_le_of_lt Nat.and_le_left hx) (Nat.mod_lt _ (by decide))
  have ew : IntKind.u64.wrap (↑v * 2 ^ a) = ((v * 2 ^ a % 18446744073709551616 : Nat) : Int) := by rw [IntKind.wrap_u64]; simp
  rw [e.out] at eo
  rw [← ew] at eo
  rw [← eo]
  rfl
theorem power_any (n : Nat) (h : n ≤ 63) (p : Nat) (hp : Hid (p = 2 ^ n)) (w : World) : Calls Tryd.prog 50 #[.int .i64 n] w fun e w' => e = .returned (.int .u64 p) ∧ w = w' := by
  go_enter Tryd.func50, Tryd.ntmps50
  go_wp2
  go_loop [3, 4] (fun p i => ∃ k q : Nat, k ≤ n ∧ i = .int .i64 k ∧ p = .int .u64 q ∧ q = 2 ^ k) (fun _ i => n - (intOf i).toNat)
  case atStart => exact ⟨0, 1, Nat.zero_le _, rfl, rfl, rfl⟩
  case round =>
    obtain ⟨k, q, hk, rfl, rfl, hq⟩ := hrel
    have H := Lib.hid hq
    clear hq
    by_cases hlt : k < n
    · have hb' : 2 * (q : Int) < 18446744073709551616 := by
        have hb : 2 ^ k ≤ 2 ^ 62 := Nat.pow_le_pow_right (by decide) (by omega)
        have hq := H.out
        omega
      go_wp2
      go_round
      case rel => exact ⟨k + 1, 2 * q, by omega, by go_num, rfl, by rw [H.out, Nat.pow_succ, Nat.mul_comm]⟩
      case measure => simp [intOf]; omega
    · obtain rfl : k = n := by omega
      go_wp2
      go_ret
      exact ⟨ret1 (int_eq (by rw [hp.out, ← H.out])), rfl⟩
set_option linter.unusedVariables false
set_option linter.unusedSimpArgs false
section
variable {P : Program} {w : World} {n : Nat} {D : List Deferred} {M : Slots} {o : Oper} {x y : Operand} {t u : TypeId}
theorem eqI_ints {d : Nat} {e : TypeId} {k kk : IntKind} {xa xb : List Int} (he : P.underlying e = some (.int kk)) : ∀ (is : List Nat), (∀ i ∈ is, i < xa.length ∧ i < xb.length) →
    ∃ cs, eqI (eqC P (d + 1) e) 1 (intsZ k xa) (intsZ k xb) is = some cs ∧ (cs.all id = true ↔ ∀ i ∈ is, xa[i]? = xb[i]?)
  | [], _ => ⟨[], rfl, by simp⟩
  | i :: is, h => by
    obtain ⟨cs, h1, h2⟩ := eqI_ints (d := d) (k := k) he is fun j hj => h j (by simp [hj])
    obtain ⟨ha, hb⟩ := h i (by simp)
    have g : ∀ (zs : List Int) (hz : i < zs.length), ((intsZ k zs).drop (i * 1)).take 1 = [.int k zs[i]] := fun zs hz => by
      rw [Nat.mul_one, List.drop_eq_getElem_cons (by simpa using hz)]
      simp
    refine ⟨[decide (xa[i] = xb[i])] ++ cs, ?_, ?_⟩
    · simp only [eqI, g xa ha, g xb hb, h1]
      simp [eqC, he]
    · simp only [List.all_append, List.all_cons, List.all_nil, id, Bool.and_true, Bool.and_eq_true, decide_eq_true_eq, h2, List.mem_cons, forall_eq_or_imp]
      rw [List.getElem?_eq_getElem ha, List.getElem?_eq_getElem hb]
      simp
theorem eqC_ints {m : Nat} {e : TypeId} {k kk : IntKind} {xa xb : List Int} (hu : P.underlying t = some (.array m e)) (he : P.underlying e = some (.int kk)) (hc : P.cellsOf e = 1) (hm : m ≠ 0) (ha : xa.length = m) (hb : xb.length = m) : ∃ cs, eqC P 9 t (intsZ k xa) (intsZ k xb) = some cs ∧ cs.all id = decide (xa = xb) := by
  obtain ⟨cs, h1, h2⟩ := eqI_ints (P := P) (d := 7) (k := k) (xa := xa) (xb := xb) he (List.range m) fun i hi => by
    have := List.mem_range.1 hi
    omega
  refine ⟨cs, ?_, ?_⟩
  · show eqC P (8 + 1) t _ _ = _
    simp only [eqC, hu, hm, if_false, hc]
    exact h1
  · rw [Bool.eq_iff_iff, h2, decide_eq_true_eq]
    constructor
    · intro h
      refine List.ext_getElem? fun i => ?_
      by_cases hi : i < m
      · exact h i (List.mem_range.2 hi)
      · rw [List.getElem?_eq_none (by omega), List.getElem?_eq_none (by omega)]
    · rintro rfl i _
      rfl
theorem R.neZT {m : Nat} {e : TypeId} {k kk : IntKind} {xa xb : List Int} (ho : o.op = .binOp .neq t x y u) (hx : evM M x = some (.agg (intsZ k xa).toArray)) (hy : evM M y = some (.agg (intsZ k xb).toArray)) (hu : P.underlying t = some (.array m e)) (he : P.underlying e = some (.int kk)) (hc : P.cellsOf e = 1) (hm : m ≠ 0) (ht : aggB P t = true) (hg : P.eqGuardType P.depth t = false) (ha : xa.length = m) (hb : xb.length = m) (h : xa = xb) : Runs P n D M o w (.value (.bool false)) w := by
  obtain ⟨cs, h1, h2⟩ := eqC_ints (k := k) hu he hc hm ha hb
  exact R.neST ho hx hy ht hg h1 h2 h
end
theorem Below.drewN {B : Nat} {a w : World} (h : Below B a w) (n : Nat) : Below B a (w.drewN n) := ⟨h.os, h.tape, h.output, h.size, h.block⟩
/-- What the package's variable holds: the widths of an extent's fields. -/
structure Start (W : World) : Prop where
  c0 : W.cell? ⟨0, 0, none⟩ = some (.int .i64 16)
  c1 : W.cell? ⟨0, 1, none⟩ = some (.int .i64 24)
  c2 : W.cell? ⟨0, 2, none⟩ = some (.int .i64 16)
  pos : 0 < W.heap.size
theorem Start.up {w w' : World} (h : Start w) (b : Below w.heap.size w w') : Start w' := ⟨cell_up h.c0 b, cell_up h.c1 b, cell_up h.c2 b, Nat.lt_of_lt_of_le h.pos b.size⟩
theorem Start.gr {w w' : World} {g : Nat} (h : Start w) (b : w.grownBy w' (some g)) (hne : 0 < g) : Start w' := ⟨cell_gr h.c0 b (by omega), cell_gr h.c1 b (by omega), cell_gr h.c2 b (by omega), Nat.lt_of_lt_of_le h.pos b.size⟩
theorem Start.cells {w : World} (h : Start w) : Cells w ⟨0, 0, none⟩ [.int .i64 16, .int .i64 24, .int .i64 16] := fun j u hu => by
  rw [Addr.add_lit]
  match j, hu with
  | 0, hu => cases hu; exact h.c0
  | 1, hu => cases hu; exact h.c1
  | 2, hu => cases hu; exact h.c2
theorem with_a (f : Nat) (w : World) (hf : f < 65536) : Calls Tryd.prog 47 #[.int .u64 0, .int .i64 0, .int .i64 16, .int .u64 (f : Int)] w fun e w' => e = .returned (.tuple #[.int .u64 (f : Int), .int .i64 0]) ∧ Below w.heap.size w w' :=
  (with_ok 0 0 16 f (by omega) (by omega) (by omega) (by omega) w).mono fun e w' ⟨h, n, hw⟩ => by
    subst hw
    refine ⟨?_, Below.drewN (Below.refl _ _) n⟩
    rw [h]
    simp
theorem with_b (x d : Nat) (w : World) (hx : x < 65536) (hd : d < 16777216) : Calls Tryd.prog 47 #[.int .u64 (x : Int), .int .i64 16, .int .i64 24, .int .u64 (d : Int)] w fun e w' => e = .returned (.tuple #[.int .u64 ((x + d * 65536 : Nat) : Int), .int .i64 0]) ∧ Below w.heap.size w w' :=
  (with_ok x 16 24 d (by omega) (by omega) (by omega) (by omega) w).mono fun e w' ⟨h, n, hw⟩ => by
    subst hw
    refine ⟨?_, Below.drewN (Below.refl _ _) n⟩
    rw [h, show x / 2 ^ 16 % 2 ^ 24 = 0 by omega]
    simp
theorem with_c (x k : Nat) (w : World) (hx : x < 1099511627776) (hk : k < 65536) : Calls Tryd.prog 47 #[.int .u64 (x : Int), .int .i64 40, .int .i64 16, .int .u64 (k : Int)] w fun e w' => e = .returned (.tuple #[.int .u64 ((x + k * 1099511627776 : Nat) : Int), .int .i64 0]) ∧ Below w.heap.size w w' :=
  (with_ok x 40 16 k (by omega) (by omega) (by omega) (by omega) w).mono fun e w' ⟨h, n, hw⟩ => by
    subst hw
    refine ⟨?_, Below.drewN (Below.refl _ _) n⟩
    rw [h, show x / 2 ^ 40 % 2 ^ 16 = 0 by omega]
    simp
/-- An extent's word. -/
def packN (f d k : Nat) : Nat := f + d * 65536 + k * 1099511627776
set_option maxRecDepth 100000 in
set_option maxHeartbeats 8000000 in
theorem pack_any (f d k g : Nat) (w : World) (hs : Start w) (hr : RowL w g 3 [.int .i64 (f : Int), .int .i64 (d : Int), .int .i64 (k : Int)]) (hb : f < 65536 ∧ d < 16777216 ∧ k < 65536) : Calls Tryd.prog 90 #[.slice (some ⟨g, 0, none⟩) 3 3] w fun e w' => e = .returned (.int .u64 (packN f d k : Int)) ∧ Below w.heap.size w w' := by
  have q := Below.refl w.heap.size w
  obtain ⟨c0, c1, c2, hp⟩ := hs
  refine X.fn Tryd.func90 rfl (n := 32) rfl rfl ?_
  refine Zr ?_; refine Za ?_; refine Zq ?_; refine Zr ?_; refine Za ?_; refine Za ?_; refine Zq ?_; refine Zc ?_; refine Zr ?_; refine Zm ?_; refine Zn ?_; refine Zm ?_; refine Zq ?_; refine CC.block ?_
  refine CC.loopN 6 ?_
  refine RN.step ?_
  refine Zr ?_; refine ZltT ?_; refine Zq ?_; refine Zc ?_; refine ZY ?_; refine ZK ?_; refine ZT ?_; refine Zc ?_; refine CC.block ?_; refine Zr ?_; refine Zm ?_; refine Zi ?_; refine Zl hr ?_; refine Za ?_; refine Za ?_; refine Zq ?_; refine Zr ?_; refine Zm ?_; refine Zm ?_; refine Zm ?_
  refine LL.val (R.index rfl rfl rfl (I.ixA1c rfl rfl (by first | omega | decide))) rfl rfl rfl ?_
  refine Zk ?_; refine Zm ?_
  refine LL.val (R.convI rfl rfl rfl rfl (wrapU (by omega) (by omega))) rfl rfl rfl ?_
  refine Zy (R.call rfl rfl rfl) (with_a _ _ (by first | assumption | omega)) ?_
  rintro e W2 ⟨rfl, b1⟩
  refine ⟨_, rfl, ?_⟩; have zb1 := b1.size; replace hr := hr.up b1; replace q := Zu q b1; replace c0 := cell_up c0 b1; replace c1 := cell_up c1 b1; replace c2 := cell_up c2 b1; refine Zm ?_; refine Zx ?_; refine Zx ?_; refine Za ?_; refine Zq ?_; refine CC.region ?_; refine Zm ?_; refine Zm ?_
  refine LL.val (R.index rfl rfl rfl (I.ixA1c rfl rfl (by first | omega | decide))) rfl rfl rfl ?_
  refine Zk ?_
  refine LL.val (R.addIz (z := 16) rfl rfl rfl (by decide) (by decide)) rfl rfl rfl ?_
  refine Za ?_; refine ZL ?_; refine EE.inN ?_; refine ZT ?_; refine CC.region ?_
  refine LL.val (R.addIz (z := 1) rfl rfl rfl (by decide) (by decide)) rfl rfl rfl ?_
  refine Zm ?_; refine ZL ?_; refine EE.again ?_
  refine RN.step ?_
  refine Zr ?_; refine ZltT ?_; refine Zq ?_; refine Zc ?_; refine ZY ?_; refine ZK ?_; refine ZT ?_; refine Zc ?_; refine CC.block ?_; refine Zr ?_; refine Zm ?_; refine Zi ?_; refine Zl hr ?_; refine Za ?_; refine Za ?_; refine Zq ?_; refine Zr ?_; refine Zm ?_; refine Zm ?_; refine Zm ?_
  refine LL.val (R.index rfl rfl rfl (I.ixA1c rfl rfl (by first | omega | decide))) rfl rfl rfl ?_
  refine Zk ?_; refine Zm ?_
  refine LL.val (R.convI rfl rfl rfl rfl (wrapU (by omega) (by omega))) rfl rfl rfl ?_
  refine Zy (R.call rfl rfl rfl) (with_b _ _ _ (by first | assumption | omega) (by first | assumption | omega)) ?_
  rintro e W5 ⟨rfl, b4⟩
  refine ⟨_, rfl, ?_⟩; have zb4 := b4.size; replace b1 := Zu b1 b4; replace hr := hr.up b4; replace q := Zu q b4; replace c0 := cell_up c0 b4; replace c1 := cell_up c1 b4; replace c2 := cell_up c2 b4; refine Zm ?_; refine Zx ?_; refine Zx ?_; refine Za ?_; refine Zq ?_; refine CC.region ?_; refine Zm ?_; refine Zm ?_
  refine LL.val (R.index rfl rfl rfl (I.ixA1c rfl rfl (by first | omega | decide))) rfl rfl rfl ?_
  refine Zk ?_
  refine LL.val (R.addIz (z := 40) rfl rfl rfl (by decide) (by decide)) rfl rfl rfl ?_
  refine Za ?_; refine ZL ?_; refine EE.inN ?_; refine ZT ?_; refine CC.region ?_
  refine LL.val (R.addIz (z := 2) rfl rfl rfl (by decide) (by decide)) rfl rfl rfl ?_
  refine Zm ?_; refine ZL ?_; refine EE.again ?_
  refine RN.step ?_
  refine Zr ?_; refine ZltT ?_; refine Zq ?_; refine Zc ?_; refine ZY ?_; refine ZK ?_; refine ZT ?_; refine Zc ?_; refine CC.block ?_; refine Zr ?_; refine Zm ?_; refine Zi ?_; refine Zl hr ?_; refine Za ?_; refine Za ?_; refine Zq ?_; refine Zr ?_; refine Zm ?_; refine Zm ?_; refine Zm ?_
  refine LL.val (R.index rfl rfl rfl (I.ixA1c rfl rfl (by first | omega | decide))) rfl rfl rfl ?_
  refine Zk ?_; refine Zm ?_
  refine LL.val (R.convI rfl rfl rfl rfl (wrapU (by omega) (by omega))) rfl rfl rfl ?_
  refine Zy (R.call rfl rfl rfl) (with_c _ _ _ (by first | assumption | omega) (by first | assumption | omega)) ?_
  rintro e W8 ⟨rfl, b7⟩
  refine ⟨_, rfl, ?_⟩; have zb7 := b7.size; replace b4 := Zu b4 b7; replace b1 := Zu b1 b7; replace hr := hr.up b7; replace q := Zu q b7; replace c0 := cell_up c0 b7; replace c1 := cell_up c1 b7; replace c2 := cell_up c2 b7; refine Zm ?_; refine Zx ?_; refine Zx ?_; refine Za ?_; refine Zq ?_; refine CC.region ?_; refine Zm ?_; refine Zm ?_
  refine LL.val (R.index rfl rfl rfl (I.ixA1c rfl rfl (by first | omega | decide))) rfl rfl rfl ?_
  refine Zk ?_
  refine LL.val (R.addIz (z := 56) rfl rfl rfl (by decide) (by decide)) rfl rfl rfl ?_
  refine Za ?_; refine ZL ?_; refine EE.inN ?_; refine ZT ?_; refine CC.region ?_
  refine LL.val (R.addIz (z := 3) rfl rfl rfl (by decide) (by decide)) rfl rfl rfl ?_
  refine Zm ?_; refine ZL ?_; refine EE.again ?_
  refine RN.step ?_
  refine Zr ?_; refine ZltF ?_; refine Zq ?_; refine Zc ?_; refine ZN ?_; refine CC.exit ?_; refine EE.thenX ?_; refine EE.thenX ?_; refine EE.inX ?_; refine ZT ?_; refine Zr ?_; refine Zm ?_; refine Za ?_; refine Zq ?_; refine ZR ?_; refine EE.ret _ rfl rfl ?_
  exact ⟨rfl, q⟩
--C words_Field | {1=0} fld_a _ @w @p | S
theorem fld_a (x : Nat) (w : World) (hx : x < 18446744073709551616) : Calls Tryd.prog 39 #[.int .u64 (x : Int), .int .i64 0, .int .i64 16] w fun e w' => e = .returned (.tuple #[.int .u64 ((x % 65536 : Nat) : Int), .int .i64 0]) ∧ w = w' := by
  have h := field_ok x 0 16 hx (by omega) (by omega) w
  rw [show x / 2 ^ 0 % 2 ^ 16 = x % 65536 by simp] at h
  exact h
theorem fld_b (x : Nat) (w : World) (hx : x < 18446744073709551616) : Calls Tryd.prog 39 #[.int .u64 (x : Int), .int .i64 16, .int .i64 24] w fun e w' => e = .returned (.tuple #[.int .u64 ((x / 65536 % 16777216 : Nat) : Int), .int .i64 0]) ∧ w = w' := by
  have h := field_ok x 16 24 hx (by omega) (by omega) w
  rw [show x / 2 ^ 16 % 2 ^ 24 = x / 65536 % 16777216 by simp] at h
  exact h
theorem fld_c (x : Nat) (w : World) (hx : x < 18446744073709551616) : Calls Tryd.prog 39 #[.int .u64 (x : Int), .int .i64 40, .int .i64 16] w fun e w' => e = .returned (.tuple #[.int .u64 ((x / 1099511627776 % 65536 : Nat) : Int), .int .i64 0]) ∧ w = w' := by
  have h := field_ok x 40 16 hx (by omega) (by omega) w
  rw [show x / 2 ^ 40 % 2 ^ 16 = x / 1099511627776 % 65536 by simp] at h
  exact h
/-- The extent that a word tells. -/
def unpE (x : Nat) : Ex := (((x % 65536 : Nat) : Int), ((x / 65536 % 16777216 : Nat) : Int), ((x / 1099511627776 % 65536 : Nat) : Int))
set_option maxRecDepth 100000 in
set_option maxHeartbeats 8000000 in
theorem unpack_any (x : Nat) (w : World) (hs : Start w) (hx : x < 18446744073709551616) : Calls Tryd.prog 91 #[.int .u64 (x : Int)] w fun e w' => e = .returned (exV (unpE x)) ∧ Below w.heap.size w w' := by
  have q := Below.refl w.heap.size w
  have hG := hs.cells
  obtain ⟨c0, c1, c2, hp⟩ := hs
  refine X.fn Tryd.func91 rfl (n := 36) rfl rfl ?_
  refine Zr ?_
  refine LL.alloc ([.int .i64 0, .int .i64 0, .int .i64 0]) rfl rfl rfl rfl rfl ?_
  intro W2 g3 eg3 r4 z5 b1
  replace q := Zu q b1; replace hG := hG.up b1; replace c0 := cell_up c0 b1; replace c1 := cell_up c1 b1; replace c2 := cell_up c2 b1; refine Zq ?_; refine Zr ?_; have l6 := r4.lt
  refine LL.alloc ([.int .i64 0, .int .i64 0, .int .i64 0]) rfl rfl rfl rfl rfl ?_
  intro W8 g9 eg9 r10 z11 b7
  replace r4 := r4.up b7; replace b1 := Zu b1 b7; replace q := Zu q b7; replace hG := hG.up b7; replace c0 := cell_up c0 b7; replace c1 := cell_up c1 b7; replace c2 := cell_up c2 b7; refine Zq ?_; refine Zr ?_; refine Za ?_; refine Zq ?_; refine Zc ?_; refine Zr ?_
  refine LL.val (R.load rfl rfl (I.ldNc (by assumption) rfl rfl)) rfl rfl rfl ?_
  refine Zm ?_; refine Zq ?_; refine CC.block ?_
  refine CC.loopN 6 ?_
  refine RN.step ?_
  refine Zr ?_; refine ZltT ?_; refine Zq ?_; refine Zc ?_; refine ZY ?_; refine ZK ?_; refine ZT ?_; refine Zc ?_; refine CC.block ?_; refine Zr ?_; refine Zm ?_
  refine LL.val (R.ixVc rfl rfl rfl rfl rfl rfl rfl rfl) rfl rfl rfl ?_
  refine Za ?_; refine Za ?_; refine Zq ?_; refine Zr ?_; refine Zm ?_; refine Zm ?_; refine Zm ?_
  refine Zy (R.call rfl rfl rfl) (fld_a _ _ (by first | assumption | omega)) ?_
  rintro e W' ⟨rfl, rfl⟩
  refine ⟨_, rfl, ?_⟩; refine Zm ?_; refine Zx ?_; refine Zx ?_; refine Za ?_; refine Za ?_; refine Zq ?_; refine Zr ?_; refine Zm ?_; refine Zm ?_
  refine LL.val (R.convI rfl rfl rfl rfl (wrapI (by omega) (by omega))) rfl rfl rfl ?_
  refine LL.val (R.index rfl rfl rfl (I.ixA1c rfl rfl (by first | omega | decide))) rfl rfl rfl ?_
  refine LL.store rfl rfl rfl rfl r10 (by exact Nat.le_of_ble_eq_true rfl) rfl rfl rfl rfl ?_
  intro W13 r14 b12 z15
  have hlb12 := r10.lt
  replace r14 : RowL W13 _ 133 [.int .i64 ↑(x % 65536), .int .i64 0, .int .i64 0] := r14
  clear r10
  replace b7 := Zg b7 b12; replace r4 := Zd r4 b12; replace b1 := Zg b1 b12; replace q := Zg q b12
  replace hG := hG.gr b12 (by omega)
  replace c0 := Ze c0 b12; replace c1 := Ze c1 b12; replace c2 := Ze c2 b12
  have r10 := r14
  clear r14
  refine Zq ?_; refine CC.region ?_; refine Zm ?_; refine Zm ?_
  refine LL.val (R.addIz (z := 16) rfl rfl rfl (by decide) (by decide)) rfl rfl rfl ?_
  refine Za ?_; refine ZL ?_; refine EE.inN ?_; refine ZT ?_; refine CC.region ?_
  refine LL.val (R.addIz (z := 1) rfl rfl rfl (by decide) (by decide)) rfl rfl rfl ?_
  refine Zm ?_; refine ZL ?_; refine EE.again ?_
  refine RN.step ?_
  refine Zr ?_; refine ZltT ?_; refine Zq ?_; refine Zc ?_; refine ZY ?_; refine ZK ?_; refine ZT ?_; refine Zc ?_; refine CC.block ?_; refine Zr ?_; refine Zm ?_
  refine LL.val (R.ixVc rfl rfl rfl rfl rfl rfl rfl rfl) rfl rfl rfl ?_
  refine Za ?_; refine Za ?_; refine Zq ?_; refine Zr ?_; refine Zm ?_; refine Zm ?_; refine Zm ?_
  refine Zy (R.call rfl rfl rfl) (fld_b _ _ (by first | assumption | omega)) ?_
  rintro e W' ⟨rfl, rfl⟩
  refine ⟨_, rfl, ?_⟩; refine Zm ?_; refine Zx ?_; refine Zx ?_; refine Za ?_; refine Za ?_; refine Zq ?_; refine Zr ?_; refine Zm ?_; refine Zm ?_
  refine LL.val (R.convI rfl rfl rfl rfl (wrapI (by omega) (by omega))) rfl rfl rfl ?_
  refine LL.val (R.index rfl rfl rfl (I.ixA1c rfl rfl (by first | omega | decide))) rfl rfl rfl ?_
  refine LL.store rfl rfl rfl rfl r10 (by exact Nat.le_of_ble_eq_true rfl) rfl rfl rfl rfl ?_
  intro W17 r18 b16 z19
  have hlb16 := r10.lt
  replace r18 : RowL W17 _ 133 [.int .i64 ↑(x % 65536), .int .i64 ↑(x / 65536 % 16777216), .int .i64 0] := r18
  clear r10
  replace b7 := Zg b7 b16; replace r4 := Zd r4 b16; replace b1 := Zg b1 b16; replace q := Zg q b16
  replace hG := hG.gr b16 (by omega)
  replace c0 := Ze c0 b16; replace c1 := Ze c1 b16; replace c2 := Ze c2 b16
  have r10 := r18
  clear r18
  refine Zq ?_; refine CC.region ?_; refine Zm ?_; refine Zm ?_
  refine LL.val (R.addIz (z := 40) rfl rfl rfl (by decide) (by decide)) rfl rfl rfl ?_
  refine Za ?_; refine ZL ?_; refine EE.inN ?_; refine ZT ?_; refine CC.region ?_
  refine LL.val (R.addIz (z := 2) rfl rfl rfl (by decide) (by decide)) rfl rfl rfl ?_
  refine Zm ?_; refine ZL ?_; refine EE.again ?_
  refine RN.step ?_
  refine Zr ?_; refine ZltT ?_; refine Zq ?_; refine Zc ?_; refine ZY ?_; refine ZK ?_; refine ZT ?_; refine Zc ?_; refine CC.block ?_; refine Zr ?_; refine Zm ?_
  refine LL.val (R.ixVc rfl rfl rfl rfl rfl rfl rfl rfl) rfl rfl rfl ?_
  refine Za ?_; refine Za ?_; refine Zq ?_; refine Zr ?_; refine Zm ?_; refine Zm ?_; refine Zm ?_
  refine Zy (R.call rfl rfl rfl) (fld_c _ _ (by first | assumption | omega)) ?_
  rintro e W' ⟨rfl, rfl⟩
  refine ⟨_, rfl, ?_⟩; refine Zm ?_; refine Zx ?_; refine Zx ?_; refine Za ?_; refine Za ?_; refine Zq ?_; refine Zr ?_; refine Zm ?_; refine Zm ?_
  refine LL.val (R.convI rfl rfl rfl rfl (wrapI (by omega) (by omega))) rfl rfl rfl ?_
  refine LL.val (R.index rfl rfl rfl (I.ixA1c rfl rfl (by first | omega | decide))) rfl rfl rfl ?_
  refine LL.store rfl rfl rfl rfl r10 (by exact Nat.le_of_ble_eq_true rfl) rfl rfl rfl rfl ?_
  intro W21 r22 b20 z23
  have hlb20 := r10.lt
  replace r22 : RowL W21 _ 133 [.int .i64 ↑(x % 65536), .int .i64 ↑(x / 65536 % 16777216), .int .i64 ↑(x / 1099511627776 % 65536)] := r22
  clear r10
  replace b7 := Zg b7 b20; replace r4 := Zd r4 b20; replace b1 := Zg b1 b20; replace q := Zg q b20
  replace hG := hG.gr b20 (by omega)
  replace c0 := Ze c0 b20; replace c1 := Ze c1 b20; replace c2 := Ze c2 b20
  have r10 := r22
  clear r22
  refine Zq ?_; refine CC.region ?_; refine Zm ?_; refine Zm ?_
  refine LL.val (R.addIz (z := 56) rfl rfl rfl (by decide) (by decide)) rfl rfl rfl ?_
  refine Za ?_; refine ZL ?_; refine EE.inN ?_; refine ZT ?_; refine CC.region ?_
  refine LL.val (R.addIz (z := 3) rfl rfl rfl (by decide) (by decide)) rfl rfl rfl ?_
  refine Zm ?_; refine ZL ?_; refine EE.again ?_
  refine RN.step ?_
  refine Zr ?_; refine ZltF ?_; refine Zq ?_; refine Zc ?_; refine ZN ?_; refine CC.exit ?_; refine EE.thenX ?_; refine EE.thenX ?_; refine EE.inX ?_; refine ZT ?_; refine Zr ?_
  refine LL.val (R.index rfl rfl rfl (I.ixA1c rfl rfl (by first | omega | decide))) rfl rfl rfl ?_
  refine Zl r10 ?_
  refine LL.val (R.index rfl rfl rfl (I.ixA1c rfl rfl (by first | omega | decide))) rfl rfl rfl ?_
  refine Zl r10 ?_
  refine LL.val (R.index rfl rfl rfl (I.ixA1c rfl rfl (by first | omega | decide))) rfl rfl rfl ?_
  refine Zl r10 ?_
  refine LL.val (R.buildV rfl rfl (v := .agg #[Value.int IntKind.i64 ↑(x % 65536), Value.int IntKind.i64 ↑(x / 65536 % 16777216), Value.int IntKind.i64 ↑(x / 1099511627776 % 65536)]) (fun _ => by kernel_rfl)) rfl rfl rfl ?_
  refine LL.storeN (vs := [.int .i64 ↑(x % 65536), .int .i64 ↑(x / 65536 % 16777216), .int .i64 ↑(x / 1099511627776 % 65536)]) rfl rfl rfl rfl r4 (by exact Nat.le_of_ble_eq_true rfl) (ones_of rfl) rfl rfl ?_
  intro W25 r26 b24 z27
  have hlb24 := r4.lt
  replace r26 : RowL W25 _ 98 [.int .i64 ↑(x % 65536), .int .i64 ↑(x / 65536 % 16777216), .int .i64 ↑(x / 1099511627776 % 65536)] := r26
  clear r4
  replace b1 := Zg b1 b24; replace q := Zg q b24
  replace hG := hG.gr b24 (by omega)
  replace c0 := Ze c0 b24; replace c1 := Ze c1 b24; replace c2 := Ze c2 b24; replace r10 := Zd r10 b24
  have r4 := r26
  clear r26
  refine Zq ?_; refine ZR ?_
  refine EE.retC rfl rfl (lvNc (RowL.cells0 (by assumption)) (by rfl) (by rfl)) ?_
  exact ⟨rfl, q⟩
/-- A map's words. -/
def pkZ (x : Ex) : Int := x.1 + x.2.1 * 65536 + x.2.2 * 1099511627776
def wrdZ (l : List Ex) : List Int := l.map pkZ ++ List.replicate (10 - l.length) 0
theorem wrdZ_len {l : List Ex} (h : l.length ≤ 10) : (wrdZ l).length = 10 := by simp [wrdZ]; omega
theorem wrdZ_set {l : List Ex} {i : Nat} {x : Ex} (hl : l.length ≤ 10) (hx : l[i]? = some x) : (wrdZ (l.take i)).set i (pkZ x) = wrdZ (l.take (i + 1)) := by
  have hi := (List.getElem?_eq_some_iff.1 hx).1
  unfold wrdZ
  have e1 : (l.take i).length = i := by simp; omega
  have e2 : (l.take (i + 1)).length = i + 1 := by simp; omega
  rw [e1, e2, List.set_append_right _ _ (by simp; omega), List.length_map, e1, Nat.sub_self, show 10 - i = (10 - (i + 1)) + 1 by omega, List.replicate_succ, List.set_cons_zero, List.take_add_one, hx]
  simp
theorem pkZ_nat {x : Ex} (h : mayE x) : ∃ f d k : Nat, x = ((f : Int), (d : Int), (k : Int)) ∧ f < 65536 ∧ d < 16777216 ∧ k < 65536 := by
  unfold mayE at h
  refine ⟨x.1.toNat, x.2.1.toNat, x.2.2.toNat, ?_, by omega, by omega, by omega⟩
  obtain ⟨a, b, c⟩ := x
  simp only at h
  refine Prod.ext ?_ (Prod.ext ?_ ?_) <;> simp only <;> omega
abbrev wdV (ws : List Int) : Value := .agg (intsZ .u64 ws).toArray
set_option maxRecDepth 100000 in
set_option maxHeartbeats 8000000 in
theorem words_T (l : List Ex) (v : Value) (w : World) (hs : Start w) (hv : ReadsT eE 3 w v l) (h : vL l) : Calls Tryd.prog 81 #[v] w fun e w' => e = .returned (.tuple #[wdV (wrdZ l), .int .i64 0]) ∧ Below w.heap.size w w' := by
  have q := Below.refl w.heap.size w
  have hlen : l.length ≤ 1048576 := by have := h.1; omega
  obtain ⟨N, hN⟩ : ∃ N, l.length = N := ⟨_, rfl⟩
  have hN10 : N ≤ 10 := by have := h.1; omega
  obtain ⟨a, cap, rfl, hcap⟩ := hv.form hN
  have hvF : ∀ W, Below w.heap.size w W → ReadsT eE 3 W (.slice a N cap) l := fun W hb => hv.up hb
  have hp := hs.pos
  have hsF : ∀ W, Below w.heap.size w W → Start W := fun W hb => hs.up hb
  clear hs
  refine X.fn Tryd.func81 rfl (n := 30) rfl rfl ?_
  refine Zr ?_
  refine LL.alloc (intsZ .u64 (List.replicate 10 0)) rfl rfl rfl rfl rfl ?_
  intro W2 g3 eg3 r4 z5 b1
  replace q := Zu q b1; replace hv := hv.up b1; refine Za ?_; refine Zq ?_; refine Zr ?_; have l6 := r4.lt
  refine LL.alloc (intsZ .u64 (List.replicate 10 0)) rfl rfl rfl rfl rfl ?_
  intro W8 g9 eg9 r10 z11 b7
  replace r4 := r4.up b7; replace b1 := Zu b1 b7; replace q := Zu q b7; replace hv := hv.up b7; refine Zq ?_; refine Zc ?_; refine Zr ?_; refine Zm ?_
  refine Zy (R.call rfl rfl rfl) (check_T _ _ _ (by first | assumption | omega) (by first | assumption | omega) (by first | assumption | omega)) ?_
  rintro e W13 ⟨rfl, b12⟩
  refine ⟨_, rfl, ?_⟩; have zb12 := b12.size; replace r10 := r10.up b12; replace b7 := Zu b7 b12; replace r4 := r4.up b12; replace b1 := Zu b1 b12; replace q := Zu q b12; replace hv := hv.up b12; refine ZneF ?_; refine Zq ?_; refine ZN ?_; refine ZK ?_; refine ZT ?_; refine Zc ?_; refine Zr ?_; refine Zm ?_; refine Zn ?_; refine Zm ?_; refine Zq ?_; refine CC.block ?_; have yq := q.size
  have rc : RowL W13 g9 74 (intsZ .u64 (wrdZ (l.take 0))) := r10
  refine CC.loop (α := Nat) (fun i => [(2, .pointer (some ⟨g3, 0, none⟩)), (4, .pointer (some ⟨g9, 0, none⟩)), (11, .slice a N cap), (12, .int .i64 (N : Int)), (13, .int .i64 (i : Int))]) (fun i W => i ≤ N ∧ Below w.heap.size w W ∧ g9 < W.heap.size ∧ RowL W g3 74 (intsZ .u64 (List.replicate 10 0)) ∧ RowL W g9 74 (intsZ .u64 (wrdZ (l.take i)))) (fun i => N - i) 0 ⟨rfl, rfl, rfl, rfl, rfl, trivial⟩ ⟨by omega, q, rc.lt, r4, rc⟩ ?_
  clear q r4 r10 rc hv
  rintro i W ⟨hi, q, l9, r4, r10⟩
  show CC none Tryd.prog _ 30 [] (sl [(2, .pointer (some ⟨g3, 0, none⟩)), (4, .pointer (some ⟨g9, 0, none⟩)), (11, .slice a N cap), (12, .int .i64 (N : Int)), (13, .int .i64 (i : Int))]) _ W
  have yq := q.size
  have hwl : (wrdZ (l.take i)).length = 10 := wrdZ_len (by simp; omega)
  by_cases hlt : i < N
  case neg =>
    obtain rfl : i = N := by omega
    rw [show l.take i = l from List.take_of_length_le (by omega)] at r10 hwl
    refine Zr ?_; refine ZltF ?_; refine Zq ?_; refine Zc ?_; refine ZN ?_; refine CC.exit ?_; refine EE.thenX ?_; refine EE.thenX ?_; refine EE.inX ?_; refine ZT ?_; refine Zr ?_
    refine LL.val (R.loadZ rfl rfl r10 rfl rfl (by first | assumption | exact List.length_replicate | exact plL_len _ | exact plOf_len _ | simp)) rfl rfl rfl ?_
    refine LL.storeAZ rfl rfl rfl rfl (by first | assumption | exact List.length_replicate | exact plL_len _ | exact plOf_len _ | simp) r4 (by first | (rw [List.length_map]; exact (by first | assumption | exact List.length_replicate | exact plL_len _ | exact plOf_len _ | simp)) | simp) rfl rfl ?_
    intro Wa2 ra3 ba1 za4
    have hlba1 := r4.lt
    clear r4
    replace q := Zg q ba1; replace r10 := Zd r10 ba1
    have r4 := ra3
    clear ra3
    refine Za ?_; refine Zq ?_; refine ZR ?_
    refine EE.ret2 rfl ⟨_, rfl, lvZ (by assumption) rfl rfl (by first | assumption | exact List.length_replicate | exact plL_len _ | exact plOf_len _ | simp)⟩ rfl ?_
    exact ⟨rfl, q⟩
  obtain ⟨x, hx⟩ : ∃ x, l[i]? = some x := ⟨_, List.getElem?_eq_getElem (by omega)⟩
  have hmx := h.2.1 x (List.mem_of_getElem? hx)
  obtain ⟨bk, off, rfl, hbk, hcs⟩ := (hvF W q).get eEnc hx
  have hset := wrdZ_set h.1 hx
  obtain ⟨f, d, k, rfl, hf, hd, hk⟩ := pkZ_nat hmx
  have hpk : pkZ ((f : Int), (d : Int), (k : Int)) = ((packN f d k : Nat) : Int) := by unfold pkZ packN; simp only; omega
  rw [hpk] at hset
  have hcs : Cells W ⟨bk, off + i * 3, none⟩ [.int .i64 (f : Int), .int .i64 (d : Int), .int .i64 (k : Int)] := hcs
  have hs := hsF W q
  have hb3 : f < 65536 ∧ d < 16777216 ∧ k < 65536 := ⟨hf, hd, hk⟩
  have hp2 := hs.pos
  refine Zr ?_; refine ZltT ?_; refine Zq ?_; refine Zc ?_; refine ZY ?_; refine ZK ?_; refine ZT ?_; refine Zc ?_; refine CC.block ?_; refine Zr ?_; refine Zm ?_
  refine LL.val (R.index rfl rfl rfl (I.ixS rfl (by omega))) rfl rfl rfl ?_
  refine LL.val (R.load rfl rfl (I.ldNc (by assumption) rfl rfl)) rfl rfl rfl ?_
  have lb1 := r4.lt; have lb2 := r10.lt
  refine LL.alloc ([.int .i64 0, .int .i64 0, .int .i64 0]) rfl rfl rfl rfl rfl ?_
  intro Wb4 gb5 egb5 rb6 zb7 bb3
  replace q := Zu q bb3; replace r4 := r4.up bb3; replace r10 := r10.up bb3; replace hcs := hcs.up bb3; replace hs := hs.up bb3; refine Za ?_
  refine LL.storeN (vs := [.int .i64 ↑f, .int .i64 ↑d, .int .i64 ↑k]) rfl rfl rfl rfl rb6 (by exact Nat.le_of_ble_eq_true rfl) (ones_of rfl) rfl rfl ?_
  intro Wb9 rb10 bb8 zb11
  have hlbb8 := rb6.lt
  replace rb10 : RowL Wb9 _ 98 [.int .i64 ↑f, .int .i64 ↑d, .int .i64 ↑k] := rb10
  clear rb6
  replace bb3 := Zg bb3 bb8; replace q := Zg q bb8; replace r4 := Zd r4 bb8; replace r10 := Zd r10 bb8
  replace hcs := hcs.gr bb8 (by omega)
  replace hs := hs.gr bb8 (by omega)
  have rb6 := rb10
  clear rb10
  refine Zq ?_; refine CC.region ?_; refine Zm ?_; refine Zf ?_; refine Zl rb6 ?_; refine Zf ?_; refine Zl rb6 ?_; refine Zf ?_; refine Zl rb6 ?_; have lb12 := r4.lt; have lb13 := r10.lt; have lb14 := rb6.lt
  refine LL.lit (e := 3) [Value.int IntKind.i64 ↑f, Value.int IntKind.i64 ↑d, Value.int IntKind.i64 ↑k] 3 rfl rfl (fun _ => by kernel_rfl) rfl rfl ?_
  intro Wb16 gb17 egb17 rb18 zb19 bb15
  replace bb3 := Zu bb3 bb15; replace q := Zu q bb15; replace r4 := r4.up bb15; replace r10 := r10.up bb15; replace hcs := hcs.up bb15; replace hs := hs.up bb15; replace rb6 := rb6.up bb15
  refine Zy (R.call rfl rfl rfl) (pack_any _ _ _ _ _ (by first | assumption | omega) (by first | assumption | omega) (by first | assumption | omega)) ?_
  rintro e Wb21 ⟨rfl, bb20⟩
  refine ⟨_, rfl, ?_⟩; have zbb20 := bb20.size; replace rb18 := rb18.up bb20; replace bb15 := Zu bb15 bb20; replace bb3 := Zu bb3 bb20; replace q := Zu q bb20; replace r4 := r4.up bb20; replace r10 := r10.up bb20; replace hcs := hcs.up bb20; replace hs := hs.up bb20; replace rb6 := rb6.up bb20
  refine LL.val (R.index rfl rfl rfl (I.ixA1 rfl (by omega))) rfl rfl rfl ?_
  refine LL.storeZ rfl rfl (Nat.zero_add _) rfl rfl r10 (by first | omega | (simp only [List.length_set, List.length_replicate]; omega) | (rw [plOf_len]; omega)) rfl rfl ?_
  intro Wb24 rb25 bb23 zb26
  have hlbb23 := r10.lt
  clear r10
  replace rb18 := Zd rb18 bb23; replace q := Zg q bb23; replace r4 := Zd r4 bb23
  replace hs := hs.gr bb23 (by omega)
  replace rb6 := Zd rb6 bb23
  have r10 := rb25
  clear rb25
  refine ZL ?_; refine EE.inN ?_; refine ZT ?_; refine CC.region ?_
  refine LL.val (R.addNc rfl rfl rfl rfl (by omega)) rfl rfl rfl ?_
  refine Zm ?_; refine ZL ?_
  exact EE.round (i + 1) ⟨rfl, rfl, rfl, rfl, rfl, trivial⟩ ⟨by omega, q, by omega, r4, by rw [← hset]; exact r10⟩ (by omega)
/-- The extents that words tell. -/
def outZ (ws : List Int) : List Ex := (ws.filter fun z => decide (z ≠ 0)).map fun z => unpE z.toNat
theorem outZ_succ {ws : List Int} {i : Nat} {z : Int} (h : ws[i]? = some z) : outZ (ws.take (i + 1)) = outZ (ws.take i) ++ if z = 0 then [] else [unpE z.toNat] := by
  unfold outZ
  rw [List.take_add_one, h, List.filter_append, List.map_append]
  by_cases hz : z = 0 <;> simp [hz, List.filter]
theorem outZ_len (ws : List Int) : (outZ ws).length ≤ ws.length := by unfold outZ; rw [List.length_map]; exact List.length_filter_le _ _
/-- Words that are a map's. -/
def mapW (ws : List Int) : Prop := vL (outZ ws) ∧ wrdZ (outZ ws) = ws
set_option maxRecDepth 100000 in
set_option maxHeartbeats 8000000 in
theorem slist_any (va vb : Value) (xs ys : List Ex) (w : World) (ha : ReadsT eE 3 w va xs) (hb : ReadsT eE 3 w vb ys) (hlx : xs.length ≤ 1048576) (hly : ys.length ≤ 1048576) :
    Calls Tryd.prog 42 #[va, vb] w fun e w' => e = .returned (.bool (decide (xs = ys))) ∧ Below w.heap.size w w' := by
  have q := Below.refl w.heap.size w
  obtain ⟨N, hN⟩ : ∃ N, xs.length = N := ⟨_, rfl⟩
  obtain ⟨N2, hN2⟩ : ∃ N, ys.length = N := ⟨_, rfl⟩
  obtain ⟨a, cap, rfl, hc⟩ := ha.form hN
  obtain ⟨a2, cap2, rfl, hc2⟩ := hb.form hN2
  rw [hN] at hlx
  rw [hN2] at hly
  have haF : ∀ W, Below w.heap.size w W → ReadsT eE 3 W (.slice a N cap) xs := fun W h => ha.up h
  have hbF : ∀ W, Below w.heap.size w W → ReadsT eE 3 W (.slice a2 N2 cap2) ys := fun W h => hb.up h
  clear ha hb
  by_cases hne : N = N2
  case neg =>
    rw [decide_eq_false (fun e => hne (by rw [← hN, ← hN2, e]))]
    refine X.fn Tryd.func42 rfl (n := 26) rfl rfl ?_
    refine Zr ?_; refine Za ?_; refine Zq ?_; refine Zc ?_; refine Zr ?_; refine Zm ?_; refine Zn ?_; refine Zm ?_; refine Zn ?_; refine ZneT ?_; refine Zq ?_; refine ZY ?_; refine Zr ?_; refine Za ?_; refine Zq ?_; refine ZR ?_; refine EE.thenR ?_; refine EE.ret _ rfl rfl ?_
    exact ⟨rfl, q⟩
  subst hne
  refine X.fn Tryd.func42 rfl (n := 26) rfl rfl ?_
  refine Zr ?_; refine Za ?_; refine Zq ?_; refine Zc ?_; refine Zr ?_; refine Zm ?_; refine Zn ?_; refine Zm ?_; refine Zn ?_; refine ZneF ?_; refine Zq ?_; refine ZN ?_; refine ZK ?_; refine ZT ?_; refine Zc ?_; refine Zr ?_; refine Za ?_; refine Zq ?_; refine CC.block ?_
  refine CC.loop (α := Nat) (fun i => [(0, .slice a N cap), (1, .slice a2 N cap2), (5, .int .i64 (i : Int))]) (fun i W => i ≤ N ∧ Below w.heap.size w W ∧ xs.take i = ys.take i) (fun i => N - i) 0 ⟨rfl, rfl, rfl, trivial⟩ ⟨by omega, q, by simp⟩ ?_
  clear q
  rintro i W ⟨hi, q, ht⟩
  show CC none Tryd.prog _ 26 [] (sl [(0, .slice a N cap), (1, .slice a2 N cap2), (5, .int .i64 (i : Int))]) _ W
  have yq := q.size
  by_cases hlt : i < N
  case neg =>
    obtain rfl : i = N := by omega
    rw [List.take_of_length_le (by omega), List.take_of_length_le (by omega)] at ht
    rw [decide_eq_true ht]
    refine Zc ?_; refine Zr ?_; refine Zm ?_; refine Zm ?_; refine Zn ?_; refine ZltF ?_; refine Zq ?_; refine ZN ?_; refine CC.exit ?_; refine EE.thenX ?_; refine EE.thenX ?_; refine EE.inX ?_; refine ZT ?_; refine Zr ?_; refine Za ?_; refine Zq ?_; refine ZR ?_; refine EE.ret _ rfl rfl ?_
    exact ⟨rfl, q⟩
  obtain ⟨x, hx⟩ : ∃ x, xs[i]? = some x := ⟨_, List.getElem?_eq_getElem (by omega)⟩
  obtain ⟨y, hy⟩ : ∃ y, ys[i]? = some y := ⟨_, List.getElem?_eq_getElem (by omega)⟩
  obtain ⟨bk, off, rfl, hbk, hcs⟩ := (haF W q).get eEnc hx
  obtain ⟨bk2, off2, rfl, hbk2, hcs2⟩ := (hbF W q).get eEnc hy
  have hcs : Cells W ⟨bk, off + i * 3, none⟩ [.int .i64 x.1, .int .i64 x.2.1, .int .i64 x.2.2] := hcs
  have hcs2 : Cells W ⟨bk2, off2 + i * 3, none⟩ [.int .i64 y.1, .int .i64 y.2.1, .int .i64 y.2.2] := hcs2
  by_cases he : x.1 = y.1 ∧ x.2.1 = y.2.1 ∧ x.2.2 = y.2.2
  · have hxy : x = y := Prod.ext he.1 (Prod.ext he.2.1 he.2.2)
    have ht' : xs.take (i + 1) = ys.take (i + 1) := by rw [List.take_add_one, List.take_add_one, ht, hx, hy, hxy]
    refine Zc ?_; refine Zr ?_; refine Zm ?_; refine Zm ?_; refine Zn ?_; refine ZltT ?_; refine Zq ?_; refine ZY ?_; refine ZK ?_; refine ZT ?_; refine Zc ?_; refine CC.block ?_; refine Zc ?_
    refine CC.quietB (by kernel_rfl) (by kernel_rfl) (fun Wc2 bc1 zc3 => ?_)
    replace q := Zu q bc1; replace hcs := hcs.up bc1; replace hcs2 := hcs2.up bc1
    refine SS.val (R.move rfl rfl) rfl rfl ?_
    refine SS.val (R.move rfl rfl) rfl rfl ?_
    refine SS.val (R.index rfl rfl rfl (I.ixS rfl (by omega))) rfl rfl ?_
    refine SS.val (R.load rfl rfl (I.ldNc (by assumption) rfl rfl)) rfl rfl ?_
    refine SS.val (R.move rfl rfl) rfl rfl ?_
    refine SS.val (R.move rfl rfl) rfl rfl ?_
    refine SS.val (R.index rfl rfl rfl (I.ixS rfl (by omega))) rfl rfl ?_
    refine SS.val (R.load rfl rfl (I.ldNc (by assumption) rfl rfl)) rfl rfl ?_
    refine SS.val (R.neST (p := (x.1 : Int) = y.1 ∧ (x.2.1 : Int) = y.2.1 ∧ (x.2.2 : Int) = y.2.2) (bs := [decide ((x.1 : Int) = y.1), decide ((x.2.1 : Int) = y.2.1), decide ((x.2.2 : Int) = y.2.2)]) rfl rfl rfl rfl (by kernel_rfl) (by kernel_rfl) (by simp) (by first | assumption | omega | exact ⟨rfl, rfl⟩ | exact fun h => h ⟨rfl, rfl⟩)) rfl rfl ?_
    refine SS.nilQ ?_
    refine ZT ?_; refine ZN ?_; refine ZK ?_; refine EE.inN ?_; refine ZT ?_; refine CC.region ?_; refine Zm ?_
    refine LL.val (R.addNc rfl rfl rfl rfl (by omega)) rfl rfl rfl ?_
    refine Za ?_; refine ZL ?_
    exact EE.round (i + 1) ⟨rfl, rfl, rfl, trivial⟩ ⟨by omega, q, ht'⟩ (by omega)
  · rw [decide_eq_false (fun e => he (by rw [e, hy] at hx; cases hx; exact ⟨rfl, rfl, rfl⟩))]
    refine Zc ?_; refine Zr ?_; refine Zm ?_; refine Zm ?_; refine Zn ?_; refine ZltT ?_; refine Zq ?_; refine ZY ?_; refine ZK ?_; refine ZT ?_; refine Zc ?_; refine CC.block ?_; refine Zc ?_
    refine CC.quietB (by kernel_rfl) (by kernel_rfl) (fun Wd2 bd1 zd3 => ?_)
    replace q := Zu q bd1; replace hcs := hcs.up bd1; replace hcs2 := hcs2.up bd1
    refine SS.val (R.move rfl rfl) rfl rfl ?_
    refine SS.val (R.move rfl rfl) rfl rfl ?_
    refine SS.val (R.index rfl rfl rfl (I.ixS rfl (by omega))) rfl rfl ?_
    refine SS.val (R.load rfl rfl (I.ldNc (by assumption) rfl rfl)) rfl rfl ?_
    refine SS.val (R.move rfl rfl) rfl rfl ?_
    refine SS.val (R.move rfl rfl) rfl rfl ?_
    refine SS.val (R.index rfl rfl rfl (I.ixS rfl (by omega))) rfl rfl ?_
    refine SS.val (R.load rfl rfl (I.ldNc (by assumption) rfl rfl)) rfl rfl ?_
    refine SS.val (R.neSF (p := (x.1 : Int) = y.1 ∧ (x.2.1 : Int) = y.2.1 ∧ (x.2.2 : Int) = y.2.2) (bs := [decide ((x.1 : Int) = y.1), decide ((x.2.1 : Int) = y.2.1), decide ((x.2.2 : Int) = y.2.2)]) rfl rfl rfl rfl (by kernel_rfl) (by kernel_rfl) (by simp) (by first | assumption | omega | exact ⟨rfl, rfl⟩ | exact fun h => h ⟨rfl, rfl⟩)) rfl rfl ?_
    refine SS.nilQ ?_
    refine ZT ?_; refine ZY ?_; refine Zr ?_; refine Za ?_; refine Zq ?_; refine ZR ?_; refine EE.inR ?_; refine EE.thenR ?_; refine EE.thenR ?_; refine EE.inR ?_; refine EE.thenR ?_; refine EE.ret _ rfl rfl ?_
    exact ⟨rfl, q⟩
set_option maxRecDepth 100000 in
set_option maxHeartbeats 8000000 in
theorem right_any (x : Ex) (w : World) : Calls Tryd.prog 52 #[exV x] w fun e w' => e = .returned (.bool (decide (mayE x))) ∧ Below w.heap.size w w' := by
  have q := Below.refl w.heap.size w
  by_cases h1 : 0 ≤ x.1
  case neg =>
    rw [decide_eq_false (by unfold mayE; omega)]
    refine X.fn Tryd.func52 rfl (n := 42) rfl rfl ?_
    refine Zr ?_
    refine LL.box [.int .i64 x.1, .int .i64 x.2.1, .int .i64 x.2.2] rfl rfl rfl rfl rfl ?_
    intro W2 g3 eg3 r4 z5 b1
    replace q := Zu q b1; refine Za ?_; refine Zq ?_; refine Zr ?_; refine Zf ?_; refine Zl r4 ?_; refine ZgeF ?_; refine Zm ?_; refine Zs ?_; refine Zs ?_; refine Zs ?_; refine Zp ?_; refine Zm ?_; refine Zs ?_; refine Zs ?_; refine Zs ?_; refine Zp ?_; refine Zm ?_; refine Zs ?_; refine Zs ?_; refine Zs ?_; refine Zs ?_; refine Zs ?_; refine Zs ?_; refine Zp ?_; refine Zm ?_; refine Zs ?_; refine Zs ?_
    refine Zs ?_; refine Zp ?_; refine Zm ?_; refine Zs ?_; refine Zs ?_; refine Zs ?_; refine Zp ?_; refine Zm ?_; refine Zs ?_; refine Zs ?_; refine Zs ?_; refine Zs ?_; refine Zs ?_; refine Zs ?_; refine Zp ?_; refine Za ?_; refine Zq ?_; refine ZR ?_; refine EE.ret _ rfl rfl ?_
    exact ⟨rfl, q⟩
  by_cases h2 : x.1 < 128
  case neg =>
    rw [decide_eq_false (by unfold mayE; omega)]
    refine X.fn Tryd.func52 rfl (n := 42) rfl rfl ?_
    refine Zr ?_
    refine LL.box [.int .i64 x.1, .int .i64 x.2.1, .int .i64 x.2.2] rfl rfl rfl rfl rfl ?_
    intro Wa2 ga3 ega3 ra4 za5 ba1
    replace q := Zu q ba1; refine Za ?_; refine Zq ?_; refine Zr ?_; refine Zf ?_; refine Zl ra4 ?_; refine ZgeT ?_; refine Zm ?_; refine Zf ?_; refine Zl ra4 ?_; refine ZltF ?_; refine Zp ?_; refine Zm ?_; refine Zs ?_; refine Zs ?_; refine Zs ?_; refine Zp ?_; refine Zm ?_; refine Zs ?_; refine Zs ?_; refine Zs ?_; refine Zs ?_; refine Zs ?_; refine Zs ?_; refine Zp ?_; refine Zm ?_; refine Zs ?_
    refine Zs ?_; refine Zs ?_; refine Zp ?_; refine Zm ?_; refine Zs ?_; refine Zs ?_; refine Zs ?_; refine Zp ?_; refine Zm ?_; refine Zs ?_; refine Zs ?_; refine Zs ?_; refine Zs ?_; refine Zs ?_; refine Zs ?_; refine Zp ?_; refine Za ?_; refine Zq ?_; refine ZR ?_; refine EE.ret _ rfl rfl ?_
    exact ⟨rfl, q⟩
  by_cases h3 : 1 ≤ x.2.2
  case neg =>
    rw [decide_eq_false (by unfold mayE; omega)]
    refine X.fn Tryd.func52 rfl (n := 42) rfl rfl ?_
    refine Zr ?_
    refine LL.box [.int .i64 x.1, .int .i64 x.2.1, .int .i64 x.2.2] rfl rfl rfl rfl rfl ?_
    intro Wb2 gb3 egb3 rb4 zb5 bb1
    replace q := Zu q bb1; refine Za ?_; refine Zq ?_; refine Zr ?_; refine Zf ?_; refine Zl rb4 ?_; refine ZgeT ?_; refine Zm ?_; refine Zf ?_; refine Zl rb4 ?_; refine ZltT ?_; refine Zp ?_; refine Zm ?_; refine Zf ?_; refine Zl rb4 ?_; refine ZgeF ?_; refine Zp ?_; refine Zm ?_; refine Zs ?_; refine Zs ?_; refine Zs ?_; refine Zs ?_; refine Zs ?_; refine Zs ?_; refine Zp ?_; refine Zm ?_; refine Zs ?_
    refine Zs ?_; refine Zs ?_; refine Zp ?_; refine Zm ?_; refine Zs ?_; refine Zs ?_; refine Zs ?_; refine Zp ?_; refine Zm ?_; refine Zs ?_; refine Zs ?_; refine Zs ?_; refine Zs ?_; refine Zs ?_; refine Zs ?_; refine Zp ?_; refine Za ?_; refine Zq ?_; refine ZR ?_; refine EE.ret _ rfl rfl ?_
    exact ⟨rfl, q⟩
  by_cases h4 : x.2.2 ≤ 128 - x.1
  case neg =>
    rw [decide_eq_false (by unfold mayE; omega)]
    refine X.fn Tryd.func52 rfl (n := 42) rfl rfl ?_
    refine Zr ?_
    refine LL.box [.int .i64 x.1, .int .i64 x.2.1, .int .i64 x.2.2] rfl rfl rfl rfl rfl ?_
    intro Wc2 gc3 egc3 rc4 zc5 bc1
    replace q := Zu q bc1; refine Za ?_; refine Zq ?_; refine Zr ?_; refine Zf ?_; refine Zl rc4 ?_; refine ZgeT ?_; refine Zm ?_; refine Zf ?_; refine Zl rc4 ?_; refine ZltT ?_; refine Zp ?_; refine Zm ?_; refine Zf ?_; refine Zl rc4 ?_; refine ZgeT ?_; refine Zp ?_; refine Zm ?_; refine Zf ?_; refine Zl rc4 ?_; refine Zf ?_; refine Zl rc4 ?_
    refine LL.val (R.subI rfl rfl rfl (by omega)) rfl rfl rfl ?_
    refine ZleF ?_; refine Zp ?_; refine Zm ?_; refine Zs ?_; refine Zs ?_; refine Zs ?_; refine Zp ?_; refine Zm ?_; refine Zs ?_; refine Zs ?_; refine Zs ?_; refine Zp ?_; refine Zm ?_; refine Zs ?_; refine Zs ?_; refine Zs ?_; refine Zs ?_; refine Zs ?_; refine Zs ?_; refine Zp ?_; refine Za ?_; refine Zq ?_; refine ZR ?_; refine EE.ret _ rfl rfl ?_
    exact ⟨rfl, q⟩
  by_cases h5 : 1 ≤ x.2.1
  case neg =>
    rw [decide_eq_false (by unfold mayE; omega)]
    refine X.fn Tryd.func52 rfl (n := 42) rfl rfl ?_
    refine Zr ?_
    refine LL.box [.int .i64 x.1, .int .i64 x.2.1, .int .i64 x.2.2] rfl rfl rfl rfl rfl ?_
    intro Wd2 gd3 egd3 rd4 zd5 bd1
    replace q := Zu q bd1; refine Za ?_; refine Zq ?_; refine Zr ?_; refine Zf ?_; refine Zl rd4 ?_; refine ZgeT ?_; refine Zm ?_; refine Zf ?_; refine Zl rd4 ?_; refine ZltT ?_; refine Zp ?_; refine Zm ?_; refine Zf ?_; refine Zl rd4 ?_; refine ZgeT ?_; refine Zp ?_; refine Zm ?_; refine Zf ?_; refine Zl rd4 ?_; refine Zf ?_; refine Zl rd4 ?_
    refine LL.val (R.subI rfl rfl rfl (by omega)) rfl rfl rfl ?_
    refine ZleT ?_; refine Zp ?_; refine Zm ?_; refine Zf ?_; refine Zl rd4 ?_; refine ZgeF ?_; refine Zp ?_; refine Zm ?_; refine Zs ?_; refine Zs ?_; refine Zs ?_; refine Zp ?_; refine Zm ?_; refine Zs ?_; refine Zs ?_; refine Zs ?_; refine Zs ?_; refine Zs ?_; refine Zs ?_; refine Zp ?_; refine Za ?_; refine Zq ?_; refine ZR ?_; refine EE.ret _ rfl rfl ?_
    exact ⟨rfl, q⟩
  by_cases h6 : x.2.1 < 2048
  case neg =>
    rw [decide_eq_false (by unfold mayE; omega)]
    refine X.fn Tryd.func52 rfl (n := 42) rfl rfl ?_
    refine Zr ?_
    refine LL.box [.int .i64 x.1, .int .i64 x.2.1, .int .i64 x.2.2] rfl rfl rfl rfl rfl ?_
    intro We2 ge3 ege3 re4 ze5 be1
    replace q := Zu q be1; refine Za ?_; refine Zq ?_; refine Zr ?_; refine Zf ?_; refine Zl re4 ?_; refine ZgeT ?_; refine Zm ?_; refine Zf ?_; refine Zl re4 ?_; refine ZltT ?_; refine Zp ?_; refine Zm ?_; refine Zf ?_; refine Zl re4 ?_; refine ZgeT ?_; refine Zp ?_; refine Zm ?_; refine Zf ?_; refine Zl re4 ?_; refine Zf ?_; refine Zl re4 ?_
    refine LL.val (R.subI rfl rfl rfl (by omega)) rfl rfl rfl ?_
    refine ZleT ?_; refine Zp ?_; refine Zm ?_; refine Zf ?_; refine Zl re4 ?_; refine ZgeT ?_; refine Zp ?_; refine Zm ?_; refine Zf ?_; refine Zl re4 ?_; refine ZltF ?_; refine Zp ?_; refine Zm ?_; refine Zs ?_; refine Zs ?_; refine Zs ?_; refine Zs ?_; refine Zs ?_; refine Zs ?_; refine Zp ?_; refine Za ?_; refine Zq ?_; refine ZR ?_; refine EE.ret _ rfl rfl ?_
    exact ⟨rfl, q⟩
  by_cases h7 : x.2.2 ≤ 2048 - x.2.1
  · rw [decide_eq_true (by unfold mayE; omega)]
    refine X.fn Tryd.func52 rfl (n := 42) rfl rfl ?_
    refine Zr ?_
    refine LL.box [.int .i64 x.1, .int .i64 x.2.1, .int .i64 x.2.2] rfl rfl rfl rfl rfl ?_
    intro Wf2 gf3 egf3 rf4 zf5 bf1
    replace q := Zu q bf1; refine Za ?_; refine Zq ?_; refine Zr ?_; refine Zf ?_; refine Zl rf4 ?_; refine ZgeT ?_; refine Zm ?_; refine Zf ?_; refine Zl rf4 ?_; refine ZltT ?_; refine Zp ?_; refine Zm ?_; refine Zf ?_; refine Zl rf4 ?_; refine ZgeT ?_; refine Zp ?_; refine Zm ?_; refine Zf ?_; refine Zl rf4 ?_; refine Zf ?_; refine Zl rf4 ?_
    refine LL.val (R.subI rfl rfl rfl (by omega)) rfl rfl rfl ?_
    refine ZleT ?_; refine Zp ?_; refine Zm ?_; refine Zf ?_; refine Zl rf4 ?_; refine ZgeT ?_; refine Zp ?_; refine Zm ?_; refine Zf ?_; refine Zl rf4 ?_; refine ZltT ?_; refine Zp ?_; refine Zm ?_; refine Zf ?_; refine Zl rf4 ?_; refine Zf ?_; refine Zl rf4 ?_
    refine LL.val (R.subI rfl rfl rfl (by omega)) rfl rfl rfl ?_
    refine ZleT ?_; refine Zp ?_; refine Za ?_; refine Zq ?_; refine ZR ?_; refine EE.ret _ rfl rfl ?_
    exact ⟨rfl, q⟩
  · rw [decide_eq_false (by unfold mayE; omega)]
    refine X.fn Tryd.func52 rfl (n := 42) rfl rfl ?_
    refine Zr ?_
    refine LL.box [.int .i64 x.1, .int .i64 x.2.1, .int .i64 x.2.2] rfl rfl rfl rfl rfl ?_
    intro Wg2 gg3 egg3 rg4 zg5 bg1
    replace q := Zu q bg1; refine Za ?_; refine Zq ?_; refine Zr ?_; refine Zf ?_; refine Zl rg4 ?_; refine ZgeT ?_; refine Zm ?_; refine Zf ?_; refine Zl rg4 ?_; refine ZltT ?_; refine Zp ?_; refine Zm ?_; refine Zf ?_; refine Zl rg4 ?_; refine ZgeT ?_; refine Zp ?_; refine Zm ?_; refine Zf ?_; refine Zl rg4 ?_; refine Zf ?_; refine Zl rg4 ?_
    refine LL.val (R.subI rfl rfl rfl (by omega)) rfl rfl rfl ?_
    refine ZleT ?_; refine Zp ?_; refine Zm ?_; refine Zf ?_; refine Zl rg4 ?_; refine ZgeT ?_; refine Zp ?_; refine Zm ?_; refine Zf ?_; refine Zl rg4 ?_; refine ZltT ?_; refine Zp ?_; refine Zm ?_; refine Zf ?_; refine Zl rg4 ?_; refine Zf ?_; refine Zl rg4 ?_
    refine LL.val (R.subI rfl rfl rfl (by omega)) rfl rfl rfl ?_
    refine ZleF ?_; refine Zp ?_; refine Za ?_; refine Zq ?_; refine ZR ?_; refine EE.ret _ rfl rfl ?_
    exact ⟨rfl, q⟩
/-- Do places have a block of the device? -/
def hasP (p : List Int) (d : Int) : Prop := ∃ i : Nat, p[i]? = some d
set_option maxRecDepth 100000 in
set_option maxHeartbeats 8000000 in
theorem has_any (p : List Int) (d : Int) (w : World) (hp : p.length = 128) : Calls Tryd.prog 53 #[plV p, .int .i64 d] w fun e w' => (∃ b : Bool, e = .returned (.bool b) ∧ (b = true ↔ hasP p d)) ∧ Below w.heap.size w w' := by
  have q := Below.refl w.heap.size w
  refine X.fn Tryd.func53 rfl (n := 15) rfl rfl ?_
  refine Zr ?_; refine LL.box _ rfl rfl rfl rfl rfl ?_
  intro W2 g3 eg3 r4 z5 b1
  replace q := Zu q b1; refine Za ?_; refine Zq ?_; refine Zc ?_; refine Zr ?_; refine Za ?_; refine Zq ?_; refine CC.block ?_
  refine CC.loop (α := Nat) (fun i => [(1, .int .i64 d), (2, .pointer (some ⟨g3, 0, none⟩)), (5, .int .i64 (i : Int))]) (fun i W => i ≤ 128 ∧ Below w.heap.size w W ∧ RowL W g3 80 (intsZ .i64 p) ∧ ∀ j, j < i → p[j]? ≠ some d) (fun i => 128 - i) 0 ⟨rfl, rfl, rfl, trivial⟩ ⟨by omega, q, r4, fun j h => by omega⟩ ?_
  clear q r4
  rintro i W ⟨hi, q, r4, ht⟩
  show CC none Tryd.prog _ 15 [] (sl [(1, .int .i64 d), (2, .pointer (some ⟨g3, 0, none⟩)), (5, .int .i64 (i : Int))]) _ W
  by_cases hlt : i < 128
  case neg =>
    have hno : ¬hasP p d := fun ⟨j, hj⟩ => ht j (by have := (List.getElem?_eq_some_iff.1 hj).1; omega) hj
    refine Zc ?_; refine Zr ?_; refine Zm ?_; refine ZltF ?_; refine Zq ?_; refine ZN ?_; refine CC.exit ?_; refine EE.thenX ?_; refine EE.thenX ?_; refine EE.inX ?_; refine ZT ?_; refine Zr ?_; refine Za ?_; refine Zq ?_; refine ZR ?_; refine EE.ret _ rfl rfl ?_
    exact ⟨⟨false, rfl, by simp [hno]⟩, q⟩
  obtain ⟨z, hz⟩ : ∃ z, p[i]? = some z := ⟨_, List.getElem?_eq_getElem (by omega)⟩
  have c1 : W.cell? ⟨g3, 0 + i, none⟩ = some (.int .i64 z) := RowL.cell r4 (by rw [show 0 + i = i by omega]; simp [hz])
  by_cases hd : z = d
  · have hyes : hasP p d := ⟨i, by rw [hz, hd]⟩
    refine Zc ?_; refine Zr ?_; refine Zm ?_; refine ZltT ?_; refine Zq ?_; refine ZY ?_; refine ZK ?_; refine ZT ?_; refine Zc ?_; refine CC.block ?_; refine Zr ?_; refine Zm ?_
    refine LL.val (R.index rfl rfl rfl (I.ixA1 rfl (by omega))) rfl rfl rfl ?_
    refine Zk ?_; refine Zm ?_; refine ZeqT ?_; refine Zq ?_; refine ZY ?_; refine Zr ?_; refine Za ?_; refine Zq ?_; refine ZR ?_; refine EE.inR ?_; refine EE.thenR ?_; refine EE.thenR ?_; refine EE.inR ?_; refine EE.thenR ?_; refine EE.ret _ rfl rfl ?_
    exact ⟨⟨true, rfl, by simp [hyes]⟩, q⟩
  · have ht' : ∀ j, j < i + 1 → p[j]? ≠ some d := fun j hj hx => by
      by_cases e : j = i
      · subst e; rw [hz] at hx; exact hd (Option.some.inj hx)
      · exact ht j (by omega) hx
    refine Zc ?_; refine Zr ?_; refine Zm ?_; refine ZltT ?_; refine Zq ?_; refine ZY ?_; refine ZK ?_; refine ZT ?_; refine Zc ?_; refine CC.block ?_; refine Zr ?_; refine Zm ?_
    refine LL.val (R.index rfl rfl rfl (I.ixA1 rfl (by omega))) rfl rfl rfl ?_
    refine Zk ?_; refine Zm ?_; refine ZeqF ?_; refine Zq ?_; refine ZN ?_; refine ZK ?_; refine EE.inN ?_; refine ZT ?_; refine CC.region ?_; refine Zm ?_
    refine LL.val (R.addNc rfl rfl rfl rfl (by omega)) rfl rfl rfl ?_
    refine Za ?_; refine ZL ?_
    exact EE.round (i + 1) ⟨rfl, rfl, rfl, trivial⟩ ⟨by omega, q, r4, ht'⟩ (by omega)
--C ref06_Map_has | has_T _ _ @w @p @p | ⟨rfl, @b⟩
theorem has_T (p : List Int) (d : Int) (w : World) (hp : p.length = 128) (h : hasP p d) : Calls Tryd.prog 53 #[plV p, .int .i64 d] w fun e w' => e = .returned (.bool true) ∧ Below w.heap.size w w' :=
  (has_any p d w hp).mono fun e w' ⟨⟨b, he, hb⟩, hw⟩ => ⟨by rw [he, hb.2 h], hw⟩
theorem has_F (p : List Int) (d : Int) (w : World) (hp : p.length = 128) (h : ¬hasP p d) : Calls Tryd.prog 53 #[plV p, .int .i64 d] w fun e w' => e = .returned (.bool false) ∧ Below w.heap.size w w' :=
  (has_any p d w hp).mono fun e w' ⟨⟨b, he, hb⟩, hw⟩ => ⟨by rw [he]; cases b; rfl; exact absurd (hb.1 rfl) h, hw⟩
set_option maxRecDepth 100000 in
set_option maxHeartbeats 16000000 in
theorem rlist_any (p : List Int) (w : World) (hp : smP p) : Calls Tryd.prog 54 #[plV p] w fun e w' => ∃ v, e = .returned v ∧ OwnsT eE 3 w' w.heap.size 98 v (gat (nz p)) ∧ Below w.heap.size w w' := by
  have q := Below.refl w.heap.size w
  have hpl := hp.1
  refine X.fn Tryd.func54 rfl (n := 68) rfl rfl ?_
  refine Zr ?_; refine LL.box _ rfl rfl rfl rfl rfl ?_
  intro W2 g3 eg3 r4 z5 b1
  replace q := Zu q b1; refine Za ?_; refine Zq ?_; refine Zr ?_; refine Za ?_; refine Zq ?_; refine Zc ?_; refine Zr ?_; refine Za ?_; refine Zq ?_; refine CC.block ?_; have yw := q.size
  obtain ⟨B, hB⟩ : ∃ B, W2.heap.size = B := ⟨_, rfl⟩
  have l3 := r4.lt
  rw [hB] at yw l3
  refine CC.loop (α := Nat × Value) (fun s => [(1, .pointer (some ⟨g3, 0, none⟩)), (3, s.2), (4, .int .i64 (s.1 : Int))]) (fun s W => s.1 ≤ 128 ∧ Below w.heap.size w W ∧ B ≤ W.heap.size ∧ RowL W g3 80 (intsZ .i64 p) ∧ OwnsT eE 3 W B 98 s.2 (gat (nzF p s.1))) (fun s => 128 - s.1) (0, .slice none 0 0) ⟨rfl, rfl, rfl, trivial⟩ ⟨by show 0 ≤ 128; omega, q, by omega, r4, OwnsT.none _ _ _⟩ ?_
  clear q r4
  rintro ⟨i, v⟩ W ⟨hi, q, yB, r4, o⟩
  simp only at hi o
  show CC none Tryd.prog _ 68 [] (sl [(1, .pointer (some ⟨g3, 0, none⟩)), (3, v), (4, .int .i64 (i : Int))]) _ W
  by_cases hlt : i < 128
  case neg =>
    obtain rfl : i = 128 := by omega
    refine Zc ?_; refine Zr ?_; refine Zm ?_; refine ZltF ?_; refine Zq ?_; refine ZN ?_; refine CC.exit ?_; refine EE.thenX ?_; refine EE.thenX ?_; refine EE.inX ?_; refine ZT ?_; refine Zr ?_; refine Zm ?_; refine Za ?_; refine Zq ?_; refine ZR ?_; refine EE.ret _ rfl rfl ?_
    exact ⟨_, rfl, o.lower yw, q⟩
  obtain ⟨z, hz⟩ : ∃ z, p[i]? = some z := ⟨_, List.getElem?_eq_getElem (by omega)⟩
  have hzb := hp.2 i z hz
  have c9 : W.cell? ⟨g3, 0 + i, none⟩ = some (.int .i64 z) := RowL.cell r4 (by rw [show 0 + i = i by omega]; simp [hz])
  have hs := nzF_succ p i
  rw [hz] at hs
  simp only [Option.getD_some] at hs
  have hln : (gat (nzF p i)).length ≤ i := by have := gat_len (nzF p i); have := nzF_len p i; omega
  have hlit := gat_lit (nzF_lit hp i (by omega)) (nzF_len p i) (by omega)
  by_cases h0 : z = 0
  · rw [if_pos h0, List.append_nil] at hs
    refine Zc ?_; refine Zr ?_; refine Zm ?_; refine ZltT ?_; refine Zq ?_; refine ZY ?_; refine ZK ?_; refine ZT ?_; refine Zc ?_; refine CC.block ?_; refine Zc ?_; refine Zr ?_; refine Zm ?_
    refine LL.val (R.index rfl rfl rfl (I.ixA1 rfl (by omega))) rfl rfl rfl ?_
    refine Zk ?_; refine ZeqT ?_; refine Zq ?_; refine ZY ?_; refine CC.exit ?_; refine EE.thenX ?_; refine EE.inX ?_; refine ZT ?_; refine CC.region ?_; refine Zm ?_
    refine LL.val (R.addNc rfl rfl rfl rfl (by omega)) rfl rfl rfl ?_
    refine Za ?_; refine ZL ?_
    exact EE.round (i + 1, v) ⟨rfl, rfl, rfl, trivial⟩ ⟨by show i + 1 ≤ 128; omega, q, yB, r4, by show OwnsT eE 3 _ _ _ v (gat (nzF p (i + 1))); rw [hs]; exact o⟩ (by show 128 - (i + 1) < 128 - i; omega)
  rw [if_neg h0] at hs
  have hg : gat (nzF p (i + 1)) = joinE (gat (nzF p i)) ((i : Int), z) := by rw [hs, gat_snoc]
  generalize gat (nzF p i) = G at *
  rcases snoc_cases G with rfl | ⟨l', a, rfl⟩
  · obtain ⟨av, cap, rfl, hcap⟩ := (o.reads eEnc).form (n := 0) rfl
    refine Zc ?_; refine Zr ?_; refine Zm ?_; refine ZltT ?_; refine Zq ?_; refine ZY ?_; refine ZK ?_; refine ZT ?_; refine Zc ?_; refine CC.block ?_; refine Zc ?_; refine Zr ?_; refine Zm ?_
    refine LL.val (R.index rfl rfl rfl (I.ixA1 rfl (by omega))) rfl rfl rfl ?_
    refine Zk ?_; refine ZeqF ?_; refine Zq ?_; refine ZN ?_; refine ZK ?_; refine ZT ?_; refine Zc ?_; refine Zr ?_; refine Zm ?_; refine Zn ?_
    refine LL.val (R.subIz (z := -1) rfl rfl rfl (by decide) (by decide)) rfl rfl rfl ?_
    refine Za ?_; refine Zq ?_; refine Zc ?_
    refine CC.quietB (by kernel_rfl) (by kernel_rfl) (fun Wc2 bc1 zc3 => ?_)
    replace q := Zu q bc1; replace r4 := r4.up bc1; replace c9 := cell_up c9 bc1; replace o := o.up bc1
    refine SS.val (R.move rfl rfl) rfl rfl ?_
    refine SS.val (R.geF rfl rfl rfl (by omega)) rfl rfl ?_
    refine SS.val (R.move rfl rfl) rfl rfl ?_
    refine SS.skip rfl rfl ?_
    refine SS.skip rfl rfl ?_
    refine SS.skip rfl rfl ?_
    refine SS.skip rfl rfl ?_
    refine SS.skip rfl rfl ?_
    refine SS.skip rfl rfl ?_
    refine SS.skip rfl rfl ?_
    refine SS.skip rfl rfl ?_
    refine SS.skip rfl rfl ?_
    refine SS.skip rfl rfl ?_
    refine SS.skip rfl rfl ?_
    refine SS.skip rfl rfl ?_
    refine SS.skip rfl rfl ?_
    refine SS.val (R.pick rfl rfl rfl) rfl rfl ?_
    refine SS.val (R.move rfl rfl) rfl rfl ?_
    refine SS.skip rfl rfl ?_
    refine SS.skip rfl rfl ?_
    refine SS.skip rfl rfl ?_
    refine SS.skip rfl rfl ?_
    refine SS.skip rfl rfl ?_
    refine SS.skip rfl rfl ?_
    refine SS.skip rfl rfl ?_
    refine SS.skip rfl rfl ?_
    refine SS.skip rfl rfl ?_
    refine SS.skip rfl rfl ?_
    refine SS.skip rfl rfl ?_
    refine SS.skip rfl rfl ?_
    refine SS.skip rfl rfl ?_
    refine SS.skip rfl rfl ?_
    refine SS.skip rfl rfl ?_
    refine SS.val (R.pick rfl rfl rfl) rfl rfl ?_
    refine SS.nilQ ?_
    refine ZT ?_; refine ZN ?_; refine ZK ?_; refine ZT ?_; refine CC.region ?_; refine Zm ?_; refine Zm ?_; refine Zm ?_
    refine LL.val (R.index rfl rfl rfl (I.ixA1 rfl (by omega))) rfl rfl rfl ?_
    refine Zk ?_
    refine LL.val (R.buildV rfl rfl (v := .agg #[Value.int IntKind.i64 ↑i, Value.int IntKind.i64 z, Value.int IntKind.i64 1]) (fun _ => by kernel_rfl)) rfl rfl rfl ?_
    have lc4 := r4.lt
    refine LL.lit (e := 98) [Value.int IntKind.i64 ↑i, Value.int IntKind.i64 z, Value.int IntKind.i64 1] 1 rfl rfl (fun _ => by kernel_rfl) rfl rfl ?_
    intro Wc6 gc7 egc7 rc8 zc9 bc5
    replace bc1 := Zu bc1 bc5; replace q := Zu q bc5; replace r4 := r4.up bc5; replace c9 := cell_up c9 bc5; replace o := o.up bc5; have yq := q.size
    refine LL.appendT2 rfl rfl eEnc ElEx o (RowL.readsT (ts := [((i : Int), z, 1)]) eEnc (by assumption) 1 (by simp)) (by first | (simp [maxLen]; omega) | simp [maxLen]) (by first | (simp; omega) | simp) (by omega) rfl rfl ?_
    intro v' Wa oa gra hva
    replace q := q.grown gra (by omega) (fun g hg => by have := own_ge o g hg; omega)
    replace r4 := r4.grO gra (own_ne o l3)
    have hsz := gra.size; refine Za ?_; refine ZL ?_; refine EE.inN ?_; refine ZT ?_; refine CC.region ?_; refine Zm ?_
    refine LL.val (R.addNc rfl rfl rfl rfl (by omega)) rfl rfl rfl ?_
    refine Za ?_; refine ZL ?_
    exact EE.round (i + 1, v') ⟨rfl, rfl, rfl, trivial⟩ ⟨by show i + 1 ≤ 128; omega, q, by omega, r4, by show OwnsT eE 3 _ _ _ v' (gat (nzF p (i + 1))); rw [hg]; exact oa⟩ (by show 128 - (i + 1) < 128 - i; omega)
  · rw [joinE_snoc] at hg
    have hal := hlit a (by simp)
    obtain ⟨N, hN⟩ : ∃ N, l'.length = N := ⟨_, rfl⟩
    have hN1 : (l' ++ [a]).length = N + 1 := by simp [hN]
    rw [hN1] at hln
    obtain ⟨g, cap, rfl, hbg, hgl, hnc⟩ := ownsT_form o hN1 (by omega)
    have ha : (l' ++ [a])[N]? = some a := by rw [← hN]; simp
    obtain ⟨_, _, e1, _, hcs⟩ := (o.reads eEnc).get eEnc (i := N) (t := a) ha
    cases e1
    have c1 := hcs.at (j := 0) rfl
    have c2 := hcs.at (j := 1) rfl
    have c3 := hcs.at (j := 2) rfl
    clear hcs hlit
    by_cases hm : mergeE a ((i : Int), z)
    · rw [if_pos hm] at hg
      obtain ⟨hm1, hm2⟩ := hm
      simp only at hm1 hm2
      refine Zc ?_; refine Zr ?_; refine Zm ?_; refine ZltT ?_; refine Zq ?_; refine ZY ?_; refine ZK ?_; refine ZT ?_; refine Zc ?_; refine CC.block ?_; refine Zc ?_; refine Zr ?_; refine Zm ?_
      refine LL.val (R.index rfl rfl rfl (I.ixA1 rfl (by omega))) rfl rfl rfl ?_
      refine Zk ?_; refine ZeqF ?_; refine Zq ?_; refine ZN ?_; refine ZK ?_; refine ZT ?_; refine Zc ?_; refine Zr ?_; refine Zm ?_; refine Zn ?_
      refine LL.val (R.subNc rfl rfl rfl rfl (by omega) (by omega)) rfl rfl rfl ?_
      refine Za ?_; refine Zq ?_; refine Zc ?_
      refine CC.quietB (by kernel_rfl) (by kernel_rfl) (fun We2 be1 ze3 => ?_)
      replace q := Zu q be1; replace r4 := r4.up be1; replace c9 := cell_up c9 be1; replace o := o.up be1; replace c1 := cell_up c1 be1; replace c2 := cell_up c2 be1; replace c3 := cell_up c3 be1
      refine SS.val (R.move rfl rfl) rfl rfl ?_
      refine SS.val (R.geT rfl rfl rfl (by omega)) rfl rfl ?_
      refine SS.val (R.move rfl rfl) rfl rfl ?_
      refine SS.val (R.move rfl rfl) rfl rfl ?_
      refine SS.val (R.move rfl rfl) rfl rfl ?_
      refine SS.val (R.index rfl rfl rfl (I.ixS rfl (by omega))) rfl rfl ?_
      refine SS.val (R.field rfl rfl (I.fld rfl)) rfl rfl ?_
      refine SS.val (R.load rfl rfl (I.ld1 rfl (by assumption))) rfl rfl ?_
      refine SS.val (R.move rfl rfl) rfl rfl ?_
      refine SS.val (R.move rfl rfl) rfl rfl ?_
      refine SS.val (R.index rfl rfl rfl (I.ixS rfl (by omega))) rfl rfl ?_
      refine SS.val (R.field rfl rfl (I.fld rfl)) rfl rfl ?_
      refine SS.val (R.load rfl rfl (I.ld1 rfl (by assumption))) rfl rfl ?_
      refine SS.val (R.addI rfl rfl rfl (by omega)) rfl rfl ?_
      refine SS.val (R.move rfl rfl) rfl rfl ?_
      refine SS.val (R.eqT rfl rfl rfl (by omega)) rfl rfl ?_
      refine SS.val (R.pick rfl rfl rfl) rfl rfl ?_
      refine SS.val (R.move rfl rfl) rfl rfl ?_
      refine SS.val (R.move rfl rfl) rfl rfl ?_
      refine SS.val (R.move rfl rfl) rfl rfl ?_
      refine SS.val (R.index rfl rfl rfl (I.ixS rfl (by omega))) rfl rfl ?_
      refine SS.val (R.field rfl rfl (I.fld rfl)) rfl rfl ?_
      refine SS.val (R.load rfl rfl (I.ld1 rfl (by assumption))) rfl rfl ?_
      refine SS.val (R.move rfl rfl) rfl rfl ?_
      refine SS.val (R.move rfl rfl) rfl rfl ?_
      refine SS.val (R.index rfl rfl rfl (I.ixS rfl (by omega))) rfl rfl ?_
      refine SS.val (R.field rfl rfl (I.fld rfl)) rfl rfl ?_
      refine SS.val (R.load rfl rfl (I.ld1 rfl (by assumption))) rfl rfl ?_
      refine SS.val (R.addI rfl rfl rfl (by omega)) rfl rfl ?_
      refine SS.val (R.move rfl rfl) rfl rfl ?_
      refine SS.val (R.index rfl rfl rfl (I.ixA1 rfl (by omega))) rfl rfl ?_
      refine SS.val (R.load rfl rfl (I.ld1 rfl (by assumption))) rfl rfl ?_
      refine SS.val (R.eqT rfl rfl rfl (by omega)) rfl rfl ?_
      refine SS.val (R.pick rfl rfl rfl) rfl rfl ?_
      refine SS.nilQ ?_
      refine ZT ?_; refine ZY ?_; refine Zr ?_; refine Zm ?_; refine Zm ?_
      refine LL.val (R.index rfl rfl rfl (I.ixS rfl (by omega))) rfl rfl rfl ?_
      refine Zf ?_; refine Zk ?_
      refine LL.val (R.addI rfl rfl rfl (by omega)) rfl rfl rfl ?_
      refine LL.val (R.index rfl rfl rfl (I.ixS rfl (by omega))) rfl rfl rfl ?_
      refine Zf ?_
      refine LL.storeF N 2 a (a.1, a.2.1, a.2.2 + 1) rfl rfl rfl rfl (by show 0 + (N + 1 - 1) * 3 + 2 = N * 3 + 2; omega) eEnc o ha (by omega) rfl rfl rfl rfl rfl ?_
      intro W5 oa gra hsz
      rw [show (l' ++ [a]).set N (a.1, a.2.1, a.2.2 + 1) = l' ++ [(a.1, a.2.1, a.2.2 + 1)] by rw [List.set_append_right _ _ (by omega), hN]; simp] at oa
      replace q := Zg q gra
      replace r4 := r4.gr gra (by omega)
      refine Zq ?_; refine CC.exit ?_; refine EE.thenX ?_; refine EE.inX ?_; refine ZT ?_; refine CC.region ?_; refine Zm ?_
      refine LL.val (R.addNc rfl rfl rfl rfl (by omega)) rfl rfl rfl ?_
      refine Za ?_; refine ZL ?_
      exact EE.round (i + 1, _) ⟨rfl, rfl, rfl, trivial⟩ ⟨by show i + 1 ≤ 128; omega, q, by omega, r4, by show OwnsT eE 3 _ _ _ _ (gat (nzF p (i + 1))); rw [hg]; exact oa⟩ (by show 128 - (i + 1) < 128 - i; omega)
    · rw [if_neg hm] at hg
      by_cases hm1 : a.1 + a.2.2 = (i : Int)
      · have hm2 : a.2.1 + a.2.2 ≠ z := fun e => hm ⟨hm1, e⟩
        refine Zc ?_; refine Zr ?_; refine Zm ?_; refine ZltT ?_; refine Zq ?_; refine ZY ?_; refine ZK ?_; refine ZT ?_; refine Zc ?_; refine CC.block ?_; refine Zc ?_; refine Zr ?_; refine Zm ?_
        refine LL.val (R.index rfl rfl rfl (I.ixA1 rfl (by omega))) rfl rfl rfl ?_
        refine Zk ?_; refine ZeqF ?_; refine Zq ?_; refine ZN ?_; refine ZK ?_; refine ZT ?_; refine Zc ?_; refine Zr ?_; refine Zm ?_; refine Zn ?_
        refine LL.val (R.subNc rfl rfl rfl rfl (by omega) (by omega)) rfl rfl rfl ?_
        refine Za ?_; refine Zq ?_; refine Zc ?_
        refine CC.quietB (by kernel_rfl) (by kernel_rfl) (fun Wg2 bg1 zg3 => ?_)
        replace q := Zu q bg1; replace r4 := r4.up bg1; replace c9 := cell_up c9 bg1; replace o := o.up bg1; replace c1 := cell_up c1 bg1; replace c2 := cell_up c2 bg1; replace c3 := cell_up c3 bg1
        refine SS.val (R.move rfl rfl) rfl rfl ?_
        refine SS.val (R.geT rfl rfl rfl (by omega)) rfl rfl ?_
        refine SS.val (R.move rfl rfl) rfl rfl ?_
        refine SS.val (R.move rfl rfl) rfl rfl ?_
        refine SS.val (R.move rfl rfl) rfl rfl ?_
        refine SS.val (R.index rfl rfl rfl (I.ixS rfl (by omega))) rfl rfl ?_
        refine SS.val (R.field rfl rfl (I.fld rfl)) rfl rfl ?_
        refine SS.val (R.load rfl rfl (I.ld1 rfl (by assumption))) rfl rfl ?_
        refine SS.val (R.move rfl rfl) rfl rfl ?_
        refine SS.val (R.move rfl rfl) rfl rfl ?_
        refine SS.val (R.index rfl rfl rfl (I.ixS rfl (by omega))) rfl rfl ?_
        refine SS.val (R.field rfl rfl (I.fld rfl)) rfl rfl ?_
        refine SS.val (R.load rfl rfl (I.ld1 rfl (by assumption))) rfl rfl ?_
        refine SS.val (R.addI rfl rfl rfl (by omega)) rfl rfl ?_
        refine SS.val (R.move rfl rfl) rfl rfl ?_
        refine SS.val (R.eqT rfl rfl rfl (by omega)) rfl rfl ?_
        refine SS.val (R.pick rfl rfl rfl) rfl rfl ?_
        refine SS.val (R.move rfl rfl) rfl rfl ?_
        refine SS.val (R.move rfl rfl) rfl rfl ?_
        refine SS.val (R.move rfl rfl) rfl rfl ?_
        refine SS.val (R.index rfl rfl rfl (I.ixS rfl (by omega))) rfl rfl ?_
        refine SS.val (R.field rfl rfl (I.fld rfl)) rfl rfl ?_
        refine SS.val (R.load rfl rfl (I.ld1 rfl (by assumption))) rfl rfl ?_
        refine SS.val (R.move rfl rfl) rfl rfl ?_
        refine SS.val (R.move rfl rfl) rfl rfl ?_
        refine SS.val (R.index rfl rfl rfl (I.ixS rfl (by omega))) rfl rfl ?_
        refine SS.val (R.field rfl rfl (I.fld rfl)) rfl rfl ?_
        refine SS.val (R.load rfl rfl (I.ld1 rfl (by assumption))) rfl rfl ?_
        refine SS.val (R.addI rfl rfl rfl (by omega)) rfl rfl ?_
        refine SS.val (R.move rfl rfl) rfl rfl ?_
        refine SS.val (R.index rfl rfl rfl (I.ixA1 rfl (by omega))) rfl rfl ?_
        refine SS.val (R.load rfl rfl (I.ld1 rfl (by assumption))) rfl rfl ?_
        refine SS.val (R.eqF rfl rfl rfl (by omega)) rfl rfl ?_
        refine SS.val (R.pick rfl rfl rfl) rfl rfl ?_
        refine SS.nilQ ?_
        refine ZT ?_; refine ZN ?_; refine ZK ?_; refine ZT ?_; refine CC.region ?_; refine Zm ?_; refine Zm ?_; refine Zm ?_
        refine LL.val (R.index rfl rfl rfl (I.ixA1 rfl (by omega))) rfl rfl rfl ?_
        refine Zk ?_
        refine LL.val (R.buildV rfl rfl (v := .agg #[Value.int IntKind.i64 ↑i, Value.int IntKind.i64 z, Value.int IntKind.i64 1]) (fun _ => by kernel_rfl)) rfl rfl rfl ?_
        have lg4 := r4.lt
        refine LL.lit (e := 98) [Value.int IntKind.i64 ↑i, Value.int IntKind.i64 z, Value.int IntKind.i64 1] 1 rfl rfl (fun _ => by kernel_rfl) rfl rfl ?_
        intro Wg6 gg7 egg7 rg8 zg9 bg5
        replace bg1 := Zu bg1 bg5; replace q := Zu q bg5; replace r4 := r4.up bg5; replace c9 := cell_up c9 bg5; replace o := o.up bg5; replace c1 := cell_up c1 bg5; replace c2 := cell_up c2 bg5; replace c3 := cell_up c3 bg5; have yq := q.size
        refine LL.appendT2 rfl rfl eEnc ElEx o (RowL.readsT (ts := [((i : Int), z, 1)]) eEnc (by assumption) 1 (by simp)) (by first | (simp [maxLen]; omega) | simp [maxLen]) (by first | (simp; omega) | simp) (by omega) rfl rfl ?_
        intro v' Wa oa gra hva
        replace q := q.grown gra (by omega) (fun g hg => by have := own_ge o g hg; omega)
        replace r4 := r4.grO gra (own_ne o l3)
        have hsz := gra.size; refine Za ?_; refine ZL ?_; refine EE.inN ?_; refine ZT ?_; refine CC.region ?_; refine Zm ?_
        refine LL.val (R.addNc rfl rfl rfl rfl (by omega)) rfl rfl rfl ?_
        refine Za ?_; refine ZL ?_
        exact EE.round (i + 1, v') ⟨rfl, rfl, rfl, trivial⟩ ⟨by show i + 1 ≤ 128; omega, q, by omega, r4, by show OwnsT eE 3 _ _ _ v' (gat (nzF p (i + 1))); rw [hg]; exact oa⟩ (by show 128 - (i + 1) < 128 - i; omega)
      · refine Zc ?_; refine Zr ?_; refine Zm ?_; refine ZltT ?_; refine Zq ?_; refine ZY ?_; refine ZK ?_; refine ZT ?_; refine Zc ?_; refine CC.block ?_; refine Zc ?_; refine Zr ?_; refine Zm ?_
        refine LL.val (R.index rfl rfl rfl (I.ixA1 rfl (by omega))) rfl rfl rfl ?_
        refine Zk ?_; refine ZeqF ?_; refine Zq ?_; refine ZN ?_; refine ZK ?_; refine ZT ?_; refine Zc ?_; refine Zr ?_; refine Zm ?_; refine Zn ?_
        refine LL.val (R.subNc rfl rfl rfl rfl (by omega) (by omega)) rfl rfl rfl ?_
        refine Za ?_; refine Zq ?_; refine Zc ?_
        refine CC.quietB (by kernel_rfl) (by kernel_rfl) (fun Wi2 bi1 zi3 => ?_)
        replace q := Zu q bi1; replace r4 := r4.up bi1; replace c9 := cell_up c9 bi1; replace o := o.up bi1; replace c1 := cell_up c1 bi1; replace c2 := cell_up c2 bi1; replace c3 := cell_up c3 bi1
        refine SS.val (R.move rfl rfl) rfl rfl ?_
        refine SS.val (R.geT rfl rfl rfl (by omega)) rfl rfl ?_
        refine SS.val (R.move rfl rfl) rfl rfl ?_
        refine SS.val (R.move rfl rfl) rfl rfl ?_
        refine SS.val (R.move rfl rfl) rfl rfl ?_
        refine SS.val (R.index rfl rfl rfl (I.ixS rfl (by omega))) rfl rfl ?_
        refine SS.val (R.field rfl rfl (I.fld rfl)) rfl rfl ?_
        refine SS.val (R.load rfl rfl (I.ld1 rfl (by assumption))) rfl rfl ?_
        refine SS.val (R.move rfl rfl) rfl rfl ?_
        refine SS.val (R.move rfl rfl) rfl rfl ?_
        refine SS.val (R.index rfl rfl rfl (I.ixS rfl (by omega))) rfl rfl ?_
        refine SS.val (R.field rfl rfl (I.fld rfl)) rfl rfl ?_
        refine SS.val (R.load rfl rfl (I.ld1 rfl (by assumption))) rfl rfl ?_
        refine SS.val (R.addI rfl rfl rfl (by omega)) rfl rfl ?_
        refine SS.val (R.move rfl rfl) rfl rfl ?_
        refine SS.val (R.eqF rfl rfl rfl (by omega)) rfl rfl ?_
        refine SS.val (R.pick rfl rfl rfl) rfl rfl ?_
        refine SS.val (R.move rfl rfl) rfl rfl ?_
        refine SS.skip rfl rfl ?_
        refine SS.skip rfl rfl ?_
        refine SS.skip rfl rfl ?_
        refine SS.skip rfl rfl ?_
        refine SS.skip rfl rfl ?_
        refine SS.skip rfl rfl ?_
        refine SS.skip rfl rfl ?_
        refine SS.skip rfl rfl ?_
        refine SS.skip rfl rfl ?_
        refine SS.skip rfl rfl ?_
        refine SS.skip rfl rfl ?_
        refine SS.skip rfl rfl ?_
        refine SS.skip rfl rfl ?_
        refine SS.skip rfl rfl ?_
        refine SS.skip rfl rfl ?_
        refine SS.val (R.pick rfl rfl rfl) rfl rfl ?_
        refine SS.nilQ ?_
        refine ZT ?_; refine ZN ?_; refine ZK ?_; refine ZT ?_; refine CC.region ?_; refine Zm ?_; refine Zm ?_; refine Zm ?_
        refine LL.val (R.index rfl rfl rfl (I.ixA1 rfl (by omega))) rfl rfl rfl ?_
        refine Zk ?_
        refine LL.val (R.buildV rfl rfl (v := .agg #[Value.int IntKind.i64 ↑i, Value.int IntKind.i64 z, Value.int IntKind.i64 1]) (fun _ => by kernel_rfl)) rfl rfl rfl ?_
        have li4 := r4.lt
        refine LL.lit (e := 98) [Value.int IntKind.i64 ↑i, Value.int IntKind.i64 z, Value.int IntKind.i64 1] 1 rfl rfl (fun _ => by kernel_rfl) rfl rfl ?_
        intro Wi6 gi7 egi7 ri8 zi9 bi5
        replace bi1 := Zu bi1 bi5; replace q := Zu q bi5; replace r4 := r4.up bi5; replace c9 := cell_up c9 bi5; replace o := o.up bi5; replace c1 := cell_up c1 bi5; replace c2 := cell_up c2 bi5; replace c3 := cell_up c3 bi5; have yq := q.size
        refine LL.appendT2 rfl rfl eEnc ElEx o (RowL.readsT (ts := [((i : Int), z, 1)]) eEnc (by assumption) 1 (by simp)) (by first | (simp [maxLen]; omega) | simp [maxLen]) (by first | (simp; omega) | simp) (by omega) rfl rfl ?_
        intro v' Wa oa gra hva
        replace q := q.grown gra (by omega) (fun g hg => by have := own_ge o g hg; omega)
        replace r4 := r4.grO gra (own_ne o l3)
        have hsz := gra.size; refine Za ?_; refine ZL ?_; refine EE.inN ?_; refine ZT ?_; refine CC.region ?_; refine Zm ?_
        refine LL.val (R.addNc rfl rfl rfl rfl (by omega)) rfl rfl rfl ?_
        refine Za ?_; refine ZL ?_
        exact EE.round (i + 1, v') ⟨rfl, rfl, rfl, trivial⟩ ⟨by show i + 1 ≤ 128; omega, q, by omega, r4, by show OwnsT eE 3 _ _ _ v' (gat (nzF p (i + 1))); rw [hg]; exact oa⟩ (by show 128 - (i + 1) < 128 - i; omega)
/-- No two blocks share a number. -/
abbrev dsB (s : List Bl) : Prop := s.Pairwise fun a b => a.1 ≠ b.1 ∧ a.2 ≠ b.2
theorem plF_inD : ∀ {s : List Bl} {p : List Int} {b : Bl}, dsB s → (∀ c ∈ s, 0 ≤ c.1 ∧ c.1 < p.length) → b ∈ s → (plF p s)[b.1.toNat]? = some b.2
  | c :: s, p, b, hu, h0, hb => by
    rw [dsB, List.pairwise_cons] at hu
    show (plF (setB p c) s)[b.1.toNat]? = _
    have hc := h0 c (by simp)
    have hl : (setB p c).length = p.length := by simp [setB]
    by_cases hbs : b ∈ s
    · exact plF_inD hu.2 (fun d hd => by rw [hl]; exact h0 d (by simp [hd])) hbs
    · obtain rfl : b = c := by
        rcases List.mem_cons.1 hb with h | h
        · exact h
        · exact absurd h hbs
      rw [plF_out (fun d hd => (h0 d (by simp [hd])).1) (fun d hd => by have := (hu.1 d hd).1; omega)]
      unfold setB
      rw [List.getElem?_set_self (by omega)]
theorem pl_in {s : List Bl} (hd : dsB s) (hi : inB s) {b : Bl} (hb : b ∈ s) : (plOf s)[b.1.toNat]? = some b.2 :=
  plF_inD hd (fun c hc => by have := hi c hc; simp only [List.length_replicate]; omega) hb
theorem pl_mem {s : List Bl} (hd : dsB s) (hi : inB s) {i : Nat} {z : Int} (h : (plOf s)[i]? = some z) (h0 : z ≠ 0) : ((i : Int), z) ∈ s := by
  by_cases hex : ∃ c ∈ s, c.1 = (i : Int)
  · obtain ⟨c, hc, e⟩ := hex
    have := pl_in hd hi hc
    rw [show c.1.toNat = i by omega, h] at this
    have e2 := Option.some.inj this
    have : ((i : Int), z) = c := Prod.ext e.symm e2
    rw [this]
    exact hc
  · exfalso
    unfold plOf at h
    rw [plF_out (fun c hc => (hi c hc).1) (fun c hc e => hex ⟨c, hc, e⟩), List.getElem?_replicate] at h
    split at h
    · exact h0 (Option.some.inj h).symm
    · cases h
theorem mem_nz_pl {s : List Bl} (hd : dsB s) (hi : inB s) {b : Bl} : b ∈ nz (plOf s) ↔ b ∈ s := by
  rw [nz_mem (plOf_len s)]
  constructor
  · rintro ⟨i, h1, h2, h3⟩
    have := pl_mem hd hi h1 h2
    rwa [← h3] at this
  · intro hb
    have := hi b hb
    exact ⟨b.1.toNat, pl_in hd hi hb, by omega, by omega⟩
theorem ds_inj {s : List Bl} (hd : dsB s) {b c : Bl} (hb : b ∈ s) (hc : c ∈ s) (e : b.2 = c.2) : b = c := by
  obtain ⟨i, hi, rfl⟩ := List.mem_iff_getElem.1 hb
  obtain ⟨j, hj, rfl⟩ := List.mem_iff_getElem.1 hc
  have hp := List.pairwise_iff_getElem.1 hd
  rcases Nat.lt_trichotomy i j with h | rfl | h
  · exact absurd e (hp i j hi hj h).2
  · rfl
  · exact absurd e.symm (hp j i hj hi h).2
theorem pl_small {s : List Bl} (hd : dsB s) (hi : inB s) : smP (plOf s) := ⟨plOf_len s, fun i z hz => by
  by_cases h0 : z = 0
  · omega
  · have := hi _ (pl_mem hd hi hz h0)
    simp only at this
    omega⟩
theorem ds_vL {l : List Ex} (hm : ∀ x ∈ l, mayE x) (hd : dsB (blS l)) (hl : l.length ≤ 10) : gat (nz (plL l)) = l ↔ vL l := by
  constructor
  · intro e
    have hi := blS_in hm
    have := vL_gat (s := nz (plL l)) (nzF_up _ _) (fun b hb => hi b ((mem_nz_pl hd hi).1 hb)) (fun b hb c hc e => by
      have := ds_inj hd ((mem_nz_pl hd hi).1 hb) ((mem_nz_pl hd hi).1 hc) e
      rw [this]) (by rw [e]; exact hl)
    rwa [e] at this
  · exact vL_back
theorem ds_snoc {s : List Bl} {b : Bl} (hd : dsB s) (hi : inB s) (hb : 0 ≤ b.1) (h1 : (plOf s)[b.1.toNat]? = some 0) (h2 : ¬hasP (plOf s) b.2) : dsB (s ++ [b]) := by
  refine List.pairwise_append.2 ⟨hd, by simp, fun c hc d hd' => ?_⟩
  obtain rfl := List.mem_singleton.1 hd'
  have hp := pl_in hd hi hc
  refine ⟨fun e => ?_, fun e => h2 ⟨c.1.toNat, by rw [hp, e]⟩⟩
  rw [e, h1] at hp
  have := hi c hc
  have := Option.some.inj hp
  omega
/-- A block that comes again is in no map's list. -/
theorem no_vL {l : List Ex} {i k : Nat} {x : Ex} (hx : l[i]? = some x) (hk : (k : Int) < x.2.2) {c : Bl} (hc : c ∈ blS (l.take i) ++ (blE x).take k) (he : c.1 = x.1 + (k : Int) ∨ c.2 = x.2.1 + (k : Int)) : ¬vL l := fun hv => by
  have hpre := blS_pre hx (k + 1)
  rw [blE_take hk, ← List.append_assoc] at hpre
  obtain ⟨t, ht⟩ := hpre
  have hu := vL_up hv
  have hj := vL_inj hv
  rw [← ht] at hu hj
  have h1 := (List.pairwise_append.1 (List.pairwise_append.1 hu).1).2.2 c hc (x.1 + (k : Int), x.2.1 + (k : Int)) (by simp)
  simp only at h1
  rcases he with he | he
  · omega
  · have := hj c (List.mem_append_left _ (List.mem_append_left _ hc)) (x.1 + (k : Int), x.2.1 + (k : Int)) (by simp) he
    simp only at this
    omega
theorem rlist_r (p : List Int) (w : World) (hp : smP p) : Calls Tryd.prog 54 #[plV p] w fun e w' => ∃ v, e = .returned v ∧ ReadsT eE 3 w' v (gat (nz p)) ∧ Below w.heap.size w w' :=
  (rlist_any p w hp).mono fun e w' ⟨v, he, o, b⟩ => ⟨v, he, o.reads eEnc, b⟩
set_option maxRecDepth 100000 in
set_option maxHeartbeats 16000000 in
theorem rof_any (l : List Ex) (v : Value) (w : World) (hv : ReadsT eE 3 w v l) (hlen : l.length ≤ 1048576) : Calls Tryd.prog 35 #[v] w fun e w' => (∃ (ms : List Int) (b : Bool), e = .returned (.tuple #[plV ms, .bool b]) ∧ (b = true ↔ vL l) ∧ (vL l → ms = plL l) ∧ ms.length = 128) ∧ Below w.heap.size w w' := by
  have q := Below.refl w.heap.size w
  obtain ⟨N, hN⟩ : ∃ N, l.length = N := ⟨_, rfl⟩
  obtain ⟨a, cap, rfl, hcap⟩ := hv.form hN
  have hvF : ∀ W, Below w.heap.size w W → ReadsT eE 3 W (.slice a N cap) l := fun W hb => hv.up hb
  clear hv
  rw [hN] at hlen
  by_cases h10 : 10 < N
  · have hno : ¬vL l := fun h => by have := h.1; omega
    refine X.fn Tryd.func35 rfl (n := 75) rfl rfl ?_
    refine Zr ?_
    refine LL.alloc (intsZ .i64 (List.replicate 128 0)) rfl rfl rfl rfl rfl ?_
    intro W2 g3 eg3 r4 z5 b1
    replace q := Zu q b1; refine Za ?_; refine Zq ?_; refine Zr ?_; have l6 := r4.lt
    refine LL.alloc (intsZ .i64 (List.replicate 128 0)) rfl rfl rfl rfl rfl ?_
    intro W8 g9 eg9 r10 z11 b7
    replace r4 := r4.up b7; replace b1 := Zu b1 b7; replace q := Zu q b7; refine Zq ?_; refine Zc ?_; refine Zr ?_; refine Zm ?_; refine Zn ?_; refine ZgtT ?_; refine Zq ?_; refine ZY ?_; refine Zr ?_
    refine LL.val (R.loadZ rfl rfl r10 rfl rfl (by first | assumption | exact List.length_replicate | exact plL_len _ | exact plOf_len _ | simp)) rfl rfl rfl ?_
    refine LL.storeAZ rfl rfl rfl rfl (by first | assumption | exact List.length_replicate | exact plL_len _ | exact plOf_len _ | simp) r4 (by first | (rw [List.length_map]; exact (by first | assumption | exact List.length_replicate | exact plL_len _ | exact plOf_len _ | simp)) | simp) rfl rfl ?_
    intro W13 r14 b12 z15
    have hlb12 := r4.lt
    replace r14 : RowL W13 _ 80 [(fun z => Value.int IntKind.i64 z) 0, (fun z => Value.int IntKind.i64 z) 0, (fun z => Value.int IntKind.i64 z) 0, (fun z => Value.int IntKind.i64 z) 0, (fun z => Value.int IntKind.i64 z) 0, (fun z => Value.int IntKind.i64 z) 0, (fun z => Value.int IntKind.i64 z) 0, (fun z => Value.int IntKind.i64 z) 0, (fun z => Value.int IntKind.i64 z) 0, (fun z => Value.int IntKind.i64 z) 0, (fun z => Value.int IntKind.i64 z) 0, (fun z => Value.int IntKind.i64 z) 0, (fun z => Value.int IntKind.i64 z) 0, (fun z => Value.int IntKind.i64 z) 0, (fun z => Value.int IntKind.i64 z) 0, (fun z => Value.int IntKind.i64 z) 0, (fun z => Value.int IntKind.i64 z) 0, (fun z => Value.int IntKind.i64 z) 0, (fun z => Value.int IntKind.i64 z) 0, (fun z => Value.int IntKind.i64 z) 0, (fun z => Value.int IntKind.i64 z) 0, (fun z => Value.int IntKind.i64 z) 0, (fun z => Value.int IntKind.i64 z) 0, (fun z => Value.int IntKind.i64 z) 0, (fun z => Value.int IntKind.i64 z) 0, (fun z => Value.int IntKind.i64 z) 0, (fun z => Value.int IntKind.i64 z) 0, (fun z => Value.int IntKind.i64 z) 0, (fun z => Value.int IntKind.i64 z) 0, (fun z => Value.int IntKind.i64 z) 0, (fun z => Value.int IntKind.i64 z) 0, (fun z => Value.int IntKind.i64 z) 0, (fun z => Value.int IntKind.i64 z) 0, (fun z => Value.int IntKind.i64 z) 0, (fun z => Value.int IntKind.i64 z) 0, (fun z => Value.int IntKind.i64 z) 0, (fun z => Value.int IntKind.i64 z) 0, (fun z => Value.int IntKind.i64 z) 0, (fun z => Value.int IntKind.i64 z) 0, (fun z => Value.int IntKind.i64 z) 0, (fun z => Value.int IntKind.i64 z) 0, (fun z => Value.int IntKind.i64 z) 0, (fun z => Value.int IntKind.i64 z) 0, (fun z => Value.int IntKind.i64 z) 0, (fun z => Value.int IntKind.i64 z) 0, (fun z => Value.int IntKind.i64 z) 0, (fun z => Value.int IntKind.i64 z) 0, (fun z => Value.int IntKind.i64 z) 0, (fun z => Value.int IntKind.i64 z) 0, (fun z => Value.int IntKind.i64 z) 0, (fun z => Value.int IntKind.i64 z) 0, (fun z => Value.int IntKind.i64 z) 0, (fun z => Value.int IntKind.i64 z) 0, (fun z => Value.int IntKind.i64 z) 0, (fun z => Value.int IntKind.i64 z) 0, (fun z => Value.int IntKind.i64 z) 0, (fun z => Value.int IntKind.i64 z) 0, (fun z => Value.int IntKind.i64 z) 0, (fun z => Value.int IntKind.i64 z) 0, (fun z => Value.int IntKind.i64 z) 0, (fun z => Value.int IntKind.i64 z) 0, (fun z => Value.int IntKind.i64 z) 0, (fun z => Value.int IntKind.i64 z) 0, (fun z => Value.int IntKind.i64 z) 0, (fun z => Value.int IntKind.i64 z) 0, (fun z => Value.int IntKind.i64 z) 0, (fun z => Value.int IntKind.i64 z) 0, (fun z => Value.int IntKind.i64 z) 0, (fun z => Value.int IntKind.i64 z) 0, (fun z => Value.int IntKind.i64 z) 0, (fun z => Value.int IntKind.i64 z) 0, (fun z => Value.int IntKind.i64 z) 0, (fun z => Value.int IntKind.i64 z) 0, (fun z => Value.int IntKind.i64 z) 0, (fun z => Value.int IntKind.i64 z) 0, (fun z => Value.int IntKind.i64 z) 0, (fun z => Value.int IntKind.i64 z) 0, (fun z => Value.int IntKind.i64 z) 0, (fun z => Value.int IntKind.i64 z) 0, (fun z => Value.int IntKind.i64 z) 0, (fun z => Value.int IntKind.i64 z) 0, (fun z => Value.int IntKind.i64 z) 0, (fun z => Value.int IntKind.i64 z) 0, (fun z => Value.int IntKind.i64 z) 0, (fun z => Value.int IntKind.i64 z) 0, (fun z => Value.int IntKind.i64 z) 0, (fun z => Value.int IntKind.i64 z) 0, (fun z => Value.int IntKind.i64 z) 0, (fun z => Value.int IntKind.i64 z) 0, (fun z => Value.int IntKind.i64 z) 0, (fun z => Value.int IntKind.i64 z) 0, (fun z => Value.int IntKind.i64 z) 0, (fun z => Value.int IntKind.i64 z) 0, (fun z => Value.int IntKind.i64 z) 0, (fun z => Value.int IntKind.i64 z) 0, (fun z => Value.int IntKind.i64 z) 0, (fun z => Value.int IntKind.i64 z) 0, (fun z => Value.int IntKind.i64 z) 0, (fun z => Value.int IntKind.i64 z) 0, (fun z => Value.int IntKind.i64 z) 0, (fun z => Value.int IntKind.i64 z) 0, (fun z => Value.int IntKind.i64 z) 0, (fun z => Value.int IntKind.i64 z) 0, (fun z => Value.int IntKind.i64 z) 0, (fun z => Value.int IntKind.i64 z) 0, (fun z => Value.int IntKind.i64 z) 0, (fun z => Value.int IntKind.i64 z) 0, (fun z => Value.int IntKind.i64 z) 0, (fun z => Value.int IntKind.i64 z) 0, (fun z => Value.int IntKind.i64 z) 0, (fun z => Value.int IntKind.i64 z) 0, (fun z => Value.int IntKind.i64 z) 0, (fun z => Value.int IntKind.i64 z) 0, (fun z => Value.int IntKind.i64 z) 0, (fun z => Value.int IntKind.i64 z) 0, (fun z => Value.int IntKind.i64 z) 0, (fun z => Value.int IntKind.i64 z) 0, (fun z => Value.int IntKind.i64 z) 0, (fun z => Value.int IntKind.i64 z) 0, (fun z => Value.int IntKind.i64 z) 0, (fun z => Value.int IntKind.i64 z) 0, (fun z => Value.int IntKind.i64 z) 0, (fun z => Value.int IntKind.i64 z) 0, (fun z => Value.int IntKind.i64 z) 0, (fun z => Value.int IntKind.i64 z) 0, (fun z => Value.int IntKind.i64 z) 0, (fun z => Value.int IntKind.i64 z) 0, (fun z => Value.int IntKind.i64 z) 0] := r14
    clear r4
    replace r10 := Zd r10 b12; replace b1 := Zg b1 b12; replace q := Zg q b12
    have r4 := r14
    clear r14
    refine Za ?_; refine Zq ?_; refine ZR ?_; refine EE.thenR ?_
    refine EE.ret2 rfl ⟨_, rfl, lvNc (RowL.cells0 (by assumption)) (by rfl) (by rfl)⟩ rfl ?_
    exact ⟨⟨zeroP, false, rfl, by simp [hno], fun h => absurd h hno, by simp⟩, q⟩
  refine X.fn Tryd.func35 rfl (n := 75) rfl rfl ?_
  refine Zr ?_
  refine LL.alloc (intsZ .i64 (List.replicate 128 0)) rfl rfl rfl rfl rfl ?_
  intro Wa2 ga3 ega3 ra4 za5 ba1
  replace q := Zu q ba1; refine Za ?_; refine Zq ?_; refine Zr ?_; have la6 := ra4.lt
  refine LL.alloc (intsZ .i64 (List.replicate 128 0)) rfl rfl rfl rfl rfl ?_
  intro Wa8 ga9 ega9 ra10 za11 ba7
  replace ra4 := ra4.up ba7; replace ba1 := Zu ba1 ba7; replace q := Zu q ba7; refine Zq ?_; refine Zc ?_; refine Zr ?_; refine Zm ?_; refine Zn ?_; refine ZgtF ?_; refine Zq ?_; refine ZN ?_; refine ZK ?_; refine ZT ?_; refine Zc ?_; refine Zr ?_; refine Za ?_; refine Zq ?_; refine CC.block ?_; have yw := q.size; have l3 := ra4.lt
  have hg39 : ga3 ≠ ga9 := by omega
  have hw9 : w.heap.size ≤ ga9 := by omega
  have rm : RowL Wa8 ga9 80 (intsZ .i64 (plOf (blS (l.take 0)))) := ra10
  refine CC.loop (α := Nat) (fun i => [(0, .slice a N cap), (2, .pointer (some ⟨ga3, 0, none⟩)), (4, .pointer (some ⟨ga9, 0, none⟩)), (5, .int .i64 (i : Int))]) (fun i W => i ≤ N ∧ Below w.heap.size w W ∧ ga9 < W.heap.size ∧ RowL W ga3 80 (intsZ .i64 zeroP) ∧ RowL W ga9 80 (intsZ .i64 (plOf (blS (l.take i)))) ∧ (∀ x ∈ l.take i, mayE x) ∧ dsB (blS (l.take i))) (fun i => N - i) 0 ⟨rfl, rfl, rfl, rfl, trivial⟩ ⟨by omega, q, rm.lt, ra4, rm, by simp, by simp [blS]⟩ ?_
  clear q ra4 ra10 rm
  rintro i W ⟨hi, q, l9, r4, r10, hmay, hds⟩
  show CC none Tryd.prog _ 75 [] (sl [(0, .slice a N cap), (2, .pointer (some ⟨ga3, 0, none⟩)), (4, .pointer (some ⟨ga9, 0, none⟩)), (5, .int .i64 (i : Int))]) _ W
  have hzl : zeroP.length = 128 := List.length_replicate
  by_cases hlt : i < N
  case neg =>
    obtain rfl : i = N := by omega
    rw [show l.take i = l from List.take_of_length_le (by omega)] at r10 hmay hds
    have hsm := pl_small hds (blS_in hmay)
    have hpl := plL_len l
    have hbk := ds_vL hmay hds (by omega)
    have hvW := hvF W q
    have hgl : (gat (nz (plL l))).length ≤ 1048576 := by have := gat_len (nz (plL l)); have := nzF_len (plL l) 128; unfold nz at *; omega
    have hll : l.length ≤ 1048576 := by omega
    replace r10 : RowL W ga9 80 (intsZ .i64 (plL l)) := r10
    replace hsm : smP (plL l) := hsm
    by_cases he : gat (nz (plL l)) = l
    · have hyes := hbk.1 he
      refine Zc ?_; refine Zr ?_; refine Zm ?_; refine Zm ?_; refine Zn ?_; refine ZltF ?_; refine Zq ?_; refine ZN ?_; refine CC.exit ?_; refine EE.thenX ?_; refine EE.thenX ?_; refine EE.inX ?_; refine ZT ?_; refine Zc ?_
      refine CC.join (fun l_ Wb13 => l_ = [(0, Value.slice a i cap), (2, Value.pointer (some { block := ga3, off := 0 })), (4, Value.pointer (some { block := ga9, off := 0 })), (5, Value.int IntKind.i64 ↑i), (11, Value.int IntKind.i64 ↑i), (12, Value.slice a i cap), (13, Value.int IntKind.i64 ↑i), (14, Value.bool false), (3, Value.bool true)] ∧ (Below w.heap.size w Wb13) ∧ (RowL Wb13 ga9 80 (intsZ IntKind.i64 (plL l))) ∧ (RowL Wb13 ga3 80 (intsZ IntKind.i64 (plL l))) ∧ (W.heap.size ≤ Wb13.heap.size)) (fun Jb17 => ?_) ?restJb17
      case' restJb17 =>
        clear q
        clear r10
        clear r4
        rintro _ Wb13 ⟨rfl, q, r10, r4, zb16⟩
      refine ZT ?_; refine ZR ?_
      refine EE.ret2 rfl ⟨_, rfl, lvZ (by assumption) rfl rfl (by first | assumption | exact List.length_replicate | exact plL_len _ | exact plOf_len _ | simp)⟩ rfl ?_
      exact ⟨⟨plL l, true, rfl, by simp [hyes], fun _ => rfl, hpl⟩, q⟩
      refine CC.freeZ (fun W_ j => j < W_.heap.size ∧ (j ≠ ga3)) (by kernel_rfl) (by kernel_rfl) (fun Wb19 bb18 zb20 => ?_)
      replace q := Zu q bb18; replace r4 := r4.up bb18; replace hvW := hvW.up bb18; replace r10 := r10.up bb18
      have hok : Kept (fun j => j < Wb19.heap.size ∧ (j ≠ ga3)) Wb19 Wb19 := Kept.refl _ _
      have fzr10 := fzRow (K := fun j => j < Wb19.heap.size ∧ (j ≠ ga3)) r10 ⟨r10.lt, (by first | trivial | omega)⟩
      refine AA.pure 3 rfl hok (by kernel_rfl) (fun w' b' => R.move rfl rfl) rfl rfl ?_
      refine AA.two 0 1 (by kernel_rfl) ?_ ?_
      refine SR.val rfl (R.loadZ rfl rfl r10 rfl rfl (by first | assumption | exact List.length_replicate | exact plL_len _ | exact plOf_len _ | simp)) rfl rfl hok ?_
      refine AA.one 1 (by kernel_rfl) ?_
      refine SR.val rfl (R.loadZ rfl rfl r10 rfl rfl (by first | assumption | exact List.length_replicate | exact plL_len _ | exact plOf_len _ | simp)) rfl rfl hok ?_
      refine AA.one 2 (by kernel_rfl) ?_
      refine SR.call rfl (R.call rfl rfl rfl) rfl rfl (rlist_r _ _ (by first | assumption | omega)) ?_
      rintro e Wb22 ⟨vb24, rfl, hb23, bb21⟩
      have zbb21 := bb21.size; replace bb18 := Zu bb18 bb21; replace q := Zu q bb21; replace r4 := r4.up bb21; replace hvW := hvW.up bb21; replace r10 := r10.up bb21; replace hok := Zh hok bb21; have yb25 := hok.size
      refine ⟨_, rfl, hok, ?_⟩
      refine AA.one 4 (by kernel_rfl) ?_
      refine ZR.callBT rfl (R.call rfl rfl rfl) rfl rfl (slist_any _ _ _ _ _ (by first | assumption | omega) (by first | assumption | omega) (by first | assumption | omega) (by first | assumption | omega)) (by first | assumption | omega) (fun Wb27 bb26 => ?_)
      have zbb26 := bb26.size; replace hb23 := hb23.up bb26; replace bb21 := Zu bb21 bb26; replace bb18 := Zu bb18 bb26; replace q := Zu q bb26; replace r4 := r4.up bb26; replace hvW := hvW.up bb26; replace r10 := r10.up bb26; replace hok := Zh hok bb26; have yb28 := hok.size
      refine ⟨hok, ?_⟩
      refine AA.one 5 (by kernel_rfl) ?_
      refine ZR.storeAZ rfl rfl rfl rfl rfl (by first | assumption | exact List.length_replicate | exact plL_len _ | exact plOf_len _ | simp) r4 (by first | (rw [List.length_map]; exact (by first | assumption | exact List.length_replicate | exact plL_len _ | exact plOf_len _ | simp)) | simp) rfl rfl ?_
      intro Wb30 rb31 bb29 zb32
      have hlbb29 := r4.lt
      clear r4
      replace q := Zg q bb29; replace r10 := Zd r10 bb29; replace hok := Zo hok bb29
      have r4 := rb31
      clear rb31
      refine ⟨hok, ?_⟩
      refine AA.pure 6 rfl hok (by kernel_rfl) (fun w' b' => R.assign rfl rfl) rfl rfl ?_
      refine AA.done rfl ?_
      clear fzr10 hok
      exact EE.weak (Jb17 _ _ ⟨rfl, (by first | assumption | omega), (by first | assumption | omega), (by first | assumption | omega), (by first | assumption | omega)⟩) ⟨rfl, rfl, rfl, rfl, rfl, rfl, rfl, rfl, rfl, trivial⟩
      refine SR.val rfl (R.loadZ rfl rfl r10 rfl rfl (by first | assumption | exact List.length_replicate | exact plL_len _ | exact plOf_len _ | simp)) rfl rfl hok ?_
      refine AA.two 0 2 (by kernel_rfl) ?_ ?_
      refine SR.val rfl (R.loadZ rfl rfl r10 rfl rfl (by first | assumption | exact List.length_replicate | exact plL_len _ | exact plOf_len _ | simp)) rfl rfl hok ?_
      refine AA.one 2 (by kernel_rfl) ?_
      refine SR.call rfl (R.call rfl rfl rfl) rfl rfl (rlist_r _ _ (by first | assumption | omega)) ?_
      rintro e Wb34 ⟨vb36, rfl, hb35, bb33⟩
      have zbb33 := bb33.size; replace bb18 := Zu bb18 bb33; replace q := Zu q bb33; replace r4 := r4.up bb33; replace hvW := hvW.up bb33; replace r10 := r10.up bb33; replace hok := Zh hok bb33; have yb37 := hok.size
      refine ⟨_, rfl, hok, ?_⟩
      refine AA.one 4 (by kernel_rfl) ?_
      refine ZR.callBT rfl (R.call rfl rfl rfl) rfl rfl (slist_any _ _ _ _ _ (by first | assumption | omega) (by first | assumption | omega) (by first | assumption | omega) (by first | assumption | omega)) (by first | assumption | omega) (fun Wb39 bb38 => ?_)
      have zbb38 := bb38.size; replace hb35 := hb35.up bb38; replace bb33 := Zu bb33 bb38; replace bb18 := Zu bb18 bb38; replace q := Zu q bb38; replace r4 := r4.up bb38; replace hvW := hvW.up bb38; replace r10 := r10.up bb38; replace hok := Zh hok bb38; have yb40 := hok.size
      refine ⟨hok, ?_⟩
      refine AA.one 5 (by kernel_rfl) ?_
      refine ZR.storeAZ rfl rfl rfl rfl rfl (by first | assumption | exact List.length_replicate | exact plL_len _ | exact plOf_len _ | simp) r4 (by first | (rw [List.length_map]; exact (by first | assumption | exact List.length_replicate | exact plL_len _ | exact plOf_len _ | simp)) | simp) rfl rfl ?_
      intro Wb42 rb43 bb41 zb44
      have hlbb41 := r4.lt
      clear r4
      replace q := Zg q bb41; replace r10 := Zd r10 bb41; replace hok := Zo hok bb41
      have r4 := rb43
      clear rb43
      refine ⟨hok, ?_⟩
      refine AA.pure 6 rfl hok (by kernel_rfl) (fun w' b' => R.assign rfl rfl) rfl rfl ?_
      refine AA.done rfl ?_
      clear fzr10 hok
      exact EE.weak (Jb17 _ _ ⟨rfl, (by first | assumption | omega), (by first | assumption | omega), (by first | assumption | omega), (by first | assumption | omega)⟩) ⟨rfl, rfl, rfl, rfl, rfl, rfl, rfl, rfl, rfl, trivial⟩
      refine SR.call rfl (R.call rfl rfl rfl) rfl rfl (rlist_r _ _ (by first | assumption | omega)) ?_
      rintro e Wb46 ⟨vb48, rfl, hb47, bb45⟩
      have zbb45 := bb45.size; replace bb18 := Zu bb18 bb45; replace q := Zu q bb45; replace r4 := r4.up bb45; replace hvW := hvW.up bb45; replace r10 := r10.up bb45; replace hok := Zh hok bb45; have yb49 := hok.size
      refine ⟨_, rfl, hok, ?_⟩
      refine AA.two 0 4 (by kernel_rfl) ?_ ?_
      refine SR.val rfl (R.loadZ rfl rfl r10 rfl rfl (by first | assumption | exact List.length_replicate | exact plL_len _ | exact plOf_len _ | simp)) rfl rfl hok ?_
      refine AA.one 4 (by kernel_rfl) ?_
      refine ZR.callBT rfl (R.call rfl rfl rfl) rfl rfl (slist_any _ _ _ _ _ (by first | assumption | omega) (by first | assumption | omega) (by first | assumption | omega) (by first | assumption | omega)) (by first | assumption | omega) (fun Wb51 bb50 => ?_)
      have zbb50 := bb50.size; replace hb47 := hb47.up bb50; replace bb45 := Zu bb45 bb50; replace bb18 := Zu bb18 bb50; replace q := Zu q bb50; replace r4 := r4.up bb50; replace hvW := hvW.up bb50; replace r10 := r10.up bb50; replace hok := Zh hok bb50; have yb52 := hok.size
      refine ⟨hok, ?_⟩
      refine AA.one 5 (by kernel_rfl) ?_
      refine ZR.storeAZ rfl rfl rfl rfl rfl (by first | assumption | exact List.length_replicate | exact plL_len _ | exact plOf_len _ | simp) r4 (by first | (rw [List.length_map]; exact (by first | assumption | exact List.length_replicate | exact plL_len _ | exact plOf_len _ | simp)) | simp) rfl rfl ?_
      intro Wb54 rb55 bb53 zb56
      have hlbb53 := r4.lt
      clear r4
      replace q := Zg q bb53; replace r10 := Zd r10 bb53; replace hok := Zo hok bb53
      have r4 := rb55
      clear rb55
      refine ⟨hok, ?_⟩
      refine AA.pure 6 rfl hok (by kernel_rfl) (fun w' b' => R.assign rfl rfl) rfl rfl ?_
      refine AA.done rfl ?_
      clear fzr10 hok
      exact EE.weak (Jb17 _ _ ⟨rfl, (by first | assumption | omega), (by first | assumption | omega), (by first | assumption | omega), (by first | assumption | omega)⟩) ⟨rfl, rfl, rfl, rfl, rfl, rfl, rfl, rfl, rfl, trivial⟩
      refine ZR.callBT rfl (R.call rfl rfl rfl) rfl rfl (slist_any _ _ _ _ _ (by first | assumption | omega) (by first | assumption | omega) (by first | assumption | omega) (by first | assumption | omega)) (by first | assumption | omega) (fun Wb58 bb57 => ?_)
      have zbb57 := bb57.size; replace hb47 := hb47.up bb57; replace bb45 := Zu bb45 bb57; replace bb18 := Zu bb18 bb57; replace q := Zu q bb57; replace r4 := r4.up bb57; replace hvW := hvW.up bb57; replace r10 := r10.up bb57; replace hok := Zh hok bb57; have yb59 := hok.size
      refine ⟨hok, ?_⟩
      refine AA.one 0 (by kernel_rfl) ?_
      refine SR.val rfl (R.loadZ rfl rfl r10 rfl rfl (by first | assumption | exact List.length_replicate | exact plL_len _ | exact plOf_len _ | simp)) rfl rfl hok ?_
      refine AA.one 5 (by kernel_rfl) ?_
      refine ZR.storeAZ rfl rfl rfl rfl rfl (by first | assumption | exact List.length_replicate | exact plL_len _ | exact plOf_len _ | simp) r4 (by first | (rw [List.length_map]; exact (by first | assumption | exact List.length_replicate | exact plL_len _ | exact plOf_len _ | simp)) | simp) rfl rfl ?_
      intro Wb61 rb62 bb60 zb63
      have hlbb60 := r4.lt
      clear r4
      replace q := Zg q bb60; replace r10 := Zd r10 bb60; replace hok := Zo hok bb60
      have r4 := rb62
      clear rb62
      refine ⟨hok, ?_⟩
      refine AA.pure 6 rfl hok (by kernel_rfl) (fun w' b' => R.assign rfl rfl) rfl rfl ?_
      refine AA.done rfl ?_
      clear fzr10 hok
      exact EE.weak (Jb17 _ _ ⟨rfl, (by first | assumption | omega), (by first | assumption | omega), (by first | assumption | omega), (by first | assumption | omega)⟩) ⟨rfl, rfl, rfl, rfl, rfl, rfl, rfl, rfl, rfl, trivial⟩
    · have hno : ¬vL l := fun h => he (hbk.2 h)
      refine Zc ?_; refine Zr ?_; refine Zm ?_; refine Zm ?_; refine Zn ?_; refine ZltF ?_; refine Zq ?_; refine ZN ?_; refine CC.exit ?_; refine EE.thenX ?_; refine EE.thenX ?_; refine EE.inX ?_; refine ZT ?_; refine Zc ?_
      refine CC.join (fun l_ Wc13 => l_ = [(0, Value.slice a i cap), (2, Value.pointer (some { block := ga3, off := 0 })), (4, Value.pointer (some { block := ga9, off := 0 })), (5, Value.int IntKind.i64 ↑i), (11, Value.int IntKind.i64 ↑i), (12, Value.slice a i cap), (13, Value.int IntKind.i64 ↑i), (14, Value.bool false), (3, Value.bool false)] ∧ (Below w.heap.size w Wc13) ∧ (RowL Wc13 ga9 80 (intsZ IntKind.i64 (plL l))) ∧ (RowL Wc13 ga3 80 (intsZ IntKind.i64 (plL l))) ∧ (W.heap.size ≤ Wc13.heap.size)) (fun Jc17 => ?_) ?restJc17
      case' restJc17 =>
        clear q
        clear r10
        clear r4
        rintro _ Wc13 ⟨rfl, q, r10, r4, zc16⟩
      refine ZT ?_; refine ZR ?_
      refine EE.ret2 rfl ⟨_, rfl, lvZ (by assumption) rfl rfl (by first | assumption | exact List.length_replicate | exact plL_len _ | exact plOf_len _ | simp)⟩ rfl ?_
      exact ⟨⟨plL l, false, rfl, by simp [hno], fun _ => rfl, hpl⟩, q⟩
      refine CC.freeZ (fun W_ j => j < W_.heap.size ∧ (j ≠ ga3)) (by kernel_rfl) (by kernel_rfl) (fun Wc19 bc18 zc20 => ?_)
      replace q := Zu q bc18; replace r4 := r4.up bc18; replace hvW := hvW.up bc18; replace r10 := r10.up bc18
      have hok : Kept (fun j => j < Wc19.heap.size ∧ (j ≠ ga3)) Wc19 Wc19 := Kept.refl _ _
      have fzr10 := fzRow (K := fun j => j < Wc19.heap.size ∧ (j ≠ ga3)) r10 ⟨r10.lt, (by first | trivial | omega)⟩
      refine AA.pure 3 rfl hok (by kernel_rfl) (fun w' b' => R.move rfl rfl) rfl rfl ?_
      refine AA.two 0 1 (by kernel_rfl) ?_ ?_
      refine SR.val rfl (R.loadZ rfl rfl r10 rfl rfl (by first | assumption | exact List.length_replicate | exact plL_len _ | exact plOf_len _ | simp)) rfl rfl hok ?_
      refine AA.one 1 (by kernel_rfl) ?_
      refine SR.val rfl (R.loadZ rfl rfl r10 rfl rfl (by first | assumption | exact List.length_replicate | exact plL_len _ | exact plOf_len _ | simp)) rfl rfl hok ?_
      refine AA.one 2 (by kernel_rfl) ?_
      refine SR.call rfl (R.call rfl rfl rfl) rfl rfl (rlist_r _ _ (by first | assumption | omega)) ?_
      rintro e Wc22 ⟨vc24, rfl, hc23, bc21⟩
      have zbc21 := bc21.size; replace bc18 := Zu bc18 bc21; replace q := Zu q bc21; replace r4 := r4.up bc21; replace hvW := hvW.up bc21; replace r10 := r10.up bc21; replace hok := Zh hok bc21; have yc25 := hok.size
      refine ⟨_, rfl, hok, ?_⟩
      refine AA.one 4 (by kernel_rfl) ?_
      refine ZR.callBF rfl (R.call rfl rfl rfl) rfl rfl (slist_any _ _ _ _ _ (by first | assumption | omega) (by first | assumption | omega) (by first | assumption | omega) (by first | assumption | omega)) (by first | assumption | omega) (fun Wc27 bc26 => ?_)
      have zbc26 := bc26.size; replace hc23 := hc23.up bc26; replace bc21 := Zu bc21 bc26; replace bc18 := Zu bc18 bc26; replace q := Zu q bc26; replace r4 := r4.up bc26; replace hvW := hvW.up bc26; replace r10 := r10.up bc26; replace hok := Zh hok bc26; have yc28 := hok.size
      refine ⟨hok, ?_⟩
      refine AA.one 5 (by kernel_rfl) ?_
      refine ZR.storeAZ rfl rfl rfl rfl rfl (by first | assumption | exact List.length_replicate | exact plL_len _ | exact plOf_len _ | simp) r4 (by first | (rw [List.length_map]; exact (by first | assumption | exact List.length_replicate | exact plL_len _ | exact plOf_len _ | simp)) | simp) rfl rfl ?_
      intro Wc30 rc31 bc29 zc32
      have hlbc29 := r4.lt
      clear r4
      replace q := Zg q bc29; replace r10 := Zd r10 bc29; replace hok := Zo hok bc29
      have r4 := rc31
      clear rc31
      refine ⟨hok, ?_⟩
      refine AA.pure 6 rfl hok (by kernel_rfl) (fun w' b' => R.assign rfl rfl) rfl rfl ?_
      refine AA.done rfl ?_
      clear fzr10 hok
      exact EE.weak (Jc17 _ _ ⟨rfl, (by first | assumption | omega), (by first | assumption | omega), (by first | assumption | omega), (by first | assumption | omega)⟩) ⟨rfl, rfl, rfl, rfl, rfl, rfl, rfl, rfl, rfl, trivial⟩
      refine SR.val rfl (R.loadZ rfl rfl r10 rfl rfl (by first | assumption | exact List.length_replicate | exact plL_len _ | exact plOf_len _ | simp)) rfl rfl hok ?_
      refine AA.two 0 2 (by kernel_rfl) ?_ ?_
      refine SR.val rfl (R.loadZ rfl rfl r10 rfl rfl (by first | assumption | exact List.length_replicate | exact plL_len _ | exact plOf_len _ | simp)) rfl rfl hok ?_
      refine AA.one 2 (by kernel_rfl) ?_
      refine SR.call rfl (R.call rfl rfl rfl) rfl rfl (rlist_r _ _ (by first | assumption | omega)) ?_
      rintro e Wc34 ⟨vc36, rfl, hc35, bc33⟩
      have zbc33 := bc33.size; replace bc18 := Zu bc18 bc33; replace q := Zu q bc33; replace r4 := r4.up bc33; replace hvW := hvW.up bc33; replace r10 := r10.up bc33; replace hok := Zh hok bc33; have yc37 := hok.size
      refine ⟨_, rfl, hok, ?_⟩
      refine AA.one 4 (by kernel_rfl) ?_
      refine ZR.callBF rfl (R.call rfl rfl rfl) rfl rfl (slist_any _ _ _ _ _ (by first | assumption | omega) (by first | assumption | omega) (by first | assumption | omega) (by first | assumption | omega)) (by first | assumption | omega) (fun Wc39 bc38 => ?_)
      have zbc38 := bc38.size; replace hc35 := hc35.up bc38; replace bc33 := Zu bc33 bc38; replace bc18 := Zu bc18 bc38; replace q := Zu q bc38; replace r4 := r4.up bc38; replace hvW := hvW.up bc38; replace r10 := r10.up bc38; replace hok := Zh hok bc38; have yc40 := hok.size
      refine ⟨hok, ?_⟩
      refine AA.one 5 (by kernel_rfl) ?_
      refine ZR.storeAZ rfl rfl rfl rfl rfl (by first | assumption | exact List.length_replicate | exact plL_len _ | exact plOf_len _ | simp) r4 (by first | (rw [List.length_map]; exact (by first | assumption | exact List.length_replicate | exact plL_len _ | exact plOf_len _ | simp)) | simp) rfl rfl ?_
      intro Wc42 rc43 bc41 zc44
      have hlbc41 := r4.lt
      clear r4
      replace q := Zg q bc41; replace r10 := Zd r10 bc41; replace hok := Zo hok bc41
      have r4 := rc43
      clear rc43
      refine ⟨hok, ?_⟩
      refine AA.pure 6 rfl hok (by kernel_rfl) (fun w' b' => R.assign rfl rfl) rfl rfl ?_
      refine AA.done rfl ?_
      clear fzr10 hok
      exact EE.weak (Jc17 _ _ ⟨rfl, (by first | assumption | omega), (by first | assumption | omega), (by first | assumption | omega), (by first | assumption | omega)⟩) ⟨rfl, rfl, rfl, rfl, rfl, rfl, rfl, rfl, rfl, trivial⟩
      refine SR.call rfl (R.call rfl rfl rfl) rfl rfl (rlist_r _ _ (by first | assumption | omega)) ?_
      rintro e Wc46 ⟨vc48, rfl, hc47, bc45⟩
      have zbc45 := bc45.size; replace bc18 := Zu bc18 bc45; replace q := Zu q bc45; replace r4 := r4.up bc45; replace hvW := hvW.up bc45; replace r10 := r10.up bc45; replace hok := Zh hok bc45; have yc49 := hok.size
      refine ⟨_, rfl, hok, ?_⟩
      refine AA.two 0 4 (by kernel_rfl) ?_ ?_
      refine SR.val rfl (R.loadZ rfl rfl r10 rfl rfl (by first | assumption | exact List.length_replicate | exact plL_len _ | exact plOf_len _ | simp)) rfl rfl hok ?_
      refine AA.one 4 (by kernel_rfl) ?_
      refine ZR.callBF rfl (R.call rfl rfl rfl) rfl rfl (slist_any _ _ _ _ _ (by first | assumption | omega) (by first | assumption | omega) (by first | assumption | omega) (by first | assumption | omega)) (by first | assumption | omega) (fun Wc51 bc50 => ?_)
      have zbc50 := bc50.size; replace hc47 := hc47.up bc50; replace bc45 := Zu bc45 bc50; replace bc18 := Zu bc18 bc50; replace q := Zu q bc50; replace r4 := r4.up bc50; replace hvW := hvW.up bc50; replace r10 := r10.up bc50; replace hok := Zh hok bc50; have yc52 := hok.size
      refine ⟨hok, ?_⟩
      refine AA.one 5 (by kernel_rfl) ?_
      refine ZR.storeAZ rfl rfl rfl rfl rfl (by first | assumption | exact List.length_replicate | exact plL_len _ | exact plOf_len _ | simp) r4 (by first | (rw [List.length_map]; exact (by first | assumption | exact List.length_replicate | exact plL_len _ | exact plOf_len _ | simp)) | simp) rfl rfl ?_
      intro Wc54 rc55 bc53 zc56
      have hlbc53 := r4.lt
      clear r4
      replace q := Zg q bc53; replace r10 := Zd r10 bc53; replace hok := Zo hok bc53
      have r4 := rc55
      clear rc55
      refine ⟨hok, ?_⟩
      refine AA.pure 6 rfl hok (by kernel_rfl) (fun w' b' => R.assign rfl rfl) rfl rfl ?_
      refine AA.done rfl ?_
      clear fzr10 hok
      exact EE.weak (Jc17 _ _ ⟨rfl, (by first | assumption | omega), (by first | assumption | omega), (by first | assumption | omega), (by first | assumption | omega)⟩) ⟨rfl, rfl, rfl, rfl, rfl, rfl, rfl, rfl, rfl, trivial⟩
      refine ZR.callBF rfl (R.call rfl rfl rfl) rfl rfl (slist_any _ _ _ _ _ (by first | assumption | omega) (by first | assumption | omega) (by first | assumption | omega) (by first | assumption | omega)) (by first | assumption | omega) (fun Wc58 bc57 => ?_)
      have zbc57 := bc57.size; replace hc47 := hc47.up bc57; replace bc45 := Zu bc45 bc57; replace bc18 := Zu bc18 bc57; replace q := Zu q bc57; replace r4 := r4.up bc57; replace hvW := hvW.up bc57; replace r10 := r10.up bc57; replace hok := Zh hok bc57; have yc59 := hok.size
      refine ⟨hok, ?_⟩
      refine AA.one 0 (by kernel_rfl) ?_
      refine SR.val rfl (R.loadZ rfl rfl r10 rfl rfl (by first | assumption | exact List.length_replicate | exact plL_len _ | exact plOf_len _ | simp)) rfl rfl hok ?_
      refine AA.one 5 (by kernel_rfl) ?_
      refine ZR.storeAZ rfl rfl rfl rfl rfl (by first | assumption | exact List.length_replicate | exact plL_len _ | exact plOf_len _ | simp) r4 (by first | (rw [List.length_map]; exact (by first | assumption | exact List.length_replicate | exact plL_len _ | exact plOf_len _ | simp)) | simp) rfl rfl ?_
      intro Wc61 rc62 bc60 zc63
      have hlbc60 := r4.lt
      clear r4
      replace q := Zg q bc60; replace r10 := Zd r10 bc60; replace hok := Zo hok bc60
      have r4 := rc62
      clear rc62
      refine ⟨hok, ?_⟩
      refine AA.pure 6 rfl hok (by kernel_rfl) (fun w' b' => R.assign rfl rfl) rfl rfl ?_
      refine AA.done rfl ?_
      clear fzr10 hok
      exact EE.weak (Jc17 _ _ ⟨rfl, (by first | assumption | omega), (by first | assumption | omega), (by first | assumption | omega), (by first | assumption | omega)⟩) ⟨rfl, rfl, rfl, rfl, rfl, rfl, rfl, rfl, rfl, trivial⟩
  obtain ⟨x, hx⟩ : ∃ x, l[i]? = some x := ⟨_, List.getElem?_eq_getElem (by omega)⟩
  obtain ⟨bk, off, rfl, hbk, hcs⟩ := (hvF W q).get eEnc hx
  have hcs : Cells W ⟨bk, off + i * 3, none⟩ [.int .i64 x.1, .int .i64 x.2.1, .int .i64 x.2.2] := hcs
  have hpl := plOf_len (blS (l.take i))
  by_cases hm : mayE x
  case neg =>
    have hno : ¬vL l := fun h => hm (h.2.1 x (List.mem_of_getElem? hx))
    refine Zc ?_; refine Zr ?_; refine Zm ?_; refine Zm ?_; refine Zn ?_; refine ZltT ?_; refine Zq ?_; refine ZY ?_; refine ZK ?_; refine ZT ?_; refine Zc ?_; refine CC.block ?_; refine Zc ?_; refine Zr ?_; refine Zm ?_; refine Zm ?_
    refine LL.val (R.index rfl rfl rfl (I.ixS rfl (by omega))) rfl rfl rfl ?_
    refine LL.val (R.load rfl rfl (I.ldNc (by assumption) rfl rfl)) rfl rfl rfl ?_
    refine LL.callBF (R.call rfl rfl rfl) rfl rfl rfl (right_any _ _) (by first | assumption | omega) (fun Wd2 bd1 => ?_)
    have zbd1 := bd1.size; replace q := Zu q bd1; replace r4 := r4.up bd1; replace r10 := r10.up bd1; replace hcs := hcs.up bd1; refine Zt ?_; refine Zq ?_; refine ZY ?_; refine Zr ?_
    refine LL.val (R.loadZ rfl rfl r10 rfl rfl (by first | assumption | exact List.length_replicate | exact plL_len _ | exact plOf_len _ | simp)) rfl rfl rfl ?_
    refine LL.storeAZ rfl rfl rfl rfl (by first | assumption | exact List.length_replicate | exact plL_len _ | exact plOf_len _ | simp) r4 (by first | (rw [List.length_map]; exact (by first | assumption | exact List.length_replicate | exact plL_len _ | exact plOf_len _ | simp)) | simp) rfl rfl ?_
    intro Wd4 rd5 bd3 zd6
    have hlbd3 := r4.lt
    clear r4
    replace q := Zg q bd3; replace r10 := Zd r10 bd3
    have r4 := rd5
    clear rd5
    refine Za ?_; refine Zq ?_; refine ZR ?_; refine EE.thenR ?_; refine EE.inR ?_; refine EE.thenR ?_; refine EE.thenR ?_; refine EE.inR ?_; refine EE.thenR ?_
    refine EE.ret2 rfl ⟨_, rfl, lvZ (by assumption) rfl rfl (by first | assumption | exact List.length_replicate | exact plL_len _ | exact plOf_len _ | simp)⟩ rfl ?_
    exact ⟨⟨_, false, rfl, by simp [hno], fun h => absurd h hno, hpl⟩, q⟩
  obtain ⟨f, d, n, rfl, _⟩ := pkZ_nat hm
  have hmu := hm
  unfold mayE at hmu
  simp only at hmu
  have hmayS : ∀ x ∈ l.take (i + 1), mayE x := fun y hy => by
    rw [List.take_add_one, hx] at hy
    rcases List.mem_append.1 hy with hy | hy
    · exact hmay y hy
    · simp only [Option.toList_some, List.mem_singleton] at hy; rw [hy]; exact hm
  have hinb : ∀ k, inB (blS (l.take i) ++ (blE ((f : Int), (d : Int), (n : Int))).take k) := fun k b hb => by
    refine blS_in hmayS b ?_
    rw [blS_take hx]
    rcases List.mem_append.1 hb with hb | hb
    · exact List.mem_append_left _ hb
    · exact List.mem_append_right _ (List.mem_of_mem_take hb)
  have hbn : (blE ((f : Int), (d : Int), (n : Int))).length = n := by rw [blE_len]; simp
  clear hcs
  refine Zc ?_; refine Zr ?_; refine Zm ?_; refine Zm ?_; refine Zn ?_; refine ZltT ?_; refine Zq ?_; refine ZY ?_; refine ZK ?_; refine ZT ?_; refine Zc ?_; refine CC.block ?_; refine Zc ?_; refine Zr ?_; refine Zm ?_; refine Zm ?_
  refine LL.val (R.index rfl rfl rfl (I.ixS rfl (by omega))) rfl rfl rfl ?_
  refine LL.val (R.load rfl rfl (I.ldNc (by assumption) rfl rfl)) rfl rfl rfl ?_
  refine LL.callBT (R.call rfl rfl rfl) rfl rfl rfl (right_any _ _) (by first | assumption | omega) (fun We2 be1 => ?_)
  have zbe1 := be1.size; replace q := Zu q be1; replace r4 := r4.up be1; replace r10 := r10.up be1; replace hcs := hcs.up be1; refine Zt ?_; refine Zq ?_; refine ZN ?_; refine ZK ?_; refine ZT ?_; refine Zr ?_; refine Za ?_; refine Zq ?_; refine CC.block ?_
  have r10' : RowL We2 ga9 80 (intsZ .i64 (plOf (blS (l.take i) ++ (blE ((f : Int), (d : Int), (n : Int))).take 0))) := by rw [List.take_zero, List.append_nil]; exact r10
  clear r10
  refine CC.loop (α := Nat) (fun k => [(0, .slice (some ⟨bk, off, none⟩) N cap), (2, .pointer (some ⟨ga3, 0, none⟩)), (4, .pointer (some ⟨ga9, 0, none⟩)), (5, .int .i64 (i : Int)), (6, .int .i64 (k : Int))]) (fun k W => k ≤ n ∧ Below w.heap.size w W ∧ ga9 < W.heap.size ∧ RowL W ga3 80 (intsZ .i64 zeroP) ∧ RowL W ga9 80 (intsZ .i64 (plOf (blS (l.take i) ++ (blE ((f : Int), (d : Int), (n : Int))).take k))) ∧ dsB (blS (l.take i) ++ (blE ((f : Int), (d : Int), (n : Int))).take k)) (fun k => n - k) 0 ⟨rfl, rfl, rfl, rfl, rfl, trivial⟩ ⟨by omega, q, r10'.lt, r4, r10', by rw [List.take_zero, List.append_nil]; exact hds⟩ ?_
  clear q r4 r10'
  rintro k W' ⟨hk, q, l9, r4, r10, hds⟩
  have yq := q.size
  show CC none Tryd.prog _ 75 [] (sl [(0, .slice (some ⟨bk, off, none⟩) N cap), (2, .pointer (some ⟨ga3, 0, none⟩)), (4, .pointer (some ⟨ga9, 0, none⟩)), (5, .int .i64 (i : Int)), (6, .int .i64 (k : Int))]) _ W'
  obtain ⟨_, _, e1, _, hcs⟩ := (hvF W' q).get eEnc hx
  cases e1
  have hcs : Cells W' ⟨bk, off + i * 3, none⟩ [.int .i64 (f : Int), .int .i64 (d : Int), .int .i64 (n : Int)] := hcs
  have c1 := hcs.at (j := 0) rfl
  have c2 := hcs.at (j := 1) rfl
  have c3 := hcs.at (j := 2) rfl
  clear hcs
  by_cases hkn : k < n
  case neg =>
    rw [show (blE ((f : Int), (d : Int), (n : Int))).take k = blE ((f : Int), (d : Int), (n : Int)) from List.take_of_length_le (by omega), ← blS_take hx] at r10 hds
    refine Zc ?_; refine Zr ?_; refine Zm ?_; refine Zm ?_; refine Zm ?_
    refine LL.val (R.index rfl rfl rfl (I.ixS rfl (by omega))) rfl rfl rfl ?_
    refine Zf ?_; refine Zk ?_; refine ZltF ?_; refine Zq ?_; refine ZN ?_; refine CC.exit ?_; refine EE.thenX ?_; refine EE.thenX ?_; refine EE.inX ?_; refine EE.inN ?_; refine ZT ?_; refine CC.region ?_; refine Zm ?_
    refine LL.val (R.addNc rfl rfl rfl rfl (by omega)) rfl rfl rfl ?_
    refine Za ?_; refine ZL ?_
    exact EE.round (i + 1) ⟨rfl, rfl, rfl, rfl, trivial⟩ ⟨by omega, q, l9, r4, r10, hmayS, hds⟩ (by omega)
  have hin := hinb k
  have hsp := plOf_len (blS (l.take i) ++ (blE ((f : Int), (d : Int), (n : Int))).take k)
  have hset : plOf (blS (l.take i) ++ (blE ((f : Int), (d : Int), (n : Int))).take (k + 1)) = (plOf (blS (l.take i) ++ (blE ((f : Int), (d : Int), (n : Int))).take k)).set (f + k) ((d + k : Nat) : Int) := by
    rw [blE_take (by simp only; omega), ← List.append_assoc]
    unfold plOf
    rw [plF_snoc]
    rfl
  have hno := fun c hc he => no_vL hx (show (k : Int) < (n : Int) by omega) (c := c) hc he
  have hsn := @ds_snoc (blS (l.take i) ++ (blE ((f : Int), (d : Int), (n : Int))).take k) ((f : Int) + (k : Int), (d : Int) + (k : Int)) hds hin (by simp only; omega)
  rw [List.append_assoc, ← show (blE ((f : Int), (d : Int), (n : Int))).take (k + 1) = _ from blE_take (by simp only; omega)] at hsn
  generalize hsg : blS (l.take i) ++ (blE ((f : Int), (d : Int), (n : Int))).take k = s at *
  generalize hsg2 : blS (l.take i) ++ (blE ((f : Int), (d : Int), (n : Int))).take (k + 1) = s2 at *
  obtain ⟨z, hz⟩ : ∃ z, (plOf s)[f + k]? = some z := ⟨_, List.getElem?_eq_getElem (by omega)⟩
  have c4 : W'.cell? ⟨ga9, 0 + (f + k), none⟩ = some (.int .i64 z) := RowL.cell r10 (by rw [show 0 + (f + k) = f + k by omega]; simp [hz])
  by_cases h0 : z = 0
  case neg =>
    have hnv : ¬vL l := hno _ (pl_mem hds hin hz h0) (.inl (by simp only; omega))
    refine Zc ?_; refine Zr ?_; refine Zm ?_; refine Zm ?_; refine Zm ?_
    refine LL.val (R.index rfl rfl rfl (I.ixS rfl (by omega))) rfl rfl rfl ?_
    refine Zf ?_; refine Zk ?_; refine ZltT ?_; refine Zq ?_; refine ZY ?_; refine ZK ?_; refine ZT ?_; refine Zc ?_; refine CC.block ?_; refine Zc ?_; refine Zc ?_
    refine CC.freeZ (fun W_ j => j < W_.heap.size ∧ (True)) (by kernel_rfl) (by kernel_rfl) (fun Wg2 bg1 zg3 => ?_)
    replace q := Zu q bg1; replace r4 := r4.up bg1; replace hcs := hcs.up bg1; replace c1 := cell_up c1 bg1; replace c2 := cell_up c2 bg1; replace c3 := cell_up c3 bg1; replace r10 := r10.up bg1; replace c4 := cell_up c4 bg1
    have hok : Kept (fun j => j < Wg2.heap.size ∧ (True)) Wg2 Wg2 := Kept.refl _ _
    have fzr4 := fzRow (K := fun j => j < Wg2.heap.size ∧ (True)) r4 ⟨r4.lt, (by first | trivial | omega)⟩
    have fzc1 := fzCell (K := fun j => j < Wg2.heap.size ∧ (True)) c1 ⟨World.block_lt_of_cell? _ _ c1, (by first | trivial | omega)⟩
    have fzc2 := fzCell (K := fun j => j < Wg2.heap.size ∧ (True)) c2 ⟨World.block_lt_of_cell? _ _ c2, (by first | trivial | omega)⟩
    have fzc3 := fzCell (K := fun j => j < Wg2.heap.size ∧ (True)) c3 ⟨World.block_lt_of_cell? _ _ c3, (by first | trivial | omega)⟩
    have fzr10 := fzRow (K := fun j => j < Wg2.heap.size ∧ (True)) r10 ⟨r10.lt, (by first | trivial | omega)⟩
    have fzc4 := fzCell (K := fun j => j < Wg2.heap.size ∧ (True)) c4 ⟨World.block_lt_of_cell? _ _ c4, (by first | trivial | omega)⟩
    refine AA.pure 0 rfl hok (by kernel_rfl) (fun w' b' => R.move rfl rfl) rfl rfl ?_
    refine AA.pure 1 rfl hok (by kernel_rfl) (fun w' b' => R.move rfl rfl) rfl rfl ?_
    refine AA.pure 2 rfl hok (by kernel_rfl) (fun w' b' => R.index rfl rfl rfl (I.ixS rfl (by omega))) rfl rfl ?_
    refine AA.pure 3 rfl hok (by kernel_rfl) (fun w' b' => R.field rfl rfl (I.fld rfl)) rfl rfl ?_
    refine AA.pure 4 rfl hok (by kernel_rfl) (fun w' b' => R.load rfl rfl (I.ld1 rfl (fzc1 w' b'))) rfl rfl ?_
    refine AA.pure 5 rfl hok (by kernel_rfl) (fun w' b' => R.move rfl rfl) rfl rfl ?_
    refine AA.pure 6 rfl hok (by kernel_rfl) (fun w' b' => R.addN rfl rfl rfl (by omega)) rfl rfl ?_
    refine AA.pure 7 rfl hok (by kernel_rfl) (fun w' b' => R.index rfl rfl rfl (I.ixA1 rfl (by omega))) rfl rfl ?_
    refine AA.pure 8 rfl hok (by kernel_rfl) (fun w' b' => R.load rfl rfl (I.ld1 rfl (fzc4 w' b'))) rfl rfl ?_
    refine AA.pure 9 rfl hok (by kernel_rfl) (fun w' b' => R.neT rfl rfl rfl (by omega)) rfl rfl ?_
    refine AA.pure 10 rfl hok (by kernel_rfl) (fun w' b' => R.move rfl rfl) rfl rfl ?_
    refine AA.off 11 rfl hok (by kernel_rfl) rfl rfl ?_
    refine AA.off 12 rfl hok (by kernel_rfl) rfl rfl ?_
    refine AA.off 13 rfl hok (by kernel_rfl) rfl rfl ?_
    refine AA.off 14 rfl hok (by kernel_rfl) rfl rfl ?_
    refine AA.off 15 rfl hok (by kernel_rfl) rfl rfl ?_
    refine AA.off 16 rfl hok (by kernel_rfl) rfl rfl ?_
    refine AA.off 17 rfl hok (by kernel_rfl) rfl rfl ?_
    refine AA.off 18 rfl hok (by kernel_rfl) rfl rfl ?_
    refine AA.off 19 rfl hok (by kernel_rfl) rfl rfl ?_
    refine AA.pure 20 rfl hok (by kernel_rfl) (fun w' b' => R.pick rfl rfl rfl) rfl rfl ?_
    refine AA.done rfl ?_
    clear hok fzr4 fzc1 fzc2 fzc3 fzr10 fzc4
    refine ZT ?_; refine ZY ?_; refine Zr ?_
    refine LL.val (R.loadZ rfl rfl r10 rfl rfl (by first | assumption | exact List.length_replicate | exact plL_len _ | exact plOf_len _ | simp)) rfl rfl rfl ?_
    refine LL.storeAZ rfl rfl rfl rfl (by first | assumption | exact List.length_replicate | exact plL_len _ | exact plOf_len _ | simp) r4 (by first | (rw [List.length_map]; exact (by first | assumption | exact List.length_replicate | exact plL_len _ | exact plOf_len _ | simp)) | simp) rfl rfl ?_
    intro Wg5 rg6 bg4 zg7
    have hlbg4 := r4.lt
    clear r4
    replace q := Zg q bg4; replace r10 := Zd r10 bg4; replace c4 := Ze c4 bg4
    have r4 := rg6
    clear rg6
    refine Za ?_; refine Zq ?_; refine ZR ?_; refine EE.thenR ?_; refine EE.inR ?_; refine EE.thenR ?_; refine EE.thenR ?_; refine EE.inR ?_; refine EE.inR ?_; refine EE.thenR ?_; refine EE.thenR ?_; refine EE.inR ?_; refine EE.thenR ?_
    refine EE.ret2 rfl ⟨_, rfl, lvZ (by assumption) rfl rfl (by first | assumption | exact List.length_replicate | exact plL_len _ | exact plOf_len _ | simp)⟩ rfl ?_
    exact ⟨⟨plOf s, false, rfl, by simp [hnv], fun h => absurd h hnv, hsp⟩, q⟩
  subst h0
  by_cases hh : hasP (plOf s) ((d + k : Nat) : Int)
  · obtain ⟨j, hj⟩ := id hh
    have hnv : ¬vL l := hno _ (pl_mem hds hin hj (by omega)) (.inr (by simp only; omega))
    refine Zc ?_; refine Zr ?_; refine Zm ?_; refine Zm ?_; refine Zm ?_
    refine LL.val (R.index rfl rfl rfl (I.ixS rfl (by omega))) rfl rfl rfl ?_
    refine Zf ?_; refine Zk ?_; refine ZltT ?_; refine Zq ?_; refine ZY ?_; refine ZK ?_; refine ZT ?_; refine Zc ?_; refine CC.block ?_; refine Zc ?_; refine Zc ?_
    refine CC.freeZ (fun W_ j => j < W_.heap.size ∧ (True)) (by kernel_rfl) (by kernel_rfl) (fun Wh2 bh1 zh3 => ?_)
    replace q := Zu q bh1; replace r4 := r4.up bh1; replace hcs := hcs.up bh1; replace c1 := cell_up c1 bh1; replace c2 := cell_up c2 bh1; replace c3 := cell_up c3 bh1; replace r10 := r10.up bh1; replace c4 := cell_up c4 bh1
    have hok : Kept (fun j => j < Wh2.heap.size ∧ (True)) Wh2 Wh2 := Kept.refl _ _
    have fzr4 := fzRow (K := fun j => j < Wh2.heap.size ∧ (True)) r4 ⟨r4.lt, (by first | trivial | omega)⟩
    have fzc1 := fzCell (K := fun j => j < Wh2.heap.size ∧ (True)) c1 ⟨World.block_lt_of_cell? _ _ c1, (by first | trivial | omega)⟩
    have fzc2 := fzCell (K := fun j => j < Wh2.heap.size ∧ (True)) c2 ⟨World.block_lt_of_cell? _ _ c2, (by first | trivial | omega)⟩
    have fzc3 := fzCell (K := fun j => j < Wh2.heap.size ∧ (True)) c3 ⟨World.block_lt_of_cell? _ _ c3, (by first | trivial | omega)⟩
    have fzr10 := fzRow (K := fun j => j < Wh2.heap.size ∧ (True)) r10 ⟨r10.lt, (by first | trivial | omega)⟩
    have fzc4 := fzCell (K := fun j => j < Wh2.heap.size ∧ (True)) c4 ⟨World.block_lt_of_cell? _ _ c4, (by first | trivial | omega)⟩
    refine AA.pure 0 rfl hok (by kernel_rfl) (fun w' b' => R.move rfl rfl) rfl rfl ?_
    refine AA.pure 1 rfl hok (by kernel_rfl) (fun w' b' => R.move rfl rfl) rfl rfl ?_
    refine AA.pure 2 rfl hok (by kernel_rfl) (fun w' b' => R.index rfl rfl rfl (I.ixS rfl (by omega))) rfl rfl ?_
    refine AA.pure 3 rfl hok (by kernel_rfl) (fun w' b' => R.field rfl rfl (I.fld rfl)) rfl rfl ?_
    refine AA.pure 4 rfl hok (by kernel_rfl) (fun w' b' => R.load rfl rfl (I.ld1 rfl (fzc1 w' b'))) rfl rfl ?_
    refine AA.pure 5 rfl hok (by kernel_rfl) (fun w' b' => R.move rfl rfl) rfl rfl ?_
    refine AA.pure 6 rfl hok (by kernel_rfl) (fun w' b' => R.addN rfl rfl rfl (by omega)) rfl rfl ?_
    refine AA.pure 7 rfl hok (by kernel_rfl) (fun w' b' => R.index rfl rfl rfl (I.ixA1 rfl (by omega))) rfl rfl ?_
    refine AA.pure 8 rfl hok (by kernel_rfl) (fun w' b' => R.load rfl rfl (I.ld1 rfl (fzc4 w' b'))) rfl rfl ?_
    refine AA.pure 9 rfl hok (by kernel_rfl) (fun w' b' => R.neF rfl rfl rfl (by omega)) rfl rfl ?_
    refine AA.pure 10 rfl hok (by kernel_rfl) (fun w' b' => R.move rfl rfl) rfl rfl ?_
    refine AA.pure 12 rfl hok (by kernel_rfl) (fun w' b' => R.move rfl rfl) rfl rfl ?_
    refine AA.pure 13 rfl hok (by kernel_rfl) (fun w' b' => R.move rfl rfl) rfl rfl ?_
    refine AA.pure 14 rfl hok (by kernel_rfl) (fun w' b' => R.index rfl rfl rfl (I.ixS rfl (by omega))) rfl rfl ?_
    refine AA.pure 15 rfl hok (by kernel_rfl) (fun w' b' => R.field rfl rfl (I.fld rfl)) rfl rfl ?_
    refine AA.pure 16 rfl hok (by kernel_rfl) (fun w' b' => R.load rfl rfl (I.ld1 rfl (fzc2 w' b'))) rfl rfl ?_
    refine AA.pure 17 rfl hok (by kernel_rfl) (fun w' b' => R.move rfl rfl) rfl rfl ?_
    refine AA.pure 18 rfl hok (by kernel_rfl) (fun w' b' => R.addN rfl rfl rfl (by omega)) rfl rfl ?_
    refine AA.one 11 (by kernel_rfl) ?_
    refine SR.val rfl (R.loadZ rfl rfl r10 rfl rfl (by first | assumption | exact List.length_replicate | exact plL_len _ | exact plOf_len _ | simp)) rfl rfl hok ?_
    refine AA.one 19 (by kernel_rfl) ?_
    refine SR.call rfl (R.call rfl rfl rfl) rfl rfl (has_T _ _ _ (by first | assumption | omega) (by first | assumption | omega)) ?_
    rintro e Wh5 ⟨rfl, bh4⟩
    have zbh4 := bh4.size; replace bh1 := Zu bh1 bh4; replace q := Zu q bh4; replace r4 := r4.up bh4; replace hcs := hcs.up bh4; replace c1 := cell_up c1 bh4; replace c2 := cell_up c2 bh4; replace c3 := cell_up c3 bh4; replace r10 := r10.up bh4; replace c4 := cell_up c4 bh4; replace hok := Zh hok bh4; have yh6 := hok.size
    refine ⟨_, rfl, hok, ?_⟩
    refine AA.pure 20 rfl hok (by kernel_rfl) (fun w' b' => R.pick rfl rfl rfl) rfl rfl ?_
    refine AA.done rfl ?_
    clear fzr4 fzc1 fzc2 fzc3 fzr10 fzc4 hok
    refine ZT ?_; refine ZY ?_; refine Zr ?_
    refine LL.val (R.loadZ rfl rfl r10 rfl rfl (by first | assumption | exact List.length_replicate | exact plL_len _ | exact plOf_len _ | simp)) rfl rfl rfl ?_
    refine LL.storeAZ rfl rfl rfl rfl (by first | assumption | exact List.length_replicate | exact plL_len _ | exact plOf_len _ | simp) r4 (by first | (rw [List.length_map]; exact (by first | assumption | exact List.length_replicate | exact plL_len _ | exact plOf_len _ | simp)) | simp) rfl rfl ?_
    intro Wh8 rh9 bh7 zh10
    have hlbh7 := r4.lt
    clear r4
    replace q := Zg q bh7; replace r10 := Zd r10 bh7; replace c4 := Ze c4 bh7
    have r4 := rh9
    clear rh9
    refine Za ?_; refine Zq ?_; refine ZR ?_; refine EE.thenR ?_; refine EE.inR ?_; refine EE.thenR ?_; refine EE.thenR ?_; refine EE.inR ?_; refine EE.inR ?_; refine EE.thenR ?_; refine EE.thenR ?_; refine EE.inR ?_; refine EE.thenR ?_
    refine EE.ret2 rfl ⟨_, rfl, lvZ (by assumption) rfl rfl (by first | assumption | exact List.length_replicate | exact plL_len _ | exact plOf_len _ | simp)⟩ rfl ?_
    exact ⟨⟨plOf s, false, rfl, by simp [hnv], fun h => absurd h hnv, hsp⟩, q⟩
  · have hds2 : dsB s2 := hsn (by rw [show ((f : Int) + (k : Int)).toNat = f + k by omega]; exact hz) (by rw [show (d : Int) + (k : Int) = ((d + k : Nat) : Int) by omega]; exact hh)
    refine Zc ?_; refine Zr ?_; refine Zm ?_; refine Zm ?_; refine Zm ?_
    refine LL.val (R.index rfl rfl rfl (I.ixS rfl (by omega))) rfl rfl rfl ?_
    refine Zf ?_; refine Zk ?_; refine ZltT ?_; refine Zq ?_; refine ZY ?_; refine ZK ?_; refine ZT ?_; refine Zc ?_; refine CC.block ?_; refine Zc ?_; refine Zc ?_
    refine CC.freeZ (fun W_ j => j < W_.heap.size ∧ (True)) (by kernel_rfl) (by kernel_rfl) (fun Wi2 bi1 zi3 => ?_)
    replace q := Zu q bi1; replace r4 := r4.up bi1; replace hcs := hcs.up bi1; replace c1 := cell_up c1 bi1; replace c2 := cell_up c2 bi1; replace c3 := cell_up c3 bi1; replace r10 := r10.up bi1; replace c4 := cell_up c4 bi1
    have hok : Kept (fun j => j < Wi2.heap.size ∧ (True)) Wi2 Wi2 := Kept.refl _ _
    have fzr4 := fzRow (K := fun j => j < Wi2.heap.size ∧ (True)) r4 ⟨r4.lt, (by first | trivial | omega)⟩
    have fzc1 := fzCell (K := fun j => j < Wi2.heap.size ∧ (True)) c1 ⟨World.block_lt_of_cell? _ _ c1, (by first | trivial | omega)⟩
    have fzc2 := fzCell (K := fun j => j < Wi2.heap.size ∧ (True)) c2 ⟨World.block_lt_of_cell? _ _ c2, (by first | trivial | omega)⟩
    have fzc3 := fzCell (K := fun j => j < Wi2.heap.size ∧ (True)) c3 ⟨World.block_lt_of_cell? _ _ c3, (by first | trivial | omega)⟩
    have fzr10 := fzRow (K := fun j => j < Wi2.heap.size ∧ (True)) r10 ⟨r10.lt, (by first | trivial | omega)⟩
    have fzc4 := fzCell (K := fun j => j < Wi2.heap.size ∧ (True)) c4 ⟨World.block_lt_of_cell? _ _ c4, (by first | trivial | omega)⟩
    refine AA.pure 0 rfl hok (by kernel_rfl) (fun w' b' => R.move rfl rfl) rfl rfl ?_
    refine AA.pure 1 rfl hok (by kernel_rfl) (fun w' b' => R.move rfl rfl) rfl rfl ?_
    refine AA.pure 2 rfl hok (by kernel_rfl) (fun w' b' => R.index rfl rfl rfl (I.ixS rfl (by omega))) rfl rfl ?_
    refine AA.pure 3 rfl hok (by kernel_rfl) (fun w' b' => R.field rfl rfl (I.fld rfl)) rfl rfl ?_
    refine AA.pure 4 rfl hok (by kernel_rfl) (fun w' b' => R.load rfl rfl (I.ld1 rfl (fzc1 w' b'))) rfl rfl ?_
    refine AA.pure 5 rfl hok (by kernel_rfl) (fun w' b' => R.move rfl rfl) rfl rfl ?_
    refine AA.pure 6 rfl hok (by kernel_rfl) (fun w' b' => R.addN rfl rfl rfl (by omega)) rfl rfl ?_
    refine AA.pure 7 rfl hok (by kernel_rfl) (fun w' b' => R.index rfl rfl rfl (I.ixA1 rfl (by omega))) rfl rfl ?_
    refine AA.pure 8 rfl hok (by kernel_rfl) (fun w' b' => R.load rfl rfl (I.ld1 rfl (fzc4 w' b'))) rfl rfl ?_
    refine AA.pure 9 rfl hok (by kernel_rfl) (fun w' b' => R.neF rfl rfl rfl (by omega)) rfl rfl ?_
    refine AA.pure 10 rfl hok (by kernel_rfl) (fun w' b' => R.move rfl rfl) rfl rfl ?_
    refine AA.pure 12 rfl hok (by kernel_rfl) (fun w' b' => R.move rfl rfl) rfl rfl ?_
    refine AA.pure 13 rfl hok (by kernel_rfl) (fun w' b' => R.move rfl rfl) rfl rfl ?_
    refine AA.pure 14 rfl hok (by kernel_rfl) (fun w' b' => R.index rfl rfl rfl (I.ixS rfl (by omega))) rfl rfl ?_
    refine AA.pure 15 rfl hok (by kernel_rfl) (fun w' b' => R.field rfl rfl (I.fld rfl)) rfl rfl ?_
    refine AA.pure 16 rfl hok (by kernel_rfl) (fun w' b' => R.load rfl rfl (I.ld1 rfl (fzc2 w' b'))) rfl rfl ?_
    refine AA.pure 17 rfl hok (by kernel_rfl) (fun w' b' => R.move rfl rfl) rfl rfl ?_
    refine AA.pure 18 rfl hok (by kernel_rfl) (fun w' b' => R.addN rfl rfl rfl (by omega)) rfl rfl ?_
    refine AA.one 11 (by kernel_rfl) ?_
    refine SR.val rfl (R.loadZ rfl rfl r10 rfl rfl (by first | assumption | exact List.length_replicate | exact plL_len _ | exact plOf_len _ | simp)) rfl rfl hok ?_
    refine AA.one 19 (by kernel_rfl) ?_
    refine SR.call rfl (R.call rfl rfl rfl) rfl rfl (has_F _ _ _ (by first | assumption | omega) (by first | assumption | omega)) ?_
    rintro e Wi7 ⟨rfl, bi6⟩
    have zbi6 := bi6.size; replace bi1 := Zu bi1 bi6; replace q := Zu q bi6; replace r4 := r4.up bi6; replace hcs := hcs.up bi6; replace c1 := cell_up c1 bi6; replace c2 := cell_up c2 bi6; replace c3 := cell_up c3 bi6; replace r10 := r10.up bi6; replace c4 := cell_up c4 bi6; replace hok := Zh hok bi6; have yi8 := hok.size
    refine ⟨_, rfl, hok, ?_⟩
    refine AA.pure 20 rfl hok (by kernel_rfl) (fun w' b' => R.pick rfl rfl rfl) rfl rfl ?_
    refine AA.done rfl ?_
    clear fzr4 fzc1 fzc2 fzc3 fzr10 fzc4 hok
    refine ZT ?_; refine ZN ?_; refine ZK ?_; refine ZT ?_
    refine CC.tailB 15 (by kernel_rfl) (by kernel_rfl) (fun Wi10 bi9 zi11 => ?_)
    replace bi6 := Zu bi6 bi9; replace bi1 := Zu bi1 bi9; replace q := Zu q bi9; replace r4 := r4.up bi9; replace hcs := hcs.up bi9; replace c1 := cell_up c1 bi9; replace c2 := cell_up c2 bi9; replace c3 := cell_up c3 bi9; replace r10 := r10.up bi9; replace c4 := cell_up c4 bi9
    refine SS.val (R.move rfl rfl) rfl rfl ?_
    refine SS.val (R.move rfl rfl) rfl rfl ?_
    refine SS.val (R.index rfl rfl rfl (I.ixS rfl (by omega))) rfl rfl ?_
    refine SS.val (R.field rfl rfl (I.fld rfl)) rfl rfl ?_
    refine SS.val (R.load rfl rfl (I.ld1 rfl (by assumption))) rfl rfl ?_
    refine SS.val (R.move rfl rfl) rfl rfl ?_
    refine SS.val (R.addN rfl rfl rfl (by omega)) rfl rfl ?_
    refine SS.val (R.move rfl rfl) rfl rfl ?_
    refine SS.val (R.move rfl rfl) rfl rfl ?_
    refine SS.val (R.index rfl rfl rfl (I.ixS rfl (by omega))) rfl rfl ?_
    refine SS.val (R.field rfl rfl (I.fld rfl)) rfl rfl ?_
    refine SS.val (R.load rfl rfl (I.ld1 rfl (by assumption))) rfl rfl ?_
    refine SS.val (R.move rfl rfl) rfl rfl ?_
    refine SS.val (R.addN rfl rfl rfl (by omega)) rfl rfl ?_
    refine SS.val (R.index rfl rfl rfl (I.ixA1 rfl (by omega))) rfl rfl ?_
    refine SS.nil ?_
    refine LL.storeZ rfl rfl (Nat.zero_add _) rfl rfl r10 (by first | omega | (simp only [List.length_set, List.length_replicate]; omega) | (rw [plOf_len]; omega)) rfl rfl ?_
    intro Wi13 ri14 bi12 zi15
    have hlbi12 := r10.lt
    clear r10
    replace q := Zg q bi12; replace r4 := Zd r4 bi12
    have r10 := ri14
    clear ri14
    refine ZL ?_; refine EE.inN ?_; refine ZT ?_; refine CC.region ?_; refine Zm ?_
    refine LL.val (R.addNc rfl rfl rfl rfl (by omega)) rfl rfl rfl ?_
    refine Za ?_; refine ZL ?_
    exact EE.round (k + 1) ⟨rfl, rfl, rfl, rfl, rfl, trivial⟩ ⟨by omega, q, by omega, r4, by rw [hsg2, hset]; assumption, by rw [hsg2]; exact hds2⟩ (by omega)
theorem rof_T (l : List Ex) (v : Value) (w : World) (hv : ReadsT eE 3 w v l) (hlen : l.length ≤ 1048576) (h : vL l) : Calls Tryd.prog 35 #[v] w fun e w' => e = .returned (.tuple #[plV (plL l), .bool true]) ∧ Below w.heap.size w w' :=
  (rof_any l v w hv hlen).mono fun e w' ⟨⟨ms, b, he, hb, hm, _⟩, hw⟩ => ⟨by rw [he, hm h, hb.2 h], hw⟩
theorem rof_F (l : List Ex) (v : Value) (w : World) (hv : ReadsT eE 3 w v l) (hlen : l.length ≤ 1048576) (h : ¬vL l) : Calls Tryd.prog 35 #[v] w fun e w' => ∃ ms : List Int, e = .returned (.tuple #[plV ms, .bool false]) ∧ ms.length = 128 ∧ Below w.heap.size w w' :=
  (rof_any l v w hv hlen).mono fun e w' ⟨⟨ms, b, he, hb, hm, hl⟩, hw⟩ => ⟨ms, by rw [he]; cases b; rfl; exact absurd (hb.1 rfl) h, hl, hw⟩
theorem pow_a (w : World) : Calls Tryd.prog 50 #[.int .i64 16] w fun e w' => e = .returned (.int .u64 ((65536 : Nat) : Int)) ∧ w = w' :=
  power_any 16 (by omega) 65536 (Lib.hid (by decide)) w
theorem pow_b (w : World) : Calls Tryd.prog 50 #[.int .i64 40] w fun e w' => e = .returned (.int .u64 ((1099511627776 : Nat) : Int)) ∧ w = w' :=
  power_any 40 (by omega) 1099511627776 (Lib.hid (by decide)) w
set_option maxRecDepth 100000 in
set_option maxHeartbeats 16000000 in
theorem rwords_T (l : List Ex) (v : Value) (w : World) (hv : ReadsT eE 3 w v l) (h : vL l) : Calls Tryd.prog 31 #[v] w fun e w' => e = .returned (wdV (wrdZ l)) ∧ Below w.heap.size w w' := by
  have q := Below.refl w.heap.size w
  have hlen : l.length ≤ 1048576 := by have := h.1; omega
  obtain ⟨N, hN⟩ : ∃ N, l.length = N := ⟨_, rfl⟩
  have hN10 : N ≤ 10 := by have := h.1; omega
  obtain ⟨a, cap, rfl, hcap⟩ := hv.form hN
  have hvF : ∀ W, Below w.heap.size w W → ReadsT eE 3 W (.slice a N cap) l := fun W hb => hv.up hb
  refine X.fn Tryd.func31 rfl (n := 38) rfl rfl ?_
  refine Zr ?_
  refine LL.alloc (intsZ .u64 (List.replicate 10 0)) rfl rfl rfl rfl rfl ?_
  intro W2 g3 eg3 r4 z5 b1
  replace q := Zu q b1; replace hv := hv.up b1; refine Zq ?_; refine Zr ?_; have l6 := r4.lt
  refine LL.alloc (intsZ .u64 (List.replicate 10 0)) rfl rfl rfl rfl rfl ?_
  intro W8 g9 eg9 r10 z11 b7
  replace r4 := r4.up b7; replace b1 := Zu b1 b7; replace q := Zu q b7; replace hv := hv.up b7; refine Zq ?_; refine Zc ?_; refine Zr ?_; refine Za ?_; refine Zq ?_; refine CC.block ?_; have yq := q.size
  have rc : RowL W8 g9 74 (intsZ .u64 (wrdZ (l.take 0))) := r10
  have hg : g3 < g9 := by omega
  have hwg : w.heap.size ≤ g3 := by omega
  refine CC.loop (α := Nat) (fun i => [(0, .slice a N cap), (2, .pointer (some ⟨g3, 0, none⟩)), (3, .pointer (some ⟨g9, 0, none⟩)), (4, .int .i64 (i : Int))]) (fun i W => i ≤ N ∧ Below w.heap.size w W ∧ g9 < W.heap.size ∧ RowL W g3 74 (intsZ .u64 (List.replicate 10 0)) ∧ RowL W g9 74 (intsZ .u64 (wrdZ (l.take i)))) (fun i => N - i) 0 ⟨rfl, rfl, rfl, rfl, trivial⟩ ⟨by omega, q, rc.lt, r4, rc⟩ ?_
  clear q r4 r10 rc hv
  rintro i W ⟨hi, q, l9, r4, r10⟩
  show CC none Tryd.prog _ 38 [] (sl [(0, .slice a N cap), (2, .pointer (some ⟨g3, 0, none⟩)), (3, .pointer (some ⟨g9, 0, none⟩)), (4, .int .i64 (i : Int))]) _ W
  have yq := q.size
  have hwl : (wrdZ (l.take i)).length = 10 := wrdZ_len (by simp; omega)
  by_cases hlt : i < N
  case neg =>
    obtain rfl : i = N := by omega
    rw [show l.take i = l from List.take_of_length_le (by omega)] at r10 hwl
    refine Zc ?_; refine Zr ?_; refine Zm ?_; refine Zm ?_; refine Zn ?_; refine ZltF ?_; refine Zq ?_; refine ZN ?_; refine CC.exit ?_; refine EE.thenX ?_; refine EE.thenX ?_; refine EE.inX ?_; refine ZT ?_; refine Zr ?_
    refine LL.val (R.loadZ rfl rfl r10 rfl rfl (by first | assumption | exact List.length_replicate | exact plL_len _ | exact plOf_len _ | simp)) rfl rfl rfl ?_
    refine LL.storeAZ rfl rfl rfl rfl (by first | assumption | exact List.length_replicate | exact plL_len _ | exact plOf_len _ | simp) r4 (by first | (rw [List.length_map]; exact (by first | assumption | exact List.length_replicate | exact plL_len _ | exact plOf_len _ | simp)) | simp) rfl rfl ?_
    intro Wa2 ra3 ba1 za4
    have hlba1 := r4.lt
    clear r4
    replace q := Zg q ba1; replace r10 := Zd r10 ba1
    have r4 := ra3
    clear ra3
    refine Zq ?_; refine ZR ?_
    refine EE.retC rfl rfl (lvZ (by assumption) rfl rfl (by first | assumption | exact List.length_replicate | exact plL_len _ | exact plOf_len _ | simp)) ?_
    exact ⟨rfl, q⟩
  obtain ⟨x, hx⟩ : ∃ x, l[i]? = some x := ⟨_, List.getElem?_eq_getElem (by omega)⟩
  have hmx := h.2.1 x (List.mem_of_getElem? hx)
  obtain ⟨bk, off, rfl, hbk, hcs⟩ := (hvF W q).get eEnc hx
  have hset := wrdZ_set h.1 hx
  obtain ⟨f, d, k, rfl, hf, hd, hk⟩ := pkZ_nat hmx
  have hpk : pkZ ((f : Int), (d : Int), (k : Int)) = ((f + d * 65536 + k * 1099511627776 : Nat) : Int) := by unfold pkZ; simp only; omega
  rw [hpk] at hset
  have hcs : Cells W ⟨bk, off + i * 3, none⟩ [.int .i64 (f : Int), .int .i64 (d : Int), .int .i64 (k : Int)] := hcs
  have c1 := hcs.at (j := 0) rfl
  have c2 := hcs.at (j := 1) rfl
  have c3 := hcs.at (j := 2) rfl
  clear hcs
  refine Zc ?_; refine Zr ?_; refine Zm ?_; refine Zm ?_; refine Zn ?_; refine ZltT ?_; refine Zq ?_; refine ZY ?_; refine ZK ?_; refine ZT ?_; refine Zc ?_; refine CC.block ?_
  refine CC.join (fun l_ Wb5 => l_ = [(0, Value.slice (some { block := bk, off := off }) N cap), (2, Value.pointer (some { block := g3, off := 0 })), (3, Value.pointer (some { block := g9, off := 0 })), (4, Value.int IntKind.i64 ↑i), (5, Value.int IntKind.i64 ↑i), (6, Value.slice (some { block := bk, off := off }) N cap), (7, Value.int IntKind.i64 ↑N), (8, Value.bool true)] ∧ (Below w.heap.size w Wb5) ∧ (RowL Wb5 g3 74 (intsZ IntKind.u64 (List.replicate 10 0))) ∧ (RowL Wb5 g9 74 (intsZ IntKind.u64 ((wrdZ (List.take i l)).set i ↑(f + d * 65536 + k * 1099511627776)))) ∧ (W.heap.size ≤ Wb5.heap.size)) (fun Jb9 => ?_) ?restJb9
  case' restJb9 =>
    clear q
    clear r4
    clear r10
    rintro _ Wb5 ⟨rfl, q, r4, r10, zb8⟩
  refine EE.inN ?_; refine ZT ?_; refine CC.region ?_; refine Zm ?_
  refine LL.val (R.addNc rfl rfl rfl rfl (by omega)) rfl rfl rfl ?_
  refine Za ?_; refine ZL ?_
  exact EE.round (i + 1) ⟨rfl, rfl, rfl, rfl, trivial⟩ ⟨by omega, q, by omega, r4, by rw [← hset]; exact r10⟩ (by omega)
  refine CC.freeZ (fun W_ j => j < W_.heap.size ∧ (j ≠ g9)) (by kernel_rfl) (by kernel_rfl) (fun Wb11 bb10 zb12 => ?_)
  replace q := Zu q bb10; replace r4 := r4.up bb10; replace r10 := r10.up bb10; replace hcs := hcs.up bb10; replace c1 := cell_up c1 bb10; replace c2 := cell_up c2 bb10; replace c3 := cell_up c3 bb10
  have hok : Kept (fun j => j < Wb11.heap.size ∧ (j ≠ g9)) Wb11 Wb11 := Kept.refl _ _
  have fzr4 := fzRow (K := fun j => j < Wb11.heap.size ∧ (j ≠ g9)) r4 ⟨r4.lt, (by first | trivial | omega)⟩
  refine AA.pure 0 rfl hok (by kernel_rfl) (fun w' b' => R.move rfl rfl) rfl rfl ?_
  refine AA.pure 1 rfl hok (by kernel_rfl) (fun w' b' => R.move rfl rfl) rfl rfl ?_
  refine AA.pure 2 rfl hok (by kernel_rfl) (fun w' b' => R.move rfl rfl) rfl rfl ?_
  refine AA.pure 3 rfl hok (by kernel_rfl) (fun w' b' => R.index rfl rfl rfl (I.ixS rfl (by omega))) rfl rfl ?_
  refine AA.pure 4 rfl hok (by kernel_rfl) (fun w' b' => R.field rfl rfl (I.fld rfl)) rfl rfl ?_
  refine AA.pure 7 rfl hok (by kernel_rfl) (fun w' b' => R.move rfl rfl) rfl rfl ?_
  refine AA.pure 8 rfl hok (by kernel_rfl) (fun w' b' => R.move rfl rfl) rfl rfl ?_
  refine AA.pure 9 rfl hok (by kernel_rfl) (fun w' b' => R.index rfl rfl rfl (I.ixS rfl (by omega))) rfl rfl ?_
  refine AA.pure 10 rfl hok (by kernel_rfl) (fun w' b' => R.field rfl rfl (I.fld rfl)) rfl rfl ?_
  refine AA.pureC 13 rfl hok (by kernel_rfl) (fun w' => (R.call rfl rfl rfl)) (fun w' b' => pow_a w') rfl rfl ?_
  refine AA.pure 16 rfl hok (by kernel_rfl) (fun w' b' => R.move rfl rfl) rfl rfl ?_
  refine AA.pure 17 rfl hok (by kernel_rfl) (fun w' b' => R.move rfl rfl) rfl rfl ?_
  refine AA.pure 18 rfl hok (by kernel_rfl) (fun w' b' => R.index rfl rfl rfl (I.ixS rfl (by omega))) rfl rfl ?_
  refine AA.pure 19 rfl hok (by kernel_rfl) (fun w' b' => R.field rfl rfl (I.fld rfl)) rfl rfl ?_
  refine AA.pureC 22 rfl hok (by kernel_rfl) (fun w' => (R.call rfl rfl rfl)) (fun w' b' => pow_b w') rfl rfl ?_
  refine AA.three 5 11 20 (by kernel_rfl) ?_ ?_ ?_
  refine SR.val rfl (R.load rfl rfl (I.ld1 rfl (by assumption))) rfl rfl hok ?_
  refine AA.pure 6 rfl hok (by kernel_rfl) (fun w' b' => R.convI rfl rfl rfl rfl (wrapU (by omega) (by omega))) rfl rfl ?_
  refine AA.two 11 20 (by kernel_rfl) ?_ ?_
  refine SR.val rfl (R.load rfl rfl (I.ld1 rfl (by assumption))) rfl rfl hok ?_
  refine AA.pure 12 rfl hok (by kernel_rfl) (fun w' b' => R.convI rfl rfl rfl rfl (wrapU (by omega) (by omega))) rfl rfl ?_
  refine AA.pure 14 rfl hok (by kernel_rfl) (fun w' b' => R.mulUN rfl rfl rfl (by omega)) rfl rfl ?_
  refine AA.pure 15 rfl hok (by kernel_rfl) (fun w' b' => R.addUN rfl rfl rfl (by omega)) rfl rfl ?_
  refine AA.one 20 (by kernel_rfl) ?_
  refine SR.val rfl (R.load rfl rfl (I.ld1 rfl (by assumption))) rfl rfl hok ?_
  refine AA.pure 21 rfl hok (by kernel_rfl) (fun w' b' => R.convI rfl rfl rfl rfl (wrapU (by omega) (by omega))) rfl rfl ?_
  refine AA.pure 23 rfl hok (by kernel_rfl) (fun w' b' => R.mulUN rfl rfl rfl (by omega)) rfl rfl ?_
  refine AA.pure 24 rfl hok (by kernel_rfl) (fun w' b' => R.addUN rfl rfl rfl (by omega)) rfl rfl ?_
  refine AA.pure 25 rfl hok (by kernel_rfl) (fun w' b' => R.index rfl rfl rfl (I.ixA1 rfl (by omega))) rfl rfl ?_
  refine AA.one 26 (by kernel_rfl) ?_
  refine ZR.storeZ rfl rfl rfl (Nat.zero_add _) rfl rfl r10 (by first | omega | (simp only [List.length_set, List.length_replicate]; omega) | (rw [plOf_len]; omega)) rfl rfl ?_
  intro Wb14 rb15 bb13 zb16
  have hlbb13 := r10.lt
  clear r10
  replace q := Zg q bb13; replace r4 := Zd r4 bb13; replace hok := Zo hok bb13
  have r10 := rb15
  clear rb15
  refine ⟨hok, ?_⟩
  refine AA.done rfl ?_
  clear fzr4 hok
  exact EE.weak (Jb9 _ _ ⟨rfl, (by first | assumption | omega), (by first | assumption | omega), (by first | assumption | omega), (by first | assumption | omega)⟩) ⟨rfl, rfl, rfl, rfl, rfl, rfl, rfl, rfl, trivial⟩
  refine SR.val rfl (R.load rfl rfl (I.ld1 rfl (by assumption))) rfl rfl hok ?_
  refine AA.pure 21 rfl hok (by kernel_rfl) (fun w' b' => R.convI rfl rfl rfl rfl (wrapU (by omega) (by omega))) rfl rfl ?_
  refine AA.pure 23 rfl hok (by kernel_rfl) (fun w' b' => R.mulUN rfl rfl rfl (by omega)) rfl rfl ?_
  refine AA.one 11 (by kernel_rfl) ?_
  refine SR.val rfl (R.load rfl rfl (I.ld1 rfl (by assumption))) rfl rfl hok ?_
  refine AA.pure 12 rfl hok (by kernel_rfl) (fun w' b' => R.convI rfl rfl rfl rfl (wrapU (by omega) (by omega))) rfl rfl ?_
  refine AA.pure 14 rfl hok (by kernel_rfl) (fun w' b' => R.mulUN rfl rfl rfl (by omega)) rfl rfl ?_
  refine AA.pure 15 rfl hok (by kernel_rfl) (fun w' b' => R.addUN rfl rfl rfl (by omega)) rfl rfl ?_
  refine AA.pure 24 rfl hok (by kernel_rfl) (fun w' b' => R.addUN rfl rfl rfl (by omega)) rfl rfl ?_
  refine AA.pure 25 rfl hok (by kernel_rfl) (fun w' b' => R.index rfl rfl rfl (I.ixA1 rfl (by omega))) rfl rfl ?_
  refine AA.one 26 (by kernel_rfl) ?_
  refine ZR.storeZ rfl rfl rfl (Nat.zero_add _) rfl rfl r10 (by first | omega | (simp only [List.length_set, List.length_replicate]; omega) | (rw [plOf_len]; omega)) rfl rfl ?_
  intro Wb18 rb19 bb17 zb20
  have hlbb17 := r10.lt
  clear r10
  replace q := Zg q bb17; replace r4 := Zd r4 bb17; replace hok := Zo hok bb17
  have r10 := rb19
  clear rb19
  refine ⟨hok, ?_⟩
  refine AA.done rfl ?_
  clear fzr4 hok
  exact EE.weak (Jb9 _ _ ⟨rfl, (by first | assumption | omega), (by first | assumption | omega), (by first | assumption | omega), (by first | assumption | omega)⟩) ⟨rfl, rfl, rfl, rfl, rfl, rfl, rfl, rfl, trivial⟩
  refine SR.val rfl (R.load rfl rfl (I.ld1 rfl (by assumption))) rfl rfl hok ?_
  refine AA.pure 12 rfl hok (by kernel_rfl) (fun w' b' => R.convI rfl rfl rfl rfl (wrapU (by omega) (by omega))) rfl rfl ?_
  refine AA.pure 14 rfl hok (by kernel_rfl) (fun w' b' => R.mulUN rfl rfl rfl (by omega)) rfl rfl ?_
  refine AA.two 5 20 (by kernel_rfl) ?_ ?_
  refine SR.val rfl (R.load rfl rfl (I.ld1 rfl (by assumption))) rfl rfl hok ?_
  refine AA.pure 6 rfl hok (by kernel_rfl) (fun w' b' => R.convI rfl rfl rfl rfl (wrapU (by omega) (by omega))) rfl rfl ?_
  refine AA.pure 15 rfl hok (by kernel_rfl) (fun w' b' => R.addUN rfl rfl rfl (by omega)) rfl rfl ?_
  refine AA.one 20 (by kernel_rfl) ?_
  refine SR.val rfl (R.load rfl rfl (I.ld1 rfl (by assumption))) rfl rfl hok ?_
  refine AA.pure 21 rfl hok (by kernel_rfl) (fun w' b' => R.convI rfl rfl rfl rfl (wrapU (by omega) (by omega))) rfl rfl ?_
  refine AA.pure 23 rfl hok (by kernel_rfl) (fun w' b' => R.mulUN rfl rfl rfl (by omega)) rfl rfl ?_
  refine AA.pure 24 rfl hok (by kernel_rfl) (fun w' b' => R.addUN rfl rfl rfl (by omega)) rfl rfl ?_
  refine AA.pure 25 rfl hok (by kernel_rfl) (fun w' b' => R.index rfl rfl rfl (I.ixA1 rfl (by omega))) rfl rfl ?_
  refine AA.one 26 (by kernel_rfl) ?_
  refine ZR.storeZ rfl rfl rfl (Nat.zero_add _) rfl rfl r10 (by first | omega | (simp only [List.length_set, List.length_replicate]; omega) | (rw [plOf_len]; omega)) rfl rfl ?_
  intro Wb22 rb23 bb21 zb24
  have hlbb21 := r10.lt
  clear r10
  replace q := Zg q bb21; replace r4 := Zd r4 bb21; replace hok := Zo hok bb21
  have r10 := rb23
  clear rb23
  refine ⟨hok, ?_⟩
  refine AA.done rfl ?_
  clear fzr4 hok
  exact EE.weak (Jb9 _ _ ⟨rfl, (by first | assumption | omega), (by first | assumption | omega), (by first | assumption | omega), (by first | assumption | omega)⟩) ⟨rfl, rfl, rfl, rfl, rfl, rfl, rfl, rfl, trivial⟩
  refine SR.val rfl (R.load rfl rfl (I.ld1 rfl (by assumption))) rfl rfl hok ?_
  refine AA.pure 21 rfl hok (by kernel_rfl) (fun w' b' => R.convI rfl rfl rfl rfl (wrapU (by omega) (by omega))) rfl rfl ?_
  refine AA.pure 23 rfl hok (by kernel_rfl) (fun w' b' => R.mulUN rfl rfl rfl (by omega)) rfl rfl ?_
  refine AA.one 5 (by kernel_rfl) ?_
  refine SR.val rfl (R.load rfl rfl (I.ld1 rfl (by assumption))) rfl rfl hok ?_
  refine AA.pure 6 rfl hok (by kernel_rfl) (fun w' b' => R.convI rfl rfl rfl rfl (wrapU (by omega) (by omega))) rfl rfl ?_
  refine AA.pure 15 rfl hok (by kernel_rfl) (fun w' b' => R.addUN rfl rfl rfl (by omega)) rfl rfl ?_
  refine AA.pure 24 rfl hok (by kernel_rfl) (fun w' b' => R.addUN rfl rfl rfl (by omega)) rfl rfl ?_
  refine AA.pure 25 rfl hok (by kernel_rfl) (fun w' b' => R.index rfl rfl rfl (I.ixA1 rfl (by omega))) rfl rfl ?_
  refine AA.one 26 (by kernel_rfl) ?_
  refine ZR.storeZ rfl rfl rfl (Nat.zero_add _) rfl rfl r10 (by first | omega | (simp only [List.length_set, List.length_replicate]; omega) | (rw [plOf_len]; omega)) rfl rfl ?_
  intro Wb26 rb27 bb25 zb28
  have hlbb25 := r10.lt
  clear r10
  replace q := Zg q bb25; replace r4 := Zd r4 bb25; replace hok := Zo hok bb25
  have r10 := rb27
  clear rb27
  refine ⟨hok, ?_⟩
  refine AA.done rfl ?_
  clear fzr4 hok
  exact EE.weak (Jb9 _ _ ⟨rfl, (by first | assumption | omega), (by first | assumption | omega), (by first | assumption | omega), (by first | assumption | omega)⟩) ⟨rfl, rfl, rfl, rfl, rfl, rfl, rfl, rfl, trivial⟩
  refine SR.val rfl (R.load rfl rfl (I.ld1 rfl (by assumption))) rfl rfl hok ?_
  refine AA.pure 21 rfl hok (by kernel_rfl) (fun w' b' => R.convI rfl rfl rfl rfl (wrapU (by omega) (by omega))) rfl rfl ?_
  refine AA.pure 23 rfl hok (by kernel_rfl) (fun w' b' => R.mulUN rfl rfl rfl (by omega)) rfl rfl ?_
  refine AA.two 5 11 (by kernel_rfl) ?_ ?_
  refine SR.val rfl (R.load rfl rfl (I.ld1 rfl (by assumption))) rfl rfl hok ?_
  refine AA.pure 6 rfl hok (by kernel_rfl) (fun w' b' => R.convI rfl rfl rfl rfl (wrapU (by omega) (by omega))) rfl rfl ?_
  refine AA.one 11 (by kernel_rfl) ?_
  refine SR.val rfl (R.load rfl rfl (I.ld1 rfl (by assumption))) rfl rfl hok ?_
  refine AA.pure 12 rfl hok (by kernel_rfl) (fun w' b' => R.convI rfl rfl rfl rfl (wrapU (by omega) (by omega))) rfl rfl ?_
  refine AA.pure 14 rfl hok (by kernel_rfl) (fun w' b' => R.mulUN rfl rfl rfl (by omega)) rfl rfl ?_
  refine AA.pure 15 rfl hok (by kernel_rfl) (fun w' b' => R.addUN rfl rfl rfl (by omega)) rfl rfl ?_
  refine AA.pure 24 rfl hok (by kernel_rfl) (fun w' b' => R.addUN rfl rfl rfl (by omega)) rfl rfl ?_
  refine AA.pure 25 rfl hok (by kernel_rfl) (fun w' b' => R.index rfl rfl rfl (I.ixA1 rfl (by omega))) rfl rfl ?_
  refine AA.one 26 (by kernel_rfl) ?_
  refine ZR.storeZ rfl rfl rfl (Nat.zero_add _) rfl rfl r10 (by first | omega | (simp only [List.length_set, List.length_replicate]; omega) | (rw [plOf_len]; omega)) rfl rfl ?_
  intro Wb30 rb31 bb29 zb32
  have hlbb29 := r10.lt
  clear r10
  replace q := Zg q bb29; replace r4 := Zd r4 bb29; replace hok := Zo hok bb29
  have r10 := rb31
  clear rb31
  refine ⟨hok, ?_⟩
  refine AA.done rfl ?_
  clear fzr4 hok
  exact EE.weak (Jb9 _ _ ⟨rfl, (by first | assumption | omega), (by first | assumption | omega), (by first | assumption | omega), (by first | assumption | omega)⟩) ⟨rfl, rfl, rfl, rfl, rfl, rfl, rfl, rfl, trivial⟩
  refine SR.val rfl (R.load rfl rfl (I.ld1 rfl (by assumption))) rfl rfl hok ?_
  refine AA.pure 12 rfl hok (by kernel_rfl) (fun w' b' => R.convI rfl rfl rfl rfl (wrapU (by omega) (by omega))) rfl rfl ?_
  refine AA.pure 14 rfl hok (by kernel_rfl) (fun w' b' => R.mulUN rfl rfl rfl (by omega)) rfl rfl ?_
  refine AA.one 5 (by kernel_rfl) ?_
  refine SR.val rfl (R.load rfl rfl (I.ld1 rfl (by assumption))) rfl rfl hok ?_
  refine AA.pure 6 rfl hok (by kernel_rfl) (fun w' b' => R.convI rfl rfl rfl rfl (wrapU (by omega) (by omega))) rfl rfl ?_
  refine AA.pure 15 rfl hok (by kernel_rfl) (fun w' b' => R.addUN rfl rfl rfl (by omega)) rfl rfl ?_
  refine AA.pure 24 rfl hok (by kernel_rfl) (fun w' b' => R.addUN rfl rfl rfl (by omega)) rfl rfl ?_
  refine AA.pure 25 rfl hok (by kernel_rfl) (fun w' b' => R.index rfl rfl rfl (I.ixA1 rfl (by omega))) rfl rfl ?_
  refine AA.one 26 (by kernel_rfl) ?_
  refine ZR.storeZ rfl rfl rfl (Nat.zero_add _) rfl rfl r10 (by first | omega | (simp only [List.length_set, List.length_replicate]; omega) | (rw [plOf_len]; omega)) rfl rfl ?_
  intro Wb34 rb35 bb33 zb36
  have hlbb33 := r10.lt
  clear r10
  replace q := Zg q bb33; replace r4 := Zd r4 bb33; replace hok := Zo hok bb33
  have r10 := rb35
  clear rb35
  refine ⟨hok, ?_⟩
  refine AA.done rfl ?_
  clear fzr4 hok
  exact EE.weak (Jb9 _ _ ⟨rfl, (by first | assumption | omega), (by first | assumption | omega), (by first | assumption | omega), (by first | assumption | omega)⟩) ⟨rfl, rfl, rfl, rfl, rfl, rfl, rfl, rfl, trivial⟩
theorem wf_u64 {n : Int} (h : (Lit.int .u64 n).wf = true) : 0 ≤ n ∧ n < 18446744073709551616 := by
  simp [Lit.wf, IntKind.min, IntKind.max, IntKind.signed, IntKind.bits] at h; omega
theorem pk_unp {x : Ex} (h : mayE x) : unpE (pkZ x).toNat = x ∧ pkZ x ≠ 0 ∧ 0 ≤ pkZ x ∧ pkZ x < 18446744073709551616 := by
  obtain ⟨f, d, k, rfl, hf, hd, hk⟩ := pkZ_nat h
  unfold mayE at h
  simp only at h
  have e : pkZ ((f : Int), (d : Int), (k : Int)) = ((f + d * 65536 + k * 1099511627776 : Nat) : Int) := by unfold pkZ; simp only; omega
  rw [e]
  refine ⟨?_, by omega, by omega, by omega⟩
  rw [Int.toNat_natCast]
  unfold unpE
  refine Prod.ext ?_ (Prod.ext ?_ ?_)
  · simp only; omega
  · simp only; omega
  · simp only; omega
theorem outZ_map : ∀ {l : List Ex}, (∀ x ∈ l, mayE x) → outZ (l.map pkZ) = l
  | [], _ => rfl
  | x :: l, h => by
    have h1 := pk_unp (h x (by simp))
    have ih := outZ_map (l := l) fun y hy => h y (by simp [hy])
    unfold outZ at ih ⊢
    rw [List.map_cons, List.filter_cons_of_pos (by simp [h1.2.1]), List.map_cons, h1.1, ih]
theorem outZ_wrdZ {l : List Ex} (h : ∀ x ∈ l, mayE x) : outZ (wrdZ l) = l := by
  have h1 := outZ_map h
  unfold outZ wrdZ at *
  rw [List.filter_append, List.map_append, h1]
  have e : (List.replicate (10 - l.length) (0 : Int)).filter (fun z => decide (z ≠ 0)) = [] := by
    rw [List.filter_eq_nil_iff]
    intro z hz
    rw [(List.mem_replicate.1 hz).2]
    simp
  rw [e, List.map_nil, List.append_nil]
theorem wrdZ_bnd {l : List Ex} (h : ∀ x ∈ l, mayE x) (i : Nat) (z : Int) (hz : (wrdZ l)[i]? = some z) : 0 ≤ z ∧ z < 18446744073709551616 := by
  have hm := List.mem_of_getElem? hz
  unfold wrdZ at hm
  rcases List.mem_append.1 hm with hm | hm
  · obtain ⟨x, hx, rfl⟩ := List.mem_map.1 hm
    exact (pk_unp (h x hx)).2.2
  · rw [(List.mem_replicate.1 hm).2]; omega
theorem mapW_wrdZ {l : List Ex} (h : vL l) : mapW (wrdZ l) := by
  unfold mapW
  rw [outZ_wrdZ h.2.1]
  exact ⟨h, rfl⟩
end Go.Proofs.YtnoefalgmekjbaaDoor
