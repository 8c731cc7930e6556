/- What the statements' walks use: St2, TClear, TSet, TFld, CellE, St3, St4, St5, St6, St7, St8, St9, Open, OpenC, St10. -/
import Derived.Test.YtplindpeiedcbaaRows
import Derived.ProofKit
import Derived.OpenShut
import Derived.ShutString
import Derived.ChangeOld
import Derived.ChangeSame
import Derived.Deep.Slices
import Derived.Test.YtplindpeiedcbaaMpa
/- stream: doing, Take (written by genst2.py). -/
namespace Go.Proofs.Ytplindpeiedcbaa
set_option linter.unusedVariables false
set_option linter.unusedSimpArgs false
open Go.RowKit Go.Shelf
set_option maxRecDepth 100000
set_option maxHeartbeats 8000000
theorem own_kept {α : Type} {enc : α → List Value} {k base e : Nat} {K : Nat → Prop} {w w' : World} {v : Value} {ts : List α} (h : OwnsT enc k w base e v ts) (hk : Kept K w w') (hK : ∀ b, v.ownBlock = some b → K b) : OwnsT enc k w' base e v ts :=
  h.same hk.size fun g cs hg hx => (hk.block g (hK g hg)).trans hx
theorem reads_kept {α : Type} {enc : α → List Value} {k : Nat} {K : Nat → Prop} {w w' : World} {v : Value} {ts : List α} (h : ReadsT enc k w v ts) (hk : Kept K w w') (hK : ∀ (x : Addr) (n c : Nat), v = .slice (some x) n c → 0 < n → x.block < w.heap.size → K x.block) : ReadsT enc k w' v ts := by
  obtain ⟨a, cap, e, hc, h'⟩ := h
  refine ⟨a, cap, e, hc, fun hne => ?_⟩
  obtain ⟨b, off, ha, hlt, hcell⟩ := h' hne
  have hb := hK ⟨b, off, none⟩ ts.length cap (by rw [e, ha]) (List.length_pos_iff.2 hne) hlt
  exact ⟨b, off, ha, Nat.lt_of_lt_of_le hlt hk.size, fun j hj => (World.cell?_of_block (hk.block b hb)).trans (hcell j hj)⟩
theorem doing_any (g : Nat) (w : World) : Calls Try.prog 21 #[.pointer (some ⟨g, 0, none⟩)] w fun e w' => ∃ gb gd, e = .returned (.slice (some ⟨gd, 0, none⟩) 3 3) ∧ RowL w' gb 24 [.pointer (some ⟨g, 0, none⟩)] ∧ RowL w' gd 68 [.func (.func 24) #[] #[.pointer (some ⟨gb, 0, none⟩)], .func (.func 25) #[] #[.pointer (some ⟨gb, 0, none⟩)], .func (.func 26) #[] #[.pointer (some ⟨gb, 0, none⟩)]] ∧ w.heap.size ≤ gb ∧ w.heap.size ≤ gd ∧ Below w.heap.size w w' := by
  have q := Below.refl w.heap.size w
  refine X.fn Try.func21 rfl (n := 7) rfl rfl ?_
  refine CC.seq ?_
  refine CC.region ?_
  refine LL.box [Value.pointer (some { block := g, off := 0 })] rfl rfl rfl rfl rfl ?_
  intro W2 g3 eg3 r4 z5 b1
  replace q := q.trans (b1.mono q.size)
  refine LL.val (R.assign rfl rfl) rfl rfl rfl ?_
  refine LL.nilS ?_
  refine CC.seq ?_
  refine CC.region ?_
  refine LL.val (R.func rfl rfl rfl) rfl rfl rfl ?_
  refine LL.val (R.func rfl rfl rfl) rfl rfl rfl ?_
  refine LL.val (R.func rfl rfl rfl) rfl rfl rfl ?_
  have l6 := r4.lt
  refine LL.lit (e := 68) [Value.func (Fn.func 24) #[] #[Value.pointer (some { block := g3, off := 0 })], Value.func (Fn.func 25) #[] #[Value.pointer (some { block := g3, off := 0 })], Value.func (Fn.func 26) #[] #[Value.pointer (some { block := g3, off := 0 })]] 3 rfl rfl (fun _ => by kernel_rfl) rfl rfl ?_
  intro W8 g9 eg9 r10 z11 b7
  replace r4 := r4.up b7
  replace b1 := b1.trans (b7.mono b1.size)
  replace q := q.trans (b7.mono q.size)
  refine LL.val (R.assign rfl rfl) rfl rfl rfl ?_
  refine LL.nilS ?_
  refine CC.ret ?_
  refine EE.ret _ rfl rfl ?_
  exact ⟨_, _, rfl, by assumption, by assumption, by omega, by omega, q⟩
section
variable (g : Nat) {er : Int} {p : Bs} {many : Int} {key : Nat} {tv : Value} {over : Bool} {why : Int} {w : World} {ino kd lk sz : Int} {ba : Option Addr} {bn bc : Nat} {tx : Bs} {na : Option Addr} {nn nc : Nat} {k2 : Nat}
theorem take_err (he : er ≠ 0) (a : Option Addr) (n c : Nat) (h : RowL w g 63 (stL p many key (.slice a n c) false why true)) : Calls Try.prog 10 #[.pointer (some ⟨g, 0, none⟩), .agg #[.int .i64 er, .int .i64 ino, .int .i64 kd, .int .i64 lk, .int .i64 sz, .slice ba bn bc, strV tx, .slice na nn nc, .int .u64 (k2 : Int)]] w fun e w' => e = .returned (.int .i64 0) ∧ RowL w' g 63 (stL p many key (.slice a n c) true er true) ∧ Kept (fun j => j < w.heap.size ∧ j ≠ g) w w' := by
  have gw := Gw.refl g w
  have hg := h.lt
  refine X.fn Try.func10 rfl (n := 26) rfl rfl ?_
  refine CC.seq ?_
  refine CC.region ?_
  have l1 := h.lt
  refine LL.box [Value.int IntKind.i64 er, Value.int IntKind.i64 ino, Value.int IntKind.i64 kd, Value.int IntKind.i64 lk, Value.int IntKind.i64 sz, Value.slice ba bn bc, strV tx, Value.slice na nn nc, Value.int IntKind.u64 ↑k2] rfl rfl rfl rfl rfl ?_
  intro W3 g4 eg4 r5 z6 b2
  replace h := h.up b2
  replace gw := gw.up b2
  refine LL.val (R.assign rfl rfl) rfl rfl rfl ?_
  refine LL.nilS ?_
  refine CC.fwd (l := 0) (α := Unit) (fun _ => []) (fun _ => []) (fun _ _ => False) rfl ?first ?pass
  case pass =>
    rintro _ W ⟨⟩
  case first =>
    refine CC.seq ?_
    refine CC.region ?_
    refine LL.val (R.assign rfl rfl) rfl rfl rfl ?_
    refine LL.nilS ?_
    refine CC.seq ?_
    refine CC.seq ?_
    refine CC.region ?_
    refine LL.val (R.move rfl rfl) rfl rfl rfl ?_
    refine LL.call (R.call rfl rfl rfl) rfl rfl rfl (snone_any _ (by assumption)) ?_
    rintro e W' ⟨rfl, rfl⟩
    refine ⟨_, rfl, ?_⟩
    refine LL.nilS ?_
    refine CC.no rfl ?_
    refine CC.skip ?_
    refine EE.thenN ?_
    refine CC.seq ?_
    refine CC.seq ?_
    refine CC.region ?_
    refine LL.val (R.move rfl rfl) rfl rfl rfl ?_
    refine LL.val (R.nil rfl rfl) rfl rfl rfl ?_
    refine LL.val (R.field rfl rfl (I.fld rfl)) rfl rfl rfl ?_
    refine LL.val (R.load rfl rfl (I.ld1 rfl (RowL.cell h rfl))) rfl rfl rfl ?_
    refine LL.nilS ?_
    refine CC.no rfl ?_
    refine CC.skip ?_
    refine EE.thenN ?_
    refine CC.seq ?_
    refine CC.seq ?_
    refine CC.region ?_
    refine LL.val (R.move rfl rfl) rfl rfl rfl ?_
    have la77 := r5.lt
    have la78 := h.lt
    (refine LL.call (R.call rfl rfl rfl) rfl rfl rfl (doing_any g _) ?_; rintro e Wa76 ⟨gb, gd, rfl, rb, rd, hgb, hgd, ba73⟩; refine ⟨_, rfl, ?_⟩)
    have zba73 := ba73.size
    replace r5 := r5.up ba73
    replace b2 := b2.trans (ba73.mono b2.size)
    replace h := h.up ba73
    replace gw := gw.up ba73
    refine LL.val (R.len rfl rfl rfl rfl) rfl rfl rfl ?_
    refine LL.val (R.move rfl rfl) rfl rfl rfl ?_
    refine LL.nilS ?_
    refine CC.block ?_
    refine CC.loopN 4 ?_
    refine RN.step ?_
    refine CC.seq ?_
    refine CC.region ?_
    refine LL.val (R.ltT rfl rfl rfl (by omega)) rfl rfl rfl ?_
    refine LL.nilS ?_
    refine CC.seq ?_
    refine CC.yes rfl ?_
    refine CC.skip ?_
    refine EE.thenN ?_
    refine CC.seq ?_
    refine CC.block ?_
    refine CC.seq ?_
    refine CC.region ?_
    refine LL.val (R.index rfl rfl rfl (I.ixS1c rfl rfl (by omega))) rfl rfl rfl ?_
    refine LL.val (R.load rfl rfl (I.ld1 rfl (RowL.cell rd rfl))) rfl rfl rfl ?_
    refine LL.val (R.assign rfl rfl) rfl rfl rfl ?_
    refine LL.nilS ?_
    refine CC.seq ?_
    refine CC.region ?_
    refine LL.val (R.move rfl rfl) rfl rfl rfl ?_
    refine LL.val (R.load rfl rfl (I.ldNc (vs := [Value.int IntKind.i64 er, Value.int IntKind.i64 ino, Value.int IntKind.i64 kd, Value.int IntKind.i64 lk, Value.int IntKind.i64 sz, Value.slice ba bn bc, strV tx, Value.slice na nn nc, Value.int IntKind.u64 ↑k2]) (RowL.cells r5 rfl) (by rfl) (by rfl))) rfl rfl rfl ?_
    (refine LL.call (R.callV rfl rfl rfl rfl) rfl rfl rfl (d1_end g gb he a n c h rb (by omega)) ?_; rintro e Wb46 ⟨rfl, hN, tb45⟩; refine ⟨_, rfl, ?_⟩; clear h; have h := hN; clear hN)
    have ztb45 := tb45.size
    replace rb := rb.kept tb45 ⟨rb.lt, by omega⟩
    replace rd := rd.kept tb45 ⟨rd.lt, by omega⟩
    replace r5 := r5.kept tb45 ⟨r5.lt, by omega⟩
    replace gw := gw.kept tb45 ⟨by omega, by omega⟩
    refine LL.nilS ?_
    refine CC.yes rfl ?_
    refine CC.exit ?_
    refine EE.inX' rfl ?_
    refine EE.thenX ?_
    refine EE.thenX ?_
    refine EE.inX ?_
    refine EE.thenN ?_
    refine CC.seq ?_
    refine CC.label ?_
    refine EE.thenN ?_
    refine CC.seq ?_
    refine CC.region ?_
    refine LL.val (R.move rfl rfl) rfl rfl rfl ?_
    refine LL.val (R.assign rfl rfl) rfl rfl rfl ?_
    refine LL.nilS ?_
    refine CC.ret ?_
    refine EE.jumpR ?_
    refine EE.ret _ rfl rfl ?_
    exact ⟨rfl, h, gw⟩
theorem take_end (a : Option Addr) (n c : Nat) (h : RowL w g 63 (stL p many key (.slice a n c) false why true)) : Calls Try.prog 10 #[.pointer (some ⟨g, 0, none⟩), .agg #[.int .i64 0, .int .i64 ino, .int .i64 kd, .int .i64 lk, .int .i64 sz, .slice ba bn bc, strV tx, .slice na 0 nc, .int .u64 (k2 : Int)]] w fun e w' => e = .returned (.int .i64 0) ∧ RowL w' g 63 (stL p many key (.slice a n c) true why true) ∧ Kept (fun j => j < w.heap.size ∧ j ≠ g) w w' := by
  have gw := Gw.refl g w
  have hg := h.lt
  refine X.fn Try.func10 rfl (n := 26) rfl rfl ?_
  refine CC.seq ?_
  refine CC.region ?_
  have l1 := h.lt
  refine LL.box [Value.int IntKind.i64 0, Value.int IntKind.i64 ino, Value.int IntKind.i64 kd, Value.int IntKind.i64 lk, Value.int IntKind.i64 sz, Value.slice ba bn bc, strV tx, Value.slice na 0 nc, Value.int IntKind.u64 ↑k2] rfl rfl rfl rfl rfl ?_
  intro W3 g4 eg4 r5 z6 b2
  replace h := h.up b2
  replace gw := gw.up b2
  refine LL.val (R.assign rfl rfl) rfl rfl rfl ?_
  refine LL.nilS ?_
  refine CC.fwd (l := 0) (α := Unit) (fun _ => []) (fun _ => []) (fun _ _ => False) rfl ?first ?pass
  case pass =>
    rintro _ W ⟨⟩
  case first =>
    refine CC.seq ?_
    refine CC.region ?_
    refine LL.val (R.assign rfl rfl) rfl rfl rfl ?_
    refine LL.nilS ?_
    refine CC.seq ?_
    refine CC.seq ?_
    refine CC.region ?_
    refine LL.val (R.move rfl rfl) rfl rfl rfl ?_
    refine LL.call (R.call rfl rfl rfl) rfl rfl rfl (snone_any _ (by assumption)) ?_
    rintro e W' ⟨rfl, rfl⟩
    refine ⟨_, rfl, ?_⟩
    refine LL.nilS ?_
    refine CC.no rfl ?_
    refine CC.skip ?_
    refine EE.thenN ?_
    refine CC.seq ?_
    refine CC.seq ?_
    refine CC.region ?_
    refine LL.val (R.move rfl rfl) rfl rfl rfl ?_
    refine LL.val (R.nil rfl rfl) rfl rfl rfl ?_
    refine LL.val (R.field rfl rfl (I.fld rfl)) rfl rfl rfl ?_
    refine LL.val (R.load rfl rfl (I.ld1 rfl (RowL.cell h rfl))) rfl rfl rfl ?_
    refine LL.nilS ?_
    refine CC.no rfl ?_
    refine CC.skip ?_
    refine EE.thenN ?_
    refine CC.seq ?_
    refine CC.seq ?_
    refine CC.region ?_
    refine LL.val (R.move rfl rfl) rfl rfl rfl ?_
    have la77 := r5.lt
    have la78 := h.lt
    (refine LL.call (R.call rfl rfl rfl) rfl rfl rfl (doing_any g _) ?_; rintro e Wa76 ⟨gb, gd, rfl, rb, rd, hgb, hgd, ba73⟩; refine ⟨_, rfl, ?_⟩)
    have zba73 := ba73.size
    replace r5 := r5.up ba73
    replace b2 := b2.trans (ba73.mono b2.size)
    replace h := h.up ba73
    replace gw := gw.up ba73
    refine LL.val (R.len rfl rfl rfl rfl) rfl rfl rfl ?_
    refine LL.val (R.move rfl rfl) rfl rfl rfl ?_
    refine LL.nilS ?_
    refine CC.block ?_
    refine CC.loopN 4 ?_
    refine RN.step ?_
    refine CC.seq ?_
    refine CC.region ?_
    refine LL.val (R.ltT rfl rfl rfl (by omega)) rfl rfl rfl ?_
    refine LL.nilS ?_
    refine CC.seq ?_
    refine CC.yes rfl ?_
    refine CC.skip ?_
    refine EE.thenN ?_
    refine CC.seq ?_
    refine CC.block ?_
    refine CC.seq ?_
    refine CC.region ?_
    refine LL.val (R.index rfl rfl rfl (I.ixS1c rfl rfl (by omega))) rfl rfl rfl ?_
    refine LL.val (R.load rfl rfl (I.ld1 rfl (RowL.cell rd rfl))) rfl rfl rfl ?_
    refine LL.val (R.assign rfl rfl) rfl rfl rfl ?_
    refine LL.nilS ?_
    refine CC.seq ?_
    refine CC.region ?_
    refine LL.val (R.move rfl rfl) rfl rfl rfl ?_
    refine LL.val (R.load rfl rfl (I.ldNc (vs := [Value.int IntKind.i64 0, Value.int IntKind.i64 ino, Value.int IntKind.i64 kd, Value.int IntKind.i64 lk, Value.int IntKind.i64 sz, Value.slice ba bn bc, strV tx, Value.slice na 0 nc, Value.int IntKind.u64 ↑k2]) (RowL.cells r5 rfl) (by rfl) (by rfl))) rfl rfl rfl ?_
    have lb113 := rb.lt
    have lb114 := rd.lt
    have lb115 := r5.lt
    have lb116 := h.lt
    (refine LL.call (R.callV rfl rfl rfl rfl) rfl rfl rfl (d1_go g gb h rb) ?_; rintro e Wb112 ⟨rfl, bb109⟩; refine ⟨_, rfl, ?_⟩)
    have zbb109 := bb109.size
    replace rb := rb.up bb109
    replace rd := rd.up bb109
    replace ba73 := ba73.trans (bb109.mono ba73.size)
    replace r5 := r5.up bb109
    replace b2 := b2.trans (bb109.mono b2.size)
    replace h := h.up bb109
    replace gw := gw.up bb109
    refine LL.nilS ?_
    refine CC.no rfl ?_
    refine CC.skip ?_
    refine EE.inN ?_
    refine EE.thenN ?_
    refine CC.region ?_
    refine LL.val (R.addIz (z := 1) rfl rfl rfl (by decide) (by decide)) rfl rfl rfl ?_
    refine LL.val (R.move rfl rfl) rfl rfl rfl ?_
    refine LL.nil ?_
    refine EE.again ?_
    refine RN.step ?_
    refine CC.seq ?_
    refine CC.region ?_
    refine LL.val (R.ltT rfl rfl rfl (by omega)) rfl rfl rfl ?_
    refine LL.nilS ?_
    refine CC.seq ?_
    refine CC.yes rfl ?_
    refine CC.skip ?_
    refine EE.thenN ?_
    refine CC.seq ?_
    refine CC.block ?_
    refine CC.seq ?_
    refine CC.region ?_
    refine LL.val (R.index rfl rfl rfl (I.ixS1c rfl rfl (by omega))) rfl rfl rfl ?_
    refine LL.val (R.load rfl rfl (I.ld1 rfl (RowL.cell rd rfl))) rfl rfl rfl ?_
    refine LL.val (R.assign rfl rfl) rfl rfl rfl ?_
    refine LL.nilS ?_
    refine CC.seq ?_
    refine CC.region ?_
    refine LL.val (R.move rfl rfl) rfl rfl rfl ?_
    refine LL.val (R.load rfl rfl (I.ldNc (vs := [Value.int IntKind.i64 0, Value.int IntKind.i64 ino, Value.int IntKind.i64 kd, Value.int IntKind.i64 lk, Value.int IntKind.i64 sz, Value.slice ba bn bc, strV tx, Value.slice na 0 nc, Value.int IntKind.u64 ↑k2]) (RowL.cells r5 rfl) (by rfl) (by rfl))) rfl rfl rfl ?_
    (refine LL.call (R.callV rfl rfl rfl rfl) rfl rfl rfl (d2_any g gb a n c h rb (by omega) true (by simp)) ?_; rintro e Wb278 ⟨rfl, hN, tb277⟩; refine ⟨_, rfl, ?_⟩; clear h; have h := hN; clear hN)
    have ztb277 := tb277.size
    replace rb := rb.kept tb277 ⟨rb.lt, by omega⟩
    replace rd := rd.kept tb277 ⟨rd.lt, by omega⟩
    replace r5 := r5.kept tb277 ⟨r5.lt, by omega⟩
    replace gw := gw.kept tb277 ⟨by omega, by omega⟩
    refine LL.nilS ?_
    refine CC.yes rfl ?_
    refine CC.exit ?_
    refine EE.inX' rfl ?_
    refine EE.thenX ?_
    refine EE.thenX ?_
    refine EE.inX ?_
    refine EE.thenN ?_
    refine CC.seq ?_
    refine CC.label ?_
    refine EE.thenN ?_
    refine CC.seq ?_
    refine CC.region ?_
    refine LL.val (R.move rfl rfl) rfl rfl rfl ?_
    refine LL.val (R.assign rfl rfl) rfl rfl rfl ?_
    refine LL.nilS ?_
    refine CC.ret ?_
    refine EE.jumpR ?_
    refine EE.ret _ rfl rfl ?_
    exact ⟨rfl, h, gw⟩
theorem take_over (a : Option Addr) (n c : Nat) (h : RowL w g 63 (stL p many key (.slice a n c) true why true)) : Calls Try.prog 10 #[.pointer (some ⟨g, 0, none⟩), .agg #[.int .i64 er, .int .i64 ino, .int .i64 kd, .int .i64 lk, .int .i64 sz, .slice ba bn bc, strV tx, .slice na nn nc, .int .u64 (k2 : Int)]] w fun e w' => e = .returned (.int .i64 5) ∧ Below w.heap.size w w' := by
  have q := Below.refl w.heap.size w
  refine X.fn Try.func10 rfl (n := 26) rfl rfl ?_
  refine CC.seq ?_
  refine CC.region ?_
  have l1 := h.lt
  refine LL.box [Value.int IntKind.i64 er, Value.int IntKind.i64 ino, Value.int IntKind.i64 kd, Value.int IntKind.i64 lk, Value.int IntKind.i64 sz, Value.slice ba bn bc, strV tx, Value.slice na nn nc, Value.int IntKind.u64 ↑k2] rfl rfl rfl rfl rfl ?_
  intro W3 g4 eg4 r5 z6 b2
  replace h := h.up b2
  replace q := q.trans (b2.mono q.size)
  refine LL.val (R.assign rfl rfl) rfl rfl rfl ?_
  refine LL.nilS ?_
  refine CC.fwd (l := 0) (α := Unit) (fun _ => []) (fun _ => [(5, .int .i64 5)]) (fun _ W => Below w.heap.size w W) rfl ?first ?pass
  case pass =>
    rintro _ W q
    refine CC.seq ?_
    refine CC.skip ?_
    refine EE.thenN ?_
    refine CC.seq ?_
    refine CC.region ?_
    refine LL.val (R.move rfl rfl) rfl rfl rfl ?_
    refine LL.val (R.assign rfl rfl) rfl rfl rfl ?_
    refine LL.nilS ?_
    refine CC.ret ?_
    refine EE.jumpR ?_
    refine EE.ret _ rfl rfl ?_
    exact ⟨rfl, q⟩
  case first =>
    refine CC.seq ?_
    refine CC.region ?_
    refine LL.val (R.assign rfl rfl) rfl rfl rfl ?_
    refine LL.nilS ?_
    refine CC.seq ?_
    refine CC.seq ?_
    refine CC.region ?_
    refine LL.val (R.move rfl rfl) rfl rfl rfl ?_
    refine LL.call (R.call rfl rfl rfl) rfl rfl rfl (snone_any _ (by assumption)) ?_
    rintro e W' ⟨rfl, rfl⟩
    refine ⟨_, rfl, ?_⟩
    refine LL.nilS ?_
    refine CC.no rfl ?_
    refine CC.skip ?_
    refine EE.thenN ?_
    refine CC.seq ?_
    refine CC.seq ?_
    refine CC.region ?_
    refine LL.val (R.move rfl rfl) rfl rfl rfl ?_
    refine LL.val (R.nil rfl rfl) rfl rfl rfl ?_
    refine LL.val (R.field rfl rfl (I.fld rfl)) rfl rfl rfl ?_
    refine LL.val (R.load rfl rfl (I.ld1 rfl (RowL.cell h rfl))) rfl rfl rfl ?_
    refine LL.nilS ?_
    refine CC.yes rfl ?_
    refine CC.seq ?_
    refine CC.region ?_
    refine LL.val (R.assign rfl rfl) rfl rfl rfl ?_
    refine LL.nilS ?_
    refine CC.goto ?_
    refine EE.thenG ?_
    exact EE.jumpTo () rfl ⟨rfl, trivial⟩ q
theorem take_more (hn0 : 0 < nn) (a : Option Addr) (n c : Nat) (ts us : List Nm) (h : RowL w g 63 (stL p many key (.slice a n c) false why true)) (o : OwnsT nmE 3 w 0 48 (.slice a n c) ts) (hno : ∀ b, (Value.slice a n c).ownBlock = some b → b ≠ g) (hv : ReadsT nmE 3 w (.slice na nn nc) us) (hvn : ∀ x, na = some x → x.block ≠ g) (h1 : ts.length ≤ 1000000) (h2 : us.length ≤ 1000000) : Calls Try.prog 10 #[.pointer (some ⟨g, 0, none⟩), .agg #[.int .i64 0, .int .i64 ino, .int .i64 kd, .int .i64 lk, .int .i64 sz, .slice ba bn bc, strV tx, .slice na nn nc, .int .u64 (k2 : Int)]] w fun e w' => e = .returned (.int .i64 0) ∧ ∃ a' n' c', RowL w' g 63 (stL p many k2 (.slice a' n' c') false why true) ∧ OwnsT nmE 3 w' 0 48 (.slice a' n' c') (ts ++ us) ∧ ((Value.slice a' n' c').ownBlock = (Value.slice a n c).ownBlock ∨ ∃ b, (Value.slice a' n' c').ownBlock = some b ∧ w.heap.size ≤ b) ∧ Kept (fun j => j < w.heap.size ∧ j ≠ g ∧ (Value.slice a n c).ownBlock ≠ some j) w w' := by
  have gw := Gw.refl g w
  have hg := h.lt
  have hol : ∀ b, (Value.slice a n c).ownBlock = some b → b < w.heap.size := fun b hb => by
    rcases o.above with h0 | ⟨b', h0, h1, h2⟩
    · rw [h0] at hb; cases hb
    · rw [h0] at hb; cases hb; exact h2
  refine X.fn Try.func10 rfl (n := 26) rfl rfl ?_
  refine CC.seq ?_
  refine CC.region ?_
  have l1 := h.lt
  refine LL.box [Value.int IntKind.i64 0, Value.int IntKind.i64 ino, Value.int IntKind.i64 kd, Value.int IntKind.i64 lk, Value.int IntKind.i64 sz, Value.slice ba bn bc, strV tx, Value.slice na nn nc, Value.int IntKind.u64 ↑k2] rfl rfl rfl rfl rfl ?_
  intro W3 g4 eg4 r5 z6 b2
  replace h := h.up b2
  replace o := o.up b2
  replace hv := hv.up b2
  replace gw := gw.up b2
  refine LL.val (R.assign rfl rfl) rfl rfl rfl ?_
  refine LL.nilS ?_
  refine CC.fwd (l := 0) (α := Unit) (fun _ => []) (fun _ => []) (fun _ _ => False) rfl ?first ?pass
  case pass =>
    rintro _ W ⟨⟩
  case first =>
    refine CC.seq ?_
    refine CC.region ?_
    refine LL.val (R.assign rfl rfl) rfl rfl rfl ?_
    refine LL.nilS ?_
    refine CC.seq ?_
    refine CC.seq ?_
    refine CC.region ?_
    refine LL.val (R.move rfl rfl) rfl rfl rfl ?_
    refine LL.call (R.call rfl rfl rfl) rfl rfl rfl (snone_any _ (by assumption)) ?_
    rintro e W' ⟨rfl, rfl⟩
    refine ⟨_, rfl, ?_⟩
    refine LL.nilS ?_
    refine CC.no rfl ?_
    refine CC.skip ?_
    refine EE.thenN ?_
    refine CC.seq ?_
    refine CC.seq ?_
    refine CC.region ?_
    refine LL.val (R.move rfl rfl) rfl rfl rfl ?_
    refine LL.val (R.nil rfl rfl) rfl rfl rfl ?_
    refine LL.val (R.field rfl rfl (I.fld rfl)) rfl rfl rfl ?_
    refine LL.val (R.load rfl rfl (I.ld1 rfl (RowL.cell h rfl))) rfl rfl rfl ?_
    refine LL.nilS ?_
    refine CC.no rfl ?_
    refine CC.skip ?_
    refine EE.thenN ?_
    refine CC.seq ?_
    refine CC.seq ?_
    refine CC.region ?_
    refine LL.val (R.move rfl rfl) rfl rfl rfl ?_
    have la77 := r5.lt
    have la78 := h.lt
    (refine LL.call (R.call rfl rfl rfl) rfl rfl rfl (doing_any g _) ?_; rintro e Wa76 ⟨gb, gd, rfl, rb, rd, hgb, hgd, ba73⟩; refine ⟨_, rfl, ?_⟩)
    have zba73 := ba73.size
    replace r5 := r5.up ba73
    replace b2 := b2.trans (ba73.mono b2.size)
    replace h := h.up ba73
    replace o := o.up ba73
    replace hv := hv.up ba73
    replace gw := gw.up ba73
    refine LL.val (R.len rfl rfl rfl rfl) rfl rfl rfl ?_
    refine LL.val (R.move rfl rfl) rfl rfl rfl ?_
    refine LL.nilS ?_
    refine CC.block ?_
    refine CC.loopN 4 ?_
    refine RN.step ?_
    refine CC.seq ?_
    refine CC.region ?_
    refine LL.val (R.ltT rfl rfl rfl (by omega)) rfl rfl rfl ?_
    refine LL.nilS ?_
    refine CC.seq ?_
    refine CC.yes rfl ?_
    refine CC.skip ?_
    refine EE.thenN ?_
    refine CC.seq ?_
    refine CC.block ?_
    refine CC.seq ?_
    refine CC.region ?_
    refine LL.val (R.index rfl rfl rfl (I.ixS1c rfl rfl (by omega))) rfl rfl rfl ?_
    refine LL.val (R.load rfl rfl (I.ld1 rfl (RowL.cell rd rfl))) rfl rfl rfl ?_
    refine LL.val (R.assign rfl rfl) rfl rfl rfl ?_
    refine LL.nilS ?_
    refine CC.seq ?_
    refine CC.region ?_
    refine LL.val (R.move rfl rfl) rfl rfl rfl ?_
    refine LL.val (R.load rfl rfl (I.ldNc (vs := [Value.int IntKind.i64 0, Value.int IntKind.i64 ino, Value.int IntKind.i64 kd, Value.int IntKind.i64 lk, Value.int IntKind.i64 sz, Value.slice ba bn bc, strV tx, Value.slice na nn nc, Value.int IntKind.u64 ↑k2]) (RowL.cells r5 rfl) (by rfl) (by rfl))) rfl rfl rfl ?_
    have lb113 := rb.lt
    have lb114 := rd.lt
    have lb115 := r5.lt
    have lb116 := h.lt
    (refine LL.call (R.callV rfl rfl rfl rfl) rfl rfl rfl (d1_go g gb h rb) ?_; rintro e Wb112 ⟨rfl, bb109⟩; refine ⟨_, rfl, ?_⟩)
    have zbb109 := bb109.size
    replace rb := rb.up bb109
    replace rd := rd.up bb109
    replace ba73 := ba73.trans (bb109.mono ba73.size)
    replace r5 := r5.up bb109
    replace b2 := b2.trans (bb109.mono b2.size)
    replace h := h.up bb109
    replace o := o.up bb109
    replace hv := hv.up bb109
    replace gw := gw.up bb109
    refine LL.nilS ?_
    refine CC.no rfl ?_
    refine CC.skip ?_
    refine EE.inN ?_
    refine EE.thenN ?_
    refine CC.region ?_
    refine LL.val (R.addIz (z := 1) rfl rfl rfl (by decide) (by decide)) rfl rfl rfl ?_
    refine LL.val (R.move rfl rfl) rfl rfl rfl ?_
    refine LL.nil ?_
    refine EE.again ?_
    refine RN.step ?_
    refine CC.seq ?_
    refine CC.region ?_
    refine LL.val (R.ltT rfl rfl rfl (by omega)) rfl rfl rfl ?_
    refine LL.nilS ?_
    refine CC.seq ?_
    refine CC.yes rfl ?_
    refine CC.skip ?_
    refine EE.thenN ?_
    refine CC.seq ?_
    refine CC.block ?_
    refine CC.seq ?_
    refine CC.region ?_
    refine LL.val (R.index rfl rfl rfl (I.ixS1c rfl rfl (by omega))) rfl rfl rfl ?_
    refine LL.val (R.load rfl rfl (I.ld1 rfl (RowL.cell rd rfl))) rfl rfl rfl ?_
    refine LL.val (R.assign rfl rfl) rfl rfl rfl ?_
    refine LL.nilS ?_
    refine CC.seq ?_
    refine CC.region ?_
    refine LL.val (R.move rfl rfl) rfl rfl rfl ?_
    refine LL.val (R.load rfl rfl (I.ldNc (vs := [Value.int IntKind.i64 0, Value.int IntKind.i64 ino, Value.int IntKind.i64 kd, Value.int IntKind.i64 lk, Value.int IntKind.i64 sz, Value.slice ba bn bc, strV tx, Value.slice na nn nc, Value.int IntKind.u64 ↑k2]) (RowL.cells r5 rfl) (by rfl) (by rfl))) rfl rfl rfl ?_
    (refine LL.call (R.callV rfl rfl rfl rfl) rfl rfl rfl (d2_any g gb a n c h rb (by omega) false (by simp; omega)) ?_; rintro e Wb278 ⟨rfl, hN, tb277⟩; refine ⟨_, rfl, ?_⟩; clear h; have h := hN; clear hN; replace o := own_kept o tb277 (fun b hb => ⟨by have := hol b hb; omega, hno b hb⟩); replace hv := reads_kept hv tb277 (fun x n1 c1 e h8 hl => ⟨hl, hvn x (Value.slice.inj e).1⟩))
    have ztb277 := tb277.size
    replace rb := rb.kept tb277 ⟨rb.lt, by omega⟩
    replace rd := rd.kept tb277 ⟨rd.lt, by omega⟩
    replace r5 := r5.kept tb277 ⟨r5.lt, by omega⟩
    replace gw := gw.kept tb277 ⟨by omega, by omega⟩
    refine LL.nilS ?_
    refine CC.no rfl ?_
    refine CC.skip ?_
    refine EE.inN ?_
    refine EE.thenN ?_
    refine CC.region ?_
    refine LL.val (R.addIz (z := 2) rfl rfl rfl (by decide) (by decide)) rfl rfl rfl ?_
    refine LL.val (R.move rfl rfl) rfl rfl rfl ?_
    refine LL.nil ?_
    refine EE.again ?_
    refine RN.step ?_
    refine CC.seq ?_
    refine CC.region ?_
    refine LL.val (R.ltT rfl rfl rfl (by omega)) rfl rfl rfl ?_
    refine LL.nilS ?_
    refine CC.seq ?_
    refine CC.yes rfl ?_
    refine CC.skip ?_
    refine EE.thenN ?_
    refine CC.seq ?_
    refine CC.block ?_
    refine CC.seq ?_
    refine CC.region ?_
    refine LL.val (R.index rfl rfl rfl (I.ixS1c rfl rfl (by omega))) rfl rfl rfl ?_
    refine LL.val (R.load rfl rfl (I.ld1 rfl (RowL.cell rd rfl))) rfl rfl rfl ?_
    refine LL.val (R.assign rfl rfl) rfl rfl rfl ?_
    refine LL.nilS ?_
    refine CC.seq ?_
    refine CC.region ?_
    refine LL.val (R.move rfl rfl) rfl rfl rfl ?_
    refine LL.val (R.load rfl rfl (I.ldNc (vs := [Value.int IntKind.i64 0, Value.int IntKind.i64 ino, Value.int IntKind.i64 kd, Value.int IntKind.i64 lk, Value.int IntKind.i64 sz, Value.slice ba bn bc, strV tx, Value.slice na nn nc, Value.int IntKind.u64 ↑k2]) (RowL.cells r5 rfl) (by rfl) (by rfl))) rfl rfl rfl ?_
    (refine LL.call (R.callV rfl rfl rfl rfl) rfl rfl rfl (d3_any g gb a n c ts us 0 h rb (by omega) o (fun b hb => ⟨hno b hb, by have := hol b hb; omega⟩) hv h1 h2 (Nat.zero_le _)) ?_; rintro e W9 ⟨rfl, a', n', c', hN, o9, hva, t9⟩; refine ⟨_, rfl, ?_⟩; clear rb rd r5 hv o h; have gz := gw.size; have hk9 : Kept (fun j => j < w.heap.size ∧ j ≠ g ∧ (Value.slice a n c).ownBlock ≠ some j) w W9 := (Kept.less gw (fun j h => ⟨h.1, h.2.1⟩)).trans (t9.less (fun j h => ⟨by have := h.1; omega, h.2.1, h.2.2⟩)); have hvb : (Value.slice a' n' c').ownBlock = (Value.slice a n c).ownBlock ∨ ∃ b, (Value.slice a' n' c').ownBlock = some b ∧ w.heap.size ≤ b := (by rcases hva with e | ⟨b, e, hb⟩; exact .inl e; exact .inr ⟨b, e, by omega⟩); clear t9 gw)
    refine LL.nilS ?_
    refine CC.yes rfl ?_
    refine CC.exit ?_
    refine EE.inX' rfl ?_
    refine EE.thenX ?_
    refine EE.thenX ?_
    refine EE.inX ?_
    refine EE.thenN ?_
    refine CC.seq ?_
    refine CC.label ?_
    refine EE.thenN ?_
    refine CC.seq ?_
    refine CC.region ?_
    refine LL.val (R.move rfl rfl) rfl rfl rfl ?_
    refine LL.val (R.assign rfl rfl) rfl rfl rfl ?_
    refine LL.nilS ?_
    refine CC.ret ?_
    refine EE.jumpR ?_
    refine EE.ret _ rfl rfl ?_
    exact ⟨rfl, _, _, _, hN, o9, hvb, hk9⟩
end
end Go.Proofs.Ytplindpeiedcbaa
/- clear behind the end of a slice of structs that the call owns; s[lo:hi]. -/
namespace Go.Proofs.Ytplindpeiedcbaa
set_option linter.unusedVariables false
set_option linter.unusedSimpArgs false
open Go.RowKit Go.Shelf

section
variable {α : Type} {enc : α → List Value} {k : Nat} {P : Program} {T e : TypeId} {z : Value} {bytes : Nat}
end
end Go.Proofs.Ytplindpeiedcbaa
/- An element of a slice of structs that the call owns, stored anew; the first elements of one. -/
namespace Go.Proofs.Ytplindpeiedcbaa
set_option linter.unusedVariables false
set_option linter.unusedSimpArgs false
open Go.RowKit Go.Shelf

section
variable {α : Type} {enc : α → List Value} {k : Nat}
theorem Enc.set (E : Enc enc k) (ts : List α) (i : Nat) (t : α) (h : i < ts.length) : (ts.set i t).flatMap enc = (ts.flatMap enc).take (i * k) ++ enc t ++ (ts.flatMap enc).drop (i * k + k) := by
  have hp : i * k + k = (i + 1) * k := by rw [Nat.add_mul]; omega
  rw [List.set_eq_take_append_cons_drop, if_pos h, List.flatMap_append, List.flatMap_cons, hp, E.drop, E.take, List.append_assoc]
theorem OwnsT.block {w : World} {base e : Nat} {v : Value} {ts : List α} (h : OwnsT enc k w base e v ts) : (v = .slice Option.none 0 0 ∧ ts = []) ∨ ∃ g cap, v = .slice (some ⟨g, 0, Option.none⟩) ts.length cap ∧ ts.length ≤ cap ∧ base ≤ g ∧ g < w.heap.size := by
  rcases h.2 with ⟨e1, h0⟩ | ⟨g, cap, cur, e1, hbg, hg, hnc, _⟩
  · exact .inl ⟨e1, List.eq_nil_of_length_eq_zero h0⟩
  · exact .inr ⟨g, cap, e1, hnc, hbg, (Array.getElem?_eq_some_iff.1 hg).1⟩
end

section
variable {α : Type} {enc : α → List Value} {k : Nat} {P : Program} {w : World} {o : Oper} {n : Nat} {D : List Deferred} {M : Slots} {T e : TypeId} {z : Value} {bytes : Nat} {r : Option Nat} {ops : Array Oper} {Q : Exit → Act → World → Prop} {rest : List Oper}
end
end Go.Proofs.Ytplindpeiedcbaa
/- A field of an element of a slice of structs that the call owns, stored anew. -/
namespace Go.Proofs.Ytplindpeiedcbaa
set_option linter.unusedVariables false
set_option linter.unusedSimpArgs false
open Go.RowKit Go.Shelf

section
variable {α : Type} {enc : α → List Value} {k : Nat} {P : Program} {e : TypeId} {r : Option Nat} {ops : Array Oper} {Q : Exit → Act → World → Prop} {rest : List Oper} {w : World} {n : Nat} {D : List Deferred} {M : Slots} {o : Oper}
end
end Go.Proofs.Ytplindpeiedcbaa
/- Slices whose elements have many cells: made, copied; parts of elements loaded and stored. Over any program. -/
namespace Go.Proofs.Ytplindpeiedcbaa
set_option linter.unusedVariables false
set_option linter.unusedSimpArgs false
open Go.RowKit Go.Shelf

/-- k cells from a place on. -/
structure CellsN (w : World) (p : Addr) (k : Nat) (vs : List Value) : Prop where
  at' : Cells w p vs
  len : vs.length = k
section
variable {w w' : World} {p : Addr} {k b o : Nat} {vs : List Value} {P : Program} {t : TypeId}
theorem CellsN.lt (h : CellsN w ⟨b, o, none⟩ k vs) (hk : 0 < k) : b < w.heap.size := by
  have hl := h.len
  obtain ⟨u, hu⟩ : ∃ u, vs[0]? = some u := ⟨_, List.getElem?_eq_getElem (by omega)⟩
  have := h.at' 0 u hu
  rw [add_plain] at this
  exact World.block_lt_of_cell? _ _ this
theorem CellsN.up (h : CellsN w ⟨b, o, none⟩ k vs) (hb : Below w.heap.size w w') : CellsN w' ⟨b, o, none⟩ k vs := ⟨fun j u hu => by
  have h1 := h.at' j u hu
  rw [add_plain] at *
  exact (hb.cell (p := ⟨b, o + j, none⟩) (World.block_lt_of_cell? _ _ h1)).trans h1, h.len⟩
theorem CellsN.gr {r : Nat} (h : CellsN w ⟨b, o, none⟩ k vs) (hg : w.grownBy w' (some r)) (hne : b ≠ r) : CellsN w' ⟨b, o, none⟩ k vs := ⟨fun j u hu => by
  have h1 := h.at' j u hu
  rw [add_plain] at *
  exact (World.cell?_of_block (hg.block b (World.block_lt_of_cell? _ _ h1) (by simpa using hne))).trans h1, h.len⟩
theorem CellsN.kept {K : Nat → Prop} (h : CellsN w ⟨b, o, none⟩ k vs) (hk : Kept K w w') (hb : K b) : CellsN w' ⟨b, o, none⟩ k vs := ⟨fun j u hu => by
  have h1 := h.at' j u hu
  rw [add_plain] at *
  exact (World.cell?_of_block (hk.block b hb)).trans h1, h.len⟩
/-- A part. -/
theorem CellsN.part {us : List Value} (h : CellsN w ⟨b, o, none⟩ k vs) (c : Nat) {k' : Nat} (hu : (vs.drop c).take k' = us) (hl : c + k' ≤ k) : CellsN w ⟨b, o + c, none⟩ k' us := by
  have hv := h.len
  subst hu
  refine ⟨fun j u hj => ?_, by rw [List.length_take, List.length_drop]; omega⟩
  have hlt := (List.getElem?_eq_some_iff.1 hj).1
  rw [List.length_take, List.length_drop] at hlt
  rw [List.getElem?_take, if_pos (by omega), List.getElem?_drop] at hj
  have := h.at' _ u hj
  rw [add_plain] at *
  rw [Nat.add_assoc]
  exact this
theorem CellsN.cell {u : Value} (h : CellsN w ⟨b, o, none⟩ k vs) {j : Nat} (hu : vs[j]? = some u) : w.cell? ⟨b, o + j, none⟩ = some u := by
  have := h.at' j u hu
  rwa [add_plain] at this
theorem I.ldM (h : CellsN w p k vs) (hT : aggB P t = true) (hz : szB P t = some k) : (Instr.loadAt t (.pointer (some p))).run P w = .ok (.agg vs.toArray) w := I.ldN hT (by rw [hz, h.len]) h.at'
theorem RowL.cellsN {g e off : Nat} {xs : List Value} (h : RowL w g e xs) (hv : (xs.drop off).take k = vs) (hl : off + k ≤ xs.length) : CellsN w ⟨g, off, none⟩ k vs := by
  have hlen : vs.length = k := by rw [← hv, List.length_take, List.length_drop]; omega
  exact ⟨h.cells (by rw [hlen]; exact hv), hlen⟩
theorem RowL.elemN {α : Type} {enc : α → List Value} {g e i : Nat} {ts : List α} {x : α} (E : Enc enc k) (h : RowL w g e (ts.flatMap enc)) (hx : ts[i]? = some x) : CellsN w ⟨g, i * k, none⟩ k (enc x) := by
  have hi := (List.getElem?_eq_some_iff.1 hx).1
  have hf := E.flat ts
  have hin : i * k + k ≤ ts.length * k := by
    have : (i + 1) * k ≤ ts.length * k := Nat.mul_le_mul_right _ hi
    rw [Nat.add_mul] at this
    omega
  refine h.cellsN ?_ (by omega)
  rw [E.drop, ← Nat.one_mul k, E.take]
  rw [show ts.drop i = x :: ts.drop (i + 1) by rw [← (List.getElem?_eq_some_iff.1 hx).2]; exact List.drop_eq_getElem_cons hi]
  simp
theorem ReadsT.elemN {α : Type} {enc : α → List Value} (E : Enc enc k) {off n cap i : Nat} {ts : List α} {x : α} (h : ReadsT enc k w (.slice (some ⟨b, off, none⟩) n cap) ts) (hx : ts[i]? = some x) : CellsN w ⟨b, off + i * k, none⟩ k (enc x) := by
  obtain ⟨b', off', e, _, hc⟩ := h.get E hx
  simp only [Option.some.injEq, Addr.mk.injEq] at e
  obtain ⟨rfl, rfl, _⟩ := e
  exact ⟨hc, E.len x⟩
theorem ReadsT.kp {α : Type} {enc : α → List Value} {K : Nat → Prop} {off n cap : Nat} {ts : List α} (h : ReadsT enc k w (.slice (some ⟨b, off, none⟩) n cap) ts) (hk : Kept K w w') (hb : K b) : ReadsT enc k w' (.slice (some ⟨b, off, none⟩) n cap) ts :=
  h.sameB hk.size fun _ ho => (hk.block b hb).trans ho
end

section
variable {α : Type} {enc : α → List Value} {k : Nat} {P : Program} {w : World} {o : Oper} {n : Nat} {D : List Deferred} {M : Slots} {T e : TypeId} {z : Value} {bytes : Nat} {r : Option Nat} {ops : Array Oper} {Q : Exit → Act → World → Prop} {rest : List Oper}
end
end Go.Proofs.Ytplindpeiedcbaa
/- stream: Copy; going over the names that were told (written by genst3.py). -/
namespace Go.Proofs.Ytplindpeiedcbaa
set_option linter.unusedVariables false
set_option linter.unusedSimpArgs false
open Go.RowKit Go.Shelf
set_option maxRecDepth 100000
set_option maxHeartbeats 8000000
/-- Names with their numbers. -/
def inE (x : Nat × Nm) : List Value := [.int .i64 (x.1 : Int), .agg (nmE x.2).toArray]
def ixN (l : List Nm) : Nat → List (Nat × Nm)
  | 0 => []
  | k + 1 => match l[k]? with
    | some x => ixN l k ++ [(k, x)]
    | none => ixN l k
theorem ixN_step {l : List Nm} {k : Nat} {x : Nm} (h : l[k]? = some x) : ixN l (k + 1) = ixN l k ++ [(k, x)] := by
  show (match l[k]? with | some x => ixN l k ++ [(k, x)] | none => ixN l k) = _
  rw [h]
theorem ixN_len {l : List Nm} : ∀ {k : Nat}, k ≤ l.length → (ixN l k).length = k
  | 0, _ => rfl
  | k + 1, h => by
    rw [ixN_step (List.getElem?_eq_getElem (by omega)), List.length_append, ixN_len (by omega)]
    rfl
theorem ixN_pre {l : List Nm} (k : Nat) : ∀ n, k + n ≤ l.length → ∃ t, ixN l k ++ t = ixN l (k + n)
  | 0, _ => ⟨[], by simp⟩
  | n + 1, h => by
    obtain ⟨t, ht⟩ := ixN_pre (l := l) k n (by omega)
    refine ⟨t ++ [(k + n, l[k + n]'(by omega))], ?_⟩
    show _ = ixN l ((k + n) + 1)
    rw [ixN_step (List.getElem?_eq_getElem (by omega)), ← ht, List.append_assoc]
theorem ixN_at {l : List Nm} {pre : List (Nat × Nm)} {x : Nat × Nm} {t : List (Nat × Nm)} (h : (pre ++ [x]) ++ t = ixN l l.length) : x.1 = pre.length ∧ l[pre.length]? = some x.2 ∧ pre.length < l.length := by
  have hl := congrArg List.length h
  rw [ixN_len (Nat.le_refl _)] at hl
  simp at hl
  have hk : pre.length < l.length := by omega
  obtain ⟨y, hy⟩ : ∃ y, l[pre.length]? = some y := ⟨_, List.getElem?_eq_getElem hk⟩
  obtain ⟨t2, h2⟩ := ixN_pre (l := l) (pre.length + 1) (l.length - (pre.length + 1)) (by omega)
  rw [show pre.length + 1 + (l.length - (pre.length + 1)) = l.length by omega, ixN_step hy, ← h] at h2
  have hl2 : (ixN l pre.length).length = pre.length := ixN_len (by omega)
  simp only [List.append_assoc] at h2
  obtain ⟨_, h4⟩ := List.append_inj h2 hl2
  have h4' : (pre.length, y) :: t2 = x :: t := h4
  obtain rfl := (List.cons.inj h4').1
  exact ⟨rfl, hy, hk⟩
theorem reads_keeps {D : Nat → Prop} {w w' : World} {a : Option Addr} {n c bs : Nat} {l : List Nm} (h : ReadsT nmE 3 w (.slice a n c) l) (hs : w.heap.size ≤ w'.heap.size) (hk : Keeps D w w') (hD : D bs) (hbs : ∀ x, a = some x → 0 < n → x.block = bs) : ReadsT nmE 3 w' (.slice a n c) l := by
  obtain ⟨a', cap, e, hc, h'⟩ := h
  cases e
  refine ⟨a, c, rfl, hc, fun hne => ?_⟩
  obtain ⟨b, off, ha, hlt, hcell⟩ := h' hne
  have hb : b = bs := hbs _ ha (List.length_pos_iff.2 hne)
  subst hb
  exact ⟨b, off, ha, Nat.lt_of_lt_of_le hlt hs, fun j hj => (World.cell?_of_block (hk.same b hD)).trans (hcell j hj)⟩
theorem behind_nil (nv : Value) (us : List Nm) (w : World) (hv : ReadsT nmE 3 w nv us) (h2 : us.length ≤ 1000000) : Calls Try.prog 22 #[.slice none 0 0, nv] w fun e w' => ∃ v', e = .returned v' ∧ OwnsT nmE 3 w' w.heap.size 48 v' us ∧ Below w.heap.size w w' :=
  (behind_any (.slice none 0 0) nv [] us w w.heap.size (OwnsT.none _ _ _) hv (by decide) h2 (Nat.le_refl _)).mono fun e w' ⟨v', e1, oz, gra, _⟩ => ⟨v', e1, oz, (Below.refl w.heap.size w).grown gra (Nat.le_refl _) (fun k e => by cases e)⟩
theorem copy_any (g : Nat) {p : Bs} {many : Int} {key : Nat} {over : Bool} {why : Int} {w : World} (a : Option Addr) (n c : Nat) (ts : List Nm) (h : RowL w g 63 (stL p many key (.slice a n c) over why true)) (o : ReadsT nmE 3 w (.slice a n c) ts) (h1 : ts.length ≤ 1000000) : Calls Try.prog 13 #[.pointer (some ⟨g, 0, none⟩)] w fun e w' => ∃ g2 a' n' c', e = .returned (.pointer (some ⟨g2, 0, none⟩)) ∧ RowL w' g2 63 (stL p many key (.slice a' n' c') over why true) ∧ OwnsT nmE 3 w' (g2 + 1) 48 (.slice a' n' c') ts ∧ w.heap.size ≤ g2 ∧ Below w.heap.size w w' := by
  have q := Below.refl w.heap.size w
  have hF := fun X (b : Below w.heap.size w X) => o.up b
  clear o
  refine X.fn Try.func13 rfl (n := 15) rfl rfl ?_
  refine CC.seq ?_
  refine CC.region ?_
  refine LL.val (R.assign rfl rfl) rfl rfl rfl ?_
  refine LL.nilS ?_
  refine CC.seq ?_
  refine CC.seq ?_
  refine CC.region ?_
  refine LL.val (R.move rfl rfl) rfl rfl rfl ?_
  refine LL.call (R.call rfl rfl rfl) rfl rfl rfl (snone_any _ (by assumption)) ?_
  rintro e W' ⟨rfl, rfl⟩
  refine ⟨_, rfl, ?_⟩
  refine LL.nilS ?_
  refine CC.no rfl ?_
  refine CC.skip ?_
  refine EE.thenN ?_
  refine CC.seq ?_
  refine CC.region ?_
  refine LL.val (R.move rfl rfl) rfl rfl rfl ?_
  refine LL.val (R.nil rfl rfl) rfl rfl rfl ?_
  refine LL.val (R.load rfl rfl (I.ldNc (vs := [Value.int IntKind.i64 14, strV p, strV [], Value.int IntKind.i64 0, Value.int IntKind.i64 many, Value.int IntKind.u64 ↑key, Value.slice none 0 0, Value.slice a n c, Value.bool over, Value.int IntKind.i64 why, Value.bool true]) (RowL.cells h rfl) (by rfl) (by rfl))) rfl rfl rfl ?_
  have l57 := h.lt
  refine LL.alloc ([Value.int IntKind.i64 0, Value.string { data := { toList := [] } }, Value.string { data := { toList := [] } }, Value.int IntKind.i64 0, Value.int IntKind.i64 0, Value.int IntKind.u64 0, Value.slice none 0 0, Value.slice none 0 0, Value.bool false, Value.int IntKind.i64 0, Value.bool false]) rfl rfl rfl rfl rfl ?_
  intro W59 g60 eg60 r61 z62 b58
  replace h := h.up b58
  replace q := q.trans (b58.mono q.size)
  refine LL.storeN (vs := [Value.int IntKind.i64 14, strV p, strV [], Value.int IntKind.i64 0, Value.int IntKind.i64 many, Value.int IntKind.u64 ↑key, Value.slice none 0 0, Value.slice a n c, Value.bool over, Value.int IntKind.i64 why, Value.bool true]) rfl rfl rfl rfl r61 (by exact Nat.le_of_ble_eq_true rfl) (ones_of rfl) rfl rfl ?_
  intro W73 r74 b72 z75
  have hlb72 := r61.lt
  replace r74 : RowL W73 _ 63 [Value.int IntKind.i64 14, strV p, strV [], Value.int IntKind.i64 0, Value.int IntKind.i64 many, Value.int IntKind.u64 ↑key, Value.slice none 0 0, Value.slice a n c, Value.bool over, Value.int IntKind.i64 why, Value.bool true] := r74
  clear r61
  replace b58 := b58.grown b72 b58.size (by rintro k ⟨⟩; omega)
  replace h := h.gr b72 (by have := h.lt; omega)
  replace q := q.grown b72 q.size (by rintro k ⟨⟩; omega)
  have r61 := r74
  clear r74
  refine LL.nilS ?_
  refine CC.seq ?_
  refine CC.region ?_
  refine LL.val (R.move rfl rfl) rfl rfl rfl ?_
  refine LL.val (R.nil rfl rfl) rfl rfl rfl ?_
  refine LL.val (R.field rfl rfl (I.fld rfl)) rfl rfl rfl ?_
  refine LL.val (R.load rfl rfl (I.ld1 rfl (RowL.cell h rfl))) rfl rfl rfl ?_
  have l116 := h.lt
  have l117 := r61.lt
  (refine LL.call (R.call rfl rfl rfl) rfl rfl rfl (behind_nil _ ts _ (hF _ q) h1) ?_; rintro e W115 ⟨v', rfl, oz, b112⟩; refine ⟨_, rfl, ?_⟩; obtain ⟨az, cz, rfl, _⟩ := (oz.reads nmEnc).form rfl)
  have zb112 := b112.size
  replace b58 := b58.trans (b112.mono b58.size)
  replace h := h.up b112
  replace q := q.trans (b112.mono q.size)
  replace r61 := r61.up b112
  refine LL.val (R.field rfl rfl (I.fld rfl)) rfl rfl rfl ?_
  refine LL.store rfl rfl rfl rfl r61 (by exact Nat.le_of_ble_eq_true rfl) rfl rfl rfl rfl ?_
  intro W140 r141 b139 z142
  have hlb139 := r61.lt
  replace r141 : RowL W140 _ 63 [Value.int IntKind.i64 14, strV p, strV [], Value.int IntKind.i64 0, Value.int IntKind.i64 many, Value.int IntKind.u64 ↑key, Value.slice none 0 0, Value.slice az ts.length cz, Value.bool over, Value.int IntKind.i64 why, Value.bool true] := r141
  clear r61
  replace oz := oz.grown b139 (own_ne oz (by omega))
  replace b58 := b58.grown b139 b58.size (by rintro k ⟨⟩; omega)
  replace h := h.gr b139 (by have := h.lt; omega)
  replace q := q.grown b139 q.size (by rintro k ⟨⟩; omega)
  have r61 := r141
  clear r141
  refine LL.nilS ?_
  refine CC.seq ?_
  refine CC.region ?_
  refine LL.val (R.assign rfl rfl) rfl rfl rfl ?_
  refine LL.nilS ?_
  refine CC.ret ?_
  refine EE.ret _ rfl rfl ?_
  exact ⟨_, _, _, _, rfl, by assumption, OwnsT.lower oz (by omega), by omega, q⟩
theorem numbered1_gives (b bs : Nat) (a : Option Addr) (n c : Nat) (l : List Nm) (w : World) (hb : RowL w b 31 [.slice a n c]) (hv : ReadsT nmE 3 w (.slice a n c) l) (hn : l.length = n) (h : n ≤ 2000000) (hbs : ∀ x, a = some x → 0 < n → x.block = bs) :
    GivesZ Try.prog 30 [Value.pointer (some ⟨b, 0, none⟩)].toArray (fun x => (inE x).toArray) (fun k => k = bs) (fun xs => xs = ixN l l.length) w := by
  intro lp J Jx W hW hJ hJx hY h0
  replace hb := hb.up hW
  replace hv := hv.up hW
  have q := Below.refl W.heap.size W
  rw [show (#[.func (.yield lp) #[] #[]] ++ [Value.pointer (some ⟨b, 0, none⟩)].toArray : Array Value) = #[.func (.yield lp) #[] #[], .pointer (some ⟨b, 0, none⟩)] from rfl]
  refine X.fn Try.func30 rfl (n := 18) rfl rfl ?_
  refine CC.seq ?_
  refine CC.region ?_
  refine LL.val (R.load rfl rfl (I.ld1 rfl (RowL.cell hb rfl))) rfl rfl rfl ?_
  refine LL.val (R.len rfl rfl rfl rfl) rfl rfl rfl ?_
  refine LL.val (R.move rfl rfl) rfl rfl rfl ?_
  refine LL.nilS ?_
  refine CC.block ?_
  refine CC.loop (α := Nat) (fun i => [(0, .func (.yield lp) #[] #[]), (5, .slice a n c), (6, .int .i64 (n : Int)), (7, .int .i64 (i : Int))]) (fun i wr => i ≤ n ∧ W.heap.size ≤ wr.heap.size ∧ J (fun _ => False) (ixN l i) wr ∧ ReadsT nmE 3 wr (.slice a n c) l) (fun i => n - i) 0 ⟨rfl, rfl, rfl, rfl, trivial⟩ ⟨Nat.zero_le _, Nat.le_refl _, h0, hv⟩ ?_
  clear h0 q hb hv hW
  rintro i wr ⟨hi, hz, hJi, hv⟩
  show CC none Try.prog _ 18 [] (sl [(0, .func (.yield lp) #[] #[]), (5, .slice a n c), (6, .int .i64 (n : Int)), (7, .int .i64 (i : Int))]) _ wr
  by_cases hlt : i < n
  case neg =>
    obtain rfl : n = i := by omega
    refine CC.seq ?_
    refine CC.region ?_
    refine LL.val (R.ltF rfl rfl rfl (by omega)) rfl rfl rfl ?_
    refine LL.nilS ?_
    refine CC.seq ?_
    refine CC.no rfl ?_
    refine CC.exit ?_
    refine EE.thenX ?_
    refine EE.thenX ?_
    refine EE.inX ?_
    refine EE.end _ rfl rfl ?_
    exact ⟨⟨_, rfl⟩, .inl ⟨_, _, by rw [hn], hJi⟩⟩
  obtain ⟨x, hx⟩ : ∃ x, l[i]? = some x := ⟨_, List.getElem?_eq_getElem (by omega)⟩
  have hst := ixN_step hx
  have hpart : Part (fun xs => xs = ixN l l.length) (ixN l i ++ [(i, x)]) := by
    obtain ⟨t, ht⟩ := ixN_pre (l := l) (i + 1) (l.length - (i + 1)) (by omega)
    rw [show i + 1 + (l.length - (i + 1)) = l.length by omega] at ht
    exact ⟨_, rfl, t, by rw [← hst]; exact ht⟩
  obtain ⟨kx, nx, ix⟩ := x
  obtain ⟨b1, o1, rfl, lb1, _⟩ := hv.get nmEnc hx
  have m1 : CellsN wr ⟨b1, o1 + i * 3, none⟩ 3 [.int .u64 (kx : Int), strV nx, .int .i64 ix] := hv.elemN nmEnc hx
  have qn := Below.refl wr.heap.size wr
  have yield : ∀ X, Below wr.heap.size wr X → YieldAt Fence.wide 3 Try.prog lp (inE (i, kx, nx, ix)).toArray X fun e W' => (e = .returned (.bool true) ∧ W.heap.size ≤ W'.heap.size ∧ J (fun _ => False) (ixN l (i + 1)) W' ∧ ReadsT nmE 3 W' (.slice (some ⟨b1, o1, none⟩) n c) l) ∨ (e = .returned (.bool false) ∧ Jx (fun _ => False) (ixN l i ++ [(i, kx, nx, ix)]) W') := fun X b => by
    obtain ⟨fn, tm, ag, bd, hy, hR⟩ := hY (fun _ => False) _ _ X (fun k hk => hk.elim) (hJ _ (fun _ => False) _ _ _ hJi (.of_below b) fun k hk => hk.elim) hpart
    refine ⟨fn, tm, ag, bd, hy, hR.mono ?_⟩
    rintro e W' ⟨hs, (⟨rfl, h1, h2⟩ | ⟨rfl, h1⟩)⟩
    · exact .inl ⟨rfl, by have := hs.size; have := b.size; omega, by rw [hst]; exact h1, reads_keeps (hv.up b) hs.size h2 rfl hbs⟩
    · exact .inr ⟨rfl, h1⟩
  clear hJi hY hv
  refine CC.seq ?_
  refine CC.region ?_
  refine LL.val (R.ltT rfl rfl rfl (by omega)) rfl rfl rfl ?_
  refine LL.nilS ?_
  refine CC.seq ?_
  refine CC.yes rfl ?_
  refine CC.skip ?_
  refine EE.thenN ?_
  refine CC.seq ?_
  refine CC.block ?_
  refine CC.seq ?_
  refine CC.region ?_
  refine LL.val (R.move rfl rfl) rfl rfl rfl ?_
  refine LL.val (R.index rfl rfl rfl (I.ixS rfl (by omega))) rfl rfl rfl ?_
  refine LL.val (R.load rfl rfl (I.ldNc (by assumption) rfl rfl)) rfl rfl rfl ?_
  refine LL.alloc ([Value.int IntKind.u64 0, Value.string { data := { toList := [] } }, Value.int IntKind.i64 0]) rfl rfl rfl rfl rfl ?_
  intro Wb2 gb3 egb3 rb4 zb5 bb1
  replace m1 := m1.up bb1
  replace qn := qn.trans (bb1.mono qn.size)
  refine LL.val (R.assign rfl rfl) rfl rfl rfl ?_
  refine LL.storeN (vs := [Value.int IntKind.u64 ↑kx, strV nx, Value.int IntKind.i64 ix]) rfl rfl rfl rfl rb4 (by exact Nat.le_of_ble_eq_true rfl) (ones_of rfl) rfl rfl ?_
  intro Wb7 rb8 bb6 zb9
  have hlbb6 := rb4.lt
  replace rb8 : RowL Wb7 _ 48 [Value.int IntKind.u64 ↑kx, strV nx, Value.int IntKind.i64 ix] := rb8
  clear rb4
  replace bb1 := bb1.grown bb6 bb1.size (by rintro k ⟨⟩; omega)
  replace m1 := m1.gr bb6 (by have := m1.lt; omega)
  replace qn := qn.grown bb6 qn.size (by rintro k ⟨⟩; omega)
  have rb4 := rb8
  clear rb8
  refine LL.nilS ?_
  refine CC.seq ?_
  refine CC.region ?_
  refine LL.val (R.move rfl rfl) rfl rfl rfl ?_
  refine LL.val (R.move rfl rfl) rfl rfl rfl ?_
  refine LL.val (R.load rfl rfl (I.ldNc (vs := [Value.int IntKind.u64 ↑kx, strV nx, Value.int IntKind.i64 ix]) (RowL.cells rb4 rfl) (by rfl) (by rfl))) rfl rfl rfl ?_
  refine LL.yield (vs := inE (i, kx, nx, ix)) rfl rfl rfl rfl rfl (yield _ qn) ?_
  rintro e W4 (⟨rfl, z4, hJ4, hv4⟩ | ⟨rfl, hJx4⟩)
  · refine ⟨_, rfl, ?_⟩
    clear qn yield m1
    refine LL.val (R.not rfl rfl) rfl rfl rfl ?_
    refine LL.nilS ?_
    refine CC.no rfl ?_
    refine CC.skip ?_
    refine EE.inN ?_
    refine EE.thenN ?_
    refine CC.region ?_
    refine LL.val (R.addNc rfl rfl rfl rfl (by omega)) rfl rfl rfl ?_
    refine LL.val (R.move rfl rfl) rfl rfl rfl ?_
    refine LL.nil ?_
    exact EE.round (i + 1) ⟨rfl, rfl, rfl, rfl, trivial⟩ ⟨by show i + 1 ≤ n; omega, z4, hJ4, hv4⟩ (by show n - (i + 1) < n - i; omega)
  · refine ⟨_, rfl, ?_⟩
    clear qn yield m1
    refine LL.val (R.not rfl rfl) rfl rfl rfl ?_
    refine LL.nilS ?_
    refine CC.yes rfl ?_
    refine CC.ret ?_
    refine EE.inR ?_
    refine EE.thenR ?_
    refine EE.thenR ?_
    refine EE.inR ?_
    refine EE.ret _ rfl rfl ?_
    exact ⟨⟨_, rfl⟩, .inr ⟨_, _, hpart, hJx4⟩⟩
end Go.Proofs.Ytplindpeiedcbaa
/- stream: Told; the law's told (written by genst4.py). -/
namespace Go.Proofs.Ytplindpeiedcbaa
set_option linter.unusedVariables false
set_option linter.unusedSimpArgs false
open Go.RowKit Go.Shelf
set_option maxRecDepth 100000
set_option maxHeartbeats 8000000
theorem StaysZ.sub {B B' : Nat} {m m' : Nat → Prop} {W W' : World} (h : StaysZ B m W W') (hB : B ≤ B') (hm : ∀ k, m' k → m k) : StaysZ B' m' W W' := ⟨h.size, fun k o hk ho hc => h.same k o (Nat.le_trans hB hk) ho (hc.imp_left (hm k))⟩
theorem numbered_any (a : Option Addr) (n c : Nat) (w : World) : Calls Try.prog 29 #[.slice a n c] w fun e w' => ∃ o1, e = .returned (.func (.func 30) #[] #[.pointer (some ⟨o1, 0, none⟩)]) ∧ RowL w' o1 31 [.slice a n c] ∧ w.heap.size ≤ o1 ∧ Below w.heap.size w w' := by
  have q := Below.refl w.heap.size w
  refine X.fn Try.func29 rfl (n := 4) rfl rfl ?_
  refine CC.seq ?_
  refine CC.region ?_
  refine LL.box [Value.slice a n c] rfl rfl rfl rfl rfl ?_
  intro W2 g3 eg3 r4 z5 b1
  replace q := q.trans (b1.mono q.size)
  refine LL.val (R.assign rfl rfl) rfl rfl rfl ?_
  refine LL.nilS ?_
  refine CC.seq ?_
  refine CC.region ?_
  refine LL.val (R.func rfl rfl rfl) rfl rfl rfl ?_
  refine LL.val (R.assign rfl rfl) rfl rfl rfl ?_
  refine LL.nilS ?_
  refine CC.ret ?_
  refine EE.ret _ rfl rfl ?_
  exact ⟨_, rfl, by assumption, by omega, q⟩
def mG (gy : Nat) (m : Nat → Prop) (k : Nat) : Prop := k = gy ∨ m k
theorem told1_gives (b3 bs : Nat) (a : Option Addr) (n c : Nat) (l : List Nm) (w : World) (hb : RowL w b3 31 [.slice a n c]) (hv : ReadsT nmE 3 w (.slice a n c) l) (hn : l.length = n) (h : n ≤ 2000000) (hbs : ∀ x, a = some x → 0 < n → x.block = bs) (hbl : bs < w.heap.size) :
    GivesZ Try.prog 28 [Value.pointer (some ⟨b3, 0, none⟩)].toArray (fun x => (inE x).toArray) (fun k => k = bs) (fun xs => xs = ixN l l.length) w := by
  intro lp J Jx W hW hJ hJx hY h0
  replace hb := hb.up hW
  replace hv := hv.up hW
  have hbl' : bs < W.heap.size := Nat.lt_of_lt_of_le hbl hW.size
  have q := Below.refl W.heap.size W
  have hvF : ∀ X, Below W.heap.size W X → ReadsT nmE 3 X (.slice a n c) l := fun X b => hv.up b
  clear hv
  rw [show (#[.func (.yield lp) #[] #[]] ++ [Value.pointer (some ⟨b3, 0, none⟩)].toArray : Array Value) = #[.func (.yield lp) #[] #[], .pointer (some ⟨b3, 0, none⟩)] from rfl]
  refine X.fnM Try.func28 rfl (n := 14) rfl rfl ?_
  refine CC.seq ?_
  refine CC.region ?_
  have l9 := hb.lt
  refine LL.box [Value.func (Fn.yield lp) #[] #[]] rfl rfl rfl rfl rfl ?_
  intro W11 g12 eg12 r13 z14 b10
  replace hW := hW.trans (b10.mono hW.size)
  replace hb := hb.up b10
  replace q := q.trans (b10.mono q.size)
  refine LL.nilS ?_
  refine CC.straight ?_
  refine CC.seq ?_
  refine CC.label ?_
  refine EE.thenN ?_
  refine CC.seq ?_
  refine CC.region ?_
  refine LL.val (R.load rfl rfl (I.ld1 rfl (RowL.cell hb rfl))) rfl rfl rfl ?_
  have l28 := r13.lt
  have l29 := hb.lt
  (refine LL.call (R.call rfl rfl rfl) rfl rfl rfl (numbered_any a n c _) ?_; rintro e W27 ⟨o1, rfl, hb1, ho1, b24⟩; refine ⟨_, rfl, ?_⟩)
  have zb24 := b24.size
  replace r13 := r13.up b24
  replace b10 := b10.trans (b24.mono b10.size)
  replace hW := hW.trans (b24.mono hW.size)
  replace hb := hb.up b24
  replace q := q.trans (b24.mono q.size)
  refine LL.nilS ?_
  refine CC.block ?_
  obtain ⟨W0, eW⟩ : ∃ X, X = W27 := ⟨_, rfl⟩
  obtain ⟨gy, ey⟩ : ∃ X, X = g12 := ⟨_, rfl⟩
  have hry := r13
  subst eW ey
  have lo1 := hb1.lt
  have ly := hry.lt
  have yq := q.size
  have hG := numbered1_gives o1 bs a n c l W0 hb1 (hvF _ q) hn h hbs
  have turn : ∀ m X Y, TurnsZ W0.heap.size m X Y → TurnsZ W.heap.size (mG gy m) X Y := fun m X Y ht => ⟨ht.os, ht.tape, ht.output, ht.size, fun k o hk hc => ht.same k o hk (by
    rcases hc with hc | ⟨hc, hd⟩
    · exact .inl (by omega)
    · exact .inr ⟨fun h => hc (.inr h), hd⟩)⟩
  have news : ∀ (m m' : Nat → Prop) (X : World), (∀ k, m' k → m k ∨ X.heap.size ≤ k) → ∀ k, mG gy m' k → mG gy m k ∨ X.heap.size ≤ k := fun m m' X h k hk => by
    rcases hk with hk | hk
    · exact .inl (.inl hk)
    · exact (h k hk).imp_left .inr
  have hJ0 : J (mG gy fun _ => False) [] W0 := hJ _ _ _ _ _ h0 (.of_below q) (fun k hk => .inr (by rcases hk with hk | hk; omega; exact hk.elim))
  clear h0 hW hb hvF b10 b24
  have qB := Below.refl W0.heap.size W0
  have lbs : bs < W0.heap.size := by omega
  refine CC.rangeZ (γ := Nat) (gf := 30) (lb := [Value.pointer (some ⟨o1, 0, none⟩)]) (encs := inE) rfl rfl hG qB (fun k hk => by (try simp only at hk); omega) (fun _ => rfl) rfl
    (fun m pre W' => W0.heap.size ≤ W'.heap.size ∧ J (mG gy m) pre W' ∧ RowL W' gy 74 [.func (.yield lp) #[] #[]])
    (fun m pre W' => Jx (mG gy m) pre W')
    (fun W' => (∃ m, J m (ixN l l.length) W') ∨ ∃ m pre, Part (fun xs => xs = ixN l l.length) pre ∧ Jx m pre W')
    (fun m m' s X Y hs ht hm => ⟨by have := ht.size; omega, hJ _ _ _ _ _ hs.2.1 (turn _ _ _ ht) (news _ _ _ hm), ht.row hs.2.2 (.inl (by omega))⟩)
    (fun m m' s X Y hs ht hm => hJx _ _ _ _ _ hs (turn _ _ _ ht) (news _ _ _ hm))
    ⟨Nat.le_refl _, hJ0, hry⟩ (fun m xs W' hS hi => .inl ⟨_, hS ▸ hi.2.1⟩) (fun m pre W' hp hi => .inr ⟨_, _, hp, hi⟩)
    (fun x g => sl [(2, .pointer (some ⟨gy, 0, none⟩)), (3, .int .i64 (x.1 : Int)), (4, .pointer (some ⟨g, 0, none⟩))]) (fun x g W' => RowL W' g 48 (nmE x.2) ∧ W0.heap.size ≤ g) (fun x g => fun _ W W' row h hg hr => ⟨RowL.own () W W' row h.1 hg hr, h.2⟩) ?assign ?body ?after
  case assign =>
    rintro l' m pre ⟨i, kx, nx, ix⟩ X Kc hm ⟨h1, h2, h3⟩ hKc
    have qa := Below.refl X.heap.size X
    have hup : ∀ Y, Below X.heap.size X Y → W0.heap.size ≤ Y.heap.size ∧ J (mG gy m) pre Y ∧ RowL Y gy 74 [.func (.yield lp) #[] #[]] := fun Y b => ⟨by have := b.size; omega, hJ _ _ _ _ _ h2 (.of_below b) (fun k hk => .inl hk), h3.up b⟩
    clear h2 h3 hry hb1
    refine CC.seq ?_
    refine CC.region ?_
    refine LL.val (R.assign rfl rfl) rfl rfl rfl ?_
    refine LL.nilS ?_
    refine CC.region ?_
    refine LL.alloc ([Value.int IntKind.u64 0, Value.string { data := { toList := [] } }, Value.int IntKind.i64 0]) rfl rfl rfl rfl rfl ?_
    intro Wa2 ga3 ega3 ra4 za5 ba1
    replace qa := qa.trans (ba1.mono qa.size)
    refine LL.storeN (vs := [Value.int IntKind.u64 ↑kx, strV nx, Value.int IntKind.i64 ix]) rfl rfl rfl rfl ra4 (by exact Nat.le_of_ble_eq_true rfl) (ones_of rfl) rfl rfl ?_
    intro Wa7 ra8 ba6 za9
    have hlba6 := ra4.lt
    replace ra8 : RowL Wa7 _ 48 [Value.int IntKind.u64 ↑kx, strV nx, Value.int IntKind.i64 ix] := ra8
    clear ra4
    replace ba1 := ba1.grown ba6 ba1.size (by rintro k ⟨⟩; omega)
    replace qa := qa.grown ba6 qa.size (by rintro k ⟨⟩; omega)
    have ra4 := ra8
    clear ra8
    refine LL.nil ?_
    exact EE.thenK fun a' F => hKc a' _ _ (StaysZ.of_below qa) (Keeps.of_below (fun k hk => by (try simp only at hk); omega) qa) (hup _ qa) (F.keep _ ⟨rfl, rfl, rfl, trivial⟩) ⟨by assumption, by omega⟩
  case body =>
    rintro l' m pre ⟨i, kx, nx, ix⟩ g X hm hl' hrl ⟨hz, hJr, hyr⟩ ⟨hx, hgB⟩ hp
    have hx : RowL X g 48 [.int .u64 (kx : Int), strV nx, .int .i64 ix] := hx
    clear hry hJ0 hG hb1 q
    have hy := hY _ _ _ X (fun k hk => by
      rcases hk with hk | hk
      · omega
      · have := hm k hk; omega) hJr hp
    clear hY
    refine CC.block ?_
    refine CC.seq ?_
    refine CC.region ?_
    refine LL.val (R.load rfl rfl (I.ld1 rfl (RowL.cell hyr rfl))) rfl rfl rfl ?_
    refine LL.val (R.move rfl rfl) rfl rfl rfl ?_
    refine LL.val (R.load rfl rfl (I.ldNc (vs := [Value.int IntKind.u64 ↑kx, strV nx, Value.int IntKind.i64 ix]) (RowL.cells hx rfl) (by rfl) (by rfl))) rfl rfl rfl ?_
    refine LL.yield (vs := inE (i, kx, nx, ix)) rfl rfl rfl rfl rfl hy ?_
    rintro e Y ⟨hs, (⟨rfl, hJ4, hk4⟩ | ⟨rfl, hJx4⟩)⟩
    · refine ⟨_, rfl, ?_⟩
      have hyr4 := hs.row hyr (by omega) (.inl rfl)
      have hsz := hs.size
      refine LL.val (R.not rfl rfl) rfl rfl rfl ?_
      refine LL.nilS ?_
      refine CC.no rfl ?_
      refine CC.skip ?_
      refine EE.inN ?_
      exact EE.roundNZ ⟨hs.sub (by omega) (fun k h => .inr h), hk4, by omega, hJ4, hyr4⟩
    · refine ⟨_, rfl, ?_⟩
      refine LL.val (R.not rfl rfl) rfl rfl rfl ?_
      refine LL.nilS ?_
      refine CC.yes rfl ?_
      refine CC.exit ?_
      refine EE.inX' rfl ?_
      exact EE.roundXZ ⟨hs.sub (by omega) (fun k h => .inr h), rfl, hJx4⟩
  case after =>
    clear hry hJ0 hG hb1 q
    rintro E Y hE hA hK
    refine EE.noN ?_
    refine EE.end1 hK [] rfl rfl ?_
    refine ⟨⟨_, rfl⟩, ?_⟩
    rcases hA with ⟨m, h⟩ | ⟨m, p, hp, h⟩
    · exact .inl ⟨m, _, rfl, hJ.putObj _ h (by omega) hK rfl⟩
    · exact .inr ⟨m, p, hp, hJx.putObj _ h (by omega) hK rfl⟩
end Go.Proofs.Ytplindpeiedcbaa
/- stream: Told; the law's told (written by genst5.py). -/
namespace Go.Proofs.Ytplindpeiedcbaa
set_option linter.unusedVariables false
set_option linter.unusedSimpArgs false
open Go.RowKit Go.Shelf
set_option maxRecDepth 100000
set_option maxHeartbeats 8000000
def toR (b : Nat) (ts : List Nm) (W : World) : Prop := ∃ a n c, RowL W b 31 [.slice a n c] ∧ OwnsT nmE 3 W (b + 1) 48 (.slice a n c) ts
theorem toR.up {b : Nat} {ts : List Nm} {W W' : World} (h : toR b ts W) (k : Below W.heap.size W W') : toR b ts W' := by
  obtain ⟨a, n, c, r, o⟩ := h
  exact ⟨a, n, c, r.up k, o.up k⟩
theorem told_any (g : Nat) {p : Bs} {many : Int} {key : Nat} {over : Bool} {why : Int} {w : World} (a : Option Addr) (n c : Nat) (ts : List Nm) (h : RowL w g 63 (stL p many key (.slice a n c) over why true)) (o : ReadsT nmE 3 w (.slice a n c) ts) (h1 : ts.length ≤ 1000000) : Calls Try.prog 23 #[.pointer (some ⟨g, 0, none⟩)] w fun e w' => ∃ b3, e = .returned (.func (.func 28) #[] #[.pointer (some ⟨b3, 0, none⟩)]) ∧ toR b3 ts w' ∧ w.heap.size ≤ b3 ∧ Below w.heap.size w w' := by
  have q := Below.refl w.heap.size w
  have hF := fun X (b : Below w.heap.size w X) => o.up b
  clear o
  refine X.fn Try.func23 rfl (n := 14) rfl rfl ?_
  refine CC.seq ?_
  refine CC.region ?_
  refine LL.val (R.assign rfl rfl) rfl rfl rfl ?_
  refine LL.nilS ?_
  refine CC.seq ?_
  refine CC.region ?_
  have l33 := h.lt
  refine LL.alloc ([Value.slice none 0 0]) rfl rfl rfl rfl rfl ?_
  intro W35 g36 eg36 r37 z38 b34
  replace h := h.up b34
  replace q := q.trans (b34.mono q.size)
  refine LL.nilS ?_
  refine CC.seq ?_
  refine CC.seq ?_
  refine CC.region ?_
  refine LL.val (R.move rfl rfl) rfl rfl rfl ?_
  refine LL.call (R.call rfl rfl rfl) rfl rfl rfl (snone_any _ (by assumption)) ?_
  rintro e W' ⟨rfl, rfl⟩
  refine ⟨_, rfl, ?_⟩
  refine LL.val (R.not rfl rfl) rfl rfl rfl ?_
  refine LL.nilS ?_
  refine CC.yes rfl ?_
  refine CC.freeZ (fun W_ j => j < W_.heap.size ∧ (j ≠ g36)) (by kernel_rfl) (by kernel_rfl) (fun W94 b93 z95 => ?_)
  replace r37 := r37.up b93
  replace b34 := b34.trans (b93.mono b34.size)
  replace h := h.up b93
  replace q := q.trans (b93.mono q.size)
  have hok : Kept (fun j => j < W94.heap.size ∧ (j ≠ g36)) W94 W94 := Kept.refl _ _
  have fzh := fzRow (K := fun j => j < W94.heap.size ∧ (j ≠ g36)) h ⟨h.lt, (by first | trivial | omega)⟩
  refine AA.pure 1 rfl hok (by kernel_rfl) (fun w' b' => R.move rfl rfl) rfl rfl ?_
  refine AA.pure 2 rfl hok (by kernel_rfl) (fun w' b' => R.nil rfl rfl) rfl rfl ?_
  refine AA.pure 3 rfl hok (by kernel_rfl) (fun w' b' => R.field rfl rfl (I.fld rfl)) rfl rfl ?_
  refine AA.pure 4 rfl hok (by kernel_rfl) (fun w' b' => R.load rfl rfl (I.ld1 rfl (RowL.cell (fzh w' b') rfl))) rfl rfl ?_
  refine AA.one 0 (by kernel_rfl) ?_
  refine SR.val rfl (R.load rfl rfl (I.ld1 rfl (RowL.cell r37 rfl))) rfl rfl hok ?_
  refine AA.one 5 (by kernel_rfl) ?_
  have l127 := r37.lt
  have l128 := h.lt
  (refine SR.call rfl (R.call rfl rfl rfl) rfl rfl (behind_nil _ ts _ (hF _ q) h1) ?_; rintro e W126 ⟨v', rfl, oz, b123⟩; refine ⟨_, rfl, ?_⟩; obtain ⟨az, cz, rfl, _⟩ := (oz.reads nmEnc).form rfl)
  have zb123 := b123.size
  replace b93 := b93.trans (b123.mono b93.size)
  replace r37 := r37.up b123
  replace b34 := b34.trans (b123.mono b34.size)
  replace h := h.up b123
  replace q := q.trans (b123.mono q.size)
  replace hok := hok.trans (bkept b123 (fun j h => by have := h.1; have := hok.size; omega))
  have y132 := hok.size
  refine ⟨hok, ?_⟩
  refine AA.one 6 (by kernel_rfl) ?_
  refine ZR.store rfl rfl rfl rfl rfl r37 (by exact Nat.le_of_ble_eq_true rfl) rfl rfl rfl rfl ?_
  intro W152 r153 b151 z154
  have hlb151 := r37.lt
  replace r153 : RowL W152 _ 31 [Value.slice az ts.length cz] := r153
  clear r37
  replace oz := oz.grown b151 (own_ne oz (by omega))
  replace b34 := b34.grown b151 b34.size (by rintro k ⟨⟩; omega)
  replace h := h.gr b151 (by have := h.lt; omega)
  replace q := q.grown b151 q.size (by rintro k ⟨⟩; omega)
  replace hok := hok.trans (grown_kept b151 (fun j h => by have := h.1; have := hok.size; omega) (fun j h e => by cases e; have h2 := h.1; have h3 := h.2; omega))
  have r37 := r153
  clear r153
  refine ⟨hok, ?_⟩
  refine AA.done rfl ?_
  clear fzh hok
  refine EE.thenN ?_
  refine CC.seq ?_
  refine CC.region ?_
  refine LL.val (R.func rfl rfl rfl) rfl rfl rfl ?_
  refine LL.val (R.assign rfl rfl) rfl rfl rfl ?_
  refine LL.nilS ?_
  refine CC.ret ?_
  refine EE.ret _ rfl rfl ?_
  exact ⟨_, rfl, ⟨_, _, _, (by assumption), OwnsT.lower oz (by omega)⟩, by omega, q⟩
theorem ltold_any (g : Nat) {p : Bs} {many : Int} {key : Nat} {over : Bool} {why : Int} {w : World} (a : Option Addr) (n c : Nat) (ts : List Nm) (h : RowL w g 63 (stL p many key (.slice a n c) over why true)) (o : ReadsT nmE 3 w (.slice a n c) ts) (h1 : ts.length ≤ 1000000) : Calls Try.prog 16 #[.pointer (some ⟨g, 0, none⟩)] w fun e w' => ∃ a' n' c', e = .returned (.tuple #[.slice a' n' c', .bool true]) ∧ ReadsT nmE 3 w' (.slice a' n' c') ts ∧ Below w.heap.size w w' := by
  have q := Below.refl w.heap.size w
  have hcon := fun W (b : Below w.heap.size w W) => told_any g a n c ts (h.up b) (o.up b) h1
  clear h o
  refine X.fnM Try.func16 rfl (n := 24) rfl rfl ?_
  refine CC.seq ?_
  refine CC.region ?_
  refine LL.alloc ([Value.slice none 0 0]) rfl rfl rfl rfl rfl ?_
  intro W9 g10 eg10 r11 z12 b8
  replace q := q.trans (b8.mono q.size)
  have l21 := r11.lt
  refine LL.alloc ([Value.bool false]) rfl rfl rfl rfl rfl ?_
  intro W23 g24 eg24 r25 z26 b22
  replace r11 := r11.up b22
  replace b8 := b8.trans (b22.mono b8.size)
  replace q := q.trans (b22.mono q.size)
  refine LL.nilS ?_
  refine CC.seq ?_
  refine CC.region ?_
  have l36 := r25.lt
  have l37 := r11.lt
  refine LL.alloc ([Value.slice none 0 0]) rfl rfl rfl rfl rfl ?_
  intro W39 g40 eg40 r41 z42 b38
  replace r25 := r25.up b38
  replace b22 := b22.trans (b38.mono b22.size)
  replace r11 := r11.up b38
  replace b8 := b8.trans (b38.mono b8.size)
  replace q := q.trans (b38.mono q.size)
  refine LL.nilS ?_
  refine CC.seq ?_
  refine CC.region ?_
  refine LL.val (R.move rfl rfl) rfl rfl rfl ?_
  have l57 := r41.lt
  have l58 := r25.lt
  have l59 := r11.lt
  (refine LL.call (R.call rfl rfl rfl) rfl rfl rfl (hcon _ q) ?_; rintro e W56 ⟨b3, rfl, htr, hb3, b53⟩; refine ⟨_, rfl, ?_⟩)
  have zb53 := b53.size
  replace r41 := r41.up b53
  replace b38 := b38.trans (b53.mono b38.size)
  replace r25 := r25.up b53
  replace b22 := b22.trans (b53.mono b22.size)
  replace r11 := r11.up b53
  replace b8 := b8.trans (b53.mono b8.size)
  replace q := q.trans (b53.mono q.size)
  refine LL.val (R.assign rfl rfl) rfl rfl rfl ?_
  refine LL.nilS ?_
  refine CC.seq ?_
  refine CC.seq ?_
  refine CC.region ?_
  refine LL.val (R.move rfl rfl) rfl rfl rfl ?_
  refine LL.val (R.eqFn rfl rfl rfl rfl) rfl rfl rfl ?_
  refine LL.nilS ?_
  refine CC.no rfl ?_
  refine CC.skip ?_
  refine EE.thenN ?_
  refine CC.seq ?_
  refine CC.seq ?_
  refine CC.region ?_
  refine LL.val (R.move rfl rfl) rfl rfl rfl ?_
  refine LL.nilS ?_
  refine CC.block ?_
  obtain ⟨a3, n3, c3, r3, o3⟩ := htr
  obtain ⟨bs, hbs, hbl, hb9⟩ : ∃ bs, (∀ x, a3 = some x → 0 < n3 → x.block = bs) ∧ bs < W56.heap.size ∧ b3 ≤ bs := by
    rcases o3.above with e | ⟨b, e, hbx, hb⟩
    · exact ⟨b3, fun x hx _ => (by subst hx; cases e), r3.lt, Nat.le_refl _⟩
    · exact ⟨b, fun x hx _ => (by subst hx; exact Option.some.inj e), hb, by omega⟩
  have hn3 : ts.length = n3 := by
    obtain ⟨_, _, e, _⟩ := (o3.reads nmEnc).form rfl
    cases e
    rfl
  have rr := o3.reads nmEnc
  obtain ⟨W0, eW⟩ : ∃ X, X = W56 := ⟨_, rfl⟩
  obtain ⟨ga, ea⟩ : ∃ X, X = g10 := ⟨_, rfl⟩
  obtain ⟨gb, eb⟩ : ∃ X, X = g24 := ⟨_, rfl⟩
  obtain ⟨go, eo⟩ : ∃ X, X = g40 := ⟨_, rfl⟩
  have ra1 := r11
  have rb1 := r25
  have ro1 := r41
  subst eW ea eb eo
  have hG := told1_gives b3 bs a3 n3 c3 ts W0 r3 rr hn3 (by omega) hbs hbl
  have hord : ga < gb ∧ gb < go ∧ go < W0.heap.size ∧ go < bs ∧ w.heap.size ≤ ga := by have := ro1.lt; omega
  have qB := Below.refl W0.heap.size W0
  have hwz := q.size
  clear b8 b22 b38 b53 r11 r25 r41 r3 rr o3
  refine CC.rangeZ (γ := Nat) (gf := 28) (lb := [Value.pointer (some ⟨b3, 0, none⟩)]) (encs := inE) rfl rfl hG qB (fun k hk => by (try simp only at hk); omega) (fun _ => rfl) rfl
    (fun m pre W' => W0.heap.size ≤ W'.heap.size ∧ Below w.heap.size w W' ∧ RowL W' ga 31 [.slice none 0 0] ∧ RowL W' gb 4 [.bool false] ∧ ∃ a n c, RowL W' go 31 [.slice a n c] ∧ OwnsT nmE 3 W' W0.heap.size 48 (.slice a n c) (ts.take pre.length) ∧ ∀ b, (Value.slice a n c).ownBlock = some b → ¬ m b)
    (fun m pre W' => False)
    (fun W' => W0.heap.size ≤ W'.heap.size ∧ Below w.heap.size w W' ∧ RowL W' ga 31 [.slice none 0 0] ∧ RowL W' gb 4 [.bool false] ∧ ∃ a n c, RowL W' go 31 [.slice a n c] ∧ OwnsT nmE 3 W' W0.heap.size 48 (.slice a n c) ts)
    (fun m m' s X Y hs ht hm => by
      obtain ⟨h1, hq, ra, rb, a, n, c, r, o, hno⟩ := hs
      exact ⟨Nat.le_trans h1 ht.size, hq.trans (ht.below hwz (Nat.le_trans hwz h1)), ht.row ra (.inl (by omega)), ht.row rb (.inl (by omega)), a, n, c, ht.row r (.inl (by omega)), o.turn ht hno, own_later o hno hm⟩)
    (fun m m' s X Y hs ht hm => hs)
    ⟨Nat.le_refl _, q, ra1, rb1, _, _, _, ro1, OwnsT.none _ _ _, fun b hb => by cases hb⟩
    (fun m xs W' hS hi => by
      obtain ⟨h1, hq, ra, rb, a, n, c, r, o, hno⟩ := hi
      rw [hS, ixN_len (Nat.le_refl _), List.take_length] at o
      exact ⟨h1, hq, ra, rb, a, n, c, r, o⟩)
    (fun m pre W' hp hi => hi.elim)
    (fun x g => sl [(2, .pointer (some ⟨ga, 0, none⟩)), (3, .pointer (some ⟨gb, 0, none⟩)), (4, .pointer (some ⟨go, 0, none⟩)), (6, .int .i64 (x.1 : Int)), (7, .pointer (some ⟨g, 0, none⟩))]) (fun x g W' => RowL W' g 48 (nmE x.2) ∧ W0.heap.size ≤ g) (fun x g => fun _ W W' row h hg hr => ⟨RowL.own () W W' row h.1 hg hr, h.2⟩) ?assign ?body ?after
  case assign =>
    rintro l' m pre ⟨i, kx, nx, ix⟩ X Kc hm ⟨h8, hq, ra, rb, a, n, c, r, o, hno⟩ hKc
    have qa := Below.refl X.heap.size X
    have hup : ∀ Y, Below X.heap.size X Y → W0.heap.size ≤ Y.heap.size ∧ Below w.heap.size w Y ∧ RowL Y ga 31 [.slice none 0 0] ∧ RowL Y gb 4 [.bool false] ∧ ∃ a n c, RowL Y go 31 [.slice a n c] ∧ OwnsT nmE 3 Y W0.heap.size 48 (.slice a n c) (ts.take pre.length) ∧ ∀ b, (Value.slice a n c).ownBlock = some b → ¬ m b := fun Y b => ⟨Nat.le_trans h8 b.size, hq.trans (b.mono hq.size), ra.up b, rb.up b, a, n, c, r.up b, o.up b, hno⟩
    clear r o ra1 rb1 ro1 ra rb hq q
    refine CC.seq ?_
    refine CC.region ?_
    refine LL.val (R.assign rfl rfl) rfl rfl rfl ?_
    refine LL.nilS ?_
    refine CC.region ?_
    refine LL.alloc ([Value.int IntKind.u64 0, Value.string { data := { toList := [] } }, Value.int IntKind.i64 0]) rfl rfl rfl rfl rfl ?_
    intro Wa2 ga3 ega3 ra4 za5 ba1
    replace qa := qa.trans (ba1.mono qa.size)
    refine LL.storeN (vs := [Value.int IntKind.u64 ↑kx, strV nx, Value.int IntKind.i64 ix]) rfl rfl rfl rfl ra4 (by exact Nat.le_of_ble_eq_true rfl) (ones_of rfl) rfl rfl ?_
    intro Wa7 ra8 ba6 za9
    have hlba6 := ra4.lt
    replace ra8 : RowL Wa7 _ 48 [Value.int IntKind.u64 ↑kx, strV nx, Value.int IntKind.i64 ix] := ra8
    clear ra4
    replace ba1 := ba1.grown ba6 ba1.size (by rintro k ⟨⟩; omega)
    replace qa := qa.grown ba6 qa.size (by rintro k ⟨⟩; omega)
    have ra4 := ra8
    clear ra8
    refine LL.nil ?_
    exact EE.thenK fun a' F => hKc a' _ _ (StaysZ.of_below qa) (Keeps.of_below (fun k hk => by (try simp only at hk); omega) qa) (hup _ qa) (F.keep _ ⟨rfl, rfl, rfl, rfl, rfl, trivial⟩) ⟨by assumption, by omega⟩
  case body =>
    rintro l' m pre ⟨i, kx, nx, ix⟩ g7 X hm hl' hrl ⟨hz, hq, ra, rb, a, n, c, r, o, hno⟩ ⟨hx, hgB⟩ ⟨xs, hxs, tt, hp⟩
    rw [hxs] at hp
    obtain ⟨e1, e2, e3⟩ := ixN_at hp
    dsimp only at e1 e2
    subst e1
    have hx : RowL X g7 48 [.int .u64 (kx : Int), strV nx, .int .i64 ix] := hx
    have hxd : (pre ++ [(pre.length, kx, nx, ix)]).length = pre.length + 1 := by simp
    have hst : ts.take (pre.length + 1) = ts.take pre.length ++ [(kx, nx, ix)] := by rw [List.take_add_one, e2]; rfl
    have hlt : (ts.take pre.length).length = pre.length := by rw [List.length_take]; omega
    obtain ⟨_, _, e, _⟩ := (o.reads nmEnc).form hlt
    cases e
    have st := StaysZ.refl W0.heap.size m X
    have kp := Keeps.refl (fun k => k = bs) X
    have yX := Below.refl X.heap.size X
    clear ra1 rb1 ro1 hl' hrl hp hxs q
    refine CC.block ?_
    refine CC.seq ?_
    refine CC.seq ?_
    refine CC.region ?_
    refine LL.val (R.move rfl rfl) rfl rfl rfl ?_
    refine LL.val (R.load rfl rfl (I.ld1 rfl (RowL.cell r rfl))) rfl rfl rfl ?_
    refine LL.val (R.len rfl rfl rfl rfl) rfl rfl rfl ?_
    refine LL.val (R.neF rfl rfl rfl (by omega)) rfl rfl rfl ?_
    refine LL.nilS ?_
    refine CC.no rfl ?_
    refine CC.skip ?_
    refine EE.thenN ?_
    refine CC.region ?_
    refine LL.val (R.load rfl rfl (I.ld1 rfl (RowL.cell r rfl))) rfl rfl rfl ?_
    refine LL.val (R.load rfl rfl (I.ldNc (vs := [Value.int IntKind.u64 ↑kx, strV nx, Value.int IntKind.i64 ix]) (RowL.cells hx rfl) (by rfl) (by rfl))) rfl rfl rfl ?_
    have lb1 := ra.lt
    have lb2 := rb.lt
    have lb3 := hx.lt
    have lb4 := hx.lt
    have lb5 := r.lt
    refine LL.lit (e := 48) [Value.int IntKind.u64 ↑kx, strV nx, Value.int IntKind.i64 ix] 1 rfl rfl (fun _ => by kernel_rfl) rfl rfl ?_
    intro Wb7 gb8 egb8 rb9 zb10 bb6
    replace hq := hq.trans (bb6.mono hq.size)
    replace ra := ra.up bb6
    replace rb := rb.up bb6
    replace hx := hx.up bb6
    replace r := r.up bb6
    replace o := o.up bb6
    replace st := st.trans (StaysZ.of_below bb6)
    replace kp := kp.trans (Keeps.of_below (fun k hk => by (try simp only at hk); omega) bb6)
    replace yX := yX.trans (bb6.mono yX.size)
    (refine LL.appendT2 rfl rfl nmEnc ElNm o (us := [(kx, nx, ix)]) (RowL.readsT nmEnc (ts := [(kx, nx, ix)]) (by assumption) 1 (Nat.le_refl _)) (by rw [hlt]; simp [maxLen]; omega) (by rw [hlt]; simp; omega) (by omega) rfl rfl ?_; intro v' Wz ob gra hva; have gz := gra.size; have hno2 := own_new hva hno (fun j hj => by have := hm j hj; have := yX.size; omega); replace st := st.trans (StaysZ.own o gra hno); replace kp : Keeps (fun k => k = bs) X Wz := ⟨Nat.le_trans kp.size gz, fun k hk => (by subst hk; exact (gra.block k (by omega) (fun e => by have := own_ge o k e.symm; omega)).trans (kp.same k rfl))⟩; replace hq := hq.grown gra hq.size (fun j e => by have := own_ge o j e; omega); replace ra := ra.grO gra (own_ne o (by omega)); replace rb := rb.grO gra (own_ne o (by omega)); replace r := r.grO gra (own_ne o (by omega)); rw [← hst] at ob; obtain ⟨az, cz, rfl, _⟩ := (ob.reads nmEnc).form (n := pre.length + 1) (by rw [List.length_take]; omega); clear hx o gra hva yX)
    refine LL.store rfl rfl rfl rfl r (by exact Nat.le_of_ble_eq_true rfl) rfl rfl rfl rfl ?_
    intro Wb12 rb13 bb11 zb14
    have hlbb11 := r.lt
    replace rb13 : RowL Wb12 _ 31 [Value.slice az (pre.length + 1) cz] := rb13
    clear r
    replace st := st.trans (StaysZ.of_grown bb11 (by omega))
    replace kp := kp.trans (Keeps.of_grown bb11 fun k hk => by (try simp only at hk); omega)
    replace hq := hq.grown bb11 hq.size (by rintro k ⟨⟩; omega)
    replace ra := ra.gr bb11 (by have := ra.lt; omega)
    replace rb := rb.gr bb11 (by have := rb.lt; omega)
    replace ob := ob.grown bb11 (own_ne ob (by omega))
    have r := rb13
    clear rb13
    refine LL.nil ?_
    refine EE.inN ?_
    exact EE.roundNZ ⟨st, kp, by omega, hq, ra, rb, _, _, _, r, by rw [hxd]; exact ob, hno2⟩
  case after =>
    rintro E Y hE ⟨hz, q2, ra2, rb2, a, n, c, r, o⟩ hE1
    have zz := q2.size
    clear ra1 rb1 ro1 q
    refine EE.thenN ?_
    refine CC.seq ?_
    refine CC.region ?_
    refine LL.val (R.load rfl rfl (I.ld1 rfl (RowL.cell r rfl))) rfl rfl rfl ?_
    refine LL.store rfl rfl rfl rfl ra2 (by exact Nat.le_of_ble_eq_true rfl) rfl rfl rfl rfl ?_
    intro Wc2 rc3 bc1 zc4
    have hlbc1 := ra2.lt
    replace rc3 : RowL Wc2 _ 31 [Value.slice a n c] := rc3
    clear ra2
    replace q2 := q2.grown bc1 q2.size (by rintro k ⟨⟩; omega)
    replace rb2 := rb2.gr bc1 (by have := rb2.lt; omega)
    replace r := r.gr bc1 (by have := r.lt; omega)
    replace o := o.grown bc1 (own_ne o (by omega))
    replace hE1 := (bc1.block _ (Array.getElem?_eq_some_iff.1 hE1).1 (by simp; omega)).trans hE1
    have ra2 := rc3
    clear rc3
    refine LL.store rfl rfl rfl rfl rb2 (by exact Nat.le_of_ble_eq_true rfl) rfl rfl rfl rfl ?_
    intro Wc6 rc7 bc5 zc8
    have hlbc5 := rb2.lt
    replace rc7 : RowL Wc6 _ 4 [Value.bool true] := rc7
    clear rb2
    replace q2 := q2.grown bc5 q2.size (by rintro k ⟨⟩; omega)
    replace r := r.gr bc5 (by have := r.lt; omega)
    replace o := o.grown bc5 (own_ne o (by omega))
    replace hE1 := (bc5.block _ (Array.getElem?_eq_some_iff.1 hE1).1 (by simp; omega)).trans hE1
    replace ra2 := ra2.gr bc5 (by have := ra2.lt; omega)
    have rb2 := rc7
    clear rc7
    refine LL.nilS ?_
    refine CC.ret ?_
    refine EE.retN2 hE1 rfl ⟨_, rfl, lv1 rfl (RowL.cell (taken_up (by assumption) (by omega)) rfl)⟩ ⟨_, rfl, lv1 rfl (RowL.cell (taken_up (by assumption) (by omega)) rfl)⟩ ?_
    exact ⟨_, _, _, rfl, (own_taken o hE1).reads nmEnc, taken_bel q2 (by omega) (Nat.le_refl _)⟩
end Go.Proofs.Ytplindpeiedcbaa
/- stream: the document's SameNames, Call, Seek, Right; same (written by genst6.py). -/
namespace Go.Proofs.Ytplindpeiedcbaa
set_option linter.unusedVariables false
set_option linter.unusedSimpArgs false
open Go.RowKit Go.Shelf
set_option maxRecDepth 100000
set_option maxHeartbeats 8000000
theorem exposeS {α : Type} {enc : α → List Value} {k : Nat} {W : World} {v : Value} {ts : List α} (h : ReadsT enc k W v ts) : ∃ X0 : World, W.heap.size ≤ X0.heap.size ∧ (∀ X, Below X0.heap.size X0 X → ReadsT enc k X v ts) ∧ Below X0.heap.size X0 W := ⟨W, Nat.le_refl _, fun X b => h.up b, Below.refl _ _⟩
theorem nmsame_T (va vb : Value) (l : List Nm) (w : World) (ha : ReadsT nmE 3 w va l) (hb : ReadsT nmE 3 w vb l) (h1 : l.length ≤ 2000000) : Calls Try.prog 18 #[va, vb] w fun e w' => e = .returned (.bool true) ∧ Below w.heap.size w w' := by
  have q := Below.refl w.heap.size w
  obtain ⟨N, hN⟩ : ∃ N, l.length = N := ⟨_, rfl⟩
  obtain ⟨a1, c1, rfl, _⟩ := ha.form hN
  obtain ⟨a2, c2, rfl, _⟩ := hb.form hN
  have haF := fun W (b : Below w.heap.size w W) => ha.up b
  have hbF := fun W (b : Below w.heap.size w W) => hb.up b
  rw [hN] at h1
  clear ha hb
  refine X.fn Try.func18 rfl (n := 26) rfl rfl ?_
  refine CC.seq ?_
  refine CC.region ?_
  refine LL.val (R.assign rfl rfl) rfl rfl rfl ?_
  refine LL.nilS ?_
  refine CC.seq ?_
  refine CC.seq ?_
  refine CC.region ?_
  refine LL.val (R.move rfl rfl) rfl rfl rfl ?_
  refine LL.val (R.len rfl rfl rfl rfl) rfl rfl rfl ?_
  refine LL.val (R.move rfl rfl) rfl rfl rfl ?_
  refine LL.val (R.len rfl rfl rfl rfl) rfl rfl rfl ?_
  refine LL.val (R.neF rfl rfl rfl (by omega)) rfl rfl rfl ?_
  refine LL.nilS ?_
  refine CC.no rfl ?_
  refine CC.skip ?_
  refine EE.thenN ?_
  refine CC.seq ?_
  refine CC.seq ?_
  refine CC.region ?_
  refine LL.val (R.assign rfl rfl) rfl rfl rfl ?_
  refine LL.nilS ?_
  refine CC.block ?_
  refine CC.loop (α := Nat) (fun i => [(0, .slice a1 N c1), (1, .slice a2 N c2), (5, .int .i64 (i : Int))]) (fun i W => i ≤ N ∧ Below w.heap.size w W) (fun i => N - i) 0 ⟨rfl, rfl, rfl, trivial⟩ ⟨Nat.zero_le _, q⟩ ?_
  clear q
  rintro i W ⟨hi, q⟩
  show CC none Try.prog _ 26 [] (sl [(0, .slice a1 N c1), (1, .slice a2 N c2), (5, .int .i64 (i : Int))]) _ W
  by_cases hlt : i < N
  case neg =>
    obtain rfl : N = i := by omega
    refine CC.seq ?_
    refine CC.seq ?_
    refine CC.region ?_
    refine LL.val (R.move rfl rfl) rfl rfl rfl ?_
    refine LL.val (R.move rfl rfl) rfl rfl rfl ?_
    refine LL.val (R.len rfl rfl rfl rfl) rfl rfl rfl ?_
    refine LL.val (R.ltF rfl rfl rfl (by omega)) rfl rfl rfl ?_
    refine LL.nilS ?_
    refine CC.no rfl ?_
    refine CC.exit ?_
    refine EE.thenX ?_
    refine EE.thenX ?_
    refine EE.inX ?_
    refine EE.thenN ?_
    refine CC.seq ?_
    refine CC.region ?_
    refine LL.val (R.assign rfl rfl) rfl rfl rfl ?_
    refine LL.nilS ?_
    refine CC.ret ?_
    refine EE.ret _ rfl rfl ?_
    exact ⟨rfl, q⟩
  obtain ⟨⟨kx, nx, ix⟩, hx⟩ : ∃ x, l[i]? = some x := ⟨_, List.getElem?_eq_getElem (by omega)⟩
  obtain ⟨b1, o1, rfl, _, _⟩ := (haF _ q).get nmEnc hx
  obtain ⟨b2, o2, rfl, _, _⟩ := (hbF _ q).get nmEnc hx
  have m1 : CellsN W ⟨b1, o1 + i * 3, none⟩ 3 [.int .u64 (kx : Int), strV nx, .int .i64 ix] := (haF W q).elemN nmEnc hx
  have m2 : CellsN W ⟨b2, o2 + i * 3, none⟩ 3 [.int .u64 (kx : Int), strV nx, .int .i64 ix] := (hbF W q).elemN nmEnc hx
  clear haF hbF
  focus
    refine CC.seq ?_
    refine CC.seq ?_
    refine CC.region ?_
    refine LL.val (R.move rfl rfl) rfl rfl rfl ?_
    refine LL.val (R.move rfl rfl) rfl rfl rfl ?_
    refine LL.val (R.len rfl rfl rfl rfl) rfl rfl rfl ?_
    refine LL.val (R.ltT rfl rfl rfl (by omega)) rfl rfl rfl ?_
    refine LL.nilS ?_
    refine CC.yes rfl ?_
    refine CC.skip ?_
    refine EE.thenN ?_
    refine CC.seq ?_
    refine CC.block ?_
    refine CC.seq ?_
    refine CC.quietB (by kernel_rfl) (by kernel_rfl) (fun Wb2 bb1 zb3 => ?_)
    replace q := q.trans (bb1.mono q.size)
    replace m1 := m1.up bb1
    replace m2 := m2.up bb1
    refine SS.val (R.move rfl rfl) rfl rfl ?_
    refine SS.val (R.move rfl rfl) rfl rfl ?_
    refine SS.val (R.index rfl rfl rfl (I.ixS rfl (by omega))) rfl rfl ?_
    refine SS.val (R.load rfl rfl (I.ldM (by assumption) rfl rfl)) rfl rfl ?_
    refine SS.val (R.move rfl rfl) rfl rfl ?_
    refine SS.val (R.move rfl rfl) rfl rfl ?_
    refine SS.val (R.index rfl rfl rfl (I.ixS rfl (by omega))) rfl rfl ?_
    refine SS.val (R.load rfl rfl (I.ldM (by assumption) rfl rfl)) rfl rfl ?_
    refine SS.vsplit (fun h => R.neSF (p := (↑kx : Int) = ↑kx ∧ ({ data := List.toArray nx } : ByteArray).toList = ({ data := List.toArray nx } : ByteArray).toList ∧ (ix : Int) = ix) (bs := [decide ((↑kx : Int) = ↑kx), ({ data := List.toArray nx } : ByteArray).toList == ({ data := List.toArray nx } : ByteArray).toList, decide ((ix : Int) = ix)]) rfl rfl rfl rfl (by kernel_rfl) (by kernel_rfl) (by simp) h) (fun h => R.neST (p := (↑kx : Int) = ↑kx ∧ ({ data := List.toArray nx } : ByteArray).toList = ({ data := List.toArray nx } : ByteArray).toList ∧ (ix : Int) = ix) (bs := [decide ((↑kx : Int) = ↑kx), ({ data := List.toArray nx } : ByteArray).toList == ({ data := List.toArray nx } : ByteArray).toList, decide ((ix : Int) = ix)]) rfl rfl rfl rfl (by kernel_rfl) (by kernel_rfl) (by simp) (Decidable.not_not.1 h)) rfl rfl (fun cb4 => ?_) (fun cb4 => ?_)
    refine SS.nilQ ?_
    refine EE.thenN ?_
    refine CC.yes rfl ?_
    refine CC.seq ?_
    refine CC.region ?_
    refine LL.val (R.assign rfl rfl) rfl rfl rfl ?_
    refine LL.nilS ?_
    refine CC.ret ?_
    refine EE.inR ?_
    refine EE.thenR ?_
    refine EE.thenR ?_
    refine EE.inR ?_
    refine EE.thenR ?_
    refine EE.ret _ rfl rfl ?_
    rotate_left
    refine SS.nilQ ?_
    refine EE.thenN ?_
    refine CC.no rfl ?_
    refine CC.skip ?_
    refine EE.inN ?_
    refine EE.thenN ?_
    refine CC.region ?_
    refine LL.val (R.move rfl rfl) rfl rfl rfl ?_
    refine LL.val (R.addNc rfl rfl rfl rfl (by omega)) rfl rfl rfl ?_
    refine LL.val (R.assign rfl rfl) rfl rfl rfl ?_
    refine LL.nil ?_
    exact EE.round (i + 1) ⟨rfl, rfl, rfl, trivial⟩ ⟨by show i + 1 ≤ N; omega, q⟩ (by show N - (i + 1) < N - i; omega)
  exact absurd ⟨rfl, rfl, rfl⟩ cb4
theorem right28_any (many : Int) (b : Bool) (hb : b = true ↔ (1 ≤ many ∧ many ≤ 64)) (w : World) : Calls Try.prog 6 #[.int .i64 many] w fun e w' => e = .returned (.bool b) ∧ Below w.heap.size w w' := by
  have q := Below.refl w.heap.size w
  cases b with
  | true =>
    have := hb.1 rfl
    refine X.fn Try.func6 rfl (n := 9) rfl rfl ?_
    refine CC.seq ?_
    refine CC.region ?_
    refine LL.val (R.assign rfl rfl) rfl rfl rfl ?_
    refine LL.nilS ?_
    refine CC.seq ?_
    refine CC.region ?_
    refine LL.val (R.move rfl rfl) rfl rfl rfl ?_
    refine LL.val (R.geT rfl rfl rfl (by omega)) rfl rfl rfl ?_
    refine LL.val (R.move rfl rfl) rfl rfl rfl ?_
    refine LL.val (R.move rfl rfl) rfl rfl rfl ?_
    refine LL.val (R.leT rfl rfl rfl (by omega)) rfl rfl rfl ?_
    refine LL.val (R.pick rfl rfl rfl) rfl rfl rfl ?_
    refine LL.val (R.assign rfl rfl) rfl rfl rfl ?_
    refine LL.nilS ?_
    refine CC.ret ?_
    refine EE.ret _ rfl rfl ?_
    exact ⟨rfl, q⟩
  | false =>
    have : ¬(1 ≤ many ∧ many ≤ 64) := fun h => (by have := hb.2 h; cases this)
    by_cases h1 : 1 ≤ many
    · refine X.fn Try.func6 rfl (n := 9) rfl rfl ?_
      refine CC.seq ?_
      refine CC.region ?_
      refine LL.val (R.assign rfl rfl) rfl rfl rfl ?_
      refine LL.nilS ?_
      refine CC.seq ?_
      refine CC.region ?_
      refine LL.val (R.move rfl rfl) rfl rfl rfl ?_
      refine LL.val (R.geT rfl rfl rfl (by omega)) rfl rfl rfl ?_
      refine LL.val (R.move rfl rfl) rfl rfl rfl ?_
      refine LL.val (R.move rfl rfl) rfl rfl rfl ?_
      refine LL.val (R.leF rfl rfl rfl (by omega)) rfl rfl rfl ?_
      refine LL.val (R.pick rfl rfl rfl) rfl rfl rfl ?_
      refine LL.val (R.assign rfl rfl) rfl rfl rfl ?_
      refine LL.nilS ?_
      refine CC.ret ?_
      refine EE.ret _ rfl rfl ?_
      exact ⟨rfl, q⟩
    · refine X.fn Try.func6 rfl (n := 9) rfl rfl ?_
      refine CC.seq ?_
      refine CC.region ?_
      refine LL.val (R.assign rfl rfl) rfl rfl rfl ?_
      refine LL.nilS ?_
      refine CC.seq ?_
      refine CC.region ?_
      refine LL.val (R.move rfl rfl) rfl rfl rfl ?_
      refine LL.val (R.geF rfl rfl rfl (by omega)) rfl rfl rfl ?_
      refine LL.val (R.move rfl rfl) rfl rfl rfl ?_
      refine LL.skip rfl rfl ?_
      refine LL.skip rfl rfl ?_
      refine LL.val (R.pick rfl rfl rfl) rfl rfl rfl ?_
      refine LL.val (R.assign rfl rfl) rfl rfl rfl ?_
      refine LL.nilS ?_
      refine CC.ret ?_
      refine EE.ret _ rfl rfl ?_
      exact ⟨rfl, q⟩
--C law28_num | num28_any _ @w | S
theorem num28_any (z : Int) (w : World) : Calls Try.prog 7 #[.int .i64 z] w fun e w' => e = .returned (.int .i64 z) ∧ w = w' := by
  refine X.fn Try.func7 rfl (n := 4) rfl rfl ?_
  refine CC.seq ?_
  refine CC.region ?_
  refine LL.val (R.assign rfl rfl) rfl rfl rfl ?_
  refine LL.nilS ?_
  refine CC.seq ?_
  refine CC.region ?_
  refine LL.val (R.move rfl rfl) rfl rfl rfl ?_
  refine LL.val (R.assign rfl rfl) rfl rfl rfl ?_
  refine LL.nilS ?_
  refine CC.ret ?_
  refine EE.ret _ rfl rfl ?_
  exact ⟨rfl, rfl⟩
section
variable (p : Bs) (many : Int) (key : Nat) (over : Bool) (why : Int) (a2 : Option Addr) (n2 c2 : Nat) (w : World)
theorem rcall_any : Calls Try.prog 19 #[.agg #[strV p, .int .i64 many, .int .u64 (key : Int), .slice a2 n2 c2, .bool over, .int .i64 why]] w fun e w' => e = .returned (caV 14 p many key) ∧ Below w.heap.size w w' := by
  have q := Below.refl w.heap.size w
  refine X.fn Try.func19 rfl (n := 10) rfl rfl ?_
  refine CC.seq ?_
  refine CC.region ?_
  refine LL.box [strV p, Value.int IntKind.i64 many, Value.int IntKind.u64 ↑key, Value.slice a2 n2 c2, Value.bool over, Value.int IntKind.i64 why] rfl rfl rfl rfl rfl ?_
  intro W2 g3 eg3 r4 z5 b1
  replace q := q.trans (b1.mono q.size)
  have l6 := r4.lt
  refine LL.alloc ([Value.int IntKind.i64 0, Value.string { data := { toList := [] } }, Value.string { data := { toList := [] } }, Value.int IntKind.i64 0, Value.int IntKind.i64 0, Value.int IntKind.u64 0, Value.slice none 0 0]) rfl rfl rfl rfl rfl ?_
  intro W8 g9 eg9 r10 z11 b7
  replace r4 := r4.up b7
  replace b1 := b1.trans (b7.mono b1.size)
  replace q := q.trans (b7.mono q.size)
  refine LL.nilS ?_
  refine CC.seq ?_
  refine CC.region ?_
  refine LL.val (R.field rfl rfl (I.fld rfl)) rfl rfl rfl ?_
  refine LL.val (R.load rfl rfl (I.ld1 rfl (RowL.cell r4 rfl))) rfl rfl rfl ?_
  refine LL.val (R.field rfl rfl (I.fld rfl)) rfl rfl rfl ?_
  refine LL.val (R.load rfl rfl (I.ld1 rfl (RowL.cell r4 rfl))) rfl rfl rfl ?_
  refine LL.val (R.field rfl rfl (I.fld rfl)) rfl rfl rfl ?_
  refine LL.val (R.load rfl rfl (I.ld1 rfl (RowL.cell r4 rfl))) rfl rfl rfl ?_
  refine LL.val (R.buildV rfl rfl (v := .agg #[Value.int IntKind.i64 14, Value.string { data := List.toArray p }, Value.string { data := #[] }, Value.int IntKind.i64 0, Value.int IntKind.i64 many, Value.int IntKind.u64 ↑key, Value.slice none 0 0]) (fun _ => by kernel_rfl)) rfl rfl rfl ?_
  refine LL.storeN (vs := [Value.int IntKind.i64 14, Value.string { data := List.toArray p }, Value.string { data := #[] }, Value.int IntKind.i64 0, Value.int IntKind.i64 many, Value.int IntKind.u64 ↑key, Value.slice none 0 0]) rfl rfl rfl rfl r10 (by exact Nat.le_of_ble_eq_true rfl) (ones_of rfl) rfl rfl ?_
  intro W13 r14 b12 z15
  have hlb12 := r10.lt
  replace r14 : RowL W13 _ 52 [Value.int IntKind.i64 14, Value.string { data := List.toArray p }, Value.string { data := #[] }, Value.int IntKind.i64 0, Value.int IntKind.i64 many, Value.int IntKind.u64 ↑key, Value.slice none 0 0] := r14
  clear r10
  replace b7 := b7.grown b12 b7.size (by rintro k ⟨⟩; omega)
  replace r4 := r4.gr b12 (by have := r4.lt; omega)
  replace b1 := b1.grown b12 b1.size (by rintro k ⟨⟩; omega)
  replace q := q.grown b12 q.size (by rintro k ⟨⟩; omega)
  have r10 := r14
  clear r14
  refine LL.nilS ?_
  refine CC.ret ?_
  refine EE.retC rfl rfl (lvNc (RowL.cells0 (by assumption)) (by rfl) (by rfl)) ?_
  exact ⟨rfl, q⟩
theorem rseek_any (k2 : Nat) : Calls Try.prog 11 #[.agg #[strV p, .int .i64 many, .int .u64 (key : Int), .slice a2 n2 c2, .bool over, .int .i64 why], .int .u64 (k2 : Int)] w fun e w' => e = .returned (.agg #[strV p, .int .i64 many, .int .u64 (k2 : Int), .slice a2 n2 c2, .bool false, .int .i64 0]) ∧ Below w.heap.size w w' := by
  have q := Below.refl w.heap.size w
  refine X.fn Try.func11 rfl (n := 10) rfl rfl ?_
  refine CC.seq ?_
  refine CC.region ?_
  refine LL.box [strV p, Value.int IntKind.i64 many, Value.int IntKind.u64 ↑key, Value.slice a2 n2 c2, Value.bool over, Value.int IntKind.i64 why] rfl rfl rfl rfl rfl ?_
  intro W2 g3 eg3 r4 z5 b1
  replace q := q.trans (b1.mono q.size)
  have l6 := r4.lt
  refine LL.alloc ([Value.string { data := { toList := [] } }, Value.int IntKind.i64 0, Value.int IntKind.u64 0, Value.slice none 0 0, Value.bool false, Value.int IntKind.i64 0]) rfl rfl rfl rfl rfl ?_
  intro W8 g9 eg9 r10 z11 b7
  replace r4 := r4.up b7
  replace b1 := b1.trans (b7.mono b1.size)
  replace q := q.trans (b7.mono q.size)
  refine LL.nilS ?_
  refine CC.seq ?_
  refine CC.region ?_
  refine LL.val (R.move rfl rfl) rfl rfl rfl ?_
  refine LL.val (R.field rfl rfl (I.fld rfl)) rfl rfl rfl ?_
  refine LL.store rfl rfl rfl rfl r4 (by exact Nat.le_of_ble_eq_true rfl) rfl rfl rfl rfl ?_
  intro W13 r14 b12 z15
  have hlb12 := r4.lt
  replace r14 : RowL W13 _ 33 [strV p, Value.int IntKind.i64 many, Value.int IntKind.u64 ↑key, Value.slice a2 n2 c2, Value.bool false, Value.int IntKind.i64 why] := r14
  clear r4
  replace r10 := r10.gr b12 (by have := r10.lt; omega)
  replace b1 := b1.grown b12 b1.size (by rintro k ⟨⟩; omega)
  replace q := q.grown b12 q.size (by rintro k ⟨⟩; omega)
  have r4 := r14
  clear r14
  refine LL.val (R.field rfl rfl (I.fld rfl)) rfl rfl rfl ?_
  refine LL.store rfl rfl rfl rfl r4 (by exact Nat.le_of_ble_eq_true rfl) rfl rfl rfl rfl ?_
  intro W17 r18 b16 z19
  have hlb16 := r4.lt
  replace r18 : RowL W17 _ 33 [strV p, Value.int IntKind.i64 many, Value.int IntKind.u64 ↑key, Value.slice a2 n2 c2, Value.bool false, Value.int IntKind.i64 0] := r18
  clear r4
  replace r10 := r10.gr b16 (by have := r10.lt; omega)
  replace b1 := b1.grown b16 b1.size (by rintro k ⟨⟩; omega)
  replace q := q.grown b16 q.size (by rintro k ⟨⟩; omega)
  have r4 := r18
  clear r18
  refine LL.val (R.field rfl rfl (I.fld rfl)) rfl rfl rfl ?_
  refine LL.store rfl rfl rfl rfl r4 (by exact Nat.le_of_ble_eq_true rfl) rfl rfl rfl rfl ?_
  intro W21 r22 b20 z23
  have hlb20 := r4.lt
  replace r22 : RowL W21 _ 33 [strV p, Value.int IntKind.i64 many, Value.int IntKind.u64 ↑k2, Value.slice a2 n2 c2, Value.bool false, Value.int IntKind.i64 0] := r22
  clear r4
  replace r10 := r10.gr b20 (by have := r10.lt; omega)
  replace b1 := b1.grown b20 b1.size (by rintro k ⟨⟩; omega)
  replace q := q.grown b20 q.size (by rintro k ⟨⟩; omega)
  have r4 := r22
  clear r22
  refine LL.nilS ?_
  refine CC.seq ?_
  refine CC.region ?_
  refine LL.val (R.load rfl rfl (I.ldNc (vs := [strV p, Value.int IntKind.i64 many, Value.int IntKind.u64 ↑k2, Value.slice a2 n2 c2, Value.bool false, Value.int IntKind.i64 0]) (RowL.cells r4 rfl) (by rfl) (by rfl))) rfl rfl rfl ?_
  refine LL.storeN (vs := [strV p, Value.int IntKind.i64 many, Value.int IntKind.u64 ↑k2, Value.slice a2 n2 c2, Value.bool false, Value.int IntKind.i64 0]) rfl rfl rfl rfl r10 (by exact Nat.le_of_ble_eq_true rfl) (ones_of rfl) rfl rfl ?_
  intro W25 r26 b24 z27
  have hlb24 := r10.lt
  replace r26 : RowL W25 _ 33 [strV p, Value.int IntKind.i64 many, Value.int IntKind.u64 ↑k2, Value.slice a2 n2 c2, Value.bool false, Value.int IntKind.i64 0] := r26
  clear r10
  replace b1 := b1.grown b24 b1.size (by rintro k ⟨⟩; omega)
  replace q := q.grown b24 q.size (by rintro k ⟨⟩; omega)
  replace r4 := r4.gr b24 (by have := r4.lt; omega)
  have r10 := r26
  clear r26
  refine LL.nilS ?_
  refine CC.ret ?_
  refine EE.retC rfl rfl (lvNc (RowL.cells0 (by assumption)) (by rfl) (by rfl)) ?_
  exact ⟨rfl, q⟩
--C law28_num | num28_any _ @w | S
theorem same28_any (g : Nat) (a : Option Addr) (n c : Nat) (ts : List Nm) (h : RowL w g 63 (stL p many key (.slice a n c) over why true)) (o : ReadsT nmE 3 w (.slice a n c) ts) (o2 : ReadsT nmE 3 w (.slice a2 n2 c2) ts) (h1 : ts.length ≤ 1000000) : Calls Try.prog 8 #[.pointer (some ⟨g, 0, none⟩), .agg #[strV p, .int .i64 many, .int .u64 (key : Int), .slice a2 n2 c2, .bool over, .int .i64 why]] w fun e w' => e = .returned (.bool true) ∧ Below w.heap.size w w' := by
  have q := Below.refl w.heap.size w
  have hT := fun W (b : Below w.heap.size w W) => ltold_any g a n c ts (h.up b) (o.up b) h1
  have hF2 := fun W (b : Below w.heap.size w W) => o2.up b
  clear o o2
  cases over with
  | true =>
    refine X.fn Try.func8 rfl (n := 125) rfl rfl ?_
    refine CC.seq ?_
    refine CC.region ?_
    have l65 := h.lt
    refine LL.box [strV p, Value.int IntKind.i64 many, Value.int IntKind.u64 ↑key, Value.slice a2 n2 c2, Value.bool true, Value.int IntKind.i64 why] rfl rfl rfl rfl rfl ?_
    intro W67 g68 eg68 r69 z70 b66
    replace q := q.trans (b66.mono q.size)
    replace h := h.up b66
    refine LL.val (R.assign rfl rfl) rfl rfl rfl ?_
    refine LL.nilS ?_
    refine CC.seq ?_
    refine CC.region ?_
    refine LL.val (R.move rfl rfl) rfl rfl rfl ?_
    have l219 := r69.lt
    have l220 := h.lt
    (refine LL.call (R.call rfl rfl rfl) rfl rfl rfl (hT _ q) ?_; rintro e W218 ⟨at', nt', ct', rfl, ot, b215⟩; refine ⟨_, rfl, ?_⟩; obtain ⟨_, _, e9, _⟩ := ot.form rfl; cases e9; obtain ⟨X1, hzX1, otF, qT⟩ := exposeS ot; have zX1 := qT.size; clear ot)
    have zb215 := b215.size
    replace r69 := r69.up b215
    replace b66 := b66.trans (b215.mono b66.size)
    replace q := q.trans (b215.mono q.size)
    replace h := h.up b215
    refine LL.val (R.move rfl rfl) rfl rfl rfl ?_
    refine LL.val (R.extract rfl rfl rfl) rfl rfl rfl ?_
    refine LL.val (R.extract rfl rfl rfl) rfl rfl rfl ?_
    refine LL.val (R.assign rfl rfl) rfl rfl rfl ?_
    refine LL.val (R.assign rfl rfl) rfl rfl rfl ?_
    refine LL.nilS ?_
    refine CC.seq ?_
    refine CC.region ?_
    refine LL.val (R.move rfl rfl) rfl rfl rfl ?_
    have l669 := r69.lt
    have l670 := h.lt
    (refine LL.call (R.call rfl rfl rfl) rfl rfl rfl (sover_any g h) ?_; rintro e W668 ⟨rfl, b665⟩; refine ⟨_, rfl, ?_⟩)
    have zb665 := b665.size
    replace b215 := b215.trans (b665.mono b215.size)
    replace qT := qT.trans (b665.mono qT.size)
    replace r69 := r69.up b665
    replace b66 := b66.trans (b665.mono b66.size)
    replace q := q.trans (b665.mono q.size)
    replace h := h.up b665
    refine LL.val (R.move rfl rfl) rfl rfl rfl ?_
    refine LL.val (R.extract rfl rfl rfl) rfl rfl rfl ?_
    refine LL.val (R.extract rfl rfl rfl) rfl rfl rfl ?_
    refine LL.val (R.assign rfl rfl) rfl rfl rfl ?_
    refine LL.val (R.assign rfl rfl) rfl rfl rfl ?_
    refine LL.nilS ?_
    refine CC.seq ?_
    refine CC.region ?_
    refine LL.val (R.move rfl rfl) rfl rfl rfl ?_
    have l1128 := r69.lt
    have l1129 := h.lt
    (refine LL.call (R.call rfl rfl rfl) rfl rfl rfl (scall_T g h) ?_; rintro e W1127 ⟨rfl, b1124⟩; refine ⟨_, rfl, ?_⟩)
    have zb1124 := b1124.size
    replace b665 := b665.trans (b1124.mono b665.size)
    replace b215 := b215.trans (b1124.mono b215.size)
    replace qT := qT.trans (b1124.mono qT.size)
    replace r69 := r69.up b1124
    replace b66 := b66.trans (b1124.mono b66.size)
    replace q := q.trans (b1124.mono q.size)
    replace h := h.up b1124
    refine LL.val (R.move rfl rfl) rfl rfl rfl ?_
    refine LL.val (R.extract rfl rfl rfl) rfl rfl rfl ?_
    refine LL.val (R.extract rfl rfl rfl) rfl rfl rfl ?_
    have l1421 := r69.lt
    have l1422 := h.lt
    refine LL.alloc ([Value.int IntKind.i64 0, Value.string { data := { toList := [] } }, Value.string { data := { toList := [] } }, Value.int IntKind.i64 0, Value.int IntKind.i64 0, Value.int IntKind.u64 0, Value.slice none 0 0]) rfl rfl rfl rfl rfl ?_
    intro W1424 g1425 eg1425 r1426 z1427 b1423
    replace b1124 := b1124.trans (b1423.mono b1124.size)
    replace b665 := b665.trans (b1423.mono b665.size)
    replace b215 := b215.trans (b1423.mono b215.size)
    replace qT := qT.trans (b1423.mono qT.size)
    replace r69 := r69.up b1423
    replace b66 := b66.trans (b1423.mono b66.size)
    replace q := q.trans (b1423.mono q.size)
    replace h := h.up b1423
    refine LL.storeN (vs := [Value.int IntKind.i64 0, strV [], strV [], Value.int IntKind.i64 0, Value.int IntKind.i64 0, Value.int IntKind.u64 ↑0, Value.slice none 0 0]) rfl rfl rfl rfl r1426 (by exact Nat.le_of_ble_eq_true rfl) (ones_of rfl) rfl rfl ?_
    intro W1509 r1510 b1508 z1511
    have hlb1508 := r1426.lt
    replace r1510 : RowL W1509 _ 52 [Value.int IntKind.i64 0, strV [], strV [], Value.int IntKind.i64 0, Value.int IntKind.i64 0, Value.int IntKind.u64 ↑0, Value.slice none 0 0] := r1510
    clear r1426
    replace b1423 := b1423.grown b1508 b1423.size (by rintro k ⟨⟩; omega)
    replace b1124 := b1124.grown b1508 b1124.size (by rintro k ⟨⟩; omega)
    replace b665 := b665.grown b1508 b665.size (by rintro k ⟨⟩; omega)
    replace b215 := b215.grown b1508 b215.size (by rintro k ⟨⟩; omega)
    replace qT := qT.grown b1508 qT.size (by rintro k ⟨⟩; omega)
    replace r69 := r69.gr b1508 (by have := r69.lt; omega)
    replace b66 := b66.grown b1508 b66.size (by rintro k ⟨⟩; omega)
    replace q := q.grown b1508 q.size (by rintro k ⟨⟩; omega)
    replace h := h.gr b1508 (by have := h.lt; omega)
    have r1426 := r1510
    clear r1510
    refine LL.val (R.assign rfl rfl) rfl rfl rfl ?_
    refine LL.nilS ?_
    refine CC.seq ?_
    refine CC.seq ?_
    refine CC.freeZ (fun W_ j => j < W_.heap.size ∧ (True)) (by kernel_rfl) (by kernel_rfl) (fun W1593 b1592 z1594 => ?_)
    replace b1423 := b1423.trans (b1592.mono b1423.size)
    replace b1124 := b1124.trans (b1592.mono b1124.size)
    replace b665 := b665.trans (b1592.mono b665.size)
    replace b215 := b215.trans (b1592.mono b215.size)
    replace qT := qT.trans (b1592.mono qT.size)
    replace r69 := r69.up b1592
    replace b66 := b66.trans (b1592.mono b66.size)
    replace q := q.trans (b1592.mono q.size)
    replace h := h.up b1592
    replace r1426 := r1426.up b1592
    have hok : Kept (fun j => j < W1593.heap.size ∧ (True)) W1593 W1593 := Kept.refl _ _
    have fzr69 := fzRow (K := fun j => j < W1593.heap.size ∧ (True)) r69 ⟨r69.lt, (by first | trivial | omega)⟩
    have fzh := fzRow (K := fun j => j < W1593.heap.size ∧ (True)) h ⟨h.lt, (by first | trivial | omega)⟩
    have fzr1426 := fzRow (K := fun j => j < W1593.heap.size ∧ (True)) r1426 ⟨r1426.lt, (by first | trivial | omega)⟩
    refine AA.pure 0 rfl hok (by kernel_rfl) (fun w' b' => R.move rfl rfl) rfl rfl ?_
    refine AA.pure 1 rfl hok (by kernel_rfl) (fun w' b' => R.not rfl rfl) rfl rfl ?_
    refine AA.pure 2 rfl hok (by kernel_rfl) (fun w' b' => R.move rfl rfl) rfl rfl ?_
    refine AA.pure 3 rfl hok (by kernel_rfl) (fun w' b' => R.move rfl rfl) rfl rfl ?_
    refine AA.pure 4 rfl hok (by kernel_rfl) (fun w' b' => R.field rfl rfl (I.fld rfl)) rfl rfl ?_
    refine AA.pure 5 rfl hok (by kernel_rfl) (fun w' b' => R.load rfl rfl (I.ld1 rfl (RowL.cell (fzr69 w' b') rfl))) rfl rfl ?_
    refine AA.one 6 (by kernel_rfl) ?_
    have l1639 := r69.lt
    have l1640 := h.lt
    have l1641 := r1426.lt
    (refine SR.call rfl (R.call rfl rfl rfl) rfl rfl (nmsame_T _ _ ts _ (otF _ qT) (hF2 _ q) (by omega)) ?_; rintro e W1638 ⟨rfl, b1635⟩; refine ⟨_, rfl, ?_⟩)
    have zb1635 := b1635.size
    replace b1592 := b1592.trans (b1635.mono b1592.size)
    replace b1423 := b1423.trans (b1635.mono b1423.size)
    replace b1124 := b1124.trans (b1635.mono b1124.size)
    replace b665 := b665.trans (b1635.mono b665.size)
    replace b215 := b215.trans (b1635.mono b215.size)
    replace qT := qT.trans (b1635.mono qT.size)
    replace r69 := r69.up b1635
    replace b66 := b66.trans (b1635.mono b66.size)
    replace q := q.trans (b1635.mono q.size)
    replace h := h.up b1635
    replace r1426 := r1426.up b1635
    replace hok := hok.trans (bkept b1635 (fun j h => by have := h.1; have := hok.size; omega))
    have y1645 := hok.size
    refine ⟨hok, ?_⟩
    refine AA.pure 7 rfl hok (by kernel_rfl) (fun w' b' => R.not rfl rfl) rfl rfl ?_
    refine AA.pure 8 rfl hok (by kernel_rfl) (fun w' b' => R.pick rfl rfl rfl) rfl rfl ?_
    refine AA.pure 9 rfl hok (by kernel_rfl) (fun w' b' => R.move rfl rfl) rfl rfl ?_
    refine AA.pure 10 rfl hok (by kernel_rfl) (fun w' b' => R.move rfl rfl) rfl rfl ?_
    refine AA.pure 11 rfl hok (by kernel_rfl) (fun w' b' => R.field rfl rfl (I.fld rfl)) rfl rfl ?_
    refine AA.pure 12 rfl hok (by kernel_rfl) (fun w' b' => R.load rfl rfl (I.ld1 rfl (RowL.cell (fzr69 w' b') rfl))) rfl rfl ?_
    refine AA.pure 13 rfl hok (by kernel_rfl) (fun w' b' => R.neBool rfl rfl rfl rfl rfl) rfl rfl ?_
    refine AA.pure 14 rfl hok (by kernel_rfl) (fun w' b' => R.pick rfl rfl rfl) rfl rfl ?_
    refine AA.pure 15 rfl hok (by kernel_rfl) (fun w' b' => R.move rfl rfl) rfl rfl ?_
    refine AA.pure 16 rfl hok (by kernel_rfl) (fun w' b' => R.move rfl rfl) rfl rfl ?_
    refine AA.pureC 17 rfl hok (by kernel_rfl) (fun w' => (R.call rfl rfl rfl)) (fun w' b' => num28_any _ w') rfl rfl ?_
    refine AA.pure 18 rfl hok (by kernel_rfl) (fun w' b' => R.field rfl rfl (I.fld rfl)) rfl rfl ?_
    refine AA.pure 19 rfl hok (by kernel_rfl) (fun w' b' => R.load rfl rfl (I.ld1 rfl (RowL.cell (fzr69 w' b') rfl))) rfl rfl ?_
    refine AA.pure 20 rfl hok (by kernel_rfl) (fun w' b' => R.neF rfl rfl rfl (by omega)) rfl rfl ?_
    refine AA.pure 21 rfl hok (by kernel_rfl) (fun w' b' => R.pick rfl rfl rfl) rfl rfl ?_
    refine AA.pure 22 rfl hok (by kernel_rfl) (fun w' b' => R.move rfl rfl) rfl rfl ?_
    refine AA.pure 23 rfl hok (by kernel_rfl) (fun w' b' => R.move rfl rfl) rfl rfl ?_
    refine AA.pure 24 rfl hok (by kernel_rfl) (fun w' b' => R.field rfl rfl (I.fld rfl)) rfl rfl ?_
    refine AA.pure 25 rfl hok (by kernel_rfl) (fun w' b' => R.load rfl rfl (I.ld1 rfl (RowL.cell (fzr69 w' b') rfl))) rfl rfl ?_
    refine AA.pure 26 rfl hok (by kernel_rfl) (fun w' b' => R.eqBool rfl rfl rfl rfl rfl) rfl rfl ?_
    refine AA.pure 27 rfl hok (by kernel_rfl) (fun w' b' => R.pick rfl rfl rfl) rfl rfl ?_
    refine AA.pure 28 rfl hok (by kernel_rfl) (fun w' b' => R.move rfl rfl) rfl rfl ?_
    refine AA.pure 29 rfl hok (by kernel_rfl) (fun w' b' => R.move rfl rfl) rfl rfl ?_
    refine AA.pure 31 rfl hok (by kernel_rfl) (fun w' b' => R.field rfl rfl (I.fld rfl)) rfl rfl ?_
    refine AA.pure 32 rfl hok (by kernel_rfl) (fun w' b' => R.load rfl rfl (I.ld1 rfl (RowL.cell (fzr69 w' b') rfl))) rfl rfl ?_
    refine AA.one 30 (by kernel_rfl) ?_
    have l1710 := r69.lt
    have l1711 := h.lt
    have l1712 := r1426.lt
    (refine SR.call rfl (R.call rfl rfl rfl) rfl rfl (scursor_any g h) ?_; rintro e W1709 ⟨rfl, b1706⟩; refine ⟨_, rfl, ?_⟩)
    have zb1706 := b1706.size
    replace b1635 := b1635.trans (b1706.mono b1635.size)
    replace b1592 := b1592.trans (b1706.mono b1592.size)
    replace b1423 := b1423.trans (b1706.mono b1423.size)
    replace b1124 := b1124.trans (b1706.mono b1124.size)
    replace b665 := b665.trans (b1706.mono b665.size)
    replace b215 := b215.trans (b1706.mono b215.size)
    replace qT := qT.trans (b1706.mono qT.size)
    replace r69 := r69.up b1706
    replace b66 := b66.trans (b1706.mono b66.size)
    replace q := q.trans (b1706.mono q.size)
    replace h := h.up b1706
    replace r1426 := r1426.up b1706
    replace hok := hok.trans (bkept b1706 (fun j h => by have := h.1; have := hok.size; omega))
    have y1716 := hok.size
    refine ⟨hok, ?_⟩
    refine AA.pure 33 rfl hok (by kernel_rfl) (fun w' b' => R.neF rfl rfl rfl (by omega)) rfl rfl ?_
    refine AA.pure 34 rfl hok (by kernel_rfl) (fun w' b' => R.pick rfl rfl rfl) rfl rfl ?_
    refine AA.done rfl ?_
    clear fzr69 fzh fzr1426 hok
    refine EE.thenN ?_
    refine CC.no rfl ?_
    refine CC.skip ?_
    refine EE.thenN ?_
    refine CC.seq ?_
    refine CC.region ?_
    refine LL.val (R.load rfl rfl (I.ldNc (vs := [strV p, Value.int IntKind.i64 many, Value.int IntKind.u64 ↑key, Value.slice a2 n2 c2, Value.bool true, Value.int IntKind.i64 why]) (RowL.cells r69 rfl) (by rfl) (by rfl))) rfl rfl rfl ?_
    have l1871 := r69.lt
    have l1872 := h.lt
    have l1873 := r1426.lt
    (refine LL.call (R.call rfl rfl rfl) rfl rfl rfl (rcall_any _ _ _ _ _ _ _ _ _) ?_; rintro e W1870 ⟨rfl, b1867⟩; refine ⟨_, rfl, ?_⟩)
    have zb1867 := b1867.size
    replace b1706 := b1706.trans (b1867.mono b1706.size)
    replace b1635 := b1635.trans (b1867.mono b1635.size)
    replace b1592 := b1592.trans (b1867.mono b1592.size)
    replace b1423 := b1423.trans (b1867.mono b1423.size)
    replace b1124 := b1124.trans (b1867.mono b1124.size)
    replace b665 := b665.trans (b1867.mono b665.size)
    replace b215 := b215.trans (b1867.mono b215.size)
    replace qT := qT.trans (b1867.mono qT.size)
    replace r69 := r69.up b1867
    replace b66 := b66.trans (b1867.mono b66.size)
    replace q := q.trans (b1867.mono q.size)
    replace h := h.up b1867
    replace r1426 := r1426.up b1867
    have l1957 := r69.lt
    have l1958 := h.lt
    have l1959 := r1426.lt
    refine LL.alloc ([Value.int IntKind.i64 0, Value.string { data := { toList := [] } }, Value.string { data := { toList := [] } }, Value.int IntKind.i64 0, Value.int IntKind.i64 0, Value.int IntKind.u64 0, Value.slice none 0 0]) rfl rfl rfl rfl rfl ?_
    intro W1961 g1962 eg1962 r1963 z1964 b1960
    replace b1867 := b1867.trans (b1960.mono b1867.size)
    replace b1706 := b1706.trans (b1960.mono b1706.size)
    replace b1635 := b1635.trans (b1960.mono b1635.size)
    replace b1592 := b1592.trans (b1960.mono b1592.size)
    replace b1423 := b1423.trans (b1960.mono b1423.size)
    replace b1124 := b1124.trans (b1960.mono b1124.size)
    replace b665 := b665.trans (b1960.mono b665.size)
    replace b215 := b215.trans (b1960.mono b215.size)
    replace qT := qT.trans (b1960.mono qT.size)
    replace r69 := r69.up b1960
    replace b66 := b66.trans (b1960.mono b66.size)
    replace q := q.trans (b1960.mono q.size)
    replace h := h.up b1960
    replace r1426 := r1426.up b1960
    refine LL.storeN (vs := [Value.int IntKind.i64 14, strV p, strV [], Value.int IntKind.i64 0, Value.int IntKind.i64 many, Value.int IntKind.u64 ↑key, Value.slice none 0 0]) rfl rfl rfl rfl r1963 (by exact Nat.le_of_ble_eq_true rfl) (ones_of rfl) rfl rfl ?_
    intro W2054 r2055 b2053 z2056
    have hlb2053 := r1963.lt
    replace r2055 : RowL W2054 _ 52 [Value.int IntKind.i64 14, strV p, strV [], Value.int IntKind.i64 0, Value.int IntKind.i64 many, Value.int IntKind.u64 ↑key, Value.slice none 0 0] := r2055
    clear r1963
    replace b1960 := b1960.grown b2053 b1960.size (by rintro k ⟨⟩; omega)
    replace b1867 := b1867.grown b2053 b1867.size (by rintro k ⟨⟩; omega)
    replace b1706 := b1706.grown b2053 b1706.size (by rintro k ⟨⟩; omega)
    replace b1635 := b1635.grown b2053 b1635.size (by rintro k ⟨⟩; omega)
    replace b1592 := b1592.grown b2053 b1592.size (by rintro k ⟨⟩; omega)
    replace b1423 := b1423.grown b2053 b1423.size (by rintro k ⟨⟩; omega)
    replace b1124 := b1124.grown b2053 b1124.size (by rintro k ⟨⟩; omega)
    replace b665 := b665.grown b2053 b665.size (by rintro k ⟨⟩; omega)
    replace b215 := b215.grown b2053 b215.size (by rintro k ⟨⟩; omega)
    replace qT := qT.grown b2053 qT.size (by rintro k ⟨⟩; omega)
    replace r69 := r69.gr b2053 (by have := r69.lt; omega)
    replace b66 := b66.grown b2053 b66.size (by rintro k ⟨⟩; omega)
    replace q := q.grown b2053 q.size (by rintro k ⟨⟩; omega)
    replace h := h.gr b2053 (by have := h.lt; omega)
    replace r1426 := r1426.gr b2053 (by have := r1426.lt; omega)
    have r1963 := r2055
    clear r2055
    refine LL.nilS ?_
    refine CC.seq ?_
    refine CC.region ?_
    refine LL.val (R.field rfl rfl (I.fld rfl)) rfl rfl rfl ?_
    refine LL.val (R.load rfl rfl (I.ld1 rfl (RowL.cell r69 rfl))) rfl rfl rfl ?_
    refine LL.val (R.move rfl rfl) rfl rfl rfl ?_
    refine LL.val (R.field rfl rfl (I.fld rfl)) rfl rfl rfl ?_
    refine LL.val (R.load rfl rfl (I.ld1 rfl (RowL.cell r1426 rfl))) rfl rfl rfl ?_
    refine LL.val (R.eqT rfl rfl rfl (by omega)) rfl rfl rfl ?_
    refine LL.val (R.pick rfl rfl rfl) rfl rfl rfl ?_
    refine LL.val (R.move rfl rfl) rfl rfl rfl ?_
    refine LL.val (R.field rfl rfl (I.fld rfl)) rfl rfl rfl ?_
    refine LL.val (R.load rfl rfl (I.ld1 rfl (RowL.cell r1426 rfl))) rfl rfl rfl ?_
    (refine LL.val (R.eqS (a := []) (b := []) (c := true) rfl rfl rfl (by simp)) rfl rfl rfl ?_)
    refine LL.val (R.pick rfl rfl rfl) rfl rfl rfl ?_
    refine LL.val (R.move rfl rfl) rfl rfl rfl ?_
    refine LL.skip rfl rfl ?_
    refine LL.skip rfl rfl ?_
    refine LL.skip rfl rfl ?_
    refine LL.skip rfl rfl ?_
    refine LL.skip rfl rfl ?_
    refine LL.skip rfl rfl ?_
    refine LL.skip rfl rfl ?_
    refine LL.skip rfl rfl ?_
    refine LL.skip rfl rfl ?_
    refine LL.skip rfl rfl ?_
    refine LL.skip rfl rfl ?_
    refine LL.skip rfl rfl ?_
    refine LL.skip rfl rfl ?_
    refine LL.skip rfl rfl ?_
    refine LL.skip rfl rfl ?_
    refine LL.skip rfl rfl ?_
    refine LL.skip rfl rfl ?_
    refine LL.skip rfl rfl ?_
    refine LL.skip rfl rfl ?_
    refine LL.skip rfl rfl ?_
    refine LL.skip rfl rfl ?_
    refine LL.skip rfl rfl ?_
    refine LL.skip rfl rfl ?_
    refine LL.skip rfl rfl ?_
    refine LL.skip rfl rfl ?_
    refine LL.skip rfl rfl ?_
    refine LL.skip rfl rfl ?_
    refine LL.skip rfl rfl ?_
    refine LL.skip rfl rfl ?_
    refine LL.skip rfl rfl ?_
    refine LL.skip rfl rfl ?_
    refine LL.skip rfl rfl ?_
    refine LL.skip rfl rfl ?_
    refine LL.skip rfl rfl ?_
    refine LL.skip rfl rfl ?_
    refine LL.skip rfl rfl ?_
    refine LL.skip rfl rfl ?_
    refine LL.skip rfl rfl ?_
    refine LL.skip rfl rfl ?_
    refine LL.skip rfl rfl ?_
    refine LL.skip rfl rfl ?_
    refine LL.skip rfl rfl ?_
    refine LL.skip rfl rfl ?_
    refine LL.skip rfl rfl ?_
    refine LL.skip rfl rfl ?_
    refine LL.skip rfl rfl ?_
    refine LL.skip rfl rfl ?_
    refine LL.val (R.pick rfl rfl rfl) rfl rfl rfl ?_
    refine LL.val (R.assign rfl rfl) rfl rfl rfl ?_
    refine LL.nilS ?_
    refine CC.ret ?_
    refine EE.ret _ rfl rfl ?_
    exact ⟨rfl, q⟩
  | false =>
    refine X.fn Try.func8 rfl (n := 125) rfl rfl ?_
    refine CC.seq ?_
    refine CC.region ?_
    have la65 := h.lt
    refine LL.box [strV p, Value.int IntKind.i64 many, Value.int IntKind.u64 ↑key, Value.slice a2 n2 c2, Value.bool false, Value.int IntKind.i64 why] rfl rfl rfl rfl rfl ?_
    intro Wa67 ga68 ega68 ra69 za70 ba66
    replace q := q.trans (ba66.mono q.size)
    replace h := h.up ba66
    refine LL.val (R.assign rfl rfl) rfl rfl rfl ?_
    refine LL.nilS ?_
    refine CC.seq ?_
    refine CC.region ?_
    refine LL.val (R.move rfl rfl) rfl rfl rfl ?_
    have la219 := ra69.lt
    have la220 := h.lt
    (refine LL.call (R.call rfl rfl rfl) rfl rfl rfl (hT _ q) ?_; rintro e Wa218 ⟨at', nt', ct', rfl, ot, ba215⟩; refine ⟨_, rfl, ?_⟩; obtain ⟨_, _, e9, _⟩ := ot.form rfl; cases e9; obtain ⟨X1, hzX1, otF, qT⟩ := exposeS ot; have zX1 := qT.size; clear ot)
    have zba215 := ba215.size
    replace ra69 := ra69.up ba215
    replace ba66 := ba66.trans (ba215.mono ba66.size)
    replace q := q.trans (ba215.mono q.size)
    replace h := h.up ba215
    refine LL.val (R.move rfl rfl) rfl rfl rfl ?_
    refine LL.val (R.extract rfl rfl rfl) rfl rfl rfl ?_
    refine LL.val (R.extract rfl rfl rfl) rfl rfl rfl ?_
    refine LL.val (R.assign rfl rfl) rfl rfl rfl ?_
    refine LL.val (R.assign rfl rfl) rfl rfl rfl ?_
    refine LL.nilS ?_
    refine CC.seq ?_
    refine CC.region ?_
    refine LL.val (R.move rfl rfl) rfl rfl rfl ?_
    have la669 := ra69.lt
    have la670 := h.lt
    (refine LL.call (R.call rfl rfl rfl) rfl rfl rfl (sover_any g h) ?_; rintro e Wa668 ⟨rfl, ba665⟩; refine ⟨_, rfl, ?_⟩)
    have zba665 := ba665.size
    replace ba215 := ba215.trans (ba665.mono ba215.size)
    replace qT := qT.trans (ba665.mono qT.size)
    replace ra69 := ra69.up ba665
    replace ba66 := ba66.trans (ba665.mono ba66.size)
    replace q := q.trans (ba665.mono q.size)
    replace h := h.up ba665
    refine LL.val (R.move rfl rfl) rfl rfl rfl ?_
    refine LL.val (R.extract rfl rfl rfl) rfl rfl rfl ?_
    refine LL.val (R.extract rfl rfl rfl) rfl rfl rfl ?_
    refine LL.val (R.assign rfl rfl) rfl rfl rfl ?_
    refine LL.val (R.assign rfl rfl) rfl rfl rfl ?_
    refine LL.nilS ?_
    refine CC.seq ?_
    refine CC.region ?_
    refine LL.val (R.move rfl rfl) rfl rfl rfl ?_
    have la1128 := ra69.lt
    have la1129 := h.lt
    (refine LL.call (R.call rfl rfl rfl) rfl rfl rfl (scall_F g h) ?_; rintro e Wa1127 ⟨rfl, ba1124⟩; refine ⟨_, rfl, ?_⟩)
    have zba1124 := ba1124.size
    replace ba665 := ba665.trans (ba1124.mono ba665.size)
    replace ba215 := ba215.trans (ba1124.mono ba215.size)
    replace qT := qT.trans (ba1124.mono qT.size)
    replace ra69 := ra69.up ba1124
    replace ba66 := ba66.trans (ba1124.mono ba66.size)
    replace q := q.trans (ba1124.mono q.size)
    replace h := h.up ba1124
    refine LL.val (R.move rfl rfl) rfl rfl rfl ?_
    refine LL.val (R.extract rfl rfl rfl) rfl rfl rfl ?_
    refine LL.val (R.extract rfl rfl rfl) rfl rfl rfl ?_
    have la1421 := ra69.lt
    have la1422 := h.lt
    refine LL.alloc ([Value.int IntKind.i64 0, Value.string { data := { toList := [] } }, Value.string { data := { toList := [] } }, Value.int IntKind.i64 0, Value.int IntKind.i64 0, Value.int IntKind.u64 0, Value.slice none 0 0]) rfl rfl rfl rfl rfl ?_
    intro Wa1424 ga1425 ega1425 ra1426 za1427 ba1423
    replace ba1124 := ba1124.trans (ba1423.mono ba1124.size)
    replace ba665 := ba665.trans (ba1423.mono ba665.size)
    replace ba215 := ba215.trans (ba1423.mono ba215.size)
    replace qT := qT.trans (ba1423.mono qT.size)
    replace ra69 := ra69.up ba1423
    replace ba66 := ba66.trans (ba1423.mono ba66.size)
    replace q := q.trans (ba1423.mono q.size)
    replace h := h.up ba1423
    refine LL.storeN (vs := [Value.int IntKind.i64 14, strV p, strV [], Value.int IntKind.i64 0, Value.int IntKind.i64 many, Value.int IntKind.u64 ↑key, Value.slice none 0 0]) rfl rfl rfl rfl ra1426 (by exact Nat.le_of_ble_eq_true rfl) (ones_of rfl) rfl rfl ?_
    intro Wa1509 ra1510 ba1508 za1511
    have hlba1508 := ra1426.lt
    replace ra1510 : RowL Wa1509 _ 52 [Value.int IntKind.i64 14, strV p, strV [], Value.int IntKind.i64 0, Value.int IntKind.i64 many, Value.int IntKind.u64 ↑key, Value.slice none 0 0] := ra1510
    clear ra1426
    replace ba1423 := ba1423.grown ba1508 ba1423.size (by rintro k ⟨⟩; omega)
    replace ba1124 := ba1124.grown ba1508 ba1124.size (by rintro k ⟨⟩; omega)
    replace ba665 := ba665.grown ba1508 ba665.size (by rintro k ⟨⟩; omega)
    replace ba215 := ba215.grown ba1508 ba215.size (by rintro k ⟨⟩; omega)
    replace qT := qT.grown ba1508 qT.size (by rintro k ⟨⟩; omega)
    replace ra69 := ra69.gr ba1508 (by have := ra69.lt; omega)
    replace ba66 := ba66.grown ba1508 ba66.size (by rintro k ⟨⟩; omega)
    replace q := q.grown ba1508 q.size (by rintro k ⟨⟩; omega)
    replace h := h.gr ba1508 (by have := h.lt; omega)
    have ra1426 := ra1510
    clear ra1510
    refine LL.val (R.assign rfl rfl) rfl rfl rfl ?_
    refine LL.nilS ?_
    refine CC.seq ?_
    refine CC.seq ?_
    refine CC.freeZ (fun W_ j => j < W_.heap.size ∧ (True)) (by kernel_rfl) (by kernel_rfl) (fun Wa1593 ba1592 za1594 => ?_)
    replace ba1423 := ba1423.trans (ba1592.mono ba1423.size)
    replace ba1124 := ba1124.trans (ba1592.mono ba1124.size)
    replace ba665 := ba665.trans (ba1592.mono ba665.size)
    replace ba215 := ba215.trans (ba1592.mono ba215.size)
    replace qT := qT.trans (ba1592.mono qT.size)
    replace ra69 := ra69.up ba1592
    replace ba66 := ba66.trans (ba1592.mono ba66.size)
    replace q := q.trans (ba1592.mono q.size)
    replace h := h.up ba1592
    replace ra1426 := ra1426.up ba1592
    have hok : Kept (fun j => j < Wa1593.heap.size ∧ (True)) Wa1593 Wa1593 := Kept.refl _ _
    have fzra69 := fzRow (K := fun j => j < Wa1593.heap.size ∧ (True)) ra69 ⟨ra69.lt, (by first | trivial | omega)⟩
    have fzh := fzRow (K := fun j => j < Wa1593.heap.size ∧ (True)) h ⟨h.lt, (by first | trivial | omega)⟩
    have fzra1426 := fzRow (K := fun j => j < Wa1593.heap.size ∧ (True)) ra1426 ⟨ra1426.lt, (by first | trivial | omega)⟩
    refine AA.pure 0 rfl hok (by kernel_rfl) (fun w' b' => R.move rfl rfl) rfl rfl ?_
    refine AA.pure 1 rfl hok (by kernel_rfl) (fun w' b' => R.not rfl rfl) rfl rfl ?_
    refine AA.pure 2 rfl hok (by kernel_rfl) (fun w' b' => R.move rfl rfl) rfl rfl ?_
    refine AA.pure 3 rfl hok (by kernel_rfl) (fun w' b' => R.move rfl rfl) rfl rfl ?_
    refine AA.pure 4 rfl hok (by kernel_rfl) (fun w' b' => R.field rfl rfl (I.fld rfl)) rfl rfl ?_
    refine AA.pure 5 rfl hok (by kernel_rfl) (fun w' b' => R.load rfl rfl (I.ld1 rfl (RowL.cell (fzra69 w' b') rfl))) rfl rfl ?_
    refine AA.one 6 (by kernel_rfl) ?_
    have la1639 := ra69.lt
    have la1640 := h.lt
    have la1641 := ra1426.lt
    (refine SR.call rfl (R.call rfl rfl rfl) rfl rfl (nmsame_T _ _ ts _ (otF _ qT) (hF2 _ q) (by omega)) ?_; rintro e Wa1638 ⟨rfl, ba1635⟩; refine ⟨_, rfl, ?_⟩)
    have zba1635 := ba1635.size
    replace ba1592 := ba1592.trans (ba1635.mono ba1592.size)
    replace ba1423 := ba1423.trans (ba1635.mono ba1423.size)
    replace ba1124 := ba1124.trans (ba1635.mono ba1124.size)
    replace ba665 := ba665.trans (ba1635.mono ba665.size)
    replace ba215 := ba215.trans (ba1635.mono ba215.size)
    replace qT := qT.trans (ba1635.mono qT.size)
    replace ra69 := ra69.up ba1635
    replace ba66 := ba66.trans (ba1635.mono ba66.size)
    replace q := q.trans (ba1635.mono q.size)
    replace h := h.up ba1635
    replace ra1426 := ra1426.up ba1635
    replace hok := hok.trans (bkept ba1635 (fun j h => by have := h.1; have := hok.size; omega))
    have ya1645 := hok.size
    refine ⟨hok, ?_⟩
    refine AA.pure 7 rfl hok (by kernel_rfl) (fun w' b' => R.not rfl rfl) rfl rfl ?_
    refine AA.pure 8 rfl hok (by kernel_rfl) (fun w' b' => R.pick rfl rfl rfl) rfl rfl ?_
    refine AA.pure 9 rfl hok (by kernel_rfl) (fun w' b' => R.move rfl rfl) rfl rfl ?_
    refine AA.pure 10 rfl hok (by kernel_rfl) (fun w' b' => R.move rfl rfl) rfl rfl ?_
    refine AA.pure 11 rfl hok (by kernel_rfl) (fun w' b' => R.field rfl rfl (I.fld rfl)) rfl rfl ?_
    refine AA.pure 12 rfl hok (by kernel_rfl) (fun w' b' => R.load rfl rfl (I.ld1 rfl (RowL.cell (fzra69 w' b') rfl))) rfl rfl ?_
    refine AA.pure 13 rfl hok (by kernel_rfl) (fun w' b' => R.neBool rfl rfl rfl rfl rfl) rfl rfl ?_
    refine AA.pure 14 rfl hok (by kernel_rfl) (fun w' b' => R.pick rfl rfl rfl) rfl rfl ?_
    refine AA.pure 15 rfl hok (by kernel_rfl) (fun w' b' => R.move rfl rfl) rfl rfl ?_
    refine AA.pure 16 rfl hok (by kernel_rfl) (fun w' b' => R.move rfl rfl) rfl rfl ?_
    refine AA.pureC 17 rfl hok (by kernel_rfl) (fun w' => (R.call rfl rfl rfl)) (fun w' b' => num28_any _ w') rfl rfl ?_
    refine AA.pure 18 rfl hok (by kernel_rfl) (fun w' b' => R.field rfl rfl (I.fld rfl)) rfl rfl ?_
    refine AA.pure 19 rfl hok (by kernel_rfl) (fun w' b' => R.load rfl rfl (I.ld1 rfl (RowL.cell (fzra69 w' b') rfl))) rfl rfl ?_
    refine AA.pure 20 rfl hok (by kernel_rfl) (fun w' b' => R.neF rfl rfl rfl (by omega)) rfl rfl ?_
    refine AA.pure 21 rfl hok (by kernel_rfl) (fun w' b' => R.pick rfl rfl rfl) rfl rfl ?_
    refine AA.pure 22 rfl hok (by kernel_rfl) (fun w' b' => R.move rfl rfl) rfl rfl ?_
    refine AA.pure 23 rfl hok (by kernel_rfl) (fun w' b' => R.move rfl rfl) rfl rfl ?_
    refine AA.pure 24 rfl hok (by kernel_rfl) (fun w' b' => R.field rfl rfl (I.fld rfl)) rfl rfl ?_
    refine AA.pure 25 rfl hok (by kernel_rfl) (fun w' b' => R.load rfl rfl (I.ld1 rfl (RowL.cell (fzra69 w' b') rfl))) rfl rfl ?_
    refine AA.pure 26 rfl hok (by kernel_rfl) (fun w' b' => R.eqBool rfl rfl rfl rfl rfl) rfl rfl ?_
    refine AA.pure 27 rfl hok (by kernel_rfl) (fun w' b' => R.pick rfl rfl rfl) rfl rfl ?_
    refine AA.pure 28 rfl hok (by kernel_rfl) (fun w' b' => R.move rfl rfl) rfl rfl ?_
    refine AA.pure 29 rfl hok (by kernel_rfl) (fun w' b' => R.move rfl rfl) rfl rfl ?_
    refine AA.pure 31 rfl hok (by kernel_rfl) (fun w' b' => R.field rfl rfl (I.fld rfl)) rfl rfl ?_
    refine AA.pure 32 rfl hok (by kernel_rfl) (fun w' b' => R.load rfl rfl (I.ld1 rfl (RowL.cell (fzra69 w' b') rfl))) rfl rfl ?_
    refine AA.one 30 (by kernel_rfl) ?_
    have la1710 := ra69.lt
    have la1711 := h.lt
    have la1712 := ra1426.lt
    (refine SR.call rfl (R.call rfl rfl rfl) rfl rfl (scursor_any g h) ?_; rintro e Wa1709 ⟨rfl, ba1706⟩; refine ⟨_, rfl, ?_⟩)
    have zba1706 := ba1706.size
    replace ba1635 := ba1635.trans (ba1706.mono ba1635.size)
    replace ba1592 := ba1592.trans (ba1706.mono ba1592.size)
    replace ba1423 := ba1423.trans (ba1706.mono ba1423.size)
    replace ba1124 := ba1124.trans (ba1706.mono ba1124.size)
    replace ba665 := ba665.trans (ba1706.mono ba665.size)
    replace ba215 := ba215.trans (ba1706.mono ba215.size)
    replace qT := qT.trans (ba1706.mono qT.size)
    replace ra69 := ra69.up ba1706
    replace ba66 := ba66.trans (ba1706.mono ba66.size)
    replace q := q.trans (ba1706.mono q.size)
    replace h := h.up ba1706
    replace ra1426 := ra1426.up ba1706
    replace hok := hok.trans (bkept ba1706 (fun j h => by have := h.1; have := hok.size; omega))
    have ya1716 := hok.size
    refine ⟨hok, ?_⟩
    refine AA.pure 33 rfl hok (by kernel_rfl) (fun w' b' => R.neF rfl rfl rfl (by omega)) rfl rfl ?_
    refine AA.pure 34 rfl hok (by kernel_rfl) (fun w' b' => R.pick rfl rfl rfl) rfl rfl ?_
    refine AA.done rfl ?_
    clear fzra69 fzh fzra1426 hok
    refine EE.thenN ?_
    refine CC.no rfl ?_
    refine CC.skip ?_
    refine EE.thenN ?_
    refine CC.seq ?_
    refine CC.region ?_
    refine LL.val (R.load rfl rfl (I.ldNc (vs := [strV p, Value.int IntKind.i64 many, Value.int IntKind.u64 ↑key, Value.slice a2 n2 c2, Value.bool false, Value.int IntKind.i64 why]) (RowL.cells ra69 rfl) (by rfl) (by rfl))) rfl rfl rfl ?_
    have la1871 := ra69.lt
    have la1872 := h.lt
    have la1873 := ra1426.lt
    (refine LL.call (R.call rfl rfl rfl) rfl rfl rfl (rcall_any _ _ _ _ _ _ _ _ _) ?_; rintro e Wa1870 ⟨rfl, ba1867⟩; refine ⟨_, rfl, ?_⟩)
    have zba1867 := ba1867.size
    replace ba1706 := ba1706.trans (ba1867.mono ba1706.size)
    replace ba1635 := ba1635.trans (ba1867.mono ba1635.size)
    replace ba1592 := ba1592.trans (ba1867.mono ba1592.size)
    replace ba1423 := ba1423.trans (ba1867.mono ba1423.size)
    replace ba1124 := ba1124.trans (ba1867.mono ba1124.size)
    replace ba665 := ba665.trans (ba1867.mono ba665.size)
    replace ba215 := ba215.trans (ba1867.mono ba215.size)
    replace qT := qT.trans (ba1867.mono qT.size)
    replace ra69 := ra69.up ba1867
    replace ba66 := ba66.trans (ba1867.mono ba66.size)
    replace q := q.trans (ba1867.mono q.size)
    replace h := h.up ba1867
    replace ra1426 := ra1426.up ba1867
    have la1957 := ra69.lt
    have la1958 := h.lt
    have la1959 := ra1426.lt
    refine LL.alloc ([Value.int IntKind.i64 0, Value.string { data := { toList := [] } }, Value.string { data := { toList := [] } }, Value.int IntKind.i64 0, Value.int IntKind.i64 0, Value.int IntKind.u64 0, Value.slice none 0 0]) rfl rfl rfl rfl rfl ?_
    intro Wa1961 ga1962 ega1962 ra1963 za1964 ba1960
    replace ba1867 := ba1867.trans (ba1960.mono ba1867.size)
    replace ba1706 := ba1706.trans (ba1960.mono ba1706.size)
    replace ba1635 := ba1635.trans (ba1960.mono ba1635.size)
    replace ba1592 := ba1592.trans (ba1960.mono ba1592.size)
    replace ba1423 := ba1423.trans (ba1960.mono ba1423.size)
    replace ba1124 := ba1124.trans (ba1960.mono ba1124.size)
    replace ba665 := ba665.trans (ba1960.mono ba665.size)
    replace ba215 := ba215.trans (ba1960.mono ba215.size)
    replace qT := qT.trans (ba1960.mono qT.size)
    replace ra69 := ra69.up ba1960
    replace ba66 := ba66.trans (ba1960.mono ba66.size)
    replace q := q.trans (ba1960.mono q.size)
    replace h := h.up ba1960
    replace ra1426 := ra1426.up ba1960
    refine LL.storeN (vs := [Value.int IntKind.i64 14, strV p, strV [], Value.int IntKind.i64 0, Value.int IntKind.i64 many, Value.int IntKind.u64 ↑key, Value.slice none 0 0]) rfl rfl rfl rfl ra1963 (by exact Nat.le_of_ble_eq_true rfl) (ones_of rfl) rfl rfl ?_
    intro Wa2054 ra2055 ba2053 za2056
    have hlba2053 := ra1963.lt
    replace ra2055 : RowL Wa2054 _ 52 [Value.int IntKind.i64 14, strV p, strV [], Value.int IntKind.i64 0, Value.int IntKind.i64 many, Value.int IntKind.u64 ↑key, Value.slice none 0 0] := ra2055
    clear ra1963
    replace ba1960 := ba1960.grown ba2053 ba1960.size (by rintro k ⟨⟩; omega)
    replace ba1867 := ba1867.grown ba2053 ba1867.size (by rintro k ⟨⟩; omega)
    replace ba1706 := ba1706.grown ba2053 ba1706.size (by rintro k ⟨⟩; omega)
    replace ba1635 := ba1635.grown ba2053 ba1635.size (by rintro k ⟨⟩; omega)
    replace ba1592 := ba1592.grown ba2053 ba1592.size (by rintro k ⟨⟩; omega)
    replace ba1423 := ba1423.grown ba2053 ba1423.size (by rintro k ⟨⟩; omega)
    replace ba1124 := ba1124.grown ba2053 ba1124.size (by rintro k ⟨⟩; omega)
    replace ba665 := ba665.grown ba2053 ba665.size (by rintro k ⟨⟩; omega)
    replace ba215 := ba215.grown ba2053 ba215.size (by rintro k ⟨⟩; omega)
    replace qT := qT.grown ba2053 qT.size (by rintro k ⟨⟩; omega)
    replace ra69 := ra69.gr ba2053 (by have := ra69.lt; omega)
    replace ba66 := ba66.grown ba2053 ba66.size (by rintro k ⟨⟩; omega)
    replace q := q.grown ba2053 q.size (by rintro k ⟨⟩; omega)
    replace h := h.gr ba2053 (by have := h.lt; omega)
    replace ra1426 := ra1426.gr ba2053 (by have := ra1426.lt; omega)
    have ra1963 := ra2055
    clear ra2055
    refine LL.nilS ?_
    refine CC.seq ?_
    refine CC.region ?_
    refine LL.val (R.field rfl rfl (I.fld rfl)) rfl rfl rfl ?_
    refine LL.val (R.load rfl rfl (I.ld1 rfl (RowL.cell ra69 rfl))) rfl rfl rfl ?_
    refine LL.val (R.move rfl rfl) rfl rfl rfl ?_
    refine LL.skip rfl rfl ?_
    refine LL.skip rfl rfl ?_
    refine LL.skip rfl rfl ?_
    refine LL.val (R.pick rfl rfl rfl) rfl rfl rfl ?_
    refine LL.val (R.move rfl rfl) rfl rfl rfl ?_
    refine LL.skip rfl rfl ?_
    refine LL.skip rfl rfl ?_
    refine LL.skip rfl rfl ?_
    refine LL.val (R.pick rfl rfl rfl) rfl rfl rfl ?_
    refine LL.val (R.move rfl rfl) rfl rfl rfl ?_
    refine LL.val (R.field rfl rfl (I.fld rfl)) rfl rfl rfl ?_
    refine LL.val (R.load rfl rfl (I.ld1 rfl (RowL.cell ra69 rfl))) rfl rfl rfl ?_
    refine LL.val (R.not rfl rfl) rfl rfl rfl ?_
    refine LL.val (R.move rfl rfl) rfl rfl rfl ?_
    refine LL.val (R.field rfl rfl (I.fld rfl)) rfl rfl rfl ?_
    refine LL.val (R.load rfl rfl (I.ld1 rfl (RowL.cell ra1426 rfl))) rfl rfl rfl ?_
    refine LL.val (R.field rfl rfl (I.fld rfl)) rfl rfl rfl ?_
    refine LL.val (R.load rfl rfl (I.ld1 rfl (RowL.cell ra1963 rfl))) rfl rfl rfl ?_
    refine LL.val (R.eqT rfl rfl rfl (by omega)) rfl rfl rfl ?_
    refine LL.val (R.pick rfl rfl rfl) rfl rfl rfl ?_
    refine LL.val (R.move rfl rfl) rfl rfl rfl ?_
    refine LL.val (R.field rfl rfl (I.fld rfl)) rfl rfl rfl ?_
    refine LL.val (R.load rfl rfl (I.ld1 rfl (RowL.cell ra1426 rfl))) rfl rfl rfl ?_
    refine LL.val (R.field rfl rfl (I.fld rfl)) rfl rfl rfl ?_
    refine LL.val (R.load rfl rfl (I.ld1 rfl (RowL.cell ra1963 rfl))) rfl rfl rfl ?_
    (refine LL.val (R.eqS (a := p) (b := p) (c := true) rfl rfl rfl (by simp)) rfl rfl rfl ?_)
    refine LL.val (R.pick rfl rfl rfl) rfl rfl rfl ?_
    refine LL.val (R.move rfl rfl) rfl rfl rfl ?_
    refine LL.val (R.field rfl rfl (I.fld rfl)) rfl rfl rfl ?_
    refine LL.val (R.load rfl rfl (I.ld1 rfl (RowL.cell ra1426 rfl))) rfl rfl rfl ?_
    refine LL.val (R.field rfl rfl (I.fld rfl)) rfl rfl rfl ?_
    refine LL.val (R.load rfl rfl (I.ld1 rfl (RowL.cell ra1963 rfl))) rfl rfl rfl ?_
    refine LL.val (R.eqT rfl rfl rfl (by omega)) rfl rfl rfl ?_
    refine LL.val (R.pick rfl rfl rfl) rfl rfl rfl ?_
    refine LL.val (R.move rfl rfl) rfl rfl rfl ?_
    refine LL.val (R.field rfl rfl (I.fld rfl)) rfl rfl rfl ?_
    refine LL.val (R.load rfl rfl (I.ld1 rfl (RowL.cell ra1426 rfl))) rfl rfl rfl ?_
    refine LL.val (R.field rfl rfl (I.fld rfl)) rfl rfl rfl ?_
    refine LL.val (R.load rfl rfl (I.ld1 rfl (RowL.cell ra1963 rfl))) rfl rfl rfl ?_
    refine LL.val (R.eqT rfl rfl rfl (by omega)) rfl rfl rfl ?_
    refine LL.val (R.pick rfl rfl rfl) rfl rfl rfl ?_
    refine LL.val (R.move rfl rfl) rfl rfl rfl ?_
    refine LL.val (R.field rfl rfl (I.fld rfl)) rfl rfl rfl ?_
    refine LL.val (R.load rfl rfl (I.ld1 rfl (RowL.cell ra1426 rfl))) rfl rfl rfl ?_
    (refine LL.val (R.eqS (a := []) (b := []) (c := true) rfl rfl rfl (by simp)) rfl rfl rfl ?_)
    refine LL.val (R.pick rfl rfl rfl) rfl rfl rfl ?_
    refine LL.val (R.move rfl rfl) rfl rfl rfl ?_
    refine LL.val (R.field rfl rfl (I.fld rfl)) rfl rfl rfl ?_
    refine LL.val (R.load rfl rfl (I.ld1 rfl (RowL.cell ra1426 rfl))) rfl rfl rfl ?_
    refine LL.val (R.eqT rfl rfl rfl (by omega)) rfl rfl rfl ?_
    refine LL.val (R.pick rfl rfl rfl) rfl rfl rfl ?_
    refine LL.val (R.move rfl rfl) rfl rfl rfl ?_
    refine LL.val (R.field rfl rfl (I.fld rfl)) rfl rfl rfl ?_
    refine LL.val (R.load rfl rfl (I.ld1 rfl (RowL.cell ra1426 rfl))) rfl rfl rfl ?_
    refine LL.val (R.len rfl rfl rfl rfl) rfl rfl rfl ?_
    refine LL.val (R.eqT rfl rfl rfl (by omega)) rfl rfl rfl ?_
    refine LL.val (R.pick rfl rfl rfl) rfl rfl rfl ?_
    refine LL.val (R.pick rfl rfl rfl) rfl rfl rfl ?_
    refine LL.val (R.assign rfl rfl) rfl rfl rfl ?_
    refine LL.nilS ?_
    refine CC.ret ?_
    refine EE.ret _ rfl rfl ?_
    exact ⟨rfl, q⟩
end
end Go.Proofs.Ytplindpeiedcbaa
/- stream: the document's Take (written by genst7.py). -/
namespace Go.Proofs.Ytplindpeiedcbaa
set_option linter.unusedVariables false
set_option linter.unusedSimpArgs false
open Go.RowKit Go.Shelf
set_option maxRecDepth 100000
set_option maxHeartbeats 8000000
section
variable {α : Type} {enc : α → List Value} {k : Nat} {P : Program} {ops : Array Oper} {ok : World → Prop} {n i : Nat} {D : List Deferred} {M : Slots} {w : World} {o : Oper} {K : Slots → World → Prop} {T e : TypeId} {z : Value} {bytes : Nat}
theorem SR.append0 {xs : Array Operand} {g : Nat} {vx : Value} {us : List α} (hi : ops[i]? = some o) (ho : o.op = .call { callee := .builtin .append, args := xs, argTypes := #[T, T] }) (hx : evsM M xs.toList = some [.slice (some ⟨g, 0, none⟩) 0 0, vx]) (E : Enc enc k) (I : ElT P T e z k bytes) (hrow : RowL w g e []) (hr : ReadsT enc k w vx us)
    (h63 : us.length ≤ maxLen) (hb : us.length * bytes ≤ 140737488355328) (hd : dstB n o.dst = true) (hg : wantB ops M o.guard = some true)
    (c : ∀ v' w', OwnsT enc k w' g e v' us → Below w.heap.size w w' → ok w' ∧ K (putM M o.dst v') w') : SR P ops ok i K n D M w := by
  have hown : OwnsT enc k w g e (.slice (some ⟨g, 0, none⟩) 0 0) [] := RowL.ownsT (ts := []) E hrow (Nat.le_refl _) (by simp [maxLen])
  obtain ⟨v', w', h1, h2, h3⟩ := run_append_t0 E I o.type hown hr h63 hb (Nat.le_of_lt hrow.lt)
  have h := c v' w' h2 h3
  refine SR.val (v := v') hi (R.builtin ho hx fun b => ?_) hd hg h.1 h.2
  unfold builtin
  simp only [Sem.run_bind, h1, Result.andThen_ok, Sem.run_pure]
end

/-- A list of names that lies in a block. -/
structure NmB (w : World) (bb : Nat) (a : Option Addr) (n c : Nat) (l : List Nm) : Prop where
  r : ReadsT nmE 3 w (.slice a n c) l
  at' : ∀ (x : Addr), a = some x → 0 < n → x.block = bb
  lt : bb < w.heap.size
section
variable {w w' : World} {bb r n c : Nat} {a : Option Addr} {l : List Nm}
theorem NmB.up (h : NmB w bb a n c l) (hb : Below w.heap.size w w') : NmB w' bb a n c l := ⟨h.r.up hb, h.at', Nat.lt_of_lt_of_le h.lt hb.size⟩
theorem NmB.gr (h : NmB w bb a n c l) (hb : w.grownBy w' (some r)) (e : r ≠ bb) : NmB w' bb a n c l := ⟨h.r.grown hb fun x n c e1 h0 => by
  cases e1
  have := h.at' x rfl h0
  omega, h.at', Nat.lt_of_lt_of_le h.lt hb.size⟩
theorem NmB.len (h : NmB w bb a n c l) : l.length = n := by
  obtain ⟨_, _, e, _⟩ := h.r.form rfl
  cases e
  rfl
theorem NmB.own {base e : Nat} (o : OwnsT nmE 3 w base e (.slice a n c) l) (h0 : 0 < w.heap.size) : ∃ bb, NmB w bb a n c l ∧ (bb = 0 ∨ base ≤ bb) := by
  rcases o.above with h | ⟨b, h, h1, h2⟩
  · refine ⟨0, ⟨o.reads nmEnc, fun x e _ => ?_, h0⟩, .inl rfl⟩
    subst e
    cases h
  · refine ⟨b, ⟨o.reads nmEnc, fun x e _ => ?_, h2⟩, .inr h1⟩
    subst e
    exact Option.some.inj h
end
section
variable (p : Bs) (many : Int) (key : Nat) (why : Int) (a2 : Option Addr) (n2 c2 : Nat) (w : World) (er : Int) {ino kd lk sz : Int} {ba : Option Addr} {bn bc : Nat} {tx : Bs} {na : Option Addr} {nn nc : Nat} {k2 : Nat}
theorem rtake_over : Calls Try.prog 9 #[.agg #[strV p, .int .i64 many, .int .u64 (key : Int), .slice a2 n2 c2, .bool true, .int .i64 why], .agg #[.int .i64 er, .int .i64 ino, .int .i64 kd, .int .i64 lk, .int .i64 sz, .slice ba bn bc, strV tx, .slice na nn nc, .int .u64 (k2 : Int)]] w fun e w' => e = .returned (.tuple #[.agg #[strV p, .int .i64 many, .int .u64 (key : Int), .slice a2 n2 c2, .bool true, .int .i64 why], .int .i64 5]) ∧ Below w.heap.size w w' := by
  have q := Below.refl w.heap.size w
  refine X.fn Try.func9 rfl (n := 35) rfl rfl ?_
  refine CC.seq ?_
  refine CC.region ?_
  refine LL.box [strV p, Value.int IntKind.i64 many, Value.int IntKind.u64 ↑key, Value.slice a2 n2 c2, Value.bool true, Value.int IntKind.i64 why] rfl rfl rfl rfl rfl ?_
  intro W2 g3 eg3 r4 z5 b1
  replace q := q.trans (b1.mono q.size)
  have l6 := r4.lt
  refine LL.box [Value.int IntKind.i64 er, Value.int IntKind.i64 ino, Value.int IntKind.i64 kd, Value.int IntKind.i64 lk, Value.int IntKind.i64 sz, Value.slice ba bn bc, strV tx, Value.slice na nn nc, Value.int IntKind.u64 ↑k2] rfl rfl rfl rfl rfl ?_
  intro W8 g9 eg9 r10 z11 b7
  replace r4 := r4.up b7
  replace b1 := b1.trans (b7.mono b1.size)
  replace q := q.trans (b7.mono q.size)
  have l12 := r10.lt
  have l13 := r4.lt
  refine LL.alloc ([Value.string { data := { toList := [] } }, Value.int IntKind.i64 0, Value.int IntKind.u64 0, Value.slice none 0 0, Value.bool false, Value.int IntKind.i64 0]) rfl rfl rfl rfl rfl ?_
  intro W15 g16 eg16 r17 z18 b14
  replace r10 := r10.up b14
  replace b7 := b7.trans (b14.mono b7.size)
  replace r4 := r4.up b14
  replace b1 := b1.trans (b14.mono b1.size)
  replace q := q.trans (b14.mono q.size)
  refine LL.val (R.assign rfl rfl) rfl rfl rfl ?_
  refine LL.nilS ?_
  refine CC.seq ?_
  refine CC.seq ?_
  refine CC.region ?_
  refine LL.val (R.field rfl rfl (I.fld rfl)) rfl rfl rfl ?_
  refine LL.val (R.load rfl rfl (I.ld1 rfl (RowL.cell r4 rfl))) rfl rfl rfl ?_
  refine LL.nilS ?_
  refine CC.yes rfl ?_
  refine CC.seq ?_
  refine CC.region ?_
  refine LL.val (R.load rfl rfl (I.ldNc (vs := [strV p, Value.int IntKind.i64 many, Value.int IntKind.u64 ↑key, Value.slice a2 n2 c2, Value.bool true, Value.int IntKind.i64 why]) (RowL.cells r4 rfl) (by rfl) (by rfl))) rfl rfl rfl ?_
  refine LL.storeN (vs := [strV p, Value.int IntKind.i64 many, Value.int IntKind.u64 ↑key, Value.slice a2 n2 c2, Value.bool true, Value.int IntKind.i64 why]) rfl rfl rfl rfl r17 (by exact Nat.le_of_ble_eq_true rfl) (ones_of rfl) rfl rfl ?_
  intro W20 r21 b19 z22
  have hlb19 := r17.lt
  replace r21 : RowL W20 _ 33 [strV p, Value.int IntKind.i64 many, Value.int IntKind.u64 ↑key, Value.slice a2 n2 c2, Value.bool true, Value.int IntKind.i64 why] := r21
  clear r17
  replace b14 := b14.grown b19 b14.size (by rintro k ⟨⟩; omega)
  replace r10 := r10.gr b19 (by have := r10.lt; omega)
  replace b7 := b7.grown b19 b7.size (by rintro k ⟨⟩; omega)
  replace r4 := r4.gr b19 (by have := r4.lt; omega)
  replace b1 := b1.grown b19 b1.size (by rintro k ⟨⟩; omega)
  replace q := q.grown b19 q.size (by rintro k ⟨⟩; omega)
  have r17 := r21
  clear r21
  refine LL.val (R.assign rfl rfl) rfl rfl rfl ?_
  refine LL.nilS ?_
  refine CC.ret ?_
  refine EE.thenR ?_
  refine EE.ret2 rfl ⟨_, rfl, lvNc (RowL.cells0 (by assumption)) (by rfl) (by rfl)⟩ rfl ?_
  exact ⟨rfl, q⟩
theorem rtake_end (h : er ≠ 0 ∨ nn = 0) : Calls Try.prog 9 #[.agg #[strV p, .int .i64 many, .int .u64 (key : Int), .slice a2 n2 c2, .bool false, .int .i64 why], .agg #[.int .i64 er, .int .i64 ino, .int .i64 kd, .int .i64 lk, .int .i64 sz, .slice ba bn bc, strV tx, .slice na nn nc, .int .u64 (k2 : Int)]] w fun e w' => e = .returned (.tuple #[.agg #[strV p, .int .i64 many, .int .u64 (key : Int), .slice a2 n2 c2, .bool true, .int .i64 er], .int .i64 0]) ∧ Below w.heap.size w w' := by
  have q := Below.refl w.heap.size w
  by_cases he : er ≠ 0
  · clear h
    refine X.fn Try.func9 rfl (n := 35) rfl rfl ?_
    refine CC.seq ?_
    refine CC.region ?_
    refine LL.box [strV p, Value.int IntKind.i64 many, Value.int IntKind.u64 ↑key, Value.slice a2 n2 c2, Value.bool false, Value.int IntKind.i64 why] rfl rfl rfl rfl rfl ?_
    intro W2 g3 eg3 r4 z5 b1
    replace q := q.trans (b1.mono q.size)
    have l6 := r4.lt
    refine LL.box [Value.int IntKind.i64 er, Value.int IntKind.i64 ino, Value.int IntKind.i64 kd, Value.int IntKind.i64 lk, Value.int IntKind.i64 sz, Value.slice ba bn bc, strV tx, Value.slice na nn nc, Value.int IntKind.u64 ↑k2] rfl rfl rfl rfl rfl ?_
    intro W8 g9 eg9 r10 z11 b7
    replace r4 := r4.up b7
    replace b1 := b1.trans (b7.mono b1.size)
    replace q := q.trans (b7.mono q.size)
    have l12 := r10.lt
    have l13 := r4.lt
    refine LL.alloc ([Value.string { data := { toList := [] } }, Value.int IntKind.i64 0, Value.int IntKind.u64 0, Value.slice none 0 0, Value.bool false, Value.int IntKind.i64 0]) rfl rfl rfl rfl rfl ?_
    intro W15 g16 eg16 r17 z18 b14
    replace r10 := r10.up b14
    replace b7 := b7.trans (b14.mono b7.size)
    replace r4 := r4.up b14
    replace b1 := b1.trans (b14.mono b1.size)
    replace q := q.trans (b14.mono q.size)
    refine LL.val (R.assign rfl rfl) rfl rfl rfl ?_
    refine LL.nilS ?_
    refine CC.seq ?_
    refine CC.seq ?_
    refine CC.region ?_
    refine LL.val (R.field rfl rfl (I.fld rfl)) rfl rfl rfl ?_
    refine LL.val (R.load rfl rfl (I.ld1 rfl (RowL.cell r4 rfl))) rfl rfl rfl ?_
    refine LL.nilS ?_
    refine CC.no rfl ?_
    refine CC.skip ?_
    refine EE.thenN ?_
    refine CC.seq ?_
    refine CC.seq ?_
    refine CC.region ?_
    refine LL.val (R.field rfl rfl (I.fld rfl)) rfl rfl rfl ?_
    refine LL.val (R.load rfl rfl (I.ld1 rfl (RowL.cell r10 rfl))) rfl rfl rfl ?_
    refine LL.val (R.neT rfl rfl rfl (by omega)) rfl rfl rfl ?_
    refine LL.val (R.move rfl rfl) rfl rfl rfl ?_
    refine LL.skip rfl rfl ?_
    refine LL.skip rfl rfl ?_
    refine LL.skip rfl rfl ?_
    refine LL.skip rfl rfl ?_
    refine LL.val (R.pick rfl rfl rfl) rfl rfl rfl ?_
    refine LL.nilS ?_
    refine CC.yes rfl ?_
    refine CC.seq ?_
    refine CC.freeZ (fun W_ j => j < W_.heap.size ∧ (j ≠ g3)) (by kernel_rfl) (by kernel_rfl) (fun W20 b19 z21 => ?_)
    replace r17 := r17.up b19
    replace b14 := b14.trans (b19.mono b14.size)
    replace r10 := r10.up b19
    replace b7 := b7.trans (b19.mono b7.size)
    replace r4 := r4.up b19
    replace b1 := b1.trans (b19.mono b1.size)
    replace q := q.trans (b19.mono q.size)
    have hok : Kept (fun j => j < W20.heap.size ∧ (j ≠ g3)) W20 W20 := Kept.refl _ _
    have fzr17 := fzRow (K := fun j => j < W20.heap.size ∧ (j ≠ g3)) r17 ⟨r17.lt, (by first | trivial | omega)⟩
    have fzr10 := fzRow (K := fun j => j < W20.heap.size ∧ (j ≠ g3)) r10 ⟨r10.lt, (by first | trivial | omega)⟩
    refine AA.pure 0 rfl hok (by kernel_rfl) (fun w' b' => R.field rfl rfl (I.fld rfl)) rfl rfl ?_
    refine AA.pure 1 rfl hok (by kernel_rfl) (fun w' b' => R.load rfl rfl (I.ld1 rfl (RowL.cell (fzr10 w' b') rfl))) rfl rfl ?_
    refine AA.pure 2 rfl hok (by kernel_rfl) (fun w' b' => R.field rfl rfl (I.fld rfl)) rfl rfl ?_
    refine AA.one 3 (by kernel_rfl) ?_
    refine ZR.store rfl rfl rfl rfl rfl r4 (by exact Nat.le_of_ble_eq_true rfl) rfl rfl rfl rfl ?_
    intro W23 r24 b22 z25
    have hlb22 := r4.lt
    replace r24 : RowL W23 _ 33 [strV p, Value.int IntKind.i64 many, Value.int IntKind.u64 ↑key, Value.slice a2 n2 c2, Value.bool true, Value.int IntKind.i64 why] := r24
    clear r4
    replace r17 := r17.gr b22 (by have := r17.lt; omega)
    replace r10 := r10.gr b22 (by have := r10.lt; omega)
    replace b1 := b1.grown b22 b1.size (by rintro k ⟨⟩; omega)
    replace q := q.grown b22 q.size (by rintro k ⟨⟩; omega)
    replace hok := hok.trans (grown_kept b22 (fun j h => by have := h.1; have := hok.size; omega) (fun j h e => by cases e; have h2 := h.1; have h3 := h.2; omega))
    have r4 := r24
    clear r24
    refine ⟨hok, ?_⟩
    refine AA.pure 4 rfl hok (by kernel_rfl) (fun w' b' => R.field rfl rfl (I.fld rfl)) rfl rfl ?_
    refine AA.one 5 (by kernel_rfl) ?_
    refine ZR.store rfl rfl rfl rfl rfl r4 (by exact Nat.le_of_ble_eq_true rfl) rfl rfl rfl rfl ?_
    intro W27 r28 b26 z29
    have hlb26 := r4.lt
    replace r28 : RowL W27 _ 33 [strV p, Value.int IntKind.i64 many, Value.int IntKind.u64 ↑key, Value.slice a2 n2 c2, Value.bool true, Value.int IntKind.i64 er] := r28
    clear r4
    replace r17 := r17.gr b26 (by have := r17.lt; omega)
    replace r10 := r10.gr b26 (by have := r10.lt; omega)
    replace b1 := b1.grown b26 b1.size (by rintro k ⟨⟩; omega)
    replace q := q.grown b26 q.size (by rintro k ⟨⟩; omega)
    replace hok := hok.trans (grown_kept b26 (fun j h => by have := h.1; have := hok.size; omega) (fun j h e => by cases e; have h2 := h.1; have h3 := h.2; omega))
    have r4 := r28
    clear r28
    refine ⟨hok, ?_⟩
    refine AA.done rfl ?_
    clear fzr17 fzr10 hok
    refine EE.thenN ?_
    refine CC.seq ?_
    refine CC.region ?_
    refine LL.val (R.load rfl rfl (I.ldNc (vs := [strV p, Value.int IntKind.i64 many, Value.int IntKind.u64 ↑key, Value.slice a2 n2 c2, Value.bool true, Value.int IntKind.i64 er]) (RowL.cells r4 rfl) (by rfl) (by rfl))) rfl rfl rfl ?_
    refine LL.storeN (vs := [strV p, Value.int IntKind.i64 many, Value.int IntKind.u64 ↑key, Value.slice a2 n2 c2, Value.bool true, Value.int IntKind.i64 er]) rfl rfl rfl rfl r17 (by exact Nat.le_of_ble_eq_true rfl) (ones_of rfl) rfl rfl ?_
    intro W31 r32 b30 z33
    have hlb30 := r17.lt
    replace r32 : RowL W31 _ 33 [strV p, Value.int IntKind.i64 many, Value.int IntKind.u64 ↑key, Value.slice a2 n2 c2, Value.bool true, Value.int IntKind.i64 er] := r32
    clear r17
    replace r10 := r10.gr b30 (by have := r10.lt; omega)
    replace b1 := b1.grown b30 b1.size (by rintro k ⟨⟩; omega)
    replace q := q.grown b30 q.size (by rintro k ⟨⟩; omega)
    replace r4 := r4.gr b30 (by have := r4.lt; omega)
    have r17 := r32
    clear r32
    refine LL.val (R.assign rfl rfl) rfl rfl rfl ?_
    refine LL.nilS ?_
    refine CC.ret ?_
    refine EE.thenR ?_
    refine EE.ret2 rfl ⟨_, rfl, lvNc (RowL.cells0 (by assumption)) (by rfl) (by rfl)⟩ rfl ?_
    exact ⟨rfl, q⟩
  · have he : er = 0 := Classical.not_not.1 he
    subst he
    have hn : nn = 0 := h.resolve_left (fun h => h rfl)
    subst hn
    refine X.fn Try.func9 rfl (n := 35) rfl rfl ?_
    refine CC.seq ?_
    refine CC.region ?_
    refine LL.box [strV p, Value.int IntKind.i64 many, Value.int IntKind.u64 ↑key, Value.slice a2 n2 c2, Value.bool false, Value.int IntKind.i64 why] rfl rfl rfl rfl rfl ?_
    intro Wa2 ga3 ega3 ra4 za5 ba1
    replace q := q.trans (ba1.mono q.size)
    have la6 := ra4.lt
    refine LL.box [Value.int IntKind.i64 0, Value.int IntKind.i64 ino, Value.int IntKind.i64 kd, Value.int IntKind.i64 lk, Value.int IntKind.i64 sz, Value.slice ba bn bc, strV tx, Value.slice na 0 nc, Value.int IntKind.u64 ↑k2] rfl rfl rfl rfl rfl ?_
    intro Wa8 ga9 ega9 ra10 za11 ba7
    replace ra4 := ra4.up ba7
    replace ba1 := ba1.trans (ba7.mono ba1.size)
    replace q := q.trans (ba7.mono q.size)
    have la12 := ra10.lt
    have la13 := ra4.lt
    refine LL.alloc ([Value.string { data := { toList := [] } }, Value.int IntKind.i64 0, Value.int IntKind.u64 0, Value.slice none 0 0, Value.bool false, Value.int IntKind.i64 0]) rfl rfl rfl rfl rfl ?_
    intro Wa15 ga16 ega16 ra17 za18 ba14
    replace ra10 := ra10.up ba14
    replace ba7 := ba7.trans (ba14.mono ba7.size)
    replace ra4 := ra4.up ba14
    replace ba1 := ba1.trans (ba14.mono ba1.size)
    replace q := q.trans (ba14.mono q.size)
    refine LL.val (R.assign rfl rfl) rfl rfl rfl ?_
    refine LL.nilS ?_
    refine CC.seq ?_
    refine CC.seq ?_
    refine CC.region ?_
    refine LL.val (R.field rfl rfl (I.fld rfl)) rfl rfl rfl ?_
    refine LL.val (R.load rfl rfl (I.ld1 rfl (RowL.cell ra4 rfl))) rfl rfl rfl ?_
    refine LL.nilS ?_
    refine CC.no rfl ?_
    refine CC.skip ?_
    refine EE.thenN ?_
    refine CC.seq ?_
    refine CC.seq ?_
    refine CC.region ?_
    refine LL.val (R.field rfl rfl (I.fld rfl)) rfl rfl rfl ?_
    refine LL.val (R.load rfl rfl (I.ld1 rfl (RowL.cell ra10 rfl))) rfl rfl rfl ?_
    refine LL.val (R.neF rfl rfl rfl (by omega)) rfl rfl rfl ?_
    refine LL.val (R.move rfl rfl) rfl rfl rfl ?_
    refine LL.val (R.field rfl rfl (I.fld rfl)) rfl rfl rfl ?_
    refine LL.val (R.load rfl rfl (I.ld1 rfl (RowL.cell ra10 rfl))) rfl rfl rfl ?_
    refine LL.val (R.len rfl rfl rfl rfl) rfl rfl rfl ?_
    refine LL.val (R.eqT rfl rfl rfl (by omega)) rfl rfl rfl ?_
    refine LL.val (R.pick rfl rfl rfl) rfl rfl rfl ?_
    refine LL.nilS ?_
    refine CC.yes rfl ?_
    refine CC.seq ?_
    refine CC.freeZ (fun W_ j => j < W_.heap.size ∧ (j ≠ ga3)) (by kernel_rfl) (by kernel_rfl) (fun Wa20 ba19 za21 => ?_)
    replace ra17 := ra17.up ba19
    replace ba14 := ba14.trans (ba19.mono ba14.size)
    replace ra10 := ra10.up ba19
    replace ba7 := ba7.trans (ba19.mono ba7.size)
    replace ra4 := ra4.up ba19
    replace ba1 := ba1.trans (ba19.mono ba1.size)
    replace q := q.trans (ba19.mono q.size)
    have hok : Kept (fun j => j < Wa20.heap.size ∧ (j ≠ ga3)) Wa20 Wa20 := Kept.refl _ _
    have fzra17 := fzRow (K := fun j => j < Wa20.heap.size ∧ (j ≠ ga3)) ra17 ⟨ra17.lt, (by first | trivial | omega)⟩
    have fzra10 := fzRow (K := fun j => j < Wa20.heap.size ∧ (j ≠ ga3)) ra10 ⟨ra10.lt, (by first | trivial | omega)⟩
    refine AA.pure 0 rfl hok (by kernel_rfl) (fun w' b' => R.field rfl rfl (I.fld rfl)) rfl rfl ?_
    refine AA.pure 1 rfl hok (by kernel_rfl) (fun w' b' => R.load rfl rfl (I.ld1 rfl (RowL.cell (fzra10 w' b') rfl))) rfl rfl ?_
    refine AA.pure 2 rfl hok (by kernel_rfl) (fun w' b' => R.field rfl rfl (I.fld rfl)) rfl rfl ?_
    refine AA.one 3 (by kernel_rfl) ?_
    refine ZR.store rfl rfl rfl rfl rfl ra4 (by exact Nat.le_of_ble_eq_true rfl) rfl rfl rfl rfl ?_
    intro Wa23 ra24 ba22 za25
    have hlba22 := ra4.lt
    replace ra24 : RowL Wa23 _ 33 [strV p, Value.int IntKind.i64 many, Value.int IntKind.u64 ↑key, Value.slice a2 n2 c2, Value.bool true, Value.int IntKind.i64 why] := ra24
    clear ra4
    replace ra17 := ra17.gr ba22 (by have := ra17.lt; omega)
    replace ra10 := ra10.gr ba22 (by have := ra10.lt; omega)
    replace ba1 := ba1.grown ba22 ba1.size (by rintro k ⟨⟩; omega)
    replace q := q.grown ba22 q.size (by rintro k ⟨⟩; omega)
    replace hok := hok.trans (grown_kept ba22 (fun j h => by have := h.1; have := hok.size; omega) (fun j h e => by cases e; have h2 := h.1; have h3 := h.2; omega))
    have ra4 := ra24
    clear ra24
    refine ⟨hok, ?_⟩
    refine AA.pure 4 rfl hok (by kernel_rfl) (fun w' b' => R.field rfl rfl (I.fld rfl)) rfl rfl ?_
    refine AA.one 5 (by kernel_rfl) ?_
    refine ZR.store rfl rfl rfl rfl rfl ra4 (by exact Nat.le_of_ble_eq_true rfl) rfl rfl rfl rfl ?_
    intro Wa27 ra28 ba26 za29
    have hlba26 := ra4.lt
    replace ra28 : RowL Wa27 _ 33 [strV p, Value.int IntKind.i64 many, Value.int IntKind.u64 ↑key, Value.slice a2 n2 c2, Value.bool true, Value.int IntKind.i64 0] := ra28
    clear ra4
    replace ra17 := ra17.gr ba26 (by have := ra17.lt; omega)
    replace ra10 := ra10.gr ba26 (by have := ra10.lt; omega)
    replace ba1 := ba1.grown ba26 ba1.size (by rintro k ⟨⟩; omega)
    replace q := q.grown ba26 q.size (by rintro k ⟨⟩; omega)
    replace hok := hok.trans (grown_kept ba26 (fun j h => by have := h.1; have := hok.size; omega) (fun j h e => by cases e; have h2 := h.1; have h3 := h.2; omega))
    have ra4 := ra28
    clear ra28
    refine ⟨hok, ?_⟩
    refine AA.done rfl ?_
    clear fzra17 fzra10 hok
    refine EE.thenN ?_
    refine CC.seq ?_
    refine CC.region ?_
    refine LL.val (R.load rfl rfl (I.ldNc (vs := [strV p, Value.int IntKind.i64 many, Value.int IntKind.u64 ↑key, Value.slice a2 n2 c2, Value.bool true, Value.int IntKind.i64 0]) (RowL.cells ra4 rfl) (by rfl) (by rfl))) rfl rfl rfl ?_
    refine LL.storeN (vs := [strV p, Value.int IntKind.i64 many, Value.int IntKind.u64 ↑key, Value.slice a2 n2 c2, Value.bool true, Value.int IntKind.i64 0]) rfl rfl rfl rfl ra17 (by exact Nat.le_of_ble_eq_true rfl) (ones_of rfl) rfl rfl ?_
    intro Wa31 ra32 ba30 za33
    have hlba30 := ra17.lt
    replace ra32 : RowL Wa31 _ 33 [strV p, Value.int IntKind.i64 many, Value.int IntKind.u64 ↑key, Value.slice a2 n2 c2, Value.bool true, Value.int IntKind.i64 0] := ra32
    clear ra17
    replace ra10 := ra10.gr ba30 (by have := ra10.lt; omega)
    replace ba1 := ba1.grown ba30 ba1.size (by rintro k ⟨⟩; omega)
    replace q := q.grown ba30 q.size (by rintro k ⟨⟩; omega)
    replace ra4 := ra4.gr ba30 (by have := ra4.lt; omega)
    have ra17 := ra32
    clear ra32
    refine LL.val (R.assign rfl rfl) rfl rfl rfl ?_
    refine LL.nilS ?_
    refine CC.ret ?_
    refine EE.thenR ?_
    refine EE.ret2 rfl ⟨_, rfl, lvNc (RowL.cells0 (by assumption)) (by rfl) (by rfl)⟩ rfl ?_
    exact ⟨rfl, q⟩
/-- What is behind the store. -/
def rtR (w0 g3 : Nat) (p : Bs) (many : Int) (key : Nat) (why : Int) (l : List Nm) (W : World) : Prop := ∃ bb a n c, RowL W g3 33 [strV p, .int .i64 many, .int .u64 (key : Int), .slice a n c, .bool false, .int .i64 why] ∧ NmB W bb a n c l ∧ (bb = 0 ∨ w0 ≤ bb)
theorem rtR.up {w0 g3 : Nat} {p : Bs} {many : Int} {key : Nat} {why : Int} {l : List Nm} {W W' : World} (h : rtR w0 g3 p many key why l W) (b : Below W.heap.size W W') : rtR w0 g3 p many key why l W' := by
  obtain ⟨bb, a, n, c, r, o, hb⟩ := h
  exact ⟨bb, a, n, c, r.up b, o.up b, hb⟩
theorem rtake_more (told us : List Nm) (hn0 : 0 < nn) (h0 : 0 < w.heap.size) (hn2 : told.length = n2) (hF : ∀ X, Below w.heap.size w X → ReadsT nmE 3 X (.slice a2 n2 c2) told) (hnn : us.length = nn) (hG : ∀ X, Below w.heap.size w X → ReadsT nmE 3 X (.slice na nn nc) us) (h1 : n2 ≤ 1000000) (h2 : nn ≤ 1000000) : Calls Try.prog 9 #[.agg #[strV p, .int .i64 many, .int .u64 (key : Int), .slice a2 n2 c2, .bool false, .int .i64 why], .agg #[.int .i64 0, .int .i64 ino, .int .i64 kd, .int .i64 lk, .int .i64 sz, .slice ba bn bc, strV tx, .slice na nn nc, .int .u64 (k2 : Int)]] w fun e w' => ∃ a3 c3 bb, e = .returned (.tuple #[.agg #[strV p, .int .i64 many, .int .u64 (k2 : Int), .slice a3 (n2 + nn) c3, .bool false, .int .i64 why], .int .i64 0]) ∧ NmB w' bb a3 (n2 + nn) c3 (told ++ us) ∧ (bb = 0 ∨ w.heap.size ≤ bb) ∧ Below w.heap.size w w' := by
  have q := Below.refl w.heap.size w
  have hNn : (told ++ us).length = n2 + nn := by rw [List.length_append]; omega
  refine X.fn Try.func9 rfl (n := 35) rfl rfl ?_
  refine CC.seq ?_
  refine CC.region ?_
  refine LL.box [strV p, Value.int IntKind.i64 many, Value.int IntKind.u64 ↑key, Value.slice a2 n2 c2, Value.bool false, Value.int IntKind.i64 why] rfl rfl rfl rfl rfl ?_
  intro W16 g17 eg17 r18 z19 b15
  replace q := q.trans (b15.mono q.size)
  have l35 := r18.lt
  refine LL.box [Value.int IntKind.i64 0, Value.int IntKind.i64 ino, Value.int IntKind.i64 kd, Value.int IntKind.i64 lk, Value.int IntKind.i64 sz, Value.slice ba bn bc, strV tx, Value.slice na nn nc, Value.int IntKind.u64 ↑k2] rfl rfl rfl rfl rfl ?_
  intro W37 g38 eg38 r39 z40 b36
  replace r18 := r18.up b36
  replace b15 := b15.trans (b36.mono b15.size)
  replace q := q.trans (b36.mono q.size)
  have l57 := r39.lt
  have l58 := r18.lt
  refine LL.alloc ([Value.string { data := { toList := [] } }, Value.int IntKind.i64 0, Value.int IntKind.u64 0, Value.slice none 0 0, Value.bool false, Value.int IntKind.i64 0]) rfl rfl rfl rfl rfl ?_
  intro W60 g61 eg61 r62 z63 b59
  replace r39 := r39.up b59
  replace b36 := b36.trans (b59.mono b36.size)
  replace r18 := r18.up b59
  replace b15 := b15.trans (b59.mono b15.size)
  replace q := q.trans (b59.mono q.size)
  refine LL.val (R.assign rfl rfl) rfl rfl rfl ?_
  refine LL.nilS ?_
  refine CC.seq ?_
  refine CC.seq ?_
  refine CC.region ?_
  refine LL.val (R.field rfl rfl (I.fld rfl)) rfl rfl rfl ?_
  refine LL.val (R.load rfl rfl (I.ld1 rfl (RowL.cell r18 rfl))) rfl rfl rfl ?_
  refine LL.nilS ?_
  refine CC.no rfl ?_
  refine CC.skip ?_
  refine EE.thenN ?_
  refine CC.seq ?_
  refine CC.seq ?_
  refine CC.region ?_
  refine LL.val (R.field rfl rfl (I.fld rfl)) rfl rfl rfl ?_
  refine LL.val (R.load rfl rfl (I.ld1 rfl (RowL.cell r39 rfl))) rfl rfl rfl ?_
  refine LL.val (R.neF rfl rfl rfl (by omega)) rfl rfl rfl ?_
  refine LL.val (R.move rfl rfl) rfl rfl rfl ?_
  refine LL.val (R.field rfl rfl (I.fld rfl)) rfl rfl rfl ?_
  refine LL.val (R.load rfl rfl (I.ld1 rfl (RowL.cell r39 rfl))) rfl rfl rfl ?_
  refine LL.val (R.len rfl rfl rfl rfl) rfl rfl rfl ?_
  refine LL.val (R.eqF rfl rfl rfl (by omega)) rfl rfl rfl ?_
  refine LL.val (R.pick rfl rfl rfl) rfl rfl rfl ?_
  refine LL.nilS ?_
  refine CC.no rfl ?_
  refine CC.skip ?_
  refine EE.thenN ?_
  refine CC.seq ?_
  refine CC.freeZ (fun W_ j => j < W_.heap.size ∧ (j ≠ g17)) (by kernel_rfl) (by kernel_rfl) (fun W358 b357 z359 => ?_)
  replace r62 := r62.up b357
  replace b59 := b59.trans (b357.mono b59.size)
  replace r39 := r39.up b357
  replace b36 := b36.trans (b357.mono b36.size)
  replace r18 := r18.up b357
  replace b15 := b15.trans (b357.mono b15.size)
  replace q := q.trans (b357.mono q.size)
  have hok : Kept (fun j => j < W358.heap.size ∧ (j ≠ g17)) W358 W358 := Kept.refl _ _
  have fzr62 := fzRow (K := fun j => j < W358.heap.size ∧ (j ≠ g17)) r62 ⟨r62.lt, (by first | trivial | omega)⟩
  have fzr39 := fzRow (K := fun j => j < W358.heap.size ∧ (j ≠ g17)) r39 ⟨r39.lt, (by first | trivial | omega)⟩
  refine AA.pure 1 rfl hok (by kernel_rfl) (fun w' b' => R.field rfl rfl (I.fld rfl)) rfl rfl ?_
  refine AA.pure 4 rfl hok (by kernel_rfl) (fun w' b' => R.field rfl rfl (I.fld rfl)) rfl rfl ?_
  refine AA.pure 5 rfl hok (by kernel_rfl) (fun w' b' => R.load rfl rfl (I.ld1 rfl (RowL.cell (fzr39 w' b') rfl))) rfl rfl ?_
  refine AA.two 0 2 (by kernel_rfl) ?_ ?_
  have l377 := r62.lt
  have l378 := r39.lt
  have l379 := r18.lt
  refine ZR.lit (e := 48) [] 0 rfl rfl rfl (fun _ => by kernel_rfl) rfl rfl ?_
  intro W381 g382 eg382 r383 z384 b380
  replace b357 := b357.trans (b380.mono b357.size)
  replace r62 := r62.up b380
  replace b59 := b59.trans (b380.mono b59.size)
  replace r39 := r39.up b380
  replace b36 := b36.trans (b380.mono b36.size)
  replace r18 := r18.up b380
  replace b15 := b15.trans (b380.mono b15.size)
  replace q := q.trans (b380.mono q.size)
  replace hok := hok.trans (bkept b380 (fun j h => by have := h.1; have := hok.size; omega))
  have y385 := hok.size
  refine ⟨hok, ?_⟩
  refine AA.one 2 (by kernel_rfl) ?_
  refine SR.val rfl (R.load rfl rfl (I.ld1 rfl (RowL.cell r18 rfl))) rfl rfl hok ?_
  refine AA.one 3 (by kernel_rfl) ?_
  have l408 := r383.lt
  have l409 := r62.lt
  have l410 := r39.lt
  have l411 := r18.lt
  (refine SR.append0 rfl rfl rfl nmEnc ElNm (by assumption) (hF _ q) (by simp only [maxLen]; omega) (by omega) rfl rfl ?_; intro v' W407 o1 b404; obtain ⟨a1, c1, rfl, hc1⟩ := (o1.reads nmEnc).form hn2)
  have zb404 := b404.size
  replace r383 := r383.up b404
  replace b380 := b380.trans (b404.mono b380.size)
  replace b357 := b357.trans (b404.mono b357.size)
  replace r62 := r62.up b404
  replace b59 := b59.trans (b404.mono b59.size)
  replace r39 := r39.up b404
  replace b36 := b36.trans (b404.mono b36.size)
  replace r18 := r18.up b404
  replace b15 := b15.trans (b404.mono b15.size)
  replace q := q.trans (b404.mono q.size)
  replace hok := hok.trans (bkept b404 (fun j h => by have := h.1; have := hok.size; omega))
  have y415 := hok.size
  refine ⟨hok, ?_⟩
  refine AA.one 6 (by kernel_rfl) ?_
  (refine SR.appendT2 rfl rfl rfl nmEnc ElNm o1 (us := us) (hG _ q) (by simp only [maxLen]; omega) (by omega) (by omega) rfl rfl ?_; intro v' Wz o2 gra hva; replace q := q.grown gra q.size (fun j e => by have := own_ge o1 j e; omega); replace r18 := r18.grO gra (own_ne o1 (by omega)); replace r39 := r39.grO gra (own_ne o1 (by omega)); replace r62 := r62.grO gra (own_ne o1 (by omega)); replace hok := hok.trans (grown_kept gra (fun j h => by have := h.1; have := hok.size; omega) (fun j h e => by have := own_ge o1 j e; have := h.1; omega)); have gsz := gra.size; obtain ⟨a3, c3, rfl, hc3⟩ := (o2.reads nmEnc).form hNn; clear o1 gra hva; refine ⟨hok, ?_⟩)
  refine AA.pure 7 rfl hok (by kernel_rfl) (fun w' b' => R.field rfl rfl (I.fld rfl)) rfl rfl ?_
  refine AA.one 8 (by kernel_rfl) ?_
  (refine ZR.store rfl rfl rfl rfl rfl r18 (by exact Nat.le_of_ble_eq_true rfl) rfl rfl rfl rfl ?_; intro W440 r5 gr438 zz9; obtain ⟨bb2, hp2, hb2⟩ := NmB.own (o2.grown gr438 (own_ne o2 (by omega))) (by have := gr438.size; have := q.size; omega); have hj : rtR (g61 + 1) _ p many key why (told ++ us) W440 := ⟨_, _, _, _, r5, hp2, by omega⟩; clear r5 r18 o2 hp2 hb2 bb2)
  have zgr438 := gr438.size
  replace q := q.grown gr438 q.size (by rintro k ⟨⟩; omega)
  replace r39 := r39.gr gr438 (by have := r39.lt; omega)
  replace r62 := r62.gr gr438 (by have := r62.lt; omega)
  replace hok := hok.trans (grown_kept gr438 (fun j h => by have := h.1; have := hok.size; omega) (fun j h e => by cases e; have h2 := h.1; have h3 := h.2; omega))
  refine ⟨hok, ?_⟩
  refine AA.done rfl ?_
  clear fzr62 fzr39 hok
  refine EE.thenN ?_
  refine CC.seq ?_
  refine CC.region ?_
  ((fail_if_success (have := hok)); obtain ⟨b2, a2', n2', c2', r3, hp2, hbb2⟩ := hj; have lb2 := hp2.lt; have hn2' := hp2.len; rw [hNn] at hn2'; subst hn2')
  refine LL.val (R.field rfl rfl (I.fld rfl)) rfl rfl rfl ?_
  refine LL.val (R.load rfl rfl (I.ld1 rfl (RowL.cell r39 rfl))) rfl rfl rfl ?_
  refine LL.val (R.field rfl rfl (I.fld rfl)) rfl rfl rfl ?_
  refine LL.store rfl rfl rfl rfl r3 (by exact Nat.le_of_ble_eq_true rfl) rfl rfl rfl rfl ?_
  intro W529 r530 b528 z531
  have hlb528 := r3.lt
  replace r530 : RowL W529 _ 33 [strV p, Value.int IntKind.i64 many, Value.int IntKind.u64 ↑k2, Value.slice a2' (n2 + nn) c2', Value.bool false, Value.int IntKind.i64 why] := r530
  clear r3
  replace q := q.grown b528 q.size (by rintro k ⟨⟩; omega)
  replace r39 := r39.gr b528 (by have := r39.lt; omega)
  replace r62 := r62.gr b528 (by have := r62.lt; omega)
  replace hp2 := hp2.gr b528 (by have := hp2.lt; omega)
  have r3 := r530
  clear r530
  refine LL.nilS ?_
  refine CC.seq ?_
  refine CC.region ?_
  refine LL.val (R.load rfl rfl (I.ldNc (vs := [strV p, Value.int IntKind.i64 many, Value.int IntKind.u64 ↑k2, Value.slice a2' (n2 + nn) c2', Value.bool false, Value.int IntKind.i64 why]) (RowL.cells r3 rfl) (by rfl) (by rfl))) rfl rfl rfl ?_
  refine LL.storeN (vs := [strV p, Value.int IntKind.i64 many, Value.int IntKind.u64 ↑k2, Value.slice a2' (n2 + nn) c2', Value.bool false, Value.int IntKind.i64 why]) rfl rfl rfl rfl r62 (by exact Nat.le_of_ble_eq_true rfl) (ones_of rfl) rfl rfl ?_
  intro W567 r568 b566 z569
  have hlb566 := r62.lt
  replace r568 : RowL W567 _ 33 [strV p, Value.int IntKind.i64 many, Value.int IntKind.u64 ↑k2, Value.slice a2' (n2 + nn) c2', Value.bool false, Value.int IntKind.i64 why] := r568
  clear r62
  replace q := q.grown b566 q.size (by rintro k ⟨⟩; omega)
  replace r39 := r39.gr b566 (by have := r39.lt; omega)
  replace hp2 := hp2.gr b566 (by have := hp2.lt; omega)
  replace r3 := r3.gr b566 (by have := r3.lt; omega)
  have r62 := r568
  clear r568
  refine LL.val (R.assign rfl rfl) rfl rfl rfl ?_
  refine LL.nilS ?_
  refine CC.ret ?_
  refine EE.ret2 rfl ⟨_, rfl, lvNc (RowL.cells0 (by assumption)) (by rfl) (by rfl)⟩ rfl ?_
  exact ⟨_, _, b2, rfl, hp2, by omega, q⟩
  refine SR.val rfl (R.load rfl rfl (I.ld1 rfl (RowL.cell r18 rfl))) rfl rfl hok ?_
  refine AA.one 0 (by kernel_rfl) ?_
  have l621 := r62.lt
  have l622 := r39.lt
  have l623 := r18.lt
  refine ZR.lit (e := 48) [] 0 rfl rfl rfl (fun _ => by kernel_rfl) rfl rfl ?_
  intro W625 g626 eg626 r627 z628 b624
  replace b357 := b357.trans (b624.mono b357.size)
  replace r62 := r62.up b624
  replace b59 := b59.trans (b624.mono b59.size)
  replace r39 := r39.up b624
  replace b36 := b36.trans (b624.mono b36.size)
  replace r18 := r18.up b624
  replace b15 := b15.trans (b624.mono b15.size)
  replace q := q.trans (b624.mono q.size)
  replace hok := hok.trans (bkept b624 (fun j h => by have := h.1; have := hok.size; omega))
  have y629 := hok.size
  refine ⟨hok, ?_⟩
  refine AA.one 3 (by kernel_rfl) ?_
  have l634 := r627.lt
  have l635 := r62.lt
  have l636 := r39.lt
  have l637 := r18.lt
  (refine SR.append0 rfl rfl rfl nmEnc ElNm (by assumption) (hF _ q) (by simp only [maxLen]; omega) (by omega) rfl rfl ?_; intro v' W633 o1 b630; obtain ⟨a1, c1, rfl, hc1⟩ := (o1.reads nmEnc).form hn2)
  have zb630 := b630.size
  replace r627 := r627.up b630
  replace b624 := b624.trans (b630.mono b624.size)
  replace b357 := b357.trans (b630.mono b357.size)
  replace r62 := r62.up b630
  replace b59 := b59.trans (b630.mono b59.size)
  replace r39 := r39.up b630
  replace b36 := b36.trans (b630.mono b36.size)
  replace r18 := r18.up b630
  replace b15 := b15.trans (b630.mono b15.size)
  replace q := q.trans (b630.mono q.size)
  replace hok := hok.trans (bkept b630 (fun j h => by have := h.1; have := hok.size; omega))
  have y641 := hok.size
  refine ⟨hok, ?_⟩
  refine AA.one 6 (by kernel_rfl) ?_
  (refine SR.appendT2 rfl rfl rfl nmEnc ElNm o1 (us := us) (hG _ q) (by simp only [maxLen]; omega) (by omega) (by omega) rfl rfl ?_; intro v' Wz o2 gra hva; replace q := q.grown gra q.size (fun j e => by have := own_ge o1 j e; omega); replace r18 := r18.grO gra (own_ne o1 (by omega)); replace r39 := r39.grO gra (own_ne o1 (by omega)); replace r62 := r62.grO gra (own_ne o1 (by omega)); replace hok := hok.trans (grown_kept gra (fun j h => by have := h.1; have := hok.size; omega) (fun j h e => by have := own_ge o1 j e; have := h.1; omega)); have gsz := gra.size; obtain ⟨a3, c3, rfl, hc3⟩ := (o2.reads nmEnc).form hNn; clear o1 gra hva; refine ⟨hok, ?_⟩)
  refine AA.pure 7 rfl hok (by kernel_rfl) (fun w' b' => R.field rfl rfl (I.fld rfl)) rfl rfl ?_
  refine AA.one 8 (by kernel_rfl) ?_
  (refine ZR.store rfl rfl rfl rfl rfl r18 (by exact Nat.le_of_ble_eq_true rfl) rfl rfl rfl rfl ?_; intro W666 r5 gr664 zz9; obtain ⟨bb2, hp2, hb2⟩ := NmB.own (o2.grown gr664 (own_ne o2 (by omega))) (by have := gr664.size; have := q.size; omega); have hj : rtR (g61 + 1) _ p many key why (told ++ us) W666 := ⟨_, _, _, _, r5, hp2, by omega⟩; clear r5 r18 o2 hp2 hb2 bb2)
  have zgr664 := gr664.size
  replace q := q.grown gr664 q.size (by rintro k ⟨⟩; omega)
  replace r39 := r39.gr gr664 (by have := r39.lt; omega)
  replace r62 := r62.gr gr664 (by have := r62.lt; omega)
  replace hok := hok.trans (grown_kept gr664 (fun j h => by have := h.1; have := hok.size; omega) (fun j h e => by cases e; have h2 := h.1; have h3 := h.2; omega))
  refine ⟨hok, ?_⟩
  refine AA.done rfl ?_
  clear fzr62 fzr39 hok
  refine EE.thenN ?_
  refine CC.seq ?_
  refine CC.region ?_
  ((fail_if_success (have := hok)); obtain ⟨b2, a2', n2', c2', r3, hp2, hbb2⟩ := hj; have lb2 := hp2.lt; have hn2' := hp2.len; rw [hNn] at hn2'; subst hn2')
  refine LL.val (R.field rfl rfl (I.fld rfl)) rfl rfl rfl ?_
  refine LL.val (R.load rfl rfl (I.ld1 rfl (RowL.cell r39 rfl))) rfl rfl rfl ?_
  refine LL.val (R.field rfl rfl (I.fld rfl)) rfl rfl rfl ?_
  refine LL.store rfl rfl rfl rfl r3 (by exact Nat.le_of_ble_eq_true rfl) rfl rfl rfl rfl ?_
  intro W755 r756 b754 z757
  have hlb754 := r3.lt
  replace r756 : RowL W755 _ 33 [strV p, Value.int IntKind.i64 many, Value.int IntKind.u64 ↑k2, Value.slice a2' (n2 + nn) c2', Value.bool false, Value.int IntKind.i64 why] := r756
  clear r3
  replace q := q.grown b754 q.size (by rintro k ⟨⟩; omega)
  replace r39 := r39.gr b754 (by have := r39.lt; omega)
  replace r62 := r62.gr b754 (by have := r62.lt; omega)
  replace hp2 := hp2.gr b754 (by have := hp2.lt; omega)
  have r3 := r756
  clear r756
  refine LL.nilS ?_
  refine CC.seq ?_
  refine CC.region ?_
  refine LL.val (R.load rfl rfl (I.ldNc (vs := [strV p, Value.int IntKind.i64 many, Value.int IntKind.u64 ↑k2, Value.slice a2' (n2 + nn) c2', Value.bool false, Value.int IntKind.i64 why]) (RowL.cells r3 rfl) (by rfl) (by rfl))) rfl rfl rfl ?_
  refine LL.storeN (vs := [strV p, Value.int IntKind.i64 many, Value.int IntKind.u64 ↑k2, Value.slice a2' (n2 + nn) c2', Value.bool false, Value.int IntKind.i64 why]) rfl rfl rfl rfl r62 (by exact Nat.le_of_ble_eq_true rfl) (ones_of rfl) rfl rfl ?_
  intro W793 r794 b792 z795
  have hlb792 := r62.lt
  replace r794 : RowL W793 _ 33 [strV p, Value.int IntKind.i64 many, Value.int IntKind.u64 ↑k2, Value.slice a2' (n2 + nn) c2', Value.bool false, Value.int IntKind.i64 why] := r794
  clear r62
  replace q := q.grown b792 q.size (by rintro k ⟨⟩; omega)
  replace r39 := r39.gr b792 (by have := r39.lt; omega)
  replace hp2 := hp2.gr b792 (by have := hp2.lt; omega)
  replace r3 := r3.gr b792 (by have := r3.lt; omega)
  have r62 := r794
  clear r794
  refine LL.val (R.assign rfl rfl) rfl rfl rfl ?_
  refine LL.nilS ?_
  refine CC.ret ?_
  refine EE.ret2 rfl ⟨_, rfl, lvNc (RowL.cells0 (by assumption)) (by rfl) (by rfl)⟩ rfl ?_
  exact ⟨_, _, b2, rfl, hp2, by omega, q⟩

end
end Go.Proofs.Ytplindpeiedcbaa
/- stream: a stream with its names (written by genst8.py). -/
namespace Go.Proofs.Ytplindpeiedcbaa
set_option linter.unusedVariables false
set_option linter.unusedSimpArgs false
open Go.RowKit Go.Shelf
set_option maxRecDepth 100000
set_option maxHeartbeats 8000000
/-- A stream in a block, and the block of its names. -/
def Sm (W : World) (g bo : Nat) (p : Bs) (many : Int) (key : Nat) (ts : List Nm) (over : Bool) (why : Int) : Prop := ∃ a n c, RowL W g 63 (stL p many key (.slice a n c) over why true) ∧ OwnsT nmE 3 W 0 48 (.slice a n c) ts ∧ (∀ b, (Value.slice a n c).ownBlock = some b → b = bo ∧ b ≠ g) ∧ bo < W.heap.size
section
variable {w w' : World} {g bo r : Nat} {p : Bs} {many : Int} {key : Nat} {ts : List Nm} {over : Bool} {why : Int}
theorem Sm.up (S : Sm w g bo p many key ts over why) (b : Below w.heap.size w w') : Sm w' g bo p many key ts over why := by
  obtain ⟨a, n, c, r, o, h, hl⟩ := S
  exact ⟨a, n, c, r.up b, o.up b, h, Nat.lt_of_lt_of_le hl b.size⟩
theorem Sm.lt (S : Sm w g bo p many key ts over why) : g < w.heap.size := by
  obtain ⟨a, n, c, r, o, h, hl⟩ := S
  exact r.lt
theorem Sm.ltb (S : Sm w g bo p many key ts over why) : bo < w.heap.size := by
  obtain ⟨a, n, c, r, o, h, hl⟩ := S
  exact hl
theorem Sm.keptK {K : Nat → Prop} (S : Sm w g bo p many key ts over why) (hk : Kept K w w') (h1 : K g) (h2 : K bo) : Sm w' g bo p many key ts over why := by
  obtain ⟨a, n, c, r, o, h, hl⟩ := S
  exact ⟨a, n, c, r.kept hk h1, own_kept o hk (fun b hb => (h b hb).1 ▸ h2), h, Nat.lt_of_lt_of_le hl hk.size⟩
theorem NmB.kept {K : Nat → Prop} {bb n c : Nat} {a : Option Addr} {l : List Nm} (h : NmB w bb a n c l) (hk : Kept K w w') (hK : K bb) : NmB w' bb a n c l := ⟨reads_kept h.r hk fun x n c e h0 _ => by
  cases e
  rw [h.at' x rfl h0]
  exact hK, h.at', Nat.lt_of_lt_of_le h.lt hk.size⟩
theorem Sm.gr (S : Sm w g bo p many key ts over why) (b : w.grownBy w' (some r)) (e : r ≠ g ∧ r ≠ bo) : Sm w' g bo p many key ts over why := by
  obtain ⟨a, n, c, r, o, h, hl⟩ := S
  exact ⟨a, n, c, r.grO b (fun e' => by first | exact e.1 (Option.some.inj e').symm | exact e.1 (Option.some.inj e') | (cases e'; exact e.1 rfl)), o.grown b (fun e' => e.2 (h _ e').1), h, Nat.lt_of_lt_of_le hl b.size⟩
theorem Sm.over_any (S : Sm w g bo p many key ts over why) : Calls Try.prog 15 #[.pointer (some ⟨g, 0, none⟩)] w fun e w' => e = .returned (.tuple #[.bool over, .int .i64 why]) ∧ Below w.heap.size w w' := by
  obtain ⟨a, n, c, r, o, h, hl⟩ := S
  exact sover_any g r
theorem Sm.cursor_any (S : Sm w g bo p many key ts over why) : Calls Try.prog 17 #[.pointer (some ⟨g, 0, none⟩)] w fun e w' => e = .returned (.int .u64 (key : Int)) ∧ Below w.heap.size w w' := by
  obtain ⟨a, n, c, r, o, h, hl⟩ := S
  exact scursor_any g r
theorem Sm.call_F (S : Sm w g bo p many key ts false why) : Calls Try.prog 14 #[.pointer (some ⟨g, 0, none⟩)] w fun e w' => e = .returned (.tuple #[caV 14 p many key, .bool true]) ∧ Below w.heap.size w w' := by
  obtain ⟨a, n, c, r, o, h, hl⟩ := S
  exact scall_F g r
theorem Sm.told_any (S : Sm w g bo p many key ts over why) (h1 : ts.length ≤ 1000000) : Calls Try.prog 16 #[.pointer (some ⟨g, 0, none⟩)] w fun e w' => ∃ a' n' c', e = .returned (.tuple #[.slice a' n' c', .bool true]) ∧ ReadsT nmE 3 w' (.slice a' n' c') ts ∧ Below w.heap.size w w' := by
  obtain ⟨a, n, c, r, o, h, hl⟩ := S
  exact ltold_any g a n c ts r (o.reads nmEnc) h1
theorem Sm.same_any (S : Sm w g bo p many key ts over why) (a2 : Option Addr) (n2 c2 : Nat) (o2 : ReadsT nmE 3 w (.slice a2 n2 c2) ts) (h1 : ts.length ≤ 1000000) : Calls Try.prog 8 #[.pointer (some ⟨g, 0, none⟩), .agg #[strV p, .int .i64 many, .int .u64 (key : Int), .slice a2 n2 c2, .bool over, .int .i64 why]] w fun e w' => e = .returned (.bool true) ∧ Below w.heap.size w w' := by
  obtain ⟨a, n, c, r, o, h, hl⟩ := S
  exact same28_any p many key over why a2 n2 c2 w g a n c ts r (o.reads nmEnc) o2 h1
theorem Sm.seek_any (S : Sm w g bo p many key ts over why) (k2 : Nat) : Calls Try.prog 12 #[.pointer (some ⟨g, 0, none⟩), .int .u64 (k2 : Int)] w fun e w' => e = .returned (.int .i64 0) ∧ Sm w' g bo p many k2 ts false 0 ∧ Kept (fun j => j < w.heap.size ∧ j ≠ g) w w' := by
  obtain ⟨a, n, c, r, o, h, hl⟩ := S
  refine (sseek_any g k2 r).mono fun e w' ⟨e1, r', t⟩ => ⟨e1, ⟨a, n, c, r', own_kept o t (fun b hb => ?_), h, Nat.lt_of_lt_of_le hl t.size⟩, t⟩
  rcases o.above with h0 | ⟨b', h0, h1, h2⟩
  · rw [h0] at hb; cases hb
  · rw [h0] at hb; cases hb; exact ⟨h2, (h _ h0).2⟩
theorem Sm.copy_any (S : Sm w g bo p many key ts over why) (h1 : ts.length ≤ 1000000) : Calls Try.prog 13 #[.pointer (some ⟨g, 0, none⟩)] w fun e w' => ∃ g2 b2, e = .returned (.pointer (some ⟨g2, 0, none⟩)) ∧ Sm w' g2 b2 p many key ts over why ∧ w.heap.size ≤ g2 ∧ w.heap.size ≤ b2 ∧ Below w.heap.size w w' := by
  obtain ⟨a, n, c, r, o, h, hl⟩ := S
  refine (Go.Proofs.Ytplindpeiedcbaa.copy_any g a n c ts r (o.reads nmEnc) h1).mono fun e w' ⟨g2, a', n', c', e1, r', o', hg, t⟩ => ?_
  rcases o'.above with h0 | ⟨b', h0, h1, h2⟩
  · exact ⟨g2, g2, e1, ⟨a', n', c', r', OwnsT.lower o' (Nat.zero_le _), fun b hb => (by rw [h0] at hb; cases hb), r'.lt⟩, hg, hg, t⟩
  · exact ⟨g2, b', e1, ⟨a', n', c', r', OwnsT.lower o' (Nat.zero_le _), fun b hb => (by rw [h0] at hb; cases hb; exact ⟨rfl, by omega⟩), h2⟩, hg, by omega, t⟩
theorem Sm.of_row (r : RowL w g 63 (stL p many key (.slice none 0 0) over why true)) : Sm w g g p many key [] over why := ⟨_, _, _, r, OwnsT.none _ _ _, fun b hb => (by cases hb), r.lt⟩
end
section
variable {w : World} {g bo : Nat} {p : Bs} {many : Int} {key : Nat} {ts : List Nm} {why : Int} (er : Int) {ino kd lk sz : Int} {ba : Option Addr} {bn bc : Nat} {tx : Bs} {na : Option Addr} {nn nc : Nat} {k2 : Nat}
theorem Sm.take_over (S : Sm w g bo p many key ts true why) : Calls Try.prog 10 #[.pointer (some ⟨g, 0, none⟩), .agg #[.int .i64 er, .int .i64 ino, .int .i64 kd, .int .i64 lk, .int .i64 sz, .slice ba bn bc, strV tx, .slice na nn nc, .int .u64 (k2 : Int)]] w fun e w' => e = .returned (.int .i64 5) ∧ Below w.heap.size w w' := by
  obtain ⟨a, n, c, r, o, h, hl⟩ := S
  exact Go.Proofs.Ytplindpeiedcbaa.take_over g a n c r
theorem Sm.take_end (S : Sm w g bo p many key ts false 0) (he : er ≠ 0 ∨ nn = 0) : Calls Try.prog 10 #[.pointer (some ⟨g, 0, none⟩), .agg #[.int .i64 er, .int .i64 ino, .int .i64 kd, .int .i64 lk, .int .i64 sz, .slice ba bn bc, strV tx, .slice na nn nc, .int .u64 (k2 : Int)]] w fun e w' => e = .returned (.int .i64 0) ∧ Sm w' g bo p many key ts true er ∧ Kept (fun j => j < w.heap.size ∧ j ≠ g) w w' := by
  obtain ⟨a, n, c, r, o, h, hl⟩ := S
  have hK : ∀ b, (Value.slice a n c).ownBlock = some b → b < w.heap.size ∧ b ≠ g := fun b hb => by
    rcases o.above with h0 | ⟨b', h0, h1, h2⟩
    · rw [h0] at hb; cases hb
    · rw [h0] at hb; cases hb; exact ⟨h2, (h _ h0).2⟩
  by_cases h0 : er = 0
  · subst h0
    obtain rfl : nn = 0 := he.resolve_left (fun h => h rfl)
    exact (Go.Proofs.Ytplindpeiedcbaa.take_end g a n c r).mono fun e w' ⟨e1, r', t⟩ => ⟨e1, ⟨a, n, c, r', own_kept o t hK, h, Nat.lt_of_lt_of_le hl t.size⟩, t⟩
  · exact (Go.Proofs.Ytplindpeiedcbaa.take_err g h0 a n c r).mono fun e w' ⟨e1, r', t⟩ => ⟨e1, ⟨a, n, c, r', own_kept o t hK, h, Nat.lt_of_lt_of_le hl t.size⟩, t⟩
theorem Sm.take_more (S : Sm w g bo p many key ts false why) (hn0 : 0 < nn) (us : List Nm) (hv : ReadsT nmE 3 w (.slice na nn nc) us) (hvn : ∀ x, na = some x → x.block ≠ g) (h1 : ts.length ≤ 1000000) (h2 : us.length ≤ 1000000) : Calls Try.prog 10 #[.pointer (some ⟨g, 0, none⟩), .agg #[.int .i64 0, .int .i64 ino, .int .i64 kd, .int .i64 lk, .int .i64 sz, .slice ba bn bc, strV tx, .slice na nn nc, .int .u64 (k2 : Int)]] w fun e w' => e = .returned (.int .i64 0) ∧ ∃ b2, Sm w' g b2 p many k2 (ts ++ us) false why ∧ (b2 = bo ∨ w.heap.size ≤ b2) ∧ Kept (fun j => j < w.heap.size ∧ j ≠ g ∧ j ≠ bo) w w' := by
  obtain ⟨a, n, c, r, o, h, hl⟩ := S
  have hg := r.lt
  refine (Go.Proofs.Ytplindpeiedcbaa.take_more g hn0 a n c ts us r o (fun b hb => (h b hb).2) hv hvn h1 h2).mono fun e w' ⟨e1, a', n', c', r', o', hva, t⟩ => ⟨e1, ?_⟩
  have t2 : Kept (fun j => j < w.heap.size ∧ j ≠ g ∧ j ≠ bo) w w' := t.less fun j hj => ⟨hj.1, hj.2.1, fun e => hj.2.2 (h j e).1⟩
  rcases hva with hva | ⟨b, hb, hlt⟩
  · exact ⟨bo, ⟨a', n', c', r', o', fun b hb => h b (by rw [← hva]; exact hb), Nat.lt_of_lt_of_le hl t.size⟩, .inl rfl, t2⟩
  · exact ⟨b, ⟨a', n', c', r', o', fun b' hb' => (by rw [hb] at hb'; cases hb'; exact ⟨rfl, by omega⟩), by
    rcases o'.above with h0 | ⟨b', h0, h1, h2⟩
    · rw [h0] at hb; cases hb
    · rw [h0] at hb; cases hb; exact h2⟩, .inr hlt, t2⟩
end
end Go.Proofs.Ytplindpeiedcbaa
/- stream: the statements' rows: works (written by genst9.py). -/
namespace Go.Proofs.Ytplindpeiedcbaa
set_option linter.unusedVariables false
set_option linter.unusedSimpArgs false
open Go.RowKit Go.Shelf
set_option maxRecDepth 100000
set_option maxHeartbeats 8000000
theorem works28_any (w : World) : Calls Try.prog 4 #[] w fun e w' => e = .returned (.bool true) ∧ Below w.heap.size w w' := by
  have q := Below.refl w.heap.size w
  refine X.fn Try.func4 rfl (n := 117) rfl rfl ?_
  refine CC.seq ?_
  refine CC.region ?_
  refine LL.val (R.assign rfl rfl) rfl rfl rfl ?_
  refine LL.nilS ?_
  refine CC.seq ?_
  refine CC.region ?_
  (refine LL.call (R.call rfl rfl rfl) rfl rfl rfl (snew_yes [47] 2 ⟨by decide, by decide⟩) ?_; rintro e W88 ⟨g, rfl, rg, hg0, b85⟩; refine ⟨_, rfl, ?_⟩; have hgl := rg.lt; have hS := Sm.of_row rg; clear rg)
  have zb85 := b85.size
  replace q := q.trans (b85.mono q.size)
  refine LL.val (R.move rfl rfl) rfl rfl rfl ?_
  refine LL.val (R.extract rfl rfl rfl) rfl rfl rfl ?_
  refine LL.val (R.extract rfl rfl rfl) rfl rfl rfl ?_
  refine LL.val (R.assign rfl rfl) rfl rfl rfl ?_
  refine LL.val (R.assign rfl rfl) rfl rfl rfl ?_
  refine LL.nilS ?_
  refine CC.seq ?_
  refine CC.region ?_
  refine LL.val (R.move rfl rfl) rfl rfl rfl ?_
  (refine LL.call (R.call rfl rfl rfl) rfl rfl rfl (Sm.call_F hS) ?_; rintro e W606 ⟨rfl, b603⟩; refine ⟨_, rfl, ?_⟩)
  have zb603 := b603.size
  replace b85 := b85.trans (b603.mono b85.size)
  replace hS := hS.up b603
  replace q := q.trans (b603.mono q.size)
  refine LL.val (R.move rfl rfl) rfl rfl rfl ?_
  refine LL.val (R.extract rfl rfl rfl) rfl rfl rfl ?_
  refine LL.val (R.extract rfl rfl rfl) rfl rfl rfl ?_
  refine LL.alloc ([Value.int IntKind.i64 0, Value.string { data := { toList := [] } }, Value.string { data := { toList := [] } }, Value.int IntKind.i64 0, Value.int IntKind.i64 0, Value.int IntKind.u64 0, Value.slice none 0 0]) rfl rfl rfl rfl rfl ?_
  intro W947 g948 eg948 r949 z950 b946
  replace b603 := b603.trans (b946.mono b603.size)
  replace b85 := b85.trans (b946.mono b85.size)
  replace hS := hS.up b946
  replace q := q.trans (b946.mono q.size)
  refine LL.storeN (vs := [Value.int IntKind.i64 14, strV [47], strV [], Value.int IntKind.i64 0, Value.int IntKind.i64 2, Value.int IntKind.u64 ↑0, Value.slice none 0 0]) rfl rfl rfl rfl r949 (by exact Nat.le_of_ble_eq_true rfl) (ones_of rfl) rfl rfl ?_
  intro W1045 r1046 b1044 z1047
  have hlb1044 := r949.lt
  replace r1046 : RowL W1045 _ 52 [Value.int IntKind.i64 14, strV [47], strV [], Value.int IntKind.i64 0, Value.int IntKind.i64 2, Value.int IntKind.u64 ↑0, Value.slice none 0 0] := r1046
  clear r949
  replace b946 := b946.grown b1044 b946.size (by rintro k ⟨⟩; omega)
  replace b603 := b603.grown b1044 b603.size (by rintro k ⟨⟩; omega)
  replace b85 := b85.grown b1044 b85.size (by rintro k ⟨⟩; omega)
  replace hS := hS.gr b1044 (by have := hS.lt; omega)
  replace q := q.grown b1044 q.size (by rintro k ⟨⟩; omega)
  have r949 := r1046
  clear r1046
  refine LL.val (R.assign rfl rfl) rfl rfl rfl ?_
  refine LL.nilS ?_
  refine CC.seq ?_
  refine CC.region ?_
  refine LL.val (R.move rfl rfl) rfl rfl rfl ?_
  refine LL.val (R.buildV rfl rfl (v := .agg #[Value.int IntKind.u64 1, Value.string { data := #[97] }, Value.int IntKind.i64 2]) (fun _ => by kernel_rfl)) rfl rfl rfl ?_
  refine LL.val (R.buildV rfl rfl (v := .agg #[Value.int IntKind.u64 3, Value.string { data := #[98] }, Value.int IntKind.i64 3]) (fun _ => by kernel_rfl)) rfl rfl rfl ?_
  have l1513 := r949.lt
  refine LL.lit (e := 48) [Value.int IntKind.u64 1, Value.string { data := #[97] }, Value.int IntKind.i64 2, Value.int IntKind.u64 3, Value.string { data := #[98] }, Value.int IntKind.i64 3] 2 rfl rfl (fun _ => by kernel_rfl) rfl rfl ?_
  intro W1515 g1516 eg1516 r1517 z1518 b1514
  replace b946 := b946.trans (b1514.mono b946.size)
  replace b603 := b603.trans (b1514.mono b603.size)
  replace b85 := b85.trans (b1514.mono b85.size)
  replace hS := hS.up b1514
  replace q := q.trans (b1514.mono q.size)
  replace r949 := r949.up b1514
  refine LL.val (R.buildV rfl rfl (v := .agg #[Value.int IntKind.i64 0, Value.int IntKind.i64 0, Value.int IntKind.i64 0, Value.int IntKind.i64 0, Value.int IntKind.i64 0, Value.slice none 0 0, Value.string { data := #[] }, Value.slice (some { block := g1516, off := 0 }) 2 2, Value.int IntKind.u64 4]) (fun _ => by kernel_rfl)) rfl rfl rfl ?_
  (refine LL.call (R.call rfl rfl rfl) rfl rfl rfl (Sm.take_more hS (by decide) [(1, [97], 2), (3, [98], 3)] (RowL.readsT nmEnc (ts := [(1, [97], 2), (3, [98], 3)]) (by assumption) 2 (Nat.le_refl _)) (fun x e => by cases e; dsimp only; omega) (by decide) (by decide)) ?_; rintro e W1642 ⟨rfl, b1, hN, hb1, t1641⟩; clear hS; have hS := hN; clear hN; refine ⟨_, rfl, ?_⟩)
  have zt1641 := t1641.size
  replace r1517 := r1517.kept t1641 ⟨r1517.lt, by omega⟩
  replace b85 := t1641.onB b85 (fun j hj => ⟨by have := b85.size; omega, by omega⟩)
  replace q := t1641.onB q (fun j hj => ⟨by have := q.size; omega, by omega⟩)
  replace r949 := r949.kept t1641 ⟨r949.lt, by omega⟩
  refine LL.val (R.assign rfl rfl) rfl rfl rfl ?_
  refine LL.nilS ?_
  refine CC.seq ?_
  refine CC.region ?_
  refine LL.val (R.move rfl rfl) rfl rfl rfl ?_
  refine LL.val (R.buildV rfl rfl (v := .agg #[Value.int IntKind.u64 9, Value.string { data := #[99] }, Value.int IntKind.i64 4]) (fun _ => by kernel_rfl)) rfl rfl rfl ?_
  have l2054 := r1517.lt
  have l2055 := r949.lt
  refine LL.lit (e := 48) [Value.int IntKind.u64 9, Value.string { data := #[99] }, Value.int IntKind.i64 4] 1 rfl rfl (fun _ => by kernel_rfl) rfl rfl ?_
  intro W2057 g2058 eg2058 r2059 z2060 b2056
  replace hS := hS.up b2056
  replace r1517 := r1517.up b2056
  replace b85 := b85.trans (b2056.mono b85.size)
  replace q := q.trans (b2056.mono q.size)
  replace r949 := r949.up b2056
  refine LL.val (R.buildV rfl rfl (v := .agg #[Value.int IntKind.i64 0, Value.int IntKind.i64 0, Value.int IntKind.i64 0, Value.int IntKind.i64 0, Value.int IntKind.i64 0, Value.slice none 0 0, Value.string { data := #[] }, Value.slice (some { block := g2058, off := 0 }) 1 1, Value.int IntKind.u64 10]) (fun _ => by kernel_rfl)) rfl rfl rfl ?_
  (refine LL.call (R.call rfl rfl rfl) rfl rfl rfl (Sm.take_more hS (by decide) [(9, [99], 4)] (RowL.readsT nmEnc (ts := [(9, [99], 4)]) (by assumption) 1 (Nat.le_refl _)) (fun x e => by cases e; dsimp only; omega) (by decide) (by decide)) ?_; rintro e W2202 ⟨rfl, b2, hN, hb2, t2201⟩; clear hS; have hS := hN; clear hN; refine ⟨_, rfl, ?_⟩)
  have zt2201 := t2201.size
  replace r1517 := r1517.kept t2201 ⟨r1517.lt, by omega⟩
  replace b85 := t2201.onB b85 (fun j hj => ⟨by have := b85.size; omega, by omega⟩)
  replace q := t2201.onB q (fun j hj => ⟨by have := q.size; omega, by omega⟩)
  replace r949 := r949.kept t2201 ⟨r949.lt, by omega⟩
  refine LL.val (R.assign rfl rfl) rfl rfl rfl ?_
  refine LL.nilS ?_
  refine CC.seq ?_
  refine CC.region ?_
  refine LL.val (R.move rfl rfl) rfl rfl rfl ?_
  refine LL.val (R.buildV rfl rfl (v := .agg #[Value.int IntKind.i64 0, Value.int IntKind.i64 0, Value.int IntKind.i64 0, Value.int IntKind.i64 0, Value.int IntKind.i64 0, Value.slice none 0 0, Value.string { data := #[] }, Value.slice none 0 0, Value.int IntKind.u64 10]) (fun _ => by kernel_rfl)) rfl rfl rfl ?_
  (refine LL.call (R.call rfl rfl rfl) rfl rfl rfl (Sm.take_end 0 hS (.inr rfl)) ?_; rintro e W2547 ⟨rfl, hN, t2546⟩; clear hS; have hS := hN; clear hN; refine ⟨_, rfl, ?_⟩)
  have zt2546 := t2546.size
  replace r1517 := r1517.kept t2546 ⟨r1517.lt, by omega⟩
  replace b85 := t2546.onB b85 (fun j hj => ⟨by have := b85.size; omega, by omega⟩)
  replace q := t2546.onB q (fun j hj => ⟨by have := q.size; omega, by omega⟩)
  replace r949 := r949.kept t2546 ⟨r949.lt, by omega⟩
  refine LL.val (R.assign rfl rfl) rfl rfl rfl ?_
  refine LL.nilS ?_
  refine CC.seq ?_
  refine CC.region ?_
  refine LL.val (R.move rfl rfl) rfl rfl rfl ?_
  have l2798 := r1517.lt
  have l2799 := r949.lt
  (refine LL.call (R.call rfl rfl rfl) rfl rfl rfl (Sm.over_any hS) ?_; rintro e W2797 ⟨rfl, b2794⟩; refine ⟨_, rfl, ?_⟩)
  have zb2794 := b2794.size
  replace hS := hS.up b2794
  replace r1517 := r1517.up b2794
  replace b85 := b85.trans (b2794.mono b85.size)
  replace q := q.trans (b2794.mono q.size)
  replace r949 := r949.up b2794
  refine LL.val (R.move rfl rfl) rfl rfl rfl ?_
  refine LL.val (R.extract rfl rfl rfl) rfl rfl rfl ?_
  refine LL.val (R.extract rfl rfl rfl) rfl rfl rfl ?_
  refine LL.val (R.assign rfl rfl) rfl rfl rfl ?_
  refine LL.val (R.assign rfl rfl) rfl rfl rfl ?_
  refine LL.nilS ?_
  refine CC.seq ?_
  refine CC.region ?_
  refine LL.val (R.move rfl rfl) rfl rfl rfl ?_
  have l3467 := r1517.lt
  have l3468 := r949.lt
  (refine LL.call (R.call rfl rfl rfl) rfl rfl rfl (Sm.told_any hS (by decide)) ?_; rintro e W3466 ⟨a9, n9, c9, rfl, ot, b3463⟩; refine ⟨_, rfl, ?_⟩; obtain ⟨_, _, e9, _⟩ := ot.form (n := 3) rfl; cases e9; clear ot)
  have zb3463 := b3463.size
  replace b2794 := b2794.trans (b3463.mono b2794.size)
  replace hS := hS.up b3463
  replace r1517 := r1517.up b3463
  replace b85 := b85.trans (b3463.mono b85.size)
  replace q := q.trans (b3463.mono q.size)
  replace r949 := r949.up b3463
  refine LL.val (R.move rfl rfl) rfl rfl rfl ?_
  refine LL.val (R.extract rfl rfl rfl) rfl rfl rfl ?_
  refine LL.val (R.extract rfl rfl rfl) rfl rfl rfl ?_
  refine LL.val (R.assign rfl rfl) rfl rfl rfl ?_
  refine LL.val (R.assign rfl rfl) rfl rfl rfl ?_
  refine LL.nilS ?_
  refine CC.seq ?_
  refine CC.region ?_
  have l4043 := r1517.lt
  have l4044 := r949.lt
  (refine LL.call (R.call rfl rfl rfl) rfl rfl rfl (snew_no [47] 0 (by decide)) ?_; rintro e W4042 ⟨rfl, b4039⟩; refine ⟨_, rfl, ?_⟩)
  have zb4039 := b4039.size
  replace b3463 := b3463.trans (b4039.mono b3463.size)
  replace b2794 := b2794.trans (b4039.mono b2794.size)
  replace hS := hS.up b4039
  replace r1517 := r1517.up b4039
  replace b85 := b85.trans (b4039.mono b85.size)
  replace q := q.trans (b4039.mono q.size)
  replace r949 := r949.up b4039
  refine LL.val (R.move rfl rfl) rfl rfl rfl ?_
  refine LL.val (R.extract rfl rfl rfl) rfl rfl rfl ?_
  refine LL.val (R.extract rfl rfl rfl) rfl rfl rfl ?_
  refine LL.val (R.assign rfl rfl) rfl rfl rfl ?_
  refine LL.val (R.assign rfl rfl) rfl rfl rfl ?_
  refine LL.nilS ?_
  refine CC.seq ?_
  refine CC.region ?_
  refine LL.val (R.move rfl rfl) rfl rfl rfl ?_
  refine LL.call (R.call rfl rfl rfl) rfl rfl rfl (num28_any _ _) ?_
  rintro e W' ⟨rfl, rfl⟩
  refine ⟨_, rfl, ?_⟩
  refine LL.val (R.move rfl rfl) rfl rfl rfl ?_
  refine LL.call (R.call rfl rfl rfl) rfl rfl rfl (num28_any _ _) ?_
  rintro e W' ⟨rfl, rfl⟩
  refine ⟨_, rfl, ?_⟩
  refine LL.val (R.addIz (z := 0) rfl rfl rfl (by decide) (by decide)) rfl rfl rfl ?_
  refine LL.val (R.move rfl rfl) rfl rfl rfl ?_
  refine LL.call (R.call rfl rfl rfl) rfl rfl rfl (num28_any _ _) ?_
  rintro e W' ⟨rfl, rfl⟩
  refine ⟨_, rfl, ?_⟩
  refine LL.val (R.addIz (z := 0) rfl rfl rfl (by decide) (by decide)) rfl rfl rfl ?_
  refine LL.val (R.move rfl rfl) rfl rfl rfl ?_
  refine LL.call (R.call rfl rfl rfl) rfl rfl rfl (num28_any _ _) ?_
  rintro e W' ⟨rfl, rfl⟩
  refine ⟨_, rfl, ?_⟩
  refine LL.val (R.addIz (z := 0) rfl rfl rfl (by decide) (by decide)) rfl rfl rfl ?_
  refine LL.val (R.move rfl rfl) rfl rfl rfl ?_
  refine LL.call (R.call rfl rfl rfl) rfl rfl rfl (num28_any _ _) ?_
  rintro e W' ⟨rfl, rfl⟩
  refine ⟨_, rfl, ?_⟩
  refine LL.val (R.addIz (z := 0) rfl rfl rfl (by decide) (by decide)) rfl rfl rfl ?_
  refine LL.val (R.eqT rfl rfl rfl (by omega)) rfl rfl rfl ?_
  refine LL.val (R.move rfl rfl) rfl rfl rfl ?_
  refine LL.val (R.move rfl rfl) rfl rfl rfl ?_
  refine LL.val (R.pick rfl rfl rfl) rfl rfl rfl ?_
  refine LL.val (R.move rfl rfl) rfl rfl rfl ?_
  refine LL.val (R.field rfl rfl (I.fld rfl)) rfl rfl rfl ?_
  refine LL.val (R.load rfl rfl (I.ld1 rfl (RowL.cell r949 rfl))) rfl rfl rfl ?_
  refine LL.val (R.eqT rfl rfl rfl (by omega)) rfl rfl rfl ?_
  refine LL.val (R.pick rfl rfl rfl) rfl rfl rfl ?_
  refine LL.val (R.move rfl rfl) rfl rfl rfl ?_
  refine LL.val (R.field rfl rfl (I.fld rfl)) rfl rfl rfl ?_
  refine LL.val (R.load rfl rfl (I.ld1 rfl (RowL.cell r949 rfl))) rfl rfl rfl ?_
  (refine LL.val (R.eqS (a := [47]) (b := [47]) (c := true) rfl rfl rfl (by simp)) rfl rfl rfl ?_)
  refine LL.val (R.pick rfl rfl rfl) rfl rfl rfl ?_
  refine LL.val (R.move rfl rfl) rfl rfl rfl ?_
  refine LL.val (R.field rfl rfl (I.fld rfl)) rfl rfl rfl ?_
  refine LL.val (R.load rfl rfl (I.ld1 rfl (RowL.cell r949 rfl))) rfl rfl rfl ?_
  refine LL.val (R.eqT rfl rfl rfl (by omega)) rfl rfl rfl ?_
  refine LL.val (R.pick rfl rfl rfl) rfl rfl rfl ?_
  refine LL.val (R.move rfl rfl) rfl rfl rfl ?_
  refine LL.val (R.field rfl rfl (I.fld rfl)) rfl rfl rfl ?_
  refine LL.val (R.load rfl rfl (I.ld1 rfl (RowL.cell r949 rfl))) rfl rfl rfl ?_
  refine LL.val (R.eqT rfl rfl rfl (by omega)) rfl rfl rfl ?_
  refine LL.val (R.pick rfl rfl rfl) rfl rfl rfl ?_
  refine LL.val (R.move rfl rfl) rfl rfl rfl ?_
  refine LL.val (R.move rfl rfl) rfl rfl rfl ?_
  refine LL.val (R.pick rfl rfl rfl) rfl rfl rfl ?_
  refine LL.val (R.move rfl rfl) rfl rfl rfl ?_
  refine LL.val (R.move rfl rfl) rfl rfl rfl ?_
  refine LL.val (R.pick rfl rfl rfl) rfl rfl rfl ?_
  refine LL.val (R.move rfl rfl) rfl rfl rfl ?_
  refine LL.val (R.move rfl rfl) rfl rfl rfl ?_
  refine LL.val (R.len rfl rfl rfl rfl) rfl rfl rfl ?_
  refine LL.val (R.eqT rfl rfl rfl (by omega)) rfl rfl rfl ?_
  refine LL.val (R.pick rfl rfl rfl) rfl rfl rfl ?_
  refine LL.val (R.move rfl rfl) rfl rfl rfl ?_
  refine LL.val (R.move rfl rfl) rfl rfl rfl ?_
  have l9830 := r1517.lt
  have l9831 := r949.lt
  (refine LL.call (R.call rfl rfl rfl) rfl rfl rfl (Sm.cursor_any hS) ?_; rintro e W9829 ⟨rfl, b9826⟩; refine ⟨_, rfl, ?_⟩)
  have zb9826 := b9826.size
  replace b4039 := b4039.trans (b9826.mono b4039.size)
  replace b3463 := b3463.trans (b9826.mono b3463.size)
  replace b2794 := b2794.trans (b9826.mono b2794.size)
  replace hS := hS.up b9826
  replace r1517 := r1517.up b9826
  replace b85 := b85.trans (b9826.mono b85.size)
  replace q := q.trans (b9826.mono q.size)
  replace r949 := r949.up b9826
  refine LL.vsplit (fun h => R.eqT rfl rfl rfl h) (fun h => R.eqF rfl rfl rfl h) rfl rfl rfl (fun c9937 => ?_) (fun c9937 => ?_)
  refine LL.val (R.pick rfl rfl rfl) rfl rfl rfl ?_
  refine LL.val (R.move rfl rfl) rfl rfl rfl ?_
  refine LL.val (R.move rfl rfl) rfl rfl rfl ?_
  refine LL.val (R.buildV rfl rfl (v := .agg #[Value.int IntKind.i64 0, Value.int IntKind.i64 0, Value.int IntKind.i64 0, Value.int IntKind.i64 0, Value.int IntKind.i64 0, Value.slice none 0 0, Value.string { data := #[] }, Value.slice none 0 0, Value.int IntKind.u64 0]) (fun _ => by kernel_rfl)) rfl rfl rfl ?_
  have l10434 := r1517.lt
  have l10435 := r949.lt
  (refine LL.call (R.call rfl rfl rfl) rfl rfl rfl (Sm.take_over 0 hS) ?_; rintro e W10433 ⟨rfl, b10430⟩; refine ⟨_, rfl, ?_⟩)
  have zb10430 := b10430.size
  replace b9826 := b9826.trans (b10430.mono b9826.size)
  replace b4039 := b4039.trans (b10430.mono b4039.size)
  replace b3463 := b3463.trans (b10430.mono b3463.size)
  replace b2794 := b2794.trans (b10430.mono b2794.size)
  replace hS := hS.up b10430
  replace r1517 := r1517.up b10430
  replace b85 := b85.trans (b10430.mono b85.size)
  replace q := q.trans (b10430.mono q.size)
  replace r949 := r949.up b10430
  refine LL.call (R.call rfl rfl rfl) rfl rfl rfl (num28_any _ _) ?_
  rintro e W' ⟨rfl, rfl⟩
  refine ⟨_, rfl, ?_⟩
  refine LL.val (R.eqT rfl rfl rfl (by omega)) rfl rfl rfl ?_
  refine LL.val (R.pick rfl rfl rfl) rfl rfl rfl ?_
  refine LL.val (R.move rfl rfl) rfl rfl rfl ?_
  refine LL.val (R.move rfl rfl) rfl rfl rfl ?_
  refine LL.call (R.call rfl rfl rfl) rfl rfl rfl (num28_any _ _) ?_
  rintro e W' ⟨rfl, rfl⟩
  refine ⟨_, rfl, ?_⟩
  refine LL.val (R.eqT rfl rfl rfl (by omega)) rfl rfl rfl ?_
  refine LL.val (R.pick rfl rfl rfl) rfl rfl rfl ?_
  refine LL.val (R.assign rfl rfl) rfl rfl rfl ?_
  refine LL.nilS ?_
  refine CC.ret ?_
  refine EE.ret _ rfl rfl ?_
  exact ⟨rfl, q⟩
  refine LL.val (R.pick rfl rfl rfl) rfl rfl rfl ?_
  refine LL.val (R.move rfl rfl) rfl rfl rfl ?_
  refine LL.skip rfl rfl ?_
  refine LL.skip rfl rfl ?_
  refine LL.skip rfl rfl ?_
  refine LL.skip rfl rfl ?_
  refine LL.skip rfl rfl ?_
  refine LL.val (R.pick rfl rfl rfl) rfl rfl rfl ?_
  refine LL.val (R.move rfl rfl) rfl rfl rfl ?_
  refine LL.skip rfl rfl ?_
  refine LL.skip rfl rfl ?_
  refine LL.skip rfl rfl ?_
  refine LL.val (R.pick rfl rfl rfl) rfl rfl rfl ?_
  refine LL.val (R.assign rfl rfl) rfl rfl rfl ?_
  refine LL.nilS ?_
  refine CC.ret ?_
  refine EE.ret _ rfl rfl ?_
  exact absurd (show ((10 : Nat) : Int) = 10 from rfl) (by assumption)
end Go.Proofs.Ytplindpeiedcbaa
/- Opening the arguments of a law: slices of numbers, pairs of numbers. -/
namespace Go.Proofs.Ytplindpeiedcbaa
set_option linter.unusedVariables false
set_option linter.unusedSimpArgs false
open Go.RowKit Go.ChangeShapes Go.WideShapes Go.ChangeAt

theorem own : ownKnob Try.prog.godebug = none := by kernel_rfl
theorem laidOut : laidOutB Try.prog = true := by kernel_rfl

section
variable {H : Type} {enc : TypeId × Value → H} {P : Program} {w : World} {base : Nat} {spare : Nat → Bool} {held : Bool} {r : Reach} {b0 : Nat} {t : TypeId} {v : Value} {d : DataW H} {p : List MemPlace}

theorem wf_u64 {n : Int} (h : (Lit.int .u64 n).wf = true) : 0 ≤ n ∧ n < 18446744073709551616 := by
  simp [Lit.wf, IntKind.min, IntKind.max, IntKind.signed, IntKind.bits] at h; omega
end
end Go.Proofs.Ytplindpeiedcbaa
/- Opening the arguments of a law: structs, arrays and slices of them, of integers, truth values and strings. Over any program. -/
namespace Go.Proofs.Ytplindpeiedcbaa
set_option linter.unusedVariables false
set_option linter.unusedSimpArgs false
open Go.RowKit Go.ChangeShapes Go.WideShapes Go.ChangeAt Go.Deep
/-- What lies at a cell: an integer of a kind, a truth value, a string. -/
inductive Ckd where
  | int (k : IntKind)
  | bool
  | str
deriving DecidableEq
def atQ (P : Program) : Nat → TypeId → Nat → Option Ckd
  | 0, _, _ => none
  | d + 1, t, j => match P.underlying t with
    | some (.struct fs) => fs.toList.findSome? fun f => if f.offset ≤ j ∧ j < f.offset + P.cellsOf f.type then atQ P d f.type (j - f.offset) else none
    | some (.array n e) => if j / P.cellsOf e < n then atQ P d e (j % P.cellsOf e) else none
    | some (.int k) => if j = 0 then some (.int k) else none
    | some .bool => if j = 0 then some .bool else none
    | some .string => if j = 0 then some .str else none
    | _ => none
abbrev ZBS := Int × Bool × ByteArray
def cellQ : Ckd → ZBS → Value
  | .int k, z => .int k z.1
  | .bool, z => .bool z.2.1
  | .str, z => .string z.2.2
def wfQ : Ckd → ZBS → Prop
  | .int k, z => (Lit.int k z.1).wf = true
  | .bool, _ => True
  | .str, z => z.2.2.size ≤ maxLen
section
variable {α : Type} {encT : α → List Value} {H : Type} {enc : TypeId × Value → H} {P : Program} {w : World} {base : Nat} {spare : Nat → Bool} {held : Bool} {r : Reach} {b0 : Nat} {t : TypeId} {v : Value} {d : DataW H} {p : List MemPlace}
theorem trod_atQ : ∀ (n : Nat) (t : TypeId) (j fuel : Nat) (cs : List Value) (x : DataW H × List MemPlace) (k : Ckd), atQ P n t j = some k → DataW.trod enc P w base spare held fuel t cs = some x → ∃ z : ZBS, cs[j]? = some (cellQ k z) ∧ wfQ k z
  | 0, _, _, _, _, _, _, h, _ => by cases h
  | n + 1, t, j, fuel, cs, x, k, h, hx => by
    cases hu : P.underlying t with
    | none => simp [atQ, hu] at h
    | some kd =>
      cases kd <;> simp only [atQ, hu] at h <;> try (cases h; done)
      case int q =>
        split at h
        · rename_i hj
          cases h
          subst hj
          obtain ⟨z, e, _, hw⟩ := DataW.trod_int hu hx
          exact ⟨(z, false, ByteArray.empty), by rw [e]; rfl, hw⟩
        · cases h
      case bool =>
        split at h
        · rename_i hj
          cases h
          subst hj
          obtain ⟨b, e, _⟩ := DataW.trod_bool hu hx
          exact ⟨(0, b, ByteArray.empty), by rw [e]; rfl, trivial⟩
        · cases h
      case string =>
        split at h
        · rename_i hj
          cases h
          subst hj
          obtain ⟨s, e, _, hs⟩ := DataW.trod_string hu hx
          exact ⟨(0, false, s), by rw [e]; rfl, hs⟩
        · cases h
      case struct fs =>
        obtain ⟨f, hf, hfk⟩ := List.exists_of_findSome?_eq_some h
        split at hfk
        · rename_i hj
          obtain ⟨xs, m, _, rfl, hl, hlen, hf2⟩ := DataW.trod_struct hu hx
          obtain ⟨i, hi⟩ := List.mem_iff_getElem?.1 hf
          have h2 := hf2 i f (by simpa using hi)
          have hil : i < xs.length := by
            have := (List.getElem?_eq_some_iff.1 hi).1
            rw [Array.length_toList] at this
            omega
          rw [List.getElem?_eq_getElem hil] at h2
          obtain ⟨z, e, hw⟩ := trod_atQ n f.type (j - f.offset) _ _ _ k hfk h2
          refine ⟨z, ?_, hw⟩
          rw [List.getElem?_take] at e
          split at e
          · rw [List.getElem?_drop] at e
            rwa [show f.offset + (j - f.offset) = j by omega] at e
          · cases e
        · cases hfk
      case array m e =>
        split at h
        · rename_i hj
          obtain ⟨xs, m', _, rfl, hl, hlen, hi⟩ := DataW.trod_array hu hx
          have h2 := hi _ hj
          rw [List.getElem?_eq_getElem (by omega)] at h2
          obtain ⟨z, e', hw⟩ := trod_atQ n e (j % P.cellsOf e) _ _ _ k h h2
          refine ⟨z, ?_, hw⟩
          rw [List.getElem?_take] at e'
          split at e'
          · rw [List.getElem?_drop] at e'
            rwa [show j / P.cellsOf e * P.cellsOf e + j % P.cellsOf e = j by rw [Nat.mul_comm]; exact Nat.div_add_mod _ _] at e'
          · cases e'
        · cases h
end
end Go.Proofs.Ytplindpeiedcbaa
/- StreamPlays, any input (written by genst10.py). -/
namespace Go.Proofs.Ytplindpeiedcbaa
set_option linter.unusedVariables false
set_option linter.unusedSimpArgs false
open Go.RowKit Go.Shelf
set_option maxRecDepth 100000
set_option maxHeartbeats 8000000
/-- What comes to a stream. -/
structure Ac where
  what : Int
  er : Int
  ino : Int
  kd : Int
  lk : Int
  sz : Int
  ba : Option Addr
  bn : Nat
  bc : Nat
  tx : Bs
  na : Option Addr
  nn : Nat
  nc : Nat
  k2 : Nat
  key : Nat
def acE (x : Ac) : List Value := [.int .i64 x.what, .int .i64 x.er, .int .i64 x.ino, .int .i64 x.kd, .int .i64 x.lk, .int .i64 x.sz, .slice x.ba x.bn x.bc, strV x.tx, .slice x.na x.nn x.nc, .int .u64 (x.k2 : Int), .int .u64 (x.key : Int)]
theorem acEnc : Enc acE 11 := ⟨fun _ => rfl, fun t u hu => by
  simp only [acE, List.mem_cons, List.not_mem_nil, or_false] at hu
  rcases hu with rfl | rfl | rfl | rfl | rfl | rfl | rfl | rfl | rfl | rfl | rfl <;> rfl, by decide⟩
theorem plays_far (path : Bs) (many : Int) (v : Value) (l : List Ac) (w : World) (hv : ReadsT acE 11 w v l) (hl : l.length ≤ 9223372036854775807) (hp : path.length ≤ 9223372036854775807) (h : 300 < path.length ∨ 40 < l.length) : Calls Try.prog 3 #[strV path, .int .i64 many, v] w fun e w' => e = .returned (.bool true) ∧ Below w.heap.size w w' := by
  have q := Below.refl w.heap.size w
  obtain ⟨N, hN⟩ : ∃ N, l.length = N := ⟨_, rfl⟩
  obtain ⟨a, cap, rfl, hc⟩ := hv.form hN
  rw [hN] at h hl
  clear hv
  by_cases h1 : 300 < path.length
  · refine X.fn Try.func3 rfl (n := 119) rfl rfl ?_
    refine CC.seq ?_
    refine CC.region ?_
    refine LL.val (R.assign rfl rfl) rfl rfl rfl ?_
    refine LL.nilS ?_
    refine CC.seq ?_
    refine CC.seq ?_
    refine CC.region ?_
    refine LL.val (R.move rfl rfl) rfl rfl rfl ?_
    refine LL.val (R.lenS rfl rfl rfl rfl) rfl rfl rfl ?_
    refine LL.val (R.gtT rfl rfl rfl (by omega)) rfl rfl rfl ?_
    refine LL.val (R.move rfl rfl) rfl rfl rfl ?_
    refine LL.skip rfl rfl ?_
    refine LL.skip rfl rfl ?_
    refine LL.skip rfl rfl ?_
    refine LL.val (R.pick rfl rfl rfl) rfl rfl rfl ?_
    refine LL.nilS ?_
    refine CC.yes rfl ?_
    refine CC.seq ?_
    refine CC.region ?_
    (refine LL.call (R.call rfl rfl rfl) rfl rfl rfl (works28_any _) ?_; rintro e W46 ⟨rfl, b43⟩; refine ⟨_, rfl, ?_⟩)
    have zb43 := b43.size
    replace q := q.trans (b43.mono q.size)
    refine LL.val (R.assign rfl rfl) rfl rfl rfl ?_
    refine LL.nilS ?_
    refine CC.ret ?_
    refine EE.thenR ?_
    refine EE.ret _ rfl rfl ?_
    exact ⟨rfl, q⟩
  · have h2 : 40 < N := by omega
    refine X.fn Try.func3 rfl (n := 119) rfl rfl ?_
    refine CC.seq ?_
    refine CC.region ?_
    refine LL.val (R.assign rfl rfl) rfl rfl rfl ?_
    refine LL.nilS ?_
    refine CC.seq ?_
    refine CC.seq ?_
    refine CC.region ?_
    refine LL.val (R.move rfl rfl) rfl rfl rfl ?_
    refine LL.val (R.lenS rfl rfl rfl rfl) rfl rfl rfl ?_
    refine LL.val (R.gtF rfl rfl rfl (by omega)) rfl rfl rfl ?_
    refine LL.val (R.move rfl rfl) rfl rfl rfl ?_
    refine LL.val (R.move rfl rfl) rfl rfl rfl ?_
    refine LL.val (R.len rfl rfl rfl rfl) rfl rfl rfl ?_
    refine LL.val (R.gtT rfl rfl rfl (by omega)) rfl rfl rfl ?_
    refine LL.val (R.pick rfl rfl rfl) rfl rfl rfl ?_
    refine LL.nilS ?_
    refine CC.yes rfl ?_
    refine CC.seq ?_
    refine CC.region ?_
    (refine LL.call (R.call rfl rfl rfl) rfl rfl rfl (works28_any _) ?_; rintro e Wa67 ⟨rfl, ba64⟩; refine ⟨_, rfl, ?_⟩)
    have zba64 := ba64.size
    replace q := q.trans (ba64.mono q.size)
    refine LL.val (R.assign rfl rfl) rfl rfl rfl ?_
    refine LL.nilS ?_
    refine CC.ret ?_
    refine EE.thenR ?_
    refine EE.ret _ rfl rfl ?_
    exact ⟨rfl, q⟩
--C law28_num | num28_any _ @w | S
theorem plays_no (path : Bs) (many : Int) (v : Value) (l : List Ac) (w : World) (hv : ReadsT acE 11 w v l) (hl : l.length ≤ 9223372036854775807) (hp : path.length ≤ 9223372036854775807) (h1 : path.length ≤ 300) (h2 : l.length ≤ 40) (h : ¬(1 ≤ many ∧ many ≤ 64)) : Calls Try.prog 3 #[strV path, .int .i64 many, v] w fun e w' => e = .returned (.bool true) ∧ Below w.heap.size w w' := by
  have q := Below.refl w.heap.size w
  obtain ⟨N, hN⟩ : ∃ N, l.length = N := ⟨_, rfl⟩
  obtain ⟨a, cap, rfl, hc⟩ := hv.form hN
  rw [hN] at h2 hl
  clear hv
  refine X.fn Try.func3 rfl (n := 119) rfl rfl ?_
  refine CC.seq ?_
  refine CC.region ?_
  refine LL.val (R.assign rfl rfl) rfl rfl rfl ?_
  refine LL.nilS ?_
  refine CC.seq ?_
  refine CC.seq ?_
  refine CC.region ?_
  refine LL.val (R.move rfl rfl) rfl rfl rfl ?_
  refine LL.val (R.lenS rfl rfl rfl rfl) rfl rfl rfl ?_
  refine LL.val (R.gtF rfl rfl rfl (by omega)) rfl rfl rfl ?_
  refine LL.val (R.move rfl rfl) rfl rfl rfl ?_
  refine LL.val (R.move rfl rfl) rfl rfl rfl ?_
  refine LL.val (R.len rfl rfl rfl rfl) rfl rfl rfl ?_
  refine LL.val (R.gtF rfl rfl rfl (by omega)) rfl rfl rfl ?_
  refine LL.val (R.pick rfl rfl rfl) rfl rfl rfl ?_
  refine LL.nilS ?_
  refine CC.no rfl ?_
  refine CC.skip ?_
  refine EE.thenN ?_
  refine CC.seq ?_
  refine CC.region ?_
  refine LL.val (R.move rfl rfl) rfl rfl rfl ?_
  refine LL.val (R.move rfl rfl) rfl rfl rfl ?_
  (refine LL.call (R.call rfl rfl rfl) rfl rfl rfl (snew_no path many h) ?_; rintro e W312 ⟨rfl, b309⟩; refine ⟨_, rfl, ?_⟩)
  have zb309 := b309.size
  replace q := q.trans (b309.mono q.size)
  refine LL.val (R.move rfl rfl) rfl rfl rfl ?_
  refine LL.val (R.extract rfl rfl rfl) rfl rfl rfl ?_
  refine LL.val (R.extract rfl rfl rfl) rfl rfl rfl ?_
  refine LL.val (R.assign rfl rfl) rfl rfl rfl ?_
  refine LL.val (R.assign rfl rfl) rfl rfl rfl ?_
  refine LL.nilS ?_
  refine CC.seq ?_
  refine CC.seq ?_
  refine CC.region ?_
  refine LL.val (R.move rfl rfl) rfl rfl rfl ?_
  (refine LL.call (R.call rfl rfl rfl) rfl rfl rfl (right28_any many false ⟨fun e => (by cases e), fun hh => absurd hh h⟩ _) ?_; rintro e W494 ⟨rfl, b491⟩; refine ⟨_, rfl, ?_⟩)
  have zb491 := b491.size
  replace b309 := b309.trans (b491.mono b309.size)
  replace q := q.trans (b491.mono q.size)
  refine LL.val (R.not rfl rfl) rfl rfl rfl ?_
  refine LL.nilS ?_
  refine CC.yes rfl ?_
  refine CC.seq ?_
  refine CC.region ?_
  refine LL.val (R.move rfl rfl) rfl rfl rfl ?_
  refine LL.val (R.eqPtr rfl rfl rfl rfl rfl) rfl rfl rfl ?_
  refine LL.val (R.move rfl rfl) rfl rfl rfl ?_
  refine LL.val (R.move rfl rfl) rfl rfl rfl ?_
  refine LL.call (R.call rfl rfl rfl) rfl rfl rfl (num28_any _ _) ?_
  rintro e W' ⟨rfl, rfl⟩
  refine ⟨_, rfl, ?_⟩
  refine LL.val (R.eqT rfl rfl rfl (by omega)) rfl rfl rfl ?_
  refine LL.val (R.pick rfl rfl rfl) rfl rfl rfl ?_
  refine LL.val (R.move rfl rfl) rfl rfl rfl ?_
  (refine LL.call (R.call rfl rfl rfl) rfl rfl rfl (works28_any _) ?_; rintro e W767 ⟨rfl, b764⟩; refine ⟨_, rfl, ?_⟩)
  have zb764 := b764.size
  replace b491 := b491.trans (b764.mono b491.size)
  replace b309 := b309.trans (b764.mono b309.size)
  replace q := q.trans (b764.mono q.size)
  refine LL.val (R.pick rfl rfl rfl) rfl rfl rfl ?_
  refine LL.val (R.assign rfl rfl) rfl rfl rfl ?_
  refine LL.nilS ?_
  refine CC.ret ?_
  refine EE.thenR ?_
  refine EE.ret _ rfl rfl ?_
  exact ⟨rfl, q⟩
--C law28_num | num28_any _ @w | S
theorem plays_yes (path : Bs) (many : Int) (v : Value) (l : List Ac) (w : World) (hv : ReadsT acE 11 w v l) (hl : l.length ≤ 9223372036854775807) (hp : path.length ≤ 9223372036854775807) (hU : ∀ x ∈ l, ∃ us, ReadsT nmE 3 w (.slice x.na x.nn x.nc) us) (h1 : path.length ≤ 300) (h2 : l.length ≤ 40) (h : 1 ≤ many ∧ many ≤ 64) : Calls Try.prog 3 #[strV path, .int .i64 many, v] w fun e w' => e = .returned (.bool true) ∧ Below w.heap.size w w' := by
  have q := Below.refl w.heap.size w
  obtain ⟨N, hN⟩ : ∃ N, l.length = N := ⟨_, rfl⟩
  obtain ⟨a, cap, rfl, hc⟩ := hv.form hN
  rw [hN] at h2 hl
  have hvF := fun W (b : Below w.heap.size w W) => hv.up b
  clear hv
  refine X.fn Try.func3 rfl (n := 119) rfl rfl ?_
  refine CC.seq ?_
  refine CC.region ?_
  refine LL.val (R.assign rfl rfl) rfl rfl rfl ?_
  refine LL.nilS ?_
  refine CC.seq ?_
  refine CC.seq ?_
  refine CC.region ?_
  refine LL.val (R.move rfl rfl) rfl rfl rfl ?_
  refine LL.val (R.lenS rfl rfl rfl rfl) rfl rfl rfl ?_
  refine LL.val (R.gtF rfl rfl rfl (by omega)) rfl rfl rfl ?_
  refine LL.val (R.move rfl rfl) rfl rfl rfl ?_
  refine LL.val (R.move rfl rfl) rfl rfl rfl ?_
  refine LL.val (R.len rfl rfl rfl rfl) rfl rfl rfl ?_
  refine LL.val (R.gtF rfl rfl rfl (by omega)) rfl rfl rfl ?_
  refine LL.val (R.pick rfl rfl rfl) rfl rfl rfl ?_
  refine LL.nilS ?_
  refine CC.no rfl ?_
  refine CC.skip ?_
  refine EE.thenN ?_
  refine CC.seq ?_
  refine CC.region ?_
  refine LL.val (R.move rfl rfl) rfl rfl rfl ?_
  refine LL.val (R.move rfl rfl) rfl rfl rfl ?_
  (refine LL.call (R.call rfl rfl rfl) rfl rfl rfl (snew_yes path many h) ?_; rintro e W312 ⟨g, rfl, rg, hg0, b309⟩; refine ⟨_, rfl, ?_⟩; have hgl := rg.lt; have hS := Sm.of_row rg; clear rg)
  have zb309 := b309.size
  replace q := q.trans (b309.mono q.size)
  refine LL.val (R.move rfl rfl) rfl rfl rfl ?_
  refine LL.val (R.extract rfl rfl rfl) rfl rfl rfl ?_
  refine LL.val (R.extract rfl rfl rfl) rfl rfl rfl ?_
  refine LL.val (R.assign rfl rfl) rfl rfl rfl ?_
  refine LL.val (R.assign rfl rfl) rfl rfl rfl ?_
  refine LL.nilS ?_
  refine CC.seq ?_
  refine CC.seq ?_
  refine CC.region ?_
  refine LL.val (R.move rfl rfl) rfl rfl rfl ?_
  (refine LL.call (R.call rfl rfl rfl) rfl rfl rfl (right28_any many true ⟨fun _ => h, fun _ => rfl⟩ _) ?_; rintro e W494 ⟨rfl, b491⟩; refine ⟨_, rfl, ?_⟩)
  have zb491 := b491.size
  replace b309 := b309.trans (b491.mono b309.size)
  replace hS := hS.up b491
  replace q := q.trans (b491.mono q.size)
  refine LL.val (R.not rfl rfl) rfl rfl rfl ?_
  refine LL.nilS ?_
  refine CC.no rfl ?_
  refine CC.skip ?_
  refine EE.thenN ?_
  refine CC.seq ?_
  refine CC.region ?_
  refine LL.val (R.move rfl rfl) rfl rfl rfl ?_
  refine LL.val (R.move rfl rfl) rfl rfl rfl ?_
  refine LL.val (R.buildV rfl rfl (v := .agg #[Value.string { data := List.toArray path }, Value.int IntKind.i64 many, Value.int IntKind.u64 0, Value.slice none 0 0, Value.bool false, Value.int IntKind.i64 0]) (fun _ => by kernel_rfl)) rfl rfl rfl ?_
  refine LL.alloc ([Value.string { data := { toList := [] } }, Value.int IntKind.i64 0, Value.int IntKind.u64 0, Value.slice none 0 0, Value.bool false, Value.int IntKind.i64 0]) rfl rfl rfl rfl rfl ?_
  intro W639 g640 eg640 r641 z642 b638
  replace b491 := b491.trans (b638.mono b491.size)
  replace b309 := b309.trans (b638.mono b309.size)
  replace hS := hS.up b638
  replace q := q.trans (b638.mono q.size)
  refine LL.storeN (vs := [Value.string { data := List.toArray path }, Value.int IntKind.i64 many, Value.int IntKind.u64 0, Value.slice none 0 0, Value.bool false, Value.int IntKind.i64 0]) rfl rfl rfl rfl r641 (by exact Nat.le_of_ble_eq_true rfl) (ones_of rfl) rfl rfl ?_
  intro W676 r677 b675 z678
  have hlb675 := r641.lt
  replace r677 : RowL W676 _ 33 [Value.string { data := List.toArray path }, Value.int IntKind.i64 many, Value.int IntKind.u64 0, Value.slice none 0 0, Value.bool false, Value.int IntKind.i64 0] := r677
  clear r641
  replace b638 := b638.grown b675 b638.size (by rintro k ⟨⟩; omega)
  replace b491 := b491.grown b675 b491.size (by rintro k ⟨⟩; omega)
  replace b309 := b309.grown b675 b309.size (by rintro k ⟨⟩; omega)
  replace hS := hS.gr b675 (by have := hS.lt; omega)
  replace q := q.grown b675 q.size (by rintro k ⟨⟩; omega)
  have r641 := r677
  clear r677
  refine LL.nilS ?_
  refine CC.seq ?_
  refine CC.seq ?_
  refine CC.region ?_
  refine LL.val (R.move rfl rfl) rfl rfl rfl ?_
  refine LL.call (R.call rfl rfl rfl) rfl rfl rfl (num28_any _ _) ?_
  rintro e W' ⟨rfl, rfl⟩
  refine ⟨_, rfl, ?_⟩
  refine LL.val (R.neF rfl rfl rfl (by omega)) rfl rfl rfl ?_
  refine LL.val (R.move rfl rfl) rfl rfl rfl ?_
  refine LL.val (R.move rfl rfl) rfl rfl rfl ?_
  refine LL.val (R.load rfl rfl (I.ldNc (vs := [Value.string { data := List.toArray path }, Value.int IntKind.i64 many, Value.int IntKind.u64 0, Value.slice none 0 0, Value.bool false, Value.int IntKind.i64 0]) (RowL.cells r641 rfl) (by rfl) (by rfl))) rfl rfl rfl ?_
  have l891 := r641.lt
  (refine LL.call (R.call rfl rfl rfl) rfl rfl rfl (Sm.same_any hS none 0 0 ((OwnsT.none _ 0 48).reads nmEnc) (by decide)) ?_; rintro e W890 ⟨rfl, b887⟩; refine ⟨_, rfl, ?_⟩)
  have zb887 := b887.size
  replace b638 := b638.trans (b887.mono b638.size)
  replace b491 := b491.trans (b887.mono b491.size)
  replace b309 := b309.trans (b887.mono b309.size)
  replace hS := hS.up b887
  replace q := q.trans (b887.mono q.size)
  replace r641 := r641.up b887
  refine LL.val (R.not rfl rfl) rfl rfl rfl ?_
  refine LL.val (R.pick rfl rfl rfl) rfl rfl rfl ?_
  refine LL.nilS ?_
  refine CC.no rfl ?_
  refine CC.skip ?_
  refine EE.thenN ?_
  refine CC.seq ?_
  refine CC.seq ?_
  refine CC.region ?_
  refine LL.val (R.assign rfl rfl) rfl rfl rfl ?_
  refine LL.nilS ?_
  refine CC.block ?_
  obtain ⟨W0, eW⟩ : ∃ X, X = W890 := ⟨_, rfl⟩
  obtain ⟨G9, e9⟩ : ∃ X, X = g640 := ⟨_, rfl⟩
  have r9 := r641
  subst eW e9
  have hgG : g < G9 := by omega
  refine CC.loop (α := Nat × Nat) (fun p => [(2, .slice a N cap), (7, .pointer (some ⟨p.2, 0, none⟩)), (9, .pointer (some ⟨G9, 0, none⟩)), (10, .int .i64 (p.1 : Int))]) (fun p W => p.1 ≤ N ∧ Below w.heap.size w W ∧ ∃ bo key ts over why a2 n2 c2 bb, Sm W p.2 bo path many key ts over why ∧ RowL W G9 33 [strV path, .int .i64 many, .int .u64 (key : Int), .slice a2 n2 c2, .bool over, .int .i64 why] ∧ NmB W bb a2 n2 c2 ts ∧ ts.length ≤ 20 * p.1 ∧ (over = false → why = 0) ∧ p.2 ≠ G9 ∧ bo ≠ G9 ∧ w.heap.size ≤ p.2 ∧ w.heap.size ≤ bo ∧ (0 < w.heap.size → p.2 ≠ bb ∧ bo ≠ bb ∧ G9 ≠ bb)) (fun p => N - p.1) (0, g) ⟨rfl, rfl, rfl, rfl, trivial⟩ ⟨Nat.zero_le _, q, _, _, _, _, _, _, _, _, 0, hS, r9, ⟨(OwnsT.none _ 0 48).reads nmEnc, fun x e => (by cases e), by have := r9.lt; omega⟩, by simp, fun _ => rfl, by show g ≠ G9; omega, by omega, hg0, hg0, fun _ => ⟨by show g ≠ 0; omega, by omega, by omega⟩⟩ ?_
  have hwz := q.size
  clear q r9 r641 hS b638 b491 b309
  rintro ⟨i, g⟩ W ⟨hi, q, bo, key, ts, over, why, a2, n2, c2, bb, hS, rq, hB, hts, hwhy, i1, i2, i3, i4, i5⟩
  dsimp only at hi hS hts i1 i3 i5
  show CC none Try.prog _ 119 [] (sl [(2, .slice a N cap), (7, .pointer (some ⟨g, 0, none⟩)), (9, .pointer (some ⟨G9, 0, none⟩)), (10, .int .i64 (i : Int))]) _ W
  by_cases hlt : i < N
  case neg =>
    obtain rfl : N = i := by omega
    clear hS rq hB
    refine CC.seq ?_
    refine CC.seq ?_
    refine CC.region ?_
    refine LL.val (R.move rfl rfl) rfl rfl rfl ?_
    refine LL.val (R.move rfl rfl) rfl rfl rfl ?_
    refine LL.val (R.len rfl rfl rfl rfl) rfl rfl rfl ?_
    refine LL.val (R.ltF rfl rfl rfl (by omega)) rfl rfl rfl ?_
    refine LL.nilS ?_
    refine CC.no rfl ?_
    refine CC.exit ?_
    refine EE.thenX ?_
    refine EE.thenX ?_
    refine EE.inX ?_
    refine EE.thenN ?_
    refine CC.seq ?_
    refine CC.region ?_
    (refine LL.call (R.call rfl rfl rfl) rfl rfl rfl (works28_any _) ?_; rintro e Wa32 ⟨rfl, ba29⟩; refine ⟨_, rfl, ?_⟩)
    have zba29 := ba29.size
    replace q := q.trans (ba29.mono q.size)
    refine LL.val (R.assign rfl rfl) rfl rfl rfl ?_
    refine LL.nilS ?_
    refine CC.ret ?_
    refine EE.ret _ rfl rfl ?_
    exact ⟨rfl, q⟩
  obtain ⟨x, hx⟩ : ∃ x, l[i]? = some x := ⟨_, List.getElem?_eq_getElem (by omega)⟩
  obtain ⟨us, hU⟩ := hU x (List.mem_of_getElem? hx)
  obtain ⟨b1, o1, rfl, lb1, _⟩ := (hvF _ (Below.refl w.heap.size w)).get acEnc hx
  have m1 : CellsN W ⟨b1, o1 + i * 11, none⟩ 11 (acE x) := (hvF W q).elemN acEnc hx
  obtain ⟨what, er, ino, kd, lk, sz, ba, bn, bc, tx, na, nn, nc, k2, xkey⟩ := x
  have m1 : CellsN W ⟨b1, o1 + i * 11, none⟩ 11 [.int .i64 what, .int .i64 er, .int .i64 ino, .int .i64 kd, .int .i64 lk, .int .i64 sz, .slice ba bn bc, strV tx, .slice na nn nc, .int .u64 (k2 : Int), .int .u64 (xkey : Int)] := m1
  have hU : ReadsT nmE 3 w (.slice na nn nc) us := hU
  have hUF := fun W (b : Below w.heap.size w W) => hU.up b
  have hw0 : 0 < w.heap.size := by omega
  have i5 := i5 hw0
  have hnn : us.length = nn := by
    obtain ⟨_, _, e, _⟩ := hU.form rfl
    cases e
    rfl
  have hn2 : ts.length = n2 := hB.len
  have hna : ∀ x : Addr, 0 < nn → na = some x → x.block < w.heap.size := fun x h0 e => by
    obtain ⟨a', cp, e2, _, h'⟩ := hU
    cases e2
    obtain ⟨b, off, e3, hb, _⟩ := h' (List.length_pos_iff.1 (by omega))
    rw [e] at e3
    cases e3
    exact hb
  have lbo := hS.ltb
  have lg := hS.lt
  have lB := hB.lt
  have l9 := rq.lt
  clear hvF hU
  by_cases h20 : 20 < nn
  · clear hS rq hB
    refine CC.seq ?_
    refine CC.seq ?_
    refine CC.region ?_
    refine LL.val (R.move rfl rfl) rfl rfl rfl ?_
    refine LL.val (R.move rfl rfl) rfl rfl rfl ?_
    refine LL.val (R.len rfl rfl rfl rfl) rfl rfl rfl ?_
    refine LL.val (R.ltT rfl rfl rfl (by omega)) rfl rfl rfl ?_
    refine LL.nilS ?_
    refine CC.yes rfl ?_
    refine CC.skip ?_
    refine EE.thenN ?_
    refine CC.seq ?_
    refine CC.block ?_
    refine CC.seq ?_
    refine CC.region ?_
    refine LL.val (R.move rfl rfl) rfl rfl rfl ?_
    refine LL.val (R.move rfl rfl) rfl rfl rfl ?_
    refine LL.val (R.index rfl rfl rfl (I.ixS rfl (by omega))) rfl rfl rfl ?_
    refine LL.val (R.load rfl rfl (I.ldM (by assumption) rfl rfl)) rfl rfl rfl ?_
    refine LL.alloc ([Value.int IntKind.i64 0, Value.int IntKind.i64 0, Value.int IntKind.i64 0, Value.int IntKind.i64 0, Value.int IntKind.i64 0, Value.int IntKind.i64 0, Value.slice none 0 0, Value.string { data := { toList := [] } }, Value.slice none 0 0, Value.int IntKind.u64 0, Value.int IntKind.u64 0]) rfl rfl rfl rfl rfl ?_
    intro Wb65 gb66 egb66 rb67 zb68 bb64
    replace q := q.trans (bb64.mono q.size)
    replace m1 := m1.up bb64
    refine LL.storeN (vs := [Value.int IntKind.i64 what, Value.int IntKind.i64 er, Value.int IntKind.i64 ino, Value.int IntKind.i64 kd, Value.int IntKind.i64 lk, Value.int IntKind.i64 sz, Value.slice ba bn bc, strV tx, Value.slice na nn nc, Value.int IntKind.u64 ↑k2, Value.int IntKind.u64 ↑xkey]) rfl rfl rfl rfl rb67 (by exact Nat.le_of_ble_eq_true rfl) (ones_of rfl) rfl rfl ?_
    intro Wb78 rb79 bb77 zb80
    have hlbb77 := rb67.lt
    replace rb79 : RowL Wb78 _ 40 [Value.int IntKind.i64 what, Value.int IntKind.i64 er, Value.int IntKind.i64 ino, Value.int IntKind.i64 kd, Value.int IntKind.i64 lk, Value.int IntKind.i64 sz, Value.slice ba bn bc, strV tx, Value.slice na nn nc, Value.int IntKind.u64 ↑k2, Value.int IntKind.u64 ↑xkey] := rb79
    clear rb67
    replace bb64 := bb64.grown bb77 bb64.size (by rintro k ⟨⟩; omega)
    replace q := q.grown bb77 q.size (by rintro k ⟨⟩; omega)
    replace m1 := m1.gr bb77 (by have := m1.lt; omega)
    have rb67 := rb79
    clear rb79
    refine LL.nilS ?_
    refine CC.seq ?_
    refine CC.seq ?_
    refine CC.region ?_
    refine LL.val (R.field rfl rfl (I.fld rfl)) rfl rfl rfl ?_
    refine LL.val (R.field rfl rfl (I.fld rfl)) rfl rfl rfl ?_
    refine LL.val (R.load rfl rfl (I.ld1 rfl (RowL.cell rb67 rfl))) rfl rfl rfl ?_
    refine LL.val (R.len rfl rfl rfl rfl) rfl rfl rfl ?_
    refine LL.val (R.gtT rfl rfl rfl (by omega)) rfl rfl rfl ?_
    refine LL.nilS ?_
    refine CC.yes rfl ?_
    refine CC.seq ?_
    refine CC.region ?_
    have lb125 := rb67.lt
    (refine LL.call (R.call rfl rfl rfl) rfl rfl rfl (works28_any _) ?_; rintro e Wb124 ⟨rfl, bb121⟩; refine ⟨_, rfl, ?_⟩)
    have zbb121 := bb121.size
    replace bb64 := bb64.trans (bb121.mono bb64.size)
    replace q := q.trans (bb121.mono q.size)
    replace m1 := m1.up bb121
    replace rb67 := rb67.up bb121
    refine LL.val (R.assign rfl rfl) rfl rfl rfl ?_
    refine LL.nilS ?_
    refine CC.ret ?_
    refine EE.thenR ?_
    refine EE.inR ?_
    refine EE.thenR ?_
    refine EE.thenR ?_
    refine EE.inR ?_
    refine EE.thenR ?_
    refine EE.ret _ rfl rfl ?_
    exact ⟨rfl, q⟩
  by_cases w0 : what = 0
  · subst w0
    cases over with
    | true =>
      clear hwhy
      refine CC.seq ?_
      refine CC.seq ?_
      refine CC.region ?_
      refine LL.val (R.move rfl rfl) rfl rfl rfl ?_
      refine LL.val (R.move rfl rfl) rfl rfl rfl ?_
      refine LL.val (R.len rfl rfl rfl rfl) rfl rfl rfl ?_
      refine LL.val (R.ltT rfl rfl rfl (by omega)) rfl rfl rfl ?_
      refine LL.nilS ?_
      refine CC.yes rfl ?_
      refine CC.skip ?_
      refine EE.thenN ?_
      refine CC.seq ?_
      refine CC.block ?_
      refine CC.seq ?_
      refine CC.region ?_
      refine LL.val (R.move rfl rfl) rfl rfl rfl ?_
      refine LL.val (R.move rfl rfl) rfl rfl rfl ?_
      refine LL.val (R.index rfl rfl rfl (I.ixS rfl (by omega))) rfl rfl rfl ?_
      refine LL.val (R.load rfl rfl (I.ldM (by assumption) rfl rfl)) rfl rfl rfl ?_
      have lc361 := rq.lt
      refine LL.alloc ([Value.int IntKind.i64 0, Value.int IntKind.i64 0, Value.int IntKind.i64 0, Value.int IntKind.i64 0, Value.int IntKind.i64 0, Value.int IntKind.i64 0, Value.slice none 0 0, Value.string { data := { toList := [] } }, Value.slice none 0 0, Value.int IntKind.u64 0, Value.int IntKind.u64 0]) rfl rfl rfl rfl rfl ?_
      intro Wc363 gc364 egc364 rc365 zc366 bc362
      replace q := q.trans (bc362.mono q.size)
      replace hB := hB.up bc362
      replace m1 := m1.up bc362
      replace hS := hS.up bc362
      replace rq := rq.up bc362
      refine LL.storeN (vs := [Value.int IntKind.i64 0, Value.int IntKind.i64 er, Value.int IntKind.i64 ino, Value.int IntKind.i64 kd, Value.int IntKind.i64 lk, Value.int IntKind.i64 sz, Value.slice ba bn bc, strV tx, Value.slice na nn nc, Value.int IntKind.u64 ↑k2, Value.int IntKind.u64 ↑xkey]) rfl rfl rfl rfl rc365 (by exact Nat.le_of_ble_eq_true rfl) (ones_of rfl) rfl rfl ?_
      intro Wc413 rc414 bc412 zc415
      have hlbc412 := rc365.lt
      replace rc414 : RowL Wc413 _ 40 [Value.int IntKind.i64 0, Value.int IntKind.i64 er, Value.int IntKind.i64 ino, Value.int IntKind.i64 kd, Value.int IntKind.i64 lk, Value.int IntKind.i64 sz, Value.slice ba bn bc, strV tx, Value.slice na nn nc, Value.int IntKind.u64 ↑k2, Value.int IntKind.u64 ↑xkey] := rc414
      clear rc365
      replace bc362 := bc362.grown bc412 bc362.size (by rintro k ⟨⟩; omega)
      replace q := q.grown bc412 q.size (by rintro k ⟨⟩; omega)
      replace hB := hB.gr bc412 (by have := hB.lt; omega)
      replace m1 := m1.gr bc412 (by have := m1.lt; omega)
      replace hS := hS.gr bc412 (by have := hS.lt; omega)
      replace rq := rq.gr bc412 (by have := rq.lt; omega)
      have rc365 := rc414
      clear rc414
      refine LL.nilS ?_
      refine CC.seq ?_
      refine CC.seq ?_
      refine CC.region ?_
      refine LL.val (R.field rfl rfl (I.fld rfl)) rfl rfl rfl ?_
      refine LL.val (R.field rfl rfl (I.fld rfl)) rfl rfl rfl ?_
      refine LL.val (R.load rfl rfl (I.ld1 rfl (RowL.cell rc365 rfl))) rfl rfl rfl ?_
      refine LL.val (R.len rfl rfl rfl rfl) rfl rfl rfl ?_
      refine LL.val (R.gtF rfl rfl rfl (by omega)) rfl rfl rfl ?_
      refine LL.nilS ?_
      refine CC.no rfl ?_
      refine CC.skip ?_
      refine EE.thenN ?_
      refine CC.seq ?_
      refine CC.seq ?_
      refine CC.region ?_
      refine LL.val (R.field rfl rfl (I.fld rfl)) rfl rfl rfl ?_
      refine LL.val (R.load rfl rfl (I.ld1 rfl (RowL.cell rc365 rfl))) rfl rfl rfl ?_
      refine LL.nilS ?_
      refine CC.block ?_
      refine CC.seq ?_
      refine CC.region ?_
      refine LL.val (R.eqT rfl rfl rfl (by omega)) rfl rfl rfl ?_
      refine LL.val (R.assign rfl rfl) rfl rfl rfl ?_
      refine LL.nilS ?_
      refine CC.yes rfl ?_
      refine CC.seq ?_
      refine CC.region ?_
      refine LL.val (R.load rfl rfl (I.ldNc (vs := [strV path, Value.int IntKind.i64 many, Value.int IntKind.u64 ↑key, Value.slice a2 n2 c2, Value.bool true, Value.int IntKind.i64 why]) (RowL.cells rq rfl) (by rfl) (by rfl))) rfl rfl rfl ?_
      refine LL.val (R.field rfl rfl (I.fld rfl)) rfl rfl rfl ?_
      refine LL.val (R.load rfl rfl (I.ldNc (vs := [Value.int IntKind.i64 er, Value.int IntKind.i64 ino, Value.int IntKind.i64 kd, Value.int IntKind.i64 lk, Value.int IntKind.i64 sz, Value.slice ba bn bc, strV tx, Value.slice na nn nc, Value.int IntKind.u64 ↑k2]) (RowL.cells rc365 rfl) (by rfl) (by rfl))) rfl rfl rfl ?_
      have lc960 := rq.lt
      have lc961 := rc365.lt
      (refine LL.call (R.call rfl rfl rfl) rfl rfl rfl (rtake_over path many key why a2 n2 c2 _ er) ?_; rintro e Wc959 ⟨rfl, bc956⟩; refine ⟨_, rfl, ?_⟩)
      have zbc956 := bc956.size
      replace bc362 := bc362.trans (bc956.mono bc362.size)
      replace q := q.trans (bc956.mono q.size)
      replace hB := hB.up bc956
      replace m1 := m1.up bc956
      replace hS := hS.up bc956
      replace rq := rq.up bc956
      replace rc365 := rc365.up bc956
      refine LL.val (R.move rfl rfl) rfl rfl rfl ?_
      refine LL.val (R.extract rfl rfl rfl) rfl rfl rfl ?_
      refine LL.val (R.extract rfl rfl rfl) rfl rfl rfl ?_
      have lc1145 := rq.lt
      have lc1146 := rc365.lt
      refine LL.alloc ([Value.string { data := { toList := [] } }, Value.int IntKind.i64 0, Value.int IntKind.u64 0, Value.slice none 0 0, Value.bool false, Value.int IntKind.i64 0]) rfl rfl rfl rfl rfl ?_
      intro Wc1148 gc1149 egc1149 rc1150 zc1151 bc1147
      replace bc956 := bc956.trans (bc1147.mono bc956.size)
      replace bc362 := bc362.trans (bc1147.mono bc362.size)
      replace q := q.trans (bc1147.mono q.size)
      replace hB := hB.up bc1147
      replace m1 := m1.up bc1147
      replace hS := hS.up bc1147
      replace rq := rq.up bc1147
      replace rc365 := rc365.up bc1147
      refine LL.storeN (vs := [strV path, Value.int IntKind.i64 many, Value.int IntKind.u64 ↑key, Value.slice a2 n2 c2, Value.bool true, Value.int IntKind.i64 why]) rfl rfl rfl rfl rc1150 (by exact Nat.le_of_ble_eq_true rfl) (ones_of rfl) rfl rfl ?_
      intro Wc1203 rc1204 bc1202 zc1205
      have hlbc1202 := rc1150.lt
      replace rc1204 : RowL Wc1203 _ 33 [strV path, Value.int IntKind.i64 many, Value.int IntKind.u64 ↑key, Value.slice a2 n2 c2, Value.bool true, Value.int IntKind.i64 why] := rc1204
      clear rc1150
      replace bc1147 := bc1147.grown bc1202 bc1147.size (by rintro k ⟨⟩; omega)
      replace bc956 := bc956.grown bc1202 bc956.size (by rintro k ⟨⟩; omega)
      replace bc362 := bc362.grown bc1202 bc362.size (by rintro k ⟨⟩; omega)
      replace q := q.grown bc1202 q.size (by rintro k ⟨⟩; omega)
      replace hB := hB.gr bc1202 (by have := hB.lt; omega)
      replace m1 := m1.gr bc1202 (by have := m1.lt; omega)
      replace hS := hS.gr bc1202 (by have := hS.lt; omega)
      replace rq := rq.gr bc1202 (by have := rq.lt; omega)
      replace rc365 := rc365.gr bc1202 (by have := rc365.lt; omega)
      have rc1150 := rc1204
      clear rc1204
      refine LL.val (R.assign rfl rfl) rfl rfl rfl ?_
      refine LL.nilS ?_
      refine CC.seq ?_
      refine CC.region ?_
      refine LL.val (R.load rfl rfl (I.ldNc (vs := [strV path, Value.int IntKind.i64 many, Value.int IntKind.u64 ↑key, Value.slice a2 n2 c2, Value.bool true, Value.int IntKind.i64 why]) (RowL.cells rc1150 rfl) (by rfl) (by rfl))) rfl rfl rfl ?_
      refine LL.storeN (vs := [strV path, Value.int IntKind.i64 many, Value.int IntKind.u64 ↑key, Value.slice a2 n2 c2, Value.bool true, Value.int IntKind.i64 why]) rfl rfl rfl rfl rq (by exact Nat.le_of_ble_eq_true rfl) (ones_of rfl) rfl rfl ?_
      intro Wc1357 rc1358 bc1356 zc1359
      have hlbc1356 := rq.lt
      replace rc1358 : RowL Wc1357 _ 33 [strV path, Value.int IntKind.i64 many, Value.int IntKind.u64 ↑key, Value.slice a2 n2 c2, Value.bool true, Value.int IntKind.i64 why] := rc1358
      clear rq
      replace q := q.grown bc1356 q.size (by rintro k ⟨⟩; omega)
      replace hB := hB.gr bc1356 (by have := hB.lt; omega)
      replace m1 := m1.gr bc1356 (by have := m1.lt; omega)
      replace hS := hS.gr bc1356 (by have := hS.lt; omega)
      replace rc365 := rc365.gr bc1356 (by have := rc365.lt; omega)
      replace rc1150 := rc1150.gr bc1356 (by have := rc1150.lt; omega)
      have rq := rc1358
      clear rc1358
      refine LL.nilS ?_
      refine CC.seq ?_
      refine CC.region ?_
      refine LL.val (R.move rfl rfl) rfl rfl rfl ?_
      refine LL.val (R.field rfl rfl (I.fld rfl)) rfl rfl rfl ?_
      refine LL.val (R.load rfl rfl (I.ldNc (vs := [Value.int IntKind.i64 er, Value.int IntKind.i64 ino, Value.int IntKind.i64 kd, Value.int IntKind.i64 lk, Value.int IntKind.i64 sz, Value.slice ba bn bc, strV tx, Value.slice na nn nc, Value.int IntKind.u64 ↑k2]) (RowL.cells rc365 rfl) (by rfl) (by rfl))) rfl rfl rfl ?_
      have lc1524 := rc365.lt
      have lc1525 := rc1150.lt
      have lc1526 := rq.lt
      (refine LL.call (R.call rfl rfl rfl) rfl rfl rfl (Sm.take_over er hS) ?_; rintro e Wc1523 ⟨rfl, bc1520⟩; refine ⟨_, rfl, ?_⟩)
      have zbc1520 := bc1520.size
      replace q := q.trans (bc1520.mono q.size)
      replace hB := hB.up bc1520
      replace m1 := m1.up bc1520
      replace hS := hS.up bc1520
      replace rc365 := rc365.up bc1520
      replace rc1150 := rc1150.up bc1520
      replace rq := rq.up bc1520
      refine LL.call (R.call rfl rfl rfl) rfl rfl rfl (num28_any _ _) ?_
      rintro e W' ⟨rfl, rfl⟩
      refine ⟨_, rfl, ?_⟩
      refine LL.val (R.move rfl rfl) rfl rfl rfl ?_
      refine LL.val (R.neF rfl rfl rfl (by omega)) rfl rfl rfl ?_
      refine LL.nilS ?_
      refine CC.no rfl ?_
      refine CC.skip ?_
      refine EE.inN ?_
      refine EE.thenN ?_
      refine CC.seq ?_
      refine CC.region ?_
      refine LL.val (R.move rfl rfl) rfl rfl rfl ?_
      refine LL.val (R.load rfl rfl (I.ldNc (vs := [strV path, Value.int IntKind.i64 many, Value.int IntKind.u64 ↑key, Value.slice a2 n2 c2, Value.bool true, Value.int IntKind.i64 why]) (RowL.cells rq rfl) (by rfl) (by rfl))) rfl rfl rfl ?_
      have lc1814 := rc365.lt
      have lc1815 := rc1150.lt
      have lc1816 := rq.lt
      (refine LL.call (R.call rfl rfl rfl) rfl rfl rfl (Sm.same_any hS _ _ _ hB.r (by first | omega | (rw [List.length_append]; omega))) ?_; rintro e Wc1813 ⟨rfl, bc1810⟩; refine ⟨_, rfl, ?_⟩)
      have zbc1810 := bc1810.size
      replace bc1520 := bc1520.trans (bc1810.mono bc1520.size)
      replace q := q.trans (bc1810.mono q.size)
      replace hB := hB.up bc1810
      replace m1 := m1.up bc1810
      replace hS := hS.up bc1810
      replace rc365 := rc365.up bc1810
      replace rc1150 := rc1150.up bc1810
      replace rq := rq.up bc1810
      refine LL.val (R.not rfl rfl) rfl rfl rfl ?_
      refine LL.nilS ?_
      refine CC.no rfl ?_
      refine CC.skip ?_
      refine EE.inN ?_
      refine EE.thenN ?_
      refine CC.region ?_
      refine LL.val (R.move rfl rfl) rfl rfl rfl ?_
      refine LL.val (R.addNc rfl rfl rfl rfl (by omega)) rfl rfl rfl ?_
      refine LL.val (R.assign rfl rfl) rfl rfl rfl ?_
      refine LL.nil ?_
      exact EE.round (i + 1, g) ⟨rfl, rfl, rfl, rfl, trivial⟩ ⟨by show i + 1 ≤ N; omega, q, bo, key, ts, true, why, _, _, _, _, hS, by assumption, hB, by show _ ≤ 20 * (i + 1); first | omega | (rw [List.length_append]; omega), fun e => (by cases e), by show _ ≠ _; omega, by omega, by show _ ≤ _; omega, by omega, fun _ => ⟨by show _ ≠ _; omega, by omega, by omega⟩⟩ (by show N - (i + 1) < N - i; omega)
    | false =>
      obtain rfl : why = 0 := hwhy rfl
      by_cases hz : er ≠ 0 ∨ nn = 0
      · refine CC.seq ?_
        refine CC.seq ?_
        refine CC.region ?_
        refine LL.val (R.move rfl rfl) rfl rfl rfl ?_
        refine LL.val (R.move rfl rfl) rfl rfl rfl ?_
        refine LL.val (R.len rfl rfl rfl rfl) rfl rfl rfl ?_
        refine LL.val (R.ltT rfl rfl rfl (by omega)) rfl rfl rfl ?_
        refine LL.nilS ?_
        refine CC.yes rfl ?_
        refine CC.skip ?_
        refine EE.thenN ?_
        refine CC.seq ?_
        refine CC.block ?_
        refine CC.seq ?_
        refine CC.region ?_
        refine LL.val (R.move rfl rfl) rfl rfl rfl ?_
        refine LL.val (R.move rfl rfl) rfl rfl rfl ?_
        refine LL.val (R.index rfl rfl rfl (I.ixS rfl (by omega))) rfl rfl rfl ?_
        refine LL.val (R.load rfl rfl (I.ldM (by assumption) rfl rfl)) rfl rfl rfl ?_
        have ld343 := rq.lt
        refine LL.alloc ([Value.int IntKind.i64 0, Value.int IntKind.i64 0, Value.int IntKind.i64 0, Value.int IntKind.i64 0, Value.int IntKind.i64 0, Value.int IntKind.i64 0, Value.slice none 0 0, Value.string { data := { toList := [] } }, Value.slice none 0 0, Value.int IntKind.u64 0, Value.int IntKind.u64 0]) rfl rfl rfl rfl rfl ?_
        intro Wd345 gd346 egd346 rd347 zd348 bd344
        replace q := q.trans (bd344.mono q.size)
        replace hB := hB.up bd344
        replace m1 := m1.up bd344
        replace hS := hS.up bd344
        replace rq := rq.up bd344
        refine LL.storeN (vs := [Value.int IntKind.i64 0, Value.int IntKind.i64 er, Value.int IntKind.i64 ino, Value.int IntKind.i64 kd, Value.int IntKind.i64 lk, Value.int IntKind.i64 sz, Value.slice ba bn bc, strV tx, Value.slice na nn nc, Value.int IntKind.u64 ↑k2, Value.int IntKind.u64 ↑xkey]) rfl rfl rfl rfl rd347 (by exact Nat.le_of_ble_eq_true rfl) (ones_of rfl) rfl rfl ?_
        intro Wd391 rd392 bd390 zd393
        have hlbd390 := rd347.lt
        replace rd392 : RowL Wd391 _ 40 [Value.int IntKind.i64 0, Value.int IntKind.i64 er, Value.int IntKind.i64 ino, Value.int IntKind.i64 kd, Value.int IntKind.i64 lk, Value.int IntKind.i64 sz, Value.slice ba bn bc, strV tx, Value.slice na nn nc, Value.int IntKind.u64 ↑k2, Value.int IntKind.u64 ↑xkey] := rd392
        clear rd347
        replace bd344 := bd344.grown bd390 bd344.size (by rintro k ⟨⟩; omega)
        replace q := q.grown bd390 q.size (by rintro k ⟨⟩; omega)
        replace hB := hB.gr bd390 (by have := hB.lt; omega)
        replace m1 := m1.gr bd390 (by have := m1.lt; omega)
        replace hS := hS.gr bd390 (by have := hS.lt; omega)
        replace rq := rq.gr bd390 (by have := rq.lt; omega)
        have rd347 := rd392
        clear rd392
        refine LL.nilS ?_
        refine CC.seq ?_
        refine CC.seq ?_
        refine CC.region ?_
        refine LL.val (R.field rfl rfl (I.fld rfl)) rfl rfl rfl ?_
        refine LL.val (R.field rfl rfl (I.fld rfl)) rfl rfl rfl ?_
        refine LL.val (R.load rfl rfl (I.ld1 rfl (RowL.cell rd347 rfl))) rfl rfl rfl ?_
        refine LL.val (R.len rfl rfl rfl rfl) rfl rfl rfl ?_
        refine LL.val (R.gtF rfl rfl rfl (by omega)) rfl rfl rfl ?_
        refine LL.nilS ?_
        refine CC.no rfl ?_
        refine CC.skip ?_
        refine EE.thenN ?_
        refine CC.seq ?_
        refine CC.seq ?_
        refine CC.region ?_
        refine LL.val (R.field rfl rfl (I.fld rfl)) rfl rfl rfl ?_
        refine LL.val (R.load rfl rfl (I.ld1 rfl (RowL.cell rd347 rfl))) rfl rfl rfl ?_
        refine LL.nilS ?_
        refine CC.block ?_
        refine CC.seq ?_
        refine CC.region ?_
        refine LL.val (R.eqT rfl rfl rfl (by omega)) rfl rfl rfl ?_
        refine LL.val (R.assign rfl rfl) rfl rfl rfl ?_
        refine LL.nilS ?_
        refine CC.yes rfl ?_
        refine CC.seq ?_
        refine CC.region ?_
        refine LL.val (R.load rfl rfl (I.ldNc (vs := [strV path, Value.int IntKind.i64 many, Value.int IntKind.u64 ↑key, Value.slice a2 n2 c2, Value.bool false, Value.int IntKind.i64 0]) (RowL.cells rq rfl) (by rfl) (by rfl))) rfl rfl rfl ?_
        refine LL.val (R.field rfl rfl (I.fld rfl)) rfl rfl rfl ?_
        refine LL.val (R.load rfl rfl (I.ldNc (vs := [Value.int IntKind.i64 er, Value.int IntKind.i64 ino, Value.int IntKind.i64 kd, Value.int IntKind.i64 lk, Value.int IntKind.i64 sz, Value.slice ba bn bc, strV tx, Value.slice na nn nc, Value.int IntKind.u64 ↑k2]) (RowL.cells rd347 rfl) (by rfl) (by rfl))) rfl rfl rfl ?_
        have ld890 := rq.lt
        have ld891 := rd347.lt
        (refine LL.call (R.call rfl rfl rfl) rfl rfl rfl (rtake_end path many key 0 a2 n2 c2 _ er hz) ?_; rintro e Wd889 ⟨rfl, bd886⟩; refine ⟨_, rfl, ?_⟩)
        have zbd886 := bd886.size
        replace bd344 := bd344.trans (bd886.mono bd344.size)
        replace q := q.trans (bd886.mono q.size)
        replace hB := hB.up bd886
        replace m1 := m1.up bd886
        replace hS := hS.up bd886
        replace rq := rq.up bd886
        replace rd347 := rd347.up bd886
        refine LL.val (R.move rfl rfl) rfl rfl rfl ?_
        refine LL.val (R.extract rfl rfl rfl) rfl rfl rfl ?_
        refine LL.val (R.extract rfl rfl rfl) rfl rfl rfl ?_
        have ld1059 := rq.lt
        have ld1060 := rd347.lt
        refine LL.alloc ([Value.string { data := { toList := [] } }, Value.int IntKind.i64 0, Value.int IntKind.u64 0, Value.slice none 0 0, Value.bool false, Value.int IntKind.i64 0]) rfl rfl rfl rfl rfl ?_
        intro Wd1062 gd1063 egd1063 rd1064 zd1065 bd1061
        replace bd886 := bd886.trans (bd1061.mono bd886.size)
        replace bd344 := bd344.trans (bd1061.mono bd344.size)
        replace q := q.trans (bd1061.mono q.size)
        replace hB := hB.up bd1061
        replace m1 := m1.up bd1061
        replace hS := hS.up bd1061
        replace rq := rq.up bd1061
        replace rd347 := rd347.up bd1061
        refine LL.storeN (vs := [strV path, Value.int IntKind.i64 many, Value.int IntKind.u64 ↑key, Value.slice a2 n2 c2, Value.bool true, Value.int IntKind.i64 er]) rfl rfl rfl rfl rd1064 (by exact Nat.le_of_ble_eq_true rfl) (ones_of rfl) rfl rfl ?_
        intro Wd1111 rd1112 bd1110 zd1113
        have hlbd1110 := rd1064.lt
        replace rd1112 : RowL Wd1111 _ 33 [strV path, Value.int IntKind.i64 many, Value.int IntKind.u64 ↑key, Value.slice a2 n2 c2, Value.bool true, Value.int IntKind.i64 er] := rd1112
        clear rd1064
        replace bd1061 := bd1061.grown bd1110 bd1061.size (by rintro k ⟨⟩; omega)
        replace bd886 := bd886.grown bd1110 bd886.size (by rintro k ⟨⟩; omega)
        replace bd344 := bd344.grown bd1110 bd344.size (by rintro k ⟨⟩; omega)
        replace q := q.grown bd1110 q.size (by rintro k ⟨⟩; omega)
        replace hB := hB.gr bd1110 (by have := hB.lt; omega)
        replace m1 := m1.gr bd1110 (by have := m1.lt; omega)
        replace hS := hS.gr bd1110 (by have := hS.lt; omega)
        replace rq := rq.gr bd1110 (by have := rq.lt; omega)
        replace rd347 := rd347.gr bd1110 (by have := rd347.lt; omega)
        have rd1064 := rd1112
        clear rd1112
        refine LL.val (R.assign rfl rfl) rfl rfl rfl ?_
        refine LL.nilS ?_
        refine CC.seq ?_
        refine CC.region ?_
        refine LL.val (R.load rfl rfl (I.ldNc (vs := [strV path, Value.int IntKind.i64 many, Value.int IntKind.u64 ↑key, Value.slice a2 n2 c2, Value.bool true, Value.int IntKind.i64 er]) (RowL.cells rd1064 rfl) (by rfl) (by rfl))) rfl rfl rfl ?_
        refine LL.storeN (vs := [strV path, Value.int IntKind.i64 many, Value.int IntKind.u64 ↑key, Value.slice a2 n2 c2, Value.bool true, Value.int IntKind.i64 er]) rfl rfl rfl rfl rq (by exact Nat.le_of_ble_eq_true rfl) (ones_of rfl) rfl rfl ?_
        intro Wd1247 rd1248 bd1246 zd1249
        have hlbd1246 := rq.lt
        replace rd1248 : RowL Wd1247 _ 33 [strV path, Value.int IntKind.i64 many, Value.int IntKind.u64 ↑key, Value.slice a2 n2 c2, Value.bool true, Value.int IntKind.i64 er] := rd1248
        clear rq
        replace q := q.grown bd1246 q.size (by rintro k ⟨⟩; omega)
        replace hB := hB.gr bd1246 (by have := hB.lt; omega)
        replace m1 := m1.gr bd1246 (by have := m1.lt; omega)
        replace hS := hS.gr bd1246 (by have := hS.lt; omega)
        replace rd347 := rd347.gr bd1246 (by have := rd347.lt; omega)
        replace rd1064 := rd1064.gr bd1246 (by have := rd1064.lt; omega)
        have rq := rd1248
        clear rd1248
        refine LL.nilS ?_
        refine CC.seq ?_
        refine CC.region ?_
        refine LL.val (R.move rfl rfl) rfl rfl rfl ?_
        refine LL.val (R.field rfl rfl (I.fld rfl)) rfl rfl rfl ?_
        refine LL.val (R.load rfl rfl (I.ldNc (vs := [Value.int IntKind.i64 er, Value.int IntKind.i64 ino, Value.int IntKind.i64 kd, Value.int IntKind.i64 lk, Value.int IntKind.i64 sz, Value.slice ba bn bc, strV tx, Value.slice na nn nc, Value.int IntKind.u64 ↑k2]) (RowL.cells rd347 rfl) (by rfl) (by rfl))) rfl rfl rfl ?_
        (refine LL.call (R.call rfl rfl rfl) rfl rfl rfl (Sm.take_end er hS hz) ?_; rintro e Wd1395 ⟨rfl, hN, td1394⟩; clear hS; have hS := hN; clear hN; refine ⟨_, rfl, ?_⟩)
        have ztd1394 := td1394.size
        replace q := td1394.onB q (fun j hj => ⟨by have := q.size; omega, by omega⟩)
        replace hB := hB.kept td1394 ⟨by omega, by omega⟩
        replace m1 := m1.kept td1394 ⟨by omega, by omega⟩
        replace rd347 := rd347.kept td1394 ⟨rd347.lt, by omega⟩
        replace rd1064 := rd1064.kept td1394 ⟨rd1064.lt, by omega⟩
        replace rq := rq.kept td1394 ⟨rq.lt, by omega⟩
        refine LL.call (R.call rfl rfl rfl) rfl rfl rfl (num28_any _ _) ?_
        rintro e W' ⟨rfl, rfl⟩
        refine ⟨_, rfl, ?_⟩
        refine LL.val (R.move rfl rfl) rfl rfl rfl ?_
        refine LL.val (R.neF rfl rfl rfl (by omega)) rfl rfl rfl ?_
        refine LL.nilS ?_
        refine CC.no rfl ?_
        refine CC.skip ?_
        refine EE.inN ?_
        refine EE.thenN ?_
        refine CC.seq ?_
        refine CC.region ?_
        refine LL.val (R.move rfl rfl) rfl rfl rfl ?_
        refine LL.val (R.load rfl rfl (I.ldNc (vs := [strV path, Value.int IntKind.i64 many, Value.int IntKind.u64 ↑key, Value.slice a2 n2 c2, Value.bool true, Value.int IntKind.i64 er]) (RowL.cells rq rfl) (by rfl) (by rfl))) rfl rfl rfl ?_
        have ld1647 := rd347.lt
        have ld1648 := rd1064.lt
        have ld1649 := rq.lt
        (refine LL.call (R.call rfl rfl rfl) rfl rfl rfl (Sm.same_any hS _ _ _ hB.r (by first | omega | (rw [List.length_append]; omega))) ?_; rintro e Wd1646 ⟨rfl, bd1643⟩; refine ⟨_, rfl, ?_⟩)
        have zbd1643 := bd1643.size
        replace hS := hS.up bd1643
        replace q := q.trans (bd1643.mono q.size)
        replace hB := hB.up bd1643
        replace m1 := m1.up bd1643
        replace rd347 := rd347.up bd1643
        replace rd1064 := rd1064.up bd1643
        replace rq := rq.up bd1643
        refine LL.val (R.not rfl rfl) rfl rfl rfl ?_
        refine LL.nilS ?_
        refine CC.no rfl ?_
        refine CC.skip ?_
        refine EE.inN ?_
        refine EE.thenN ?_
        refine CC.region ?_
        refine LL.val (R.move rfl rfl) rfl rfl rfl ?_
        refine LL.val (R.addNc rfl rfl rfl rfl (by omega)) rfl rfl rfl ?_
        refine LL.val (R.assign rfl rfl) rfl rfl rfl ?_
        refine LL.nil ?_
        exact EE.round (i + 1, g) ⟨rfl, rfl, rfl, rfl, trivial⟩ ⟨by show i + 1 ≤ N; omega, q, bo, key, ts, true, er, _, _, _, _, hS, by assumption, hB, by show _ ≤ 20 * (i + 1); first | omega | (rw [List.length_append]; omega), fun e => (by cases e), by show _ ≠ _; omega, by omega, by show _ ≤ _; omega, by omega, fun _ => ⟨by show _ ≠ _; omega, by omega, by omega⟩⟩ (by show N - (i + 1) < N - i; omega)
      · obtain rfl : er = 0 := Classical.byContradiction fun e => hz (.inl e)
        have hn0 : 0 < nn := Nat.pos_of_ne_zero fun e => hz (.inr e)
        clear hz
        refine CC.seq ?_
        refine CC.seq ?_
        refine CC.region ?_
        refine LL.val (R.move rfl rfl) rfl rfl rfl ?_
        refine LL.val (R.move rfl rfl) rfl rfl rfl ?_
        refine LL.val (R.len rfl rfl rfl rfl) rfl rfl rfl ?_
        refine LL.val (R.ltT rfl rfl rfl (by omega)) rfl rfl rfl ?_
        refine LL.nilS ?_
        refine CC.yes rfl ?_
        refine CC.skip ?_
        refine EE.thenN ?_
        refine CC.seq ?_
        refine CC.block ?_
        refine CC.seq ?_
        refine CC.region ?_
        refine LL.val (R.move rfl rfl) rfl rfl rfl ?_
        refine LL.val (R.move rfl rfl) rfl rfl rfl ?_
        refine LL.val (R.index rfl rfl rfl (I.ixS rfl (by omega))) rfl rfl rfl ?_
        refine LL.val (R.load rfl rfl (I.ldM (by assumption) rfl rfl)) rfl rfl rfl ?_
        have le343 := rq.lt
        refine LL.alloc ([Value.int IntKind.i64 0, Value.int IntKind.i64 0, Value.int IntKind.i64 0, Value.int IntKind.i64 0, Value.int IntKind.i64 0, Value.int IntKind.i64 0, Value.slice none 0 0, Value.string { data := { toList := [] } }, Value.slice none 0 0, Value.int IntKind.u64 0, Value.int IntKind.u64 0]) rfl rfl rfl rfl rfl ?_
        intro We345 ge346 ege346 re347 ze348 be344
        replace q := q.trans (be344.mono q.size)
        replace hB := hB.up be344
        replace hS := hS.up be344
        replace rq := rq.up be344
        replace m1 := m1.up be344
        refine LL.storeN (vs := [Value.int IntKind.i64 0, Value.int IntKind.i64 0, Value.int IntKind.i64 ino, Value.int IntKind.i64 kd, Value.int IntKind.i64 lk, Value.int IntKind.i64 sz, Value.slice ba bn bc, strV tx, Value.slice na nn nc, Value.int IntKind.u64 ↑k2, Value.int IntKind.u64 ↑xkey]) rfl rfl rfl rfl re347 (by exact Nat.le_of_ble_eq_true rfl) (ones_of rfl) rfl rfl ?_
        intro We391 re392 be390 ze393
        have hlbe390 := re347.lt
        replace re392 : RowL We391 _ 40 [Value.int IntKind.i64 0, Value.int IntKind.i64 0, Value.int IntKind.i64 ino, Value.int IntKind.i64 kd, Value.int IntKind.i64 lk, Value.int IntKind.i64 sz, Value.slice ba bn bc, strV tx, Value.slice na nn nc, Value.int IntKind.u64 ↑k2, Value.int IntKind.u64 ↑xkey] := re392
        clear re347
        replace be344 := be344.grown be390 be344.size (by rintro k ⟨⟩; omega)
        replace q := q.grown be390 q.size (by rintro k ⟨⟩; omega)
        replace hB := hB.gr be390 (by have := hB.lt; omega)
        replace hS := hS.gr be390 (by have := hS.lt; omega)
        replace rq := rq.gr be390 (by have := rq.lt; omega)
        replace m1 := m1.gr be390 (by have := m1.lt; omega)
        have re347 := re392
        clear re392
        refine LL.nilS ?_
        refine CC.seq ?_
        refine CC.seq ?_
        refine CC.region ?_
        refine LL.val (R.field rfl rfl (I.fld rfl)) rfl rfl rfl ?_
        refine LL.val (R.field rfl rfl (I.fld rfl)) rfl rfl rfl ?_
        refine LL.val (R.load rfl rfl (I.ld1 rfl (RowL.cell re347 rfl))) rfl rfl rfl ?_
        refine LL.val (R.len rfl rfl rfl rfl) rfl rfl rfl ?_
        refine LL.val (R.gtF rfl rfl rfl (by omega)) rfl rfl rfl ?_
        refine LL.nilS ?_
        refine CC.no rfl ?_
        refine CC.skip ?_
        refine EE.thenN ?_
        refine CC.seq ?_
        refine CC.seq ?_
        refine CC.region ?_
        refine LL.val (R.field rfl rfl (I.fld rfl)) rfl rfl rfl ?_
        refine LL.val (R.load rfl rfl (I.ld1 rfl (RowL.cell re347 rfl))) rfl rfl rfl ?_
        refine LL.nilS ?_
        refine CC.block ?_
        refine CC.seq ?_
        refine CC.region ?_
        refine LL.val (R.eqT rfl rfl rfl (by omega)) rfl rfl rfl ?_
        refine LL.val (R.assign rfl rfl) rfl rfl rfl ?_
        refine LL.nilS ?_
        refine CC.yes rfl ?_
        refine CC.seq ?_
        refine CC.region ?_
        refine LL.val (R.load rfl rfl (I.ldNc (vs := [strV path, Value.int IntKind.i64 many, Value.int IntKind.u64 ↑key, Value.slice a2 n2 c2, Value.bool false, Value.int IntKind.i64 0]) (RowL.cells rq rfl) (by rfl) (by rfl))) rfl rfl rfl ?_
        refine LL.val (R.field rfl rfl (I.fld rfl)) rfl rfl rfl ?_
        refine LL.val (R.load rfl rfl (I.ldNc (vs := [Value.int IntKind.i64 0, Value.int IntKind.i64 ino, Value.int IntKind.i64 kd, Value.int IntKind.i64 lk, Value.int IntKind.i64 sz, Value.slice ba bn bc, strV tx, Value.slice na nn nc, Value.int IntKind.u64 ↑k2]) (RowL.cells re347 rfl) (by rfl) (by rfl))) rfl rfl rfl ?_
        have le890 := rq.lt
        have le891 := re347.lt
        (refine LL.call (R.call rfl rfl rfl) rfl rfl rfl (rtake_more path many key 0 a2 n2 c2 _ ts us hn0 (by omega) hn2 (fun X b => hB.r.up b) hnn (fun X b => (hUF _ q).up b) (by omega) (by omega)) ?_; rintro e We889 ⟨a3, c3, b3, rfl, hB2, hb3, be886⟩; refine ⟨_, rfl, ?_⟩; clear hB lB; have hB := hB2; clear hB2; have lB := hB.lt)
        have zbe886 := be886.size
        replace be344 := be344.trans (be886.mono be344.size)
        replace q := q.trans (be886.mono q.size)
        replace hS := hS.up be886
        replace rq := rq.up be886
        replace m1 := m1.up be886
        replace re347 := re347.up be886
        refine LL.val (R.move rfl rfl) rfl rfl rfl ?_
        refine LL.val (R.extract rfl rfl rfl) rfl rfl rfl ?_
        refine LL.val (R.extract rfl rfl rfl) rfl rfl rfl ?_
        have le1059 := rq.lt
        have le1060 := re347.lt
        refine LL.alloc ([Value.string { data := { toList := [] } }, Value.int IntKind.i64 0, Value.int IntKind.u64 0, Value.slice none 0 0, Value.bool false, Value.int IntKind.i64 0]) rfl rfl rfl rfl rfl ?_
        intro We1062 ge1063 ege1063 re1064 ze1065 be1061
        replace be886 := be886.trans (be1061.mono be886.size)
        replace hB := hB.up be1061
        replace be344 := be344.trans (be1061.mono be344.size)
        replace q := q.trans (be1061.mono q.size)
        replace hS := hS.up be1061
        replace rq := rq.up be1061
        replace m1 := m1.up be1061
        replace re347 := re347.up be1061
        refine LL.storeN (vs := [strV path, Value.int IntKind.i64 many, Value.int IntKind.u64 ↑k2, Value.slice a3 (n2 + nn) c3, Value.bool false, Value.int IntKind.i64 0]) rfl rfl rfl rfl re1064 (by exact Nat.le_of_ble_eq_true rfl) (ones_of rfl) rfl rfl ?_
        intro We1111 re1112 be1110 ze1113
        have hlbe1110 := re1064.lt
        replace re1112 : RowL We1111 _ 33 [strV path, Value.int IntKind.i64 many, Value.int IntKind.u64 ↑k2, Value.slice a3 (n2 + nn) c3, Value.bool false, Value.int IntKind.i64 0] := re1112
        clear re1064
        replace be1061 := be1061.grown be1110 be1061.size (by rintro k ⟨⟩; omega)
        replace be886 := be886.grown be1110 be886.size (by rintro k ⟨⟩; omega)
        replace hB := hB.gr be1110 (by have := hB.lt; omega)
        replace be344 := be344.grown be1110 be344.size (by rintro k ⟨⟩; omega)
        replace q := q.grown be1110 q.size (by rintro k ⟨⟩; omega)
        replace hS := hS.gr be1110 (by have := hS.lt; omega)
        replace rq := rq.gr be1110 (by have := rq.lt; omega)
        replace m1 := m1.gr be1110 (by have := m1.lt; omega)
        replace re347 := re347.gr be1110 (by have := re347.lt; omega)
        have re1064 := re1112
        clear re1112
        refine LL.val (R.assign rfl rfl) rfl rfl rfl ?_
        refine LL.nilS ?_
        refine CC.seq ?_
        refine CC.region ?_
        refine LL.val (R.load rfl rfl (I.ldNc (vs := [strV path, Value.int IntKind.i64 many, Value.int IntKind.u64 ↑k2, Value.slice a3 (n2 + nn) c3, Value.bool false, Value.int IntKind.i64 0]) (RowL.cells re1064 rfl) (by rfl) (by rfl))) rfl rfl rfl ?_
        refine LL.storeN (vs := [strV path, Value.int IntKind.i64 many, Value.int IntKind.u64 ↑k2, Value.slice a3 (n2 + nn) c3, Value.bool false, Value.int IntKind.i64 0]) rfl rfl rfl rfl rq (by exact Nat.le_of_ble_eq_true rfl) (ones_of rfl) rfl rfl ?_
        intro We1247 re1248 be1246 ze1249
        have hlbe1246 := rq.lt
        replace re1248 : RowL We1247 _ 33 [strV path, Value.int IntKind.i64 many, Value.int IntKind.u64 ↑k2, Value.slice a3 (n2 + nn) c3, Value.bool false, Value.int IntKind.i64 0] := re1248
        clear rq
        replace hB := hB.gr be1246 (by have := hB.lt; omega)
        replace q := q.grown be1246 q.size (by rintro k ⟨⟩; omega)
        replace hS := hS.gr be1246 (by have := hS.lt; omega)
        replace m1 := m1.gr be1246 (by have := m1.lt; omega)
        replace re347 := re347.gr be1246 (by have := re347.lt; omega)
        replace re1064 := re1064.gr be1246 (by have := re1064.lt; omega)
        have rq := re1248
        clear re1248
        refine LL.nilS ?_
        refine CC.seq ?_
        refine CC.region ?_
        refine LL.val (R.move rfl rfl) rfl rfl rfl ?_
        refine LL.val (R.field rfl rfl (I.fld rfl)) rfl rfl rfl ?_
        refine LL.val (R.load rfl rfl (I.ldNc (vs := [Value.int IntKind.i64 0, Value.int IntKind.i64 ino, Value.int IntKind.i64 kd, Value.int IntKind.i64 lk, Value.int IntKind.i64 sz, Value.slice ba bn bc, strV tx, Value.slice na nn nc, Value.int IntKind.u64 ↑k2]) (RowL.cells re347 rfl) (by rfl) (by rfl))) rfl rfl rfl ?_
        (refine LL.call (R.call rfl rfl rfl) rfl rfl rfl (Sm.take_more hS hn0 us (hUF _ q) (fun x e => (by have := hna x hn0 e; omega)) (by omega) (by omega)) ?_; rintro e We1395 ⟨rfl, bo2, hN, hbo2, te1394⟩; clear hS; have hS := hN; clear hN; refine ⟨_, rfl, ?_⟩)
        have zte1394 := te1394.size
        replace hB := hB.kept te1394 ⟨by omega, by omega⟩
        replace q := te1394.onB q (fun j hj => ⟨by have := q.size; omega, by omega⟩)
        replace m1 := m1.kept te1394 ⟨by omega, by omega⟩
        replace re347 := re347.kept te1394 ⟨re347.lt, by omega⟩
        replace re1064 := re1064.kept te1394 ⟨re1064.lt, by omega⟩
        replace rq := rq.kept te1394 ⟨rq.lt, by omega⟩
        refine LL.call (R.call rfl rfl rfl) rfl rfl rfl (num28_any _ _) ?_
        rintro e W' ⟨rfl, rfl⟩
        refine ⟨_, rfl, ?_⟩
        refine LL.val (R.move rfl rfl) rfl rfl rfl ?_
        refine LL.val (R.neF rfl rfl rfl (by omega)) rfl rfl rfl ?_
        refine LL.nilS ?_
        refine CC.no rfl ?_
        refine CC.skip ?_
        refine EE.inN ?_
        refine EE.thenN ?_
        refine CC.seq ?_
        refine CC.region ?_
        refine LL.val (R.move rfl rfl) rfl rfl rfl ?_
        refine LL.val (R.load rfl rfl (I.ldNc (vs := [strV path, Value.int IntKind.i64 many, Value.int IntKind.u64 ↑k2, Value.slice a3 (n2 + nn) c3, Value.bool false, Value.int IntKind.i64 0]) (RowL.cells rq rfl) (by rfl) (by rfl))) rfl rfl rfl ?_
        have le1647 := re347.lt
        have le1648 := re1064.lt
        have le1649 := rq.lt
        (refine LL.call (R.call rfl rfl rfl) rfl rfl rfl (Sm.same_any hS _ _ _ hB.r (by first | omega | (rw [List.length_append]; omega))) ?_; rintro e We1646 ⟨rfl, be1643⟩; refine ⟨_, rfl, ?_⟩)
        have zbe1643 := be1643.size
        replace hS := hS.up be1643
        replace hB := hB.up be1643
        replace q := q.trans (be1643.mono q.size)
        replace m1 := m1.up be1643
        replace re347 := re347.up be1643
        replace re1064 := re1064.up be1643
        replace rq := rq.up be1643
        refine LL.val (R.not rfl rfl) rfl rfl rfl ?_
        refine LL.nilS ?_
        refine CC.no rfl ?_
        refine CC.skip ?_
        refine EE.inN ?_
        refine EE.thenN ?_
        refine CC.region ?_
        refine LL.val (R.move rfl rfl) rfl rfl rfl ?_
        refine LL.val (R.addNc rfl rfl rfl rfl (by omega)) rfl rfl rfl ?_
        refine LL.val (R.assign rfl rfl) rfl rfl rfl ?_
        refine LL.nil ?_
        exact EE.round (i + 1, g) ⟨rfl, rfl, rfl, rfl, trivial⟩ ⟨by show i + 1 ≤ N; omega, q, bo2, k2, ts ++ us, false, 0, _, _, _, _, hS, by assumption, hB, by show _ ≤ 20 * (i + 1); first | omega | (rw [List.length_append]; omega), fun _ => rfl, by show _ ≠ _; omega, by omega, by show _ ≤ _; omega, by omega, fun _ => ⟨by show _ ≠ _; omega, by omega, by omega⟩⟩ (by show N - (i + 1) < N - i; omega)
  by_cases w1 : what = 1
  · subst w1
    refine CC.seq ?_
    refine CC.seq ?_
    refine CC.region ?_
    refine LL.val (R.move rfl rfl) rfl rfl rfl ?_
    refine LL.val (R.move rfl rfl) rfl rfl rfl ?_
    refine LL.val (R.len rfl rfl rfl rfl) rfl rfl rfl ?_
    refine LL.val (R.ltT rfl rfl rfl (by omega)) rfl rfl rfl ?_
    refine LL.nilS ?_
    refine CC.yes rfl ?_
    refine CC.skip ?_
    refine EE.thenN ?_
    refine CC.seq ?_
    refine CC.block ?_
    refine CC.seq ?_
    refine CC.region ?_
    refine LL.val (R.move rfl rfl) rfl rfl rfl ?_
    refine LL.val (R.move rfl rfl) rfl rfl rfl ?_
    refine LL.val (R.index rfl rfl rfl (I.ixS rfl (by omega))) rfl rfl rfl ?_
    refine LL.val (R.load rfl rfl (I.ldM (by assumption) rfl rfl)) rfl rfl rfl ?_
    have lf343 := rq.lt
    refine LL.alloc ([Value.int IntKind.i64 0, Value.int IntKind.i64 0, Value.int IntKind.i64 0, Value.int IntKind.i64 0, Value.int IntKind.i64 0, Value.int IntKind.i64 0, Value.slice none 0 0, Value.string { data := { toList := [] } }, Value.slice none 0 0, Value.int IntKind.u64 0, Value.int IntKind.u64 0]) rfl rfl rfl rfl rfl ?_
    intro Wf345 gf346 egf346 rf347 zf348 bf344
    replace q := q.trans (bf344.mono q.size)
    replace hS := hS.up bf344
    replace rq := rq.up bf344
    replace hB := hB.up bf344
    replace m1 := m1.up bf344
    refine LL.storeN (vs := [Value.int IntKind.i64 1, Value.int IntKind.i64 er, Value.int IntKind.i64 ino, Value.int IntKind.i64 kd, Value.int IntKind.i64 lk, Value.int IntKind.i64 sz, Value.slice ba bn bc, strV tx, Value.slice na nn nc, Value.int IntKind.u64 ↑k2, Value.int IntKind.u64 ↑xkey]) rfl rfl rfl rfl rf347 (by exact Nat.le_of_ble_eq_true rfl) (ones_of rfl) rfl rfl ?_
    intro Wf391 rf392 bf390 zf393
    have hlbf390 := rf347.lt
    replace rf392 : RowL Wf391 _ 40 [Value.int IntKind.i64 1, Value.int IntKind.i64 er, Value.int IntKind.i64 ino, Value.int IntKind.i64 kd, Value.int IntKind.i64 lk, Value.int IntKind.i64 sz, Value.slice ba bn bc, strV tx, Value.slice na nn nc, Value.int IntKind.u64 ↑k2, Value.int IntKind.u64 ↑xkey] := rf392
    clear rf347
    replace bf344 := bf344.grown bf390 bf344.size (by rintro k ⟨⟩; omega)
    replace q := q.grown bf390 q.size (by rintro k ⟨⟩; omega)
    replace hS := hS.gr bf390 (by have := hS.lt; omega)
    replace rq := rq.gr bf390 (by have := rq.lt; omega)
    replace hB := hB.gr bf390 (by have := hB.lt; omega)
    replace m1 := m1.gr bf390 (by have := m1.lt; omega)
    have rf347 := rf392
    clear rf392
    refine LL.nilS ?_
    refine CC.seq ?_
    refine CC.seq ?_
    refine CC.region ?_
    refine LL.val (R.field rfl rfl (I.fld rfl)) rfl rfl rfl ?_
    refine LL.val (R.field rfl rfl (I.fld rfl)) rfl rfl rfl ?_
    refine LL.val (R.load rfl rfl (I.ld1 rfl (RowL.cell rf347 rfl))) rfl rfl rfl ?_
    refine LL.val (R.len rfl rfl rfl rfl) rfl rfl rfl ?_
    refine LL.val (R.gtF rfl rfl rfl (by omega)) rfl rfl rfl ?_
    refine LL.nilS ?_
    refine CC.no rfl ?_
    refine CC.skip ?_
    refine EE.thenN ?_
    refine CC.seq ?_
    refine CC.seq ?_
    refine CC.region ?_
    refine LL.val (R.field rfl rfl (I.fld rfl)) rfl rfl rfl ?_
    refine LL.val (R.load rfl rfl (I.ld1 rfl (RowL.cell rf347 rfl))) rfl rfl rfl ?_
    refine LL.nilS ?_
    refine CC.block ?_
    refine CC.seq ?_
    refine CC.region ?_
    refine LL.val (R.eqF rfl rfl rfl (by omega)) rfl rfl rfl ?_
    refine LL.val (R.assign rfl rfl) rfl rfl rfl ?_
    refine LL.nilS ?_
    refine CC.no rfl ?_
    refine CC.seq ?_
    refine CC.region ?_
    refine LL.val (R.eqT rfl rfl rfl (by omega)) rfl rfl rfl ?_
    refine LL.val (R.assign rfl rfl) rfl rfl rfl ?_
    refine LL.nilS ?_
    refine CC.yes rfl ?_
    refine CC.seq ?_
    refine CC.region ?_
    refine LL.val (R.load rfl rfl (I.ldNc (vs := [strV path, Value.int IntKind.i64 many, Value.int IntKind.u64 ↑key, Value.slice a2 n2 c2, Value.bool over, Value.int IntKind.i64 why]) (RowL.cells rq rfl) (by rfl) (by rfl))) rfl rfl rfl ?_
    refine LL.val (R.field rfl rfl (I.fld rfl)) rfl rfl rfl ?_
    refine LL.val (R.load rfl rfl (I.ld1 rfl (RowL.cell rf347 rfl))) rfl rfl rfl ?_
    have lf972 := rq.lt
    have lf973 := rf347.lt
    (refine LL.call (R.call rfl rfl rfl) rfl rfl rfl (rseek_any path many key over why a2 n2 c2 _ xkey) ?_; rintro e Wf971 ⟨rfl, bf968⟩; refine ⟨_, rfl, ?_⟩)
    have zbf968 := bf968.size
    replace bf344 := bf344.trans (bf968.mono bf344.size)
    replace q := q.trans (bf968.mono q.size)
    replace hS := hS.up bf968
    replace rq := rq.up bf968
    replace hB := hB.up bf968
    replace m1 := m1.up bf968
    replace rf347 := rf347.up bf968
    refine LL.storeN (vs := [strV path, Value.int IntKind.i64 many, Value.int IntKind.u64 ↑xkey, Value.slice a2 n2 c2, Value.bool false, Value.int IntKind.i64 0]) rfl rfl rfl rfl rq (by exact Nat.le_of_ble_eq_true rfl) (ones_of rfl) rfl rfl ?_
    intro Wf1019 rf1020 bf1018 zf1021
    have hlbf1018 := rq.lt
    replace rf1020 : RowL Wf1019 _ 33 [strV path, Value.int IntKind.i64 many, Value.int IntKind.u64 ↑xkey, Value.slice a2 n2 c2, Value.bool false, Value.int IntKind.i64 0] := rf1020
    clear rq
    replace q := q.grown bf1018 q.size (by rintro k ⟨⟩; omega)
    replace hS := hS.gr bf1018 (by have := hS.lt; omega)
    replace hB := hB.gr bf1018 (by have := hB.lt; omega)
    replace m1 := m1.gr bf1018 (by have := m1.lt; omega)
    replace rf347 := rf347.gr bf1018 (by have := rf347.lt; omega)
    have rq := rf1020
    clear rf1020
    refine LL.nilS ?_
    refine CC.seq ?_
    refine CC.region ?_
    refine LL.val (R.move rfl rfl) rfl rfl rfl ?_
    refine LL.val (R.field rfl rfl (I.fld rfl)) rfl rfl rfl ?_
    refine LL.val (R.load rfl rfl (I.ld1 rfl (RowL.cell rf347 rfl))) rfl rfl rfl ?_
    (refine LL.call (R.call rfl rfl rfl) rfl rfl rfl (Sm.seek_any hS xkey) ?_; rintro e Wf1157 ⟨rfl, hN, tf1156⟩; clear hS; have hS := hN; clear hN; refine ⟨_, rfl, ?_⟩)
    have ztf1156 := tf1156.size
    replace q := tf1156.onB q (fun j hj => ⟨by have := q.size; omega, by omega⟩)
    replace hB := hB.kept tf1156 ⟨by omega, by omega⟩
    replace m1 := m1.kept tf1156 ⟨by omega, by omega⟩
    replace rf347 := rf347.kept tf1156 ⟨rf347.lt, by omega⟩
    replace rq := rq.kept tf1156 ⟨rq.lt, by omega⟩
    refine LL.call (R.call rfl rfl rfl) rfl rfl rfl (num28_any _ _) ?_
    rintro e W' ⟨rfl, rfl⟩
    refine ⟨_, rfl, ?_⟩
    refine LL.val (R.neF rfl rfl rfl (by omega)) rfl rfl rfl ?_
    refine LL.nilS ?_
    refine CC.no rfl ?_
    refine CC.skip ?_
    refine EE.inN ?_
    refine EE.thenN ?_
    refine CC.seq ?_
    refine CC.region ?_
    refine LL.val (R.move rfl rfl) rfl rfl rfl ?_
    refine LL.val (R.load rfl rfl (I.ldNc (vs := [strV path, Value.int IntKind.i64 many, Value.int IntKind.u64 ↑xkey, Value.slice a2 n2 c2, Value.bool false, Value.int IntKind.i64 0]) (RowL.cells rq rfl) (by rfl) (by rfl))) rfl rfl rfl ?_
    have lf1352 := rf347.lt
    have lf1353 := rq.lt
    (refine LL.call (R.call rfl rfl rfl) rfl rfl rfl (Sm.same_any hS _ _ _ hB.r (by first | omega | (rw [List.length_append]; omega))) ?_; rintro e Wf1351 ⟨rfl, bf1348⟩; refine ⟨_, rfl, ?_⟩)
    have zbf1348 := bf1348.size
    replace hS := hS.up bf1348
    replace q := q.trans (bf1348.mono q.size)
    replace hB := hB.up bf1348
    replace m1 := m1.up bf1348
    replace rf347 := rf347.up bf1348
    replace rq := rq.up bf1348
    refine LL.val (R.not rfl rfl) rfl rfl rfl ?_
    refine LL.nilS ?_
    refine CC.no rfl ?_
    refine CC.skip ?_
    refine EE.inN ?_
    refine EE.thenN ?_
    refine CC.region ?_
    refine LL.val (R.move rfl rfl) rfl rfl rfl ?_
    refine LL.val (R.addNc rfl rfl rfl rfl (by omega)) rfl rfl rfl ?_
    refine LL.val (R.assign rfl rfl) rfl rfl rfl ?_
    refine LL.nil ?_
    exact EE.round (i + 1, g) ⟨rfl, rfl, rfl, rfl, trivial⟩ ⟨by show i + 1 ≤ N; omega, q, bo, xkey, ts, false, 0, _, _, _, _, hS, by assumption, hB, by show _ ≤ 20 * (i + 1); first | omega | (rw [List.length_append]; omega), fun _ => rfl, by show _ ≠ _; omega, by omega, by show _ ≤ _; omega, by omega, fun _ => ⟨by show _ ≠ _; omega, by omega, by omega⟩⟩ (by show N - (i + 1) < N - i; omega)
  by_cases w2 : what = 2
  · subst w2
    refine CC.seq ?_
    refine CC.seq ?_
    refine CC.region ?_
    refine LL.val (R.move rfl rfl) rfl rfl rfl ?_
    refine LL.val (R.move rfl rfl) rfl rfl rfl ?_
    refine LL.val (R.len rfl rfl rfl rfl) rfl rfl rfl ?_
    refine LL.val (R.ltT rfl rfl rfl (by omega)) rfl rfl rfl ?_
    refine LL.nilS ?_
    refine CC.yes rfl ?_
    refine CC.skip ?_
    refine EE.thenN ?_
    refine CC.seq ?_
    refine CC.block ?_
    refine CC.seq ?_
    refine CC.region ?_
    refine LL.val (R.move rfl rfl) rfl rfl rfl ?_
    refine LL.val (R.move rfl rfl) rfl rfl rfl ?_
    refine LL.val (R.index rfl rfl rfl (I.ixS rfl (by omega))) rfl rfl rfl ?_
    refine LL.val (R.load rfl rfl (I.ldM (by assumption) rfl rfl)) rfl rfl rfl ?_
    have lg343 := rq.lt
    refine LL.alloc ([Value.int IntKind.i64 0, Value.int IntKind.i64 0, Value.int IntKind.i64 0, Value.int IntKind.i64 0, Value.int IntKind.i64 0, Value.int IntKind.i64 0, Value.slice none 0 0, Value.string { data := { toList := [] } }, Value.slice none 0 0, Value.int IntKind.u64 0, Value.int IntKind.u64 0]) rfl rfl rfl rfl rfl ?_
    intro Wg345 gg346 egg346 rg347 zg348 bg344
    replace q := q.trans (bg344.mono q.size)
    replace hS := hS.up bg344
    replace rq := rq.up bg344
    replace hB := hB.up bg344
    replace m1 := m1.up bg344
    refine LL.storeN (vs := [Value.int IntKind.i64 2, Value.int IntKind.i64 er, Value.int IntKind.i64 ino, Value.int IntKind.i64 kd, Value.int IntKind.i64 lk, Value.int IntKind.i64 sz, Value.slice ba bn bc, strV tx, Value.slice na nn nc, Value.int IntKind.u64 ↑k2, Value.int IntKind.u64 ↑xkey]) rfl rfl rfl rfl rg347 (by exact Nat.le_of_ble_eq_true rfl) (ones_of rfl) rfl rfl ?_
    intro Wg391 rg392 bg390 zg393
    have hlbg390 := rg347.lt
    replace rg392 : RowL Wg391 _ 40 [Value.int IntKind.i64 2, Value.int IntKind.i64 er, Value.int IntKind.i64 ino, Value.int IntKind.i64 kd, Value.int IntKind.i64 lk, Value.int IntKind.i64 sz, Value.slice ba bn bc, strV tx, Value.slice na nn nc, Value.int IntKind.u64 ↑k2, Value.int IntKind.u64 ↑xkey] := rg392
    clear rg347
    replace bg344 := bg344.grown bg390 bg344.size (by rintro k ⟨⟩; omega)
    replace q := q.grown bg390 q.size (by rintro k ⟨⟩; omega)
    replace hS := hS.gr bg390 (by have := hS.lt; omega)
    replace rq := rq.gr bg390 (by have := rq.lt; omega)
    replace hB := hB.gr bg390 (by have := hB.lt; omega)
    replace m1 := m1.gr bg390 (by have := m1.lt; omega)
    have rg347 := rg392
    clear rg392
    refine LL.nilS ?_
    refine CC.seq ?_
    refine CC.seq ?_
    refine CC.region ?_
    refine LL.val (R.field rfl rfl (I.fld rfl)) rfl rfl rfl ?_
    refine LL.val (R.field rfl rfl (I.fld rfl)) rfl rfl rfl ?_
    refine LL.val (R.load rfl rfl (I.ld1 rfl (RowL.cell rg347 rfl))) rfl rfl rfl ?_
    refine LL.val (R.len rfl rfl rfl rfl) rfl rfl rfl ?_
    refine LL.val (R.gtF rfl rfl rfl (by omega)) rfl rfl rfl ?_
    refine LL.nilS ?_
    refine CC.no rfl ?_
    refine CC.skip ?_
    refine EE.thenN ?_
    refine CC.seq ?_
    refine CC.seq ?_
    refine CC.region ?_
    refine LL.val (R.field rfl rfl (I.fld rfl)) rfl rfl rfl ?_
    refine LL.val (R.load rfl rfl (I.ld1 rfl (RowL.cell rg347 rfl))) rfl rfl rfl ?_
    refine LL.nilS ?_
    refine CC.block ?_
    refine CC.seq ?_
    refine CC.region ?_
    refine LL.val (R.eqF rfl rfl rfl (by omega)) rfl rfl rfl ?_
    refine LL.val (R.assign rfl rfl) rfl rfl rfl ?_
    refine LL.nilS ?_
    refine CC.no rfl ?_
    refine CC.seq ?_
    refine CC.region ?_
    refine LL.val (R.eqF rfl rfl rfl (by omega)) rfl rfl rfl ?_
    refine LL.val (R.assign rfl rfl) rfl rfl rfl ?_
    refine LL.nilS ?_
    refine CC.no rfl ?_
    refine CC.seq ?_
    refine CC.region ?_
    refine LL.val (R.eqT rfl rfl rfl (by omega)) rfl rfl rfl ?_
    refine LL.val (R.assign rfl rfl) rfl rfl rfl ?_
    refine LL.nilS ?_
    refine CC.yes rfl ?_
    refine CC.seq ?_
    refine CC.region ?_
    refine LL.val (R.move rfl rfl) rfl rfl rfl ?_
    have lg972 := rq.lt
    have lg973 := rg347.lt
    (refine LL.call (R.call rfl rfl rfl) rfl rfl rfl (Sm.copy_any hS (by omega)) ?_; rintro e Wg971 ⟨g2, bc2, rfl, hC, hg2, hbc2, bg968⟩; refine ⟨_, rfl, ?_⟩; have lc1 := hC.lt; have lc2 := hC.ltb)
    have zbg968 := bg968.size
    replace bg344 := bg344.trans (bg968.mono bg344.size)
    replace q := q.trans (bg968.mono q.size)
    replace hS := hS.up bg968
    replace rq := rq.up bg968
    replace hB := hB.up bg968
    replace m1 := m1.up bg968
    replace rg347 := rg347.up bg968
    refine LL.val (R.assign rfl rfl) rfl rfl rfl ?_
    refine LL.nilS ?_
    refine CC.seq ?_
    refine CC.region ?_
    refine LL.val (R.move rfl rfl) rfl rfl rfl ?_
    (refine LL.call (R.call rfl rfl rfl) rfl rfl rfl (Sm.seek_any hS 77) ?_; rintro e Wg1071 ⟨rfl, hN, tg1070⟩; clear hS; have hS := hN; clear hN; replace hC := hC.keptK tg1070 ⟨by omega, by omega⟩ ⟨by omega, by omega⟩; refine ⟨_, rfl, ?_⟩)
    have ztg1070 := tg1070.size
    replace q := tg1070.onB q (fun j hj => ⟨by have := q.size; omega, by omega⟩)
    replace rq := rq.kept tg1070 ⟨rq.lt, by omega⟩
    replace hB := hB.kept tg1070 ⟨by omega, by omega⟩
    replace m1 := m1.kept tg1070 ⟨by omega, by omega⟩
    replace rg347 := rg347.kept tg1070 ⟨rg347.lt, by omega⟩
    refine LL.nilS ?_
    refine CC.seq ?_
    refine CC.region ?_
    refine LL.val (R.move rfl rfl) rfl rfl rfl ?_
    refine LL.val (R.buildV rfl rfl (v := .agg #[Value.int IntKind.u64 0, Value.string { data := #[120] }, Value.int IntKind.i64 0]) (fun _ => by kernel_rfl)) rfl rfl rfl ?_
    have lg1198 := rq.lt
    have lg1199 := rg347.lt
    refine LL.lit (e := 48) [Value.int IntKind.u64 0, Value.string { data := #[120] }, Value.int IntKind.i64 0] 1 rfl rfl (fun _ => by kernel_rfl) rfl rfl ?_
    intro Wg1201 gg1202 egg1202 rg1203 zg1204 bg1200
    replace hS := hS.up bg1200
    replace hC := hC.up bg1200
    replace q := q.trans (bg1200.mono q.size)
    replace rq := rq.up bg1200
    replace hB := hB.up bg1200
    replace m1 := m1.up bg1200
    replace rg347 := rg347.up bg1200
    refine LL.val (R.buildV rfl rfl (v := .agg #[Value.int IntKind.i64 0, Value.int IntKind.i64 0, Value.int IntKind.i64 0, Value.int IntKind.i64 0, Value.int IntKind.i64 0, Value.slice none 0 0, Value.string { data := #[] }, Value.slice (some { block := gg1202, off := 0 }) 1 1, Value.int IntKind.u64 0]) (fun _ => by kernel_rfl)) rfl rfl rfl ?_
    (refine LL.call (R.call rfl rfl rfl) rfl rfl rfl (Sm.take_more hS (by decide) [(0, [120], 0)] (RowL.readsT nmEnc (ts := [(0, [120], 0)]) (by assumption) 1 (Nat.le_refl _)) (fun x e => (by cases e; dsimp only; omega)) (by omega) (by decide)) ?_; rintro e Wg1269 ⟨rfl, bo3, hN, hbo3, tg1268⟩; clear hS; have hS := hN; clear hN; replace hC := hC.keptK tg1268 ⟨by omega, by omega⟩ ⟨by omega, by omega⟩; refine ⟨_, rfl, ?_⟩)
    have ztg1268 := tg1268.size
    replace rg1203 := rg1203.kept tg1268 ⟨rg1203.lt, by omega⟩
    replace q := tg1268.onB q (fun j hj => ⟨by have := q.size; omega, by omega⟩)
    replace rq := rq.kept tg1268 ⟨rq.lt, by omega⟩
    replace hB := hB.kept tg1268 ⟨by omega, by omega⟩
    replace m1 := m1.kept tg1268 ⟨by omega, by omega⟩
    replace rg347 := rg347.kept tg1268 ⟨rg347.lt, by omega⟩
    refine LL.nilS ?_
    refine CC.region ?_
    refine LL.val (R.move rfl rfl) rfl rfl rfl ?_
    refine LL.val (R.assign rfl rfl) rfl rfl rfl ?_
    refine LL.nil ?_
    refine EE.inN ?_
    refine EE.thenN ?_
    refine CC.seq ?_
    refine CC.region ?_
    refine LL.val (R.move rfl rfl) rfl rfl rfl ?_
    refine LL.val (R.load rfl rfl (I.ldNc (vs := [strV path, Value.int IntKind.i64 many, Value.int IntKind.u64 ↑key, Value.slice a2 n2 c2, Value.bool over, Value.int IntKind.i64 why]) (RowL.cells rq rfl) (by rfl) (by rfl))) rfl rfl rfl ?_
    have lg1477 := rg1203.lt
    have lg1478 := rq.lt
    have lg1479 := rg347.lt
    (refine LL.call (R.call rfl rfl rfl) rfl rfl rfl (Sm.same_any hC _ _ _ hB.r (by omega)) ?_; rintro e Wg1476 ⟨rfl, bg1473⟩; refine ⟨_, rfl, ?_⟩)
    have zbg1473 := bg1473.size
    replace hS := hS.up bg1473
    replace hC := hC.up bg1473
    replace rg1203 := rg1203.up bg1473
    replace q := q.trans (bg1473.mono q.size)
    replace rq := rq.up bg1473
    replace hB := hB.up bg1473
    replace m1 := m1.up bg1473
    replace rg347 := rg347.up bg1473
    refine LL.val (R.not rfl rfl) rfl rfl rfl ?_
    refine LL.nilS ?_
    refine CC.no rfl ?_
    refine CC.skip ?_
    refine EE.inN ?_
    refine EE.thenN ?_
    refine CC.region ?_
    refine LL.val (R.move rfl rfl) rfl rfl rfl ?_
    refine LL.val (R.addNc rfl rfl rfl rfl (by omega)) rfl rfl rfl ?_
    refine LL.val (R.assign rfl rfl) rfl rfl rfl ?_
    refine LL.nil ?_
    exact EE.round (i + 1, g2) ⟨rfl, rfl, rfl, rfl, trivial⟩ ⟨by show i + 1 ≤ N; omega, q, bc2, key, ts, over, why, _, _, _, _, hC, by assumption, hB, by show _ ≤ 20 * (i + 1); first | omega | (rw [List.length_append]; omega), hwhy, by show _ ≠ _; omega, by omega, by show _ ≤ _; omega, by omega, fun _ => ⟨by show _ ≠ _; omega, by omega, by omega⟩⟩ (by show N - (i + 1) < N - i; omega)
  refine CC.seq ?_
  refine CC.seq ?_
  refine CC.region ?_
  refine LL.val (R.move rfl rfl) rfl rfl rfl ?_
  refine LL.val (R.move rfl rfl) rfl rfl rfl ?_
  refine LL.val (R.len rfl rfl rfl rfl) rfl rfl rfl ?_
  refine LL.val (R.ltT rfl rfl rfl (by omega)) rfl rfl rfl ?_
  refine LL.nilS ?_
  refine CC.yes rfl ?_
  refine CC.skip ?_
  refine EE.thenN ?_
  refine CC.seq ?_
  refine CC.block ?_
  refine CC.seq ?_
  refine CC.region ?_
  refine LL.val (R.move rfl rfl) rfl rfl rfl ?_
  refine LL.val (R.move rfl rfl) rfl rfl rfl ?_
  refine LL.val (R.index rfl rfl rfl (I.ixS rfl (by omega))) rfl rfl rfl ?_
  refine LL.val (R.load rfl rfl (I.ldM (by assumption) rfl rfl)) rfl rfl rfl ?_
  have lh145 := rq.lt
  refine LL.alloc ([Value.int IntKind.i64 0, Value.int IntKind.i64 0, Value.int IntKind.i64 0, Value.int IntKind.i64 0, Value.int IntKind.i64 0, Value.int IntKind.i64 0, Value.slice none 0 0, Value.string { data := { toList := [] } }, Value.slice none 0 0, Value.int IntKind.u64 0, Value.int IntKind.u64 0]) rfl rfl rfl rfl rfl ?_
  intro Wh147 gh148 egh148 rh149 zh150 bh146
  replace q := q.trans (bh146.mono q.size)
  replace hS := hS.up bh146
  replace rq := rq.up bh146
  replace hB := hB.up bh146
  replace m1 := m1.up bh146
  refine LL.storeN (vs := [Value.int IntKind.i64 what, Value.int IntKind.i64 er, Value.int IntKind.i64 ino, Value.int IntKind.i64 kd, Value.int IntKind.i64 lk, Value.int IntKind.i64 sz, Value.slice ba bn bc, strV tx, Value.slice na nn nc, Value.int IntKind.u64 ↑k2, Value.int IntKind.u64 ↑xkey]) rfl rfl rfl rfl rh149 (by exact Nat.le_of_ble_eq_true rfl) (ones_of rfl) rfl rfl ?_
  intro Wh170 rh171 bh169 zh172
  have hlbh169 := rh149.lt
  replace rh171 : RowL Wh170 _ 40 [Value.int IntKind.i64 what, Value.int IntKind.i64 er, Value.int IntKind.i64 ino, Value.int IntKind.i64 kd, Value.int IntKind.i64 lk, Value.int IntKind.i64 sz, Value.slice ba bn bc, strV tx, Value.slice na nn nc, Value.int IntKind.u64 ↑k2, Value.int IntKind.u64 ↑xkey] := rh171
  clear rh149
  replace bh146 := bh146.grown bh169 bh146.size (by rintro k ⟨⟩; omega)
  replace q := q.grown bh169 q.size (by rintro k ⟨⟩; omega)
  replace hS := hS.gr bh169 (by have := hS.lt; omega)
  replace rq := rq.gr bh169 (by have := rq.lt; omega)
  replace hB := hB.gr bh169 (by have := hB.lt; omega)
  replace m1 := m1.gr bh169 (by have := m1.lt; omega)
  have rh149 := rh171
  clear rh171
  refine LL.nilS ?_
  refine CC.seq ?_
  refine CC.seq ?_
  refine CC.region ?_
  refine LL.val (R.field rfl rfl (I.fld rfl)) rfl rfl rfl ?_
  refine LL.val (R.field rfl rfl (I.fld rfl)) rfl rfl rfl ?_
  refine LL.val (R.load rfl rfl (I.ld1 rfl (RowL.cell rh149 rfl))) rfl rfl rfl ?_
  refine LL.val (R.len rfl rfl rfl rfl) rfl rfl rfl ?_
  refine LL.val (R.gtF rfl rfl rfl (by omega)) rfl rfl rfl ?_
  refine LL.nilS ?_
  refine CC.no rfl ?_
  refine CC.skip ?_
  refine EE.thenN ?_
  refine CC.seq ?_
  refine CC.seq ?_
  refine CC.region ?_
  refine LL.val (R.field rfl rfl (I.fld rfl)) rfl rfl rfl ?_
  refine LL.val (R.load rfl rfl (I.ld1 rfl (RowL.cell rh149 rfl))) rfl rfl rfl ?_
  refine LL.nilS ?_
  refine CC.block ?_
  refine CC.seq ?_
  refine CC.region ?_
  refine LL.val (R.eqF rfl rfl rfl (by omega)) rfl rfl rfl ?_
  refine LL.val (R.assign rfl rfl) rfl rfl rfl ?_
  refine LL.nilS ?_
  refine CC.no rfl ?_
  refine CC.seq ?_
  refine CC.region ?_
  refine LL.val (R.eqF rfl rfl rfl (by omega)) rfl rfl rfl ?_
  refine LL.val (R.assign rfl rfl) rfl rfl rfl ?_
  refine LL.nilS ?_
  refine CC.no rfl ?_
  refine CC.seq ?_
  refine CC.region ?_
  refine LL.val (R.eqF rfl rfl rfl (by omega)) rfl rfl rfl ?_
  refine LL.val (R.assign rfl rfl) rfl rfl rfl ?_
  refine LL.nilS ?_
  refine CC.no rfl ?_
  refine CC.skip ?_
  refine EE.inN ?_
  refine EE.thenN ?_
  refine CC.seq ?_
  refine CC.region ?_
  refine LL.val (R.move rfl rfl) rfl rfl rfl ?_
  refine LL.val (R.load rfl rfl (I.ldNc (vs := [strV path, Value.int IntKind.i64 many, Value.int IntKind.u64 ↑key, Value.slice a2 n2 c2, Value.bool over, Value.int IntKind.i64 why]) (RowL.cells rq rfl) (by rfl) (by rfl))) rfl rfl rfl ?_
  have lh447 := rq.lt
  have lh448 := rh149.lt
  (refine LL.call (R.call rfl rfl rfl) rfl rfl rfl (Sm.same_any hS _ _ _ hB.r (by first | omega | (rw [List.length_append]; omega))) ?_; rintro e Wh446 ⟨rfl, bh443⟩; refine ⟨_, rfl, ?_⟩)
  have zbh443 := bh443.size
  replace bh146 := bh146.trans (bh443.mono bh146.size)
  replace q := q.trans (bh443.mono q.size)
  replace hS := hS.up bh443
  replace rq := rq.up bh443
  replace hB := hB.up bh443
  replace m1 := m1.up bh443
  replace rh149 := rh149.up bh443
  refine LL.val (R.not rfl rfl) rfl rfl rfl ?_
  refine LL.nilS ?_
  refine CC.no rfl ?_
  refine CC.skip ?_
  refine EE.inN ?_
  refine EE.thenN ?_
  refine CC.region ?_
  refine LL.val (R.move rfl rfl) rfl rfl rfl ?_
  refine LL.val (R.addNc rfl rfl rfl rfl (by omega)) rfl rfl rfl ?_
  refine LL.val (R.assign rfl rfl) rfl rfl rfl ?_
  refine LL.nil ?_
  exact EE.round (i + 1, g) ⟨rfl, rfl, rfl, rfl, trivial⟩ ⟨by show i + 1 ≤ N; omega, q, bo, key, ts, over, why, _, _, _, _, hS, by assumption, hB, by show _ ≤ 20 * (i + 1); first | omega | (rw [List.length_append]; omega), hwhy, by show _ ≠ _; omega, by omega, by show _ ≤ _; omega, by omega, fun _ => ⟨by show _ ≠ _; omega, by omega, by omega⟩⟩ (by show N - (i + 1) < N - i; omega)
end Go.Proofs.Ytplindpeiedcbaa
