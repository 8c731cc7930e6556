/- What the statements' walks use: In24, In25, In26, In27, In28, SameW, WordsW, In29, In30, In32, In33, In31, In31a, In31b, In31c, In34, ReadsW, In35, In36, StoresW, In37, In38, HoldsW, Open, OpenI, OpenT, OpenR, OpenN, Door. -/
import Derived.Laws.StructEq
import Derived.Test.YtnoefalgmekjbaaDoorRows
import Derived.ProofKit
import Derived.OpenShut
import Derived.ShutString
import Derived.ChangeOld
import Derived.ChangeSame
import Derived.Deep.Slices
import Derived.LaidMore
import Derived.Stop.Joined
import Derived.Lib.LaidTab
import Derived.Test.YtnoefalgmekjbaaDoorMha
import Derived.Test.YtnoefalgmekjbaaDoorMhb
import Derived.Test.YtnoefalgmekjbaaDoorMhc
import Derived.Test.YtnoefalgmekjbaaDoorMhd
/- inode: the document's Check, for files, where it says no; for all inodes (written by gen24.py). -/
namespace Go.Proofs.YtnoefalgmekjbaaDoor
set_option linter.unusedVariables false
set_option linter.unusedSimpArgs false
open Go.RowKit Go.Shelf
set_option maxRecDepth 100000
set_option maxHeartbeats 8000000
theorem rof_mb (l : List Ex) (v : Value) (w : World) (hv : ReadsT eE 3 w v l) (hlen : l.length ≤ 1048576) : Calls Tryd.prog 35 #[v] w fun e w' => ∃ (ms : List Int) (b : Bool), e = .returned (.tuple #[plV ms, .bool b]) ∧ ms.length = 128 ∧ Below w.heap.size w w' :=
  (rof_any l v w hv hlen).mono fun e w' ⟨⟨ms, b, he, _, _, hl⟩, hw⟩ => ⟨ms, b, he, hl, hw⟩
theorem rof_mf (l : List Ex) (v : Value) (w : World) (hv : ReadsT eE 3 w v l) (hlen : l.length ≤ 1048576) (h : ¬vL l) : Calls Tryd.prog 35 #[v] w fun e w' => ∃ (ms : List Int) (b : Bool), e = .returned (.tuple #[plV ms, .bool false]) ∧ ms.length = 128 ∧ Below w.heap.size w w' :=
  (rof_F l v w hv hlen h).mono fun e w' ⟨ms, he, hl, hw⟩ => ⟨ms, false, he, hl, hw⟩
theorem rof_mt (l : List Ex) (v : Value) (w : World) (hv : ReadsT eE 3 w v l) (hlen : l.length ≤ 1048576) (h : vL l) : Calls Tryd.prog 35 #[v] w fun e w' => ∃ (ms : List Int) (b : Bool), e = .returned (.tuple #[plV ms, .bool true]) ∧ ms.length = 128 ∧ Below w.heap.size w w' :=
  (rof_T l v w hv hlen h).mono fun e w' ⟨he, hw⟩ => ⟨plL l, true, he, plL_len l, hw⟩
theorem rcheck_1F (l z : Int) (x : Option Addr) (n c : Nat) (m : List Ex) (r p : Int) (t : Bs) (w : World) (hv : ReadsT eE 3 w (.slice x n c) m) (hlen : m.length ≤ 1048576) (h : ¬((0 ≤ l ∧ l ≤ 65535) ∧ zeroOk true false false z n r p t ∧ okF z m)) : Calls Tryd.prog 15 #[inV 1 l z (.slice x n c) r p t] w fun e w' => e = .returned (.int .i64 240) ∧ Below w.heap.size w w' := by
  have q := Below.refl w.heap.size w
  have hvF : ∀ X, Below w.heap.size w X → ReadsT eE 3 X (.slice x n c) m := fun X b => hv.up b
  have hn : n ≤ 9223372036854775807 := by
    have hl := hv
    obtain ⟨_, _, e, _⟩ := hl
    cases e
    omega
  by_cases hA : l < 0
  · have hof := fun (W : World) (hv : ReadsT eE 3 W (.slice x n c) m) => rof_mb m _ W hv hlen
    clear h hv
    refine X.fn Tryd.func15 rfl (n := 130) rfl rfl ?_
    refine Zr ?_
    refine LL.box [.int .i64 1, .int .i64 l, .int .i64 z, .slice x n c, .int .i64 r, .int .i64 p, strV t] rfl rfl rfl rfl rfl ?_
    intro W2 g3 eg3 r4 z5 b1
    replace q := Zu q b1; refine Za ?_; refine Zq ?_; refine Zr ?_; refine Zf ?_; refine Zl r4 ?_; refine Za ?_; refine Zq ?_; refine Zr ?_; refine Zm ?_; refine ZgeT ?_; refine Zm ?_; refine Zm ?_; refine ZleT ?_; refine Zp ?_; refine Zm ?_; refine Zf ?_; refine Zl r4 ?_; refine ZgeF ?_; refine Zp ?_; refine Zm ?_; refine Zs ?_; refine Zs ?_; refine Zs ?_; refine Zp ?_; refine Zm ?_; refine Zs ?_
    refine Zs ?_; refine Zs ?_; refine Zs ?_; refine Zs ?_; refine Zs ?_; refine Zs ?_; refine Zs ?_; refine Zp ?_; refine Za ?_; refine Zq ?_; refine Zc ?_; refine Zr ?_; refine Zm ?_; refine Zq ?_; refine CC.block ?_; refine Zr ?_; refine ZeqF ?_; refine Za ?_; refine Zq ?_; refine ZN ?_; refine Zr ?_; refine ZeqT ?_; refine Za ?_; refine Zq ?_; refine ZY ?_; refine Zr ?_; refine Zf ?_; refine Zl r4 ?_
    refine Zy (R.call rfl rfl rfl) (hof _ (hvF _ q)) ?_
    rintro e W7 ⟨v9, k10, rfl, l8, b6⟩
    refine ⟨_, rfl, ?_⟩; have zb6 := b6.size; replace r4 := r4.up b6; replace b1 := Zu b1 b6; replace q := Zu q b6; refine Zm ?_; refine Zx ?_; refine Zx ?_; have l12 := r4.lt
    refine LL.alloc (intsZ .i64 (List.replicate 128 0)) rfl rfl rfl rfl rfl ?_
    intro W14 g15 eg15 r16 z17 b13
    replace b6 := Zu b6 b13; replace r4 := r4.up b13; replace b1 := Zu b1 b13; replace q := Zu q b13
    refine LL.storeAZ rfl rfl rfl rfl (by first | assumption | exact List.length_replicate | exact plL_len _ | exact plOf_len _ | simp) r16 (by first | (rw [List.length_map]; exact (by first | assumption | exact List.length_replicate | exact plL_len _ | exact plOf_len _ | simp)) | simp) rfl rfl ?_
    intro W19 r20 b18 z21
    have hlb18 := r16.lt
    clear r16
    replace b13 := Zg b13 b18; replace b6 := Zg b6 b18; replace r4 := Zd r4 b18; replace b1 := Zg b1 b18; replace q := Zg q b18
    have r16 := r20
    clear r20
    refine Za ?_; refine Zq ?_; refine Zr ?_; refine Zm ?_; refine Zm ?_; refine Zs ?_; refine Zp ?_; refine Zm ?_; refine Zs ?_; refine Zs ?_; refine Zs ?_; refine Zp ?_; refine Zm ?_; refine Zs ?_; refine Zs ?_; refine Zs ?_; refine Zp ?_; refine Za ?_; refine Zq ?_; refine Zr ?_; refine Za ?_; refine Zq ?_; refine CC.block ?_
    refine CC.loop (α := Unit) (fun s => [(1, .pointer (some ⟨g3, 0, none⟩)), (4, .bool false), (5, .pointer (some ⟨g15, 0, none⟩)), (7, .int .i64 0)]) (fun s W => Below w.heap.size w W) (fun s => 0) () ⟨rfl, rfl, rfl, rfl, trivial⟩ q ?_
    rintro _ W q
    show CC none Tryd.prog _ 130 [] (sl [(1, .pointer (some ⟨g3, 0, none⟩)), (4, .bool false), (5, .pointer (some ⟨g15, 0, none⟩)), (7, .int .i64 0)]) _ W
    refine Zc ?_; refine Zr ?_; refine Zm ?_; refine ZltT ?_; refine Zm ?_; refine Zm ?_; refine Zp ?_; refine Zq ?_; refine ZN ?_; refine CC.exit ?_; refine EE.thenX ?_; refine EE.thenX ?_; refine EE.inX ?_; refine EE.inN ?_; refine ZT ?_; refine Zc ?_; refine Zr ?_; refine Zm ?_; refine Zt ?_; refine Zq ?_; refine ZY ?_; refine Zr ?_; refine Za ?_; refine Zq ?_; refine ZR ?_; refine EE.thenR ?_; refine EE.ret _ rfl rfl ?_
    exact ⟨rfl, q⟩
  by_cases hB : 65535 < l
  · have hof := fun (W : World) (hv : ReadsT eE 3 W (.slice x n c) m) => rof_mb m _ W hv hlen
    clear h hv
    refine X.fn Tryd.func15 rfl (n := 130) rfl rfl ?_
    refine Zr ?_
    refine LL.box [.int .i64 1, .int .i64 l, .int .i64 z, .slice x n c, .int .i64 r, .int .i64 p, strV t] rfl rfl rfl rfl rfl ?_
    intro Wb2 gb3 egb3 rb4 zb5 bb1
    replace q := Zu q bb1; refine Za ?_; refine Zq ?_; refine Zr ?_; refine Zf ?_; refine Zl rb4 ?_; refine Za ?_; refine Zq ?_; refine Zr ?_; refine Zm ?_; refine ZgeT ?_; refine Zm ?_; refine Zm ?_; refine ZleT ?_; refine Zp ?_; refine Zm ?_; refine Zf ?_; refine Zl rb4 ?_; refine ZgeT ?_; refine Zp ?_; refine Zm ?_; refine Zf ?_; refine Zl rb4 ?_; refine ZleF ?_; refine Zp ?_; refine Zm ?_; refine Zs ?_
    refine Zs ?_; refine Zs ?_; refine Zs ?_; refine Zs ?_; refine Zs ?_; refine Zs ?_; refine Zs ?_; refine Zp ?_; refine Za ?_; refine Zq ?_; refine Zc ?_; refine Zr ?_; refine Zm ?_; refine Zq ?_; refine CC.block ?_; refine Zr ?_; refine ZeqF ?_; refine Za ?_; refine Zq ?_; refine ZN ?_; refine Zr ?_; refine ZeqT ?_; refine Za ?_; refine Zq ?_; refine ZY ?_; refine Zr ?_; refine Zf ?_; refine Zl rb4 ?_
    refine Zy (R.call rfl rfl rfl) (hof _ (hvF _ q)) ?_
    rintro e Wb7 ⟨vb9, kb10, rfl, lb8, bb6⟩
    refine ⟨_, rfl, ?_⟩; have zbb6 := bb6.size; replace rb4 := rb4.up bb6; replace bb1 := Zu bb1 bb6; replace q := Zu q bb6; refine Zm ?_; refine Zx ?_; refine Zx ?_; have lb12 := rb4.lt
    refine LL.alloc (intsZ .i64 (List.replicate 128 0)) rfl rfl rfl rfl rfl ?_
    intro Wb14 gb15 egb15 rb16 zb17 bb13
    replace bb6 := Zu bb6 bb13; replace rb4 := rb4.up bb13; replace bb1 := Zu bb1 bb13; replace q := Zu q bb13
    refine LL.storeAZ rfl rfl rfl rfl (by first | assumption | exact List.length_replicate | exact plL_len _ | exact plOf_len _ | simp) rb16 (by first | (rw [List.length_map]; exact (by first | assumption | exact List.length_replicate | exact plL_len _ | exact plOf_len _ | simp)) | simp) rfl rfl ?_
    intro Wb19 rb20 bb18 zb21
    have hlbb18 := rb16.lt
    clear rb16
    replace bb13 := Zg bb13 bb18; replace bb6 := Zg bb6 bb18; replace rb4 := Zd rb4 bb18; replace bb1 := Zg bb1 bb18; replace q := Zg q bb18
    have rb16 := rb20
    clear rb20
    refine Za ?_; refine Zq ?_; refine Zr ?_; refine Zm ?_; refine Zm ?_; refine Zs ?_; refine Zp ?_; refine Zm ?_; refine Zs ?_; refine Zs ?_; refine Zs ?_; refine Zp ?_; refine Zm ?_; refine Zs ?_; refine Zs ?_; refine Zs ?_; refine Zp ?_; refine Za ?_; refine Zq ?_; refine Zr ?_; refine Za ?_; refine Zq ?_; refine CC.block ?_
    refine CC.loop (α := Unit) (fun s => [(1, .pointer (some ⟨gb3, 0, none⟩)), (4, .bool false), (5, .pointer (some ⟨gb15, 0, none⟩)), (7, .int .i64 0)]) (fun s W => Below w.heap.size w W) (fun s => 0) () ⟨rfl, rfl, rfl, rfl, trivial⟩ q ?_
    rintro _ W q
    show CC none Tryd.prog _ 130 [] (sl [(1, .pointer (some ⟨gb3, 0, none⟩)), (4, .bool false), (5, .pointer (some ⟨gb15, 0, none⟩)), (7, .int .i64 0)]) _ W
    refine Zc ?_; refine Zr ?_; refine Zm ?_; refine ZltT ?_; refine Zm ?_; refine Zm ?_; refine Zp ?_; refine Zq ?_; refine ZN ?_; refine CC.exit ?_; refine EE.thenX ?_; refine EE.thenX ?_; refine EE.inX ?_; refine EE.inN ?_; refine ZT ?_; refine Zc ?_; refine Zr ?_; refine Zm ?_; refine Zt ?_; refine Zq ?_; refine ZY ?_; refine Zr ?_; refine Za ?_; refine Zq ?_; refine ZR ?_; refine EE.thenR ?_; refine EE.ret _ rfl rfl ?_
    exact ⟨rfl, q⟩
  by_cases hZ : zeroOk true false false z n r p t
  case neg =>
    have hz0 := fun W => zero_F 1 l z x n c r p t true false false W hn hZ
    have hof := fun (W : World) (hv : ReadsT eE 3 W (.slice x n c) m) => rof_mb m _ W hv hlen
    clear h hZ hv
    refine X.fn Tryd.func15 rfl (n := 130) rfl rfl ?_
    refine Zr ?_
    refine LL.box [.int .i64 1, .int .i64 l, .int .i64 z, .slice x n c, .int .i64 r, .int .i64 p, strV t] rfl rfl rfl rfl rfl ?_
    intro Wd2 gd3 egd3 rd4 zd5 bd1
    replace q := Zu q bd1; refine Za ?_; refine Zq ?_; refine Zr ?_; refine Zf ?_; refine Zl rd4 ?_; refine Za ?_; refine Zq ?_; refine Zr ?_; refine Zm ?_; refine ZgeT ?_; refine Zm ?_; refine Zm ?_; refine ZleT ?_; refine Zp ?_; refine Zm ?_; refine Zf ?_; refine Zl rd4 ?_; refine ZgeT ?_; refine Zp ?_; refine Zm ?_; refine Zf ?_; refine Zl rd4 ?_; refine ZleT ?_; refine Zp ?_; refine Zm ?_; refine Zv rd4 ?_
    refine Zm ?_; refine ZeqT ?_; refine Zm ?_; refine ZeqF ?_; refine Zm ?_; refine ZeqF ?_
    refine Zy (R.call rfl rfl rfl) (hz0 _) ?_
    rintro e Wd7 ⟨rfl, bd6⟩
    refine ⟨_, rfl, ?_⟩; have zbd6 := bd6.size; replace rd4 := rd4.up bd6; replace bd1 := Zu bd1 bd6; replace q := Zu q bd6; refine Zp ?_; refine Za ?_; refine Zq ?_; refine Zc ?_; refine Zr ?_; refine Zm ?_; refine Zq ?_; refine CC.block ?_; refine Zr ?_; refine ZeqF ?_; refine Za ?_; refine Zq ?_; refine ZN ?_; refine Zr ?_; refine ZeqT ?_; refine Za ?_; refine Zq ?_; refine ZY ?_; refine Zr ?_; refine Zf ?_
    refine Zl rd4 ?_
    refine Zy (R.call rfl rfl rfl) (hof _ (hvF _ q)) ?_
    rintro e Wd10 ⟨vd12, kd13, rfl, ld11, bd9⟩
    refine ⟨_, rfl, ?_⟩; have zbd9 := bd9.size; replace bd6 := Zu bd6 bd9; replace rd4 := rd4.up bd9; replace bd1 := Zu bd1 bd9; replace q := Zu q bd9; refine Zm ?_; refine Zx ?_; refine Zx ?_; have ld15 := rd4.lt
    refine LL.alloc (intsZ .i64 (List.replicate 128 0)) rfl rfl rfl rfl rfl ?_
    intro Wd17 gd18 egd18 rd19 zd20 bd16
    replace bd9 := Zu bd9 bd16; replace bd6 := Zu bd6 bd16; replace rd4 := rd4.up bd16; replace bd1 := Zu bd1 bd16; replace q := Zu q bd16
    refine LL.storeAZ rfl rfl rfl rfl (by first | assumption | exact List.length_replicate | exact plL_len _ | exact plOf_len _ | simp) rd19 (by first | (rw [List.length_map]; exact (by first | assumption | exact List.length_replicate | exact plL_len _ | exact plOf_len _ | simp)) | simp) rfl rfl ?_
    intro Wd22 rd23 bd21 zd24
    have hlbd21 := rd19.lt
    clear rd19
    replace bd16 := Zg bd16 bd21; replace bd9 := Zg bd9 bd21; replace bd6 := Zg bd6 bd21; replace rd4 := Zd rd4 bd21; replace bd1 := Zg bd1 bd21; replace q := Zg q bd21
    have rd19 := rd23
    clear rd23
    refine Za ?_; refine Zq ?_; refine Zr ?_; refine Zm ?_; refine Zm ?_; refine Zs ?_; refine Zp ?_; refine Zm ?_; refine Zs ?_; refine Zs ?_; refine Zs ?_; refine Zp ?_; refine Zm ?_; refine Zs ?_; refine Zs ?_; refine Zs ?_; refine Zp ?_; refine Za ?_; refine Zq ?_; refine Zr ?_; refine Za ?_; refine Zq ?_; refine CC.block ?_
    refine CC.loop (α := Unit) (fun s => [(1, .pointer (some ⟨gd3, 0, none⟩)), (4, .bool false), (5, .pointer (some ⟨gd18, 0, none⟩)), (7, .int .i64 0)]) (fun s W => Below w.heap.size w W) (fun s => 0) () ⟨rfl, rfl, rfl, rfl, trivial⟩ q ?_
    rintro _ W q
    show CC none Tryd.prog _ 130 [] (sl [(1, .pointer (some ⟨gd3, 0, none⟩)), (4, .bool false), (5, .pointer (some ⟨gd18, 0, none⟩)), (7, .int .i64 0)]) _ W
    refine Zc ?_; refine Zr ?_; refine Zm ?_; refine ZltT ?_; refine Zm ?_; refine Zm ?_; refine Zp ?_; refine Zq ?_; refine ZN ?_; refine CC.exit ?_; refine EE.thenX ?_; refine EE.thenX ?_; refine EE.inX ?_; refine EE.inN ?_; refine ZT ?_; refine Zc ?_; refine Zr ?_; refine Zm ?_; refine Zt ?_; refine Zq ?_; refine ZY ?_; refine Zr ?_; refine Za ?_; refine Zq ?_; refine ZR ?_; refine EE.thenR ?_; refine EE.ret _ rfl rfl ?_
    exact ⟨rfl, q⟩
  by_cases hV : vL m
  case neg =>
    have hz0 := fun W => zero_T 1 l z x n c r p t true false false W hn hZ
    have hof := fun (W : World) (hv : ReadsT eE 3 W (.slice x n c) m) => rof_mf m _ W hv hlen hV
    clear h hZ hv
    refine X.fn Tryd.func15 rfl (n := 130) rfl rfl ?_
    refine Zr ?_
    refine LL.box [.int .i64 1, .int .i64 l, .int .i64 z, .slice x n c, .int .i64 r, .int .i64 p, strV t] rfl rfl rfl rfl rfl ?_
    intro Wf2 gf3 egf3 rf4 zf5 bf1
    replace q := Zu q bf1; refine Za ?_; refine Zq ?_; refine Zr ?_; refine Zf ?_; refine Zl rf4 ?_; refine Za ?_; refine Zq ?_; refine Zr ?_; refine Zm ?_; refine ZgeT ?_; refine Zm ?_; refine Zm ?_; refine ZleT ?_; refine Zp ?_; refine Zm ?_; refine Zf ?_; refine Zl rf4 ?_; refine ZgeT ?_; refine Zp ?_; refine Zm ?_; refine Zf ?_; refine Zl rf4 ?_; refine ZleT ?_; refine Zp ?_; refine Zm ?_; refine Zv rf4 ?_
    refine Zm ?_; refine ZeqT ?_; refine Zm ?_; refine ZeqF ?_; refine Zm ?_; refine ZeqF ?_
    refine Zy (R.call rfl rfl rfl) (hz0 _) ?_
    rintro e Wf7 ⟨rfl, bf6⟩
    refine ⟨_, rfl, ?_⟩; have zbf6 := bf6.size; replace rf4 := rf4.up bf6; replace bf1 := Zu bf1 bf6; replace q := Zu q bf6; refine Zp ?_; refine Za ?_; refine Zq ?_; refine Zc ?_; refine Zr ?_; refine Zm ?_; refine Zq ?_; refine CC.block ?_; refine Zr ?_; refine ZeqF ?_; refine Za ?_; refine Zq ?_; refine ZN ?_; refine Zr ?_; refine ZeqT ?_; refine Za ?_; refine Zq ?_; refine ZY ?_; refine Zr ?_; refine Zf ?_
    refine Zl rf4 ?_
    refine Zy (R.call rfl rfl rfl) (hof _ (hvF _ q)) ?_
    rintro e Wf10 ⟨vf12, kf13, rfl, lf11, bf9⟩
    refine ⟨_, rfl, ?_⟩; have zbf9 := bf9.size; replace bf6 := Zu bf6 bf9; replace rf4 := rf4.up bf9; replace bf1 := Zu bf1 bf9; replace q := Zu q bf9; refine Zm ?_; refine Zx ?_; refine Zx ?_; have lf15 := rf4.lt
    refine LL.alloc (intsZ .i64 (List.replicate 128 0)) rfl rfl rfl rfl rfl ?_
    intro Wf17 gf18 egf18 rf19 zf20 bf16
    replace bf9 := Zu bf9 bf16; replace bf6 := Zu bf6 bf16; replace rf4 := rf4.up bf16; replace bf1 := Zu bf1 bf16; replace q := Zu q bf16
    refine LL.storeAZ rfl rfl rfl rfl (by first | assumption | exact List.length_replicate | exact plL_len _ | exact plOf_len _ | simp) rf19 (by first | (rw [List.length_map]; exact (by first | assumption | exact List.length_replicate | exact plL_len _ | exact plOf_len _ | simp)) | simp) rfl rfl ?_
    intro Wf22 rf23 bf21 zf24
    have hlbf21 := rf19.lt
    clear rf19
    replace bf16 := Zg bf16 bf21; replace bf9 := Zg bf9 bf21; replace bf6 := Zg bf6 bf21; replace rf4 := Zd rf4 bf21; replace bf1 := Zg bf1 bf21; replace q := Zg q bf21
    have rf19 := rf23
    clear rf23
    refine Za ?_; refine Zq ?_; refine Zr ?_; refine Zm ?_; refine Zm ?_; refine Zm ?_; refine Zp ?_; refine Zm ?_; refine Zs ?_; refine Zs ?_; refine Zs ?_; refine Zp ?_; refine Zm ?_; refine Zs ?_; refine Zs ?_; refine Zs ?_; refine Zp ?_; refine Za ?_; refine Zq ?_; refine Zr ?_; refine Za ?_; refine Zq ?_; refine CC.block ?_
    refine CC.loop (α := Unit) (fun s => [(1, .pointer (some ⟨gf3, 0, none⟩)), (4, .bool false), (5, .pointer (some ⟨gf18, 0, none⟩)), (7, .int .i64 0)]) (fun s W => Below w.heap.size w W) (fun s => 0) () ⟨rfl, rfl, rfl, rfl, trivial⟩ q ?_
    rintro _ W q
    show CC none Tryd.prog _ 130 [] (sl [(1, .pointer (some ⟨gf3, 0, none⟩)), (4, .bool false), (5, .pointer (some ⟨gf18, 0, none⟩)), (7, .int .i64 0)]) _ W
    refine Zc ?_; refine Zr ?_; refine Zm ?_; refine ZltT ?_; refine Zm ?_; refine Zm ?_; refine Zp ?_; refine Zq ?_; refine ZN ?_; refine CC.exit ?_; refine EE.thenX ?_; refine EE.thenX ?_; refine EE.inX ?_; refine EE.inN ?_; refine ZT ?_; refine Zc ?_; refine Zr ?_; refine Zm ?_; refine Zt ?_; refine Zq ?_; refine ZY ?_; refine Zr ?_; refine Za ?_; refine Zq ?_; refine ZR ?_; refine EE.thenR ?_; refine EE.ret _ rfl rfl ?_
    exact ⟨rfl, q⟩
  by_cases hC : z < 0
  · have hz0 := fun W => zero_T 1 l z x n c r p t true false false W hn hZ
    have hof := fun (W : World) (hv : ReadsT eE 3 W (.slice x n c) m) => rof_mt m _ W hv hlen hV
    clear h hZ hv
    refine X.fn Tryd.func15 rfl (n := 130) rfl rfl ?_
    refine Zr ?_
    refine LL.box [.int .i64 1, .int .i64 l, .int .i64 z, .slice x n c, .int .i64 r, .int .i64 p, strV t] rfl rfl rfl rfl rfl ?_
    intro Wh2 gh3 egh3 rh4 zh5 bh1
    replace q := Zu q bh1; refine Za ?_; refine Zq ?_; refine Zr ?_; refine Zf ?_; refine Zl rh4 ?_; refine Za ?_; refine Zq ?_; refine Zr ?_; refine Zm ?_; refine ZgeT ?_; refine Zm ?_; refine Zm ?_; refine ZleT ?_; refine Zp ?_; refine Zm ?_; refine Zf ?_; refine Zl rh4 ?_; refine ZgeT ?_; refine Zp ?_; refine Zm ?_; refine Zf ?_; refine Zl rh4 ?_; refine ZleT ?_; refine Zp ?_; refine Zm ?_; refine Zv rh4 ?_
    refine Zm ?_; refine ZeqT ?_; refine Zm ?_; refine ZeqF ?_; refine Zm ?_; refine ZeqF ?_
    refine Zy (R.call rfl rfl rfl) (hz0 _) ?_
    rintro e Wh7 ⟨rfl, bh6⟩
    refine ⟨_, rfl, ?_⟩; have zbh6 := bh6.size; replace rh4 := rh4.up bh6; replace bh1 := Zu bh1 bh6; replace q := Zu q bh6; refine Zp ?_; refine Za ?_; refine Zq ?_; refine Zc ?_; refine Zr ?_; refine Zm ?_; refine Zq ?_; refine CC.block ?_; refine Zr ?_; refine ZeqF ?_; refine Za ?_; refine Zq ?_; refine ZN ?_; refine Zr ?_; refine ZeqT ?_; refine Za ?_; refine Zq ?_; refine ZY ?_; refine Zr ?_; refine Zf ?_
    refine Zl rh4 ?_
    refine Zy (R.call rfl rfl rfl) (hof _ (hvF _ q)) ?_
    rintro e Wh10 ⟨vh12, kh13, rfl, lh11, bh9⟩
    refine ⟨_, rfl, ?_⟩; have zbh9 := bh9.size; replace bh6 := Zu bh6 bh9; replace rh4 := rh4.up bh9; replace bh1 := Zu bh1 bh9; replace q := Zu q bh9; refine Zm ?_; refine Zx ?_; refine Zx ?_; have lh15 := rh4.lt
    refine LL.alloc (intsZ .i64 (List.replicate 128 0)) rfl rfl rfl rfl rfl ?_
    intro Wh17 gh18 egh18 rh19 zh20 bh16
    replace bh9 := Zu bh9 bh16; replace bh6 := Zu bh6 bh16; replace rh4 := rh4.up bh16; replace bh1 := Zu bh1 bh16; replace q := Zu q bh16
    refine LL.storeAZ rfl rfl rfl rfl (by first | assumption | exact List.length_replicate | exact plL_len _ | exact plOf_len _ | simp) rh19 (by first | (rw [List.length_map]; exact (by first | assumption | exact List.length_replicate | exact plL_len _ | exact plOf_len _ | simp)) | simp) rfl rfl ?_
    intro Wh22 rh23 bh21 zh24
    have hlbh21 := rh19.lt
    clear rh19
    replace bh16 := Zg bh16 bh21; replace bh9 := Zg bh9 bh21; replace bh6 := Zg bh6 bh21; replace rh4 := Zd rh4 bh21; replace bh1 := Zg bh1 bh21; replace q := Zg q bh21
    have rh19 := rh23
    clear rh23
    refine Za ?_; refine Zq ?_; refine Zr ?_; refine Zm ?_; refine Zm ?_; refine Zm ?_; refine Zp ?_; refine Zm ?_; refine Zf ?_; refine Zl rh4 ?_; refine ZgeF ?_; refine Zp ?_; refine Zm ?_; refine Zs ?_; refine Zs ?_; refine Zs ?_; refine Zp ?_; refine Za ?_; refine Zq ?_; refine Zr ?_; refine Za ?_; refine Zq ?_; refine CC.block ?_
    refine CC.loop (α := Unit) (fun s => [(1, .pointer (some ⟨gh3, 0, none⟩)), (4, .bool false), (5, .pointer (some ⟨gh18, 0, none⟩)), (7, .int .i64 0)]) (fun s W => Below w.heap.size w W) (fun s => 0) () ⟨rfl, rfl, rfl, rfl, trivial⟩ q ?_
    rintro _ W q
    show CC none Tryd.prog _ 130 [] (sl [(1, .pointer (some ⟨gh3, 0, none⟩)), (4, .bool false), (5, .pointer (some ⟨gh18, 0, none⟩)), (7, .int .i64 0)]) _ W
    refine Zc ?_; refine Zr ?_; refine Zm ?_; refine ZltT ?_; refine Zm ?_; refine Zm ?_; refine Zp ?_; refine Zq ?_; refine ZN ?_; refine CC.exit ?_; refine EE.thenX ?_; refine EE.thenX ?_; refine EE.inX ?_; refine EE.inN ?_; refine ZT ?_; refine Zc ?_; refine Zr ?_; refine Zm ?_; refine Zt ?_; refine Zq ?_; refine ZY ?_; refine Zr ?_; refine Za ?_; refine Zq ?_; refine ZR ?_; refine EE.thenR ?_; refine EE.ret _ rfl rfl ?_
    exact ⟨rfl, q⟩
  by_cases hD : 65536 < z
  · have hz0 := fun W => zero_T 1 l z x n c r p t true false false W hn hZ
    have hof := fun (W : World) (hv : ReadsT eE 3 W (.slice x n c) m) => rof_mt m _ W hv hlen hV
    clear h hZ hv
    refine X.fn Tryd.func15 rfl (n := 130) rfl rfl ?_
    refine Zr ?_
    refine LL.box [.int .i64 1, .int .i64 l, .int .i64 z, .slice x n c, .int .i64 r, .int .i64 p, strV t] rfl rfl rfl rfl rfl ?_
    intro Wj2 gj3 egj3 rj4 zj5 bj1
    replace q := Zu q bj1; refine Za ?_; refine Zq ?_; refine Zr ?_; refine Zf ?_; refine Zl rj4 ?_; refine Za ?_; refine Zq ?_; refine Zr ?_; refine Zm ?_; refine ZgeT ?_; refine Zm ?_; refine Zm ?_; refine ZleT ?_; refine Zp ?_; refine Zm ?_; refine Zf ?_; refine Zl rj4 ?_; refine ZgeT ?_; refine Zp ?_; refine Zm ?_; refine Zf ?_; refine Zl rj4 ?_; refine ZleT ?_; refine Zp ?_; refine Zm ?_; refine Zv rj4 ?_
    refine Zm ?_; refine ZeqT ?_; refine Zm ?_; refine ZeqF ?_; refine Zm ?_; refine ZeqF ?_
    refine Zy (R.call rfl rfl rfl) (hz0 _) ?_
    rintro e Wj7 ⟨rfl, bj6⟩
    refine ⟨_, rfl, ?_⟩; have zbj6 := bj6.size; replace rj4 := rj4.up bj6; replace bj1 := Zu bj1 bj6; replace q := Zu q bj6; refine Zp ?_; refine Za ?_; refine Zq ?_; refine Zc ?_; refine Zr ?_; refine Zm ?_; refine Zq ?_; refine CC.block ?_; refine Zr ?_; refine ZeqF ?_; refine Za ?_; refine Zq ?_; refine ZN ?_; refine Zr ?_; refine ZeqT ?_; refine Za ?_; refine Zq ?_; refine ZY ?_; refine Zr ?_; refine Zf ?_
    refine Zl rj4 ?_
    refine Zy (R.call rfl rfl rfl) (hof _ (hvF _ q)) ?_
    rintro e Wj10 ⟨vj12, kj13, rfl, lj11, bj9⟩
    refine ⟨_, rfl, ?_⟩; have zbj9 := bj9.size; replace bj6 := Zu bj6 bj9; replace rj4 := rj4.up bj9; replace bj1 := Zu bj1 bj9; replace q := Zu q bj9; refine Zm ?_; refine Zx ?_; refine Zx ?_; have lj15 := rj4.lt
    refine LL.alloc (intsZ .i64 (List.replicate 128 0)) rfl rfl rfl rfl rfl ?_
    intro Wj17 gj18 egj18 rj19 zj20 bj16
    replace bj9 := Zu bj9 bj16; replace bj6 := Zu bj6 bj16; replace rj4 := rj4.up bj16; replace bj1 := Zu bj1 bj16; replace q := Zu q bj16
    refine LL.storeAZ rfl rfl rfl rfl (by first | assumption | exact List.length_replicate | exact plL_len _ | exact plOf_len _ | simp) rj19 (by first | (rw [List.length_map]; exact (by first | assumption | exact List.length_replicate | exact plL_len _ | exact plOf_len _ | simp)) | simp) rfl rfl ?_
    intro Wj22 rj23 bj21 zj24
    have hlbj21 := rj19.lt
    clear rj19
    replace bj16 := Zg bj16 bj21; replace bj9 := Zg bj9 bj21; replace bj6 := Zg bj6 bj21; replace rj4 := Zd rj4 bj21; replace bj1 := Zg bj1 bj21; replace q := Zg q bj21
    have rj19 := rj23
    clear rj23
    refine Za ?_; refine Zq ?_; refine Zr ?_; refine Zm ?_; refine Zm ?_; refine Zm ?_; refine Zp ?_; refine Zm ?_; refine Zf ?_; refine Zl rj4 ?_; refine ZgeT ?_; refine Zp ?_; refine Zm ?_; refine Zf ?_; refine Zl rj4 ?_; refine ZleF ?_; refine Zp ?_; refine Za ?_; refine Zq ?_; refine Zr ?_; refine Za ?_; refine Zq ?_; refine CC.block ?_
    refine CC.loop (α := Unit) (fun s => [(1, .pointer (some ⟨gj3, 0, none⟩)), (4, .bool false), (5, .pointer (some ⟨gj18, 0, none⟩)), (7, .int .i64 0)]) (fun s W => Below w.heap.size w W) (fun s => 0) () ⟨rfl, rfl, rfl, rfl, trivial⟩ q ?_
    rintro _ W q
    show CC none Tryd.prog _ 130 [] (sl [(1, .pointer (some ⟨gj3, 0, none⟩)), (4, .bool false), (5, .pointer (some ⟨gj18, 0, none⟩)), (7, .int .i64 0)]) _ W
    refine Zc ?_; refine Zr ?_; refine Zm ?_; refine ZltT ?_; refine Zm ?_; refine Zm ?_; refine Zp ?_; refine Zq ?_; refine ZN ?_; refine CC.exit ?_; refine EE.thenX ?_; refine EE.thenX ?_; refine EE.inX ?_; refine EE.inN ?_; refine ZT ?_; refine Zc ?_; refine Zr ?_; refine Zm ?_; refine Zt ?_; refine Zq ?_; refine ZY ?_; refine Zr ?_; refine Za ?_; refine Zq ?_; refine ZR ?_; refine EE.thenR ?_; refine EE.ret _ rfl rfl ?_
    exact ⟨rfl, q⟩
  obtain ⟨hr0, hp0, ht0⟩ : r = 0 ∧ p = 0 ∧ t = [] := by
    obtain ⟨_, h2, h3⟩ := hZ
    simp only [Bool.false_eq_true, false_or] at h2 h3
    exact ⟨h2.1, h2.2, h3⟩
  subst hr0 hp0 ht0
  have hno : ¬fitF z m := fun hf => h ⟨by omega, hZ, by omega, hV, hf⟩
  exact rcheck_1L l z x n c m w hv hlen (by omega) (by omega) hV 240 ⟨fun hf => absurd hf hno, fun _ => rfl⟩
theorem rcheck_T (k l z : Int) (x : Option Addr) (n c : Nat) (m : List Ex) (r p : Int) (t : Bs) (w : World) (hv : ReadsT eE 3 w (.slice x n c) m) (hlen : m.length ≤ 1048576) (h : okI k l z m r p t) : Calls Tryd.prog 15 #[inV k l z (.slice x n c) r p t] w fun e w' => e = .returned (.int .i64 0) ∧ Below w.heap.size w w' := by
  have hn : m.length = n := by obtain ⟨_, _, e, _⟩ := hv; cases e; rfl
  obtain ⟨hl, ⟨rfl, rfl, rfl, rfl, rfl, rfl, rfl⟩ | ⟨rfl, rfl, rfl, rfl, hf⟩ | ⟨rfl, rfl, rfl, rfl, h1⟩ | ⟨rfl, rfl, rfl, rfl, rfl, h1⟩⟩ := h
  · obtain rfl : n = 0 := by simpa using hn.symm
    exact rcheck_0T 0 x c w rfl
  · exact rcheck_1L l z x n c m w hv hlen hl hf.1 hf.2.1 0 ⟨fun _ => rfl, fun h => absurd hf.2.2 h⟩
  · obtain rfl : n = 0 := by simpa using hn.symm
    exact rcheck_2T l x c r p w hl h1.1 h1.2
  · obtain rfl : n = 0 := by simpa using hn.symm
    exact rcheck_3T l x c t w hl h1.1 h1.2
theorem rcheck_F (k l z : Int) (x : Option Addr) (n c : Nat) (m : List Ex) (r p : Int) (t : Bs) (w : World) (hv : ReadsT eE 3 w (.slice x n c) m) (hlen : m.length ≤ 1048576) (htl : t.length ≤ 1048576) (h : ¬okI k l z m r p t) : Calls Tryd.prog 15 #[inV k l z (.slice x n c) r p t] w fun e w' => e = .returned (.int .i64 240) ∧ Below w.heap.size w w' := by
  have hn : m.length = n := by obtain ⟨_, _, e, _⟩ := hv; cases e; rfl
  have hmn : n = 0 ↔ m = [] := by rw [← hn]; exact List.length_eq_zero_iff
  by_cases hk : k < 0 ∨ 3 < k
  · exact rcheck_kF k l z x n c r p t w hk
  rcases (by omega : k = 0 ∨ k = 1 ∨ k = 2 ∨ k = 3) with rfl | rfl | rfl | rfl
  · refine rcheck_0F l z x n c r p t w (by omega) fun ⟨h1, h2, h3, h4⟩ => h ?_
    simp only [Bool.false_eq_true, false_or] at h2 h3 h4
    subst h1
    exact ⟨by omega, .inl ⟨rfl, rfl, h2.1, hmn.1 h2.2, h3.1, h3.2, h4⟩⟩
  · refine rcheck_1F l z x n c m r p t w hv hlen fun ⟨h1, ⟨h2, h3, h4⟩, h5⟩ => h ?_
    simp only [Bool.false_eq_true, false_or] at h3 h4
    exact ⟨h1, .inr (.inl ⟨rfl, h3.1, h3.2, h4, h5⟩)⟩
  · refine rcheck_2F l z x n c r p t w (by omega) fun ⟨h1, ⟨h2, h3, h4⟩, h5⟩ => h ?_
    simp only [Bool.false_eq_true, false_or] at h2 h4
    exact ⟨h1, .inr (.inr (.inl ⟨rfl, h2.1, hmn.1 h2.2, h4, h5⟩))⟩
  · refine rcheck_3F l z x n c r p t w (by omega) (by omega) fun ⟨h1, ⟨h2, h3, h4⟩, h5⟩ => h ?_
    simp only [Bool.false_eq_true, false_or] at h2 h3
    exact ⟨h1, .inr (.inr (.inr ⟨rfl, h2.1, hmn.1 h2.2, h3.1, h3.2, h5⟩))⟩
theorem rlay_own (v : Value) (l : Bs) (w : World) (hv : Reads w v (ints .u8 (nbL l))) (hl : l.length ≤ 1048576) : Calls Tryd.prog 32 #[v] w fun e w' => ∃ v', e = .returned v' ∧ OwnW w' w.heap.size 41 v' ((l.length + 7) / 8) (ints .u64 (layL (nbL l))) ∧ Below w.heap.size w w' := by
  have h := rlay_any v (nbL l) w hv (nbL_lt l) (by rw [nbL_len]; omega)
  rw [nbL_len] at h
  exact h
theorem rinW_no (k l z : Int) (x : Option Addr) (n c : Nat) (m : List Ex) (r p : Int) (t : Bs) (w : World) (hv : ReadsT eE 3 w (.slice x n c) m) (hlen : m.length ≤ 1048576) (htl : t.length ≤ 1048576) (h : ¬okI k l z m r p t) : Calls Tryd.prog 12 #[inV k l z (.slice x n c) r p t] w fun e w' => e = .returned (.tuple #[.slice none 0 0, .int .i64 240]) ∧ Below w.heap.size w w' := by
  have q := Below.refl w.heap.size w
  have hvF : ∀ X, Below w.heap.size w X → ReadsT eE 3 X (.slice x n c) m := fun X b => hv.up b
  clear hv
  refine X.fn Tryd.func12 rfl (n := 85) rfl rfl ?_
  refine Zr ?_
  refine LL.box [.int .i64 k, .int .i64 l, .int .i64 z, .slice x n c, .int .i64 r, .int .i64 p, strV t] rfl rfl rfl rfl rfl ?_
  intro W2 g3 eg3 r4 z5 b1
  replace q := Zu q b1; refine Za ?_; refine Za ?_; refine Zq ?_; refine Zc ?_; refine Zr ?_; refine Zv r4 ?_
  refine Zy (R.call rfl rfl rfl) (rcheck_F k l z x n c m r p t _ (hvF _ q) hlen htl h) ?_
  rintro e W7 ⟨rfl, b6⟩
  refine ⟨_, rfl, ?_⟩; have zb6 := b6.size; replace r4 := r4.up b6; replace b1 := Zu b1 b6; replace q := Zu q b6; refine ZneT ?_; refine Zq ?_; refine ZY ?_; refine Zr ?_; refine Za ?_; refine Za ?_; refine Zq ?_; refine ZR ?_; refine EE.thenR ?_; refine EE.ret _ rfl rfl ?_
  exact ⟨rfl, q⟩
--C ref14_Check | hck @w (hvF _ q) | ⟨rfl, @b⟩
--C ref06_Words | rwords_T m _ @w (hvF _ q) hvl | ⟨rfl, @b⟩
theorem rinW_0 (x : Option Addr) (c : Nat) (w : World) : Calls Tryd.prog 12 #[inV 0 0 0 (.slice x 0 c) 0 0 []] w (wsP (inoW 0 0 0 [] 0 0 []) w) := by
  unfold wsP
  have q := Below.refl w.heap.size w
  have hvF : ∀ X, Below w.heap.size w X → True := fun X b => trivial
  have hck := fun W (_ : True) => rcheck_0T 0 x c W rfl
  rw [inoW_0]
  refine X.fn Tryd.func12 rfl (n := 85) rfl rfl ?_
  refine Zr ?_
  refine LL.box [.int .i64 0, .int .i64 0, .int .i64 0, .slice x 0 c, .int .i64 0, .int .i64 0, strV []] rfl rfl rfl rfl rfl ?_
  intro W9 g10 eg10 r11 z12 b8
  replace q := Zu q b8; refine Za ?_; refine Za ?_; refine Zq ?_; refine Zc ?_; refine Zr ?_; refine Zv r11 ?_
  refine Zy (R.call rfl rfl rfl) (hck _ (hvF _ q)) ?_
  rintro e W46 ⟨rfl, b45⟩
  refine ⟨_, rfl, ?_⟩; have zb45 := b45.size; replace r11 := r11.up b45; replace b8 := Zu b8 b45; replace q := Zu q b45; refine ZneF ?_; refine Zq ?_; refine ZN ?_; refine ZK ?_; refine ZT ?_; refine Zr ?_; have l60 := r11.lt
  (refine LL.makeE (l := 16) (m := 16) ElU14 rfl (by decide) rfl rfl rfl (Nat.le_refl _) (by decide) (by decide) rfl rfl ?_; intro W59 g1 eg1 r1 zg1 b56; replace r1 : RowL W59 g1 41 (ints .u64 (List.replicate 16 0)) := r1)
  have zb56 := b56.size; replace b45 := Zu b45 b56; replace r11 := r11.up b56; replace b8 := Zu b8 b56; replace q := Zu q b56; refine Za ?_; refine Zq ?_; refine Zr ?_; refine Zm ?_; refine Zf ?_; refine Zl r11 ?_
  refine LL.val (R.convI rfl rfl rfl rfl (wrapU (by omega) (by omega))) rfl rfl rfl ?_
  refine Zf ?_; refine Zl r11 ?_
  refine LL.val (R.convI rfl rfl rfl rfl (wrapU (by omega) (by omega))) rfl rfl rfl ?_
  refine LL.val (R.mulUE (a := 256) (b := 0) rfl rfl rfl rfl (by omega)) rfl rfl rfl ?_
  refine LL.val (R.addUE (a := 0) (b := 256 * 0) rfl rfl rfl rfl (by omega)) rfl rfl rfl ?_
  refine Zi ?_
  refine LL.store rfl rfl rfl rfl r1 (by exact Nat.le_of_ble_eq_true rfl) rfl rfl rfl rfl ?_
  intro W173 r174 b172 z175
  have hlb172 := r1.lt
  replace r174 : RowL W173 _ 41 [Value.int IntKind.u64 ↑(0 + 256 * 0), (fun n => Value.int IntKind.u64 ↑n) 0, (fun n => Value.int IntKind.u64 ↑n) 0, (fun n => Value.int IntKind.u64 ↑n) 0, (fun n => Value.int IntKind.u64 ↑n) 0, (fun n => Value.int IntKind.u64 ↑n) 0, (fun n => Value.int IntKind.u64 ↑n) 0, (fun n => Value.int IntKind.u64 ↑n) 0, (fun n => Value.int IntKind.u64 ↑n) 0, (fun n => Value.int IntKind.u64 ↑n) 0, (fun n => Value.int IntKind.u64 ↑n) 0, (fun n => Value.int IntKind.u64 ↑n) 0, (fun n => Value.int IntKind.u64 ↑n) 0, (fun n => Value.int IntKind.u64 ↑n) 0, (fun n => Value.int IntKind.u64 ↑n) 0, (fun n => Value.int IntKind.u64 ↑n) 0] := r174
  clear r1
  replace b56 := Zg b56 b172; replace b45 := Zg b45 b172; replace r11 := Zd r11 b172; replace b8 := Zg b8 b172; replace q := Zg q b172
  have r1 := r174
  clear r174
  refine Zq ?_; refine Zc ?_; refine Zr ?_; refine Zf ?_; refine Zl r11 ?_; refine Zq ?_; refine CC.block ?_; refine Zr ?_; refine ZeqF ?_; refine Za ?_; refine Zq ?_; refine ZN ?_; refine Zr ?_; refine ZeqF ?_; refine Za ?_; refine Zq ?_; refine ZN ?_; refine Zr ?_; refine ZeqF ?_; refine Za ?_; refine Zq ?_; refine ZN ?_; refine ZK ?_; refine EE.inN ?_; refine ZT ?_; refine Zr ?_; refine Zm ?_; refine Za ?_
  refine Za ?_; refine Zq ?_; refine ZR ?_; refine EE.ret _ rfl rfl ?_
  exact ⟨_, rfl, by assumption, by omega, q⟩
theorem rinW_2 (l r p : Nat) (x : Option Addr) (c : Nat) (w : World) (hl : l ≤ 65535) (hr : 1 ≤ r ∧ r ≤ 2047) (hp : 1 ≤ p ∧ p ≤ 256) : Calls Tryd.prog 12 #[inV 2 (l : Int) 0 (.slice x 0 c) (r : Int) (p : Int) []] w (wsP (inoW 2 (l : Int) 0 [] (r : Int) (p : Int) []) w) := by
  unfold wsP
  have q := Below.refl w.heap.size w
  have hvF : ∀ X, Below w.heap.size w X → True := fun X b => trivial
  have hck := fun W (_ : True) => rcheck_2T (l : Int) x c (r : Int) (p : Int) W (by omega) (by omega) (by omega)
  rw [inoW_2]
  refine X.fn Tryd.func12 rfl (n := 85) rfl rfl ?_
  refine Zr ?_
  refine LL.box [.int .i64 2, .int .i64 ↑l, .int .i64 0, .slice x 0 c, .int .i64 ↑r, .int .i64 ↑p, strV []] rfl rfl rfl rfl rfl ?_
  intro W9 g10 eg10 r11 z12 b8
  replace q := Zu q b8; refine Za ?_; refine Za ?_; refine Zq ?_; refine Zc ?_; refine Zr ?_; refine Zv r11 ?_
  refine Zy (R.call rfl rfl rfl) (hck _ (hvF _ q)) ?_
  rintro e W46 ⟨rfl, b45⟩
  refine ⟨_, rfl, ?_⟩; have zb45 := b45.size; replace r11 := r11.up b45; replace b8 := Zu b8 b45; replace q := Zu q b45; refine ZneF ?_; refine Zq ?_; refine ZN ?_; refine ZK ?_; refine ZT ?_; refine Zr ?_; have l60 := r11.lt
  (refine LL.makeE (l := 16) (m := 16) ElU14 rfl (by decide) rfl rfl rfl (Nat.le_refl _) (by decide) (by decide) rfl rfl ?_; intro W59 g1 eg1 r1 zg1 b56; replace r1 : RowL W59 g1 41 (ints .u64 (List.replicate 16 0)) := r1)
  have zb56 := b56.size; replace b45 := Zu b45 b56; replace r11 := r11.up b56; replace b8 := Zu b8 b56; replace q := Zu q b56; refine Za ?_; refine Zq ?_; refine Zr ?_; refine Zm ?_; refine Zf ?_; refine Zl r11 ?_
  refine LL.val (R.convI rfl rfl rfl rfl (wrapU (by omega) (by omega))) rfl rfl rfl ?_
  refine Zf ?_; refine Zl r11 ?_
  refine LL.val (R.convI rfl rfl rfl rfl (wrapU (by omega) (by omega))) rfl rfl rfl ?_
  refine LL.val (R.mulUE (a := 256) (b := l) rfl rfl rfl rfl (by omega)) rfl rfl rfl ?_
  refine LL.val (R.addUE (a := 2) (b := 256 * l) rfl rfl rfl rfl (by omega)) rfl rfl rfl ?_
  refine Zi ?_
  refine LL.store rfl rfl rfl rfl r1 (by exact Nat.le_of_ble_eq_true rfl) rfl rfl rfl rfl ?_
  intro W173 r174 b172 z175
  have hlb172 := r1.lt
  replace r174 : RowL W173 _ 41 [Value.int IntKind.u64 ↑(2 + 256 * l), (fun n => Value.int IntKind.u64 ↑n) 0, (fun n => Value.int IntKind.u64 ↑n) 0, (fun n => Value.int IntKind.u64 ↑n) 0, (fun n => Value.int IntKind.u64 ↑n) 0, (fun n => Value.int IntKind.u64 ↑n) 0, (fun n => Value.int IntKind.u64 ↑n) 0, (fun n => Value.int IntKind.u64 ↑n) 0, (fun n => Value.int IntKind.u64 ↑n) 0, (fun n => Value.int IntKind.u64 ↑n) 0, (fun n => Value.int IntKind.u64 ↑n) 0, (fun n => Value.int IntKind.u64 ↑n) 0, (fun n => Value.int IntKind.u64 ↑n) 0, (fun n => Value.int IntKind.u64 ↑n) 0, (fun n => Value.int IntKind.u64 ↑n) 0, (fun n => Value.int IntKind.u64 ↑n) 0] := r174
  clear r1
  replace b56 := Zg b56 b172; replace b45 := Zg b45 b172; replace r11 := Zd r11 b172; replace b8 := Zg b8 b172; replace q := Zg q b172
  have r1 := r174
  clear r174
  refine Zq ?_; refine Zc ?_; refine Zr ?_; refine Zf ?_; refine Zl r11 ?_; refine Zq ?_; refine CC.block ?_; refine Zr ?_; refine ZeqF ?_; refine Za ?_; refine Zq ?_; refine ZN ?_; refine Zr ?_; refine ZeqT ?_; refine Za ?_; refine Zq ?_; refine ZY ?_
  refine CC.freeZ (fun W_ j => j < W_.heap.size ∧ (j ≠ g1)) (by kernel_rfl) (by kernel_rfl) (fun W231 b230 z232 => ?_)
  replace b56 := Zu b56 b230; replace b45 := Zu b45 b230; replace r11 := r11.up b230; replace b8 := Zu b8 b230; replace q := Zu q b230; replace r1 := r1.up b230
  have hok : Kept (fun j => j < W231.heap.size ∧ (j ≠ g1)) W231 W231 := Kept.refl _ _
  have fzr11 := fzRow (K := fun j => j < W231.heap.size ∧ (j ≠ g1)) r11 ⟨r11.lt, (by first | trivial | omega)⟩
  refine AA.pure 0 rfl hok (by kernel_rfl) (fun w' b' => R.move rfl rfl) rfl rfl ?_
  refine AA.pure 1 rfl hok (by kernel_rfl) (fun w' b' => R.move rfl rfl) rfl rfl ?_
  refine AA.pure 2 rfl hok (by kernel_rfl) (fun w' b' => R.field rfl rfl (I.fld rfl)) rfl rfl ?_
  refine AA.pure 3 rfl hok (by kernel_rfl) (fun w' b' => R.load rfl rfl (I.ld1 rfl (RowL.cell (fzr11 w' b') rfl))) rfl rfl ?_
  refine AA.pure 4 rfl hok (by kernel_rfl) (fun w' b' => R.convI rfl rfl rfl rfl (wrapU (by omega) (by omega))) rfl rfl ?_
  refine AA.pure 5 rfl hok (by kernel_rfl) (fun w' b' => R.field rfl rfl (I.fld rfl)) rfl rfl ?_
  refine AA.pure 6 rfl hok (by kernel_rfl) (fun w' b' => R.load rfl rfl (I.ld1 rfl (RowL.cell (fzr11 w' b') rfl))) rfl rfl ?_
  refine AA.pure 7 rfl hok (by kernel_rfl) (fun w' b' => R.convI rfl rfl rfl rfl (wrapU (by omega) (by omega))) rfl rfl ?_
  refine AA.pure 8 rfl hok (by kernel_rfl) (fun w' b' => R.index rfl rfl rfl (I.ixS1c rfl rfl (by omega))) rfl rfl ?_
  refine AA.one 9 (by kernel_rfl) ?_
  refine ZR.store rfl rfl rfl rfl rfl r1 (by exact Nat.le_of_ble_eq_true rfl) rfl rfl rfl rfl ?_
  intro W243 r244 b242 z245
  have hlb242 := r1.lt
  replace r244 : RowL W243 _ 41 [Value.int IntKind.u64 ↑(2 + 256 * l), (fun n => Value.int IntKind.u64 n) 0, Value.int IntKind.u64 ↑r, (fun n => Value.int IntKind.u64 n) 0, (fun n => Value.int IntKind.u64 n) 0, (fun n => Value.int IntKind.u64 n) 0, (fun n => Value.int IntKind.u64 n) 0, (fun n => Value.int IntKind.u64 n) 0, (fun n => Value.int IntKind.u64 n) 0, (fun n => Value.int IntKind.u64 n) 0, (fun n => Value.int IntKind.u64 n) 0, (fun n => Value.int IntKind.u64 n) 0, (fun n => Value.int IntKind.u64 n) 0, (fun n => Value.int IntKind.u64 n) 0, (fun n => Value.int IntKind.u64 n) 0, (fun n => Value.int IntKind.u64 n) 0] := r244
  clear r1
  replace b56 := Zg b56 b242; replace b45 := Zg b45 b242; replace r11 := Zd r11 b242; replace b8 := Zg b8 b242; replace q := Zg q b242; replace hok := Zo hok b242
  have r1 := r244
  clear r244
  refine ⟨hok, ?_⟩
  refine AA.pure 10 rfl hok (by kernel_rfl) (fun w' b' => R.index rfl rfl rfl (I.ixS1c rfl rfl (by omega))) rfl rfl ?_
  refine AA.one 11 (by kernel_rfl) ?_
  refine ZR.store rfl rfl rfl rfl rfl r1 (by exact Nat.le_of_ble_eq_true rfl) rfl rfl rfl rfl ?_
  intro W256 r257 b255 z258
  have hlb255 := r1.lt
  replace r257 : RowL W256 _ 41 [Value.int IntKind.u64 ↑(2 + 256 * l), (fun n => Value.int IntKind.u64 n) 0, Value.int IntKind.u64 ↑r, Value.int IntKind.u64 ↑p, (fun n => Value.int IntKind.u64 n) 0, (fun n => Value.int IntKind.u64 n) 0, (fun n => Value.int IntKind.u64 n) 0, (fun n => Value.int IntKind.u64 n) 0, (fun n => Value.int IntKind.u64 n) 0, (fun n => Value.int IntKind.u64 n) 0, (fun n => Value.int IntKind.u64 n) 0, (fun n => Value.int IntKind.u64 n) 0, (fun n => Value.int IntKind.u64 n) 0, (fun n => Value.int IntKind.u64 n) 0, (fun n => Value.int IntKind.u64 n) 0, (fun n => Value.int IntKind.u64 n) 0] := r257
  clear r1
  replace b56 := Zg b56 b255; replace b45 := Zg b45 b255; replace r11 := Zd r11 b255; replace b8 := Zg b8 b255; replace q := Zg q b255; replace hok := Zo hok b255
  have r1 := r257
  clear r257
  refine ⟨hok, ?_⟩
  refine AA.done rfl ?_
  clear fzr11 hok
  refine EE.inN ?_; refine ZT ?_; refine Zr ?_; refine Zm ?_; refine Za ?_; refine Za ?_; refine Zq ?_; refine ZR ?_; refine EE.ret _ rfl rfl ?_
  exact ⟨_, rfl, by assumption, by omega, q⟩
/-- Sixteen words of which so many are filled in. -/
def filL (a b : Nat) (xs : List Nat) (i : Nat) : List Nat := a :: b :: (xs.take i ++ List.replicate (14 - i) 0)
theorem filL_len (a b : Nat) (xs : List Nat) (i : Nat) (h : i ≤ xs.length) (h2 : i ≤ 14) : (filL a b xs i).length = 16 := by
  simp [filL]
  omega
theorem filL_set (a b : Nat) (xs : List Nat) (i v : Nat) (h : i < xs.length) (h2 : i < 14) (hv : xs[i]? = some v) : (filL a b xs i).set (2 + i) v = filL a b xs (i + 1) := by
  unfold filL
  rw [Nat.add_comm 2 i]
  show a :: b :: ((xs.take i ++ List.replicate (14 - i) 0).set i v) = _
  have hl : (xs.take i).length = i := by simp; omega
  rw [List.set_append_right _ _ (by omega), hl, Nat.sub_self]
  obtain ⟨k, hk⟩ : ∃ k, 14 - i = k + 1 := ⟨14 - i - 1, by omega⟩
  rw [hk, show 14 - (i + 1) = k by omega, List.replicate_succ, List.set_cons_zero, List.take_add_one, hv]
  simp
theorem filL_setE (a b : Nat) (xs : List Nat) (i v : Nat) (h : i < xs.length) (h2 : i < 14) (hv : xs[i]? = some v) : (ints .u64 (filL a b xs i)).set (2 + i) (.int .u64 (v : Int)) = ints .u64 (filL a b xs (i + 1)) := by
  rw [← filL_set a b xs i v h h2 hv]
  simp [ints]
theorem filL_all (a b : Nat) (xs : List Nat) : filL a b xs xs.length = a :: b :: (xs ++ List.replicate (14 - xs.length) 0) := by simp [filL]
theorem rinW_1 (l z : Nat) (x : Option Addr) (n c : Nat) (m : List Ex) (w : World) (hv : ReadsT eE 3 w (.slice x n c) m) (hlen : m.length ≤ 1048576) (hl : l ≤ 65535) (hf : okF (z : Int) m) : Calls Tryd.prog 12 #[inV 1 (l : Int) (z : Int) (.slice x n c) 0 0 []] w (wsP (inoW 1 (l : Int) (z : Int) m 0 0 []) w) := by
  unfold wsP
  have q := Below.refl w.heap.size w
  have hvF : ∀ X, Below w.heap.size w X → ReadsT eE 3 X (.slice x n c) m := fun X b => hv.up b
  have hck := fun W (h : ReadsT eE 3 W (.slice x n c) m) => rcheck_T 1 (l : Int) (z : Int) x n c m 0 0 [] W h hlen ⟨by omega, .inr (.inl ⟨rfl, rfl, rfl, rfl, hf⟩)⟩
  have hvl := hf.2.1
  have hz := hf.1
  have hxl := wrdN_len hvl
  have hxz := wrdN_Z hvl.2.1
  have hwl : (wrdZ m).length = 10 := wrdZ_len hvl.1
  rw [inoW_1 _ _ _ _ _ _ hvl]
  clear hv
  refine X.fn Tryd.func12 rfl (n := 85) rfl rfl ?_
  refine Zr ?_
  refine LL.box [.int .i64 1, .int .i64 ↑l, .int .i64 ↑z, .slice x n c, .int .i64 0, .int .i64 0, strV []] rfl rfl rfl rfl rfl ?_
  intro W9 g10 eg10 r11 z12 b8
  replace q := Zu q b8; refine Za ?_; refine Za ?_; refine Zq ?_; refine Zc ?_; refine Zr ?_; refine Zv r11 ?_
  refine Zy (R.call rfl rfl rfl) (hck _ (hvF _ q)) ?_
  rintro e W46 ⟨rfl, b45⟩
  refine ⟨_, rfl, ?_⟩; have zb45 := b45.size; replace r11 := r11.up b45; replace b8 := Zu b8 b45; replace q := Zu q b45; refine ZneF ?_; refine Zq ?_; refine ZN ?_; refine ZK ?_; refine ZT ?_; refine Zr ?_; have l60 := r11.lt
  (refine LL.makeE (l := 16) (m := 16) ElU14 rfl (by decide) rfl rfl rfl (Nat.le_refl _) (by decide) (by decide) rfl rfl ?_; intro W59 g1 eg1 r1 zg1 b56; replace r1 : RowL W59 g1 41 (ints .u64 (List.replicate 16 0)) := r1)
  have zb56 := b56.size; replace b45 := Zu b45 b56; replace r11 := r11.up b56; replace b8 := Zu b8 b56; replace q := Zu q b56; refine Za ?_; refine Zq ?_; refine Zr ?_; refine Zm ?_; refine Zf ?_; refine Zl r11 ?_
  refine LL.val (R.convI rfl rfl rfl rfl (wrapU (by omega) (by omega))) rfl rfl rfl ?_
  refine Zf ?_; refine Zl r11 ?_
  refine LL.val (R.convI rfl rfl rfl rfl (wrapU (by omega) (by omega))) rfl rfl rfl ?_
  refine LL.val (R.mulUE (a := 256) (b := l) rfl rfl rfl rfl (by omega)) rfl rfl rfl ?_
  refine LL.val (R.addUE (a := 1) (b := 256 * l) rfl rfl rfl rfl (by omega)) rfl rfl rfl ?_
  refine Zi ?_
  refine LL.store rfl rfl rfl rfl r1 (by exact Nat.le_of_ble_eq_true rfl) rfl rfl rfl rfl ?_
  intro W173 r174 b172 z175
  have hlb172 := r1.lt
  replace r174 : RowL W173 _ 41 [Value.int IntKind.u64 ↑(1 + 256 * l), (fun n => Value.int IntKind.u64 ↑n) 0, (fun n => Value.int IntKind.u64 ↑n) 0, (fun n => Value.int IntKind.u64 ↑n) 0, (fun n => Value.int IntKind.u64 ↑n) 0, (fun n => Value.int IntKind.u64 ↑n) 0, (fun n => Value.int IntKind.u64 ↑n) 0, (fun n => Value.int IntKind.u64 ↑n) 0, (fun n => Value.int IntKind.u64 ↑n) 0, (fun n => Value.int IntKind.u64 ↑n) 0, (fun n => Value.int IntKind.u64 ↑n) 0, (fun n => Value.int IntKind.u64 ↑n) 0, (fun n => Value.int IntKind.u64 ↑n) 0, (fun n => Value.int IntKind.u64 ↑n) 0, (fun n => Value.int IntKind.u64 ↑n) 0, (fun n => Value.int IntKind.u64 ↑n) 0] := r174
  clear r1
  replace b56 := Zg b56 b172; replace b45 := Zg b45 b172; replace r11 := Zd r11 b172; replace b8 := Zg b8 b172; replace q := Zg q b172
  have r1 := r174
  clear r174
  refine Zq ?_; refine Zc ?_; refine Zr ?_; refine Zf ?_; refine Zl r11 ?_; refine Zq ?_; refine CC.block ?_; refine Zr ?_; refine ZeqT ?_; refine Za ?_; refine Zq ?_; refine ZY ?_; refine Zr ?_; refine Zm ?_; refine Zf ?_; refine Zl r11 ?_
  refine LL.val (R.convI rfl rfl rfl rfl (wrapU (by omega) (by omega))) rfl rfl rfl ?_
  refine Zi ?_
  refine LL.store rfl rfl rfl rfl r1 (by exact Nat.le_of_ble_eq_true rfl) rfl rfl rfl rfl ?_
  intro W267 r268 b266 z269
  have hlb266 := r1.lt
  replace r268 : RowL W267 _ 41 [Value.int IntKind.u64 ↑(1 + 256 * l), Value.int IntKind.u64 ↑z, (fun n => Value.int IntKind.u64 n) 0, (fun n => Value.int IntKind.u64 n) 0, (fun n => Value.int IntKind.u64 n) 0, (fun n => Value.int IntKind.u64 n) 0, (fun n => Value.int IntKind.u64 n) 0, (fun n => Value.int IntKind.u64 n) 0, (fun n => Value.int IntKind.u64 n) 0, (fun n => Value.int IntKind.u64 n) 0, (fun n => Value.int IntKind.u64 n) 0, (fun n => Value.int IntKind.u64 n) 0, (fun n => Value.int IntKind.u64 n) 0, (fun n => Value.int IntKind.u64 n) 0, (fun n => Value.int IntKind.u64 n) 0, (fun n => Value.int IntKind.u64 n) 0] := r268
  clear r1
  replace b56 := Zg b56 b266; replace b45 := Zg b45 b266; replace r11 := Zd r11 b266; replace b8 := Zg b8 b266; replace q := Zg q b266
  have r1 := r268
  clear r268
  refine Zq ?_; refine Zr ?_; refine Zf ?_; refine Zl r11 ?_
  refine Zy (R.call rfl rfl rfl) (rwords_T m _ _ (hvF _ q) hvl) ?_
  rintro e W298 ⟨rfl, b297⟩
  refine ⟨_, rfl, ?_⟩; have zb297 := b297.size; replace b56 := Zu b56 b297; replace b45 := Zu b45 b297; replace r11 := r11.up b297; replace b8 := Zu b8 b297; replace q := Zu q b297; replace r1 := r1.up b297; have l309 := r11.lt; have l310 := r1.lt
  refine LL.alloc (intsZ .u64 (List.replicate 10 0)) rfl rfl rfl rfl rfl ?_
  intro W312 g313 eg313 r314 z315 b311
  replace b297 := Zu b297 b311; replace b56 := Zu b56 b311; replace b45 := Zu b45 b311; replace r11 := r11.up b311; replace b8 := Zu b8 b311; replace q := Zu q b311; replace r1 := r1.up b311
  refine LL.storeAZ rfl rfl rfl rfl (by first | assumption | exact List.length_replicate | exact plL_len _ | exact plOf_len _ | simp) r314 (by first | (rw [List.length_map]; exact (by first | assumption | exact List.length_replicate | exact plL_len _ | exact plOf_len _ | simp)) | simp) rfl rfl ?_
  intro W327 r328 b326 z329
  have hlb326 := r314.lt
  clear r314
  replace b311 := Zg b311 b326; replace b297 := Zg b297 b326; replace b56 := Zg b56 b326; replace b45 := Zg b45 b326; replace r11 := Zd r11 b326; replace b8 := Zg b8 b326; replace q := Zg q b326; replace r1 := Zd r1 b326
  have r314 := r328
  clear r328
  refine Zq ?_; refine Zr ?_; refine Za ?_; refine Zq ?_; refine CC.block ?_
  have r1b : RowL W327 g1 41 (ints .u64 (filL (1 + 256 * l) z (wrdN m) 0)) := r1
  have hg1 : w.heap.size ≤ g1 := by omega
  have hne : g1 ≠ g313 := by omega
  clear r1
  refine CC.loop (α := Nat) (fun i => [(4, .slice (some ⟨g1, 0, none⟩) 16 16), (5, .pointer (some ⟨g313, 0, none⟩)), (6, .int .i64 (i : Int))]) (fun i W => i ≤ 10 ∧ Below w.heap.size w W ∧ RowL W g1 41 (ints .u64 (filL (1 + 256 * l) z (wrdN m) i)) ∧ RowL W g313 74 (intsZ .u64 (wrdZ m))) (fun i => 10 - i) 0 ⟨rfl, rfl, rfl, trivial⟩ ⟨by omega, q, r1b, r314⟩ ?_
  clear q r1b r314 r11 b8 b45 b56 b297 b311 b326
  rintro i W ⟨hi, q, r1, r2⟩
  show CC none Tryd.prog _ 85 [] (sl [(4, .slice (some ⟨g1, 0, none⟩) 16 16), (5, .pointer (some ⟨g313, 0, none⟩)), (6, .int .i64 (i : Int))]) _ W
  have yq := q.size
  by_cases hlt : i < 10
  case neg =>
    obtain rfl : i = 10 := by omega
    rw [show filL (1 + 256 * l) z (wrdN m) 10 = (1 + 256 * l) :: z :: (wrdN m ++ List.replicate 4 0) by have := filL_all (1 + 256 * l) z (wrdN m); rwa [hxl] at this] at r1
    refine Zc ?_; refine Zr ?_; refine Zm ?_; refine ZltF ?_; refine Zq ?_; refine ZN ?_; refine CC.exit ?_; refine EE.thenX ?_; refine EE.thenX ?_; refine EE.inX ?_; refine EE.inN ?_; refine ZT ?_; refine Zr ?_; refine Zm ?_; refine Za ?_; refine Za ?_; refine Zq ?_; refine ZR ?_; refine EE.ret _ rfl rfl ?_
    exact ⟨_, rfl, r1, hg1, q⟩
  obtain ⟨y, hy⟩ : ∃ y, (wrdN m)[i]? = some y := ⟨_, List.getElem?_eq_getElem (by omega)⟩
  have hyz : (wrdZ m)[i]? = some (y : Int) := by rw [← hxz, List.getElem?_map, hy]; rfl
  have c1 : W.cell? ⟨g313, 0 + i, none⟩ = some (.int .u64 (y : Int)) := RowL.cell r2 (by rw [show 0 + i = i by omega]; simp [hyz])
  have hst := filL_setE (1 + 256 * l) z (wrdN m) i y (by omega) (by omega) hy
  have hfl : (ints .u64 (filL (1 + 256 * l) z (wrdN m) i)).length = 16 := by simp [ints, filL_len (1 + 256 * l) z (wrdN m) i (by omega) (by omega)]
  refine Zc ?_; refine Zr ?_; refine Zm ?_; refine ZltT ?_; refine Zq ?_; refine ZY ?_; refine ZK ?_; refine ZT ?_; refine Zc ?_; refine CC.block ?_; refine CC.region ?_; refine Zm ?_; refine Zm ?_
  (refine LL.val (R.addN (a := 2) (b := i) rfl rfl rfl (by omega)) rfl rfl rfl ?_)
  refine Zm ?_
  refine LL.val (R.index rfl rfl rfl (I.ixA1 rfl (by omega))) rfl rfl rfl ?_
  refine Zk ?_
  refine LL.val (R.index rfl rfl rfl (I.ixS1 rfl (by omega))) rfl rfl rfl ?_
  (refine LL.store rfl rfl rfl rfl r1 (by rw [hfl]; omega) rfl rfl rfl rfl ?_; intro Wb60 r9 grb58 zz9; rw [Nat.zero_add, hst] at r9; clear r1; have r1 := r9; clear r9)
  have zgrb58 := grb58.size; replace q := Zg q grb58; replace r2 := Zd r2 grb58; replace c1 := Ze c1 grb58; refine ZL ?_; refine EE.inN ?_; refine ZT ?_; refine CC.region ?_; refine Zm ?_
  refine LL.val (R.addNc rfl rfl rfl rfl (by omega)) rfl rfl rfl ?_
  refine Za ?_; refine ZL ?_
  exact EE.round (i + 1) ⟨rfl, rfl, rfl, trivial⟩ ⟨by omega, q, r1, r2⟩ (by omega)
  all_goals trace_state
theorem rlay_form (v : Value) (l : Bs) (w : World) (hv : Reads w v (ints .u8 (nbL l))) (hl : l.length ≤ 1048576) (h1 : 1 ≤ l.length) : Calls Tryd.prog 32 #[v] w fun e w' => ∃ g c, e = .returned (.slice (some ⟨g, 0, none⟩) ((l.length + 7) / 8) c) ∧ Reads w' (.slice (some ⟨g, 0, none⟩) ((l.length + 7) / 8) c) (ints .u64 (layL (nbL l))) ∧ w.heap.size ≤ g ∧ g < w'.heap.size ∧ Below w.heap.size w w' := by
  refine (rlay_own v l w hv hl).mono ?_
  rintro e w' ⟨v', rfl, o, b⟩
  have hr := o.reads
  rcases o.2 with ⟨_, h0⟩ | ⟨g, cap, cur, rfl, hbg, hg, _⟩
  · omega
  · exact ⟨g, cap, rfl, hr, hbg, (Array.getElem?_eq_some_iff.1 hg).1, b⟩
theorem rinW_3 (l : Nat) (t : Bs) (x : Option Addr) (c : Nat) (w : World) (hl : l ≤ 65535) (h : (1 ≤ t.length ∧ t.length ≤ 112) ∧ (0 : UInt8) ∉ t) : Calls Tryd.prog 12 #[inV 3 (l : Int) 0 (.slice x 0 c) 0 0 t] w (wsP (inoW 3 (l : Int) 0 [] 0 0 t) w) := by
  unfold wsP
  have q := Below.refl w.heap.size w
  have hck := fun W => rcheck_3T (l : Int) x c t W (by omega) h.1 h.2
  have ht := h.1
  have hxl := layL_len t
  rw [inoW_3 _ _ _ _ _ _ ht.2]
  clear h
  refine X.fn Tryd.func12 rfl (n := 85) rfl rfl ?_
  refine Zr ?_
  refine LL.box [.int .i64 3, .int .i64 ↑l, .int .i64 0, .slice x 0 c, .int .i64 0, .int .i64 0, strV t] rfl rfl rfl rfl rfl ?_
  intro W16 g17 eg17 r18 z19 b15
  replace q := Zu q b15; refine Za ?_; refine Za ?_; refine Zq ?_; refine Zc ?_; refine Zr ?_; refine Zv r18 ?_
  refine Zy (R.call rfl rfl rfl) (hck _) ?_
  rintro e W85 ⟨rfl, b84⟩
  refine ⟨_, rfl, ?_⟩; have zb84 := b84.size; replace r18 := r18.up b84; replace b15 := Zu b15 b84; replace q := Zu q b84; refine ZneF ?_; refine Zq ?_; refine ZN ?_; refine ZK ?_; refine ZT ?_; refine Zr ?_; have l107 := r18.lt
  (refine LL.makeE (l := 16) (m := 16) ElU14 rfl (by decide) rfl rfl rfl (Nat.le_refl _) (by decide) (by decide) rfl rfl ?_; intro W106 g1 eg1 r1 zg1 b103; replace r1 : RowL W106 g1 41 (ints .u64 (List.replicate 16 0)) := r1)
  have zb103 := b103.size; replace b84 := Zu b84 b103; replace r18 := r18.up b103; replace b15 := Zu b15 b103; replace q := Zu q b103; refine Za ?_; refine Zq ?_; refine Zr ?_; refine Zm ?_; refine Zf ?_; refine Zl r18 ?_
  refine LL.val (R.convI rfl rfl rfl rfl (wrapU (by omega) (by omega))) rfl rfl rfl ?_
  refine Zf ?_; refine Zl r18 ?_
  refine LL.val (R.convI rfl rfl rfl rfl (wrapU (by omega) (by omega))) rfl rfl rfl ?_
  refine LL.val (R.mulUE (a := 256) (b := l) rfl rfl rfl rfl (by omega)) rfl rfl rfl ?_
  refine LL.val (R.addUE (a := 3) (b := 256 * l) rfl rfl rfl rfl (by omega)) rfl rfl rfl ?_
  refine Zi ?_
  refine LL.store rfl rfl rfl rfl r1 (by exact Nat.le_of_ble_eq_true rfl) rfl rfl rfl rfl ?_
  intro W310 r311 b309 z312
  have hlb309 := r1.lt
  replace r311 : RowL W310 _ 41 [Value.int IntKind.u64 ↑(3 + 256 * l), (fun n => Value.int IntKind.u64 ↑n) 0, (fun n => Value.int IntKind.u64 ↑n) 0, (fun n => Value.int IntKind.u64 ↑n) 0, (fun n => Value.int IntKind.u64 ↑n) 0, (fun n => Value.int IntKind.u64 ↑n) 0, (fun n => Value.int IntKind.u64 ↑n) 0, (fun n => Value.int IntKind.u64 ↑n) 0, (fun n => Value.int IntKind.u64 ↑n) 0, (fun n => Value.int IntKind.u64 ↑n) 0, (fun n => Value.int IntKind.u64 ↑n) 0, (fun n => Value.int IntKind.u64 ↑n) 0, (fun n => Value.int IntKind.u64 ↑n) 0, (fun n => Value.int IntKind.u64 ↑n) 0, (fun n => Value.int IntKind.u64 ↑n) 0, (fun n => Value.int IntKind.u64 ↑n) 0] := r311
  clear r1
  replace b103 := Zg b103 b309; replace b84 := Zg b84 b309; replace r18 := Zd r18 b309; replace b15 := Zg b15 b309; replace q := Zg q b309
  have r1 := r311
  clear r311
  refine Zq ?_; refine Zc ?_; refine Zr ?_; refine Zf ?_; refine Zl r18 ?_; refine Zq ?_; refine CC.block ?_; refine Zr ?_; refine ZeqF ?_; refine Za ?_; refine Zq ?_; refine ZN ?_; refine Zr ?_; refine ZeqF ?_; refine Za ?_; refine Zq ?_; refine ZN ?_; refine Zr ?_; refine ZeqT ?_; refine Za ?_; refine Zq ?_; refine ZY ?_; refine Zr ?_; refine Zm ?_; refine Zf ?_; refine Zl r18 ?_
  refine LL.val (R.lenS rfl rfl rfl rfl) rfl rfl rfl ?_
  refine LL.val (R.convI rfl rfl rfl rfl (wrapU (by omega) (by omega))) rfl rfl rfl ?_
  refine Zi ?_
  refine LL.store rfl rfl rfl rfl r1 (by exact Nat.le_of_ble_eq_true rfl) rfl rfl rfl rfl ?_
  intro W584 r585 b583 z586
  have hlb583 := r1.lt
  replace r585 : RowL W584 _ 41 [Value.int IntKind.u64 ↑(3 + 256 * l), Value.int IntKind.u64 ↑(List.length t), (fun n => Value.int IntKind.u64 n) 0, (fun n => Value.int IntKind.u64 n) 0, (fun n => Value.int IntKind.u64 n) 0, (fun n => Value.int IntKind.u64 n) 0, (fun n => Value.int IntKind.u64 n) 0, (fun n => Value.int IntKind.u64 n) 0, (fun n => Value.int IntKind.u64 n) 0, (fun n => Value.int IntKind.u64 n) 0, (fun n => Value.int IntKind.u64 n) 0, (fun n => Value.int IntKind.u64 n) 0, (fun n => Value.int IntKind.u64 n) 0, (fun n => Value.int IntKind.u64 n) 0, (fun n => Value.int IntKind.u64 n) 0, (fun n => Value.int IntKind.u64 n) 0] := r585
  clear r1
  replace b103 := Zg b103 b583; replace b84 := Zg b84 b583; replace r18 := Zd r18 b583; replace b15 := Zg b15 b583; replace q := Zg q b583
  have r1 := r585
  clear r585
  refine Zq ?_; refine Zr ?_; refine Zf ?_; refine Zl r18 ?_; have l641 := r18.lt; have l642 := r1.lt
  refine LL.strBytes (t) rfl rfl Go.Proofs.Tryd.underlying9 Go.Proofs.Tryd.underlying77 Go.Proofs.Tryd.underlying5 rfl rfl ?_
  intro v645 W644 k646 ev645 r647 b643
  replace b103 := Zu b103 b643; replace b84 := Zu b84 b643; replace r18 := r18.up b643; replace b15 := Zu b15 b643; replace q := Zu q b643; replace r1 := r1.up b643; have l661 := r18.lt; have l662 := r1.lt
  (refine Zy (R.call rfl rfl rfl) (rlay_form _ t _ (by assumption) (by omega) (by omega)) ?_; rintro e W660 ⟨g8, c8, rfl, o8, hg8, hl8, b657⟩; refine ⟨_, rfl, ?_⟩)
  have zb657 := b657.size; replace r647 := r647.up b657; replace b643 := Zu b643 b657; replace b103 := Zu b103 b657; replace b84 := Zu b84 b657; replace r18 := r18.up b657; replace b15 := Zu b15 b657; replace q := Zu q b657; replace r1 := r1.up b657; refine Za ?_; refine Zq ?_; refine Zr ?_; refine Za ?_; refine Zq ?_; refine CC.block ?_
  have r1b : RowL W660 g1 41 (ints .u64 (filL (3 + 256 * l) t.length (layL (nbL t)) 0)) := r1
  have hg1 : w.heap.size ≤ g1 := by omega
  have hne : g8 ≠ g1 := by omega
  clear r1
  obtain ⟨N, hN⟩ : ∃ N, (t.length + 7) / 8 = N := ⟨_, rfl⟩
  rw [hN] at o8 hxl ⊢
  have hN14 : N ≤ 14 := by omega
  refine CC.loop (α := Nat) (fun i => [(4, .slice (some ⟨g1, 0, none⟩) 16 16), (7, .slice (some ⟨g8, 0, none⟩) N c8), (8, .int .i64 (i : Int))]) (fun i W => i ≤ N ∧ Below w.heap.size w W ∧ RowL W g1 41 (ints .u64 (filL (3 + 256 * l) t.length (layL (nbL t)) i)) ∧ Reads W (.slice (some ⟨g8, 0, none⟩) N c8) (ints .u64 (layL (nbL t)))) (fun i => N - i) 0 ⟨rfl, rfl, rfl, trivial⟩ ⟨by omega, q, r1b, o8⟩ ?_
  clear q r1b o8 r18 b15 b84 b103 b643 b657 r647
  rintro i W ⟨hi, q, r1, r2⟩
  show CC none Tryd.prog _ 85 [] (sl [(4, .slice (some ⟨g1, 0, none⟩) 16 16), (7, .slice (some ⟨g8, 0, none⟩) N c8), (8, .int .i64 (i : Int))]) _ W
  have yq := q.size
  by_cases hlt : i < N
  case neg =>
    obtain rfl : i = N := by omega
    have hfa := filL_all (3 + 256 * l) t.length (layL (nbL t))
    rw [hxl] at hfa
    rw [hfa] at r1
    refine Zc ?_; refine Zr ?_; refine Zm ?_; refine Zm ?_; refine Zn ?_; refine ZltF ?_; refine Zq ?_; refine ZN ?_; refine CC.exit ?_; refine EE.thenX ?_; refine EE.thenX ?_; refine EE.inX ?_; refine EE.inN ?_; refine ZT ?_; refine Zr ?_; refine Zm ?_; refine Za ?_; refine Za ?_; refine Zq ?_; refine ZR ?_; refine EE.ret _ rfl rfl ?_
    exact ⟨_, rfl, r1, hg1, q⟩
  obtain ⟨y, hy⟩ : ∃ y, (layL (nbL t))[i]? = some y := ⟨_, List.getElem?_eq_getElem (by omega)⟩
  have c1 : W.cell? ⟨g8, 0 + i, none⟩ = some (.int .u64 (y : Int)) := by
    obtain ⟨_, _, h3⟩ := r2.at
    obtain ⟨b, off, e, _, h4⟩ := h3 (by omega)
    cases e
    rw [h4 i (by omega)]
    simp [ints, hy]
  have hst := filL_setE (3 + 256 * l) t.length (layL (nbL t)) i y (by omega) (by omega) hy
  have hfl : (ints .u64 (filL (3 + 256 * l) t.length (layL (nbL t)) i)).length = 16 := by simp [ints, filL_len (3 + 256 * l) t.length (layL (nbL t)) i (by omega) (by omega)]
  refine Zc ?_; refine Zr ?_; refine Zm ?_; refine Zm ?_; refine Zn ?_; refine ZltT ?_; refine Zq ?_; refine ZY ?_; refine ZK ?_; refine ZT ?_; refine Zc ?_; refine CC.block ?_; refine CC.region ?_; refine Zm ?_; refine Zm ?_
  (refine LL.val (R.addN (a := 2) (b := i) rfl rfl rfl (by omega)) rfl rfl rfl ?_)
  refine Zm ?_; refine Zm ?_
  refine LL.val (R.index rfl rfl rfl (I.ixS1 rfl (by omega))) rfl rfl rfl ?_
  refine Zk ?_
  refine LL.val (R.index rfl rfl rfl (I.ixS1 rfl (by omega))) rfl rfl rfl ?_
  (refine LL.store rfl rfl rfl rfl r1 (by rw [hfl]; omega) rfl rfl rfl rfl ?_; intro Wb81 r9 grb79 zz9; rw [Nat.zero_add, hst] at r9; clear r1; have r1 := r9; clear r9)
  have zgrb79 := grb79.size; replace q := Zg q grb79
  replace r2 := r2.gr grb79 (by omega)
  replace c1 := Ze c1 grb79; refine ZL ?_; refine EE.inN ?_; refine ZT ?_; refine CC.region ?_; refine Zm ?_
  refine LL.val (R.addNc rfl rfl rfl rfl (by omega)) rfl rfl rfl ?_
  refine Za ?_; refine ZL ?_
  exact EE.round (i + 1) ⟨rfl, rfl, rfl, trivial⟩ ⟨by omega, q, r1, r2⟩ (by omega)
theorem rinW_ok (k l z : Int) (x : Option Addr) (n c : Nat) (m : List Ex) (r p : Int) (t : Bs) (w : World) (hv : ReadsT eE 3 w (.slice x n c) m) (hlen : m.length ≤ 1048576) (h : okI k l z m r p t) : Calls Tryd.prog 12 #[inV k l z (.slice x n c) r p t] w (wsP (inoW k l z m r p t) w) := by
  have hn : m.length = n := by obtain ⟨_, _, e, _⟩ := hv; cases e; rfl
  obtain ⟨hl, ⟨rfl, rfl, rfl, rfl, rfl, rfl, rfl⟩ | ⟨rfl, rfl, rfl, rfl, hf⟩ | ⟨rfl, rfl, rfl, rfl, h1⟩ | ⟨rfl, rfl, rfl, rfl, rfl, h1⟩⟩ := h
  · obtain rfl : n = 0 := by simpa using hn.symm
    exact rinW_0 x c w
  · obtain ⟨l, rfl⟩ : ∃ y : Nat, l = (y : Int) := ⟨l.toNat, by omega⟩
    have hz := hf.1
    obtain ⟨z, rfl⟩ : ∃ y : Nat, z = (y : Int) := ⟨z.toNat, by omega⟩
    exact rinW_1 l z x n c m w hv hlen (by omega) hf
  · obtain rfl : n = 0 := by simpa using hn.symm
    obtain ⟨l, rfl⟩ : ∃ y : Nat, l = (y : Int) := ⟨l.toNat, by omega⟩
    obtain ⟨r, rfl⟩ : ∃ y : Nat, r = (y : Int) := ⟨r.toNat, by omega⟩
    obtain ⟨p, rfl⟩ : ∃ y : Nat, p = (y : Int) := ⟨p.toNat, by omega⟩
    exact rinW_2 l r p x c w (by omega) (by omega) (by omega)
  · obtain rfl : n = 0 := by simpa using hn.symm
    obtain ⟨l, rfl⟩ : ∃ y : Nat, l = (y : Int) := ⟨l.toNat, by omega⟩
    exact rinW_3 l t x c w (by omega) h1
theorem wrdN_lt {m : List Ex} (h : ∀ x ∈ m, mayE x) : ∀ x ∈ wrdN m, x < 18446744073709551616 := by
  intro x hx
  unfold wrdN at hx
  obtain ⟨z, hz, rfl⟩ := List.mem_map.1 hx
  obtain ⟨i, hi⟩ := List.mem_iff_getElem?.1 hz
  have := wrdZ_bnd h i z hi
  omega
theorem inoW_lt {k l z : Int} {m : List Ex} {r p : Int} {t : Bs} (h : okI k l z m r p t) : ∀ x ∈ inoW k l z m r p t, x < 18446744073709551616 := by
  obtain ⟨hl, ⟨rfl, rfl, rfl, rfl, rfl, rfl, rfl⟩ | ⟨rfl, rfl, rfl, rfl, hf⟩ | ⟨rfl, rfl, rfl, rfl, h1⟩ | ⟨rfl, rfl, rfl, rfl, rfl, h1⟩⟩ := h
  · rw [inoW_0]
    intro x hx
    rw [(List.mem_replicate.1 hx).2]
    decide
  · rw [inoW_1 _ _ _ _ _ _ hf.2.1]
    have hz := hf.1
    intro x hx
    simp only [List.mem_cons, List.mem_append] at hx
    rcases hx with rfl | rfl | hx | hx
    · omega
    · omega
    · exact wrdN_lt hf.2.1.2.1 x hx
    · rw [(List.mem_replicate.1 hx).2]
      decide
  · rw [inoW_2]
    intro x hx
    simp only [List.mem_cons] at hx
    rcases hx with rfl | rfl | rfl | rfl | hx
    · omega
    · decide
    · omega
    · omega
    · rw [(List.mem_replicate.1 hx).2]
      decide
  · rw [inoW_3 _ _ _ _ _ _ h1.1.2]
    intro x hx
    simp only [List.mem_cons, List.mem_append] at hx
    rcases hx with rfl | rfl | hx | hx
    · omega
    · omega
    · exact lay_small _ (nbL_lt t) x hx
    · rw [(List.mem_replicate.1 hx).2]
      decide
theorem of_ok (bk off cap : Nat) (ws : List Nat) (k l z : Int) (m : List Ex) (r p : Int) (t : Bs) (w : World) (hS : Start w) (hcap : 16 ≤ cap) (hW : WdsAt w bk off ws) (h : okI k l z m r p t) (e : inoW k l z m r p t = ws) : Calls Tryd.prog 17 #[.slice (some ⟨bk, off, none⟩) 16 cap] w (ofR k l z m r p t w) := by
  have hws : ws.length = 16 := by rw [← e]; exact inoW_len h
  have hwb : ∀ x ∈ ws, x < 18446744073709551616 := by rw [← e]; exact inoW_lt h
  have hS0 := hS.pos
  have hlt := hW.lt
  have hh := h
  obtain ⟨hl, ⟨rfl, rfl, rfl, rfl, rfl, rfl, rfl⟩ | ⟨rfl, rfl, rfl, rfl, hf⟩ | ⟨rfl, rfl, rfl, rfl, h1⟩ | ⟨rfl, rfl, rfl, rfl, rfl, h1⟩⟩ := h
  · exact of_Z bk off cap ws w hS hws hwb hcap hW (by rw [← e, inoW_0]; rfl)
  · obtain ⟨l, rfl⟩ : ∃ y : Nat, l = (y : Int) := ⟨l.toNat, by omega⟩
    have hz := hf.1
    obtain ⟨z, rfl⟩ : ∃ y : Nat, z = (y : Int) := ⟨z.toNat, by omega⟩
    have e1 := inoW_1 (l : Int) (z : Int) m 0 0 [] hf.2.1
    have e2 := wsZ_1 (l : Int) (z : Int) m 0 0 [] hf.2.1
    rw [e] at e1 e2
    have e3 : outZ (wsZ ws) = m := by rw [e2, outZ_wrdZ hf.2.1.2.1]
    have e4 : mapW (wsZ ws) := by rw [e2]; exact mapW_wrdZ hf.2.1
    refine of_run _ 16 cap _ _ _ _ _ _ _ w hS0 fun W gs go b hgs hgo hne hs ho => ?_
    have := of1_1T gs go bk off cap ws W (hS.up b) hws hwb hcap hs (hW.up b) ho ⟨hne, by omega, by omega⟩ (1 + 256 * l) (by rw [e1]; rfl) (by omega) l (by omega) (by omega) z (by rw [e1]; rfl) (by omega) e4 (by rw [e3]; exact hh) (by rw [e3]; exact e)
    rw [e3] at this
    exact this
  · obtain ⟨l, rfl⟩ : ∃ y : Nat, l = (y : Int) := ⟨l.toNat, by omega⟩
    obtain ⟨r, rfl⟩ : ∃ y : Nat, r = (y : Int) := ⟨r.toNat, by omega⟩
    obtain ⟨p, rfl⟩ : ∃ y : Nat, p = (y : Int) := ⟨p.toNat, by omega⟩
    have e1 := inoW_2 (l : Int) 0 [] (r : Int) (p : Int) []
    rw [e] at e1
    exact of_run _ 16 cap _ _ _ _ _ _ _ w hS0 fun W gs go b hgs hgo hne hs ho => of1_2T gs go bk off cap ws W (hS.up b) hws hwb hcap hs (hW.up b) ho ⟨hne, by omega, by omega⟩ (2 + 256 * l) (by rw [e1]; rfl) (by omega) l (by omega) (by omega) r p (by rw [e1]; rfl) (by rw [e1]; rfl) (by omega) hh e
  · obtain ⟨l, rfl⟩ : ∃ y : Nat, l = (y : Int) := ⟨l.toNat, by omega⟩
    have e1 := inoW_3 (l : Int) 0 [] 0 0 t h1.1.2
    have e2 := tg_3 (l : Int) 0 [] 0 0 t h1.1.2
    rw [e] at e1 e2
    refine of_run _ 16 cap _ _ _ _ _ _ _ w hS0 fun W gs go b hgs hgo hne hs ho => ?_
    have := of1_3T gs go bk off cap ws W (hS.up b) hws hwb hcap hs (hW.up b) ho ⟨hne, by omega, by omega⟩ (3 + 256 * l) (by rw [e1]; rfl) (by omega) l (by omega) (by omega) t.length (by rw [e1]; rfl) h1.1 e2.1 (by rw [e2.2]; exact hh) (by rw [e2.2]; exact e)
    rw [e2.2] at this
    exact this
theorem few_any (k l z : Int) (x : Option Addr) (n c : Nat) (r p : Int) (t : Bs) (w : World) (hn : n ≤ 9223372036854775807) (ht : t.length ≤ 9223372036854775807) (b : Bool) (hb : b = decide (n ≤ 30 ∧ t.length ≤ 300)) : Calls Tryd.prog 9 #[inV k l z (.slice x n c) r p t] w fun e w' => e = .returned (.bool b) ∧ Below w.heap.size w w' := by
  have q := Below.refl w.heap.size w
  by_cases hA : n ≤ 30
  · by_cases hB : t.length ≤ 300
    · rw [decide_eq_true ⟨hA, hB⟩] at hb
      subst hb
      refine X.fn Tryd.func9 rfl (n := 13) rfl rfl ?_
      refine Zr ?_
      refine LL.box [.int .i64 k, .int .i64 l, .int .i64 z, .slice x n c, .int .i64 r, .int .i64 p, strV t] rfl rfl rfl rfl rfl ?_
      intro W2 g3 eg3 r4 z5 b1
      replace q := Zu q b1; refine Za ?_; refine Zq ?_; refine Zr ?_; refine Zf ?_; refine Zl r4 ?_; refine Zn ?_; refine ZleT ?_; refine Zm ?_; refine Zf ?_; refine Zl r4 ?_
      refine LL.val (R.lenS rfl rfl rfl rfl) rfl rfl rfl ?_
      refine ZleT ?_; refine Zp ?_; refine Za ?_; refine Zq ?_; refine ZR ?_; refine EE.ret _ rfl rfl ?_
      exact ⟨rfl, q⟩
    · rw [decide_eq_false (fun h => hB h.2)] at hb
      subst hb
      refine X.fn Tryd.func9 rfl (n := 13) rfl rfl ?_
      refine Zr ?_
      refine LL.box [.int .i64 k, .int .i64 l, .int .i64 z, .slice x n c, .int .i64 r, .int .i64 p, strV t] rfl rfl rfl rfl rfl ?_
      intro Wa2 ga3 ega3 ra4 za5 ba1
      replace q := Zu q ba1; refine Za ?_; refine Zq ?_; refine Zr ?_; refine Zf ?_; refine Zl ra4 ?_; refine Zn ?_; refine ZleT ?_; refine Zm ?_; refine Zf ?_; refine Zl ra4 ?_
      refine LL.val (R.lenS rfl rfl rfl rfl) rfl rfl rfl ?_
      refine ZleF ?_; refine Zp ?_; refine Za ?_; refine Zq ?_; refine ZR ?_; refine EE.ret _ rfl rfl ?_
      exact ⟨rfl, q⟩
  · rw [decide_eq_false (fun h => hA h.1)] at hb
    subst hb
    refine X.fn Tryd.func9 rfl (n := 13) rfl rfl ?_
    refine Zr ?_
    refine LL.box [.int .i64 k, .int .i64 l, .int .i64 z, .slice x n c, .int .i64 r, .int .i64 p, strV t] rfl rfl rfl rfl rfl ?_
    intro Wb2 gb3 egb3 rb4 zb5 bb1
    replace q := Zu q bb1; refine Za ?_; refine Zq ?_; refine Zr ?_; refine Zf ?_; refine Zl rb4 ?_; refine Zn ?_; refine ZleF ?_; refine Zm ?_; refine Zs ?_; refine Zs ?_; refine Zs ?_; refine Zs ?_; refine Zp ?_; refine Za ?_; refine Zq ?_; refine ZR ?_; refine EE.ret _ rfl rfl ?_
    exact ⟨rfl, q⟩
--C law14_few | hfa @w | ⟨rfl, @b⟩
--C law14_few | hfb @w | ⟨rfl, @b⟩
--C inode_Same | hsa @w (q.trans (b'.mono q.size)) | ⟨rfl, @b⟩
--C inode_Same | hss @w (q.trans (b'.mono q.size)) | ⟨rfl, @b⟩
--C ref14_Same | hsr @w (q.trans (b'.mono q.size)) | ⟨rfl, @b⟩
--C law14_works | works_any @w (hSF _ q) | ⟨rfl, @b⟩
--C law14_works | works_any @w (hSF _ (q.trans (b'.mono q.size))) | ⟨rfl, @b⟩
set_option linter.unusedVariables false
set_option linter.unusedSimpArgs false
set_option maxRecDepth 100000
set_option maxHeartbeats 8000000
section
variable {P : Program} {w : World} {t u T : TypeId} {o : Oper} {x y : Operand} {n e k : Nat} {D : List Deferred} {M : Slots}
end
section
variable (bk off cap : Nat) (ws : List Nat) (w : World) (x0 x1 x2 x3 l : Nat)
end
theorem reads_wds {a : Option Addr} {cap : Nat} {ws : List Nat} {w : World} (h : Reads w (.slice a 16 cap) (ints .u64 ws)) (hl : ws.length = 16) : ∃ bk off, a = some ⟨bk, off, none⟩ ∧ WdsAt w bk off ws ∧ 16 ≤ cap := by
  obtain ⟨a', c', e, hc, h3⟩ := h.intsN hl
  obtain ⟨b, off, rfl, hb, h4⟩ := h3 (by omega)
  cases e
  refine ⟨b, off, rfl, ⟨fun j x hj => ?_, hb⟩, hc⟩
  have := (List.getElem?_eq_some_iff.1 hj).1
  rw [h4 j (by omega), hj]
  rfl
--C ref01_Same | hsN @w _ (r81.up b') (hWF _ (q.trans (b'.mono q.size))) | ⟨rfl, @b⟩
--C ref01_Same | hsN @w _ r81 (hWF _ q) | ⟨rfl, @b⟩
/-- A store: where, and what. An act: its kind, where, and what. -/
abbrev Pt := Int × Nat
def pE (p : Pt) : List Value := [.int .i64 p.1, .int .u64 (p.2 : Int)]
theorem pEnc : Enc pE 2 := ⟨fun _ => rfl, fun t u hu => by
  simp only [pE, List.mem_cons, List.not_mem_nil, or_false] at hu
  rcases hu with rfl | rfl <;> rfl, by decide⟩
theorem Tryd.infoPut : (Tryd.prog.info? 59).map (fun i => (i.zero, i.size, i.bytes)) = some (some (.agg #[.int .i64 0, .int .u64 0]), 2, 16) := by kernel_rfl
theorem ElPut : ElT Tryd.prog 45 59 (.agg #[.int .i64 0, .int .u64 0]) 2 16 := info_parts_t Tryd.underlying45 Tryd.infoPut rfl
/-- The stores that make words these, of the first so many. -/
def difS (a : Nat) (ws was : List Nat) (i : Nat) : List Pt := (List.range i).filterMap fun j => if (ws[j]?).getD 0 = (was[j]?).getD 0 then none else some (((a + j : Nat) : Int), (ws[j]?).getD 0)
theorem difS_succ {a : Nat} {ws was : List Nat} {i x y : Nat} (hx : ws[i]? = some x) (hy : was[i]? = some y) : difS a ws was (i + 1) = difS a ws was i ++ if x = y then [] else [(((a + i : Nat) : Int), x)] := by
  unfold difS
  rw [List.range_succ, List.filterMap_append]
  congr 1
  rw [List.filterMap_cons, hx, hy]
  simp only [Option.getD_some]
  by_cases h : x = y
  · rw [if_pos h, if_pos h]; rfl
  · rw [if_neg h, if_neg h]; rfl
theorem difS_len (a : Nat) (ws was : List Nat) (i : Nat) : (difS a ws was i).length ≤ i := by
  unfold difS
  refine Nat.le_trans (List.length_filterMap_le _ _) (by simp)
theorem stI_F (a : Nat) (x1 : Option Addr) (n1 c1 : Nat) (k l z : Int) (x : Option Addr) (n c : Nat) (m : List Ex) (r p : Int) (t : Bs) (w : World) (hv : ReadsT eE 3 w (.slice x n c) m) (hlen : m.length ≤ 1048576) (htl : t.length ≤ 1048576) (h : ¬okI k l z m r p t) : Calls Tryd.prog 20 #[.int .i64 (a : Int), .slice x1 n1 c1, inV k l z (.slice x n c) r p t] w fun e w' => e = .returned (.tuple #[.slice none 0 0, .int .i64 240]) ∧ Below w.heap.size w w' := by
  have q := Below.refl w.heap.size w
  have hwn := fun W (b : Below w.heap.size w W) => words_no k l z x n c m r p t W (hv.up b) hlen htl h
  clear hv
  refine X.fn Tryd.func20 rfl (n := 48) rfl rfl ?_
  refine Zr ?_
  refine LL.box [.int .i64 k, .int .i64 l, .int .i64 z, .slice x n c, .int .i64 r, .int .i64 p, strV t] rfl rfl rfl rfl rfl ?_
  intro W2 g3 eg3 r4 z5 b1
  replace q := Zu q b1; refine Za ?_; refine Za ?_; refine Zq ?_; refine Zr ?_; refine Zv r4 ?_
  refine Zy (R.call rfl rfl rfl) (hwn _ q) ?_
  rintro e W7 ⟨rfl, b6⟩
  refine ⟨_, rfl, ?_⟩; have zb6 := b6.size; replace r4 := r4.up b6; replace b1 := Zu b1 b6; replace q := Zu q b6; refine Zm ?_; refine Zx ?_; refine Zx ?_; refine Za ?_; refine Za ?_; refine Zq ?_; refine Zc ?_; refine Zr ?_; refine Zm ?_; refine ZneT ?_; refine Zm ?_; refine Zs ?_; refine Zs ?_; refine Zs ?_; refine Zp ?_; refine Zq ?_; refine ZY ?_; refine Zr ?_; refine Za ?_; refine Za ?_; refine Zq ?_
  refine ZR ?_; refine EE.thenR ?_; refine EE.ret _ rfl rfl ?_
  exact ⟨rfl, q⟩
theorem stI_L (a : Nat) (x1 : Option Addr) (n1 c1 : Nat) (hn : n1 ≠ 16) (hn2 : n1 ≤ 1048576) (k l z : Int) (x : Option Addr) (n c : Nat) (m : List Ex) (r p : Int) (t : Bs) (w : World) (hS : Start w) (hv : ReadsT eE 3 w (.slice x n c) m) (hlen : m.length ≤ 1048576) (h : okI k l z m r p t) : Calls Tryd.prog 20 #[.int .i64 (a : Int), .slice x1 n1 c1, inV k l z (.slice x n c) r p t] w fun e w' => e = .returned (.tuple #[.slice none 0 0, .int .i64 240]) ∧ Below w.heap.size w w' := by
  have q := Below.refl w.heap.size w
  have hwy := fun W (b : Below w.heap.size w W) => words_ok k l z x n c m r p t W (hS.up b) (hv.up b) hlen h
  unfold wsP at hwy
  clear hv hS
  refine X.fn Tryd.func20 rfl (n := 48) rfl rfl ?_
  refine Zr ?_
  refine LL.box [.int .i64 k, .int .i64 l, .int .i64 z, .slice x n c, .int .i64 r, .int .i64 p, strV t] rfl rfl rfl rfl rfl ?_
  intro W9 g10 eg10 r11 z12 b8
  replace q := Zu q b8; refine Za ?_; refine Za ?_; refine Zq ?_; refine Zr ?_; refine Zv r11 ?_; have l41 := r11.lt
  (refine Zy (R.call rfl rfl rfl) (hwy _ q) ?_; rintro e W40 ⟨g8, rfl, r81, hg8, b37⟩; refine ⟨_, rfl, ?_⟩)
  have zb37 := b37.size; replace r11 := r11.up b37; replace b8 := Zu b8 b37; replace q := Zu q b37; refine Zm ?_; refine Zx ?_; refine Zx ?_; refine Za ?_; refine Za ?_; refine Zq ?_; refine Zc ?_; refine Zr ?_; refine Zm ?_; refine ZneF ?_; refine Zm ?_; refine Zm ?_; refine Zn ?_; refine ZneT ?_; refine Zp ?_; refine Zq ?_; refine ZY ?_; refine Zr ?_; refine Za ?_; refine Za ?_; refine Zq ?_; refine ZR ?_
  refine EE.thenR ?_; refine EE.ret _ rfl rfl ?_
  exact ⟨rfl, q⟩
theorem stI_T (a bk off c1 : Nat) (was : List Nat) (k l z : Int) (x : Option Addr) (n c : Nat) (m : List Ex) (r p : Int) (t : Bs) (w : World) (hS : Start w) (hv : ReadsT eE 3 w (.slice x n c) m) (hlen : m.length ≤ 1048576) (h : okI k l z m r p t) (ha : a ≤ 1099511627776) (hW : WdsAt w bk off was) (hwl : was.length = 16) : Calls Tryd.prog 20 #[.int .i64 (a : Int), .slice (some ⟨bk, off, none⟩) 16 c1, inV k l z (.slice x n c) r p t] w fun e w' => ∃ v, e = .returned (.tuple #[v, .int .i64 0]) ∧ OwnsT pE 2 w' w.heap.size 59 v (difS a (inoW k l z m r p t) was 16) ∧ Below w.heap.size w w' := by
  have q := Below.refl w.heap.size w
  have hwy := fun W (b : Below w.heap.size w W) => words_ok k l z x n c m r p t W (hS.up b) (hv.up b) hlen h
  have hWF := fun X (b : Below w.heap.size w X) => hW.up b
  have hxl := inoW_len h
  have hxb := inoW_lt h
  obtain ⟨ws, ews⟩ : ∃ ws, inoW k l z m r p t = ws := ⟨_, rfl⟩
  unfold wsP at hwy
  rw [ews] at hwy hxl hxb ⊢
  clear hv hS hW
  refine X.fn Tryd.func20 rfl (n := 48) rfl rfl ?_
  refine Zr ?_
  refine LL.box [.int .i64 k, .int .i64 l, .int .i64 z, .slice x n c, .int .i64 r, .int .i64 p, strV t] rfl rfl rfl rfl rfl ?_
  intro W9 g10 eg10 r11 z12 b8
  replace q := Zu q b8; refine Za ?_; refine Za ?_; refine Zq ?_; refine Zr ?_; refine Zv r11 ?_; have l41 := r11.lt
  (refine Zy (R.call rfl rfl rfl) (hwy _ q) ?_; rintro e W40 ⟨g8, rfl, r81, hg8, b37⟩; refine ⟨_, rfl, ?_⟩)
  have zb37 := b37.size; replace r11 := r11.up b37; replace b8 := Zu b8 b37; replace q := Zu q b37; refine Zm ?_; refine Zx ?_; refine Zx ?_; refine Za ?_; refine Za ?_; refine Zq ?_; refine Zc ?_; refine Zr ?_; refine Zm ?_; refine ZneF ?_; refine Zm ?_; refine Zm ?_; refine Zn ?_; refine ZneF ?_; refine Zp ?_; refine Zq ?_; refine ZN ?_; refine ZK ?_; refine ZT ?_; refine Zr ?_; refine Za ?_; refine Zq ?_
  refine Zc ?_; refine Zr ?_; refine Zm ?_; refine Zn ?_; refine Zm ?_; refine Zq ?_; refine CC.block ?_
  have hwg : w.heap.size ≤ W40.heap.size := q.size
  have l8 := r81.lt
  have hbk := (hWF w (Below.refl _ _)).lt
  obtain ⟨B, hB⟩ : ∃ B, W40.heap.size = B := ⟨_, rfl⟩
  rw [hB] at hwg l8
  refine CC.loop (α := Nat × Value) (fun s => [(0, .int .i64 (a : Int)), (1, .slice (some ⟨bk, off, none⟩) 16 c1), (10, s.2), (25, .slice (some ⟨g8, 0, none⟩) 16 16), (26, .int .i64 16), (27, .int .i64 (s.1 : Int))]) (fun s W => s.1 ≤ 16 ∧ Below w.heap.size w W ∧ B ≤ W.heap.size ∧ RowL W g8 41 (ints .u64 ws) ∧ OwnsT pE 2 W B 59 s.2 (difS a ws was s.1)) (fun s => 16 - s.1) (0, .slice none 0 0) ⟨rfl, rfl, rfl, rfl, rfl, rfl, trivial⟩ ⟨by show 0 ≤ 16; omega, q, by omega, r81, OwnsT.none _ _ _⟩ ?_
  clear q r81 r11 b37 b8
  rintro ⟨i, v⟩ W ⟨hi, q, yB, r81, o⟩
  simp only at hi o yB r81
  show CC none Tryd.prog _ 48 [] (sl [(0, .int .i64 (a : Int)), (1, .slice (some ⟨bk, off, none⟩) 16 c1), (10, v), (25, .slice (some ⟨g8, 0, none⟩) 16 16), (26, .int .i64 16), (27, .int .i64 (i : Int))]) _ W
  have yq := q.size
  by_cases hlt : i < 16
  case neg =>
    obtain rfl : i = 16 := by omega
    have o2 := o.lower hwg
    refine Zr ?_; refine ZltF ?_; refine Zq ?_; refine Zc ?_; refine ZN ?_; refine CC.exit ?_; refine EE.thenX ?_; refine EE.thenX ?_; refine EE.inX ?_; refine ZT ?_; refine Zr ?_; refine Zm ?_; refine Za ?_; refine Za ?_; refine Zq ?_; refine ZR ?_; refine EE.ret _ rfl rfl ?_
    exact ⟨_, rfl, o2, q⟩
  obtain ⟨u, hu⟩ : ∃ u, ws[i]? = some u := ⟨_, List.getElem?_eq_getElem (by omega)⟩
  obtain ⟨y, hy⟩ : ∃ y, was[i]? = some y := ⟨_, List.getElem?_eq_getElem (by omega)⟩
  have hst := difS_succ (a := a) hu hy
  have hdl := difS_len a ws was i
  have hub := hxb u (List.mem_of_getElem? hu)
  have c1 : W.cell? ⟨g8, 0 + i, none⟩ = some (.int .u64 (u : Int)) := RowL.cell r81 (by rw [show 0 + i = i by omega]; simp [ints, hu])
  have c2 := (hWF W q).cells _ _ hy
  by_cases huy : u = y
  · rw [if_pos huy, List.append_nil] at hst
    refine Zr ?_; refine ZltT ?_; refine Zq ?_; refine Zc ?_; refine ZY ?_; refine ZK ?_; refine ZT ?_; refine Zc ?_; refine CC.block ?_; refine Zr ?_; refine Zm ?_
    refine LL.val (R.index rfl rfl rfl (I.ixS1 rfl (by omega))) rfl rfl rfl ?_
    refine Zk ?_; refine Za ?_; refine Za ?_; refine Zq ?_; refine Zr ?_; refine Zm ?_; refine Zm ?_; refine Zm ?_
    refine LL.val (R.index rfl rfl rfl (I.ixS1 rfl (by omega))) rfl rfl rfl ?_
    refine Zk ?_; refine ZneF ?_; refine Zq ?_; refine ZN ?_; refine ZK ?_; refine EE.inN ?_; refine ZT ?_; refine CC.region ?_
    refine LL.val (R.addNc rfl rfl rfl rfl (by omega)) rfl rfl rfl ?_
    refine Zm ?_; refine ZL ?_
    exact EE.round (i + 1, v) ⟨rfl, rfl, rfl, rfl, rfl, rfl, trivial⟩ ⟨by show i + 1 ≤ 16; omega, q, yB, r81, by show OwnsT pE 2 _ _ _ v (difS a ws was (i + 1)); rw [hst]; exact o⟩ (by show 16 - (i + 1) < 16 - i; omega)
  rw [if_neg huy] at hst
  refine Zr ?_; refine ZltT ?_; refine Zq ?_; refine Zc ?_; refine ZY ?_; refine ZK ?_; refine ZT ?_; refine Zc ?_; refine CC.block ?_; refine Zr ?_; refine Zm ?_
  refine LL.val (R.index rfl rfl rfl (I.ixS1 rfl (by omega))) rfl rfl rfl ?_
  refine Zk ?_; refine Za ?_; refine Za ?_; refine Zq ?_; refine Zr ?_; refine Zm ?_; refine Zm ?_; refine Zm ?_
  refine LL.val (R.index rfl rfl rfl (I.ixS1 rfl (by omega))) rfl rfl rfl ?_
  refine Zk ?_; refine ZneT ?_; refine Zq ?_; refine ZY ?_; refine CC.region ?_; refine Zm ?_; refine Zm ?_; refine Zm ?_
  refine LL.val (R.addN rfl rfl rfl (by omega)) rfl rfl rfl ?_
  refine Zm ?_
  refine LL.val (R.buildV rfl rfl (v := .agg #[Value.int IntKind.i64 ↑(a + i), Value.int IntKind.u64 ↑u]) (fun _ => by kernel_rfl)) rfl rfl rfl ?_
  have lc1 := r81.lt
  refine LL.lit (e := 59) [Value.int IntKind.i64 ↑(a + i), Value.int IntKind.u64 ↑u] 1 rfl rfl (fun _ => by kernel_rfl) rfl rfl ?_
  intro Wc3 gc4 egc4 rc5 zc6 bc2
  replace q := Zu q bc2; replace r81 := r81.up bc2; replace o := o.up bc2; replace c1 := cell_up c1 bc2; replace c2 := cell_up c2 bc2
  (refine LL.appendT2 rfl rfl pEnc ElPut o (RowL.readsT (ts := [(((a + i : Nat) : Int), u)]) pEnc (by assumption) 1 (by simp)) (by simp [maxLen]; omega) (by simp; omega) (by have := q.size; omega) rfl rfl ?_; intro v' Wa oa gra hva; have yz := q.size; replace q := q.grown gra yz (fun g hg => by have := own_ge o g hg; omega); replace r81 := r81.grO gra (own_ne o l8); have hsz := gra.size; rw [← hst] at oa)
  refine Za ?_; refine ZL ?_; refine EE.inN ?_; refine ZT ?_; refine CC.region ?_
  refine LL.val (R.addNc rfl rfl rfl rfl (by omega)) rfl rfl rfl ?_
  refine Zm ?_; refine ZL ?_
  exact EE.round (i + 1, v') ⟨rfl, rfl, rfl, rfl, rfl, rfl, trivial⟩ ⟨by show i + 1 ≤ 16; omega, q, by show B ≤ _; omega, r81, oa⟩ (by show 16 - (i + 1) < 16 - i; omega)
theorem stD_F (a : Nat) (x1 : Option Addr) (n1 c1 : Nat) (k l z : Int) (x : Option Addr) (n c : Nat) (m : List Ex) (r p : Int) (t : Bs) (w : World) (hv : ReadsT eE 3 w (.slice x n c) m) (hlen : m.length ≤ 1048576) (htl : t.length ≤ 1048576) (h : ¬okI k l z m r p t) : Calls Tryd.prog 21 #[.int .i64 (a : Int), .slice x1 n1 c1, inV k l z (.slice x n c) r p t] w fun e w' => e = .returned (.tuple #[.slice none 0 0, .int .i64 240]) ∧ Below w.heap.size w w' := by
  have q := Below.refl w.heap.size w
  have hwn := fun W (b : Below w.heap.size w W) => rinW_no k l z x n c m r p t W (hv.up b) hlen htl h
  clear hv
  refine X.fn Tryd.func21 rfl (n := 49) rfl rfl ?_
  refine Zr ?_
  refine LL.box [.int .i64 k, .int .i64 l, .int .i64 z, .slice x n c, .int .i64 r, .int .i64 p, strV t] rfl rfl rfl rfl rfl ?_
  intro W2 g3 eg3 r4 z5 b1
  replace q := Zu q b1; refine Za ?_; refine Za ?_; refine Zq ?_; refine Zr ?_; refine Zv r4 ?_
  refine Zy (R.call rfl rfl rfl) (hwn _ q) ?_
  rintro e W7 ⟨rfl, b6⟩
  refine ⟨_, rfl, ?_⟩; have zb6 := b6.size; replace r4 := r4.up b6; replace b1 := Zu b1 b6; replace q := Zu q b6; refine Zm ?_; refine Zx ?_; refine Zx ?_; refine Za ?_; refine Za ?_; refine Zq ?_; refine Zc ?_; refine Zr ?_; refine Zm ?_; refine ZneT ?_; refine Zm ?_; refine Zs ?_; refine Zs ?_; refine Zs ?_; refine Zp ?_; refine Zq ?_; refine ZY ?_; refine Zr ?_; refine Za ?_; refine Za ?_; refine Zq ?_
  refine ZR ?_; refine EE.thenR ?_; refine EE.ret _ rfl rfl ?_
  exact ⟨rfl, q⟩
theorem stD_L (a : Nat) (x1 : Option Addr) (n1 c1 : Nat) (hn : n1 ≠ 16) (hn2 : n1 ≤ 1048576) (k l z : Int) (x : Option Addr) (n c : Nat) (m : List Ex) (r p : Int) (t : Bs) (w : World) (hv : ReadsT eE 3 w (.slice x n c) m) (hlen : m.length ≤ 1048576) (h : okI k l z m r p t) : Calls Tryd.prog 21 #[.int .i64 (a : Int), .slice x1 n1 c1, inV k l z (.slice x n c) r p t] w fun e w' => e = .returned (.tuple #[.slice none 0 0, .int .i64 240]) ∧ Below w.heap.size w w' := by
  have q := Below.refl w.heap.size w
  have hwy := fun W (b : Below w.heap.size w W) => rinW_ok k l z x n c m r p t W (hv.up b) hlen h
  unfold wsP at hwy
  clear hv
  refine X.fn Tryd.func21 rfl (n := 49) rfl rfl ?_
  refine Zr ?_
  refine LL.box [.int .i64 k, .int .i64 l, .int .i64 z, .slice x n c, .int .i64 r, .int .i64 p, strV t] rfl rfl rfl rfl rfl ?_
  intro W9 g10 eg10 r11 z12 b8
  replace q := Zu q b8; refine Za ?_; refine Za ?_; refine Zq ?_; refine Zr ?_; refine Zv r11 ?_; have l41 := r11.lt
  (refine Zy (R.call rfl rfl rfl) (hwy _ q) ?_; rintro e W40 ⟨g8, rfl, r81, hg8, b37⟩; refine ⟨_, rfl, ?_⟩)
  have zb37 := b37.size; replace r11 := r11.up b37; replace b8 := Zu b8 b37; replace q := Zu q b37; refine Zm ?_; refine Zx ?_; refine Zx ?_; refine Za ?_; refine Za ?_; refine Zq ?_; refine Zc ?_; refine Zr ?_; refine Zm ?_; refine ZneF ?_; refine Zm ?_; refine Zm ?_; refine Zn ?_; refine ZneT ?_; refine Zp ?_; refine Zq ?_; refine ZY ?_; refine Zr ?_; refine Za ?_; refine Za ?_; refine Zq ?_; refine ZR ?_
  refine EE.thenR ?_; refine EE.ret _ rfl rfl ?_
  exact ⟨rfl, q⟩
theorem stD_T (a bk off c1 : Nat) (was : List Nat) (k l z : Int) (x : Option Addr) (n c : Nat) (m : List Ex) (r p : Int) (t : Bs) (w : World) (hv : ReadsT eE 3 w (.slice x n c) m) (hlen : m.length ≤ 1048576) (h : okI k l z m r p t) (ha : a ≤ 1099511627776) (hW : WdsAt w bk off was) (hwl : was.length = 16) : Calls Tryd.prog 21 #[.int .i64 (a : Int), .slice (some ⟨bk, off, none⟩) 16 c1, inV k l z (.slice x n c) r p t] w fun e w' => ∃ v, e = .returned (.tuple #[v, .int .i64 0]) ∧ OwnsT pE 2 w' w.heap.size 59 v (difS a (inoW k l z m r p t) was 16) ∧ Below w.heap.size w w' := by
  have q := Below.refl w.heap.size w
  have hwy := fun W (b : Below w.heap.size w W) => rinW_ok k l z x n c m r p t W (hv.up b) hlen h
  have hWF := fun X (b : Below w.heap.size w X) => hW.up b
  have hxl := inoW_len h
  have hxb := inoW_lt h
  obtain ⟨ws, ews⟩ : ∃ ws, inoW k l z m r p t = ws := ⟨_, rfl⟩
  unfold wsP at hwy
  rw [ews] at hwy hxl hxb ⊢
  clear hv hW
  refine X.fn Tryd.func21 rfl (n := 49) rfl rfl ?_
  refine Zr ?_
  refine LL.box [.int .i64 k, .int .i64 l, .int .i64 z, .slice x n c, .int .i64 r, .int .i64 p, strV t] rfl rfl rfl rfl rfl ?_
  intro W9 g10 eg10 r11 z12 b8
  replace q := Zu q b8; refine Za ?_; refine Za ?_; refine Zq ?_; refine Zr ?_; refine Zv r11 ?_; have l41 := r11.lt
  (refine Zy (R.call rfl rfl rfl) (hwy _ q) ?_; rintro e W40 ⟨g8, rfl, r81, hg8, b37⟩; refine ⟨_, rfl, ?_⟩)
  have zb37 := b37.size; replace r11 := r11.up b37; replace b8 := Zu b8 b37; replace q := Zu q b37; refine Zm ?_; refine Zx ?_; refine Zx ?_; refine Za ?_; refine Za ?_; refine Zq ?_; refine Zc ?_; refine Zr ?_; refine Zm ?_; refine ZneF ?_; refine Zm ?_; refine Zm ?_; refine Zn ?_; refine ZneF ?_; refine Zp ?_; refine Zq ?_; refine ZN ?_; refine ZK ?_; refine ZT ?_; refine Zr ?_; refine Za ?_; refine Zq ?_
  refine Zc ?_; refine Zr ?_; refine Za ?_; refine Zq ?_; refine CC.block ?_
  have hwg : w.heap.size ≤ W40.heap.size := q.size
  have l8 := r81.lt
  have hbk := (hWF w (Below.refl _ _)).lt
  obtain ⟨B, hB⟩ : ∃ B, W40.heap.size = B := ⟨_, rfl⟩
  rw [hB] at hwg l8
  refine CC.loop (α := Nat × Value) (fun s => [(0, .int .i64 (a : Int)), (1, .slice (some ⟨bk, off, none⟩) 16 c1), (8, .slice (some ⟨g8, 0, none⟩) 16 16), (10, s.2), (11, .int .i64 (s.1 : Int))]) (fun s W => s.1 ≤ 16 ∧ Below w.heap.size w W ∧ B ≤ W.heap.size ∧ RowL W g8 41 (ints .u64 ws) ∧ OwnsT pE 2 W B 59 s.2 (difS a ws was s.1)) (fun s => 16 - s.1) (0, .slice none 0 0) ⟨rfl, rfl, rfl, rfl, rfl, trivial⟩ ⟨by show 0 ≤ 16; omega, q, by omega, r81, OwnsT.none _ _ _⟩ ?_
  clear q r81 r11 b37 b8
  rintro ⟨i, v⟩ W ⟨hi, q, yB, r81, o⟩
  simp only at hi o yB r81
  show CC none Tryd.prog _ 49 [] (sl [(0, .int .i64 (a : Int)), (1, .slice (some ⟨bk, off, none⟩) 16 c1), (8, .slice (some ⟨g8, 0, none⟩) 16 16), (10, v), (11, .int .i64 (i : Int))]) _ W
  have yq := q.size
  by_cases hlt : i < 16
  case neg =>
    obtain rfl : i = 16 := by omega
    have o2 := o.lower hwg
    refine Zc ?_; refine Zr ?_; refine Zm ?_; refine ZltF ?_; refine Zq ?_; refine ZN ?_; refine CC.exit ?_; refine EE.thenX ?_; refine EE.thenX ?_; refine EE.inX ?_; refine ZT ?_; refine Zr ?_; refine Zm ?_; refine Za ?_; refine Za ?_; refine Zq ?_; refine ZR ?_; refine EE.ret _ rfl rfl ?_
    exact ⟨_, rfl, o2, q⟩
  obtain ⟨u, hu⟩ : ∃ u, ws[i]? = some u := ⟨_, List.getElem?_eq_getElem (by omega)⟩
  obtain ⟨y, hy⟩ : ∃ y, was[i]? = some y := ⟨_, List.getElem?_eq_getElem (by omega)⟩
  have hst := difS_succ (a := a) hu hy
  have hdl := difS_len a ws was i
  have hub := hxb u (List.mem_of_getElem? hu)
  have c1 : W.cell? ⟨g8, 0 + i, none⟩ = some (.int .u64 (u : Int)) := RowL.cell r81 (by rw [show 0 + i = i by omega]; simp [ints, hu])
  have c2 := (hWF W q).cells _ _ hy
  by_cases huy : u = y
  · rw [if_pos huy, List.append_nil] at hst
    refine Zc ?_; refine Zr ?_; refine Zm ?_; refine ZltT ?_; refine Zq ?_; refine ZY ?_; refine ZK ?_; refine ZT ?_; refine Zc ?_; refine CC.block ?_; refine Zc ?_
    refine CC.quietB (by kernel_rfl) (by kernel_rfl) (fun Wb2 bb1 zb3 => ?_)
    replace q := Zu q bb1; replace r81 := r81.up bb1; replace o := o.up bb1; replace c1 := cell_up c1 bb1; replace c2 := cell_up c2 bb1
    refine SS.val (R.move rfl rfl) rfl rfl ?_
    refine SS.val (R.move rfl rfl) rfl rfl ?_
    refine SS.val (R.index rfl rfl rfl (I.ixS1 rfl (by omega))) rfl rfl ?_
    refine SS.val (R.load rfl rfl (I.ld1 rfl (by assumption))) rfl rfl ?_
    refine SS.val (R.move rfl rfl) rfl rfl ?_
    refine SS.val (R.move rfl rfl) rfl rfl ?_
    refine SS.val (R.index rfl rfl rfl (I.ixS1 rfl (by omega))) rfl rfl ?_
    refine SS.val (R.load rfl rfl (I.ld1 rfl (by assumption))) rfl rfl ?_
    refine SS.val (R.neF rfl rfl rfl (by omega)) rfl rfl ?_
    refine SS.nilQ ?_
    refine ZT ?_; refine ZN ?_; refine ZK ?_; refine EE.inN ?_; refine ZT ?_; refine CC.region ?_; refine Zm ?_
    refine LL.val (R.addNc rfl rfl rfl rfl (by omega)) rfl rfl rfl ?_
    refine Za ?_; refine ZL ?_
    exact EE.round (i + 1, v) ⟨rfl, rfl, rfl, rfl, rfl, trivial⟩ ⟨by show i + 1 ≤ 16; omega, q, by show B ≤ _; omega, r81, by show OwnsT pE 2 _ _ _ v (difS a ws was (i + 1)); rw [hst]; exact o⟩ (by show 16 - (i + 1) < 16 - i; omega)
  rw [if_neg huy] at hst
  refine Zc ?_; refine Zr ?_; refine Zm ?_; refine ZltT ?_; refine Zq ?_; refine ZY ?_; refine ZK ?_; refine ZT ?_; refine Zc ?_; refine CC.block ?_; refine Zc ?_
  refine CC.quietB (by kernel_rfl) (by kernel_rfl) (fun Wc2 bc1 zc3 => ?_)
  replace q := Zu q bc1; replace r81 := r81.up bc1; replace o := o.up bc1; replace c1 := cell_up c1 bc1; replace c2 := cell_up c2 bc1
  refine SS.val (R.move rfl rfl) rfl rfl ?_
  refine SS.val (R.move rfl rfl) rfl rfl ?_
  refine SS.val (R.index rfl rfl rfl (I.ixS1 rfl (by omega))) rfl rfl ?_
  refine SS.val (R.load rfl rfl (I.ld1 rfl (by assumption))) rfl rfl ?_
  refine SS.val (R.move rfl rfl) rfl rfl ?_
  refine SS.val (R.move rfl rfl) rfl rfl ?_
  refine SS.val (R.index rfl rfl rfl (I.ixS1 rfl (by omega))) rfl rfl ?_
  refine SS.val (R.load rfl rfl (I.ld1 rfl (by assumption))) rfl rfl ?_
  refine SS.val (R.neT rfl rfl rfl (by omega)) rfl rfl ?_
  refine SS.nilQ ?_
  refine ZT ?_; refine ZY ?_; refine CC.region ?_; refine Zm ?_; refine Zm ?_; refine Zm ?_
  refine LL.val (R.addN rfl rfl rfl (by omega)) rfl rfl rfl ?_
  refine Zm ?_; refine Zm ?_
  refine LL.val (R.index rfl rfl rfl (I.ixS1 rfl (by omega))) rfl rfl rfl ?_
  refine Zk ?_
  refine LL.val (R.buildV rfl rfl (v := .agg #[Value.int IntKind.i64 ↑(a + i), Value.int IntKind.u64 ↑u]) (fun _ => by kernel_rfl)) rfl rfl rfl ?_
  have lc4 := r81.lt
  refine LL.lit (e := 59) [Value.int IntKind.i64 ↑(a + i), Value.int IntKind.u64 ↑u] 1 rfl rfl (fun _ => by kernel_rfl) rfl rfl ?_
  intro Wc6 gc7 egc7 rc8 zc9 bc5
  replace bc1 := Zu bc1 bc5; replace q := Zu q bc5; replace r81 := r81.up bc5; replace o := o.up bc5; replace c1 := cell_up c1 bc5; replace c2 := cell_up c2 bc5
  (refine LL.appendT2 rfl rfl pEnc ElPut o (RowL.readsT (ts := [(((a + i : Nat) : Int), u)]) pEnc (by assumption) 1 (by simp)) (by simp [maxLen]; omega) (by simp; omega) (by have := q.size; omega) rfl rfl ?_; intro v' Wa oa gra hva; have yz := q.size; replace q := q.grown gra yz (fun g hg => by have := own_ge o g hg; omega); replace r81 := r81.grO gra (own_ne o l8); have hsz := gra.size; rw [← hst] at oa)
  refine Za ?_; refine ZL ?_; refine EE.inN ?_; refine ZT ?_; refine CC.region ?_; refine Zm ?_
  refine LL.val (R.addNc rfl rfl rfl rfl (by omega)) rfl rfl rfl ?_
  refine Za ?_; refine ZL ?_
  exact EE.round (i + 1, v') ⟨rfl, rfl, rfl, rfl, rfl, trivial⟩ ⟨by show i + 1 ≤ 16; omega, q, by show B ≤ _; omega, r81, oa⟩ (by show 16 - (i + 1) < 16 - i; omega)
set_option linter.unusedVariables false
set_option linter.unusedSimpArgs false
set_option maxRecDepth 100000
set_option maxHeartbeats 8000000
theorem beqNI (a b : Nat) : (((a : Nat) : Int) == ((b : Nat) : Int)) = decide (a = b) := by
  rw [Bool.eq_iff_iff]
  simp only [beq_iff_eq, decide_eq_true_eq]
  exact ⟨fun h => by omega, fun h => by omega⟩
theorem eqPut (a c b d : Int) (w : World) : (Op.equalIn 10000 59 (.agg #[.int .i64 a, .int .u64 b]) (.agg #[.int .i64 c, .int .u64 d])).run Tryd.prog w = .ok (a == c && b == d) w := by
  have u3 := Tryd.underlying3
  have u4 := Tryd.underlying41
  have a3 := Tryd.isAgg3
  have z3 := Tryd.sizeOf3
  have a4 := Tryd.isAgg41
  have z4 := Tryd.sizeOf41
  have hS : Tryd.prog.underlying 59 = some (.struct (Tryd.prog.fieldsOf 59)) := by kernel_rfl
  rw [show (10000 : Nat) = 9999 + 1 from rfl, run_equalIn_agg w 9999 59 _ _ hS (by kernel_rfl)]
  simp only [Program.fieldsOf, Tryd.underlying59]
  go_simp
  by_cases h1 : a = c <;> by_cases h2 : b = d <;> simp [h1, h2]
theorem R.nePut {n : Nat} {D : List Deferred} {M : Slots} {w : World} {o : Oper} {x y : Operand} {u : TypeId} {s t : Pt} {b : Bool} (ho : o.op = .binOp .neq 59 x y u) (hx : evM M x = some (.agg (pE s).toArray)) (hy : evM M y = some (.agg (pE t).toArray)) (hb : (!decide (s = t)) = b) : Runs Tryd.prog n D M o w (.value (.bool b)) w := R.bin ho hx hy (by
  subst hb
  simp only [Sem.run_bind, pE, run_eqGuard_agg w _ _ _ _ _ _ (show Tryd.prog.eqGuardType Tryd.prog.depth 59 = false by kernel_rfl), Result.andThen_ok, run_neq_struct, eqPut]
  obtain ⟨s1, s2⟩ := s
  obtain ⟨t1, t2⟩ := t
  simp only [beqNI]
  by_cases h1 : s1 = t1 <;> by_cases h2 : s2 = t2 <;> simp [h1, h2])
set_option maxRecDepth 100000 in
set_option maxHeartbeats 2000000 in
theorem psame_any (va vb : Value) (xs ys : List Pt) (w : World) (ha : ReadsT pE 2 w va xs) (hb : ReadsT pE 2 w vb ys) (hlx : xs.length ≤ 1048576) (hly : ys.length ≤ 1048576) :
    Calls Tryd.prog 22 #[va, vb] w fun e w' => e = .returned (.bool (decide (xs = ys))) ∧ Below w.heap.size w w' := by
  obtain ⟨N, hN⟩ : ∃ N, xs.length = N := ⟨_, rfl⟩
  obtain ⟨N2, hN2⟩ : ∃ N, ys.length = N := ⟨_, rfl⟩
  obtain ⟨a, cap, rfl, hc⟩ := ha.form hN
  obtain ⟨a2, cap2, rfl, hc2⟩ := hb.form hN2
  rw [hN] at hlx
  rw [hN2] at hly
  refine X.fn Tryd.func22 rfl (n := 26) rfl rfl ?_
  by_cases hne : N = N2
  · subst hne
    (repeat (first | (first | refine CC.seq ?_ | refine CC.region ?_ | refine LL.nilS ?_ | refine CC.yes rfl ?_ | refine CC.no rfl ?_ | refine CC.block ?_ | refine EE.thenN ?_ | refine LL.nil ?_ | refine CC.exit ?_ | refine CC.ret ?_ | refine CC.skip ?_ | refine EE.thenX ?_ | refine EE.thenR ?_ | refine EE.inN ?_ | refine EE.inX ?_ | refine EE.inX' rfl ?_ | refine EE.inR ?_ | refine CC.label ?_ | refine EE.thenG ?_ | refine EE.inG ?_) | (first | refine LL.val (R.move rfl rfl) rfl rfl rfl ?_ | refine LL.val (R.assign rfl rfl) rfl rfl rfl ?_ | refine LL.val (R.nil rfl rfl) rfl rfl rfl ?_ | refine LL.val (R.field rfl rfl (I.fld rfl)) rfl rfl rfl ?_ | refine LL.val (R.load rfl rfl (I.ld1 rfl (by assumption))) rfl rfl rfl ?_ | refine LL.val (R.load rfl rfl (I.ld1 rfl (RowL.cell (by assumption) rfl))) rfl rfl rfl ?_ | refine LL.val (R.index rfl rfl rfl (I.ixA1c rfl rfl (by first | omega | decide))) rfl rfl rfl ?_ | refine LL.val (R.index rfl rfl rfl (I.ixS1c rfl rfl (by omega))) rfl rfl rfl ?_ | refine LL.val (R.index rfl rfl rfl (I.ixAc rfl rfl (by first | omega | decide))) rfl rfl rfl ?_ | refine LL.val (R.index rfl rfl rfl (I.ixSc rfl rfl (by omega))) rfl rfl rfl ?_ | refine LL.val (R.index rfl rfl rfl (I.ixA1 rfl (by omega))) rfl rfl rfl ?_ | refine LL.val (R.index rfl rfl rfl (I.ixS1 rfl (by omega))) rfl rfl rfl ?_ | refine LL.val (R.index rfl rfl rfl (I.ixA rfl (by omega))) rfl rfl rfl ?_ | refine LL.val (R.index rfl rfl rfl (I.ixS rfl (by omega))) rfl rfl rfl ?_ | refine LL.val (R.ltT rfl rfl rfl (by omega)) rfl rfl rfl ?_ | refine LL.val (R.ltF rfl rfl rfl (by omega)) rfl rfl rfl ?_ | refine LL.val (R.addNc rfl rfl rfl rfl (by omega)) rfl rfl rfl ?_ | refine LL.val (R.subNc rfl rfl rfl rfl (by omega) (by omega)) rfl rfl rfl ?_ | refine LL.val (R.addN rfl rfl rfl (by omega)) rfl rfl rfl ?_ | refine LL.val (R.subN rfl rfl rfl (by omega) (by omega)) rfl rfl rfl ?_ | refine LL.val (R.subcN rfl rfl rfl rfl (by omega) (by omega)) rfl rfl rfl ?_ | refine LL.val (R.addI rfl rfl rfl (by omega)) rfl rfl rfl ?_ | refine LL.val (R.subI rfl rfl rfl (by omega)) rfl rfl rfl ?_ | refine LL.val (R.mulNc rfl rfl rfl rfl (by omega)) rfl rfl rfl ?_ | refine LL.val (R.mulcN rfl rfl rfl rfl (by omega)) rfl rfl rfl ?_ | refine LL.val (R.quoNc rfl rfl rfl rfl (by omega) (by omega)) rfl rfl rfl ?_ | refine LL.val (R.remNc rfl rfl rfl rfl (by omega)) rfl rfl rfl ?_ | refine LL.val (R.mulN rfl rfl rfl (by omega)) rfl rfl rfl ?_ | refine LL.val (R.quoN rfl rfl rfl (by omega) (by omega)) rfl rfl rfl ?_ | refine LL.val (R.remN rfl rfl rfl (by omega)) rfl rfl rfl ?_ | refine LL.val (R.leT rfl rfl rfl (by omega)) rfl rfl rfl ?_ | refine LL.val (R.leF rfl rfl rfl (by omega)) rfl rfl rfl ?_ | refine LL.val (R.gtT rfl rfl rfl (by omega)) rfl rfl rfl ?_ | refine LL.val (R.gtF rfl rfl rfl (by omega)) rfl rfl rfl ?_ | refine LL.val (R.geT rfl rfl rfl (by omega)) rfl rfl rfl ?_ | refine LL.val (R.geF rfl rfl rfl (by omega)) rfl rfl rfl ?_ | refine LL.val (R.eqT rfl rfl rfl (by omega)) rfl rfl rfl ?_ | refine LL.val (R.eqF rfl rfl rfl (by omega)) rfl rfl rfl ?_ | refine LL.val (R.neT rfl rfl rfl (by omega)) rfl rfl rfl ?_ | refine LL.val (R.neF rfl rfl rfl (by omega)) rfl rfl rfl ?_ | refine LL.val (R.eqPtr rfl rfl rfl rfl rfl) rfl rfl rfl ?_ | refine LL.val (R.nePtr rfl rfl rfl rfl rfl) rfl rfl rfl ?_ | refine LL.val (R.eqSl rfl rfl rfl rfl rfl) rfl rfl rfl ?_ | refine LL.val (R.neSl rfl rfl rfl rfl rfl) rfl rfl rfl ?_ | refine LL.val (R.eqFn rfl rfl rfl rfl) rfl rfl rfl ?_ | refine LL.val (R.eqBool rfl rfl rfl rfl rfl) rfl rfl rfl ?_ | refine LL.val (R.neBool rfl rfl rfl rfl rfl) rfl rfl rfl ?_ | refine LL.val (R.xorU rfl rfl rfl (by first | omega | decide) (by first | omega | decide)) rfl rfl rfl ?_ | refine LL.val (R.addUN rfl rfl rfl (by omega)) rfl rfl rfl ?_ | refine LL.val (R.not rfl rfl) rfl rfl rfl ?_ | refine LL.val (R.lenS rfl rfl rfl rfl) rfl rfl rfl ?_ | refine LL.val (R.len rfl rfl rfl rfl) rfl rfl rfl ?_ | refine LL.val (R.pick rfl rfl rfl) rfl rfl rfl ?_ | refine LL.val (R.extract rfl rfl rfl) rfl rfl rfl ?_ | refine LL.val (R.func rfl rfl rfl) rfl rfl rfl ?_ | refine LL.val (R.slice rfl rfl rfl rfl rfl (I.slA rfl)) rfl rfl rfl ?_ | refine LL.val (R.slice rfl rfl rfl rfl rfl (I.slAto rfl (by omega))) rfl rfl rfl ?_) | refine LL.skip rfl rfl ?_))
    refine CC.loop (α := Nat) (fun i => [(0, .slice a N cap), (1, .slice a2 N cap2), (4, .bool false), (5, .int .i64 (i : Int))]) (fun i wr => Below w.heap.size w wr ∧ i ≤ N ∧ xs.take i = ys.take i) (fun i => N - i) 0 ⟨rfl, rfl, rfl, rfl, trivial⟩ ⟨Below.refl _ _, by omega, by simp⟩ ?_
    intro i wr ⟨hbw, hi, ht⟩
    by_cases h1 : i < N
    · obtain ⟨s, hs⟩ : ∃ s, xs[i]? = some s := ⟨_, List.getElem?_eq_getElem (by omega)⟩
      obtain ⟨t, ht2⟩ : ∃ t, ys[i]? = some t := ⟨_, List.getElem?_eq_getElem (by omega)⟩
      obtain ⟨b, off, rfl, hbl, hcs⟩ := ha.get pEnc hs
      obtain ⟨b2, off2, rfl, hbl2, hcs2⟩ := hb.get pEnc ht2
      have hc1 := hcs.below hbw.drew hbl
      have hc3 := hcs2.below hbw.drew hbl2
      (repeat (first | (first | refine CC.seq ?_ | refine CC.region ?_ | refine LL.nilS ?_ | refine CC.yes rfl ?_ | refine CC.no rfl ?_ | refine CC.block ?_ | refine EE.thenN ?_ | refine LL.nil ?_ | refine CC.exit ?_ | refine CC.ret ?_ | refine CC.skip ?_ | refine EE.thenX ?_ | refine EE.thenR ?_ | refine EE.inN ?_ | refine EE.inX ?_ | refine EE.inX' rfl ?_ | refine EE.inR ?_ | refine CC.label ?_ | refine EE.thenG ?_ | refine EE.inG ?_) | (first | refine LL.val (R.move rfl rfl) rfl rfl rfl ?_ | refine LL.val (R.assign rfl rfl) rfl rfl rfl ?_ | refine LL.val (R.nil rfl rfl) rfl rfl rfl ?_ | refine LL.val (R.field rfl rfl (I.fld rfl)) rfl rfl rfl ?_ | refine LL.val (R.load rfl rfl (I.ld1 rfl (by assumption))) rfl rfl rfl ?_ | refine LL.val (R.load rfl rfl (I.ld1 rfl (RowL.cell (by assumption) rfl))) rfl rfl rfl ?_ | refine LL.val (R.index rfl rfl rfl (I.ixA1c rfl rfl (by first | omega | decide))) rfl rfl rfl ?_ | refine LL.val (R.index rfl rfl rfl (I.ixS1c rfl rfl (by omega))) rfl rfl rfl ?_ | refine LL.val (R.index rfl rfl rfl (I.ixAc rfl rfl (by first | omega | decide))) rfl rfl rfl ?_ | refine LL.val (R.index rfl rfl rfl (I.ixSc rfl rfl (by omega))) rfl rfl rfl ?_ | refine LL.val (R.index rfl rfl rfl (I.ixA1 rfl (by omega))) rfl rfl rfl ?_ | refine LL.val (R.index rfl rfl rfl (I.ixS1 rfl (by omega))) rfl rfl rfl ?_ | refine LL.val (R.index rfl rfl rfl (I.ixA rfl (by omega))) rfl rfl rfl ?_ | refine LL.val (R.index rfl rfl rfl (I.ixS rfl (by omega))) rfl rfl rfl ?_ | refine LL.val (R.ltT rfl rfl rfl (by omega)) rfl rfl rfl ?_ | refine LL.val (R.ltF rfl rfl rfl (by omega)) rfl rfl rfl ?_ | refine LL.val (R.addNc rfl rfl rfl rfl (by omega)) rfl rfl rfl ?_ | refine LL.val (R.subNc rfl rfl rfl rfl (by omega) (by omega)) rfl rfl rfl ?_ | refine LL.val (R.addN rfl rfl rfl (by omega)) rfl rfl rfl ?_ | refine LL.val (R.subN rfl rfl rfl (by omega) (by omega)) rfl rfl rfl ?_ | refine LL.val (R.subcN rfl rfl rfl rfl (by omega) (by omega)) rfl rfl rfl ?_ | refine LL.val (R.addI rfl rfl rfl (by omega)) rfl rfl rfl ?_ | refine LL.val (R.subI rfl rfl rfl (by omega)) rfl rfl rfl ?_ | refine LL.val (R.mulNc rfl rfl rfl rfl (by omega)) rfl rfl rfl ?_ | refine LL.val (R.mulcN rfl rfl rfl rfl (by omega)) rfl rfl rfl ?_ | refine LL.val (R.quoNc rfl rfl rfl rfl (by omega) (by omega)) rfl rfl rfl ?_ | refine LL.val (R.remNc rfl rfl rfl rfl (by omega)) rfl rfl rfl ?_ | refine LL.val (R.mulN rfl rfl rfl (by omega)) rfl rfl rfl ?_ | refine LL.val (R.quoN rfl rfl rfl (by omega) (by omega)) rfl rfl rfl ?_ | refine LL.val (R.remN rfl rfl rfl (by omega)) rfl rfl rfl ?_ | refine LL.val (R.leT rfl rfl rfl (by omega)) rfl rfl rfl ?_ | refine LL.val (R.leF rfl rfl rfl (by omega)) rfl rfl rfl ?_ | refine LL.val (R.gtT rfl rfl rfl (by omega)) rfl rfl rfl ?_ | refine LL.val (R.gtF rfl rfl rfl (by omega)) rfl rfl rfl ?_ | refine LL.val (R.geT rfl rfl rfl (by omega)) rfl rfl rfl ?_ | refine LL.val (R.geF rfl rfl rfl (by omega)) rfl rfl rfl ?_ | refine LL.val (R.eqT rfl rfl rfl (by omega)) rfl rfl rfl ?_ | refine LL.val (R.eqF rfl rfl rfl (by omega)) rfl rfl rfl ?_ | refine LL.val (R.neT rfl rfl rfl (by omega)) rfl rfl rfl ?_ | refine LL.val (R.neF rfl rfl rfl (by omega)) rfl rfl rfl ?_ | refine LL.val (R.eqPtr rfl rfl rfl rfl rfl) rfl rfl rfl ?_ | refine LL.val (R.nePtr rfl rfl rfl rfl rfl) rfl rfl rfl ?_ | refine LL.val (R.eqSl rfl rfl rfl rfl rfl) rfl rfl rfl ?_ | refine LL.val (R.neSl rfl rfl rfl rfl rfl) rfl rfl rfl ?_ | refine LL.val (R.eqFn rfl rfl rfl rfl) rfl rfl rfl ?_ | refine LL.val (R.eqBool rfl rfl rfl rfl rfl) rfl rfl rfl ?_ | refine LL.val (R.neBool rfl rfl rfl rfl rfl) rfl rfl rfl ?_ | refine LL.val (R.xorU rfl rfl rfl (by first | omega | decide) (by first | omega | decide)) rfl rfl rfl ?_ | refine LL.val (R.addUN rfl rfl rfl (by omega)) rfl rfl rfl ?_ | refine LL.val (R.not rfl rfl) rfl rfl rfl ?_ | refine LL.val (R.lenS rfl rfl rfl rfl) rfl rfl rfl ?_ | refine LL.val (R.len rfl rfl rfl rfl) rfl rfl rfl ?_ | refine LL.val (R.pick rfl rfl rfl) rfl rfl rfl ?_ | refine LL.val (R.extract rfl rfl rfl) rfl rfl rfl ?_ | refine LL.val (R.func rfl rfl rfl) rfl rfl rfl ?_ | refine LL.val (R.slice rfl rfl rfl rfl rfl (I.slA rfl)) rfl rfl rfl ?_ | refine LL.val (R.slice rfl rfl rfl rfl rfl (I.slAto rfl (by omega))) rfl rfl rfl ?_) | refine LL.skip rfl rfl ?_))
      refine CC.quiet (by kernel_rfl) (by kernel_rfl) ?_
      (repeat (first | refine SS.nil ?_ | refine SS.nilQ ?_ | refine SS.val (R.move rfl rfl) rfl rfl ?_ | refine SS.val (R.assign rfl rfl) rfl rfl ?_ | refine SS.val (R.nil rfl rfl) rfl rfl ?_ | refine SS.val (R.field rfl rfl (I.fld rfl)) rfl rfl ?_ | refine SS.val (R.load rfl rfl (I.ld1 rfl (by assumption))) rfl rfl ?_ | refine SS.val (R.load rfl rfl (I.ld1 rfl (RowL.cell (by assumption) rfl))) rfl rfl ?_ | refine SS.val (R.index rfl rfl rfl (I.ixA1c rfl rfl (by first | omega | decide))) rfl rfl ?_ | refine SS.val (R.index rfl rfl rfl (I.ixS1c rfl rfl (by omega))) rfl rfl ?_ | refine SS.val (R.index rfl rfl rfl (I.ixAc rfl rfl (by first | omega | decide))) rfl rfl ?_ | refine SS.val (R.index rfl rfl rfl (I.ixSc rfl rfl (by omega))) rfl rfl ?_ | refine SS.val (R.index rfl rfl rfl (I.ixA1 rfl (by omega))) rfl rfl ?_ | refine SS.val (R.index rfl rfl rfl (I.ixS1 rfl (by omega))) rfl rfl ?_ | refine SS.val (R.index rfl rfl rfl (I.ixA rfl (by omega))) rfl rfl ?_ | refine SS.val (R.index rfl rfl rfl (I.ixS rfl (by omega))) rfl rfl ?_ | refine SS.val (R.ltT rfl rfl rfl (by omega)) rfl rfl ?_ | refine SS.val (R.ltF rfl rfl rfl (by omega)) rfl rfl ?_ | refine SS.val (R.addNc rfl rfl rfl rfl (by omega)) rfl rfl ?_ | refine SS.val (R.subNc rfl rfl rfl rfl (by omega) (by omega)) rfl rfl ?_ | refine SS.val (R.addN rfl rfl rfl (by omega)) rfl rfl ?_ | refine SS.val (R.subN rfl rfl rfl (by omega) (by omega)) rfl rfl ?_ | refine SS.val (R.subcN rfl rfl rfl rfl (by omega) (by omega)) rfl rfl ?_ | refine SS.val (R.addI rfl rfl rfl (by omega)) rfl rfl ?_ | refine SS.val (R.subI rfl rfl rfl (by omega)) rfl rfl ?_ | refine SS.val (R.mulNc rfl rfl rfl rfl (by omega)) rfl rfl ?_ | refine SS.val (R.mulcN rfl rfl rfl rfl (by omega)) rfl rfl ?_ | refine SS.val (R.quoNc rfl rfl rfl rfl (by omega) (by omega)) rfl rfl ?_ | refine SS.val (R.remNc rfl rfl rfl rfl (by omega)) rfl rfl ?_ | refine SS.val (R.mulN rfl rfl rfl (by omega)) rfl rfl ?_ | refine SS.val (R.quoN rfl rfl rfl (by omega) (by omega)) rfl rfl ?_ | refine SS.val (R.remN rfl rfl rfl (by omega)) rfl rfl ?_ | refine SS.val (R.leT rfl rfl rfl (by omega)) rfl rfl ?_ | refine SS.val (R.leF rfl rfl rfl (by omega)) rfl rfl ?_ | refine SS.val (R.gtT rfl rfl rfl (by omega)) rfl rfl ?_ | refine SS.val (R.gtF rfl rfl rfl (by omega)) rfl rfl ?_ | refine SS.val (R.geT rfl rfl rfl (by omega)) rfl rfl ?_ | refine SS.val (R.geF rfl rfl rfl (by omega)) rfl rfl ?_ | refine SS.val (R.eqT rfl rfl rfl (by omega)) rfl rfl ?_ | refine SS.val (R.eqF rfl rfl rfl (by omega)) rfl rfl ?_ | refine SS.val (R.neT rfl rfl rfl (by omega)) rfl rfl ?_ | refine SS.val (R.neF rfl rfl rfl (by omega)) rfl rfl ?_ | refine SS.val (R.eqPtr rfl rfl rfl rfl rfl) rfl rfl ?_ | refine SS.val (R.nePtr rfl rfl rfl rfl rfl) rfl rfl ?_ | refine SS.val (R.eqSl rfl rfl rfl rfl rfl) rfl rfl ?_ | refine SS.val (R.neSl rfl rfl rfl rfl rfl) rfl rfl ?_ | refine SS.val (R.eqFn rfl rfl rfl rfl) rfl rfl ?_ | refine SS.val (R.eqBool rfl rfl rfl rfl rfl) rfl rfl ?_ | refine SS.val (R.neBool rfl rfl rfl rfl rfl) rfl rfl ?_ | refine SS.val (R.xorU rfl rfl rfl (by first | omega | decide) (by first | omega | decide)) rfl rfl ?_ | refine SS.val (R.addUN rfl rfl rfl (by omega)) rfl rfl ?_ | refine SS.val (R.not rfl rfl) rfl rfl ?_ | refine SS.val (R.lenS rfl rfl rfl rfl) rfl rfl ?_ | refine SS.val (R.len rfl rfl rfl rfl) rfl rfl ?_ | refine SS.val (R.pick rfl rfl rfl) rfl rfl ?_ | refine SS.val (R.extract rfl rfl rfl) rfl rfl ?_ | refine SS.val (R.func rfl rfl rfl) rfl rfl ?_ | refine SS.val (R.slice rfl rfl rfl rfl rfl (I.slA rfl)) rfl rfl ?_ | refine SS.val (R.slice rfl rfl rfl rfl rfl (I.slAto rfl (by omega))) rfl rfl ?_ | refine SS.skip rfl rfl ?_))
      refine SS.val (R.load rfl rfl (I.ldN (vs := pE s) rfl rfl hc1)) rfl rfl ?_
      (repeat (first | refine SS.nil ?_ | refine SS.nilQ ?_ | refine SS.val (R.move rfl rfl) rfl rfl ?_ | refine SS.val (R.assign rfl rfl) rfl rfl ?_ | refine SS.val (R.nil rfl rfl) rfl rfl ?_ | refine SS.val (R.field rfl rfl (I.fld rfl)) rfl rfl ?_ | refine SS.val (R.load rfl rfl (I.ld1 rfl (by assumption))) rfl rfl ?_ | refine SS.val (R.load rfl rfl (I.ld1 rfl (RowL.cell (by assumption) rfl))) rfl rfl ?_ | refine SS.val (R.index rfl rfl rfl (I.ixA1c rfl rfl (by first | omega | decide))) rfl rfl ?_ | refine SS.val (R.index rfl rfl rfl (I.ixS1c rfl rfl (by omega))) rfl rfl ?_ | refine SS.val (R.index rfl rfl rfl (I.ixAc rfl rfl (by first | omega | decide))) rfl rfl ?_ | refine SS.val (R.index rfl rfl rfl (I.ixSc rfl rfl (by omega))) rfl rfl ?_ | refine SS.val (R.index rfl rfl rfl (I.ixA1 rfl (by omega))) rfl rfl ?_ | refine SS.val (R.index rfl rfl rfl (I.ixS1 rfl (by omega))) rfl rfl ?_ | refine SS.val (R.index rfl rfl rfl (I.ixA rfl (by omega))) rfl rfl ?_ | refine SS.val (R.index rfl rfl rfl (I.ixS rfl (by omega))) rfl rfl ?_ | refine SS.val (R.ltT rfl rfl rfl (by omega)) rfl rfl ?_ | refine SS.val (R.ltF rfl rfl rfl (by omega)) rfl rfl ?_ | refine SS.val (R.addNc rfl rfl rfl rfl (by omega)) rfl rfl ?_ | refine SS.val (R.subNc rfl rfl rfl rfl (by omega) (by omega)) rfl rfl ?_ | refine SS.val (R.addN rfl rfl rfl (by omega)) rfl rfl ?_ | refine SS.val (R.subN rfl rfl rfl (by omega) (by omega)) rfl rfl ?_ | refine SS.val (R.subcN rfl rfl rfl rfl (by omega) (by omega)) rfl rfl ?_ | refine SS.val (R.addI rfl rfl rfl (by omega)) rfl rfl ?_ | refine SS.val (R.subI rfl rfl rfl (by omega)) rfl rfl ?_ | refine SS.val (R.mulNc rfl rfl rfl rfl (by omega)) rfl rfl ?_ | refine SS.val (R.mulcN rfl rfl rfl rfl (by omega)) rfl rfl ?_ | refine SS.val (R.quoNc rfl rfl rfl rfl (by omega) (by omega)) rfl rfl ?_ | refine SS.val (R.remNc rfl rfl rfl rfl (by omega)) rfl rfl ?_ | refine SS.val (R.mulN rfl rfl rfl (by omega)) rfl rfl ?_ | refine SS.val (R.quoN rfl rfl rfl (by omega) (by omega)) rfl rfl ?_ | refine SS.val (R.remN rfl rfl rfl (by omega)) rfl rfl ?_ | refine SS.val (R.leT rfl rfl rfl (by omega)) rfl rfl ?_ | refine SS.val (R.leF rfl rfl rfl (by omega)) rfl rfl ?_ | refine SS.val (R.gtT rfl rfl rfl (by omega)) rfl rfl ?_ | refine SS.val (R.gtF rfl rfl rfl (by omega)) rfl rfl ?_ | refine SS.val (R.geT rfl rfl rfl (by omega)) rfl rfl ?_ | refine SS.val (R.geF rfl rfl rfl (by omega)) rfl rfl ?_ | refine SS.val (R.eqT rfl rfl rfl (by omega)) rfl rfl ?_ | refine SS.val (R.eqF rfl rfl rfl (by omega)) rfl rfl ?_ | refine SS.val (R.neT rfl rfl rfl (by omega)) rfl rfl ?_ | refine SS.val (R.neF rfl rfl rfl (by omega)) rfl rfl ?_ | refine SS.val (R.eqPtr rfl rfl rfl rfl rfl) rfl rfl ?_ | refine SS.val (R.nePtr rfl rfl rfl rfl rfl) rfl rfl ?_ | refine SS.val (R.eqSl rfl rfl rfl rfl rfl) rfl rfl ?_ | refine SS.val (R.neSl rfl rfl rfl rfl rfl) rfl rfl ?_ | refine SS.val (R.eqFn rfl rfl rfl rfl) rfl rfl ?_ | refine SS.val (R.eqBool rfl rfl rfl rfl rfl) rfl rfl ?_ | refine SS.val (R.neBool rfl rfl rfl rfl rfl) rfl rfl ?_ | refine SS.val (R.xorU rfl rfl rfl (by first | omega | decide) (by first | omega | decide)) rfl rfl ?_ | refine SS.val (R.addUN rfl rfl rfl (by omega)) rfl rfl ?_ | refine SS.val (R.not rfl rfl) rfl rfl ?_ | refine SS.val (R.lenS rfl rfl rfl rfl) rfl rfl ?_ | refine SS.val (R.len rfl rfl rfl rfl) rfl rfl ?_ | refine SS.val (R.pick rfl rfl rfl) rfl rfl ?_ | refine SS.val (R.extract rfl rfl rfl) rfl rfl ?_ | refine SS.val (R.func rfl rfl rfl) rfl rfl ?_ | refine SS.val (R.slice rfl rfl rfl rfl rfl (I.slA rfl)) rfl rfl ?_ | refine SS.val (R.slice rfl rfl rfl rfl rfl (I.slAto rfl (by omega))) rfl rfl ?_ | refine SS.skip rfl rfl ?_))
      refine SS.val (R.load rfl rfl (I.ldN (vs := pE t) rfl rfl hc3)) rfl rfl ?_
      by_cases hst : s = t
      · refine SS.val (R.nePut (b := false) rfl rfl rfl (by simp [hst])) rfl rfl ?_
        (repeat (first | refine SS.nil ?_ | refine SS.nilQ ?_ | refine SS.val (R.move rfl rfl) rfl rfl ?_ | refine SS.val (R.assign rfl rfl) rfl rfl ?_ | refine SS.val (R.nil rfl rfl) rfl rfl ?_ | refine SS.val (R.field rfl rfl (I.fld rfl)) rfl rfl ?_ | refine SS.val (R.load rfl rfl (I.ld1 rfl (by assumption))) rfl rfl ?_ | refine SS.val (R.load rfl rfl (I.ld1 rfl (RowL.cell (by assumption) rfl))) rfl rfl ?_ | refine SS.val (R.index rfl rfl rfl (I.ixA1c rfl rfl (by first | omega | decide))) rfl rfl ?_ | refine SS.val (R.index rfl rfl rfl (I.ixS1c rfl rfl (by omega))) rfl rfl ?_ | refine SS.val (R.index rfl rfl rfl (I.ixAc rfl rfl (by first | omega | decide))) rfl rfl ?_ | refine SS.val (R.index rfl rfl rfl (I.ixSc rfl rfl (by omega))) rfl rfl ?_ | refine SS.val (R.index rfl rfl rfl (I.ixA1 rfl (by omega))) rfl rfl ?_ | refine SS.val (R.index rfl rfl rfl (I.ixS1 rfl (by omega))) rfl rfl ?_ | refine SS.val (R.index rfl rfl rfl (I.ixA rfl (by omega))) rfl rfl ?_ | refine SS.val (R.index rfl rfl rfl (I.ixS rfl (by omega))) rfl rfl ?_ | refine SS.val (R.ltT rfl rfl rfl (by omega)) rfl rfl ?_ | refine SS.val (R.ltF rfl rfl rfl (by omega)) rfl rfl ?_ | refine SS.val (R.addNc rfl rfl rfl rfl (by omega)) rfl rfl ?_ | refine SS.val (R.subNc rfl rfl rfl rfl (by omega) (by omega)) rfl rfl ?_ | refine SS.val (R.addN rfl rfl rfl (by omega)) rfl rfl ?_ | refine SS.val (R.subN rfl rfl rfl (by omega) (by omega)) rfl rfl ?_ | refine SS.val (R.subcN rfl rfl rfl rfl (by omega) (by omega)) rfl rfl ?_ | refine SS.val (R.addI rfl rfl rfl (by omega)) rfl rfl ?_ | refine SS.val (R.subI rfl rfl rfl (by omega)) rfl rfl ?_ | refine SS.val (R.mulNc rfl rfl rfl rfl (by omega)) rfl rfl ?_ | refine SS.val (R.mulcN rfl rfl rfl rfl (by omega)) rfl rfl ?_ | refine SS.val (R.quoNc rfl rfl rfl rfl (by omega) (by omega)) rfl rfl ?_ | refine SS.val (R.remNc rfl rfl rfl rfl (by omega)) rfl rfl ?_ | refine SS.val (R.mulN rfl rfl rfl (by omega)) rfl rfl ?_ | refine SS.val (R.quoN rfl rfl rfl (by omega) (by omega)) rfl rfl ?_ | refine SS.val (R.remN rfl rfl rfl (by omega)) rfl rfl ?_ | refine SS.val (R.leT rfl rfl rfl (by omega)) rfl rfl ?_ | refine SS.val (R.leF rfl rfl rfl (by omega)) rfl rfl ?_ | refine SS.val (R.gtT rfl rfl rfl (by omega)) rfl rfl ?_ | refine SS.val (R.gtF rfl rfl rfl (by omega)) rfl rfl ?_ | refine SS.val (R.geT rfl rfl rfl (by omega)) rfl rfl ?_ | refine SS.val (R.geF rfl rfl rfl (by omega)) rfl rfl ?_ | refine SS.val (R.eqT rfl rfl rfl (by omega)) rfl rfl ?_ | refine SS.val (R.eqF rfl rfl rfl (by omega)) rfl rfl ?_ | refine SS.val (R.neT rfl rfl rfl (by omega)) rfl rfl ?_ | refine SS.val (R.neF rfl rfl rfl (by omega)) rfl rfl ?_ | refine SS.val (R.eqPtr rfl rfl rfl rfl rfl) rfl rfl ?_ | refine SS.val (R.nePtr rfl rfl rfl rfl rfl) rfl rfl ?_ | refine SS.val (R.eqSl rfl rfl rfl rfl rfl) rfl rfl ?_ | refine SS.val (R.neSl rfl rfl rfl rfl rfl) rfl rfl ?_ | refine SS.val (R.eqFn rfl rfl rfl rfl) rfl rfl ?_ | refine SS.val (R.eqBool rfl rfl rfl rfl rfl) rfl rfl ?_ | refine SS.val (R.neBool rfl rfl rfl rfl rfl) rfl rfl ?_ | refine SS.val (R.xorU rfl rfl rfl (by first | omega | decide) (by first | omega | decide)) rfl rfl ?_ | refine SS.val (R.addUN rfl rfl rfl (by omega)) rfl rfl ?_ | refine SS.val (R.not rfl rfl) rfl rfl ?_ | refine SS.val (R.lenS rfl rfl rfl rfl) rfl rfl ?_ | refine SS.val (R.len rfl rfl rfl rfl) rfl rfl ?_ | refine SS.val (R.pick rfl rfl rfl) rfl rfl ?_ | refine SS.val (R.extract rfl rfl rfl) rfl rfl ?_ | refine SS.val (R.func rfl rfl rfl) rfl rfl ?_ | refine SS.val (R.slice rfl rfl rfl rfl rfl (I.slA rfl)) rfl rfl ?_ | refine SS.val (R.slice rfl rfl rfl rfl rfl (I.slAto rfl (by omega))) rfl rfl ?_ | refine SS.skip rfl rfl ?_))
        (repeat (first | (first | refine CC.seq ?_ | refine CC.region ?_ | refine LL.nilS ?_ | refine CC.yes rfl ?_ | refine CC.no rfl ?_ | refine CC.block ?_ | refine EE.thenN ?_ | refine LL.nil ?_ | refine CC.exit ?_ | refine CC.ret ?_ | refine CC.skip ?_ | refine EE.thenX ?_ | refine EE.thenR ?_ | refine EE.inN ?_ | refine EE.inX ?_ | refine EE.inX' rfl ?_ | refine EE.inR ?_ | refine CC.label ?_ | refine EE.thenG ?_ | refine EE.inG ?_) | (first | refine LL.val (R.move rfl rfl) rfl rfl rfl ?_ | refine LL.val (R.assign rfl rfl) rfl rfl rfl ?_ | refine LL.val (R.nil rfl rfl) rfl rfl rfl ?_ | refine LL.val (R.field rfl rfl (I.fld rfl)) rfl rfl rfl ?_ | refine LL.val (R.load rfl rfl (I.ld1 rfl (by assumption))) rfl rfl rfl ?_ | refine LL.val (R.load rfl rfl (I.ld1 rfl (RowL.cell (by assumption) rfl))) rfl rfl rfl ?_ | refine LL.val (R.index rfl rfl rfl (I.ixA1c rfl rfl (by first | omega | decide))) rfl rfl rfl ?_ | refine LL.val (R.index rfl rfl rfl (I.ixS1c rfl rfl (by omega))) rfl rfl rfl ?_ | refine LL.val (R.index rfl rfl rfl (I.ixAc rfl rfl (by first | omega | decide))) rfl rfl rfl ?_ | refine LL.val (R.index rfl rfl rfl (I.ixSc rfl rfl (by omega))) rfl rfl rfl ?_ | refine LL.val (R.index rfl rfl rfl (I.ixA1 rfl (by omega))) rfl rfl rfl ?_ | refine LL.val (R.index rfl rfl rfl (I.ixS1 rfl (by omega))) rfl rfl rfl ?_ | refine LL.val (R.index rfl rfl rfl (I.ixA rfl (by omega))) rfl rfl rfl ?_ | refine LL.val (R.index rfl rfl rfl (I.ixS rfl (by omega))) rfl rfl rfl ?_ | refine LL.val (R.ltT rfl rfl rfl (by omega)) rfl rfl rfl ?_ | refine LL.val (R.ltF rfl rfl rfl (by omega)) rfl rfl rfl ?_ | refine LL.val (R.addNc rfl rfl rfl rfl (by omega)) rfl rfl rfl ?_ | refine LL.val (R.subNc rfl rfl rfl rfl (by omega) (by omega)) rfl rfl rfl ?_ | refine LL.val (R.addN rfl rfl rfl (by omega)) rfl rfl rfl ?_ | refine LL.val (R.subN rfl rfl rfl (by omega) (by omega)) rfl rfl rfl ?_ | refine LL.val (R.subcN rfl rfl rfl rfl (by omega) (by omega)) rfl rfl rfl ?_ | refine LL.val (R.addI rfl rfl rfl (by omega)) rfl rfl rfl ?_ | refine LL.val (R.subI rfl rfl rfl (by omega)) rfl rfl rfl ?_ | refine LL.val (R.mulNc rfl rfl rfl rfl (by omega)) rfl rfl rfl ?_ | refine LL.val (R.mulcN rfl rfl rfl rfl (by omega)) rfl rfl rfl ?_ | refine LL.val (R.quoNc rfl rfl rfl rfl (by omega) (by omega)) rfl rfl rfl ?_ | refine LL.val (R.remNc rfl rfl rfl rfl (by omega)) rfl rfl rfl ?_ | refine LL.val (R.mulN rfl rfl rfl (by omega)) rfl rfl rfl ?_ | refine LL.val (R.quoN rfl rfl rfl (by omega) (by omega)) rfl rfl rfl ?_ | refine LL.val (R.remN rfl rfl rfl (by omega)) rfl rfl rfl ?_ | refine LL.val (R.leT rfl rfl rfl (by omega)) rfl rfl rfl ?_ | refine LL.val (R.leF rfl rfl rfl (by omega)) rfl rfl rfl ?_ | refine LL.val (R.gtT rfl rfl rfl (by omega)) rfl rfl rfl ?_ | refine LL.val (R.gtF rfl rfl rfl (by omega)) rfl rfl rfl ?_ | refine LL.val (R.geT rfl rfl rfl (by omega)) rfl rfl rfl ?_ | refine LL.val (R.geF rfl rfl rfl (by omega)) rfl rfl rfl ?_ | refine LL.val (R.eqT rfl rfl rfl (by omega)) rfl rfl rfl ?_ | refine LL.val (R.eqF rfl rfl rfl (by omega)) rfl rfl rfl ?_ | refine LL.val (R.neT rfl rfl rfl (by omega)) rfl rfl rfl ?_ | refine LL.val (R.neF rfl rfl rfl (by omega)) rfl rfl rfl ?_ | refine LL.val (R.eqPtr rfl rfl rfl rfl rfl) rfl rfl rfl ?_ | refine LL.val (R.nePtr rfl rfl rfl rfl rfl) rfl rfl rfl ?_ | refine LL.val (R.eqSl rfl rfl rfl rfl rfl) rfl rfl rfl ?_ | refine LL.val (R.neSl rfl rfl rfl rfl rfl) rfl rfl rfl ?_ | refine LL.val (R.eqFn rfl rfl rfl rfl) rfl rfl rfl ?_ | refine LL.val (R.eqBool rfl rfl rfl rfl rfl) rfl rfl rfl ?_ | refine LL.val (R.neBool rfl rfl rfl rfl rfl) rfl rfl rfl ?_ | refine LL.val (R.xorU rfl rfl rfl (by first | omega | decide) (by first | omega | decide)) rfl rfl rfl ?_ | refine LL.val (R.addUN rfl rfl rfl (by omega)) rfl rfl rfl ?_ | refine LL.val (R.not rfl rfl) rfl rfl rfl ?_ | refine LL.val (R.lenS rfl rfl rfl rfl) rfl rfl rfl ?_ | refine LL.val (R.len rfl rfl rfl rfl) rfl rfl rfl ?_ | refine LL.val (R.pick rfl rfl rfl) rfl rfl rfl ?_ | refine LL.val (R.extract rfl rfl rfl) rfl rfl rfl ?_ | refine LL.val (R.func rfl rfl rfl) rfl rfl rfl ?_ | refine LL.val (R.slice rfl rfl rfl rfl rfl (I.slA rfl)) rfl rfl rfl ?_ | refine LL.val (R.slice rfl rfl rfl rfl rfl (I.slAto rfl (by omega))) rfl rfl rfl ?_) | refine LL.skip rfl rfl ?_))
        exact EE.round (i + 1) ⟨rfl, rfl, rfl, rfl, trivial⟩ ⟨hbw.drew, by omega, by rw [List.take_add_one, List.take_add_one, ht, hs, ht2, hst]⟩ (by omega)
      · refine SS.val (R.nePut (b := true) rfl rfl rfl (by simp [hst])) rfl rfl ?_
        (repeat (first | refine SS.nil ?_ | refine SS.nilQ ?_ | refine SS.val (R.move rfl rfl) rfl rfl ?_ | refine SS.val (R.assign rfl rfl) rfl rfl ?_ | refine SS.val (R.nil rfl rfl) rfl rfl ?_ | refine SS.val (R.field rfl rfl (I.fld rfl)) rfl rfl ?_ | refine SS.val (R.load rfl rfl (I.ld1 rfl (by assumption))) rfl rfl ?_ | refine SS.val (R.load rfl rfl (I.ld1 rfl (RowL.cell (by assumption) rfl))) rfl rfl ?_ | refine SS.val (R.index rfl rfl rfl (I.ixA1c rfl rfl (by first | omega | decide))) rfl rfl ?_ | refine SS.val (R.index rfl rfl rfl (I.ixS1c rfl rfl (by omega))) rfl rfl ?_ | refine SS.val (R.index rfl rfl rfl (I.ixAc rfl rfl (by first | omega | decide))) rfl rfl ?_ | refine SS.val (R.index rfl rfl rfl (I.ixSc rfl rfl (by omega))) rfl rfl ?_ | refine SS.val (R.index rfl rfl rfl (I.ixA1 rfl (by omega))) rfl rfl ?_ | refine SS.val (R.index rfl rfl rfl (I.ixS1 rfl (by omega))) rfl rfl ?_ | refine SS.val (R.index rfl rfl rfl (I.ixA rfl (by omega))) rfl rfl ?_ | refine SS.val (R.index rfl rfl rfl (I.ixS rfl (by omega))) rfl rfl ?_ | refine SS.val (R.ltT rfl rfl rfl (by omega)) rfl rfl ?_ | refine SS.val (R.ltF rfl rfl rfl (by omega)) rfl rfl ?_ | refine SS.val (R.addNc rfl rfl rfl rfl (by omega)) rfl rfl ?_ | refine SS.val (R.subNc rfl rfl rfl rfl (by omega) (by omega)) rfl rfl ?_ | refine SS.val (R.addN rfl rfl rfl (by omega)) rfl rfl ?_ | refine SS.val (R.subN rfl rfl rfl (by omega) (by omega)) rfl rfl ?_ | refine SS.val (R.subcN rfl rfl rfl rfl (by omega) (by omega)) rfl rfl ?_ | refine SS.val (R.addI rfl rfl rfl (by omega)) rfl rfl ?_ | refine SS.val (R.subI rfl rfl rfl (by omega)) rfl rfl ?_ | refine SS.val (R.mulNc rfl rfl rfl rfl (by omega)) rfl rfl ?_ | refine SS.val (R.mulcN rfl rfl rfl rfl (by omega)) rfl rfl ?_ | refine SS.val (R.quoNc rfl rfl rfl rfl (by omega) (by omega)) rfl rfl ?_ | refine SS.val (R.remNc rfl rfl rfl rfl (by omega)) rfl rfl ?_ | refine SS.val (R.mulN rfl rfl rfl (by omega)) rfl rfl ?_ | refine SS.val (R.quoN rfl rfl rfl (by omega) (by omega)) rfl rfl ?_ | refine SS.val (R.remN rfl rfl rfl (by omega)) rfl rfl ?_ | refine SS.val (R.leT rfl rfl rfl (by omega)) rfl rfl ?_ | refine SS.val (R.leF rfl rfl rfl (by omega)) rfl rfl ?_ | refine SS.val (R.gtT rfl rfl rfl (by omega)) rfl rfl ?_ | refine SS.val (R.gtF rfl rfl rfl (by omega)) rfl rfl ?_ | refine SS.val (R.geT rfl rfl rfl (by omega)) rfl rfl ?_ | refine SS.val (R.geF rfl rfl rfl (by omega)) rfl rfl ?_ | refine SS.val (R.eqT rfl rfl rfl (by omega)) rfl rfl ?_ | refine SS.val (R.eqF rfl rfl rfl (by omega)) rfl rfl ?_ | refine SS.val (R.neT rfl rfl rfl (by omega)) rfl rfl ?_ | refine SS.val (R.neF rfl rfl rfl (by omega)) rfl rfl ?_ | refine SS.val (R.eqPtr rfl rfl rfl rfl rfl) rfl rfl ?_ | refine SS.val (R.nePtr rfl rfl rfl rfl rfl) rfl rfl ?_ | refine SS.val (R.eqSl rfl rfl rfl rfl rfl) rfl rfl ?_ | refine SS.val (R.neSl rfl rfl rfl rfl rfl) rfl rfl ?_ | refine SS.val (R.eqFn rfl rfl rfl rfl) rfl rfl ?_ | refine SS.val (R.eqBool rfl rfl rfl rfl rfl) rfl rfl ?_ | refine SS.val (R.neBool rfl rfl rfl rfl rfl) rfl rfl ?_ | refine SS.val (R.xorU rfl rfl rfl (by first | omega | decide) (by first | omega | decide)) rfl rfl ?_ | refine SS.val (R.addUN rfl rfl rfl (by omega)) rfl rfl ?_ | refine SS.val (R.not rfl rfl) rfl rfl ?_ | refine SS.val (R.lenS rfl rfl rfl rfl) rfl rfl ?_ | refine SS.val (R.len rfl rfl rfl rfl) rfl rfl ?_ | refine SS.val (R.pick rfl rfl rfl) rfl rfl ?_ | refine SS.val (R.extract rfl rfl rfl) rfl rfl ?_ | refine SS.val (R.func rfl rfl rfl) rfl rfl ?_ | refine SS.val (R.slice rfl rfl rfl rfl rfl (I.slA rfl)) rfl rfl ?_ | refine SS.val (R.slice rfl rfl rfl rfl rfl (I.slAto rfl (by omega))) rfl rfl ?_ | refine SS.skip rfl rfl ?_))
        (repeat (first | (first | refine CC.seq ?_ | refine CC.region ?_ | refine LL.nilS ?_ | refine CC.yes rfl ?_ | refine CC.no rfl ?_ | refine CC.block ?_ | refine EE.thenN ?_ | refine LL.nil ?_ | refine CC.exit ?_ | refine CC.ret ?_ | refine CC.skip ?_ | refine EE.thenX ?_ | refine EE.thenR ?_ | refine EE.inN ?_ | refine EE.inX ?_ | refine EE.inX' rfl ?_ | refine EE.inR ?_ | refine CC.label ?_ | refine EE.thenG ?_ | refine EE.inG ?_) | (first | refine LL.val (R.move rfl rfl) rfl rfl rfl ?_ | refine LL.val (R.assign rfl rfl) rfl rfl rfl ?_ | refine LL.val (R.nil rfl rfl) rfl rfl rfl ?_ | refine LL.val (R.field rfl rfl (I.fld rfl)) rfl rfl rfl ?_ | refine LL.val (R.load rfl rfl (I.ld1 rfl (by assumption))) rfl rfl rfl ?_ | refine LL.val (R.load rfl rfl (I.ld1 rfl (RowL.cell (by assumption) rfl))) rfl rfl rfl ?_ | refine LL.val (R.index rfl rfl rfl (I.ixA1c rfl rfl (by first | omega | decide))) rfl rfl rfl ?_ | refine LL.val (R.index rfl rfl rfl (I.ixS1c rfl rfl (by omega))) rfl rfl rfl ?_ | refine LL.val (R.index rfl rfl rfl (I.ixAc rfl rfl (by first | omega | decide))) rfl rfl rfl ?_ | refine LL.val (R.index rfl rfl rfl (I.ixSc rfl rfl (by omega))) rfl rfl rfl ?_ | refine LL.val (R.index rfl rfl rfl (I.ixA1 rfl (by omega))) rfl rfl rfl ?_ | refine LL.val (R.index rfl rfl rfl (I.ixS1 rfl (by omega))) rfl rfl rfl ?_ | refine LL.val (R.index rfl rfl rfl (I.ixA rfl (by omega))) rfl rfl rfl ?_ | refine LL.val (R.index rfl rfl rfl (I.ixS rfl (by omega))) rfl rfl rfl ?_ | refine LL.val (R.ltT rfl rfl rfl (by omega)) rfl rfl rfl ?_ | refine LL.val (R.ltF rfl rfl rfl (by omega)) rfl rfl rfl ?_ | refine LL.val (R.addNc rfl rfl rfl rfl (by omega)) rfl rfl rfl ?_ | refine LL.val (R.subNc rfl rfl rfl rfl (by omega) (by omega)) rfl rfl rfl ?_ | refine LL.val (R.addN rfl rfl rfl (by omega)) rfl rfl rfl ?_ | refine LL.val (R.subN rfl rfl rfl (by omega) (by omega)) rfl rfl rfl ?_ | refine LL.val (R.subcN rfl rfl rfl rfl (by omega) (by omega)) rfl rfl rfl ?_ | refine LL.val (R.addI rfl rfl rfl (by omega)) rfl rfl rfl ?_ | refine LL.val (R.subI rfl rfl rfl (by omega)) rfl rfl rfl ?_ | refine LL.val (R.mulNc rfl rfl rfl rfl (by omega)) rfl rfl rfl ?_ | refine LL.val (R.mulcN rfl rfl rfl rfl (by omega)) rfl rfl rfl ?_ | refine LL.val (R.quoNc rfl rfl rfl rfl (by omega) (by omega)) rfl rfl rfl ?_ | refine LL.val (R.remNc rfl rfl rfl rfl (by omega)) rfl rfl rfl ?_ | refine LL.val (R.mulN rfl rfl rfl (by omega)) rfl rfl rfl ?_ | refine LL.val (R.quoN rfl rfl rfl (by omega) (by omega)) rfl rfl rfl ?_ | refine LL.val (R.remN rfl rfl rfl (by omega)) rfl rfl rfl ?_ | refine LL.val (R.leT rfl rfl rfl (by omega)) rfl rfl rfl ?_ | refine LL.val (R.leF rfl rfl rfl (by omega)) rfl rfl rfl ?_ | refine LL.val (R.gtT rfl rfl rfl (by omega)) rfl rfl rfl ?_ | refine LL.val (R.gtF rfl rfl rfl (by omega)) rfl rfl rfl ?_ | refine LL.val (R.geT rfl rfl rfl (by omega)) rfl rfl rfl ?_ | refine LL.val (R.geF rfl rfl rfl (by omega)) rfl rfl rfl ?_ | refine LL.val (R.eqT rfl rfl rfl (by omega)) rfl rfl rfl ?_ | refine LL.val (R.eqF rfl rfl rfl (by omega)) rfl rfl rfl ?_ | refine LL.val (R.neT rfl rfl rfl (by omega)) rfl rfl rfl ?_ | refine LL.val (R.neF rfl rfl rfl (by omega)) rfl rfl rfl ?_ | refine LL.val (R.eqPtr rfl rfl rfl rfl rfl) rfl rfl rfl ?_ | refine LL.val (R.nePtr rfl rfl rfl rfl rfl) rfl rfl rfl ?_ | refine LL.val (R.eqSl rfl rfl rfl rfl rfl) rfl rfl rfl ?_ | refine LL.val (R.neSl rfl rfl rfl rfl rfl) rfl rfl rfl ?_ | refine LL.val (R.eqFn rfl rfl rfl rfl) rfl rfl rfl ?_ | refine LL.val (R.eqBool rfl rfl rfl rfl rfl) rfl rfl rfl ?_ | refine LL.val (R.neBool rfl rfl rfl rfl rfl) rfl rfl rfl ?_ | refine LL.val (R.xorU rfl rfl rfl (by first | omega | decide) (by first | omega | decide)) rfl rfl rfl ?_ | refine LL.val (R.addUN rfl rfl rfl (by omega)) rfl rfl rfl ?_ | refine LL.val (R.not rfl rfl) rfl rfl rfl ?_ | refine LL.val (R.lenS rfl rfl rfl rfl) rfl rfl rfl ?_ | refine LL.val (R.len rfl rfl rfl rfl) rfl rfl rfl ?_ | refine LL.val (R.pick rfl rfl rfl) rfl rfl rfl ?_ | refine LL.val (R.extract rfl rfl rfl) rfl rfl rfl ?_ | refine LL.val (R.func rfl rfl rfl) rfl rfl rfl ?_ | refine LL.val (R.slice rfl rfl rfl rfl rfl (I.slA rfl)) rfl rfl rfl ?_ | refine LL.val (R.slice rfl rfl rfl rfl rfl (I.slAto rfl (by omega))) rfl rfl rfl ?_) | refine LL.skip rfl rfl ?_))
        refine EE.ret _ rfl rfl ?_
        refine ⟨?_, hbw.drew⟩
        have : xs ≠ ys := fun e => hst (by rw [e, ht2] at hs; exact (Option.some.inj hs).symm)
        simp [resV, this]
    · obtain rfl : i = N := by omega
      rw [List.take_of_length_le (by omega), List.take_of_length_le (by omega)] at ht
      (repeat (first | (first | refine CC.seq ?_ | refine CC.region ?_ | refine LL.nilS ?_ | refine CC.yes rfl ?_ | refine CC.no rfl ?_ | refine CC.block ?_ | refine EE.thenN ?_ | refine LL.nil ?_ | refine CC.exit ?_ | refine CC.ret ?_ | refine CC.skip ?_ | refine EE.thenX ?_ | refine EE.thenR ?_ | refine EE.inN ?_ | refine EE.inX ?_ | refine EE.inX' rfl ?_ | refine EE.inR ?_ | refine CC.label ?_ | refine EE.thenG ?_ | refine EE.inG ?_) | (first | refine LL.val (R.move rfl rfl) rfl rfl rfl ?_ | refine LL.val (R.assign rfl rfl) rfl rfl rfl ?_ | refine LL.val (R.nil rfl rfl) rfl rfl rfl ?_ | refine LL.val (R.field rfl rfl (I.fld rfl)) rfl rfl rfl ?_ | refine LL.val (R.load rfl rfl (I.ld1 rfl (by assumption))) rfl rfl rfl ?_ | refine LL.val (R.load rfl rfl (I.ld1 rfl (RowL.cell (by assumption) rfl))) rfl rfl rfl ?_ | refine LL.val (R.index rfl rfl rfl (I.ixA1c rfl rfl (by first | omega | decide))) rfl rfl rfl ?_ | refine LL.val (R.index rfl rfl rfl (I.ixS1c rfl rfl (by omega))) rfl rfl rfl ?_ | refine LL.val (R.index rfl rfl rfl (I.ixAc rfl rfl (by first | omega | decide))) rfl rfl rfl ?_ | refine LL.val (R.index rfl rfl rfl (I.ixSc rfl rfl (by omega))) rfl rfl rfl ?_ | refine LL.val (R.index rfl rfl rfl (I.ixA1 rfl (by omega))) rfl rfl rfl ?_ | refine LL.val (R.index rfl rfl rfl (I.ixS1 rfl (by omega))) rfl rfl rfl ?_ | refine LL.val (R.index rfl rfl rfl (I.ixA rfl (by omega))) rfl rfl rfl ?_ | refine LL.val (R.index rfl rfl rfl (I.ixS rfl (by omega))) rfl rfl rfl ?_ | refine LL.val (R.ltT rfl rfl rfl (by omega)) rfl rfl rfl ?_ | refine LL.val (R.ltF rfl rfl rfl (by omega)) rfl rfl rfl ?_ | refine LL.val (R.addNc rfl rfl rfl rfl (by omega)) rfl rfl rfl ?_ | refine LL.val (R.subNc rfl rfl rfl rfl (by omega) (by omega)) rfl rfl rfl ?_ | refine LL.val (R.addN rfl rfl rfl (by omega)) rfl rfl rfl ?_ | refine LL.val (R.subN rfl rfl rfl (by omega) (by omega)) rfl rfl rfl ?_ | refine LL.val (R.subcN rfl rfl rfl rfl (by omega) (by omega)) rfl rfl rfl ?_ | refine LL.val (R.addI rfl rfl rfl (by omega)) rfl rfl rfl ?_ | refine LL.val (R.subI rfl rfl rfl (by omega)) rfl rfl rfl ?_ | refine LL.val (R.mulNc rfl rfl rfl rfl (by omega)) rfl rfl rfl ?_ | refine LL.val (R.mulcN rfl rfl rfl rfl (by omega)) rfl rfl rfl ?_ | refine LL.val (R.quoNc rfl rfl rfl rfl (by omega) (by omega)) rfl rfl rfl ?_ | refine LL.val (R.remNc rfl rfl rfl rfl (by omega)) rfl rfl rfl ?_ | refine LL.val (R.mulN rfl rfl rfl (by omega)) rfl rfl rfl ?_ | refine LL.val (R.quoN rfl rfl rfl (by omega) (by omega)) rfl rfl rfl ?_ | refine LL.val (R.remN rfl rfl rfl (by omega)) rfl rfl rfl ?_ | refine LL.val (R.leT rfl rfl rfl (by omega)) rfl rfl rfl ?_ | refine LL.val (R.leF rfl rfl rfl (by omega)) rfl rfl rfl ?_ | refine LL.val (R.gtT rfl rfl rfl (by omega)) rfl rfl rfl ?_ | refine LL.val (R.gtF rfl rfl rfl (by omega)) rfl rfl rfl ?_ | refine LL.val (R.geT rfl rfl rfl (by omega)) rfl rfl rfl ?_ | refine LL.val (R.geF rfl rfl rfl (by omega)) rfl rfl rfl ?_ | refine LL.val (R.eqT rfl rfl rfl (by omega)) rfl rfl rfl ?_ | refine LL.val (R.eqF rfl rfl rfl (by omega)) rfl rfl rfl ?_ | refine LL.val (R.neT rfl rfl rfl (by omega)) rfl rfl rfl ?_ | refine LL.val (R.neF rfl rfl rfl (by omega)) rfl rfl rfl ?_ | refine LL.val (R.eqPtr rfl rfl rfl rfl rfl) rfl rfl rfl ?_ | refine LL.val (R.nePtr rfl rfl rfl rfl rfl) rfl rfl rfl ?_ | refine LL.val (R.eqSl rfl rfl rfl rfl rfl) rfl rfl rfl ?_ | refine LL.val (R.neSl rfl rfl rfl rfl rfl) rfl rfl rfl ?_ | refine LL.val (R.eqFn rfl rfl rfl rfl) rfl rfl rfl ?_ | refine LL.val (R.eqBool rfl rfl rfl rfl rfl) rfl rfl rfl ?_ | refine LL.val (R.neBool rfl rfl rfl rfl rfl) rfl rfl rfl ?_ | refine LL.val (R.xorU rfl rfl rfl (by first | omega | decide) (by first | omega | decide)) rfl rfl rfl ?_ | refine LL.val (R.addUN rfl rfl rfl (by omega)) rfl rfl rfl ?_ | refine LL.val (R.not rfl rfl) rfl rfl rfl ?_ | refine LL.val (R.lenS rfl rfl rfl rfl) rfl rfl rfl ?_ | refine LL.val (R.len rfl rfl rfl rfl) rfl rfl rfl ?_ | refine LL.val (R.pick rfl rfl rfl) rfl rfl rfl ?_ | refine LL.val (R.extract rfl rfl rfl) rfl rfl rfl ?_ | refine LL.val (R.func rfl rfl rfl) rfl rfl rfl ?_ | refine LL.val (R.slice rfl rfl rfl rfl rfl (I.slA rfl)) rfl rfl rfl ?_ | refine LL.val (R.slice rfl rfl rfl rfl rfl (I.slAto rfl (by omega))) rfl rfl rfl ?_) | refine LL.skip rfl rfl ?_))
      refine EE.ret _ rfl rfl ?_
      exact ⟨by simp [resV, ht], hbw⟩
  · (repeat (first | (first | refine CC.seq ?_ | refine CC.region ?_ | refine LL.nilS ?_ | refine CC.yes rfl ?_ | refine CC.no rfl ?_ | refine CC.block ?_ | refine EE.thenN ?_ | refine LL.nil ?_ | refine CC.exit ?_ | refine CC.ret ?_ | refine CC.skip ?_ | refine EE.thenX ?_ | refine EE.thenR ?_ | refine EE.inN ?_ | refine EE.inX ?_ | refine EE.inX' rfl ?_ | refine EE.inR ?_ | refine CC.label ?_ | refine EE.thenG ?_ | refine EE.inG ?_) | (first | refine LL.val (R.move rfl rfl) rfl rfl rfl ?_ | refine LL.val (R.assign rfl rfl) rfl rfl rfl ?_ | refine LL.val (R.nil rfl rfl) rfl rfl rfl ?_ | refine LL.val (R.field rfl rfl (I.fld rfl)) rfl rfl rfl ?_ | refine LL.val (R.load rfl rfl (I.ld1 rfl (by assumption))) rfl rfl rfl ?_ | refine LL.val (R.load rfl rfl (I.ld1 rfl (RowL.cell (by assumption) rfl))) rfl rfl rfl ?_ | refine LL.val (R.index rfl rfl rfl (I.ixA1c rfl rfl (by first | omega | decide))) rfl rfl rfl ?_ | refine LL.val (R.index rfl rfl rfl (I.ixS1c rfl rfl (by omega))) rfl rfl rfl ?_ | refine LL.val (R.index rfl rfl rfl (I.ixAc rfl rfl (by first | omega | decide))) rfl rfl rfl ?_ | refine LL.val (R.index rfl rfl rfl (I.ixSc rfl rfl (by omega))) rfl rfl rfl ?_ | refine LL.val (R.index rfl rfl rfl (I.ixA1 rfl (by omega))) rfl rfl rfl ?_ | refine LL.val (R.index rfl rfl rfl (I.ixS1 rfl (by omega))) rfl rfl rfl ?_ | refine LL.val (R.index rfl rfl rfl (I.ixA rfl (by omega))) rfl rfl rfl ?_ | refine LL.val (R.index rfl rfl rfl (I.ixS rfl (by omega))) rfl rfl rfl ?_ | refine LL.val (R.ltT rfl rfl rfl (by omega)) rfl rfl rfl ?_ | refine LL.val (R.ltF rfl rfl rfl (by omega)) rfl rfl rfl ?_ | refine LL.val (R.addNc rfl rfl rfl rfl (by omega)) rfl rfl rfl ?_ | refine LL.val (R.subNc rfl rfl rfl rfl (by omega) (by omega)) rfl rfl rfl ?_ | refine LL.val (R.addN rfl rfl rfl (by omega)) rfl rfl rfl ?_ | refine LL.val (R.subN rfl rfl rfl (by omega) (by omega)) rfl rfl rfl ?_ | refine LL.val (R.subcN rfl rfl rfl rfl (by omega) (by omega)) rfl rfl rfl ?_ | refine LL.val (R.addI rfl rfl rfl (by omega)) rfl rfl rfl ?_ | refine LL.val (R.subI rfl rfl rfl (by omega)) rfl rfl rfl ?_ | refine LL.val (R.mulNc rfl rfl rfl rfl (by omega)) rfl rfl rfl ?_ | refine LL.val (R.mulcN rfl rfl rfl rfl (by omega)) rfl rfl rfl ?_ | refine LL.val (R.quoNc rfl rfl rfl rfl (by omega) (by omega)) rfl rfl rfl ?_ | refine LL.val (R.remNc rfl rfl rfl rfl (by omega)) rfl rfl rfl ?_ | refine LL.val (R.mulN rfl rfl rfl (by omega)) rfl rfl rfl ?_ | refine LL.val (R.quoN rfl rfl rfl (by omega) (by omega)) rfl rfl rfl ?_ | refine LL.val (R.remN rfl rfl rfl (by omega)) rfl rfl rfl ?_ | refine LL.val (R.leT rfl rfl rfl (by omega)) rfl rfl rfl ?_ | refine LL.val (R.leF rfl rfl rfl (by omega)) rfl rfl rfl ?_ | refine LL.val (R.gtT rfl rfl rfl (by omega)) rfl rfl rfl ?_ | refine LL.val (R.gtF rfl rfl rfl (by omega)) rfl rfl rfl ?_ | refine LL.val (R.geT rfl rfl rfl (by omega)) rfl rfl rfl ?_ | refine LL.val (R.geF rfl rfl rfl (by omega)) rfl rfl rfl ?_ | refine LL.val (R.eqT rfl rfl rfl (by omega)) rfl rfl rfl ?_ | refine LL.val (R.eqF rfl rfl rfl (by omega)) rfl rfl rfl ?_ | refine LL.val (R.neT rfl rfl rfl (by omega)) rfl rfl rfl ?_ | refine LL.val (R.neF rfl rfl rfl (by omega)) rfl rfl rfl ?_ | refine LL.val (R.eqPtr rfl rfl rfl rfl rfl) rfl rfl rfl ?_ | refine LL.val (R.nePtr rfl rfl rfl rfl rfl) rfl rfl rfl ?_ | refine LL.val (R.eqSl rfl rfl rfl rfl rfl) rfl rfl rfl ?_ | refine LL.val (R.neSl rfl rfl rfl rfl rfl) rfl rfl rfl ?_ | refine LL.val (R.eqFn rfl rfl rfl rfl) rfl rfl rfl ?_ | refine LL.val (R.eqBool rfl rfl rfl rfl rfl) rfl rfl rfl ?_ | refine LL.val (R.neBool rfl rfl rfl rfl rfl) rfl rfl rfl ?_ | refine LL.val (R.xorU rfl rfl rfl (by first | omega | decide) (by first | omega | decide)) rfl rfl rfl ?_ | refine LL.val (R.addUN rfl rfl rfl (by omega)) rfl rfl rfl ?_ | refine LL.val (R.not rfl rfl) rfl rfl rfl ?_ | refine LL.val (R.lenS rfl rfl rfl rfl) rfl rfl rfl ?_ | refine LL.val (R.len rfl rfl rfl rfl) rfl rfl rfl ?_ | refine LL.val (R.pick rfl rfl rfl) rfl rfl rfl ?_ | refine LL.val (R.extract rfl rfl rfl) rfl rfl rfl ?_ | refine LL.val (R.func rfl rfl rfl) rfl rfl rfl ?_ | refine LL.val (R.slice rfl rfl rfl rfl rfl (I.slA rfl)) rfl rfl rfl ?_ | refine LL.val (R.slice rfl rfl rfl rfl rfl (I.slAto rfl (by omega))) rfl rfl rfl ?_) | refine LL.skip rfl rfl ?_))
    refine EE.ret _ rfl rfl ?_
    have : xs ≠ ys := fun e => hne (by rw [← hN, ← hN2, e])
    exact ⟨by simp [resV, this], Below.refl _ _⟩
section
variable {α : Type} {enc : α → List Value} {k : Nat} {P : Program} {ops : Array Oper} {ok : World → Prop} {n i : Nat} {D : List Deferred} {M : Slots} {w : World} {o : Oper} {K : Slots → World → Prop} {T e : TypeId} {z : Value} {bytes : Nat}
theorem SR.append0 {xs : Array Operand} {g : Nat} {vx : Value} {us : List α} (hi : ops[i]? = some o) (ho : o.op = .call { callee := .builtin .append, args := xs, argTypes := #[T, T] }) (hx : evsM M xs.toList = some [.slice (some ⟨g, 0, none⟩) 0 0, vx]) (E : Enc enc k) (I : ElT P T e z k bytes) (hrow : RowL w g e []) (hr : ReadsT enc k w vx us)
    (h63 : us.length ≤ maxLen) (hb : us.length * bytes ≤ 140737488355328) (hd : dstB n o.dst = true) (hg : wantB ops M o.guard = some true)
    (c : ∀ v' w', OwnsT enc k w' g e v' us → Below w.heap.size w w' → ok w' ∧ K (putM M o.dst v') w') : SR P ops ok i K n D M w := by
  have hown : OwnsT enc k w g e (.slice (some ⟨g, 0, none⟩) 0 0) [] := RowL.ownsT (ts := []) E hrow (Nat.le_refl _) (by simp [maxLen])
  obtain ⟨v', w', h1, h2, h3⟩ := run_append_t0 E I o.type hown hr h63 hb (Nat.le_of_lt hrow.lt)
  have h := c v' w' h2 h3
  refine SR.val (v := v') hi (R.builtin ho hx fun b => ?_) hd hg h.1 h.2
  unfold builtin
  simp only [Sem.run_bind, h1, Result.andThen_ok, Sem.run_pure]
end
def stoE (ps : List Pt) (e0 : Int) (w0 : World) (e : Ending) (w : World) : Prop := ∃ v, e = .returned (.tuple #[v, .int .i64 e0]) ∧ ReadsT pE 2 w v ps ∧ Below w0.heap.size w0 w
theorem stores_all (a : Nat) (ha : a ≤ 1099511627776) (was : List Nat) (hl : was.length ≤ 40) (k l z : Int) (x : Option Addr) (n c : Nat) (m : List Ex) (r p : Int) (t : Bs) (hlen : m.length ≤ 1048576) (htl : t.length ≤ 1048576) : ∃ ps e0, ps.length ≤ 16 ∧ (∀ v w, Start w → Reads w v (ints .u64 was) → ReadsT eE 3 w (.slice x n c) m → Calls Tryd.prog 20 #[.int .i64 (a : Int), v, inV k l z (.slice x n c) r p t] w (stoE ps e0 w)) ∧ ∀ v w, Reads w v (ints .u64 was) → ReadsT eE 3 w (.slice x n c) m → Calls Tryd.prog 21 #[.int .i64 (a : Int), v, inV k l z (.slice x n c) r p t] w (stoE ps e0 w) := by
  by_cases hok : okI k l z m r p t
  case neg =>
    refine ⟨[], 240, by decide, fun v w hS hv hu => ?_, fun v w hv hu => ?_⟩
    · obtain ⟨_, _, rfl, _⟩ := hv.intsN rfl
      exact (stI_F a _ _ _ k l z x n c m r p t w hu hlen htl hok).mono fun e w' ⟨he, hb⟩ => ⟨_, he, ReadsT.nil _, hb⟩
    · obtain ⟨_, _, rfl, _⟩ := hv.intsN rfl
      exact (stD_F a _ _ _ k l z x n c m r p t w hu hlen htl hok).mono fun e w' ⟨he, hb⟩ => ⟨_, he, ReadsT.nil _, hb⟩
  by_cases h16 : was.length = 16
  case neg =>
    refine ⟨[], 240, by decide, fun v w hS hv hu => ?_, fun v w hv hu => ?_⟩
    · obtain ⟨_, _, rfl, _⟩ := hv.intsN rfl
      exact (stI_L a _ _ _ h16 (by omega) k l z x n c m r p t w hS hu hlen hok).mono fun e w' ⟨he, hb⟩ => ⟨_, he, ReadsT.nil _, hb⟩
    · obtain ⟨_, _, rfl, _⟩ := hv.intsN rfl
      exact (stD_L a _ _ _ h16 (by omega) k l z x n c m r p t w hu hlen hok).mono fun e w' ⟨he, hb⟩ => ⟨_, he, ReadsT.nil _, hb⟩
  refine ⟨difS a (inoW k l z m r p t) was 16, 0, difS_len _ _ _ _, fun v w hS hv hu => ?_, fun v w hv hu => ?_⟩
  · obtain ⟨_, _, rfl, _⟩ := hv.intsN h16
    obtain ⟨bk, off, rfl, hW, hc⟩ := reads_wds hv h16
    exact (stI_T a bk off _ was k l z x n c m r p t w hS hu hlen hok ha hW h16).mono fun e w' ⟨v, he, ho, hb⟩ => ⟨v, he, ho.reads pEnc, hb⟩
  · obtain ⟨_, _, rfl, _⟩ := hv.intsN h16
    obtain ⟨bk, off, rfl, hW, hc⟩ := reads_wds hv h16
    exact (stD_T a bk off _ was k l z x n c m r p t w hu hlen hok ha hW h16).mono fun e w' ⟨v, he, ho, hb⟩ => ⟨v, he, ho.reads pEnc, hb⟩
theorem instores_out (at_ : Int) (v : Value) (was : List Nat) (k l z : Int) (x : Option Addr) (n c : Nat) (m : List Ex) (r p : Int) (t : Bs) (w : World) (hS : Start w) (hv : Reads w v (ints .u64 was)) (hu : ReadsT eE 3 w (.slice x n c) m) (hn : n ≤ 9223372036854775807) (hwn : was.length ≤ 9223372036854775807) (ht : t.length ≤ 9223372036854775807) (h : 40 < was.length ∨ ¬(n ≤ 30 ∧ t.length ≤ 300) ∨ at_ < 0 ∨ 1099511627776 < at_) : Calls Tryd.prog 5 #[.int .i64 at_, v, inV k l z (.slice x n c) r p t] w fun e w' => e = .returned (.bool true) ∧ Below w.heap.size w w' := by
  have q := Below.refl w.heap.size w
  have hSF : ∀ X, Below w.heap.size w X → Start X := fun X b => hS.up b
  obtain ⟨f1, e1⟩ : ∃ f : Bool, f = decide (n ≤ 30 ∧ t.length ≤ 300) := ⟨_, rfl⟩
  have hfa := fun W => few_any k l z x n c r p t W hn ht f1 e1
  obtain ⟨N, hN⟩ : ∃ N, was.length = N := ⟨_, rfl⟩
  obtain ⟨a, cap, rfl, hcap, _⟩ := hv.intsN hN
  rw [hN] at h hwn
  clear hS hv hu
  by_cases hA : 40 < N
  · clear h
    refine X.fn Tryd.func5 rfl (n := 56) rfl rfl ?_
    refine Zr ?_
    refine LL.box [.int .i64 k, .int .i64 l, .int .i64 z, .slice x n c, .int .i64 r, .int .i64 p, strV t] rfl rfl rfl rfl rfl ?_
    intro W2 g3 eg3 r4 z5 b1
    replace q := Zu q b1; refine Za ?_; refine Zq ?_; refine Zc ?_; refine Zr ?_; refine Zm ?_; refine Zn ?_; refine ZgtT ?_; refine Zm ?_; refine Zs ?_; refine Zs ?_; refine Zs ?_; refine Zp ?_; refine Zm ?_; refine Zs ?_; refine Zs ?_; refine Zp ?_; refine Zm ?_; refine Zs ?_; refine Zs ?_; refine Zp ?_; refine Zq ?_; refine ZY ?_; refine Zr ?_
    refine Zy (R.call rfl rfl rfl) (works_any _ (hSF _ q)) ?_
    rintro e W7 ⟨rfl, b6⟩
    refine ⟨_, rfl, ?_⟩; have zb6 := b6.size; replace r4 := r4.up b6; replace b1 := Zu b1 b6; replace q := Zu q b6; refine Za ?_; refine Zq ?_; refine ZR ?_; refine EE.thenR ?_; refine EE.ret _ rfl rfl ?_
    exact ⟨rfl, q⟩
  cases f1 with
  | false =>
    clear h
    refine X.fn Tryd.func5 rfl (n := 56) rfl rfl ?_
    refine Zr ?_
    refine LL.box [.int .i64 k, .int .i64 l, .int .i64 z, .slice x n c, .int .i64 r, .int .i64 p, strV t] rfl rfl rfl rfl rfl ?_
    intro Wa2 ga3 ega3 ra4 za5 ba1
    replace q := Zu q ba1; refine Za ?_; refine Zq ?_; refine Zc ?_; refine Zr ?_; refine Zm ?_; refine Zn ?_; refine ZgtF ?_; refine Zm ?_; refine Zv ra4 ?_
    refine Zy (R.call rfl rfl rfl) (hfa _) ?_
    rintro e Wa7 ⟨rfl, ba6⟩
    refine ⟨_, rfl, ?_⟩; have zba6 := ba6.size; replace ra4 := ra4.up ba6; replace ba1 := Zu ba1 ba6; replace q := Zu q ba6; refine Zt ?_; refine Zp ?_; refine Zm ?_; refine Zs ?_; refine Zs ?_; refine Zp ?_; refine Zm ?_; refine Zs ?_; refine Zs ?_; refine Zp ?_; refine Zq ?_; refine ZY ?_; refine Zr ?_
    refine Zy (R.call rfl rfl rfl) (works_any _ (hSF _ q)) ?_
    rintro e Wa10 ⟨rfl, ba9⟩
    refine ⟨_, rfl, ?_⟩; have zba9 := ba9.size; replace ba6 := Zu ba6 ba9; replace ra4 := ra4.up ba9; replace ba1 := Zu ba1 ba9; replace q := Zu q ba9; refine Za ?_; refine Zq ?_; refine ZR ?_; refine EE.thenR ?_; refine EE.ret _ rfl rfl ?_
    exact ⟨rfl, q⟩
  | true =>
    have h2 : at_ < 0 ∨ 1099511627776 < at_ := by
      rcases h with h | h | h
      · exact absurd h hA
      · exact absurd (of_decide_eq_true e1.symm) h
      · exact h
    clear h
    by_cases hB : at_ < 0
    · refine X.fn Tryd.func5 rfl (n := 56) rfl rfl ?_
      refine Zr ?_
      refine LL.box [.int .i64 k, .int .i64 l, .int .i64 z, .slice x n c, .int .i64 r, .int .i64 p, strV t] rfl rfl rfl rfl rfl ?_
      intro Wb2 gb3 egb3 rb4 zb5 bb1
      replace q := Zu q bb1; refine Za ?_; refine Zq ?_; refine Zc ?_; refine Zr ?_; refine Zm ?_; refine Zn ?_; refine ZgtF ?_; refine Zm ?_; refine Zv rb4 ?_
      refine Zy (R.call rfl rfl rfl) (hfa _) ?_
      rintro e Wb7 ⟨rfl, bb6⟩
      refine ⟨_, rfl, ?_⟩; have zbb6 := bb6.size; replace rb4 := rb4.up bb6; replace bb1 := Zu bb1 bb6; replace q := Zu q bb6; refine Zt ?_; refine Zp ?_; refine Zm ?_; refine Zm ?_; refine ZltT ?_; refine Zp ?_; refine Zm ?_; refine Zs ?_; refine Zs ?_; refine Zp ?_; refine Zq ?_; refine ZY ?_; refine Zr ?_
      refine Zy (R.call rfl rfl rfl) (works_any _ (hSF _ q)) ?_
      rintro e Wb10 ⟨rfl, bb9⟩
      refine ⟨_, rfl, ?_⟩; have zbb9 := bb9.size; replace bb6 := Zu bb6 bb9; replace rb4 := rb4.up bb9; replace bb1 := Zu bb1 bb9; replace q := Zu q bb9; refine Za ?_; refine Zq ?_; refine ZR ?_; refine EE.thenR ?_; refine EE.ret _ rfl rfl ?_
      exact ⟨rfl, q⟩
    · refine X.fn Tryd.func5 rfl (n := 56) rfl rfl ?_
      refine Zr ?_
      refine LL.box [.int .i64 k, .int .i64 l, .int .i64 z, .slice x n c, .int .i64 r, .int .i64 p, strV t] rfl rfl rfl rfl rfl ?_
      intro Wc2 gc3 egc3 rc4 zc5 bc1
      replace q := Zu q bc1; refine Za ?_; refine Zq ?_; refine Zc ?_; refine Zr ?_; refine Zm ?_; refine Zn ?_; refine ZgtF ?_; refine Zm ?_; refine Zv rc4 ?_
      refine Zy (R.call rfl rfl rfl) (hfa _) ?_
      rintro e Wc7 ⟨rfl, bc6⟩
      refine ⟨_, rfl, ?_⟩; have zbc6 := bc6.size; replace rc4 := rc4.up bc6; replace bc1 := Zu bc1 bc6; replace q := Zu q bc6; refine Zt ?_; refine Zp ?_; refine Zm ?_; refine Zm ?_; refine ZltF ?_; refine Zp ?_; refine Zm ?_; refine Zm ?_; refine ZgtT ?_; refine Zp ?_; refine Zq ?_; refine ZY ?_; refine Zr ?_
      refine Zy (R.call rfl rfl rfl) (works_any _ (hSF _ q)) ?_
      rintro e Wc10 ⟨rfl, bc9⟩
      refine ⟨_, rfl, ?_⟩; have zbc9 := bc9.size; replace bc6 := Zu bc6 bc9; replace rc4 := rc4.up bc9; replace bc1 := Zu bc1 bc9; replace q := Zu q bc9; refine Za ?_; refine Zq ?_; refine ZR ?_; refine EE.thenR ?_; refine EE.ret _ rfl rfl ?_
      exact ⟨rfl, q⟩
theorem psame_T (ps : List Pt) (v1 v2 : Value) (w : World) (h1 : ReadsT pE 2 w v1 ps) (h2 : ReadsT pE 2 w v2 ps) (hl : ps.length ≤ 1048576) : Calls Tryd.prog 22 #[v1, v2] w fun e w' => e = .returned (.bool true) ∧ Below w.heap.size w w' := by
  have := psame_any v1 v2 ps ps w h1 h2 hl hl
  rwa [decide_eq_true rfl] at this
theorem instores_in (a : Nat) (v : Value) (was : List Nat) (k l z : Int) (x : Option Addr) (n c : Nat) (m : List Ex) (r p : Int) (t : Bs) (w : World) (hS : Start w) (hv : Reads w v (ints .u64 was)) (hu : ReadsT eE 3 w (.slice x n c) m) (hml : m.length = n) (hwl : was.length ≤ 40) (hf : n ≤ 30 ∧ t.length ≤ 300) (ha : a ≤ 1099511627776) : Calls Tryd.prog 5 #[.int .i64 (a : Int), v, inV k l z (.slice x n c) r p t] w fun e w' => e = .returned (.bool true) ∧ Below w.heap.size w w' := by
  have q := Below.refl w.heap.size w
  have hSF : ∀ X, Below w.heap.size w X → Start X := fun X b => hS.up b
  have hfa := fun W => few_any k l z x n c r p t W (by omega) (by omega) true (decide_eq_true hf).symm
  have hvF : ∀ X, Below w.heap.size w X → Reads X v (ints .u64 was) := fun X b => hv.up b
  have huF : ∀ X, Below w.heap.size w X → ReadsT eE 3 X (.slice x n c) m := fun X b => hu.up b
  obtain ⟨ps, e0, hps16, h1, h2⟩ := stores_all a ha was hwl k l z x n c m r p t (by omega) (by omega)
  have hps : ps.length ≤ 1048576 := by omega
  obtain ⟨N, hN⟩ : ∃ N, was.length = N := ⟨_, rfl⟩
  obtain ⟨a1, cap, rfl, hcap, _⟩ := hv.intsN hN
  rw [hN] at hwl
  clear hS hu
  have hlu : (ints .u64 was).length = N := by simp [ints, hN]
  refine X.fn Tryd.func5 rfl (n := 56) rfl rfl ?_
  refine Zr ?_
  refine LL.box [.int .i64 k, .int .i64 l, .int .i64 z, .slice x n c, .int .i64 r, .int .i64 p, strV t] rfl rfl rfl rfl rfl ?_
  intro W23 g24 eg24 r25 z26 b22
  replace q := Zu q b22; replace hv := hv.up b22; refine Za ?_; refine Zq ?_; refine Zc ?_; refine Zr ?_; refine Zm ?_; refine Zn ?_; refine ZgtF ?_; refine Zm ?_; refine Zv r25 ?_
  refine Zy (R.call rfl rfl rfl) (hfa _) ?_
  rintro e W196 ⟨rfl, b195⟩
  refine ⟨_, rfl, ?_⟩; have zb195 := b195.size; replace r25 := r25.up b195; replace b22 := Zu b22 b195; replace q := Zu q b195; replace hv := hv.up b195; refine Zt ?_; refine Zp ?_; refine Zm ?_; refine Zm ?_; refine ZltF ?_; refine Zp ?_; refine Zm ?_; refine Zm ?_; refine ZgtF ?_; refine Zp ?_; refine Zq ?_; refine ZN ?_; refine ZK ?_; refine ZT ?_; refine Zc ?_
  refine CC.freeZ (fun W_ j => j < W_.heap.size ∧ (True)) (by kernel_rfl) (by kernel_rfl) (fun W439 b438 z440 => ?_)
  replace b195 := Zu b195 b438; replace r25 := r25.up b438; replace b22 := Zu b22 b438; replace q := Zu q b438; replace hv := hv.up b438
  have hok : Kept (fun j => j < W439.heap.size ∧ (True)) W439 W439 := Kept.refl _ _
  have fzr25 := fzRow (K := fun j => j < W439.heap.size ∧ (True)) r25 ⟨r25.lt, (by first | trivial | omega)⟩
  refine AA.pure 0 rfl hok (by kernel_rfl) (fun w' b' => R.move rfl rfl) rfl rfl ?_
  refine AA.pure 2 rfl hok (by kernel_rfl) (fun w' b' => R.move rfl rfl) rfl rfl ?_
  refine AA.pure 4 rfl hok (by kernel_rfl) (fun w' b' => R.load rfl rfl (I.ldNc (vs := [Value.int IntKind.i64 k, Value.int IntKind.i64 l, Value.int IntKind.i64 z, Value.slice x n c, Value.int IntKind.i64 r, Value.int IntKind.i64 p, strV t]) (RowL.cells (fzr25 w' b') rfl) (by rfl) (by rfl))) rfl rfl ?_
  refine AA.one 1 (by kernel_rfl) ?_
  have l465 := r25.lt
  refine ZR.lit (e := 41) [] 0 rfl rfl rfl (fun _ => by kernel_rfl) rfl rfl ?_
  intro W467 g468 eg468 r469 z470 b466
  replace b438 := Zu b438 b466; replace b195 := Zu b195 b466; replace r25 := r25.up b466; replace b22 := Zu b22 b466; replace q := Zu q b466; replace hv := hv.up b466; replace hok := Zh hok b466; have y471 := hok.size
  refine ⟨hok, ?_⟩
  refine AA.one 3 (by kernel_rfl) ?_
  refine ZR.appendL rfl rfl rfl El64 r469 (by first | assumption | exact OwnW.reads (by assumption)) (ints_one _ _) (by simp only [maxLen, List.length_map, List.length_cons, List.length_nil]; omega) (by simp only [maxLen, List.length_map, List.length_cons, List.length_nil]; omega) rfl rfl ?_
  have hlb502 := r469.lt
  intro v499 W500 o501 b502
  clear r469
  replace o501 := o501.low (show w.heap.size ≤ _ by omega)
  replace b466 := Zg b466 b502; replace b438 := Zg b438 b502; replace b195 := Zg b195 b502; replace r25 := Zd r25 b502; replace b22 := Zg b22 b502; replace q := Zg q b502; replace hok := Zo hok b502; have zb502 := b502.size
  refine ⟨hok, ?_⟩
  refine AA.one 5 (by kernel_rfl) ?_
  have l507 := r25.lt
  (refine SR.call rfl (R.call rfl rfl rfl) rfl rfl (h1 _ _ (hSF _ q) (OwnW.reads (by assumption)) (huF _ q)) ?_; rintro e W506 ⟨v4, rfl, rd4, b503⟩; refine ⟨_, rfl, ?_⟩; obtain ⟨x4, c4, rfl, _⟩ := rd4.form rfl)
  have zb503 := b503.size; replace o501 := o501.up b503; replace b466 := Zu b466 b503; replace b438 := Zu b438 b503; replace b195 := Zu b195 b503; replace r25 := r25.up b503; replace b22 := Zu b22 b503; replace q := Zu q b503; replace hok := Zh hok b503; have y511 := hok.size
  refine ⟨hok, ?_⟩
  refine AA.pure 6 rfl hok (by kernel_rfl) (fun w' b' => R.move rfl rfl) rfl rfl ?_
  refine AA.pure 7 rfl hok (by kernel_rfl) (fun w' b' => R.extract rfl rfl rfl) rfl rfl ?_
  refine AA.pure 8 rfl hok (by kernel_rfl) (fun w' b' => R.extract rfl rfl rfl) rfl rfl ?_
  refine AA.pure 9 rfl hok (by kernel_rfl) (fun w' b' => R.assign rfl rfl) rfl rfl ?_
  refine AA.pure 10 rfl hok (by kernel_rfl) (fun w' b' => R.assign rfl rfl) rfl rfl ?_
  refine AA.done rfl ?_
  clear fzr25 hok
  refine ZT ?_; refine Zr ?_; refine Zm ?_; refine Zm ?_; refine Zv r25 ?_; have l596 := r25.lt
  (refine Zy (R.call rfl rfl rfl) (h2 _ _ (hvF _ q) (huF _ q)) ?_; rintro e W595 ⟨v5, rfl, rd5, b592⟩; refine ⟨_, rfl, ?_⟩; obtain ⟨x5, c5, rfl, _⟩ := rd5.form rfl)
  have zb592 := b592.size; replace b503 := Zu b503 b592; replace rd4 := rd4.up b592; replace o501 := o501.up b592; replace b466 := Zu b466 b592; replace b438 := Zu b438 b592; replace b195 := Zu b195 b592; replace r25 := r25.up b592; replace b22 := Zu b22 b592; replace q := Zu q b592; refine Zm ?_; refine Zx ?_; refine Zx ?_; refine Za ?_; refine Za ?_; refine Zq ?_; refine Zr ?_; refine Zm ?_; refine Zm ?_
  have l788 := r25.lt
  (refine Zy (R.call rfl rfl rfl) (psame_T ps _ _ _ rd4 rd5 hps) ?_; rintro e W787 ⟨rfl, b784⟩; refine ⟨_, rfl, ?_⟩)
  have zb784 := b784.size; replace b592 := Zu b592 b784; replace rd5 := rd5.up b784; replace b503 := Zu b503 b784; replace rd4 := rd4.up b784; replace o501 := o501.up b784; replace b466 := Zu b466 b784; replace b438 := Zu b438 b784; replace b195 := Zu b195 b784; replace r25 := r25.up b784; replace b22 := Zu b22 b784; replace q := Zu q b784; refine Zm ?_; refine Zm ?_
  refine Zy (R.call rfl rfl rfl) (num_any _ _) ?_
  rintro e W' ⟨rfl, rfl⟩
  refine ⟨_, rfl, ?_⟩; refine Zm ?_; refine ZeqT ?_; refine Zp ?_; refine Zm ?_
  refine Zy (R.call rfl rfl rfl) (works_any _ (hSF _ q)) ?_
  rintro e W985 ⟨rfl, b984⟩
  refine ⟨_, rfl, ?_⟩; have zb984 := b984.size; replace b784 := Zu b784 b984; replace b592 := Zu b592 b984; replace rd5 := rd5.up b984; replace b503 := Zu b503 b984; replace rd4 := rd4.up b984; replace o501 := o501.up b984; replace b466 := Zu b466 b984; replace b438 := Zu b438 b984; replace b195 := Zu b195 b984; replace r25 := r25.up b984; replace b22 := Zu b22 b984; replace q := Zu q b984; refine Zp ?_
  refine Za ?_; refine Zq ?_; refine ZR ?_; refine EE.ret _ rfl rfl ?_
  exact ⟨rfl, q⟩
theorem instores_shell (at_ : Int) (v : Value) (was : List Nat) (k l z : Int) (x : Option Addr) (n c : Nat) (m : List Ex) (r p : Int) (s : ByteArray) (w : World) (hS : Start w) (hv : Reads w v (ints .u64 was)) (hwl : was.length ≤ 9223372036854775807) (hu : ReadsT eE 3 w (.slice x n c) m) (hl : m.length ≤ 9223372036854775807) (hs : s.size ≤ maxLen) : Calls Tryd.prog 5 #[.int .i64 at_, v, .agg #[.int .i64 k, .int .i64 l, .int .i64 z, .slice x n c, .int .i64 r, .int .i64 p, .string s]] w fun e w' => e = .returned (.bool true) ∧ Below w.heap.size w w' := by
  obtain ⟨t, rfl⟩ : ∃ l : Bs, s = ⟨l.toArray⟩ := ⟨s.data.toList, bs_data s⟩
  obtain ⟨_, _, e, _⟩ := hu.form rfl
  cases e
  have hs2 : t.length ≤ 9223372036854775807 := by simpa [ByteArray.size, maxLen] using hs
  by_cases h : 40 < was.length ∨ ¬(m.length ≤ 30 ∧ t.length ≤ 300) ∨ at_ < 0 ∨ 1099511627776 < at_
  · exact instores_out at_ v was k l z x _ c m r p t w hS hv hu hl hwl hs2 h
  · obtain ⟨a, rfl⟩ : ∃ a : Nat, at_ = (a : Int) := ⟨at_.toNat, by omega⟩
    exact instores_in a v was k l z x _ c m r p t w hS hv hu rfl (by omega) (by omega) (by omega)
/-- Words of which so many are these, the others those. -/
def mixW (ws was : List Nat) (p : Nat) : List Nat := ws.take p ++ was.drop p
theorem mixW_len {ws was : List Nat} {p : Nat} (h1 : ws.length = 16) (h2 : was.length = 16) (hp : p ≤ 16) : (mixW ws was p).length = 16 := by
  simp [mixW]
  omega
theorem mixW_at {ws was : List Nat} {p : Nat} (h1 : ws.length = 16) (hp : p ≤ 16) : (mixW ws was p)[p]? = was[p]? := by
  unfold mixW
  have hl : (ws.take p).length = p := by simp; omega
  rw [List.getElem?_append_right (by omega), hl, Nat.sub_self, List.getElem?_drop]
  rfl
theorem mixW_set {ws was : List Nat} {p x : Nat} (h1 : ws.length = 16) (h2 : was.length = 16) (hp : p < 16) (hx : ws[p]? = some x) : (mixW ws was p).set p x = mixW ws was (p + 1) := by
  unfold mixW
  have hl : (ws.take p).length = p := by simp; omega
  obtain ⟨y, hy⟩ : ∃ y, was[p]? = some y := ⟨_, List.getElem?_eq_getElem (by omega)⟩
  rw [List.set_append_right _ _ (by omega), hl, Nat.sub_self, List.take_add_one, hx]
  have hd : was.drop p = y :: was.drop (p + 1) := by
    rw [List.drop_eq_getElem_cons (by omega)]
    congr 1
    have := List.getElem?_eq_getElem (l := was) (i := p) (by omega)
    rw [hy] at this
    exact (Option.some.inj this).symm
  rw [hd, List.set_cons_zero]
  simp
theorem mixW_same {ws was : List Nat} {p x : Nat} (h1 : ws.length = 16) (h2 : was.length = 16) (hp : p < 16) (hx : ws[p]? = some x) (hy : was[p]? = some x) : mixW ws was (p + 1) = mixW ws was p := by
  rw [← mixW_set h1 h2 hp hx]
  refine List.ext_getElem? fun j => ?_
  by_cases h : p = j
  · subst h
    rw [List.getElem?_set_self (by rw [mixW_len h1 h2 (by omega)]; exact hp), mixW_at h1 (by omega), hy]
  · rw [List.getElem?_set_ne h]
theorem mixW_all {ws was : List Nat} (h1 : ws.length = 16) (h2 : was.length = 16) : mixW ws was 16 = ws := by
  unfold mixW
  rw [List.take_of_length_le (by omega), List.drop_eq_nil_of_le (by omega), List.append_nil]
theorem difS_pre (a : Nat) (ws was : List Nat) {i j : Nat} (h : i ≤ j) : difS a ws was i <+: difS a ws was j := by
  unfold difS
  refine List.IsPrefix.filterMap _ ?_
  refine ⟨(List.range j).drop i, ?_⟩
  have e : (List.range j).take i = List.range i := by rw [List.take_range, Nat.min_eq_left h]
  conv => rhs; rw [← List.take_append_drop i (List.range j), e]
theorem dif_next {ws was : List Nat} (h1 : ws.length = 16) (h2 : was.length = 16) (i : Nat) (hi : i < (difS 5 ws was 16).length) : ∀ d p, 16 - p = d → p ≤ 16 → (difS 5 ws was p).length = i → ∃ p' x y, p ≤ p' ∧ p' < 16 ∧ ws[p']? = some x ∧ was[p']? = some y ∧ x ≠ y ∧ (difS 5 ws was 16)[i]? = some (((5 + p' : Nat) : Int), x) ∧ mixW ws was p = mixW ws was p' ∧ (difS 5 ws was (p' + 1)).length = i + 1
  | 0, p, hd, hp, hl => by
    obtain rfl : p = 16 := by omega
    omega
  | d + 1, p, hd, hp, hl => by
    obtain ⟨x, hx⟩ : ∃ x, ws[p]? = some x := ⟨_, List.getElem?_eq_getElem (by omega)⟩
    obtain ⟨y, hy⟩ : ∃ y, was[p]? = some y := ⟨_, List.getElem?_eq_getElem (by omega)⟩
    have hst := difS_succ (a := 5) hx hy
    by_cases hxy : x = y
    · subst hxy
      rw [if_pos rfl, List.append_nil] at hst
      obtain ⟨p', x', y', q1, q2, q3, q4, q5, q6, q7, q8⟩ := dif_next h1 h2 i hi d (p + 1) (by omega) (by omega) (by rw [hst]; exact hl)
      exact ⟨p', x', y', by omega, q2, q3, q4, q5, q6, by rw [← mixW_same h1 h2 (by omega) hx hy]; exact q7, q8⟩
    · rw [if_neg hxy] at hst
      refine ⟨p, x, y, Nat.le_refl _, by omega, hx, hy, hxy, ?_, rfl, by rw [hst]; simp [hl]⟩
      obtain ⟨t, ht⟩ := difS_pre 5 ws was (show p + 1 ≤ 16 by omega)
      rw [← ht, hst, List.append_assoc, List.getElem?_append_right (by omega), hl, Nat.sub_self]
      rfl
theorem dif_end {ws was : List Nat} (h1 : ws.length = 16) (h2 : was.length = 16) : ∀ d p, 16 - p = d → p ≤ 16 → (difS 5 ws was p).length = (difS 5 ws was 16).length → mixW ws was p = ws
  | 0, p, hd, hp, hl => by
    obtain rfl : p = 16 := by omega
    exact mixW_all h1 h2
  | d + 1, p, hd, hp, hl => by
    obtain ⟨x, hx⟩ : ∃ x, ws[p]? = some x := ⟨_, List.getElem?_eq_getElem (by omega)⟩
    obtain ⟨y, hy⟩ : ∃ y, was[p]? = some y := ⟨_, List.getElem?_eq_getElem (by omega)⟩
    have hst := difS_succ (a := 5) hx hy
    by_cases hxy : x = y
    · subst hxy
      rw [if_pos rfl, List.append_nil] at hst
      rw [← mixW_same h1 h2 (by omega) hx hy]
      exact dif_end h1 h2 d (p + 1) (by omega) (by omega) (by rw [hst]; exact hl)
    · rw [if_neg hxy] at hst
      have := (difS_pre 5 ws was (show p + 1 ≤ 16 by omega)).length_le
      rw [hst] at this
      simp at this
      omega
theorem inoW_links {k l l' z : Int} {m : List Ex} {r p : Int} {t : Bs} (h : okI k l z m r p t) (hk : k ≠ 0) (hl' : 0 ≤ l' ∧ l' ≤ 65535) : okI k l' z m r p t ∧ inoW k l' z m r p t = (inoW k l z m r p t).set 0 (k.toNat + 256 * l'.toNat) ∧ (inoW k l z m r p t)[0]? = some (k.toNat + 256 * l.toNat) ∧ 1 ≤ k ∧ k ≤ 3 ∧ 0 ≤ l ∧ l ≤ 65535 := by
  obtain ⟨hl, ⟨rfl, rfl, rfl, rfl, rfl, rfl, rfl⟩ | ⟨rfl, rfl, rfl, rfl, hf⟩ | ⟨rfl, rfl, rfl, rfl, h1⟩ | ⟨rfl, rfl, rfl, rfl, rfl, h1⟩⟩ := h
  · exact absurd rfl hk
  · refine ⟨⟨hl', .inr (.inl ⟨rfl, rfl, rfl, rfl, hf⟩)⟩, ?_, ?_, by decide, by decide, hl⟩
    · rw [inoW_1 _ _ _ _ _ _ hf.2.1, inoW_1 _ _ _ _ _ _ hf.2.1]; rfl
    · rw [inoW_1 _ _ _ _ _ _ hf.2.1]; rfl
  · refine ⟨⟨hl', .inr (.inr (.inl ⟨rfl, rfl, rfl, rfl, h1⟩))⟩, ?_, ?_, by decide, by decide, hl⟩
    · rw [inoW_2, inoW_2]; rfl
    · rw [inoW_2]; rfl
  · refine ⟨⟨hl', .inr (.inr (.inr ⟨rfl, rfl, rfl, rfl, rfl, h1⟩))⟩, ?_, ?_, by decide, by decide, hl⟩
    · rw [inoW_3 _ _ _ _ _ _ h1.1.2, inoW_3 _ _ _ _ _ _ h1.1.2]; rfl
    · rw [inoW_3 _ _ _ _ _ _ h1.1.2]; rfl
theorem ino0 {k l z : Int} {m : List Ex} {r p : Int} {t : Bs} (h : okI k l z m r p t) (hk : k = 0) : (inoW k l z m r p t)[0]? = some 0 := by
  subst hk
  rw [inoW_0]
  rfl
def ofR2 (k l z : Int) (m : List Ex) (r p : Int) (t : Bs) (w0 : World) (e : Ending) (w : World) : Prop := ∃ v, e = .returned (.tuple #[inV k l z v r p t, .int .i64 0]) ∧ ReadsT eE 3 w v m ∧ (∀ b off n c, v = .slice (some ⟨b, off, none⟩) n c → w0.heap.size ≤ b) ∧ Below w0.heap.size w0 w
theorem of_run2 (a : Option Addr) (n c : Nat) (k l z : Int) (m : List Ex) (r p : Int) (t : Bs) (w : World) (hS0 : 0 < w.heap.size)
    (hwork : ∀ W gs go, Below w.heap.size w W → w.heap.size ≤ gs → w.heap.size ≤ go → go ≠ gs → RowL W gs 28 [.slice a n c] → RowL W go 25 (inL 0 0 0 (.slice none 0 0) 0 0 []) → Calls Tryd.prog 37 #[.pointer (some ⟨gs, 0, none⟩), .pointer (some ⟨go, 0, none⟩)] W (ofP go k l z m r p t W)) :
    Calls Tryd.prog 17 #[.slice a n c] w (ofR2 k l z m r p t w) := by
  unfold ofR2
  have q := Below.refl w.heap.size w
  refine X.fn Tryd.func17 rfl (n := 10) rfl rfl ?_
  refine Zr ?_
  refine LL.box [.slice a n c] rfl rfl rfl rfl rfl ?_
  intro W2 g3 eg3 r4 z5 b1
  replace q := Zu q b1; have l6 := r4.lt
  refine LL.alloc ([.int .i64 0, .int .i64 0, .int .i64 0, .slice none 0 0, .int .i64 0, .int .i64 0, .string { data := { toList := [] } }]) rfl rfl rfl rfl rfl ?_
  intro W8 g9 eg9 r10 z11 b7
  replace r4 := r4.up b7; replace b1 := Zu b1 b7; replace q := Zu q b7; refine Za ?_; refine Zq ?_; refine Zr ?_; have l12 := r10.lt; have l13 := r4.lt
  refine LL.alloc ([.int .i64 0, .int .i64 0, .int .i64 0, .slice none 0 0, .int .i64 0, .int .i64 0, .string { data := { toList := [] } }]) rfl rfl rfl rfl rfl ?_
  intro W15 g16 eg16 r17 z18 b14
  replace r10 := r10.up b14; replace b7 := Zu b7 b14; replace r4 := r4.up b14; replace b1 := Zu b1 b14; replace q := Zu q b14; refine Zq ?_; refine Zr ?_
  refine LL.val (R.func rfl rfl rfl) rfl rfl rfl ?_
  have lg4 := r4.lt; have lg17 := r17.lt
  refine Zy (R.call rfl rfl rfl) (guarded_R _ [Value.pointer (some ⟨g3, 0, none⟩), .pointer (some ⟨g16, 0, none⟩)] (by kernel_rfl) g16 (fun n X => ∃ v, RowL X g16 25 (inL k l z v r p t) ∧ ReadsT eE 3 X v m ∧ ∀ b off n' c', v = .slice (some ⟨b, off, none⟩) n' c' → n ≤ b) _ (by omega) (fun n X Y b ⟨v, h1, h2, h3⟩ hb1 hb2 hg => ⟨v, h1.gr hg (by omega), readsT_far h2 (grown_kept (K := fun i => i < X.heap.size ∧ i ≠ b) hg (fun k hk => hk.1) (fun k hk e => by cases e; exact hk.2 rfl)) (fun b2 off n2 c2 e hlt => ⟨hlt, by have := h3 b2 off n2 c2 e; omega⟩), h3⟩) (fun W' b' => hwork W' g3 g16 (q.trans (b'.mono q.size)) (by omega) (by omega) (by omega) (r4.up b') (r17.up b'))) ?_
  rintro e W9 ⟨rfl, ⟨n9, hn9, v9, r91, rd9, hge9⟩, t9⟩
  refine ⟨_, rfl, ?_⟩
  replace q := t9.onB q (fun j hj => ⟨by omega, by omega⟩)
  replace r10 := r10.kept t9 ⟨by omega, by omega⟩
  clear r4 r17 b1 b7 b14
  obtain ⟨x9, c9, rfl, _⟩ := rd9.form rfl
  have hk9 := Kept.refl (fun i => i < W9.heap.size ∧ i ≠ g9) W9
  have rd9F := fun X (b : Below W9.heap.size W9 X) => rd9.up b
  clear rd9
  have zt9 := t9.size; refine Za ?_; refine Zq ?_; refine Zr ?_; refine Zv r91 ?_; refine Zm ?_
  refine LL.storeN (vs := [.int .i64 k, .int .i64 l, .int .i64 z, .slice x9 m.length c9, .int .i64 r, .int .i64 p, strV t]) rfl rfl rfl rfl r10 (by exact Nat.le_of_ble_eq_true rfl) (ones_of rfl) rfl rfl ?_
  intro Wa2 ra3 ba1 za4
  have hlba1 := r10.lt
  replace ra3 : RowL Wa2 _ 25 [.int .i64 k, .int .i64 l, .int .i64 z, .slice x9 m.length c9, .int .i64 r, .int .i64 p, strV t] := ra3
  clear r10
  replace q := Zg q ba1; replace r91 := Zd r91 ba1; replace hk9 := Zo hk9 ba1
  have r10 := ra3
  clear ra3
  refine Za ?_; refine Zq ?_; refine ZR ?_
  refine EE.ret2 rfl ⟨_, rfl, lvNc (RowL.cells0 (by assumption)) (by rfl) (by rfl)⟩ rfl ?_
  exact ⟨_, rfl, readsT_far (rd9F _ (Below.refl _ _)) hk9 (fun b off n c e hlt => ⟨hlt, by have := hge9 b off n c e; omega⟩), fun b off n c e => by (have := hge9 b off n c e; omega), q⟩
theorem of_ok2 (bk off cap : Nat) (ws : List Nat) (k l z : Int) (m : List Ex) (r p : Int) (t : Bs) (w : World) (hS : Start w) (hcap : 16 ≤ cap) (hW : WdsAt w bk off ws) (h : okI k l z m r p t) (e : inoW k l z m r p t = ws) (hk : k ≠ 0) : Calls Tryd.prog 17 #[.slice (some ⟨bk, off, none⟩) 16 cap] w (ofR2 k l z m r p t w) := by
  have hws : ws.length = 16 := by rw [← e]; exact inoW_len h
  have hwb : ∀ x ∈ ws, x < 18446744073709551616 := by rw [← e]; exact inoW_lt h
  have hS0 := hS.pos
  have hlt := hW.lt
  have hh := h
  obtain ⟨hl, ⟨rfl, rfl, rfl, rfl, rfl, rfl, rfl⟩ | ⟨rfl, rfl, rfl, rfl, hf⟩ | ⟨rfl, rfl, rfl, rfl, h1⟩ | ⟨rfl, rfl, rfl, rfl, rfl, h1⟩⟩ := h
  · exact absurd rfl hk
  · obtain ⟨l, rfl⟩ : ∃ y : Nat, l = (y : Int) := ⟨l.toNat, by omega⟩
    have hz := hf.1
    obtain ⟨z, rfl⟩ : ∃ y : Nat, z = (y : Int) := ⟨z.toNat, by omega⟩
    have e1 := inoW_1 (l : Int) (z : Int) m 0 0 [] hf.2.1
    have e2 := wsZ_1 (l : Int) (z : Int) m 0 0 [] hf.2.1
    rw [e] at e1 e2
    have e3 : outZ (wsZ ws) = m := by rw [e2, outZ_wrdZ hf.2.1.2.1]
    have e4 : mapW (wsZ ws) := by rw [e2]; exact mapW_wrdZ hf.2.1
    refine of_run2 _ 16 cap _ _ _ _ _ _ _ w hS0 fun W gs go b hgs hgo hne hs ho => ?_
    have := of1_1T gs go bk off cap ws W (hS.up b) hws hwb hcap hs (hW.up b) ho ⟨hne, by omega, by omega⟩ (1 + 256 * l) (by rw [e1]; rfl) (by omega) l (by omega) (by omega) z (by rw [e1]; rfl) (by omega) e4 (by rw [e3]; exact hh) (by rw [e3]; exact e)
    rw [e3] at this
    exact this
  · obtain ⟨l, rfl⟩ : ∃ y : Nat, l = (y : Int) := ⟨l.toNat, by omega⟩
    obtain ⟨r, rfl⟩ : ∃ y : Nat, r = (y : Int) := ⟨r.toNat, by omega⟩
    obtain ⟨p, rfl⟩ : ∃ y : Nat, p = (y : Int) := ⟨p.toNat, by omega⟩
    have e1 := inoW_2 (l : Int) 0 [] (r : Int) (p : Int) []
    rw [e] at e1
    exact of_run2 _ 16 cap _ _ _ _ _ _ _ w hS0 fun W gs go b hgs hgo hne hs ho => of1_2T gs go bk off cap ws W (hS.up b) hws hwb hcap hs (hW.up b) ho ⟨hne, by omega, by omega⟩ (2 + 256 * l) (by rw [e1]; rfl) (by omega) l (by omega) (by omega) r p (by rw [e1]; rfl) (by rw [e1]; rfl) (by omega) hh e
  · obtain ⟨l, rfl⟩ : ∃ y : Nat, l = (y : Int) := ⟨l.toNat, by omega⟩
    have e1 := inoW_3 (l : Int) 0 [] 0 0 t h1.1.2
    have e2 := tg_3 (l : Int) 0 [] 0 0 t h1.1.2
    rw [e] at e1 e2
    refine of_run2 _ 16 cap _ _ _ _ _ _ _ w hS0 fun W gs go b hgs hgo hne hs ho => ?_
    have := of1_3T gs go bk off cap ws W (hS.up b) hws hwb hcap hs (hW.up b) ho ⟨hne, by omega, by omega⟩ (3 + 256 * l) (by rw [e1]; rfl) (by omega) l (by omega) (by omega) t.length (by rw [e1]; rfl) h1.1 e2.1 (by rw [e2.2]; exact hh) (by rw [e2.2]; exact e)
    rw [e2.2] at this
    exact this
def uE (x : Nat) : List Value := [.int .u64 (x : Int)]
theorem uEnc : Enc uE 1 := ⟨fun _ => rfl, fun t u hu => by
  simp only [uE, List.mem_cons, List.not_mem_nil, or_false] at hu
  subst hu
  rfl, by decide⟩
abbrev sixV (a : Nat → Nat) : Value := .agg #[.int .u64 (a 0 : Int), .int .u64 (a 1 : Int), .int .u64 (a 2 : Int), .int .u64 (a 3 : Int), .int .u64 (a 4 : Int), .int .u64 (a 5 : Int), .int .u64 (a 6 : Int), .int .u64 (a 7 : Int), .int .u64 (a 8 : Int), .int .u64 (a 9 : Int), .int .u64 (a 10 : Int), .int .u64 (a 11 : Int), .int .u64 (a 12 : Int), .int .u64 (a 13 : Int), .int .u64 (a 14 : Int), .int .u64 (a 15 : Int)]
def sixL (a : Nat → Nat) : List Nat := [a 0, a 1, a 2, a 3, a 4, a 5, a 6, a 7, a 8, a 9, a 10, a 11, a 12, a 13, a 14, a 15]
theorem row_wdsE {w : World} {g e : Nat} {ws : List Nat} (h : RowL w g e (ints .u64 ws)) : WdsAt w g 0 ws := ⟨fun j x hj => by rw [Nat.zero_add]; exact RowL.cell h (by simp [ints, hj]), h.lt⟩
theorem own_wds {w : World} {base e g N cap : Nat} {ws : List Nat} (h : OwnsT uE 1 w base e (.slice (some ⟨g, 0, none⟩) N cap) ws) (hl : g < w.heap.size) : WdsAt w g 0 ws := ⟨fun j x hj => by
  have := (h.reads uEnc).elemN uEnc hj
  have := this.1.at (j := 0) rfl
  simpa using this, hl⟩
theorem inholds_no (a : Nat → Nat) (k l z : Int) (x : Option Addr) (n c : Nat) (m : List Ex) (r p : Int) (t : Bs) (links : Int) (w : World) (hS : Start w) (hv : ReadsT eE 3 w (.slice x n c) m) (hml : m.length = n) (hn : n ≤ 9223372036854775807) (ht : t.length ≤ 9223372036854775807) (h : ¬((n ≤ 30 ∧ t.length ≤ 300) ∧ okI k l z m r p t)) : Calls Tryd.prog 8 #[sixV a, inV k l z (.slice x n c) r p t, .int .i64 links] w fun e w' => e = .returned (.bool true) ∧ Below w.heap.size w w' := by
  have q := Below.refl w.heap.size w
  have hSF : ∀ X, Below w.heap.size w X → Start X := fun X b => hS.up b
  have hvF : ∀ X, Below w.heap.size w X → ReadsT eE 3 X (.slice x n c) m := fun X b => hv.up b
  obtain ⟨f1, e1⟩ : ∃ f : Bool, f = decide (n ≤ 30 ∧ t.length ≤ 300) := ⟨_, rfl⟩
  have hfa := fun W => few_any k l z x n c r p t W hn ht f1 e1
  clear hS hv
  cases f1 with
  | false =>
    clear h
    refine X.fn Tryd.func8 rfl (n := 156) rfl rfl ?_
    refine Zr ?_
    refine LL.box [.int .u64 ↑(a 0), .int .u64 ↑(a 1), .int .u64 ↑(a 2), .int .u64 ↑(a 3), .int .u64 ↑(a 4), .int .u64 ↑(a 5), .int .u64 ↑(a 6), .int .u64 ↑(a 7), .int .u64 ↑(a 8), .int .u64 ↑(a 9), .int .u64 ↑(a 10), .int .u64 ↑(a 11), .int .u64 ↑(a 12), .int .u64 ↑(a 13), .int .u64 ↑(a 14), .int .u64 ↑(a 15)] rfl rfl rfl rfl rfl ?_
    intro W2 g3 eg3 r4 z5 b1
    replace q := Zu q b1; have l6 := r4.lt
    refine LL.box [.int .i64 k, .int .i64 l, .int .i64 z, .slice x n c, .int .i64 r, .int .i64 p, strV t] rfl rfl rfl rfl rfl ?_
    intro W8 g9 eg9 r10 z11 b7
    replace r4 := r4.up b7; replace b1 := Zu b1 b7; replace q := Zu q b7; refine Za ?_; refine Zq ?_; refine Zc ?_; refine Zr ?_; refine Zv r10 ?_
    refine Zy (R.call rfl rfl rfl) (hfa _) ?_
    rintro e W13 ⟨rfl, b12⟩
    refine ⟨_, rfl, ?_⟩; have zb12 := b12.size; replace r10 := r10.up b12; replace b7 := Zu b7 b12; replace r4 := r4.up b12; replace b1 := Zu b1 b12; replace q := Zu q b12; refine Zt ?_; refine Zq ?_; refine ZY ?_; refine Zr ?_
    refine Zy (R.call rfl rfl rfl) (works_any _ (hSF _ q)) ?_
    rintro e W16 ⟨rfl, b15⟩
    refine ⟨_, rfl, ?_⟩; have zb15 := b15.size; replace b12 := Zu b12 b15; replace r10 := r10.up b15; replace b7 := Zu b7 b15; replace r4 := r4.up b15; replace b1 := Zu b1 b15; replace q := Zu q b15; refine Za ?_; refine Zq ?_; refine ZR ?_; refine EE.thenR ?_; refine EE.ret _ rfl rfl ?_
    exact ⟨rfl, q⟩
  | true =>
    have hf := of_decide_eq_true e1.symm
    have hok : ¬okI k l z m r p t := fun ho => h ⟨hf, ho⟩
    have hck := fun W (b : Below w.heap.size w W) => check_no k l z x n c m r p t W (hvF W b) (by omega) (by omega) hok
    clear h
    have hst := fun x1 n1 c1 W (b : Below w.heap.size w W) => stI_F 5 x1 n1 c1 k l z x n c m r p t W (hvF W b) (by omega) (by omega) hok
    refine X.fn Tryd.func8 rfl (n := 156) rfl rfl ?_
    refine Zr ?_
    refine LL.box [.int .u64 ↑(a 0), .int .u64 ↑(a 1), .int .u64 ↑(a 2), .int .u64 ↑(a 3), .int .u64 ↑(a 4), .int .u64 ↑(a 5), .int .u64 ↑(a 6), .int .u64 ↑(a 7), .int .u64 ↑(a 8), .int .u64 ↑(a 9), .int .u64 ↑(a 10), .int .u64 ↑(a 11), .int .u64 ↑(a 12), .int .u64 ↑(a 13), .int .u64 ↑(a 14), .int .u64 ↑(a 15)] rfl rfl rfl rfl rfl ?_
    intro Wa2 ga3 ega3 ra4 za5 ba1
    replace q := Zu q ba1; have la6 := ra4.lt
    refine LL.box [.int .i64 k, .int .i64 l, .int .i64 z, .slice x n c, .int .i64 r, .int .i64 p, strV t] rfl rfl rfl rfl rfl ?_
    intro Wa8 ga9 ega9 ra10 za11 ba7
    replace ra4 := ra4.up ba7; replace ba1 := Zu ba1 ba7; replace q := Zu q ba7; refine Za ?_; refine Zq ?_; refine Zc ?_; refine Zr ?_; refine Zv ra10 ?_
    refine Zy (R.call rfl rfl rfl) (hfa _) ?_
    rintro e Wa13 ⟨rfl, ba12⟩
    refine ⟨_, rfl, ?_⟩; have zba12 := ba12.size; replace ra10 := ra10.up ba12; replace ba7 := Zu ba7 ba12; replace ra4 := ra4.up ba12; replace ba1 := Zu ba1 ba12; replace q := Zu q ba12; refine Zt ?_; refine Zq ?_; refine ZN ?_; refine ZK ?_; refine ZT ?_; refine Zc ?_
    refine CC.grow (by kernel_rfl) (by kernel_rfl) ?_
    refine GG.val (fun w' b' => R.slice rfl rfl rfl rfl rfl (I.slA rfl)) rfl rfl ?_
    refine Gv ra10 ?_
    refine Gc (fun w' b' => hst _ _ _ w' (q.trans (b'.mono q.size))) ?_
    refine Gm ?_
    refine GG.val (fun w' b' => R.extract rfl rfl rfl) rfl rfl ?_
    refine GG.val (fun w' b' => R.extract rfl rfl rfl) rfl rfl ?_
    refine GG.val (fun w' b' => R.assign rfl rfl) rfl rfl ?_
    refine GG.val (fun w' b' => R.assign rfl rfl) rfl rfl ?_
    refine GG.nilQ (fun Wa19 ba18 => ?_)
    have zba18 := ba18.size; replace ba12 := Zu ba12 ba18; replace ra10 := ra10.up ba18; replace ba7 := Zu ba7 ba18; replace ra4 := ra4.up ba18; replace ba1 := Zu ba1 ba18; replace q := Zu q ba18; refine ZT ?_; refine Zc ?_; refine Zr ?_; refine Zm ?_
    refine Zy (R.call rfl rfl rfl) (num_any _ _) ?_
    rintro e W' ⟨rfl, rfl⟩
    refine ⟨_, rfl, ?_⟩; refine ZneT ?_; refine Zq ?_; refine ZY ?_; refine Zr ?_; refine Zm ?_
    refine Zy (R.call rfl rfl rfl) (num_any _ _) ?_
    rintro e W' ⟨rfl, rfl⟩
    refine ⟨_, rfl, ?_⟩; refine ZeqT ?_; refine Zm ?_; refine Zv ra10 ?_
    refine Zy (R.call rfl rfl rfl) (hck _ q) ?_
    rintro e Wa21 ⟨rfl, ba20⟩
    refine ⟨_, rfl, ?_⟩; have zba20 := ba20.size; replace ba18 := Zu ba18 ba20; replace ba12 := Zu ba12 ba20; replace ra10 := ra10.up ba20; replace ba7 := Zu ba7 ba20; replace ra4 := ra4.up ba20; replace ba1 := Zu ba1 ba20; replace q := Zu q ba20
    refine Zy (R.call rfl rfl rfl) (num_any _ _) ?_
    rintro e W' ⟨rfl, rfl⟩
    refine ⟨_, rfl, ?_⟩; refine ZeqT ?_; refine Zp ?_; refine Zm ?_
    refine Zy (R.call rfl rfl rfl) (works_any _ (hSF _ q)) ?_
    rintro e Wa24 ⟨rfl, ba23⟩
    refine ⟨_, rfl, ?_⟩; have zba23 := ba23.size; replace ba20 := Zu ba20 ba23; replace ba18 := Zu ba18 ba23; replace ba12 := Zu ba12 ba23; replace ra10 := ra10.up ba23; replace ba7 := Zu ba7 ba23; replace ra4 := ra4.up ba23; replace ba1 := Zu ba1 ba23; replace q := Zu q ba23; refine Zp ?_; refine Za ?_; refine Zq ?_; refine ZR ?_; refine EE.thenR ?_; refine EE.ret _ rfl rfl ?_
    exact ⟨rfl, q⟩
theorem inholds_in (a : Nat → Nat) (k l z : Int) (x : Option Addr) (n c : Nat) (m : List Ex) (r p : Int) (t : Bs) (links : Int) (w : World) (hS : Start w) (hv : ReadsT eE 3 w (.slice x n c) m) (hml : m.length = n) (hf : n ≤ 30 ∧ t.length ≤ 300) (hI : okI k l z m r p t) (hlk : -9223372036854775808 ≤ links ∧ links ≤ 9223372036854775807) (hwb : ∀ x ∈ sixL a, x < 18446744073709551616) : Calls Tryd.prog 8 #[sixV a, inV k l z (.slice x n c) r p t, .int .i64 links] w fun e w' => e = .returned (.bool true) ∧ Below w.heap.size w w' := by
  have q := Below.refl w.heap.size w
  have hSF : ∀ X, Below w.heap.size w X → Start X := fun X b => hS.up b
  have hvF : ∀ X, Below w.heap.size w X → ReadsT eE 3 X (.slice x n c) m := fun X b => hv.up b
  have hfa := fun W => few_any k l z x n c r p t W (by omega) (by omega) true (decide_eq_true hf).symm
  have hlm : m.length ≤ 1048576 := by omega
  have hxl := inoW_len hI
  have hxb := inoW_lt hI
  obtain ⟨ws, ews⟩ : ∃ ws, inoW k l z m r p t = ws := ⟨_, rfl⟩
  have hsT := fun W bk off c1 (hS : Start W) (hv : ReadsT eE 3 W (.slice x n c) m) (hW : WdsAt W bk off (sixL a)) => stI_T 5 bk off c1 (sixL a) k l z x n c m r p t W hS hv hlm hI (by decide) hW rfl
  rw [ews] at hsT hxl hxb
  have hsl : (sixL a).length = 16 := rfl
  have hdl := difS_len 5 ws (sixL a) 16
  clear hS hv
  refine X.fn Tryd.func8 rfl (n := 156) rfl rfl ?_
  refine Zr ?_
  refine LL.box [.int .u64 ↑(a 0), .int .u64 ↑(a 1), .int .u64 ↑(a 2), .int .u64 ↑(a 3), .int .u64 ↑(a 4), .int .u64 ↑(a 5), .int .u64 ↑(a 6), .int .u64 ↑(a 7), .int .u64 ↑(a 8), .int .u64 ↑(a 9), .int .u64 ↑(a 10), .int .u64 ↑(a 11), .int .u64 ↑(a 12), .int .u64 ↑(a 13), .int .u64 ↑(a 14), .int .u64 ↑(a 15)] rfl rfl rfl rfl rfl ?_
  intro W16 g17 eg17 r18 z19 b15
  replace q := Zu q b15; have l36 := r18.lt
  refine LL.box [.int .i64 k, .int .i64 l, .int .i64 z, .slice x n c, .int .i64 r, .int .i64 p, strV t] rfl rfl rfl rfl rfl ?_
  intro W38 g39 eg39 r40 z41 b37
  replace r18 := r18.up b37; replace b15 := Zu b15 b37; replace q := Zu q b37; refine Za ?_; refine Zq ?_; refine Zc ?_; refine Zr ?_; refine Zv r40 ?_
  refine Zy (R.call rfl rfl rfl) (hfa _) ?_
  rintro e W97 ⟨rfl, b96⟩
  refine ⟨_, rfl, ?_⟩; have zb96 := b96.size; replace r40 := r40.up b96; replace b37 := Zu b37 b96; replace r18 := r18.up b96; replace b15 := Zu b15 b96; replace q := Zu q b96; refine Zt ?_; refine Zq ?_; refine ZN ?_; refine ZK ?_; refine ZT ?_; refine Zc ?_
  refine CC.freeZ (fun W_ j => j < W_.heap.size ∧ (True)) (by kernel_rfl) (by kernel_rfl) (fun W118 b117 z119 => ?_)
  replace b96 := Zu b96 b117; replace r40 := r40.up b117; replace b37 := Zu b37 b117; replace r18 := r18.up b117; replace b15 := Zu b15 b117; replace q := Zu q b117
  have hok : Kept (fun j => j < W118.heap.size ∧ (True)) W118 W118 := Kept.refl _ _
  have fzr40 := fzRow (K := fun j => j < W118.heap.size ∧ (True)) r40 ⟨r40.lt, (by first | trivial | omega)⟩
  have fzr18 := fzRow (K := fun j => j < W118.heap.size ∧ (True)) r18 ⟨r18.lt, (by first | trivial | omega)⟩
  refine AA.pure 0 rfl hok (by kernel_rfl) (fun w' b' => R.slice rfl rfl rfl rfl rfl (I.slA rfl)) rfl rfl ?_
  refine AA.pure 1 rfl hok (by kernel_rfl) (fun w' b' => R.load rfl rfl (I.ldNc (vs := [Value.int IntKind.i64 k, Value.int IntKind.i64 l, Value.int IntKind.i64 z, Value.slice x n c, Value.int IntKind.i64 r, Value.int IntKind.i64 p, strV t]) (RowL.cells (fzr40 w' b') rfl) (by rfl) (by rfl))) rfl rfl ?_
  refine AA.one 2 (by kernel_rfl) ?_
  have l124 := r40.lt; have l125 := r18.lt
  (refine SR.call rfl (R.call rfl rfl rfl) rfl rfl (hsT _ _ _ _ (hSF _ q) (hvF _ q) (row_wdsE (ws := sixL a) (by assumption))) ?_; rintro e W123 ⟨v9, rfl, o9, b120⟩; refine ⟨_, rfl, ?_⟩; obtain ⟨x9, c9, rfl, _⟩ := (o9.reads pEnc).form rfl; have o9F := fun X (b : Below W123.heap.size W123 X) => (o9.reads pEnc).up b; clear o9; have qS := Below.refl W123.heap.size W123; obtain ⟨B9, hB9⟩ : ∃ B, W123.heap.size = B := ⟨_, rfl⟩)
  have zb120 := b120.size; replace b117 := Zu b117 b120; replace b96 := Zu b96 b120; replace r40 := r40.up b120; replace b37 := Zu b37 b120; replace r18 := r18.up b120; replace b15 := Zu b15 b120; replace q := Zu q b120; replace hok := Zh hok b120; have y129 := hok.size
  refine ⟨hok, ?_⟩
  refine AA.pure 3 rfl hok (by kernel_rfl) (fun w' b' => R.move rfl rfl) rfl rfl ?_
  refine AA.pure 4 rfl hok (by kernel_rfl) (fun w' b' => R.extract rfl rfl rfl) rfl rfl ?_
  refine AA.pure 5 rfl hok (by kernel_rfl) (fun w' b' => R.extract rfl rfl rfl) rfl rfl ?_
  refine AA.pure 6 rfl hok (by kernel_rfl) (fun w' b' => R.assign rfl rfl) rfl rfl ?_
  refine AA.pure 7 rfl hok (by kernel_rfl) (fun w' b' => R.assign rfl rfl) rfl rfl ?_
  refine AA.done rfl ?_
  clear fzr40 fzr18 hok
  refine ZT ?_; refine Zc ?_; refine Zr ?_; refine Zm ?_
  refine Zy (R.call rfl rfl rfl) (num_any _ _) ?_
  rintro e W' ⟨rfl, rfl⟩
  refine ⟨_, rfl, ?_⟩; refine ZneF ?_; refine Zq ?_; refine ZN ?_; refine ZK ?_; refine ZT ?_; refine Zr ?_; have l202 := r40.lt; have l203 := r18.lt
  refine LL.lit (e := 41) [] 0 rfl rfl (fun _ => by kernel_rfl) rfl rfl ?_
  intro W205 g206 eg206 r207 z208 b204
  replace b120 := Zu b120 b204; replace qS := Zu qS b204; replace b117 := Zu b117 b204; replace b96 := Zu b96 b204; replace r40 := r40.up b204; replace b37 := Zu b37 b204; replace r18 := r18.up b204; replace b15 := Zu b15 b204; replace q := Zu q b204
  refine LL.val (R.slice rfl rfl rfl rfl rfl (I.slA rfl)) rfl rfl rfl ?_
  have l243 := r207.lt; have l244 := r40.lt; have l245 := r18.lt
  (refine LL.append0 (us := sixL a) rfl rfl uEnc ElU14 (RowL.own0 (cap := 0) (base := B9) (by assumption) rfl (by omega) (by simp [maxLen])) (RowL.readsT (ts := sixL a) uEnc (by assumption) 16 (by omega)) (by simp [maxLen]; omega) (by omega) (by omega) rfl rfl ?_; intro v2 W242 o2 b239; obtain ⟨g2, cap2, rfl, hg2, hg3, hcap⟩ := ownsT_form o2 (N := 16) hsl (by omega))
  have zb239 := b239.size; replace r207 := r207.up b239; replace b204 := Zu b204 b239; replace b120 := Zu b120 b239; replace qS := Zu qS b239; replace b117 := Zu b117 b239; replace b96 := Zu b96 b239; replace r40 := r40.up b239; replace b37 := Zu b37 b239; replace r18 := r18.up b239; replace b15 := Zu b15 b239; replace q := Zu q b239; refine Za ?_; refine Zq ?_; refine Zc ?_; refine Zr ?_; refine Za ?_
  refine Zq ?_; refine CC.block ?_
  have o2b : OwnsT uE 1 W242 B9 41 (.slice (some ⟨g2, 0, none⟩) 16 cap2) (mixW ws (sixL a) 0) := o2
  obtain ⟨N9, hN9⟩ : ∃ N, (difS 5 ws (sixL a) 16).length = N := ⟨_, rfl⟩
  rw [hN9] at o9F hdl ⊢
  have hwB : w.heap.size ≤ B9 := by omega
  have h39 : g39 < B9 := by omega
  refine CC.loop (α := Nat × Nat) (fun s => [(2, .int .i64 links), (4, .pointer (some ⟨g39, 0, none⟩)), (7, .slice x9 N9 c9), (9, .slice (some ⟨g2, 0, none⟩) 16 cap2), (10, .int .i64 (s.1 : Int))]) (fun s W => s.1 ≤ N9 ∧ s.2 ≤ 16 ∧ (difS 5 ws (sixL a) s.2).length = s.1 ∧ Below w.heap.size w W ∧ Below W123.heap.size W123 W ∧ B9 ≤ W.heap.size ∧ g2 < W.heap.size ∧ OwnsT uE 1 W B9 41 (.slice (some ⟨g2, 0, none⟩) 16 cap2) (mixW ws (sixL a) s.2) ∧ RowL W g39 25 (inL k l z (.slice x n c) r p t)) (fun s => N9 - s.1) (0, 0) ⟨rfl, rfl, rfl, rfl, rfl, trivial⟩ ⟨Nat.zero_le _, Nat.zero_le _, rfl, q, qS, by omega, by omega, o2b, r40⟩ ?_
  clear q qS o2 o2b r40 r207 r18 b15 b37 b96 b117 b120 b204 b239
  rintro ⟨i, j⟩ W ⟨hi, hj, hij, q, qS, yB, yg, o2, r40⟩
  simp only at hi hj hij o2
  show CC none Tryd.prog _ 156 [] (sl [(2, .int .i64 links), (4, .pointer (some ⟨g39, 0, none⟩)), (7, .slice x9 N9 c9), (9, .slice (some ⟨g2, 0, none⟩) 16 cap2), (10, .int .i64 (i : Int))]) _ W
  have yq := q.size
  by_cases hlt : i < N9
  case pos =>
    obtain ⟨j', u, y, hjj, hj', hu, hy, huy, hget, hmx, hnx⟩ := dif_next hxl hsl i (by omega) _ j rfl hj hij
    rw [hmx] at o2
    have hub := hxb u (List.mem_of_getElem? hu)
    have hyb := hwb y (List.mem_of_getElem? hy)
    obtain ⟨bp, op, rfl, lbp, cps⟩ := (o9F W qS).get pEnc hget
    have cps : Cells W ⟨bp, op + i * 2, none⟩ [.int .i64 ((5 + j' : Nat) : Int), .int .u64 (u : Int)] := cps
    have c1 := cps.at (j := 0) rfl
    have c2 := cps.at (j := 1) rfl
    have hmy : (mixW ws (sixL a) j')[j']? = some y := by rw [mixW_at hxl (by omega)]; exact hy
    have c3 : W.cell? ⟨g2, 0 + (5 + j' - 5), none⟩ = some (.int .u64 (y : Int)) := by rw [show 5 + j' - 5 = j' by omega]; exact (own_wds o2 yg).cells _ _ hmy
    have hset := mixW_set hxl hsl hj' hu
    have hne := own_ne o2 h39
    clear cps o9F
    refine Zc ?_; refine Zr ?_; refine Zm ?_; refine Zm ?_; refine Zn ?_; refine ZltT ?_; refine Zq ?_; refine ZY ?_; refine ZK ?_; refine ZT ?_; refine Zc ?_; refine CC.block ?_; refine Zc ?_; refine Zc ?_
    refine CC.quietB (by kernel_rfl) (by kernel_rfl) (fun Wa30 ba29 za31 => ?_)
    replace q := Zu q ba29; replace qS := Zu qS ba29; replace r40 := r40.up ba29; replace o2 := o2.up ba29; replace cps := cps.up ba29; replace c1 := cell_up c1 ba29; replace c2 := cell_up c2 ba29; replace c3 := cell_up c3 ba29
    refine SS.val (R.move rfl rfl) rfl rfl ?_
    refine SS.val (R.move rfl rfl) rfl rfl ?_
    refine SS.val (R.index rfl rfl rfl (I.ixS rfl (by omega))) rfl rfl ?_
    refine SS.val (R.field rfl rfl (I.fld rfl)) rfl rfl ?_
    refine SS.val (R.load rfl rfl (I.ld1 rfl (by assumption))) rfl rfl ?_
    refine SS.val (R.ltF rfl rfl rfl (by omega)) rfl rfl ?_
    refine SS.val (R.move rfl rfl) rfl rfl ?_
    refine SS.val (R.move rfl rfl) rfl rfl ?_
    refine SS.val (R.move rfl rfl) rfl rfl ?_
    refine SS.val (R.index rfl rfl rfl (I.ixS rfl (by omega))) rfl rfl ?_
    refine SS.val (R.field rfl rfl (I.fld rfl)) rfl rfl ?_
    refine SS.val (R.load rfl rfl (I.ld1 rfl (by assumption))) rfl rfl ?_
    refine SS.val (R.gtF rfl rfl rfl (by omega)) rfl rfl ?_
    refine SS.val (R.pick rfl rfl rfl) rfl rfl ?_
    refine SS.val (R.move rfl rfl) rfl rfl ?_
    refine SS.val (R.move rfl rfl) rfl rfl ?_
    refine SS.val (R.move rfl rfl) rfl rfl ?_
    refine SS.val (R.move rfl rfl) rfl rfl ?_
    refine SS.val (R.index rfl rfl rfl (I.ixS rfl (by omega))) rfl rfl ?_
    refine SS.val (R.field rfl rfl (I.fld rfl)) rfl rfl ?_
    refine SS.val (R.load rfl rfl (I.ld1 rfl (by assumption))) rfl rfl ?_
    refine SS.val (R.subNc rfl rfl rfl rfl (by omega) (by omega)) rfl rfl ?_
    refine SS.val (R.index rfl rfl rfl (I.ixS1 rfl (by omega))) rfl rfl ?_
    refine SS.val (R.load rfl rfl (I.ld1 rfl (by assumption))) rfl rfl ?_
    refine SS.val (R.move rfl rfl) rfl rfl ?_
    refine SS.val (R.move rfl rfl) rfl rfl ?_
    refine SS.val (R.index rfl rfl rfl (I.ixS rfl (by omega))) rfl rfl ?_
    refine SS.val (R.field rfl rfl (I.fld rfl)) rfl rfl ?_
    refine SS.val (R.load rfl rfl (I.ld1 rfl (by assumption))) rfl rfl ?_
    refine SS.val (R.eqF rfl rfl rfl (by omega)) rfl rfl ?_
    refine SS.val (R.pick rfl rfl rfl) rfl rfl ?_
    refine SS.nilQ ?_
    refine ZT ?_; refine ZN ?_; refine ZK ?_; refine ZT ?_
    refine CC.tailB 13 (by kernel_rfl) (by kernel_rfl) (fun Wa250 ba249 za251 => ?_)
    replace ba29 := Zu ba29 ba249; replace q := Zu q ba249; replace qS := Zu qS ba249; replace r40 := r40.up ba249; replace o2 := o2.up ba249; replace cps := cps.up ba249; replace c1 := cell_up c1 ba249; replace c2 := cell_up c2 ba249; replace c3 := cell_up c3 ba249
    refine SS.val (R.move rfl rfl) rfl rfl ?_
    refine SS.val (R.move rfl rfl) rfl rfl ?_
    refine SS.val (R.move rfl rfl) rfl rfl ?_
    refine SS.val (R.index rfl rfl rfl (I.ixS rfl (by omega))) rfl rfl ?_
    refine SS.val (R.field rfl rfl (I.fld rfl)) rfl rfl ?_
    refine SS.val (R.load rfl rfl (I.ld1 rfl (by assumption))) rfl rfl ?_
    refine SS.val (R.subNc rfl rfl rfl rfl (by omega) (by omega)) rfl rfl ?_
    refine SS.val (R.move rfl rfl) rfl rfl ?_
    refine SS.val (R.move rfl rfl) rfl rfl ?_
    refine SS.val (R.index rfl rfl rfl (I.ixS rfl (by omega))) rfl rfl ?_
    refine SS.val (R.field rfl rfl (I.fld rfl)) rfl rfl ?_
    refine SS.val (R.load rfl rfl (I.ld1 rfl (by assumption))) rfl rfl ?_
    refine SS.val (R.index rfl rfl rfl (I.ixS1 rfl (by omega))) rfl rfl ?_
    refine SS.nil ?_
    (refine LL.storeF (j') 0 y u rfl rfl rfl rfl (by omega) uEnc o2 hmy (by omega) rfl rfl rfl rfl rfl ?_; intro Wa346 o7 gra344 zz9; rw [hset] at o7; clear o2; have o2 := o7; clear o7)
    have zgra344 := gra344.size; replace q := Zg q gra344; replace qS := Zg qS gra344; replace r40 := Zd r40 gra344; refine ZL ?_; refine EE.inN ?_; refine ZT ?_; refine CC.region ?_; refine Zm ?_
    refine LL.val (R.addNc rfl rfl rfl rfl (by omega)) rfl rfl rfl ?_
    refine Za ?_; refine ZL ?_
    exact EE.round (i + 1, j' + 1) ⟨rfl, rfl, rfl, rfl, rfl, trivial⟩ ⟨by show i + 1 ≤ N9; omega, by show j' + 1 ≤ 16; omega, hnx, q, qS, by show B9 ≤ _; omega, by show g2 < _; omega, o2, r40⟩ (by show N9 - (i + 1) < N9 - i; omega)
  case neg =>
    obtain rfl : i = N9 := by omega
    have hall : mixW ws (sixL a) j = ws := dif_end hxl hsl _ j rfl hj (by omega)
    rw [hall] at o2
    have hsm : true = true ↔ sameI k l z m r p t k l z m r p t := by simp [sameI]
    obtain ⟨x0, h0⟩ : ∃ x, ws[0]? = some x := ⟨_, List.getElem?_eq_getElem (by omega)⟩
    have hx0 := hxb x0 (List.mem_of_getElem? h0)
    have c0 : W.cell? ⟨g2, 0 + 0, none⟩ = some (.int .u64 (x0 : Int)) := (own_wds o2 yg).cells _ _ h0
    have hne := own_ne o2 h39
    clear o9F hall hij hN9
    by_cases hA : k = 0 ∨ links < 0 ∨ 65535 < links
    · have hlF : 4294967296 ≤ x0 ∨ x0 % 256 < 1 ∨ 3 < x0 % 256 ∨ links < 0 ∨ 65535 < links := by
        rcases hA with h | h | h
        · have := ino0 hI h
          rw [ews, h0] at this
          have := Option.some.inj this
          omega
        · omega
        · omega
      by_cases hA1 : k = 0
      · clear hA
        refine Zc ?_; refine Zr ?_; refine Zm ?_; refine Zm ?_; refine Zn ?_; refine ZltF ?_; refine Zq ?_; refine ZN ?_; refine CC.exit ?_; refine EE.thenX ?_; refine EE.thenX ?_; refine EE.inX ?_; refine ZT ?_; refine Zr ?_; refine Zm ?_; have lb125 := r40.lt
        (refine Zy (R.call rfl rfl rfl) (of_ok g2 0 cap2 ws k l z m r p t _ (hSF _ q) hcap (own_wds o2 (by omega)) hI ews) ?_; rintro e Wb124 ⟨v4, rfl, rd4, bb121⟩; refine ⟨_, rfl, ?_⟩; obtain ⟨x4, c4, rfl, _⟩ := rd4.form rfl; have rd4F := fun X (b : Below Wb124.heap.size Wb124 X) => rd4.up b; clear rd4)
        have zbb121 := bb121.size; replace q := Zu q bb121; replace qS := Zu qS bb121; replace o2 := o2.up bb121; replace r40 := r40.up bb121; replace c0 := cell_up c0 bb121; refine Zm ?_; refine Zx ?_; refine Zx ?_; have lb225 := r40.lt
        refine LL.alloc ([.int .i64 0, .int .i64 0, .int .i64 0, .slice none 0 0, .int .i64 0, .int .i64 0, .string { data := { toList := [] } }]) rfl rfl rfl rfl rfl ?_
        intro Wb227 gb228 egb228 rb229 zb230 bb226
        replace bb121 := Zu bb121 bb226; replace q := Zu q bb226; replace qS := Zu qS bb226; replace o2 := o2.up bb226; replace r40 := r40.up bb226; replace c0 := cell_up c0 bb226
        refine LL.storeN (vs := [.int .i64 k, .int .i64 l, .int .i64 z, .slice x4 m.length c4, .int .i64 r, .int .i64 p, strV t]) rfl rfl rfl rfl rb229 (by exact Nat.le_of_ble_eq_true rfl) (ones_of rfl) rfl rfl ?_
        intro Wb259 rb260 bb258 zb261
        have hlbb258 := rb229.lt
        replace rb260 : RowL Wb259 _ 25 [.int .i64 k, .int .i64 l, .int .i64 z, .slice x4 m.length c4, .int .i64 r, .int .i64 p, strV t] := rb260
        clear rb229
        replace bb226 := Zg bb226 bb258; replace bb121 := Zg bb121 bb258; replace q := Zg q bb258; replace qS := Zg qS bb258
        replace o2 := o2.grown bb258 (fun e => by simp [Value.ownBlock] at e; omega)
        replace r40 := Zd r40 bb258; replace c0 := Ze c0 bb258
        have rb229 := rb260
        clear rb260
        refine Za ?_; refine Zq ?_; refine Zc ?_; refine Zr ?_; refine Zm ?_
        refine Zy (R.call rfl rfl rfl) (num_any _ _) ?_
        rintro e W' ⟨rfl, rfl⟩
        refine ⟨_, rfl, ?_⟩; refine ZneF ?_; refine Zm ?_; refine Zv rb229 ?_; refine Zv r40 ?_; have lb464 := r40.lt; have lb465 := rb229.lt
        (refine Zy (R.call rfl rfl rfl) (insame_any k l z _ m r p t k l z _ m r p t _ (rd4F _ (by assumption)) (hvF _ q) hlm hlm true hsm) ?_; rintro e Wb463 ⟨rfl, bb460⟩; refine ⟨_, rfl, ?_⟩)
        have zbb460 := bb460.size; replace bb226 := Zu bb226 bb460; replace bb121 := Zu bb121 bb460; replace q := Zu q bb460; replace qS := Zu qS bb460; replace o2 := o2.up bb460; replace r40 := r40.up bb460; replace c0 := cell_up c0 bb460; replace rb229 := rb229.up bb460; refine Zt ?_; refine Zp ?_; refine Zq ?_; refine ZN ?_; refine ZK ?_; refine ZT ?_; refine Zr ?_; refine Zm ?_; refine Zi ?_; refine Zk ?_
        refine Zm ?_; have lb653 := r40.lt; have lb654 := rb229.lt
        (refine Zy (R.call rfl rfl rfl) (linked_F x0 links _ hx0 hlF) ?_; rintro e Wb652 ⟨rfl, bb649⟩; refine ⟨_, rfl, ?_⟩)
        have zbb649 := bb649.size; replace bb460 := Zu bb460 bb649; replace bb226 := Zu bb226 bb649; replace bb121 := Zu bb121 bb649; replace q := Zu q bb649; replace qS := Zu qS bb649; replace o2 := o2.up bb649; replace r40 := r40.up bb649; replace c0 := cell_up c0 bb649; replace rb229 := rb229.up bb649; refine Zm ?_; refine Zx ?_; refine Zx ?_; refine Za ?_; refine Za ?_; refine Zq ?_; refine Zr ?_
        refine Zm ?_; refine Zf ?_
        refine LL.store rfl rfl rfl rfl r40 (by exact Nat.le_of_ble_eq_true rfl) rfl rfl rfl rfl ?_
        intro Wb875 rb876 bb874 zb877
        have hlbb874 := r40.lt
        replace rb876 : RowL Wb875 _ 25 [.int .i64 k, .int .i64 links, .int .i64 z, .slice x n c, .int .i64 r, .int .i64 p, strV t] := rb876
        clear r40
        replace q := Zg q bb874
        replace o2 := o2.grown bb874 (own_ne o2 (by omega))
        replace c0 := Ze c0 bb874; replace rb229 := Zd rb229 bb874
        have r40 := rb876
        clear rb876
        refine Zq ?_; refine Zc ?_; refine Zr ?_; refine Zf ?_; refine Zl r40 ?_; refine ZeqT ?_; refine Zm ?_; refine Zs ?_; refine Zs ?_; refine Zp ?_; refine Zm ?_; refine Zs ?_; refine Zs ?_; refine Zp ?_; refine Zq ?_; refine ZY ?_; refine Zr ?_; refine Zm ?_
        refine Zy (R.call rfl rfl rfl) (num_any _ _) ?_
        rintro e W' ⟨rfl, rfl⟩
        refine ⟨_, rfl, ?_⟩; refine ZeqT ?_; refine Zm ?_
        refine Zy (R.call rfl rfl rfl) (works_any _ (hSF _ q)) ?_
        rintro e Wb1203 ⟨rfl, bb1202⟩
        refine ⟨_, rfl, ?_⟩; have zbb1202 := bb1202.size; replace q := Zu q bb1202; replace o2 := o2.up bb1202; replace c0 := cell_up c0 bb1202; replace rb229 := rb229.up bb1202; replace r40 := r40.up bb1202; refine Zp ?_; refine Za ?_; refine Zq ?_; refine ZR ?_; refine EE.thenR ?_; refine EE.ret _ rfl rfl ?_
        exact ⟨rfl, q⟩
      by_cases hA2 : links < 0
      · clear hA
        refine Zc ?_; refine Zr ?_; refine Zm ?_; refine Zm ?_; refine Zn ?_; refine ZltF ?_; refine Zq ?_; refine ZN ?_; refine CC.exit ?_; refine EE.thenX ?_; refine EE.thenX ?_; refine EE.inX ?_; refine ZT ?_; refine Zr ?_; refine Zm ?_; have lc125 := r40.lt
        (refine Zy (R.call rfl rfl rfl) (of_ok g2 0 cap2 ws k l z m r p t _ (hSF _ q) hcap (own_wds o2 (by omega)) hI ews) ?_; rintro e Wc124 ⟨v4, rfl, rd4, bc121⟩; refine ⟨_, rfl, ?_⟩; obtain ⟨x4, c4, rfl, _⟩ := rd4.form rfl; have rd4F := fun X (b : Below Wc124.heap.size Wc124 X) => rd4.up b; clear rd4)
        have zbc121 := bc121.size; replace q := Zu q bc121; replace qS := Zu qS bc121; replace o2 := o2.up bc121; replace r40 := r40.up bc121; replace c0 := cell_up c0 bc121; refine Zm ?_; refine Zx ?_; refine Zx ?_; have lc225 := r40.lt
        refine LL.alloc ([.int .i64 0, .int .i64 0, .int .i64 0, .slice none 0 0, .int .i64 0, .int .i64 0, .string { data := { toList := [] } }]) rfl rfl rfl rfl rfl ?_
        intro Wc227 gc228 egc228 rc229 zc230 bc226
        replace bc121 := Zu bc121 bc226; replace q := Zu q bc226; replace qS := Zu qS bc226; replace o2 := o2.up bc226; replace r40 := r40.up bc226; replace c0 := cell_up c0 bc226
        refine LL.storeN (vs := [.int .i64 k, .int .i64 l, .int .i64 z, .slice x4 m.length c4, .int .i64 r, .int .i64 p, strV t]) rfl rfl rfl rfl rc229 (by exact Nat.le_of_ble_eq_true rfl) (ones_of rfl) rfl rfl ?_
        intro Wc259 rc260 bc258 zc261
        have hlbc258 := rc229.lt
        replace rc260 : RowL Wc259 _ 25 [.int .i64 k, .int .i64 l, .int .i64 z, .slice x4 m.length c4, .int .i64 r, .int .i64 p, strV t] := rc260
        clear rc229
        replace bc226 := Zg bc226 bc258; replace bc121 := Zg bc121 bc258; replace q := Zg q bc258; replace qS := Zg qS bc258
        replace o2 := o2.grown bc258 (fun e => by simp [Value.ownBlock] at e; omega)
        replace r40 := Zd r40 bc258; replace c0 := Ze c0 bc258
        have rc229 := rc260
        clear rc260
        refine Za ?_; refine Zq ?_; refine Zc ?_; refine Zr ?_; refine Zm ?_
        refine Zy (R.call rfl rfl rfl) (num_any _ _) ?_
        rintro e W' ⟨rfl, rfl⟩
        refine ⟨_, rfl, ?_⟩; refine ZneF ?_; refine Zm ?_; refine Zv rc229 ?_; refine Zv r40 ?_; have lc464 := r40.lt; have lc465 := rc229.lt
        (refine Zy (R.call rfl rfl rfl) (insame_any k l z _ m r p t k l z _ m r p t _ (rd4F _ (by assumption)) (hvF _ q) hlm hlm true hsm) ?_; rintro e Wc463 ⟨rfl, bc460⟩; refine ⟨_, rfl, ?_⟩)
        have zbc460 := bc460.size; replace bc226 := Zu bc226 bc460; replace bc121 := Zu bc121 bc460; replace q := Zu q bc460; replace qS := Zu qS bc460; replace o2 := o2.up bc460; replace r40 := r40.up bc460; replace c0 := cell_up c0 bc460; replace rc229 := rc229.up bc460; refine Zt ?_; refine Zp ?_; refine Zq ?_; refine ZN ?_; refine ZK ?_; refine ZT ?_; refine Zr ?_; refine Zm ?_; refine Zi ?_; refine Zk ?_
        refine Zm ?_; have lc653 := r40.lt; have lc654 := rc229.lt
        (refine Zy (R.call rfl rfl rfl) (linked_F x0 links _ hx0 hlF) ?_; rintro e Wc652 ⟨rfl, bc649⟩; refine ⟨_, rfl, ?_⟩)
        have zbc649 := bc649.size; replace bc460 := Zu bc460 bc649; replace bc226 := Zu bc226 bc649; replace bc121 := Zu bc121 bc649; replace q := Zu q bc649; replace qS := Zu qS bc649; replace o2 := o2.up bc649; replace r40 := r40.up bc649; replace c0 := cell_up c0 bc649; replace rc229 := rc229.up bc649; refine Zm ?_; refine Zx ?_; refine Zx ?_; refine Za ?_; refine Za ?_; refine Zq ?_; refine Zr ?_
        refine Zm ?_; refine Zf ?_
        refine LL.store rfl rfl rfl rfl r40 (by exact Nat.le_of_ble_eq_true rfl) rfl rfl rfl rfl ?_
        intro Wc875 rc876 bc874 zc877
        have hlbc874 := r40.lt
        replace rc876 : RowL Wc875 _ 25 [.int .i64 k, .int .i64 links, .int .i64 z, .slice x n c, .int .i64 r, .int .i64 p, strV t] := rc876
        clear r40
        replace q := Zg q bc874
        replace o2 := o2.grown bc874 (own_ne o2 (by omega))
        replace c0 := Ze c0 bc874; replace rc229 := Zd rc229 bc874
        have r40 := rc876
        clear rc876
        refine Zq ?_; refine Zc ?_; refine Zr ?_; refine Zf ?_; refine Zl r40 ?_; refine ZeqF ?_; refine Zm ?_; refine Zm ?_; refine ZltT ?_; refine Zp ?_; refine Zm ?_; refine Zs ?_; refine Zs ?_; refine Zp ?_; refine Zq ?_; refine ZY ?_; refine Zr ?_; refine Zm ?_
        refine Zy (R.call rfl rfl rfl) (num_any _ _) ?_
        rintro e W' ⟨rfl, rfl⟩
        refine ⟨_, rfl, ?_⟩; refine ZeqT ?_; refine Zm ?_
        refine Zy (R.call rfl rfl rfl) (works_any _ (hSF _ q)) ?_
        rintro e Wc1257 ⟨rfl, bc1256⟩
        refine ⟨_, rfl, ?_⟩; have zbc1256 := bc1256.size; replace q := Zu q bc1256; replace o2 := o2.up bc1256; replace c0 := cell_up c0 bc1256; replace rc229 := rc229.up bc1256; replace r40 := r40.up bc1256; refine Zp ?_; refine Za ?_; refine Zq ?_; refine ZR ?_; refine EE.thenR ?_; refine EE.ret _ rfl rfl ?_
        exact ⟨rfl, q⟩
      · have hA3 : 65535 < links := by omega
        clear hA
        refine Zc ?_; refine Zr ?_; refine Zm ?_; refine Zm ?_; refine Zn ?_; refine ZltF ?_; refine Zq ?_; refine ZN ?_; refine CC.exit ?_; refine EE.thenX ?_; refine EE.thenX ?_; refine EE.inX ?_; refine ZT ?_; refine Zr ?_; refine Zm ?_; have ld125 := r40.lt
        (refine Zy (R.call rfl rfl rfl) (of_ok g2 0 cap2 ws k l z m r p t _ (hSF _ q) hcap (own_wds o2 (by omega)) hI ews) ?_; rintro e Wd124 ⟨v4, rfl, rd4, bd121⟩; refine ⟨_, rfl, ?_⟩; obtain ⟨x4, c4, rfl, _⟩ := rd4.form rfl; have rd4F := fun X (b : Below Wd124.heap.size Wd124 X) => rd4.up b; clear rd4)
        have zbd121 := bd121.size; replace q := Zu q bd121; replace qS := Zu qS bd121; replace o2 := o2.up bd121; replace r40 := r40.up bd121; replace c0 := cell_up c0 bd121; refine Zm ?_; refine Zx ?_; refine Zx ?_; have ld225 := r40.lt
        refine LL.alloc ([.int .i64 0, .int .i64 0, .int .i64 0, .slice none 0 0, .int .i64 0, .int .i64 0, .string { data := { toList := [] } }]) rfl rfl rfl rfl rfl ?_
        intro Wd227 gd228 egd228 rd229 zd230 bd226
        replace bd121 := Zu bd121 bd226; replace q := Zu q bd226; replace qS := Zu qS bd226; replace o2 := o2.up bd226; replace r40 := r40.up bd226; replace c0 := cell_up c0 bd226
        refine LL.storeN (vs := [.int .i64 k, .int .i64 l, .int .i64 z, .slice x4 m.length c4, .int .i64 r, .int .i64 p, strV t]) rfl rfl rfl rfl rd229 (by exact Nat.le_of_ble_eq_true rfl) (ones_of rfl) rfl rfl ?_
        intro Wd259 rd260 bd258 zd261
        have hlbd258 := rd229.lt
        replace rd260 : RowL Wd259 _ 25 [.int .i64 k, .int .i64 l, .int .i64 z, .slice x4 m.length c4, .int .i64 r, .int .i64 p, strV t] := rd260
        clear rd229
        replace bd226 := Zg bd226 bd258; replace bd121 := Zg bd121 bd258; replace q := Zg q bd258; replace qS := Zg qS bd258
        replace o2 := o2.grown bd258 (fun e => by simp [Value.ownBlock] at e; omega)
        replace r40 := Zd r40 bd258; replace c0 := Ze c0 bd258
        have rd229 := rd260
        clear rd260
        refine Za ?_; refine Zq ?_; refine Zc ?_; refine Zr ?_; refine Zm ?_
        refine Zy (R.call rfl rfl rfl) (num_any _ _) ?_
        rintro e W' ⟨rfl, rfl⟩
        refine ⟨_, rfl, ?_⟩; refine ZneF ?_; refine Zm ?_; refine Zv rd229 ?_; refine Zv r40 ?_; have ld464 := r40.lt; have ld465 := rd229.lt
        (refine Zy (R.call rfl rfl rfl) (insame_any k l z _ m r p t k l z _ m r p t _ (rd4F _ (by assumption)) (hvF _ q) hlm hlm true hsm) ?_; rintro e Wd463 ⟨rfl, bd460⟩; refine ⟨_, rfl, ?_⟩)
        have zbd460 := bd460.size; replace bd226 := Zu bd226 bd460; replace bd121 := Zu bd121 bd460; replace q := Zu q bd460; replace qS := Zu qS bd460; replace o2 := o2.up bd460; replace r40 := r40.up bd460; replace c0 := cell_up c0 bd460; replace rd229 := rd229.up bd460; refine Zt ?_; refine Zp ?_; refine Zq ?_; refine ZN ?_; refine ZK ?_; refine ZT ?_; refine Zr ?_; refine Zm ?_; refine Zi ?_; refine Zk ?_
        refine Zm ?_; have ld653 := r40.lt; have ld654 := rd229.lt
        (refine Zy (R.call rfl rfl rfl) (linked_F x0 links _ hx0 hlF) ?_; rintro e Wd652 ⟨rfl, bd649⟩; refine ⟨_, rfl, ?_⟩)
        have zbd649 := bd649.size; replace bd460 := Zu bd460 bd649; replace bd226 := Zu bd226 bd649; replace bd121 := Zu bd121 bd649; replace q := Zu q bd649; replace qS := Zu qS bd649; replace o2 := o2.up bd649; replace r40 := r40.up bd649; replace c0 := cell_up c0 bd649; replace rd229 := rd229.up bd649; refine Zm ?_; refine Zx ?_; refine Zx ?_; refine Za ?_; refine Za ?_; refine Zq ?_; refine Zr ?_
        refine Zm ?_; refine Zf ?_
        refine LL.store rfl rfl rfl rfl r40 (by exact Nat.le_of_ble_eq_true rfl) rfl rfl rfl rfl ?_
        intro Wd875 rd876 bd874 zd877
        have hlbd874 := r40.lt
        replace rd876 : RowL Wd875 _ 25 [.int .i64 k, .int .i64 links, .int .i64 z, .slice x n c, .int .i64 r, .int .i64 p, strV t] := rd876
        clear r40
        replace q := Zg q bd874
        replace o2 := o2.grown bd874 (own_ne o2 (by omega))
        replace c0 := Ze c0 bd874; replace rd229 := Zd rd229 bd874
        have r40 := rd876
        clear rd876
        refine Zq ?_; refine Zc ?_; refine Zr ?_; refine Zf ?_; refine Zl r40 ?_; refine ZeqF ?_; refine Zm ?_; refine Zm ?_; refine ZltF ?_; refine Zp ?_; refine Zm ?_; refine Zm ?_; refine ZgtT ?_; refine Zp ?_; refine Zq ?_; refine ZY ?_; refine Zr ?_; refine Zm ?_
        refine Zy (R.call rfl rfl rfl) (num_any _ _) ?_
        rintro e W' ⟨rfl, rfl⟩
        refine ⟨_, rfl, ?_⟩; refine ZeqT ?_; refine Zm ?_
        refine Zy (R.call rfl rfl rfl) (works_any _ (hSF _ q)) ?_
        rintro e Wd1311 ⟨rfl, bd1310⟩
        refine ⟨_, rfl, ?_⟩; have zbd1310 := bd1310.size; replace q := Zu q bd1310; replace o2 := o2.up bd1310; replace c0 := cell_up c0 bd1310; replace rd229 := rd229.up bd1310; replace r40 := r40.up bd1310; refine Zp ?_; refine Za ?_; refine Zq ?_; refine ZR ?_; refine EE.thenR ?_; refine EE.ret _ rfl rfl ?_
        exact ⟨rfl, q⟩
    · obtain ⟨lk, rfl⟩ : ∃ y : Nat, links = (y : Int) := ⟨links.toNat, by omega⟩
      obtain ⟨hI2, e2, e3, hk1, hk3, hl0⟩ := inoW_links hI (by omega) (l' := (lk : Int)) (by omega)
      rw [ews] at e2 e3
      have hx00 : x0 = k.toNat + 256 * l.toNat := by rw [h0] at e3; exact Option.some.inj e3
      have hx9 : k.toNat + 256 * (lk : Int).toNat = x0 % 256 + 256 * lk := by omega
      rw [hx9] at e2
      have ews2 := e2
      have hsm2 : true = true ↔ sameI k (lk : Int) z m r p t k (lk : Int) z m r p t := by simp [sameI]
      have hA1 : k ≠ 0 := fun h => hA (.inl h)
      have hA2 : lk ≤ 65535 := by omega
      clear hA
      refine Zc ?_; refine Zr ?_; refine Zm ?_; refine Zm ?_; refine Zn ?_; refine ZltF ?_; refine Zq ?_; refine ZN ?_; refine CC.exit ?_; refine EE.thenX ?_; refine EE.thenX ?_; refine EE.inX ?_; refine ZT ?_; refine Zr ?_; refine Zm ?_; have le240 := r40.lt
      (refine Zy (R.call rfl rfl rfl) (of_ok g2 0 cap2 ws k l z m r p t _ (hSF _ q) hcap (own_wds o2 (by omega)) hI ews) ?_; rintro e We239 ⟨v4, rfl, rd4, be236⟩; refine ⟨_, rfl, ?_⟩; obtain ⟨x4, c4, rfl, _⟩ := rd4.form rfl; have rd4F := fun X (b : Below We239.heap.size We239 X) => rd4.up b; clear rd4)
      have zbe236 := be236.size; replace q := Zu q be236; replace qS := Zu qS be236; replace o2 := o2.up be236; replace r40 := r40.up be236; replace c0 := cell_up c0 be236; refine Zm ?_; refine Zx ?_; refine Zx ?_; have le432 := r40.lt
      refine LL.alloc ([.int .i64 0, .int .i64 0, .int .i64 0, .slice none 0 0, .int .i64 0, .int .i64 0, .string { data := { toList := [] } }]) rfl rfl rfl rfl rfl ?_
      intro We434 ge435 ege435 re436 ze437 be433
      replace be236 := Zu be236 be433; replace q := Zu q be433; replace qS := Zu qS be433; replace o2 := o2.up be433; replace r40 := r40.up be433; replace c0 := cell_up c0 be433
      refine LL.storeN (vs := [.int .i64 k, .int .i64 l, .int .i64 z, .slice x4 m.length c4, .int .i64 r, .int .i64 p, strV t]) rfl rfl rfl rfl re436 (by exact Nat.le_of_ble_eq_true rfl) (ones_of rfl) rfl rfl ?_
      intro We491 re492 be490 ze493
      have hlbe490 := re436.lt
      replace re492 : RowL We491 _ 25 [.int .i64 k, .int .i64 l, .int .i64 z, .slice x4 m.length c4, .int .i64 r, .int .i64 p, strV t] := re492
      clear re436
      replace be433 := Zg be433 be490; replace be236 := Zg be236 be490; replace q := Zg q be490; replace qS := Zg qS be490
      replace o2 := o2.grown be490 (fun e => by simp [Value.ownBlock] at e; omega)
      replace r40 := Zd r40 be490; replace c0 := Ze c0 be490
      have re436 := re492
      clear re492
      refine Za ?_; refine Zq ?_; refine Zc ?_; refine Zr ?_; refine Zm ?_
      refine Zy (R.call rfl rfl rfl) (num_any _ _) ?_
      rintro e W' ⟨rfl, rfl⟩
      refine ⟨_, rfl, ?_⟩; refine ZneF ?_; refine Zm ?_; refine Zv re436 ?_; refine Zv r40 ?_; have le871 := r40.lt; have le872 := re436.lt
      (refine Zy (R.call rfl rfl rfl) (insame_any k l z _ m r p t k l z _ m r p t _ (rd4F _ (by assumption)) (hvF _ q) hlm hlm true hsm) ?_; rintro e We870 ⟨rfl, be867⟩; refine ⟨_, rfl, ?_⟩)
      have zbe867 := be867.size; replace be433 := Zu be433 be867; replace be236 := Zu be236 be867; replace q := Zu q be867; replace qS := Zu qS be867; replace o2 := o2.up be867; replace r40 := r40.up be867; replace c0 := cell_up c0 be867; replace re436 := re436.up be867; refine Zt ?_; refine Zp ?_; refine Zq ?_; refine ZN ?_; refine ZK ?_; refine ZT ?_; refine Zr ?_; refine Zm ?_; refine Zi ?_; refine Zk ?_
      refine Zm ?_; have le1210 := r40.lt; have le1211 := re436.lt
      (refine Zy (R.call rfl rfl rfl) (linked_T x0 lk _ (by omega) (by omega) (by omega)) ?_; rintro e We1209 ⟨rfl, be1206⟩; refine ⟨_, rfl, ?_⟩)
      have zbe1206 := be1206.size; replace be867 := Zu be867 be1206; replace be433 := Zu be433 be1206; replace be236 := Zu be236 be1206; replace q := Zu q be1206; replace qS := Zu qS be1206; replace o2 := o2.up be1206; replace r40 := r40.up be1206; replace c0 := cell_up c0 be1206; replace re436 := re436.up be1206; refine Zm ?_; refine Zx ?_; refine Zx ?_; refine Za ?_; refine Za ?_; refine Zq ?_; refine Zr ?_
      refine Zm ?_; refine Zf ?_
      refine LL.store rfl rfl rfl rfl r40 (by exact Nat.le_of_ble_eq_true rfl) rfl rfl rfl rfl ?_
      intro We1632 re1633 be1631 ze1634
      have hlbe1631 := r40.lt
      replace re1633 : RowL We1632 _ 25 [.int .i64 k, .int .i64 ↑lk, .int .i64 z, .slice x n c, .int .i64 r, .int .i64 p, strV t] := re1633
      clear r40
      replace q := Zg q be1631
      replace o2 := o2.grown be1631 (own_ne o2 (by omega))
      replace c0 := Ze c0 be1631; replace re436 := Zd re436 be1631
      have r40 := re1633
      clear re1633
      refine Zq ?_; refine Zc ?_; refine Zr ?_; refine Zf ?_; refine Zl r40 ?_; refine ZeqF ?_; refine Zm ?_; refine Zm ?_; refine ZltF ?_; refine Zp ?_; refine Zm ?_; refine Zm ?_; refine ZgtF ?_; refine Zp ?_; refine Zq ?_; refine ZN ?_; refine ZK ?_; refine ZT ?_; refine Zr ?_; refine Zm ?_; refine Zm ?_; refine Zi ?_
      (refine LL.storeF 0 0 x0 (x0 % 256 + 256 * lk) rfl rfl rfl rfl rfl uEnc o2 h0 (by omega) rfl rfl rfl rfl rfl ?_; intro We2393 o7 gre2391 zz9; clear o2; have o2 := o7; clear o7)
      have zgre2391 := gre2391.size; replace q := Zg q gre2391; replace re436 := Zd re436 gre2391; replace r40 := Zd r40 gre2391; refine Zq ?_; refine Zr ?_; refine Zm ?_; have le2487 := re436.lt; have le2488 := r40.lt
      (refine Zy (R.call rfl rfl rfl) (of_ok2 g2 0 cap2 (ws.set 0 (x0 % 256 + 256 * lk)) k (lk : Int) z m r p t _ (hSF _ q) hcap (own_wds o2 (by omega)) hI2 ews2 hA1) ?_; rintro e We2486 ⟨v6, rfl, rd6, hfr6, be2483⟩; refine ⟨_, rfl, ?_⟩; obtain ⟨x6, c6, rfl, _⟩ := rd6.form rfl; have hk6 := Kept.refl (fun j => j < We2486.heap.size ∧ j ≠ ge435) We2486; have rd6F := fun X (h : Kept (fun j => j < We2486.heap.size ∧ j ≠ ge435) We2486 X) => readsT_far rd6 h (fun b off n c e hlt => ⟨hlt, by have := hfr6 b off n c e; omega⟩); clear rd6 hfr6)
      have zbe2483 := be2483.size; replace o2 := o2.up be2483; replace q := Zu q be2483; replace re436 := re436.up be2483; replace r40 := r40.up be2483; refine Zm ?_; refine Zx ?_; refine Zx ?_
      refine LL.storeN (vs := [.int .i64 k, .int .i64 ↑lk, .int .i64 z, .slice x6 m.length c6, .int .i64 r, .int .i64 p, strV t]) rfl rfl rfl rfl re436 (by exact Nat.le_of_ble_eq_true rfl) (ones_of rfl) rfl rfl ?_
      intro We2701 re2702 be2700 ze2703
      have hlbe2700 := re436.lt
      replace re2702 : RowL We2701 _ 25 [.int .i64 k, .int .i64 ↑lk, .int .i64 z, .slice x6 m.length c6, .int .i64 r, .int .i64 p, strV t] := re2702
      clear re436
      replace hk6 := Zo hk6 be2700
      replace o2 := o2.grown be2700 (fun e => by simp [Value.ownBlock] at e; omega)
      replace q := Zg q be2700; replace r40 := Zd r40 be2700
      have re436 := re2702
      clear re2702
      refine Za ?_; refine Zq ?_; refine Zr ?_; refine Zm ?_
      refine Zy (R.call rfl rfl rfl) (num_any _ _) ?_
      rintro e W' ⟨rfl, rfl⟩
      refine ⟨_, rfl, ?_⟩; refine Zm ?_
      refine Zy (R.call rfl rfl rfl) (num_any _ _) ?_
      rintro e W' ⟨rfl, rfl⟩
      refine ⟨_, rfl, ?_⟩
      refine LL.val (R.addIz (z := 0) rfl rfl rfl (by decide) (by decide)) rfl rfl rfl ?_
      refine ZeqT ?_; refine Zm ?_; refine Zv re436 ?_; refine Zv r40 ?_; have le3271 := r40.lt; have le3272 := re436.lt
      (refine Zy (R.call rfl rfl rfl) (insame_any k (lk : Int) z _ m r p t k (lk : Int) z _ m r p t _ (rd6F _ hk6) (hvF _ q) hlm hlm true hsm2) ?_; rintro e We3270 ⟨rfl, be3267⟩; refine ⟨_, rfl, ?_⟩)
      have zbe3267 := be3267.size; replace hk6 := Zh hk6 be3267; have ye3276 := hk6.size; replace o2 := o2.up be3267; replace q := Zu q be3267; replace r40 := r40.up be3267; replace re436 := re436.up be3267; refine Zp ?_; refine Zm ?_
      refine Zy (R.call rfl rfl rfl) (works_any _ (hSF _ q)) ?_
      rintro e We3434 ⟨rfl, be3433⟩
      refine ⟨_, rfl, ?_⟩; have zbe3433 := be3433.size; replace be3267 := Zu be3267 be3433; replace hk6 := Zh hk6 be3433; have ye3436 := hk6.size; replace o2 := o2.up be3433; replace q := Zu q be3433; replace r40 := r40.up be3433; replace re436 := re436.up be3433; refine Zp ?_; refine Za ?_; refine Zq ?_; refine ZR ?_; refine EE.ret _ rfl rfl ?_
      exact ⟨rfl, q⟩
theorem inholds_shell (g : Nat → Int) (hg : ∀ j, j < 16 → (Lit.int .u64 (g j)).wf = true) (k l z : Int) (x : Option Addr) (n c : Nat) (m : List Ex) (r p : Int) (s : ByteArray) (links : Int) (w : World) (hS : Start w) (hv : ReadsT eE 3 w (.slice x n c) m) (hl : m.length ≤ 9223372036854775807) (hs : s.size ≤ maxLen) (hlk : -9223372036854775808 ≤ links ∧ links ≤ 9223372036854775807) : Calls Tryd.prog 8 #[.agg ((List.range 16).map fun j => Value.int .u64 (g j)).toArray, .agg #[.int .i64 k, .int .i64 l, .int .i64 z, .slice x n c, .int .i64 r, .int .i64 p, .string s], .int .i64 links] w fun e w' => e = .returned (.bool true) ∧ Below w.heap.size w w' := by
  obtain ⟨t, rfl⟩ : ∃ l : Bs, s = ⟨l.toArray⟩ := ⟨s.data.toList, bs_data s⟩
  have e : (List.range 16).map (fun j => Value.int .u64 (g j)) = (List.range 16).map fun j => Value.int .u64 (((g j).toNat : Nat) : Int) := by
    refine List.map_congr_left fun j hj => ?_
    have := wf_u64 (hg j (by simpa using hj))
    rw [Int.toNat_of_nonneg (by omega)]
  rw [e]
  have hb : ∀ j, j < 16 → (g j).toNat < 18446744073709551616 := fun j hj => by
    have := wf_u64 (hg j hj)
    omega
  obtain ⟨_, _, e2, _⟩ := hv.form rfl
  cases e2
  have hs2 : t.length ≤ 9223372036854775807 := by simpa [ByteArray.size, maxLen] using hs
  have h6 : ∀ x ∈ sixL (fun j => (g j).toNat), x < 18446744073709551616 := by
    intro x hx
    have hx2 : x ∈ (List.range 16).map (fun j => (g j).toNat) := hx
    obtain ⟨j, hj, rfl⟩ := List.mem_map.1 hx2
    exact hb j (by simpa using hj)
  by_cases h : (m.length ≤ 30 ∧ t.length ≤ 300) ∧ okI k l z m r p t
  · exact inholds_in (fun j => (g j).toNat) k l z x _ c m r p t links w hS hv rfl h.1 h.2 hlk h6
  · exact inholds_no (fun j => (g j).toNat) k l z x _ c m r p t links w hS hv rfl hl hs2 h
set_option linter.unusedVariables false
set_option linter.unusedSimpArgs false
open Go.RowKit Go.ChangeShapes Go.WideShapes Go.ChangeAt
theorem own : ownKnob Tryd.prog.godebug = none := by kernel_rfl
theorem laidOut : laidOutB Tryd.prog = true := by kernel_rfl
section
variable {H : Type} {enc : TypeId × Value → H} {P : Program} {w : World} {base : Nat} {spare : Nat → Bool} {held : Bool} {r : Reach} {b0 : Nat} {t : TypeId} {v : Value} {d : DataW H} {p : List MemPlace}
theorem wf_i64 {n : Int} (h : (Lit.int .i64 n).wf = true) : -9223372036854775808 ≤ n ∧ n ≤ 9223372036854775807 := by
  simp [Lit.wf, IntKind.min, IntKind.max, IntKind.signed, IntKind.bits] at h; omega
end
set_option linter.unusedVariables false
set_option linter.unusedSimpArgs false
/-- Which kind of integer lies at a cell. -/
def atC (P : Program) : Nat → TypeId → Nat → Option IntKind
  | 0, _, _ => none
  | d + 1, t, j => match P.underlying t with
    | some (.struct fs) => fs.toList.findSome? fun f => if f.offset ≤ j ∧ j < f.offset + P.cellsOf f.type then atC P d f.type (j - f.offset) else none
    | some (.array n e) => if j / P.cellsOf e < n then atC P d e (j % P.cellsOf e) else none
    | some (.int k) => if j = 0 then some k else none
    | _ => none
section
variable {H : Type} {enc : TypeId × Value → H} {P : Program} {w : World} {base : Nat} {spare : Nat → Bool} {held : Bool} {r : Reach} {b0 : Nat} {t : TypeId} {v : Value} {d : DataW H} {p : List MemPlace}
theorem trod_at : ∀ (n : Nat) (t : TypeId) (j fuel : Nat) (cs : List Value) (x : DataW H × List MemPlace) (k : IntKind), atC P n t j = some k → DataW.trod enc P w base spare held fuel t cs = some x → ∃ z : Int, cs[j]? = some (.int k z) ∧ (Lit.int k z).wf = true
  | 0, _, _, _, _, _, _, h, _ => by cases h
  | n + 1, t, j, fuel, cs, x, k, h, hx => by
    cases hu : P.underlying t with
    | none => simp [atC, hu] at h
    | some kd =>
      cases kd <;> simp only [atC, hu] at h <;> try (cases h; done)
      case int q =>
        split at h
        · rename_i hj
          cases h
          subst hj
          obtain ⟨z, e, _, hw⟩ := DataW.trod_int hu hx
          exact ⟨z, by rw [e]; rfl, hw⟩
        · cases h
      case struct fs =>
        obtain ⟨f, hf, hfk⟩ := List.exists_of_findSome?_eq_some h
        split at hfk
        · rename_i hj
          obtain ⟨xs, m, _, rfl, hl, hlen, hf2⟩ := DataW.trod_struct hu hx
          obtain ⟨i, hi⟩ := List.mem_iff_getElem?.1 hf
          have h2 := hf2 i f (by simpa using hi)
          have hil : i < xs.length := by
            have := (List.getElem?_eq_some_iff.1 hi).1
            rw [Array.length_toList] at this
            omega
          rw [List.getElem?_eq_getElem hil] at h2
          obtain ⟨z, e, hw⟩ := trod_at n f.type (j - f.offset) _ _ _ k hfk h2
          refine ⟨z, ?_, hw⟩
          rw [List.getElem?_take] at e
          split at e
          · rw [List.getElem?_drop] at e
            rwa [show f.offset + (j - f.offset) = j by omega] at e
          · cases e
        · cases hfk
      case array m e =>
        split at h
        · rename_i hj
          obtain ⟨xs, m', _, rfl, hl, hlen, hi⟩ := DataW.trod_array hu hx
          have h2 := hi _ hj
          rw [List.getElem?_eq_getElem (by omega)] at h2
          obtain ⟨z, e', hw⟩ := trod_at n e (j % P.cellsOf e) _ _ _ k h h2
          refine ⟨z, ?_, hw⟩
          rw [List.getElem?_take] at e'
          split at e'
          · rw [List.getElem?_drop] at e'
            rwa [show j / P.cellsOf e * P.cellsOf e + j % P.cellsOf e = j by rw [Nat.mul_comm]; exact Nat.div_add_mod _ _] at e'
          · cases e'
        · cases h
theorem open_ints {c : Nat} (ks : Nat → IntKind) (hs : (match P.underlying t with | some (.struct _) | some (.array _ _) => true | _ => false) = true) (hc : P.cellsOf t = c) (hk : (List.range c).all (fun j => atC P 9 t j == some (ks j)) = true)
    (hv : Value.okWide P w r b0 t v) (h : DataW.Trod enc P w base spare held t v d p) : ∃ g : Nat → Int, v = .agg ((List.range c).map fun j => Value.int (ks j) (g j)).toArray ∧ ∀ j, j < c → (Lit.int (ks j) (g j)).wf = true := by
  have hg : ∃ cs, v = .agg cs ∧ cs.size = P.cellsOf t := by
    unfold Value.okWide at hv
    split at hv
    · obtain ⟨cs, h1, h2, _⟩ := hv; exact ⟨cs, h1, h2⟩
    · obtain ⟨cs, h1, h2, _⟩ := hv; exact ⟨cs, h1, h2⟩
    · rename_i h1 h2
      split at hs <;> simp_all
  obtain ⟨cs, rfl, hsz⟩ := hg
  obtain ⟨fuel, hf⟩ := h
  have key : ∀ j, ∃ z : Int, j < c → cs.toList[j]? = some (.int (ks j) z) ∧ (Lit.int (ks j) z).wf = true := by
    intro j
    by_cases hj : j < c
    · have hk' := List.all_eq_true.1 hk j (List.mem_range.2 hj)
      have hk'' : atC P 9 t j = some (ks j) := by simpa using hk'
      obtain ⟨z, h1, h2⟩ := trod_at 9 t j fuel _ _ _ hk'' hf
      exact ⟨z, fun _ => ⟨h1, h2⟩⟩
    · exact ⟨0, fun h => absurd h hj⟩
  refine ⟨fun j => Classical.choose (key j), ?_, fun j hj => (Classical.choose_spec (key j) hj).2⟩
  congr 1
  apply Array.ext'
  apply List.ext_getElem?
  intro j
  simp only [List.toList_toArray, List.getElem?_map]
  by_cases hj : j < c
  · rw [(Classical.choose_spec (key j) hj).1, List.getElem?_range hj]
    rfl
  · rw [List.getElem?_eq_none (by rw [Array.length_toList, hsz, hc]; omega), List.getElem?_eq_none (by simp; omega)]
    rfl
end
set_option linter.unusedVariables false
set_option linter.unusedSimpArgs false
open Go.RowKit Go.ChangeShapes Go.WideShapes Go.ChangeAt Go.Deep
section
variable {α : Type} {encT : α → List Value} {H : Type} {enc : TypeId × Value → H} {P : Program} {w : World} {base : Nat} {spare : Nat → Bool} {held : Bool} {r : Reach} {b0 : Nat} {t : TypeId} {v : Value} {d : DataW H} {p : List MemPlace}
end
set_option linter.unusedVariables false
set_option linter.unusedSimpArgs false
section
variable {H : Type} {enc : TypeId × Value → H} {P : Program} {w : World} {base : Nat} {spare : Nat → Bool} {held : Bool} {r : Reach} {b0 : Nat} {t : TypeId} {v : Value} {d : DataW H} {p : List MemPlace}
end
set_option linter.unusedVariables false
set_option linter.unusedSimpArgs false
section
variable {α : Type} {encT : α → List Value} {H : Type} {enc : TypeId × Value → H} {P : Program} {w : World} {base : Nat} {spare : Nat → Bool} {held : Bool} {r : Reach} {b0 : Nat} {t : TypeId} {v : Value} {d : DataW H} {p : List MemPlace}
theorem open_rowsC {e c fuel : Nat} {cs : List Value} {x0 : DataW H × List MemPlace} (ks : Nat → IntKind) (E : Enc encT c) (f : (Nat → Int) → α) (hf : ∀ g, encT (f g) = (List.range c).map fun j => Value.int (ks j) (g j)) (ht : P.underlying t = some (.slice e)) (ce : P.cellsOf e = c) (hk : (List.range c).all (fun j => atC P 9 e j == some (ks j)) = true)
    (hfu : DataW.trod enc P w base spare held fuel t cs = some x0) : ∃ (a : Option Addr) (n k : Nat) (gs : List (Nat → Int)), cs = [.slice a n k] ∧ ReadsT encT c w (.slice a n k) (gs.map f) ∧ (∀ g ∈ gs, ∀ j, j < c → (Lit.int (ks j) (g j)).wf = true) ∧ gs.length ≤ 9223372036854775807 := by
  rcases open_slice ht hfu with ⟨rfl, _⟩ | ⟨x, len, cap, m, n, D, Pl, rfl, hb, hl, hm, hmm, _, hx⟩
  · exact ⟨none, 0, 0, [], rfl, ReadsT.nil w, by simp, by simp⟩
  · have hlm : len ≤ m := by rw [hmm]; split <;> omega
    have each : ∀ i, i < len → ∃ g : Nat → Int, ∀ j, j < c → w.cell? (x.add (i * c + j)) = some (.int (ks j) (g j)) ∧ (Lit.int (ks j) (g j)).wf = true := by
      intro i hi
      obtain ⟨cs', h1, h2⟩ := hx i (by omega)
      rw [ce] at h1
      obtain ⟨_, hlen, hcell⟩ := World.cells?_some h1
      have hj : ∀ j, ∃ z : Int, j < c → cs'[j]? = some (.int (ks j) z) ∧ (Lit.int (ks j) z).wf = true := fun j => by
        by_cases hjc : j < c
        · have hkj := List.all_eq_true.1 hk j (List.mem_range.2 hjc)
          obtain ⟨z, h3, h4⟩ := trod_at 9 e j n cs' (D i, Pl i) (ks j) (by simpa using hkj) h2
          exact ⟨z, fun _ => ⟨h3, h4⟩⟩
        · exact ⟨0, fun h => absurd h hjc⟩
      refine ⟨fun j => Classical.choose (hj j), fun j hjc => ?_⟩
      have hs := Classical.choose_spec (hj j) hjc
      refine ⟨?_, hs.2⟩
      have := hcell j (by omega)
      rw [add_add] at this
      rw [this]
      exact hs.1
    obtain ⟨G, hG⟩ := choose_lt each
    have hlen : (((List.range len).map G).map f).length = len := by simp
    refine ⟨some x, len, cap, (List.range len).map G, rfl, ⟨some x, cap, by rw [hlen], by rw [hlen]; exact hl, fun hne => ?_⟩, ?_, ?_⟩
    · have h0 : 0 < len := by
        rcases Nat.eq_zero_or_pos len with h0 | h0
        · subst h0; simp at hne
        · exact h0
      have hcp := E.pos
      obtain ⟨b, off, spot⟩ := x
      have hc0 := (hG 0 h0 0 hcp).1
      have hspot : spot = none := by simpa [Addr.add] using World.cell?_spot hc0
      subst hspot
      have hblt : b < w.heap.size := by
        rcases Nat.lt_or_ge b w.heap.size with hb | hb
        · exact hb
        · simp [Addr.add, World.cell?, Array.getElem?_eq_none hb] at hc0
      refine ⟨b, off, rfl, hblt, fun j hj => ?_⟩
      rw [hlen] at hj
      have hil : j / c < len := (Nat.div_lt_iff_lt_mul hcp).2 hj
      have hrl : j % c < c := Nat.mod_lt _ hcp
      have hc1 := (hG (j / c) hil (j % c) hrl).1
      rw [Addr.add_lit] at hc1
      have hje : j / c * c + j % c = j := by rw [Nat.mul_comm]; exact Nat.div_add_mod _ _
      have hget : (((List.range len).map G).map f)[j / c]? = some (f (G (j / c))) := by simp [hil]
      have hg := E.get _ (j / c) _ hget (j % c) hrl
      rw [hje] at hg hc1
      rw [hg, hf, hc1]
      simp [hrl]
    · intro g hg j hj
      obtain ⟨i, hi, rfl⟩ := List.mem_map.1 hg
      exact (hG i (List.mem_range.1 hi) j hj).2
    · simp only [List.length_map, List.length_range]
      unfold maxLen at hm
      omega
theorem fld_at {fs : Array Field} {f : Field} {i n : Nat} {cs : List Value} {xs : List (DataW H × List MemPlace)} (hf2 : ∀ (i : Nat) (f : Field), fs[i]? = some f → DataW.trod enc P w base spare held n f.type ((cs.drop f.offset).take (P.cellsOf f.type)) = xs[i]?) (hlen : xs.length = fs.size) (hi : fs.toList[i]? = some f) (ho : f.offset = i) (hc : P.cellsOf f.type = 1) : ∃ y, DataW.trod enc P w base spare held n f.type ((cs.drop i).take 1) = some y := by
  have hx : i < xs.length := by
    have := (List.getElem?_eq_some_iff.1 hi).1
    rw [Array.length_toList] at this
    omega
  have g := hf2 i f (by simpa using hi)
  rw [List.getElem?_eq_getElem hx, ho, hc] at g
  exact ⟨_, g⟩
theorem open_in {fs : Array Field} {f0 f1 f2 f3 f4 f5 f6 : Field} {e c : Nat} (ks : Nat → IntKind) (E : Enc encT c) (f : (Nat → Int) → α) (hf : ∀ g, encT (f g) = (List.range c).map fun j => Value.int (ks j) (g j)) (hu : P.underlying t = some (.struct fs)) (h0 : fs.toList[0]? = some f0) (h1 : fs.toList[1]? = some f1) (h2 : fs.toList[2]? = some f2) (h3 : fs.toList[3]? = some f3) (h4 : fs.toList[4]? = some f4) (h5 : fs.toList[5]? = some f5) (h6 : fs.toList[6]? = some f6) (o0 : f0.offset = 0) (o1 : f1.offset = 1) (o2 : f2.offset = 2) (o3 : f3.offset = 3) (o4 : f4.offset = 4) (o5 : f5.offset = 5) (o6 : f6.offset = 6) (t0 : P.underlying f0.type = some (.int .i64)) (t1 : P.underlying f1.type = some (.int .i64)) (t2 : P.underlying f2.type = some (.int .i64)) (t3 : P.underlying f3.type = some (.slice e)) (t4 : P.underlying f4.type = some (.int .i64)) (t5 : P.underlying f5.type = some (.int .i64)) (t6 : P.underlying f6.type = some (.string)) (c0 : P.cellsOf f0.type = 1) (c1 : P.cellsOf f1.type = 1) (c2 : P.cellsOf f2.type = 1) (c3 : P.cellsOf f3.type = 1) (c4 : P.cellsOf f4.type = 1) (c5 : P.cellsOf f5.type = 1) (c6 : P.cellsOf f6.type = 1) (hc : P.cellsOf t = 7) (ce : P.cellsOf e = c) (hk : (List.range c).all (fun j => atC P 9 e j == some (ks j)) = true)
    (hv : Value.okWide P w r b0 t v) (h : DataW.Trod enc P w base spare held t v d p) : ∃ (k l z : Int) (a : Option Addr) (n m : Nat) (gs : List (Nat → Int)) (rr pp : Int) (s : ByteArray), v = .agg #[.int .i64 k, .int .i64 l, .int .i64 z, .slice a n m, .int .i64 rr, .int .i64 pp, .string s] ∧ ReadsT encT c w (.slice a n m) (gs.map f) ∧ gs.length ≤ 9223372036854775807 ∧ ((Lit.int .i64 k).wf = true ∧ (Lit.int .i64 l).wf = true ∧ (Lit.int .i64 z).wf = true ∧ (Lit.int .i64 rr).wf = true ∧ (Lit.int .i64 pp).wf = true) ∧ (∀ g ∈ gs, ∀ j, j < c → (Lit.int (ks j) (g j)).wf = true) ∧ s.size ≤ maxLen := by
  have hg : ∃ cs, v = .agg cs ∧ cs.size = P.cellsOf t := by
    unfold Value.okWide at hv
    rw [hu] at hv
    obtain ⟨cs, h1, h2, _⟩ := hv
    exact ⟨cs, h1, h2⟩
  obtain ⟨cs, rfl, hsz⟩ := hg
  rw [hc] at hsz
  obtain ⟨fuel, hfu⟩ := h
  obtain ⟨xs, m, _, e0, hl, hlen, hf2⟩ := DataW.trod_struct hu hfu
  obtain ⟨y0, g0⟩ := fld_at hf2 hlen h0 o0 c0
  obtain ⟨y1, g1⟩ := fld_at hf2 hlen h1 o1 c1
  obtain ⟨y2, g2⟩ := fld_at hf2 hlen h2 o2 c2
  obtain ⟨y3, g3⟩ := fld_at hf2 hlen h3 o3 c3
  obtain ⟨y4, g4⟩ := fld_at hf2 hlen h4 o4 c4
  obtain ⟨y5, g5⟩ := fld_at hf2 hlen h5 o5 c5
  obtain ⟨y6, g6⟩ := fld_at hf2 hlen h6 o6 c6
  obtain ⟨z0, e10, _, w0⟩ := DataW.trod_int t0 g0
  obtain ⟨z1, e11, _, w1⟩ := DataW.trod_int t1 g1
  obtain ⟨z2, e12, _, w2⟩ := DataW.trod_int t2 g2
  obtain ⟨z4, e14, _, w4⟩ := DataW.trod_int t4 g4
  obtain ⟨z5, e15, _, w5⟩ := DataW.trod_int t5 g5
  obtain ⟨s, e16, _, hs⟩ := DataW.trod_string t6 g6
  obtain ⟨a, n, k, gs, e13, hr, hw, hgl⟩ := open_rowsC ks E f hf t3 ce hk g3
  refine ⟨z0, z1, z2, a, n, k, gs, z4, z5, s, ?_, hr, hgl, ⟨w0, w1, w2, w4, w5⟩, hw, hs⟩
  congr 1
  apply Array.ext'
  have hlen2 : cs.toList.length = 7 := by rw [Array.length_toList, hsz]
  have ec : (Value.agg cs).cells.toList = cs.toList := rfl
  rw [ec] at e10 e11 e12 e13 e14 e15 e16
  match hcs : cs.toList, hlen2 with
  | [a0, a1, a2, a3, a4, a5, a6], _ =>
    rw [hcs] at e10 e11 e12 e13 e14 e15 e16
    simp only [List.drop_zero, List.take_succ_cons, List.take_zero, List.cons.injEq, and_true, List.drop_succ_cons] at e10 e11 e12 e13 e14 e15 e16
    rw [e10, e11, e12, e13, e14, e15, e16]
end
open Go.ChangeShapes Go.WideShapes Go.ChangeAt Go.WideMaps Go.WideElems Go.RowKit
def laidHere : List (String × DataW Unit) := [("hedgerow/extents.widths", Rows.laid_hedgerow_extents_widths)]
theorem gTurns : Tryd.prog.globalNamed "hedgerow/extents.widths" = some 0 := by kernel_rfl
theorem tTurns : (Tryd.prog.globals[0]?).map (·.type) = some 133 := by kernel_rfl
theorem door_met (os : Os) (args : Array Value) : laidMetH Tryd.prog laidHere ((World.doorLaid Tryd.prog 14 os).forCall (fun _ _ => 0) ⟨#[], args, []⟩).memory :=
  laidMetH_of_parts3 (fuel := 8) (laidMet_of_run' 8 (by kernel_rfl) (by kernel_rfl)) (by kernel_rfl) (by kernel_rfl)
theorem of_laid {W : World} (h : laidMetH Tryd.prog laidHere W) : Start W := by
  rw [MakeChecks.laidMetH_plain _ _ _ (by kernel_rfl)] at h
  have hT := Lib.tabIs_of_head (k := .i64) (zs := [16, 24, 16]) gTurns tTurns Tryd.underlying133 Tryd.underlying3 (by kernel_rfl) (by kernel_rfl) h
  have hc : ∀ i, i < 3 → W.cell? ⟨0, i, none⟩ = some (.int .i64 ([16, 24, 16].getD i 0)) := fun i hi => hT.cell gTurns i hi
  refine ⟨hc 0 (by decide), hc 1 (by decide), hc 2 (by decide), ?_⟩
  obtain ⟨o, ho, _⟩ := cells_of_cell (hc 0 (by decide))
  exact (Array.getElem?_eq_some_iff.1 ho).1
end Go.Proofs.YtnoefalgmekjbaaDoor
