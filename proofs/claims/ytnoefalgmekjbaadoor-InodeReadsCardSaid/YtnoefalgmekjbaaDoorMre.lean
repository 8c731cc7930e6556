/- What the statements' walks use: In17, In18, In19, In20, In21, In22, In23, In24, In25, In26, In27, In28, SameW, WordsW, In29, In30, In32, In33. -/

import Derived.Test.YtnoefalgmekjbaaDoorMra
import Derived.Test.YtnoefalgmekjbaaDoorMrd
/- inode: begins; the chapter's rows. -/
namespace Go.Proofs.YtnoefalgmekjbaaDoor
set_option linter.unusedVariables false
set_option linter.unusedSimpArgs false
open Go.RowKit Go.Shelf
set_option maxRecDepth 100000
set_option maxHeartbeats 8000000
theorem wsame_any (v1 v2 : Value) (xs ys : List Nat) (w : World) (h1 : Reads w v1 (ints .u64 xs)) (h2 : Reads w v2 (ints .u64 ys)) (hx : xs.length ≤ 1048576) (hy : ys.length ≤ 1048576) :
    Calls Tryd.prog 16 #[v1, v2] w fun e w' => e = .returned (.bool (decide (xs = ys))) ∧ Below w.heap.size w w' := by
  refine (same_any v1 v2 xs ys w h1 h2 hx hy).mono ?_
  rintro e w' ⟨rfl, n, rfl⟩
  exact ⟨rfl, Below.drewN (Below.refl _ _) n⟩
theorem num_any (a : Int) (w : World) : Calls Tryd.prog 13 #[.int .i64 a] w fun e w' => e = .returned (.int .i64 a) ∧ w = w' := by
  refine X.fn Tryd.func13 rfl (n := 4) rfl rfl ?_
  refine Zr ?_; refine Za ?_; refine Zq ?_; refine Zr ?_; refine Zm ?_; refine Za ?_; refine Zq ?_; refine ZR ?_; refine EE.ret _ rfl rfl ?_
  exact ⟨rfl, rfl⟩
theorem wsame_T (v1 v2 : Value) (xs ys : List Nat) (w : World) (h1 : Reads w v1 (ints .u64 xs)) (h2 : Reads w v2 (ints .u64 ys)) (hx : xs.length ≤ 1048576) (e : ys = xs) :
    Calls Tryd.prog 16 #[v1, v2] w fun e w' => e = .returned (.bool true) ∧ Below w.heap.size w w' := by
  subst e
  have := wsame_any v1 v2 ys ys w h1 h2 hx hx
  simpa using this
theorem beg_T (g : Nat) (a2 : Option Addr) (n2 c2 : Nat) (ws l : List Nat) (w : World) (h1 : Reads w (.slice (some ⟨g, 0, none⟩) 16 16) (ints .u64 ws)) (h2 : Reads w (.slice a2 n2 c2) (ints .u64 l)) (hn : ws.length = 16) (hle : n2 ≤ 16) (ht : l = ws.take n2) : Calls Tryd.prog 26 #[.slice (some ⟨g, 0, none⟩) 16 16, .slice a2 n2 c2] w fun e w' => e = .returned (.bool true) ∧ Below w.heap.size w w' := by
  have q := Below.refl w.heap.size w
  have h3 : Reads w (.slice (some ⟨g, 0, none⟩) n2 16) (ints .u64 (ws.take n2)) := by
    have := h1.take n2 (by omega) 16 (by omega)
    rwa [show (ints .u64 ws).take n2 = ints .u64 (ws.take n2) by simp [ints]] at this
  have h3F := fun X (b : Below w.heap.size w X) => h3.up b
  have h2F := fun X (b : Below w.heap.size w X) => h2.up b
  clear h1 h2 h3
  have hl : (ws.take n2).length ≤ 1048576 := by simp; omega
  refine X.fn Tryd.func26 rfl (n := 18) rfl rfl ?_
  refine Zr ?_; refine Za ?_; refine Zq ?_; refine Zr ?_; refine Zm ?_; refine Zn ?_; refine Zm ?_; refine Zn ?_; refine ZgeT ?_; refine Zm ?_; refine Zm ?_; refine Zm ?_; refine Zn ?_
  refine LL.val (R.slice rfl rfl rfl rfl rfl (I.slTo rfl (by omega))) rfl rfl rfl ?_
  refine Zm ?_
  refine Zy (R.call rfl rfl rfl) (wsame_T _ _ _ _ _ (h3F _ q) (h2F _ q) hl ht) ?_
  rintro e W2 ⟨rfl, b1⟩
  refine ⟨_, rfl, ?_⟩; have zb1 := b1.size; replace q := Zu q b1; refine Zp ?_; refine Za ?_; refine Zq ?_; refine ZR ?_; refine EE.ret _ rfl rfl ?_
  exact ⟨rfl, q⟩
theorem of_Z (bk off cap : Nat) (ws : List Nat) (w : World) (hS : Start w) (hws : ws.length = 16) (hwb : ∀ x ∈ ws, x < 18446744073709551616) (hcap : 16 ≤ cap) (hW : WdsAt w bk off ws) (h0 : ws[0]? = some 0) : Calls Tryd.prog 17 #[.slice (some ⟨bk, off, none⟩) 16 cap] w (ofR 0 0 0 [] 0 0 [] w) :=
  of_run _ 16 cap 0 0 0 [] 0 0 [] w hS.pos (fun W gs go b hgs hgo hne hs ho => of1_Z gs go bk off cap ws W (hS.up b) hws hwb hcap hs (hW.up b) ho ⟨hne, by have := hS.pos; omega, by have := hW.lt; omega⟩ 0 h0 rfl)
theorem of_L (a : Option Addr) (n c : Nat) (w : World) (hn : n ≠ 16) : Calls Tryd.prog 17 #[.slice a n c] w fun e w' => e = .returned (.tuple #[inV 0 0 0 (.slice none 0 0) 0 0 [], .int .i64 240]) ∧ Below w.heap.size w w' :=
  of_pan a n c w (fun W gs go gk b hgs hgo hne hs ho => of1_L gk gs go a n c W hs hn)
theorem okD : okI 2 1 0 [] 20 1 [] := by unfold okI; simp
theorem okK : okI 3 2 0 [] 0 0 [97] := by unfold okI; simp
theorem begD : [258, 0, 20, 1] = (inoW 2 1 0 [] 20 1 []).take 4 := by decide +kernel
theorem begK : [515, 1, 97] = (inoW 3 2 0 [] 0 0 [97]).take 3 := by decide +kernel
theorem beg_R (g g2 n2 : Nat) (ws l : List Nat) (L : List Value) (w : World) (h1 : RowL w g 41 (ints .u64 ws)) (h2 : RowL w g2 41 L) (eL : L = ints .u64 l) (hn : ws.length = 16) (hle : n2 ≤ 16) (hl : l.length = n2) (ht : l = ws.take n2) : Calls Tryd.prog 26 #[.slice (some ⟨g, 0, none⟩) 16 16, .slice (some ⟨g2, 0, none⟩) n2 n2] w fun e w' => e = .returned (.bool true) ∧ Below w.heap.size w w' := by
  subst eL
  exact beg_T g _ n2 n2 ws l w (RowL.asInts h1 .u64 _ rfl hn) (RowL.asInts h2 .u64 _ rfl hl) hn hle ht
theorem same0 : (true = true) ↔ sameI 0 0 0 [] 0 0 [] 0 0 0 [] 0 0 [] := by simp [sameI]
def oddL : List Nat := [0, 7, 0, 0, 0, 0, 0, 0, 0, 0, 0, 0, 0, 0, 0, 0]
theorem works_any (w : World) (hS : Start w) : Calls Tryd.prog 10 #[] w fun x w' => x = .returned (.bool true) ∧ Below w.heap.size w w' := by
  have q := Below.refl w.heap.size w
  have hSF : ∀ X, Below w.heap.size w X → Start X := fun X b => hS.up b
  refine X.fn Tryd.func10 rfl (n := 81) rfl rfl ?_
  refine Zr ?_; refine Za ?_; refine Zq ?_; refine Zr ?_
  refine LL.val (R.buildV rfl rfl (v := .agg #[Value.int IntKind.i64 2, Value.int IntKind.i64 1, Value.int IntKind.i64 0, Value.slice none 0 0, Value.int IntKind.i64 20, Value.int IntKind.i64 1, Value.string { data := #[] }]) (fun _ => by kernel_rfl)) rfl rfl rfl ?_
  (refine Zy (R.call rfl rfl rfl) (words_ok 2 1 0 none 0 0 [] 20 1 [] _ (hSF _ q) (ReadsT.nil _) (by decide) okD) ?_; rintro e W32 ⟨g8, rfl, r81, hg8, b29⟩; refine ⟨_, rfl, ?_⟩)
  have zb29 := b29.size; replace hS := hS.up b29; replace q := Zu q b29; refine Zm ?_; refine Zx ?_; refine Zx ?_; refine Za ?_; refine Za ?_; refine Zq ?_; refine Zr ?_
  refine LL.val (R.buildV rfl rfl (v := .agg #[Value.int IntKind.i64 3, Value.int IntKind.i64 2, Value.int IntKind.i64 0, Value.slice none 0 0, Value.int IntKind.i64 0, Value.int IntKind.i64 0, Value.string { data := #[97] }]) (fun _ => by kernel_rfl)) rfl rfl rfl ?_
  have l144 := r81.lt
  (refine Zy (R.call rfl rfl rfl) (words_ok 3 2 0 none 0 0 [] 0 0 [97] _ (hSF _ q) (ReadsT.nil _) (by decide) okK) ?_; rintro e W143 ⟨g9, rfl, r91, hg9, b140⟩; refine ⟨_, rfl, ?_⟩)
  have zb140 := b140.size; replace r81 := r81.up b140; replace b29 := Zu b29 b140; replace hS := hS.up b140; replace q := Zu q b140; refine Zm ?_; refine Zx ?_; refine Zx ?_; refine Za ?_; refine Za ?_; refine Zq ?_; refine Zr ?_; have l81 := r81.lt; have l91 := r91.lt
  refine LL.make (l := 16) (m := 16) El64 rfl rfl rfl (by omega) (by omega) (by omega) rfl rfl ?_
  intro Wm gm egm rm zm bm
  replace q := Zu q bm; replace r81 := r81.up bm; replace r91 := r91.up bm; have lgm := rm.lt
  clear b140 zb140 b29 bm hS
  refine Za ?_; refine Zq ?_; refine Zr ?_; refine Zm ?_; refine Zi ?_
  refine LL.store rfl rfl rfl rfl rm (by exact Nat.le_of_ble_eq_true rfl) rfl rfl rfl rfl ?_
  intro Wa2 ra3 ba1 za4
  have hlba1 := rm.lt
  replace ra3 : RowL Wa2 _ 41 [.int .u64 0, .int .u64 7, .int .u64 0, .int .u64 0, .int .u64 0, .int .u64 0, .int .u64 0, .int .u64 0, .int .u64 0, .int .u64 0, .int .u64 0, .int .u64 0, .int .u64 0, .int .u64 0, .int .u64 0, .int .u64 0] := ra3
  clear rm
  replace q := Zg q ba1; replace r81 := Zd r81 ba1; replace r91 := Zd r91 ba1
  have rm := ra3
  clear ra3
  refine Zq ?_; refine Zr ?_; refine Zm ?_
  have hO : WdsAt Wa2 gm 0 oddL := ⟨fun j x hj => by rw [Nat.zero_add]; exact RowL.cell (xs := ints .u64 oddL) rm (by simp [ints, hj]), rm.lt⟩
  clear rm
  refine Zy (R.call rfl rfl rfl) (of_Z gm 0 16 oddL Wa2 (hSF _ q) rfl (by decide) (by omega) hO rfl) ?_
  rintro e W4 ⟨v4, rfl, rd4, b4⟩
  refine ⟨_, rfl, ?_⟩; have zb4 := b4.size; have hO3 := hO.lt; replace q := Zu q b4; replace r81 := r81.up b4; replace r91 := r91.up b4
  clear hO b4
  obtain ⟨x4, c4, rfl, _⟩ := rd4.form rfl
  have rd4F := fun X (b : Below W4.heap.size W4 X) => rd4.up b
  clear rd4
  have hlt8 := r81.lt; have hlt9 := r91.lt; refine Zm ?_; refine Zx ?_; refine Zx ?_; have lb181 := r81.lt; have lb182 := r91.lt
  refine LL.alloc ([.int .i64 0, .int .i64 0, .int .i64 0, .slice none 0 0, .int .i64 0, .int .i64 0, .string { data := { toList := [] } }]) rfl rfl rfl rfl rfl ?_
  intro Wb184 gb185 egb185 rb186 zb187 bb183
  replace q := Zu q bb183; replace r81 := r81.up bb183; replace r91 := r91.up bb183
  refine LL.storeN (vs := [.int .i64 0, .int .i64 0, .int .i64 0, .slice x4 [].length c4, .int .i64 0, .int .i64 0, strV []]) rfl rfl rfl rfl rb186 (by exact Nat.le_of_ble_eq_true rfl) (ones_of rfl) rfl rfl ?_
  intro Wb239 rb240 bb238 zb241
  have hlbb238 := rb186.lt
  replace rb240 : RowL Wb239 _ 25 [.int .i64 0, .int .i64 0, .int .i64 0, .slice x4 [].length c4, .int .i64 0, .int .i64 0, strV []] := rb240
  clear rb186
  replace bb183 := Zg bb183 bb238; replace q := Zg q bb238; replace r81 := Zd r81 bb238; replace r91 := Zd r91 bb238
  have rb186 := rb240
  clear rb240
  refine Za ?_; refine Zq ?_; refine Zr ?_; refine Zm ?_
  refine LL.val (R.slice rfl rfl rfl rfl rfl (I.slToc rfl rfl (by omega))) rfl rfl rfl ?_
  have lb396 := r81.lt; have lb397 := r91.lt; have lb398 := rb186.lt
  (refine Zy (R.call rfl rfl rfl) (of_L _ 15 16 _ (by decide)) ?_; rintro e Wb395 ⟨rfl, bb392⟩; refine ⟨_, rfl, ?_⟩)
  have zbb392 := bb392.size; replace bb183 := Zu bb183 bb392; replace q := Zu q bb392; replace r81 := r81.up bb392; replace r91 := r91.up bb392; replace rb186 := rb186.up bb392; refine Zm ?_; refine Zx ?_; refine Zx ?_; have lb602 := r81.lt; have lb603 := r91.lt; have lb604 := rb186.lt
  refine LL.alloc ([.int .i64 0, .int .i64 0, .int .i64 0, .slice none 0 0, .int .i64 0, .int .i64 0, .string { data := { toList := [] } }]) rfl rfl rfl rfl rfl ?_
  intro Wb606 gb607 egb607 rb608 zb609 bb605
  replace bb392 := Zu bb392 bb605; replace bb183 := Zu bb183 bb605; replace q := Zu q bb605; replace r81 := r81.up bb605; replace r91 := r91.up bb605; replace rb186 := rb186.up bb605
  refine LL.storeN (vs := [.int .i64 0, .int .i64 0, .int .i64 0, .slice none 0 0, .int .i64 0, .int .i64 0, strV []]) rfl rfl rfl rfl rb608 (by exact Nat.le_of_ble_eq_true rfl) (ones_of rfl) rfl rfl ?_
  intro Wb666 rb667 bb665 zb668
  have hlbb665 := rb608.lt
  replace rb667 : RowL Wb666 _ 25 [.int .i64 0, .int .i64 0, .int .i64 0, .slice none 0 0, .int .i64 0, .int .i64 0, strV []] := rb667
  clear rb608
  replace bb605 := Zg bb605 bb665; replace bb392 := Zg bb392 bb665; replace bb183 := Zg bb183 bb665; replace q := Zg q bb665; replace r81 := Zd r81 bb665; replace r91 := Zd r91 bb665; replace rb186 := Zd rb186 bb665
  have rb608 := rb667
  clear rb667
  refine Za ?_; refine Zq ?_; refine Zr ?_; have lb739 := r81.lt; have lb740 := r91.lt; have lb741 := rb186.lt; have lb742 := rb608.lt
  (refine Zy (R.call rfl rfl rfl) (linked_T 258 3 _ (by decide) (by decide) (by decide)) ?_; rintro e Wb738 ⟨rfl, bb735⟩; refine ⟨_, rfl, ?_⟩)
  have zbb735 := bb735.size; replace bb605 := Zu bb605 bb735; replace bb392 := Zu bb392 bb735; replace bb183 := Zu bb183 bb735; replace q := Zu q bb735; replace r81 := r81.up bb735; replace r91 := r91.up bb735; replace rb186 := rb186.up bb735; replace rb608 := rb608.up bb735; refine Zm ?_; refine Zx ?_; refine Zx ?_; refine Za ?_; refine Za ?_; refine Zq ?_; refine Zr ?_; refine Zm ?_
  refine Zy (R.call rfl rfl rfl) (num_any _ _) ?_
  rintro e W' ⟨rfl, rfl⟩
  refine ⟨_, rfl, ?_⟩; refine Zm ?_
  refine Zy (R.call rfl rfl rfl) (num_any _ _) ?_
  rintro e W' ⟨rfl, rfl⟩
  refine ⟨_, rfl, ?_⟩
  refine LL.val (R.addIz (z := 0) rfl rfl rfl (by decide) (by decide)) rfl rfl rfl ?_
  refine Zm ?_
  refine Zy (R.call rfl rfl rfl) (num_any _ _) ?_
  rintro e W' ⟨rfl, rfl⟩
  refine ⟨_, rfl, ?_⟩
  refine LL.val (R.addIz (z := 0) rfl rfl rfl (by decide) (by decide)) rfl rfl rfl ?_
  refine Zm ?_
  refine Zy (R.call rfl rfl rfl) (num_any _ _) ?_
  rintro e W' ⟨rfl, rfl⟩
  refine ⟨_, rfl, ?_⟩
  refine LL.val (R.addIz (z := 0) rfl rfl rfl (by decide) (by decide)) rfl rfl rfl ?_
  refine ZeqT ?_; refine Zm ?_; refine Zm ?_; have lb1846 := r81.lt; have lb1847 := r91.lt; have lb1848 := rb186.lt; have lb1849 := rb608.lt
  refine LL.lit (e := 41) [Value.int IntKind.u64 258, Value.int IntKind.u64 0, Value.int IntKind.u64 20, Value.int IntKind.u64 1] 4 rfl rfl (fun _ => by kernel_rfl) rfl rfl ?_
  intro Wb1851 gb1852 egb1852 rb1853 zb1854 bb1850
  replace bb735 := Zu bb735 bb1850; replace bb605 := Zu bb605 bb1850; replace bb392 := Zu bb392 bb1850; replace bb183 := Zu bb183 bb1850; replace q := Zu q bb1850; replace r81 := r81.up bb1850; replace r91 := r91.up bb1850; replace rb186 := rb186.up bb1850; replace rb608 := rb608.up bb1850; have lb1883 := rb1853.lt; have lb1884 := r81.lt; have lb1885 := r91.lt; have lb1886 := rb186.lt; have lb1887 := rb608.lt
  (refine Zy (R.call rfl rfl rfl) (beg_R g8 _ 4 (inoW 2 1 0 [] 20 1 []) [258, 0, 20, 1] _ _ r81 (by assumption) rfl (inoW_len okD) (by decide) rfl begD) ?_; rintro e Wb1882 ⟨rfl, bb1879⟩; refine ⟨_, rfl, ?_⟩)
  have zbb1879 := bb1879.size; replace rb1853 := rb1853.up bb1879; replace bb1850 := Zu bb1850 bb1879; replace bb735 := Zu bb735 bb1879; replace bb605 := Zu bb605 bb1879; replace bb392 := Zu bb392 bb1879; replace bb183 := Zu bb183 bb1879; replace q := Zu q bb1879; replace r81 := r81.up bb1879; replace r91 := r91.up bb1879; replace rb186 := rb186.up bb1879; replace rb608 := rb608.up bb1879; refine Zp ?_
  refine Zm ?_; refine Zm ?_; refine Zn ?_; refine ZeqT ?_; refine Zp ?_; refine Zm ?_; refine Zm ?_; have lb2431 := rb1853.lt; have lb2432 := r81.lt; have lb2433 := r91.lt; have lb2434 := rb186.lt; have lb2435 := rb608.lt
  refine LL.lit (e := 41) [Value.int IntKind.u64 515, Value.int IntKind.u64 1, Value.int IntKind.u64 97] 3 rfl rfl (fun _ => by kernel_rfl) rfl rfl ?_
  intro Wb2437 gb2438 egb2438 rb2439 zb2440 bb2436
  replace bb1879 := Zu bb1879 bb2436; replace rb1853 := rb1853.up bb2436; replace bb1850 := Zu bb1850 bb2436; replace bb735 := Zu bb735 bb2436; replace bb605 := Zu bb605 bb2436; replace bb392 := Zu bb392 bb2436; replace bb183 := Zu bb183 bb2436; replace q := Zu q bb2436; replace r81 := r81.up bb2436; replace r91 := r91.up bb2436; replace rb186 := rb186.up bb2436; replace rb608 := rb608.up bb2436; have lb2484 := rb2439.lt
  have lb2485 := rb1853.lt; have lb2486 := r81.lt; have lb2487 := r91.lt; have lb2488 := rb186.lt; have lb2489 := rb608.lt
  (refine Zy (R.call rfl rfl rfl) (beg_R g9 _ 3 (inoW 3 2 0 [] 0 0 [97]) [515, 1, 97] _ _ r91 (by assumption) rfl (inoW_len okK) (by decide) rfl begK) ?_; rintro e Wb2483 ⟨rfl, bb2480⟩; refine ⟨_, rfl, ?_⟩)
  have zbb2480 := bb2480.size; replace rb2439 := rb2439.up bb2480; replace bb2436 := Zu bb2436 bb2480; replace bb1879 := Zu bb1879 bb2480; replace rb1853 := rb1853.up bb2480; replace bb1850 := Zu bb1850 bb2480; replace bb735 := Zu bb735 bb2480; replace bb605 := Zu bb605 bb2480; replace bb392 := Zu bb392 bb2480; replace bb183 := Zu bb183 bb2480; replace q := Zu q bb2480; replace r81 := r81.up bb2480
  replace r91 := r91.up bb2480; replace rb186 := rb186.up bb2480; replace rb608 := rb608.up bb2480; refine Zp ?_; refine Zm ?_; refine Zv rb186 ?_
  refine LL.val (R.buildV rfl rfl (v := .agg #[Value.int IntKind.i64 0, Value.int IntKind.i64 0, Value.int IntKind.i64 0, Value.slice none 0 0, Value.int IntKind.i64 0, Value.int IntKind.i64 0, Value.string { data := #[] }]) (fun _ => by kernel_rfl)) rfl rfl rfl ?_
  have lb2809 := rb2439.lt; have lb2810 := rb1853.lt; have lb2811 := r81.lt; have lb2812 := r91.lt; have lb2813 := rb186.lt; have lb2814 := rb608.lt
  (refine Zy (R.call rfl rfl rfl) (dinsame_any 0 0 0 _ [] 0 0 [] 0 0 0 _ [] 0 0 [] _ (rd4F _ (by assumption)) (ReadsT.nil _) (by decide) (by decide) true same0) ?_; rintro e Wb2808 ⟨rfl, bb2805⟩; refine ⟨_, rfl, ?_⟩)
  have zbb2805 := bb2805.size; replace bb2480 := Zu bb2480 bb2805; replace rb2439 := rb2439.up bb2805; replace bb2436 := Zu bb2436 bb2805; replace bb1879 := Zu bb1879 bb2805; replace rb1853 := rb1853.up bb2805; replace bb1850 := Zu bb1850 bb2805; replace bb735 := Zu bb735 bb2805; replace bb605 := Zu bb605 bb2805; replace bb392 := Zu bb392 bb2805; replace bb183 := Zu bb183 bb2805; replace q := Zu q bb2805
  replace r81 := r81.up bb2805; replace r91 := r91.up bb2805; replace rb186 := rb186.up bb2805; replace rb608 := rb608.up bb2805; refine Zp ?_; refine Zm ?_; refine Zm ?_
  refine Zy (R.call rfl rfl rfl) (num_any _ _) ?_
  rintro e W' ⟨rfl, rfl⟩
  refine ⟨_, rfl, ?_⟩; refine ZeqT ?_; refine Zp ?_; refine Zm ?_; refine Zm ?_; refine ZeqT ?_; refine Zp ?_; refine Za ?_; refine Zq ?_; refine ZR ?_; refine EE.ret _ rfl rfl ?_
  exact ⟨rfl, q⟩
def zeroOk (f d l : Bool) (z : Int) (n : Nat) (r p : Int) (t : Bs) : Prop := (f = true ∨ z = 0 ∧ n = 0) ∧ (d = true ∨ r = 0 ∧ p = 0) ∧ (l = true ∨ t = [])
theorem zero_T (k l z : Int) (x : Option Addr) (n c : Nat) (r p : Int) (t : Bs) (f d li : Bool) (w : World) (hn : n ≤ 9223372036854775807) (h : zeroOk f d li z n r p t) : Calls Tryd.prog 34 #[inV k l z (.slice x n c) r p t, .bool f, .bool d, .bool li] w fun e w' => e = .returned (.bool true) ∧ Below w.heap.size w w' := by
  have q := Below.refl w.heap.size w
  obtain ⟨hF, hD, hL⟩ := h
  cases f <;> cases d <;> cases li <;> simp only [true_or, false_or, Bool.false_eq_true, reduceCtorEq] at hF hD hL
  all_goals (try (obtain ⟨hz0, hn0⟩ := hF; subst hz0 hn0))
  all_goals (try (obtain ⟨hr0, hp0⟩ := hD; subst hr0 hp0))
  all_goals (try subst hL)
  · refine X.fn Tryd.func34 rfl (n := 45) rfl rfl ?_
    refine Zr ?_
    refine LL.box [.int .i64 k, .int .i64 l, .int .i64 0, .slice x 0 c, .int .i64 0, .int .i64 0, strV []] rfl rfl rfl rfl rfl ?_
    intro W2 g3 eg3 r4 z5 b1
    replace q := Zu q b1; refine Za ?_; refine Zq ?_; refine Zc ?_; refine Zr ?_; refine Zm ?_; refine Zt ?_; refine Zm ?_; refine Zf ?_; refine Zl r4 ?_; refine ZneF ?_; refine Zm ?_; refine Zf ?_; refine Zl r4 ?_; refine Zn ?_; refine ZneF ?_; refine Zp ?_; refine Zp ?_; refine Zm ?_; refine Zm ?_; refine Zt ?_; refine Zm ?_; refine Zf ?_; refine Zl r4 ?_; refine ZneF ?_; refine Zm ?_; refine Zf ?_
    refine Zl r4 ?_; refine ZneF ?_; refine Zp ?_; refine Zp ?_; refine Zp ?_; refine Zm ?_; refine Zm ?_; refine Zt ?_; refine Zm ?_; refine Zf ?_; refine Zl r4 ?_
    refine LL.val (R.neS (a := ([] : Bs)) (b := []) (c := false) rfl rfl rfl (by decide)) rfl rfl rfl ?_
    refine Zp ?_; refine Zp ?_; refine Zq ?_; refine ZN ?_; refine ZK ?_; refine ZT ?_; refine Zr ?_; refine Za ?_; refine Zq ?_; refine ZR ?_; refine EE.ret _ rfl rfl ?_
    exact ⟨rfl, q⟩
  · refine X.fn Tryd.func34 rfl (n := 45) rfl rfl ?_
    refine Zr ?_
    refine LL.box [.int .i64 k, .int .i64 l, .int .i64 0, .slice x 0 c, .int .i64 0, .int .i64 0, strV t] rfl rfl rfl rfl rfl ?_
    intro Wa2 ga3 ega3 ra4 za5 ba1
    replace q := Zu q ba1; refine Za ?_; refine Zq ?_; refine Zc ?_; refine Zr ?_; refine Zm ?_; refine Zt ?_; refine Zm ?_; refine Zf ?_; refine Zl ra4 ?_; refine ZneF ?_; refine Zm ?_; refine Zf ?_; refine Zl ra4 ?_; refine Zn ?_; refine ZneF ?_; refine Zp ?_; refine Zp ?_; refine Zm ?_; refine Zm ?_; refine Zt ?_; refine Zm ?_; refine Zf ?_; refine Zl ra4 ?_; refine ZneF ?_; refine Zm ?_; refine Zf ?_
    refine Zl ra4 ?_; refine ZneF ?_; refine Zp ?_; refine Zp ?_; refine Zp ?_; refine Zm ?_; refine Zm ?_; refine Zt ?_; refine Zm ?_; refine Zs ?_; refine Zs ?_; refine Zs ?_; refine Zp ?_; refine Zp ?_; refine Zq ?_; refine ZN ?_; refine ZK ?_; refine ZT ?_; refine Zr ?_; refine Za ?_; refine Zq ?_; refine ZR ?_; refine EE.ret _ rfl rfl ?_
    exact ⟨rfl, q⟩
  · refine X.fn Tryd.func34 rfl (n := 45) rfl rfl ?_
    refine Zr ?_
    refine LL.box [.int .i64 k, .int .i64 l, .int .i64 0, .slice x 0 c, .int .i64 r, .int .i64 p, strV []] rfl rfl rfl rfl rfl ?_
    intro Wb2 gb3 egb3 rb4 zb5 bb1
    replace q := Zu q bb1; refine Za ?_; refine Zq ?_; refine Zc ?_; refine Zr ?_; refine Zm ?_; refine Zt ?_; refine Zm ?_; refine Zf ?_; refine Zl rb4 ?_; refine ZneF ?_; refine Zm ?_; refine Zf ?_; refine Zl rb4 ?_; refine Zn ?_; refine ZneF ?_; refine Zp ?_; refine Zp ?_; refine Zm ?_; refine Zm ?_; refine Zt ?_; refine Zm ?_; refine Zs ?_; refine Zs ?_; refine Zs ?_; refine Zs ?_; refine Zs ?_
    refine Zs ?_; refine Zs ?_; refine Zs ?_; refine Zp ?_; refine Zp ?_; refine Zm ?_; refine Zm ?_; refine Zt ?_; refine Zm ?_; refine Zf ?_; refine Zl rb4 ?_
    refine LL.val (R.neS (a := ([] : Bs)) (b := []) (c := false) rfl rfl rfl (by decide)) rfl rfl rfl ?_
    refine Zp ?_; refine Zp ?_; refine Zq ?_; refine ZN ?_; refine ZK ?_; refine ZT ?_; refine Zr ?_; refine Za ?_; refine Zq ?_; refine ZR ?_; refine EE.ret _ rfl rfl ?_
    exact ⟨rfl, q⟩
  · refine X.fn Tryd.func34 rfl (n := 45) rfl rfl ?_
    refine Zr ?_
    refine LL.box [.int .i64 k, .int .i64 l, .int .i64 0, .slice x 0 c, .int .i64 r, .int .i64 p, strV t] rfl rfl rfl rfl rfl ?_
    intro Wc2 gc3 egc3 rc4 zc5 bc1
    replace q := Zu q bc1; refine Za ?_; refine Zq ?_; refine Zc ?_; refine Zr ?_; refine Zm ?_; refine Zt ?_; refine Zm ?_; refine Zf ?_; refine Zl rc4 ?_; refine ZneF ?_; refine Zm ?_; refine Zf ?_; refine Zl rc4 ?_; refine Zn ?_; refine ZneF ?_; refine Zp ?_; refine Zp ?_; refine Zm ?_; refine Zm ?_; refine Zt ?_; refine Zm ?_; refine Zs ?_; refine Zs ?_; refine Zs ?_; refine Zs ?_; refine Zs ?_
    refine Zs ?_; refine Zs ?_; refine Zs ?_; refine Zp ?_; refine Zp ?_; refine Zm ?_; refine Zm ?_; refine Zt ?_; refine Zm ?_; refine Zs ?_; refine Zs ?_; refine Zs ?_; refine Zp ?_; refine Zp ?_; refine Zq ?_; refine ZN ?_; refine ZK ?_; refine ZT ?_; refine Zr ?_; refine Za ?_; refine Zq ?_; refine ZR ?_; refine EE.ret _ rfl rfl ?_
    exact ⟨rfl, q⟩
  · refine X.fn Tryd.func34 rfl (n := 45) rfl rfl ?_
    refine Zr ?_
    refine LL.box [.int .i64 k, .int .i64 l, .int .i64 z, .slice x n c, .int .i64 0, .int .i64 0, strV []] rfl rfl rfl rfl rfl ?_
    intro Wd2 gd3 egd3 rd4 zd5 bd1
    replace q := Zu q bd1; refine Za ?_; refine Zq ?_; refine Zc ?_; refine Zr ?_; refine Zm ?_; refine Zt ?_; refine Zm ?_; refine Zs ?_; refine Zs ?_; refine Zs ?_; refine Zs ?_; refine Zs ?_; refine Zs ?_; refine Zs ?_; refine Zs ?_; refine Zs ?_; refine Zp ?_; refine Zm ?_; refine Zm ?_; refine Zt ?_; refine Zm ?_; refine Zf ?_; refine Zl rd4 ?_; refine ZneF ?_; refine Zm ?_; refine Zf ?_; refine Zl rd4 ?_
    refine ZneF ?_; refine Zp ?_; refine Zp ?_; refine Zp ?_; refine Zm ?_; refine Zm ?_; refine Zt ?_; refine Zm ?_; refine Zf ?_; refine Zl rd4 ?_
    refine LL.val (R.neS (a := ([] : Bs)) (b := []) (c := false) rfl rfl rfl (by decide)) rfl rfl rfl ?_
    refine Zp ?_; refine Zp ?_; refine Zq ?_; refine ZN ?_; refine ZK ?_; refine ZT ?_; refine Zr ?_; refine Za ?_; refine Zq ?_; refine ZR ?_; refine EE.ret _ rfl rfl ?_
    exact ⟨rfl, q⟩
  · refine X.fn Tryd.func34 rfl (n := 45) rfl rfl ?_
    refine Zr ?_
    refine LL.box [.int .i64 k, .int .i64 l, .int .i64 z, .slice x n c, .int .i64 0, .int .i64 0, strV t] rfl rfl rfl rfl rfl ?_
    intro We2 ge3 ege3 re4 ze5 be1
    replace q := Zu q be1; refine Za ?_; refine Zq ?_; refine Zc ?_; refine Zr ?_; refine Zm ?_; refine Zt ?_; refine Zm ?_; refine Zs ?_; refine Zs ?_; refine Zs ?_; refine Zs ?_; refine Zs ?_; refine Zs ?_; refine Zs ?_; refine Zs ?_; refine Zs ?_; refine Zp ?_; refine Zm ?_; refine Zm ?_; refine Zt ?_; refine Zm ?_; refine Zf ?_; refine Zl re4 ?_; refine ZneF ?_; refine Zm ?_; refine Zf ?_; refine Zl re4 ?_
    refine ZneF ?_; refine Zp ?_; refine Zp ?_; refine Zp ?_; refine Zm ?_; refine Zm ?_; refine Zt ?_; refine Zm ?_; refine Zs ?_; refine Zs ?_; refine Zs ?_; refine Zp ?_; refine Zp ?_; refine Zq ?_; refine ZN ?_; refine ZK ?_; refine ZT ?_; refine Zr ?_; refine Za ?_; refine Zq ?_; refine ZR ?_; refine EE.ret _ rfl rfl ?_
    exact ⟨rfl, q⟩
  · refine X.fn Tryd.func34 rfl (n := 45) rfl rfl ?_
    refine Zr ?_
    refine LL.box [.int .i64 k, .int .i64 l, .int .i64 z, .slice x n c, .int .i64 r, .int .i64 p, strV []] rfl rfl rfl rfl rfl ?_
    intro Wf2 gf3 egf3 rf4 zf5 bf1
    replace q := Zu q bf1; refine Za ?_; refine Zq ?_; refine Zc ?_; refine Zr ?_; refine Zm ?_; refine Zt ?_; refine Zm ?_; refine Zs ?_; refine Zs ?_; refine Zs ?_; refine Zs ?_; refine Zs ?_; refine Zs ?_; refine Zs ?_; refine Zs ?_; refine Zs ?_; refine Zp ?_; refine Zm ?_; refine Zm ?_; refine Zt ?_; refine Zm ?_; refine Zs ?_; refine Zs ?_; refine Zs ?_; refine Zs ?_; refine Zs ?_; refine Zs ?_
    refine Zs ?_; refine Zs ?_; refine Zp ?_; refine Zp ?_; refine Zm ?_; refine Zm ?_; refine Zt ?_; refine Zm ?_; refine Zf ?_; refine Zl rf4 ?_
    refine LL.val (R.neS (a := ([] : Bs)) (b := []) (c := false) rfl rfl rfl (by decide)) rfl rfl rfl ?_
    refine Zp ?_; refine Zp ?_; refine Zq ?_; refine ZN ?_; refine ZK ?_; refine ZT ?_; refine Zr ?_; refine Za ?_; refine Zq ?_; refine ZR ?_; refine EE.ret _ rfl rfl ?_
    exact ⟨rfl, q⟩
  · refine X.fn Tryd.func34 rfl (n := 45) rfl rfl ?_
    refine Zr ?_
    refine LL.box [.int .i64 k, .int .i64 l, .int .i64 z, .slice x n c, .int .i64 r, .int .i64 p, strV t] rfl rfl rfl rfl rfl ?_
    intro Wg2 gg3 egg3 rg4 zg5 bg1
    replace q := Zu q bg1; refine Za ?_; refine Zq ?_; refine Zc ?_; refine Zr ?_; refine Zm ?_; refine Zt ?_; refine Zm ?_; refine Zs ?_; refine Zs ?_; refine Zs ?_; refine Zs ?_; refine Zs ?_; refine Zs ?_; refine Zs ?_; refine Zs ?_; refine Zs ?_; refine Zp ?_; refine Zm ?_; refine Zm ?_; refine Zt ?_; refine Zm ?_; refine Zs ?_; refine Zs ?_; refine Zs ?_; refine Zs ?_; refine Zs ?_; refine Zs ?_
    refine Zs ?_; refine Zs ?_; refine Zp ?_; refine Zp ?_; refine Zm ?_; refine Zm ?_; refine Zt ?_; refine Zm ?_; refine Zs ?_; refine Zs ?_; refine Zs ?_; refine Zp ?_; refine Zp ?_; refine Zq ?_; refine ZN ?_; refine ZK ?_; refine ZT ?_; refine Zr ?_; refine Za ?_; refine Zq ?_; refine ZR ?_; refine EE.ret _ rfl rfl ?_
    exact ⟨rfl, q⟩
theorem zero_F (k l z : Int) (x : Option Addr) (n c : Nat) (r p : Int) (t : Bs) (f d li : Bool) (w : World) (hn : n ≤ 9223372036854775807) (h : ¬zeroOk f d li z n r p t) : Calls Tryd.prog 34 #[inV k l z (.slice x n c) r p t, .bool f, .bool d, .bool li] w fun e w' => e = .returned (.bool false) ∧ Below w.heap.size w w' := by
  have q := Below.refl w.heap.size w
  by_cases hF : f = true ∨ z = 0 ∧ n = 0
  · by_cases hD : d = true ∨ r = 0 ∧ p = 0
    · have hL : li = false ∧ t ≠ [] := by
        refine ⟨?_, fun e => h ⟨hF, hD, .inr e⟩⟩
        cases li with
        | false => rfl
        | true => exact absurd ⟨hF, hD, .inl rfl⟩ h
      obtain ⟨rfl, hL⟩ := hL
      clear h
      cases f <;> cases d <;> simp only [true_or, false_or, Bool.false_eq_true, reduceCtorEq] at hF hD
      all_goals (try (obtain ⟨hz0, hn0⟩ := hF; subst hz0 hn0))
      all_goals (try (obtain ⟨hr0, hp0⟩ := hD; subst hr0 hp0))
      · refine X.fn Tryd.func34 rfl (n := 45) rfl rfl ?_
        refine Zr ?_
        refine LL.box [.int .i64 k, .int .i64 l, .int .i64 0, .slice x 0 c, .int .i64 0, .int .i64 0, strV t] rfl rfl rfl rfl rfl ?_
        intro W2 g3 eg3 r4 z5 b1
        replace q := Zu q b1; refine Za ?_; refine Zq ?_; refine Zc ?_; refine Zr ?_; refine Zm ?_; refine Zt ?_; refine Zm ?_; refine Zf ?_; refine Zl r4 ?_; refine ZneF ?_; refine Zm ?_; refine Zf ?_; refine Zl r4 ?_; refine Zn ?_; refine ZneF ?_; refine Zp ?_; refine Zp ?_; refine Zm ?_; refine Zm ?_; refine Zt ?_; refine Zm ?_; refine Zf ?_; refine Zl r4 ?_; refine ZneF ?_; refine Zm ?_; refine Zf ?_
        refine Zl r4 ?_; refine ZneF ?_; refine Zp ?_; refine Zp ?_; refine Zp ?_; refine Zm ?_; refine Zm ?_; refine Zt ?_; refine Zm ?_; refine Zf ?_; refine Zl r4 ?_
        refine LL.val (R.neS (a := t) (b := []) (c := true) rfl rfl rfl (by simp [hL])) rfl rfl rfl ?_
        refine Zp ?_; refine Zp ?_; refine Zq ?_; refine ZY ?_; refine Zr ?_; refine Za ?_; refine Zq ?_; refine ZR ?_; refine EE.thenR ?_; refine EE.ret _ rfl rfl ?_
        exact ⟨rfl, q⟩
      · refine X.fn Tryd.func34 rfl (n := 45) rfl rfl ?_
        refine Zr ?_
        refine LL.box [.int .i64 k, .int .i64 l, .int .i64 0, .slice x 0 c, .int .i64 r, .int .i64 p, strV t] rfl rfl rfl rfl rfl ?_
        intro Wa2 ga3 ega3 ra4 za5 ba1
        replace q := Zu q ba1; refine Za ?_; refine Zq ?_; refine Zc ?_; refine Zr ?_; refine Zm ?_; refine Zt ?_; refine Zm ?_; refine Zf ?_; refine Zl ra4 ?_; refine ZneF ?_; refine Zm ?_; refine Zf ?_; refine Zl ra4 ?_; refine Zn ?_; refine ZneF ?_; refine Zp ?_; refine Zp ?_; refine Zm ?_; refine Zm ?_; refine Zt ?_; refine Zm ?_; refine Zs ?_; refine Zs ?_; refine Zs ?_; refine Zs ?_; refine Zs ?_
        refine Zs ?_; refine Zs ?_; refine Zs ?_; refine Zp ?_; refine Zp ?_; refine Zm ?_; refine Zm ?_; refine Zt ?_; refine Zm ?_; refine Zf ?_; refine Zl ra4 ?_
        refine LL.val (R.neS (a := t) (b := []) (c := true) rfl rfl rfl (by simp [hL])) rfl rfl rfl ?_
        refine Zp ?_; refine Zp ?_; refine Zq ?_; refine ZY ?_; refine Zr ?_; refine Za ?_; refine Zq ?_; refine ZR ?_; refine EE.thenR ?_; refine EE.ret _ rfl rfl ?_
        exact ⟨rfl, q⟩
      · refine X.fn Tryd.func34 rfl (n := 45) rfl rfl ?_
        refine Zr ?_
        refine LL.box [.int .i64 k, .int .i64 l, .int .i64 z, .slice x n c, .int .i64 0, .int .i64 0, strV t] rfl rfl rfl rfl rfl ?_
        intro Wb2 gb3 egb3 rb4 zb5 bb1
        replace q := Zu q bb1; refine Za ?_; refine Zq ?_; refine Zc ?_; refine Zr ?_; refine Zm ?_; refine Zt ?_; refine Zm ?_; refine Zs ?_; refine Zs ?_; refine Zs ?_; refine Zs ?_; refine Zs ?_; refine Zs ?_; refine Zs ?_; refine Zs ?_; refine Zs ?_; refine Zp ?_; refine Zm ?_; refine Zm ?_; refine Zt ?_; refine Zm ?_; refine Zf ?_; refine Zl rb4 ?_; refine ZneF ?_; refine Zm ?_; refine Zf ?_; refine Zl rb4 ?_
        refine ZneF ?_; refine Zp ?_; refine Zp ?_; refine Zp ?_; refine Zm ?_; refine Zm ?_; refine Zt ?_; refine Zm ?_; refine Zf ?_; refine Zl rb4 ?_
        refine LL.val (R.neS (a := t) (b := []) (c := true) rfl rfl rfl (by simp [hL])) rfl rfl rfl ?_
        refine Zp ?_; refine Zp ?_; refine Zq ?_; refine ZY ?_; refine Zr ?_; refine Za ?_; refine Zq ?_; refine ZR ?_; refine EE.thenR ?_; refine EE.ret _ rfl rfl ?_
        exact ⟨rfl, q⟩
      · refine X.fn Tryd.func34 rfl (n := 45) rfl rfl ?_
        refine Zr ?_
        refine LL.box [.int .i64 k, .int .i64 l, .int .i64 z, .slice x n c, .int .i64 r, .int .i64 p, strV t] rfl rfl rfl rfl rfl ?_
        intro Wc2 gc3 egc3 rc4 zc5 bc1
        replace q := Zu q bc1; refine Za ?_; refine Zq ?_; refine Zc ?_; refine Zr ?_; refine Zm ?_; refine Zt ?_; refine Zm ?_; refine Zs ?_; refine Zs ?_; refine Zs ?_; refine Zs ?_; refine Zs ?_; refine Zs ?_; refine Zs ?_; refine Zs ?_; refine Zs ?_; refine Zp ?_; refine Zm ?_; refine Zm ?_; refine Zt ?_; refine Zm ?_; refine Zs ?_; refine Zs ?_; refine Zs ?_; refine Zs ?_; refine Zs ?_; refine Zs ?_
        refine Zs ?_; refine Zs ?_; refine Zp ?_; refine Zp ?_; refine Zm ?_; refine Zm ?_; refine Zt ?_; refine Zm ?_; refine Zf ?_; refine Zl rc4 ?_
        refine LL.val (R.neS (a := t) (b := []) (c := true) rfl rfl rfl (by simp [hL])) rfl rfl rfl ?_
        refine Zp ?_; refine Zp ?_; refine Zq ?_; refine ZY ?_; refine Zr ?_; refine Za ?_; refine Zq ?_; refine ZR ?_; refine EE.thenR ?_; refine EE.ret _ rfl rfl ?_
        exact ⟨rfl, q⟩
    · have hd : d = false := by
        cases d with
        | false => rfl
        | true => exact absurd (.inl rfl) hD
      subst hd
      have hrp : ¬(r = 0 ∧ p = 0) := fun e => hD (.inr e)
      clear h hD
      cases f <;> simp only [true_or, false_or, Bool.false_eq_true, reduceCtorEq] at hF
      all_goals (try (obtain ⟨hz0, hn0⟩ := hF; subst hz0 hn0))
      · by_cases hr0 : r = 0
        · subst hr0
          have hp0 : p ≠ 0 := fun e => hrp ⟨rfl, e⟩
          refine X.fn Tryd.func34 rfl (n := 45) rfl rfl ?_
          refine Zr ?_
          refine LL.box [.int .i64 k, .int .i64 l, .int .i64 0, .slice x 0 c, .int .i64 0, .int .i64 p, strV t] rfl rfl rfl rfl rfl ?_
          intro Wd2 gd3 egd3 rd4 zd5 bd1
          replace q := Zu q bd1; refine Za ?_; refine Zq ?_; refine Zc ?_; refine Zr ?_; refine Zm ?_; refine Zt ?_; refine Zm ?_; refine Zf ?_; refine Zl rd4 ?_; refine ZneF ?_; refine Zm ?_; refine Zf ?_; refine Zl rd4 ?_; refine Zn ?_; refine ZneF ?_; refine Zp ?_; refine Zp ?_; refine Zm ?_; refine Zm ?_; refine Zt ?_; refine Zm ?_; refine Zf ?_; refine Zl rd4 ?_; refine ZneF ?_; refine Zm ?_; refine Zf ?_
          refine Zl rd4 ?_; refine ZneT ?_; refine Zp ?_; refine Zp ?_; refine Zp ?_; refine Zm ?_; refine Zs ?_; refine Zs ?_; refine Zs ?_; refine Zs ?_; refine Zs ?_; refine Zs ?_; refine Zs ?_; refine Zp ?_; refine Zq ?_; refine ZY ?_; refine Zr ?_; refine Za ?_; refine Zq ?_; refine ZR ?_; refine EE.thenR ?_; refine EE.ret _ rfl rfl ?_
          exact ⟨rfl, q⟩
        · refine X.fn Tryd.func34 rfl (n := 45) rfl rfl ?_
          refine Zr ?_
          refine LL.box [.int .i64 k, .int .i64 l, .int .i64 0, .slice x 0 c, .int .i64 r, .int .i64 p, strV t] rfl rfl rfl rfl rfl ?_
          intro We2 ge3 ege3 re4 ze5 be1
          replace q := Zu q be1; refine Za ?_; refine Zq ?_; refine Zc ?_; refine Zr ?_; refine Zm ?_; refine Zt ?_; refine Zm ?_; refine Zf ?_; refine Zl re4 ?_; refine ZneF ?_; refine Zm ?_; refine Zf ?_; refine Zl re4 ?_; refine Zn ?_; refine ZneF ?_; refine Zp ?_; refine Zp ?_; refine Zm ?_; refine Zm ?_; refine Zt ?_; refine Zm ?_; refine Zf ?_; refine Zl re4 ?_; refine ZneT ?_; refine Zm ?_; refine Zs ?_
          refine Zs ?_; refine Zs ?_; refine Zp ?_; refine Zp ?_; refine Zp ?_; refine Zm ?_; refine Zs ?_; refine Zs ?_; refine Zs ?_; refine Zs ?_; refine Zs ?_; refine Zs ?_; refine Zs ?_; refine Zp ?_; refine Zq ?_; refine ZY ?_; refine Zr ?_; refine Za ?_; refine Zq ?_; refine ZR ?_; refine EE.thenR ?_; refine EE.ret _ rfl rfl ?_
          exact ⟨rfl, q⟩
      · by_cases hr0 : r = 0
        · subst hr0
          have hp0 : p ≠ 0 := fun e => hrp ⟨rfl, e⟩
          refine X.fn Tryd.func34 rfl (n := 45) rfl rfl ?_
          refine Zr ?_
          refine LL.box [.int .i64 k, .int .i64 l, .int .i64 z, .slice x n c, .int .i64 0, .int .i64 p, strV t] rfl rfl rfl rfl rfl ?_
          intro Wf2 gf3 egf3 rf4 zf5 bf1
          replace q := Zu q bf1; refine Za ?_; refine Zq ?_; refine Zc ?_; refine Zr ?_; refine Zm ?_; refine Zt ?_; refine Zm ?_; refine Zs ?_; refine Zs ?_; refine Zs ?_; refine Zs ?_; refine Zs ?_; refine Zs ?_; refine Zs ?_; refine Zs ?_; refine Zs ?_; refine Zp ?_; refine Zm ?_; refine Zm ?_; refine Zt ?_; refine Zm ?_; refine Zf ?_; refine Zl rf4 ?_; refine ZneF ?_; refine Zm ?_; refine Zf ?_
          refine Zl rf4 ?_; refine ZneT ?_; refine Zp ?_; refine Zp ?_; refine Zp ?_; refine Zm ?_; refine Zs ?_; refine Zs ?_; refine Zs ?_; refine Zs ?_; refine Zs ?_; refine Zs ?_; refine Zs ?_; refine Zp ?_; refine Zq ?_; refine ZY ?_; refine Zr ?_; refine Za ?_; refine Zq ?_; refine ZR ?_; refine EE.thenR ?_; refine EE.ret _ rfl rfl ?_
          exact ⟨rfl, q⟩
        · refine X.fn Tryd.func34 rfl (n := 45) rfl rfl ?_
          refine Zr ?_
          refine LL.box [.int .i64 k, .int .i64 l, .int .i64 z, .slice x n c, .int .i64 r, .int .i64 p, strV t] rfl rfl rfl rfl rfl ?_
          intro Wg2 gg3 egg3 rg4 zg5 bg1
          replace q := Zu q bg1; refine Za ?_; refine Zq ?_; refine Zc ?_; refine Zr ?_; refine Zm ?_; refine Zt ?_; refine Zm ?_; refine Zs ?_; refine Zs ?_; refine Zs ?_; refine Zs ?_; refine Zs ?_; refine Zs ?_; refine Zs ?_; refine Zs ?_; refine Zs ?_; refine Zp ?_; refine Zm ?_; refine Zm ?_; refine Zt ?_; refine Zm ?_; refine Zf ?_; refine Zl rg4 ?_; refine ZneT ?_; refine Zm ?_; refine Zs ?_
          refine Zs ?_; refine Zs ?_; refine Zp ?_; refine Zp ?_; refine Zp ?_; refine Zm ?_; refine Zs ?_; refine Zs ?_; refine Zs ?_; refine Zs ?_; refine Zs ?_; refine Zs ?_; refine Zs ?_; refine Zp ?_; refine Zq ?_; refine ZY ?_; refine Zr ?_; refine Za ?_; refine Zq ?_; refine ZR ?_; refine EE.thenR ?_; refine EE.ret _ rfl rfl ?_
          exact ⟨rfl, q⟩
  · have hf : f = false := by
      cases f with
      | false => rfl
      | true => exact absurd (.inl rfl) hF
    subst hf
    have hzn : ¬(z = 0 ∧ n = 0) := fun e => hF (.inr e)
    clear h hF
    by_cases hz0 : z = 0
    · subst hz0
      have hn0 : n ≠ 0 := fun e => hzn ⟨rfl, e⟩
      refine X.fn Tryd.func34 rfl (n := 45) rfl rfl ?_
      refine Zr ?_
      refine LL.box [.int .i64 k, .int .i64 l, .int .i64 0, .slice x n c, .int .i64 r, .int .i64 p, strV t] rfl rfl rfl rfl rfl ?_
      intro Wh2 gh3 egh3 rh4 zh5 bh1
      replace q := Zu q bh1; refine Za ?_; refine Zq ?_; refine Zc ?_; refine Zr ?_; refine Zm ?_; refine Zt ?_; refine Zm ?_; refine Zf ?_; refine Zl rh4 ?_; refine ZneF ?_; refine Zm ?_; refine Zf ?_; refine Zl rh4 ?_; refine Zn ?_; refine ZneT ?_; refine Zp ?_; refine Zp ?_; refine Zm ?_; refine Zs ?_; refine Zs ?_; refine Zs ?_; refine Zs ?_; refine Zs ?_; refine Zs ?_; refine Zs ?_; refine Zs ?_
      refine Zs ?_; refine Zs ?_; refine Zs ?_; refine Zs ?_; refine Zp ?_; refine Zm ?_; refine Zs ?_; refine Zs ?_; refine Zs ?_; refine Zs ?_; refine Zs ?_; refine Zs ?_; refine Zs ?_; refine Zp ?_; refine Zq ?_; refine ZY ?_; refine Zr ?_; refine Za ?_; refine Zq ?_; refine ZR ?_; refine EE.thenR ?_; refine EE.ret _ rfl rfl ?_
      exact ⟨rfl, q⟩
    · refine X.fn Tryd.func34 rfl (n := 45) rfl rfl ?_
      refine Zr ?_
      refine LL.box [.int .i64 k, .int .i64 l, .int .i64 z, .slice x n c, .int .i64 r, .int .i64 p, strV t] rfl rfl rfl rfl rfl ?_
      intro Wi2 gi3 egi3 ri4 zi5 bi1
      replace q := Zu q bi1; refine Za ?_; refine Zq ?_; refine Zc ?_; refine Zr ?_; refine Zm ?_; refine Zt ?_; refine Zm ?_; refine Zf ?_; refine Zl ri4 ?_; refine ZneT ?_; refine Zm ?_; refine Zs ?_; refine Zs ?_; refine Zs ?_; refine Zs ?_; refine Zp ?_; refine Zp ?_; refine Zm ?_; refine Zs ?_; refine Zs ?_; refine Zs ?_; refine Zs ?_; refine Zs ?_; refine Zs ?_; refine Zs ?_; refine Zs ?_; refine Zs ?_
      refine Zs ?_; refine Zs ?_; refine Zs ?_; refine Zp ?_; refine Zm ?_; refine Zs ?_; refine Zs ?_; refine Zs ?_; refine Zs ?_; refine Zs ?_; refine Zs ?_; refine Zs ?_; refine Zp ?_; refine Zq ?_; refine ZY ?_; refine Zr ?_; refine Za ?_; refine Zq ?_; refine ZR ?_; refine EE.thenR ?_; refine EE.ret _ rfl rfl ?_
      exact ⟨rfl, q⟩
theorem plain_any (t : Bs) (w : World) (ht : t.length ≤ 9223372036854775807) (b : Bool) (hb : b = decide ((0 : UInt8) ∉ t)) : Calls Tryd.prog 36 #[strV t] w fun e w' => e = .returned (.bool b) ∧ w = w' := by
  refine X.fn Tryd.func36 rfl (n := 14) rfl rfl ?_
  refine Zr ?_; refine Za ?_; refine Zq ?_; refine Zc ?_; refine Zr ?_; refine Za ?_; refine Zq ?_; refine CC.block ?_
  refine CC.loop (α := Nat) (fun i => [(0, strV t), (2, .bool false), (3, .int .i64 (i : Int))]) (fun i wr => i ≤ t.length ∧ (∀ j, j < i → t[j]? ≠ some 0) ∧ w = wr) (fun i => t.length - i) 0 ⟨rfl, rfl, rfl, trivial⟩ ⟨by omega, fun j h => by omega, rfl⟩ ?_
  rintro i wr ⟨hi, hno, rfl⟩
  by_cases hlt : i < t.length
  · obtain ⟨cc, hcc⟩ : ∃ cc, t[i]? = some cc := ⟨_, List.getElem?_eq_getElem hlt⟩
    by_cases hz : cc = 0
    · have hmem : (0 : UInt8) ∈ t := hz ▸ List.mem_of_getElem? hcc
      have hcn : cc.toNat = 0 := by rw [hz]; rfl
      rw [decide_eq_false (fun h => h hmem)] at hb
      subst hb
      refine Zc ?_; refine Zr ?_; refine Zm ?_; refine Zm ?_
      refine LL.val (R.lenS rfl rfl rfl rfl) rfl rfl rfl ?_
      refine ZltT ?_; refine Zq ?_; refine ZY ?_; refine ZK ?_; refine ZT ?_; refine Zc ?_; refine CC.block ?_; refine Zr ?_; refine Zm ?_; refine Zm ?_
      refine LL.val (R.ixS rfl rfl rfl rfl hcc) rfl rfl rfl ?_
      refine ZeqT ?_; refine Zq ?_; refine ZY ?_; refine Zr ?_; refine Za ?_; refine Zq ?_; refine ZR ?_; refine EE.inR ?_; refine EE.thenR ?_; refine EE.thenR ?_; refine EE.inR ?_; refine EE.thenR ?_; refine EE.ret _ rfl rfl ?_
      exact ⟨rfl, rfl⟩
    · have hcn : cc.toNat ≠ 0 := fun e => hz (UInt8.toNat_inj.1 e)
      refine Zc ?_; refine Zr ?_; refine Zm ?_; refine Zm ?_
      refine LL.val (R.lenS rfl rfl rfl rfl) rfl rfl rfl ?_
      refine ZltT ?_; refine Zq ?_; refine ZY ?_; refine ZK ?_; refine ZT ?_; refine Zc ?_; refine CC.block ?_; refine Zr ?_; refine Zm ?_; refine Zm ?_
      refine LL.val (R.ixS rfl rfl rfl rfl hcc) rfl rfl rfl ?_
      refine ZeqF ?_; refine Zq ?_; refine ZN ?_; refine ZK ?_; refine EE.inN ?_; refine ZT ?_; refine CC.region ?_; refine Zm ?_
      refine LL.val (R.addNc rfl rfl rfl rfl (by omega)) rfl rfl rfl ?_
      refine Za ?_; refine ZL ?_
      exact EE.round (i + 1) ⟨rfl, rfl, rfl, trivial⟩ ⟨by omega, fun j hj e => by rcases (by omega : j < i ∨ j = i) with h | rfl; exact hno j h e; rw [hcc] at e; exact hz (Option.some.inj e), rfl⟩ (by omega)
  · have hmem : (0 : UInt8) ∉ t := fun h => by
      obtain ⟨j, hj⟩ := List.getElem?_of_mem h
      have := (List.getElem?_eq_some_iff.1 hj).1
      exact hno j (by omega) hj
    rw [decide_eq_true hmem] at hb
    subst hb
    refine Zc ?_; refine Zr ?_; refine Zm ?_; refine Zm ?_
    refine LL.val (R.lenS rfl rfl rfl rfl) rfl rfl rfl ?_
    refine ZltF ?_; refine Zq ?_; refine ZN ?_; refine CC.exit ?_; refine EE.thenX ?_; refine EE.thenX ?_; refine EE.inX ?_; refine ZT ?_; refine Zr ?_; refine Za ?_; refine Zq ?_; refine ZR ?_; refine EE.ret _ rfl rfl ?_
    exact ⟨rfl, rfl⟩
theorem rcheck_0T (l : Int) (x : Option Addr) (c : Nat) (w : World) (hl : l = 0) : Calls Tryd.prog 15 #[inV 0 l 0 (.slice x 0 c) 0 0 []] w fun e w' => e = .returned (.int .i64 0) ∧ Below w.heap.size w w' := by
  have q := Below.refl w.heap.size w
  subst hl
  have hz0 := fun W => zero_T 0 0 0 x 0 c 0 0 [] false false false W (by omega) ⟨.inr ⟨rfl, rfl⟩, .inr ⟨rfl, rfl⟩, .inr rfl⟩
  refine X.fn Tryd.func15 rfl (n := 130) rfl rfl ?_
  refine Zr ?_
  refine LL.box [.int .i64 0, .int .i64 0, .int .i64 0, .slice x 0 c, .int .i64 0, .int .i64 0, strV []] rfl rfl rfl rfl rfl ?_
  intro W2 g3 eg3 r4 z5 b1
  replace q := Zu q b1; refine Za ?_; refine Zq ?_; refine Zr ?_; refine Zf ?_; refine Zl r4 ?_; refine Za ?_; refine Zq ?_; refine Zr ?_; refine Zm ?_; refine ZgeT ?_; refine Zm ?_; refine Zm ?_; refine ZleT ?_; refine Zp ?_; refine Zm ?_; refine Zf ?_; refine Zl r4 ?_; refine ZgeT ?_; refine Zp ?_; refine Zm ?_; refine Zf ?_; refine Zl r4 ?_; refine ZleT ?_; refine Zp ?_; refine Zm ?_; refine Zv r4 ?_
  refine Zm ?_; refine ZeqF ?_; refine Zm ?_; refine ZeqF ?_; refine Zm ?_; refine ZeqF ?_
  refine Zy (R.call rfl rfl rfl) (hz0 _) ?_
  rintro e W7 ⟨rfl, b6⟩
  refine ⟨_, rfl, ?_⟩; have zb6 := b6.size; replace r4 := r4.up b6; replace b1 := Zu b1 b6; replace q := Zu q b6; refine Zp ?_; refine Za ?_; refine Zq ?_; refine Zc ?_; refine Zr ?_; refine Zm ?_; refine Zq ?_; refine CC.block ?_; refine Zr ?_; refine ZeqT ?_; refine Za ?_; refine Zq ?_; refine ZY ?_; refine CC.region ?_; refine Zm ?_; refine Zm ?_; refine Zf ?_; refine Zl r4 ?_; refine ZeqT ?_; refine Zp ?_
  refine Za ?_; refine ZL ?_; refine EE.inN ?_; refine ZT ?_; refine Zc ?_; refine Zr ?_; refine Zm ?_; refine Zt ?_; refine Zq ?_; refine ZN ?_; refine ZK ?_; refine ZT ?_; refine Zr ?_; refine Za ?_; refine Zq ?_; refine ZR ?_; refine EE.ret _ rfl rfl ?_
  exact ⟨rfl, q⟩
theorem rcheck_2T (l : Int) (x : Option Addr) (c : Nat) (r p : Int) (w : World) (hl : 0 ≤ l ∧ l ≤ 65535) (hr : 1 ≤ r ∧ r ≤ 2047) (hp : 1 ≤ p ∧ p ≤ 256) : Calls Tryd.prog 15 #[inV 2 l 0 (.slice x 0 c) r p []] w fun e w' => e = .returned (.int .i64 0) ∧ Below w.heap.size w w' := by
  have q := Below.refl w.heap.size w
  have hz0 := fun W => zero_T 2 l 0 x 0 c r p [] false true false W (by omega) ⟨.inr ⟨rfl, rfl⟩, .inl rfl, .inr rfl⟩
  refine X.fn Tryd.func15 rfl (n := 130) rfl rfl ?_
  refine Zr ?_
  refine LL.box [.int .i64 2, .int .i64 l, .int .i64 0, .slice x 0 c, .int .i64 r, .int .i64 p, strV []] rfl rfl rfl rfl rfl ?_
  intro W2 g3 eg3 r4 z5 b1
  replace q := Zu q b1; refine Za ?_; refine Zq ?_; refine Zr ?_; refine Zf ?_; refine Zl r4 ?_; refine Za ?_; refine Zq ?_; refine Zr ?_; refine Zm ?_; refine ZgeT ?_; refine Zm ?_; refine Zm ?_; refine ZleT ?_; refine Zp ?_; refine Zm ?_; refine Zf ?_; refine Zl r4 ?_; refine ZgeT ?_; refine Zp ?_; refine Zm ?_; refine Zf ?_; refine Zl r4 ?_; refine ZleT ?_; refine Zp ?_; refine Zm ?_; refine Zv r4 ?_
  refine Zm ?_; refine ZeqF ?_; refine Zm ?_; refine ZeqT ?_; refine Zm ?_; refine ZeqF ?_
  refine Zy (R.call rfl rfl rfl) (hz0 _) ?_
  rintro e W7 ⟨rfl, b6⟩
  refine ⟨_, rfl, ?_⟩; have zb6 := b6.size; replace r4 := r4.up b6; replace b1 := Zu b1 b6; replace q := Zu q b6; refine Zp ?_; refine Za ?_; refine Zq ?_; refine Zc ?_; refine Zr ?_; refine Zm ?_; refine Zq ?_; refine CC.block ?_; refine Zr ?_; refine ZeqF ?_; refine Za ?_; refine Zq ?_; refine ZN ?_; refine Zr ?_; refine ZeqF ?_; refine Za ?_; refine Zq ?_; refine ZN ?_; refine Zr ?_; refine ZeqT ?_
  refine Za ?_; refine Zq ?_; refine ZY ?_; refine CC.region ?_; refine Zm ?_; refine Zm ?_; refine Zf ?_; refine Zl r4 ?_; refine ZgeT ?_; refine Zp ?_; refine Zm ?_; refine Zf ?_; refine Zl r4 ?_; refine ZleT ?_; refine Zp ?_; refine Zm ?_; refine Zf ?_; refine Zl r4 ?_; refine ZgeT ?_; refine Zp ?_; refine Zm ?_; refine Zf ?_; refine Zl r4 ?_; refine ZleT ?_; refine Zp ?_; refine Za ?_; refine ZL ?_
  refine EE.inN ?_; refine ZT ?_; refine Zc ?_; refine Zr ?_; refine Zm ?_; refine Zt ?_; refine Zq ?_; refine ZN ?_; refine ZK ?_; refine ZT ?_; refine Zr ?_; refine Za ?_; refine Zq ?_; refine ZR ?_; refine EE.ret _ rfl rfl ?_
  exact ⟨rfl, q⟩
theorem rcheck_3T (l : Int) (x : Option Addr) (c : Nat) (t : Bs) (w : World) (hl : 0 ≤ l ∧ l ≤ 65535) (ht : 1 ≤ t.length ∧ t.length ≤ 112) (h0 : (0 : UInt8) ∉ t) : Calls Tryd.prog 15 #[inV 3 l 0 (.slice x 0 c) 0 0 t] w fun e w' => e = .returned (.int .i64 0) ∧ Below w.heap.size w w' := by
  have q := Below.refl w.heap.size w
  have hz0 := fun W => zero_T 3 l 0 x 0 c 0 0 t false false true W (by omega) ⟨.inr ⟨rfl, rfl⟩, .inr ⟨rfl, rfl⟩, .inl rfl⟩
  have hpl := fun W => plain_any t W (by omega) true (decide_eq_true h0).symm
  refine X.fn Tryd.func15 rfl (n := 130) rfl rfl ?_
  refine Zr ?_
  refine LL.box [.int .i64 3, .int .i64 l, .int .i64 0, .slice x 0 c, .int .i64 0, .int .i64 0, strV t] rfl rfl rfl rfl rfl ?_
  intro W2 g3 eg3 r4 z5 b1
  replace q := Zu q b1; refine Za ?_; refine Zq ?_; refine Zr ?_; refine Zf ?_; refine Zl r4 ?_; refine Za ?_; refine Zq ?_; refine Zr ?_; refine Zm ?_; refine ZgeT ?_; refine Zm ?_; refine Zm ?_; refine ZleT ?_; refine Zp ?_; refine Zm ?_; refine Zf ?_; refine Zl r4 ?_; refine ZgeT ?_; refine Zp ?_; refine Zm ?_; refine Zf ?_; refine Zl r4 ?_; refine ZleT ?_; refine Zp ?_; refine Zm ?_; refine Zv r4 ?_
  refine Zm ?_; refine ZeqF ?_; refine Zm ?_; refine ZeqF ?_; refine Zm ?_; refine ZeqT ?_
  refine Zy (R.call rfl rfl rfl) (hz0 _) ?_
  rintro e W7 ⟨rfl, b6⟩
  refine ⟨_, rfl, ?_⟩; have zb6 := b6.size; replace r4 := r4.up b6; replace b1 := Zu b1 b6; replace q := Zu q b6; refine Zp ?_; refine Za ?_; refine Zq ?_; refine Zc ?_; refine Zr ?_; refine Zm ?_; refine Zq ?_; refine CC.block ?_; refine Zr ?_; refine ZeqF ?_; refine Za ?_; refine Zq ?_; refine ZN ?_; refine Zr ?_; refine ZeqF ?_; refine Za ?_; refine Zq ?_; refine ZN ?_; refine Zr ?_; refine ZeqF ?_
  refine Za ?_; refine Zq ?_; refine ZN ?_; refine Zr ?_; refine ZeqT ?_; refine Za ?_; refine Zq ?_; refine ZY ?_; refine CC.region ?_; refine Zm ?_; refine Zm ?_; refine Zf ?_; refine Zl r4 ?_
  refine LL.val (R.lenS rfl rfl rfl rfl) rfl rfl rfl ?_
  refine ZgeT ?_; refine Zp ?_; refine Zm ?_; refine Zf ?_; refine Zl r4 ?_
  refine LL.val (R.lenS rfl rfl rfl rfl) rfl rfl rfl ?_
  refine ZleT ?_; refine Zp ?_; refine Zm ?_; refine Zf ?_; refine Zl r4 ?_
  refine Zy (R.call rfl rfl rfl) (hpl _) ?_
  rintro e W' ⟨rfl, rfl⟩
  refine ⟨_, rfl, ?_⟩; refine Zp ?_; refine Za ?_; refine ZL ?_; refine EE.inN ?_; refine ZT ?_; refine Zc ?_; refine Zr ?_; refine Zm ?_; refine Zt ?_; refine Zq ?_; refine ZN ?_; refine ZK ?_; refine ZT ?_; refine Zr ?_; refine Za ?_; refine Zq ?_; refine ZR ?_; refine EE.ret _ rfl rfl ?_
  exact ⟨rfl, q⟩
theorem rcheck_kF (k l z : Int) (x : Option Addr) (n c : Nat) (r p : Int) (t : Bs) (w : World) (hk : k < 0 ∨ 3 < k) : Calls Tryd.prog 15 #[inV k l z (.slice x n c) r p t] w fun e w' => e = .returned (.int .i64 240) ∧ Below w.heap.size w w' := by
  have q := Below.refl w.heap.size w
  by_cases hA : k < 0
  · refine X.fn Tryd.func15 rfl (n := 130) rfl rfl ?_
    refine Zr ?_
    refine LL.box [.int .i64 k, .int .i64 l, .int .i64 z, .slice x n c, .int .i64 r, .int .i64 p, strV t] rfl rfl rfl rfl rfl ?_
    intro W2 g3 eg3 r4 z5 b1
    replace q := Zu q b1; refine Za ?_; refine Zq ?_; refine Zr ?_; refine Zf ?_; refine Zl r4 ?_; refine Za ?_; refine Zq ?_; refine Zr ?_; refine Zm ?_; refine ZgeF ?_; refine Zm ?_; refine Zs ?_; refine Zs ?_; refine Zp ?_; refine Zm ?_; refine Zs ?_; refine Zs ?_; refine Zs ?_; refine Zp ?_; refine Zm ?_; refine Zs ?_; refine Zs ?_; refine Zs ?_; refine Zp ?_; refine Zm ?_; refine Zs ?_; refine Zs ?_
    refine Zs ?_; refine Zs ?_; refine Zs ?_; refine Zs ?_; refine Zs ?_; refine Zs ?_; refine Zp ?_; refine Za ?_; refine Zq ?_; refine Zc ?_; refine Zr ?_; refine Zm ?_; refine Zq ?_; refine CC.block ?_; refine Zr ?_; refine ZeqF ?_; refine Za ?_; refine Zq ?_; refine ZN ?_; refine Zr ?_; refine ZeqF ?_; refine Za ?_; refine Zq ?_; refine ZN ?_; refine Zr ?_; refine ZeqF ?_; refine Za ?_; refine Zq ?_
    refine ZN ?_; refine Zr ?_; refine ZeqF ?_; refine Za ?_; refine Zq ?_; refine ZN ?_; refine ZK ?_; refine EE.inN ?_; refine ZT ?_; refine Zc ?_; refine Zr ?_; refine Zm ?_; refine Zt ?_; refine Zq ?_; refine ZY ?_; refine Zr ?_; refine Za ?_; refine Zq ?_; refine ZR ?_; refine EE.thenR ?_; refine EE.ret _ rfl rfl ?_
    exact ⟨rfl, q⟩
  · refine X.fn Tryd.func15 rfl (n := 130) rfl rfl ?_
    refine Zr ?_
    refine LL.box [.int .i64 k, .int .i64 l, .int .i64 z, .slice x n c, .int .i64 r, .int .i64 p, strV t] rfl rfl rfl rfl rfl ?_
    intro Wa2 ga3 ega3 ra4 za5 ba1
    replace q := Zu q ba1; refine Za ?_; refine Zq ?_; refine Zr ?_; refine Zf ?_; refine Zl ra4 ?_; refine Za ?_; refine Zq ?_; refine Zr ?_; refine Zm ?_; refine ZgeT ?_; refine Zm ?_; refine Zm ?_; refine ZleF ?_; refine Zp ?_; refine Zm ?_; refine Zs ?_; refine Zs ?_; refine Zs ?_; refine Zp ?_; refine Zm ?_; refine Zs ?_; refine Zs ?_; refine Zs ?_; refine Zp ?_; refine Zm ?_; refine Zs ?_; refine Zs ?_
    refine Zs ?_; refine Zs ?_; refine Zs ?_; refine Zs ?_; refine Zs ?_; refine Zs ?_; refine Zp ?_; refine Za ?_; refine Zq ?_; refine Zc ?_; refine Zr ?_; refine Zm ?_; refine Zq ?_; refine CC.block ?_; refine Zr ?_; refine ZeqF ?_; refine Za ?_; refine Zq ?_; refine ZN ?_; refine Zr ?_; refine ZeqF ?_; refine Za ?_; refine Zq ?_; refine ZN ?_; refine Zr ?_; refine ZeqF ?_; refine Za ?_; refine Zq ?_
    refine ZN ?_; refine Zr ?_; refine ZeqF ?_; refine Za ?_; refine Zq ?_; refine ZN ?_; refine ZK ?_; refine EE.inN ?_; refine ZT ?_; refine Zc ?_; refine Zr ?_; refine Zm ?_; refine Zt ?_; refine Zq ?_; refine ZY ?_; refine Zr ?_; refine Za ?_; refine Zq ?_; refine ZR ?_; refine EE.thenR ?_; refine EE.ret _ rfl rfl ?_
    exact ⟨rfl, q⟩
theorem rcheck_0F (l z : Int) (x : Option Addr) (n c : Nat) (r p : Int) (t : Bs) (w : World) (hn : n ≤ 9223372036854775807) (h : ¬(l = 0 ∧ zeroOk false false false z n r p t)) : Calls Tryd.prog 15 #[inV 0 l z (.slice x n c) r p t] w fun e w' => e = .returned (.int .i64 240) ∧ Below w.heap.size w w' := by
  have q := Below.refl w.heap.size w
  by_cases hA : l < 0
  · refine X.fn Tryd.func15 rfl (n := 130) rfl rfl ?_
    refine Zr ?_
    refine LL.box [.int .i64 0, .int .i64 l, .int .i64 z, .slice x n c, .int .i64 r, .int .i64 p, strV t] rfl rfl rfl rfl rfl ?_
    intro W2 g3 eg3 r4 z5 b1
    replace q := Zu q b1; refine Za ?_; refine Zq ?_; refine Zr ?_; refine Zf ?_; refine Zl r4 ?_; refine Za ?_; refine Zq ?_; refine Zr ?_; refine Zm ?_; refine ZgeT ?_; refine Zm ?_; refine Zm ?_; refine ZleT ?_; refine Zp ?_; refine Zm ?_; refine Zf ?_; refine Zl r4 ?_; refine ZgeF ?_; refine Zp ?_; refine Zm ?_; refine Zs ?_; refine Zs ?_; refine Zs ?_; refine Zp ?_; refine Zm ?_; refine Zs ?_
    refine Zs ?_; refine Zs ?_; refine Zs ?_; refine Zs ?_; refine Zs ?_; refine Zs ?_; refine Zs ?_; refine Zp ?_; refine Za ?_; refine Zq ?_; refine Zc ?_; refine Zr ?_; refine Zm ?_; refine Zq ?_; refine CC.block ?_; refine Zr ?_; refine ZeqT ?_; refine Za ?_; refine Zq ?_; refine ZY ?_; refine CC.region ?_; refine Zm ?_; refine Zm ?_; refine Zs ?_; refine Zs ?_; refine Zs ?_; refine Zp ?_; refine Za ?_
    refine ZL ?_; refine EE.inN ?_; refine ZT ?_; refine Zc ?_; refine Zr ?_; refine Zm ?_; refine Zt ?_; refine Zq ?_; refine ZY ?_; refine Zr ?_; refine Za ?_; refine Zq ?_; refine ZR ?_; refine EE.thenR ?_; refine EE.ret _ rfl rfl ?_
    exact ⟨rfl, q⟩
  by_cases hB : 65535 < l
  · refine X.fn Tryd.func15 rfl (n := 130) rfl rfl ?_
    refine Zr ?_
    refine LL.box [.int .i64 0, .int .i64 l, .int .i64 z, .slice x n c, .int .i64 r, .int .i64 p, strV t] rfl rfl rfl rfl rfl ?_
    intro Wa2 ga3 ega3 ra4 za5 ba1
    replace q := Zu q ba1; refine Za ?_; refine Zq ?_; refine Zr ?_; refine Zf ?_; refine Zl ra4 ?_; refine Za ?_; refine Zq ?_; refine Zr ?_; refine Zm ?_; refine ZgeT ?_; refine Zm ?_; refine Zm ?_; refine ZleT ?_; refine Zp ?_; refine Zm ?_; refine Zf ?_; refine Zl ra4 ?_; refine ZgeT ?_; refine Zp ?_; refine Zm ?_; refine Zf ?_; refine Zl ra4 ?_; refine ZleF ?_; refine Zp ?_; refine Zm ?_; refine Zs ?_
    refine Zs ?_; refine Zs ?_; refine Zs ?_; refine Zs ?_; refine Zs ?_; refine Zs ?_; refine Zs ?_; refine Zp ?_; refine Za ?_; refine Zq ?_; refine Zc ?_; refine Zr ?_; refine Zm ?_; refine Zq ?_; refine CC.block ?_; refine Zr ?_; refine ZeqT ?_; refine Za ?_; refine Zq ?_; refine ZY ?_; refine CC.region ?_; refine Zm ?_; refine Zm ?_; refine Zs ?_; refine Zs ?_; refine Zs ?_; refine Zp ?_; refine Za ?_
    refine ZL ?_; refine EE.inN ?_; refine ZT ?_; refine Zc ?_; refine Zr ?_; refine Zm ?_; refine Zt ?_; refine Zq ?_; refine ZY ?_; refine Zr ?_; refine Za ?_; refine Zq ?_; refine ZR ?_; refine EE.thenR ?_; refine EE.ret _ rfl rfl ?_
    exact ⟨rfl, q⟩
  by_cases hZ : zeroOk false false false z n r p t
  · have hz0 := fun W => zero_T 0 l z x n c r p t false false false W hn hZ
    have hl : l ≠ 0 := fun e => h ⟨e, hZ⟩
    clear h hZ
    refine X.fn Tryd.func15 rfl (n := 130) rfl rfl ?_
    refine Zr ?_
    refine LL.box [.int .i64 0, .int .i64 l, .int .i64 z, .slice x n c, .int .i64 r, .int .i64 p, strV t] rfl rfl rfl rfl rfl ?_
    intro Wb2 gb3 egb3 rb4 zb5 bb1
    replace q := Zu q bb1; refine Za ?_; refine Zq ?_; refine Zr ?_; refine Zf ?_; refine Zl rb4 ?_; refine Za ?_; refine Zq ?_; refine Zr ?_; refine Zm ?_; refine ZgeT ?_; refine Zm ?_; refine Zm ?_; refine ZleT ?_; refine Zp ?_; refine Zm ?_; refine Zf ?_; refine Zl rb4 ?_; refine ZgeT ?_; refine Zp ?_; refine Zm ?_; refine Zf ?_; refine Zl rb4 ?_; refine ZleT ?_; refine Zp ?_; refine Zm ?_; refine Zv rb4 ?_
    refine Zm ?_; refine ZeqF ?_; refine Zm ?_; refine ZeqF ?_; refine Zm ?_; refine ZeqF ?_
    refine Zy (R.call rfl rfl rfl) (hz0 _) ?_
    rintro e Wb7 ⟨rfl, bb6⟩
    refine ⟨_, rfl, ?_⟩; have zbb6 := bb6.size; replace rb4 := rb4.up bb6; replace bb1 := Zu bb1 bb6; replace q := Zu q bb6; refine Zp ?_; refine Za ?_; refine Zq ?_; refine Zc ?_; refine Zr ?_; refine Zm ?_; refine Zq ?_; refine CC.block ?_; refine Zr ?_; refine ZeqT ?_; refine Za ?_; refine Zq ?_; refine ZY ?_; refine CC.region ?_; refine Zm ?_; refine Zm ?_; refine Zf ?_; refine Zl rb4 ?_; refine ZeqF ?_
    refine Zp ?_; refine Za ?_; refine ZL ?_; refine EE.inN ?_; refine ZT ?_; refine Zc ?_; refine Zr ?_; refine Zm ?_; refine Zt ?_; refine Zq ?_; refine ZY ?_; refine Zr ?_; refine Za ?_; refine Zq ?_; refine ZR ?_; refine EE.thenR ?_; refine EE.ret _ rfl rfl ?_
    exact ⟨rfl, q⟩
  · have hz0 := fun W => zero_F 0 l z x n c r p t false false false W hn hZ
    clear h hZ
    refine X.fn Tryd.func15 rfl (n := 130) rfl rfl ?_
    refine Zr ?_
    refine LL.box [.int .i64 0, .int .i64 l, .int .i64 z, .slice x n c, .int .i64 r, .int .i64 p, strV t] rfl rfl rfl rfl rfl ?_
    intro Wc2 gc3 egc3 rc4 zc5 bc1
    replace q := Zu q bc1; refine Za ?_; refine Zq ?_; refine Zr ?_; refine Zf ?_; refine Zl rc4 ?_; refine Za ?_; refine Zq ?_; refine Zr ?_; refine Zm ?_; refine ZgeT ?_; refine Zm ?_; refine Zm ?_; refine ZleT ?_; refine Zp ?_; refine Zm ?_; refine Zf ?_; refine Zl rc4 ?_; refine ZgeT ?_; refine Zp ?_; refine Zm ?_; refine Zf ?_; refine Zl rc4 ?_; refine ZleT ?_; refine Zp ?_; refine Zm ?_; refine Zv rc4 ?_
    refine Zm ?_; refine ZeqF ?_; refine Zm ?_; refine ZeqF ?_; refine Zm ?_; refine ZeqF ?_
    refine Zy (R.call rfl rfl rfl) (hz0 _) ?_
    rintro e Wc7 ⟨rfl, bc6⟩
    refine ⟨_, rfl, ?_⟩; have zbc6 := bc6.size; replace rc4 := rc4.up bc6; replace bc1 := Zu bc1 bc6; replace q := Zu q bc6; refine Zp ?_; refine Za ?_; refine Zq ?_; refine Zc ?_; refine Zr ?_; refine Zm ?_; refine Zq ?_; refine CC.block ?_; refine Zr ?_; refine ZeqT ?_; refine Za ?_; refine Zq ?_; refine ZY ?_; refine CC.region ?_; refine Zm ?_; refine Zm ?_; refine Zs ?_; refine Zs ?_; refine Zs ?_
    refine Zp ?_; refine Za ?_; refine ZL ?_; refine EE.inN ?_; refine ZT ?_; refine Zc ?_; refine Zr ?_; refine Zm ?_; refine Zt ?_; refine Zq ?_; refine ZY ?_; refine Zr ?_; refine Za ?_; refine Zq ?_; refine ZR ?_; refine EE.thenR ?_; refine EE.ret _ rfl rfl ?_
    exact ⟨rfl, q⟩
theorem rcheck_2F (l z : Int) (x : Option Addr) (n c : Nat) (r p : Int) (t : Bs) (w : World) (hn : n ≤ 9223372036854775807) (h : ¬((0 ≤ l ∧ l ≤ 65535) ∧ zeroOk false true false z n r p t ∧ (1 ≤ r ∧ r ≤ 2047) ∧ 1 ≤ p ∧ p ≤ 256)) : Calls Tryd.prog 15 #[inV 2 l z (.slice x n c) r p t] w fun e w' => e = .returned (.int .i64 240) ∧ Below w.heap.size w w' := by
  have q := Below.refl w.heap.size w
  by_cases hA : l < 0
  · refine X.fn Tryd.func15 rfl (n := 130) rfl rfl ?_
    refine Zr ?_
    refine LL.box [.int .i64 2, .int .i64 l, .int .i64 z, .slice x n c, .int .i64 r, .int .i64 p, strV t] rfl rfl rfl rfl rfl ?_
    intro W2 g3 eg3 r4 z5 b1
    replace q := Zu q b1; refine Za ?_; refine Zq ?_; refine Zr ?_; refine Zf ?_; refine Zl r4 ?_; refine Za ?_; refine Zq ?_; refine Zr ?_; refine Zm ?_; refine ZgeT ?_; refine Zm ?_; refine Zm ?_; refine ZleT ?_; refine Zp ?_; refine Zm ?_; refine Zf ?_; refine Zl r4 ?_; refine ZgeF ?_; refine Zp ?_; refine Zm ?_; refine Zs ?_; refine Zs ?_; refine Zs ?_; refine Zp ?_; refine Zm ?_; refine Zs ?_
    refine Zs ?_; refine Zs ?_; refine Zs ?_; refine Zs ?_; refine Zs ?_; refine Zs ?_; refine Zs ?_; refine Zp ?_; refine Za ?_; refine Zq ?_; refine Zc ?_; refine Zr ?_; refine Zm ?_; refine Zq ?_; refine CC.block ?_; refine Zr ?_; refine ZeqF ?_; refine Za ?_; refine Zq ?_; refine ZN ?_; refine Zr ?_; refine ZeqF ?_; refine Za ?_; refine Zq ?_; refine ZN ?_; refine Zr ?_; refine ZeqT ?_; refine Za ?_
    refine Zq ?_; refine ZY ?_; refine CC.region ?_; refine Zm ?_; refine Zm ?_; refine Zs ?_; refine Zs ?_; refine Zs ?_; refine Zp ?_; refine Zm ?_; refine Zs ?_; refine Zs ?_; refine Zs ?_; refine Zp ?_; refine Zm ?_; refine Zs ?_; refine Zs ?_; refine Zs ?_; refine Zp ?_; refine Zm ?_; refine Zs ?_; refine Zs ?_; refine Zs ?_; refine Zp ?_; refine Za ?_; refine ZL ?_; refine EE.inN ?_; refine ZT ?_
    refine Zc ?_; refine Zr ?_; refine Zm ?_; refine Zt ?_; refine Zq ?_; refine ZY ?_; refine Zr ?_; refine Za ?_; refine Zq ?_; refine ZR ?_; refine EE.thenR ?_; refine EE.ret _ rfl rfl ?_
    exact ⟨rfl, q⟩
  by_cases hB : 65535 < l
  · refine X.fn Tryd.func15 rfl (n := 130) rfl rfl ?_
    refine Zr ?_
    refine LL.box [.int .i64 2, .int .i64 l, .int .i64 z, .slice x n c, .int .i64 r, .int .i64 p, strV t] rfl rfl rfl rfl rfl ?_
    intro Wa2 ga3 ega3 ra4 za5 ba1
    replace q := Zu q ba1; refine Za ?_; refine Zq ?_; refine Zr ?_; refine Zf ?_; refine Zl ra4 ?_; refine Za ?_; refine Zq ?_; refine Zr ?_; refine Zm ?_; refine ZgeT ?_; refine Zm ?_; refine Zm ?_; refine ZleT ?_; refine Zp ?_; refine Zm ?_; refine Zf ?_; refine Zl ra4 ?_; refine ZgeT ?_; refine Zp ?_; refine Zm ?_; refine Zf ?_; refine Zl ra4 ?_; refine ZleF ?_; refine Zp ?_; refine Zm ?_; refine Zs ?_
    refine Zs ?_; refine Zs ?_; refine Zs ?_; refine Zs ?_; refine Zs ?_; refine Zs ?_; refine Zs ?_; refine Zp ?_; refine Za ?_; refine Zq ?_; refine Zc ?_; refine Zr ?_; refine Zm ?_; refine Zq ?_; refine CC.block ?_; refine Zr ?_; refine ZeqF ?_; refine Za ?_; refine Zq ?_; refine ZN ?_; refine Zr ?_; refine ZeqF ?_; refine Za ?_; refine Zq ?_; refine ZN ?_; refine Zr ?_; refine ZeqT ?_; refine Za ?_
    refine Zq ?_; refine ZY ?_; refine CC.region ?_; refine Zm ?_; refine Zm ?_; refine Zs ?_; refine Zs ?_; refine Zs ?_; refine Zp ?_; refine Zm ?_; refine Zs ?_; refine Zs ?_; refine Zs ?_; refine Zp ?_; refine Zm ?_; refine Zs ?_; refine Zs ?_; refine Zs ?_; refine Zp ?_; refine Zm ?_; refine Zs ?_; refine Zs ?_; refine Zs ?_; refine Zp ?_; refine Za ?_; refine ZL ?_; refine EE.inN ?_; refine ZT ?_
    refine Zc ?_; refine Zr ?_; refine Zm ?_; refine Zt ?_; refine Zq ?_; refine ZY ?_; refine Zr ?_; refine Za ?_; refine Zq ?_; refine ZR ?_; refine EE.thenR ?_; refine EE.ret _ rfl rfl ?_
    exact ⟨rfl, q⟩
  by_cases hZ : zeroOk false true false z n r p t
  · have hz0 := fun W => zero_T 2 l z x n c r p t false true false W hn hZ
    have hl : ¬((1 ≤ r ∧ r ≤ 2047) ∧ 1 ≤ p ∧ p ≤ 256) := fun e => h ⟨by omega, hZ, e⟩
    clear h hZ
    by_cases hC : r < 1
    · refine X.fn Tryd.func15 rfl (n := 130) rfl rfl ?_
      refine Zr ?_
      refine LL.box [.int .i64 2, .int .i64 l, .int .i64 z, .slice x n c, .int .i64 r, .int .i64 p, strV t] rfl rfl rfl rfl rfl ?_
      intro Wb2 gb3 egb3 rb4 zb5 bb1
      replace q := Zu q bb1; refine Za ?_; refine Zq ?_; refine Zr ?_; refine Zf ?_; refine Zl rb4 ?_; refine Za ?_; refine Zq ?_; refine Zr ?_; refine Zm ?_; refine ZgeT ?_; refine Zm ?_; refine Zm ?_; refine ZleT ?_; refine Zp ?_; refine Zm ?_; refine Zf ?_; refine Zl rb4 ?_; refine ZgeT ?_; refine Zp ?_; refine Zm ?_; refine Zf ?_; refine Zl rb4 ?_; refine ZleT ?_; refine Zp ?_; refine Zm ?_; refine Zv rb4 ?_
      refine Zm ?_; refine ZeqF ?_; refine Zm ?_; refine ZeqT ?_; refine Zm ?_; refine ZeqF ?_
      refine Zy (R.call rfl rfl rfl) (hz0 _) ?_
      rintro e Wb7 ⟨rfl, bb6⟩
      refine ⟨_, rfl, ?_⟩; have zbb6 := bb6.size; replace rb4 := rb4.up bb6; replace bb1 := Zu bb1 bb6; replace q := Zu q bb6; refine Zp ?_; refine Za ?_; refine Zq ?_; refine Zc ?_; refine Zr ?_; refine Zm ?_; refine Zq ?_; refine CC.block ?_; refine Zr ?_; refine ZeqF ?_; refine Za ?_; refine Zq ?_; refine ZN ?_; refine Zr ?_; refine ZeqF ?_; refine Za ?_; refine Zq ?_; refine ZN ?_; refine Zr ?_
      refine ZeqT ?_; refine Za ?_; refine Zq ?_; refine ZY ?_; refine CC.region ?_; refine Zm ?_; refine Zm ?_; refine Zf ?_; refine Zl rb4 ?_; refine ZgeF ?_; refine Zp ?_; refine Zm ?_; refine Zs ?_; refine Zs ?_; refine Zs ?_; refine Zp ?_; refine Zm ?_; refine Zs ?_; refine Zs ?_; refine Zs ?_; refine Zp ?_; refine Zm ?_; refine Zs ?_; refine Zs ?_; refine Zs ?_; refine Zp ?_; refine Za ?_; refine ZL ?_
      refine EE.inN ?_; refine ZT ?_; refine Zc ?_; refine Zr ?_; refine Zm ?_; refine Zt ?_; refine Zq ?_; refine ZY ?_; refine Zr ?_; refine Za ?_; refine Zq ?_; refine ZR ?_; refine EE.thenR ?_; refine EE.ret _ rfl rfl ?_
      exact ⟨rfl, q⟩
    by_cases hD : 2047 < r
    · refine X.fn Tryd.func15 rfl (n := 130) rfl rfl ?_
      refine Zr ?_
      refine LL.box [.int .i64 2, .int .i64 l, .int .i64 z, .slice x n c, .int .i64 r, .int .i64 p, strV t] rfl rfl rfl rfl rfl ?_
      intro Wc2 gc3 egc3 rc4 zc5 bc1
      replace q := Zu q bc1; refine Za ?_; refine Zq ?_; refine Zr ?_; refine Zf ?_; refine Zl rc4 ?_; refine Za ?_; refine Zq ?_; refine Zr ?_; refine Zm ?_; refine ZgeT ?_; refine Zm ?_; refine Zm ?_; refine ZleT ?_; refine Zp ?_; refine Zm ?_; refine Zf ?_; refine Zl rc4 ?_; refine ZgeT ?_; refine Zp ?_; refine Zm ?_; refine Zf ?_; refine Zl rc4 ?_; refine ZleT ?_; refine Zp ?_; refine Zm ?_; refine Zv rc4 ?_
      refine Zm ?_; refine ZeqF ?_; refine Zm ?_; refine ZeqT ?_; refine Zm ?_; refine ZeqF ?_
      refine Zy (R.call rfl rfl rfl) (hz0 _) ?_
      rintro e Wc7 ⟨rfl, bc6⟩
      refine ⟨_, rfl, ?_⟩; have zbc6 := bc6.size; replace rc4 := rc4.up bc6; replace bc1 := Zu bc1 bc6; replace q := Zu q bc6; refine Zp ?_; refine Za ?_; refine Zq ?_; refine Zc ?_; refine Zr ?_; refine Zm ?_; refine Zq ?_; refine CC.block ?_; refine Zr ?_; refine ZeqF ?_; refine Za ?_; refine Zq ?_; refine ZN ?_; refine Zr ?_; refine ZeqF ?_; refine Za ?_; refine Zq ?_; refine ZN ?_; refine Zr ?_
      refine ZeqT ?_; refine Za ?_; refine Zq ?_; refine ZY ?_; refine CC.region ?_; refine Zm ?_; refine Zm ?_; refine Zf ?_; refine Zl rc4 ?_; refine ZgeT ?_; refine Zp ?_; refine Zm ?_; refine Zf ?_; refine Zl rc4 ?_; refine ZleF ?_; refine Zp ?_; refine Zm ?_; refine Zs ?_; refine Zs ?_; refine Zs ?_; refine Zp ?_; refine Zm ?_; refine Zs ?_; refine Zs ?_; refine Zs ?_; refine Zp ?_; refine Za ?_
      refine ZL ?_; refine EE.inN ?_; refine ZT ?_; refine Zc ?_; refine Zr ?_; refine Zm ?_; refine Zt ?_; refine Zq ?_; refine ZY ?_; refine Zr ?_; refine Za ?_; refine Zq ?_; refine ZR ?_; refine EE.thenR ?_; refine EE.ret _ rfl rfl ?_
      exact ⟨rfl, q⟩
    by_cases hE : p < 1
    · refine X.fn Tryd.func15 rfl (n := 130) rfl rfl ?_
      refine Zr ?_
      refine LL.box [.int .i64 2, .int .i64 l, .int .i64 z, .slice x n c, .int .i64 r, .int .i64 p, strV t] rfl rfl rfl rfl rfl ?_
      intro Wd2 gd3 egd3 rd4 zd5 bd1
      replace q := Zu q bd1; refine Za ?_; refine Zq ?_; refine Zr ?_; refine Zf ?_; refine Zl rd4 ?_; refine Za ?_; refine Zq ?_; refine Zr ?_; refine Zm ?_; refine ZgeT ?_; refine Zm ?_; refine Zm ?_; refine ZleT ?_; refine Zp ?_; refine Zm ?_; refine Zf ?_; refine Zl rd4 ?_; refine ZgeT ?_; refine Zp ?_; refine Zm ?_; refine Zf ?_; refine Zl rd4 ?_; refine ZleT ?_; refine Zp ?_; refine Zm ?_; refine Zv rd4 ?_
      refine Zm ?_; refine ZeqF ?_; refine Zm ?_; refine ZeqT ?_; refine Zm ?_; refine ZeqF ?_
      refine Zy (R.call rfl rfl rfl) (hz0 _) ?_
      rintro e Wd7 ⟨rfl, bd6⟩
      refine ⟨_, rfl, ?_⟩; have zbd6 := bd6.size; replace rd4 := rd4.up bd6; replace bd1 := Zu bd1 bd6; replace q := Zu q bd6; refine Zp ?_; refine Za ?_; refine Zq ?_; refine Zc ?_; refine Zr ?_; refine Zm ?_; refine Zq ?_; refine CC.block ?_; refine Zr ?_; refine ZeqF ?_; refine Za ?_; refine Zq ?_; refine ZN ?_; refine Zr ?_; refine ZeqF ?_; refine Za ?_; refine Zq ?_; refine ZN ?_; refine Zr ?_
      refine ZeqT ?_; refine Za ?_; refine Zq ?_; refine ZY ?_; refine CC.region ?_; refine Zm ?_; refine Zm ?_; refine Zf ?_; refine Zl rd4 ?_; refine ZgeT ?_; refine Zp ?_; refine Zm ?_; refine Zf ?_; refine Zl rd4 ?_; refine ZleT ?_; refine Zp ?_; refine Zm ?_; refine Zf ?_; refine Zl rd4 ?_; refine ZgeF ?_; refine Zp ?_; refine Zm ?_; refine Zs ?_; refine Zs ?_; refine Zs ?_; refine Zp ?_; refine Za ?_
      refine ZL ?_; refine EE.inN ?_; refine ZT ?_; refine Zc ?_; refine Zr ?_; refine Zm ?_; refine Zt ?_; refine Zq ?_; refine ZY ?_; refine Zr ?_; refine Za ?_; refine Zq ?_; refine ZR ?_; refine EE.thenR ?_; refine EE.ret _ rfl rfl ?_
      exact ⟨rfl, q⟩
    · have hG : 256 < p := by omega
      refine X.fn Tryd.func15 rfl (n := 130) rfl rfl ?_
      refine Zr ?_
      refine LL.box [.int .i64 2, .int .i64 l, .int .i64 z, .slice x n c, .int .i64 r, .int .i64 p, strV t] rfl rfl rfl rfl rfl ?_
      intro We2 ge3 ege3 re4 ze5 be1
      replace q := Zu q be1; refine Za ?_; refine Zq ?_; refine Zr ?_; refine Zf ?_; refine Zl re4 ?_; refine Za ?_; refine Zq ?_; refine Zr ?_; refine Zm ?_; refine ZgeT ?_; refine Zm ?_; refine Zm ?_; refine ZleT ?_; refine Zp ?_; refine Zm ?_; refine Zf ?_; refine Zl re4 ?_; refine ZgeT ?_; refine Zp ?_; refine Zm ?_; refine Zf ?_; refine Zl re4 ?_; refine ZleT ?_; refine Zp ?_; refine Zm ?_; refine Zv re4 ?_
      refine Zm ?_; refine ZeqF ?_; refine Zm ?_; refine ZeqT ?_; refine Zm ?_; refine ZeqF ?_
      refine Zy (R.call rfl rfl rfl) (hz0 _) ?_
      rintro e We7 ⟨rfl, be6⟩
      refine ⟨_, rfl, ?_⟩; have zbe6 := be6.size; replace re4 := re4.up be6; replace be1 := Zu be1 be6; replace q := Zu q be6; refine Zp ?_; refine Za ?_; refine Zq ?_; refine Zc ?_; refine Zr ?_; refine Zm ?_; refine Zq ?_; refine CC.block ?_; refine Zr ?_; refine ZeqF ?_; refine Za ?_; refine Zq ?_; refine ZN ?_; refine Zr ?_; refine ZeqF ?_; refine Za ?_; refine Zq ?_; refine ZN ?_; refine Zr ?_
      refine ZeqT ?_; refine Za ?_; refine Zq ?_; refine ZY ?_; refine CC.region ?_; refine Zm ?_; refine Zm ?_; refine Zf ?_; refine Zl re4 ?_; refine ZgeT ?_; refine Zp ?_; refine Zm ?_; refine Zf ?_; refine Zl re4 ?_; refine ZleT ?_; refine Zp ?_; refine Zm ?_; refine Zf ?_; refine Zl re4 ?_; refine ZgeT ?_; refine Zp ?_; refine Zm ?_; refine Zf ?_; refine Zl re4 ?_; refine ZleF ?_; refine Zp ?_
      refine Za ?_; refine ZL ?_; refine EE.inN ?_; refine ZT ?_; refine Zc ?_; refine Zr ?_; refine Zm ?_; refine Zt ?_; refine Zq ?_; refine ZY ?_; refine Zr ?_; refine Za ?_; refine Zq ?_; refine ZR ?_; refine EE.thenR ?_; refine EE.ret _ rfl rfl ?_
      exact ⟨rfl, q⟩
  · have hz0 := fun W => zero_F 2 l z x n c r p t false true false W hn hZ
    clear h hZ
    refine X.fn Tryd.func15 rfl (n := 130) rfl rfl ?_
    refine Zr ?_
    refine LL.box [.int .i64 2, .int .i64 l, .int .i64 z, .slice x n c, .int .i64 r, .int .i64 p, strV t] rfl rfl rfl rfl rfl ?_
    intro Wf2 gf3 egf3 rf4 zf5 bf1
    replace q := Zu q bf1; refine Za ?_; refine Zq ?_; refine Zr ?_; refine Zf ?_; refine Zl rf4 ?_; refine Za ?_; refine Zq ?_; refine Zr ?_; refine Zm ?_; refine ZgeT ?_; refine Zm ?_; refine Zm ?_; refine ZleT ?_; refine Zp ?_; refine Zm ?_; refine Zf ?_; refine Zl rf4 ?_; refine ZgeT ?_; refine Zp ?_; refine Zm ?_; refine Zf ?_; refine Zl rf4 ?_; refine ZleT ?_; refine Zp ?_; refine Zm ?_; refine Zv rf4 ?_
    refine Zm ?_; refine ZeqF ?_; refine Zm ?_; refine ZeqT ?_; refine Zm ?_; refine ZeqF ?_
    refine Zy (R.call rfl rfl rfl) (hz0 _) ?_
    rintro e Wf7 ⟨rfl, bf6⟩
    refine ⟨_, rfl, ?_⟩; have zbf6 := bf6.size; replace rf4 := rf4.up bf6; replace bf1 := Zu bf1 bf6; replace q := Zu q bf6; refine Zp ?_; refine Za ?_; refine Zq ?_; refine Zc ?_; refine Zr ?_; refine Zm ?_; refine Zq ?_; refine CC.block ?_; refine Zr ?_; refine ZeqF ?_; refine Za ?_; refine Zq ?_; refine ZN ?_; refine Zr ?_; refine ZeqF ?_; refine Za ?_; refine Zq ?_; refine ZN ?_; refine Zr ?_; refine ZeqT ?_
    refine Za ?_; refine Zq ?_; refine ZY ?_; refine CC.region ?_; refine Zm ?_; refine Zm ?_; refine Zs ?_; refine Zs ?_; refine Zs ?_; refine Zp ?_; refine Zm ?_; refine Zs ?_; refine Zs ?_; refine Zs ?_; refine Zp ?_; refine Zm ?_; refine Zs ?_; refine Zs ?_; refine Zs ?_; refine Zp ?_; refine Zm ?_; refine Zs ?_; refine Zs ?_; refine Zs ?_; refine Zp ?_; refine Za ?_; refine ZL ?_; refine EE.inN ?_
    refine ZT ?_; refine Zc ?_; refine Zr ?_; refine Zm ?_; refine Zt ?_; refine Zq ?_; refine ZY ?_; refine Zr ?_; refine Za ?_; refine Zq ?_; refine ZR ?_; refine EE.thenR ?_; refine EE.ret _ rfl rfl ?_
    exact ⟨rfl, q⟩
theorem rcheck_3F (l z : Int) (x : Option Addr) (n c : Nat) (r p : Int) (t : Bs) (w : World) (hn : n ≤ 9223372036854775807) (htl : t.length ≤ 9223372036854775807) (h : ¬((0 ≤ l ∧ l ≤ 65535) ∧ zeroOk false false true z n r p t ∧ (1 ≤ t.length ∧ t.length ≤ 112) ∧ (0 : UInt8) ∉ t)) : Calls Tryd.prog 15 #[inV 3 l z (.slice x n c) r p t] w fun e w' => e = .returned (.int .i64 240) ∧ Below w.heap.size w w' := by
  have q := Below.refl w.heap.size w
  by_cases hA : l < 0
  · refine X.fn Tryd.func15 rfl (n := 130) rfl rfl ?_
    refine Zr ?_
    refine LL.box [.int .i64 3, .int .i64 l, .int .i64 z, .slice x n c, .int .i64 r, .int .i64 p, strV t] rfl rfl rfl rfl rfl ?_
    intro W2 g3 eg3 r4 z5 b1
    replace q := Zu q b1; refine Za ?_; refine Zq ?_; refine Zr ?_; refine Zf ?_; refine Zl r4 ?_; refine Za ?_; refine Zq ?_; refine Zr ?_; refine Zm ?_; refine ZgeT ?_; refine Zm ?_; refine Zm ?_; refine ZleT ?_; refine Zp ?_; refine Zm ?_; refine Zf ?_; refine Zl r4 ?_; refine ZgeF ?_; refine Zp ?_; refine Zm ?_; refine Zs ?_; refine Zs ?_; refine Zs ?_; refine Zp ?_; refine Zm ?_; refine Zs ?_
    refine Zs ?_; refine Zs ?_; refine Zs ?_; refine Zs ?_; refine Zs ?_; refine Zs ?_; refine Zs ?_; refine Zp ?_; refine Za ?_; refine Zq ?_; refine Zc ?_; refine Zr ?_; refine Zm ?_; refine Zq ?_; refine CC.block ?_; refine Zr ?_; refine ZeqF ?_; refine Za ?_; refine Zq ?_; refine ZN ?_; refine Zr ?_; refine ZeqF ?_; refine Za ?_; refine Zq ?_; refine ZN ?_; refine Zr ?_; refine ZeqF ?_; refine Za ?_
    refine Zq ?_; refine ZN ?_; refine Zr ?_; refine ZeqT ?_; refine Za ?_; refine Zq ?_; refine ZY ?_; refine CC.region ?_; refine Zm ?_; refine Zm ?_; refine Zs ?_; refine Zs ?_; refine Zs ?_; refine Zs ?_; refine Zp ?_; refine Zm ?_; refine Zs ?_; refine Zs ?_; refine Zs ?_; refine Zs ?_; refine Zp ?_; refine Zm ?_; refine Zs ?_; refine Zs ?_; refine Zs ?_; refine Zp ?_; refine Za ?_; refine ZL ?_
    refine EE.inN ?_; refine ZT ?_; refine Zc ?_; refine Zr ?_; refine Zm ?_; refine Zt ?_; refine Zq ?_; refine ZY ?_; refine Zr ?_; refine Za ?_; refine Zq ?_; refine ZR ?_; refine EE.thenR ?_; refine EE.ret _ rfl rfl ?_
    exact ⟨rfl, q⟩
  by_cases hB : 65535 < l
  · refine X.fn Tryd.func15 rfl (n := 130) rfl rfl ?_
    refine Zr ?_
    refine LL.box [.int .i64 3, .int .i64 l, .int .i64 z, .slice x n c, .int .i64 r, .int .i64 p, strV t] rfl rfl rfl rfl rfl ?_
    intro Wa2 ga3 ega3 ra4 za5 ba1
    replace q := Zu q ba1; refine Za ?_; refine Zq ?_; refine Zr ?_; refine Zf ?_; refine Zl ra4 ?_; refine Za ?_; refine Zq ?_; refine Zr ?_; refine Zm ?_; refine ZgeT ?_; refine Zm ?_; refine Zm ?_; refine ZleT ?_; refine Zp ?_; refine Zm ?_; refine Zf ?_; refine Zl ra4 ?_; refine ZgeT ?_; refine Zp ?_; refine Zm ?_; refine Zf ?_; refine Zl ra4 ?_; refine ZleF ?_; refine Zp ?_; refine Zm ?_; refine Zs ?_
    refine Zs ?_; refine Zs ?_; refine Zs ?_; refine Zs ?_; refine Zs ?_; refine Zs ?_; refine Zs ?_; refine Zp ?_; refine Za ?_; refine Zq ?_; refine Zc ?_; refine Zr ?_; refine Zm ?_; refine Zq ?_; refine CC.block ?_; refine Zr ?_; refine ZeqF ?_; refine Za ?_; refine Zq ?_; refine ZN ?_; refine Zr ?_; refine ZeqF ?_; refine Za ?_; refine Zq ?_; refine ZN ?_; refine Zr ?_; refine ZeqF ?_; refine Za ?_
    refine Zq ?_; refine ZN ?_; refine Zr ?_; refine ZeqT ?_; refine Za ?_; refine Zq ?_; refine ZY ?_; refine CC.region ?_; refine Zm ?_; refine Zm ?_; refine Zs ?_; refine Zs ?_; refine Zs ?_; refine Zs ?_; refine Zp ?_; refine Zm ?_; refine Zs ?_; refine Zs ?_; refine Zs ?_; refine Zs ?_; refine Zp ?_; refine Zm ?_; refine Zs ?_; refine Zs ?_; refine Zs ?_; refine Zp ?_; refine Za ?_; refine ZL ?_
    refine EE.inN ?_; refine ZT ?_; refine Zc ?_; refine Zr ?_; refine Zm ?_; refine Zt ?_; refine Zq ?_; refine ZY ?_; refine Zr ?_; refine Za ?_; refine Zq ?_; refine ZR ?_; refine EE.thenR ?_; refine EE.ret _ rfl rfl ?_
    exact ⟨rfl, q⟩
  by_cases hZ : zeroOk false false true z n r p t
  · have hz0 := fun W => zero_T 3 l z x n c r p t false false true W hn hZ
    by_cases hC : t.length < 1
    · refine X.fn Tryd.func15 rfl (n := 130) rfl rfl ?_
      refine Zr ?_
      refine LL.box [.int .i64 3, .int .i64 l, .int .i64 z, .slice x n c, .int .i64 r, .int .i64 p, strV t] rfl rfl rfl rfl rfl ?_
      intro Wb2 gb3 egb3 rb4 zb5 bb1
      replace q := Zu q bb1; refine Za ?_; refine Zq ?_; refine Zr ?_; refine Zf ?_; refine Zl rb4 ?_; refine Za ?_; refine Zq ?_; refine Zr ?_; refine Zm ?_; refine ZgeT ?_; refine Zm ?_; refine Zm ?_; refine ZleT ?_; refine Zp ?_; refine Zm ?_; refine Zf ?_; refine Zl rb4 ?_; refine ZgeT ?_; refine Zp ?_; refine Zm ?_; refine Zf ?_; refine Zl rb4 ?_; refine ZleT ?_; refine Zp ?_; refine Zm ?_; refine Zv rb4 ?_
      refine Zm ?_; refine ZeqF ?_; refine Zm ?_; refine ZeqF ?_; refine Zm ?_; refine ZeqT ?_
      refine Zy (R.call rfl rfl rfl) (hz0 _) ?_
      rintro e Wb7 ⟨rfl, bb6⟩
      refine ⟨_, rfl, ?_⟩; have zbb6 := bb6.size; replace rb4 := rb4.up bb6; replace bb1 := Zu bb1 bb6; replace q := Zu q bb6; refine Zp ?_; refine Za ?_; refine Zq ?_; refine Zc ?_; refine Zr ?_; refine Zm ?_; refine Zq ?_; refine CC.block ?_; refine Zr ?_; refine ZeqF ?_; refine Za ?_; refine Zq ?_; refine ZN ?_; refine Zr ?_; refine ZeqF ?_; refine Za ?_; refine Zq ?_; refine ZN ?_; refine Zr ?_
      refine ZeqF ?_; refine Za ?_; refine Zq ?_; refine ZN ?_; refine Zr ?_; refine ZeqT ?_; refine Za ?_; refine Zq ?_; refine ZY ?_; refine CC.region ?_; refine Zm ?_; refine Zm ?_; refine Zf ?_; refine Zl rb4 ?_
      refine LL.val (R.lenS rfl rfl rfl rfl) rfl rfl rfl ?_
      refine ZgeF ?_; refine Zp ?_; refine Zm ?_; refine Zs ?_; refine Zs ?_; refine Zs ?_; refine Zs ?_; refine Zp ?_; refine Zm ?_; refine Zs ?_; refine Zs ?_; refine Zs ?_; refine Zp ?_; refine Za ?_; refine ZL ?_; refine EE.inN ?_; refine ZT ?_; refine Zc ?_; refine Zr ?_; refine Zm ?_; refine Zt ?_; refine Zq ?_; refine ZY ?_; refine Zr ?_; refine Za ?_; refine Zq ?_; refine ZR ?_; refine EE.thenR ?_
      refine EE.ret _ rfl rfl ?_
      exact ⟨rfl, q⟩
    by_cases hD : 112 < t.length
    · refine X.fn Tryd.func15 rfl (n := 130) rfl rfl ?_
      refine Zr ?_
      refine LL.box [.int .i64 3, .int .i64 l, .int .i64 z, .slice x n c, .int .i64 r, .int .i64 p, strV t] rfl rfl rfl rfl rfl ?_
      intro Wc2 gc3 egc3 rc4 zc5 bc1
      replace q := Zu q bc1; refine Za ?_; refine Zq ?_; refine Zr ?_; refine Zf ?_; refine Zl rc4 ?_; refine Za ?_; refine Zq ?_; refine Zr ?_; refine Zm ?_; refine ZgeT ?_; refine Zm ?_; refine Zm ?_; refine ZleT ?_; refine Zp ?_; refine Zm ?_; refine Zf ?_; refine Zl rc4 ?_; refine ZgeT ?_; refine Zp ?_; refine Zm ?_; refine Zf ?_; refine Zl rc4 ?_; refine ZleT ?_; refine Zp ?_; refine Zm ?_; refine Zv rc4 ?_
      refine Zm ?_; refine ZeqF ?_; refine Zm ?_; refine ZeqF ?_; refine Zm ?_; refine ZeqT ?_
      refine Zy (R.call rfl rfl rfl) (hz0 _) ?_
      rintro e Wc7 ⟨rfl, bc6⟩
      refine ⟨_, rfl, ?_⟩; have zbc6 := bc6.size; replace rc4 := rc4.up bc6; replace bc1 := Zu bc1 bc6; replace q := Zu q bc6; refine Zp ?_; refine Za ?_; refine Zq ?_; refine Zc ?_; refine Zr ?_; refine Zm ?_; refine Zq ?_; refine CC.block ?_; refine Zr ?_; refine ZeqF ?_; refine Za ?_; refine Zq ?_; refine ZN ?_; refine Zr ?_; refine ZeqF ?_; refine Za ?_; refine Zq ?_; refine ZN ?_; refine Zr ?_
      refine ZeqF ?_; refine Za ?_; refine Zq ?_; refine ZN ?_; refine Zr ?_; refine ZeqT ?_; refine Za ?_; refine Zq ?_; refine ZY ?_; refine CC.region ?_; refine Zm ?_; refine Zm ?_; refine Zf ?_; refine Zl rc4 ?_
      refine LL.val (R.lenS rfl rfl rfl rfl) rfl rfl rfl ?_
      refine ZgeT ?_; refine Zp ?_; refine Zm ?_; refine Zf ?_; refine Zl rc4 ?_
      refine LL.val (R.lenS rfl rfl rfl rfl) rfl rfl rfl ?_
      refine ZleF ?_; refine Zp ?_; refine Zm ?_; refine Zs ?_; refine Zs ?_; refine Zs ?_; refine Zp ?_; refine Za ?_; refine ZL ?_; refine EE.inN ?_; refine ZT ?_; refine Zc ?_; refine Zr ?_; refine Zm ?_; refine Zt ?_; refine Zq ?_; refine ZY ?_; refine Zr ?_; refine Za ?_; refine Zq ?_; refine ZR ?_; refine EE.thenR ?_; refine EE.ret _ rfl rfl ?_
      exact ⟨rfl, q⟩
    · have hpl := fun W => plain_any t W htl false (decide_eq_false (fun e => h ⟨by omega, hZ, by omega, e⟩)).symm
      clear h hZ
      refine X.fn Tryd.func15 rfl (n := 130) rfl rfl ?_
      refine Zr ?_
      refine LL.box [.int .i64 3, .int .i64 l, .int .i64 z, .slice x n c, .int .i64 r, .int .i64 p, strV t] rfl rfl rfl rfl rfl ?_
      intro Wd2 gd3 egd3 rd4 zd5 bd1
      replace q := Zu q bd1; refine Za ?_; refine Zq ?_; refine Zr ?_; refine Zf ?_; refine Zl rd4 ?_; refine Za ?_; refine Zq ?_; refine Zr ?_; refine Zm ?_; refine ZgeT ?_; refine Zm ?_; refine Zm ?_; refine ZleT ?_; refine Zp ?_; refine Zm ?_; refine Zf ?_; refine Zl rd4 ?_; refine ZgeT ?_; refine Zp ?_; refine Zm ?_; refine Zf ?_; refine Zl rd4 ?_; refine ZleT ?_; refine Zp ?_; refine Zm ?_; refine Zv rd4 ?_
      refine Zm ?_; refine ZeqF ?_; refine Zm ?_; refine ZeqF ?_; refine Zm ?_; refine ZeqT ?_
      refine Zy (R.call rfl rfl rfl) (hz0 _) ?_
      rintro e Wd7 ⟨rfl, bd6⟩
      refine ⟨_, rfl, ?_⟩; have zbd6 := bd6.size; replace rd4 := rd4.up bd6; replace bd1 := Zu bd1 bd6; replace q := Zu q bd6; refine Zp ?_; refine Za ?_; refine Zq ?_; refine Zc ?_; refine Zr ?_; refine Zm ?_; refine Zq ?_; refine CC.block ?_; refine Zr ?_; refine ZeqF ?_; refine Za ?_; refine Zq ?_; refine ZN ?_; refine Zr ?_; refine ZeqF ?_; refine Za ?_; refine Zq ?_; refine ZN ?_; refine Zr ?_
      refine ZeqF ?_; refine Za ?_; refine Zq ?_; refine ZN ?_; refine Zr ?_; refine ZeqT ?_; refine Za ?_; refine Zq ?_; refine ZY ?_; refine CC.region ?_; refine Zm ?_; refine Zm ?_; refine Zf ?_; refine Zl rd4 ?_
      refine LL.val (R.lenS rfl rfl rfl rfl) rfl rfl rfl ?_
      refine ZgeT ?_; refine Zp ?_; refine Zm ?_; refine Zf ?_; refine Zl rd4 ?_
      refine LL.val (R.lenS rfl rfl rfl rfl) rfl rfl rfl ?_
      refine ZleT ?_; refine Zp ?_; refine Zm ?_; refine Zf ?_; refine Zl rd4 ?_
      refine Zy (R.call rfl rfl rfl) (hpl _) ?_
      rintro e W' ⟨rfl, rfl⟩
      refine ⟨_, rfl, ?_⟩; refine Zp ?_; refine Za ?_; refine ZL ?_; refine EE.inN ?_; refine ZT ?_; refine Zc ?_; refine Zr ?_; refine Zm ?_; refine Zt ?_; refine Zq ?_; refine ZY ?_; refine Zr ?_; refine Za ?_; refine Zq ?_; refine ZR ?_; refine EE.thenR ?_; refine EE.ret _ rfl rfl ?_
      exact ⟨rfl, q⟩
  · have hz0 := fun W => zero_F 3 l z x n c r p t false false true W hn hZ
    clear h hZ
    refine X.fn Tryd.func15 rfl (n := 130) rfl rfl ?_
    refine Zr ?_
    refine LL.box [.int .i64 3, .int .i64 l, .int .i64 z, .slice x n c, .int .i64 r, .int .i64 p, strV t] rfl rfl rfl rfl rfl ?_
    intro We2 ge3 ege3 re4 ze5 be1
    replace q := Zu q be1; refine Za ?_; refine Zq ?_; refine Zr ?_; refine Zf ?_; refine Zl re4 ?_; refine Za ?_; refine Zq ?_; refine Zr ?_; refine Zm ?_; refine ZgeT ?_; refine Zm ?_; refine Zm ?_; refine ZleT ?_; refine Zp ?_; refine Zm ?_; refine Zf ?_; refine Zl re4 ?_; refine ZgeT ?_; refine Zp ?_; refine Zm ?_; refine Zf ?_; refine Zl re4 ?_; refine ZleT ?_; refine Zp ?_; refine Zm ?_; refine Zv re4 ?_
    refine Zm ?_; refine ZeqF ?_; refine Zm ?_; refine ZeqF ?_; refine Zm ?_; refine ZeqT ?_
    refine Zy (R.call rfl rfl rfl) (hz0 _) ?_
    rintro e We7 ⟨rfl, be6⟩
    refine ⟨_, rfl, ?_⟩; have zbe6 := be6.size; replace re4 := re4.up be6; replace be1 := Zu be1 be6; replace q := Zu q be6; refine Zp ?_; refine Za ?_; refine Zq ?_; refine Zc ?_; refine Zr ?_; refine Zm ?_; refine Zq ?_; refine CC.block ?_; refine Zr ?_; refine ZeqF ?_; refine Za ?_; refine Zq ?_; refine ZN ?_; refine Zr ?_; refine ZeqF ?_; refine Za ?_; refine Zq ?_; refine ZN ?_; refine Zr ?_; refine ZeqF ?_
    refine Za ?_; refine Zq ?_; refine ZN ?_; refine Zr ?_; refine ZeqT ?_; refine Za ?_; refine Zq ?_; refine ZY ?_; refine CC.region ?_; refine Zm ?_; refine Zm ?_; refine Zs ?_; refine Zs ?_; refine Zs ?_; refine Zs ?_; refine Zp ?_; refine Zm ?_; refine Zs ?_; refine Zs ?_; refine Zs ?_; refine Zs ?_; refine Zp ?_; refine Zm ?_; refine Zs ?_; refine Zs ?_; refine Zs ?_; refine Zp ?_; refine Za ?_
    refine ZL ?_; refine EE.inN ?_; refine ZT ?_; refine Zc ?_; refine Zr ?_; refine Zm ?_; refine Zt ?_; refine Zq ?_; refine ZY ?_; refine Zr ?_; refine Za ?_; refine Zq ?_; refine ZR ?_; refine EE.thenR ?_; refine EE.ret _ rfl rfl ?_
    exact ⟨rfl, q⟩
theorem fit_iff {z : Int} {m : List Ex} (h : vL m) : fitF z m ↔ ∀ i : Nat, i < 128 → ((plL m)[i]?).getD 0 = 0 ∨ 512 * (i : Int) < z := by
  have hz := vL_nz h
  constructor
  · intro hf i hi
    by_cases h0 : ((plL m)[i]?).getD 0 = 0
    · exact .inl h0
    · right
      have hm : ((i : Int), ((plL m)[i]?).getD 0) ∈ blS m := by rw [← hz, nz, mem_nzF]; exact ⟨i, hi, h0, rfl⟩
      obtain ⟨x, hx, hb⟩ := List.mem_flatMap.1 hm
      obtain ⟨j, hj, e⟩ := mem_blE.1 hb
      have := hf x hx
      have e1 : (i : Int) = x.1 + j := congrArg Prod.fst e
      omega
  · intro hf x hx
    have he := h.2.1 x hx
    unfold mayE at he
    have hb : (x.1 + ((x.2.2 - 1).toNat : Nat), x.2.1 + ((x.2.2 - 1).toNat : Nat)) ∈ blS m := List.mem_flatMap.2 ⟨x, hx, mem_blE.2 ⟨_, by omega, rfl⟩⟩
    rw [← hz, nz, mem_nzF] at hb
    obtain ⟨i, hi, h0, e⟩ := hb
    have e1 : x.1 + ((x.2.2 - 1).toNat : Nat) = (i : Int) := congrArg Prod.fst e
    rcases hf i hi with h | h
    · exact absurd h h0
    · omega
theorem inoW_1 (l z : Int) (m : List Ex) (r p : Int) (t : Bs) (h : vL m) : inoW 1 l z m r p t = (1 + 256 * l.toNat) :: z.toNat :: (wrdN m ++ List.replicate 4 0) := by
  unfold inoW layF putL hdN
  simp [wrdN_len h]
theorem inoW_2 (l z : Int) (m : List Ex) (r p : Int) (t : Bs) : inoW 2 l z m r p t = (2 + 256 * l.toNat) :: 0 :: r.toNat :: p.toNat :: List.replicate 12 0 := by
  unfold inoW layD putL hdN
  simp
theorem inoW_3 (l z : Int) (m : List Ex) (r p : Int) (t : Bs) (h : t.length ≤ 112) : inoW 3 l z m r p t = (3 + 256 * l.toNat) :: t.length :: (layL (nbL t) ++ List.replicate (14 - (t.length + 7) / 8) 0) := by
  unfold inoW layK putL hdN
  simp only [show ¬((3 : Int) = 1) by decide, show ¬((3 : Int) = 2) by decide, if_false, if_true, List.replicate, List.take_succ_cons, List.take_zero, List.drop_succ_cons, List.drop_zero, List.length_cons, List.length_nil, List.cons_append, List.nil_append, layL_len]
  rw [Nat.add_comm 2]
  show (3 + 256 * l.toNat) :: t.length :: (layL (nbL t) ++ List.drop ((t.length + 7) / 8) (List.replicate 14 0)) = _
  rw [List.drop_replicate]
theorem inoW_0 (l z : Int) (m : List Ex) (r p : Int) (t : Bs) : inoW 0 l z m r p t = List.replicate 16 0 := by
  unfold inoW hdN
  simp [List.replicate]
theorem wrdN_Z {m : List Ex} (h : ∀ x ∈ m, mayE x) : (wrdN m).map (fun n : Nat => (n : Int)) = wrdZ m := by
  unfold wrdN
  rw [List.map_map]
  conv => rhs; rw [← List.map_id (wrdZ m)]
  refine List.map_congr_left fun z hz => ?_
  obtain ⟨i, hi⟩ := List.mem_iff_getElem?.1 hz
  have := (wrdZ_bnd h i z hi).1
  simp only [Function.comp_apply, id_eq]
  exact Int.toNat_of_nonneg this
theorem wsZ_1 (l z : Int) (m : List Ex) (r p : Int) (t : Bs) (h : vL m) : wsZ (inoW 1 l z m r p t) = wrdZ m := by
  rw [inoW_1 l z m r p t h]
  unfold wsZ
  rw [← wrdN_Z h.2.1]
  simp only [List.drop_succ_cons, List.drop_zero]
  rw [List.take_left' (wrdN_len h)]
theorem tg_take (t : Bs) (ws : List Nat) (h : (ws.drop 2).take ((t.length + 7) / 8) = layL (nbL t)) : tgOk ws t.length ∧ tgW ws t.length = t := by
  unfold tgOk tgW
  rw [h]
  have e := nbL_len t
  have h1 := lay_take (nbL t) (nbL_lt t)
  have h2 := lay_drop (nbL t) (nbL_lt t)
  rw [e] at h1 h2
  exact ⟨h2, by rw [h1, ofN_nbL]⟩
theorem tg_3 (l z : Int) (m : List Ex) (r p : Int) (t : Bs) (h : t.length ≤ 112) : tgOk (inoW 3 l z m r p t) t.length ∧ tgW (inoW 3 l z m r p t) t.length = t := by
  refine tg_take t _ ?_
  rw [inoW_3 l z m r p t h]
  simp only [List.drop_succ_cons, List.drop_zero]
  rw [List.take_left' (layL_len t)]
/-- Words of no inode. -/
def noI (ws : List Nat) : Prop := ∀ k l z m r p t, okI k l z m r p t → inoW k l z m r p t ≠ ws
theorem rcheck_1L (l z : Int) (x : Option Addr) (n c : Nat) (m : List Ex) (w : World) (hv : ReadsT eE 3 w (.slice x n c) m) (hlen : m.length ≤ 1048576) (hl : 0 ≤ l ∧ l ≤ 65535) (hz : 0 ≤ z ∧ z ≤ 65536) (hvl : vL m) (rs : Int) (hR : (fitF z m → rs = 0) ∧ (¬fitF z m → rs = 240)) : Calls Tryd.prog 15 #[inV 1 l z (.slice x n c) 0 0 []] w fun e w' => e = .returned (.int .i64 rs) ∧ Below w.heap.size w w' := by
  have q := Below.refl w.heap.size w
  have hvF : ∀ X, Below w.heap.size w X → ReadsT eE 3 X (.slice x n c) m := fun X b => hv.up b
  have hn : n ≤ 9223372036854775807 := by
    have := hvl.1
    obtain ⟨_, _, e, _⟩ := hv
    cases e
    omega
  have hz0 := fun W => zero_T 1 l z x n c 0 0 [] true false false W hn ⟨.inl rfl, .inr ⟨rfl, rfl⟩, .inr rfl⟩
  have hfit := fit_iff (z := z) hvl
  have hpl := plL_len m
  clear hv
  refine X.fn Tryd.func15 rfl (n := 130) rfl rfl ?_
  refine Zr ?_
  refine LL.box [.int .i64 1, .int .i64 l, .int .i64 z, .slice x n c, .int .i64 0, .int .i64 0, strV []] rfl rfl rfl rfl rfl ?_
  intro W2 g3 eg3 r4 z5 b1
  replace q := Zu q b1; refine Za ?_; refine Zq ?_; refine Zr ?_; refine Zf ?_; refine Zl r4 ?_; refine Za ?_; refine Zq ?_; refine Zr ?_; refine Zm ?_; refine ZgeT ?_; refine Zm ?_; refine Zm ?_; refine ZleT ?_; refine Zp ?_; refine Zm ?_; refine Zf ?_; refine Zl r4 ?_; refine ZgeT ?_; refine Zp ?_; refine Zm ?_; refine Zf ?_; refine Zl r4 ?_; refine ZleT ?_; refine Zp ?_; refine Zm ?_; refine Zv r4 ?_
  refine Zm ?_; refine ZeqT ?_; refine Zm ?_; refine ZeqF ?_; refine Zm ?_; refine ZeqF ?_
  refine Zy (R.call rfl rfl rfl) (hz0 _) ?_
  rintro e W7 ⟨rfl, b6⟩
  refine ⟨_, rfl, ?_⟩; have zb6 := b6.size; replace r4 := r4.up b6; replace b1 := Zu b1 b6; replace q := Zu q b6; refine Zp ?_; refine Za ?_; refine Zq ?_; refine Zc ?_; refine Zr ?_; refine Zm ?_; refine Zq ?_; refine CC.block ?_; refine Zr ?_; refine ZeqF ?_; refine Za ?_; refine Zq ?_; refine ZN ?_; refine Zr ?_; refine ZeqT ?_; refine Za ?_; refine Zq ?_; refine ZY ?_; refine Zr ?_; refine Zf ?_
  refine Zl r4 ?_
  refine Zy (R.call rfl rfl rfl) (rof_T m _ _ (hvF _ q) hlen hvl) ?_
  rintro e W10 ⟨rfl, b9⟩
  refine ⟨_, rfl, ?_⟩; have zb9 := b9.size; replace b6 := Zu b6 b9; replace r4 := r4.up b9; replace b1 := Zu b1 b9; replace q := Zu q b9; refine Zm ?_; refine Zx ?_; refine Zx ?_; have l12 := r4.lt
  refine LL.alloc (intsZ .i64 (List.replicate 128 0)) rfl rfl rfl rfl rfl ?_
  intro W14 g15 eg15 r16 z17 b13
  replace b9 := Zu b9 b13; replace b6 := Zu b6 b13; replace r4 := r4.up b13; replace b1 := Zu b1 b13; replace q := Zu q b13
  refine LL.storeAZ rfl rfl rfl rfl (by first | assumption | exact List.length_replicate | exact plL_len _ | exact plOf_len _ | simp) r16 (by first | (rw [List.length_map]; exact (by first | assumption | exact List.length_replicate | exact plL_len _ | exact plOf_len _ | simp)) | simp) rfl rfl ?_
  intro W19 r20 b18 z21
  have hlb18 := r16.lt
  clear r16
  replace b13 := Zg b13 b18; replace b9 := Zg b9 b18; replace b6 := Zg b6 b18; replace r4 := Zd r4 b18; replace b1 := Zg b1 b18; replace q := Zg q b18
  have r16 := r20
  clear r20
  refine Za ?_; refine Zq ?_; refine Zr ?_; refine Zm ?_; refine Zm ?_; refine Zm ?_; refine Zp ?_; refine Zm ?_; refine Zf ?_; refine Zl r4 ?_; refine ZgeT ?_; refine Zp ?_; refine Zm ?_; refine Zf ?_; refine Zl r4 ?_; refine ZleT ?_; refine Zp ?_; refine Za ?_; refine Zq ?_; refine Zr ?_; refine Za ?_; refine Zq ?_; refine CC.block ?_
  refine CC.loop (α := Nat × Bool) (fun s => [(1, .pointer (some ⟨g3, 0, none⟩)), (4, .bool s.2), (5, .pointer (some ⟨g15, 0, none⟩)), (7, .int .i64 (s.1 : Int))]) (fun s W => s.1 ≤ 128 ∧ Below w.heap.size w W ∧ RowL W g3 25 (inL 1 l z (.slice x n c) 0 0 []) ∧ RowL W g15 80 (intsZ .i64 (plL m)) ∧ (s.2 = true → ∀ j : Nat, j < s.1 → ((plL m)[j]?).getD 0 = 0 ∨ 512 * (j : Int) < z) ∧ (s.2 = false → ¬fitF z m)) (fun s => 129 - s.1) (0, true) ⟨rfl, rfl, rfl, rfl, trivial⟩ ⟨by show 0 ≤ 128; omega, q, r4, r16, fun _ j hj => absurd hj (Nat.not_lt_zero j), fun e => by cases e⟩ ?_
  clear q r4 r16 b1 b6 b9 b13 b18
  rintro ⟨i, b⟩ W ⟨hi, q, r4, r16, hT, hF⟩
  simp only at hi hT hF
  show CC none Tryd.prog _ 130 [] (sl [(1, .pointer (some ⟨g3, 0, none⟩)), (4, .bool b), (5, .pointer (some ⟨g15, 0, none⟩)), (7, .int .i64 (i : Int))]) _ W
  have yq := q.size
  cases b with
  | false =>
    have := hR.2 (hF rfl)
    subst this
    clear hR hF hT hfit
    refine Zc ?_; refine Zr ?_; refine Zm ?_
    refine LL.vsplit (fun h => R.ltT rfl rfl rfl h) (fun h => R.ltF rfl rfl rfl (Int.not_lt.1 h)) rfl rfl rfl (fun ca1 => ?_) (fun ca1 => ?_)
    refine Zm ?_; refine Zm ?_; refine Zp ?_; refine Zq ?_; refine ZN ?_; refine CC.exit ?_; refine EE.thenX ?_; refine EE.thenX ?_; refine EE.inX ?_; refine EE.inN ?_; refine ZT ?_; refine Zc ?_; refine Zr ?_; refine Zm ?_; refine Zt ?_; refine Zq ?_; refine ZY ?_; refine Zr ?_; refine Za ?_; refine Zq ?_; refine ZR ?_; refine EE.thenR ?_; refine EE.ret _ rfl rfl ?_
    exact ⟨rfl, q⟩
    refine Zm ?_; refine Zs ?_; refine Zp ?_; refine Zq ?_; refine ZN ?_; refine CC.exit ?_; refine EE.thenX ?_; refine EE.thenX ?_; refine EE.inX ?_; refine EE.inN ?_; refine ZT ?_; refine Zc ?_; refine Zr ?_; refine Zm ?_; refine Zt ?_; refine Zq ?_; refine ZY ?_; refine Zr ?_; refine Za ?_; refine Zq ?_; refine ZR ?_; refine EE.thenR ?_; refine EE.ret _ rfl rfl ?_
    exact ⟨rfl, q⟩
  | true =>
    by_cases hlt : i < 128
    case neg =>
      obtain rfl : i = 128 := by omega
      have := hR.1 (hfit.2 (hT rfl))
      subst this
      clear hR hF hT hfit
      refine Zc ?_; refine Zr ?_; refine Zm ?_; refine ZltF ?_; refine Zm ?_; refine Zs ?_; refine Zp ?_; refine Zq ?_; refine ZN ?_; refine CC.exit ?_; refine EE.thenX ?_; refine EE.thenX ?_; refine EE.inX ?_; refine EE.inN ?_; refine ZT ?_; refine Zc ?_; refine Zr ?_; refine Zm ?_; refine Zt ?_; refine Zq ?_; refine ZN ?_; refine ZK ?_; refine ZT ?_; refine Zr ?_; refine Za ?_; refine Zq ?_; refine ZR ?_
      refine EE.ret _ rfl rfl ?_
      exact ⟨rfl, q⟩
    obtain ⟨y, hy⟩ : ∃ y, (plL m)[i]? = some y := ⟨_, List.getElem?_eq_getElem (by omega)⟩
    have c1 : W.cell? ⟨g15, 0 + i, none⟩ = some (.int .i64 y) := RowL.cell r16 (by rw [show 0 + i = i by omega]; simp [hy])
    have hT' := hT rfl
    clear hT hF
    by_cases h0 : y = 0
    · have hT2 : ∀ j : Nat, j < i + 1 → ((plL m)[j]?).getD 0 = 0 ∨ 512 * (j : Int) < z := fun j hj => by
        rcases (by omega : j < i ∨ j = i) with h | rfl
        · exact hT' j h
        · left; rw [hy]; exact h0
      clear hT' hR hfit
      refine Zc ?_; refine Zr ?_; refine Zm ?_; refine ZltT ?_; refine Zm ?_; refine Zm ?_; refine Zp ?_; refine Zq ?_; refine ZY ?_; refine ZK ?_; refine ZT ?_; refine Zc ?_; refine CC.block ?_; refine CC.region ?_; refine Zm ?_
      refine LL.val (R.index rfl rfl rfl (I.ixA1 rfl (by omega))) rfl rfl rfl ?_
      refine Zk ?_; refine ZeqT ?_; refine Zm ?_; refine Zs ?_; refine Zs ?_; refine Zs ?_; refine Zs ?_; refine Zs ?_; refine Zp ?_; refine Za ?_; refine ZL ?_; refine EE.inN ?_; refine ZT ?_; refine CC.region ?_; refine Zm ?_
      refine LL.val (R.addNc rfl rfl rfl rfl (by omega)) rfl rfl rfl ?_
      refine Za ?_; refine ZL ?_
      exact EE.round (i + 1, true) ⟨rfl, rfl, rfl, rfl, trivial⟩ ⟨by show i + 1 ≤ 128; omega, q, r4, r16, fun _ => hT2, fun e => by cases e⟩ (by show 129 - (i + 1) < 129 - i; omega)
    · by_cases hs : 512 * (i : Int) < z
      · have hT2 : ∀ j : Nat, j < i + 1 → ((plL m)[j]?).getD 0 = 0 ∨ 512 * (j : Int) < z := fun j hj => by
          rcases (by omega : j < i ∨ j = i) with h | rfl
          · exact hT' j h
          · exact .inr hs
        clear hT' hR hfit
        refine Zc ?_; refine Zr ?_; refine Zm ?_; refine ZltT ?_; refine Zm ?_; refine Zm ?_; refine Zp ?_; refine Zq ?_; refine ZY ?_; refine ZK ?_; refine ZT ?_; refine Zc ?_; refine CC.block ?_; refine CC.region ?_; refine Zm ?_
        refine LL.val (R.index rfl rfl rfl (I.ixA1 rfl (by omega))) rfl rfl rfl ?_
        refine Zk ?_; refine ZeqF ?_; refine Zm ?_; refine Zm ?_
        refine LL.val (R.mulcN rfl rfl rfl rfl (by omega)) rfl rfl rfl ?_
        refine Zf ?_; refine Zl r4 ?_; refine ZltT ?_; refine Zp ?_; refine Za ?_; refine ZL ?_; refine EE.inN ?_; refine ZT ?_; refine CC.region ?_; refine Zm ?_
        refine LL.val (R.addNc rfl rfl rfl rfl (by omega)) rfl rfl rfl ?_
        refine Za ?_; refine ZL ?_
        exact EE.round (i + 1, true) ⟨rfl, rfl, rfl, rfl, trivial⟩ ⟨by show i + 1 ≤ 128; omega, q, r4, r16, fun _ => hT2, fun e => by cases e⟩ (by show 129 - (i + 1) < 129 - i; omega)
      · have hno : ¬fitF z m := fun hf => by
          rcases hfit.1 hf i hlt with h | h
          · rw [hy] at h; exact h0 h
          · exact hs h
        clear hT' hR hfit
        refine Zc ?_; refine Zr ?_; refine Zm ?_; refine ZltT ?_; refine Zm ?_; refine Zm ?_; refine Zp ?_; refine Zq ?_; refine ZY ?_; refine ZK ?_; refine ZT ?_; refine Zc ?_; refine CC.block ?_; refine CC.region ?_; refine Zm ?_
        refine LL.val (R.index rfl rfl rfl (I.ixA1 rfl (by omega))) rfl rfl rfl ?_
        refine Zk ?_; refine ZeqF ?_; refine Zm ?_; refine Zm ?_
        refine LL.val (R.mulcN rfl rfl rfl rfl (by omega)) rfl rfl rfl ?_
        refine Zf ?_; refine Zl r4 ?_; refine ZltF ?_; refine Zp ?_; refine Za ?_; refine ZL ?_; refine EE.inN ?_; refine ZT ?_; refine CC.region ?_; refine Zm ?_
        refine LL.val (R.addNc rfl rfl rfl rfl (by omega)) rfl rfl rfl ?_
        refine Za ?_; refine ZL ?_
        exact EE.round (i + 1, false) ⟨rfl, rfl, rfl, rfl, trivial⟩ ⟨by show i + 1 ≤ 128; omega, q, r4, r16, fun e => by (cases e), fun _ => hno⟩ (by show 129 - (i + 1) < 129 - i; omega)
theorem rof_mb (l : List Ex) (v : Value) (w : World) (hv : ReadsT eE 3 w v l) (hlen : l.length ≤ 1048576) : Calls Tryd.prog 35 #[v] w fun e w' => ∃ (ms : List Int) (b : Bool), e = .returned (.tuple #[plV ms, .bool b]) ∧ ms.length = 128 ∧ Below w.heap.size w w' :=
  (rof_any l v w hv hlen).mono fun e w' ⟨⟨ms, b, he, _, _, hl⟩, hw⟩ => ⟨ms, b, he, hl, hw⟩
theorem rof_mf (l : List Ex) (v : Value) (w : World) (hv : ReadsT eE 3 w v l) (hlen : l.length ≤ 1048576) (h : ¬vL l) : Calls Tryd.prog 35 #[v] w fun e w' => ∃ (ms : List Int) (b : Bool), e = .returned (.tuple #[plV ms, .bool false]) ∧ ms.length = 128 ∧ Below w.heap.size w w' :=
  (rof_F l v w hv hlen h).mono fun e w' ⟨ms, he, hl, hw⟩ => ⟨ms, false, he, hl, hw⟩
theorem rof_mt (l : List Ex) (v : Value) (w : World) (hv : ReadsT eE 3 w v l) (hlen : l.length ≤ 1048576) (h : vL l) : Calls Tryd.prog 35 #[v] w fun e w' => ∃ (ms : List Int) (b : Bool), e = .returned (.tuple #[plV ms, .bool true]) ∧ ms.length = 128 ∧ Below w.heap.size w w' :=
  (rof_T l v w hv hlen h).mono fun e w' ⟨he, hw⟩ => ⟨plL l, true, he, plL_len l, hw⟩
theorem rcheck_1F (l z : Int) (x : Option Addr) (n c : Nat) (m : List Ex) (r p : Int) (t : Bs) (w : World) (hv : ReadsT eE 3 w (.slice x n c) m) (hlen : m.length ≤ 1048576) (h : ¬((0 ≤ l ∧ l ≤ 65535) ∧ zeroOk true false false z n r p t ∧ okF z m)) : Calls Tryd.prog 15 #[inV 1 l z (.slice x n c) r p t] w fun e w' => e = .returned (.int .i64 240) ∧ Below w.heap.size w w' := by
  have q := Below.refl w.heap.size w
  have hvF : ∀ X, Below w.heap.size w X → ReadsT eE 3 X (.slice x n c) m := fun X b => hv.up b
  have hn : n ≤ 9223372036854775807 := by
    have hl := hv
    obtain ⟨_, _, e, _⟩ := hl
    cases e
    omega
  by_cases hA : l < 0
  · have hof := fun (W : World) (hv : ReadsT eE 3 W (.slice x n c) m) => rof_mb m _ W hv hlen
    clear h hv
    refine X.fn Tryd.func15 rfl (n := 130) rfl rfl ?_
    refine Zr ?_
    refine LL.box [.int .i64 1, .int .i64 l, .int .i64 z, .slice x n c, .int .i64 r, .int .i64 p, strV t] rfl rfl rfl rfl rfl ?_
    intro W2 g3 eg3 r4 z5 b1
    replace q := Zu q b1; refine Za ?_; refine Zq ?_; refine Zr ?_; refine Zf ?_; refine Zl r4 ?_; refine Za ?_; refine Zq ?_; refine Zr ?_; refine Zm ?_; refine ZgeT ?_; refine Zm ?_; refine Zm ?_; refine ZleT ?_; refine Zp ?_; refine Zm ?_; refine Zf ?_; refine Zl r4 ?_; refine ZgeF ?_; refine Zp ?_; refine Zm ?_; refine Zs ?_; refine Zs ?_; refine Zs ?_; refine Zp ?_; refine Zm ?_; refine Zs ?_
    refine Zs ?_; refine Zs ?_; refine Zs ?_; refine Zs ?_; refine Zs ?_; refine Zs ?_; refine Zs ?_; refine Zp ?_; refine Za ?_; refine Zq ?_; refine Zc ?_; refine Zr ?_; refine Zm ?_; refine Zq ?_; refine CC.block ?_; refine Zr ?_; refine ZeqF ?_; refine Za ?_; refine Zq ?_; refine ZN ?_; refine Zr ?_; refine ZeqT ?_; refine Za ?_; refine Zq ?_; refine ZY ?_; refine Zr ?_; refine Zf ?_; refine Zl r4 ?_
    refine Zy (R.call rfl rfl rfl) (hof _ (hvF _ q)) ?_
    rintro e W7 ⟨v9, k10, rfl, l8, b6⟩
    refine ⟨_, rfl, ?_⟩; have zb6 := b6.size; replace r4 := r4.up b6; replace b1 := Zu b1 b6; replace q := Zu q b6; refine Zm ?_; refine Zx ?_; refine Zx ?_; have l12 := r4.lt
    refine LL.alloc (intsZ .i64 (List.replicate 128 0)) rfl rfl rfl rfl rfl ?_
    intro W14 g15 eg15 r16 z17 b13
    replace b6 := Zu b6 b13; replace r4 := r4.up b13; replace b1 := Zu b1 b13; replace q := Zu q b13
    refine LL.storeAZ rfl rfl rfl rfl (by first | assumption | exact List.length_replicate | exact plL_len _ | exact plOf_len _ | simp) r16 (by first | (rw [List.length_map]; exact (by first | assumption | exact List.length_replicate | exact plL_len _ | exact plOf_len _ | simp)) | simp) rfl rfl ?_
    intro W19 r20 b18 z21
    have hlb18 := r16.lt
    clear r16
    replace b13 := Zg b13 b18; replace b6 := Zg b6 b18; replace r4 := Zd r4 b18; replace b1 := Zg b1 b18; replace q := Zg q b18
    have r16 := r20
    clear r20
    refine Za ?_; refine Zq ?_; refine Zr ?_; refine Zm ?_; refine Zm ?_; refine Zs ?_; refine Zp ?_; refine Zm ?_; refine Zs ?_; refine Zs ?_; refine Zs ?_; refine Zp ?_; refine Zm ?_; refine Zs ?_; refine Zs ?_; refine Zs ?_; refine Zp ?_; refine Za ?_; refine Zq ?_; refine Zr ?_; refine Za ?_; refine Zq ?_; refine CC.block ?_
    refine CC.loop (α := Unit) (fun s => [(1, .pointer (some ⟨g3, 0, none⟩)), (4, .bool false), (5, .pointer (some ⟨g15, 0, none⟩)), (7, .int .i64 0)]) (fun s W => Below w.heap.size w W) (fun s => 0) () ⟨rfl, rfl, rfl, rfl, trivial⟩ q ?_
    rintro _ W q
    show CC none Tryd.prog _ 130 [] (sl [(1, .pointer (some ⟨g3, 0, none⟩)), (4, .bool false), (5, .pointer (some ⟨g15, 0, none⟩)), (7, .int .i64 0)]) _ W
    refine Zc ?_; refine Zr ?_; refine Zm ?_; refine ZltT ?_; refine Zm ?_; refine Zm ?_; refine Zp ?_; refine Zq ?_; refine ZN ?_; refine CC.exit ?_; refine EE.thenX ?_; refine EE.thenX ?_; refine EE.inX ?_; refine EE.inN ?_; refine ZT ?_; refine Zc ?_; refine Zr ?_; refine Zm ?_; refine Zt ?_; refine Zq ?_; refine ZY ?_; refine Zr ?_; refine Za ?_; refine Zq ?_; refine ZR ?_; refine EE.thenR ?_; refine EE.ret _ rfl rfl ?_
    exact ⟨rfl, q⟩
  by_cases hB : 65535 < l
  · have hof := fun (W : World) (hv : ReadsT eE 3 W (.slice x n c) m) => rof_mb m _ W hv hlen
    clear h hv
    refine X.fn Tryd.func15 rfl (n := 130) rfl rfl ?_
    refine Zr ?_
    refine LL.box [.int .i64 1, .int .i64 l, .int .i64 z, .slice x n c, .int .i64 r, .int .i64 p, strV t] rfl rfl rfl rfl rfl ?_
    intro Wb2 gb3 egb3 rb4 zb5 bb1
    replace q := Zu q bb1; refine Za ?_; refine Zq ?_; refine Zr ?_; refine Zf ?_; refine Zl rb4 ?_; refine Za ?_; refine Zq ?_; refine Zr ?_; refine Zm ?_; refine ZgeT ?_; refine Zm ?_; refine Zm ?_; refine ZleT ?_; refine Zp ?_; refine Zm ?_; refine Zf ?_; refine Zl rb4 ?_; refine ZgeT ?_; refine Zp ?_; refine Zm ?_; refine Zf ?_; refine Zl rb4 ?_; refine ZleF ?_; refine Zp ?_; refine Zm ?_; refine Zs ?_
    refine Zs ?_; refine Zs ?_; refine Zs ?_; refine Zs ?_; refine Zs ?_; refine Zs ?_; refine Zs ?_; refine Zp ?_; refine Za ?_; refine Zq ?_; refine Zc ?_; refine Zr ?_; refine Zm ?_; refine Zq ?_; refine CC.block ?_; refine Zr ?_; refine ZeqF ?_; refine Za ?_; refine Zq ?_; refine ZN ?_; refine Zr ?_; refine ZeqT ?_; refine Za ?_; refine Zq ?_; refine ZY ?_; refine Zr ?_; refine Zf ?_; refine Zl rb4 ?_
    refine Zy (R.call rfl rfl rfl) (hof _ (hvF _ q)) ?_
    rintro e Wb7 ⟨vb9, kb10, rfl, lb8, bb6⟩
    refine ⟨_, rfl, ?_⟩; have zbb6 := bb6.size; replace rb4 := rb4.up bb6; replace bb1 := Zu bb1 bb6; replace q := Zu q bb6; refine Zm ?_; refine Zx ?_; refine Zx ?_; have lb12 := rb4.lt
    refine LL.alloc (intsZ .i64 (List.replicate 128 0)) rfl rfl rfl rfl rfl ?_
    intro Wb14 gb15 egb15 rb16 zb17 bb13
    replace bb6 := Zu bb6 bb13; replace rb4 := rb4.up bb13; replace bb1 := Zu bb1 bb13; replace q := Zu q bb13
    refine LL.storeAZ rfl rfl rfl rfl (by first | assumption | exact List.length_replicate | exact plL_len _ | exact plOf_len _ | simp) rb16 (by first | (rw [List.length_map]; exact (by first | assumption | exact List.length_replicate | exact plL_len _ | exact plOf_len _ | simp)) | simp) rfl rfl ?_
    intro Wb19 rb20 bb18 zb21
    have hlbb18 := rb16.lt
    clear rb16
    replace bb13 := Zg bb13 bb18; replace bb6 := Zg bb6 bb18; replace rb4 := Zd rb4 bb18; replace bb1 := Zg bb1 bb18; replace q := Zg q bb18
    have rb16 := rb20
    clear rb20
    refine Za ?_; refine Zq ?_; refine Zr ?_; refine Zm ?_; refine Zm ?_; refine Zs ?_; refine Zp ?_; refine Zm ?_; refine Zs ?_; refine Zs ?_; refine Zs ?_; refine Zp ?_; refine Zm ?_; refine Zs ?_; refine Zs ?_; refine Zs ?_; refine Zp ?_; refine Za ?_; refine Zq ?_; refine Zr ?_; refine Za ?_; refine Zq ?_; refine CC.block ?_
    refine CC.loop (α := Unit) (fun s => [(1, .pointer (some ⟨gb3, 0, none⟩)), (4, .bool false), (5, .pointer (some ⟨gb15, 0, none⟩)), (7, .int .i64 0)]) (fun s W => Below w.heap.size w W) (fun s => 0) () ⟨rfl, rfl, rfl, rfl, trivial⟩ q ?_
    rintro _ W q
    show CC none Tryd.prog _ 130 [] (sl [(1, .pointer (some ⟨gb3, 0, none⟩)), (4, .bool false), (5, .pointer (some ⟨gb15, 0, none⟩)), (7, .int .i64 0)]) _ W
    refine Zc ?_; refine Zr ?_; refine Zm ?_; refine ZltT ?_; refine Zm ?_; refine Zm ?_; refine Zp ?_; refine Zq ?_; refine ZN ?_; refine CC.exit ?_; refine EE.thenX ?_; refine EE.thenX ?_; refine EE.inX ?_; refine EE.inN ?_; refine ZT ?_; refine Zc ?_; refine Zr ?_; refine Zm ?_; refine Zt ?_; refine Zq ?_; refine ZY ?_; refine Zr ?_; refine Za ?_; refine Zq ?_; refine ZR ?_; refine EE.thenR ?_; refine EE.ret _ rfl rfl ?_
    exact ⟨rfl, q⟩
  by_cases hZ : zeroOk true false false z n r p t
  case neg =>
    have hz0 := fun W => zero_F 1 l z x n c r p t true false false W hn hZ
    have hof := fun (W : World) (hv : ReadsT eE 3 W (.slice x n c) m) => rof_mb m _ W hv hlen
    clear h hZ hv
    refine X.fn Tryd.func15 rfl (n := 130) rfl rfl ?_
    refine Zr ?_
    refine LL.box [.int .i64 1, .int .i64 l, .int .i64 z, .slice x n c, .int .i64 r, .int .i64 p, strV t] rfl rfl rfl rfl rfl ?_
    intro Wd2 gd3 egd3 rd4 zd5 bd1
    replace q := Zu q bd1; refine Za ?_; refine Zq ?_; refine Zr ?_; refine Zf ?_; refine Zl rd4 ?_; refine Za ?_; refine Zq ?_; refine Zr ?_; refine Zm ?_; refine ZgeT ?_; refine Zm ?_; refine Zm ?_; refine ZleT ?_; refine Zp ?_; refine Zm ?_; refine Zf ?_; refine Zl rd4 ?_; refine ZgeT ?_; refine Zp ?_; refine Zm ?_; refine Zf ?_; refine Zl rd4 ?_; refine ZleT ?_; refine Zp ?_; refine Zm ?_; refine Zv rd4 ?_
    refine Zm ?_; refine ZeqT ?_; refine Zm ?_; refine ZeqF ?_; refine Zm ?_; refine ZeqF ?_
    refine Zy (R.call rfl rfl rfl) (hz0 _) ?_
    rintro e Wd7 ⟨rfl, bd6⟩
    refine ⟨_, rfl, ?_⟩; have zbd6 := bd6.size; replace rd4 := rd4.up bd6; replace bd1 := Zu bd1 bd6; replace q := Zu q bd6; refine Zp ?_; refine Za ?_; refine Zq ?_; refine Zc ?_; refine Zr ?_; refine Zm ?_; refine Zq ?_; refine CC.block ?_; refine Zr ?_; refine ZeqF ?_; refine Za ?_; refine Zq ?_; refine ZN ?_; refine Zr ?_; refine ZeqT ?_; refine Za ?_; refine Zq ?_; refine ZY ?_; refine Zr ?_; refine Zf ?_
    refine Zl rd4 ?_
    refine Zy (R.call rfl rfl rfl) (hof _ (hvF _ q)) ?_
    rintro e Wd10 ⟨vd12, kd13, rfl, ld11, bd9⟩
    refine ⟨_, rfl, ?_⟩; have zbd9 := bd9.size; replace bd6 := Zu bd6 bd9; replace rd4 := rd4.up bd9; replace bd1 := Zu bd1 bd9; replace q := Zu q bd9; refine Zm ?_; refine Zx ?_; refine Zx ?_; have ld15 := rd4.lt
    refine LL.alloc (intsZ .i64 (List.replicate 128 0)) rfl rfl rfl rfl rfl ?_
    intro Wd17 gd18 egd18 rd19 zd20 bd16
    replace bd9 := Zu bd9 bd16; replace bd6 := Zu bd6 bd16; replace rd4 := rd4.up bd16; replace bd1 := Zu bd1 bd16; replace q := Zu q bd16
    refine LL.storeAZ rfl rfl rfl rfl (by first | assumption | exact List.length_replicate | exact plL_len _ | exact plOf_len _ | simp) rd19 (by first | (rw [List.length_map]; exact (by first | assumption | exact List.length_replicate | exact plL_len _ | exact plOf_len _ | simp)) | simp) rfl rfl ?_
    intro Wd22 rd23 bd21 zd24
    have hlbd21 := rd19.lt
    clear rd19
    replace bd16 := Zg bd16 bd21; replace bd9 := Zg bd9 bd21; replace bd6 := Zg bd6 bd21; replace rd4 := Zd rd4 bd21; replace bd1 := Zg bd1 bd21; replace q := Zg q bd21
    have rd19 := rd23
    clear rd23
    refine Za ?_; refine Zq ?_; refine Zr ?_; refine Zm ?_; refine Zm ?_; refine Zs ?_; refine Zp ?_; refine Zm ?_; refine Zs ?_; refine Zs ?_; refine Zs ?_; refine Zp ?_; refine Zm ?_; refine Zs ?_; refine Zs ?_; refine Zs ?_; refine Zp ?_; refine Za ?_; refine Zq ?_; refine Zr ?_; refine Za ?_; refine Zq ?_; refine CC.block ?_
    refine CC.loop (α := Unit) (fun s => [(1, .pointer (some ⟨gd3, 0, none⟩)), (4, .bool false), (5, .pointer (some ⟨gd18, 0, none⟩)), (7, .int .i64 0)]) (fun s W => Below w.heap.size w W) (fun s => 0) () ⟨rfl, rfl, rfl, rfl, trivial⟩ q ?_
    rintro _ W q
    show CC none Tryd.prog _ 130 [] (sl [(1, .pointer (some ⟨gd3, 0, none⟩)), (4, .bool false), (5, .pointer (some ⟨gd18, 0, none⟩)), (7, .int .i64 0)]) _ W
    refine Zc ?_; refine Zr ?_; refine Zm ?_; refine ZltT ?_; refine Zm ?_; refine Zm ?_; refine Zp ?_; refine Zq ?_; refine ZN ?_; refine CC.exit ?_; refine EE.thenX ?_; refine EE.thenX ?_; refine EE.inX ?_; refine EE.inN ?_; refine ZT ?_; refine Zc ?_; refine Zr ?_; refine Zm ?_; refine Zt ?_; refine Zq ?_; refine ZY ?_; refine Zr ?_; refine Za ?_; refine Zq ?_; refine ZR ?_; refine EE.thenR ?_; refine EE.ret _ rfl rfl ?_
    exact ⟨rfl, q⟩
  by_cases hV : vL m
  case neg =>
    have hz0 := fun W => zero_T 1 l z x n c r p t true false false W hn hZ
    have hof := fun (W : World) (hv : ReadsT eE 3 W (.slice x n c) m) => rof_mf m _ W hv hlen hV
    clear h hZ hv
    refine X.fn Tryd.func15 rfl (n := 130) rfl rfl ?_
    refine Zr ?_
    refine LL.box [.int .i64 1, .int .i64 l, .int .i64 z, .slice x n c, .int .i64 r, .int .i64 p, strV t] rfl rfl rfl rfl rfl ?_
    intro Wf2 gf3 egf3 rf4 zf5 bf1
    replace q := Zu q bf1; refine Za ?_; refine Zq ?_; refine Zr ?_; refine Zf ?_; refine Zl rf4 ?_; refine Za ?_; refine Zq ?_; refine Zr ?_; refine Zm ?_; refine ZgeT ?_; refine Zm ?_; refine Zm ?_; refine ZleT ?_; refine Zp ?_; refine Zm ?_; refine Zf ?_; refine Zl rf4 ?_; refine ZgeT ?_; refine Zp ?_; refine Zm ?_; refine Zf ?_; refine Zl rf4 ?_; refine ZleT ?_; refine Zp ?_; refine Zm ?_; refine Zv rf4 ?_
    refine Zm ?_; refine ZeqT ?_; refine Zm ?_; refine ZeqF ?_; refine Zm ?_; refine ZeqF ?_
    refine Zy (R.call rfl rfl rfl) (hz0 _) ?_
    rintro e Wf7 ⟨rfl, bf6⟩
    refine ⟨_, rfl, ?_⟩; have zbf6 := bf6.size; replace rf4 := rf4.up bf6; replace bf1 := Zu bf1 bf6; replace q := Zu q bf6; refine Zp ?_; refine Za ?_; refine Zq ?_; refine Zc ?_; refine Zr ?_; refine Zm ?_; refine Zq ?_; refine CC.block ?_; refine Zr ?_; refine ZeqF ?_; refine Za ?_; refine Zq ?_; refine ZN ?_; refine Zr ?_; refine ZeqT ?_; refine Za ?_; refine Zq ?_; refine ZY ?_; refine Zr ?_; refine Zf ?_
    refine Zl rf4 ?_
    refine Zy (R.call rfl rfl rfl) (hof _ (hvF _ q)) ?_
    rintro e Wf10 ⟨vf12, kf13, rfl, lf11, bf9⟩
    refine ⟨_, rfl, ?_⟩; have zbf9 := bf9.size; replace bf6 := Zu bf6 bf9; replace rf4 := rf4.up bf9; replace bf1 := Zu bf1 bf9; replace q := Zu q bf9; refine Zm ?_; refine Zx ?_; refine Zx ?_; have lf15 := rf4.lt
    refine LL.alloc (intsZ .i64 (List.replicate 128 0)) rfl rfl rfl rfl rfl ?_
    intro Wf17 gf18 egf18 rf19 zf20 bf16
    replace bf9 := Zu bf9 bf16; replace bf6 := Zu bf6 bf16; replace rf4 := rf4.up bf16; replace bf1 := Zu bf1 bf16; replace q := Zu q bf16
    refine LL.storeAZ rfl rfl rfl rfl (by first | assumption | exact List.length_replicate | exact plL_len _ | exact plOf_len _ | simp) rf19 (by first | (rw [List.length_map]; exact (by first | assumption | exact List.length_replicate | exact plL_len _ | exact plOf_len _ | simp)) | simp) rfl rfl ?_
    intro Wf22 rf23 bf21 zf24
    have hlbf21 := rf19.lt
    clear rf19
    replace bf16 := Zg bf16 bf21; replace bf9 := Zg bf9 bf21; replace bf6 := Zg bf6 bf21; replace rf4 := Zd rf4 bf21; replace bf1 := Zg bf1 bf21; replace q := Zg q bf21
    have rf19 := rf23
    clear rf23
    refine Za ?_; refine Zq ?_; refine Zr ?_; refine Zm ?_; refine Zm ?_; refine Zm ?_; refine Zp ?_; refine Zm ?_; refine Zs ?_; refine Zs ?_; refine Zs ?_; refine Zp ?_; refine Zm ?_; refine Zs ?_; refine Zs ?_; refine Zs ?_; refine Zp ?_; refine Za ?_; refine Zq ?_; refine Zr ?_; refine Za ?_; refine Zq ?_; refine CC.block ?_
    refine CC.loop (α := Unit) (fun s => [(1, .pointer (some ⟨gf3, 0, none⟩)), (4, .bool false), (5, .pointer (some ⟨gf18, 0, none⟩)), (7, .int .i64 0)]) (fun s W => Below w.heap.size w W) (fun s => 0) () ⟨rfl, rfl, rfl, rfl, trivial⟩ q ?_
    rintro _ W q
    show CC none Tryd.prog _ 130 [] (sl [(1, .pointer (some ⟨gf3, 0, none⟩)), (4, .bool false), (5, .pointer (some ⟨gf18, 0, none⟩)), (7, .int .i64 0)]) _ W
    refine Zc ?_; refine Zr ?_; refine Zm ?_; refine ZltT ?_; refine Zm ?_; refine Zm ?_; refine Zp ?_; refine Zq ?_; refine ZN ?_; refine CC.exit ?_; refine EE.thenX ?_; refine EE.thenX ?_; refine EE.inX ?_; refine EE.inN ?_; refine ZT ?_; refine Zc ?_; refine Zr ?_; refine Zm ?_; refine Zt ?_; refine Zq ?_; refine ZY ?_; refine Zr ?_; refine Za ?_; refine Zq ?_; refine ZR ?_; refine EE.thenR ?_; refine EE.ret _ rfl rfl ?_
    exact ⟨rfl, q⟩
  by_cases hC : z < 0
  · have hz0 := fun W => zero_T 1 l z x n c r p t true false false W hn hZ
    have hof := fun (W : World) (hv : ReadsT eE 3 W (.slice x n c) m) => rof_mt m _ W hv hlen hV
    clear h hZ hv
    refine X.fn Tryd.func15 rfl (n := 130) rfl rfl ?_
    refine Zr ?_
    refine LL.box [.int .i64 1, .int .i64 l, .int .i64 z, .slice x n c, .int .i64 r, .int .i64 p, strV t] rfl rfl rfl rfl rfl ?_
    intro Wh2 gh3 egh3 rh4 zh5 bh1
    replace q := Zu q bh1; refine Za ?_; refine Zq ?_; refine Zr ?_; refine Zf ?_; refine Zl rh4 ?_; refine Za ?_; refine Zq ?_; refine Zr ?_; refine Zm ?_; refine ZgeT ?_; refine Zm ?_; refine Zm ?_; refine ZleT ?_; refine Zp ?_; refine Zm ?_; refine Zf ?_; refine Zl rh4 ?_; refine ZgeT ?_; refine Zp ?_; refine Zm ?_; refine Zf ?_; refine Zl rh4 ?_; refine ZleT ?_; refine Zp ?_; refine Zm ?_; refine Zv rh4 ?_
    refine Zm ?_; refine ZeqT ?_; refine Zm ?_; refine ZeqF ?_; refine Zm ?_; refine ZeqF ?_
    refine Zy (R.call rfl rfl rfl) (hz0 _) ?_
    rintro e Wh7 ⟨rfl, bh6⟩
    refine ⟨_, rfl, ?_⟩; have zbh6 := bh6.size; replace rh4 := rh4.up bh6; replace bh1 := Zu bh1 bh6; replace q := Zu q bh6; refine Zp ?_; refine Za ?_; refine Zq ?_; refine Zc ?_; refine Zr ?_; refine Zm ?_; refine Zq ?_; refine CC.block ?_; refine Zr ?_; refine ZeqF ?_; refine Za ?_; refine Zq ?_; refine ZN ?_; refine Zr ?_; refine ZeqT ?_; refine Za ?_; refine Zq ?_; refine ZY ?_; refine Zr ?_; refine Zf ?_
    refine Zl rh4 ?_
    refine Zy (R.call rfl rfl rfl) (hof _ (hvF _ q)) ?_
    rintro e Wh10 ⟨vh12, kh13, rfl, lh11, bh9⟩
    refine ⟨_, rfl, ?_⟩; have zbh9 := bh9.size; replace bh6 := Zu bh6 bh9; replace rh4 := rh4.up bh9; replace bh1 := Zu bh1 bh9; replace q := Zu q bh9; refine Zm ?_; refine Zx ?_; refine Zx ?_; have lh15 := rh4.lt
    refine LL.alloc (intsZ .i64 (List.replicate 128 0)) rfl rfl rfl rfl rfl ?_
    intro Wh17 gh18 egh18 rh19 zh20 bh16
    replace bh9 := Zu bh9 bh16; replace bh6 := Zu bh6 bh16; replace rh4 := rh4.up bh16; replace bh1 := Zu bh1 bh16; replace q := Zu q bh16
    refine LL.storeAZ rfl rfl rfl rfl (by first | assumption | exact List.length_replicate | exact plL_len _ | exact plOf_len _ | simp) rh19 (by first | (rw [List.length_map]; exact (by first | assumption | exact List.length_replicate | exact plL_len _ | exact plOf_len _ | simp)) | simp) rfl rfl ?_
    intro Wh22 rh23 bh21 zh24
    have hlbh21 := rh19.lt
    clear rh19
    replace bh16 := Zg bh16 bh21; replace bh9 := Zg bh9 bh21; replace bh6 := Zg bh6 bh21; replace rh4 := Zd rh4 bh21; replace bh1 := Zg bh1 bh21; replace q := Zg q bh21
    have rh19 := rh23
    clear rh23
    refine Za ?_; refine Zq ?_; refine Zr ?_; refine Zm ?_; refine Zm ?_; refine Zm ?_; refine Zp ?_; refine Zm ?_; refine Zf ?_; refine Zl rh4 ?_; refine ZgeF ?_; refine Zp ?_; refine Zm ?_; refine Zs ?_; refine Zs ?_; refine Zs ?_; refine Zp ?_; refine Za ?_; refine Zq ?_; refine Zr ?_; refine Za ?_; refine Zq ?_; refine CC.block ?_
    refine CC.loop (α := Unit) (fun s => [(1, .pointer (some ⟨gh3, 0, none⟩)), (4, .bool false), (5, .pointer (some ⟨gh18, 0, none⟩)), (7, .int .i64 0)]) (fun s W => Below w.heap.size w W) (fun s => 0) () ⟨rfl, rfl, rfl, rfl, trivial⟩ q ?_
    rintro _ W q
    show CC none Tryd.prog _ 130 [] (sl [(1, .pointer (some ⟨gh3, 0, none⟩)), (4, .bool false), (5, .pointer (some ⟨gh18, 0, none⟩)), (7, .int .i64 0)]) _ W
    refine Zc ?_; refine Zr ?_; refine Zm ?_; refine ZltT ?_; refine Zm ?_; refine Zm ?_; refine Zp ?_; refine Zq ?_; refine ZN ?_; refine CC.exit ?_; refine EE.thenX ?_; refine EE.thenX ?_; refine EE.inX ?_; refine EE.inN ?_; refine ZT ?_; refine Zc ?_; refine Zr ?_; refine Zm ?_; refine Zt ?_; refine Zq ?_; refine ZY ?_; refine Zr ?_; refine Za ?_; refine Zq ?_; refine ZR ?_; refine EE.thenR ?_; refine EE.ret _ rfl rfl ?_
    exact ⟨rfl, q⟩
  by_cases hD : 65536 < z
  · have hz0 := fun W => zero_T 1 l z x n c r p t true false false W hn hZ
    have hof := fun (W : World) (hv : ReadsT eE 3 W (.slice x n c) m) => rof_mt m _ W hv hlen hV
    clear h hZ hv
    refine X.fn Tryd.func15 rfl (n := 130) rfl rfl ?_
    refine Zr ?_
    refine LL.box [.int .i64 1, .int .i64 l, .int .i64 z, .slice x n c, .int .i64 r, .int .i64 p, strV t] rfl rfl rfl rfl rfl ?_
    intro Wj2 gj3 egj3 rj4 zj5 bj1
    replace q := Zu q bj1; refine Za ?_; refine Zq ?_; refine Zr ?_; refine Zf ?_; refine Zl rj4 ?_; refine Za ?_; refine Zq ?_; refine Zr ?_; refine Zm ?_; refine ZgeT ?_; refine Zm ?_; refine Zm ?_; refine ZleT ?_; refine Zp ?_; refine Zm ?_; refine Zf ?_; refine Zl rj4 ?_; refine ZgeT ?_; refine Zp ?_; refine Zm ?_; refine Zf ?_; refine Zl rj4 ?_; refine ZleT ?_; refine Zp ?_; refine Zm ?_; refine Zv rj4 ?_
    refine Zm ?_; refine ZeqT ?_; refine Zm ?_; refine ZeqF ?_; refine Zm ?_; refine ZeqF ?_
    refine Zy (R.call rfl rfl rfl) (hz0 _) ?_
    rintro e Wj7 ⟨rfl, bj6⟩
    refine ⟨_, rfl, ?_⟩; have zbj6 := bj6.size; replace rj4 := rj4.up bj6; replace bj1 := Zu bj1 bj6; replace q := Zu q bj6; refine Zp ?_; refine Za ?_; refine Zq ?_; refine Zc ?_; refine Zr ?_; refine Zm ?_; refine Zq ?_; refine CC.block ?_; refine Zr ?_; refine ZeqF ?_; refine Za ?_; refine Zq ?_; refine ZN ?_; refine Zr ?_; refine ZeqT ?_; refine Za ?_; refine Zq ?_; refine ZY ?_; refine Zr ?_; refine Zf ?_
    refine Zl rj4 ?_
    refine Zy (R.call rfl rfl rfl) (hof _ (hvF _ q)) ?_
    rintro e Wj10 ⟨vj12, kj13, rfl, lj11, bj9⟩
    refine ⟨_, rfl, ?_⟩; have zbj9 := bj9.size; replace bj6 := Zu bj6 bj9; replace rj4 := rj4.up bj9; replace bj1 := Zu bj1 bj9; replace q := Zu q bj9; refine Zm ?_; refine Zx ?_; refine Zx ?_; have lj15 := rj4.lt
    refine LL.alloc (intsZ .i64 (List.replicate 128 0)) rfl rfl rfl rfl rfl ?_
    intro Wj17 gj18 egj18 rj19 zj20 bj16
    replace bj9 := Zu bj9 bj16; replace bj6 := Zu bj6 bj16; replace rj4 := rj4.up bj16; replace bj1 := Zu bj1 bj16; replace q := Zu q bj16
    refine LL.storeAZ rfl rfl rfl rfl (by first | assumption | exact List.length_replicate | exact plL_len _ | exact plOf_len _ | simp) rj19 (by first | (rw [List.length_map]; exact (by first | assumption | exact List.length_replicate | exact plL_len _ | exact plOf_len _ | simp)) | simp) rfl rfl ?_
    intro Wj22 rj23 bj21 zj24
    have hlbj21 := rj19.lt
    clear rj19
    replace bj16 := Zg bj16 bj21; replace bj9 := Zg bj9 bj21; replace bj6 := Zg bj6 bj21; replace rj4 := Zd rj4 bj21; replace bj1 := Zg bj1 bj21; replace q := Zg q bj21
    have rj19 := rj23
    clear rj23
    refine Za ?_; refine Zq ?_; refine Zr ?_; refine Zm ?_; refine Zm ?_; refine Zm ?_; refine Zp ?_; refine Zm ?_; refine Zf ?_; refine Zl rj4 ?_; refine ZgeT ?_; refine Zp ?_; refine Zm ?_; refine Zf ?_; refine Zl rj4 ?_; refine ZleF ?_; refine Zp ?_; refine Za ?_; refine Zq ?_; refine Zr ?_; refine Za ?_; refine Zq ?_; refine CC.block ?_
    refine CC.loop (α := Unit) (fun s => [(1, .pointer (some ⟨gj3, 0, none⟩)), (4, .bool false), (5, .pointer (some ⟨gj18, 0, none⟩)), (7, .int .i64 0)]) (fun s W => Below w.heap.size w W) (fun s => 0) () ⟨rfl, rfl, rfl, rfl, trivial⟩ q ?_
    rintro _ W q
    show CC none Tryd.prog _ 130 [] (sl [(1, .pointer (some ⟨gj3, 0, none⟩)), (4, .bool false), (5, .pointer (some ⟨gj18, 0, none⟩)), (7, .int .i64 0)]) _ W
    refine Zc ?_; refine Zr ?_; refine Zm ?_; refine ZltT ?_; refine Zm ?_; refine Zm ?_; refine Zp ?_; refine Zq ?_; refine ZN ?_; refine CC.exit ?_; refine EE.thenX ?_; refine EE.thenX ?_; refine EE.inX ?_; refine EE.inN ?_; refine ZT ?_; refine Zc ?_; refine Zr ?_; refine Zm ?_; refine Zt ?_; refine Zq ?_; refine ZY ?_; refine Zr ?_; refine Za ?_; refine Zq ?_; refine ZR ?_; refine EE.thenR ?_; refine EE.ret _ rfl rfl ?_
    exact ⟨rfl, q⟩
  obtain ⟨hr0, hp0, ht0⟩ : r = 0 ∧ p = 0 ∧ t = [] := by
    obtain ⟨_, h2, h3⟩ := hZ
    simp only [Bool.false_eq_true, false_or] at h2 h3
    exact ⟨h2.1, h2.2, h3⟩
  subst hr0 hp0 ht0
  have hno : ¬fitF z m := fun hf => h ⟨by omega, hZ, by omega, hV, hf⟩
  exact rcheck_1L l z x n c m w hv hlen (by omega) (by omega) hV 240 ⟨fun hf => absurd hf hno, fun _ => rfl⟩
theorem rcheck_T (k l z : Int) (x : Option Addr) (n c : Nat) (m : List Ex) (r p : Int) (t : Bs) (w : World) (hv : ReadsT eE 3 w (.slice x n c) m) (hlen : m.length ≤ 1048576) (h : okI k l z m r p t) : Calls Tryd.prog 15 #[inV k l z (.slice x n c) r p t] w fun e w' => e = .returned (.int .i64 0) ∧ Below w.heap.size w w' := by
  have hn : m.length = n := by obtain ⟨_, _, e, _⟩ := hv; cases e; rfl
  obtain ⟨hl, ⟨rfl, rfl, rfl, rfl, rfl, rfl, rfl⟩ | ⟨rfl, rfl, rfl, rfl, hf⟩ | ⟨rfl, rfl, rfl, rfl, h1⟩ | ⟨rfl, rfl, rfl, rfl, rfl, h1⟩⟩ := h
  · obtain rfl : n = 0 := by simpa using hn.symm
    exact rcheck_0T 0 x c w rfl
  · exact rcheck_1L l z x n c m w hv hlen hl hf.1 hf.2.1 0 ⟨fun _ => rfl, fun h => absurd hf.2.2 h⟩
  · obtain rfl : n = 0 := by simpa using hn.symm
    exact rcheck_2T l x c r p w hl h1.1 h1.2
  · obtain rfl : n = 0 := by simpa using hn.symm
    exact rcheck_3T l x c t w hl h1.1 h1.2
theorem rcheck_F (k l z : Int) (x : Option Addr) (n c : Nat) (m : List Ex) (r p : Int) (t : Bs) (w : World) (hv : ReadsT eE 3 w (.slice x n c) m) (hlen : m.length ≤ 1048576) (htl : t.length ≤ 1048576) (h : ¬okI k l z m r p t) : Calls Tryd.prog 15 #[inV k l z (.slice x n c) r p t] w fun e w' => e = .returned (.int .i64 240) ∧ Below w.heap.size w w' := by
  have hn : m.length = n := by obtain ⟨_, _, e, _⟩ := hv; cases e; rfl
  have hmn : n = 0 ↔ m = [] := by rw [← hn]; exact List.length_eq_zero_iff
  by_cases hk : k < 0 ∨ 3 < k
  · exact rcheck_kF k l z x n c r p t w hk
  rcases (by omega : k = 0 ∨ k = 1 ∨ k = 2 ∨ k = 3) with rfl | rfl | rfl | rfl
  · refine rcheck_0F l z x n c r p t w (by omega) fun ⟨h1, h2, h3, h4⟩ => h ?_
    simp only [Bool.false_eq_true, false_or] at h2 h3 h4
    subst h1
    exact ⟨by omega, .inl ⟨rfl, rfl, h2.1, hmn.1 h2.2, h3.1, h3.2, h4⟩⟩
  · refine rcheck_1F l z x n c m r p t w hv hlen fun ⟨h1, ⟨h2, h3, h4⟩, h5⟩ => h ?_
    simp only [Bool.false_eq_true, false_or] at h3 h4
    exact ⟨h1, .inr (.inl ⟨rfl, h3.1, h3.2, h4, h5⟩)⟩
  · refine rcheck_2F l z x n c r p t w (by omega) fun ⟨h1, ⟨h2, h3, h4⟩, h5⟩ => h ?_
    simp only [Bool.false_eq_true, false_or] at h2 h4
    exact ⟨h1, .inr (.inr (.inl ⟨rfl, h2.1, hmn.1 h2.2, h4, h5⟩))⟩
  · refine rcheck_3F l z x n c r p t w (by omega) (by omega) fun ⟨h1, ⟨h2, h3, h4⟩, h5⟩ => h ?_
    simp only [Bool.false_eq_true, false_or] at h2 h3
    exact ⟨h1, .inr (.inr (.inr ⟨rfl, h2.1, hmn.1 h2.2, h3.1, h3.2, h5⟩))⟩
theorem rlay_own (v : Value) (l : Bs) (w : World) (hv : Reads w v (ints .u8 (nbL l))) (hl : l.length ≤ 1048576) : Calls Tryd.prog 32 #[v] w fun e w' => ∃ v', e = .returned v' ∧ OwnW w' w.heap.size 41 v' ((l.length + 7) / 8) (ints .u64 (layL (nbL l))) ∧ Below w.heap.size w w' := by
  have h := rlay_any v (nbL l) w hv (nbL_lt l) (by rw [nbL_len]; omega)
  rw [nbL_len] at h
  exact h
theorem rinW_no (k l z : Int) (x : Option Addr) (n c : Nat) (m : List Ex) (r p : Int) (t : Bs) (w : World) (hv : ReadsT eE 3 w (.slice x n c) m) (hlen : m.length ≤ 1048576) (htl : t.length ≤ 1048576) (h : ¬okI k l z m r p t) : Calls Tryd.prog 12 #[inV k l z (.slice x n c) r p t] w fun e w' => e = .returned (.tuple #[.slice none 0 0, .int .i64 240]) ∧ Below w.heap.size w w' := by
  have q := Below.refl w.heap.size w
  have hvF : ∀ X, Below w.heap.size w X → ReadsT eE 3 X (.slice x n c) m := fun X b => hv.up b
  clear hv
  refine X.fn Tryd.func12 rfl (n := 85) rfl rfl ?_
  refine Zr ?_
  refine LL.box [.int .i64 k, .int .i64 l, .int .i64 z, .slice x n c, .int .i64 r, .int .i64 p, strV t] rfl rfl rfl rfl rfl ?_
  intro W2 g3 eg3 r4 z5 b1
  replace q := Zu q b1; refine Za ?_; refine Za ?_; refine Zq ?_; refine Zc ?_; refine Zr ?_; refine Zv r4 ?_
  refine Zy (R.call rfl rfl rfl) (rcheck_F k l z x n c m r p t _ (hvF _ q) hlen htl h) ?_
  rintro e W7 ⟨rfl, b6⟩
  refine ⟨_, rfl, ?_⟩; have zb6 := b6.size; replace r4 := r4.up b6; replace b1 := Zu b1 b6; replace q := Zu q b6; refine ZneT ?_; refine Zq ?_; refine ZY ?_; refine Zr ?_; refine Za ?_; refine Za ?_; refine Zq ?_; refine ZR ?_; refine EE.thenR ?_; refine EE.ret _ rfl rfl ?_
  exact ⟨rfl, q⟩
--C ref14_Check | hck @w (hvF _ q) | ⟨rfl, @b⟩
--C ref06_Words | rwords_T m _ @w (hvF _ q) hvl | ⟨rfl, @b⟩
theorem rinW_0 (x : Option Addr) (c : Nat) (w : World) : Calls Tryd.prog 12 #[inV 0 0 0 (.slice x 0 c) 0 0 []] w (wsP (inoW 0 0 0 [] 0 0 []) w) := by
  unfold wsP
  have q := Below.refl w.heap.size w
  have hvF : ∀ X, Below w.heap.size w X → True := fun X b => trivial
  have hck := fun W (_ : True) => rcheck_0T 0 x c W rfl
  rw [inoW_0]
  refine X.fn Tryd.func12 rfl (n := 85) rfl rfl ?_
  refine Zr ?_
  refine LL.box [.int .i64 0, .int .i64 0, .int .i64 0, .slice x 0 c, .int .i64 0, .int .i64 0, strV []] rfl rfl rfl rfl rfl ?_
  intro W9 g10 eg10 r11 z12 b8
  replace q := Zu q b8; refine Za ?_; refine Za ?_; refine Zq ?_; refine Zc ?_; refine Zr ?_; refine Zv r11 ?_
  refine Zy (R.call rfl rfl rfl) (hck _ (hvF _ q)) ?_
  rintro e W46 ⟨rfl, b45⟩
  refine ⟨_, rfl, ?_⟩; have zb45 := b45.size; replace r11 := r11.up b45; replace b8 := Zu b8 b45; replace q := Zu q b45; refine ZneF ?_; refine Zq ?_; refine ZN ?_; refine ZK ?_; refine ZT ?_; refine Zr ?_; have l60 := r11.lt
  (refine LL.makeE (l := 16) (m := 16) ElU14 rfl (by decide) rfl rfl rfl (Nat.le_refl _) (by decide) (by decide) rfl rfl ?_; intro W59 g1 eg1 r1 zg1 b56; replace r1 : RowL W59 g1 41 (ints .u64 (List.replicate 16 0)) := r1)
  have zb56 := b56.size; replace b45 := Zu b45 b56; replace r11 := r11.up b56; replace b8 := Zu b8 b56; replace q := Zu q b56; refine Za ?_; refine Zq ?_; refine Zr ?_; refine Zm ?_; refine Zf ?_; refine Zl r11 ?_
  refine LL.val (R.convI rfl rfl rfl rfl (wrapU (by omega) (by omega))) rfl rfl rfl ?_
  refine Zf ?_; refine Zl r11 ?_
  refine LL.val (R.convI rfl rfl rfl rfl (wrapU (by omega) (by omega))) rfl rfl rfl ?_
  refine LL.val (R.mulUE (a := 256) (b := 0) rfl rfl rfl rfl (by omega)) rfl rfl rfl ?_
  refine LL.val (R.addUE (a := 0) (b := 256 * 0) rfl rfl rfl rfl (by omega)) rfl rfl rfl ?_
  refine Zi ?_
  refine LL.store rfl rfl rfl rfl r1 (by exact Nat.le_of_ble_eq_true rfl) rfl rfl rfl rfl ?_
  intro W173 r174 b172 z175
  have hlb172 := r1.lt
  replace r174 : RowL W173 _ 41 [Value.int IntKind.u64 ↑(0 + 256 * 0), (fun n => Value.int IntKind.u64 ↑n) 0, (fun n => Value.int IntKind.u64 ↑n) 0, (fun n => Value.int IntKind.u64 ↑n) 0, (fun n => Value.int IntKind.u64 ↑n) 0, (fun n => Value.int IntKind.u64 ↑n) 0, (fun n => Value.int IntKind.u64 ↑n) 0, (fun n => Value.int IntKind.u64 ↑n) 0, (fun n => Value.int IntKind.u64 ↑n) 0, (fun n => Value.int IntKind.u64 ↑n) 0, (fun n => Value.int IntKind.u64 ↑n) 0, (fun n => Value.int IntKind.u64 ↑n) 0, (fun n => Value.int IntKind.u64 ↑n) 0, (fun n => Value.int IntKind.u64 ↑n) 0, (fun n => Value.int IntKind.u64 ↑n) 0, (fun n => Value.int IntKind.u64 ↑n) 0] := r174
  clear r1
  replace b56 := Zg b56 b172; replace b45 := Zg b45 b172; replace r11 := Zd r11 b172; replace b8 := Zg b8 b172; replace q := Zg q b172
  have r1 := r174
  clear r174
  refine Zq ?_; refine Zc ?_; refine Zr ?_; refine Zf ?_; refine Zl r11 ?_; refine Zq ?_; refine CC.block ?_; refine Zr ?_; refine ZeqF ?_; refine Za ?_; refine Zq ?_; refine ZN ?_; refine Zr ?_; refine ZeqF ?_; refine Za ?_; refine Zq ?_; refine ZN ?_; refine Zr ?_; refine ZeqF ?_; refine Za ?_; refine Zq ?_; refine ZN ?_; refine ZK ?_; refine EE.inN ?_; refine ZT ?_; refine Zr ?_; refine Zm ?_; refine Za ?_
  refine Za ?_; refine Zq ?_; refine ZR ?_; refine EE.ret _ rfl rfl ?_
  exact ⟨_, rfl, by assumption, by omega, q⟩
theorem rinW_2 (l r p : Nat) (x : Option Addr) (c : Nat) (w : World) (hl : l ≤ 65535) (hr : 1 ≤ r ∧ r ≤ 2047) (hp : 1 ≤ p ∧ p ≤ 256) : Calls Tryd.prog 12 #[inV 2 (l : Int) 0 (.slice x 0 c) (r : Int) (p : Int) []] w (wsP (inoW 2 (l : Int) 0 [] (r : Int) (p : Int) []) w) := by
  unfold wsP
  have q := Below.refl w.heap.size w
  have hvF : ∀ X, Below w.heap.size w X → True := fun X b => trivial
  have hck := fun W (_ : True) => rcheck_2T (l : Int) x c (r : Int) (p : Int) W (by omega) (by omega) (by omega)
  rw [inoW_2]
  refine X.fn Tryd.func12 rfl (n := 85) rfl rfl ?_
  refine Zr ?_
  refine LL.box [.int .i64 2, .int .i64 ↑l, .int .i64 0, .slice x 0 c, .int .i64 ↑r, .int .i64 ↑p, strV []] rfl rfl rfl rfl rfl ?_
  intro W9 g10 eg10 r11 z12 b8
  replace q := Zu q b8; refine Za ?_; refine Za ?_; refine Zq ?_; refine Zc ?_; refine Zr ?_; refine Zv r11 ?_
  refine Zy (R.call rfl rfl rfl) (hck _ (hvF _ q)) ?_
  rintro e W46 ⟨rfl, b45⟩
  refine ⟨_, rfl, ?_⟩; have zb45 := b45.size; replace r11 := r11.up b45; replace b8 := Zu b8 b45; replace q := Zu q b45; refine ZneF ?_; refine Zq ?_; refine ZN ?_; refine ZK ?_; refine ZT ?_; refine Zr ?_; have l60 := r11.lt
  (refine LL.makeE (l := 16) (m := 16) ElU14 rfl (by decide) rfl rfl rfl (Nat.le_refl _) (by decide) (by decide) rfl rfl ?_; intro W59 g1 eg1 r1 zg1 b56; replace r1 : RowL W59 g1 41 (ints .u64 (List.replicate 16 0)) := r1)
  have zb56 := b56.size; replace b45 := Zu b45 b56; replace r11 := r11.up b56; replace b8 := Zu b8 b56; replace q := Zu q b56; refine Za ?_; refine Zq ?_; refine Zr ?_; refine Zm ?_; refine Zf ?_; refine Zl r11 ?_
  refine LL.val (R.convI rfl rfl rfl rfl (wrapU (by omega) (by omega))) rfl rfl rfl ?_
  refine Zf ?_; refine Zl r11 ?_
  refine LL.val (R.convI rfl rfl rfl rfl (wrapU (by omega) (by omega))) rfl rfl rfl ?_
  refine LL.val (R.mulUE (a := 256) (b := l) rfl rfl rfl rfl (by omega)) rfl rfl rfl ?_
  refine LL.val (R.addUE (a := 2) (b := 256 * l) rfl rfl rfl rfl (by omega)) rfl rfl rfl ?_
  refine Zi ?_
  refine LL.store rfl rfl rfl rfl r1 (by exact Nat.le_of_ble_eq_true rfl) rfl rfl rfl rfl ?_
  intro W173 r174 b172 z175
  have hlb172 := r1.lt
  replace r174 : RowL W173 _ 41 [Value.int IntKind.u64 ↑(2 + 256 * l), (fun n => Value.int IntKind.u64 ↑n) 0, (fun n => Value.int IntKind.u64 ↑n) 0, (fun n => Value.int IntKind.u64 ↑n) 0, (fun n => Value.int IntKind.u64 ↑n) 0, (fun n => Value.int IntKind.u64 ↑n) 0, (fun n => Value.int IntKind.u64 ↑n) 0, (fun n => Value.int IntKind.u64 ↑n) 0, (fun n => Value.int IntKind.u64 ↑n) 0, (fun n => Value.int IntKind.u64 ↑n) 0, (fun n => Value.int IntKind.u64 ↑n) 0, (fun n => Value.int IntKind.u64 ↑n) 0, (fun n => Value.int IntKind.u64 ↑n) 0, (fun n => Value.int IntKind.u64 ↑n) 0, (fun n => Value.int IntKind.u64 ↑n) 0, (fun n => Value.int IntKind.u64 ↑n) 0] := r174
  clear r1
  replace b56 := Zg b56 b172; replace b45 := Zg b45 b172; replace r11 := Zd r11 b172; replace b8 := Zg b8 b172; replace q := Zg q b172
  have r1 := r174
  clear r174
  refine Zq ?_; refine Zc ?_; refine Zr ?_; refine Zf ?_; refine Zl r11 ?_; refine Zq ?_; refine CC.block ?_; refine Zr ?_; refine ZeqF ?_; refine Za ?_; refine Zq ?_; refine ZN ?_; refine Zr ?_; refine ZeqT ?_; refine Za ?_; refine Zq ?_; refine ZY ?_
  refine CC.freeZ (fun W_ j => j < W_.heap.size ∧ (j ≠ g1)) (by kernel_rfl) (by kernel_rfl) (fun W231 b230 z232 => ?_)
  replace b56 := Zu b56 b230; replace b45 := Zu b45 b230; replace r11 := r11.up b230; replace b8 := Zu b8 b230; replace q := Zu q b230; replace r1 := r1.up b230
  have hok : Kept (fun j => j < W231.heap.size ∧ (j ≠ g1)) W231 W231 := Kept.refl _ _
  have fzr11 := fzRow (K := fun j => j < W231.heap.size ∧ (j ≠ g1)) r11 ⟨r11.lt, (by first | trivial | omega)⟩
  refine AA.pure 0 rfl hok (by kernel_rfl) (fun w' b' => R.move rfl rfl) rfl rfl ?_
  refine AA.pure 1 rfl hok (by kernel_rfl) (fun w' b' => R.move rfl rfl) rfl rfl ?_
  refine AA.pure 2 rfl hok (by kernel_rfl) (fun w' b' => R.field rfl rfl (I.fld rfl)) rfl rfl ?_
  refine AA.pure 3 rfl hok (by kernel_rfl) (fun w' b' => R.load rfl rfl (I.ld1 rfl (RowL.cell (fzr11 w' b') rfl))) rfl rfl ?_
  refine AA.pure 4 rfl hok (by kernel_rfl) (fun w' b' => R.convI rfl rfl rfl rfl (wrapU (by omega) (by omega))) rfl rfl ?_
  refine AA.pure 5 rfl hok (by kernel_rfl) (fun w' b' => R.field rfl rfl (I.fld rfl)) rfl rfl ?_
  refine AA.pure 6 rfl hok (by kernel_rfl) (fun w' b' => R.load rfl rfl (I.ld1 rfl (RowL.cell (fzr11 w' b') rfl))) rfl rfl ?_
  refine AA.pure 7 rfl hok (by kernel_rfl) (fun w' b' => R.convI rfl rfl rfl rfl (wrapU (by omega) (by omega))) rfl rfl ?_
  refine AA.pure 8 rfl hok (by kernel_rfl) (fun w' b' => R.index rfl rfl rfl (I.ixS1c rfl rfl (by omega))) rfl rfl ?_
  refine AA.one 9 (by kernel_rfl) ?_
  refine ZR.store rfl rfl rfl rfl rfl r1 (by exact Nat.le_of_ble_eq_true rfl) rfl rfl rfl rfl ?_
  intro W243 r244 b242 z245
  have hlb242 := r1.lt
  replace r244 : RowL W243 _ 41 [Value.int IntKind.u64 ↑(2 + 256 * l), (fun n => Value.int IntKind.u64 n) 0, Value.int IntKind.u64 ↑r, (fun n => Value.int IntKind.u64 n) 0, (fun n => Value.int IntKind.u64 n) 0, (fun n => Value.int IntKind.u64 n) 0, (fun n => Value.int IntKind.u64 n) 0, (fun n => Value.int IntKind.u64 n) 0, (fun n => Value.int IntKind.u64 n) 0, (fun n => Value.int IntKind.u64 n) 0, (fun n => Value.int IntKind.u64 n) 0, (fun n => Value.int IntKind.u64 n) 0, (fun n => Value.int IntKind.u64 n) 0, (fun n => Value.int IntKind.u64 n) 0, (fun n => Value.int IntKind.u64 n) 0, (fun n => Value.int IntKind.u64 n) 0] := r244
  clear r1
  replace b56 := Zg b56 b242; replace b45 := Zg b45 b242; replace r11 := Zd r11 b242; replace b8 := Zg b8 b242; replace q := Zg q b242; replace hok := Zo hok b242
  have r1 := r244
  clear r244
  refine ⟨hok, ?_⟩
  refine AA.pure 10 rfl hok (by kernel_rfl) (fun w' b' => R.index rfl rfl rfl (I.ixS1c rfl rfl (by omega))) rfl rfl ?_
  refine AA.one 11 (by kernel_rfl) ?_
  refine ZR.store rfl rfl rfl rfl rfl r1 (by exact Nat.le_of_ble_eq_true rfl) rfl rfl rfl rfl ?_
  intro W256 r257 b255 z258
  have hlb255 := r1.lt
  replace r257 : RowL W256 _ 41 [Value.int IntKind.u64 ↑(2 + 256 * l), (fun n => Value.int IntKind.u64 n) 0, Value.int IntKind.u64 ↑r, Value.int IntKind.u64 ↑p, (fun n => Value.int IntKind.u64 n) 0, (fun n => Value.int IntKind.u64 n) 0, (fun n => Value.int IntKind.u64 n) 0, (fun n => Value.int IntKind.u64 n) 0, (fun n => Value.int IntKind.u64 n) 0, (fun n => Value.int IntKind.u64 n) 0, (fun n => Value.int IntKind.u64 n) 0, (fun n => Value.int IntKind.u64 n) 0, (fun n => Value.int IntKind.u64 n) 0, (fun n => Value.int IntKind.u64 n) 0, (fun n => Value.int IntKind.u64 n) 0, (fun n => Value.int IntKind.u64 n) 0] := r257
  clear r1
  replace b56 := Zg b56 b255; replace b45 := Zg b45 b255; replace r11 := Zd r11 b255; replace b8 := Zg b8 b255; replace q := Zg q b255; replace hok := Zo hok b255
  have r1 := r257
  clear r257
  refine ⟨hok, ?_⟩
  refine AA.done rfl ?_
  clear fzr11 hok
  refine EE.inN ?_; refine ZT ?_; refine Zr ?_; refine Zm ?_; refine Za ?_; refine Za ?_; refine Zq ?_; refine ZR ?_; refine EE.ret _ rfl rfl ?_
  exact ⟨_, rfl, by assumption, by omega, q⟩
/-- Sixteen words of which so many are filled in. -/
def filL (a b : Nat) (xs : List Nat) (i : Nat) : List Nat := a :: b :: (xs.take i ++ List.replicate (14 - i) 0)
theorem filL_len (a b : Nat) (xs : List Nat) (i : Nat) (h : i ≤ xs.length) (h2 : i ≤ 14) : (filL a b xs i).length = 16 := by
  simp [filL]
  omega
theorem filL_set (a b : Nat) (xs : List Nat) (i v : Nat) (h : i < xs.length) (h2 : i < 14) (hv : xs[i]? = some v) : (filL a b xs i).set (2 + i) v = filL a b xs (i + 1) := by
  unfold filL
  rw [Nat.add_comm 2 i]
  show a :: b :: ((xs.take i ++ List.replicate (14 - i) 0).set i v) = _
  have hl : (xs.take i).length = i := by simp; omega
  rw [List.set_append_right _ _ (by omega), hl, Nat.sub_self]
  obtain ⟨k, hk⟩ : ∃ k, 14 - i = k + 1 := ⟨14 - i - 1, by omega⟩
  rw [hk, show 14 - (i + 1) = k by omega, List.replicate_succ, List.set_cons_zero, List.take_add_one, hv]
  simp
theorem filL_setE (a b : Nat) (xs : List Nat) (i v : Nat) (h : i < xs.length) (h2 : i < 14) (hv : xs[i]? = some v) : (ints .u64 (filL a b xs i)).set (2 + i) (.int .u64 (v : Int)) = ints .u64 (filL a b xs (i + 1)) := by
  rw [← filL_set a b xs i v h h2 hv]
  simp [ints]
theorem filL_all (a b : Nat) (xs : List Nat) : filL a b xs xs.length = a :: b :: (xs ++ List.replicate (14 - xs.length) 0) := by simp [filL]
theorem rinW_1 (l z : Nat) (x : Option Addr) (n c : Nat) (m : List Ex) (w : World) (hv : ReadsT eE 3 w (.slice x n c) m) (hlen : m.length ≤ 1048576) (hl : l ≤ 65535) (hf : okF (z : Int) m) : Calls Tryd.prog 12 #[inV 1 (l : Int) (z : Int) (.slice x n c) 0 0 []] w (wsP (inoW 1 (l : Int) (z : Int) m 0 0 []) w) := by
  unfold wsP
  have q := Below.refl w.heap.size w
  have hvF : ∀ X, Below w.heap.size w X → ReadsT eE 3 X (.slice x n c) m := fun X b => hv.up b
  have hck := fun W (h : ReadsT eE 3 W (.slice x n c) m) => rcheck_T 1 (l : Int) (z : Int) x n c m 0 0 [] W h hlen ⟨by omega, .inr (.inl ⟨rfl, rfl, rfl, rfl, hf⟩)⟩
  have hvl := hf.2.1
  have hz := hf.1
  have hxl := wrdN_len hvl
  have hxz := wrdN_Z hvl.2.1
  have hwl : (wrdZ m).length = 10 := wrdZ_len hvl.1
  rw [inoW_1 _ _ _ _ _ _ hvl]
  clear hv
  refine X.fn Tryd.func12 rfl (n := 85) rfl rfl ?_
  refine Zr ?_
  refine LL.box [.int .i64 1, .int .i64 ↑l, .int .i64 ↑z, .slice x n c, .int .i64 0, .int .i64 0, strV []] rfl rfl rfl rfl rfl ?_
  intro W9 g10 eg10 r11 z12 b8
  replace q := Zu q b8; refine Za ?_; refine Za ?_; refine Zq ?_; refine Zc ?_; refine Zr ?_; refine Zv r11 ?_
  refine Zy (R.call rfl rfl rfl) (hck _ (hvF _ q)) ?_
  rintro e W46 ⟨rfl, b45⟩
  refine ⟨_, rfl, ?_⟩; have zb45 := b45.size; replace r11 := r11.up b45; replace b8 := Zu b8 b45; replace q := Zu q b45; refine ZneF ?_; refine Zq ?_; refine ZN ?_; refine ZK ?_; refine ZT ?_; refine Zr ?_; have l60 := r11.lt
  (refine LL.makeE (l := 16) (m := 16) ElU14 rfl (by decide) rfl rfl rfl (Nat.le_refl _) (by decide) (by decide) rfl rfl ?_; intro W59 g1 eg1 r1 zg1 b56; replace r1 : RowL W59 g1 41 (ints .u64 (List.replicate 16 0)) := r1)
  have zb56 := b56.size; replace b45 := Zu b45 b56; replace r11 := r11.up b56; replace b8 := Zu b8 b56; replace q := Zu q b56; refine Za ?_; refine Zq ?_; refine Zr ?_; refine Zm ?_; refine Zf ?_; refine Zl r11 ?_
  refine LL.val (R.convI rfl rfl rfl rfl (wrapU (by omega) (by omega))) rfl rfl rfl ?_
  refine Zf ?_; refine Zl r11 ?_
  refine LL.val (R.convI rfl rfl rfl rfl (wrapU (by omega) (by omega))) rfl rfl rfl ?_
  refine LL.val (R.mulUE (a := 256) (b := l) rfl rfl rfl rfl (by omega)) rfl rfl rfl ?_
  refine LL.val (R.addUE (a := 1) (b := 256 * l) rfl rfl rfl rfl (by omega)) rfl rfl rfl ?_
  refine Zi ?_
  refine LL.store rfl rfl rfl rfl r1 (by exact Nat.le_of_ble_eq_true rfl) rfl rfl rfl rfl ?_
  intro W173 r174 b172 z175
  have hlb172 := r1.lt
  replace r174 : RowL W173 _ 41 [Value.int IntKind.u64 ↑(1 + 256 * l), (fun n => Value.int IntKind.u64 ↑n) 0, (fun n => Value.int IntKind.u64 ↑n) 0, (fun n => Value.int IntKind.u64 ↑n) 0, (fun n => Value.int IntKind.u64 ↑n) 0, (fun n => Value.int IntKind.u64 ↑n) 0, (fun n => Value.int IntKind.u64 ↑n) 0, (fun n => Value.int IntKind.u64 ↑n) 0, (fun n => Value.int IntKind.u64 ↑n) 0, (fun n => Value.int IntKind.u64 ↑n) 0, (fun n => Value.int IntKind.u64 ↑n) 0, (fun n => Value.int IntKind.u64 ↑n) 0, (fun n => Value.int IntKind.u64 ↑n) 0, (fun n => Value.int IntKind.u64 ↑n) 0, (fun n => Value.int IntKind.u64 ↑n) 0, (fun n => Value.int IntKind.u64 ↑n) 0] := r174
  clear r1
  replace b56 := Zg b56 b172; replace b45 := Zg b45 b172; replace r11 := Zd r11 b172; replace b8 := Zg b8 b172; replace q := Zg q b172
  have r1 := r174
  clear r174
  refine Zq ?_; refine Zc ?_; refine Zr ?_; refine Zf ?_; refine Zl r11 ?_; refine Zq ?_; refine CC.block ?_; refine Zr ?_; refine ZeqT ?_; refine Za ?_; refine Zq ?_; refine ZY ?_; refine Zr ?_; refine Zm ?_; refine Zf ?_; refine Zl r11 ?_
  refine LL.val (R.convI rfl rfl rfl rfl (wrapU (by omega) (by omega))) rfl rfl rfl ?_
  refine Zi ?_
  refine LL.store rfl rfl rfl rfl r1 (by exact Nat.le_of_ble_eq_true rfl) rfl rfl rfl rfl ?_
  intro W267 r268 b266 z269
  have hlb266 := r1.lt
  replace r268 : RowL W267 _ 41 [Value.int IntKind.u64 ↑(1 + 256 * l), Value.int IntKind.u64 ↑z, (fun n => Value.int IntKind.u64 n) 0, (fun n => Value.int IntKind.u64 n) 0, (fun n => Value.int IntKind.u64 n) 0, (fun n => Value.int IntKind.u64 n) 0, (fun n => Value.int IntKind.u64 n) 0, (fun n => Value.int IntKind.u64 n) 0, (fun n => Value.int IntKind.u64 n) 0, (fun n => Value.int IntKind.u64 n) 0, (fun n => Value.int IntKind.u64 n) 0, (fun n => Value.int IntKind.u64 n) 0, (fun n => Value.int IntKind.u64 n) 0, (fun n => Value.int IntKind.u64 n) 0, (fun n => Value.int IntKind.u64 n) 0, (fun n => Value.int IntKind.u64 n) 0] := r268
  clear r1
  replace b56 := Zg b56 b266; replace b45 := Zg b45 b266; replace r11 := Zd r11 b266; replace b8 := Zg b8 b266; replace q := Zg q b266
  have r1 := r268
  clear r268
  refine Zq ?_; refine Zr ?_; refine Zf ?_; refine Zl r11 ?_
  refine Zy (R.call rfl rfl rfl) (rwords_T m _ _ (hvF _ q) hvl) ?_
  rintro e W298 ⟨rfl, b297⟩
  refine ⟨_, rfl, ?_⟩; have zb297 := b297.size; replace b56 := Zu b56 b297; replace b45 := Zu b45 b297; replace r11 := r11.up b297; replace b8 := Zu b8 b297; replace q := Zu q b297; replace r1 := r1.up b297; have l309 := r11.lt; have l310 := r1.lt
  refine LL.alloc (intsZ .u64 (List.replicate 10 0)) rfl rfl rfl rfl rfl ?_
  intro W312 g313 eg313 r314 z315 b311
  replace b297 := Zu b297 b311; replace b56 := Zu b56 b311; replace b45 := Zu b45 b311; replace r11 := r11.up b311; replace b8 := Zu b8 b311; replace q := Zu q b311; replace r1 := r1.up b311
  refine LL.storeAZ rfl rfl rfl rfl (by first | assumption | exact List.length_replicate | exact plL_len _ | exact plOf_len _ | simp) r314 (by first | (rw [List.length_map]; exact (by first | assumption | exact List.length_replicate | exact plL_len _ | exact plOf_len _ | simp)) | simp) rfl rfl ?_
  intro W327 r328 b326 z329
  have hlb326 := r314.lt
  clear r314
  replace b311 := Zg b311 b326; replace b297 := Zg b297 b326; replace b56 := Zg b56 b326; replace b45 := Zg b45 b326; replace r11 := Zd r11 b326; replace b8 := Zg b8 b326; replace q := Zg q b326; replace r1 := Zd r1 b326
  have r314 := r328
  clear r328
  refine Zq ?_; refine Zr ?_; refine Za ?_; refine Zq ?_; refine CC.block ?_
  have r1b : RowL W327 g1 41 (ints .u64 (filL (1 + 256 * l) z (wrdN m) 0)) := r1
  have hg1 : w.heap.size ≤ g1 := by omega
  have hne : g1 ≠ g313 := by omega
  clear r1
  refine CC.loop (α := Nat) (fun i => [(4, .slice (some ⟨g1, 0, none⟩) 16 16), (5, .pointer (some ⟨g313, 0, none⟩)), (6, .int .i64 (i : Int))]) (fun i W => i ≤ 10 ∧ Below w.heap.size w W ∧ RowL W g1 41 (ints .u64 (filL (1 + 256 * l) z (wrdN m) i)) ∧ RowL W g313 74 (intsZ .u64 (wrdZ m))) (fun i => 10 - i) 0 ⟨rfl, rfl, rfl, trivial⟩ ⟨by omega, q, r1b, r314⟩ ?_
  clear q r1b r314 r11 b8 b45 b56 b297 b311 b326
  rintro i W ⟨hi, q, r1, r2⟩
  show CC none Tryd.prog _ 85 [] (sl [(4, .slice (some ⟨g1, 0, none⟩) 16 16), (5, .pointer (some ⟨g313, 0, none⟩)), (6, .int .i64 (i : Int))]) _ W
  have yq := q.size
  by_cases hlt : i < 10
  case neg =>
    obtain rfl : i = 10 := by omega
    rw [show filL (1 + 256 * l) z (wrdN m) 10 = (1 + 256 * l) :: z :: (wrdN m ++ List.replicate 4 0) by have := filL_all (1 + 256 * l) z (wrdN m); rwa [hxl] at this] at r1
    refine Zc ?_; refine Zr ?_; refine Zm ?_; refine ZltF ?_; refine Zq ?_; refine ZN ?_; refine CC.exit ?_; refine EE.thenX ?_; refine EE.thenX ?_; refine EE.inX ?_; refine EE.inN ?_; refine ZT ?_; refine Zr ?_; refine Zm ?_; refine Za ?_; refine Za ?_; refine Zq ?_; refine ZR ?_; refine EE.ret _ rfl rfl ?_
    exact ⟨_, rfl, r1, hg1, q⟩
  obtain ⟨y, hy⟩ : ∃ y, (wrdN m)[i]? = some y := ⟨_, List.getElem?_eq_getElem (by omega)⟩
  have hyz : (wrdZ m)[i]? = some (y : Int) := by rw [← hxz, List.getElem?_map, hy]; rfl
  have c1 : W.cell? ⟨g313, 0 + i, none⟩ = some (.int .u64 (y : Int)) := RowL.cell r2 (by rw [show 0 + i = i by omega]; simp [hyz])
  have hst := filL_setE (1 + 256 * l) z (wrdN m) i y (by omega) (by omega) hy
  have hfl : (ints .u64 (filL (1 + 256 * l) z (wrdN m) i)).length = 16 := by simp [ints, filL_len (1 + 256 * l) z (wrdN m) i (by omega) (by omega)]
  refine Zc ?_; refine Zr ?_; refine Zm ?_; refine ZltT ?_; refine Zq ?_; refine ZY ?_; refine ZK ?_; refine ZT ?_; refine Zc ?_; refine CC.block ?_; refine CC.region ?_; refine Zm ?_; refine Zm ?_
  (refine LL.val (R.addN (a := 2) (b := i) rfl rfl rfl (by omega)) rfl rfl rfl ?_)
  refine Zm ?_
  refine LL.val (R.index rfl rfl rfl (I.ixA1 rfl (by omega))) rfl rfl rfl ?_
  refine Zk ?_
  refine LL.val (R.index rfl rfl rfl (I.ixS1 rfl (by omega))) rfl rfl rfl ?_
  (refine LL.store rfl rfl rfl rfl r1 (by rw [hfl]; omega) rfl rfl rfl rfl ?_; intro Wb60 r9 grb58 zz9; rw [Nat.zero_add, hst] at r9; clear r1; have r1 := r9; clear r9)
  have zgrb58 := grb58.size; replace q := Zg q grb58; replace r2 := Zd r2 grb58; replace c1 := Ze c1 grb58; refine ZL ?_; refine EE.inN ?_; refine ZT ?_; refine CC.region ?_; refine Zm ?_
  refine LL.val (R.addNc rfl rfl rfl rfl (by omega)) rfl rfl rfl ?_
  refine Za ?_; refine ZL ?_
  exact EE.round (i + 1) ⟨rfl, rfl, rfl, trivial⟩ ⟨by omega, q, r1, r2⟩ (by omega)
  all_goals trace_state
theorem rlay_form (v : Value) (l : Bs) (w : World) (hv : Reads w v (ints .u8 (nbL l))) (hl : l.length ≤ 1048576) (h1 : 1 ≤ l.length) : Calls Tryd.prog 32 #[v] w fun e w' => ∃ g c, e = .returned (.slice (some ⟨g, 0, none⟩) ((l.length + 7) / 8) c) ∧ Reads w' (.slice (some ⟨g, 0, none⟩) ((l.length + 7) / 8) c) (ints .u64 (layL (nbL l))) ∧ w.heap.size ≤ g ∧ g < w'.heap.size ∧ Below w.heap.size w w' := by
  refine (rlay_own v l w hv hl).mono ?_
  rintro e w' ⟨v', rfl, o, b⟩
  have hr := o.reads
  rcases o.2 with ⟨_, h0⟩ | ⟨g, cap, cur, rfl, hbg, hg, _⟩
  · omega
  · exact ⟨g, cap, rfl, hr, hbg, (Array.getElem?_eq_some_iff.1 hg).1, b⟩
theorem rinW_3 (l : Nat) (t : Bs) (x : Option Addr) (c : Nat) (w : World) (hl : l ≤ 65535) (h : (1 ≤ t.length ∧ t.length ≤ 112) ∧ (0 : UInt8) ∉ t) : Calls Tryd.prog 12 #[inV 3 (l : Int) 0 (.slice x 0 c) 0 0 t] w (wsP (inoW 3 (l : Int) 0 [] 0 0 t) w) := by
  unfold wsP
  have q := Below.refl w.heap.size w
  have hck := fun W => rcheck_3T (l : Int) x c t W (by omega) h.1 h.2
  have ht := h.1
  have hxl := layL_len t
  rw [inoW_3 _ _ _ _ _ _ ht.2]
  clear h
  refine X.fn Tryd.func12 rfl (n := 85) rfl rfl ?_
  refine Zr ?_
  refine LL.box [.int .i64 3, .int .i64 ↑l, .int .i64 0, .slice x 0 c, .int .i64 0, .int .i64 0, strV t] rfl rfl rfl rfl rfl ?_
  intro W16 g17 eg17 r18 z19 b15
  replace q := Zu q b15; refine Za ?_; refine Za ?_; refine Zq ?_; refine Zc ?_; refine Zr ?_; refine Zv r18 ?_
  refine Zy (R.call rfl rfl rfl) (hck _) ?_
  rintro e W85 ⟨rfl, b84⟩
  refine ⟨_, rfl, ?_⟩; have zb84 := b84.size; replace r18 := r18.up b84; replace b15 := Zu b15 b84; replace q := Zu q b84; refine ZneF ?_; refine Zq ?_; refine ZN ?_; refine ZK ?_; refine ZT ?_; refine Zr ?_; have l107 := r18.lt
  (refine LL.makeE (l := 16) (m := 16) ElU14 rfl (by decide) rfl rfl rfl (Nat.le_refl _) (by decide) (by decide) rfl rfl ?_; intro W106 g1 eg1 r1 zg1 b103; replace r1 : RowL W106 g1 41 (ints .u64 (List.replicate 16 0)) := r1)
  have zb103 := b103.size; replace b84 := Zu b84 b103; replace r18 := r18.up b103; replace b15 := Zu b15 b103; replace q := Zu q b103; refine Za ?_; refine Zq ?_; refine Zr ?_; refine Zm ?_; refine Zf ?_; refine Zl r18 ?_
  refine LL.val (R.convI rfl rfl rfl rfl (wrapU (by omega) (by omega))) rfl rfl rfl ?_
  refine Zf ?_; refine Zl r18 ?_
  refine LL.val (R.convI rfl rfl rfl rfl (wrapU (by omega) (by omega))) rfl rfl rfl ?_
  refine LL.val (R.mulUE (a := 256) (b := l) rfl rfl rfl rfl (by omega)) rfl rfl rfl ?_
  refine LL.val (R.addUE (a := 3) (b := 256 * l) rfl rfl rfl rfl (by omega)) rfl rfl rfl ?_
  refine Zi ?_
  refine LL.store rfl rfl rfl rfl r1 (by exact Nat.le_of_ble_eq_true rfl) rfl rfl rfl rfl ?_
  intro W310 r311 b309 z312
  have hlb309 := r1.lt
  replace r311 : RowL W310 _ 41 [Value.int IntKind.u64 ↑(3 + 256 * l), (fun n => Value.int IntKind.u64 ↑n) 0, (fun n => Value.int IntKind.u64 ↑n) 0, (fun n => Value.int IntKind.u64 ↑n) 0, (fun n => Value.int IntKind.u64 ↑n) 0, (fun n => Value.int IntKind.u64 ↑n) 0, (fun n => Value.int IntKind.u64 ↑n) 0, (fun n => Value.int IntKind.u64 ↑n) 0, (fun n => Value.int IntKind.u64 ↑n) 0, (fun n => Value.int IntKind.u64 ↑n) 0, (fun n => Value.int IntKind.u64 ↑n) 0, (fun n => Value.int IntKind.u64 ↑n) 0, (fun n => Value.int IntKind.u64 ↑n) 0, (fun n => Value.int IntKind.u64 ↑n) 0, (fun n => Value.int IntKind.u64 ↑n) 0, (fun n => Value.int IntKind.u64 ↑n) 0] := r311
  clear r1
  replace b103 := Zg b103 b309; replace b84 := Zg b84 b309; replace r18 := Zd r18 b309; replace b15 := Zg b15 b309; replace q := Zg q b309
  have r1 := r311
  clear r311
  refine Zq ?_; refine Zc ?_; refine Zr ?_; refine Zf ?_; refine Zl r18 ?_; refine Zq ?_; refine CC.block ?_; refine Zr ?_; refine ZeqF ?_; refine Za ?_; refine Zq ?_; refine ZN ?_; refine Zr ?_; refine ZeqF ?_; refine Za ?_; refine Zq ?_; refine ZN ?_; refine Zr ?_; refine ZeqT ?_; refine Za ?_; refine Zq ?_; refine ZY ?_; refine Zr ?_; refine Zm ?_; refine Zf ?_; refine Zl r18 ?_
  refine LL.val (R.lenS rfl rfl rfl rfl) rfl rfl rfl ?_
  refine LL.val (R.convI rfl rfl rfl rfl (wrapU (by omega) (by omega))) rfl rfl rfl ?_
  refine Zi ?_
  refine LL.store rfl rfl rfl rfl r1 (by exact Nat.le_of_ble_eq_true rfl) rfl rfl rfl rfl ?_
  intro W584 r585 b583 z586
  have hlb583 := r1.lt
  replace r585 : RowL W584 _ 41 [Value.int IntKind.u64 ↑(3 + 256 * l), Value.int IntKind.u64 ↑(List.length t), (fun n => Value.int IntKind.u64 n) 0, (fun n => Value.int IntKind.u64 n) 0, (fun n => Value.int IntKind.u64 n) 0, (fun n => Value.int IntKind.u64 n) 0, (fun n => Value.int IntKind.u64 n) 0, (fun n => Value.int IntKind.u64 n) 0, (fun n => Value.int IntKind.u64 n) 0, (fun n => Value.int IntKind.u64 n) 0, (fun n => Value.int IntKind.u64 n) 0, (fun n => Value.int IntKind.u64 n) 0, (fun n => Value.int IntKind.u64 n) 0, (fun n => Value.int IntKind.u64 n) 0, (fun n => Value.int IntKind.u64 n) 0, (fun n => Value.int IntKind.u64 n) 0] := r585
  clear r1
  replace b103 := Zg b103 b583; replace b84 := Zg b84 b583; replace r18 := Zd r18 b583; replace b15 := Zg b15 b583; replace q := Zg q b583
  have r1 := r585
  clear r585
  refine Zq ?_; refine Zr ?_; refine Zf ?_; refine Zl r18 ?_; have l641 := r18.lt; have l642 := r1.lt
  refine LL.strBytes (t) rfl rfl Go.Proofs.Tryd.underlying9 Go.Proofs.Tryd.underlying77 Go.Proofs.Tryd.underlying5 rfl rfl ?_
  intro v645 W644 k646 ev645 r647 b643
  replace b103 := Zu b103 b643; replace b84 := Zu b84 b643; replace r18 := r18.up b643; replace b15 := Zu b15 b643; replace q := Zu q b643; replace r1 := r1.up b643; have l661 := r18.lt; have l662 := r1.lt
  (refine Zy (R.call rfl rfl rfl) (rlay_form _ t _ (by assumption) (by omega) (by omega)) ?_; rintro e W660 ⟨g8, c8, rfl, o8, hg8, hl8, b657⟩; refine ⟨_, rfl, ?_⟩)
  have zb657 := b657.size; replace r647 := r647.up b657; replace b643 := Zu b643 b657; replace b103 := Zu b103 b657; replace b84 := Zu b84 b657; replace r18 := r18.up b657; replace b15 := Zu b15 b657; replace q := Zu q b657; replace r1 := r1.up b657; refine Za ?_; refine Zq ?_; refine Zr ?_; refine Za ?_; refine Zq ?_; refine CC.block ?_
  have r1b : RowL W660 g1 41 (ints .u64 (filL (3 + 256 * l) t.length (layL (nbL t)) 0)) := r1
  have hg1 : w.heap.size ≤ g1 := by omega
  have hne : g8 ≠ g1 := by omega
  clear r1
  obtain ⟨N, hN⟩ : ∃ N, (t.length + 7) / 8 = N := ⟨_, rfl⟩
  rw [hN] at o8 hxl ⊢
  have hN14 : N ≤ 14 := by omega
  refine CC.loop (α := Nat) (fun i => [(4, .slice (some ⟨g1, 0, none⟩) 16 16), (7, .slice (some ⟨g8, 0, none⟩) N c8), (8, .int .i64 (i : Int))]) (fun i W => i ≤ N ∧ Below w.heap.size w W ∧ RowL W g1 41 (ints .u64 (filL (3 + 256 * l) t.length (layL (nbL t)) i)) ∧ Reads W (.slice (some ⟨g8, 0, none⟩) N c8) (ints .u64 (layL (nbL t)))) (fun i => N - i) 0 ⟨rfl, rfl, rfl, trivial⟩ ⟨by omega, q, r1b, o8⟩ ?_
  clear q r1b o8 r18 b15 b84 b103 b643 b657 r647
  rintro i W ⟨hi, q, r1, r2⟩
  show CC none Tryd.prog _ 85 [] (sl [(4, .slice (some ⟨g1, 0, none⟩) 16 16), (7, .slice (some ⟨g8, 0, none⟩) N c8), (8, .int .i64 (i : Int))]) _ W
  have yq := q.size
  by_cases hlt : i < N
  case neg =>
    obtain rfl : i = N := by omega
    have hfa := filL_all (3 + 256 * l) t.length (layL (nbL t))
    rw [hxl] at hfa
    rw [hfa] at r1
    refine Zc ?_; refine Zr ?_; refine Zm ?_; refine Zm ?_; refine Zn ?_; refine ZltF ?_; refine Zq ?_; refine ZN ?_; refine CC.exit ?_; refine EE.thenX ?_; refine EE.thenX ?_; refine EE.inX ?_; refine EE.inN ?_; refine ZT ?_; refine Zr ?_; refine Zm ?_; refine Za ?_; refine Za ?_; refine Zq ?_; refine ZR ?_; refine EE.ret _ rfl rfl ?_
    exact ⟨_, rfl, r1, hg1, q⟩
  obtain ⟨y, hy⟩ : ∃ y, (layL (nbL t))[i]? = some y := ⟨_, List.getElem?_eq_getElem (by omega)⟩
  have c1 : W.cell? ⟨g8, 0 + i, none⟩ = some (.int .u64 (y : Int)) := by
    obtain ⟨_, _, h3⟩ := r2.at
    obtain ⟨b, off, e, _, h4⟩ := h3 (by omega)
    cases e
    rw [h4 i (by omega)]
    simp [ints, hy]
  have hst := filL_setE (3 + 256 * l) t.length (layL (nbL t)) i y (by omega) (by omega) hy
  have hfl : (ints .u64 (filL (3 + 256 * l) t.length (layL (nbL t)) i)).length = 16 := by simp [ints, filL_len (3 + 256 * l) t.length (layL (nbL t)) i (by omega) (by omega)]
  refine Zc ?_; refine Zr ?_; refine Zm ?_; refine Zm ?_; refine Zn ?_; refine ZltT ?_; refine Zq ?_; refine ZY ?_; refine ZK ?_; refine ZT ?_; refine Zc ?_; refine CC.block ?_; refine CC.region ?_; refine Zm ?_; refine Zm ?_
  (refine LL.val (R.addN (a := 2) (b := i) rfl rfl rfl (by omega)) rfl rfl rfl ?_)
  refine Zm ?_; refine Zm ?_
  refine LL.val (R.index rfl rfl rfl (I.ixS1 rfl (by omega))) rfl rfl rfl ?_
  refine Zk ?_
  refine LL.val (R.index rfl rfl rfl (I.ixS1 rfl (by omega))) rfl rfl rfl ?_
  (refine LL.store rfl rfl rfl rfl r1 (by rw [hfl]; omega) rfl rfl rfl rfl ?_; intro Wb81 r9 grb79 zz9; rw [Nat.zero_add, hst] at r9; clear r1; have r1 := r9; clear r9)
  have zgrb79 := grb79.size; replace q := Zg q grb79
  replace r2 := r2.gr grb79 (by omega)
  replace c1 := Ze c1 grb79; refine ZL ?_; refine EE.inN ?_; refine ZT ?_; refine CC.region ?_; refine Zm ?_
  refine LL.val (R.addNc rfl rfl rfl rfl (by omega)) rfl rfl rfl ?_
  refine Za ?_; refine ZL ?_
  exact EE.round (i + 1) ⟨rfl, rfl, rfl, trivial⟩ ⟨by omega, q, r1, r2⟩ (by omega)
theorem rinW_ok (k l z : Int) (x : Option Addr) (n c : Nat) (m : List Ex) (r p : Int) (t : Bs) (w : World) (hv : ReadsT eE 3 w (.slice x n c) m) (hlen : m.length ≤ 1048576) (h : okI k l z m r p t) : Calls Tryd.prog 12 #[inV k l z (.slice x n c) r p t] w (wsP (inoW k l z m r p t) w) := by
  have hn : m.length = n := by obtain ⟨_, _, e, _⟩ := hv; cases e; rfl
  obtain ⟨hl, ⟨rfl, rfl, rfl, rfl, rfl, rfl, rfl⟩ | ⟨rfl, rfl, rfl, rfl, hf⟩ | ⟨rfl, rfl, rfl, rfl, h1⟩ | ⟨rfl, rfl, rfl, rfl, rfl, h1⟩⟩ := h
  · obtain rfl : n = 0 := by simpa using hn.symm
    exact rinW_0 x c w
  · obtain ⟨l, rfl⟩ : ∃ y : Nat, l = (y : Int) := ⟨l.toNat, by omega⟩
    have hz := hf.1
    obtain ⟨z, rfl⟩ : ∃ y : Nat, z = (y : Int) := ⟨z.toNat, by omega⟩
    exact rinW_1 l z x n c m w hv hlen (by omega) hf
  · obtain rfl : n = 0 := by simpa using hn.symm
    obtain ⟨l, rfl⟩ : ∃ y : Nat, l = (y : Int) := ⟨l.toNat, by omega⟩
    obtain ⟨r, rfl⟩ : ∃ y : Nat, r = (y : Int) := ⟨r.toNat, by omega⟩
    obtain ⟨p, rfl⟩ : ∃ y : Nat, p = (y : Int) := ⟨p.toNat, by omega⟩
    exact rinW_2 l r p x c w (by omega) (by omega) (by omega)
  · obtain rfl : n = 0 := by simpa using hn.symm
    obtain ⟨l, rfl⟩ : ∃ y : Nat, l = (y : Int) := ⟨l.toNat, by omega⟩
    exact rinW_3 l t x c w (by omega) h1
theorem wrdN_lt {m : List Ex} (h : ∀ x ∈ m, mayE x) : ∀ x ∈ wrdN m, x < 18446744073709551616 := by
  intro x hx
  unfold wrdN at hx
  obtain ⟨z, hz, rfl⟩ := List.mem_map.1 hx
  obtain ⟨i, hi⟩ := List.mem_iff_getElem?.1 hz
  have := wrdZ_bnd h i z hi
  omega
theorem inoW_lt {k l z : Int} {m : List Ex} {r p : Int} {t : Bs} (h : okI k l z m r p t) : ∀ x ∈ inoW k l z m r p t, x < 18446744073709551616 := by
  obtain ⟨hl, ⟨rfl, rfl, rfl, rfl, rfl, rfl, rfl⟩ | ⟨rfl, rfl, rfl, rfl, hf⟩ | ⟨rfl, rfl, rfl, rfl, h1⟩ | ⟨rfl, rfl, rfl, rfl, rfl, h1⟩⟩ := h
  · rw [inoW_0]
    intro x hx
    rw [(List.mem_replicate.1 hx).2]
    decide
  · rw [inoW_1 _ _ _ _ _ _ hf.2.1]
    have hz := hf.1
    intro x hx
    simp only [List.mem_cons, List.mem_append] at hx
    rcases hx with rfl | rfl | hx | hx
    · omega
    · omega
    · exact wrdN_lt hf.2.1.2.1 x hx
    · rw [(List.mem_replicate.1 hx).2]
      decide
  · rw [inoW_2]
    intro x hx
    simp only [List.mem_cons] at hx
    rcases hx with rfl | rfl | rfl | rfl | hx
    · omega
    · decide
    · omega
    · omega
    · rw [(List.mem_replicate.1 hx).2]
      decide
  · rw [inoW_3 _ _ _ _ _ _ h1.1.2]
    intro x hx
    simp only [List.mem_cons, List.mem_append] at hx
    rcases hx with rfl | rfl | hx | hx
    · omega
    · omega
    · exact lay_small _ (nbL_lt t) x hx
    · rw [(List.mem_replicate.1 hx).2]
      decide
theorem of_ok (bk off cap : Nat) (ws : List Nat) (k l z : Int) (m : List Ex) (r p : Int) (t : Bs) (w : World) (hS : Start w) (hcap : 16 ≤ cap) (hW : WdsAt w bk off ws) (h : okI k l z m r p t) (e : inoW k l z m r p t = ws) : Calls Tryd.prog 17 #[.slice (some ⟨bk, off, none⟩) 16 cap] w (ofR k l z m r p t w) := by
  have hws : ws.length = 16 := by rw [← e]; exact inoW_len h
  have hwb : ∀ x ∈ ws, x < 18446744073709551616 := by rw [← e]; exact inoW_lt h
  have hS0 := hS.pos
  have hlt := hW.lt
  have hh := h
  obtain ⟨hl, ⟨rfl, rfl, rfl, rfl, rfl, rfl, rfl⟩ | ⟨rfl, rfl, rfl, rfl, hf⟩ | ⟨rfl, rfl, rfl, rfl, h1⟩ | ⟨rfl, rfl, rfl, rfl, rfl, h1⟩⟩ := h
  · exact of_Z bk off cap ws w hS hws hwb hcap hW (by rw [← e, inoW_0]; rfl)
  · obtain ⟨l, rfl⟩ : ∃ y : Nat, l = (y : Int) := ⟨l.toNat, by omega⟩
    have hz := hf.1
    obtain ⟨z, rfl⟩ : ∃ y : Nat, z = (y : Int) := ⟨z.toNat, by omega⟩
    have e1 := inoW_1 (l : Int) (z : Int) m 0 0 [] hf.2.1
    have e2 := wsZ_1 (l : Int) (z : Int) m 0 0 [] hf.2.1
    rw [e] at e1 e2
    have e3 : outZ (wsZ ws) = m := by rw [e2, outZ_wrdZ hf.2.1.2.1]
    have e4 : mapW (wsZ ws) := by rw [e2]; exact mapW_wrdZ hf.2.1
    refine of_run _ 16 cap _ _ _ _ _ _ _ w hS0 fun W gs go b hgs hgo hne hs ho => ?_
    have := of1_1T gs go bk off cap ws W (hS.up b) hws hwb hcap hs (hW.up b) ho ⟨hne, by omega, by omega⟩ (1 + 256 * l) (by rw [e1]; rfl) (by omega) l (by omega) (by omega) z (by rw [e1]; rfl) (by omega) e4 (by rw [e3]; exact hh) (by rw [e3]; exact e)
    rw [e3] at this
    exact this
  · obtain ⟨l, rfl⟩ : ∃ y : Nat, l = (y : Int) := ⟨l.toNat, by omega⟩
    obtain ⟨r, rfl⟩ : ∃ y : Nat, r = (y : Int) := ⟨r.toNat, by omega⟩
    obtain ⟨p, rfl⟩ : ∃ y : Nat, p = (y : Int) := ⟨p.toNat, by omega⟩
    have e1 := inoW_2 (l : Int) 0 [] (r : Int) (p : Int) []
    rw [e] at e1
    exact of_run _ 16 cap _ _ _ _ _ _ _ w hS0 fun W gs go b hgs hgo hne hs ho => of1_2T gs go bk off cap ws W (hS.up b) hws hwb hcap hs (hW.up b) ho ⟨hne, by omega, by omega⟩ (2 + 256 * l) (by rw [e1]; rfl) (by omega) l (by omega) (by omega) r p (by rw [e1]; rfl) (by rw [e1]; rfl) (by omega) hh e
  · obtain ⟨l, rfl⟩ : ∃ y : Nat, l = (y : Int) := ⟨l.toNat, by omega⟩
    have e1 := inoW_3 (l : Int) 0 [] 0 0 t h1.1.2
    have e2 := tg_3 (l : Int) 0 [] 0 0 t h1.1.2
    rw [e] at e1 e2
    refine of_run _ 16 cap _ _ _ _ _ _ _ w hS0 fun W gs go b hgs hgo hne hs ho => ?_
    have := of1_3T gs go bk off cap ws W (hS.up b) hws hwb hcap hs (hW.up b) ho ⟨hne, by omega, by omega⟩ (3 + 256 * l) (by rw [e1]; rfl) (by omega) l (by omega) (by omega) t.length (by rw [e1]; rfl) h1.1 e2.1 (by rw [e2.2]; exact hh) (by rw [e2.2]; exact e)
    rw [e2.2] at this
    exact this
theorem of_no (bk off cap : Nat) (ws : List Nat) (w : World) (hS : Start w) (hws : ws.length = 16) (hwb : ∀ x ∈ ws, x < 18446744073709551616) (hcap : 16 ≤ cap) (hW : WdsAt w bk off ws) (x0 : Nat) (h0 : ws[0]? = some x0) (hx0 : x0 ≠ 0) (hno : noI ws) : Calls Tryd.prog 17 #[.slice (some ⟨bk, off, none⟩) 16 cap] w fun e w' => e = .returned (.tuple #[inV 0 0 0 (.slice none 0 0) 0 0 [], .int .i64 240]) ∧ Below w.heap.size w w' := by
  have hS0 := hS.pos
  have hlt := hW.lt
  refine of_pan _ 16 cap w fun W gs go gk b hgs hgo hne hs ho => ?_
  obtain ⟨l, el⟩ : ∃ l, x0 / 256 % 16777216 = l := ⟨_, rfl⟩
  obtain ⟨x1, h1⟩ : ∃ x, ws[1]? = some x := ⟨_, List.getElem?_eq_getElem (by omega)⟩
  obtain ⟨x2, h2⟩ : ∃ x, ws[2]? = some x := ⟨_, List.getElem?_eq_getElem (by omega)⟩
  obtain ⟨x3, h3⟩ : ∃ x, ws[3]? = some x := ⟨_, List.getElem?_eq_getElem (by omega)⟩
  have hn3 : go ≠ gs ∧ 0 < go ∧ bk ≠ go := ⟨hne, by omega, by omega⟩
  have hkc : x0 % 256 = 0 ∨ x0 % 256 = 1 ∨ x0 % 256 = 2 ∨ x0 % 256 = 3 ∨ 3 < x0 % 256 := by omega
  rcases hkc with hk | hk | hk | hk | hk
  · by_cases hok : okI 0 (l : Int) 0 [] 0 0 []
    · exact of1_0W gk gs go bk off cap ws W (hS.up b) hws hwb hcap hs (hW.up b) ho hn3 x0 h0 hx0 l el hk hok (hno _ _ _ _ _ _ _ hok)
    · exact of1_0C gk gs go bk off cap ws W (hS.up b) hws hwb hcap hs (hW.up b) ho hn3 x0 h0 hx0 l el hk hok
  · by_cases hr : 65536 < x1 ∨ ¬mapW (wsZ ws)
    · exact of1_1R gk gs go bk off cap ws W (hS.up b) hws hwb hcap hs (hW.up b) ho hn3 x0 h0 hx0 l el hk x1 h1 hr
    have hr1 : x1 ≤ 65536 := Nat.le_of_not_lt fun h => hr (.inl h)
    have hr2 : mapW (wsZ ws) := Classical.not_not.1 fun h => hr (.inr h)
    by_cases hok : okI 1 (l : Int) (x1 : Int) (outZ (wsZ ws)) 0 0 []
    · exact of1_1W gk gs go bk off cap ws W (hS.up b) hws hwb hcap hs (hW.up b) ho hn3 x0 h0 hx0 l el hk x1 h1 hr1 hr2 hok (hno _ _ _ _ _ _ _ hok)
    · exact of1_1C gk gs go bk off cap ws W (hS.up b) hws hwb hcap hs (hW.up b) ho hn3 x0 h0 hx0 l el hk x1 h1 hr1 hr2 hok
  · by_cases hr : 65536 < x2 ∨ 65536 < x3
    · exact of1_2R gk gs go bk off cap ws W (hS.up b) hws hwb hcap hs (hW.up b) ho hn3 x0 h0 hx0 l el hk x2 x3 h2 h3 hr
    have hr1 : x2 ≤ 65536 ∧ x3 ≤ 65536 := by omega
    by_cases hok : okI 2 (l : Int) 0 [] (x2 : Int) (x3 : Int) []
    · exact of1_2W gk gs go bk off cap ws W (hS.up b) hws hwb hcap hs (hW.up b) ho hn3 x0 h0 hx0 l el hk x2 x3 h2 h3 hr1 hok (hno _ _ _ _ _ _ _ hok)
    · exact of1_2C gk gs go bk off cap ws W (hS.up b) hws hwb hcap hs (hW.up b) ho hn3 x0 h0 hx0 l el hk x2 x3 h2 h3 hr1 hok
  · by_cases hr : ¬(1 ≤ x1 ∧ x1 ≤ 112) ∨ ¬tgOk ws x1
    · exact of1_3R gk gs go bk off cap ws W (hS.up b) hws hwb hcap hs (hW.up b) ho hn3 x0 h0 hx0 l el hk x1 h1 hr
    have hr1 : 1 ≤ x1 ∧ x1 ≤ 112 := Classical.not_not.1 fun h => hr (.inl h)
    have hr2 : tgOk ws x1 := Classical.not_not.1 fun h => hr (.inr h)
    by_cases hok : okI 3 (l : Int) 0 [] 0 0 (tgW ws x1)
    · exact of1_3W gk gs go bk off cap ws W (hS.up b) hws hwb hcap hs (hW.up b) ho hn3 x0 h0 hx0 l el hk x1 h1 hr1 hr2 hok (hno _ _ _ _ _ _ _ hok)
    · exact of1_3C gk gs go bk off cap ws W (hS.up b) hws hwb hcap hs (hW.up b) ho hn3 x0 h0 hx0 l el hk x1 h1 hr1 hr2 hok
  · exact of1_X gk gs go bk off cap ws W (hS.up b) hws hwb hcap hs (hW.up b) ho hn3 x0 h0 hx0 l el hk
--C law14_few | hfa @w | ⟨rfl, @b⟩
--C law14_few | hfb @w | ⟨rfl, @b⟩
--C inode_Same | hsa @w (q.trans (b'.mono q.size)) | ⟨rfl, @b⟩
--C inode_Same | hss @w (q.trans (b'.mono q.size)) | ⟨rfl, @b⟩
--C ref14_Same | hsr @w (q.trans (b'.mono q.size)) | ⟨rfl, @b⟩
--C law14_works | works_any @w (hSF _ q) | ⟨rfl, @b⟩
--C law14_works | works_any @w (hSF _ (q.trans (b'.mono q.size))) | ⟨rfl, @b⟩
set_option linter.unusedVariables false
set_option linter.unusedSimpArgs false
set_option maxRecDepth 100000
set_option maxHeartbeats 8000000
section
variable {P : Program} {w : World} {t u T : TypeId} {o : Oper} {x y : Operand} {n e k : Nat} {D : List Deferred} {M : Slots}
theorem R.quoUE {a b z : Nat} (ho : o.op = .binOp .quo t x y u) (hx : evM M x = some (.int .u64 (a : Int))) (hy : evM M y = some (.int .u64 (b : Int))) (h : 0 < b) (hz : a / b = z) (hl : a < 18446744073709551616) : Runs P n D M o w (.value (.int .u64 (z : Int))) w := R.bin ho hx hy (by
  have e : ((a : Int).tdiv (b : Int)) = ((a / b : Nat) : Int) := by rw [Int.tdiv_eq_ediv_of_nonneg (by omega)]; simp
  have h3 : a / b < 18446744073709551616 := Nat.lt_of_le_of_lt (Nat.div_le_self _ _) hl
  subst hz
  obtain ⟨q, hq⟩ : ∃ q, a / b = q := ⟨_, rfl⟩
  rw [hq] at e h3 ⊢
  have hb : b ≠ 0 := by omega
  have hw : IntKind.u64.wrap (q : Int) = (q : Int) := IntWalk.u64_in _ (by omega)
  simp [eqGuard, binOp, Op.intDiv, hb, e, hw])
theorem I.slToK {kk : IntKind} {a : Option Addr} {len cap hi : Nat} (h : slB P T = some (e, k)) (h2 : hi ≤ cap) : (Instr.sliceAt T (.slice a len cap) none (some (.int kk (hi : Int))) none).run P w = .ok (.slice a hi cap) w := by
  refine slAt_sl h ?_
  obtain ⟨hu, hs⟩ := sl_of h
  obtain ⟨i, hi', hsz⟩ : ∃ i, P.info? e = some i ∧ i.size = k := by
    unfold szB at hs
    cases hq : P.info? e with
    | none => rw [hq] at hs; cases hs
    | some i => rw [hq] at hs; exact ⟨i, rfl, by simpa using hs⟩
  simp [Instr.slice, run_underlying hu, Instr.sliceBounds, run_sliceBound, sizeOf, typeInfo, hi', hsz, (by omega : (hi : Int) ≤ (cap : Int))]
  cases a <;> simp [Addr.add]
end
abbrev zrV : Value := inV 0 0 0 (.slice none 0 0) 0 0 []
section
variable (bk off cap : Nat) (ws : List Nat) (w : World) (x0 x1 x2 x3 l : Nat)
/-- What Of takes, and its first words. -/
structure FoW : Prop where
  W : WdsAt w bk off ws
  len : ws.length = 16
  b : ∀ x ∈ ws, x < 18446744073709551616
  e0 : ws[0]? = some x0
  e1 : ws[1]? = some x1
  e2 : ws[2]? = some x2
  e3 : ws[3]? = some x3
  nz : x0 ≠ 0
  el : x0 / 256 = l
end
theorem dof_err (bk off cap : Nat) (ws : List Nat) (w : World) (x0 x1 x2 x3 l : Nat) (F : FoW bk off ws w x0 x1 x2 x3 l) (h : 4294967296 ≤ x0 ∨ 65536 < x1 ∨ ((4611686018427387904 < x2 ∨ 4611686018427387904 < x3) ∧ x0 % 256 ≠ 3)) : Calls Tryd.prog 19 #[.slice (some ⟨bk, off, none⟩) 16 cap] w fun e w' => e = .returned (.tuple #[zrV, .int .i64 240]) ∧ Below w.heap.size w w' := by
  have q := Below.refl w.heap.size w
  have hWF : ∀ X, Below w.heap.size w X → WdsAt X bk off ws := fun X b => F.W.up b
  have c0 := F.W.cells _ _ F.e0
  have c1 := F.W.cells _ _ F.e1
  have c2 := F.W.cells _ _ F.e2
  have c3 := F.W.cells _ _ F.e3
  have hb0 := F.b _ (List.mem_of_getElem? F.e0)
  have hb1 := F.b _ (List.mem_of_getElem? F.e1)
  have hb2 := F.b _ (List.mem_of_getElem? F.e2)
  have hb3 := F.b _ (List.mem_of_getElem? F.e3)
  have hbk := F.W.lt
  have nz := F.nz
  have el := F.el
  clear F
  by_cases hA : 4294967296 ≤ x0
  · refine X.fn Tryd.func19 rfl (n := 145) rfl rfl ?_
    refine Zr ?_
    refine LL.alloc ([.int .i64 0, .int .i64 0, .int .i64 0, .slice none 0 0, .int .i64 0, .int .i64 0, .string { data := { toList := [] } }]) rfl rfl rfl rfl rfl ?_
    intro W2 g3 eg3 r4 z5 b1
    replace q := Zu q b1; replace c0 := cell_up c0 b1; replace c1 := cell_up c1 b1; replace c2 := cell_up c2 b1; replace c3 := cell_up c3 b1; refine Za ?_; refine Zq ?_; refine Zc ?_; refine Zr ?_; refine Zm ?_; refine Zn ?_; refine ZneF ?_; refine Zq ?_; refine ZN ?_; refine ZK ?_; refine ZT ?_; refine Zc ?_; refine Zr ?_; refine Zm ?_; refine Zi ?_; refine Zk ?_; refine ZeqF ?_; refine Zq ?_; refine ZN ?_
    refine ZK ?_; refine ZT ?_; refine Zr ?_; refine Zm ?_; refine Zi ?_; refine Zk ?_
    refine LL.val (R.remUE (b := 256) (z := x0 % 256) rfl rfl rfl (by decide) rfl) rfl rfl rfl ?_
    refine LL.val (R.convI rfl rfl rfl rfl (wrapI (by omega) (by omega))) rfl rfl rfl ?_
    refine LL.val (R.buildV rfl rfl (v := .agg #[Value.int IntKind.i64 ↑(x0 % 256), Value.int IntKind.i64 0, Value.int IntKind.i64 0, Value.slice none 0 0, Value.int IntKind.i64 0, Value.int IntKind.i64 0, Value.string { data := #[] }]) (fun _ => by kernel_rfl)) rfl rfl rfl ?_
    have l6 := r4.lt
    refine LL.alloc ([.int .i64 0, .int .i64 0, .int .i64 0, .slice none 0 0, .int .i64 0, .int .i64 0, .string { data := { toList := [] } }]) rfl rfl rfl rfl rfl ?_
    intro W8 g9 eg9 r10 z11 b7
    replace r4 := r4.up b7; replace b1 := Zu b1 b7; replace q := Zu q b7; replace c0 := cell_up c0 b7; replace c1 := cell_up c1 b7; replace c2 := cell_up c2 b7; replace c3 := cell_up c3 b7
    refine LL.storeN (vs := [.int .i64 ↑(x0 % 256), .int .i64 0, .int .i64 0, .slice none 0 0, .int .i64 0, .int .i64 0, .string { data := #[] }]) rfl rfl rfl rfl r10 (by exact Nat.le_of_ble_eq_true rfl) (ones_of rfl) rfl rfl ?_
    intro W13 r14 b12 z15
    have hlb12 := r10.lt
    replace r14 : RowL W13 _ 25 [.int .i64 ↑(x0 % 256), .int .i64 0, .int .i64 0, .slice none 0 0, .int .i64 0, .int .i64 0, .string { data := #[] }] := r14
    clear r10
    replace b7 := Zg b7 b12; replace r4 := Zd r4 b12; replace b1 := Zg b1 b12; replace q := Zg q b12; replace c0 := Ze c0 b12; replace c1 := Ze c1 b12; replace c2 := Ze c2 b12; replace c3 := Ze c3 b12
    have r10 := r14
    clear r14
    refine Zq ?_; refine Zc ?_; refine Zr ?_; refine Zm ?_; refine Zi ?_; refine Zk ?_; refine ZgeT ?_; refine Zm ?_; refine Zs ?_; refine Zs ?_; refine Zs ?_; refine Zs ?_; refine Zp ?_; refine Zm ?_; refine Zs ?_; refine Zs ?_; refine Zs ?_; refine Zs ?_; refine Zp ?_; refine Zm ?_; refine Zs ?_; refine Zs ?_; refine Zs ?_; refine Zs ?_; refine Zp ?_; refine Zq ?_; refine ZY ?_; refine Zr ?_; refine Zf ?_
    refine Zl r10 ?_
    refine LL.vsplit (fun h => R.neT rfl rfl rfl h) (fun h => R.neF rfl rfl rfl (Decidable.not_not.1 h)) rfl rfl rfl (fun c16 => ?_) (fun c16 => ?_)
    refine Zm ?_; refine Zs ?_; refine Zs ?_; refine Zs ?_; refine Zs ?_; refine Zp ?_; refine Zm ?_; refine Zs ?_; refine Zs ?_; refine Zs ?_; refine Zs ?_; refine Zp ?_; refine Zq ?_; refine ZY ?_; refine Zr ?_
    refine LL.val (R.buildV rfl rfl (v := .agg #[Value.int IntKind.i64 0, Value.int IntKind.i64 0, Value.int IntKind.i64 0, Value.slice none 0 0, Value.int IntKind.i64 0, Value.int IntKind.i64 0, Value.string { data := #[] }]) (fun _ => by kernel_rfl)) rfl rfl rfl ?_
    refine LL.storeN (vs := [.int .i64 0, .int .i64 0, .int .i64 0, .slice none 0 0, .int .i64 0, .int .i64 0, .string { data := #[] }]) rfl rfl rfl rfl r4 (by exact Nat.le_of_ble_eq_true rfl) (ones_of rfl) rfl rfl ?_
    intro W18 r19 b17 z20
    have hlb17 := r4.lt
    replace r19 : RowL W18 _ 25 [.int .i64 0, .int .i64 0, .int .i64 0, .slice none 0 0, .int .i64 0, .int .i64 0, .string { data := #[] }] := r19
    clear r4
    replace b1 := Zg b1 b17; replace q := Zg q b17; replace c0 := Ze c0 b17; replace c1 := Ze c1 b17; replace c2 := Ze c2 b17; replace c3 := Ze c3 b17; replace r10 := Zd r10 b17
    have r4 := r19
    clear r19
    refine Za ?_; refine Zq ?_; refine ZR ?_; refine EE.thenR ?_
    refine EE.ret2 rfl ⟨_, rfl, lvNc (RowL.cells0 (by assumption)) (by rfl) (by rfl)⟩ rfl ?_
    exact ⟨rfl, q⟩
    refine Zm ?_; refine Zm ?_; refine Zi ?_; refine Zk ?_; refine ZgeT ?_; refine Zp ?_; refine Zm ?_; refine Zs ?_; refine Zs ?_; refine Zs ?_; refine Zs ?_; refine Zp ?_; refine Zq ?_; refine ZY ?_; refine Zr ?_
    refine LL.val (R.buildV rfl rfl (v := .agg #[Value.int IntKind.i64 0, Value.int IntKind.i64 0, Value.int IntKind.i64 0, Value.slice none 0 0, Value.int IntKind.i64 0, Value.int IntKind.i64 0, Value.string { data := #[] }]) (fun _ => by kernel_rfl)) rfl rfl rfl ?_
    refine LL.storeN (vs := [.int .i64 0, .int .i64 0, .int .i64 0, .slice none 0 0, .int .i64 0, .int .i64 0, .string { data := #[] }]) rfl rfl rfl rfl r4 (by exact Nat.le_of_ble_eq_true rfl) (ones_of rfl) rfl rfl ?_
    intro W22 r23 b21 z24
    have hlb21 := r4.lt
    replace r23 : RowL W22 _ 25 [.int .i64 0, .int .i64 0, .int .i64 0, .slice none 0 0, .int .i64 0, .int .i64 0, .string { data := #[] }] := r23
    clear r4
    replace b1 := Zg b1 b21; replace q := Zg q b21; replace c0 := Ze c0 b21; replace c1 := Ze c1 b21; replace c2 := Ze c2 b21; replace c3 := Ze c3 b21; replace r10 := Zd r10 b21
    have r4 := r23
    clear r23
    refine Za ?_; refine Zq ?_; refine ZR ?_; refine EE.thenR ?_
    refine EE.ret2 rfl ⟨_, rfl, lvNc (RowL.cells0 (by assumption)) (by rfl) (by rfl)⟩ rfl ?_
    exact ⟨rfl, q⟩
  by_cases hB : 65536 < x1
  · refine X.fn Tryd.func19 rfl (n := 145) rfl rfl ?_
    refine Zr ?_
    refine LL.alloc ([.int .i64 0, .int .i64 0, .int .i64 0, .slice none 0 0, .int .i64 0, .int .i64 0, .string { data := { toList := [] } }]) rfl rfl rfl rfl rfl ?_
    intro Wa2 ga3 ega3 ra4 za5 ba1
    replace q := Zu q ba1; replace c0 := cell_up c0 ba1; replace c1 := cell_up c1 ba1; replace c2 := cell_up c2 ba1; replace c3 := cell_up c3 ba1; refine Za ?_; refine Zq ?_; refine Zc ?_; refine Zr ?_; refine Zm ?_; refine Zn ?_; refine ZneF ?_; refine Zq ?_; refine ZN ?_; refine ZK ?_; refine ZT ?_; refine Zc ?_; refine Zr ?_; refine Zm ?_; refine Zi ?_; refine Zk ?_; refine ZeqF ?_; refine Zq ?_
    refine ZN ?_; refine ZK ?_; refine ZT ?_; refine Zr ?_; refine Zm ?_; refine Zi ?_; refine Zk ?_
    refine LL.val (R.remUE (b := 256) (z := x0 % 256) rfl rfl rfl (by decide) rfl) rfl rfl rfl ?_
    refine LL.val (R.convI rfl rfl rfl rfl (wrapI (by omega) (by omega))) rfl rfl rfl ?_
    refine LL.val (R.buildV rfl rfl (v := .agg #[Value.int IntKind.i64 ↑(x0 % 256), Value.int IntKind.i64 0, Value.int IntKind.i64 0, Value.slice none 0 0, Value.int IntKind.i64 0, Value.int IntKind.i64 0, Value.string { data := #[] }]) (fun _ => by kernel_rfl)) rfl rfl rfl ?_
    have la6 := ra4.lt
    refine LL.alloc ([.int .i64 0, .int .i64 0, .int .i64 0, .slice none 0 0, .int .i64 0, .int .i64 0, .string { data := { toList := [] } }]) rfl rfl rfl rfl rfl ?_
    intro Wa8 ga9 ega9 ra10 za11 ba7
    replace ra4 := ra4.up ba7; replace ba1 := Zu ba1 ba7; replace q := Zu q ba7; replace c0 := cell_up c0 ba7; replace c1 := cell_up c1 ba7; replace c2 := cell_up c2 ba7; replace c3 := cell_up c3 ba7
    refine LL.storeN (vs := [.int .i64 ↑(x0 % 256), .int .i64 0, .int .i64 0, .slice none 0 0, .int .i64 0, .int .i64 0, .string { data := #[] }]) rfl rfl rfl rfl ra10 (by exact Nat.le_of_ble_eq_true rfl) (ones_of rfl) rfl rfl ?_
    intro Wa13 ra14 ba12 za15
    have hlba12 := ra10.lt
    replace ra14 : RowL Wa13 _ 25 [.int .i64 ↑(x0 % 256), .int .i64 0, .int .i64 0, .slice none 0 0, .int .i64 0, .int .i64 0, .string { data := #[] }] := ra14
    clear ra10
    replace ba7 := Zg ba7 ba12; replace ra4 := Zd ra4 ba12; replace ba1 := Zg ba1 ba12; replace q := Zg q ba12; replace c0 := Ze c0 ba12; replace c1 := Ze c1 ba12; replace c2 := Ze c2 ba12; replace c3 := Ze c3 ba12
    have ra10 := ra14
    clear ra14
    refine Zq ?_; refine Zc ?_; refine Zr ?_; refine Zm ?_; refine Zi ?_; refine Zk ?_; refine ZgeF ?_; refine Zm ?_; refine Zm ?_; refine Zi ?_; refine Zk ?_; refine ZgtT ?_; refine Zp ?_; refine Zm ?_; refine Zs ?_; refine Zs ?_; refine Zs ?_; refine Zs ?_; refine Zp ?_; refine Zm ?_; refine Zs ?_; refine Zs ?_; refine Zs ?_; refine Zs ?_; refine Zp ?_; refine Zq ?_; refine ZY ?_; refine Zr ?_; refine Zf ?_
    refine Zl ra10 ?_
    refine LL.vsplit (fun h => R.neT rfl rfl rfl h) (fun h => R.neF rfl rfl rfl (Decidable.not_not.1 h)) rfl rfl rfl (fun ca16 => ?_) (fun ca16 => ?_)
    refine Zm ?_; refine Zs ?_; refine Zs ?_; refine Zs ?_; refine Zs ?_; refine Zp ?_; refine Zm ?_; refine Zs ?_; refine Zs ?_; refine Zs ?_; refine Zs ?_; refine Zp ?_; refine Zq ?_; refine ZY ?_; refine Zr ?_
    refine LL.val (R.buildV rfl rfl (v := .agg #[Value.int IntKind.i64 0, Value.int IntKind.i64 0, Value.int IntKind.i64 0, Value.slice none 0 0, Value.int IntKind.i64 0, Value.int IntKind.i64 0, Value.string { data := #[] }]) (fun _ => by kernel_rfl)) rfl rfl rfl ?_
    refine LL.storeN (vs := [.int .i64 0, .int .i64 0, .int .i64 0, .slice none 0 0, .int .i64 0, .int .i64 0, .string { data := #[] }]) rfl rfl rfl rfl ra4 (by exact Nat.le_of_ble_eq_true rfl) (ones_of rfl) rfl rfl ?_
    intro Wa18 ra19 ba17 za20
    have hlba17 := ra4.lt
    replace ra19 : RowL Wa18 _ 25 [.int .i64 0, .int .i64 0, .int .i64 0, .slice none 0 0, .int .i64 0, .int .i64 0, .string { data := #[] }] := ra19
    clear ra4
    replace ba1 := Zg ba1 ba17; replace q := Zg q ba17; replace c0 := Ze c0 ba17; replace c1 := Ze c1 ba17; replace c2 := Ze c2 ba17; replace c3 := Ze c3 ba17; replace ra10 := Zd ra10 ba17
    have ra4 := ra19
    clear ra19
    refine Za ?_; refine Zq ?_; refine ZR ?_; refine EE.thenR ?_
    refine EE.ret2 rfl ⟨_, rfl, lvNc (RowL.cells0 (by assumption)) (by rfl) (by rfl)⟩ rfl ?_
    exact ⟨rfl, q⟩
    refine Zm ?_; refine Zm ?_; refine Zi ?_; refine Zk ?_; refine ZgeF ?_; refine Zp ?_; refine Zm ?_; refine Zm ?_; refine Zi ?_; refine Zk ?_; refine ZgtT ?_; refine Zp ?_; refine Zq ?_; refine ZY ?_; refine Zr ?_
    refine LL.val (R.buildV rfl rfl (v := .agg #[Value.int IntKind.i64 0, Value.int IntKind.i64 0, Value.int IntKind.i64 0, Value.slice none 0 0, Value.int IntKind.i64 0, Value.int IntKind.i64 0, Value.string { data := #[] }]) (fun _ => by kernel_rfl)) rfl rfl rfl ?_
    refine LL.storeN (vs := [.int .i64 0, .int .i64 0, .int .i64 0, .slice none 0 0, .int .i64 0, .int .i64 0, .string { data := #[] }]) rfl rfl rfl rfl ra4 (by exact Nat.le_of_ble_eq_true rfl) (ones_of rfl) rfl rfl ?_
    intro Wa22 ra23 ba21 za24
    have hlba21 := ra4.lt
    replace ra23 : RowL Wa22 _ 25 [.int .i64 0, .int .i64 0, .int .i64 0, .slice none 0 0, .int .i64 0, .int .i64 0, .string { data := #[] }] := ra23
    clear ra4
    replace ba1 := Zg ba1 ba21; replace q := Zg q ba21; replace c0 := Ze c0 ba21; replace c1 := Ze c1 ba21; replace c2 := Ze c2 ba21; replace c3 := Ze c3 ba21; replace ra10 := Zd ra10 ba21
    have ra4 := ra23
    clear ra23
    refine Za ?_; refine Zq ?_; refine ZR ?_; refine EE.thenR ?_
    refine EE.ret2 rfl ⟨_, rfl, lvNc (RowL.cells0 (by assumption)) (by rfl) (by rfl)⟩ rfl ?_
    exact ⟨rfl, q⟩
  by_cases hC : 4611686018427387904 < x2
  · refine X.fn Tryd.func19 rfl (n := 145) rfl rfl ?_
    refine Zr ?_
    refine LL.alloc ([.int .i64 0, .int .i64 0, .int .i64 0, .slice none 0 0, .int .i64 0, .int .i64 0, .string { data := { toList := [] } }]) rfl rfl rfl rfl rfl ?_
    intro Wb2 gb3 egb3 rb4 zb5 bb1
    replace q := Zu q bb1; replace c0 := cell_up c0 bb1; replace c1 := cell_up c1 bb1; replace c2 := cell_up c2 bb1; replace c3 := cell_up c3 bb1; refine Za ?_; refine Zq ?_; refine Zc ?_; refine Zr ?_; refine Zm ?_; refine Zn ?_; refine ZneF ?_; refine Zq ?_; refine ZN ?_; refine ZK ?_; refine ZT ?_; refine Zc ?_; refine Zr ?_; refine Zm ?_; refine Zi ?_; refine Zk ?_; refine ZeqF ?_; refine Zq ?_
    refine ZN ?_; refine ZK ?_; refine ZT ?_; refine Zr ?_; refine Zm ?_; refine Zi ?_; refine Zk ?_
    refine LL.val (R.remUE (b := 256) (z := x0 % 256) rfl rfl rfl (by decide) rfl) rfl rfl rfl ?_
    refine LL.val (R.convI rfl rfl rfl rfl (wrapI (by omega) (by omega))) rfl rfl rfl ?_
    refine LL.val (R.buildV rfl rfl (v := .agg #[Value.int IntKind.i64 ↑(x0 % 256), Value.int IntKind.i64 0, Value.int IntKind.i64 0, Value.slice none 0 0, Value.int IntKind.i64 0, Value.int IntKind.i64 0, Value.string { data := #[] }]) (fun _ => by kernel_rfl)) rfl rfl rfl ?_
    have lb6 := rb4.lt
    refine LL.alloc ([.int .i64 0, .int .i64 0, .int .i64 0, .slice none 0 0, .int .i64 0, .int .i64 0, .string { data := { toList := [] } }]) rfl rfl rfl rfl rfl ?_
    intro Wb8 gb9 egb9 rb10 zb11 bb7
    replace rb4 := rb4.up bb7; replace bb1 := Zu bb1 bb7; replace q := Zu q bb7; replace c0 := cell_up c0 bb7; replace c1 := cell_up c1 bb7; replace c2 := cell_up c2 bb7; replace c3 := cell_up c3 bb7
    refine LL.storeN (vs := [.int .i64 ↑(x0 % 256), .int .i64 0, .int .i64 0, .slice none 0 0, .int .i64 0, .int .i64 0, .string { data := #[] }]) rfl rfl rfl rfl rb10 (by exact Nat.le_of_ble_eq_true rfl) (ones_of rfl) rfl rfl ?_
    intro Wb13 rb14 bb12 zb15
    have hlbb12 := rb10.lt
    replace rb14 : RowL Wb13 _ 25 [.int .i64 ↑(x0 % 256), .int .i64 0, .int .i64 0, .slice none 0 0, .int .i64 0, .int .i64 0, .string { data := #[] }] := rb14
    clear rb10
    replace bb7 := Zg bb7 bb12; replace rb4 := Zd rb4 bb12; replace bb1 := Zg bb1 bb12; replace q := Zg q bb12; replace c0 := Ze c0 bb12; replace c1 := Ze c1 bb12; replace c2 := Ze c2 bb12; replace c3 := Ze c3 bb12
    have rb10 := rb14
    clear rb14
    refine Zq ?_; refine Zc ?_; refine Zr ?_; refine Zm ?_; refine Zi ?_; refine Zk ?_; refine ZgeF ?_; refine Zm ?_; refine Zm ?_; refine Zi ?_; refine Zk ?_; refine ZgtF ?_; refine Zp ?_; refine Zm ?_; refine Zm ?_; refine Zi ?_; refine Zk ?_; refine ZgtT ?_; refine Zp ?_; refine Zm ?_; refine Zs ?_; refine Zs ?_; refine Zs ?_; refine Zs ?_; refine Zp ?_; refine Zq ?_; refine ZY ?_; refine Zr ?_
    refine Zf ?_; refine Zl rb10 ?_; refine ZneT ?_; refine Zm ?_; refine Zs ?_; refine Zs ?_; refine Zs ?_; refine Zs ?_; refine Zp ?_; refine Zm ?_; refine Zs ?_; refine Zs ?_; refine Zs ?_; refine Zs ?_; refine Zp ?_; refine Zq ?_; refine ZY ?_; refine Zr ?_
    refine LL.val (R.buildV rfl rfl (v := .agg #[Value.int IntKind.i64 0, Value.int IntKind.i64 0, Value.int IntKind.i64 0, Value.slice none 0 0, Value.int IntKind.i64 0, Value.int IntKind.i64 0, Value.string { data := #[] }]) (fun _ => by kernel_rfl)) rfl rfl rfl ?_
    refine LL.storeN (vs := [.int .i64 0, .int .i64 0, .int .i64 0, .slice none 0 0, .int .i64 0, .int .i64 0, .string { data := #[] }]) rfl rfl rfl rfl rb4 (by exact Nat.le_of_ble_eq_true rfl) (ones_of rfl) rfl rfl ?_
    intro Wb17 rb18 bb16 zb19
    have hlbb16 := rb4.lt
    replace rb18 : RowL Wb17 _ 25 [.int .i64 0, .int .i64 0, .int .i64 0, .slice none 0 0, .int .i64 0, .int .i64 0, .string { data := #[] }] := rb18
    clear rb4
    replace bb1 := Zg bb1 bb16; replace q := Zg q bb16; replace c0 := Ze c0 bb16; replace c1 := Ze c1 bb16; replace c2 := Ze c2 bb16; replace c3 := Ze c3 bb16; replace rb10 := Zd rb10 bb16
    have rb4 := rb18
    clear rb18
    refine Za ?_; refine Zq ?_; refine ZR ?_; refine EE.thenR ?_
    refine EE.ret2 rfl ⟨_, rfl, lvNc (RowL.cells0 (by assumption)) (by rfl) (by rfl)⟩ rfl ?_
    exact ⟨rfl, q⟩
  · refine X.fn Tryd.func19 rfl (n := 145) rfl rfl ?_
    refine Zr ?_
    refine LL.alloc ([.int .i64 0, .int .i64 0, .int .i64 0, .slice none 0 0, .int .i64 0, .int .i64 0, .string { data := { toList := [] } }]) rfl rfl rfl rfl rfl ?_
    intro Wc2 gc3 egc3 rc4 zc5 bc1
    replace q := Zu q bc1; replace c0 := cell_up c0 bc1; replace c1 := cell_up c1 bc1; replace c2 := cell_up c2 bc1; replace c3 := cell_up c3 bc1; refine Za ?_; refine Zq ?_; refine Zc ?_; refine Zr ?_; refine Zm ?_; refine Zn ?_; refine ZneF ?_; refine Zq ?_; refine ZN ?_; refine ZK ?_; refine ZT ?_; refine Zc ?_; refine Zr ?_; refine Zm ?_; refine Zi ?_; refine Zk ?_; refine ZeqF ?_; refine Zq ?_
    refine ZN ?_; refine ZK ?_; refine ZT ?_; refine Zr ?_; refine Zm ?_; refine Zi ?_; refine Zk ?_
    refine LL.val (R.remUE (b := 256) (z := x0 % 256) rfl rfl rfl (by decide) rfl) rfl rfl rfl ?_
    refine LL.val (R.convI rfl rfl rfl rfl (wrapI (by omega) (by omega))) rfl rfl rfl ?_
    refine LL.val (R.buildV rfl rfl (v := .agg #[Value.int IntKind.i64 ↑(x0 % 256), Value.int IntKind.i64 0, Value.int IntKind.i64 0, Value.slice none 0 0, Value.int IntKind.i64 0, Value.int IntKind.i64 0, Value.string { data := #[] }]) (fun _ => by kernel_rfl)) rfl rfl rfl ?_
    have lc6 := rc4.lt
    refine LL.alloc ([.int .i64 0, .int .i64 0, .int .i64 0, .slice none 0 0, .int .i64 0, .int .i64 0, .string { data := { toList := [] } }]) rfl rfl rfl rfl rfl ?_
    intro Wc8 gc9 egc9 rc10 zc11 bc7
    replace rc4 := rc4.up bc7; replace bc1 := Zu bc1 bc7; replace q := Zu q bc7; replace c0 := cell_up c0 bc7; replace c1 := cell_up c1 bc7; replace c2 := cell_up c2 bc7; replace c3 := cell_up c3 bc7
    refine LL.storeN (vs := [.int .i64 ↑(x0 % 256), .int .i64 0, .int .i64 0, .slice none 0 0, .int .i64 0, .int .i64 0, .string { data := #[] }]) rfl rfl rfl rfl rc10 (by exact Nat.le_of_ble_eq_true rfl) (ones_of rfl) rfl rfl ?_
    intro Wc13 rc14 bc12 zc15
    have hlbc12 := rc10.lt
    replace rc14 : RowL Wc13 _ 25 [.int .i64 ↑(x0 % 256), .int .i64 0, .int .i64 0, .slice none 0 0, .int .i64 0, .int .i64 0, .string { data := #[] }] := rc14
    clear rc10
    replace bc7 := Zg bc7 bc12; replace rc4 := Zd rc4 bc12; replace bc1 := Zg bc1 bc12; replace q := Zg q bc12; replace c0 := Ze c0 bc12; replace c1 := Ze c1 bc12; replace c2 := Ze c2 bc12; replace c3 := Ze c3 bc12
    have rc10 := rc14
    clear rc14
    refine Zq ?_; refine Zc ?_; refine Zr ?_; refine Zm ?_; refine Zi ?_; refine Zk ?_; refine ZgeF ?_; refine Zm ?_; refine Zm ?_; refine Zi ?_; refine Zk ?_; refine ZgtF ?_; refine Zp ?_; refine Zm ?_; refine Zm ?_; refine Zi ?_; refine Zk ?_; refine ZgtF ?_; refine Zp ?_; refine Zm ?_; refine Zm ?_; refine Zi ?_; refine Zk ?_; refine ZgtT ?_; refine Zp ?_; refine Zq ?_; refine ZY ?_; refine Zr ?_
    refine Zf ?_; refine Zl rc10 ?_; refine ZneT ?_; refine Zm ?_; refine Zs ?_; refine Zs ?_; refine Zs ?_; refine Zs ?_; refine Zp ?_; refine Zm ?_; refine Zs ?_; refine Zs ?_; refine Zs ?_; refine Zs ?_; refine Zp ?_; refine Zq ?_; refine ZY ?_; refine Zr ?_
    refine LL.val (R.buildV rfl rfl (v := .agg #[Value.int IntKind.i64 0, Value.int IntKind.i64 0, Value.int IntKind.i64 0, Value.slice none 0 0, Value.int IntKind.i64 0, Value.int IntKind.i64 0, Value.string { data := #[] }]) (fun _ => by kernel_rfl)) rfl rfl rfl ?_
    refine LL.storeN (vs := [.int .i64 0, .int .i64 0, .int .i64 0, .slice none 0 0, .int .i64 0, .int .i64 0, .string { data := #[] }]) rfl rfl rfl rfl rc4 (by exact Nat.le_of_ble_eq_true rfl) (ones_of rfl) rfl rfl ?_
    intro Wc17 rc18 bc16 zc19
    have hlbc16 := rc4.lt
    replace rc18 : RowL Wc17 _ 25 [.int .i64 0, .int .i64 0, .int .i64 0, .slice none 0 0, .int .i64 0, .int .i64 0, .string { data := #[] }] := rc18
    clear rc4
    replace bc1 := Zg bc1 bc16; replace q := Zg q bc16; replace c0 := Ze c0 bc16; replace c1 := Ze c1 bc16; replace c2 := Ze c2 bc16; replace c3 := Ze c3 bc16; replace rc10 := Zd rc10 bc16
    have rc4 := rc18
    clear rc18
    refine Za ?_; refine Zq ?_; refine ZR ?_; refine EE.thenR ?_
    refine EE.ret2 rfl ⟨_, rfl, lvNc (RowL.cells0 (by assumption)) (by rfl) (by rfl)⟩ rfl ?_
    exact ⟨rfl, q⟩
theorem dof_0 (bk off cap : Nat) (ws : List Nat) (w : World) (x0 x1 x2 x3 l : Nat) (F : FoW bk off ws w x0 x1 x2 x3 l) (hs : x0 < 4294967296 ∧ x1 ≤ 65536 ∧ (x0 % 256 = 3 ∨ x2 ≤ 4611686018427387904 ∧ x3 ≤ 4611686018427387904)) (hk : x0 % 256 = 0 ∨ 3 < x0 % 256) : Calls Tryd.prog 19 #[.slice (some ⟨bk, off, none⟩) 16 cap] w fun e w' => e = .returned (.tuple #[zrV, .int .i64 240]) ∧ Below w.heap.size w w' := by
  have q := Below.refl w.heap.size w
  have hWF : ∀ X, Below w.heap.size w X → WdsAt X bk off ws := fun X b => F.W.up b
  have c0 := F.W.cells _ _ F.e0
  have c1 := F.W.cells _ _ F.e1
  have c2 := F.W.cells _ _ F.e2
  have c3 := F.W.cells _ _ F.e3
  have hb0 := F.b _ (List.mem_of_getElem? F.e0)
  have hb1 := F.b _ (List.mem_of_getElem? F.e1)
  have hb2 := F.b _ (List.mem_of_getElem? F.e2)
  have hb3 := F.b _ (List.mem_of_getElem? F.e3)
  have hbk := F.W.lt
  have nz := F.nz
  have el := F.el
  have hwn := fun W => rinW_no ((x0 % 256 : Nat) : Int) (l : Int) 0 none 0 0 [] 0 0 [] W (ReadsT.nil _) (by decide) (by decide) (fun h => by
    obtain ⟨h1, h⟩ := h
    omega)
  clear F
  by_cases hC : 4611686018427387904 < x2
  · refine X.fn Tryd.func19 rfl (n := 145) rfl rfl ?_
    refine Zr ?_
    refine LL.alloc ([.int .i64 0, .int .i64 0, .int .i64 0, .slice none 0 0, .int .i64 0, .int .i64 0, .string { data := { toList := [] } }]) rfl rfl rfl rfl rfl ?_
    intro W9 g10 eg10 r11 z12 b8
    replace q := Zu q b8; replace c0 := cell_up c0 b8; replace c1 := cell_up c1 b8; replace c2 := cell_up c2 b8; replace c3 := cell_up c3 b8; refine Za ?_; refine Zq ?_; refine Zc ?_; refine Zr ?_; refine Zm ?_; refine Zn ?_; refine ZneT ?_; refine Zq ?_; refine ZY ?_; refine Zr ?_
    refine LL.val (R.buildV rfl rfl (v := .agg #[Value.int IntKind.i64 0, Value.int IntKind.i64 0, Value.int IntKind.i64 0, Value.slice none 0 0, Value.int IntKind.i64 0, Value.int IntKind.i64 0, Value.string { data := #[] }]) (fun _ => by kernel_rfl)) rfl rfl rfl ?_
    refine LL.storeN (vs := [.int .i64 0, .int .i64 0, .int .i64 0, .slice none 0 0, .int .i64 0, .int .i64 0, .string { data := #[] }]) rfl rfl rfl rfl r11 (by exact Nat.le_of_ble_eq_true rfl) (ones_of rfl) rfl rfl ?_
    intro W62 r63 b61 z64
    have hlb61 := r11.lt
    replace r63 : RowL W62 _ 25 [.int .i64 0, .int .i64 0, .int .i64 0, .slice none 0 0, .int .i64 0, .int .i64 0, .string { data := #[] }] := r63
    clear r11
    replace b8 := Zg b8 b61; replace q := Zg q b61; replace c0 := Ze c0 b61; replace c1 := Ze c1 b61; replace c2 := Ze c2 b61; replace c3 := Ze c3 b61
    have r11 := r63
    clear r63
    refine Za ?_; refine Zq ?_; refine ZR ?_; refine EE.thenR ?_
    refine EE.ret2 rfl ⟨_, rfl, lvNc (RowL.cells0 (by assumption)) (by rfl) (by rfl)⟩ rfl ?_
    exact ⟨rfl, q⟩
  by_cases hD : 4611686018427387904 < x3
  · refine X.fn Tryd.func19 rfl (n := 145) rfl rfl ?_
    refine Zr ?_
    refine LL.alloc ([.int .i64 0, .int .i64 0, .int .i64 0, .slice none 0 0, .int .i64 0, .int .i64 0, .string { data := { toList := [] } }]) rfl rfl rfl rfl rfl ?_
    intro Wa9 ga10 ega10 ra11 za12 ba8
    replace q := Zu q ba8; replace c0 := cell_up c0 ba8; replace c1 := cell_up c1 ba8; replace c2 := cell_up c2 ba8; replace c3 := cell_up c3 ba8; refine Za ?_; refine Zq ?_; refine Zc ?_; refine Zr ?_; refine Zm ?_; refine Zn ?_; refine ZneT ?_; refine Zq ?_; refine ZY ?_; refine Zr ?_
    refine LL.val (R.buildV rfl rfl (v := .agg #[Value.int IntKind.i64 0, Value.int IntKind.i64 0, Value.int IntKind.i64 0, Value.slice none 0 0, Value.int IntKind.i64 0, Value.int IntKind.i64 0, Value.string { data := #[] }]) (fun _ => by kernel_rfl)) rfl rfl rfl ?_
    refine LL.storeN (vs := [.int .i64 0, .int .i64 0, .int .i64 0, .slice none 0 0, .int .i64 0, .int .i64 0, .string { data := #[] }]) rfl rfl rfl rfl ra11 (by exact Nat.le_of_ble_eq_true rfl) (ones_of rfl) rfl rfl ?_
    intro Wa62 ra63 ba61 za64
    have hlba61 := ra11.lt
    replace ra63 : RowL Wa62 _ 25 [.int .i64 0, .int .i64 0, .int .i64 0, .slice none 0 0, .int .i64 0, .int .i64 0, .string { data := #[] }] := ra63
    clear ra11
    replace ba8 := Zg ba8 ba61; replace q := Zg q ba61; replace c0 := Ze c0 ba61; replace c1 := Ze c1 ba61; replace c2 := Ze c2 ba61; replace c3 := Ze c3 ba61
    have ra11 := ra63
    clear ra63
    refine Za ?_; refine Zq ?_; refine ZR ?_; refine EE.thenR ?_
    refine EE.ret2 rfl ⟨_, rfl, lvNc (RowL.cells0 (by assumption)) (by rfl) (by rfl)⟩ rfl ?_
    exact ⟨rfl, q⟩
  · refine X.fn Tryd.func19 rfl (n := 145) rfl rfl ?_
    refine Zr ?_
    refine LL.alloc ([.int .i64 0, .int .i64 0, .int .i64 0, .slice none 0 0, .int .i64 0, .int .i64 0, .string { data := { toList := [] } }]) rfl rfl rfl rfl rfl ?_
    intro Wb9 gb10 egb10 rb11 zb12 bb8
    replace q := Zu q bb8; replace c0 := cell_up c0 bb8; replace c1 := cell_up c1 bb8; replace c2 := cell_up c2 bb8; replace c3 := cell_up c3 bb8; refine Za ?_; refine Zq ?_; refine Zc ?_; refine Zr ?_; refine Zm ?_; refine Zn ?_; refine ZneF ?_; refine Zq ?_; refine ZN ?_; refine ZK ?_; refine ZT ?_; refine Zc ?_; refine Zr ?_; refine Zm ?_; refine Zi ?_; refine Zk ?_; refine ZeqF ?_; refine Zq ?_
    refine ZN ?_; refine ZK ?_; refine ZT ?_; refine Zr ?_; refine Zm ?_; refine Zi ?_; refine Zk ?_
    refine LL.val (R.remUE (b := 256) (z := x0 % 256) rfl rfl rfl (by decide) rfl) rfl rfl rfl ?_
    refine LL.val (R.convI rfl rfl rfl rfl (wrapI (by omega) (by omega))) rfl rfl rfl ?_
    refine LL.val (R.buildV rfl rfl (v := .agg #[Value.int IntKind.i64 ↑(x0 % 256), Value.int IntKind.i64 0, Value.int IntKind.i64 0, Value.slice none 0 0, Value.int IntKind.i64 0, Value.int IntKind.i64 0, Value.string { data := #[] }]) (fun _ => by kernel_rfl)) rfl rfl rfl ?_
    have lb125 := rb11.lt
    refine LL.alloc ([.int .i64 0, .int .i64 0, .int .i64 0, .slice none 0 0, .int .i64 0, .int .i64 0, .string { data := { toList := [] } }]) rfl rfl rfl rfl rfl ?_
    intro Wb127 gb128 egb128 rb129 zb130 bb126
    replace rb11 := rb11.up bb126; replace bb8 := Zu bb8 bb126; replace q := Zu q bb126; replace c0 := cell_up c0 bb126; replace c1 := cell_up c1 bb126; replace c2 := cell_up c2 bb126; replace c3 := cell_up c3 bb126
    refine LL.storeN (vs := [.int .i64 ↑(x0 % 256), .int .i64 0, .int .i64 0, .slice none 0 0, .int .i64 0, .int .i64 0, .string { data := #[] }]) rfl rfl rfl rfl rb129 (by exact Nat.le_of_ble_eq_true rfl) (ones_of rfl) rfl rfl ?_
    intro Wb141 rb142 bb140 zb143
    have hlbb140 := rb129.lt
    replace rb142 : RowL Wb141 _ 25 [.int .i64 ↑(x0 % 256), .int .i64 0, .int .i64 0, .slice none 0 0, .int .i64 0, .int .i64 0, .string { data := #[] }] := rb142
    clear rb129
    replace bb126 := Zg bb126 bb140; replace rb11 := Zd rb11 bb140; replace bb8 := Zg bb8 bb140; replace q := Zg q bb140; replace c0 := Ze c0 bb140; replace c1 := Ze c1 bb140; replace c2 := Ze c2 bb140; replace c3 := Ze c3 bb140
    have rb129 := rb142
    clear rb142
    refine Zq ?_; refine Zc ?_; refine Zr ?_; refine Zm ?_; refine Zi ?_; refine Zk ?_; refine ZgeF ?_; refine Zm ?_; refine Zm ?_; refine Zi ?_; refine Zk ?_; refine ZgtF ?_; refine Zp ?_; refine Zm ?_; refine Zm ?_; refine Zi ?_; refine Zk ?_; refine ZgtF ?_; refine Zp ?_; refine Zm ?_; refine Zm ?_; refine Zi ?_; refine Zk ?_; refine ZgtF ?_; refine Zp ?_; refine Zq ?_; refine ZN ?_; refine ZK ?_
    refine ZT ?_; refine Zr ?_; refine Zm ?_; refine Zi ?_; refine Zk ?_
    refine LL.val (R.quoUE (b := 256) (z := l) rfl rfl rfl (by decide) el (by omega)) rfl rfl rfl ?_
    refine LL.val (R.convI rfl rfl rfl rfl (wrapI (by omega) (by omega))) rfl rfl rfl ?_
    refine Zf ?_
    refine LL.store rfl rfl rfl rfl rb129 (by exact Nat.le_of_ble_eq_true rfl) rfl rfl rfl rfl ?_
    intro Wb397 rb398 bb396 zb399
    have hlbb396 := rb129.lt
    replace rb398 : RowL Wb397 _ 25 [.int .i64 ↑(x0 % 256), .int .i64 ↑l, .int .i64 0, .slice none 0 0, .int .i64 0, .int .i64 0, .string { data := #[] }] := rb398
    clear rb129
    replace bb126 := Zg bb126 bb396; replace rb11 := Zd rb11 bb396; replace bb8 := Zg bb8 bb396; replace q := Zg q bb396; replace c0 := Ze c0 bb396; replace c1 := Ze c1 bb396; replace c2 := Ze c2 bb396; replace c3 := Ze c3 bb396
    have rb129 := rb398
    clear rb398
    refine Zq ?_; refine Zc ?_; refine Zr ?_; refine Zf ?_; refine Zl rb129 ?_; refine Zq ?_; refine CC.block ?_; refine Zr ?_; refine ZeqF ?_; refine Za ?_; refine Zq ?_; refine ZN ?_; refine Zr ?_; refine ZeqF ?_; refine Za ?_; refine Zq ?_; refine ZN ?_; refine Zr ?_; refine ZeqF ?_; refine Za ?_; refine Zq ?_; refine ZN ?_; refine ZK ?_; refine EE.inN ?_; refine ZT ?_; refine Zr ?_; refine Zv rb129 ?_
    have lb485 := rb11.lt; have lb486 := rb129.lt
    (refine Zy (R.call rfl rfl rfl) (hwn _) ?_; rintro e Wb484 ⟨rfl, bb481⟩; refine ⟨_, rfl, ?_⟩)
    have zbb481 := bb481.size; replace bb126 := Zu bb126 bb481; replace rb11 := rb11.up bb481; replace bb8 := Zu bb8 bb481; replace q := Zu q bb481; replace c0 := cell_up c0 bb481; replace c1 := cell_up c1 bb481; replace c2 := cell_up c2 bb481; replace c3 := cell_up c3 bb481; replace rb129 := rb129.up bb481; refine Zm ?_; refine Zx ?_; refine Zx ?_; refine Za ?_; refine Za ?_; refine Zq ?_; refine Zc ?_
    refine Zr ?_; refine Zm ?_; refine ZneT ?_; refine Zm ?_; refine Zs ?_; refine Zs ?_; refine Zs ?_; refine Zs ?_; refine Zp ?_; refine Zq ?_; refine ZY ?_; refine Zr ?_
    refine LL.val (R.buildV rfl rfl (v := .agg #[Value.int IntKind.i64 0, Value.int IntKind.i64 0, Value.int IntKind.i64 0, Value.slice none 0 0, Value.int IntKind.i64 0, Value.int IntKind.i64 0, Value.string { data := #[] }]) (fun _ => by kernel_rfl)) rfl rfl rfl ?_
    refine LL.storeN (vs := [.int .i64 0, .int .i64 0, .int .i64 0, .slice none 0 0, .int .i64 0, .int .i64 0, .string { data := #[] }]) rfl rfl rfl rfl rb11 (by exact Nat.le_of_ble_eq_true rfl) (ones_of rfl) rfl rfl ?_
    intro Wb590 rb591 bb589 zb592
    have hlbb589 := rb11.lt
    replace rb591 : RowL Wb590 _ 25 [.int .i64 0, .int .i64 0, .int .i64 0, .slice none 0 0, .int .i64 0, .int .i64 0, .string { data := #[] }] := rb591
    clear rb11
    replace bb8 := Zg bb8 bb589; replace q := Zg q bb589; replace c0 := Ze c0 bb589; replace c1 := Ze c1 bb589; replace c2 := Ze c2 bb589; replace c3 := Ze c3 bb589; replace rb129 := Zd rb129 bb589
    have rb11 := rb591
    clear rb591
    refine Za ?_; refine Zq ?_; refine ZR ?_; refine EE.thenR ?_
    refine EE.ret2 rfl ⟨_, rfl, lvNc (RowL.cells0 (by assumption)) (by rfl) (by rfl)⟩ rfl ?_
    exact ⟨rfl, q⟩
theorem wsame_RT (g bk off cap : Nat) (ws : List Nat) (w : World) (h1 : RowL w g 41 (ints .u64 ws)) (h2 : WdsAt w bk off ws) (hl : ws.length = 16) (hc : 16 ≤ cap) : Calls Tryd.prog 16 #[.slice (some ⟨g, 0, none⟩) 16 16, .slice (some ⟨bk, off, none⟩) 16 cap] w fun e w' => e = .returned (.bool true) ∧ Below w.heap.size w w' :=
  wsame_T _ _ ws ws w (RowL.asInts h1 .u64 _ rfl hl) (h2.all hl hc) (by omega) rfl
theorem wsame_RF (g bk off cap : Nat) (xs ws : List Nat) (w : World) (h1 : RowL w g 41 (ints .u64 xs)) (hx : xs.length = 16) (h2 : WdsAt w bk off ws) (hl : ws.length = 16) (hc : 16 ≤ cap) (hne : xs ≠ ws) : Calls Tryd.prog 16 #[.slice (some ⟨g, 0, none⟩) 16 16, .slice (some ⟨bk, off, none⟩) 16 cap] w fun e w' => e = .returned (.bool false) ∧ Below w.heap.size w w' := by
  have := wsame_any _ _ xs ws w (RowL.asInts h1 .u64 _ rfl hx) (h2.all hl hc) (by omega) (by omega)
  rw [decide_eq_false hne] at this
  exact this
theorem dof_2C (bk off cap : Nat) (ws : List Nat) (w : World) (x0 x1 x2 x3 l : Nat) (F : FoW bk off ws w x0 x1 x2 x3 l) (hs : x0 < 4294967296 ∧ x1 ≤ 65536 ∧ x2 ≤ 4611686018427387904 ∧ x3 ≤ 4611686018427387904) (hk : x0 % 256 = 2) (hcap : 16 ≤ cap) (hno : ¬okI 2 (l : Int) 0 [] (x2 : Int) (x3 : Int) []) : Calls Tryd.prog 19 #[.slice (some ⟨bk, off, none⟩) 16 cap] w fun e w' => e = .returned (.tuple #[zrV, .int .i64 240]) ∧ Below w.heap.size w w' := by
  have q := Below.refl w.heap.size w
  have hWF : ∀ X, Below w.heap.size w X → WdsAt X bk off ws := fun X b => F.W.up b
  have c0 := F.W.cells _ _ F.e0
  have c1 := F.W.cells _ _ F.e1
  have c2 := F.W.cells _ _ F.e2
  have c3 := F.W.cells _ _ F.e3
  have hb0 := F.b _ (List.mem_of_getElem? F.e0)
  have hb1 := F.b _ (List.mem_of_getElem? F.e1)
  have hb2 := F.b _ (List.mem_of_getElem? F.e2)
  have hb3 := F.b _ (List.mem_of_getElem? F.e3)
  have hbk := F.W.lt
  have nz := F.nz
  have el := F.el
  have hwn := fun W => rinW_no 2 (l : Int) 0 none 0 0 [] (x2 : Int) (x3 : Int) [] W (ReadsT.nil _) (by decide) (by decide) hno
  clear F
  refine X.fn Tryd.func19 rfl (n := 145) rfl rfl ?_
  refine Zr ?_
  refine LL.alloc ([.int .i64 0, .int .i64 0, .int .i64 0, .slice none 0 0, .int .i64 0, .int .i64 0, .string { data := { toList := [] } }]) rfl rfl rfl rfl rfl ?_
  intro W9 g10 eg10 r11 z12 b8
  replace q := Zu q b8; replace c0 := cell_up c0 b8; replace c1 := cell_up c1 b8; replace c2 := cell_up c2 b8; replace c3 := cell_up c3 b8; refine Za ?_; refine Zq ?_; refine Zc ?_; refine Zr ?_; refine Zm ?_; refine Zn ?_; refine ZneF ?_; refine Zq ?_; refine ZN ?_; refine ZK ?_; refine ZT ?_; refine Zc ?_; refine Zr ?_; refine Zm ?_; refine Zi ?_; refine Zk ?_; refine ZeqF ?_; refine Zq ?_; refine ZN ?_
  refine ZK ?_; refine ZT ?_; refine Zr ?_; refine Zm ?_; refine Zi ?_; refine Zk ?_
  refine LL.val (R.remUE (b := 256) (z := 2) rfl rfl rfl (by decide) hk) rfl rfl rfl ?_
  refine LL.val (R.convI rfl rfl rfl rfl (wrapI (by omega) (by omega))) rfl rfl rfl ?_
  refine LL.val (R.buildV rfl rfl (v := .agg #[Value.int IntKind.i64 ↑2, Value.int IntKind.i64 0, Value.int IntKind.i64 0, Value.slice none 0 0, Value.int IntKind.i64 0, Value.int IntKind.i64 0, Value.string { data := #[] }]) (fun _ => by kernel_rfl)) rfl rfl rfl ?_
  have l125 := r11.lt
  refine LL.alloc ([.int .i64 0, .int .i64 0, .int .i64 0, .slice none 0 0, .int .i64 0, .int .i64 0, .string { data := { toList := [] } }]) rfl rfl rfl rfl rfl ?_
  intro W127 g128 eg128 r129 z130 b126
  replace r11 := r11.up b126; replace b8 := Zu b8 b126; replace q := Zu q b126; replace c0 := cell_up c0 b126; replace c1 := cell_up c1 b126; replace c2 := cell_up c2 b126; replace c3 := cell_up c3 b126
  refine LL.storeN (vs := [.int .i64 2, .int .i64 0, .int .i64 0, .slice none 0 0, .int .i64 0, .int .i64 0, .string { data := #[] }]) rfl rfl rfl rfl r129 (by exact Nat.le_of_ble_eq_true rfl) (ones_of rfl) rfl rfl ?_
  intro W141 r142 b140 z143
  have hlb140 := r129.lt
  replace r142 : RowL W141 _ 25 [.int .i64 2, .int .i64 0, .int .i64 0, .slice none 0 0, .int .i64 0, .int .i64 0, .string { data := #[] }] := r142
  clear r129
  replace b126 := Zg b126 b140; replace r11 := Zd r11 b140; replace b8 := Zg b8 b140; replace q := Zg q b140; replace c0 := Ze c0 b140; replace c1 := Ze c1 b140; replace c2 := Ze c2 b140; replace c3 := Ze c3 b140
  have r129 := r142
  clear r142
  refine Zq ?_; refine Zc ?_; refine Zr ?_; refine Zm ?_; refine Zi ?_; refine Zk ?_; refine ZgeF ?_; refine Zm ?_; refine Zm ?_; refine Zi ?_; refine Zk ?_; refine ZgtF ?_; refine Zp ?_; refine Zm ?_; refine Zm ?_; refine Zi ?_; refine Zk ?_; refine ZgtF ?_; refine Zp ?_; refine Zm ?_; refine Zm ?_; refine Zi ?_; refine Zk ?_; refine ZgtF ?_; refine Zp ?_; refine Zq ?_; refine ZN ?_; refine ZK ?_
  refine ZT ?_; refine Zr ?_; refine Zm ?_; refine Zi ?_; refine Zk ?_
  refine LL.val (R.quoUE (b := 256) (z := l) rfl rfl rfl (by decide) el (by omega)) rfl rfl rfl ?_
  refine LL.val (R.convI rfl rfl rfl rfl (wrapI (by omega) (by omega))) rfl rfl rfl ?_
  refine Zf ?_
  refine LL.store rfl rfl rfl rfl r129 (by exact Nat.le_of_ble_eq_true rfl) rfl rfl rfl rfl ?_
  intro W397 r398 b396 z399
  have hlb396 := r129.lt
  replace r398 : RowL W397 _ 25 [.int .i64 2, .int .i64 ↑l, .int .i64 0, .slice none 0 0, .int .i64 0, .int .i64 0, .string { data := #[] }] := r398
  clear r129
  replace b126 := Zg b126 b396; replace r11 := Zd r11 b396; replace b8 := Zg b8 b396; replace q := Zg q b396; replace c0 := Ze c0 b396; replace c1 := Ze c1 b396; replace c2 := Ze c2 b396; replace c3 := Ze c3 b396
  have r129 := r398
  clear r398
  refine Zq ?_; refine Zc ?_; refine Zr ?_; refine Zf ?_; refine Zl r129 ?_; refine Zq ?_; refine CC.block ?_; refine Zr ?_; refine ZeqF ?_; refine Za ?_; refine Zq ?_; refine ZN ?_; refine Zr ?_; refine ZeqT ?_; refine Za ?_; refine Zq ?_; refine ZY ?_
  refine CC.freeZ (fun W_ j => j < W_.heap.size ∧ (j ≠ g128)) (by kernel_rfl) (by kernel_rfl) (fun W455 b454 z456 => ?_)
  replace b126 := Zu b126 b454; replace r11 := r11.up b454; replace b8 := Zu b8 b454; replace q := Zu q b454; replace c0 := cell_up c0 b454; replace c1 := cell_up c1 b454; replace c2 := cell_up c2 b454; replace c3 := cell_up c3 b454; replace r129 := r129.up b454
  have hok : Kept (fun j => j < W455.heap.size ∧ (j ≠ g128)) W455 W455 := Kept.refl _ _
  have fzr11 := fzRow (K := fun j => j < W455.heap.size ∧ (j ≠ g128)) r11 ⟨r11.lt, (by first | trivial | omega)⟩
  have fzc0 := fzCell (K := fun j => j < W455.heap.size ∧ (j ≠ g128)) c0 ⟨World.block_lt_of_cell? _ _ c0, (by first | trivial | omega)⟩
  have fzc1 := fzCell (K := fun j => j < W455.heap.size ∧ (j ≠ g128)) c1 ⟨World.block_lt_of_cell? _ _ c1, (by first | trivial | omega)⟩
  have fzc2 := fzCell (K := fun j => j < W455.heap.size ∧ (j ≠ g128)) c2 ⟨World.block_lt_of_cell? _ _ c2, (by first | trivial | omega)⟩
  have fzc3 := fzCell (K := fun j => j < W455.heap.size ∧ (j ≠ g128)) c3 ⟨World.block_lt_of_cell? _ _ c3, (by first | trivial | omega)⟩
  refine AA.pure 0 rfl hok (by kernel_rfl) (fun w' b' => R.move rfl rfl) rfl rfl ?_
  refine AA.pure 1 rfl hok (by kernel_rfl) (fun w' b' => R.index rfl rfl rfl (I.ixS1c rfl rfl (by omega))) rfl rfl ?_
  refine AA.pure 2 rfl hok (by kernel_rfl) (fun w' b' => R.load rfl rfl (I.ld1 rfl (cell_kept c2 b' (by refine ⟨?_, ?_⟩ <;> omega)))) rfl rfl ?_
  refine AA.pure 3 rfl hok (by kernel_rfl) (fun w' b' => R.convI rfl rfl rfl rfl (wrapI (by omega) (by omega))) rfl rfl ?_
  refine AA.pure 4 rfl hok (by kernel_rfl) (fun w' b' => R.move rfl rfl) rfl rfl ?_
  refine AA.pure 5 rfl hok (by kernel_rfl) (fun w' b' => R.index rfl rfl rfl (I.ixS1c rfl rfl (by omega))) rfl rfl ?_
  refine AA.pure 6 rfl hok (by kernel_rfl) (fun w' b' => R.load rfl rfl (I.ld1 rfl (cell_kept c3 b' (by refine ⟨?_, ?_⟩ <;> omega)))) rfl rfl ?_
  refine AA.pure 7 rfl hok (by kernel_rfl) (fun w' b' => R.convI rfl rfl rfl rfl (wrapI (by omega) (by omega))) rfl rfl ?_
  refine AA.pure 8 rfl hok (by kernel_rfl) (fun w' b' => R.field rfl rfl (I.fld rfl)) rfl rfl ?_
  refine AA.one 9 (by kernel_rfl) ?_
  refine ZR.store rfl rfl rfl rfl rfl r129 (by exact Nat.le_of_ble_eq_true rfl) rfl rfl rfl rfl ?_
  intro W467 r468 b466 z469
  have hlb466 := r129.lt
  replace r468 : RowL W467 _ 25 [.int .i64 2, .int .i64 ↑l, .int .i64 0, .slice none 0 0, .int .i64 ↑x2, .int .i64 0, .string { data := #[] }] := r468
  clear r129
  replace b126 := Zg b126 b466; replace r11 := Zd r11 b466; replace b8 := Zg b8 b466; replace q := Zg q b466; replace c0 := Ze c0 b466; replace c1 := Ze c1 b466; replace c2 := Ze c2 b466; replace c3 := Ze c3 b466; replace hok := Zo hok b466
  have r129 := r468
  clear r468
  refine ⟨hok, ?_⟩
  refine AA.pure 10 rfl hok (by kernel_rfl) (fun w' b' => R.field rfl rfl (I.fld rfl)) rfl rfl ?_
  refine AA.one 11 (by kernel_rfl) ?_
  refine ZR.store rfl rfl rfl rfl rfl r129 (by exact Nat.le_of_ble_eq_true rfl) rfl rfl rfl rfl ?_
  intro W480 r481 b479 z482
  have hlb479 := r129.lt
  replace r481 : RowL W480 _ 25 [.int .i64 2, .int .i64 ↑l, .int .i64 0, .slice none 0 0, .int .i64 ↑x2, .int .i64 ↑x3, .string { data := #[] }] := r481
  clear r129
  replace b126 := Zg b126 b479; replace r11 := Zd r11 b479; replace b8 := Zg b8 b479; replace q := Zg q b479; replace c0 := Ze c0 b479; replace c1 := Ze c1 b479; replace c2 := Ze c2 b479; replace c3 := Ze c3 b479; replace hok := Zo hok b479
  have r129 := r481
  clear r481
  refine ⟨hok, ?_⟩
  refine AA.done rfl ?_
  clear fzr11 fzc0 fzc1 fzc2 fzc3 hok
  refine EE.inN ?_; refine ZT ?_; refine Zr ?_; refine Zv r129 ?_; have l496 := r11.lt; have l497 := r129.lt
  (refine Zy (R.call rfl rfl rfl) (hwn _) ?_; rintro e W495 ⟨rfl, b492⟩; refine ⟨_, rfl, ?_⟩)
  have zb492 := b492.size; replace b126 := Zu b126 b492; replace r11 := r11.up b492; replace b8 := Zu b8 b492; replace q := Zu q b492; replace c0 := cell_up c0 b492; replace c1 := cell_up c1 b492; replace c2 := cell_up c2 b492; replace c3 := cell_up c3 b492; replace r129 := r129.up b492; refine Zm ?_; refine Zx ?_; refine Zx ?_; refine Za ?_; refine Za ?_; refine Zq ?_; refine Zc ?_; refine Zr ?_; refine Zm ?_
  refine ZneT ?_; refine Zm ?_; refine Zs ?_; refine Zs ?_; refine Zs ?_; refine Zs ?_; refine Zp ?_; refine Zq ?_; refine ZY ?_; refine Zr ?_
  refine LL.val (R.buildV rfl rfl (v := .agg #[Value.int IntKind.i64 0, Value.int IntKind.i64 0, Value.int IntKind.i64 0, Value.slice none 0 0, Value.int IntKind.i64 0, Value.int IntKind.i64 0, Value.string { data := #[] }]) (fun _ => by kernel_rfl)) rfl rfl rfl ?_
  refine LL.storeN (vs := [.int .i64 0, .int .i64 0, .int .i64 0, .slice none 0 0, .int .i64 0, .int .i64 0, .string { data := #[] }]) rfl rfl rfl rfl r11 (by exact Nat.le_of_ble_eq_true rfl) (ones_of rfl) rfl rfl ?_
  intro W601 r602 b600 z603
  have hlb600 := r11.lt
  replace r602 : RowL W601 _ 25 [.int .i64 0, .int .i64 0, .int .i64 0, .slice none 0 0, .int .i64 0, .int .i64 0, .string { data := #[] }] := r602
  clear r11
  replace b8 := Zg b8 b600; replace q := Zg q b600; replace c0 := Ze c0 b600; replace c1 := Ze c1 b600; replace c2 := Ze c2 b600; replace c3 := Ze c3 b600; replace r129 := Zd r129 b600
  have r11 := r602
  clear r602
  refine Za ?_; refine Zq ?_; refine ZR ?_; refine EE.thenR ?_
  refine EE.ret2 rfl ⟨_, rfl, lvNc (RowL.cells0 (by assumption)) (by rfl) (by rfl)⟩ rfl ?_
  exact ⟨rfl, q⟩
theorem dof_2W (bk off cap : Nat) (ws : List Nat) (w : World) (x0 x1 x2 x3 l : Nat) (F : FoW bk off ws w x0 x1 x2 x3 l) (hs : x0 < 4294967296 ∧ x1 ≤ 65536 ∧ x2 ≤ 4611686018427387904 ∧ x3 ≤ 4611686018427387904) (hk : x0 % 256 = 2) (hcap : 16 ≤ cap) (hok : okI 2 (l : Int) 0 [] (x2 : Int) (x3 : Int) []) (hne : inoW 2 (l : Int) 0 [] (x2 : Int) (x3 : Int) [] ≠ ws) : Calls Tryd.prog 19 #[.slice (some ⟨bk, off, none⟩) 16 cap] w fun e w' => e = .returned (.tuple #[zrV, .int .i64 240]) ∧ Below w.heap.size w w' := by
  have q := Below.refl w.heap.size w
  have hWF : ∀ X, Below w.heap.size w X → WdsAt X bk off ws := fun X b => F.W.up b
  have c0 := F.W.cells _ _ F.e0
  have c1 := F.W.cells _ _ F.e1
  have c2 := F.W.cells _ _ F.e2
  have c3 := F.W.cells _ _ F.e3
  have hb0 := F.b _ (List.mem_of_getElem? F.e0)
  have hb1 := F.b _ (List.mem_of_getElem? F.e1)
  have hb2 := F.b _ (List.mem_of_getElem? F.e2)
  have hb3 := F.b _ (List.mem_of_getElem? F.e3)
  have hbk := F.W.lt
  have nz := F.nz
  have el := F.el
  have hwy := fun W => rinW_ok 2 (l : Int) 0 none 0 0 [] (x2 : Int) (x3 : Int) [] W (ReadsT.nil _) (by decide) hok
  have hxl := inoW_len hok
  have hwl := F.len
  unfold wsP at hwy
  clear F
  refine X.fn Tryd.func19 rfl (n := 145) rfl rfl ?_
  refine Zr ?_
  refine LL.alloc ([.int .i64 0, .int .i64 0, .int .i64 0, .slice none 0 0, .int .i64 0, .int .i64 0, .string { data := { toList := [] } }]) rfl rfl rfl rfl rfl ?_
  intro W16 g17 eg17 r18 z19 b15
  replace q := Zu q b15; replace c0 := cell_up c0 b15; replace c1 := cell_up c1 b15; replace c2 := cell_up c2 b15; replace c3 := cell_up c3 b15; refine Za ?_; refine Zq ?_; refine Zc ?_; refine Zr ?_; refine Zm ?_; refine Zn ?_; refine ZneF ?_; refine Zq ?_; refine ZN ?_; refine ZK ?_; refine ZT ?_; refine Zc ?_; refine Zr ?_; refine Zm ?_; refine Zi ?_; refine Zk ?_; refine ZeqF ?_; refine Zq ?_; refine ZN ?_
  refine ZK ?_; refine ZT ?_; refine Zr ?_; refine Zm ?_; refine Zi ?_; refine Zk ?_
  refine LL.val (R.remUE (b := 256) (z := 2) rfl rfl rfl (by decide) hk) rfl rfl rfl ?_
  refine LL.val (R.convI rfl rfl rfl rfl (wrapI (by omega) (by omega))) rfl rfl rfl ?_
  refine LL.val (R.buildV rfl rfl (v := .agg #[Value.int IntKind.i64 ↑2, Value.int IntKind.i64 0, Value.int IntKind.i64 0, Value.slice none 0 0, Value.int IntKind.i64 0, Value.int IntKind.i64 0, Value.string { data := #[] }]) (fun _ => by kernel_rfl)) rfl rfl rfl ?_
  have l244 := r18.lt
  refine LL.alloc ([.int .i64 0, .int .i64 0, .int .i64 0, .slice none 0 0, .int .i64 0, .int .i64 0, .string { data := { toList := [] } }]) rfl rfl rfl rfl rfl ?_
  intro W246 g247 eg247 r248 z249 b245
  replace r18 := r18.up b245; replace b15 := Zu b15 b245; replace q := Zu q b245; replace c0 := cell_up c0 b245; replace c1 := cell_up c1 b245; replace c2 := cell_up c2 b245; replace c3 := cell_up c3 b245
  refine LL.storeN (vs := [.int .i64 2, .int .i64 0, .int .i64 0, .slice none 0 0, .int .i64 0, .int .i64 0, .string { data := #[] }]) rfl rfl rfl rfl r248 (by exact Nat.le_of_ble_eq_true rfl) (ones_of rfl) rfl rfl ?_
  intro W269 r270 b268 z271
  have hlb268 := r248.lt
  replace r270 : RowL W269 _ 25 [.int .i64 2, .int .i64 0, .int .i64 0, .slice none 0 0, .int .i64 0, .int .i64 0, .string { data := #[] }] := r270
  clear r248
  replace b245 := Zg b245 b268; replace r18 := Zd r18 b268; replace b15 := Zg b15 b268; replace q := Zg q b268; replace c0 := Ze c0 b268; replace c1 := Ze c1 b268; replace c2 := Ze c2 b268; replace c3 := Ze c3 b268
  have r248 := r270
  clear r270
  refine Zq ?_; refine Zc ?_; refine Zr ?_; refine Zm ?_; refine Zi ?_; refine Zk ?_; refine ZgeF ?_; refine Zm ?_; refine Zm ?_; refine Zi ?_; refine Zk ?_; refine ZgtF ?_; refine Zp ?_; refine Zm ?_; refine Zm ?_; refine Zi ?_; refine Zk ?_; refine ZgtF ?_; refine Zp ?_; refine Zm ?_; refine Zm ?_; refine Zi ?_; refine Zk ?_; refine ZgtF ?_; refine Zp ?_; refine Zq ?_; refine ZN ?_; refine ZK ?_
  refine ZT ?_; refine Zr ?_; refine Zm ?_; refine Zi ?_; refine Zk ?_
  refine LL.val (R.quoUE (b := 256) (z := l) rfl rfl rfl (by decide) el (by omega)) rfl rfl rfl ?_
  refine LL.val (R.convI rfl rfl rfl rfl (wrapI (by omega) (by omega))) rfl rfl rfl ?_
  refine Zf ?_
  refine LL.store rfl rfl rfl rfl r248 (by exact Nat.le_of_ble_eq_true rfl) rfl rfl rfl rfl ?_
  intro W777 r778 b776 z779
  have hlb776 := r248.lt
  replace r778 : RowL W777 _ 25 [.int .i64 2, .int .i64 ↑l, .int .i64 0, .slice none 0 0, .int .i64 0, .int .i64 0, .string { data := #[] }] := r778
  clear r248
  replace b245 := Zg b245 b776; replace r18 := Zd r18 b776; replace b15 := Zg b15 b776; replace q := Zg q b776; replace c0 := Ze c0 b776; replace c1 := Ze c1 b776; replace c2 := Ze c2 b776; replace c3 := Ze c3 b776
  have r248 := r778
  clear r778
  refine Zq ?_; refine Zc ?_; refine Zr ?_; refine Zf ?_; refine Zl r248 ?_; refine Zq ?_; refine CC.block ?_; refine Zr ?_; refine ZeqF ?_; refine Za ?_; refine Zq ?_; refine ZN ?_; refine Zr ?_; refine ZeqT ?_; refine Za ?_; refine Zq ?_; refine ZY ?_
  refine CC.freeZ (fun W_ j => j < W_.heap.size ∧ (j ≠ g247)) (by kernel_rfl) (by kernel_rfl) (fun W889 b888 z890 => ?_)
  replace b245 := Zu b245 b888; replace r18 := r18.up b888; replace b15 := Zu b15 b888; replace q := Zu q b888; replace c0 := cell_up c0 b888; replace c1 := cell_up c1 b888; replace c2 := cell_up c2 b888; replace c3 := cell_up c3 b888; replace r248 := r248.up b888
  have hok : Kept (fun j => j < W889.heap.size ∧ (j ≠ g247)) W889 W889 := Kept.refl _ _
  have fzr18 := fzRow (K := fun j => j < W889.heap.size ∧ (j ≠ g247)) r18 ⟨r18.lt, (by first | trivial | omega)⟩
  have fzc0 := fzCell (K := fun j => j < W889.heap.size ∧ (j ≠ g247)) c0 ⟨World.block_lt_of_cell? _ _ c0, (by first | trivial | omega)⟩
  have fzc1 := fzCell (K := fun j => j < W889.heap.size ∧ (j ≠ g247)) c1 ⟨World.block_lt_of_cell? _ _ c1, (by first | trivial | omega)⟩
  have fzc2 := fzCell (K := fun j => j < W889.heap.size ∧ (j ≠ g247)) c2 ⟨World.block_lt_of_cell? _ _ c2, (by first | trivial | omega)⟩
  have fzc3 := fzCell (K := fun j => j < W889.heap.size ∧ (j ≠ g247)) c3 ⟨World.block_lt_of_cell? _ _ c3, (by first | trivial | omega)⟩
  refine AA.pure 0 rfl hok (by kernel_rfl) (fun w' b' => R.move rfl rfl) rfl rfl ?_
  refine AA.pure 1 rfl hok (by kernel_rfl) (fun w' b' => R.index rfl rfl rfl (I.ixS1c rfl rfl (by omega))) rfl rfl ?_
  refine AA.pure 2 rfl hok (by kernel_rfl) (fun w' b' => R.load rfl rfl (I.ld1 rfl (cell_kept c2 b' (by refine ⟨?_, ?_⟩ <;> omega)))) rfl rfl ?_
  refine AA.pure 3 rfl hok (by kernel_rfl) (fun w' b' => R.convI rfl rfl rfl rfl (wrapI (by omega) (by omega))) rfl rfl ?_
  refine AA.pure 4 rfl hok (by kernel_rfl) (fun w' b' => R.move rfl rfl) rfl rfl ?_
  refine AA.pure 5 rfl hok (by kernel_rfl) (fun w' b' => R.index rfl rfl rfl (I.ixS1c rfl rfl (by omega))) rfl rfl ?_
  refine AA.pure 6 rfl hok (by kernel_rfl) (fun w' b' => R.load rfl rfl (I.ld1 rfl (cell_kept c3 b' (by refine ⟨?_, ?_⟩ <;> omega)))) rfl rfl ?_
  refine AA.pure 7 rfl hok (by kernel_rfl) (fun w' b' => R.convI rfl rfl rfl rfl (wrapI (by omega) (by omega))) rfl rfl ?_
  refine AA.pure 8 rfl hok (by kernel_rfl) (fun w' b' => R.field rfl rfl (I.fld rfl)) rfl rfl ?_
  refine AA.one 9 (by kernel_rfl) ?_
  refine ZR.store rfl rfl rfl rfl rfl r248 (by exact Nat.le_of_ble_eq_true rfl) rfl rfl rfl rfl ?_
  intro W910 r911 b909 z912
  have hlb909 := r248.lt
  replace r911 : RowL W910 _ 25 [.int .i64 2, .int .i64 ↑l, .int .i64 0, .slice none 0 0, .int .i64 ↑x2, .int .i64 0, .string { data := #[] }] := r911
  clear r248
  replace b245 := Zg b245 b909; replace r18 := Zd r18 b909; replace b15 := Zg b15 b909; replace q := Zg q b909; replace c0 := Ze c0 b909; replace c1 := Ze c1 b909; replace c2 := Ze c2 b909; replace c3 := Ze c3 b909; replace hok := Zo hok b909
  have r248 := r911
  clear r911
  refine ⟨hok, ?_⟩
  refine AA.pure 10 rfl hok (by kernel_rfl) (fun w' b' => R.field rfl rfl (I.fld rfl)) rfl rfl ?_
  refine AA.one 11 (by kernel_rfl) ?_
  refine ZR.store rfl rfl rfl rfl rfl r248 (by exact Nat.le_of_ble_eq_true rfl) rfl rfl rfl rfl ?_
  intro W932 r933 b931 z934
  have hlb931 := r248.lt
  replace r933 : RowL W932 _ 25 [.int .i64 2, .int .i64 ↑l, .int .i64 0, .slice none 0 0, .int .i64 ↑x2, .int .i64 ↑x3, .string { data := #[] }] := r933
  clear r248
  replace b245 := Zg b245 b931; replace r18 := Zd r18 b931; replace b15 := Zg b15 b931; replace q := Zg q b931; replace c0 := Ze c0 b931; replace c1 := Ze c1 b931; replace c2 := Ze c2 b931; replace c3 := Ze c3 b931; replace hok := Zo hok b931
  have r248 := r933
  clear r933
  refine ⟨hok, ?_⟩
  refine AA.done rfl ?_
  refine EE.inN ?_; refine ZT ?_; refine Zr ?_; refine Zv r248 ?_; have l957 := r18.lt; have l958 := r248.lt
  (refine Zy (R.call rfl rfl rfl) (hwy _) ?_; rintro e W956 ⟨g9, rfl, r91, hg9, b953⟩; refine ⟨_, rfl, ?_⟩)
  have zb953 := b953.size; replace b245 := Zu b245 b953; replace r18 := r18.up b953; replace b15 := Zu b15 b953; replace q := Zu q b953; replace c0 := cell_up c0 b953; replace c1 := cell_up c1 b953; replace c2 := cell_up c2 b953; replace c3 := cell_up c3 b953; replace hok := Zh hok b953; have y962 := hok.size; replace r248 := r248.up b953; refine Zm ?_; refine Zx ?_; refine Zx ?_; refine Za ?_; refine Za ?_
  refine Zq ?_; refine Zc ?_; refine Zr ?_; refine Zm ?_; refine ZneF ?_; refine Zm ?_; refine Zm ?_; refine Zm ?_; have l1177 := r91.lt; have l1178 := r18.lt; have l1179 := r248.lt
  (refine Zy (R.call rfl rfl rfl) (wsame_RF g9 bk off cap _ ws _ r91 hxl (hWF _ q) hwl hcap hne) ?_; rintro e W1176 ⟨rfl, b1173⟩; refine ⟨_, rfl, ?_⟩)
  have zb1173 := b1173.size; replace r91 := r91.up b1173; replace b953 := Zu b953 b1173; replace b245 := Zu b245 b1173; replace r18 := r18.up b1173; replace b15 := Zu b15 b1173; replace q := Zu q b1173; replace c0 := cell_up c0 b1173; replace c1 := cell_up c1 b1173; replace c2 := cell_up c2 b1173; replace c3 := cell_up c3 b1173; replace hok := Zh hok b1173; have y1183 := hok.size; replace r248 := r248.up b1173
  refine Zt ?_; refine Zp ?_; refine Zq ?_; refine ZY ?_; refine Zr ?_
  refine LL.val (R.buildV rfl rfl (v := .agg #[Value.int IntKind.i64 0, Value.int IntKind.i64 0, Value.int IntKind.i64 0, Value.slice none 0 0, Value.int IntKind.i64 0, Value.int IntKind.i64 0, Value.string { data := #[] }]) (fun _ => by kernel_rfl)) rfl rfl rfl ?_
  refine LL.storeN (vs := [.int .i64 0, .int .i64 0, .int .i64 0, .slice none 0 0, .int .i64 0, .int .i64 0, .string { data := #[] }]) rfl rfl rfl rfl r18 (by exact Nat.le_of_ble_eq_true rfl) (ones_of rfl) rfl rfl ?_
  intro W1265 r1266 b1264 z1267
  have hlb1264 := r18.lt
  replace r1266 : RowL W1265 _ 25 [.int .i64 0, .int .i64 0, .int .i64 0, .slice none 0 0, .int .i64 0, .int .i64 0, .string { data := #[] }] := r1266
  clear r18
  replace r91 := Zd r91 b1264; replace b15 := Zg b15 b1264; replace q := Zg q b1264; replace c0 := Ze c0 b1264; replace c1 := Ze c1 b1264; replace c2 := Ze c2 b1264; replace c3 := Ze c3 b1264; replace r248 := Zd r248 b1264
  have r18 := r1266
  clear r1266
  refine Za ?_; refine Zq ?_; refine ZR ?_; refine EE.thenR ?_
  refine EE.ret2 rfl ⟨_, rfl, lvNc (RowL.cells0 (by assumption)) (by rfl) (by rfl)⟩ rfl ?_
  exact ⟨rfl, q⟩
theorem dof_2T (bk off cap : Nat) (ws : List Nat) (w : World) (x0 x1 x2 x3 l : Nat) (F : FoW bk off ws w x0 x1 x2 x3 l) (hs : x0 < 4294967296 ∧ x1 ≤ 65536 ∧ x2 ≤ 4611686018427387904 ∧ x3 ≤ 4611686018427387904) (hk : x0 % 256 = 2) (hcap : 16 ≤ cap) (hok : okI 2 (l : Int) 0 [] (x2 : Int) (x3 : Int) []) (heq : inoW 2 (l : Int) 0 [] (x2 : Int) (x3 : Int) [] = ws) : Calls Tryd.prog 19 #[.slice (some ⟨bk, off, none⟩) 16 cap] w (ofR 2 (l : Int) 0 [] (x2 : Int) (x3 : Int) [] w) := by
  have q := Below.refl w.heap.size w
  have hWF : ∀ X, Below w.heap.size w X → WdsAt X bk off ws := fun X b => F.W.up b
  have c0 := F.W.cells _ _ F.e0
  have c1 := F.W.cells _ _ F.e1
  have c2 := F.W.cells _ _ F.e2
  have c3 := F.W.cells _ _ F.e3
  have hb0 := F.b _ (List.mem_of_getElem? F.e0)
  have hb1 := F.b _ (List.mem_of_getElem? F.e1)
  have hb2 := F.b _ (List.mem_of_getElem? F.e2)
  have hb3 := F.b _ (List.mem_of_getElem? F.e3)
  have hbk := F.W.lt
  have nz := F.nz
  have el := F.el
  have hwy := fun W => rinW_ok 2 (l : Int) 0 none 0 0 [] (x2 : Int) (x3 : Int) [] W (ReadsT.nil _) (by decide) hok
  have hwl := F.len
  unfold wsP at hwy
  unfold ofR
  rw [heq] at hwy
  clear F
  refine X.fn Tryd.func19 rfl (n := 145) rfl rfl ?_
  refine Zr ?_
  refine LL.alloc ([.int .i64 0, .int .i64 0, .int .i64 0, .slice none 0 0, .int .i64 0, .int .i64 0, .string { data := { toList := [] } }]) rfl rfl rfl rfl rfl ?_
  intro W16 g17 eg17 r18 z19 b15
  replace q := Zu q b15; replace c0 := cell_up c0 b15; replace c1 := cell_up c1 b15; replace c2 := cell_up c2 b15; replace c3 := cell_up c3 b15; refine Za ?_; refine Zq ?_; refine Zc ?_; refine Zr ?_; refine Zm ?_; refine Zn ?_; refine ZneF ?_; refine Zq ?_; refine ZN ?_; refine ZK ?_; refine ZT ?_; refine Zc ?_; refine Zr ?_; refine Zm ?_; refine Zi ?_; refine Zk ?_; refine ZeqF ?_; refine Zq ?_; refine ZN ?_
  refine ZK ?_; refine ZT ?_; refine Zr ?_; refine Zm ?_; refine Zi ?_; refine Zk ?_
  refine LL.val (R.remUE (b := 256) (z := 2) rfl rfl rfl (by decide) hk) rfl rfl rfl ?_
  refine LL.val (R.convI rfl rfl rfl rfl (wrapI (by omega) (by omega))) rfl rfl rfl ?_
  refine LL.val (R.buildV rfl rfl (v := .agg #[Value.int IntKind.i64 ↑2, Value.int IntKind.i64 0, Value.int IntKind.i64 0, Value.slice none 0 0, Value.int IntKind.i64 0, Value.int IntKind.i64 0, Value.string { data := #[] }]) (fun _ => by kernel_rfl)) rfl rfl rfl ?_
  have l244 := r18.lt
  refine LL.alloc ([.int .i64 0, .int .i64 0, .int .i64 0, .slice none 0 0, .int .i64 0, .int .i64 0, .string { data := { toList := [] } }]) rfl rfl rfl rfl rfl ?_
  intro W246 g247 eg247 r248 z249 b245
  replace r18 := r18.up b245; replace b15 := Zu b15 b245; replace q := Zu q b245; replace c0 := cell_up c0 b245; replace c1 := cell_up c1 b245; replace c2 := cell_up c2 b245; replace c3 := cell_up c3 b245
  refine LL.storeN (vs := [.int .i64 2, .int .i64 0, .int .i64 0, .slice none 0 0, .int .i64 0, .int .i64 0, .string { data := #[] }]) rfl rfl rfl rfl r248 (by exact Nat.le_of_ble_eq_true rfl) (ones_of rfl) rfl rfl ?_
  intro W269 r270 b268 z271
  have hlb268 := r248.lt
  replace r270 : RowL W269 _ 25 [.int .i64 2, .int .i64 0, .int .i64 0, .slice none 0 0, .int .i64 0, .int .i64 0, .string { data := #[] }] := r270
  clear r248
  replace b245 := Zg b245 b268; replace r18 := Zd r18 b268; replace b15 := Zg b15 b268; replace q := Zg q b268; replace c0 := Ze c0 b268; replace c1 := Ze c1 b268; replace c2 := Ze c2 b268; replace c3 := Ze c3 b268
  have r248 := r270
  clear r270
  refine Zq ?_; refine Zc ?_; refine Zr ?_; refine Zm ?_; refine Zi ?_; refine Zk ?_; refine ZgeF ?_; refine Zm ?_; refine Zm ?_; refine Zi ?_; refine Zk ?_; refine ZgtF ?_; refine Zp ?_; refine Zm ?_; refine Zm ?_; refine Zi ?_; refine Zk ?_; refine ZgtF ?_; refine Zp ?_; refine Zm ?_; refine Zm ?_; refine Zi ?_; refine Zk ?_; refine ZgtF ?_; refine Zp ?_; refine Zq ?_; refine ZN ?_; refine ZK ?_
  refine ZT ?_; refine Zr ?_; refine Zm ?_; refine Zi ?_; refine Zk ?_
  refine LL.val (R.quoUE (b := 256) (z := l) rfl rfl rfl (by decide) el (by omega)) rfl rfl rfl ?_
  refine LL.val (R.convI rfl rfl rfl rfl (wrapI (by omega) (by omega))) rfl rfl rfl ?_
  refine Zf ?_
  refine LL.store rfl rfl rfl rfl r248 (by exact Nat.le_of_ble_eq_true rfl) rfl rfl rfl rfl ?_
  intro W777 r778 b776 z779
  have hlb776 := r248.lt
  replace r778 : RowL W777 _ 25 [.int .i64 2, .int .i64 ↑l, .int .i64 0, .slice none 0 0, .int .i64 0, .int .i64 0, .string { data := #[] }] := r778
  clear r248
  replace b245 := Zg b245 b776; replace r18 := Zd r18 b776; replace b15 := Zg b15 b776; replace q := Zg q b776; replace c0 := Ze c0 b776; replace c1 := Ze c1 b776; replace c2 := Ze c2 b776; replace c3 := Ze c3 b776
  have r248 := r778
  clear r778
  refine Zq ?_; refine Zc ?_; refine Zr ?_; refine Zf ?_; refine Zl r248 ?_; refine Zq ?_; refine CC.block ?_; refine Zr ?_; refine ZeqF ?_; refine Za ?_; refine Zq ?_; refine ZN ?_; refine Zr ?_; refine ZeqT ?_; refine Za ?_; refine Zq ?_; refine ZY ?_
  refine CC.freeZ (fun W_ j => j < W_.heap.size ∧ (j ≠ g247)) (by kernel_rfl) (by kernel_rfl) (fun W889 b888 z890 => ?_)
  replace b245 := Zu b245 b888; replace r18 := r18.up b888; replace b15 := Zu b15 b888; replace q := Zu q b888; replace c0 := cell_up c0 b888; replace c1 := cell_up c1 b888; replace c2 := cell_up c2 b888; replace c3 := cell_up c3 b888; replace r248 := r248.up b888
  have hok : Kept (fun j => j < W889.heap.size ∧ (j ≠ g247)) W889 W889 := Kept.refl _ _
  have fzr18 := fzRow (K := fun j => j < W889.heap.size ∧ (j ≠ g247)) r18 ⟨r18.lt, (by first | trivial | omega)⟩
  have fzc0 := fzCell (K := fun j => j < W889.heap.size ∧ (j ≠ g247)) c0 ⟨World.block_lt_of_cell? _ _ c0, (by first | trivial | omega)⟩
  have fzc1 := fzCell (K := fun j => j < W889.heap.size ∧ (j ≠ g247)) c1 ⟨World.block_lt_of_cell? _ _ c1, (by first | trivial | omega)⟩
  have fzc2 := fzCell (K := fun j => j < W889.heap.size ∧ (j ≠ g247)) c2 ⟨World.block_lt_of_cell? _ _ c2, (by first | trivial | omega)⟩
  have fzc3 := fzCell (K := fun j => j < W889.heap.size ∧ (j ≠ g247)) c3 ⟨World.block_lt_of_cell? _ _ c3, (by first | trivial | omega)⟩
  refine AA.pure 0 rfl hok (by kernel_rfl) (fun w' b' => R.move rfl rfl) rfl rfl ?_
  refine AA.pure 1 rfl hok (by kernel_rfl) (fun w' b' => R.index rfl rfl rfl (I.ixS1c rfl rfl (by omega))) rfl rfl ?_
  refine AA.pure 2 rfl hok (by kernel_rfl) (fun w' b' => R.load rfl rfl (I.ld1 rfl (cell_kept c2 b' (by refine ⟨?_, ?_⟩ <;> omega)))) rfl rfl ?_
  refine AA.pure 3 rfl hok (by kernel_rfl) (fun w' b' => R.convI rfl rfl rfl rfl (wrapI (by omega) (by omega))) rfl rfl ?_
  refine AA.pure 4 rfl hok (by kernel_rfl) (fun w' b' => R.move rfl rfl) rfl rfl ?_
  refine AA.pure 5 rfl hok (by kernel_rfl) (fun w' b' => R.index rfl rfl rfl (I.ixS1c rfl rfl (by omega))) rfl rfl ?_
  refine AA.pure 6 rfl hok (by kernel_rfl) (fun w' b' => R.load rfl rfl (I.ld1 rfl (cell_kept c3 b' (by refine ⟨?_, ?_⟩ <;> omega)))) rfl rfl ?_
  refine AA.pure 7 rfl hok (by kernel_rfl) (fun w' b' => R.convI rfl rfl rfl rfl (wrapI (by omega) (by omega))) rfl rfl ?_
  refine AA.pure 8 rfl hok (by kernel_rfl) (fun w' b' => R.field rfl rfl (I.fld rfl)) rfl rfl ?_
  refine AA.one 9 (by kernel_rfl) ?_
  refine ZR.store rfl rfl rfl rfl rfl r248 (by exact Nat.le_of_ble_eq_true rfl) rfl rfl rfl rfl ?_
  intro W910 r911 b909 z912
  have hlb909 := r248.lt
  replace r911 : RowL W910 _ 25 [.int .i64 2, .int .i64 ↑l, .int .i64 0, .slice none 0 0, .int .i64 ↑x2, .int .i64 0, .string { data := #[] }] := r911
  clear r248
  replace b245 := Zg b245 b909; replace r18 := Zd r18 b909; replace b15 := Zg b15 b909; replace q := Zg q b909; replace c0 := Ze c0 b909; replace c1 := Ze c1 b909; replace c2 := Ze c2 b909; replace c3 := Ze c3 b909; replace hok := Zo hok b909
  have r248 := r911
  clear r911
  refine ⟨hok, ?_⟩
  refine AA.pure 10 rfl hok (by kernel_rfl) (fun w' b' => R.field rfl rfl (I.fld rfl)) rfl rfl ?_
  refine AA.one 11 (by kernel_rfl) ?_
  refine ZR.store rfl rfl rfl rfl rfl r248 (by exact Nat.le_of_ble_eq_true rfl) rfl rfl rfl rfl ?_
  intro W932 r933 b931 z934
  have hlb931 := r248.lt
  replace r933 : RowL W932 _ 25 [.int .i64 2, .int .i64 ↑l, .int .i64 0, .slice none 0 0, .int .i64 ↑x2, .int .i64 ↑x3, .string { data := #[] }] := r933
  clear r248
  replace b245 := Zg b245 b931; replace r18 := Zd r18 b931; replace b15 := Zg b15 b931; replace q := Zg q b931; replace c0 := Ze c0 b931; replace c1 := Ze c1 b931; replace c2 := Ze c2 b931; replace c3 := Ze c3 b931; replace hok := Zo hok b931
  have r248 := r933
  clear r933
  refine ⟨hok, ?_⟩
  refine AA.done rfl ?_
  refine EE.inN ?_; refine ZT ?_; refine Zr ?_; refine Zv r248 ?_; have l957 := r18.lt; have l958 := r248.lt
  (refine Zy (R.call rfl rfl rfl) (hwy _) ?_; rintro e W956 ⟨g9, rfl, r91, hg9, b953⟩; refine ⟨_, rfl, ?_⟩)
  have zb953 := b953.size; replace b245 := Zu b245 b953; replace r18 := r18.up b953; replace b15 := Zu b15 b953; replace q := Zu q b953; replace c0 := cell_up c0 b953; replace c1 := cell_up c1 b953; replace c2 := cell_up c2 b953; replace c3 := cell_up c3 b953; replace hok := Zh hok b953; have y962 := hok.size; replace r248 := r248.up b953; refine Zm ?_; refine Zx ?_; refine Zx ?_; refine Za ?_; refine Za ?_
  refine Zq ?_; refine Zc ?_; refine Zr ?_; refine Zm ?_; refine ZneF ?_; refine Zm ?_; refine Zm ?_; refine Zm ?_; have l1177 := r91.lt; have l1178 := r18.lt; have l1179 := r248.lt
  (refine Zy (R.call rfl rfl rfl) (wsame_RT g9 bk off cap ws _ r91 (hWF _ q) hwl hcap) ?_; rintro e W1176 ⟨rfl, b1173⟩; refine ⟨_, rfl, ?_⟩)
  have zb1173 := b1173.size; replace r91 := r91.up b1173; replace b953 := Zu b953 b1173; replace b245 := Zu b245 b1173; replace r18 := r18.up b1173; replace b15 := Zu b15 b1173; replace q := Zu q b1173; replace c0 := cell_up c0 b1173; replace c1 := cell_up c1 b1173; replace c2 := cell_up c2 b1173; replace c3 := cell_up c3 b1173; replace hok := Zh hok b1173; have y1183 := hok.size; replace r248 := r248.up b1173
  refine Zt ?_; refine Zp ?_; refine Zq ?_; refine ZN ?_; refine ZK ?_; refine ZT ?_; refine Zr ?_; refine Zv r248 ?_
  refine LL.storeN (vs := [.int .i64 2, .int .i64 ↑l, .int .i64 0, .slice none 0 0, .int .i64 ↑x2, .int .i64 ↑x3, .string { data := #[] }]) rfl rfl rfl rfl r18 (by exact Nat.le_of_ble_eq_true rfl) (ones_of rfl) rfl rfl ?_
  intro W1265 r1266 b1264 z1267
  have hlb1264 := r18.lt
  replace r1266 : RowL W1265 _ 25 [.int .i64 2, .int .i64 ↑l, .int .i64 0, .slice none 0 0, .int .i64 ↑x2, .int .i64 ↑x3, .string { data := #[] }] := r1266
  clear r18
  replace r91 := Zd r91 b1264; replace b15 := Zg b15 b1264; replace q := Zg q b1264; replace c0 := Ze c0 b1264; replace c1 := Ze c1 b1264; replace c2 := Ze c2 b1264; replace c3 := Ze c3 b1264; replace r248 := Zd r248 b1264
  have r18 := r1266
  clear r1266
  refine Za ?_; refine Zq ?_; refine ZR ?_
  refine EE.ret2 rfl ⟨_, rfl, lvNc (RowL.cells0 (by assumption)) (by rfl) (by rfl)⟩ rfl ?_
  exact ⟨_, rfl, ReadsT.nil _, q⟩
theorem rrd_O (ws : List Int) (w : World) (hl : ws.length = 10) (hw : ∀ (i : Nat) (z : Int), ws[i]? = some z → 0 ≤ z ∧ z < 18446744073709551616) (hm : mapW ws) : Calls Tryd.prog 43 #[wdV ws] w fun e w' => ∃ v, e = .returned (.tuple #[v, .int .i64 0]) ∧ OwnsT eE 3 w' w.heap.size 98 v (outZ ws) ∧ Below w.heap.size w w' := by
  have q := Below.refl w.heap.size w
  refine X.fn Tryd.func43 rfl (n := 49) rfl rfl ?_
  refine Zr ?_; refine LL.box _ rfl rfl rfl rfl rfl ?_
  intro W2 g3 eg3 r4 z5 b1
  replace q := Zu q b1; refine Za ?_; refine Za ?_; refine Zq ?_; refine Zr ?_; refine Za ?_; refine Zq ?_; refine Zc ?_; refine Zr ?_; refine Za ?_; refine Zq ?_; refine CC.block ?_; have yw := q.size; have l3 := r4.lt
  obtain ⟨B, hB⟩ : ∃ B, W2.heap.size = B := ⟨_, rfl⟩
  rw [hB] at l3 yw
  refine CC.loop (α := Nat × Value) (fun s => [(1, .pointer (some ⟨g3, 0, none⟩)), (4, s.2), (5, .int .i64 (s.1 : Int))]) (fun s W => s.1 ≤ 10 ∧ Below w.heap.size w W ∧ B ≤ W.heap.size ∧ RowL W g3 74 (intsZ .u64 ws) ∧ OwnsT eE 3 W B 98 s.2 (outZ (ws.take s.1))) (fun s => 10 - s.1) (0, .slice none 0 0) ⟨rfl, rfl, rfl, trivial⟩ ⟨by show 0 ≤ 10; omega, q, by omega, r4, OwnsT.none _ _ _⟩ ?_
  clear q r4
  rintro ⟨i, v⟩ W ⟨hi, q, yB, r4, o⟩
  simp only at hi o
  show CC none Tryd.prog _ 49 [] (sl [(1, .pointer (some ⟨g3, 0, none⟩)), (4, v), (5, .int .i64 (i : Int))]) _ W
  have yq := q.size
  by_cases hlt : i < 10
  case pos =>
    obtain ⟨z, hz⟩ : ∃ z, ws[i]? = some z := ⟨_, List.getElem?_eq_getElem (by omega)⟩
    have hzb := hw i z hz
    obtain ⟨x, rfl⟩ : ∃ x : Nat, z = (x : Int) := ⟨z.toNat, by omega⟩
    have hst := outZ_succ hz
    have hol := outZ_len (ws.take i)
    rw [List.length_take] at hol
    have c1 : W.cell? ⟨g3, 0 + i, none⟩ = some (.int .u64 (x : Int)) := RowL.cell r4 (by rw [show 0 + i = i by omega]; simp [hz])
    by_cases h0 : x = 0
    · rw [if_pos (by omega), List.append_nil] at hst
      refine Zc ?_; refine Zr ?_; refine Zm ?_; refine ZltT ?_; refine Zq ?_; refine ZY ?_; refine ZK ?_; refine ZT ?_; refine Zc ?_; refine CC.block ?_; refine Zc ?_; refine Zr ?_; refine Zm ?_
      refine LL.val (R.index rfl rfl rfl (I.ixA1 rfl (by omega))) rfl rfl rfl ?_
      refine Zk ?_; refine ZeqT ?_; refine Zq ?_; refine ZY ?_; refine CC.exit ?_; refine EE.thenX ?_; refine EE.inX ?_; refine ZT ?_; refine CC.region ?_; refine Zm ?_
      refine LL.val (R.addNc rfl rfl rfl rfl (by omega)) rfl rfl rfl ?_
      refine Za ?_; refine ZL ?_
      exact EE.round (i + 1, v) ⟨rfl, rfl, rfl, trivial⟩ ⟨by show i + 1 ≤ 10; omega, q, yB, r4, by show OwnsT eE 3 _ _ _ v (outZ (ws.take (i + 1))); rw [hst]; exact o⟩ (by show 10 - (i + 1) < 10 - i; omega)
    rw [if_neg (by omega)] at hst
    have hxb : x < 18446744073709551616 := by omega
    rw [Int.toNat_natCast] at hst
    refine Zc ?_; refine Zr ?_; refine Zm ?_; refine ZltT ?_; refine Zq ?_; refine ZY ?_; refine ZK ?_; refine ZT ?_; refine Zc ?_; refine CC.block ?_; refine Zc ?_; refine Zr ?_; refine Zm ?_
    refine LL.val (R.index rfl rfl rfl (I.ixA1 rfl (by omega))) rfl rfl rfl ?_
    refine Zk ?_; refine ZeqF ?_; refine Zq ?_; refine ZN ?_; refine ZK ?_; refine ZT ?_
    have hn3 := own_ne o l3
    refine CC.freeZ (fun W_ j => j < W_.heap.size ∧ (v.ownBlock ≠ some j)) (by kernel_rfl) (by kernel_rfl) (fun Wd b z => ?_)
    replace q := Zu q b; replace r4 := r4.up b; replace o := o.up b; replace c1 := cell_up c1 b
    have hok : Kept (fun j => j < Wd.heap.size ∧ (v.ownBlock ≠ some j)) Wd Wd := Kept.refl _ _
    have fzr4 := fzRow (K := (fun j => j < Wd.heap.size ∧ (v.ownBlock ≠ some j))) r4 ⟨r4.lt, hn3⟩
    have fzc1 := fzCell (K := (fun j => j < Wd.heap.size ∧ (v.ownBlock ≠ some j))) c1 ⟨World.block_lt_of_cell? _ _ c1, hn3⟩
    clear b
    refine AA.pure 0 rfl hok (by kernel_rfl) (fun w' b' => R.move rfl rfl) rfl rfl ?_
    refine AA.pure 1 rfl hok (by kernel_rfl) (fun w' b' => R.move rfl rfl) rfl rfl ?_
    refine AA.pure 2 rfl hok (by kernel_rfl) (fun w' b' => R.index rfl rfl rfl (I.ixA1 rfl (by omega))) rfl rfl ?_
    refine AA.pure 3 rfl hok (by kernel_rfl) (fun w' b' => R.load rfl rfl (I.ld1 rfl (cell_kept c1 b' (by refine ⟨?_, ?_⟩ <;> omega)))) rfl rfl ?_
    refine AA.pureC 4 rfl hok (by kernel_rfl) (fun w' => (R.call rfl rfl rfl)) (fun w' b' => rfl_a _ w' (by first | assumption | omega)) rfl rfl ?_
    refine AA.pure 5 rfl hok (by kernel_rfl) (fun w' b' => R.convI rfl rfl rfl rfl (wrapI (by omega) (by omega))) rfl rfl ?_
    refine AA.pure 6 rfl hok (by kernel_rfl) (fun w' b' => R.move rfl rfl) rfl rfl ?_
    refine AA.pure 7 rfl hok (by kernel_rfl) (fun w' b' => R.index rfl rfl rfl (I.ixA1 rfl (by omega))) rfl rfl ?_
    refine AA.pure 8 rfl hok (by kernel_rfl) (fun w' b' => R.load rfl rfl (I.ld1 rfl (cell_kept c1 b' (by refine ⟨?_, ?_⟩ <;> omega)))) rfl rfl ?_
    refine AA.pureC 9 rfl hok (by kernel_rfl) (fun w' => (R.call rfl rfl rfl)) (fun w' b' => rfl_b _ w' (by first | assumption | omega)) rfl rfl ?_
    refine AA.pure 10 rfl hok (by kernel_rfl) (fun w' b' => R.convI rfl rfl rfl rfl (wrapI (by omega) (by omega))) rfl rfl ?_
    refine AA.pure 11 rfl hok (by kernel_rfl) (fun w' b' => R.move rfl rfl) rfl rfl ?_
    refine AA.pure 12 rfl hok (by kernel_rfl) (fun w' b' => R.index rfl rfl rfl (I.ixA1 rfl (by omega))) rfl rfl ?_
    refine AA.pure 13 rfl hok (by kernel_rfl) (fun w' b' => R.load rfl rfl (I.ld1 rfl (cell_kept c1 b' (by refine ⟨?_, ?_⟩ <;> omega)))) rfl rfl ?_
    refine AA.pureC 14 rfl hok (by kernel_rfl) (fun w' => (R.call rfl rfl rfl)) (fun w' b' => rfl_c _ w' (by first | assumption | omega)) rfl rfl ?_
    refine AA.pure 15 rfl hok (by kernel_rfl) (fun w' b' => R.convI rfl rfl rfl rfl (wrapI (by omega) (by omega))) rfl rfl ?_
    refine AA.pure 16 rfl hok (by kernel_rfl) (fun w' b' => R.buildV rfl rfl (v := .agg #[Value.int IntKind.i64 ↑(x % 65536), Value.int IntKind.i64 ↑(x / 65536 % 16777216), Value.int IntKind.i64 ↑(x / 1099511627776 % 65536)]) (fun _ => by kernel_rfl)) rfl rfl ?_
    refine AA.one 17 (by kernel_rfl) ?_
    have lb1 := r4.lt
    refine ZR.lit (e := 98) [Value.int IntKind.i64 ↑(x % 65536), Value.int IntKind.i64 ↑(x / 65536 % 16777216), Value.int IntKind.i64 ↑(x / 1099511627776 % 65536)] 1 rfl rfl rfl (fun _ => by kernel_rfl) rfl rfl ?_
    intro Wb3 gb4 egb4 rb5 zb6 bb2
    replace q := Zu q bb2; replace r4 := r4.up bb2; replace o := o.up bb2; replace c1 := cell_up c1 bb2; replace hok := Zh hok bb2; have yb7 := hok.size
    refine ⟨hok, ?_⟩
    refine AA.one 18 (by kernel_rfl) ?_
    (refine SR.appendT2 rfl rfl rfl eEnc ElEx o (RowL.readsT (ts := [unpE x]) eEnc (by assumption) 1 (by simp)) (by simp [maxLen]; omega) (by simp; omega) (by omega) rfl rfl ?_; intro v' Wa oa gra hva; replace q := q.grown gra q.size (fun g hg => by have := own_ge o g hg; omega); replace r4 := r4.grO gra hn3; replace c1 := cell_grO c1 gra hn3; replace hok := hok.trans (grown_kept gra (fun j h => by have := h.1; have := hok.size; omega) (fun j h => h.2)); have hsz := gra.size; rw [← hst] at oa; clear o; refine ⟨hok, ?_⟩)
    refine AA.pure 19 rfl hok (by kernel_rfl) (fun w' b' => R.assign rfl rfl) rfl rfl ?_
    refine AA.done rfl ?_
    clear fzr4 fzc1 hok
    refine EE.inN ?_; refine ZT ?_; refine CC.region ?_; refine Zm ?_
    refine LL.val (R.addNc rfl rfl rfl rfl (by omega)) rfl rfl rfl ?_
    refine Za ?_; refine ZL ?_
    exact EE.round (i + 1, v') ⟨rfl, rfl, rfl, trivial⟩ ⟨by show i + 1 ≤ 10; omega, q, by omega, r4, oa⟩ (by show 10 - (i + 1) < 10 - i; omega)
  case neg =>
    obtain rfl : i = 10 := by omega
    rw [show ws.take 10 = ws from List.take_of_length_le (by omega)] at o
    have hr := o.reads eEnc
    have hol := outZ_len ws
    have hlo : (outZ ws).length ≤ 1048576 := by omega
    have hrF := fun W' (hb : Below W.heap.size W W') => hr.up hb
    have hoF := fun W' (hb : Below W.heap.size W W') => (o.up hb).lower (show w.heap.size ≤ B by omega)
    have qW := Below.refl W.heap.size W
    clear o
    have hv := hm.1
    have hwl := wrdZ_len (l := outZ ws) hv.1
    have hWd : ∀ w', Below W.heap.size W w' → Calls Tryd.prog 31 #[v] w' fun e w'' => e = .returned (wdV (wrdZ (outZ ws))) ∧ Below w'.heap.size w' w'' := fun w' b => rwords_T (outZ ws) _ w' (hrF _ b) hv
    have he := hm.2
    refine Zc ?_; refine Zr ?_; refine Zm ?_; refine ZltF ?_; refine Zq ?_; refine ZN ?_; refine CC.exit ?_; refine EE.thenX ?_; refine EE.thenX ?_; refine EE.inX ?_; refine ZT ?_; refine Zr ?_; refine Zm ?_
    refine Zy (R.call rfl rfl rfl) (rof_T _ _ _ (by first | assumption | omega) (by first | assumption | omega) (by first | assumption | omega)) ?_
    rintro e Wc2 ⟨rfl, bc1⟩
    refine ⟨_, rfl, ?_⟩; have zbc1 := bc1.size; replace q := Zu q bc1; replace r4 := r4.up bc1; replace hr := hr.up bc1; replace qW := Zu qW bc1; refine Zm ?_; refine Zx ?_; refine Zx ?_; have lc4 := r4.lt
    refine LL.alloc (intsZ .i64 (List.replicate 128 0)) rfl rfl rfl rfl rfl ?_
    intro Wc6 gc7 egc7 rc8 zc9 bc5
    replace bc1 := Zu bc1 bc5; replace q := Zu q bc5; replace r4 := r4.up bc5; replace hr := hr.up bc5; replace qW := Zu qW bc5
    refine LL.storeAZ rfl rfl rfl rfl (by first | assumption | exact List.length_replicate | exact plL_len _ | exact plOf_len _ | simp) rc8 (by first | (rw [List.length_map]; exact (by first | assumption | exact List.length_replicate | exact plL_len _ | exact plOf_len _ | simp)) | simp) rfl rfl ?_
    intro Wc11 rc12 bc10 zc13
    have hlbc10 := rc8.lt
    clear rc8
    replace bc5 := Zg bc5 bc10; replace bc1 := Zg bc1 bc10; replace q := Zg q bc10; replace r4 := Zd r4 bc10; replace qW := Zg qW bc10
    have rc8 := rc12
    clear rc12
    refine Za ?_; refine Zq ?_; refine Zc ?_; refine Zc ?_
    refine CC.grow (by kernel_rfl) (by kernel_rfl) ?_
    refine Gm ?_
    refine Gt ?_
    refine Gm ?_
    refine Gm ?_
    refine Gc (fun w' b' => hWd w' (qW.trans (b'.mono qW.size))) ?_
    refine GG.val (fun w' b' => R.loadZ rfl rfl (r4.up b') rfl rfl (by first | assumption | exact List.length_replicate | exact plL_len _ | exact plOf_len _ | simp)) rfl rfl ?_
    refine GG.val (fun w' b' => R.neZT rfl rfl rfl Tryd.underlying74 Tryd.underlying41 rfl (by decide) rfl (by kernel_rfl) (by assumption) (by assumption) (by assumption)) rfl rfl ?_
    refine GG.val (fun w' b' => R.pick rfl rfl rfl) rfl rfl ?_
    refine GG.nilQ (fun Wc18 bc17 => ?_)
    have zbc17 := bc17.size; replace bc5 := Zu bc5 bc17; replace bc1 := Zu bc1 bc17; replace q := Zu q bc17; replace r4 := r4.up bc17; replace qW := Zu qW bc17; replace rc8 := rc8.up bc17; refine ZT ?_; refine ZN ?_; refine ZK ?_; refine ZT ?_; refine Zr ?_; refine Zm ?_; refine Za ?_; refine Za ?_; refine Zq ?_; refine ZR ?_; refine EE.ret _ rfl rfl ?_
    exact ⟨_, rfl, hoF _ qW, q⟩
/-- Ten words of which so many are filled in. -/
def parZ (zs : List Int) (i : Nat) : List Int := zs.take i ++ List.replicate (10 - i) 0
theorem parZ_0 (zs : List Int) : parZ zs 0 = List.replicate 10 0 := by simp [parZ]
theorem parZ_len (zs : List Int) (i : Nat) (h : zs.length = 10) (h2 : i ≤ 10) : (parZ zs i).length = 10 := by simp [parZ]; omega
theorem parZ_10 (zs : List Int) (h : zs.length = 10) : parZ zs 10 = zs := by simp [parZ, ← h]
theorem parZ_set (zs : List Int) (i : Nat) (v : Int) (h : zs.length = 10) (h2 : i < 10) (hv : zs[i]? = some v) : (parZ zs i).set i v = parZ zs (i + 1) := by
  unfold parZ
  have hl : (zs.take i).length = i := by simp; omega
  rw [List.set_append_right _ _ (by omega), hl, Nat.sub_self]
  obtain ⟨k, hk⟩ : ∃ k, 10 - i = k + 1 := ⟨10 - i - 1, by omega⟩
  rw [hk, show 10 - (i + 1) = k by omega, List.replicate_succ, List.set_cons_zero, List.take_add_one, hv]
  simp
theorem wsZ_at {ws : List Nat} {i x : Nat} (h : ws[2 + i]? = some x) (hi : i < 10) : (wsZ ws)[i]? = some (x : Int) := by
  unfold wsZ
  rw [List.getElem?_map, List.getElem?_take, if_pos hi, List.getElem?_drop, h]
  rfl
theorem dof_1 (bk off cap : Nat) (ws : List Nat) (w : World) (x0 x1 x2 x3 l : Nat) (F : FoW bk off ws w x0 x1 x2 x3 l) (hs : x0 < 4294967296 ∧ x1 ≤ 65536 ∧ x2 ≤ 4611686018427387904 ∧ x3 ≤ 4611686018427387904) (hk : x0 % 256 = 1) (hcap : 16 ≤ cap) (Q : Ending → World → Prop) (hR : ¬mapW (wsZ ws) → ∀ w', Below w.heap.size w w' → Q (.returned (.tuple #[zrV, .int .i64 240])) w') (hC : mapW (wsZ ws) → ¬okI 1 (l : Int) (x1 : Int) (outZ (wsZ ws)) 0 0 [] → ∀ w', Below w.heap.size w w' → Q (.returned (.tuple #[zrV, .int .i64 240])) w') (hX : mapW (wsZ ws) → okI 1 (l : Int) (x1 : Int) (outZ (wsZ ws)) 0 0 [] → inoW 1 (l : Int) (x1 : Int) (outZ (wsZ ws)) 0 0 [] ≠ ws → ∀ w', Below w.heap.size w w' → Q (.returned (.tuple #[zrV, .int .i64 240])) w') (hT : mapW (wsZ ws) → okI 1 (l : Int) (x1 : Int) (outZ (wsZ ws)) 0 0 [] → inoW 1 (l : Int) (x1 : Int) (outZ (wsZ ws)) 0 0 [] = ws → ∀ v w', ReadsT eE 3 w' v (outZ (wsZ ws)) → Below w.heap.size w w' → Q (.returned (.tuple #[inV 1 (l : Int) (x1 : Int) v 0 0 [], .int .i64 0])) w') : Calls Tryd.prog 19 #[.slice (some ⟨bk, off, none⟩) 16 cap] w Q := by
  have q := Below.refl w.heap.size w
  have hWF : ∀ X, Below w.heap.size w X → WdsAt X bk off ws := fun X b => F.W.up b
  have c0 := F.W.cells _ _ F.e0
  have c1 := F.W.cells _ _ F.e1
  have c2 := F.W.cells _ _ F.e2
  have c3 := F.W.cells _ _ F.e3
  have hb0 := F.b _ (List.mem_of_getElem? F.e0)
  have hb1 := F.b _ (List.mem_of_getElem? F.e1)
  have hb2 := F.b _ (List.mem_of_getElem? F.e2)
  have hb3 := F.b _ (List.mem_of_getElem? F.e3)
  have hbk := F.W.lt
  have nz := F.nz
  have el := F.el
  have hwl := F.len
  have hwb := F.b
  have hzl := wsZ_len hwl
  have hzb := wsZ_bnd hwb
  have he1 := F.e1
  have hlo : (outZ (wsZ ws)).length ≤ 1048576 := by have := outZ_len (wsZ ws); omega
  clear F
  refine X.fn Tryd.func19 rfl (n := 145) rfl rfl ?_
  refine Zr ?_
  refine LL.alloc ([.int .i64 0, .int .i64 0, .int .i64 0, .slice none 0 0, .int .i64 0, .int .i64 0, .string { data := { toList := [] } }]) rfl rfl rfl rfl rfl ?_
  intro W2 g3 eg3 r4 z5 b1
  replace q := Zu q b1; replace c0 := cell_up c0 b1; replace c1 := cell_up c1 b1; replace c2 := cell_up c2 b1; replace c3 := cell_up c3 b1; refine Za ?_; refine Zq ?_; refine Zc ?_; refine Zr ?_; refine Zm ?_; refine Zn ?_; refine ZneF ?_; refine Zq ?_; refine ZN ?_; refine ZK ?_; refine ZT ?_; refine Zc ?_; refine Zr ?_; refine Zm ?_; refine Zi ?_; refine Zk ?_; refine ZeqF ?_; refine Zq ?_; refine ZN ?_
  refine ZK ?_; refine ZT ?_; refine Zr ?_; refine Zm ?_; refine Zi ?_; refine Zk ?_
  refine LL.val (R.remUE (b := 256) (z := 1) rfl rfl rfl (by decide) hk) rfl rfl rfl ?_
  refine LL.val (R.convI rfl rfl rfl rfl (wrapI (by omega) (by omega))) rfl rfl rfl ?_
  refine LL.val (R.buildV rfl rfl (v := .agg #[Value.int IntKind.i64 ↑1, Value.int IntKind.i64 0, Value.int IntKind.i64 0, Value.slice none 0 0, Value.int IntKind.i64 0, Value.int IntKind.i64 0, Value.string { data := #[] }]) (fun _ => by kernel_rfl)) rfl rfl rfl ?_
  have l6 := r4.lt
  refine LL.alloc ([.int .i64 0, .int .i64 0, .int .i64 0, .slice none 0 0, .int .i64 0, .int .i64 0, .string { data := { toList := [] } }]) rfl rfl rfl rfl rfl ?_
  intro W8 g9 eg9 r10 z11 b7
  replace r4 := r4.up b7; replace b1 := Zu b1 b7; replace q := Zu q b7; replace c0 := cell_up c0 b7; replace c1 := cell_up c1 b7; replace c2 := cell_up c2 b7; replace c3 := cell_up c3 b7
  refine LL.storeN (vs := [.int .i64 1, .int .i64 0, .int .i64 0, .slice none 0 0, .int .i64 0, .int .i64 0, .string { data := #[] }]) rfl rfl rfl rfl r10 (by exact Nat.le_of_ble_eq_true rfl) (ones_of rfl) rfl rfl ?_
  intro W13 r14 b12 z15
  have hlb12 := r10.lt
  replace r14 : RowL W13 _ 25 [.int .i64 1, .int .i64 0, .int .i64 0, .slice none 0 0, .int .i64 0, .int .i64 0, .string { data := #[] }] := r14
  clear r10
  replace b7 := Zg b7 b12; replace r4 := Zd r4 b12; replace b1 := Zg b1 b12; replace q := Zg q b12; replace c0 := Ze c0 b12; replace c1 := Ze c1 b12; replace c2 := Ze c2 b12; replace c3 := Ze c3 b12
  have r10 := r14
  clear r14
  refine Zq ?_; refine Zc ?_; refine Zr ?_; refine Zm ?_; refine Zi ?_; refine Zk ?_; refine ZgeF ?_; refine Zm ?_; refine Zm ?_; refine Zi ?_; refine Zk ?_; refine ZgtF ?_; refine Zp ?_; refine Zm ?_; refine Zm ?_; refine Zi ?_; refine Zk ?_; refine ZgtF ?_; refine Zp ?_; refine Zm ?_; refine Zm ?_; refine Zi ?_; refine Zk ?_; refine ZgtF ?_; refine Zp ?_; refine Zq ?_; refine ZN ?_; refine ZK ?_
  refine ZT ?_; refine Zr ?_; refine Zm ?_; refine Zi ?_; refine Zk ?_
  refine LL.val (R.quoUE (b := 256) (z := l) rfl rfl rfl (by decide) el (by omega)) rfl rfl rfl ?_
  refine LL.val (R.convI rfl rfl rfl rfl (wrapI (by omega) (by omega))) rfl rfl rfl ?_
  refine Zf ?_
  refine LL.store rfl rfl rfl rfl r10 (by exact Nat.le_of_ble_eq_true rfl) rfl rfl rfl rfl ?_
  intro W17 r18 b16 z19
  have hlb16 := r10.lt
  replace r18 : RowL W17 _ 25 [.int .i64 1, .int .i64 ↑l, .int .i64 0, .slice none 0 0, .int .i64 0, .int .i64 0, .string { data := #[] }] := r18
  clear r10
  replace b7 := Zg b7 b16; replace r4 := Zd r4 b16; replace b1 := Zg b1 b16; replace q := Zg q b16; replace c0 := Ze c0 b16; replace c1 := Ze c1 b16; replace c2 := Ze c2 b16; replace c3 := Ze c3 b16
  have r10 := r18
  clear r18
  refine Zq ?_; refine Zc ?_; refine Zr ?_; refine Zf ?_; refine Zl r10 ?_; refine Zq ?_; refine CC.block ?_; refine Zr ?_; refine ZeqT ?_; refine Za ?_; refine Zq ?_; refine ZY ?_; refine Zr ?_; have l20 := r4.lt; have l21 := r10.lt
  refine LL.alloc (intsZ .u64 (List.replicate 10 0)) rfl rfl rfl rfl rfl ?_
  intro W23 g24 eg24 r25 z26 b22
  replace b7 := Zu b7 b22; replace r4 := r4.up b22; replace b1 := Zu b1 b22; replace q := Zu q b22; replace c0 := cell_up c0 b22; replace c1 := cell_up c1 b22; replace c2 := cell_up c2 b22; replace c3 := cell_up c3 b22; replace r10 := r10.up b22; refine Zq ?_; refine Zc ?_; refine Zr ?_; refine Za ?_; refine Zq ?_; refine CC.block ?_
  have r25b : RowL W23 g24 74 (intsZ .u64 (parZ (wsZ ws) 0)) := by rw [parZ_0]; exact r25
  refine CC.loop (α := Nat) (fun i => [(0, .slice (some ⟨bk, off, none⟩) 16 cap), (2, .pointer (some ⟨g3, 0, none⟩)), (4, .pointer (some ⟨g9, 0, none⟩)), (5, .pointer (some ⟨g24, 0, none⟩)), (6, .int .i64 (i : Int))]) (fun i W => i ≤ 10 ∧ Below w.heap.size w W ∧ g24 < W.heap.size ∧ RowL W g3 25 (inL 0 0 0 (.slice none 0 0) 0 0 []) ∧ RowL W g9 25 (inL 1 (l : Int) 0 (.slice none 0 0) 0 0 []) ∧ RowL W g24 74 (intsZ .u64 (parZ (wsZ ws) i))) (fun i => 10 - i) 0 ⟨rfl, rfl, rfl, rfl, rfl, trivial⟩ ⟨by omega, q, r25.lt, r4, r10, r25b⟩ ?_
  clear q r4 r10 r25 r25b b1 b7 b22 b12 b16 c0 c1 c2 c3
  rintro i W ⟨hi, q, l24, r4, r10, r25⟩
  show CC none Tryd.prog _ 145 [] (sl [(0, .slice (some ⟨bk, off, none⟩) 16 cap), (2, .pointer (some ⟨g3, 0, none⟩)), (4, .pointer (some ⟨g9, 0, none⟩)), (5, .pointer (some ⟨g24, 0, none⟩)), (6, .int .i64 (i : Int))]) _ W
  have yq := q.size
  have hpl := parZ_len (wsZ ws) i hzl hi
  by_cases hlt : i < 10
  case pos =>
    obtain ⟨y, hy⟩ : ∃ y, ws[2 + i]? = some y := ⟨_, List.getElem?_eq_getElem (by omega)⟩
    have c4 := (hWF W q).cells _ _ hy
    have hst := parZ_set (wsZ ws) i y hzl hlt (wsZ_at hy hlt)
    refine Zc ?_; refine Zr ?_; refine Zm ?_; refine ZltT ?_; refine Zq ?_; refine ZY ?_; refine ZK ?_; refine ZT ?_; refine Zc ?_; refine CC.block ?_; refine CC.region ?_; refine Zm ?_; refine Zm ?_; refine Zm ?_
    (refine LL.val (R.addN (a := 2) (b := i) rfl rfl rfl (by omega)) rfl rfl rfl ?_)
    refine LL.val (R.index rfl rfl rfl (I.ixS1 rfl (by omega))) rfl rfl rfl ?_
    refine Zk ?_
    refine LL.val (R.index rfl rfl rfl (I.ixA1 rfl (by omega))) rfl rfl rfl ?_
    (refine LL.storeZ (i := i) rfl rfl (by omega) rfl rfl r25 (by omega) rfl rfl ?_; intro Wa60 r9 gra58 zz9; rw [hst] at r9; clear r25; have r25 := r9; clear r9)
    have zgra58 := gra58.size; replace q := Zg q gra58; replace r4 := Zd r4 gra58; replace r10 := Zd r10 gra58; replace c4 := Ze c4 gra58; refine ZL ?_; refine EE.inN ?_; refine ZT ?_; refine CC.region ?_; refine Zm ?_
    refine LL.val (R.addNc rfl rfl rfl rfl (by omega)) rfl rfl rfl ?_
    refine Za ?_; refine ZL ?_
    exact EE.round (i + 1) ⟨rfl, rfl, rfl, rfl, rfl, trivial⟩ ⟨by omega, q, by omega, r4, r10, r25⟩ (by omega)
  case neg =>
    obtain rfl : i = 10 := by omega
    rw [parZ_10 _ hzl] at r25
    have c1 := (hWF W q).cells _ _ he1
    by_cases hm : mapW (wsZ ws)
    case neg =>
      refine Zc ?_; refine Zr ?_; refine Zm ?_; refine ZltF ?_; refine Zq ?_; refine ZN ?_; refine CC.exit ?_; refine EE.thenX ?_; refine EE.thenX ?_; refine EE.inX ?_; refine ZT ?_; refine Zr ?_
      refine LL.val (R.loadZ rfl rfl r25 rfl rfl (by first | assumption | exact List.length_replicate | exact plL_len _ | exact plOf_len _ | simp)) rfl rfl rfl ?_
      have lb35 := r4.lt; have lb36 := r10.lt; have lb37 := r25.lt
      (refine Zy (R.call rfl rfl rfl) (rdw_F (wsZ ws) _ hzl hzb hm) ?_; rintro e Wb34 ⟨rfl, bb31⟩; refine ⟨_, rfl, ?_⟩)
      have zbb31 := bb31.size; replace q := Zu q bb31; replace r4 := r4.up bb31; replace r10 := r10.up bb31; replace r25 := r25.up bb31; replace c1 := cell_up c1 bb31; refine Zm ?_; refine Zx ?_; refine Zx ?_; refine Za ?_; refine Za ?_; refine Zq ?_; refine Zc ?_; refine Zr ?_; refine Zm ?_; refine ZneT ?_; refine Zq ?_; refine ZY ?_; refine Zr ?_
      refine LL.val (R.buildV rfl rfl (v := .agg #[Value.int IntKind.i64 0, Value.int IntKind.i64 0, Value.int IntKind.i64 0, Value.slice none 0 0, Value.int IntKind.i64 0, Value.int IntKind.i64 0, Value.string { data := #[] }]) (fun _ => by kernel_rfl)) rfl rfl rfl ?_
      refine LL.storeN (vs := [.int .i64 0, .int .i64 0, .int .i64 0, .slice none 0 0, .int .i64 0, .int .i64 0, .string { data := #[] }]) rfl rfl rfl rfl r4 (by exact Nat.le_of_ble_eq_true rfl) (ones_of rfl) rfl rfl ?_
      intro Wb132 rb133 bb131 zb134
      have hlbb131 := r4.lt
      replace rb133 : RowL Wb132 _ 25 [.int .i64 0, .int .i64 0, .int .i64 0, .slice none 0 0, .int .i64 0, .int .i64 0, .string { data := #[] }] := rb133
      clear r4
      replace q := Zg q bb131; replace r10 := Zd r10 bb131; replace r25 := Zd r25 bb131; replace c1 := Ze c1 bb131
      have r4 := rb133
      clear rb133
      refine Za ?_; refine Zq ?_; refine ZR ?_; refine EE.thenR ?_; refine EE.inR ?_; refine EE.thenR ?_
      refine EE.ret2 rfl ⟨_, rfl, lvNc (RowL.cells0 (by assumption)) (by rfl) (by rfl)⟩ rfl ?_
      exact hR hm _ q
    by_cases hok : okI 1 (l : Int) (x1 : Int) (outZ (wsZ ws)) 0 0 []
    case neg =>
      refine Zc ?_; refine Zr ?_; refine Zm ?_; refine ZltF ?_; refine Zq ?_; refine ZN ?_; refine CC.exit ?_; refine EE.thenX ?_; refine EE.thenX ?_; refine EE.inX ?_; refine ZT ?_; refine Zr ?_
      refine LL.val (R.loadZ rfl rfl r25 rfl rfl (by first | assumption | exact List.length_replicate | exact plL_len _ | exact plOf_len _ | simp)) rfl rfl rfl ?_
      have lc65 := r4.lt; have lc66 := r10.lt; have lc67 := r25.lt
      (refine Zy (R.call rfl rfl rfl) (rrd_O (wsZ ws) _ hzl hzb hm) ?_; rintro e Wc64 ⟨v8, rfl, o8, bc61⟩; refine ⟨_, rfl, ?_⟩; obtain ⟨n8, en8⟩ : ∃ n, (outZ (wsZ ws)).length = n := ⟨_, rfl⟩; have hge8 := ownsT_ge o8; obtain ⟨a8, c8, rfl, hc8⟩ := (o8.reads eEnc).form en8)
      have zbc61 := bc61.size; replace q := Zu q bc61; replace r4 := r4.up bc61; replace r10 := r10.up bc61; replace r25 := r25.up bc61; replace c1 := cell_up c1 bc61; refine Zm ?_; refine Zx ?_; refine Zx ?_; refine Za ?_; refine Za ?_; refine Zq ?_; refine Zc ?_; refine Zr ?_; refine Zm ?_; refine ZneF ?_; refine Zq ?_; refine ZN ?_; refine ZK ?_; refine ZT ?_; refine CC.region ?_; refine Zm ?_; refine Zi ?_
      refine Zk ?_
      refine LL.val (R.convI rfl rfl rfl rfl (wrapI (by omega) (by omega))) rfl rfl rfl ?_
      refine Zm ?_; refine Zf ?_
      refine LL.store rfl rfl rfl rfl r10 (by exact Nat.le_of_ble_eq_true rfl) rfl rfl rfl rfl ?_
      intro Wc352 rc353 bc351 zc354
      have hlbc351 := r10.lt
      replace rc353 : RowL Wc352 _ 25 [.int .i64 1, .int .i64 ↑l, .int .i64 ↑x1, .slice none 0 0, .int .i64 0, .int .i64 0, strV []] := rc353
      clear r10
      replace o8 := o8.grown bc351 (own_ne o8 (by omega))
      replace q := Zg q bc351; replace r4 := Zd r4 bc351; replace r25 := Zd r25 bc351; replace c1 := Ze c1 bc351
      have r10 := rc353
      clear rc353
      refine Zf ?_
      refine LL.store rfl rfl rfl rfl r10 (by exact Nat.le_of_ble_eq_true rfl) rfl rfl rfl rfl ?_
      intro Wc396 rc397 bc395 zc398
      have hlbc395 := r10.lt
      replace rc397 : RowL Wc396 _ 25 [.int .i64 1, .int .i64 ↑l, .int .i64 ↑x1, .slice a8 n8 c8, .int .i64 0, .int .i64 0, strV []] := rc397
      clear r10
      replace o8 := o8.grown bc395 (own_ne o8 (by omega))
      replace q := Zg q bc395; replace r4 := Zd r4 bc395; replace r25 := Zd r25 bc395; replace c1 := Ze c1 bc395
      have r10 := rc397
      clear rc397
      refine ZL ?_; refine EE.inN ?_; refine ZT ?_; refine Zr ?_; refine Zv r10 ?_; have lc433 := r4.lt; have lc434 := r25.lt; have lc435 := r10.lt
      (refine Zy (R.call rfl rfl rfl) (rinW_no 1 (l : Int) (x1 : Int) _ _ _ (outZ (wsZ ws)) 0 0 [] _ (o8.reads eEnc) hlo (by decide) hok) ?_; rintro e Wc432 ⟨rfl, bc429⟩; refine ⟨_, rfl, ?_⟩)
      have zbc429 := bc429.size; replace o8 := o8.up bc429; replace q := Zu q bc429; replace r4 := r4.up bc429; replace r25 := r25.up bc429; replace c1 := cell_up c1 bc429; replace r10 := r10.up bc429; refine Zm ?_; refine Zx ?_; refine Zx ?_; refine Za ?_; refine Za ?_; refine Zq ?_; refine Zc ?_; refine Zr ?_; refine Zm ?_; refine ZneT ?_; refine Zm ?_; refine Zs ?_; refine Zs ?_; refine Zs ?_; refine Zs ?_
      refine Zp ?_; refine Zq ?_; refine ZY ?_; refine Zr ?_
      refine LL.val (R.buildV rfl rfl (v := .agg #[Value.int IntKind.i64 0, Value.int IntKind.i64 0, Value.int IntKind.i64 0, Value.slice none 0 0, Value.int IntKind.i64 0, Value.int IntKind.i64 0, Value.string { data := #[] }]) (fun _ => by kernel_rfl)) rfl rfl rfl ?_
      refine LL.storeN (vs := [.int .i64 0, .int .i64 0, .int .i64 0, .slice none 0 0, .int .i64 0, .int .i64 0, .string { data := #[] }]) rfl rfl rfl rfl r4 (by exact Nat.le_of_ble_eq_true rfl) (ones_of rfl) rfl rfl ?_
      intro Wc660 rc661 bc659 zc662
      have hlbc659 := r4.lt
      replace rc661 : RowL Wc660 _ 25 [.int .i64 0, .int .i64 0, .int .i64 0, .slice none 0 0, .int .i64 0, .int .i64 0, .string { data := #[] }] := rc661
      clear r4
      replace o8 := o8.grown bc659 (own_ne o8 (by omega))
      replace q := Zg q bc659; replace r25 := Zd r25 bc659; replace c1 := Ze c1 bc659; replace r10 := Zd r10 bc659
      have r4 := rc661
      clear rc661
      refine Za ?_; refine Zq ?_; refine ZR ?_; refine EE.thenR ?_
      refine EE.ret2 rfl ⟨_, rfl, lvNc (RowL.cells0 (by assumption)) (by rfl) (by rfl)⟩ rfl ?_
      exact hC hm hok _ q
    have hxl := inoW_len hok
    have hwy := fun x n c W h => rinW_ok 1 (l : Int) (x1 : Int) x n c (outZ (wsZ ws)) 0 0 [] W h hlo hok
    unfold wsP at hwy
    by_cases heq : inoW 1 (l : Int) (x1 : Int) (outZ (wsZ ws)) 0 0 [] = ws
    case neg =>
      have hne := heq
      refine Zc ?_; refine Zr ?_; refine Zm ?_; refine ZltF ?_; refine Zq ?_; refine ZN ?_; refine CC.exit ?_; refine EE.thenX ?_; refine EE.thenX ?_; refine EE.inX ?_; refine ZT ?_; refine Zr ?_
      refine LL.val (R.loadZ rfl rfl r25 rfl rfl (by first | assumption | exact List.length_replicate | exact plL_len _ | exact plOf_len _ | simp)) rfl rfl rfl ?_
      have ld95 := r4.lt; have ld96 := r10.lt; have ld97 := r25.lt
      (refine Zy (R.call rfl rfl rfl) (rrd_O (wsZ ws) _ hzl hzb hm) ?_; rintro e Wd94 ⟨v8, rfl, o8, bd91⟩; refine ⟨_, rfl, ?_⟩; obtain ⟨n8, en8⟩ : ∃ n, (outZ (wsZ ws)).length = n := ⟨_, rfl⟩; have hge8 := ownsT_ge o8; obtain ⟨a8, c8, rfl, hc8⟩ := (o8.reads eEnc).form en8)
      have zbd91 := bd91.size; replace q := Zu q bd91; replace r4 := r4.up bd91; replace r10 := r10.up bd91; replace r25 := r25.up bd91; replace c1 := cell_up c1 bd91; refine Zm ?_; refine Zx ?_; refine Zx ?_; refine Za ?_; refine Za ?_; refine Zq ?_; refine Zc ?_; refine Zr ?_; refine Zm ?_; refine ZneF ?_; refine Zq ?_; refine ZN ?_; refine ZK ?_; refine ZT ?_; refine CC.region ?_; refine Zm ?_; refine Zi ?_
      refine Zk ?_
      refine LL.val (R.convI rfl rfl rfl rfl (wrapI (by omega) (by omega))) rfl rfl rfl ?_
      refine Zm ?_; refine Zf ?_
      refine LL.store rfl rfl rfl rfl r10 (by exact Nat.le_of_ble_eq_true rfl) rfl rfl rfl rfl ?_
      intro Wd522 rd523 bd521 zd524
      have hlbd521 := r10.lt
      replace rd523 : RowL Wd522 _ 25 [.int .i64 1, .int .i64 ↑l, .int .i64 ↑x1, .slice none 0 0, .int .i64 0, .int .i64 0, strV []] := rd523
      clear r10
      replace o8 := o8.grown bd521 (own_ne o8 (by omega))
      replace q := Zg q bd521; replace r4 := Zd r4 bd521; replace r25 := Zd r25 bd521; replace c1 := Ze c1 bd521
      have r10 := rd523
      clear rd523
      refine Zf ?_
      refine LL.store rfl rfl rfl rfl r10 (by exact Nat.le_of_ble_eq_true rfl) rfl rfl rfl rfl ?_
      intro Wd586 rd587 bd585 zd588
      have hlbd585 := r10.lt
      replace rd587 : RowL Wd586 _ 25 [.int .i64 1, .int .i64 ↑l, .int .i64 ↑x1, .slice a8 n8 c8, .int .i64 0, .int .i64 0, strV []] := rd587
      clear r10
      replace o8 := o8.grown bd585 (own_ne o8 (by omega))
      replace q := Zg q bd585; replace r4 := Zd r4 bd585; replace r25 := Zd r25 bd585; replace c1 := Ze c1 bd585
      have r10 := rd587
      clear rd587
      refine ZL ?_; refine EE.inN ?_; refine ZT ?_; refine Zr ?_; refine Zv r10 ?_; have ld633 := r4.lt; have ld634 := r25.lt; have ld635 := r10.lt
      (refine Zy (R.call rfl rfl rfl) (hwy _ _ _ _ (o8.reads eEnc)) ?_; rintro e Wd632 ⟨g99, rfl, r91, hg9, bd629⟩; refine ⟨_, rfl, ?_⟩)
      have zbd629 := bd629.size; replace o8 := o8.up bd629; replace q := Zu q bd629; replace r4 := r4.up bd629; replace r25 := r25.up bd629; replace c1 := cell_up c1 bd629; replace r10 := r10.up bd629; refine Zm ?_; refine Zx ?_; refine Zx ?_; refine Za ?_; refine Za ?_; refine Zq ?_; refine Zc ?_; refine Zr ?_; refine Zm ?_; refine ZneF ?_; refine Zm ?_; refine Zm ?_; refine Zm ?_; have ld995 := r91.lt
      have ld996 := r4.lt; have ld997 := r25.lt; have ld998 := r10.lt
      (refine Zy (R.call rfl rfl rfl) (wsame_RF g99 bk off cap _ ws _ r91 hxl (hWF _ q) hwl hcap hne) ?_; rintro e Wd994 ⟨rfl, bd991⟩; refine ⟨_, rfl, ?_⟩)
      have zbd991 := bd991.size; replace r91 := r91.up bd991; replace bd629 := Zu bd629 bd991; replace o8 := o8.up bd991; replace q := Zu q bd991; replace r4 := r4.up bd991; replace r25 := r25.up bd991; replace c1 := cell_up c1 bd991; replace r10 := r10.up bd991; refine Zt ?_; refine Zp ?_; refine Zq ?_; refine ZY ?_; refine Zr ?_
      refine LL.val (R.buildV rfl rfl (v := .agg #[Value.int IntKind.i64 0, Value.int IntKind.i64 0, Value.int IntKind.i64 0, Value.slice none 0 0, Value.int IntKind.i64 0, Value.int IntKind.i64 0, Value.string { data := #[] }]) (fun _ => by kernel_rfl)) rfl rfl rfl ?_
      refine LL.storeN (vs := [.int .i64 0, .int .i64 0, .int .i64 0, .slice none 0 0, .int .i64 0, .int .i64 0, .string { data := #[] }]) rfl rfl rfl rfl r4 (by exact Nat.le_of_ble_eq_true rfl) (ones_of rfl) rfl rfl ?_
      intro Wd1135 rd1136 bd1134 zd1137
      have hlbd1134 := r4.lt
      replace rd1136 : RowL Wd1135 _ 25 [.int .i64 0, .int .i64 0, .int .i64 0, .slice none 0 0, .int .i64 0, .int .i64 0, .string { data := #[] }] := rd1136
      clear r4
      replace r91 := Zd r91 bd1134
      replace o8 := o8.grown bd1134 (own_ne o8 (by omega))
      replace q := Zg q bd1134; replace r25 := Zd r25 bd1134; replace c1 := Ze c1 bd1134; replace r10 := Zd r10 bd1134
      have r4 := rd1136
      clear rd1136
      refine Za ?_; refine Zq ?_; refine ZR ?_; refine EE.thenR ?_
      refine EE.ret2 rfl ⟨_, rfl, lvNc (RowL.cells0 (by assumption)) (by rfl) (by rfl)⟩ rfl ?_
      exact hX hm hok heq _ q
    rw [heq] at hwy
    refine Zc ?_; refine Zr ?_; refine Zm ?_; refine ZltF ?_; refine Zq ?_; refine ZN ?_; refine CC.exit ?_; refine EE.thenX ?_; refine EE.thenX ?_; refine EE.inX ?_; refine ZT ?_; refine Zr ?_
    refine LL.val (R.loadZ rfl rfl r25 rfl rfl (by first | assumption | exact List.length_replicate | exact plL_len _ | exact plOf_len _ | simp)) rfl rfl rfl ?_
    have le95 := r4.lt; have le96 := r10.lt; have le97 := r25.lt
    (refine Zy (R.call rfl rfl rfl) (rrd_O (wsZ ws) _ hzl hzb hm) ?_; rintro e We94 ⟨v8, rfl, o8, be91⟩; refine ⟨_, rfl, ?_⟩; obtain ⟨n8, en8⟩ : ∃ n, (outZ (wsZ ws)).length = n := ⟨_, rfl⟩; have hge8 := ownsT_ge o8; obtain ⟨a8, c8, rfl, hc8⟩ := (o8.reads eEnc).form en8)
    have zbe91 := be91.size; replace q := Zu q be91; replace r4 := r4.up be91; replace r10 := r10.up be91; replace r25 := r25.up be91; replace c1 := cell_up c1 be91; refine Zm ?_; refine Zx ?_; refine Zx ?_; refine Za ?_; refine Za ?_; refine Zq ?_; refine Zc ?_; refine Zr ?_; refine Zm ?_; refine ZneF ?_; refine Zq ?_; refine ZN ?_; refine ZK ?_; refine ZT ?_; refine CC.region ?_; refine Zm ?_; refine Zi ?_
    refine Zk ?_
    refine LL.val (R.convI rfl rfl rfl rfl (wrapI (by omega) (by omega))) rfl rfl rfl ?_
    refine Zm ?_; refine Zf ?_
    refine LL.store rfl rfl rfl rfl r10 (by exact Nat.le_of_ble_eq_true rfl) rfl rfl rfl rfl ?_
    intro We522 re523 be521 ze524
    have hlbe521 := r10.lt
    replace re523 : RowL We522 _ 25 [.int .i64 1, .int .i64 ↑l, .int .i64 ↑x1, .slice none 0 0, .int .i64 0, .int .i64 0, strV []] := re523
    clear r10
    replace o8 := o8.grown be521 (own_ne o8 (by omega))
    replace q := Zg q be521; replace r4 := Zd r4 be521; replace r25 := Zd r25 be521; replace c1 := Ze c1 be521
    have r10 := re523
    clear re523
    refine Zf ?_
    refine LL.store rfl rfl rfl rfl r10 (by exact Nat.le_of_ble_eq_true rfl) rfl rfl rfl rfl ?_
    intro We586 re587 be585 ze588
    have hlbe585 := r10.lt
    replace re587 : RowL We586 _ 25 [.int .i64 1, .int .i64 ↑l, .int .i64 ↑x1, .slice a8 n8 c8, .int .i64 0, .int .i64 0, strV []] := re587
    clear r10
    replace o8 := o8.grown be585 (own_ne o8 (by omega))
    replace q := Zg q be585; replace r4 := Zd r4 be585; replace r25 := Zd r25 be585; replace c1 := Ze c1 be585
    have r10 := re587
    clear re587
    refine ZL ?_; refine EE.inN ?_; refine ZT ?_; refine Zr ?_; refine Zv r10 ?_; have le633 := r4.lt; have le634 := r25.lt; have le635 := r10.lt
    (refine Zy (R.call rfl rfl rfl) (hwy _ _ _ _ (o8.reads eEnc)) ?_; rintro e We632 ⟨g99, rfl, r91, hg9, be629⟩; refine ⟨_, rfl, ?_⟩)
    have zbe629 := be629.size; replace o8 := o8.up be629; replace q := Zu q be629; replace r4 := r4.up be629; replace r25 := r25.up be629; replace c1 := cell_up c1 be629; replace r10 := r10.up be629; refine Zm ?_; refine Zx ?_; refine Zx ?_; refine Za ?_; refine Za ?_; refine Zq ?_; refine Zc ?_; refine Zr ?_; refine Zm ?_; refine ZneF ?_; refine Zm ?_; refine Zm ?_; refine Zm ?_; have le995 := r91.lt
    have le996 := r4.lt; have le997 := r25.lt; have le998 := r10.lt
    (refine Zy (R.call rfl rfl rfl) (wsame_RT g99 bk off cap ws _ r91 (hWF _ q) hwl hcap) ?_; rintro e We994 ⟨rfl, be991⟩; refine ⟨_, rfl, ?_⟩)
    have zbe991 := be991.size; replace r91 := r91.up be991; replace be629 := Zu be629 be991; replace o8 := o8.up be991; replace q := Zu q be991; replace r4 := r4.up be991; replace r25 := r25.up be991; replace c1 := cell_up c1 be991; replace r10 := r10.up be991; refine Zt ?_; refine Zp ?_; refine Zq ?_; refine ZN ?_; refine ZK ?_; refine ZT ?_; refine Zr ?_; refine Zv r10 ?_
    refine LL.storeN (vs := [.int .i64 1, .int .i64 ↑l, .int .i64 ↑x1, .slice a8 n8 c8, .int .i64 0, .int .i64 0, strV []]) rfl rfl rfl rfl r4 (by exact Nat.le_of_ble_eq_true rfl) (ones_of rfl) rfl rfl ?_
    intro We1135 re1136 be1134 ze1137
    have hlbe1134 := r4.lt
    replace re1136 : RowL We1135 _ 25 [.int .i64 1, .int .i64 ↑l, .int .i64 ↑x1, .slice a8 n8 c8, .int .i64 0, .int .i64 0, strV []] := re1136
    clear r4
    replace r91 := Zd r91 be1134
    replace o8 := o8.grown be1134 (own_ne o8 (by omega))
    replace q := Zg q be1134; replace r25 := Zd r25 be1134; replace c1 := Ze c1 be1134; replace r10 := Zd r10 be1134
    have r4 := re1136
    clear re1136
    refine Za ?_; refine Zq ?_; refine ZR ?_
    refine EE.ret2 rfl ⟨_, rfl, lvNc (RowL.cells0 (by assumption)) (by rfl) (by rfl)⟩ rfl ?_
    exact hT hm hok heq _ _ (o8.reads eEnc) q
end Go.Proofs.YtnoefalgmekjbaaDoor
