/- What the statements' walks use: In28, SameW, WordsW, Open, OpenI, OpenT, OpenR, OpenN, Door. -/
import Derived.Test.YtnoefalgmekjbaaDoorRows
import Derived.ProofKit
import Derived.OpenShut
import Derived.ShutString
import Derived.ChangeOld
import Derived.ChangeSame
import Derived.Deep.Slices
import Derived.LaidMore
import Derived.Stop.Joined
import Derived.Lib.LaidTab
import Derived.Test.YtnoefalgmekjbaaDoorMwa
import Derived.Test.YtnoefalgmekjbaaDoorMwb
import Derived.Test.YtnoefalgmekjbaaDoorMwe
/- inode: Of of an inode's words, of none's. -/
namespace Go.Proofs.YtnoefalgmekjbaaDoor
set_option linter.unusedVariables false
set_option linter.unusedSimpArgs false
open Go.RowKit Go.Shelf
set_option maxRecDepth 100000
set_option maxHeartbeats 8000000
theorem wrdN_lt {m : List Ex} (h : ∀ x ∈ m, mayE x) : ∀ x ∈ wrdN m, x < 18446744073709551616 := by
  intro x hx
  unfold wrdN at hx
  obtain ⟨z, hz, rfl⟩ := List.mem_map.1 hx
  obtain ⟨i, hi⟩ := List.mem_iff_getElem?.1 hz
  have := wrdZ_bnd h i z hi
  omega
theorem inoW_lt {k l z : Int} {m : List Ex} {r p : Int} {t : Bs} (h : okI k l z m r p t) : ∀ x ∈ inoW k l z m r p t, x < 18446744073709551616 := by
  obtain ⟨hl, ⟨rfl, rfl, rfl, rfl, rfl, rfl, rfl⟩ | ⟨rfl, rfl, rfl, rfl, hf⟩ | ⟨rfl, rfl, rfl, rfl, h1⟩ | ⟨rfl, rfl, rfl, rfl, rfl, h1⟩⟩ := h
  · rw [inoW_0]
    intro x hx
    rw [(List.mem_replicate.1 hx).2]
    decide
  · rw [inoW_1 _ _ _ _ _ _ hf.2.1]
    have hz := hf.1
    intro x hx
    simp only [List.mem_cons, List.mem_append] at hx
    rcases hx with rfl | rfl | hx | hx
    · omega
    · omega
    · exact wrdN_lt hf.2.1.2.1 x hx
    · rw [(List.mem_replicate.1 hx).2]
      decide
  · rw [inoW_2]
    intro x hx
    simp only [List.mem_cons] at hx
    rcases hx with rfl | rfl | rfl | rfl | hx
    · omega
    · decide
    · omega
    · omega
    · rw [(List.mem_replicate.1 hx).2]
      decide
  · rw [inoW_3 _ _ _ _ _ _ h1.1.2]
    intro x hx
    simp only [List.mem_cons, List.mem_append] at hx
    rcases hx with rfl | rfl | hx | hx
    · omega
    · omega
    · exact lay_small _ (nbL_lt t) x hx
    · rw [(List.mem_replicate.1 hx).2]
      decide
theorem of_ok (bk off cap : Nat) (ws : List Nat) (k l z : Int) (m : List Ex) (r p : Int) (t : Bs) (w : World) (hS : Start w) (hcap : 16 ≤ cap) (hW : WdsAt w bk off ws) (h : okI k l z m r p t) (e : inoW k l z m r p t = ws) : Calls Tryd.prog 17 #[.slice (some ⟨bk, off, none⟩) 16 cap] w (ofR k l z m r p t w) := by
  have hws : ws.length = 16 := by rw [← e]; exact inoW_len h
  have hwb : ∀ x ∈ ws, x < 18446744073709551616 := by rw [← e]; exact inoW_lt h
  have hS0 := hS.pos
  have hlt := hW.lt
  have hh := h
  obtain ⟨hl, ⟨rfl, rfl, rfl, rfl, rfl, rfl, rfl⟩ | ⟨rfl, rfl, rfl, rfl, hf⟩ | ⟨rfl, rfl, rfl, rfl, h1⟩ | ⟨rfl, rfl, rfl, rfl, rfl, h1⟩⟩ := h
  · exact of_Z bk off cap ws w hS hws hwb hcap hW (by rw [← e, inoW_0]; rfl)
  · obtain ⟨l, rfl⟩ : ∃ y : Nat, l = (y : Int) := ⟨l.toNat, by omega⟩
    have hz := hf.1
    obtain ⟨z, rfl⟩ : ∃ y : Nat, z = (y : Int) := ⟨z.toNat, by omega⟩
    have e1 := inoW_1 (l : Int) (z : Int) m 0 0 [] hf.2.1
    have e2 := wsZ_1 (l : Int) (z : Int) m 0 0 [] hf.2.1
    rw [e] at e1 e2
    have e3 : outZ (wsZ ws) = m := by rw [e2, outZ_wrdZ hf.2.1.2.1]
    have e4 : mapW (wsZ ws) := by rw [e2]; exact mapW_wrdZ hf.2.1
    refine of_run _ 16 cap _ _ _ _ _ _ _ w hS0 fun W gs go b hgs hgo hne hs ho => ?_
    have := of1_1T gs go bk off cap ws W (hS.up b) hws hwb hcap hs (hW.up b) ho ⟨hne, by omega, by omega⟩ (1 + 256 * l) (by rw [e1]; rfl) (by omega) l (by omega) (by omega) z (by rw [e1]; rfl) (by omega) e4 (by rw [e3]; exact hh) (by rw [e3]; exact e)
    rw [e3] at this
    exact this
  · obtain ⟨l, rfl⟩ : ∃ y : Nat, l = (y : Int) := ⟨l.toNat, by omega⟩
    obtain ⟨r, rfl⟩ : ∃ y : Nat, r = (y : Int) := ⟨r.toNat, by omega⟩
    obtain ⟨p, rfl⟩ : ∃ y : Nat, p = (y : Int) := ⟨p.toNat, by omega⟩
    have e1 := inoW_2 (l : Int) 0 [] (r : Int) (p : Int) []
    rw [e] at e1
    exact of_run _ 16 cap _ _ _ _ _ _ _ w hS0 fun W gs go b hgs hgo hne hs ho => of1_2T gs go bk off cap ws W (hS.up b) hws hwb hcap hs (hW.up b) ho ⟨hne, by omega, by omega⟩ (2 + 256 * l) (by rw [e1]; rfl) (by omega) l (by omega) (by omega) r p (by rw [e1]; rfl) (by rw [e1]; rfl) (by omega) hh e
  · obtain ⟨l, rfl⟩ : ∃ y : Nat, l = (y : Int) := ⟨l.toNat, by omega⟩
    have e1 := inoW_3 (l : Int) 0 [] 0 0 t h1.1.2
    have e2 := tg_3 (l : Int) 0 [] 0 0 t h1.1.2
    rw [e] at e1 e2
    refine of_run _ 16 cap _ _ _ _ _ _ _ w hS0 fun W gs go b hgs hgo hne hs ho => ?_
    have := of1_3T gs go bk off cap ws W (hS.up b) hws hwb hcap hs (hW.up b) ho ⟨hne, by omega, by omega⟩ (3 + 256 * l) (by rw [e1]; rfl) (by omega) l (by omega) (by omega) t.length (by rw [e1]; rfl) h1.1 e2.1 (by rw [e2.2]; exact hh) (by rw [e2.2]; exact e)
    rw [e2.2] at this
    exact this
end Go.Proofs.YtnoefalgmekjbaaDoor

/- InodeSame: the walk. -/
namespace Go.Proofs.YtnoefalgmekjbaaDoor
set_option linter.unusedVariables false
set_option linter.unusedSimpArgs false
open Go.RowKit Go.Shelf
set_option maxRecDepth 100000
set_option maxHeartbeats 8000000
theorem few_any (k l z : Int) (x : Option Addr) (n c : Nat) (r p : Int) (t : Bs) (w : World) (hn : n ≤ 9223372036854775807) (ht : t.length ≤ 9223372036854775807) (b : Bool) (hb : b = decide (n ≤ 30 ∧ t.length ≤ 300)) : Calls Tryd.prog 9 #[inV k l z (.slice x n c) r p t] w fun e w' => e = .returned (.bool b) ∧ Below w.heap.size w w' := by
  have q := Below.refl w.heap.size w
  by_cases hA : n ≤ 30
  · by_cases hB : t.length ≤ 300
    · rw [decide_eq_true ⟨hA, hB⟩] at hb
      subst hb
      refine X.fn Tryd.func9 rfl (n := 13) rfl rfl ?_
      refine Zr ?_
      refine LL.box [Value.int IntKind.i64 k, Value.int IntKind.i64 l, Value.int IntKind.i64 z, Value.slice x n c, Value.int IntKind.i64 r, Value.int IntKind.i64 p, strV t] rfl rfl rfl rfl rfl ?_
      intro W2 g3 eg3 r4 z5 b1
      replace q := Zu q b1; refine Za ?_; refine Zq ?_; refine Zr ?_; refine Zf ?_; refine Zl r4 ?_; refine Zn ?_; refine ZleT ?_; refine Zm ?_; refine Zf ?_; refine Zl r4 ?_
      refine LL.val (R.lenS rfl rfl rfl rfl) rfl rfl rfl ?_
      refine ZleT ?_; refine Zp ?_; refine Za ?_; refine Zq ?_; refine CC.ret ?_; refine EE.ret _ rfl rfl ?_
      exact ⟨rfl, q⟩
    · rw [decide_eq_false (fun h => hB h.2)] at hb
      subst hb
      refine X.fn Tryd.func9 rfl (n := 13) rfl rfl ?_
      refine Zr ?_
      refine LL.box [Value.int IntKind.i64 k, Value.int IntKind.i64 l, Value.int IntKind.i64 z, Value.slice x n c, Value.int IntKind.i64 r, Value.int IntKind.i64 p, strV t] rfl rfl rfl rfl rfl ?_
      intro Wa2 ga3 ega3 ra4 za5 ba1
      replace q := Zu q ba1; refine Za ?_; refine Zq ?_; refine Zr ?_; refine Zf ?_; refine Zl ra4 ?_; refine Zn ?_; refine ZleT ?_; refine Zm ?_; refine Zf ?_; refine Zl ra4 ?_
      refine LL.val (R.lenS rfl rfl rfl rfl) rfl rfl rfl ?_
      refine ZleF ?_; refine Zp ?_; refine Za ?_; refine Zq ?_; refine CC.ret ?_; refine EE.ret _ rfl rfl ?_
      exact ⟨rfl, q⟩
  · rw [decide_eq_false (fun h => hA h.1)] at hb
    subst hb
    refine X.fn Tryd.func9 rfl (n := 13) rfl rfl ?_
    refine Zr ?_
    refine LL.box [Value.int IntKind.i64 k, Value.int IntKind.i64 l, Value.int IntKind.i64 z, Value.slice x n c, Value.int IntKind.i64 r, Value.int IntKind.i64 p, strV t] rfl rfl rfl rfl rfl ?_
    intro Wb2 gb3 egb3 rb4 zb5 bb1
    replace q := Zu q bb1; refine Za ?_; refine Zq ?_; refine Zr ?_; refine Zf ?_; refine Zl rb4 ?_; refine Zn ?_; refine ZleF ?_; refine Zm ?_; refine Zs ?_; refine Zs ?_; refine Zs ?_; refine Zs ?_; refine Zp ?_; refine Za ?_; refine Zq ?_; refine CC.ret ?_; refine EE.ret _ rfl rfl ?_
    exact ⟨rfl, q⟩
--C law14_few | hfa @w | ⟨rfl, @b⟩
--C law14_few | hfb @w | ⟨rfl, @b⟩
--C inode_Same | hsa @w (q.trans (b'.mono q.size)) | ⟨rfl, @b⟩
--C inode_Same | hss @w (q.trans (b'.mono q.size)) | ⟨rfl, @b⟩
--C ref14_Same | hsr @w (q.trans (b'.mono q.size)) | ⟨rfl, @b⟩
--C law14_works | works_any @w (hSF _ q) | ⟨rfl, @b⟩
--C law14_works | works_any @w (hSF _ (q.trans (b'.mono q.size))) | ⟨rfl, @b⟩
end Go.Proofs.YtnoefalgmekjbaaDoor

/- InodeWords: the walk. -/
namespace Go.Proofs.YtnoefalgmekjbaaDoor
set_option linter.unusedVariables false
set_option linter.unusedSimpArgs false
open Go.RowKit Go.Shelf
set_option maxRecDepth 100000
set_option maxHeartbeats 8000000
theorem row_wds {w : World} {g : Nat} {ws : List Nat} (h : RowL w g 41 (ints .u64 ws)) : WdsAt w g 0 ws := ⟨fun j x hj => by rw [Nat.zero_add]; exact RowL.cell h (by simp [ints, hj]), h.lt⟩
theorem wsame_R (g g2 : Nat) (ws : List Nat) (w : World) (h1 : RowL w g 41 (ints .u64 ws)) (h2 : RowL w g2 41 (ints .u64 ws)) (hl : ws.length = 16) : Calls Tryd.prog 16 #[.slice (some ⟨g, 0, none⟩) 16 16, .slice (some ⟨g2, 0, none⟩) 16 16] w fun e w' => e = .returned (.bool true) ∧ Below w.heap.size w w' :=
  wsame_T _ _ ws ws w (RowL.asInts h1 .u64 _ rfl hl) (RowL.asInts h2 .u64 _ rfl hl) (by omega) rfl
theorem wsame_N (w : World) : Calls Tryd.prog 16 #[.slice none 0 0, .slice none 0 0] w fun e w' => e = .returned (.bool true) ∧ Below w.heap.size w w' :=
  wsame_T _ _ [] [] w (Reads.nil w) (Reads.nil w) (by decide) rfl
theorem inwords_walk (k l z : Int) (x : Option Addr) (n c : Nat) (m : List Ex) (r p : Int) (t : Bs) (w : World) (hS : Start w) (hv : ReadsT eE 3 w (.slice x n c) m) (hn : n ≤ 9223372036854775807) (hml : m.length = n) (ht : t.length ≤ 9223372036854775807) : Calls Tryd.prog 3 #[inV k l z (.slice x n c) r p t] w fun e w' => e = .returned (.bool true) ∧ Below w.heap.size w w' := by
  have q := Below.refl w.heap.size w
  have hSF : ∀ X, Below w.heap.size w X → Start X := fun X b => hS.up b
  clear hS
  obtain ⟨f1, e1⟩ : ∃ f : Bool, f = decide (n ≤ 30 ∧ t.length ≤ 300) := ⟨_, rfl⟩
  have hfa := fun W => few_any k l z x n c r p t W hn ht f1 e1
  have hvF : ∀ X, Below w.heap.size w X → ReadsT eE 3 X (.slice x n c) m := fun X b => hv.up b
  clear hv
  cases f1 with
  | false =>
    refine X.fn Tryd.func3 rfl (n := 60) rfl rfl ?_
    refine Zr ?_
    refine LL.box [Value.int IntKind.i64 k, Value.int IntKind.i64 l, Value.int IntKind.i64 z, Value.slice x n c, Value.int IntKind.i64 r, Value.int IntKind.i64 p, strV t] rfl rfl rfl rfl rfl ?_
    intro W2 g3 eg3 r4 z5 b1
    replace q := Zu q b1; refine Za ?_; refine Zq ?_; refine Zc ?_; refine Zr ?_; refine Zv r4 ?_
    refine LL.call (R.call rfl rfl rfl) rfl rfl rfl (hfa _) ?_
    rintro e W7 ⟨rfl, b6⟩
    refine ⟨_, rfl, ?_⟩; have zb6 := b6.size; replace r4 := r4.up b6; replace b1 := Zu b1 b6; replace q := Zu q b6; refine Zt ?_; refine Zq ?_; refine CC.yes rfl ?_; refine Zr ?_
    refine LL.call (R.call rfl rfl rfl) rfl rfl rfl (works_any _ (hSF _ q)) ?_
    rintro e W10 ⟨rfl, b9⟩
    refine ⟨_, rfl, ?_⟩; have zb9 := b9.size; replace b6 := Zu b6 b9; replace r4 := r4.up b9; replace b1 := Zu b1 b9; replace q := Zu q b9; refine Za ?_; refine Zq ?_; refine CC.ret ?_; refine EE.thenR ?_; refine EE.ret _ rfl rfl ?_
    exact ⟨rfl, q⟩
  | true =>
    have hlm : m.length ≤ 1048576 := by have := of_decide_eq_true e1.symm; omega
    have htl : t.length ≤ 1048576 := by have := of_decide_eq_true e1.symm; omega
    by_cases hok : okI k l z m r p t
    case neg =>
      have hwn := fun W (b : Below w.heap.size w W) => words_no k l z x n c m r p t W (hvF W b) hlm htl hok
      have hrn := fun W (b : Below w.heap.size w W) => rinW_no k l z x n c m r p t W (hvF W b) hlm htl hok
      have hck := fun W (b : Below w.heap.size w W) => check_no k l z x n c m r p t W (hvF W b) hlm htl hok
      have hrk := fun W (b : Below w.heap.size w W) => rcheck_F k l z x n c m r p t W (hvF W b) hlm htl hok
      refine X.fn Tryd.func3 rfl (n := 60) rfl rfl ?_
      refine Zr ?_
      refine LL.box [Value.int IntKind.i64 k, Value.int IntKind.i64 l, Value.int IntKind.i64 z, Value.slice x n c, Value.int IntKind.i64 r, Value.int IntKind.i64 p, strV t] rfl rfl rfl rfl rfl ?_
      intro Wa2 ga3 ega3 ra4 za5 ba1
      replace q := Zu q ba1; refine Za ?_; refine Zq ?_; refine Zc ?_; refine Zr ?_; refine Zv ra4 ?_
      refine LL.call (R.call rfl rfl rfl) rfl rfl rfl (hfa _) ?_
      rintro e Wa7 ⟨rfl, ba6⟩
      refine ⟨_, rfl, ?_⟩; have zba6 := ba6.size; replace ra4 := ra4.up ba6; replace ba1 := Zu ba1 ba6; replace q := Zu q ba6; refine Zt ?_; refine Zq ?_; refine CC.no rfl ?_; refine CC.skip ?_; refine EE.thenN ?_; refine Zr ?_; refine Zv ra4 ?_
      refine LL.call (R.call rfl rfl rfl) rfl rfl rfl (hwn _ q) ?_
      rintro e Wa10 ⟨rfl, ba9⟩
      refine ⟨_, rfl, ?_⟩; have zba9 := ba9.size; replace ba6 := Zu ba6 ba9; replace ra4 := ra4.up ba9; replace ba1 := Zu ba1 ba9; replace q := Zu q ba9; refine Zm ?_; refine Zx ?_; refine Zx ?_; refine Za ?_; refine Za ?_; refine Zq ?_; refine Zr ?_; refine Zv ra4 ?_
      refine LL.call (R.call rfl rfl rfl) rfl rfl rfl (hrn _ q) ?_
      rintro e Wa13 ⟨rfl, ba12⟩
      refine ⟨_, rfl, ?_⟩; have zba12 := ba12.size; replace ba9 := Zu ba9 ba12; replace ba6 := Zu ba6 ba12; replace ra4 := ra4.up ba12; replace ba1 := Zu ba1 ba12; replace q := Zu q ba12; refine Zm ?_; refine Zx ?_; refine Zx ?_; refine Za ?_; refine Za ?_; refine Zq ?_; refine Zc ?_; refine Zc ?_
      refine CC.grow (by kernel_rfl) (by kernel_rfl) ?_
      refine GG.val (fun w' b' => R.load rfl rfl (I.ldNc (vs := [Value.int IntKind.i64 k, Value.int IntKind.i64 l, Value.int IntKind.i64 z, Value.slice x n c, Value.int IntKind.i64 r, Value.int IntKind.i64 p, strV t]) (RowL.cells (ra4.up b') rfl) (by rfl) (by rfl))) rfl rfl ?_
      refine GG.call (fun w' => (R.call rfl rfl rfl)) rfl rfl (fun w' b' => (hck w' (q.trans (b'.mono q.size))).mono fun e W' h => ⟨h.1, b'.trans (h.2.mono b'.size)⟩) ?_
      refine GG.call (fun w' => (R.call rfl rfl rfl)) rfl rfl (fun w' b' => (num_any _ w').mono fun e W' h => ⟨h.1, h.2 ▸ b'⟩) ?_
      refine GG.val (fun w' b' => R.load rfl rfl (I.ldNc (vs := [Value.int IntKind.i64 k, Value.int IntKind.i64 l, Value.int IntKind.i64 z, Value.slice x n c, Value.int IntKind.i64 r, Value.int IntKind.i64 p, strV t]) (RowL.cells (ra4.up b') rfl) (by rfl) (by rfl))) rfl rfl ?_
      refine GG.call (fun w' => (R.call rfl rfl rfl)) rfl rfl (fun w' b' => (hrk w' (q.trans (b'.mono q.size))).mono fun e W' h => ⟨h.1, b'.trans (h.2.mono b'.size)⟩) ?_
      refine GG.val (fun w' b' => R.neF rfl rfl rfl (by omega)) rfl rfl ?_
      refine GG.val (fun w' b' => R.move rfl rfl) rfl rfl ?_
      refine GG.val (fun w' b' => R.move rfl rfl) rfl rfl ?_
      refine GG.val (fun w' b' => R.move rfl rfl) rfl rfl ?_
      refine GG.call (fun w' => (R.call rfl rfl rfl)) rfl rfl (fun w' b' => (wsame_N w').mono fun e W' h => ⟨h.1, b'.trans (h.2.mono b'.size)⟩) ?_
      refine GG.val (fun w' b' => R.not rfl rfl) rfl rfl ?_
      refine GG.val (fun w' b' => R.pick rfl rfl rfl) rfl rfl ?_
      refine GG.val (fun w' b' => R.move rfl rfl) rfl rfl ?_
      refine GG.val (fun w' b' => R.move rfl rfl) rfl rfl ?_
      refine GG.call (fun w' => (R.call rfl rfl rfl)) rfl rfl (fun w' b' => (num_any _ w').mono fun e W' h => ⟨h.1, h.2 ▸ b'⟩) ?_
      refine GG.val (fun w' b' => R.move rfl rfl) rfl rfl ?_
      refine GG.val (fun w' b' => R.neF rfl rfl rfl (by omega)) rfl rfl ?_
      refine GG.val (fun w' b' => R.pick rfl rfl rfl) rfl rfl ?_
      refine GG.nilQ (fun Wa19 ba18 => ?_)
      have zba18 := ba18.size; replace ba12 := Zu ba12 ba18; replace ba9 := Zu ba9 ba18; replace ba6 := Zu ba6 ba18; replace ra4 := ra4.up ba18; replace ba1 := Zu ba1 ba18; replace q := Zu q ba18; refine EE.thenN ?_; refine CC.no rfl ?_; refine CC.skip ?_; refine EE.thenN ?_; refine Zc ?_; refine Zr ?_; refine Zm ?_; refine ZneT ?_; refine Zq ?_; refine CC.yes rfl ?_; refine Zr ?_
      refine LL.call (R.call rfl rfl rfl) rfl rfl rfl (works_any _ (hSF _ q)) ?_
      rintro e Wa21 ⟨rfl, ba20⟩
      refine ⟨_, rfl, ?_⟩; have zba20 := ba20.size; replace ba18 := Zu ba18 ba20; replace ba12 := Zu ba12 ba20; replace ba9 := Zu ba9 ba20; replace ba6 := Zu ba6 ba20; replace ra4 := ra4.up ba20; replace ba1 := Zu ba1 ba20; replace q := Zu q ba20; refine Za ?_; refine Zq ?_; refine CC.ret ?_; refine EE.thenR ?_; refine EE.ret _ rfl rfl ?_
      exact ⟨rfl, q⟩
    have hwy := fun W (b : Below w.heap.size w W) => words_ok k l z x n c m r p t W (hSF W b) (hvF W b) hlm hok
    have hry := fun W (b : Below w.heap.size w W) => rinW_ok k l z x n c m r p t W (hvF W b) hlm hok
    have hck := fun W (b : Below w.heap.size w W) => check_ok k l z x n c m r p t W (hvF W b) hlm hok
    have hrk := fun W (b : Below w.heap.size w W) => rcheck_T k l z x n c m r p t W (hvF W b) hlm hok
    have hwl := inoW_len hok
    obtain ⟨ws, ews⟩ : ∃ ws, inoW k l z m r p t = ws := ⟨_, rfl⟩
    rw [ews] at hwl hwy hry
    unfold wsP at hwy hry
    have hsm : true = true ↔ sameI k l z m r p t k l z m r p t := by simp [sameI]
    refine X.fn Tryd.func3 rfl (n := 60) rfl rfl ?_
    refine Zr ?_
    refine LL.box [Value.int IntKind.i64 k, Value.int IntKind.i64 l, Value.int IntKind.i64 z, Value.slice x n c, Value.int IntKind.i64 r, Value.int IntKind.i64 p, strV t] rfl rfl rfl rfl rfl ?_
    intro Wb30 gb31 egb31 rb32 zb33 bb29
    replace q := Zu q bb29; refine Za ?_; refine Zq ?_; refine Zc ?_; refine Zr ?_; refine Zv rb32 ?_
    refine LL.call (R.call rfl rfl rfl) rfl rfl rfl (hfa _) ?_
    rintro e Wb131 ⟨rfl, bb130⟩
    refine ⟨_, rfl, ?_⟩; have zbb130 := bb130.size; replace rb32 := rb32.up bb130; replace bb29 := Zu bb29 bb130; replace q := Zu q bb130; refine Zt ?_; refine Zq ?_; refine CC.no rfl ?_; refine CC.skip ?_; refine EE.thenN ?_; refine Zr ?_; refine Zv rb32 ?_; have lb201 := rb32.lt
    (refine LL.call (R.call rfl rfl rfl) rfl rfl rfl (hwy _ q) ?_; rintro e Wb200 ⟨g8, rfl, r81, hg8, bb197⟩; refine ⟨_, rfl, ?_⟩)
    have zbb197 := bb197.size; replace bb130 := Zu bb130 bb197; replace rb32 := rb32.up bb197; replace bb29 := Zu bb29 bb197; replace q := Zu q bb197; refine Zm ?_; refine Zx ?_; refine Zx ?_; refine Za ?_; refine Za ?_; refine Zq ?_; refine Zr ?_; refine Zv rb32 ?_; have lb434 := r81.lt; have lb435 := rb32.lt
    (refine LL.call (R.call rfl rfl rfl) rfl rfl rfl (hry _ q) ?_; rintro e Wb433 ⟨g9, rfl, r91, hg9, bb430⟩; refine ⟨_, rfl, ?_⟩)
    have zbb430 := bb430.size; replace r81 := r81.up bb430; replace bb197 := Zu bb197 bb430; replace bb130 := Zu bb130 bb430; replace rb32 := rb32.up bb430; replace bb29 := Zu bb29 bb430; replace q := Zu q bb430; refine Zm ?_; refine Zx ?_; refine Zx ?_; refine Za ?_; refine Za ?_; refine Zq ?_; refine Zc ?_; refine Zc ?_
    refine CC.grow (by kernel_rfl) (by kernel_rfl) ?_
    refine GG.val (fun w' b' => R.load rfl rfl (I.ldNc (vs := [Value.int IntKind.i64 k, Value.int IntKind.i64 l, Value.int IntKind.i64 z, Value.slice x n c, Value.int IntKind.i64 r, Value.int IntKind.i64 p, strV t]) (RowL.cells (rb32.up b') rfl) (by rfl) (by rfl))) rfl rfl ?_
    refine GG.call (fun w' => (R.call rfl rfl rfl)) rfl rfl (fun w' b' => (hck w' (q.trans (b'.mono q.size))).mono fun e W' h => ⟨h.1, b'.trans (h.2.mono b'.size)⟩) ?_
    refine GG.call (fun w' => (R.call rfl rfl rfl)) rfl rfl (fun w' b' => (num_any _ w').mono fun e W' h => ⟨h.1, h.2 ▸ b'⟩) ?_
    refine GG.val (fun w' b' => R.load rfl rfl (I.ldNc (vs := [Value.int IntKind.i64 k, Value.int IntKind.i64 l, Value.int IntKind.i64 z, Value.slice x n c, Value.int IntKind.i64 r, Value.int IntKind.i64 p, strV t]) (RowL.cells (rb32.up b') rfl) (by rfl) (by rfl))) rfl rfl ?_
    refine GG.call (fun w' => (R.call rfl rfl rfl)) rfl rfl (fun w' b' => (hrk w' (q.trans (b'.mono q.size))).mono fun e W' h => ⟨h.1, b'.trans (h.2.mono b'.size)⟩) ?_
    refine GG.val (fun w' b' => R.neF rfl rfl rfl (by omega)) rfl rfl ?_
    refine GG.val (fun w' b' => R.move rfl rfl) rfl rfl ?_
    refine GG.val (fun w' b' => R.move rfl rfl) rfl rfl ?_
    refine GG.val (fun w' b' => R.move rfl rfl) rfl rfl ?_
    refine GG.call (fun w' => (R.call rfl rfl rfl)) rfl rfl (fun w' b' => (wsame_R _ _ _ w' (r81.up b') (r91.up b') hwl).mono fun e W' h => ⟨h.1, b'.trans (h.2.mono b'.size)⟩) ?_
    refine GG.val (fun w' b' => R.not rfl rfl) rfl rfl ?_
    refine GG.val (fun w' b' => R.pick rfl rfl rfl) rfl rfl ?_
    refine GG.val (fun w' b' => R.move rfl rfl) rfl rfl ?_
    refine GG.val (fun w' b' => R.move rfl rfl) rfl rfl ?_
    refine GG.call (fun w' => (R.call rfl rfl rfl)) rfl rfl (fun w' b' => (num_any _ w').mono fun e W' h => ⟨h.1, h.2 ▸ b'⟩) ?_
    refine GG.val (fun w' b' => R.move rfl rfl) rfl rfl ?_
    refine GG.val (fun w' b' => R.neF rfl rfl rfl (by omega)) rfl rfl ?_
    refine GG.val (fun w' b' => R.pick rfl rfl rfl) rfl rfl ?_
    refine GG.nilQ (fun Wb1147 bb1146 => ?_)
    have zbb1146 := bb1146.size; replace r91 := r91.up bb1146; replace bb430 := Zu bb430 bb1146; replace r81 := r81.up bb1146; replace bb197 := Zu bb197 bb1146; replace bb130 := Zu bb130 bb1146; replace rb32 := rb32.up bb1146; replace bb29 := Zu bb29 bb1146; replace q := Zu q bb1146; refine EE.thenN ?_; refine CC.no rfl ?_; refine CC.skip ?_; refine EE.thenN ?_; refine Zc ?_; refine Zr ?_; refine Zm ?_
    refine ZneF ?_; refine Zq ?_; refine CC.no rfl ?_; refine CC.skip ?_; refine EE.thenN ?_; refine Zr ?_; refine Zm ?_; have lb1292 := r91.lt; have lb1293 := r81.lt; have lb1294 := rb32.lt
    (refine LL.call (R.call rfl rfl rfl) rfl rfl rfl (of_ok g8 0 16 ws k l z m r p t _ (hSF _ q) (by omega) (row_wds r81) hok ews) ?_; rintro e Wb1291 ⟨v4, rfl, rd4, bb1288⟩; refine ⟨_, rfl, ?_⟩; obtain ⟨x4, c4, rfl, _⟩ := rd4.form rfl; have rd4F := fun X (b : Below Wb1291.heap.size Wb1291 X) => rd4.up b; clear rd4)
    have zbb1288 := bb1288.size; replace bb1146 := Zu bb1146 bb1288; replace r91 := r91.up bb1288; replace bb430 := Zu bb430 bb1288; replace r81 := r81.up bb1288; replace bb197 := Zu bb197 bb1288; replace bb130 := Zu bb130 bb1288; replace rb32 := rb32.up bb1288; replace bb29 := Zu bb29 bb1288; replace q := Zu q bb1288; refine Zm ?_; refine Zx ?_; refine Zx ?_; have lb1458 := r91.lt; have lb1459 := r81.lt
    have lb1460 := rb32.lt
    refine LL.alloc ([Value.int IntKind.i64 0, Value.int IntKind.i64 0, Value.int IntKind.i64 0, Value.slice none 0 0, Value.int IntKind.i64 0, Value.int IntKind.i64 0, Value.string { data := { toList := [] } }]) rfl rfl rfl rfl rfl ?_
    intro Wb1462 gb1463 egb1463 rb1464 zb1465 bb1461
    replace bb1288 := Zu bb1288 bb1461; replace bb1146 := Zu bb1146 bb1461; replace r91 := r91.up bb1461; replace bb430 := Zu bb430 bb1461; replace r81 := r81.up bb1461; replace bb197 := Zu bb197 bb1461; replace bb130 := Zu bb130 bb1461; replace rb32 := rb32.up bb1461; replace bb29 := Zu bb29 bb1461; replace q := Zu q bb1461
    refine LL.storeN (vs := [Value.int IntKind.i64 k, Value.int IntKind.i64 l, Value.int IntKind.i64 z, Value.slice x4 m.length c4, Value.int IntKind.i64 r, Value.int IntKind.i64 p, strV t]) rfl rfl rfl rfl rb1464 (by exact Nat.le_of_ble_eq_true rfl) (ones_of rfl) rfl rfl ?_
    intro Wb1511 rb1512 bb1510 zb1513
    have hlbb1510 := rb1464.lt
    replace rb1512 : RowL Wb1511 _ 25 [Value.int IntKind.i64 k, Value.int IntKind.i64 l, Value.int IntKind.i64 z, Value.slice x4 m.length c4, Value.int IntKind.i64 r, Value.int IntKind.i64 p, strV t] := rb1512
    clear rb1464
    replace bb1461 := Zg bb1461 bb1510; replace bb1288 := Zg bb1288 bb1510; replace bb1146 := Zg bb1146 bb1510; replace r91 := Zd r91 bb1510; replace bb430 := Zg bb430 bb1510; replace r81 := Zd r81 bb1510; replace bb197 := Zg bb197 bb1510; replace bb130 := Zg bb130 bb1510; replace rb32 := Zd rb32 bb1510; replace bb29 := Zg bb29 bb1510; replace q := Zg q bb1510
    have rb1464 := rb1512
    clear rb1512
    refine Za ?_; refine Zq ?_; refine Zr ?_; refine Zm ?_
    refine LL.call (R.call rfl rfl rfl) rfl rfl rfl (num_any _ _) ?_
    rintro e W' ⟨rfl, rfl⟩
    refine ⟨_, rfl, ?_⟩; refine ZeqT ?_; refine Zm ?_; refine Zv rb1464 ?_; refine Zv rb32 ?_; have lb1859 := r91.lt; have lb1860 := r81.lt; have lb1861 := rb32.lt; have lb1862 := rb1464.lt
    (refine LL.call (R.call rfl rfl rfl) rfl rfl rfl (dinsame_any k l z _ m r p t k l z _ m r p t _ (rd4F _ (by assumption)) (hvF _ q) hlm hlm true hsm) ?_; rintro e Wb1858 ⟨rfl, bb1855⟩; refine ⟨_, rfl, ?_⟩)
    have zbb1855 := bb1855.size; replace bb1461 := Zu bb1461 bb1855; replace bb1288 := Zu bb1288 bb1855; replace bb1146 := Zu bb1146 bb1855; replace r91 := r91.up bb1855; replace bb430 := Zu bb430 bb1855; replace r81 := r81.up bb1855; replace bb197 := Zu bb197 bb1855; replace bb130 := Zu bb130 bb1855; replace rb32 := rb32.up bb1855; replace bb29 := Zu bb29 bb1855; replace q := Zu q bb1855; replace rb1464 := rb1464.up bb1855
    refine Zp ?_; refine Zm ?_
    refine LL.call (R.call rfl rfl rfl) rfl rfl rfl (works_any _ (hSF _ q)) ?_
    rintro e Wb1999 ⟨rfl, bb1998⟩
    refine ⟨_, rfl, ?_⟩; have zbb1998 := bb1998.size; replace bb1855 := Zu bb1855 bb1998; replace bb1461 := Zu bb1461 bb1998; replace bb1288 := Zu bb1288 bb1998; replace bb1146 := Zu bb1146 bb1998; replace r91 := r91.up bb1998; replace bb430 := Zu bb430 bb1998; replace r81 := r81.up bb1998; replace bb197 := Zu bb197 bb1998; replace bb130 := Zu bb130 bb1998; replace rb32 := rb32.up bb1998; replace bb29 := Zu bb29 bb1998
    replace q := Zu q bb1998; replace rb1464 := rb1464.up bb1998; refine Zp ?_; refine Za ?_; refine Zq ?_; refine CC.ret ?_; refine EE.ret _ rfl rfl ?_
    exact ⟨rfl, q⟩
theorem inwords_shell (k l z : Int) (x : Option Addr) (n c : Nat) (m : List Ex) (r p : Int) (s : ByteArray) (w : World) (hS : Start w) (hv : ReadsT eE 3 w (.slice x n c) m) (hl : m.length ≤ 9223372036854775807) (hs : s.size ≤ maxLen) : Calls Tryd.prog 3 #[.agg #[.int .i64 k, .int .i64 l, .int .i64 z, .slice x n c, .int .i64 r, .int .i64 p, .string s]] w fun e w' => e = .returned (.bool true) ∧ Below w.heap.size w w' := by
  obtain ⟨t, rfl⟩ : ∃ l : Bs, s = ⟨l.toArray⟩ := ⟨s.data.toList, bs_data s⟩
  obtain ⟨_, _, e, _⟩ := hv.form rfl
  cases e
  exact inwords_walk k l z x _ c m r p t w hS hv hl rfl (by simpa [ByteArray.size, maxLen] using hs)
end Go.Proofs.YtnoefalgmekjbaaDoor

/- Opening the arguments of a law: slices of numbers, pairs of numbers. -/
namespace Go.Proofs.YtnoefalgmekjbaaDoor
set_option linter.unusedVariables false
set_option linter.unusedSimpArgs false
open Go.RowKit Go.ChangeShapes Go.WideShapes Go.ChangeAt

theorem own : ownKnob Tryd.prog.godebug = none := by kernel_rfl
theorem laidOut : laidOutB Tryd.prog = true := by kernel_rfl

section
variable {H : Type} {enc : TypeId × Value → H} {P : Program} {w : World} {base : Nat} {spare : Nat → Bool} {held : Bool} {r : Reach} {b0 : Nat} {t : TypeId} {v : Value} {d : DataW H} {p : List MemPlace}

end
end Go.Proofs.YtnoefalgmekjbaaDoor


/- Opening the arguments of a law: structs and arrays of integers, and of such. Over any program. -/
namespace Go.Proofs.YtnoefalgmekjbaaDoor
set_option linter.unusedVariables false
set_option linter.unusedSimpArgs false
open Go.RowKit Go.ChangeShapes Go.WideShapes Go.ChangeAt
/-- Which kind of integer lies at a cell. -/
def atC (P : Program) : Nat → TypeId → Nat → Option IntKind
  | 0, _, _ => none
  | d + 1, t, j => match P.underlying t with
    | some (.struct fs) => fs.toList.findSome? fun f => if f.offset ≤ j ∧ j < f.offset + P.cellsOf f.type then atC P d f.type (j - f.offset) else none
    | some (.array n e) => if j / P.cellsOf e < n then atC P d e (j % P.cellsOf e) else none
    | some (.int k) => if j = 0 then some k else none
    | _ => none
section
variable {H : Type} {enc : TypeId × Value → H} {P : Program} {w : World} {base : Nat} {spare : Nat → Bool} {held : Bool} {r : Reach} {b0 : Nat} {t : TypeId} {v : Value} {d : DataW H} {p : List MemPlace}
theorem trod_at : ∀ (n : Nat) (t : TypeId) (j fuel : Nat) (cs : List Value) (x : DataW H × List MemPlace) (k : IntKind), atC P n t j = some k → DataW.trod enc P w base spare held fuel t cs = some x → ∃ z : Int, cs[j]? = some (.int k z) ∧ (Lit.int k z).wf = true
  | 0, _, _, _, _, _, _, h, _ => by cases h
  | n + 1, t, j, fuel, cs, x, k, h, hx => by
    cases hu : P.underlying t with
    | none => simp [atC, hu] at h
    | some kd =>
      cases kd <;> simp only [atC, hu] at h <;> try (cases h; done)
      case int q =>
        split at h
        · rename_i hj
          cases h
          subst hj
          obtain ⟨z, e, _, hw⟩ := DataW.trod_int hu hx
          exact ⟨z, by rw [e]; rfl, hw⟩
        · cases h
      case struct fs =>
        obtain ⟨f, hf, hfk⟩ := List.exists_of_findSome?_eq_some h
        split at hfk
        · rename_i hj
          obtain ⟨xs, m, _, rfl, hl, hlen, hf2⟩ := DataW.trod_struct hu hx
          obtain ⟨i, hi⟩ := List.mem_iff_getElem?.1 hf
          have h2 := hf2 i f (by simpa using hi)
          have hil : i < xs.length := by
            have := (List.getElem?_eq_some_iff.1 hi).1
            rw [Array.length_toList] at this
            omega
          rw [List.getElem?_eq_getElem hil] at h2
          obtain ⟨z, e, hw⟩ := trod_at n f.type (j - f.offset) _ _ _ k hfk h2
          refine ⟨z, ?_, hw⟩
          rw [List.getElem?_take] at e
          split at e
          · rw [List.getElem?_drop] at e
            rwa [show f.offset + (j - f.offset) = j by omega] at e
          · cases e
        · cases hfk
      case array m e =>
        split at h
        · rename_i hj
          obtain ⟨xs, m', _, rfl, hl, hlen, hi⟩ := DataW.trod_array hu hx
          have h2 := hi _ hj
          rw [List.getElem?_eq_getElem (by omega)] at h2
          obtain ⟨z, e', hw⟩ := trod_at n e (j % P.cellsOf e) _ _ _ k h h2
          refine ⟨z, ?_, hw⟩
          rw [List.getElem?_take] at e'
          split at e'
          · rw [List.getElem?_drop] at e'
            rwa [show j / P.cellsOf e * P.cellsOf e + j % P.cellsOf e = j by rw [Nat.mul_comm]; exact Nat.div_add_mod _ _] at e'
          · cases e'
        · cases h
end
end Go.Proofs.YtnoefalgmekjbaaDoor


/- Opening the arguments of a law: slices of structs of integers. Over any program. -/
namespace Go.Proofs.YtnoefalgmekjbaaDoor
set_option linter.unusedVariables false
set_option linter.unusedSimpArgs false
open Go.RowKit Go.ChangeShapes Go.WideShapes Go.ChangeAt Go.Deep
section
variable {α : Type} {encT : α → List Value} {H : Type} {enc : TypeId × Value → H} {P : Program} {w : World} {base : Nat} {spare : Nat → Bool} {held : Bool} {r : Reach} {b0 : Nat} {t : TypeId} {v : Value} {d : DataW H} {p : List MemPlace}
end
end Go.Proofs.YtnoefalgmekjbaaDoor


/- Opening the arguments of a law: a struct of an int and a string. Over any program. -/
namespace Go.Proofs.YtnoefalgmekjbaaDoor
set_option linter.unusedVariables false
set_option linter.unusedSimpArgs false
open Go.RowKit Go.ChangeShapes Go.WideShapes Go.ChangeAt
section
variable {H : Type} {enc : TypeId × Value → H} {P : Program} {w : World} {base : Nat} {spare : Nat → Bool} {held : Bool} {r : Reach} {b0 : Nat} {t : TypeId} {v : Value} {d : DataW H} {p : List MemPlace}
end
end Go.Proofs.YtnoefalgmekjbaaDoor


/- Opening an inode: a struct of numbers, a slice of structs of numbers, a string. Over any program. -/
namespace Go.Proofs.YtnoefalgmekjbaaDoor
set_option linter.unusedVariables false
set_option linter.unusedSimpArgs false
open Go.RowKit Go.ChangeShapes Go.WideShapes Go.ChangeAt Go.Deep
section
variable {α : Type} {encT : α → List Value} {H : Type} {enc : TypeId × Value → H} {P : Program} {w : World} {base : Nat} {spare : Nat → Bool} {held : Bool} {r : Reach} {b0 : Nat} {t : TypeId} {v : Value} {d : DataW H} {p : List MemPlace}
theorem open_rowsC {e c fuel : Nat} {cs : List Value} {x0 : DataW H × List MemPlace} (ks : Nat → IntKind) (E : Enc encT c) (f : (Nat → Int) → α) (hf : ∀ g, encT (f g) = (List.range c).map fun j => Value.int (ks j) (g j)) (ht : P.underlying t = some (.slice e)) (ce : P.cellsOf e = c) (hk : (List.range c).all (fun j => atC P 9 e j == some (ks j)) = true)
    (hfu : DataW.trod enc P w base spare held fuel t cs = some x0) : ∃ (a : Option Addr) (n k : Nat) (gs : List (Nat → Int)), cs = [.slice a n k] ∧ ReadsT encT c w (.slice a n k) (gs.map f) ∧ (∀ g ∈ gs, ∀ j, j < c → (Lit.int (ks j) (g j)).wf = true) ∧ gs.length ≤ 9223372036854775807 := by
  rcases open_slice ht hfu with ⟨rfl, _⟩ | ⟨x, len, cap, m, n, D, Pl, rfl, hb, hl, hm, hmm, _, hx⟩
  · exact ⟨none, 0, 0, [], rfl, ReadsT.nil w, by simp, by simp⟩
  · have hlm : len ≤ m := by rw [hmm]; split <;> omega
    have each : ∀ i, i < len → ∃ g : Nat → Int, ∀ j, j < c → w.cell? (x.add (i * c + j)) = some (.int (ks j) (g j)) ∧ (Lit.int (ks j) (g j)).wf = true := by
      intro i hi
      obtain ⟨cs', h1, h2⟩ := hx i (by omega)
      rw [ce] at h1
      obtain ⟨_, hlen, hcell⟩ := World.cells?_some h1
      have hj : ∀ j, ∃ z : Int, j < c → cs'[j]? = some (.int (ks j) z) ∧ (Lit.int (ks j) z).wf = true := fun j => by
        by_cases hjc : j < c
        · have hkj := List.all_eq_true.1 hk j (List.mem_range.2 hjc)
          obtain ⟨z, h3, h4⟩ := trod_at 9 e j n cs' (D i, Pl i) (ks j) (by simpa using hkj) h2
          exact ⟨z, fun _ => ⟨h3, h4⟩⟩
        · exact ⟨0, fun h => absurd h hjc⟩
      refine ⟨fun j => Classical.choose (hj j), fun j hjc => ?_⟩
      have hs := Classical.choose_spec (hj j) hjc
      refine ⟨?_, hs.2⟩
      have := hcell j (by omega)
      rw [add_add] at this
      rw [this]
      exact hs.1
    obtain ⟨G, hG⟩ := choose_lt each
    have hlen : (((List.range len).map G).map f).length = len := by simp
    refine ⟨some x, len, cap, (List.range len).map G, rfl, ⟨some x, cap, by rw [hlen], by rw [hlen]; exact hl, fun hne => ?_⟩, ?_, ?_⟩
    · have h0 : 0 < len := by
        rcases Nat.eq_zero_or_pos len with h0 | h0
        · subst h0; simp at hne
        · exact h0
      have hcp := E.pos
      obtain ⟨b, off, spot⟩ := x
      have hc0 := (hG 0 h0 0 hcp).1
      have hspot : spot = none := by simpa [Addr.add] using World.cell?_spot hc0
      subst hspot
      have hblt : b < w.heap.size := by
        rcases Nat.lt_or_ge b w.heap.size with hb | hb
        · exact hb
        · simp [Addr.add, World.cell?, Array.getElem?_eq_none hb] at hc0
      refine ⟨b, off, rfl, hblt, fun j hj => ?_⟩
      rw [hlen] at hj
      have hil : j / c < len := (Nat.div_lt_iff_lt_mul hcp).2 hj
      have hrl : j % c < c := Nat.mod_lt _ hcp
      have hc1 := (hG (j / c) hil (j % c) hrl).1
      rw [Addr.add_lit] at hc1
      have hje : j / c * c + j % c = j := by rw [Nat.mul_comm]; exact Nat.div_add_mod _ _
      have hget : (((List.range len).map G).map f)[j / c]? = some (f (G (j / c))) := by simp [hil]
      have hg := E.get _ (j / c) _ hget (j % c) hrl
      rw [hje] at hg hc1
      rw [hg, hf, hc1]
      simp [hrl]
    · intro g hg j hj
      obtain ⟨i, hi, rfl⟩ := List.mem_map.1 hg
      exact (hG i (List.mem_range.1 hi) j hj).2
    · simp only [List.length_map, List.length_range]
      unfold maxLen at hm
      omega
theorem fld_at {fs : Array Field} {f : Field} {i n : Nat} {cs : List Value} {xs : List (DataW H × List MemPlace)} (hf2 : ∀ (i : Nat) (f : Field), fs[i]? = some f → DataW.trod enc P w base spare held n f.type ((cs.drop f.offset).take (P.cellsOf f.type)) = xs[i]?) (hlen : xs.length = fs.size) (hi : fs.toList[i]? = some f) (ho : f.offset = i) (hc : P.cellsOf f.type = 1) : ∃ y, DataW.trod enc P w base spare held n f.type ((cs.drop i).take 1) = some y := by
  have hx : i < xs.length := by
    have := (List.getElem?_eq_some_iff.1 hi).1
    rw [Array.length_toList] at this
    omega
  have g := hf2 i f (by simpa using hi)
  rw [List.getElem?_eq_getElem hx, ho, hc] at g
  exact ⟨_, g⟩
theorem open_in {fs : Array Field} {f0 f1 f2 f3 f4 f5 f6 : Field} {e c : Nat} (ks : Nat → IntKind) (E : Enc encT c) (f : (Nat → Int) → α) (hf : ∀ g, encT (f g) = (List.range c).map fun j => Value.int (ks j) (g j)) (hu : P.underlying t = some (.struct fs)) (h0 : fs.toList[0]? = some f0) (h1 : fs.toList[1]? = some f1) (h2 : fs.toList[2]? = some f2) (h3 : fs.toList[3]? = some f3) (h4 : fs.toList[4]? = some f4) (h5 : fs.toList[5]? = some f5) (h6 : fs.toList[6]? = some f6) (o0 : f0.offset = 0) (o1 : f1.offset = 1) (o2 : f2.offset = 2) (o3 : f3.offset = 3) (o4 : f4.offset = 4) (o5 : f5.offset = 5) (o6 : f6.offset = 6) (t0 : P.underlying f0.type = some (.int .i64)) (t1 : P.underlying f1.type = some (.int .i64)) (t2 : P.underlying f2.type = some (.int .i64)) (t3 : P.underlying f3.type = some (.slice e)) (t4 : P.underlying f4.type = some (.int .i64)) (t5 : P.underlying f5.type = some (.int .i64)) (t6 : P.underlying f6.type = some (.string)) (c0 : P.cellsOf f0.type = 1) (c1 : P.cellsOf f1.type = 1) (c2 : P.cellsOf f2.type = 1) (c3 : P.cellsOf f3.type = 1) (c4 : P.cellsOf f4.type = 1) (c5 : P.cellsOf f5.type = 1) (c6 : P.cellsOf f6.type = 1) (hc : P.cellsOf t = 7) (ce : P.cellsOf e = c) (hk : (List.range c).all (fun j => atC P 9 e j == some (ks j)) = true)
    (hv : Value.okWide P w r b0 t v) (h : DataW.Trod enc P w base spare held t v d p) : ∃ (k l z : Int) (a : Option Addr) (n m : Nat) (gs : List (Nat → Int)) (rr pp : Int) (s : ByteArray), v = .agg #[.int .i64 k, .int .i64 l, .int .i64 z, .slice a n m, .int .i64 rr, .int .i64 pp, .string s] ∧ ReadsT encT c w (.slice a n m) (gs.map f) ∧ gs.length ≤ 9223372036854775807 ∧ ((Lit.int .i64 k).wf = true ∧ (Lit.int .i64 l).wf = true ∧ (Lit.int .i64 z).wf = true ∧ (Lit.int .i64 rr).wf = true ∧ (Lit.int .i64 pp).wf = true) ∧ (∀ g ∈ gs, ∀ j, j < c → (Lit.int (ks j) (g j)).wf = true) ∧ s.size ≤ maxLen := by
  have hg : ∃ cs, v = .agg cs ∧ cs.size = P.cellsOf t := by
    unfold Value.okWide at hv
    rw [hu] at hv
    obtain ⟨cs, h1, h2, _⟩ := hv
    exact ⟨cs, h1, h2⟩
  obtain ⟨cs, rfl, hsz⟩ := hg
  rw [hc] at hsz
  obtain ⟨fuel, hfu⟩ := h
  obtain ⟨xs, m, _, e0, hl, hlen, hf2⟩ := DataW.trod_struct hu hfu
  obtain ⟨y0, g0⟩ := fld_at hf2 hlen h0 o0 c0
  obtain ⟨y1, g1⟩ := fld_at hf2 hlen h1 o1 c1
  obtain ⟨y2, g2⟩ := fld_at hf2 hlen h2 o2 c2
  obtain ⟨y3, g3⟩ := fld_at hf2 hlen h3 o3 c3
  obtain ⟨y4, g4⟩ := fld_at hf2 hlen h4 o4 c4
  obtain ⟨y5, g5⟩ := fld_at hf2 hlen h5 o5 c5
  obtain ⟨y6, g6⟩ := fld_at hf2 hlen h6 o6 c6
  obtain ⟨z0, e10, _, w0⟩ := DataW.trod_int t0 g0
  obtain ⟨z1, e11, _, w1⟩ := DataW.trod_int t1 g1
  obtain ⟨z2, e12, _, w2⟩ := DataW.trod_int t2 g2
  obtain ⟨z4, e14, _, w4⟩ := DataW.trod_int t4 g4
  obtain ⟨z5, e15, _, w5⟩ := DataW.trod_int t5 g5
  obtain ⟨s, e16, _, hs⟩ := DataW.trod_string t6 g6
  obtain ⟨a, n, k, gs, e13, hr, hw, hgl⟩ := open_rowsC ks E f hf t3 ce hk g3
  refine ⟨z0, z1, z2, a, n, k, gs, z4, z5, s, ?_, hr, hgl, ⟨w0, w1, w2, w4, w5⟩, hw, hs⟩
  congr 1
  apply Array.ext'
  have hlen2 : cs.toList.length = 7 := by rw [Array.length_toList, hsz]
  have ec : (Value.agg cs).cells.toList = cs.toList := rfl
  rw [ec] at e10 e11 e12 e13 e14 e15 e16
  match hcs : cs.toList, hlen2 with
  | [a0, a1, a2, a3, a4, a5, a6], _ =>
    rw [hcs] at e10 e11 e12 e13 e14 e15 e16
    simp only [List.drop_zero, List.take_succ_cons, List.take_zero, List.cons.injEq, and_true, List.drop_succ_cons] at e10 e11 e12 e13 e14 e15 e16
    rw [e10, e11, e12, e13, e14, e15, e16]
end
end Go.Proofs.YtnoefalgmekjbaaDoor


/- What the package's variable holds when the call begins. -/
namespace Go.Proofs.YtnoefalgmekjbaaDoor
set_option linter.unusedVariables false
set_option linter.unusedSimpArgs false
open Go.ChangeShapes Go.WideShapes Go.ChangeAt Go.WideMaps Go.WideElems Go.RowKit

def laidHere : List (String × DataW Unit) := [("hedgerow/extents.widths", Rows.laid_hedgerow_extents_widths)]
theorem gTurns : Tryd.prog.globalNamed "hedgerow/extents.widths" = some 0 := by kernel_rfl
theorem tTurns : (Tryd.prog.globals[0]?).map (·.type) = some 133 := by kernel_rfl
theorem door_met (os : Os) (args : Array Value) : laidMetH Tryd.prog laidHere ((World.doorLaid Tryd.prog 14 os).forCall (fun _ _ => 0) ⟨#[], args, []⟩).memory :=
  laidMetH_of_parts3 (fuel := 8) (laidMet_of_run' 8 (by kernel_rfl) (by kernel_rfl)) (by kernel_rfl) (by kernel_rfl)
theorem of_laid {W : World} (h : laidMetH Tryd.prog laidHere W) : Start W := by
  rw [MakeChecks.laidMetH_plain _ _ _ (by kernel_rfl)] at h
  have hT := Lib.tabIs_of_head (k := .i64) (zs := [16, 24, 16]) gTurns tTurns Tryd.underlying133 Tryd.underlying3 (by kernel_rfl) (by kernel_rfl) h
  have hc : ∀ i, i < 3 → W.cell? ⟨0, i, none⟩ = some (.int .i64 ([16, 24, 16].getD i 0)) := fun i hi => hT.cell gTurns i hi
  refine ⟨hc 0 (by decide), hc 1 (by decide), hc 2 (by decide), ?_⟩
  obtain ⟨o, ho, _⟩ := cells_of_cell (hc 0 (by decide))
  exact (Array.getElem?_eq_some_iff.1 ho).1
end Go.Proofs.YtnoefalgmekjbaaDoor
