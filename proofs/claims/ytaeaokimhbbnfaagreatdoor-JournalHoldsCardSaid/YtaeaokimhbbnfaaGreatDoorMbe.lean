/- What the statements' walks use: In28, Jn8, Jn9, Jn10, Jn11, Jn12, Jn13, Jn14, Jn15, Jn16, Jn17, Jn18, Jn19, Jn20, PsT. -/

import Derived.Test.YtaeaokimhbbnfaaGreatDoorMba
import Derived.Test.YtaeaokimhbbnfaaGreatDoorMbb
import Derived.Test.YtaeaokimhbbnfaaGreatDoorMbc
import Derived.Test.YtaeaokimhbbnfaaGreatDoorMbd
/- inode: Of of an inode's words, of none's. -/
namespace Go.Proofs.YtaeaokimhbbnfaaGreatDoor
set_option linter.unusedVariables false
set_option linter.unusedSimpArgs false
open Go.RowKit Go.Shelf
set_option maxRecDepth 100000
set_option maxHeartbeats 8000000
theorem wrdN_lt {m : List Ex} (h : ∀ x ∈ m, mayE x) : ∀ x ∈ wrdN m, x < 18446744073709551616 := by
  intro x hx
  unfold wrdN at hx
  obtain ⟨z, hz, rfl⟩ := List.mem_map.1 hx
  obtain ⟨i, hi⟩ := List.mem_iff_getElem?.1 hz
  have := wrdZ_bnd h i z hi
  omega
theorem inoW_lt {k l z : Int} {m : List Ex} {r p : Int} {t : Bs} (h : okI k l z m r p t) : ∀ x ∈ inoW k l z m r p t, x < 18446744073709551616 := by
  obtain ⟨hl, ⟨rfl, rfl, rfl, rfl, rfl, rfl, rfl⟩ | ⟨rfl, rfl, rfl, rfl, hf⟩ | ⟨rfl, rfl, rfl, rfl, h1⟩ | ⟨rfl, rfl, rfl, rfl, rfl, h1⟩⟩ := h
  · rw [inoW_0]
    intro x hx
    rw [(List.mem_replicate.1 hx).2]
    decide
  · rw [inoW_1 _ _ _ _ _ _ hf.2.1]
    have hz := hf.1
    intro x hx
    simp only [List.mem_cons, List.mem_append] at hx
    rcases hx with rfl | rfl | hx | hx
    · omega
    · omega
    · exact wrdN_lt hf.2.1.2.1 x hx
    · rw [(List.mem_replicate.1 hx).2]
      decide
  · rw [inoW_2]
    intro x hx
    simp only [List.mem_cons] at hx
    rcases hx with rfl | rfl | rfl | rfl | hx
    · omega
    · decide
    · omega
    · omega
    · rw [(List.mem_replicate.1 hx).2]
      decide
  · rw [inoW_3 _ _ _ _ _ _ h1.1.2]
    intro x hx
    simp only [List.mem_cons, List.mem_append] at hx
    rcases hx with rfl | rfl | hx | hx
    · omega
    · omega
    · exact lay_small _ (nbL_lt t) x hx
    · rw [(List.mem_replicate.1 hx).2]
      decide
theorem of_ok (bk off cap : Nat) (ws : List Nat) (k l z : Int) (m : List Ex) (r p : Int) (t : Bs) (w : World) (hS : Start w) (hcap : 16 ≤ cap) (hW : WdsAt w bk off ws) (h : okI k l z m r p t) (e : inoW k l z m r p t = ws) : Calls Tryz.prog 56 #[.slice (some ⟨bk, off, none⟩) 16 cap] w (ofR k l z m r p t w) := by
  have hws : ws.length = 16 := by rw [← e]; exact inoW_len h
  have hwb : ∀ x ∈ ws, x < 18446744073709551616 := by rw [← e]; exact inoW_lt h
  have hS0 := hS.pos
  have hlt := hW.lt
  have hh := h
  obtain ⟨hl, ⟨rfl, rfl, rfl, rfl, rfl, rfl, rfl⟩ | ⟨rfl, rfl, rfl, rfl, hf⟩ | ⟨rfl, rfl, rfl, rfl, h1⟩ | ⟨rfl, rfl, rfl, rfl, rfl, h1⟩⟩ := h
  · exact of_Z bk off cap ws w hS hws hwb hcap hW (by rw [← e, inoW_0]; rfl)
  · obtain ⟨l, rfl⟩ : ∃ y : Nat, l = (y : Int) := ⟨l.toNat, by omega⟩
    have hz := hf.1
    obtain ⟨z, rfl⟩ : ∃ y : Nat, z = (y : Int) := ⟨z.toNat, by omega⟩
    have e1 := inoW_1 (l : Int) (z : Int) m 0 0 [] hf.2.1
    have e2 := wsZ_1 (l : Int) (z : Int) m 0 0 [] hf.2.1
    rw [e] at e1 e2
    have e3 : outZ (wsZ ws) = m := by rw [e2, outZ_wrdZ hf.2.1.2.1]
    have e4 : mapW (wsZ ws) := by rw [e2]; exact mapW_wrdZ hf.2.1
    refine of_run _ 16 cap _ _ _ _ _ _ _ w hS0 fun W gs go b hgs hgo hne hs ho => ?_
    have := of1_1T gs go bk off cap ws W (hS.up b) hws hwb hcap hs (hW.up b) ho ⟨hne, by omega, by omega⟩ (1 + 256 * l) (by rw [e1]; rfl) (by omega) l (by omega) (by omega) z (by rw [e1]; rfl) (by omega) e4 (by rw [e3]; exact hh) (by rw [e3]; exact e)
    rw [e3] at this
    exact this
  · obtain ⟨l, rfl⟩ : ∃ y : Nat, l = (y : Int) := ⟨l.toNat, by omega⟩
    obtain ⟨r, rfl⟩ : ∃ y : Nat, r = (y : Int) := ⟨r.toNat, by omega⟩
    obtain ⟨p, rfl⟩ : ∃ y : Nat, p = (y : Int) := ⟨p.toNat, by omega⟩
    have e1 := inoW_2 (l : Int) 0 [] (r : Int) (p : Int) []
    rw [e] at e1
    exact of_run _ 16 cap _ _ _ _ _ _ _ w hS0 fun W gs go b hgs hgo hne hs ho => of1_2T gs go bk off cap ws W (hS.up b) hws hwb hcap hs (hW.up b) ho ⟨hne, by omega, by omega⟩ (2 + 256 * l) (by rw [e1]; rfl) (by omega) l (by omega) (by omega) r p (by rw [e1]; rfl) (by rw [e1]; rfl) (by omega) hh e
  · obtain ⟨l, rfl⟩ : ∃ y : Nat, l = (y : Int) := ⟨l.toNat, by omega⟩
    have e1 := inoW_3 (l : Int) 0 [] 0 0 t h1.1.2
    have e2 := tg_3 (l : Int) 0 [] 0 0 t h1.1.2
    rw [e] at e1 e2
    refine of_run _ 16 cap _ _ _ _ _ _ _ w hS0 fun W gs go b hgs hgo hne hs ho => ?_
    have := of1_3T gs go bk off cap ws W (hS.up b) hws hwb hcap hs (hW.up b) ho ⟨hne, by omega, by omega⟩ (3 + 256 * l) (by rw [e1]; rfl) (by omega) l (by omega) (by omega) t.length (by rw [e1]; rfl) h1.1 e2.1 (by rw [e2.2]; exact hh) (by rw [e2.2]; exact e)
    rw [e2.2] at this
    exact this
theorem of_no (bk off cap : Nat) (ws : List Nat) (w : World) (hS : Start w) (hws : ws.length = 16) (hwb : ∀ x ∈ ws, x < 18446744073709551616) (hcap : 16 ≤ cap) (hW : WdsAt w bk off ws) (x0 : Nat) (h0 : ws[0]? = some x0) (hx0 : x0 ≠ 0) (hno : noI ws) : Calls Tryz.prog 56 #[.slice (some ⟨bk, off, none⟩) 16 cap] w fun e w' => e = .returned (.tuple #[inV 0 0 0 (.slice none 0 0) 0 0 [], .int .i64 240]) ∧ Below w.heap.size w w' := by
  have hS0 := hS.pos
  have hlt := hW.lt
  refine of_pan _ 16 cap w fun W gs go gk b hgs hgo hne hs ho => ?_
  obtain ⟨l, el⟩ : ∃ l, x0 / 256 % 16777216 = l := ⟨_, rfl⟩
  obtain ⟨x1, h1⟩ : ∃ x, ws[1]? = some x := ⟨_, List.getElem?_eq_getElem (by omega)⟩
  obtain ⟨x2, h2⟩ : ∃ x, ws[2]? = some x := ⟨_, List.getElem?_eq_getElem (by omega)⟩
  obtain ⟨x3, h3⟩ : ∃ x, ws[3]? = some x := ⟨_, List.getElem?_eq_getElem (by omega)⟩
  have hn3 : go ≠ gs ∧ 0 < go ∧ bk ≠ go := ⟨hne, by omega, by omega⟩
  have hkc : x0 % 256 = 0 ∨ x0 % 256 = 1 ∨ x0 % 256 = 2 ∨ x0 % 256 = 3 ∨ 3 < x0 % 256 := by omega
  rcases hkc with hk | hk | hk | hk | hk
  · by_cases hok : okI 0 (l : Int) 0 [] 0 0 []
    · exact of1_0W gk gs go bk off cap ws W (hS.up b) hws hwb hcap hs (hW.up b) ho hn3 x0 h0 hx0 l el hk hok (hno _ _ _ _ _ _ _ hok)
    · exact of1_0C gk gs go bk off cap ws W (hS.up b) hws hwb hcap hs (hW.up b) ho hn3 x0 h0 hx0 l el hk hok
  · by_cases hr : 65536 < x1 ∨ ¬mapW (wsZ ws)
    · exact of1_1R gk gs go bk off cap ws W (hS.up b) hws hwb hcap hs (hW.up b) ho hn3 x0 h0 hx0 l el hk x1 h1 hr
    have hr1 : x1 ≤ 65536 := Nat.le_of_not_lt fun h => hr (.inl h)
    have hr2 : mapW (wsZ ws) := Classical.not_not.1 fun h => hr (.inr h)
    by_cases hok : okI 1 (l : Int) (x1 : Int) (outZ (wsZ ws)) 0 0 []
    · exact of1_1W gk gs go bk off cap ws W (hS.up b) hws hwb hcap hs (hW.up b) ho hn3 x0 h0 hx0 l el hk x1 h1 hr1 hr2 hok (hno _ _ _ _ _ _ _ hok)
    · exact of1_1C gk gs go bk off cap ws W (hS.up b) hws hwb hcap hs (hW.up b) ho hn3 x0 h0 hx0 l el hk x1 h1 hr1 hr2 hok
  · by_cases hr : 65536 < x2 ∨ 65536 < x3
    · exact of1_2R gk gs go bk off cap ws W (hS.up b) hws hwb hcap hs (hW.up b) ho hn3 x0 h0 hx0 l el hk x2 x3 h2 h3 hr
    have hr1 : x2 ≤ 65536 ∧ x3 ≤ 65536 := by omega
    by_cases hok : okI 2 (l : Int) 0 [] (x2 : Int) (x3 : Int) []
    · exact of1_2W gk gs go bk off cap ws W (hS.up b) hws hwb hcap hs (hW.up b) ho hn3 x0 h0 hx0 l el hk x2 x3 h2 h3 hr1 hok (hno _ _ _ _ _ _ _ hok)
    · exact of1_2C gk gs go bk off cap ws W (hS.up b) hws hwb hcap hs (hW.up b) ho hn3 x0 h0 hx0 l el hk x2 x3 h2 h3 hr1 hok
  · by_cases hr : ¬(1 ≤ x1 ∧ x1 ≤ 112) ∨ ¬tgOk ws x1
    · exact of1_3R gk gs go bk off cap ws W (hS.up b) hws hwb hcap hs (hW.up b) ho hn3 x0 h0 hx0 l el hk x1 h1 hr
    have hr1 : 1 ≤ x1 ∧ x1 ≤ 112 := Classical.not_not.1 fun h => hr (.inl h)
    have hr2 : tgOk ws x1 := Classical.not_not.1 fun h => hr (.inr h)
    by_cases hok : okI 3 (l : Int) 0 [] 0 0 (tgW ws x1)
    · exact of1_3W gk gs go bk off cap ws W (hS.up b) hws hwb hcap hs (hW.up b) ho hn3 x0 h0 hx0 l el hk x1 h1 hr1 hr2 hok (hno _ _ _ _ _ _ _ hok)
    · exact of1_3C gk gs go bk off cap ws W (hS.up b) hws hwb hcap hs (hW.up b) ho hn3 x0 h0 hx0 l el hk x1 h1 hr1 hr2 hok
  · exact of1_X gk gs go bk off cap ws W (hS.up b) hws hwb hcap hs (hW.up b) ho hn3 x0 h0 hx0 l el hk
theorem jnext_T (gat gw bk off cap : Nat) (ws : List Nat) (i : Nat) (x : Nat) (w : World) (hat : RowL w gat 3 [.int .i64 (i : Int)]) (hw : RowL w gw 33 [.slice (some ⟨bk, off, none⟩) 64 cap]) (hW : WdsAt w bk off ws) (hi : i < 63) (hx : ws[i + 1]? = some x) (hne : gat ≠ gw ∧ gat ≠ bk) : Calls Tryz.prog 39 #[.pointer (some ⟨gat, 0, none⟩), .pointer (some ⟨gw, 0, none⟩)] w fun e w' => e = .returned (.int .u64 (x : Int)) ∧ RowL w' gat 3 [.int .i64 ((i : Int) + 1)] ∧ Kept (jKW w gat) w w' := by
  have q := Below.refl w.heap.size w
  have hok := Kept.refl (fun j => j < w.heap.size ∧ j ≠ gat) w
  have l1 := hat.lt; have l2 := hw.lt; have l3 := hW.lt
  have c1 := hW.1 _ _ hx
  clear hW
  refine X.fn Tryz.func39 rfl (n := 9) rfl rfl ?_
  refine Zr ?_; refine Za ?_; refine Zq ?_; refine Zr ?_; refine Zl hat ?_
  refine LL.val (R.addNc rfl rfl rfl rfl (by omega)) rfl rfl rfl ?_
  refine LL.store rfl rfl rfl rfl hat (by exact Nat.le_of_ble_eq_true rfl) rfl rfl rfl rfl ?_
  intro W2 r3 b1 z4
  have hlb1 := hat.lt
  replace r3 : RowL W2 _ 3 [.int .i64 ↑(i + 1)] := r3
  clear hat
  replace hw := Zd hw b1; replace hok := Zo hok b1; replace c1 := Ze c1 b1
  have hat := r3
  clear r3
  refine Zq ?_; refine Zr ?_; refine Zl hw ?_; refine Zl hat ?_
  refine LL.val (R.index rfl rfl rfl (I.ixS1 rfl (by omega))) rfl rfl rfl ?_
  refine Zk ?_; refine Za ?_; refine Zq ?_; refine ZR ?_; refine EE.ret _ rfl rfl ?_
  exact ⟨rfl, hat, hok⟩
theorem jnext_Z (gat gw bk off cap : Nat) (ws : List Nat) (i : Nat) (x : Nat) (z z' : Int) (w : World) (hz : z = (i : Int)) (hz' : z' = z + 1) (hat : RowL w gat 3 [.int .i64 z]) (hw : RowL w gw 33 [.slice (some ⟨bk, off, none⟩) 64 cap]) (hW : WdsAt w bk off ws) (hi : i < 63) (hx : ws[i + 1]? = some x) (hne : gat ≠ gw ∧ gat ≠ bk) : Calls Tryz.prog 39 #[.pointer (some ⟨gat, 0, none⟩), .pointer (some ⟨gw, 0, none⟩)] w fun e w' => e = .returned (.int .u64 (x : Int)) ∧ RowL w' gat 3 [.int .i64 z'] ∧ Kept (jKW w gat) w w' := by
  subst hz' hz
  exact jnext_T gat gw bk off cap ws i x w hat hw hW hi hx hne
theorem readN_any (gr gat gw bk off cap : Nat) (ws : List Nat) (x1 x2 x3 x4 x5 x6 x7 : Nat) (h1 : ws[1]? = some x1) (b1 : x1 < 18446744073709551616) (h2 : ws[2]? = some x2) (b2 : x2 < 18446744073709551616) (h3 : ws[3]? = some x3) (b3 : x3 < 18446744073709551616) (h4 : ws[4]? = some x4) (b4 : x4 < 18446744073709551616) (h5 : ws[5]? = some x5) (b5 : x5 < 18446744073709551616) (h6 : ws[6]? = some x6) (b6 : x6 < 18446744073709551616) (h7 : ws[7]? = some x7) (b7 : x7 < 18446744073709551616) (w : World) (hr : RowL w gr 28 (redL 2 0 noA 0 0 0 0 0 false)) (hat : RowL w gat 3 [.int .i64 0]) (hw : RowL w gw 33 [.slice (some ⟨bk, off, none⟩) 64 cap]) (hW : WdsAt w bk off ws) (hne : gat ≠ gw ∧ gat ≠ bk) (hnr : gr ≠ gat ∧ gr ≠ gw ∧ gr ≠ bk) : Calls Tryz.prog 63 #[.pointer (some ⟨gr, 0, none⟩), .func (.func 39) #[] #[.pointer (some ⟨gat, 0, none⟩), .pointer (some ⟨gw, 0, none⟩)]] w fun e w' => e = .returned (.tuple #[]) ∧ RowL w' gr 28 (redL 2 (smallZ x6) noA (smallZ x1) (smallZ x3) x2 x4 (smallZ x5) (x7 != 0)) ∧ Kept (fun j => j < w.heap.size ∧ j ≠ gr ∧ j ≠ gat) w w' := by
  have hok := Kept.refl (fun j => j < w.heap.size ∧ j ≠ gr ∧ j ≠ gat) w
  have l0 := hr.lt; have l1 := hat.lt; have l2 := hw.lt; have l3 := hW.lt
  have hWF : ∀ X, Kept (fun j => j < w.heap.size ∧ j ≠ gr ∧ j ≠ gat) w X → WdsAt X bk off ws := fun X k => ⟨fun j x hx => (World.cell?_of_block (k.block bk ⟨l3, fun e => hnr.2.2 e.symm, fun e => hne.2 e.symm⟩)).trans (hW.1 j x hx), Nat.lt_of_lt_of_le l3 k.size⟩
  clear hW
  refine X.fn Tryz.func63 rfl (n := 44) rfl rfl ?_
  refine Zr ?_; refine Zm ?_; refine Zm ?_; refine Zm ?_
  (refine LL.call (R.callV rfl rfl rfl rfl) rfl rfl rfl (jnext_Z gat gw bk off cap ws 0 x1 0 1 _ rfl rfl (by assumption) (by assumption) (hWF _ (by assumption)) (by decide) h1 hne) ?_; rintro e W151 ⟨rfl, hat, t150⟩; refine ⟨_, rfl, ?_⟩; replace hok := hok.trans (t150.less fun j hj => ⟨by have := hj.1; have := hok.size; omega, hj.2.2⟩))
  have zt150 := t150.size
  replace hr := hr.kept t150 ⟨hr.lt, by omega⟩
  replace hw := hw.kept t150 ⟨hw.lt, by omega⟩
  refine Zy (R.call rfl rfl rfl) (small_any _ _ (by first | assumption | omega)) ?_
  rintro e W' ⟨rfl, rfl⟩
  refine ⟨_, rfl, ?_⟩; refine Zm ?_
  (refine LL.call (R.callV rfl rfl rfl rfl) rfl rfl rfl (jnext_Z gat gw bk off cap ws 1 x2 1 2 _ rfl rfl (by assumption) (by assumption) (hWF _ (by assumption)) (by decide) h2 hne) ?_; rintro e W263 ⟨rfl, hat, t262⟩; refine ⟨_, rfl, ?_⟩; replace hok := hok.trans (t262.less fun j hj => ⟨by have := hj.1; have := hok.size; omega, hj.2.2⟩))
  have zt262 := t262.size
  replace hr := hr.kept t262 ⟨hr.lt, by omega⟩
  replace hw := hw.kept t262 ⟨hw.lt, by omega⟩
  refine LL.val (R.nil rfl rfl) rfl rfl rfl ?_
  refine Zf ?_
  refine LL.store rfl rfl rfl rfl hr (by exact Nat.le_of_ble_eq_true rfl) rfl rfl rfl rfl ?_
  intro W415 r416 b414 z417
  have hlb414 := hr.lt
  replace r416 : RowL W415 _ 28 (redL 2 0 noA (smallZ x1) 0 0 0 0 false) := r416
  clear hr
  replace hat := Zd hat b414; replace hok := Zo hok b414; replace hw := Zd hw b414
  have hr := r416
  clear r416
  refine LL.val (R.nil rfl rfl) rfl rfl rfl ?_
  refine Zf ?_
  refine LL.store rfl rfl rfl rfl hr (by exact Nat.le_of_ble_eq_true rfl) rfl rfl rfl rfl ?_
  intro W566 r567 b565 z568
  have hlb565 := hr.lt
  replace r567 : RowL W566 _ 28 (redL 2 0 noA (smallZ x1) 0 x2 0 0 false) := r567
  clear hr
  replace hat := Zd hat b565; replace hok := Zo hok b565; replace hw := Zd hw b565
  have hr := r567
  clear r567
  refine Zq ?_; refine Zr ?_; refine Zm ?_; refine Zm ?_; refine Zm ?_
  (refine LL.call (R.callV rfl rfl rfl rfl) rfl rfl rfl (jnext_Z gat gw bk off cap ws 2 x3 2 3 _ rfl rfl (by assumption) (by assumption) (hWF _ (by assumption)) (by decide) h3 hne) ?_; rintro e W733 ⟨rfl, hat, t732⟩; refine ⟨_, rfl, ?_⟩; replace hok := hok.trans (t732.less fun j hj => ⟨by have := hj.1; have := hok.size; omega, hj.2.2⟩))
  have zt732 := t732.size
  replace hw := hw.kept t732 ⟨hw.lt, by omega⟩
  replace hr := hr.kept t732 ⟨hr.lt, by omega⟩
  refine Zy (R.call rfl rfl rfl) (small_any _ _ (by first | assumption | omega)) ?_
  rintro e W' ⟨rfl, rfl⟩
  refine ⟨_, rfl, ?_⟩; refine Zm ?_
  (refine LL.call (R.callV rfl rfl rfl rfl) rfl rfl rfl (jnext_Z gat gw bk off cap ws 3 x4 3 4 _ rfl rfl (by assumption) (by assumption) (hWF _ (by assumption)) (by decide) h4 hne) ?_; rintro e W859 ⟨rfl, hat, t858⟩; refine ⟨_, rfl, ?_⟩; replace hok := hok.trans (t858.less fun j hj => ⟨by have := hj.1; have := hok.size; omega, hj.2.2⟩))
  have zt858 := t858.size
  replace hw := hw.kept t858 ⟨hw.lt, by omega⟩
  replace hr := hr.kept t858 ⟨hr.lt, by omega⟩
  refine LL.val (R.nil rfl rfl) rfl rfl rfl ?_
  refine Zf ?_
  refine LL.store rfl rfl rfl rfl hr (by exact Nat.le_of_ble_eq_true rfl) rfl rfl rfl rfl ?_
  intro W1011 r1012 b1010 z1013
  have hlb1010 := hr.lt
  replace r1012 : RowL W1011 _ 28 (redL 2 0 noA (smallZ x1) (smallZ x3) x2 0 0 false) := r1012
  clear hr
  replace hat := Zd hat b1010; replace hok := Zo hok b1010; replace hw := Zd hw b1010
  have hr := r1012
  clear r1012
  refine LL.val (R.nil rfl rfl) rfl rfl rfl ?_
  refine Zf ?_
  refine LL.store rfl rfl rfl rfl hr (by exact Nat.le_of_ble_eq_true rfl) rfl rfl rfl rfl ?_
  intro W1162 r1163 b1161 z1164
  have hlb1161 := hr.lt
  replace r1163 : RowL W1162 _ 28 (redL 2 0 noA (smallZ x1) (smallZ x3) x2 x4 0 false) := r1163
  clear hr
  replace hat := Zd hat b1161; replace hok := Zo hok b1161; replace hw := Zd hw b1161
  have hr := r1163
  clear r1163
  refine Zq ?_; refine Zr ?_; refine Zm ?_; refine Zm ?_; refine Zm ?_
  (refine LL.call (R.callV rfl rfl rfl rfl) rfl rfl rfl (jnext_Z gat gw bk off cap ws 4 x5 4 5 _ rfl rfl (by assumption) (by assumption) (hWF _ (by assumption)) (by decide) h5 hne) ?_; rintro e W1343 ⟨rfl, hat, t1342⟩; refine ⟨_, rfl, ?_⟩; replace hok := hok.trans (t1342.less fun j hj => ⟨by have := hj.1; have := hok.size; omega, hj.2.2⟩))
  have zt1342 := t1342.size
  replace hw := hw.kept t1342 ⟨hw.lt, by omega⟩
  replace hr := hr.kept t1342 ⟨hr.lt, by omega⟩
  refine Zy (R.call rfl rfl rfl) (small_any _ _ (by first | assumption | omega)) ?_
  rintro e W' ⟨rfl, rfl⟩
  refine ⟨_, rfl, ?_⟩; refine Zm ?_
  (refine LL.call (R.callV rfl rfl rfl rfl) rfl rfl rfl (jnext_Z gat gw bk off cap ws 5 x6 5 6 _ rfl rfl (by assumption) (by assumption) (hWF _ (by assumption)) (by decide) h6 hne) ?_; rintro e W1483 ⟨rfl, hat, t1482⟩; refine ⟨_, rfl, ?_⟩; replace hok := hok.trans (t1482.less fun j hj => ⟨by have := hj.1; have := hok.size; omega, hj.2.2⟩))
  have zt1482 := t1482.size
  replace hw := hw.kept t1482 ⟨hw.lt, by omega⟩
  replace hr := hr.kept t1482 ⟨hr.lt, by omega⟩
  refine Zy (R.call rfl rfl rfl) (small_any _ _ (by first | assumption | omega)) ?_
  rintro e W' ⟨rfl, rfl⟩
  refine ⟨_, rfl, ?_⟩
  refine LL.val (R.nil rfl rfl) rfl rfl rfl ?_
  refine Zf ?_
  refine LL.store rfl rfl rfl rfl hr (by exact Nat.le_of_ble_eq_true rfl) rfl rfl rfl rfl ?_
  intro W1684 r1685 b1683 z1686
  have hlb1683 := hr.lt
  replace r1685 : RowL W1684 _ 28 (redL 2 0 noA (smallZ x1) (smallZ x3) x2 x4 (smallZ x5) false) := r1685
  clear hr
  replace hat := Zd hat b1683; replace hok := Zo hok b1683; replace hw := Zd hw b1683
  have hr := r1685
  clear r1685
  refine LL.val (R.nil rfl rfl) rfl rfl rfl ?_
  refine Zf ?_
  refine LL.store rfl rfl rfl rfl hr (by exact Nat.le_of_ble_eq_true rfl) rfl rfl rfl rfl ?_
  intro W1835 r1836 b1834 z1837
  have hlb1834 := hr.lt
  replace r1836 : RowL W1835 _ 28 (redL 2 (smallZ x6) noA (smallZ x1) (smallZ x3) x2 x4 (smallZ x5) false) := r1836
  clear hr
  replace hat := Zd hat b1834; replace hok := Zo hok b1834; replace hw := Zd hw b1834
  have hr := r1836
  clear r1836
  refine Zq ?_; refine CC.region ?_; refine Zm ?_; refine Zm ?_
  (refine LL.call (R.callV rfl rfl rfl rfl) rfl rfl rfl (jnext_Z gat gw bk off cap ws 6 x7 6 7 _ rfl rfl (by assumption) (by assumption) (hWF _ (by assumption)) (by decide) h7 hne) ?_; rintro e W1981 ⟨rfl, hat, t1980⟩; refine ⟨_, rfl, ?_⟩; replace hok := hok.trans (t1980.less fun j hj => ⟨by have := hj.1; have := hok.size; omega, hj.2.2⟩))
  have zt1980 := t1980.size
  replace hw := hw.kept t1980 ⟨hw.lt, by omega⟩
  replace hr := hr.kept t1980 ⟨hr.lt, by omega⟩
  refine LL.vsplit (fun h => R.neT rfl rfl rfl h) (fun h => R.neF rfl rfl rfl (Decidable.not_not.1 h)) rfl rfl rfl (fun c2034 => ?_) (fun c2034 => ?_)
  refine LL.val (R.nil rfl rfl) rfl rfl rfl ?_
  refine Zf ?_
  refine LL.store rfl rfl rfl rfl hr (by exact Nat.le_of_ble_eq_true rfl) rfl rfl rfl rfl ?_
  intro W2183 r2184 b2182 z2185
  have hlb2182 := hr.lt
  replace r2184 : RowL W2183 _ 28 (redL 2 (smallZ x6) noA (smallZ x1) (smallZ x3) x2 x4 (smallZ x5) true) := r2184
  clear hr
  replace hat := Zd hat b2182; replace hok := Zo hok b2182; replace hw := Zd hw b2182
  have hr := r2184
  clear r2184
  refine ZL ?_; refine EE.end _ rfl rfl ?_
  (have e7 : (x7 != 0) = true := (by simp; omega); rw [e7]; exact ⟨rfl, hr, hok⟩)
  refine LL.val (R.nil rfl rfl) rfl rfl rfl ?_
  refine Zf ?_
  refine LL.store rfl rfl rfl rfl hr (by exact Nat.le_of_ble_eq_true rfl) rfl rfl rfl rfl ?_
  intro W2334 r2335 b2333 z2336
  have hlb2333 := hr.lt
  replace r2335 : RowL W2334 _ 28 (redL 2 (smallZ x6) noA (smallZ x1) (smallZ x3) x2 x4 (smallZ x5) false) := r2335
  clear hr
  replace hat := Zd hat b2333; replace hok := Zo hok b2333; replace hw := Zd hw b2333
  have hr := r2335
  clear r2335
  refine ZL ?_; refine EE.end _ rfl rfl ?_
  (have e7 : (x7 != 0) = false := (by simp; omega); rw [e7]; exact ⟨rfl, hr, hok⟩)
/-- Sixteen words of which so many are read. -/
def jfill (ws : List Nat) (i : Nat) : Nat → Nat := fun j => if j < i then (ws[2 + j]?).getD 0 else 0
theorem redL_set (k n : Int) (ws : List Nat) (i y : Nat) (f t : Int) (fk tk : Nat) (r : Int) (d : Bool) (hi : i < 16) (hy : ws[2 + i]? = some y) : (redL k n (jfill ws i) f t fk tk r d).set (2 + i) (.int .u64 (y : Int)) = redL k n (jfill ws (i + 1)) f t fk tk r d := by
  have hd : ∀ j, j < 16 → jfill ws (i + 1) j = if j = i then y else jfill ws i j := by
    intro j hj
    unfold jfill
    by_cases h : j = i
    · subst h
      rw [if_pos (by omega), if_pos rfl, hy]
      rfl
    · rw [if_neg h]
      by_cases h2 : j < i
      · rw [if_pos (by omega), if_pos h2]
      · rw [if_neg (by omega), if_neg h2]
  have hc : i = 0 ∨ i = 1 ∨ i = 2 ∨ i = 3 ∨ i = 4 ∨ i = 5 ∨ i = 6 ∨ i = 7 ∨ i = 8 ∨ i = 9 ∨ i = 10 ∨ i = 11 ∨ i = 12 ∨ i = 13 ∨ i = 14 ∨ i = 15 := by omega
  unfold redL
  rw [hd 0 (by decide), hd 1 (by decide), hd 2 (by decide), hd 3 (by decide), hd 4 (by decide), hd 5 (by decide), hd 6 (by decide), hd 7 (by decide), hd 8 (by decide), hd 9 (by decide), hd 10 (by decide), hd 11 (by decide), hd 12 (by decide), hd 13 (by decide), hd 14 (by decide), hd 15 (by decide)]
  clear hd hy
  rcases hc with rfl | rfl | rfl | rfl | rfl | rfl | rfl | rfl | rfl | rfl | rfl | rfl | rfl | rfl | rfl | rfl <;> rfl
theorem readI_any (gr gat gw bk off cap : Nat) (ws : List Nat) (hl : ws.length = 64) (hb : ∀ x ∈ ws, x < 18446744073709551616) (x1 : Nat) (h1 : ws[1]? = some x1) (w : World) (hr : RowL w gr 28 (redL 1 0 noA 0 0 0 0 0 false)) (hat : RowL w gat 3 [.int .i64 0]) (hw : RowL w gw 33 [.slice (some ⟨bk, off, none⟩) 64 cap]) (hW : WdsAt w bk off ws) (hne : gat ≠ gw ∧ gat ≠ bk) (hnr : gr ≠ gat ∧ gr ≠ gw ∧ gr ≠ bk) : Calls Tryz.prog 58 #[.pointer (some ⟨gr, 0, none⟩), .func (.func 39) #[] #[.pointer (some ⟨gat, 0, none⟩), .pointer (some ⟨gw, 0, none⟩)]] w fun e w' => e = .returned (.tuple #[]) ∧ RowL w' gr 28 (redL 1 (smallZ x1) (jfill ws 16) 0 0 0 0 0 false) ∧ Kept (fun j => j < w.heap.size ∧ j ≠ gr ∧ j ≠ gat) w w' := by
  have hok := Kept.refl (fun j => j < w.heap.size ∧ j ≠ gr ∧ j ≠ gat) w
  have l0 := hr.lt; have l1 := hat.lt; have l2 := hw.lt; have l3 := hW.lt
  have b1 := hb x1 (List.mem_of_getElem? h1)
  have hWF : ∀ X, Kept (fun j => j < w.heap.size ∧ j ≠ gr ∧ j ≠ gat) w X → WdsAt X bk off ws := fun X k => ⟨fun j x hx => (World.cell?_of_block (k.block bk ⟨l3, fun e => hnr.2.2 e.symm, fun e => hne.2 e.symm⟩)).trans (hW.1 j x hx), Nat.lt_of_lt_of_le l3 k.size⟩
  clear hW
  refine X.fn Tryz.func58 rfl (n := 22) rfl rfl ?_
  refine Zr ?_; refine Zm ?_; refine Zm ?_
  (refine LL.call (R.callV rfl rfl rfl rfl) rfl rfl rfl (jnext_Z gat gw bk off cap ws 0 x1 0 1 _ rfl rfl (by assumption) (by assumption) (hWF _ (by assumption)) (by decide) h1 hne) ?_; rintro e W18 ⟨rfl, hat, t17⟩; refine ⟨_, rfl, ?_⟩; replace hok := hok.trans (t17.less fun j hj => ⟨by have := hj.1; have := hok.size; omega, hj.2.2⟩))
  have zt17 := t17.size
  replace hr := hr.kept t17 ⟨hr.lt, by omega⟩
  replace hw := hw.kept t17 ⟨hw.lt, by omega⟩
  refine Zy (R.call rfl rfl rfl) (small_any _ _ (by first | assumption | omega)) ?_
  rintro e W' ⟨rfl, rfl⟩
  refine ⟨_, rfl, ?_⟩
  refine LL.val (R.nil rfl rfl) rfl rfl rfl ?_
  refine Zf ?_
  refine LL.store rfl rfl rfl rfl hr (by exact Nat.le_of_ble_eq_true rfl) rfl rfl rfl rfl ?_
  intro W51 r52 b50 z53
  have hlb50 := hr.lt
  replace r52 : RowL W51 _ 28 (redL 1 (smallZ x1) noA 0 0 0 0 0 false) := r52
  clear hr
  replace hat := Zd hat b50; replace hok := Zo hok b50; replace hw := Zd hw b50
  have hr := r52
  clear r52
  refine Zq ?_; refine Zr ?_; refine Zm ?_; refine Zq ?_; refine CC.block ?_
  refine CC.loop (α := Nat) (fun i => [(0, .pointer (some ⟨gr, 0, none⟩)), (1, .func (.func 39) #[] #[.pointer (some ⟨gat, 0, none⟩), .pointer (some ⟨gw, 0, none⟩)]), (11, .int .i64 (i : Int))]) (fun i W => i ≤ 16 ∧ Kept (fun j => j < w.heap.size ∧ j ≠ gr ∧ j ≠ gat) w W ∧ RowL W gat 3 [.int .i64 ((i + 1 : Nat) : Int)] ∧ RowL W gr 28 (redL 1 (smallZ x1) (jfill ws i) 0 0 0 0 0 false) ∧ RowL W gw 33 [.slice (some ⟨bk, off, none⟩) 64 cap]) (fun i => 16 - i) 0 ⟨rfl, rfl, rfl, trivial⟩ ⟨by omega, hok, hat, hr, hw⟩ ?_
  clear hok hat hr hw
  rintro i W ⟨hi, hkk, hat, hr, hw⟩
  show CC none Tryz.prog _ 22 [] (sl [(0, .pointer (some ⟨gr, 0, none⟩)), (1, .func (.func 39) #[] #[.pointer (some ⟨gat, 0, none⟩), .pointer (some ⟨gw, 0, none⟩)]), (11, .int .i64 (i : Int))]) _ W
  by_cases hlt : i < 16
  case neg =>
    obtain rfl : i = 16 := by omega
    refine Zr ?_; refine ZltF ?_; refine Zq ?_; refine Zc ?_; refine ZN ?_; refine CC.exit ?_; refine EE.thenX ?_; refine EE.thenX ?_; refine EE.inX ?_; refine EE.end _ rfl rfl ?_
    exact ⟨rfl, hr, hkk⟩
  obtain ⟨y, hy⟩ : ∃ y, ws[2 + i]? = some y := ⟨_, List.getElem?_eq_getElem (by omega)⟩
  have hst := redL_set 1 (smallZ x1) ws i y 0 0 0 0 0 false hlt hy
  have by1 := hb y (List.mem_of_getElem? hy)
  refine Zr ?_; refine ZltT ?_; refine Zq ?_; refine Zc ?_; refine ZY ?_; refine ZK ?_; refine ZT ?_; refine Zc ?_; refine CC.block ?_; refine Zr ?_; refine Zm ?_; refine Za ?_; refine Zq ?_
  refine CC.freeZ (fun W_ j => j < W_.heap.size ∧ (j ≠ gr ∧ j ≠ gat)) (by kernel_rfl) (by kernel_rfl) (fun Wb44 bb43 zb45 => ?_)
  replace hkk := Zh hkk bb43; have yb46 := hkk.size; replace hat := hat.up bb43; replace hr := hr.up bb43; replace hw := hw.up bb43
  have hok : Kept (fun j => j < Wb44.heap.size ∧ (j ≠ gr ∧ j ≠ gat)) Wb44 Wb44 := Kept.refl _ _
  have fzhw := fzRow (K := fun j => j < Wb44.heap.size ∧ (j ≠ gr ∧ j ≠ gat)) hw ⟨hw.lt, (by first | trivial | omega)⟩
  refine AA.pure 0 rfl hok (by kernel_rfl) (fun w' b' => R.move rfl rfl) rfl rfl ?_
  refine AA.pure 1 rfl hok (by kernel_rfl) (fun w' b' => R.move rfl rfl) rfl rfl ?_
  refine AA.pure 2 rfl hok (by kernel_rfl) (fun w' b' => R.move rfl rfl) rfl rfl ?_
  refine AA.pure 4 rfl hok (by kernel_rfl) (fun w' b' => R.nil rfl rfl) rfl rfl ?_
  refine AA.pure 5 rfl hok (by kernel_rfl) (fun w' b' => R.field rfl rfl (I.fld rfl)) rfl rfl ?_
  refine AA.one 3 (by kernel_rfl) ?_
  (refine SR.call rfl (R.callV rfl rfl rfl rfl) rfl rfl (jnext_Z gat gw bk off cap ws (i + 1) y _ ((i + 2 : Nat) : Int) _ rfl (by omega) (by assumption) (by assumption) (hWF _ hkk) (by omega) (by rw [show i + 1 + 1 = 2 + i by omega]; exact hy) hne) ?_; rintro e Wb50 ⟨rfl, hat, tb49⟩; refine ⟨_, rfl, ?_⟩; replace hkk := hkk.trans (tb49.less fun j hj => ⟨by have := hj.1; have := hkk.size; omega, hj.2.2⟩); replace hok := hok.trans (tb49.less fun j hj => ⟨by have := hj.1; have := hok.size; omega, hj.2.2⟩))
  have ztb49 := tb49.size
  replace hr := hr.kept tb49 ⟨hr.lt, by omega⟩
  replace hw := hw.kept tb49 ⟨hw.lt, by omega⟩
  refine ⟨hok, ?_⟩
  refine AA.pure 6 rfl hok (by kernel_rfl) (fun w' b' => R.index rfl rfl rfl (I.ixA1 rfl (by omega))) rfl rfl ?_
  refine AA.one 7 (by kernel_rfl) ?_
  (refine ZR.store (off := 2 + i) rfl rfl rfl rfl rfl hr (by simp; omega) rfl rfl rfl rfl ?_; intro Wb64 r9 grb62 zz9; rw [hst] at r9; clear hr; have hr := r9; clear r9)
  have zgrb62 := grb62.size; replace hat := Zd hat grb62; replace hkk := Zo hkk grb62; replace hok := Zo hok grb62; replace hw := Zd hw grb62
  refine ⟨hok, ?_⟩
  refine AA.done rfl ?_
  clear fzhw hok
  refine EE.inN ?_; refine ZT ?_; refine CC.region ?_
  refine LL.val (R.addNc rfl rfl rfl rfl (by omega)) rfl rfl rfl ?_
  refine Zm ?_; refine ZL ?_
  exact EE.round (i + 1) ⟨rfl, rfl, rfl, trivial⟩ ⟨by omega, hkk, hat, hr, hw⟩ (by omega)
set_option linter.unusedVariables false
set_option linter.unusedSimpArgs false
set_option maxRecDepth 100000
set_option maxHeartbeats 8000000
/-- The same redo. -/
def sameR (k n : Int) (a : Nat → Nat) (f t : Int) (fk tk : Nat) (r : Int) (d : Bool) (k' n' : Int) (a' : Nat → Nat) (f' t' : Int) (fk' tk' : Nat) (r' : Int) (d' : Bool) : Prop := k = k' ∧ n = n' ∧ (a 0 : Int) = (a' 0 : Int) ∧ (a 1 : Int) = (a' 1 : Int) ∧ (a 2 : Int) = (a' 2 : Int) ∧ (a 3 : Int) = (a' 3 : Int) ∧ (a 4 : Int) = (a' 4 : Int) ∧ (a 5 : Int) = (a' 5 : Int) ∧ (a 6 : Int) = (a' 6 : Int) ∧ (a 7 : Int) = (a' 7 : Int) ∧ (a 8 : Int) = (a' 8 : Int) ∧ (a 9 : Int) = (a' 9 : Int) ∧ (a 10 : Int) = (a' 10 : Int) ∧ (a 11 : Int) = (a' 11 : Int) ∧ (a 12 : Int) = (a' 12 : Int) ∧ (a 13 : Int) = (a' 13 : Int) ∧ (a 14 : Int) = (a' 14 : Int) ∧ (a 15 : Int) = (a' 15 : Int) ∧ f = f' ∧ t = t' ∧ (fk : Int) = (fk' : Int) ∧ (tk : Int) = (tk' : Int) ∧ r = r' ∧ d = d'
section
variable {w : World} {u : TypeId} {o : Oper} {x y : Operand} {N : Nat} {D : List Deferred} {M : Slots}
theorem R.redoT {k n : Int} {a : Nat → Nat} {f t : Int} {fk tk : Nat} {r : Int} {d : Bool} {k' n' : Int} {a' : Nat → Nat} {f' t' : Int} {fk' tk' : Nat} {r' : Int} {d' : Bool} (h : sameR k n a f t fk tk r d k' n' a' f' t' fk' tk' r' d') (ho : o.op = .binOp .neq 28 x y u) (hx : evM M x = some (redV k n a f t fk tk r d)) (hy : evM M y = some (redV k' n' a' f' t' fk' tk' r' d')) : Runs Tryz.prog N D M o w (.value (.bool false)) w :=
  R.neST (p := k = k' ∧ n = n' ∧ (a 0 : Int) = (a' 0 : Int) ∧ (a 1 : Int) = (a' 1 : Int) ∧ (a 2 : Int) = (a' 2 : Int) ∧ (a 3 : Int) = (a' 3 : Int) ∧ (a 4 : Int) = (a' 4 : Int) ∧ (a 5 : Int) = (a' 5 : Int) ∧ (a 6 : Int) = (a' 6 : Int) ∧ (a 7 : Int) = (a' 7 : Int) ∧ (a 8 : Int) = (a' 8 : Int) ∧ (a 9 : Int) = (a' 9 : Int) ∧ (a 10 : Int) = (a' 10 : Int) ∧ (a 11 : Int) = (a' 11 : Int) ∧ (a 12 : Int) = (a' 12 : Int) ∧ (a 13 : Int) = (a' 13 : Int) ∧ (a 14 : Int) = (a' 14 : Int) ∧ (a 15 : Int) = (a' 15 : Int) ∧ f = f' ∧ t = t' ∧ (fk : Int) = (fk' : Int) ∧ (tk : Int) = (tk' : Int) ∧ r = r' ∧ d = d') (xs := redL k n a f t fk tk r d) (ys := redL k' n' a' f' t' fk' tk' r' d') (bs := [decide (k = k'), decide (n = n'), decide ((a 0 : Int) = (a' 0 : Int)), decide ((a 1 : Int) = (a' 1 : Int)), decide ((a 2 : Int) = (a' 2 : Int)), decide ((a 3 : Int) = (a' 3 : Int)), decide ((a 4 : Int) = (a' 4 : Int)), decide ((a 5 : Int) = (a' 5 : Int)), decide ((a 6 : Int) = (a' 6 : Int)), decide ((a 7 : Int) = (a' 7 : Int)), decide ((a 8 : Int) = (a' 8 : Int)), decide ((a 9 : Int) = (a' 9 : Int)), decide ((a 10 : Int) = (a' 10 : Int)), decide ((a 11 : Int) = (a' 11 : Int)), decide ((a 12 : Int) = (a' 12 : Int)), decide ((a 13 : Int) = (a' 13 : Int)), decide ((a 14 : Int) = (a' 14 : Int)), decide ((a 15 : Int) = (a' 15 : Int)), decide (f = f'), decide (t = t'), decide ((fk : Int) = (fk' : Int)), decide ((tk : Int) = (tk' : Int)), decide (r = r'), d == d']) ho hx hy rfl (by kernel_rfl) (by kernel_rfl) (by cases d <;> cases d' <;> simp) h
theorem R.redoF {k n : Int} {a : Nat → Nat} {f t : Int} {fk tk : Nat} {r : Int} {d : Bool} {k' n' : Int} {a' : Nat → Nat} {f' t' : Int} {fk' tk' : Nat} {r' : Int} {d' : Bool} (h : ¬sameR k n a f t fk tk r d k' n' a' f' t' fk' tk' r' d') (ho : o.op = .binOp .neq 28 x y u) (hx : evM M x = some (redV k n a f t fk tk r d)) (hy : evM M y = some (redV k' n' a' f' t' fk' tk' r' d')) : Runs Tryz.prog N D M o w (.value (.bool true)) w :=
  R.neSF (p := k = k' ∧ n = n' ∧ (a 0 : Int) = (a' 0 : Int) ∧ (a 1 : Int) = (a' 1 : Int) ∧ (a 2 : Int) = (a' 2 : Int) ∧ (a 3 : Int) = (a' 3 : Int) ∧ (a 4 : Int) = (a' 4 : Int) ∧ (a 5 : Int) = (a' 5 : Int) ∧ (a 6 : Int) = (a' 6 : Int) ∧ (a 7 : Int) = (a' 7 : Int) ∧ (a 8 : Int) = (a' 8 : Int) ∧ (a 9 : Int) = (a' 9 : Int) ∧ (a 10 : Int) = (a' 10 : Int) ∧ (a 11 : Int) = (a' 11 : Int) ∧ (a 12 : Int) = (a' 12 : Int) ∧ (a 13 : Int) = (a' 13 : Int) ∧ (a 14 : Int) = (a' 14 : Int) ∧ (a 15 : Int) = (a' 15 : Int) ∧ f = f' ∧ t = t' ∧ (fk : Int) = (fk' : Int) ∧ (tk : Int) = (tk' : Int) ∧ r = r' ∧ d = d') (xs := redL k n a f t fk tk r d) (ys := redL k' n' a' f' t' fk' tk' r' d') (bs := [decide (k = k'), decide (n = n'), decide ((a 0 : Int) = (a' 0 : Int)), decide ((a 1 : Int) = (a' 1 : Int)), decide ((a 2 : Int) = (a' 2 : Int)), decide ((a 3 : Int) = (a' 3 : Int)), decide ((a 4 : Int) = (a' 4 : Int)), decide ((a 5 : Int) = (a' 5 : Int)), decide ((a 6 : Int) = (a' 6 : Int)), decide ((a 7 : Int) = (a' 7 : Int)), decide ((a 8 : Int) = (a' 8 : Int)), decide ((a 9 : Int) = (a' 9 : Int)), decide ((a 10 : Int) = (a' 10 : Int)), decide ((a 11 : Int) = (a' 11 : Int)), decide ((a 12 : Int) = (a' 12 : Int)), decide ((a 13 : Int) = (a' 13 : Int)), decide ((a 14 : Int) = (a' 14 : Int)), decide ((a 15 : Int) = (a' 15 : Int)), decide (f = f'), decide (t = t'), decide ((fk : Int) = (fk' : Int)), decide ((tk : Int) = (tk' : Int)), decide (r = r'), d == d']) ho hx hy rfl (by kernel_rfl) (by kernel_rfl) (by cases d <;> cases d' <;> simp) h
end
/-- An inode's words are a file's. -/
def okFl (a : Nat → Nat) : Prop := ∃ l z : Int, ∃ m : List Ex, okI 1 l z m 0 0 [] ∧ inoW 1 l z m 0 0 [] = jsixL a
abbrev jkdZ : Value := .agg #[.int .i64 0, .nilFunc, .nilFunc, .nilFunc, .nilFunc]
theorem jwds_row {w : World} {g e : Nat} {k n : Int} {a : Nat → Nat} {xs : List Value} (h : RowL w g e ([.int .i64 k, .int .i64 n] ++ ints .u64 (jsixL a) ++ xs)) : WdsAt w g 2 (jsixL a) := ⟨fun j x hx => RowL.cell h (by
  have hj : j < 16 := (List.getElem?_eq_some_iff.1 hx).1
  rw [List.append_assoc, List.getElem?_append_right (by simp), List.getElem?_append_left (by simp [ints, jsixL]; omega)]
  simp [ints, hx]), h.lt⟩
theorem jmay1_T (k n : Int) (a : Nat → Nat) (f t : Int) (fk tk : Nat) (r : Int) (d : Bool) (lb li lr lt : Int) (k1 k2 : Nat) (la lc ld le : Int) (w : World) (hS : Start w) (h : okFl a) : Calls Tryz.prog 55 #[unRV k n a f t fk tk r d lb li lr lt k1 k2 la lc ld le] w fun x w' => x = .returned (.bool true) ∧ Below w.heap.size w w' := by
  have q := Below.refl w.heap.size w
  have hSF : ∀ X, Below w.heap.size w X → Start X := fun X b => hS.up b
  obtain ⟨l, z, m, hI, he⟩ := h
  clear hS
  refine X.fn Tryz.func55 rfl (n := 19) rfl rfl ?_
  refine Zr ?_
  refine LL.box [.int .i64 k, .int .i64 n, .int .u64 ↑(a 0), .int .u64 ↑(a 1), .int .u64 ↑(a 2), .int .u64 ↑(a 3), .int .u64 ↑(a 4), .int .u64 ↑(a 5), .int .u64 ↑(a 6), .int .u64 ↑(a 7), .int .u64 ↑(a 8), .int .u64 ↑(a 9), .int .u64 ↑(a 10), .int .u64 ↑(a 11), .int .u64 ↑(a 12), .int .u64 ↑(a 13), .int .u64 ↑(a 14), .int .u64 ↑(a 15), .int .i64 f, .int .i64 t, .int .u64 ↑fk, .int .u64 ↑tk, .int .i64 r, .bool d, .int .i64 lb, .int .i64 li, .int .i64 lr, .int .i64 lt, .int .u64 ↑k1, .int .u64 ↑k2, .int .i64 la, .int .i64 lc, .int .i64 ld, .int .i64 le] rfl rfl rfl rfl rfl ?_
  intro W9 g10 eg10 r11 z12 b8
  replace q := Zu q b8; refine Za ?_; refine Zq ?_; refine Zr ?_; refine Zf ?_; refine Zf ?_
  refine LL.val (R.slice rfl rfl rfl rfl rfl (I.slA rfl)) rfl rfl rfl ?_
  have l49 := r11.lt
  (have hWd := jwds_row (k := k) (n := n) (a := a) (by assumption); refine Zy (R.call rfl rfl rfl) (of_ok _ 2 16 (jsixL a) 1 l z m 0 0 [] _ (hSF _ q) (by decide) hWd hI he) ?_; rintro e W48 ⟨v4, rfl, rd4, b45⟩; refine ⟨_, rfl, ?_⟩; obtain ⟨x4, c4, rfl, _⟩ := rd4.form rfl; clear rd4 hWd)
  have zb45 := b45.size; replace r11 := r11.up b45; replace q := Zu q b45; refine Zm ?_; refine Zx ?_; refine Zx ?_; have l85 := r11.lt
  refine LL.alloc ([.int .i64 0, .int .i64 0, .int .i64 0, .slice none 0 0, .int .i64 0, .int .i64 0, .string { data := { toList := [] } }]) rfl rfl rfl rfl rfl ?_
  intro W87 g88 eg88 r89 z90 b86
  replace r11 := r11.up b86; replace q := Zu q b86
  refine LL.storeN (vs := [.int .i64 1, .int .i64 l, .int .i64 z, .slice x4 m.length c4, .int .i64 0, .int .i64 0, strV []]) rfl rfl rfl rfl r89 (by exact Nat.le_of_ble_eq_true rfl) (ones_of rfl) rfl rfl ?_
  intro W101 r102 b100 z103
  have hlb100 := r89.lt
  replace r102 : RowL W101 _ 80 [.int .i64 1, .int .i64 l, .int .i64 z, .slice x4 m.length c4, .int .i64 0, .int .i64 0, strV []] := r102
  clear r89
  replace r11 := Zd r11 b100; replace q := Zg q b100
  have r89 := r102
  clear r102
  refine Za ?_; refine Zq ?_; refine Zr ?_; refine Zm ?_; refine ZeqT ?_; refine Zm ?_; refine Zf ?_; refine Zl r89 ?_; refine ZeqT ?_; refine Zp ?_; refine Za ?_; refine Zq ?_; refine ZR ?_; refine EE.ret _ rfl rfl ?_
  exact ⟨rfl, q⟩
theorem jmay1_F (k n : Int) (a : Nat → Nat) (f t : Int) (fk tk : Nat) (r : Int) (d : Bool) (lb li lr lt : Int) (k1 k2 : Nat) (la lc ld le : Int) (w : World) (hS : Start w) (hb : ∀ x ∈ jsixL a, x < 18446744073709551616) (h : ¬okFl a) : Calls Tryz.prog 55 #[unRV k n a f t fk tk r d lb li lr lt k1 k2 la lc ld le] w fun x w' => x = .returned (.bool false) ∧ Below w.heap.size w w' := by
  have q := Below.refl w.heap.size w
  have hSF : ∀ X, Below w.heap.size w X → Start X := fun X b => hS.up b
  clear hS
  by_cases h0 : a 0 = 0
  · have h00 : (jsixL a)[0]? = some 0 := congrArg some h0
    clear h
    refine X.fn Tryz.func55 rfl (n := 19) rfl rfl ?_
    refine Zr ?_
    refine LL.box [.int .i64 k, .int .i64 n, .int .u64 ↑(a 0), .int .u64 ↑(a 1), .int .u64 ↑(a 2), .int .u64 ↑(a 3), .int .u64 ↑(a 4), .int .u64 ↑(a 5), .int .u64 ↑(a 6), .int .u64 ↑(a 7), .int .u64 ↑(a 8), .int .u64 ↑(a 9), .int .u64 ↑(a 10), .int .u64 ↑(a 11), .int .u64 ↑(a 12), .int .u64 ↑(a 13), .int .u64 ↑(a 14), .int .u64 ↑(a 15), .int .i64 f, .int .i64 t, .int .u64 ↑fk, .int .u64 ↑tk, .int .i64 r, .bool d, .int .i64 lb, .int .i64 li, .int .i64 lr, .int .i64 lt, .int .u64 ↑k1, .int .u64 ↑k2, .int .i64 la, .int .i64 lc, .int .i64 ld, .int .i64 le] rfl rfl rfl rfl rfl ?_
    intro W9 g10 eg10 r11 z12 b8
    replace q := Zu q b8; refine Za ?_; refine Zq ?_; refine Zr ?_; refine Zf ?_; refine Zf ?_
    refine LL.val (R.slice rfl rfl rfl rfl rfl (I.slA rfl)) rfl rfl rfl ?_
    have l49 := r11.lt
    (have hWd := jwds_row (k := k) (n := n) (a := a) (by assumption); refine Zy (R.call rfl rfl rfl) (of_Z _ 2 16 (jsixL a) _ (hSF _ q) rfl hb (by decide) hWd h00) ?_; rintro e W48 ⟨v4, rfl, rd4, b45⟩; refine ⟨_, rfl, ?_⟩; obtain ⟨x4, c4, rfl, _⟩ := rd4.form rfl; clear rd4 hWd)
    have zb45 := b45.size; replace r11 := r11.up b45; replace q := Zu q b45; refine Zm ?_; refine Zx ?_; refine Zx ?_; have l85 := r11.lt
    refine LL.alloc ([.int .i64 0, .int .i64 0, .int .i64 0, .slice none 0 0, .int .i64 0, .int .i64 0, .string { data := { toList := [] } }]) rfl rfl rfl rfl rfl ?_
    intro W87 g88 eg88 r89 z90 b86
    replace r11 := r11.up b86; replace q := Zu q b86
    refine LL.storeN (vs := [.int .i64 0, .int .i64 0, .int .i64 0, .slice x4 [].length c4, .int .i64 0, .int .i64 0, strV []]) rfl rfl rfl rfl r89 (by exact Nat.le_of_ble_eq_true rfl) (ones_of rfl) rfl rfl ?_
    intro W101 r102 b100 z103
    have hlb100 := r89.lt
    replace r102 : RowL W101 _ 80 [.int .i64 0, .int .i64 0, .int .i64 0, .slice x4 [].length c4, .int .i64 0, .int .i64 0, strV []] := r102
    clear r89
    replace r11 := Zd r11 b100; replace q := Zg q b100
    have r89 := r102
    clear r102
    refine Za ?_; refine Zq ?_; refine Zr ?_; refine Zm ?_; refine ZeqT ?_; refine Zm ?_; refine Zf ?_; refine Zl r89 ?_; refine ZeqF ?_; refine Zp ?_; refine Za ?_; refine Zq ?_; refine ZR ?_; refine EE.ret _ rfl rfl ?_
    exact ⟨rfl, q⟩
  by_cases hn : noI (jsixL a)
  · have h00 : (jsixL a)[0]? = some (a 0) := rfl
    clear h
    refine X.fn Tryz.func55 rfl (n := 19) rfl rfl ?_
    refine Zr ?_
    refine LL.box [.int .i64 k, .int .i64 n, .int .u64 ↑(a 0), .int .u64 ↑(a 1), .int .u64 ↑(a 2), .int .u64 ↑(a 3), .int .u64 ↑(a 4), .int .u64 ↑(a 5), .int .u64 ↑(a 6), .int .u64 ↑(a 7), .int .u64 ↑(a 8), .int .u64 ↑(a 9), .int .u64 ↑(a 10), .int .u64 ↑(a 11), .int .u64 ↑(a 12), .int .u64 ↑(a 13), .int .u64 ↑(a 14), .int .u64 ↑(a 15), .int .i64 f, .int .i64 t, .int .u64 ↑fk, .int .u64 ↑tk, .int .i64 r, .bool d, .int .i64 lb, .int .i64 li, .int .i64 lr, .int .i64 lt, .int .u64 ↑k1, .int .u64 ↑k2, .int .i64 la, .int .i64 lc, .int .i64 ld, .int .i64 le] rfl rfl rfl rfl rfl ?_
    intro Wa9 ga10 ega10 ra11 za12 ba8
    replace q := Zu q ba8; refine Za ?_; refine Zq ?_; refine Zr ?_; refine Zf ?_; refine Zf ?_
    refine LL.val (R.slice rfl rfl rfl rfl rfl (I.slA rfl)) rfl rfl rfl ?_
    have la49 := ra11.lt
    (have hWd := jwds_row (k := k) (n := n) (a := a) (by assumption); refine Zy (R.call rfl rfl rfl) (of_no _ 2 16 (jsixL a) _ (hSF _ q) rfl hb (by decide) hWd _ h00 h0 hn) ?_; rintro e Wa48 ⟨rfl, ba45⟩; refine ⟨_, rfl, ?_⟩; clear hWd)
    have zba45 := ba45.size; replace ra11 := ra11.up ba45; replace q := Zu q ba45; refine Zm ?_; refine Zx ?_; refine Zx ?_; have la85 := ra11.lt
    refine LL.alloc ([.int .i64 0, .int .i64 0, .int .i64 0, .slice none 0 0, .int .i64 0, .int .i64 0, .string { data := { toList := [] } }]) rfl rfl rfl rfl rfl ?_
    intro Wa87 ga88 ega88 ra89 za90 ba86
    replace ra11 := ra11.up ba86; replace q := Zu q ba86
    refine LL.storeN (vs := [.int .i64 0, .int .i64 0, .int .i64 0, .slice none 0 0, .int .i64 0, .int .i64 0, strV []]) rfl rfl rfl rfl ra89 (by exact Nat.le_of_ble_eq_true rfl) (ones_of rfl) rfl rfl ?_
    intro Wa101 ra102 ba100 za103
    have hlba100 := ra89.lt
    replace ra102 : RowL Wa101 _ 80 [.int .i64 0, .int .i64 0, .int .i64 0, .slice none 0 0, .int .i64 0, .int .i64 0, strV []] := ra102
    clear ra89
    replace ra11 := Zd ra11 ba100; replace q := Zg q ba100
    have ra89 := ra102
    clear ra102
    refine Za ?_; refine Zq ?_; refine Zr ?_; refine Zm ?_; refine ZeqF ?_; refine Zm ?_; refine Zs ?_; refine Zs ?_; refine Zs ?_; refine Zp ?_; refine Za ?_; refine Zq ?_; refine ZR ?_; refine EE.ret _ rfl rfl ?_
    exact ⟨rfl, q⟩
  unfold noI at hn
  simp only [Classical.not_forall, Classical.not_not, exists_prop] at hn
  obtain ⟨k1', l1, z1, m1, r1, p1, t1, hI, he⟩ := hn
  have hk1 : k1' ≠ 1 := by
    rintro rfl
    obtain ⟨hl, ⟨h2, _⟩ | ⟨_, rfl, rfl, rfl, hf⟩ | ⟨h2, _⟩ | ⟨h2, _⟩⟩ := id hI
    · exact absurd h2 (by decide)
    · exact h ⟨_, _, _, hI, he⟩
    · exact absurd h2 (by decide)
    · exact absurd h2 (by decide)
  clear h
  refine X.fn Tryz.func55 rfl (n := 19) rfl rfl ?_
  refine Zr ?_
  refine LL.box [.int .i64 k, .int .i64 n, .int .u64 ↑(a 0), .int .u64 ↑(a 1), .int .u64 ↑(a 2), .int .u64 ↑(a 3), .int .u64 ↑(a 4), .int .u64 ↑(a 5), .int .u64 ↑(a 6), .int .u64 ↑(a 7), .int .u64 ↑(a 8), .int .u64 ↑(a 9), .int .u64 ↑(a 10), .int .u64 ↑(a 11), .int .u64 ↑(a 12), .int .u64 ↑(a 13), .int .u64 ↑(a 14), .int .u64 ↑(a 15), .int .i64 f, .int .i64 t, .int .u64 ↑fk, .int .u64 ↑tk, .int .i64 r, .bool d, .int .i64 lb, .int .i64 li, .int .i64 lr, .int .i64 lt, .int .u64 ↑k1, .int .u64 ↑k2, .int .i64 la, .int .i64 lc, .int .i64 ld, .int .i64 le] rfl rfl rfl rfl rfl ?_
  intro Wb9 gb10 egb10 rb11 zb12 bb8
  replace q := Zu q bb8; refine Za ?_; refine Zq ?_; refine Zr ?_; refine Zf ?_; refine Zf ?_
  refine LL.val (R.slice rfl rfl rfl rfl rfl (I.slA rfl)) rfl rfl rfl ?_
  have lb49 := rb11.lt
  (have hWd := jwds_row (k := k) (n := n) (a := a) (by assumption); refine Zy (R.call rfl rfl rfl) (of_ok _ 2 16 (jsixL a) k1' l1 z1 m1 r1 p1 t1 _ (hSF _ q) (by decide) hWd hI he) ?_; rintro e Wb48 ⟨v4, rfl, rd4, bb45⟩; refine ⟨_, rfl, ?_⟩; obtain ⟨x4, c4, rfl, _⟩ := rd4.form rfl; clear rd4 hWd)
  have zbb45 := bb45.size; replace rb11 := rb11.up bb45; replace q := Zu q bb45; refine Zm ?_; refine Zx ?_; refine Zx ?_; have lb85 := rb11.lt
  refine LL.alloc ([.int .i64 0, .int .i64 0, .int .i64 0, .slice none 0 0, .int .i64 0, .int .i64 0, .string { data := { toList := [] } }]) rfl rfl rfl rfl rfl ?_
  intro Wb87 gb88 egb88 rb89 zb90 bb86
  replace rb11 := rb11.up bb86; replace q := Zu q bb86
  refine LL.storeN (vs := [.int .i64 k1', .int .i64 l1, .int .i64 z1, .slice x4 m1.length c4, .int .i64 r1, .int .i64 p1, strV t1]) rfl rfl rfl rfl rb89 (by exact Nat.le_of_ble_eq_true rfl) (ones_of rfl) rfl rfl ?_
  intro Wb101 rb102 bb100 zb103
  have hlbb100 := rb89.lt
  replace rb102 : RowL Wb101 _ 80 [.int .i64 k1', .int .i64 l1, .int .i64 z1, .slice x4 m1.length c4, .int .i64 r1, .int .i64 p1, strV t1] := rb102
  clear rb89
  replace rb11 := Zd rb11 bb100; replace q := Zg q bb100
  have rb89 := rb102
  clear rb102
  refine Za ?_; refine Zq ?_; refine Zr ?_; refine Zm ?_; refine ZeqT ?_; refine Zm ?_; refine Zf ?_; refine Zl rb89 ?_; refine ZeqF ?_; refine Zp ?_; refine Za ?_; refine Zq ?_; refine ZR ?_; refine EE.ret _ rfl rfl ?_
  exact ⟨rfl, q⟩
theorem jcheck_gT (k n : Int) (a : Nat → Nat) (f t : Int) (fk tk : Nat) (r : Int) (d : Bool) (lb li lr lt : Int) (k1 k2 : Nat) (la lc ld le : Int) (w : World) (m : Int) (f1 f2 f3 f4 : Nat) (hkF : jkindsF k = some (m, f1, f2, f3, f4)) (e1 : entB Tryz.prog f1 = true) (e2 : entB Tryz.prog f2 = true) (k' n' : Int) (a' : Nat → Nat) (f' t' : Int) (fk' tk' : Nat) (r' : Int) (d' : Bool) (cN : ∀ W, Calls Tryz.prog f1 #[redV k n a f t fk tk r d] W fun x w' => x = .returned (redV k' n' a' f' t' fk' tk' r' d') ∧ Below W.heap.size W w') (hs : sameR k' n' a' f' t' fk' tk' r' d' k n a f t fk tk r d) (hn : 1 ≤ n ∧ n ≤ li) (cM : ∀ W, Below w.heap.size w W → Calls Tryz.prog f2 #[unRV k n a f t fk tk r d lb li lr lt k1 k2 la lc ld le] W fun x w' => x = .returned (.bool true) ∧ Below W.heap.size W w') : Calls Tryz.prog 28 #[layV lb li lr lt k1 k2 la lc ld le, redV k n a f t fk tk r d] w fun x w' => x = .returned (jkdV (m, f1, f2, f3, f4)) ∧ Below w.heap.size w w' := by
  have q := Below.refl w.heap.size w
  refine X.fn Tryz.func28 rfl (n := 43) rfl rfl ?_
  refine Zr ?_
  refine LL.box (jlyL lb li lr lt k1 k2 la lc ld le) rfl rfl rfl rfl rfl ?_
  intro W2 g3 eg3 r4 z5 b1
  replace q := Zu q b1; have l6 := r4.lt
  refine LL.box (redL k n a f t fk tk r d) rfl rfl rfl rfl rfl ?_
  intro W8 g9 eg9 r10 z11 b7
  replace r4 := r4.up b7; replace b1 := Zu b1 b7; replace q := Zu q b7; have l12 := r10.lt; have l13 := r4.lt
  refine LL.alloc ([.int .i64 0, Value.nilFunc, Value.nilFunc, Value.nilFunc, Value.nilFunc]) rfl rfl rfl rfl rfl ?_
  intro W15 g16 eg16 r17 z18 b14
  replace r10 := r10.up b14; replace b7 := Zu b7 b14; replace r4 := r4.up b14; replace b1 := Zu b1 b14; replace q := Zu q b14; refine Zq ?_; refine Zc ?_
  refine CC.join (fun l_ W38 => ∃ (g33 : Nat), l_ = [(0, Value.agg #[Value.int IntKind.i64 lb, Value.int IntKind.i64 li, Value.int IntKind.i64 lr, Value.int IntKind.i64 lt, Value.int IntKind.u64 ↑k1, Value.int IntKind.u64 ↑k2, Value.int IntKind.i64 la, Value.int IntKind.i64 lc, Value.int IntKind.i64 ld, Value.int IntKind.i64 le]), (1, Value.agg #[Value.int IntKind.i64 k, Value.int IntKind.i64 n, Value.int IntKind.u64 ↑(a 0), Value.int IntKind.u64 ↑(a 1), Value.int IntKind.u64 ↑(a 2), Value.int IntKind.u64 ↑(a 3), Value.int IntKind.u64 ↑(a 4), Value.int IntKind.u64 ↑(a 5), Value.int IntKind.u64 ↑(a 6), Value.int IntKind.u64 ↑(a 7), Value.int IntKind.u64 ↑(a 8), Value.int IntKind.u64 ↑(a 9), Value.int IntKind.u64 ↑(a 10), Value.int IntKind.u64 ↑(a 11), Value.int IntKind.u64 ↑(a 12), Value.int IntKind.u64 ↑(a 13), Value.int IntKind.u64 ↑(a 14), Value.int IntKind.u64 ↑(a 15), Value.int IntKind.i64 f, Value.int IntKind.i64 t, Value.int IntKind.u64 ↑fk, Value.int IntKind.u64 ↑tk, Value.int IntKind.i64 r, Value.bool d]), (2, Value.pointer (some { block := g3, off := 0 })), (3, Value.pointer (some { block := g9, off := 0 })), (4, Value.pointer (some { block := g16, off := 0 })), (5, Value.pointer (some { block := g33, off := 0 })), (6, Value.bool true)] ∧ (Below W15.heap.size W15 W38) ∧ (RowL W38 g16 74 [Value.int IntKind.i64 0, Value.nilFunc, Value.nilFunc, Value.nilFunc, Value.nilFunc]) ∧ (Below W8.heap.size W8 W38) ∧ (RowL W38 g9 28 [Value.int IntKind.i64 k, Value.int IntKind.i64 n, Value.int IntKind.u64 ↑(a 0), Value.int IntKind.u64 ↑(a 1), Value.int IntKind.u64 ↑(a 2), Value.int IntKind.u64 ↑(a 3), Value.int IntKind.u64 ↑(a 4), Value.int IntKind.u64 ↑(a 5), Value.int IntKind.u64 ↑(a 6), Value.int IntKind.u64 ↑(a 7), Value.int IntKind.u64 ↑(a 8), Value.int IntKind.u64 ↑(a 9), Value.int IntKind.u64 ↑(a 10), Value.int IntKind.u64 ↑(a 11), Value.int IntKind.u64 ↑(a 12), Value.int IntKind.u64 ↑(a 13), Value.int IntKind.u64 ↑(a 14), Value.int IntKind.u64 ↑(a 15), Value.int IntKind.i64 f, Value.int IntKind.i64 t, Value.int IntKind.u64 ↑fk, Value.int IntKind.u64 ↑tk, Value.int IntKind.i64 r, Value.bool d]) ∧ (Below W2.heap.size W2 W38) ∧ (RowL W38 g3 31 [Value.int IntKind.i64 lb, Value.int IntKind.i64 li, Value.int IntKind.i64 lr, Value.int IntKind.i64 lt, Value.int IntKind.u64 ↑k1, Value.int IntKind.u64 ↑k2, Value.int IntKind.i64 la, Value.int IntKind.i64 lc, Value.int IntKind.i64 ld, Value.int IntKind.i64 le]) ∧ (Below w.heap.size w W38) ∧ (Below w.heap.size w W38) ∧ (RowL W38 g33 74 [Value.int IntKind.i64 m, jfnV f1, jfnV f2, jfnV f3, jfnV f4]) ∧ (W15.heap.size ≤ W38.heap.size) ∧ (W15.heap.size ≤ g33)) (fun J43 => ?_) ?restJ43
  case' restJ43 =>
    clear r17
    clear b14
    clear r10
    clear b7
    clear r4
    clear b1
    clear q
    rintro _ W38 ⟨g33, rfl, b19, r17, b14, r10, b7, r4, b1, q, r34, z41, z42⟩
  refine ZT ?_; refine Zr ?_; refine Zm ?_; refine Zt ?_
  refine Zy (R.call rfl rfl rfl) (jrefuse_F _ _) ?_
  rintro e W' ⟨rfl, rfl⟩
  refine ⟨_, rfl, ?_⟩; refine Zq ?_; refine Zc ?_
  refine CC.growT 24 (by kernel_rfl) (by kernel_rfl) ?_
  refine Gf ?_
  refine Gl r34 ?_
  refine Gv r10 ?_
  refine GG.call (fun w' => (R.callV rfl rfl rfl e1)) rfl rfl (fun w' b' => (cN w').mono fun e W' h => ⟨h.1, b'.trans (h.2.mono b'.size)⟩) ?_
  refine Gv r10 ?_
  (refine GG.val (fun w' b' => R.redoT hs rfl rfl rfl) rfl rfl ?_)
  refine Gm ?_
  refine Gf ?_
  refine Gl r10 ?_
  refine Gf ?_
  refine Gf ?_
  refine Gl r4 ?_
  refine GG.call (fun w' => (R.call rfl rfl rfl)) rfl rfl (fun w' b' => (jwithin_T _ _ _ w' (by first | assumption | omega)).mono fun e W' h => ⟨h.1, h.2 ▸ b'⟩) ?_
  refine Gt ?_
  refine GG.val (fun w' b' => R.pick rfl rfl rfl) rfl rfl ?_
  refine Gm ?_
  refine Gf ?_
  refine Gl r34 ?_
  refine Gv r10 ?_
  refine Gv r4 ?_
  refine GG.val (fun w' b' => R.buildV rfl rfl (v := .agg #[Value.int IntKind.i64 k, Value.int IntKind.i64 n, Value.int IntKind.u64 ↑(a 0), Value.int IntKind.u64 ↑(a 1), Value.int IntKind.u64 ↑(a 2), Value.int IntKind.u64 ↑(a 3), Value.int IntKind.u64 ↑(a 4), Value.int IntKind.u64 ↑(a 5), Value.int IntKind.u64 ↑(a 6), Value.int IntKind.u64 ↑(a 7), Value.int IntKind.u64 ↑(a 8), Value.int IntKind.u64 ↑(a 9), Value.int IntKind.u64 ↑(a 10), Value.int IntKind.u64 ↑(a 11), Value.int IntKind.u64 ↑(a 12), Value.int IntKind.u64 ↑(a 13), Value.int IntKind.u64 ↑(a 14), Value.int IntKind.u64 ↑(a 15), Value.int IntKind.i64 f, Value.int IntKind.i64 t, Value.int IntKind.u64 ↑fk, Value.int IntKind.u64 ↑tk, Value.int IntKind.i64 r, Value.bool d, Value.int IntKind.i64 lb, Value.int IntKind.i64 li, Value.int IntKind.i64 lr, Value.int IntKind.i64 lt, Value.int IntKind.u64 ↑k1, Value.int IntKind.u64 ↑k2, Value.int IntKind.i64 la, Value.int IntKind.i64 lc, Value.int IntKind.i64 ld, Value.int IntKind.i64 le]) (fun _ => by kernel_rfl)) rfl rfl ?_
  refine GG.call (fun w' => (R.callV rfl rfl rfl e2)) rfl rfl (fun w' b' => (cM w' (q.trans (b'.mono q.size))).mono fun e W' h => ⟨h.1, b'.trans (h.2.mono b'.size)⟩) ?_
  refine Gt ?_
  refine GG.val (fun w' b' => R.pick rfl rfl rfl) rfl rfl ?_
  refine GG.nil (fun W48 b47 => ?_)
  have zb47 := b47.size; replace b19 := Zu b19 b47; replace r17 := r17.up b47; replace b14 := Zu b14 b47; replace r10 := r10.up b47; replace b7 := Zu b7 b47; replace r4 := r4.up b47; replace b1 := Zu b1 b47; replace q := Zu q b47; replace r34 := r34.up b47
  refine Zy (R.call rfl rfl rfl) (jrefuse_F _ _) ?_
  rintro e W' ⟨rfl, rfl⟩
  refine ⟨_, rfl, ?_⟩; refine Zq ?_; refine Zr ?_; refine Zv r34 ?_
  refine LL.storeN (vs := [.int .i64 m, jfnV f1, jfnV f2, jfnV f3, jfnV f4]) rfl rfl rfl rfl r17 (by exact Nat.le_of_ble_eq_true rfl) (ones_of rfl) rfl rfl ?_
  intro W50 r51 b49 z52
  have hlb49 := r17.lt
  replace r51 : RowL W50 _ 74 [.int .i64 m, jfnV f1, jfnV f2, jfnV f3, jfnV f4] := r51
  clear r17
  replace b14 := Zg b14 b49; replace r10 := Zd r10 b49; replace b7 := Zg b7 b49; replace r4 := Zd r4 b49; replace b1 := Zg b1 b49; replace q := Zg q b49; replace r34 := Zd r34 b49
  have r17 := r51
  clear r51
  refine Zq ?_; refine ZR ?_
  refine EE.retC rfl rfl (lvNc (RowL.cells0 (by assumption)) (by rfl) (by rfl)) ?_
  exact ⟨rfl, q⟩
  refine CC.freeZ (fun W_ j => j < W_.heap.size ∧ (True)) (by kernel_rfl) (by kernel_rfl) (fun W54 b53 z55 => ?_)
  replace r17 := r17.up b53; replace b14 := Zu b14 b53; replace r10 := r10.up b53; replace b7 := Zu b7 b53; replace r4 := r4.up b53; replace b1 := Zu b1 b53; replace q := Zu q b53
  have hok : Kept (fun j => j < W54.heap.size ∧ (True)) W54 W54 := Kept.refl _ _
  have fzr17 := fzRow (K := fun j => j < W54.heap.size ∧ (True)) r17 ⟨r17.lt, (by first | trivial | omega)⟩
  have fzr10 := fzRow (K := fun j => j < W54.heap.size ∧ (True)) r10 ⟨r10.lt, (by first | trivial | omega)⟩
  have fzr4 := fzRow (K := fun j => j < W54.heap.size ∧ (True)) r4 ⟨r4.lt, (by first | trivial | omega)⟩
  refine AA.pure 1 rfl hok (by kernel_rfl) (fun w' b' => R.field rfl rfl (I.fld rfl)) rfl rfl ?_
  refine AA.pure 2 rfl hok (by kernel_rfl) (fun w' b' => R.load rfl rfl (I.ld1 rfl (RowL.cell (fzr10 w' b') rfl))) rfl rfl ?_
  refine AA.two 0 7 (by kernel_rfl) ?_ ?_
  refine SR.call rfl (R.call rfl rfl rfl) rfl rfl (jkinds_any _) ?_
  rintro e W57 ⟨g59, k60, rfl, h58, b56⟩
  have zb56 := b56.size; replace b53 := Zu b53 b56; replace r17 := r17.up b56; replace b14 := Zu b14 b56; replace r10 := r10.up b56; replace b7 := Zu b7 b56; replace r4 := r4.up b56; replace b1 := Zu b1 b56; replace q := Zu q b56; replace hok := Zh hok b56; have y61 := hok.size
  refine ⟨_, rfl, hok, ?_⟩
  refine AA.two 3 7 (by kernel_rfl) ?_ ?_
  (refine SR.val rfl (R.lookKT rfl rfl jKeys (by rfl) (z := jkdZ) (by kernel_rfl) (by assumption) k rfl hkF) rfl rfl hok ?_)
  refine AA.pure 4 rfl hok (by kernel_rfl) (fun w' b' => R.move rfl rfl) rfl rfl ?_
  refine AA.pure 5 rfl hok (by kernel_rfl) (fun w' b' => R.extract rfl rfl rfl) rfl rfl ?_
  refine AA.pure 6 rfl hok (by kernel_rfl) (fun w' b' => R.extract rfl rfl rfl) rfl rfl ?_
  refine AA.one 7 (by kernel_rfl) ?_
  have l62 := r17.lt; have l63 := r10.lt; have l64 := r4.lt
  refine ZR.alloc ([.int .i64 0, Value.nilFunc, Value.nilFunc, Value.nilFunc, Value.nilFunc]) rfl rfl rfl rfl rfl rfl ?_
  intro W66 g67 eg67 r68 z69 b65
  replace h58 := h58.up b65; replace b56 := Zu b56 b65; replace b53 := Zu b53 b65; replace r17 := r17.up b65; replace b14 := Zu b14 b65; replace r10 := r10.up b65; replace b7 := Zu b7 b65; replace r4 := r4.up b65; replace b1 := Zu b1 b65; replace q := Zu q b65; replace hok := Zh hok b65; have y70 := hok.size
  refine ⟨hok, ?_⟩
  refine AA.one 8 (by kernel_rfl) ?_
  refine ZR.storeN (vs := [.int .i64 m, jfnV f1, jfnV f2, jfnV f3, jfnV f4]) rfl rfl rfl rfl rfl r68 (by exact Nat.le_of_ble_eq_true rfl) (ones_of rfl) rfl rfl ?_
  intro W72 r73 b71 z74
  have hlb71 := r68.lt
  replace r73 : RowL W72 _ 74 [.int .i64 m, jfnV f1, jfnV f2, jfnV f3, jfnV f4] := r73
  clear r68
  replace b65 := Zg b65 b71; replace b56 := Zg b56 b71; replace b53 := Zg b53 b71; replace r17 := Zd r17 b71; replace b14 := Zg b14 b71; replace r10 := Zd r10 b71; replace b7 := Zg b7 b71; replace r4 := Zd r4 b71; replace b1 := Zg b1 b71; replace q := Zg q b71; replace hok := Zo hok b71
  have r68 := r73
  clear r73
  refine ⟨hok, ?_⟩
  refine AA.pure 9 rfl hok (by kernel_rfl) (fun w' b' => R.assign rfl rfl) rfl rfl ?_
  refine AA.done rfl ?_
  clear fzr17 fzr10 fzr4 hok
  exact EE.weak (J43 _ _ ⟨_, rfl, (by first | assumption | omega), (by first | assumption | omega), (by first | assumption | omega), (by first | assumption | omega), (by first | assumption | omega), (by first | assumption | omega), (by first | assumption | omega), (by first | assumption | omega), (by first | assumption | omega), (by first | assumption | omega), (by first | assumption | omega)⟩) ⟨rfl, rfl, rfl, rfl, rfl, rfl, rfl, trivial⟩
  have l75 := r17.lt; have l76 := r10.lt; have l77 := r4.lt
  refine ZR.alloc ([.int .i64 0, Value.nilFunc, Value.nilFunc, Value.nilFunc, Value.nilFunc]) rfl rfl rfl rfl rfl rfl ?_
  intro W79 g80 eg80 r81 z82 b78
  replace h58 := h58.up b78; replace b56 := Zu b56 b78; replace b53 := Zu b53 b78; replace r17 := r17.up b78; replace b14 := Zu b14 b78; replace r10 := r10.up b78; replace b7 := Zu b7 b78; replace r4 := r4.up b78; replace b1 := Zu b1 b78; replace q := Zu q b78; replace hok := Zh hok b78; have y83 := hok.size
  refine ⟨hok, ?_⟩
  refine AA.one 3 (by kernel_rfl) ?_
  (refine SR.val rfl (R.lookKT rfl rfl jKeys (by rfl) (z := jkdZ) (by kernel_rfl) (by assumption) k rfl hkF) rfl rfl hok ?_)
  refine AA.pure 4 rfl hok (by kernel_rfl) (fun w' b' => R.move rfl rfl) rfl rfl ?_
  refine AA.pure 5 rfl hok (by kernel_rfl) (fun w' b' => R.extract rfl rfl rfl) rfl rfl ?_
  refine AA.pure 6 rfl hok (by kernel_rfl) (fun w' b' => R.extract rfl rfl rfl) rfl rfl ?_
  refine AA.one 8 (by kernel_rfl) ?_
  refine ZR.storeN (vs := [.int .i64 m, jfnV f1, jfnV f2, jfnV f3, jfnV f4]) rfl rfl rfl rfl rfl r81 (by exact Nat.le_of_ble_eq_true rfl) (ones_of rfl) rfl rfl ?_
  intro W85 r86 b84 z87
  have hlb84 := r81.lt
  replace r86 : RowL W85 _ 74 [.int .i64 m, jfnV f1, jfnV f2, jfnV f3, jfnV f4] := r86
  clear r81
  replace b78 := Zg b78 b84; replace b56 := Zg b56 b84; replace b53 := Zg b53 b84; replace r17 := Zd r17 b84; replace b14 := Zg b14 b84; replace r10 := Zd r10 b84; replace b7 := Zg b7 b84; replace r4 := Zd r4 b84; replace b1 := Zg b1 b84; replace q := Zg q b84; replace hok := Zo hok b84
  have r81 := r86
  clear r86
  refine ⟨hok, ?_⟩
  refine AA.pure 9 rfl hok (by kernel_rfl) (fun w' b' => R.assign rfl rfl) rfl rfl ?_
  refine AA.done rfl ?_
  clear fzr17 fzr10 fzr4 hok
  exact EE.weak (J43 _ _ ⟨_, rfl, (by first | assumption | omega), (by first | assumption | omega), (by first | assumption | omega), (by first | assumption | omega), (by first | assumption | omega), (by first | assumption | omega), (by first | assumption | omega), (by first | assumption | omega), (by first | assumption | omega), (by first | assumption | omega), (by first | assumption | omega)⟩) ⟨rfl, rfl, rfl, rfl, rfl, rfl, rfl, trivial⟩
  have l88 := r17.lt; have l89 := r10.lt; have l90 := r4.lt
  refine ZR.alloc ([.int .i64 0, Value.nilFunc, Value.nilFunc, Value.nilFunc, Value.nilFunc]) rfl rfl rfl rfl rfl rfl ?_
  intro W92 g93 eg93 r94 z95 b91
  replace b53 := Zu b53 b91; replace r17 := r17.up b91; replace b14 := Zu b14 b91; replace r10 := r10.up b91; replace b7 := Zu b7 b91; replace r4 := r4.up b91; replace b1 := Zu b1 b91; replace q := Zu q b91; replace hok := Zh hok b91; have y96 := hok.size
  refine ⟨hok, ?_⟩
  refine AA.one 0 (by kernel_rfl) ?_
  refine SR.call rfl (R.call rfl rfl rfl) rfl rfl (jkinds_any _) ?_
  rintro e W98 ⟨g100, k101, rfl, h99, b97⟩
  have zb97 := b97.size; replace r94 := r94.up b97; replace b91 := Zu b91 b97; replace b53 := Zu b53 b97; replace r17 := r17.up b97; replace b14 := Zu b14 b97; replace r10 := r10.up b97; replace b7 := Zu b7 b97; replace r4 := r4.up b97; replace b1 := Zu b1 b97; replace q := Zu q b97; replace hok := Zh hok b97; have y102 := hok.size
  refine ⟨_, rfl, hok, ?_⟩
  refine AA.one 3 (by kernel_rfl) ?_
  (refine SR.val rfl (R.lookKT rfl rfl jKeys (by rfl) (z := jkdZ) (by kernel_rfl) (by assumption) k rfl hkF) rfl rfl hok ?_)
  refine AA.pure 4 rfl hok (by kernel_rfl) (fun w' b' => R.move rfl rfl) rfl rfl ?_
  refine AA.pure 5 rfl hok (by kernel_rfl) (fun w' b' => R.extract rfl rfl rfl) rfl rfl ?_
  refine AA.pure 6 rfl hok (by kernel_rfl) (fun w' b' => R.extract rfl rfl rfl) rfl rfl ?_
  refine AA.one 8 (by kernel_rfl) ?_
  refine ZR.storeN (vs := [.int .i64 m, jfnV f1, jfnV f2, jfnV f3, jfnV f4]) rfl rfl rfl rfl rfl r94 (by exact Nat.le_of_ble_eq_true rfl) (ones_of rfl) rfl rfl ?_
  intro W104 r105 b103 z106
  have hlb103 := r94.lt
  replace r105 : RowL W104 _ 74 [.int .i64 m, jfnV f1, jfnV f2, jfnV f3, jfnV f4] := r105
  clear r94
  replace b91 := Zg b91 b103; replace b53 := Zg b53 b103; replace r17 := Zd r17 b103; replace b14 := Zg b14 b103; replace r10 := Zd r10 b103; replace b7 := Zg b7 b103; replace r4 := Zd r4 b103; replace b1 := Zg b1 b103; replace q := Zg q b103; replace hok := Zo hok b103
  have r94 := r105
  clear r105
  refine ⟨hok, ?_⟩
  refine AA.pure 9 rfl hok (by kernel_rfl) (fun w' b' => R.assign rfl rfl) rfl rfl ?_
  refine AA.done rfl ?_
  clear fzr17 fzr10 fzr4 hok
  exact EE.weak (J43 _ _ ⟨_, rfl, (by first | assumption | omega), (by first | assumption | omega), (by first | assumption | omega), (by first | assumption | omega), (by first | assumption | omega), (by first | assumption | omega), (by first | assumption | omega), (by first | assumption | omega), (by first | assumption | omega), (by first | assumption | omega), (by first | assumption | omega)⟩) ⟨rfl, rfl, rfl, rfl, rfl, rfl, rfl, trivial⟩
theorem jcheck_gM (k n : Int) (a : Nat → Nat) (f t : Int) (fk tk : Nat) (r : Int) (d : Bool) (lb li lr lt : Int) (k1 k2 : Nat) (la lc ld le : Int) (w : World) (m : Int) (f1 f2 f3 f4 : Nat) (hkF : jkindsF k = some (m, f1, f2, f3, f4)) (e1 : entB Tryz.prog f1 = true) (e2 : entB Tryz.prog f2 = true) (k' n' : Int) (a' : Nat → Nat) (f' t' : Int) (fk' tk' : Nat) (r' : Int) (d' : Bool) (cN : ∀ W, Calls Tryz.prog f1 #[redV k n a f t fk tk r d] W fun x w' => x = .returned (redV k' n' a' f' t' fk' tk' r' d') ∧ Below W.heap.size W w') (hs : sameR k' n' a' f' t' fk' tk' r' d' k n a f t fk tk r d) (hn : 1 ≤ n ∧ n ≤ li) (cM : ∀ W, Below w.heap.size w W → Calls Tryz.prog f2 #[unRV k n a f t fk tk r d lb li lr lt k1 k2 la lc ld le] W fun x w' => x = .returned (.bool false) ∧ Below W.heap.size W w') : Calls Tryz.prog 28 #[layV lb li lr lt k1 k2 la lc ld le, redV k n a f t fk tk r d] w fun x w' => x = .panicked (chain1 (jrefV 310)) ∧ Below w.heap.size w w' := by
  have q := Below.refl w.heap.size w
  refine X.fnP Tryz.func28 rfl (n := 43) rfl rfl ?_
  refine Zr ?_
  refine LL.box (jlyL lb li lr lt k1 k2 la lc ld le) rfl rfl rfl rfl rfl ?_
  intro W2 g3 eg3 r4 z5 b1
  replace q := Zu q b1; have l6 := r4.lt
  refine LL.box (redL k n a f t fk tk r d) rfl rfl rfl rfl rfl ?_
  intro W8 g9 eg9 r10 z11 b7
  replace r4 := r4.up b7; replace b1 := Zu b1 b7; replace q := Zu q b7; have l12 := r10.lt; have l13 := r4.lt
  refine LL.alloc ([.int .i64 0, Value.nilFunc, Value.nilFunc, Value.nilFunc, Value.nilFunc]) rfl rfl rfl rfl rfl ?_
  intro W15 g16 eg16 r17 z18 b14
  replace r10 := r10.up b14; replace b7 := Zu b7 b14; replace r4 := r4.up b14; replace b1 := Zu b1 b14; replace q := Zu q b14; refine Zq ?_; refine Zc ?_
  refine CC.join (fun l_ W38 => ∃ (g33 : Nat), l_ = [(0, Value.agg #[Value.int IntKind.i64 lb, Value.int IntKind.i64 li, Value.int IntKind.i64 lr, Value.int IntKind.i64 lt, Value.int IntKind.u64 ↑k1, Value.int IntKind.u64 ↑k2, Value.int IntKind.i64 la, Value.int IntKind.i64 lc, Value.int IntKind.i64 ld, Value.int IntKind.i64 le]), (1, Value.agg #[Value.int IntKind.i64 k, Value.int IntKind.i64 n, Value.int IntKind.u64 ↑(a 0), Value.int IntKind.u64 ↑(a 1), Value.int IntKind.u64 ↑(a 2), Value.int IntKind.u64 ↑(a 3), Value.int IntKind.u64 ↑(a 4), Value.int IntKind.u64 ↑(a 5), Value.int IntKind.u64 ↑(a 6), Value.int IntKind.u64 ↑(a 7), Value.int IntKind.u64 ↑(a 8), Value.int IntKind.u64 ↑(a 9), Value.int IntKind.u64 ↑(a 10), Value.int IntKind.u64 ↑(a 11), Value.int IntKind.u64 ↑(a 12), Value.int IntKind.u64 ↑(a 13), Value.int IntKind.u64 ↑(a 14), Value.int IntKind.u64 ↑(a 15), Value.int IntKind.i64 f, Value.int IntKind.i64 t, Value.int IntKind.u64 ↑fk, Value.int IntKind.u64 ↑tk, Value.int IntKind.i64 r, Value.bool d]), (2, Value.pointer (some { block := g3, off := 0 })), (3, Value.pointer (some { block := g9, off := 0 })), (4, Value.pointer (some { block := g16, off := 0 })), (5, Value.pointer (some { block := g33, off := 0 })), (6, Value.bool true)] ∧ (Below W15.heap.size W15 W38) ∧ (RowL W38 g16 74 [Value.int IntKind.i64 0, Value.nilFunc, Value.nilFunc, Value.nilFunc, Value.nilFunc]) ∧ (Below W8.heap.size W8 W38) ∧ (RowL W38 g9 28 [Value.int IntKind.i64 k, Value.int IntKind.i64 n, Value.int IntKind.u64 ↑(a 0), Value.int IntKind.u64 ↑(a 1), Value.int IntKind.u64 ↑(a 2), Value.int IntKind.u64 ↑(a 3), Value.int IntKind.u64 ↑(a 4), Value.int IntKind.u64 ↑(a 5), Value.int IntKind.u64 ↑(a 6), Value.int IntKind.u64 ↑(a 7), Value.int IntKind.u64 ↑(a 8), Value.int IntKind.u64 ↑(a 9), Value.int IntKind.u64 ↑(a 10), Value.int IntKind.u64 ↑(a 11), Value.int IntKind.u64 ↑(a 12), Value.int IntKind.u64 ↑(a 13), Value.int IntKind.u64 ↑(a 14), Value.int IntKind.u64 ↑(a 15), Value.int IntKind.i64 f, Value.int IntKind.i64 t, Value.int IntKind.u64 ↑fk, Value.int IntKind.u64 ↑tk, Value.int IntKind.i64 r, Value.bool d]) ∧ (Below W2.heap.size W2 W38) ∧ (RowL W38 g3 31 [Value.int IntKind.i64 lb, Value.int IntKind.i64 li, Value.int IntKind.i64 lr, Value.int IntKind.i64 lt, Value.int IntKind.u64 ↑k1, Value.int IntKind.u64 ↑k2, Value.int IntKind.i64 la, Value.int IntKind.i64 lc, Value.int IntKind.i64 ld, Value.int IntKind.i64 le]) ∧ (Below w.heap.size w W38) ∧ (Below w.heap.size w W38) ∧ (RowL W38 g33 74 [Value.int IntKind.i64 m, jfnV f1, jfnV f2, jfnV f3, jfnV f4]) ∧ (W15.heap.size ≤ W38.heap.size) ∧ (W15.heap.size ≤ g33)) (fun J43 => ?_) ?restJ43
  case' restJ43 =>
    clear r17
    clear b14
    clear r10
    clear b7
    clear r4
    clear b1
    clear q
    rintro _ W38 ⟨g33, rfl, b19, r17, b14, r10, b7, r4, b1, q, r34, z41, z42⟩
  refine ZT ?_; refine Zr ?_; refine Zm ?_; refine Zt ?_
  refine Zy (R.call rfl rfl rfl) (jrefuse_F _ _) ?_
  rintro e W' ⟨rfl, rfl⟩
  refine ⟨_, rfl, ?_⟩; refine Zq ?_; refine Zc ?_
  refine CC.growT 24 (by kernel_rfl) (by kernel_rfl) ?_
  refine Gf ?_
  refine Gl r34 ?_
  refine Gv r10 ?_
  refine GG.call (fun w' => (R.callV rfl rfl rfl e1)) rfl rfl (fun w' b' => (cN w').mono fun e W' h => ⟨h.1, b'.trans (h.2.mono b'.size)⟩) ?_
  refine Gv r10 ?_
  (refine GG.val (fun w' b' => R.redoT hs rfl rfl rfl) rfl rfl ?_)
  refine Gm ?_
  refine Gf ?_
  refine Gl r10 ?_
  refine Gf ?_
  refine Gf ?_
  refine Gl r4 ?_
  refine GG.call (fun w' => (R.call rfl rfl rfl)) rfl rfl (fun w' b' => (jwithin_T _ _ _ w' (by first | assumption | omega)).mono fun e W' h => ⟨h.1, h.2 ▸ b'⟩) ?_
  refine Gt ?_
  refine GG.val (fun w' b' => R.pick rfl rfl rfl) rfl rfl ?_
  refine Gm ?_
  refine Gf ?_
  refine Gl r34 ?_
  refine Gv r10 ?_
  refine Gv r4 ?_
  refine GG.val (fun w' b' => R.buildV rfl rfl (v := .agg #[Value.int IntKind.i64 k, Value.int IntKind.i64 n, Value.int IntKind.u64 ↑(a 0), Value.int IntKind.u64 ↑(a 1), Value.int IntKind.u64 ↑(a 2), Value.int IntKind.u64 ↑(a 3), Value.int IntKind.u64 ↑(a 4), Value.int IntKind.u64 ↑(a 5), Value.int IntKind.u64 ↑(a 6), Value.int IntKind.u64 ↑(a 7), Value.int IntKind.u64 ↑(a 8), Value.int IntKind.u64 ↑(a 9), Value.int IntKind.u64 ↑(a 10), Value.int IntKind.u64 ↑(a 11), Value.int IntKind.u64 ↑(a 12), Value.int IntKind.u64 ↑(a 13), Value.int IntKind.u64 ↑(a 14), Value.int IntKind.u64 ↑(a 15), Value.int IntKind.i64 f, Value.int IntKind.i64 t, Value.int IntKind.u64 ↑fk, Value.int IntKind.u64 ↑tk, Value.int IntKind.i64 r, Value.bool d, Value.int IntKind.i64 lb, Value.int IntKind.i64 li, Value.int IntKind.i64 lr, Value.int IntKind.i64 lt, Value.int IntKind.u64 ↑k1, Value.int IntKind.u64 ↑k2, Value.int IntKind.i64 la, Value.int IntKind.i64 lc, Value.int IntKind.i64 ld, Value.int IntKind.i64 le]) (fun _ => by kernel_rfl)) rfl rfl ?_
  refine GG.call (fun w' => (R.callV rfl rfl rfl e2)) rfl rfl (fun w' b' => (cM w' (q.trans (b'.mono q.size))).mono fun e W' h => ⟨h.1, b'.trans (h.2.mono b'.size)⟩) ?_
  refine Gt ?_
  refine GG.val (fun w' b' => R.pick rfl rfl rfl) rfl rfl ?_
  refine GG.nil (fun W48 b47 => ?_)
  have zb47 := b47.size; replace b19 := Zu b19 b47; replace r17 := r17.up b47; replace b14 := Zu b14 b47; replace r10 := r10.up b47; replace b7 := Zu b7 b47; replace r4 := r4.up b47; replace b1 := Zu b1 b47; replace q := Zu q b47; replace r34 := r34.up b47
  refine LL.callP (R.call rfl rfl rfl) rfl rfl (jrefuse_T _ _) ?_
  rintro e W50 ⟨rfl, rfl⟩
  refine ⟨_, rfl, ?_⟩; refine EE.thenP ?_; refine EE.panM ?_
  exact ⟨rfl, q⟩
  refine CC.freeZ (fun W_ j => j < W_.heap.size ∧ (True)) (by kernel_rfl) (by kernel_rfl) (fun W52 b51 z53 => ?_)
  replace r17 := r17.up b51; replace b14 := Zu b14 b51; replace r10 := r10.up b51; replace b7 := Zu b7 b51; replace r4 := r4.up b51; replace b1 := Zu b1 b51; replace q := Zu q b51
  have hok : Kept (fun j => j < W52.heap.size ∧ (True)) W52 W52 := Kept.refl _ _
  have fzr17 := fzRow (K := fun j => j < W52.heap.size ∧ (True)) r17 ⟨r17.lt, (by first | trivial | omega)⟩
  have fzr10 := fzRow (K := fun j => j < W52.heap.size ∧ (True)) r10 ⟨r10.lt, (by first | trivial | omega)⟩
  have fzr4 := fzRow (K := fun j => j < W52.heap.size ∧ (True)) r4 ⟨r4.lt, (by first | trivial | omega)⟩
  refine AA.pure 1 rfl hok (by kernel_rfl) (fun w' b' => R.field rfl rfl (I.fld rfl)) rfl rfl ?_
  refine AA.pure 2 rfl hok (by kernel_rfl) (fun w' b' => R.load rfl rfl (I.ld1 rfl (RowL.cell (fzr10 w' b') rfl))) rfl rfl ?_
  refine AA.two 0 7 (by kernel_rfl) ?_ ?_
  refine SR.call rfl (R.call rfl rfl rfl) rfl rfl (jkinds_any _) ?_
  rintro e W55 ⟨g57, k58, rfl, h56, b54⟩
  have zb54 := b54.size; replace b51 := Zu b51 b54; replace r17 := r17.up b54; replace b14 := Zu b14 b54; replace r10 := r10.up b54; replace b7 := Zu b7 b54; replace r4 := r4.up b54; replace b1 := Zu b1 b54; replace q := Zu q b54; replace hok := Zh hok b54; have y59 := hok.size
  refine ⟨_, rfl, hok, ?_⟩
  refine AA.two 3 7 (by kernel_rfl) ?_ ?_
  (refine SR.val rfl (R.lookKT rfl rfl jKeys (by rfl) (z := jkdZ) (by kernel_rfl) (by assumption) k rfl hkF) rfl rfl hok ?_)
  refine AA.pure 4 rfl hok (by kernel_rfl) (fun w' b' => R.move rfl rfl) rfl rfl ?_
  refine AA.pure 5 rfl hok (by kernel_rfl) (fun w' b' => R.extract rfl rfl rfl) rfl rfl ?_
  refine AA.pure 6 rfl hok (by kernel_rfl) (fun w' b' => R.extract rfl rfl rfl) rfl rfl ?_
  refine AA.one 7 (by kernel_rfl) ?_
  have l60 := r17.lt; have l61 := r10.lt; have l62 := r4.lt
  refine ZR.alloc ([.int .i64 0, Value.nilFunc, Value.nilFunc, Value.nilFunc, Value.nilFunc]) rfl rfl rfl rfl rfl rfl ?_
  intro W64 g65 eg65 r66 z67 b63
  replace h56 := h56.up b63; replace b54 := Zu b54 b63; replace b51 := Zu b51 b63; replace r17 := r17.up b63; replace b14 := Zu b14 b63; replace r10 := r10.up b63; replace b7 := Zu b7 b63; replace r4 := r4.up b63; replace b1 := Zu b1 b63; replace q := Zu q b63; replace hok := Zh hok b63; have y68 := hok.size
  refine ⟨hok, ?_⟩
  refine AA.one 8 (by kernel_rfl) ?_
  refine ZR.storeN (vs := [.int .i64 m, jfnV f1, jfnV f2, jfnV f3, jfnV f4]) rfl rfl rfl rfl rfl r66 (by exact Nat.le_of_ble_eq_true rfl) (ones_of rfl) rfl rfl ?_
  intro W70 r71 b69 z72
  have hlb69 := r66.lt
  replace r71 : RowL W70 _ 74 [.int .i64 m, jfnV f1, jfnV f2, jfnV f3, jfnV f4] := r71
  clear r66
  replace b63 := Zg b63 b69; replace b54 := Zg b54 b69; replace b51 := Zg b51 b69; replace r17 := Zd r17 b69; replace b14 := Zg b14 b69; replace r10 := Zd r10 b69; replace b7 := Zg b7 b69; replace r4 := Zd r4 b69; replace b1 := Zg b1 b69; replace q := Zg q b69; replace hok := Zo hok b69
  have r66 := r71
  clear r71
  refine ⟨hok, ?_⟩
  refine AA.pure 9 rfl hok (by kernel_rfl) (fun w' b' => R.assign rfl rfl) rfl rfl ?_
  refine AA.done rfl ?_
  clear fzr17 fzr10 fzr4 hok
  exact EE.weak (J43 _ _ ⟨_, rfl, (by first | assumption | omega), (by first | assumption | omega), (by first | assumption | omega), (by first | assumption | omega), (by first | assumption | omega), (by first | assumption | omega), (by first | assumption | omega), (by first | assumption | omega), (by first | assumption | omega), (by first | assumption | omega), (by first | assumption | omega)⟩) ⟨rfl, rfl, rfl, rfl, rfl, rfl, rfl, trivial⟩
  have l73 := r17.lt; have l74 := r10.lt; have l75 := r4.lt
  refine ZR.alloc ([.int .i64 0, Value.nilFunc, Value.nilFunc, Value.nilFunc, Value.nilFunc]) rfl rfl rfl rfl rfl rfl ?_
  intro W77 g78 eg78 r79 z80 b76
  replace h56 := h56.up b76; replace b54 := Zu b54 b76; replace b51 := Zu b51 b76; replace r17 := r17.up b76; replace b14 := Zu b14 b76; replace r10 := r10.up b76; replace b7 := Zu b7 b76; replace r4 := r4.up b76; replace b1 := Zu b1 b76; replace q := Zu q b76; replace hok := Zh hok b76; have y81 := hok.size
  refine ⟨hok, ?_⟩
  refine AA.one 3 (by kernel_rfl) ?_
  (refine SR.val rfl (R.lookKT rfl rfl jKeys (by rfl) (z := jkdZ) (by kernel_rfl) (by assumption) k rfl hkF) rfl rfl hok ?_)
  refine AA.pure 4 rfl hok (by kernel_rfl) (fun w' b' => R.move rfl rfl) rfl rfl ?_
  refine AA.pure 5 rfl hok (by kernel_rfl) (fun w' b' => R.extract rfl rfl rfl) rfl rfl ?_
  refine AA.pure 6 rfl hok (by kernel_rfl) (fun w' b' => R.extract rfl rfl rfl) rfl rfl ?_
  refine AA.one 8 (by kernel_rfl) ?_
  refine ZR.storeN (vs := [.int .i64 m, jfnV f1, jfnV f2, jfnV f3, jfnV f4]) rfl rfl rfl rfl rfl r79 (by exact Nat.le_of_ble_eq_true rfl) (ones_of rfl) rfl rfl ?_
  intro W83 r84 b82 z85
  have hlb82 := r79.lt
  replace r84 : RowL W83 _ 74 [.int .i64 m, jfnV f1, jfnV f2, jfnV f3, jfnV f4] := r84
  clear r79
  replace b76 := Zg b76 b82; replace b54 := Zg b54 b82; replace b51 := Zg b51 b82; replace r17 := Zd r17 b82; replace b14 := Zg b14 b82; replace r10 := Zd r10 b82; replace b7 := Zg b7 b82; replace r4 := Zd r4 b82; replace b1 := Zg b1 b82; replace q := Zg q b82; replace hok := Zo hok b82
  have r79 := r84
  clear r84
  refine ⟨hok, ?_⟩
  refine AA.pure 9 rfl hok (by kernel_rfl) (fun w' b' => R.assign rfl rfl) rfl rfl ?_
  refine AA.done rfl ?_
  clear fzr17 fzr10 fzr4 hok
  exact EE.weak (J43 _ _ ⟨_, rfl, (by first | assumption | omega), (by first | assumption | omega), (by first | assumption | omega), (by first | assumption | omega), (by first | assumption | omega), (by first | assumption | omega), (by first | assumption | omega), (by first | assumption | omega), (by first | assumption | omega), (by first | assumption | omega), (by first | assumption | omega)⟩) ⟨rfl, rfl, rfl, rfl, rfl, rfl, rfl, trivial⟩
  have l86 := r17.lt; have l87 := r10.lt; have l88 := r4.lt
  refine ZR.alloc ([.int .i64 0, Value.nilFunc, Value.nilFunc, Value.nilFunc, Value.nilFunc]) rfl rfl rfl rfl rfl rfl ?_
  intro W90 g91 eg91 r92 z93 b89
  replace b51 := Zu b51 b89; replace r17 := r17.up b89; replace b14 := Zu b14 b89; replace r10 := r10.up b89; replace b7 := Zu b7 b89; replace r4 := r4.up b89; replace b1 := Zu b1 b89; replace q := Zu q b89; replace hok := Zh hok b89; have y94 := hok.size
  refine ⟨hok, ?_⟩
  refine AA.one 0 (by kernel_rfl) ?_
  refine SR.call rfl (R.call rfl rfl rfl) rfl rfl (jkinds_any _) ?_
  rintro e W96 ⟨g98, k99, rfl, h97, b95⟩
  have zb95 := b95.size; replace r92 := r92.up b95; replace b89 := Zu b89 b95; replace b51 := Zu b51 b95; replace r17 := r17.up b95; replace b14 := Zu b14 b95; replace r10 := r10.up b95; replace b7 := Zu b7 b95; replace r4 := r4.up b95; replace b1 := Zu b1 b95; replace q := Zu q b95; replace hok := Zh hok b95; have y100 := hok.size
  refine ⟨_, rfl, hok, ?_⟩
  refine AA.one 3 (by kernel_rfl) ?_
  (refine SR.val rfl (R.lookKT rfl rfl jKeys (by rfl) (z := jkdZ) (by kernel_rfl) (by assumption) k rfl hkF) rfl rfl hok ?_)
  refine AA.pure 4 rfl hok (by kernel_rfl) (fun w' b' => R.move rfl rfl) rfl rfl ?_
  refine AA.pure 5 rfl hok (by kernel_rfl) (fun w' b' => R.extract rfl rfl rfl) rfl rfl ?_
  refine AA.pure 6 rfl hok (by kernel_rfl) (fun w' b' => R.extract rfl rfl rfl) rfl rfl ?_
  refine AA.one 8 (by kernel_rfl) ?_
  refine ZR.storeN (vs := [.int .i64 m, jfnV f1, jfnV f2, jfnV f3, jfnV f4]) rfl rfl rfl rfl rfl r92 (by exact Nat.le_of_ble_eq_true rfl) (ones_of rfl) rfl rfl ?_
  intro W102 r103 b101 z104
  have hlb101 := r92.lt
  replace r103 : RowL W102 _ 74 [.int .i64 m, jfnV f1, jfnV f2, jfnV f3, jfnV f4] := r103
  clear r92
  replace b89 := Zg b89 b101; replace b51 := Zg b51 b101; replace r17 := Zd r17 b101; replace b14 := Zg b14 b101; replace r10 := Zd r10 b101; replace b7 := Zg b7 b101; replace r4 := Zd r4 b101; replace b1 := Zg b1 b101; replace q := Zg q b101; replace hok := Zo hok b101
  have r92 := r103
  clear r103
  refine ⟨hok, ?_⟩
  refine AA.pure 9 rfl hok (by kernel_rfl) (fun w' b' => R.assign rfl rfl) rfl rfl ?_
  refine AA.done rfl ?_
  clear fzr17 fzr10 fzr4 hok
  exact EE.weak (J43 _ _ ⟨_, rfl, (by first | assumption | omega), (by first | assumption | omega), (by first | assumption | omega), (by first | assumption | omega), (by first | assumption | omega), (by first | assumption | omega), (by first | assumption | omega), (by first | assumption | omega), (by first | assumption | omega), (by first | assumption | omega), (by first | assumption | omega)⟩) ⟨rfl, rfl, rfl, rfl, rfl, rfl, rfl, trivial⟩
theorem jcheck_gI (k n : Int) (a : Nat → Nat) (f t : Int) (fk tk : Nat) (r : Int) (d : Bool) (lb li lr lt : Int) (k1 k2 : Nat) (la lc ld le : Int) (w : World) (m : Int) (f1 f2 f3 f4 : Nat) (hkF : jkindsF k = some (m, f1, f2, f3, f4)) (e1 : entB Tryz.prog f1 = true) (e2 : entB Tryz.prog f2 = true) (k' n' : Int) (a' : Nat → Nat) (f' t' : Int) (fk' tk' : Nat) (r' : Int) (d' : Bool) (cN : ∀ W, Calls Tryz.prog f1 #[redV k n a f t fk tk r d] W fun x w' => x = .returned (redV k' n' a' f' t' fk' tk' r' d') ∧ Below W.heap.size W w') (hs : sameR k' n' a' f' t' fk' tk' r' d' k n a f t fk tk r d) (hn : n < 1 ∨ li < n) : Calls Tryz.prog 28 #[layV lb li lr lt k1 k2 la lc ld le, redV k n a f t fk tk r d] w fun x w' => x = .panicked (chain1 (jrefV 310)) ∧ Below w.heap.size w w' := by
  have q := Below.refl w.heap.size w
  refine X.fnP Tryz.func28 rfl (n := 43) rfl rfl ?_
  refine Zr ?_
  refine LL.box (jlyL lb li lr lt k1 k2 la lc ld le) rfl rfl rfl rfl rfl ?_
  intro W2 g3 eg3 r4 z5 b1
  replace q := Zu q b1; have l6 := r4.lt
  refine LL.box (redL k n a f t fk tk r d) rfl rfl rfl rfl rfl ?_
  intro W8 g9 eg9 r10 z11 b7
  replace r4 := r4.up b7; replace b1 := Zu b1 b7; replace q := Zu q b7; have l12 := r10.lt; have l13 := r4.lt
  refine LL.alloc ([.int .i64 0, Value.nilFunc, Value.nilFunc, Value.nilFunc, Value.nilFunc]) rfl rfl rfl rfl rfl ?_
  intro W15 g16 eg16 r17 z18 b14
  replace r10 := r10.up b14; replace b7 := Zu b7 b14; replace r4 := r4.up b14; replace b1 := Zu b1 b14; replace q := Zu q b14; refine Zq ?_; refine Zc ?_
  refine CC.join (fun l_ W38 => ∃ (g33 : Nat), l_ = [(0, Value.agg #[Value.int IntKind.i64 lb, Value.int IntKind.i64 li, Value.int IntKind.i64 lr, Value.int IntKind.i64 lt, Value.int IntKind.u64 ↑k1, Value.int IntKind.u64 ↑k2, Value.int IntKind.i64 la, Value.int IntKind.i64 lc, Value.int IntKind.i64 ld, Value.int IntKind.i64 le]), (1, Value.agg #[Value.int IntKind.i64 k, Value.int IntKind.i64 n, Value.int IntKind.u64 ↑(a 0), Value.int IntKind.u64 ↑(a 1), Value.int IntKind.u64 ↑(a 2), Value.int IntKind.u64 ↑(a 3), Value.int IntKind.u64 ↑(a 4), Value.int IntKind.u64 ↑(a 5), Value.int IntKind.u64 ↑(a 6), Value.int IntKind.u64 ↑(a 7), Value.int IntKind.u64 ↑(a 8), Value.int IntKind.u64 ↑(a 9), Value.int IntKind.u64 ↑(a 10), Value.int IntKind.u64 ↑(a 11), Value.int IntKind.u64 ↑(a 12), Value.int IntKind.u64 ↑(a 13), Value.int IntKind.u64 ↑(a 14), Value.int IntKind.u64 ↑(a 15), Value.int IntKind.i64 f, Value.int IntKind.i64 t, Value.int IntKind.u64 ↑fk, Value.int IntKind.u64 ↑tk, Value.int IntKind.i64 r, Value.bool d]), (2, Value.pointer (some { block := g3, off := 0 })), (3, Value.pointer (some { block := g9, off := 0 })), (4, Value.pointer (some { block := g16, off := 0 })), (5, Value.pointer (some { block := g33, off := 0 })), (6, Value.bool true)] ∧ (Below W15.heap.size W15 W38) ∧ (RowL W38 g16 74 [Value.int IntKind.i64 0, Value.nilFunc, Value.nilFunc, Value.nilFunc, Value.nilFunc]) ∧ (Below W8.heap.size W8 W38) ∧ (RowL W38 g9 28 [Value.int IntKind.i64 k, Value.int IntKind.i64 n, Value.int IntKind.u64 ↑(a 0), Value.int IntKind.u64 ↑(a 1), Value.int IntKind.u64 ↑(a 2), Value.int IntKind.u64 ↑(a 3), Value.int IntKind.u64 ↑(a 4), Value.int IntKind.u64 ↑(a 5), Value.int IntKind.u64 ↑(a 6), Value.int IntKind.u64 ↑(a 7), Value.int IntKind.u64 ↑(a 8), Value.int IntKind.u64 ↑(a 9), Value.int IntKind.u64 ↑(a 10), Value.int IntKind.u64 ↑(a 11), Value.int IntKind.u64 ↑(a 12), Value.int IntKind.u64 ↑(a 13), Value.int IntKind.u64 ↑(a 14), Value.int IntKind.u64 ↑(a 15), Value.int IntKind.i64 f, Value.int IntKind.i64 t, Value.int IntKind.u64 ↑fk, Value.int IntKind.u64 ↑tk, Value.int IntKind.i64 r, Value.bool d]) ∧ (Below W2.heap.size W2 W38) ∧ (RowL W38 g3 31 [Value.int IntKind.i64 lb, Value.int IntKind.i64 li, Value.int IntKind.i64 lr, Value.int IntKind.i64 lt, Value.int IntKind.u64 ↑k1, Value.int IntKind.u64 ↑k2, Value.int IntKind.i64 la, Value.int IntKind.i64 lc, Value.int IntKind.i64 ld, Value.int IntKind.i64 le]) ∧ (Below w.heap.size w W38) ∧ (Below w.heap.size w W38) ∧ (RowL W38 g33 74 [Value.int IntKind.i64 m, jfnV f1, jfnV f2, jfnV f3, jfnV f4]) ∧ (W15.heap.size ≤ W38.heap.size) ∧ (W15.heap.size ≤ g33)) (fun J43 => ?_) ?restJ43
  case' restJ43 =>
    clear r17
    clear b14
    clear r10
    clear b7
    clear r4
    clear b1
    clear q
    rintro _ W38 ⟨g33, rfl, b19, r17, b14, r10, b7, r4, b1, q, r34, z41, z42⟩
  refine ZT ?_; refine Zr ?_; refine Zm ?_; refine Zt ?_
  refine Zy (R.call rfl rfl rfl) (jrefuse_F _ _) ?_
  rintro e W' ⟨rfl, rfl⟩
  refine ⟨_, rfl, ?_⟩; refine Zq ?_; refine Zc ?_
  refine CC.growT 24 (by kernel_rfl) (by kernel_rfl) ?_
  refine Gf ?_
  refine Gl r34 ?_
  refine Gv r10 ?_
  refine GG.call (fun w' => (R.callV rfl rfl rfl e1)) rfl rfl (fun w' b' => (cN w').mono fun e W' h => ⟨h.1, b'.trans (h.2.mono b'.size)⟩) ?_
  refine Gv r10 ?_
  (refine GG.val (fun w' b' => R.redoT hs rfl rfl rfl) rfl rfl ?_)
  refine Gm ?_
  refine Gf ?_
  refine Gl r10 ?_
  refine Gf ?_
  refine Gf ?_
  refine Gl r4 ?_
  refine GG.call (fun w' => (R.call rfl rfl rfl)) rfl rfl (fun w' b' => (jwithin_F _ _ _ w' (by first | assumption | omega)).mono fun e W' h => ⟨h.1, h.2 ▸ b'⟩) ?_
  refine Gt ?_
  refine GG.val (fun w' b' => R.pick rfl rfl rfl) rfl rfl ?_
  refine Gm ?_
  refine GG.skip rfl rfl ?_
  refine GG.skip rfl rfl ?_
  refine GG.skip rfl rfl ?_
  refine GG.skip rfl rfl ?_
  refine GG.skip rfl rfl ?_
  refine GG.skip rfl rfl ?_
  refine GG.skip rfl rfl ?_
  refine GG.val (fun w' b' => R.pick rfl rfl rfl) rfl rfl ?_
  refine GG.nil (fun W48 b47 => ?_)
  have zb47 := b47.size; replace b19 := Zu b19 b47; replace r17 := r17.up b47; replace b14 := Zu b14 b47; replace r10 := r10.up b47; replace b7 := Zu b7 b47; replace r4 := r4.up b47; replace b1 := Zu b1 b47; replace q := Zu q b47; replace r34 := r34.up b47
  refine LL.callP (R.call rfl rfl rfl) rfl rfl (jrefuse_T _ _) ?_
  rintro e W50 ⟨rfl, rfl⟩
  refine ⟨_, rfl, ?_⟩; refine EE.thenP ?_; refine EE.panM ?_
  exact ⟨rfl, q⟩
  refine CC.freeZ (fun W_ j => j < W_.heap.size ∧ (True)) (by kernel_rfl) (by kernel_rfl) (fun W52 b51 z53 => ?_)
  replace r17 := r17.up b51; replace b14 := Zu b14 b51; replace r10 := r10.up b51; replace b7 := Zu b7 b51; replace r4 := r4.up b51; replace b1 := Zu b1 b51; replace q := Zu q b51
  have hok : Kept (fun j => j < W52.heap.size ∧ (True)) W52 W52 := Kept.refl _ _
  have fzr17 := fzRow (K := fun j => j < W52.heap.size ∧ (True)) r17 ⟨r17.lt, (by first | trivial | omega)⟩
  have fzr10 := fzRow (K := fun j => j < W52.heap.size ∧ (True)) r10 ⟨r10.lt, (by first | trivial | omega)⟩
  have fzr4 := fzRow (K := fun j => j < W52.heap.size ∧ (True)) r4 ⟨r4.lt, (by first | trivial | omega)⟩
  refine AA.pure 1 rfl hok (by kernel_rfl) (fun w' b' => R.field rfl rfl (I.fld rfl)) rfl rfl ?_
  refine AA.pure 2 rfl hok (by kernel_rfl) (fun w' b' => R.load rfl rfl (I.ld1 rfl (RowL.cell (fzr10 w' b') rfl))) rfl rfl ?_
  refine AA.two 0 7 (by kernel_rfl) ?_ ?_
  refine SR.call rfl (R.call rfl rfl rfl) rfl rfl (jkinds_any _) ?_
  rintro e W55 ⟨g57, k58, rfl, h56, b54⟩
  have zb54 := b54.size; replace b51 := Zu b51 b54; replace r17 := r17.up b54; replace b14 := Zu b14 b54; replace r10 := r10.up b54; replace b7 := Zu b7 b54; replace r4 := r4.up b54; replace b1 := Zu b1 b54; replace q := Zu q b54; replace hok := Zh hok b54; have y59 := hok.size
  refine ⟨_, rfl, hok, ?_⟩
  refine AA.two 3 7 (by kernel_rfl) ?_ ?_
  (refine SR.val rfl (R.lookKT rfl rfl jKeys (by rfl) (z := jkdZ) (by kernel_rfl) (by assumption) k rfl hkF) rfl rfl hok ?_)
  refine AA.pure 4 rfl hok (by kernel_rfl) (fun w' b' => R.move rfl rfl) rfl rfl ?_
  refine AA.pure 5 rfl hok (by kernel_rfl) (fun w' b' => R.extract rfl rfl rfl) rfl rfl ?_
  refine AA.pure 6 rfl hok (by kernel_rfl) (fun w' b' => R.extract rfl rfl rfl) rfl rfl ?_
  refine AA.one 7 (by kernel_rfl) ?_
  have l60 := r17.lt; have l61 := r10.lt; have l62 := r4.lt
  refine ZR.alloc ([.int .i64 0, Value.nilFunc, Value.nilFunc, Value.nilFunc, Value.nilFunc]) rfl rfl rfl rfl rfl rfl ?_
  intro W64 g65 eg65 r66 z67 b63
  replace h56 := h56.up b63; replace b54 := Zu b54 b63; replace b51 := Zu b51 b63; replace r17 := r17.up b63; replace b14 := Zu b14 b63; replace r10 := r10.up b63; replace b7 := Zu b7 b63; replace r4 := r4.up b63; replace b1 := Zu b1 b63; replace q := Zu q b63; replace hok := Zh hok b63; have y68 := hok.size
  refine ⟨hok, ?_⟩
  refine AA.one 8 (by kernel_rfl) ?_
  refine ZR.storeN (vs := [.int .i64 m, jfnV f1, jfnV f2, jfnV f3, jfnV f4]) rfl rfl rfl rfl rfl r66 (by exact Nat.le_of_ble_eq_true rfl) (ones_of rfl) rfl rfl ?_
  intro W70 r71 b69 z72
  have hlb69 := r66.lt
  replace r71 : RowL W70 _ 74 [.int .i64 m, jfnV f1, jfnV f2, jfnV f3, jfnV f4] := r71
  clear r66
  replace b63 := Zg b63 b69; replace b54 := Zg b54 b69; replace b51 := Zg b51 b69; replace r17 := Zd r17 b69; replace b14 := Zg b14 b69; replace r10 := Zd r10 b69; replace b7 := Zg b7 b69; replace r4 := Zd r4 b69; replace b1 := Zg b1 b69; replace q := Zg q b69; replace hok := Zo hok b69
  have r66 := r71
  clear r71
  refine ⟨hok, ?_⟩
  refine AA.pure 9 rfl hok (by kernel_rfl) (fun w' b' => R.assign rfl rfl) rfl rfl ?_
  refine AA.done rfl ?_
  clear fzr17 fzr10 fzr4 hok
  exact EE.weak (J43 _ _ ⟨_, rfl, (by first | assumption | omega), (by first | assumption | omega), (by first | assumption | omega), (by first | assumption | omega), (by first | assumption | omega), (by first | assumption | omega), (by first | assumption | omega), (by first | assumption | omega), (by first | assumption | omega), (by first | assumption | omega), (by first | assumption | omega)⟩) ⟨rfl, rfl, rfl, rfl, rfl, rfl, rfl, trivial⟩
  have l73 := r17.lt; have l74 := r10.lt; have l75 := r4.lt
  refine ZR.alloc ([.int .i64 0, Value.nilFunc, Value.nilFunc, Value.nilFunc, Value.nilFunc]) rfl rfl rfl rfl rfl rfl ?_
  intro W77 g78 eg78 r79 z80 b76
  replace h56 := h56.up b76; replace b54 := Zu b54 b76; replace b51 := Zu b51 b76; replace r17 := r17.up b76; replace b14 := Zu b14 b76; replace r10 := r10.up b76; replace b7 := Zu b7 b76; replace r4 := r4.up b76; replace b1 := Zu b1 b76; replace q := Zu q b76; replace hok := Zh hok b76; have y81 := hok.size
  refine ⟨hok, ?_⟩
  refine AA.one 3 (by kernel_rfl) ?_
  (refine SR.val rfl (R.lookKT rfl rfl jKeys (by rfl) (z := jkdZ) (by kernel_rfl) (by assumption) k rfl hkF) rfl rfl hok ?_)
  refine AA.pure 4 rfl hok (by kernel_rfl) (fun w' b' => R.move rfl rfl) rfl rfl ?_
  refine AA.pure 5 rfl hok (by kernel_rfl) (fun w' b' => R.extract rfl rfl rfl) rfl rfl ?_
  refine AA.pure 6 rfl hok (by kernel_rfl) (fun w' b' => R.extract rfl rfl rfl) rfl rfl ?_
  refine AA.one 8 (by kernel_rfl) ?_
  refine ZR.storeN (vs := [.int .i64 m, jfnV f1, jfnV f2, jfnV f3, jfnV f4]) rfl rfl rfl rfl rfl r79 (by exact Nat.le_of_ble_eq_true rfl) (ones_of rfl) rfl rfl ?_
  intro W83 r84 b82 z85
  have hlb82 := r79.lt
  replace r84 : RowL W83 _ 74 [.int .i64 m, jfnV f1, jfnV f2, jfnV f3, jfnV f4] := r84
  clear r79
  replace b76 := Zg b76 b82; replace b54 := Zg b54 b82; replace b51 := Zg b51 b82; replace r17 := Zd r17 b82; replace b14 := Zg b14 b82; replace r10 := Zd r10 b82; replace b7 := Zg b7 b82; replace r4 := Zd r4 b82; replace b1 := Zg b1 b82; replace q := Zg q b82; replace hok := Zo hok b82
  have r79 := r84
  clear r84
  refine ⟨hok, ?_⟩
  refine AA.pure 9 rfl hok (by kernel_rfl) (fun w' b' => R.assign rfl rfl) rfl rfl ?_
  refine AA.done rfl ?_
  clear fzr17 fzr10 fzr4 hok
  exact EE.weak (J43 _ _ ⟨_, rfl, (by first | assumption | omega), (by first | assumption | omega), (by first | assumption | omega), (by first | assumption | omega), (by first | assumption | omega), (by first | assumption | omega), (by first | assumption | omega), (by first | assumption | omega), (by first | assumption | omega), (by first | assumption | omega), (by first | assumption | omega)⟩) ⟨rfl, rfl, rfl, rfl, rfl, rfl, rfl, trivial⟩
  have l86 := r17.lt; have l87 := r10.lt; have l88 := r4.lt
  refine ZR.alloc ([.int .i64 0, Value.nilFunc, Value.nilFunc, Value.nilFunc, Value.nilFunc]) rfl rfl rfl rfl rfl rfl ?_
  intro W90 g91 eg91 r92 z93 b89
  replace b51 := Zu b51 b89; replace r17 := r17.up b89; replace b14 := Zu b14 b89; replace r10 := r10.up b89; replace b7 := Zu b7 b89; replace r4 := r4.up b89; replace b1 := Zu b1 b89; replace q := Zu q b89; replace hok := Zh hok b89; have y94 := hok.size
  refine ⟨hok, ?_⟩
  refine AA.one 0 (by kernel_rfl) ?_
  refine SR.call rfl (R.call rfl rfl rfl) rfl rfl (jkinds_any _) ?_
  rintro e W96 ⟨g98, k99, rfl, h97, b95⟩
  have zb95 := b95.size; replace r92 := r92.up b95; replace b89 := Zu b89 b95; replace b51 := Zu b51 b95; replace r17 := r17.up b95; replace b14 := Zu b14 b95; replace r10 := r10.up b95; replace b7 := Zu b7 b95; replace r4 := r4.up b95; replace b1 := Zu b1 b95; replace q := Zu q b95; replace hok := Zh hok b95; have y100 := hok.size
  refine ⟨_, rfl, hok, ?_⟩
  refine AA.one 3 (by kernel_rfl) ?_
  (refine SR.val rfl (R.lookKT rfl rfl jKeys (by rfl) (z := jkdZ) (by kernel_rfl) (by assumption) k rfl hkF) rfl rfl hok ?_)
  refine AA.pure 4 rfl hok (by kernel_rfl) (fun w' b' => R.move rfl rfl) rfl rfl ?_
  refine AA.pure 5 rfl hok (by kernel_rfl) (fun w' b' => R.extract rfl rfl rfl) rfl rfl ?_
  refine AA.pure 6 rfl hok (by kernel_rfl) (fun w' b' => R.extract rfl rfl rfl) rfl rfl ?_
  refine AA.one 8 (by kernel_rfl) ?_
  refine ZR.storeN (vs := [.int .i64 m, jfnV f1, jfnV f2, jfnV f3, jfnV f4]) rfl rfl rfl rfl rfl r92 (by exact Nat.le_of_ble_eq_true rfl) (ones_of rfl) rfl rfl ?_
  intro W102 r103 b101 z104
  have hlb101 := r92.lt
  replace r103 : RowL W102 _ 74 [.int .i64 m, jfnV f1, jfnV f2, jfnV f3, jfnV f4] := r103
  clear r92
  replace b89 := Zg b89 b101; replace b51 := Zg b51 b101; replace r17 := Zd r17 b101; replace b14 := Zg b14 b101; replace r10 := Zd r10 b101; replace b7 := Zg b7 b101; replace r4 := Zd r4 b101; replace b1 := Zg b1 b101; replace q := Zg q b101; replace hok := Zo hok b101
  have r92 := r103
  clear r103
  refine ⟨hok, ?_⟩
  refine AA.pure 9 rfl hok (by kernel_rfl) (fun w' b' => R.assign rfl rfl) rfl rfl ?_
  refine AA.done rfl ?_
  clear fzr17 fzr10 fzr4 hok
  exact EE.weak (J43 _ _ ⟨_, rfl, (by first | assumption | omega), (by first | assumption | omega), (by first | assumption | omega), (by first | assumption | omega), (by first | assumption | omega), (by first | assumption | omega), (by first | assumption | omega), (by first | assumption | omega), (by first | assumption | omega), (by first | assumption | omega), (by first | assumption | omega)⟩) ⟨rfl, rfl, rfl, rfl, rfl, rfl, rfl, trivial⟩
theorem jcheck_gN (k n : Int) (a : Nat → Nat) (f t : Int) (fk tk : Nat) (r : Int) (d : Bool) (lb li lr lt : Int) (k1 k2 : Nat) (la lc ld le : Int) (w : World) (m : Int) (f1 f2 f3 f4 : Nat) (hkF : jkindsF k = some (m, f1, f2, f3, f4)) (e1 : entB Tryz.prog f1 = true) (e2 : entB Tryz.prog f2 = true) (k' n' : Int) (a' : Nat → Nat) (f' t' : Int) (fk' tk' : Nat) (r' : Int) (d' : Bool) (cN : ∀ W, Calls Tryz.prog f1 #[redV k n a f t fk tk r d] W fun x w' => x = .returned (redV k' n' a' f' t' fk' tk' r' d') ∧ Below W.heap.size W w') (hs : ¬sameR k' n' a' f' t' fk' tk' r' d' k n a f t fk tk r d) : Calls Tryz.prog 28 #[layV lb li lr lt k1 k2 la lc ld le, redV k n a f t fk tk r d] w fun x w' => x = .panicked (chain1 (jrefV 310)) ∧ Below w.heap.size w w' := by
  have q := Below.refl w.heap.size w
  refine X.fnP Tryz.func28 rfl (n := 43) rfl rfl ?_
  refine Zr ?_
  refine LL.box (jlyL lb li lr lt k1 k2 la lc ld le) rfl rfl rfl rfl rfl ?_
  intro W2 g3 eg3 r4 z5 b1
  replace q := Zu q b1; have l6 := r4.lt
  refine LL.box (redL k n a f t fk tk r d) rfl rfl rfl rfl rfl ?_
  intro W8 g9 eg9 r10 z11 b7
  replace r4 := r4.up b7; replace b1 := Zu b1 b7; replace q := Zu q b7; have l12 := r10.lt; have l13 := r4.lt
  refine LL.alloc ([.int .i64 0, Value.nilFunc, Value.nilFunc, Value.nilFunc, Value.nilFunc]) rfl rfl rfl rfl rfl ?_
  intro W15 g16 eg16 r17 z18 b14
  replace r10 := r10.up b14; replace b7 := Zu b7 b14; replace r4 := r4.up b14; replace b1 := Zu b1 b14; replace q := Zu q b14; refine Zq ?_; refine Zc ?_
  refine CC.join (fun l_ W38 => ∃ (g33 : Nat), l_ = [(0, Value.agg #[Value.int IntKind.i64 lb, Value.int IntKind.i64 li, Value.int IntKind.i64 lr, Value.int IntKind.i64 lt, Value.int IntKind.u64 ↑k1, Value.int IntKind.u64 ↑k2, Value.int IntKind.i64 la, Value.int IntKind.i64 lc, Value.int IntKind.i64 ld, Value.int IntKind.i64 le]), (1, Value.agg #[Value.int IntKind.i64 k, Value.int IntKind.i64 n, Value.int IntKind.u64 ↑(a 0), Value.int IntKind.u64 ↑(a 1), Value.int IntKind.u64 ↑(a 2), Value.int IntKind.u64 ↑(a 3), Value.int IntKind.u64 ↑(a 4), Value.int IntKind.u64 ↑(a 5), Value.int IntKind.u64 ↑(a 6), Value.int IntKind.u64 ↑(a 7), Value.int IntKind.u64 ↑(a 8), Value.int IntKind.u64 ↑(a 9), Value.int IntKind.u64 ↑(a 10), Value.int IntKind.u64 ↑(a 11), Value.int IntKind.u64 ↑(a 12), Value.int IntKind.u64 ↑(a 13), Value.int IntKind.u64 ↑(a 14), Value.int IntKind.u64 ↑(a 15), Value.int IntKind.i64 f, Value.int IntKind.i64 t, Value.int IntKind.u64 ↑fk, Value.int IntKind.u64 ↑tk, Value.int IntKind.i64 r, Value.bool d]), (2, Value.pointer (some { block := g3, off := 0 })), (3, Value.pointer (some { block := g9, off := 0 })), (4, Value.pointer (some { block := g16, off := 0 })), (5, Value.pointer (some { block := g33, off := 0 })), (6, Value.bool true)] ∧ (Below W15.heap.size W15 W38) ∧ (RowL W38 g16 74 [Value.int IntKind.i64 0, Value.nilFunc, Value.nilFunc, Value.nilFunc, Value.nilFunc]) ∧ (Below W8.heap.size W8 W38) ∧ (RowL W38 g9 28 [Value.int IntKind.i64 k, Value.int IntKind.i64 n, Value.int IntKind.u64 ↑(a 0), Value.int IntKind.u64 ↑(a 1), Value.int IntKind.u64 ↑(a 2), Value.int IntKind.u64 ↑(a 3), Value.int IntKind.u64 ↑(a 4), Value.int IntKind.u64 ↑(a 5), Value.int IntKind.u64 ↑(a 6), Value.int IntKind.u64 ↑(a 7), Value.int IntKind.u64 ↑(a 8), Value.int IntKind.u64 ↑(a 9), Value.int IntKind.u64 ↑(a 10), Value.int IntKind.u64 ↑(a 11), Value.int IntKind.u64 ↑(a 12), Value.int IntKind.u64 ↑(a 13), Value.int IntKind.u64 ↑(a 14), Value.int IntKind.u64 ↑(a 15), Value.int IntKind.i64 f, Value.int IntKind.i64 t, Value.int IntKind.u64 ↑fk, Value.int IntKind.u64 ↑tk, Value.int IntKind.i64 r, Value.bool d]) ∧ (Below W2.heap.size W2 W38) ∧ (RowL W38 g3 31 [Value.int IntKind.i64 lb, Value.int IntKind.i64 li, Value.int IntKind.i64 lr, Value.int IntKind.i64 lt, Value.int IntKind.u64 ↑k1, Value.int IntKind.u64 ↑k2, Value.int IntKind.i64 la, Value.int IntKind.i64 lc, Value.int IntKind.i64 ld, Value.int IntKind.i64 le]) ∧ (Below w.heap.size w W38) ∧ (Below w.heap.size w W38) ∧ (RowL W38 g33 74 [Value.int IntKind.i64 m, jfnV f1, jfnV f2, jfnV f3, jfnV f4]) ∧ (W15.heap.size ≤ W38.heap.size) ∧ (W15.heap.size ≤ g33)) (fun J43 => ?_) ?restJ43
  case' restJ43 =>
    clear r17
    clear b14
    clear r10
    clear b7
    clear r4
    clear b1
    clear q
    rintro _ W38 ⟨g33, rfl, b19, r17, b14, r10, b7, r4, b1, q, r34, z41, z42⟩
  refine ZT ?_; refine Zr ?_; refine Zm ?_; refine Zt ?_
  refine Zy (R.call rfl rfl rfl) (jrefuse_F _ _) ?_
  rintro e W' ⟨rfl, rfl⟩
  refine ⟨_, rfl, ?_⟩; refine Zq ?_; refine Zc ?_
  refine CC.growT 24 (by kernel_rfl) (by kernel_rfl) ?_
  refine Gf ?_
  refine Gl r34 ?_
  refine Gv r10 ?_
  refine GG.call (fun w' => (R.callV rfl rfl rfl e1)) rfl rfl (fun w' b' => (cN w').mono fun e W' h => ⟨h.1, b'.trans (h.2.mono b'.size)⟩) ?_
  refine Gv r10 ?_
  (refine GG.val (fun w' b' => R.redoF hs rfl rfl rfl) rfl rfl ?_)
  refine Gm ?_
  refine GG.skip rfl rfl ?_
  refine GG.skip rfl rfl ?_
  refine GG.skip rfl rfl ?_
  refine GG.skip rfl rfl ?_
  refine GG.skip rfl rfl ?_
  refine GG.skip rfl rfl ?_
  refine GG.skip rfl rfl ?_
  refine GG.val (fun w' b' => R.pick rfl rfl rfl) rfl rfl ?_
  refine Gm ?_
  refine GG.skip rfl rfl ?_
  refine GG.skip rfl rfl ?_
  refine GG.skip rfl rfl ?_
  refine GG.skip rfl rfl ?_
  refine GG.skip rfl rfl ?_
  refine GG.skip rfl rfl ?_
  refine GG.skip rfl rfl ?_
  refine GG.val (fun w' b' => R.pick rfl rfl rfl) rfl rfl ?_
  refine GG.nil (fun W48 b47 => ?_)
  have zb47 := b47.size; replace b19 := Zu b19 b47; replace r17 := r17.up b47; replace b14 := Zu b14 b47; replace r10 := r10.up b47; replace b7 := Zu b7 b47; replace r4 := r4.up b47; replace b1 := Zu b1 b47; replace q := Zu q b47; replace r34 := r34.up b47
  refine LL.callP (R.call rfl rfl rfl) rfl rfl (jrefuse_T _ _) ?_
  rintro e W50 ⟨rfl, rfl⟩
  refine ⟨_, rfl, ?_⟩; refine EE.thenP ?_; refine EE.panM ?_
  exact ⟨rfl, q⟩
  refine CC.freeZ (fun W_ j => j < W_.heap.size ∧ (True)) (by kernel_rfl) (by kernel_rfl) (fun W52 b51 z53 => ?_)
  replace r17 := r17.up b51; replace b14 := Zu b14 b51; replace r10 := r10.up b51; replace b7 := Zu b7 b51; replace r4 := r4.up b51; replace b1 := Zu b1 b51; replace q := Zu q b51
  have hok : Kept (fun j => j < W52.heap.size ∧ (True)) W52 W52 := Kept.refl _ _
  have fzr17 := fzRow (K := fun j => j < W52.heap.size ∧ (True)) r17 ⟨r17.lt, (by first | trivial | omega)⟩
  have fzr10 := fzRow (K := fun j => j < W52.heap.size ∧ (True)) r10 ⟨r10.lt, (by first | trivial | omega)⟩
  have fzr4 := fzRow (K := fun j => j < W52.heap.size ∧ (True)) r4 ⟨r4.lt, (by first | trivial | omega)⟩
  refine AA.pure 1 rfl hok (by kernel_rfl) (fun w' b' => R.field rfl rfl (I.fld rfl)) rfl rfl ?_
  refine AA.pure 2 rfl hok (by kernel_rfl) (fun w' b' => R.load rfl rfl (I.ld1 rfl (RowL.cell (fzr10 w' b') rfl))) rfl rfl ?_
  refine AA.two 0 7 (by kernel_rfl) ?_ ?_
  refine SR.call rfl (R.call rfl rfl rfl) rfl rfl (jkinds_any _) ?_
  rintro e W55 ⟨g57, k58, rfl, h56, b54⟩
  have zb54 := b54.size; replace b51 := Zu b51 b54; replace r17 := r17.up b54; replace b14 := Zu b14 b54; replace r10 := r10.up b54; replace b7 := Zu b7 b54; replace r4 := r4.up b54; replace b1 := Zu b1 b54; replace q := Zu q b54; replace hok := Zh hok b54; have y59 := hok.size
  refine ⟨_, rfl, hok, ?_⟩
  refine AA.two 3 7 (by kernel_rfl) ?_ ?_
  (refine SR.val rfl (R.lookKT rfl rfl jKeys (by rfl) (z := jkdZ) (by kernel_rfl) (by assumption) k rfl hkF) rfl rfl hok ?_)
  refine AA.pure 4 rfl hok (by kernel_rfl) (fun w' b' => R.move rfl rfl) rfl rfl ?_
  refine AA.pure 5 rfl hok (by kernel_rfl) (fun w' b' => R.extract rfl rfl rfl) rfl rfl ?_
  refine AA.pure 6 rfl hok (by kernel_rfl) (fun w' b' => R.extract rfl rfl rfl) rfl rfl ?_
  refine AA.one 7 (by kernel_rfl) ?_
  have l60 := r17.lt; have l61 := r10.lt; have l62 := r4.lt
  refine ZR.alloc ([.int .i64 0, Value.nilFunc, Value.nilFunc, Value.nilFunc, Value.nilFunc]) rfl rfl rfl rfl rfl rfl ?_
  intro W64 g65 eg65 r66 z67 b63
  replace h56 := h56.up b63; replace b54 := Zu b54 b63; replace b51 := Zu b51 b63; replace r17 := r17.up b63; replace b14 := Zu b14 b63; replace r10 := r10.up b63; replace b7 := Zu b7 b63; replace r4 := r4.up b63; replace b1 := Zu b1 b63; replace q := Zu q b63; replace hok := Zh hok b63; have y68 := hok.size
  refine ⟨hok, ?_⟩
  refine AA.one 8 (by kernel_rfl) ?_
  refine ZR.storeN (vs := [.int .i64 m, jfnV f1, jfnV f2, jfnV f3, jfnV f4]) rfl rfl rfl rfl rfl r66 (by exact Nat.le_of_ble_eq_true rfl) (ones_of rfl) rfl rfl ?_
  intro W70 r71 b69 z72
  have hlb69 := r66.lt
  replace r71 : RowL W70 _ 74 [.int .i64 m, jfnV f1, jfnV f2, jfnV f3, jfnV f4] := r71
  clear r66
  replace b63 := Zg b63 b69; replace b54 := Zg b54 b69; replace b51 := Zg b51 b69; replace r17 := Zd r17 b69; replace b14 := Zg b14 b69; replace r10 := Zd r10 b69; replace b7 := Zg b7 b69; replace r4 := Zd r4 b69; replace b1 := Zg b1 b69; replace q := Zg q b69; replace hok := Zo hok b69
  have r66 := r71
  clear r71
  refine ⟨hok, ?_⟩
  refine AA.pure 9 rfl hok (by kernel_rfl) (fun w' b' => R.assign rfl rfl) rfl rfl ?_
  refine AA.done rfl ?_
  clear fzr17 fzr10 fzr4 hok
  exact EE.weak (J43 _ _ ⟨_, rfl, (by first | assumption | omega), (by first | assumption | omega), (by first | assumption | omega), (by first | assumption | omega), (by first | assumption | omega), (by first | assumption | omega), (by first | assumption | omega), (by first | assumption | omega), (by first | assumption | omega), (by first | assumption | omega), (by first | assumption | omega)⟩) ⟨rfl, rfl, rfl, rfl, rfl, rfl, rfl, trivial⟩
  have l73 := r17.lt; have l74 := r10.lt; have l75 := r4.lt
  refine ZR.alloc ([.int .i64 0, Value.nilFunc, Value.nilFunc, Value.nilFunc, Value.nilFunc]) rfl rfl rfl rfl rfl rfl ?_
  intro W77 g78 eg78 r79 z80 b76
  replace h56 := h56.up b76; replace b54 := Zu b54 b76; replace b51 := Zu b51 b76; replace r17 := r17.up b76; replace b14 := Zu b14 b76; replace r10 := r10.up b76; replace b7 := Zu b7 b76; replace r4 := r4.up b76; replace b1 := Zu b1 b76; replace q := Zu q b76; replace hok := Zh hok b76; have y81 := hok.size
  refine ⟨hok, ?_⟩
  refine AA.one 3 (by kernel_rfl) ?_
  (refine SR.val rfl (R.lookKT rfl rfl jKeys (by rfl) (z := jkdZ) (by kernel_rfl) (by assumption) k rfl hkF) rfl rfl hok ?_)
  refine AA.pure 4 rfl hok (by kernel_rfl) (fun w' b' => R.move rfl rfl) rfl rfl ?_
  refine AA.pure 5 rfl hok (by kernel_rfl) (fun w' b' => R.extract rfl rfl rfl) rfl rfl ?_
  refine AA.pure 6 rfl hok (by kernel_rfl) (fun w' b' => R.extract rfl rfl rfl) rfl rfl ?_
  refine AA.one 8 (by kernel_rfl) ?_
  refine ZR.storeN (vs := [.int .i64 m, jfnV f1, jfnV f2, jfnV f3, jfnV f4]) rfl rfl rfl rfl rfl r79 (by exact Nat.le_of_ble_eq_true rfl) (ones_of rfl) rfl rfl ?_
  intro W83 r84 b82 z85
  have hlb82 := r79.lt
  replace r84 : RowL W83 _ 74 [.int .i64 m, jfnV f1, jfnV f2, jfnV f3, jfnV f4] := r84
  clear r79
  replace b76 := Zg b76 b82; replace b54 := Zg b54 b82; replace b51 := Zg b51 b82; replace r17 := Zd r17 b82; replace b14 := Zg b14 b82; replace r10 := Zd r10 b82; replace b7 := Zg b7 b82; replace r4 := Zd r4 b82; replace b1 := Zg b1 b82; replace q := Zg q b82; replace hok := Zo hok b82
  have r79 := r84
  clear r84
  refine ⟨hok, ?_⟩
  refine AA.pure 9 rfl hok (by kernel_rfl) (fun w' b' => R.assign rfl rfl) rfl rfl ?_
  refine AA.done rfl ?_
  clear fzr17 fzr10 fzr4 hok
  exact EE.weak (J43 _ _ ⟨_, rfl, (by first | assumption | omega), (by first | assumption | omega), (by first | assumption | omega), (by first | assumption | omega), (by first | assumption | omega), (by first | assumption | omega), (by first | assumption | omega), (by first | assumption | omega), (by first | assumption | omega), (by first | assumption | omega), (by first | assumption | omega)⟩) ⟨rfl, rfl, rfl, rfl, rfl, rfl, rfl, trivial⟩
  have l86 := r17.lt; have l87 := r10.lt; have l88 := r4.lt
  refine ZR.alloc ([.int .i64 0, Value.nilFunc, Value.nilFunc, Value.nilFunc, Value.nilFunc]) rfl rfl rfl rfl rfl rfl ?_
  intro W90 g91 eg91 r92 z93 b89
  replace b51 := Zu b51 b89; replace r17 := r17.up b89; replace b14 := Zu b14 b89; replace r10 := r10.up b89; replace b7 := Zu b7 b89; replace r4 := r4.up b89; replace b1 := Zu b1 b89; replace q := Zu q b89; replace hok := Zh hok b89; have y94 := hok.size
  refine ⟨hok, ?_⟩
  refine AA.one 0 (by kernel_rfl) ?_
  refine SR.call rfl (R.call rfl rfl rfl) rfl rfl (jkinds_any _) ?_
  rintro e W96 ⟨g98, k99, rfl, h97, b95⟩
  have zb95 := b95.size; replace r92 := r92.up b95; replace b89 := Zu b89 b95; replace b51 := Zu b51 b95; replace r17 := r17.up b95; replace b14 := Zu b14 b95; replace r10 := r10.up b95; replace b7 := Zu b7 b95; replace r4 := r4.up b95; replace b1 := Zu b1 b95; replace q := Zu q b95; replace hok := Zh hok b95; have y100 := hok.size
  refine ⟨_, rfl, hok, ?_⟩
  refine AA.one 3 (by kernel_rfl) ?_
  (refine SR.val rfl (R.lookKT rfl rfl jKeys (by rfl) (z := jkdZ) (by kernel_rfl) (by assumption) k rfl hkF) rfl rfl hok ?_)
  refine AA.pure 4 rfl hok (by kernel_rfl) (fun w' b' => R.move rfl rfl) rfl rfl ?_
  refine AA.pure 5 rfl hok (by kernel_rfl) (fun w' b' => R.extract rfl rfl rfl) rfl rfl ?_
  refine AA.pure 6 rfl hok (by kernel_rfl) (fun w' b' => R.extract rfl rfl rfl) rfl rfl ?_
  refine AA.one 8 (by kernel_rfl) ?_
  refine ZR.storeN (vs := [.int .i64 m, jfnV f1, jfnV f2, jfnV f3, jfnV f4]) rfl rfl rfl rfl rfl r92 (by exact Nat.le_of_ble_eq_true rfl) (ones_of rfl) rfl rfl ?_
  intro W102 r103 b101 z104
  have hlb101 := r92.lt
  replace r103 : RowL W102 _ 74 [.int .i64 m, jfnV f1, jfnV f2, jfnV f3, jfnV f4] := r103
  clear r92
  replace b89 := Zg b89 b101; replace b51 := Zg b51 b101; replace r17 := Zd r17 b101; replace b14 := Zg b14 b101; replace r10 := Zd r10 b101; replace b7 := Zg b7 b101; replace r4 := Zd r4 b101; replace b1 := Zg b1 b101; replace q := Zg q b101; replace hok := Zo hok b101
  have r92 := r103
  clear r103
  refine ⟨hok, ?_⟩
  refine AA.pure 9 rfl hok (by kernel_rfl) (fun w' b' => R.assign rfl rfl) rfl rfl ?_
  refine AA.done rfl ?_
  clear fzr17 fzr10 fzr4 hok
  exact EE.weak (J43 _ _ ⟨_, rfl, (by first | assumption | omega), (by first | assumption | omega), (by first | assumption | omega), (by first | assumption | omega), (by first | assumption | omega), (by first | assumption | omega), (by first | assumption | omega), (by first | assumption | omega), (by first | assumption | omega), (by first | assumption | omega), (by first | assumption | omega)⟩) ⟨rfl, rfl, rfl, rfl, rfl, rfl, rfl, trivial⟩
theorem jcheck_gK (k n : Int) (a : Nat → Nat) (f t : Int) (fk tk : Nat) (r : Int) (d : Bool) (lb li lr lt : Int) (k1 k2 : Nat) (la lc ld le : Int) (w : World) (kN : jkindsF k = none) : Calls Tryz.prog 28 #[layV lb li lr lt k1 k2 la lc ld le, redV k n a f t fk tk r d] w fun x w' => x = .panicked (chain1 (jrefV 310)) ∧ Below w.heap.size w w' := by
  have q := Below.refl w.heap.size w
  refine X.fnP Tryz.func28 rfl (n := 43) rfl rfl ?_
  refine Zr ?_
  refine LL.box (jlyL lb li lr lt k1 k2 la lc ld le) rfl rfl rfl rfl rfl ?_
  intro W2 g3 eg3 r4 z5 b1
  replace q := Zu q b1; have l6 := r4.lt
  refine LL.box (redL k n a f t fk tk r d) rfl rfl rfl rfl rfl ?_
  intro W8 g9 eg9 r10 z11 b7
  replace r4 := r4.up b7; replace b1 := Zu b1 b7; replace q := Zu q b7; have l12 := r10.lt; have l13 := r4.lt
  refine LL.alloc ([.int .i64 0, Value.nilFunc, Value.nilFunc, Value.nilFunc, Value.nilFunc]) rfl rfl rfl rfl rfl ?_
  intro W15 g16 eg16 r17 z18 b14
  replace r10 := r10.up b14; replace b7 := Zu b7 b14; replace r4 := r4.up b14; replace b1 := Zu b1 b14; replace q := Zu q b14; refine Zq ?_; refine Zc ?_
  refine CC.join (fun l_ W38 => ∃ (g33 : Nat), l_ = [(0, Value.agg #[Value.int IntKind.i64 lb, Value.int IntKind.i64 li, Value.int IntKind.i64 lr, Value.int IntKind.i64 lt, Value.int IntKind.u64 ↑k1, Value.int IntKind.u64 ↑k2, Value.int IntKind.i64 la, Value.int IntKind.i64 lc, Value.int IntKind.i64 ld, Value.int IntKind.i64 le]), (1, Value.agg #[Value.int IntKind.i64 k, Value.int IntKind.i64 n, Value.int IntKind.u64 ↑(a 0), Value.int IntKind.u64 ↑(a 1), Value.int IntKind.u64 ↑(a 2), Value.int IntKind.u64 ↑(a 3), Value.int IntKind.u64 ↑(a 4), Value.int IntKind.u64 ↑(a 5), Value.int IntKind.u64 ↑(a 6), Value.int IntKind.u64 ↑(a 7), Value.int IntKind.u64 ↑(a 8), Value.int IntKind.u64 ↑(a 9), Value.int IntKind.u64 ↑(a 10), Value.int IntKind.u64 ↑(a 11), Value.int IntKind.u64 ↑(a 12), Value.int IntKind.u64 ↑(a 13), Value.int IntKind.u64 ↑(a 14), Value.int IntKind.u64 ↑(a 15), Value.int IntKind.i64 f, Value.int IntKind.i64 t, Value.int IntKind.u64 ↑fk, Value.int IntKind.u64 ↑tk, Value.int IntKind.i64 r, Value.bool d]), (2, Value.pointer (some { block := g3, off := 0 })), (3, Value.pointer (some { block := g9, off := 0 })), (4, Value.pointer (some { block := g16, off := 0 })), (5, Value.pointer (some { block := g33, off := 0 })), (6, Value.bool false)] ∧ (Below W15.heap.size W15 W38) ∧ (RowL W38 g16 74 [Value.int IntKind.i64 0, Value.nilFunc, Value.nilFunc, Value.nilFunc, Value.nilFunc]) ∧ (Below W8.heap.size W8 W38) ∧ (RowL W38 g9 28 [Value.int IntKind.i64 k, Value.int IntKind.i64 n, Value.int IntKind.u64 ↑(a 0), Value.int IntKind.u64 ↑(a 1), Value.int IntKind.u64 ↑(a 2), Value.int IntKind.u64 ↑(a 3), Value.int IntKind.u64 ↑(a 4), Value.int IntKind.u64 ↑(a 5), Value.int IntKind.u64 ↑(a 6), Value.int IntKind.u64 ↑(a 7), Value.int IntKind.u64 ↑(a 8), Value.int IntKind.u64 ↑(a 9), Value.int IntKind.u64 ↑(a 10), Value.int IntKind.u64 ↑(a 11), Value.int IntKind.u64 ↑(a 12), Value.int IntKind.u64 ↑(a 13), Value.int IntKind.u64 ↑(a 14), Value.int IntKind.u64 ↑(a 15), Value.int IntKind.i64 f, Value.int IntKind.i64 t, Value.int IntKind.u64 ↑fk, Value.int IntKind.u64 ↑tk, Value.int IntKind.i64 r, Value.bool d]) ∧ (Below W2.heap.size W2 W38) ∧ (RowL W38 g3 31 [Value.int IntKind.i64 lb, Value.int IntKind.i64 li, Value.int IntKind.i64 lr, Value.int IntKind.i64 lt, Value.int IntKind.u64 ↑k1, Value.int IntKind.u64 ↑k2, Value.int IntKind.i64 la, Value.int IntKind.i64 lc, Value.int IntKind.i64 ld, Value.int IntKind.i64 le]) ∧ (Below w.heap.size w W38) ∧ (Below w.heap.size w W38) ∧ (RowL W38 g33 74 [Value.int IntKind.i64 0, Value.nilFunc, Value.nilFunc, Value.nilFunc, Value.nilFunc]) ∧ (W15.heap.size ≤ W38.heap.size) ∧ (W15.heap.size ≤ g33)) (fun J43 => ?_) ?restJ43
  case' restJ43 =>
    clear r17
    clear b14
    clear r10
    clear b7
    clear r4
    clear b1
    clear q
    rintro _ W38 ⟨g33, rfl, b19, r17, b14, r10, b7, r4, b1, q, r34, z41, z42⟩
  refine ZT ?_; refine Zr ?_; refine Zm ?_; refine Zt ?_
  refine LL.callP (R.call rfl rfl rfl) rfl rfl (jrefuse_T _ _) ?_
  rintro e W45 ⟨rfl, rfl⟩
  refine ⟨_, rfl, ?_⟩; refine EE.thenP ?_; refine EE.panM ?_
  exact ⟨rfl, q⟩
  refine CC.freeZ (fun W_ j => j < W_.heap.size ∧ (True)) (by kernel_rfl) (by kernel_rfl) (fun W47 b46 z48 => ?_)
  replace r17 := r17.up b46; replace b14 := Zu b14 b46; replace r10 := r10.up b46; replace b7 := Zu b7 b46; replace r4 := r4.up b46; replace b1 := Zu b1 b46; replace q := Zu q b46
  have hok : Kept (fun j => j < W47.heap.size ∧ (True)) W47 W47 := Kept.refl _ _
  have fzr17 := fzRow (K := fun j => j < W47.heap.size ∧ (True)) r17 ⟨r17.lt, (by first | trivial | omega)⟩
  have fzr10 := fzRow (K := fun j => j < W47.heap.size ∧ (True)) r10 ⟨r10.lt, (by first | trivial | omega)⟩
  have fzr4 := fzRow (K := fun j => j < W47.heap.size ∧ (True)) r4 ⟨r4.lt, (by first | trivial | omega)⟩
  refine AA.pure 1 rfl hok (by kernel_rfl) (fun w' b' => R.field rfl rfl (I.fld rfl)) rfl rfl ?_
  refine AA.pure 2 rfl hok (by kernel_rfl) (fun w' b' => R.load rfl rfl (I.ld1 rfl (RowL.cell (fzr10 w' b') rfl))) rfl rfl ?_
  refine AA.two 0 7 (by kernel_rfl) ?_ ?_
  refine SR.call rfl (R.call rfl rfl rfl) rfl rfl (jkinds_any _) ?_
  rintro e W50 ⟨g52, k53, rfl, h51, b49⟩
  have zb49 := b49.size; replace b46 := Zu b46 b49; replace r17 := r17.up b49; replace b14 := Zu b14 b49; replace r10 := r10.up b49; replace b7 := Zu b7 b49; replace r4 := r4.up b49; replace b1 := Zu b1 b49; replace q := Zu q b49; replace hok := Zh hok b49; have y54 := hok.size
  refine ⟨_, rfl, hok, ?_⟩
  refine AA.two 3 7 (by kernel_rfl) ?_ ?_
  (refine SR.val rfl (R.lookKF rfl rfl jKeys (by rfl) (z := jkdZ) (by kernel_rfl) (by assumption) k rfl kN) rfl rfl hok ?_)
  refine AA.pure 4 rfl hok (by kernel_rfl) (fun w' b' => R.move rfl rfl) rfl rfl ?_
  refine AA.pure 5 rfl hok (by kernel_rfl) (fun w' b' => R.extract rfl rfl rfl) rfl rfl ?_
  refine AA.pure 6 rfl hok (by kernel_rfl) (fun w' b' => R.extract rfl rfl rfl) rfl rfl ?_
  refine AA.one 7 (by kernel_rfl) ?_
  have l55 := r17.lt; have l56 := r10.lt; have l57 := r4.lt
  refine ZR.alloc ([.int .i64 0, Value.nilFunc, Value.nilFunc, Value.nilFunc, Value.nilFunc]) rfl rfl rfl rfl rfl rfl ?_
  intro W59 g60 eg60 r61 z62 b58
  replace h51 := h51.up b58; replace b49 := Zu b49 b58; replace b46 := Zu b46 b58; replace r17 := r17.up b58; replace b14 := Zu b14 b58; replace r10 := r10.up b58; replace b7 := Zu b7 b58; replace r4 := r4.up b58; replace b1 := Zu b1 b58; replace q := Zu q b58; replace hok := Zh hok b58; have y63 := hok.size
  refine ⟨hok, ?_⟩
  refine AA.one 8 (by kernel_rfl) ?_
  refine ZR.storeN (vs := [.int .i64 0, Value.nilFunc, Value.nilFunc, Value.nilFunc, Value.nilFunc]) rfl rfl rfl rfl rfl r61 (by exact Nat.le_of_ble_eq_true rfl) (ones_of rfl) rfl rfl ?_
  intro W65 r66 b64 z67
  have hlb64 := r61.lt
  replace r66 : RowL W65 _ 74 [.int .i64 0, Value.nilFunc, Value.nilFunc, Value.nilFunc, Value.nilFunc] := r66
  clear r61
  replace b58 := Zg b58 b64; replace b49 := Zg b49 b64; replace b46 := Zg b46 b64; replace r17 := Zd r17 b64; replace b14 := Zg b14 b64; replace r10 := Zd r10 b64; replace b7 := Zg b7 b64; replace r4 := Zd r4 b64; replace b1 := Zg b1 b64; replace q := Zg q b64; replace hok := Zo hok b64
  have r61 := r66
  clear r66
  refine ⟨hok, ?_⟩
  refine AA.pure 9 rfl hok (by kernel_rfl) (fun w' b' => R.assign rfl rfl) rfl rfl ?_
  refine AA.done rfl ?_
  clear fzr17 fzr10 fzr4 hok
  exact EE.weak (J43 _ _ ⟨_, rfl, (by first | assumption | omega), (by first | assumption | omega), (by first | assumption | omega), (by first | assumption | omega), (by first | assumption | omega), (by first | assumption | omega), (by first | assumption | omega), (by first | assumption | omega), (by first | assumption | omega), (by first | assumption | omega), (by first | assumption | omega)⟩) ⟨rfl, rfl, rfl, rfl, rfl, rfl, rfl, trivial⟩
  have l68 := r17.lt; have l69 := r10.lt; have l70 := r4.lt
  refine ZR.alloc ([.int .i64 0, Value.nilFunc, Value.nilFunc, Value.nilFunc, Value.nilFunc]) rfl rfl rfl rfl rfl rfl ?_
  intro W72 g73 eg73 r74 z75 b71
  replace h51 := h51.up b71; replace b49 := Zu b49 b71; replace b46 := Zu b46 b71; replace r17 := r17.up b71; replace b14 := Zu b14 b71; replace r10 := r10.up b71; replace b7 := Zu b7 b71; replace r4 := r4.up b71; replace b1 := Zu b1 b71; replace q := Zu q b71; replace hok := Zh hok b71; have y76 := hok.size
  refine ⟨hok, ?_⟩
  refine AA.one 3 (by kernel_rfl) ?_
  (refine SR.val rfl (R.lookKF rfl rfl jKeys (by rfl) (z := jkdZ) (by kernel_rfl) (by assumption) k rfl kN) rfl rfl hok ?_)
  refine AA.pure 4 rfl hok (by kernel_rfl) (fun w' b' => R.move rfl rfl) rfl rfl ?_
  refine AA.pure 5 rfl hok (by kernel_rfl) (fun w' b' => R.extract rfl rfl rfl) rfl rfl ?_
  refine AA.pure 6 rfl hok (by kernel_rfl) (fun w' b' => R.extract rfl rfl rfl) rfl rfl ?_
  refine AA.one 8 (by kernel_rfl) ?_
  refine ZR.storeN (vs := [.int .i64 0, Value.nilFunc, Value.nilFunc, Value.nilFunc, Value.nilFunc]) rfl rfl rfl rfl rfl r74 (by exact Nat.le_of_ble_eq_true rfl) (ones_of rfl) rfl rfl ?_
  intro W78 r79 b77 z80
  have hlb77 := r74.lt
  replace r79 : RowL W78 _ 74 [.int .i64 0, Value.nilFunc, Value.nilFunc, Value.nilFunc, Value.nilFunc] := r79
  clear r74
  replace b71 := Zg b71 b77; replace b49 := Zg b49 b77; replace b46 := Zg b46 b77; replace r17 := Zd r17 b77; replace b14 := Zg b14 b77; replace r10 := Zd r10 b77; replace b7 := Zg b7 b77; replace r4 := Zd r4 b77; replace b1 := Zg b1 b77; replace q := Zg q b77; replace hok := Zo hok b77
  have r74 := r79
  clear r79
  refine ⟨hok, ?_⟩
  refine AA.pure 9 rfl hok (by kernel_rfl) (fun w' b' => R.assign rfl rfl) rfl rfl ?_
  refine AA.done rfl ?_
  clear fzr17 fzr10 fzr4 hok
  exact EE.weak (J43 _ _ ⟨_, rfl, (by first | assumption | omega), (by first | assumption | omega), (by first | assumption | omega), (by first | assumption | omega), (by first | assumption | omega), (by first | assumption | omega), (by first | assumption | omega), (by first | assumption | omega), (by first | assumption | omega), (by first | assumption | omega), (by first | assumption | omega)⟩) ⟨rfl, rfl, rfl, rfl, rfl, rfl, rfl, trivial⟩
  have l81 := r17.lt; have l82 := r10.lt; have l83 := r4.lt
  refine ZR.alloc ([.int .i64 0, Value.nilFunc, Value.nilFunc, Value.nilFunc, Value.nilFunc]) rfl rfl rfl rfl rfl rfl ?_
  intro W85 g86 eg86 r87 z88 b84
  replace b46 := Zu b46 b84; replace r17 := r17.up b84; replace b14 := Zu b14 b84; replace r10 := r10.up b84; replace b7 := Zu b7 b84; replace r4 := r4.up b84; replace b1 := Zu b1 b84; replace q := Zu q b84; replace hok := Zh hok b84; have y89 := hok.size
  refine ⟨hok, ?_⟩
  refine AA.one 0 (by kernel_rfl) ?_
  refine SR.call rfl (R.call rfl rfl rfl) rfl rfl (jkinds_any _) ?_
  rintro e W91 ⟨g93, k94, rfl, h92, b90⟩
  have zb90 := b90.size; replace r87 := r87.up b90; replace b84 := Zu b84 b90; replace b46 := Zu b46 b90; replace r17 := r17.up b90; replace b14 := Zu b14 b90; replace r10 := r10.up b90; replace b7 := Zu b7 b90; replace r4 := r4.up b90; replace b1 := Zu b1 b90; replace q := Zu q b90; replace hok := Zh hok b90; have y95 := hok.size
  refine ⟨_, rfl, hok, ?_⟩
  refine AA.one 3 (by kernel_rfl) ?_
  (refine SR.val rfl (R.lookKF rfl rfl jKeys (by rfl) (z := jkdZ) (by kernel_rfl) (by assumption) k rfl kN) rfl rfl hok ?_)
  refine AA.pure 4 rfl hok (by kernel_rfl) (fun w' b' => R.move rfl rfl) rfl rfl ?_
  refine AA.pure 5 rfl hok (by kernel_rfl) (fun w' b' => R.extract rfl rfl rfl) rfl rfl ?_
  refine AA.pure 6 rfl hok (by kernel_rfl) (fun w' b' => R.extract rfl rfl rfl) rfl rfl ?_
  refine AA.one 8 (by kernel_rfl) ?_
  refine ZR.storeN (vs := [.int .i64 0, Value.nilFunc, Value.nilFunc, Value.nilFunc, Value.nilFunc]) rfl rfl rfl rfl rfl r87 (by exact Nat.le_of_ble_eq_true rfl) (ones_of rfl) rfl rfl ?_
  intro W97 r98 b96 z99
  have hlb96 := r87.lt
  replace r98 : RowL W97 _ 74 [.int .i64 0, Value.nilFunc, Value.nilFunc, Value.nilFunc, Value.nilFunc] := r98
  clear r87
  replace b84 := Zg b84 b96; replace b46 := Zg b46 b96; replace r17 := Zd r17 b96; replace b14 := Zg b14 b96; replace r10 := Zd r10 b96; replace b7 := Zg b7 b96; replace r4 := Zd r4 b96; replace b1 := Zg b1 b96; replace q := Zg q b96; replace hok := Zo hok b96
  have r87 := r98
  clear r98
  refine ⟨hok, ?_⟩
  refine AA.pure 9 rfl hok (by kernel_rfl) (fun w' b' => R.assign rfl rfl) rfl rfl ?_
  refine AA.done rfl ?_
  clear fzr17 fzr10 fzr4 hok
  exact EE.weak (J43 _ _ ⟨_, rfl, (by first | assumption | omega), (by first | assumption | omega), (by first | assumption | omega), (by first | assumption | omega), (by first | assumption | omega), (by first | assumption | omega), (by first | assumption | omega), (by first | assumption | omega), (by first | assumption | omega), (by first | assumption | omega), (by first | assumption | omega)⟩) ⟨rfl, rfl, rfl, rfl, rfl, rfl, rfl, trivial⟩
/-- Redos that may be. -/
def okJ (k n : Int) (a : Nat → Nat) (f t : Int) (fk tk : Nat) (r : Int) (d : Bool) (li lr : Int) : Prop := (k = 1 ∧ (1 ≤ n ∧ n ≤ li) ∧ okFl a ∧ f = 0 ∧ t = 0 ∧ fk = 0 ∧ tk = 0 ∧ r = 0 ∧ d = false) ∨ (k = 2 ∧ (1 ≤ n ∧ n ≤ li) ∧ (∀ i, i < 16 → a i = 0) ∧ okNm f t fk tk r li lr)
theorem sameR_1 (k n : Int) (a : Nat → Nat) (f t : Int) (fk tk : Nat) (r : Int) (d : Bool) : sameR k n a 0 0 0 0 0 false k n a f t fk tk r d ↔ f = 0 ∧ t = 0 ∧ fk = 0 ∧ tk = 0 ∧ r = 0 ∧ d = false := by
  unfold sameR
  simp only [true_and]
  constructor
  · rintro ⟨h1, h2, h3, h4, h5, h6⟩
    exact ⟨h1.symm, h2.symm, by omega, by omega, h5.symm, h6.symm⟩
  · rintro ⟨rfl, rfl, rfl, rfl, rfl, rfl⟩
    simp
theorem sameR_2 (k n : Int) (a : Nat → Nat) (f t : Int) (fk tk : Nat) (r : Int) (d : Bool) : sameR k n noA f t fk tk r d k n a f t fk tk r d ↔ ∀ i, i < 16 → a i = 0 := by
  unfold sameR noA
  simp only [true_and, and_true]
  constructor
  · rintro ⟨h0, h1, h2, h3, h4, h5, h6, h7, h8, h9, h10, h11, h12, h13, h14, h15⟩ i hi
    have hc : i = 0 ∨ i = 1 ∨ i = 2 ∨ i = 3 ∨ i = 4 ∨ i = 5 ∨ i = 6 ∨ i = 7 ∨ i = 8 ∨ i = 9 ∨ i = 10 ∨ i = 11 ∨ i = 12 ∨ i = 13 ∨ i = 14 ∨ i = 15 := by omega
    rcases hc with rfl | rfl | rfl | rfl | rfl | rfl | rfl | rfl | rfl | rfl | rfl | rfl | rfl | rfl | rfl | rfl <;> omega
  · intro h
    refine ⟨?_, ?_, ?_, ?_, ?_, ?_, ?_, ?_, ?_, ?_, ?_, ?_, ?_, ?_, ?_, ?_⟩ <;> (rw [h _ (by decide)])
theorem jcheck_1T (k n : Int) (a : Nat → Nat) (f t : Int) (fk tk : Nat) (r : Int) (d : Bool) (lb li lr lt : Int) (k1 k2 : Nat) (la lc ld le : Int) (w : World) (hS : Start w) (hk : k = 1) (h : okJ k n a f t fk tk r d li lr) : Calls Tryz.prog 28 #[layV lb li lr lt k1 k2 la lc ld le, redV k n a f t fk tk r d] w fun x w' => x = .returned (jkdV jkd1) ∧ Below w.heap.size w w' := by
  rcases h with ⟨rfl, hn, hfl, rfl, rfl, rfl, rfl, rfl, rfl⟩ | ⟨h2, _⟩
  · exact jcheck_gT 1 n a 0 0 0 0 0 false lb li lr lt k1 k2 la lc ld le w _ _ _ _ _ jkF_1 (by kernel_rfl) (by kernel_rfl) 1 n a 0 0 0 0 0 false (fun W => jnm1_any 1 n a 0 0 0 0 0 false W) ((sameR_1 1 n a 0 0 0 0 0 false).2 ⟨rfl, rfl, rfl, rfl, rfl, rfl⟩) hn (fun W b => jmay1_T 1 n a 0 0 0 0 0 false lb li lr lt k1 k2 la lc ld le W (hS.up b) hfl)
  · omega
theorem jcheck_2T (k n : Int) (a : Nat → Nat) (f t : Int) (fk tk : Nat) (r : Int) (d : Bool) (lb li lr lt : Int) (k1 k2 : Nat) (la lc ld le : Int) (w : World) (hk : k = 2) (h : okJ k n a f t fk tk r d li lr) : Calls Tryz.prog 28 #[layV lb li lr lt k1 k2 la lc ld le, redV k n a f t fk tk r d] w fun x w' => x = .returned (jkdV jkd2) ∧ Below w.heap.size w w' := by
  rcases h with ⟨h2, _⟩ | ⟨rfl, hn, ha, hm⟩
  · omega
  · exact jcheck_gT 2 n a f t fk tk r d lb li lr lt k1 k2 la lc ld le w _ _ _ _ _ jkF_2 (by kernel_rfl) (by kernel_rfl) 2 n noA f t fk tk r d (fun W => jnm2_any 2 n a f t fk tk r d W) ((sameR_2 2 n a f t fk tk r d).2 ha) hn (fun W b => jmay2_T 2 n a f t fk tk r d lb li lr lt k1 k2 la lc ld le W hm)
theorem jcheck_F (k n : Int) (a : Nat → Nat) (f t : Int) (fk tk : Nat) (r : Int) (d : Bool) (lb li lr lt : Int) (k1 k2 : Nat) (la lc ld le : Int) (w : World) (hS : Start w) (hb : ∀ x ∈ jsixL a, x < 18446744073709551616) (h : ¬okJ k n a f t fk tk r d li lr) : Calls Tryz.prog 28 #[layV lb li lr lt k1 k2 la lc ld le, redV k n a f t fk tk r d] w fun x w' => x = .panicked (chain1 (jrefV 310)) ∧ Below w.heap.size w w' := by
  by_cases h1 : k = 1
  · subst h1
    by_cases hs : sameR 1 n a 0 0 0 0 0 false 1 n a f t fk tk r d
    case neg => exact jcheck_gN 1 n a f t fk tk r d lb li lr lt k1 k2 la lc ld le w _ _ _ _ _ jkF_1 (by kernel_rfl) (by kernel_rfl) 1 n a 0 0 0 0 0 false (fun W => jnm1_any 1 n a f t fk tk r d W) hs
    by_cases hn : 1 ≤ n ∧ n ≤ li
    case neg => exact jcheck_gI 1 n a f t fk tk r d lb li lr lt k1 k2 la lc ld le w _ _ _ _ _ jkF_1 (by kernel_rfl) (by kernel_rfl) 1 n a 0 0 0 0 0 false (fun W => jnm1_any 1 n a f t fk tk r d W) hs (by omega)
    exact jcheck_gM 1 n a f t fk tk r d lb li lr lt k1 k2 la lc ld le w _ _ _ _ _ jkF_1 (by kernel_rfl) (by kernel_rfl) 1 n a 0 0 0 0 0 false (fun W => jnm1_any 1 n a f t fk tk r d W) hs hn (fun W b => jmay1_F 1 n a f t fk tk r d lb li lr lt k1 k2 la lc ld le W (hS.up b) hb (fun hfl => h (.inl ⟨rfl, hn, hfl, (sameR_1 1 n a f t fk tk r d).1 hs⟩)))
  by_cases h2 : k = 2
  · subst h2
    by_cases hs : sameR 2 n noA f t fk tk r d 2 n a f t fk tk r d
    case neg => exact jcheck_gN 2 n a f t fk tk r d lb li lr lt k1 k2 la lc ld le w _ _ _ _ _ jkF_2 (by kernel_rfl) (by kernel_rfl) 2 n noA f t fk tk r d (fun W => jnm2_any 2 n a f t fk tk r d W) hs
    by_cases hn : 1 ≤ n ∧ n ≤ li
    case neg => exact jcheck_gI 2 n a f t fk tk r d lb li lr lt k1 k2 la lc ld le w _ _ _ _ _ jkF_2 (by kernel_rfl) (by kernel_rfl) 2 n noA f t fk tk r d (fun W => jnm2_any 2 n a f t fk tk r d W) hs (by omega)
    exact jcheck_gM 2 n a f t fk tk r d lb li lr lt k1 k2 la lc ld le w _ _ _ _ _ jkF_2 (by kernel_rfl) (by kernel_rfl) 2 n noA f t fk tk r d (fun W => jnm2_any 2 n a f t fk tk r d W) hs hn (fun W b => jmay2_F 2 n a f t fk tk r d lb li lr lt k1 k2 la lc ld le W (fun hm => h (.inr ⟨rfl, hn, (sameR_2 2 n a f t fk tk r d).1 hs, hm⟩)))
  · exact jcheck_gK k n a f t fk tk r d lb li lr lt k1 k2 la lc ld le w (jkF_no (by omega))
/-- A slice of words that is new. -/
def jnewW (ws : List Nat) (w0 : World) (x : Value) (w : World) : Prop := ∃ g c, x = .slice (some ⟨g, 0, none⟩) ws.length c ∧ ws.length ≤ c ∧ Reads w (.slice (some ⟨g, 0, none⟩) ws.length c) (ints .u64 ws) ∧ w0.heap.size ≤ g ∧ g < w.heap.size ∧ Below w0.heap.size w0 w
theorem pseal_form (v : Value) (ws : List Nat) (w : World) (hv : Reads w v (ints .u64 ws)) (hlen : ws.length ≤ 1048576) : Calls Tryz.prog 47 #[v] w fun e w' => ∃ v', e = .returned v' ∧ jnewW (ws ++ [wsum ws]) w v' w' := by
  refine (pseal_own v ws w hv hlen).mono ?_
  rintro e w' ⟨v', rfl, o, b⟩
  have hr := reads_of_owns o
  rcases o.2 with ⟨_, h0⟩ | ⟨g, cap, cur, rfl, hbg, hg, hcc, _⟩
  · omega
  · exact ⟨_, rfl, g, cap, by simp, by simpa using hcc, by simpa using hr, hbg, (Array.getElem?_eq_some_iff.1 hg).1, b⟩
/-- What a redo's kind has; its words. -/
def jkdO (k : Int) : Int × Nat × Nat × Nat × Nat := if k = 1 then jkd1 else jkd2
def jpreW (k n : Int) (a : Nat → Nat) (f t : Int) (fk tk : Nat) (r : Int) (d : Bool) : List Nat := if k = 1 then wdsI n.toNat a else wdsN n.toNat f.toNat t.toNat fk tk r.toNat d
def jW (k n : Int) (a : Nat → Nat) (f t : Int) (fk tk : Nat) (r : Int) (d : Bool) : List Nat := jpreW k n a f t fk tk r d ++ [wsum (jpreW k n a f t fk tk r d)]
theorem jW_len (k n : Int) (a : Nat → Nat) (f t : Int) (fk tk : Nat) (r : Int) (d : Bool) : (jW k n a f t fk tk r d).length = if k = 1 then 19 else 9 := by
  unfold jW jpreW
  by_cases h : k = 1
  · rw [if_pos h, if_pos h]; rfl
  · rw [if_neg h, if_neg h]; rfl
theorem jlay2_form (n : Nat) (a : Nat → Nat) (f t : Nat) (fk tk : Nat) (r : Nat) (d : Bool) (w : World) (hn : n ≤ 4096) (hf : f ≤ 4096) (ht : t ≤ 4096) (hr : r ≤ 4096) : Calls Tryz.prog 27 #[jkdV jkd2, redV 2 (n : Int) a (f : Int) (t : Int) fk tk (r : Int) d] w fun x w' => ∃ v, x = .returned v ∧ jnewW (wdsN n f t fk tk r d ++ [wsum (wdsN n f t fk tk r d)]) w v w' := by
  have q := Below.refl w.heap.size w
  refine X.fn Tryz.func27 rfl (n := 21) rfl rfl ?_
  refine Zr ?_
  refine LL.box [.int .i64 jkd2.1, jfnV jkd2.2.1, jfnV jkd2.2.2.1, jfnV jkd2.2.2.2.1, jfnV jkd2.2.2.2.2] rfl rfl rfl rfl rfl ?_
  intro W23 g24 eg24 r25 z26 b22
  replace q := Zu q b22; have l51 := r25.lt
  refine LL.box (redL 2 (↑n) a (↑f) (↑t) fk tk (↑r) d) rfl rfl rfl rfl rfl ?_
  intro W53 g54 eg54 r55 z56 b52
  replace r25 := r25.up b52; replace q := Zu q b52; refine Za ?_; refine Zq ?_; refine Zr ?_; refine Zf ?_; refine Zl r55 ?_
  refine LL.val (R.convI rfl rfl rfl rfl (wrapU (by omega) (by omega))) rfl rfl rfl ?_
  refine Zf ?_; refine Zl r25 ?_
  refine LL.val (R.convI rfl rfl rfl rfl rfl) rfl rfl rfl ?_
  refine LL.val (R.shlE (a := 7) (b := 8) (z := 256 * 7) rfl rfl rfl (by decide) (by omega) (by omega)) rfl rfl rfl ?_
  refine LL.val (R.orE (a := 2) (b := 256 * 7) (z := 2 + 256 * 7) rfl rfl rfl (by decide) (by omega) (by decide)) rfl rfl rfl ?_
  refine Za ?_; refine Zq ?_; refine Zr ?_; refine Zm ?_; refine Zf ?_; refine Zl r25 ?_; refine Zv r55 ?_; have l385 := r55.lt; have l386 := r25.lt
  (refine LL.call (R.callV rfl rfl rfl rfl) rfl rfl rfl (jbody2_any 2 n a f t fk tk r d _ hn hf ht hr) ?_; rintro e W384 ⟨g8, rfl, r8, hg8, b381⟩; refine ⟨_, rfl, ?_⟩)
  have zb381 := b381.size; replace r55 := r55.up b381; replace r25 := r25.up b381; replace q := Zu q b381; have l404 := r8.lt; have l405 := r55.lt; have l406 := r25.lt
  (refine Zy (R.call rfl rfl rfl) (jwith_any (2 + 256 * 7) _ (bodyN n f t fk tk r d) _ (row_part (lo := 0) (m := 7) (ns := bodyN n f t fk tk r d) (by assumption) rfl rfl) (by simp [bodyN])) ?_; rintro e W403 ⟨v9, rfl, o9, b400⟩; refine ⟨_, rfl, ?_⟩)
  have zb400 := b400.size; replace r8 := r8.up b400; replace r55 := r55.up b400; replace r25 := r25.up b400; replace q := Zu q b400; have l434 := r8.lt; have l435 := r55.lt; have l436 := r25.lt
  (refine Zy (R.call rfl rfl rfl) (pseal_form _ (wdsN n f t fk tk r d) _ o9.reads (by simp [wdsN, bodyN])) ?_; rintro e W433 ⟨v7, rfl, g7, c7, rfl, hc7, r7, hg7, hl7, b430⟩; refine ⟨_, rfl, ?_⟩)
  have zb430 := b430.size; replace o9 := o9.up b430; replace r8 := r8.up b430; replace r55 := r55.up b430; replace r25 := r25.up b430; replace q := Zu q b430; refine Za ?_; refine Zq ?_; refine ZR ?_; refine EE.ret _ rfl rfl ?_
  exact ⟨_, rfl, g7, c7, rfl, hc7, r7, by omega, by omega, q⟩
theorem jlay1_form (n : Nat) (a : Nat → Nat) (f t : Int) (fk tk : Nat) (r : Int) (d : Bool) (w : World) (hn : n ≤ 4096) : Calls Tryz.prog 27 #[jkdV jkd1, redV 1 (n : Int) a f t fk tk r d] w fun x w' => ∃ v, x = .returned v ∧ jnewW (wdsI n a ++ [wsum (wdsI n a)]) w v w' := by
  have q := Below.refl w.heap.size w
  refine X.fn Tryz.func27 rfl (n := 21) rfl rfl ?_
  refine Zr ?_
  refine LL.box [.int .i64 jkd1.1, jfnV jkd1.2.1, jfnV jkd1.2.2.1, jfnV jkd1.2.2.2.1, jfnV jkd1.2.2.2.2] rfl rfl rfl rfl rfl ?_
  intro W23 g24 eg24 r25 z26 b22
  replace q := Zu q b22; have l51 := r25.lt
  refine LL.box (redL 1 (↑n) a f t fk tk r d) rfl rfl rfl rfl rfl ?_
  intro W53 g54 eg54 r55 z56 b52
  replace r25 := r25.up b52; replace q := Zu q b52; refine Za ?_; refine Zq ?_; refine Zr ?_; refine Zf ?_; refine Zl r55 ?_
  refine LL.val (R.convI rfl rfl rfl rfl (wrapU (by omega) (by omega))) rfl rfl rfl ?_
  refine Zf ?_; refine Zl r25 ?_
  refine LL.val (R.convI rfl rfl rfl rfl rfl) rfl rfl rfl ?_
  refine LL.val (R.shlE (a := 17) (b := 8) (z := 256 * 17) rfl rfl rfl (by decide) (by omega) (by omega)) rfl rfl rfl ?_
  refine LL.val (R.orE (a := 1) (b := 256 * 17) (z := 1 + 256 * 17) rfl rfl rfl (by decide) (by omega) (by decide)) rfl rfl rfl ?_
  refine Za ?_; refine Zq ?_; refine Zr ?_; refine Zm ?_; refine Zf ?_; refine Zl r25 ?_; refine Zv r55 ?_; have l385 := r55.lt; have l386 := r25.lt
  (refine LL.call (R.callV rfl rfl rfl rfl) rfl rfl rfl (jbody1_any 1 n a f t fk tk r d _ hn) ?_; rintro e W384 ⟨v8, rfl, r8, b381⟩; refine ⟨_, rfl, ?_⟩)
  have zb381 := b381.size; replace r55 := r55.up b381; replace r25 := r25.up b381; replace q := Zu q b381; have l403 := r55.lt; have l404 := r25.lt
  (refine Zy (R.call rfl rfl rfl) (jwith_any (1 + 256 * 17) _ (bodyI n a) _ (by assumption) (by simp [bodyI, jsixL])) ?_; rintro e W402 ⟨v9, rfl, o9, b399⟩; refine ⟨_, rfl, ?_⟩)
  have zb399 := b399.size; replace r8 := r8.up b399; replace r55 := r55.up b399; replace r25 := r25.up b399; replace q := Zu q b399; have l430 := r55.lt; have l431 := r25.lt
  (refine Zy (R.call rfl rfl rfl) (pseal_form _ (wdsI n a) _ o9.reads (by simp [wdsI, bodyI, jsixL])) ?_; rintro e W429 ⟨v7, rfl, g7, c7, rfl, hc7, r7, hg7, hl7, b426⟩; refine ⟨_, rfl, ?_⟩)
  have zb426 := b426.size; replace o9 := o9.up b426; replace r8 := r8.up b426; replace r55 := r55.up b426; replace r25 := r25.up b426; replace q := Zu q b426; refine Za ?_; refine Zq ?_; refine ZR ?_; refine EE.ret _ rfl rfl ?_
  exact ⟨_, rfl, g7, c7, rfl, hc7, r7, by omega, by omega, q⟩
theorem jlay_ok (k n : Int) (a : Nat → Nat) (f t : Int) (fk tk : Nat) (r : Int) (d : Bool) (li lr : Int) (hli : li ≤ 256) (hlr : lr ≤ 1024) (h : okJ k n a f t fk tk r d li lr) (w : World) : Calls Tryz.prog 27 #[jkdV (jkdO k), redV k n a f t fk tk r d] w fun x w' => ∃ v, x = .returned v ∧ jnewW (jW k n a f t fk tk r d) w v w' := by
  rcases h with ⟨rfl, hn, hfl, rfl, rfl, rfl, rfl, rfl, rfl⟩ | ⟨rfl, hn, ha, h1, h2, h3, _⟩
  · obtain ⟨n, rfl⟩ : ∃ y : Nat, n = (y : Int) := ⟨n.toNat, by omega⟩
    exact jlay1_form n a 0 0 0 0 0 false w (by omega)
  · obtain ⟨n, rfl⟩ : ∃ y : Nat, n = (y : Int) := ⟨n.toNat, by omega⟩
    obtain ⟨f, rfl⟩ : ∃ y : Nat, f = (y : Int) := ⟨f.toNat, by omega⟩
    obtain ⟨t, rfl⟩ : ∃ y : Nat, t = (y : Int) := ⟨t.toNat, by omega⟩
    obtain ⟨r, rfl⟩ : ∃ y : Nat, r = (y : Int) := ⟨r.toNat, by omega⟩
    exact jlay2_form n a f t fk tk r d w (by omega) (by omega) (by omega) (by omega)
theorem jcheck_T (k n : Int) (a : Nat → Nat) (f t : Int) (fk tk : Nat) (r : Int) (d : Bool) (lb li lr lt : Int) (k1 k2 : Nat) (la lc ld le : Int) (w : World) (hS : Start w) (h : okJ k n a f t fk tk r d li lr) : Calls Tryz.prog 28 #[layV lb li lr lt k1 k2 la lc ld le, redV k n a f t fk tk r d] w fun x w' => x = .returned (jkdV (jkdO k)) ∧ Below w.heap.size w w' := by
  by_cases h1 : k = 1
  · subst h1
    exact jcheck_1T 1 n a f t fk tk r d lb li lr lt k1 k2 la lc ld le w hS rfl h
  · have h2 : k = 2 := by rcases h with ⟨h2, _⟩ | ⟨h2, _⟩ <;> omega
    subst h2
    exact jcheck_2T 2 n a f t fk tk r d lb li lr lt k1 k2 la lc ld le w rfl h
theorem isL_b {b i r t a c d e : Int} (h : isL b i r t a c d e) : i ≤ 256 ∧ r ≤ 1024 := by
  obtain ⟨⟨_, _, h1, _, h2, _⟩, _⟩ := h
  omega
theorem jwords1_T (k n : Int) (a : Nat → Nat) (f t : Int) (fk tk : Nat) (r : Int) (d : Bool) (lb li lr lt : Int) (k1 k2 : Nat) (la lc ld le : Int) (gl gr go : Nat) (v0 : Value) (w : World) (hS : Start w) (hl : isL lb li lr lt la lc ld le) (h : okJ k n a f t fk tk r d li lr) (r1 : RowL w gl 31 (jlyL lb li lr lt k1 k2 la lc ld le)) (r2 : RowL w gr 28 (redL k n a f t fk tk r d)) (r3 : RowL w go 33 [v0]) (hne : go ≠ gl ∧ go ≠ gr) : Calls Tryz.prog 25 #[.pointer (some ⟨gl, 0, none⟩), .pointer (some ⟨gr, 0, none⟩), .pointer (some ⟨go, 0, none⟩)] w fun x w' => x = .returned (.tuple #[]) ∧ (∃ g c, RowL w' go 33 [.slice (some ⟨g, 0, none⟩) (jW k n a f t fk tk r d).length c] ∧ (jW k n a f t fk tk r d).length ≤ c ∧ Reads w' (.slice (some ⟨g, 0, none⟩) (jW k n a f t fk tk r d).length c) (ints .u64 (jW k n a f t fk tk r d)) ∧ w.heap.size ≤ g) ∧ Kept (jKW w go) w w' := by
  have q := Below.refl w.heap.size w
  have hok := Kept.refl (fun j => j < w.heap.size ∧ j ≠ go) w
  have lgo := r3.lt
  have hlb := isL_b hl
  have hck := fun W (b : Below w.heap.size w W) => jcheck_T k n a f t fk tk r d lb li lr lt k1 k2 la lc ld le W (hS.up b) h
  have hly := fun W => jlay_ok k n a f t fk tk r d li lr hlb.1 hlb.2 h W
  have hjl := jW_len k n a f t fk tk r d
  obtain ⟨ws, ews⟩ : ∃ ws, jW k n a f t fk tk r d = ws := ⟨_, rfl⟩
  obtain ⟨kd, ekd⟩ : ∃ kd, jkdO k = kd := ⟨_, rfl⟩
  rw [ews] at hly hjl ⊢
  rw [ekd] at hck hly
  obtain ⟨N, hN⟩ : ∃ N, ws.length = N := ⟨_, rfl⟩
  unfold jnewW at hly
  rw [hN] at hly ⊢
  clear hS h hlb
  refine X.fn Tryz.func25 rfl (n := 10) rfl rfl ?_
  refine Zr ?_; refine Zv r1 ?_
  refine Zy (R.call rfl rfl rfl) (jlay_T _ _ _ _ _ _ _ _ _ _ _ (by first | assumption | omega)) ?_
  rintro e W22 ⟨rfl, b21⟩
  refine ⟨_, rfl, ?_⟩; have zb21 := b21.size; replace r1 := r1.up b21; replace r2 := r2.up b21; replace r3 := r3.up b21; replace q := Zu q b21; replace hok := Zh hok b21; have y24 := hok.size; refine Zq ?_
  refine CC.growT 4 (by kernel_rfl) (by kernel_rfl) ?_
  refine Gv r1 ?_
  refine Gv r2 ?_
  refine Gc (fun w' b' => hck w' (q.trans (b'.mono q.size))) ?_
  refine Gv r2 ?_
  refine GG.nil (fun W57 b56 => ?_)
  have zb56 := b56.size; replace r1 := r1.up b56; replace r2 := r2.up b56; replace r3 := r3.up b56; replace q := Zu q b56; replace hok := Zh hok b56; have y58 := hok.size; have l63 := r1.lt; have l64 := r2.lt; have l65 := r3.lt
  (refine Zy (R.call rfl rfl rfl) (hly _) ?_; rintro e W62 ⟨v7, rfl, g7, c7, rfl, hc7, r7, hg7, hl7, b59⟩; refine ⟨_, rfl, ?_⟩)
  have zb59 := b59.size; replace r1 := r1.up b59; replace r2 := r2.up b59; replace r3 := r3.up b59; replace q := Zu q b59; replace hok := Zh hok b59; have y69 := hok.size
  refine LL.store rfl rfl rfl rfl r3 (by exact Nat.le_of_ble_eq_true rfl) rfl rfl rfl rfl ?_
  intro W81 r82 b80 z83
  have hlb80 := r3.lt
  replace r82 : RowL W81 _ 33 [.slice (some { block := g7, off := 0 }) N c7] := r82
  clear r3
  replace r7 := r7.gr b80 (by omega)
  replace r1 := Zd r1 b80; replace r2 := Zd r2 b80; replace hok := Zo hok b80
  have r3 := r82
  clear r82
  refine ZL ?_; refine EE.end _ rfl rfl ?_
  exact ⟨rfl, ⟨g7, c7, r3, hc7, r7, by omega⟩, hok⟩
theorem jWords_T (k n : Int) (a : Nat → Nat) (f t : Int) (fk tk : Nat) (r : Int) (d : Bool) (lb li lr lt : Int) (k1 k2 : Nat) (la lc ld le : Int) (w : World) (hS : Start w) (hl : isL lb li lr lt la lc ld le) (h : okJ k n a f t fk tk r d li lr) : Calls Tryz.prog 9 #[layV lb li lr lt k1 k2 la lc ld le, redV k n a f t fk tk r d] w fun x w' => ∃ v, x = .returned (.tuple #[v, .int .i64 0]) ∧ jnewW (jW k n a f t fk tk r d) w v w' := by
  have q := Below.refl w.heap.size w
  have hSF : ∀ X, Below w.heap.size w X → Start X := fun X b => hS.up b
  unfold jnewW
  clear hS
  refine X.fn Tryz.func9 rfl (n := 12) rfl rfl ?_
  refine Zr ?_
  refine LL.box (jlyL lb li lr lt k1 k2 la lc ld le) rfl rfl rfl rfl rfl ?_
  intro W2 g3 eg3 r4 z5 b1
  replace q := Zu q b1; have l6 := r4.lt
  refine LL.box (redL k n a f t fk tk r d) rfl rfl rfl rfl rfl ?_
  intro W8 g9 eg9 r10 z11 b7
  replace r4 := r4.up b7; replace b1 := Zu b1 b7; replace q := Zu q b7; refine Za ?_; refine Za ?_; refine Zq ?_; refine Zr ?_; have l12 := r10.lt; have l13 := r4.lt
  refine LL.alloc ([.slice none 0 0]) rfl rfl rfl rfl rfl ?_
  intro W15 g16 eg16 r17 z18 b14
  replace r10 := r10.up b14; replace b7 := Zu b7 b14; replace r4 := r4.up b14; replace b1 := Zu b1 b14; replace q := Zu q b14; refine Zq ?_; refine Zr ?_
  refine LL.val (R.func rfl rfl rfl) rfl rfl rfl ?_
  (have lg4 := r4.lt; have lg10 := r10.lt; have lg17 := r17.lt; refine Zy (R.call rfl rfl rfl) (jguarded_R _ [.pointer (some ⟨g3, 0, none⟩), .pointer (some ⟨g9, 0, none⟩), .pointer (some ⟨g16, 0, none⟩)] (by kernel_rfl) g16 (fun n' X => ∃ g c, RowL X g16 33 [.slice (some ⟨g, 0, none⟩) (jW k n a f t fk tk r d).length c] ∧ (jW k n a f t fk tk r d).length ≤ c ∧ Reads X (.slice (some ⟨g, 0, none⟩) (jW k n a f t fk tk r d).length c) (ints .u64 (jW k n a f t fk tk r d)) ∧ n' ≤ g) _ (by omega) (fun n' X Y b' ⟨g, c, h1, h2, h3, h4⟩ hb1 hb2 hg => ⟨g, c, h1.gr hg (by omega), h2, h3.gr hg (by omega), h4⟩) (fun W' b' => jwords1_T k n a f t fk tk r d lb li lr lt k1 k2 la lc ld le g3 g9 g16 _ W' (hSF _ (q.trans (b'.mono q.size))) hl h (r4.up b') (r10.up b') (r17.up b') ⟨by omega, by omega⟩)) ?_; rintro e @W ⟨rfl, ⟨n9, hn9, g, c, r91, hc9, rd9, hg9⟩, t9⟩; refine ⟨_, rfl, ?_⟩; replace q := t9.onB q (fun j hj => ⟨by omega, by omega⟩); clear r4 b1 r10 b7 r17 b14)
  refine Za ?_; refine Zq ?_; refine Zr ?_; refine Zl r91 ?_; refine Zm ?_; refine Za ?_; refine Za ?_; refine Zq ?_; refine ZR ?_; refine EE.ret _ rfl rfl ?_
  exact ⟨_, rfl, g, c, rfl, hc9, rd9, by omega, Nat.lt_of_not_le (fun hh => by have hjl := jW_len k n a f t fk tk r d; obtain ⟨_, _, hx⟩ := rd9.at; obtain ⟨_, _, e9, hlt9, _⟩ := hx (by split at hjl <;> omega); cases e9; omega), q⟩
/-- A store: where, and what. An act: its kind, where, and what. -/
abbrev Pt := Int × Nat
def pE (p : Pt) : List Value := [.int .i64 p.1, .int .u64 (p.2 : Int)]
theorem pEnc : Enc pE 2 := ⟨fun _ => rfl, fun t u hu => by
  simp only [pE, List.mem_cons, List.not_mem_nil, or_false] at hu
  rcases hu with rfl | rfl <;> rfl, by decide⟩
theorem Tryz.infoPut : (Tryz.prog.info? 59).map (fun i => (i.zero, i.size, i.bytes)) = some (some (.agg #[.int .i64 0, .int .u64 0]), 2, 16) := by kernel_rfl
theorem ElPut : ElT Tryz.prog 50 59 (.agg #[.int .i64 0, .int .u64 0]) 2 16 := info_parts_t Tryz.underlying50 Tryz.infoPut rfl
/-- The stores of words at a place: from the second one on, so many; all. -/
def jputN (at_ : Int) (ws : List Nat) (i : Nat) : List Pt := (List.range i).map fun j => (at_ + ((j + 1 : Nat) : Int), (ws[j + 1]?).getD 0)
def jputs (at_ : Int) (ws : List Nat) : List Pt := jputN at_ ws (ws.length - 1) ++ [(at_, (ws[0]?).getD 0)]
theorem jputN_succ {at_ : Int} {ws : List Nat} {i x : Nat} (hx : ws[i + 1]? = some x) : jputN at_ ws (i + 1) = jputN at_ ws i ++ [(at_ + ((i + 1 : Nat) : Int), x)] := by
  unfold jputN
  rw [List.range_succ, List.map_append, List.map_singleton, hx]
  rfl
theorem jputN_len (at_ : Int) (ws : List Nat) (i : Nat) : (jputN at_ ws i).length = i := by simp [jputN]
/-- Stores that lie in a variable. -/
def jout (go base : Nat) (ps : List Pt) (W : World) : Prop := ∃ v, RowL W go 50 [v] ∧ OwnsT pE 2 W base 59 v ps
theorem jstores1_T (k n : Int) (a : Nat → Nat) (f t : Int) (fk tk : Nat) (r : Int) (d : Bool) (lb li lr lt : Int) (k1 k2 : Nat) (la lc ld le : Int) (cl : Int) (gl gc gr go : Nat) (w : World) (hS : Start w) (hl : isL lb li lr lt la lc ld le) (hc : 0 ≤ cl ∧ cl ≤ 7) (h : okJ k n a f t fk tk r d li lr) (r1 : RowL w gl 31 (jlyL lb li lr lt k1 k2 la lc ld le)) (rc : RowL w gc 3 [.int .i64 cl]) (r2 : RowL w gr 28 (redL k n a f t fk tk r d)) (r3 : RowL w go 50 [.slice none 0 0]) (hne : go ≠ gl ∧ go ≠ gc ∧ go ≠ gr) : Calls Tryz.prog 42 #[.pointer (some ⟨gl, 0, none⟩), .pointer (some ⟨gc, 0, none⟩), .pointer (some ⟨gr, 0, none⟩), .pointer (some ⟨go, 0, none⟩)] w fun x w' => x = .returned (.tuple #[]) ∧ (∃ v, RowL w' go 50 [v] ∧ OwnsT pE 2 w' w.heap.size 59 v (jputs (64 + 64 * cl) (jW k n a f t fk tk r d))) ∧ Kept (jKW w go) w w' := by
  have q := Below.refl w.heap.size w
  have hok := Kept.refl (fun j => j < w.heap.size ∧ j ≠ go) w
  have lgo := r3.lt; have lgl := r1.lt; have lgc := rc.lt; have lgr := r2.lt
  have hlb := isL_b hl
  have hck := fun W (b : Below w.heap.size w W) => jcheck_T k n a f t fk tk r d lb li lr lt k1 k2 la lc ld le W (hS.up b) h
  have hly := fun W => jlay_ok k n a f t fk tk r d li lr hlb.1 hlb.2 h W
  have hjl := jW_len k n a f t fk tk r d
  obtain ⟨ws, ews⟩ : ∃ ws, jW k n a f t fk tk r d = ws := ⟨_, rfl⟩
  obtain ⟨kd, ekd⟩ : ∃ kd, jkdO k = kd := ⟨_, rfl⟩
  rw [ews] at hly hjl ⊢
  rw [ekd] at hck hly
  obtain ⟨N, hN⟩ : ∃ N, ws.length = N := ⟨_, rfl⟩
  unfold jnewW at hly
  rw [hN] at hly hjl
  have hN2 : 9 ≤ N ∧ N ≤ 19 := by split at hjl <;> omega
  unfold jputs
  rw [hN]
  clear hS h hlb hjl
  refine X.fn Tryz.func42 rfl (n := 40) rfl rfl ?_
  refine Zr ?_; refine Zv r1 ?_; refine Zl rc ?_
  refine Zy (R.call rfl rfl rfl) (jat_T _ _ _ _ _ _ _ _ _ _ _ _ (by first | assumption | omega) (by first | assumption | omega)) ?_
  rintro e W35 ⟨rfl, b34⟩
  refine ⟨_, rfl, ?_⟩; have zb34 := b34.size; replace r1 := r1.up b34; replace rc := rc.up b34; replace r2 := r2.up b34; replace r3 := r3.up b34; replace q := Zu q b34; replace hok := Zh hok b34; have y37 := hok.size; refine Za ?_; refine Zq ?_; refine Zc ?_
  refine CC.growT 4 (by kernel_rfl) (by kernel_rfl) ?_
  refine Gv r1 ?_
  refine Gv r2 ?_
  refine Gc (fun w' b' => hck w' (q.trans (b'.mono q.size))) ?_
  refine Gv r2 ?_
  refine GG.nil (fun W81 b80 => ?_)
  have zb80 := b80.size; replace b34 := Zu b34 b80; replace r1 := r1.up b80; replace rc := rc.up b80; replace r2 := r2.up b80; replace r3 := r3.up b80; replace q := Zu q b80; replace hok := Zh hok b80; have y82 := hok.size; have l87 := r1.lt; have l88 := rc.lt; have l89 := r2.lt; have l90 := r3.lt
  (refine Zy (R.call rfl rfl rfl) (hly _) ?_; rintro e W86 ⟨v7, rfl, g7, c7, rfl, hc7, r7, hg7, hl7, b83⟩; refine ⟨_, rfl, ?_⟩)
  have zb83 := b83.size; replace b80 := Zu b80 b83; replace b34 := Zu b34 b83; replace r1 := r1.up b83; replace rc := rc.up b83; replace r2 := r2.up b83; replace r3 := r3.up b83; replace q := Zu q b83; replace hok := Zh hok b83; have y94 := hok.size; refine Za ?_; refine Zq ?_; refine Zc ?_; refine Zr ?_; refine Za ?_; refine Zq ?_; refine CC.block ?_
  clear r1 rc r2 hck hly
  refine CC.loop (α := Nat × Value) (fun s => [(3, .pointer (some ⟨go, 0, none⟩)), (4, .int .i64 (64 + 64 * cl)), (5, .slice (some ⟨g7, 0, none⟩) N c7), (6, .int .i64 ((s.1 + 1 : Nat) : Int))]) (fun s W => s.1 ≤ N - 1 ∧ Kept (fun j => j < w.heap.size ∧ j ≠ go) w W ∧ g7 < W.heap.size ∧ Reads W (.slice (some ⟨g7, 0, none⟩) N c7) (ints .u64 ws) ∧ RowL W go 50 [s.2] ∧ OwnsT pE 2 W (g7 + 1) 59 s.2 (jputN (64 + 64 * cl) ws s.1)) (fun s => N - s.1) (0, .slice none 0 0) ⟨rfl, rfl, rfl, rfl, trivial⟩ ⟨by show 0 ≤ N - 1; omega, hok, by omega, r7, r3, OwnsT.none _ _ _⟩ ?_
  have hg7w : w.heap.size ≤ g7 := by omega
  clear q hok r7 r3 hg7 hl7
  rintro ⟨i, v⟩ W ⟨hi, hkk, hl7, r7, r3, o⟩
  simp only at hi o r3
  show CC none Tryz.prog _ 40 [] (sl [(3, .pointer (some ⟨go, 0, none⟩)), (4, .int .i64 (64 + 64 * cl)), (5, .slice (some ⟨g7, 0, none⟩) N c7), (6, .int .i64 ((i + 1 : Nat) : Int))]) _ W
  have yq := hkk.size
  by_cases hlt : i < N - 1
  case neg =>
    obtain rfl : i = N - 1 := by omega
    obtain ⟨u, hu⟩ : ∃ u, ws[0]? = some u := ⟨_, List.getElem?_eq_getElem (by omega)⟩
    have c1 : W.cell? ⟨g7, 0 + 0, none⟩ = some (.int .u64 (u : Int)) := reads_int r7 hu
    have hjn := jputN_len (64 + 64 * cl) ws (N - 1)
    rw [hu]
    refine Zc ?_; refine Zr ?_; refine Zm ?_; refine Zm ?_; refine Zn ?_; refine ZltF ?_; refine Zq ?_; refine ZN ?_; refine CC.exit ?_; refine EE.thenX ?_; refine EE.thenX ?_; refine EE.inX ?_; refine ZT ?_
    refine CC.join (fun l_ Wz => l_ = [(3, Value.pointer (some { block := go, off := 0 })), (4, Value.int IntKind.i64 (64 + 64 * cl)), (5, Value.slice (some { block := g7, off := 0 }) N c7), (6, Value.int IntKind.i64 ↑(N - 1 + 1)), (15, Value.int IntKind.i64 ↑(N - 1 + 1)), (16, Value.slice (some { block := g7, off := 0 }) N c7), (17, Value.int IntKind.i64 ↑N), (18, Value.bool false)] ∧ (jout go (g7 + 1) (jputN (64 + 64 * cl) ws (N - 1) ++ [(64 + 64 * cl, u)]) Wz) ∧ (Kept (fun j => j < w.heap.size ∧ j ≠ go) w Wz) ∧ (Reads Wz (Value.slice (some { block := g7, off := 0 }) N c7) (ints IntKind.u64 ws)) ∧ (W.heap.size ≤ Wz.heap.size)) (fun Ja14 => ?_) ?restJa14
    case' restJa14 =>
      clear hkk
      clear r7
      rintro _ Wz ⟨rfl, hx, hkk, r7, za13⟩
    refine EE.end _ rfl rfl ?_
    (obtain ⟨v', r3, oa⟩ := hx; exact ⟨rfl, ⟨_, r3, oa.lower (by omega)⟩, hkk⟩)
    refine CC.freeZ (fun W_ j => j < W_.heap.size ∧ (j ≠ go ∧ j ≤ g7)) (by kernel_rfl) (by kernel_rfl) (fun Wa16 ba15 za17 => ?_)
    replace hkk := Zh hkk ba15; have ya18 := hkk.size; replace r7 := r7.up ba15; replace r3 := r3.up ba15; replace o := o.up ba15; replace c1 := cell_up c1 ba15
    have hok : Kept (fun j => j < Wa16.heap.size ∧ (j ≠ go ∧ j ≤ g7)) Wa16 Wa16 := Kept.refl _ _
    have fzc1 := fzCell (K := fun j => j < Wa16.heap.size ∧ (j ≠ go ∧ j ≤ g7)) c1 ⟨World.block_lt_of_cell? _ _ c1, (by first | trivial | omega)⟩
    refine AA.pure 1 rfl hok (by kernel_rfl) (fun w' b' => R.move rfl rfl) rfl rfl ?_
    refine AA.pure 2 rfl hok (by kernel_rfl) (fun w' b' => R.move rfl rfl) rfl rfl ?_
    refine AA.pure 3 rfl hok (by kernel_rfl) (fun w' b' => R.index rfl rfl rfl (I.ixS1c rfl rfl (by omega))) rfl rfl ?_
    refine AA.pure 4 rfl hok (by kernel_rfl) (fun w' b' => R.load rfl rfl (I.ld1 rfl (cell_kept c1 b' (by refine ⟨?_, ?_⟩ <;> omega)))) rfl rfl ?_
    refine AA.pure 5 rfl hok (by kernel_rfl) (fun w' b' => R.buildV rfl rfl (v := .agg #[Value.int IntKind.i64 (64 + 64 * cl), Value.int IntKind.u64 ↑u]) (fun _ => by kernel_rfl)) rfl rfl ?_
    refine AA.two 0 6 (by kernel_rfl) ?_ ?_
    refine SR.val rfl (R.load rfl rfl (I.ld1 rfl (RowL.cell r3 rfl))) rfl rfl hok ?_
    refine AA.one 6 (by kernel_rfl) ?_
    have la19 := r3.lt
    refine ZR.lit (e := 59) [Value.int IntKind.i64 (64 + 64 * cl), Value.int IntKind.u64 ↑u] 1 rfl rfl rfl (fun _ => by kernel_rfl) rfl rfl ?_
    intro Wa21 ga22 ega22 ra23 za24 ba20
    replace ba15 := Zu ba15 ba20; replace hkk := Zh hkk ba20; have ya25 := hkk.size; replace r7 := r7.up ba20; replace r3 := r3.up ba20; replace o := o.up ba20; replace c1 := cell_up c1 ba20; replace hok := Zh hok ba20; have ya26 := hok.size
    refine ⟨hok, ?_⟩
    refine AA.one 7 (by kernel_rfl) ?_
    (refine SR.appendT2 rfl rfl rfl pEnc ElPut o (RowL.readsT (ts := [((64 + 64 * cl : Int), u)]) pEnc (by assumption) 1 (by simp)) (by simp [maxLen]; omega) (by simp; omega) (by omega) rfl rfl ?_; intro v' Wa oa gra hva; replace hkk := hkk.trans (grown_kept gra (fun j h => by have := h.1; have := hkk.size; omega) (fun j h e => by have := own_ge o j e; have := h.1; omega)); replace r3 := r3.grO gra (own_ne o (by omega)); replace r7 := r7.grO gra (own_ne o (by omega)); replace hok := hok.trans (grown_kept gra (fun j h => by have := h.1; have := hok.size; omega) (fun j h e => by have := own_ge o j e; have := h.2.2; omega)); have hsz := gra.size; clear o; obtain ⟨a', cp, rfl, hcp⟩ := (oa.reads pEnc).form rfl; refine ⟨hok, ?_⟩)
    refine AA.one 8 (by kernel_rfl) ?_
    (refine ZR.store rfl rfl rfl rfl rfl r3 (by exact Nat.le_of_ble_eq_true rfl) rfl rfl rfl rfl ?_; intro Wz r9 gz zz9; have oz := oa.grown gz (own_ne oa (by omega)); have hx : jout go (g7 + 1) _ Wz := ⟨_, r9, oz⟩; replace hkk := hkk.trans (grown_kept gz (fun j h => by have := h.1; have := hkk.size; omega) (fun j h e => by cases e; exact h.2 rfl)); replace r7 := r7.gr gz (by omega); replace hok := hok.trans (grown_kept gz (fun j h => by have := h.1; have := hok.size; omega) (fun j h e => by cases e; exact h.2.1 rfl)); clear r3 oa oz r9 hva gra; refine ⟨hok, ?_⟩)
    refine AA.done rfl ?_
    clear fzc1 hok
    exact EE.weak (Ja14 _ _ ⟨rfl, (by first | assumption | omega), (by first | assumption | omega), (by first | assumption | omega), (by first | assumption | omega)⟩) ⟨rfl, rfl, rfl, rfl, rfl, rfl, rfl, rfl, trivial⟩
    have la27 := r3.lt
    refine ZR.lit (e := 59) [Value.int IntKind.i64 (64 + 64 * cl), Value.int IntKind.u64 ↑u] 1 rfl rfl rfl (fun _ => by kernel_rfl) rfl rfl ?_
    intro Wa29 ga30 ega30 ra31 za32 ba28
    replace ba15 := Zu ba15 ba28; replace hkk := Zh hkk ba28; have ya33 := hkk.size; replace r7 := r7.up ba28; replace r3 := r3.up ba28; replace o := o.up ba28; replace c1 := cell_up c1 ba28; replace hok := Zh hok ba28; have ya34 := hok.size
    refine ⟨hok, ?_⟩
    refine AA.one 0 (by kernel_rfl) ?_
    refine SR.val rfl (R.load rfl rfl (I.ld1 rfl (RowL.cell r3 rfl))) rfl rfl hok ?_
    refine AA.one 7 (by kernel_rfl) ?_
    (refine SR.appendT2 rfl rfl rfl pEnc ElPut o (RowL.readsT (ts := [((64 + 64 * cl : Int), u)]) pEnc (by assumption) 1 (by simp)) (by simp [maxLen]; omega) (by simp; omega) (by omega) rfl rfl ?_; intro v' Wa oa gra hva; replace hkk := hkk.trans (grown_kept gra (fun j h => by have := h.1; have := hkk.size; omega) (fun j h e => by have := own_ge o j e; have := h.1; omega)); replace r3 := r3.grO gra (own_ne o (by omega)); replace r7 := r7.grO gra (own_ne o (by omega)); replace hok := hok.trans (grown_kept gra (fun j h => by have := h.1; have := hok.size; omega) (fun j h e => by have := own_ge o j e; have := h.2.2; omega)); have hsz := gra.size; clear o; obtain ⟨a', cp, rfl, hcp⟩ := (oa.reads pEnc).form rfl; refine ⟨hok, ?_⟩)
    refine AA.one 8 (by kernel_rfl) ?_
    (refine ZR.store rfl rfl rfl rfl rfl r3 (by exact Nat.le_of_ble_eq_true rfl) rfl rfl rfl rfl ?_; intro Wz r9 gz zz9; have oz := oa.grown gz (own_ne oa (by omega)); have hx : jout go (g7 + 1) _ Wz := ⟨_, r9, oz⟩; replace hkk := hkk.trans (grown_kept gz (fun j h => by have := h.1; have := hkk.size; omega) (fun j h e => by cases e; exact h.2 rfl)); replace r7 := r7.gr gz (by omega); replace hok := hok.trans (grown_kept gz (fun j h => by have := h.1; have := hok.size; omega) (fun j h e => by cases e; exact h.2.1 rfl)); clear r3 oa oz r9 hva gra; refine ⟨hok, ?_⟩)
    refine AA.done rfl ?_
    clear fzc1 hok
    exact EE.weak (Ja14 _ _ ⟨rfl, (by first | assumption | omega), (by first | assumption | omega), (by first | assumption | omega), (by first | assumption | omega)⟩) ⟨rfl, rfl, rfl, rfl, rfl, rfl, rfl, rfl, trivial⟩
  obtain ⟨u, hu⟩ : ∃ u, ws[i + 1]? = some u := ⟨_, List.getElem?_eq_getElem (by omega)⟩
  have hst := jputN_succ (at_ := 64 + 64 * cl) hu
  have c1 : W.cell? ⟨g7, 0 + (i + 1), none⟩ = some (.int .u64 (u : Int)) := reads_int r7 hu
  have hjn := jputN_len (64 + 64 * cl) ws i
  refine Zc ?_; refine Zr ?_; refine Zm ?_; refine Zm ?_; refine Zn ?_; refine ZltT ?_; refine Zq ?_; refine ZY ?_; refine ZK ?_; refine ZT ?_; refine Zc ?_; refine CC.block ?_
  refine CC.join (fun l_ Wz => l_ = [(3, Value.pointer (some { block := go, off := 0 })), (4, Value.int IntKind.i64 (64 + 64 * cl)), (5, Value.slice (some { block := g7, off := 0 }) N c7), (6, Value.int IntKind.i64 ↑(i + 1)), (15, Value.int IntKind.i64 ↑(i + 1)), (16, Value.slice (some { block := g7, off := 0 }) N c7), (17, Value.int IntKind.i64 ↑N), (18, Value.bool true)] ∧ (jout go (g7 + 1) (jputN (64 + 64 * cl) ws i ++ [(64 + 64 * cl + ↑(i + 1), u)]) Wz) ∧ (Kept (fun j => j < w.heap.size ∧ j ≠ go) w Wz) ∧ (Reads Wz (Value.slice (some { block := g7, off := 0 }) N c7) (ints IntKind.u64 ws)) ∧ (W.heap.size ≤ Wz.heap.size)) (fun Jb14 => ?_) ?restJb14
  case' restJb14 =>
    clear hkk
    clear r7
    rintro _ Wz ⟨rfl, hx, hkk, r7, zb13⟩
  refine EE.inN ?_; refine ZT ?_; refine CC.region ?_; refine Zm ?_
  refine LL.val (R.addNc rfl rfl rfl rfl (by omega)) rfl rfl rfl ?_
  refine Za ?_; refine ZL ?_
  (obtain ⟨v', r3, oa⟩ := hx; have zk := hkk.size; exact EE.round (i + 1, v') ⟨rfl, rfl, rfl, rfl, trivial⟩ ⟨by show i + 1 ≤ N - 1; omega, hkk, by omega, r7, r3, by show OwnsT pE 2 _ _ _ _ (jputN _ ws (i + 1)); rw [hst]; exact oa⟩ (by show N - (i + 1) < N - i; omega))
  refine CC.freeZ (fun W_ j => j < W_.heap.size ∧ (j ≠ go ∧ j ≤ g7)) (by kernel_rfl) (by kernel_rfl) (fun Wb16 bb15 zb17 => ?_)
  replace hkk := Zh hkk bb15; have yb18 := hkk.size; replace r7 := r7.up bb15; replace r3 := r3.up bb15; replace o := o.up bb15; replace c1 := cell_up c1 bb15
  have hok : Kept (fun j => j < Wb16.heap.size ∧ (j ≠ go ∧ j ≤ g7)) Wb16 Wb16 := Kept.refl _ _
  have fzc1 := fzCell (K := fun j => j < Wb16.heap.size ∧ (j ≠ go ∧ j ≤ g7)) c1 ⟨World.block_lt_of_cell? _ _ c1, (by first | trivial | omega)⟩
  refine AA.pure 1 rfl hok (by kernel_rfl) (fun w' b' => R.move rfl rfl) rfl rfl ?_
  refine AA.pure 2 rfl hok (by kernel_rfl) (fun w' b' => R.move rfl rfl) rfl rfl ?_
  refine AA.pure 3 rfl hok (by kernel_rfl) (fun w' b' => R.addI rfl rfl rfl (by omega)) rfl rfl ?_
  refine AA.pure 4 rfl hok (by kernel_rfl) (fun w' b' => R.move rfl rfl) rfl rfl ?_
  refine AA.pure 5 rfl hok (by kernel_rfl) (fun w' b' => R.move rfl rfl) rfl rfl ?_
  refine AA.pure 6 rfl hok (by kernel_rfl) (fun w' b' => R.index rfl rfl rfl (I.ixS1 rfl (by omega))) rfl rfl ?_
  refine AA.pure 7 rfl hok (by kernel_rfl) (fun w' b' => R.load rfl rfl (I.ld1 rfl (cell_kept c1 b' (by refine ⟨?_, ?_⟩ <;> omega)))) rfl rfl ?_
  refine AA.pure 8 rfl hok (by kernel_rfl) (fun w' b' => R.buildV rfl rfl (v := .agg #[Value.int IntKind.i64 (64 + 64 * cl + ↑(i + 1)), Value.int IntKind.u64 ↑u]) (fun _ => by kernel_rfl)) rfl rfl ?_
  refine AA.two 0 9 (by kernel_rfl) ?_ ?_
  refine SR.val rfl (R.load rfl rfl (I.ld1 rfl (RowL.cell r3 rfl))) rfl rfl hok ?_
  refine AA.one 9 (by kernel_rfl) ?_
  have lb19 := r3.lt
  refine ZR.lit (e := 59) [Value.int IntKind.i64 (64 + 64 * cl + ↑(i + 1)), Value.int IntKind.u64 ↑u] 1 rfl rfl rfl (fun _ => by kernel_rfl) rfl rfl ?_
  intro Wb21 gb22 egb22 rb23 zb24 bb20
  replace bb15 := Zu bb15 bb20; replace hkk := Zh hkk bb20; have yb25 := hkk.size; replace r7 := r7.up bb20; replace r3 := r3.up bb20; replace o := o.up bb20; replace c1 := cell_up c1 bb20; replace hok := Zh hok bb20; have yb26 := hok.size
  refine ⟨hok, ?_⟩
  refine AA.one 10 (by kernel_rfl) ?_
  (refine SR.appendT2 rfl rfl rfl pEnc ElPut o (RowL.readsT (ts := [((64 + 64 * cl + ((i + 1 : Nat) : Int) : Int), u)]) pEnc (by assumption) 1 (by simp)) (by simp [maxLen]; omega) (by simp; omega) (by omega) rfl rfl ?_; intro v' Wa oa gra hva; replace hkk := hkk.trans (grown_kept gra (fun j h => by have := h.1; have := hkk.size; omega) (fun j h e => by have := own_ge o j e; have := h.1; omega)); replace r3 := r3.grO gra (own_ne o (by omega)); replace r7 := r7.grO gra (own_ne o (by omega)); replace hok := hok.trans (grown_kept gra (fun j h => by have := h.1; have := hok.size; omega) (fun j h e => by have := own_ge o j e; have := h.2.2; omega)); have hsz := gra.size; clear o; obtain ⟨a', cp, rfl, hcp⟩ := (oa.reads pEnc).form rfl; refine ⟨hok, ?_⟩)
  refine AA.one 11 (by kernel_rfl) ?_
  (refine ZR.store rfl rfl rfl rfl rfl r3 (by exact Nat.le_of_ble_eq_true rfl) rfl rfl rfl rfl ?_; intro Wz r9 gz zz9; have oz := oa.grown gz (own_ne oa (by omega)); have hx : jout go (g7 + 1) _ Wz := ⟨_, r9, oz⟩; replace hkk := hkk.trans (grown_kept gz (fun j h => by have := h.1; have := hkk.size; omega) (fun j h e => by cases e; exact h.2 rfl)); replace r7 := r7.gr gz (by omega); replace hok := hok.trans (grown_kept gz (fun j h => by have := h.1; have := hok.size; omega) (fun j h e => by cases e; exact h.2.1 rfl)); clear r3 oa oz r9 hva gra; refine ⟨hok, ?_⟩)
  refine AA.done rfl ?_
  clear fzc1 hok
  exact EE.weak (Jb14 _ _ ⟨rfl, (by first | assumption | omega), (by first | assumption | omega), (by first | assumption | omega), (by first | assumption | omega)⟩) ⟨rfl, rfl, rfl, rfl, rfl, rfl, rfl, rfl, trivial⟩
  have lb27 := r3.lt
  refine ZR.lit (e := 59) [Value.int IntKind.i64 (64 + 64 * cl + ↑(i + 1)), Value.int IntKind.u64 ↑u] 1 rfl rfl rfl (fun _ => by kernel_rfl) rfl rfl ?_
  intro Wb29 gb30 egb30 rb31 zb32 bb28
  replace bb15 := Zu bb15 bb28; replace hkk := Zh hkk bb28; have yb33 := hkk.size; replace r7 := r7.up bb28; replace r3 := r3.up bb28; replace o := o.up bb28; replace c1 := cell_up c1 bb28; replace hok := Zh hok bb28; have yb34 := hok.size
  refine ⟨hok, ?_⟩
  refine AA.one 0 (by kernel_rfl) ?_
  refine SR.val rfl (R.load rfl rfl (I.ld1 rfl (RowL.cell r3 rfl))) rfl rfl hok ?_
  refine AA.one 10 (by kernel_rfl) ?_
  (refine SR.appendT2 rfl rfl rfl pEnc ElPut o (RowL.readsT (ts := [((64 + 64 * cl + ((i + 1 : Nat) : Int) : Int), u)]) pEnc (by assumption) 1 (by simp)) (by simp [maxLen]; omega) (by simp; omega) (by omega) rfl rfl ?_; intro v' Wa oa gra hva; replace hkk := hkk.trans (grown_kept gra (fun j h => by have := h.1; have := hkk.size; omega) (fun j h e => by have := own_ge o j e; have := h.1; omega)); replace r3 := r3.grO gra (own_ne o (by omega)); replace r7 := r7.grO gra (own_ne o (by omega)); replace hok := hok.trans (grown_kept gra (fun j h => by have := h.1; have := hok.size; omega) (fun j h e => by have := own_ge o j e; have := h.2.2; omega)); have hsz := gra.size; clear o; obtain ⟨a', cp, rfl, hcp⟩ := (oa.reads pEnc).form rfl; refine ⟨hok, ?_⟩)
  refine AA.one 11 (by kernel_rfl) ?_
  (refine ZR.store rfl rfl rfl rfl rfl r3 (by exact Nat.le_of_ble_eq_true rfl) rfl rfl rfl rfl ?_; intro Wz r9 gz zz9; have oz := oa.grown gz (own_ne oa (by omega)); have hx : jout go (g7 + 1) _ Wz := ⟨_, r9, oz⟩; replace hkk := hkk.trans (grown_kept gz (fun j h => by have := h.1; have := hkk.size; omega) (fun j h e => by cases e; exact h.2 rfl)); replace r7 := r7.gr gz (by omega); replace hok := hok.trans (grown_kept gz (fun j h => by have := h.1; have := hok.size; omega) (fun j h e => by cases e; exact h.2.1 rfl)); clear r3 oa oz r9 hva gra; refine ⟨hok, ?_⟩)
  refine AA.done rfl ?_
  clear fzc1 hok
  exact EE.weak (Jb14 _ _ ⟨rfl, (by first | assumption | omega), (by first | assumption | omega), (by first | assumption | omega), (by first | assumption | omega)⟩) ⟨rfl, rfl, rfl, rfl, rfl, rfl, rfl, rfl, trivial⟩
/-- Why stores are refused. -/
def jwhyS (k n : Int) (a : Nat → Nat) (f t : Int) (fk tk : Nat) (r : Int) (d : Bool) (lb li lr lt : Int) (k1 k2 : Nat) (la lc ld le : Int) (cl c : Int) : Prop := (¬(isL lb li lr lt la lc ld le ∧ 0 ≤ cl ∧ cl ≤ 7) ∧ c = 2) ∨ ((isL lb li lr lt la lc ld le ∧ 0 ≤ cl ∧ cl ≤ 7) ∧ ¬okJ k n a f t fk tk r d li lr ∧ c = 310)
theorem jstores1_P (k n : Int) (a : Nat → Nat) (f t : Int) (fk tk : Nat) (r : Int) (d : Bool) (lb li lr lt : Int) (k1 k2 : Nat) (la lc ld le : Int) (cl c : Int) (gl gc gr go ge : Nat) (w : World) (hS : Start w) (hb : ∀ x ∈ jsixL a, x < 18446744073709551616) (h : jwhyS k n a f t fk tk r d lb li lr lt k1 k2 la lc ld le cl c) (r1 : RowL w gl 31 (jlyL lb li lr lt k1 k2 la lc ld le)) (rc : RowL w gc 3 [.int .i64 cl]) (r2 : RowL w gr 28 (redL k n a f t fk tk r d)) : Calls Tryz.prog 42 #[.pointer (some ⟨gl, 0, none⟩), .pointer (some ⟨gc, 0, none⟩), .pointer (some ⟨gr, 0, none⟩), .pointer (some ⟨go, 0, none⟩)] w fun x w' => x = .panicked (chain1 (jrefV c)) ∧ Kept (jKW w ge) w w' := by
  have q := Below.refl w.heap.size w
  rcases h with ⟨hl, rfl⟩ | ⟨⟨hl, hc⟩, hn, rfl⟩
  · clear hS
    refine X.fnP Tryz.func42 rfl (n := 40) rfl rfl ?_
    refine Zr ?_; refine Zv r1 ?_; refine Zl rc ?_; have l25 := r1.lt; have l26 := rc.lt; have l27 := r2.lt
    (refine LL.callP (R.call rfl rfl rfl) rfl rfl (jat_P lb li lr lt k1 k2 la lc ld le cl _ hl) ?_; rintro e W24 ⟨rfl, b21⟩; refine ⟨_, rfl, ?_⟩)
    have zb21 := b21.size; replace r1 := r1.up b21; replace rc := rc.up b21; replace r2 := r2.up b21; replace q := Zu q b21; refine EE.thenP ?_; refine EE.panM ?_
    exact ⟨rfl, bkept q (fun _ hj => hj.1)⟩
  · have hcn := fun W (b : Below w.heap.size w W) => jcheck_F k n a f t fk tk r d lb li lr lt k1 k2 la lc ld le W (hS.up b) hb hn
    have r1F := fun X (b : Below w.heap.size w X) => r1.up b
    have r2F := fun X (b : Below w.heap.size w X) => r2.up b
    clear hS hn
    refine X.fnP Tryz.func42 rfl (n := 40) rfl rfl ?_
    refine Zr ?_; refine Zv r1 ?_; refine Zl rc ?_
    refine Zy (R.call rfl rfl rfl) (jat_T _ _ _ _ _ _ _ _ _ _ _ _ (by first | assumption | omega) (by first | assumption | omega)) ?_
    rintro e Wa2 ⟨rfl, ba1⟩
    refine ⟨_, rfl, ?_⟩; have zba1 := ba1.size; replace r1 := r1.up ba1; replace rc := rc.up ba1; replace r2 := r2.up ba1; replace q := Zu q ba1; refine Za ?_; refine Zq ?_; refine Zc ?_
    refine CC.freeP (fun X => Below w.heap.size w X) (by kernel_rfl) rfl ?_
    have hok : Below w.heap.size w _ := q.trans ((below_drew (w := _)).mono q.size)
    refine AP.pure 0 rfl hok (by kernel_rfl) (fun w' hw' => R.load rfl rfl (I.ldNc (vs := jlyL lb li lr lt k1 k2 la lc ld le) (RowL.cells (r1F _ hw') rfl) (by rfl) (by rfl))) rfl rfl ?_
    refine AP.pure 1 rfl hok (by kernel_rfl) (fun w' hw' => R.load rfl rfl (I.ldNc (vs := redL k n a f t fk tk r d) (RowL.cells (r2F _ hw') rfl) (by rfl) (by rfl))) rfl rfl ?_
    refine AP.pure 3 rfl hok (by kernel_rfl) (fun w' hw' => R.load rfl rfl (I.ldNc (vs := redL k n a f t fk tk r d) (RowL.cells (r2F _ hw') rfl) (by rfl) (by rfl))) rfl rfl ?_
    refine AP.pan 2 (by kernel_rfl) rfl rfl (R.call rfl rfl rfl) rfl (hcn _ hok) ?_
    rintro e w' ⟨rfl, hb2⟩
    refine ⟨_, rfl, ?_⟩; refine EE.thenP ?_; refine EE.panM ?_
    exact ⟨rfl, bkept (hok.trans (hb2.mono hok.size)) (fun _ hj => hj.1)⟩
theorem jStores_T (k n : Int) (a : Nat → Nat) (f t : Int) (fk tk : Nat) (r : Int) (d : Bool) (lb li lr lt : Int) (k1 k2 : Nat) (la lc ld le : Int) (cl : Int) (w : World) (hS : Start w) (hl : isL lb li lr lt la lc ld le) (hc : 0 ≤ cl ∧ cl ≤ 7) (h : okJ k n a f t fk tk r d li lr) : Calls Tryz.prog 18 #[layV lb li lr lt k1 k2 la lc ld le, .int .i64 cl, redV k n a f t fk tk r d] w fun x w' => ∃ v, x = .returned (.tuple #[v, .int .i64 0]) ∧ OwnsT pE 2 w' w.heap.size 59 v (jputs (64 + 64 * cl) (jW k n a f t fk tk r d)) ∧ Below w.heap.size w w' := by
  have q := Below.refl w.heap.size w
  have hSF : ∀ X, Below w.heap.size w X → Start X := fun X b => hS.up b
  clear hS
  refine X.fn Tryz.func18 rfl (n := 14) rfl rfl ?_
  refine Zr ?_
  refine LL.box (jlyL lb li lr lt k1 k2 la lc ld le) rfl rfl rfl rfl rfl ?_
  intro W2 g3 eg3 r4 z5 b1
  replace q := Zu q b1; have l6 := r4.lt
  refine LL.box [.int .i64 cl] rfl rfl rfl rfl rfl ?_
  intro W8 g9 eg9 r10 z11 b7
  replace r4 := r4.up b7; replace b1 := Zu b1 b7; replace q := Zu q b7; have l12 := r10.lt; have l13 := r4.lt
  refine LL.box (redL k n a f t fk tk r d) rfl rfl rfl rfl rfl ?_
  intro W15 g16 eg16 r17 z18 b14
  replace r10 := r10.up b14; replace b7 := Zu b7 b14; replace r4 := r4.up b14; replace b1 := Zu b1 b14; replace q := Zu q b14; refine Za ?_; refine Za ?_; refine Zq ?_; refine Zr ?_; have l19 := r17.lt; have l20 := r10.lt; have l21 := r4.lt
  refine LL.alloc ([.slice none 0 0]) rfl rfl rfl rfl rfl ?_
  intro W23 g24 eg24 r25 z26 b22
  replace r17 := r17.up b22; replace b14 := Zu b14 b22; replace r10 := r10.up b22; replace b7 := Zu b7 b22; replace r4 := r4.up b22; replace b1 := Zu b1 b22; replace q := Zu q b22; refine Zq ?_; refine Zr ?_
  refine LL.val (R.func rfl rfl rfl) rfl rfl rfl ?_
  (have lg4 := r4.lt; have lg10 := r10.lt; have lg17 := r17.lt; have lg25 := r25.lt; refine Zy (R.call rfl rfl rfl) (jguarded_R _ [.pointer (some ⟨g3, 0, none⟩), .pointer (some ⟨g9, 0, none⟩), .pointer (some ⟨g16, 0, none⟩), .pointer (some ⟨g24, 0, none⟩)] (by kernel_rfl) g24 (fun n' X => jout g24 n' (jputs (64 + 64 * cl) (jW k n a f t fk tk r d)) X) _ (by omega) (fun n' X Y b' ⟨v, h1, h2⟩ hb1 hb2 hg => ⟨v, h1.gr hg (by omega), h2.grown hg (own_ne h2 hb2)⟩) (fun W' b' => jstores1_T k n a f t fk tk r d lb li lr lt k1 k2 la lc ld le cl g3 g9 g16 g24 W' (hSF _ (q.trans (b'.mono q.size))) hl hc h (r4.up b') (r10.up b') (r17.up b') (r25.up b') ⟨by omega, by omega, by omega⟩)) ?_; rintro e @W ⟨rfl, ⟨n9, hn9, v9, r91, o91⟩, t9⟩; refine ⟨_, rfl, ?_⟩; replace q := t9.onB q (fun j hj => ⟨by omega, by omega⟩); clear r4 b1 r10 b7 r17 b14 r25 b22)
  refine Za ?_; refine Zq ?_; refine Zr ?_; refine Zl r91 ?_; refine Zm ?_; refine Za ?_; refine Za ?_; refine Zq ?_; refine ZR ?_; refine EE.ret _ rfl rfl ?_
  exact ⟨_, rfl, o91.lower (by omega), q⟩
theorem jStores_P (k n : Int) (a : Nat → Nat) (f t : Int) (fk tk : Nat) (r : Int) (d : Bool) (lb li lr lt : Int) (k1 k2 : Nat) (la lc ld le : Int) (cl c : Int) (w : World) (hS : Start w) (hb : ∀ x ∈ jsixL a, x < 18446744073709551616) (h : jwhyS k n a f t fk tk r d lb li lr lt k1 k2 la lc ld le cl c) : Calls Tryz.prog 18 #[layV lb li lr lt k1 k2 la lc ld le, .int .i64 cl, redV k n a f t fk tk r d] w fun x w' => x = .returned (.tuple #[.slice none 0 0, .int .i64 c]) ∧ Below w.heap.size w w' := by
  have q := Below.refl w.heap.size w
  have hSF : ∀ X, Below w.heap.size w X → Start X := fun X b => hS.up b
  clear hS
  refine X.fn Tryz.func18 rfl (n := 14) rfl rfl ?_
  refine Zr ?_
  refine LL.box (jlyL lb li lr lt k1 k2 la lc ld le) rfl rfl rfl rfl rfl ?_
  intro W2 g3 eg3 r4 z5 b1
  replace q := Zu q b1; have l6 := r4.lt
  refine LL.box [.int .i64 cl] rfl rfl rfl rfl rfl ?_
  intro W8 g9 eg9 r10 z11 b7
  replace r4 := r4.up b7; replace b1 := Zu b1 b7; replace q := Zu q b7; have l12 := r10.lt; have l13 := r4.lt
  refine LL.box (redL k n a f t fk tk r d) rfl rfl rfl rfl rfl ?_
  intro W15 g16 eg16 r17 z18 b14
  replace r10 := r10.up b14; replace b7 := Zu b7 b14; replace r4 := r4.up b14; replace b1 := Zu b1 b14; replace q := Zu q b14; refine Za ?_; refine Za ?_; refine Zq ?_; refine Zr ?_; have l19 := r17.lt; have l20 := r10.lt; have l21 := r4.lt
  refine LL.alloc ([.slice none 0 0]) rfl rfl rfl rfl rfl ?_
  intro W23 g24 eg24 r25 z26 b22
  replace r17 := r17.up b22; replace b14 := Zu b14 b22; replace r10 := r10.up b22; replace b7 := Zu b7 b22; replace r4 := r4.up b22; replace b1 := Zu b1 b22; replace q := Zu q b22; refine Zq ?_; refine Zr ?_
  refine LL.val (R.func rfl rfl rfl) rfl rfl rfl ?_
  (have lg4 := r4.lt; have lg10 := r10.lt; have lg17 := r17.lt; have lg25 := r25.lt; refine Zy (R.call rfl rfl rfl) (jguarded_P c _ [.pointer (some ⟨g3, 0, none⟩), .pointer (some ⟨g9, 0, none⟩), .pointer (some ⟨g16, 0, none⟩), .pointer (some ⟨g24, 0, none⟩)] (by kernel_rfl) g3 _ (by omega) (fun W' b' => jstores1_P k n a f t fk tk r d lb li lr lt k1 k2 la lc ld le cl c g3 g9 g16 g24 g3 W' (hSF _ (q.trans (b'.mono q.size))) hb h (r4.up b') (r10.up b') (r17.up b'))) ?_; rintro e @W ⟨rfl, t9⟩; refine ⟨_, rfl, ?_⟩; replace q := t9.onB q (fun j hj => ⟨by omega, by omega⟩); replace r25 := r25.kept t9 ⟨by omega, by omega⟩; clear r4 b1 r10 b7 b14 r17 b22)
  refine Za ?_; refine Zq ?_; refine Zr ?_; refine Zl r25 ?_; refine Zm ?_; refine Za ?_; refine Za ?_; refine Zq ?_; refine ZR ?_; refine EE.ret _ rfl rfl ?_
  exact ⟨rfl, q⟩
abbrev jK2 (w : World) (go gh : Nat) (i : Nat) : Prop := i < w.heap.size ∧ i ≠ go ∧ i ≠ gh
theorem jguarded_R2 (F : FuncId) (cap : List Value) (eF : entB Tryz.prog F = true) (go gh : Nat) (Rp : Nat → World → Prop) (w : World) (hgo : go < w.heap.size) (hgh : gh < w.heap.size)
    (hR : ∀ n X Y b, Rp n X → w.heap.size ≤ b → b < n → X.grownBy Y (some b) → Rp n Y)
    (hwork : ∀ W, Below w.heap.size w W → Calls Tryz.prog F cap.toArray W fun e W' => e = .returned (.tuple #[]) ∧ Rp W.heap.size W' ∧ Kept (jK2 W go gh) W W') :
    Calls Tryz.prog 24 #[.func (.func F) #[] cap.toArray] w fun e w' => e = .returned (.int .i64 0) ∧ (∃ n, w.heap.size ≤ n ∧ Rp n w') ∧ Kept (jK2 w go gh) w w' := by
  have q := Below.refl w.heap.size w
  have hkk := Kept.refl (jK2 w go gh) w
  refine X.fnP Tryz.func24 rfl (n := 6) rfl rfl ?_
  refine Zr ?_
  refine LL.alloc ([.int .i64 0]) rfl rfl rfl rfl rfl ?_
  intro W2 g3 eg3 r4 z5 b1
  replace q := Zu q b1; replace hkk := Zh hkk b1; have y6 := hkk.size; refine Zq ?_; refine Zr ?_
  refine LL.val (R.func rfl rfl rfl) rfl rfl rfl ?_
  refine LL.defer rfl rfl rfl rfl rfl rfl ?_; refine Zq ?_; refine Zr ?_; refine Zm ?_; have lr4 := r4.lt
  refine LL.call (R.callV rfl rfl rfl eF) rfl rfl rfl (jcallsA (by simp) (hwork _ q)) ?_
  rintro e W5 ⟨rfl, hr5, t5⟩
  refine ⟨_, rfl, ?_⟩
  replace r4 := r4.kept t5 ⟨r4.lt, by omega, by omega⟩
  have zt5 := t5.size
  replace hkk := hkk.trans (t5.less fun j hj => ⟨by have := hj.1; omega, hj.2⟩)
  have hlo : w.heap.size ≤ W2.heap.size := by omega
  have hb3 : g3 < W2.heap.size := by omega
  obtain ⟨N2, hN2⟩ : ∃ N, W2.heap.size = N := ⟨_, rfl⟩
  rw [hN2] at hr5 hlo hb3
  clear t5
  refine Zq ?_; refine Zr ?_
  refine LL.store rfl rfl rfl rfl r4 (by exact Nat.le_of_ble_eq_true rfl) rfl rfl rfl rfl ?_
  intro Wa2 ra3 ba1 za4
  have hlba1 := r4.lt
  replace ra3 : RowL Wa2 _ 34 [.int .i64 0] := ra3
  clear r4
  replace hkk := Zo hkk ba1
  have r4 := ra3
  clear ra3
  refine Zq ?_; refine ZR ?_
  (refine EE.retD (by kernel_rfl) (jgrd1_calm g3 _) rfl ?_; rintro e u' W6 ⟨hv, rfl, rfl⟩; exact ⟨hv, rfl, _, ⟨_, rfl, lv1 rfl (RowL.cell r4 rfl)⟩, rfl, ⟨N2, hlo, hR N2 _ _ g3 hr5 (by omega) hb3 (by assumption)⟩, hkk⟩)
set_option linter.unusedVariables false
set_option linter.unusedSimpArgs false
set_option maxRecDepth 100000
set_option maxHeartbeats 8000000
section
variable {P : Program} {w : World} {t u : TypeId} {o : Oper} {x y : Operand} {n : Nat} {D : List Deferred} {M : Slots}
theorem R.andE {a b z : Nat} (ho : o.op = .binOp .and t x y u) (hx : evM M x = some (.int .u64 (a : Int))) (hy : evM M y = some (.int .u64 (b : Int))) (ha : a < 18446744073709551616) (hb : b < 18446744073709551616) (hz : a &&& b = z) : Runs P n D M o w (.value (.int .u64 (z : Int))) w := by
  subst hz
  exact R.andU ho hx hy ha hb
end
theorem and_byte (x : Nat) : x &&& 255 = x % 256 := Nat.and_two_pow_sub_one_eq_mod x 8
theorem WdsAt.pre {X : World} {bk off cap N : Nat} {ws : List Nat} (h : WdsAt X bk off ws) (hl : N ≤ ws.length) (hc : N ≤ cap) : Reads X (.slice (some ⟨bk, off, none⟩) N cap) (ints .u64 (ws.take N)) := by
  have h2 := h.reads 0 N cap (by omega) hc
  rw [List.drop_zero] at h2
  exact h2
theorem jof1_all (lb li lr lt : Int) (k1 k2 : Nat) (la lc ld le : Int) (gl gw go gh bk off cap : Nat) (ws : List Nat) (w : World) (hS : Start w) (hl : isL lb li lr lt la lc ld le) (r1 : RowL w gl 31 (jlyL lb li lr lt k1 k2 la lc ld le)) (r2 : RowL w gw 33 [.slice (some ⟨bk, off, none⟩) 64 cap]) (hW : WdsAt w bk off ws) (hws : ws.length = 64) (hwb : ∀ x ∈ ws, x < 18446744073709551616) (hcap : 64 ≤ cap) (x0 : Nat) (h0 : ws[0]? = some x0) (hx0 : x0 ≠ 0) (kn : Nat) (hk : x0 % 256 = kn) (m : Int) (f1 f2 f3 f4 : Nat) (hkF : jkindsF (kn : Int) = some (m, f1, f2, f3, f4)) (hkd : jkdO (kn : Int) = (m, f1, f2, f3, f4)) (e4 : entB Tryz.prog f4 = true) (n : Int) (a : Nat → Nat) (f t : Int) (fk tk : Nat) (r : Int) (d : Bool) (hrd : ∀ W gr gat, RowL W gr 28 (redL (kn : Int) 0 noA 0 0 0 0 0 false) → RowL W gat 3 [.int .i64 0] → RowL W gw 33 [.slice (some ⟨bk, off, none⟩) 64 cap] → WdsAt W bk off ws → (gat ≠ gw ∧ gat ≠ bk) → (gr ≠ gat ∧ gr ≠ gw ∧ gr ≠ bk) → Calls Tryz.prog f4 #[.pointer (some ⟨gr, 0, none⟩), .func (.func 39) #[] #[.pointer (some ⟨gat, 0, none⟩), .pointer (some ⟨gw, 0, none⟩)]] W fun e w' => e = .returned (.tuple #[]) ∧ RowL w' gr 28 (redL (kn : Int) n a f t fk tk r d) ∧ Kept (fun j => j < W.heap.size ∧ j ≠ gr ∧ j ≠ gat) W w') (ge : Nat) (r3 : RowL w go 28 (redL 0 0 noA 0 0 0 0 0 false)) (r4 : RowL w gh 4 [.bool false]) (hne : go ≠ gl ∧ go ≠ gw ∧ go ≠ bk ∧ 0 < go ∧ gh ≠ gl ∧ gh ≠ gw ∧ gh ≠ bk ∧ 0 < gh ∧ go ≠ gh) (hb : ∀ x ∈ jsixL a, x < 18446744073709551616) : Calls Tryz.prog 36 #[.pointer (some ⟨gl, 0, none⟩), .pointer (some ⟨gw, 0, none⟩), .pointer (some ⟨go, 0, none⟩), .pointer (some ⟨gh, 0, none⟩)] w fun x w' => (okJ (kn : Int) n a f t fk tk r d li lr → ws.take (jW (kn : Int) n a f t fk tk r d).length = jW (kn : Int) n a f t fk tk r d → x = .returned (.tuple #[]) ∧ RowL w' go 28 (redL (kn : Int) n a f t fk tk r d) ∧ RowL w' gh 4 [.bool true] ∧ Kept (jK2 w go gh) w w') ∧ (okJ (kn : Int) n a f t fk tk r d li lr → ws.take (jW (kn : Int) n a f t fk tk r d).length ≠ jW (kn : Int) n a f t fk tk r d → x = .panicked (chain1 (jrefV 310)) ∧ Kept (jKW w ge) w w') ∧ (¬okJ (kn : Int) n a f t fk tk r d li lr → x = .panicked (chain1 (jrefV 310)) ∧ Kept (jKW w ge) w w') := by
  have lgl := r1.lt; have lgw := r2.lt; have lbk := hW.lt
  have hS0 := hS.pos
  have hx64 := hwb x0 (List.mem_of_getElem? h0)
  have hkm : x0 &&& 255 = kn := (and_byte x0).trans hk
  have hkn : kn < 256 := by omega
  have hkk := Kept.refl (fun j => j < w.heap.size ∧ j ≠ w.heap.size ∧ j ≠ w.heap.size) w
  have hWF : ∀ X, Kept (fun j => j < w.heap.size ∧ j ≠ w.heap.size ∧ j ≠ w.heap.size) w X → WdsAt X bk off ws := fun X k => ⟨fun j x hx => (World.cell?_of_block (k.block bk ⟨lbk, by omega, by omega⟩)).trans (hW.cells j x hx), Nat.lt_of_lt_of_le lbk k.size⟩
  have hSF : ∀ X, Kept (fun j => j < w.heap.size ∧ j ≠ w.heap.size ∧ j ≠ w.heap.size) w X → Start X := fun X k => hS.kept k ⟨hS0, by omega, by omega⟩
  have c0 := hW.cells _ _ h0
  have lgo := r3.lt; have lgh := r4.lt
  clear hW hS
  focus
    refine X.fnP Tryz.func36 rfl (n := 54) rfl rfl ?_
    refine Zr ?_; refine Zv r1 ?_
    refine Zy (R.call rfl rfl rfl) (jlay_T _ _ _ _ _ _ _ _ _ _ _ (by first | assumption | omega)) ?_
    rintro e W16 ⟨rfl, b15⟩
    refine ⟨_, rfl, ?_⟩; have zb15 := b15.size; replace r1 := r1.up b15; replace r2 := r2.up b15; replace r3 := r3.up b15; replace r4 := r4.up b15; replace hkk := Zh hkk b15; have y18 := hkk.size; replace c0 := cell_up c0 b15; refine Zq ?_; refine Zr ?_; refine Zl r2 ?_; refine Zn ?_; refine ZneF ?_
    refine Zy (R.call rfl rfl rfl) (jrefuse_F _ _) ?_
    rintro e W' ⟨rfl, rfl⟩
    refine ⟨_, rfl, ?_⟩; refine Zq ?_; refine Zc ?_; refine Zr ?_; refine Zl r2 ?_; refine Zi ?_; refine Zk ?_; refine ZeqF ?_; refine Zq ?_; refine ZN ?_; refine ZK ?_; refine ZT ?_; refine Zr ?_; refine Zl r2 ?_; refine Zi ?_; refine Zk ?_
    refine LL.val (R.andE (a := x0) (b := 255) (z := kn) rfl rfl rfl hx64 (by decide) hkm) rfl rfl rfl ?_
    refine LL.val (R.convI rfl rfl rfl rfl (wrapI (by omega) (by omega))) rfl rfl rfl ?_
    refine LL.val (R.buildV rfl rfl (v := .agg #[Value.int IntKind.i64 ↑kn, Value.int IntKind.i64 0, Value.int IntKind.u64 0, Value.int IntKind.u64 0, Value.int IntKind.u64 0, Value.int IntKind.u64 0, Value.int IntKind.u64 0, Value.int IntKind.u64 0, Value.int IntKind.u64 0, Value.int IntKind.u64 0, Value.int IntKind.u64 0, Value.int IntKind.u64 0, Value.int IntKind.u64 0, Value.int IntKind.u64 0, Value.int IntKind.u64 0, Value.int IntKind.u64 0, Value.int IntKind.u64 0, Value.int IntKind.u64 0, Value.int IntKind.i64 0, Value.int IntKind.i64 0, Value.int IntKind.u64 0, Value.int IntKind.u64 0, Value.int IntKind.i64 0, Value.bool false]) (fun _ => by kernel_rfl)) rfl rfl rfl ?_
    have l117 := r1.lt; have l118 := r2.lt; have l119 := r3.lt; have l120 := r4.lt
    refine LL.alloc ((redL 0 0 noA 0 0 0 0 0 false)) rfl rfl rfl rfl rfl ?_
    intro W122 g123 eg123 r124 z125 b121
    replace b15 := Zu b15 b121; replace r1 := r1.up b121; replace r2 := r2.up b121; replace r3 := r3.up b121; replace r4 := r4.up b121; replace hkk := Zh hkk b121; have y126 := hkk.size; replace c0 := cell_up c0 b121
    refine LL.storeN (vs := (redL (↑kn) 0 noA 0 0 0 0 0 false)) rfl rfl rfl rfl r124 (by exact Nat.le_of_ble_eq_true rfl) (ones_of rfl) rfl rfl ?_
    intro W135 r136 b134 z137
    have hlb134 := r124.lt
    replace r136 : RowL W135 _ 28 (redL (↑kn) 0 noA 0 0 0 0 0 false) := r136
    clear r124
    replace b121 := Zg b121 b134; replace b15 := Zg b15 b134; replace r1 := Zd r1 b134; replace r2 := Zd r2 b134; replace r3 := Zd r3 b134; replace r4 := Zd r4 b134; replace hkk := Zo hkk b134; replace c0 := Ze c0 b134
    have r124 := r136
    clear r136
    refine Zq ?_; refine Zc ?_
    refine CC.join (fun l_ W183 => ∃ (g170 : Nat), l_ = [(0, Value.pointer (some { block := gl, off := 0 })), (1, Value.pointer (some { block := gw, off := 0 })), (2, Value.pointer (some { block := go, off := 0 })), (3, Value.pointer (some { block := gh, off := 0 })), (9, Value.agg #[Value.int IntKind.i64 lb, Value.int IntKind.i64 li, Value.int IntKind.i64 lr, Value.int IntKind.i64 lt, Value.int IntKind.u64 ↑k1, Value.int IntKind.u64 ↑k2, Value.int IntKind.i64 la, Value.int IntKind.i64 lc, Value.int IntKind.i64 ld, Value.int IntKind.i64 le]), (11, Value.slice (some { block := bk, off := off }) 64 cap), (12, Value.int IntKind.i64 ↑64), (13, Value.bool false), (15, Value.slice (some { block := bk, off := off }) 64 cap), (16, Value.pointer (some { block := bk, off := off + 0 })), (17, Value.int IntKind.u64 ↑x0), (18, Value.bool false), (19, Value.slice (some { block := bk, off := off }) 64 cap), (20, Value.pointer (some { block := bk, off := off + 0 })), (21, Value.int IntKind.u64 ↑x0), (22, Value.int IntKind.u64 ↑kn), (23, Value.int IntKind.i64 ↑kn), (24, Value.agg #[Value.int IntKind.i64 ↑kn, Value.int IntKind.i64 0, Value.int IntKind.u64 0, Value.int IntKind.u64 0, Value.int IntKind.u64 0, Value.int IntKind.u64 0, Value.int IntKind.u64 0, Value.int IntKind.u64 0, Value.int IntKind.u64 0, Value.int IntKind.u64 0, Value.int IntKind.u64 0, Value.int IntKind.u64 0, Value.int IntKind.u64 0, Value.int IntKind.u64 0, Value.int IntKind.u64 0, Value.int IntKind.u64 0, Value.int IntKind.u64 0, Value.int IntKind.u64 0, Value.int IntKind.i64 0, Value.int IntKind.i64 0, Value.int IntKind.u64 0, Value.int IntKind.u64 0, Value.int IntKind.i64 0, Value.bool false]), (4, Value.pointer (some { block := g123, off := 0 })), (5, Value.pointer (some { block := g170, off := 0 })), (6, Value.bool true)] ∧ (Below W135.heap.size W135 W183) ∧ (Below W16.heap.size W16 W183) ∧ (Below w.heap.size w W183) ∧ (RowL W183 gl 31 (jlyL lb li lr lt k1 k2 la lc ld le)) ∧ (RowL W183 gw 33 [Value.slice (some { block := bk, off := off }) 64 cap]) ∧ (RowL W183 go 28 (redL 0 0 noA 0 0 0 0 0 false)) ∧ (RowL W183 gh 4 [Value.bool false]) ∧ (Kept (fun j => j < w.heap.size ∧ j ≠ w.heap.size ∧ j ≠ w.heap.size) w W183) ∧ (W183.cell? { block := bk, off := off + 0 } = some (Value.int IntKind.u64 ↑x0)) ∧ (RowL W183 g123 28 [Value.int IntKind.i64 ↑kn, Value.int IntKind.i64 0, Value.int IntKind.u64 0, Value.int IntKind.u64 0, Value.int IntKind.u64 0, Value.int IntKind.u64 0, Value.int IntKind.u64 0, Value.int IntKind.u64 0, Value.int IntKind.u64 0, Value.int IntKind.u64 0, Value.int IntKind.u64 0, Value.int IntKind.u64 0, Value.int IntKind.u64 0, Value.int IntKind.u64 0, Value.int IntKind.u64 0, Value.int IntKind.u64 0, Value.int IntKind.u64 0, Value.int IntKind.u64 0, Value.int IntKind.i64 0, Value.int IntKind.i64 0, Value.int IntKind.u64 0, Value.int IntKind.u64 0, Value.int IntKind.i64 0, Value.bool false]) ∧ (RowL W183 g170 74 [Value.int IntKind.i64 m, jfnV f1, jfnV f2, jfnV f3, jfnV f4]) ∧ (W135.heap.size ≤ W183.heap.size) ∧ (W135.heap.size ≤ g170)) (fun J188 => ?_) ?restJ188
    case' restJ188 =>
      clear b121
      clear b15
      clear r1
      clear r2
      clear r3
      clear r4
      clear hkk
      clear c0
      clear r124
      rintro _ W183 ⟨g170, rfl, b138, b121, b15, r1, r2, r3, r4, hkk, c0, r124, r171, z186, z187⟩
    refine ZT ?_; refine Zr ?_; refine Zm ?_; refine Zt ?_
    refine Zy (R.call rfl rfl rfl) (jrefuse_F _ _) ?_
    rintro e W' ⟨rfl, rfl⟩
    refine ⟨_, rfl, ?_⟩; refine Zq ?_; refine Zr ?_; have l217 := r1.lt; have l218 := r2.lt; have l219 := r3.lt; have l220 := r4.lt; have l221 := r124.lt; have l222 := r171.lt
    refine LL.alloc ([.int .i64 0]) rfl rfl rfl rfl rfl ?_
    intro W224 g225 eg225 r226 z227 b223
    replace b138 := Zu b138 b223; replace b121 := Zu b121 b223; replace b15 := Zu b15 b223; replace r1 := r1.up b223; replace r2 := r2.up b223; replace r3 := r3.up b223; replace r4 := r4.up b223; replace hkk := Zh hkk b223; have y228 := hkk.size; replace c0 := cell_up c0 b223; replace r124 := r124.up b223; replace r171 := r171.up b223
    refine LL.store rfl rfl rfl rfl r226 (by exact Nat.le_of_ble_eq_true rfl) rfl rfl rfl rfl ?_
    intro W237 r238 b236 z239
    have hlb236 := r226.lt
    replace r238 : RowL W237 _ 3 [.int .i64 0] := r238
    clear r226
    replace b223 := Zg b223 b236; replace b138 := Zg b138 b236; replace b121 := Zg b121 b236; replace b15 := Zg b15 b236; replace r1 := Zd r1 b236; replace r2 := Zd r2 b236; replace r3 := Zd r3 b236; replace r4 := Zd r4 b236; replace hkk := Zo hkk b236; replace c0 := Ze c0 b236; replace r124 := Zd r124 b236; replace r171 := Zd r171 b236
    have r226 := r238
    clear r238
    refine Zq ?_; refine Zr ?_; refine Zf ?_; refine Zl r171 ?_
    refine LL.val (R.func rfl rfl rfl) rfl rfl rfl ?_
    (refine LL.call (R.callV rfl rfl rfl e4) rfl rfl rfl (hrd _ _ _ (by assumption) (by assumption) (by assumption) (hWF _ hkk) ⟨by omega, by omega⟩ ⟨by omega, by omega, by omega⟩) ?_; rintro e W264 ⟨rfl, rn, t263⟩; refine ⟨_, rfl, ?_⟩; replace hkk := hkk.trans (t263.less fun j hj => ⟨by have := hj.1; have := hkk.size; omega, by have := hj.1; omega, by have := hj.1; omega⟩))
    have zt263 := t263.size
    replace b121 := t263.onB b121 (fun j hj => ⟨by have := b121.size; omega, by omega⟩)
    replace b15 := t263.onB b15 (fun j hj => ⟨by have := b15.size; omega, by omega⟩)
    replace r1 := r1.kept t263 ⟨r1.lt, by omega⟩
    replace r2 := r2.kept t263 ⟨r2.lt, by omega⟩
    replace r3 := r3.kept t263 ⟨r3.lt, by omega⟩
    replace r4 := r4.kept t263 ⟨r4.lt, by omega⟩
    replace c0 := cell_kept c0 t263 ⟨World.block_lt_of_cell? _ _ c0, by omega⟩
    replace r171 := r171.kept t263 ⟨r171.lt, by omega⟩
    refine Zq ?_; refine Zr ?_; refine Zv r1 ?_; refine Zv rn ?_
    rotate_left
    refine CC.freeZ (fun W_ j => j < W_.heap.size ∧ (True)) (by kernel_rfl) (by kernel_rfl) (fun W290 b289 z291 => ?_)
    replace b121 := Zu b121 b289; replace b15 := Zu b15 b289; replace r1 := r1.up b289; replace r2 := r2.up b289; replace r3 := r3.up b289; replace r4 := r4.up b289; replace hkk := Zh hkk b289; have y292 := hkk.size; replace c0 := cell_up c0 b289; replace r124 := r124.up b289
    have hok : Kept (fun j => j < W290.heap.size ∧ (True)) W290 W290 := Kept.refl _ _
    have fzr1 := fzRow (K := fun j => j < W290.heap.size ∧ (True)) r1 ⟨r1.lt, (by first | trivial | omega)⟩
    have fzr2 := fzRow (K := fun j => j < W290.heap.size ∧ (True)) r2 ⟨r2.lt, (by first | trivial | omega)⟩
    have fzr3 := fzRow (K := fun j => j < W290.heap.size ∧ (True)) r3 ⟨r3.lt, (by first | trivial | omega)⟩
    have fzr4 := fzRow (K := fun j => j < W290.heap.size ∧ (True)) r4 ⟨r4.lt, (by first | trivial | omega)⟩
    have fzc0 := fzCell (K := fun j => j < W290.heap.size ∧ (True)) c0 ⟨World.block_lt_of_cell? _ _ c0, (by first | trivial | omega)⟩
    have fzr124 := fzRow (K := fun j => j < W290.heap.size ∧ (True)) r124 ⟨r124.lt, (by first | trivial | omega)⟩
    refine AA.pure 1 rfl hok (by kernel_rfl) (fun w' b' => R.field rfl rfl (I.fld rfl)) rfl rfl ?_
    refine AA.pure 2 rfl hok (by kernel_rfl) (fun w' b' => R.load rfl rfl (I.ld1 rfl (RowL.cell (fzr124 w' b') rfl))) rfl rfl ?_
    refine AA.two 0 7 (by kernel_rfl) ?_ ?_
    refine SR.call rfl (R.call rfl rfl rfl) rfl rfl (jkinds_any _) ?_
    rintro e W301 ⟨g303, k304, rfl, h302, b300⟩
    have zb300 := b300.size; replace b289 := Zu b289 b300; replace b121 := Zu b121 b300; replace b15 := Zu b15 b300; replace r1 := r1.up b300; replace r2 := r2.up b300; replace r3 := r3.up b300; replace r4 := r4.up b300; replace hkk := Zh hkk b300; have y305 := hkk.size; replace c0 := cell_up c0 b300; replace r124 := r124.up b300; replace hok := Zh hok b300; have y306 := hok.size
    refine ⟨_, rfl, hok, ?_⟩
    refine AA.two 3 7 (by kernel_rfl) ?_ ?_
    (refine SR.val rfl (R.lookKT rfl rfl jKeys (by rfl) (z := jkdZ) (by kernel_rfl) (by assumption) (kn : Int) rfl hkF) rfl rfl hok ?_)
    refine AA.pure 4 rfl hok (by kernel_rfl) (fun w' b' => R.move rfl rfl) rfl rfl ?_
    refine AA.pure 5 rfl hok (by kernel_rfl) (fun w' b' => R.extract rfl rfl rfl) rfl rfl ?_
    refine AA.pure 6 rfl hok (by kernel_rfl) (fun w' b' => R.extract rfl rfl rfl) rfl rfl ?_
    refine AA.one 7 (by kernel_rfl) ?_
    have l314 := r1.lt; have l315 := r2.lt; have l316 := r3.lt; have l317 := r4.lt; have l318 := r124.lt
    refine ZR.alloc ([.int .i64 0, Value.nilFunc, Value.nilFunc, Value.nilFunc, Value.nilFunc]) rfl rfl rfl rfl rfl rfl ?_
    intro W320 g321 eg321 r322 z323 b319
    replace h302 := h302.up b319; replace b300 := Zu b300 b319; replace b289 := Zu b289 b319; replace b121 := Zu b121 b319; replace b15 := Zu b15 b319; replace r1 := r1.up b319; replace r2 := r2.up b319; replace r3 := r3.up b319; replace r4 := r4.up b319; replace hkk := Zh hkk b319; have y324 := hkk.size; replace c0 := cell_up c0 b319; replace r124 := r124.up b319; replace hok := Zh hok b319; have y325 := hok.size
    refine ⟨hok, ?_⟩
    refine AA.one 8 (by kernel_rfl) ?_
    refine ZR.storeN (vs := [.int .i64 m, jfnV f1, jfnV f2, jfnV f3, jfnV f4]) rfl rfl rfl rfl rfl r322 (by exact Nat.le_of_ble_eq_true rfl) (ones_of rfl) rfl rfl ?_
    intro W334 r335 b333 z336
    have hlb333 := r322.lt
    replace r335 : RowL W334 _ 74 [.int .i64 m, jfnV f1, jfnV f2, jfnV f3, jfnV f4] := r335
    clear r322
    replace b319 := Zg b319 b333; replace b300 := Zg b300 b333; replace b289 := Zg b289 b333; replace b121 := Zg b121 b333; replace b15 := Zg b15 b333; replace r1 := Zd r1 b333; replace r2 := Zd r2 b333; replace r3 := Zd r3 b333; replace r4 := Zd r4 b333; replace hkk := Zo hkk b333; replace c0 := Ze c0 b333; replace r124 := Zd r124 b333; replace hok := Zo hok b333
    have r322 := r335
    clear r335
    refine ⟨hok, ?_⟩
    refine AA.pure 9 rfl hok (by kernel_rfl) (fun w' b' => R.assign rfl rfl) rfl rfl ?_
    refine AA.done rfl ?_
    clear fzr1 fzr2 fzr3 fzr4 fzc0 fzr124 hok
    exact EE.weak (J188 _ _ ⟨_, rfl, (by first | assumption | omega), (by first | assumption | omega), (by first | assumption | omega), (by first | assumption | omega), (by first | assumption | omega), (by first | assumption | omega), (by first | assumption | omega), (by first | assumption | omega), (by first | assumption | omega), (by first | assumption | omega), (by first | assumption | omega), (by first | assumption | omega), (by first | assumption | omega)⟩) ⟨rfl, rfl, rfl, rfl, rfl, rfl, rfl, rfl, rfl, rfl, rfl, rfl, rfl, rfl, rfl, rfl, rfl, rfl, rfl, rfl, rfl, trivial⟩
    have l344 := r1.lt; have l345 := r2.lt; have l346 := r3.lt; have l347 := r4.lt; have l348 := r124.lt
    refine ZR.alloc ([.int .i64 0, Value.nilFunc, Value.nilFunc, Value.nilFunc, Value.nilFunc]) rfl rfl rfl rfl rfl rfl ?_
    intro W350 g351 eg351 r352 z353 b349
    replace h302 := h302.up b349; replace b300 := Zu b300 b349; replace b289 := Zu b289 b349; replace b121 := Zu b121 b349; replace b15 := Zu b15 b349; replace r1 := r1.up b349; replace r2 := r2.up b349; replace r3 := r3.up b349; replace r4 := r4.up b349; replace hkk := Zh hkk b349; have y354 := hkk.size; replace c0 := cell_up c0 b349; replace r124 := r124.up b349; replace hok := Zh hok b349; have y355 := hok.size
    refine ⟨hok, ?_⟩
    refine AA.one 3 (by kernel_rfl) ?_
    (refine SR.val rfl (R.lookKT rfl rfl jKeys (by rfl) (z := jkdZ) (by kernel_rfl) (by assumption) (kn : Int) rfl hkF) rfl rfl hok ?_)
    refine AA.pure 4 rfl hok (by kernel_rfl) (fun w' b' => R.move rfl rfl) rfl rfl ?_
    refine AA.pure 5 rfl hok (by kernel_rfl) (fun w' b' => R.extract rfl rfl rfl) rfl rfl ?_
    refine AA.pure 6 rfl hok (by kernel_rfl) (fun w' b' => R.extract rfl rfl rfl) rfl rfl ?_
    refine AA.one 8 (by kernel_rfl) ?_
    refine ZR.storeN (vs := [.int .i64 m, jfnV f1, jfnV f2, jfnV f3, jfnV f4]) rfl rfl rfl rfl rfl r352 (by exact Nat.le_of_ble_eq_true rfl) (ones_of rfl) rfl rfl ?_
    intro W364 r365 b363 z366
    have hlb363 := r352.lt
    replace r365 : RowL W364 _ 74 [.int .i64 m, jfnV f1, jfnV f2, jfnV f3, jfnV f4] := r365
    clear r352
    replace b349 := Zg b349 b363; replace b300 := Zg b300 b363; replace b289 := Zg b289 b363; replace b121 := Zg b121 b363; replace b15 := Zg b15 b363; replace r1 := Zd r1 b363; replace r2 := Zd r2 b363; replace r3 := Zd r3 b363; replace r4 := Zd r4 b363; replace hkk := Zo hkk b363; replace c0 := Ze c0 b363; replace r124 := Zd r124 b363; replace hok := Zo hok b363
    have r352 := r365
    clear r365
    refine ⟨hok, ?_⟩
    refine AA.pure 9 rfl hok (by kernel_rfl) (fun w' b' => R.assign rfl rfl) rfl rfl ?_
    refine AA.done rfl ?_
    clear fzr1 fzr2 fzr3 fzr4 fzc0 fzr124 hok
    exact EE.weak (J188 _ _ ⟨_, rfl, (by first | assumption | omega), (by first | assumption | omega), (by first | assumption | omega), (by first | assumption | omega), (by first | assumption | omega), (by first | assumption | omega), (by first | assumption | omega), (by first | assumption | omega), (by first | assumption | omega), (by first | assumption | omega), (by first | assumption | omega), (by first | assumption | omega), (by first | assumption | omega)⟩) ⟨rfl, rfl, rfl, rfl, rfl, rfl, rfl, rfl, rfl, rfl, rfl, rfl, rfl, rfl, rfl, rfl, rfl, rfl, rfl, rfl, rfl, trivial⟩
    have l374 := r1.lt; have l375 := r2.lt; have l376 := r3.lt; have l377 := r4.lt; have l378 := r124.lt
    refine ZR.alloc ([.int .i64 0, Value.nilFunc, Value.nilFunc, Value.nilFunc, Value.nilFunc]) rfl rfl rfl rfl rfl rfl ?_
    intro W380 g381 eg381 r382 z383 b379
    replace b289 := Zu b289 b379; replace b121 := Zu b121 b379; replace b15 := Zu b15 b379; replace r1 := r1.up b379; replace r2 := r2.up b379; replace r3 := r3.up b379; replace r4 := r4.up b379; replace hkk := Zh hkk b379; have y384 := hkk.size; replace c0 := cell_up c0 b379; replace r124 := r124.up b379; replace hok := Zh hok b379; have y385 := hok.size
    refine ⟨hok, ?_⟩
    refine AA.one 0 (by kernel_rfl) ?_
    refine SR.call rfl (R.call rfl rfl rfl) rfl rfl (jkinds_any _) ?_
    rintro e W394 ⟨g396, k397, rfl, h395, b393⟩
    have zb393 := b393.size; replace r382 := r382.up b393; replace b379 := Zu b379 b393; replace b289 := Zu b289 b393; replace b121 := Zu b121 b393; replace b15 := Zu b15 b393; replace r1 := r1.up b393; replace r2 := r2.up b393; replace r3 := r3.up b393; replace r4 := r4.up b393; replace hkk := Zh hkk b393; have y398 := hkk.size; replace c0 := cell_up c0 b393; replace r124 := r124.up b393; replace hok := Zh hok b393
    have y399 := hok.size
    refine ⟨_, rfl, hok, ?_⟩
    refine AA.one 3 (by kernel_rfl) ?_
    (refine SR.val rfl (R.lookKT rfl rfl jKeys (by rfl) (z := jkdZ) (by kernel_rfl) (by assumption) (kn : Int) rfl hkF) rfl rfl hok ?_)
    refine AA.pure 4 rfl hok (by kernel_rfl) (fun w' b' => R.move rfl rfl) rfl rfl ?_
    refine AA.pure 5 rfl hok (by kernel_rfl) (fun w' b' => R.extract rfl rfl rfl) rfl rfl ?_
    refine AA.pure 6 rfl hok (by kernel_rfl) (fun w' b' => R.extract rfl rfl rfl) rfl rfl ?_
    refine AA.one 8 (by kernel_rfl) ?_
    refine ZR.storeN (vs := [.int .i64 m, jfnV f1, jfnV f2, jfnV f3, jfnV f4]) rfl rfl rfl rfl rfl r382 (by exact Nat.le_of_ble_eq_true rfl) (ones_of rfl) rfl rfl ?_
    intro W408 r409 b407 z410
    have hlb407 := r382.lt
    replace r409 : RowL W408 _ 74 [.int .i64 m, jfnV f1, jfnV f2, jfnV f3, jfnV f4] := r409
    clear r382
    replace b379 := Zg b379 b407; replace b289 := Zg b289 b407; replace b121 := Zg b121 b407; replace b15 := Zg b15 b407; replace r1 := Zd r1 b407; replace r2 := Zd r2 b407; replace r3 := Zd r3 b407; replace r4 := Zd r4 b407; replace hkk := Zo hkk b407; replace c0 := Ze c0 b407; replace r124 := Zd r124 b407; replace hok := Zo hok b407
    have r382 := r409
    clear r409
    refine ⟨hok, ?_⟩
    refine AA.pure 9 rfl hok (by kernel_rfl) (fun w' b' => R.assign rfl rfl) rfl rfl ?_
    refine AA.done rfl ?_
    clear fzr1 fzr2 fzr3 fzr4 fzc0 fzr124 hok
    exact EE.weak (J188 _ _ ⟨_, rfl, (by first | assumption | omega), (by first | assumption | omega), (by first | assumption | omega), (by first | assumption | omega), (by first | assumption | omega), (by first | assumption | omega), (by first | assumption | omega), (by first | assumption | omega), (by first | assumption | omega), (by first | assumption | omega), (by first | assumption | omega), (by first | assumption | omega), (by first | assumption | omega)⟩) ⟨rfl, rfl, rfl, rfl, rfl, rfl, rfl, rfl, rfl, rfl, rfl, rfl, rfl, rfl, rfl, rfl, rfl, rfl, rfl, rfl, rfl, trivial⟩
  by_cases h : okJ (kn : Int) n a f t fk tk r d li lr
  case neg =>
    have hcn := fun W (hS : Start W) => jcheck_F (kn : Int) n a f t fk tk r d lb li lr lt k1 k2 la lc ld le W hS hb h
    have la5 := rn.lt; have la6 := r1.lt; have la7 := r2.lt; have la8 := r3.lt; have la9 := r4.lt; have la10 := r171.lt
    (refine LL.callP (R.call rfl rfl rfl) rfl rfl (hcn _ (hSF _ hkk)) ?_; rintro e Wa4 ⟨rfl, ba1⟩; refine ⟨_, rfl, ?_⟩)
    have zba1 := ba1.size; replace rn := rn.up ba1; replace hkk := Zh hkk ba1; have ya14 := hkk.size; replace b121 := Zu b121 ba1; replace b15 := Zu b15 ba1; replace r1 := r1.up ba1; replace r2 := r2.up ba1; replace r3 := r3.up ba1; replace r4 := r4.up ba1; replace c0 := cell_up c0 ba1; replace r171 := r171.up ba1; refine EE.thenP ?_; refine EE.panM ?_
    exact ⟨fun h' => absurd h' h, fun h' => absurd h' h, fun _ => ⟨rfl, hkk.less fun j hj => ⟨hj.1, by have := hj.1; omega, by have := hj.1; omega⟩⟩⟩
  have hlb := isL_b hl
  have hly := fun W => jlay_ok (kn : Int) n a f t fk tk r d li lr hlb.1 hlb.2 h W
  have hjl := jW_len (kn : Int) n a f t fk tk r d
  have hck := fun W (hS : Start W) => jcheck_T (kn : Int) n a f t fk tk r d lb li lr lt k1 k2 la lc ld le W hS h
  rw [hkd] at hck hly
  obtain ⟨xs, exs⟩ : ∃ xs, jW (kn : Int) n a f t fk tk r d = xs := ⟨_, rfl⟩
  rw [exs] at hly hjl ⊢
  obtain ⟨N, hN⟩ : ∃ N, xs.length = N := ⟨_, rfl⟩
  unfold jnewW at hly
  rw [hN] at hly hjl ⊢
  have hN2 : 9 ≤ N ∧ N ≤ 19 := by split at hjl <;> omega
  have hpre := fun X (k : Kept (fun j => j < w.heap.size ∧ j ≠ w.heap.size ∧ j ≠ w.heap.size) w X) => (hWF X k).pre (N := N) (cap := cap) (by omega) (by omega)
  have hxl : (ws.take N).length ≤ 1048576 := by rw [List.length_take]; omega
  clear hlb hjl
  refine Zy (R.call rfl rfl rfl) (hck _ (hSF _ hkk)) ?_
  rintro e Wb15 ⟨rfl, bb14⟩
  refine ⟨_, rfl, ?_⟩; have zbb14 := bb14.size; replace rn := rn.up bb14; replace hkk := Zh hkk bb14; have yb17 := hkk.size; replace b121 := Zu b121 bb14; replace b15 := Zu b15 bb14; replace r1 := r1.up bb14; replace r2 := r2.up bb14; replace r3 := r3.up bb14; replace r4 := r4.up bb14; replace c0 := cell_up c0 bb14; replace r171 := r171.up bb14; refine Zq ?_; refine Zr ?_; refine Zv r171 ?_; refine Zv rn ?_
  have lb48 := rn.lt; have lb49 := r1.lt; have lb50 := r2.lt; have lb51 := r3.lt; have lb52 := r4.lt; have lb53 := r171.lt
  (refine Zy (R.call rfl rfl rfl) (hly _) ?_; rintro e Wb47 ⟨v7, rfl, g7, c7, rfl, hc7, r7, hg7, hl7, bb44⟩; refine ⟨_, rfl, ?_⟩)
  have zbb44 := bb44.size; replace bb14 := Zu bb14 bb44; replace rn := rn.up bb44; replace hkk := Zh hkk bb44; have yb57 := hkk.size; replace b121 := Zu b121 bb44; replace b15 := Zu b15 bb44; replace r1 := r1.up bb44; replace r2 := r2.up bb44; replace r3 := r3.up bb44; replace r4 := r4.up bb44; replace c0 := cell_up c0 bb44; replace r171 := r171.up bb44; refine Za ?_; refine Zq ?_; refine Zr ?_; refine Zm ?_
  refine Zl r2 ?_; refine Zm ?_; refine Zn ?_
  refine LL.val (R.slice rfl rfl rfl rfl rfl (I.slTo rfl (by omega))) rfl rfl rfl ?_
  by_cases heq : ws.take N = xs
  · rw [heq] at hpre
    have lc5 := rn.lt; have lc6 := r1.lt; have lc7 := r2.lt; have lc8 := r3.lt; have lc9 := r4.lt; have lc10 := r171.lt
    (refine Zy (R.call rfl rfl rfl) (weq_T r7 (hpre _ hkk) (by omega)) ?_; rintro e Wc4 ⟨rfl, bc1⟩; refine ⟨_, rfl, ?_⟩; have hkz := hkk.less (K' := jK2 w go gh) (fun j hj => ⟨hj.1, by have := hj.1; omega, by have := hj.1; omega⟩); clear hkk)
    have zbc1 := bc1.size; replace r7 := r7.up bc1; replace bb44 := Zu bb44 bc1; replace bb14 := Zu bb14 bc1; replace rn := rn.up bc1; replace b121 := Zu b121 bc1; replace b15 := Zu b15 bc1; replace r1 := r1.up bc1; replace r2 := r2.up bc1; replace r3 := r3.up bc1; replace r4 := r4.up bc1; replace c0 := cell_up c0 bc1; replace r171 := r171.up bc1; replace hkz := Zh hkz bc1; have yc14 := hkz.size; refine Zt ?_
    refine Zy (R.call rfl rfl rfl) (jrefuse_F _ _) ?_
    rintro e W' ⟨rfl, rfl⟩
    refine ⟨_, rfl, ?_⟩; refine Zq ?_; refine CC.region ?_; refine Zv rn ?_
    refine LL.storeN (vs := (redL (↑kn) n a f t fk tk r d)) rfl rfl rfl rfl r3 (by exact Nat.le_of_ble_eq_true rfl) (ones_of rfl) rfl rfl ?_
    intro Wc68 rc69 bc67 zc70
    have hlbc67 := r3.lt
    replace rc69 : RowL Wc68 _ 28 (redL (↑kn) n a f t fk tk r d) := rc69
    clear r3
    replace r7 := r7.gr bc67 (by omega)
    replace rn := Zd rn bc67; replace r1 := Zd r1 bc67; replace r2 := Zd r2 bc67; replace r4 := Zd r4 bc67; replace c0 := Ze c0 bc67; replace r171 := Zd r171 bc67; replace hkz := Zo hkz bc67
    have r3 := rc69
    clear rc69
    refine LL.store rfl rfl rfl rfl r4 (by exact Nat.le_of_ble_eq_true rfl) rfl rfl rfl rfl ?_
    intro Wc85 rc86 bc84 zc87
    have hlbc84 := r4.lt
    replace rc86 : RowL Wc85 _ 4 [.bool true] := rc86
    clear r4
    replace r7 := r7.gr bc84 (by omega)
    replace rn := Zd rn bc84; replace r1 := Zd r1 bc84; replace r2 := Zd r2 bc84; replace c0 := Ze c0 bc84; replace r171 := Zd r171 bc84; replace hkz := Zo hkz bc84; replace r3 := Zd r3 bc84
    have r4 := rc86
    clear rc86
    refine ZL ?_; refine EE.calmN ?_
    (refine EE.endM [] ?_ ?_ ?_; rfl; rfl; exact ⟨fun _ _ => ⟨rfl, r3, r4, hkz⟩, fun _ hne => absurd heq hne, fun hn => absurd h hn⟩)
  · have ld5 := rn.lt; have ld6 := r1.lt; have ld7 := r2.lt; have ld8 := r3.lt; have ld9 := r4.lt; have ld10 := r171.lt
    (refine Zy (R.call rfl rfl rfl) (weq_F r7 (hpre _ hkk) (by omega) hxl (fun e => heq e.symm)) ?_; rintro e Wd4 ⟨rfl, bd1⟩; refine ⟨_, rfl, ?_⟩)
    have zbd1 := bd1.size; replace r7 := r7.up bd1; replace bb44 := Zu bb44 bd1; replace bb14 := Zu bb14 bd1; replace rn := rn.up bd1; replace hkk := Zh hkk bd1; have yd14 := hkk.size; replace b121 := Zu b121 bd1; replace b15 := Zu b15 bd1; replace r1 := r1.up bd1; replace r2 := r2.up bd1; replace r3 := r3.up bd1; replace r4 := r4.up bd1; replace c0 := cell_up c0 bd1; replace r171 := r171.up bd1; refine Zt ?_
    refine LL.callP (R.call rfl rfl rfl) rfl rfl (jrefuse_T _ _) ?_
    rintro e Wd42 ⟨rfl, rfl⟩
    refine ⟨_, rfl, ?_⟩; refine EE.thenP ?_; refine EE.panM ?_
    exact ⟨fun _ e => absurd e heq, fun _ _ => ⟨rfl, hkk.less fun j hj => ⟨hj.1, by have := hj.1; omega, by have := hj.1; omega⟩⟩, fun hn => absurd h hn⟩
theorem jof1_T (lb li lr lt : Int) (k1 k2 : Nat) (la lc ld le : Int) (gl gw go gh bk off cap : Nat) (ws : List Nat) (w : World) (hS : Start w) (hl : isL lb li lr lt la lc ld le) (r1 : RowL w gl 31 (jlyL lb li lr lt k1 k2 la lc ld le)) (r2 : RowL w gw 33 [.slice (some ⟨bk, off, none⟩) 64 cap]) (hW : WdsAt w bk off ws) (hws : ws.length = 64) (hwb : ∀ x ∈ ws, x < 18446744073709551616) (hcap : 64 ≤ cap) (x0 : Nat) (h0 : ws[0]? = some x0) (hx0 : x0 ≠ 0) (kn : Nat) (hk : x0 % 256 = kn) (m : Int) (f1 f2 f3 f4 : Nat) (hkF : jkindsF (kn : Int) = some (m, f1, f2, f3, f4)) (hkd : jkdO (kn : Int) = (m, f1, f2, f3, f4)) (e4 : entB Tryz.prog f4 = true) (n : Int) (a : Nat → Nat) (f t : Int) (fk tk : Nat) (r : Int) (d : Bool) (hrd : ∀ W gr gat, RowL W gr 28 (redL (kn : Int) 0 noA 0 0 0 0 0 false) → RowL W gat 3 [.int .i64 0] → RowL W gw 33 [.slice (some ⟨bk, off, none⟩) 64 cap] → WdsAt W bk off ws → (gat ≠ gw ∧ gat ≠ bk) → (gr ≠ gat ∧ gr ≠ gw ∧ gr ≠ bk) → Calls Tryz.prog f4 #[.pointer (some ⟨gr, 0, none⟩), .func (.func 39) #[] #[.pointer (some ⟨gat, 0, none⟩), .pointer (some ⟨gw, 0, none⟩)]] W fun e w' => e = .returned (.tuple #[]) ∧ RowL w' gr 28 (redL (kn : Int) n a f t fk tk r d) ∧ Kept (fun j => j < W.heap.size ∧ j ≠ gr ∧ j ≠ gat) W w') (r3 : RowL w go 28 (redL 0 0 noA 0 0 0 0 0 false)) (r4 : RowL w gh 4 [.bool false]) (hne : go ≠ gl ∧ go ≠ gw ∧ go ≠ bk ∧ 0 < go ∧ gh ≠ gl ∧ gh ≠ gw ∧ gh ≠ bk ∧ 0 < gh ∧ go ≠ gh) (hb : ∀ x ∈ jsixL a, x < 18446744073709551616) (h : okJ (kn : Int) n a f t fk tk r d li lr) (heq : ws.take (jW (kn : Int) n a f t fk tk r d).length = jW (kn : Int) n a f t fk tk r d) : Calls Tryz.prog 36 #[.pointer (some ⟨gl, 0, none⟩), .pointer (some ⟨gw, 0, none⟩), .pointer (some ⟨go, 0, none⟩), .pointer (some ⟨gh, 0, none⟩)] w fun x w' => x = .returned (.tuple #[]) ∧ RowL w' go 28 (redL (kn : Int) n a f t fk tk r d) ∧ RowL w' gh 4 [.bool true] ∧ Kept (jK2 w go gh) w w' :=
  (jof1_all lb li lr lt k1 k2 la lc ld le gl gw go gh bk off cap ws w hS hl r1 r2 hW hws hwb hcap x0 h0 hx0 kn hk m f1 f2 f3 f4 hkF hkd e4 n a f t fk tk r d hrd 0 r3 r4 hne hb).mono fun e w' q => q.1 h heq
theorem jof1_W (lb li lr lt : Int) (k1 k2 : Nat) (la lc ld le : Int) (gl gw go gh bk off cap : Nat) (ws : List Nat) (w : World) (hS : Start w) (hl : isL lb li lr lt la lc ld le) (r1 : RowL w gl 31 (jlyL lb li lr lt k1 k2 la lc ld le)) (r2 : RowL w gw 33 [.slice (some ⟨bk, off, none⟩) 64 cap]) (hW : WdsAt w bk off ws) (hws : ws.length = 64) (hwb : ∀ x ∈ ws, x < 18446744073709551616) (hcap : 64 ≤ cap) (x0 : Nat) (h0 : ws[0]? = some x0) (hx0 : x0 ≠ 0) (kn : Nat) (hk : x0 % 256 = kn) (m : Int) (f1 f2 f3 f4 : Nat) (hkF : jkindsF (kn : Int) = some (m, f1, f2, f3, f4)) (hkd : jkdO (kn : Int) = (m, f1, f2, f3, f4)) (e4 : entB Tryz.prog f4 = true) (n : Int) (a : Nat → Nat) (f t : Int) (fk tk : Nat) (r : Int) (d : Bool) (hrd : ∀ W gr gat, RowL W gr 28 (redL (kn : Int) 0 noA 0 0 0 0 0 false) → RowL W gat 3 [.int .i64 0] → RowL W gw 33 [.slice (some ⟨bk, off, none⟩) 64 cap] → WdsAt W bk off ws → (gat ≠ gw ∧ gat ≠ bk) → (gr ≠ gat ∧ gr ≠ gw ∧ gr ≠ bk) → Calls Tryz.prog f4 #[.pointer (some ⟨gr, 0, none⟩), .func (.func 39) #[] #[.pointer (some ⟨gat, 0, none⟩), .pointer (some ⟨gw, 0, none⟩)]] W fun e w' => e = .returned (.tuple #[]) ∧ RowL w' gr 28 (redL (kn : Int) n a f t fk tk r d) ∧ Kept (fun j => j < W.heap.size ∧ j ≠ gr ∧ j ≠ gat) W w') (ge : Nat) (r3 : RowL w go 28 (redL 0 0 noA 0 0 0 0 0 false)) (r4 : RowL w gh 4 [.bool false]) (hne : go ≠ gl ∧ go ≠ gw ∧ go ≠ bk ∧ 0 < go ∧ gh ≠ gl ∧ gh ≠ gw ∧ gh ≠ bk ∧ 0 < gh ∧ go ≠ gh) (hb : ∀ x ∈ jsixL a, x < 18446744073709551616) (h : okJ (kn : Int) n a f t fk tk r d li lr) (heq : ws.take (jW (kn : Int) n a f t fk tk r d).length ≠ jW (kn : Int) n a f t fk tk r d) : Calls Tryz.prog 36 #[.pointer (some ⟨gl, 0, none⟩), .pointer (some ⟨gw, 0, none⟩), .pointer (some ⟨go, 0, none⟩), .pointer (some ⟨gh, 0, none⟩)] w fun x w' => x = .panicked (chain1 (jrefV 310)) ∧ Kept (jKW w ge) w w' :=
  (jof1_all lb li lr lt k1 k2 la lc ld le gl gw go gh bk off cap ws w hS hl r1 r2 hW hws hwb hcap x0 h0 hx0 kn hk m f1 f2 f3 f4 hkF hkd e4 n a f t fk tk r d hrd ge r3 r4 hne hb).mono fun e w' q => q.2.1 h heq
theorem jof1_C (lb li lr lt : Int) (k1 k2 : Nat) (la lc ld le : Int) (gl gw go gh bk off cap : Nat) (ws : List Nat) (w : World) (hS : Start w) (hl : isL lb li lr lt la lc ld le) (r1 : RowL w gl 31 (jlyL lb li lr lt k1 k2 la lc ld le)) (r2 : RowL w gw 33 [.slice (some ⟨bk, off, none⟩) 64 cap]) (hW : WdsAt w bk off ws) (hws : ws.length = 64) (hwb : ∀ x ∈ ws, x < 18446744073709551616) (hcap : 64 ≤ cap) (x0 : Nat) (h0 : ws[0]? = some x0) (hx0 : x0 ≠ 0) (kn : Nat) (hk : x0 % 256 = kn) (m : Int) (f1 f2 f3 f4 : Nat) (hkF : jkindsF (kn : Int) = some (m, f1, f2, f3, f4)) (hkd : jkdO (kn : Int) = (m, f1, f2, f3, f4)) (e4 : entB Tryz.prog f4 = true) (n : Int) (a : Nat → Nat) (f t : Int) (fk tk : Nat) (r : Int) (d : Bool) (hrd : ∀ W gr gat, RowL W gr 28 (redL (kn : Int) 0 noA 0 0 0 0 0 false) → RowL W gat 3 [.int .i64 0] → RowL W gw 33 [.slice (some ⟨bk, off, none⟩) 64 cap] → WdsAt W bk off ws → (gat ≠ gw ∧ gat ≠ bk) → (gr ≠ gat ∧ gr ≠ gw ∧ gr ≠ bk) → Calls Tryz.prog f4 #[.pointer (some ⟨gr, 0, none⟩), .func (.func 39) #[] #[.pointer (some ⟨gat, 0, none⟩), .pointer (some ⟨gw, 0, none⟩)]] W fun e w' => e = .returned (.tuple #[]) ∧ RowL w' gr 28 (redL (kn : Int) n a f t fk tk r d) ∧ Kept (fun j => j < W.heap.size ∧ j ≠ gr ∧ j ≠ gat) W w') (ge : Nat) (r3 : RowL w go 28 (redL 0 0 noA 0 0 0 0 0 false)) (r4 : RowL w gh 4 [.bool false]) (hne : go ≠ gl ∧ go ≠ gw ∧ go ≠ bk ∧ 0 < go ∧ gh ≠ gl ∧ gh ≠ gw ∧ gh ≠ bk ∧ 0 < gh ∧ go ≠ gh) (hb : ∀ x ∈ jsixL a, x < 18446744073709551616) (h : ¬okJ (kn : Int) n a f t fk tk r d li lr) : Calls Tryz.prog 36 #[.pointer (some ⟨gl, 0, none⟩), .pointer (some ⟨gw, 0, none⟩), .pointer (some ⟨go, 0, none⟩), .pointer (some ⟨gh, 0, none⟩)] w fun x w' => x = .panicked (chain1 (jrefV 310)) ∧ Kept (jKW w ge) w w' :=
  (jof1_all lb li lr lt k1 k2 la lc ld le gl gw go gh bk off cap ws w hS hl r1 r2 hW hws hwb hcap x0 h0 hx0 kn hk m f1 f2 f3 f4 hkF hkd e4 n a f t fk tk r d hrd ge r3 r4 hne hb).mono fun e w' q => q.2.2 h
/-- Words begin with a redo's. -/
def jHas (ws : List Nat) (k n : Int) (a : Nat → Nat) (f t : Int) (fk tk : Nat) (r : Int) (d : Bool) (li lr : Int) : Prop := okJ k n a f t fk tk r d li lr ∧ ws.take (jW k n a f t fk tk r d).length = jW k n a f t fk tk r d
theorem take_at {ws xs : List Nat} (h : ws.take xs.length = xs) {j y : Nat} (hy : xs[j]? = some y) : ws[j]? = some y := by
  have hj := (List.getElem?_eq_some_iff.1 hy).1
  rw [← h, List.getElem?_take, if_pos hj] at hy
  exact hy
theorem jof1_K (lb li lr lt : Int) (k1 k2 : Nat) (la lc ld le : Int) (gl gw go gh bk off cap : Nat) (ws : List Nat) (w : World) (hS : Start w) (hl : isL lb li lr lt la lc ld le) (r1 : RowL w gl 31 (jlyL lb li lr lt k1 k2 la lc ld le)) (r2 : RowL w gw 33 [.slice (some ⟨bk, off, none⟩) 64 cap]) (hW : WdsAt w bk off ws) (hws : ws.length = 64) (hwb : ∀ x ∈ ws, x < 18446744073709551616) (hcap : 64 ≤ cap) (x0 : Nat) (h0 : ws[0]? = some x0) (hx0 : x0 ≠ 0) (kn : Nat) (hk : x0 % 256 = kn) (kN : jkindsF (kn : Int) = none) (ge : Nat) : Calls Tryz.prog 36 #[.pointer (some ⟨gl, 0, none⟩), .pointer (some ⟨gw, 0, none⟩), .pointer (some ⟨go, 0, none⟩), .pointer (some ⟨gh, 0, none⟩)] w fun x w' => x = .panicked (chain1 (jrefV 310)) ∧ Kept (jKW w ge) w w' := by
  have lgl := r1.lt; have lgw := r2.lt; have lbk := hW.lt
  have hS0 := hS.pos
  have hx64 := hwb x0 (List.mem_of_getElem? h0)
  have hkm : x0 &&& 255 = kn := (and_byte x0).trans hk
  have hkn : kn < 256 := by omega
  have hkk := Kept.refl (fun j => j < w.heap.size ∧ j ≠ w.heap.size ∧ j ≠ w.heap.size) w
  have hWF : ∀ X, Kept (fun j => j < w.heap.size ∧ j ≠ w.heap.size ∧ j ≠ w.heap.size) w X → WdsAt X bk off ws := fun X k => ⟨fun j x hx => (World.cell?_of_block (k.block bk ⟨lbk, by omega, by omega⟩)).trans (hW.cells j x hx), Nat.lt_of_lt_of_le lbk k.size⟩
  have hSF : ∀ X, Kept (fun j => j < w.heap.size ∧ j ≠ w.heap.size ∧ j ≠ w.heap.size) w X → Start X := fun X k => hS.kept k ⟨hS0, by omega, by omega⟩
  have c0 := hW.cells _ _ h0
  clear hW hS
  refine X.fnP Tryz.func36 rfl (n := 54) rfl rfl ?_
  refine Zr ?_; refine Zv r1 ?_
  refine Zy (R.call rfl rfl rfl) (jlay_T _ _ _ _ _ _ _ _ _ _ _ (by first | assumption | omega)) ?_
  rintro e W2 ⟨rfl, b1⟩
  refine ⟨_, rfl, ?_⟩; have zb1 := b1.size; replace r1 := r1.up b1; replace r2 := r2.up b1; replace hkk := Zh hkk b1; have y4 := hkk.size; replace c0 := cell_up c0 b1; refine Zq ?_; refine Zr ?_; refine Zl r2 ?_; refine Zn ?_; refine ZneF ?_
  refine Zy (R.call rfl rfl rfl) (jrefuse_F _ _) ?_
  rintro e W' ⟨rfl, rfl⟩
  refine ⟨_, rfl, ?_⟩; refine Zq ?_; refine Zc ?_; refine Zr ?_; refine Zl r2 ?_; refine Zi ?_; refine Zk ?_; refine ZeqF ?_; refine Zq ?_; refine ZN ?_; refine ZK ?_; refine ZT ?_; refine Zr ?_; refine Zl r2 ?_; refine Zi ?_; refine Zk ?_
  refine LL.val (R.andE (a := x0) (b := 255) (z := kn) rfl rfl rfl hx64 (by decide) hkm) rfl rfl rfl ?_
  refine LL.val (R.convI rfl rfl rfl rfl (wrapI (by omega) (by omega))) rfl rfl rfl ?_
  refine LL.val (R.buildV rfl rfl (v := .agg #[Value.int IntKind.i64 ↑kn, Value.int IntKind.i64 0, Value.int IntKind.u64 0, Value.int IntKind.u64 0, Value.int IntKind.u64 0, Value.int IntKind.u64 0, Value.int IntKind.u64 0, Value.int IntKind.u64 0, Value.int IntKind.u64 0, Value.int IntKind.u64 0, Value.int IntKind.u64 0, Value.int IntKind.u64 0, Value.int IntKind.u64 0, Value.int IntKind.u64 0, Value.int IntKind.u64 0, Value.int IntKind.u64 0, Value.int IntKind.u64 0, Value.int IntKind.u64 0, Value.int IntKind.i64 0, Value.int IntKind.i64 0, Value.int IntKind.u64 0, Value.int IntKind.u64 0, Value.int IntKind.i64 0, Value.bool false]) (fun _ => by kernel_rfl)) rfl rfl rfl ?_
  have l5 := r1.lt; have l6 := r2.lt
  refine LL.alloc ((redL 0 0 noA 0 0 0 0 0 false)) rfl rfl rfl rfl rfl ?_
  intro W8 g9 eg9 r10 z11 b7
  replace b1 := Zu b1 b7; replace r1 := r1.up b7; replace r2 := r2.up b7; replace hkk := Zh hkk b7; have y12 := hkk.size; replace c0 := cell_up c0 b7
  refine LL.storeN (vs := (redL (↑kn) 0 noA 0 0 0 0 0 false)) rfl rfl rfl rfl r10 (by exact Nat.le_of_ble_eq_true rfl) (ones_of rfl) rfl rfl ?_
  intro W14 r15 b13 z16
  have hlb13 := r10.lt
  replace r15 : RowL W14 _ 28 (redL (↑kn) 0 noA 0 0 0 0 0 false) := r15
  clear r10
  replace b7 := Zg b7 b13; replace b1 := Zg b1 b13; replace r1 := Zd r1 b13; replace r2 := Zd r2 b13; replace hkk := Zo hkk b13; replace c0 := Ze c0 b13
  have r10 := r15
  clear r15
  refine Zq ?_; refine Zc ?_
  refine CC.join (fun l_ W39 => ∃ (g33 : Nat), l_ = [(0, Value.pointer (some { block := gl, off := 0 })), (1, Value.pointer (some { block := gw, off := 0 })), (2, Value.pointer (some { block := go, off := 0 })), (3, Value.pointer (some { block := gh, off := 0 })), (9, Value.agg #[Value.int IntKind.i64 lb, Value.int IntKind.i64 li, Value.int IntKind.i64 lr, Value.int IntKind.i64 lt, Value.int IntKind.u64 ↑k1, Value.int IntKind.u64 ↑k2, Value.int IntKind.i64 la, Value.int IntKind.i64 lc, Value.int IntKind.i64 ld, Value.int IntKind.i64 le]), (11, Value.slice (some { block := bk, off := off }) 64 cap), (12, Value.int IntKind.i64 ↑64), (13, Value.bool false), (15, Value.slice (some { block := bk, off := off }) 64 cap), (16, Value.pointer (some { block := bk, off := off + 0 })), (17, Value.int IntKind.u64 ↑x0), (18, Value.bool false), (19, Value.slice (some { block := bk, off := off }) 64 cap), (20, Value.pointer (some { block := bk, off := off + 0 })), (21, Value.int IntKind.u64 ↑x0), (22, Value.int IntKind.u64 ↑kn), (23, Value.int IntKind.i64 ↑kn), (24, Value.agg #[Value.int IntKind.i64 ↑kn, Value.int IntKind.i64 0, Value.int IntKind.u64 0, Value.int IntKind.u64 0, Value.int IntKind.u64 0, Value.int IntKind.u64 0, Value.int IntKind.u64 0, Value.int IntKind.u64 0, Value.int IntKind.u64 0, Value.int IntKind.u64 0, Value.int IntKind.u64 0, Value.int IntKind.u64 0, Value.int IntKind.u64 0, Value.int IntKind.u64 0, Value.int IntKind.u64 0, Value.int IntKind.u64 0, Value.int IntKind.u64 0, Value.int IntKind.u64 0, Value.int IntKind.i64 0, Value.int IntKind.i64 0, Value.int IntKind.u64 0, Value.int IntKind.u64 0, Value.int IntKind.i64 0, Value.bool false]), (4, Value.pointer (some { block := g9, off := 0 })), (5, Value.pointer (some { block := g33, off := 0 })), (6, Value.bool false)] ∧ (Below W14.heap.size W14 W39) ∧ (Below W2.heap.size W2 W39) ∧ (Below w.heap.size w W39) ∧ (RowL W39 gl 31 (jlyL lb li lr lt k1 k2 la lc ld le)) ∧ (RowL W39 gw 33 [Value.slice (some { block := bk, off := off }) 64 cap]) ∧ (Kept (fun j => j < w.heap.size ∧ j ≠ w.heap.size ∧ j ≠ w.heap.size) w W39) ∧ (W39.cell? { block := bk, off := off + 0 } = some (Value.int IntKind.u64 ↑x0)) ∧ (RowL W39 g9 28 [Value.int IntKind.i64 ↑kn, Value.int IntKind.i64 0, Value.int IntKind.u64 0, Value.int IntKind.u64 0, Value.int IntKind.u64 0, Value.int IntKind.u64 0, Value.int IntKind.u64 0, Value.int IntKind.u64 0, Value.int IntKind.u64 0, Value.int IntKind.u64 0, Value.int IntKind.u64 0, Value.int IntKind.u64 0, Value.int IntKind.u64 0, Value.int IntKind.u64 0, Value.int IntKind.u64 0, Value.int IntKind.u64 0, Value.int IntKind.u64 0, Value.int IntKind.u64 0, Value.int IntKind.i64 0, Value.int IntKind.i64 0, Value.int IntKind.u64 0, Value.int IntKind.u64 0, Value.int IntKind.i64 0, Value.bool false]) ∧ (RowL W39 g33 74 [Value.int IntKind.i64 0, Value.nilFunc, Value.nilFunc, Value.nilFunc, Value.nilFunc]) ∧ (W14.heap.size ≤ W39.heap.size) ∧ (W14.heap.size ≤ g33)) (fun J44 => ?_) ?restJ44
  case' restJ44 =>
    clear b7
    clear b1
    clear r1
    clear r2
    clear hkk
    clear c0
    clear r10
    rintro _ W39 ⟨g33, rfl, b17, b7, b1, r1, r2, hkk, c0, r10, r34, z42, z43⟩
  refine ZT ?_; refine Zr ?_; refine Zm ?_; refine Zt ?_
  refine LL.callP (R.call rfl rfl rfl) rfl rfl (jrefuse_T _ _) ?_
  rintro e W46 ⟨rfl, rfl⟩
  refine ⟨_, rfl, ?_⟩; refine EE.thenP ?_; refine EE.panM ?_
  exact ⟨rfl, hkk.less fun j hj => ⟨hj.1, by have := hj.1; omega, by have := hj.1; omega⟩⟩
  refine CC.freeZ (fun W_ j => j < W_.heap.size ∧ (True)) (by kernel_rfl) (by kernel_rfl) (fun W48 b47 z49 => ?_)
  replace b7 := Zu b7 b47; replace b1 := Zu b1 b47; replace r1 := r1.up b47; replace r2 := r2.up b47; replace hkk := Zh hkk b47; have y50 := hkk.size; replace c0 := cell_up c0 b47; replace r10 := r10.up b47
  have hok : Kept (fun j => j < W48.heap.size ∧ (True)) W48 W48 := Kept.refl _ _
  have fzr1 := fzRow (K := fun j => j < W48.heap.size ∧ (True)) r1 ⟨r1.lt, (by first | trivial | omega)⟩
  have fzr2 := fzRow (K := fun j => j < W48.heap.size ∧ (True)) r2 ⟨r2.lt, (by first | trivial | omega)⟩
  have fzc0 := fzCell (K := fun j => j < W48.heap.size ∧ (True)) c0 ⟨World.block_lt_of_cell? _ _ c0, (by first | trivial | omega)⟩
  have fzr10 := fzRow (K := fun j => j < W48.heap.size ∧ (True)) r10 ⟨r10.lt, (by first | trivial | omega)⟩
  refine AA.pure 1 rfl hok (by kernel_rfl) (fun w' b' => R.field rfl rfl (I.fld rfl)) rfl rfl ?_
  refine AA.pure 2 rfl hok (by kernel_rfl) (fun w' b' => R.load rfl rfl (I.ld1 rfl (RowL.cell (fzr10 w' b') rfl))) rfl rfl ?_
  refine AA.two 0 7 (by kernel_rfl) ?_ ?_
  refine SR.call rfl (R.call rfl rfl rfl) rfl rfl (jkinds_any _) ?_
  rintro e W52 ⟨g54, k55, rfl, h53, b51⟩
  have zb51 := b51.size; replace b47 := Zu b47 b51; replace b7 := Zu b7 b51; replace b1 := Zu b1 b51; replace r1 := r1.up b51; replace r2 := r2.up b51; replace hkk := Zh hkk b51; have y56 := hkk.size; replace c0 := cell_up c0 b51; replace r10 := r10.up b51; replace hok := Zh hok b51; have y57 := hok.size
  refine ⟨_, rfl, hok, ?_⟩
  refine AA.two 3 7 (by kernel_rfl) ?_ ?_
  (refine SR.val rfl (R.lookKF rfl rfl jKeys (by rfl) (z := jkdZ) (by kernel_rfl) (by assumption) (kn : Int) rfl kN) rfl rfl hok ?_)
  refine AA.pure 4 rfl hok (by kernel_rfl) (fun w' b' => R.move rfl rfl) rfl rfl ?_
  refine AA.pure 5 rfl hok (by kernel_rfl) (fun w' b' => R.extract rfl rfl rfl) rfl rfl ?_
  refine AA.pure 6 rfl hok (by kernel_rfl) (fun w' b' => R.extract rfl rfl rfl) rfl rfl ?_
  refine AA.one 7 (by kernel_rfl) ?_
  have l58 := r1.lt; have l59 := r2.lt; have l60 := r10.lt
  refine ZR.alloc ([.int .i64 0, Value.nilFunc, Value.nilFunc, Value.nilFunc, Value.nilFunc]) rfl rfl rfl rfl rfl rfl ?_
  intro W62 g63 eg63 r64 z65 b61
  replace h53 := h53.up b61; replace b51 := Zu b51 b61; replace b47 := Zu b47 b61; replace b7 := Zu b7 b61; replace b1 := Zu b1 b61; replace r1 := r1.up b61; replace r2 := r2.up b61; replace hkk := Zh hkk b61; have y66 := hkk.size; replace c0 := cell_up c0 b61; replace r10 := r10.up b61; replace hok := Zh hok b61; have y67 := hok.size
  refine ⟨hok, ?_⟩
  refine AA.one 8 (by kernel_rfl) ?_
  refine ZR.storeN (vs := [.int .i64 0, Value.nilFunc, Value.nilFunc, Value.nilFunc, Value.nilFunc]) rfl rfl rfl rfl rfl r64 (by exact Nat.le_of_ble_eq_true rfl) (ones_of rfl) rfl rfl ?_
  intro W69 r70 b68 z71
  have hlb68 := r64.lt
  replace r70 : RowL W69 _ 74 [.int .i64 0, Value.nilFunc, Value.nilFunc, Value.nilFunc, Value.nilFunc] := r70
  clear r64
  replace b61 := Zg b61 b68; replace b51 := Zg b51 b68; replace b47 := Zg b47 b68; replace b7 := Zg b7 b68; replace b1 := Zg b1 b68; replace r1 := Zd r1 b68; replace r2 := Zd r2 b68; replace hkk := Zo hkk b68; replace c0 := Ze c0 b68; replace r10 := Zd r10 b68; replace hok := Zo hok b68
  have r64 := r70
  clear r70
  refine ⟨hok, ?_⟩
  refine AA.pure 9 rfl hok (by kernel_rfl) (fun w' b' => R.assign rfl rfl) rfl rfl ?_
  refine AA.done rfl ?_
  clear fzr1 fzr2 fzc0 fzr10 hok
  exact EE.weak (J44 _ _ ⟨_, rfl, (by first | assumption | omega), (by first | assumption | omega), (by first | assumption | omega), (by first | assumption | omega), (by first | assumption | omega), (by first | assumption | omega), (by first | assumption | omega), (by first | assumption | omega), (by first | assumption | omega), (by first | assumption | omega), (by first | assumption | omega)⟩) ⟨rfl, rfl, rfl, rfl, rfl, rfl, rfl, rfl, rfl, rfl, rfl, rfl, rfl, rfl, rfl, rfl, rfl, rfl, rfl, rfl, rfl, trivial⟩
  have l72 := r1.lt; have l73 := r2.lt; have l74 := r10.lt
  refine ZR.alloc ([.int .i64 0, Value.nilFunc, Value.nilFunc, Value.nilFunc, Value.nilFunc]) rfl rfl rfl rfl rfl rfl ?_
  intro W76 g77 eg77 r78 z79 b75
  replace h53 := h53.up b75; replace b51 := Zu b51 b75; replace b47 := Zu b47 b75; replace b7 := Zu b7 b75; replace b1 := Zu b1 b75; replace r1 := r1.up b75; replace r2 := r2.up b75; replace hkk := Zh hkk b75; have y80 := hkk.size; replace c0 := cell_up c0 b75; replace r10 := r10.up b75; replace hok := Zh hok b75; have y81 := hok.size
  refine ⟨hok, ?_⟩
  refine AA.one 3 (by kernel_rfl) ?_
  (refine SR.val rfl (R.lookKF rfl rfl jKeys (by rfl) (z := jkdZ) (by kernel_rfl) (by assumption) (kn : Int) rfl kN) rfl rfl hok ?_)
  refine AA.pure 4 rfl hok (by kernel_rfl) (fun w' b' => R.move rfl rfl) rfl rfl ?_
  refine AA.pure 5 rfl hok (by kernel_rfl) (fun w' b' => R.extract rfl rfl rfl) rfl rfl ?_
  refine AA.pure 6 rfl hok (by kernel_rfl) (fun w' b' => R.extract rfl rfl rfl) rfl rfl ?_
  refine AA.one 8 (by kernel_rfl) ?_
  refine ZR.storeN (vs := [.int .i64 0, Value.nilFunc, Value.nilFunc, Value.nilFunc, Value.nilFunc]) rfl rfl rfl rfl rfl r78 (by exact Nat.le_of_ble_eq_true rfl) (ones_of rfl) rfl rfl ?_
  intro W83 r84 b82 z85
  have hlb82 := r78.lt
  replace r84 : RowL W83 _ 74 [.int .i64 0, Value.nilFunc, Value.nilFunc, Value.nilFunc, Value.nilFunc] := r84
  clear r78
  replace b75 := Zg b75 b82; replace b51 := Zg b51 b82; replace b47 := Zg b47 b82; replace b7 := Zg b7 b82; replace b1 := Zg b1 b82; replace r1 := Zd r1 b82; replace r2 := Zd r2 b82; replace hkk := Zo hkk b82; replace c0 := Ze c0 b82; replace r10 := Zd r10 b82; replace hok := Zo hok b82
  have r78 := r84
  clear r84
  refine ⟨hok, ?_⟩
  refine AA.pure 9 rfl hok (by kernel_rfl) (fun w' b' => R.assign rfl rfl) rfl rfl ?_
  refine AA.done rfl ?_
  clear fzr1 fzr2 fzc0 fzr10 hok
  exact EE.weak (J44 _ _ ⟨_, rfl, (by first | assumption | omega), (by first | assumption | omega), (by first | assumption | omega), (by first | assumption | omega), (by first | assumption | omega), (by first | assumption | omega), (by first | assumption | omega), (by first | assumption | omega), (by first | assumption | omega), (by first | assumption | omega), (by first | assumption | omega)⟩) ⟨rfl, rfl, rfl, rfl, rfl, rfl, rfl, rfl, rfl, rfl, rfl, rfl, rfl, rfl, rfl, rfl, rfl, rfl, rfl, rfl, rfl, trivial⟩
  have l86 := r1.lt; have l87 := r2.lt; have l88 := r10.lt
  refine ZR.alloc ([.int .i64 0, Value.nilFunc, Value.nilFunc, Value.nilFunc, Value.nilFunc]) rfl rfl rfl rfl rfl rfl ?_
  intro W90 g91 eg91 r92 z93 b89
  replace b47 := Zu b47 b89; replace b7 := Zu b7 b89; replace b1 := Zu b1 b89; replace r1 := r1.up b89; replace r2 := r2.up b89; replace hkk := Zh hkk b89; have y94 := hkk.size; replace c0 := cell_up c0 b89; replace r10 := r10.up b89; replace hok := Zh hok b89; have y95 := hok.size
  refine ⟨hok, ?_⟩
  refine AA.one 0 (by kernel_rfl) ?_
  refine SR.call rfl (R.call rfl rfl rfl) rfl rfl (jkinds_any _) ?_
  rintro e W97 ⟨g99, k100, rfl, h98, b96⟩
  have zb96 := b96.size; replace r92 := r92.up b96; replace b89 := Zu b89 b96; replace b47 := Zu b47 b96; replace b7 := Zu b7 b96; replace b1 := Zu b1 b96; replace r1 := r1.up b96; replace r2 := r2.up b96; replace hkk := Zh hkk b96; have y101 := hkk.size; replace c0 := cell_up c0 b96; replace r10 := r10.up b96; replace hok := Zh hok b96; have y102 := hok.size
  refine ⟨_, rfl, hok, ?_⟩
  refine AA.one 3 (by kernel_rfl) ?_
  (refine SR.val rfl (R.lookKF rfl rfl jKeys (by rfl) (z := jkdZ) (by kernel_rfl) (by assumption) (kn : Int) rfl kN) rfl rfl hok ?_)
  refine AA.pure 4 rfl hok (by kernel_rfl) (fun w' b' => R.move rfl rfl) rfl rfl ?_
  refine AA.pure 5 rfl hok (by kernel_rfl) (fun w' b' => R.extract rfl rfl rfl) rfl rfl ?_
  refine AA.pure 6 rfl hok (by kernel_rfl) (fun w' b' => R.extract rfl rfl rfl) rfl rfl ?_
  refine AA.one 8 (by kernel_rfl) ?_
  refine ZR.storeN (vs := [.int .i64 0, Value.nilFunc, Value.nilFunc, Value.nilFunc, Value.nilFunc]) rfl rfl rfl rfl rfl r92 (by exact Nat.le_of_ble_eq_true rfl) (ones_of rfl) rfl rfl ?_
  intro W104 r105 b103 z106
  have hlb103 := r92.lt
  replace r105 : RowL W104 _ 74 [.int .i64 0, Value.nilFunc, Value.nilFunc, Value.nilFunc, Value.nilFunc] := r105
  clear r92
  replace b89 := Zg b89 b103; replace b47 := Zg b47 b103; replace b7 := Zg b7 b103; replace b1 := Zg b1 b103; replace r1 := Zd r1 b103; replace r2 := Zd r2 b103; replace hkk := Zo hkk b103; replace c0 := Ze c0 b103; replace r10 := Zd r10 b103; replace hok := Zo hok b103
  have r92 := r105
  clear r105
  refine ⟨hok, ?_⟩
  refine AA.pure 9 rfl hok (by kernel_rfl) (fun w' b' => R.assign rfl rfl) rfl rfl ?_
  refine AA.done rfl ?_
  clear fzr1 fzr2 fzc0 fzr10 hok
  exact EE.weak (J44 _ _ ⟨_, rfl, (by first | assumption | omega), (by first | assumption | omega), (by first | assumption | omega), (by first | assumption | omega), (by first | assumption | omega), (by first | assumption | omega), (by first | assumption | omega), (by first | assumption | omega), (by first | assumption | omega), (by first | assumption | omega), (by first | assumption | omega)⟩) ⟨rfl, rfl, rfl, rfl, rfl, rfl, rfl, rfl, rfl, rfl, rfl, rfl, rfl, rfl, rfl, rfl, rfl, rfl, rfl, rfl, rfl, trivial⟩
theorem jof1_0 (lb li lr lt : Int) (k1 k2 : Nat) (la lc ld le : Int) (gl gw go gh bk off cap : Nat) (ws : List Nat) (w : World) (hl : isL lb li lr lt la lc ld le) (r1 : RowL w gl 31 (jlyL lb li lr lt k1 k2 la lc ld le)) (r2 : RowL w gw 33 [.slice (some ⟨bk, off, none⟩) 64 cap]) (hW : WdsAt w bk off ws) (hcap : 64 ≤ cap) (h0 : ws[0]? = some 0) : Calls Tryz.prog 36 #[.pointer (some ⟨gl, 0, none⟩), .pointer (some ⟨gw, 0, none⟩), .pointer (some ⟨go, 0, none⟩), .pointer (some ⟨gh, 0, none⟩)] w fun x w' => x = .returned (.tuple #[]) ∧ Below w.heap.size w w' := by
  have q := Below.refl w.heap.size w
  have c0 := hW.cells _ _ h0
  have lbk := hW.lt
  clear hW
  refine X.fn Tryz.func36 rfl (n := 54) rfl rfl ?_
  refine Zr ?_; refine Zv r1 ?_
  refine Zy (R.call rfl rfl rfl) (jlay_T _ _ _ _ _ _ _ _ _ _ _ (by first | assumption | omega)) ?_
  rintro e W2 ⟨rfl, b1⟩
  refine ⟨_, rfl, ?_⟩; have zb1 := b1.size; replace r1 := r1.up b1; replace r2 := r2.up b1; replace q := Zu q b1; replace c0 := cell_up c0 b1; refine Zq ?_; refine Zr ?_; refine Zl r2 ?_; refine Zn ?_; refine ZneF ?_
  refine Zy (R.call rfl rfl rfl) (jrefuse_F _ _) ?_
  rintro e W' ⟨rfl, rfl⟩
  refine ⟨_, rfl, ?_⟩; refine Zq ?_; refine Zc ?_; refine Zr ?_; refine Zl r2 ?_; refine Zi ?_; refine Zk ?_; refine ZeqT ?_; refine Zq ?_; refine ZY ?_; refine ZR ?_; refine EE.thenR ?_; refine EE.ret _ rfl rfl ?_
  exact ⟨rfl, q⟩
theorem jof1_yes (lb li lr lt : Int) (k1 k2 : Nat) (la lc ld le : Int) (gl gw go gh bk off cap : Nat) (ws : List Nat) (w : World) (hS : Start w) (hl : isL lb li lr lt la lc ld le) (r1 : RowL w gl 31 (jlyL lb li lr lt k1 k2 la lc ld le)) (r2 : RowL w gw 33 [.slice (some ⟨bk, off, none⟩) 64 cap]) (hW : WdsAt w bk off ws) (hws : ws.length = 64) (hwb : ∀ x ∈ ws, x < 18446744073709551616) (hcap : 64 ≤ cap) (k n : Int) (a : Nat → Nat) (f t : Int) (fk tk : Nat) (r : Int) (d : Bool) (hb : ∀ x ∈ jsixL a, x < 18446744073709551616) (hh : jHas ws k n a f t fk tk r d li lr) (r3 : RowL w go 28 (redL 0 0 noA 0 0 0 0 0 false)) (r4 : RowL w gh 4 [.bool false]) (hne : go ≠ gl ∧ go ≠ gw ∧ go ≠ bk ∧ 0 < go ∧ gh ≠ gl ∧ gh ≠ gw ∧ gh ≠ bk ∧ 0 < gh ∧ go ≠ gh) : Calls Tryz.prog 36 #[.pointer (some ⟨gl, 0, none⟩), .pointer (some ⟨gw, 0, none⟩), .pointer (some ⟨go, 0, none⟩), .pointer (some ⟨gh, 0, none⟩)] w fun x w' => x = .returned (.tuple #[]) ∧ RowL w' go 28 (redL k n a f t fk tk r d) ∧ RowL w' gh 4 [.bool true] ∧ Kept (jK2 w go gh) w w' := by
  obtain ⟨hok, htk⟩ := hh
  have hlb := isL_b hl
  rcases id hok with ⟨rfl, hn, hfl, rfl, rfl, rfl, rfl, rfl, rfl⟩ | ⟨rfl, hn, ha, h1, h2, h3, h4⟩
  · have e0 : ws[0]? = some 4353 := take_at htk rfl
    have e1 : ws[1]? = some n.toNat := take_at htk rfl
    have hs : smallZ n.toNat = n := by unfold smallZ; rw [if_pos (by omega)]; omega
    have hf : ∀ i, i < 16 → jfill ws 16 i = a i := fun i hi => by
      unfold jfill
      rw [if_pos hi]
      have hc : i = 0 ∨ i = 1 ∨ i = 2 ∨ i = 3 ∨ i = 4 ∨ i = 5 ∨ i = 6 ∨ i = 7 ∨ i = 8 ∨ i = 9 ∨ i = 10 ∨ i = 11 ∨ i = 12 ∨ i = 13 ∨ i = 14 ∨ i = 15 := by omega
      rcases hc with rfl | rfl | rfl | rfl | rfl | rfl | rfl | rfl | rfl | rfl | rfl | rfl | rfl | rfl | rfl | rfl <;> (rw [take_at htk rfl]; rfl)
    refine jof1_T lb li lr lt k1 k2 la lc ld le gl gw go gh bk off cap ws w hS hl r1 r2 hW hws hwb hcap 4353 e0 (by decide) 1 rfl 17 _ _ _ _ jkF_1 rfl (by kernel_rfl) n a 0 0 0 0 0 false (fun W gr gat h1 h2 h3 h4 h5 h6 => (readI_any gr gat gw bk off cap ws hws hwb _ e1 W h1 h2 h3 h4 h5 h6).mono fun e w' ⟨he, hr, hk⟩ => ⟨he, ?_, hk⟩) r3 r4 hne hb hok htk
    rw [hs] at hr
    unfold redL at hr ⊢
    rw [hf 0 (by decide), hf 1 (by decide), hf 2 (by decide), hf 3 (by decide), hf 4 (by decide), hf 5 (by decide), hf 6 (by decide), hf 7 (by decide), hf 8 (by decide), hf 9 (by decide), hf 10 (by decide), hf 11 (by decide), hf 12 (by decide), hf 13 (by decide), hf 14 (by decide), hf 15 (by decide)] at hr
    exact hr
  · have e0 : ws[0]? = some 1794 := take_at htk rfl
    have e1 : ws[1]? = some f.toNat := take_at htk rfl
    have e2 : ws[2]? = some fk := take_at htk rfl
    have e3 : ws[3]? = some t.toNat := take_at htk rfl
    have e4 : ws[4]? = some tk := take_at htk rfl
    have e5 : ws[5]? = some r.toNat := take_at htk rfl
    have e6 : ws[6]? = some n.toNat := take_at htk rfl
    have e7 : ws[7]? = some (if d then 1 else 0) := take_at htk rfl
    have hs : ∀ z : Int, 1 ≤ z → z ≤ 1024 → smallZ z.toNat = z := fun z hz hz2 => by unfold smallZ; rw [if_pos (by omega)]; omega
    have hd : ((if d then 1 else 0 : Nat) != 0) = d := by cases d <;> rfl
    have hm := fun {j x : Nat} (h : ws[j]? = some x) => hwb x (List.mem_of_getElem? h)
    refine jof1_T lb li lr lt k1 k2 la lc ld le gl gw go gh bk off cap ws w hS hl r1 r2 hW hws hwb hcap 1794 e0 (by decide) 2 rfl 7 _ _ _ _ jkF_2 rfl (by kernel_rfl) n a f t fk tk r d (fun W gr gat g1 g2 g3 g4 g5 g6 => (readN_any gr gat gw bk off cap ws _ _ _ _ _ _ _ e1 (hm e1) e2 (hm e2) e3 (hm e3) e4 (hm e4) e5 (hm e5) e6 (hm e6) e7 (hm e7) W g1 g2 g3 g4 g5 g6).mono fun e w' ⟨he, hr, hk⟩ => ⟨he, ?_, hk⟩) r3 r4 hne hb hok htk
    rw [hs n (by omega) (by omega), hs f (by omega) (by omega), hs t (by omega) (by omega), hs r (by omega) (by omega), hd] at hr
    unfold redL at hr ⊢
    rw [ha 0 (by decide), ha 1 (by decide), ha 2 (by decide), ha 3 (by decide), ha 4 (by decide), ha 5 (by decide), ha 6 (by decide), ha 7 (by decide), ha 8 (by decide), ha 9 (by decide), ha 10 (by decide), ha 11 (by decide), ha 12 (by decide), ha 13 (by decide), ha 14 (by decide), ha 15 (by decide)]
    exact hr
theorem jof1_nono (lb li lr lt : Int) (k1 k2 : Nat) (la lc ld le : Int) (gl gw go gh bk off cap : Nat) (ws : List Nat) (w : World) (hS : Start w) (hl : isL lb li lr lt la lc ld le) (r1 : RowL w gl 31 (jlyL lb li lr lt k1 k2 la lc ld le)) (r2 : RowL w gw 33 [.slice (some ⟨bk, off, none⟩) 64 cap]) (hW : WdsAt w bk off ws) (hws : ws.length = 64) (hwb : ∀ x ∈ ws, x < 18446744073709551616) (hcap : 64 ≤ cap) (x0 : Nat) (h0 : ws[0]? = some x0) (hx0 : x0 ≠ 0) (ge : Nat) (r3 : RowL w go 28 (redL 0 0 noA 0 0 0 0 0 false)) (r4 : RowL w gh 4 [.bool false]) (hne : go ≠ gl ∧ go ≠ gw ∧ go ≠ bk ∧ 0 < go ∧ gh ≠ gl ∧ gh ≠ gw ∧ gh ≠ bk ∧ 0 < gh ∧ go ≠ gh) (hno : ∀ k n a f t fk tk r d, ¬jHas ws k n a f t fk tk r d li lr) : Calls Tryz.prog 36 #[.pointer (some ⟨gl, 0, none⟩), .pointer (some ⟨gw, 0, none⟩), .pointer (some ⟨go, 0, none⟩), .pointer (some ⟨gh, 0, none⟩)] w fun x w' => x = .panicked (chain1 (jrefV 310)) ∧ Kept (jKW w ge) w w' := by
  have hat : ∀ j, j < 64 → ∃ x, ws[j]? = some x := fun j hj => ⟨_, List.getElem?_eq_getElem (by omega)⟩
  have hm := fun {j x : Nat} (h : ws[j]? = some x) => hwb x (List.mem_of_getElem? h)
  obtain ⟨x1, e1⟩ := hat 1 (by decide)
  obtain ⟨x2, e2⟩ := hat 2 (by decide)
  obtain ⟨x3, e3⟩ := hat 3 (by decide)
  obtain ⟨x4, e4⟩ := hat 4 (by decide)
  obtain ⟨x5, e5⟩ := hat 5 (by decide)
  obtain ⟨x6, e6⟩ := hat 6 (by decide)
  obtain ⟨x7, e7⟩ := hat 7 (by decide)
  have hkc : x0 % 256 = 1 ∨ x0 % 256 = 2 ∨ (x0 % 256 < 1 ∨ 2 < x0 % 256) := by omega
  rcases hkc with hk | hk | hk
  · have hrd := fun W gr gat h1 h2 h3 h4 h5 h6 => readI_any gr gat gw bk off cap ws hws hwb _ e1 W h1 h2 h3 h4 h5 h6
    have hb1 : ∀ x ∈ jsixL (jfill ws 16), x < 18446744073709551616 := by
      intro x hx
      have hx2 : x ∈ (List.range 16).map (fun i => jfill ws 16 i) := hx
      obtain ⟨i, hi, rfl⟩ := List.mem_map.1 hx2
      have hi16 : i < 16 := by simpa using hi
      unfold jfill
      rw [if_pos hi16]
      obtain ⟨y, hy⟩ := hat (2 + i) (by omega)
      rw [hy]
      exact hm hy
    by_cases hok : okJ 1 (smallZ x1) (jfill ws 16) 0 0 0 0 0 false li lr
    · exact jof1_W lb li lr lt k1 k2 la lc ld le gl gw go gh bk off cap ws w hS hl r1 r2 hW hws hwb hcap x0 h0 hx0 1 hk 17 _ _ _ _ jkF_1 rfl (by kernel_rfl) _ _ 0 0 0 0 0 false hrd ge r3 r4 hne hb1 hok (fun he => hno _ _ _ _ _ _ _ _ _ ⟨hok, he⟩)
    · exact jof1_C lb li lr lt k1 k2 la lc ld le gl gw go gh bk off cap ws w hS hl r1 r2 hW hws hwb hcap x0 h0 hx0 1 hk 17 _ _ _ _ jkF_1 rfl (by kernel_rfl) _ _ 0 0 0 0 0 false hrd ge r3 r4 hne hb1 hok
  · have hrd := fun W gr gat h1' h2' h3' h4' h5' h6' => readN_any gr gat gw bk off cap ws _ _ _ _ _ _ _ e1 (hm e1) e2 (hm e2) e3 (hm e3) e4 (hm e4) e5 (hm e5) e6 (hm e6) e7 (hm e7) W h1' h2' h3' h4' h5' h6'
    have hb2 : ∀ x ∈ jsixL noA, x < 18446744073709551616 := by
      intro x hx
      have hx2 : x ∈ (List.range 16).map noA := hx
      obtain ⟨i, hi, rfl⟩ := List.mem_map.1 hx2
      show (0 : Nat) < 18446744073709551616
      decide
    by_cases hok : okJ 2 (smallZ x6) noA (smallZ x1) (smallZ x3) x2 x4 (smallZ x5) (x7 != 0) li lr
    · exact jof1_W lb li lr lt k1 k2 la lc ld le gl gw go gh bk off cap ws w hS hl r1 r2 hW hws hwb hcap x0 h0 hx0 2 hk 7 _ _ _ _ jkF_2 rfl (by kernel_rfl) _ _ _ _ _ _ _ _ hrd ge r3 r4 hne hb2 hok (fun he => hno _ _ _ _ _ _ _ _ _ ⟨hok, he⟩)
    · exact jof1_C lb li lr lt k1 k2 la lc ld le gl gw go gh bk off cap ws w hS hl r1 r2 hW hws hwb hcap x0 h0 hx0 2 hk 7 _ _ _ _ jkF_2 rfl (by kernel_rfl) _ _ _ _ _ _ _ _ hrd ge r3 r4 hne hb2 hok
  · exact jof1_K lb li lr lt k1 k2 la lc ld le gl gw go gh bk off cap ws w hS hl r1 r2 hW hws hwb hcap x0 h0 hx0 _ rfl (jkF_no (by omega)) ge
set_option linter.unusedVariables false
set_option linter.unusedSimpArgs false
set_option maxRecDepth 100000
set_option maxHeartbeats 8000000
section
variable {P : Program} {fn : Func} {R : Ending → World → Prop} {n : Nat} {M : Slots} {w : World} {s y z : Tmp} {t : TypeId} {p : Addr} {u v v2 : Value}
theorem EE.ret3c (h : fn.results = #[.cell s t, .tmp y, .tmp z]) (h0 : M s = some (.pointer (some p))) (h1 : (loadVar t p).run P w = .ok u w) (hy : M y = some v) (hz : M z = some v2) (hR : R (.returned (.tuple #[u, v, v2])) w) : EE (bodyPost P fn R) n [] M .ret w := EE.mk fun a F => ⟨F.defers, _, by
  unfold results
  rw [h]
  have g1 := F.get s _ h0
  have g2 := F.get y _ hy
  have g3 := F.get z _ hz
  simp only [List.mapM_toArray, List.mapM_cons, List.mapM_nil, g1, g2, g3, asAddr]
  simp only [bind_assoc, pure_bind, Sem.run_bind, Sem.run_map, Sem.run_pure, h1, Result.andThen_ok]
  rfl, hR⟩
end
theorem jof_run (lb li lr lt : Int) (k1 k2 : Nat) (la lc ld le : Int) (x : Option Addr) (m c : Nat) (k n : Int) (a : Nat → Nat) (f t : Int) (fk tk : Nat) (r : Int) (d : Bool) (hb : Bool) (w : World) (hS0 : 0 < w.heap.size)
    (hwork : ∀ W gl gw go gh, Below w.heap.size w W → w.heap.size ≤ gl → w.heap.size ≤ gw → w.heap.size ≤ go → w.heap.size ≤ gh → (go ≠ gl ∧ go ≠ gw ∧ gh ≠ gl ∧ gh ≠ gw ∧ go ≠ gh) → RowL W gl 31 (jlyL lb li lr lt k1 k2 la lc ld le) → RowL W gw 33 [.slice x m c] → RowL W go 28 (redL 0 0 noA 0 0 0 0 0 false) → RowL W gh 4 [.bool false] → Calls Tryz.prog 36 #[.pointer (some ⟨gl, 0, none⟩), .pointer (some ⟨gw, 0, none⟩), .pointer (some ⟨go, 0, none⟩), .pointer (some ⟨gh, 0, none⟩)] W fun e W' => e = .returned (.tuple #[]) ∧ RowL W' go 28 (redL k n a f t fk tk r d) ∧ RowL W' gh 4 [.bool hb] ∧ Kept (jK2 W go gh) W W') :
    Calls Tryz.prog 16 #[layV lb li lr lt k1 k2 la lc ld le, .slice x m c] w fun e w' => e = .returned (.tuple #[redV k n a f t fk tk r d, .bool hb, .int .i64 0]) ∧ Below w.heap.size w w' := by
  have q := Below.refl w.heap.size w
  refine X.fn Tryz.func16 rfl (n := 15) rfl rfl ?_
  refine Zr ?_
  refine LL.box (jlyL lb li lr lt k1 k2 la lc ld le) rfl rfl rfl rfl rfl ?_
  intro W2 g3 eg3 r4 z5 b1
  replace q := Zu q b1; have l6 := r4.lt
  refine LL.box [.slice x m c] rfl rfl rfl rfl rfl ?_
  intro W8 g9 eg9 r10 z11 b7
  replace r4 := r4.up b7; replace b1 := Zu b1 b7; replace q := Zu q b7; have l12 := r10.lt; have l13 := r4.lt
  refine LL.alloc ((redL 0 0 noA 0 0 0 0 0 false)) rfl rfl rfl rfl rfl ?_
  intro W15 g16 eg16 r17 z18 b14
  replace r10 := r10.up b14; replace b7 := Zu b7 b14; replace r4 := r4.up b14; replace b1 := Zu b1 b14; replace q := Zu q b14; refine Za ?_; refine Za ?_; refine Zq ?_; refine Zr ?_; have l19 := r17.lt; have l20 := r10.lt; have l21 := r4.lt
  refine LL.alloc ((redL 0 0 noA 0 0 0 0 0 false)) rfl rfl rfl rfl rfl ?_
  intro W23 g24 eg24 r25 z26 b22
  replace r17 := r17.up b22; replace b14 := Zu b14 b22; replace r10 := r10.up b22; replace b7 := Zu b7 b22; replace r4 := r4.up b22; replace b1 := Zu b1 b22; replace q := Zu q b22; refine Zq ?_; refine Zr ?_; have l27 := r25.lt; have l28 := r17.lt; have l29 := r10.lt; have l30 := r4.lt
  refine LL.alloc ([.bool false]) rfl rfl rfl rfl rfl ?_
  intro W32 g33 eg33 r34 z35 b31
  replace r25 := r25.up b31; replace b22 := Zu b22 b31; replace r17 := r17.up b31; replace b14 := Zu b14 b31; replace r10 := r10.up b31; replace b7 := Zu b7 b31; replace r4 := r4.up b31; replace b1 := Zu b1 b31; replace q := Zu q b31
  refine LL.store rfl rfl rfl rfl r34 (by exact Nat.le_of_ble_eq_true rfl) rfl rfl rfl rfl ?_
  intro W37 r38 b36 z39
  have hlb36 := r34.lt
  replace r38 : RowL W37 _ 4 [.bool false] := r38
  clear r34
  replace b31 := Zg b31 b36; replace r25 := Zd r25 b36; replace b22 := Zg b22 b36; replace r17 := Zd r17 b36; replace b14 := Zg b14 b36; replace r10 := Zd r10 b36; replace b7 := Zg b7 b36; replace r4 := Zd r4 b36; replace b1 := Zg b1 b36; replace q := Zg q b36
  have r34 := r38
  clear r38
  refine Zq ?_; refine Zr ?_
  refine LL.val (R.func rfl rfl rfl) rfl rfl rfl ?_
  (have lg4 := r4.lt; have lg10 := r10.lt; have lg25 := r25.lt; have lg34 := r34.lt; have r25n : RowL _ g24 28 (redL 0 0 noA 0 0 0 0 0 false) := r25; refine Zy (R.call rfl rfl rfl) (jguarded_R2 _ [.pointer (some ⟨g3, 0, none⟩), .pointer (some ⟨g9, 0, none⟩), .pointer (some ⟨g24, 0, none⟩), .pointer (some ⟨g33, 0, none⟩)] (by kernel_rfl) g24 g33 (fun n' X => RowL X g24 28 (redL k n a f t fk tk r d) ∧ RowL X g33 4 [.bool hb]) _ (by omega) (by omega) (fun n' X Y b' ⟨h1, h2⟩ hb1 hb2 hg => ⟨h1.gr hg (by omega), h2.gr hg (by omega)⟩) (fun W' b' => (hwork W' g3 g9 g24 g33 (q.trans (b'.mono q.size)) (by omega) (by omega) (by omega) (by omega) ⟨by omega, by omega, by omega, by omega, by omega⟩ (r4.up b') (r10.up b') (r25n.up b') (r34.up b')).mono fun e W2 ⟨he, h1, h2, h3⟩ => ⟨he, ⟨h1, h2⟩, h3⟩)) ?_; rintro e W90 ⟨rfl, ⟨n9, hn9, r91, r92⟩, t9⟩; refine ⟨_, rfl, ?_⟩; replace q := t9.onB q (fun j hj => ⟨by omega, by omega, by omega⟩); replace r17 := r17.kept t9 ⟨by omega, by omega, by omega⟩; clear r4 b1 r10 b7 b14 r25 r25n b22 r34 b31)
  refine Za ?_; refine Zq ?_; refine Zc ?_
  refine CC.freeZ (fun W_ j => j < W_.heap.size ∧ (j ≠ g16)) (by kernel_rfl) (by kernel_rfl) (fun W41 b40 z42 => ?_)
  replace r91 := r91.up b40; replace r92 := r92.up b40; replace q := Zu q b40; replace r17 := r17.up b40
  have hok : Kept (fun j => j < W41.heap.size ∧ (j ≠ g16)) W41 W41 := Kept.refl _ _
  have fzr91 := fzRow (K := fun j => j < W41.heap.size ∧ (j ≠ g16)) r91 ⟨r91.lt, (by first | trivial | omega)⟩
  have fzr92 := fzRow (K := fun j => j < W41.heap.size ∧ (j ≠ g16)) r92 ⟨r92.lt, (by first | trivial | omega)⟩
  refine AA.pure 0 rfl hok (by kernel_rfl) (fun w' b' => R.load rfl rfl (I.ldNc (vs := [Value.int IntKind.i64 k, Value.int IntKind.i64 n, Value.int IntKind.u64 ↑(a 0), Value.int IntKind.u64 ↑(a 1), Value.int IntKind.u64 ↑(a 2), Value.int IntKind.u64 ↑(a 3), Value.int IntKind.u64 ↑(a 4), Value.int IntKind.u64 ↑(a 5), Value.int IntKind.u64 ↑(a 6), Value.int IntKind.u64 ↑(a 7), Value.int IntKind.u64 ↑(a 8), Value.int IntKind.u64 ↑(a 9), Value.int IntKind.u64 ↑(a 10), Value.int IntKind.u64 ↑(a 11), Value.int IntKind.u64 ↑(a 12), Value.int IntKind.u64 ↑(a 13), Value.int IntKind.u64 ↑(a 14), Value.int IntKind.u64 ↑(a 15), Value.int IntKind.i64 f, Value.int IntKind.i64 t, Value.int IntKind.u64 ↑fk, Value.int IntKind.u64 ↑tk, Value.int IntKind.i64 r, Value.bool d]) (RowL.cells (fzr91 w' b') rfl) (by rfl) (by rfl))) rfl rfl ?_
  refine AA.pure 1 rfl hok (by kernel_rfl) (fun w' b' => R.load rfl rfl (I.ld1 rfl (RowL.cell (fzr92 w' b') rfl))) rfl rfl ?_
  refine AA.pure 2 rfl hok (by kernel_rfl) (fun w' b' => R.move rfl rfl) rfl rfl ?_
  refine AA.one 3 (by kernel_rfl) ?_
  refine ZR.storeN (vs := (redL k n a f t fk tk r d)) rfl rfl rfl rfl rfl r17 (by exact Nat.le_of_ble_eq_true rfl) (ones_of rfl) rfl rfl ?_
  intro W44 r45 b43 z46
  have hlb43 := r17.lt
  replace r45 : RowL W44 _ 28 (redL k n a f t fk tk r d) := r45
  clear r17
  replace r91 := Zd r91 b43; replace r92 := Zd r92 b43; replace q := Zg q b43; replace hok := Zo hok b43
  have r17 := r45
  clear r45
  refine ⟨hok, ?_⟩
  refine AA.pure 4 rfl hok (by kernel_rfl) (fun w' b' => R.assign rfl rfl) rfl rfl ?_
  refine AA.pure 5 rfl hok (by kernel_rfl) (fun w' b' => R.assign rfl rfl) rfl rfl ?_
  refine AA.done rfl ?_
  clear fzr91 fzr92 hok
  refine ZT ?_; refine ZR ?_
  exact EE.ret3c rfl rfl (lvNc (RowL.cells0 r17) (by rfl) (by rfl)) rfl rfl ⟨rfl, q⟩
theorem jof_pan (lb li lr lt : Int) (k1 k2 : Nat) (la lc ld le : Int) (x : Option Addr) (m c : Nat) (ec : Int) (w : World)
    (hwork : ∀ W gl gw go gh ge, Below w.heap.size w W → RowL W gl 31 (jlyL lb li lr lt k1 k2 la lc ld le) → RowL W gw 33 [.slice x m c] → RowL W go 28 (redL 0 0 noA 0 0 0 0 0 false) → RowL W gh 4 [.bool false] → (w.heap.size ≤ go ∧ w.heap.size ≤ gh ∧ go ≠ gl ∧ go ≠ gw ∧ gh ≠ gl ∧ gh ≠ gw ∧ go ≠ gh) → Calls Tryz.prog 36 #[.pointer (some ⟨gl, 0, none⟩), .pointer (some ⟨gw, 0, none⟩), .pointer (some ⟨go, 0, none⟩), .pointer (some ⟨gh, 0, none⟩)] W fun e W' => e = .panicked (chain1 (jrefV ec)) ∧ Kept (jKW W ge) W W') :
    Calls Tryz.prog 16 #[layV lb li lr lt k1 k2 la lc ld le, .slice x m c] w fun e w' => e = .returned (.tuple #[redV 0 0 noA 0 0 0 0 0 false, .bool false, .int .i64 ec]) ∧ Below w.heap.size w w' := by
  have q := Below.refl w.heap.size w
  refine X.fn Tryz.func16 rfl (n := 15) rfl rfl ?_
  refine Zr ?_
  refine LL.box (jlyL lb li lr lt k1 k2 la lc ld le) rfl rfl rfl rfl rfl ?_
  intro W2 g3 eg3 r4 z5 b1
  replace q := Zu q b1; have l6 := r4.lt
  refine LL.box [.slice x m c] rfl rfl rfl rfl rfl ?_
  intro W8 g9 eg9 r10 z11 b7
  replace r4 := r4.up b7; replace b1 := Zu b1 b7; replace q := Zu q b7; have l12 := r10.lt; have l13 := r4.lt
  refine LL.alloc ((redL 0 0 noA 0 0 0 0 0 false)) rfl rfl rfl rfl rfl ?_
  intro W15 g16 eg16 r17 z18 b14
  replace r10 := r10.up b14; replace b7 := Zu b7 b14; replace r4 := r4.up b14; replace b1 := Zu b1 b14; replace q := Zu q b14; refine Za ?_; refine Za ?_; refine Zq ?_; refine Zr ?_; have l19 := r17.lt; have l20 := r10.lt; have l21 := r4.lt
  refine LL.alloc ((redL 0 0 noA 0 0 0 0 0 false)) rfl rfl rfl rfl rfl ?_
  intro W23 g24 eg24 r25 z26 b22
  replace r17 := r17.up b22; replace b14 := Zu b14 b22; replace r10 := r10.up b22; replace b7 := Zu b7 b22; replace r4 := r4.up b22; replace b1 := Zu b1 b22; replace q := Zu q b22; refine Zq ?_; refine Zr ?_; have l27 := r25.lt; have l28 := r17.lt; have l29 := r10.lt; have l30 := r4.lt
  refine LL.alloc ([.bool false]) rfl rfl rfl rfl rfl ?_
  intro W32 g33 eg33 r34 z35 b31
  replace r25 := r25.up b31; replace b22 := Zu b22 b31; replace r17 := r17.up b31; replace b14 := Zu b14 b31; replace r10 := r10.up b31; replace b7 := Zu b7 b31; replace r4 := r4.up b31; replace b1 := Zu b1 b31; replace q := Zu q b31
  refine LL.store rfl rfl rfl rfl r34 (by exact Nat.le_of_ble_eq_true rfl) rfl rfl rfl rfl ?_
  intro W37 r38 b36 z39
  have hlb36 := r34.lt
  replace r38 : RowL W37 _ 4 [.bool false] := r38
  clear r34
  replace b31 := Zg b31 b36; replace r25 := Zd r25 b36; replace b22 := Zg b22 b36; replace r17 := Zd r17 b36; replace b14 := Zg b14 b36; replace r10 := Zd r10 b36; replace b7 := Zg b7 b36; replace r4 := Zd r4 b36; replace b1 := Zg b1 b36; replace q := Zg q b36
  have r34 := r38
  clear r38
  refine Zq ?_; refine Zr ?_
  refine LL.val (R.func rfl rfl rfl) rfl rfl rfl ?_
  (have lg4 := r4.lt; have lg10 := r10.lt; have lg25 := r25.lt; have lg34 := r34.lt; have r25n : RowL _ g24 28 (redL 0 0 noA 0 0 0 0 0 false) := r25; refine Zy (R.call rfl rfl rfl) (jguarded_P ec _ [.pointer (some ⟨g3, 0, none⟩), .pointer (some ⟨g9, 0, none⟩), .pointer (some ⟨g24, 0, none⟩), .pointer (some ⟨g33, 0, none⟩)] (by kernel_rfl) g3 _ (by omega) (fun W' b' => hwork W' g3 g9 g24 g33 g3 (q.trans (b'.mono q.size)) (r4.up b') (r10.up b') (r25n.up b') (r34.up b') ⟨by omega, by omega, by omega, by omega, by omega, by omega, by omega⟩)) ?_; rintro e W90 ⟨rfl, t9⟩; refine ⟨_, rfl, ?_⟩; replace q := t9.onB q (fun j hj => ⟨by omega, by omega⟩); replace r17 := r17.kept t9 ⟨by omega, by omega⟩; replace r25 := r25.kept t9 ⟨by omega, by omega⟩; replace r34 := r34.kept t9 ⟨by omega, by omega⟩; clear r4 b1 r10 b7 b14 r25n b22 b31)
  refine Za ?_; refine Zq ?_; refine Zc ?_
  refine CC.freeZ (fun W_ j => j < W_.heap.size ∧ (j ≠ g16)) (by kernel_rfl) (by kernel_rfl) (fun W41 b40 z42 => ?_)
  replace q := Zu q b40; replace r17 := r17.up b40; replace r25 := r25.up b40; replace r34 := r34.up b40
  have hok : Kept (fun j => j < W41.heap.size ∧ (j ≠ g16)) W41 W41 := Kept.refl _ _
  have fzr25 := fzRow (K := fun j => j < W41.heap.size ∧ (j ≠ g16)) r25 ⟨r25.lt, (by first | trivial | omega)⟩
  have fzr34 := fzRow (K := fun j => j < W41.heap.size ∧ (j ≠ g16)) r34 ⟨r34.lt, (by first | trivial | omega)⟩
  refine AA.pure 0 rfl hok (by kernel_rfl) (fun w' b' => R.load rfl rfl (I.ldNc (vs := [Value.int IntKind.i64 0, Value.int IntKind.i64 0, Value.int IntKind.u64 0, Value.int IntKind.u64 0, Value.int IntKind.u64 0, Value.int IntKind.u64 0, Value.int IntKind.u64 0, Value.int IntKind.u64 0, Value.int IntKind.u64 0, Value.int IntKind.u64 0, Value.int IntKind.u64 0, Value.int IntKind.u64 0, Value.int IntKind.u64 0, Value.int IntKind.u64 0, Value.int IntKind.u64 0, Value.int IntKind.u64 0, Value.int IntKind.u64 0, Value.int IntKind.u64 0, Value.int IntKind.i64 0, Value.int IntKind.i64 0, Value.int IntKind.u64 0, Value.int IntKind.u64 0, Value.int IntKind.i64 0, Value.bool false]) (RowL.cells (fzr25 w' b') rfl) (by rfl) (by rfl))) rfl rfl ?_
  refine AA.pure 1 rfl hok (by kernel_rfl) (fun w' b' => R.load rfl rfl (I.ld1 rfl (RowL.cell (fzr34 w' b') rfl))) rfl rfl ?_
  refine AA.pure 2 rfl hok (by kernel_rfl) (fun w' b' => R.move rfl rfl) rfl rfl ?_
  refine AA.one 3 (by kernel_rfl) ?_
  refine ZR.storeN (vs := (redL 0 0 noA 0 0 0 0 0 false)) rfl rfl rfl rfl rfl r17 (by exact Nat.le_of_ble_eq_true rfl) (ones_of rfl) rfl rfl ?_
  intro W44 r45 b43 z46
  have hlb43 := r17.lt
  replace r45 : RowL W44 _ 28 (redL 0 0 noA 0 0 0 0 0 false) := r45
  clear r17
  replace q := Zg q b43; replace r25 := Zd r25 b43; replace r34 := Zd r34 b43; replace hok := Zo hok b43
  have r17 := r45
  clear r45
  refine ⟨hok, ?_⟩
  refine AA.pure 4 rfl hok (by kernel_rfl) (fun w' b' => R.assign rfl rfl) rfl rfl ?_
  refine AA.pure 5 rfl hok (by kernel_rfl) (fun w' b' => R.assign rfl rfl) rfl rfl ?_
  refine AA.done rfl ?_
  clear fzr25 fzr34 hok
  refine ZT ?_; refine ZR ?_
  exact EE.ret3c rfl rfl (lvNc (RowL.cells0 r17) (by rfl) (by rfl)) rfl rfl ⟨rfl, q⟩
theorem reads_wdsN {a : Option Addr} {N cap : Nat} {ws : List Nat} {w : World} (h : Reads w (.slice a N cap) (ints .u64 ws)) (hl : ws.length = N) (hN : 0 < N) : ∃ bk off, a = some ⟨bk, off, none⟩ ∧ WdsAt w bk off ws ∧ N ≤ cap := by
  obtain ⟨h1, h2, h3⟩ := h.at
  obtain ⟨b, off, rfl, hlt, hc⟩ := h3 hN
  refine ⟨b, off, rfl, ⟨fun j x hj => ?_, hlt⟩, h2⟩
  have hj2 : j < N := by rw [← hl]; exact (List.getElem?_eq_some_iff.1 hj).1
  have h4 := hc j hj2
  have h5 : (ints .u64 ws)[j]? = some (.int .u64 (x : Int)) := by simp [ints, hj]
  rw [h4, List.getD_eq_getElem?_getD, h5]
  rfl
theorem jOf_yes (lb li lr lt : Int) (k1 k2 : Nat) (la lc ld le : Int) (x : Option Addr) (c : Nat) (ws : List Nat) (k n : Int) (a : Nat → Nat) (f t : Int) (fk tk : Nat) (r : Int) (d : Bool) (w : World) (hS : Start w) (hl : isL lb li lr lt la lc ld le) (hv : Reads w (.slice x 64 c) (ints .u64 ws)) (hws : ws.length = 64) (hwb : ∀ x ∈ ws, x < 18446744073709551616) (hb : ∀ x ∈ jsixL a, x < 18446744073709551616) (hh : jHas ws k n a f t fk tk r d li lr) : Calls Tryz.prog 16 #[layV lb li lr lt k1 k2 la lc ld le, .slice x 64 c] w fun e w' => e = .returned (.tuple #[redV k n a f t fk tk r d, .bool true, .int .i64 0]) ∧ Below w.heap.size w w' := by
  obtain ⟨bk, off, rfl, hW, hc⟩ := reads_wdsN hv hws (by decide)
  have lbk := hW.lt
  have hS0 := hS.pos
  exact jof_run lb li lr lt k1 k2 la lc ld le _ 64 c k n a f t fk tk r d true w hS0 fun W gl gw go gh b h1 h2 h3 h4 hne r1 r2 r3 r4 => jof1_yes lb li lr lt k1 k2 la lc ld le gl gw go gh bk off c ws W (hS.up b) hl r1 r2 (hW.up b) hws hwb hc k n a f t fk tk r d hb hh r3 r4 (by omega)
theorem jOf_0 (lb li lr lt : Int) (k1 k2 : Nat) (la lc ld le : Int) (x : Option Addr) (c : Nat) (ws : List Nat) (w : World) (hS : Start w) (hl : isL lb li lr lt la lc ld le) (hv : Reads w (.slice x 64 c) (ints .u64 ws)) (hws : ws.length = 64) (h0 : ws[0]? = some 0) : Calls Tryz.prog 16 #[layV lb li lr lt k1 k2 la lc ld le, .slice x 64 c] w fun e w' => e = .returned (.tuple #[redV 0 0 noA 0 0 0 0 0 false, .bool false, .int .i64 0]) ∧ Below w.heap.size w w' := by
  obtain ⟨bk, off, rfl, hW, hc⟩ := reads_wdsN hv hws (by decide)
  have lbk := hW.lt
  have hS0 := hS.pos
  exact jof_run lb li lr lt k1 k2 la lc ld le _ 64 c 0 0 noA 0 0 0 0 0 false false w hS0 fun W gl gw go gh b h1 h2 h3 h4 hne r1 r2 r3 r4 => (jof1_0 lb li lr lt k1 k2 la lc ld le gl gw go gh bk off c ws W hl r1 r2 (hW.up b) hc h0).mono fun e W' ⟨he, hb⟩ => ⟨he, r3.up hb, r4.up hb, bkept hb (fun _ hj => hj.1)⟩
theorem jOf_no (lb li lr lt : Int) (k1 k2 : Nat) (la lc ld le : Int) (x : Option Addr) (c : Nat) (ws : List Nat) (w : World) (hS : Start w) (hl : isL lb li lr lt la lc ld le) (hv : Reads w (.slice x 64 c) (ints .u64 ws)) (hws : ws.length = 64) (hwb : ∀ x ∈ ws, x < 18446744073709551616) (x0 : Nat) (h0 : ws[0]? = some x0) (hx0 : x0 ≠ 0) (hno : ∀ k n a f t fk tk r d, ¬jHas ws k n a f t fk tk r d li lr) : Calls Tryz.prog 16 #[layV lb li lr lt k1 k2 la lc ld le, .slice x 64 c] w fun e w' => e = .returned (.tuple #[redV 0 0 noA 0 0 0 0 0 false, .bool false, .int .i64 310]) ∧ Below w.heap.size w w' := by
  obtain ⟨bk, off, rfl, hW, hc⟩ := reads_wdsN hv hws (by decide)
  have lbk := hW.lt
  have hS0 := hS.pos
  exact jof_pan lb li lr lt k1 k2 la lc ld le _ 64 c 310 w fun W gl gw go gh ge b r1 r2 r3 r4 hn => jof1_nono lb li lr lt k1 k2 la lc ld le gl gw go gh bk off c ws W (hS.up b) hl r1 r2 (hW.up b) hws hwb hc x0 h0 hx0 ge r3 r4 (by omega) hno
theorem num_any (a : Int) (w : World) : Calls Tryz.prog 11 #[.int .i64 a] w fun e w' => e = .returned (.int .i64 a) ∧ w = w' := by
  refine X.fn Tryz.func11 rfl (n := 4) rfl rfl ?_
  refine Zr ?_; refine Za ?_; refine Zq ?_; refine Zr ?_; refine Zm ?_; refine Za ?_; refine Zq ?_; refine ZR ?_; refine EE.ret _ rfl rfl ?_
  exact ⟨rfl, rfl⟩
--C ref13_Of | ly_rof_T _ _ _ _ _ _ @w @p | ⟨rfl, @b⟩
--C ref13_Of | ly_rof_F _ _ _ _ _ _ @w @p | ⟨rfl, @b⟩
theorem jhome_any (w : World) : Calls Tryz.prog 35 #[] w fun x w' => x = .returned (layV 32 8 16 8 1 2 9 11 15 16) ∧ Below w.heap.size w w' := by
  have q := Below.refl w.heap.size w
  refine X.fn Tryz.func35 rfl (n := 10) rfl rfl ?_
  refine Zr ?_
  refine LL.alloc ([.int .i64 0, .int .i64 0, .int .i64 0, .int .i64 0, .int .u64 0, .int .u64 0, .int .i64 0, .int .i64 0, .int .i64 0, .int .i64 0]) rfl rfl rfl rfl rfl ?_
  intro W2 g3 eg3 r4 z5 b1
  replace q := Zu q b1; refine Zq ?_; refine Zr ?_
  refine LL.val (R.buildV rfl rfl (v := .agg #[Value.int IntKind.i64 32, Value.int IntKind.i64 8, Value.int IntKind.i64 16, Value.int IntKind.i64 8]) (fun _ => by kernel_rfl)) rfl rfl rfl ?_
  refine LL.val (R.buildV rfl rfl (v := .agg #[Value.int IntKind.u64 1, Value.int IntKind.u64 2]) (fun _ => by kernel_rfl)) rfl rfl rfl ?_
  refine Zy (R.call rfl rfl rfl) (ly_rof_T _ _ _ _ _ _ _ (by first | assumption | omega)) ?_
  rintro e W7 ⟨rfl, b6⟩
  refine ⟨_, rfl, ?_⟩; have zb6 := b6.size; replace r4 := r4.up b6; replace q := Zu q b6; refine Zm ?_; refine Zx ?_; refine Zx ?_; have l9 := r4.lt
  refine LL.alloc ([.int .i64 0, .int .i64 0, .int .i64 0, .int .i64 0, .int .u64 0, .int .u64 0, .int .i64 0, .int .i64 0, .int .i64 0, .int .i64 0]) rfl rfl rfl rfl rfl ?_
  intro W11 g12 eg12 r13 z14 b10
  replace r4 := r4.up b10; replace q := Zu q b10
  refine LL.storeN (vs := [.int .i64 32, .int .i64 8, .int .i64 16, .int .i64 8, .int .u64 ↑1, .int .u64 ↑2, .int .i64 9, .int .i64 (9 + 8 / 4), .int .i64 (9 + 8 / 4 + 16 / 4), .int .i64 (10 + 8 / 4 + 16 / 4)]) rfl rfl rfl rfl r13 (by exact Nat.le_of_ble_eq_true rfl) (ones_of rfl) rfl rfl ?_
  intro W16 r17 b15 z18
  have hlb15 := r13.lt
  replace r17 : RowL W16 _ 31 [.int .i64 32, .int .i64 8, .int .i64 16, .int .i64 8, .int .u64 ↑1, .int .u64 ↑2, .int .i64 9, .int .i64 (9 + 8 / 4), .int .i64 (9 + 8 / 4 + 16 / 4), .int .i64 (10 + 8 / 4 + 16 / 4)] := r17
  clear r13
  replace r4 := Zd r4 b15; replace q := Zg q b15
  have r13 := r17
  clear r17
  refine Za ?_; refine Zq ?_; refine Zr ?_; refine Zv r13 ?_
  refine LL.storeN (vs := [.int .i64 32, .int .i64 8, .int .i64 16, .int .i64 8, .int .u64 1, .int .u64 2, .int .i64 9, .int .i64 (9 + 8 / 4), .int .i64 (9 + 8 / 4 + 16 / 4), .int .i64 (10 + 8 / 4 + 16 / 4)]) rfl rfl rfl rfl r4 (by exact Nat.le_of_ble_eq_true rfl) (ones_of rfl) rfl rfl ?_
  intro W20 r21 b19 z22
  have hlb19 := r4.lt
  replace r21 : RowL W20 _ 31 [.int .i64 32, .int .i64 8, .int .i64 16, .int .i64 8, .int .u64 1, .int .u64 2, .int .i64 9, .int .i64 (9 + 8 / 4), .int .i64 (9 + 8 / 4 + 16 / 4), .int .i64 (10 + 8 / 4 + 16 / 4)] := r21
  clear r4
  replace q := Zg q b19; replace r13 := Zd r13 b19
  have r4 := r21
  clear r21
  refine Zq ?_; refine ZR ?_
  refine EE.retC rfl rfl (lvNc (RowL.cells0 (by assumption)) (by rfl) (by rfl)) ?_
  exact ⟨rfl, q⟩
theorem jhome_is : isL 32 8 16 8 9 11 15 16 := by decide
theorem jlaw_T (b i r t : Int) (w : World) (h : ly_okF b i r t) : Calls Tryz.prog 8 #[formV b i r t, .bool false] w fun x w' => x = .returned (layV b i r t 3 4 9 (9 + i / 4) (9 + i / 4 + r / 4) (10 + i / 4 + r / 4)) ∧ Below w.heap.size w w' := by
  have q := Below.refl w.heap.size w
  refine X.fn Tryz.func8 rfl (n := 19) rfl rfl ?_
  refine Zr ?_
  refine LL.box [.int .i64 b, .int .i64 i, .int .i64 r, .int .i64 t] rfl rfl rfl rfl rfl ?_
  intro W2 g3 eg3 r4 z5 b1
  replace q := Zu q b1; have l6 := r4.lt
  refine LL.alloc ([.int .i64 0, .int .i64 0, .int .i64 0, .int .i64 0, .int .u64 0, .int .u64 0, .int .i64 0, .int .i64 0, .int .i64 0, .int .i64 0]) rfl rfl rfl rfl rfl ?_
  intro W8 g9 eg9 r10 z11 b7
  replace r4 := r4.up b7; replace q := Zu q b7; refine Zq ?_; refine Zr ?_; refine Zv r4 ?_
  refine LL.val (R.buildV rfl rfl (v := .agg #[Value.int IntKind.u64 3, Value.int IntKind.u64 4]) (fun _ => by kernel_rfl)) rfl rfl rfl ?_
  refine Zy (R.call rfl rfl rfl) (ly_rof_T _ _ _ _ _ _ _ (by first | assumption | omega)) ?_
  rintro e W13 ⟨rfl, b12⟩
  refine ⟨_, rfl, ?_⟩; have zb12 := b12.size; replace r10 := r10.up b12; replace r4 := r4.up b12; replace q := Zu q b12; refine Zm ?_; refine Zx ?_; refine Zx ?_; have l15 := r10.lt; have l16 := r4.lt
  refine LL.alloc ([.int .i64 0, .int .i64 0, .int .i64 0, .int .i64 0, .int .u64 0, .int .u64 0, .int .i64 0, .int .i64 0, .int .i64 0, .int .i64 0]) rfl rfl rfl rfl rfl ?_
  intro W18 g19 eg19 r20 z21 b17
  replace r10 := r10.up b17; replace r4 := r4.up b17; replace q := Zu q b17
  refine LL.storeN (vs := [.int .i64 b, .int .i64 i, .int .i64 r, .int .i64 t, .int .u64 ↑3, .int .u64 ↑4, .int .i64 9, .int .i64 (9 + i / 4), .int .i64 (9 + i / 4 + r / 4), .int .i64 (10 + i / 4 + r / 4)]) rfl rfl rfl rfl r20 (by exact Nat.le_of_ble_eq_true rfl) (ones_of rfl) rfl rfl ?_
  intro W23 r24 b22 z25
  have hlb22 := r20.lt
  replace r24 : RowL W23 _ 31 [.int .i64 b, .int .i64 i, .int .i64 r, .int .i64 t, .int .u64 ↑3, .int .u64 ↑4, .int .i64 9, .int .i64 (9 + i / 4), .int .i64 (9 + i / 4 + r / 4), .int .i64 (10 + i / 4 + r / 4)] := r24
  clear r20
  replace r10 := Zd r10 b22; replace r4 := Zd r4 b22; replace q := Zg q b22
  have r20 := r24
  clear r24
  refine Za ?_; refine Zq ?_; refine Zc ?_; refine Zr ?_; refine Zm ?_; refine Zq ?_; refine ZN ?_; refine ZK ?_; refine ZT ?_; refine Zr ?_; refine Zv r20 ?_
  refine LL.storeN (vs := [.int .i64 b, .int .i64 i, .int .i64 r, .int .i64 t, .int .u64 3, .int .u64 4, .int .i64 9, .int .i64 (9 + i / 4), .int .i64 (9 + i / 4 + r / 4), .int .i64 (10 + i / 4 + r / 4)]) rfl rfl rfl rfl r10 (by exact Nat.le_of_ble_eq_true rfl) (ones_of rfl) rfl rfl ?_
  intro W27 r28 b26 z29
  have hlb26 := r10.lt
  replace r28 : RowL W27 _ 31 [.int .i64 b, .int .i64 i, .int .i64 r, .int .i64 t, .int .u64 3, .int .u64 4, .int .i64 9, .int .i64 (9 + i / 4), .int .i64 (9 + i / 4 + r / 4), .int .i64 (10 + i / 4 + r / 4)] := r28
  clear r10
  replace r4 := Zd r4 b26; replace q := Zg q b26; replace r20 := Zd r20 b26
  have r10 := r28
  clear r28
  refine Zq ?_; refine ZR ?_
  refine EE.retC rfl rfl (lvNc (RowL.cells0 (by assumption)) (by rfl) (by rfl)) ?_
  exact ⟨rfl, q⟩
theorem jlaw_Fx (b i r t : Int) (w : World) (h : ¬ly_okF b i r t) : Calls Tryz.prog 8 #[formV b i r t, .bool false] w fun x w' => x = .returned (layV 0 0 0 0 0 0 0 0 0 0) ∧ Below w.heap.size w w' := by
  have q := Below.refl w.heap.size w
  refine X.fn Tryz.func8 rfl (n := 19) rfl rfl ?_
  refine Zr ?_
  refine LL.box [.int .i64 b, .int .i64 i, .int .i64 r, .int .i64 t] rfl rfl rfl rfl rfl ?_
  intro W2 g3 eg3 r4 z5 b1
  replace q := Zu q b1; have l6 := r4.lt
  refine LL.alloc ([.int .i64 0, .int .i64 0, .int .i64 0, .int .i64 0, .int .u64 0, .int .u64 0, .int .i64 0, .int .i64 0, .int .i64 0, .int .i64 0]) rfl rfl rfl rfl rfl ?_
  intro W8 g9 eg9 r10 z11 b7
  replace r4 := r4.up b7; replace q := Zu q b7; refine Zq ?_; refine Zr ?_; refine Zv r4 ?_
  refine LL.val (R.buildV rfl rfl (v := .agg #[Value.int IntKind.u64 3, Value.int IntKind.u64 4]) (fun _ => by kernel_rfl)) rfl rfl rfl ?_
  refine Zy (R.call rfl rfl rfl) (ly_rof_F _ _ _ _ _ _ _ (by first | assumption | omega)) ?_
  rintro e W13 ⟨rfl, b12⟩
  refine ⟨_, rfl, ?_⟩; have zb12 := b12.size; replace r10 := r10.up b12; replace r4 := r4.up b12; replace q := Zu q b12; refine Zm ?_; refine Zx ?_; refine Zx ?_; have l15 := r10.lt; have l16 := r4.lt
  refine LL.alloc ([.int .i64 0, .int .i64 0, .int .i64 0, .int .i64 0, .int .u64 0, .int .u64 0, .int .i64 0, .int .i64 0, .int .i64 0, .int .i64 0]) rfl rfl rfl rfl rfl ?_
  intro W18 g19 eg19 r20 z21 b17
  replace r10 := r10.up b17; replace r4 := r4.up b17; replace q := Zu q b17
  refine LL.storeN (vs := [.int .i64 0, .int .i64 0, .int .i64 0, .int .i64 0, .int .u64 ↑0, .int .u64 ↑0, .int .i64 0, .int .i64 0, .int .i64 0, .int .i64 0]) rfl rfl rfl rfl r20 (by exact Nat.le_of_ble_eq_true rfl) (ones_of rfl) rfl rfl ?_
  intro W23 r24 b22 z25
  have hlb22 := r20.lt
  replace r24 : RowL W23 _ 31 [.int .i64 0, .int .i64 0, .int .i64 0, .int .i64 0, .int .u64 ↑0, .int .u64 ↑0, .int .i64 0, .int .i64 0, .int .i64 0, .int .i64 0] := r24
  clear r20
  replace r10 := Zd r10 b22; replace r4 := Zd r4 b22; replace q := Zg q b22
  have r20 := r24
  clear r24
  refine Za ?_; refine Zq ?_; refine Zc ?_; refine Zr ?_; refine Zm ?_; refine Zq ?_; refine ZN ?_; refine ZK ?_; refine ZT ?_; refine Zr ?_; refine Zv r20 ?_
  refine LL.storeN (vs := [.int .i64 0, .int .i64 0, .int .i64 0, .int .i64 0, .int .u64 0, .int .u64 0, .int .i64 0, .int .i64 0, .int .i64 0, .int .i64 0]) rfl rfl rfl rfl r10 (by exact Nat.le_of_ble_eq_true rfl) (ones_of rfl) rfl rfl ?_
  intro W27 r28 b26 z29
  have hlb26 := r10.lt
  replace r28 : RowL W27 _ 31 [.int .i64 0, .int .i64 0, .int .i64 0, .int .i64 0, .int .u64 0, .int .u64 0, .int .i64 0, .int .i64 0, .int .i64 0, .int .i64 0] := r28
  clear r10
  replace r4 := Zd r4 b26; replace q := Zg q b26; replace r20 := Zd r20 b26
  have r10 := r28
  clear r28
  refine Zq ?_; refine ZR ?_
  refine EE.retC rfl rfl (lvNc (RowL.cells0 (by assumption)) (by rfl) (by rfl)) ?_
  exact ⟨rfl, q⟩
theorem psame_T (ps : List Pt) (v1 v2 : Value) (w : World) (h1 : ReadsT pE 2 w v1 ps) (h2 : ReadsT pE 2 w v2 ps) (hl : ps.length ≤ 1048576) : Calls Tryz.prog 21 #[v1, v2] w fun e w' => e = .returned (.bool true) ∧ Below w.heap.size w w' := by
  have q := Below.refl w.heap.size w
  obtain ⟨N, hN⟩ : ∃ N, ps.length = N := ⟨_, rfl⟩
  obtain ⟨a1, k1, rfl, _⟩ := h1.form hN
  obtain ⟨a2, k2, rfl, _⟩ := h2.form hN
  have h1F := fun X (b : Below w.heap.size w X) => h1.up b
  have h2F := fun X (b : Below w.heap.size w X) => h2.up b
  clear h1 h2
  refine X.fn Tryz.func21 rfl (n := 26) rfl rfl ?_
  refine Zr ?_; refine Za ?_; refine Zq ?_; refine Zc ?_; refine Zr ?_; refine Zm ?_; refine Zn ?_; refine Zm ?_; refine Zn ?_; refine ZneF ?_; refine Zq ?_; refine ZN ?_; refine ZK ?_; refine ZT ?_; refine Zc ?_; refine Zr ?_; refine Za ?_; refine Zq ?_; refine CC.block ?_
  refine CC.loop (α := Nat) (fun i => [(0, .slice a1 N k1), (1, .slice a2 N k2), (5, .int .i64 (i : Int))]) (fun i W => i ≤ N ∧ Below w.heap.size w W) (fun i => N - i) 0 ⟨rfl, rfl, rfl, trivial⟩ ⟨Nat.zero_le _, q⟩ ?_
  clear q
  rintro i W ⟨hi, q⟩
  show CC none Tryz.prog _ 26 [] (sl [(0, .slice a1 N k1), (1, .slice a2 N k2), (5, .int .i64 (i : Int))]) _ W
  by_cases hlt : i < N
  case neg =>
    refine Zc ?_; refine Zr ?_; refine Zm ?_; refine Zm ?_; refine Zn ?_; refine ZltF ?_; refine Zq ?_; refine ZN ?_; refine CC.exit ?_; refine EE.thenX ?_; refine EE.thenX ?_; refine EE.inX ?_; refine ZT ?_; refine Zr ?_; refine Za ?_; refine Zq ?_; refine ZR ?_; refine EE.ret _ rfl rfl ?_
    exact ⟨rfl, q⟩
  obtain ⟨⟨s, t⟩, hs⟩ : ∃ s, ps[i]? = some s := ⟨_, List.getElem?_eq_getElem (by omega)⟩
  obtain ⟨b1, o1, rfl, l1, c1⟩ := (h1F W q).get pEnc hs
  obtain ⟨b2, o2, rfl, l2, c2⟩ := (h2F W q).get pEnc hs
  have d1 : Cells W ⟨b1, o1 + i * 2, none⟩ [.int .i64 s, .int .u64 (t : Int)] := c1
  have d2 : Cells W ⟨b2, o2 + i * 2, none⟩ [.int .i64 s, .int .u64 (t : Int)] := c2
  clear c1 c2 h1F h2F
  refine Zc ?_; refine Zr ?_; refine Zm ?_; refine Zm ?_; refine Zn ?_; refine ZltT ?_; refine Zq ?_; refine ZY ?_; refine ZK ?_; refine ZT ?_; refine Zc ?_; refine CC.block ?_; refine Zc ?_
  refine CC.quietB (by kernel_rfl) (by kernel_rfl) (fun Wb2 bb1 zb3 => ?_)
  replace q := Zu q bb1; replace d1 := d1.up bb1; replace d2 := d2.up bb1
  refine SS.val (R.move rfl rfl) rfl rfl ?_
  refine SS.val (R.move rfl rfl) rfl rfl ?_
  refine SS.val (R.index rfl rfl rfl (I.ixS rfl (by omega))) rfl rfl ?_
  refine SS.val (R.load rfl rfl (I.ldNc (by assumption) rfl rfl)) rfl rfl ?_
  refine SS.val (R.move rfl rfl) rfl rfl ?_
  refine SS.val (R.move rfl rfl) rfl rfl ?_
  refine SS.val (R.index rfl rfl rfl (I.ixS rfl (by omega))) rfl rfl ?_
  refine SS.val (R.load rfl rfl (I.ldNc (by assumption) rfl rfl)) rfl rfl ?_
  refine SS.val (R.neST (p := (s : Int) = s ∧ (↑t : Int) = ↑t) (bs := [decide ((s : Int) = s), decide ((↑t : Int) = ↑t)]) rfl rfl rfl rfl (by kernel_rfl) (by kernel_rfl) (by simp) (by first | assumption | omega | exact ⟨rfl, rfl⟩ | exact fun h => h ⟨rfl, rfl⟩)) rfl rfl ?_
  refine SS.nilQ ?_
  refine ZT ?_; refine ZN ?_; refine ZK ?_; refine EE.inN ?_; refine ZT ?_; refine CC.region ?_; refine Zm ?_
  refine LL.val (R.addNc rfl rfl rfl rfl (by omega)) rfl rfl rfl ?_
  refine Za ?_; refine ZL ?_
  exact EE.round (i + 1) ⟨rfl, rfl, rfl, trivial⟩ ⟨by omega, q⟩ (by omega)
end Go.Proofs.YtaeaokimhbbnfaaGreatDoor
