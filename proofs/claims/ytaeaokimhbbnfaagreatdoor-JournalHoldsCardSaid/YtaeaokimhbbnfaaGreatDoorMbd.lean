/- What the statements' walks use: In8, In9, In10, In11, In12, In13, In14, WEq, In15, In16, In17, In18, In19, In20, In21, In22, In23, In24, In25, In26, In27. -/
import Derived.Test.YtaeaokimhbbnfaaGreatDoorProg
import Derived.Test.YtaeaokimhbbnfaaGreatDoorMba
import Derived.Test.YtaeaokimhbbnfaaGreatDoorMbb
import Derived.Test.YtaeaokimhbbnfaaGreatDoorMbc
/- inode: reading a file's words, a link's. -/
namespace Go.Proofs.YtaeaokimhbbnfaaGreatDoor
set_option linter.unusedVariables false
set_option linter.unusedSimpArgs false
open Go.RowKit Go.Shelf
set_option maxRecDepth 100000
set_option maxHeartbeats 8000000
theorem wds_N {X : World} {bk off : Nat} {ws : List Nat} (h : WdsAt X bk off ws) (hl : 12 ≤ ws.length) : CellsN X ⟨bk, off + 2, none⟩ 10 (intsZ .u64 (wsZ ws)) := by
  rw [← wsZ_ints]
  exact ⟨h.part 2 10 (by omega), by simp [ints]; omega⟩
theorem rd1_T (gu bk off cap : Nat) (ws : List Nat) (k l z : Int) (a : Value) (r p : Int) (t : Bs) (w : World) (hS : Start w) (hg0 : 0 < gu) (hws : ws.length = 16) (hwb : ∀ x ∈ ws, x < 18446744073709551616) (hu : RowL w gu 145 (inL k l z a r p t)) (hW : ∀ X, Kept (KU w gu) w X → WdsAt X bk off ws) (x1 : Nat) (h1 : ws[1]? = some x1) (hx : x1 ≤ 65536) (hm : mapW (wsZ ws)) (hcap : 16 ≤ cap) : Calls Tryz.prog 103 #[.pointer (some ⟨gu, 0, none⟩), .slice (some ⟨bk, off, none⟩) 16 cap] w fun e w' => e = .returned (.tuple #[]) ∧ (∃ v, RowL w' gu 145 (inL k l (x1 : Int) v r p t) ∧ ReadsT eE 3 w' v (outZ (wsZ ws)) ∧ ∀ b off n c, v = .slice (some ⟨b, off, none⟩) n c → w.heap.size ≤ b) ∧ Kept (KU w gu) w w' := by
  have hkk := Kept.refl (KU w gu) w
  have hlu := hu.lt
  have hS0 := hS.pos
  have hSF : ∀ X, Kept (KU w gu) w X → Start X := fun X h => hS.kept h ⟨hS0, by omega⟩
  have c1 := (hW w hkk).cells _ _ h1
  have hl := wsZ_len hws
  have hb := wsZ_bnd hwb
  have hcN : ∀ X, Kept (KU w gu) w X → CellsN X ⟨bk, off + 2, none⟩ 10 (intsZ .u64 (wsZ ws)) := fun X h => wds_N (hW X h) (by omega)
  clear hS
  refine X.fn Tryz.func103 rfl (n := 30) rfl rfl ?_
  refine Zr ?_; refine Zm ?_; refine Zm ?_; refine Zi ?_; refine Zk ?_
  refine Zy (R.call rfl rfl rfl) (number_T _ _ (by first | assumption | omega)) ?_
  rintro e W' ⟨rfl, rfl⟩
  refine ⟨_, rfl, ?_⟩
  refine LL.val (R.nil rfl rfl) rfl rfl rfl ?_
  refine Zf ?_; refine Zf ?_
  refine LL.store rfl rfl rfl rfl hu (by exact Nat.le_of_ble_eq_true rfl) rfl rfl rfl rfl ?_
  intro W74 r75 b73 z76
  have hlb73 := hu.lt
  replace r75 : RowL W74 _ 145 [.int .i64 k, .int .i64 l, .int .i64 ↑x1, a, .int .i64 r, .int .i64 p, strV t] := r75
  clear hu
  replace hkk := Zo hkk b73
  have hu := r75
  clear r75
  refine Zq ?_; refine Zr ?_; refine Zm ?_
  refine LL.val (R.slice rfl rfl rfl rfl rfl (I.slSc rfl rfl rfl (by omega) (by omega) (by omega))) rfl rfl rfl ?_
  (refine LL.val (R.toArr rfl rfl (I.arrU _ _ _)) rfl rfl rfl ?_)
  (refine LL.val (R.load rfl rfl (I.ldM (hcN _ hkk) rfl rfl)) rfl rfl rfl ?_)
  have l97 := hu.lt
  (refine Zy (R.call rfl rfl rfl) (ofo_T (wsZ ws) _ (hSF _ hkk) hl hb hm) ?_; rintro e W96 ⟨v8, rfl, o8, b93⟩; refine ⟨_, rfl, ?_⟩; obtain ⟨n8, en8⟩ : ∃ n, (outZ (wsZ ws)).length = n := ⟨_, rfl⟩; have hge8 := ownsT_ge o8; obtain ⟨a8, c8, rfl, hc8⟩ := (o8.reads eEnc).form en8)
  have zb93 := b93.size; replace hkk := Zh hkk b93; have y101 := hkk.size; replace hu := hu.up b93; refine Zm ?_; refine Zx ?_; refine Zx ?_; refine Za ?_; refine Za ?_; refine Zq ?_; refine Zr ?_; refine Zm ?_; refine ZneF ?_
  refine Zy (R.call rfl rfl rfl) (refuse_F _) ?_
  rintro e W' ⟨rfl, rfl⟩
  refine ⟨_, rfl, ?_⟩; refine Zq ?_; refine CC.region ?_; refine Zm ?_; refine Zm ?_
  refine LL.val (R.nil rfl rfl) rfl rfl rfl ?_
  refine Zf ?_; refine Zf ?_
  refine LL.store rfl rfl rfl rfl hu (by exact Nat.le_of_ble_eq_true rfl) rfl rfl rfl rfl ?_
  intro W215 r216 b214 z217
  have hlb214 := hu.lt
  replace r216 : RowL W215 _ 145 [.int .i64 k, .int .i64 l, .int .i64 ↑x1, .slice a8 n8 c8, .int .i64 r, .int .i64 p, strV t] := r216
  clear hu
  replace o8 := o8.grown b214 (own_ne o8 (by omega))
  replace hkk := Zo hkk b214
  have hu := r216
  clear r216
  refine ZL ?_; refine EE.end _ rfl rfl ?_
  exact ⟨rfl, ⟨_, by assumption, o8.reads eEnc, fun b off n c e => by have := hge8 b off n c e; omega⟩, hkk⟩
theorem rd1_F (gu bk off cap : Nat) (ws : List Nat) (k l z : Int) (a : Value) (r p : Int) (t : Bs) (w : World) (hS : Start w) (hg0 : 0 < gu) (hws : ws.length = 16) (hwb : ∀ x ∈ ws, x < 18446744073709551616) (hu : RowL w gu 145 (inL k l z a r p t)) (hW : ∀ X, Kept (KU w gu) w X → WdsAt X bk off ws) (x1 : Nat) (h1 : ws[1]? = some x1) (hx : 65536 < x1 ∨ ¬mapW (wsZ ws)) (hcap : 16 ≤ cap) : Calls Tryz.prog 103 #[.pointer (some ⟨gu, 0, none⟩), .slice (some ⟨bk, off, none⟩) 16 cap] w fun e w' => e = .panicked (chain1 refV) ∧ Kept (KU w gu) w w' := by
  have hkk := Kept.refl (KU w gu) w
  have hlu := hu.lt
  have hS0 := hS.pos
  have hSF : ∀ X, Kept (KU w gu) w X → Start X := fun X h => hS.kept h ⟨hS0, by omega⟩
  have c1 := (hW w hkk).cells _ _ h1
  have hl := wsZ_len hws
  have hb := wsZ_bnd hwb
  have hcN : ∀ X, Kept (KU w gu) w X → CellsN X ⟨bk, off + 2, none⟩ 10 (intsZ .u64 (wsZ ws)) := fun X h => wds_N (hW X h) (by omega)
  clear hS
  by_cases h4 : 65536 < x1
  · refine X.fnP Tryz.func103 rfl (n := 30) rfl rfl ?_
    refine Zr ?_; refine Zm ?_; refine Zm ?_; refine Zi ?_; refine Zk ?_
    refine LL.callP (R.call rfl rfl rfl) rfl rfl (number_F _ _ (by first | assumption | omega)) ?_
    rintro e W2 ⟨rfl, rfl⟩
    refine ⟨_, rfl, ?_⟩; refine EE.thenP ?_; refine EE.panM ?_
    exact ⟨rfl, hkk⟩
  · have hm : ¬mapW (wsZ ws) := hx.resolve_left h4
    refine X.fnP Tryz.func103 rfl (n := 30) rfl rfl ?_
    refine Zr ?_; refine Zm ?_; refine Zm ?_; refine Zi ?_; refine Zk ?_
    refine Zy (R.call rfl rfl rfl) (number_T _ _ (by first | assumption | omega)) ?_
    rintro e W' ⟨rfl, rfl⟩
    refine ⟨_, rfl, ?_⟩
    refine LL.val (R.nil rfl rfl) rfl rfl rfl ?_
    refine Zf ?_; refine Zf ?_
    refine LL.store rfl rfl rfl rfl hu (by exact Nat.le_of_ble_eq_true rfl) rfl rfl rfl rfl ?_
    intro Wa74 ra75 ba73 za76
    have hlba73 := hu.lt
    replace ra75 : RowL Wa74 _ 145 [.int .i64 k, .int .i64 l, .int .i64 ↑x1, a, .int .i64 r, .int .i64 p, strV t] := ra75
    clear hu
    replace hkk := Zo hkk ba73
    have hu := ra75
    clear ra75
    refine Zq ?_; refine Zr ?_; refine Zm ?_
    refine LL.val (R.slice rfl rfl rfl rfl rfl (I.slSc rfl rfl rfl (by omega) (by omega) (by omega))) rfl rfl rfl ?_
    (refine LL.val (R.toArr rfl rfl (I.arrU _ _ _)) rfl rfl rfl ?_)
    (refine LL.val (R.load rfl rfl (I.ldM (hcN _ hkk) rfl rfl)) rfl rfl rfl ?_)
    have la97 := hu.lt
    (refine Zy (R.call rfl rfl rfl) (ofw_F (wsZ ws) _ (hSF _ hkk) hl hb hm) ?_; rintro e Wa96 ⟨rfl, ba93⟩; refine ⟨_, rfl, ?_⟩)
    have zba93 := ba93.size; replace hkk := Zh hkk ba93; have ya101 := hkk.size; replace hu := hu.up ba93; refine Zm ?_; refine Zx ?_; refine Zx ?_; refine Za ?_; refine Za ?_; refine Zq ?_; refine Zr ?_; refine Zm ?_; refine ZneT ?_
    refine LL.callP (R.call rfl rfl rfl) rfl rfl (refuse_T _) ?_
    rintro e Wa167 ⟨rfl, rfl⟩
    refine ⟨_, rfl, ?_⟩; refine EE.thenP ?_; refine EE.panM ?_
    exact ⟨rfl, hkk⟩
  /-- Numbers as a string's bytes. -/
def ofN (bs : List Nat) : Bs := bs.map UInt8.ofNat
theorem ofN_nbL (l : Bs) : ofN (nbL l) = l := by
  unfold nbL ofN
  rw [List.map_map]
  conv => rhs; rw [← List.map_id l]
  apply List.map_congr_left
  intro x hx
  simp
/-- The target that words tell, of so many bytes. -/
def tgW (ws : List Nat) (k : Nat) : Bs := ofN ((bytesL ((ws.drop 2).take ((k + 7) / 8))).take k)
/-- May so many bytes stand there? -/
def tgOk (ws : List Nat) (k : Nat) : Prop := zerosB ((bytesL ((ws.drop 2).take ((k + 7) / 8))).drop k) = true
theorem rd3_T (gu bk off cap : Nat) (ws : List Nat) (k l z : Int) (a : Value) (r p : Int) (t : Bs) (w : World) (hws : ws.length = 16) (hu : RowL w gu 145 (inL k l z a r p t)) (hW : ∀ X, Kept (KU w gu) w X → WdsAt X bk off ws) (x1 : Nat) (h1 : ws[1]? = some x1) (hx : 1 ≤ x1 ∧ x1 ≤ 112) (hm : tgOk ws x1) (hcap : 16 ≤ cap) : Calls Tryz.prog 115 #[.pointer (some ⟨gu, 0, none⟩), .slice (some ⟨bk, off, none⟩) 16 cap] w fun e w' => e = .returned (.tuple #[]) ∧ RowL w' gu 145 (inL k l z a r p (tgW ws x1)) ∧ Kept (KU w gu) w w' := by
  have hkk := Kept.refl (KU w gu) w
  have hlu := hu.lt
  have c1 := (hW w hkk).cells _ _ h1
  have hlen : ((ws.drop 2).take ((x1 + 7) / 8)).length = (x1 + 7) / 8 := by simp; omega
  have hT : ∀ X, Kept (KU w gu) w X → Calls Tryz.prog 130 #[.slice (some ⟨bk, off + 2 * 1, none⟩) ((x1 + 7) / 8) (cap - 2), .int .i64 (x1 : Int)] X fun e w' => ∃ v', e = .returned (.tuple #[v', .int .i64 0]) ∧ Reads w' v' (ints .u8 ((bytesL ((ws.drop 2).take ((x1 + 7) / 8))).take x1)) ∧ Below X.heap.size X w' := fun X hX => by
    have h := take_any (.slice (some ⟨bk, off + 2, none⟩) ((x1 + 7) / 8) (cap - 2)) ((ws.drop 2).take ((x1 + 7) / 8)) x1 X ((hW X hX).reads 2 ((x1 + 7) / 8) (cap - 2) (by omega) (by omega)) (by omega) hlen.symm
    refine h.mono fun e w' hh => ?_
    obtain ⟨v', no, rfl, b, ⟨_, rfl, hr⟩ | ⟨hz, _, _⟩⟩ := hh
    · exact ⟨v', rfl, hr, b⟩
    · unfold tgOk at hm
      rw [hm] at hz
      cases hz
  refine X.fn Tryz.func115 rfl (n := 35) rfl rfl ?_
  refine Zr ?_; refine Zm ?_; refine Zi ?_; refine Zk ?_
  refine Zy (R.call rfl rfl rfl) (number_T _ _ (by first | assumption | omega)) ?_
  rintro e W' ⟨rfl, rfl⟩
  refine ⟨_, rfl, ?_⟩; refine Za ?_; refine Zq ?_; refine Zr ?_; refine Zm ?_
  refine Zy (R.call rfl rfl rfl) (within_T _ _ _ _ (by first | assumption | omega)) ?_
  rintro e W' ⟨rfl, rfl⟩
  refine ⟨_, rfl, ?_⟩; refine Zt ?_
  refine Zy (R.call rfl rfl rfl) (refuse_F _) ?_
  rintro e W' ⟨rfl, rfl⟩
  refine ⟨_, rfl, ?_⟩; refine Zq ?_; refine Zr ?_; refine Zm ?_; refine Zm ?_
  refine LL.val (R.addNc rfl rfl rfl rfl (by omega)) rfl rfl rfl ?_
  refine LL.val (R.quoNc rfl rfl rfl rfl (by omega) (by omega)) rfl rfl rfl ?_
  refine LL.val (R.addI rfl rfl rfl (by omega)) rfl rfl rfl ?_
  (refine LL.val (R.slice rfl rfl rfl rfl rfl (I.slS (lo := 2) (hi := 2 + (x1 + 7) / 8) rfl (by omega) (by omega) (by omega))) rfl rfl rfl ?_; (try rw [show 2 + (x1 + 7) / 8 - 2 = (x1 + 7) / 8 by omega]))
  refine Zm ?_; have l125 := hu.lt
  (refine Zy (R.call rfl rfl rfl) (hT _ hkk) ?_; rintro e W124 ⟨v8, rfl, r8, b121⟩; refine ⟨_, rfl, ?_⟩)
  have zb121 := b121.size; replace hu := hu.up b121; replace hkk := Zh hkk b121; have y129 := hkk.size; replace c1 := cell_up c1 b121; refine Zm ?_; refine Zx ?_; refine Zx ?_; refine Za ?_; refine Za ?_; refine Zq ?_; refine Zr ?_; refine Zm ?_; refine ZneF ?_
  refine Zy (R.call rfl rfl rfl) (refuse_F _) ?_
  rintro e W' ⟨rfl, rfl⟩
  refine ⟨_, rfl, ?_⟩; refine Zq ?_; refine CC.region ?_; refine Zm ?_; refine Zm ?_
  (refine LL.val (R.conv rfl rfl (run_toStr rfl rfl r8)) rfl rfl rfl ?_)
  refine LL.val (R.nil rfl rfl) rfl rfl rfl ?_
  refine Zf ?_; refine Zf ?_
  refine LL.store rfl rfl rfl rfl hu (by exact Nat.le_of_ble_eq_true rfl) rfl rfl rfl rfl ?_
  intro W251 r252 b250 z253
  have hlb250 := hu.lt
  replace r252 : RowL W251 _ 145 [.int .i64 k, .int .i64 l, .int .i64 z, a, .int .i64 r, .int .i64 p, .string (strB (List.take x1 (bytesL (List.take ((x1 + 7) / 8) (List.drop 2 ws)))))] := r252
  clear hu
  replace hkk := Zo hkk b250
  have hu := r252
  clear r252
  refine ZL ?_; refine EE.end _ rfl rfl ?_
  exact ⟨rfl, by assumption, hkk⟩
theorem rd3_F (gu bk off cap : Nat) (ws : List Nat) (k l z : Int) (a : Value) (r p : Int) (t : Bs) (w : World) (hws : ws.length = 16) (hu : RowL w gu 145 (inL k l z a r p t)) (hW : ∀ X, Kept (KU w gu) w X → WdsAt X bk off ws) (x1 : Nat) (h1 : ws[1]? = some x1) (hx : ¬(1 ≤ x1 ∧ x1 ≤ 112) ∨ ¬tgOk ws x1) (hcap : 16 ≤ cap) : Calls Tryz.prog 115 #[.pointer (some ⟨gu, 0, none⟩), .slice (some ⟨bk, off, none⟩) 16 cap] w fun e w' => e = .panicked (chain1 refV) ∧ Kept (KU w gu) w w' := by
  have hkk := Kept.refl (KU w gu) w
  have hlu := hu.lt
  have c1 := (hW w hkk).cells _ _ h1
  by_cases h5 : 65536 < x1
  · clear hx
    refine X.fnP Tryz.func115 rfl (n := 35) rfl rfl ?_
    refine Zr ?_; refine Zm ?_; refine Zi ?_; refine Zk ?_
    refine LL.callP (R.call rfl rfl rfl) rfl rfl (number_F _ _ (by first | assumption | omega)) ?_
    rintro e W2 ⟨rfl, rfl⟩
    refine ⟨_, rfl, ?_⟩; refine EE.thenP ?_; refine EE.panM ?_
    exact ⟨rfl, hkk⟩
  by_cases h4 : 1 ≤ x1 ∧ x1 ≤ 112
  case neg =>
    clear hx
    refine X.fnP Tryz.func115 rfl (n := 35) rfl rfl ?_
    refine Zr ?_; refine Zm ?_; refine Zi ?_; refine Zk ?_
    refine Zy (R.call rfl rfl rfl) (number_T _ _ (by first | assumption | omega)) ?_
    rintro e W' ⟨rfl, rfl⟩
    refine ⟨_, rfl, ?_⟩; refine Za ?_; refine Zq ?_; refine Zr ?_; refine Zm ?_
    refine Zy (R.call rfl rfl rfl) (within_F _ _ _ _ (by first | assumption | omega)) ?_
    rintro e W' ⟨rfl, rfl⟩
    refine ⟨_, rfl, ?_⟩; refine Zt ?_
    refine LL.callP (R.call rfl rfl rfl) rfl rfl (refuse_T _) ?_
    rintro e Wa2 ⟨rfl, rfl⟩
    refine ⟨_, rfl, ?_⟩; refine EE.thenP ?_; refine EE.panM ?_
    exact ⟨rfl, hkk⟩
  have hm : ¬tgOk ws x1 := hx.resolve_left (fun h => h h4)
  clear hx
  have hlen : ((ws.drop 2).take ((x1 + 7) / 8)).length = (x1 + 7) / 8 := by simp; omega
  have hT : ∀ X, Kept (KU w gu) w X → Calls Tryz.prog 130 #[.slice (some ⟨bk, off + 2 * 1, none⟩) ((x1 + 7) / 8) (cap - 2), .int .i64 (x1 : Int)] X fun e w' => e = .returned (.tuple #[.slice none 0 0, .int .i64 2]) ∧ Below X.heap.size X w' := fun X hX => by
    have h := take_any (.slice (some ⟨bk, off + 2, none⟩) ((x1 + 7) / 8) (cap - 2)) ((ws.drop 2).take ((x1 + 7) / 8)) x1 X ((hW X hX).reads 2 ((x1 + 7) / 8) (cap - 2) (by omega) (by omega)) (by omega) hlen.symm
    refine h.mono fun e w' hh => ?_
    obtain ⟨v', no, rfl, b, ⟨hz, _, _⟩ | ⟨_, rfl, rfl⟩⟩ := hh
    · exact absurd hz hm
    · exact ⟨rfl, b⟩
  refine X.fnP Tryz.func115 rfl (n := 35) rfl rfl ?_
  refine Zr ?_; refine Zm ?_; refine Zi ?_; refine Zk ?_
  refine Zy (R.call rfl rfl rfl) (number_T _ _ (by first | assumption | omega)) ?_
  rintro e W' ⟨rfl, rfl⟩
  refine ⟨_, rfl, ?_⟩; refine Za ?_; refine Zq ?_; refine Zr ?_; refine Zm ?_
  refine Zy (R.call rfl rfl rfl) (within_T _ _ _ _ (by first | assumption | omega)) ?_
  rintro e W' ⟨rfl, rfl⟩
  refine ⟨_, rfl, ?_⟩; refine Zt ?_
  refine Zy (R.call rfl rfl rfl) (refuse_F _) ?_
  rintro e W' ⟨rfl, rfl⟩
  refine ⟨_, rfl, ?_⟩; refine Zq ?_; refine Zr ?_; refine Zm ?_; refine Zm ?_
  refine LL.val (R.addNc rfl rfl rfl rfl (by omega)) rfl rfl rfl ?_
  refine LL.val (R.quoNc rfl rfl rfl rfl (by omega) (by omega)) rfl rfl rfl ?_
  refine LL.val (R.addI rfl rfl rfl (by omega)) rfl rfl rfl ?_
  (refine LL.val (R.slice rfl rfl rfl rfl rfl (I.slS (lo := 2) (hi := 2 + (x1 + 7) / 8) rfl (by omega) (by omega) (by omega))) rfl rfl rfl ?_; (try rw [show 2 + (x1 + 7) / 8 - 2 = (x1 + 7) / 8 by omega]))
  refine Zm ?_; have lb125 := hu.lt
  (refine Zy (R.call rfl rfl rfl) (hT _ hkk) ?_; rintro e Wb124 ⟨rfl, bb121⟩; refine ⟨_, rfl, ?_⟩)
  have zbb121 := bb121.size; replace hu := hu.up bb121; replace hkk := Zh hkk bb121; have yb129 := hkk.size; replace c1 := cell_up c1 bb121; refine Zm ?_; refine Zx ?_; refine Zx ?_; refine Za ?_; refine Za ?_; refine Zq ?_; refine Zr ?_; refine Zm ?_; refine ZneT ?_
  refine LL.callP (R.call rfl rfl rfl) rfl rfl (refuse_T _) ?_
  rintro e Wb195 ⟨rfl, rfl⟩
  refine ⟨_, rfl, ?_⟩; refine EE.thenP ?_; refine EE.panM ?_
  exact ⟨rfl, hkk⟩
/-- May an inode be? -/
def okI (k l z : Int) (m : List Ex) (r p : Int) (t : Bs) : Prop :=
  (0 ≤ l ∧ l ≤ 65535) ∧ (k = 0 ∧ l = 0 ∧ z = 0 ∧ m = [] ∧ r = 0 ∧ p = 0 ∧ t = [] ∨
    k = 1 ∧ r = 0 ∧ p = 0 ∧ t = [] ∧ okF z m ∨
    k = 2 ∧ z = 0 ∧ m = [] ∧ t = [] ∧ (1 ≤ r ∧ r ≤ 2047) ∧ 1 ≤ p ∧ p ≤ 256 ∨
    k = 3 ∧ z = 0 ∧ m = [] ∧ r = 0 ∧ p = 0 ∧ (1 ≤ t.length ∧ t.length ≤ 112) ∧ (0 : UInt8) ∉ t)
theorem kinds_none {k : Int} (h : k < 0 ∨ 3 < k) : kindsF k = none := by
  unfold kindsF putMap
  rw [if_neg (by omega), if_neg (by omega), if_neg (by omega), if_neg (by omega)]
theorem kF_0 : kindsF 0 = some kd0 := rfl
theorem kF_1 : kindsF 1 = some kd1 := rfl
theorem kF_2 : kindsF 2 = some kd2 := rfl
theorem kF_3 : kindsF 3 = some kd3 := rfl
abbrev kdZ : Value := .agg #[.nilFunc, .nilFunc, .nilFunc, .nilFunc]
theorem check_gT (k l z r p : Int) (t : Bs) (x : Option Addr) (n c : Nat) (w : World) (f1 f2 f3 f4 : Nat) (hkF : kindsF k = some (f1, f2, f3, f4)) (e1 : entB Tryz.prog f1 = true) (e2 : entB Tryz.prog f2 = true) (k' l' z' r' p' : Int) (t' : Bs) (x' : Option Addr) (n' c' : Nat) (cN : ∀ W, Calls Tryz.prog f1 #[inV k l z (.slice x n c) r p t] W fun e w' => e = .returned (inV k' l' z' (.slice x' n' c') r' p' t') ∧ Below W.heap.size W w') (hl : 0 ≤ l ∧ l ≤ 65535) (hsm : ∀ W, Below w.heap.size w W → Calls Tryz.prog 131 #[inV k l z (.slice x n c) r p t, inV k' l' z' (.slice x' n' c') r' p' t'] W fun e w' => e = .returned (.bool true) ∧ Below W.heap.size W w') (cM : ∀ W, Below w.heap.size w W → Calls Tryz.prog f2 #[inV k l z (.slice x n c) r p t] W fun e w' => e = .returned (.bool true) ∧ Below W.heap.size W w') : Calls Tryz.prog 117 #[inV k l z (.slice x n c) r p t] w fun e w' => e = .returned (kdV (f1, f2, f3, f4)) ∧ Below w.heap.size w w' := by
  have q := Below.refl w.heap.size w
  refine X.fn Tryz.func117 rfl (n := 38) rfl rfl ?_
  refine Zr ?_
  refine LL.box [.int .i64 k, .int .i64 l, .int .i64 z, .slice x n c, .int .i64 r, .int .i64 p, strV t] rfl rfl rfl rfl rfl ?_
  intro W2 g3 eg3 r4 z5 b1
  replace q := Zu q b1; have l6 := r4.lt
  refine LL.alloc ([Value.nilFunc, Value.nilFunc, Value.nilFunc, Value.nilFunc]) rfl rfl rfl rfl rfl ?_
  intro W8 g9 eg9 r10 z11 b7
  replace r4 := r4.up b7; replace b1 := Zu b1 b7; replace q := Zu q b7; refine Zq ?_; refine Zc ?_
  refine CC.join (fun l_ W30 => ∃ (g25 : Nat), l_ = [(0, Value.agg #[Value.int IntKind.i64 k, Value.int IntKind.i64 l, Value.int IntKind.i64 z, Value.slice x n c, Value.int IntKind.i64 r, Value.int IntKind.i64 p, strV t]), (1, Value.pointer (some { block := g3, off := 0 })), (2, Value.pointer (some { block := g9, off := 0 })), (3, Value.pointer (some { block := g25, off := 0 })), (4, Value.bool true)] ∧ (Below W8.heap.size W8 W30) ∧ (RowL W30 g9 140 [Value.nilFunc, Value.nilFunc, Value.nilFunc, Value.nilFunc]) ∧ (Below W2.heap.size W2 W30) ∧ (RowL W30 g3 80 [Value.int IntKind.i64 k, Value.int IntKind.i64 l, Value.int IntKind.i64 z, Value.slice x n c, Value.int IntKind.i64 r, Value.int IntKind.i64 p, strV t]) ∧ (Below w.heap.size w W30) ∧ (Below w.heap.size w W30) ∧ (RowL W30 g25 140 [fnV f1, fnV f2, fnV f3, fnV f4]) ∧ (W8.heap.size ≤ W30.heap.size) ∧ (W8.heap.size ≤ g25)) (fun J35 => ?_) ?restJ35
  case' restJ35 =>
    clear r10
    clear b7
    clear r4
    clear b1
    clear q
    rintro _ W30 ⟨g25, rfl, b12, r10, b7, r4, b1, q, r26, z33, z34⟩
  refine ZT ?_; refine Zr ?_; refine Zm ?_; refine Zt ?_; refine Zm ?_; refine Zf ?_; refine Zl r4 ?_
  refine Zy (R.call rfl rfl rfl) (within_T _ _ _ _ (by first | assumption | omega)) ?_
  rintro e W' ⟨rfl, rfl⟩
  refine ⟨_, rfl, ?_⟩; refine Zt ?_; refine Zp ?_
  refine Zy (R.call rfl rfl rfl) (refuse_F _) ?_
  rintro e W' ⟨rfl, rfl⟩
  refine ⟨_, rfl, ?_⟩; refine Zq ?_; refine Zc ?_
  refine CC.growT 15 (by kernel_rfl) (by kernel_rfl) ?_
  refine Gv r4 ?_
  refine Gf ?_
  refine Gl r26 ?_
  refine Gv r4 ?_
  refine GG.call (fun w' => (R.callV rfl rfl rfl e1)) rfl rfl (fun w' b' => (cN w').mono fun e W' h => ⟨h.1, b'.trans (h.2.mono b'.size)⟩) ?_
  refine Gc (fun w' b' => hsm w' (q.trans (b'.mono q.size))) ?_
  refine Gt ?_
  refine Gm ?_
  refine Gf ?_
  refine Gl r26 ?_
  refine Gv r4 ?_
  refine GG.val (fun w' b' => R.buildV rfl rfl (v := .agg #[Value.int IntKind.i64 k, Value.int IntKind.i64 l, Value.int IntKind.i64 z, Value.slice x n c, Value.int IntKind.i64 r, Value.int IntKind.i64 p, strV t]) (fun _ => by kernel_rfl)) rfl rfl ?_
  refine GG.call (fun w' => (R.callV rfl rfl rfl e2)) rfl rfl (fun w' b' => (cM w' (q.trans (b'.mono q.size))).mono fun e W' h => ⟨h.1, b'.trans (h.2.mono b'.size)⟩) ?_
  refine Gt ?_
  refine GG.val (fun w' b' => R.pick rfl rfl rfl) rfl rfl ?_
  refine GG.nil (fun W40 b39 => ?_)
  have zb39 := b39.size; replace b12 := Zu b12 b39; replace r10 := r10.up b39; replace b7 := Zu b7 b39; replace r4 := r4.up b39; replace b1 := Zu b1 b39; replace q := Zu q b39; replace r26 := r26.up b39
  refine Zy (R.call rfl rfl rfl) (refuse_F _) ?_
  rintro e W' ⟨rfl, rfl⟩
  refine ⟨_, rfl, ?_⟩; refine Zq ?_; refine Zr ?_; refine Zv r26 ?_
  refine LL.storeN (vs := [fnV f1, fnV f2, fnV f3, fnV f4]) rfl rfl rfl rfl r10 (by exact Nat.le_of_ble_eq_true rfl) (ones_of rfl) rfl rfl ?_
  intro W42 r43 b41 z44
  have hlb41 := r10.lt
  replace r43 : RowL W42 _ 140 [fnV f1, fnV f2, fnV f3, fnV f4] := r43
  clear r10
  replace b7 := Zg b7 b41; replace r4 := Zd r4 b41; replace b1 := Zg b1 b41; replace q := Zg q b41; replace r26 := Zd r26 b41
  have r10 := r43
  clear r43
  refine Zq ?_; refine ZR ?_
  refine EE.retC rfl rfl (lvNc (RowL.cells0 (by assumption)) (by rfl) (by rfl)) ?_
  exact ⟨rfl, q⟩
  refine CC.freeZ (fun W_ j => j < W_.heap.size ∧ (True)) (by kernel_rfl) (by kernel_rfl) (fun W46 b45 z47 => ?_)
  replace r10 := r10.up b45; replace b7 := Zu b7 b45; replace r4 := r4.up b45; replace b1 := Zu b1 b45; replace q := Zu q b45
  have hok : Kept (fun j => j < W46.heap.size ∧ (True)) W46 W46 := Kept.refl _ _
  have fzr10 := fzRow (K := fun j => j < W46.heap.size ∧ (True)) r10 ⟨r10.lt, (by first | trivial | omega)⟩
  have fzr4 := fzRow (K := fun j => j < W46.heap.size ∧ (True)) r4 ⟨r4.lt, (by first | trivial | omega)⟩
  refine AA.pure 1 rfl hok (by kernel_rfl) (fun w' b' => R.field rfl rfl (I.fld rfl)) rfl rfl ?_
  refine AA.pure 2 rfl hok (by kernel_rfl) (fun w' b' => R.load rfl rfl (I.ld1 rfl (RowL.cell (fzr4 w' b') rfl))) rfl rfl ?_
  refine AA.two 0 7 (by kernel_rfl) ?_ ?_
  refine SR.call rfl (R.call rfl rfl rfl) rfl rfl (kinds_any _) ?_
  rintro e W49 ⟨g51, k52, rfl, h50, b48⟩
  have zb48 := b48.size; replace b45 := Zu b45 b48; replace r10 := r10.up b48; replace b7 := Zu b7 b48; replace r4 := r4.up b48; replace b1 := Zu b1 b48; replace q := Zu q b48; replace hok := Zh hok b48; have y53 := hok.size
  refine ⟨_, rfl, hok, ?_⟩
  refine AA.two 3 7 (by kernel_rfl) ?_ ?_
  (refine SR.val rfl (R.lookKT rfl rfl zKeys (by rfl) (z := kdZ) (by kernel_rfl) (by assumption) k rfl hkF) rfl rfl hok ?_)
  refine AA.pure 4 rfl hok (by kernel_rfl) (fun w' b' => R.move rfl rfl) rfl rfl ?_
  refine AA.pure 5 rfl hok (by kernel_rfl) (fun w' b' => R.extract rfl rfl rfl) rfl rfl ?_
  refine AA.pure 6 rfl hok (by kernel_rfl) (fun w' b' => R.extract rfl rfl rfl) rfl rfl ?_
  refine AA.one 7 (by kernel_rfl) ?_
  have l54 := r10.lt; have l55 := r4.lt
  refine ZR.alloc ([Value.nilFunc, Value.nilFunc, Value.nilFunc, Value.nilFunc]) rfl rfl rfl rfl rfl rfl ?_
  intro W57 g58 eg58 r59 z60 b56
  replace h50 := h50.up b56; replace b48 := Zu b48 b56; replace b45 := Zu b45 b56; replace r10 := r10.up b56; replace b7 := Zu b7 b56; replace r4 := r4.up b56; replace b1 := Zu b1 b56; replace q := Zu q b56; replace hok := Zh hok b56; have y61 := hok.size
  refine ⟨hok, ?_⟩
  refine AA.one 8 (by kernel_rfl) ?_
  refine ZR.storeN (vs := [fnV f1, fnV f2, fnV f3, fnV f4]) rfl rfl rfl rfl rfl r59 (by exact Nat.le_of_ble_eq_true rfl) (ones_of rfl) rfl rfl ?_
  intro W63 r64 b62 z65
  have hlb62 := r59.lt
  replace r64 : RowL W63 _ 140 [fnV f1, fnV f2, fnV f3, fnV f4] := r64
  clear r59
  replace b56 := Zg b56 b62; replace b48 := Zg b48 b62; replace b45 := Zg b45 b62; replace r10 := Zd r10 b62; replace b7 := Zg b7 b62; replace r4 := Zd r4 b62; replace b1 := Zg b1 b62; replace q := Zg q b62; replace hok := Zo hok b62
  have r59 := r64
  clear r64
  refine ⟨hok, ?_⟩
  refine AA.pure 9 rfl hok (by kernel_rfl) (fun w' b' => R.assign rfl rfl) rfl rfl ?_
  refine AA.done rfl ?_
  clear fzr10 fzr4 hok
  exact EE.weak (J35 _ _ ⟨_, rfl, (by first | assumption | omega), (by first | assumption | omega), (by first | assumption | omega), (by first | assumption | omega), (by first | assumption | omega), (by first | assumption | omega), (by first | assumption | omega), (by first | assumption | omega), (by first | assumption | omega)⟩) ⟨rfl, rfl, rfl, rfl, rfl, trivial⟩
  have l66 := r10.lt; have l67 := r4.lt
  refine ZR.alloc ([Value.nilFunc, Value.nilFunc, Value.nilFunc, Value.nilFunc]) rfl rfl rfl rfl rfl rfl ?_
  intro W69 g70 eg70 r71 z72 b68
  replace h50 := h50.up b68; replace b48 := Zu b48 b68; replace b45 := Zu b45 b68; replace r10 := r10.up b68; replace b7 := Zu b7 b68; replace r4 := r4.up b68; replace b1 := Zu b1 b68; replace q := Zu q b68; replace hok := Zh hok b68; have y73 := hok.size
  refine ⟨hok, ?_⟩
  refine AA.one 3 (by kernel_rfl) ?_
  (refine SR.val rfl (R.lookKT rfl rfl zKeys (by rfl) (z := kdZ) (by kernel_rfl) (by assumption) k rfl hkF) rfl rfl hok ?_)
  refine AA.pure 4 rfl hok (by kernel_rfl) (fun w' b' => R.move rfl rfl) rfl rfl ?_
  refine AA.pure 5 rfl hok (by kernel_rfl) (fun w' b' => R.extract rfl rfl rfl) rfl rfl ?_
  refine AA.pure 6 rfl hok (by kernel_rfl) (fun w' b' => R.extract rfl rfl rfl) rfl rfl ?_
  refine AA.one 8 (by kernel_rfl) ?_
  refine ZR.storeN (vs := [fnV f1, fnV f2, fnV f3, fnV f4]) rfl rfl rfl rfl rfl r71 (by exact Nat.le_of_ble_eq_true rfl) (ones_of rfl) rfl rfl ?_
  intro W75 r76 b74 z77
  have hlb74 := r71.lt
  replace r76 : RowL W75 _ 140 [fnV f1, fnV f2, fnV f3, fnV f4] := r76
  clear r71
  replace b68 := Zg b68 b74; replace b48 := Zg b48 b74; replace b45 := Zg b45 b74; replace r10 := Zd r10 b74; replace b7 := Zg b7 b74; replace r4 := Zd r4 b74; replace b1 := Zg b1 b74; replace q := Zg q b74; replace hok := Zo hok b74
  have r71 := r76
  clear r76
  refine ⟨hok, ?_⟩
  refine AA.pure 9 rfl hok (by kernel_rfl) (fun w' b' => R.assign rfl rfl) rfl rfl ?_
  refine AA.done rfl ?_
  clear fzr10 fzr4 hok
  exact EE.weak (J35 _ _ ⟨_, rfl, (by first | assumption | omega), (by first | assumption | omega), (by first | assumption | omega), (by first | assumption | omega), (by first | assumption | omega), (by first | assumption | omega), (by first | assumption | omega), (by first | assumption | omega), (by first | assumption | omega)⟩) ⟨rfl, rfl, rfl, rfl, rfl, trivial⟩
  have l78 := r10.lt; have l79 := r4.lt
  refine ZR.alloc ([Value.nilFunc, Value.nilFunc, Value.nilFunc, Value.nilFunc]) rfl rfl rfl rfl rfl rfl ?_
  intro W81 g82 eg82 r83 z84 b80
  replace b45 := Zu b45 b80; replace r10 := r10.up b80; replace b7 := Zu b7 b80; replace r4 := r4.up b80; replace b1 := Zu b1 b80; replace q := Zu q b80; replace hok := Zh hok b80; have y85 := hok.size
  refine ⟨hok, ?_⟩
  refine AA.one 0 (by kernel_rfl) ?_
  refine SR.call rfl (R.call rfl rfl rfl) rfl rfl (kinds_any _) ?_
  rintro e W87 ⟨g89, k90, rfl, h88, b86⟩
  have zb86 := b86.size; replace r83 := r83.up b86; replace b80 := Zu b80 b86; replace b45 := Zu b45 b86; replace r10 := r10.up b86; replace b7 := Zu b7 b86; replace r4 := r4.up b86; replace b1 := Zu b1 b86; replace q := Zu q b86; replace hok := Zh hok b86; have y91 := hok.size
  refine ⟨_, rfl, hok, ?_⟩
  refine AA.one 3 (by kernel_rfl) ?_
  (refine SR.val rfl (R.lookKT rfl rfl zKeys (by rfl) (z := kdZ) (by kernel_rfl) (by assumption) k rfl hkF) rfl rfl hok ?_)
  refine AA.pure 4 rfl hok (by kernel_rfl) (fun w' b' => R.move rfl rfl) rfl rfl ?_
  refine AA.pure 5 rfl hok (by kernel_rfl) (fun w' b' => R.extract rfl rfl rfl) rfl rfl ?_
  refine AA.pure 6 rfl hok (by kernel_rfl) (fun w' b' => R.extract rfl rfl rfl) rfl rfl ?_
  refine AA.one 8 (by kernel_rfl) ?_
  refine ZR.storeN (vs := [fnV f1, fnV f2, fnV f3, fnV f4]) rfl rfl rfl rfl rfl r83 (by exact Nat.le_of_ble_eq_true rfl) (ones_of rfl) rfl rfl ?_
  intro W93 r94 b92 z95
  have hlb92 := r83.lt
  replace r94 : RowL W93 _ 140 [fnV f1, fnV f2, fnV f3, fnV f4] := r94
  clear r83
  replace b80 := Zg b80 b92; replace b45 := Zg b45 b92; replace r10 := Zd r10 b92; replace b7 := Zg b7 b92; replace r4 := Zd r4 b92; replace b1 := Zg b1 b92; replace q := Zg q b92; replace hok := Zo hok b92
  have r83 := r94
  clear r94
  refine ⟨hok, ?_⟩
  refine AA.pure 9 rfl hok (by kernel_rfl) (fun w' b' => R.assign rfl rfl) rfl rfl ?_
  refine AA.done rfl ?_
  clear fzr10 fzr4 hok
  exact EE.weak (J35 _ _ ⟨_, rfl, (by first | assumption | omega), (by first | assumption | omega), (by first | assumption | omega), (by first | assumption | omega), (by first | assumption | omega), (by first | assumption | omega), (by first | assumption | omega), (by first | assumption | omega), (by first | assumption | omega)⟩) ⟨rfl, rfl, rfl, rfl, rfl, trivial⟩
theorem check_gM (k l z r p : Int) (t : Bs) (x : Option Addr) (n c : Nat) (w : World) (f1 f2 f3 f4 : Nat) (hkF : kindsF k = some (f1, f2, f3, f4)) (e1 : entB Tryz.prog f1 = true) (e2 : entB Tryz.prog f2 = true) (k' l' z' r' p' : Int) (t' : Bs) (x' : Option Addr) (n' c' : Nat) (cN : ∀ W, Calls Tryz.prog f1 #[inV k l z (.slice x n c) r p t] W fun e w' => e = .returned (inV k' l' z' (.slice x' n' c') r' p' t') ∧ Below W.heap.size W w') (hl : 0 ≤ l ∧ l ≤ 65535) (hsm : ∀ W, Below w.heap.size w W → Calls Tryz.prog 131 #[inV k l z (.slice x n c) r p t, inV k' l' z' (.slice x' n' c') r' p' t'] W fun e w' => e = .returned (.bool true) ∧ Below W.heap.size W w') (cM : ∀ W, Below w.heap.size w W → Calls Tryz.prog f2 #[inV k l z (.slice x n c) r p t] W fun e w' => e = .returned (.bool false) ∧ Below W.heap.size W w') : Calls Tryz.prog 117 #[inV k l z (.slice x n c) r p t] w fun e w' => e = .panicked (chain1 refV) ∧ Below w.heap.size w w' := by
  have q := Below.refl w.heap.size w
  refine X.fnP Tryz.func117 rfl (n := 38) rfl rfl ?_
  refine Zr ?_
  refine LL.box [.int .i64 k, .int .i64 l, .int .i64 z, .slice x n c, .int .i64 r, .int .i64 p, strV t] rfl rfl rfl rfl rfl ?_
  intro W2 g3 eg3 r4 z5 b1
  replace q := Zu q b1; have l6 := r4.lt
  refine LL.alloc ([Value.nilFunc, Value.nilFunc, Value.nilFunc, Value.nilFunc]) rfl rfl rfl rfl rfl ?_
  intro W8 g9 eg9 r10 z11 b7
  replace r4 := r4.up b7; replace b1 := Zu b1 b7; replace q := Zu q b7; refine Zq ?_; refine Zc ?_
  refine CC.join (fun l_ W30 => ∃ (g25 : Nat), l_ = [(0, Value.agg #[Value.int IntKind.i64 k, Value.int IntKind.i64 l, Value.int IntKind.i64 z, Value.slice x n c, Value.int IntKind.i64 r, Value.int IntKind.i64 p, strV t]), (1, Value.pointer (some { block := g3, off := 0 })), (2, Value.pointer (some { block := g9, off := 0 })), (3, Value.pointer (some { block := g25, off := 0 })), (4, Value.bool true)] ∧ (Below W8.heap.size W8 W30) ∧ (RowL W30 g9 140 [Value.nilFunc, Value.nilFunc, Value.nilFunc, Value.nilFunc]) ∧ (Below W2.heap.size W2 W30) ∧ (RowL W30 g3 80 [Value.int IntKind.i64 k, Value.int IntKind.i64 l, Value.int IntKind.i64 z, Value.slice x n c, Value.int IntKind.i64 r, Value.int IntKind.i64 p, strV t]) ∧ (Below w.heap.size w W30) ∧ (Below w.heap.size w W30) ∧ (RowL W30 g25 140 [fnV f1, fnV f2, fnV f3, fnV f4]) ∧ (W8.heap.size ≤ W30.heap.size) ∧ (W8.heap.size ≤ g25)) (fun J35 => ?_) ?restJ35
  case' restJ35 =>
    clear r10
    clear b7
    clear r4
    clear b1
    clear q
    rintro _ W30 ⟨g25, rfl, b12, r10, b7, r4, b1, q, r26, z33, z34⟩
  refine ZT ?_; refine Zr ?_; refine Zm ?_; refine Zt ?_; refine Zm ?_; refine Zf ?_; refine Zl r4 ?_
  refine Zy (R.call rfl rfl rfl) (within_T _ _ _ _ (by first | assumption | omega)) ?_
  rintro e W' ⟨rfl, rfl⟩
  refine ⟨_, rfl, ?_⟩; refine Zt ?_; refine Zp ?_
  refine Zy (R.call rfl rfl rfl) (refuse_F _) ?_
  rintro e W' ⟨rfl, rfl⟩
  refine ⟨_, rfl, ?_⟩; refine Zq ?_; refine Zc ?_
  refine CC.growT 15 (by kernel_rfl) (by kernel_rfl) ?_
  refine Gv r4 ?_
  refine Gf ?_
  refine Gl r26 ?_
  refine Gv r4 ?_
  refine GG.call (fun w' => (R.callV rfl rfl rfl e1)) rfl rfl (fun w' b' => (cN w').mono fun e W' h => ⟨h.1, b'.trans (h.2.mono b'.size)⟩) ?_
  refine Gc (fun w' b' => hsm w' (q.trans (b'.mono q.size))) ?_
  refine Gt ?_
  refine Gm ?_
  refine Gf ?_
  refine Gl r26 ?_
  refine Gv r4 ?_
  refine GG.val (fun w' b' => R.buildV rfl rfl (v := .agg #[Value.int IntKind.i64 k, Value.int IntKind.i64 l, Value.int IntKind.i64 z, Value.slice x n c, Value.int IntKind.i64 r, Value.int IntKind.i64 p, strV t]) (fun _ => by kernel_rfl)) rfl rfl ?_
  refine GG.call (fun w' => (R.callV rfl rfl rfl e2)) rfl rfl (fun w' b' => (cM w' (q.trans (b'.mono q.size))).mono fun e W' h => ⟨h.1, b'.trans (h.2.mono b'.size)⟩) ?_
  refine Gt ?_
  refine GG.val (fun w' b' => R.pick rfl rfl rfl) rfl rfl ?_
  refine GG.nil (fun W40 b39 => ?_)
  have zb39 := b39.size; replace b12 := Zu b12 b39; replace r10 := r10.up b39; replace b7 := Zu b7 b39; replace r4 := r4.up b39; replace b1 := Zu b1 b39; replace q := Zu q b39; replace r26 := r26.up b39
  refine LL.callP (R.call rfl rfl rfl) rfl rfl (refuse_T _) ?_
  rintro e W42 ⟨rfl, rfl⟩
  refine ⟨_, rfl, ?_⟩; refine EE.thenP ?_; refine EE.panM ?_
  exact ⟨rfl, q⟩
  refine CC.freeZ (fun W_ j => j < W_.heap.size ∧ (True)) (by kernel_rfl) (by kernel_rfl) (fun W44 b43 z45 => ?_)
  replace r10 := r10.up b43; replace b7 := Zu b7 b43; replace r4 := r4.up b43; replace b1 := Zu b1 b43; replace q := Zu q b43
  have hok : Kept (fun j => j < W44.heap.size ∧ (True)) W44 W44 := Kept.refl _ _
  have fzr10 := fzRow (K := fun j => j < W44.heap.size ∧ (True)) r10 ⟨r10.lt, (by first | trivial | omega)⟩
  have fzr4 := fzRow (K := fun j => j < W44.heap.size ∧ (True)) r4 ⟨r4.lt, (by first | trivial | omega)⟩
  refine AA.pure 1 rfl hok (by kernel_rfl) (fun w' b' => R.field rfl rfl (I.fld rfl)) rfl rfl ?_
  refine AA.pure 2 rfl hok (by kernel_rfl) (fun w' b' => R.load rfl rfl (I.ld1 rfl (RowL.cell (fzr4 w' b') rfl))) rfl rfl ?_
  refine AA.two 0 7 (by kernel_rfl) ?_ ?_
  refine SR.call rfl (R.call rfl rfl rfl) rfl rfl (kinds_any _) ?_
  rintro e W47 ⟨g49, k50, rfl, h48, b46⟩
  have zb46 := b46.size; replace b43 := Zu b43 b46; replace r10 := r10.up b46; replace b7 := Zu b7 b46; replace r4 := r4.up b46; replace b1 := Zu b1 b46; replace q := Zu q b46; replace hok := Zh hok b46; have y51 := hok.size
  refine ⟨_, rfl, hok, ?_⟩
  refine AA.two 3 7 (by kernel_rfl) ?_ ?_
  (refine SR.val rfl (R.lookKT rfl rfl zKeys (by rfl) (z := kdZ) (by kernel_rfl) (by assumption) k rfl hkF) rfl rfl hok ?_)
  refine AA.pure 4 rfl hok (by kernel_rfl) (fun w' b' => R.move rfl rfl) rfl rfl ?_
  refine AA.pure 5 rfl hok (by kernel_rfl) (fun w' b' => R.extract rfl rfl rfl) rfl rfl ?_
  refine AA.pure 6 rfl hok (by kernel_rfl) (fun w' b' => R.extract rfl rfl rfl) rfl rfl ?_
  refine AA.one 7 (by kernel_rfl) ?_
  have l52 := r10.lt; have l53 := r4.lt
  refine ZR.alloc ([Value.nilFunc, Value.nilFunc, Value.nilFunc, Value.nilFunc]) rfl rfl rfl rfl rfl rfl ?_
  intro W55 g56 eg56 r57 z58 b54
  replace h48 := h48.up b54; replace b46 := Zu b46 b54; replace b43 := Zu b43 b54; replace r10 := r10.up b54; replace b7 := Zu b7 b54; replace r4 := r4.up b54; replace b1 := Zu b1 b54; replace q := Zu q b54; replace hok := Zh hok b54; have y59 := hok.size
  refine ⟨hok, ?_⟩
  refine AA.one 8 (by kernel_rfl) ?_
  refine ZR.storeN (vs := [fnV f1, fnV f2, fnV f3, fnV f4]) rfl rfl rfl rfl rfl r57 (by exact Nat.le_of_ble_eq_true rfl) (ones_of rfl) rfl rfl ?_
  intro W61 r62 b60 z63
  have hlb60 := r57.lt
  replace r62 : RowL W61 _ 140 [fnV f1, fnV f2, fnV f3, fnV f4] := r62
  clear r57
  replace b54 := Zg b54 b60; replace b46 := Zg b46 b60; replace b43 := Zg b43 b60; replace r10 := Zd r10 b60; replace b7 := Zg b7 b60; replace r4 := Zd r4 b60; replace b1 := Zg b1 b60; replace q := Zg q b60; replace hok := Zo hok b60
  have r57 := r62
  clear r62
  refine ⟨hok, ?_⟩
  refine AA.pure 9 rfl hok (by kernel_rfl) (fun w' b' => R.assign rfl rfl) rfl rfl ?_
  refine AA.done rfl ?_
  clear fzr10 fzr4 hok
  exact EE.weak (J35 _ _ ⟨_, rfl, (by first | assumption | omega), (by first | assumption | omega), (by first | assumption | omega), (by first | assumption | omega), (by first | assumption | omega), (by first | assumption | omega), (by first | assumption | omega), (by first | assumption | omega), (by first | assumption | omega)⟩) ⟨rfl, rfl, rfl, rfl, rfl, trivial⟩
  have l64 := r10.lt; have l65 := r4.lt
  refine ZR.alloc ([Value.nilFunc, Value.nilFunc, Value.nilFunc, Value.nilFunc]) rfl rfl rfl rfl rfl rfl ?_
  intro W67 g68 eg68 r69 z70 b66
  replace h48 := h48.up b66; replace b46 := Zu b46 b66; replace b43 := Zu b43 b66; replace r10 := r10.up b66; replace b7 := Zu b7 b66; replace r4 := r4.up b66; replace b1 := Zu b1 b66; replace q := Zu q b66; replace hok := Zh hok b66; have y71 := hok.size
  refine ⟨hok, ?_⟩
  refine AA.one 3 (by kernel_rfl) ?_
  (refine SR.val rfl (R.lookKT rfl rfl zKeys (by rfl) (z := kdZ) (by kernel_rfl) (by assumption) k rfl hkF) rfl rfl hok ?_)
  refine AA.pure 4 rfl hok (by kernel_rfl) (fun w' b' => R.move rfl rfl) rfl rfl ?_
  refine AA.pure 5 rfl hok (by kernel_rfl) (fun w' b' => R.extract rfl rfl rfl) rfl rfl ?_
  refine AA.pure 6 rfl hok (by kernel_rfl) (fun w' b' => R.extract rfl rfl rfl) rfl rfl ?_
  refine AA.one 8 (by kernel_rfl) ?_
  refine ZR.storeN (vs := [fnV f1, fnV f2, fnV f3, fnV f4]) rfl rfl rfl rfl rfl r69 (by exact Nat.le_of_ble_eq_true rfl) (ones_of rfl) rfl rfl ?_
  intro W73 r74 b72 z75
  have hlb72 := r69.lt
  replace r74 : RowL W73 _ 140 [fnV f1, fnV f2, fnV f3, fnV f4] := r74
  clear r69
  replace b66 := Zg b66 b72; replace b46 := Zg b46 b72; replace b43 := Zg b43 b72; replace r10 := Zd r10 b72; replace b7 := Zg b7 b72; replace r4 := Zd r4 b72; replace b1 := Zg b1 b72; replace q := Zg q b72; replace hok := Zo hok b72
  have r69 := r74
  clear r74
  refine ⟨hok, ?_⟩
  refine AA.pure 9 rfl hok (by kernel_rfl) (fun w' b' => R.assign rfl rfl) rfl rfl ?_
  refine AA.done rfl ?_
  clear fzr10 fzr4 hok
  exact EE.weak (J35 _ _ ⟨_, rfl, (by first | assumption | omega), (by first | assumption | omega), (by first | assumption | omega), (by first | assumption | omega), (by first | assumption | omega), (by first | assumption | omega), (by first | assumption | omega), (by first | assumption | omega), (by first | assumption | omega)⟩) ⟨rfl, rfl, rfl, rfl, rfl, trivial⟩
  have l76 := r10.lt; have l77 := r4.lt
  refine ZR.alloc ([Value.nilFunc, Value.nilFunc, Value.nilFunc, Value.nilFunc]) rfl rfl rfl rfl rfl rfl ?_
  intro W79 g80 eg80 r81 z82 b78
  replace b43 := Zu b43 b78; replace r10 := r10.up b78; replace b7 := Zu b7 b78; replace r4 := r4.up b78; replace b1 := Zu b1 b78; replace q := Zu q b78; replace hok := Zh hok b78; have y83 := hok.size
  refine ⟨hok, ?_⟩
  refine AA.one 0 (by kernel_rfl) ?_
  refine SR.call rfl (R.call rfl rfl rfl) rfl rfl (kinds_any _) ?_
  rintro e W85 ⟨g87, k88, rfl, h86, b84⟩
  have zb84 := b84.size; replace r81 := r81.up b84; replace b78 := Zu b78 b84; replace b43 := Zu b43 b84; replace r10 := r10.up b84; replace b7 := Zu b7 b84; replace r4 := r4.up b84; replace b1 := Zu b1 b84; replace q := Zu q b84; replace hok := Zh hok b84; have y89 := hok.size
  refine ⟨_, rfl, hok, ?_⟩
  refine AA.one 3 (by kernel_rfl) ?_
  (refine SR.val rfl (R.lookKT rfl rfl zKeys (by rfl) (z := kdZ) (by kernel_rfl) (by assumption) k rfl hkF) rfl rfl hok ?_)
  refine AA.pure 4 rfl hok (by kernel_rfl) (fun w' b' => R.move rfl rfl) rfl rfl ?_
  refine AA.pure 5 rfl hok (by kernel_rfl) (fun w' b' => R.extract rfl rfl rfl) rfl rfl ?_
  refine AA.pure 6 rfl hok (by kernel_rfl) (fun w' b' => R.extract rfl rfl rfl) rfl rfl ?_
  refine AA.one 8 (by kernel_rfl) ?_
  refine ZR.storeN (vs := [fnV f1, fnV f2, fnV f3, fnV f4]) rfl rfl rfl rfl rfl r81 (by exact Nat.le_of_ble_eq_true rfl) (ones_of rfl) rfl rfl ?_
  intro W91 r92 b90 z93
  have hlb90 := r81.lt
  replace r92 : RowL W91 _ 140 [fnV f1, fnV f2, fnV f3, fnV f4] := r92
  clear r81
  replace b78 := Zg b78 b90; replace b43 := Zg b43 b90; replace r10 := Zd r10 b90; replace b7 := Zg b7 b90; replace r4 := Zd r4 b90; replace b1 := Zg b1 b90; replace q := Zg q b90; replace hok := Zo hok b90
  have r81 := r92
  clear r92
  refine ⟨hok, ?_⟩
  refine AA.pure 9 rfl hok (by kernel_rfl) (fun w' b' => R.assign rfl rfl) rfl rfl ?_
  refine AA.done rfl ?_
  clear fzr10 fzr4 hok
  exact EE.weak (J35 _ _ ⟨_, rfl, (by first | assumption | omega), (by first | assumption | omega), (by first | assumption | omega), (by first | assumption | omega), (by first | assumption | omega), (by first | assumption | omega), (by first | assumption | omega), (by first | assumption | omega), (by first | assumption | omega)⟩) ⟨rfl, rfl, rfl, rfl, rfl, trivial⟩
theorem check_gN (k l z r p : Int) (t : Bs) (x : Option Addr) (n c : Nat) (w : World) (f1 f2 f3 f4 : Nat) (hkF : kindsF k = some (f1, f2, f3, f4)) (e1 : entB Tryz.prog f1 = true) (e2 : entB Tryz.prog f2 = true) (k' l' z' r' p' : Int) (t' : Bs) (x' : Option Addr) (n' c' : Nat) (cN : ∀ W, Calls Tryz.prog f1 #[inV k l z (.slice x n c) r p t] W fun e w' => e = .returned (inV k' l' z' (.slice x' n' c') r' p' t') ∧ Below W.heap.size W w') (hl : 0 ≤ l ∧ l ≤ 65535) (hsm : ∀ W, Below w.heap.size w W → Calls Tryz.prog 131 #[inV k l z (.slice x n c) r p t, inV k' l' z' (.slice x' n' c') r' p' t'] W fun e w' => e = .returned (.bool false) ∧ Below W.heap.size W w') : Calls Tryz.prog 117 #[inV k l z (.slice x n c) r p t] w fun e w' => e = .panicked (chain1 refV) ∧ Below w.heap.size w w' := by
  have q := Below.refl w.heap.size w
  refine X.fnP Tryz.func117 rfl (n := 38) rfl rfl ?_
  refine Zr ?_
  refine LL.box [.int .i64 k, .int .i64 l, .int .i64 z, .slice x n c, .int .i64 r, .int .i64 p, strV t] rfl rfl rfl rfl rfl ?_
  intro W2 g3 eg3 r4 z5 b1
  replace q := Zu q b1; have l6 := r4.lt
  refine LL.alloc ([Value.nilFunc, Value.nilFunc, Value.nilFunc, Value.nilFunc]) rfl rfl rfl rfl rfl ?_
  intro W8 g9 eg9 r10 z11 b7
  replace r4 := r4.up b7; replace b1 := Zu b1 b7; replace q := Zu q b7; refine Zq ?_; refine Zc ?_
  refine CC.join (fun l_ W30 => ∃ (g25 : Nat), l_ = [(0, Value.agg #[Value.int IntKind.i64 k, Value.int IntKind.i64 l, Value.int IntKind.i64 z, Value.slice x n c, Value.int IntKind.i64 r, Value.int IntKind.i64 p, strV t]), (1, Value.pointer (some { block := g3, off := 0 })), (2, Value.pointer (some { block := g9, off := 0 })), (3, Value.pointer (some { block := g25, off := 0 })), (4, Value.bool true)] ∧ (Below W8.heap.size W8 W30) ∧ (RowL W30 g9 140 [Value.nilFunc, Value.nilFunc, Value.nilFunc, Value.nilFunc]) ∧ (Below W2.heap.size W2 W30) ∧ (RowL W30 g3 80 [Value.int IntKind.i64 k, Value.int IntKind.i64 l, Value.int IntKind.i64 z, Value.slice x n c, Value.int IntKind.i64 r, Value.int IntKind.i64 p, strV t]) ∧ (Below w.heap.size w W30) ∧ (Below w.heap.size w W30) ∧ (RowL W30 g25 140 [fnV f1, fnV f2, fnV f3, fnV f4]) ∧ (W8.heap.size ≤ W30.heap.size) ∧ (W8.heap.size ≤ g25)) (fun J35 => ?_) ?restJ35
  case' restJ35 =>
    clear r10
    clear b7
    clear r4
    clear b1
    clear q
    rintro _ W30 ⟨g25, rfl, b12, r10, b7, r4, b1, q, r26, z33, z34⟩
  refine ZT ?_; refine Zr ?_; refine Zm ?_; refine Zt ?_; refine Zm ?_; refine Zf ?_; refine Zl r4 ?_
  refine Zy (R.call rfl rfl rfl) (within_T _ _ _ _ (by first | assumption | omega)) ?_
  rintro e W' ⟨rfl, rfl⟩
  refine ⟨_, rfl, ?_⟩; refine Zt ?_; refine Zp ?_
  refine Zy (R.call rfl rfl rfl) (refuse_F _) ?_
  rintro e W' ⟨rfl, rfl⟩
  refine ⟨_, rfl, ?_⟩; refine Zq ?_; refine Zc ?_
  refine CC.growT 15 (by kernel_rfl) (by kernel_rfl) ?_
  refine Gv r4 ?_
  refine Gf ?_
  refine Gl r26 ?_
  refine Gv r4 ?_
  refine GG.call (fun w' => (R.callV rfl rfl rfl e1)) rfl rfl (fun w' b' => (cN w').mono fun e W' h => ⟨h.1, b'.trans (h.2.mono b'.size)⟩) ?_
  refine Gc (fun w' b' => hsm w' (q.trans (b'.mono q.size))) ?_
  refine Gt ?_
  refine Gm ?_
  refine GG.skip rfl rfl ?_
  refine GG.skip rfl rfl ?_
  refine GG.skip rfl rfl ?_
  refine GG.skip rfl rfl ?_
  refine GG.skip rfl rfl ?_
  refine GG.skip rfl rfl ?_
  refine GG.val (fun w' b' => R.pick rfl rfl rfl) rfl rfl ?_
  refine GG.nil (fun W40 b39 => ?_)
  have zb39 := b39.size; replace b12 := Zu b12 b39; replace r10 := r10.up b39; replace b7 := Zu b7 b39; replace r4 := r4.up b39; replace b1 := Zu b1 b39; replace q := Zu q b39; replace r26 := r26.up b39
  refine LL.callP (R.call rfl rfl rfl) rfl rfl (refuse_T _) ?_
  rintro e W42 ⟨rfl, rfl⟩
  refine ⟨_, rfl, ?_⟩; refine EE.thenP ?_; refine EE.panM ?_
  exact ⟨rfl, q⟩
  refine CC.freeZ (fun W_ j => j < W_.heap.size ∧ (True)) (by kernel_rfl) (by kernel_rfl) (fun W44 b43 z45 => ?_)
  replace r10 := r10.up b43; replace b7 := Zu b7 b43; replace r4 := r4.up b43; replace b1 := Zu b1 b43; replace q := Zu q b43
  have hok : Kept (fun j => j < W44.heap.size ∧ (True)) W44 W44 := Kept.refl _ _
  have fzr10 := fzRow (K := fun j => j < W44.heap.size ∧ (True)) r10 ⟨r10.lt, (by first | trivial | omega)⟩
  have fzr4 := fzRow (K := fun j => j < W44.heap.size ∧ (True)) r4 ⟨r4.lt, (by first | trivial | omega)⟩
  refine AA.pure 1 rfl hok (by kernel_rfl) (fun w' b' => R.field rfl rfl (I.fld rfl)) rfl rfl ?_
  refine AA.pure 2 rfl hok (by kernel_rfl) (fun w' b' => R.load rfl rfl (I.ld1 rfl (RowL.cell (fzr4 w' b') rfl))) rfl rfl ?_
  refine AA.two 0 7 (by kernel_rfl) ?_ ?_
  refine SR.call rfl (R.call rfl rfl rfl) rfl rfl (kinds_any _) ?_
  rintro e W47 ⟨g49, k50, rfl, h48, b46⟩
  have zb46 := b46.size; replace b43 := Zu b43 b46; replace r10 := r10.up b46; replace b7 := Zu b7 b46; replace r4 := r4.up b46; replace b1 := Zu b1 b46; replace q := Zu q b46; replace hok := Zh hok b46; have y51 := hok.size
  refine ⟨_, rfl, hok, ?_⟩
  refine AA.two 3 7 (by kernel_rfl) ?_ ?_
  (refine SR.val rfl (R.lookKT rfl rfl zKeys (by rfl) (z := kdZ) (by kernel_rfl) (by assumption) k rfl hkF) rfl rfl hok ?_)
  refine AA.pure 4 rfl hok (by kernel_rfl) (fun w' b' => R.move rfl rfl) rfl rfl ?_
  refine AA.pure 5 rfl hok (by kernel_rfl) (fun w' b' => R.extract rfl rfl rfl) rfl rfl ?_
  refine AA.pure 6 rfl hok (by kernel_rfl) (fun w' b' => R.extract rfl rfl rfl) rfl rfl ?_
  refine AA.one 7 (by kernel_rfl) ?_
  have l52 := r10.lt; have l53 := r4.lt
  refine ZR.alloc ([Value.nilFunc, Value.nilFunc, Value.nilFunc, Value.nilFunc]) rfl rfl rfl rfl rfl rfl ?_
  intro W55 g56 eg56 r57 z58 b54
  replace h48 := h48.up b54; replace b46 := Zu b46 b54; replace b43 := Zu b43 b54; replace r10 := r10.up b54; replace b7 := Zu b7 b54; replace r4 := r4.up b54; replace b1 := Zu b1 b54; replace q := Zu q b54; replace hok := Zh hok b54; have y59 := hok.size
  refine ⟨hok, ?_⟩
  refine AA.one 8 (by kernel_rfl) ?_
  refine ZR.storeN (vs := [fnV f1, fnV f2, fnV f3, fnV f4]) rfl rfl rfl rfl rfl r57 (by exact Nat.le_of_ble_eq_true rfl) (ones_of rfl) rfl rfl ?_
  intro W61 r62 b60 z63
  have hlb60 := r57.lt
  replace r62 : RowL W61 _ 140 [fnV f1, fnV f2, fnV f3, fnV f4] := r62
  clear r57
  replace b54 := Zg b54 b60; replace b46 := Zg b46 b60; replace b43 := Zg b43 b60; replace r10 := Zd r10 b60; replace b7 := Zg b7 b60; replace r4 := Zd r4 b60; replace b1 := Zg b1 b60; replace q := Zg q b60; replace hok := Zo hok b60
  have r57 := r62
  clear r62
  refine ⟨hok, ?_⟩
  refine AA.pure 9 rfl hok (by kernel_rfl) (fun w' b' => R.assign rfl rfl) rfl rfl ?_
  refine AA.done rfl ?_
  clear fzr10 fzr4 hok
  exact EE.weak (J35 _ _ ⟨_, rfl, (by first | assumption | omega), (by first | assumption | omega), (by first | assumption | omega), (by first | assumption | omega), (by first | assumption | omega), (by first | assumption | omega), (by first | assumption | omega), (by first | assumption | omega), (by first | assumption | omega)⟩) ⟨rfl, rfl, rfl, rfl, rfl, trivial⟩
  have l64 := r10.lt; have l65 := r4.lt
  refine ZR.alloc ([Value.nilFunc, Value.nilFunc, Value.nilFunc, Value.nilFunc]) rfl rfl rfl rfl rfl rfl ?_
  intro W67 g68 eg68 r69 z70 b66
  replace h48 := h48.up b66; replace b46 := Zu b46 b66; replace b43 := Zu b43 b66; replace r10 := r10.up b66; replace b7 := Zu b7 b66; replace r4 := r4.up b66; replace b1 := Zu b1 b66; replace q := Zu q b66; replace hok := Zh hok b66; have y71 := hok.size
  refine ⟨hok, ?_⟩
  refine AA.one 3 (by kernel_rfl) ?_
  (refine SR.val rfl (R.lookKT rfl rfl zKeys (by rfl) (z := kdZ) (by kernel_rfl) (by assumption) k rfl hkF) rfl rfl hok ?_)
  refine AA.pure 4 rfl hok (by kernel_rfl) (fun w' b' => R.move rfl rfl) rfl rfl ?_
  refine AA.pure 5 rfl hok (by kernel_rfl) (fun w' b' => R.extract rfl rfl rfl) rfl rfl ?_
  refine AA.pure 6 rfl hok (by kernel_rfl) (fun w' b' => R.extract rfl rfl rfl) rfl rfl ?_
  refine AA.one 8 (by kernel_rfl) ?_
  refine ZR.storeN (vs := [fnV f1, fnV f2, fnV f3, fnV f4]) rfl rfl rfl rfl rfl r69 (by exact Nat.le_of_ble_eq_true rfl) (ones_of rfl) rfl rfl ?_
  intro W73 r74 b72 z75
  have hlb72 := r69.lt
  replace r74 : RowL W73 _ 140 [fnV f1, fnV f2, fnV f3, fnV f4] := r74
  clear r69
  replace b66 := Zg b66 b72; replace b46 := Zg b46 b72; replace b43 := Zg b43 b72; replace r10 := Zd r10 b72; replace b7 := Zg b7 b72; replace r4 := Zd r4 b72; replace b1 := Zg b1 b72; replace q := Zg q b72; replace hok := Zo hok b72
  have r69 := r74
  clear r74
  refine ⟨hok, ?_⟩
  refine AA.pure 9 rfl hok (by kernel_rfl) (fun w' b' => R.assign rfl rfl) rfl rfl ?_
  refine AA.done rfl ?_
  clear fzr10 fzr4 hok
  exact EE.weak (J35 _ _ ⟨_, rfl, (by first | assumption | omega), (by first | assumption | omega), (by first | assumption | omega), (by first | assumption | omega), (by first | assumption | omega), (by first | assumption | omega), (by first | assumption | omega), (by first | assumption | omega), (by first | assumption | omega)⟩) ⟨rfl, rfl, rfl, rfl, rfl, trivial⟩
  have l76 := r10.lt; have l77 := r4.lt
  refine ZR.alloc ([Value.nilFunc, Value.nilFunc, Value.nilFunc, Value.nilFunc]) rfl rfl rfl rfl rfl rfl ?_
  intro W79 g80 eg80 r81 z82 b78
  replace b43 := Zu b43 b78; replace r10 := r10.up b78; replace b7 := Zu b7 b78; replace r4 := r4.up b78; replace b1 := Zu b1 b78; replace q := Zu q b78; replace hok := Zh hok b78; have y83 := hok.size
  refine ⟨hok, ?_⟩
  refine AA.one 0 (by kernel_rfl) ?_
  refine SR.call rfl (R.call rfl rfl rfl) rfl rfl (kinds_any _) ?_
  rintro e W85 ⟨g87, k88, rfl, h86, b84⟩
  have zb84 := b84.size; replace r81 := r81.up b84; replace b78 := Zu b78 b84; replace b43 := Zu b43 b84; replace r10 := r10.up b84; replace b7 := Zu b7 b84; replace r4 := r4.up b84; replace b1 := Zu b1 b84; replace q := Zu q b84; replace hok := Zh hok b84; have y89 := hok.size
  refine ⟨_, rfl, hok, ?_⟩
  refine AA.one 3 (by kernel_rfl) ?_
  (refine SR.val rfl (R.lookKT rfl rfl zKeys (by rfl) (z := kdZ) (by kernel_rfl) (by assumption) k rfl hkF) rfl rfl hok ?_)
  refine AA.pure 4 rfl hok (by kernel_rfl) (fun w' b' => R.move rfl rfl) rfl rfl ?_
  refine AA.pure 5 rfl hok (by kernel_rfl) (fun w' b' => R.extract rfl rfl rfl) rfl rfl ?_
  refine AA.pure 6 rfl hok (by kernel_rfl) (fun w' b' => R.extract rfl rfl rfl) rfl rfl ?_
  refine AA.one 8 (by kernel_rfl) ?_
  refine ZR.storeN (vs := [fnV f1, fnV f2, fnV f3, fnV f4]) rfl rfl rfl rfl rfl r81 (by exact Nat.le_of_ble_eq_true rfl) (ones_of rfl) rfl rfl ?_
  intro W91 r92 b90 z93
  have hlb90 := r81.lt
  replace r92 : RowL W91 _ 140 [fnV f1, fnV f2, fnV f3, fnV f4] := r92
  clear r81
  replace b78 := Zg b78 b90; replace b43 := Zg b43 b90; replace r10 := Zd r10 b90; replace b7 := Zg b7 b90; replace r4 := Zd r4 b90; replace b1 := Zg b1 b90; replace q := Zg q b90; replace hok := Zo hok b90
  have r81 := r92
  clear r92
  refine ⟨hok, ?_⟩
  refine AA.pure 9 rfl hok (by kernel_rfl) (fun w' b' => R.assign rfl rfl) rfl rfl ?_
  refine AA.done rfl ?_
  clear fzr10 fzr4 hok
  exact EE.weak (J35 _ _ ⟨_, rfl, (by first | assumption | omega), (by first | assumption | omega), (by first | assumption | omega), (by first | assumption | omega), (by first | assumption | omega), (by first | assumption | omega), (by first | assumption | omega), (by first | assumption | omega), (by first | assumption | omega)⟩) ⟨rfl, rfl, rfl, rfl, rfl, trivial⟩
theorem check_gL (k l z r p : Int) (t : Bs) (x : Option Addr) (n c : Nat) (w : World) (f1 f2 f3 f4 : Nat) (hkF : kindsF k = some (f1, f2, f3, f4)) (e1 : entB Tryz.prog f1 = true) (e2 : entB Tryz.prog f2 = true) (hl : l < 0 ∨ 65535 < l) : Calls Tryz.prog 117 #[inV k l z (.slice x n c) r p t] w fun e w' => e = .panicked (chain1 refV) ∧ Below w.heap.size w w' := by
  have q := Below.refl w.heap.size w
  refine X.fnP Tryz.func117 rfl (n := 38) rfl rfl ?_
  refine Zr ?_
  refine LL.box [.int .i64 k, .int .i64 l, .int .i64 z, .slice x n c, .int .i64 r, .int .i64 p, strV t] rfl rfl rfl rfl rfl ?_
  intro W2 g3 eg3 r4 z5 b1
  replace q := Zu q b1; have l6 := r4.lt
  refine LL.alloc ([Value.nilFunc, Value.nilFunc, Value.nilFunc, Value.nilFunc]) rfl rfl rfl rfl rfl ?_
  intro W8 g9 eg9 r10 z11 b7
  replace r4 := r4.up b7; replace b1 := Zu b1 b7; replace q := Zu q b7; refine Zq ?_; refine Zc ?_
  refine CC.join (fun l_ W30 => ∃ (g25 : Nat), l_ = [(0, Value.agg #[Value.int IntKind.i64 k, Value.int IntKind.i64 l, Value.int IntKind.i64 z, Value.slice x n c, Value.int IntKind.i64 r, Value.int IntKind.i64 p, strV t]), (1, Value.pointer (some { block := g3, off := 0 })), (2, Value.pointer (some { block := g9, off := 0 })), (3, Value.pointer (some { block := g25, off := 0 })), (4, Value.bool true)] ∧ (Below W8.heap.size W8 W30) ∧ (RowL W30 g9 140 [Value.nilFunc, Value.nilFunc, Value.nilFunc, Value.nilFunc]) ∧ (Below W2.heap.size W2 W30) ∧ (RowL W30 g3 80 [Value.int IntKind.i64 k, Value.int IntKind.i64 l, Value.int IntKind.i64 z, Value.slice x n c, Value.int IntKind.i64 r, Value.int IntKind.i64 p, strV t]) ∧ (Below w.heap.size w W30) ∧ (Below w.heap.size w W30) ∧ (RowL W30 g25 140 [fnV f1, fnV f2, fnV f3, fnV f4]) ∧ (W8.heap.size ≤ W30.heap.size) ∧ (W8.heap.size ≤ g25)) (fun J35 => ?_) ?restJ35
  case' restJ35 =>
    clear r10
    clear b7
    clear r4
    clear b1
    clear q
    rintro _ W30 ⟨g25, rfl, b12, r10, b7, r4, b1, q, r26, z33, z34⟩
  refine ZT ?_; refine Zr ?_; refine Zm ?_; refine Zt ?_; refine Zm ?_; refine Zf ?_; refine Zl r4 ?_
  refine Zy (R.call rfl rfl rfl) (within_F _ _ _ _ (by first | assumption | omega)) ?_
  rintro e W' ⟨rfl, rfl⟩
  refine ⟨_, rfl, ?_⟩; refine Zt ?_; refine Zp ?_
  refine LL.callP (R.call rfl rfl rfl) rfl rfl (refuse_T _) ?_
  rintro e W37 ⟨rfl, rfl⟩
  refine ⟨_, rfl, ?_⟩; refine EE.thenP ?_; refine EE.panM ?_
  exact ⟨rfl, q⟩
  refine CC.freeZ (fun W_ j => j < W_.heap.size ∧ (True)) (by kernel_rfl) (by kernel_rfl) (fun W39 b38 z40 => ?_)
  replace r10 := r10.up b38; replace b7 := Zu b7 b38; replace r4 := r4.up b38; replace b1 := Zu b1 b38; replace q := Zu q b38
  have hok : Kept (fun j => j < W39.heap.size ∧ (True)) W39 W39 := Kept.refl _ _
  have fzr10 := fzRow (K := fun j => j < W39.heap.size ∧ (True)) r10 ⟨r10.lt, (by first | trivial | omega)⟩
  have fzr4 := fzRow (K := fun j => j < W39.heap.size ∧ (True)) r4 ⟨r4.lt, (by first | trivial | omega)⟩
  refine AA.pure 1 rfl hok (by kernel_rfl) (fun w' b' => R.field rfl rfl (I.fld rfl)) rfl rfl ?_
  refine AA.pure 2 rfl hok (by kernel_rfl) (fun w' b' => R.load rfl rfl (I.ld1 rfl (RowL.cell (fzr4 w' b') rfl))) rfl rfl ?_
  refine AA.two 0 7 (by kernel_rfl) ?_ ?_
  refine SR.call rfl (R.call rfl rfl rfl) rfl rfl (kinds_any _) ?_
  rintro e W42 ⟨g44, k45, rfl, h43, b41⟩
  have zb41 := b41.size; replace b38 := Zu b38 b41; replace r10 := r10.up b41; replace b7 := Zu b7 b41; replace r4 := r4.up b41; replace b1 := Zu b1 b41; replace q := Zu q b41; replace hok := Zh hok b41; have y46 := hok.size
  refine ⟨_, rfl, hok, ?_⟩
  refine AA.two 3 7 (by kernel_rfl) ?_ ?_
  (refine SR.val rfl (R.lookKT rfl rfl zKeys (by rfl) (z := kdZ) (by kernel_rfl) (by assumption) k rfl hkF) rfl rfl hok ?_)
  refine AA.pure 4 rfl hok (by kernel_rfl) (fun w' b' => R.move rfl rfl) rfl rfl ?_
  refine AA.pure 5 rfl hok (by kernel_rfl) (fun w' b' => R.extract rfl rfl rfl) rfl rfl ?_
  refine AA.pure 6 rfl hok (by kernel_rfl) (fun w' b' => R.extract rfl rfl rfl) rfl rfl ?_
  refine AA.one 7 (by kernel_rfl) ?_
  have l47 := r10.lt; have l48 := r4.lt
  refine ZR.alloc ([Value.nilFunc, Value.nilFunc, Value.nilFunc, Value.nilFunc]) rfl rfl rfl rfl rfl rfl ?_
  intro W50 g51 eg51 r52 z53 b49
  replace h43 := h43.up b49; replace b41 := Zu b41 b49; replace b38 := Zu b38 b49; replace r10 := r10.up b49; replace b7 := Zu b7 b49; replace r4 := r4.up b49; replace b1 := Zu b1 b49; replace q := Zu q b49; replace hok := Zh hok b49; have y54 := hok.size
  refine ⟨hok, ?_⟩
  refine AA.one 8 (by kernel_rfl) ?_
  refine ZR.storeN (vs := [fnV f1, fnV f2, fnV f3, fnV f4]) rfl rfl rfl rfl rfl r52 (by exact Nat.le_of_ble_eq_true rfl) (ones_of rfl) rfl rfl ?_
  intro W56 r57 b55 z58
  have hlb55 := r52.lt
  replace r57 : RowL W56 _ 140 [fnV f1, fnV f2, fnV f3, fnV f4] := r57
  clear r52
  replace b49 := Zg b49 b55; replace b41 := Zg b41 b55; replace b38 := Zg b38 b55; replace r10 := Zd r10 b55; replace b7 := Zg b7 b55; replace r4 := Zd r4 b55; replace b1 := Zg b1 b55; replace q := Zg q b55; replace hok := Zo hok b55
  have r52 := r57
  clear r57
  refine ⟨hok, ?_⟩
  refine AA.pure 9 rfl hok (by kernel_rfl) (fun w' b' => R.assign rfl rfl) rfl rfl ?_
  refine AA.done rfl ?_
  clear fzr10 fzr4 hok
  exact EE.weak (J35 _ _ ⟨_, rfl, (by first | assumption | omega), (by first | assumption | omega), (by first | assumption | omega), (by first | assumption | omega), (by first | assumption | omega), (by first | assumption | omega), (by first | assumption | omega), (by first | assumption | omega), (by first | assumption | omega)⟩) ⟨rfl, rfl, rfl, rfl, rfl, trivial⟩
  have l59 := r10.lt; have l60 := r4.lt
  refine ZR.alloc ([Value.nilFunc, Value.nilFunc, Value.nilFunc, Value.nilFunc]) rfl rfl rfl rfl rfl rfl ?_
  intro W62 g63 eg63 r64 z65 b61
  replace h43 := h43.up b61; replace b41 := Zu b41 b61; replace b38 := Zu b38 b61; replace r10 := r10.up b61; replace b7 := Zu b7 b61; replace r4 := r4.up b61; replace b1 := Zu b1 b61; replace q := Zu q b61; replace hok := Zh hok b61; have y66 := hok.size
  refine ⟨hok, ?_⟩
  refine AA.one 3 (by kernel_rfl) ?_
  (refine SR.val rfl (R.lookKT rfl rfl zKeys (by rfl) (z := kdZ) (by kernel_rfl) (by assumption) k rfl hkF) rfl rfl hok ?_)
  refine AA.pure 4 rfl hok (by kernel_rfl) (fun w' b' => R.move rfl rfl) rfl rfl ?_
  refine AA.pure 5 rfl hok (by kernel_rfl) (fun w' b' => R.extract rfl rfl rfl) rfl rfl ?_
  refine AA.pure 6 rfl hok (by kernel_rfl) (fun w' b' => R.extract rfl rfl rfl) rfl rfl ?_
  refine AA.one 8 (by kernel_rfl) ?_
  refine ZR.storeN (vs := [fnV f1, fnV f2, fnV f3, fnV f4]) rfl rfl rfl rfl rfl r64 (by exact Nat.le_of_ble_eq_true rfl) (ones_of rfl) rfl rfl ?_
  intro W68 r69 b67 z70
  have hlb67 := r64.lt
  replace r69 : RowL W68 _ 140 [fnV f1, fnV f2, fnV f3, fnV f4] := r69
  clear r64
  replace b61 := Zg b61 b67; replace b41 := Zg b41 b67; replace b38 := Zg b38 b67; replace r10 := Zd r10 b67; replace b7 := Zg b7 b67; replace r4 := Zd r4 b67; replace b1 := Zg b1 b67; replace q := Zg q b67; replace hok := Zo hok b67
  have r64 := r69
  clear r69
  refine ⟨hok, ?_⟩
  refine AA.pure 9 rfl hok (by kernel_rfl) (fun w' b' => R.assign rfl rfl) rfl rfl ?_
  refine AA.done rfl ?_
  clear fzr10 fzr4 hok
  exact EE.weak (J35 _ _ ⟨_, rfl, (by first | assumption | omega), (by first | assumption | omega), (by first | assumption | omega), (by first | assumption | omega), (by first | assumption | omega), (by first | assumption | omega), (by first | assumption | omega), (by first | assumption | omega), (by first | assumption | omega)⟩) ⟨rfl, rfl, rfl, rfl, rfl, trivial⟩
  have l71 := r10.lt; have l72 := r4.lt
  refine ZR.alloc ([Value.nilFunc, Value.nilFunc, Value.nilFunc, Value.nilFunc]) rfl rfl rfl rfl rfl rfl ?_
  intro W74 g75 eg75 r76 z77 b73
  replace b38 := Zu b38 b73; replace r10 := r10.up b73; replace b7 := Zu b7 b73; replace r4 := r4.up b73; replace b1 := Zu b1 b73; replace q := Zu q b73; replace hok := Zh hok b73; have y78 := hok.size
  refine ⟨hok, ?_⟩
  refine AA.one 0 (by kernel_rfl) ?_
  refine SR.call rfl (R.call rfl rfl rfl) rfl rfl (kinds_any _) ?_
  rintro e W80 ⟨g82, k83, rfl, h81, b79⟩
  have zb79 := b79.size; replace r76 := r76.up b79; replace b73 := Zu b73 b79; replace b38 := Zu b38 b79; replace r10 := r10.up b79; replace b7 := Zu b7 b79; replace r4 := r4.up b79; replace b1 := Zu b1 b79; replace q := Zu q b79; replace hok := Zh hok b79; have y84 := hok.size
  refine ⟨_, rfl, hok, ?_⟩
  refine AA.one 3 (by kernel_rfl) ?_
  (refine SR.val rfl (R.lookKT rfl rfl zKeys (by rfl) (z := kdZ) (by kernel_rfl) (by assumption) k rfl hkF) rfl rfl hok ?_)
  refine AA.pure 4 rfl hok (by kernel_rfl) (fun w' b' => R.move rfl rfl) rfl rfl ?_
  refine AA.pure 5 rfl hok (by kernel_rfl) (fun w' b' => R.extract rfl rfl rfl) rfl rfl ?_
  refine AA.pure 6 rfl hok (by kernel_rfl) (fun w' b' => R.extract rfl rfl rfl) rfl rfl ?_
  refine AA.one 8 (by kernel_rfl) ?_
  refine ZR.storeN (vs := [fnV f1, fnV f2, fnV f3, fnV f4]) rfl rfl rfl rfl rfl r76 (by exact Nat.le_of_ble_eq_true rfl) (ones_of rfl) rfl rfl ?_
  intro W86 r87 b85 z88
  have hlb85 := r76.lt
  replace r87 : RowL W86 _ 140 [fnV f1, fnV f2, fnV f3, fnV f4] := r87
  clear r76
  replace b73 := Zg b73 b85; replace b38 := Zg b38 b85; replace r10 := Zd r10 b85; replace b7 := Zg b7 b85; replace r4 := Zd r4 b85; replace b1 := Zg b1 b85; replace q := Zg q b85; replace hok := Zo hok b85
  have r76 := r87
  clear r87
  refine ⟨hok, ?_⟩
  refine AA.pure 9 rfl hok (by kernel_rfl) (fun w' b' => R.assign rfl rfl) rfl rfl ?_
  refine AA.done rfl ?_
  clear fzr10 fzr4 hok
  exact EE.weak (J35 _ _ ⟨_, rfl, (by first | assumption | omega), (by first | assumption | omega), (by first | assumption | omega), (by first | assumption | omega), (by first | assumption | omega), (by first | assumption | omega), (by first | assumption | omega), (by first | assumption | omega), (by first | assumption | omega)⟩) ⟨rfl, rfl, rfl, rfl, rfl, trivial⟩
theorem check0_T (x : Option Addr) (n c : Nat) (m : List Ex) (w : World) (hv : ReadsT eE 3 w (.slice x n c) m) (hlen : m.length ≤ 1048576) (hm0 : m = []) : Calls Tryz.prog 117 #[inV 0 0 0 (.slice x n c) 0 0 []] w fun e w' => e = .returned (kdV kd0) ∧ Below w.heap.size w w' := by
  have hsm : true = true ↔ sameI 0 0 0 m 0 0 [] 0 0 0 [] 0 0 [] := ⟨fun _ => ⟨rfl, rfl, rfl, hm0, rfl, rfl, rfl⟩, fun _ => rfl⟩
  exact check_gT 0 0 0 0 0 [] x n c w _ _ _ _ kF_0 (by kernel_rfl) (by kernel_rfl) 0 0 0 0 0 [] none 0 0 (fun W => nm0_any 0 0 0 (.slice x n c) 0 0 [] W) (by decide) (fun W b => insame_any 0 0 0 (.slice x n c) m 0 0 [] 0 0 0 (.slice none 0 0) [] 0 0 [] W (hv.up b) (ReadsT.nil _) hlen (by decide) true hsm) (fun W _ => my0_any _ _ _ _ _ _ _ W ⟨_, _, _, rfl⟩)
theorem check1_T (l z : Int) (x : Option Addr) (n c : Nat) (m : List Ex) (w : World) (hv : ReadsT eE 3 w (.slice x n c) m) (hl : 0 ≤ l ∧ l ≤ 65535) (h : okF z m) : Calls Tryz.prog 117 #[inV 1 l z (.slice x n c) 0 0 []] w fun e w' => e = .returned (kdV kd1) ∧ Below w.heap.size w w' := by
  have hlen : m.length ≤ 1048576 := by have := h.2.1.1; omega
  have hsm : true = true ↔ sameI 1 l z m 0 0 [] 1 l z m 0 0 [] := ⟨fun _ => ⟨rfl, rfl, rfl, rfl, rfl, rfl, rfl⟩, fun _ => rfl⟩
  exact check_gT 1 l z 0 0 [] x n c w _ _ _ _ kF_1 (by kernel_rfl) (by kernel_rfl) 1 l z 0 0 [] x n c (fun W => nm1_any 1 l z (.slice x n c) 0 0 [] W ⟨_, _, _, rfl⟩) hl (fun W b => insame_any 1 l z (.slice x n c) m 0 0 [] 1 l z (.slice x n c) m 0 0 [] W (hv.up b) (hv.up b) hlen hlen true hsm) (fun W b => my1_any _ _ _ _ _ _ _ _ _ m W (hv.up b) h.1 h.2.1 true ⟨fun _ => h.2.2, fun _ => rfl⟩)
theorem check2_T (l r p : Int) (x : Option Addr) (n c : Nat) (m : List Ex) (w : World) (hv : ReadsT eE 3 w (.slice x n c) m) (hlen : m.length ≤ 1048576) (hm0 : m = []) (hl : 0 ≤ l ∧ l ≤ 65535) (hmy : (1 ≤ r ∧ r ≤ 2047) ∧ 1 ≤ p ∧ p ≤ 256) : Calls Tryz.prog 117 #[inV 2 l 0 (.slice x n c) r p []] w fun e w' => e = .returned (kdV kd2) ∧ Below w.heap.size w w' := by
  have hsm : true = true ↔ sameI 2 l 0 m r p [] 2 l 0 [] r p [] := ⟨fun _ => ⟨rfl, rfl, rfl, hm0, rfl, rfl, rfl⟩, fun _ => rfl⟩
  exact check_gT 2 l 0 r p [] x n c w _ _ _ _ kF_2 (by kernel_rfl) (by kernel_rfl) 2 l 0 r p [] none 0 0 (fun W => nm2_any 2 l 0 (.slice x n c) r p [] W ⟨_, _, _, rfl⟩) hl (fun W b => insame_any 2 l 0 (.slice x n c) m r p [] 2 l 0 (.slice none 0 0) [] r p [] W (hv.up b) (ReadsT.nil _) hlen (by decide) true hsm) (fun W _ => my2_T _ _ _ _ _ _ _ W ⟨_, _, _, rfl⟩ hmy)
theorem check3_T (l : Int) (t : Bs) (x : Option Addr) (n c : Nat) (m : List Ex) (w : World) (hv : ReadsT eE 3 w (.slice x n c) m) (hlen : m.length ≤ 1048576) (hm0 : m = []) (hl : 0 ≤ l ∧ l ≤ 65535) (hmy : (1 ≤ t.length ∧ t.length ≤ 112) ∧ (0 : UInt8) ∉ t) : Calls Tryz.prog 117 #[inV 3 l 0 (.slice x n c) 0 0 t] w fun e w' => e = .returned (kdV kd3) ∧ Below w.heap.size w w' := by
  have hsm : true = true ↔ sameI 3 l 0 m 0 0 t 3 l 0 [] 0 0 t := ⟨fun _ => ⟨rfl, rfl, rfl, hm0, rfl, rfl, rfl⟩, fun _ => rfl⟩
  exact check_gT 3 l 0 0 0 t x n c w _ _ _ _ kF_3 (by kernel_rfl) (by kernel_rfl) 3 l 0 0 0 t none 0 0 (fun W => nm3_any 3 l 0 (.slice x n c) 0 0 t W ⟨_, _, _, rfl⟩) hl (fun W b => insame_any 3 l 0 (.slice x n c) m 0 0 t 3 l 0 (.slice none 0 0) [] 0 0 t W (hv.up b) (ReadsT.nil _) hlen (by decide) true hsm) (fun W _ => my3_T _ _ _ _ _ _ _ W ⟨_, _, _, rfl⟩ hmy)
theorem checkK_F (k l z r p : Int) (t : Bs) (x : Option Addr) (n c : Nat) (m : List Ex) (w : World) (hv : ReadsT eE 3 w (.slice x n c) m) (hlen : m.length ≤ 1048576) (hk : k < 0 ∨ 3 < k) : Calls Tryz.prog 117 #[inV k l z (.slice x n c) r p t] w fun e w' => e = .panicked (chain1 refV) ∧ Below w.heap.size w w' := by
  have q := Below.refl w.heap.size w
  have kN := kinds_none hk
  refine X.fnP Tryz.func117 rfl (n := 38) rfl rfl ?_
  refine Zr ?_
  refine LL.box [.int .i64 k, .int .i64 l, .int .i64 z, .slice x n c, .int .i64 r, .int .i64 p, strV t] rfl rfl rfl rfl rfl ?_
  intro W2 g3 eg3 r4 z5 b1
  replace hv := hv.up b1; replace q := Zu q b1; have l6 := r4.lt
  refine LL.alloc ([Value.nilFunc, Value.nilFunc, Value.nilFunc, Value.nilFunc]) rfl rfl rfl rfl rfl ?_
  intro W8 g9 eg9 r10 z11 b7
  replace r4 := r4.up b7; replace b1 := Zu b1 b7; replace hv := hv.up b7; replace q := Zu q b7; refine Zq ?_; refine Zc ?_
  refine CC.join (fun l_ W30 => ∃ (g25 : Nat), l_ = [(0, Value.agg #[Value.int IntKind.i64 k, Value.int IntKind.i64 l, Value.int IntKind.i64 z, Value.slice x n c, Value.int IntKind.i64 r, Value.int IntKind.i64 p, strV t]), (1, Value.pointer (some { block := g3, off := 0 })), (2, Value.pointer (some { block := g9, off := 0 })), (3, Value.pointer (some { block := g25, off := 0 })), (4, Value.bool false)] ∧ (Below W8.heap.size W8 W30) ∧ (RowL W30 g9 140 [Value.nilFunc, Value.nilFunc, Value.nilFunc, Value.nilFunc]) ∧ (Below W2.heap.size W2 W30) ∧ (RowL W30 g3 80 [Value.int IntKind.i64 k, Value.int IntKind.i64 l, Value.int IntKind.i64 z, Value.slice x n c, Value.int IntKind.i64 r, Value.int IntKind.i64 p, strV t]) ∧ (Below w.heap.size w W30) ∧ (Below w.heap.size w W30) ∧ (RowL W30 g25 140 [Value.nilFunc, Value.nilFunc, Value.nilFunc, Value.nilFunc]) ∧ (W8.heap.size ≤ W30.heap.size) ∧ (W8.heap.size ≤ g25)) (fun J35 => ?_) ?restJ35
  case' restJ35 =>
    clear r10
    clear b7
    clear r4
    clear b1
    clear q
    rintro _ W30 ⟨g25, rfl, b12, r10, b7, r4, b1, q, r26, z33, z34⟩
  refine ZT ?_; refine Zr ?_; refine Zm ?_; refine Zt ?_; refine Zm ?_; refine Zs ?_; refine Zs ?_; refine Zs ?_; refine Zs ?_; refine Zp ?_
  refine LL.callP (R.call rfl rfl rfl) rfl rfl (refuse_T _) ?_
  rintro e W37 ⟨rfl, rfl⟩
  refine ⟨_, rfl, ?_⟩; refine EE.thenP ?_; refine EE.panM ?_
  exact ⟨rfl, q⟩
  refine CC.freeZ (fun W_ j => j < W_.heap.size ∧ (True)) (by kernel_rfl) (by kernel_rfl) (fun W39 b38 z40 => ?_)
  replace r10 := r10.up b38; replace b7 := Zu b7 b38; replace r4 := r4.up b38; replace b1 := Zu b1 b38; replace hv := hv.up b38; replace q := Zu q b38
  have hok : Kept (fun j => j < W39.heap.size ∧ (True)) W39 W39 := Kept.refl _ _
  have fzr10 := fzRow (K := fun j => j < W39.heap.size ∧ (True)) r10 ⟨r10.lt, (by first | trivial | omega)⟩
  have fzr4 := fzRow (K := fun j => j < W39.heap.size ∧ (True)) r4 ⟨r4.lt, (by first | trivial | omega)⟩
  refine AA.pure 1 rfl hok (by kernel_rfl) (fun w' b' => R.field rfl rfl (I.fld rfl)) rfl rfl ?_
  refine AA.pure 2 rfl hok (by kernel_rfl) (fun w' b' => R.load rfl rfl (I.ld1 rfl (RowL.cell (fzr4 w' b') rfl))) rfl rfl ?_
  refine AA.two 0 7 (by kernel_rfl) ?_ ?_
  refine SR.call rfl (R.call rfl rfl rfl) rfl rfl (kinds_any _) ?_
  rintro e W42 ⟨g44, k45, rfl, h43, b41⟩
  have zb41 := b41.size; replace b38 := Zu b38 b41; replace r10 := r10.up b41; replace b7 := Zu b7 b41; replace r4 := r4.up b41; replace b1 := Zu b1 b41; replace hv := hv.up b41; replace q := Zu q b41; replace hok := Zh hok b41; have y46 := hok.size
  refine ⟨_, rfl, hok, ?_⟩
  refine AA.two 3 7 (by kernel_rfl) ?_ ?_
  (refine SR.val rfl (R.lookKF rfl rfl zKeys (by rfl) (z := kdZ) (by kernel_rfl) (by assumption) k rfl kN) rfl rfl hok ?_)
  refine AA.pure 4 rfl hok (by kernel_rfl) (fun w' b' => R.move rfl rfl) rfl rfl ?_
  refine AA.pure 5 rfl hok (by kernel_rfl) (fun w' b' => R.extract rfl rfl rfl) rfl rfl ?_
  refine AA.pure 6 rfl hok (by kernel_rfl) (fun w' b' => R.extract rfl rfl rfl) rfl rfl ?_
  refine AA.one 7 (by kernel_rfl) ?_
  have l47 := r10.lt; have l48 := r4.lt
  refine ZR.alloc ([Value.nilFunc, Value.nilFunc, Value.nilFunc, Value.nilFunc]) rfl rfl rfl rfl rfl rfl ?_
  intro W50 g51 eg51 r52 z53 b49
  replace h43 := h43.up b49; replace b41 := Zu b41 b49; replace b38 := Zu b38 b49; replace r10 := r10.up b49; replace b7 := Zu b7 b49; replace r4 := r4.up b49; replace b1 := Zu b1 b49; replace hv := hv.up b49; replace q := Zu q b49; replace hok := Zh hok b49; have y54 := hok.size
  refine ⟨hok, ?_⟩
  refine AA.one 8 (by kernel_rfl) ?_
  refine ZR.storeN (vs := [Value.nilFunc, Value.nilFunc, Value.nilFunc, Value.nilFunc]) rfl rfl rfl rfl rfl r52 (by exact Nat.le_of_ble_eq_true rfl) (ones_of rfl) rfl rfl ?_
  intro W56 r57 b55 z58
  have hlb55 := r52.lt
  replace r57 : RowL W56 _ 140 [Value.nilFunc, Value.nilFunc, Value.nilFunc, Value.nilFunc] := r57
  clear r52
  replace b49 := Zg b49 b55; replace b41 := Zg b41 b55; replace b38 := Zg b38 b55; replace r10 := Zd r10 b55; replace b7 := Zg b7 b55; replace r4 := Zd r4 b55; replace b1 := Zg b1 b55; replace q := Zg q b55; replace hok := Zo hok b55
  have r52 := r57
  clear r57
  refine ⟨hok, ?_⟩
  refine AA.pure 9 rfl hok (by kernel_rfl) (fun w' b' => R.assign rfl rfl) rfl rfl ?_
  refine AA.done rfl ?_
  clear fzr10 fzr4 hok
  exact EE.weak (J35 _ _ ⟨_, rfl, (by first | assumption | omega), (by first | assumption | omega), (by first | assumption | omega), (by first | assumption | omega), (by first | assumption | omega), (by first | assumption | omega), (by first | assumption | omega), (by first | assumption | omega), (by first | assumption | omega)⟩) ⟨rfl, rfl, rfl, rfl, rfl, trivial⟩
  have l59 := r10.lt; have l60 := r4.lt
  refine ZR.alloc ([Value.nilFunc, Value.nilFunc, Value.nilFunc, Value.nilFunc]) rfl rfl rfl rfl rfl rfl ?_
  intro W62 g63 eg63 r64 z65 b61
  replace h43 := h43.up b61; replace b41 := Zu b41 b61; replace b38 := Zu b38 b61; replace r10 := r10.up b61; replace b7 := Zu b7 b61; replace r4 := r4.up b61; replace b1 := Zu b1 b61; replace hv := hv.up b61; replace q := Zu q b61; replace hok := Zh hok b61; have y66 := hok.size
  refine ⟨hok, ?_⟩
  refine AA.one 3 (by kernel_rfl) ?_
  (refine SR.val rfl (R.lookKF rfl rfl zKeys (by rfl) (z := kdZ) (by kernel_rfl) (by assumption) k rfl kN) rfl rfl hok ?_)
  refine AA.pure 4 rfl hok (by kernel_rfl) (fun w' b' => R.move rfl rfl) rfl rfl ?_
  refine AA.pure 5 rfl hok (by kernel_rfl) (fun w' b' => R.extract rfl rfl rfl) rfl rfl ?_
  refine AA.pure 6 rfl hok (by kernel_rfl) (fun w' b' => R.extract rfl rfl rfl) rfl rfl ?_
  refine AA.one 8 (by kernel_rfl) ?_
  refine ZR.storeN (vs := [Value.nilFunc, Value.nilFunc, Value.nilFunc, Value.nilFunc]) rfl rfl rfl rfl rfl r64 (by exact Nat.le_of_ble_eq_true rfl) (ones_of rfl) rfl rfl ?_
  intro W68 r69 b67 z70
  have hlb67 := r64.lt
  replace r69 : RowL W68 _ 140 [Value.nilFunc, Value.nilFunc, Value.nilFunc, Value.nilFunc] := r69
  clear r64
  replace b61 := Zg b61 b67; replace b41 := Zg b41 b67; replace b38 := Zg b38 b67; replace r10 := Zd r10 b67; replace b7 := Zg b7 b67; replace r4 := Zd r4 b67; replace b1 := Zg b1 b67; replace q := Zg q b67; replace hok := Zo hok b67
  have r64 := r69
  clear r69
  refine ⟨hok, ?_⟩
  refine AA.pure 9 rfl hok (by kernel_rfl) (fun w' b' => R.assign rfl rfl) rfl rfl ?_
  refine AA.done rfl ?_
  clear fzr10 fzr4 hok
  exact EE.weak (J35 _ _ ⟨_, rfl, (by first | assumption | omega), (by first | assumption | omega), (by first | assumption | omega), (by first | assumption | omega), (by first | assumption | omega), (by first | assumption | omega), (by first | assumption | omega), (by first | assumption | omega), (by first | assumption | omega)⟩) ⟨rfl, rfl, rfl, rfl, rfl, trivial⟩
  have l71 := r10.lt; have l72 := r4.lt
  refine ZR.alloc ([Value.nilFunc, Value.nilFunc, Value.nilFunc, Value.nilFunc]) rfl rfl rfl rfl rfl rfl ?_
  intro W74 g75 eg75 r76 z77 b73
  replace b38 := Zu b38 b73; replace r10 := r10.up b73; replace b7 := Zu b7 b73; replace r4 := r4.up b73; replace b1 := Zu b1 b73; replace hv := hv.up b73; replace q := Zu q b73; replace hok := Zh hok b73; have y78 := hok.size
  refine ⟨hok, ?_⟩
  refine AA.one 0 (by kernel_rfl) ?_
  refine SR.call rfl (R.call rfl rfl rfl) rfl rfl (kinds_any _) ?_
  rintro e W80 ⟨g82, k83, rfl, h81, b79⟩
  have zb79 := b79.size; replace r76 := r76.up b79; replace b73 := Zu b73 b79; replace b38 := Zu b38 b79; replace r10 := r10.up b79; replace b7 := Zu b7 b79; replace r4 := r4.up b79; replace b1 := Zu b1 b79; replace hv := hv.up b79; replace q := Zu q b79; replace hok := Zh hok b79; have y84 := hok.size
  refine ⟨_, rfl, hok, ?_⟩
  refine AA.one 3 (by kernel_rfl) ?_
  (refine SR.val rfl (R.lookKF rfl rfl zKeys (by rfl) (z := kdZ) (by kernel_rfl) (by assumption) k rfl kN) rfl rfl hok ?_)
  refine AA.pure 4 rfl hok (by kernel_rfl) (fun w' b' => R.move rfl rfl) rfl rfl ?_
  refine AA.pure 5 rfl hok (by kernel_rfl) (fun w' b' => R.extract rfl rfl rfl) rfl rfl ?_
  refine AA.pure 6 rfl hok (by kernel_rfl) (fun w' b' => R.extract rfl rfl rfl) rfl rfl ?_
  refine AA.one 8 (by kernel_rfl) ?_
  refine ZR.storeN (vs := [Value.nilFunc, Value.nilFunc, Value.nilFunc, Value.nilFunc]) rfl rfl rfl rfl rfl r76 (by exact Nat.le_of_ble_eq_true rfl) (ones_of rfl) rfl rfl ?_
  intro W86 r87 b85 z88
  have hlb85 := r76.lt
  replace r87 : RowL W86 _ 140 [Value.nilFunc, Value.nilFunc, Value.nilFunc, Value.nilFunc] := r87
  clear r76
  replace b73 := Zg b73 b85; replace b38 := Zg b38 b85; replace r10 := Zd r10 b85; replace b7 := Zg b7 b85; replace r4 := Zd r4 b85; replace b1 := Zg b1 b85; replace q := Zg q b85; replace hok := Zo hok b85
  have r76 := r87
  clear r87
  refine ⟨hok, ?_⟩
  refine AA.pure 9 rfl hok (by kernel_rfl) (fun w' b' => R.assign rfl rfl) rfl rfl ?_
  refine AA.done rfl ?_
  clear fzr10 fzr4 hok
  exact EE.weak (J35 _ _ ⟨_, rfl, (by first | assumption | omega), (by first | assumption | omega), (by first | assumption | omega), (by first | assumption | omega), (by first | assumption | omega), (by first | assumption | omega), (by first | assumption | omega), (by first | assumption | omega), (by first | assumption | omega)⟩) ⟨rfl, rfl, rfl, rfl, rfl, trivial⟩
theorem check0_L (l z r p : Int) (t : Bs) (x : Option Addr) (n c : Nat) (m : List Ex) (w : World) (hv : ReadsT eE 3 w (.slice x n c) m) (hlen : m.length ≤ 1048576) (hl : l < 0 ∨ 65535 < l) : Calls Tryz.prog 117 #[inV 0 l z (.slice x n c) r p t] w fun e w' => e = .panicked (chain1 refV) ∧ Below w.heap.size w w' :=
  check_gL 0 l z r p t x n c w _ _ _ _ kF_0 (by kernel_rfl) (by kernel_rfl) hl
theorem check0_N (l z r p : Int) (t : Bs) (x : Option Addr) (n c : Nat) (m : List Ex) (w : World) (hv : ReadsT eE 3 w (.slice x n c) m) (hlen : m.length ≤ 1048576) (hl : 0 ≤ l ∧ l ≤ 65535) (hn : ¬sameI 0 l z m r p t 0 0 0 [] 0 0 []) : Calls Tryz.prog 117 #[inV 0 l z (.slice x n c) r p t] w fun e w' => e = .panicked (chain1 refV) ∧ Below w.heap.size w w' := by
  have hsm : false = true ↔ sameI 0 l z m r p t 0 0 0 [] 0 0 [] := ⟨fun h => (by cases h), fun h => absurd h hn⟩
  exact check_gN 0 l z r p t x n c w _ _ _ _ kF_0 (by kernel_rfl) (by kernel_rfl) 0 0 0 0 0 [] none 0 0 (fun W => nm0_any 0 l z (.slice x n c) r p t W) hl (fun W b => insame_any 0 l z (.slice x n c) m r p t 0 0 0 (.slice none 0 0) [] 0 0 [] W (hv.up b) (ReadsT.nil _) hlen (by decide) false hsm)
theorem check1_L (l z r p : Int) (t : Bs) (x : Option Addr) (n c : Nat) (m : List Ex) (w : World) (hv : ReadsT eE 3 w (.slice x n c) m) (hlen : m.length ≤ 1048576) (hl : l < 0 ∨ 65535 < l) : Calls Tryz.prog 117 #[inV 1 l z (.slice x n c) r p t] w fun e w' => e = .panicked (chain1 refV) ∧ Below w.heap.size w w' :=
  check_gL 1 l z r p t x n c w _ _ _ _ kF_1 (by kernel_rfl) (by kernel_rfl) hl
theorem check1_N (l z r p : Int) (t : Bs) (x : Option Addr) (n c : Nat) (m : List Ex) (w : World) (hv : ReadsT eE 3 w (.slice x n c) m) (hlen : m.length ≤ 1048576) (hl : 0 ≤ l ∧ l ≤ 65535) (hn : ¬sameI 1 l z m r p t 1 l z m 0 0 []) : Calls Tryz.prog 117 #[inV 1 l z (.slice x n c) r p t] w fun e w' => e = .panicked (chain1 refV) ∧ Below w.heap.size w w' := by
  have hsm : false = true ↔ sameI 1 l z m r p t 1 l z m 0 0 [] := ⟨fun h => (by cases h), fun h => absurd h hn⟩
  exact check_gN 1 l z r p t x n c w _ _ _ _ kF_1 (by kernel_rfl) (by kernel_rfl) 1 l z 0 0 [] x n c (fun W => nm1_any 1 l z (.slice x n c) r p t W ⟨_, _, _, rfl⟩) hl (fun W b => insame_any 1 l z (.slice x n c) m r p t 1 l z (.slice x n c) m 0 0 [] W (hv.up b) (hv.up b) hlen hlen false hsm)
theorem check2_L (l z r p : Int) (t : Bs) (x : Option Addr) (n c : Nat) (m : List Ex) (w : World) (hv : ReadsT eE 3 w (.slice x n c) m) (hlen : m.length ≤ 1048576) (hl : l < 0 ∨ 65535 < l) : Calls Tryz.prog 117 #[inV 2 l z (.slice x n c) r p t] w fun e w' => e = .panicked (chain1 refV) ∧ Below w.heap.size w w' :=
  check_gL 2 l z r p t x n c w _ _ _ _ kF_2 (by kernel_rfl) (by kernel_rfl) hl
theorem check2_N (l z r p : Int) (t : Bs) (x : Option Addr) (n c : Nat) (m : List Ex) (w : World) (hv : ReadsT eE 3 w (.slice x n c) m) (hlen : m.length ≤ 1048576) (hl : 0 ≤ l ∧ l ≤ 65535) (hn : ¬sameI 2 l z m r p t 2 l 0 [] r p []) : Calls Tryz.prog 117 #[inV 2 l z (.slice x n c) r p t] w fun e w' => e = .panicked (chain1 refV) ∧ Below w.heap.size w w' := by
  have hsm : false = true ↔ sameI 2 l z m r p t 2 l 0 [] r p [] := ⟨fun h => (by cases h), fun h => absurd h hn⟩
  exact check_gN 2 l z r p t x n c w _ _ _ _ kF_2 (by kernel_rfl) (by kernel_rfl) 2 l 0 r p [] none 0 0 (fun W => nm2_any 2 l z (.slice x n c) r p t W ⟨_, _, _, rfl⟩) hl (fun W b => insame_any 2 l z (.slice x n c) m r p t 2 l 0 (.slice none 0 0) [] r p [] W (hv.up b) (ReadsT.nil _) hlen (by decide) false hsm)
theorem check3_L (l z r p : Int) (t : Bs) (x : Option Addr) (n c : Nat) (m : List Ex) (w : World) (hv : ReadsT eE 3 w (.slice x n c) m) (hlen : m.length ≤ 1048576) (hl : l < 0 ∨ 65535 < l) : Calls Tryz.prog 117 #[inV 3 l z (.slice x n c) r p t] w fun e w' => e = .panicked (chain1 refV) ∧ Below w.heap.size w w' :=
  check_gL 3 l z r p t x n c w _ _ _ _ kF_3 (by kernel_rfl) (by kernel_rfl) hl
theorem check3_N (l z r p : Int) (t : Bs) (x : Option Addr) (n c : Nat) (m : List Ex) (w : World) (hv : ReadsT eE 3 w (.slice x n c) m) (hlen : m.length ≤ 1048576) (hl : 0 ≤ l ∧ l ≤ 65535) (hn : ¬sameI 3 l z m r p t 3 l 0 [] 0 0 t) : Calls Tryz.prog 117 #[inV 3 l z (.slice x n c) r p t] w fun e w' => e = .panicked (chain1 refV) ∧ Below w.heap.size w w' := by
  have hsm : false = true ↔ sameI 3 l z m r p t 3 l 0 [] 0 0 t := ⟨fun h => (by cases h), fun h => absurd h hn⟩
  exact check_gN 3 l z r p t x n c w _ _ _ _ kF_3 (by kernel_rfl) (by kernel_rfl) 3 l 0 0 0 t none 0 0 (fun W => nm3_any 3 l z (.slice x n c) r p t W ⟨_, _, _, rfl⟩) hl (fun W b => insame_any 3 l z (.slice x n c) m r p t 3 l 0 (.slice none 0 0) [] 0 0 t W (hv.up b) (ReadsT.nil _) hlen (by decide) false hsm)
theorem check1_M (l z : Int) (x : Option Addr) (n c : Nat) (m : List Ex) (w : World) (hv : ReadsT eE 3 w (.slice x n c) m) (hlen : m.length ≤ 1048576) (hl : 0 ≤ l ∧ l ≤ 65535) (hn : ¬okF z m) : Calls Tryz.prog 117 #[inV 1 l z (.slice x n c) 0 0 []] w fun e w' => e = .panicked (chain1 refV) ∧ Below w.heap.size w w' := by
  have hsm : true = true ↔ sameI 1 l z m 0 0 [] 1 l z m 0 0 [] := ⟨fun _ => ⟨rfl, rfl, rfl, rfl, rfl, rfl, rfl⟩, fun _ => rfl⟩
  have hmy : ∀ W, Below w.heap.size w W → Calls Tryz.prog 101 #[inV 1 l z (.slice x n c) 0 0 []] W fun e w' => e = .returned (.bool false) ∧ Below W.heap.size W w' := fun W b => by
    by_cases hz : 0 ≤ z ∧ z ≤ 65536
    · by_cases hm : vL m
      · exact my1_any _ _ _ _ _ _ _ _ _ m W (hv.up b) hz hm false ⟨fun h => (by cases h), fun h => absurd ⟨hz, hm, h⟩ hn⟩
      · exact my1_bad _ _ _ _ _ _ _ _ _ m W (hv.up b) hlen (.inr (.inr hm))
    · exact my1_bad _ _ _ _ _ _ _ _ _ m W (hv.up b) hlen (by omega)
  exact check_gM 1 l z 0 0 [] x n c w _ _ _ _ kF_1 (by kernel_rfl) (by kernel_rfl) 1 l z 0 0 [] x n c (fun W => nm1_any 1 l z (.slice x n c) 0 0 [] W ⟨_, _, _, rfl⟩) hl (fun W b => insame_any 1 l z (.slice x n c) m 0 0 [] 1 l z (.slice x n c) m 0 0 [] W (hv.up b) (hv.up b) hlen hlen true hsm) hmy
theorem check2_M (l r p : Int) (x : Option Addr) (n c : Nat) (m : List Ex) (w : World) (hv : ReadsT eE 3 w (.slice x n c) m) (hlen : m.length ≤ 1048576) (hm0 : m = []) (hl : 0 ≤ l ∧ l ≤ 65535) (hmy : ¬((1 ≤ r ∧ r ≤ 2047) ∧ 1 ≤ p ∧ p ≤ 256)) : Calls Tryz.prog 117 #[inV 2 l 0 (.slice x n c) r p []] w fun e w' => e = .panicked (chain1 refV) ∧ Below w.heap.size w w' := by
  have hsm : true = true ↔ sameI 2 l 0 m r p [] 2 l 0 [] r p [] := ⟨fun _ => ⟨rfl, rfl, rfl, hm0, rfl, rfl, rfl⟩, fun _ => rfl⟩
  exact check_gM 2 l 0 r p [] x n c w _ _ _ _ kF_2 (by kernel_rfl) (by kernel_rfl) 2 l 0 r p [] none 0 0 (fun W => nm2_any 2 l 0 (.slice x n c) r p [] W ⟨_, _, _, rfl⟩) hl (fun W b => insame_any 2 l 0 (.slice x n c) m r p [] 2 l 0 (.slice none 0 0) [] r p [] W (hv.up b) (ReadsT.nil _) hlen (by decide) true hsm) (fun W _ => my2_F _ _ _ _ _ _ _ W ⟨_, _, _, rfl⟩ hmy)
theorem check3_M (l : Int) (t : Bs) (x : Option Addr) (n c : Nat) (m : List Ex) (w : World) (hv : ReadsT eE 3 w (.slice x n c) m) (hlen : m.length ≤ 1048576) (hm0 : m = []) (hl : 0 ≤ l ∧ l ≤ 65535) (htl : t.length ≤ 1048576) (hmy : ¬((1 ≤ t.length ∧ t.length ≤ 112) ∧ (0 : UInt8) ∉ t)) : Calls Tryz.prog 117 #[inV 3 l 0 (.slice x n c) 0 0 t] w fun e w' => e = .panicked (chain1 refV) ∧ Below w.heap.size w w' := by
  have hsm : true = true ↔ sameI 3 l 0 m 0 0 t 3 l 0 [] 0 0 t := ⟨fun _ => ⟨rfl, rfl, rfl, hm0, rfl, rfl, rfl⟩, fun _ => rfl⟩
  exact check_gM 3 l 0 0 0 t x n c w _ _ _ _ kF_3 (by kernel_rfl) (by kernel_rfl) 3 l 0 0 0 t none 0 0 (fun W => nm3_any 3 l 0 (.slice x n c) 0 0 t W ⟨_, _, _, rfl⟩) hl (fun W b => insame_any 3 l 0 (.slice x n c) m 0 0 t 3 l 0 (.slice none 0 0) [] 0 0 t W (hv.up b) (ReadsT.nil _) hlen (by decide) true hsm) (fun W _ => my3_F _ _ _ _ _ _ _ W ⟨_, _, _, rfl⟩ htl hmy)
theorem Tryz.infoU14 : (Tryz.prog.info? 25).map (fun i => (i.zero, i.size, i.bytes)) = some (some (.int .u64 0), 1, 8) := by kernel_rfl
theorem ElU14 : ElT Tryz.prog 33 25 (.int .u64 0) 1 8 := info_parts_t Tryz.underlying33 Tryz.infoU14 rfl
theorem or_add8 {k y : Nat} (h : k < 256) : k ||| 256 * y = k + 256 * y := by
  rw [Nat.or_comm, show 256 * y = 2 ^ 8 * y from rfl, ← Nat.two_pow_add_eq_or_of_lt (show k < 2 ^ 8 from h), Nat.add_comm]
/-- The first word, and noughts. -/
def hdN (k l : Nat) : List Nat := (k + 256 * l) :: List.replicate 15 0
abbrev KW (w : World) (go : Nat) (i : Nat) : Prop := i < w.heap.size ∧ i ≠ go
def wordsP (go : Nat) (ws : List Nat) (w0 : World) (e : Ending) (w : World) : Prop := e = .returned (.tuple #[]) ∧ (∃ gw, RowL w go 33 [.slice (some ⟨gw, 0, none⟩) 16 16] ∧ RowL w gw 25 (ints .u64 ws) ∧ w0.heap.size ≤ gw) ∧ Kept (KW w0 go) w0 w
theorem words1_1 (l z : Nat) (x : Option Addr) (n c : Nat) (m : List Ex) (go gn : Nat) (v0 : Value) (w : World) (hS : Start w) (hv : ReadsT eE 3 w (.slice x n c) m) (hlen : m.length ≤ 1048576) (hl : l ≤ 65535) (h : okF (z : Int) m) (hn : RowL w gn 80 (inL 1 (l : Int) (z : Int) (.slice x n c) 0 0 [])) (ho : RowL w go 33 [v0]) (hne : go ≠ gn ∧ 0 < go) : Calls Tryz.prog 116 #[.pointer (some ⟨gn, 0, none⟩), .pointer (some ⟨go, 0, none⟩)] w (wordsP go (layF (hdN 1 l) z m) w) := by
  unfold wordsP
  have hkk := Kept.refl (KW w go) w
  have lgn := hn.lt; have lgo := ho.lt
  have hS0 := hS.pos
  have hvF : ∀ X, Below w.heap.size w X → ReadsT eE 3 X (.slice x n c) m := fun X b => hv.up b
  have hSF : ∀ X, Below w.heap.size w X → Start X := fun X b => hS.up b
  have q := Below.refl w.heap.size w
  clear hv hS
  refine X.fn Tryz.func116 rfl (n := 25) rfl rfl ?_
  refine Zr ?_; refine Zv hn ?_; have l30 := hn.lt; have l31 := ho.lt
  (refine Zy (R.call rfl rfl rfl) (check1_T _ _ _ _ _ m _ (hvF _ q) (by omega) h) ?_; rintro e W29 ⟨rfl, b26⟩; refine ⟨_, rfl, ?_⟩)
  have zb26 := b26.size; replace hn := hn.up b26; replace ho := ho.up b26; replace hkk := Zh hkk b26; have y35 := hkk.size; replace q := Zu q b26; have l61 := hn.lt; have l62 := ho.lt
  refine LL.alloc ([Value.nilFunc, Value.nilFunc, Value.nilFunc, Value.nilFunc]) rfl rfl rfl rfl rfl ?_
  intro W64 g65 eg65 r66 z67 b63
  replace b26 := Zu b26 b63; replace hn := hn.up b63; replace ho := ho.up b63; replace hkk := Zh hkk b63; have y68 := hkk.size; replace q := Zu q b63
  refine LL.storeN (vs := [fnV kd1.1, fnV kd1.2.1, fnV kd1.2.2.1, fnV kd1.2.2.2]) rfl rfl rfl rfl r66 (by exact Nat.le_of_ble_eq_true rfl) (ones_of rfl) rfl rfl ?_
  intro W97 r98 b96 z99
  have hlb96 := r66.lt
  replace r98 : RowL W97 _ 140 [fnV kd1.1, fnV kd1.2.1, fnV kd1.2.2.1, fnV kd1.2.2.2] := r98
  clear r66
  replace b63 := Zg b63 b96; replace b26 := Zg b26 b96; replace hn := Zd hn b96; replace ho := Zd ho b96; replace hkk := Zo hkk b96; replace q := Zg q b96
  have r66 := r98
  clear r98
  refine Zq ?_; refine Zr ?_; have l114 := hn.lt; have l115 := ho.lt; have l116 := r66.lt
  (refine LL.makeE (l := 16) (m := 16) ElU14 rfl (by decide) rfl rfl rfl (Nat.le_refl _) (by decide) (by decide) rfl rfl ?_; intro W113 g1 eg1 r1 zg1 b110; replace r1 : RowL W113 g1 25 (ints .u64 (List.replicate 16 0)) := r1)
  have zb110 := b110.size; replace b63 := Zu b63 b110; replace b26 := Zu b26 b110; replace hn := hn.up b110; replace ho := ho.up b110; replace hkk := Zh hkk b110; have y120 := hkk.size; replace q := Zu q b110; replace r66 := r66.up b110; have l150 := r1.lt; have l151 := hn.lt; have l152 := ho.lt; have l153 := r66.lt
  refine LL.alloc ([.slice none 0 0]) rfl rfl rfl rfl rfl ?_
  intro W155 g156 eg156 r157 z158 b154
  replace b110 := Zu b110 b154; replace r1 := r1.up b154; replace b63 := Zu b63 b154; replace b26 := Zu b26 b154; replace hn := hn.up b154; replace ho := ho.up b154; replace hkk := Zh hkk b154; have y159 := hkk.size; replace q := Zu q b154; replace r66 := r66.up b154
  refine LL.store rfl rfl rfl rfl r157 (by exact Nat.le_of_ble_eq_true rfl) rfl rfl rfl rfl ?_
  intro W192 r193 b191 z194
  have hlb191 := r157.lt
  replace r193 : RowL W192 _ 33 [.slice (some { block := g1, off := 0 }) 16 16] := r193
  clear r157
  replace b110 := Zg b110 b191; replace r1 := Zd r1 b191; replace b63 := Zg b63 b191; replace b26 := Zg b26 b191; replace hn := Zd hn b191; replace ho := Zd ho b191; replace hkk := Zo hkk b191; replace q := Zg q b191; replace r66 := Zd r66 b191
  have r157 := r193
  clear r193
  refine Zq ?_; refine Zr ?_; refine Zl r157 ?_; refine Zf ?_; refine Zl hn ?_
  refine LL.val (R.convI rfl rfl rfl rfl (wrapU (by omega) (by omega))) rfl rfl rfl ?_
  refine Zf ?_; refine Zl hn ?_
  refine LL.val (R.convI rfl rfl rfl rfl (wrapU (by omega) (by omega))) rfl rfl rfl ?_
  refine LL.val (R.shlE (b := 8) (z := 256 * l) rfl rfl rfl (by decide) (by omega) (by omega)) rfl rfl rfl ?_
  refine LL.val (R.orE (a := 1) (b := 256 * l) (z := 1 + 256 * l) rfl rfl rfl (by decide) (by omega) (or_add8 (by decide))) rfl rfl rfl ?_
  refine Zi ?_
  refine LL.store rfl rfl rfl rfl r1 (by exact Nat.le_of_ble_eq_true rfl) rfl rfl rfl rfl ?_
  intro W499 r500 b498 z501
  have hlb498 := r1.lt
  replace r500 : RowL W499 _ 25 [Value.int IntKind.u64 ↑(1 + 256 * l), (fun n => Value.int IntKind.u64 ↑n) 0, (fun n => Value.int IntKind.u64 ↑n) 0, (fun n => Value.int IntKind.u64 ↑n) 0, (fun n => Value.int IntKind.u64 ↑n) 0, (fun n => Value.int IntKind.u64 ↑n) 0, (fun n => Value.int IntKind.u64 ↑n) 0, (fun n => Value.int IntKind.u64 ↑n) 0, (fun n => Value.int IntKind.u64 ↑n) 0, (fun n => Value.int IntKind.u64 ↑n) 0, (fun n => Value.int IntKind.u64 ↑n) 0, (fun n => Value.int IntKind.u64 ↑n) 0, (fun n => Value.int IntKind.u64 ↑n) 0, (fun n => Value.int IntKind.u64 ↑n) 0, (fun n => Value.int IntKind.u64 ↑n) 0, (fun n => Value.int IntKind.u64 ↑n) 0] := r500
  clear r1
  replace b110 := Zg b110 b498; replace b63 := Zg b63 b498; replace b26 := Zg b26 b498; replace hn := Zd hn b498; replace ho := Zd ho b498; replace hkk := Zo hkk b498; replace q := Zg q b498; replace r66 := Zd r66 b498; replace r157 := Zd r157 b498
  have r1 := r500
  clear r500
  refine Zq ?_; refine Zr ?_; have l533 := hn.lt; have l534 := ho.lt; have l535 := r66.lt; have l536 := r157.lt; have l537 := r1.lt
  refine LL.alloc ([.int .i64 0]) rfl rfl rfl rfl rfl ?_
  intro W539 g540 eg540 r541 z542 b538
  replace b110 := Zu b110 b538; replace b63 := Zu b63 b538; replace b26 := Zu b26 b538; replace hn := hn.up b538; replace ho := ho.up b538; replace hkk := Zh hkk b538; have y543 := hkk.size; replace q := Zu q b538; replace r66 := r66.up b538; replace r157 := r157.up b538; replace r1 := r1.up b538
  refine LL.store rfl rfl rfl rfl r541 (by exact Nat.le_of_ble_eq_true rfl) rfl rfl rfl rfl ?_
  intro W578 r579 b577 z580
  have hlb577 := r541.lt
  replace r579 : RowL W578 _ 3 [.int .i64 1] := r579
  clear r541
  replace b110 := Zg b110 b577; replace b63 := Zg b63 b577; replace b26 := Zg b26 b577; replace hn := Zd hn b577; replace ho := Zd ho b577; replace hkk := Zo hkk b577; replace q := Zg q b577; replace r66 := Zd r66 b577; replace r157 := Zd r157 b577; replace r1 := Zd r1 b577
  have r541 := r579
  clear r579
  refine Zq ?_; refine Zr ?_; refine Zf ?_; refine Zl r66 ?_; refine Zv hn ?_
  refine LL.val (R.buildV rfl rfl (v := .agg #[Value.int IntKind.i64 1, Value.int IntKind.i64 ↑l, Value.int IntKind.i64 ↑z, Value.slice x n c, Value.int IntKind.i64 0, Value.int IntKind.i64 0, strV []]) (fun _ => by kernel_rfl)) rfl rfl rfl ?_
  refine LL.val (R.func rfl rfl rfl) rfl rfl rfl ?_
  (refine LL.call (R.callV rfl rfl rfl rfl) rfl rfl rfl (ly1_any 1 l z x n c 0 0 [] m _ g1 _ (hdN 1 l) _ (hSF _ q) ⟨by omega, by omega⟩ (hvF _ q) h.2.1 (by have := h.1; omega) ⟨by assumption, by assumption, (show RowL _ g1 25 (ints .u64 (hdN 1 l)) from by assumption), rfl, by omega, by omega, by omega⟩) ?_; rintro e W775 ⟨rfl, ⟨at8, O8⟩, t774⟩; refine ⟨_, rfl, ?_⟩; clear r1; replace hkk := hkk.trans (t774.less fun j hj => ⟨by have := hj.1; omega, by have := hj.1; omega, by have := hj.1; omega⟩); have rv8 := O8.rv; have rw8 := O8.rw_; clear O8)
  have zt774 := t774.size
  replace b110 := t774.onB b110 (fun j hj => ⟨by have := b110.size; omega, by omega⟩)
  replace b63 := t774.onB b63 (fun j hj => ⟨by have := b63.size; omega, by omega⟩)
  replace b26 := t774.onB b26 (fun j hj => ⟨by have := b26.size; omega, by omega⟩)
  replace hn := hn.kept t774 ⟨hn.lt, by omega⟩
  replace ho := ho.kept t774 ⟨ho.lt, by omega⟩
  replace q := t774.onB q (fun j hj => ⟨by have := q.size; omega, by omega⟩)
  replace r66 := r66.kept t774 ⟨r66.lt, by omega⟩
  replace r157 := r157.kept t774 ⟨r157.lt, by omega⟩
  refine Zq ?_; refine CC.region ?_; refine Zl r157 ?_
  refine LL.store rfl rfl rfl rfl ho (by exact Nat.le_of_ble_eq_true rfl) rfl rfl rfl rfl ?_
  intro W846 r847 b845 z848
  have hlb845 := ho.lt
  replace r847 : RowL W846 _ 33 [.slice (some { block := g1, off := 0 }) 16 16] := r847
  clear ho
  replace hkk := Zo hkk b845; replace rv8 := Zd rv8 b845; replace rw8 := Zd rw8 b845; replace hn := Zd hn b845; replace r66 := Zd r66 b845; replace r157 := Zd r157 b845
  have ho := r847
  clear r847
  refine ZL ?_; refine EE.end _ rfl rfl ?_
  exact ⟨rfl, ⟨g1, by assumption, by assumption, by omega⟩, hkk⟩
theorem words1_2 (l r p : Nat) (x : Option Addr) (n c : Nat) (m : List Ex) (go gn : Nat) (v0 : Value) (w : World) (hS : Start w) (hv : ReadsT eE 3 w (.slice x n c) m) (hlen : m.length ≤ 1048576) (hm0 : m = []) (hl : l ≤ 65535) (h : (1 ≤ r ∧ r ≤ 2047) ∧ 1 ≤ p ∧ p ≤ 256) (hn : RowL w gn 80 (inL 2 (l : Int) 0 (.slice x n c) (r : Int) (p : Int) [])) (ho : RowL w go 33 [v0]) (hne : go ≠ gn ∧ 0 < go) : Calls Tryz.prog 116 #[.pointer (some ⟨gn, 0, none⟩), .pointer (some ⟨go, 0, none⟩)] w (wordsP go (layD (hdN 2 l) r p) w) := by
  unfold wordsP
  have hkk := Kept.refl (KW w go) w
  have lgn := hn.lt; have lgo := ho.lt
  have hS0 := hS.pos
  have hvF : ∀ X, Below w.heap.size w X → ReadsT eE 3 X (.slice x n c) m := fun X b => hv.up b
  have hSF : ∀ X, Below w.heap.size w X → Start X := fun X b => hS.up b
  have q := Below.refl w.heap.size w
  clear hv hS
  refine X.fn Tryz.func116 rfl (n := 25) rfl rfl ?_
  refine Zr ?_; refine Zv hn ?_; have l30 := hn.lt; have l31 := ho.lt
  (refine Zy (R.call rfl rfl rfl) (check2_T l r p x n c m _ (hvF _ q) hlen hm0 (by omega) (by omega)) ?_; rintro e W29 ⟨rfl, b26⟩; refine ⟨_, rfl, ?_⟩)
  have zb26 := b26.size; replace hn := hn.up b26; replace ho := ho.up b26; replace hkk := Zh hkk b26; have y35 := hkk.size; replace q := Zu q b26; have l61 := hn.lt; have l62 := ho.lt
  refine LL.alloc ([Value.nilFunc, Value.nilFunc, Value.nilFunc, Value.nilFunc]) rfl rfl rfl rfl rfl ?_
  intro W64 g65 eg65 r66 z67 b63
  replace b26 := Zu b26 b63; replace hn := hn.up b63; replace ho := ho.up b63; replace hkk := Zh hkk b63; have y68 := hkk.size; replace q := Zu q b63
  refine LL.storeN (vs := [fnV kd2.1, fnV kd2.2.1, fnV kd2.2.2.1, fnV kd2.2.2.2]) rfl rfl rfl rfl r66 (by exact Nat.le_of_ble_eq_true rfl) (ones_of rfl) rfl rfl ?_
  intro W97 r98 b96 z99
  have hlb96 := r66.lt
  replace r98 : RowL W97 _ 140 [fnV kd2.1, fnV kd2.2.1, fnV kd2.2.2.1, fnV kd2.2.2.2] := r98
  clear r66
  replace b63 := Zg b63 b96; replace b26 := Zg b26 b96; replace hn := Zd hn b96; replace ho := Zd ho b96; replace hkk := Zo hkk b96; replace q := Zg q b96
  have r66 := r98
  clear r98
  refine Zq ?_; refine Zr ?_; have l114 := hn.lt; have l115 := ho.lt; have l116 := r66.lt
  (refine LL.makeE (l := 16) (m := 16) ElU14 rfl (by decide) rfl rfl rfl (Nat.le_refl _) (by decide) (by decide) rfl rfl ?_; intro W113 g1 eg1 r1 zg1 b110; replace r1 : RowL W113 g1 25 (ints .u64 (List.replicate 16 0)) := r1)
  have zb110 := b110.size; replace b63 := Zu b63 b110; replace b26 := Zu b26 b110; replace hn := hn.up b110; replace ho := ho.up b110; replace hkk := Zh hkk b110; have y120 := hkk.size; replace q := Zu q b110; replace r66 := r66.up b110; have l150 := r1.lt; have l151 := hn.lt; have l152 := ho.lt; have l153 := r66.lt
  refine LL.alloc ([.slice none 0 0]) rfl rfl rfl rfl rfl ?_
  intro W155 g156 eg156 r157 z158 b154
  replace b110 := Zu b110 b154; replace r1 := r1.up b154; replace b63 := Zu b63 b154; replace b26 := Zu b26 b154; replace hn := hn.up b154; replace ho := ho.up b154; replace hkk := Zh hkk b154; have y159 := hkk.size; replace q := Zu q b154; replace r66 := r66.up b154
  refine LL.store rfl rfl rfl rfl r157 (by exact Nat.le_of_ble_eq_true rfl) rfl rfl rfl rfl ?_
  intro W192 r193 b191 z194
  have hlb191 := r157.lt
  replace r193 : RowL W192 _ 33 [.slice (some { block := g1, off := 0 }) 16 16] := r193
  clear r157
  replace b110 := Zg b110 b191; replace r1 := Zd r1 b191; replace b63 := Zg b63 b191; replace b26 := Zg b26 b191; replace hn := Zd hn b191; replace ho := Zd ho b191; replace hkk := Zo hkk b191; replace q := Zg q b191; replace r66 := Zd r66 b191
  have r157 := r193
  clear r193
  refine Zq ?_; refine Zr ?_; refine Zl r157 ?_; refine Zf ?_; refine Zl hn ?_
  refine LL.val (R.convI rfl rfl rfl rfl (wrapU (by omega) (by omega))) rfl rfl rfl ?_
  refine Zf ?_; refine Zl hn ?_
  refine LL.val (R.convI rfl rfl rfl rfl (wrapU (by omega) (by omega))) rfl rfl rfl ?_
  refine LL.val (R.shlE (b := 8) (z := 256 * l) rfl rfl rfl (by decide) (by omega) (by omega)) rfl rfl rfl ?_
  refine LL.val (R.orE (a := 2) (b := 256 * l) (z := 2 + 256 * l) rfl rfl rfl (by decide) (by omega) (or_add8 (by decide))) rfl rfl rfl ?_
  refine Zi ?_
  refine LL.store rfl rfl rfl rfl r1 (by exact Nat.le_of_ble_eq_true rfl) rfl rfl rfl rfl ?_
  intro W499 r500 b498 z501
  have hlb498 := r1.lt
  replace r500 : RowL W499 _ 25 [Value.int IntKind.u64 ↑(2 + 256 * l), (fun n => Value.int IntKind.u64 ↑n) 0, (fun n => Value.int IntKind.u64 ↑n) 0, (fun n => Value.int IntKind.u64 ↑n) 0, (fun n => Value.int IntKind.u64 ↑n) 0, (fun n => Value.int IntKind.u64 ↑n) 0, (fun n => Value.int IntKind.u64 ↑n) 0, (fun n => Value.int IntKind.u64 ↑n) 0, (fun n => Value.int IntKind.u64 ↑n) 0, (fun n => Value.int IntKind.u64 ↑n) 0, (fun n => Value.int IntKind.u64 ↑n) 0, (fun n => Value.int IntKind.u64 ↑n) 0, (fun n => Value.int IntKind.u64 ↑n) 0, (fun n => Value.int IntKind.u64 ↑n) 0, (fun n => Value.int IntKind.u64 ↑n) 0, (fun n => Value.int IntKind.u64 ↑n) 0] := r500
  clear r1
  replace b110 := Zg b110 b498; replace b63 := Zg b63 b498; replace b26 := Zg b26 b498; replace hn := Zd hn b498; replace ho := Zd ho b498; replace hkk := Zo hkk b498; replace q := Zg q b498; replace r66 := Zd r66 b498; replace r157 := Zd r157 b498
  have r1 := r500
  clear r500
  refine Zq ?_; refine Zr ?_; have l533 := hn.lt; have l534 := ho.lt; have l535 := r66.lt; have l536 := r157.lt; have l537 := r1.lt
  refine LL.alloc ([.int .i64 0]) rfl rfl rfl rfl rfl ?_
  intro W539 g540 eg540 r541 z542 b538
  replace b110 := Zu b110 b538; replace b63 := Zu b63 b538; replace b26 := Zu b26 b538; replace hn := hn.up b538; replace ho := ho.up b538; replace hkk := Zh hkk b538; have y543 := hkk.size; replace q := Zu q b538; replace r66 := r66.up b538; replace r157 := r157.up b538; replace r1 := r1.up b538
  refine LL.store rfl rfl rfl rfl r541 (by exact Nat.le_of_ble_eq_true rfl) rfl rfl rfl rfl ?_
  intro W578 r579 b577 z580
  have hlb577 := r541.lt
  replace r579 : RowL W578 _ 3 [.int .i64 1] := r579
  clear r541
  replace b110 := Zg b110 b577; replace b63 := Zg b63 b577; replace b26 := Zg b26 b577; replace hn := Zd hn b577; replace ho := Zd ho b577; replace hkk := Zo hkk b577; replace q := Zg q b577; replace r66 := Zd r66 b577; replace r157 := Zd r157 b577; replace r1 := Zd r1 b577
  have r541 := r579
  clear r579
  refine Zq ?_; refine Zr ?_; refine Zf ?_; refine Zl r66 ?_; refine Zv hn ?_
  refine LL.val (R.buildV rfl rfl (v := .agg #[Value.int IntKind.i64 2, Value.int IntKind.i64 ↑l, Value.int IntKind.i64 0, Value.slice x n c, Value.int IntKind.i64 ↑r, Value.int IntKind.i64 ↑p, strV []]) (fun _ => by kernel_rfl)) rfl rfl rfl ?_
  refine LL.val (R.func rfl rfl rfl) rfl rfl rfl ?_
  (refine LL.call (R.callV rfl rfl rfl rfl) rfl rfl rfl (ly2_any 2 l 0 _ r p [] _ g1 _ (hdN 2 l) _ ⟨_, _, _, rfl⟩ (by omega) (by omega) ⟨by assumption, by assumption, (show RowL _ g1 25 (ints .u64 (hdN 2 l)) from by assumption), rfl, by omega, by omega, by omega⟩) ?_; rintro e W775 ⟨rfl, ⟨at8, O8⟩, t774⟩; refine ⟨_, rfl, ?_⟩; clear r1; replace hkk := hkk.trans (t774.less fun j hj => ⟨by have := hj.1; omega, by have := hj.1; omega, by have := hj.1; omega⟩); have rv8 := O8.rv; have rw8 := O8.rw_; clear O8)
  have zt774 := t774.size
  replace b110 := t774.onB b110 (fun j hj => ⟨by have := b110.size; omega, by omega⟩)
  replace b63 := t774.onB b63 (fun j hj => ⟨by have := b63.size; omega, by omega⟩)
  replace b26 := t774.onB b26 (fun j hj => ⟨by have := b26.size; omega, by omega⟩)
  replace hn := hn.kept t774 ⟨hn.lt, by omega⟩
  replace ho := ho.kept t774 ⟨ho.lt, by omega⟩
  replace q := t774.onB q (fun j hj => ⟨by have := q.size; omega, by omega⟩)
  replace r66 := r66.kept t774 ⟨r66.lt, by omega⟩
  replace r157 := r157.kept t774 ⟨r157.lt, by omega⟩
  refine Zq ?_; refine CC.region ?_; refine Zl r157 ?_
  refine LL.store rfl rfl rfl rfl ho (by exact Nat.le_of_ble_eq_true rfl) rfl rfl rfl rfl ?_
  intro W846 r847 b845 z848
  have hlb845 := ho.lt
  replace r847 : RowL W846 _ 33 [.slice (some { block := g1, off := 0 }) 16 16] := r847
  clear ho
  replace hkk := Zo hkk b845; replace rv8 := Zd rv8 b845; replace rw8 := Zd rw8 b845; replace hn := Zd hn b845; replace r66 := Zd r66 b845; replace r157 := Zd r157 b845
  have ho := r847
  clear r847
  refine ZL ?_; refine EE.end _ rfl rfl ?_
  exact ⟨rfl, ⟨g1, by assumption, by assumption, by omega⟩, hkk⟩
theorem words1_3 (l : Nat) (t : Bs) (x : Option Addr) (n c : Nat) (m : List Ex) (go gn : Nat) (v0 : Value) (w : World) (hS : Start w) (hv : ReadsT eE 3 w (.slice x n c) m) (hlen : m.length ≤ 1048576) (hm0 : m = []) (hl : l ≤ 65535) (h : (1 ≤ t.length ∧ t.length ≤ 112) ∧ (0 : UInt8) ∉ t) (hn : RowL w gn 80 (inL 3 (l : Int) 0 (.slice x n c) 0 0 t)) (ho : RowL w go 33 [v0]) (hne : go ≠ gn ∧ 0 < go) : Calls Tryz.prog 116 #[.pointer (some ⟨gn, 0, none⟩), .pointer (some ⟨go, 0, none⟩)] w (wordsP go (layK (hdN 3 l) t) w) := by
  unfold wordsP
  have hkk := Kept.refl (KW w go) w
  have lgn := hn.lt; have lgo := ho.lt
  have hS0 := hS.pos
  have hvF : ∀ X, Below w.heap.size w X → ReadsT eE 3 X (.slice x n c) m := fun X b => hv.up b
  have hSF : ∀ X, Below w.heap.size w X → Start X := fun X b => hS.up b
  have q := Below.refl w.heap.size w
  clear hv hS
  refine X.fn Tryz.func116 rfl (n := 25) rfl rfl ?_
  refine Zr ?_; refine Zv hn ?_; have l30 := hn.lt; have l31 := ho.lt
  (refine Zy (R.call rfl rfl rfl) (check3_T l t x n c m _ (hvF _ q) hlen hm0 (by omega) h) ?_; rintro e W29 ⟨rfl, b26⟩; refine ⟨_, rfl, ?_⟩)
  have zb26 := b26.size; replace hn := hn.up b26; replace ho := ho.up b26; replace hkk := Zh hkk b26; have y35 := hkk.size; replace q := Zu q b26; have l61 := hn.lt; have l62 := ho.lt
  refine LL.alloc ([Value.nilFunc, Value.nilFunc, Value.nilFunc, Value.nilFunc]) rfl rfl rfl rfl rfl ?_
  intro W64 g65 eg65 r66 z67 b63
  replace b26 := Zu b26 b63; replace hn := hn.up b63; replace ho := ho.up b63; replace hkk := Zh hkk b63; have y68 := hkk.size; replace q := Zu q b63
  refine LL.storeN (vs := [fnV kd3.1, fnV kd3.2.1, fnV kd3.2.2.1, fnV kd3.2.2.2]) rfl rfl rfl rfl r66 (by exact Nat.le_of_ble_eq_true rfl) (ones_of rfl) rfl rfl ?_
  intro W97 r98 b96 z99
  have hlb96 := r66.lt
  replace r98 : RowL W97 _ 140 [fnV kd3.1, fnV kd3.2.1, fnV kd3.2.2.1, fnV kd3.2.2.2] := r98
  clear r66
  replace b63 := Zg b63 b96; replace b26 := Zg b26 b96; replace hn := Zd hn b96; replace ho := Zd ho b96; replace hkk := Zo hkk b96; replace q := Zg q b96
  have r66 := r98
  clear r98
  refine Zq ?_; refine Zr ?_; have l114 := hn.lt; have l115 := ho.lt; have l116 := r66.lt
  (refine LL.makeE (l := 16) (m := 16) ElU14 rfl (by decide) rfl rfl rfl (Nat.le_refl _) (by decide) (by decide) rfl rfl ?_; intro W113 g1 eg1 r1 zg1 b110; replace r1 : RowL W113 g1 25 (ints .u64 (List.replicate 16 0)) := r1)
  have zb110 := b110.size; replace b63 := Zu b63 b110; replace b26 := Zu b26 b110; replace hn := hn.up b110; replace ho := ho.up b110; replace hkk := Zh hkk b110; have y120 := hkk.size; replace q := Zu q b110; replace r66 := r66.up b110; have l150 := r1.lt; have l151 := hn.lt; have l152 := ho.lt; have l153 := r66.lt
  refine LL.alloc ([.slice none 0 0]) rfl rfl rfl rfl rfl ?_
  intro W155 g156 eg156 r157 z158 b154
  replace b110 := Zu b110 b154; replace r1 := r1.up b154; replace b63 := Zu b63 b154; replace b26 := Zu b26 b154; replace hn := hn.up b154; replace ho := ho.up b154; replace hkk := Zh hkk b154; have y159 := hkk.size; replace q := Zu q b154; replace r66 := r66.up b154
  refine LL.store rfl rfl rfl rfl r157 (by exact Nat.le_of_ble_eq_true rfl) rfl rfl rfl rfl ?_
  intro W192 r193 b191 z194
  have hlb191 := r157.lt
  replace r193 : RowL W192 _ 33 [.slice (some { block := g1, off := 0 }) 16 16] := r193
  clear r157
  replace b110 := Zg b110 b191; replace r1 := Zd r1 b191; replace b63 := Zg b63 b191; replace b26 := Zg b26 b191; replace hn := Zd hn b191; replace ho := Zd ho b191; replace hkk := Zo hkk b191; replace q := Zg q b191; replace r66 := Zd r66 b191
  have r157 := r193
  clear r193
  refine Zq ?_; refine Zr ?_; refine Zl r157 ?_; refine Zf ?_; refine Zl hn ?_
  refine LL.val (R.convI rfl rfl rfl rfl (wrapU (by omega) (by omega))) rfl rfl rfl ?_
  refine Zf ?_; refine Zl hn ?_
  refine LL.val (R.convI rfl rfl rfl rfl (wrapU (by omega) (by omega))) rfl rfl rfl ?_
  refine LL.val (R.shlE (b := 8) (z := 256 * l) rfl rfl rfl (by decide) (by omega) (by omega)) rfl rfl rfl ?_
  refine LL.val (R.orE (a := 3) (b := 256 * l) (z := 3 + 256 * l) rfl rfl rfl (by decide) (by omega) (or_add8 (by decide))) rfl rfl rfl ?_
  refine Zi ?_
  refine LL.store rfl rfl rfl rfl r1 (by exact Nat.le_of_ble_eq_true rfl) rfl rfl rfl rfl ?_
  intro W499 r500 b498 z501
  have hlb498 := r1.lt
  replace r500 : RowL W499 _ 25 [Value.int IntKind.u64 ↑(3 + 256 * l), (fun n => Value.int IntKind.u64 ↑n) 0, (fun n => Value.int IntKind.u64 ↑n) 0, (fun n => Value.int IntKind.u64 ↑n) 0, (fun n => Value.int IntKind.u64 ↑n) 0, (fun n => Value.int IntKind.u64 ↑n) 0, (fun n => Value.int IntKind.u64 ↑n) 0, (fun n => Value.int IntKind.u64 ↑n) 0, (fun n => Value.int IntKind.u64 ↑n) 0, (fun n => Value.int IntKind.u64 ↑n) 0, (fun n => Value.int IntKind.u64 ↑n) 0, (fun n => Value.int IntKind.u64 ↑n) 0, (fun n => Value.int IntKind.u64 ↑n) 0, (fun n => Value.int IntKind.u64 ↑n) 0, (fun n => Value.int IntKind.u64 ↑n) 0, (fun n => Value.int IntKind.u64 ↑n) 0] := r500
  clear r1
  replace b110 := Zg b110 b498; replace b63 := Zg b63 b498; replace b26 := Zg b26 b498; replace hn := Zd hn b498; replace ho := Zd ho b498; replace hkk := Zo hkk b498; replace q := Zg q b498; replace r66 := Zd r66 b498; replace r157 := Zd r157 b498
  have r1 := r500
  clear r500
  refine Zq ?_; refine Zr ?_; have l533 := hn.lt; have l534 := ho.lt; have l535 := r66.lt; have l536 := r157.lt; have l537 := r1.lt
  refine LL.alloc ([.int .i64 0]) rfl rfl rfl rfl rfl ?_
  intro W539 g540 eg540 r541 z542 b538
  replace b110 := Zu b110 b538; replace b63 := Zu b63 b538; replace b26 := Zu b26 b538; replace hn := hn.up b538; replace ho := ho.up b538; replace hkk := Zh hkk b538; have y543 := hkk.size; replace q := Zu q b538; replace r66 := r66.up b538; replace r157 := r157.up b538; replace r1 := r1.up b538
  refine LL.store rfl rfl rfl rfl r541 (by exact Nat.le_of_ble_eq_true rfl) rfl rfl rfl rfl ?_
  intro W578 r579 b577 z580
  have hlb577 := r541.lt
  replace r579 : RowL W578 _ 3 [.int .i64 1] := r579
  clear r541
  replace b110 := Zg b110 b577; replace b63 := Zg b63 b577; replace b26 := Zg b26 b577; replace hn := Zd hn b577; replace ho := Zd ho b577; replace hkk := Zo hkk b577; replace q := Zg q b577; replace r66 := Zd r66 b577; replace r157 := Zd r157 b577; replace r1 := Zd r1 b577
  have r541 := r579
  clear r579
  refine Zq ?_; refine Zr ?_; refine Zf ?_; refine Zl r66 ?_; refine Zv hn ?_
  refine LL.val (R.buildV rfl rfl (v := .agg #[Value.int IntKind.i64 3, Value.int IntKind.i64 ↑l, Value.int IntKind.i64 0, Value.slice x n c, Value.int IntKind.i64 0, Value.int IntKind.i64 0, strV t]) (fun _ => by kernel_rfl)) rfl rfl rfl ?_
  refine LL.val (R.func rfl rfl rfl) rfl rfl rfl ?_
  (refine LL.call (R.callV rfl rfl rfl rfl) rfl rfl rfl (ly3_any 3 l 0 _ 0 0 t _ g1 _ (hdN 3 l) _ ⟨_, _, _, rfl⟩ h.1 ⟨by assumption, by assumption, (show RowL _ g1 25 (ints .u64 (hdN 3 l)) from by assumption), rfl, by omega, by omega, by omega⟩) ?_; rintro e W775 ⟨rfl, ⟨at8, O8⟩, t774⟩; refine ⟨_, rfl, ?_⟩; clear r1; replace hkk := hkk.trans (t774.less fun j hj => ⟨by have := hj.1; omega, by have := hj.1; omega, by have := hj.1; omega⟩); have rv8 := O8.rv; have rw8 := O8.rw_; clear O8)
  have zt774 := t774.size
  replace b110 := t774.onB b110 (fun j hj => ⟨by have := b110.size; omega, by omega⟩)
  replace b63 := t774.onB b63 (fun j hj => ⟨by have := b63.size; omega, by omega⟩)
  replace b26 := t774.onB b26 (fun j hj => ⟨by have := b26.size; omega, by omega⟩)
  replace hn := hn.kept t774 ⟨hn.lt, by omega⟩
  replace ho := ho.kept t774 ⟨ho.lt, by omega⟩
  replace q := t774.onB q (fun j hj => ⟨by have := q.size; omega, by omega⟩)
  replace r66 := r66.kept t774 ⟨r66.lt, by omega⟩
  replace r157 := r157.kept t774 ⟨r157.lt, by omega⟩
  refine Zq ?_; refine CC.region ?_; refine Zl r157 ?_
  refine LL.store rfl rfl rfl rfl ho (by exact Nat.le_of_ble_eq_true rfl) rfl rfl rfl rfl ?_
  intro W846 r847 b845 z848
  have hlb845 := ho.lt
  replace r847 : RowL W846 _ 33 [.slice (some { block := g1, off := 0 }) 16 16] := r847
  clear ho
  replace hkk := Zo hkk b845; replace rv8 := Zd rv8 b845; replace rw8 := Zd rw8 b845; replace hn := Zd hn b845; replace r66 := Zd r66 b845; replace r157 := Zd r157 b845
  have ho := r847
  clear r847
  refine ZL ?_; refine EE.end _ rfl rfl ?_
  exact ⟨rfl, ⟨g1, by assumption, by assumption, by omega⟩, hkk⟩
theorem words1_0  (x : Option Addr) (n c : Nat) (m : List Ex) (go gn : Nat) (v0 : Value) (w : World) (hS : Start w) (hv : ReadsT eE 3 w (.slice x n c) m) (hlen : m.length ≤ 1048576) (hm0 : m = []) (hn : RowL w gn 80 (inL 0 0 0 (.slice x n c) 0 0 [])) (ho : RowL w go 33 [v0]) (hne : go ≠ gn ∧ 0 < go) : Calls Tryz.prog 116 #[.pointer (some ⟨gn, 0, none⟩), .pointer (some ⟨go, 0, none⟩)] w (wordsP go (hdN 0 0) w) := by
  unfold wordsP
  have hkk := Kept.refl (KW w go) w
  have lgn := hn.lt; have lgo := ho.lt
  have hS0 := hS.pos
  have hvF : ∀ X, Below w.heap.size w X → ReadsT eE 3 X (.slice x n c) m := fun X b => hv.up b
  have hSF : ∀ X, Below w.heap.size w X → Start X := fun X b => hS.up b
  have q := Below.refl w.heap.size w
  clear hv hS
  refine X.fn Tryz.func116 rfl (n := 25) rfl rfl ?_
  refine Zr ?_; refine Zv hn ?_; have l30 := hn.lt; have l31 := ho.lt
  (refine Zy (R.call rfl rfl rfl) (check0_T x n c m _ (hvF _ q) hlen hm0) ?_; rintro e W29 ⟨rfl, b26⟩; refine ⟨_, rfl, ?_⟩)
  have zb26 := b26.size; replace hn := hn.up b26; replace ho := ho.up b26; replace hkk := Zh hkk b26; have y35 := hkk.size; replace q := Zu q b26; have l61 := hn.lt; have l62 := ho.lt
  refine LL.alloc ([Value.nilFunc, Value.nilFunc, Value.nilFunc, Value.nilFunc]) rfl rfl rfl rfl rfl ?_
  intro W64 g65 eg65 r66 z67 b63
  replace b26 := Zu b26 b63; replace hn := hn.up b63; replace ho := ho.up b63; replace hkk := Zh hkk b63; have y68 := hkk.size; replace q := Zu q b63
  refine LL.storeN (vs := [fnV kd0.1, fnV kd0.2.1, fnV kd0.2.2.1, fnV kd0.2.2.2]) rfl rfl rfl rfl r66 (by exact Nat.le_of_ble_eq_true rfl) (ones_of rfl) rfl rfl ?_
  intro W97 r98 b96 z99
  have hlb96 := r66.lt
  replace r98 : RowL W97 _ 140 [fnV kd0.1, fnV kd0.2.1, fnV kd0.2.2.1, fnV kd0.2.2.2] := r98
  clear r66
  replace b63 := Zg b63 b96; replace b26 := Zg b26 b96; replace hn := Zd hn b96; replace ho := Zd ho b96; replace hkk := Zo hkk b96; replace q := Zg q b96
  have r66 := r98
  clear r98
  refine Zq ?_; refine Zr ?_; have l114 := hn.lt; have l115 := ho.lt; have l116 := r66.lt
  (refine LL.makeE (l := 16) (m := 16) ElU14 rfl (by decide) rfl rfl rfl (Nat.le_refl _) (by decide) (by decide) rfl rfl ?_; intro W113 g1 eg1 r1 zg1 b110; replace r1 : RowL W113 g1 25 (ints .u64 (List.replicate 16 0)) := r1)
  have zb110 := b110.size; replace b63 := Zu b63 b110; replace b26 := Zu b26 b110; replace hn := hn.up b110; replace ho := ho.up b110; replace hkk := Zh hkk b110; have y120 := hkk.size; replace q := Zu q b110; replace r66 := r66.up b110; have l150 := r1.lt; have l151 := hn.lt; have l152 := ho.lt; have l153 := r66.lt
  refine LL.alloc ([.slice none 0 0]) rfl rfl rfl rfl rfl ?_
  intro W155 g156 eg156 r157 z158 b154
  replace b110 := Zu b110 b154; replace r1 := r1.up b154; replace b63 := Zu b63 b154; replace b26 := Zu b26 b154; replace hn := hn.up b154; replace ho := ho.up b154; replace hkk := Zh hkk b154; have y159 := hkk.size; replace q := Zu q b154; replace r66 := r66.up b154
  refine LL.store rfl rfl rfl rfl r157 (by exact Nat.le_of_ble_eq_true rfl) rfl rfl rfl rfl ?_
  intro W192 r193 b191 z194
  have hlb191 := r157.lt
  replace r193 : RowL W192 _ 33 [.slice (some { block := g1, off := 0 }) 16 16] := r193
  clear r157
  replace b110 := Zg b110 b191; replace r1 := Zd r1 b191; replace b63 := Zg b63 b191; replace b26 := Zg b26 b191; replace hn := Zd hn b191; replace ho := Zd ho b191; replace hkk := Zo hkk b191; replace q := Zg q b191; replace r66 := Zd r66 b191
  have r157 := r193
  clear r193
  refine Zq ?_; refine Zr ?_; refine Zl r157 ?_; refine Zf ?_; refine Zl hn ?_
  refine LL.val (R.convI rfl rfl rfl rfl (wrapU (by omega) (by omega))) rfl rfl rfl ?_
  refine Zf ?_; refine Zl hn ?_
  refine LL.val (R.convI rfl rfl rfl rfl (wrapU (by omega) (by omega))) rfl rfl rfl ?_
  refine LL.val (R.shlE (a := 0) (b := 8) (z := 256 * 0) rfl rfl rfl (by decide) (by omega) (by omega)) rfl rfl rfl ?_
  refine LL.val (R.orE (a := 0) (b := 256 * 0) (z := 0 + 256 * 0) rfl rfl rfl (by decide) (by omega) (or_add8 (by decide))) rfl rfl rfl ?_
  refine Zi ?_
  refine LL.store rfl rfl rfl rfl r1 (by exact Nat.le_of_ble_eq_true rfl) rfl rfl rfl rfl ?_
  intro W499 r500 b498 z501
  have hlb498 := r1.lt
  replace r500 : RowL W499 _ 25 [Value.int IntKind.u64 ↑(0 + 256 * 0), (fun n => Value.int IntKind.u64 ↑n) 0, (fun n => Value.int IntKind.u64 ↑n) 0, (fun n => Value.int IntKind.u64 ↑n) 0, (fun n => Value.int IntKind.u64 ↑n) 0, (fun n => Value.int IntKind.u64 ↑n) 0, (fun n => Value.int IntKind.u64 ↑n) 0, (fun n => Value.int IntKind.u64 ↑n) 0, (fun n => Value.int IntKind.u64 ↑n) 0, (fun n => Value.int IntKind.u64 ↑n) 0, (fun n => Value.int IntKind.u64 ↑n) 0, (fun n => Value.int IntKind.u64 ↑n) 0, (fun n => Value.int IntKind.u64 ↑n) 0, (fun n => Value.int IntKind.u64 ↑n) 0, (fun n => Value.int IntKind.u64 ↑n) 0, (fun n => Value.int IntKind.u64 ↑n) 0] := r500
  clear r1
  replace b110 := Zg b110 b498; replace b63 := Zg b63 b498; replace b26 := Zg b26 b498; replace hn := Zd hn b498; replace ho := Zd ho b498; replace hkk := Zo hkk b498; replace q := Zg q b498; replace r66 := Zd r66 b498; replace r157 := Zd r157 b498
  have r1 := r500
  clear r500
  refine Zq ?_; refine Zr ?_; have l533 := hn.lt; have l534 := ho.lt; have l535 := r66.lt; have l536 := r157.lt; have l537 := r1.lt
  refine LL.alloc ([.int .i64 0]) rfl rfl rfl rfl rfl ?_
  intro W539 g540 eg540 r541 z542 b538
  replace b110 := Zu b110 b538; replace b63 := Zu b63 b538; replace b26 := Zu b26 b538; replace hn := hn.up b538; replace ho := ho.up b538; replace hkk := Zh hkk b538; have y543 := hkk.size; replace q := Zu q b538; replace r66 := r66.up b538; replace r157 := r157.up b538; replace r1 := r1.up b538
  refine LL.store rfl rfl rfl rfl r541 (by exact Nat.le_of_ble_eq_true rfl) rfl rfl rfl rfl ?_
  intro W578 r579 b577 z580
  have hlb577 := r541.lt
  replace r579 : RowL W578 _ 3 [.int .i64 1] := r579
  clear r541
  replace b110 := Zg b110 b577; replace b63 := Zg b63 b577; replace b26 := Zg b26 b577; replace hn := Zd hn b577; replace ho := Zd ho b577; replace hkk := Zo hkk b577; replace q := Zg q b577; replace r66 := Zd r66 b577; replace r157 := Zd r157 b577; replace r1 := Zd r1 b577
  have r541 := r579
  clear r579
  refine Zq ?_; refine Zr ?_; refine Zf ?_; refine Zl r66 ?_; refine Zv hn ?_
  refine LL.val (R.buildV rfl rfl (v := .agg #[Value.int IntKind.i64 0, Value.int IntKind.i64 0, Value.int IntKind.i64 0, Value.slice x n c, Value.int IntKind.i64 0, Value.int IntKind.i64 0, strV []]) (fun _ => by kernel_rfl)) rfl rfl rfl ?_
  refine LL.val (R.func rfl rfl rfl) rfl rfl rfl ?_
  (refine LL.call (R.callV rfl rfl rfl rfl) rfl rfl rfl (ly0_any 0 0 0 _ 0 0 [] _ g1 _ 1 (hdN 0 0) _ ⟨_, _, _, rfl⟩ ⟨by assumption, by assumption, (show RowL _ g1 25 (ints .u64 (hdN 0 0)) from by assumption), rfl, by omega, by omega, by omega⟩) ?_; rintro e W775 ⟨rfl, ⟨at8, O8⟩, t774⟩; refine ⟨_, rfl, ?_⟩; clear r1; replace hkk := hkk.trans (t774.less fun j hj => ⟨by have := hj.1; omega, by have := hj.1; omega, by have := hj.1; omega⟩); have rv8 := O8.rv; have rw8 := O8.rw_; clear O8)
  have zt774 := t774.size
  replace b110 := t774.onB b110 (fun j hj => ⟨by have := b110.size; omega, by omega⟩)
  replace b63 := t774.onB b63 (fun j hj => ⟨by have := b63.size; omega, by omega⟩)
  replace b26 := t774.onB b26 (fun j hj => ⟨by have := b26.size; omega, by omega⟩)
  replace hn := hn.kept t774 ⟨hn.lt, by omega⟩
  replace ho := ho.kept t774 ⟨ho.lt, by omega⟩
  replace q := t774.onB q (fun j hj => ⟨by have := q.size; omega, by omega⟩)
  replace r66 := r66.kept t774 ⟨r66.lt, by omega⟩
  replace r157 := r157.kept t774 ⟨r157.lt, by omega⟩
  refine Zq ?_; refine CC.region ?_; refine Zl r157 ?_
  refine LL.store rfl rfl rfl rfl ho (by exact Nat.le_of_ble_eq_true rfl) rfl rfl rfl rfl ?_
  intro W846 r847 b845 z848
  have hlb845 := ho.lt
  replace r847 : RowL W846 _ 33 [.slice (some { block := g1, off := 0 }) 16 16] := r847
  clear ho
  replace hkk := Zo hkk b845; replace rv8 := Zd rv8 b845; replace rw8 := Zd rw8 b845; replace hn := Zd hn b845; replace r66 := Zd r66 b845; replace r157 := Zd r157 b845
  have ho := r847
  clear r847
  refine ZL ?_; refine EE.end _ rfl rfl ?_
  exact ⟨rfl, ⟨g1, by assumption, by assumption, by omega⟩, hkk⟩
theorem grd1_calm (ge : Nat) (w : World) : CallsDIn Fence.wide 2 Tryz.prog 93 [Value.pointer (some ⟨ge, 0, none⟩)].toArray .returning w fun e u' w' => (∃ v, e = .returned v) ∧ u' = .returning ∧ w = w' := by
  refine X.recovers (n := 17) (d := 4) (e := 1) Tryz.func93 rfl rfl rfl rfl rfl rfl rfl rfl rfl rfl rfl (recover_calm) ?_
  refine Zr ?_; refine Zm ?_
  refine LL.val (R.eqNilI rfl rfl (by kernel_rfl)) rfl rfl rfl ?_
  refine Zq ?_; refine ZN ?_; refine ZK ?_; refine EE.end _ rfl rfl ?_
  exact ⟨⟨_, rfl⟩, rfl, rfl⟩
theorem grd1_pan (ge : Nat) (x0 : Int) (w : World) (h2 : RowL w ge 34 [.int .i64 x0]) : CallsDIn Fence.wide 2 Tryz.prog 93 [Value.pointer (some ⟨ge, 0, none⟩)].toArray (.panicking (chain1 refV)) w fun e u' w' => (∃ v, e = .returned v) ∧ u' = .panicking [{ v := refV, recovered := true }] ∧ RowL w' ge 34 [.int .i64 240] ∧ Kept (fun i => i < w.heap.size ∧ i ≠ ge) w w' := by
  refine X.recovers (n := 17) (d := 4) (e := 1) Tryz.func93 rfl rfl rfl rfl rfl rfl rfl rfl rfl rfl rfl (recover_one refV) ?_
  have hkk := Kept.refl (fun i => i < w.heap.size ∧ i ≠ ge) w
  have lge := h2.lt; refine Zr ?_; refine Zm ?_
  refine LL.val (R.neNilI rfl rfl rfl (by kernel_rfl)) rfl rfl rfl ?_
  refine Zq ?_; refine ZY ?_; refine Zr ?_; refine Zm ?_
  refine LL.val (R.assertT rfl rfl (by kernel_rfl)) rfl rfl rfl ?_
  refine Zm ?_; refine Zx ?_; refine Zx ?_; have l1 := h2.lt
  refine LL.alloc ([.int .i64 0]) rfl rfl rfl rfl rfl ?_
  intro W3 g4 eg4 r5 z6 b2
  replace h2 := h2.up b2; replace hkk := Zh hkk b2; have y7 := hkk.size
  refine LL.storeN (vs := [.int .i64 240]) rfl rfl rfl rfl r5 (by exact Nat.le_of_ble_eq_true rfl) (ones_of rfl) rfl rfl ?_
  intro W9 r10 b8 z11
  have hlb8 := r5.lt
  replace r10 : RowL W9 _ 160 [.int .i64 240] := r10
  clear r5
  replace h2 := Zd h2 b8; replace hkk := Zo hkk b8
  have r5 := r10
  clear r10
  refine Za ?_; refine Zq ?_; refine Zc ?_; refine Zr ?_; refine Zm ?_; refine Zt ?_; refine Zq ?_; refine ZN ?_; refine ZK ?_; refine ZT ?_; refine CC.region ?_; refine Zf ?_; refine Zl r5 ?_
  refine LL.store rfl rfl rfl rfl h2 (by exact Nat.le_of_ble_eq_true rfl) rfl rfl rfl rfl ?_
  intro W13 r14 b12 z15
  have hlb12 := h2.lt
  replace r14 : RowL W13 _ 34 [.int .i64 240] := r14
  clear h2
  replace hkk := Zo hkk b12; replace r5 := Zd r5 b12
  have h2 := r14
  clear r14
  refine ZL ?_; refine EE.end _ rfl rfl ?_
  exact ⟨⟨_, rfl⟩, rfl, h2, hkk⟩
theorem callsA {P : Program} {f : FuncId} {a b : Array Value} {w : World} {R : Ending → World → Prop} (h : a = b) (c : Calls P f a w R) : Calls P f b w R := h ▸ c
theorem guarded_R (F : FuncId) (cap : List Value) (eF : entB Tryz.prog F = true) (go : Nat) (Rp : Nat → World → Prop) (w : World) (hgo : go < w.heap.size)
    (hR : ∀ n X Y b, Rp n X → w.heap.size ≤ b → b < n → X.grownBy Y (some b) → Rp n Y)
    (hwork : ∀ W, Below w.heap.size w W → Calls Tryz.prog F cap.toArray W fun e W' => e = .returned (.tuple #[]) ∧ Rp W.heap.size W' ∧ Kept (KW W go) W W') :
    Calls Tryz.prog 76 #[.func (.func F) #[] cap.toArray] w fun e w' => e = .returned (.int .i64 0) ∧ (∃ n, w.heap.size ≤ n ∧ Rp n w') ∧ Kept (KW w go) w w' := by
  have q := Below.refl w.heap.size w
  have hkk := Kept.refl (KW w go) w
  refine X.fnP Tryz.func76 rfl (n := 6) rfl rfl ?_
  refine Zr ?_
  refine LL.alloc ([.int .i64 0]) rfl rfl rfl rfl rfl ?_
  intro W2 g3 eg3 r4 z5 b1
  replace q := Zu q b1; replace hkk := Zh hkk b1; have y6 := hkk.size; refine Zq ?_; refine Zr ?_
  refine LL.val (R.func rfl rfl rfl) rfl rfl rfl ?_
  refine LL.defer rfl rfl rfl rfl rfl rfl ?_; refine Zq ?_; refine Zr ?_; refine Zm ?_; have lr4 := r4.lt
  refine LL.call (R.callV rfl rfl rfl eF) rfl rfl rfl (callsA (by simp) (hwork _ q)) ?_
  rintro e W5 ⟨rfl, hr5, t5⟩
  refine ⟨_, rfl, ?_⟩
  replace r4 := r4.kept t5 ⟨r4.lt, by omega⟩
  have zt5 := t5.size
  replace hkk := hkk.trans (t5.less fun j hj => ⟨by have := hj.1; omega, hj.2⟩)
  have hlo : w.heap.size ≤ W2.heap.size := by omega
  have hb3 : g3 < W2.heap.size := by omega
  obtain ⟨N2, hN2⟩ : ∃ N, W2.heap.size = N := ⟨_, rfl⟩
  rw [hN2] at hr5 hlo hb3
  clear t5
  refine Zq ?_; refine Zr ?_
  refine LL.store rfl rfl rfl rfl r4 (by exact Nat.le_of_ble_eq_true rfl) rfl rfl rfl rfl ?_
  intro Wa2 ra3 ba1 za4
  have hlba1 := r4.lt
  replace ra3 : RowL Wa2 _ 34 [.int .i64 0] := ra3
  clear r4
  replace hkk := Zo hkk ba1
  have r4 := ra3
  clear ra3
  refine Zq ?_; refine ZR ?_
  (refine EE.retD (by kernel_rfl) (grd1_calm g3 _) rfl ?_; rintro e u' W6 ⟨hv, rfl, rfl⟩; exact ⟨hv, rfl, _, ⟨_, rfl, lv1 rfl (RowL.cell r4 rfl)⟩, rfl, ⟨N2, hlo, hR N2 _ _ g3 hr5 (by omega) hb3 (by assumption)⟩, hkk⟩)
theorem guarded_P (F : FuncId) (cap : List Value) (eF : entB Tryz.prog F = true) (go : Nat) (w : World) (hgo : go < w.heap.size)
    (hwork : ∀ W, Below w.heap.size w W → Calls Tryz.prog F cap.toArray W fun e W' => e = .panicked (chain1 refV) ∧ Kept (KW W go) W W') :
    Calls Tryz.prog 76 #[.func (.func F) #[] cap.toArray] w fun e w' => e = .returned (.int .i64 240) ∧ Kept (KW w go) w w' := by
  have q := Below.refl w.heap.size w
  have hkk := Kept.refl (KW w go) w
  refine X.fnP Tryz.func76 rfl (n := 6) rfl rfl ?_
  refine Zr ?_
  refine LL.alloc ([.int .i64 0]) rfl rfl rfl rfl rfl ?_
  intro W2 g3 eg3 r4 z5 b1
  replace q := Zu q b1; replace hkk := Zh hkk b1; have y6 := hkk.size; refine Zq ?_; refine Zr ?_
  refine LL.val (R.func rfl rfl rfl) rfl rfl rfl ?_
  refine LL.defer rfl rfl rfl rfl rfl rfl ?_; refine Zq ?_; refine Zr ?_; refine Zm ?_; have lr4 := r4.lt
  refine LL.callP (R.callV rfl rfl rfl eF) rfl rfl (callsA (by simp) (hwork _ q)) ?_
  rintro e W5 ⟨rfl, t5⟩
  refine ⟨_, rfl, ?_⟩
  replace r4 := r4.kept t5 ⟨r4.lt, by omega⟩
  have zt5 := t5.size
  replace hkk := hkk.trans (t5.less fun j hj => ⟨by have := hj.1; omega, hj.2⟩)
  refine EE.thenP ?_
  (refine EE.panD (by kernel_rfl) (grd1_pan g3 _ _ r4) rfl ?_; rintro e u' W6 ⟨hv, rfl, h2, hk⟩; exact ⟨hv, rfl, _, ⟨_, rfl, lv1 rfl (RowL.cell h2 rfl)⟩, rfl, hkk.trans (hk.less fun j hj => ⟨by have := hj.1; omega, by have := hj.1; omega⟩)⟩)
theorem check_F' (k l z : Int) (x : Option Addr) (n c : Nat) (m : List Ex) (r p : Int) (t : Bs) (w : World) (hv : ReadsT eE 3 w (.slice x n c) m) (hlen : m.length ≤ 1048576) (htl : t.length ≤ 1048576) (h : ¬okI k l z m r p t) : Calls Tryz.prog 117 #[inV k l z (.slice x n c) r p t] w fun e w' => e = .panicked (chain1 refV) ∧ Below w.heap.size w w' := by
  by_cases hk : k < 0 ∨ 3 < k
  · exact checkK_F k l z r p t x n c m w hv hlen hk
  rcases (by omega : k = 0 ∨ k = 1 ∨ k = 2 ∨ k = 3) with rfl | rfl | rfl | rfl
  · by_cases hl : l < 0 ∨ 65535 < l
    · exact check0_L l z r p t x n c m w hv hlen hl
    · by_cases hn : sameI 0 l z m r p t 0 0 0 [] 0 0 []
      · obtain ⟨_, rfl, rfl, rfl, rfl, rfl, rfl⟩ := hn
        exact absurd ⟨by omega, .inl ⟨rfl, rfl, rfl, rfl, rfl, rfl, rfl⟩⟩ h
      · exact check0_N l z r p t x n c m w hv hlen (by omega) hn
  · by_cases hl : l < 0 ∨ 65535 < l
    · exact check1_L l z r p t x n c m w hv hlen hl
    · by_cases hn : sameI 1 l z m r p t 1 l z m 0 0 []
      · obtain ⟨_, _, _, _, rfl, rfl, rfl⟩ := hn
        exact check1_M l z x n c m w hv hlen (by omega) fun hf => h ⟨by omega, .inr (.inl ⟨rfl, rfl, rfl, rfl, hf⟩)⟩
      · exact check1_N l z r p t x n c m w hv hlen (by omega) hn
  · by_cases hl : l < 0 ∨ 65535 < l
    · exact check2_L l z r p t x n c m w hv hlen hl
    · by_cases hn : sameI 2 l z m r p t 2 l 0 [] r p []
      · obtain ⟨_, _, rfl, rfl, _, _, rfl⟩ := hn
        exact check2_M l r p x n c [] w hv hlen rfl (by omega) fun hf => h ⟨by omega, .inr (.inr (.inl ⟨rfl, rfl, rfl, rfl, hf⟩))⟩
      · exact check2_N l z r p t x n c m w hv hlen (by omega) hn
  · by_cases hl : l < 0 ∨ 65535 < l
    · exact check3_L l z r p t x n c m w hv hlen hl
    · by_cases hn : sameI 3 l z m r p t 3 l 0 [] 0 0 t
      · obtain ⟨_, _, rfl, rfl, rfl, rfl, _⟩ := hn
        exact check3_M l t x n c [] w hv hlen rfl (by omega) htl fun hf => h ⟨by omega, .inr (.inr (.inr ⟨rfl, rfl, rfl, rfl, rfl, hf⟩))⟩
      · exact check3_N l z r p t x n c m w hv hlen (by omega) hn
set_option linter.unusedVariables false
set_option linter.unusedSimpArgs false
set_option maxRecDepth 100000
set_option maxHeartbeats 8000000
/-- An inode's words. -/
def inoW (k l z : Int) (m : List Ex) (r p : Int) (t : Bs) : List Nat :=
  if k = 1 then layF (hdN 1 l.toNat) z.toNat m else if k = 2 then layD (hdN 2 l.toNat) r.toNat p.toNat else if k = 3 then layK (hdN 3 l.toNat) t else hdN 0 0
theorem words1_any (k l z : Int) (x : Option Addr) (n c : Nat) (m : List Ex) (r p : Int) (t : Bs) (go gn : Nat) (v0 : Value) (w : World) (hS : Start w) (hv : ReadsT eE 3 w (.slice x n c) m) (hlen : m.length ≤ 1048576) (h : okI k l z m r p t) (hn : RowL w gn 80 (inL k l z (.slice x n c) r p t)) (ho : RowL w go 33 [v0]) (hne : go ≠ gn ∧ 0 < go) : Calls Tryz.prog 116 #[.pointer (some ⟨gn, 0, none⟩), .pointer (some ⟨go, 0, none⟩)] w (wordsP go (inoW k l z m r p t) w) := by
  obtain ⟨hl, ⟨rfl, rfl, rfl, hm, rfl, rfl, rfl⟩ | ⟨rfl, rfl, rfl, rfl, hf⟩ | ⟨rfl, rfl, hm, rfl, h1⟩ | ⟨rfl, rfl, hm, rfl, rfl, h1⟩⟩ := h
  · exact words1_0 x n c m go gn v0 w hS hv hlen hm hn ho hne
  · obtain ⟨l, rfl⟩ : ∃ y : Nat, l = (y : Int) := ⟨l.toNat, by omega⟩
    have hz := hf.1
    obtain ⟨z, rfl⟩ : ∃ y : Nat, z = (y : Int) := ⟨z.toNat, by omega⟩
    exact words1_1 l z x n c m go gn v0 w hS hv hlen (by omega) hf hn ho hne
  · obtain ⟨l, rfl⟩ : ∃ y : Nat, l = (y : Int) := ⟨l.toNat, by omega⟩
    obtain ⟨r, rfl⟩ : ∃ y : Nat, r = (y : Int) := ⟨r.toNat, by omega⟩
    obtain ⟨p, rfl⟩ : ∃ y : Nat, p = (y : Int) := ⟨p.toNat, by omega⟩
    exact words1_2 l r p x n c m go gn v0 w hS hv hlen hm (by omega) (by omega) hn ho hne
  · obtain ⟨l, rfl⟩ : ∃ y : Nat, l = (y : Int) := ⟨l.toNat, by omega⟩
    exact words1_3 l t x n c m go gn v0 w hS hv hlen hm (by omega) h1 hn ho hne
section
variable (k l z : Int) (x : Option Addr) (n c : Nat) (m : List Ex) (r p : Int) (t : Bs)
theorem words1_bad (go gn gk : Nat) (w : World) (hv : ReadsT eE 3 w (.slice x n c) m) (hlen : m.length ≤ 1048576) (htl : t.length ≤ 1048576) (h : ¬okI k l z m r p t) (hn : RowL w gn 80 (inL k l z (.slice x n c) r p t)) : Calls Tryz.prog 116 #[.pointer (some ⟨gn, 0, none⟩), .pointer (some ⟨go, 0, none⟩)] w fun e w' => e = .panicked (chain1 refV) ∧ Kept (KW w gk) w w' := by
  have hkk := Kept.refl (KW w gk) w
  have q := Below.refl w.heap.size w
  refine X.fnP Tryz.func116 rfl (n := 25) rfl rfl ?_
  refine Zr ?_; refine Zv hn ?_
  (refine LL.callP (R.call rfl rfl rfl) rfl rfl (check_F' k l z x n c m r p t _ (hv.up q) hlen htl h) ?_; rintro e @W ⟨rfl, b9⟩; refine ⟨_, rfl, ?_⟩; replace hkk := hkk.trans (bkept b9 (fun j hj => hj.1)))
  refine EE.thenP ?_; refine EE.panM ?_
  exact ⟨rfl, hkk⟩
end
set_option linter.unusedVariables false
set_option linter.unusedSimpArgs false
set_option maxRecDepth 100000
set_option maxHeartbeats 8000000
section
variable (k l z : Int) (x : Option Addr) (n c : Nat) (m : List Ex) (r p : Int) (t : Bs)
/-- What Words hands back. -/
def wsP (ws : List Nat) (w0 : World) (e : Ending) (w : World) : Prop := ∃ g, e = .returned (.tuple #[.slice (some ⟨g, 0, none⟩) 16 16, .int .i64 0]) ∧ RowL w g 25 (ints .u64 ws) ∧ w0.heap.size ≤ g ∧ Below w0.heap.size w0 w
theorem words_ok (w : World) (hS : Start w) (hv : ReadsT eE 3 w (.slice x n c) m) (hlen : m.length ≤ 1048576) (h : okI k l z m r p t) : Calls Tryz.prog 81 #[inV k l z (.slice x n c) r p t] w (wsP (inoW k l z m r p t) w) := by
  unfold wsP
  have q := Below.refl w.heap.size w
  have hS0 := hS.pos
  have hvF : ∀ X, Below w.heap.size w X → ReadsT eE 3 X (.slice x n c) m := fun X b => hv.up b
  have hSF : ∀ X, Below w.heap.size w X → Start X := fun X b => hS.up b
  clear hv hS
  refine X.fn Tryz.func81 rfl (n := 10) rfl rfl ?_
  refine Zr ?_
  refine LL.box [.int .i64 k, .int .i64 l, .int .i64 z, .slice x n c, .int .i64 r, .int .i64 p, strV t] rfl rfl rfl rfl rfl ?_
  intro W2 g3 eg3 r4 z5 b1
  replace q := Zu q b1; refine Za ?_; refine Za ?_; refine Zq ?_; refine Zr ?_; have l6 := r4.lt
  refine LL.alloc ([.slice none 0 0]) rfl rfl rfl rfl rfl ?_
  intro W8 g9 eg9 r10 z11 b7
  replace r4 := r4.up b7; replace b1 := Zu b1 b7; replace q := Zu q b7; refine Zq ?_; refine Zr ?_
  refine LL.val (R.func rfl rfl rfl) rfl rfl rfl ?_
  (have lg4 := r4.lt; have lg10 := r10.lt; refine Zy (R.call rfl rfl rfl) (guarded_R _ [Value.pointer (some ⟨g3, 0, none⟩), .pointer (some ⟨g9, 0, none⟩)] (by kernel_rfl) g9 (fun n X => ∃ gw, RowL X g9 33 [.slice (some ⟨gw, 0, none⟩) 16 16] ∧ RowL X gw 25 (ints .u64 (inoW k l z m r p t)) ∧ n ≤ gw) _ (by omega) (fun n X Y b ⟨gw, h1, h2, h3⟩ hb1 hb2 hg => ⟨gw, h1.gr hg (by omega), h2.gr hg (by omega), h3⟩) (fun W' b' => words1_any k l z x n c m r p t g9 g3 _ W' (hSF _ (q.trans (b'.mono q.size))) (hvF _ (q.trans (b'.mono q.size))) hlen h (r4.up b') (r10.up b') ⟨by omega, by omega⟩)) ?_; rintro e @W ⟨rfl, ⟨n9, hn9, gw, r91, r92, h93⟩, t9⟩; refine ⟨_, rfl, ?_⟩; replace q := t9.onB q (fun j hj => ⟨by omega, by omega⟩); clear r4 b1 b7 r10)
  refine Za ?_; refine Zq ?_; refine Zr ?_; refine Zl r91 ?_; refine Zm ?_; refine Za ?_; refine Za ?_; refine Zq ?_; refine ZR ?_; refine EE.ret _ rfl rfl ?_
  exact ⟨gw, rfl, r92, by omega, q⟩
theorem words_no (w : World) (hv : ReadsT eE 3 w (.slice x n c) m) (hlen : m.length ≤ 1048576) (htl : t.length ≤ 1048576) (h : ¬okI k l z m r p t) : Calls Tryz.prog 81 #[inV k l z (.slice x n c) r p t] w fun e w' => e = .returned (.tuple #[.slice none 0 0, .int .i64 240]) ∧ Below w.heap.size w w' := by
  have q := Below.refl w.heap.size w
  have hvF : ∀ X, Below w.heap.size w X → ReadsT eE 3 X (.slice x n c) m := fun X b => hv.up b
  clear hv
  refine X.fn Tryz.func81 rfl (n := 10) rfl rfl ?_
  refine Zr ?_
  refine LL.box [.int .i64 k, .int .i64 l, .int .i64 z, .slice x n c, .int .i64 r, .int .i64 p, strV t] rfl rfl rfl rfl rfl ?_
  intro W2 g3 eg3 r4 z5 b1
  replace q := Zu q b1; refine Za ?_; refine Za ?_; refine Zq ?_; refine Zr ?_; have l6 := r4.lt
  refine LL.alloc ([.slice none 0 0]) rfl rfl rfl rfl rfl ?_
  intro W8 g9 eg9 r10 z11 b7
  replace r4 := r4.up b7; replace b1 := Zu b1 b7; replace q := Zu q b7; refine Zq ?_; refine Zr ?_
  refine LL.val (R.func rfl rfl rfl) rfl rfl rfl ?_
  (have lg4 := r4.lt; have lg10 := r10.lt; refine Zy (R.call rfl rfl rfl) (guarded_P _ [Value.pointer (some ⟨g3, 0, none⟩), .pointer (some ⟨g9, 0, none⟩)] (by kernel_rfl) g3 _ (by omega) (fun W' b' => words1_bad k l z x n c m r p t g9 g3 g3 W' (hvF _ (q.trans (b'.mono q.size))) hlen htl h (r4.up b'))) ?_; rintro e @W ⟨rfl, t9⟩; refine ⟨_, rfl, ?_⟩; replace q := t9.onB q (fun j hj => ⟨by omega, by omega⟩); replace r10 := r10.kept t9 ⟨by omega, by omega⟩; clear r4 b1 b7)
  refine Za ?_; refine Zq ?_; refine Zr ?_; refine Zl r10 ?_; refine Zm ?_; refine Za ?_; refine Za ?_; refine Zq ?_; refine ZR ?_; refine EE.ret _ rfl rfl ?_
  exact ⟨rfl, q⟩
end
theorem fld_k (x : Nat) (hx : x < 18446744073709551616) (w : World) : Calls Tryz.prog 79 #[.int .u64 (x : Int), .int .i64 0, .int .i64 8] w fun e w' => e = .returned (.tuple #[.int .u64 ((x % 256 : Nat) : Int), .int .i64 0]) ∧ w = w' := by
  have h := field_ok x 0 8 hx (by omega) (by omega) w
  rw [show x / 2 ^ 0 % 2 ^ 8 = x % 256 by simp] at h
  exact h
theorem fld_l (x : Nat) (hx : x < 18446744073709551616) (w : World) : Calls Tryz.prog 79 #[.int .u64 (x : Int), .int .i64 8, .int .i64 24] w fun e w' => e = .returned (.tuple #[.int .u64 ((x / 256 % 16777216 : Nat) : Int), .int .i64 0]) ∧ w = w' := by
  have h := field_ok x 8 24 hx (by omega) (by omega) w
  rw [show x / 2 ^ 8 % 2 ^ 24 = x / 256 % 16777216 by simp] at h
  exact h
theorem take_more {xs ys : List Nat} {i : Nat} (h : xs.take i = ys.take i) (hx : i < xs.length) (hy : i < ys.length) (e : xs[i]?.getD 0 = ys[i]?.getD 0) : xs.take (i + 1) = ys.take (i + 1) := by
  rw [List.getElem?_eq_getElem hx, List.getElem?_eq_getElem hy] at e
  rw [List.take_succ_eq_append_getElem hx, List.take_succ_eq_append_getElem hy, h]
  simp only [Option.getD_some] at e
  rw [e]
set_option maxRecDepth 100000 in
set_option maxHeartbeats 4000000 in
theorem weq_any (va vb : Value) (xs ys : List Nat) (w : World) (ha : Reads w va (ints .u64 xs)) (hb : Reads w vb (ints .u64 ys)) (hlx : xs.length ≤ 1048576) (hly : ys.length ≤ 1048576) :
    Calls Tryz.prog 40 #[va, vb] w fun e w' => e = .returned (.bool (decide (xs = ys))) ∧ Below w.heap.size w w' := by
  have q := Below.refl w.heap.size w
  obtain ⟨N, hN⟩ : ∃ N, xs.length = N := ⟨_, rfl⟩
  obtain ⟨N2, hN2⟩ : ∃ N2, ys.length = N2 := ⟨_, rfl⟩
  obtain ⟨a, cap, rfl, hc, hcells⟩ := ha.intsN hN
  obtain ⟨a2, cap2, rfl, hc2, hcells2⟩ := hb.intsN hN2
  rw [hN] at hlx
  rw [hN2] at hly
  by_cases hne : N = N2
  case neg =>
    have hd : xs ≠ ys := fun e => hne (by rw [← hN, ← hN2, e])
    refine X.fn Tryz.func40 rfl (n := 26) rfl rfl ?_
    refine Zr ?_; refine Za ?_; refine Zq ?_; refine Zc ?_; refine Zr ?_; refine Zm ?_; refine Zn ?_; refine Zm ?_; refine Zn ?_; refine ZneT ?_; refine Zq ?_; refine ZY ?_; refine Zr ?_; refine Za ?_; refine Zq ?_; refine ZR ?_; refine EE.thenR ?_; refine EE.ret _ rfl rfl ?_
    exact ⟨by simp [resV, hd], q⟩
  subst hne
  refine X.fn Tryz.func40 rfl (n := 26) rfl rfl ?_
  refine Zr ?_; refine Za ?_; refine Zq ?_; refine Zc ?_; refine Zr ?_; refine Zm ?_; refine Zn ?_; refine Zm ?_; refine Zn ?_; refine ZneF ?_; refine Zq ?_; refine ZN ?_; refine ZK ?_; refine ZT ?_; refine Zc ?_; refine Zr ?_; refine Zm ?_; refine Zn ?_; refine Zm ?_; refine Zq ?_; refine CC.block ?_
  refine CC.loop (α := Nat) (fun i => [(0, .slice a N cap), (1, .slice a2 N cap2), (4, .bool false), (12, .int .i64 (N : Int)), (13, .int .i64 (i : Int))]) (fun i wr => Below w.heap.size w wr ∧ i ≤ N ∧ xs.take i = ys.take i) (fun i => N - i) 0 ⟨rfl, rfl, rfl, rfl, rfl, trivial⟩ ⟨q, by omega, by simp⟩ ?_
  rintro i wr ⟨q, hi, ht⟩
  by_cases h1 : i < N
  case neg =>
    obtain rfl : i = N := by omega
    have he : xs = ys := by rwa [List.take_of_length_le (by omega), List.take_of_length_le (by omega)] at ht
    refine Zr ?_; refine ZltF ?_; refine Zq ?_; refine Zc ?_; refine ZN ?_; refine CC.exit ?_; refine EE.thenX ?_; refine EE.thenX ?_; refine EE.inX ?_; refine ZT ?_; refine Zr ?_; refine Za ?_; refine Zq ?_; refine ZR ?_; refine EE.ret _ rfl rfl ?_
    exact ⟨by simp [resV, he], q⟩
  obtain ⟨b, off, rfl, hbl, hcs⟩ := hcells (by omega)
  obtain ⟨b2, off2, rfl, hbl2, hcs2⟩ := hcells2 (by omega)
  have c1 : wr.cell? ⟨b, off + i, none⟩ = some (.int .u64 ((xs[i]?.getD 0 : Nat) : Int)) := (World.cell?_of_block (q.block b hbl)).trans (hcs i h1)
  have c2 : wr.cell? ⟨b2, off2 + i, none⟩ = some (.int .u64 ((ys[i]?.getD 0 : Nat) : Int)) := (World.cell?_of_block (q.block b2 hbl2)).trans (hcs2 i h1)
  by_cases hst : xs[i]?.getD 0 = ys[i]?.getD 0
  · have hm := take_more ht (by omega) (by omega) hst
    refine Zr ?_; refine ZltT ?_; refine Zq ?_; refine Zc ?_; refine ZY ?_; refine ZK ?_; refine ZT ?_; refine Zc ?_; refine CC.block ?_; refine Zr ?_; refine Zm ?_; refine Za ?_; refine Zq ?_; refine Zc ?_
    refine CC.quietB (by kernel_rfl) (by kernel_rfl) (fun Wc2 bc1 zc3 => ?_)
    replace q := Zu q bc1; replace c1 := cell_up c1 bc1; replace c2 := cell_up c2 bc1
    refine SS.val (R.move rfl rfl) rfl rfl ?_
    refine SS.val (R.move rfl rfl) rfl rfl ?_
    refine SS.val (R.index rfl rfl rfl (I.ixS1 rfl (by omega))) rfl rfl ?_
    refine SS.val (R.load rfl rfl (I.ld1 rfl (by assumption))) rfl rfl ?_
    refine SS.val (R.move rfl rfl) rfl rfl ?_
    refine SS.val (R.move rfl rfl) rfl rfl ?_
    refine SS.val (R.index rfl rfl rfl (I.ixS1 rfl (by omega))) rfl rfl ?_
    refine SS.val (R.load rfl rfl (I.ld1 rfl (by assumption))) rfl rfl ?_
    refine SS.val (R.neF rfl rfl rfl (by omega)) rfl rfl ?_
    refine SS.nilQ ?_
    refine ZT ?_; refine ZN ?_; refine ZK ?_; refine EE.inN ?_; refine ZT ?_; refine CC.region ?_
    refine LL.val (R.addNc rfl rfl rfl rfl (by omega)) rfl rfl rfl ?_
    refine Zm ?_; refine ZL ?_
    exact EE.round (i + 1) ⟨rfl, rfl, rfl, rfl, rfl, trivial⟩ ⟨q, by omega, hm⟩ (by omega)
  · have hd : xs ≠ ys := fun e => hst (by rw [e])
    refine Zr ?_; refine ZltT ?_; refine Zq ?_; refine Zc ?_; refine ZY ?_; refine ZK ?_; refine ZT ?_; refine Zc ?_; refine CC.block ?_; refine Zr ?_; refine Zm ?_; refine Za ?_; refine Zq ?_; refine Zc ?_
    refine CC.quietB (by kernel_rfl) (by kernel_rfl) (fun Wd2 bd1 zd3 => ?_)
    replace q := Zu q bd1; replace c1 := cell_up c1 bd1; replace c2 := cell_up c2 bd1
    refine SS.val (R.move rfl rfl) rfl rfl ?_
    refine SS.val (R.move rfl rfl) rfl rfl ?_
    refine SS.val (R.index rfl rfl rfl (I.ixS1 rfl (by omega))) rfl rfl ?_
    refine SS.val (R.load rfl rfl (I.ld1 rfl (by assumption))) rfl rfl ?_
    refine SS.val (R.move rfl rfl) rfl rfl ?_
    refine SS.val (R.move rfl rfl) rfl rfl ?_
    refine SS.val (R.index rfl rfl rfl (I.ixS1 rfl (by omega))) rfl rfl ?_
    refine SS.val (R.load rfl rfl (I.ld1 rfl (by assumption))) rfl rfl ?_
    refine SS.val (R.neT rfl rfl rfl (by omega)) rfl rfl ?_
    refine SS.nilQ ?_
    refine ZT ?_; refine ZY ?_; refine Zr ?_; refine Za ?_; refine Zq ?_; refine ZR ?_; refine EE.inR ?_; refine EE.thenR ?_; refine EE.thenR ?_; refine EE.inR ?_; refine EE.thenR ?_; refine EE.ret _ rfl rfl ?_
    exact ⟨by simp [resV, hd], q⟩
theorem WdsAt.kept {W X : World} {bk off gu : Nat} {ws : List Nat} (h : WdsAt W bk off ws) (k : Kept (KU W gu) W X) (hne : bk ≠ gu) : WdsAt X bk off ws :=
  ⟨fun j x hj => (World.cell?_of_block (k.block bk ⟨h.lt, hne⟩)).trans (h.cells j x hj), Nat.lt_of_lt_of_le h.lt k.size⟩
theorem WdsAt.up {W X : World} {bk off : Nat} {ws : List Nat} (h : WdsAt W bk off ws) (b : Below W.heap.size W X) : WdsAt X bk off ws :=
  ⟨fun j x hj => cell_up (h.cells j x hj) b, Nat.lt_of_lt_of_le h.lt b.size⟩
theorem inoW_len {k l z : Int} {m : List Ex} {r p : Int} {t : Bs} (h : okI k l z m r p t) : (inoW k l z m r p t).length = 16 := by
  have hd : ∀ k l, (hdN k l).length = 16 := fun k l => by simp [hdN]
  obtain ⟨hl, ⟨rfl, rfl, rfl, hm, rfl, rfl, rfl⟩ | ⟨rfl, rfl, rfl, rfl, hf⟩ | ⟨rfl, rfl, hm, rfl, h1⟩ | ⟨rfl, rfl, hm, rfl, rfl, h1⟩⟩ := h
  · exact hd 0 0
  · show (layF _ _ _).length = 16
    have := wrdN_len hf.2.1
    exact putL_len (putL_len (hd 1 _) (by simp)) (by omega)
  · show (layD _ _ _).length = 16
    exact putL_len (hd 2 _) (by simp)
  · show (layK _ _).length = 16
    have := layL_len t
    exact putL_len (putL_len (hd 3 _) (by simp)) (by omega)
theorem weq_T {v1 v2 : Value} {l : List Nat} {w : World} (h1 : Reads w v1 (ints .u64 l)) (h2 : Reads w v2 (ints .u64 l)) (hl : l.length ≤ 1048576) : Calls Tryz.prog 40 #[v1, v2] w fun e w' => e = .returned (.bool true) ∧ Below w.heap.size w w' := by
  have h := weq_any v1 v2 l l w h1 h2 hl hl
  rw [decide_eq_true rfl] at h
  exact h
theorem weq_F {v1 v2 : Value} {l l2 : List Nat} {w : World} (h1 : Reads w v1 (ints .u64 l)) (h2 : Reads w v2 (ints .u64 l2)) (hl : l.length ≤ 1048576) (hl2 : l2.length ≤ 1048576) (hne : l ≠ l2) : Calls Tryz.prog 40 #[v1, v2] w fun e w' => e = .returned (.bool false) ∧ Below w.heap.size w w' := by
  have h := weq_any v1 v2 l l2 w h1 h2 hl hl2
  rw [decide_eq_false hne] at h
  exact h
theorem WdsAt.all {X : World} {bk off cap : Nat} {ws : List Nat} (h : WdsAt X bk off ws) (hl : ws.length = 16) (hc : 16 ≤ cap) : Reads X (.slice (some ⟨bk, off, none⟩) 16 cap) (ints .u64 ws) := by
  have h2 := h.reads 0 16 cap (by omega) hc
  rw [show (ws.drop 0).take 16 = ws by rw [List.drop_zero, List.take_of_length_le (by omega)]] at h2
  exact h2
/-- What Of's work leaves. -/
def ofP (go : Nat) (k l z : Int) (m : List Ex) (r p : Int) (t : Bs) (w0 : World) (e : Ending) (w : World) : Prop := e = .returned (.tuple #[]) ∧ (∃ v, RowL w go 80 (inL k l z v r p t) ∧ ReadsT eE 3 w v m ∧ ∀ b off n c, v = .slice (some ⟨b, off, none⟩) n c → w0.heap.size ≤ b) ∧ Kept (KW w0 go) w0 w
theorem of1_1R (gk : Nat) (gs go bk off cap : Nat) (ws : List Nat) (w : World) (hS : Start w) (hws : ws.length = 16) (hwb : ∀ x ∈ ws, x < 18446744073709551616) (hcap : 16 ≤ cap) (hs : RowL w gs 33 [.slice (some ⟨bk, off, none⟩) 16 cap]) (hW : WdsAt w bk off ws) (ho : RowL w go 80 (inL 0 0 0 (.slice none 0 0) 0 0 [])) (hne : go ≠ gs ∧ 0 < go ∧ bk ≠ go) (x0 : Nat) (h0 : ws[0]? = some x0) (hx0 : x0 ≠ 0) (l : Nat) (el : x0 / 256 % 16777216 = l) (hk : x0 % 256 = 1) (x1 : Nat) (h1 : ws[1]? = some x1) (hr : 65536 < x1 ∨ ¬mapW (wsZ ws)) : Calls Tryz.prog 77 #[.pointer (some ⟨gs, 0, none⟩), .pointer (some ⟨go, 0, none⟩)] w fun e w' => e = .panicked (chain1 refV) ∧ Kept (KW w gk) w w' := by
  have hkk := Kept.refl (KW w gk) w
  have lgs := hs.lt; have lgo := ho.lt; have lbk := hW.lt
  have hS0 := hS.pos
  have hWF : ∀ X, Below w.heap.size w X → WdsAt X bk off ws := fun X b => hW.up b
  have hSF : ∀ X, Below w.heap.size w X → Start X := fun X b => hS.up b
  have hx64 := hwb x0 (List.mem_of_getElem? h0)
  have c0 : w.cell? ⟨bk, off + 0, none⟩ = some (.int .u64 (x0 : Int)) := hW.cells 0 x0 h0
  have q := Below.refl w.heap.size w
  clear hW hS
  have hll : l < 16777216 := by omega
  refine X.fnP Tryz.func77 rfl (n := 70) rfl rfl ?_
  refine Zr ?_; refine Zl hs ?_; refine Zn ?_; refine ZneF ?_
  refine Zy (R.call rfl rfl rfl) (refuse_F _) ?_
  rintro e W' ⟨rfl, rfl⟩
  refine ⟨_, rfl, ?_⟩; refine Zq ?_; refine Zc ?_; refine Zr ?_; refine Zl hs ?_; refine Zi ?_; refine Zk ?_; refine ZeqF ?_; refine Zq ?_; refine ZN ?_; refine ZK ?_; refine ZT ?_; refine Zr ?_; refine Zl hs ?_; refine Zi ?_; refine Zk ?_
  (refine Zy (R.call rfl rfl rfl) (fld_k x0 hx64 _) ?_; rintro e _ ⟨rfl, rfl⟩; rw [hk]; refine ⟨_, rfl, ?_⟩)
  refine Zm ?_; refine Zx ?_; refine Zx ?_; refine Za ?_; refine Za ?_; refine Zq ?_; refine Zr ?_; refine Zl hs ?_; refine Zi ?_; refine Zk ?_
  (refine Zy (R.call rfl rfl rfl) (fld_l x0 hx64 _) ?_; rintro e _ ⟨rfl, rfl⟩; rw [el]; refine ⟨_, rfl, ?_⟩)
  refine Zm ?_; refine Zx ?_; refine Zx ?_; refine Za ?_; refine Za ?_; refine Zq ?_; refine Zr ?_
  refine Zy (R.call rfl rfl rfl) (kinds_any _) ?_
  rintro e W2 ⟨g4, k5, rfl, h3, b1⟩
  refine ⟨_, rfl, ?_⟩; have zb1 := b1.size; replace hs := hs.up b1; replace ho := ho.up b1; replace hkk := Zh hkk b1; have y7 := hkk.size; replace c0 := cell_up c0 b1; replace q := Zu q b1; refine Zm ?_
  refine LL.val (R.convI rfl rfl rfl rfl (wrapI (by omega) (by omega))) rfl rfl rfl ?_
  (refine LL.val (R.lookKT rfl rfl zKeys (by rfl) (z := kdZ) (by kernel_rfl) (by assumption) (1 : Int) rfl kF_1) rfl rfl rfl ?_)
  refine Zm ?_; refine Zx ?_; refine Zx ?_; have l8 := hs.lt; have l9 := ho.lt
  refine LL.alloc ([Value.nilFunc, Value.nilFunc, Value.nilFunc, Value.nilFunc]) rfl rfl rfl rfl rfl ?_
  intro W11 g12 eg12 r13 z14 b10
  replace h3 := h3.up b10; replace hs := hs.up b10; replace ho := ho.up b10; replace hkk := Zh hkk b10; have y15 := hkk.size; replace c0 := cell_up c0 b10; replace q := Zu q b10
  refine LL.storeN (vs := [fnV kd1.1, fnV kd1.2.1, fnV kd1.2.2.1, fnV kd1.2.2.2]) rfl rfl rfl rfl r13 (by exact Nat.le_of_ble_eq_true rfl) (ones_of rfl) rfl rfl ?_
  intro W17 r18 b16 z19
  have hlb16 := r13.lt
  replace r18 : RowL W17 _ 140 [fnV kd1.1, fnV kd1.2.1, fnV kd1.2.2.1, fnV kd1.2.2.2] := r18
  clear r13
  replace hs := Zd hs b16; replace ho := Zd ho b16; replace hkk := Zo hkk b16; replace c0 := Ze c0 b16; replace q := Zg q b16
  have r13 := r18
  clear r18
  refine Za ?_; refine Zq ?_; refine Zr ?_; refine Zm ?_; refine Zt ?_
  refine Zy (R.call rfl rfl rfl) (refuse_F _) ?_
  rintro e W' ⟨rfl, rfl⟩
  refine ⟨_, rfl, ?_⟩; refine Zq ?_; refine Zr ?_; refine Zm ?_
  refine LL.val (R.convI rfl rfl rfl rfl (wrapI (by omega) (by omega))) rfl rfl rfl ?_
  refine Zm ?_
  refine LL.val (R.convI rfl rfl rfl rfl (wrapI (by omega) (by omega))) rfl rfl rfl ?_
  refine LL.val (R.buildV rfl rfl (v := .agg #[Value.int IntKind.i64 ↑1, Value.int IntKind.i64 ↑l, Value.int IntKind.i64 0, Value.slice none 0 0, Value.int IntKind.i64 0, Value.int IntKind.i64 0, Value.string { data := #[] }]) (fun _ => by kernel_rfl)) rfl rfl rfl ?_
  refine LL.val (R.buildV rfl rfl (v := .agg #[Value.int IntKind.i64 1, Value.int IntKind.i64 ↑l, Value.int IntKind.i64 0, Value.slice none 0 0, Value.int IntKind.i64 0, Value.int IntKind.i64 0, Value.string { data := #[] }]) (fun _ => by kernel_rfl)) rfl rfl rfl ?_
  have l20 := hs.lt; have l21 := ho.lt; have l22 := r13.lt
  refine LL.alloc ([.int .i64 0, .int .i64 0, .int .i64 0, .slice none 0 0, .int .i64 0, .int .i64 0, .string { data := { toList := [] } }]) rfl rfl rfl rfl rfl ?_
  intro W24 g25 eg25 r26 z27 b23
  replace hs := hs.up b23; replace ho := ho.up b23; replace hkk := Zh hkk b23; have y28 := hkk.size; replace c0 := cell_up c0 b23; replace q := Zu q b23; replace r13 := r13.up b23
  refine LL.storeN (vs := [.int .i64 1, .int .i64 ↑l, .int .i64 0, .slice none 0 0, .int .i64 0, .int .i64 0, .string { data := #[] }]) rfl rfl rfl rfl r26 (by exact Nat.le_of_ble_eq_true rfl) (ones_of rfl) rfl rfl ?_
  intro W30 r31 b29 z32
  have hlb29 := r26.lt
  replace r31 : RowL W30 _ 145 [.int .i64 1, .int .i64 ↑l, .int .i64 0, .slice none 0 0, .int .i64 0, .int .i64 0, .string { data := #[] }] := r31
  clear r26
  replace hs := Zd hs b29; replace ho := Zd ho b29; replace hkk := Zo hkk b29; replace c0 := Ze c0 b29; replace q := Zg q b29; replace r13 := Zd r13 b29
  have r26 := r31
  clear r31
  refine Zq ?_; refine Zr ?_; refine Zf ?_; refine Zl r13 ?_; refine Zl hs ?_
  (refine LL.callP (R.callV rfl rfl rfl rfl) rfl rfl (rd1_F _ bk off cap ws 1 l 0 _ 0 0 [] _ (hSF _ q) (by omega) hws hwb (by assumption) (fun X hX => (hWF _ q).kept hX (by omega)) x1 h1 hr hcap) ?_; rintro e @W ⟨rfl, t9⟩; refine ⟨_, rfl, ?_⟩; replace hkk := hkk.trans (t9.less fun j hj => ⟨by have := hj.1; omega, by have := hj.1; omega⟩))
  refine EE.thenP ?_; refine EE.panM ?_
  exact ⟨rfl, hkk⟩
theorem of1_1C (gk : Nat) (gs go bk off cap : Nat) (ws : List Nat) (w : World) (hS : Start w) (hws : ws.length = 16) (hwb : ∀ x ∈ ws, x < 18446744073709551616) (hcap : 16 ≤ cap) (hs : RowL w gs 33 [.slice (some ⟨bk, off, none⟩) 16 cap]) (hW : WdsAt w bk off ws) (ho : RowL w go 80 (inL 0 0 0 (.slice none 0 0) 0 0 [])) (hne : go ≠ gs ∧ 0 < go ∧ bk ≠ go) (x0 : Nat) (h0 : ws[0]? = some x0) (hx0 : x0 ≠ 0) (l : Nat) (el : x0 / 256 % 16777216 = l) (hk : x0 % 256 = 1) (x1 : Nat) (h1 : ws[1]? = some x1) (hr1 : x1 ≤ 65536) (hr2 : mapW (wsZ ws)) (hok1 : ¬okI 1 (l : Int) (x1 : Int) (outZ (wsZ ws)) 0 0 []) : Calls Tryz.prog 77 #[.pointer (some ⟨gs, 0, none⟩), .pointer (some ⟨go, 0, none⟩)] w fun e w' => e = .panicked (chain1 refV) ∧ Kept (KW w gk) w w' := by
  have hkk := Kept.refl (KW w gk) w
  have lgs := hs.lt; have lgo := ho.lt; have lbk := hW.lt
  have hS0 := hS.pos
  have hWF : ∀ X, Below w.heap.size w X → WdsAt X bk off ws := fun X b => hW.up b
  have hSF : ∀ X, Below w.heap.size w X → Start X := fun X b => hS.up b
  have hx64 := hwb x0 (List.mem_of_getElem? h0)
  have c0 : w.cell? ⟨bk, off + 0, none⟩ = some (.int .u64 (x0 : Int)) := hW.cells 0 x0 h0
  have q := Below.refl w.heap.size w
  clear hW hS
  have hll : l < 16777216 := by omega
  have hml : ((outZ (wsZ ws)) : List Ex).length ≤ 1048576 := by have := outZ_len (wsZ ws); have := wsZ_len hws; omega
  have htl : ([] : Bs).length ≤ 1048576 := by simp
  refine X.fnP Tryz.func77 rfl (n := 70) rfl rfl ?_
  refine Zr ?_; refine Zl hs ?_; refine Zn ?_; refine ZneF ?_
  refine Zy (R.call rfl rfl rfl) (refuse_F _) ?_
  rintro e W' ⟨rfl, rfl⟩
  refine ⟨_, rfl, ?_⟩; refine Zq ?_; refine Zc ?_; refine Zr ?_; refine Zl hs ?_; refine Zi ?_; refine Zk ?_; refine ZeqF ?_; refine Zq ?_; refine ZN ?_; refine ZK ?_; refine ZT ?_; refine Zr ?_; refine Zl hs ?_; refine Zi ?_; refine Zk ?_
  (refine Zy (R.call rfl rfl rfl) (fld_k x0 hx64 _) ?_; rintro e _ ⟨rfl, rfl⟩; rw [hk]; refine ⟨_, rfl, ?_⟩)
  refine Zm ?_; refine Zx ?_; refine Zx ?_; refine Za ?_; refine Za ?_; refine Zq ?_; refine Zr ?_; refine Zl hs ?_; refine Zi ?_; refine Zk ?_
  (refine Zy (R.call rfl rfl rfl) (fld_l x0 hx64 _) ?_; rintro e _ ⟨rfl, rfl⟩; rw [el]; refine ⟨_, rfl, ?_⟩)
  refine Zm ?_; refine Zx ?_; refine Zx ?_; refine Za ?_; refine Za ?_; refine Zq ?_; refine Zr ?_
  refine Zy (R.call rfl rfl rfl) (kinds_any _) ?_
  rintro e W402 ⟨g404, k405, rfl, h403, b401⟩
  refine ⟨_, rfl, ?_⟩; have zb401 := b401.size; replace hs := hs.up b401; replace ho := ho.up b401; replace hkk := Zh hkk b401; have y407 := hkk.size; replace c0 := cell_up c0 b401; replace q := Zu q b401; refine Zm ?_
  refine LL.val (R.convI rfl rfl rfl rfl (wrapI (by omega) (by omega))) rfl rfl rfl ?_
  (refine LL.val (R.lookKT rfl rfl zKeys (by rfl) (z := kdZ) (by kernel_rfl) (by assumption) (1 : Int) rfl kF_1) rfl rfl rfl ?_)
  refine Zm ?_; refine Zx ?_; refine Zx ?_; have l520 := hs.lt; have l521 := ho.lt
  refine LL.alloc ([Value.nilFunc, Value.nilFunc, Value.nilFunc, Value.nilFunc]) rfl rfl rfl rfl rfl ?_
  intro W523 g524 eg524 r525 z526 b522
  replace h403 := h403.up b522; replace b401 := Zu b401 b522; replace hs := hs.up b522; replace ho := ho.up b522; replace hkk := Zh hkk b522; have y527 := hkk.size; replace c0 := cell_up c0 b522; replace q := Zu q b522
  refine LL.storeN (vs := [fnV kd1.1, fnV kd1.2.1, fnV kd1.2.2.1, fnV kd1.2.2.2]) rfl rfl rfl rfl r525 (by exact Nat.le_of_ble_eq_true rfl) (ones_of rfl) rfl rfl ?_
  intro W546 r547 b545 z548
  have hlb545 := r525.lt
  replace r547 : RowL W546 _ 140 [fnV kd1.1, fnV kd1.2.1, fnV kd1.2.2.1, fnV kd1.2.2.2] := r547
  clear r525
  replace b522 := Zg b522 b545; replace b401 := Zg b401 b545; replace hs := Zd hs b545; replace ho := Zd ho b545; replace hkk := Zo hkk b545; replace c0 := Ze c0 b545; replace q := Zg q b545
  have r525 := r547
  clear r547
  refine Za ?_; refine Zq ?_; refine Zr ?_; refine Zm ?_; refine Zt ?_
  refine Zy (R.call rfl rfl rfl) (refuse_F _) ?_
  rintro e W' ⟨rfl, rfl⟩
  refine ⟨_, rfl, ?_⟩; refine Zq ?_; refine Zr ?_; refine Zm ?_
  refine LL.val (R.convI rfl rfl rfl rfl (wrapI (by omega) (by omega))) rfl rfl rfl ?_
  refine Zm ?_
  refine LL.val (R.convI rfl rfl rfl rfl (wrapI (by omega) (by omega))) rfl rfl rfl ?_
  refine LL.val (R.buildV rfl rfl (v := .agg #[Value.int IntKind.i64 ↑1, Value.int IntKind.i64 ↑l, Value.int IntKind.i64 0, Value.slice none 0 0, Value.int IntKind.i64 0, Value.int IntKind.i64 0, Value.string { data := #[] }]) (fun _ => by kernel_rfl)) rfl rfl rfl ?_
  refine LL.val (R.buildV rfl rfl (v := .agg #[Value.int IntKind.i64 1, Value.int IntKind.i64 ↑l, Value.int IntKind.i64 0, Value.slice none 0 0, Value.int IntKind.i64 0, Value.int IntKind.i64 0, Value.string { data := #[] }]) (fun _ => by kernel_rfl)) rfl rfl rfl ?_
  have l736 := hs.lt; have l737 := ho.lt; have l738 := r525.lt
  refine LL.alloc ([.int .i64 0, .int .i64 0, .int .i64 0, .slice none 0 0, .int .i64 0, .int .i64 0, .string { data := { toList := [] } }]) rfl rfl rfl rfl rfl ?_
  intro W740 g741 eg741 r742 z743 b739
  replace b522 := Zu b522 b739; replace b401 := Zu b401 b739; replace hs := hs.up b739; replace ho := ho.up b739; replace hkk := Zh hkk b739; have y744 := hkk.size; replace c0 := cell_up c0 b739; replace q := Zu q b739; replace r525 := r525.up b739
  refine LL.storeN (vs := [.int .i64 1, .int .i64 ↑l, .int .i64 0, .slice none 0 0, .int .i64 0, .int .i64 0, .string { data := #[] }]) rfl rfl rfl rfl r742 (by exact Nat.le_of_ble_eq_true rfl) (ones_of rfl) rfl rfl ?_
  intro W764 r765 b763 z766
  have hlb763 := r742.lt
  replace r765 : RowL W764 _ 145 [.int .i64 1, .int .i64 ↑l, .int .i64 0, .slice none 0 0, .int .i64 0, .int .i64 0, .string { data := #[] }] := r765
  clear r742
  replace b739 := Zg b739 b763; replace b522 := Zg b522 b763; replace b401 := Zg b401 b763; replace hs := Zd hs b763; replace ho := Zd ho b763; replace hkk := Zo hkk b763; replace c0 := Ze c0 b763; replace q := Zg q b763; replace r525 := Zd r525 b763
  have r742 := r765
  clear r765
  refine Zq ?_; refine Zr ?_; refine Zf ?_; refine Zl r525 ?_; refine Zl hs ?_
  (refine LL.call (R.callV rfl rfl rfl rfl) rfl rfl rfl (rd1_T _ bk off cap ws 1 l 0 _ 0 0 [] _ (hSF _ q) (by omega) hws hwb (by assumption) (fun X hX => (hWF _ q).kept hX (by omega)) x1 h1 hr1 hr2 hcap) ?_; rintro e W824 ⟨rfl, ⟨v8, hN8, hv8, hge8⟩, t823⟩; refine ⟨_, rfl, ?_⟩; replace hkk := hkk.trans (t823.less fun j hj => ⟨by have := hj.1; omega, by have := hj.1; omega⟩); have hu8 := hN8; clear hN8; obtain ⟨x8, c8, rfl, hc8⟩ := hv8.form rfl; have hv8F := fun X (b : Below (W824).heap.size (W824) X) => hv8.up b; have q8 := Below.refl (W824).heap.size (W824); clear hv8)
  have zt823 := t823.size
  replace b739 := t823.onB b739 (fun j hj => ⟨by have := b739.size; omega, by omega⟩)
  replace b522 := t823.onB b522 (fun j hj => ⟨by have := b522.size; omega, by omega⟩)
  replace b401 := t823.onB b401 (fun j hj => ⟨by have := b401.size; omega, by omega⟩)
  replace hs := hs.kept t823 ⟨hs.lt, by omega⟩
  replace ho := ho.kept t823 ⟨ho.lt, by omega⟩
  replace c0 := cell_kept c0 t823 ⟨World.block_lt_of_cell? _ _ c0, by omega⟩
  replace q := t823.onB q (fun j hj => ⟨by have := q.size; omega, by omega⟩)
  replace r525 := r525.kept t823 ⟨r525.lt, by omega⟩
  refine Zq ?_; refine Zr ?_; refine Zf ?_; refine Zv hu8 ?_; have l875 := hu8.lt; have l876 := hs.lt; have l877 := ho.lt; have l878 := r525.lt
  (refine Zy (R.call rfl rfl rfl) (words_no 1 (l : Int) (x1 : Int) x8 (outZ (wsZ ws)).length c8 (outZ (wsZ ws)) 0 0 [] _ (hv8F _ q8) hml htl hok1) ?_; rintro e W874 ⟨rfl, b871⟩; refine ⟨_, rfl, ?_⟩)
  have zb871 := b871.size; replace hkk := Zh hkk b871; have y882 := hkk.size; replace hu8 := hu8.up b871; replace q8 := Zu q8 b871; replace b739 := Zu b739 b871; replace b522 := Zu b522 b871; replace b401 := Zu b401 b871; replace hs := hs.up b871; replace ho := ho.up b871; replace c0 := cell_up c0 b871; replace q := Zu q b871; replace r525 := r525.up b871; refine Zm ?_; refine Zx ?_; refine Zx ?_; refine Za ?_
  refine Za ?_; refine Zq ?_; refine Zr ?_; refine Zm ?_; refine ZneT ?_; refine Zm ?_; refine Zs ?_; refine Zs ?_; refine Zs ?_; refine Zs ?_; refine Zp ?_
  refine LL.callP (R.call rfl rfl rfl) rfl rfl (refuse_T _) ?_
  rintro e W1064 ⟨rfl, rfl⟩
  refine ⟨_, rfl, ?_⟩; refine EE.thenP ?_; refine EE.panM ?_
  exact ⟨rfl, hkk⟩
theorem of1_1W (gk : Nat) (gs go bk off cap : Nat) (ws : List Nat) (w : World) (hS : Start w) (hws : ws.length = 16) (hwb : ∀ x ∈ ws, x < 18446744073709551616) (hcap : 16 ≤ cap) (hs : RowL w gs 33 [.slice (some ⟨bk, off, none⟩) 16 cap]) (hW : WdsAt w bk off ws) (ho : RowL w go 80 (inL 0 0 0 (.slice none 0 0) 0 0 [])) (hne : go ≠ gs ∧ 0 < go ∧ bk ≠ go) (x0 : Nat) (h0 : ws[0]? = some x0) (hx0 : x0 ≠ 0) (l : Nat) (el : x0 / 256 % 16777216 = l) (hk : x0 % 256 = 1) (x1 : Nat) (h1 : ws[1]? = some x1) (hr1 : x1 ≤ 65536) (hr2 : mapW (wsZ ws)) (hok1 : okI 1 (l : Int) (x1 : Int) (outZ (wsZ ws)) 0 0 []) (heq : inoW 1 (l : Int) (x1 : Int) (outZ (wsZ ws)) 0 0 [] ≠ ws) : Calls Tryz.prog 77 #[.pointer (some ⟨gs, 0, none⟩), .pointer (some ⟨go, 0, none⟩)] w fun e w' => e = .panicked (chain1 refV) ∧ Kept (KW w gk) w w' := by
  have hkk := Kept.refl (KW w gk) w
  have lgs := hs.lt; have lgo := ho.lt; have lbk := hW.lt
  have hS0 := hS.pos
  have hWF : ∀ X, Below w.heap.size w X → WdsAt X bk off ws := fun X b => hW.up b
  have hSF : ∀ X, Below w.heap.size w X → Start X := fun X b => hS.up b
  have hx64 := hwb x0 (List.mem_of_getElem? h0)
  have c0 : w.cell? ⟨bk, off + 0, none⟩ = some (.int .u64 (x0 : Int)) := hW.cells 0 x0 h0
  have q := Below.refl w.heap.size w
  clear hW hS
  have hll : l < 16777216 := by omega
  have hml : ((outZ (wsZ ws)) : List Ex).length ≤ 1048576 := by have := outZ_len (wsZ ws); have := wsZ_len hws; omega
  refine X.fnP Tryz.func77 rfl (n := 70) rfl rfl ?_
  refine Zr ?_; refine Zl hs ?_; refine Zn ?_; refine ZneF ?_
  refine Zy (R.call rfl rfl rfl) (refuse_F _) ?_
  rintro e W' ⟨rfl, rfl⟩
  refine ⟨_, rfl, ?_⟩; refine Zq ?_; refine Zc ?_; refine Zr ?_; refine Zl hs ?_; refine Zi ?_; refine Zk ?_; refine ZeqF ?_; refine Zq ?_; refine ZN ?_; refine ZK ?_; refine ZT ?_; refine Zr ?_; refine Zl hs ?_; refine Zi ?_; refine Zk ?_
  (refine Zy (R.call rfl rfl rfl) (fld_k x0 hx64 _) ?_; rintro e _ ⟨rfl, rfl⟩; rw [hk]; refine ⟨_, rfl, ?_⟩)
  refine Zm ?_; refine Zx ?_; refine Zx ?_; refine Za ?_; refine Za ?_; refine Zq ?_; refine Zr ?_; refine Zl hs ?_; refine Zi ?_; refine Zk ?_
  (refine Zy (R.call rfl rfl rfl) (fld_l x0 hx64 _) ?_; rintro e _ ⟨rfl, rfl⟩; rw [el]; refine ⟨_, rfl, ?_⟩)
  refine Zm ?_; refine Zx ?_; refine Zx ?_; refine Za ?_; refine Za ?_; refine Zq ?_; refine Zr ?_
  refine Zy (R.call rfl rfl rfl) (kinds_any _) ?_
  rintro e W627 ⟨g629, k630, rfl, h628, b626⟩
  refine ⟨_, rfl, ?_⟩; have zb626 := b626.size; replace hs := hs.up b626; replace ho := ho.up b626; replace hkk := Zh hkk b626; have y632 := hkk.size; replace c0 := cell_up c0 b626; replace q := Zu q b626; refine Zm ?_
  refine LL.val (R.convI rfl rfl rfl rfl (wrapI (by omega) (by omega))) rfl rfl rfl ?_
  (refine LL.val (R.lookKT rfl rfl zKeys (by rfl) (z := kdZ) (by kernel_rfl) (by assumption) (1 : Int) rfl kF_1) rfl rfl rfl ?_)
  refine Zm ?_; refine Zx ?_; refine Zx ?_; have l808 := hs.lt; have l809 := ho.lt
  refine LL.alloc ([Value.nilFunc, Value.nilFunc, Value.nilFunc, Value.nilFunc]) rfl rfl rfl rfl rfl ?_
  intro W811 g812 eg812 r813 z814 b810
  replace h628 := h628.up b810; replace b626 := Zu b626 b810; replace hs := hs.up b810; replace ho := ho.up b810; replace hkk := Zh hkk b810; have y815 := hkk.size; replace c0 := cell_up c0 b810; replace q := Zu q b810
  refine LL.storeN (vs := [fnV kd1.1, fnV kd1.2.1, fnV kd1.2.2.1, fnV kd1.2.2.2]) rfl rfl rfl rfl r813 (by exact Nat.le_of_ble_eq_true rfl) (ones_of rfl) rfl rfl ?_
  intro W844 r845 b843 z846
  have hlb843 := r813.lt
  replace r845 : RowL W844 _ 140 [fnV kd1.1, fnV kd1.2.1, fnV kd1.2.2.1, fnV kd1.2.2.2] := r845
  clear r813
  replace b810 := Zg b810 b843; replace b626 := Zg b626 b843; replace hs := Zd hs b843; replace ho := Zd ho b843; replace hkk := Zo hkk b843; replace c0 := Ze c0 b843; replace q := Zg q b843
  have r813 := r845
  clear r845
  refine Za ?_; refine Zq ?_; refine Zr ?_; refine Zm ?_; refine Zt ?_
  refine Zy (R.call rfl rfl rfl) (refuse_F _) ?_
  rintro e W' ⟨rfl, rfl⟩
  refine ⟨_, rfl, ?_⟩; refine Zq ?_; refine Zr ?_; refine Zm ?_
  refine LL.val (R.convI rfl rfl rfl rfl (wrapI (by omega) (by omega))) rfl rfl rfl ?_
  refine Zm ?_
  refine LL.val (R.convI rfl rfl rfl rfl (wrapI (by omega) (by omega))) rfl rfl rfl ?_
  refine LL.val (R.buildV rfl rfl (v := .agg #[Value.int IntKind.i64 ↑1, Value.int IntKind.i64 ↑l, Value.int IntKind.i64 0, Value.slice none 0 0, Value.int IntKind.i64 0, Value.int IntKind.i64 0, Value.string { data := #[] }]) (fun _ => by kernel_rfl)) rfl rfl rfl ?_
  refine LL.val (R.buildV rfl rfl (v := .agg #[Value.int IntKind.i64 1, Value.int IntKind.i64 ↑l, Value.int IntKind.i64 0, Value.slice none 0 0, Value.int IntKind.i64 0, Value.int IntKind.i64 0, Value.string { data := #[] }]) (fun _ => by kernel_rfl)) rfl rfl rfl ?_
  have l1144 := hs.lt; have l1145 := ho.lt; have l1146 := r813.lt
  refine LL.alloc ([.int .i64 0, .int .i64 0, .int .i64 0, .slice none 0 0, .int .i64 0, .int .i64 0, .string { data := { toList := [] } }]) rfl rfl rfl rfl rfl ?_
  intro W1148 g1149 eg1149 r1150 z1151 b1147
  replace b810 := Zu b810 b1147; replace b626 := Zu b626 b1147; replace hs := hs.up b1147; replace ho := ho.up b1147; replace hkk := Zh hkk b1147; have y1152 := hkk.size; replace c0 := cell_up c0 b1147; replace q := Zu q b1147; replace r813 := r813.up b1147
  refine LL.storeN (vs := [.int .i64 1, .int .i64 ↑l, .int .i64 0, .slice none 0 0, .int .i64 0, .int .i64 0, .string { data := #[] }]) rfl rfl rfl rfl r1150 (by exact Nat.le_of_ble_eq_true rfl) (ones_of rfl) rfl rfl ?_
  intro W1183 r1184 b1182 z1185
  have hlb1182 := r1150.lt
  replace r1184 : RowL W1183 _ 145 [.int .i64 1, .int .i64 ↑l, .int .i64 0, .slice none 0 0, .int .i64 0, .int .i64 0, .string { data := #[] }] := r1184
  clear r1150
  replace b1147 := Zg b1147 b1182; replace b810 := Zg b810 b1182; replace b626 := Zg b626 b1182; replace hs := Zd hs b1182; replace ho := Zd ho b1182; replace hkk := Zo hkk b1182; replace c0 := Ze c0 b1182; replace q := Zg q b1182; replace r813 := Zd r813 b1182
  have r1150 := r1184
  clear r1184
  refine Zq ?_; refine Zr ?_; refine Zf ?_; refine Zl r813 ?_; refine Zl hs ?_
  (refine LL.call (R.callV rfl rfl rfl rfl) rfl rfl rfl (rd1_T _ bk off cap ws 1 l 0 _ 0 0 [] _ (hSF _ q) (by omega) hws hwb (by assumption) (fun X hX => (hWF _ q).kept hX (by omega)) x1 h1 hr1 hr2 hcap) ?_; rintro e W1276 ⟨rfl, ⟨v8, hN8, hv8, hge8⟩, t1275⟩; refine ⟨_, rfl, ?_⟩; replace hkk := hkk.trans (t1275.less fun j hj => ⟨by have := hj.1; omega, by have := hj.1; omega⟩); have hu8 := hN8; clear hN8; obtain ⟨x8, c8, rfl, hc8⟩ := hv8.form rfl; have hv8F := fun X (b : Below (W1276).heap.size (W1276) X) => hv8.up b; have q8 := Below.refl (W1276).heap.size (W1276); clear hv8)
  have zt1275 := t1275.size
  replace b1147 := t1275.onB b1147 (fun j hj => ⟨by have := b1147.size; omega, by omega⟩)
  replace b810 := t1275.onB b810 (fun j hj => ⟨by have := b810.size; omega, by omega⟩)
  replace b626 := t1275.onB b626 (fun j hj => ⟨by have := b626.size; omega, by omega⟩)
  replace hs := hs.kept t1275 ⟨hs.lt, by omega⟩
  replace ho := ho.kept t1275 ⟨ho.lt, by omega⟩
  replace c0 := cell_kept c0 t1275 ⟨World.block_lt_of_cell? _ _ c0, by omega⟩
  replace q := t1275.onB q (fun j hj => ⟨by have := q.size; omega, by omega⟩)
  replace r813 := r813.kept t1275 ⟨r813.lt, by omega⟩
  refine Zq ?_; refine Zr ?_; refine Zf ?_; refine Zv hu8 ?_; have l1349 := hu8.lt; have l1350 := hs.lt; have l1351 := ho.lt; have l1352 := r813.lt
  (refine Zy (R.call rfl rfl rfl) (words_ok 1 (l : Int) (x1 : Int) x8 (outZ (wsZ ws)).length c8 (outZ (wsZ ws)) 0 0 [] _ (hSF _ q) (hv8F _ q8) hml hok1) ?_; rintro e W1348 ⟨g9, rfl, r9, hg9, b1345⟩; refine ⟨_, rfl, ?_⟩)
  have zb1345 := b1345.size; replace hkk := Zh hkk b1345; have y1356 := hkk.size; replace hu8 := hu8.up b1345; replace q8 := Zu q8 b1345; replace b1147 := Zu b1147 b1345; replace b810 := Zu b810 b1345; replace b626 := Zu b626 b1345; replace hs := hs.up b1345; replace ho := ho.up b1345; replace c0 := cell_up c0 b1345; replace q := Zu q b1345; replace r813 := r813.up b1345; refine Zm ?_; refine Zx ?_
  refine Zx ?_; refine Za ?_; refine Za ?_; refine Zq ?_; refine Zr ?_; refine Zm ?_; refine ZneF ?_; refine Zm ?_; refine Zm ?_; refine Zl hs ?_; have l1690 := r9.lt; have l1691 := hu8.lt; have l1692 := hs.lt; have l1693 := ho.lt; have l1694 := r813.lt
  (refine Zy (R.call rfl rfl rfl) (weq_F (RowL.asInts r9 .u64 _ rfl (inoW_len hok1)) ((hWF _ q).all hws hcap) (by rw [inoW_len hok1]; omega) (by omega) heq) ?_; rintro e W1689 ⟨rfl, b1686⟩; refine ⟨_, rfl, ?_⟩)
  have zb1686 := b1686.size; replace r9 := r9.up b1686; replace hkk := Zh hkk b1686; have y1698 := hkk.size; replace hu8 := hu8.up b1686; replace q8 := Zu q8 b1686; replace b1147 := Zu b1147 b1686; replace b810 := Zu b810 b1686; replace b626 := Zu b626 b1686; replace hs := hs.up b1686; replace ho := ho.up b1686; replace c0 := cell_up c0 b1686; replace q := Zu q b1686; replace r813 := r813.up b1686
  refine Zt ?_; refine Zp ?_
  refine LL.callP (R.call rfl rfl rfl) rfl rfl (refuse_T _) ?_
  rintro e W1793 ⟨rfl, rfl⟩
  refine ⟨_, rfl, ?_⟩; refine EE.thenP ?_; refine EE.panM ?_
  exact ⟨rfl, hkk⟩
theorem of1_1T (gs go bk off cap : Nat) (ws : List Nat) (w : World) (hS : Start w) (hws : ws.length = 16) (hwb : ∀ x ∈ ws, x < 18446744073709551616) (hcap : 16 ≤ cap) (hs : RowL w gs 33 [.slice (some ⟨bk, off, none⟩) 16 cap]) (hW : WdsAt w bk off ws) (ho : RowL w go 80 (inL 0 0 0 (.slice none 0 0) 0 0 [])) (hne : go ≠ gs ∧ 0 < go ∧ bk ≠ go) (x0 : Nat) (h0 : ws[0]? = some x0) (hx0 : x0 ≠ 0) (l : Nat) (el : x0 / 256 % 16777216 = l) (hk : x0 % 256 = 1) (x1 : Nat) (h1 : ws[1]? = some x1) (hr1 : x1 ≤ 65536) (hr2 : mapW (wsZ ws)) (hok1 : okI 1 (l : Int) (x1 : Int) (outZ (wsZ ws)) 0 0 []) (heq : inoW 1 (l : Int) (x1 : Int) (outZ (wsZ ws)) 0 0 [] = ws) : Calls Tryz.prog 77 #[.pointer (some ⟨gs, 0, none⟩), .pointer (some ⟨go, 0, none⟩)] w (ofP go 1 (l : Int) (x1 : Int) (outZ (wsZ ws)) 0 0 [] w) := by
  unfold ofP
  have hkk := Kept.refl (KW w go) w
  have lgs := hs.lt; have lgo := ho.lt; have lbk := hW.lt
  have hS0 := hS.pos
  have hWF : ∀ X, Below w.heap.size w X → WdsAt X bk off ws := fun X b => hW.up b
  have hSF : ∀ X, Below w.heap.size w X → Start X := fun X b => hS.up b
  have hx64 := hwb x0 (List.mem_of_getElem? h0)
  have c0 : w.cell? ⟨bk, off + 0, none⟩ = some (.int .u64 (x0 : Int)) := hW.cells 0 x0 h0
  have q := Below.refl w.heap.size w
  clear hW hS
  have hll : l < 16777216 := by omega
  have hml : ((outZ (wsZ ws)) : List Ex).length ≤ 1048576 := by have := outZ_len (wsZ ws); have := wsZ_len hws; omega
  refine X.fn Tryz.func77 rfl (n := 70) rfl rfl ?_
  refine Zr ?_; refine Zl hs ?_; refine Zn ?_; refine ZneF ?_
  refine Zy (R.call rfl rfl rfl) (refuse_F _) ?_
  rintro e W' ⟨rfl, rfl⟩
  refine ⟨_, rfl, ?_⟩; refine Zq ?_; refine Zc ?_; refine Zr ?_; refine Zl hs ?_; refine Zi ?_; refine Zk ?_; refine ZeqF ?_; refine Zq ?_; refine ZN ?_; refine ZK ?_; refine ZT ?_; refine Zr ?_; refine Zl hs ?_; refine Zi ?_; refine Zk ?_
  (refine Zy (R.call rfl rfl rfl) (fld_k x0 hx64 _) ?_; rintro e _ ⟨rfl, rfl⟩; rw [hk]; refine ⟨_, rfl, ?_⟩)
  refine Zm ?_; refine Zx ?_; refine Zx ?_; refine Za ?_; refine Za ?_; refine Zq ?_; refine Zr ?_; refine Zl hs ?_; refine Zi ?_; refine Zk ?_
  (refine Zy (R.call rfl rfl rfl) (fld_l x0 hx64 _) ?_; rintro e _ ⟨rfl, rfl⟩; rw [el]; refine ⟨_, rfl, ?_⟩)
  refine Zm ?_; refine Zx ?_; refine Zx ?_; refine Za ?_; refine Za ?_; refine Zq ?_; refine Zr ?_
  refine Zy (R.call rfl rfl rfl) (kinds_any _) ?_
  rintro e W627 ⟨g629, k630, rfl, h628, b626⟩
  refine ⟨_, rfl, ?_⟩; have zb626 := b626.size; replace hs := hs.up b626; replace ho := ho.up b626; replace hkk := Zh hkk b626; have y632 := hkk.size; replace c0 := cell_up c0 b626; replace q := Zu q b626; refine Zm ?_
  refine LL.val (R.convI rfl rfl rfl rfl (wrapI (by omega) (by omega))) rfl rfl rfl ?_
  (refine LL.val (R.lookKT rfl rfl zKeys (by rfl) (z := kdZ) (by kernel_rfl) (by assumption) (1 : Int) rfl kF_1) rfl rfl rfl ?_)
  refine Zm ?_; refine Zx ?_; refine Zx ?_; have l808 := hs.lt; have l809 := ho.lt
  refine LL.alloc ([Value.nilFunc, Value.nilFunc, Value.nilFunc, Value.nilFunc]) rfl rfl rfl rfl rfl ?_
  intro W811 g812 eg812 r813 z814 b810
  replace h628 := h628.up b810; replace b626 := Zu b626 b810; replace hs := hs.up b810; replace ho := ho.up b810; replace hkk := Zh hkk b810; have y815 := hkk.size; replace c0 := cell_up c0 b810; replace q := Zu q b810
  refine LL.storeN (vs := [fnV kd1.1, fnV kd1.2.1, fnV kd1.2.2.1, fnV kd1.2.2.2]) rfl rfl rfl rfl r813 (by exact Nat.le_of_ble_eq_true rfl) (ones_of rfl) rfl rfl ?_
  intro W844 r845 b843 z846
  have hlb843 := r813.lt
  replace r845 : RowL W844 _ 140 [fnV kd1.1, fnV kd1.2.1, fnV kd1.2.2.1, fnV kd1.2.2.2] := r845
  clear r813
  replace b810 := Zg b810 b843; replace b626 := Zg b626 b843; replace hs := Zd hs b843; replace ho := Zd ho b843; replace hkk := Zo hkk b843; replace c0 := Ze c0 b843; replace q := Zg q b843
  have r813 := r845
  clear r845
  refine Za ?_; refine Zq ?_; refine Zr ?_; refine Zm ?_; refine Zt ?_
  refine Zy (R.call rfl rfl rfl) (refuse_F _) ?_
  rintro e W' ⟨rfl, rfl⟩
  refine ⟨_, rfl, ?_⟩; refine Zq ?_; refine Zr ?_; refine Zm ?_
  refine LL.val (R.convI rfl rfl rfl rfl (wrapI (by omega) (by omega))) rfl rfl rfl ?_
  refine Zm ?_
  refine LL.val (R.convI rfl rfl rfl rfl (wrapI (by omega) (by omega))) rfl rfl rfl ?_
  refine LL.val (R.buildV rfl rfl (v := .agg #[Value.int IntKind.i64 ↑1, Value.int IntKind.i64 ↑l, Value.int IntKind.i64 0, Value.slice none 0 0, Value.int IntKind.i64 0, Value.int IntKind.i64 0, Value.string { data := #[] }]) (fun _ => by kernel_rfl)) rfl rfl rfl ?_
  refine LL.val (R.buildV rfl rfl (v := .agg #[Value.int IntKind.i64 1, Value.int IntKind.i64 ↑l, Value.int IntKind.i64 0, Value.slice none 0 0, Value.int IntKind.i64 0, Value.int IntKind.i64 0, Value.string { data := #[] }]) (fun _ => by kernel_rfl)) rfl rfl rfl ?_
  have l1144 := hs.lt; have l1145 := ho.lt; have l1146 := r813.lt
  refine LL.alloc ([.int .i64 0, .int .i64 0, .int .i64 0, .slice none 0 0, .int .i64 0, .int .i64 0, .string { data := { toList := [] } }]) rfl rfl rfl rfl rfl ?_
  intro W1148 g1149 eg1149 r1150 z1151 b1147
  replace b810 := Zu b810 b1147; replace b626 := Zu b626 b1147; replace hs := hs.up b1147; replace ho := ho.up b1147; replace hkk := Zh hkk b1147; have y1152 := hkk.size; replace c0 := cell_up c0 b1147; replace q := Zu q b1147; replace r813 := r813.up b1147
  refine LL.storeN (vs := [.int .i64 1, .int .i64 ↑l, .int .i64 0, .slice none 0 0, .int .i64 0, .int .i64 0, .string { data := #[] }]) rfl rfl rfl rfl r1150 (by exact Nat.le_of_ble_eq_true rfl) (ones_of rfl) rfl rfl ?_
  intro W1183 r1184 b1182 z1185
  have hlb1182 := r1150.lt
  replace r1184 : RowL W1183 _ 145 [.int .i64 1, .int .i64 ↑l, .int .i64 0, .slice none 0 0, .int .i64 0, .int .i64 0, .string { data := #[] }] := r1184
  clear r1150
  replace b1147 := Zg b1147 b1182; replace b810 := Zg b810 b1182; replace b626 := Zg b626 b1182; replace hs := Zd hs b1182; replace ho := Zd ho b1182; replace hkk := Zo hkk b1182; replace c0 := Ze c0 b1182; replace q := Zg q b1182; replace r813 := Zd r813 b1182
  have r1150 := r1184
  clear r1184
  refine Zq ?_; refine Zr ?_; refine Zf ?_; refine Zl r813 ?_; refine Zl hs ?_
  (refine LL.call (R.callV rfl rfl rfl rfl) rfl rfl rfl (rd1_T _ bk off cap ws 1 l 0 _ 0 0 [] _ (hSF _ q) (by omega) hws hwb (by assumption) (fun X hX => (hWF _ q).kept hX (by omega)) x1 h1 hr1 hr2 hcap) ?_; rintro e W1276 ⟨rfl, ⟨v8, hN8, hv8, hge8⟩, t1275⟩; refine ⟨_, rfl, ?_⟩; replace hkk := hkk.trans (t1275.less fun j hj => ⟨by have := hj.1; omega, by have := hj.1; omega⟩); have hu8 := hN8; clear hN8; obtain ⟨x8, c8, rfl, hc8⟩ := hv8.form rfl; have hv8F := fun X (b : Below (W1276).heap.size (W1276) X) => hv8.up b; have q8 := Below.refl (W1276).heap.size (W1276); clear hv8; have hk8 := Kept.refl (fun i => i < (W1276).heap.size ∧ i ≠ go) (W1276))
  have zt1275 := t1275.size
  replace b1147 := t1275.onB b1147 (fun j hj => ⟨by have := b1147.size; omega, by omega⟩)
  replace b810 := t1275.onB b810 (fun j hj => ⟨by have := b810.size; omega, by omega⟩)
  replace b626 := t1275.onB b626 (fun j hj => ⟨by have := b626.size; omega, by omega⟩)
  replace hs := hs.kept t1275 ⟨hs.lt, by omega⟩
  replace ho := ho.kept t1275 ⟨ho.lt, by omega⟩
  replace c0 := cell_kept c0 t1275 ⟨World.block_lt_of_cell? _ _ c0, by omega⟩
  replace q := t1275.onB q (fun j hj => ⟨by have := q.size; omega, by omega⟩)
  replace r813 := r813.kept t1275 ⟨r813.lt, by omega⟩
  refine Zq ?_; refine Zr ?_; refine Zf ?_; refine Zv hu8 ?_; have l1349 := hu8.lt; have l1350 := hs.lt; have l1351 := ho.lt; have l1352 := r813.lt
  (refine Zy (R.call rfl rfl rfl) (words_ok 1 (l : Int) (x1 : Int) x8 (outZ (wsZ ws)).length c8 (outZ (wsZ ws)) 0 0 [] _ (hSF _ q) (hv8F _ q8) hml hok1) ?_; rintro e W1348 ⟨g9, rfl, r9, hg9, b1345⟩; refine ⟨_, rfl, ?_⟩)
  have zb1345 := b1345.size; replace hkk := Zh hkk b1345; have y1356 := hkk.size; replace hu8 := hu8.up b1345; replace q8 := Zu q8 b1345; replace hk8 := Zh hk8 b1345; have y1357 := hk8.size; replace b1147 := Zu b1147 b1345; replace b810 := Zu b810 b1345; replace b626 := Zu b626 b1345; replace hs := hs.up b1345; replace ho := ho.up b1345; replace c0 := cell_up c0 b1345; replace q := Zu q b1345; replace r813 := r813.up b1345
  refine Zm ?_; refine Zx ?_; refine Zx ?_; refine Za ?_; refine Za ?_; refine Zq ?_; refine Zr ?_; refine Zm ?_; refine ZneF ?_; refine Zm ?_; refine Zm ?_; refine Zl hs ?_; have l1691 := r9.lt; have l1692 := hu8.lt; have l1693 := hs.lt; have l1694 := ho.lt; have l1695 := r813.lt
  (refine Zy (R.call rfl rfl rfl) (weq_T (by rw [heq] at r9; exact RowL.asInts r9 .u64 _ rfl hws) ((hWF _ q).all hws hcap) (by omega)) ?_; rintro e W1690 ⟨rfl, b1687⟩; refine ⟨_, rfl, ?_⟩)
  have zb1687 := b1687.size; replace r9 := r9.up b1687; replace hkk := Zh hkk b1687; have y1699 := hkk.size; replace hu8 := hu8.up b1687; replace q8 := Zu q8 b1687; replace hk8 := Zh hk8 b1687; have y1700 := hk8.size; replace b1147 := Zu b1147 b1687; replace b810 := Zu b810 b1687; replace b626 := Zu b626 b1687; replace hs := hs.up b1687; replace ho := ho.up b1687; replace c0 := cell_up c0 b1687; replace q := Zu q b1687
  replace r813 := r813.up b1687; refine Zt ?_; refine Zp ?_
  refine Zy (R.call rfl rfl rfl) (refuse_F _) ?_
  rintro e W' ⟨rfl, rfl⟩
  refine ⟨_, rfl, ?_⟩; refine Zq ?_; refine CC.region ?_; refine Zf ?_; refine Zv hu8 ?_
  refine LL.storeN (vs := [.int .i64 1, .int .i64 ↑l, .int .i64 ↑x1, .slice x8 (outZ (wsZ ws)).length c8, .int .i64 0, .int .i64 0, strV []]) rfl rfl rfl rfl ho (by exact Nat.le_of_ble_eq_true rfl) (ones_of rfl) rfl rfl ?_
  intro W1888 r1889 b1887 z1890
  have hlb1887 := ho.lt
  replace r1889 : RowL W1888 _ 80 [.int .i64 1, .int .i64 ↑l, .int .i64 ↑x1, .slice x8 (outZ (wsZ ws)).length c8, .int .i64 0, .int .i64 0, strV []] := r1889
  clear ho
  replace r9 := Zd r9 b1887; replace hkk := Zo hkk b1887; replace hu8 := Zd hu8 b1887; replace hk8 := Zo hk8 b1887; replace hs := Zd hs b1887; replace c0 := Ze c0 b1887; replace r813 := Zd r813 b1887
  have ho := r1889
  clear r1889
  refine ZL ?_; refine EE.end _ rfl rfl ?_
  exact ⟨rfl, ⟨_, by assumption, readsT_far (hv8F _ (Below.refl _ _)) hk8 (fun b off n c e hlt => ⟨hlt, by have := hge8 b off n c e; omega⟩), fun b off n c e => by have := hge8 b off n c e; omega⟩, hkk⟩
theorem of1_2R (gk : Nat) (gs go bk off cap : Nat) (ws : List Nat) (w : World) (hS : Start w) (hws : ws.length = 16) (hwb : ∀ x ∈ ws, x < 18446744073709551616) (hcap : 16 ≤ cap) (hs : RowL w gs 33 [.slice (some ⟨bk, off, none⟩) 16 cap]) (hW : WdsAt w bk off ws) (ho : RowL w go 80 (inL 0 0 0 (.slice none 0 0) 0 0 [])) (hne : go ≠ gs ∧ 0 < go ∧ bk ≠ go) (x0 : Nat) (h0 : ws[0]? = some x0) (hx0 : x0 ≠ 0) (l : Nat) (el : x0 / 256 % 16777216 = l) (hk : x0 % 256 = 2) (x2 x3 : Nat) (hy2 : ws[2]? = some x2) (hy3 : ws[3]? = some x3) (hr : 65536 < x2 ∨ 65536 < x3) : Calls Tryz.prog 77 #[.pointer (some ⟨gs, 0, none⟩), .pointer (some ⟨go, 0, none⟩)] w fun e w' => e = .panicked (chain1 refV) ∧ Kept (KW w gk) w w' := by
  have hkk := Kept.refl (KW w gk) w
  have lgs := hs.lt; have lgo := ho.lt; have lbk := hW.lt
  have hS0 := hS.pos
  have hWF : ∀ X, Below w.heap.size w X → WdsAt X bk off ws := fun X b => hW.up b
  have hSF : ∀ X, Below w.heap.size w X → Start X := fun X b => hS.up b
  have hx64 := hwb x0 (List.mem_of_getElem? h0)
  have c0 : w.cell? ⟨bk, off + 0, none⟩ = some (.int .u64 (x0 : Int)) := hW.cells 0 x0 h0
  have q := Below.refl w.heap.size w
  clear hW hS
  have hll : l < 16777216 := by omega
  refine X.fnP Tryz.func77 rfl (n := 70) rfl rfl ?_
  refine Zr ?_; refine Zl hs ?_; refine Zn ?_; refine ZneF ?_
  refine Zy (R.call rfl rfl rfl) (refuse_F _) ?_
  rintro e W' ⟨rfl, rfl⟩
  refine ⟨_, rfl, ?_⟩; refine Zq ?_; refine Zc ?_; refine Zr ?_; refine Zl hs ?_; refine Zi ?_; refine Zk ?_; refine ZeqF ?_; refine Zq ?_; refine ZN ?_; refine ZK ?_; refine ZT ?_; refine Zr ?_; refine Zl hs ?_; refine Zi ?_; refine Zk ?_
  (refine Zy (R.call rfl rfl rfl) (fld_k x0 hx64 _) ?_; rintro e _ ⟨rfl, rfl⟩; rw [hk]; refine ⟨_, rfl, ?_⟩)
  refine Zm ?_; refine Zx ?_; refine Zx ?_; refine Za ?_; refine Za ?_; refine Zq ?_; refine Zr ?_; refine Zl hs ?_; refine Zi ?_; refine Zk ?_
  (refine Zy (R.call rfl rfl rfl) (fld_l x0 hx64 _) ?_; rintro e _ ⟨rfl, rfl⟩; rw [el]; refine ⟨_, rfl, ?_⟩)
  refine Zm ?_; refine Zx ?_; refine Zx ?_; refine Za ?_; refine Za ?_; refine Zq ?_; refine Zr ?_
  refine Zy (R.call rfl rfl rfl) (kinds_any _) ?_
  rintro e W2 ⟨g4, k5, rfl, h3, b1⟩
  refine ⟨_, rfl, ?_⟩; have zb1 := b1.size; replace hs := hs.up b1; replace ho := ho.up b1; replace hkk := Zh hkk b1; have y7 := hkk.size; replace c0 := cell_up c0 b1; replace q := Zu q b1; refine Zm ?_
  refine LL.val (R.convI rfl rfl rfl rfl (wrapI (by omega) (by omega))) rfl rfl rfl ?_
  (refine LL.val (R.lookKT rfl rfl zKeys (by rfl) (z := kdZ) (by kernel_rfl) (by assumption) (2 : Int) rfl kF_2) rfl rfl rfl ?_)
  refine Zm ?_; refine Zx ?_; refine Zx ?_; have l8 := hs.lt; have l9 := ho.lt
  refine LL.alloc ([Value.nilFunc, Value.nilFunc, Value.nilFunc, Value.nilFunc]) rfl rfl rfl rfl rfl ?_
  intro W11 g12 eg12 r13 z14 b10
  replace h3 := h3.up b10; replace hs := hs.up b10; replace ho := ho.up b10; replace hkk := Zh hkk b10; have y15 := hkk.size; replace c0 := cell_up c0 b10; replace q := Zu q b10
  refine LL.storeN (vs := [fnV kd2.1, fnV kd2.2.1, fnV kd2.2.2.1, fnV kd2.2.2.2]) rfl rfl rfl rfl r13 (by exact Nat.le_of_ble_eq_true rfl) (ones_of rfl) rfl rfl ?_
  intro W17 r18 b16 z19
  have hlb16 := r13.lt
  replace r18 : RowL W17 _ 140 [fnV kd2.1, fnV kd2.2.1, fnV kd2.2.2.1, fnV kd2.2.2.2] := r18
  clear r13
  replace hs := Zd hs b16; replace ho := Zd ho b16; replace hkk := Zo hkk b16; replace c0 := Ze c0 b16; replace q := Zg q b16
  have r13 := r18
  clear r18
  refine Za ?_; refine Zq ?_; refine Zr ?_; refine Zm ?_; refine Zt ?_
  refine Zy (R.call rfl rfl rfl) (refuse_F _) ?_
  rintro e W' ⟨rfl, rfl⟩
  refine ⟨_, rfl, ?_⟩; refine Zq ?_; refine Zr ?_; refine Zm ?_
  refine LL.val (R.convI rfl rfl rfl rfl (wrapI (by omega) (by omega))) rfl rfl rfl ?_
  refine Zm ?_
  refine LL.val (R.convI rfl rfl rfl rfl (wrapI (by omega) (by omega))) rfl rfl rfl ?_
  refine LL.val (R.buildV rfl rfl (v := .agg #[Value.int IntKind.i64 ↑2, Value.int IntKind.i64 ↑l, Value.int IntKind.i64 0, Value.slice none 0 0, Value.int IntKind.i64 0, Value.int IntKind.i64 0, Value.string { data := #[] }]) (fun _ => by kernel_rfl)) rfl rfl rfl ?_
  refine LL.val (R.buildV rfl rfl (v := .agg #[Value.int IntKind.i64 2, Value.int IntKind.i64 ↑l, Value.int IntKind.i64 0, Value.slice none 0 0, Value.int IntKind.i64 0, Value.int IntKind.i64 0, Value.string { data := #[] }]) (fun _ => by kernel_rfl)) rfl rfl rfl ?_
  have l20 := hs.lt; have l21 := ho.lt; have l22 := r13.lt
  refine LL.alloc ([.int .i64 0, .int .i64 0, .int .i64 0, .slice none 0 0, .int .i64 0, .int .i64 0, .string { data := { toList := [] } }]) rfl rfl rfl rfl rfl ?_
  intro W24 g25 eg25 r26 z27 b23
  replace hs := hs.up b23; replace ho := ho.up b23; replace hkk := Zh hkk b23; have y28 := hkk.size; replace c0 := cell_up c0 b23; replace q := Zu q b23; replace r13 := r13.up b23
  refine LL.storeN (vs := [.int .i64 2, .int .i64 ↑l, .int .i64 0, .slice none 0 0, .int .i64 0, .int .i64 0, .string { data := #[] }]) rfl rfl rfl rfl r26 (by exact Nat.le_of_ble_eq_true rfl) (ones_of rfl) rfl rfl ?_
  intro W30 r31 b29 z32
  have hlb29 := r26.lt
  replace r31 : RowL W30 _ 145 [.int .i64 2, .int .i64 ↑l, .int .i64 0, .slice none 0 0, .int .i64 0, .int .i64 0, .string { data := #[] }] := r31
  clear r26
  replace hs := Zd hs b29; replace ho := Zd ho b29; replace hkk := Zo hkk b29; replace c0 := Ze c0 b29; replace q := Zg q b29; replace r13 := Zd r13 b29
  have r26 := r31
  clear r31
  refine Zq ?_; refine Zr ?_; refine Zf ?_; refine Zl r13 ?_; refine Zl hs ?_
  (refine LL.callP (R.callV rfl rfl rfl rfl) rfl rfl (rd2_F _ bk off cap ws 2 l 0 _ 0 0 [] _ (by assumption) (fun X hX => (hWF _ q).kept hX (by omega)) x2 x3 hy2 hy3 hr hcap) ?_; rintro e @W ⟨rfl, t9⟩; refine ⟨_, rfl, ?_⟩; replace hkk := hkk.trans (t9.less fun j hj => ⟨by have := hj.1; omega, by have := hj.1; omega⟩))
  refine EE.thenP ?_; refine EE.panM ?_
  exact ⟨rfl, hkk⟩
theorem of1_2C (gk : Nat) (gs go bk off cap : Nat) (ws : List Nat) (w : World) (hS : Start w) (hws : ws.length = 16) (hwb : ∀ x ∈ ws, x < 18446744073709551616) (hcap : 16 ≤ cap) (hs : RowL w gs 33 [.slice (some ⟨bk, off, none⟩) 16 cap]) (hW : WdsAt w bk off ws) (ho : RowL w go 80 (inL 0 0 0 (.slice none 0 0) 0 0 [])) (hne : go ≠ gs ∧ 0 < go ∧ bk ≠ go) (x0 : Nat) (h0 : ws[0]? = some x0) (hx0 : x0 ≠ 0) (l : Nat) (el : x0 / 256 % 16777216 = l) (hk : x0 % 256 = 2) (x2 x3 : Nat) (hy2 : ws[2]? = some x2) (hy3 : ws[3]? = some x3) (hr1 : x2 ≤ 65536 ∧ x3 ≤ 65536) (hok1 : ¬okI 2 (l : Int) 0 [] (x2 : Int) (x3 : Int) []) : Calls Tryz.prog 77 #[.pointer (some ⟨gs, 0, none⟩), .pointer (some ⟨go, 0, none⟩)] w fun e w' => e = .panicked (chain1 refV) ∧ Kept (KW w gk) w w' := by
  have hkk := Kept.refl (KW w gk) w
  have lgs := hs.lt; have lgo := ho.lt; have lbk := hW.lt
  have hS0 := hS.pos
  have hWF : ∀ X, Below w.heap.size w X → WdsAt X bk off ws := fun X b => hW.up b
  have hSF : ∀ X, Below w.heap.size w X → Start X := fun X b => hS.up b
  have hx64 := hwb x0 (List.mem_of_getElem? h0)
  have c0 : w.cell? ⟨bk, off + 0, none⟩ = some (.int .u64 (x0 : Int)) := hW.cells 0 x0 h0
  have q := Below.refl w.heap.size w
  clear hW hS
  have hll : l < 16777216 := by omega
  have hml : ([] : List Ex).length ≤ 1048576 := by simp
  have htl : ([] : Bs).length ≤ 1048576 := by simp
  refine X.fnP Tryz.func77 rfl (n := 70) rfl rfl ?_
  refine Zr ?_; refine Zl hs ?_; refine Zn ?_; refine ZneF ?_
  refine Zy (R.call rfl rfl rfl) (refuse_F _) ?_
  rintro e W' ⟨rfl, rfl⟩
  refine ⟨_, rfl, ?_⟩; refine Zq ?_; refine Zc ?_; refine Zr ?_; refine Zl hs ?_; refine Zi ?_; refine Zk ?_; refine ZeqF ?_; refine Zq ?_; refine ZN ?_; refine ZK ?_; refine ZT ?_; refine Zr ?_; refine Zl hs ?_; refine Zi ?_; refine Zk ?_
  (refine Zy (R.call rfl rfl rfl) (fld_k x0 hx64 _) ?_; rintro e _ ⟨rfl, rfl⟩; rw [hk]; refine ⟨_, rfl, ?_⟩)
  refine Zm ?_; refine Zx ?_; refine Zx ?_; refine Za ?_; refine Za ?_; refine Zq ?_; refine Zr ?_; refine Zl hs ?_; refine Zi ?_; refine Zk ?_
  (refine Zy (R.call rfl rfl rfl) (fld_l x0 hx64 _) ?_; rintro e _ ⟨rfl, rfl⟩; rw [el]; refine ⟨_, rfl, ?_⟩)
  refine Zm ?_; refine Zx ?_; refine Zx ?_; refine Za ?_; refine Za ?_; refine Zq ?_; refine Zr ?_
  refine Zy (R.call rfl rfl rfl) (kinds_any _) ?_
  rintro e W402 ⟨g404, k405, rfl, h403, b401⟩
  refine ⟨_, rfl, ?_⟩; have zb401 := b401.size; replace hs := hs.up b401; replace ho := ho.up b401; replace hkk := Zh hkk b401; have y407 := hkk.size; replace c0 := cell_up c0 b401; replace q := Zu q b401; refine Zm ?_
  refine LL.val (R.convI rfl rfl rfl rfl (wrapI (by omega) (by omega))) rfl rfl rfl ?_
  (refine LL.val (R.lookKT rfl rfl zKeys (by rfl) (z := kdZ) (by kernel_rfl) (by assumption) (2 : Int) rfl kF_2) rfl rfl rfl ?_)
  refine Zm ?_; refine Zx ?_; refine Zx ?_; have l520 := hs.lt; have l521 := ho.lt
  refine LL.alloc ([Value.nilFunc, Value.nilFunc, Value.nilFunc, Value.nilFunc]) rfl rfl rfl rfl rfl ?_
  intro W523 g524 eg524 r525 z526 b522
  replace h403 := h403.up b522; replace b401 := Zu b401 b522; replace hs := hs.up b522; replace ho := ho.up b522; replace hkk := Zh hkk b522; have y527 := hkk.size; replace c0 := cell_up c0 b522; replace q := Zu q b522
  refine LL.storeN (vs := [fnV kd2.1, fnV kd2.2.1, fnV kd2.2.2.1, fnV kd2.2.2.2]) rfl rfl rfl rfl r525 (by exact Nat.le_of_ble_eq_true rfl) (ones_of rfl) rfl rfl ?_
  intro W546 r547 b545 z548
  have hlb545 := r525.lt
  replace r547 : RowL W546 _ 140 [fnV kd2.1, fnV kd2.2.1, fnV kd2.2.2.1, fnV kd2.2.2.2] := r547
  clear r525
  replace b522 := Zg b522 b545; replace b401 := Zg b401 b545; replace hs := Zd hs b545; replace ho := Zd ho b545; replace hkk := Zo hkk b545; replace c0 := Ze c0 b545; replace q := Zg q b545
  have r525 := r547
  clear r547
  refine Za ?_; refine Zq ?_; refine Zr ?_; refine Zm ?_; refine Zt ?_
  refine Zy (R.call rfl rfl rfl) (refuse_F _) ?_
  rintro e W' ⟨rfl, rfl⟩
  refine ⟨_, rfl, ?_⟩; refine Zq ?_; refine Zr ?_; refine Zm ?_
  refine LL.val (R.convI rfl rfl rfl rfl (wrapI (by omega) (by omega))) rfl rfl rfl ?_
  refine Zm ?_
  refine LL.val (R.convI rfl rfl rfl rfl (wrapI (by omega) (by omega))) rfl rfl rfl ?_
  refine LL.val (R.buildV rfl rfl (v := .agg #[Value.int IntKind.i64 ↑2, Value.int IntKind.i64 ↑l, Value.int IntKind.i64 0, Value.slice none 0 0, Value.int IntKind.i64 0, Value.int IntKind.i64 0, Value.string { data := #[] }]) (fun _ => by kernel_rfl)) rfl rfl rfl ?_
  refine LL.val (R.buildV rfl rfl (v := .agg #[Value.int IntKind.i64 2, Value.int IntKind.i64 ↑l, Value.int IntKind.i64 0, Value.slice none 0 0, Value.int IntKind.i64 0, Value.int IntKind.i64 0, Value.string { data := #[] }]) (fun _ => by kernel_rfl)) rfl rfl rfl ?_
  have l736 := hs.lt; have l737 := ho.lt; have l738 := r525.lt
  refine LL.alloc ([.int .i64 0, .int .i64 0, .int .i64 0, .slice none 0 0, .int .i64 0, .int .i64 0, .string { data := { toList := [] } }]) rfl rfl rfl rfl rfl ?_
  intro W740 g741 eg741 r742 z743 b739
  replace b522 := Zu b522 b739; replace b401 := Zu b401 b739; replace hs := hs.up b739; replace ho := ho.up b739; replace hkk := Zh hkk b739; have y744 := hkk.size; replace c0 := cell_up c0 b739; replace q := Zu q b739; replace r525 := r525.up b739
  refine LL.storeN (vs := [.int .i64 2, .int .i64 ↑l, .int .i64 0, .slice none 0 0, .int .i64 0, .int .i64 0, .string { data := #[] }]) rfl rfl rfl rfl r742 (by exact Nat.le_of_ble_eq_true rfl) (ones_of rfl) rfl rfl ?_
  intro W764 r765 b763 z766
  have hlb763 := r742.lt
  replace r765 : RowL W764 _ 145 [.int .i64 2, .int .i64 ↑l, .int .i64 0, .slice none 0 0, .int .i64 0, .int .i64 0, .string { data := #[] }] := r765
  clear r742
  replace b739 := Zg b739 b763; replace b522 := Zg b522 b763; replace b401 := Zg b401 b763; replace hs := Zd hs b763; replace ho := Zd ho b763; replace hkk := Zo hkk b763; replace c0 := Ze c0 b763; replace q := Zg q b763; replace r525 := Zd r525 b763
  have r742 := r765
  clear r765
  refine Zq ?_; refine Zr ?_; refine Zf ?_; refine Zl r525 ?_; refine Zl hs ?_
  (refine LL.call (R.callV rfl rfl rfl rfl) rfl rfl rfl (rd2_T _ bk off cap ws 2 l 0 _ 0 0 [] _ (by assumption) (fun X hX => (hWF _ q).kept hX (by omega)) x2 x3 hy2 hy3 hr1 hcap) ?_; rintro e W824 ⟨rfl, hN8, t823⟩; refine ⟨_, rfl, ?_⟩; replace hkk := hkk.trans (t823.less fun j hj => ⟨by have := hj.1; omega, by have := hj.1; omega⟩); have hu8 := hN8; clear hN8)
  have zt823 := t823.size
  replace b739 := t823.onB b739 (fun j hj => ⟨by have := b739.size; omega, by omega⟩)
  replace b522 := t823.onB b522 (fun j hj => ⟨by have := b522.size; omega, by omega⟩)
  replace b401 := t823.onB b401 (fun j hj => ⟨by have := b401.size; omega, by omega⟩)
  replace hs := hs.kept t823 ⟨hs.lt, by omega⟩
  replace ho := ho.kept t823 ⟨ho.lt, by omega⟩
  replace c0 := cell_kept c0 t823 ⟨World.block_lt_of_cell? _ _ c0, by omega⟩
  replace q := t823.onB q (fun j hj => ⟨by have := q.size; omega, by omega⟩)
  replace r525 := r525.kept t823 ⟨r525.lt, by omega⟩
  refine Zq ?_; refine Zr ?_; refine Zf ?_; refine Zv hu8 ?_; have l875 := hu8.lt; have l876 := hs.lt; have l877 := ho.lt; have l878 := r525.lt
  (refine Zy (R.call rfl rfl rfl) (words_no 2 (l : Int) 0 none 0 0 [] (x2 : Int) (x3 : Int) [] _ (ReadsT.nil _) hml htl hok1) ?_; rintro e W874 ⟨rfl, b871⟩; refine ⟨_, rfl, ?_⟩)
  have zb871 := b871.size; replace hkk := Zh hkk b871; have y882 := hkk.size; replace hu8 := hu8.up b871; replace b739 := Zu b739 b871; replace b522 := Zu b522 b871; replace b401 := Zu b401 b871; replace hs := hs.up b871; replace ho := ho.up b871; replace c0 := cell_up c0 b871; replace q := Zu q b871; replace r525 := r525.up b871; refine Zm ?_; refine Zx ?_; refine Zx ?_; refine Za ?_; refine Za ?_
  refine Zq ?_; refine Zr ?_; refine Zm ?_; refine ZneT ?_; refine Zm ?_; refine Zs ?_; refine Zs ?_; refine Zs ?_; refine Zs ?_; refine Zp ?_
  refine LL.callP (R.call rfl rfl rfl) rfl rfl (refuse_T _) ?_
  rintro e W1064 ⟨rfl, rfl⟩
  refine ⟨_, rfl, ?_⟩; refine EE.thenP ?_; refine EE.panM ?_
  exact ⟨rfl, hkk⟩
theorem of1_2W (gk : Nat) (gs go bk off cap : Nat) (ws : List Nat) (w : World) (hS : Start w) (hws : ws.length = 16) (hwb : ∀ x ∈ ws, x < 18446744073709551616) (hcap : 16 ≤ cap) (hs : RowL w gs 33 [.slice (some ⟨bk, off, none⟩) 16 cap]) (hW : WdsAt w bk off ws) (ho : RowL w go 80 (inL 0 0 0 (.slice none 0 0) 0 0 [])) (hne : go ≠ gs ∧ 0 < go ∧ bk ≠ go) (x0 : Nat) (h0 : ws[0]? = some x0) (hx0 : x0 ≠ 0) (l : Nat) (el : x0 / 256 % 16777216 = l) (hk : x0 % 256 = 2) (x2 x3 : Nat) (hy2 : ws[2]? = some x2) (hy3 : ws[3]? = some x3) (hr1 : x2 ≤ 65536 ∧ x3 ≤ 65536) (hok1 : okI 2 (l : Int) 0 [] (x2 : Int) (x3 : Int) []) (heq : inoW 2 (l : Int) 0 [] (x2 : Int) (x3 : Int) [] ≠ ws) : Calls Tryz.prog 77 #[.pointer (some ⟨gs, 0, none⟩), .pointer (some ⟨go, 0, none⟩)] w fun e w' => e = .panicked (chain1 refV) ∧ Kept (KW w gk) w w' := by
  have hkk := Kept.refl (KW w gk) w
  have lgs := hs.lt; have lgo := ho.lt; have lbk := hW.lt
  have hS0 := hS.pos
  have hWF : ∀ X, Below w.heap.size w X → WdsAt X bk off ws := fun X b => hW.up b
  have hSF : ∀ X, Below w.heap.size w X → Start X := fun X b => hS.up b
  have hx64 := hwb x0 (List.mem_of_getElem? h0)
  have c0 : w.cell? ⟨bk, off + 0, none⟩ = some (.int .u64 (x0 : Int)) := hW.cells 0 x0 h0
  have q := Below.refl w.heap.size w
  clear hW hS
  have hll : l < 16777216 := by omega
  have hml : ([] : List Ex).length ≤ 1048576 := by simp
  refine X.fnP Tryz.func77 rfl (n := 70) rfl rfl ?_
  refine Zr ?_; refine Zl hs ?_; refine Zn ?_; refine ZneF ?_
  refine Zy (R.call rfl rfl rfl) (refuse_F _) ?_
  rintro e W' ⟨rfl, rfl⟩
  refine ⟨_, rfl, ?_⟩; refine Zq ?_; refine Zc ?_; refine Zr ?_; refine Zl hs ?_; refine Zi ?_; refine Zk ?_; refine ZeqF ?_; refine Zq ?_; refine ZN ?_; refine ZK ?_; refine ZT ?_; refine Zr ?_; refine Zl hs ?_; refine Zi ?_; refine Zk ?_
  (refine Zy (R.call rfl rfl rfl) (fld_k x0 hx64 _) ?_; rintro e _ ⟨rfl, rfl⟩; rw [hk]; refine ⟨_, rfl, ?_⟩)
  refine Zm ?_; refine Zx ?_; refine Zx ?_; refine Za ?_; refine Za ?_; refine Zq ?_; refine Zr ?_; refine Zl hs ?_; refine Zi ?_; refine Zk ?_
  (refine Zy (R.call rfl rfl rfl) (fld_l x0 hx64 _) ?_; rintro e _ ⟨rfl, rfl⟩; rw [el]; refine ⟨_, rfl, ?_⟩)
  refine Zm ?_; refine Zx ?_; refine Zx ?_; refine Za ?_; refine Za ?_; refine Zq ?_; refine Zr ?_
  refine Zy (R.call rfl rfl rfl) (kinds_any _) ?_
  rintro e W627 ⟨g629, k630, rfl, h628, b626⟩
  refine ⟨_, rfl, ?_⟩; have zb626 := b626.size; replace hs := hs.up b626; replace ho := ho.up b626; replace hkk := Zh hkk b626; have y632 := hkk.size; replace c0 := cell_up c0 b626; replace q := Zu q b626; refine Zm ?_
  refine LL.val (R.convI rfl rfl rfl rfl (wrapI (by omega) (by omega))) rfl rfl rfl ?_
  (refine LL.val (R.lookKT rfl rfl zKeys (by rfl) (z := kdZ) (by kernel_rfl) (by assumption) (2 : Int) rfl kF_2) rfl rfl rfl ?_)
  refine Zm ?_; refine Zx ?_; refine Zx ?_; have l808 := hs.lt; have l809 := ho.lt
  refine LL.alloc ([Value.nilFunc, Value.nilFunc, Value.nilFunc, Value.nilFunc]) rfl rfl rfl rfl rfl ?_
  intro W811 g812 eg812 r813 z814 b810
  replace h628 := h628.up b810; replace b626 := Zu b626 b810; replace hs := hs.up b810; replace ho := ho.up b810; replace hkk := Zh hkk b810; have y815 := hkk.size; replace c0 := cell_up c0 b810; replace q := Zu q b810
  refine LL.storeN (vs := [fnV kd2.1, fnV kd2.2.1, fnV kd2.2.2.1, fnV kd2.2.2.2]) rfl rfl rfl rfl r813 (by exact Nat.le_of_ble_eq_true rfl) (ones_of rfl) rfl rfl ?_
  intro W844 r845 b843 z846
  have hlb843 := r813.lt
  replace r845 : RowL W844 _ 140 [fnV kd2.1, fnV kd2.2.1, fnV kd2.2.2.1, fnV kd2.2.2.2] := r845
  clear r813
  replace b810 := Zg b810 b843; replace b626 := Zg b626 b843; replace hs := Zd hs b843; replace ho := Zd ho b843; replace hkk := Zo hkk b843; replace c0 := Ze c0 b843; replace q := Zg q b843
  have r813 := r845
  clear r845
  refine Za ?_; refine Zq ?_; refine Zr ?_; refine Zm ?_; refine Zt ?_
  refine Zy (R.call rfl rfl rfl) (refuse_F _) ?_
  rintro e W' ⟨rfl, rfl⟩
  refine ⟨_, rfl, ?_⟩; refine Zq ?_; refine Zr ?_; refine Zm ?_
  refine LL.val (R.convI rfl rfl rfl rfl (wrapI (by omega) (by omega))) rfl rfl rfl ?_
  refine Zm ?_
  refine LL.val (R.convI rfl rfl rfl rfl (wrapI (by omega) (by omega))) rfl rfl rfl ?_
  refine LL.val (R.buildV rfl rfl (v := .agg #[Value.int IntKind.i64 ↑2, Value.int IntKind.i64 ↑l, Value.int IntKind.i64 0, Value.slice none 0 0, Value.int IntKind.i64 0, Value.int IntKind.i64 0, Value.string { data := #[] }]) (fun _ => by kernel_rfl)) rfl rfl rfl ?_
  refine LL.val (R.buildV rfl rfl (v := .agg #[Value.int IntKind.i64 2, Value.int IntKind.i64 ↑l, Value.int IntKind.i64 0, Value.slice none 0 0, Value.int IntKind.i64 0, Value.int IntKind.i64 0, Value.string { data := #[] }]) (fun _ => by kernel_rfl)) rfl rfl rfl ?_
  have l1144 := hs.lt; have l1145 := ho.lt; have l1146 := r813.lt
  refine LL.alloc ([.int .i64 0, .int .i64 0, .int .i64 0, .slice none 0 0, .int .i64 0, .int .i64 0, .string { data := { toList := [] } }]) rfl rfl rfl rfl rfl ?_
  intro W1148 g1149 eg1149 r1150 z1151 b1147
  replace b810 := Zu b810 b1147; replace b626 := Zu b626 b1147; replace hs := hs.up b1147; replace ho := ho.up b1147; replace hkk := Zh hkk b1147; have y1152 := hkk.size; replace c0 := cell_up c0 b1147; replace q := Zu q b1147; replace r813 := r813.up b1147
  refine LL.storeN (vs := [.int .i64 2, .int .i64 ↑l, .int .i64 0, .slice none 0 0, .int .i64 0, .int .i64 0, .string { data := #[] }]) rfl rfl rfl rfl r1150 (by exact Nat.le_of_ble_eq_true rfl) (ones_of rfl) rfl rfl ?_
  intro W1183 r1184 b1182 z1185
  have hlb1182 := r1150.lt
  replace r1184 : RowL W1183 _ 145 [.int .i64 2, .int .i64 ↑l, .int .i64 0, .slice none 0 0, .int .i64 0, .int .i64 0, .string { data := #[] }] := r1184
  clear r1150
  replace b1147 := Zg b1147 b1182; replace b810 := Zg b810 b1182; replace b626 := Zg b626 b1182; replace hs := Zd hs b1182; replace ho := Zd ho b1182; replace hkk := Zo hkk b1182; replace c0 := Ze c0 b1182; replace q := Zg q b1182; replace r813 := Zd r813 b1182
  have r1150 := r1184
  clear r1184
  refine Zq ?_; refine Zr ?_; refine Zf ?_; refine Zl r813 ?_; refine Zl hs ?_
  (refine LL.call (R.callV rfl rfl rfl rfl) rfl rfl rfl (rd2_T _ bk off cap ws 2 l 0 _ 0 0 [] _ (by assumption) (fun X hX => (hWF _ q).kept hX (by omega)) x2 x3 hy2 hy3 hr1 hcap) ?_; rintro e W1276 ⟨rfl, hN8, t1275⟩; refine ⟨_, rfl, ?_⟩; replace hkk := hkk.trans (t1275.less fun j hj => ⟨by have := hj.1; omega, by have := hj.1; omega⟩); have hu8 := hN8; clear hN8)
  have zt1275 := t1275.size
  replace b1147 := t1275.onB b1147 (fun j hj => ⟨by have := b1147.size; omega, by omega⟩)
  replace b810 := t1275.onB b810 (fun j hj => ⟨by have := b810.size; omega, by omega⟩)
  replace b626 := t1275.onB b626 (fun j hj => ⟨by have := b626.size; omega, by omega⟩)
  replace hs := hs.kept t1275 ⟨hs.lt, by omega⟩
  replace ho := ho.kept t1275 ⟨ho.lt, by omega⟩
  replace c0 := cell_kept c0 t1275 ⟨World.block_lt_of_cell? _ _ c0, by omega⟩
  replace q := t1275.onB q (fun j hj => ⟨by have := q.size; omega, by omega⟩)
  replace r813 := r813.kept t1275 ⟨r813.lt, by omega⟩
  refine Zq ?_; refine Zr ?_; refine Zf ?_; refine Zv hu8 ?_; have l1349 := hu8.lt; have l1350 := hs.lt; have l1351 := ho.lt; have l1352 := r813.lt
  (refine Zy (R.call rfl rfl rfl) (words_ok 2 (l : Int) 0 none 0 0 [] (x2 : Int) (x3 : Int) [] _ (hSF _ q) (ReadsT.nil _) hml hok1) ?_; rintro e W1348 ⟨g9, rfl, r9, hg9, b1345⟩; refine ⟨_, rfl, ?_⟩)
  have zb1345 := b1345.size; replace hkk := Zh hkk b1345; have y1356 := hkk.size; replace hu8 := hu8.up b1345; replace b1147 := Zu b1147 b1345; replace b810 := Zu b810 b1345; replace b626 := Zu b626 b1345; replace hs := hs.up b1345; replace ho := ho.up b1345; replace c0 := cell_up c0 b1345; replace q := Zu q b1345; replace r813 := r813.up b1345; refine Zm ?_; refine Zx ?_; refine Zx ?_; refine Za ?_
  refine Za ?_; refine Zq ?_; refine Zr ?_; refine Zm ?_; refine ZneF ?_; refine Zm ?_; refine Zm ?_; refine Zl hs ?_; have l1690 := r9.lt; have l1691 := hu8.lt; have l1692 := hs.lt; have l1693 := ho.lt; have l1694 := r813.lt
  (refine Zy (R.call rfl rfl rfl) (weq_F (RowL.asInts r9 .u64 _ rfl (inoW_len hok1)) ((hWF _ q).all hws hcap) (by rw [inoW_len hok1]; omega) (by omega) heq) ?_; rintro e W1689 ⟨rfl, b1686⟩; refine ⟨_, rfl, ?_⟩)
  have zb1686 := b1686.size; replace r9 := r9.up b1686; replace hkk := Zh hkk b1686; have y1698 := hkk.size; replace hu8 := hu8.up b1686; replace b1147 := Zu b1147 b1686; replace b810 := Zu b810 b1686; replace b626 := Zu b626 b1686; replace hs := hs.up b1686; replace ho := ho.up b1686; replace c0 := cell_up c0 b1686; replace q := Zu q b1686; replace r813 := r813.up b1686; refine Zt ?_; refine Zp ?_
  refine LL.callP (R.call rfl rfl rfl) rfl rfl (refuse_T _) ?_
  rintro e W1793 ⟨rfl, rfl⟩
  refine ⟨_, rfl, ?_⟩; refine EE.thenP ?_; refine EE.panM ?_
  exact ⟨rfl, hkk⟩
theorem of1_2T (gs go bk off cap : Nat) (ws : List Nat) (w : World) (hS : Start w) (hws : ws.length = 16) (hwb : ∀ x ∈ ws, x < 18446744073709551616) (hcap : 16 ≤ cap) (hs : RowL w gs 33 [.slice (some ⟨bk, off, none⟩) 16 cap]) (hW : WdsAt w bk off ws) (ho : RowL w go 80 (inL 0 0 0 (.slice none 0 0) 0 0 [])) (hne : go ≠ gs ∧ 0 < go ∧ bk ≠ go) (x0 : Nat) (h0 : ws[0]? = some x0) (hx0 : x0 ≠ 0) (l : Nat) (el : x0 / 256 % 16777216 = l) (hk : x0 % 256 = 2) (x2 x3 : Nat) (hy2 : ws[2]? = some x2) (hy3 : ws[3]? = some x3) (hr1 : x2 ≤ 65536 ∧ x3 ≤ 65536) (hok1 : okI 2 (l : Int) 0 [] (x2 : Int) (x3 : Int) []) (heq : inoW 2 (l : Int) 0 [] (x2 : Int) (x3 : Int) [] = ws) : Calls Tryz.prog 77 #[.pointer (some ⟨gs, 0, none⟩), .pointer (some ⟨go, 0, none⟩)] w (ofP go 2 (l : Int) 0 [] (x2 : Int) (x3 : Int) [] w) := by
  unfold ofP
  have hkk := Kept.refl (KW w go) w
  have lgs := hs.lt; have lgo := ho.lt; have lbk := hW.lt
  have hS0 := hS.pos
  have hWF : ∀ X, Below w.heap.size w X → WdsAt X bk off ws := fun X b => hW.up b
  have hSF : ∀ X, Below w.heap.size w X → Start X := fun X b => hS.up b
  have hx64 := hwb x0 (List.mem_of_getElem? h0)
  have c0 : w.cell? ⟨bk, off + 0, none⟩ = some (.int .u64 (x0 : Int)) := hW.cells 0 x0 h0
  have q := Below.refl w.heap.size w
  clear hW hS
  have hll : l < 16777216 := by omega
  have hml : ([] : List Ex).length ≤ 1048576 := by simp
  refine X.fn Tryz.func77 rfl (n := 70) rfl rfl ?_
  refine Zr ?_; refine Zl hs ?_; refine Zn ?_; refine ZneF ?_
  refine Zy (R.call rfl rfl rfl) (refuse_F _) ?_
  rintro e W' ⟨rfl, rfl⟩
  refine ⟨_, rfl, ?_⟩; refine Zq ?_; refine Zc ?_; refine Zr ?_; refine Zl hs ?_; refine Zi ?_; refine Zk ?_; refine ZeqF ?_; refine Zq ?_; refine ZN ?_; refine ZK ?_; refine ZT ?_; refine Zr ?_; refine Zl hs ?_; refine Zi ?_; refine Zk ?_
  (refine Zy (R.call rfl rfl rfl) (fld_k x0 hx64 _) ?_; rintro e _ ⟨rfl, rfl⟩; rw [hk]; refine ⟨_, rfl, ?_⟩)
  refine Zm ?_; refine Zx ?_; refine Zx ?_; refine Za ?_; refine Za ?_; refine Zq ?_; refine Zr ?_; refine Zl hs ?_; refine Zi ?_; refine Zk ?_
  (refine Zy (R.call rfl rfl rfl) (fld_l x0 hx64 _) ?_; rintro e _ ⟨rfl, rfl⟩; rw [el]; refine ⟨_, rfl, ?_⟩)
  refine Zm ?_; refine Zx ?_; refine Zx ?_; refine Za ?_; refine Za ?_; refine Zq ?_; refine Zr ?_
  refine Zy (R.call rfl rfl rfl) (kinds_any _) ?_
  rintro e W627 ⟨g629, k630, rfl, h628, b626⟩
  refine ⟨_, rfl, ?_⟩; have zb626 := b626.size; replace hs := hs.up b626; replace ho := ho.up b626; replace hkk := Zh hkk b626; have y632 := hkk.size; replace c0 := cell_up c0 b626; replace q := Zu q b626; refine Zm ?_
  refine LL.val (R.convI rfl rfl rfl rfl (wrapI (by omega) (by omega))) rfl rfl rfl ?_
  (refine LL.val (R.lookKT rfl rfl zKeys (by rfl) (z := kdZ) (by kernel_rfl) (by assumption) (2 : Int) rfl kF_2) rfl rfl rfl ?_)
  refine Zm ?_; refine Zx ?_; refine Zx ?_; have l808 := hs.lt; have l809 := ho.lt
  refine LL.alloc ([Value.nilFunc, Value.nilFunc, Value.nilFunc, Value.nilFunc]) rfl rfl rfl rfl rfl ?_
  intro W811 g812 eg812 r813 z814 b810
  replace h628 := h628.up b810; replace b626 := Zu b626 b810; replace hs := hs.up b810; replace ho := ho.up b810; replace hkk := Zh hkk b810; have y815 := hkk.size; replace c0 := cell_up c0 b810; replace q := Zu q b810
  refine LL.storeN (vs := [fnV kd2.1, fnV kd2.2.1, fnV kd2.2.2.1, fnV kd2.2.2.2]) rfl rfl rfl rfl r813 (by exact Nat.le_of_ble_eq_true rfl) (ones_of rfl) rfl rfl ?_
  intro W844 r845 b843 z846
  have hlb843 := r813.lt
  replace r845 : RowL W844 _ 140 [fnV kd2.1, fnV kd2.2.1, fnV kd2.2.2.1, fnV kd2.2.2.2] := r845
  clear r813
  replace b810 := Zg b810 b843; replace b626 := Zg b626 b843; replace hs := Zd hs b843; replace ho := Zd ho b843; replace hkk := Zo hkk b843; replace c0 := Ze c0 b843; replace q := Zg q b843
  have r813 := r845
  clear r845
  refine Za ?_; refine Zq ?_; refine Zr ?_; refine Zm ?_; refine Zt ?_
  refine Zy (R.call rfl rfl rfl) (refuse_F _) ?_
  rintro e W' ⟨rfl, rfl⟩
  refine ⟨_, rfl, ?_⟩; refine Zq ?_; refine Zr ?_; refine Zm ?_
  refine LL.val (R.convI rfl rfl rfl rfl (wrapI (by omega) (by omega))) rfl rfl rfl ?_
  refine Zm ?_
  refine LL.val (R.convI rfl rfl rfl rfl (wrapI (by omega) (by omega))) rfl rfl rfl ?_
  refine LL.val (R.buildV rfl rfl (v := .agg #[Value.int IntKind.i64 ↑2, Value.int IntKind.i64 ↑l, Value.int IntKind.i64 0, Value.slice none 0 0, Value.int IntKind.i64 0, Value.int IntKind.i64 0, Value.string { data := #[] }]) (fun _ => by kernel_rfl)) rfl rfl rfl ?_
  refine LL.val (R.buildV rfl rfl (v := .agg #[Value.int IntKind.i64 2, Value.int IntKind.i64 ↑l, Value.int IntKind.i64 0, Value.slice none 0 0, Value.int IntKind.i64 0, Value.int IntKind.i64 0, Value.string { data := #[] }]) (fun _ => by kernel_rfl)) rfl rfl rfl ?_
  have l1144 := hs.lt; have l1145 := ho.lt; have l1146 := r813.lt
  refine LL.alloc ([.int .i64 0, .int .i64 0, .int .i64 0, .slice none 0 0, .int .i64 0, .int .i64 0, .string { data := { toList := [] } }]) rfl rfl rfl rfl rfl ?_
  intro W1148 g1149 eg1149 r1150 z1151 b1147
  replace b810 := Zu b810 b1147; replace b626 := Zu b626 b1147; replace hs := hs.up b1147; replace ho := ho.up b1147; replace hkk := Zh hkk b1147; have y1152 := hkk.size; replace c0 := cell_up c0 b1147; replace q := Zu q b1147; replace r813 := r813.up b1147
  refine LL.storeN (vs := [.int .i64 2, .int .i64 ↑l, .int .i64 0, .slice none 0 0, .int .i64 0, .int .i64 0, .string { data := #[] }]) rfl rfl rfl rfl r1150 (by exact Nat.le_of_ble_eq_true rfl) (ones_of rfl) rfl rfl ?_
  intro W1183 r1184 b1182 z1185
  have hlb1182 := r1150.lt
  replace r1184 : RowL W1183 _ 145 [.int .i64 2, .int .i64 ↑l, .int .i64 0, .slice none 0 0, .int .i64 0, .int .i64 0, .string { data := #[] }] := r1184
  clear r1150
  replace b1147 := Zg b1147 b1182; replace b810 := Zg b810 b1182; replace b626 := Zg b626 b1182; replace hs := Zd hs b1182; replace ho := Zd ho b1182; replace hkk := Zo hkk b1182; replace c0 := Ze c0 b1182; replace q := Zg q b1182; replace r813 := Zd r813 b1182
  have r1150 := r1184
  clear r1184
  refine Zq ?_; refine Zr ?_; refine Zf ?_; refine Zl r813 ?_; refine Zl hs ?_
  (refine LL.call (R.callV rfl rfl rfl rfl) rfl rfl rfl (rd2_T _ bk off cap ws 2 l 0 _ 0 0 [] _ (by assumption) (fun X hX => (hWF _ q).kept hX (by omega)) x2 x3 hy2 hy3 hr1 hcap) ?_; rintro e W1276 ⟨rfl, hN8, t1275⟩; refine ⟨_, rfl, ?_⟩; replace hkk := hkk.trans (t1275.less fun j hj => ⟨by have := hj.1; omega, by have := hj.1; omega⟩); have hu8 := hN8; clear hN8)
  have zt1275 := t1275.size
  replace b1147 := t1275.onB b1147 (fun j hj => ⟨by have := b1147.size; omega, by omega⟩)
  replace b810 := t1275.onB b810 (fun j hj => ⟨by have := b810.size; omega, by omega⟩)
  replace b626 := t1275.onB b626 (fun j hj => ⟨by have := b626.size; omega, by omega⟩)
  replace hs := hs.kept t1275 ⟨hs.lt, by omega⟩
  replace ho := ho.kept t1275 ⟨ho.lt, by omega⟩
  replace c0 := cell_kept c0 t1275 ⟨World.block_lt_of_cell? _ _ c0, by omega⟩
  replace q := t1275.onB q (fun j hj => ⟨by have := q.size; omega, by omega⟩)
  replace r813 := r813.kept t1275 ⟨r813.lt, by omega⟩
  refine Zq ?_; refine Zr ?_; refine Zf ?_; refine Zv hu8 ?_; have l1349 := hu8.lt; have l1350 := hs.lt; have l1351 := ho.lt; have l1352 := r813.lt
  (refine Zy (R.call rfl rfl rfl) (words_ok 2 (l : Int) 0 none 0 0 [] (x2 : Int) (x3 : Int) [] _ (hSF _ q) (ReadsT.nil _) hml hok1) ?_; rintro e W1348 ⟨g9, rfl, r9, hg9, b1345⟩; refine ⟨_, rfl, ?_⟩)
  have zb1345 := b1345.size; replace hkk := Zh hkk b1345; have y1356 := hkk.size; replace hu8 := hu8.up b1345; replace b1147 := Zu b1147 b1345; replace b810 := Zu b810 b1345; replace b626 := Zu b626 b1345; replace hs := hs.up b1345; replace ho := ho.up b1345; replace c0 := cell_up c0 b1345; replace q := Zu q b1345; replace r813 := r813.up b1345; refine Zm ?_; refine Zx ?_; refine Zx ?_; refine Za ?_
  refine Za ?_; refine Zq ?_; refine Zr ?_; refine Zm ?_; refine ZneF ?_; refine Zm ?_; refine Zm ?_; refine Zl hs ?_; have l1690 := r9.lt; have l1691 := hu8.lt; have l1692 := hs.lt; have l1693 := ho.lt; have l1694 := r813.lt
  (refine Zy (R.call rfl rfl rfl) (weq_T (by rw [heq] at r9; exact RowL.asInts r9 .u64 _ rfl hws) ((hWF _ q).all hws hcap) (by omega)) ?_; rintro e W1689 ⟨rfl, b1686⟩; refine ⟨_, rfl, ?_⟩)
  have zb1686 := b1686.size; replace r9 := r9.up b1686; replace hkk := Zh hkk b1686; have y1698 := hkk.size; replace hu8 := hu8.up b1686; replace b1147 := Zu b1147 b1686; replace b810 := Zu b810 b1686; replace b626 := Zu b626 b1686; replace hs := hs.up b1686; replace ho := ho.up b1686; replace c0 := cell_up c0 b1686; replace q := Zu q b1686; replace r813 := r813.up b1686; refine Zt ?_; refine Zp ?_
  refine Zy (R.call rfl rfl rfl) (refuse_F _) ?_
  rintro e W' ⟨rfl, rfl⟩
  refine ⟨_, rfl, ?_⟩; refine Zq ?_; refine CC.region ?_; refine Zf ?_; refine Zv hu8 ?_
  refine LL.storeN (vs := [.int .i64 2, .int .i64 ↑l, .int .i64 0, .slice none 0 0, .int .i64 ↑x2, .int .i64 ↑x3, strV []]) rfl rfl rfl rfl ho (by exact Nat.le_of_ble_eq_true rfl) (ones_of rfl) rfl rfl ?_
  intro W1886 r1887 b1885 z1888
  have hlb1885 := ho.lt
  replace r1887 : RowL W1886 _ 80 [.int .i64 2, .int .i64 ↑l, .int .i64 0, .slice none 0 0, .int .i64 ↑x2, .int .i64 ↑x3, strV []] := r1887
  clear ho
  replace r9 := Zd r9 b1885; replace hkk := Zo hkk b1885; replace hu8 := Zd hu8 b1885; replace hs := Zd hs b1885; replace c0 := Ze c0 b1885; replace r813 := Zd r813 b1885
  have ho := r1887
  clear r1887
  refine ZL ?_; refine EE.end _ rfl rfl ?_
  exact ⟨rfl, ⟨_, by assumption, ReadsT.nil _, fun b off n c e => by cases e⟩, hkk⟩
theorem of1_3R (gk : Nat) (gs go bk off cap : Nat) (ws : List Nat) (w : World) (hS : Start w) (hws : ws.length = 16) (hwb : ∀ x ∈ ws, x < 18446744073709551616) (hcap : 16 ≤ cap) (hs : RowL w gs 33 [.slice (some ⟨bk, off, none⟩) 16 cap]) (hW : WdsAt w bk off ws) (ho : RowL w go 80 (inL 0 0 0 (.slice none 0 0) 0 0 [])) (hne : go ≠ gs ∧ 0 < go ∧ bk ≠ go) (x0 : Nat) (h0 : ws[0]? = some x0) (hx0 : x0 ≠ 0) (l : Nat) (el : x0 / 256 % 16777216 = l) (hk : x0 % 256 = 3) (x1 : Nat) (h1 : ws[1]? = some x1) (hr : ¬(1 ≤ x1 ∧ x1 ≤ 112) ∨ ¬tgOk ws x1) : Calls Tryz.prog 77 #[.pointer (some ⟨gs, 0, none⟩), .pointer (some ⟨go, 0, none⟩)] w fun e w' => e = .panicked (chain1 refV) ∧ Kept (KW w gk) w w' := by
  have hkk := Kept.refl (KW w gk) w
  have lgs := hs.lt; have lgo := ho.lt; have lbk := hW.lt
  have hS0 := hS.pos
  have hWF : ∀ X, Below w.heap.size w X → WdsAt X bk off ws := fun X b => hW.up b
  have hSF : ∀ X, Below w.heap.size w X → Start X := fun X b => hS.up b
  have hx64 := hwb x0 (List.mem_of_getElem? h0)
  have c0 : w.cell? ⟨bk, off + 0, none⟩ = some (.int .u64 (x0 : Int)) := hW.cells 0 x0 h0
  have q := Below.refl w.heap.size w
  clear hW hS
  have hll : l < 16777216 := by omega
  refine X.fnP Tryz.func77 rfl (n := 70) rfl rfl ?_
  refine Zr ?_; refine Zl hs ?_; refine Zn ?_; refine ZneF ?_
  refine Zy (R.call rfl rfl rfl) (refuse_F _) ?_
  rintro e W' ⟨rfl, rfl⟩
  refine ⟨_, rfl, ?_⟩; refine Zq ?_; refine Zc ?_; refine Zr ?_; refine Zl hs ?_; refine Zi ?_; refine Zk ?_; refine ZeqF ?_; refine Zq ?_; refine ZN ?_; refine ZK ?_; refine ZT ?_; refine Zr ?_; refine Zl hs ?_; refine Zi ?_; refine Zk ?_
  (refine Zy (R.call rfl rfl rfl) (fld_k x0 hx64 _) ?_; rintro e _ ⟨rfl, rfl⟩; rw [hk]; refine ⟨_, rfl, ?_⟩)
  refine Zm ?_; refine Zx ?_; refine Zx ?_; refine Za ?_; refine Za ?_; refine Zq ?_; refine Zr ?_; refine Zl hs ?_; refine Zi ?_; refine Zk ?_
  (refine Zy (R.call rfl rfl rfl) (fld_l x0 hx64 _) ?_; rintro e _ ⟨rfl, rfl⟩; rw [el]; refine ⟨_, rfl, ?_⟩)
  refine Zm ?_; refine Zx ?_; refine Zx ?_; refine Za ?_; refine Za ?_; refine Zq ?_; refine Zr ?_
  refine Zy (R.call rfl rfl rfl) (kinds_any _) ?_
  rintro e W2 ⟨g4, k5, rfl, h3, b1⟩
  refine ⟨_, rfl, ?_⟩; have zb1 := b1.size; replace hs := hs.up b1; replace ho := ho.up b1; replace hkk := Zh hkk b1; have y7 := hkk.size; replace c0 := cell_up c0 b1; replace q := Zu q b1; refine Zm ?_
  refine LL.val (R.convI rfl rfl rfl rfl (wrapI (by omega) (by omega))) rfl rfl rfl ?_
  (refine LL.val (R.lookKT rfl rfl zKeys (by rfl) (z := kdZ) (by kernel_rfl) (by assumption) (3 : Int) rfl kF_3) rfl rfl rfl ?_)
  refine Zm ?_; refine Zx ?_; refine Zx ?_; have l8 := hs.lt; have l9 := ho.lt
  refine LL.alloc ([Value.nilFunc, Value.nilFunc, Value.nilFunc, Value.nilFunc]) rfl rfl rfl rfl rfl ?_
  intro W11 g12 eg12 r13 z14 b10
  replace h3 := h3.up b10; replace hs := hs.up b10; replace ho := ho.up b10; replace hkk := Zh hkk b10; have y15 := hkk.size; replace c0 := cell_up c0 b10; replace q := Zu q b10
  refine LL.storeN (vs := [fnV kd3.1, fnV kd3.2.1, fnV kd3.2.2.1, fnV kd3.2.2.2]) rfl rfl rfl rfl r13 (by exact Nat.le_of_ble_eq_true rfl) (ones_of rfl) rfl rfl ?_
  intro W17 r18 b16 z19
  have hlb16 := r13.lt
  replace r18 : RowL W17 _ 140 [fnV kd3.1, fnV kd3.2.1, fnV kd3.2.2.1, fnV kd3.2.2.2] := r18
  clear r13
  replace hs := Zd hs b16; replace ho := Zd ho b16; replace hkk := Zo hkk b16; replace c0 := Ze c0 b16; replace q := Zg q b16
  have r13 := r18
  clear r18
  refine Za ?_; refine Zq ?_; refine Zr ?_; refine Zm ?_; refine Zt ?_
  refine Zy (R.call rfl rfl rfl) (refuse_F _) ?_
  rintro e W' ⟨rfl, rfl⟩
  refine ⟨_, rfl, ?_⟩; refine Zq ?_; refine Zr ?_; refine Zm ?_
  refine LL.val (R.convI rfl rfl rfl rfl (wrapI (by omega) (by omega))) rfl rfl rfl ?_
  refine Zm ?_
  refine LL.val (R.convI rfl rfl rfl rfl (wrapI (by omega) (by omega))) rfl rfl rfl ?_
  refine LL.val (R.buildV rfl rfl (v := .agg #[Value.int IntKind.i64 ↑3, Value.int IntKind.i64 ↑l, Value.int IntKind.i64 0, Value.slice none 0 0, Value.int IntKind.i64 0, Value.int IntKind.i64 0, Value.string { data := #[] }]) (fun _ => by kernel_rfl)) rfl rfl rfl ?_
  refine LL.val (R.buildV rfl rfl (v := .agg #[Value.int IntKind.i64 3, Value.int IntKind.i64 ↑l, Value.int IntKind.i64 0, Value.slice none 0 0, Value.int IntKind.i64 0, Value.int IntKind.i64 0, Value.string { data := #[] }]) (fun _ => by kernel_rfl)) rfl rfl rfl ?_
  have l20 := hs.lt; have l21 := ho.lt; have l22 := r13.lt
  refine LL.alloc ([.int .i64 0, .int .i64 0, .int .i64 0, .slice none 0 0, .int .i64 0, .int .i64 0, .string { data := { toList := [] } }]) rfl rfl rfl rfl rfl ?_
  intro W24 g25 eg25 r26 z27 b23
  replace hs := hs.up b23; replace ho := ho.up b23; replace hkk := Zh hkk b23; have y28 := hkk.size; replace c0 := cell_up c0 b23; replace q := Zu q b23; replace r13 := r13.up b23
  refine LL.storeN (vs := [.int .i64 3, .int .i64 ↑l, .int .i64 0, .slice none 0 0, .int .i64 0, .int .i64 0, .string { data := #[] }]) rfl rfl rfl rfl r26 (by exact Nat.le_of_ble_eq_true rfl) (ones_of rfl) rfl rfl ?_
  intro W30 r31 b29 z32
  have hlb29 := r26.lt
  replace r31 : RowL W30 _ 145 [.int .i64 3, .int .i64 ↑l, .int .i64 0, .slice none 0 0, .int .i64 0, .int .i64 0, .string { data := #[] }] := r31
  clear r26
  replace hs := Zd hs b29; replace ho := Zd ho b29; replace hkk := Zo hkk b29; replace c0 := Ze c0 b29; replace q := Zg q b29; replace r13 := Zd r13 b29
  have r26 := r31
  clear r31
  refine Zq ?_; refine Zr ?_; refine Zf ?_; refine Zl r13 ?_; refine Zl hs ?_
  (refine LL.callP (R.callV rfl rfl rfl rfl) rfl rfl (rd3_F _ bk off cap ws 3 l 0 _ 0 0 [] _ hws (by assumption) (fun X hX => (hWF _ q).kept hX (by omega)) x1 h1 hr hcap) ?_; rintro e @W ⟨rfl, t9⟩; refine ⟨_, rfl, ?_⟩; replace hkk := hkk.trans (t9.less fun j hj => ⟨by have := hj.1; omega, by have := hj.1; omega⟩))
  refine EE.thenP ?_; refine EE.panM ?_
  exact ⟨rfl, hkk⟩
theorem of1_3C (gk : Nat) (gs go bk off cap : Nat) (ws : List Nat) (w : World) (hS : Start w) (hws : ws.length = 16) (hwb : ∀ x ∈ ws, x < 18446744073709551616) (hcap : 16 ≤ cap) (hs : RowL w gs 33 [.slice (some ⟨bk, off, none⟩) 16 cap]) (hW : WdsAt w bk off ws) (ho : RowL w go 80 (inL 0 0 0 (.slice none 0 0) 0 0 [])) (hne : go ≠ gs ∧ 0 < go ∧ bk ≠ go) (x0 : Nat) (h0 : ws[0]? = some x0) (hx0 : x0 ≠ 0) (l : Nat) (el : x0 / 256 % 16777216 = l) (hk : x0 % 256 = 3) (x1 : Nat) (h1 : ws[1]? = some x1) (hr1 : 1 ≤ x1 ∧ x1 ≤ 112) (hr2 : tgOk ws x1) (hok1 : ¬okI 3 (l : Int) 0 [] 0 0 (tgW ws x1)) : Calls Tryz.prog 77 #[.pointer (some ⟨gs, 0, none⟩), .pointer (some ⟨go, 0, none⟩)] w fun e w' => e = .panicked (chain1 refV) ∧ Kept (KW w gk) w w' := by
  have hkk := Kept.refl (KW w gk) w
  have lgs := hs.lt; have lgo := ho.lt; have lbk := hW.lt
  have hS0 := hS.pos
  have hWF : ∀ X, Below w.heap.size w X → WdsAt X bk off ws := fun X b => hW.up b
  have hSF : ∀ X, Below w.heap.size w X → Start X := fun X b => hS.up b
  have hx64 := hwb x0 (List.mem_of_getElem? h0)
  have c0 : w.cell? ⟨bk, off + 0, none⟩ = some (.int .u64 (x0 : Int)) := hW.cells 0 x0 h0
  have q := Below.refl w.heap.size w
  clear hW hS
  have hll : l < 16777216 := by omega
  have hml : ([] : List Ex).length ≤ 1048576 := by simp
  have htl : ((tgW ws x1) : Bs).length ≤ 1048576 := by unfold tgW ofN; simp; omega
  refine X.fnP Tryz.func77 rfl (n := 70) rfl rfl ?_
  refine Zr ?_; refine Zl hs ?_; refine Zn ?_; refine ZneF ?_
  refine Zy (R.call rfl rfl rfl) (refuse_F _) ?_
  rintro e W' ⟨rfl, rfl⟩
  refine ⟨_, rfl, ?_⟩; refine Zq ?_; refine Zc ?_; refine Zr ?_; refine Zl hs ?_; refine Zi ?_; refine Zk ?_; refine ZeqF ?_; refine Zq ?_; refine ZN ?_; refine ZK ?_; refine ZT ?_; refine Zr ?_; refine Zl hs ?_; refine Zi ?_; refine Zk ?_
  (refine Zy (R.call rfl rfl rfl) (fld_k x0 hx64 _) ?_; rintro e _ ⟨rfl, rfl⟩; rw [hk]; refine ⟨_, rfl, ?_⟩)
  refine Zm ?_; refine Zx ?_; refine Zx ?_; refine Za ?_; refine Za ?_; refine Zq ?_; refine Zr ?_; refine Zl hs ?_; refine Zi ?_; refine Zk ?_
  (refine Zy (R.call rfl rfl rfl) (fld_l x0 hx64 _) ?_; rintro e _ ⟨rfl, rfl⟩; rw [el]; refine ⟨_, rfl, ?_⟩)
  refine Zm ?_; refine Zx ?_; refine Zx ?_; refine Za ?_; refine Za ?_; refine Zq ?_; refine Zr ?_
  refine Zy (R.call rfl rfl rfl) (kinds_any _) ?_
  rintro e W402 ⟨g404, k405, rfl, h403, b401⟩
  refine ⟨_, rfl, ?_⟩; have zb401 := b401.size; replace hs := hs.up b401; replace ho := ho.up b401; replace hkk := Zh hkk b401; have y407 := hkk.size; replace c0 := cell_up c0 b401; replace q := Zu q b401; refine Zm ?_
  refine LL.val (R.convI rfl rfl rfl rfl (wrapI (by omega) (by omega))) rfl rfl rfl ?_
  (refine LL.val (R.lookKT rfl rfl zKeys (by rfl) (z := kdZ) (by kernel_rfl) (by assumption) (3 : Int) rfl kF_3) rfl rfl rfl ?_)
  refine Zm ?_; refine Zx ?_; refine Zx ?_; have l520 := hs.lt; have l521 := ho.lt
  refine LL.alloc ([Value.nilFunc, Value.nilFunc, Value.nilFunc, Value.nilFunc]) rfl rfl rfl rfl rfl ?_
  intro W523 g524 eg524 r525 z526 b522
  replace h403 := h403.up b522; replace b401 := Zu b401 b522; replace hs := hs.up b522; replace ho := ho.up b522; replace hkk := Zh hkk b522; have y527 := hkk.size; replace c0 := cell_up c0 b522; replace q := Zu q b522
  refine LL.storeN (vs := [fnV kd3.1, fnV kd3.2.1, fnV kd3.2.2.1, fnV kd3.2.2.2]) rfl rfl rfl rfl r525 (by exact Nat.le_of_ble_eq_true rfl) (ones_of rfl) rfl rfl ?_
  intro W546 r547 b545 z548
  have hlb545 := r525.lt
  replace r547 : RowL W546 _ 140 [fnV kd3.1, fnV kd3.2.1, fnV kd3.2.2.1, fnV kd3.2.2.2] := r547
  clear r525
  replace b522 := Zg b522 b545; replace b401 := Zg b401 b545; replace hs := Zd hs b545; replace ho := Zd ho b545; replace hkk := Zo hkk b545; replace c0 := Ze c0 b545; replace q := Zg q b545
  have r525 := r547
  clear r547
  refine Za ?_; refine Zq ?_; refine Zr ?_; refine Zm ?_; refine Zt ?_
  refine Zy (R.call rfl rfl rfl) (refuse_F _) ?_
  rintro e W' ⟨rfl, rfl⟩
  refine ⟨_, rfl, ?_⟩; refine Zq ?_; refine Zr ?_; refine Zm ?_
  refine LL.val (R.convI rfl rfl rfl rfl (wrapI (by omega) (by omega))) rfl rfl rfl ?_
  refine Zm ?_
  refine LL.val (R.convI rfl rfl rfl rfl (wrapI (by omega) (by omega))) rfl rfl rfl ?_
  refine LL.val (R.buildV rfl rfl (v := .agg #[Value.int IntKind.i64 ↑3, Value.int IntKind.i64 ↑l, Value.int IntKind.i64 0, Value.slice none 0 0, Value.int IntKind.i64 0, Value.int IntKind.i64 0, Value.string { data := #[] }]) (fun _ => by kernel_rfl)) rfl rfl rfl ?_
  refine LL.val (R.buildV rfl rfl (v := .agg #[Value.int IntKind.i64 3, Value.int IntKind.i64 ↑l, Value.int IntKind.i64 0, Value.slice none 0 0, Value.int IntKind.i64 0, Value.int IntKind.i64 0, Value.string { data := #[] }]) (fun _ => by kernel_rfl)) rfl rfl rfl ?_
  have l736 := hs.lt; have l737 := ho.lt; have l738 := r525.lt
  refine LL.alloc ([.int .i64 0, .int .i64 0, .int .i64 0, .slice none 0 0, .int .i64 0, .int .i64 0, .string { data := { toList := [] } }]) rfl rfl rfl rfl rfl ?_
  intro W740 g741 eg741 r742 z743 b739
  replace b522 := Zu b522 b739; replace b401 := Zu b401 b739; replace hs := hs.up b739; replace ho := ho.up b739; replace hkk := Zh hkk b739; have y744 := hkk.size; replace c0 := cell_up c0 b739; replace q := Zu q b739; replace r525 := r525.up b739
  refine LL.storeN (vs := [.int .i64 3, .int .i64 ↑l, .int .i64 0, .slice none 0 0, .int .i64 0, .int .i64 0, .string { data := #[] }]) rfl rfl rfl rfl r742 (by exact Nat.le_of_ble_eq_true rfl) (ones_of rfl) rfl rfl ?_
  intro W764 r765 b763 z766
  have hlb763 := r742.lt
  replace r765 : RowL W764 _ 145 [.int .i64 3, .int .i64 ↑l, .int .i64 0, .slice none 0 0, .int .i64 0, .int .i64 0, .string { data := #[] }] := r765
  clear r742
  replace b739 := Zg b739 b763; replace b522 := Zg b522 b763; replace b401 := Zg b401 b763; replace hs := Zd hs b763; replace ho := Zd ho b763; replace hkk := Zo hkk b763; replace c0 := Ze c0 b763; replace q := Zg q b763; replace r525 := Zd r525 b763
  have r742 := r765
  clear r765
  refine Zq ?_; refine Zr ?_; refine Zf ?_; refine Zl r525 ?_; refine Zl hs ?_
  (refine LL.call (R.callV rfl rfl rfl rfl) rfl rfl rfl (rd3_T _ bk off cap ws 3 l 0 _ 0 0 [] _ hws (by assumption) (fun X hX => (hWF _ q).kept hX (by omega)) x1 h1 hr1 hr2 hcap) ?_; rintro e W824 ⟨rfl, hN8, t823⟩; refine ⟨_, rfl, ?_⟩; replace hkk := hkk.trans (t823.less fun j hj => ⟨by have := hj.1; omega, by have := hj.1; omega⟩); have hu8 := hN8; clear hN8)
  have zt823 := t823.size
  replace b739 := t823.onB b739 (fun j hj => ⟨by have := b739.size; omega, by omega⟩)
  replace b522 := t823.onB b522 (fun j hj => ⟨by have := b522.size; omega, by omega⟩)
  replace b401 := t823.onB b401 (fun j hj => ⟨by have := b401.size; omega, by omega⟩)
  replace hs := hs.kept t823 ⟨hs.lt, by omega⟩
  replace ho := ho.kept t823 ⟨ho.lt, by omega⟩
  replace c0 := cell_kept c0 t823 ⟨World.block_lt_of_cell? _ _ c0, by omega⟩
  replace q := t823.onB q (fun j hj => ⟨by have := q.size; omega, by omega⟩)
  replace r525 := r525.kept t823 ⟨r525.lt, by omega⟩
  refine Zq ?_; refine Zr ?_; refine Zf ?_; refine Zv hu8 ?_; have l875 := hu8.lt; have l876 := hs.lt; have l877 := ho.lt; have l878 := r525.lt
  (refine Zy (R.call rfl rfl rfl) (words_no 3 (l : Int) 0 none 0 0 [] 0 0 (tgW ws x1) _ (ReadsT.nil _) hml htl hok1) ?_; rintro e W874 ⟨rfl, b871⟩; refine ⟨_, rfl, ?_⟩)
  have zb871 := b871.size; replace hkk := Zh hkk b871; have y882 := hkk.size; replace hu8 := hu8.up b871; replace b739 := Zu b739 b871; replace b522 := Zu b522 b871; replace b401 := Zu b401 b871; replace hs := hs.up b871; replace ho := ho.up b871; replace c0 := cell_up c0 b871; replace q := Zu q b871; replace r525 := r525.up b871; refine Zm ?_; refine Zx ?_; refine Zx ?_; refine Za ?_; refine Za ?_
  refine Zq ?_; refine Zr ?_; refine Zm ?_; refine ZneT ?_; refine Zm ?_; refine Zs ?_; refine Zs ?_; refine Zs ?_; refine Zs ?_; refine Zp ?_
  refine LL.callP (R.call rfl rfl rfl) rfl rfl (refuse_T _) ?_
  rintro e W1064 ⟨rfl, rfl⟩
  refine ⟨_, rfl, ?_⟩; refine EE.thenP ?_; refine EE.panM ?_
  exact ⟨rfl, hkk⟩
theorem of1_3W (gk : Nat) (gs go bk off cap : Nat) (ws : List Nat) (w : World) (hS : Start w) (hws : ws.length = 16) (hwb : ∀ x ∈ ws, x < 18446744073709551616) (hcap : 16 ≤ cap) (hs : RowL w gs 33 [.slice (some ⟨bk, off, none⟩) 16 cap]) (hW : WdsAt w bk off ws) (ho : RowL w go 80 (inL 0 0 0 (.slice none 0 0) 0 0 [])) (hne : go ≠ gs ∧ 0 < go ∧ bk ≠ go) (x0 : Nat) (h0 : ws[0]? = some x0) (hx0 : x0 ≠ 0) (l : Nat) (el : x0 / 256 % 16777216 = l) (hk : x0 % 256 = 3) (x1 : Nat) (h1 : ws[1]? = some x1) (hr1 : 1 ≤ x1 ∧ x1 ≤ 112) (hr2 : tgOk ws x1) (hok1 : okI 3 (l : Int) 0 [] 0 0 (tgW ws x1)) (heq : inoW 3 (l : Int) 0 [] 0 0 (tgW ws x1) ≠ ws) : Calls Tryz.prog 77 #[.pointer (some ⟨gs, 0, none⟩), .pointer (some ⟨go, 0, none⟩)] w fun e w' => e = .panicked (chain1 refV) ∧ Kept (KW w gk) w w' := by
  have hkk := Kept.refl (KW w gk) w
  have lgs := hs.lt; have lgo := ho.lt; have lbk := hW.lt
  have hS0 := hS.pos
  have hWF : ∀ X, Below w.heap.size w X → WdsAt X bk off ws := fun X b => hW.up b
  have hSF : ∀ X, Below w.heap.size w X → Start X := fun X b => hS.up b
  have hx64 := hwb x0 (List.mem_of_getElem? h0)
  have c0 : w.cell? ⟨bk, off + 0, none⟩ = some (.int .u64 (x0 : Int)) := hW.cells 0 x0 h0
  have q := Below.refl w.heap.size w
  clear hW hS
  have hll : l < 16777216 := by omega
  have hml : ([] : List Ex).length ≤ 1048576 := by simp
  refine X.fnP Tryz.func77 rfl (n := 70) rfl rfl ?_
  refine Zr ?_; refine Zl hs ?_; refine Zn ?_; refine ZneF ?_
  refine Zy (R.call rfl rfl rfl) (refuse_F _) ?_
  rintro e W' ⟨rfl, rfl⟩
  refine ⟨_, rfl, ?_⟩; refine Zq ?_; refine Zc ?_; refine Zr ?_; refine Zl hs ?_; refine Zi ?_; refine Zk ?_; refine ZeqF ?_; refine Zq ?_; refine ZN ?_; refine ZK ?_; refine ZT ?_; refine Zr ?_; refine Zl hs ?_; refine Zi ?_; refine Zk ?_
  (refine Zy (R.call rfl rfl rfl) (fld_k x0 hx64 _) ?_; rintro e _ ⟨rfl, rfl⟩; rw [hk]; refine ⟨_, rfl, ?_⟩)
  refine Zm ?_; refine Zx ?_; refine Zx ?_; refine Za ?_; refine Za ?_; refine Zq ?_; refine Zr ?_; refine Zl hs ?_; refine Zi ?_; refine Zk ?_
  (refine Zy (R.call rfl rfl rfl) (fld_l x0 hx64 _) ?_; rintro e _ ⟨rfl, rfl⟩; rw [el]; refine ⟨_, rfl, ?_⟩)
  refine Zm ?_; refine Zx ?_; refine Zx ?_; refine Za ?_; refine Za ?_; refine Zq ?_; refine Zr ?_
  refine Zy (R.call rfl rfl rfl) (kinds_any _) ?_
  rintro e W627 ⟨g629, k630, rfl, h628, b626⟩
  refine ⟨_, rfl, ?_⟩; have zb626 := b626.size; replace hs := hs.up b626; replace ho := ho.up b626; replace hkk := Zh hkk b626; have y632 := hkk.size; replace c0 := cell_up c0 b626; replace q := Zu q b626; refine Zm ?_
  refine LL.val (R.convI rfl rfl rfl rfl (wrapI (by omega) (by omega))) rfl rfl rfl ?_
  (refine LL.val (R.lookKT rfl rfl zKeys (by rfl) (z := kdZ) (by kernel_rfl) (by assumption) (3 : Int) rfl kF_3) rfl rfl rfl ?_)
  refine Zm ?_; refine Zx ?_; refine Zx ?_; have l808 := hs.lt; have l809 := ho.lt
  refine LL.alloc ([Value.nilFunc, Value.nilFunc, Value.nilFunc, Value.nilFunc]) rfl rfl rfl rfl rfl ?_
  intro W811 g812 eg812 r813 z814 b810
  replace h628 := h628.up b810; replace b626 := Zu b626 b810; replace hs := hs.up b810; replace ho := ho.up b810; replace hkk := Zh hkk b810; have y815 := hkk.size; replace c0 := cell_up c0 b810; replace q := Zu q b810
  refine LL.storeN (vs := [fnV kd3.1, fnV kd3.2.1, fnV kd3.2.2.1, fnV kd3.2.2.2]) rfl rfl rfl rfl r813 (by exact Nat.le_of_ble_eq_true rfl) (ones_of rfl) rfl rfl ?_
  intro W844 r845 b843 z846
  have hlb843 := r813.lt
  replace r845 : RowL W844 _ 140 [fnV kd3.1, fnV kd3.2.1, fnV kd3.2.2.1, fnV kd3.2.2.2] := r845
  clear r813
  replace b810 := Zg b810 b843; replace b626 := Zg b626 b843; replace hs := Zd hs b843; replace ho := Zd ho b843; replace hkk := Zo hkk b843; replace c0 := Ze c0 b843; replace q := Zg q b843
  have r813 := r845
  clear r845
  refine Za ?_; refine Zq ?_; refine Zr ?_; refine Zm ?_; refine Zt ?_
  refine Zy (R.call rfl rfl rfl) (refuse_F _) ?_
  rintro e W' ⟨rfl, rfl⟩
  refine ⟨_, rfl, ?_⟩; refine Zq ?_; refine Zr ?_; refine Zm ?_
  refine LL.val (R.convI rfl rfl rfl rfl (wrapI (by omega) (by omega))) rfl rfl rfl ?_
  refine Zm ?_
  refine LL.val (R.convI rfl rfl rfl rfl (wrapI (by omega) (by omega))) rfl rfl rfl ?_
  refine LL.val (R.buildV rfl rfl (v := .agg #[Value.int IntKind.i64 ↑3, Value.int IntKind.i64 ↑l, Value.int IntKind.i64 0, Value.slice none 0 0, Value.int IntKind.i64 0, Value.int IntKind.i64 0, Value.string { data := #[] }]) (fun _ => by kernel_rfl)) rfl rfl rfl ?_
  refine LL.val (R.buildV rfl rfl (v := .agg #[Value.int IntKind.i64 3, Value.int IntKind.i64 ↑l, Value.int IntKind.i64 0, Value.slice none 0 0, Value.int IntKind.i64 0, Value.int IntKind.i64 0, Value.string { data := #[] }]) (fun _ => by kernel_rfl)) rfl rfl rfl ?_
  have l1144 := hs.lt; have l1145 := ho.lt; have l1146 := r813.lt
  refine LL.alloc ([.int .i64 0, .int .i64 0, .int .i64 0, .slice none 0 0, .int .i64 0, .int .i64 0, .string { data := { toList := [] } }]) rfl rfl rfl rfl rfl ?_
  intro W1148 g1149 eg1149 r1150 z1151 b1147
  replace b810 := Zu b810 b1147; replace b626 := Zu b626 b1147; replace hs := hs.up b1147; replace ho := ho.up b1147; replace hkk := Zh hkk b1147; have y1152 := hkk.size; replace c0 := cell_up c0 b1147; replace q := Zu q b1147; replace r813 := r813.up b1147
  refine LL.storeN (vs := [.int .i64 3, .int .i64 ↑l, .int .i64 0, .slice none 0 0, .int .i64 0, .int .i64 0, .string { data := #[] }]) rfl rfl rfl rfl r1150 (by exact Nat.le_of_ble_eq_true rfl) (ones_of rfl) rfl rfl ?_
  intro W1183 r1184 b1182 z1185
  have hlb1182 := r1150.lt
  replace r1184 : RowL W1183 _ 145 [.int .i64 3, .int .i64 ↑l, .int .i64 0, .slice none 0 0, .int .i64 0, .int .i64 0, .string { data := #[] }] := r1184
  clear r1150
  replace b1147 := Zg b1147 b1182; replace b810 := Zg b810 b1182; replace b626 := Zg b626 b1182; replace hs := Zd hs b1182; replace ho := Zd ho b1182; replace hkk := Zo hkk b1182; replace c0 := Ze c0 b1182; replace q := Zg q b1182; replace r813 := Zd r813 b1182
  have r1150 := r1184
  clear r1184
  refine Zq ?_; refine Zr ?_; refine Zf ?_; refine Zl r813 ?_; refine Zl hs ?_
  (refine LL.call (R.callV rfl rfl rfl rfl) rfl rfl rfl (rd3_T _ bk off cap ws 3 l 0 _ 0 0 [] _ hws (by assumption) (fun X hX => (hWF _ q).kept hX (by omega)) x1 h1 hr1 hr2 hcap) ?_; rintro e W1276 ⟨rfl, hN8, t1275⟩; refine ⟨_, rfl, ?_⟩; replace hkk := hkk.trans (t1275.less fun j hj => ⟨by have := hj.1; omega, by have := hj.1; omega⟩); have hu8 := hN8; clear hN8)
  have zt1275 := t1275.size
  replace b1147 := t1275.onB b1147 (fun j hj => ⟨by have := b1147.size; omega, by omega⟩)
  replace b810 := t1275.onB b810 (fun j hj => ⟨by have := b810.size; omega, by omega⟩)
  replace b626 := t1275.onB b626 (fun j hj => ⟨by have := b626.size; omega, by omega⟩)
  replace hs := hs.kept t1275 ⟨hs.lt, by omega⟩
  replace ho := ho.kept t1275 ⟨ho.lt, by omega⟩
  replace c0 := cell_kept c0 t1275 ⟨World.block_lt_of_cell? _ _ c0, by omega⟩
  replace q := t1275.onB q (fun j hj => ⟨by have := q.size; omega, by omega⟩)
  replace r813 := r813.kept t1275 ⟨r813.lt, by omega⟩
  refine Zq ?_; refine Zr ?_; refine Zf ?_; refine Zv hu8 ?_; have l1349 := hu8.lt; have l1350 := hs.lt; have l1351 := ho.lt; have l1352 := r813.lt
  (refine Zy (R.call rfl rfl rfl) (words_ok 3 (l : Int) 0 none 0 0 [] 0 0 (tgW ws x1) _ (hSF _ q) (ReadsT.nil _) hml hok1) ?_; rintro e W1348 ⟨g9, rfl, r9, hg9, b1345⟩; refine ⟨_, rfl, ?_⟩)
  have zb1345 := b1345.size; replace hkk := Zh hkk b1345; have y1356 := hkk.size; replace hu8 := hu8.up b1345; replace b1147 := Zu b1147 b1345; replace b810 := Zu b810 b1345; replace b626 := Zu b626 b1345; replace hs := hs.up b1345; replace ho := ho.up b1345; replace c0 := cell_up c0 b1345; replace q := Zu q b1345; replace r813 := r813.up b1345; refine Zm ?_; refine Zx ?_; refine Zx ?_; refine Za ?_
  refine Za ?_; refine Zq ?_; refine Zr ?_; refine Zm ?_; refine ZneF ?_; refine Zm ?_; refine Zm ?_; refine Zl hs ?_; have l1690 := r9.lt; have l1691 := hu8.lt; have l1692 := hs.lt; have l1693 := ho.lt; have l1694 := r813.lt
  (refine Zy (R.call rfl rfl rfl) (weq_F (RowL.asInts r9 .u64 _ rfl (inoW_len hok1)) ((hWF _ q).all hws hcap) (by rw [inoW_len hok1]; omega) (by omega) heq) ?_; rintro e W1689 ⟨rfl, b1686⟩; refine ⟨_, rfl, ?_⟩)
  have zb1686 := b1686.size; replace r9 := r9.up b1686; replace hkk := Zh hkk b1686; have y1698 := hkk.size; replace hu8 := hu8.up b1686; replace b1147 := Zu b1147 b1686; replace b810 := Zu b810 b1686; replace b626 := Zu b626 b1686; replace hs := hs.up b1686; replace ho := ho.up b1686; replace c0 := cell_up c0 b1686; replace q := Zu q b1686; replace r813 := r813.up b1686; refine Zt ?_; refine Zp ?_
  refine LL.callP (R.call rfl rfl rfl) rfl rfl (refuse_T _) ?_
  rintro e W1793 ⟨rfl, rfl⟩
  refine ⟨_, rfl, ?_⟩; refine EE.thenP ?_; refine EE.panM ?_
  exact ⟨rfl, hkk⟩
theorem of1_3T (gs go bk off cap : Nat) (ws : List Nat) (w : World) (hS : Start w) (hws : ws.length = 16) (hwb : ∀ x ∈ ws, x < 18446744073709551616) (hcap : 16 ≤ cap) (hs : RowL w gs 33 [.slice (some ⟨bk, off, none⟩) 16 cap]) (hW : WdsAt w bk off ws) (ho : RowL w go 80 (inL 0 0 0 (.slice none 0 0) 0 0 [])) (hne : go ≠ gs ∧ 0 < go ∧ bk ≠ go) (x0 : Nat) (h0 : ws[0]? = some x0) (hx0 : x0 ≠ 0) (l : Nat) (el : x0 / 256 % 16777216 = l) (hk : x0 % 256 = 3) (x1 : Nat) (h1 : ws[1]? = some x1) (hr1 : 1 ≤ x1 ∧ x1 ≤ 112) (hr2 : tgOk ws x1) (hok1 : okI 3 (l : Int) 0 [] 0 0 (tgW ws x1)) (heq : inoW 3 (l : Int) 0 [] 0 0 (tgW ws x1) = ws) : Calls Tryz.prog 77 #[.pointer (some ⟨gs, 0, none⟩), .pointer (some ⟨go, 0, none⟩)] w (ofP go 3 (l : Int) 0 [] 0 0 (tgW ws x1) w) := by
  unfold ofP
  have hkk := Kept.refl (KW w go) w
  have lgs := hs.lt; have lgo := ho.lt; have lbk := hW.lt
  have hS0 := hS.pos
  have hWF : ∀ X, Below w.heap.size w X → WdsAt X bk off ws := fun X b => hW.up b
  have hSF : ∀ X, Below w.heap.size w X → Start X := fun X b => hS.up b
  have hx64 := hwb x0 (List.mem_of_getElem? h0)
  have c0 : w.cell? ⟨bk, off + 0, none⟩ = some (.int .u64 (x0 : Int)) := hW.cells 0 x0 h0
  have q := Below.refl w.heap.size w
  clear hW hS
  have hll : l < 16777216 := by omega
  have hml : ([] : List Ex).length ≤ 1048576 := by simp
  refine X.fn Tryz.func77 rfl (n := 70) rfl rfl ?_
  refine Zr ?_; refine Zl hs ?_; refine Zn ?_; refine ZneF ?_
  refine Zy (R.call rfl rfl rfl) (refuse_F _) ?_
  rintro e W' ⟨rfl, rfl⟩
  refine ⟨_, rfl, ?_⟩; refine Zq ?_; refine Zc ?_; refine Zr ?_; refine Zl hs ?_; refine Zi ?_; refine Zk ?_; refine ZeqF ?_; refine Zq ?_; refine ZN ?_; refine ZK ?_; refine ZT ?_; refine Zr ?_; refine Zl hs ?_; refine Zi ?_; refine Zk ?_
  (refine Zy (R.call rfl rfl rfl) (fld_k x0 hx64 _) ?_; rintro e _ ⟨rfl, rfl⟩; rw [hk]; refine ⟨_, rfl, ?_⟩)
  refine Zm ?_; refine Zx ?_; refine Zx ?_; refine Za ?_; refine Za ?_; refine Zq ?_; refine Zr ?_; refine Zl hs ?_; refine Zi ?_; refine Zk ?_
  (refine Zy (R.call rfl rfl rfl) (fld_l x0 hx64 _) ?_; rintro e _ ⟨rfl, rfl⟩; rw [el]; refine ⟨_, rfl, ?_⟩)
  refine Zm ?_; refine Zx ?_; refine Zx ?_; refine Za ?_; refine Za ?_; refine Zq ?_; refine Zr ?_
  refine Zy (R.call rfl rfl rfl) (kinds_any _) ?_
  rintro e W627 ⟨g629, k630, rfl, h628, b626⟩
  refine ⟨_, rfl, ?_⟩; have zb626 := b626.size; replace hs := hs.up b626; replace ho := ho.up b626; replace hkk := Zh hkk b626; have y632 := hkk.size; replace c0 := cell_up c0 b626; replace q := Zu q b626; refine Zm ?_
  refine LL.val (R.convI rfl rfl rfl rfl (wrapI (by omega) (by omega))) rfl rfl rfl ?_
  (refine LL.val (R.lookKT rfl rfl zKeys (by rfl) (z := kdZ) (by kernel_rfl) (by assumption) (3 : Int) rfl kF_3) rfl rfl rfl ?_)
  refine Zm ?_; refine Zx ?_; refine Zx ?_; have l808 := hs.lt; have l809 := ho.lt
  refine LL.alloc ([Value.nilFunc, Value.nilFunc, Value.nilFunc, Value.nilFunc]) rfl rfl rfl rfl rfl ?_
  intro W811 g812 eg812 r813 z814 b810
  replace h628 := h628.up b810; replace b626 := Zu b626 b810; replace hs := hs.up b810; replace ho := ho.up b810; replace hkk := Zh hkk b810; have y815 := hkk.size; replace c0 := cell_up c0 b810; replace q := Zu q b810
  refine LL.storeN (vs := [fnV kd3.1, fnV kd3.2.1, fnV kd3.2.2.1, fnV kd3.2.2.2]) rfl rfl rfl rfl r813 (by exact Nat.le_of_ble_eq_true rfl) (ones_of rfl) rfl rfl ?_
  intro W844 r845 b843 z846
  have hlb843 := r813.lt
  replace r845 : RowL W844 _ 140 [fnV kd3.1, fnV kd3.2.1, fnV kd3.2.2.1, fnV kd3.2.2.2] := r845
  clear r813
  replace b810 := Zg b810 b843; replace b626 := Zg b626 b843; replace hs := Zd hs b843; replace ho := Zd ho b843; replace hkk := Zo hkk b843; replace c0 := Ze c0 b843; replace q := Zg q b843
  have r813 := r845
  clear r845
  refine Za ?_; refine Zq ?_; refine Zr ?_; refine Zm ?_; refine Zt ?_
  refine Zy (R.call rfl rfl rfl) (refuse_F _) ?_
  rintro e W' ⟨rfl, rfl⟩
  refine ⟨_, rfl, ?_⟩; refine Zq ?_; refine Zr ?_; refine Zm ?_
  refine LL.val (R.convI rfl rfl rfl rfl (wrapI (by omega) (by omega))) rfl rfl rfl ?_
  refine Zm ?_
  refine LL.val (R.convI rfl rfl rfl rfl (wrapI (by omega) (by omega))) rfl rfl rfl ?_
  refine LL.val (R.buildV rfl rfl (v := .agg #[Value.int IntKind.i64 ↑3, Value.int IntKind.i64 ↑l, Value.int IntKind.i64 0, Value.slice none 0 0, Value.int IntKind.i64 0, Value.int IntKind.i64 0, Value.string { data := #[] }]) (fun _ => by kernel_rfl)) rfl rfl rfl ?_
  refine LL.val (R.buildV rfl rfl (v := .agg #[Value.int IntKind.i64 3, Value.int IntKind.i64 ↑l, Value.int IntKind.i64 0, Value.slice none 0 0, Value.int IntKind.i64 0, Value.int IntKind.i64 0, Value.string { data := #[] }]) (fun _ => by kernel_rfl)) rfl rfl rfl ?_
  have l1144 := hs.lt; have l1145 := ho.lt; have l1146 := r813.lt
  refine LL.alloc ([.int .i64 0, .int .i64 0, .int .i64 0, .slice none 0 0, .int .i64 0, .int .i64 0, .string { data := { toList := [] } }]) rfl rfl rfl rfl rfl ?_
  intro W1148 g1149 eg1149 r1150 z1151 b1147
  replace b810 := Zu b810 b1147; replace b626 := Zu b626 b1147; replace hs := hs.up b1147; replace ho := ho.up b1147; replace hkk := Zh hkk b1147; have y1152 := hkk.size; replace c0 := cell_up c0 b1147; replace q := Zu q b1147; replace r813 := r813.up b1147
  refine LL.storeN (vs := [.int .i64 3, .int .i64 ↑l, .int .i64 0, .slice none 0 0, .int .i64 0, .int .i64 0, .string { data := #[] }]) rfl rfl rfl rfl r1150 (by exact Nat.le_of_ble_eq_true rfl) (ones_of rfl) rfl rfl ?_
  intro W1183 r1184 b1182 z1185
  have hlb1182 := r1150.lt
  replace r1184 : RowL W1183 _ 145 [.int .i64 3, .int .i64 ↑l, .int .i64 0, .slice none 0 0, .int .i64 0, .int .i64 0, .string { data := #[] }] := r1184
  clear r1150
  replace b1147 := Zg b1147 b1182; replace b810 := Zg b810 b1182; replace b626 := Zg b626 b1182; replace hs := Zd hs b1182; replace ho := Zd ho b1182; replace hkk := Zo hkk b1182; replace c0 := Ze c0 b1182; replace q := Zg q b1182; replace r813 := Zd r813 b1182
  have r1150 := r1184
  clear r1184
  refine Zq ?_; refine Zr ?_; refine Zf ?_; refine Zl r813 ?_; refine Zl hs ?_
  (refine LL.call (R.callV rfl rfl rfl rfl) rfl rfl rfl (rd3_T _ bk off cap ws 3 l 0 _ 0 0 [] _ hws (by assumption) (fun X hX => (hWF _ q).kept hX (by omega)) x1 h1 hr1 hr2 hcap) ?_; rintro e W1276 ⟨rfl, hN8, t1275⟩; refine ⟨_, rfl, ?_⟩; replace hkk := hkk.trans (t1275.less fun j hj => ⟨by have := hj.1; omega, by have := hj.1; omega⟩); have hu8 := hN8; clear hN8)
  have zt1275 := t1275.size
  replace b1147 := t1275.onB b1147 (fun j hj => ⟨by have := b1147.size; omega, by omega⟩)
  replace b810 := t1275.onB b810 (fun j hj => ⟨by have := b810.size; omega, by omega⟩)
  replace b626 := t1275.onB b626 (fun j hj => ⟨by have := b626.size; omega, by omega⟩)
  replace hs := hs.kept t1275 ⟨hs.lt, by omega⟩
  replace ho := ho.kept t1275 ⟨ho.lt, by omega⟩
  replace c0 := cell_kept c0 t1275 ⟨World.block_lt_of_cell? _ _ c0, by omega⟩
  replace q := t1275.onB q (fun j hj => ⟨by have := q.size; omega, by omega⟩)
  replace r813 := r813.kept t1275 ⟨r813.lt, by omega⟩
  refine Zq ?_; refine Zr ?_; refine Zf ?_; refine Zv hu8 ?_; have l1349 := hu8.lt; have l1350 := hs.lt; have l1351 := ho.lt; have l1352 := r813.lt
  (refine Zy (R.call rfl rfl rfl) (words_ok 3 (l : Int) 0 none 0 0 [] 0 0 (tgW ws x1) _ (hSF _ q) (ReadsT.nil _) hml hok1) ?_; rintro e W1348 ⟨g9, rfl, r9, hg9, b1345⟩; refine ⟨_, rfl, ?_⟩)
  have zb1345 := b1345.size; replace hkk := Zh hkk b1345; have y1356 := hkk.size; replace hu8 := hu8.up b1345; replace b1147 := Zu b1147 b1345; replace b810 := Zu b810 b1345; replace b626 := Zu b626 b1345; replace hs := hs.up b1345; replace ho := ho.up b1345; replace c0 := cell_up c0 b1345; replace q := Zu q b1345; replace r813 := r813.up b1345; refine Zm ?_; refine Zx ?_; refine Zx ?_; refine Za ?_
  refine Za ?_; refine Zq ?_; refine Zr ?_; refine Zm ?_; refine ZneF ?_; refine Zm ?_; refine Zm ?_; refine Zl hs ?_; have l1690 := r9.lt; have l1691 := hu8.lt; have l1692 := hs.lt; have l1693 := ho.lt; have l1694 := r813.lt
  (refine Zy (R.call rfl rfl rfl) (weq_T (by rw [heq] at r9; exact RowL.asInts r9 .u64 _ rfl hws) ((hWF _ q).all hws hcap) (by omega)) ?_; rintro e W1689 ⟨rfl, b1686⟩; refine ⟨_, rfl, ?_⟩)
  have zb1686 := b1686.size; replace r9 := r9.up b1686; replace hkk := Zh hkk b1686; have y1698 := hkk.size; replace hu8 := hu8.up b1686; replace b1147 := Zu b1147 b1686; replace b810 := Zu b810 b1686; replace b626 := Zu b626 b1686; replace hs := hs.up b1686; replace ho := ho.up b1686; replace c0 := cell_up c0 b1686; replace q := Zu q b1686; replace r813 := r813.up b1686; refine Zt ?_; refine Zp ?_
  refine Zy (R.call rfl rfl rfl) (refuse_F _) ?_
  rintro e W' ⟨rfl, rfl⟩
  refine ⟨_, rfl, ?_⟩; refine Zq ?_; refine CC.region ?_; refine Zf ?_; refine Zv hu8 ?_
  refine LL.storeN (vs := [.int .i64 3, .int .i64 ↑l, .int .i64 0, .slice none 0 0, .int .i64 0, .int .i64 0, strV (tgW ws x1)]) rfl rfl rfl rfl ho (by exact Nat.le_of_ble_eq_true rfl) (ones_of rfl) rfl rfl ?_
  intro W1886 r1887 b1885 z1888
  have hlb1885 := ho.lt
  replace r1887 : RowL W1886 _ 80 [.int .i64 3, .int .i64 ↑l, .int .i64 0, .slice none 0 0, .int .i64 0, .int .i64 0, strV (tgW ws x1)] := r1887
  clear ho
  replace r9 := Zd r9 b1885; replace hkk := Zo hkk b1885; replace hu8 := Zd hu8 b1885; replace hs := Zd hs b1885; replace c0 := Ze c0 b1885; replace r813 := Zd r813 b1885
  have ho := r1887
  clear r1887
  refine ZL ?_; refine EE.end _ rfl rfl ?_
  exact ⟨rfl, ⟨_, by assumption, ReadsT.nil _, fun b off n c e => by cases e⟩, hkk⟩
theorem of1_0C (gk : Nat) (gs go bk off cap : Nat) (ws : List Nat) (w : World) (hS : Start w) (hws : ws.length = 16) (hwb : ∀ x ∈ ws, x < 18446744073709551616) (hcap : 16 ≤ cap) (hs : RowL w gs 33 [.slice (some ⟨bk, off, none⟩) 16 cap]) (hW : WdsAt w bk off ws) (ho : RowL w go 80 (inL 0 0 0 (.slice none 0 0) 0 0 [])) (hne : go ≠ gs ∧ 0 < go ∧ bk ≠ go) (x0 : Nat) (h0 : ws[0]? = some x0) (hx0 : x0 ≠ 0) (l : Nat) (el : x0 / 256 % 16777216 = l) (hk : x0 % 256 = 0)   (hok1 : ¬okI 0 (l : Int) 0 [] 0 0 []) : Calls Tryz.prog 77 #[.pointer (some ⟨gs, 0, none⟩), .pointer (some ⟨go, 0, none⟩)] w fun e w' => e = .panicked (chain1 refV) ∧ Kept (KW w gk) w w' := by
  have hkk := Kept.refl (KW w gk) w
  have lgs := hs.lt; have lgo := ho.lt; have lbk := hW.lt
  have hS0 := hS.pos
  have hWF : ∀ X, Below w.heap.size w X → WdsAt X bk off ws := fun X b => hW.up b
  have hSF : ∀ X, Below w.heap.size w X → Start X := fun X b => hS.up b
  have hx64 := hwb x0 (List.mem_of_getElem? h0)
  have c0 : w.cell? ⟨bk, off + 0, none⟩ = some (.int .u64 (x0 : Int)) := hW.cells 0 x0 h0
  have q := Below.refl w.heap.size w
  clear hW hS
  have hll : l < 16777216 := by omega
  have hml : ([] : List Ex).length ≤ 1048576 := by simp
  have htl : ([] : Bs).length ≤ 1048576 := by simp
  refine X.fnP Tryz.func77 rfl (n := 70) rfl rfl ?_
  refine Zr ?_; refine Zl hs ?_; refine Zn ?_; refine ZneF ?_
  refine Zy (R.call rfl rfl rfl) (refuse_F _) ?_
  rintro e W' ⟨rfl, rfl⟩
  refine ⟨_, rfl, ?_⟩; refine Zq ?_; refine Zc ?_; refine Zr ?_; refine Zl hs ?_; refine Zi ?_; refine Zk ?_; refine ZeqF ?_; refine Zq ?_; refine ZN ?_; refine ZK ?_; refine ZT ?_; refine Zr ?_; refine Zl hs ?_; refine Zi ?_; refine Zk ?_
  (refine Zy (R.call rfl rfl rfl) (fld_k x0 hx64 _) ?_; rintro e _ ⟨rfl, rfl⟩; rw [hk]; refine ⟨_, rfl, ?_⟩)
  refine Zm ?_; refine Zx ?_; refine Zx ?_; refine Za ?_; refine Za ?_; refine Zq ?_; refine Zr ?_; refine Zl hs ?_; refine Zi ?_; refine Zk ?_
  (refine Zy (R.call rfl rfl rfl) (fld_l x0 hx64 _) ?_; rintro e _ ⟨rfl, rfl⟩; rw [el]; refine ⟨_, rfl, ?_⟩)
  refine Zm ?_; refine Zx ?_; refine Zx ?_; refine Za ?_; refine Za ?_; refine Zq ?_; refine Zr ?_
  refine Zy (R.call rfl rfl rfl) (kinds_any _) ?_
  rintro e W227 ⟨g229, k230, rfl, h228, b226⟩
  refine ⟨_, rfl, ?_⟩; have zb226 := b226.size; replace hs := hs.up b226; replace ho := ho.up b226; replace hkk := Zh hkk b226; have y232 := hkk.size; replace c0 := cell_up c0 b226; replace q := Zu q b226; refine Zm ?_
  refine LL.val (R.convI rfl rfl rfl rfl (wrapI (by omega) (by omega))) rfl rfl rfl ?_
  (refine LL.val (R.lookKT rfl rfl zKeys (by rfl) (z := kdZ) (by kernel_rfl) (by assumption) (0 : Int) rfl kF_0) rfl rfl rfl ?_)
  refine Zm ?_; refine Zx ?_; refine Zx ?_; have l296 := hs.lt; have l297 := ho.lt
  refine LL.alloc ([Value.nilFunc, Value.nilFunc, Value.nilFunc, Value.nilFunc]) rfl rfl rfl rfl rfl ?_
  intro W299 g300 eg300 r301 z302 b298
  replace h228 := h228.up b298; replace hs := hs.up b298; replace ho := ho.up b298; replace hkk := Zh hkk b298; have y303 := hkk.size; replace c0 := cell_up c0 b298; replace q := Zu q b298
  refine LL.storeN (vs := [fnV kd0.1, fnV kd0.2.1, fnV kd0.2.2.1, fnV kd0.2.2.2]) rfl rfl rfl rfl r301 (by exact Nat.le_of_ble_eq_true rfl) (ones_of rfl) rfl rfl ?_
  intro W315 r316 b314 z317
  have hlb314 := r301.lt
  replace r316 : RowL W315 _ 140 [fnV kd0.1, fnV kd0.2.1, fnV kd0.2.2.1, fnV kd0.2.2.2] := r316
  clear r301
  replace hs := Zd hs b314; replace ho := Zd ho b314; replace hkk := Zo hkk b314; replace c0 := Ze c0 b314; replace q := Zg q b314
  have r301 := r316
  clear r316
  refine Za ?_; refine Zq ?_; refine Zr ?_; refine Zm ?_; refine Zt ?_
  refine Zy (R.call rfl rfl rfl) (refuse_F _) ?_
  rintro e W' ⟨rfl, rfl⟩
  refine ⟨_, rfl, ?_⟩; refine Zq ?_; refine Zr ?_; refine Zm ?_
  refine LL.val (R.convI rfl rfl rfl rfl (wrapI (by omega) (by omega))) rfl rfl rfl ?_
  refine Zm ?_
  refine LL.val (R.convI rfl rfl rfl rfl (wrapI (by omega) (by omega))) rfl rfl rfl ?_
  refine LL.val (R.buildV rfl rfl (v := .agg #[Value.int IntKind.i64 ↑0, Value.int IntKind.i64 ↑l, Value.int IntKind.i64 0, Value.slice none 0 0, Value.int IntKind.i64 0, Value.int IntKind.i64 0, Value.string { data := #[] }]) (fun _ => by kernel_rfl)) rfl rfl rfl ?_
  refine LL.val (R.buildV rfl rfl (v := .agg #[Value.int IntKind.i64 0, Value.int IntKind.i64 ↑l, Value.int IntKind.i64 0, Value.slice none 0 0, Value.int IntKind.i64 0, Value.int IntKind.i64 0, Value.string { data := #[] }]) (fun _ => by kernel_rfl)) rfl rfl rfl ?_
  have l428 := hs.lt; have l429 := ho.lt; have l430 := r301.lt
  refine LL.alloc ([.int .i64 0, .int .i64 0, .int .i64 0, .slice none 0 0, .int .i64 0, .int .i64 0, .string { data := { toList := [] } }]) rfl rfl rfl rfl rfl ?_
  intro W432 g433 eg433 r434 z435 b431
  replace hs := hs.up b431; replace ho := ho.up b431; replace hkk := Zh hkk b431; have y436 := hkk.size; replace c0 := cell_up c0 b431; replace q := Zu q b431; replace r301 := r301.up b431
  refine LL.storeN (vs := [.int .i64 0, .int .i64 ↑l, .int .i64 0, .slice none 0 0, .int .i64 0, .int .i64 0, .string { data := #[] }]) rfl rfl rfl rfl r434 (by exact Nat.le_of_ble_eq_true rfl) (ones_of rfl) rfl rfl ?_
  intro W449 r450 b448 z451
  have hlb448 := r434.lt
  replace r450 : RowL W449 _ 145 [.int .i64 0, .int .i64 ↑l, .int .i64 0, .slice none 0 0, .int .i64 0, .int .i64 0, .string { data := #[] }] := r450
  clear r434
  replace hs := Zd hs b448; replace ho := Zd ho b448; replace hkk := Zo hkk b448; replace c0 := Ze c0 b448; replace q := Zg q b448; replace r301 := Zd r301 b448
  have r434 := r450
  clear r450
  refine Zq ?_; refine Zr ?_; refine Zf ?_; refine Zl r301 ?_; refine Zl hs ?_
  (refine LL.call (R.callV rfl rfl rfl rfl) rfl rfl rfl (rd0_any _ _ _ ⟨_, _, _, rfl⟩) ?_; rintro e _ ⟨rfl, rfl⟩; refine ⟨_, rfl, ?_⟩)
  refine Zq ?_; refine Zr ?_; refine Zf ?_; refine Zv r434 ?_; have l511 := hs.lt; have l512 := ho.lt; have l513 := r301.lt; have l514 := r434.lt
  (refine Zy (R.call rfl rfl rfl) (words_no 0 (l : Int) 0 none 0 0 [] 0 0 [] _ (ReadsT.nil _) hml htl hok1) ?_; rintro e W510 ⟨rfl, b507⟩; refine ⟨_, rfl, ?_⟩)
  have zb507 := b507.size; replace hs := hs.up b507; replace ho := ho.up b507; replace hkk := Zh hkk b507; have y518 := hkk.size; replace c0 := cell_up c0 b507; replace q := Zu q b507; replace r301 := r301.up b507; replace r434 := r434.up b507; refine Zm ?_; refine Zx ?_; refine Zx ?_; refine Za ?_; refine Za ?_; refine Zq ?_; refine Zr ?_; refine Zm ?_; refine ZneT ?_; refine Zm ?_; refine Zs ?_; refine Zs ?_
  refine Zs ?_; refine Zs ?_; refine Zp ?_
  refine LL.callP (R.call rfl rfl rfl) rfl rfl (refuse_T _) ?_
  rintro e W630 ⟨rfl, rfl⟩
  refine ⟨_, rfl, ?_⟩; refine EE.thenP ?_; refine EE.panM ?_
  exact ⟨rfl, hkk⟩
theorem of1_0W (gk : Nat) (gs go bk off cap : Nat) (ws : List Nat) (w : World) (hS : Start w) (hws : ws.length = 16) (hwb : ∀ x ∈ ws, x < 18446744073709551616) (hcap : 16 ≤ cap) (hs : RowL w gs 33 [.slice (some ⟨bk, off, none⟩) 16 cap]) (hW : WdsAt w bk off ws) (ho : RowL w go 80 (inL 0 0 0 (.slice none 0 0) 0 0 [])) (hne : go ≠ gs ∧ 0 < go ∧ bk ≠ go) (x0 : Nat) (h0 : ws[0]? = some x0) (hx0 : x0 ≠ 0) (l : Nat) (el : x0 / 256 % 16777216 = l) (hk : x0 % 256 = 0)   (hok1 : okI 0 (l : Int) 0 [] 0 0 []) (heq : inoW 0 (l : Int) 0 [] 0 0 [] ≠ ws) : Calls Tryz.prog 77 #[.pointer (some ⟨gs, 0, none⟩), .pointer (some ⟨go, 0, none⟩)] w fun e w' => e = .panicked (chain1 refV) ∧ Kept (KW w gk) w w' := by
  have hkk := Kept.refl (KW w gk) w
  have lgs := hs.lt; have lgo := ho.lt; have lbk := hW.lt
  have hS0 := hS.pos
  have hWF : ∀ X, Below w.heap.size w X → WdsAt X bk off ws := fun X b => hW.up b
  have hSF : ∀ X, Below w.heap.size w X → Start X := fun X b => hS.up b
  have hx64 := hwb x0 (List.mem_of_getElem? h0)
  have c0 : w.cell? ⟨bk, off + 0, none⟩ = some (.int .u64 (x0 : Int)) := hW.cells 0 x0 h0
  have q := Below.refl w.heap.size w
  clear hW hS
  have hll : l < 16777216 := by omega
  have hml : ([] : List Ex).length ≤ 1048576 := by simp
  refine X.fnP Tryz.func77 rfl (n := 70) rfl rfl ?_
  refine Zr ?_; refine Zl hs ?_; refine Zn ?_; refine ZneF ?_
  refine Zy (R.call rfl rfl rfl) (refuse_F _) ?_
  rintro e W' ⟨rfl, rfl⟩
  refine ⟨_, rfl, ?_⟩; refine Zq ?_; refine Zc ?_; refine Zr ?_; refine Zl hs ?_; refine Zi ?_; refine Zk ?_; refine ZeqF ?_; refine Zq ?_; refine ZN ?_; refine ZK ?_; refine ZT ?_; refine Zr ?_; refine Zl hs ?_; refine Zi ?_; refine Zk ?_
  (refine Zy (R.call rfl rfl rfl) (fld_k x0 hx64 _) ?_; rintro e _ ⟨rfl, rfl⟩; rw [hk]; refine ⟨_, rfl, ?_⟩)
  refine Zm ?_; refine Zx ?_; refine Zx ?_; refine Za ?_; refine Za ?_; refine Zq ?_; refine Zr ?_; refine Zl hs ?_; refine Zi ?_; refine Zk ?_
  (refine Zy (R.call rfl rfl rfl) (fld_l x0 hx64 _) ?_; rintro e _ ⟨rfl, rfl⟩; rw [el]; refine ⟨_, rfl, ?_⟩)
  refine Zm ?_; refine Zx ?_; refine Zx ?_; refine Za ?_; refine Za ?_; refine Zq ?_; refine Zr ?_
  refine Zy (R.call rfl rfl rfl) (kinds_any _) ?_
  rintro e W452 ⟨g454, k455, rfl, h453, b451⟩
  refine ⟨_, rfl, ?_⟩; have zb451 := b451.size; replace hs := hs.up b451; replace ho := ho.up b451; replace hkk := Zh hkk b451; have y457 := hkk.size; replace c0 := cell_up c0 b451; replace q := Zu q b451; refine Zm ?_
  refine LL.val (R.convI rfl rfl rfl rfl (wrapI (by omega) (by omega))) rfl rfl rfl ?_
  (refine LL.val (R.lookKT rfl rfl zKeys (by rfl) (z := kdZ) (by kernel_rfl) (by assumption) (0 : Int) rfl kF_0) rfl rfl rfl ?_)
  refine Zm ?_; refine Zx ?_; refine Zx ?_; have l584 := hs.lt; have l585 := ho.lt
  refine LL.alloc ([Value.nilFunc, Value.nilFunc, Value.nilFunc, Value.nilFunc]) rfl rfl rfl rfl rfl ?_
  intro W587 g588 eg588 r589 z590 b586
  replace h453 := h453.up b586; replace hs := hs.up b586; replace ho := ho.up b586; replace hkk := Zh hkk b586; have y591 := hkk.size; replace c0 := cell_up c0 b586; replace q := Zu q b586
  refine LL.storeN (vs := [fnV kd0.1, fnV kd0.2.1, fnV kd0.2.2.1, fnV kd0.2.2.2]) rfl rfl rfl rfl r589 (by exact Nat.le_of_ble_eq_true rfl) (ones_of rfl) rfl rfl ?_
  intro W613 r614 b612 z615
  have hlb612 := r589.lt
  replace r614 : RowL W613 _ 140 [fnV kd0.1, fnV kd0.2.1, fnV kd0.2.2.1, fnV kd0.2.2.2] := r614
  clear r589
  replace hs := Zd hs b612; replace ho := Zd ho b612; replace hkk := Zo hkk b612; replace c0 := Ze c0 b612; replace q := Zg q b612
  have r589 := r614
  clear r614
  refine Za ?_; refine Zq ?_; refine Zr ?_; refine Zm ?_; refine Zt ?_
  refine Zy (R.call rfl rfl rfl) (refuse_F _) ?_
  rintro e W' ⟨rfl, rfl⟩
  refine ⟨_, rfl, ?_⟩; refine Zq ?_; refine Zr ?_; refine Zm ?_
  refine LL.val (R.convI rfl rfl rfl rfl (wrapI (by omega) (by omega))) rfl rfl rfl ?_
  refine Zm ?_
  refine LL.val (R.convI rfl rfl rfl rfl (wrapI (by omega) (by omega))) rfl rfl rfl ?_
  refine LL.val (R.buildV rfl rfl (v := .agg #[Value.int IntKind.i64 ↑0, Value.int IntKind.i64 ↑l, Value.int IntKind.i64 0, Value.slice none 0 0, Value.int IntKind.i64 0, Value.int IntKind.i64 0, Value.string { data := #[] }]) (fun _ => by kernel_rfl)) rfl rfl rfl ?_
  refine LL.val (R.buildV rfl rfl (v := .agg #[Value.int IntKind.i64 0, Value.int IntKind.i64 ↑l, Value.int IntKind.i64 0, Value.slice none 0 0, Value.int IntKind.i64 0, Value.int IntKind.i64 0, Value.string { data := #[] }]) (fun _ => by kernel_rfl)) rfl rfl rfl ?_
  have l836 := hs.lt; have l837 := ho.lt; have l838 := r589.lt
  refine LL.alloc ([.int .i64 0, .int .i64 0, .int .i64 0, .slice none 0 0, .int .i64 0, .int .i64 0, .string { data := { toList := [] } }]) rfl rfl rfl rfl rfl ?_
  intro W840 g841 eg841 r842 z843 b839
  replace hs := hs.up b839; replace ho := ho.up b839; replace hkk := Zh hkk b839; have y844 := hkk.size; replace c0 := cell_up c0 b839; replace q := Zu q b839; replace r589 := r589.up b839
  refine LL.storeN (vs := [.int .i64 0, .int .i64 ↑l, .int .i64 0, .slice none 0 0, .int .i64 0, .int .i64 0, .string { data := #[] }]) rfl rfl rfl rfl r842 (by exact Nat.le_of_ble_eq_true rfl) (ones_of rfl) rfl rfl ?_
  intro W868 r869 b867 z870
  have hlb867 := r842.lt
  replace r869 : RowL W868 _ 145 [.int .i64 0, .int .i64 ↑l, .int .i64 0, .slice none 0 0, .int .i64 0, .int .i64 0, .string { data := #[] }] := r869
  clear r842
  replace hs := Zd hs b867; replace ho := Zd ho b867; replace hkk := Zo hkk b867; replace c0 := Ze c0 b867; replace q := Zg q b867; replace r589 := Zd r589 b867
  have r842 := r869
  clear r869
  refine Zq ?_; refine Zr ?_; refine Zf ?_; refine Zl r589 ?_; refine Zl hs ?_
  (refine LL.call (R.callV rfl rfl rfl rfl) rfl rfl rfl (rd0_any _ _ _ ⟨_, _, _, rfl⟩) ?_; rintro e _ ⟨rfl, rfl⟩; refine ⟨_, rfl, ?_⟩)
  refine Zq ?_; refine Zr ?_; refine Zf ?_; refine Zv r842 ?_; have l985 := hs.lt; have l986 := ho.lt; have l987 := r589.lt; have l988 := r842.lt
  (refine Zy (R.call rfl rfl rfl) (words_ok 0 (l : Int) 0 none 0 0 [] 0 0 [] _ (hSF _ q) (ReadsT.nil _) hml hok1) ?_; rintro e W984 ⟨g9, rfl, r9, hg9, b981⟩; refine ⟨_, rfl, ?_⟩)
  have zb981 := b981.size; replace hs := hs.up b981; replace ho := ho.up b981; replace hkk := Zh hkk b981; have y992 := hkk.size; replace c0 := cell_up c0 b981; replace q := Zu q b981; replace r589 := r589.up b981; replace r842 := r842.up b981; refine Zm ?_; refine Zx ?_; refine Zx ?_; refine Za ?_; refine Za ?_; refine Zq ?_; refine Zr ?_; refine Zm ?_; refine ZneF ?_; refine Zm ?_; refine Zm ?_; refine Zl hs ?_
  have l1249 := r9.lt; have l1250 := hs.lt; have l1251 := ho.lt; have l1252 := r589.lt; have l1253 := r842.lt
  (refine Zy (R.call rfl rfl rfl) (weq_F (RowL.asInts r9 .u64 _ rfl (inoW_len hok1)) ((hWF _ q).all hws hcap) (by rw [inoW_len hok1]; omega) (by omega) heq) ?_; rintro e W1248 ⟨rfl, b1245⟩; refine ⟨_, rfl, ?_⟩)
  have zb1245 := b1245.size; replace r9 := r9.up b1245; replace hs := hs.up b1245; replace ho := ho.up b1245; replace hkk := Zh hkk b1245; have y1257 := hkk.size; replace c0 := cell_up c0 b1245; replace q := Zu q b1245; replace r589 := r589.up b1245; replace r842 := r842.up b1245; refine Zt ?_; refine Zp ?_
  refine LL.callP (R.call rfl rfl rfl) rfl rfl (refuse_T _) ?_
  rintro e W1331 ⟨rfl, rfl⟩
  refine ⟨_, rfl, ?_⟩; refine EE.thenP ?_; refine EE.panM ?_
  exact ⟨rfl, hkk⟩
theorem of1_X (gk : Nat) (gs go bk off cap : Nat) (ws : List Nat) (w : World) (hS : Start w) (hws : ws.length = 16) (hwb : ∀ x ∈ ws, x < 18446744073709551616) (hcap : 16 ≤ cap) (hs : RowL w gs 33 [.slice (some ⟨bk, off, none⟩) 16 cap]) (hW : WdsAt w bk off ws) (ho : RowL w go 80 (inL 0 0 0 (.slice none 0 0) 0 0 [])) (hne : go ≠ gs ∧ 0 < go ∧ bk ≠ go) (x0 : Nat) (h0 : ws[0]? = some x0) (hx0 : x0 ≠ 0) (l : Nat) (el : x0 / 256 % 16777216 = l) (hk : 3 < x0 % 256) : Calls Tryz.prog 77 #[.pointer (some ⟨gs, 0, none⟩), .pointer (some ⟨go, 0, none⟩)] w fun e w' => e = .panicked (chain1 refV) ∧ Kept (KW w gk) w w' := by
  have hkk := Kept.refl (KW w gk) w
  have lgs := hs.lt; have lgo := ho.lt; have lbk := hW.lt
  have hS0 := hS.pos
  have hWF : ∀ X, Below w.heap.size w X → WdsAt X bk off ws := fun X b => hW.up b
  have hSF : ∀ X, Below w.heap.size w X → Start X := fun X b => hS.up b
  have hx64 := hwb x0 (List.mem_of_getElem? h0)
  have c0 : w.cell? ⟨bk, off + 0, none⟩ = some (.int .u64 (x0 : Int)) := hW.cells 0 x0 h0
  have q := Below.refl w.heap.size w
  clear hW hS
  have hll : l < 16777216 := by omega
  have kN := kinds_none (k := ((x0 % 256 : Nat) : Int)) (by omega)
  obtain ⟨k, ek⟩ : ∃ k, x0 % 256 = k := ⟨_, rfl⟩
  rw [ek] at kN hk
  have hk := ek
  refine X.fnP Tryz.func77 rfl (n := 70) rfl rfl ?_
  refine Zr ?_; refine Zl hs ?_; refine Zn ?_; refine ZneF ?_
  refine Zy (R.call rfl rfl rfl) (refuse_F _) ?_
  rintro e W' ⟨rfl, rfl⟩
  refine ⟨_, rfl, ?_⟩; refine Zq ?_; refine Zc ?_; refine Zr ?_; refine Zl hs ?_; refine Zi ?_; refine Zk ?_; refine ZeqF ?_; refine Zq ?_; refine ZN ?_; refine ZK ?_; refine ZT ?_; refine Zr ?_; refine Zl hs ?_; refine Zi ?_; refine Zk ?_
  (refine Zy (R.call rfl rfl rfl) (fld_k x0 hx64 _) ?_; rintro e _ ⟨rfl, rfl⟩; rw [hk]; refine ⟨_, rfl, ?_⟩)
  refine Zm ?_; refine Zx ?_; refine Zx ?_; refine Za ?_; refine Za ?_; refine Zq ?_; refine Zr ?_; refine Zl hs ?_; refine Zi ?_; refine Zk ?_
  (refine Zy (R.call rfl rfl rfl) (fld_l x0 hx64 _) ?_; rintro e _ ⟨rfl, rfl⟩; rw [el]; refine ⟨_, rfl, ?_⟩)
  refine Zm ?_; refine Zx ?_; refine Zx ?_; refine Za ?_; refine Za ?_; refine Zq ?_; refine Zr ?_
  refine Zy (R.call rfl rfl rfl) (kinds_any _) ?_
  rintro e W2 ⟨g4, k5, rfl, h3, b1⟩
  refine ⟨_, rfl, ?_⟩; have zb1 := b1.size; replace hs := hs.up b1; replace ho := ho.up b1; replace hkk := Zh hkk b1; have y7 := hkk.size; replace c0 := cell_up c0 b1; replace q := Zu q b1; refine Zm ?_
  refine LL.val (R.convI rfl rfl rfl rfl (wrapI (by omega) (by omega))) rfl rfl rfl ?_
  (refine LL.val (R.lookKF rfl rfl zKeys (by rfl) (z := kdZ) (by kernel_rfl) (by assumption) (k : Int) rfl kN) rfl rfl rfl ?_)
  refine Zm ?_; refine Zx ?_; refine Zx ?_; have l8 := hs.lt; have l9 := ho.lt
  refine LL.alloc ([Value.nilFunc, Value.nilFunc, Value.nilFunc, Value.nilFunc]) rfl rfl rfl rfl rfl ?_
  intro W11 g12 eg12 r13 z14 b10
  replace h3 := h3.up b10; replace hs := hs.up b10; replace ho := ho.up b10; replace hkk := Zh hkk b10; have y15 := hkk.size; replace c0 := cell_up c0 b10; replace q := Zu q b10
  refine LL.storeN (vs := [Value.nilFunc, Value.nilFunc, Value.nilFunc, Value.nilFunc]) rfl rfl rfl rfl r13 (by exact Nat.le_of_ble_eq_true rfl) (ones_of rfl) rfl rfl ?_
  intro W17 r18 b16 z19
  have hlb16 := r13.lt
  replace r18 : RowL W17 _ 140 [Value.nilFunc, Value.nilFunc, Value.nilFunc, Value.nilFunc] := r18
  clear r13
  replace hs := Zd hs b16; replace ho := Zd ho b16; replace hkk := Zo hkk b16; replace c0 := Ze c0 b16; replace q := Zg q b16
  have r13 := r18
  clear r18
  refine Za ?_; refine Zq ?_; refine Zr ?_; refine Zm ?_; refine Zt ?_
  refine LL.callP (R.call rfl rfl rfl) rfl rfl (refuse_T _) ?_
  rintro e W21 ⟨rfl, rfl⟩
  refine ⟨_, rfl, ?_⟩; refine EE.thenP ?_; refine EE.panM ?_
  exact ⟨rfl, hkk⟩
theorem of1_Z (gs go bk off cap : Nat) (ws : List Nat) (w : World) (hS : Start w) (hws : ws.length = 16) (hwb : ∀ x ∈ ws, x < 18446744073709551616) (hcap : 16 ≤ cap) (hs : RowL w gs 33 [.slice (some ⟨bk, off, none⟩) 16 cap]) (hW : WdsAt w bk off ws) (ho : RowL w go 80 (inL 0 0 0 (.slice none 0 0) 0 0 [])) (hne : go ≠ gs ∧ 0 < go ∧ bk ≠ go) (x0 : Nat) (h0 : ws[0]? = some x0) (hx0 : x0 = 0) : Calls Tryz.prog 77 #[.pointer (some ⟨gs, 0, none⟩), .pointer (some ⟨go, 0, none⟩)] w (ofP go 0 0 0 [] 0 0 [] w) := by
  unfold ofP
  have hkk := Kept.refl (KW w go) w
  have lgs := hs.lt; have lgo := ho.lt; have lbk := hW.lt
  have hS0 := hS.pos
  have hWF : ∀ X, Below w.heap.size w X → WdsAt X bk off ws := fun X b => hW.up b
  have hSF : ∀ X, Below w.heap.size w X → Start X := fun X b => hS.up b
  have hx64 := hwb x0 (List.mem_of_getElem? h0)
  have c0 : w.cell? ⟨bk, off + 0, none⟩ = some (.int .u64 (x0 : Int)) := hW.cells 0 x0 h0
  have q := Below.refl w.heap.size w
  clear hW hS
  refine X.fn Tryz.func77 rfl (n := 70) rfl rfl ?_
  refine Zr ?_; refine Zl hs ?_; refine Zn ?_; refine ZneF ?_
  refine Zy (R.call rfl rfl rfl) (refuse_F _) ?_
  rintro e W' ⟨rfl, rfl⟩
  refine ⟨_, rfl, ?_⟩; refine Zq ?_; refine Zc ?_; refine Zr ?_; refine Zl hs ?_; refine Zi ?_; refine Zk ?_; refine ZeqT ?_; refine Zq ?_; refine ZY ?_; refine ZR ?_; refine EE.thenR ?_; refine EE.ret _ rfl rfl ?_
  exact ⟨rfl, ⟨_, ho, ReadsT.nil _, fun b off n c e => by cases e⟩, hkk⟩
set_option linter.unusedVariables false
set_option linter.unusedSimpArgs false
set_option maxRecDepth 100000
set_option maxHeartbeats 8000000
section
variable {P : Program} {w : World} {t u T : TypeId} {o : Oper} {x y : Operand} {n e k : Nat} {D : List Deferred} {M : Slots}
end
def ofR (k l z : Int) (m : List Ex) (r p : Int) (t : Bs) (w0 : World) (e : Ending) (w : World) : Prop := ∃ v, e = .returned (.tuple #[inV k l z v r p t, .int .i64 0]) ∧ ReadsT eE 3 w v m ∧ Below w0.heap.size w0 w
theorem of_run (a : Option Addr) (n c : Nat) (k l z : Int) (m : List Ex) (r p : Int) (t : Bs) (w : World) (hS0 : 0 < w.heap.size)
    (hwork : ∀ W gs go, Below w.heap.size w W → w.heap.size ≤ gs → w.heap.size ≤ go → go ≠ gs → RowL W gs 33 [.slice a n c] → RowL W go 80 (inL 0 0 0 (.slice none 0 0) 0 0 []) → Calls Tryz.prog 77 #[.pointer (some ⟨gs, 0, none⟩), .pointer (some ⟨go, 0, none⟩)] W (ofP go k l z m r p t W)) :
    Calls Tryz.prog 56 #[.slice a n c] w (ofR k l z m r p t w) := by
  unfold ofR
  have q := Below.refl w.heap.size w
  refine X.fn Tryz.func56 rfl (n := 10) rfl rfl ?_
  refine Zr ?_
  refine LL.box [.slice a n c] rfl rfl rfl rfl rfl ?_
  intro W2 g3 eg3 r4 z5 b1
  replace q := Zu q b1; have l6 := r4.lt
  refine LL.alloc ([.int .i64 0, .int .i64 0, .int .i64 0, .slice none 0 0, .int .i64 0, .int .i64 0, .string { data := { toList := [] } }]) rfl rfl rfl rfl rfl ?_
  intro W8 g9 eg9 r10 z11 b7
  replace r4 := r4.up b7; replace q := Zu q b7; refine Za ?_; refine Zq ?_; refine Zr ?_; have l12 := r10.lt; have l13 := r4.lt
  refine LL.alloc ([.int .i64 0, .int .i64 0, .int .i64 0, .slice none 0 0, .int .i64 0, .int .i64 0, .string { data := { toList := [] } }]) rfl rfl rfl rfl rfl ?_
  intro W15 g16 eg16 r17 z18 b14
  replace r10 := r10.up b14; replace r4 := r4.up b14; replace q := Zu q b14; refine Zq ?_; refine Zr ?_
  refine LL.val (R.func rfl rfl rfl) rfl rfl rfl ?_
  have lg4 := r4.lt; have lg17 := r17.lt
  refine Zy (R.call rfl rfl rfl) (guarded_R _ [Value.pointer (some ⟨g3, 0, none⟩), .pointer (some ⟨g16, 0, none⟩)] (by kernel_rfl) g16 (fun n X => ∃ v, RowL X g16 80 (inL k l z v r p t) ∧ ReadsT eE 3 X v m ∧ ∀ b off n' c', v = .slice (some ⟨b, off, none⟩) n' c' → n ≤ b) _ (by omega) (fun n X Y b ⟨v, h1, h2, h3⟩ hb1 hb2 hg => ⟨v, h1.gr hg (by omega), readsT_far h2 (grown_kept (K := fun i => i < X.heap.size ∧ i ≠ b) hg (fun k hk => hk.1) (fun k hk e => by cases e; exact hk.2 rfl)) (fun b2 off n2 c2 e hlt => ⟨hlt, by have := h3 b2 off n2 c2 e; omega⟩), h3⟩) (fun W' b' => hwork W' g3 g16 (q.trans (b'.mono q.size)) (by omega) (by omega) (by omega) (r4.up b') (r17.up b'))) ?_
  rintro e W9 ⟨rfl, ⟨n9, hn9, v9, r91, rd9, hge9⟩, t9⟩
  refine ⟨_, rfl, ?_⟩
  replace q := t9.onB q (fun j hj => ⟨by omega, by omega⟩)
  replace r10 := r10.kept t9 ⟨by omega, by omega⟩
  clear r4 r17 b1 b7 b14
  obtain ⟨x9, c9, rfl, _⟩ := rd9.form rfl
  have hk9 := Kept.refl (fun i => i < W9.heap.size ∧ i ≠ g9) W9
  have rd9F := fun X (b : Below W9.heap.size W9 X) => rd9.up b
  clear rd9
  have zt9 := t9.size; refine Za ?_; refine Zq ?_; refine Zr ?_; refine Zv r91 ?_; refine Zm ?_
  refine LL.storeN (vs := [.int .i64 k, .int .i64 l, .int .i64 z, .slice x9 m.length c9, .int .i64 r, .int .i64 p, strV t]) rfl rfl rfl rfl r10 (by exact Nat.le_of_ble_eq_true rfl) (ones_of rfl) rfl rfl ?_
  intro Wa2 ra3 ba1 za4
  have hlba1 := r10.lt
  replace ra3 : RowL Wa2 _ 80 [.int .i64 k, .int .i64 l, .int .i64 z, .slice x9 m.length c9, .int .i64 r, .int .i64 p, strV t] := ra3
  clear r10
  replace q := Zg q ba1; replace r91 := Zd r91 ba1; replace hk9 := Zo hk9 ba1
  have r10 := ra3
  clear ra3
  refine Za ?_; refine Zq ?_; refine ZR ?_
  refine EE.ret2 rfl ⟨_, rfl, lvNc (RowL.cells0 (by assumption)) (by rfl) (by rfl)⟩ rfl ?_
  exact ⟨_, rfl, readsT_far (rd9F _ (Below.refl _ _)) hk9 (fun b off n c e hlt => ⟨hlt, by have := hge9 b off n c e; omega⟩), q⟩
theorem of_pan (a : Option Addr) (n c : Nat) (w : World)
    (hwork : ∀ W gs go gk, Below w.heap.size w W → w.heap.size ≤ gs → w.heap.size ≤ go → go ≠ gs → RowL W gs 33 [.slice a n c] → RowL W go 80 (inL 0 0 0 (.slice none 0 0) 0 0 []) → Calls Tryz.prog 77 #[.pointer (some ⟨gs, 0, none⟩), .pointer (some ⟨go, 0, none⟩)] W fun e W' => e = .panicked (chain1 refV) ∧ Kept (KW W gk) W W') :
    Calls Tryz.prog 56 #[.slice a n c] w fun e w' => e = .returned (.tuple #[inV 0 0 0 (.slice none 0 0) 0 0 [], .int .i64 240]) ∧ Below w.heap.size w w' := by
  have q := Below.refl w.heap.size w
  refine X.fn Tryz.func56 rfl (n := 10) rfl rfl ?_
  refine Zr ?_
  refine LL.box [.slice a n c] rfl rfl rfl rfl rfl ?_
  intro W2 g3 eg3 r4 z5 b1
  replace q := Zu q b1; have l6 := r4.lt
  refine LL.alloc ([.int .i64 0, .int .i64 0, .int .i64 0, .slice none 0 0, .int .i64 0, .int .i64 0, .string { data := { toList := [] } }]) rfl rfl rfl rfl rfl ?_
  intro W8 g9 eg9 r10 z11 b7
  replace r4 := r4.up b7; replace q := Zu q b7; refine Za ?_; refine Zq ?_; refine Zr ?_; have l12 := r10.lt; have l13 := r4.lt
  refine LL.alloc ([.int .i64 0, .int .i64 0, .int .i64 0, .slice none 0 0, .int .i64 0, .int .i64 0, .string { data := { toList := [] } }]) rfl rfl rfl rfl rfl ?_
  intro W15 g16 eg16 r17 z18 b14
  replace r10 := r10.up b14; replace r4 := r4.up b14; replace q := Zu q b14; refine Zq ?_; refine Zr ?_
  refine LL.val (R.func rfl rfl rfl) rfl rfl rfl ?_
  have lg4 := r4.lt; have lg17 := r17.lt
  refine Zy (R.call rfl rfl rfl) (guarded_P _ [Value.pointer (some ⟨g3, 0, none⟩), .pointer (some ⟨g16, 0, none⟩)] (by kernel_rfl) g3 _ (by omega) (fun W' b' => hwork W' g3 g16 g3 (q.trans (b'.mono q.size)) (by omega) (by omega) (by omega) (r4.up b') (r17.up b'))) ?_
  rintro e W9 ⟨rfl, t9⟩
  refine ⟨_, rfl, ?_⟩
  replace q := t9.onB q (fun j hj => ⟨by omega, by omega⟩)
  replace r10 := r10.kept t9 ⟨by omega, by omega⟩
  replace r17 := r17.kept t9 ⟨by omega, by omega⟩
  clear r4 b1 b7 b14
  refine Za ?_; refine Zq ?_; refine Zr ?_; refine Zv r17 ?_; refine Zm ?_
  refine LL.storeN (vs := [.int .i64 0, .int .i64 0, .int .i64 0, .slice none 0 0, .int .i64 0, .int .i64 0, .string { data := { toList := [] } }]) rfl rfl rfl rfl r10 (by exact Nat.le_of_ble_eq_true rfl) (ones_of rfl) rfl rfl ?_
  intro Wa2 ra3 ba1 za4
  have hlba1 := r10.lt
  replace ra3 : RowL Wa2 _ 80 [.int .i64 0, .int .i64 0, .int .i64 0, .slice none 0 0, .int .i64 0, .int .i64 0, .string { data := { toList := [] } }] := ra3
  clear r10
  replace q := Zg q ba1; replace r17 := Zd r17 ba1
  have r10 := ra3
  clear ra3
  refine Za ?_; refine Zq ?_; refine ZR ?_
  refine EE.ret2 rfl ⟨_, rfl, lvNc (RowL.cells0 (by assumption)) (by rfl) (by rfl)⟩ rfl ?_
  exact ⟨rfl, q⟩
theorem wsame_any (v1 v2 : Value) (xs ys : List Nat) (w : World) (h1 : Reads w v1 (ints .u64 xs)) (h2 : Reads w v2 (ints .u64 ys)) (hx : xs.length ≤ 1048576) (hy : ys.length ≤ 1048576) :
    Calls Tryz.prog 14 #[v1, v2] w fun e w' => e = .returned (.bool (decide (xs = ys))) ∧ Below w.heap.size w w' := by
  refine (same_any v1 v2 xs ys w h1 h2 hx hy).mono ?_
  rintro e w' ⟨rfl, n, rfl⟩
  exact ⟨rfl, Below.drewN (Below.refl _ _) n⟩
theorem wsame_T (v1 v2 : Value) (xs ys : List Nat) (w : World) (h1 : Reads w v1 (ints .u64 xs)) (h2 : Reads w v2 (ints .u64 ys)) (hx : xs.length ≤ 1048576) (e : ys = xs) :
    Calls Tryz.prog 14 #[v1, v2] w fun e w' => e = .returned (.bool true) ∧ Below w.heap.size w w' := by
  subst e
  have := wsame_any v1 v2 ys ys w h1 h2 hx hx
  simpa using this
theorem of_Z (bk off cap : Nat) (ws : List Nat) (w : World) (hS : Start w) (hws : ws.length = 16) (hwb : ∀ x ∈ ws, x < 18446744073709551616) (hcap : 16 ≤ cap) (hW : WdsAt w bk off ws) (h0 : ws[0]? = some 0) : Calls Tryz.prog 56 #[.slice (some ⟨bk, off, none⟩) 16 cap] w (ofR 0 0 0 [] 0 0 [] w) :=
  of_run _ 16 cap 0 0 0 [] 0 0 [] w hS.pos (fun W gs go b hgs hgo hne hs ho => of1_Z gs go bk off cap ws W (hS.up b) hws hwb hcap hs (hW.up b) ho ⟨hne, by have := hS.pos; omega, by have := hW.lt; omega⟩ 0 h0 rfl)
theorem inoW_1 (l z : Int) (m : List Ex) (r p : Int) (t : Bs) (h : vL m) : inoW 1 l z m r p t = (1 + 256 * l.toNat) :: z.toNat :: (wrdN m ++ List.replicate 4 0) := by
  unfold inoW layF putL hdN
  simp [wrdN_len h]
theorem inoW_2 (l z : Int) (m : List Ex) (r p : Int) (t : Bs) : inoW 2 l z m r p t = (2 + 256 * l.toNat) :: 0 :: r.toNat :: p.toNat :: List.replicate 12 0 := by
  unfold inoW layD putL hdN
  simp
theorem inoW_3 (l z : Int) (m : List Ex) (r p : Int) (t : Bs) (h : t.length ≤ 112) : inoW 3 l z m r p t = (3 + 256 * l.toNat) :: t.length :: (layL (nbL t) ++ List.replicate (14 - (t.length + 7) / 8) 0) := by
  unfold inoW layK putL hdN
  simp only [show ¬((3 : Int) = 1) by decide, show ¬((3 : Int) = 2) by decide, if_false, if_true, List.replicate, List.take_succ_cons, List.take_zero, List.drop_succ_cons, List.drop_zero, List.length_cons, List.length_nil, List.cons_append, List.nil_append, layL_len]
  rw [Nat.add_comm 2]
  show (3 + 256 * l.toNat) :: t.length :: (layL (nbL t) ++ List.drop ((t.length + 7) / 8) (List.replicate 14 0)) = _
  rw [List.drop_replicate]
theorem inoW_0 (l z : Int) (m : List Ex) (r p : Int) (t : Bs) : inoW 0 l z m r p t = List.replicate 16 0 := by
  unfold inoW hdN
  simp [List.replicate]
theorem wrdN_Z {m : List Ex} (h : ∀ x ∈ m, mayE x) : (wrdN m).map (fun n : Nat => (n : Int)) = wrdZ m := by
  unfold wrdN
  rw [List.map_map]
  conv => rhs; rw [← List.map_id (wrdZ m)]
  refine List.map_congr_left fun z hz => ?_
  obtain ⟨i, hi⟩ := List.mem_iff_getElem?.1 hz
  have := (wrdZ_bnd h i z hi).1
  simp only [Function.comp_apply, id_eq]
  exact Int.toNat_of_nonneg this
theorem wsZ_1 (l z : Int) (m : List Ex) (r p : Int) (t : Bs) (h : vL m) : wsZ (inoW 1 l z m r p t) = wrdZ m := by
  rw [inoW_1 l z m r p t h]
  unfold wsZ
  rw [← wrdN_Z h.2.1]
  simp only [List.drop_succ_cons, List.drop_zero]
  rw [List.take_left' (wrdN_len h)]
theorem tg_take (t : Bs) (ws : List Nat) (h : (ws.drop 2).take ((t.length + 7) / 8) = layL (nbL t)) : tgOk ws t.length ∧ tgW ws t.length = t := by
  unfold tgOk tgW
  rw [h]
  have e := nbL_len t
  have h1 := lay_take (nbL t) (nbL_lt t)
  have h2 := lay_drop (nbL t) (nbL_lt t)
  rw [e] at h1 h2
  exact ⟨h2, by rw [h1, ofN_nbL]⟩
theorem tg_3 (l z : Int) (m : List Ex) (r p : Int) (t : Bs) (h : t.length ≤ 112) : tgOk (inoW 3 l z m r p t) t.length ∧ tgW (inoW 3 l z m r p t) t.length = t := by
  refine tg_take t _ ?_
  rw [inoW_3 l z m r p t h]
  simp only [List.drop_succ_cons, List.drop_zero]
  rw [List.take_left' (layL_len t)]
/-- Words of no inode. -/
def noI (ws : List Nat) : Prop := ∀ k l z m r p t, okI k l z m r p t → inoW k l z m r p t ≠ ws
--C ref14_Check | hck @w (hvF _ q) | ⟨rfl, @b⟩
--C ref06_Words | rwords_T m _ @w (hvF _ q) hvl | ⟨rfl, @b⟩
end Go.Proofs.YtaeaokimhbbnfaaGreatDoor
