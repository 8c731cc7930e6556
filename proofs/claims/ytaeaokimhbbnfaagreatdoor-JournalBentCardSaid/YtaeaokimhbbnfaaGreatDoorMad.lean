/- What the statements' walks use: In4, In5, In6, FreeP, In7, Far, In8, In9, In10, In11, In12, In13, In14, WEq. -/
import Derived.Test.YtaeaokimhbbnfaaGreatDoorProg
import Derived.Test.YtaeaokimhbbnfaaGreatDoorMaa
import Derived.Test.YtaeaokimhbbnfaaGreatDoorMab
import Derived.Test.YtaeaokimhbbnfaaGreatDoorMac
/- inode: how the words are laid. -/
namespace Go.Proofs.YtaeaokimhbbnfaaGreatDoor
set_option linter.unusedVariables false
set_option linter.unusedSimpArgs false
open Go.RowKit Go.Shelf
set_option maxRecDepth 100000
set_option maxHeartbeats 8000000
theorem layL_len (l : Bs) : (layL (nbL l)).length = (l.length + 7) / 8 := by rw [layL_length, nbL_len]
/-- Words, in which others stand from a place on. -/
def putL (ws : List Nat) (i : Nat) (xs : List Nat) : List Nat := ws.take i ++ xs ++ ws.drop (i + xs.length)
theorem putL_len {ws xs : List Nat} {i n : Nat} (h : ws.length = n) (hi : i + xs.length ≤ n) : (putL ws i xs).length = n := by
  simp only [putL, List.length_append, List.length_take, List.length_drop]
  omega
/-- The words under way: where the next one goes, and what was laid. -/
structure OutW (w : World) (gv gw ga at_ : Nat) (ws : List Nat) : Prop where
  ra : RowL w ga 3 [.int .i64 (at_ : Int)]
  rv : RowL w gv 33 [.slice (some ⟨gw, 0, none⟩) 16 16]
  rw_ : RowL w gw 25 (ints .u64 ws)
  len : ws.length = 16
  ne : ga ≠ gv ∧ ga ≠ gw ∧ gv ≠ gw
theorem OutW.up {w w' : World} {gv gw ga at_ : Nat} {ws : List Nat} (h : OutW w gv gw ga at_ ws) (b : Below w.heap.size w w') : OutW w' gv gw ga at_ ws := ⟨h.ra.up b, h.rv.up b, h.rw_.up b, h.len, h.ne⟩
theorem OutW.gr {w w' : World} {gv gw ga at_ g : Nat} {ws : List Nat} (h : OutW w gv gw ga at_ ws) (b : w.grownBy w' (some g)) (hne : g ≠ gv ∧ g ≠ gw ∧ g ≠ ga) : OutW w' gv gw ga at_ ws := ⟨h.ra.gr b (by omega), h.rv.gr b (by omega), h.rw_.gr b (by omega), h.len, h.ne⟩
theorem OutW.lts {w : World} {gv gw ga at_ : Nat} {ws : List Nat} (h : OutW w gv gw ga at_ ws) : gv < w.heap.size ∧ gw < w.heap.size ∧ ga < w.heap.size := ⟨h.rv.lt, h.rw_.lt, h.ra.lt⟩
abbrev KO (w : World) (gw ga : Nat) (i : Nat) : Prop := i < w.heap.size ∧ i ≠ gw ∧ i ≠ ga
theorem ko_tr {w w1 w2 : World} {gw ga : Nat} (h : Kept (KO w gw ga) w w1) (h2 : Kept (KO w1 gw ga) w1 w2) : Kept (KO w gw ga) w w2 :=
  h.trans (h2.less fun j hj => ⟨by have := hj.1; have := h.size; omega, hj.2⟩)
abbrev fillV (ga gv : Nat) : Value := .func (.func 118) #[] #[.pointer (some ⟨ga, 0, none⟩), .pointer (some ⟨gv, 0, none⟩)]
theorem fill_any (gv gw ga at_ sl sc : Nat) (p : Addr) (ws xs : List Nat) (w : World) (O : OutW w gv gw ga at_ ws) (hxF : ∀ X, Kept (KO w gw ga) w X → Cells X p (ints .u64 xs)) (hsl : xs.length = sl) (hfit : at_ + sl ≤ 16) (h1 : 1 ≤ sl) (hsc : sl ≤ sc) : Calls Tryz.prog 118 #[.slice (some p) sl sc, .pointer (some ⟨ga, 0, none⟩), .pointer (some ⟨gv, 0, none⟩)] w fun e w' => e = .returned (.tuple #[]) ∧ OutW w' gv gw ga (at_ + sl) (putL ws at_ xs) ∧ Kept (KO w gw ga) w w' := by
  have lO := O.lts
  obtain ⟨ra, rv, rw_, len, ne1, ne2, ne3⟩ := O
  have hkk := Kept.refl (KO w gw ga) w
  have hil : (ints .u64 xs).length = sl := by simp [ints, hsl]
  have hwl : (ints .u64 ws).length = 16 := by simp [ints, len]
  refine X.fn Tryz.func118 rfl (n := 11) rfl rfl ?_
  refine CC.join (fun l_ W34 => l_ = [] ∧ (RowL W34 gw 25 (ints IntKind.u64 (putL ws at_ xs))) ∧ (RowL W34 gv 33 [Value.slice (some { block := gw, off := 0 }) 16 16]) ∧ (Kept (KO w gw ga) w W34) ∧ (RowL W34 ga 3 [Value.int IntKind.i64 ↑(at_ + (ints IntKind.u64 xs).length)]) ∧ (w.heap.size ≤ W34.heap.size)) (fun J38 => ?_) ?restJ38
  case' restJ38 =>
    clear rv
    clear hkk
    clear ra
    rintro _ W34 ⟨rfl, r9, rv, hkk, ra, z37⟩
  refine EE.end _ rfl rfl ?_
  exact ⟨rfl, ⟨(by rw [hil] at *; assumption), by assumption, by assumption, putL_len len (by omega), ne1, ne2, ne3⟩, hkk⟩
  refine CC.freeZ (fun W_ j => j < W_.heap.size ∧ (j ≠ gw ∧ j ≠ ga)) (by kernel_rfl) (by kernel_rfl) (fun W40 b39 z41 => ?_)
  replace ra := ra.up b39; replace rv := rv.up b39; replace rw_ := rw_.up b39; replace hkk := Zh hkk b39; have y42 := hkk.size
  have hok : Kept (fun j => j < W40.heap.size ∧ (j ≠ gw ∧ j ≠ ga)) W40 W40 := Kept.refl _ _
  have fzrv := fzRow (K := fun j => j < W40.heap.size ∧ (j ≠ gw ∧ j ≠ ga)) rv ⟨rv.lt, (by first | trivial | omega)⟩
  refine AA.pure 1 rfl hok (by kernel_rfl) (fun w' b' => R.load rfl rfl (I.ld1 rfl (RowL.cell (fzrv w' b') rfl))) rfl rfl ?_
  refine AA.pure 4 rfl hok (by kernel_rfl) (fun w' b' => R.move rfl rfl) rfl rfl ?_
  refine AA.two 0 2 (by kernel_rfl) ?_ ?_
  refine SR.val rfl (R.load rfl rfl (I.ld1 rfl (RowL.cell ra rfl))) rfl rfl hok ?_
  refine AA.one 2 (by kernel_rfl) ?_
  refine SR.val rfl (R.load rfl rfl (I.ld1 rfl (RowL.cell ra rfl))) rfl rfl hok ?_
  refine AA.pure 3 rfl hok (by kernel_rfl) (fun w' b' => R.slice rfl rfl rfl rfl rfl (I.slFrom rfl (by omega) (by omega) (by omega))) rfl rfl ?_
  refine AA.one 5 (by kernel_rfl) ?_
  (refine SR.copy rfl rfl rfl rfl (by assumption) (hxF _ hkk) (by rw [hil]; exact (Nat.min_eq_left (a := sl) (b := 16 - at_) (by omega)).symm) (by rw [hil, hwl]; show 0 + at_ * 1 + sl ≤ 16; omega) (fun v hv => by simp only [ints, List.mem_map] at hv; obtain ⟨y, _, rfl⟩ := hv; rfl) rfl rfl ?_; intro W60 r9 gr58 zz63; replace r9 : RowL W60 gw 25 (ints .u64 (putL ws at_ xs)) := by have h9 : RowL W60 gw 25 ((ints .u64 ws).take (0 + at_ * 1) ++ ints .u64 xs ++ (ints .u64 ws).drop (0 + at_ * 1 + (ints .u64 xs).length)) := r9; (rw [show 0 + at_ * 1 = at_ by omega, show (ints .u64 xs).length = xs.length by simp [ints]] at h9); simp only [putL, ints, List.map_append, List.map_take, List.map_drop]; exact h9)
  have zgr58 := gr58.size; replace ra := Zd ra gr58; replace rv := Zd rv gr58; replace hkk := Zo hkk gr58; replace hok := Zo hok gr58
  refine ⟨hok, ?_⟩
  refine AA.pure 6 rfl hok (by kernel_rfl) (fun w' b' => R.addN rfl rfl rfl (by omega)) rfl rfl ?_
  refine AA.one 7 (by kernel_rfl) ?_
  refine ZR.store rfl rfl rfl rfl rfl ra (by exact Nat.le_of_ble_eq_true rfl) rfl rfl rfl rfl ?_
  intro W72 r73 b71 z74
  have hlb71 := ra.lt
  replace r73 : RowL W72 _ 3 [.int .i64 ↑(at_ + (ints .u64 xs).length)] := r73
  clear ra
  replace r9 := Zd r9 b71; replace rv := Zd rv b71; replace hkk := Zo hkk b71; replace hok := Zo hok b71
  have ra := r73
  clear r73
  refine ⟨hok, ?_⟩
  refine AA.done rfl ?_
  clear fzrv hok
  refine EE.end _ rfl rfl ?_
  exact ⟨rfl, ⟨(by rw [hil] at *; assumption), by assumption, by assumption, putL_len len (by omega), ne1, ne2, ne3⟩, hkk⟩
  refine SR.val rfl (R.load rfl rfl (I.ld1 rfl (RowL.cell ra rfl))) rfl rfl hok ?_
  refine AA.pure 3 rfl hok (by kernel_rfl) (fun w' b' => R.slice rfl rfl rfl rfl rfl (I.slFrom rfl (by omega) (by omega) (by omega))) rfl rfl ?_
  refine AA.two 0 5 (by kernel_rfl) ?_ ?_
  refine SR.val rfl (R.load rfl rfl (I.ld1 rfl (RowL.cell ra rfl))) rfl rfl hok ?_
  refine AA.one 5 (by kernel_rfl) ?_
  (refine SR.copy rfl rfl rfl rfl (by assumption) (hxF _ hkk) (by rw [hil]; exact (Nat.min_eq_left (a := sl) (b := 16 - at_) (by omega)).symm) (by rw [hil, hwl]; show 0 + at_ * 1 + sl ≤ 16; omega) (fun v hv => by simp only [ints, List.mem_map] at hv; obtain ⟨y, _, rfl⟩ := hv; rfl) rfl rfl ?_; intro W92 r9 gr90 zz95; replace r9 : RowL W92 gw 25 (ints .u64 (putL ws at_ xs)) := by have h9 : RowL W92 gw 25 ((ints .u64 ws).take (0 + at_ * 1) ++ ints .u64 xs ++ (ints .u64 ws).drop (0 + at_ * 1 + (ints .u64 xs).length)) := r9; (rw [show 0 + at_ * 1 = at_ by omega, show (ints .u64 xs).length = xs.length by simp [ints]] at h9); simp only [putL, ints, List.map_append, List.map_take, List.map_drop]; exact h9)
  have zgr90 := gr90.size; replace ra := Zd ra gr90; replace rv := Zd rv gr90; replace hkk := Zo hkk gr90; replace hok := Zo hok gr90
  refine ⟨hok, ?_⟩
  refine AA.pure 6 rfl hok (by kernel_rfl) (fun w' b' => R.addN rfl rfl rfl (by omega)) rfl rfl ?_
  refine AA.one 7 (by kernel_rfl) ?_
  refine ZR.store rfl rfl rfl rfl rfl ra (by exact Nat.le_of_ble_eq_true rfl) rfl rfl rfl rfl ?_
  intro W104 r105 b103 z106
  have hlb103 := ra.lt
  replace r105 : RowL W104 _ 3 [.int .i64 ↑(at_ + (ints .u64 xs).length)] := r105
  clear ra
  replace r9 := Zd r9 b103; replace rv := Zd rv b103; replace hkk := Zo hkk b103; replace hok := Zo hok b103
  have ra := r105
  clear r105
  refine ⟨hok, ?_⟩
  refine AA.done rfl ?_
  clear fzrv hok
  refine EE.end _ rfl rfl ?_
  exact ⟨rfl, ⟨(by rw [hil] at *; assumption), by assumption, by assumption, putL_len len (by omega), ne1, ne2, ne3⟩, hkk⟩
  (refine SR.copy rfl rfl rfl rfl (by assumption) (hxF _ hkk) (by rw [hil]; exact (Nat.min_eq_left (a := sl) (b := 16 - at_) (by omega)).symm) (by rw [hil, hwl]; show 0 + at_ * 1 + sl ≤ 16; omega) (fun v hv => by simp only [ints, List.mem_map] at hv; obtain ⟨y, _, rfl⟩ := hv; rfl) rfl rfl ?_; intro W110 r9 gr108 zz113; replace r9 : RowL W110 gw 25 (ints .u64 (putL ws at_ xs)) := by have h9 : RowL W110 gw 25 ((ints .u64 ws).take (0 + at_ * 1) ++ ints .u64 xs ++ (ints .u64 ws).drop (0 + at_ * 1 + (ints .u64 xs).length)) := r9; (rw [show 0 + at_ * 1 = at_ by omega, show (ints .u64 xs).length = xs.length by simp [ints]] at h9); simp only [putL, ints, List.map_append, List.map_take, List.map_drop]; exact h9)
  have zgr108 := gr108.size; replace ra := Zd ra gr108; replace rv := Zd rv gr108; replace hkk := Zo hkk gr108; replace hok := Zo hok gr108
  refine ⟨hok, ?_⟩
  refine AA.one 0 (by kernel_rfl) ?_
  refine SR.val rfl (R.load rfl rfl (I.ld1 rfl (RowL.cell ra rfl))) rfl rfl hok ?_
  refine AA.pure 6 rfl hok (by kernel_rfl) (fun w' b' => R.addN rfl rfl rfl (by omega)) rfl rfl ?_
  refine AA.one 7 (by kernel_rfl) ?_
  refine ZR.store rfl rfl rfl rfl rfl ra (by exact Nat.le_of_ble_eq_true rfl) rfl rfl rfl rfl ?_
  intro W129 r130 b128 z131
  have hlb128 := ra.lt
  replace r130 : RowL W129 _ 3 [.int .i64 ↑(at_ + (ints .u64 xs).length)] := r130
  clear ra
  replace r9 := Zd r9 b128; replace rv := Zd rv b128; replace hkk := Zo hkk b128; replace hok := Zo hok b128
  have ra := r130
  clear r130
  refine ⟨hok, ?_⟩
  refine AA.done rfl ?_
  clear fzrv hok
  refine EE.end _ rfl rfl ?_
  exact ⟨rfl, ⟨(by rw [hil] at *; assumption), by assumption, by assumption, putL_len len (by omega), ne1, ne2, ne3⟩, hkk⟩
theorem row_src {w : World} {g e gw ga : Nat} {xs : List Nat} (r : RowL w g e (ints .u64 xs)) (h1 : g ≠ gw) (h2 : g ≠ ga) : ∀ X, Kept (KO w gw ga) w X → Cells X ⟨g, 0, none⟩ (ints .u64 xs) := fun X h => (r.kept h ⟨r.lt, h1, h2⟩).cells0
theorem Start.kept {w w' : World} {K : Nat → Prop} (h : Start w) (k : Kept K w w') (hK : K 0) : Start w' := by
  have e := k.block 0 hK
  have key : ∀ {p : Addr} {v : Value}, p.block = 0 → w.cell? p = some v → w'.cell? p = some v := fun {p v} hp hc => (World.cell?_of_block (by rw [hp]; exact e)).trans hc
  exact ⟨key rfl h.c0, key rfl h.c1, key rfl h.c2, Nat.lt_of_lt_of_le h.pos k.size⟩
/-- The words of a map. -/
def wrdN (m : List Ex) : List Nat := (wrdZ m).map Int.toNat
theorem wrdN_ints {m : List Ex} (h : ∀ x ∈ m, mayE x) : intsZ .u64 (wrdZ m) = ints .u64 (wrdN m) := by
  unfold intsZ ints wrdN
  rw [List.map_map]
  refine List.map_congr_left fun z hz => ?_
  obtain ⟨i, hi⟩ := List.mem_iff_getElem?.1 hz
  have := (wrdZ_bnd h i z hi).1
  simp only [Function.comp_apply]
  rw [Int.toNat_of_nonneg this]
theorem wrdN_len {m : List Ex} (h : vL m) : (wrdN m).length = 10 := by unfold wrdN; rw [List.length_map, wrdZ_len h.1]
/-- What a file, a directory, a link lays. -/
def layF (ws : List Nat) (z : Nat) (m : List Ex) : List Nat := putL (putL ws 1 [z]) 2 (wrdN m)
def layD (ws : List Nat) (r p : Nat) : List Nat := putL ws 1 [0, r, p]
def layK (ws : List Nat) (t : Bs) : List Nat := putL (putL ws 1 [t.length]) 2 (layL (nbL t))
def laidP (gv gw ga : Nat) (ws : List Nat) (w0 : World) (e : Ending) (w : World) : Prop := e = .returned (.tuple #[]) ∧ (∃ at_, OutW w gv gw ga at_ ws) ∧ Kept (KO w0 gw ga) w0 w
theorem ly0_any (k l z : Int) (a : Value) (r p : Int) (t : Bs) (gv gw ga at_ : Nat) (ws : List Nat) (w : World) (ha : ∃ x n c, a = .slice x n c) (O : OutW w gv gw ga at_ ws) : Calls Tryz.prog 98 #[inV k l z a r p t, fillV ga gv] w (laidP gv gw ga ws w) := by
  unfold laidP
  have hkk := Kept.refl (KO w gw ga) w
  have lO := O.lts
  obtain ⟨xa, na, ca, rfl⟩ := ha
  refine X.fn Tryz.func98 rfl (n := 4) rfl rfl ?_
  refine CC.region ?_
  refine LL.box [.int .i64 k, .int .i64 l, .int .i64 z, .slice xa na ca, .int .i64 r, .int .i64 p, strV t] rfl rfl rfl rfl rfl ?_
  intro W2 g3 eg3 r4 z5 b1
  replace O := O.up b1; replace hkk := Zh hkk b1; have y6 := hkk.size; refine ZL ?_; refine EE.end _ rfl rfl ?_
  exact ⟨rfl, ⟨_, O⟩, hkk⟩
theorem ly2_any (k l z : Int) (a : Value) (r p : Nat) (t : Bs) (gv gw ga : Nat) (ws : List Nat) (w : World) (ha : ∃ x n c, a = .slice x n c) (hr : r ≤ 2047) (hp : p ≤ 256) (O : OutW w gv gw ga 1 ws) : Calls Tryz.prog 107 #[inV k l z a (r : Int) (p : Int) t, fillV ga gv] w (laidP gv gw ga (layD ws r p) w) := by
  unfold laidP
  have hkk := Kept.refl (KO w gw ga) w
  have lO := O.lts
  have ne := O.ne
  obtain ⟨xa, na, ca, rfl⟩ := ha
  refine X.fn Tryz.func107 rfl (n := 15) rfl rfl ?_
  refine Zr ?_
  refine LL.box [.int .i64 k, .int .i64 l, .int .i64 z, .slice xa na ca, .int .i64 ↑r, .int .i64 ↑p, strV t] rfl rfl rfl rfl rfl ?_
  intro W9 g10 eg10 r11 z12 b8
  replace O := O.up b8; replace hkk := Zh hkk b8; have y13 := hkk.size; refine Zq ?_; refine CC.region ?_; refine Zm ?_; refine Zf ?_; refine Zf ?_; refine Zl r11 ?_
  refine LL.val (R.convI rfl rfl rfl rfl (wrapU (by omega) (by omega))) rfl rfl rfl ?_
  refine Zf ?_; refine Zf ?_; refine Zl r11 ?_
  refine LL.val (R.convI rfl rfl rfl rfl (wrapU (by omega) (by omega))) rfl rfl rfl ?_
  have l84 := r11.lt
  refine LL.lit (e := 25) [Value.int IntKind.u64 0, Value.int IntKind.u64 ↑r, Value.int IntKind.u64 ↑p] 3 rfl rfl (fun _ => by kernel_rfl) rfl rfl ?_
  intro W86 g87 eg87 r88 z89 b85
  replace r11 := r11.up b85; replace O := O.up b85; replace hkk := Zh hkk b85; have y90 := hkk.size
  (refine LL.call (R.callV rfl rfl rfl rfl) rfl rfl rfl (fill_any gv gw ga 1 3 3 ⟨_, 0, none⟩ ws [0, r, p] _ O (row_src (xs := [0, r, p]) (by assumption) (by omega) (by omega)) rfl (by omega) (by omega) (by omega)) ?_; rintro e W94 ⟨rfl, O2, t93⟩; refine ⟨_, rfl, ?_⟩; replace hkk := ko_tr hkk t93; clear O; have O := O2; clear O2)
  have zt93 := t93.size
  replace r88 := r88.kept t93 ⟨r88.lt, by omega⟩
  replace r11 := r11.kept t93 ⟨r11.lt, by omega⟩
  refine ZL ?_; refine EE.end _ rfl rfl ?_
  exact ⟨rfl, ⟨_, O⟩, hkk⟩
theorem ly1_any (k l : Int) (z : Nat) (x : Option Addr) (n c : Nat) (r p : Int) (t : Bs) (m : List Ex) (gv gw ga : Nat) (ws : List Nat) (w : World) (hS : Start w) (hg0 : 0 < gw ∧ 0 < ga) (hv : ReadsT eE 3 w (.slice x n c) m) (hm : vL m) (hz : z ≤ 65536) (O : OutW w gv gw ga 1 ws) : Calls Tryz.prog 102 #[inV k l (z : Int) (.slice x n c) r p t, fillV ga gv] w (laidP gv gw ga (layF ws z m) w) := by
  unfold laidP
  have hkk := Kept.refl (KO w gw ga) w
  have lO := O.lts
  have ne := O.ne
  have hvF : ∀ X, Below w.heap.size w X → ReadsT eE 3 X (.slice x n c) m := fun X b => hv.up b
  have hSF : ∀ X, Below w.heap.size w X → Start X := fun X b => hS.up b
  have q := Below.refl w.heap.size w
  have e1 := wrdN_ints hm.2.1
  have l1 := wrdN_len hm
  have hw := fun (X : World) (b : Below w.heap.size w X) => words_T m (.slice x n c) X (hSF X b) (hvF X b) hm
  have l2 : (wrdZ m).length = 10 := wrdZ_len hm.1
  clear hv hS
  refine X.fn Tryz.func102 rfl (n := 26) rfl rfl ?_
  refine Zr ?_
  refine LL.box [.int .i64 k, .int .i64 l, .int .i64 ↑z, .slice x n c, .int .i64 r, .int .i64 p, strV t] rfl rfl rfl rfl rfl ?_
  intro W23 g24 eg24 r25 z26 b22
  replace O := O.up b22; replace hkk := Zh hkk b22; have y27 := hkk.size; replace q := Zu q b22; refine Zq ?_; refine Zr ?_; refine Zf ?_; refine Zf ?_; refine Zl r25 ?_; have l98 := r25.lt
  (refine Zy (R.call rfl rfl rfl) (hw _ q) ?_; rintro e W97 ⟨rfl, b94⟩; refine ⟨_, rfl, ?_⟩)
  have zb94 := b94.size; replace r25 := r25.up b94; replace O := O.up b94; replace hkk := Zh hkk b94; have y102 := hkk.size; replace q := Zu q b94; refine Zm ?_; refine Zx ?_; refine Zx ?_; have l191 := r25.lt
  refine LL.alloc (intsZ .u64 (List.replicate 10 0)) rfl rfl rfl rfl rfl ?_
  intro W193 g194 eg194 r195 z196 b192
  replace r25 := r25.up b192; replace O := O.up b192; replace hkk := Zh hkk b192; have y197 := hkk.size; replace q := Zu q b192
  refine LL.storeAZ rfl rfl rfl rfl (by first | assumption | exact List.length_replicate | exact plL_len _ | exact plOf_len _ | simp) r195 (by first | (rw [List.length_map]; exact (by first | assumption | exact List.length_replicate | exact plL_len _ | exact plOf_len _ | simp)) | simp) rfl rfl ?_
  intro W222 r223 b221 z224
  have hlb221 := r195.lt
  clear r195
  replace r25 := Zd r25 b221
  replace O := O.gr b221 (by omega)
  replace hkk := Zo hkk b221; replace q := Zg q b221
  have r195 := r223
  clear r223
  refine Za ?_; refine Zq ?_; refine Zr ?_; refine Zm ?_; refine ZneF ?_
  refine Zy (R.call rfl rfl rfl) (refuse_F _) ?_
  rintro e W' ⟨rfl, rfl⟩
  refine ⟨_, rfl, ?_⟩; refine Zq ?_; refine Zr ?_; refine Zm ?_; refine Zf ?_; refine Zf ?_; refine Zl r25 ?_
  refine LL.val (R.convI rfl rfl rfl rfl (wrapU (by omega) (by omega))) rfl rfl rfl ?_
  have l455 := r25.lt; have l456 := r195.lt
  refine LL.lit (e := 25) [Value.int IntKind.u64 ↑z] 1 rfl rfl (fun _ => by kernel_rfl) rfl rfl ?_
  intro W458 g459 eg459 r460 z461 b457
  replace r25 := r25.up b457; replace O := O.up b457; replace hkk := Zh hkk b457; have y462 := hkk.size; replace q := Zu q b457; replace r195 := r195.up b457
  (refine LL.call (R.callV rfl rfl rfl rfl) rfl rfl rfl (fill_any gv gw ga 1 1 1 ⟨_, 0, none⟩ ws [z] _ O (row_src (xs := [z]) (by assumption) (by omega) (by omega)) rfl (by omega) (by omega) (by omega)) ?_; rintro e W476 ⟨rfl, O2, t475⟩; refine ⟨_, rfl, ?_⟩; replace hkk := ko_tr hkk t475; clear O q; have O := O2; clear O2)
  have zt475 := t475.size
  replace r460 := r460.kept t475 ⟨r460.lt, by omega⟩
  replace r25 := r25.kept t475 ⟨r25.lt, by omega⟩
  replace r195 := r195.kept t475 ⟨r195.lt, by omega⟩
  refine Zq ?_; refine CC.region ?_; refine Zm ?_
  refine LL.val (R.slice rfl rfl rfl rfl rfl (I.slA rfl)) rfl rfl rfl ?_
  (refine LL.call (R.callV rfl rfl rfl rfl) rfl rfl rfl (fill_any gv gw ga 2 10 10 ⟨_, 0, none⟩ (putL ws 1 [z]) (wrdN m) _ O (row_src (xs := wrdN m) (by rw [← e1]; assumption) (by omega) (by omega)) l1 (by omega) (by omega) (by omega)) ?_; rintro e W548 ⟨rfl, O2, t547⟩; refine ⟨_, rfl, ?_⟩; replace hkk := ko_tr hkk t547; clear O; have O := O2; clear O2)
  have zt547 := t547.size
  replace r460 := r460.kept t547 ⟨r460.lt, by omega⟩
  replace r25 := r25.kept t547 ⟨r25.lt, by omega⟩
  replace r195 := r195.kept t547 ⟨r195.lt, by omega⟩
  refine ZL ?_; refine EE.end _ rfl rfl ?_
  exact ⟨rfl, ⟨_, O⟩, hkk⟩
theorem ly3_any (k l z : Int) (a : Value) (r p : Int) (t : Bs) (gv gw ga : Nat) (ws : List Nat) (w : World) (ha : ∃ x n c, a = .slice x n c) (ht : 1 ≤ t.length ∧ t.length ≤ 112) (O : OutW w gv gw ga 1 ws) : Calls Tryz.prog 113 #[inV k l z a r p t, fillV ga gv] w (laidP gv gw ga (layK ws t) w) := by
  unfold laidP
  have hkk := Kept.refl (KO w gw ga) w
  have lO := O.lts
  have ne := O.ne
  have l1 := layL_len t
  obtain ⟨xa, na, ca, rfl⟩ := ha
  refine X.fn Tryz.func113 rfl (n := 19) rfl rfl ?_
  refine Zr ?_
  refine LL.box [.int .i64 k, .int .i64 l, .int .i64 z, .slice xa na ca, .int .i64 r, .int .i64 p, strV t] rfl rfl rfl rfl rfl ?_
  intro W23 g24 eg24 r25 z26 b22
  replace O := O.up b22; replace hkk := Zh hkk b22; have y27 := hkk.size; refine Zq ?_; refine Zr ?_; refine Zm ?_; refine Zf ?_; refine Zf ?_; refine Zl r25 ?_
  refine LL.val (R.lenS rfl rfl rfl rfl) rfl rfl rfl ?_
  refine LL.val (R.convI rfl rfl rfl rfl (wrapU (by omega) (by omega))) rfl rfl rfl ?_
  have l182 := r25.lt
  refine LL.lit (e := 25) [Value.int IntKind.u64 ↑(List.length t)] 1 rfl rfl (fun _ => by kernel_rfl) rfl rfl ?_
  intro W184 g185 eg185 r186 z187 b183
  replace r25 := r25.up b183; replace O := O.up b183; replace hkk := Zh hkk b183; have y188 := hkk.size
  (refine LL.call (R.callV rfl rfl rfl rfl) rfl rfl rfl (fill_any gv gw ga 1 1 1 ⟨_, 0, none⟩ ws [t.length] _ O (row_src (xs := [t.length]) (by assumption) (by omega) (by omega)) rfl (by omega) (by omega) (by omega)) ?_; rintro e W201 ⟨rfl, O2, t200⟩; refine ⟨_, rfl, ?_⟩; replace hkk := ko_tr hkk t200; clear O; have O := O2; clear O2; have lO2 := O.lts)
  have zt200 := t200.size
  replace r186 := r186.kept t200 ⟨r186.lt, by omega⟩
  replace r25 := r25.kept t200 ⟨r25.lt, by omega⟩
  refine Zq ?_; refine CC.region ?_; refine Zm ?_; refine Zf ?_; refine Zf ?_; refine Zl r25 ?_; have l320 := r186.lt; have l321 := r25.lt
  refine LL.strBytes (t) rfl rfl Go.Proofs.Tryz.underlying9 Go.Proofs.Tryz.underlying109 Go.Proofs.Tryz.underlying5 rfl rfl ?_
  intro v324 W323 k325 ev324 r326 b322
  replace hkk := Zh hkk b322; have y327 := hkk.size; replace O := O.up b322; replace r186 := r186.up b322; replace r25 := r25.up b322; have l332 := r186.lt; have l333 := r25.lt
  (refine Zy (R.call rfl rfl rfl) (lay_any _ (nbL t) ((t.length + 7) / 8) _ (by assumption) (nbL_lt t) (by rw [nbL_len]; omega) (by rw [nbL_len])) ?_; rintro e W331 ⟨g8, rfl, lg8, r8, b328⟩; refine ⟨_, rfl, ?_⟩)
  have zb328 := b328.size; replace r326 := r326.up b328; replace hkk := Zh hkk b328; have y337 := hkk.size; replace O := O.up b328; replace r186 := r186.up b328; replace r25 := r25.up b328
  (refine LL.call (R.callV rfl rfl rfl rfl) rfl rfl rfl (fill_any gv gw ga 2 ((t.length + 7) / 8) ((t.length + 7) / 8) ⟨_, 0, none⟩ (putL ws 1 [t.length]) (layL (nbL t)) _ O (row_src r8 (by omega) (by omega)) l1 (by omega) (by omega) (by omega)) ?_; rintro e W358 ⟨rfl, O2, t357⟩; refine ⟨_, rfl, ?_⟩; replace hkk := ko_tr hkk t357; clear O; have O := O2; clear O2)
  have zt357 := t357.size
  replace r8 := r8.kept t357 ⟨r8.lt, by omega⟩
  replace r186 := r186.kept t357 ⟨r186.lt, by omega⟩
  replace r25 := r25.kept t357 ⟨r25.lt, by omega⟩
  refine ZL ?_; refine EE.end _ rfl rfl ?_
  exact ⟨rfl, ⟨_, O⟩, hkk⟩
theorem ofo_T (ws : List Int) (w : World) (hs : Start w) (hl : ws.length = 10) (hw : ∀ (i : Nat) (z : Int), ws[i]? = some z → 0 ≤ z ∧ z < 18446744073709551616) (hm : mapW ws) : Calls Tryz.prog 126 #[wdV ws] w fun e w' => ∃ v, e = .returned (.tuple #[v, .int .i64 0]) ∧ OwnsT eE 3 w' w.heap.size 124 v (outZ ws) ∧ Below w.heap.size w w' := by
  have q := Below.refl w.heap.size w
  have hp := hs.pos
  have hsF : ∀ W, Below w.heap.size w W → Start W := fun W hb => hs.up hb
  clear hs
  refine X.fn Tryz.func126 rfl (n := 34) rfl rfl ?_
  refine Zr ?_; refine LL.box _ rfl rfl rfl rfl rfl ?_
  intro W2 g3 eg3 r4 z5 b1
  replace q := Zu q b1; refine Za ?_; refine Za ?_; refine Zq ?_; refine Zr ?_; refine Za ?_; refine Zq ?_; refine Zc ?_; refine Zr ?_
  refine LL.val (R.loadZ rfl rfl r4 rfl rfl (by first | assumption | exact List.length_replicate | exact plL_len _ | exact plOf_len _ | simp)) rfl rfl rfl ?_
  refine Zm ?_; refine Zq ?_; refine CC.block ?_; have yw := q.size; have l3 := r4.lt
  have hB : ∃ B, W2.heap.size = B := ⟨_, rfl⟩
  obtain ⟨B, hB⟩ := hB
  rw [hB] at l3 yw
  refine CC.loop (α := Nat × Value) (fun s => [(1, .pointer (some ⟨g3, 0, none⟩)), (4, s.2), (9, wdV ws), (10, .int .i64 (s.1 : Int))]) (fun s W => s.1 ≤ 10 ∧ Below w.heap.size w W ∧ B ≤ W.heap.size ∧ RowL W g3 106 (intsZ .u64 ws) ∧ OwnsT eE 3 W B 124 s.2 (outZ (ws.take s.1))) (fun s => 10 - s.1) (0, .slice none 0 0) ⟨rfl, rfl, rfl, rfl, trivial⟩ ⟨by show 0 ≤ 10; omega, q, by omega, r4, OwnsT.none _ _ _⟩ ?_
  clear q r4
  rintro ⟨i, v⟩ W ⟨hi, q, yB, r4, o⟩
  simp only at hi o
  show CC none Tryz.prog _ 34 [] (sl [(1, .pointer (some ⟨g3, 0, none⟩)), (4, v), (9, wdV ws), (10, .int .i64 (i : Int))]) _ W
  have yq := q.size
  by_cases hlt : i < 10
  case pos =>
    obtain ⟨z, hz⟩ : ∃ z, ws[i]? = some z := ⟨_, List.getElem?_eq_getElem (by omega)⟩
    have hzb := hw i z hz
    obtain ⟨x, rfl⟩ : ∃ x : Nat, z = (x : Int) := ⟨z.toNat, by omega⟩
    have hst := outZ_succ hz
    have hol := outZ_len (ws.take i)
    rw [List.length_take] at hol
    by_cases h0 : x = 0
    · rw [if_pos (by omega), List.append_nil] at hst
      refine Zr ?_; refine ZltT ?_; refine Zq ?_; refine Zc ?_; refine ZY ?_; refine ZK ?_; refine ZT ?_; refine Zc ?_; refine CC.block ?_; refine Zr ?_
      refine LL.val (R.ixZ rfl rfl rfl rfl (by assumption) (by assumption)) rfl rfl rfl ?_
      refine Za ?_; refine Zq ?_; refine Zr ?_; refine Zm ?_; refine ZneF ?_; refine Zq ?_; refine ZN ?_; refine ZK ?_; refine EE.inN ?_; refine ZT ?_; refine CC.region ?_
      refine LL.val (R.addNc rfl rfl rfl rfl (by omega)) rfl rfl rfl ?_
      refine Zm ?_; refine ZL ?_
      exact EE.round (i + 1, v) ⟨rfl, rfl, rfl, rfl, trivial⟩ ⟨by show i + 1 ≤ 10; omega, q, yB, r4, by show OwnsT eE 3 _ _ _ v (outZ (ws.take (i + 1))); rw [hst]; exact o⟩ (by show 10 - (i + 1) < 10 - i; omega)
    rw [if_neg (by omega)] at hst
    have hs := hsF W q
    have hxb : x < 18446744073709551616 := by omega
    rw [Int.toNat_natCast] at hst
    refine Zr ?_; refine ZltT ?_; refine Zq ?_; refine Zc ?_; refine ZY ?_; refine ZK ?_; refine ZT ?_; refine Zc ?_; refine CC.block ?_; refine Zr ?_
    refine LL.val (R.ixZ rfl rfl rfl rfl (by assumption) (by assumption)) rfl rfl rfl ?_
    refine Za ?_; refine Zq ?_; refine Zr ?_; refine Zm ?_; refine ZneT ?_; refine Zq ?_; refine ZY ?_; refine CC.region ?_; refine Zm ?_; refine Zm ?_
    refine Zy (R.call rfl rfl rfl) (unpack_any _ _ (by first | assumption | omega) (by first | assumption | omega)) ?_
    rintro e Wb2 ⟨rfl, bb1⟩
    refine ⟨_, rfl, ?_⟩; have zbb1 := bb1.size; replace q := Zu q bb1; replace r4 := r4.up bb1; replace o := o.up bb1; replace hs := hs.up bb1; have lb4 := r4.lt
    refine LL.lit (e := 124) [Value.int IntKind.i64 (unpE x).1, Value.int IntKind.i64 (unpE x).2.1, Value.int IntKind.i64 (unpE x).2.2] 1 rfl rfl (fun _ => by kernel_rfl) rfl rfl ?_
    intro Wb6 gb7 egb7 rb8 zb9 bb5
    replace q := Zu q bb5; replace r4 := r4.up bb5; replace o := o.up bb5; replace hs := hs.up bb5
    refine LL.appendT2 rfl rfl eEnc ElEx o (RowL.readsT (ts := [unpE x]) eEnc (by assumption) 1 (by simp)) (by simp [maxLen]; omega) (by simp; omega) (by have := q.size; omega) rfl rfl ?_
    intro v' Wa oa gra hva
    replace q := q.grown gra (by have := q.size; omega) (fun g hg => by have := own_ge o g hg; omega)
    replace r4 := r4.grO gra (own_ne o l3)
    have hsz := gra.size
    rw [← hst] at oa
    refine Za ?_; refine ZL ?_; refine EE.inN ?_; refine ZT ?_; refine CC.region ?_
    refine LL.val (R.addNc rfl rfl rfl rfl (by omega)) rfl rfl rfl ?_
    refine Zm ?_; refine ZL ?_
    exact EE.round (i + 1, v') ⟨rfl, rfl, rfl, rfl, trivial⟩ ⟨by show i + 1 ≤ 10; omega, q, by omega, r4, oa⟩ (by show 10 - (i + 1) < 10 - i; omega)
  case neg =>
    obtain rfl : i = 10 := by omega
    rw [show ws.take 10 = ws from List.take_of_length_le (by omega)] at o
    have hr := o.reads eEnc
    have hol := outZ_len ws
    have hlo : (outZ ws).length ≤ 1048576 := by omega
    obtain ⟨n, hn⟩ : ∃ n, (outZ ws).length = n := ⟨_, rfl⟩
    obtain ⟨a, c, rfl, hc⟩ := hr.form hn
    have hrF := fun W' (hb : Below W.heap.size W W') => hr.up hb
    have hoF := fun W' (hb : Below W.heap.size W W') => (o.up hb).lower (show w.heap.size ≤ B by omega)
    have qW := Below.refl W.heap.size W
    clear o
    have hv := hm.1
    have he := hm.2
    refine Zr ?_; refine ZltF ?_; refine Zq ?_; refine Zc ?_; refine ZN ?_; refine CC.exit ?_; refine EE.thenX ?_; refine EE.thenX ?_; refine EE.inX ?_; refine ZT ?_; refine Zc ?_; refine Zr ?_; refine Zm ?_
    refine Zy (R.call rfl rfl rfl) (words_T (outZ ws) _ _ (hsF W q) hr hv) ?_
    rintro e W5 ⟨rfl, b5⟩
    refine ⟨_, rfl, ?_⟩; replace q := Zu q b5
    replace qW := qW.trans b5
    replace r4 := r4.up b5
    clear hr
    have y5 := b5.size
    clear b5
    have hwl := wrdZ_len (l := outZ ws) (by omega)
    refine Zm ?_; refine Zx ?_; refine Zx ?_; have le1 := r4.lt
    refine LL.alloc (intsZ .u64 (List.replicate 10 0)) rfl rfl rfl rfl rfl ?_
    intro We3 ge4 ege4 re5 ze6 be2
    replace q := Zu q be2; replace qW := Zu qW be2; replace r4 := r4.up be2
    refine LL.storeAZ rfl rfl rfl rfl (by first | assumption | exact List.length_replicate | exact plL_len _ | exact plOf_len _ | simp) re5 (by first | (rw [List.length_map]; exact (by first | assumption | exact List.length_replicate | exact plL_len _ | exact plOf_len _ | simp)) | simp) rfl rfl ?_
    intro We8 re9 be7 ze10
    have hlbe7 := re5.lt
    clear re5
    replace q := Zg q be7; replace qW := Zg qW be7; replace r4 := Zd r4 be7
    have re5 := re9
    clear re9
    refine Za ?_; refine Zq ?_; refine Zr ?_; refine Zm ?_; refine ZneF ?_; refine Zm ?_
    refine LL.val (R.loadZ rfl rfl re5 rfl rfl (by first | assumption | exact List.length_replicate | exact plL_len _ | exact plOf_len _ | simp)) rfl rfl rfl ?_
    refine LL.val (R.loadZ rfl rfl r4 rfl rfl (by first | assumption | exact List.length_replicate | exact plL_len _ | exact plOf_len _ | simp)) rfl rfl rfl ?_
    refine LL.val (R.neZT rfl rfl rfl Tryz.underlying106 Tryz.underlying25 rfl (by decide) rfl (by kernel_rfl) (by assumption) (by assumption) (by assumption)) rfl rfl rfl ?_
    refine Zp ?_; refine Zq ?_; refine ZN ?_; refine ZK ?_; refine ZT ?_; refine Zr ?_; refine Zm ?_; refine Za ?_; refine Za ?_; refine Zq ?_; refine ZR ?_; refine EE.ret _ rfl rfl ?_
    exact ⟨_, rfl, hoF _ qW, q⟩
set_option linter.unusedVariables false
set_option linter.unusedSimpArgs false
section
variable {P : Program} {ops : Array Oper} {Q : Exit → Act → World → Prop} {ok : World → Prop} {r : Option Nat}
/-- A call that panics, whatever else was yielded. -/
def panS (P : Program) (ops : Array Oper) (Q : Exit → Act → World → Prop) (i : Nat) (a : Act) (w : World) : Prop :=
  ∃ o f args R, ops[i]? = some o ∧ dfB o.op = false ∧ Region.wanted o (yielded ops a.tmps) = true ∧ (execOp a.eval o).run P w = .ok (.enter f args) w ∧ Calls P f args w R ∧ ∀ e w'', R e w'' → ∃ ch, e = .panicked ch ∧ ∀ a' : Act, a'.defers = a.defers → a'.tmps.size = a.tmps.size → Q (.panic ch) a' w''
def AnyP (P : Program) (ops : Array Oper) (ok : World → Prop) (Q : Exit → Act → World → Prop) : Nat → Array Bool → Act → World → Prop
  | 0, listed, a, w => Region.ready .any ops listed = [] ∧ Q .normal a w
  | f + 1, listed, a, w => (Region.ready .any ops listed = [] → Q .normal a w) ∧ ∀ i ∈ Region.ready .any ops listed, stepR P ops ok i (AnyP P ops ok Q f (listed.setIfInBounds i true)) a w ∨ panS P ops Q i a w
theorem wpAny_of_P (hdf : ∀ (j : Nat) (o : Oper), ops[j]? = some o → dfB o.op = false) : ∀ (f : Nat) (listed : Array Bool) (a : Act) (w : World), AnyP P ops ok Q f listed a w → wpAnyIn (Wr r) 3 P .any ops Q f listed a w
  | 0, _, _, _, h => h
  | f + 1, listed, a, w, h => ⟨h.1, fun i hi => by
    rcases h.2 i hi with h2 | ⟨o, fn, args, R, ho, hd, hw, hr, hc, hk⟩
    · unfold stepR at h2
      unfold wpOpIn
      split
      · rename_i ho; simp only [ho] at h2; exact wpAny_of_P hdf f _ _ _ h2
      · rename_i o ho
        simp only [ho] at h2
        split
        · rename_i hw
          rw [if_pos hw] at h2
          exact wpIn_of_actR (hdf _ _ ho) (actR_mono (fun a' w' hk => wpAny_of_P hdf f _ _ _ hk.2) h2)
        · rename_i hw
          rw [if_neg hw] at h2
          exact ⟨about_wr a, wpAny_of_P hdf f _ _ _ h2⟩
    · unfold wpOpIn
      simp only [ho]
      rw [if_pos hw]
      refine wpIn_of_run hd hr ⟨fun h => (by cases h), callsWr (hc.mono fun e w' hR => ?_)⟩
      obtain ⟨ch, rfl, hq⟩ := hk e w' hR
      exact hq a rfl rfl⟩
theorem panS_put {j : Nat} {oi oj : Oper} {v : Value} {a : Act} {w : World} (hj : ops[j]? = some oj) (hap : oi.apart ops oj = true) (hsj : ∀ cs b, oj.op ≠ .select cs b) (h : panS P ops Q j (a.put oi.dst v) w) : panS P ops Q j a w := by
  obtain ⟨h1, h2, h3⟩ := Oper.apart_spec hap
  obtain ⟨o, fn, args, R, ho, hd, hw, hr, hc, hk⟩ := h
  rw [hj] at ho
  cases ho
  rw [wanted_put oj a oi.dst v h1] at hw
  rw [execOp_put oj hsj a oi.dst v h1] at hr
  exact ⟨oj, fn, args, R, hj, hd, hw, hr, hc, fun e w'' hR => by
    obtain ⟨ch, he, hq⟩ := hk e w'' hR
    exact ⟨ch, he, fun a' ha hs => hq a' (by rw [ha]; cases oi.dst <;> rfl) (by rw [hs]; cases oi.dst <;> simp [Act.put])⟩⟩
theorem pure_firstP {i : Nat} {oi : Oper} {v : Value} (hi : ops[i]? = some oi) (hsel : ∀ (j : Nat) (o : Oper) cs b, ops[j]? = some o → o.op ≠ .select cs b) :
    ∀ (f : Nat) (listed : Array Bool) (a : Act) (w : World),
      (∀ j oj, ops[j]? = some oj → j ≠ i → listed.getD j true = false → (∀ e ∈ oj.after, Region.binds .any e = true → e.on ≠ i) → oi.apart ops oj = true) →
      i ∈ Region.ready .any ops listed → ok w → Pure P ops ok oi v a → AnyP P ops ok Q f (listed.setIfInBounds i true) (a.put oi.dst v) w → AnyP P ops ok Q (f + 1) listed a w := by
  intro f
  induction f with
  | zero =>
    intro listed a w _ hr hw hy H
    refine ⟨fun h => (by rw [h] at hr; cases hr), fun j hj => ?_⟩
    by_cases hji : j = i
    · subst hji; exact .inl (hy.step hi hw H)
    · have := ready_mono hj hji
      rw [H.1] at this
      cases this
  | succ f ih =>
    intro listed a w hfree hr hw hy H
    refine ⟨fun h => (by rw [h] at hr; cases hr), fun j hj => ?_⟩
    by_cases hji : j = i
    · subst hji; exact .inl (hy.step hi hw H)
    · have h1 := H.2 j (ready_mono hj hji)
      obtain ⟨hjun, oj, hoj, hall⟩ := mem_ready.1 hj
      have hnot : ∀ e ∈ oj.after, Region.binds .any e = true → e.on ≠ i := fun e he hb heq => by
        have h1 := hall e he hb
        have h0 := (mem_ready.1 hr).1
        rw [heq] at h1
        rcases Nat.lt_or_ge i listed.size with h' | h'
        · simp [h'] at h0 h1; rw [h0] at h1; cases h1
        · simp [Array.getElem?_eq_none h'] at h1
      rcases h1 with h1 | h1
      · have h2 := stepR_put hoj (hfree j oj hoj hji hjun hnot) (fun cs b => hsel i oi cs b hi) (fun cs b => hsel j oj cs b hoj) hw hy h1
        have hfree' : ∀ k ok', ops[k]? = some ok' → k ≠ i → (listed.setIfInBounds j true).getD k true = false →
            (∀ e ∈ ok'.after, Region.binds .any e = true → e.on ≠ i) → oi.apart ops ok' = true := fun k ok' hk hki hun hno => by
          refine hfree k ok' hk hki ?_ hno
          by_cases hjk : j = k
          · subst hjk; exact hjun
          · rw [getD_set_ne true hjk] at hun; exact hun
        refine .inl (stepR_mono (fun a' w' h3 => ih (listed.setIfInBounds j true) a' w' hfree' (ready_mono hr (Ne.symm hji)) h3.2.1 h3.1 ?_) h2)
        rw [Array.setIfInBounds_comm _ _ hji]
        exact h3.2.2
      · exact .inr (panS_put hoj (hfree j oj hoj hji hjun hnot) (fun cs b => hsel j oj cs b hoj) h1)
end
/-- What is left of a region, these done; calls may panic. -/
structure AP (P : Program) (ops : Array Oper) (ok : World → Prop) (Q : Exit → Act → World → Prop) (n : Nat) (D : List Deferred) (M : Slots) (f : Nat) (listed : Array Bool) (w : World) : Prop where
  h : ∀ a, Fr n D M a → AnyP P ops ok Q f listed a w
section
variable {P : Program} {l : List Oper} {ops : Array Oper} {Q : Exit → Act → World → Prop} {ok : World → Prop} {r : Option Nat} {n f : Nat} {D : List Deferred} {M : Slots} {w w' : World} {listed : Array Bool} {o : Oper} {v : Value}
theorem CC.freeP {id : Nat} (ok : World → Prop) (hm : P.follows .mixedOrders = true) (hB : selB l = true) (h : AP P l.toArray ok Q n D M l.length (Array.replicate l.length false) w.drew) : CC r P Q n D M (.region id l.toArray true) w := CC.mk fun a F => by
  have hdf : ∀ (j : Nat) (o : Oper), l.toArray[j]? = some o → dfB o.op = false := fun j o ho => by
    have := List.all_eq_true.1 hB o (by simpa using List.mem_of_getElem? (by simpa using ho))
    simpa using this
  refine wpIn_region_any hm (wpAny_of_P (ok := ok) hdf _ _ _ _ ?_)
  simpa using h.h a F
theorem AP.pure (i : Nat) (hi : ops[i]? = some o) (hw : ok w) (hB : rfB ops listed i = true) (hr : ∀ w', ok w' → Runs P n D M o w' (.value v) w') (hd : dstB n o.dst = true) (hg : wantB ops M o.guard = some true) (k : AP P ops ok Q n D (putM M o.dst v) f (listed.setIfInBounds i true) w) : AP P ops ok Q n D M (f + 1) listed w := AP.mk fun a F => by
  simp only [rfB, Bool.and_eq_true] at hB
  exact pure_firstP hi (Region.noSelect_spec hB.2) f listed a w (Region.free_spec hi hB.1.2) (by simpa using hB.1.1) hw (.inl ⟨F.want hg, fun w' hw' => .inl (hr w' hw' a F)⟩) (k.h _ (F.put _ _ hd))
theorem AP.pureC {g : FuncId} {args : Array Value} (i : Nat) (hi : ops[i]? = some o) (hw : ok w) (hB : rfB ops listed i = true) (hr : ∀ w', Runs P n D M o w' (.enter g args) w') (hc : ∀ w', ok w' → Calls P g args w' fun e w'' => e = .returned v ∧ w' = w'') (hd : dstB n o.dst = true) (hg : wantB ops M o.guard = some true) (k : AP P ops ok Q n D (putM M o.dst v) f (listed.setIfInBounds i true) w) : AP P ops ok Q n D M (f + 1) listed w := AP.mk fun a F => by
  simp only [rfB, Bool.and_eq_true] at hB
  exact pure_firstP hi (Region.noSelect_spec hB.2) f listed a w (Region.free_spec hi hB.1.2) (by simpa using hB.1.1) hw (.inl ⟨F.want hg, fun w' hw' => .inr ⟨g, args, hr w' a F, (hc w' hw').mono fun _ _ h => ⟨h.1, h.2.symm⟩⟩⟩) (k.h _ (F.put _ _ hd))
/-- A call that comes next, and panics. -/
theorem AP.pan {g : FuncId} {args : Array Value} {R : Ending → World → Prop} (i : Nat) (hrd : Region.ready .any ops listed = [i]) (hi : ops[i]? = some o) (hdf : dfB o.op = false) (hr : Runs P n D M o w (.enter g args) w) (hg : wantB ops M o.guard = some true) (hc : Calls P g args w R)
    (k : ∀ e w', R e w' → ∃ ch, e = .panicked ch ∧ EE Q n D (fun _ => none) (.panic ch) w') : AP P ops ok Q n D M (f + 1) listed w := AP.mk fun a F =>
  ⟨fun h => absurd (h.symm.trans hrd) (by simp), fun j hj => by
    rw [hrd] at hj
    simp only [List.mem_singleton] at hj
    subst hj
    refine .inr ⟨o, g, args, R, hi, hdf, F.want hg, hr a F, hc, fun e w'' hR => ?_⟩
    obtain ⟨ch, he, hk⟩ := k e w'' hR
    exact ⟨ch, he, fun a' ha hs => hk.h a' ⟨hs.trans F.size, ha.trans F.defers, fun s v h => by cases h⟩⟩⟩
end
set_option linter.unusedVariables false
set_option linter.unusedSimpArgs false
set_option maxRecDepth 100000
set_option maxHeartbeats 8000000
theorem R.toArr {P : Program} {n : Nat} {D : List Deferred} {M : Slots} {w w' : World} {o : Oper} {x : Operand} {t : TypeId} {vx v : Value} (ho : o.op = .sliceToArrayPointer t x) (hx : evM M x = some vx) (hr : (Instr.arrayAt t vx).run P w = .ok v w') : Runs P n D M o w (.value v) w' := fun a F => by
  unfold execOp; simp only [ho, F.ev hx, Sem.run_bind, Sem.run_pure, hr, Result.andThen_ok]
theorem I.arrU (a : Option Addr) (cap : Nat) (w : World) : (Instr.arrayAt 106 (.slice a 10 cap)).run Tryz.prog w = .ok (.pointer a) w := by kernel_rfl
/-- Words that lie somewhere. -/
structure WdsAt (X : World) (bk off : Nat) (ws : List Nat) : Prop where
  cells : ∀ (j x : Nat), ws[j]? = some x → X.cell? ⟨bk, off + j, none⟩ = some (.int .u64 (x : Int))
  lt : bk < X.heap.size
theorem WdsAt.part {X : World} {bk off : Nat} {ws : List Nat} (h : WdsAt X bk off ws) (lo m : Nat) (hl : lo + m ≤ ws.length) : Cells X ⟨bk, off + lo, none⟩ (ints .u64 ((ws.drop lo).take m)) := fun j v hj => by
  rw [add_plain]
  simp only [ints, List.getElem?_map, List.getElem?_take] at hj
  split at hj
  · rw [List.getElem?_drop] at hj
    cases hx : ws[lo + j]? with
    | none => rw [hx] at hj; cases hj
    | some x =>
      rw [hx] at hj
      simp only [Option.map_some, Option.some.injEq] at hj
      rw [← hj, show off + lo + j = off + (lo + j) by omega]
      exact h.cells _ _ hx
  · cases hj
theorem WdsAt.reads {X : World} {bk off : Nat} {ws : List Nat} (h : WdsAt X bk off ws) (lo m c : Nat) (hl : lo + m ≤ ws.length) (hc : m ≤ c) : Reads X (.slice (some ⟨bk, off + lo, none⟩) m c) (ints .u64 ((ws.drop lo).take m)) := by
  have hlen : (ints .u64 ((ws.drop lo).take m)).length = m := by simp [ints]; omega
  have hp := h.part lo m hl
  refine ⟨some ⟨bk, off + lo, none⟩, c, by rw [hlen], by rw [hlen]; exact hc, fun _ => ⟨bk, off + lo, rfl, h.lt, fun j hj => ?_⟩⟩
  have := hp j _ (List.getElem?_eq_getElem hj)
  rw [add_plain] at this
  rw [this, List.getElem?_eq_getElem hj]
abbrev KU (w : World) (gu : Nat) (i : Nat) : Prop := i < w.heap.size ∧ i ≠ gu
def wsZ (ws : List Nat) : List Int := ((ws.drop 2).take 10).map fun n : Nat => (n : Int)
theorem wsZ_ints (ws : List Nat) : ints .u64 ((ws.drop 2).take 10) = intsZ .u64 (wsZ ws) := by
  unfold ints intsZ wsZ
  rw [List.map_map]
  rfl
theorem wsZ_len {ws : List Nat} (h : ws.length = 16) : (wsZ ws).length = 10 := by simp [wsZ, h]
theorem wsZ_bnd {ws : List Nat} (h : ∀ x ∈ ws, x < 18446744073709551616) (i : Nat) (z : Int) (hz : (wsZ ws)[i]? = some z) : 0 ≤ z ∧ z < 18446744073709551616 := by
  obtain ⟨n, hn, rfl⟩ := List.mem_map.1 (List.mem_of_getElem? hz)
  have := h n (List.mem_of_mem_drop (List.mem_of_mem_take hn))
  omega
section
variable (gu bk off cap : Nat) (ws : List Nat) (k l z : Int) (a : Value) (r p : Int) (t : Bs) (w : World)
theorem rd0_any (v : Value) (hv : ∃ x n c, v = .slice x n c) : Calls Tryz.prog 99 #[.pointer (some ⟨gu, 0, none⟩), v] w fun e w' => e = .returned (.tuple #[]) ∧ w = w' := by
  obtain ⟨x, n, c, rfl⟩ := hv
  refine X.fn Tryz.func99 rfl (n := 4) rfl rfl ?_
  refine ZK ?_; refine EE.end _ rfl rfl ?_
  exact ⟨rfl, rfl⟩
theorem rd2_T (hu : RowL w gu 145 (inL k l z a r p t)) (hW : ∀ X, Kept (KU w gu) w X → WdsAt X bk off ws) (x2 x3 : Nat) (h2 : ws[2]? = some x2) (h3 : ws[3]? = some x3) (hx : x2 ≤ 65536 ∧ x3 ≤ 65536) (hcap : 16 ≤ cap) : Calls Tryz.prog 108 #[.pointer (some ⟨gu, 0, none⟩), .slice (some ⟨bk, off, none⟩) 16 cap] w fun e w' => e = .returned (.tuple #[]) ∧ RowL w' gu 145 (inL k l z a (x2 : Int) (x3 : Int) t) ∧ Kept (KU w gu) w w' := by
  have hkk := Kept.refl (KU w gu) w
  have hlu := hu.lt
  have c2 := (hW w hkk).cells _ _ h2
  have c3 := (hW w hkk).cells _ _ h3
  refine X.fn Tryz.func108 rfl (n := 20) rfl rfl ?_
  refine CC.join (fun l_ W10 => l_ = [] ∧ (Kept (KU w gu) w W10) ∧ (RowL W10 gu 145 [Value.int IntKind.i64 k, Value.int IntKind.i64 l, Value.int IntKind.i64 z, a, Value.int IntKind.i64 ↑x2, Value.int IntKind.i64 ↑x3, strV t]) ∧ (w.heap.size ≤ W10.heap.size)) (fun J14 => ?_) ?restJ14
  case' restJ14 =>
    clear hkk
    clear hu
    rintro _ W10 ⟨rfl, hkk, hu, z13⟩
  refine EE.end _ rfl rfl ?_
  exact ⟨rfl, hu, hkk⟩
  refine CC.freeZ (fun W_ j => j < W_.heap.size ∧ (j ≠ gu)) (by kernel_rfl) (by kernel_rfl) (fun W16 b15 z17 => ?_)
  replace hu := hu.up b15; replace hkk := Zh hkk b15; have y18 := hkk.size; replace c2 := cell_up c2 b15; replace c3 := cell_up c3 b15
  have hok : Kept (fun j => j < W16.heap.size ∧ (j ≠ gu)) W16 W16 := Kept.refl _ _
  refine AA.pure 0 rfl hok (by kernel_rfl) (fun w' b' => R.move rfl rfl) rfl rfl ?_
  refine AA.pure 1 rfl hok (by kernel_rfl) (fun w' b' => R.move rfl rfl) rfl rfl ?_
  refine AA.pure 2 rfl hok (by kernel_rfl) (fun w' b' => R.move rfl rfl) rfl rfl ?_
  refine AA.pure 3 rfl hok (by kernel_rfl) (fun w' b' => R.index rfl rfl rfl (I.ixS1c rfl rfl (by omega))) rfl rfl ?_
  refine AA.pure 6 rfl hok (by kernel_rfl) (fun w' b' => R.move rfl rfl) rfl rfl ?_
  refine AA.pure 7 rfl hok (by kernel_rfl) (fun w' b' => R.index rfl rfl rfl (I.ixS1c rfl rfl (by omega))) rfl rfl ?_
  refine AA.two 4 8 (by kernel_rfl) ?_ ?_
  refine SR.val rfl (R.load rfl rfl (I.ld1 rfl (by assumption))) rfl rfl hok ?_
  refine AA.pureC 5 rfl hok (by kernel_rfl) (fun w' => (R.call rfl rfl rfl)) (fun w' b' => number_T _ w' (by first | assumption | omega)) rfl rfl ?_
  refine AA.one 8 (by kernel_rfl) ?_
  refine SR.val rfl (R.load rfl rfl (I.ld1 rfl (by assumption))) rfl rfl hok ?_
  refine AA.pureC 9 rfl hok (by kernel_rfl) (fun w' => (R.call rfl rfl rfl)) (fun w' b' => number_T _ w' (by first | assumption | omega)) rfl rfl ?_
  refine AA.pure 10 rfl hok (by kernel_rfl) (fun w' b' => R.nil rfl rfl) rfl rfl ?_
  refine AA.pure 11 rfl hok (by kernel_rfl) (fun w' b' => R.field rfl rfl (I.fld rfl)) rfl rfl ?_
  refine AA.pure 12 rfl hok (by kernel_rfl) (fun w' b' => R.field rfl rfl (I.fld rfl)) rfl rfl ?_
  refine AA.one 13 (by kernel_rfl) ?_
  refine ZR.store rfl rfl rfl rfl rfl hu (by exact Nat.le_of_ble_eq_true rfl) rfl rfl rfl rfl ?_
  intro W20 r21 b19 z22
  have hlb19 := hu.lt
  replace r21 : RowL W20 _ 145 [.int .i64 k, .int .i64 l, .int .i64 z, a, .int .i64 ↑x2, .int .i64 p, strV t] := r21
  clear hu
  replace hkk := Zo hkk b19; replace hok := Zo hok b19
  have hu := r21
  clear r21
  refine ⟨hok, ?_⟩
  refine AA.pure 14 rfl hok (by kernel_rfl) (fun w' b' => R.nil rfl rfl) rfl rfl ?_
  refine AA.pure 15 rfl hok (by kernel_rfl) (fun w' b' => R.field rfl rfl (I.fld rfl)) rfl rfl ?_
  refine AA.pure 16 rfl hok (by kernel_rfl) (fun w' b' => R.field rfl rfl (I.fld rfl)) rfl rfl ?_
  refine AA.one 17 (by kernel_rfl) ?_
  refine ZR.store rfl rfl rfl rfl rfl hu (by exact Nat.le_of_ble_eq_true rfl) rfl rfl rfl rfl ?_
  intro W24 r25 b23 z26
  have hlb23 := hu.lt
  replace r25 : RowL W24 _ 145 [.int .i64 k, .int .i64 l, .int .i64 z, a, .int .i64 ↑x2, .int .i64 ↑x3, strV t] := r25
  clear hu
  replace hkk := Zo hkk b23; replace hok := Zo hok b23
  have hu := r25
  clear r25
  refine ⟨hok, ?_⟩
  refine AA.done rfl ?_
  clear hok
  refine EE.end _ rfl rfl ?_
  exact ⟨rfl, hu, hkk⟩
  refine SR.val rfl (R.load rfl rfl (I.ld1 rfl (by assumption))) rfl rfl hok ?_
  refine AA.one 4 (by kernel_rfl) ?_
  refine SR.val rfl (R.load rfl rfl (I.ld1 rfl (by assumption))) rfl rfl hok ?_
  refine AA.pureC 5 rfl hok (by kernel_rfl) (fun w' => (R.call rfl rfl rfl)) (fun w' b' => number_T _ w' (by first | assumption | omega)) rfl rfl ?_
  refine AA.pureC 9 rfl hok (by kernel_rfl) (fun w' => (R.call rfl rfl rfl)) (fun w' b' => number_T _ w' (by first | assumption | omega)) rfl rfl ?_
  refine AA.pure 10 rfl hok (by kernel_rfl) (fun w' b' => R.nil rfl rfl) rfl rfl ?_
  refine AA.pure 11 rfl hok (by kernel_rfl) (fun w' b' => R.field rfl rfl (I.fld rfl)) rfl rfl ?_
  refine AA.pure 12 rfl hok (by kernel_rfl) (fun w' b' => R.field rfl rfl (I.fld rfl)) rfl rfl ?_
  refine AA.one 13 (by kernel_rfl) ?_
  refine ZR.store rfl rfl rfl rfl rfl hu (by exact Nat.le_of_ble_eq_true rfl) rfl rfl rfl rfl ?_
  intro W28 r29 b27 z30
  have hlb27 := hu.lt
  replace r29 : RowL W28 _ 145 [.int .i64 k, .int .i64 l, .int .i64 z, a, .int .i64 ↑x2, .int .i64 p, strV t] := r29
  clear hu
  replace hkk := Zo hkk b27; replace hok := Zo hok b27
  have hu := r29
  clear r29
  refine ⟨hok, ?_⟩
  refine AA.pure 14 rfl hok (by kernel_rfl) (fun w' b' => R.nil rfl rfl) rfl rfl ?_
  refine AA.pure 15 rfl hok (by kernel_rfl) (fun w' b' => R.field rfl rfl (I.fld rfl)) rfl rfl ?_
  refine AA.pure 16 rfl hok (by kernel_rfl) (fun w' b' => R.field rfl rfl (I.fld rfl)) rfl rfl ?_
  refine AA.one 17 (by kernel_rfl) ?_
  refine ZR.store rfl rfl rfl rfl rfl hu (by exact Nat.le_of_ble_eq_true rfl) rfl rfl rfl rfl ?_
  intro W32 r33 b31 z34
  have hlb31 := hu.lt
  replace r33 : RowL W32 _ 145 [.int .i64 k, .int .i64 l, .int .i64 z, a, .int .i64 ↑x2, .int .i64 ↑x3, strV t] := r33
  clear hu
  replace hkk := Zo hkk b31; replace hok := Zo hok b31
  have hu := r33
  clear r33
  refine ⟨hok, ?_⟩
  refine AA.done rfl ?_
  clear hok
  refine EE.end _ rfl rfl ?_
  exact ⟨rfl, hu, hkk⟩
theorem rd2_F (hu : RowL w gu 145 (inL k l z a r p t)) (hW : ∀ X, Kept (KU w gu) w X → WdsAt X bk off ws) (x2 x3 : Nat) (h2 : ws[2]? = some x2) (h3 : ws[3]? = some x3) (hx : 65536 < x2 ∨ 65536 < x3) (hcap : 16 ≤ cap) : Calls Tryz.prog 108 #[.pointer (some ⟨gu, 0, none⟩), .slice (some ⟨bk, off, none⟩) 16 cap] w fun e w' => e = .panicked (chain1 refV) ∧ Kept (KU w gu) w w' := by
  have hkk := Kept.refl (KU w gu) w
  have hlu := hu.lt
  have c2 := (hW w hkk).cells _ _ h2
  have c3 := (hW w hkk).cells _ _ h3
  have l2 := (List.getElem?_eq_some_iff.1 h2).1
  refine X.fnP Tryz.func108 rfl (n := 20) rfl rfl ?_
  refine CC.freeP (fun X => Kept (KU w gu) w X) (by kernel_rfl) rfl ?_
  have hok : Kept (KU w gu) w w.drew := hkk.trans (bkept (below_drew (w := w)) (fun j h => h.1))
  clear hkk
  refine AP.pure 0 rfl hok (by kernel_rfl) (fun w' hw' => R.move rfl rfl) rfl rfl ?_
  refine AP.pure 1 rfl hok (by kernel_rfl) (fun w' hw' => R.move rfl rfl) rfl rfl ?_
  refine AP.pure 2 rfl hok (by kernel_rfl) (fun w' hw' => R.move rfl rfl) rfl rfl ?_
  refine AP.pure 3 rfl hok (by kernel_rfl) (fun w' hw' => R.index rfl rfl rfl (I.ixS rfl (by decide))) rfl rfl ?_
  refine AP.pure 4 rfl hok (by kernel_rfl) (fun w' hw' => R.load rfl rfl (I.ld1 rfl ((hW w' hw').cells _ _ h2))) rfl rfl ?_
  refine AP.pure 6 rfl hok (by kernel_rfl) (fun w' hw' => R.move rfl rfl) rfl rfl ?_
  refine AP.pure 7 rfl hok (by kernel_rfl) (fun w' hw' => R.index rfl rfl rfl (I.ixS rfl (by decide))) rfl rfl ?_
  refine AP.pure 8 rfl hok (by kernel_rfl) (fun w' hw' => R.load rfl rfl (I.ld1 rfl ((hW w' hw').cells _ _ h3))) rfl rfl ?_
  by_cases h4 : 65536 < x2
  · refine AP.pan 5 (by kernel_rfl) rfl rfl (R.call rfl rfl rfl) rfl (number_F x2 _ h4) ?_
    rintro e w' ⟨rfl, rfl⟩
    exact ⟨_, rfl, EE.panM ⟨rfl, hok⟩⟩
  · refine AP.pureC 5 rfl hok (by kernel_rfl) (fun w' => R.call rfl rfl rfl) (fun w' hw' => number_T x2 w' (by omega)) rfl rfl ?_
    refine AP.pan 9 (by kernel_rfl) rfl rfl (R.call rfl rfl rfl) rfl (number_F x3 _ (by omega)) ?_
    rintro e w' ⟨rfl, rfl⟩
    exact ⟨_, rfl, EE.panM ⟨rfl, hok⟩⟩
end
theorem readsT_far {α : Type} {enc : α → List Value} {k : Nat} {K : Nat → Prop} {w w' : World} {v : Value} {ts : List α} (h : ReadsT enc k w v ts) (hk : Kept K w w') (hb : ∀ b off n c, v = .slice (some ⟨b, off, none⟩) n c → b < w.heap.size → K b) : ReadsT enc k w' v ts := by
  have h0 := h
  obtain ⟨a, cap, e, hc, h⟩ := h
  rcases Classical.em (ts = []) with hne | hne
  · subst hne
    exact ⟨a, cap, e, hc, fun h => (h rfl).elim⟩
  · obtain ⟨b, off, ha, hlt, _⟩ := h hne
    subst ha
    subst e
    exact h0.kp hk (hb _ _ _ _ rfl hlt)
theorem ownsT_ge {α : Type} {enc : α → List Value} {k : Nat} {w : World} {base e : Nat} {v : Value} {ts : List α} (h : OwnsT enc k w base e v ts) : ∀ b off n c, v = .slice (some ⟨b, off, none⟩) n c → base ≤ b := by
  intro b off n c hv
  rcases h.2 with ⟨e1, _⟩ | ⟨g, cap, cur, e1, hbg, _⟩
  · rw [e1] at hv; cases hv
  · rw [e1] at hv; cases hv; exact hbg
theorem wds_N {X : World} {bk off : Nat} {ws : List Nat} (h : WdsAt X bk off ws) (hl : 12 ≤ ws.length) : CellsN X ⟨bk, off + 2, none⟩ 10 (intsZ .u64 (wsZ ws)) := by
  rw [← wsZ_ints]
  exact ⟨h.part 2 10 (by omega), by simp [ints]; omega⟩
theorem rd1_T (gu bk off cap : Nat) (ws : List Nat) (k l z : Int) (a : Value) (r p : Int) (t : Bs) (w : World) (hS : Start w) (hg0 : 0 < gu) (hws : ws.length = 16) (hwb : ∀ x ∈ ws, x < 18446744073709551616) (hu : RowL w gu 145 (inL k l z a r p t)) (hW : ∀ X, Kept (KU w gu) w X → WdsAt X bk off ws) (x1 : Nat) (h1 : ws[1]? = some x1) (hx : x1 ≤ 65536) (hm : mapW (wsZ ws)) (hcap : 16 ≤ cap) : Calls Tryz.prog 103 #[.pointer (some ⟨gu, 0, none⟩), .slice (some ⟨bk, off, none⟩) 16 cap] w fun e w' => e = .returned (.tuple #[]) ∧ (∃ v, RowL w' gu 145 (inL k l (x1 : Int) v r p t) ∧ ReadsT eE 3 w' v (outZ (wsZ ws)) ∧ ∀ b off n c, v = .slice (some ⟨b, off, none⟩) n c → w.heap.size ≤ b) ∧ Kept (KU w gu) w w' := by
  have hkk := Kept.refl (KU w gu) w
  have hlu := hu.lt
  have hS0 := hS.pos
  have hSF : ∀ X, Kept (KU w gu) w X → Start X := fun X h => hS.kept h ⟨hS0, by omega⟩
  have c1 := (hW w hkk).cells _ _ h1
  have hl := wsZ_len hws
  have hb := wsZ_bnd hwb
  have hcN : ∀ X, Kept (KU w gu) w X → CellsN X ⟨bk, off + 2, none⟩ 10 (intsZ .u64 (wsZ ws)) := fun X h => wds_N (hW X h) (by omega)
  clear hS
  refine X.fn Tryz.func103 rfl (n := 30) rfl rfl ?_
  refine Zr ?_; refine Zm ?_; refine Zm ?_; refine Zi ?_; refine Zk ?_
  refine Zy (R.call rfl rfl rfl) (number_T _ _ (by first | assumption | omega)) ?_
  rintro e W' ⟨rfl, rfl⟩
  refine ⟨_, rfl, ?_⟩
  refine LL.val (R.nil rfl rfl) rfl rfl rfl ?_
  refine Zf ?_; refine Zf ?_
  refine LL.store rfl rfl rfl rfl hu (by exact Nat.le_of_ble_eq_true rfl) rfl rfl rfl rfl ?_
  intro W74 r75 b73 z76
  have hlb73 := hu.lt
  replace r75 : RowL W74 _ 145 [.int .i64 k, .int .i64 l, .int .i64 ↑x1, a, .int .i64 r, .int .i64 p, strV t] := r75
  clear hu
  replace hkk := Zo hkk b73
  have hu := r75
  clear r75
  refine Zq ?_; refine Zr ?_; refine Zm ?_
  refine LL.val (R.slice rfl rfl rfl rfl rfl (I.slSc rfl rfl rfl (by omega) (by omega) (by omega))) rfl rfl rfl ?_
  (refine LL.val (R.toArr rfl rfl (I.arrU _ _ _)) rfl rfl rfl ?_)
  (refine LL.val (R.load rfl rfl (I.ldM (hcN _ hkk) rfl rfl)) rfl rfl rfl ?_)
  have l97 := hu.lt
  (refine Zy (R.call rfl rfl rfl) (ofo_T (wsZ ws) _ (hSF _ hkk) hl hb hm) ?_; rintro e W96 ⟨v8, rfl, o8, b93⟩; refine ⟨_, rfl, ?_⟩; obtain ⟨n8, en8⟩ : ∃ n, (outZ (wsZ ws)).length = n := ⟨_, rfl⟩; have hge8 := ownsT_ge o8; obtain ⟨a8, c8, rfl, hc8⟩ := (o8.reads eEnc).form en8)
  have zb93 := b93.size; replace hkk := Zh hkk b93; have y101 := hkk.size; replace hu := hu.up b93; refine Zm ?_; refine Zx ?_; refine Zx ?_; refine Za ?_; refine Za ?_; refine Zq ?_; refine Zr ?_; refine Zm ?_; refine ZneF ?_
  refine Zy (R.call rfl rfl rfl) (refuse_F _) ?_
  rintro e W' ⟨rfl, rfl⟩
  refine ⟨_, rfl, ?_⟩; refine Zq ?_; refine CC.region ?_; refine Zm ?_; refine Zm ?_
  refine LL.val (R.nil rfl rfl) rfl rfl rfl ?_
  refine Zf ?_; refine Zf ?_
  refine LL.store rfl rfl rfl rfl hu (by exact Nat.le_of_ble_eq_true rfl) rfl rfl rfl rfl ?_
  intro W215 r216 b214 z217
  have hlb214 := hu.lt
  replace r216 : RowL W215 _ 145 [.int .i64 k, .int .i64 l, .int .i64 ↑x1, .slice a8 n8 c8, .int .i64 r, .int .i64 p, strV t] := r216
  clear hu
  replace o8 := o8.grown b214 (own_ne o8 (by omega))
  replace hkk := Zo hkk b214
  have hu := r216
  clear r216
  refine ZL ?_; refine EE.end _ rfl rfl ?_
  exact ⟨rfl, ⟨_, by assumption, o8.reads eEnc, fun b off n c e => by have := hge8 b off n c e; omega⟩, hkk⟩
theorem rd1_F (gu bk off cap : Nat) (ws : List Nat) (k l z : Int) (a : Value) (r p : Int) (t : Bs) (w : World) (hS : Start w) (hg0 : 0 < gu) (hws : ws.length = 16) (hwb : ∀ x ∈ ws, x < 18446744073709551616) (hu : RowL w gu 145 (inL k l z a r p t)) (hW : ∀ X, Kept (KU w gu) w X → WdsAt X bk off ws) (x1 : Nat) (h1 : ws[1]? = some x1) (hx : 65536 < x1 ∨ ¬mapW (wsZ ws)) (hcap : 16 ≤ cap) : Calls Tryz.prog 103 #[.pointer (some ⟨gu, 0, none⟩), .slice (some ⟨bk, off, none⟩) 16 cap] w fun e w' => e = .panicked (chain1 refV) ∧ Kept (KU w gu) w w' := by
  have hkk := Kept.refl (KU w gu) w
  have hlu := hu.lt
  have hS0 := hS.pos
  have hSF : ∀ X, Kept (KU w gu) w X → Start X := fun X h => hS.kept h ⟨hS0, by omega⟩
  have c1 := (hW w hkk).cells _ _ h1
  have hl := wsZ_len hws
  have hb := wsZ_bnd hwb
  have hcN : ∀ X, Kept (KU w gu) w X → CellsN X ⟨bk, off + 2, none⟩ 10 (intsZ .u64 (wsZ ws)) := fun X h => wds_N (hW X h) (by omega)
  clear hS
  by_cases h4 : 65536 < x1
  · refine X.fnP Tryz.func103 rfl (n := 30) rfl rfl ?_
    refine Zr ?_; refine Zm ?_; refine Zm ?_; refine Zi ?_; refine Zk ?_
    refine LL.callP (R.call rfl rfl rfl) rfl rfl (number_F _ _ (by first | assumption | omega)) ?_
    rintro e W2 ⟨rfl, rfl⟩
    refine ⟨_, rfl, ?_⟩; refine EE.thenP ?_; refine EE.panM ?_
    exact ⟨rfl, hkk⟩
  · have hm : ¬mapW (wsZ ws) := hx.resolve_left h4
    refine X.fnP Tryz.func103 rfl (n := 30) rfl rfl ?_
    refine Zr ?_; refine Zm ?_; refine Zm ?_; refine Zi ?_; refine Zk ?_
    refine Zy (R.call rfl rfl rfl) (number_T _ _ (by first | assumption | omega)) ?_
    rintro e W' ⟨rfl, rfl⟩
    refine ⟨_, rfl, ?_⟩
    refine LL.val (R.nil rfl rfl) rfl rfl rfl ?_
    refine Zf ?_; refine Zf ?_
    refine LL.store rfl rfl rfl rfl hu (by exact Nat.le_of_ble_eq_true rfl) rfl rfl rfl rfl ?_
    intro Wa74 ra75 ba73 za76
    have hlba73 := hu.lt
    replace ra75 : RowL Wa74 _ 145 [.int .i64 k, .int .i64 l, .int .i64 ↑x1, a, .int .i64 r, .int .i64 p, strV t] := ra75
    clear hu
    replace hkk := Zo hkk ba73
    have hu := ra75
    clear ra75
    refine Zq ?_; refine Zr ?_; refine Zm ?_
    refine LL.val (R.slice rfl rfl rfl rfl rfl (I.slSc rfl rfl rfl (by omega) (by omega) (by omega))) rfl rfl rfl ?_
    (refine LL.val (R.toArr rfl rfl (I.arrU _ _ _)) rfl rfl rfl ?_)
    (refine LL.val (R.load rfl rfl (I.ldM (hcN _ hkk) rfl rfl)) rfl rfl rfl ?_)
    have la97 := hu.lt
    (refine Zy (R.call rfl rfl rfl) (ofw_F (wsZ ws) _ (hSF _ hkk) hl hb hm) ?_; rintro e Wa96 ⟨rfl, ba93⟩; refine ⟨_, rfl, ?_⟩)
    have zba93 := ba93.size; replace hkk := Zh hkk ba93; have ya101 := hkk.size; replace hu := hu.up ba93; refine Zm ?_; refine Zx ?_; refine Zx ?_; refine Za ?_; refine Za ?_; refine Zq ?_; refine Zr ?_; refine Zm ?_; refine ZneT ?_
    refine LL.callP (R.call rfl rfl rfl) rfl rfl (refuse_T _) ?_
    rintro e Wa167 ⟨rfl, rfl⟩
    refine ⟨_, rfl, ?_⟩; refine EE.thenP ?_; refine EE.panM ?_
    exact ⟨rfl, hkk⟩
  /-- Numbers as a string's bytes. -/
def ofN (bs : List Nat) : Bs := bs.map UInt8.ofNat
theorem ofN_nbL (l : Bs) : ofN (nbL l) = l := by
  unfold nbL ofN
  rw [List.map_map]
  conv => rhs; rw [← List.map_id l]
  apply List.map_congr_left
  intro x hx
  simp
/-- The target that words tell, of so many bytes. -/
def tgW (ws : List Nat) (k : Nat) : Bs := ofN ((bytesL ((ws.drop 2).take ((k + 7) / 8))).take k)
/-- May so many bytes stand there? -/
def tgOk (ws : List Nat) (k : Nat) : Prop := zerosB ((bytesL ((ws.drop 2).take ((k + 7) / 8))).drop k) = true
theorem rd3_T (gu bk off cap : Nat) (ws : List Nat) (k l z : Int) (a : Value) (r p : Int) (t : Bs) (w : World) (hws : ws.length = 16) (hu : RowL w gu 145 (inL k l z a r p t)) (hW : ∀ X, Kept (KU w gu) w X → WdsAt X bk off ws) (x1 : Nat) (h1 : ws[1]? = some x1) (hx : 1 ≤ x1 ∧ x1 ≤ 112) (hm : tgOk ws x1) (hcap : 16 ≤ cap) : Calls Tryz.prog 115 #[.pointer (some ⟨gu, 0, none⟩), .slice (some ⟨bk, off, none⟩) 16 cap] w fun e w' => e = .returned (.tuple #[]) ∧ RowL w' gu 145 (inL k l z a r p (tgW ws x1)) ∧ Kept (KU w gu) w w' := by
  have hkk := Kept.refl (KU w gu) w
  have hlu := hu.lt
  have c1 := (hW w hkk).cells _ _ h1
  have hlen : ((ws.drop 2).take ((x1 + 7) / 8)).length = (x1 + 7) / 8 := by simp; omega
  have hT : ∀ X, Kept (KU w gu) w X → Calls Tryz.prog 130 #[.slice (some ⟨bk, off + 2 * 1, none⟩) ((x1 + 7) / 8) (cap - 2), .int .i64 (x1 : Int)] X fun e w' => ∃ v', e = .returned (.tuple #[v', .int .i64 0]) ∧ Reads w' v' (ints .u8 ((bytesL ((ws.drop 2).take ((x1 + 7) / 8))).take x1)) ∧ Below X.heap.size X w' := fun X hX => by
    have h := take_any (.slice (some ⟨bk, off + 2, none⟩) ((x1 + 7) / 8) (cap - 2)) ((ws.drop 2).take ((x1 + 7) / 8)) x1 X ((hW X hX).reads 2 ((x1 + 7) / 8) (cap - 2) (by omega) (by omega)) (by omega) hlen.symm
    refine h.mono fun e w' hh => ?_
    obtain ⟨v', no, rfl, b, ⟨_, rfl, hr⟩ | ⟨hz, _, _⟩⟩ := hh
    · exact ⟨v', rfl, hr, b⟩
    · unfold tgOk at hm
      rw [hm] at hz
      cases hz
  refine X.fn Tryz.func115 rfl (n := 35) rfl rfl ?_
  refine Zr ?_; refine Zm ?_; refine Zi ?_; refine Zk ?_
  refine Zy (R.call rfl rfl rfl) (number_T _ _ (by first | assumption | omega)) ?_
  rintro e W' ⟨rfl, rfl⟩
  refine ⟨_, rfl, ?_⟩; refine Za ?_; refine Zq ?_; refine Zr ?_; refine Zm ?_
  refine Zy (R.call rfl rfl rfl) (within_T _ _ _ _ (by first | assumption | omega)) ?_
  rintro e W' ⟨rfl, rfl⟩
  refine ⟨_, rfl, ?_⟩; refine Zt ?_
  refine Zy (R.call rfl rfl rfl) (refuse_F _) ?_
  rintro e W' ⟨rfl, rfl⟩
  refine ⟨_, rfl, ?_⟩; refine Zq ?_; refine Zr ?_; refine Zm ?_; refine Zm ?_
  refine LL.val (R.addNc rfl rfl rfl rfl (by omega)) rfl rfl rfl ?_
  refine LL.val (R.quoNc rfl rfl rfl rfl (by omega) (by omega)) rfl rfl rfl ?_
  refine LL.val (R.addI rfl rfl rfl (by omega)) rfl rfl rfl ?_
  (refine LL.val (R.slice rfl rfl rfl rfl rfl (I.slS (lo := 2) (hi := 2 + (x1 + 7) / 8) rfl (by omega) (by omega) (by omega))) rfl rfl rfl ?_; (try rw [show 2 + (x1 + 7) / 8 - 2 = (x1 + 7) / 8 by omega]))
  refine Zm ?_; have l125 := hu.lt
  (refine Zy (R.call rfl rfl rfl) (hT _ hkk) ?_; rintro e W124 ⟨v8, rfl, r8, b121⟩; refine ⟨_, rfl, ?_⟩)
  have zb121 := b121.size; replace hu := hu.up b121; replace hkk := Zh hkk b121; have y129 := hkk.size; replace c1 := cell_up c1 b121; refine Zm ?_; refine Zx ?_; refine Zx ?_; refine Za ?_; refine Za ?_; refine Zq ?_; refine Zr ?_; refine Zm ?_; refine ZneF ?_
  refine Zy (R.call rfl rfl rfl) (refuse_F _) ?_
  rintro e W' ⟨rfl, rfl⟩
  refine ⟨_, rfl, ?_⟩; refine Zq ?_; refine CC.region ?_; refine Zm ?_; refine Zm ?_
  (refine LL.val (R.conv rfl rfl (run_toStr rfl rfl r8)) rfl rfl rfl ?_)
  refine LL.val (R.nil rfl rfl) rfl rfl rfl ?_
  refine Zf ?_; refine Zf ?_
  refine LL.store rfl rfl rfl rfl hu (by exact Nat.le_of_ble_eq_true rfl) rfl rfl rfl rfl ?_
  intro W251 r252 b250 z253
  have hlb250 := hu.lt
  replace r252 : RowL W251 _ 145 [.int .i64 k, .int .i64 l, .int .i64 z, a, .int .i64 r, .int .i64 p, .string (strB (List.take x1 (bytesL (List.take ((x1 + 7) / 8) (List.drop 2 ws)))))] := r252
  clear hu
  replace hkk := Zo hkk b250
  have hu := r252
  clear r252
  refine ZL ?_; refine EE.end _ rfl rfl ?_
  exact ⟨rfl, by assumption, hkk⟩
theorem rd3_F (gu bk off cap : Nat) (ws : List Nat) (k l z : Int) (a : Value) (r p : Int) (t : Bs) (w : World) (hws : ws.length = 16) (hu : RowL w gu 145 (inL k l z a r p t)) (hW : ∀ X, Kept (KU w gu) w X → WdsAt X bk off ws) (x1 : Nat) (h1 : ws[1]? = some x1) (hx : ¬(1 ≤ x1 ∧ x1 ≤ 112) ∨ ¬tgOk ws x1) (hcap : 16 ≤ cap) : Calls Tryz.prog 115 #[.pointer (some ⟨gu, 0, none⟩), .slice (some ⟨bk, off, none⟩) 16 cap] w fun e w' => e = .panicked (chain1 refV) ∧ Kept (KU w gu) w w' := by
  have hkk := Kept.refl (KU w gu) w
  have hlu := hu.lt
  have c1 := (hW w hkk).cells _ _ h1
  by_cases h5 : 65536 < x1
  · clear hx
    refine X.fnP Tryz.func115 rfl (n := 35) rfl rfl ?_
    refine Zr ?_; refine Zm ?_; refine Zi ?_; refine Zk ?_
    refine LL.callP (R.call rfl rfl rfl) rfl rfl (number_F _ _ (by first | assumption | omega)) ?_
    rintro e W2 ⟨rfl, rfl⟩
    refine ⟨_, rfl, ?_⟩; refine EE.thenP ?_; refine EE.panM ?_
    exact ⟨rfl, hkk⟩
  by_cases h4 : 1 ≤ x1 ∧ x1 ≤ 112
  case neg =>
    clear hx
    refine X.fnP Tryz.func115 rfl (n := 35) rfl rfl ?_
    refine Zr ?_; refine Zm ?_; refine Zi ?_; refine Zk ?_
    refine Zy (R.call rfl rfl rfl) (number_T _ _ (by first | assumption | omega)) ?_
    rintro e W' ⟨rfl, rfl⟩
    refine ⟨_, rfl, ?_⟩; refine Za ?_; refine Zq ?_; refine Zr ?_; refine Zm ?_
    refine Zy (R.call rfl rfl rfl) (within_F _ _ _ _ (by first | assumption | omega)) ?_
    rintro e W' ⟨rfl, rfl⟩
    refine ⟨_, rfl, ?_⟩; refine Zt ?_
    refine LL.callP (R.call rfl rfl rfl) rfl rfl (refuse_T _) ?_
    rintro e Wa2 ⟨rfl, rfl⟩
    refine ⟨_, rfl, ?_⟩; refine EE.thenP ?_; refine EE.panM ?_
    exact ⟨rfl, hkk⟩
  have hm : ¬tgOk ws x1 := hx.resolve_left (fun h => h h4)
  clear hx
  have hlen : ((ws.drop 2).take ((x1 + 7) / 8)).length = (x1 + 7) / 8 := by simp; omega
  have hT : ∀ X, Kept (KU w gu) w X → Calls Tryz.prog 130 #[.slice (some ⟨bk, off + 2 * 1, none⟩) ((x1 + 7) / 8) (cap - 2), .int .i64 (x1 : Int)] X fun e w' => e = .returned (.tuple #[.slice none 0 0, .int .i64 2]) ∧ Below X.heap.size X w' := fun X hX => by
    have h := take_any (.slice (some ⟨bk, off + 2, none⟩) ((x1 + 7) / 8) (cap - 2)) ((ws.drop 2).take ((x1 + 7) / 8)) x1 X ((hW X hX).reads 2 ((x1 + 7) / 8) (cap - 2) (by omega) (by omega)) (by omega) hlen.symm
    refine h.mono fun e w' hh => ?_
    obtain ⟨v', no, rfl, b, ⟨hz, _, _⟩ | ⟨_, rfl, rfl⟩⟩ := hh
    · exact absurd hz hm
    · exact ⟨rfl, b⟩
  refine X.fnP Tryz.func115 rfl (n := 35) rfl rfl ?_
  refine Zr ?_; refine Zm ?_; refine Zi ?_; refine Zk ?_
  refine Zy (R.call rfl rfl rfl) (number_T _ _ (by first | assumption | omega)) ?_
  rintro e W' ⟨rfl, rfl⟩
  refine ⟨_, rfl, ?_⟩; refine Za ?_; refine Zq ?_; refine Zr ?_; refine Zm ?_
  refine Zy (R.call rfl rfl rfl) (within_T _ _ _ _ (by first | assumption | omega)) ?_
  rintro e W' ⟨rfl, rfl⟩
  refine ⟨_, rfl, ?_⟩; refine Zt ?_
  refine Zy (R.call rfl rfl rfl) (refuse_F _) ?_
  rintro e W' ⟨rfl, rfl⟩
  refine ⟨_, rfl, ?_⟩; refine Zq ?_; refine Zr ?_; refine Zm ?_; refine Zm ?_
  refine LL.val (R.addNc rfl rfl rfl rfl (by omega)) rfl rfl rfl ?_
  refine LL.val (R.quoNc rfl rfl rfl rfl (by omega) (by omega)) rfl rfl rfl ?_
  refine LL.val (R.addI rfl rfl rfl (by omega)) rfl rfl rfl ?_
  (refine LL.val (R.slice rfl rfl rfl rfl rfl (I.slS (lo := 2) (hi := 2 + (x1 + 7) / 8) rfl (by omega) (by omega) (by omega))) rfl rfl rfl ?_; (try rw [show 2 + (x1 + 7) / 8 - 2 = (x1 + 7) / 8 by omega]))
  refine Zm ?_; have lb125 := hu.lt
  (refine Zy (R.call rfl rfl rfl) (hT _ hkk) ?_; rintro e Wb124 ⟨rfl, bb121⟩; refine ⟨_, rfl, ?_⟩)
  have zbb121 := bb121.size; replace hu := hu.up bb121; replace hkk := Zh hkk bb121; have yb129 := hkk.size; replace c1 := cell_up c1 bb121; refine Zm ?_; refine Zx ?_; refine Zx ?_; refine Za ?_; refine Za ?_; refine Zq ?_; refine Zr ?_; refine Zm ?_; refine ZneT ?_
  refine LL.callP (R.call rfl rfl rfl) rfl rfl (refuse_T _) ?_
  rintro e Wb195 ⟨rfl, rfl⟩
  refine ⟨_, rfl, ?_⟩; refine EE.thenP ?_; refine EE.panM ?_
  exact ⟨rfl, hkk⟩
/-- May an inode be? -/
def okI (k l z : Int) (m : List Ex) (r p : Int) (t : Bs) : Prop :=
  (0 ≤ l ∧ l ≤ 65535) ∧ (k = 0 ∧ l = 0 ∧ z = 0 ∧ m = [] ∧ r = 0 ∧ p = 0 ∧ t = [] ∨
    k = 1 ∧ r = 0 ∧ p = 0 ∧ t = [] ∧ okF z m ∨
    k = 2 ∧ z = 0 ∧ m = [] ∧ t = [] ∧ (1 ≤ r ∧ r ≤ 2047) ∧ 1 ≤ p ∧ p ≤ 256 ∨
    k = 3 ∧ z = 0 ∧ m = [] ∧ r = 0 ∧ p = 0 ∧ (1 ≤ t.length ∧ t.length ≤ 112) ∧ (0 : UInt8) ∉ t)
theorem kinds_none {k : Int} (h : k < 0 ∨ 3 < k) : kindsF k = none := by
  unfold kindsF putMap
  rw [if_neg (by omega), if_neg (by omega), if_neg (by omega), if_neg (by omega)]
theorem kF_0 : kindsF 0 = some kd0 := rfl
theorem kF_1 : kindsF 1 = some kd1 := rfl
theorem kF_2 : kindsF 2 = some kd2 := rfl
theorem kF_3 : kindsF 3 = some kd3 := rfl
abbrev kdZ : Value := .agg #[.nilFunc, .nilFunc, .nilFunc, .nilFunc]
theorem check_gT (k l z r p : Int) (t : Bs) (x : Option Addr) (n c : Nat) (w : World) (f1 f2 f3 f4 : Nat) (hkF : kindsF k = some (f1, f2, f3, f4)) (e1 : entB Tryz.prog f1 = true) (e2 : entB Tryz.prog f2 = true) (k' l' z' r' p' : Int) (t' : Bs) (x' : Option Addr) (n' c' : Nat) (cN : ∀ W, Calls Tryz.prog f1 #[inV k l z (.slice x n c) r p t] W fun e w' => e = .returned (inV k' l' z' (.slice x' n' c') r' p' t') ∧ Below W.heap.size W w') (hl : 0 ≤ l ∧ l ≤ 65535) (hsm : ∀ W, Below w.heap.size w W → Calls Tryz.prog 131 #[inV k l z (.slice x n c) r p t, inV k' l' z' (.slice x' n' c') r' p' t'] W fun e w' => e = .returned (.bool true) ∧ Below W.heap.size W w') (cM : ∀ W, Below w.heap.size w W → Calls Tryz.prog f2 #[inV k l z (.slice x n c) r p t] W fun e w' => e = .returned (.bool true) ∧ Below W.heap.size W w') : Calls Tryz.prog 117 #[inV k l z (.slice x n c) r p t] w fun e w' => e = .returned (kdV (f1, f2, f3, f4)) ∧ Below w.heap.size w w' := by
  have q := Below.refl w.heap.size w
  refine X.fn Tryz.func117 rfl (n := 38) rfl rfl ?_
  refine Zr ?_
  refine LL.box [.int .i64 k, .int .i64 l, .int .i64 z, .slice x n c, .int .i64 r, .int .i64 p, strV t] rfl rfl rfl rfl rfl ?_
  intro W2 g3 eg3 r4 z5 b1
  replace q := Zu q b1; have l6 := r4.lt
  refine LL.alloc ([Value.nilFunc, Value.nilFunc, Value.nilFunc, Value.nilFunc]) rfl rfl rfl rfl rfl ?_
  intro W8 g9 eg9 r10 z11 b7
  replace r4 := r4.up b7; replace b1 := Zu b1 b7; replace q := Zu q b7; refine Zq ?_; refine Zc ?_
  refine CC.join (fun l_ W30 => ∃ (g25 : Nat), l_ = [(0, Value.agg #[Value.int IntKind.i64 k, Value.int IntKind.i64 l, Value.int IntKind.i64 z, Value.slice x n c, Value.int IntKind.i64 r, Value.int IntKind.i64 p, strV t]), (1, Value.pointer (some { block := g3, off := 0 })), (2, Value.pointer (some { block := g9, off := 0 })), (3, Value.pointer (some { block := g25, off := 0 })), (4, Value.bool true)] ∧ (Below W8.heap.size W8 W30) ∧ (RowL W30 g9 140 [Value.nilFunc, Value.nilFunc, Value.nilFunc, Value.nilFunc]) ∧ (Below W2.heap.size W2 W30) ∧ (RowL W30 g3 80 [Value.int IntKind.i64 k, Value.int IntKind.i64 l, Value.int IntKind.i64 z, Value.slice x n c, Value.int IntKind.i64 r, Value.int IntKind.i64 p, strV t]) ∧ (Below w.heap.size w W30) ∧ (Below w.heap.size w W30) ∧ (RowL W30 g25 140 [fnV f1, fnV f2, fnV f3, fnV f4]) ∧ (W8.heap.size ≤ W30.heap.size) ∧ (W8.heap.size ≤ g25)) (fun J35 => ?_) ?restJ35
  case' restJ35 =>
    clear r10
    clear b7
    clear r4
    clear b1
    clear q
    rintro _ W30 ⟨g25, rfl, b12, r10, b7, r4, b1, q, r26, z33, z34⟩
  refine ZT ?_; refine Zr ?_; refine Zm ?_; refine Zt ?_; refine Zm ?_; refine Zf ?_; refine Zl r4 ?_
  refine Zy (R.call rfl rfl rfl) (within_T _ _ _ _ (by first | assumption | omega)) ?_
  rintro e W' ⟨rfl, rfl⟩
  refine ⟨_, rfl, ?_⟩; refine Zt ?_; refine Zp ?_
  refine Zy (R.call rfl rfl rfl) (refuse_F _) ?_
  rintro e W' ⟨rfl, rfl⟩
  refine ⟨_, rfl, ?_⟩; refine Zq ?_; refine Zc ?_
  refine CC.growT 15 (by kernel_rfl) (by kernel_rfl) ?_
  refine Gv r4 ?_
  refine Gf ?_
  refine Gl r26 ?_
  refine Gv r4 ?_
  refine GG.call (fun w' => (R.callV rfl rfl rfl e1)) rfl rfl (fun w' b' => (cN w').mono fun e W' h => ⟨h.1, b'.trans (h.2.mono b'.size)⟩) ?_
  refine Gc (fun w' b' => hsm w' (q.trans (b'.mono q.size))) ?_
  refine Gt ?_
  refine Gm ?_
  refine Gf ?_
  refine Gl r26 ?_
  refine Gv r4 ?_
  refine GG.val (fun w' b' => R.buildV rfl rfl (v := .agg #[Value.int IntKind.i64 k, Value.int IntKind.i64 l, Value.int IntKind.i64 z, Value.slice x n c, Value.int IntKind.i64 r, Value.int IntKind.i64 p, strV t]) (fun _ => by kernel_rfl)) rfl rfl ?_
  refine GG.call (fun w' => (R.callV rfl rfl rfl e2)) rfl rfl (fun w' b' => (cM w' (q.trans (b'.mono q.size))).mono fun e W' h => ⟨h.1, b'.trans (h.2.mono b'.size)⟩) ?_
  refine Gt ?_
  refine GG.val (fun w' b' => R.pick rfl rfl rfl) rfl rfl ?_
  refine GG.nil (fun W40 b39 => ?_)
  have zb39 := b39.size; replace b12 := Zu b12 b39; replace r10 := r10.up b39; replace b7 := Zu b7 b39; replace r4 := r4.up b39; replace b1 := Zu b1 b39; replace q := Zu q b39; replace r26 := r26.up b39
  refine Zy (R.call rfl rfl rfl) (refuse_F _) ?_
  rintro e W' ⟨rfl, rfl⟩
  refine ⟨_, rfl, ?_⟩; refine Zq ?_; refine Zr ?_; refine Zv r26 ?_
  refine LL.storeN (vs := [fnV f1, fnV f2, fnV f3, fnV f4]) rfl rfl rfl rfl r10 (by exact Nat.le_of_ble_eq_true rfl) (ones_of rfl) rfl rfl ?_
  intro W42 r43 b41 z44
  have hlb41 := r10.lt
  replace r43 : RowL W42 _ 140 [fnV f1, fnV f2, fnV f3, fnV f4] := r43
  clear r10
  replace b7 := Zg b7 b41; replace r4 := Zd r4 b41; replace b1 := Zg b1 b41; replace q := Zg q b41; replace r26 := Zd r26 b41
  have r10 := r43
  clear r43
  refine Zq ?_; refine ZR ?_
  refine EE.retC rfl rfl (lvNc (RowL.cells0 (by assumption)) (by rfl) (by rfl)) ?_
  exact ⟨rfl, q⟩
  refine CC.freeZ (fun W_ j => j < W_.heap.size ∧ (True)) (by kernel_rfl) (by kernel_rfl) (fun W46 b45 z47 => ?_)
  replace r10 := r10.up b45; replace b7 := Zu b7 b45; replace r4 := r4.up b45; replace b1 := Zu b1 b45; replace q := Zu q b45
  have hok : Kept (fun j => j < W46.heap.size ∧ (True)) W46 W46 := Kept.refl _ _
  have fzr10 := fzRow (K := fun j => j < W46.heap.size ∧ (True)) r10 ⟨r10.lt, (by first | trivial | omega)⟩
  have fzr4 := fzRow (K := fun j => j < W46.heap.size ∧ (True)) r4 ⟨r4.lt, (by first | trivial | omega)⟩
  refine AA.pure 1 rfl hok (by kernel_rfl) (fun w' b' => R.field rfl rfl (I.fld rfl)) rfl rfl ?_
  refine AA.pure 2 rfl hok (by kernel_rfl) (fun w' b' => R.load rfl rfl (I.ld1 rfl (RowL.cell (fzr4 w' b') rfl))) rfl rfl ?_
  refine AA.two 0 7 (by kernel_rfl) ?_ ?_
  refine SR.call rfl (R.call rfl rfl rfl) rfl rfl (kinds_any _) ?_
  rintro e W49 ⟨g51, k52, rfl, h50, b48⟩
  have zb48 := b48.size; replace b45 := Zu b45 b48; replace r10 := r10.up b48; replace b7 := Zu b7 b48; replace r4 := r4.up b48; replace b1 := Zu b1 b48; replace q := Zu q b48; replace hok := Zh hok b48; have y53 := hok.size
  refine ⟨_, rfl, hok, ?_⟩
  refine AA.two 3 7 (by kernel_rfl) ?_ ?_
  (refine SR.val rfl (R.lookKT rfl rfl zKeys (by rfl) (z := kdZ) (by kernel_rfl) (by assumption) k rfl hkF) rfl rfl hok ?_)
  refine AA.pure 4 rfl hok (by kernel_rfl) (fun w' b' => R.move rfl rfl) rfl rfl ?_
  refine AA.pure 5 rfl hok (by kernel_rfl) (fun w' b' => R.extract rfl rfl rfl) rfl rfl ?_
  refine AA.pure 6 rfl hok (by kernel_rfl) (fun w' b' => R.extract rfl rfl rfl) rfl rfl ?_
  refine AA.one 7 (by kernel_rfl) ?_
  have l54 := r10.lt; have l55 := r4.lt
  refine ZR.alloc ([Value.nilFunc, Value.nilFunc, Value.nilFunc, Value.nilFunc]) rfl rfl rfl rfl rfl rfl ?_
  intro W57 g58 eg58 r59 z60 b56
  replace h50 := h50.up b56; replace b48 := Zu b48 b56; replace b45 := Zu b45 b56; replace r10 := r10.up b56; replace b7 := Zu b7 b56; replace r4 := r4.up b56; replace b1 := Zu b1 b56; replace q := Zu q b56; replace hok := Zh hok b56; have y61 := hok.size
  refine ⟨hok, ?_⟩
  refine AA.one 8 (by kernel_rfl) ?_
  refine ZR.storeN (vs := [fnV f1, fnV f2, fnV f3, fnV f4]) rfl rfl rfl rfl rfl r59 (by exact Nat.le_of_ble_eq_true rfl) (ones_of rfl) rfl rfl ?_
  intro W63 r64 b62 z65
  have hlb62 := r59.lt
  replace r64 : RowL W63 _ 140 [fnV f1, fnV f2, fnV f3, fnV f4] := r64
  clear r59
  replace b56 := Zg b56 b62; replace b48 := Zg b48 b62; replace b45 := Zg b45 b62; replace r10 := Zd r10 b62; replace b7 := Zg b7 b62; replace r4 := Zd r4 b62; replace b1 := Zg b1 b62; replace q := Zg q b62; replace hok := Zo hok b62
  have r59 := r64
  clear r64
  refine ⟨hok, ?_⟩
  refine AA.pure 9 rfl hok (by kernel_rfl) (fun w' b' => R.assign rfl rfl) rfl rfl ?_
  refine AA.done rfl ?_
  clear fzr10 fzr4 hok
  exact EE.weak (J35 _ _ ⟨_, rfl, (by first | assumption | omega), (by first | assumption | omega), (by first | assumption | omega), (by first | assumption | omega), (by first | assumption | omega), (by first | assumption | omega), (by first | assumption | omega), (by first | assumption | omega), (by first | assumption | omega)⟩) ⟨rfl, rfl, rfl, rfl, rfl, trivial⟩
  have l66 := r10.lt; have l67 := r4.lt
  refine ZR.alloc ([Value.nilFunc, Value.nilFunc, Value.nilFunc, Value.nilFunc]) rfl rfl rfl rfl rfl rfl ?_
  intro W69 g70 eg70 r71 z72 b68
  replace h50 := h50.up b68; replace b48 := Zu b48 b68; replace b45 := Zu b45 b68; replace r10 := r10.up b68; replace b7 := Zu b7 b68; replace r4 := r4.up b68; replace b1 := Zu b1 b68; replace q := Zu q b68; replace hok := Zh hok b68; have y73 := hok.size
  refine ⟨hok, ?_⟩
  refine AA.one 3 (by kernel_rfl) ?_
  (refine SR.val rfl (R.lookKT rfl rfl zKeys (by rfl) (z := kdZ) (by kernel_rfl) (by assumption) k rfl hkF) rfl rfl hok ?_)
  refine AA.pure 4 rfl hok (by kernel_rfl) (fun w' b' => R.move rfl rfl) rfl rfl ?_
  refine AA.pure 5 rfl hok (by kernel_rfl) (fun w' b' => R.extract rfl rfl rfl) rfl rfl ?_
  refine AA.pure 6 rfl hok (by kernel_rfl) (fun w' b' => R.extract rfl rfl rfl) rfl rfl ?_
  refine AA.one 8 (by kernel_rfl) ?_
  refine ZR.storeN (vs := [fnV f1, fnV f2, fnV f3, fnV f4]) rfl rfl rfl rfl rfl r71 (by exact Nat.le_of_ble_eq_true rfl) (ones_of rfl) rfl rfl ?_
  intro W75 r76 b74 z77
  have hlb74 := r71.lt
  replace r76 : RowL W75 _ 140 [fnV f1, fnV f2, fnV f3, fnV f4] := r76
  clear r71
  replace b68 := Zg b68 b74; replace b48 := Zg b48 b74; replace b45 := Zg b45 b74; replace r10 := Zd r10 b74; replace b7 := Zg b7 b74; replace r4 := Zd r4 b74; replace b1 := Zg b1 b74; replace q := Zg q b74; replace hok := Zo hok b74
  have r71 := r76
  clear r76
  refine ⟨hok, ?_⟩
  refine AA.pure 9 rfl hok (by kernel_rfl) (fun w' b' => R.assign rfl rfl) rfl rfl ?_
  refine AA.done rfl ?_
  clear fzr10 fzr4 hok
  exact EE.weak (J35 _ _ ⟨_, rfl, (by first | assumption | omega), (by first | assumption | omega), (by first | assumption | omega), (by first | assumption | omega), (by first | assumption | omega), (by first | assumption | omega), (by first | assumption | omega), (by first | assumption | omega), (by first | assumption | omega)⟩) ⟨rfl, rfl, rfl, rfl, rfl, trivial⟩
  have l78 := r10.lt; have l79 := r4.lt
  refine ZR.alloc ([Value.nilFunc, Value.nilFunc, Value.nilFunc, Value.nilFunc]) rfl rfl rfl rfl rfl rfl ?_
  intro W81 g82 eg82 r83 z84 b80
  replace b45 := Zu b45 b80; replace r10 := r10.up b80; replace b7 := Zu b7 b80; replace r4 := r4.up b80; replace b1 := Zu b1 b80; replace q := Zu q b80; replace hok := Zh hok b80; have y85 := hok.size
  refine ⟨hok, ?_⟩
  refine AA.one 0 (by kernel_rfl) ?_
  refine SR.call rfl (R.call rfl rfl rfl) rfl rfl (kinds_any _) ?_
  rintro e W87 ⟨g89, k90, rfl, h88, b86⟩
  have zb86 := b86.size; replace r83 := r83.up b86; replace b80 := Zu b80 b86; replace b45 := Zu b45 b86; replace r10 := r10.up b86; replace b7 := Zu b7 b86; replace r4 := r4.up b86; replace b1 := Zu b1 b86; replace q := Zu q b86; replace hok := Zh hok b86; have y91 := hok.size
  refine ⟨_, rfl, hok, ?_⟩
  refine AA.one 3 (by kernel_rfl) ?_
  (refine SR.val rfl (R.lookKT rfl rfl zKeys (by rfl) (z := kdZ) (by kernel_rfl) (by assumption) k rfl hkF) rfl rfl hok ?_)
  refine AA.pure 4 rfl hok (by kernel_rfl) (fun w' b' => R.move rfl rfl) rfl rfl ?_
  refine AA.pure 5 rfl hok (by kernel_rfl) (fun w' b' => R.extract rfl rfl rfl) rfl rfl ?_
  refine AA.pure 6 rfl hok (by kernel_rfl) (fun w' b' => R.extract rfl rfl rfl) rfl rfl ?_
  refine AA.one 8 (by kernel_rfl) ?_
  refine ZR.storeN (vs := [fnV f1, fnV f2, fnV f3, fnV f4]) rfl rfl rfl rfl rfl r83 (by exact Nat.le_of_ble_eq_true rfl) (ones_of rfl) rfl rfl ?_
  intro W93 r94 b92 z95
  have hlb92 := r83.lt
  replace r94 : RowL W93 _ 140 [fnV f1, fnV f2, fnV f3, fnV f4] := r94
  clear r83
  replace b80 := Zg b80 b92; replace b45 := Zg b45 b92; replace r10 := Zd r10 b92; replace b7 := Zg b7 b92; replace r4 := Zd r4 b92; replace b1 := Zg b1 b92; replace q := Zg q b92; replace hok := Zo hok b92
  have r83 := r94
  clear r94
  refine ⟨hok, ?_⟩
  refine AA.pure 9 rfl hok (by kernel_rfl) (fun w' b' => R.assign rfl rfl) rfl rfl ?_
  refine AA.done rfl ?_
  clear fzr10 fzr4 hok
  exact EE.weak (J35 _ _ ⟨_, rfl, (by first | assumption | omega), (by first | assumption | omega), (by first | assumption | omega), (by first | assumption | omega), (by first | assumption | omega), (by first | assumption | omega), (by first | assumption | omega), (by first | assumption | omega), (by first | assumption | omega)⟩) ⟨rfl, rfl, rfl, rfl, rfl, trivial⟩
theorem check_gM (k l z r p : Int) (t : Bs) (x : Option Addr) (n c : Nat) (w : World) (f1 f2 f3 f4 : Nat) (hkF : kindsF k = some (f1, f2, f3, f4)) (e1 : entB Tryz.prog f1 = true) (e2 : entB Tryz.prog f2 = true) (k' l' z' r' p' : Int) (t' : Bs) (x' : Option Addr) (n' c' : Nat) (cN : ∀ W, Calls Tryz.prog f1 #[inV k l z (.slice x n c) r p t] W fun e w' => e = .returned (inV k' l' z' (.slice x' n' c') r' p' t') ∧ Below W.heap.size W w') (hl : 0 ≤ l ∧ l ≤ 65535) (hsm : ∀ W, Below w.heap.size w W → Calls Tryz.prog 131 #[inV k l z (.slice x n c) r p t, inV k' l' z' (.slice x' n' c') r' p' t'] W fun e w' => e = .returned (.bool true) ∧ Below W.heap.size W w') (cM : ∀ W, Below w.heap.size w W → Calls Tryz.prog f2 #[inV k l z (.slice x n c) r p t] W fun e w' => e = .returned (.bool false) ∧ Below W.heap.size W w') : Calls Tryz.prog 117 #[inV k l z (.slice x n c) r p t] w fun e w' => e = .panicked (chain1 refV) ∧ Below w.heap.size w w' := by
  have q := Below.refl w.heap.size w
  refine X.fnP Tryz.func117 rfl (n := 38) rfl rfl ?_
  refine Zr ?_
  refine LL.box [.int .i64 k, .int .i64 l, .int .i64 z, .slice x n c, .int .i64 r, .int .i64 p, strV t] rfl rfl rfl rfl rfl ?_
  intro W2 g3 eg3 r4 z5 b1
  replace q := Zu q b1; have l6 := r4.lt
  refine LL.alloc ([Value.nilFunc, Value.nilFunc, Value.nilFunc, Value.nilFunc]) rfl rfl rfl rfl rfl ?_
  intro W8 g9 eg9 r10 z11 b7
  replace r4 := r4.up b7; replace b1 := Zu b1 b7; replace q := Zu q b7; refine Zq ?_; refine Zc ?_
  refine CC.join (fun l_ W30 => ∃ (g25 : Nat), l_ = [(0, Value.agg #[Value.int IntKind.i64 k, Value.int IntKind.i64 l, Value.int IntKind.i64 z, Value.slice x n c, Value.int IntKind.i64 r, Value.int IntKind.i64 p, strV t]), (1, Value.pointer (some { block := g3, off := 0 })), (2, Value.pointer (some { block := g9, off := 0 })), (3, Value.pointer (some { block := g25, off := 0 })), (4, Value.bool true)] ∧ (Below W8.heap.size W8 W30) ∧ (RowL W30 g9 140 [Value.nilFunc, Value.nilFunc, Value.nilFunc, Value.nilFunc]) ∧ (Below W2.heap.size W2 W30) ∧ (RowL W30 g3 80 [Value.int IntKind.i64 k, Value.int IntKind.i64 l, Value.int IntKind.i64 z, Value.slice x n c, Value.int IntKind.i64 r, Value.int IntKind.i64 p, strV t]) ∧ (Below w.heap.size w W30) ∧ (Below w.heap.size w W30) ∧ (RowL W30 g25 140 [fnV f1, fnV f2, fnV f3, fnV f4]) ∧ (W8.heap.size ≤ W30.heap.size) ∧ (W8.heap.size ≤ g25)) (fun J35 => ?_) ?restJ35
  case' restJ35 =>
    clear r10
    clear b7
    clear r4
    clear b1
    clear q
    rintro _ W30 ⟨g25, rfl, b12, r10, b7, r4, b1, q, r26, z33, z34⟩
  refine ZT ?_; refine Zr ?_; refine Zm ?_; refine Zt ?_; refine Zm ?_; refine Zf ?_; refine Zl r4 ?_
  refine Zy (R.call rfl rfl rfl) (within_T _ _ _ _ (by first | assumption | omega)) ?_
  rintro e W' ⟨rfl, rfl⟩
  refine ⟨_, rfl, ?_⟩; refine Zt ?_; refine Zp ?_
  refine Zy (R.call rfl rfl rfl) (refuse_F _) ?_
  rintro e W' ⟨rfl, rfl⟩
  refine ⟨_, rfl, ?_⟩; refine Zq ?_; refine Zc ?_
  refine CC.growT 15 (by kernel_rfl) (by kernel_rfl) ?_
  refine Gv r4 ?_
  refine Gf ?_
  refine Gl r26 ?_
  refine Gv r4 ?_
  refine GG.call (fun w' => (R.callV rfl rfl rfl e1)) rfl rfl (fun w' b' => (cN w').mono fun e W' h => ⟨h.1, b'.trans (h.2.mono b'.size)⟩) ?_
  refine Gc (fun w' b' => hsm w' (q.trans (b'.mono q.size))) ?_
  refine Gt ?_
  refine Gm ?_
  refine Gf ?_
  refine Gl r26 ?_
  refine Gv r4 ?_
  refine GG.val (fun w' b' => R.buildV rfl rfl (v := .agg #[Value.int IntKind.i64 k, Value.int IntKind.i64 l, Value.int IntKind.i64 z, Value.slice x n c, Value.int IntKind.i64 r, Value.int IntKind.i64 p, strV t]) (fun _ => by kernel_rfl)) rfl rfl ?_
  refine GG.call (fun w' => (R.callV rfl rfl rfl e2)) rfl rfl (fun w' b' => (cM w' (q.trans (b'.mono q.size))).mono fun e W' h => ⟨h.1, b'.trans (h.2.mono b'.size)⟩) ?_
  refine Gt ?_
  refine GG.val (fun w' b' => R.pick rfl rfl rfl) rfl rfl ?_
  refine GG.nil (fun W40 b39 => ?_)
  have zb39 := b39.size; replace b12 := Zu b12 b39; replace r10 := r10.up b39; replace b7 := Zu b7 b39; replace r4 := r4.up b39; replace b1 := Zu b1 b39; replace q := Zu q b39; replace r26 := r26.up b39
  refine LL.callP (R.call rfl rfl rfl) rfl rfl (refuse_T _) ?_
  rintro e W42 ⟨rfl, rfl⟩
  refine ⟨_, rfl, ?_⟩; refine EE.thenP ?_; refine EE.panM ?_
  exact ⟨rfl, q⟩
  refine CC.freeZ (fun W_ j => j < W_.heap.size ∧ (True)) (by kernel_rfl) (by kernel_rfl) (fun W44 b43 z45 => ?_)
  replace r10 := r10.up b43; replace b7 := Zu b7 b43; replace r4 := r4.up b43; replace b1 := Zu b1 b43; replace q := Zu q b43
  have hok : Kept (fun j => j < W44.heap.size ∧ (True)) W44 W44 := Kept.refl _ _
  have fzr10 := fzRow (K := fun j => j < W44.heap.size ∧ (True)) r10 ⟨r10.lt, (by first | trivial | omega)⟩
  have fzr4 := fzRow (K := fun j => j < W44.heap.size ∧ (True)) r4 ⟨r4.lt, (by first | trivial | omega)⟩
  refine AA.pure 1 rfl hok (by kernel_rfl) (fun w' b' => R.field rfl rfl (I.fld rfl)) rfl rfl ?_
  refine AA.pure 2 rfl hok (by kernel_rfl) (fun w' b' => R.load rfl rfl (I.ld1 rfl (RowL.cell (fzr4 w' b') rfl))) rfl rfl ?_
  refine AA.two 0 7 (by kernel_rfl) ?_ ?_
  refine SR.call rfl (R.call rfl rfl rfl) rfl rfl (kinds_any _) ?_
  rintro e W47 ⟨g49, k50, rfl, h48, b46⟩
  have zb46 := b46.size; replace b43 := Zu b43 b46; replace r10 := r10.up b46; replace b7 := Zu b7 b46; replace r4 := r4.up b46; replace b1 := Zu b1 b46; replace q := Zu q b46; replace hok := Zh hok b46; have y51 := hok.size
  refine ⟨_, rfl, hok, ?_⟩
  refine AA.two 3 7 (by kernel_rfl) ?_ ?_
  (refine SR.val rfl (R.lookKT rfl rfl zKeys (by rfl) (z := kdZ) (by kernel_rfl) (by assumption) k rfl hkF) rfl rfl hok ?_)
  refine AA.pure 4 rfl hok (by kernel_rfl) (fun w' b' => R.move rfl rfl) rfl rfl ?_
  refine AA.pure 5 rfl hok (by kernel_rfl) (fun w' b' => R.extract rfl rfl rfl) rfl rfl ?_
  refine AA.pure 6 rfl hok (by kernel_rfl) (fun w' b' => R.extract rfl rfl rfl) rfl rfl ?_
  refine AA.one 7 (by kernel_rfl) ?_
  have l52 := r10.lt; have l53 := r4.lt
  refine ZR.alloc ([Value.nilFunc, Value.nilFunc, Value.nilFunc, Value.nilFunc]) rfl rfl rfl rfl rfl rfl ?_
  intro W55 g56 eg56 r57 z58 b54
  replace h48 := h48.up b54; replace b46 := Zu b46 b54; replace b43 := Zu b43 b54; replace r10 := r10.up b54; replace b7 := Zu b7 b54; replace r4 := r4.up b54; replace b1 := Zu b1 b54; replace q := Zu q b54; replace hok := Zh hok b54; have y59 := hok.size
  refine ⟨hok, ?_⟩
  refine AA.one 8 (by kernel_rfl) ?_
  refine ZR.storeN (vs := [fnV f1, fnV f2, fnV f3, fnV f4]) rfl rfl rfl rfl rfl r57 (by exact Nat.le_of_ble_eq_true rfl) (ones_of rfl) rfl rfl ?_
  intro W61 r62 b60 z63
  have hlb60 := r57.lt
  replace r62 : RowL W61 _ 140 [fnV f1, fnV f2, fnV f3, fnV f4] := r62
  clear r57
  replace b54 := Zg b54 b60; replace b46 := Zg b46 b60; replace b43 := Zg b43 b60; replace r10 := Zd r10 b60; replace b7 := Zg b7 b60; replace r4 := Zd r4 b60; replace b1 := Zg b1 b60; replace q := Zg q b60; replace hok := Zo hok b60
  have r57 := r62
  clear r62
  refine ⟨hok, ?_⟩
  refine AA.pure 9 rfl hok (by kernel_rfl) (fun w' b' => R.assign rfl rfl) rfl rfl ?_
  refine AA.done rfl ?_
  clear fzr10 fzr4 hok
  exact EE.weak (J35 _ _ ⟨_, rfl, (by first | assumption | omega), (by first | assumption | omega), (by first | assumption | omega), (by first | assumption | omega), (by first | assumption | omega), (by first | assumption | omega), (by first | assumption | omega), (by first | assumption | omega), (by first | assumption | omega)⟩) ⟨rfl, rfl, rfl, rfl, rfl, trivial⟩
  have l64 := r10.lt; have l65 := r4.lt
  refine ZR.alloc ([Value.nilFunc, Value.nilFunc, Value.nilFunc, Value.nilFunc]) rfl rfl rfl rfl rfl rfl ?_
  intro W67 g68 eg68 r69 z70 b66
  replace h48 := h48.up b66; replace b46 := Zu b46 b66; replace b43 := Zu b43 b66; replace r10 := r10.up b66; replace b7 := Zu b7 b66; replace r4 := r4.up b66; replace b1 := Zu b1 b66; replace q := Zu q b66; replace hok := Zh hok b66; have y71 := hok.size
  refine ⟨hok, ?_⟩
  refine AA.one 3 (by kernel_rfl) ?_
  (refine SR.val rfl (R.lookKT rfl rfl zKeys (by rfl) (z := kdZ) (by kernel_rfl) (by assumption) k rfl hkF) rfl rfl hok ?_)
  refine AA.pure 4 rfl hok (by kernel_rfl) (fun w' b' => R.move rfl rfl) rfl rfl ?_
  refine AA.pure 5 rfl hok (by kernel_rfl) (fun w' b' => R.extract rfl rfl rfl) rfl rfl ?_
  refine AA.pure 6 rfl hok (by kernel_rfl) (fun w' b' => R.extract rfl rfl rfl) rfl rfl ?_
  refine AA.one 8 (by kernel_rfl) ?_
  refine ZR.storeN (vs := [fnV f1, fnV f2, fnV f3, fnV f4]) rfl rfl rfl rfl rfl r69 (by exact Nat.le_of_ble_eq_true rfl) (ones_of rfl) rfl rfl ?_
  intro W73 r74 b72 z75
  have hlb72 := r69.lt
  replace r74 : RowL W73 _ 140 [fnV f1, fnV f2, fnV f3, fnV f4] := r74
  clear r69
  replace b66 := Zg b66 b72; replace b46 := Zg b46 b72; replace b43 := Zg b43 b72; replace r10 := Zd r10 b72; replace b7 := Zg b7 b72; replace r4 := Zd r4 b72; replace b1 := Zg b1 b72; replace q := Zg q b72; replace hok := Zo hok b72
  have r69 := r74
  clear r74
  refine ⟨hok, ?_⟩
  refine AA.pure 9 rfl hok (by kernel_rfl) (fun w' b' => R.assign rfl rfl) rfl rfl ?_
  refine AA.done rfl ?_
  clear fzr10 fzr4 hok
  exact EE.weak (J35 _ _ ⟨_, rfl, (by first | assumption | omega), (by first | assumption | omega), (by first | assumption | omega), (by first | assumption | omega), (by first | assumption | omega), (by first | assumption | omega), (by first | assumption | omega), (by first | assumption | omega), (by first | assumption | omega)⟩) ⟨rfl, rfl, rfl, rfl, rfl, trivial⟩
  have l76 := r10.lt; have l77 := r4.lt
  refine ZR.alloc ([Value.nilFunc, Value.nilFunc, Value.nilFunc, Value.nilFunc]) rfl rfl rfl rfl rfl rfl ?_
  intro W79 g80 eg80 r81 z82 b78
  replace b43 := Zu b43 b78; replace r10 := r10.up b78; replace b7 := Zu b7 b78; replace r4 := r4.up b78; replace b1 := Zu b1 b78; replace q := Zu q b78; replace hok := Zh hok b78; have y83 := hok.size
  refine ⟨hok, ?_⟩
  refine AA.one 0 (by kernel_rfl) ?_
  refine SR.call rfl (R.call rfl rfl rfl) rfl rfl (kinds_any _) ?_
  rintro e W85 ⟨g87, k88, rfl, h86, b84⟩
  have zb84 := b84.size; replace r81 := r81.up b84; replace b78 := Zu b78 b84; replace b43 := Zu b43 b84; replace r10 := r10.up b84; replace b7 := Zu b7 b84; replace r4 := r4.up b84; replace b1 := Zu b1 b84; replace q := Zu q b84; replace hok := Zh hok b84; have y89 := hok.size
  refine ⟨_, rfl, hok, ?_⟩
  refine AA.one 3 (by kernel_rfl) ?_
  (refine SR.val rfl (R.lookKT rfl rfl zKeys (by rfl) (z := kdZ) (by kernel_rfl) (by assumption) k rfl hkF) rfl rfl hok ?_)
  refine AA.pure 4 rfl hok (by kernel_rfl) (fun w' b' => R.move rfl rfl) rfl rfl ?_
  refine AA.pure 5 rfl hok (by kernel_rfl) (fun w' b' => R.extract rfl rfl rfl) rfl rfl ?_
  refine AA.pure 6 rfl hok (by kernel_rfl) (fun w' b' => R.extract rfl rfl rfl) rfl rfl ?_
  refine AA.one 8 (by kernel_rfl) ?_
  refine ZR.storeN (vs := [fnV f1, fnV f2, fnV f3, fnV f4]) rfl rfl rfl rfl rfl r81 (by exact Nat.le_of_ble_eq_true rfl) (ones_of rfl) rfl rfl ?_
  intro W91 r92 b90 z93
  have hlb90 := r81.lt
  replace r92 : RowL W91 _ 140 [fnV f1, fnV f2, fnV f3, fnV f4] := r92
  clear r81
  replace b78 := Zg b78 b90; replace b43 := Zg b43 b90; replace r10 := Zd r10 b90; replace b7 := Zg b7 b90; replace r4 := Zd r4 b90; replace b1 := Zg b1 b90; replace q := Zg q b90; replace hok := Zo hok b90
  have r81 := r92
  clear r92
  refine ⟨hok, ?_⟩
  refine AA.pure 9 rfl hok (by kernel_rfl) (fun w' b' => R.assign rfl rfl) rfl rfl ?_
  refine AA.done rfl ?_
  clear fzr10 fzr4 hok
  exact EE.weak (J35 _ _ ⟨_, rfl, (by first | assumption | omega), (by first | assumption | omega), (by first | assumption | omega), (by first | assumption | omega), (by first | assumption | omega), (by first | assumption | omega), (by first | assumption | omega), (by first | assumption | omega), (by first | assumption | omega)⟩) ⟨rfl, rfl, rfl, rfl, rfl, trivial⟩
theorem check_gN (k l z r p : Int) (t : Bs) (x : Option Addr) (n c : Nat) (w : World) (f1 f2 f3 f4 : Nat) (hkF : kindsF k = some (f1, f2, f3, f4)) (e1 : entB Tryz.prog f1 = true) (e2 : entB Tryz.prog f2 = true) (k' l' z' r' p' : Int) (t' : Bs) (x' : Option Addr) (n' c' : Nat) (cN : ∀ W, Calls Tryz.prog f1 #[inV k l z (.slice x n c) r p t] W fun e w' => e = .returned (inV k' l' z' (.slice x' n' c') r' p' t') ∧ Below W.heap.size W w') (hl : 0 ≤ l ∧ l ≤ 65535) (hsm : ∀ W, Below w.heap.size w W → Calls Tryz.prog 131 #[inV k l z (.slice x n c) r p t, inV k' l' z' (.slice x' n' c') r' p' t'] W fun e w' => e = .returned (.bool false) ∧ Below W.heap.size W w') : Calls Tryz.prog 117 #[inV k l z (.slice x n c) r p t] w fun e w' => e = .panicked (chain1 refV) ∧ Below w.heap.size w w' := by
  have q := Below.refl w.heap.size w
  refine X.fnP Tryz.func117 rfl (n := 38) rfl rfl ?_
  refine Zr ?_
  refine LL.box [.int .i64 k, .int .i64 l, .int .i64 z, .slice x n c, .int .i64 r, .int .i64 p, strV t] rfl rfl rfl rfl rfl ?_
  intro W2 g3 eg3 r4 z5 b1
  replace q := Zu q b1; have l6 := r4.lt
  refine LL.alloc ([Value.nilFunc, Value.nilFunc, Value.nilFunc, Value.nilFunc]) rfl rfl rfl rfl rfl ?_
  intro W8 g9 eg9 r10 z11 b7
  replace r4 := r4.up b7; replace b1 := Zu b1 b7; replace q := Zu q b7; refine Zq ?_; refine Zc ?_
  refine CC.join (fun l_ W30 => ∃ (g25 : Nat), l_ = [(0, Value.agg #[Value.int IntKind.i64 k, Value.int IntKind.i64 l, Value.int IntKind.i64 z, Value.slice x n c, Value.int IntKind.i64 r, Value.int IntKind.i64 p, strV t]), (1, Value.pointer (some { block := g3, off := 0 })), (2, Value.pointer (some { block := g9, off := 0 })), (3, Value.pointer (some { block := g25, off := 0 })), (4, Value.bool true)] ∧ (Below W8.heap.size W8 W30) ∧ (RowL W30 g9 140 [Value.nilFunc, Value.nilFunc, Value.nilFunc, Value.nilFunc]) ∧ (Below W2.heap.size W2 W30) ∧ (RowL W30 g3 80 [Value.int IntKind.i64 k, Value.int IntKind.i64 l, Value.int IntKind.i64 z, Value.slice x n c, Value.int IntKind.i64 r, Value.int IntKind.i64 p, strV t]) ∧ (Below w.heap.size w W30) ∧ (Below w.heap.size w W30) ∧ (RowL W30 g25 140 [fnV f1, fnV f2, fnV f3, fnV f4]) ∧ (W8.heap.size ≤ W30.heap.size) ∧ (W8.heap.size ≤ g25)) (fun J35 => ?_) ?restJ35
  case' restJ35 =>
    clear r10
    clear b7
    clear r4
    clear b1
    clear q
    rintro _ W30 ⟨g25, rfl, b12, r10, b7, r4, b1, q, r26, z33, z34⟩
  refine ZT ?_; refine Zr ?_; refine Zm ?_; refine Zt ?_; refine Zm ?_; refine Zf ?_; refine Zl r4 ?_
  refine Zy (R.call rfl rfl rfl) (within_T _ _ _ _ (by first | assumption | omega)) ?_
  rintro e W' ⟨rfl, rfl⟩
  refine ⟨_, rfl, ?_⟩; refine Zt ?_; refine Zp ?_
  refine Zy (R.call rfl rfl rfl) (refuse_F _) ?_
  rintro e W' ⟨rfl, rfl⟩
  refine ⟨_, rfl, ?_⟩; refine Zq ?_; refine Zc ?_
  refine CC.growT 15 (by kernel_rfl) (by kernel_rfl) ?_
  refine Gv r4 ?_
  refine Gf ?_
  refine Gl r26 ?_
  refine Gv r4 ?_
  refine GG.call (fun w' => (R.callV rfl rfl rfl e1)) rfl rfl (fun w' b' => (cN w').mono fun e W' h => ⟨h.1, b'.trans (h.2.mono b'.size)⟩) ?_
  refine Gc (fun w' b' => hsm w' (q.trans (b'.mono q.size))) ?_
  refine Gt ?_
  refine Gm ?_
  refine GG.skip rfl rfl ?_
  refine GG.skip rfl rfl ?_
  refine GG.skip rfl rfl ?_
  refine GG.skip rfl rfl ?_
  refine GG.skip rfl rfl ?_
  refine GG.skip rfl rfl ?_
  refine GG.val (fun w' b' => R.pick rfl rfl rfl) rfl rfl ?_
  refine GG.nil (fun W40 b39 => ?_)
  have zb39 := b39.size; replace b12 := Zu b12 b39; replace r10 := r10.up b39; replace b7 := Zu b7 b39; replace r4 := r4.up b39; replace b1 := Zu b1 b39; replace q := Zu q b39; replace r26 := r26.up b39
  refine LL.callP (R.call rfl rfl rfl) rfl rfl (refuse_T _) ?_
  rintro e W42 ⟨rfl, rfl⟩
  refine ⟨_, rfl, ?_⟩; refine EE.thenP ?_; refine EE.panM ?_
  exact ⟨rfl, q⟩
  refine CC.freeZ (fun W_ j => j < W_.heap.size ∧ (True)) (by kernel_rfl) (by kernel_rfl) (fun W44 b43 z45 => ?_)
  replace r10 := r10.up b43; replace b7 := Zu b7 b43; replace r4 := r4.up b43; replace b1 := Zu b1 b43; replace q := Zu q b43
  have hok : Kept (fun j => j < W44.heap.size ∧ (True)) W44 W44 := Kept.refl _ _
  have fzr10 := fzRow (K := fun j => j < W44.heap.size ∧ (True)) r10 ⟨r10.lt, (by first | trivial | omega)⟩
  have fzr4 := fzRow (K := fun j => j < W44.heap.size ∧ (True)) r4 ⟨r4.lt, (by first | trivial | omega)⟩
  refine AA.pure 1 rfl hok (by kernel_rfl) (fun w' b' => R.field rfl rfl (I.fld rfl)) rfl rfl ?_
  refine AA.pure 2 rfl hok (by kernel_rfl) (fun w' b' => R.load rfl rfl (I.ld1 rfl (RowL.cell (fzr4 w' b') rfl))) rfl rfl ?_
  refine AA.two 0 7 (by kernel_rfl) ?_ ?_
  refine SR.call rfl (R.call rfl rfl rfl) rfl rfl (kinds_any _) ?_
  rintro e W47 ⟨g49, k50, rfl, h48, b46⟩
  have zb46 := b46.size; replace b43 := Zu b43 b46; replace r10 := r10.up b46; replace b7 := Zu b7 b46; replace r4 := r4.up b46; replace b1 := Zu b1 b46; replace q := Zu q b46; replace hok := Zh hok b46; have y51 := hok.size
  refine ⟨_, rfl, hok, ?_⟩
  refine AA.two 3 7 (by kernel_rfl) ?_ ?_
  (refine SR.val rfl (R.lookKT rfl rfl zKeys (by rfl) (z := kdZ) (by kernel_rfl) (by assumption) k rfl hkF) rfl rfl hok ?_)
  refine AA.pure 4 rfl hok (by kernel_rfl) (fun w' b' => R.move rfl rfl) rfl rfl ?_
  refine AA.pure 5 rfl hok (by kernel_rfl) (fun w' b' => R.extract rfl rfl rfl) rfl rfl ?_
  refine AA.pure 6 rfl hok (by kernel_rfl) (fun w' b' => R.extract rfl rfl rfl) rfl rfl ?_
  refine AA.one 7 (by kernel_rfl) ?_
  have l52 := r10.lt; have l53 := r4.lt
  refine ZR.alloc ([Value.nilFunc, Value.nilFunc, Value.nilFunc, Value.nilFunc]) rfl rfl rfl rfl rfl rfl ?_
  intro W55 g56 eg56 r57 z58 b54
  replace h48 := h48.up b54; replace b46 := Zu b46 b54; replace b43 := Zu b43 b54; replace r10 := r10.up b54; replace b7 := Zu b7 b54; replace r4 := r4.up b54; replace b1 := Zu b1 b54; replace q := Zu q b54; replace hok := Zh hok b54; have y59 := hok.size
  refine ⟨hok, ?_⟩
  refine AA.one 8 (by kernel_rfl) ?_
  refine ZR.storeN (vs := [fnV f1, fnV f2, fnV f3, fnV f4]) rfl rfl rfl rfl rfl r57 (by exact Nat.le_of_ble_eq_true rfl) (ones_of rfl) rfl rfl ?_
  intro W61 r62 b60 z63
  have hlb60 := r57.lt
  replace r62 : RowL W61 _ 140 [fnV f1, fnV f2, fnV f3, fnV f4] := r62
  clear r57
  replace b54 := Zg b54 b60; replace b46 := Zg b46 b60; replace b43 := Zg b43 b60; replace r10 := Zd r10 b60; replace b7 := Zg b7 b60; replace r4 := Zd r4 b60; replace b1 := Zg b1 b60; replace q := Zg q b60; replace hok := Zo hok b60
  have r57 := r62
  clear r62
  refine ⟨hok, ?_⟩
  refine AA.pure 9 rfl hok (by kernel_rfl) (fun w' b' => R.assign rfl rfl) rfl rfl ?_
  refine AA.done rfl ?_
  clear fzr10 fzr4 hok
  exact EE.weak (J35 _ _ ⟨_, rfl, (by first | assumption | omega), (by first | assumption | omega), (by first | assumption | omega), (by first | assumption | omega), (by first | assumption | omega), (by first | assumption | omega), (by first | assumption | omega), (by first | assumption | omega), (by first | assumption | omega)⟩) ⟨rfl, rfl, rfl, rfl, rfl, trivial⟩
  have l64 := r10.lt; have l65 := r4.lt
  refine ZR.alloc ([Value.nilFunc, Value.nilFunc, Value.nilFunc, Value.nilFunc]) rfl rfl rfl rfl rfl rfl ?_
  intro W67 g68 eg68 r69 z70 b66
  replace h48 := h48.up b66; replace b46 := Zu b46 b66; replace b43 := Zu b43 b66; replace r10 := r10.up b66; replace b7 := Zu b7 b66; replace r4 := r4.up b66; replace b1 := Zu b1 b66; replace q := Zu q b66; replace hok := Zh hok b66; have y71 := hok.size
  refine ⟨hok, ?_⟩
  refine AA.one 3 (by kernel_rfl) ?_
  (refine SR.val rfl (R.lookKT rfl rfl zKeys (by rfl) (z := kdZ) (by kernel_rfl) (by assumption) k rfl hkF) rfl rfl hok ?_)
  refine AA.pure 4 rfl hok (by kernel_rfl) (fun w' b' => R.move rfl rfl) rfl rfl ?_
  refine AA.pure 5 rfl hok (by kernel_rfl) (fun w' b' => R.extract rfl rfl rfl) rfl rfl ?_
  refine AA.pure 6 rfl hok (by kernel_rfl) (fun w' b' => R.extract rfl rfl rfl) rfl rfl ?_
  refine AA.one 8 (by kernel_rfl) ?_
  refine ZR.storeN (vs := [fnV f1, fnV f2, fnV f3, fnV f4]) rfl rfl rfl rfl rfl r69 (by exact Nat.le_of_ble_eq_true rfl) (ones_of rfl) rfl rfl ?_
  intro W73 r74 b72 z75
  have hlb72 := r69.lt
  replace r74 : RowL W73 _ 140 [fnV f1, fnV f2, fnV f3, fnV f4] := r74
  clear r69
  replace b66 := Zg b66 b72; replace b46 := Zg b46 b72; replace b43 := Zg b43 b72; replace r10 := Zd r10 b72; replace b7 := Zg b7 b72; replace r4 := Zd r4 b72; replace b1 := Zg b1 b72; replace q := Zg q b72; replace hok := Zo hok b72
  have r69 := r74
  clear r74
  refine ⟨hok, ?_⟩
  refine AA.pure 9 rfl hok (by kernel_rfl) (fun w' b' => R.assign rfl rfl) rfl rfl ?_
  refine AA.done rfl ?_
  clear fzr10 fzr4 hok
  exact EE.weak (J35 _ _ ⟨_, rfl, (by first | assumption | omega), (by first | assumption | omega), (by first | assumption | omega), (by first | assumption | omega), (by first | assumption | omega), (by first | assumption | omega), (by first | assumption | omega), (by first | assumption | omega), (by first | assumption | omega)⟩) ⟨rfl, rfl, rfl, rfl, rfl, trivial⟩
  have l76 := r10.lt; have l77 := r4.lt
  refine ZR.alloc ([Value.nilFunc, Value.nilFunc, Value.nilFunc, Value.nilFunc]) rfl rfl rfl rfl rfl rfl ?_
  intro W79 g80 eg80 r81 z82 b78
  replace b43 := Zu b43 b78; replace r10 := r10.up b78; replace b7 := Zu b7 b78; replace r4 := r4.up b78; replace b1 := Zu b1 b78; replace q := Zu q b78; replace hok := Zh hok b78; have y83 := hok.size
  refine ⟨hok, ?_⟩
  refine AA.one 0 (by kernel_rfl) ?_
  refine SR.call rfl (R.call rfl rfl rfl) rfl rfl (kinds_any _) ?_
  rintro e W85 ⟨g87, k88, rfl, h86, b84⟩
  have zb84 := b84.size; replace r81 := r81.up b84; replace b78 := Zu b78 b84; replace b43 := Zu b43 b84; replace r10 := r10.up b84; replace b7 := Zu b7 b84; replace r4 := r4.up b84; replace b1 := Zu b1 b84; replace q := Zu q b84; replace hok := Zh hok b84; have y89 := hok.size
  refine ⟨_, rfl, hok, ?_⟩
  refine AA.one 3 (by kernel_rfl) ?_
  (refine SR.val rfl (R.lookKT rfl rfl zKeys (by rfl) (z := kdZ) (by kernel_rfl) (by assumption) k rfl hkF) rfl rfl hok ?_)
  refine AA.pure 4 rfl hok (by kernel_rfl) (fun w' b' => R.move rfl rfl) rfl rfl ?_
  refine AA.pure 5 rfl hok (by kernel_rfl) (fun w' b' => R.extract rfl rfl rfl) rfl rfl ?_
  refine AA.pure 6 rfl hok (by kernel_rfl) (fun w' b' => R.extract rfl rfl rfl) rfl rfl ?_
  refine AA.one 8 (by kernel_rfl) ?_
  refine ZR.storeN (vs := [fnV f1, fnV f2, fnV f3, fnV f4]) rfl rfl rfl rfl rfl r81 (by exact Nat.le_of_ble_eq_true rfl) (ones_of rfl) rfl rfl ?_
  intro W91 r92 b90 z93
  have hlb90 := r81.lt
  replace r92 : RowL W91 _ 140 [fnV f1, fnV f2, fnV f3, fnV f4] := r92
  clear r81
  replace b78 := Zg b78 b90; replace b43 := Zg b43 b90; replace r10 := Zd r10 b90; replace b7 := Zg b7 b90; replace r4 := Zd r4 b90; replace b1 := Zg b1 b90; replace q := Zg q b90; replace hok := Zo hok b90
  have r81 := r92
  clear r92
  refine ⟨hok, ?_⟩
  refine AA.pure 9 rfl hok (by kernel_rfl) (fun w' b' => R.assign rfl rfl) rfl rfl ?_
  refine AA.done rfl ?_
  clear fzr10 fzr4 hok
  exact EE.weak (J35 _ _ ⟨_, rfl, (by first | assumption | omega), (by first | assumption | omega), (by first | assumption | omega), (by first | assumption | omega), (by first | assumption | omega), (by first | assumption | omega), (by first | assumption | omega), (by first | assumption | omega), (by first | assumption | omega)⟩) ⟨rfl, rfl, rfl, rfl, rfl, trivial⟩
theorem check_gL (k l z r p : Int) (t : Bs) (x : Option Addr) (n c : Nat) (w : World) (f1 f2 f3 f4 : Nat) (hkF : kindsF k = some (f1, f2, f3, f4)) (e1 : entB Tryz.prog f1 = true) (e2 : entB Tryz.prog f2 = true) (hl : l < 0 ∨ 65535 < l) : Calls Tryz.prog 117 #[inV k l z (.slice x n c) r p t] w fun e w' => e = .panicked (chain1 refV) ∧ Below w.heap.size w w' := by
  have q := Below.refl w.heap.size w
  refine X.fnP Tryz.func117 rfl (n := 38) rfl rfl ?_
  refine Zr ?_
  refine LL.box [.int .i64 k, .int .i64 l, .int .i64 z, .slice x n c, .int .i64 r, .int .i64 p, strV t] rfl rfl rfl rfl rfl ?_
  intro W2 g3 eg3 r4 z5 b1
  replace q := Zu q b1; have l6 := r4.lt
  refine LL.alloc ([Value.nilFunc, Value.nilFunc, Value.nilFunc, Value.nilFunc]) rfl rfl rfl rfl rfl ?_
  intro W8 g9 eg9 r10 z11 b7
  replace r4 := r4.up b7; replace b1 := Zu b1 b7; replace q := Zu q b7; refine Zq ?_; refine Zc ?_
  refine CC.join (fun l_ W30 => ∃ (g25 : Nat), l_ = [(0, Value.agg #[Value.int IntKind.i64 k, Value.int IntKind.i64 l, Value.int IntKind.i64 z, Value.slice x n c, Value.int IntKind.i64 r, Value.int IntKind.i64 p, strV t]), (1, Value.pointer (some { block := g3, off := 0 })), (2, Value.pointer (some { block := g9, off := 0 })), (3, Value.pointer (some { block := g25, off := 0 })), (4, Value.bool true)] ∧ (Below W8.heap.size W8 W30) ∧ (RowL W30 g9 140 [Value.nilFunc, Value.nilFunc, Value.nilFunc, Value.nilFunc]) ∧ (Below W2.heap.size W2 W30) ∧ (RowL W30 g3 80 [Value.int IntKind.i64 k, Value.int IntKind.i64 l, Value.int IntKind.i64 z, Value.slice x n c, Value.int IntKind.i64 r, Value.int IntKind.i64 p, strV t]) ∧ (Below w.heap.size w W30) ∧ (Below w.heap.size w W30) ∧ (RowL W30 g25 140 [fnV f1, fnV f2, fnV f3, fnV f4]) ∧ (W8.heap.size ≤ W30.heap.size) ∧ (W8.heap.size ≤ g25)) (fun J35 => ?_) ?restJ35
  case' restJ35 =>
    clear r10
    clear b7
    clear r4
    clear b1
    clear q
    rintro _ W30 ⟨g25, rfl, b12, r10, b7, r4, b1, q, r26, z33, z34⟩
  refine ZT ?_; refine Zr ?_; refine Zm ?_; refine Zt ?_; refine Zm ?_; refine Zf ?_; refine Zl r4 ?_
  refine Zy (R.call rfl rfl rfl) (within_F _ _ _ _ (by first | assumption | omega)) ?_
  rintro e W' ⟨rfl, rfl⟩
  refine ⟨_, rfl, ?_⟩; refine Zt ?_; refine Zp ?_
  refine LL.callP (R.call rfl rfl rfl) rfl rfl (refuse_T _) ?_
  rintro e W37 ⟨rfl, rfl⟩
  refine ⟨_, rfl, ?_⟩; refine EE.thenP ?_; refine EE.panM ?_
  exact ⟨rfl, q⟩
  refine CC.freeZ (fun W_ j => j < W_.heap.size ∧ (True)) (by kernel_rfl) (by kernel_rfl) (fun W39 b38 z40 => ?_)
  replace r10 := r10.up b38; replace b7 := Zu b7 b38; replace r4 := r4.up b38; replace b1 := Zu b1 b38; replace q := Zu q b38
  have hok : Kept (fun j => j < W39.heap.size ∧ (True)) W39 W39 := Kept.refl _ _
  have fzr10 := fzRow (K := fun j => j < W39.heap.size ∧ (True)) r10 ⟨r10.lt, (by first | trivial | omega)⟩
  have fzr4 := fzRow (K := fun j => j < W39.heap.size ∧ (True)) r4 ⟨r4.lt, (by first | trivial | omega)⟩
  refine AA.pure 1 rfl hok (by kernel_rfl) (fun w' b' => R.field rfl rfl (I.fld rfl)) rfl rfl ?_
  refine AA.pure 2 rfl hok (by kernel_rfl) (fun w' b' => R.load rfl rfl (I.ld1 rfl (RowL.cell (fzr4 w' b') rfl))) rfl rfl ?_
  refine AA.two 0 7 (by kernel_rfl) ?_ ?_
  refine SR.call rfl (R.call rfl rfl rfl) rfl rfl (kinds_any _) ?_
  rintro e W42 ⟨g44, k45, rfl, h43, b41⟩
  have zb41 := b41.size; replace b38 := Zu b38 b41; replace r10 := r10.up b41; replace b7 := Zu b7 b41; replace r4 := r4.up b41; replace b1 := Zu b1 b41; replace q := Zu q b41; replace hok := Zh hok b41; have y46 := hok.size
  refine ⟨_, rfl, hok, ?_⟩
  refine AA.two 3 7 (by kernel_rfl) ?_ ?_
  (refine SR.val rfl (R.lookKT rfl rfl zKeys (by rfl) (z := kdZ) (by kernel_rfl) (by assumption) k rfl hkF) rfl rfl hok ?_)
  refine AA.pure 4 rfl hok (by kernel_rfl) (fun w' b' => R.move rfl rfl) rfl rfl ?_
  refine AA.pure 5 rfl hok (by kernel_rfl) (fun w' b' => R.extract rfl rfl rfl) rfl rfl ?_
  refine AA.pure 6 rfl hok (by kernel_rfl) (fun w' b' => R.extract rfl rfl rfl) rfl rfl ?_
  refine AA.one 7 (by kernel_rfl) ?_
  have l47 := r10.lt; have l48 := r4.lt
  refine ZR.alloc ([Value.nilFunc, Value.nilFunc, Value.nilFunc, Value.nilFunc]) rfl rfl rfl rfl rfl rfl ?_
  intro W50 g51 eg51 r52 z53 b49
  replace h43 := h43.up b49; replace b41 := Zu b41 b49; replace b38 := Zu b38 b49; replace r10 := r10.up b49; replace b7 := Zu b7 b49; replace r4 := r4.up b49; replace b1 := Zu b1 b49; replace q := Zu q b49; replace hok := Zh hok b49; have y54 := hok.size
  refine ⟨hok, ?_⟩
  refine AA.one 8 (by kernel_rfl) ?_
  refine ZR.storeN (vs := [fnV f1, fnV f2, fnV f3, fnV f4]) rfl rfl rfl rfl rfl r52 (by exact Nat.le_of_ble_eq_true rfl) (ones_of rfl) rfl rfl ?_
  intro W56 r57 b55 z58
  have hlb55 := r52.lt
  replace r57 : RowL W56 _ 140 [fnV f1, fnV f2, fnV f3, fnV f4] := r57
  clear r52
  replace b49 := Zg b49 b55; replace b41 := Zg b41 b55; replace b38 := Zg b38 b55; replace r10 := Zd r10 b55; replace b7 := Zg b7 b55; replace r4 := Zd r4 b55; replace b1 := Zg b1 b55; replace q := Zg q b55; replace hok := Zo hok b55
  have r52 := r57
  clear r57
  refine ⟨hok, ?_⟩
  refine AA.pure 9 rfl hok (by kernel_rfl) (fun w' b' => R.assign rfl rfl) rfl rfl ?_
  refine AA.done rfl ?_
  clear fzr10 fzr4 hok
  exact EE.weak (J35 _ _ ⟨_, rfl, (by first | assumption | omega), (by first | assumption | omega), (by first | assumption | omega), (by first | assumption | omega), (by first | assumption | omega), (by first | assumption | omega), (by first | assumption | omega), (by first | assumption | omega), (by first | assumption | omega)⟩) ⟨rfl, rfl, rfl, rfl, rfl, trivial⟩
  have l59 := r10.lt; have l60 := r4.lt
  refine ZR.alloc ([Value.nilFunc, Value.nilFunc, Value.nilFunc, Value.nilFunc]) rfl rfl rfl rfl rfl rfl ?_
  intro W62 g63 eg63 r64 z65 b61
  replace h43 := h43.up b61; replace b41 := Zu b41 b61; replace b38 := Zu b38 b61; replace r10 := r10.up b61; replace b7 := Zu b7 b61; replace r4 := r4.up b61; replace b1 := Zu b1 b61; replace q := Zu q b61; replace hok := Zh hok b61; have y66 := hok.size
  refine ⟨hok, ?_⟩
  refine AA.one 3 (by kernel_rfl) ?_
  (refine SR.val rfl (R.lookKT rfl rfl zKeys (by rfl) (z := kdZ) (by kernel_rfl) (by assumption) k rfl hkF) rfl rfl hok ?_)
  refine AA.pure 4 rfl hok (by kernel_rfl) (fun w' b' => R.move rfl rfl) rfl rfl ?_
  refine AA.pure 5 rfl hok (by kernel_rfl) (fun w' b' => R.extract rfl rfl rfl) rfl rfl ?_
  refine AA.pure 6 rfl hok (by kernel_rfl) (fun w' b' => R.extract rfl rfl rfl) rfl rfl ?_
  refine AA.one 8 (by kernel_rfl) ?_
  refine ZR.storeN (vs := [fnV f1, fnV f2, fnV f3, fnV f4]) rfl rfl rfl rfl rfl r64 (by exact Nat.le_of_ble_eq_true rfl) (ones_of rfl) rfl rfl ?_
  intro W68 r69 b67 z70
  have hlb67 := r64.lt
  replace r69 : RowL W68 _ 140 [fnV f1, fnV f2, fnV f3, fnV f4] := r69
  clear r64
  replace b61 := Zg b61 b67; replace b41 := Zg b41 b67; replace b38 := Zg b38 b67; replace r10 := Zd r10 b67; replace b7 := Zg b7 b67; replace r4 := Zd r4 b67; replace b1 := Zg b1 b67; replace q := Zg q b67; replace hok := Zo hok b67
  have r64 := r69
  clear r69
  refine ⟨hok, ?_⟩
  refine AA.pure 9 rfl hok (by kernel_rfl) (fun w' b' => R.assign rfl rfl) rfl rfl ?_
  refine AA.done rfl ?_
  clear fzr10 fzr4 hok
  exact EE.weak (J35 _ _ ⟨_, rfl, (by first | assumption | omega), (by first | assumption | omega), (by first | assumption | omega), (by first | assumption | omega), (by first | assumption | omega), (by first | assumption | omega), (by first | assumption | omega), (by first | assumption | omega), (by first | assumption | omega)⟩) ⟨rfl, rfl, rfl, rfl, rfl, trivial⟩
  have l71 := r10.lt; have l72 := r4.lt
  refine ZR.alloc ([Value.nilFunc, Value.nilFunc, Value.nilFunc, Value.nilFunc]) rfl rfl rfl rfl rfl rfl ?_
  intro W74 g75 eg75 r76 z77 b73
  replace b38 := Zu b38 b73; replace r10 := r10.up b73; replace b7 := Zu b7 b73; replace r4 := r4.up b73; replace b1 := Zu b1 b73; replace q := Zu q b73; replace hok := Zh hok b73; have y78 := hok.size
  refine ⟨hok, ?_⟩
  refine AA.one 0 (by kernel_rfl) ?_
  refine SR.call rfl (R.call rfl rfl rfl) rfl rfl (kinds_any _) ?_
  rintro e W80 ⟨g82, k83, rfl, h81, b79⟩
  have zb79 := b79.size; replace r76 := r76.up b79; replace b73 := Zu b73 b79; replace b38 := Zu b38 b79; replace r10 := r10.up b79; replace b7 := Zu b7 b79; replace r4 := r4.up b79; replace b1 := Zu b1 b79; replace q := Zu q b79; replace hok := Zh hok b79; have y84 := hok.size
  refine ⟨_, rfl, hok, ?_⟩
  refine AA.one 3 (by kernel_rfl) ?_
  (refine SR.val rfl (R.lookKT rfl rfl zKeys (by rfl) (z := kdZ) (by kernel_rfl) (by assumption) k rfl hkF) rfl rfl hok ?_)
  refine AA.pure 4 rfl hok (by kernel_rfl) (fun w' b' => R.move rfl rfl) rfl rfl ?_
  refine AA.pure 5 rfl hok (by kernel_rfl) (fun w' b' => R.extract rfl rfl rfl) rfl rfl ?_
  refine AA.pure 6 rfl hok (by kernel_rfl) (fun w' b' => R.extract rfl rfl rfl) rfl rfl ?_
  refine AA.one 8 (by kernel_rfl) ?_
  refine ZR.storeN (vs := [fnV f1, fnV f2, fnV f3, fnV f4]) rfl rfl rfl rfl rfl r76 (by exact Nat.le_of_ble_eq_true rfl) (ones_of rfl) rfl rfl ?_
  intro W86 r87 b85 z88
  have hlb85 := r76.lt
  replace r87 : RowL W86 _ 140 [fnV f1, fnV f2, fnV f3, fnV f4] := r87
  clear r76
  replace b73 := Zg b73 b85; replace b38 := Zg b38 b85; replace r10 := Zd r10 b85; replace b7 := Zg b7 b85; replace r4 := Zd r4 b85; replace b1 := Zg b1 b85; replace q := Zg q b85; replace hok := Zo hok b85
  have r76 := r87
  clear r87
  refine ⟨hok, ?_⟩
  refine AA.pure 9 rfl hok (by kernel_rfl) (fun w' b' => R.assign rfl rfl) rfl rfl ?_
  refine AA.done rfl ?_
  clear fzr10 fzr4 hok
  exact EE.weak (J35 _ _ ⟨_, rfl, (by first | assumption | omega), (by first | assumption | omega), (by first | assumption | omega), (by first | assumption | omega), (by first | assumption | omega), (by first | assumption | omega), (by first | assumption | omega), (by first | assumption | omega), (by first | assumption | omega)⟩) ⟨rfl, rfl, rfl, rfl, rfl, trivial⟩
theorem check0_T (x : Option Addr) (n c : Nat) (m : List Ex) (w : World) (hv : ReadsT eE 3 w (.slice x n c) m) (hlen : m.length ≤ 1048576) (hm0 : m = []) : Calls Tryz.prog 117 #[inV 0 0 0 (.slice x n c) 0 0 []] w fun e w' => e = .returned (kdV kd0) ∧ Below w.heap.size w w' := by
  have hsm : true = true ↔ sameI 0 0 0 m 0 0 [] 0 0 0 [] 0 0 [] := ⟨fun _ => ⟨rfl, rfl, rfl, hm0, rfl, rfl, rfl⟩, fun _ => rfl⟩
  exact check_gT 0 0 0 0 0 [] x n c w _ _ _ _ kF_0 (by kernel_rfl) (by kernel_rfl) 0 0 0 0 0 [] none 0 0 (fun W => nm0_any 0 0 0 (.slice x n c) 0 0 [] W) (by decide) (fun W b => insame_any 0 0 0 (.slice x n c) m 0 0 [] 0 0 0 (.slice none 0 0) [] 0 0 [] W (hv.up b) (ReadsT.nil _) hlen (by decide) true hsm) (fun W _ => my0_any _ _ _ _ _ _ _ W ⟨_, _, _, rfl⟩)
theorem check1_T (l z : Int) (x : Option Addr) (n c : Nat) (m : List Ex) (w : World) (hv : ReadsT eE 3 w (.slice x n c) m) (hl : 0 ≤ l ∧ l ≤ 65535) (h : okF z m) : Calls Tryz.prog 117 #[inV 1 l z (.slice x n c) 0 0 []] w fun e w' => e = .returned (kdV kd1) ∧ Below w.heap.size w w' := by
  have hlen : m.length ≤ 1048576 := by have := h.2.1.1; omega
  have hsm : true = true ↔ sameI 1 l z m 0 0 [] 1 l z m 0 0 [] := ⟨fun _ => ⟨rfl, rfl, rfl, rfl, rfl, rfl, rfl⟩, fun _ => rfl⟩
  exact check_gT 1 l z 0 0 [] x n c w _ _ _ _ kF_1 (by kernel_rfl) (by kernel_rfl) 1 l z 0 0 [] x n c (fun W => nm1_any 1 l z (.slice x n c) 0 0 [] W ⟨_, _, _, rfl⟩) hl (fun W b => insame_any 1 l z (.slice x n c) m 0 0 [] 1 l z (.slice x n c) m 0 0 [] W (hv.up b) (hv.up b) hlen hlen true hsm) (fun W b => my1_any _ _ _ _ _ _ _ _ _ m W (hv.up b) h.1 h.2.1 true ⟨fun _ => h.2.2, fun _ => rfl⟩)
theorem check2_T (l r p : Int) (x : Option Addr) (n c : Nat) (m : List Ex) (w : World) (hv : ReadsT eE 3 w (.slice x n c) m) (hlen : m.length ≤ 1048576) (hm0 : m = []) (hl : 0 ≤ l ∧ l ≤ 65535) (hmy : (1 ≤ r ∧ r ≤ 2047) ∧ 1 ≤ p ∧ p ≤ 256) : Calls Tryz.prog 117 #[inV 2 l 0 (.slice x n c) r p []] w fun e w' => e = .returned (kdV kd2) ∧ Below w.heap.size w w' := by
  have hsm : true = true ↔ sameI 2 l 0 m r p [] 2 l 0 [] r p [] := ⟨fun _ => ⟨rfl, rfl, rfl, hm0, rfl, rfl, rfl⟩, fun _ => rfl⟩
  exact check_gT 2 l 0 r p [] x n c w _ _ _ _ kF_2 (by kernel_rfl) (by kernel_rfl) 2 l 0 r p [] none 0 0 (fun W => nm2_any 2 l 0 (.slice x n c) r p [] W ⟨_, _, _, rfl⟩) hl (fun W b => insame_any 2 l 0 (.slice x n c) m r p [] 2 l 0 (.slice none 0 0) [] r p [] W (hv.up b) (ReadsT.nil _) hlen (by decide) true hsm) (fun W _ => my2_T _ _ _ _ _ _ _ W ⟨_, _, _, rfl⟩ hmy)
theorem check3_T (l : Int) (t : Bs) (x : Option Addr) (n c : Nat) (m : List Ex) (w : World) (hv : ReadsT eE 3 w (.slice x n c) m) (hlen : m.length ≤ 1048576) (hm0 : m = []) (hl : 0 ≤ l ∧ l ≤ 65535) (hmy : (1 ≤ t.length ∧ t.length ≤ 112) ∧ (0 : UInt8) ∉ t) : Calls Tryz.prog 117 #[inV 3 l 0 (.slice x n c) 0 0 t] w fun e w' => e = .returned (kdV kd3) ∧ Below w.heap.size w w' := by
  have hsm : true = true ↔ sameI 3 l 0 m 0 0 t 3 l 0 [] 0 0 t := ⟨fun _ => ⟨rfl, rfl, rfl, hm0, rfl, rfl, rfl⟩, fun _ => rfl⟩
  exact check_gT 3 l 0 0 0 t x n c w _ _ _ _ kF_3 (by kernel_rfl) (by kernel_rfl) 3 l 0 0 0 t none 0 0 (fun W => nm3_any 3 l 0 (.slice x n c) 0 0 t W ⟨_, _, _, rfl⟩) hl (fun W b => insame_any 3 l 0 (.slice x n c) m 0 0 t 3 l 0 (.slice none 0 0) [] 0 0 t W (hv.up b) (ReadsT.nil _) hlen (by decide) true hsm) (fun W _ => my3_T _ _ _ _ _ _ _ W ⟨_, _, _, rfl⟩ hmy)
theorem checkK_F (k l z r p : Int) (t : Bs) (x : Option Addr) (n c : Nat) (m : List Ex) (w : World) (hv : ReadsT eE 3 w (.slice x n c) m) (hlen : m.length ≤ 1048576) (hk : k < 0 ∨ 3 < k) : Calls Tryz.prog 117 #[inV k l z (.slice x n c) r p t] w fun e w' => e = .panicked (chain1 refV) ∧ Below w.heap.size w w' := by
  have q := Below.refl w.heap.size w
  have kN := kinds_none hk
  refine X.fnP Tryz.func117 rfl (n := 38) rfl rfl ?_
  refine Zr ?_
  refine LL.box [.int .i64 k, .int .i64 l, .int .i64 z, .slice x n c, .int .i64 r, .int .i64 p, strV t] rfl rfl rfl rfl rfl ?_
  intro W2 g3 eg3 r4 z5 b1
  replace hv := hv.up b1; replace q := Zu q b1; have l6 := r4.lt
  refine LL.alloc ([Value.nilFunc, Value.nilFunc, Value.nilFunc, Value.nilFunc]) rfl rfl rfl rfl rfl ?_
  intro W8 g9 eg9 r10 z11 b7
  replace r4 := r4.up b7; replace b1 := Zu b1 b7; replace hv := hv.up b7; replace q := Zu q b7; refine Zq ?_; refine Zc ?_
  refine CC.join (fun l_ W30 => ∃ (g25 : Nat), l_ = [(0, Value.agg #[Value.int IntKind.i64 k, Value.int IntKind.i64 l, Value.int IntKind.i64 z, Value.slice x n c, Value.int IntKind.i64 r, Value.int IntKind.i64 p, strV t]), (1, Value.pointer (some { block := g3, off := 0 })), (2, Value.pointer (some { block := g9, off := 0 })), (3, Value.pointer (some { block := g25, off := 0 })), (4, Value.bool false)] ∧ (Below W8.heap.size W8 W30) ∧ (RowL W30 g9 140 [Value.nilFunc, Value.nilFunc, Value.nilFunc, Value.nilFunc]) ∧ (Below W2.heap.size W2 W30) ∧ (RowL W30 g3 80 [Value.int IntKind.i64 k, Value.int IntKind.i64 l, Value.int IntKind.i64 z, Value.slice x n c, Value.int IntKind.i64 r, Value.int IntKind.i64 p, strV t]) ∧ (Below w.heap.size w W30) ∧ (Below w.heap.size w W30) ∧ (RowL W30 g25 140 [Value.nilFunc, Value.nilFunc, Value.nilFunc, Value.nilFunc]) ∧ (W8.heap.size ≤ W30.heap.size) ∧ (W8.heap.size ≤ g25)) (fun J35 => ?_) ?restJ35
  case' restJ35 =>
    clear r10
    clear b7
    clear r4
    clear b1
    clear q
    rintro _ W30 ⟨g25, rfl, b12, r10, b7, r4, b1, q, r26, z33, z34⟩
  refine ZT ?_; refine Zr ?_; refine Zm ?_; refine Zt ?_; refine Zm ?_; refine Zs ?_; refine Zs ?_; refine Zs ?_; refine Zs ?_; refine Zp ?_
  refine LL.callP (R.call rfl rfl rfl) rfl rfl (refuse_T _) ?_
  rintro e W37 ⟨rfl, rfl⟩
  refine ⟨_, rfl, ?_⟩; refine EE.thenP ?_; refine EE.panM ?_
  exact ⟨rfl, q⟩
  refine CC.freeZ (fun W_ j => j < W_.heap.size ∧ (True)) (by kernel_rfl) (by kernel_rfl) (fun W39 b38 z40 => ?_)
  replace r10 := r10.up b38; replace b7 := Zu b7 b38; replace r4 := r4.up b38; replace b1 := Zu b1 b38; replace hv := hv.up b38; replace q := Zu q b38
  have hok : Kept (fun j => j < W39.heap.size ∧ (True)) W39 W39 := Kept.refl _ _
  have fzr10 := fzRow (K := fun j => j < W39.heap.size ∧ (True)) r10 ⟨r10.lt, (by first | trivial | omega)⟩
  have fzr4 := fzRow (K := fun j => j < W39.heap.size ∧ (True)) r4 ⟨r4.lt, (by first | trivial | omega)⟩
  refine AA.pure 1 rfl hok (by kernel_rfl) (fun w' b' => R.field rfl rfl (I.fld rfl)) rfl rfl ?_
  refine AA.pure 2 rfl hok (by kernel_rfl) (fun w' b' => R.load rfl rfl (I.ld1 rfl (RowL.cell (fzr4 w' b') rfl))) rfl rfl ?_
  refine AA.two 0 7 (by kernel_rfl) ?_ ?_
  refine SR.call rfl (R.call rfl rfl rfl) rfl rfl (kinds_any _) ?_
  rintro e W42 ⟨g44, k45, rfl, h43, b41⟩
  have zb41 := b41.size; replace b38 := Zu b38 b41; replace r10 := r10.up b41; replace b7 := Zu b7 b41; replace r4 := r4.up b41; replace b1 := Zu b1 b41; replace hv := hv.up b41; replace q := Zu q b41; replace hok := Zh hok b41; have y46 := hok.size
  refine ⟨_, rfl, hok, ?_⟩
  refine AA.two 3 7 (by kernel_rfl) ?_ ?_
  (refine SR.val rfl (R.lookKF rfl rfl zKeys (by rfl) (z := kdZ) (by kernel_rfl) (by assumption) k rfl kN) rfl rfl hok ?_)
  refine AA.pure 4 rfl hok (by kernel_rfl) (fun w' b' => R.move rfl rfl) rfl rfl ?_
  refine AA.pure 5 rfl hok (by kernel_rfl) (fun w' b' => R.extract rfl rfl rfl) rfl rfl ?_
  refine AA.pure 6 rfl hok (by kernel_rfl) (fun w' b' => R.extract rfl rfl rfl) rfl rfl ?_
  refine AA.one 7 (by kernel_rfl) ?_
  have l47 := r10.lt; have l48 := r4.lt
  refine ZR.alloc ([Value.nilFunc, Value.nilFunc, Value.nilFunc, Value.nilFunc]) rfl rfl rfl rfl rfl rfl ?_
  intro W50 g51 eg51 r52 z53 b49
  replace h43 := h43.up b49; replace b41 := Zu b41 b49; replace b38 := Zu b38 b49; replace r10 := r10.up b49; replace b7 := Zu b7 b49; replace r4 := r4.up b49; replace b1 := Zu b1 b49; replace hv := hv.up b49; replace q := Zu q b49; replace hok := Zh hok b49; have y54 := hok.size
  refine ⟨hok, ?_⟩
  refine AA.one 8 (by kernel_rfl) ?_
  refine ZR.storeN (vs := [Value.nilFunc, Value.nilFunc, Value.nilFunc, Value.nilFunc]) rfl rfl rfl rfl rfl r52 (by exact Nat.le_of_ble_eq_true rfl) (ones_of rfl) rfl rfl ?_
  intro W56 r57 b55 z58
  have hlb55 := r52.lt
  replace r57 : RowL W56 _ 140 [Value.nilFunc, Value.nilFunc, Value.nilFunc, Value.nilFunc] := r57
  clear r52
  replace b49 := Zg b49 b55; replace b41 := Zg b41 b55; replace b38 := Zg b38 b55; replace r10 := Zd r10 b55; replace b7 := Zg b7 b55; replace r4 := Zd r4 b55; replace b1 := Zg b1 b55; replace q := Zg q b55; replace hok := Zo hok b55
  have r52 := r57
  clear r57
  refine ⟨hok, ?_⟩
  refine AA.pure 9 rfl hok (by kernel_rfl) (fun w' b' => R.assign rfl rfl) rfl rfl ?_
  refine AA.done rfl ?_
  clear fzr10 fzr4 hok
  exact EE.weak (J35 _ _ ⟨_, rfl, (by first | assumption | omega), (by first | assumption | omega), (by first | assumption | omega), (by first | assumption | omega), (by first | assumption | omega), (by first | assumption | omega), (by first | assumption | omega), (by first | assumption | omega), (by first | assumption | omega)⟩) ⟨rfl, rfl, rfl, rfl, rfl, trivial⟩
  have l59 := r10.lt; have l60 := r4.lt
  refine ZR.alloc ([Value.nilFunc, Value.nilFunc, Value.nilFunc, Value.nilFunc]) rfl rfl rfl rfl rfl rfl ?_
  intro W62 g63 eg63 r64 z65 b61
  replace h43 := h43.up b61; replace b41 := Zu b41 b61; replace b38 := Zu b38 b61; replace r10 := r10.up b61; replace b7 := Zu b7 b61; replace r4 := r4.up b61; replace b1 := Zu b1 b61; replace hv := hv.up b61; replace q := Zu q b61; replace hok := Zh hok b61; have y66 := hok.size
  refine ⟨hok, ?_⟩
  refine AA.one 3 (by kernel_rfl) ?_
  (refine SR.val rfl (R.lookKF rfl rfl zKeys (by rfl) (z := kdZ) (by kernel_rfl) (by assumption) k rfl kN) rfl rfl hok ?_)
  refine AA.pure 4 rfl hok (by kernel_rfl) (fun w' b' => R.move rfl rfl) rfl rfl ?_
  refine AA.pure 5 rfl hok (by kernel_rfl) (fun w' b' => R.extract rfl rfl rfl) rfl rfl ?_
  refine AA.pure 6 rfl hok (by kernel_rfl) (fun w' b' => R.extract rfl rfl rfl) rfl rfl ?_
  refine AA.one 8 (by kernel_rfl) ?_
  refine ZR.storeN (vs := [Value.nilFunc, Value.nilFunc, Value.nilFunc, Value.nilFunc]) rfl rfl rfl rfl rfl r64 (by exact Nat.le_of_ble_eq_true rfl) (ones_of rfl) rfl rfl ?_
  intro W68 r69 b67 z70
  have hlb67 := r64.lt
  replace r69 : RowL W68 _ 140 [Value.nilFunc, Value.nilFunc, Value.nilFunc, Value.nilFunc] := r69
  clear r64
  replace b61 := Zg b61 b67; replace b41 := Zg b41 b67; replace b38 := Zg b38 b67; replace r10 := Zd r10 b67; replace b7 := Zg b7 b67; replace r4 := Zd r4 b67; replace b1 := Zg b1 b67; replace q := Zg q b67; replace hok := Zo hok b67
  have r64 := r69
  clear r69
  refine ⟨hok, ?_⟩
  refine AA.pure 9 rfl hok (by kernel_rfl) (fun w' b' => R.assign rfl rfl) rfl rfl ?_
  refine AA.done rfl ?_
  clear fzr10 fzr4 hok
  exact EE.weak (J35 _ _ ⟨_, rfl, (by first | assumption | omega), (by first | assumption | omega), (by first | assumption | omega), (by first | assumption | omega), (by first | assumption | omega), (by first | assumption | omega), (by first | assumption | omega), (by first | assumption | omega), (by first | assumption | omega)⟩) ⟨rfl, rfl, rfl, rfl, rfl, trivial⟩
  have l71 := r10.lt; have l72 := r4.lt
  refine ZR.alloc ([Value.nilFunc, Value.nilFunc, Value.nilFunc, Value.nilFunc]) rfl rfl rfl rfl rfl rfl ?_
  intro W74 g75 eg75 r76 z77 b73
  replace b38 := Zu b38 b73; replace r10 := r10.up b73; replace b7 := Zu b7 b73; replace r4 := r4.up b73; replace b1 := Zu b1 b73; replace hv := hv.up b73; replace q := Zu q b73; replace hok := Zh hok b73; have y78 := hok.size
  refine ⟨hok, ?_⟩
  refine AA.one 0 (by kernel_rfl) ?_
  refine SR.call rfl (R.call rfl rfl rfl) rfl rfl (kinds_any _) ?_
  rintro e W80 ⟨g82, k83, rfl, h81, b79⟩
  have zb79 := b79.size; replace r76 := r76.up b79; replace b73 := Zu b73 b79; replace b38 := Zu b38 b79; replace r10 := r10.up b79; replace b7 := Zu b7 b79; replace r4 := r4.up b79; replace b1 := Zu b1 b79; replace hv := hv.up b79; replace q := Zu q b79; replace hok := Zh hok b79; have y84 := hok.size
  refine ⟨_, rfl, hok, ?_⟩
  refine AA.one 3 (by kernel_rfl) ?_
  (refine SR.val rfl (R.lookKF rfl rfl zKeys (by rfl) (z := kdZ) (by kernel_rfl) (by assumption) k rfl kN) rfl rfl hok ?_)
  refine AA.pure 4 rfl hok (by kernel_rfl) (fun w' b' => R.move rfl rfl) rfl rfl ?_
  refine AA.pure 5 rfl hok (by kernel_rfl) (fun w' b' => R.extract rfl rfl rfl) rfl rfl ?_
  refine AA.pure 6 rfl hok (by kernel_rfl) (fun w' b' => R.extract rfl rfl rfl) rfl rfl ?_
  refine AA.one 8 (by kernel_rfl) ?_
  refine ZR.storeN (vs := [Value.nilFunc, Value.nilFunc, Value.nilFunc, Value.nilFunc]) rfl rfl rfl rfl rfl r76 (by exact Nat.le_of_ble_eq_true rfl) (ones_of rfl) rfl rfl ?_
  intro W86 r87 b85 z88
  have hlb85 := r76.lt
  replace r87 : RowL W86 _ 140 [Value.nilFunc, Value.nilFunc, Value.nilFunc, Value.nilFunc] := r87
  clear r76
  replace b73 := Zg b73 b85; replace b38 := Zg b38 b85; replace r10 := Zd r10 b85; replace b7 := Zg b7 b85; replace r4 := Zd r4 b85; replace b1 := Zg b1 b85; replace q := Zg q b85; replace hok := Zo hok b85
  have r76 := r87
  clear r87
  refine ⟨hok, ?_⟩
  refine AA.pure 9 rfl hok (by kernel_rfl) (fun w' b' => R.assign rfl rfl) rfl rfl ?_
  refine AA.done rfl ?_
  clear fzr10 fzr4 hok
  exact EE.weak (J35 _ _ ⟨_, rfl, (by first | assumption | omega), (by first | assumption | omega), (by first | assumption | omega), (by first | assumption | omega), (by first | assumption | omega), (by first | assumption | omega), (by first | assumption | omega), (by first | assumption | omega), (by first | assumption | omega)⟩) ⟨rfl, rfl, rfl, rfl, rfl, trivial⟩
theorem check0_L (l z r p : Int) (t : Bs) (x : Option Addr) (n c : Nat) (m : List Ex) (w : World) (hv : ReadsT eE 3 w (.slice x n c) m) (hlen : m.length ≤ 1048576) (hl : l < 0 ∨ 65535 < l) : Calls Tryz.prog 117 #[inV 0 l z (.slice x n c) r p t] w fun e w' => e = .panicked (chain1 refV) ∧ Below w.heap.size w w' :=
  check_gL 0 l z r p t x n c w _ _ _ _ kF_0 (by kernel_rfl) (by kernel_rfl) hl
theorem check0_N (l z r p : Int) (t : Bs) (x : Option Addr) (n c : Nat) (m : List Ex) (w : World) (hv : ReadsT eE 3 w (.slice x n c) m) (hlen : m.length ≤ 1048576) (hl : 0 ≤ l ∧ l ≤ 65535) (hn : ¬sameI 0 l z m r p t 0 0 0 [] 0 0 []) : Calls Tryz.prog 117 #[inV 0 l z (.slice x n c) r p t] w fun e w' => e = .panicked (chain1 refV) ∧ Below w.heap.size w w' := by
  have hsm : false = true ↔ sameI 0 l z m r p t 0 0 0 [] 0 0 [] := ⟨fun h => (by cases h), fun h => absurd h hn⟩
  exact check_gN 0 l z r p t x n c w _ _ _ _ kF_0 (by kernel_rfl) (by kernel_rfl) 0 0 0 0 0 [] none 0 0 (fun W => nm0_any 0 l z (.slice x n c) r p t W) hl (fun W b => insame_any 0 l z (.slice x n c) m r p t 0 0 0 (.slice none 0 0) [] 0 0 [] W (hv.up b) (ReadsT.nil _) hlen (by decide) false hsm)
theorem check1_L (l z r p : Int) (t : Bs) (x : Option Addr) (n c : Nat) (m : List Ex) (w : World) (hv : ReadsT eE 3 w (.slice x n c) m) (hlen : m.length ≤ 1048576) (hl : l < 0 ∨ 65535 < l) : Calls Tryz.prog 117 #[inV 1 l z (.slice x n c) r p t] w fun e w' => e = .panicked (chain1 refV) ∧ Below w.heap.size w w' :=
  check_gL 1 l z r p t x n c w _ _ _ _ kF_1 (by kernel_rfl) (by kernel_rfl) hl
theorem check1_N (l z r p : Int) (t : Bs) (x : Option Addr) (n c : Nat) (m : List Ex) (w : World) (hv : ReadsT eE 3 w (.slice x n c) m) (hlen : m.length ≤ 1048576) (hl : 0 ≤ l ∧ l ≤ 65535) (hn : ¬sameI 1 l z m r p t 1 l z m 0 0 []) : Calls Tryz.prog 117 #[inV 1 l z (.slice x n c) r p t] w fun e w' => e = .panicked (chain1 refV) ∧ Below w.heap.size w w' := by
  have hsm : false = true ↔ sameI 1 l z m r p t 1 l z m 0 0 [] := ⟨fun h => (by cases h), fun h => absurd h hn⟩
  exact check_gN 1 l z r p t x n c w _ _ _ _ kF_1 (by kernel_rfl) (by kernel_rfl) 1 l z 0 0 [] x n c (fun W => nm1_any 1 l z (.slice x n c) r p t W ⟨_, _, _, rfl⟩) hl (fun W b => insame_any 1 l z (.slice x n c) m r p t 1 l z (.slice x n c) m 0 0 [] W (hv.up b) (hv.up b) hlen hlen false hsm)
theorem check2_L (l z r p : Int) (t : Bs) (x : Option Addr) (n c : Nat) (m : List Ex) (w : World) (hv : ReadsT eE 3 w (.slice x n c) m) (hlen : m.length ≤ 1048576) (hl : l < 0 ∨ 65535 < l) : Calls Tryz.prog 117 #[inV 2 l z (.slice x n c) r p t] w fun e w' => e = .panicked (chain1 refV) ∧ Below w.heap.size w w' :=
  check_gL 2 l z r p t x n c w _ _ _ _ kF_2 (by kernel_rfl) (by kernel_rfl) hl
theorem check2_N (l z r p : Int) (t : Bs) (x : Option Addr) (n c : Nat) (m : List Ex) (w : World) (hv : ReadsT eE 3 w (.slice x n c) m) (hlen : m.length ≤ 1048576) (hl : 0 ≤ l ∧ l ≤ 65535) (hn : ¬sameI 2 l z m r p t 2 l 0 [] r p []) : Calls Tryz.prog 117 #[inV 2 l z (.slice x n c) r p t] w fun e w' => e = .panicked (chain1 refV) ∧ Below w.heap.size w w' := by
  have hsm : false = true ↔ sameI 2 l z m r p t 2 l 0 [] r p [] := ⟨fun h => (by cases h), fun h => absurd h hn⟩
  exact check_gN 2 l z r p t x n c w _ _ _ _ kF_2 (by kernel_rfl) (by kernel_rfl) 2 l 0 r p [] none 0 0 (fun W => nm2_any 2 l z (.slice x n c) r p t W ⟨_, _, _, rfl⟩) hl (fun W b => insame_any 2 l z (.slice x n c) m r p t 2 l 0 (.slice none 0 0) [] r p [] W (hv.up b) (ReadsT.nil _) hlen (by decide) false hsm)
theorem check3_L (l z r p : Int) (t : Bs) (x : Option Addr) (n c : Nat) (m : List Ex) (w : World) (hv : ReadsT eE 3 w (.slice x n c) m) (hlen : m.length ≤ 1048576) (hl : l < 0 ∨ 65535 < l) : Calls Tryz.prog 117 #[inV 3 l z (.slice x n c) r p t] w fun e w' => e = .panicked (chain1 refV) ∧ Below w.heap.size w w' :=
  check_gL 3 l z r p t x n c w _ _ _ _ kF_3 (by kernel_rfl) (by kernel_rfl) hl
theorem check3_N (l z r p : Int) (t : Bs) (x : Option Addr) (n c : Nat) (m : List Ex) (w : World) (hv : ReadsT eE 3 w (.slice x n c) m) (hlen : m.length ≤ 1048576) (hl : 0 ≤ l ∧ l ≤ 65535) (hn : ¬sameI 3 l z m r p t 3 l 0 [] 0 0 t) : Calls Tryz.prog 117 #[inV 3 l z (.slice x n c) r p t] w fun e w' => e = .panicked (chain1 refV) ∧ Below w.heap.size w w' := by
  have hsm : false = true ↔ sameI 3 l z m r p t 3 l 0 [] 0 0 t := ⟨fun h => (by cases h), fun h => absurd h hn⟩
  exact check_gN 3 l z r p t x n c w _ _ _ _ kF_3 (by kernel_rfl) (by kernel_rfl) 3 l 0 0 0 t none 0 0 (fun W => nm3_any 3 l z (.slice x n c) r p t W ⟨_, _, _, rfl⟩) hl (fun W b => insame_any 3 l z (.slice x n c) m r p t 3 l 0 (.slice none 0 0) [] 0 0 t W (hv.up b) (ReadsT.nil _) hlen (by decide) false hsm)
theorem check1_M (l z : Int) (x : Option Addr) (n c : Nat) (m : List Ex) (w : World) (hv : ReadsT eE 3 w (.slice x n c) m) (hlen : m.length ≤ 1048576) (hl : 0 ≤ l ∧ l ≤ 65535) (hn : ¬okF z m) : Calls Tryz.prog 117 #[inV 1 l z (.slice x n c) 0 0 []] w fun e w' => e = .panicked (chain1 refV) ∧ Below w.heap.size w w' := by
  have hsm : true = true ↔ sameI 1 l z m 0 0 [] 1 l z m 0 0 [] := ⟨fun _ => ⟨rfl, rfl, rfl, rfl, rfl, rfl, rfl⟩, fun _ => rfl⟩
  have hmy : ∀ W, Below w.heap.size w W → Calls Tryz.prog 101 #[inV 1 l z (.slice x n c) 0 0 []] W fun e w' => e = .returned (.bool false) ∧ Below W.heap.size W w' := fun W b => by
    by_cases hz : 0 ≤ z ∧ z ≤ 65536
    · by_cases hm : vL m
      · exact my1_any _ _ _ _ _ _ _ _ _ m W (hv.up b) hz hm false ⟨fun h => (by cases h), fun h => absurd ⟨hz, hm, h⟩ hn⟩
      · exact my1_bad _ _ _ _ _ _ _ _ _ m W (hv.up b) hlen (.inr (.inr hm))
    · exact my1_bad _ _ _ _ _ _ _ _ _ m W (hv.up b) hlen (by omega)
  exact check_gM 1 l z 0 0 [] x n c w _ _ _ _ kF_1 (by kernel_rfl) (by kernel_rfl) 1 l z 0 0 [] x n c (fun W => nm1_any 1 l z (.slice x n c) 0 0 [] W ⟨_, _, _, rfl⟩) hl (fun W b => insame_any 1 l z (.slice x n c) m 0 0 [] 1 l z (.slice x n c) m 0 0 [] W (hv.up b) (hv.up b) hlen hlen true hsm) hmy
theorem check2_M (l r p : Int) (x : Option Addr) (n c : Nat) (m : List Ex) (w : World) (hv : ReadsT eE 3 w (.slice x n c) m) (hlen : m.length ≤ 1048576) (hm0 : m = []) (hl : 0 ≤ l ∧ l ≤ 65535) (hmy : ¬((1 ≤ r ∧ r ≤ 2047) ∧ 1 ≤ p ∧ p ≤ 256)) : Calls Tryz.prog 117 #[inV 2 l 0 (.slice x n c) r p []] w fun e w' => e = .panicked (chain1 refV) ∧ Below w.heap.size w w' := by
  have hsm : true = true ↔ sameI 2 l 0 m r p [] 2 l 0 [] r p [] := ⟨fun _ => ⟨rfl, rfl, rfl, hm0, rfl, rfl, rfl⟩, fun _ => rfl⟩
  exact check_gM 2 l 0 r p [] x n c w _ _ _ _ kF_2 (by kernel_rfl) (by kernel_rfl) 2 l 0 r p [] none 0 0 (fun W => nm2_any 2 l 0 (.slice x n c) r p [] W ⟨_, _, _, rfl⟩) hl (fun W b => insame_any 2 l 0 (.slice x n c) m r p [] 2 l 0 (.slice none 0 0) [] r p [] W (hv.up b) (ReadsT.nil _) hlen (by decide) true hsm) (fun W _ => my2_F _ _ _ _ _ _ _ W ⟨_, _, _, rfl⟩ hmy)
theorem check3_M (l : Int) (t : Bs) (x : Option Addr) (n c : Nat) (m : List Ex) (w : World) (hv : ReadsT eE 3 w (.slice x n c) m) (hlen : m.length ≤ 1048576) (hm0 : m = []) (hl : 0 ≤ l ∧ l ≤ 65535) (htl : t.length ≤ 1048576) (hmy : ¬((1 ≤ t.length ∧ t.length ≤ 112) ∧ (0 : UInt8) ∉ t)) : Calls Tryz.prog 117 #[inV 3 l 0 (.slice x n c) 0 0 t] w fun e w' => e = .panicked (chain1 refV) ∧ Below w.heap.size w w' := by
  have hsm : true = true ↔ sameI 3 l 0 m 0 0 t 3 l 0 [] 0 0 t := ⟨fun _ => ⟨rfl, rfl, rfl, hm0, rfl, rfl, rfl⟩, fun _ => rfl⟩
  exact check_gM 3 l 0 0 0 t x n c w _ _ _ _ kF_3 (by kernel_rfl) (by kernel_rfl) 3 l 0 0 0 t none 0 0 (fun W => nm3_any 3 l 0 (.slice x n c) 0 0 t W ⟨_, _, _, rfl⟩) hl (fun W b => insame_any 3 l 0 (.slice x n c) m 0 0 t 3 l 0 (.slice none 0 0) [] 0 0 t W (hv.up b) (ReadsT.nil _) hlen (by decide) true hsm) (fun W _ => my3_F _ _ _ _ _ _ _ W ⟨_, _, _, rfl⟩ htl hmy)
theorem Tryz.infoU14 : (Tryz.prog.info? 25).map (fun i => (i.zero, i.size, i.bytes)) = some (some (.int .u64 0), 1, 8) := by kernel_rfl
theorem ElU14 : ElT Tryz.prog 33 25 (.int .u64 0) 1 8 := info_parts_t Tryz.underlying33 Tryz.infoU14 rfl
theorem or_add8 {k y : Nat} (h : k < 256) : k ||| 256 * y = k + 256 * y := by
  rw [Nat.or_comm, show 256 * y = 2 ^ 8 * y from rfl, ← Nat.two_pow_add_eq_or_of_lt (show k < 2 ^ 8 from h), Nat.add_comm]
/-- The first word, and noughts. -/
def hdN (k l : Nat) : List Nat := (k + 256 * l) :: List.replicate 15 0
abbrev KW (w : World) (go : Nat) (i : Nat) : Prop := i < w.heap.size ∧ i ≠ go
def wordsP (go : Nat) (ws : List Nat) (w0 : World) (e : Ending) (w : World) : Prop := e = .returned (.tuple #[]) ∧ (∃ gw, RowL w go 33 [.slice (some ⟨gw, 0, none⟩) 16 16] ∧ RowL w gw 25 (ints .u64 ws) ∧ w0.heap.size ≤ gw) ∧ Kept (KW w0 go) w0 w
theorem words1_1 (l z : Nat) (x : Option Addr) (n c : Nat) (m : List Ex) (go gn : Nat) (v0 : Value) (w : World) (hS : Start w) (hv : ReadsT eE 3 w (.slice x n c) m) (hlen : m.length ≤ 1048576) (hl : l ≤ 65535) (h : okF (z : Int) m) (hn : RowL w gn 80 (inL 1 (l : Int) (z : Int) (.slice x n c) 0 0 [])) (ho : RowL w go 33 [v0]) (hne : go ≠ gn ∧ 0 < go) : Calls Tryz.prog 116 #[.pointer (some ⟨gn, 0, none⟩), .pointer (some ⟨go, 0, none⟩)] w (wordsP go (layF (hdN 1 l) z m) w) := by
  unfold wordsP
  have hkk := Kept.refl (KW w go) w
  have lgn := hn.lt; have lgo := ho.lt
  have hS0 := hS.pos
  have hvF : ∀ X, Below w.heap.size w X → ReadsT eE 3 X (.slice x n c) m := fun X b => hv.up b
  have hSF : ∀ X, Below w.heap.size w X → Start X := fun X b => hS.up b
  have q := Below.refl w.heap.size w
  clear hv hS
  refine X.fn Tryz.func116 rfl (n := 25) rfl rfl ?_
  refine Zr ?_; refine Zv hn ?_; have l30 := hn.lt; have l31 := ho.lt
  (refine Zy (R.call rfl rfl rfl) (check1_T _ _ _ _ _ m _ (hvF _ q) (by omega) h) ?_; rintro e W29 ⟨rfl, b26⟩; refine ⟨_, rfl, ?_⟩)
  have zb26 := b26.size; replace hn := hn.up b26; replace ho := ho.up b26; replace hkk := Zh hkk b26; have y35 := hkk.size; replace q := Zu q b26; have l61 := hn.lt; have l62 := ho.lt
  refine LL.alloc ([Value.nilFunc, Value.nilFunc, Value.nilFunc, Value.nilFunc]) rfl rfl rfl rfl rfl ?_
  intro W64 g65 eg65 r66 z67 b63
  replace b26 := Zu b26 b63; replace hn := hn.up b63; replace ho := ho.up b63; replace hkk := Zh hkk b63; have y68 := hkk.size; replace q := Zu q b63
  refine LL.storeN (vs := [fnV kd1.1, fnV kd1.2.1, fnV kd1.2.2.1, fnV kd1.2.2.2]) rfl rfl rfl rfl r66 (by exact Nat.le_of_ble_eq_true rfl) (ones_of rfl) rfl rfl ?_
  intro W97 r98 b96 z99
  have hlb96 := r66.lt
  replace r98 : RowL W97 _ 140 [fnV kd1.1, fnV kd1.2.1, fnV kd1.2.2.1, fnV kd1.2.2.2] := r98
  clear r66
  replace b63 := Zg b63 b96; replace b26 := Zg b26 b96; replace hn := Zd hn b96; replace ho := Zd ho b96; replace hkk := Zo hkk b96; replace q := Zg q b96
  have r66 := r98
  clear r98
  refine Zq ?_; refine Zr ?_; have l114 := hn.lt; have l115 := ho.lt; have l116 := r66.lt
  (refine LL.makeE (l := 16) (m := 16) ElU14 rfl (by decide) rfl rfl rfl (Nat.le_refl _) (by decide) (by decide) rfl rfl ?_; intro W113 g1 eg1 r1 zg1 b110; replace r1 : RowL W113 g1 25 (ints .u64 (List.replicate 16 0)) := r1)
  have zb110 := b110.size; replace b63 := Zu b63 b110; replace b26 := Zu b26 b110; replace hn := hn.up b110; replace ho := ho.up b110; replace hkk := Zh hkk b110; have y120 := hkk.size; replace q := Zu q b110; replace r66 := r66.up b110; have l150 := r1.lt; have l151 := hn.lt; have l152 := ho.lt; have l153 := r66.lt
  refine LL.alloc ([.slice none 0 0]) rfl rfl rfl rfl rfl ?_
  intro W155 g156 eg156 r157 z158 b154
  replace b110 := Zu b110 b154; replace r1 := r1.up b154; replace b63 := Zu b63 b154; replace b26 := Zu b26 b154; replace hn := hn.up b154; replace ho := ho.up b154; replace hkk := Zh hkk b154; have y159 := hkk.size; replace q := Zu q b154; replace r66 := r66.up b154
  refine LL.store rfl rfl rfl rfl r157 (by exact Nat.le_of_ble_eq_true rfl) rfl rfl rfl rfl ?_
  intro W192 r193 b191 z194
  have hlb191 := r157.lt
  replace r193 : RowL W192 _ 33 [.slice (some { block := g1, off := 0 }) 16 16] := r193
  clear r157
  replace b110 := Zg b110 b191; replace r1 := Zd r1 b191; replace b63 := Zg b63 b191; replace b26 := Zg b26 b191; replace hn := Zd hn b191; replace ho := Zd ho b191; replace hkk := Zo hkk b191; replace q := Zg q b191; replace r66 := Zd r66 b191
  have r157 := r193
  clear r193
  refine Zq ?_; refine Zr ?_; refine Zl r157 ?_; refine Zf ?_; refine Zl hn ?_
  refine LL.val (R.convI rfl rfl rfl rfl (wrapU (by omega) (by omega))) rfl rfl rfl ?_
  refine Zf ?_; refine Zl hn ?_
  refine LL.val (R.convI rfl rfl rfl rfl (wrapU (by omega) (by omega))) rfl rfl rfl ?_
  refine LL.val (R.shlE (b := 8) (z := 256 * l) rfl rfl rfl (by decide) (by omega) (by omega)) rfl rfl rfl ?_
  refine LL.val (R.orE (a := 1) (b := 256 * l) (z := 1 + 256 * l) rfl rfl rfl (by decide) (by omega) (or_add8 (by decide))) rfl rfl rfl ?_
  refine Zi ?_
  refine LL.store rfl rfl rfl rfl r1 (by exact Nat.le_of_ble_eq_true rfl) rfl rfl rfl rfl ?_
  intro W499 r500 b498 z501
  have hlb498 := r1.lt
  replace r500 : RowL W499 _ 25 [Value.int IntKind.u64 ↑(1 + 256 * l), (fun n => Value.int IntKind.u64 ↑n) 0, (fun n => Value.int IntKind.u64 ↑n) 0, (fun n => Value.int IntKind.u64 ↑n) 0, (fun n => Value.int IntKind.u64 ↑n) 0, (fun n => Value.int IntKind.u64 ↑n) 0, (fun n => Value.int IntKind.u64 ↑n) 0, (fun n => Value.int IntKind.u64 ↑n) 0, (fun n => Value.int IntKind.u64 ↑n) 0, (fun n => Value.int IntKind.u64 ↑n) 0, (fun n => Value.int IntKind.u64 ↑n) 0, (fun n => Value.int IntKind.u64 ↑n) 0, (fun n => Value.int IntKind.u64 ↑n) 0, (fun n => Value.int IntKind.u64 ↑n) 0, (fun n => Value.int IntKind.u64 ↑n) 0, (fun n => Value.int IntKind.u64 ↑n) 0] := r500
  clear r1
  replace b110 := Zg b110 b498; replace b63 := Zg b63 b498; replace b26 := Zg b26 b498; replace hn := Zd hn b498; replace ho := Zd ho b498; replace hkk := Zo hkk b498; replace q := Zg q b498; replace r66 := Zd r66 b498; replace r157 := Zd r157 b498
  have r1 := r500
  clear r500
  refine Zq ?_; refine Zr ?_; have l533 := hn.lt; have l534 := ho.lt; have l535 := r66.lt; have l536 := r157.lt; have l537 := r1.lt
  refine LL.alloc ([.int .i64 0]) rfl rfl rfl rfl rfl ?_
  intro W539 g540 eg540 r541 z542 b538
  replace b110 := Zu b110 b538; replace b63 := Zu b63 b538; replace b26 := Zu b26 b538; replace hn := hn.up b538; replace ho := ho.up b538; replace hkk := Zh hkk b538; have y543 := hkk.size; replace q := Zu q b538; replace r66 := r66.up b538; replace r157 := r157.up b538; replace r1 := r1.up b538
  refine LL.store rfl rfl rfl rfl r541 (by exact Nat.le_of_ble_eq_true rfl) rfl rfl rfl rfl ?_
  intro W578 r579 b577 z580
  have hlb577 := r541.lt
  replace r579 : RowL W578 _ 3 [.int .i64 1] := r579
  clear r541
  replace b110 := Zg b110 b577; replace b63 := Zg b63 b577; replace b26 := Zg b26 b577; replace hn := Zd hn b577; replace ho := Zd ho b577; replace hkk := Zo hkk b577; replace q := Zg q b577; replace r66 := Zd r66 b577; replace r157 := Zd r157 b577; replace r1 := Zd r1 b577
  have r541 := r579
  clear r579
  refine Zq ?_; refine Zr ?_; refine Zf ?_; refine Zl r66 ?_; refine Zv hn ?_
  refine LL.val (R.buildV rfl rfl (v := .agg #[Value.int IntKind.i64 1, Value.int IntKind.i64 ↑l, Value.int IntKind.i64 ↑z, Value.slice x n c, Value.int IntKind.i64 0, Value.int IntKind.i64 0, strV []]) (fun _ => by kernel_rfl)) rfl rfl rfl ?_
  refine LL.val (R.func rfl rfl rfl) rfl rfl rfl ?_
  (refine LL.call (R.callV rfl rfl rfl rfl) rfl rfl rfl (ly1_any 1 l z x n c 0 0 [] m _ g1 _ (hdN 1 l) _ (hSF _ q) ⟨by omega, by omega⟩ (hvF _ q) h.2.1 (by have := h.1; omega) ⟨by assumption, by assumption, (show RowL _ g1 25 (ints .u64 (hdN 1 l)) from by assumption), rfl, by omega, by omega, by omega⟩) ?_; rintro e W775 ⟨rfl, ⟨at8, O8⟩, t774⟩; refine ⟨_, rfl, ?_⟩; clear r1; replace hkk := hkk.trans (t774.less fun j hj => ⟨by have := hj.1; omega, by have := hj.1; omega, by have := hj.1; omega⟩); have rv8 := O8.rv; have rw8 := O8.rw_; clear O8)
  have zt774 := t774.size
  replace b110 := t774.onB b110 (fun j hj => ⟨by have := b110.size; omega, by omega⟩)
  replace b63 := t774.onB b63 (fun j hj => ⟨by have := b63.size; omega, by omega⟩)
  replace b26 := t774.onB b26 (fun j hj => ⟨by have := b26.size; omega, by omega⟩)
  replace hn := hn.kept t774 ⟨hn.lt, by omega⟩
  replace ho := ho.kept t774 ⟨ho.lt, by omega⟩
  replace q := t774.onB q (fun j hj => ⟨by have := q.size; omega, by omega⟩)
  replace r66 := r66.kept t774 ⟨r66.lt, by omega⟩
  replace r157 := r157.kept t774 ⟨r157.lt, by omega⟩
  refine Zq ?_; refine CC.region ?_; refine Zl r157 ?_
  refine LL.store rfl rfl rfl rfl ho (by exact Nat.le_of_ble_eq_true rfl) rfl rfl rfl rfl ?_
  intro W846 r847 b845 z848
  have hlb845 := ho.lt
  replace r847 : RowL W846 _ 33 [.slice (some { block := g1, off := 0 }) 16 16] := r847
  clear ho
  replace hkk := Zo hkk b845; replace rv8 := Zd rv8 b845; replace rw8 := Zd rw8 b845; replace hn := Zd hn b845; replace r66 := Zd r66 b845; replace r157 := Zd r157 b845
  have ho := r847
  clear r847
  refine ZL ?_; refine EE.end _ rfl rfl ?_
  exact ⟨rfl, ⟨g1, by assumption, by assumption, by omega⟩, hkk⟩
theorem words1_2 (l r p : Nat) (x : Option Addr) (n c : Nat) (m : List Ex) (go gn : Nat) (v0 : Value) (w : World) (hS : Start w) (hv : ReadsT eE 3 w (.slice x n c) m) (hlen : m.length ≤ 1048576) (hm0 : m = []) (hl : l ≤ 65535) (h : (1 ≤ r ∧ r ≤ 2047) ∧ 1 ≤ p ∧ p ≤ 256) (hn : RowL w gn 80 (inL 2 (l : Int) 0 (.slice x n c) (r : Int) (p : Int) [])) (ho : RowL w go 33 [v0]) (hne : go ≠ gn ∧ 0 < go) : Calls Tryz.prog 116 #[.pointer (some ⟨gn, 0, none⟩), .pointer (some ⟨go, 0, none⟩)] w (wordsP go (layD (hdN 2 l) r p) w) := by
  unfold wordsP
  have hkk := Kept.refl (KW w go) w
  have lgn := hn.lt; have lgo := ho.lt
  have hS0 := hS.pos
  have hvF : ∀ X, Below w.heap.size w X → ReadsT eE 3 X (.slice x n c) m := fun X b => hv.up b
  have hSF : ∀ X, Below w.heap.size w X → Start X := fun X b => hS.up b
  have q := Below.refl w.heap.size w
  clear hv hS
  refine X.fn Tryz.func116 rfl (n := 25) rfl rfl ?_
  refine Zr ?_; refine Zv hn ?_; have l30 := hn.lt; have l31 := ho.lt
  (refine Zy (R.call rfl rfl rfl) (check2_T l r p x n c m _ (hvF _ q) hlen hm0 (by omega) (by omega)) ?_; rintro e W29 ⟨rfl, b26⟩; refine ⟨_, rfl, ?_⟩)
  have zb26 := b26.size; replace hn := hn.up b26; replace ho := ho.up b26; replace hkk := Zh hkk b26; have y35 := hkk.size; replace q := Zu q b26; have l61 := hn.lt; have l62 := ho.lt
  refine LL.alloc ([Value.nilFunc, Value.nilFunc, Value.nilFunc, Value.nilFunc]) rfl rfl rfl rfl rfl ?_
  intro W64 g65 eg65 r66 z67 b63
  replace b26 := Zu b26 b63; replace hn := hn.up b63; replace ho := ho.up b63; replace hkk := Zh hkk b63; have y68 := hkk.size; replace q := Zu q b63
  refine LL.storeN (vs := [fnV kd2.1, fnV kd2.2.1, fnV kd2.2.2.1, fnV kd2.2.2.2]) rfl rfl rfl rfl r66 (by exact Nat.le_of_ble_eq_true rfl) (ones_of rfl) rfl rfl ?_
  intro W97 r98 b96 z99
  have hlb96 := r66.lt
  replace r98 : RowL W97 _ 140 [fnV kd2.1, fnV kd2.2.1, fnV kd2.2.2.1, fnV kd2.2.2.2] := r98
  clear r66
  replace b63 := Zg b63 b96; replace b26 := Zg b26 b96; replace hn := Zd hn b96; replace ho := Zd ho b96; replace hkk := Zo hkk b96; replace q := Zg q b96
  have r66 := r98
  clear r98
  refine Zq ?_; refine Zr ?_; have l114 := hn.lt; have l115 := ho.lt; have l116 := r66.lt
  (refine LL.makeE (l := 16) (m := 16) ElU14 rfl (by decide) rfl rfl rfl (Nat.le_refl _) (by decide) (by decide) rfl rfl ?_; intro W113 g1 eg1 r1 zg1 b110; replace r1 : RowL W113 g1 25 (ints .u64 (List.replicate 16 0)) := r1)
  have zb110 := b110.size; replace b63 := Zu b63 b110; replace b26 := Zu b26 b110; replace hn := hn.up b110; replace ho := ho.up b110; replace hkk := Zh hkk b110; have y120 := hkk.size; replace q := Zu q b110; replace r66 := r66.up b110; have l150 := r1.lt; have l151 := hn.lt; have l152 := ho.lt; have l153 := r66.lt
  refine LL.alloc ([.slice none 0 0]) rfl rfl rfl rfl rfl ?_
  intro W155 g156 eg156 r157 z158 b154
  replace b110 := Zu b110 b154; replace r1 := r1.up b154; replace b63 := Zu b63 b154; replace b26 := Zu b26 b154; replace hn := hn.up b154; replace ho := ho.up b154; replace hkk := Zh hkk b154; have y159 := hkk.size; replace q := Zu q b154; replace r66 := r66.up b154
  refine LL.store rfl rfl rfl rfl r157 (by exact Nat.le_of_ble_eq_true rfl) rfl rfl rfl rfl ?_
  intro W192 r193 b191 z194
  have hlb191 := r157.lt
  replace r193 : RowL W192 _ 33 [.slice (some { block := g1, off := 0 }) 16 16] := r193
  clear r157
  replace b110 := Zg b110 b191; replace r1 := Zd r1 b191; replace b63 := Zg b63 b191; replace b26 := Zg b26 b191; replace hn := Zd hn b191; replace ho := Zd ho b191; replace hkk := Zo hkk b191; replace q := Zg q b191; replace r66 := Zd r66 b191
  have r157 := r193
  clear r193
  refine Zq ?_; refine Zr ?_; refine Zl r157 ?_; refine Zf ?_; refine Zl hn ?_
  refine LL.val (R.convI rfl rfl rfl rfl (wrapU (by omega) (by omega))) rfl rfl rfl ?_
  refine Zf ?_; refine Zl hn ?_
  refine LL.val (R.convI rfl rfl rfl rfl (wrapU (by omega) (by omega))) rfl rfl rfl ?_
  refine LL.val (R.shlE (b := 8) (z := 256 * l) rfl rfl rfl (by decide) (by omega) (by omega)) rfl rfl rfl ?_
  refine LL.val (R.orE (a := 2) (b := 256 * l) (z := 2 + 256 * l) rfl rfl rfl (by decide) (by omega) (or_add8 (by decide))) rfl rfl rfl ?_
  refine Zi ?_
  refine LL.store rfl rfl rfl rfl r1 (by exact Nat.le_of_ble_eq_true rfl) rfl rfl rfl rfl ?_
  intro W499 r500 b498 z501
  have hlb498 := r1.lt
  replace r500 : RowL W499 _ 25 [Value.int IntKind.u64 ↑(2 + 256 * l), (fun n => Value.int IntKind.u64 ↑n) 0, (fun n => Value.int IntKind.u64 ↑n) 0, (fun n => Value.int IntKind.u64 ↑n) 0, (fun n => Value.int IntKind.u64 ↑n) 0, (fun n => Value.int IntKind.u64 ↑n) 0, (fun n => Value.int IntKind.u64 ↑n) 0, (fun n => Value.int IntKind.u64 ↑n) 0, (fun n => Value.int IntKind.u64 ↑n) 0, (fun n => Value.int IntKind.u64 ↑n) 0, (fun n => Value.int IntKind.u64 ↑n) 0, (fun n => Value.int IntKind.u64 ↑n) 0, (fun n => Value.int IntKind.u64 ↑n) 0, (fun n => Value.int IntKind.u64 ↑n) 0, (fun n => Value.int IntKind.u64 ↑n) 0, (fun n => Value.int IntKind.u64 ↑n) 0] := r500
  clear r1
  replace b110 := Zg b110 b498; replace b63 := Zg b63 b498; replace b26 := Zg b26 b498; replace hn := Zd hn b498; replace ho := Zd ho b498; replace hkk := Zo hkk b498; replace q := Zg q b498; replace r66 := Zd r66 b498; replace r157 := Zd r157 b498
  have r1 := r500
  clear r500
  refine Zq ?_; refine Zr ?_; have l533 := hn.lt; have l534 := ho.lt; have l535 := r66.lt; have l536 := r157.lt; have l537 := r1.lt
  refine LL.alloc ([.int .i64 0]) rfl rfl rfl rfl rfl ?_
  intro W539 g540 eg540 r541 z542 b538
  replace b110 := Zu b110 b538; replace b63 := Zu b63 b538; replace b26 := Zu b26 b538; replace hn := hn.up b538; replace ho := ho.up b538; replace hkk := Zh hkk b538; have y543 := hkk.size; replace q := Zu q b538; replace r66 := r66.up b538; replace r157 := r157.up b538; replace r1 := r1.up b538
  refine LL.store rfl rfl rfl rfl r541 (by exact Nat.le_of_ble_eq_true rfl) rfl rfl rfl rfl ?_
  intro W578 r579 b577 z580
  have hlb577 := r541.lt
  replace r579 : RowL W578 _ 3 [.int .i64 1] := r579
  clear r541
  replace b110 := Zg b110 b577; replace b63 := Zg b63 b577; replace b26 := Zg b26 b577; replace hn := Zd hn b577; replace ho := Zd ho b577; replace hkk := Zo hkk b577; replace q := Zg q b577; replace r66 := Zd r66 b577; replace r157 := Zd r157 b577; replace r1 := Zd r1 b577
  have r541 := r579
  clear r579
  refine Zq ?_; refine Zr ?_; refine Zf ?_; refine Zl r66 ?_; refine Zv hn ?_
  refine LL.val (R.buildV rfl rfl (v := .agg #[Value.int IntKind.i64 2, Value.int IntKind.i64 ↑l, Value.int IntKind.i64 0, Value.slice x n c, Value.int IntKind.i64 ↑r, Value.int IntKind.i64 ↑p, strV []]) (fun _ => by kernel_rfl)) rfl rfl rfl ?_
  refine LL.val (R.func rfl rfl rfl) rfl rfl rfl ?_
  (refine LL.call (R.callV rfl rfl rfl rfl) rfl rfl rfl (ly2_any 2 l 0 _ r p [] _ g1 _ (hdN 2 l) _ ⟨_, _, _, rfl⟩ (by omega) (by omega) ⟨by assumption, by assumption, (show RowL _ g1 25 (ints .u64 (hdN 2 l)) from by assumption), rfl, by omega, by omega, by omega⟩) ?_; rintro e W775 ⟨rfl, ⟨at8, O8⟩, t774⟩; refine ⟨_, rfl, ?_⟩; clear r1; replace hkk := hkk.trans (t774.less fun j hj => ⟨by have := hj.1; omega, by have := hj.1; omega, by have := hj.1; omega⟩); have rv8 := O8.rv; have rw8 := O8.rw_; clear O8)
  have zt774 := t774.size
  replace b110 := t774.onB b110 (fun j hj => ⟨by have := b110.size; omega, by omega⟩)
  replace b63 := t774.onB b63 (fun j hj => ⟨by have := b63.size; omega, by omega⟩)
  replace b26 := t774.onB b26 (fun j hj => ⟨by have := b26.size; omega, by omega⟩)
  replace hn := hn.kept t774 ⟨hn.lt, by omega⟩
  replace ho := ho.kept t774 ⟨ho.lt, by omega⟩
  replace q := t774.onB q (fun j hj => ⟨by have := q.size; omega, by omega⟩)
  replace r66 := r66.kept t774 ⟨r66.lt, by omega⟩
  replace r157 := r157.kept t774 ⟨r157.lt, by omega⟩
  refine Zq ?_; refine CC.region ?_; refine Zl r157 ?_
  refine LL.store rfl rfl rfl rfl ho (by exact Nat.le_of_ble_eq_true rfl) rfl rfl rfl rfl ?_
  intro W846 r847 b845 z848
  have hlb845 := ho.lt
  replace r847 : RowL W846 _ 33 [.slice (some { block := g1, off := 0 }) 16 16] := r847
  clear ho
  replace hkk := Zo hkk b845; replace rv8 := Zd rv8 b845; replace rw8 := Zd rw8 b845; replace hn := Zd hn b845; replace r66 := Zd r66 b845; replace r157 := Zd r157 b845
  have ho := r847
  clear r847
  refine ZL ?_; refine EE.end _ rfl rfl ?_
  exact ⟨rfl, ⟨g1, by assumption, by assumption, by omega⟩, hkk⟩
theorem words1_3 (l : Nat) (t : Bs) (x : Option Addr) (n c : Nat) (m : List Ex) (go gn : Nat) (v0 : Value) (w : World) (hS : Start w) (hv : ReadsT eE 3 w (.slice x n c) m) (hlen : m.length ≤ 1048576) (hm0 : m = []) (hl : l ≤ 65535) (h : (1 ≤ t.length ∧ t.length ≤ 112) ∧ (0 : UInt8) ∉ t) (hn : RowL w gn 80 (inL 3 (l : Int) 0 (.slice x n c) 0 0 t)) (ho : RowL w go 33 [v0]) (hne : go ≠ gn ∧ 0 < go) : Calls Tryz.prog 116 #[.pointer (some ⟨gn, 0, none⟩), .pointer (some ⟨go, 0, none⟩)] w (wordsP go (layK (hdN 3 l) t) w) := by
  unfold wordsP
  have hkk := Kept.refl (KW w go) w
  have lgn := hn.lt; have lgo := ho.lt
  have hS0 := hS.pos
  have hvF : ∀ X, Below w.heap.size w X → ReadsT eE 3 X (.slice x n c) m := fun X b => hv.up b
  have hSF : ∀ X, Below w.heap.size w X → Start X := fun X b => hS.up b
  have q := Below.refl w.heap.size w
  clear hv hS
  refine X.fn Tryz.func116 rfl (n := 25) rfl rfl ?_
  refine Zr ?_; refine Zv hn ?_; have l30 := hn.lt; have l31 := ho.lt
  (refine Zy (R.call rfl rfl rfl) (check3_T l t x n c m _ (hvF _ q) hlen hm0 (by omega) h) ?_; rintro e W29 ⟨rfl, b26⟩; refine ⟨_, rfl, ?_⟩)
  have zb26 := b26.size; replace hn := hn.up b26; replace ho := ho.up b26; replace hkk := Zh hkk b26; have y35 := hkk.size; replace q := Zu q b26; have l61 := hn.lt; have l62 := ho.lt
  refine LL.alloc ([Value.nilFunc, Value.nilFunc, Value.nilFunc, Value.nilFunc]) rfl rfl rfl rfl rfl ?_
  intro W64 g65 eg65 r66 z67 b63
  replace b26 := Zu b26 b63; replace hn := hn.up b63; replace ho := ho.up b63; replace hkk := Zh hkk b63; have y68 := hkk.size; replace q := Zu q b63
  refine LL.storeN (vs := [fnV kd3.1, fnV kd3.2.1, fnV kd3.2.2.1, fnV kd3.2.2.2]) rfl rfl rfl rfl r66 (by exact Nat.le_of_ble_eq_true rfl) (ones_of rfl) rfl rfl ?_
  intro W97 r98 b96 z99
  have hlb96 := r66.lt
  replace r98 : RowL W97 _ 140 [fnV kd3.1, fnV kd3.2.1, fnV kd3.2.2.1, fnV kd3.2.2.2] := r98
  clear r66
  replace b63 := Zg b63 b96; replace b26 := Zg b26 b96; replace hn := Zd hn b96; replace ho := Zd ho b96; replace hkk := Zo hkk b96; replace q := Zg q b96
  have r66 := r98
  clear r98
  refine Zq ?_; refine Zr ?_; have l114 := hn.lt; have l115 := ho.lt; have l116 := r66.lt
  (refine LL.makeE (l := 16) (m := 16) ElU14 rfl (by decide) rfl rfl rfl (Nat.le_refl _) (by decide) (by decide) rfl rfl ?_; intro W113 g1 eg1 r1 zg1 b110; replace r1 : RowL W113 g1 25 (ints .u64 (List.replicate 16 0)) := r1)
  have zb110 := b110.size; replace b63 := Zu b63 b110; replace b26 := Zu b26 b110; replace hn := hn.up b110; replace ho := ho.up b110; replace hkk := Zh hkk b110; have y120 := hkk.size; replace q := Zu q b110; replace r66 := r66.up b110; have l150 := r1.lt; have l151 := hn.lt; have l152 := ho.lt; have l153 := r66.lt
  refine LL.alloc ([.slice none 0 0]) rfl rfl rfl rfl rfl ?_
  intro W155 g156 eg156 r157 z158 b154
  replace b110 := Zu b110 b154; replace r1 := r1.up b154; replace b63 := Zu b63 b154; replace b26 := Zu b26 b154; replace hn := hn.up b154; replace ho := ho.up b154; replace hkk := Zh hkk b154; have y159 := hkk.size; replace q := Zu q b154; replace r66 := r66.up b154
  refine LL.store rfl rfl rfl rfl r157 (by exact Nat.le_of_ble_eq_true rfl) rfl rfl rfl rfl ?_
  intro W192 r193 b191 z194
  have hlb191 := r157.lt
  replace r193 : RowL W192 _ 33 [.slice (some { block := g1, off := 0 }) 16 16] := r193
  clear r157
  replace b110 := Zg b110 b191; replace r1 := Zd r1 b191; replace b63 := Zg b63 b191; replace b26 := Zg b26 b191; replace hn := Zd hn b191; replace ho := Zd ho b191; replace hkk := Zo hkk b191; replace q := Zg q b191; replace r66 := Zd r66 b191
  have r157 := r193
  clear r193
  refine Zq ?_; refine Zr ?_; refine Zl r157 ?_; refine Zf ?_; refine Zl hn ?_
  refine LL.val (R.convI rfl rfl rfl rfl (wrapU (by omega) (by omega))) rfl rfl rfl ?_
  refine Zf ?_; refine Zl hn ?_
  refine LL.val (R.convI rfl rfl rfl rfl (wrapU (by omega) (by omega))) rfl rfl rfl ?_
  refine LL.val (R.shlE (b := 8) (z := 256 * l) rfl rfl rfl (by decide) (by omega) (by omega)) rfl rfl rfl ?_
  refine LL.val (R.orE (a := 3) (b := 256 * l) (z := 3 + 256 * l) rfl rfl rfl (by decide) (by omega) (or_add8 (by decide))) rfl rfl rfl ?_
  refine Zi ?_
  refine LL.store rfl rfl rfl rfl r1 (by exact Nat.le_of_ble_eq_true rfl) rfl rfl rfl rfl ?_
  intro W499 r500 b498 z501
  have hlb498 := r1.lt
  replace r500 : RowL W499 _ 25 [Value.int IntKind.u64 ↑(3 + 256 * l), (fun n => Value.int IntKind.u64 ↑n) 0, (fun n => Value.int IntKind.u64 ↑n) 0, (fun n => Value.int IntKind.u64 ↑n) 0, (fun n => Value.int IntKind.u64 ↑n) 0, (fun n => Value.int IntKind.u64 ↑n) 0, (fun n => Value.int IntKind.u64 ↑n) 0, (fun n => Value.int IntKind.u64 ↑n) 0, (fun n => Value.int IntKind.u64 ↑n) 0, (fun n => Value.int IntKind.u64 ↑n) 0, (fun n => Value.int IntKind.u64 ↑n) 0, (fun n => Value.int IntKind.u64 ↑n) 0, (fun n => Value.int IntKind.u64 ↑n) 0, (fun n => Value.int IntKind.u64 ↑n) 0, (fun n => Value.int IntKind.u64 ↑n) 0, (fun n => Value.int IntKind.u64 ↑n) 0] := r500
  clear r1
  replace b110 := Zg b110 b498; replace b63 := Zg b63 b498; replace b26 := Zg b26 b498; replace hn := Zd hn b498; replace ho := Zd ho b498; replace hkk := Zo hkk b498; replace q := Zg q b498; replace r66 := Zd r66 b498; replace r157 := Zd r157 b498
  have r1 := r500
  clear r500
  refine Zq ?_; refine Zr ?_; have l533 := hn.lt; have l534 := ho.lt; have l535 := r66.lt; have l536 := r157.lt; have l537 := r1.lt
  refine LL.alloc ([.int .i64 0]) rfl rfl rfl rfl rfl ?_
  intro W539 g540 eg540 r541 z542 b538
  replace b110 := Zu b110 b538; replace b63 := Zu b63 b538; replace b26 := Zu b26 b538; replace hn := hn.up b538; replace ho := ho.up b538; replace hkk := Zh hkk b538; have y543 := hkk.size; replace q := Zu q b538; replace r66 := r66.up b538; replace r157 := r157.up b538; replace r1 := r1.up b538
  refine LL.store rfl rfl rfl rfl r541 (by exact Nat.le_of_ble_eq_true rfl) rfl rfl rfl rfl ?_
  intro W578 r579 b577 z580
  have hlb577 := r541.lt
  replace r579 : RowL W578 _ 3 [.int .i64 1] := r579
  clear r541
  replace b110 := Zg b110 b577; replace b63 := Zg b63 b577; replace b26 := Zg b26 b577; replace hn := Zd hn b577; replace ho := Zd ho b577; replace hkk := Zo hkk b577; replace q := Zg q b577; replace r66 := Zd r66 b577; replace r157 := Zd r157 b577; replace r1 := Zd r1 b577
  have r541 := r579
  clear r579
  refine Zq ?_; refine Zr ?_; refine Zf ?_; refine Zl r66 ?_; refine Zv hn ?_
  refine LL.val (R.buildV rfl rfl (v := .agg #[Value.int IntKind.i64 3, Value.int IntKind.i64 ↑l, Value.int IntKind.i64 0, Value.slice x n c, Value.int IntKind.i64 0, Value.int IntKind.i64 0, strV t]) (fun _ => by kernel_rfl)) rfl rfl rfl ?_
  refine LL.val (R.func rfl rfl rfl) rfl rfl rfl ?_
  (refine LL.call (R.callV rfl rfl rfl rfl) rfl rfl rfl (ly3_any 3 l 0 _ 0 0 t _ g1 _ (hdN 3 l) _ ⟨_, _, _, rfl⟩ h.1 ⟨by assumption, by assumption, (show RowL _ g1 25 (ints .u64 (hdN 3 l)) from by assumption), rfl, by omega, by omega, by omega⟩) ?_; rintro e W775 ⟨rfl, ⟨at8, O8⟩, t774⟩; refine ⟨_, rfl, ?_⟩; clear r1; replace hkk := hkk.trans (t774.less fun j hj => ⟨by have := hj.1; omega, by have := hj.1; omega, by have := hj.1; omega⟩); have rv8 := O8.rv; have rw8 := O8.rw_; clear O8)
  have zt774 := t774.size
  replace b110 := t774.onB b110 (fun j hj => ⟨by have := b110.size; omega, by omega⟩)
  replace b63 := t774.onB b63 (fun j hj => ⟨by have := b63.size; omega, by omega⟩)
  replace b26 := t774.onB b26 (fun j hj => ⟨by have := b26.size; omega, by omega⟩)
  replace hn := hn.kept t774 ⟨hn.lt, by omega⟩
  replace ho := ho.kept t774 ⟨ho.lt, by omega⟩
  replace q := t774.onB q (fun j hj => ⟨by have := q.size; omega, by omega⟩)
  replace r66 := r66.kept t774 ⟨r66.lt, by omega⟩
  replace r157 := r157.kept t774 ⟨r157.lt, by omega⟩
  refine Zq ?_; refine CC.region ?_; refine Zl r157 ?_
  refine LL.store rfl rfl rfl rfl ho (by exact Nat.le_of_ble_eq_true rfl) rfl rfl rfl rfl ?_
  intro W846 r847 b845 z848
  have hlb845 := ho.lt
  replace r847 : RowL W846 _ 33 [.slice (some { block := g1, off := 0 }) 16 16] := r847
  clear ho
  replace hkk := Zo hkk b845; replace rv8 := Zd rv8 b845; replace rw8 := Zd rw8 b845; replace hn := Zd hn b845; replace r66 := Zd r66 b845; replace r157 := Zd r157 b845
  have ho := r847
  clear r847
  refine ZL ?_; refine EE.end _ rfl rfl ?_
  exact ⟨rfl, ⟨g1, by assumption, by assumption, by omega⟩, hkk⟩
theorem words1_0  (x : Option Addr) (n c : Nat) (m : List Ex) (go gn : Nat) (v0 : Value) (w : World) (hS : Start w) (hv : ReadsT eE 3 w (.slice x n c) m) (hlen : m.length ≤ 1048576) (hm0 : m = []) (hn : RowL w gn 80 (inL 0 0 0 (.slice x n c) 0 0 [])) (ho : RowL w go 33 [v0]) (hne : go ≠ gn ∧ 0 < go) : Calls Tryz.prog 116 #[.pointer (some ⟨gn, 0, none⟩), .pointer (some ⟨go, 0, none⟩)] w (wordsP go (hdN 0 0) w) := by
  unfold wordsP
  have hkk := Kept.refl (KW w go) w
  have lgn := hn.lt; have lgo := ho.lt
  have hS0 := hS.pos
  have hvF : ∀ X, Below w.heap.size w X → ReadsT eE 3 X (.slice x n c) m := fun X b => hv.up b
  have hSF : ∀ X, Below w.heap.size w X → Start X := fun X b => hS.up b
  have q := Below.refl w.heap.size w
  clear hv hS
  refine X.fn Tryz.func116 rfl (n := 25) rfl rfl ?_
  refine Zr ?_; refine Zv hn ?_; have l30 := hn.lt; have l31 := ho.lt
  (refine Zy (R.call rfl rfl rfl) (check0_T x n c m _ (hvF _ q) hlen hm0) ?_; rintro e W29 ⟨rfl, b26⟩; refine ⟨_, rfl, ?_⟩)
  have zb26 := b26.size; replace hn := hn.up b26; replace ho := ho.up b26; replace hkk := Zh hkk b26; have y35 := hkk.size; replace q := Zu q b26; have l61 := hn.lt; have l62 := ho.lt
  refine LL.alloc ([Value.nilFunc, Value.nilFunc, Value.nilFunc, Value.nilFunc]) rfl rfl rfl rfl rfl ?_
  intro W64 g65 eg65 r66 z67 b63
  replace b26 := Zu b26 b63; replace hn := hn.up b63; replace ho := ho.up b63; replace hkk := Zh hkk b63; have y68 := hkk.size; replace q := Zu q b63
  refine LL.storeN (vs := [fnV kd0.1, fnV kd0.2.1, fnV kd0.2.2.1, fnV kd0.2.2.2]) rfl rfl rfl rfl r66 (by exact Nat.le_of_ble_eq_true rfl) (ones_of rfl) rfl rfl ?_
  intro W97 r98 b96 z99
  have hlb96 := r66.lt
  replace r98 : RowL W97 _ 140 [fnV kd0.1, fnV kd0.2.1, fnV kd0.2.2.1, fnV kd0.2.2.2] := r98
  clear r66
  replace b63 := Zg b63 b96; replace b26 := Zg b26 b96; replace hn := Zd hn b96; replace ho := Zd ho b96; replace hkk := Zo hkk b96; replace q := Zg q b96
  have r66 := r98
  clear r98
  refine Zq ?_; refine Zr ?_; have l114 := hn.lt; have l115 := ho.lt; have l116 := r66.lt
  (refine LL.makeE (l := 16) (m := 16) ElU14 rfl (by decide) rfl rfl rfl (Nat.le_refl _) (by decide) (by decide) rfl rfl ?_; intro W113 g1 eg1 r1 zg1 b110; replace r1 : RowL W113 g1 25 (ints .u64 (List.replicate 16 0)) := r1)
  have zb110 := b110.size; replace b63 := Zu b63 b110; replace b26 := Zu b26 b110; replace hn := hn.up b110; replace ho := ho.up b110; replace hkk := Zh hkk b110; have y120 := hkk.size; replace q := Zu q b110; replace r66 := r66.up b110; have l150 := r1.lt; have l151 := hn.lt; have l152 := ho.lt; have l153 := r66.lt
  refine LL.alloc ([.slice none 0 0]) rfl rfl rfl rfl rfl ?_
  intro W155 g156 eg156 r157 z158 b154
  replace b110 := Zu b110 b154; replace r1 := r1.up b154; replace b63 := Zu b63 b154; replace b26 := Zu b26 b154; replace hn := hn.up b154; replace ho := ho.up b154; replace hkk := Zh hkk b154; have y159 := hkk.size; replace q := Zu q b154; replace r66 := r66.up b154
  refine LL.store rfl rfl rfl rfl r157 (by exact Nat.le_of_ble_eq_true rfl) rfl rfl rfl rfl ?_
  intro W192 r193 b191 z194
  have hlb191 := r157.lt
  replace r193 : RowL W192 _ 33 [.slice (some { block := g1, off := 0 }) 16 16] := r193
  clear r157
  replace b110 := Zg b110 b191; replace r1 := Zd r1 b191; replace b63 := Zg b63 b191; replace b26 := Zg b26 b191; replace hn := Zd hn b191; replace ho := Zd ho b191; replace hkk := Zo hkk b191; replace q := Zg q b191; replace r66 := Zd r66 b191
  have r157 := r193
  clear r193
  refine Zq ?_; refine Zr ?_; refine Zl r157 ?_; refine Zf ?_; refine Zl hn ?_
  refine LL.val (R.convI rfl rfl rfl rfl (wrapU (by omega) (by omega))) rfl rfl rfl ?_
  refine Zf ?_; refine Zl hn ?_
  refine LL.val (R.convI rfl rfl rfl rfl (wrapU (by omega) (by omega))) rfl rfl rfl ?_
  refine LL.val (R.shlE (a := 0) (b := 8) (z := 256 * 0) rfl rfl rfl (by decide) (by omega) (by omega)) rfl rfl rfl ?_
  refine LL.val (R.orE (a := 0) (b := 256 * 0) (z := 0 + 256 * 0) rfl rfl rfl (by decide) (by omega) (or_add8 (by decide))) rfl rfl rfl ?_
  refine Zi ?_
  refine LL.store rfl rfl rfl rfl r1 (by exact Nat.le_of_ble_eq_true rfl) rfl rfl rfl rfl ?_
  intro W499 r500 b498 z501
  have hlb498 := r1.lt
  replace r500 : RowL W499 _ 25 [Value.int IntKind.u64 ↑(0 + 256 * 0), (fun n => Value.int IntKind.u64 ↑n) 0, (fun n => Value.int IntKind.u64 ↑n) 0, (fun n => Value.int IntKind.u64 ↑n) 0, (fun n => Value.int IntKind.u64 ↑n) 0, (fun n => Value.int IntKind.u64 ↑n) 0, (fun n => Value.int IntKind.u64 ↑n) 0, (fun n => Value.int IntKind.u64 ↑n) 0, (fun n => Value.int IntKind.u64 ↑n) 0, (fun n => Value.int IntKind.u64 ↑n) 0, (fun n => Value.int IntKind.u64 ↑n) 0, (fun n => Value.int IntKind.u64 ↑n) 0, (fun n => Value.int IntKind.u64 ↑n) 0, (fun n => Value.int IntKind.u64 ↑n) 0, (fun n => Value.int IntKind.u64 ↑n) 0, (fun n => Value.int IntKind.u64 ↑n) 0] := r500
  clear r1
  replace b110 := Zg b110 b498; replace b63 := Zg b63 b498; replace b26 := Zg b26 b498; replace hn := Zd hn b498; replace ho := Zd ho b498; replace hkk := Zo hkk b498; replace q := Zg q b498; replace r66 := Zd r66 b498; replace r157 := Zd r157 b498
  have r1 := r500
  clear r500
  refine Zq ?_; refine Zr ?_; have l533 := hn.lt; have l534 := ho.lt; have l535 := r66.lt; have l536 := r157.lt; have l537 := r1.lt
  refine LL.alloc ([.int .i64 0]) rfl rfl rfl rfl rfl ?_
  intro W539 g540 eg540 r541 z542 b538
  replace b110 := Zu b110 b538; replace b63 := Zu b63 b538; replace b26 := Zu b26 b538; replace hn := hn.up b538; replace ho := ho.up b538; replace hkk := Zh hkk b538; have y543 := hkk.size; replace q := Zu q b538; replace r66 := r66.up b538; replace r157 := r157.up b538; replace r1 := r1.up b538
  refine LL.store rfl rfl rfl rfl r541 (by exact Nat.le_of_ble_eq_true rfl) rfl rfl rfl rfl ?_
  intro W578 r579 b577 z580
  have hlb577 := r541.lt
  replace r579 : RowL W578 _ 3 [.int .i64 1] := r579
  clear r541
  replace b110 := Zg b110 b577; replace b63 := Zg b63 b577; replace b26 := Zg b26 b577; replace hn := Zd hn b577; replace ho := Zd ho b577; replace hkk := Zo hkk b577; replace q := Zg q b577; replace r66 := Zd r66 b577; replace r157 := Zd r157 b577; replace r1 := Zd r1 b577
  have r541 := r579
  clear r579
  refine Zq ?_; refine Zr ?_; refine Zf ?_; refine Zl r66 ?_; refine Zv hn ?_
  refine LL.val (R.buildV rfl rfl (v := .agg #[Value.int IntKind.i64 0, Value.int IntKind.i64 0, Value.int IntKind.i64 0, Value.slice x n c, Value.int IntKind.i64 0, Value.int IntKind.i64 0, strV []]) (fun _ => by kernel_rfl)) rfl rfl rfl ?_
  refine LL.val (R.func rfl rfl rfl) rfl rfl rfl ?_
  (refine LL.call (R.callV rfl rfl rfl rfl) rfl rfl rfl (ly0_any 0 0 0 _ 0 0 [] _ g1 _ 1 (hdN 0 0) _ ⟨_, _, _, rfl⟩ ⟨by assumption, by assumption, (show RowL _ g1 25 (ints .u64 (hdN 0 0)) from by assumption), rfl, by omega, by omega, by omega⟩) ?_; rintro e W775 ⟨rfl, ⟨at8, O8⟩, t774⟩; refine ⟨_, rfl, ?_⟩; clear r1; replace hkk := hkk.trans (t774.less fun j hj => ⟨by have := hj.1; omega, by have := hj.1; omega, by have := hj.1; omega⟩); have rv8 := O8.rv; have rw8 := O8.rw_; clear O8)
  have zt774 := t774.size
  replace b110 := t774.onB b110 (fun j hj => ⟨by have := b110.size; omega, by omega⟩)
  replace b63 := t774.onB b63 (fun j hj => ⟨by have := b63.size; omega, by omega⟩)
  replace b26 := t774.onB b26 (fun j hj => ⟨by have := b26.size; omega, by omega⟩)
  replace hn := hn.kept t774 ⟨hn.lt, by omega⟩
  replace ho := ho.kept t774 ⟨ho.lt, by omega⟩
  replace q := t774.onB q (fun j hj => ⟨by have := q.size; omega, by omega⟩)
  replace r66 := r66.kept t774 ⟨r66.lt, by omega⟩
  replace r157 := r157.kept t774 ⟨r157.lt, by omega⟩
  refine Zq ?_; refine CC.region ?_; refine Zl r157 ?_
  refine LL.store rfl rfl rfl rfl ho (by exact Nat.le_of_ble_eq_true rfl) rfl rfl rfl rfl ?_
  intro W846 r847 b845 z848
  have hlb845 := ho.lt
  replace r847 : RowL W846 _ 33 [.slice (some { block := g1, off := 0 }) 16 16] := r847
  clear ho
  replace hkk := Zo hkk b845; replace rv8 := Zd rv8 b845; replace rw8 := Zd rw8 b845; replace hn := Zd hn b845; replace r66 := Zd r66 b845; replace r157 := Zd r157 b845
  have ho := r847
  clear r847
  refine ZL ?_; refine EE.end _ rfl rfl ?_
  exact ⟨rfl, ⟨g1, by assumption, by assumption, by omega⟩, hkk⟩
theorem grd1_calm (ge : Nat) (w : World) : CallsDIn Fence.wide 2 Tryz.prog 93 [Value.pointer (some ⟨ge, 0, none⟩)].toArray .returning w fun e u' w' => (∃ v, e = .returned v) ∧ u' = .returning ∧ w = w' := by
  refine X.recovers (n := 17) (d := 4) (e := 1) Tryz.func93 rfl rfl rfl rfl rfl rfl rfl rfl rfl rfl rfl (recover_calm) ?_
  refine Zr ?_; refine Zm ?_
  refine LL.val (R.eqNilI rfl rfl (by kernel_rfl)) rfl rfl rfl ?_
  refine Zq ?_; refine ZN ?_; refine ZK ?_; refine EE.end _ rfl rfl ?_
  exact ⟨⟨_, rfl⟩, rfl, rfl⟩
theorem grd1_pan (ge : Nat) (x0 : Int) (w : World) (h2 : RowL w ge 34 [.int .i64 x0]) : CallsDIn Fence.wide 2 Tryz.prog 93 [Value.pointer (some ⟨ge, 0, none⟩)].toArray (.panicking (chain1 refV)) w fun e u' w' => (∃ v, e = .returned v) ∧ u' = .panicking [{ v := refV, recovered := true }] ∧ RowL w' ge 34 [.int .i64 240] ∧ Kept (fun i => i < w.heap.size ∧ i ≠ ge) w w' := by
  refine X.recovers (n := 17) (d := 4) (e := 1) Tryz.func93 rfl rfl rfl rfl rfl rfl rfl rfl rfl rfl rfl (recover_one refV) ?_
  have hkk := Kept.refl (fun i => i < w.heap.size ∧ i ≠ ge) w
  have lge := h2.lt; refine Zr ?_; refine Zm ?_
  refine LL.val (R.neNilI rfl rfl rfl (by kernel_rfl)) rfl rfl rfl ?_
  refine Zq ?_; refine ZY ?_; refine Zr ?_; refine Zm ?_
  refine LL.val (R.assertT rfl rfl (by kernel_rfl)) rfl rfl rfl ?_
  refine Zm ?_; refine Zx ?_; refine Zx ?_; have l1 := h2.lt
  refine LL.alloc ([.int .i64 0]) rfl rfl rfl rfl rfl ?_
  intro W3 g4 eg4 r5 z6 b2
  replace h2 := h2.up b2; replace hkk := Zh hkk b2; have y7 := hkk.size
  refine LL.storeN (vs := [.int .i64 240]) rfl rfl rfl rfl r5 (by exact Nat.le_of_ble_eq_true rfl) (ones_of rfl) rfl rfl ?_
  intro W9 r10 b8 z11
  have hlb8 := r5.lt
  replace r10 : RowL W9 _ 160 [.int .i64 240] := r10
  clear r5
  replace h2 := Zd h2 b8; replace hkk := Zo hkk b8
  have r5 := r10
  clear r10
  refine Za ?_; refine Zq ?_; refine Zc ?_; refine Zr ?_; refine Zm ?_; refine Zt ?_; refine Zq ?_; refine ZN ?_; refine ZK ?_; refine ZT ?_; refine CC.region ?_; refine Zf ?_; refine Zl r5 ?_
  refine LL.store rfl rfl rfl rfl h2 (by exact Nat.le_of_ble_eq_true rfl) rfl rfl rfl rfl ?_
  intro W13 r14 b12 z15
  have hlb12 := h2.lt
  replace r14 : RowL W13 _ 34 [.int .i64 240] := r14
  clear h2
  replace hkk := Zo hkk b12; replace r5 := Zd r5 b12
  have h2 := r14
  clear r14
  refine ZL ?_; refine EE.end _ rfl rfl ?_
  exact ⟨⟨_, rfl⟩, rfl, h2, hkk⟩
theorem callsA {P : Program} {f : FuncId} {a b : Array Value} {w : World} {R : Ending → World → Prop} (h : a = b) (c : Calls P f a w R) : Calls P f b w R := h ▸ c
theorem guarded_R (F : FuncId) (cap : List Value) (eF : entB Tryz.prog F = true) (go : Nat) (Rp : Nat → World → Prop) (w : World) (hgo : go < w.heap.size)
    (hR : ∀ n X Y b, Rp n X → w.heap.size ≤ b → b < n → X.grownBy Y (some b) → Rp n Y)
    (hwork : ∀ W, Below w.heap.size w W → Calls Tryz.prog F cap.toArray W fun e W' => e = .returned (.tuple #[]) ∧ Rp W.heap.size W' ∧ Kept (KW W go) W W') :
    Calls Tryz.prog 76 #[.func (.func F) #[] cap.toArray] w fun e w' => e = .returned (.int .i64 0) ∧ (∃ n, w.heap.size ≤ n ∧ Rp n w') ∧ Kept (KW w go) w w' := by
  have q := Below.refl w.heap.size w
  have hkk := Kept.refl (KW w go) w
  refine X.fnP Tryz.func76 rfl (n := 6) rfl rfl ?_
  refine Zr ?_
  refine LL.alloc ([.int .i64 0]) rfl rfl rfl rfl rfl ?_
  intro W2 g3 eg3 r4 z5 b1
  replace q := Zu q b1; replace hkk := Zh hkk b1; have y6 := hkk.size; refine Zq ?_; refine Zr ?_
  refine LL.val (R.func rfl rfl rfl) rfl rfl rfl ?_
  refine LL.defer rfl rfl rfl rfl rfl rfl ?_; refine Zq ?_; refine Zr ?_; refine Zm ?_; have lr4 := r4.lt
  refine LL.call (R.callV rfl rfl rfl eF) rfl rfl rfl (callsA (by simp) (hwork _ q)) ?_
  rintro e W5 ⟨rfl, hr5, t5⟩
  refine ⟨_, rfl, ?_⟩
  replace r4 := r4.kept t5 ⟨r4.lt, by omega⟩
  have zt5 := t5.size
  replace hkk := hkk.trans (t5.less fun j hj => ⟨by have := hj.1; omega, hj.2⟩)
  have hlo : w.heap.size ≤ W2.heap.size := by omega
  have hb3 : g3 < W2.heap.size := by omega
  obtain ⟨N2, hN2⟩ : ∃ N, W2.heap.size = N := ⟨_, rfl⟩
  rw [hN2] at hr5 hlo hb3
  clear t5
  refine Zq ?_; refine Zr ?_
  refine LL.store rfl rfl rfl rfl r4 (by exact Nat.le_of_ble_eq_true rfl) rfl rfl rfl rfl ?_
  intro Wa2 ra3 ba1 za4
  have hlba1 := r4.lt
  replace ra3 : RowL Wa2 _ 34 [.int .i64 0] := ra3
  clear r4
  replace hkk := Zo hkk ba1
  have r4 := ra3
  clear ra3
  refine Zq ?_; refine ZR ?_
  (refine EE.retD (by kernel_rfl) (grd1_calm g3 _) rfl ?_; rintro e u' W6 ⟨hv, rfl, rfl⟩; exact ⟨hv, rfl, _, ⟨_, rfl, lv1 rfl (RowL.cell r4 rfl)⟩, rfl, ⟨N2, hlo, hR N2 _ _ g3 hr5 (by omega) hb3 (by assumption)⟩, hkk⟩)
theorem guarded_P (F : FuncId) (cap : List Value) (eF : entB Tryz.prog F = true) (go : Nat) (w : World) (hgo : go < w.heap.size)
    (hwork : ∀ W, Below w.heap.size w W → Calls Tryz.prog F cap.toArray W fun e W' => e = .panicked (chain1 refV) ∧ Kept (KW W go) W W') :
    Calls Tryz.prog 76 #[.func (.func F) #[] cap.toArray] w fun e w' => e = .returned (.int .i64 240) ∧ Kept (KW w go) w w' := by
  have q := Below.refl w.heap.size w
  have hkk := Kept.refl (KW w go) w
  refine X.fnP Tryz.func76 rfl (n := 6) rfl rfl ?_
  refine Zr ?_
  refine LL.alloc ([.int .i64 0]) rfl rfl rfl rfl rfl ?_
  intro W2 g3 eg3 r4 z5 b1
  replace q := Zu q b1; replace hkk := Zh hkk b1; have y6 := hkk.size; refine Zq ?_; refine Zr ?_
  refine LL.val (R.func rfl rfl rfl) rfl rfl rfl ?_
  refine LL.defer rfl rfl rfl rfl rfl rfl ?_; refine Zq ?_; refine Zr ?_; refine Zm ?_; have lr4 := r4.lt
  refine LL.callP (R.callV rfl rfl rfl eF) rfl rfl (callsA (by simp) (hwork _ q)) ?_
  rintro e W5 ⟨rfl, t5⟩
  refine ⟨_, rfl, ?_⟩
  replace r4 := r4.kept t5 ⟨r4.lt, by omega⟩
  have zt5 := t5.size
  replace hkk := hkk.trans (t5.less fun j hj => ⟨by have := hj.1; omega, hj.2⟩)
  refine EE.thenP ?_
  (refine EE.panD (by kernel_rfl) (grd1_pan g3 _ _ r4) rfl ?_; rintro e u' W6 ⟨hv, rfl, h2, hk⟩; exact ⟨hv, rfl, _, ⟨_, rfl, lv1 rfl (RowL.cell h2 rfl)⟩, rfl, hkk.trans (hk.less fun j hj => ⟨by have := hj.1; omega, by have := hj.1; omega⟩)⟩)
theorem check_F' (k l z : Int) (x : Option Addr) (n c : Nat) (m : List Ex) (r p : Int) (t : Bs) (w : World) (hv : ReadsT eE 3 w (.slice x n c) m) (hlen : m.length ≤ 1048576) (htl : t.length ≤ 1048576) (h : ¬okI k l z m r p t) : Calls Tryz.prog 117 #[inV k l z (.slice x n c) r p t] w fun e w' => e = .panicked (chain1 refV) ∧ Below w.heap.size w w' := by
  by_cases hk : k < 0 ∨ 3 < k
  · exact checkK_F k l z r p t x n c m w hv hlen hk
  rcases (by omega : k = 0 ∨ k = 1 ∨ k = 2 ∨ k = 3) with rfl | rfl | rfl | rfl
  · by_cases hl : l < 0 ∨ 65535 < l
    · exact check0_L l z r p t x n c m w hv hlen hl
    · by_cases hn : sameI 0 l z m r p t 0 0 0 [] 0 0 []
      · obtain ⟨_, rfl, rfl, rfl, rfl, rfl, rfl⟩ := hn
        exact absurd ⟨by omega, .inl ⟨rfl, rfl, rfl, rfl, rfl, rfl, rfl⟩⟩ h
      · exact check0_N l z r p t x n c m w hv hlen (by omega) hn
  · by_cases hl : l < 0 ∨ 65535 < l
    · exact check1_L l z r p t x n c m w hv hlen hl
    · by_cases hn : sameI 1 l z m r p t 1 l z m 0 0 []
      · obtain ⟨_, _, _, _, rfl, rfl, rfl⟩ := hn
        exact check1_M l z x n c m w hv hlen (by omega) fun hf => h ⟨by omega, .inr (.inl ⟨rfl, rfl, rfl, rfl, hf⟩)⟩
      · exact check1_N l z r p t x n c m w hv hlen (by omega) hn
  · by_cases hl : l < 0 ∨ 65535 < l
    · exact check2_L l z r p t x n c m w hv hlen hl
    · by_cases hn : sameI 2 l z m r p t 2 l 0 [] r p []
      · obtain ⟨_, _, rfl, rfl, _, _, rfl⟩ := hn
        exact check2_M l r p x n c [] w hv hlen rfl (by omega) fun hf => h ⟨by omega, .inr (.inr (.inl ⟨rfl, rfl, rfl, rfl, hf⟩))⟩
      · exact check2_N l z r p t x n c m w hv hlen (by omega) hn
  · by_cases hl : l < 0 ∨ 65535 < l
    · exact check3_L l z r p t x n c m w hv hlen hl
    · by_cases hn : sameI 3 l z m r p t 3 l 0 [] 0 0 t
      · obtain ⟨_, _, rfl, rfl, rfl, rfl, _⟩ := hn
        exact check3_M l t x n c [] w hv hlen rfl (by omega) htl fun hf => h ⟨by omega, .inr (.inr (.inr ⟨rfl, rfl, rfl, rfl, rfl, hf⟩))⟩
      · exact check3_N l z r p t x n c m w hv hlen (by omega) hn
set_option linter.unusedVariables false
set_option linter.unusedSimpArgs false
set_option maxRecDepth 100000
set_option maxHeartbeats 8000000
/-- An inode's words. -/
def inoW (k l z : Int) (m : List Ex) (r p : Int) (t : Bs) : List Nat :=
  if k = 1 then layF (hdN 1 l.toNat) z.toNat m else if k = 2 then layD (hdN 2 l.toNat) r.toNat p.toNat else if k = 3 then layK (hdN 3 l.toNat) t else hdN 0 0
theorem words1_any (k l z : Int) (x : Option Addr) (n c : Nat) (m : List Ex) (r p : Int) (t : Bs) (go gn : Nat) (v0 : Value) (w : World) (hS : Start w) (hv : ReadsT eE 3 w (.slice x n c) m) (hlen : m.length ≤ 1048576) (h : okI k l z m r p t) (hn : RowL w gn 80 (inL k l z (.slice x n c) r p t)) (ho : RowL w go 33 [v0]) (hne : go ≠ gn ∧ 0 < go) : Calls Tryz.prog 116 #[.pointer (some ⟨gn, 0, none⟩), .pointer (some ⟨go, 0, none⟩)] w (wordsP go (inoW k l z m r p t) w) := by
  obtain ⟨hl, ⟨rfl, rfl, rfl, hm, rfl, rfl, rfl⟩ | ⟨rfl, rfl, rfl, rfl, hf⟩ | ⟨rfl, rfl, hm, rfl, h1⟩ | ⟨rfl, rfl, hm, rfl, rfl, h1⟩⟩ := h
  · exact words1_0 x n c m go gn v0 w hS hv hlen hm hn ho hne
  · obtain ⟨l, rfl⟩ : ∃ y : Nat, l = (y : Int) := ⟨l.toNat, by omega⟩
    have hz := hf.1
    obtain ⟨z, rfl⟩ : ∃ y : Nat, z = (y : Int) := ⟨z.toNat, by omega⟩
    exact words1_1 l z x n c m go gn v0 w hS hv hlen (by omega) hf hn ho hne
  · obtain ⟨l, rfl⟩ : ∃ y : Nat, l = (y : Int) := ⟨l.toNat, by omega⟩
    obtain ⟨r, rfl⟩ : ∃ y : Nat, r = (y : Int) := ⟨r.toNat, by omega⟩
    obtain ⟨p, rfl⟩ : ∃ y : Nat, p = (y : Int) := ⟨p.toNat, by omega⟩
    exact words1_2 l r p x n c m go gn v0 w hS hv hlen hm (by omega) (by omega) hn ho hne
  · obtain ⟨l, rfl⟩ : ∃ y : Nat, l = (y : Int) := ⟨l.toNat, by omega⟩
    exact words1_3 l t x n c m go gn v0 w hS hv hlen hm (by omega) h1 hn ho hne
section
variable (k l z : Int) (x : Option Addr) (n c : Nat) (m : List Ex) (r p : Int) (t : Bs)
theorem words1_bad (go gn gk : Nat) (w : World) (hv : ReadsT eE 3 w (.slice x n c) m) (hlen : m.length ≤ 1048576) (htl : t.length ≤ 1048576) (h : ¬okI k l z m r p t) (hn : RowL w gn 80 (inL k l z (.slice x n c) r p t)) : Calls Tryz.prog 116 #[.pointer (some ⟨gn, 0, none⟩), .pointer (some ⟨go, 0, none⟩)] w fun e w' => e = .panicked (chain1 refV) ∧ Kept (KW w gk) w w' := by
  have hkk := Kept.refl (KW w gk) w
  have q := Below.refl w.heap.size w
  refine X.fnP Tryz.func116 rfl (n := 25) rfl rfl ?_
  refine Zr ?_; refine Zv hn ?_
  (refine LL.callP (R.call rfl rfl rfl) rfl rfl (check_F' k l z x n c m r p t _ (hv.up q) hlen htl h) ?_; rintro e @W ⟨rfl, b9⟩; refine ⟨_, rfl, ?_⟩; replace hkk := hkk.trans (bkept b9 (fun j hj => hj.1)))
  refine EE.thenP ?_; refine EE.panM ?_
  exact ⟨rfl, hkk⟩
end
set_option linter.unusedVariables false
set_option linter.unusedSimpArgs false
set_option maxRecDepth 100000
set_option maxHeartbeats 8000000
section
variable (k l z : Int) (x : Option Addr) (n c : Nat) (m : List Ex) (r p : Int) (t : Bs)
/-- What Words hands back. -/
def wsP (ws : List Nat) (w0 : World) (e : Ending) (w : World) : Prop := ∃ g, e = .returned (.tuple #[.slice (some ⟨g, 0, none⟩) 16 16, .int .i64 0]) ∧ RowL w g 25 (ints .u64 ws) ∧ w0.heap.size ≤ g ∧ Below w0.heap.size w0 w
theorem words_ok (w : World) (hS : Start w) (hv : ReadsT eE 3 w (.slice x n c) m) (hlen : m.length ≤ 1048576) (h : okI k l z m r p t) : Calls Tryz.prog 81 #[inV k l z (.slice x n c) r p t] w (wsP (inoW k l z m r p t) w) := by
  unfold wsP
  have q := Below.refl w.heap.size w
  have hS0 := hS.pos
  have hvF : ∀ X, Below w.heap.size w X → ReadsT eE 3 X (.slice x n c) m := fun X b => hv.up b
  have hSF : ∀ X, Below w.heap.size w X → Start X := fun X b => hS.up b
  clear hv hS
  refine X.fn Tryz.func81 rfl (n := 10) rfl rfl ?_
  refine Zr ?_
  refine LL.box [.int .i64 k, .int .i64 l, .int .i64 z, .slice x n c, .int .i64 r, .int .i64 p, strV t] rfl rfl rfl rfl rfl ?_
  intro W2 g3 eg3 r4 z5 b1
  replace q := Zu q b1; refine Za ?_; refine Za ?_; refine Zq ?_; refine Zr ?_; have l6 := r4.lt
  refine LL.alloc ([.slice none 0 0]) rfl rfl rfl rfl rfl ?_
  intro W8 g9 eg9 r10 z11 b7
  replace r4 := r4.up b7; replace b1 := Zu b1 b7; replace q := Zu q b7; refine Zq ?_; refine Zr ?_
  refine LL.val (R.func rfl rfl rfl) rfl rfl rfl ?_
  (have lg4 := r4.lt; have lg10 := r10.lt; refine Zy (R.call rfl rfl rfl) (guarded_R _ [Value.pointer (some ⟨g3, 0, none⟩), .pointer (some ⟨g9, 0, none⟩)] (by kernel_rfl) g9 (fun n X => ∃ gw, RowL X g9 33 [.slice (some ⟨gw, 0, none⟩) 16 16] ∧ RowL X gw 25 (ints .u64 (inoW k l z m r p t)) ∧ n ≤ gw) _ (by omega) (fun n X Y b ⟨gw, h1, h2, h3⟩ hb1 hb2 hg => ⟨gw, h1.gr hg (by omega), h2.gr hg (by omega), h3⟩) (fun W' b' => words1_any k l z x n c m r p t g9 g3 _ W' (hSF _ (q.trans (b'.mono q.size))) (hvF _ (q.trans (b'.mono q.size))) hlen h (r4.up b') (r10.up b') ⟨by omega, by omega⟩)) ?_; rintro e @W ⟨rfl, ⟨n9, hn9, gw, r91, r92, h93⟩, t9⟩; refine ⟨_, rfl, ?_⟩; replace q := t9.onB q (fun j hj => ⟨by omega, by omega⟩); clear r4 b1 b7 r10)
  refine Za ?_; refine Zq ?_; refine Zr ?_; refine Zl r91 ?_; refine Zm ?_; refine Za ?_; refine Za ?_; refine Zq ?_; refine ZR ?_; refine EE.ret _ rfl rfl ?_
  exact ⟨gw, rfl, r92, by omega, q⟩
theorem words_no (w : World) (hv : ReadsT eE 3 w (.slice x n c) m) (hlen : m.length ≤ 1048576) (htl : t.length ≤ 1048576) (h : ¬okI k l z m r p t) : Calls Tryz.prog 81 #[inV k l z (.slice x n c) r p t] w fun e w' => e = .returned (.tuple #[.slice none 0 0, .int .i64 240]) ∧ Below w.heap.size w w' := by
  have q := Below.refl w.heap.size w
  have hvF : ∀ X, Below w.heap.size w X → ReadsT eE 3 X (.slice x n c) m := fun X b => hv.up b
  clear hv
  refine X.fn Tryz.func81 rfl (n := 10) rfl rfl ?_
  refine Zr ?_
  refine LL.box [.int .i64 k, .int .i64 l, .int .i64 z, .slice x n c, .int .i64 r, .int .i64 p, strV t] rfl rfl rfl rfl rfl ?_
  intro W2 g3 eg3 r4 z5 b1
  replace q := Zu q b1; refine Za ?_; refine Za ?_; refine Zq ?_; refine Zr ?_; have l6 := r4.lt
  refine LL.alloc ([.slice none 0 0]) rfl rfl rfl rfl rfl ?_
  intro W8 g9 eg9 r10 z11 b7
  replace r4 := r4.up b7; replace b1 := Zu b1 b7; replace q := Zu q b7; refine Zq ?_; refine Zr ?_
  refine LL.val (R.func rfl rfl rfl) rfl rfl rfl ?_
  (have lg4 := r4.lt; have lg10 := r10.lt; refine Zy (R.call rfl rfl rfl) (guarded_P _ [Value.pointer (some ⟨g3, 0, none⟩), .pointer (some ⟨g9, 0, none⟩)] (by kernel_rfl) g3 _ (by omega) (fun W' b' => words1_bad k l z x n c m r p t g9 g3 g3 W' (hvF _ (q.trans (b'.mono q.size))) hlen htl h (r4.up b'))) ?_; rintro e @W ⟨rfl, t9⟩; refine ⟨_, rfl, ?_⟩; replace q := t9.onB q (fun j hj => ⟨by omega, by omega⟩); replace r10 := r10.kept t9 ⟨by omega, by omega⟩; clear r4 b1 b7)
  refine Za ?_; refine Zq ?_; refine Zr ?_; refine Zl r10 ?_; refine Zm ?_; refine Za ?_; refine Za ?_; refine Zq ?_; refine ZR ?_; refine EE.ret _ rfl rfl ?_
  exact ⟨rfl, q⟩
end
theorem fld_k (x : Nat) (hx : x < 18446744073709551616) (w : World) : Calls Tryz.prog 79 #[.int .u64 (x : Int), .int .i64 0, .int .i64 8] w fun e w' => e = .returned (.tuple #[.int .u64 ((x % 256 : Nat) : Int), .int .i64 0]) ∧ w = w' := by
  have h := field_ok x 0 8 hx (by omega) (by omega) w
  rw [show x / 2 ^ 0 % 2 ^ 8 = x % 256 by simp] at h
  exact h
theorem fld_l (x : Nat) (hx : x < 18446744073709551616) (w : World) : Calls Tryz.prog 79 #[.int .u64 (x : Int), .int .i64 8, .int .i64 24] w fun e w' => e = .returned (.tuple #[.int .u64 ((x / 256 % 16777216 : Nat) : Int), .int .i64 0]) ∧ w = w' := by
  have h := field_ok x 8 24 hx (by omega) (by omega) w
  rw [show x / 2 ^ 8 % 2 ^ 24 = x / 256 % 16777216 by simp] at h
  exact h
theorem take_more {xs ys : List Nat} {i : Nat} (h : xs.take i = ys.take i) (hx : i < xs.length) (hy : i < ys.length) (e : xs[i]?.getD 0 = ys[i]?.getD 0) : xs.take (i + 1) = ys.take (i + 1) := by
  rw [List.getElem?_eq_getElem hx, List.getElem?_eq_getElem hy] at e
  rw [List.take_succ_eq_append_getElem hx, List.take_succ_eq_append_getElem hy, h]
  simp only [Option.getD_some] at e
  rw [e]
set_option maxRecDepth 100000 in
set_option maxHeartbeats 4000000 in
theorem weq_any (va vb : Value) (xs ys : List Nat) (w : World) (ha : Reads w va (ints .u64 xs)) (hb : Reads w vb (ints .u64 ys)) (hlx : xs.length ≤ 1048576) (hly : ys.length ≤ 1048576) :
    Calls Tryz.prog 40 #[va, vb] w fun e w' => e = .returned (.bool (decide (xs = ys))) ∧ Below w.heap.size w w' := by
  have q := Below.refl w.heap.size w
  obtain ⟨N, hN⟩ : ∃ N, xs.length = N := ⟨_, rfl⟩
  obtain ⟨N2, hN2⟩ : ∃ N2, ys.length = N2 := ⟨_, rfl⟩
  obtain ⟨a, cap, rfl, hc, hcells⟩ := ha.intsN hN
  obtain ⟨a2, cap2, rfl, hc2, hcells2⟩ := hb.intsN hN2
  rw [hN] at hlx
  rw [hN2] at hly
  by_cases hne : N = N2
  case neg =>
    have hd : xs ≠ ys := fun e => hne (by rw [← hN, ← hN2, e])
    refine X.fn Tryz.func40 rfl (n := 26) rfl rfl ?_
    refine CC.seq ?_
    refine CC.region ?_
    refine LL.val (R.assign rfl rfl) rfl rfl rfl ?_
    refine LL.nilS ?_
    refine CC.seq ?_
    refine CC.seq ?_
    refine CC.region ?_
    refine LL.val (R.move rfl rfl) rfl rfl rfl ?_
    refine LL.val (R.len rfl rfl rfl rfl) rfl rfl rfl ?_
    refine LL.val (R.move rfl rfl) rfl rfl rfl ?_
    refine LL.val (R.len rfl rfl rfl rfl) rfl rfl rfl ?_
    refine LL.val (R.neT rfl rfl rfl (by omega)) rfl rfl rfl ?_
    refine LL.nilS ?_
    refine CC.yes rfl ?_
    refine CC.seq ?_
    refine CC.region ?_
    refine LL.val (R.assign rfl rfl) rfl rfl rfl ?_
    refine LL.nilS ?_
    refine CC.ret ?_
    refine EE.thenR ?_
    refine EE.ret _ rfl rfl ?_
    exact ⟨by simp [resV, hd], q⟩
  subst hne
  refine X.fn Tryz.func40 rfl (n := 26) rfl rfl ?_
  refine CC.seq ?_
  refine CC.region ?_
  refine LL.val (R.assign rfl rfl) rfl rfl rfl ?_
  refine LL.nilS ?_
  refine CC.seq ?_
  refine CC.seq ?_
  refine CC.region ?_
  refine LL.val (R.move rfl rfl) rfl rfl rfl ?_
  refine LL.val (R.len rfl rfl rfl rfl) rfl rfl rfl ?_
  refine LL.val (R.move rfl rfl) rfl rfl rfl ?_
  refine LL.val (R.len rfl rfl rfl rfl) rfl rfl rfl ?_
  refine LL.val (R.neF rfl rfl rfl (by omega)) rfl rfl rfl ?_
  refine LL.nilS ?_
  refine CC.no rfl ?_
  refine CC.skip ?_
  refine EE.thenN ?_
  refine CC.seq ?_
  refine CC.seq ?_
  refine CC.region ?_
  refine LL.val (R.move rfl rfl) rfl rfl rfl ?_
  refine LL.val (R.len rfl rfl rfl rfl) rfl rfl rfl ?_
  refine LL.val (R.move rfl rfl) rfl rfl rfl ?_
  refine LL.nilS ?_
  refine CC.block ?_
  refine CC.loop (α := Nat) (fun i => [(0, .slice a N cap), (1, .slice a2 N cap2), (4, .bool false), (12, .int .i64 (N : Int)), (13, .int .i64 (i : Int))]) (fun i wr => Below w.heap.size w wr ∧ i ≤ N ∧ xs.take i = ys.take i) (fun i => N - i) 0 ⟨rfl, rfl, rfl, rfl, rfl, trivial⟩ ⟨q, by omega, by simp⟩ ?_
  rintro i wr ⟨q, hi, ht⟩
  by_cases h1 : i < N
  case neg =>
    obtain rfl : i = N := by omega
    have he : xs = ys := by rwa [List.take_of_length_le (by omega), List.take_of_length_le (by omega)] at ht
    refine CC.seq ?_
    refine CC.region ?_
    refine LL.val (R.ltF rfl rfl rfl (by omega)) rfl rfl rfl ?_
    refine LL.nilS ?_
    refine CC.seq ?_
    refine CC.no rfl ?_
    refine CC.exit ?_
    refine EE.thenX ?_
    refine EE.thenX ?_
    refine EE.inX ?_
    refine EE.thenN ?_
    refine CC.seq ?_
    refine CC.region ?_
    refine LL.val (R.assign rfl rfl) rfl rfl rfl ?_
    refine LL.nilS ?_
    refine CC.ret ?_
    refine EE.ret _ rfl rfl ?_
    exact ⟨by simp [resV, he], q⟩
  obtain ⟨b, off, rfl, hbl, hcs⟩ := hcells (by omega)
  obtain ⟨b2, off2, rfl, hbl2, hcs2⟩ := hcells2 (by omega)
  have c1 : wr.cell? ⟨b, off + i, none⟩ = some (.int .u64 ((xs[i]?.getD 0 : Nat) : Int)) := (World.cell?_of_block (q.block b hbl)).trans (hcs i h1)
  have c2 : wr.cell? ⟨b2, off2 + i, none⟩ = some (.int .u64 ((ys[i]?.getD 0 : Nat) : Int)) := (World.cell?_of_block (q.block b2 hbl2)).trans (hcs2 i h1)
  by_cases hst : xs[i]?.getD 0 = ys[i]?.getD 0
  · have hm := take_more ht (by omega) (by omega) hst
    refine CC.seq ?_
    refine CC.region ?_
    refine LL.val (R.ltT rfl rfl rfl (by omega)) rfl rfl rfl ?_
    refine LL.nilS ?_
    refine CC.seq ?_
    refine CC.yes rfl ?_
    refine CC.skip ?_
    refine EE.thenN ?_
    refine CC.seq ?_
    refine CC.block ?_
    refine CC.seq ?_
    refine CC.region ?_
    refine LL.val (R.move rfl rfl) rfl rfl rfl ?_
    refine LL.val (R.assign rfl rfl) rfl rfl rfl ?_
    refine LL.nilS ?_
    refine CC.seq ?_
    refine CC.quietB (by kernel_rfl) (by kernel_rfl) (fun Wc2 bc1 zc3 => ?_)
    replace q := q.trans (bc1.mono q.size)
    replace c1 := cell_up c1 bc1
    replace c2 := cell_up c2 bc1
    refine SS.val (R.move rfl rfl) rfl rfl ?_
    refine SS.val (R.move rfl rfl) rfl rfl ?_
    refine SS.val (R.index rfl rfl rfl (I.ixS1 rfl (by omega))) rfl rfl ?_
    refine SS.val (R.load rfl rfl (I.ld1 rfl (by assumption))) rfl rfl ?_
    refine SS.val (R.move rfl rfl) rfl rfl ?_
    refine SS.val (R.move rfl rfl) rfl rfl ?_
    refine SS.val (R.index rfl rfl rfl (I.ixS1 rfl (by omega))) rfl rfl ?_
    refine SS.val (R.load rfl rfl (I.ld1 rfl (by assumption))) rfl rfl ?_
    refine SS.val (R.neF rfl rfl rfl (by omega)) rfl rfl ?_
    refine SS.nilQ ?_
    refine EE.thenN ?_
    refine CC.no rfl ?_
    refine CC.skip ?_
    refine EE.inN ?_
    refine EE.thenN ?_
    refine CC.region ?_
    refine LL.val (R.addNc rfl rfl rfl rfl (by omega)) rfl rfl rfl ?_
    refine LL.val (R.move rfl rfl) rfl rfl rfl ?_
    refine LL.nil ?_
    exact EE.round (i + 1) ⟨rfl, rfl, rfl, rfl, rfl, trivial⟩ ⟨q, by omega, hm⟩ (by omega)
  · have hd : xs ≠ ys := fun e => hst (by rw [e])
    refine CC.seq ?_
    refine CC.region ?_
    refine LL.val (R.ltT rfl rfl rfl (by omega)) rfl rfl rfl ?_
    refine LL.nilS ?_
    refine CC.seq ?_
    refine CC.yes rfl ?_
    refine CC.skip ?_
    refine EE.thenN ?_
    refine CC.seq ?_
    refine CC.block ?_
    refine CC.seq ?_
    refine CC.region ?_
    refine LL.val (R.move rfl rfl) rfl rfl rfl ?_
    refine LL.val (R.assign rfl rfl) rfl rfl rfl ?_
    refine LL.nilS ?_
    refine CC.seq ?_
    refine CC.quietB (by kernel_rfl) (by kernel_rfl) (fun Wd2 bd1 zd3 => ?_)
    replace q := q.trans (bd1.mono q.size)
    replace c1 := cell_up c1 bd1
    replace c2 := cell_up c2 bd1
    refine SS.val (R.move rfl rfl) rfl rfl ?_
    refine SS.val (R.move rfl rfl) rfl rfl ?_
    refine SS.val (R.index rfl rfl rfl (I.ixS1 rfl (by omega))) rfl rfl ?_
    refine SS.val (R.load rfl rfl (I.ld1 rfl (by assumption))) rfl rfl ?_
    refine SS.val (R.move rfl rfl) rfl rfl ?_
    refine SS.val (R.move rfl rfl) rfl rfl ?_
    refine SS.val (R.index rfl rfl rfl (I.ixS1 rfl (by omega))) rfl rfl ?_
    refine SS.val (R.load rfl rfl (I.ld1 rfl (by assumption))) rfl rfl ?_
    refine SS.val (R.neT rfl rfl rfl (by omega)) rfl rfl ?_
    refine SS.nilQ ?_
    refine EE.thenN ?_
    refine CC.yes rfl ?_
    refine CC.seq ?_
    refine CC.region ?_
    refine LL.val (R.assign rfl rfl) rfl rfl rfl ?_
    refine LL.nilS ?_
    refine CC.ret ?_
    refine EE.inR ?_
    refine EE.thenR ?_
    refine EE.thenR ?_
    refine EE.inR ?_
    refine EE.thenR ?_
    refine EE.ret _ rfl rfl ?_
    exact ⟨by simp [resV, hd], q⟩
end Go.Proofs.YtaeaokimhbbnfaaGreatDoor
