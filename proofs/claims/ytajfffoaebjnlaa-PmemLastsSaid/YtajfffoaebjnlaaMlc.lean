/- What the statements' walks use: Pm20, Pm21, Math, Cb, Bs, Sub, Ls1, Ls2, Pm22, Ls3, Open, OpenI, OpenT, PmS, LsS. -/
import Derived.WalkKit
import Derived.Test.YtajfffoaebjnlaaProg
import Derived.IntWalk
import Derived.Lib.Hide
import Derived.Deep.QuietTactic
import Derived.BigQuiet
import Derived.StillTailTactics
import Derived.Deep.RegionLaw
import Derived.Deep.AppendLies
import Derived.OneCell
import Derived.Test.YtajfffoaebjnlaaRows
import Derived.ProofKit
import Derived.OpenShut
import Derived.ShutString
import Derived.ChangeOld
import Derived.ChangeSame
import Derived.Deep.Slices
import Derived.Test.YtajfffoaebjnlaaMla
import Derived.Test.YtajfffoaebjnlaaMlb
/- pmem: the law's word and works. -/
namespace Go.Proofs.Ytajfffoaebjnlaa
set_option linter.unusedVariables false
set_option linter.unusedSimpArgs false
open Go.RowKit Go.Shelf
set_option maxRecDepth 100000
set_option maxHeartbeats 8000000
theorem crS_len (s : List Cl) (ps : List Nat) : (crS s ps).length = s.length := crJ_len s ps _
theorem word_any (m gn gl qb N p y : Nat) {s : List Cl} (w : World) (M : Mem w m gn gl qb N s) (hp : p < 256) (hy : ((crS s [p])[0]?.bind fun x => x.1[3]?) = some y) : Calls Try.prog 34 #[.pointer (some ⟨m, 0, none⟩), .int .u8 (p : Int)] w fun e w' => e = .returned (.int .u64 (y : Int)) ∧ Below w.heap.size w w' := by
  have q := Below.refl w.heap.size w
  have h0 := M.pos
  have hN := M.le
  have hl := M.len
  have hMF : ∀ W, Below w.heap.size w W → Mem W m gn gl qb N s := fun W b => M.up b
  clear M
  obtain ⟨x, hx, hxy⟩ := Option.bind_eq_some_iff.1 hy
  have hc : ((crS s [p]).map nwC)[3 / 8]? = some (nwC x) := by
    rw [List.getElem?_map]
    show ((crS s [p])[0]?).map nwC = _
    rw [hx]
    rfl
  refine X.fn Try.func34 rfl (n := 28) rfl rfl ?_
  refine CC.seq ?_
  refine CC.region ?_
  refine LL.val (R.assign rfl rfl) rfl rfl rfl ?_
  refine LL.nilS ?_
  refine CC.seq ?_
  refine CC.region ?_
  refine LL.val (R.move rfl rfl) rfl rfl rfl ?_
  refine LL.val (R.move rfl rfl) rfl rfl rfl ?_
  refine LL.lit (e := 5) [Value.int IntKind.u8 ↑p] 1 rfl rfl (fun _ => by kernel_rfl) rfl rfl ?_
  intro W58 g59 eg59 r60 z61 b57
  replace q := q.trans (b57.mono q.size)
  have l66 := r60.lt
  (refine LL.call (R.call rfl rfl rfl) rfl rfl rfl (crash_any m gn gl qb N _ 1 1 [p] _ (hMF _ q) (RowL.readsT yEnc (ts := [p]) (by assumption) 1 (Nat.le_refl _)) rfl (by decide) (fun a ha => by rw [List.mem_singleton.1 ha]; exact hp)) ?_; rintro e W65 ⟨m2, gn2, gl2, qb2, rfl, M2, lm, ln, ll, lq, b62⟩; refine ⟨_, rfl, ?_⟩)
  have zb62 := b62.size
  replace r60 := r60.up b62
  replace b57 := b57.trans (b62.mono b57.size)
  replace q := q.trans (b62.mono q.size)
  refine LL.val (R.move rfl rfl) rfl rfl rfl ?_
  refine LL.val (R.extract rfl rfl rfl) rfl rfl rfl ?_
  refine LL.val (R.extract rfl rfl rfl) rfl rfl rfl ?_
  refine LL.val (R.assign rfl rfl) rfl rfl rfl ?_
  refine LL.val (R.assign rfl rfl) rfl rfl rfl ?_
  refine LL.nilS ?_
  refine CC.seq ?_
  refine CC.region ?_
  refine LL.val (R.move rfl rfl) rfl rfl rfl ?_
  have l178 := r60.lt
  (refine LL.call (R.call rfl rfl rfl) rfl rfl rfl (load_T _ m2 gn2 gl2 qb2 N 3 y M2 hc hxy) ?_; rintro e W177 ⟨rfl, b174⟩; refine ⟨_, rfl, ?_⟩)
  have zb174 := b174.size
  replace M2 := M2.up b174
  replace b62 := b62.trans (b174.mono b62.size)
  replace r60 := r60.up b174
  replace b57 := b57.trans (b174.mono b57.size)
  replace q := q.trans (b174.mono q.size)
  refine LL.val (R.move rfl rfl) rfl rfl rfl ?_
  refine LL.val (R.extract rfl rfl rfl) rfl rfl rfl ?_
  refine LL.val (R.extract rfl rfl rfl) rfl rfl rfl ?_
  refine LL.val (R.assign rfl rfl) rfl rfl rfl ?_
  refine LL.val (R.assign rfl rfl) rfl rfl rfl ?_
  refine LL.nilS ?_
  refine CC.seq ?_
  refine CC.seq ?_
  refine CC.region ?_
  refine LL.val (R.move rfl rfl) rfl rfl rfl ?_
  refine LL.call (R.call rfl rfl rfl) rfl rfl rfl (num_any _ _) ?_
  rintro e W' ⟨rfl, rfl⟩
  refine ⟨_, rfl, ?_⟩
  refine LL.val (R.move rfl rfl) rfl rfl rfl ?_
  refine LL.call (R.call rfl rfl rfl) rfl rfl rfl (num_any _ _) ?_
  rintro e W' ⟨rfl, rfl⟩
  refine ⟨_, rfl, ?_⟩
  refine LL.val (R.addIz (z := 0) rfl rfl rfl (by decide) (by decide)) rfl rfl rfl ?_
  refine LL.val (R.neF rfl rfl rfl (by omega)) rfl rfl rfl ?_
  refine LL.nilS ?_
  refine CC.no rfl ?_
  refine CC.skip ?_
  refine EE.thenN ?_
  refine CC.seq ?_
  refine CC.region ?_
  refine LL.val (R.move rfl rfl) rfl rfl rfl ?_
  refine LL.val (R.assign rfl rfl) rfl rfl rfl ?_
  refine LL.nilS ?_
  refine CC.ret ?_
  refine EE.ret _ rfl rfl ?_
  exact ⟨rfl, q⟩
def wsL (v : Nat) : Ln := ⟨zL.1.set 3 v, by rw [List.length_set]; exact zL.2⟩
def wsA : List Cl := [(wsL 8, zL, some (wsL 7)), nwC zL]
def wsB : List Cl := [(wsL 8, wsL 7, none), nwC zL]
def wsC : List Cl := [(wsL 8, wsL 8, none), nwC zL]
theorem ws_1 : (((((List.replicate 2 zL).map nwC).set (3 / 8) (wrC (nwC zL) (3 % 8) 7)).set 0 (flC (wsL 7, zL, none))).set (3 / 8) (wrC (wsL 7, zL, some (wsL 7)) (3 % 8) 8)) = wsA := by decide +kernel
theorem ws_2 : wsA.map feC = wsB := by decide +kernel
theorem ws_3 : wsB.set 0 (evC (wsL 8, wsL 7, none)) = wsC := by decide +kernel
theorem works_any (w : World) : Calls Try.prog 10 #[] w fun e w' => e = .returned (.bool true) ∧ Below w.heap.size w w' := by
  have q := Below.refl w.heap.size w
  refine X.fn Try.func10 rfl (n := 93) rfl rfl ?_
  refine CC.seq ?_
  refine CC.region ?_
  refine LL.val (R.assign rfl rfl) rfl rfl rfl ?_
  refine LL.nilS ?_
  refine CC.seq ?_
  refine CC.region ?_
  (refine LL.call (R.call rfl rfl rfl) rfl rfl rfl (new_T 2 16 _ rfl (by decide) (by decide)) ?_; rintro e W102 ⟨m, gn, gl, qb, rfl, M, lm, ln, ll, lq, b99⟩; refine ⟨_, rfl, ?_⟩; have lts := M.lts)
  have zb99 := b99.size
  replace q := q.trans (b99.mono q.size)
  refine LL.val (R.move rfl rfl) rfl rfl rfl ?_
  refine LL.val (R.extract rfl rfl rfl) rfl rfl rfl ?_
  refine LL.val (R.extract rfl rfl rfl) rfl rfl rfl ?_
  refine LL.val (R.assign rfl rfl) rfl rfl rfl ?_
  refine LL.val (R.assign rfl rfl) rfl rfl rfl ?_
  refine LL.nilS ?_
  refine CC.seq ?_
  refine CC.seq ?_
  refine CC.region ?_
  refine LL.val (R.move rfl rfl) rfl rfl rfl ?_
  refine LL.call (R.call rfl rfl rfl) rfl rfl rfl (num_any _ _) ?_
  rintro e W' ⟨rfl, rfl⟩
  refine ⟨_, rfl, ?_⟩
  refine LL.val (R.move rfl rfl) rfl rfl rfl ?_
  (refine LL.call (R.call rfl rfl rfl) rfl rfl rfl (store_T _ m gn gl qb 2 3 7 (c := nwC zL) M rfl) ?_; rintro e W900 ⟨rfl, M2, t899⟩; refine ⟨_, rfl, ?_⟩; clear M; have M := M2; clear M2)
  have zt899 := t899.size
  replace b99 := t899.onB b99 (fun j hj => ⟨by have := b99.size; omega, by omega⟩)
  replace q := t899.onB q (fun j hj => ⟨by have := q.size; omega, by omega⟩)
  refine LL.call (R.call rfl rfl rfl) rfl rfl rfl (num_any _ _) ?_
  rintro e W' ⟨rfl, rfl⟩
  refine ⟨_, rfl, ?_⟩
  refine LL.val (R.addIz (z := 0) rfl rfl rfl (by decide) (by decide)) rfl rfl rfl ?_
  refine LL.val (R.move rfl rfl) rfl rfl rfl ?_
  (refine LL.call (R.call rfl rfl rfl) rfl rfl rfl (flush_T _ m gn gl qb 2 0 (c := (wsL 7, zL, none)) M rfl) ?_; rintro e W1215 ⟨rfl, M2, t1214⟩; refine ⟨_, rfl, ?_⟩; clear M; have M := M2; clear M2)
  have zt1214 := t1214.size
  replace b99 := t1214.onB b99 (fun j hj => ⟨by have := b99.size; omega, by omega⟩)
  replace q := t1214.onB q (fun j hj => ⟨by have := q.size; omega, by omega⟩)
  refine LL.call (R.call rfl rfl rfl) rfl rfl rfl (num_any _ _) ?_
  rintro e W' ⟨rfl, rfl⟩
  refine ⟨_, rfl, ?_⟩
  refine LL.val (R.addIz (z := 0) rfl rfl rfl (by decide) (by decide)) rfl rfl rfl ?_
  refine LL.val (R.move rfl rfl) rfl rfl rfl ?_
  (refine LL.call (R.call rfl rfl rfl) rfl rfl rfl (store_T _ m gn gl qb 2 3 8 (c := (wsL 7, zL, some (wsL 7))) M rfl) ?_; rintro e W1537 ⟨rfl, M2, t1536⟩; refine ⟨_, rfl, ?_⟩; clear M; have M := M2; clear M2; rw [ws_1] at M)
  have zt1536 := t1536.size
  replace b99 := t1536.onB b99 (fun j hj => ⟨by have := b99.size; omega, by omega⟩)
  replace q := t1536.onB q (fun j hj => ⟨by have := q.size; omega, by omega⟩)
  refine LL.call (R.call rfl rfl rfl) rfl rfl rfl (num_any _ _) ?_
  rintro e W' ⟨rfl, rfl⟩
  refine ⟨_, rfl, ?_⟩
  refine LL.val (R.addIz (z := 0) rfl rfl rfl (by decide) (by decide)) rfl rfl rfl ?_
  refine LL.val (R.neF rfl rfl rfl (by omega)) rfl rfl rfl ?_
  refine LL.val (R.move rfl rfl) rfl rfl rfl ?_
  refine LL.val (R.move rfl rfl) rfl rfl rfl ?_
  (refine LL.call (R.call rfl rfl rfl) rfl rfl rfl (word_any m gn gl qb 2 0 0 (s := wsA) _ M (by decide) (by decide +kernel)) ?_; rintro e W2062 ⟨rfl, b2059⟩; refine ⟨_, rfl, ?_⟩)
  have zb2059 := b2059.size
  replace M := M.up b2059
  replace b99 := b99.trans (b2059.mono b99.size)
  replace q := q.trans (b2059.mono q.size)
  refine LL.val (R.neF rfl rfl rfl (by omega)) rfl rfl rfl ?_
  refine LL.val (R.pick rfl rfl rfl) rfl rfl rfl ?_
  refine LL.val (R.move rfl rfl) rfl rfl rfl ?_
  refine LL.val (R.move rfl rfl) rfl rfl rfl ?_
  (refine LL.call (R.call rfl rfl rfl) rfl rfl rfl (word_any m gn gl qb 2 1 7 (s := wsA) _ M (by decide) (by decide +kernel)) ?_; rintro e W2496 ⟨rfl, b2493⟩; refine ⟨_, rfl, ?_⟩)
  have zb2493 := b2493.size
  replace b2059 := b2059.trans (b2493.mono b2059.size)
  replace M := M.up b2493
  replace b99 := b99.trans (b2493.mono b99.size)
  replace q := q.trans (b2493.mono q.size)
  refine LL.val (R.neF rfl rfl rfl (by omega)) rfl rfl rfl ?_
  refine LL.val (R.pick rfl rfl rfl) rfl rfl rfl ?_
  refine LL.val (R.move rfl rfl) rfl rfl rfl ?_
  refine LL.val (R.move rfl rfl) rfl rfl rfl ?_
  (refine LL.call (R.call rfl rfl rfl) rfl rfl rfl (word_any m gn gl qb 2 2 8 (s := wsA) _ M (by decide) (by decide +kernel)) ?_; rintro e W2937 ⟨rfl, b2934⟩; refine ⟨_, rfl, ?_⟩)
  have zb2934 := b2934.size
  replace b2493 := b2493.trans (b2934.mono b2493.size)
  replace b2059 := b2059.trans (b2934.mono b2059.size)
  replace M := M.up b2934
  replace b99 := b99.trans (b2934.mono b99.size)
  replace q := q.trans (b2934.mono q.size)
  refine LL.val (R.neF rfl rfl rfl (by omega)) rfl rfl rfl ?_
  refine LL.val (R.pick rfl rfl rfl) rfl rfl rfl ?_
  refine LL.nilS ?_
  refine CC.no rfl ?_
  refine CC.skip ?_
  refine EE.thenN ?_
  refine CC.seq ?_
  refine CC.region ?_
  refine LL.call (R.call rfl rfl rfl) rfl rfl rfl (new_F _ _ (by first | assumption | omega)) ?_
  rintro e W3236 ⟨rfl, b3235⟩
  refine ⟨_, rfl, ?_⟩
  have zb3235 := b3235.size
  replace b2934 := b2934.trans (b3235.mono b2934.size)
  replace b2493 := b2493.trans (b3235.mono b2493.size)
  replace b2059 := b2059.trans (b3235.mono b2059.size)
  replace M := M.up b3235
  replace b99 := b99.trans (b3235.mono b99.size)
  replace q := q.trans (b3235.mono q.size)
  refine LL.val (R.move rfl rfl) rfl rfl rfl ?_
  refine LL.val (R.extract rfl rfl rfl) rfl rfl rfl ?_
  refine LL.val (R.extract rfl rfl rfl) rfl rfl rfl ?_
  refine LL.val (R.assign rfl rfl) rfl rfl rfl ?_
  refine LL.val (R.assign rfl rfl) rfl rfl rfl ?_
  refine LL.nilS ?_
  refine CC.seq ?_
  refine CC.seq ?_
  refine CC.region ?_
  refine LL.val (R.move rfl rfl) rfl rfl rfl ?_
  (refine LL.call (R.call rfl rfl rfl) rfl rfl rfl (fence_any _ m gn gl qb 2 (s := wsA) M) ?_; rintro e W3878 ⟨rfl, M2, t3877⟩; refine ⟨_, rfl, ?_⟩; clear M; have M := M2; clear M2; rw [ws_2] at M)
  have zt3877 := t3877.size
  replace b99 := t3877.onB b99 (fun j hj => ⟨by have := b99.size; omega, by omega⟩)
  replace q := t3877.onB q (fun j hj => ⟨by have := q.size; omega, by omega⟩)
  refine LL.call (R.call rfl rfl rfl) rfl rfl rfl (num_any _ _) ?_
  rintro e W' ⟨rfl, rfl⟩
  refine ⟨_, rfl, ?_⟩
  refine LL.val (R.neF rfl rfl rfl (by omega)) rfl rfl rfl ?_
  refine LL.val (R.move rfl rfl) rfl rfl rfl ?_
  refine LL.val (R.move rfl rfl) rfl rfl rfl ?_
  (refine LL.call (R.call rfl rfl rfl) rfl rfl rfl (lasting_any m gn gl qb 2 _ M) ?_; rintro e W4333 ⟨v, rfl, h, b4330⟩; refine ⟨_, rfl, ?_⟩; obtain ⟨va, vc, rfl, _⟩ := h.form (n := 16) (by decide +kernel); obtain ⟨vb, vo, rfl, vl, hc⟩ := h.one uEnc (i := 3) (t := 7) (by decide +kernel); have cy := hc _ rfl; clear hc h)
  have zb4330 := b4330.size
  replace M := M.up b4330
  replace b99 := b99.trans (b4330.mono b99.size)
  replace q := q.trans (b4330.mono q.size)
  refine LL.val (R.len rfl rfl rfl rfl) rfl rfl rfl ?_
  refine LL.val (R.neF rfl rfl rfl (by omega)) rfl rfl rfl ?_
  refine LL.val (R.pick rfl rfl rfl) rfl rfl rfl ?_
  refine LL.val (R.move rfl rfl) rfl rfl rfl ?_
  refine LL.val (R.move rfl rfl) rfl rfl rfl ?_
  (refine LL.call (R.call rfl rfl rfl) rfl rfl rfl (lasting_any m gn gl qb 2 _ M) ?_; rintro e W4886 ⟨v, rfl, h, b4883⟩; refine ⟨_, rfl, ?_⟩; obtain ⟨va, vc, rfl, _⟩ := h.form (n := 16) (by decide +kernel); obtain ⟨vb, vo, rfl, vl, hc⟩ := h.one uEnc (i := 3) (t := 7) (by decide +kernel); have cy := hc _ rfl; clear hc h)
  have zb4883 := b4883.size
  replace b4330 := b4330.trans (b4883.mono b4330.size)
  replace M := M.up b4883
  replace b99 := b99.trans (b4883.mono b99.size)
  replace q := q.trans (b4883.mono q.size)
  refine LL.val (R.index rfl rfl rfl (I.ixS1c rfl rfl (by omega))) rfl rfl rfl ?_
  refine LL.val (R.load rfl rfl (I.ld1 rfl (by assumption))) rfl rfl rfl ?_
  refine LL.val (R.neF rfl rfl rfl (by omega)) rfl rfl rfl ?_
  refine LL.val (R.pick rfl rfl rfl) rfl rfl rfl ?_
  refine LL.val (R.move rfl rfl) rfl rfl rfl ?_
  refine LL.val (R.move rfl rfl) rfl rfl rfl ?_
  (refine LL.call (R.call rfl rfl rfl) rfl rfl rfl (opens_M m gn gl qb 2 (s := wsB) _ M) ?_; rintro e W5544 ⟨v, rfl, h, b5541⟩; refine ⟨_, rfl, ?_⟩; obtain ⟨va, vc, rfl, _⟩ := (h.reads iEnc).form (n := 1) (by decide +kernel); clear h)
  have zb5541 := b5541.size
  replace b4883 := b4883.trans (b5541.mono b4883.size)
  replace cy := cell_up cy b5541
  replace b4330 := b4330.trans (b5541.mono b4330.size)
  replace M := M.up b5541
  replace b99 := b99.trans (b5541.mono b99.size)
  replace q := q.trans (b5541.mono q.size)
  refine LL.val (R.len rfl rfl rfl rfl) rfl rfl rfl ?_
  refine LL.val (R.neF rfl rfl rfl (by omega)) rfl rfl rfl ?_
  refine LL.val (R.pick rfl rfl rfl) rfl rfl rfl ?_
  refine LL.val (R.move rfl rfl) rfl rfl rfl ?_
  refine LL.val (R.move rfl rfl) rfl rfl rfl ?_
  (refine LL.call (R.call rfl rfl rfl) rfl rfl rfl (evict_T _ m gn gl qb 2 0 (s := wsB) (c := (wsL 8, wsL 7, none)) M rfl) ?_; rintro e W6111 ⟨rfl, M2, t6110⟩; refine ⟨_, rfl, ?_⟩; clear M; have M := M2; clear M2; rw [ws_3] at M)
  have zt6110 := t6110.size
  replace b99 := t6110.onB b99 (fun j hj => ⟨by have := b99.size; omega, by omega⟩)
  replace q := t6110.onB q (fun j hj => ⟨by have := q.size; omega, by omega⟩)
  refine LL.call (R.call rfl rfl rfl) rfl rfl rfl (num_any _ _) ?_
  rintro e W' ⟨rfl, rfl⟩
  refine ⟨_, rfl, ?_⟩
  refine LL.val (R.neF rfl rfl rfl (by omega)) rfl rfl rfl ?_
  refine LL.val (R.pick rfl rfl rfl) rfl rfl rfl ?_
  refine LL.val (R.move rfl rfl) rfl rfl rfl ?_
  refine LL.val (R.move rfl rfl) rfl rfl rfl ?_
  (refine LL.call (R.call rfl rfl rfl) rfl rfl rfl (opens_M m gn gl qb 2 (s := wsC) _ M) ?_; rintro e W6685 ⟨v, rfl, h, b6682⟩; refine ⟨_, rfl, ?_⟩; obtain ⟨va, vc, rfl, _⟩ := (h.reads iEnc).form (n := 0) (by decide +kernel); clear h)
  have zb6682 := b6682.size
  replace M := M.up b6682
  replace b99 := b99.trans (b6682.mono b99.size)
  replace q := q.trans (b6682.mono q.size)
  refine LL.val (R.len rfl rfl rfl rfl) rfl rfl rfl ?_
  refine LL.val (R.neF rfl rfl rfl (by omega)) rfl rfl rfl ?_
  refine LL.val (R.pick rfl rfl rfl) rfl rfl rfl ?_
  refine LL.nilS ?_
  refine CC.no rfl ?_
  refine CC.skip ?_
  refine EE.thenN ?_
  refine CC.seq ?_
  refine CC.region ?_
  refine LL.val (R.move rfl rfl) rfl rfl rfl ?_
  refine LL.call (R.call rfl rfl rfl) rfl rfl rfl (num_any _ _) ?_
  rintro e W' ⟨rfl, rfl⟩
  refine ⟨_, rfl, ?_⟩
  refine LL.val (R.eqT rfl rfl rfl (by omega)) rfl rfl rfl ?_
  refine LL.val (R.move rfl rfl) rfl rfl rfl ?_
  refine LL.val (R.move rfl rfl) rfl rfl rfl ?_
  (refine LL.call (R.call rfl rfl rfl) rfl rfl rfl (store_F _ m gn gl qb 2 16 1 M (by decide)) ?_; rintro e W7560 ⟨rfl, b7557⟩; refine ⟨_, rfl, ?_⟩)
  have zb7557 := b7557.size
  replace b6682 := b6682.trans (b7557.mono b6682.size)
  replace M := M.up b7557
  replace b99 := b99.trans (b7557.mono b99.size)
  replace q := q.trans (b7557.mono q.size)
  refine LL.call (R.call rfl rfl rfl) rfl rfl rfl (num_any _ _) ?_
  rintro e W' ⟨rfl, rfl⟩
  refine ⟨_, rfl, ?_⟩
  refine LL.val (R.eqT rfl rfl rfl (by omega)) rfl rfl rfl ?_
  refine LL.val (R.pick rfl rfl rfl) rfl rfl rfl ?_
  refine LL.val (R.move rfl rfl) rfl rfl rfl ?_
  refine LL.val (R.move rfl rfl) rfl rfl rfl ?_
  (refine LL.call (R.call rfl rfl rfl) rfl rfl rfl (evict_F _ m gn gl qb 2 2 M (by decide)) ?_; rintro e W8148 ⟨rfl, b8145⟩; refine ⟨_, rfl, ?_⟩)
  have zb8145 := b8145.size
  replace b7557 := b7557.trans (b8145.mono b7557.size)
  replace b6682 := b6682.trans (b8145.mono b6682.size)
  replace M := M.up b8145
  replace b99 := b99.trans (b8145.mono b99.size)
  replace q := q.trans (b8145.mono q.size)
  refine LL.call (R.call rfl rfl rfl) rfl rfl rfl (num_any _ _) ?_
  rintro e W' ⟨rfl, rfl⟩
  refine ⟨_, rfl, ?_⟩
  refine LL.val (R.eqT rfl rfl rfl (by omega)) rfl rfl rfl ?_
  refine LL.val (R.pick rfl rfl rfl) rfl rfl rfl ?_
  refine LL.val (R.assign rfl rfl) rfl rfl rfl ?_
  refine LL.nilS ?_
  refine CC.ret ?_
  refine EE.ret _ rfl rfl ?_
  exact ⟨rfl, q⟩
end Go.Proofs.Ytajfffoaebjnlaa
/- PmemPlays: the walk. -/
namespace Go.Proofs.Ytajfffoaebjnlaa
set_option linter.unusedVariables false
set_option linter.unusedSimpArgs false
open Go.RowKit Go.Shelf
def actE (x : Int × Int × Int) : List Value := [.int .i64 x.1, .int .i64 x.2.1, .int .u64 x.2.2]
theorem actEnc : Enc actE 3 := ⟨fun _ => rfl, fun a u hu => by
  simp only [actE, List.mem_cons, List.not_mem_nil, or_false] at hu
  rcases hu with rfl | rfl | rfl <;> rfl, by decide⟩
/-- Where a play stands. -/
structure PSt where
  i : Nat
  s : List Cl
  g : Nat
  cap : Nat
  m : Nat
  gn : Nat
  gl : Nat
  qb : Nat
def PSt.I (w : World) (N n : Nat) (t : PSt) (W : World) : Prop := t.i ≤ n ∧ Below w.heap.size w W ∧ Mem W t.m t.gn t.gl t.qb N t.s ∧ ReadsT cE 25 W (.slice (some ⟨t.g, 0, none⟩) N t.cap) t.s ∧ (t.g ≠ t.gn ∧ t.g ≠ t.gl ∧ t.g ≠ t.qb ∧ t.g < W.heap.size) ∧ w.heap.size ≤ t.m ∧ w.heap.size ≤ t.gn ∧ w.heap.size ≤ t.gl ∧ w.heap.size ≤ t.qb ∧ w.heap.size ≤ t.g
set_option maxRecDepth 100000
set_option maxHeartbeats 8000000
end Go.Proofs.Ytajfffoaebjnlaa
/- Plain arithmetic of layer 1 (no program): masks, fields, powers of two. -/
namespace Go.Proofs.Ytajfffoaebjnlaa
set_option linter.unusedVariables false
set_option linter.unusedSimpArgs false

end Go.Proofs.Ytajfffoaebjnlaa
/- The document's Bytes of words, without the program's (from layer 1's texts). -/
namespace Go.Proofs.Ytajfffoaebjnlaa
set_option linter.unusedVariables false
set_option linter.unusedSimpArgs false
open Go.RowKit
/-- The first k bytes of a word, the lowest first. -/
def byteL (x k : Nat) : List Nat := (List.range k).map fun i => x / 256 ^ i % 256

theorem byteL_succ (x k : Nat) : byteL x (k + 1) = byteL x k ++ [x / 256 ^ k % 256] := by simp [byteL, List.range_succ]

def bytesL (ws : List Nat) : List Nat := ws.flatMap fun x => byteL x 8

theorem bytesL_snoc (l : List Nat) (x : Nat) : bytesL (l ++ [x]) = bytesL l ++ byteL x 8 := by simp [bytesL]

theorem Try.info5 : (Try.prog.info? 5).map (fun i => (i.zero, i.size, i.bytes)) = some (some (.int .u8 0), 1, 1) := by kernel_rfl

theorem El8 : El Try.prog 42 5 (Value.int .u8 0) 1 := ⟨Try.underlying42, info_parts Try.info5, rfl⟩

theorem ints_app (k : IntKind) (l r : List Nat) : ints k (l ++ r) = ints k l ++ ints k r := by simp

theorem rbytes_step {w : World} {n0 e : Nat} {v : Value} {n : Nat} {xs : List Nat} {x k : Nat} (h : w.ownsRow n0 e 1 v (n + 1) (ints .u8 (xs ++ byteL x k) ++ [.int .u8 (((x / 256 ^ k : Nat) : Int) % 256)])) :
    w.ownsRow n0 e 1 v (n + 1) (ints .u8 (xs ++ byteL x (k + 1))) := by
  rw [byteL_succ]
  simpa using h

set_option maxHeartbeats 400000 in
theorem rbytes_any (v : Value) (ws : List Nat) (w : World) (hv : Reads w v (ints .u64 ws)) (hw : ∀ x ∈ ws, x < 18446744073709551616) (hlen : ws.length ≤ 1048576) :
    Calls Try.prog 58 #[v] w fun e w' => ∃ v', e = .returned v' ∧ w'.ownsRow w.heap.size 5 1 v' (8 * ws.length) (ints .u8 (bytesL ws)) ∧ Below w.heap.size w w' := by
  obtain ⟨a, cap, rfl, hcap, hcells⟩ := hv.ints
  go_enter Try.func58, Try.ntmps58
  go_wp2
  go_loopw [3, 4] (fun v i wr => ∃ k : Nat, k ≤ ws.length ∧ i = .int .i64 k ∧ wr.ownsRow w.heap.size 5 1 v (8 * k) (ints .u8 (bytesL (ws.take k))) ∧ Below w.heap.size w wr) (fun _ i _ => ws.length - (intOf i).toNat)
  case atStart => exact ⟨0, by omega, rfl, World.ownsRow_nil _ _ _ _, Below.refl _ _⟩
  case round =>
    obtain ⟨k, hk, rfl, hr, hbl⟩ := hrel
    by_cases hlt : k < ws.length
    · obtain ⟨b, off, rfl, hbs, hc⟩ := hcells (by omega)
      have hck : wr.cell? ⟨b, off + k, none⟩ = some (.int .u64 ((ws[k]?.getD 0 : Nat) : Int)) := (hbl.cell (p := ⟨b, off + k, none⟩) hbs).trans (hc k hlt)
      have hsz := hbl.size
      have hts := Lib.hid (take_snoc ws 0 k hlt)
      have hx : ws[k]?.getD 0 < 18446744073709551616 := by simp [hlt]; exact hw _ (List.getElem_mem hlt)
      obtain ⟨x, hxe⟩ : ∃ x, ws[k]?.getD 0 = x := ⟨_, rfl⟩
      rw [hxe] at hck hx hts
      clear hc hcells hxe
      go_wp2
      obtain ⟨wo, hwo⟩ : ∃ wo : World, wo = wr := ⟨_, rfl⟩
      rw [← hwo] at hr hbl hck hsz ⊢
      clear hwo
      go_loopw [3, 5, 6] (fun v y j wr => ∃ i q m : Nat, i ≤ 8 ∧ j = .int .i64 i ∧ y = .int .u64 q ∧ q = x / 256 ^ i ∧ m = 8 * k + i ∧ wr.ownsRow w.heap.size 5 1 v m (ints .u8 (bytesL (ws.take k) ++ byteL x i)) ∧ Below w.heap.size w wr) (fun _ _ j _ => 8 - (intOf j).toNat)
      case atStart => exact ⟨0, x, 8 * k, by omega, rfl, rfl, by simp, rfl, by simpa [byteL] using hr, hbl⟩
      case round =>
        obtain ⟨i, q, m, hi, rfl, rfl, hq, hm, hri, hbi⟩ := hrel
        have hq2 : q < 18446744073709551616 := by rw [hq]; exact Nat.lt_of_le_of_lt (Nat.div_le_self _ _) hx
        have hmb : m + 1 ≤ 140737488355328 := by omega
        have hmm := hm
        have HQ := Lib.hid hq
        have HM := Lib.hid hm
        clear hq hm hmm
        have hsi := hbi.size
        by_cases hil : i < 8
        · go_wp2_with (first | (at_builtin; go_must (refine list_app El8 rfl rfl (by first | (simp [Act.eval]; done) | (simp [Act.eval]; exact ⟨rfl, rfl⟩) | (simp [Act.eval]; rfl)) (by first | (simp [Act.eval]; done) | (simp [Act.eval]; exact ⟨rfl, rfl⟩) | (simp [Act.eval]; rfl)) (hri.alloc _) (by first | exact cell_new _ _ _ | exact cell_new_d _ _ _) rfl (by first | omega | (simp; omega)) (by simp [maxLen]; omega) (by first | omega | (simp; omega)) ?_); intro g cp w1 hown hgrow _ _; have hb1 := below_app hri (by omega) hgrow; clear hgrow))
          go_roundw
          case rel => exact ⟨i + 1, q / 256, m + 1, by omega, by go_num, by first | rfl | simp, by rw [HQ.out, Nat.div_div_eq_div_mul, Nat.pow_succ], by have := HM.out; omega, rbytes_step (by rw [← HQ.out, ints_app]; simpa using hown), hbi.trans hb1⟩
          case measure => simp [intOf]; omega
        · obtain rfl : i = 8 := by omega
          go_wp2
          go_roundw
          case rel => exact ⟨k + 1, by omega, by go_num, by rw [hts.out, bytesL_snoc]; have := HM.out; subst this; exact hri, hbi⟩
          case measure => simp [intOf]; omega
    · obtain rfl : k = ws.length := by omega
      go_wp2
      go_ret
      exact ⟨_, rfl, by simpa using hr, hbl⟩

end Go.Proofs.Ytajfffoaebjnlaa
/- Strings as lists of bytes. For any seat. -/
namespace Go.Proofs.Ytajfffoaebjnlaa
set_option linter.unusedVariables false
set_option linter.unusedSimpArgs false
open Go.RowKit Go.Shelf

abbrev Bs := List UInt8
abbrev strV (l : Bs) : Value := .string ⟨l.toArray⟩
theorem bs_list (l : Bs) : (⟨l.toArray⟩ : ByteArray).toList = l := by rw [ByteArray.toList_eq]
section
variable {P : Program} {w : World} {o : Oper} {n : Nat} {D : List Deferred} {M : Slots} {x y : Operand} {t u : TypeId} {a b : Bs} {i : Nat}
theorem R.eqS {c : Bool} (ho : o.op = .binOp .eql t x y u) (hx : evM M x = some (strV a)) (hy : evM M y = some (strV b)) (hc : decide (a = b) = c) : Runs P n D M o w (.value (.bool c)) w :=
  R.eqStr ho hx hy (by rw [bs_list, bs_list, ← hc, Bool.eq_iff_iff]; simp)
theorem R.neS {c : Bool} (ho : o.op = .binOp .neq t x y u) (hx : evM M x = some (strV a)) (hy : evM M y = some (strV b)) (hc : (!decide (a = b)) = c) : Runs P n D M o w (.value (.bool c)) w :=
  R.neStr ho hx hy (by rw [bs_list, bs_list, ← hc, Bool.eq_iff_iff]; simp)
theorem I.ixStr {c : UInt8} (ht : isStr P t = true) (hi : a[i]? = some c) : (Instr.index t (strV a) (.int .i64 (i : Int))).run P w = .ok (.int .u8 (c.toNat : Int)) w := by
  unfold isStr at ht
  cases hu : P.underlying t with
  | none => rw [hu] at ht; cases ht
  | some d =>
    rw [hu] at ht
    cases d <;> try (cases ht; done)
    have hg : (⟨a.toArray⟩ : ByteArray)[i]? = some c := by
      have hlt := (List.getElem?_eq_some_iff.1 hi)
      obtain ⟨h1, h2⟩ := hlt
      have hs : i < (⟨a.toArray⟩ : ByteArray).size := by simpa [ByteArray.size] using h1
      rw [getElem?_pos _ i hs]
      congr 1
    have h0 : (0 : Int) ≤ (i : Int) := by omega
    simp [Instr.index, asIntOf, run_underlying hu, h0, hg]
theorem R.ixS {c : UInt8} (ho : o.op = .index t x y) (hx : evM M x = some (strV a)) (hy : evM M y = some (.int .i64 (i : Int))) (ht : isStr P t = true) (hi : a[i]? = some c) : Runs P n D M o w (.value (.int .u8 (c.toNat : Int))) w :=
  R.indexV ho hx hy (I.ixStr ht hi)
end
end Go.Proofs.Ytajfffoaebjnlaa
/- strings of one's own that begin somewhere in their block, and append to them. -/
namespace Go.Proofs.Ytajfffoaebjnlaa
set_option linter.unusedVariables false
set_option linter.unusedSimpArgs false
open Go.RowKit Go.Shelf
def s1E (s : Bs) : List Value := [strV s]
theorem s1Enc : Enc s1E 1 := ⟨fun _ => rfl, fun t u hu => by
  simp only [s1E, List.mem_cons, List.not_mem_nil, or_false] at hu
  rcases hu with rfl
  rfl, by decide⟩
/-- Strings that lie behind one another from a place on in their block, with room behind them. -/
structure SubS (w : World) (T b off cap : Nat) (ts : List Bs) : Prop where
  row : ∃ cs, RowL w b T cs ∧ cs.length = off + cap ∧ (cs.drop off).take ts.length = ts.map strV
  len : ts.length ≤ cap
section
variable {w w' : World} {T b off cap : Nat} {ts : List Bs}
theorem SubS.same (h : SubS w T b off cap ts) (hb : w'.heap[b]? = w.heap[b]?) : SubS w' T b off cap ts := by
  obtain ⟨⟨cs, r, e⟩, l⟩ := h
  exact ⟨⟨cs, r.same hb, e⟩, l⟩
theorem SubS.lt (h : SubS w T b off cap ts) : b < w.heap.size := by
  obtain ⟨⟨cs, r, e⟩, l⟩ := h
  exact r.lt
theorem SubS.up (h : SubS w T b off cap ts) (k : Below w.heap.size w w') : SubS w' T b off cap ts := h.same (k.block b h.lt)
theorem SubS.kept {K : Nat → Prop} (h : SubS w T b off cap ts) (k : Kept K w w') (hb : K b) : SubS w' T b off cap ts := h.same (k.block b hb)
theorem SubS.gr {r : Nat} (h : SubS w T b off cap ts) (k : w.grownBy w' (some r)) (hb : b ≠ r) : SubS w' T b off cap ts := h.same (k.block b h.lt (by simpa using hb))
theorem SubS.cell (h : SubS w T b off cap ts) {i : Nat} {x : Bs} (hx : ts[i]? = some x) : w.cell? ⟨b, off + i, none⟩ = some (strV x) := by
  obtain ⟨⟨cs, r, e1, e2⟩, l⟩ := h
  refine r.cell ?_
  have hi : i < ts.length := (List.getElem?_eq_some_iff.1 hx).1
  have h3 : ((cs.drop off).take ts.length)[i]? = some (strV x) := by rw [e2, List.getElem?_map, hx]; rfl
  rw [List.getElem?_take, if_pos hi, List.getElem?_drop] at h3
  exact h3
theorem SubS.drop (h : SubS w T b off cap ts) {m : Nat} (hm : m ≤ ts.length) : SubS w T b (off + m) (cap - m) (ts.drop m) := by
  obtain ⟨⟨cs, r, e1, e2⟩, l⟩ := h
  refine ⟨⟨cs, r, by omega, ?_⟩, by rw [List.length_drop]; omega⟩
  rw [List.map_drop, ← e2, List.length_drop, List.drop_take, List.drop_drop]
end
section
variable {P : Program} {w : World} {T e b off cap : Nat} {z : Value} {bytes : Nat} {ts : List Bs} {s : Bs} {vx : Value}
theorem setCells_one (w : World) (b o : Nat) (v : Value) : w.setCells b o [v] = w.setCell ⟨b, o, none⟩ v := rfl
theorem run_append_sub (I : ElT P T e z 1 bytes) (ty : TypeId) (h : SubS w e b off cap ts) (hr : ReadsT s1E 1 w vx [s]) (h63 : ts.length + 1 ≤ maxLen) (hb : (ts.length + 1) * bytes ≤ 140737488355328) :
    ∃ b' off' cap' w', (Builtin.append_ #[T, T] ty #[.slice (some ⟨b, off, none⟩) ts.length cap, vx]).run P w = .ok (.slice (some ⟨b', off', none⟩) (ts.length + 1) cap') w' ∧ SubS w' e b' off' cap' (ts ++ [s]) ∧ w.grownBy w' (some b) ∧ (b' = b ∨ w.heap.size ≤ b') := by
  obtain ⟨i, hi, hz, hsz, hby⟩ := I.info
  obtain ⟨a, cap2, rfl, hc, hcell⟩ := hr
  obtain ⟨p, po, rfl, hp, hh⟩ := hcell (by simp)
  have hnews : ∀ j u, ([s].flatMap s1E)[j]? = some u → w.cell? ((⟨p, po, none⟩ : Addr).add j) = some u := fun j u hj => by
    have hjl : j < 1 := (List.getElem?_eq_some_iff.1 hj).1
    rw [Addr.add_lit, hh j (by simpa using hjl), hj]
  have hlt := h.lt
  have hlen := h.len
  have hcells := fun (i : Nat) (x : Bs) (hx : ts[i]? = some x) => h.cell hx
  obtain ⟨⟨cs, r, e1, e2⟩, _⟩ := h
  by_cases hroom : ts.length + 1 ≤ cap
  · have h1 := run_append_room_cells (P := P) w T ty e i I.under hi b off ts.length cap ⟨p, po, none⟩ 1 cap2 [strV s] (by rw [hsz]; rfl) hnews (fun u hu => by cases hu with | head => rfl | tail _ h => cases h) hroom (fun j hj => by
      obtain rfl : j = 0 := by simpa using hj
      obtain ⟨u, hu⟩ : ∃ u, cs[off + ts.length * i.size + 0]? = some u := ⟨_, List.getElem?_eq_getElem (by rw [hsz]; omega)⟩
      rw [r.cell hu]
      rfl) (fun j hj => r.frozen _)
    rw [hsz, setCells_one, Nat.mul_one] at h1
    refine ⟨b, off, cap, _, h1, ⟨⟨_, r.set (off + ts.length) (strV s), by rw [List.length_set]; exact e1, ?_⟩, by simpa using hroom⟩, grown_set w _ _, .inl rfl⟩
    rw [List.length_append, List.map_append, ← e2]
    apply List.ext_getElem?
    intro k
    rw [List.getElem?_take, List.getElem?_drop]
    show (if k < ts.length + 1 then (cs.set (off + ts.length) (strV s))[off + k]? else none) = _
    by_cases hk : k < ts.length
    · rw [if_pos (by omega), List.getElem?_set_ne (by omega), List.getElem?_append_left (by rw [List.length_take, List.length_drop]; omega), List.getElem?_take, if_pos hk, List.getElem?_drop]
    · by_cases hk2 : k = ts.length
      · subst hk2
        rw [if_pos (by omega), List.getElem?_set_self (by omega), List.getElem?_append_right (by rw [List.length_take]; omega)]
        rw [show ts.length - ((cs.drop off).take ts.length).length = 0 by rw [List.length_take, List.length_drop]; omega]
        rfl
      · rw [if_neg (by omega), List.getElem?_eq_none (by rw [List.length_append, List.length_take, List.length_drop]; simp; omega)]
  · obtain ⟨v', w', h1, h2, h3⟩ := run_append_arg_grows (P := P) (w := w) T ty e i z 1 bytes I.under hi hz hsz hby I.many (by decide) ⟨b, off, none⟩ ts.length cap (ts.map strV) (by simp) (fun j u hj => by
      rw [List.getElem?_map] at hj
      cases hx : ts[j]? with
      | none => rw [hx] at hj; cases hj
      | some x =>
        rw [hx] at hj
        cases hj
        rw [Addr.add_lit]
        exact hcells j x hx) ⟨p, po, none⟩ 1 cap2 [strV s] rfl hnews (by omega) h63 hb
    rcases h2.2 with ⟨_, h0⟩ | ⟨g, cp, cur, rfl, hbg, hg, hnc, hcm, hcs, htake⟩
    · omega
    · refine ⟨g, 0, cp, w', h1, ⟨⟨cur.toList, hg, by simpa using hcs, ?_⟩, by simpa using hnc⟩, ⟨h3.os, h3.tape, h3.output, h3.size, fun j hj _ => h3.block j hj (by simp)⟩, .inr hbg⟩
      rw [List.drop_zero, List.length_append, List.map_append]
      rw [Nat.mul_one] at htake
      exact htake
end
section
variable {P : Program} {ops : Array Oper} {Q : Exit → Act → World → Prop} {n : Nat} {D : List Deferred} {M : Slots} {w : World} {o : Oper} {T e b off cap : Nat} {z : Value} {bytes : Nat} {ts : List Bs} {s : Bs} {vx : Value} {r : Option Nat} {rest : List Oper}
theorem LL.appendSub {xs : Array Operand} {m : Nat} (ho : o.op = .call { callee := .builtin .append, args := xs, argTypes := #[T, T] }) (hx : evsM M xs.toList = some [.slice (some ⟨b, off, none⟩) m cap, vx]) (I : ElT P T e z 1 bytes) (h : SubS w e b off cap ts) (hr : ReadsT s1E 1 w vx [s]) (hm : ts.length = m)
    (h63 : ts.length + 1 ≤ maxLen) (hb : (ts.length + 1) * bytes ≤ 140737488355328) (hd : dstB n o.dst = true) (hg : wantB ops M o.guard = some true)
    (c : ∀ b' off' cap' w', SubS w' e b' off' cap' (ts ++ [s]) → w.grownBy w' (some b) → (b' = b ∨ w.heap.size ≤ b') → LL r P ops Q n D (putM M o.dst (.slice (some ⟨b', off', none⟩) (m + 1) cap')) rest w') : LL r P ops Q n D M (o :: rest) w := by
  subst hm
  obtain ⟨b', off', cap', w', h1, h2, h3, h4⟩ := run_append_sub I o.type h hr h63 hb
  refine LL.val (v := .slice (some ⟨b', off', none⟩) (ts.length + 1) cap') (R.builtin ho hx fun b => ?_) hd (by rw [ho]; rfl) hg (c b' off' cap' w' h2 h3 h4)
  unfold builtin
  simp only [Sem.run_bind, h1, Result.andThen_ok, Sem.run_pure]
end
end Go.Proofs.Ytajfffoaebjnlaa
/- pmem: what stands in a line, as a string. -/
namespace Go.Proofs.Ytajfffoaebjnlaa
set_option linter.unusedVariables false
set_option linter.unusedSimpArgs false
open Go.RowKit Go.Shelf
set_option maxRecDepth 100000
set_option maxHeartbeats 8000000
def okL (x : Ln) : Prop := ∀ y ∈ x.1, y < 18446744073709551616
def cB (x : Ln) : Bs := (bytesL x.1).map UInt8.ofNat
theorem of_uE {w : World} {v : Value} {ws : List Nat} (h : ReadsT uE 1 w v ws) : Reads w v (ints .u64 ws) := by
  obtain ⟨a, cap, e, hc, h⟩ := h
  have hl : (ints .u64 ws).length = ws.length := by simp [ints]
  refine ⟨a, cap, by rw [hl]; exact e, by rw [hl]; exact hc, fun hne => ?_⟩
  obtain ⟨b, off, h1, h2, h3⟩ := h (by intro e; subst e; exact hne rfl)
  exact ⟨b, off, h1, h2, fun j hj => by rw [← flat_u]; exact h3 j (by omega)⟩
theorem wdS_at (s : List Cl) {k : Nat} {c : Cl} (hc : s[k]? = some c) : ((wdS (fun c => c.1) s).drop (8 * k)).take 8 = c.1.1 := by
  have h1 : s = s.take k ++ c :: s.drop (k + 1) := by
    have hk := (List.getElem?_eq_some_iff.1 hc)
    obtain ⟨h, e⟩ := hk
    rw [← e, List.getElem_cons_drop, List.take_append_drop]
  have hk := (List.getElem?_eq_some_iff.1 hc).1
  have h2 : (wdS (fun c => c.1) (s.take k)).length = 8 * k := by rw [wdS_len, List.length_take]; omega
  have h3 : wdS (fun c => c.1) s = wdS (fun c => c.1) (s.take k) ++ (c.1.1 ++ wdS (fun c => c.1) (s.drop (k + 1))) := by
    conv => lhs; rw [h1]
    simp only [wdS, List.flatMap_append, List.flatMap_cons]
  rw [h3, ← h2, List.drop_left]
  have h4 : List.take c.1.1.length (c.1.1 ++ wdS (fun c => c.1) (s.drop (k + 1))) = c.1.1 := List.take_left
  rw [c.1.2] at h4
  exact h4
theorem content_any (m gn gl qb N k : Nat) {s : List Cl} {c : Cl} (w : World) (M : Mem w m gn gl qb N s) (hc : s[k]? = some c) (ok : okL c.1) : Calls Try.prog 33 #[.pointer (some ⟨m, 0, none⟩), .int .i64 (k : Int)] w fun e w' => e = .returned (strV (cB c.1)) ∧ Below w.heap.size w w' := by
  have q := Below.refl w.heap.size w
  have hMF : ∀ X, Below w.heap.size w X → Mem X m gn gl qb N s := fun X b => M.up b
  have hN := M.le
  have hk := (List.getElem?_eq_some_iff.1 hc).1
  rw [M.len] at hk
  have hl : (wdS (fun c => c.1) s).length = N * 8 := by rw [wdS_len, M.len]
  clear M
  refine X.fn Try.func33 rfl (n := 23) rfl rfl ?_
  refine CC.seq ?_
  refine CC.region ?_
  refine LL.val (R.assign rfl rfl) rfl rfl rfl ?_
  refine LL.nilS ?_
  refine CC.seq ?_
  refine CC.region ?_
  refine LL.val (R.move rfl rfl) rfl rfl rfl ?_
  (refine LL.call (R.call rfl rfl rfl) rfl rfl rfl (image_any m gn gl qb N _ (hMF _ q)) ?_; rintro e W32 ⟨v, rfl, hv, b29⟩; refine ⟨_, rfl, ?_⟩; obtain ⟨a5, c5, rfl, hc5⟩ := hv.form hl; have hcx : N * 8 ≤ c5 := hc5; have hR := of_uE hv; obtain ⟨p5, o5, ea5, lp5, _⟩ := (hv.get uEnc (i := 0) (List.getElem?_eq_getElem (by omega))); subst ea5; clear hv; have hPt : Reads _ (.slice (some ⟨p5, o5 + 8 * k * 1, none⟩) (8 * k + 8 - 8 * k) (c5 - 8 * k)) (ints .u64 c.1.1) := (by have h9 := hR.part (lo := 8 * k) (hi := 8 * k + 8) (by omega) (by omega) (by omega); rw [show ((ints IntKind.u64 (wdS (fun c => c.1) s)).drop (8 * k)).take (8 * k + 8 - 8 * k) = ints .u64 c.1.1 from (by rw [show 8 * k + 8 - 8 * k = 8 by omega, ← wdS_at s hc]; unfold ints; rw [List.map_take, List.map_drop])] at h9; exact h9); clear hR)
  have zb29 := b29.size
  replace q := q.trans (b29.mono q.size)
  refine LL.val (R.assign rfl rfl) rfl rfl rfl ?_
  refine LL.nilS ?_
  refine CC.seq ?_
  refine CC.seq ?_
  refine CC.region ?_
  refine LL.val (R.move rfl rfl) rfl rfl rfl ?_
  refine LL.val (R.len rfl rfl rfl rfl) rfl rfl rfl ?_
  refine LL.val (R.move rfl rfl) rfl rfl rfl ?_
  refine LL.val (R.mulcN rfl rfl rfl rfl (by omega)) rfl rfl rfl ?_
  refine LL.val (R.addNc rfl rfl rfl rfl (by omega)) rfl rfl rfl ?_
  refine LL.val (R.ltF rfl rfl rfl (by omega)) rfl rfl rfl ?_
  refine LL.nilS ?_
  refine CC.no rfl ?_
  refine CC.skip ?_
  refine EE.thenN ?_
  refine CC.seq ?_
  refine CC.region ?_
  refine LL.val (R.move rfl rfl) rfl rfl rfl ?_
  refine LL.val (R.move rfl rfl) rfl rfl rfl ?_
  refine LL.val (R.mulcN rfl rfl rfl rfl (by omega)) rfl rfl rfl ?_
  refine LL.val (R.move rfl rfl) rfl rfl rfl ?_
  refine LL.val (R.mulcN rfl rfl rfl rfl (by omega)) rfl rfl rfl ?_
  refine LL.val (R.addNc rfl rfl rfl rfl (by omega)) rfl rfl rfl ?_
  refine LL.val (R.slice rfl rfl rfl rfl rfl (I.slS rfl (by omega) (by omega) (by omega))) rfl rfl rfl ?_
  (refine LL.call (R.call rfl rfl rfl) rfl rfl rfl (rbytes_any _ c.1.1 _ hPt ok (by rw [c.1.2]; decide)) ?_; rintro e W242 ⟨v', rfl, o8, b239⟩; refine ⟨_, rfl, ?_⟩; have hb8 := reads_of_owns o8; clear o8 hPt)
  have zb239 := b239.size
  replace b29 := b29.trans (b239.mono b29.size)
  replace q := q.trans (b239.mono q.size)
  (refine LL.val (R.conv rfl rfl (run_toStr rfl rfl hb8)) rfl rfl rfl ?_)
  refine LL.val (R.assign rfl rfl) rfl rfl rfl ?_
  refine LL.nilS ?_
  refine CC.ret ?_
  refine EE.ret _ rfl rfl ?_
  exact ⟨rfl, q⟩
end Go.Proofs.Ytajfffoaebjnlaa
/- pmem: the contents that lines had, in memory, and what calls make of them. -/
namespace Go.Proofs.Ytajfffoaebjnlaa
set_option linter.unusedVariables false
set_option linter.unusedSimpArgs false
open Go.RowKit Go.Shelf
set_option maxRecDepth 100000
set_option maxHeartbeats 8000000
/-- The contents that a line had: where they lie, they, which one is queued. -/
structure Sx where
  b : Nat
  off : Nat
  cap : Nat
  ts : List Bs
  fl : Int
def Sx.v (x : Sx) : Value := .slice (some ⟨x.b, x.off, none⟩) x.ts.length x.cap
def Sx.f (x : Sx) : Value := .int .i64 x.fl
structure Sb (W : World) (w0 hi : Nat) (ls : List Sx) : Prop where
  sub : ∀ (k : Nat) (x : Sx), ls[k]? = some x → SubS W 9 x.b x.off x.cap x.ts ∧ w0 ≤ x.b ∧ x.b < hi
  ne : ∀ (j k : Nat) (x y : Sx), ls[j]? = some x → ls[k]? = some y → x.b = y.b → j = k
section
variable {w w' : World} {w0 hi r : Nat} {ls : List Sx}
theorem Sb.up (h : Sb w w0 hi ls) (k : Below w.heap.size w w') : Sb w' w0 hi ls := ⟨fun j x e => ⟨(h.sub j x e).1.up k, (h.sub j x e).2⟩, h.ne⟩
theorem Sb.gr (h : Sb w w0 hi ls) (k : w.grownBy w' (some r)) (e : r < w0 ∨ hi ≤ r) : Sb w' w0 hi ls := ⟨fun j x e' => ⟨(h.sub j x e').1.gr k (by have := (h.sub j x e').2; omega), (h.sub j x e').2⟩, h.ne⟩
theorem Sb.kept {gn gl qb : Nat} (h : Sb w w0 hi ls) (k : Kept (KM w gn gl qb) w w') (e : gn < w0 ∧ (gl < w0 ∧ qb < w0)) : Sb w' w0 hi ls := ⟨fun j x e' => ⟨(h.sub j x e').1.kept k (by have := (h.sub j x e').2; have := (h.sub j x e').1.lt; exact ⟨this, by omega, by omega, by omega⟩), (h.sub j x e').2⟩, h.ne⟩
theorem Sb.wide {hi' : Nat} (h : Sb w w0 hi ls) (e : hi ≤ hi') : Sb w w0 hi' ls := ⟨fun j x e' => ⟨(h.sub j x e').1, (h.sub j x e').2.1, by have := (h.sub j x e').2.2; omega⟩, h.ne⟩
/-- An entry is changed, its block stays. -/
theorem Sb.put (h : Sb w w0 hi ls) {k : Nat} {x x' : Sx} (hx : ls[k]? = some x) (hb : x'.b = x.b) (hs : SubS w 9 x'.b x'.off x'.cap x'.ts) : Sb w w0 hi (ls.set k x') := by
  have hk := (List.getElem?_eq_some_iff.1 hx).1
  refine ⟨fun j y e => ?_, fun i j y z e1 e2 e => ?_⟩
  · by_cases hj : k = j
    · subst hj
      rw [List.getElem?_set_self hk] at e
      cases e
      exact ⟨hs, hb ▸ (h.sub k x hx).2⟩
    · rw [List.getElem?_set_ne hj] at e
      exact h.sub j y e
  · have key : ∀ (i : Nat) (y : Sx), (ls.set k x')[i]? = some y → ∃ y0, ls[i]? = some y0 ∧ y0.b = y.b := fun i y e => by
      by_cases hj : k = i
      · subst hj
        rw [List.getElem?_set_self hk] at e
        cases e
        exact ⟨x, hx, hb.symm⟩
      · rw [List.getElem?_set_ne hj] at e
        exact ⟨y, e, rfl⟩
    obtain ⟨y0, h1, h2⟩ := key i y e1
    obtain ⟨z0, h3, h4⟩ := key j z e2
    exact h.ne i j y0 z0 h1 h3 (by omega)
/-- An entry is appended to, into its own block or a new one. -/
theorem Sb.app (h : Sb w w0 hi ls) {hi' k : Nat} {x x' : Sx} (hx : ls[k]? = some x) (hg : w.grownBy w' (some x.b)) (hb : x'.b = x.b ∨ hi ≤ x'.b) (hw : w0 ≤ hi) (h2 : hi ≤ hi') (h3 : x'.b < hi') (hs : SubS w' 9 x'.b x'.off x'.cap x'.ts) : Sb w' w0 hi' (ls.set k x') := by
  have hk := (List.getElem?_eq_some_iff.1 hx).1
  have h0 := (h.sub k x hx).2
  refine ⟨fun j y e => ?_, fun i j y z e1 e2 e => ?_⟩
  · by_cases hj : k = j
    · subst hj
      rw [List.getElem?_set_self hk] at e
      cases e
      exact ⟨hs, by omega, h3⟩
    · rw [List.getElem?_set_ne hj] at e
      obtain ⟨h1, h2, h4⟩ := h.sub j y e
      exact ⟨h1.gr hg (fun e' => hj (h.ne k j x y hx e e'.symm)), h2, by omega⟩
  · by_cases hi : k = i
    · by_cases hj : k = j
      · omega
      · subst hi
        rw [List.getElem?_set_self hk] at e1
        rw [List.getElem?_set_ne hj] at e2
        cases e1
        have := (h.sub j z e2).2.2
        exact h.ne k j x z hx e2 (by omega)
    · by_cases hj : k = j
      · subst hj
        rw [List.getElem?_set_self hk] at e2
        rw [List.getElem?_set_ne hi] at e1
        cases e2
        have := (h.sub i y e1).2.2
        exact h.ne i k y x e1 hx (by omega)
      · rw [List.getElem?_set_ne hi] at e1
        rw [List.getElem?_set_ne hj] at e2
        exact h.ne i j y z e1 e2 e
end
/-- What is so of a line's contents. -/
structure Wk (n : Nat) (x : Sx) (c : Cl) : Prop where
  pos : 0 < x.ts.length
  len : x.ts.length ≤ n
  last : cB c.2.1 ∈ x.ts
  qu : (c.2.2 = none ∧ x.fl = -1) ∨ ∃ y, ∃ f : Nat, c.2.2 = some y ∧ x.fl = (f : Int) ∧ x.ts[f]? = some (cB y)
  ok1 : okL c.1
  ok2 : okL c.2.1
  ok3 : ∀ y, c.2.2 = some y → okL y
def Nw (x : Sx) (c : Cl) : Prop := x.ts[x.ts.length - 1]? = some (cB c.1)
theorem Wk.mono {n n' : Nat} {x : Sx} {c : Cl} (h : Wk n x c) (hn : n ≤ n') : Wk n' x c := { h with len := Nat.le_trans h.len hn }
theorem Wk.store {n j v : Nat} {x : Sx} {c : Cl} (h : Wk n x c) (hv : v < 18446744073709551616) : Wk n x (wrC c j v) :=
  ⟨h.pos, h.len, h.last, h.qu, fun y hy => by
    have hy' : y ∈ c.1.1.set j v := hy
    rcases List.mem_or_eq_of_mem_set hy' with hy | e
    · exact h.ok1 y hy
    · omega, h.ok2, h.ok3⟩
theorem Wk.flush {n : Nat} {x : Sx} {c : Cl} (h : Wk n x c) (hn : Nw x c) : Wk n { x with fl := ((x.ts.length - 1 : Nat) : Int) } (flC c) ∧ Nw { x with fl := ((x.ts.length - 1 : Nat) : Int) } (flC c) :=
  ⟨⟨h.pos, h.len, h.last, .inr ⟨c.1, x.ts.length - 1, rfl, rfl, hn⟩, h.ok1, h.ok2, fun y hy => by cases hy; exact h.ok1⟩, hn⟩
def Sx.from (x : Sx) (f : Nat) : Sx := ⟨x.b, x.off + f, x.cap - f, x.ts.drop f, -1⟩
theorem Nw.from {x : Sx} {c c' : Cl} {f : Nat} (hn : Nw x c) (hf : f < x.ts.length) (hc : c'.1 = c.1) : Nw (x.from f) c' := by
  show (x.ts.drop f)[(x.ts.drop f).length - 1]? = some (cB c'.1)
  rw [List.getElem?_drop, List.length_drop, show f + (x.ts.length - f - 1) = x.ts.length - 1 by omega, hc]
  exact hn
theorem Wk.fence_no {n : Nat} {x : Sx} {c : Cl} (h : Wk n x c) (hn : Nw x c) (hf : x.fl < 0) : Wk n x (feC c) ∧ Nw x (feC c) := by
  rcases h.qu with ⟨h1, h2⟩ | ⟨y, f, h1, h2, h3⟩
  · exact ⟨⟨h.pos, h.len, by show cB (c.2.2.getD c.2.1) ∈ _; rw [h1]; exact h.last, .inl ⟨rfl, h2⟩, h.ok1, by show okL (c.2.2.getD c.2.1); rw [h1]; exact h.ok2, fun y e => by cases e⟩, hn⟩
  · omega
theorem Wk.fence_yes {n f : Nat} {x : Sx} {c : Cl} (h : Wk n x c) (hn : Nw x c) (hf : x.fl = (f : Int)) : f < x.ts.length ∧ Wk n (x.from f) (feC c) ∧ Nw (x.from f) (feC c) := by
  rcases h.qu with ⟨h1, h2⟩ | ⟨y, f', h1, h2, h3⟩
  · omega
  · obtain rfl : f' = f := by omega
    have hlt := (List.getElem?_eq_some_iff.1 h3).1
    have hl := h.len
    refine ⟨hlt, ⟨by show 0 < (x.ts.drop f').length; rw [List.length_drop]; omega, by show (x.ts.drop f').length ≤ n; rw [List.length_drop]; omega, ?_, .inl ⟨rfl, rfl⟩, h.ok1, ?_, fun y e => by cases e⟩, hn.from hlt rfl⟩
    · show cB (c.2.2.getD c.2.1) ∈ x.ts.drop f'
      rw [h1]
      exact List.mem_of_getElem? (i := 0) (by rw [List.getElem?_drop, Nat.add_zero]; exact h3)
    · show okL (c.2.2.getD c.2.1)
      rw [h1]
      exact h.ok3 y h1
theorem Wk.evict {n : Nat} {x : Sx} {c : Cl} (h : Wk n x c) (hn : Nw x c) : Wk n (x.from (x.ts.length - 1)) (evC c) ∧ Nw (x.from (x.ts.length - 1)) (evC c) := by
  have hp := h.pos
  have hl := h.len
  refine ⟨⟨by show 0 < (x.ts.drop _).length; rw [List.length_drop]; omega, by show (x.ts.drop _).length ≤ n; rw [List.length_drop]; omega, ?_, .inl ⟨rfl, rfl⟩, h.ok1, h.ok1, fun y e => by cases e⟩, hn.from (by omega) rfl⟩
  show cB c.1 ∈ x.ts.drop _
  exact List.mem_of_getElem? (i := 0) (by rw [List.getElem?_drop, Nat.add_zero]; exact hn)
theorem Wk.more {n : Nat} {x : Sx} {c : Cl} (h : Wk n x c) (b off cap : Nat) : Wk (n + 1) ⟨b, off, cap, x.ts ++ [cB c.1], x.fl⟩ c ∧ Nw ⟨b, off, cap, x.ts ++ [cB c.1], x.fl⟩ c := by
  have hl := h.len
  refine ⟨⟨by simp, by simp; exact hl, List.mem_append_left _ h.last, ?_, h.ok1, h.ok2, h.ok3⟩, ?_⟩
  · rcases h.qu with h1 | ⟨y, f, h1, h2, h3⟩
    · exact .inl h1
    · exact .inr ⟨y, f, h1, h2, by show (x.ts ++ [cB c.1])[f]? = _; rw [List.getElem?_append_left (List.getElem?_eq_some_iff.1 h3).1]; exact h3⟩
  · show (x.ts ++ [cB c.1])[(x.ts ++ [cB c.1]).length - 1]? = _
    simp
/-- What a crash leaves of a line was in it. -/
theorem crJ_mem {s : List Cl} {ps : List Nat} {k : Nat} {c : Cl} (hc : s[k]? = some c) : ∀ (j : Nat) {y : Ln}, (crJ s ps j)[k]? = some y → y = c.1 ∨ y = c.2.1 ∨ c.2.2 = some y
  | 0, y, h => by
    have h' : (s.map fun c => c.2.1)[k]? = some y := h
    rw [List.getElem?_map, hc] at h'
    cases h'
    exact .inr (.inl rfl)
  | j + 1, y, h => by
    unfold crJ at h
    split at h
    · rename_i k' p _ _
      split at h
      · rename_i c' hc'
        by_cases hk : k' = k
        · subst hk
          rw [hc] at hc'
          cases hc'
          rw [List.getElem?_set_self (by rw [crJ_len]; exact (List.getElem?_eq_some_iff.1 hc).1)] at h
          cases h
          unfold pkL
          split
          · exact .inr (.inl rfl)
          · split
            · cases hq : c.2.2 with
              | none => exact .inr (.inl rfl)
              | some z => exact .inr (.inr rfl)
            · exact .inl rfl
        · rw [List.getElem?_set_ne hk] at h
          exact crJ_mem hc j h
      · exact crJ_mem hc j h
    · exact crJ_mem hc j h
theorem Wk.crash {n : Nat} {x : Sx} {c : Cl} {y : Ln} (h : Wk n x c) (hn : Nw x c) (hy : y = c.1 ∨ y = c.2.1 ∨ c.2.2 = some y) : cB y ∈ x.ts ∧ okL y := by
  rcases hy with rfl | rfl | hy
  · exact ⟨List.mem_of_getElem? hn, h.ok1⟩
  · exact ⟨h.last, h.ok2⟩
  · refine ⟨?_, h.ok3 y hy⟩
    rcases h.qu with ⟨h1, _⟩ | ⟨z, f, h1, h2, h3⟩
    · rw [h1] at hy; cases hy
    · rw [h1] at hy
      cases hy
      exact List.mem_of_getElem? h3
end Go.Proofs.Ytajfffoaebjnlaa
/- PmemCrashes: the walk (written by tools/genpm.py). -/
namespace Go.Proofs.Ytajfffoaebjnlaa
set_option linter.unusedVariables false
set_option linter.unusedSimpArgs false
open Go.RowKit Go.Shelf
set_option maxRecDepth 100000
set_option maxHeartbeats 8000000
end Go.Proofs.Ytajfffoaebjnlaa
/- PmemLasts: the walk (written by genls3.py). -/
namespace Go.Proofs.Ytajfffoaebjnlaa
set_option linter.unusedVariables false
set_option linter.unusedSimpArgs false
open Go.RowKit Go.Shelf
set_option maxRecDepth 100000
set_option maxHeartbeats 8000000
theorem rep_set {α : Type} (v : α → Value) (z : Value) (x : α) (N : Nat) (ls : List α) (h : ls.length < N) : (ls.map v ++ List.replicate (N - ls.length) z).set ls.length (v x) = (ls ++ [x]).map v ++ List.replicate (N - (ls.length + 1)) z := by
  rw [List.set_append_right _ _ (by simp), List.length_map, Nat.sub_self, show N - ls.length = (N - (ls.length + 1)) + 1 by omega, List.replicate_succ, List.set_cons_zero, List.map_append, List.append_assoc]
  rfl
theorem infoSs : (Try.prog.info? 75).map (fun i => (i.zero, i.size, i.bytes)) = some (some (.slice none 0 0), 1, 24) := by kernel_rfl
theorem ElSs : ElT Try.prog 73 75 (.slice none 0 0) 1 24 := info_parts_t Try.underlying73 infoSs rfl
theorem infoI : (Try.prog.info? 3).map (fun i => (i.zero, i.size, i.bytes)) = some (some (.int .i64 0), 1, 8) := by kernel_rfl
theorem ElI7 : ElT Try.prog 59 3 (.int .i64 0) 1 8 := info_parts_t Try.underlying59 infoI rfl
theorem ofS_ok {N : Nat} {ws : List Nat} (hb : ∀ x ∈ ws, x < 18446744073709551616) {i : Nat} (h : i < N) : ∃ y : Ln, okL y ∧ (ofS N ws)[i]? = some (nwC y) := by
  refine ⟨lnAt ws i, fun x hx => ?_, by unfold ofS; rw [List.getElem?_map, lnS_at ws h]; rfl⟩
  have hx' : x ∈ (List.range 8).map fun j => (ws[i * 8 + j]?).getD 0 := hx
  obtain ⟨j, _, rfl⟩ := List.mem_map.1 hx'
  cases e : ws[i * 8 + j]? with
  | none => simp
  | some v => exact hb v (List.mem_of_getElem? e)
theorem rep_flat {α : Type} (z : α) : ∀ N, (List.replicate N [z]).flatten = List.replicate N z
  | 0 => rfl
  | N + 1 => by rw [List.replicate_succ, List.flatten_cons, rep_flat z N]; rfl
/-- Ways that meet. -/
structure LaterL (A : Prop) : Prop where
  out : A
theorem meetLs {α β : Type} {A : α → β → World → Prop} {B : Prop} (F : α → β → World → Prop) (f : LaterL (∀ a b w, F a b w → A a b w) → B) (k : ∀ a b w, F a b w → A a b w) : B := f ⟨k⟩
theorem infoSt : (Try.prog.info? 9).map (fun i => (i.zero, i.size, i.bytes)) = some (some (strV []), 1, 16) := by kernel_rfl
theorem ElSt : ElT Try.prog 75 9 (strV []) 1 16 := info_parts_t Try.underlying75 infoSt rfl
/-- What is so ahead of line i, while all is laid. -/
structure InA (w : World) (N w0 m gn gl qb gs gf : Nat) (s : List Cl) (ls : List Sx) (W : World) : Prop where
  le : ls.length ≤ N
  q : Below w.heap.size w W
  M : Mem W m gn gl qb N s
  rs : RowL W gs 75 (ls.map Sx.v ++ List.replicate (N - ls.length) (Value.slice none 0 0))
  rf : RowL W gf 3 (ls.map Sx.f ++ List.replicate (N - ls.length) (Value.int .i64 0))
  S : Sb W w0 W.heap.size ls
  z : w0 ≤ W.heap.size
  G : ∀ (k : Nat) (x : Sx) (c : Cl), ls[k]? = some x → s[k]? = some c → Wk 1 x c ∧ Nw x c
structure InB (w : World) (N w0 m gn gl qb gs gf : Nat) (s : List Cl) (ls : List Sx) (W : World) : Prop where
  le : ls.length = N
  q : Below w.heap.size w W
  M : Mem W m gn gl qb N s
  rs : RowL W gs 75 (ls.map Sx.v)
  rf : RowL W gf 3 (ls.map Sx.f)
  S : Sb W w0 W.heap.size ls
  z : w0 ≤ W.heap.size
theorem Sb.add {w' : World} {w0 B hi' : Nat} {ls : List Sx} {x : Sx} (h2 : Sb w' w0 B ls) (hx : B ≤ x.b) (hx2 : x.b < hi') (hs : SubS w' 9 x.b x.off x.cap x.ts) (h0 : w0 ≤ B) : Sb w' w0 hi' (ls ++ [x]) := by
  have key : ∀ (k : Nat) (y : Sx), (ls ++ [x])[k]? = some y → ls[k]? = some y ∨ (k = ls.length ∧ y = x) := fun k y e => by
    by_cases hk : k < ls.length
    · rw [List.getElem?_append_left hk] at e
      exact .inl e
    · rw [List.getElem?_append_right (by omega)] at e
      have := (List.getElem?_eq_some_iff.1 e).1
      simp at this
      rw [show k - ls.length = 0 by omega] at e
      cases e
      exact .inr ⟨by omega, rfl⟩
  refine ⟨fun k y e => ?_, fun j k y z e1 e2 e => ?_⟩
  · rcases key k y e with e | ⟨_, rfl⟩
    · obtain ⟨h3, h4, h5⟩ := h2.sub k y e
      exact ⟨h3, h4, by omega⟩
    · exact ⟨hs, by omega, hx2⟩
  · rcases key j y e1 with f1 | ⟨h3, h5⟩ <;> rcases key k z e2 with f2 | ⟨h4, h6⟩
    · exact h2.ne j k y z f1 f2 e
    · have := (h2.sub j y f1).2.2
      subst h6
      omega
    · have := (h2.sub k z f2).2.2
      subst h5
      omega
    · omega
theorem sx_set_v {ls : List Sx} {k : Nat} {x : Sx} : (ls.map Sx.v).set k x.v = (ls.set k x).map Sx.v := List.map_set.symm
theorem sx_set_f {ls : List Sx} {k : Nat} {x : Sx} : (ls.map Sx.f).set k x.f = (ls.set k x).map Sx.f := List.map_set.symm
theorem from_v {x : Sx} {f : Nat} : (x.from f).v = .slice (some ⟨x.b, x.off + f * 1, none⟩) (x.ts.length - f) (x.cap - f) := by
  unfold Sx.v Sx.from
  rw [Nat.mul_one]
  show Value.slice _ (x.ts.drop f).length _ = _
  rw [List.length_drop]
theorem set_same {ls : List Sx} {k : Nat} {x y : Sx} (h : ls[k]? = some x) (f : Sx → Value) (e : f y = f x) : (ls.set k y).map f = ls.map f := by
  rw [List.map_set, e]
  apply List.ext_getElem?
  intro j
  by_cases hj : k = j
  · subst hj
    rw [List.getElem?_set_self (by rw [List.length_map]; exact (List.getElem?_eq_some_iff.1 h).1), List.getElem?_map, h]
    rfl
  · rw [List.getElem?_set_ne hj]
theorem all_set {α β : Type} {P Q : α → β → Prop} {ls : List α} {s : List β} {k : Nat} {x' : α} {c' : β} (h : ∀ (j : Nat) (x : α) (c : β), ls[j]? = some x → s[j]? = some c → P x c) (hQ : ∀ x c, P x c → Q x c) (hk : Q x' c') : ∀ (j : Nat) (x : α) (c : β), (ls.set k x')[j]? = some x → (s.set k c')[j]? = some c → Q x c := fun j x c e1 e2 => by
  by_cases hj : k = j
  · subst hj
    have h1 := (List.getElem?_eq_some_iff.1 e1).1
    have h2 := (List.getElem?_eq_some_iff.1 e2).1
    rw [List.length_set] at h1 h2
    rw [List.getElem?_set_self h1] at e1
    rw [List.getElem?_set_self h2] at e2
    cases e1
    cases e2
    exact hk
  · rw [List.getElem?_set_ne hj] at e1 e2
    exact hQ _ _ (h j x c e1 e2)
/-- What a line's round makes. -/
structure InA0 (w : World) (N w0 m gn gl qb gs gf : Nat) (s : List Cl) (i B : Nat) (ls : List Sx) (x : Sx) (W : World) : Prop where
  le : i ≤ N
  q : Below w.heap.size w W
  M : Mem W m gn gl qb N s
  rs : RowL W gs 75 ((ls.map Sx.v ++ List.replicate (N - i) (Value.slice none 0 0)).set i x.v)
  rf : RowL W gf 3 ((ls.map Sx.f ++ List.replicate (N - i) (Value.int .i64 0)).set i x.f)
  S : Sb W w0 B ls
  z : w0 ≤ W.heap.size
theorem inA_add {w W : World} {N w0 m gn gl qb gs gf i gt B : Nat} {s : List Cl} {ls : List Sx} {y : Ln} (ei : ls.length = i) (hlt : i < N) (h : InA0 w N w0 m gn gl qb gs gf s i B ls ⟨gt, 0, 1, [cB y], -1⟩ W) (rt : RowL W gt 9 [strV (cB y)]) (hG : ∀ (k : Nat) (x : Sx) (c : Cl), ls[k]? = some x → s[k]? = some c → Wk 1 x c ∧ Nw x c) (hc : s[i]? = some (nwC y)) (oky : okL y) (hz : w0 ≤ B) (hgt : B ≤ gt) : InA w N w0 m gn gl qb gs gf s (ls ++ [⟨gt, 0, 1, [cB y], -1⟩]) W := by
  obtain ⟨hle, q, M, rs, rf, hS, z⟩ := h
  subst ei
  rw [rep_set Sx.v _ _ N ls hlt] at rs
  rw [rep_set Sx.f _ _ N ls hlt] at rf
  refine ⟨by simp; omega, q, M, by simpa using rs, by simpa using rf, hS.add hgt rt.lt ⟨⟨_, rt, rfl, rfl⟩, Nat.le_refl _⟩ hz, z, fun k x c e1 e2 => ?_⟩
  by_cases hk : k < ls.length
  · rw [List.getElem?_append_left hk] at e1
    exact hG k x c e1 e2
  · rw [List.getElem?_append_right (by omega)] at e1
    have := (List.getElem?_eq_some_iff.1 e1).1
    simp at this
    obtain rfl : k = ls.length := by omega
    rw [Nat.sub_self] at e1
    cases e1
    rw [hc] at e2
    cases e2
    exact ⟨⟨Nat.lt_succ_self 0, Nat.le_refl _, List.mem_singleton.2 rfl, .inl ⟨rfl, rfl⟩, oky, oky, fun y e => by cases e⟩, rfl⟩
theorem fe_step {n k : Nat} {ls : List Sx} {s : List Cl} {x' : Sx} {c0 : Cl} (h : ∀ (j : Nat) (x : Sx) (c : Cl), ls[j]? = some x → s[j]? = some c → (j < k → Wk n x (feC c)) ∧ (k ≤ j → Wk n x c ∧ Nw x c)) (hc : s[k]? = some c0) (hk : Wk n x' (feC c0)) : ∀ (j : Nat) (y : Sx) (c : Cl), (ls.set k x')[j]? = some y → s[j]? = some c → (j < k + 1 → Wk n y (feC c)) ∧ (k + 1 ≤ j → Wk n y c ∧ Nw y c) := fun j y c e1 e2 => by
  by_cases hj : k = j
  · subst hj
    have h1 := (List.getElem?_eq_some_iff.1 e1).1
    rw [List.length_set] at h1
    rw [List.getElem?_set_self h1] at e1
    rw [hc] at e2
    cases e1
    cases e2
    exact ⟨fun _ => hk, fun h => by omega⟩
  · rw [List.getElem?_set_ne hj] at e1
    exact ⟨fun h1 => (h j y c e1 e2).1 (by omega), fun h1 => (h j y c e1 e2).2 (by omega)⟩
theorem sx_same {ls : List Sx} {k : Nat} {x : Sx} (h : ls[k]? = some x) : ls.set k x = ls := by
  apply List.ext_getElem?
  intro j
  by_cases hj : k = j
  · subst hj
    rw [List.getElem?_set_self (List.getElem?_eq_some_iff.1 h).1, h]
  · rw [List.getElem?_set_ne hj]
theorem fe_same {n k : Nat} {ls : List Sx} {s : List Cl} {x : Sx} {c0 : Cl} (h : ∀ (j : Nat) (x : Sx) (c : Cl), ls[j]? = some x → s[j]? = some c → (j < k → Wk n x (feC c)) ∧ (k ≤ j → Wk n x c ∧ Nw x c)) (hx : ls[k]? = some x) (hc : s[k]? = some c0) (hk : Wk n x (feC c0)) : ∀ (j : Nat) (y : Sx) (c : Cl), ls[j]? = some y → s[j]? = some c → (j < k + 1 → Wk n y (feC c)) ∧ (k + 1 ≤ j → Wk n y c ∧ Nw y c) := fun j y c e1 e2 => fe_step h hc hk j y c (by rw [sx_same hx]; exact e1) e2
theorem fe_end {n k j : Nat} {ls : List Sx} {s : List Cl} {x : Sx} {c : Cl} (h : ∀ (j : Nat) (x : Sx) (c : Cl), ls[j]? = some x → s[j]? = some c → (j < k → Wk n x (feC c)) ∧ (k ≤ j → Wk n x c ∧ Nw x c)) (e1 : ls[j]? = some x) (e2 : (s.map feC)[j]? = some c) (hj : j < k) : Wk n x c := by
  rw [List.getElem?_map] at e2
  cases e : s[j]? with
  | none => rw [e] at e2; cases e2
  | some c0 =>
    rw [e] at e2
    cases e2
    exact (h j x c0 e1 e).1 hj
theorem up_step {n k : Nat} {ls : List Sx} {s : List Cl} {x' : Sx} {c0 : Cl} (h : ∀ (j : Nat) (x : Sx) (c : Cl), ls[j]? = some x → s[j]? = some c → Wk (n + 2) x c ∧ (j < k → Nw x c) ∧ (k ≤ j → x.ts.length ≤ n + 1)) (hc : s[k]? = some c0) (hk : Wk (n + 2) x' c0 ∧ Nw x' c0) : ∀ (j : Nat) (y : Sx) (c : Cl), (ls.set k x')[j]? = some y → s[j]? = some c → Wk (n + 2) y c ∧ (j < k + 1 → Nw y c) ∧ (k + 1 ≤ j → y.ts.length ≤ n + 1) := fun j y c e1 e2 => by
  by_cases hj : k = j
  · subst hj
    have h1 := (List.getElem?_eq_some_iff.1 e1).1
    rw [List.length_set] at h1
    rw [List.getElem?_set_self h1] at e1
    rw [hc] at e2
    cases e1
    cases e2
    exact ⟨hk.1, fun _ => hk.2, fun h => by omega⟩
  · rw [List.getElem?_set_ne hj] at e1
    have h9 := h j y c e1 e2
    exact ⟨h9.1, fun h1 => h9.2.1 (by omega), fun h1 => h9.2.2 (by omega)⟩
theorem up_same {n k : Nat} {ls : List Sx} {s : List Cl} {x : Sx} {c0 : Cl} (h : ∀ (j : Nat) (x : Sx) (c : Cl), ls[j]? = some x → s[j]? = some c → Wk (n + 2) x c ∧ (j < k → Nw x c) ∧ (k ≤ j → x.ts.length ≤ n + 1)) (hx : ls[k]? = some x) (hc : s[k]? = some c0) (hk : Nw x c0) : ∀ (j : Nat) (y : Sx) (c : Cl), ls[j]? = some y → s[j]? = some c → Wk (n + 2) y c ∧ (j < k + 1 → Nw y c) ∧ (k + 1 ≤ j → y.ts.length ≤ n + 1) := fun j y c e1 e2 => up_step h hc ⟨(h k x c0 hx hc).1, hk⟩ j y c (by rw [sx_same hx]; exact e1) e2
theorem Wk.more2 {n : Nat} {x : Sx} {c : Cl} (h : Wk (n + 2) x c) (hl : x.ts.length ≤ n + 1) (b off cap : Nat) : Wk (n + 2) ⟨b, off, cap, x.ts ++ [cB c.1], x.fl⟩ c ∧ Nw ⟨b, off, cap, x.ts ++ [cB c.1], x.fl⟩ c := Wk.more ⟨h.pos, hl, h.last, h.qu, h.ok1, h.ok2, h.ok3⟩ b off cap
theorem app_v {x : Sx} {y : Bs} {b off cap : Nat} : Sx.v ⟨b, off, cap, x.ts ++ [y], x.fl⟩ = .slice (some ⟨b, off, none⟩) (x.ts.length + 1) cap := by
  unfold Sx.v
  show Value.slice _ (x.ts ++ [y]).length _ = _
  rw [List.length_append]
  rfl
theorem store_T2 {m gn gl qb N j v : Nat} {b : Int} {w : World} {s : List Cl} {c : Cl} (hj : b = (j : Int)) (M : Mem w m gn gl qb N s) (hc : s[j / 8]? = some c) :
    Calls Try.prog 22 #[.pointer (some ⟨m, 0, none⟩), .int .i64 b, .int .u64 (v : Int)] w fun e w' => e = .returned (.int .i64 0) ∧ Mem w' m gn gl qb N (s.set (j / 8) (wrC c (j % 8) v)) ∧ Kept (KM w gn gl qb) w w' := by
  subst hj
  exact store_T w m gn gl qb N j v M hc
theorem st_store {n j v : Nat} {ls : List Sx} {s : List Cl} {c0 : Cl} (hG : ∀ (k : Nat) (x : Sx) (c : Cl), ls[k]? = some x → s[k]? = some c → Wk n x c ∧ Nw x c) (hc : s[j / 8]? = some c0) (hv : (v : Int) < 18446744073709551616) : ∀ (k : Nat) (x : Sx) (c : Cl), ls[k]? = some x → (s.set (j / 8) (wrC c0 (j % 8) v))[k]? = some c → Wk n x c := fun k x c e1 e2 => by
  by_cases hk : j / 8 = k
  · subst hk
    rw [List.getElem?_set_self (List.getElem?_eq_some_iff.1 hc).1] at e2
    cases e2
    exact (hG _ x c0 e1 hc).1.store (by omega)
  · rw [List.getElem?_set_ne hk] at e2
    exact (hG k x c e1 e2).1
theorem lasts_walk (v0 v1 v2 : Value) (ws : List Nat) (xs : List (Int × Int × Int)) (ps : List Nat) (w : World) (hv : ReadsT uE 1 w v0 ws) (hb64 : ∀ x ∈ ws, x < 18446744073709551616) (hs : ReadsT actE 3 w v1 xs) (hx : ∀ x ∈ xs, 0 ≤ x.2.2 ∧ x.2.2 < 18446744073709551616) (hp : ReadsT yE 1 w v2 ps) (hb : ∀ p ∈ ps, p < 256) (hL : ws.length ≤ 9223372036854775807) (hn : xs.length ≤ 9223372036854775807) (hP : ps.length ≤ 9223372036854775807) : Calls Try.prog 8 #[v0, v1, v2] w fun e w' => e = .returned (.bool true) ∧ Below w.heap.size w w' := by
  have q := Below.refl w.heap.size w
  obtain ⟨a0, c0, rfl, _⟩ := hv.form rfl
  obtain ⟨a1, c1, rfl, _⟩ := hs.form rfl
  obtain ⟨a2, c2, rfl, _⟩ := hp.form rfl
  obtain ⟨L, eL⟩ : ∃ L, ws.length = L := ⟨_, rfl⟩
  obtain ⟨n, en⟩ : ∃ n, xs.length = n := ⟨_, rfl⟩
  obtain ⟨K, eK⟩ : ∃ K, ps.length = K := ⟨_, rfl⟩
  rw [eL] at hv hL ⊢
  rw [en] at hs hn ⊢
  rw [eK] at hp hP ⊢
  have hvF : ∀ W, Below w.heap.size w W → ReadsT uE 1 W (.slice a0 L c0) ws := fun W b => hv.up b
  have hsF : ∀ W, Below w.heap.size w W → ReadsT actE 3 W (.slice a1 n c1) xs := fun W b => hs.up b
  have hpF : ∀ W, Below w.heap.size w W → ReadsT yE 1 W (.slice a2 K c2) ps := fun W b => hp.up b
  clear hv hs hp
  by_cases h64 : L ≤ 32
  case neg =>
    refine X.fn Try.func8 rfl (n := 266) rfl rfl ?_
    refine CC.seq ?_
    refine CC.region ?_
    refine LL.val (R.assign rfl rfl) rfl rfl rfl ?_
    refine LL.nilS ?_
    refine CC.seq ?_
    refine CC.seq ?_
    refine CC.region ?_
    refine LL.val (R.move rfl rfl) rfl rfl rfl ?_
    refine LL.val (R.len rfl rfl rfl rfl) rfl rfl rfl ?_
    refine LL.val (R.gtT rfl rfl rfl (by omega)) rfl rfl rfl ?_
    refine LL.val (R.move rfl rfl) rfl rfl rfl ?_
    refine LL.skip rfl rfl ?_
    refine LL.skip rfl rfl ?_
    refine LL.skip rfl rfl ?_
    refine LL.skip rfl rfl ?_
    refine LL.val (R.pick rfl rfl rfl) rfl rfl rfl ?_
    refine LL.val (R.move rfl rfl) rfl rfl rfl ?_
    refine LL.skip rfl rfl ?_
    refine LL.skip rfl rfl ?_
    refine LL.skip rfl rfl ?_
    refine LL.val (R.pick rfl rfl rfl) rfl rfl rfl ?_
    refine LL.val (R.move rfl rfl) rfl rfl rfl ?_
    refine LL.skip rfl rfl ?_
    refine LL.skip rfl rfl ?_
    refine LL.skip rfl rfl ?_
    refine LL.val (R.pick rfl rfl rfl) rfl rfl rfl ?_
    refine LL.nilS ?_
    refine CC.yes rfl ?_
    refine CC.seq ?_
    refine CC.region ?_
    refine LL.call (R.call rfl rfl rfl) rfl rfl rfl (works_any _) ?_
    rintro e W2 ⟨rfl, b1⟩
    refine ⟨_, rfl, ?_⟩
    have zb1 := b1.size
    replace q := q.trans (b1.mono q.size)
    refine LL.val (R.assign rfl rfl) rfl rfl rfl ?_
    refine LL.nilS ?_
    refine CC.ret ?_
    refine EE.thenR ?_
    refine EE.ret _ rfl rfl ?_
    exact ⟨rfl, q⟩
  by_cases h8 : 8 ≤ L ∧ L % 8 = 0
  case neg =>
    have hr : (L : Int) < 8 ∨ 131072 < (L : Int) ∨ (L : Int) % 8 ≠ 0 := by omega
    clear h8
    refine X.fn Try.func8 rfl (n := 266) rfl rfl ?_
    refine CC.seq ?_
    refine CC.region ?_
    refine LL.val (R.assign rfl rfl) rfl rfl rfl ?_
    refine LL.nilS ?_
    refine CC.seq ?_
    refine CC.seq ?_
    refine CC.region ?_
    refine LL.val (R.move rfl rfl) rfl rfl rfl ?_
    refine LL.val (R.len rfl rfl rfl rfl) rfl rfl rfl ?_
    refine LL.val (R.gtF rfl rfl rfl (by omega)) rfl rfl rfl ?_
    refine LL.val (R.move rfl rfl) rfl rfl rfl ?_
    refine LL.val (R.move rfl rfl) rfl rfl rfl ?_
    refine LL.val (R.len rfl rfl rfl rfl) rfl rfl rfl ?_
    refine LL.call (R.call rfl rfl rfl) rfl rfl rfl (right_F _ _ (by first | assumption | omega)) ?_
    rintro e W' ⟨rfl, rfl⟩
    refine ⟨_, rfl, ?_⟩
    refine LL.val (R.not rfl rfl) rfl rfl rfl ?_
    refine LL.val (R.pick rfl rfl rfl) rfl rfl rfl ?_
    refine LL.val (R.move rfl rfl) rfl rfl rfl ?_
    refine LL.skip rfl rfl ?_
    refine LL.skip rfl rfl ?_
    refine LL.skip rfl rfl ?_
    refine LL.val (R.pick rfl rfl rfl) rfl rfl rfl ?_
    refine LL.val (R.move rfl rfl) rfl rfl rfl ?_
    refine LL.skip rfl rfl ?_
    refine LL.skip rfl rfl ?_
    refine LL.skip rfl rfl ?_
    refine LL.val (R.pick rfl rfl rfl) rfl rfl rfl ?_
    refine LL.nilS ?_
    refine CC.yes rfl ?_
    refine CC.seq ?_
    refine CC.region ?_
    refine LL.call (R.call rfl rfl rfl) rfl rfl rfl (works_any _) ?_
    rintro e Wa2 ⟨rfl, ba1⟩
    refine ⟨_, rfl, ?_⟩
    have zba1 := ba1.size
    replace q := q.trans (ba1.mono q.size)
    refine LL.val (R.assign rfl rfl) rfl rfl rfl ?_
    refine LL.nilS ?_
    refine CC.ret ?_
    refine EE.thenR ?_
    refine EE.ret _ rfl rfl ?_
    exact ⟨rfl, q⟩
  obtain ⟨N, rfl⟩ : ∃ N, L = N * 8 := ⟨L / 8, by omega⟩
  have h0 : 0 < N := by omega
  have hN : N ≤ 16384 := by omega
  have hN4 : N ≤ 4 := by omega
  clear h8
  by_cases h60 : n ≤ 60
  case neg =>
    refine X.fn Try.func8 rfl (n := 266) rfl rfl ?_
    refine CC.seq ?_
    refine CC.region ?_
    refine LL.val (R.assign rfl rfl) rfl rfl rfl ?_
    refine LL.nilS ?_
    refine CC.seq ?_
    refine CC.seq ?_
    refine CC.region ?_
    refine LL.val (R.move rfl rfl) rfl rfl rfl ?_
    refine LL.val (R.len rfl rfl rfl rfl) rfl rfl rfl ?_
    refine LL.val (R.gtF rfl rfl rfl (by omega)) rfl rfl rfl ?_
    refine LL.val (R.move rfl rfl) rfl rfl rfl ?_
    refine LL.val (R.move rfl rfl) rfl rfl rfl ?_
    refine LL.val (R.len rfl rfl rfl rfl) rfl rfl rfl ?_
    refine LL.call (R.call rfl rfl rfl) rfl rfl rfl (right_T _ _ (by first | assumption | omega)) ?_
    rintro e W' ⟨rfl, rfl⟩
    refine ⟨_, rfl, ?_⟩
    refine LL.val (R.not rfl rfl) rfl rfl rfl ?_
    refine LL.val (R.pick rfl rfl rfl) rfl rfl rfl ?_
    refine LL.val (R.move rfl rfl) rfl rfl rfl ?_
    refine LL.val (R.move rfl rfl) rfl rfl rfl ?_
    refine LL.val (R.len rfl rfl rfl rfl) rfl rfl rfl ?_
    refine LL.val (R.gtT rfl rfl rfl (by omega)) rfl rfl rfl ?_
    refine LL.val (R.pick rfl rfl rfl) rfl rfl rfl ?_
    refine LL.val (R.move rfl rfl) rfl rfl rfl ?_
    refine LL.skip rfl rfl ?_
    refine LL.skip rfl rfl ?_
    refine LL.skip rfl rfl ?_
    refine LL.val (R.pick rfl rfl rfl) rfl rfl rfl ?_
    refine LL.nilS ?_
    refine CC.yes rfl ?_
    refine CC.seq ?_
    refine CC.region ?_
    refine LL.call (R.call rfl rfl rfl) rfl rfl rfl (works_any _) ?_
    rintro e Wb2 ⟨rfl, bb1⟩
    refine ⟨_, rfl, ?_⟩
    have zbb1 := bb1.size
    replace q := q.trans (bb1.mono q.size)
    refine LL.val (R.assign rfl rfl) rfl rfl rfl ?_
    refine LL.nilS ?_
    refine CC.ret ?_
    refine EE.thenR ?_
    refine EE.ret _ rfl rfl ?_
    exact ⟨rfl, q⟩
  by_cases h10 : K ≤ 10
  case neg =>
    refine X.fn Try.func8 rfl (n := 266) rfl rfl ?_
    refine CC.seq ?_
    refine CC.region ?_
    refine LL.val (R.assign rfl rfl) rfl rfl rfl ?_
    refine LL.nilS ?_
    refine CC.seq ?_
    refine CC.seq ?_
    refine CC.region ?_
    refine LL.val (R.move rfl rfl) rfl rfl rfl ?_
    refine LL.val (R.len rfl rfl rfl rfl) rfl rfl rfl ?_
    refine LL.val (R.gtF rfl rfl rfl (by omega)) rfl rfl rfl ?_
    refine LL.val (R.move rfl rfl) rfl rfl rfl ?_
    refine LL.val (R.move rfl rfl) rfl rfl rfl ?_
    refine LL.val (R.len rfl rfl rfl rfl) rfl rfl rfl ?_
    refine LL.call (R.call rfl rfl rfl) rfl rfl rfl (right_T _ _ (by first | assumption | omega)) ?_
    rintro e W' ⟨rfl, rfl⟩
    refine ⟨_, rfl, ?_⟩
    refine LL.val (R.not rfl rfl) rfl rfl rfl ?_
    refine LL.val (R.pick rfl rfl rfl) rfl rfl rfl ?_
    refine LL.val (R.move rfl rfl) rfl rfl rfl ?_
    refine LL.val (R.move rfl rfl) rfl rfl rfl ?_
    refine LL.val (R.len rfl rfl rfl rfl) rfl rfl rfl ?_
    refine LL.val (R.gtF rfl rfl rfl (by omega)) rfl rfl rfl ?_
    refine LL.val (R.pick rfl rfl rfl) rfl rfl rfl ?_
    refine LL.val (R.move rfl rfl) rfl rfl rfl ?_
    refine LL.val (R.move rfl rfl) rfl rfl rfl ?_
    refine LL.val (R.len rfl rfl rfl rfl) rfl rfl rfl ?_
    refine LL.val (R.gtT rfl rfl rfl (by omega)) rfl rfl rfl ?_
    refine LL.val (R.pick rfl rfl rfl) rfl rfl rfl ?_
    refine LL.nilS ?_
    refine CC.yes rfl ?_
    refine CC.seq ?_
    refine CC.region ?_
    refine LL.call (R.call rfl rfl rfl) rfl rfl rfl (works_any _) ?_
    rintro e Wc2 ⟨rfl, bc1⟩
    refine ⟨_, rfl, ?_⟩
    have zbc1 := bc1.size
    replace q := q.trans (bc1.mono q.size)
    refine LL.val (R.assign rfl rfl) rfl rfl rfl ?_
    refine LL.nilS ?_
    refine CC.ret ?_
    refine EE.thenR ?_
    refine EE.ret _ rfl rfl ?_
    exact ⟨rfl, q⟩
  refine X.fn Try.func8 rfl (n := 266) rfl rfl ?_
  refine CC.seq ?_
  refine CC.region ?_
  refine LL.val (R.assign rfl rfl) rfl rfl rfl ?_
  refine LL.nilS ?_
  refine CC.seq ?_
  refine CC.seq ?_
  refine CC.region ?_
  refine LL.val (R.move rfl rfl) rfl rfl rfl ?_
  refine LL.val (R.len rfl rfl rfl rfl) rfl rfl rfl ?_
  refine LL.val (R.gtF rfl rfl rfl (by omega)) rfl rfl rfl ?_
  refine LL.val (R.move rfl rfl) rfl rfl rfl ?_
  refine LL.val (R.move rfl rfl) rfl rfl rfl ?_
  refine LL.val (R.len rfl rfl rfl rfl) rfl rfl rfl ?_
  refine LL.call (R.call rfl rfl rfl) rfl rfl rfl (right_T _ _ (by first | assumption | omega)) ?_
  rintro e W' ⟨rfl, rfl⟩
  refine ⟨_, rfl, ?_⟩
  refine LL.val (R.not rfl rfl) rfl rfl rfl ?_
  refine LL.val (R.pick rfl rfl rfl) rfl rfl rfl ?_
  refine LL.val (R.move rfl rfl) rfl rfl rfl ?_
  refine LL.val (R.move rfl rfl) rfl rfl rfl ?_
  refine LL.val (R.len rfl rfl rfl rfl) rfl rfl rfl ?_
  refine LL.val (R.gtF rfl rfl rfl (by omega)) rfl rfl rfl ?_
  refine LL.val (R.pick rfl rfl rfl) rfl rfl rfl ?_
  refine LL.val (R.move rfl rfl) rfl rfl rfl ?_
  refine LL.val (R.move rfl rfl) rfl rfl rfl ?_
  refine LL.val (R.len rfl rfl rfl rfl) rfl rfl rfl ?_
  refine LL.val (R.gtF rfl rfl rfl (by omega)) rfl rfl rfl ?_
  refine LL.val (R.pick rfl rfl rfl) rfl rfl rfl ?_
  refine LL.nilS ?_
  refine CC.no rfl ?_
  refine CC.skip ?_
  refine EE.thenN ?_
  refine CC.seq ?_
  refine CC.region ?_
  refine LL.val (R.move rfl rfl) rfl rfl rfl ?_
  (refine LL.call (R.call rfl rfl rfl) rfl rfl rfl (of_T a0 (N * 8) c0 N ws _ (hvF _ q) rfl h0 hN) ?_; rintro e Wd151 ⟨m, gn, gl, qb, rfl, M, lm, ln, ll, lq, bd148⟩; refine ⟨_, rfl, ?_⟩; have lts := M.lts)
  have zbd148 := bd148.size
  replace q := q.trans (bd148.mono q.size)
  refine LL.val (R.move rfl rfl) rfl rfl rfl ?_
  refine LL.val (R.extract rfl rfl rfl) rfl rfl rfl ?_
  refine LL.val (R.extract rfl rfl rfl) rfl rfl rfl ?_
  refine LL.val (R.assign rfl rfl) rfl rfl rfl ?_
  refine LL.val (R.assign rfl rfl) rfl rfl rfl ?_
  refine LL.nilS ?_
  refine CC.seq ?_
  refine CC.seq ?_
  refine CC.region ?_
  refine LL.val (R.move rfl rfl) rfl rfl rfl ?_
  refine LL.call (R.call rfl rfl rfl) rfl rfl rfl (num_any _ _) ?_
  rintro e W' ⟨rfl, rfl⟩
  refine ⟨_, rfl, ?_⟩
  refine LL.val (R.neF rfl rfl rfl (by omega)) rfl rfl rfl ?_
  refine LL.nilS ?_
  refine CC.no rfl ?_
  refine CC.skip ?_
  refine EE.thenN ?_
  refine CC.seq ?_
  refine CC.region ?_
  refine LL.val (R.move rfl rfl) rfl rfl rfl ?_
  refine LL.val (R.len rfl rfl rfl rfl) rfl rfl rfl ?_
  refine LL.val (R.quoNc rfl rfl rfl rfl (by omega) (by omega)) rfl rfl rfl ?_
  refine LL.val (R.assign rfl rfl) rfl rfl rfl ?_
  refine LL.nilS ?_
  refine CC.seq ?_
  refine CC.region ?_
  refine LL.val (R.move rfl rfl) rfl rfl rfl ?_
  rw [show N * 8 / 8 = N by omega]
  (refine LL.makeE (zs := [.slice none 0 0]) (l := N) (m := N) ElSs rfl (by decide) rfl rfl rfl (Nat.le_refl _) (by omega) (by omega) rfl rfl ?_; intro We4 gs egs rs zgs be1; rw [rep_flat] at rs)
  have zbe1 := be1.size
  replace M := M.up be1
  replace bd148 := bd148.trans (be1.mono bd148.size)
  replace q := q.trans (be1.mono q.size)
  refine LL.val (R.assign rfl rfl) rfl rfl rfl ?_
  refine LL.nilS ?_
  refine CC.seq ?_
  refine CC.region ?_
  refine LL.val (R.move rfl rfl) rfl rfl rfl ?_
  have le52 := rs.lt
  (refine LL.makeE (zs := [.int .i64 0]) (l := N) (m := N) ElI7 rfl (by decide) rfl rfl rfl (Nat.le_refl _) (by omega) (by omega) rfl rfl ?_; intro We51 gf egf rf zgf be48; rw [rep_flat] at rf)
  have zbe48 := be48.size
  replace rs := rs.up be48
  replace be1 := be1.trans (be48.mono be1.size)
  replace M := M.up be48
  replace bd148 := bd148.trans (be48.mono bd148.size)
  replace q := q.trans (be48.mono q.size)
  refine LL.val (R.assign rfl rfl) rfl rfl rfl ?_
  refine LL.nilS ?_
  refine CC.seq ?_
  refine CC.seq ?_
  refine CC.region ?_
  refine LL.val (R.assign rfl rfl) rfl rfl rfl ?_
  refine LL.nilS ?_
  refine CC.block ?_
  have yq := q.size
  have hgs := rs.lt
  have lts2 := M.lts
  have lgs : w.heap.size ≤ gs ∧ gs < gf ∧ m < gs ∧ gn < gs ∧ gl < gs ∧ qb < gs := by omega
  obtain ⟨s0, es⟩ : ∃ s, s = ofS N ws := ⟨_, rfl⟩
  rw [← es] at M
  have hof := fun i (h : i < N) => ofS_ok (N := N) hb64 h
  rw [← es] at hof
  clear es hb64 hvF lts lts2
  refine CC.loop (α := List Sx) (fun ls => [(0, .slice a0 (N * 8) c0), (1, .slice a1 n c1), (2, .slice a2 K c2), (7, .pointer (some ⟨m, 0, none⟩)), (9, .int .i64 (N : Int)), (10, .slice (some ⟨gs, 0, none⟩) N N), (11, .slice (some ⟨gf, 0, none⟩) N N), (12, .int .i64 (ls.length : Int))]) (fun ls W => InA w N (gf + 1) m gn gl qb gs gf s0 ls W) (fun ls => N - ls.length) [] ⟨rfl, rfl, rfl, rfl, rfl, rfl, rfl, rfl, trivial⟩ ⟨Nat.zero_le _, q, M, rs, rf, ⟨fun k x e => (by cases e), fun j k x y e => (by cases e)⟩, by omega, fun k x c e => by cases e⟩ ?_
  clear q M rs rf
  rintro ls W ⟨hle, q, M, rs, rf, hS, hz, hG⟩
  show CC none Try.prog _ 266 [] (sl [(0, .slice a0 (N * 8) c0), (1, .slice a1 n c1), (2, .slice a2 K c2), (7, .pointer (some ⟨m, 0, none⟩)), (9, .int .i64 (N : Int)), (10, .slice (some ⟨gs, 0, none⟩) N N), (11, .slice (some ⟨gf, 0, none⟩) N N), (12, .int .i64 (ls.length : Int))]) _ W
  have yw := q.size
  by_cases hlt : ls.length < N
  case pos =>
    obtain ⟨y, oky, hc⟩ := hof _ hlt
    have hrl : (ls.map Sx.v ++ List.replicate (N - ls.length) (Value.slice none 0 0)).length = N := by simp; omega
    have hfl : (ls.map Sx.f ++ List.replicate (N - ls.length) (Value.int .i64 0)).length = N := by simp; omega
    refine CC.seq ?_
    refine CC.seq ?_
    refine CC.region ?_
    refine LL.val (R.move rfl rfl) rfl rfl rfl ?_
    refine LL.val (R.move rfl rfl) rfl rfl rfl ?_
    refine LL.val (R.ltT rfl rfl rfl (by omega)) rfl rfl rfl ?_
    refine LL.nilS ?_
    refine CC.yes rfl ?_
    refine CC.skip ?_
    refine EE.thenN ?_
    refine CC.seq ?_
    refine CC.block ?_
    refine CC.region ?_
    refine LL.val (R.move rfl rfl) rfl rfl rfl ?_
    refine LL.val (R.move rfl rfl) rfl rfl rfl ?_
    refine LL.val (R.move rfl rfl) rfl rfl rfl ?_
    refine LL.val (R.move rfl rfl) rfl rfl rfl ?_
    refine LL.val (R.move rfl rfl) rfl rfl rfl ?_
    refine LL.val (R.move rfl rfl) rfl rfl rfl ?_
    have lf293 := rs.lt
    have lf294 := rf.lt
    (refine LL.call (R.call rfl rfl rfl) rfl rfl rfl (content_any m gn gl qb N ls.length _ M hc oky) ?_; rintro e Wf292 ⟨rfl, bf289⟩; refine ⟨_, rfl, ?_⟩)
    have zbf289 := bf289.size
    replace q := q.trans (bf289.mono q.size)
    replace M := M.up bf289
    replace rs := rs.up bf289
    replace rf := rf.up bf289
    replace hS := hS.up bf289
    have lf311 := rs.lt
    have lf312 := rf.lt
    (refine LL.lit (e := 9) [strV (cB y)] 1 rfl rfl (fun _ => by kernel_rfl) rfl rfl ?_; intro Wf310 gt egt rt zgt bf307)
    have zbf307 := bf307.size
    replace bf289 := bf289.trans (bf307.mono bf289.size)
    replace q := q.trans (bf307.mono q.size)
    replace M := M.up bf307
    replace rs := rs.up bf307
    replace rf := rf.up bf307
    replace hS := hS.up bf307
    refine LL.val (R.index rfl rfl rfl (I.ixS1 rfl (by omega))) rfl rfl rfl ?_
    (refine LL.store rfl rfl rfl rfl rs (by rw [hrl]; omega) rfl rfl rfl rfl ?_; intro Wf373 rs9 grf371 zz9; rw [Nat.zero_add] at rs9; clear rs; have rs := rs9; clear rs9)
    have zgrf371 := grf371.size
    replace rt := rt.gr grf371 (by have := rt.lt; omega)
    replace q := q.grown grf371 q.size (by rintro k ⟨⟩; omega)
    replace M := M.gr grf371 (by omega)
    replace rf := rf.gr grf371 (by have := rf.lt; omega)
    replace hS := hS.gr grf371 (by omega)
    refine LL.val (R.index rfl rfl rfl (I.ixS1 rfl (by omega))) rfl rfl rfl ?_
    (refine LL.store rfl rfl rfl rfl rf (by rw [hfl]; omega) rfl rfl rfl rfl ?_; intro Wf441 rf9 grf439 zz8; rw [Nat.zero_add] at rf9; clear rf; have rf := rf9; clear rf9)
    have zgrf439 := grf439.size
    replace rs := rs.gr grf439 (by have := rs.lt; omega)
    replace rt := rt.gr grf439 (by have := rt.lt; omega)
    replace q := q.grown grf439 q.size (by rintro k ⟨⟩; omega)
    replace M := M.gr grf439 (by omega)
    replace hS := hS.gr grf439 (by omega)
    refine LL.nil ?_
    refine EE.inN ?_
    refine EE.thenN ?_
    refine CC.region ?_
    refine LL.val (R.move rfl rfl) rfl rfl rfl ?_
    refine LL.val (R.addNc rfl rfl rfl rfl (by omega)) rfl rfl rfl ?_
    refine LL.val (R.assign rfl rfl) rfl rfl rfl ?_
    refine LL.nil ?_
    exact EE.round (ls ++ [⟨gt, 0, 1, [cB y], -1⟩]) ⟨rfl, rfl, rfl, rfl, rfl, rfl, rfl, congrArg (fun k : Nat => some (Value.int .i64 (k : Int))) (show ls.length + 1 = (ls ++ [_]).length by simp), trivial⟩ (inA_add rfl hlt ⟨hle, q, M, rs, rf, hS, by omega⟩ rt hG hc oky hz (by omega)) (by rw [List.length_append]; show N - (ls.length + 1) < N - ls.length; omega)
  case neg =>
    have hlN : ls.length = N := by omega
    have hrl : (ls.map Sx.v).length = N := by simp; omega
    have hfl : (ls.map Sx.f).length = N := by simp; omega
    rw [hlN, Nat.sub_self] at rs rf
    replace rs : RowL W gs 75 (ls.map Sx.v) := by simpa using rs
    replace rf : RowL W gf 3 (ls.map Sx.f) := by simpa using rf
    clear hof hlt hle hrl hfl
    rw [hlN]
    refine CC.seq ?_
    refine CC.seq ?_
    refine CC.region ?_
    refine LL.val (R.move rfl rfl) rfl rfl rfl ?_
    refine LL.val (R.move rfl rfl) rfl rfl rfl ?_
    refine LL.val (R.ltF rfl rfl rfl (by omega)) rfl rfl rfl ?_
    refine LL.nilS ?_
    refine CC.no rfl ?_
    refine CC.exit ?_
    refine EE.thenX ?_
    refine EE.thenX ?_
    refine EE.inX ?_
    refine EE.thenN ?_
    refine CC.seq ?_
    refine CC.seq ?_
    refine CC.region ?_
    refine LL.val (R.assign rfl rfl) rfl rfl rfl ?_
    refine LL.nilS ?_
    refine CC.block ?_
    refine CC.loop (α := Nat × List Sx × List Cl) (fun t => [(0, .slice a0 (N * 8) c0), (1, .slice a1 n c1), (2, .slice a2 K c2), (7, .pointer (some ⟨m, 0, none⟩)), (9, .int .i64 (N : Int)), (10, .slice (some ⟨gs, 0, none⟩) N N), (11, .slice (some ⟨gf, 0, none⟩) N N), (13, .int .i64 (t.1 : Int))]) (fun t X => t.1 ≤ n ∧ InB w N (gf + 1) m gn gl qb gs gf t.2.2 t.2.1 X ∧ ∀ (k : Nat) (x : Sx) (c : Cl), t.2.1[k]? = some x → t.2.2[k]? = some c → Wk (t.1 + 1) x c ∧ Nw x c) (fun t => n - t.1) (0, ls, s0) ⟨rfl, rfl, rfl, rfl, rfl, rfl, rfl, rfl, trivial⟩ ⟨Nat.zero_le _, ⟨hlN, q, M, rs, rf, hS, hz⟩, hG⟩ ?_
    clear q M rs rf hS hz hG hlN yw
    rintro ⟨i, ls, s⟩ W ⟨hi, ⟨hlN, q, M, rs, rf, hS, hz⟩, hG⟩
    dsimp only at hi hlN M rs rf hS hG
    show CC none Try.prog _ 266 [] (sl [(0, .slice a0 (N * 8) c0), (1, .slice a1 n c1), (2, .slice a2 K c2), (7, .pointer (some ⟨m, 0, none⟩)), (9, .int .i64 (N : Int)), (10, .slice (some ⟨gs, 0, none⟩) N N), (11, .slice (some ⟨gf, 0, none⟩) N N), (13, .int .i64 (i : Int))]) _ W
    have yw := q.size
    by_cases hlt : i < n
    case neg =>
      have hsl := M.len
      refine CC.seq ?_
      refine CC.seq ?_
      refine CC.region ?_
      refine LL.val (R.move rfl rfl) rfl rfl rfl ?_
      refine LL.val (R.move rfl rfl) rfl rfl rfl ?_
      refine LL.val (R.len rfl rfl rfl rfl) rfl rfl rfl ?_
      refine LL.val (R.ltF rfl rfl rfl (by omega)) rfl rfl rfl ?_
      refine LL.nilS ?_
      refine CC.no rfl ?_
      refine CC.exit ?_
      refine EE.thenX ?_
      refine EE.thenX ?_
      refine EE.inX ?_
      refine EE.thenN ?_
      refine CC.seq ?_
      refine CC.region ?_
      refine LL.val (R.move rfl rfl) rfl rfl rfl ?_
      refine LL.val (R.move rfl rfl) rfl rfl rfl ?_
      have lh59 := rs.lt
      have lh60 := rf.lt
      (refine LL.call (R.call rfl rfl rfl) rfl rfl rfl (crash_any m gn gl qb N a2 K c2 ps _ M (hpF _ q) eK (by omega) hb) ?_; rintro e Wh58 ⟨m3, gn3, gl3, qb3, rfl, M3, lm3, ln3, ll3, lq3, bh55⟩; refine ⟨_, rfl, ?_⟩; have lts3 := M3.lts)
      have zbh55 := bh55.size
      replace q := q.trans (bh55.mono q.size)
      replace M := M.up bh55
      replace rs := rs.up bh55
      replace rf := rf.up bh55
      replace hS := hS.up bh55
      refine LL.val (R.move rfl rfl) rfl rfl rfl ?_
      refine LL.val (R.extract rfl rfl rfl) rfl rfl rfl ?_
      refine LL.val (R.extract rfl rfl rfl) rfl rfl rfl ?_
      refine LL.val (R.assign rfl rfl) rfl rfl rfl ?_
      refine LL.val (R.assign rfl rfl) rfl rfl rfl ?_
      refine LL.nilS ?_
      refine CC.seq ?_
      refine CC.seq ?_
      refine CC.region ?_
      refine LL.val (R.move rfl rfl) rfl rfl rfl ?_
      refine LL.call (R.call rfl rfl rfl) rfl rfl rfl (num_any _ _) ?_
      rintro e W' ⟨rfl, rfl⟩
      refine ⟨_, rfl, ?_⟩
      refine LL.val (R.neF rfl rfl rfl (by omega)) rfl rfl rfl ?_
      refine LL.nilS ?_
      refine CC.no rfl ?_
      refine CC.skip ?_
      refine EE.thenN ?_
      refine CC.seq ?_
      refine CC.seq ?_
      refine CC.region ?_
      refine LL.val (R.assign rfl rfl) rfl rfl rfl ?_
      refine LL.nilS ?_
      refine CC.block ?_
      have hcr : (crS s ps).length = N := by rw [crS_len]; exact hsl
      clear M
      refine CC.loop (α := Nat) (fun k => [(9, .int .i64 (N : Int)), (10, .slice (some ⟨gs, 0, none⟩) N N), (18, .pointer (some ⟨m3, 0, none⟩)), (20, .int .i64 (k : Int))]) (fun k X => k ≤ N ∧ Below w.heap.size w X ∧ Mem X m3 gn3 gl3 qb3 N ((crS s ps).map nwC) ∧ RowL X gs 75 (ls.map Sx.v) ∧ Sb X (gf + 1) W.heap.size ls) (fun k => N - k) 0 ⟨rfl, rfl, rfl, rfl, trivial⟩ ⟨Nat.zero_le _, q, M3, rs, hS⟩ ?_
      clear q M3 rs rf hS hz
      rintro k X ⟨hk, q, M, rs, hS⟩
      show CC none Try.prog _ 266 [] (sl [(9, .int .i64 (N : Int)), (10, .slice (some ⟨gs, 0, none⟩) N N), (18, .pointer (some ⟨m3, 0, none⟩)), (20, .int .i64 (k : Int))]) _ X
      have yx := q.size
      by_cases hkN : k < N
      case neg =>
        clear M rs hS
        refine CC.seq ?_
        refine CC.seq ?_
        refine CC.region ?_
        refine LL.val (R.move rfl rfl) rfl rfl rfl ?_
        refine LL.val (R.move rfl rfl) rfl rfl rfl ?_
        refine LL.val (R.ltF rfl rfl rfl (by omega)) rfl rfl rfl ?_
        refine LL.nilS ?_
        refine CC.no rfl ?_
        refine CC.exit ?_
        refine EE.thenX ?_
        refine EE.thenX ?_
        refine EE.inX ?_
        refine EE.thenN ?_
        refine CC.seq ?_
        refine CC.region ?_
        refine LL.call (R.call rfl rfl rfl) rfl rfl rfl (works_any _) ?_
        rintro e Wi2 ⟨rfl, bi1⟩
        refine ⟨_, rfl, ?_⟩
        have zbi1 := bi1.size
        replace q := q.trans (bi1.mono q.size)
        refine LL.val (R.assign rfl rfl) rfl rfl rfl ?_
        refine LL.nilS ?_
        refine CC.ret ?_
        refine EE.ret _ rfl rfl ?_
        exact ⟨rfl, q⟩
      obtain ⟨c, hc⟩ : ∃ c, s[k]? = some c := ⟨_, List.getElem?_eq_getElem (by omega)⟩
      obtain ⟨x, hxj⟩ : ∃ x, ls[k]? = some x := ⟨_, List.getElem?_eq_getElem (by omega)⟩
      obtain ⟨y, hy⟩ : ∃ y, (crS s ps)[k]? = some y := ⟨_, List.getElem?_eq_getElem (by omega)⟩
      obtain ⟨hw, hnw⟩ := hG k x c hxj hc
      obtain ⟨hmem, oky⟩ := hw.crash hnw (crJ_mem hc _ hy)
      have hcy : ((crS s ps).map nwC)[k]? = some (nwC y) := by rw [List.getElem?_map, hy]; rfl
      have hpos := hw.pos
      have hlen := hw.len
      have hrl : (ls.map Sx.v).length = N := by simp; omega
      have cs9 := RowL.cell rs (show (ls.map Sx.v)[k]? = some (.slice (some ⟨x.b, x.off, none⟩) x.ts.length x.cap) from (by rw [List.getElem?_map, hxj]; rfl))
      rw [← Nat.zero_add k] at cs9
      refine CC.seq ?_
      refine CC.seq ?_
      refine CC.region ?_
      refine LL.val (R.move rfl rfl) rfl rfl rfl ?_
      refine LL.val (R.move rfl rfl) rfl rfl rfl ?_
      refine LL.val (R.ltT rfl rfl rfl (by omega)) rfl rfl rfl ?_
      refine LL.nilS ?_
      refine CC.yes rfl ?_
      refine CC.skip ?_
      refine EE.thenN ?_
      refine CC.seq ?_
      refine CC.block ?_
      refine CC.seq ?_
      refine CC.region ?_
      refine LL.val (R.move rfl rfl) rfl rfl rfl ?_
      refine LL.val (R.move rfl rfl) rfl rfl rfl ?_
      have lj45 := rs.lt
      (refine LL.call (R.call rfl rfl rfl) rfl rfl rfl (content_any m3 gn3 gl3 qb3 N k _ M hcy oky) ?_; rintro e Wj44 ⟨rfl, bj41⟩; refine ⟨_, rfl, ?_⟩)
      have zbj41 := bj41.size
      replace q := q.trans (bj41.mono q.size)
      replace M := M.up bj41
      replace rs := rs.up bj41
      replace hS := hS.up bj41
      replace cs9 := cell_up cs9 bj41
      refine LL.val (R.assign rfl rfl) rfl rfl rfl ?_
      refine LL.val (R.assign rfl rfl) rfl rfl rfl ?_
      refine LL.nilS ?_
      refine CC.seq ?_
      refine CC.seq ?_
      refine CC.region ?_
      refine LL.val (R.assign rfl rfl) rfl rfl rfl ?_
      refine LL.nilS ?_
      refine CC.block ?_
      refine CC.loop (α := Nat × Bool) (fun t => [(9, .int .i64 (N : Int)), (10, .slice (some ⟨gs, 0, none⟩) N N), (18, .pointer (some ⟨m3, 0, none⟩)), (20, .int .i64 (k : Int)), (21, strV (cB (nwC y).1)), (22, .bool t.2), (23, .int .i64 (t.1 : Int))]) (fun t X => t.1 ≤ x.ts.length ∧ Below w.heap.size w X ∧ Mem X m3 gn3 gl3 qb3 N ((crS s ps).map nwC) ∧ RowL X gs 75 (ls.map Sx.v) ∧ Sb X (gf + 1) W.heap.size ls ∧ t.2 = decide (cB y ∈ x.ts.take t.1)) (fun t => x.ts.length - t.1) (0, false) ⟨rfl, rfl, rfl, rfl, rfl, rfl, rfl, trivial⟩ ⟨Nat.zero_le _, q, M, rs, hS, rfl⟩ ?_
      clear q M rs hS cs9
      rintro ⟨t, f⟩ Y ⟨ht, q, M, rs, hS, hf⟩
      dsimp only at ht hf
      show CC none Try.prog _ 266 [] (sl [(9, .int .i64 (N : Int)), (10, .slice (some ⟨gs, 0, none⟩) N N), (18, .pointer (some ⟨m3, 0, none⟩)), (20, .int .i64 (k : Int)), (21, strV (cB (nwC y).1)), (22, .bool f), (23, .int .i64 (t : Int))]) _ Y
      have yy := q.size
      have hxb := (hS.sub k x hxj).2
      have cs9 := RowL.cell rs (show (ls.map Sx.v)[k]? = some (.slice (some ⟨x.b, x.off, none⟩) x.ts.length x.cap) from (by rw [List.getElem?_map, hxj]; rfl))
      rw [← Nat.zero_add k] at cs9
      by_cases htl : t < x.ts.length
      case neg =>
        obtain rfl : t = x.ts.length := by omega
        rw [List.take_length, decide_eq_true hmem] at hf
        subst hf
        refine CC.seq ?_
        refine CC.seq ?_
        refine CC.region ?_
        refine LL.val (R.move rfl rfl) rfl rfl rfl ?_
        refine LL.val (R.move rfl rfl) rfl rfl rfl ?_
        refine LL.val (R.move rfl rfl) rfl rfl rfl ?_
        refine LL.val (R.index rfl rfl rfl (I.ixS1 rfl (by omega))) rfl rfl rfl ?_
        refine LL.val (R.load rfl rfl (I.ld1 rfl (by assumption))) rfl rfl rfl ?_
        refine LL.val (R.len rfl rfl rfl rfl) rfl rfl rfl ?_
        refine LL.val (R.ltF rfl rfl rfl (by omega)) rfl rfl rfl ?_
        refine LL.nilS ?_
        refine CC.no rfl ?_
        refine CC.exit ?_
        refine EE.thenX ?_
        refine EE.thenX ?_
        refine EE.inX ?_
        refine EE.thenN ?_
        refine CC.seq ?_
        refine CC.region ?_
        refine LL.val (R.move rfl rfl) rfl rfl rfl ?_
        refine LL.val (R.not rfl rfl) rfl rfl rfl ?_
        refine LL.nilS ?_
        refine CC.no rfl ?_
        refine CC.skip ?_
        refine EE.inN ?_
        refine EE.thenN ?_
        refine CC.region ?_
        refine LL.val (R.move rfl rfl) rfl rfl rfl ?_
        refine LL.val (R.addNc rfl rfl rfl rfl (by omega)) rfl rfl rfl ?_
        refine LL.val (R.assign rfl rfl) rfl rfl rfl ?_
        refine LL.nil ?_
        exact EE.round (k + 1) ⟨rfl, rfl, rfl, rfl, trivial⟩ ⟨by show k + 1 ≤ N; omega, q, M, rs, hS⟩ (by show N - (k + 1) < N - k; omega)
      obtain ⟨u, hu⟩ : ∃ u, x.ts[t]? = some u := ⟨_, List.getElem?_eq_getElem htl⟩
      have ct9 := (hS.sub k x hxj).1.cell hu
      have htk : x.ts.take (t + 1) = x.ts.take t ++ [u] := by rw [List.take_add_one, hu]; rfl
      cases f with
      | true =>
        have h9 : cB y ∈ x.ts.take t := of_decide_eq_true hf.symm
        refine CC.seq ?_
        refine CC.seq ?_
        refine CC.region ?_
        refine LL.val (R.move rfl rfl) rfl rfl rfl ?_
        refine LL.val (R.move rfl rfl) rfl rfl rfl ?_
        refine LL.val (R.move rfl rfl) rfl rfl rfl ?_
        refine LL.val (R.index rfl rfl rfl (I.ixS1 rfl (by omega))) rfl rfl rfl ?_
        refine LL.val (R.load rfl rfl (I.ld1 rfl (by assumption))) rfl rfl rfl ?_
        refine LL.val (R.len rfl rfl rfl rfl) rfl rfl rfl ?_
        refine LL.val (R.ltT rfl rfl rfl (by omega)) rfl rfl rfl ?_
        refine LL.nilS ?_
        refine CC.yes rfl ?_
        refine CC.skip ?_
        refine EE.thenN ?_
        refine CC.seq ?_
        refine CC.block ?_
        refine CC.region ?_
        refine LL.val (R.move rfl rfl) rfl rfl rfl ?_
        refine LL.val (R.move rfl rfl) rfl rfl rfl ?_
        refine LL.skip rfl rfl ?_
        refine LL.skip rfl rfl ?_
        refine LL.skip rfl rfl ?_
        refine LL.skip rfl rfl ?_
        refine LL.skip rfl rfl ?_
        refine LL.skip rfl rfl ?_
        refine LL.skip rfl rfl ?_
        refine LL.skip rfl rfl ?_
        refine LL.skip rfl rfl ?_
        refine LL.val (R.pick rfl rfl rfl) rfl rfl rfl ?_
        refine LL.val (R.assign rfl rfl) rfl rfl rfl ?_
        refine LL.nil ?_
        refine EE.inN ?_
        refine EE.thenN ?_
        refine CC.region ?_
        refine LL.val (R.move rfl rfl) rfl rfl rfl ?_
        refine LL.val (R.addNc rfl rfl rfl rfl (by omega)) rfl rfl rfl ?_
        refine LL.val (R.assign rfl rfl) rfl rfl rfl ?_
        refine LL.nil ?_
        exact EE.round (t + 1, true) ⟨rfl, rfl, rfl, rfl, rfl, rfl, rfl, trivial⟩ ⟨by show t + 1 ≤ x.ts.length; omega, q, M, rs, hS, by show true = decide (cB y ∈ x.ts.take (t + 1)); rw [htk, decide_eq_true (List.mem_append_left _ h9)]⟩ (by show x.ts.length - (t + 1) < x.ts.length - t; omega)
      | false =>
        have h9 : cB y ∉ x.ts.take t := of_decide_eq_false hf.symm
        by_cases hequ : u = cB y
        · refine CC.seq ?_
          refine CC.seq ?_
          refine CC.region ?_
          refine LL.val (R.move rfl rfl) rfl rfl rfl ?_
          refine LL.val (R.move rfl rfl) rfl rfl rfl ?_
          refine LL.val (R.move rfl rfl) rfl rfl rfl ?_
          refine LL.val (R.index rfl rfl rfl (I.ixS1 rfl (by omega))) rfl rfl rfl ?_
          refine LL.val (R.load rfl rfl (I.ld1 rfl (by assumption))) rfl rfl rfl ?_
          refine LL.val (R.len rfl rfl rfl rfl) rfl rfl rfl ?_
          refine LL.val (R.ltT rfl rfl rfl (by omega)) rfl rfl rfl ?_
          refine LL.nilS ?_
          refine CC.yes rfl ?_
          refine CC.skip ?_
          refine EE.thenN ?_
          refine CC.seq ?_
          refine CC.block ?_
          refine CC.region ?_
          refine LL.val (R.move rfl rfl) rfl rfl rfl ?_
          refine LL.val (R.move rfl rfl) rfl rfl rfl ?_
          refine LL.val (R.move rfl rfl) rfl rfl rfl ?_
          refine LL.val (R.move rfl rfl) rfl rfl rfl ?_
          refine LL.val (R.index rfl rfl rfl (I.ixS1 rfl (by omega))) rfl rfl rfl ?_
          refine LL.val (R.load rfl rfl (I.ld1 rfl (by assumption))) rfl rfl rfl ?_
          refine LL.val (R.move rfl rfl) rfl rfl rfl ?_
          refine LL.val (R.index rfl rfl rfl (I.ixS1 rfl (by omega))) rfl rfl rfl ?_
          refine LL.val (R.load rfl rfl (I.ld1 rfl (by assumption))) rfl rfl rfl ?_
          refine LL.val (R.move rfl rfl) rfl rfl rfl ?_
          (refine LL.val (R.eqS (a := u) (b := cB (nwC y).1) (c := true) rfl rfl rfl (decide_eq_true (show u = cB y from hequ))) rfl rfl rfl ?_)
          refine LL.val (R.pick rfl rfl rfl) rfl rfl rfl ?_
          refine LL.val (R.assign rfl rfl) rfl rfl rfl ?_
          refine LL.nil ?_
          refine EE.inN ?_
          refine EE.thenN ?_
          refine CC.region ?_
          refine LL.val (R.move rfl rfl) rfl rfl rfl ?_
          refine LL.val (R.addNc rfl rfl rfl rfl (by omega)) rfl rfl rfl ?_
          refine LL.val (R.assign rfl rfl) rfl rfl rfl ?_
          refine LL.nil ?_
          exact EE.round (t + 1, true) ⟨rfl, rfl, rfl, rfl, rfl, rfl, rfl, trivial⟩ ⟨by show t + 1 ≤ x.ts.length; omega, q, M, rs, hS, by show true = decide (cB y ∈ x.ts.take (t + 1)); rw [htk, decide_eq_true (List.mem_append_right _ (by rw [hequ]; exact List.mem_singleton.2 rfl))]⟩ (by show x.ts.length - (t + 1) < x.ts.length - t; omega)
        · refine CC.seq ?_
          refine CC.seq ?_
          refine CC.region ?_
          refine LL.val (R.move rfl rfl) rfl rfl rfl ?_
          refine LL.val (R.move rfl rfl) rfl rfl rfl ?_
          refine LL.val (R.move rfl rfl) rfl rfl rfl ?_
          refine LL.val (R.index rfl rfl rfl (I.ixS1 rfl (by omega))) rfl rfl rfl ?_
          refine LL.val (R.load rfl rfl (I.ld1 rfl (by assumption))) rfl rfl rfl ?_
          refine LL.val (R.len rfl rfl rfl rfl) rfl rfl rfl ?_
          refine LL.val (R.ltT rfl rfl rfl (by omega)) rfl rfl rfl ?_
          refine LL.nilS ?_
          refine CC.yes rfl ?_
          refine CC.skip ?_
          refine EE.thenN ?_
          refine CC.seq ?_
          refine CC.block ?_
          refine CC.region ?_
          refine LL.val (R.move rfl rfl) rfl rfl rfl ?_
          refine LL.val (R.move rfl rfl) rfl rfl rfl ?_
          refine LL.val (R.move rfl rfl) rfl rfl rfl ?_
          refine LL.val (R.move rfl rfl) rfl rfl rfl ?_
          refine LL.val (R.index rfl rfl rfl (I.ixS1 rfl (by omega))) rfl rfl rfl ?_
          refine LL.val (R.load rfl rfl (I.ld1 rfl (by assumption))) rfl rfl rfl ?_
          refine LL.val (R.move rfl rfl) rfl rfl rfl ?_
          refine LL.val (R.index rfl rfl rfl (I.ixS1 rfl (by omega))) rfl rfl rfl ?_
          refine LL.val (R.load rfl rfl (I.ld1 rfl (by assumption))) rfl rfl rfl ?_
          refine LL.val (R.move rfl rfl) rfl rfl rfl ?_
          (refine LL.val (R.eqS (a := u) (b := cB (nwC y).1) (c := false) rfl rfl rfl (decide_eq_false (show ¬ u = cB y from hequ))) rfl rfl rfl ?_)
          refine LL.val (R.pick rfl rfl rfl) rfl rfl rfl ?_
          refine LL.val (R.assign rfl rfl) rfl rfl rfl ?_
          refine LL.nil ?_
          refine EE.inN ?_
          refine EE.thenN ?_
          refine CC.region ?_
          refine LL.val (R.move rfl rfl) rfl rfl rfl ?_
          refine LL.val (R.addNc rfl rfl rfl rfl (by omega)) rfl rfl rfl ?_
          refine LL.val (R.assign rfl rfl) rfl rfl rfl ?_
          refine LL.nil ?_
          exact EE.round (t + 1, false) ⟨rfl, rfl, rfl, rfl, rfl, rfl, rfl, trivial⟩ ⟨by show t + 1 ≤ x.ts.length; omega, q, M, rs, hS, by show false = decide (cB y ∈ x.ts.take (t + 1)); rw [htk, decide_eq_false (fun h => by rcases List.mem_append.1 h with h | h; exact h9 h; exact hequ (List.mem_singleton.1 h).symm)]⟩ (by show x.ts.length - (t + 1) < x.ts.length - t; omega)
    obtain ⟨⟨a, b, v⟩, hget⟩ : ∃ x, xs[i]? = some x := ⟨_, List.getElem?_eq_getElem (by omega)⟩
    have hv0 := hx _ (List.mem_of_getElem? hget)
    dsimp only at hv0
    obtain ⟨v, rfl⟩ : ∃ v' : Nat, v = (v' : Int) := ⟨v.toNat, by omega⟩
    obtain ⟨bs, os, rfl, lbs, _⟩ := (hsF w (Below.refl _ _)).get actEnc hget
    have m1 : CellsN W ⟨bs, os + i * 3, none⟩ 3 [.int .i64 a, .int .i64 b, .int .u64 (v : Int)] := (hsF W q).elemN actEnc hget
    apply meetLs (α := List Sx) (β := List Cl) (fun l t X => InB w N (gf + 1) m gn gl qb gs gf t l X ∧ ∀ (k : Nat) (x : Sx) (c : Cl), l[k]? = some x → t[k]? = some c → Wk (i + 1) x c)
    case f =>
      intro lat
      have hrl : (ls.map Sx.v).length = N := by simp; omega
      have hfl : (ls.map Sx.f).length = N := by simp; omega
      have hsl := M.len
      by_cases e0 : a = 0
      · by_cases hb : 0 ≤ b ∧ b < ((N * 8 : Nat) : Int)
        · obtain ⟨j, hj⟩ : ∃ j : Nat, b = (j : Int) := ⟨b.toNat, by omega⟩
          obtain ⟨c, hc⟩ : ∃ c, s[j / 8]? = some c := ⟨_, List.getElem?_eq_getElem (by omega)⟩
          refine CC.seq ?_
          refine CC.seq ?_
          refine CC.region ?_
          refine LL.val (R.move rfl rfl) rfl rfl rfl ?_
          refine LL.val (R.move rfl rfl) rfl rfl rfl ?_
          refine LL.val (R.len rfl rfl rfl rfl) rfl rfl rfl ?_
          refine LL.val (R.ltT rfl rfl rfl (by omega)) rfl rfl rfl ?_
          refine LL.nilS ?_
          refine CC.yes rfl ?_
          refine CC.skip ?_
          refine EE.thenN ?_
          refine CC.seq ?_
          refine CC.block ?_
          refine CC.seq ?_
          refine CC.region ?_
          refine LL.val (R.move rfl rfl) rfl rfl rfl ?_
          refine LL.val (R.move rfl rfl) rfl rfl rfl ?_
          refine LL.val (R.index rfl rfl rfl (I.ixS rfl (by omega))) rfl rfl rfl ?_
          refine LL.val (R.load rfl rfl (I.ldM (by assumption) rfl rfl)) rfl rfl rfl ?_
          have lo64 := rs.lt
          have lo65 := rf.lt
          refine LL.alloc ([Value.int IntKind.i64 0, Value.int IntKind.i64 0, Value.int IntKind.u64 0]) rfl rfl rfl rfl rfl ?_
          intro Wo67 go68 ego68 ro69 zo70 bo66
          replace q := q.trans (bo66.mono q.size)
          replace M := M.up bo66
          replace rs := rs.up bo66
          replace rf := rf.up bo66
          replace hS := hS.up bo66
          replace m1 := m1.up bo66
          refine LL.storeN (vs := [Value.int IntKind.i64 a, Value.int IntKind.i64 b, Value.int IntKind.u64 ↑v]) rfl rfl rfl rfl ro69 (by exact Nat.le_of_ble_eq_true rfl) (ones_of rfl) rfl rfl ?_
          intro Wo79 ro80 bo78 zo81
          have hlbo78 := ro69.lt
          replace ro80 : RowL Wo79 _ 39 [Value.int IntKind.i64 a, Value.int IntKind.i64 b, Value.int IntKind.u64 ↑v] := ro80
          clear ro69
          replace bo66 := bo66.grown bo78 bo66.size (by rintro k ⟨⟩; omega)
          replace q := q.grown bo78 q.size (by rintro k ⟨⟩; omega)
          replace M := M.gr bo78 (by omega)
          replace rs := rs.gr bo78 (by have := rs.lt; omega)
          replace rf := rf.gr bo78 (by have := rf.lt; omega)
          replace hS := hS.gr bo78 (by omega)
          replace m1 := m1.gr bo78 (by have := m1.lt; omega)
          have ro69 := ro80
          clear ro80
          refine LL.nilS ?_
          refine CC.seq ?_
          refine CC.seq ?_
          refine CC.region ?_
          refine LL.val (R.field rfl rfl (I.fld rfl)) rfl rfl rfl ?_
          refine LL.val (R.load rfl rfl (I.ld1 rfl (RowL.cell ro69 rfl))) rfl rfl rfl ?_
          refine LL.nilS ?_
          refine CC.block ?_
          refine CC.seq ?_
          refine CC.region ?_
          refine LL.val (R.eqT rfl rfl rfl (by omega)) rfl rfl rfl ?_
          refine LL.val (R.assign rfl rfl) rfl rfl rfl ?_
          refine LL.nilS ?_
          refine CC.yes rfl ?_
          refine CC.region ?_
          refine LL.val (R.move rfl rfl) rfl rfl rfl ?_
          refine LL.val (R.field rfl rfl (I.fld rfl)) rfl rfl rfl ?_
          refine LL.val (R.load rfl rfl (I.ld1 rfl (RowL.cell ro69 rfl))) rfl rfl rfl ?_
          refine LL.val (R.field rfl rfl (I.fld rfl)) rfl rfl rfl ?_
          refine LL.val (R.load rfl rfl (I.ld1 rfl (RowL.cell ro69 rfl))) rfl rfl rfl ?_
          (refine LL.call (R.call rfl rfl rfl) rfl rfl rfl (store_T2 hj M hc) ?_; rintro e Wo148 ⟨rfl, M2, to147⟩; refine ⟨_, rfl, ?_⟩; clear M; have M := M2; clear M2)
          have zto147 := to147.size
          replace q := to147.onB q (fun j hj => ⟨by have := q.size; omega, by omega⟩)
          replace rs := rs.kept to147 ⟨rs.lt, by omega⟩
          replace rf := rf.kept to147 ⟨rf.lt, by omega⟩
          replace hS := hS.kept to147 ⟨by omega, by omega⟩
          replace m1 := m1.kept to147 ⟨by omega, by omega⟩
          replace ro69 := ro69.kept to147 ⟨ro69.lt, by omega⟩
          refine LL.nil ?_
          refine EE.inN ?_
          refine EE.thenN ?_
          refine CC.seq ?_
          refine CC.region ?_
          refine LL.val (R.assign rfl rfl) rfl rfl rfl ?_
          refine LL.nilS ?_
          refine CC.block ?_
          (obtain ⟨l', hl'⟩ : ∃ l, l = (ls) := ⟨_, rfl⟩; obtain ⟨s', hs'⟩ : ∃ t, t = (s.set (j / 8) (wrC c (j % 8) v)) := ⟨_, rfl⟩; exact CC.keep [(0, .slice a0 (N * 8) c0), (1, .slice (some ⟨bs, os, none⟩) n c1), (2, .slice a2 K c2), (7, .pointer (some ⟨m, 0, none⟩)), (9, .int .i64 (N : Int)), (10, .slice (some ⟨gs, 0, none⟩) N N), (11, .slice (some ⟨gf, 0, none⟩) N N), (13, .int .i64 (i : Int)), (16, .int .i64 0)] ⟨rfl, rfl, rfl, rfl, rfl, rfl, rfl, rfl, rfl, trivial⟩ (lat.out l' s' _ (by rw [hl', hs']; exact ⟨⟨hlN, q, M, rs, rf, hS.wide (by omega), by omega⟩, st_store hG hc hv0.2⟩)))
        · refine CC.seq ?_
          refine CC.seq ?_
          refine CC.region ?_
          refine LL.val (R.move rfl rfl) rfl rfl rfl ?_
          refine LL.val (R.move rfl rfl) rfl rfl rfl ?_
          refine LL.val (R.len rfl rfl rfl rfl) rfl rfl rfl ?_
          refine LL.val (R.ltT rfl rfl rfl (by omega)) rfl rfl rfl ?_
          refine LL.nilS ?_
          refine CC.yes rfl ?_
          refine CC.skip ?_
          refine EE.thenN ?_
          refine CC.seq ?_
          refine CC.block ?_
          refine CC.seq ?_
          refine CC.region ?_
          refine LL.val (R.move rfl rfl) rfl rfl rfl ?_
          refine LL.val (R.move rfl rfl) rfl rfl rfl ?_
          refine LL.val (R.index rfl rfl rfl (I.ixS rfl (by omega))) rfl rfl rfl ?_
          refine LL.val (R.load rfl rfl (I.ldM (by assumption) rfl rfl)) rfl rfl rfl ?_
          have lp82 := rs.lt
          have lp83 := rf.lt
          refine LL.alloc ([Value.int IntKind.i64 0, Value.int IntKind.i64 0, Value.int IntKind.u64 0]) rfl rfl rfl rfl rfl ?_
          intro Wp85 gp86 egp86 rp87 zp88 bp84
          replace q := q.trans (bp84.mono q.size)
          replace M := M.up bp84
          replace rs := rs.up bp84
          replace rf := rf.up bp84
          replace hS := hS.up bp84
          replace m1 := m1.up bp84
          refine LL.storeN (vs := [Value.int IntKind.i64 a, Value.int IntKind.i64 b, Value.int IntKind.u64 ↑v]) rfl rfl rfl rfl rp87 (by exact Nat.le_of_ble_eq_true rfl) (ones_of rfl) rfl rfl ?_
          intro Wp100 rp101 bp99 zp102
          have hlbp99 := rp87.lt
          replace rp101 : RowL Wp100 _ 39 [Value.int IntKind.i64 a, Value.int IntKind.i64 b, Value.int IntKind.u64 ↑v] := rp101
          clear rp87
          replace bp84 := bp84.grown bp99 bp84.size (by rintro k ⟨⟩; omega)
          replace q := q.grown bp99 q.size (by rintro k ⟨⟩; omega)
          replace M := M.gr bp99 (by omega)
          replace rs := rs.gr bp99 (by have := rs.lt; omega)
          replace rf := rf.gr bp99 (by have := rf.lt; omega)
          replace hS := hS.gr bp99 (by omega)
          replace m1 := m1.gr bp99 (by have := m1.lt; omega)
          have rp87 := rp101
          clear rp101
          refine LL.nilS ?_
          refine CC.seq ?_
          refine CC.seq ?_
          refine CC.region ?_
          refine LL.val (R.field rfl rfl (I.fld rfl)) rfl rfl rfl ?_
          refine LL.val (R.load rfl rfl (I.ld1 rfl (RowL.cell rp87 rfl))) rfl rfl rfl ?_
          refine LL.nilS ?_
          refine CC.block ?_
          refine CC.seq ?_
          refine CC.region ?_
          refine LL.val (R.eqT rfl rfl rfl (by omega)) rfl rfl rfl ?_
          refine LL.val (R.assign rfl rfl) rfl rfl rfl ?_
          refine LL.nilS ?_
          refine CC.yes rfl ?_
          refine CC.region ?_
          refine LL.val (R.move rfl rfl) rfl rfl rfl ?_
          refine LL.val (R.field rfl rfl (I.fld rfl)) rfl rfl rfl ?_
          refine LL.val (R.load rfl rfl (I.ld1 rfl (RowL.cell rp87 rfl))) rfl rfl rfl ?_
          refine LL.val (R.field rfl rfl (I.fld rfl)) rfl rfl rfl ?_
          refine LL.val (R.load rfl rfl (I.ld1 rfl (RowL.cell rp87 rfl))) rfl rfl rfl ?_
          have lp197 := rs.lt
          have lp198 := rf.lt
          have lp199 := rp87.lt
          (refine LL.call (R.call rfl rfl rfl) rfl rfl rfl (store_F _ m gn gl qb N b v M (by omega)) ?_; rintro e Wp196 ⟨rfl, bp193⟩; refine ⟨_, rfl, ?_⟩)
          have zbp193 := bp193.size
          replace bp84 := bp84.trans (bp193.mono bp84.size)
          replace q := q.trans (bp193.mono q.size)
          replace M := M.up bp193
          replace rs := rs.up bp193
          replace rf := rf.up bp193
          replace hS := hS.up bp193
          replace m1 := m1.up bp193
          replace rp87 := rp87.up bp193
          refine LL.nil ?_
          refine EE.inN ?_
          refine EE.thenN ?_
          refine CC.seq ?_
          refine CC.region ?_
          refine LL.val (R.assign rfl rfl) rfl rfl rfl ?_
          refine LL.nilS ?_
          refine CC.block ?_
          (obtain ⟨l', hl'⟩ : ∃ l, l = (ls) := ⟨_, rfl⟩; obtain ⟨s', hs'⟩ : ∃ t, t = (s) := ⟨_, rfl⟩; exact CC.keep [(0, .slice a0 (N * 8) c0), (1, .slice (some ⟨bs, os, none⟩) n c1), (2, .slice a2 K c2), (7, .pointer (some ⟨m, 0, none⟩)), (9, .int .i64 (N : Int)), (10, .slice (some ⟨gs, 0, none⟩) N N), (11, .slice (some ⟨gf, 0, none⟩) N N), (13, .int .i64 (i : Int)), (16, .int .i64 0)] ⟨rfl, rfl, rfl, rfl, rfl, rfl, rfl, rfl, rfl, trivial⟩ (lat.out l' s' _ (by rw [hl', hs']; exact ⟨⟨hlN, q, M, rs, rf, hS.wide (by omega), by omega⟩, fun k x c e1 e2 => (hG k x c e1 e2).1⟩)))
      by_cases e1 : a = 1
      · by_cases hb : 0 ≤ b ∧ b < (N : Int)
        · obtain ⟨j, hj⟩ : ∃ j : Nat, b = (j : Int) := ⟨b.toNat, by omega⟩
          obtain ⟨c, hc⟩ : ∃ c, s[j]? = some c := ⟨_, List.getElem?_eq_getElem (by omega)⟩
          obtain ⟨x, hxj⟩ : ∃ x, ls[j]? = some x := ⟨_, List.getElem?_eq_getElem (by omega)⟩
          rw [hj] at m1
          obtain ⟨hw, hnw⟩ := hG j x c hxj hc
          have hpos := hw.pos
          have hlen := hw.len
          refine CC.seq ?_
          refine CC.seq ?_
          refine CC.region ?_
          refine LL.val (R.move rfl rfl) rfl rfl rfl ?_
          refine LL.val (R.move rfl rfl) rfl rfl rfl ?_
          refine LL.val (R.len rfl rfl rfl rfl) rfl rfl rfl ?_
          refine LL.val (R.ltT rfl rfl rfl (by omega)) rfl rfl rfl ?_
          refine LL.nilS ?_
          refine CC.yes rfl ?_
          refine CC.skip ?_
          refine EE.thenN ?_
          refine CC.seq ?_
          refine CC.block ?_
          refine CC.seq ?_
          refine CC.region ?_
          refine LL.val (R.move rfl rfl) rfl rfl rfl ?_
          refine LL.val (R.move rfl rfl) rfl rfl rfl ?_
          refine LL.val (R.index rfl rfl rfl (I.ixS rfl (by omega))) rfl rfl rfl ?_
          refine LL.val (R.load rfl rfl (I.ldM (by assumption) rfl rfl)) rfl rfl rfl ?_
          have lq127 := rs.lt
          have lq128 := rf.lt
          refine LL.alloc ([Value.int IntKind.i64 0, Value.int IntKind.i64 0, Value.int IntKind.u64 0]) rfl rfl rfl rfl rfl ?_
          intro Wq130 gq131 egq131 rq132 zq133 bq129
          replace q := q.trans (bq129.mono q.size)
          replace M := M.up bq129
          replace rs := rs.up bq129
          replace rf := rf.up bq129
          replace hS := hS.up bq129
          replace m1 := m1.up bq129
          refine LL.storeN (vs := [Value.int IntKind.i64 a, Value.int IntKind.i64 ↑j, Value.int IntKind.u64 ↑v]) rfl rfl rfl rfl rq132 (by exact Nat.le_of_ble_eq_true rfl) (ones_of rfl) rfl rfl ?_
          intro Wq149 rq150 bq148 zq151
          have hlbq148 := rq132.lt
          replace rq150 : RowL Wq149 _ 39 [Value.int IntKind.i64 a, Value.int IntKind.i64 ↑j, Value.int IntKind.u64 ↑v] := rq150
          clear rq132
          replace bq129 := bq129.grown bq148 bq129.size (by rintro k ⟨⟩; omega)
          replace q := q.grown bq148 q.size (by rintro k ⟨⟩; omega)
          replace M := M.gr bq148 (by omega)
          replace rs := rs.gr bq148 (by have := rs.lt; omega)
          replace rf := rf.gr bq148 (by have := rf.lt; omega)
          replace hS := hS.gr bq148 (by omega)
          replace m1 := m1.gr bq148 (by have := m1.lt; omega)
          have rq132 := rq150
          clear rq150
          refine LL.nilS ?_
          refine CC.seq ?_
          refine CC.seq ?_
          refine CC.region ?_
          refine LL.val (R.field rfl rfl (I.fld rfl)) rfl rfl rfl ?_
          refine LL.val (R.load rfl rfl (I.ld1 rfl (RowL.cell rq132 rfl))) rfl rfl rfl ?_
          refine LL.nilS ?_
          refine CC.block ?_
          refine CC.seq ?_
          refine CC.region ?_
          refine LL.val (R.eqF rfl rfl rfl (by omega)) rfl rfl rfl ?_
          refine LL.val (R.assign rfl rfl) rfl rfl rfl ?_
          refine LL.nilS ?_
          refine CC.no rfl ?_
          refine CC.seq ?_
          refine CC.region ?_
          refine LL.val (R.eqT rfl rfl rfl (by omega)) rfl rfl rfl ?_
          refine LL.val (R.assign rfl rfl) rfl rfl rfl ?_
          refine LL.nilS ?_
          refine CC.yes rfl ?_
          refine CC.seq ?_
          refine CC.region ?_
          refine LL.val (R.move rfl rfl) rfl rfl rfl ?_
          refine LL.val (R.field rfl rfl (I.fld rfl)) rfl rfl rfl ?_
          refine LL.val (R.load rfl rfl (I.ld1 rfl (RowL.cell rq132 rfl))) rfl rfl rfl ?_
          (refine LL.call (R.call rfl rfl rfl) rfl rfl rfl (flush_T _ m gn gl qb N j M hc) ?_; rintro e Wq281 ⟨rfl, M2, tq280⟩; refine ⟨_, rfl, ?_⟩; clear M; have M := M2; clear M2; have cs9 := RowL.cell rs (show (ls.map Sx.v)[j]? = some (.slice (some ⟨x.b, x.off, none⟩) x.ts.length x.cap) from (by rw [List.getElem?_map, hxj]; rfl)); rw [← Nat.zero_add j] at cs9)
          have ztq280 := tq280.size
          replace q := tq280.onB q (fun j hj => ⟨by have := q.size; omega, by omega⟩)
          replace rs := rs.kept tq280 ⟨rs.lt, by omega⟩
          replace rf := rf.kept tq280 ⟨rf.lt, by omega⟩
          replace hS := hS.kept tq280 ⟨by omega, by omega⟩
          replace m1 := m1.kept tq280 ⟨by omega, by omega⟩
          replace rq132 := rq132.kept tq280 ⟨rq132.lt, by omega⟩
          replace cs9 := cell_kept cs9 tq280 ⟨World.block_lt_of_cell? _ _ cs9, by omega⟩
          refine LL.call (R.call rfl rfl rfl) rfl rfl rfl (num_any _ _) ?_
          rintro e W' ⟨rfl, rfl⟩
          refine ⟨_, rfl, ?_⟩
          refine LL.val (R.eqT rfl rfl rfl (by omega)) rfl rfl rfl ?_
          refine LL.val (R.move rfl rfl) rfl rfl rfl ?_
          refine LL.val (R.field rfl rfl (I.fld rfl)) rfl rfl rfl ?_
          refine LL.val (R.load rfl rfl (I.ld1 rfl (RowL.cell rq132 rfl))) rfl rfl rfl ?_
          refine LL.val (R.geT rfl rfl rfl (by omega)) rfl rfl rfl ?_
          refine LL.val (R.pick rfl rfl rfl) rfl rfl rfl ?_
          refine LL.val (R.move rfl rfl) rfl rfl rfl ?_
          refine LL.val (R.field rfl rfl (I.fld rfl)) rfl rfl rfl ?_
          refine LL.val (R.load rfl rfl (I.ld1 rfl (RowL.cell rq132 rfl))) rfl rfl rfl ?_
          refine LL.val (R.move rfl rfl) rfl rfl rfl ?_
          refine LL.val (R.ltT rfl rfl rfl (by omega)) rfl rfl rfl ?_
          refine LL.val (R.pick rfl rfl rfl) rfl rfl rfl ?_
          refine LL.nilS ?_
          refine CC.yes rfl ?_
          refine CC.tailB 11 (by kernel_rfl) (by kernel_rfl) (fun Wq468 bq467 zq469 => ?_)
          replace M := M.up bq467
          replace q := q.trans (bq467.mono q.size)
          replace rs := rs.up bq467
          replace rf := rf.up bq467
          replace hS := hS.up bq467
          replace m1 := m1.up bq467
          replace rq132 := rq132.up bq467
          replace cs9 := cell_up cs9 bq467
          refine SS.val (R.move rfl rfl) rfl rfl ?_
          refine SS.val (R.field rfl rfl (I.fld rfl)) rfl rfl ?_
          refine SS.val (R.load rfl rfl (I.ld1 rfl (RowL.cell rq132 rfl))) rfl rfl ?_
          refine SS.val (R.move rfl rfl) rfl rfl ?_
          refine SS.val (R.field rfl rfl (I.fld rfl)) rfl rfl ?_
          refine SS.val (R.load rfl rfl (I.ld1 rfl (RowL.cell rq132 rfl))) rfl rfl ?_
          refine SS.val (R.index rfl rfl rfl (I.ixS1 rfl (by omega))) rfl rfl ?_
          refine SS.val (R.load rfl rfl (I.ld1 rfl (by assumption))) rfl rfl ?_
          refine SS.val (R.len rfl rfl rfl rfl) rfl rfl ?_
          refine SS.val (R.subNc rfl rfl rfl rfl (by omega) (by omega)) rfl rfl ?_
          refine SS.val (R.index rfl rfl rfl (I.ixS1 rfl (by omega))) rfl rfl ?_
          refine SS.nil ?_
          (refine LL.store rfl rfl rfl rfl rf (by rw [hfl]; omega) rfl rfl rfl rfl ?_; intro Wq634 rf9 grq632 zz8; rw [Nat.zero_add] at rf9; clear rf; have rf := rf9; clear rf9)
          have zgrq632 := grq632.size
          replace M := M.gr grq632 (by omega)
          replace q := q.grown grq632 q.size (by rintro k ⟨⟩; omega)
          replace rs := rs.gr grq632 (by have := rs.lt; omega)
          replace hS := hS.gr grq632 (by omega)
          replace m1 := m1.gr grq632 (by have := m1.lt; omega)
          replace rq132 := rq132.gr grq632 (by have := rq132.lt; omega)
          replace cs9 := cell_gr cs9 grq632 (by omega)
          refine LL.nil ?_
          refine EE.inN ?_
          refine EE.thenN ?_
          refine CC.seq ?_
          refine CC.region ?_
          refine LL.val (R.assign rfl rfl) rfl rfl rfl ?_
          refine LL.nilS ?_
          refine CC.block ?_
          (obtain ⟨l', hl'⟩ : ∃ l, l = (ls.set j ({ x with fl := ((x.ts.length - 1 : Nat) : Int) })) := ⟨_, rfl⟩; obtain ⟨s', hs'⟩ : ∃ t, t = (s.set j (flC c)) := ⟨_, rfl⟩; exact CC.keep [(0, .slice a0 (N * 8) c0), (1, .slice (some ⟨bs, os, none⟩) n c1), (2, .slice a2 K c2), (7, .pointer (some ⟨m, 0, none⟩)), (9, .int .i64 (N : Int)), (10, .slice (some ⟨gs, 0, none⟩) N N), (11, .slice (some ⟨gf, 0, none⟩) N N), (13, .int .i64 (i : Int)), (16, .int .i64 0)] ⟨rfl, rfl, rfl, rfl, rfl, rfl, rfl, rfl, rfl, trivial⟩ (lat.out l' s' _ (by rw [hl', hs']; exact ⟨⟨by rw [List.length_set]; exact hlN, q, M, by rw [set_same (y := { x with fl := ((x.ts.length - 1 : Nat) : Int) }) hxj Sx.v rfl]; exact rs, by rw [← sx_set_f]; exact rf, (Sb.put (x' := { x with fl := ((x.ts.length - 1 : Nat) : Int) }) hS hxj rfl ((hS.sub j x hxj).1)).wide (by omega), by omega⟩, all_set hG (fun _ _ h => h.1) ((hw.flush hnw).1)⟩)))
        · refine CC.seq ?_
          refine CC.seq ?_
          refine CC.region ?_
          refine LL.val (R.move rfl rfl) rfl rfl rfl ?_
          refine LL.val (R.move rfl rfl) rfl rfl rfl ?_
          refine LL.val (R.len rfl rfl rfl rfl) rfl rfl rfl ?_
          refine LL.val (R.ltT rfl rfl rfl (by omega)) rfl rfl rfl ?_
          refine LL.nilS ?_
          refine CC.yes rfl ?_
          refine CC.skip ?_
          refine EE.thenN ?_
          refine CC.seq ?_
          refine CC.block ?_
          refine CC.seq ?_
          refine CC.region ?_
          refine LL.val (R.move rfl rfl) rfl rfl rfl ?_
          refine LL.val (R.move rfl rfl) rfl rfl rfl ?_
          refine LL.val (R.index rfl rfl rfl (I.ixS rfl (by omega))) rfl rfl rfl ?_
          refine LL.val (R.load rfl rfl (I.ldM (by assumption) rfl rfl)) rfl rfl rfl ?_
          have lr82 := rs.lt
          have lr83 := rf.lt
          refine LL.alloc ([Value.int IntKind.i64 0, Value.int IntKind.i64 0, Value.int IntKind.u64 0]) rfl rfl rfl rfl rfl ?_
          intro Wr85 gr86 egr86 rr87 zr88 br84
          replace q := q.trans (br84.mono q.size)
          replace M := M.up br84
          replace rs := rs.up br84
          replace rf := rf.up br84
          replace hS := hS.up br84
          replace m1 := m1.up br84
          refine LL.storeN (vs := [Value.int IntKind.i64 a, Value.int IntKind.i64 b, Value.int IntKind.u64 ↑v]) rfl rfl rfl rfl rr87 (by exact Nat.le_of_ble_eq_true rfl) (ones_of rfl) rfl rfl ?_
          intro Wr100 rr101 br99 zr102
          have hlbr99 := rr87.lt
          replace rr101 : RowL Wr100 _ 39 [Value.int IntKind.i64 a, Value.int IntKind.i64 b, Value.int IntKind.u64 ↑v] := rr101
          clear rr87
          replace br84 := br84.grown br99 br84.size (by rintro k ⟨⟩; omega)
          replace q := q.grown br99 q.size (by rintro k ⟨⟩; omega)
          replace M := M.gr br99 (by omega)
          replace rs := rs.gr br99 (by have := rs.lt; omega)
          replace rf := rf.gr br99 (by have := rf.lt; omega)
          replace hS := hS.gr br99 (by omega)
          replace m1 := m1.gr br99 (by have := m1.lt; omega)
          have rr87 := rr101
          clear rr101
          refine LL.nilS ?_
          refine CC.seq ?_
          refine CC.seq ?_
          refine CC.region ?_
          refine LL.val (R.field rfl rfl (I.fld rfl)) rfl rfl rfl ?_
          refine LL.val (R.load rfl rfl (I.ld1 rfl (RowL.cell rr87 rfl))) rfl rfl rfl ?_
          refine LL.nilS ?_
          refine CC.block ?_
          refine CC.seq ?_
          refine CC.region ?_
          refine LL.val (R.eqF rfl rfl rfl (by omega)) rfl rfl rfl ?_
          refine LL.val (R.assign rfl rfl) rfl rfl rfl ?_
          refine LL.nilS ?_
          refine CC.no rfl ?_
          refine CC.seq ?_
          refine CC.region ?_
          refine LL.val (R.eqT rfl rfl rfl (by omega)) rfl rfl rfl ?_
          refine LL.val (R.assign rfl rfl) rfl rfl rfl ?_
          refine LL.nilS ?_
          refine CC.yes rfl ?_
          refine CC.seq ?_
          refine CC.region ?_
          refine LL.val (R.move rfl rfl) rfl rfl rfl ?_
          refine LL.val (R.field rfl rfl (I.fld rfl)) rfl rfl rfl ?_
          refine LL.val (R.load rfl rfl (I.ld1 rfl (RowL.cell rr87 rfl))) rfl rfl rfl ?_
          have lr197 := rs.lt
          have lr198 := rf.lt
          have lr199 := rr87.lt
          (refine LL.call (R.call rfl rfl rfl) rfl rfl rfl (flush_F _ m gn gl qb N b M (by omega)) ?_; rintro e Wr196 ⟨rfl, br193⟩; refine ⟨_, rfl, ?_⟩)
          have zbr193 := br193.size
          replace br84 := br84.trans (br193.mono br84.size)
          replace q := q.trans (br193.mono q.size)
          replace M := M.up br193
          replace rs := rs.up br193
          replace rf := rf.up br193
          replace hS := hS.up br193
          replace m1 := m1.up br193
          replace rr87 := rr87.up br193
          refine LL.call (R.call rfl rfl rfl) rfl rfl rfl (num_any _ _) ?_
          rintro e W' ⟨rfl, rfl⟩
          refine ⟨_, rfl, ?_⟩
          refine LL.val (R.eqF rfl rfl rfl (by omega)) rfl rfl rfl ?_
          refine LL.val (R.move rfl rfl) rfl rfl rfl ?_
          refine LL.skip rfl rfl ?_
          refine LL.skip rfl rfl ?_
          refine LL.skip rfl rfl ?_
          refine LL.val (R.pick rfl rfl rfl) rfl rfl rfl ?_
          refine LL.val (R.move rfl rfl) rfl rfl rfl ?_
          refine LL.skip rfl rfl ?_
          refine LL.skip rfl rfl ?_
          refine LL.skip rfl rfl ?_
          refine LL.skip rfl rfl ?_
          refine LL.val (R.pick rfl rfl rfl) rfl rfl rfl ?_
          refine LL.nilS ?_
          refine CC.no rfl ?_
          refine CC.skip ?_
          refine EE.inN ?_
          refine EE.thenN ?_
          refine CC.seq ?_
          refine CC.region ?_
          refine LL.val (R.assign rfl rfl) rfl rfl rfl ?_
          refine LL.nilS ?_
          refine CC.block ?_
          (obtain ⟨l', hl'⟩ : ∃ l, l = (ls) := ⟨_, rfl⟩; obtain ⟨s', hs'⟩ : ∃ t, t = (s) := ⟨_, rfl⟩; exact CC.keep [(0, .slice a0 (N * 8) c0), (1, .slice (some ⟨bs, os, none⟩) n c1), (2, .slice a2 K c2), (7, .pointer (some ⟨m, 0, none⟩)), (9, .int .i64 (N : Int)), (10, .slice (some ⟨gs, 0, none⟩) N N), (11, .slice (some ⟨gf, 0, none⟩) N N), (13, .int .i64 (i : Int)), (16, .int .i64 0)] ⟨rfl, rfl, rfl, rfl, rfl, rfl, rfl, rfl, rfl, trivial⟩ (lat.out l' s' _ (by rw [hl', hs']; exact ⟨⟨hlN, q, M, rs, rf, hS.wide (by omega), by omega⟩, fun k x c e1 e2 => (hG k x c e1 e2).1⟩)))
      by_cases e2 : a = 2
      · refine CC.seq ?_
        refine CC.seq ?_
        refine CC.region ?_
        refine LL.val (R.move rfl rfl) rfl rfl rfl ?_
        refine LL.val (R.move rfl rfl) rfl rfl rfl ?_
        refine LL.val (R.len rfl rfl rfl rfl) rfl rfl rfl ?_
        refine LL.val (R.ltT rfl rfl rfl (by omega)) rfl rfl rfl ?_
        refine LL.nilS ?_
        refine CC.yes rfl ?_
        refine CC.skip ?_
        refine EE.thenN ?_
        refine CC.seq ?_
        refine CC.block ?_
        refine CC.seq ?_
        refine CC.region ?_
        refine LL.val (R.move rfl rfl) rfl rfl rfl ?_
        refine LL.val (R.move rfl rfl) rfl rfl rfl ?_
        refine LL.val (R.index rfl rfl rfl (I.ixS rfl (by omega))) rfl rfl rfl ?_
        refine LL.val (R.load rfl rfl (I.ldM (by assumption) rfl rfl)) rfl rfl rfl ?_
        have ls64 := rs.lt
        have ls65 := rf.lt
        refine LL.alloc ([Value.int IntKind.i64 0, Value.int IntKind.i64 0, Value.int IntKind.u64 0]) rfl rfl rfl rfl rfl ?_
        intro Ws67 gs68 egs68 rs69 zs70 bs66
        replace q := q.trans (bs66.mono q.size)
        replace M := M.up bs66
        replace rs := rs.up bs66
        replace rf := rf.up bs66
        replace hS := hS.up bs66
        replace m1 := m1.up bs66
        refine LL.storeN (vs := [Value.int IntKind.i64 a, Value.int IntKind.i64 b, Value.int IntKind.u64 ↑v]) rfl rfl rfl rfl rs69 (by exact Nat.le_of_ble_eq_true rfl) (ones_of rfl) rfl rfl ?_
        intro Ws79 rs80 bs78 zs81
        have hlbs78 := rs69.lt
        replace rs80 : RowL Ws79 _ 39 [Value.int IntKind.i64 a, Value.int IntKind.i64 b, Value.int IntKind.u64 ↑v] := rs80
        clear rs69
        replace bs66 := bs66.grown bs78 bs66.size (by rintro k ⟨⟩; omega)
        replace q := q.grown bs78 q.size (by rintro k ⟨⟩; omega)
        replace M := M.gr bs78 (by omega)
        replace rs := rs.gr bs78 (by have := rs.lt; omega)
        replace rf := rf.gr bs78 (by have := rf.lt; omega)
        replace hS := hS.gr bs78 (by omega)
        replace m1 := m1.gr bs78 (by have := m1.lt; omega)
        have rs69 := rs80
        clear rs80
        refine LL.nilS ?_
        refine CC.seq ?_
        refine CC.seq ?_
        refine CC.region ?_
        refine LL.val (R.field rfl rfl (I.fld rfl)) rfl rfl rfl ?_
        refine LL.val (R.load rfl rfl (I.ld1 rfl (RowL.cell rs69 rfl))) rfl rfl rfl ?_
        refine LL.nilS ?_
        refine CC.block ?_
        refine CC.seq ?_
        refine CC.region ?_
        refine LL.val (R.eqF rfl rfl rfl (by omega)) rfl rfl rfl ?_
        refine LL.val (R.assign rfl rfl) rfl rfl rfl ?_
        refine LL.nilS ?_
        refine CC.no rfl ?_
        refine CC.seq ?_
        refine CC.region ?_
        refine LL.val (R.eqF rfl rfl rfl (by omega)) rfl rfl rfl ?_
        refine LL.val (R.assign rfl rfl) rfl rfl rfl ?_
        refine LL.nilS ?_
        refine CC.no rfl ?_
        refine CC.seq ?_
        refine CC.region ?_
        refine LL.val (R.eqT rfl rfl rfl (by omega)) rfl rfl rfl ?_
        refine LL.val (R.assign rfl rfl) rfl rfl rfl ?_
        refine LL.nilS ?_
        refine CC.yes rfl ?_
        refine CC.seq ?_
        refine CC.region ?_
        refine LL.val (R.move rfl rfl) rfl rfl rfl ?_
        (refine LL.call (R.call rfl rfl rfl) rfl rfl rfl (fence_any _ m gn gl qb N M) ?_; rintro e Ws148 ⟨rfl, M2, ts147⟩; refine ⟨_, rfl, ?_⟩; clear M; have M := M2; clear M2)
        have zts147 := ts147.size
        replace q := ts147.onB q (fun j hj => ⟨by have := q.size; omega, by omega⟩)
        replace rs := rs.kept ts147 ⟨rs.lt, by omega⟩
        replace rf := rf.kept ts147 ⟨rf.lt, by omega⟩
        replace hS := hS.kept ts147 ⟨by omega, by omega⟩
        replace m1 := m1.kept ts147 ⟨by omega, by omega⟩
        replace rs69 := rs69.kept ts147 ⟨rs69.lt, by omega⟩
        refine LL.nilS ?_
        refine CC.seq ?_
        refine CC.region ?_
        refine LL.val (R.assign rfl rfl) rfl rfl rfl ?_
        refine LL.nilS ?_
        refine CC.block ?_
        refine CC.loop (α := Nat × List Sx) (fun t => [(0, .slice a0 (N * 8) c0), (1, .slice (some ⟨bs, os, none⟩) n c1), (2, .slice a2 K c2), (7, .pointer (some ⟨m, 0, none⟩)), (9, .int .i64 (N : Int)), (10, .slice (some ⟨gs, 0, none⟩) N N), (11, .slice (some ⟨gf, 0, none⟩) N N), (13, .int .i64 (i : Int)), (15, .int .i64 (t.1 : Int))]) (fun t X => t.1 ≤ N ∧ InB w N (gf + 1) m gn gl qb gs gf (s.map feC) t.2 X ∧ ∀ (j : Nat) (x : Sx) (c : Cl), t.2[j]? = some x → s[j]? = some c → (j < t.1 → Wk (i + 1) x (feC c)) ∧ (t.1 ≤ j → Wk (i + 1) x c ∧ Nw x c)) (fun t => N - t.1) (0, ls) ⟨rfl, rfl, rfl, rfl, rfl, rfl, rfl, rfl, rfl, trivial⟩ ⟨Nat.zero_le _, ⟨hlN, q, M, rs, rf, hS.wide (by omega), by omega⟩, fun j x c e1 e2 => ⟨fun h => absurd h (Nat.not_lt_zero _), fun _ => hG j x c e1 e2⟩⟩ ?_
        clear q M rs rf hS hz hG hrl hfl m1
        rintro ⟨k, ls2⟩ X ⟨hk, ⟨hl2, q, M, rs, rf, hS, hz⟩, hG2⟩
        dsimp only at hk hl2 rs rf hS hG2
        show CC none Try.prog _ 266 [] (sl [(0, .slice a0 (N * 8) c0), (1, .slice (some ⟨bs, os, none⟩) n c1), (2, .slice a2 K c2), (7, .pointer (some ⟨m, 0, none⟩)), (9, .int .i64 (N : Int)), (10, .slice (some ⟨gs, 0, none⟩) N N), (11, .slice (some ⟨gf, 0, none⟩) N N), (13, .int .i64 (i : Int)), (15, .int .i64 (k : Int))]) _ X
        have yx := q.size
        have hrl : (ls2.map Sx.v).length = N := by simp; omega
        have hfl : (ls2.map Sx.f).length = N := by simp; omega
        by_cases hkN : k < N
        case neg =>
          refine CC.seq ?_
          refine CC.seq ?_
          refine CC.region ?_
          refine LL.val (R.move rfl rfl) rfl rfl rfl ?_
          refine LL.val (R.move rfl rfl) rfl rfl rfl ?_
          refine LL.val (R.ltF rfl rfl rfl (by omega)) rfl rfl rfl ?_
          refine LL.nilS ?_
          refine CC.no rfl ?_
          refine CC.exit ?_
          refine EE.thenX ?_
          refine EE.thenX ?_
          refine EE.inX ?_
          refine EE.inN ?_
          refine EE.thenN ?_
          refine CC.seq ?_
          refine CC.region ?_
          refine LL.val (R.assign rfl rfl) rfl rfl rfl ?_
          refine LL.nilS ?_
          refine CC.block ?_
          (obtain ⟨l', hl'⟩ : ∃ l, l = (ls2) := ⟨_, rfl⟩; obtain ⟨s', hs'⟩ : ∃ t, t = (s.map feC) := ⟨_, rfl⟩; exact CC.keep [(0, .slice a0 (N * 8) c0), (1, .slice (some ⟨bs, os, none⟩) n c1), (2, .slice a2 K c2), (7, .pointer (some ⟨m, 0, none⟩)), (9, .int .i64 (N : Int)), (10, .slice (some ⟨gs, 0, none⟩) N N), (11, .slice (some ⟨gf, 0, none⟩) N N), (13, .int .i64 (i : Int)), (16, .int .i64 0)] ⟨rfl, rfl, rfl, rfl, rfl, rfl, rfl, rfl, rfl, trivial⟩ (lat.out l' s' _ (by rw [hl', hs']; exact ⟨⟨hl2, q, M, rs, rf, hS.wide (by omega), by omega⟩, fun j x c e1 e2 => fe_end hG2 e1 e2 (by have := (List.getElem?_eq_some_iff.1 e1).1; omega)⟩)))
        obtain ⟨c, hc⟩ : ∃ c, s[k]? = some c := ⟨_, List.getElem?_eq_getElem (by omega)⟩
        obtain ⟨x, hxj⟩ : ∃ x, ls2[k]? = some x := ⟨_, List.getElem?_eq_getElem (by omega)⟩
        obtain ⟨hw, hnw⟩ := (hG2 k x c hxj hc).2 (Nat.le_refl _)
        by_cases hf : x.fl < 0
        · have cf9 := RowL.cell rf (show (ls2.map Sx.f)[k]? = some (.int .i64 x.fl) from (by rw [List.getElem?_map, hxj]; rfl))
          rw [← Nat.zero_add k] at cf9
          refine CC.seq ?_
          refine CC.seq ?_
          refine CC.region ?_
          refine LL.val (R.move rfl rfl) rfl rfl rfl ?_
          refine LL.val (R.move rfl rfl) rfl rfl rfl ?_
          refine LL.val (R.ltT rfl rfl rfl (by omega)) rfl rfl rfl ?_
          refine LL.nilS ?_
          refine CC.yes rfl ?_
          refine CC.skip ?_
          refine EE.thenN ?_
          refine CC.seq ?_
          refine CC.block ?_
          refine CC.seq ?_
          refine CC.region ?_
          refine LL.val (R.move rfl rfl) rfl rfl rfl ?_
          refine LL.val (R.move rfl rfl) rfl rfl rfl ?_
          refine LL.val (R.index rfl rfl rfl (I.ixS1 rfl (by omega))) rfl rfl rfl ?_
          refine LL.val (R.load rfl rfl (I.ld1 rfl (by assumption))) rfl rfl rfl ?_
          refine LL.val (R.geF rfl rfl rfl (by omega)) rfl rfl rfl ?_
          refine LL.nilS ?_
          refine CC.no rfl ?_
          refine CC.skip ?_
          refine EE.inN ?_
          refine EE.thenN ?_
          refine CC.region ?_
          refine LL.val (R.move rfl rfl) rfl rfl rfl ?_
          refine LL.val (R.addNc rfl rfl rfl rfl (by omega)) rfl rfl rfl ?_
          refine LL.val (R.assign rfl rfl) rfl rfl rfl ?_
          refine LL.nil ?_
          exact EE.round (k + 1, ls2) ⟨rfl, rfl, rfl, rfl, rfl, rfl, rfl, rfl, rfl, trivial⟩ ⟨by show k + 1 ≤ N; omega, ⟨hl2, q, M, rs, rf, hS, hz⟩, fe_same hG2 hxj hc (hw.fence_no hnw hf).1⟩ (by show N - (k + 1) < N - k; omega)
        · obtain ⟨f, hf2⟩ : ∃ f : Nat, x.fl = (f : Int) := ⟨x.fl.toNat, by omega⟩
          obtain ⟨hlt2, hw2, _⟩ := hw.fence_yes hnw hf2
          have hcap := (hS.sub k x hxj).1.len
          have cf9 := RowL.cell rf (show (ls2.map Sx.f)[k]? = some (.int .i64 (f : Int)) from (by rw [List.getElem?_map, hxj]; show some (Value.int .i64 x.fl) = _; rw [hf2]))
          have cs9 := RowL.cell rs (show (ls2.map Sx.v)[k]? = some (.slice (some ⟨x.b, x.off, none⟩) x.ts.length x.cap) from (by rw [List.getElem?_map, hxj]; rfl))
          rw [← Nat.zero_add k] at cf9 cs9
          refine CC.seq ?_
          refine CC.seq ?_
          refine CC.region ?_
          refine LL.val (R.move rfl rfl) rfl rfl rfl ?_
          refine LL.val (R.move rfl rfl) rfl rfl rfl ?_
          refine LL.val (R.ltT rfl rfl rfl (by omega)) rfl rfl rfl ?_
          refine LL.nilS ?_
          refine CC.yes rfl ?_
          refine CC.skip ?_
          refine EE.thenN ?_
          refine CC.seq ?_
          refine CC.block ?_
          refine CC.seq ?_
          refine CC.region ?_
          refine LL.val (R.move rfl rfl) rfl rfl rfl ?_
          refine LL.val (R.move rfl rfl) rfl rfl rfl ?_
          refine LL.val (R.index rfl rfl rfl (I.ixS1 rfl (by omega))) rfl rfl rfl ?_
          refine LL.val (R.load rfl rfl (I.ld1 rfl (by assumption))) rfl rfl rfl ?_
          refine LL.val (R.geT rfl rfl rfl (by omega)) rfl rfl rfl ?_
          refine LL.nilS ?_
          refine CC.yes rfl ?_
          refine CC.join (fun l_ Wv161 => l_ = [(0, Value.slice a0 (N * 8) c0), (1, Value.slice (some { block := bs, off := os }) n c1), (2, Value.slice a2 K c2), (7, Value.pointer (some { block := m, off := 0 })), (9, Value.int IntKind.i64 ↑N), (10, Value.slice (some { block := gs, off := 0 }) N N), (11, Value.slice (some { block := gf, off := 0 }) N N), (13, Value.int IntKind.i64 ↑i), (15, Value.int IntKind.i64 ↑k), (128, Value.int IntKind.i64 ↑k), (129, Value.int IntKind.i64 ↑N), (130, Value.bool true), (133, Value.slice (some { block := gf, off := 0 }) N N), (134, Value.int IntKind.i64 ↑k), (135, Value.pointer (some { block := gf, off := 0 + k })), (136, Value.int IntKind.i64 ↑f), (137, Value.bool true)] ∧ (RowL Wv161 gf 3 ((List.map Sx.f ls2).set k (Value.int IntKind.i64 (-1)))) ∧ (RowL Wv161 gs 75 ((List.map Sx.v ls2).set k (Value.slice (some { block := x.b, off := x.off + f * (fun x => x.size) Try.prog.types[9] }) (x.ts.length - f) (x.cap - f)))) ∧ (Below w.heap.size w Wv161) ∧ (Mem Wv161 m gn gl qb N (List.map feC s)) ∧ (Sb Wv161 (gf + 1) X.heap.size ls2) ∧ (X.heap.size ≤ Wv161.heap.size)) (fun Jv166 => ?_) ?restJv166
          case' restJv166 =>
            clear rf
            clear rs
            clear q
            clear M
            clear hS
            rintro _ Wv161 ⟨rfl, rf, rs, q, M, hS, zv165⟩
          refine EE.inN ?_
          refine EE.thenN ?_
          refine CC.region ?_
          refine LL.val (R.move rfl rfl) rfl rfl rfl ?_
          refine LL.val (R.addNc rfl rfl rfl rfl (by omega)) rfl rfl rfl ?_
          refine LL.val (R.assign rfl rfl) rfl rfl rfl ?_
          refine LL.nil ?_
          exact EE.round (k + 1, ls2.set k (x.from f)) ⟨rfl, rfl, rfl, rfl, rfl, rfl, rfl, rfl, rfl, trivial⟩ ⟨by show k + 1 ≤ N; omega, ⟨by show (ls2.set k _).length = N; rw [List.length_set]; exact hl2, q, M, by rw [← sx_set_v, from_v]; exact rs, by rw [← sx_set_f]; exact rf, (Sb.put (x' := x.from f) hS hxj rfl ((hS.sub k x hxj).1.drop (by omega))).wide (by omega), by omega⟩, fe_step hG2 hc hw2⟩ (by show N - (k + 1) < N - k; omega)
          refine CC.freeZ (fun W_ j => j < W_.heap.size ∧ (j ≠ gs ∧ j ≠ gf)) (by kernel_rfl) (by kernel_rfl) (fun Wv210 bv209 zv211 => ?_)
          replace q := q.trans (bv209.mono q.size)
          replace M := M.up bv209
          replace rs := rs.up bv209
          replace rf := rf.up bv209
          replace hS := hS.up bv209
          replace cf9 := cell_up cf9 bv209
          replace cs9 := cell_up cs9 bv209
          have hok : Kept (fun j => j < Wv210.heap.size ∧ (j ≠ gs ∧ j ≠ gf)) Wv210 Wv210 := Kept.refl _ _
          refine AA.pure 0 rfl hok (by kernel_rfl) (fun w' b' => R.move rfl rfl) rfl rfl ?_
          refine AA.pure 1 rfl hok (by kernel_rfl) (fun w' b' => R.move rfl rfl) rfl rfl ?_
          refine AA.pure 2 rfl hok (by kernel_rfl) (fun w' b' => R.move rfl rfl) rfl rfl ?_
          refine AA.pure 3 rfl hok (by kernel_rfl) (fun w' b' => R.move rfl rfl) rfl rfl ?_
          refine AA.pure 4 rfl hok (by kernel_rfl) (fun w' b' => R.move rfl rfl) rfl rfl ?_
          refine AA.pure 5 rfl hok (by kernel_rfl) (fun w' b' => R.move rfl rfl) rfl rfl ?_
          refine AA.pure 6 rfl hok (by kernel_rfl) (fun w' b' => R.index rfl rfl rfl (I.ixS1 rfl (by omega))) rfl rfl ?_
          refine AA.pure 8 rfl hok (by kernel_rfl) (fun w' b' => R.move rfl rfl) rfl rfl ?_
          refine AA.pure 9 rfl hok (by kernel_rfl) (fun w' b' => R.move rfl rfl) rfl rfl ?_
          refine AA.pure 10 rfl hok (by kernel_rfl) (fun w' b' => R.index rfl rfl rfl (I.ixS1 rfl (by omega))) rfl rfl ?_
          refine AA.two 7 11 (by kernel_rfl) ?_ ?_
          refine SR.val rfl (R.load rfl rfl (I.ld1 rfl (by assumption))) rfl rfl hok ?_
          refine AA.one 11 (by kernel_rfl) ?_
          refine SR.val rfl (R.load rfl rfl (I.ld1 rfl (by assumption))) rfl rfl hok ?_
          refine AA.pure 12 rfl hok (by kernel_rfl) (fun w' b' => R.slice rfl rfl rfl rfl rfl (I.slFrom rfl (by omega) (by omega) (by omega))) rfl rfl ?_
          refine AA.pure 13 rfl hok (by kernel_rfl) (fun w' b' => R.index rfl rfl rfl (I.ixS1 rfl (by omega))) rfl rfl ?_
          refine AA.one 14 (by kernel_rfl) ?_
          (refine ZR.store (off := 0 + k) rfl rfl rfl rfl rfl rs (by rw [hrl]; omega) rfl rfl rfl rfl ?_; intro Wv250 rs9 grv248 zz9; rw [Nat.zero_add] at rs9; clear rs; have rs := rs9; clear rs9)
          have zgrv248 := grv248.size
          replace q := q.grown grv248 q.size (by rintro k ⟨⟩; omega)
          replace M := M.gr grv248 (by omega)
          replace rf := rf.gr grv248 (by have := rf.lt; omega)
          replace hS := hS.gr grv248 (by omega)
          replace cf9 := cell_gr cf9 grv248 (by omega)
          replace hok := hok.trans (grown_kept grv248 (fun j h => by have := h.1; have := hok.size; omega) (fun j h e => by cases e; have h2 := h.1; have h3 := h.2; omega))
          refine ⟨hok, ?_⟩
          refine AA.pure 15 rfl hok (by kernel_rfl) (fun w' b' => R.index rfl rfl rfl (I.ixS1 rfl (by omega))) rfl rfl ?_
          refine AA.one 16 (by kernel_rfl) ?_
          (refine ZR.store (off := 0 + k) rfl rfl rfl rfl rfl rf (by rw [hfl]; omega) rfl rfl rfl rfl ?_; intro Wv257 rf9 grv255 zz8; rw [Nat.zero_add] at rf9; clear rf; have rf := rf9; clear rf9)
          have zgrv255 := grv255.size
          replace rs := rs.gr grv255 (by have := rs.lt; omega)
          replace q := q.grown grv255 q.size (by rintro k ⟨⟩; omega)
          replace M := M.gr grv255 (by omega)
          replace hS := hS.gr grv255 (by omega)
          replace hok := hok.trans (grown_kept grv255 (fun j h => by have := h.1; have := hok.size; omega) (fun j h e => by cases e; have h2 := h.1; have h3 := h.2; omega))
          refine ⟨hok, ?_⟩
          refine AA.done rfl ?_
          clear hok
          exact EE.weak (Jv166 _ _ ⟨rfl, (by first | assumption | omega), (by first | assumption | omega), (by first | assumption | omega), (by first | assumption | omega), (by first | assumption | omega), (by first | assumption | omega)⟩) ⟨rfl, rfl, rfl, rfl, rfl, rfl, rfl, rfl, rfl, rfl, rfl, rfl, rfl, rfl, rfl, rfl, rfl, trivial⟩
          refine SR.val rfl (R.load rfl rfl (I.ld1 rfl (by assumption))) rfl rfl hok ?_
          refine AA.one 7 (by kernel_rfl) ?_
          refine SR.val rfl (R.load rfl rfl (I.ld1 rfl (by assumption))) rfl rfl hok ?_
          refine AA.pure 12 rfl hok (by kernel_rfl) (fun w' b' => R.slice rfl rfl rfl rfl rfl (I.slFrom rfl (by omega) (by omega) (by omega))) rfl rfl ?_
          refine AA.pure 13 rfl hok (by kernel_rfl) (fun w' b' => R.index rfl rfl rfl (I.ixS1 rfl (by omega))) rfl rfl ?_
          refine AA.one 14 (by kernel_rfl) ?_
          (refine ZR.store (off := 0 + k) rfl rfl rfl rfl rfl rs (by rw [hrl]; omega) rfl rfl rfl rfl ?_; intro Wv299 rs9 grv297 zz9; rw [Nat.zero_add] at rs9; clear rs; have rs := rs9; clear rs9)
          have zgrv297 := grv297.size
          replace q := q.grown grv297 q.size (by rintro k ⟨⟩; omega)
          replace M := M.gr grv297 (by omega)
          replace rf := rf.gr grv297 (by have := rf.lt; omega)
          replace hS := hS.gr grv297 (by omega)
          replace cf9 := cell_gr cf9 grv297 (by omega)
          replace hok := hok.trans (grown_kept grv297 (fun j h => by have := h.1; have := hok.size; omega) (fun j h e => by cases e; have h2 := h.1; have h3 := h.2; omega))
          refine ⟨hok, ?_⟩
          refine AA.pure 15 rfl hok (by kernel_rfl) (fun w' b' => R.index rfl rfl rfl (I.ixS1 rfl (by omega))) rfl rfl ?_
          refine AA.one 16 (by kernel_rfl) ?_
          (refine ZR.store (off := 0 + k) rfl rfl rfl rfl rfl rf (by rw [hfl]; omega) rfl rfl rfl rfl ?_; intro Wv306 rf9 grv304 zz8; rw [Nat.zero_add] at rf9; clear rf; have rf := rf9; clear rf9)
          have zgrv304 := grv304.size
          replace rs := rs.gr grv304 (by have := rs.lt; omega)
          replace q := q.grown grv304 q.size (by rintro k ⟨⟩; omega)
          replace M := M.gr grv304 (by omega)
          replace hS := hS.gr grv304 (by omega)
          replace hok := hok.trans (grown_kept grv304 (fun j h => by have := h.1; have := hok.size; omega) (fun j h e => by cases e; have h2 := h.1; have h3 := h.2; omega))
          refine ⟨hok, ?_⟩
          refine AA.done rfl ?_
          clear hok
          exact EE.weak (Jv166 _ _ ⟨rfl, (by first | assumption | omega), (by first | assumption | omega), (by first | assumption | omega), (by first | assumption | omega), (by first | assumption | omega), (by first | assumption | omega)⟩) ⟨rfl, rfl, rfl, rfl, rfl, rfl, rfl, rfl, rfl, rfl, rfl, rfl, rfl, rfl, rfl, rfl, rfl, trivial⟩
      by_cases e3 : a = 3
      · by_cases hb : 0 ≤ b ∧ b < (N : Int)
        · obtain ⟨j, hj⟩ : ∃ j : Nat, b = (j : Int) := ⟨b.toNat, by omega⟩
          obtain ⟨c, hc⟩ : ∃ c, s[j]? = some c := ⟨_, List.getElem?_eq_getElem (by omega)⟩
          obtain ⟨x, hxj⟩ : ∃ x, ls[j]? = some x := ⟨_, List.getElem?_eq_getElem (by omega)⟩
          rw [hj] at m1
          obtain ⟨hw, hnw⟩ := hG j x c hxj hc
          have hpos := hw.pos
          have hlen := hw.len
          have hcap := (hS.sub j x hxj).1.len
          refine CC.seq ?_
          refine CC.seq ?_
          refine CC.region ?_
          refine LL.val (R.move rfl rfl) rfl rfl rfl ?_
          refine LL.val (R.move rfl rfl) rfl rfl rfl ?_
          refine LL.val (R.len rfl rfl rfl rfl) rfl rfl rfl ?_
          refine LL.val (R.ltT rfl rfl rfl (by omega)) rfl rfl rfl ?_
          refine LL.nilS ?_
          refine CC.yes rfl ?_
          refine CC.skip ?_
          refine EE.thenN ?_
          refine CC.seq ?_
          refine CC.block ?_
          refine CC.seq ?_
          refine CC.region ?_
          refine LL.val (R.move rfl rfl) rfl rfl rfl ?_
          refine LL.val (R.move rfl rfl) rfl rfl rfl ?_
          refine LL.val (R.index rfl rfl rfl (I.ixS rfl (by omega))) rfl rfl rfl ?_
          refine LL.val (R.load rfl rfl (I.ldM (by assumption) rfl rfl)) rfl rfl rfl ?_
          have lw190 := rs.lt
          have lw191 := rf.lt
          refine LL.alloc ([Value.int IntKind.i64 0, Value.int IntKind.i64 0, Value.int IntKind.u64 0]) rfl rfl rfl rfl rfl ?_
          intro Ww193 gw194 egw194 rw195 zw196 bw192
          replace q := q.trans (bw192.mono q.size)
          replace M := M.up bw192
          replace rs := rs.up bw192
          replace rf := rf.up bw192
          replace hS := hS.up bw192
          replace m1 := m1.up bw192
          refine LL.storeN (vs := [Value.int IntKind.i64 a, Value.int IntKind.i64 ↑j, Value.int IntKind.u64 ↑v]) rfl rfl rfl rfl rw195 (by exact Nat.le_of_ble_eq_true rfl) (ones_of rfl) rfl rfl ?_
          intro Ww219 rw220 bw218 zw221
          have hlbw218 := rw195.lt
          replace rw220 : RowL Ww219 _ 39 [Value.int IntKind.i64 a, Value.int IntKind.i64 ↑j, Value.int IntKind.u64 ↑v] := rw220
          clear rw195
          replace bw192 := bw192.grown bw218 bw192.size (by rintro k ⟨⟩; omega)
          replace q := q.grown bw218 q.size (by rintro k ⟨⟩; omega)
          replace M := M.gr bw218 (by omega)
          replace rs := rs.gr bw218 (by have := rs.lt; omega)
          replace rf := rf.gr bw218 (by have := rf.lt; omega)
          replace hS := hS.gr bw218 (by omega)
          replace m1 := m1.gr bw218 (by have := m1.lt; omega)
          have rw195 := rw220
          clear rw220
          refine LL.nilS ?_
          refine CC.seq ?_
          refine CC.seq ?_
          refine CC.region ?_
          refine LL.val (R.field rfl rfl (I.fld rfl)) rfl rfl rfl ?_
          refine LL.val (R.load rfl rfl (I.ld1 rfl (RowL.cell rw195 rfl))) rfl rfl rfl ?_
          refine LL.nilS ?_
          refine CC.block ?_
          refine CC.seq ?_
          refine CC.region ?_
          refine LL.val (R.eqF rfl rfl rfl (by omega)) rfl rfl rfl ?_
          refine LL.val (R.assign rfl rfl) rfl rfl rfl ?_
          refine LL.nilS ?_
          refine CC.no rfl ?_
          refine CC.seq ?_
          refine CC.region ?_
          refine LL.val (R.eqF rfl rfl rfl (by omega)) rfl rfl rfl ?_
          refine LL.val (R.assign rfl rfl) rfl rfl rfl ?_
          refine LL.nilS ?_
          refine CC.no rfl ?_
          refine CC.seq ?_
          refine CC.region ?_
          refine LL.val (R.eqF rfl rfl rfl (by omega)) rfl rfl rfl ?_
          refine LL.val (R.assign rfl rfl) rfl rfl rfl ?_
          refine LL.nilS ?_
          refine CC.no rfl ?_
          refine CC.seq ?_
          refine CC.region ?_
          refine LL.val (R.eqT rfl rfl rfl (by omega)) rfl rfl rfl ?_
          refine LL.val (R.assign rfl rfl) rfl rfl rfl ?_
          refine LL.nilS ?_
          refine CC.yes rfl ?_
          refine CC.seq ?_
          refine CC.region ?_
          refine LL.val (R.move rfl rfl) rfl rfl rfl ?_
          refine LL.val (R.field rfl rfl (I.fld rfl)) rfl rfl rfl ?_
          refine LL.val (R.load rfl rfl (I.ld1 rfl (RowL.cell rw195 rfl))) rfl rfl rfl ?_
          (refine LL.call (R.call rfl rfl rfl) rfl rfl rfl (evict_T _ m gn gl qb N j M hc) ?_; rintro e Ww498 ⟨rfl, M2, tw497⟩; refine ⟨_, rfl, ?_⟩; clear M; have M := M2; clear M2; have cs9 := RowL.cell rs (show (ls.map Sx.v)[j]? = some (.slice (some ⟨x.b, x.off, none⟩) x.ts.length x.cap) from (by rw [List.getElem?_map, hxj]; rfl)); rw [← Nat.zero_add j] at cs9)
          have ztw497 := tw497.size
          replace q := tw497.onB q (fun j hj => ⟨by have := q.size; omega, by omega⟩)
          replace rs := rs.kept tw497 ⟨rs.lt, by omega⟩
          replace rf := rf.kept tw497 ⟨rf.lt, by omega⟩
          replace hS := hS.kept tw497 ⟨by omega, by omega⟩
          replace m1 := m1.kept tw497 ⟨by omega, by omega⟩
          replace rw195 := rw195.kept tw497 ⟨rw195.lt, by omega⟩
          replace cs9 := cell_kept cs9 tw497 ⟨World.block_lt_of_cell? _ _ cs9, by omega⟩
          refine LL.call (R.call rfl rfl rfl) rfl rfl rfl (num_any _ _) ?_
          rintro e W' ⟨rfl, rfl⟩
          refine ⟨_, rfl, ?_⟩
          refine LL.val (R.eqT rfl rfl rfl (by omega)) rfl rfl rfl ?_
          refine LL.val (R.move rfl rfl) rfl rfl rfl ?_
          refine LL.val (R.field rfl rfl (I.fld rfl)) rfl rfl rfl ?_
          refine LL.val (R.load rfl rfl (I.ld1 rfl (RowL.cell rw195 rfl))) rfl rfl rfl ?_
          refine LL.val (R.geT rfl rfl rfl (by omega)) rfl rfl rfl ?_
          refine LL.val (R.pick rfl rfl rfl) rfl rfl rfl ?_
          refine LL.val (R.move rfl rfl) rfl rfl rfl ?_
          refine LL.val (R.field rfl rfl (I.fld rfl)) rfl rfl rfl ?_
          refine LL.val (R.load rfl rfl (I.ld1 rfl (RowL.cell rw195 rfl))) rfl rfl rfl ?_
          refine LL.val (R.move rfl rfl) rfl rfl rfl ?_
          refine LL.val (R.ltT rfl rfl rfl (by omega)) rfl rfl rfl ?_
          refine LL.val (R.pick rfl rfl rfl) rfl rfl rfl ?_
          refine LL.nilS ?_
          refine CC.yes rfl ?_
          refine CC.freeZ (fun W_ j => j < W_.heap.size ∧ (j ≠ gs ∧ j ≠ gf)) (by kernel_rfl) (by kernel_rfl) (fun Ww858 bw857 zw859 => ?_)
          replace M := M.up bw857
          replace q := q.trans (bw857.mono q.size)
          replace rs := rs.up bw857
          replace rf := rf.up bw857
          replace hS := hS.up bw857
          replace m1 := m1.up bw857
          replace rw195 := rw195.up bw857
          replace cs9 := cell_up cs9 bw857
          have hok : Kept (fun j => j < Ww858.heap.size ∧ (j ≠ gs ∧ j ≠ gf)) Ww858 Ww858 := Kept.refl _ _
          have fzrw195 := fzRow (K := fun j => j < Ww858.heap.size ∧ (j ≠ gs ∧ j ≠ gf)) rw195 ⟨rw195.lt, (by first | trivial | omega)⟩
          refine AA.pure 0 rfl hok (by kernel_rfl) (fun w' b' => R.move rfl rfl) rfl rfl ?_
          refine AA.pure 1 rfl hok (by kernel_rfl) (fun w' b' => R.field rfl rfl (I.fld rfl)) rfl rfl ?_
          refine AA.pure 2 rfl hok (by kernel_rfl) (fun w' b' => R.load rfl rfl (I.ld1 rfl (RowL.cell (fzrw195 w' b') rfl))) rfl rfl ?_
          refine AA.pure 3 rfl hok (by kernel_rfl) (fun w' b' => R.move rfl rfl) rfl rfl ?_
          refine AA.pure 4 rfl hok (by kernel_rfl) (fun w' b' => R.field rfl rfl (I.fld rfl)) rfl rfl ?_
          refine AA.pure 5 rfl hok (by kernel_rfl) (fun w' b' => R.load rfl rfl (I.ld1 rfl (RowL.cell (fzrw195 w' b') rfl))) rfl rfl ?_
          refine AA.pure 6 rfl hok (by kernel_rfl) (fun w' b' => R.move rfl rfl) rfl rfl ?_
          refine AA.pure 7 rfl hok (by kernel_rfl) (fun w' b' => R.field rfl rfl (I.fld rfl)) rfl rfl ?_
          refine AA.pure 8 rfl hok (by kernel_rfl) (fun w' b' => R.load rfl rfl (I.ld1 rfl (RowL.cell (fzrw195 w' b') rfl))) rfl rfl ?_
          refine AA.pure 9 rfl hok (by kernel_rfl) (fun w' b' => R.index rfl rfl rfl (I.ixS1 rfl (by omega))) rfl rfl ?_
          refine AA.pure 11 rfl hok (by kernel_rfl) (fun w' b' => R.move rfl rfl) rfl rfl ?_
          refine AA.pure 12 rfl hok (by kernel_rfl) (fun w' b' => R.field rfl rfl (I.fld rfl)) rfl rfl ?_
          refine AA.pure 13 rfl hok (by kernel_rfl) (fun w' b' => R.load rfl rfl (I.ld1 rfl (RowL.cell (fzrw195 w' b') rfl))) rfl rfl ?_
          refine AA.pure 14 rfl hok (by kernel_rfl) (fun w' b' => R.index rfl rfl rfl (I.ixS1 rfl (by omega))) rfl rfl ?_
          refine AA.two 10 15 (by kernel_rfl) ?_ ?_
          refine SR.val rfl (R.load rfl rfl (I.ld1 rfl (by assumption))) rfl rfl hok ?_
          refine AA.one 15 (by kernel_rfl) ?_
          refine SR.val rfl (R.load rfl rfl (I.ld1 rfl (by assumption))) rfl rfl hok ?_
          refine AA.pure 16 rfl hok (by kernel_rfl) (fun w' b' => R.len rfl rfl rfl rfl) rfl rfl ?_
          refine AA.pure 17 rfl hok (by kernel_rfl) (fun w' b' => R.subNc rfl rfl rfl rfl (by omega) (by omega)) rfl rfl ?_
          refine AA.pure 18 rfl hok (by kernel_rfl) (fun w' b' => R.slice rfl rfl rfl rfl rfl (I.slFrom rfl (by omega) (by omega) (by omega))) rfl rfl ?_
          refine AA.pure 19 rfl hok (by kernel_rfl) (fun w' b' => R.index rfl rfl rfl (I.ixS1 rfl (by omega))) rfl rfl ?_
          refine AA.one 20 (by kernel_rfl) ?_
          (refine ZR.store (off := 0 + j) rfl rfl rfl rfl rfl rs (by rw [hrl]; omega) rfl rfl rfl rfl ?_; intro Ww919 rs9 grw917 zz9; rw [Nat.zero_add] at rs9; clear rs; have rs := rs9; clear rs9)
          have zgrw917 := grw917.size
          replace M := M.gr grw917 (by omega)
          replace q := q.grown grw917 q.size (by rintro k ⟨⟩; omega)
          replace rf := rf.gr grw917 (by have := rf.lt; omega)
          replace hS := hS.gr grw917 (by omega)
          replace m1 := m1.gr grw917 (by have := m1.lt; omega)
          replace rw195 := rw195.gr grw917 (by have := rw195.lt; omega)
          replace hok := hok.trans (grown_kept grw917 (fun j h => by have := h.1; have := hok.size; omega) (fun j h e => by cases e; have h2 := h.1; have h3 := h.2; omega))
          refine ⟨hok, ?_⟩
          refine AA.pure 21 rfl hok (by kernel_rfl) (fun w' b' => R.index rfl rfl rfl (I.ixS1 rfl (by omega))) rfl rfl ?_
          refine AA.one 22 (by kernel_rfl) ?_
          (refine ZR.store (off := 0 + j) rfl rfl rfl rfl rfl rf (by rw [hfl]; omega) rfl rfl rfl rfl ?_; intro Ww933 rf9 grw931 zz8; rw [Nat.zero_add] at rf9; clear rf; have rf := rf9; clear rf9)
          have zgrw931 := grw931.size
          replace rs := rs.gr grw931 (by have := rs.lt; omega)
          replace M := M.gr grw931 (by omega)
          replace q := q.grown grw931 q.size (by rintro k ⟨⟩; omega)
          replace hS := hS.gr grw931 (by omega)
          replace m1 := m1.gr grw931 (by have := m1.lt; omega)
          replace rw195 := rw195.gr grw931 (by have := rw195.lt; omega)
          replace hok := hok.trans (grown_kept grw931 (fun j h => by have := h.1; have := hok.size; omega) (fun j h e => by cases e; have h2 := h.1; have h3 := h.2; omega))
          refine ⟨hok, ?_⟩
          refine AA.done rfl ?_
          clear fzrw195 hok
          refine EE.inN ?_
          refine EE.thenN ?_
          refine CC.seq ?_
          refine CC.region ?_
          refine LL.val (R.assign rfl rfl) rfl rfl rfl ?_
          refine LL.nilS ?_
          refine CC.block ?_
          (obtain ⟨l', hl'⟩ : ∃ l, l = (ls.set j (x.from (x.ts.length - 1))) := ⟨_, rfl⟩; obtain ⟨s', hs'⟩ : ∃ t, t = (s.set j (evC c)) := ⟨_, rfl⟩; exact CC.keep [(0, .slice a0 (N * 8) c0), (1, .slice (some ⟨bs, os, none⟩) n c1), (2, .slice a2 K c2), (7, .pointer (some ⟨m, 0, none⟩)), (9, .int .i64 (N : Int)), (10, .slice (some ⟨gs, 0, none⟩) N N), (11, .slice (some ⟨gf, 0, none⟩) N N), (13, .int .i64 (i : Int)), (16, .int .i64 0)] ⟨rfl, rfl, rfl, rfl, rfl, rfl, rfl, rfl, rfl, trivial⟩ (lat.out l' s' _ (by rw [hl', hs']; exact ⟨⟨by rw [List.length_set]; exact hlN, q, M, by rw [← sx_set_v, from_v]; exact rs, by rw [← sx_set_f]; exact rf, (Sb.put (x' := x.from (x.ts.length - 1)) hS hxj rfl ((hS.sub j x hxj).1.drop (by omega))).wide (by omega), by omega⟩, all_set hG (fun _ _ h => h.1) ((hw.evict hnw).1)⟩)))
          refine SR.val rfl (R.load rfl rfl (I.ld1 rfl (by assumption))) rfl rfl hok ?_
          refine AA.pure 16 rfl hok (by kernel_rfl) (fun w' b' => R.len rfl rfl rfl rfl) rfl rfl ?_
          refine AA.pure 17 rfl hok (by kernel_rfl) (fun w' b' => R.subNc rfl rfl rfl rfl (by omega) (by omega)) rfl rfl ?_
          refine AA.one 10 (by kernel_rfl) ?_
          refine SR.val rfl (R.load rfl rfl (I.ld1 rfl (by assumption))) rfl rfl hok ?_
          refine AA.pure 18 rfl hok (by kernel_rfl) (fun w' b' => R.slice rfl rfl rfl rfl rfl (I.slFrom rfl (by omega) (by omega) (by omega))) rfl rfl ?_
          refine AA.pure 19 rfl hok (by kernel_rfl) (fun w' b' => R.index rfl rfl rfl (I.ixS1 rfl (by omega))) rfl rfl ?_
          refine AA.one 20 (by kernel_rfl) ?_
          (refine ZR.store (off := 0 + j) rfl rfl rfl rfl rfl rs (by rw [hrl]; omega) rfl rfl rfl rfl ?_; intro Ww1017 rs9 grw1015 zz9; rw [Nat.zero_add] at rs9; clear rs; have rs := rs9; clear rs9)
          have zgrw1015 := grw1015.size
          replace M := M.gr grw1015 (by omega)
          replace q := q.grown grw1015 q.size (by rintro k ⟨⟩; omega)
          replace rf := rf.gr grw1015 (by have := rf.lt; omega)
          replace hS := hS.gr grw1015 (by omega)
          replace m1 := m1.gr grw1015 (by have := m1.lt; omega)
          replace rw195 := rw195.gr grw1015 (by have := rw195.lt; omega)
          replace hok := hok.trans (grown_kept grw1015 (fun j h => by have := h.1; have := hok.size; omega) (fun j h e => by cases e; have h2 := h.1; have h3 := h.2; omega))
          refine ⟨hok, ?_⟩
          refine AA.pure 21 rfl hok (by kernel_rfl) (fun w' b' => R.index rfl rfl rfl (I.ixS1 rfl (by omega))) rfl rfl ?_
          refine AA.one 22 (by kernel_rfl) ?_
          (refine ZR.store (off := 0 + j) rfl rfl rfl rfl rfl rf (by rw [hfl]; omega) rfl rfl rfl rfl ?_; intro Ww1031 rf9 grw1029 zz8; rw [Nat.zero_add] at rf9; clear rf; have rf := rf9; clear rf9)
          have zgrw1029 := grw1029.size
          replace rs := rs.gr grw1029 (by have := rs.lt; omega)
          replace M := M.gr grw1029 (by omega)
          replace q := q.grown grw1029 q.size (by rintro k ⟨⟩; omega)
          replace hS := hS.gr grw1029 (by omega)
          replace m1 := m1.gr grw1029 (by have := m1.lt; omega)
          replace rw195 := rw195.gr grw1029 (by have := rw195.lt; omega)
          replace hok := hok.trans (grown_kept grw1029 (fun j h => by have := h.1; have := hok.size; omega) (fun j h e => by cases e; have h2 := h.1; have h3 := h.2; omega))
          refine ⟨hok, ?_⟩
          refine AA.done rfl ?_
          clear fzrw195 hok
          refine EE.inN ?_
          refine EE.thenN ?_
          refine CC.seq ?_
          refine CC.region ?_
          refine LL.val (R.assign rfl rfl) rfl rfl rfl ?_
          refine LL.nilS ?_
          refine CC.block ?_
          (obtain ⟨l', hl'⟩ : ∃ l, l = (ls.set j (x.from (x.ts.length - 1))) := ⟨_, rfl⟩; obtain ⟨s', hs'⟩ : ∃ t, t = (s.set j (evC c)) := ⟨_, rfl⟩; exact CC.keep [(0, .slice a0 (N * 8) c0), (1, .slice (some ⟨bs, os, none⟩) n c1), (2, .slice a2 K c2), (7, .pointer (some ⟨m, 0, none⟩)), (9, .int .i64 (N : Int)), (10, .slice (some ⟨gs, 0, none⟩) N N), (11, .slice (some ⟨gf, 0, none⟩) N N), (13, .int .i64 (i : Int)), (16, .int .i64 0)] ⟨rfl, rfl, rfl, rfl, rfl, rfl, rfl, rfl, rfl, trivial⟩ (lat.out l' s' _ (by rw [hl', hs']; exact ⟨⟨by rw [List.length_set]; exact hlN, q, M, by rw [← sx_set_v, from_v]; exact rs, by rw [← sx_set_f]; exact rf, (Sb.put (x' := x.from (x.ts.length - 1)) hS hxj rfl ((hS.sub j x hxj).1.drop (by omega))).wide (by omega), by omega⟩, all_set hG (fun _ _ h => h.1) ((hw.evict hnw).1)⟩)))
        · refine CC.seq ?_
          refine CC.seq ?_
          refine CC.region ?_
          refine LL.val (R.move rfl rfl) rfl rfl rfl ?_
          refine LL.val (R.move rfl rfl) rfl rfl rfl ?_
          refine LL.val (R.len rfl rfl rfl rfl) rfl rfl rfl ?_
          refine LL.val (R.ltT rfl rfl rfl (by omega)) rfl rfl rfl ?_
          refine LL.nilS ?_
          refine CC.yes rfl ?_
          refine CC.skip ?_
          refine EE.thenN ?_
          refine CC.seq ?_
          refine CC.block ?_
          refine CC.seq ?_
          refine CC.region ?_
          refine LL.val (R.move rfl rfl) rfl rfl rfl ?_
          refine LL.val (R.move rfl rfl) rfl rfl rfl ?_
          refine LL.val (R.index rfl rfl rfl (I.ixS rfl (by omega))) rfl rfl rfl ?_
          refine LL.val (R.load rfl rfl (I.ldM (by assumption) rfl rfl)) rfl rfl rfl ?_
          have lx82 := rs.lt
          have lx83 := rf.lt
          refine LL.alloc ([Value.int IntKind.i64 0, Value.int IntKind.i64 0, Value.int IntKind.u64 0]) rfl rfl rfl rfl rfl ?_
          intro Wx85 gx86 egx86 rx87 zx88 bx84
          replace q := q.trans (bx84.mono q.size)
          replace M := M.up bx84
          replace rs := rs.up bx84
          replace rf := rf.up bx84
          replace hS := hS.up bx84
          replace m1 := m1.up bx84
          refine LL.storeN (vs := [Value.int IntKind.i64 a, Value.int IntKind.i64 b, Value.int IntKind.u64 ↑v]) rfl rfl rfl rfl rx87 (by exact Nat.le_of_ble_eq_true rfl) (ones_of rfl) rfl rfl ?_
          intro Wx100 rx101 bx99 zx102
          have hlbx99 := rx87.lt
          replace rx101 : RowL Wx100 _ 39 [Value.int IntKind.i64 a, Value.int IntKind.i64 b, Value.int IntKind.u64 ↑v] := rx101
          clear rx87
          replace bx84 := bx84.grown bx99 bx84.size (by rintro k ⟨⟩; omega)
          replace q := q.grown bx99 q.size (by rintro k ⟨⟩; omega)
          replace M := M.gr bx99 (by omega)
          replace rs := rs.gr bx99 (by have := rs.lt; omega)
          replace rf := rf.gr bx99 (by have := rf.lt; omega)
          replace hS := hS.gr bx99 (by omega)
          replace m1 := m1.gr bx99 (by have := m1.lt; omega)
          have rx87 := rx101
          clear rx101
          refine LL.nilS ?_
          refine CC.seq ?_
          refine CC.seq ?_
          refine CC.region ?_
          refine LL.val (R.field rfl rfl (I.fld rfl)) rfl rfl rfl ?_
          refine LL.val (R.load rfl rfl (I.ld1 rfl (RowL.cell rx87 rfl))) rfl rfl rfl ?_
          refine LL.nilS ?_
          refine CC.block ?_
          refine CC.seq ?_
          refine CC.region ?_
          refine LL.val (R.eqF rfl rfl rfl (by omega)) rfl rfl rfl ?_
          refine LL.val (R.assign rfl rfl) rfl rfl rfl ?_
          refine LL.nilS ?_
          refine CC.no rfl ?_
          refine CC.seq ?_
          refine CC.region ?_
          refine LL.val (R.eqF rfl rfl rfl (by omega)) rfl rfl rfl ?_
          refine LL.val (R.assign rfl rfl) rfl rfl rfl ?_
          refine LL.nilS ?_
          refine CC.no rfl ?_
          refine CC.seq ?_
          refine CC.region ?_
          refine LL.val (R.eqF rfl rfl rfl (by omega)) rfl rfl rfl ?_
          refine LL.val (R.assign rfl rfl) rfl rfl rfl ?_
          refine LL.nilS ?_
          refine CC.no rfl ?_
          refine CC.seq ?_
          refine CC.region ?_
          refine LL.val (R.eqT rfl rfl rfl (by omega)) rfl rfl rfl ?_
          refine LL.val (R.assign rfl rfl) rfl rfl rfl ?_
          refine LL.nilS ?_
          refine CC.yes rfl ?_
          refine CC.seq ?_
          refine CC.region ?_
          refine LL.val (R.move rfl rfl) rfl rfl rfl ?_
          refine LL.val (R.field rfl rfl (I.fld rfl)) rfl rfl rfl ?_
          refine LL.val (R.load rfl rfl (I.ld1 rfl (RowL.cell rx87 rfl))) rfl rfl rfl ?_
          have lx237 := rs.lt
          have lx238 := rf.lt
          have lx239 := rx87.lt
          (refine LL.call (R.call rfl rfl rfl) rfl rfl rfl (evict_F _ m gn gl qb N b M (by omega)) ?_; rintro e Wx236 ⟨rfl, bx233⟩; refine ⟨_, rfl, ?_⟩)
          have zbx233 := bx233.size
          replace bx84 := bx84.trans (bx233.mono bx84.size)
          replace q := q.trans (bx233.mono q.size)
          replace M := M.up bx233
          replace rs := rs.up bx233
          replace rf := rf.up bx233
          replace hS := hS.up bx233
          replace m1 := m1.up bx233
          replace rx87 := rx87.up bx233
          refine LL.call (R.call rfl rfl rfl) rfl rfl rfl (num_any _ _) ?_
          rintro e W' ⟨rfl, rfl⟩
          refine ⟨_, rfl, ?_⟩
          refine LL.val (R.eqF rfl rfl rfl (by omega)) rfl rfl rfl ?_
          refine LL.val (R.move rfl rfl) rfl rfl rfl ?_
          refine LL.skip rfl rfl ?_
          refine LL.skip rfl rfl ?_
          refine LL.skip rfl rfl ?_
          refine LL.val (R.pick rfl rfl rfl) rfl rfl rfl ?_
          refine LL.val (R.move rfl rfl) rfl rfl rfl ?_
          refine LL.skip rfl rfl ?_
          refine LL.skip rfl rfl ?_
          refine LL.skip rfl rfl ?_
          refine LL.skip rfl rfl ?_
          refine LL.val (R.pick rfl rfl rfl) rfl rfl rfl ?_
          refine LL.nilS ?_
          refine CC.no rfl ?_
          refine CC.skip ?_
          refine EE.inN ?_
          refine EE.thenN ?_
          refine CC.seq ?_
          refine CC.region ?_
          refine LL.val (R.assign rfl rfl) rfl rfl rfl ?_
          refine LL.nilS ?_
          refine CC.block ?_
          (obtain ⟨l', hl'⟩ : ∃ l, l = (ls) := ⟨_, rfl⟩; obtain ⟨s', hs'⟩ : ∃ t, t = (s) := ⟨_, rfl⟩; exact CC.keep [(0, .slice a0 (N * 8) c0), (1, .slice (some ⟨bs, os, none⟩) n c1), (2, .slice a2 K c2), (7, .pointer (some ⟨m, 0, none⟩)), (9, .int .i64 (N : Int)), (10, .slice (some ⟨gs, 0, none⟩) N N), (11, .slice (some ⟨gf, 0, none⟩) N N), (13, .int .i64 (i : Int)), (16, .int .i64 0)] ⟨rfl, rfl, rfl, rfl, rfl, rfl, rfl, rfl, rfl, trivial⟩ (lat.out l' s' _ (by rw [hl', hs']; exact ⟨⟨hlN, q, M, rs, rf, hS.wide (by omega), by omega⟩, fun k x c e1 e2 => (hG k x c e1 e2).1⟩)))
      refine CC.seq ?_
      refine CC.seq ?_
      refine CC.region ?_
      refine LL.val (R.move rfl rfl) rfl rfl rfl ?_
      refine LL.val (R.move rfl rfl) rfl rfl rfl ?_
      refine LL.val (R.len rfl rfl rfl rfl) rfl rfl rfl ?_
      refine LL.val (R.ltT rfl rfl rfl (by omega)) rfl rfl rfl ?_
      refine LL.nilS ?_
      refine CC.yes rfl ?_
      refine CC.skip ?_
      refine EE.thenN ?_
      refine CC.seq ?_
      refine CC.block ?_
      refine CC.seq ?_
      refine CC.region ?_
      refine LL.val (R.move rfl rfl) rfl rfl rfl ?_
      refine LL.val (R.move rfl rfl) rfl rfl rfl ?_
      refine LL.val (R.index rfl rfl rfl (I.ixS rfl (by omega))) rfl rfl rfl ?_
      refine LL.val (R.load rfl rfl (I.ldM (by assumption) rfl rfl)) rfl rfl rfl ?_
      have ly1 := rs.lt
      have ly2 := rf.lt
      refine LL.alloc ([Value.int IntKind.i64 0, Value.int IntKind.i64 0, Value.int IntKind.u64 0]) rfl rfl rfl rfl rfl ?_
      intro Wy4 gy5 egy5 ry6 zy7 by3
      replace q := q.trans (by3.mono q.size)
      replace M := M.up by3
      replace rs := rs.up by3
      replace rf := rf.up by3
      replace hS := hS.up by3
      replace m1 := m1.up by3
      refine LL.storeN (vs := [Value.int IntKind.i64 a, Value.int IntKind.i64 b, Value.int IntKind.u64 ↑v]) rfl rfl rfl rfl ry6 (by exact Nat.le_of_ble_eq_true rfl) (ones_of rfl) rfl rfl ?_
      intro Wy9 ry10 by8 zy11
      have hlby8 := ry6.lt
      replace ry10 : RowL Wy9 _ 39 [Value.int IntKind.i64 a, Value.int IntKind.i64 b, Value.int IntKind.u64 ↑v] := ry10
      clear ry6
      replace by3 := by3.grown by8 by3.size (by rintro k ⟨⟩; omega)
      replace q := q.grown by8 q.size (by rintro k ⟨⟩; omega)
      replace M := M.gr by8 (by omega)
      replace rs := rs.gr by8 (by have := rs.lt; omega)
      replace rf := rf.gr by8 (by have := rf.lt; omega)
      replace hS := hS.gr by8 (by omega)
      replace m1 := m1.gr by8 (by have := m1.lt; omega)
      have ry6 := ry10
      clear ry10
      refine LL.nilS ?_
      refine CC.seq ?_
      refine CC.seq ?_
      refine CC.region ?_
      refine LL.val (R.field rfl rfl (I.fld rfl)) rfl rfl rfl ?_
      refine LL.val (R.load rfl rfl (I.ld1 rfl (RowL.cell ry6 rfl))) rfl rfl rfl ?_
      refine LL.nilS ?_
      refine CC.block ?_
      refine CC.seq ?_
      refine CC.region ?_
      refine LL.val (R.eqF rfl rfl rfl (by omega)) rfl rfl rfl ?_
      refine LL.val (R.assign rfl rfl) rfl rfl rfl ?_
      refine LL.nilS ?_
      refine CC.no rfl ?_
      refine CC.seq ?_
      refine CC.region ?_
      refine LL.val (R.eqF rfl rfl rfl (by omega)) rfl rfl rfl ?_
      refine LL.val (R.assign rfl rfl) rfl rfl rfl ?_
      refine LL.nilS ?_
      refine CC.no rfl ?_
      refine CC.seq ?_
      refine CC.region ?_
      refine LL.val (R.eqF rfl rfl rfl (by omega)) rfl rfl rfl ?_
      refine LL.val (R.assign rfl rfl) rfl rfl rfl ?_
      refine LL.nilS ?_
      refine CC.no rfl ?_
      refine CC.seq ?_
      refine CC.region ?_
      refine LL.val (R.eqF rfl rfl rfl (by omega)) rfl rfl rfl ?_
      refine LL.val (R.assign rfl rfl) rfl rfl rfl ?_
      refine LL.nilS ?_
      refine CC.no rfl ?_
      refine CC.skip ?_
      refine EE.inN ?_
      refine EE.thenN ?_
      refine CC.seq ?_
      refine CC.region ?_
      refine LL.val (R.assign rfl rfl) rfl rfl rfl ?_
      refine LL.nilS ?_
      refine CC.block ?_
      (obtain ⟨l', hl'⟩ : ∃ l, l = (ls) := ⟨_, rfl⟩; obtain ⟨s', hs'⟩ : ∃ t, t = (s) := ⟨_, rfl⟩; exact CC.keep [(0, .slice a0 (N * 8) c0), (1, .slice (some ⟨bs, os, none⟩) n c1), (2, .slice a2 K c2), (7, .pointer (some ⟨m, 0, none⟩)), (9, .int .i64 (N : Int)), (10, .slice (some ⟨gs, 0, none⟩) N N), (11, .slice (some ⟨gf, 0, none⟩) N N), (13, .int .i64 (i : Int)), (16, .int .i64 0)] ⟨rfl, rfl, rfl, rfl, rfl, rfl, rfl, rfl, rfl, trivial⟩ (lat.out l' s' _ (by rw [hl', hs']; exact ⟨⟨hlN, q, M, rs, rf, hS.wide (by omega), by omega⟩, fun k x c e1 e2 => (hG k x c e1 e2).1⟩)))
    case k =>
      clear q M rs rf hS hz hG m1 hlN yw
      rintro ls s X ⟨⟨hlN, q, M, rs, rf, hS, hz⟩, hG2⟩
      have hsl := M.len
      refine CC.loop (α := Nat × List Sx) (fun t => [(0, .slice a0 (N * 8) c0), (1, .slice (some ⟨bs, os, none⟩) n c1), (2, .slice a2 K c2), (7, .pointer (some ⟨m, 0, none⟩)), (9, .int .i64 (N : Int)), (10, .slice (some ⟨gs, 0, none⟩) N N), (11, .slice (some ⟨gf, 0, none⟩) N N), (13, .int .i64 (i : Int)), (16, .int .i64 (t.1 : Int))]) (fun t X => t.1 ≤ N ∧ InB w N (gf + 1) m gn gl qb gs gf s t.2 X ∧ ∀ (j : Nat) (x : Sx) (c : Cl), t.2[j]? = some x → s[j]? = some c → Wk (i + 2) x c ∧ (j < t.1 → Nw x c) ∧ (t.1 ≤ j → x.ts.length ≤ i + 1)) (fun t => N - t.1) (0, ls) ⟨rfl, rfl, rfl, rfl, rfl, rfl, rfl, rfl, rfl, trivial⟩ ⟨Nat.zero_le _, ⟨hlN, q, M, rs, rf, hS, hz⟩, fun j x c e1 e2 => ⟨(hG2 j x c e1 e2).mono (by omega), fun h => absurd h (Nat.not_lt_zero _), fun _ => (hG2 j x c e1 e2).len⟩⟩ ?_
      clear q M rs rf hS hz hG2 hlN
      rintro ⟨k, ls2⟩ X ⟨hk, ⟨hl2, q, M, rs, rf, hS, hz⟩, hG2⟩
      dsimp only at hk hl2 rs rf hS hG2
      show CC none Try.prog _ 266 [] (sl [(0, .slice a0 (N * 8) c0), (1, .slice (some ⟨bs, os, none⟩) n c1), (2, .slice a2 K c2), (7, .pointer (some ⟨m, 0, none⟩)), (9, .int .i64 (N : Int)), (10, .slice (some ⟨gs, 0, none⟩) N N), (11, .slice (some ⟨gf, 0, none⟩) N N), (13, .int .i64 (i : Int)), (16, .int .i64 (k : Int))]) _ X
      have yx := q.size
      have hrl : (ls2.map Sx.v).length = N := by simp; omega
      have hfl : (ls2.map Sx.f).length = N := by simp; omega
      by_cases hkN : k < N
      case neg =>
        refine CC.seq ?_
        refine CC.seq ?_
        refine CC.region ?_
        refine LL.val (R.move rfl rfl) rfl rfl rfl ?_
        refine LL.val (R.move rfl rfl) rfl rfl rfl ?_
        refine LL.val (R.ltF rfl rfl rfl (by omega)) rfl rfl rfl ?_
        refine LL.nilS ?_
        refine CC.no rfl ?_
        refine CC.exit ?_
        refine EE.thenX ?_
        refine EE.thenX ?_
        refine EE.inX ?_
        refine EE.inN ?_
        refine EE.thenN ?_
        refine CC.region ?_
        refine LL.val (R.move rfl rfl) rfl rfl rfl ?_
        refine LL.val (R.addNc rfl rfl rfl rfl (by omega)) rfl rfl rfl ?_
        refine LL.val (R.assign rfl rfl) rfl rfl rfl ?_
        refine LL.nil ?_
        exact EE.round (i + 1, ls2, s) ⟨rfl, rfl, rfl, rfl, rfl, rfl, rfl, rfl, trivial⟩ ⟨by show i + 1 ≤ n; omega, ⟨hl2, q, M, rs, rf, hS, hz⟩, fun j x c e1 e2 => ⟨(hG2 j x c e1 e2).1, (hG2 j x c e1 e2).2.1 (by have h9 := (List.getElem?_eq_some_iff.1 (show ls2[j]? = some x from e1)).1; omega)⟩⟩ (by show n - (i + 1) < n - i; omega)
      obtain ⟨c, hc⟩ : ∃ c, s[k]? = some c := ⟨_, List.getElem?_eq_getElem (by omega)⟩
      obtain ⟨x, hxj⟩ : ∃ x, ls2[k]? = some x := ⟨_, List.getElem?_eq_getElem (by omega)⟩
      obtain ⟨hw, _, hxl⟩ := hG2 k x c hxj hc
      replace hxl := hxl (Nat.le_refl _)
      have oky := hw.ok1
      have hpos := hw.pos
      obtain ⟨t, ht⟩ : ∃ t, x.ts[x.ts.length - 1]? = some t := ⟨_, List.getElem?_eq_getElem (by omega)⟩
      have hxb := (hS.sub k x hxj).2
      have hcap := (hS.sub k x hxj).1.len
      have ct9 := (hS.sub k x hxj).1.cell ht
      have cs9 := RowL.cell rs (show (ls2.map Sx.v)[k]? = some (.slice (some ⟨x.b, x.off, none⟩) x.ts.length x.cap) from (by rw [List.getElem?_map, hxj]; rfl))
      rw [← Nat.zero_add k] at cs9
      by_cases heq : cB c.1 = t
      · refine CC.seq ?_
        refine CC.seq ?_
        refine CC.region ?_
        refine LL.val (R.move rfl rfl) rfl rfl rfl ?_
        refine LL.val (R.move rfl rfl) rfl rfl rfl ?_
        refine LL.val (R.ltT rfl rfl rfl (by omega)) rfl rfl rfl ?_
        refine LL.nilS ?_
        refine CC.yes rfl ?_
        refine CC.skip ?_
        refine EE.thenN ?_
        refine CC.seq ?_
        refine CC.block ?_
        refine CC.seq ?_
        refine CC.region ?_
        refine LL.val (R.move rfl rfl) rfl rfl rfl ?_
        refine LL.val (R.move rfl rfl) rfl rfl rfl ?_
        have laa50 := rs.lt
        have laa51 := rf.lt
        (refine LL.call (R.call rfl rfl rfl) rfl rfl rfl (content_any m gn gl qb N k _ M hc oky) ?_; rintro e Waa49 ⟨rfl, baa46⟩; refine ⟨_, rfl, ?_⟩)
        have zbaa46 := baa46.size
        replace q := q.trans (baa46.mono q.size)
        replace M := M.up baa46
        replace rs := rs.up baa46
        replace rf := rf.up baa46
        replace hS := hS.up baa46
        replace ct9 := cell_up ct9 baa46
        replace cs9 := cell_up cs9 baa46
        refine LL.val (R.assign rfl rfl) rfl rfl rfl ?_
        refine LL.nilS ?_
        refine CC.seq ?_
        refine CC.quietB (by kernel_rfl) (by kernel_rfl) (fun Waa65 baa64 zaa66 => ?_)
        replace baa46 := baa46.trans (baa64.mono baa46.size)
        replace q := q.trans (baa64.mono q.size)
        replace M := M.up baa64
        replace rs := rs.up baa64
        replace rf := rf.up baa64
        replace hS := hS.up baa64
        replace ct9 := cell_up ct9 baa64
        replace cs9 := cell_up cs9 baa64
        refine SS.val (R.move rfl rfl) rfl rfl ?_
        refine SS.val (R.move rfl rfl) rfl rfl ?_
        refine SS.val (R.move rfl rfl) rfl rfl ?_
        refine SS.val (R.index rfl rfl rfl (I.ixS1 rfl (by omega))) rfl rfl ?_
        refine SS.val (R.load rfl rfl (I.ld1 rfl (by assumption))) rfl rfl ?_
        refine SS.val (R.move rfl rfl) rfl rfl ?_
        refine SS.val (R.move rfl rfl) rfl rfl ?_
        refine SS.val (R.index rfl rfl rfl (I.ixS1 rfl (by omega))) rfl rfl ?_
        refine SS.val (R.load rfl rfl (I.ld1 rfl (by assumption))) rfl rfl ?_
        refine SS.val (R.len rfl rfl rfl rfl) rfl rfl ?_
        refine SS.val (R.subNc rfl rfl rfl rfl (by omega) (by omega)) rfl rfl ?_
        refine SS.val (R.index rfl rfl rfl (I.ixS1 rfl (by omega))) rfl rfl ?_
        refine SS.val (R.load rfl rfl (I.ld1 rfl (by assumption))) rfl rfl ?_
        (refine SS.val (R.neS (a := cB c.1) (b := t) (c := false) rfl rfl rfl (by simp [heq])) rfl rfl ?_)
        refine SS.nilQ ?_
        refine EE.thenN ?_
        refine CC.no rfl ?_
        refine CC.skip ?_
        refine EE.inN ?_
        refine EE.thenN ?_
        refine CC.region ?_
        refine LL.val (R.move rfl rfl) rfl rfl rfl ?_
        refine LL.val (R.addNc rfl rfl rfl rfl (by omega)) rfl rfl rfl ?_
        refine LL.val (R.assign rfl rfl) rfl rfl rfl ?_
        refine LL.nil ?_
        exact EE.round (k + 1, ls2) ⟨rfl, rfl, rfl, rfl, rfl, rfl, rfl, rfl, rfl, trivial⟩ ⟨by show k + 1 ≤ N; omega, ⟨hl2, q, M, rs, rf, hS.wide (by omega), by omega⟩, up_same hG2 hxj hc (by rw [Nw, ht, heq])⟩ (by show N - (k + 1) < N - k; omega)
      · refine CC.seq ?_
        refine CC.seq ?_
        refine CC.region ?_
        refine LL.val (R.move rfl rfl) rfl rfl rfl ?_
        refine LL.val (R.move rfl rfl) rfl rfl rfl ?_
        refine LL.val (R.ltT rfl rfl rfl (by omega)) rfl rfl rfl ?_
        refine LL.nilS ?_
        refine CC.yes rfl ?_
        refine CC.skip ?_
        refine EE.thenN ?_
        refine CC.seq ?_
        refine CC.block ?_
        refine CC.seq ?_
        refine CC.region ?_
        refine LL.val (R.move rfl rfl) rfl rfl rfl ?_
        refine LL.val (R.move rfl rfl) rfl rfl rfl ?_
        have lbb120 := rs.lt
        have lbb121 := rf.lt
        (refine LL.call (R.call rfl rfl rfl) rfl rfl rfl (content_any m gn gl qb N k _ M hc oky) ?_; rintro e Wbb119 ⟨rfl, bbb116⟩; refine ⟨_, rfl, ?_⟩)
        have zbbb116 := bbb116.size
        replace q := q.trans (bbb116.mono q.size)
        replace M := M.up bbb116
        replace rs := rs.up bbb116
        replace rf := rf.up bbb116
        replace hS := hS.up bbb116
        replace ct9 := cell_up ct9 bbb116
        replace cs9 := cell_up cs9 bbb116
        refine LL.val (R.assign rfl rfl) rfl rfl rfl ?_
        refine LL.nilS ?_
        refine CC.seq ?_
        refine CC.quietB (by kernel_rfl) (by kernel_rfl) (fun Wbb149 bbb148 zbb150 => ?_)
        replace bbb116 := bbb116.trans (bbb148.mono bbb116.size)
        replace q := q.trans (bbb148.mono q.size)
        replace M := M.up bbb148
        replace rs := rs.up bbb148
        replace rf := rf.up bbb148
        replace hS := hS.up bbb148
        replace ct9 := cell_up ct9 bbb148
        replace cs9 := cell_up cs9 bbb148
        refine SS.val (R.move rfl rfl) rfl rfl ?_
        refine SS.val (R.move rfl rfl) rfl rfl ?_
        refine SS.val (R.move rfl rfl) rfl rfl ?_
        refine SS.val (R.index rfl rfl rfl (I.ixS1 rfl (by omega))) rfl rfl ?_
        refine SS.val (R.load rfl rfl (I.ld1 rfl (by assumption))) rfl rfl ?_
        refine SS.val (R.move rfl rfl) rfl rfl ?_
        refine SS.val (R.move rfl rfl) rfl rfl ?_
        refine SS.val (R.index rfl rfl rfl (I.ixS1 rfl (by omega))) rfl rfl ?_
        refine SS.val (R.load rfl rfl (I.ld1 rfl (by assumption))) rfl rfl ?_
        refine SS.val (R.len rfl rfl rfl rfl) rfl rfl ?_
        refine SS.val (R.subNc rfl rfl rfl rfl (by omega) (by omega)) rfl rfl ?_
        refine SS.val (R.index rfl rfl rfl (I.ixS1 rfl (by omega))) rfl rfl ?_
        refine SS.val (R.load rfl rfl (I.ld1 rfl (by assumption))) rfl rfl ?_
        (refine SS.val (R.neS (a := cB c.1) (b := t) (c := true) rfl rfl rfl (by simp [heq])) rfl rfl ?_)
        refine SS.nilQ ?_
        refine EE.thenN ?_
        refine CC.yes rfl ?_
        refine CC.region ?_
        refine LL.val (R.move rfl rfl) rfl rfl rfl ?_
        refine LL.val (R.move rfl rfl) rfl rfl rfl ?_
        refine LL.val (R.move rfl rfl) rfl rfl rfl ?_
        refine LL.val (R.move rfl rfl) rfl rfl rfl ?_
        refine LL.val (R.index rfl rfl rfl (I.ixS1 rfl (by omega))) rfl rfl rfl ?_
        refine LL.val (R.load rfl rfl (I.ld1 rfl (by assumption))) rfl rfl rfl ?_
        refine LL.val (R.move rfl rfl) rfl rfl rfl ?_
        have lbb643 := rs.lt
        have lbb644 := rf.lt
        refine LL.lit (e := 9) [Value.string { data := List.toArray (cB c.1) }] 1 rfl rfl (fun _ => by kernel_rfl) rfl rfl ?_
        intro Wbb646 gbb647 egbb647 rbb648 zbb649 bbb645
        replace bbb148 := bbb148.trans (bbb645.mono bbb148.size)
        replace bbb116 := bbb116.trans (bbb645.mono bbb116.size)
        replace q := q.trans (bbb645.mono q.size)
        replace M := M.up bbb645
        replace rs := rs.up bbb645
        replace rf := rf.up bbb645
        replace hS := hS.up bbb645
        replace ct9 := cell_up ct9 bbb645
        replace cs9 := cell_up cs9 bbb645
        (refine LL.appendSub rfl rfl ElSt (hS.sub k x hxj).1 (s := cB c.1) (RowL.readsT s1Enc (ts := [cB c.1]) (by assumption) 1 (Nat.le_refl _)) rfl (by simp only [maxLen]; omega) (by omega) rfl rfl ?_; intro b' off' cap' Wbb663 hsub grbb661 hb'; have hS5 := Sb.app (hi' := (_ : World).heap.size) (x' := ⟨b', off', cap', x.ts ++ [cB c.1], x.fl⟩) hS hxj grbb661 (by show b' = x.b ∨ _ ≤ b'; omega) (by omega) (by have := grbb661.size; omega) hsub.lt hsub; clear hS; have hS := hS5; clear hS5 hsub)
        have zgrbb661 := grbb661.size
        replace rbb648 := rbb648.gr grbb661 (by have := rbb648.lt; omega)
        replace q := q.grown grbb661 q.size (by rintro k ⟨⟩; omega)
        replace M := M.gr grbb661 (by omega)
        replace rs := rs.gr grbb661 (by have := rs.lt; omega)
        replace rf := rf.gr grbb661 (by have := rf.lt; omega)
        replace cs9 := cell_gr cs9 grbb661 (by omega)
        refine LL.val (R.index rfl rfl rfl (I.ixS1 rfl (by omega))) rfl rfl rfl ?_
        (refine LL.store rfl rfl rfl rfl rs (by rw [hrl]; omega) rfl rfl rfl rfl ?_; intro Wbb711 rs9 grbb709 zz9; rw [Nat.zero_add] at rs9; clear rs; have rs := rs9; clear rs9)
        have zgrbb709 := grbb709.size
        replace hS := hS.gr grbb709 (by omega)
        replace rbb648 := rbb648.gr grbb709 (by have := rbb648.lt; omega)
        replace q := q.grown grbb709 q.size (by rintro k ⟨⟩; omega)
        replace M := M.gr grbb709 (by omega)
        replace rf := rf.gr grbb709 (by have := rf.lt; omega)
        refine LL.nil ?_
        refine EE.inN ?_
        refine EE.thenN ?_
        refine CC.region ?_
        refine LL.val (R.move rfl rfl) rfl rfl rfl ?_
        refine LL.val (R.addNc rfl rfl rfl rfl (by omega)) rfl rfl rfl ?_
        refine LL.val (R.assign rfl rfl) rfl rfl rfl ?_
        refine LL.nil ?_
        exact EE.round (k + 1, ls2.set k ⟨b', off', cap', x.ts ++ [cB c.1], x.fl⟩) ⟨rfl, rfl, rfl, rfl, rfl, rfl, rfl, rfl, rfl, trivial⟩ ⟨by show k + 1 ≤ N; omega, ⟨by show (ls2.set k _).length = N; rw [List.length_set]; exact hl2, q, M, by rw [← sx_set_v, app_v]; exact rs, by rw [set_same (y := ⟨b', off', cap', x.ts ++ [cB c.1], x.fl⟩) hxj Sx.f rfl]; exact rf, hS.wide (by omega), by omega⟩, up_step hG2 hc (hw.more2 hxl b' off' cap')⟩ (by show N - (k + 1) < N - k; omega)
end Go.Proofs.Ytajfffoaebjnlaa
/- Opening the arguments of a law: slices of numbers, pairs of numbers. -/
namespace Go.Proofs.Ytajfffoaebjnlaa
set_option linter.unusedVariables false
set_option linter.unusedSimpArgs false
open Go.RowKit Go.ChangeShapes Go.WideShapes Go.ChangeAt

theorem own : ownKnob Try.prog.godebug = none := by kernel_rfl
theorem laidOut : laidOutB Try.prog = true := by kernel_rfl

section
variable {H : Type} {enc : TypeId × Value → H} {P : Program} {w : World} {base : Nat} {spare : Nat → Bool} {held : Bool} {r : Reach} {b0 : Nat} {t : TypeId} {v : Value} {d : DataW H} {p : List MemPlace}

theorem wf_u8 {n : Int} (h : (Lit.int .u8 n).wf = true) : 0 ≤ n ∧ n < 256 := by
  simp [Lit.wf, IntKind.min, IntKind.max, IntKind.signed, IntKind.bits] at h; omega
theorem wf_u64 {n : Int} (h : (Lit.int .u64 n).wf = true) : 0 ≤ n ∧ n < 18446744073709551616 := by
  simp [Lit.wf, IntKind.min, IntKind.max, IntKind.signed, IntKind.bits] at h; omega
/-- A slice of unsigned numbers. -/
theorem open_nats {e : TypeId} {k : IntKind} {M : Nat} (ht : P.underlying t = some (.slice e)) (he : P.underlying e = some (.int k)) (hc : P.cellsOf e = 1) (hk : ∀ n, (Lit.int k n).wf = true → 0 ≤ n ∧ n < (M : Int))
    (hv : Value.okWide P w r b0 t v) (h : DataW.Trod enc P w base spare held t v d p) : ∃ ns : List Nat, Reads w v (ints k ns) ∧ (∀ n ∈ ns, n < M) ∧ ns.length ≤ 9223372036854775807 := by
  obtain ⟨a, len, cap, rfl⟩ := okWide_slice ht hv
  obtain ⟨fuel, hf⟩ := h
  rcases open_ints ht he hc hf with ⟨hcs, _⟩ | ⟨x, l, c, zs, hcs, _, hl, hm, hz, _, hcell, hwz⟩
  · simp [Value.cells] at hcs
    obtain ⟨rfl, rfl, rfl⟩ := hcs
    exact ⟨[], Reads.nil w, by simp, by simp⟩
  · simp [Value.cells] at hcs
    obtain ⟨rfl, rfl, rfl⟩ := hcs
    have hlz : len ≤ zs.length := by rw [hz]; split <;> omega
    refine ⟨(zs.take len).map Int.toNat, ?_, ?_, ?_⟩
    · have hlen : ((zs.take len).map Int.toNat).length = len := by simp; omega
      refine ⟨some x, cap, by rw [List.length_map, hlen], by rw [List.length_map, hlen]; exact hl, fun hne => ?_⟩
      have h0 : 0 < len := by
        rcases Nat.eq_zero_or_pos len with h0 | h0
        · subst h0; simp at hne
        · exact h0
      obtain ⟨b, off, spot⟩ := x
      have hc0 := hcell 0 (by omega)
      have hspot : spot = none := by simpa [Addr.add] using World.cell?_spot hc0
      subst hspot
      have hblt : b < w.heap.size := by
        rcases Nat.lt_or_ge b w.heap.size with hb | hb
        · exact hb
        · simp [Addr.add, World.cell?, Array.getElem?_eq_none hb] at hc0
      refine ⟨b, off, rfl, hblt, fun j hj => ?_⟩
      rw [List.length_map, hlen] at hj
      have hcj := hcell j (by omega)
      have hjz : j < zs.length := by omega
      have hw := hk _ (hwz zs[j] (List.getElem_mem hjz))
      rw [Addr.add_lit] at hcj
      rw [hcj]
      simp [List.getElem?_take, hj, hjz, List.getD]
      omega
    · intro n hn
      simp only [List.mem_map] at hn
      obtain ⟨z, hz', rfl⟩ := hn
      have := hk _ (hwz z (List.mem_of_mem_take hz'))
      omega
    · simp only [List.length_map, List.length_take]
      unfold maxLen at hm
      omega

end
end Go.Proofs.Ytajfffoaebjnlaa
/- Opening the arguments of a law: structs and arrays of integers, and of such. Over any program. -/
namespace Go.Proofs.Ytajfffoaebjnlaa
set_option linter.unusedVariables false
set_option linter.unusedSimpArgs false
open Go.RowKit Go.ChangeShapes Go.WideShapes Go.ChangeAt
/-- Which kind of integer lies at a cell. -/
def atC (P : Program) : Nat → TypeId → Nat → Option IntKind
  | 0, _, _ => none
  | d + 1, t, j => match P.underlying t with
    | some (.struct fs) => fs.toList.findSome? fun f => if f.offset ≤ j ∧ j < f.offset + P.cellsOf f.type then atC P d f.type (j - f.offset) else none
    | some (.array n e) => if j / P.cellsOf e < n then atC P d e (j % P.cellsOf e) else none
    | some (.int k) => if j = 0 then some k else none
    | _ => none
section
variable {H : Type} {enc : TypeId × Value → H} {P : Program} {w : World} {base : Nat} {spare : Nat → Bool} {held : Bool} {r : Reach} {b0 : Nat} {t : TypeId} {v : Value} {d : DataW H} {p : List MemPlace}
theorem trod_at : ∀ (n : Nat) (t : TypeId) (j fuel : Nat) (cs : List Value) (x : DataW H × List MemPlace) (k : IntKind), atC P n t j = some k → DataW.trod enc P w base spare held fuel t cs = some x → ∃ z : Int, cs[j]? = some (.int k z) ∧ (Lit.int k z).wf = true
  | 0, _, _, _, _, _, _, h, _ => by cases h
  | n + 1, t, j, fuel, cs, x, k, h, hx => by
    cases hu : P.underlying t with
    | none => simp [atC, hu] at h
    | some kd =>
      cases kd <;> simp only [atC, hu] at h <;> try (cases h; done)
      case int q =>
        split at h
        · rename_i hj
          cases h
          subst hj
          obtain ⟨z, e, _, hw⟩ := DataW.trod_int hu hx
          exact ⟨z, by rw [e]; rfl, hw⟩
        · cases h
      case struct fs =>
        obtain ⟨f, hf, hfk⟩ := List.exists_of_findSome?_eq_some h
        split at hfk
        · rename_i hj
          obtain ⟨xs, m, _, rfl, hl, hlen, hf2⟩ := DataW.trod_struct hu hx
          obtain ⟨i, hi⟩ := List.mem_iff_getElem?.1 hf
          have h2 := hf2 i f (by simpa using hi)
          have hil : i < xs.length := by
            have := (List.getElem?_eq_some_iff.1 hi).1
            rw [Array.length_toList] at this
            omega
          rw [List.getElem?_eq_getElem hil] at h2
          obtain ⟨z, e, hw⟩ := trod_at n f.type (j - f.offset) _ _ _ k hfk h2
          refine ⟨z, ?_, hw⟩
          rw [List.getElem?_take] at e
          split at e
          · rw [List.getElem?_drop] at e
            rwa [show f.offset + (j - f.offset) = j by omega] at e
          · cases e
        · cases hfk
      case array m e =>
        split at h
        · rename_i hj
          obtain ⟨xs, m', _, rfl, hl, hlen, hi⟩ := DataW.trod_array hu hx
          have h2 := hi _ hj
          rw [List.getElem?_eq_getElem (by omega)] at h2
          obtain ⟨z, e', hw⟩ := trod_at n e (j % P.cellsOf e) _ _ _ k h h2
          refine ⟨z, ?_, hw⟩
          rw [List.getElem?_take] at e'
          split at e'
          · rw [List.getElem?_drop] at e'
            rwa [show j / P.cellsOf e * P.cellsOf e + j % P.cellsOf e = j by rw [Nat.mul_comm]; exact Nat.div_add_mod _ _] at e'
          · cases e'
        · cases h
theorem open_ints {c : Nat} (ks : Nat → IntKind) (hs : (match P.underlying t with | some (.struct _) | some (.array _ _) => true | _ => false) = true) (hc : P.cellsOf t = c) (hk : (List.range c).all (fun j => atC P 9 t j == some (ks j)) = true)
    (hv : Value.okWide P w r b0 t v) (h : DataW.Trod enc P w base spare held t v d p) : ∃ g : Nat → Int, v = .agg ((List.range c).map fun j => Value.int (ks j) (g j)).toArray ∧ ∀ j, j < c → (Lit.int (ks j) (g j)).wf = true := by
  have hg : ∃ cs, v = .agg cs ∧ cs.size = P.cellsOf t := by
    unfold Value.okWide at hv
    split at hv
    · obtain ⟨cs, h1, h2, _⟩ := hv; exact ⟨cs, h1, h2⟩
    · obtain ⟨cs, h1, h2, _⟩ := hv; exact ⟨cs, h1, h2⟩
    · rename_i h1 h2
      split at hs <;> simp_all
  obtain ⟨cs, rfl, hsz⟩ := hg
  obtain ⟨fuel, hf⟩ := h
  have key : ∀ j, ∃ z : Int, j < c → cs.toList[j]? = some (.int (ks j) z) ∧ (Lit.int (ks j) z).wf = true := by
    intro j
    by_cases hj : j < c
    · have hk' := List.all_eq_true.1 hk j (List.mem_range.2 hj)
      have hk'' : atC P 9 t j = some (ks j) := by simpa using hk'
      obtain ⟨z, h1, h2⟩ := trod_at 9 t j fuel _ _ _ hk'' hf
      exact ⟨z, fun _ => ⟨h1, h2⟩⟩
    · exact ⟨0, fun h => absurd h hj⟩
  refine ⟨fun j => Classical.choose (key j), ?_, fun j hj => (Classical.choose_spec (key j) hj).2⟩
  congr 1
  apply Array.ext'
  apply List.ext_getElem?
  intro j
  simp only [List.toList_toArray, List.getElem?_map]
  by_cases hj : j < c
  · rw [(Classical.choose_spec (key j) hj).1, List.getElem?_range hj]
    rfl
  · rw [List.getElem?_eq_none (by rw [Array.length_toList, hsz, hc]; omega), List.getElem?_eq_none (by simp; omega)]
    rfl
end
end Go.Proofs.Ytajfffoaebjnlaa
/- Opening the arguments of a law: slices of structs of integers. Over any program. -/
namespace Go.Proofs.Ytajfffoaebjnlaa
set_option linter.unusedVariables false
set_option linter.unusedSimpArgs false
open Go.RowKit Go.ChangeShapes Go.WideShapes Go.ChangeAt Go.Deep
section
variable {α : Type} {encT : α → List Value} {H : Type} {enc : TypeId × Value → H} {P : Program} {w : World} {base : Nat} {spare : Nat → Bool} {held : Bool} {r : Reach} {b0 : Nat} {t : TypeId} {v : Value} {d : DataW H} {p : List MemPlace}
theorem open_rowsT {e c : Nat} (ks : Nat → IntKind) (E : Enc encT c) (f : (Nat → Int) → α) (hf : ∀ g, encT (f g) = (List.range c).map fun j => Value.int (ks j) (g j)) (ht : P.underlying t = some (.slice e)) (ce : P.cellsOf e = c) (hk : (List.range c).all (fun j => atC P 9 e j == some (ks j)) = true)
    (hv : Value.okWide P w r b0 t v) (h : DataW.Trod enc P w base spare held t v d p) : ∃ gs : List (Nat → Int), ReadsT encT c w v (gs.map f) ∧ (∀ g ∈ gs, ∀ j, j < c → (Lit.int (ks j) (g j)).wf = true) ∧ gs.length ≤ 9223372036854775807 := by
  obtain ⟨a, len, cap, rfl⟩ := okWide_slice ht hv
  obtain ⟨fuel, hfu⟩ := h
  rcases open_slice ht hfu with ⟨hcs, _⟩ | ⟨x, l, c', m, n, D, Pl, hcs, hb, hl, hm, hmm, _, hx⟩
  · simp [Value.cells] at hcs
    obtain ⟨rfl, rfl, rfl⟩ := hcs
    exact ⟨[], ReadsT.nil w, by simp, by simp⟩
  · simp [Value.cells] at hcs
    obtain ⟨rfl, rfl, rfl⟩ := hcs
    have hlm : len ≤ m := by rw [hmm]; split <;> omega
    have each : ∀ i, i < len → ∃ g : Nat → Int, ∀ j, j < c → w.cell? (x.add (i * c + j)) = some (.int (ks j) (g j)) ∧ (Lit.int (ks j) (g j)).wf = true := by
      intro i hi
      obtain ⟨cs', h1, h2⟩ := hx i (by omega)
      rw [ce] at h1
      obtain ⟨_, hlen, hcell⟩ := World.cells?_some h1
      have hj : ∀ j, ∃ z : Int, j < c → cs'[j]? = some (.int (ks j) z) ∧ (Lit.int (ks j) z).wf = true := fun j => by
        by_cases hjc : j < c
        · have hkj := List.all_eq_true.1 hk j (List.mem_range.2 hjc)
          obtain ⟨z, h3, h4⟩ := trod_at 9 e j n cs' (D i, Pl i) (ks j) (by simpa using hkj) h2
          exact ⟨z, fun _ => ⟨h3, h4⟩⟩
        · exact ⟨0, fun h => absurd h hjc⟩
      refine ⟨fun j => Classical.choose (hj j), fun j hjc => ?_⟩
      have hs := Classical.choose_spec (hj j) hjc
      refine ⟨?_, hs.2⟩
      have := hcell j (by omega)
      rw [add_add] at this
      rw [this]
      exact hs.1
    obtain ⟨G, hG⟩ := choose_lt each
    have hlen : (((List.range len).map G).map f).length = len := by simp
    refine ⟨(List.range len).map G, ⟨some x, cap, by rw [hlen], by rw [hlen]; exact hl, fun hne => ?_⟩, ?_, ?_⟩
    · have h0 : 0 < len := by
        rcases Nat.eq_zero_or_pos len with h0 | h0
        · subst h0; simp at hne
        · exact h0
      have hcp := E.pos
      obtain ⟨b, off, spot⟩ := x
      have hc0 := (hG 0 h0 0 hcp).1
      have hspot : spot = none := by simpa [Addr.add] using World.cell?_spot hc0
      subst hspot
      have hblt : b < w.heap.size := by
        rcases Nat.lt_or_ge b w.heap.size with hb | hb
        · exact hb
        · simp [Addr.add, World.cell?, Array.getElem?_eq_none hb] at hc0
      refine ⟨b, off, rfl, hblt, fun j hj => ?_⟩
      rw [hlen] at hj
      have hil : j / c < len := (Nat.div_lt_iff_lt_mul hcp).2 hj
      have hrl : j % c < c := Nat.mod_lt _ hcp
      have hc1 := (hG (j / c) hil (j % c) hrl).1
      rw [Addr.add_lit] at hc1
      have hje : j / c * c + j % c = j := by rw [Nat.mul_comm]; exact Nat.div_add_mod _ _
      have hget : (((List.range len).map G).map f)[j / c]? = some (f (G (j / c))) := by simp [hil]
      have hg := E.get _ (j / c) _ hget (j % c) hrl
      rw [hje] at hg hc1
      rw [hg, hf, hc1]
      simp [hrl]
    · intro g hg j hj
      obtain ⟨i, hi, rfl⟩ := List.mem_map.1 hg
      exact (hG i (List.mem_range.1 hi) j hj).2
    · simp only [List.length_map, List.length_range]
      unfold maxLen at hm
      omega
end
end Go.Proofs.Ytajfffoaebjnlaa
/- pmem: what the shells hand over. -/
namespace Go.Proofs.Ytajfffoaebjnlaa
set_option linter.unusedVariables false
set_option linter.unusedSimpArgs false
open Go.RowKit Go.Shelf
def acF (g : Nat → Int) : Int × Int × Int := (g 0, g 1, g 2)
theorem acts_len {gs : List (Nat → Int)} (h : gs.length ≤ 9223372036854775807) : (gs.map acF).length ≤ 9223372036854775807 := by
  rw [List.length_map]
  exact h
theorem reads_uE {w : World} {v : Value} {ws : List Nat} (h : Reads w v (ints .u64 ws)) : ReadsT uE 1 w v ws := by
  obtain ⟨a, cap, e, hc, h⟩ := h
  have hl : (ints .u64 ws).length = ws.length := by simp [ints]
  rw [hl] at e hc
  exact ⟨a, cap, e, hc, fun hne => by
    obtain ⟨b, off, h1, h2, h3⟩ := h (by intro e; rw [e] at hl; exact hne (List.eq_nil_of_length_eq_zero hl.symm))
    exact ⟨b, off, h1, h2, fun j hj => by rw [flat_u]; exact h3 j (by omega)⟩⟩
theorem flat_y (ws : List Nat) : ws.flatMap yE = ints .u8 ws := by
  induction ws with
  | nil => rfl
  | cons x ws ih => rw [List.flatMap_cons, ih]; rfl
theorem reads_yE {w : World} {v : Value} {ws : List Nat} (h : Reads w v (ints .u8 ws)) : ReadsT yE 1 w v ws := by
  obtain ⟨a, cap, e, hc, h⟩ := h
  have hl : (ints .u8 ws).length = ws.length := by simp [ints]
  rw [hl] at e hc
  exact ⟨a, cap, e, hc, fun hne => by
    obtain ⟨b, off, h1, h2, h3⟩ := h (by intro e; rw [e] at hl; exact hne (List.eq_nil_of_length_eq_zero hl.symm))
    exact ⟨b, off, h1, h2, fun j hj => by rw [flat_y]; exact h3 j (by omega)⟩⟩
end Go.Proofs.Ytajfffoaebjnlaa
/- PmemLasts: what the shell wants. -/
namespace Go.Proofs.Ytajfffoaebjnlaa
set_option linter.unusedVariables false
set_option linter.unusedSimpArgs false
open Go.RowKit Go.ChangeShapes Go.WideShapes Go.ChangeAt
theorem acts_posU {gs : List (Nat → Int)} (h : ∀ g ∈ gs, ∀ j, j < 3 → (Lit.int (if j = 2 then IntKind.u64 else IntKind.i64) (g j)).wf = true) : ∀ x ∈ gs.map acF, 0 ≤ x.2.2 ∧ x.2.2 < 18446744073709551616 := fun x hx => by
  obtain ⟨g, hg, rfl⟩ := List.mem_map.1 hx
  have := h g hg 2 (by decide)
  rw [if_pos rfl] at this
  exact wf_u64 this
end Go.Proofs.Ytajfffoaebjnlaa
