/- pmem: the law's word and works. -/
import Derived.Test.YtajfffoaebjnlaaPm19
namespace Go.Proofs.Ytajfffoaebjnlaa
set_option linter.unusedVariables false
set_option linter.unusedSimpArgs false
open Go.RowKit Go.Shelf
set_option maxRecDepth 100000
set_option maxHeartbeats 8000000
theorem crS_len (s : List Cl) (ps : List Nat) : (crS s ps).length = s.length := crJ_len s ps _
theorem word_any (m gn gl qb N p y : Nat) {s : List Cl} (w : World) (M : Mem w m gn gl qb N s) (hp : p < 256) (hy : ((crS s [p])[0]?.bind fun x => x.1[3]?) = some y) : Calls Try.prog 34 #[.pointer (some ⟨m, 0, none⟩), .int .u8 (p : Int)] w fun e w' => e = .returned (.int .u64 (y : Int)) ∧ Below w.heap.size w w' := by
  have q := Below.refl w.heap.size w
  have h0 := M.pos
  have hN := M.le
  have hl := M.len
  have hMF : ∀ W, Below w.heap.size w W → Mem W m gn gl qb N s := fun W b => M.up b
  clear M
  obtain ⟨x, hx, hxy⟩ := Option.bind_eq_some_iff.1 hy
  have hc : ((crS s [p]).map nwC)[3 / 8]? = some (nwC x) := by
    rw [List.getElem?_map]
    show ((crS s [p])[0]?).map nwC = _
    rw [hx]
    rfl
  refine X.fn Try.func34 rfl (n := 28) rfl rfl ?_
  refine CC.seq ?_
  refine CC.region ?_
  refine LL.val (R.assign rfl rfl) rfl rfl rfl ?_
  refine LL.nilS ?_
  refine CC.seq ?_
  refine CC.region ?_
  refine LL.val (R.move rfl rfl) rfl rfl rfl ?_
  refine LL.val (R.move rfl rfl) rfl rfl rfl ?_
  refine LL.lit (e := 5) [Value.int IntKind.u8 ↑p] 1 rfl rfl (fun _ => by kernel_rfl) rfl rfl ?_
  intro W58 g59 eg59 r60 z61 b57
  replace q := q.trans (b57.mono q.size)
  have l66 := r60.lt
  (refine LL.call (R.call rfl rfl rfl) rfl rfl rfl (crash_any m gn gl qb N _ 1 1 [p] _ (hMF _ q) (RowL.readsT yEnc (ts := [p]) (by assumption) 1 (Nat.le_refl _)) rfl (by decide) (fun a ha => by rw [List.mem_singleton.1 ha]; exact hp)) ?_; rintro e W65 ⟨m2, gn2, gl2, qb2, rfl, M2, lm, ln, ll, lq, b62⟩; refine ⟨_, rfl, ?_⟩)
  have zb62 := b62.size
  replace r60 := r60.up b62
  replace b57 := b57.trans (b62.mono b57.size)
  replace q := q.trans (b62.mono q.size)
  refine LL.val (R.move rfl rfl) rfl rfl rfl ?_
  refine LL.val (R.extract rfl rfl rfl) rfl rfl rfl ?_
  refine LL.val (R.extract rfl rfl rfl) rfl rfl rfl ?_
  refine LL.val (R.assign rfl rfl) rfl rfl rfl ?_
  refine LL.val (R.assign rfl rfl) rfl rfl rfl ?_
  refine LL.nilS ?_
  refine CC.seq ?_
  refine CC.region ?_
  refine LL.val (R.move rfl rfl) rfl rfl rfl ?_
  have l178 := r60.lt
  (refine LL.call (R.call rfl rfl rfl) rfl rfl rfl (load_T _ m2 gn2 gl2 qb2 N 3 y M2 hc hxy) ?_; rintro e W177 ⟨rfl, b174⟩; refine ⟨_, rfl, ?_⟩)
  have zb174 := b174.size
  replace M2 := M2.up b174
  replace b62 := b62.trans (b174.mono b62.size)
  replace r60 := r60.up b174
  replace b57 := b57.trans (b174.mono b57.size)
  replace q := q.trans (b174.mono q.size)
  refine LL.val (R.move rfl rfl) rfl rfl rfl ?_
  refine LL.val (R.extract rfl rfl rfl) rfl rfl rfl ?_
  refine LL.val (R.extract rfl rfl rfl) rfl rfl rfl ?_
  refine LL.val (R.assign rfl rfl) rfl rfl rfl ?_
  refine LL.val (R.assign rfl rfl) rfl rfl rfl ?_
  refine LL.nilS ?_
  refine CC.seq ?_
  refine CC.seq ?_
  refine CC.region ?_
  refine LL.val (R.move rfl rfl) rfl rfl rfl ?_
  refine LL.call (R.call rfl rfl rfl) rfl rfl rfl (num_any _ _) ?_
  rintro e W' ⟨rfl, rfl⟩
  refine ⟨_, rfl, ?_⟩
  refine LL.val (R.move rfl rfl) rfl rfl rfl ?_
  refine LL.call (R.call rfl rfl rfl) rfl rfl rfl (num_any _ _) ?_
  rintro e W' ⟨rfl, rfl⟩
  refine ⟨_, rfl, ?_⟩
  refine LL.val (R.addIz (z := 0) rfl rfl rfl (by decide) (by decide)) rfl rfl rfl ?_
  refine LL.val (R.neF rfl rfl rfl (by omega)) rfl rfl rfl ?_
  refine LL.nilS ?_
  refine CC.no rfl ?_
  refine CC.skip ?_
  refine EE.thenN ?_
  refine CC.seq ?_
  refine CC.region ?_
  refine LL.val (R.move rfl rfl) rfl rfl rfl ?_
  refine LL.val (R.assign rfl rfl) rfl rfl rfl ?_
  refine LL.nilS ?_
  refine CC.ret ?_
  refine EE.ret _ rfl rfl ?_
  exact ⟨rfl, q⟩
def wsL (v : Nat) : Ln := ⟨zL.1.set 3 v, by rw [List.length_set]; exact zL.2⟩
def wsA : List Cl := [(wsL 8, zL, some (wsL 7)), nwC zL]
def wsB : List Cl := [(wsL 8, wsL 7, none), nwC zL]
def wsC : List Cl := [(wsL 8, wsL 8, none), nwC zL]
theorem ws_1 : (((((List.replicate 2 zL).map nwC).set (3 / 8) (wrC (nwC zL) (3 % 8) 7)).set 0 (flC (wsL 7, zL, none))).set (3 / 8) (wrC (wsL 7, zL, some (wsL 7)) (3 % 8) 8)) = wsA := by decide +kernel
theorem ws_2 : wsA.map feC = wsB := by decide +kernel
theorem ws_3 : wsB.set 0 (evC (wsL 8, wsL 7, none)) = wsC := by decide +kernel
theorem works_any (w : World) : Calls Try.prog 10 #[] w fun e w' => e = .returned (.bool true) ∧ Below w.heap.size w w' := by
  have q := Below.refl w.heap.size w
  refine X.fn Try.func10 rfl (n := 93) rfl rfl ?_
  refine CC.seq ?_
  refine CC.region ?_
  refine LL.val (R.assign rfl rfl) rfl rfl rfl ?_
  refine LL.nilS ?_
  refine CC.seq ?_
  refine CC.region ?_
  (refine LL.call (R.call rfl rfl rfl) rfl rfl rfl (new_T 2 16 _ rfl (by decide) (by decide)) ?_; rintro e W102 ⟨m, gn, gl, qb, rfl, M, lm, ln, ll, lq, b99⟩; refine ⟨_, rfl, ?_⟩; have lts := M.lts)
  have zb99 := b99.size
  replace q := q.trans (b99.mono q.size)
  refine LL.val (R.move rfl rfl) rfl rfl rfl ?_
  refine LL.val (R.extract rfl rfl rfl) rfl rfl rfl ?_
  refine LL.val (R.extract rfl rfl rfl) rfl rfl rfl ?_
  refine LL.val (R.assign rfl rfl) rfl rfl rfl ?_
  refine LL.val (R.assign rfl rfl) rfl rfl rfl ?_
  refine LL.nilS ?_
  refine CC.seq ?_
  refine CC.seq ?_
  refine CC.region ?_
  refine LL.val (R.move rfl rfl) rfl rfl rfl ?_
  refine LL.call (R.call rfl rfl rfl) rfl rfl rfl (num_any _ _) ?_
  rintro e W' ⟨rfl, rfl⟩
  refine ⟨_, rfl, ?_⟩
  refine LL.val (R.move rfl rfl) rfl rfl rfl ?_
  (refine LL.call (R.call rfl rfl rfl) rfl rfl rfl (store_T _ m gn gl qb 2 3 7 (c := nwC zL) M rfl) ?_; rintro e W900 ⟨rfl, M2, t899⟩; refine ⟨_, rfl, ?_⟩; clear M; have M := M2; clear M2)
  have zt899 := t899.size
  replace b99 := t899.onB b99 (fun j hj => ⟨by have := b99.size; omega, by omega⟩)
  replace q := t899.onB q (fun j hj => ⟨by have := q.size; omega, by omega⟩)
  refine LL.call (R.call rfl rfl rfl) rfl rfl rfl (num_any _ _) ?_
  rintro e W' ⟨rfl, rfl⟩
  refine ⟨_, rfl, ?_⟩
  refine LL.val (R.addIz (z := 0) rfl rfl rfl (by decide) (by decide)) rfl rfl rfl ?_
  refine LL.val (R.move rfl rfl) rfl rfl rfl ?_
  (refine LL.call (R.call rfl rfl rfl) rfl rfl rfl (flush_T _ m gn gl qb 2 0 (c := (wsL 7, zL, none)) M rfl) ?_; rintro e W1215 ⟨rfl, M2, t1214⟩; refine ⟨_, rfl, ?_⟩; clear M; have M := M2; clear M2)
  have zt1214 := t1214.size
  replace b99 := t1214.onB b99 (fun j hj => ⟨by have := b99.size; omega, by omega⟩)
  replace q := t1214.onB q (fun j hj => ⟨by have := q.size; omega, by omega⟩)
  refine LL.call (R.call rfl rfl rfl) rfl rfl rfl (num_any _ _) ?_
  rintro e W' ⟨rfl, rfl⟩
  refine ⟨_, rfl, ?_⟩
  refine LL.val (R.addIz (z := 0) rfl rfl rfl (by decide) (by decide)) rfl rfl rfl ?_
  refine LL.val (R.move rfl rfl) rfl rfl rfl ?_
  (refine LL.call (R.call rfl rfl rfl) rfl rfl rfl (store_T _ m gn gl qb 2 3 8 (c := (wsL 7, zL, some (wsL 7))) M rfl) ?_; rintro e W1537 ⟨rfl, M2, t1536⟩; refine ⟨_, rfl, ?_⟩; clear M; have M := M2; clear M2; rw [ws_1] at M)
  have zt1536 := t1536.size
  replace b99 := t1536.onB b99 (fun j hj => ⟨by have := b99.size; omega, by omega⟩)
  replace q := t1536.onB q (fun j hj => ⟨by have := q.size; omega, by omega⟩)
  refine LL.call (R.call rfl rfl rfl) rfl rfl rfl (num_any _ _) ?_
  rintro e W' ⟨rfl, rfl⟩
  refine ⟨_, rfl, ?_⟩
  refine LL.val (R.addIz (z := 0) rfl rfl rfl (by decide) (by decide)) rfl rfl rfl ?_
  refine LL.val (R.neF rfl rfl rfl (by omega)) rfl rfl rfl ?_
  refine LL.val (R.move rfl rfl) rfl rfl rfl ?_
  refine LL.val (R.move rfl rfl) rfl rfl rfl ?_
  (refine LL.call (R.call rfl rfl rfl) rfl rfl rfl (word_any m gn gl qb 2 0 0 (s := wsA) _ M (by decide) (by decide +kernel)) ?_; rintro e W2062 ⟨rfl, b2059⟩; refine ⟨_, rfl, ?_⟩)
  have zb2059 := b2059.size
  replace M := M.up b2059
  replace b99 := b99.trans (b2059.mono b99.size)
  replace q := q.trans (b2059.mono q.size)
  refine LL.val (R.neF rfl rfl rfl (by omega)) rfl rfl rfl ?_
  refine LL.val (R.pick rfl rfl rfl) rfl rfl rfl ?_
  refine LL.val (R.move rfl rfl) rfl rfl rfl ?_
  refine LL.val (R.move rfl rfl) rfl rfl rfl ?_
  (refine LL.call (R.call rfl rfl rfl) rfl rfl rfl (word_any m gn gl qb 2 1 7 (s := wsA) _ M (by decide) (by decide +kernel)) ?_; rintro e W2496 ⟨rfl, b2493⟩; refine ⟨_, rfl, ?_⟩)
  have zb2493 := b2493.size
  replace b2059 := b2059.trans (b2493.mono b2059.size)
  replace M := M.up b2493
  replace b99 := b99.trans (b2493.mono b99.size)
  replace q := q.trans (b2493.mono q.size)
  refine LL.val (R.neF rfl rfl rfl (by omega)) rfl rfl rfl ?_
  refine LL.val (R.pick rfl rfl rfl) rfl rfl rfl ?_
  refine LL.val (R.move rfl rfl) rfl rfl rfl ?_
  refine LL.val (R.move rfl rfl) rfl rfl rfl ?_
  (refine LL.call (R.call rfl rfl rfl) rfl rfl rfl (word_any m gn gl qb 2 2 8 (s := wsA) _ M (by decide) (by decide +kernel)) ?_; rintro e W2937 ⟨rfl, b2934⟩; refine ⟨_, rfl, ?_⟩)
  have zb2934 := b2934.size
  replace b2493 := b2493.trans (b2934.mono b2493.size)
  replace b2059 := b2059.trans (b2934.mono b2059.size)
  replace M := M.up b2934
  replace b99 := b99.trans (b2934.mono b99.size)
  replace q := q.trans (b2934.mono q.size)
  refine LL.val (R.neF rfl rfl rfl (by omega)) rfl rfl rfl ?_
  refine LL.val (R.pick rfl rfl rfl) rfl rfl rfl ?_
  refine LL.nilS ?_
  refine CC.no rfl ?_
  refine CC.skip ?_
  refine EE.thenN ?_
  refine CC.seq ?_
  refine CC.region ?_
  refine LL.call (R.call rfl rfl rfl) rfl rfl rfl (new_F _ _ (by first | assumption | omega)) ?_
  rintro e W3236 ⟨rfl, b3235⟩
  refine ⟨_, rfl, ?_⟩
  have zb3235 := b3235.size
  replace b2934 := b2934.trans (b3235.mono b2934.size)
  replace b2493 := b2493.trans (b3235.mono b2493.size)
  replace b2059 := b2059.trans (b3235.mono b2059.size)
  replace M := M.up b3235
  replace b99 := b99.trans (b3235.mono b99.size)
  replace q := q.trans (b3235.mono q.size)
  refine LL.val (R.move rfl rfl) rfl rfl rfl ?_
  refine LL.val (R.extract rfl rfl rfl) rfl rfl rfl ?_
  refine LL.val (R.extract rfl rfl rfl) rfl rfl rfl ?_
  refine LL.val (R.assign rfl rfl) rfl rfl rfl ?_
  refine LL.val (R.assign rfl rfl) rfl rfl rfl ?_
  refine LL.nilS ?_
  refine CC.seq ?_
  refine CC.seq ?_
  refine CC.region ?_
  refine LL.val (R.move rfl rfl) rfl rfl rfl ?_
  (refine LL.call (R.call rfl rfl rfl) rfl rfl rfl (fence_any _ m gn gl qb 2 (s := wsA) M) ?_; rintro e W3878 ⟨rfl, M2, t3877⟩; refine ⟨_, rfl, ?_⟩; clear M; have M := M2; clear M2; rw [ws_2] at M)
  have zt3877 := t3877.size
  replace b99 := t3877.onB b99 (fun j hj => ⟨by have := b99.size; omega, by omega⟩)
  replace q := t3877.onB q (fun j hj => ⟨by have := q.size; omega, by omega⟩)
  refine LL.call (R.call rfl rfl rfl) rfl rfl rfl (num_any _ _) ?_
  rintro e W' ⟨rfl, rfl⟩
  refine ⟨_, rfl, ?_⟩
  refine LL.val (R.neF rfl rfl rfl (by omega)) rfl rfl rfl ?_
  refine LL.val (R.move rfl rfl) rfl rfl rfl ?_
  refine LL.val (R.move rfl rfl) rfl rfl rfl ?_
  (refine LL.call (R.call rfl rfl rfl) rfl rfl rfl (lasting_any m gn gl qb 2 _ M) ?_; rintro e W4333 ⟨v, rfl, h, b4330⟩; refine ⟨_, rfl, ?_⟩; obtain ⟨va, vc, rfl, _⟩ := h.form (n := 16) (by decide +kernel); obtain ⟨vb, vo, rfl, vl, hc⟩ := h.one uEnc (i := 3) (t := 7) (by decide +kernel); have cy := hc _ rfl; clear hc h)
  have zb4330 := b4330.size
  replace M := M.up b4330
  replace b99 := b99.trans (b4330.mono b99.size)
  replace q := q.trans (b4330.mono q.size)
  refine LL.val (R.len rfl rfl rfl rfl) rfl rfl rfl ?_
  refine LL.val (R.neF rfl rfl rfl (by omega)) rfl rfl rfl ?_
  refine LL.val (R.pick rfl rfl rfl) rfl rfl rfl ?_
  refine LL.val (R.move rfl rfl) rfl rfl rfl ?_
  refine LL.val (R.move rfl rfl) rfl rfl rfl ?_
  (refine LL.call (R.call rfl rfl rfl) rfl rfl rfl (lasting_any m gn gl qb 2 _ M) ?_; rintro e W4886 ⟨v, rfl, h, b4883⟩; refine ⟨_, rfl, ?_⟩; obtain ⟨va, vc, rfl, _⟩ := h.form (n := 16) (by decide +kernel); obtain ⟨vb, vo, rfl, vl, hc⟩ := h.one uEnc (i := 3) (t := 7) (by decide +kernel); have cy := hc _ rfl; clear hc h)
  have zb4883 := b4883.size
  replace b4330 := b4330.trans (b4883.mono b4330.size)
  replace M := M.up b4883
  replace b99 := b99.trans (b4883.mono b99.size)
  replace q := q.trans (b4883.mono q.size)
  refine LL.val (R.index rfl rfl rfl (I.ixS1c rfl rfl (by omega))) rfl rfl rfl ?_
  refine LL.val (R.load rfl rfl (I.ld1 rfl (by assumption))) rfl rfl rfl ?_
  refine LL.val (R.neF rfl rfl rfl (by omega)) rfl rfl rfl ?_
  refine LL.val (R.pick rfl rfl rfl) rfl rfl rfl ?_
  refine LL.val (R.move rfl rfl) rfl rfl rfl ?_
  refine LL.val (R.move rfl rfl) rfl rfl rfl ?_
  (refine LL.call (R.call rfl rfl rfl) rfl rfl rfl (opens_M m gn gl qb 2 (s := wsB) _ M) ?_; rintro e W5544 ⟨v, rfl, h, b5541⟩; refine ⟨_, rfl, ?_⟩; obtain ⟨va, vc, rfl, _⟩ := (h.reads iEnc).form (n := 1) (by decide +kernel); clear h)
  have zb5541 := b5541.size
  replace b4883 := b4883.trans (b5541.mono b4883.size)
  replace cy := cell_up cy b5541
  replace b4330 := b4330.trans (b5541.mono b4330.size)
  replace M := M.up b5541
  replace b99 := b99.trans (b5541.mono b99.size)
  replace q := q.trans (b5541.mono q.size)
  refine LL.val (R.len rfl rfl rfl rfl) rfl rfl rfl ?_
  refine LL.val (R.neF rfl rfl rfl (by omega)) rfl rfl rfl ?_
  refine LL.val (R.pick rfl rfl rfl) rfl rfl rfl ?_
  refine LL.val (R.move rfl rfl) rfl rfl rfl ?_
  refine LL.val (R.move rfl rfl) rfl rfl rfl ?_
  (refine LL.call (R.call rfl rfl rfl) rfl rfl rfl (evict_T _ m gn gl qb 2 0 (s := wsB) (c := (wsL 8, wsL 7, none)) M rfl) ?_; rintro e W6111 ⟨rfl, M2, t6110⟩; refine ⟨_, rfl, ?_⟩; clear M; have M := M2; clear M2; rw [ws_3] at M)
  have zt6110 := t6110.size
  replace b99 := t6110.onB b99 (fun j hj => ⟨by have := b99.size; omega, by omega⟩)
  replace q := t6110.onB q (fun j hj => ⟨by have := q.size; omega, by omega⟩)
  refine LL.call (R.call rfl rfl rfl) rfl rfl rfl (num_any _ _) ?_
  rintro e W' ⟨rfl, rfl⟩
  refine ⟨_, rfl, ?_⟩
  refine LL.val (R.neF rfl rfl rfl (by omega)) rfl rfl rfl ?_
  refine LL.val (R.pick rfl rfl rfl) rfl rfl rfl ?_
  refine LL.val (R.move rfl rfl) rfl rfl rfl ?_
  refine LL.val (R.move rfl rfl) rfl rfl rfl ?_
  (refine LL.call (R.call rfl rfl rfl) rfl rfl rfl (opens_M m gn gl qb 2 (s := wsC) _ M) ?_; rintro e W6685 ⟨v, rfl, h, b6682⟩; refine ⟨_, rfl, ?_⟩; obtain ⟨va, vc, rfl, _⟩ := (h.reads iEnc).form (n := 0) (by decide +kernel); clear h)
  have zb6682 := b6682.size
  replace M := M.up b6682
  replace b99 := b99.trans (b6682.mono b99.size)
  replace q := q.trans (b6682.mono q.size)
  refine LL.val (R.len rfl rfl rfl rfl) rfl rfl rfl ?_
  refine LL.val (R.neF rfl rfl rfl (by omega)) rfl rfl rfl ?_
  refine LL.val (R.pick rfl rfl rfl) rfl rfl rfl ?_
  refine LL.nilS ?_
  refine CC.no rfl ?_
  refine CC.skip ?_
  refine EE.thenN ?_
  refine CC.seq ?_
  refine CC.region ?_
  refine LL.val (R.move rfl rfl) rfl rfl rfl ?_
  refine LL.call (R.call rfl rfl rfl) rfl rfl rfl (num_any _ _) ?_
  rintro e W' ⟨rfl, rfl⟩
  refine ⟨_, rfl, ?_⟩
  refine LL.val (R.eqT rfl rfl rfl (by omega)) rfl rfl rfl ?_
  refine LL.val (R.move rfl rfl) rfl rfl rfl ?_
  refine LL.val (R.move rfl rfl) rfl rfl rfl ?_
  (refine LL.call (R.call rfl rfl rfl) rfl rfl rfl (store_F _ m gn gl qb 2 16 1 M (by decide)) ?_; rintro e W7560 ⟨rfl, b7557⟩; refine ⟨_, rfl, ?_⟩)
  have zb7557 := b7557.size
  replace b6682 := b6682.trans (b7557.mono b6682.size)
  replace M := M.up b7557
  replace b99 := b99.trans (b7557.mono b99.size)
  replace q := q.trans (b7557.mono q.size)
  refine LL.call (R.call rfl rfl rfl) rfl rfl rfl (num_any _ _) ?_
  rintro e W' ⟨rfl, rfl⟩
  refine ⟨_, rfl, ?_⟩
  refine LL.val (R.eqT rfl rfl rfl (by omega)) rfl rfl rfl ?_
  refine LL.val (R.pick rfl rfl rfl) rfl rfl rfl ?_
  refine LL.val (R.move rfl rfl) rfl rfl rfl ?_
  refine LL.val (R.move rfl rfl) rfl rfl rfl ?_
  (refine LL.call (R.call rfl rfl rfl) rfl rfl rfl (evict_F _ m gn gl qb 2 2 M (by decide)) ?_; rintro e W8148 ⟨rfl, b8145⟩; refine ⟨_, rfl, ?_⟩)
  have zb8145 := b8145.size
  replace b7557 := b7557.trans (b8145.mono b7557.size)
  replace b6682 := b6682.trans (b8145.mono b6682.size)
  replace M := M.up b8145
  replace b99 := b99.trans (b8145.mono b99.size)
  replace q := q.trans (b8145.mono q.size)
  refine LL.call (R.call rfl rfl rfl) rfl rfl rfl (num_any _ _) ?_
  rintro e W' ⟨rfl, rfl⟩
  refine ⟨_, rfl, ?_⟩
  refine LL.val (R.eqT rfl rfl rfl (by omega)) rfl rfl rfl ?_
  refine LL.val (R.pick rfl rfl rfl) rfl rfl rfl ?_
  refine LL.val (R.assign rfl rfl) rfl rfl rfl ?_
  refine LL.nilS ?_
  refine CC.ret ?_
  refine EE.ret _ rfl rfl ?_
  exact ⟨rfl, q⟩
end Go.Proofs.Ytajfffoaebjnlaa
