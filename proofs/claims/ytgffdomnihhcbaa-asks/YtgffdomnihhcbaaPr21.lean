/-
  The program: ask, Ask.
-/
import Derived.Test.YtgffdomnihhcbaaPr19
namespace Go.Proofs.Ytgffdomnihhcbaa
open Go Go.RowKit Go.MuLone
open Go.Maps (Keyed)

section
variable {w : World} {τ : Nat → Tag} {sid b : Nat} {s : MS} {A : SA}

/-- THE READS ARE TURNED, all else of a store is as it was. -/
theorem RepS.frameR (h : RepS w τ sid b s A) {w' : World} {τ' : Nat → Tag} {rs' : List MR} {B' : SB}
    (hf : ∀ k, k < w.heap.size → (τ k).1 = sid → 0 < (τ k).2.1 → (τ k).2.1 < 10 → w'.heap[k]? = w.heap[k]? ∧ τ' k = τ k) (htb : τ' b = (sid, 0, 0))
    (hok : MOk { s with rs := rs' }) (hb : Blk w' b #[.int .i64 s.mode, A.parr, mu0, sem0, .int .i64 s.ws.length, .int .i64 rs'.length, .map (some A.wm), .map (some B'.rm)] 110)
    (hr : RdS w' τ' sid s.parts A.pb rs' B') : RepS w' τ' sid b { s with rs := rs' } { A with R := B' } := by
  have hblk : ∀ {k : Nat} {c : Array Value} {t : TypeId} {g g' : Nat}, 0 < g → g < 10 → Blk w k c t → τ k = (sid, g, g') → Blk w' k c t ∧ τ' k = (sid, g, g') := by
    intro k c t g g' hg hg' hb ht
    obtain ⟨e1, e2⟩ := hf k hb.lt (by rw [ht]) (by rw [ht]; exact hg) (by rw [ht]; exact hg')
    exact ⟨hb.of_eq e1, e2.trans ht⟩
  have hmap : ∀ {k : Nat} {t : TypeId} {f : Lit → Option Value} {g g' : Nat}, 0 < g → g < 10 → MapF w Try.prog t k f → τ k = (sid, g, g') → MapF w' Try.prog t k f ∧ τ' k = (sid, g, g') := by
    intro k t f g g' hg hg' hb ht
    obtain ⟨e1, e2⟩ := hf k hb.lt (by rw [ht]) (by rw [ht]; exact hg) (by rw [ht]; exact hg')
    exact ⟨hb.of_eq e1, e2.trans ht⟩
  have hrow : ∀ {e : TypeId} {sz : Nat} {v : Value} {n : Nat} {xs : List Value} {g g' : Nat}, 0 < g → g < 10 → w.ownsRow 0 e sz v n xs → (∀ k, v.ownBlock = some k → τ k = (sid, g, g')) → w'.ownsRow 0 e sz v n xs ∧ ∀ k, v.ownBlock = some k → τ' k = (sid, g, g') := by
    intro e sz v n xs g g' hg hg' ho hv
    refine ⟨row_of_block ho (fun k hk => (hf k (row_ge ho k hk).2 (by rw [hv k hk]) (by rw [hv k hk]; exact hg) (by rw [hv k hk]; exact hg')).1), fun k hk => ?_⟩
    rw [(hf k (row_ge ho k hk).2 (by rw [hv k hk]) (by rw [hv k hk]; exact hg) (by rw [hv k hk]; exact hg')).2, hv k hk]
  exact ⟨hok, ⟨h.inv.cp, h.inv.po, h.inv.cc⟩, hb, htb, (hrow (by omega) (by omega) h.parr h.parrTag).1, (hrow (by omega) (by omega) h.parr h.parrTag).2,
    fun q hq => (hblk (by omega) (by omega) (h.part q hq) (h.partTag q hq)).1, fun q hq => (hblk (by omega) (by omega) (h.part q hq) (h.partTag q hq)).2,
    fun q hq => (hmap (by omega) (by omega) (h.kept q hq) (h.keptTag q hq)).1, fun q hq => (hmap (by omega) (by omega) (h.kept q hq) (h.keptTag q hq)).2,
    fun q hq => (hmap (by omega) (by omega) (h.vism q hq) (h.visTag q hq)).1, fun q hq => (hmap (by omega) (by omega) (h.vism q hq) (h.visTag q hq)).2, fun q hq => ⟨(h.visOk q hq).seen, (h.visOk q hq).top⟩,
    (hmap (by omega) (by omega) h.wmap h.wmTag).1, (hmap (by omega) (by omega) h.wmap h.wmTag).2,
    fun i m a c => (hblk (by omega) (by omega) (h.wr i m a c) (h.wrTag i m a c)).1, fun i m a c => (hblk (by omega) (by omega) (h.wr i m a c) (h.wrTag i m a c)).2,
    fun i m a c => (hmap (by omega) (by omega) (h.shm i m a c) (h.shmTag i m a c)).1, fun i m a c => (hmap (by omega) (by omega) (h.shm i m a c) (h.shmTag i m a c)).2,
    fun i m q a c o => (hblk (by omega) (by omega) (h.sh i m q a c o) (h.shTag i m q a c o)).1, fun i m q a c o => (hblk (by omega) (by omega) (h.sh i m q a c o) (h.shTag i m q a c o)).2,
    fun i m q a c o => (hrow (by omega) (by omega) (h.it i m q a c o) (fun k => h.itTag i m q k a c o)).1, fun i m q k a c o => (hrow (by omega) (by omega) (h.it i m q a c o) (fun k => h.itTag i m q k a c o)).2 k, hr⟩

theorem findR_set {rs : List MR} {i : Nat} {r r' : MR} (hr : rs[i]? = some r) (hf : r'.fin = r.fin) (n : Int) : (findR (rs.set i r') n).isSome = (findR rs n).isSome := by
  unfold findR
  simp only [List.length_set]
  split
  · rfl
  · rw [List.getElem?_set]
    by_cases e : i = (n - 1).toNat
    · rw [if_pos e, ← e, hr, if_pos (lt_of_some hr)]
      simp only [hf]
      cases r.fin <;> rfl
    · rw [if_neg e]
theorem readsF_set {rs : List MR} {i : Nat} {r r' : MR} {B : SB} (hr : rs[i]? = some r) (hf : r'.fin = r.fin) : readsF (rs.set i r') B = readsF rs B := by
  funext kl
  cases kl with
  | int k n =>
    cases k <;> try rfl
    simp only [readsF]
    have := findR_set hr hf n
    cases h1 : findR (rs.set i r') n <;> cases h2 : findR rs n <;> simp [h1, h2] at this ⊢
  | _ => rfl

/-- A KEY IS ASKED. -/
theorem RepS.ask (h : RepS w τ sid b s A) {i j v : Nat} {r : MR} {x : ByteArray} (hr : s.rs[i]? = some r) (hfin : r.fin = false) (hx : r.keys[j]? = some x) {w' : World}
    (hne : ∀ k, k ≠ A.R.qb i j → w'.heap[k]? = w.heap[k]?) (hq : Blk w' (A.R.qb i j) #[ptr (A.pb (partOf s.parts x).toNat), .bool true, .int .i64 v] 136) :
    RepS w' τ sid b { s with rs := s.rs.set i { r with asked := put r.asked j, found := fun q => if q = j then v else r.found q } } A := by
  have hi := lt_of_some hr
  have hjl := lt_of_some hx
  have ht := h.reads.qTag i r j x hr hfin hx
  have hne' : ∀ {k : Nat}, τ k ≠ (sid, 13, i * 8 + j) → w'.heap[k]? = w.heap[k]? := fun hk => hne _ (fun e => hk (by rw [e]; exact ht))
  have hget : ∀ {q : Nat} {rq : MR}, (s.rs.set i { r with asked := put r.asked j, found := fun q => if q = j then v else r.found q })[q]? = some rq → ∃ ro, s.rs[q]? = some ro ∧ rq.keys = ro.keys ∧ rq.fin = ro.fin := by
    intro q rq hq
    rcases set_some hq with ⟨rfl, rfl⟩ | ⟨_, hq⟩
    · exact ⟨r, hr, rfl, rfl⟩
    · exact ⟨rq, hq, rfl, rfl⟩
  refine h.frameR (B' := A.R) (fun k hk _ _ h10 => ⟨hne' (fun e => by rw [e] at h10; simp at h10), rfl⟩) h.tag ⟨h.ok.p1, h.ok.p4, h.ok.len, h.ok.items, fun q rq hq => ?_, ?_⟩ ?_ ⟨?_, h.reads.rmTag, fun q rq hq hf => ?_, fun q rq hq hf => ?_, fun q rq hq hf => ?_, fun q rq hq hf => ?_, fun q rq j' x' hq hf hx' => ?_, fun q rq j' x' hq hf hx' => ?_⟩
  · obtain ⟨ro, ho, e, _⟩ := hget hq
    rw [e]; exact h.ok.keys q ro ho
  · show openReads (s.rs.set i { r with asked := put r.asked j, found := fun q => if q = j then v else r.found q }) ≤ 50
    rw [openReads_set (r' := { r with asked := put r.asked j, found := fun q => if q = j then v else r.found q }) hr rfl]; exact h.ok.opn
  · simp only [List.length_set]
    exact h.blk.of_eq (hne' (by rw [h.tag]; simp))
  · rw [readsF_set (r' := { r with asked := put r.asked j, found := fun q => if q = j then v else r.found q }) hr rfl]
    exact h.reads.rmap.of_eq (hne' (by rw [h.reads.rmTag]; simp))
  · obtain ⟨ro, ho, _, e⟩ := hget hq
    rw [e] at hf
    exact (h.reads.rd q ro ho hf).of_eq (hne' (by rw [h.reads.rdTag q ro ho hf]; simp))
  · obtain ⟨ro, ho, _, e⟩ := hget hq
    rw [e] at hf
    exact h.reads.rdTag q ro ho hf
  · obtain ⟨ro, ho, ek, e⟩ := hget hq
    rw [e] at hf
    refine ((h.reads.qmap q ro ho hf).of_eq (hne' (by rw [h.reads.qmTag q ro ho hf]; simp))).congr (fun kl => ?_)
    cases kl <;> simp [questF, ek]
  · obtain ⟨ro, ho, _, e⟩ := hget hq
    rw [e] at hf
    exact h.reads.qmTag q ro ho hf
  · rcases set_some hq with ⟨rfl, rfl⟩ | ⟨eq, hq⟩
    · by_cases ej : j' = j
      · subst ej
        have : x' = x := by
          have hx2 : r.keys[j']? = some x' := hx'
          rw [hx] at hx2; cases hx2; rfl
        subst this
        simpa [put] using hq
      · have hb := h.reads.q i r j' x' hr hfin hx'
        have hj8 := lt_of_some hx'
        have := hb.of_eq (hne' (by rw [h.reads.qTag i r j' x' hr hfin hx']; simp; omega))
        simpa [put, ej] using this
    · have hb := h.reads.q q rq j' x' hq hf hx'
      have hj8 : j' < 8 := by have := (h.ok.keys q rq hq).2.1; have := lt_of_some hx'; omega
      have hj8' : j < 8 := by have := (h.ok.keys i r hr).2.1; omega
      exact hb.of_eq (hne' (by rw [h.reads.qTag q rq j' x' hq hf hx']; simp; omega))
  · obtain ⟨ro, ho, ek, e⟩ := hget hq
    rw [e] at hf
    rw [ek] at hx'
    exact h.reads.qTag q ro j' x' ho hf hx'

theorem qIx_eq (keys : List ByteArray) (key : ByteArray) : qIx keys key.data.toList = keyIx keys key := by
  unfold qIx keyIx
  congr 1
  funext x
  by_cases e : x = key
  · simp [e]
  · have : x.data.toList ≠ key.data.toList := fun e' => e (WideShapes.bytes_inj e')
    rw [decide_eq_false e, decide_eq_false this]
theorem keyIx_get {keys : List ByteArray} {key : ByteArray} (h : keyIx keys key < keys.length) : keys[keyIx keys key]? = some key := by
  unfold keyIx at h ⊢
  have := List.findIdx_getElem (w := h)
  rw [List.getElem?_eq_getElem h]
  simpa using this

set_option maxRecDepth 100000 in
set_option maxHeartbeats 1000000 in
theorem ask_any (h : RepS w τ sid b s A) (n : Int) (r : MR) (hf : mFindR s n = some r) (key : ByteArray) (hks : key.size ≤ maxLen) :
    Calls Try.prog 43 #[ptr (A.R.pr (n - 1).toNat), .string key] w (PPost w τ sid b (mAsk s n key)) := by
  obtain ⟨h1, h2, hr, hc⟩ := mFindR_some hf
  have hp1 := h.ok.p1
  obtain ⟨i, hi⟩ : ∃ i : Nat, (n - 1).toNat = i := ⟨_, rfl⟩
  rw [hi] at hr ⊢
  have hW := h.reads.rd i r hr hc
  have c0 : w.cell? ⟨A.R.pr i, 0, none⟩ = some (.int .i32 0) := hW.cell (o := 0) rfl
  have f0 := hW.frozen 0
  have hSame := lock_round hW (o := 0) rfl (.int .i32 1)
  have hW1 := hW.set 0 (.int .i32 1)
  have hqne : A.R.qm i ≠ A.R.pr i := fun e => by have h1 := h.reads.qmTag i r hr hc; rw [e, h.reads.rdTag i r hr hc] at h1; simp at h1
  have d2 : (w.setCell ⟨A.R.pr i, 0, none⟩ (.int .i32 1)).cell? ⟨A.R.pr i, 2, none⟩ = some (.map (some (A.R.qm i))) := hW1.cell (o := 2) rfl
  have hM1 : MapF (w.setCell ⟨A.R.pr i, 0, none⟩ (.int .i32 1)) Try.prog 9 (A.R.qm i) (questF A.R i r) := (h.reads.qmap i r hr hc).of_eq (Below.heap_setCell _ _ _ _ hqne)
  by_cases hix : keyIx r.keys key < r.keys.length
  · have hx := keyIx_get hix
    obtain ⟨j, hj⟩ : ∃ j, keyIx r.keys key = j := ⟨_, rfl⟩
    rw [hj] at hx
    have hfv : questF A.R i r (.string key.data.toList) = some (.pointer (some ⟨A.R.qb i j, 0, none⟩)) := by
      simp only [questF, qIx_eq, if_pos hix]; rw [hj]; rfl
    have hQ := h.reads.q i r j key hr hc hx
    have hqbp : A.R.qb i j ≠ A.R.pr i := fun e => by have h1 := h.reads.qTag i r j key hr hc hx; rw [e, h.reads.rdTag i r hr hc] at h1; simp at h1
    have hQ1 : Blk (w.setCell ⟨A.R.pr i, 0, none⟩ (.int .i32 1)) (A.R.qb i j) _ _ := hQ.of_eq (Below.heap_setCell _ _ _ _ hqbp)
    cases ha : r.asked j with
    | true =>
      have Hr : Hid (mAsk s n key = (10, s)) := mAsk_done hf hj (by omega) ha
      rw [ha] at hQ1
      have e1 : (w.setCell ⟨A.R.pr i, 0, none⟩ (.int .i32 1)).cell? ⟨A.R.qb i j, 1, none⟩ = some (.bool true) := hQ1.cell (o := 1) rfl
      unfold ptr
      unfold mu0 at hSame
      clear hf ha
      go_enter_defers Try.func43, Try.ntmps43
      go_wp2_with (first | (go_at_call 52; refine (lock_free Try.muLib ⟨A.R.pr i, 0, none⟩ _ c0 f0).mono ?_; rintro e w' ⟨rfl, rfl⟩) | (at_lookup; refine wpList_lookF_ok _ rfl _ _ 130 rfl 9 133 keyStr Try.underlying130 (zeroQPtr _) (A.R.qm i) (questF A.R i r) rfl hM1 _ (.string key.data.toList) rfl (keyOf_str hks) _ hfv ?_))
      refine leaves_cons (f := 53) (args := #[.pointer (some ⟨A.R.pr i, 0, none⟩)]) (by simp) (by simp [go_sem]) ?_
      refine (unlock_deferred Try.muLib ⟨A.R.pr i, 0, none⟩ .returning _ (hW1.cell (o := 0) rfl) (hW1.frozen 0)).mono ?_
      rintro e u' w'' ⟨rfl, rfl, rfl⟩
      rw [Hr.out]
      exact ⟨_, results_tmp rfl _ _ _, A, rfl, h.same hSame, hSame.stp _ _⟩
    | false =>
      have Hr := mAsk_ok hf hi hj (by omega) ha
      have Hr' : Hid (mAsk s n key = _) := Hr
      rw [ha] at hQ hQ1
      obtain ⟨g0, g1⟩ := partOf_bd s.parts key (by omega)
      obtain ⟨q, hq⟩ : ∃ q : Nat, (partOf s.parts key).toNat = q := ⟨_, rfl⟩
      have hqp : q < s.parts := by omega
      have hVE := h.vis_eq key
      rw [hq] at hVE
      have hask := fun (w' : World) => h.ask (v := mVisible s key) (w' := w') hr hc hx
      rw [hq] at hask hQ hQ1
      have hpne : A.pb q ≠ A.R.pr i := fun e => by have h1 := h.partTag q hqp; rw [e, h.reads.rdTag i r hr hc] at h1; simp at h1
      have hvne : A.vb q ≠ A.R.pr i := fun e => by have h1 := h.visTag q hqp; rw [e, h.reads.rdTag i r hr hc] at h1; simp at h1
      have hPB : Blk (w.setCell ⟨A.R.pr i, 0, none⟩ (.int .i32 1)) (A.pb q) _ _ := (h.part q hqp).of_eq (Below.heap_setCell _ _ _ _ hpne)
      have hVM : MapF (w.setCell ⟨A.R.pr i, 0, none⟩ (.int .i32 1)) Try.prog 9 (A.vb q) (visF A q) := (h.vism q hqp).of_eq (Below.heap_setCell _ _ _ _ hvne)
      have cv := kVisible (A.pb q) (A.kb q) (A.vb q) (visF A q) hPB hVM key hks _ rfl
      have hval : (visF A q (.string key.data.toList)).getD (.int .i64 0) = .int .i64 (mVisible s key) := by
        simp only [visF, hVE]
        by_cases e : mVisible s key = 0
        · rw [if_pos e, e]; rfl
        · rw [if_neg e]; rfl
      rw [hval] at cv
      have e0 : (w.setCell ⟨A.R.pr i, 0, none⟩ (.int .i32 1)).cell? ⟨A.R.qb i j, 0, none⟩ = some (.pointer (some ⟨A.pb q, 0, none⟩)) := hQ1.cell (o := 0) rfl
      have e1 : (w.setCell ⟨A.R.pr i, 0, none⟩ (.int .i32 1)).cell? ⟨A.R.qb i j, 1, none⟩ = some (.bool false) := hQ1.cell (o := 1) rfl
      have hti := h.reads.qTag i r j key hr hc hx
      unfold ptr at cv ⊢
      clear hf ha Hr hval hVE
      go_enter_defers Try.func43, Try.ntmps43
      go_wp2_with (first | (go_at_call 52; refine (lock_free Try.muLib ⟨A.R.pr i, 0, none⟩ _ c0 f0).mono ?_; rintro e w' ⟨rfl, rfl⟩) | (at_lookup; refine wpList_lookF_ok _ rfl _ _ 130 rfl 9 133 keyStr Try.underlying130 (zeroQPtr _) (A.R.qm i) (questF A.R i r) rfl hM1 _ (.string key.data.toList) rfl (keyOf_str hks) _ hfv ?_))
      refine cv.mono ?_
      rintro e w2 ⟨rfl, hS2⟩
      clear cv
      have hQ2 : Blk w2 (A.R.qb i j) _ _ := hQ1.of_eq (by rw [hS2.heap])
      have hW2 : Blk w2 (A.R.pr i) _ _ := hW1.of_eq (by rw [hS2.heap])
      have k1 := hQ2.cell (o := 1) (v := .bool false) rfl
      have k2 : w2.cell? ⟨A.R.qb i j, 2, none⟩ = some (.int .i64 (r.found j)) := hQ2.cell (o := 2) rfl
      have f1 := hQ2.frozen 1
      have f2 := hQ2.frozen 2
      go_wp2_with fail
      have hQ3 := (hQ2.set 1 (.bool true)).set 2 (.int .i64 (mVisible s key))
      have hW3 : Blk ((w2.setCell ⟨A.R.qb i j, 1, none⟩ (.bool true)).setCell ⟨A.R.qb i j, 2, none⟩ (.int .i64 (mVisible s key))) (A.R.pr i) _ _ := hW2.of_eq ((Below.heap_setCell _ _ _ _ (fun e => hqbp e.symm)).trans (Below.heap_setCell _ _ _ _ (fun e => hqbp e.symm)))
      refine leaves_cons (f := 53) (args := #[.pointer (some ⟨A.R.pr i, 0, none⟩)]) (by simp) (by simp [go_sem]) ?_
      refine (unlock_deferred Try.muLib ⟨A.R.pr i, 0, none⟩ .returning _ (hW3.cell (o := 0) rfl) (hW3.frozen 0)).mono ?_
      rintro e u' w'' ⟨rfl, rfl, rfl⟩
      rw [Hr'.out]
      have hall : ∀ k, k ≠ A.R.qb i j → (((w2.setCell ⟨A.R.qb i j, 1, none⟩ (.bool true)).setCell ⟨A.R.qb i j, 2, none⟩ (.int .i64 (mVisible s key))).setCell ⟨A.R.pr i, 0, none⟩ mu0).heap[k]? = w.heap[k]? :=
        unlock_block hW rfl (v := .int .i32 1) (fun k hk => by
          rw [Below.heap_setCell _ _ _ _ hk, Below.heap_setCell _ _ _ _ hk, hS2.heap])
      refine ⟨_, results_tmp rfl _ _ _, A, rfl, hask _ hall ?_, ?_⟩
      · have := hQ3.of_eq (w' := ((w2.setCell ⟨A.R.qb i j, 1, none⟩ (.bool true)).setCell ⟨A.R.qb i j, 2, none⟩ (.int .i64 (mVisible s key))).setCell ⟨A.R.pr i, 0, none⟩ mu0) (Below.heap_setCell _ _ _ _ hqbp)
        simpa [ptr, mu0] using this
      · refine ⟨hS2.os, hS2.tape, hS2.output, ?_, fun _ _ => rfl, fun k _ hk => hall k (fun e => hk (by rw [e, hti]))⟩
        simp [World.setCell, hS2.heap]
  · have Hr : Hid (mAsk s n key = (4, s)) := mAsk_key hf hix
    have hfv : questF A.R i r (.string key.data.toList) = none := by simp only [questF, qIx_eq, if_neg hix]
    unfold ptr
    unfold mu0 at hSame
    clear hf
    go_enter_defers Try.func43, Try.ntmps43
    go_wp2_with (first | (go_at_call 52; refine (lock_free Try.muLib ⟨A.R.pr i, 0, none⟩ _ c0 f0).mono ?_; rintro e w' ⟨rfl, rfl⟩) | (at_lookup; refine wpList_lookF_ok _ rfl _ _ 130 rfl 9 133 keyStr Try.underlying130 (zeroQPtr _) (A.R.qm i) (questF A.R i r) rfl hM1 _ (.string key.data.toList) rfl (keyOf_str hks) _ hfv ?_))
    refine leaves_cons (f := 53) (args := #[.pointer (some ⟨A.R.pr i, 0, none⟩)]) (by simp) (by simp [go_sem]) ?_
    refine (unlock_deferred Try.muLib ⟨A.R.pr i, 0, none⟩ .returning _ (hW1.cell (o := 0) rfl) (hW1.frozen 0)).mono ?_
    rintro e u' w'' ⟨rfl, rfl, rfl⟩
    rw [Hr.out]
    exact ⟨_, results_tmp rfl _ _ _, A, rfl, h.same hSame, hSame.stp _ _⟩

/-- Ask, of the program -/
theorem pAsk (h : RepS w τ sid b s A) (n : Int) (key : ByteArray) (hks : key.size ≤ maxLen) (hn : -9223372036854775808 ≤ n) (hn' : n ≤ 9223372036854775807) :
    Calls Try.prog 20 #[ptr b, .int .i64 n, .string key] w (PPost w τ sid b (mAsk s n key)) := by
  have c := findRead_any h n hn hn'
  cases hf : mFindR s n with
  | none =>
    have Hr : Hid (mAsk s n key = (7, s)) := mAsk_none hf
    have hv : findRVal s A n = (.pointer none, false) := by unfold findRVal; rw [hf]
    rw [hv] at c
    unfold ptr at c ⊢
    clear hf hv
    go_enter Try.func20, Try.ntmps20
    go_wp2_with fail
    refine c.mono ?_
    rintro e w1 ⟨rfl, hS⟩
    go_wp2_with fail
    go_ret
    rw [Hr.out]
    exact ⟨A, rfl, h.same hS, hS.stp _ _⟩
  | some r =>
    have hv : findRVal s A n = (ptr (A.R.pr (n - 1).toNat), true) := by unfold findRVal; rw [hf]
    rw [hv] at c
    have c2 : ∀ w1, Same w w1 → Calls Try.prog 43 #[ptr (A.R.pr (n - 1).toNat), .string key] w1 (PPost w1 τ sid b (mAsk s n key)) := fun w1 hS => ask_any (h.same hS) n r hf key hks
    generalize (n - 1).toNat = j at c c2
    unfold ptr at c c2 ⊢
    clear hf hv
    go_enter Try.func20, Try.ntmps20
    go_wp2_with fail
    refine c.mono ?_
    rintro e w1 ⟨rfl, hS⟩
    have c3 := c2 w1 hS
    clear c c2
    go_wp2_with fail
    refine c3.mono ?_
    rintro e w2 ⟨A', rfl, hR, hT⟩
    go_wp2_with fail
    go_ret
    exact ⟨A', rfl, hR, (hS.stp _ _).trans hT⟩

end
end Go.Proofs.Ytgffdomnihhcbaa
