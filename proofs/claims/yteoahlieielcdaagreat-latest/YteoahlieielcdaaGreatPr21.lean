/-
  The program: ask, Ask.
-/
import Derived.Test.YteoahlieielcdaaGreatPrT
namespace Go.Proofs.YteoahlieielcdaaGreat
open Go Go.RowKit Go.MuLone
open Go.Maps (Keyed)

section
variable {w : World} {τ : Nat → Tag} {sid b : Nat} {s : MS} {A : SA}

/-- THE READS ARE TURNED, all else of a store is as it was. -/
theorem RepS.frameR (h : RepS w τ sid b s A) {w' : World} {τ' : Nat → Tag} {rs' : List MR} {B' : SB}
    (hf : ∀ k, k < w.heap.size → (τ k).1 = sid → 0 < (τ k).2.1 → (τ k).2.1 < 10 → w'.heap[k]? = w.heap[k]? ∧ τ' k = τ k) (htb : τ' b = (sid, 0, 0))
    (hok : MOk { s with rs := rs' }) (htold : ToldOk { s with rs := rs' } { A with R := B' }) (hb : Blk w' b #[.int .i64 s.mode, A.parr, mu0, sem0, .int .i64 s.ws.length, .int .i64 rs'.length, .map (some A.wm), .map (some B'.rm)] 105)
    (hr : RdS w' τ' sid s.parts A.pb rs' B') : RepS w' τ' sid b { s with rs := rs' } { A with R := B' } := by
  have hblk : ∀ {k : Nat} {c : Array Value} {t : TypeId} {g g' : Nat}, 0 < g → g < 10 → Blk w k c t → τ k = (sid, g, g') → Blk w' k c t ∧ τ' k = (sid, g, g') := by
    intro k c t g g' hg hg' hb ht
    obtain ⟨e1, e2⟩ := hf k hb.lt (by rw [ht]) (by rw [ht]; exact hg) (by rw [ht]; exact hg')
    exact ⟨hb.of_eq e1, e2.trans ht⟩
  have hmap : ∀ {k : Nat} {t : TypeId} {f : Lit → Option Value} {g g' : Nat}, 0 < g → g < 10 → MapF w Tryz.prog t k f → τ k = (sid, g, g') → MapF w' Tryz.prog t k f ∧ τ' k = (sid, g, g') := by
    intro k t f g g' hg hg' hb ht
    obtain ⟨e1, e2⟩ := hf k hb.lt (by rw [ht]) (by rw [ht]; exact hg) (by rw [ht]; exact hg')
    exact ⟨hb.of_eq e1, e2.trans ht⟩
  have hrow : ∀ {e : TypeId} {sz : Nat} {v : Value} {n : Nat} {xs : List Value} {g g' : Nat}, 0 < g → g < 10 → w.ownsRow 0 e sz v n xs → (∀ k, v.ownBlock = some k → τ k = (sid, g, g')) → w'.ownsRow 0 e sz v n xs ∧ ∀ k, v.ownBlock = some k → τ' k = (sid, g, g') := by
    intro e sz v n xs g g' hg hg' ho hv
    refine ⟨row_of_block ho (fun k hk => (hf k (row_ge ho k hk).2 (by rw [hv k hk]) (by rw [hv k hk]; exact hg) (by rw [hv k hk]; exact hg')).1), fun k hk => ?_⟩
    rw [(hf k (row_ge ho k hk).2 (by rw [hv k hk]) (by rw [hv k hk]; exact hg) (by rw [hv k hk]; exact hg')).2, hv k hk]
  exact ⟨hok, ⟨h.inv.cp, h.inv.po, h.inv.cc⟩, htold, hb, htb, (hrow (by omega) (by omega) h.parr h.parrTag).1, (hrow (by omega) (by omega) h.parr h.parrTag).2,
    fun q hq => (hblk (by omega) (by omega) (h.part q hq) (h.partTag q hq)).1, fun q hq => (hblk (by omega) (by omega) (h.part q hq) (h.partTag q hq)).2,
    fun q hq => (hmap (by omega) (by omega) (h.kept q hq) (h.keptTag q hq)).1, fun q hq => (hmap (by omega) (by omega) (h.kept q hq) (h.keptTag q hq)).2,
    fun q hq => (hmap (by omega) (by omega) (h.vism q hq) (h.visTag q hq)).1, fun q hq => (hmap (by omega) (by omega) (h.vism q hq) (h.visTag q hq)).2, fun q hq => ⟨(h.visOk q hq).seen, (h.visOk q hq).top⟩,
    (hmap (by omega) (by omega) h.wmap h.wmTag).1, (hmap (by omega) (by omega) h.wmap h.wmTag).2,
    fun i m a c => (hblk (by omega) (by omega) (h.wr i m a c) (h.wrTag i m a c)).1, fun i m a c => (hblk (by omega) (by omega) (h.wr i m a c) (h.wrTag i m a c)).2,
    fun i m a c => (hmap (by omega) (by omega) (h.shm i m a c) (h.shmTag i m a c)).1, fun i m a c => (hmap (by omega) (by omega) (h.shm i m a c) (h.shmTag i m a c)).2,
    fun i m q a c o => (hblk (by omega) (by omega) (h.sh i m q a c o) (h.shTag i m q a c o)).1, fun i m q a c o => (hblk (by omega) (by omega) (h.sh i m q a c o) (h.shTag i m q a c o)).2,
    fun i m q a c o => (hrow (by omega) (by omega) (h.it i m q a c o) (fun k => h.itTag i m q k a c o)).1, fun i m q k a c o => (hrow (by omega) (by omega) (h.it i m q a c o) (fun k => h.itTag i m q k a c o)).2 k, hr⟩

theorem findR_set {rs : List MR} {i : Nat} {r r' : MR} (hr : rs[i]? = some r) (hf : r'.fin = r.fin) (n : Int) : (findR (rs.set i r') n).isSome = (findR rs n).isSome := by
  unfold findR
  simp only [List.length_set]
  split
  · rfl
  · rw [List.getElem?_set]
    by_cases e : i = (n - 1).toNat
    · rw [if_pos e, ← e, hr, if_pos (lt_of_some hr)]
      simp only [hf]
      cases r.fin <;> rfl
    · rw [if_neg e]
theorem readsF_set {rs : List MR} {i : Nat} {r r' : MR} {B : SB} (hr : rs[i]? = some r) (hf : r'.fin = r.fin) : readsF (rs.set i r') B = readsF rs B := by
  funext kl
  cases kl with
  | int k n =>
    cases k <;> try rfl
    simp only [readsF]
    have := findR_set hr hf n
    cases h1 : findR (rs.set i r') n <;> cases h2 : findR rs n <;> simp [h1, h2] at this ⊢
  | _ => rfl

/-- A KEY IS ASKED. -/
def tellSB (B : SB) (i j : Nat) (hv : Bool) (tv : ByteArray) (ts : Value) : SB :=
  { B with hv := fun i' j' => if i' = i ∧ j' = j then hv else B.hv i' j', tv := fun i' j' => if i' = i ∧ j' = j then tv else B.tv i' j', ts := fun i' j' => if i' = i ∧ j' = j then ts else B.ts i' j' }
theorem RepS.ask (h : RepS w τ sid b s A) {i j v : Nat} {r : MR} {x : ByteArray} {hv : Bool} {tv : ByteArray} {ts : Value} (hhv : hv = (!A.R.no i && decide (v ≠ 0))) (htv : hv = true → ∃ m, s.ws[v - 1]? = some m ∧ valueIn m.items x = some tv ∧ ts = A.sv (v - 1)) (ht0 : hv = false → tv = ⟨#[]⟩ ∧ ts = .nilIface)
    (hfm : v ≠ 0 → ∃ m, s.ws[v - 1]? = some m ∧ hasKey m.items x = true ∧ m.comm (partOf s.parts x).toNat = true) (hr : s.rs[i]? = some r) (hfin : r.fin = false) (hx : r.keys[j]? = some x) {w' : World}
    (hne : ∀ k, k < w.heap.size → k ≠ A.R.qb i j → w'.heap[k]? = w.heap[k]?) (hq : Blk w' (A.R.qb i j) #[ptr (A.pb (partOf s.parts x).toNat), .bool true, .int .i64 v, .bool hv, .string tv, ts] 146) :
    RepS w' τ sid b { s with rs := s.rs.set i { r with asked := put r.asked j, found := fun q => if q = j then v else r.found q } } { A with R := tellSB A.R i j hv tv ts } := by
  have hi := lt_of_some hr
  have hjl := lt_of_some hx
  have ht := h.reads.qTag i r j x hr hfin hx
  have hne' : ∀ {k : Nat}, k < w.heap.size → τ k ≠ (sid, 13, i * 8 + j) → w'.heap[k]? = w.heap[k]? := fun hl hk => hne _ hl (fun e => hk (by rw [e]; exact ht))
  have hget : ∀ {q : Nat} {rq : MR}, (s.rs.set i { r with asked := put r.asked j, found := fun q => if q = j then v else r.found q })[q]? = some rq → ∃ ro, s.rs[q]? = some ro ∧ rq.keys = ro.keys ∧ rq.fin = ro.fin := by
    intro q rq hq
    rcases set_some hq with ⟨rfl, rfl⟩ | ⟨_, hq⟩
    · exact ⟨r, hr, rfl, rfl⟩
    · exact ⟨rq, hq, rfl, rfl⟩
  refine h.frameR (B' := tellSB A.R i j hv tv ts) (fun k hk _ _ h10 => ⟨hne' hk (fun e => by rw [e] at h10; simp at h10), rfl⟩) h.tag ⟨h.ok.p1, h.ok.p4, h.ok.len, h.ok.items, fun q rq hq => ?_, ?_⟩ ?_ ?_ ⟨?_, h.reads.rmTag, fun q rq hq hf => ?_, fun q rq hq hf => ?_, fun q rq hq hf => ?_, fun q rq hq hf => ?_, fun q rq j' x' hq hf hx' => ?_, fun q rq j' x' hq hf hx' => ?_, fun q rq hq hf => ?_, fun q rq k hq hf => ?_⟩
  · obtain ⟨ro, ho, e, _⟩ := hget hq
    rw [e]; exact h.ok.keys q ro ho
  · show openReads (s.rs.set i { r with asked := put r.asked j, found := fun q => if q = j then v else r.found q }) ≤ 50
    rw [openReads_set (r' := { r with asked := put r.asked j, found := fun q => if q = j then v else r.found q }) hr rfl]; exact h.ok.opn
  · -- what the reads were told
    have hcase : ∀ {q : Nat} {rq : MR}, (s.rs.set i { r with asked := put r.asked j, found := fun q => if q = j then v else r.found q })[q]? = some rq → rq.fin = false → ∀ {j' : Nat} {x' : ByteArray}, rq.keys[j']? = some x' →
        (q = i ∧ j' = j ∧ x' = x ∧ rq.found j' = v) ∨ (¬ (q = i ∧ j' = j) ∧ ∃ ro, s.rs[q]? = some ro ∧ ro.fin = false ∧ ro.keys[j']? = some x' ∧ rq.found j' = ro.found j') := by
      intro q rq hq hf j' x' hx'
      rcases set_some hq with ⟨rfl, rfl⟩ | ⟨e, hq⟩
      · by_cases ej : j' = j
        · subst ej
          have hx2 : r.keys[j']? = some x' := hx'
          rw [hx] at hx2; cases hx2
          exact Or.inl ⟨rfl, rfl, rfl, by simp⟩
        · exact Or.inr ⟨fun e => ej e.2, r, hr, hfin, hx', by simp [ej]⟩
      · exact Or.inr ⟨fun e' => e e'.1.symm, rq, hq, hf, hx', rfl⟩
    refine ⟨h.told.sv, fun q rq hq hf => ?_, fun q rq j' hq ha => ?_, fun q rq j' x' hq hf hx' => ?_, fun q rq j' x' hq hf hx' hv' => ?_, fun q rq j' x' hq hf hx' hv' => ?_, fun q rq j' x' hq hf hx' hv' => ?_⟩
    · obtain ⟨ro, ho, ek, e⟩ := hget hq
      rw [e] at hf; rw [ek]
      exact h.told.no q ro ho hf
    · rcases set_some hq with ⟨rfl, rfl⟩ | ⟨_, hq⟩
      · by_cases ej : j' = j
        · subst ej; simp [put] at ha
        · simp only [put, ej, if_false] at ha ⊢
          exact h.told.un i r j' hr ha
      · exact h.told.un q rq j' hq ha
    · rcases hcase hq hf hx' with ⟨rfl, rfl, rfl, e⟩ | ⟨e, ro, h1, h2, h3, h4⟩
      · rw [e]; simp only [tellSB, and_self, if_true]; exact hhv
      · rw [h4]; simp only [tellSB, if_neg e]; exact h.told.hv q ro j' x' h1 h2 h3
    · rcases hcase hq hf hx' with ⟨rfl, rfl, rfl, e⟩ | ⟨e, ro, h1, h2, h3, h4⟩
      · rw [e]; simp only [tellSB, and_self, if_true] at hv' ⊢; exact htv hv'
      · rw [h4]; simp only [tellSB, if_neg e] at hv' ⊢; exact h.told.tv q ro j' x' h1 h2 h3 hv'
    · rcases hcase hq hf hx' with ⟨rfl, rfl, rfl, e⟩ | ⟨e, ro, h1, h2, h3, h4⟩
      · simp only [tellSB, and_self, if_true] at hv' ⊢; exact ht0 hv'
      · simp only [tellSB, if_neg e] at hv' ⊢; exact h.told.t0 q ro j' x' h1 h2 h3 hv'
    · rcases hcase hq hf hx' with ⟨rfl, rfl, rfl, e⟩ | ⟨e, ro, h1, h2, h3, h4⟩
      · rw [e] at hv' ⊢; exact hfm hv'
      · rw [h4] at hv' ⊢; exact h.told.fm q ro j' x' h1 h2 h3 hv'
  · simp only [List.length_set]
    exact h.blk.of_eq (hne' h.blk.lt (by rw [h.tag]; simp))
  · rw [readsF_set (r' := { r with asked := put r.asked j, found := fun q => if q = j then v else r.found q }) hr rfl]
    exact h.reads.rmap.of_eq (hne' h.reads.rmap.lt (by rw [h.reads.rmTag]; simp))
  · obtain ⟨ro, ho, _, e⟩ := hget hq
    rw [e] at hf
    exact (h.reads.rd q ro ho hf).of_eq (hne' (h.reads.rd q ro ho hf).lt (by rw [h.reads.rdTag q ro ho hf]; simp))
  · obtain ⟨ro, ho, _, e⟩ := hget hq
    rw [e] at hf
    exact h.reads.rdTag q ro ho hf
  · obtain ⟨ro, ho, ek, e⟩ := hget hq
    rw [e] at hf
    refine ((h.reads.qmap q ro ho hf).of_eq (hne' (h.reads.qmap q ro ho hf).lt (by rw [h.reads.qmTag q ro ho hf]; simp))).congr (fun kl => ?_)
    cases kl <;> simp [questF, ek, tellSB]
  · obtain ⟨ro, ho, _, e⟩ := hget hq
    rw [e] at hf
    exact h.reads.qmTag q ro ho hf
  · rcases set_some hq with ⟨rfl, rfl⟩ | ⟨eq, hq⟩
    · by_cases ej : j' = j
      · subst ej
        have : x' = x := by
          have hx2 : r.keys[j']? = some x' := hx'
          rw [hx] at hx2; cases hx2; rfl
        subst this
        simpa [put, tellSB] using hq
      · have hb := h.reads.q i r j' x' hr hfin hx'
        have hj8 := lt_of_some hx'
        have := hb.of_eq (hne' hb.lt (by rw [h.reads.qTag i r j' x' hr hfin hx']; simp; omega))
        simpa [put, ej, tellSB] using this
    · have hb := h.reads.q q rq j' x' hq hf hx'
      have hj8 : j' < 8 := by have := (h.ok.keys q rq hq).2.1; have := lt_of_some hx'; omega
      have hj8' : j < 8 := by have := (h.ok.keys i r hr).2.1; omega
      have e2 : ¬ (q = i ∧ j' = j) := fun e' => eq e'.1.symm
      simp only [tellSB, if_neg e2]
      exact hb.of_eq (hne' hb.lt (by rw [h.reads.qTag q rq j' x' hq hf hx']; simp; omega))
  · obtain ⟨ro, ho, ek, e⟩ := hget hq
    rw [e] at hf
    rw [ek] at hx'
    exact h.reads.qTag q ro j' x' ho hf hx'
  · obtain ⟨ro, ho, ek, e⟩ := hget hq
    rw [e] at hf
    rw [ek]
    exact row_of_block (h.reads.ky q ro ho hf) (fun k hk => hne' (row_ge (h.reads.ky q ro ho hf) k hk).2 (by rw [h.reads.kyTag q ro k ho hf hk]; simp))
  · obtain ⟨ro, ho, ek, e⟩ := hget hq
    rw [e] at hf
    exact h.reads.kyTag q ro k ho hf

theorem qIx_eq (keys : List ByteArray) (key : ByteArray) : qIx keys key.data.toList = keyIx keys key := by
  unfold qIx keyIx
  congr 1
  funext x
  by_cases e : x = key
  · simp [e]
  · have : x.data.toList ≠ key.data.toList := fun e' => e (WideShapes.bytes_inj e')
    rw [decide_eq_false e, decide_eq_false this]
theorem keyIx_get {keys : List ByteArray} {key : ByteArray} (h : keyIx keys key < keys.length) : keys[keyIx keys key]? = some key := by
  unfold keyIx at h ⊢
  have := List.findIdx_getElem (w := h)
  rw [List.getElem?_eq_getElem h]
  simpa using this

theorem value_on {n : Int} {l : List KV} {key : ByteArray} {q : Int} (hq : partOf n key = q) : l.find? (fun x => decide (x.1 = key)) = (itemsOn n l q).find? (fun x => decide (x.1 = key)) := by
  unfold itemsOn
  rw [List.find?_filter]
  congr 1
  funext x
  by_cases e : x.1 = key
  · simp [e, hq]
  · simp [e]
theorem hasKey_find {l : List KV} {key : ByteArray} : hasKey l key = (l.find? (fun x => decide (x.1 = key))).isSome := by
  unfold hasKey
  rw [Bool.eq_iff_iff, List.any_eq_true]
  exact List.find?_isSome.symm

/-- what a part tells of a key -/
theorem RepS.tells (h : RepS w τ sid b s A) (key : ByteArray) {q : Nat} (hq : partOf s.parts key = q) (hqp : q < s.parts) : ∃ (a : Option Addr) (L : List KV) (cap : Nat) (sv : Value),
    (keptF s A q (.int .i64 (mVisible s key))).getD (.agg #[.slice none 0 0, .nilIface]) = .agg #[.slice a L.length cap, sv] ∧ IsIf sv ∧ L.length ≤ 8 ∧
    (∀ (k : Nat) (x : KV), L[k]? = some x → ∃ g, a = some ⟨g, 0, none⟩ ∧ w.cell? ⟨g, k * 2, none⟩ = some (.string x.1) ∧ w.cell? ⟨g, k * 2 + 1, none⟩ = some (.string x.2)) ∧ (∀ g, a = some ⟨g, 0, none⟩ → (∃ c d, τ g = (sid, 9, c) ∧ d = c)) ∧
    hasKey L key = decide (mVisible s key ≠ 0) ∧ (mVisible s key ≠ 0 → ∃ m, s.ws[mVisible s key - 1]? = some m ∧ valueIn m.items key = some (valueOf L key) ∧ sv = A.sv (mVisible s key - 1) ∧ hasKey m.items key = true ∧ m.comm q = true) ∧ (mVisible s key = 0 → valueOf L key = ⟨#[]⟩ ∧ sv = .nilIface) := by
  have hv := h.vis_eq key
  rw [hq, Int.toNat_natCast] at hv
  by_cases h0 : mVisible s key = 0
  · refine ⟨none, [], 0, .nilIface, ?_, Or.inl rfl, by simp, fun k x hx => by simp at hx, fun g e => (by cases e), by simp [h0, hasKey], fun e => absurd h0 e, fun _ => ⟨rfl, rfl⟩⟩
    rw [h0]
    simp [keptF, mFind]
  · obtain ⟨m, hm, hc, x, hx, hxl, hxp⟩ := (h.visOk q hqp).seen key.data.toList (by rw [hv]; exact h0)
    rw [hv] at hm
    have hxk : x.1 = key := WideShapes.bytes_inj hxl
    have hcn : m.canc = false := by
      cases hcc : m.canc
      · rfl
      · rw [h.inv.cc _ m q hm hcc] at hc; cases hc
    have hpr := h.inv.cp _ m q hm hc
    have hon := h.inv.po _ m q hm hpr
    have hrow := h.it _ m q hm hcn hon
    obtain ⟨g, cap, hiv, _, _, hcell, _⟩ := row_form hrow (itemsOn_pos hon)
    obtain ⟨hil, _⟩ := h.ok.items _ m hm
    have hfind : mFind s ((mVisible s key : Nat) : Int) = some m := by
      have := mFind_of hm hcn
      rw [show (((mVisible s key - 1 : Nat) : Int) + 1) = ((mVisible s key : Nat) : Int) from by omega] at this
      exact this
    have hkm : hasKey m.items key = true := by
      simp only [hasKey, List.any_eq_true, decide_eq_true_eq]
      exact ⟨x, hx, hxk⟩
    have hkL : hasKey (itemsOn s.parts m.items q) key = true := by rw [hasKey_find, ← value_on hq, ← hasKey_find]; exact hkm
    refine ⟨some ⟨g, 0, none⟩, itemsOn s.parts m.items q, cap, A.sv (mVisible s key - 1), ?_, h.told.sv _ m hm, Nat.le_trans (itemsOn_le _ _ _) hil, fun k y hy => ?_, fun g' e => ?_, by rw [hkL]; simp [h0], fun _ => ⟨m, hm, ?_, rfl, hkm, hc⟩, fun e => absurd e h0⟩
    · simp only [keptF, hfind, hpr, if_true]
      rw [show ((((mVisible s key : Nat) : Int) - 1).toNat) = mVisible s key - 1 from by omega, hiv]
      rfl
    · obtain ⟨e1, e2⟩ := kvCells_at _ k y hy
      have hk := lt_of_some hy
      exact ⟨g, rfl, by rw [hcell (k * 2) (by omega), e1], by rw [hcell (k * 2 + 1) (by omega), e2]⟩
    · cases e
      exact ⟨_, _, h.itTag _ m q g hm hcn hon (by rw [hiv]; rfl), rfl⟩
    · rw [valueIn_of hkm]
      unfold valueOf
      rw [value_on hq]

theorem size_set (w : World) (a : Addr) (v : Value) : (w.setCell a v).heap.size = w.heap.size := by simp [World.setCell]

/-- what is left behind a question that was asked -/
theorem ask_post (h : RepS w τ sid b s A) {n : Int} {i j : Nat} {r : MR} {key : ByteArray} (hr : s.rs[i]? = some r) (hc : r.fin = false) (hx : r.keys[j]? = some key)
    (Hr : mAsk s n key = (0, { s with rs := s.rs.set i { r with asked := put r.asked j, found := fun q => if q = j then mVisible s key else r.found q } }))
    (hfm : mVisible s key ≠ 0 → ∃ m, s.ws[mVisible s key - 1]? = some m ∧ hasKey m.items key = true ∧ m.comm (partOf s.parts key).toNat = true)
    {w2 : World} {hv : Bool} {tv : ByteArray} {ts : Value} (hB : Below w.heap.size (w.setCell ⟨A.R.pr i, 0, none⟩ (.int .i32 1)) w2) (a1 : hv = (!A.R.no i && decide (mVisible s key ≠ 0))) (a2 : hv = true → ∃ m, s.ws[mVisible s key - 1]? = some m ∧ valueIn m.items key = some tv ∧ ts = A.sv (mVisible s key - 1)) (a3 : hv = false → tv = ⟨#[]⟩ ∧ ts = .nilIface) :
    PPost w τ sid b (mAsk s n key) (.returned (.int .i64 0)) ((((((w2.setCell ⟨A.R.qb i j, 2, none⟩ (.int .i64 (mVisible s key))).setCell ⟨A.R.qb i j, 3, none⟩ (.bool hv)).setCell ⟨A.R.qb i j, 4, none⟩ (.string tv)).setCell ⟨A.R.qb i j, 5, none⟩ ts).setCell ⟨A.R.qb i j, 1, none⟩ (.bool true)).setCell ⟨A.R.pr i, 0, none⟩ (.int .i32 0)) := by
  have hW := h.reads.rd i r hr hc
  have hQ := h.reads.q i r j key hr hc hx
  have hti := h.reads.qTag i r j key hr hc hx
  have hqbp : A.R.qb i j ≠ A.R.pr i := fun e => by rw [e, h.reads.rdTag i r hr hc] at hti; simp at hti
  have hQ2 : Blk w2 (A.R.qb i j) _ _ := hQ.of_eq ((hB.block _ hQ.lt).trans (Below.heap_setCell _ _ _ _ hqbp))
  generalize mVisible s key = v at *
  have hQ3 : Blk (((((w2.setCell ⟨A.R.qb i j, 2, none⟩ (.int .i64 v)).setCell ⟨A.R.qb i j, 3, none⟩ (.bool hv)).setCell ⟨A.R.qb i j, 4, none⟩ (.string tv)).setCell ⟨A.R.qb i j, 5, none⟩ ts).setCell ⟨A.R.qb i j, 1, none⟩ (.bool true)) (A.R.qb i j) #[ptr (A.pb (partOf s.parts key).toNat), .bool true, .int .i64 v, .bool hv, .string tv, ts] 146 := by
    have := ((((hQ2.set 2 (.int .i64 v)).set 3 (.bool hv)).set 4 (.string tv)).set 5 ts).set 1 (.bool true)
    simpa using this
  have hall : ∀ k, (k < w.heap.size ∧ k ≠ A.R.qb i j) → ((((((w2.setCell ⟨A.R.qb i j, 2, none⟩ (.int .i64 v)).setCell ⟨A.R.qb i j, 3, none⟩ (.bool hv)).setCell ⟨A.R.qb i j, 4, none⟩ (.string tv)).setCell ⟨A.R.qb i j, 5, none⟩ ts).setCell ⟨A.R.qb i j, 1, none⟩ (.bool true)).setCell ⟨A.R.pr i, 0, none⟩ mu0).heap[k]? = w.heap[k]? :=
    unlock_block hW rfl (v := .int .i32 1) (fun k hk => by
      rw [Below.heap_setCell _ _ _ _ hk.2, Below.heap_setCell _ _ _ _ hk.2, Below.heap_setCell _ _ _ _ hk.2, Below.heap_setCell _ _ _ _ hk.2, Below.heap_setCell _ _ _ _ hk.2]
      exact hB.block k hk.1)
  have hQ4 := hQ3.of_eq (w' := (((((w2.setCell ⟨A.R.qb i j, 2, none⟩ (.int .i64 v)).setCell ⟨A.R.qb i j, 3, none⟩ (.bool hv)).setCell ⟨A.R.qb i j, 4, none⟩ (.string tv)).setCell ⟨A.R.qb i j, 5, none⟩ ts).setCell ⟨A.R.qb i j, 1, none⟩ (.bool true)).setCell ⟨A.R.pr i, 0, none⟩ mu0) (Below.heap_setCell _ _ _ _ hqbp)
  have hsz := hB.size
  have hF : Fr (fun k => k = A.R.qb i j ∨ k = A.R.pr i) (w.setCell ⟨A.R.pr i, 0, none⟩ (.int .i32 1)) ((((((w2.setCell ⟨A.R.qb i j, 2, none⟩ (.int .i64 v)).setCell ⟨A.R.qb i j, 3, none⟩ (.bool hv)).setCell ⟨A.R.qb i j, 4, none⟩ (.string tv)).setCell ⟨A.R.qb i j, 5, none⟩ ts).setCell ⟨A.R.qb i j, 1, none⟩ (.bool true)).setCell ⟨A.R.pr i, 0, none⟩ mu0) :=
    ((((((Fr.of_below (by rw [size_set]; exact hB)).setCell (p := ⟨A.R.qb i j, 2, none⟩) (Or.inl rfl) _).setCell (p := ⟨A.R.qb i j, 3, none⟩) (Or.inl rfl) _).setCell (p := ⟨A.R.qb i j, 4, none⟩) (Or.inl rfl) _).setCell (p := ⟨A.R.qb i j, 5, none⟩) (Or.inl rfl) _).setCell (p := ⟨A.R.qb i j, 1, none⟩) (Or.inl rfl) _).setCell (p := ⟨A.R.pr i, 0, none⟩) (Or.inr rfl) _
  have hsz2 := hF.size
  rw [size_set] at hsz2
  have hst : Stp sid τ w τ ((((((w2.setCell ⟨A.R.qb i j, 2, none⟩ (.int .i64 v)).setCell ⟨A.R.qb i j, 3, none⟩ (.bool hv)).setCell ⟨A.R.qb i j, 4, none⟩ (.string tv)).setCell ⟨A.R.qb i j, 5, none⟩ ts).setCell ⟨A.R.qb i j, 1, none⟩ (.bool true)).setCell ⟨A.R.pr i, 0, none⟩ mu0) :=
    ⟨hF.os, hF.tape, hF.output, hsz2, fun _ _ => rfl, fun k hk hs => hall k ⟨hk, fun e => hs (by rw [e, hti])⟩⟩
  clear hF
  have hrep := h.ask a1 a2 a3 hfm hr hc hx (fun k h1 h2 => hall k ⟨h1, h2⟩) hQ4
  clear hQ4 hQ3 hall hQ2
  rw [Hr]
  exact ⟨_, rfl, hrep, hst⟩

set_option maxRecDepth 100000 in
set_option maxHeartbeats 6000000 in
theorem ask_any (h : RepS w τ sid b s A) (n : Int) (r : MR) (hf : mFindR s n = some r) (key : ByteArray) (hks : key.size ≤ maxLen) :
    Calls Tryz.prog 41 #[ptr (A.R.pr (n - 1).toNat), .string key] w (PPost w τ sid b (mAsk s n key)) := by
  obtain ⟨h1, h2, hr, hc⟩ := mFindR_some hf
  have hp1 := h.ok.p1
  obtain ⟨i, hi⟩ : ∃ i : Nat, (n - 1).toNat = i := ⟨_, rfl⟩
  rw [hi] at hr ⊢
  have hW := h.reads.rd i r hr hc
  have c0 : w.cell? ⟨A.R.pr i, 0, none⟩ = some (.int .i32 0) := hW.cell (o := 0) rfl
  have f0 := hW.frozen 0
  have hSame := lock_round hW (o := 0) rfl (.int .i32 1)
  have hW1 := hW.set 0 (.int .i32 1)
  have hqne : A.R.qm i ≠ A.R.pr i := fun e => by have h1 := h.reads.qmTag i r hr hc; rw [e, h.reads.rdTag i r hr hc] at h1; simp at h1
  have d2 : (w.setCell ⟨A.R.pr i, 0, none⟩ (.int .i32 1)).cell? ⟨A.R.pr i, 4, none⟩ = some (.map (some (A.R.qm i))) := hW1.cell (o := 4) rfl
  have d9 : (w.setCell ⟨A.R.pr i, 0, none⟩ (.int .i32 1)).cell? ⟨A.R.pr i, 2, none⟩ = some (.bool (A.R.no i)) := hW1.cell (o := 2) rfl
  have hM1 : MapF (w.setCell ⟨A.R.pr i, 0, none⟩ (.int .i32 1)) Tryz.prog 9 (A.R.qm i) (questF A.R i r) := (h.reads.qmap i r hr hc).of_eq (Below.heap_setCell _ _ _ _ hqne)
  by_cases hix : keyIx r.keys key < r.keys.length
  · have hx := keyIx_get hix
    obtain ⟨j, hj⟩ : ∃ j, keyIx r.keys key = j := ⟨_, rfl⟩
    rw [hj] at hx
    have hfv : questF A.R i r (.string key.data.toList) = some (.pointer (some ⟨A.R.qb i j, 0, none⟩)) := by
      simp only [questF, qIx_eq, if_pos hix]; rw [hj]; rfl
    have hQ := h.reads.q i r j key hr hc hx
    have hqbp : A.R.qb i j ≠ A.R.pr i := fun e => by have h1 := h.reads.qTag i r j key hr hc hx; rw [e, h.reads.rdTag i r hr hc] at h1; simp at h1
    have hQ1 : Blk (w.setCell ⟨A.R.pr i, 0, none⟩ (.int .i32 1)) (A.R.qb i j) _ _ := hQ.of_eq (Below.heap_setCell _ _ _ _ hqbp)
    cases ha : r.asked j with
    | true =>
      have Hr : Hid (mAsk s n key = (10, s)) := mAsk_done hf hj (by omega) ha
      rw [ha] at hQ1
      have e1 : (w.setCell ⟨A.R.pr i, 0, none⟩ (.int .i32 1)).cell? ⟨A.R.qb i j, 1, none⟩ = some (.bool true) := hQ1.cell (o := 1) rfl
      unfold ptr
      unfold mu0 at hSame
      clear hf ha
      go_enter_defers Tryz.func41, Tryz.ntmps41
      go_wp2_with (first | (go_at_call 37; refine (lock_free Tryz.muLib ⟨A.R.pr i, 0, none⟩ _ c0 f0).mono ?_; rintro e w' ⟨rfl, rfl⟩) | (at_lookup; refine wpList_lookF_ok _ rfl _ _ 135 rfl 9 139 keyStr Tryz.underlying135 (zeroQPtr _) (A.R.qm i) (questF A.R i r) rfl hM1 _ (.string key.data.toList) rfl (keyOf_str hks) _ hfv ?_))
      refine leaves_cons (f := 38) (args := #[.pointer (some ⟨A.R.pr i, 0, none⟩)]) (by simp) (by simp [go_sem]) ?_
      refine (unlock_deferred Tryz.muLib ⟨A.R.pr i, 0, none⟩ .returning _ (hW1.cell (o := 0) rfl) (hW1.frozen 0)).mono ?_
      rintro e u' w'' ⟨rfl, rfl, rfl⟩
      rw [Hr.out]
      exact ⟨_, results_tmp rfl _ _ _, A, rfl, h.same hSame, hSame.stp _ _⟩
    | false =>
      have Hr := mAsk_ok hf hi hj (by omega) ha
      have Hr' : Hid (mAsk s n key = _) := Hr
      rw [ha] at hQ hQ1
      obtain ⟨g0, g1⟩ := partOf_bd s.parts key (by omega)
      obtain ⟨q, hq⟩ : ∃ q : Nat, (partOf s.parts key).toNat = q := ⟨_, rfl⟩
      have hqz : partOf s.parts key = q := by omega
      have hqp : q < s.parts := by omega
      have hVE := h.vis_eq key
      rw [hq] at hVE
      rw [hq] at hQ hQ1
      have hpne : A.pb q ≠ A.R.pr i := fun e => by have h1 := h.partTag q hqp; rw [e, h.reads.rdTag i r hr hc] at h1; simp at h1
      have hvne : A.vb q ≠ A.R.pr i := fun e => by have h1 := h.visTag q hqp; rw [e, h.reads.rdTag i r hr hc] at h1; simp at h1
      have hkne : A.kb q ≠ A.R.pr i := fun e => by have h1 := h.keptTag q hqp; rw [e, h.reads.rdTag i r hr hc] at h1; simp at h1
      obtain ⟨ta, tL, tcap, tsv, hg, hIf, hl8, hcell, hga, hhas, hval1, hval0⟩ := h.tells key hqz hqp
      have hfm : mVisible s key ≠ 0 → ∃ m, s.ws[mVisible s key - 1]? = some m ∧ hasKey m.items key = true ∧ m.comm q = true := fun e => by
        obtain ⟨m, r1, _, _, r4, r5⟩ := hval1 e
        exact ⟨m, r1, r4, r5⟩
      have hv200 : mVisible s key ≤ 200 := by rw [← hVE]; exact h.vis_le hqp _
      have hti := h.reads.qTag i r j key hr hc hx
      have hval : (visF A q (.string key.data.toList)).getD (.int .i64 0) = .int .i64 (mVisible s key) := by
        simp only [visF, hVE]
        by_cases e : mVisible s key = 0
        · rw [if_pos e, e]; rfl
        · rw [if_neg e]; rfl
      have hoth : ∀ k, k ≠ A.R.pr i → (w.setCell ⟨A.R.pr i, 0, none⟩ (.int .i32 1)).heap[k]? = w.heap[k]? := fun k hk => Below.heap_setCell _ _ _ _ hk
      have hszl : (w.setCell ⟨A.R.pr i, 0, none⟩ (.int .i32 1)).heap.size = w.heap.size := by simp [World.setCell]
      have hPB : Blk (w.setCell ⟨A.R.pr i, 0, none⟩ (.int .i32 1)) (A.pb q) _ _ := (h.part q hqp).of_eq (hoth _ hpne)
      have hVM : MapF (w.setCell ⟨A.R.pr i, 0, none⟩ (.int .i32 1)) Tryz.prog 9 (A.vb q) (visF A q) := (h.vism q hqp).of_eq (hoth _ hvne)
      have hKM : MapF (w.setCell ⟨A.R.pr i, 0, none⟩ (.int .i32 1)) Tryz.prog 3 (A.kb q) (keptF s A q) := (h.kept q hqp).of_eq (hoth _ hkne)
      have hcell1 : ∀ (k : Nat) (x : KV), tL[k]? = some x → ∃ g, ta = some ⟨g, 0, none⟩ ∧ (w.setCell ⟨A.R.pr i, 0, none⟩ (.int .i32 1)).cell? ⟨g, k * 2, none⟩ = some (.string x.1) ∧ (w.setCell ⟨A.R.pr i, 0, none⟩ (.int .i32 1)).cell? ⟨g, k * 2 + 1, none⟩ = some (.string x.2) := fun k x hx => by
        obtain ⟨g, e, r1, r2⟩ := hcell k x hx
        obtain ⟨c, _, e9, _⟩ := hga g e
        have hgn : g ≠ A.R.pr i := fun e' => by rw [e', h.reads.rdTag i r hr hc] at e9; simp at e9
        exact ⟨g, e, (cell_far (w := w) hgn).trans r1, (cell_far (w := w) hgn).trans r2⟩
      have hgb : ∀ g, ta = some ⟨g, 0, none⟩ → g ≠ A.pb q := fun g e e' => by
        obtain ⟨c, _, e9, _⟩ := hga g e
        rw [e', h.partTag q hqp] at e9; simp at e9
      have cv := kVisible (A.pb q) (A.kb q) (A.vb q) (visF A q) hPB hVM key hks _ hval
      have ct := kTell (A.pb q) (A.kb q) (A.vb q) (visF A q) (keptF s A q) hPB hKM hVM key hks _ hv200 hval ta tL tcap tsv hIf hg hl8 hcell1 hgb
      have HW : Hid (Blk (w.setCell ⟨A.R.pr i, 0, none⟩ (.int .i32 1)) (A.R.pr i) _ _) := hW1
      have HF : Hid (∀ (w2 : World) (hv : Bool) (tv : ByteArray) (ts : Value), Below w.heap.size (w.setCell ⟨A.R.pr i, 0, none⟩ (.int .i32 1)) w2 → hv = (!A.R.no i && decide (mVisible s key ≠ 0)) → (hv = true → ∃ m, s.ws[mVisible s key - 1]? = some m ∧ valueIn m.items key = some tv ∧ ts = A.sv (mVisible s key - 1)) → (hv = false → tv = ⟨#[]⟩ ∧ ts = .nilIface) →
          PPost w τ sid b (mAsk s n key) (.returned (.int .i64 0)) ((((((w2.setCell ⟨A.R.qb i j, 2, none⟩ (.int .i64 (mVisible s key))).setCell ⟨A.R.qb i j, 3, none⟩ (.bool hv)).setCell ⟨A.R.qb i j, 4, none⟩ (.string tv)).setCell ⟨A.R.qb i j, 5, none⟩ ts).setCell ⟨A.R.qb i j, 1, none⟩ (.bool true)).setCell ⟨A.R.pr i, 0, none⟩ (.int .i32 0))) := fun w2 hv tv ts hB a1 a2 a3 => ask_post h hr hc hx Hr (by rw [hq]; exact hfm) hB a1 a2 a3
      have e0 : (w.setCell ⟨A.R.pr i, 0, none⟩ (.int .i32 1)).cell? ⟨A.R.qb i j, 0, none⟩ = some (.pointer (some ⟨A.pb q, 0, none⟩)) := hQ1.cell (o := 0) rfl
      have e1 : (w.setCell ⟨A.R.pr i, 0, none⟩ (.int .i32 1)).cell? ⟨A.R.qb i j, 1, none⟩ = some (.bool false) := hQ1.cell (o := 1) rfl
      have HQ : Hid (∀ w2 : World, Below w.heap.size (w.setCell ⟨A.R.pr i, 0, none⟩ (.int .i32 1)) w2 → Blk w2 (A.R.qb i j) _ _ ∧ Blk w2 (A.R.pr i) _ _) := fun w2 hB => ⟨hQ1.of_eq (hB.block _ (by rw [← hszl]; exact hQ1.lt)), hW1.of_eq (hB.block _ (by rw [← hszl]; exact hW1.lt))⟩
      unfold ptr at cv ct ⊢
      have HV1 : Hid _ := hval1
      have HV0 : Hid _ := hval0
      have HH : Hid _ := hhas
      have HIf : Hid _ := hIf
      rw [hszl] at cv ct
      cases hno : A.R.no i with
      | true =>
        rw [hno] at d9
        have HN : Hid (A.R.no i = true) := hno
        clear hf ha Hr hval hVE hg hIf hl8 hcell hga hhas hval1 hval0 hfm hcell1 hgb ct hoth hPB hVM hKM hQ hQ1 hno
        go_enter_defers Tryz.func41, Tryz.ntmps41
        go_wp2_with (first | (go_at_call 37; refine (lock_free Tryz.muLib ⟨A.R.pr i, 0, none⟩ _ c0 f0).mono ?_; rintro e w' ⟨rfl, rfl⟩) | (at_lookup; refine wpList_lookF_ok _ rfl _ _ 135 rfl 9 139 keyStr Tryz.underlying135 (zeroQPtr _) (A.R.qm i) (questF A.R i r) rfl hM1 _ (.string key.data.toList) rfl (keyOf_str hks) _ hfv ?_))
        refine cv.mono ?_
        rintro e w2 ⟨rfl, hS2⟩
        clear cv
        obtain ⟨hQ2, hW2⟩ := HQ.out w2 hS2
        have k1 := hQ2.cell (o := 1) (v := .bool false) rfl
        have k2 : w2.cell? ⟨A.R.qb i j, 2, none⟩ = some _ := hQ2.cell (o := 2) rfl
        have k3 : w2.cell? ⟨A.R.qb i j, 3, none⟩ = some _ := hQ2.cell (o := 3) rfl
        have k4 : w2.cell? ⟨A.R.qb i j, 4, none⟩ = some _ := hQ2.cell (o := 4) rfl
        have k5 : w2.cell? ⟨A.R.qb i j, 5, none⟩ = some _ := hQ2.cell (o := 5) rfl
        have f1 := hQ2.frozen 1
        have f2 := hQ2.frozen 2
        have f3 := hQ2.frozen 3
        have f4 := hQ2.frozen 4
        have f5 := hQ2.frozen 5
        have HR := HF.out w2 false ⟨#[]⟩ .nilIface hS2 (by rw [HN.out]; rfl) (fun e => by cases e) (fun _ => ⟨rfl, rfl⟩)
        have HR' : Hid _ := HR
        clear HR hM1
        go_wp2_with fail
        have hqp' : A.R.pr i ≠ A.R.qb i j := fun e => hqbp e.symm
        have hW3 : Blk (((((w2.setCell ⟨A.R.qb i j, 2, none⟩ (.int .i64 (mVisible s key))).setCell ⟨A.R.qb i j, 3, none⟩ (.bool false)).setCell ⟨A.R.qb i j, 4, none⟩ (.string ⟨#[]⟩)).setCell ⟨A.R.qb i j, 5, none⟩ .nilIface).setCell ⟨A.R.qb i j, 1, none⟩ (.bool true)) (A.R.pr i) _ _ := hW2.of_eq (by rw [Below.heap_setCell _ _ _ _ hqp', Below.heap_setCell _ _ _ _ hqp', Below.heap_setCell _ _ _ _ hqp', Below.heap_setCell _ _ _ _ hqp', Below.heap_setCell _ _ _ _ hqp'])
        refine leaves_cons (f := 38) (args := #[.pointer (some ⟨A.R.pr i, 0, none⟩)]) (by simp) (by simp [go_sem]) ?_
        refine (unlock_deferred Tryz.muLib ⟨A.R.pr i, 0, none⟩ .returning _ (hW3.cell (o := 0) rfl) (hW3.frozen 0)).mono ?_
        rintro e u' w'' ⟨rfl, rfl, rfl⟩
        obtain ⟨A', r1, r2, r3⟩ := HR'.out
        exact ⟨_, results_tmp rfl _ _ _, A', by exact r1, r2, r3⟩
      | false =>
        rw [hno] at d9
        have HN : Hid (A.R.no i = false) := hno
        clear hf ha Hr hval hVE hg hIf hl8 hcell hga hhas hval1 hval0 hfm hcell1 hgb cv hoth hPB hVM hKM hQ hQ1 hno
        go_enter_defers Tryz.func41, Tryz.ntmps41
        go_wp2_with (first | (go_at_call 37; refine (lock_free Tryz.muLib ⟨A.R.pr i, 0, none⟩ _ c0 f0).mono ?_; rintro e w' ⟨rfl, rfl⟩) | (at_lookup; refine wpList_lookF_ok _ rfl _ _ 135 rfl 9 139 keyStr Tryz.underlying135 (zeroQPtr _) (A.R.qm i) (questF A.R i r) rfl hM1 _ (.string key.data.toList) rfl (keyOf_str hks) _ hfv ?_))
        refine ct.mono ?_
        rintro e w2 ⟨rfl, hS2⟩
        clear ct
        obtain ⟨hQ2, hW2⟩ := HQ.out w2 hS2
        have k1 := hQ2.cell (o := 1) (v := .bool false) rfl
        have k2 : w2.cell? ⟨A.R.qb i j, 2, none⟩ = some _ := hQ2.cell (o := 2) rfl
        have k3 : w2.cell? ⟨A.R.qb i j, 3, none⟩ = some _ := hQ2.cell (o := 3) rfl
        have k4 : w2.cell? ⟨A.R.qb i j, 4, none⟩ = some _ := hQ2.cell (o := 4) rfl
        have k5 : w2.cell? ⟨A.R.qb i j, 5, none⟩ = some _ := hQ2.cell (o := 5) rfl
        have f1 := hQ2.frozen 1
        have f2 := hQ2.frozen 2
        have f3 := hQ2.frozen 3
        have f4 := hQ2.frozen 4
        have f5 := hQ2.frozen 5
        have HR := HF.out w2 (hasKey tL key) (valueOf tL key) tsv hS2 (by rw [HN.out, HH.out]; simp) (fun e => by
          rw [HH.out] at e
          obtain ⟨m, r1, r2, r3, _⟩ := HV1.out (of_decide_eq_true e)
          exact ⟨m, r1, r2, r3⟩) (fun e => by
          rw [HH.out] at e
          exact HV0.out (by simpa using e))
        have HR' : Hid _ := HR
        clear HR hM1
        generalize hasKey tL key = hk9 at *
        generalize valueOf tL key = vk9 at *
        rcases HIf.out with rfl | ⟨st, sx, rfl⟩
        · go_wp2_with fail
          have hqp' : A.R.pr i ≠ A.R.qb i j := fun e => hqbp e.symm
          have hW3 : Blk (((((w2.setCell ⟨A.R.qb i j, 2, none⟩ (.int .i64 (mVisible s key))).setCell ⟨A.R.qb i j, 3, none⟩ (.bool hk9)).setCell ⟨A.R.qb i j, 4, none⟩ (.string vk9)).setCell ⟨A.R.qb i j, 5, none⟩ .nilIface).setCell ⟨A.R.qb i j, 1, none⟩ (.bool true)) (A.R.pr i) _ _ := hW2.of_eq (by rw [Below.heap_setCell _ _ _ _ hqp', Below.heap_setCell _ _ _ _ hqp', Below.heap_setCell _ _ _ _ hqp', Below.heap_setCell _ _ _ _ hqp', Below.heap_setCell _ _ _ _ hqp'])
          refine leaves_cons (f := 38) (args := #[.pointer (some ⟨A.R.pr i, 0, none⟩)]) (by simp) (by simp [go_sem]) ?_
          refine (unlock_deferred Tryz.muLib ⟨A.R.pr i, 0, none⟩ .returning _ (hW3.cell (o := 0) rfl) (hW3.frozen 0)).mono ?_
          rintro e u' w'' ⟨rfl, rfl, rfl⟩
          obtain ⟨A', r1, r2, r3⟩ := HR'.out
          exact ⟨_, results_tmp rfl _ _ _, A', by exact r1, r2, r3⟩
        · go_wp2_with fail
          have hqp' : A.R.pr i ≠ A.R.qb i j := fun e => hqbp e.symm
          have hW3 : Blk (((((w2.setCell ⟨A.R.qb i j, 2, none⟩ (.int .i64 (mVisible s key))).setCell ⟨A.R.qb i j, 3, none⟩ (.bool hk9)).setCell ⟨A.R.qb i j, 4, none⟩ (.string vk9)).setCell ⟨A.R.qb i j, 5, none⟩ (.iface st sx)).setCell ⟨A.R.qb i j, 1, none⟩ (.bool true)) (A.R.pr i) _ _ := hW2.of_eq (by rw [Below.heap_setCell _ _ _ _ hqp', Below.heap_setCell _ _ _ _ hqp', Below.heap_setCell _ _ _ _ hqp', Below.heap_setCell _ _ _ _ hqp', Below.heap_setCell _ _ _ _ hqp'])
          refine leaves_cons (f := 38) (args := #[.pointer (some ⟨A.R.pr i, 0, none⟩)]) (by simp) (by simp [go_sem]) ?_
          refine (unlock_deferred Tryz.muLib ⟨A.R.pr i, 0, none⟩ .returning _ (hW3.cell (o := 0) rfl) (hW3.frozen 0)).mono ?_
          rintro e u' w'' ⟨rfl, rfl, rfl⟩
          obtain ⟨A', r1, r2, r3⟩ := HR'.out
          exact ⟨_, results_tmp rfl _ _ _, A', by exact r1, r2, r3⟩
  · have Hr : Hid (mAsk s n key = (4, s)) := mAsk_key hf hix
    have hfv : questF A.R i r (.string key.data.toList) = none := by simp only [questF, qIx_eq, if_neg hix]
    unfold ptr
    unfold mu0 at hSame
    clear hf
    go_enter_defers Tryz.func41, Tryz.ntmps41
    go_wp2_with (first | (go_at_call 37; refine (lock_free Tryz.muLib ⟨A.R.pr i, 0, none⟩ _ c0 f0).mono ?_; rintro e w' ⟨rfl, rfl⟩) | (at_lookup; refine wpList_lookF_ok _ rfl _ _ 135 rfl 9 139 keyStr Tryz.underlying135 (zeroQPtr _) (A.R.qm i) (questF A.R i r) rfl hM1 _ (.string key.data.toList) rfl (keyOf_str hks) _ hfv ?_))
    refine leaves_cons (f := 38) (args := #[.pointer (some ⟨A.R.pr i, 0, none⟩)]) (by simp) (by simp [go_sem]) ?_
    refine (unlock_deferred Tryz.muLib ⟨A.R.pr i, 0, none⟩ .returning _ (hW1.cell (o := 0) rfl) (hW1.frozen 0)).mono ?_
    rintro e u' w'' ⟨rfl, rfl, rfl⟩
    rw [Hr.out]
    exact ⟨_, results_tmp rfl _ _ _, A, rfl, h.same hSame, hSame.stp _ _⟩

/-- Ask, of the program -/
theorem pAsk (h : RepS w τ sid b s A) (n : Int) (key : ByteArray) (hks : key.size ≤ maxLen) (hn : -9223372036854775808 ≤ n) (hn' : n ≤ 9223372036854775807) :
    Calls Tryz.prog 22 #[ptr b, .int .i64 n, .string key] w (PPost w τ sid b (mAsk s n key)) := by
  have c := findRead_any h n hn hn'
  cases hf : mFindR s n with
  | none =>
    have Hr : Hid (mAsk s n key = (7, s)) := mAsk_none hf
    have hv : findRVal s A n = (.pointer none, false) := by unfold findRVal; rw [hf]
    rw [hv] at c
    unfold ptr at c ⊢
    clear hf hv
    go_enter Tryz.func22, Tryz.ntmps22
    go_wp2_with fail
    refine c.mono ?_
    rintro e w1 ⟨rfl, hS⟩
    go_wp2_with fail
    go_ret
    rw [Hr.out]
    exact ⟨A, rfl, h.same hS, hS.stp _ _⟩
  | some r =>
    have hv : findRVal s A n = (ptr (A.R.pr (n - 1).toNat), true) := by unfold findRVal; rw [hf]
    rw [hv] at c
    have c2 : ∀ w1, Same w w1 → Calls Tryz.prog 41 #[ptr (A.R.pr (n - 1).toNat), .string key] w1 (PPost w1 τ sid b (mAsk s n key)) := fun w1 hS => ask_any (h.same hS) n r hf key hks
    generalize (n - 1).toNat = j at c c2
    unfold ptr at c c2 ⊢
    clear hf hv
    go_enter Tryz.func22, Tryz.ntmps22
    go_wp2_with fail
    refine c.mono ?_
    rintro e w1 ⟨rfl, hS⟩
    have c3 := c2 w1 hS
    clear c c2
    go_wp2_with fail
    refine c3.mono ?_
    rintro e w2 ⟨A', rfl, hR, hT⟩
    go_wp2_with fail
    go_ret
    exact ⟨A', rfl, hR, (hS.stp _ _).trans hT⟩

end
end Go.Proofs.YteoahlieielcdaaGreat
