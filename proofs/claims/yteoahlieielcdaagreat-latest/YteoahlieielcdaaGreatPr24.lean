/-
  The program: Read.
-/
import Derived.Test.YteoahlieielcdaaGreatPr23
import Derived.Test.YteoahlieielcdaaGreatPr21
import Derived.Test.YteoahlieielcdaaGreatRef10
namespace Go.Proofs.YteoahlieielcdaaGreat
open Go Go.RowKit Go.MuLone
open Go.Maps (Keyed)

section
variable {w : World} {τ : Nat → Tag} {sid b : Nat} {s : MS} {A : SA} {L : List ByteArray}

def pushSB (B : SB) (n pr qm : Nat) (qb : Nat → Nat) (no : Bool) (ks : Value) : SB := { rm := B.rm, pr := fun j => if j = n then pr else B.pr j, qm := fun j => if j = n then qm else B.qm j, qb := fun j => if j = n then qb else B.qb j, no := fun j => if j = n then no else B.no j, ks := fun j => if j = n then ks else B.ks j, hv := fun j q => if j = n then false else B.hv j q, tv := fun j q => if j = n then ⟨#[]⟩ else B.tv j q, ts := fun j q => if j = n then .nilIface else B.ts j q }

theorem pushR_get {rs : List MR} {i : Nat} {r : MR} (hm : (rs ++ [newMR L])[i]? = some r) : (i < rs.length ∧ rs[i]? = some r) ∨ (i = rs.length ∧ r = newMR L) := by
  by_cases e : i < rs.length
  · rw [List.getElem?_append_left e] at hm; exact Or.inl ⟨e, hm⟩
  · rw [List.getElem?_append_right (by omega)] at hm
    have hi' := lt_of_some hm
    simp at hi'
    have : i = rs.length := by omega
    subst this
    simp at hm
    exact Or.inr ⟨rfl, hm.symm⟩

theorem readsF_push {rs : List MR} {B : SB} {pr qm : Nat} {qb : Nat → Nat} {no : Bool} {ks : Value} : readsF (rs ++ [newMR L]) (pushSB B rs.length pr qm qb no ks) = upd (readsF rs B) (.int .i64 ((rs.length : Int) + 1)) (ptr pr) := by
  funext kl
  by_cases e : kl = .int .i64 ((rs.length : Int) + 1)
  · subst e
    rw [upd_same (by simp [WideAt.IsKeyLit])]
    have : findR (rs ++ [newMR L]) ((rs.length : Int) + 1) = some (newMR L) := by
      unfold findR
      rw [if_neg (by simp; omega), show ((rs.length : Int) + 1 - 1).toNat = rs.length from by omega]
      simp [newMR]
    simp [readsF, this, pushSB]
  · rw [upd_other e]
    cases kl with
    | int k n =>
      cases k <;> try rfl
      have hn : n ≠ (rs.length : Int) + 1 := fun e' => e (by rw [e'])
      have hf : findR (rs ++ [newMR L]) n = findR rs n := by
        unfold findR
        by_cases h1 : n < 1 ∨ (rs.length : Int) < n
        · rw [if_pos h1, if_pos (by simp; omega)]
        · rw [if_neg h1, if_neg (by simp; omega), List.getElem?_append_left (by omega)]
      simp only [readsF, hf]
      cases hf2 : findR rs n with
      | none => rfl
      | some r =>
        have : (n - 1).toNat ≠ rs.length := by
          unfold findR at hf2
          split at hf2
          · cases hf2
          · omega
        simp only [pushSB, if_neg this]
    | _ => rfl

/-- A READ MORE. -/
theorem RepS.pushR (h : RepS w τ sid b s A) (hl1 : 1 ≤ L.length) (hl8 : L.length ≤ 8) (hlg : ∀ x ∈ L, goodKey x = true) (hnd : L.Nodup) (hop : openReads s.rs < 50) {w' : World} {τ' : Nat → Tag} {pr qm : Nat} {qb : Nat → Nat} {no : Bool} {ks : Value} (hno : no = (decide (s.mode = 2) && decide (1 < L.length)))
    (hp : PartR w' τ' sid s.rs.length s.parts A.pb pr qm qb no ks L w.heap.size) (ht : ∀ k, k < w.heap.size → τ' k = τ k)
    (hold : ∀ k, k < w.heap.size → k ≠ b → k ≠ A.R.rm → w'.heap[k]? = w.heap[k]?)
    (hb : Blk w' b #[.int .i64 s.mode, A.parr, mu0, sem0, .int .i64 s.ws.length, .int .i64 ((s.rs.length : Int) + 1), .map (some A.wm), .map (some A.R.rm)] 105)
    (hw : MapF w' Tryz.prog 3 A.R.rm (upd (readsF s.rs A.R) (.int .i64 ((s.rs.length : Int) + 1)) (ptr pr))) :
    RepS w' τ' sid b { s with rs := s.rs ++ [newMR L] } { A with R := pushSB A.R s.rs.length pr qm qb no ks } := by
  have hne : ∀ {k a c : Nat}, τ k = (sid, a, c) → a ≠ 0 → a ≠ 10 → k < w.heap.size → w'.heap[k]? = w.heap[k]? := by
    intro k a c htk h0 h5 hk
    refine hold k hk (fun e => ?_) (fun e => ?_)
    · rw [e, h.tag] at htk; simp at htk; omega
    · rw [e, h.reads.rmTag] at htk; simp at htk; omega
  refine h.frameR (fun k hk h1 h0 h10 => ⟨hne (a := (τ k).2.1) (c := (τ k).2.2) (by rw [← h1]) (by omega) (by omega) hk, ht k hk⟩) (by rw [ht b h.blk.lt, h.tag]) ⟨h.ok.p1, h.ok.p4, h.ok.len, h.ok.items, fun j r hj => ?_, ?_⟩ ?_ ?_ ⟨?_, ?_, fun j r hj hf => ?_, fun j r hj hf => ?_, fun j r hj hf => ?_, fun j r hj hf => ?_, fun j r q x hj hf hx => ?_, fun j r q x hj hf hx => ?_, fun j r hj hf => ?_, fun j r k hj hf hk => ?_⟩
  · rcases pushR_get hj with ⟨_, e⟩ | ⟨_, rfl⟩
    · exact h.ok.keys j r e
    · exact ⟨hl1, hl8, hlg, hnd⟩
  · have : openReads (s.rs ++ [newMR L]) = openReads s.rs + 1 := by simp [openReads, newMR]
    show openReads (s.rs ++ [newMR L]) ≤ 50
    omega
  · refine ⟨h.told.sv, fun j r hj hf => ?_, fun j r q hj ha => ?_, fun j r q x hj hf hx => ?_, fun j r q x hj hf hx hv => ?_, fun j r q x hj hf hx hv => ?_, fun j r q x hj hf hx hv => ?_⟩
    · rcases pushR_get hj with ⟨hjl, e⟩ | ⟨rfl, rfl⟩
      · have : j ≠ s.rs.length := by omega
        simp only [pushSB, this, if_false]
        exact h.told.no j r e hf
      · simp only [pushSB, if_true]; exact hno
    · rcases pushR_get hj with ⟨hjl, e⟩ | ⟨rfl, rfl⟩
      · exact h.told.un j r q e ha
      · rfl
    · rcases pushR_get hj with ⟨hjl, e⟩ | ⟨rfl, rfl⟩
      · have : j ≠ s.rs.length := by omega
        simp only [pushSB, this, if_false]
        exact h.told.hv j r q x e hf hx
      · simp [pushSB, newMR]
    · rcases pushR_get hj with ⟨hjl, e⟩ | ⟨rfl, rfl⟩
      · have : j ≠ s.rs.length := by omega
        simp only [pushSB, this, if_false] at hv ⊢
        exact h.told.tv j r q x e hf hx hv
      · simp [pushSB] at hv
    · rcases pushR_get hj with ⟨hjl, e⟩ | ⟨rfl, rfl⟩
      · have : j ≠ s.rs.length := by omega
        simp only [pushSB, this, if_false] at hv ⊢
        exact h.told.t0 j r q x e hf hx hv
      · simp [pushSB]
    · rcases pushR_get hj with ⟨hjl, e⟩ | ⟨rfl, rfl⟩
      · exact h.told.fm j r q x e hf hx hv
      · simp [newMR] at hv
  · have e : ((s.rs ++ [newMR L]).length : Int) = (s.rs.length : Int) + 1 := by simp
    rw [e]; exact hb
  · rw [readsF_push]; exact hw
  · show τ' A.R.rm = _
    rw [ht _ h.reads.rmap.lt, h.reads.rmTag]
  · rcases pushR_get hj with ⟨hjl, e⟩ | ⟨rfl, rfl⟩
    · have hb' := h.reads.rd j r e hf
      have : j ≠ s.rs.length := by omega
      simp only [pushSB, this, if_false]
      exact hb'.of_eq (hne (h.reads.rdTag j r e hf) (by omega) (by omega) hb'.lt)
    · simpa [pushSB] using hp.blk
  · rcases pushR_get hj with ⟨hjl, e⟩ | ⟨rfl, rfl⟩
    · have hb' := h.reads.rd j r e hf
      have : j ≠ s.rs.length := by omega
      simp only [pushSB, this, if_false]
      rw [ht _ hb'.lt, h.reads.rdTag j r e hf]
    · simpa [pushSB] using hp.tag
  · rcases pushR_get hj with ⟨hjl, e⟩ | ⟨rfl, rfl⟩
    · have hb' := h.reads.qmap j r e hf
      have hjn : j ≠ s.rs.length := by omega
      have e1 : questF (pushSB A.R s.rs.length pr qm qb no ks) j r = questF A.R j r := by
        funext kl
        cases kl <;> simp [questF, pushSB, hjn]
      rw [e1]
      simp only [pushSB, hjn, if_false]
      exact hb'.of_eq (hne (h.reads.qmTag j r e hf) (by omega) (by omega) hb'.lt)
    · have e1 : questF (pushSB A.R s.rs.length pr qm qb no ks) s.rs.length (newMR L) = qF qb L := by
        funext kl
        cases kl <;> simp [questF, pushSB, qF, newMR]
      rw [e1]
      simpa [pushSB] using hp.map
  · rcases pushR_get hj with ⟨hjl, e⟩ | ⟨rfl, rfl⟩
    · have hb' := h.reads.qmap j r e hf
      have : j ≠ s.rs.length := by omega
      simp only [pushSB, this, if_false]
      rw [ht _ hb'.lt, h.reads.qmTag j r e hf]
    · simpa [pushSB] using hp.mapTag
  · rcases pushR_get hj with ⟨hjl, e⟩ | ⟨rfl, rfl⟩
    · have hb' := h.reads.q j r q x e hf hx
      have : j ≠ s.rs.length := by omega
      simp only [pushSB, this, if_false]
      exact hb'.of_eq (hne (h.reads.qTag j r q x e hf hx) (by omega) (by omega) hb'.lt)
    · have := hp.q q x hx
      simpa [pushSB, newMR] using this
  · rcases pushR_get hj with ⟨hjl, e⟩ | ⟨rfl, rfl⟩
    · have hb' := h.reads.q j r q x e hf hx
      have : j ≠ s.rs.length := by omega
      simp only [pushSB, this, if_false]
      rw [ht _ hb'.lt, h.reads.qTag j r q x e hf hx]
    · have := hp.qTag q x hx
      simpa [pushSB] using this
  · rcases pushR_get hj with ⟨hjl, e⟩ | ⟨rfl, rfl⟩
    · have hr' := h.reads.ky j r e hf
      have : j ≠ s.rs.length := by omega
      simp only [pushSB, this, if_false]
      exact row_of_block hr' (fun k hk => hne (h.reads.kyTag j r k e hf hk) (by omega) (by omega) (row_ge hr' k hk).2)
    · have := hp.ky
      simpa [pushSB, newMR] using this
  · rcases pushR_get hj with ⟨hjl, e⟩ | ⟨rfl, rfl⟩
    · have hr' := h.reads.ky j r e hf
      have hjn : j ≠ s.rs.length := by omega
      simp only [pushSB, hjn, if_false] at hk
      rw [ht _ (row_ge hr' k hk).2, h.reads.kyTag j r k e hf hk]
    · simp only [pushSB, if_true] at hk
      exact hp.kyTag k hk

theorem keys_ok {L : List ByteArray} (h : mKeys L = 0) : 1 ≤ L.length ∧ L.length ≤ 8 ∧ (∀ x ∈ L, goodKey x = true) ∧ L.Nodup := by
  unfold mKeys at h
  split at h
  · cases h
  · obtain ⟨h1, h2⟩ := key_good h
    exact ⟨by omega, by omega, fun x hx => (h1 x hx).1, h2⟩

theorem checkKeys_any (a : Option Addr) (L : List ByteArray) (cap : Nat) (hL : L.length ≤ maxLen) (hc8 : L.length ≤ cap) (hcm : cap ≤ maxLen) (hz : sizesK L) (hI : TextsAt w a L) :
    Calls Tryz.prog 36 #[.slice a L.length cap] w fun e w' => e = .returned (.int .i64 (mKeys L)) ∧ w' = w := by
  by_cases hs : L.length < 1 ∨ 8 < L.length
  · exact checkKeys_size a L cap hL hs
  · obtain ⟨ib, io, rfl, c0⟩ := hI 0 L[0] (List.getElem?_eq_getElem (by omega))
    refine checkKeys_main ib io L cap (by omega) (by omega) hc8 hcm hz (fun k x hx => ?_)
    obtain ⟨ib', io', e, r⟩ := hI k x hx
    cases e
    exact r

set_option maxRecDepth 100000 in
set_option maxHeartbeats 2000000 in
theorem pRead (h : RepS w τ sid b s A) (a : Option Addr) (cap : Nat) (hL : L.length ≤ maxLen) (hc8 : L.length ≤ cap) (hcm : cap ≤ maxLen) (hz : sizesK L) (hI : TextsAt w a L) (hf : ∀ ib io, a = some ⟨ib, io, none⟩ → (τ ib).1 ≠ sid) (hrl : s.rs.length < 8796093022208) :
    Calls Tryz.prog 21 #[ptr b, .slice a L.length cap] w (PWPost w τ sid b (mRead s L)) := by
  have cc := checkKeys_any a L cap hL hc8 hcm hz hI
  by_cases hc : mKeys L = 0
  · obtain ⟨h1, h8, hg, hnd⟩ := keys_ok hc
    rw [hc] at cc
    obtain ⟨gb, go, rfl, hc0⟩ := hI 0 L[0] (List.getElem?_eq_getElem (by omega))
    have hgb : gb < w.heap.size := World.block_lt_of_cell? w _ hc0
    have hgs := hf gb go rfl
    have hcell : ∀ (k : Nat) (x : ByteArray), L[k]? = some x → w.cell? ⟨gb, go + k, none⟩ = some (.string x) := fun k x hx => by
      obtain ⟨ib', io', e, r⟩ := hI k x hx
      cases e
      exact r
    have hp1 := h.ok.p1
    have hp4 := h.ok.p4
    have hop := h.ok.opn
    have c2 : w.cell? ⟨b, 2, none⟩ = some (.int .i32 0) := h.blk.cell (o := 2) rfl
    have f2 := h.blk.frozen 2
    have hb1 := h.blk.set 2 (.int .i32 1)
    have hrmb : A.R.rm ≠ b := fun e => by have h1 := h.reads.rmTag; rw [e, h.tag] at h1; simp at h1
    have hM1 : MapF (w.setCell ⟨b, 2, none⟩ (.int .i32 1)) Tryz.prog 3 A.R.rm (readsF s.rs A.R) := h.reads.rmap.of_eq (Below.heap_setCell _ _ _ _ hrmb)
    obtain ⟨mn, mD, hown, hsize⟩ := hM1.size keyInt (readKeys_pairwise s.rs) readsF_iff
    rw [readKeys_length] at hsize
    have c7 : (w.setCell ⟨b, 2, none⟩ (.int .i32 1)).cell? ⟨b, 7, none⟩ = some (.map (some A.R.rm)) := hb1.cell (o := 7) rfl
    by_cases hfull : 50 ≤ openReads s.rs
    · have Hr : Hid (mRead s L = (0, 6, s)) := by unfold Hid mRead; rw [hc]; simp [hfull]
      have hSame := lock_round h.blk (o := 2) rfl (.int .i32 1)
      unfold mu0 at hSame
      unfold ptr
      clear hcell hI hf
      go_enter_defers Tryz.func21, Tryz.ntmps21
      go_wp2_with fail
      refine cc.mono ?_
      rintro e w1 ⟨rfl, rfl⟩
      clear cc
      go_wp2_with fail
      refine (lock_free Tryz.muLib ⟨b, 2, none⟩ _ c2 f2).mono ?_
      rintro e w' ⟨rfl, rfl⟩
      go_wp2_with (at_len; refine wpList_len_own _ rfl _ 103 rfl 3 106 Tryz.underlying103 rawElem A.R.rm mn mD rfl hown ?_; rw [hsize])
      refine leaves_cons (f := 38) (args := #[.pointer (some ⟨b, 2, none⟩)]) (by simp) (by simp [go_sem]) ?_
      refine (unlock_deferred Tryz.muLib ⟨b, 2, none⟩ .returning _ (hb1.cell (o := 2) rfl) (hb1.frozen 2)).mono ?_
      rintro e u' w'' ⟨rfl, rfl, rfl⟩
      rw [Hr.out]
      exact ⟨_, results_tmp2 rfl _ _ _, τ, A, rfl, h.same hSame, hSame.stp _ _⟩
    · have Hr : Hid (mRead s L = ((s.rs.length : Int) + 1, 0, { s with rs := s.rs ++ [newMR L] })) := by
        unfold Hid mRead; rw [hc]; simp only [ne_eq, not_true, if_false, if_neg hfull]
      have c5 : (w.setCell ⟨b, 2, none⟩ (.int .i32 1)).cell? ⟨b, 5, none⟩ = some (.int .i64 s.rs.length) := hb1.cell (o := 5) rfl
      have f5 : (w.setCell ⟨b, 2, none⟩ (.int .i32 1)).frozen? ⟨b, 5, none⟩ = false := hb1.frozen 5
      have hb2 := hb1.set 5 (.int .i64 ((s.rs.length : Int) + 1))
      unfold ptr
      clear hI hf
      go_enter_defers Tryz.func21, Tryz.ntmps21
      go_wp2_with fail
      refine cc.mono ?_
      rintro e w1 ⟨rfl, rfl⟩
      clear cc
      go_wp2_with fail
      refine (lock_free Tryz.muLib ⟨b, 2, none⟩ _ c2 f2).mono ?_
      rintro e w' ⟨rfl, rfl⟩
      have hbne : gb ≠ b := fun e => hgs (by rw [e, h.tag])
      have hoth : ∀ k, k ≠ b → ((w1.setCell ⟨b, 2, none⟩ (.int .i32 1)).setCell ⟨b, 5, none⟩ (.int .i64 ((s.rs.length : Int) + 1))).heap[k]? = w1.heap[k]? := fun k hk => (Below.heap_setCell _ _ _ _ hk).trans (Below.heap_setCell _ _ _ _ hk)
      have hszC : ((w1.setCell ⟨b, 2, none⟩ (.int .i32 1)).setCell ⟨b, 5, none⟩ (.int .i64 ((s.rs.length : Int) + 1))).heap.size = w1.heap.size := by simp [World.setCell]
      have hosC : ((w1.setCell ⟨b, 2, none⟩ (.int .i32 1)).setCell ⟨b, 5, none⟩ (.int .i64 ((s.rs.length : Int) + 1))).os = w1.os ∧ ((w1.setCell ⟨b, 2, none⟩ (.int .i32 1)).setCell ⟨b, 5, none⟩ (.int .i64 ((s.rs.length : Int) + 1))).tape = w1.tape ∧ ((w1.setCell ⟨b, 2, none⟩ (.int .i32 1)).setCell ⟨b, 5, none⟩ (.int .i64 ((s.rs.length : Int) + 1))).output = w1.output := ⟨rfl, rfl, rfl⟩
      go_wp2_with (at_len; refine wpList_len_own _ rfl _ 103 rfl 3 106 Tryz.underlying103 rawElem A.R.rm mn mD rfl hown ?_; rw [hsize])
      generalize (w1.setCell ⟨b, 2, none⟩ (.int .i32 1)).setCell ⟨b, 5, none⟩ (.int .i64 ((s.rs.length : Int) + 1)) = wC at *
      have s0 : wC.cell? ⟨b, 0, none⟩ = some (.int .i64 s.mode) := hb2.cell (o := 0) rfl
      have s1 : wC.cell? ⟨b, 1, none⟩ = some A.parr := hb2.cell (o := 1) rfl
      have s4 : wC.cell? ⟨b, 5, none⟩ = some (.int .i64 ((s.rs.length : Int) + 1)) := hb2.cell (o := 5) rfl
      have s5 : wC.cell? ⟨b, 7, none⟩ = some (.map (some A.R.rm)) := hb2.cell (o := 7) rfl
      have hparr : wC.ownsRow 0 130 1 A.parr s.parts ((List.range s.parts).map (fun q => ptr (A.pb q))) := row_of_block h.parr (fun k hk => hoth k (fun e => by have h1 := h.parrTag k hk; rw [e, h.tag] at h1; simp at h1))
      have hcellC : ∀ (k : Nat) (x : ByteArray), L[k]? = some x → wC.cell? ⟨gb, go + k, none⟩ = some (.string x) := fun k x hx => (World.cell?_of_block (w := w1) (hoth gb hbne)).trans (hcell k x hx)
      have cn := newRead_any (w := wC.drew) (τ := τ) (sid := sid) (i := s.rs.length) (P := s.parts) (pb := A.pb) (L := L) b s.mode s0 A.parr s1 hparr hp1 hp4 gb go cap h1 h8 hg hnd hcellC
      unfold ptr at cn
      have hMC : MapF wC Tryz.prog 3 A.R.rm (readsF s.rs A.R) := h.reads.rmap.of_eq (hoth _ hrmb)
      have hbC := hb2.lt
      have hn1 : -9223372036854775808 ≤ (s.rs.length : Int) + 1 := by omega
      have hn2 : (s.rs.length : Int) + 1 ≤ 9223372036854775807 := by omega
      have hkl : (readKeys s.rs).length < maxLen := by rw [readKeys_length]; unfold maxLen; omega
      clear hcell hcellC hparr c5 f5 hown hM1 c7 hsize s0
      go_region_held3 (fun W => W.cell? ⟨b, 5, none⟩ = some (.int .i64 ((s.rs.length : Int) + 1)) ∧ W.cell? ⟨b, 7, none⟩ = some (.map (some A.R.rm))) (simp [*]) ((go_at_call 39; refine cn.mono ?_; rintro e w2 ⟨τ', pr, qm, qb, ks, rfl, hPW, hB2, hT2⟩; have k4 := (hB2.cell (p := ⟨b, 5, none⟩) hbC).trans s4; have k5 := (hB2.cell (p := ⟨b, 7, none⟩) hbC).trans s5; obtain ⟨w3, hup, hM3, hTu⟩ := (hMC.of_eq (w' := w2) (hB2.block _ hMC.lt)).store (t := 103) (e := 106) keyInt Tryz.underlying103 (readKeys s.rs) (fun kl hh => (readsF_iff kl).1 hh) hkl (keyOf_int hn1 hn2) (.pointer (some ⟨pr, 0, none⟩)); have hBu := But.of_turned hTu; have m4 := (World.cell?_of_block (w := w2) (a := ⟨b, 5, none⟩) (hBu.block b (fun e => hrmb e.symm))).trans k4; have m5 := (World.cell?_of_block (w := w2) (a := ⟨b, 7, none⟩) (hBu.block b (fun e => hrmb e.symm))).trans k5))
      clear cn
      go_wp2_with fail
      have hb3 : Blk w3 b _ _ := (hb2.of_eq (hB2.block b hbC)).of_eq (hBu.block b (fun e => hrmb e.symm))
      refine leaves_cons (f := 38) (args := #[.pointer (some ⟨b, 2, none⟩)]) (by simp) (by simp [go_sem]) ?_
      refine (unlock_deferred Tryz.muLib ⟨b, 2, none⟩ .returning _ (hb3.cell (o := 2) rfl) (hb3.frozen 2)).mono ?_
      rintro e u' w'' ⟨rfl, rfl, rfl⟩
      rw [Hr.out]
      have hszD : wC.drew.heap.size = w1.heap.size := hszC
      rw [hszD] at hPW hT2
      have hs2 : w1.heap.size ≤ w2.heap.size := by have := hB2.size; rw [hszD] at this; exact this
      have hold : ∀ k, k < w1.heap.size → k ≠ b → k ≠ A.R.rm → (w3.setCell ⟨b, 2, none⟩ (.int .i32 0)).heap[k]? = w1.heap[k]? := fun k hk hkb hkm =>
        (Below.heap_setCell _ _ _ _ hkb).trans ((hBu.block k hkm).trans ((hB2.block k (by rw [hszD]; exact hk)).trans (hoth k hkb)))
      have hwml := h.reads.rmap.lt
      have hbl := h.blk.lt
      refine ⟨_, results_tmp2 rfl _ _ _, τ', _, rfl, h.pushR h1 h8 hg hnd (by omega) (w' := w3.setCell ⟨b, 2, none⟩ (.int .i32 0)) rfl (hPW.frame (fun k hk hkl => (Below.heap_setCell _ _ _ _ (by simp only; omega)).trans (hBu.block k (by omega)))) hT2 hold ?_ (hM3.of_eq (Below.heap_setCell _ _ _ _ hrmb)), ?_⟩
      · have := hb3.set 2 (.int .i32 0)
        simpa [mu0, sem0] using this
      · refine ⟨hBu.os.trans (hB2.os.trans hosC.1), hBu.tape.trans (hB2.tape.trans hosC.2.1), hBu.output.trans (hB2.output.trans hosC.2.2), ?_, fun k hk => hT2 k (by omega), fun k hk hs => ?_⟩
        · have := hBu.size
          simp [World.setCell]; omega
        · exact hold k (by omega) (fun e => hs (by rw [e, h.tag])) (fun e => hs (by rw [e, h.reads.rmTag]))
  · have Hr : Hid (mRead s L = (0, mKeys L, s)) := by unfold Hid mRead; simp [hc]
    have hne : (mKeys L != 0) = true := by rw [bne_iff_ne]; exact hc
    generalize mKeys L = c at *
    unfold ptr
    clear hI hf
    go_enter_defers Tryz.func21, Tryz.ntmps21
    go_wp2_with fail
    refine cc.mono ?_
    rintro e w1 ⟨rfl, rfl⟩
    clear cc
    go_wp2_with fail
    rw [Hr.out]
    exact ⟨_, results_tmp2 rfl _ _ _, τ, A, rfl, h, Stp.refl _ _ _⟩

end
end Go.Proofs.YteoahlieielcdaaGreat
