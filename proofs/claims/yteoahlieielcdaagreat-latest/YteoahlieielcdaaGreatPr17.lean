/-
  The program: Write.
-/
import Derived.Test.YteoahlieielcdaaGreatPr16
namespace Go.Proofs.YteoahlieielcdaaGreat
open Go Go.RowKit Go.MuLone
open Go.Maps (Keyed)

section
variable {w : World} {τ : Nat → Tag} {sid b : Nat} {s : MS} {A : SA} {L : List KV}

theorem writesF_keys (hlen : s.ws.length ≤ 200) : ∀ kl, writesF s A kl ≠ none → kl ∈ intKeys := by
  intro kl h
  cases kl with
  | int k n =>
    cases k <;> try exact absurd rfl h
    simp only [writesF] at h
    cases hf : mFind s n with
    | none => rw [hf] at h; exact absurd rfl h
    | some m => obtain ⟨h1, h2, _⟩ := mFind_some' hf; exact mem_intKeys (by omega) (by omega)
  | _ => exact absurd rfl h

def PWPost (w : World) (τ : Nat → Tag) (sid b : Nat) (r : Int × Int × MS) (e : Ending) (w' : World) : Prop :=
  ∃ τ' A', e = .returned (.tuple #[.int .i64 r.1, .int .i64 r.2.1]) ∧ RepS w' τ' sid b r.2.2 A' ∧ Stp sid τ w τ' w'

theorem stp_below {s : Nat} {τ : Nat → Tag} {w w' : World} (h : Below w.heap.size w w') : Stp s τ w τ w' := ⟨h.os, h.tape, h.output, h.size, fun _ _ => rfl, fun k hk _ => h.block k hk⟩

theorem check_items {L : List KV} (h : mCheck L = 0) : 1 ≤ L.length ∧ L.length ≤ 8 ∧ ∀ x ∈ L, goodKV x = true := by
  unfold mCheck at h
  split at h
  · cases h
  · exact ⟨by omega, by omega, check_good h⟩

set_option maxRecDepth 100000 in
set_option maxHeartbeats 2000000 in
theorem pWrite (h : RepS w τ sid b s A) (a : Option Addr) (cap : Nat) (hL : L.length ≤ maxLen) (hc8 : L.length ≤ cap) (hcm : cap ≤ maxLen) (hz : sizesOk L) (hI : ItemsAt w a L) (hf : ∀ ib io, a = some ⟨ib, io, none⟩ → (τ ib).1 ≠ sid) :
    Calls Tryz.prog 26 #[ptr b, .slice a L.length cap] w (PWPost w τ sid b (mWrite s L)) := by
  have cc := checkItems_any a L cap hL hc8 hcm hz hI
  by_cases hc : mCheck L = 0
  · obtain ⟨h1, h8, hg⟩ := check_items hc
    rw [hc] at cc
    obtain ⟨gb, go, rfl, hc0, _⟩ := hI 0 L[0] (List.getElem?_eq_getElem (by omega))
    have hgb : gb < w.heap.size := World.block_lt_of_cell? w _ hc0
    have hgs := hf gb go rfl
    have hcell : ∀ (k : Nat) (x : KV), L[k]? = some x → w.cell? ⟨gb, go + k * 2, none⟩ = some (.string x.1) ∧ w.cell? ⟨gb, go + k * 2 + 1, none⟩ = some (.string x.2) := fun k x hx => by
      obtain ⟨ib', io', e, r⟩ := hI k x hx
      cases e
      exact r
    have hlen := h.ok.len
    have hp1 := h.ok.p1
    have hp4 := h.ok.p4
    by_cases hfull : 200 ≤ s.ws.length
    · have Hr : Hid (mWrite s L = (0, 6, s)) := by unfold Hid mWrite; rw [hc]; simp [hfull]
      unfold ptr
      clear hcell hI hf
      go_enter_defers Tryz.func26, Tryz.ntmps26
      go_wp2_with fail
      refine cc.mono ?_
      rintro e w1 ⟨rfl, hB⟩
      have hR := h.below hB
      have c2 : w1.cell? ⟨b, 2, none⟩ = some (.int .i32 0) := hR.blk.cell (o := 2) rfl
      have f2 := hR.blk.frozen 2
      have hb1 := hR.blk.set 2 (.int .i32 1)
      have c4 : (w1.setCell ⟨b, 2, none⟩ (.int .i32 1)).cell? ⟨b, 4, none⟩ = some (.int .i64 s.ws.length) := hb1.cell (o := 4) rfl
      have hSame := lock_round hR.blk (o := 2) rfl (.int .i32 1)
      unfold mu0 at hSame
      clear cc
      go_wp2_with fail
      refine (lock_free Tryz.muLib ⟨b, 2, none⟩ _ c2 f2).mono ?_
      rintro e w' ⟨rfl, rfl⟩
      go_wp2_with fail
      refine leaves_cons (f := 38) (args := #[.pointer (some ⟨b, 2, none⟩)]) (by simp) (by simp [go_sem]) ?_
      refine (unlock_deferred Tryz.muLib ⟨b, 2, none⟩ .returning _ (hb1.cell (o := 2) rfl) (hb1.frozen 2)).mono ?_
      rintro e u' w'' ⟨rfl, rfl, rfl⟩
      rw [Hr.out]
      exact ⟨_, results_tmp2 rfl _ _ _, τ, A, rfl, hR.same hSame, (stp_below hB).trans (hSame.stp _ _)⟩
    · have Hr : Hid (mWrite s L = ((s.ws.length : Int) + 1, 0, pushMS s L)) := by
        unfold Hid mWrite; rw [hc]; simp only [ne_eq, not_true, if_false, if_neg hfull]; rfl
      unfold ptr
      clear hI hf
      go_enter_defers Tryz.func26, Tryz.ntmps26
      go_wp2_with fail
      refine cc.mono ?_
      rintro e w1 ⟨rfl, hB⟩
      have hR := h.below hB
      have c2 : w1.cell? ⟨b, 2, none⟩ = some (.int .i32 0) := hR.blk.cell (o := 2) rfl
      have f2 := hR.blk.frozen 2
      have hb1 := hR.blk.set 2 (.int .i32 1)
      have c4 : (w1.setCell ⟨b, 2, none⟩ (.int .i32 1)).cell? ⟨b, 4, none⟩ = some (.int .i64 s.ws.length) := hb1.cell (o := 4) rfl
      have f4 : (w1.setCell ⟨b, 2, none⟩ (.int .i32 1)).frozen? ⟨b, 4, none⟩ = false := hb1.frozen 4
      have hb2 := hb1.set 4 (.int .i64 ((s.ws.length : Int) + 1))
      clear cc
      go_wp2_with fail
      refine (lock_free Tryz.muLib ⟨b, 2, none⟩ _ c2 f2).mono ?_
      rintro e w' ⟨rfl, rfl⟩
      have hbne : gb ≠ b := fun e => hgs (by rw [e, h.tag])
      have hoth : ∀ k, k ≠ b → ((w1.setCell ⟨b, 2, none⟩ (.int .i32 1)).setCell ⟨b, 4, none⟩ (.int .i64 ((s.ws.length : Int) + 1))).heap[k]? = w1.heap[k]? := fun k hk => (Below.heap_setCell _ _ _ _ hk).trans (Below.heap_setCell _ _ _ _ hk)
      have hszC : ((w1.setCell ⟨b, 2, none⟩ (.int .i32 1)).setCell ⟨b, 4, none⟩ (.int .i64 ((s.ws.length : Int) + 1))).heap.size = w1.heap.size := by simp [World.setCell]
      have hosC : ((w1.setCell ⟨b, 2, none⟩ (.int .i32 1)).setCell ⟨b, 4, none⟩ (.int .i64 ((s.ws.length : Int) + 1))).os = w1.os ∧ ((w1.setCell ⟨b, 2, none⟩ (.int .i32 1)).setCell ⟨b, 4, none⟩ (.int .i64 ((s.ws.length : Int) + 1))).tape = w1.tape ∧ ((w1.setCell ⟨b, 2, none⟩ (.int .i32 1)).setCell ⟨b, 4, none⟩ (.int .i64 ((s.ws.length : Int) + 1))).output = w1.output := ⟨rfl, rfl, rfl⟩
      go_wp2_with fail
      generalize (w1.setCell ⟨b, 2, none⟩ (.int .i32 1)).setCell ⟨b, 4, none⟩ (.int .i64 ((s.ws.length : Int) + 1)) = wC at *
      have s0 : wC.cell? ⟨b, 0, none⟩ = some (.int .i64 s.mode) := hb2.cell (o := 0) rfl
      have s1 : wC.cell? ⟨b, 1, none⟩ = some A.parr := hb2.cell (o := 1) rfl
      have s4 : wC.cell? ⟨b, 4, none⟩ = some (.int .i64 ((s.ws.length : Int) + 1)) := hb2.cell (o := 4) rfl
      have s5 : wC.cell? ⟨b, 6, none⟩ = some (.map (some A.wm)) := hb2.cell (o := 6) rfl
      have hparr : wC.ownsRow 0 130 1 A.parr s.parts ((List.range s.parts).map (fun q => ptr (A.pb q))) := row_of_block hR.parr (fun k hk => hoth k (fun e => by have h1 := h.parrTag k hk; rw [e, h.tag] at h1; simp at h1))
      have hcellC : ∀ (k : Nat) (x : KV), L[k]? = some x → wC.cell? ⟨gb, go + k * 2, none⟩ = some (.string x.1) ∧ wC.cell? ⟨gb, go + k * 2 + 1, none⟩ = some (.string x.2) := fun k x hx =>
        ⟨(World.cell?_of_block (w := w1) (hoth gb hbne)).trans ((hB.cell (p := ⟨gb, go + k * 2, none⟩) hgb).trans (hcell k x hx).1), (World.cell?_of_block (w := w1) (hoth gb hbne)).trans ((hB.cell (p := ⟨gb, go + k * 2 + 1, none⟩) hgb).trans (hcell k x hx).2)⟩
      have cn := newWrite_any (w := wC.drew) (τ := τ) (sid := sid) (i := s.ws.length) (P := s.parts) (pb := A.pb) (L := L) b s.mode s0 A.parr s1 hparr hp1 hp4 gb go cap h1 h8 hg hcellC
      unfold ptr at cn
      have hwmb : A.wm ≠ b := fun e => by have h1 := h.wmTag; rw [e, h.tag] at h1; simp at h1
      have hMC : MapF wC Tryz.prog 3 A.wm (writesF s A) := hR.wmap.of_eq (hoth _ hwmb)
      have hbC := hb2.lt
      have hn1 : -9223372036854775808 ≤ (s.ws.length : Int) + 1 := by omega
      have hn2 : (s.ws.length : Int) + 1 ≤ 9223372036854775807 := by omega
      clear hcell hcellC hparr c4 f4 s0
      go_region_held3 (fun W => W.cell? ⟨b, 4, none⟩ = some (.int .i64 ((s.ws.length : Int) + 1)) ∧ W.cell? ⟨b, 6, none⟩ = some (.map (some A.wm))) (simp [*]) ((go_at_call 48; refine cn.mono ?_; rintro e w2 ⟨τ', pw, sm, sh, iv, sv, kv, rfl, hPW, hsv1, hB2, hT2⟩; have k4 := (hB2.cell (p := ⟨b, 4, none⟩) hbC).trans s4; have k5 := (hB2.cell (p := ⟨b, 6, none⟩) hbC).trans s5; obtain ⟨w3, hup, hM3, hTu⟩ := (hMC.of_eq (w' := w2) (hB2.block _ hMC.lt)).store (t := 102) (e := 118) keyInt Tryz.underlying102 intKeys (writesF_keys hlen) intKeys_len (keyOf_int hn1 hn2) (.pointer (some ⟨pw, 0, none⟩)); have hBu := But.of_turned hTu; have m4 := (World.cell?_of_block (w := w2) (a := ⟨b, 4, none⟩) (hBu.block b (fun e => hwmb e.symm))).trans k4; have m5 := (World.cell?_of_block (w := w2) (a := ⟨b, 6, none⟩) (hBu.block b (fun e => hwmb e.symm))).trans k5))
      clear cn
      go_wp2_with fail
      have hb3 : Blk w3 b _ _ := (hb2.of_eq (hB2.block b hbC)).of_eq (hBu.block b (fun e => hwmb e.symm))
      refine leaves_cons (f := 38) (args := #[.pointer (some ⟨b, 2, none⟩)]) (by simp) (by simp [go_sem]) ?_
      refine (unlock_deferred Tryz.muLib ⟨b, 2, none⟩ .returning _ (hb3.cell (o := 2) rfl) (hb3.frozen 2)).mono ?_
      rintro e u' w'' ⟨rfl, rfl, rfl⟩
      rw [Hr.out]
      have hszD : wC.drew.heap.size = w1.heap.size := hszC
      rw [hszD] at hPW hT2
      have hs2 : w1.heap.size ≤ w2.heap.size := by have := hB2.size; rw [hszD] at this; exact this
      have hszw := hB.size
      have hold : ∀ k, k < w1.heap.size → k ≠ b → k ≠ A.wm → (w3.setCell ⟨b, 2, none⟩ (.int .i32 0)).heap[k]? = w1.heap[k]? := fun k hk hkb hkm =>
        (Below.heap_setCell _ _ _ _ hkb).trans ((hBu.block k hkm).trans ((hB2.block k (by rw [hszD]; exact hk)).trans (hoth k hkb)))
      have hwml := hR.wmap.lt
      have hbl := hR.blk.lt
      refine ⟨_, results_tmp2 rfl _ _ _, τ', _, rfl, hR.push h8 hg (by omega) (w' := w3.setCell ⟨b, 2, none⟩ (.int .i32 0)) hsv1 (hPW.frame (fun k hk hkl => (Below.heap_setCell _ _ _ _ (by simp only; omega)).trans (hBu.block k (by omega)))) hT2 hold ?_ (hM3.of_eq (Below.heap_setCell _ _ _ _ hwmb)), ?_⟩
      · have := hb3.set 2 (.int .i32 0)
        simpa [mu0, sem0] using this
      · refine ⟨hBu.os.trans (hB2.os.trans (hosC.1.trans hB.os)), hBu.tape.trans (hB2.tape.trans (hosC.2.1.trans hB.tape)), hBu.output.trans (hB2.output.trans (hosC.2.2.trans hB.output)), ?_, fun k hk => hT2 k (by omega), fun k hk hs => ?_⟩
        · have := hBu.size
          simp [World.setCell]; omega
        · exact (hold k (by omega) (fun e => hs (by rw [e, h.tag])) (fun e => hs (by rw [e, h.wmTag]))).trans (hB.block k hk)
  · have Hr : Hid (mWrite s L = (0, mCheck L, s)) := by unfold Hid mWrite; simp [hc]
    have hne : (mCheck L != 0) = true := by rw [bne_iff_ne]; exact hc
    generalize mCheck L = c at *
    unfold ptr
    clear hI hf
    go_enter_defers Tryz.func26, Tryz.ntmps26
    go_wp2_with fail
    refine cc.mono ?_
    rintro e w1 ⟨rfl, hB⟩
    clear cc
    go_wp2_with fail
    rw [Hr.out]
    exact ⟨_, results_tmp2 rfl _ _ _, τ, A, rfl, h.below hB, stp_below hB⟩

end
end Go.Proofs.YteoahlieielcdaaGreat
