/-
  The document's answer: Write.
-/
import Derived.Test.YteoahlieielcdaaGreatRef4
namespace Go.Proofs.YteoahlieielcdaaGreat
open Go Go.RowKit

theorem infoItem : (Tryz.prog.info? 70).map (fun i => (i.zero, i.size, i.bytes)) = some (some (.agg #[.string ByteArray.empty, .string ByteArray.empty]), 2, 32) := by kernel_rfl
theorem infoWPtr : (Tryz.prog.info? 180).map (fun i => (i.zero, i.size, i.bytes)) = some (some (.pointer none), 1, 8) := by kernel_rfl

section
variable {w : World} {τ : Nat → Tag} {sid b : Nat} {s : MS} {A : RA}

/-- behind an append to the new write's items: its block is as it was, so is all that is old -/
theorem rw_after {w wr w2 : World} {k : Nat} {L : List KV} {av : Option Addr} {capv nq : Nat} {o : Obj} {c : Array Value} (hB : Below w.heap.size w wr) (hW : Blk wr w.heap.size c 184)
    (hO : wr.ownsRow (w.heap.size + 1) 70 2 (.slice av k capv) k (kvCells (L.take k))) (hG : ((wr.drewN nq).alloc o).grownBy w2 (Value.slice av k capv).ownBlock) :
    Blk w2 w.heap.size c 184 ∧ Below w.heap.size w w2 := by
  have hlt := hW.lt
  have hne : ∀ i, i ≤ w.heap.size → some i ≠ (Value.slice av k capv).ownBlock := fun i hi e => by have := (row_ge hO i e.symm).1; omega
  have hbl : ∀ i, i ≤ w.heap.size → w2.heap[i]? = wr.heap[i]? := fun i hi =>
    (hG.block i (by simp; omega) (hne i hi)).trans (Below.heap_alloc (wr.drewN nq) o i (by simp; omega))
  exact ⟨hW.of_eq (hbl _ (Nat.le_refl _)), ⟨hG.os.trans hB.os, hG.tape.trans hB.tape, hG.output.trans hB.output, Nat.le_trans hB.size (by have := hG.size; simp at this; omega), fun i hi => (hbl i (by omega)).trans (hB.block i hi)⟩⟩

theorem Stp.of_below {s : Nat} {τ : Nat → Tag} {w w' : World} (h : Below w.heap.size w w') : Stp s τ w τ w' := ⟨h.os, h.tape, h.output, h.size, fun _ _ => rfl, fun k hk _ => h.block k hk⟩

/-- WHAT A STORE OWNS IS AS IT WAS: so is the store. -/
theorem RepR.frame (h : RepR w τ sid b s A) {w' : World} {τ' : Nat → Tag} (hf : ∀ k, k < w.heap.size → (τ k).1 = sid → w'.heap[k]? = w.heap[k]? ∧ τ' k = τ k) : RepR w' τ' sid b s A := by
  have hblk : ∀ {k : Nat} {c : Array Value} {t : TypeId} {g : Nat × Nat}, Blk w k c t → τ k = (sid, g) → Blk w' k c t ∧ τ' k = (sid, g) := by
    intro k c t g hb ht
    obtain ⟨e1, e2⟩ := hf k hb.lt (by rw [ht])
    exact ⟨hb.of_eq e1, e2.trans ht⟩
  have hrow : ∀ {e : TypeId} {sz : Nat} {v : Value} {n : Nat} {xs : List Value} {g : Nat × Nat}, w.ownsRow 0 e sz v n xs → (∀ k, v.ownBlock = some k → τ k = (sid, g)) → w'.ownsRow 0 e sz v n xs ∧ ∀ k, v.ownBlock = some k → τ' k = (sid, g) := by
    intro e sz v n xs g ho hv
    refine ⟨row_of_block ho (fun k hk => (hf k (row_ge ho k hk).2 (by rw [hv k hk])).1), fun k hk => ?_⟩
    rw [(hf k (row_ge ho k hk).2 (by rw [hv k hk])).2, hv k hk]
  refine ⟨h.ok, (hblk h.blk h.tag).1, (hblk h.blk h.tag).2, (hrow h.arr h.arrTag).1, (hrow h.arr h.arrTag).2, fun i m hm => (hblk (h.wr i m hm) (h.wrTag i (lt_of_some hm))).1, fun i hi => ?_, fun i m hm => (hrow (h.it i m hm) (fun k => h.itTag i k (lt_of_some hm))).1, fun i k hi hk => ?_, ?_⟩
  · obtain ⟨m, hm⟩ : ∃ m, s.ws[i]? = some m := ⟨_, List.getElem?_eq_getElem hi⟩
    exact (hblk (h.wr i m hm) (h.wrTag i hi)).2
  · obtain ⟨m, hm⟩ : ∃ m, s.ws[i]? = some m := ⟨_, List.getElem?_eq_getElem hi⟩
    exact (hrow (h.it i m hm) (fun k => h.itTag i k hi)).2 k hk
  · exact h.reads.frame (fun k hk h1 _ => hf k hk h1)
theorem RepR.below (h : RepR w τ sid b s A) {w' : World} (hb : Below w.heap.size w w') : RepR w' τ sid b s A := h.frame (fun k hk _ => ⟨hb.block k hk, rfl⟩)

/-- the tags behind a new write: its own block, its items', the array's -/
def pushTag (τ : Nat → Tag) (sid n wb : Nat) (iv arr : Value) : Nat → Tag := fun k =>
  if k = wb then (sid, 2, n) else if iv.ownBlock = some k then (sid, 3, n) else if arr.ownBlock = some k then (sid, 1, 0) else τ k
def pushRA (A : RA) (n wb : Nat) (iv arr : Value) : RA :=
  { arr := arr, rv := A.rv, wb := fun j => if j = n then wb else A.wb j, iv := fun j => if j = n then iv else A.iv j, B := A.B }

/-- A WRITE MORE. -/
theorem RepR.push (h : RepR w τ sid b s A) {L : List KV} (hl8 : L.length ≤ 8) (hlg : ∀ x ∈ L, goodKV x = true) (hlen : s.ws.length < 200) {w' : World} {wb : Nat} {iv arr : Value}
    (hwb : w.heap.size ≤ wb) (hiv : ∀ k, iv.ownBlock = some k → w.heap.size ≤ k ∧ k ≠ wb) (harr : ∀ k, arr.ownBlock = some k → A.arr.ownBlock = some k ∨ (w.heap.size ≤ k ∧ k ≠ wb ∧ iv.ownBlock ≠ some k))
    (hold : ∀ k, k < w.heap.size → k ≠ b → A.arr.ownBlock ≠ some k → w'.heap[k]? = w.heap[k]?)
    (hb : Blk w' b #[.int .i64 s.parts, .int .i64 s.mode, arr, A.rv] 188)
    (ha : w'.ownsRow 0 180 1 arr (s.ws.length + 1) ((List.range s.ws.length).map (fun i => ptr (A.wb i)) ++ [ptr wb]))
    (hw : Blk w' wb (mwCells iv (newMW L)) 184) (hi : w'.ownsRow 0 70 2 iv L.length (kvCells L)) :
    RepR w' (pushTag τ sid s.ws.length wb iv arr) sid b { s with ws := s.ws ++ [newMW L] } (pushRA A s.ws.length wb iv arr) ∧
      (∀ k, k < w.heap.size → pushTag τ sid s.ws.length wb iv arr k = τ k) := by
  have htag : ∀ k, k < w.heap.size → pushTag τ sid s.ws.length wb iv arr k = τ k := by
    intro k hk
    unfold pushTag
    rw [if_neg (by omega), if_neg (fun e => by have := (hiv k e).1; omega)]
    split
    · rename_i e
      rcases harr k e with e1 | e1
      · rw [h.arrTag k e1]
      · omega
    · rfl
  have hbs : b < w.heap.size := h.blk.lt
  have hin : ∀ {i : Nat} {m : MW}, (s.ws ++ [newMW L])[i]? = some m → (i < s.ws.length ∧ s.ws[i]? = some m) ∨ (i = s.ws.length ∧ m = newMW L) := by
    intro i m hm
    by_cases e : i < s.ws.length
    · rw [List.getElem?_append_left e] at hm; exact Or.inl ⟨e, hm⟩
    · rw [List.getElem?_append_right (by omega)] at hm
      have hi' := lt_of_some hm
      simp at hi'
      have : i = s.ws.length := by omega
      subst this
      simp at hm
      exact Or.inr ⟨rfl, hm.symm⟩
  have hne : ∀ {k : Nat} {a c : Nat}, τ k = (sid, a, c) → (a ≠ 0) → (a ≠ 1) → k < w.heap.size → w'.heap[k]? = w.heap[k]? := by
    intro k a c ht h0 h1 hk
    refine hold k hk (fun e => ?_) (fun e => ?_)
    · rw [e, h.tag] at ht; simp at ht; omega
    · rw [h.arrTag k e] at ht; simp at ht; omega
  refine ⟨⟨⟨h.ok.p1, h.ok.p4, by simp; omega, fun i m hm => ?_, h.ok.keys, h.ok.opn⟩, hb, ?_, ?_, fun k hk => ?_, fun i m hm => ?_, fun i hi' => ?_, fun i m hm => ?_, fun i k hi' hk => ?_, h.reads.frame (fun k hk h1 h4 => ⟨hne (a := (τ k).2.1) (c := (τ k).2.2) (by rw [← h1]) (by omega) (by omega) hk, htag k hk⟩)⟩, htag⟩
  · rcases hin hm with ⟨_, e⟩ | ⟨_, rfl⟩
    · exact h.ok.items i m e
    · exact ⟨hl8, hlg⟩
  · rw [htag b hbs, h.tag]
  · have e : (List.range (s.ws ++ [newMW L]).length).map (fun i => ptr ((pushRA A s.ws.length wb iv arr).wb i)) = (List.range s.ws.length).map (fun i => ptr (A.wb i)) ++ [ptr wb] := by
      rw [List.length_append, List.length_singleton, List.range_succ, List.map_append]
      congr 1
      · refine List.map_congr_left (fun i hi' => ?_)
        have : i ≠ s.ws.length := by have := List.mem_range.1 hi'; omega
        simp [pushRA, this]
      · simp [pushRA]
    rw [e]
    simpa [pushRA] using ha
  · have hk' : arr.ownBlock = some k := hk
    rcases harr k hk' with e | ⟨e1, e2, e3⟩
    · rw [htag k (row_ge h.arr k e).2, h.arrTag k e]
    · unfold pushTag
      rw [if_neg e2, if_neg e3, if_pos hk']
  · rcases hin hm with ⟨hi', e⟩ | ⟨rfl, rfl⟩
    · have hb0 := h.wr i m e
      have : i ≠ s.ws.length := by omega
      simp only [pushRA, this, if_false]
      exact hb0.of_eq (hne (h.wrTag i hi') (by omega) (by omega) hb0.lt)
    · simpa [pushRA] using hw
  · by_cases e : i = s.ws.length
    · subst e; simp [pushRA, pushTag]
    · have hi2 : i < s.ws.length := by simp at hi'; omega
      simp only [pushRA, e, if_false]
      obtain ⟨m, hm⟩ : ∃ m, s.ws[i]? = some m := ⟨_, List.getElem?_eq_getElem hi2⟩
      rw [htag _ (h.wr i m hm).lt, h.wrTag i hi2]
  · rcases hin hm with ⟨hi', e⟩ | ⟨rfl, rfl⟩
    · have : i ≠ s.ws.length := by omega
      simp only [pushRA, this, if_false]
      exact row_of_block (h.it i m e) (fun k hk => hne (h.itTag i k hi' hk) (by omega) (by omega) (row_ge (h.it i m e) k hk).2)
    · simpa [pushRA, newMW] using hi
  · by_cases e : i = s.ws.length
    · subst e
      simp only [pushRA, if_true] at hk
      unfold pushTag
      rw [if_neg (hiv k hk).2, if_pos hk]
    · have hi2 : i < s.ws.length := by simp at hi'; omega
      simp only [pushRA, e, if_false] at hk
      obtain ⟨m, hm⟩ : ∃ m, s.ws[i]? = some m := ⟨_, List.getElem?_eq_getElem hi2⟩
      rw [htag _ (row_ge (h.it i m hm) k hk).2, h.itTag i k hi2 hk]

/-- behind the append to the store's list of writes -/
theorem push_after (h : RepR w τ sid b s A) {w2 : World} {o : Obj} {aa : Option Addr} {ca : Nat} (hav : A.arr = .slice aa s.ws.length ca) (hG : (w.alloc o).grownBy w2 (Value.slice aa s.ws.length ca).ownBlock) :
    Blk w2 b #[.int .i64 s.parts, .int .i64 s.mode, A.arr, A.rv] 188 ∧ ∀ k, k < w.heap.size → A.arr.ownBlock ≠ some k → w2.heap[k]? = w.heap[k]? := by
  have hbl : ∀ k, k < w.heap.size → A.arr.ownBlock ≠ some k → w2.heap[k]? = w.heap[k]? := fun k hk hne =>
    (hG.block k (by simp; omega) (fun e => hne (by rw [hav, e]))).trans (Below.heap_alloc w o k hk)
  exact ⟨h.blk.of_eq (hbl b h.blk.lt (fun e => by have := h.arrTag b e; rw [h.tag] at this; simp at this)), hbl⟩

theorem push_done (h : RepR w τ sid b s A) {wr w2 : World} {iv v2 : Value} {L : List KV} {aa : Option Addr} {ca : Nat} {o : Obj} (hB : Below w.heap.size w wr) (hW : Blk wr w.heap.size (mwCells iv (newMW [])) 184)
    (hO : wr.ownsRow (w.heap.size + 1) 70 2 iv L.length (kvCells L)) (hl8 : L.length ≤ 8) (hlg : ∀ x ∈ L, goodKV x = true) (hlen : s.ws.length < 200) (hav : A.arr = .slice aa s.ws.length ca) (hG : (wr.alloc o).grownBy w2 (Value.slice aa s.ws.length ca).ownBlock)
    (hO2 : w2.ownsRow 0 180 1 v2 (s.ws.length + 1) ((List.range s.ws.length).map (fun i => ptr (A.wb i)) ++ [.pointer (some ⟨w.heap.size, 0, none⟩)]))
    (hA : v2.ownBlock = (Value.slice aa s.ws.length ca).ownBlock ∨ v2.ownBlock = some (wr.alloc o).heap.size) :
    ∃ τ' A', RepR (w2.setCell ⟨b, 2, none⟩ v2) τ' sid b { s with ws := s.ws ++ [newMW L] } A' ∧ Stp sid τ w τ' (w2.setCell ⟨b, 2, none⟩ v2) := by
  have hlt := hW.lt
  have hbs := h.blk.lt
  rw [← hav] at hG hA
  have harrlt : ∀ k, A.arr.ownBlock = some k → k < w.heap.size ∧ τ k = (sid, 1, 0) := fun k hk => ⟨(row_ge h.arr k hk).2, h.arrTag k hk⟩
  have hbl : ∀ k, k < wr.heap.size → A.arr.ownBlock ≠ some k → w2.heap[k]? = wr.heap[k]? := fun k hk hne =>
    (hG.block k (by simp; omega) (fun e => hne e.symm)).trans (Below.heap_alloc wr o k hk)
  have hset : ∀ k, k ≠ b → (w2.setCell ⟨b, 2, none⟩ v2).heap[k]? = w2.heap[k]? := fun k hk => Below.heap_setCell _ _ _ _ hk
  have hivge : ∀ k, iv.ownBlock = some k → w.heap.size + 1 ≤ k ∧ k < wr.heap.size := fun k hk => row_ge hO k hk
  have hbarr : A.arr.ownBlock ≠ some b := fun e => by have := h.arrTag b e; rw [h.tag] at this; simp at this
  have hbw2 : Blk w2 b #[.int .i64 s.parts, .int .i64 s.mode, A.arr, A.rv] 188 := h.blk.of_eq ((hbl b (by omega) hbarr).trans (hB.block b hbs))
  have hv2b : ∀ k, v2.ownBlock = some k → A.arr.ownBlock = some k ∨ (wr.heap.size < k) := fun k hk => by
    rcases hA with e | e
    · exact Or.inl (by rw [← e]; exact hk)
    · rw [hk] at e
      have := Option.some.inj e
      simp at this
      exact Or.inr (by omega)
  obtain ⟨r1, r2⟩ := h.push (L := L) (w' := w2.setCell ⟨b, 2, none⟩ v2) (wb := w.heap.size) (iv := iv) (arr := v2) hl8 hlg hlen (Nat.le_refl _)
    (fun k hk => by have := hivge k hk; omega)
    (fun k hk => by
      rcases hv2b k hk with e | e
      · exact Or.inl e
      · exact Or.inr ⟨by omega, by omega, fun e' => by have := hivge k e'; omega⟩)
    (fun k hk hkb hka => (hset k hkb).trans ((hbl k (by omega) hka).trans (hB.block k hk)))
    (by simpa using hbw2.set 2 v2)
    (row_of_block hO2 (fun k hk => hset k (fun e => by
      subst e
      rcases hv2b k hk with e | e
      · exact hbarr e
      · omega)))
    (hW.of_eq ((hset _ (by omega)).trans (hbl _ hlt (fun e => by have := (harrlt _ e).1; omega))))
    (row_base (row_of_block hO (fun k hk => by
      have := hivge k hk
      exact (hset k (by omega)).trans (hbl k (by omega) (fun e => by have := (harrlt _ e).1; omega)))) (fun _ _ => Nat.zero_le _))
  refine ⟨_, _, r1, ⟨hG.os.trans hB.os, hG.tape.trans hB.tape, hG.output.trans hB.output, ?_, r2, fun k hk hs => ?_⟩⟩
  · have h1 := hG.size
    have h2 := hB.size
    simp at h1
    simp [World.setCell]
    omega
  · rw [hset k (fun e => hs (by rw [e, h.tag]))]
    exact (hbl k (by omega) (fun e => hs (by rw [h.arrTag k e]))).trans (hB.block k hk)

def RWPost (w : World) (τ : Nat → Tag) (sid b : Nat) (r : Int × Int × MS) (e : Ending) (w' : World) : Prop :=
  ∃ τ' A', e = .returned (.tuple #[.int .i64 r.1, .int .i64 r.2.1]) ∧ RepR w' τ' sid b r.2.2 A' ∧ Stp sid τ w τ' w'

set_option maxRecDepth 100000 in
set_option maxHeartbeats 400000 in
theorem rWrite_size (h : RepR w τ sid b s A) (a : Option Addr) (L : List KV) (cap : Nat) (hL : L.length ≤ maxLen) (hs : L.length < 1 ∨ 8 < L.length) :
    Calls Tryz.prog 96 #[ptr b, .slice a L.length cap] w (RWPost w τ sid b (mWrite s L)) := by
  have Hr : Hid (mWrite s L = (0, 3, s)) := by unfold Hid mWrite; have : mCheck L = 3 := by unfold mCheck; rw [if_pos hs]
                                               rw [this]; simp
  unfold maxLen at hL
  unfold ptr
  by_cases h1 : L.length < 1
  · clear hs
    go_enter Tryz.func96, Tryz.ntmps96
    go_wp2
    go_ret2
    rw [Hr.out]
    exact ⟨τ, A, rfl, h, Stp.refl _ _ _⟩
  · have h2 : 8 < L.length := by omega
    clear hs
    go_enter Tryz.func96, Tryz.ntmps96
    go_wp2
    go_ret2
    rw [Hr.out]
    exact ⟨τ, A, rfl, h, Stp.refl _ _ _⟩

set_option maxRecDepth 100000 in
set_option maxHeartbeats 1000000 in
theorem rWrite_main (h : RepR w τ sid b s A) (ib io : Nat) (L : List KV) (cap : Nat) (h1 : 1 ≤ L.length) (h8 : L.length ≤ 8) (hz : sizesOk L)
    (hcell : ∀ (k : Nat) (x : KV), L[k]? = some x → w.cell? ⟨ib, io + k * 2, none⟩ = some (.string x.1) ∧ w.cell? ⟨ib, io + k * 2 + 1, none⟩ = some (.string x.2)) (hib : ib < w.heap.size) :
    Calls Tryz.prog 96 #[ptr b, .slice (some ⟨ib, io, none⟩) L.length cap] w (RWPost w τ sid b (mWrite s L)) := by
  have g1 : ¬ L.length < 1 := by omega
  have g2 : ¬ 8 < L.length := by omega
  obtain ⟨ii, hi, hz0, hz1, hz2⟩ := info_parts infoItem
  have HC : Hid (mCheck L = checkFrom [] L) := by unfold Hid mCheck; rw [if_neg (by omega)]
  unfold ptr
  go_enter Tryz.func96, Tryz.ntmps96
  go_wp2
  go_loopw [7] (fun u wr => ∃ (k : Nat) (iv : Value), k ≤ L.length ∧ u = .int .i64 k ∧ Hid (checkFrom [] L = checkFrom (L.take k) (L.drop k)) ∧ Below w.heap.size w wr ∧
      Blk wr w.heap.size (mwCells iv (newMW [])) 184 ∧ wr.ownsRow (w.heap.size + 1) 70 2 iv k (kvCells (L.take k))) (fun u _ => L.length - (intOf u).toNat)
  case atStart =>
    exact ⟨0, .slice none 0 0, Nat.zero_le _, rfl, by simp [Hid], (Below.refl _ _).alloc (Nat.le_refl _) _, Blk.new _ _ _, World.ownsRow_nil _ _ _ _⟩
  case round =>
    obtain ⟨k, iv, hk, rfl, HK, hB, hW, hO⟩ := hrel
    have hsz : w.heap.size < wr.heap.size := hW.lt
    by_cases hlt : k < L.length
    · have hx : L[k]? = some L[k] := List.getElem?_eq_getElem hlt
      obtain ⟨ck, cv⟩ := hcell k _ hx
      have ck' := hB.cell (p := ⟨ib, io + k * 2, none⟩) hib
      have cv' := hB.cell (p := ⟨ib, io + k * 2 + 1, none⟩) hib
      rw [ck] at ck'
      rw [cv] at cv'
      clear ck cv
      obtain ⟨hs1, hs2⟩ := hz _ (List.getElem_mem hlt)
      generalize L[k] = x at *
      obtain ⟨kk, vv⟩ := x
      simp only at ck' cv' hs1 hs2
      have cg := good_any kk wr hs1
      unfold maxLen at hs1 hs2
      by_cases hbad : goodKV (kk, vv) = false
      · have Hr : Hid (mWrite s L = (0, 4, s)) := by
          unfold Hid mWrite
          rw [HC.out, HK.out, drop_at hx, check_bad hbad]
          simp
        cases hgk : goodKey kk with
        | false =>
          rw [hgk] at cg
          clear hbad hgk hx hcell
          go_wp2_with (go_at_call 94; refine cg.mono ?_; rintro e w' ⟨rfl, rfl⟩)
          go_ret2
          rw [Hr.out]
          exact ⟨τ, A, rfl, h.below hB, Stp.of_below hB⟩
        | true =>
          have hv64 : ¬ vv.size ≤ 64 := fun e => by simp [goodKV, hgk, e] at hbad
          rw [hgk] at cg
          clear hbad hgk hx hcell
          go_wp2_with (go_at_call 94; refine cg.mono ?_; rintro e w' ⟨rfl, rfl⟩)
          go_ret2
          rw [Hr.out]
          exact ⟨τ, A, rfl, h.below hB, Stp.of_below hB⟩
      · have hg : goodKV (kk, vv) = true := by simpa using hbad
        have hg2 := goodKV_size hg
        have hgk : goodKey kk = true := by simp [goodKV] at hg; exact hg.1
        rw [hgk] at cg
        have hv64 : vv.size ≤ 64 := hg2.2.2
        go_wp2_with (go_at_call 94; refine cg.mono ?_; rintro e w' ⟨rfl, rfl⟩)
        go_loopw [9] (fun u w2 => ∃ (j nq : Nat), j ≤ k ∧ u = .int .i64 j ∧ w2 = w'.drewN nq ∧ Hid (∀ j' x, j' < j → L[j']? = some x → x.1 ≠ kk)) (fun u _ => k - (intOf u).toNat)
        case atStart => exact ⟨0, 0, Nat.zero_le _, rfl, rfl, fun j' x hj => by omega⟩
        case round =>
          obtain ⟨j, nq, hj, rfl, rfl, HN⟩ := hrel
          by_cases hjk : j < k
          · have hy : L[j]? = some L[j] := List.getElem?_eq_getElem (by omega)
            have cj := (hB.cell (p := ⟨ib, io + j * 2, none⟩) hib).trans (hcell j _ hy).1
            have hyy : L[j]? = some L[j] := hy
            generalize L[j] = y at *
            obtain ⟨kj, vj⟩ := y
            simp only at cj
            have hjL : j < L.length := by omega
            by_cases heq : kj = kk
            · have Hr : Hid (mWrite s L = (0, 5, s)) := by
                unfold Hid mWrite
                rw [HC.out, HK.out, drop_at hx, check_twice hg (hasKey_some hjk hy heq)]
                simp
              have hb := str_beq heq
              clear heq hy hyy hx hcell
              go_wp2_with fail
              go_quiet (fail)
              go_wp2_with fail
              go_ret2
              rw [Hr.out]
              exact ⟨τ, A, rfl, (h.below hB).frame (fun _ _ _ => ⟨rfl, rfl⟩), Stp.of_below (Below.drewN' (Below.drewN' hB _) _)⟩
            · have HN' : Hid (∀ j' x, j' < j + 1 → L[j']? = some x → x.1 ≠ kk) := by
                intro j' x' hj' hx'
                by_cases e : j' = j
                · subst e; rw [hy] at hx'; cases hx'; exact heq
                · exact HN.out j' x' (by omega) hx'
              have hb := str_bne heq
              clear heq hy hyy hx hcell
              go_wp2_with fail
              go_quiet (fail)
              go_wp2_with fail
              go_roundw
              case rel => exact ⟨j + 1, _, by omega, by go_num, rfl, HN'⟩
              case measure => simp [intOf]; omega
          · have hnk : hasKey (L.take k) kk = false := hasKey_none (fun j' x' hj' hx' => HN.out j' x' (by omega) hx')
            have HK' : Hid (checkFrom [] L = checkFrom (L.take (k + 1)) (L.drop (k + 1))) := by
              unfold Hid
              rw [HK.out, drop_at hx, check_go hg hnk, take_at hx]
            have HT : Hid (kvCells (L.take (k + 1)) = kvCells (L.take k) ++ [.string kk, .string vv]) := by
              unfold Hid
              rw [take_at hx, kvCells_snoc]
            clear hcell hx hnk
            obtain ⟨av, capv, hiv⟩ := row_len hO
            have c0 : w'.cell? ⟨w.heap.size, 0, none⟩ = some iv := hW.cell (o := 0) rfl
            have f0 := hW.frozen 0
            rw [hiv] at c0 hO
            have c0a : ∀ (o : Obj) (nq : Nat), ((w'.drewN nq).alloc o).cell? ⟨w.heap.size, 0, none⟩ = some (.slice av k capv) := fun o nq => by
              rw [World.cell?_of_block (w := w'.drewN nq) (Below.heap_alloc (w'.drewN nq) o w.heap.size hsz)]; exact c0
            go_wp2_with fail
            go_region_law (refine step_append_own_at rfl (.tmp 63) (.tmp 68) 68 rfl (w.heap.size + 1) 70 ii _ 2 32 Tryz.underlying68 hi hz0 hz1 hz2 rfl (by decide) (.slice av k capv) k (kvCells (L.take k)) rfl (hO.alloc _) ⟨_, 0, none⟩ 1 1 [.string kk, .string vv] rfl rfl (cell_two_new _ _ _ _) (by simp [Value.oneCell']) (by unfold maxLen; omega) (by omega) (by simp; omega) ?_; intro v2 w2 hO2 hG2 hN2 hA2; obtain ⟨hb2, hB2⟩ := rw_after hB hW hO hG2; have c2 := hb2.cell (o := 0) (v := iv) rfl; rw [hiv] at c2; have f2 := hb2.frozen 0; obtain ⟨g2, cap2, hv2, -⟩ := row_form hO2 (by omega); rw [hv2])
            all_goals
              go_wp2_with fail
              go_roundw
              case rel =>
                refine ⟨k + 1, _, by omega, by go_num, HK', hB2.setCell (p := ⟨w.heap.size, 0, none⟩) (Nat.le_refl _) _, hb2.set 0 _, ?_⟩
                rw [HT.out, ← hv2]
                exact row_of_block hO2 (fun k' hk' => Below.heap_setCell _ _ _ _ (by have := (row_ge hO2 k' hk').1; simp only; omega))
              case measure => simp [intOf]; omega
    · have hkL : k = L.length := by omega
      have H0 : Hid (mCheck L = 0) := by
        unfold Hid
        rw [HC.out, HK.out, hkL, List.drop_length]; rfl
      have hlg := check_all HK.out hkL H0.out HC.out
      rw [hkL, List.take_length] at hO
      clear hcell HK HC hkL
      have hlen := h.ok.len
      have hR := h.below hB
      by_cases hfull : 200 ≤ s.ws.length
      · have Hr : Hid (mWrite s L = (0, 6, s)) := by unfold Hid mWrite; rw [H0.out]; simp [hfull]
        obtain ⟨aa, ca, _, cA⟩ := hR.cArr
        go_wp2_with fail
        go_ret2
        rw [Hr.out]
        exact ⟨τ, A, rfl, hR, Stp.of_below hB⟩
      · obtain ⟨aa, ca, hav, cA⟩ := hR.cArr
        have fA := hR.blk.frozen 2
        have hbs : b < w.heap.size := h.blk.lt
        obtain ⟨pi, hpi, hp0, hp1, hp2⟩ := info_parts infoWPtr
        have hArr := hR.arr
        rw [hav] at hArr
        go_wp2_with (at_builtin; refine wpList_append_own_at _ rfl (.tmp 82) (.tmp 84) 185 rfl 0 180 pi _ 1 8 Tryz.underlying185 hpi hp0 hp1 hp2 rfl (by decide) (.slice aa s.ws.length ca) s.ws.length _ rfl (hArr.alloc _) ⟨_, 0, none⟩ 1 1 [.pointer (some ⟨w.heap.size, 0, none⟩)] rfl rfl (cell_one_new _ _ _) (by simp [Value.oneCell']) (by unfold maxLen; omega) (by omega) (Nat.zero_le _) ?_; intro v2 w2 hO2 hG2 hN2 hA2; obtain ⟨hb2, hrest⟩ := push_after hR hav hG2; have c2 := hb2.cell (o := 2) (v := A.arr) rfl; rw [hav] at c2; have f2 := hb2.frozen 2; obtain ⟨g2, cap2, hv2, -⟩ := row_form hO2 (by omega); rw [hv2])
        go_ret2
        have Hr : mWrite s L = ((s.ws.length : Int) + 1, 0, { s with ws := s.ws ++ [newMW L] }) := by
          unfold mWrite; rw [H0.out]; simp only [ne_eq, not_true, if_false, if_neg hfull]
        rw [Hr, ← hv2]
        obtain ⟨τ', A', r1, r2⟩ := push_done h hB hW hO h8 hlg (by omega) hav hG2 hO2 hA2
        exact ⟨τ', A', rfl, r1, r2⟩

/-- WRITE, whatever list comes in. -/
theorem rWrite (h : RepR w τ sid b s A) (a : Option Addr) (L : List KV) (cap : Nat) (hL : L.length ≤ maxLen) (hz : sizesOk L) (hI : ItemsAt w a L) :
    Calls Tryz.prog 96 #[ptr b, .slice a L.length cap] w (RWPost w τ sid b (mWrite s L)) := by
  by_cases hs : L.length < 1 ∨ 8 < L.length
  · exact rWrite_size h a L cap hL hs
  · obtain ⟨ib, io, rfl, c0, _⟩ := hI 0 L[0] (List.getElem?_eq_getElem (by omega))
    refine rWrite_main h ib io L cap (by omega) (by omega) hz (fun k x hx => ?_) (World.block_lt_of_cell? w _ c0)
    obtain ⟨ib', io', e, r⟩ := hI k x hx
    cases e
    exact r

end
end Go.Proofs.YteoahlieielcdaaGreat
