/-
  The statement Latest: what lies in memory beside the store.
-/
import Derived.Test.YteoahlieielcdaaGreatL5
namespace Go.Proofs.YteoahlieielcdaaGreat
open Go Go.RowKit Go.MuLone

structure LatM (w0 w : World) (τ : Nat → Tag) (sb xb : Nat) (s : MS) (A : SA) (wv : Value) (kb : Nat → Nat) (kv : Nat → Value) (p : Nat) (cm : Nat → Bool) (k : Nat) : Prop where
  rep : RepS w τ 2 sb s A
  env : Env w0 w τ
  x : Blk w xb #[ptr sb, wv, nilSlice] 32
  xTag : τ xb = (1, 21, 0)
  row : w.ownsRow w0.heap.size 45 1 wv k ((List.range k).map (fun j => ptr (kb j)))
  rowTag : ∀ q, wv.ownBlock = some q → τ q = (1, 22, 0)
  kn : ∀ j, j < k → Blk w (kb j) (knCells ((2 * j + 2 : Nat) : Int) (kv j) (latComm p (cm j))) 48
  knTag : ∀ j, j < k → τ (kb j) = (1, 20, j)

section
variable {w0 w w' : World} {τ τ' : Nat → Tag} {sb xb : Nat} {s s' : MS} {A A' : SA} {wv : Value} {kb : Nat → Nat} {kv : Nat → Value} {p : Nat} {cm : Nat → Bool} {k : Nat}

theorem LatM.xLow (h : LatM w0 w τ sb xb s A wv kb kv p cm k) : w0.heap.size ≤ xb := by
  rcases Nat.lt_or_ge xb w0.heap.size with e | e
  · have := h.env.tag0 xb e
    rw [h.xTag] at this; cases this
  · exact e
theorem LatM.frame (h : LatM w0 w τ sb xb s A wv kb kv p cm k) (hR : RepS w' τ' 2 sb s' A') (hE : Env w0 w' τ') (hb : ∀ q, q < w.heap.size → (τ q).1 = 1 → w'.heap[q]? = w.heap[q]? ∧ τ' q = τ q) : LatM w0 w' τ' sb xb s' A' wv kb kv p cm k := by
  refine ⟨hR, hE, h.x.of_eq (hb xb h.x.lt (by rw [h.xTag])).1, by rw [(hb xb h.x.lt (by rw [h.xTag])).2, h.xTag], row_of_block h.row (fun q hq => (hb q (row_ge h.row q hq).2 (by rw [h.rowTag q hq])).1), fun q hq => by rw [(hb q (row_ge h.row q hq).2 (by rw [h.rowTag q hq])).2, h.rowTag q hq], fun j hj => (h.kn j hj).of_eq (hb _ (h.kn j hj).lt (by rw [h.knTag j hj])).1, fun j hj => by rw [(hb _ (h.kn j hj).lt (by rw [h.knTag j hj])).2, h.knTag j hj]⟩
theorem LatM.step (h : LatM w0 w τ sb xb s A wv kb kv p cm k) (hR : RepS w' τ' 2 sb s' A') (hs : Stp 2 τ w τ' w') : LatM w0 w' τ' sb xb s' A' wv kb kv p cm k :=
  h.frame hR (h.env.stp hs (by decide)) (fun q hq e => ⟨hs.block q hq (by rw [e]; decide), hs.tag q hq⟩)
theorem LatM.below (h : LatM w0 w τ sb xb s A wv kb kv p cm k) (hB : Below w.heap.size w w') : LatM w0 w' τ sb xb s A wv kb kv p cm k :=
  h.frame (h.rep.below hB) (h.env.below' hB) (fun q hq _ => ⟨hB.block q hq, rfl⟩)
theorem LatM.box (h : LatM w0 w τ sb xb s A wv kb kv p cm k) (o : Obj) : LatM w0 (w.alloc o) (retag τ w.heap.size) sb xb s A wv kb kv p cm k :=
  h.frame (h.rep.box o) (h.env.alloc o) (fun q hq _ => ⟨Below.heap_alloc _ _ _ hq, by unfold retag; rw [if_neg (by omega)]⟩)
/-- new blocks that are nobody's -/
theorem LatM.fresh (h : LatM w0 w τ sb xb s A wv kb kv p cm k) (hB : Below w.heap.size w w') : LatM w0 w' (fresh τ w.heap.size) sb xb s A wv kb kv p cm k := by
  have hf : ∀ q, q < w.heap.size → Go.Proofs.YteoahlieielcdaaGreat.fresh τ w.heap.size q = τ q := fun q hq => by unfold Go.Proofs.YteoahlieielcdaaGreat.fresh; rw [if_neg (by omega)]
  refine h.frame (h.rep.frame (fun q hq _ => ⟨hB.block q hq, hf q hq⟩)) ⟨h.env.below.trans (hB.mono h.env.below.size), fun q hq => ?_⟩ (fun q hq _ => ⟨hB.block q hq, hf q hq⟩)
  have := h.env.below.size
  rw [hf q (by omega)]; exact h.env.tag0 q hq
/-- a write is committed -/
theorem LatM.known (h : LatM w0 w τ sb xb s A wv kb kv p cm k) (hp : p < 4) {j : Nat} (hj : j < k) : LatM w0 (w.setCell ⟨kb j, 2 + p, none⟩ (.bool true)) τ sb xb s A wv kb kv p (put cm j) k := by
  have hne : ∀ {q : Nat} {g : Tag}, τ q = g → g ≠ (1, 20, j) → (w.setCell ⟨kb j, 2 + p, none⟩ (.bool true)).heap[q]? = w.heap[q]? := fun {q g} ht hg => Below.heap_setCell _ _ _ _ (fun e => hg (by
    have e' : q = kb j := e
    rw [← ht, e', h.knTag j hj]))
  refine ⟨h.rep.frame (fun q hq e => ⟨hne (g := τ q) rfl (fun e' => by rw [e'] at e; cases e), rfl⟩), ⟨h.env.below.setCell (p := ⟨kb j, 2 + p, none⟩) ?_ _, h.env.tag0⟩, h.x.of_eq (hne h.xTag (by simp)), h.xTag, row_of_block h.row (fun q hq => hne (h.rowTag q hq) (by simp)), h.rowTag, fun i hi => ?_, h.knTag⟩
  · show w0.heap.size ≤ kb j
    rcases Nat.lt_or_ge (kb j) w0.heap.size with e | e
    · have := h.env.tag0 _ e
      rw [h.knTag j hj] at this; cases this
    · exact e
  · by_cases e : i = j
    · subst e
      have := (h.kn i hi).set (2 + p) (.bool true)
      rw [knCells_put hp] at this
      have e2 : put (latComm p (cm i)) p = latComm p (put cm i i) := by
        funext q
        simp only [put, latComm, if_true]
        by_cases e : q = p <;> simp [e]
      rw [e2] at this
      exact this
    · have : put cm j i = cm i := by unfold put; rw [if_neg e]
      rw [this]
      exact (h.kn i hi).of_eq (hne (h.knTag i hi) (fun e' => e (by have := congrArg (fun t : Tag => t.2.2) e'; simpa using this)))
/-- one write more -/
def latTag (τ : Nat → Tag) (n k : Nat) (rb : Option Nat) : Nat → Tag := fun q => if q = n then (1, 20, k) else if some q = rb then (1, 22, 0) else if n ≤ q then (0, 0, 0) else τ q
theorem LatM.push (h : LatM w0 w τ sb xb s A wv kb kv p cm k) (hk : cm k = false) (kvk : Value) {w2 : World} {v2 : Value} {o : Obj}
    (hG : ((w.alloc (.cells (knCells ((2 * k + 2 : Nat) : Int) kvk (fun _ => false)) 48)).alloc o).grownBy w2 wv.ownBlock)
    (hO : w2.ownsRow w0.heap.size 45 1 v2 (k + 1) ((List.range k).map (fun j => ptr (kb j)) ++ [ptr w.heap.size])) (hA : v2.ownBlock = wv.ownBlock ∨ v2.ownBlock = some (w.heap.size + 2)) :
    LatM w0 (w2.setCell ⟨xb, 1, none⟩ v2) (latTag τ w.heap.size k v2.ownBlock) sb xb s A v2 (fun j => if j = k then w.heap.size else kb j) (fun j => if j = k then kvk else kv j) p cm (k + 1) := by
  have hs2 : w.heap.size + 2 ≤ w2.heap.size := by have := hG.size; simp at this; omega
  have hxl := h.x.lt
  have hv2 : ∀ q, some q = v2.ownBlock → q ≠ w.heap.size ∧ (q < w.heap.size → τ q = (1, 22, 0)) := fun q hq => by
    rcases hA with e | e
    · rw [e] at hq
      exact ⟨fun e' => by have := (row_ge h.row q hq.symm).2; omega, fun _ => h.rowTag q hq.symm⟩
    · rw [e] at hq
      cases hq
      exact ⟨by omega, fun h' => by omega⟩
  have htag : ∀ q, q < w.heap.size → latTag τ w.heap.size k v2.ownBlock q = τ q := fun q hq => by
    unfold latTag
    rw [if_neg (by omega)]
    split
    · rename_i e
      exact ((hv2 q e).2 hq).symm
    · rw [if_neg (by omega)]
  have hold : ∀ q, q < w.heap.size → τ q ≠ (1, 22, 0) → q ≠ xb → (w2.setCell ⟨xb, 1, none⟩ v2).heap[q]? = w.heap[q]? := fun q hq ht hx =>
    (Below.heap_setCell _ _ _ _ hx).trans ((hG.block q (by simp; omega) (fun e => ht (h.rowTag q e.symm))).trans ((Below.heap_alloc _ _ _ (by simp; omega)).trans (Below.heap_alloc _ _ _ hq)))
  have hsz : (w2.setCell ⟨xb, 1, none⟩ v2).heap.size = w2.heap.size := by simp [World.setCell]
  refine ⟨h.rep.frame (fun q hq e => ⟨hold q hq (fun e' => by rw [e'] at e; cases e) (fun e' => by rw [e', h.xTag] at e; cases e), htag q hq⟩), ⟨⟨hG.os.trans h.env.below.os, hG.tape.trans h.env.below.tape, hG.output.trans h.env.below.output, by have := h.env.below.size; rw [hsz]; omega, fun q hq => ?_⟩, fun q hq => ?_⟩, ?_, by rw [htag xb hxl, h.xTag], ?_, fun q hq => ?_, fun j hj => ?_, fun j hj => ?_⟩
  · have hq' : q < w.heap.size := Nat.lt_of_lt_of_le hq h.env.below.size
    have ht := h.env.tag0 q hq
    exact (hold q hq' (by rw [ht]; simp) (fun e => by rw [e, h.xTag] at ht; cases ht)).trans (h.env.below.block q hq)
  · rw [htag q (Nat.lt_of_lt_of_le hq h.env.below.size)]; exact h.env.tag0 q hq
  · have hx2 : Blk w2 xb #[ptr sb, wv, nilSlice] 32 := h.x.of_eq ((hG.block xb (by simp; omega) (fun e => by have := h.rowTag xb e.symm; rw [h.xTag] at this; cases this)).trans ((Below.heap_alloc _ _ _ (by simp; omega)).trans (Below.heap_alloc _ _ _ hxl)))
    exact hx2.set 1 v2
  · have e : (List.range (k + 1)).map (fun j => ptr (if j = k then w.heap.size else kb j)) = (List.range k).map (fun j => ptr (kb j)) ++ [ptr w.heap.size] := by
      rw [List.range_succ, List.map_append]
      refine congr (congrArg _ (List.map_congr_left (fun j hj => ?_))) (by simp)
      have := List.mem_range.1 hj
      rw [if_neg (by omega)]
    rw [e]
    refine row_of_block hO (fun q hq => Below.heap_setCell _ _ _ _ (fun e => ?_))
    have e' : q = xb := e
    have h1 := (hv2 q hq.symm).2 (by rw [e']; exact hxl)
    rw [e', h.xTag] at h1; cases h1
  · unfold latTag
    rw [if_neg (hv2 q hq.symm).1, if_pos hq.symm]
  · by_cases e : j = k
    · subst e
      simp only [if_true]
      have hnk : Blk w2 w.heap.size _ _ := (Blk.new w (knCells ((2 * j + 2 : Nat) : Int) kvk (fun _ => false)) 48).of_eq ((hG.block w.heap.size (by simp; omega) (fun e => by have := (row_ge h.row _ e.symm).2; omega)).trans (Below.heap_alloc _ _ _ (by simp)))
      have e2 : latComm p (cm j) = fun _ => false := by funext q; simp [latComm, hk]
      rw [e2]
      exact hnk.of_eq (Below.heap_setCell _ _ _ _ (fun e => by simp only at e; omega))
    · simp only [e, if_false]
      have hb := h.kn j (by omega)
      exact hb.of_eq (hold _ hb.lt (by rw [h.knTag j (by omega)]; simp) (fun e' => by have := h.knTag j (by omega); rw [e', h.xTag] at this; cases this))
  · by_cases e : j = k
    · subst e
      simp only [if_true]
      unfold latTag
      rw [if_pos rfl]
    · simp only [e, if_false]
      rw [htag _ (h.kn j (by omega)).lt, h.knTag j (by omega)]
theorem LatM.get (h : LatM w0 w τ sb xb s A wv kb kv p cm k) {j : Nat} (hj : j < k) : ∃ g cap, wv = .slice (some ⟨g, 0, none⟩) k cap ∧ w.cell? ⟨g, j, none⟩ = some (.pointer (some ⟨kb j, 0, none⟩)) := by
  obtain ⟨g, cap, e, _, _, hc, _⟩ := row_form h.row (by omega)
  refine ⟨g, cap, e, ?_⟩
  rw [hc j (by omega), List.getElem?_map, List.getElem?_range hj]
  rfl
end

end Go.Proofs.YteoahlieielcdaaGreat
