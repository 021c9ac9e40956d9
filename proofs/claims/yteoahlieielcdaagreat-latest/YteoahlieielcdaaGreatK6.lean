/-
  The statement Orderly: what lies in memory beside the store.
-/
import Derived.Test.YteoahlieielcdaaGreatK5
namespace Go.Proofs.YteoahlieielcdaaGreat
open Go Go.RowKit Go.MuLone

/-- from n on a block is nobody's -/
def fresh (τ : Nat → Tag) (n : Nat) : Nat → Tag := fun k => if n ≤ k then (0, 0, 0) else τ k
theorem RepS.grown {w w2 : World} {τ : Nat → Tag} {sid b : Nat} {s : MS} {A : SA} {o : Obj} {rb : Option Nat} (h : RepS w τ sid b s A) (hG : (w.alloc o).grownBy w2 rb) (hrb : ∀ k, rb = some k → τ k = (0, 0, 0)) (hsid : sid ≠ 0) : RepS w2 (fresh τ w.heap.size) sid b s A :=
  h.frame (fun k hk e => ⟨(hG.block k (by simp; omega) (fun e' => by rw [hrb k e'.symm] at e; exact hsid e.symm)).trans (Below.heap_alloc _ _ _ hk), by unfold fresh; rw [if_neg (by omega)]⟩)
theorem Env.grown {w0 w w2 : World} {τ : Nat → Tag} {o : Obj} {rb : Option Nat} (h : Env w0 w τ) (hG : (w.alloc o).grownBy w2 rb) (hrb : ∀ k, rb = some k → w0.heap.size ≤ k) : Env w0 w2 (fresh τ w.heap.size) := by
  have hsz := h.below.size
  have hs2 : w.heap.size < w2.heap.size := by have := hG.size; simp at this; omega
  refine ⟨⟨hG.os.trans h.below.os, hG.tape.trans h.below.tape, hG.output.trans h.below.output, by omega, fun k hk => ?_⟩, fun k hk => ?_⟩
  · exact (hG.block k (by simp; omega) (fun e => by have := hrb k e.symm; omega)).trans ((Below.heap_alloc _ _ _ (by omega)).trans (h.below.block k hk))
  · unfold fresh; rw [if_neg (by omega)]; exact h.tag0 k hk

/-- the store of Orderly, its list of items, its table of parts -/
structure Ord (w1 w : World) (τ : Nat → Tag) (sb : Nat) (s : MS) (A : SA) (L : List ByteArray) (ig onb : Nat) (f : Nat → Bool) : Prop where
  rep : RepS w τ 2 sb s A
  env : Env w1 w τ
  it : ItemsAt w (some ⟨ig, 0, none⟩) (ordItems L)
  itTag : τ ig = (0, 0, 0)
  itL : ig < w.heap.size
  on : Blk w onb (onCells f) 46
  onTag : τ onb = (0, 0, 0)
  ne : onb ≠ ig

section
variable {w1 w w' : World} {τ τ' : Nat → Tag} {sb : Nat} {s s' : MS} {A A' : SA} {L : List ByteArray} {ig onb : Nat} {f : Nat → Bool}

theorem items_keep {a : Addr} {I : List KV} (h : ItemsAt w (some a) I) (hk : w'.heap[a.block]? = w.heap[a.block]?) : ItemsAt w' (some a) I := by
  intro k x hx
  obtain ⟨ib, io, e, r1, r2⟩ := h k x hx
  cases e
  exact ⟨ib, io, rfl, (World.cell?_of_block (w := w) (a := ⟨ib, io + k * 2, none⟩) hk).trans r1, (World.cell?_of_block (w := w) (a := ⟨ib, io + k * 2 + 1, none⟩) hk).trans r2⟩
theorem Ord.step (h : Ord w1 w τ sb s A L ig onb f) (hR : RepS w' τ' 2 sb s' A') (hs : Stp 2 τ w τ' w') : Ord w1 w' τ' sb s' A' L ig onb f :=
  ⟨hR, h.env.stp hs (by decide), items_keep h.it (hs.block ig h.itL (by rw [h.itTag]; decide)), by rw [hs.tag ig h.itL, h.itTag], Nat.lt_of_lt_of_le h.itL hs.size,
    h.on.of_eq (hs.block onb h.on.lt (by rw [h.onTag]; decide)), by rw [hs.tag onb h.on.lt, h.onTag], h.ne⟩
theorem Ord.below (h : Ord w1 w τ sb s A L ig onb f) (hB : Below w.heap.size w w') : Ord w1 w' τ sb s A L ig onb f :=
  ⟨h.rep.below hB, h.env.below' hB, items_keep h.it (hB.block ig h.itL), h.itTag, Nat.lt_of_lt_of_le h.itL hB.size, h.on.of_eq (hB.block onb h.on.lt), h.onTag, h.ne⟩
theorem Ord.put (h : Ord w1 w τ sb s A L ig onb f) {p : Nat} (hp : p < 4) (hl : w1.heap.size ≤ onb) : Ord w1 (w.setCell ⟨onb, p, none⟩ (.bool true)) τ sb s A L ig onb (Go.Proofs.YteoahlieielcdaaGreat.put f p) := by
  have hne : ∀ {k : Nat} {g : Nat × Nat}, τ k = (2, g) → (w.setCell ⟨onb, p, none⟩ (.bool true)).heap[k]? = w.heap[k]? := fun {k g} ht => Below.heap_setCell _ _ _ _ (fun e => by
    have e' : k = onb := e
    rw [e', h.onTag] at ht; simp at ht)
  refine ⟨h.rep.frame (fun k hk e => ⟨hne (g := (τ k).2) (by rw [← e]), rfl⟩), ⟨h.env.below.setCell (p := ⟨onb, p, none⟩) hl _, h.env.tag0⟩, items_keep h.it (Below.heap_setCell _ _ _ _ (fun e => h.ne e.symm)), h.itTag, by simpa [World.setCell] using h.itL, ?_, h.onTag, h.ne⟩
  have := h.on.set p (.bool true)
  rw [onCells_put hp] at this
  exact this
theorem Ord.onCell (h : Ord w1 w τ sb s A L ig onb f) {p : Nat} (hp : p < 4) : w.cell? ⟨onb, p, none⟩ = some (.bool (f p)) := h.on.cell (onCells_at hp)
end

end Go.Proofs.YteoahlieielcdaaGreat
