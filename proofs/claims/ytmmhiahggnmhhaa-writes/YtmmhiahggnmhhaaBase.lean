/-
  Our own ground for the walks: blocks with tags, a step of one owner, cells out of blocks. No program is named here.
-/
import Derived.WalkKit
import Derived.WalkSpells
import Derived.WalkLawsBesides
namespace Go.Proofs.Ytmmhiahggnmhhaa
open Go Go.RowKit

/-- A block of plain cells, nothing frozen. -/
def Blk (w : World) (b : Nat) (c : Array Value) (t : TypeId) : Prop := w.heap[b]? = some (.cells c t (0, 0))

theorem Blk.cell {w : World} {b : Nat} {c : Array Value} {t : TypeId} (h : Blk w b c t) {o : Nat} {v : Value} (hv : c[o]? = some v) : w.cell? ⟨b, o, none⟩ = some v := by
  unfold Blk at h
  simp [World.cell?, h, hv]
theorem Blk.frozen {w : World} {b : Nat} {c : Array Value} {t : TypeId} (h : Blk w b c t) (o : Nat) : w.frozen? ⟨b, o, none⟩ = false := by
  unfold Blk at h
  simp [World.frozen?, h]
theorem Blk.lt {w : World} {b : Nat} {c : Array Value} {t : TypeId} (h : Blk w b c t) : b < w.heap.size := (Array.getElem?_eq_some_iff.1 h).1
theorem Blk.of_eq {w w' : World} {b : Nat} {c : Array Value} {t : TypeId} (h : Blk w b c t) (e : w'.heap[b]? = w.heap[b]?) : Blk w' b c t := e.trans h
theorem Blk.set {w : World} {b : Nat} {c : Array Value} {t : TypeId} (h : Blk w b c t) (o : Nat) (v : Value) : Blk (w.setCell ⟨b, o, none⟩ v) b (c.setIfInBounds o v) t := by
  unfold Blk at h ⊢
  simp only [World.setCell, Array.getElem?_modify, h]
  simp
theorem Blk.new (w : World) (c : Array Value) (t : TypeId) : Blk (w.alloc (.cells c t)) w.heap.size c t := by
  show (w.heap.push _)[w.heap.size]? = _
  simp

/-- A tag: an owner, a kind, a place. -/
abbrev Tag := Nat × Nat × Nat

/-- A STEP OF OWNER s: no block has gone; tags stay; a block of another owner is as it was. -/
structure Stp (s : Nat) (τ : Nat → Tag) (w : World) (τ' : Nat → Tag) (w' : World) : Prop where
  os : w'.os = w.os
  tape : w'.tape = w.tape
  output : w'.output = w.output
  size : w.heap.size ≤ w'.heap.size
  tag : ∀ k, k < w.heap.size → τ' k = τ k
  block : ∀ k, k < w.heap.size → (τ k).1 ≠ s → w'.heap[k]? = w.heap[k]?

theorem Stp.refl (s : Nat) (τ : Nat → Tag) (w : World) : Stp s τ w τ w := ⟨rfl, rfl, rfl, Nat.le_refl _, fun _ _ => rfl, fun _ _ _ => rfl⟩
theorem Stp.trans {s : Nat} {τ τ1 τ2 : Nat → Tag} {w w1 w2 : World} (h : Stp s τ w τ1 w1) (k : Stp s τ1 w1 τ2 w2) : Stp s τ w τ2 w2 :=
  ⟨k.os.trans h.os, k.tape.trans h.tape, k.output.trans h.output, Nat.le_trans h.size k.size,
    fun i hi => (k.tag i (Nat.lt_of_lt_of_le hi h.size)).trans (h.tag i hi),
    fun i hi hs => (k.block i (Nat.lt_of_lt_of_le hi h.size) (by rw [h.tag i hi]; exact hs)).trans (h.block i hi hs)⟩
theorem Stp.drew {s : Nat} {τ τ' : Nat → Tag} {w w' : World} (h : Stp s τ w τ' w') : Stp s τ w τ' w'.drew := ⟨h.os, h.tape, h.output, h.size, h.tag, h.block⟩
/-- a new block of this owner's, whatever tag it gets -/
theorem Stp.alloc {s : Nat} {τ τ' : Nat → Tag} {w w' : World} (h : Stp s τ w τ' w') (o : Obj) (g : Tag) :
    Stp s τ w (fun k => if k = w'.heap.size then g else τ' k) (w'.alloc o) := by
  refine h.trans ⟨rfl, rfl, rfl, by simp, fun k hk => ?_, fun k hk _ => Below.heap_alloc _ _ _ hk⟩
  have : k ≠ w'.heap.size := by omega
  simp [this]
/-- a new block without a tag of its own -/
theorem Stp.alloc0 {s : Nat} {τ τ' : Nat → Tag} {w w' : World} (h : Stp s τ w τ' w') (o : Obj) : Stp s τ w τ' (w'.alloc o) :=
  h.trans ⟨rfl, rfl, rfl, by simp, fun _ _ => rfl, fun k hk _ => Below.heap_alloc _ _ _ hk⟩
/-- a store into a block of this owner's -/
theorem Stp.setCell {s : Nat} {τ τ' : Nat → Tag} {w w' : World} (h : Stp s τ w τ' w') {a : Addr} (ha : (τ' a.block).1 = s) (v : Value) : Stp s τ w τ' (w'.setCell a v) :=
  h.trans ⟨rfl, rfl, rfl, by simp [World.setCell], fun _ _ => rfl, fun k _ hs => Below.heap_setCell _ _ _ _ (fun e => hs (by rw [e]; exact ha))⟩
/-- a store into a block that is new since -/
theorem Stp.setNew {s : Nat} {τ τ' : Nat → Tag} {w w' : World} (h : Stp s τ w τ' w') {a : Addr} (ha : w.heap.size ≤ a.block) (v : Value) : Stp s τ w τ' (w'.setCell a v) := by
  refine ⟨h.os, h.tape, h.output, by simpa [World.setCell] using h.size, h.tag, fun k hk hs => ?_⟩
  rw [Below.heap_setCell _ _ _ _ (by omega)]
  exact h.block k hk hs
theorem Stp.grown {s : Nat} {τ τ' : Nat → Tag} {w w' w2 : World} {row : Option Nat} (h : Stp s τ w τ' w') (hg : w'.grownBy w2 row) (hr : ∀ k, row = some k → (τ' k).1 = s ∨ w.heap.size ≤ k) : Stp s τ w τ' w2 := by
  refine ⟨hg.os.trans h.os, hg.tape.trans h.tape, hg.output.trans h.output, Nat.le_trans h.size hg.size, h.tag, fun k hk hs => ?_⟩
  rw [hg.block k (Nat.lt_of_lt_of_le hk h.size) (fun e => ?_)]
  · exact h.block k hk hs
  · rcases hr k e.symm with e1 | e1
    · rw [h.tag k hk] at e1; exact hs e1
    · omega
theorem Stp.blk {s : Nat} {τ τ' : Nat → Tag} {w w' : World} (h : Stp s τ w τ' w') {b : Nat} {c : Array Value} {t : TypeId} (hb : Blk w b c t) (hs : (τ b).1 ≠ s) : Blk w' b c t := hb.of_eq (h.block b hb.lt hs)

/-- an ending that is an integer -/
theorem ret_int {k : IntKind} {a b : Int} (h : a = b) : Ending.returned (.int k a) = .returned (.int k b) := by rw [h]
theorem ret_bool {a b : Bool} (h : a = b) : Ending.returned (.bool a) = .returned (.bool b) := by rw [h]

theorem wrap_id {n : Int} (h : -9223372036854775808 ≤ n) (h' : n ≤ 9223372036854775807) : wrap64 n = n := by unfold wrap64; omega
theorem wrap_byte (c : UInt8) : wrap64 (c.toNat : Int) = (c.toNat : Int) := wrap_id (by omega) (by have := c.toNat_lt; omega)

#print axioms Stp.grown
end Go.Proofs.Ytmmhiahggnmhhaa
