/-
  How a store of the document's answer lies in memory: blocks with tags. The look for a write.
-/
import Derived.Test.YtmmhiahggnmhhaaRef1
namespace Go.Proofs.Ytmmhiahggnmhhaa
open Go Go.RowKit

def mwCells (iv : Value) (m : MW) : Array Value :=
  #[iv, .bool (m.prep 0), .bool (m.prep 1), .bool (m.prep 2), .bool (m.prep 3), .bool (m.comm 0), .bool (m.comm 1), .bool (m.comm 2), .bool (m.comm 3), .bool m.canc]

/-- where the parts of a store lie -/
structure RA where
  arr : Value
  rv : Value
  wb : Nat → Nat
  iv : Nat → Value

structure RepR (w : World) (τ : Nat → Tag) (sid b : Nat) (s : MS) (A : RA) : Prop where
  ok : MOk s
  blk : Blk w b #[.int .i64 s.parts, .int .i64 s.mode, A.arr, A.rv] 78
  tag : τ b = (sid, 0, 0)
  arr : w.ownsRow 0 69 1 A.arr s.ws.length ((List.range s.ws.length).map (fun i => ptr (A.wb i)))
  arrTag : ∀ k, A.arr.ownBlock = some k → τ k = (sid, 1, 0)
  wr : ∀ (i : Nat) (m : MW), s.ws[i]? = some m → Blk w (A.wb i) (mwCells (A.iv i) m) 74
  wrTag : ∀ i, i < s.ws.length → τ (A.wb i) = (sid, 2, i)
  it : ∀ (i : Nat) (m : MW), s.ws[i]? = some m → w.ownsRow 0 35 2 (A.iv i) m.items.length (kvCells m.items)
  itTag : ∀ i k, i < s.ws.length → (A.iv i).ownBlock = some k → τ k = (sid, 3, i)

section
variable {w : World} {τ : Nat → Tag} {sid b : Nat} {s : MS} {A : RA}

theorem mFind_none {s : MS} {n : Int} (h : mFind s n = none) : n < 1 ∨ (s.ws.length : Int) < n ∨ (1 ≤ n ∧ n ≤ s.ws.length ∧ ∃ m, s.ws[(n - 1).toNat]? = some m ∧ m.canc = true) := by
  unfold mFind at h
  split at h
  · omega
  · rename_i hb
    have hlt : (n - 1).toNat < s.ws.length := by omega
    rw [List.getElem?_eq_getElem hlt] at h
    simp only at h
    refine Or.inr (Or.inr ⟨by omega, by omega, _, List.getElem?_eq_getElem hlt, ?_⟩)
    cases hc : s.ws[(n - 1).toNat].canc
    · rw [hc] at h; simp at h
    · rfl
theorem mFind_some {s : MS} {n : Int} {m : MW} (h : mFind s n = some m) : 1 ≤ n ∧ n ≤ s.ws.length ∧ s.ws[(n - 1).toNat]? = some m ∧ m.canc = false := by
  unfold mFind at h
  split at h
  · cases h
  · rename_i hb
    have hlt : (n - 1).toNat < s.ws.length := by omega
    rw [List.getElem?_eq_getElem hlt] at h
    simp only at h
    split at h
    · cases h
    · rename_i hc
      cases h
      exact ⟨by omega, by omega, List.getElem?_eq_getElem hlt, by simpa using hc⟩

theorem RepR.cParts (h : RepR w τ sid b s A) : w.cell? ⟨b, 0, none⟩ = some (.int .i64 s.parts) := h.blk.cell (o := 0) rfl
theorem RepR.cArr (h : RepR w τ sid b s A) : ∃ a cap, A.arr = .slice a s.ws.length cap ∧ w.cell? ⟨b, 2, none⟩ = some (.slice a s.ws.length cap) := by
  obtain ⟨a, cap, hv⟩ := row_len h.arr
  exact ⟨a, cap, hv, by rw [← hv]; exact h.blk.cell (o := 2) rfl⟩
/-- the array of the writes, where there is one, and the write at a place -/
theorem RepR.cAt (h : RepR w τ sid b s A) {i : Nat} {m : MW} (hm : s.ws[i]? = some m) :
    ∃ g cap, w.cell? ⟨b, 2, none⟩ = some (.slice (some ⟨g, 0, none⟩) s.ws.length cap) ∧ w.cell? ⟨g, i, none⟩ = some (.pointer (some ⟨A.wb i, 0, none⟩)) := by
  have hi : i < s.ws.length := (List.getElem?_eq_some_iff.1 hm).1
  obtain ⟨g, cap, hv, _, _, hcell, _⟩ := row_form h.arr (by omega)
  refine ⟨g, cap, by rw [← hv]; exact h.blk.cell (o := 2) rfl, ?_⟩
  rw [hcell i (by omega), List.getElem?_map, List.getElem?_range hi]
  rfl
theorem RepR.cCanc (h : RepR w τ sid b s A) {i : Nat} {m : MW} (hm : s.ws[i]? = some m) : w.cell? ⟨A.wb i, 9, none⟩ = some (.bool m.canc) := (h.wr i m hm).cell (o := 9) rfl

set_option maxRecDepth 100000 in
set_option maxHeartbeats 400000 in
theorem rwrite_none (h : RepR w τ sid b s A) (n : Int) (hn : -9223372036854775808 ≤ n) (hn' : n ≤ 9223372036854775807) (hf : mFind s n = none) :
    Calls Try.prog 33 #[ptr b, .int .i64 n] w fun e w' => e = .returned (.pointer none) ∧ w' = w := by
  have hlen := h.ok.len
  unfold ptr
  rcases mFind_none hf with h1 | h1 | ⟨h1, h2, m, hm, hc⟩
  · go_enter Try.func33, Try.ntmps33
    go_wp2
    go_ret
    exact ⟨rfl, rfl⟩
  · have h3 : ¬ n < 1 := by omega
    obtain ⟨a, cap, hv, c2⟩ := h.cArr
    clear hv
    go_enter Try.func33, Try.ntmps33
    go_wp2
    go_ret
    exact ⟨rfl, rfl⟩
  · have h3 : ¬ n < 1 := by omega
    have h4 : ¬ (s.ws.length : Int) < n := by omega
    obtain ⟨i, hi⟩ : ∃ i : Nat, n = (i : Int) + 1 := ⟨(n - 1).toNat, by omega⟩
    subst hi
    have hx : ((i : Int) + 1 - 1).toNat = i := by omega
    rw [hx] at hm
    obtain ⟨g, cap, c2, ci⟩ := h.cAt hm
    have c9 := h.cCanc hm
    rw [hc] at c9
    clear hf hm hc hx
    go_enter Try.func33, Try.ntmps33
    go_wp2
    go_ret
    exact ⟨rfl, rfl⟩

set_option maxRecDepth 100000 in
set_option maxHeartbeats 400000 in
theorem rwrite_some (h : RepR w τ sid b s A) (n : Int) (m : MW) (hf : mFind s n = some m) :
    Calls Try.prog 33 #[ptr b, .int .i64 n] w fun e w' => e = .returned (ptr (A.wb (n - 1).toNat)) ∧ w' = w := by
  have hlen := h.ok.len
  unfold ptr
  obtain ⟨h1, h2, hm, hc⟩ := mFind_some hf
  have h3 : ¬ n < 1 := by omega
  have h4 : ¬ (s.ws.length : Int) < n := by omega
  obtain ⟨i, hi⟩ : ∃ i : Nat, n = (i : Int) + 1 := ⟨(n - 1).toNat, by omega⟩
  subst hi
  have hx : ((i : Int) + 1 - 1).toNat = i := by omega
  rw [hx] at hm ⊢
  obtain ⟨g, cap, c2, ci⟩ := h.cAt hm
  have c9 := h.cCanc hm
  rw [hc] at c9
  clear hf hm hc hx
  go_enter Try.func33, Try.ntmps33
  go_wp2
  go_ret
  exact ⟨rfl, rfl⟩

end
end Go.Proofs.Ytmmhiahggnmhhaa
