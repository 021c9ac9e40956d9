/-
  A store of the program behind a step: one write is turned.
-/
import Derived.Test.YtmmhiahggnmhhaaPr3
namespace Go.Proofs.Ytmmhiahggnmhhaa
open Go Go.RowKit
open Go.Maps (Keyed)

section
variable {w : World} {τ : Nat → Tag} {sid b : Nat} {s : MS} {A : SA}

/-- the store with write i turned -/
def setAt (s : MS) (i : Nat) (m : MW) : MS := { s with ws := s.ws.set i m }
theorem setW_eq (s : MS) (n : Int) (m : MW) : setW s n m = setAt s (n - 1).toNat m := rfl

theorem mFind_none' {s : MS} {n : Int} (h : mFind s n = none) : n < 1 ∨ (s.ws.length : Int) < n ∨ (1 ≤ n ∧ n ≤ s.ws.length ∧ ∃ m, s.ws[(n - 1).toNat]? = some m ∧ m.canc = true) := by
  unfold mFind at h
  split at h
  · omega
  · rename_i hb
    have hlt : (n - 1).toNat < s.ws.length := by omega
    rw [List.getElem?_eq_getElem hlt] at h
    simp only at h
    refine Or.inr (Or.inr ⟨by omega, by omega, _, List.getElem?_eq_getElem hlt, ?_⟩)
    cases hc : s.ws[(n - 1).toNat].canc
    · rw [hc] at h; simp at h
    · rfl
theorem mFind_some' {s : MS} {n : Int} {m : MW} (h : mFind s n = some m) : 1 ≤ n ∧ n ≤ s.ws.length ∧ s.ws[(n - 1).toNat]? = some m ∧ m.canc = false := by
  unfold mFind at h
  split at h
  · cases h
  · rename_i hb
    have hlt : (n - 1).toNat < s.ws.length := by omega
    rw [List.getElem?_eq_getElem hlt] at h
    simp only at h
    split at h
    · cases h
    · rename_i hc
      cases h
      exact ⟨by omega, by omega, List.getElem?_eq_getElem hlt, by simpa using hc⟩
theorem mFind_of {s : MS} {i : Nat} {m : MW} (hm : s.ws[i]? = some m) (hc : m.canc = false) : mFind s ((i : Int) + 1) = some m := by
  have hi := lt_of_some hm
  unfold mFind
  rw [if_neg (by omega), show ((i : Int) + 1 - 1).toNat = i from by omega, hm]
  simp [hc]
theorem mFind_set_same {s : MS} {i : Nat} {m : MW} (hi : i < s.ws.length) (hc : m.canc = false) : mFind (setAt s i m) ((i : Int) + 1) = some m :=
  mFind_of (by simp [setAt, hi]) hc
theorem mFind_set_other {s : MS} {i : Nat} {m : MW} {n : Int} (hn : n ≠ (i : Int) + 1) : mFind (setAt s i m) n = mFind s n := by
  unfold mFind setAt
  simp only [List.length_set]
  split
  · rfl
  · rw [List.getElem?_set_ne (by omega)]
theorem set_get {s : MS} {i j : Nat} {m m' : MW} (h : (setAt s i m').ws[j]? = some m) : (i = j ∧ m = m') ∨ (i ≠ j ∧ s.ws[j]? = some m) := set_some h

theorem writesF_set {m m' : MW} {i : Nat} (hm : s.ws[i]? = some m) (hc : m.canc = false) (hc' : m'.canc = false) : writesF (setAt s i m') A = writesF s A := by
  funext kl
  cases kl with
  | int k n =>
    cases k <;> try rfl
    simp only [writesF]
    by_cases e : n = (i : Int) + 1
    · rw [e, mFind_set_same (lt_of_some hm) hc', mFind_of hm hc]
    · rw [mFind_set_other e]
  | _ => rfl

/-- ONE WRITE IS TURNED: its stages; what the parts keep of it and what is visible. -/
theorem RepS.setW (h : RepS w τ sid b s A) {i : Nat} {m m' : MW} (hm : s.ws[i]? = some m) (hc : m.canc = false) (hit : m'.items = m.items) (hc' : m'.canc = false)
    (hcp : ∀ q, m'.comm q = true → m'.prep q = true) (hpo : ∀ q : Nat, m'.prep q = true → onPart s.parts m.items q = true) {w' : World} {vis' : Nat → List UInt8 → Nat}
    (hsame : ∀ k, k < w.heap.size → (∀ q, q < s.parts → k ≠ A.kb q ∧ k ≠ A.vb q ∧ (onPart s.parts m.items q = true → k ≠ A.sh i q)) → w'.heap[k]? = w.heap[k]?)
    (hk : ∀ q, q < s.parts → MapF w' Try.prog 3 (A.kb q) (keptF (setAt s i m') A q))
    (hv : ∀ q, q < s.parts → MapF w' Try.prog 9 (A.vb q) (visF { A with vis := vis' } q)) (hvo : ∀ q, q < s.parts → VisOk (setAt s i m') q (vis' q))
    (hs : ∀ q : Nat, onPart s.parts m.items q = true → Blk w' (A.sh i q) #[ptr (A.pb q), .int .i64 (stageOf m' q), if m'.prep q then nilSlice else A.iv i q] 120) :
    RepS w' τ sid b (setAt s i m') { A with vis := vis' } := by
  have hi := lt_of_some hm
  have hbd : ∀ q : Nat, onPart s.parts m.items q = true → q < s.parts := fun q ho => by
    have := (onPart_bd (by have := h.ok.p1; omega) ho).2; omega
  have hne : ∀ {k a c : Nat}, τ k = (sid, a, c) → a ≠ 3 → a ≠ 4 → (a = 8 → ∀ q, q < s.parts → c ≠ i * 4 + q) → k < w.heap.size → w'.heap[k]? = w.heap[k]? := by
    intro k a c ht h3 h4 h8 hkl
    refine hsame k hkl (fun q hq => ⟨fun e => ?_, fun e => ?_, fun ho e => ?_⟩)
    · have := h.keptTag q hq; rw [← e, ht] at this; simp at this; omega
    · have := h.visTag q hq; rw [← e, ht] at this; simp at this; omega
    · have := h.shTag i m q hm hc ho; rw [← e, ht] at this; simp at this; exact h8 this.1 q hq this.2
  have hp4 := h.ok.p4
  have hshm : ∀ {j : Nat} {mj mj' : MW}, mj'.items = mj.items → sharesF (setAt s i m') A j mj' = sharesF s A j mj := by
    intro j mj mj' e
    funext kl
    cases kl with
    | int k n => cases k <;> first | rfl | (simp only [sharesF, e]; rfl)
    | _ => rfl
  have hget : ∀ {j : Nat} {mj : MW}, (setAt s i m').ws[j]? = some mj → ∃ mo, s.ws[j]? = some mo ∧ mj.items = mo.items ∧ (mj.canc = false → mo.canc = false) ∧ (i ≠ j → mj = mo) := by
    intro j mj hj
    rcases set_get hj with ⟨rfl, rfl⟩ | ⟨e, hj'⟩
    · exact ⟨m, hm, hit, fun _ => hc, fun e => absurd rfl e⟩
    · exact ⟨mj, hj', rfl, id, fun _ => rfl⟩
  refine ⟨⟨h.ok.p1, h.ok.p4, by simpa [setAt] using h.ok.len, fun j mj hj => ?_⟩, ⟨fun j mj q hj => ?_, fun j mj q hj => ?_, fun j mj q hj => ?_⟩, ?_, h.tag, ?_, h.parrTag, fun q hq => ?_, h.partTag, hk, h.keptTag, hv, h.visTag, hvo, ?_, h.wmTag, fun j mj hj hcj => ?_, fun j mj hj hcj => ?_, fun j mj hj hcj => ?_, fun j mj hj hcj => ?_, fun j mj q hj hcj ho => ?_, fun j mj q hj hcj ho => ?_, fun j mj q hj hcj ho => ?_, fun j mj q k hj hcj ho => ?_⟩
  · obtain ⟨mo, ho, e, _⟩ := hget hj
    rw [e]; exact h.ok.items j mo ho
  · intro hcm
    rcases set_get hj with ⟨rfl, rfl⟩ | ⟨_, hj'⟩
    · exact hcp q hcm
    · exact h.inv.cp j mj q hj' hcm
  · intro hpm
    rcases set_get hj with ⟨rfl, rfl⟩ | ⟨_, hj'⟩
    · rw [hit]; exact hpo q hpm
    · exact h.inv.po j mj q hj' hpm
  · intro hcm
    rcases set_get hj with ⟨rfl, rfl⟩ | ⟨_, hj'⟩
    · rw [hc'] at hcm; cases hcm
    · exact h.inv.cc j mj q hj' hcm
  · have := h.blk.of_eq (hne h.tag (by omega) (by omega) (by omega) h.blk.lt)
    simpa [setAt] using this
  · exact row_of_block h.parr (fun k hk => hne (h.parrTag k hk) (by omega) (by omega) (by omega) (row_ge h.parr k hk).2)
  · exact (h.part q hq).of_eq (hne (h.partTag q hq) (by omega) (by omega) (by omega) (h.part q hq).lt)
  · have : writesF (setAt s i m') { A with vis := vis' } = writesF s A := writesF_set (A := A) hm hc hc'
    rw [this]
    exact h.wmap.of_eq (hne h.wmTag (by omega) (by omega) (by omega) h.wmap.lt)
  · obtain ⟨mo, ho, _, ec, _⟩ := hget hj
    have hb := h.wr j mo ho (ec hcj)
    exact hb.of_eq (hne (h.wrTag j mo ho (ec hcj)) (by omega) (by omega) (by omega) hb.lt)
  · obtain ⟨mo, ho, _, ec, _⟩ := hget hj
    exact h.wrTag j mo ho (ec hcj)
  · obtain ⟨mo, ho, e, ec, _⟩ := hget hj
    have : sharesF (setAt s i m') { A with vis := vis' } j mj = sharesF s A j mo := hshm e
    rw [this]
    have hb := h.shm j mo ho (ec hcj)
    exact hb.of_eq (hne (h.shmTag j mo ho (ec hcj)) (by omega) (by omega) (by omega) hb.lt)
  · obtain ⟨mo, ho, _, ec, _⟩ := hget hj
    exact h.shmTag j mo ho (ec hcj)
  · obtain ⟨mo, hmo, e, ec, en⟩ := hget hj
    rw [e] at ho
    by_cases eij : i = j
    · subst eij
      rw [hm] at hmo; cases hmo
      rcases set_get hj with ⟨_, rfl⟩ | ⟨e', _⟩
      · exact hs q ho
      · exact absurd rfl e'
    · rw [en eij]
      rw [en eij] at hcj
      have hb := h.sh j mo q hmo hcj ho
      refine hb.of_eq (hne (h.shTag j mo q hmo hcj ho) (by omega) (by omega) (fun _ q' hq' e' => ?_) hb.lt)
      have hq1 := (onPart_bd (n := (s.parts : Int)) (by have := h.ok.p1; omega) ho).2
      omega
  · obtain ⟨mo, hmo, e, ec, _⟩ := hget hj
    rw [e] at ho
    exact h.shTag j mo q hmo (ec hcj) ho
  · obtain ⟨mo, hmo, e, ec, _⟩ := hget hj
    rw [e] at ho
    rw [e]
    have hr := h.it j mo q hmo (ec hcj) ho
    exact row_of_block hr (fun k hk => hne (h.itTag j mo q k hmo (ec hcj) ho hk) (by omega) (by omega) (by omega) (row_ge hr k hk).2)
  · obtain ⟨mo, hmo, e, ec, _⟩ := hget hj
    rw [e] at ho
    exact h.itTag j mo q k hmo (ec hcj) ho

end
end Go.Proofs.Ytmmhiahggnmhhaa
