/-
  The document's answer: a read more.
-/
import Derived.Test.YteoahlieielcdaaGreatRef7
namespace Go.Proofs.YteoahlieielcdaaGreat
open Go Go.RowKit

theorem infoStr : (Tryz.prog.info? 9).map (fun i => (i.zero, i.size, i.bytes)) = some (some (.string ByteArray.empty), 1, 16) := by kernel_rfl
theorem infoBool : (Tryz.prog.info? 4).map (fun i => (i.zero, i.size, i.bytes)) = some (some (.bool false), 1, 1) := by kernel_rfl
theorem infoInt : (Tryz.prog.info? 3).map (fun i => (i.zero, i.size, i.bytes)) = some (some (.int .i64 0), 1, 8) := by kernel_rfl
theorem infoRPtr : (Tryz.prog.info? 191).map (fun i => (i.zero, i.size, i.bytes)) = some (some (.pointer none), 1, 8) := by kernel_rfl

theorem key_bad {a r : List ByteArray} {x : ByteArray} (h : goodKey x = false) : keyFrom a (x :: r) = 4 := by simp [keyFrom, h]
theorem key_twice {a r : List ByteArray} {x : ByteArray} (h : goodKey x = true) (h2 : keyIn a x = true) : keyFrom a (x :: r) = 5 := by simp [keyFrom, h, h2]
theorem key_go {a r : List ByteArray} {x : ByteArray} (h : goodKey x = true) (h2 : keyIn a x = false) : keyFrom a (x :: r) = keyFrom (a ++ [x]) r := by simp [keyFrom, h, h2]
theorem keyIn_mem {l : List ByteArray} {x : ByteArray} : keyIn l x = true ↔ x ∈ l := by
  simp only [keyIn, List.any_eq_true, decide_eq_true_eq]
  exact ⟨fun ⟨y, hy, e⟩ => e ▸ hy, fun h => ⟨x, h, rfl⟩⟩
theorem key_good {r : List ByteArray} : ∀ {a : List ByteArray}, keyFrom a r = 0 → (∀ x ∈ r, goodKey x = true ∧ x ∉ a) ∧ r.Nodup := by
  induction r with
  | nil => intro a _; exact ⟨fun x hx => by simp at hx, List.nodup_nil⟩
  | cons y r ih =>
    intro a h
    simp only [keyFrom] at h
    split at h
    · cases h
    · rename_i hg
      split at h
      · cases h
      · rename_i hn
        obtain ⟨h1, h2⟩ := ih h
        have hya : y ∉ a := fun e => hn (keyIn_mem.2 e)
        refine ⟨fun x hx => ?_, List.nodup_cons.2 ⟨fun e => (h1 y e).2 (by simp), h2⟩⟩
        rcases List.mem_cons.1 hx with rfl | hx
        · exact ⟨by simpa using hg, hya⟩
        · exact ⟨(h1 x hx).1, fun e => (h1 x hx).2 (List.mem_append_left _ e)⟩
theorem drop_atK {L : List ByteArray} {k : Nat} {x : ByteArray} (h : L[k]? = some x) : L.drop k = x :: L.drop (k + 1) := by
  obtain ⟨hk, rfl⟩ := List.getElem?_eq_some_iff.1 h
  exact List.drop_eq_getElem_cons hk
theorem take_atK {L : List ByteArray} {k : Nat} {x : ByteArray} (h : L[k]? = some x) : L.take (k + 1) = L.take k ++ [x] := by
  obtain ⟨hk, rfl⟩ := List.getElem?_eq_some_iff.1 h
  exact List.take_succ_eq_append_getElem hk
theorem keyIn_none {L : List ByteArray} {k : Nat} {key : ByteArray} (h : ∀ j x, j < k → L[j]? = some x → x ≠ key) : keyIn (L.take k) key = false := by
  cases hh : keyIn (L.take k) key
  · rfl
  · have hx := keyIn_mem.1 hh
    obtain ⟨j, hj, he⟩ := List.mem_iff_getElem.1 hx
    simp only [List.length_take] at hj
    refine absurd ?_ (h j key (by omega) ?_)
    · rfl
    · rw [List.getElem_take] at he
      rw [← he]
      exact List.getElem?_eq_getElem (by omega)
theorem keyIn_some {L : List ByteArray} {k j : Nat} {x key : ByteArray} (hj : j < k) (hx : L[j]? = some x) (h : x = key) : keyIn (L.take k) key = true := by
  refine keyIn_mem.2 ?_
  have : (L.take k)[j]? = some x := by rw [List.getElem?_take_of_lt hj]; exact hx
  rw [← h]
  exact List.mem_of_getElem? this

section
variable {w : World} {τ : Nat → Tag} {sid b : Nat} {s : MS} {A : RA}

/-- the tags behind a new read -/
def pushRTag (τ : Nat → Tag) (sid n rb : Nat) (kv av fv arr : Value) : Nat → Tag := fun k =>
  if k = rb then (sid, 5, n) else if kv.ownBlock = some k then (sid, 6, n) else if av.ownBlock = some k then (sid, 7, n) else if fv.ownBlock = some k then (sid, 8, n) else if arr.ownBlock = some k then (sid, 4, 0) else τ k
def pushRRA (A : RA) (n rb : Nat) (kv av fv arr : Value) : RA :=
  { A with rv := arr, B := { rb := fun j => if j = n then rb else A.B.rb j, kv := fun j => if j = n then kv else A.B.kv j, av := fun j => if j = n then av else A.B.av j, fv := fun j => if j = n then fv else A.B.fv j } }

/-- A READ MORE. -/
theorem RepR.pushR (h : RepR w τ sid b s A) {L : List ByteArray} (hl1 : 1 ≤ L.length) (hl8 : L.length ≤ 8) (hlg : ∀ x ∈ L, goodKey x = true) (hnd : L.Nodup) (hop : openReads s.rs < 50) {w' : World} {rb : Nat} {kv av fv arr : Value}
    (hrb : w.heap.size ≤ rb) (hkv : ∀ k, kv.ownBlock = some k → w.heap.size ≤ k ∧ k ≠ rb) (hav : ∀ k, av.ownBlock = some k → w.heap.size ≤ k ∧ k ≠ rb ∧ kv.ownBlock ≠ some k) (hfv : ∀ k, fv.ownBlock = some k → w.heap.size ≤ k ∧ k ≠ rb ∧ kv.ownBlock ≠ some k ∧ av.ownBlock ≠ some k)
    (harr : ∀ k, arr.ownBlock = some k → A.rv.ownBlock = some k ∨ (w.heap.size ≤ k ∧ k ≠ rb ∧ kv.ownBlock ≠ some k ∧ av.ownBlock ≠ some k ∧ fv.ownBlock ≠ some k))
    (hold : ∀ k, k < w.heap.size → k ≠ b → A.rv.ownBlock ≠ some k → w'.heap[k]? = w.heap[k]?)
    (hb : Blk w' b #[.int .i64 s.parts, .int .i64 s.mode, A.arr, arr] 188)
    (ha : w'.ownsRow 0 191 1 arr (s.rs.length + 1) ((List.range s.rs.length).map (fun i => ptr (A.B.rb i)) ++ [ptr rb]))
    (hr : Blk w' rb #[kv, av, fv, .bool false] 195) (hk : w'.ownsRow 0 9 1 kv L.length (L.map .string))
    (hq : w'.ownsRow 0 4 1 av L.length ((List.range L.length).map (fun _ => .bool false))) (hf : w'.ownsRow 0 3 1 fv L.length ((List.range L.length).map (fun _ => .int .i64 0))) :
    RepR w' (pushRTag τ sid s.rs.length rb kv av fv arr) sid b { s with rs := s.rs ++ [newMR L] } (pushRRA A s.rs.length rb kv av fv arr) ∧
      (∀ k, k < w.heap.size → pushRTag τ sid s.rs.length rb kv av fv arr k = τ k) := by
  have htag : ∀ k, k < w.heap.size → pushRTag τ sid s.rs.length rb kv av fv arr k = τ k := by
    intro k hk
    unfold pushRTag
    rw [if_neg (by omega), if_neg (fun e => by have := (hkv k e).1; omega), if_neg (fun e => by have := (hav k e).1; omega), if_neg (fun e => by have := (hfv k e).1; omega)]
    split
    · rename_i e
      rcases harr k e with e1 | e1
      · rw [h.reads.arrTag k e1]
      · omega
    · rfl
  have hbs : b < w.heap.size := h.blk.lt
  have hin : ∀ {i : Nat} {r : MR}, (s.rs ++ [newMR L])[i]? = some r → (i < s.rs.length ∧ s.rs[i]? = some r) ∨ (i = s.rs.length ∧ r = newMR L) := by
    intro i r hm
    by_cases e : i < s.rs.length
    · rw [List.getElem?_append_left e] at hm; exact Or.inl ⟨e, hm⟩
    · rw [List.getElem?_append_right (by omega)] at hm
      have hi' := lt_of_some hm
      simp at hi'
      have : i = s.rs.length := by omega
      subst this
      simp at hm
      exact Or.inr ⟨rfl, hm.symm⟩
  have hne : ∀ {k : Nat} {a c : Nat}, τ k = (sid, a, c) → (a ≠ 0) → (a ≠ 4) → k < w.heap.size → w'.heap[k]? = w.heap[k]? := by
    intro k a c ht h0 h1 hk
    refine hold k hk (fun e => ?_) (fun e => ?_)
    · rw [e, h.tag] at ht; simp at ht; omega
    · rw [h.reads.arrTag k e] at ht; simp at ht; omega
  have hblk : ∀ {k : Nat} {c : Array Value} {t : TypeId} {a g : Nat}, a ≠ 0 → a ≠ 4 → Blk w k c t → τ k = (sid, a, g) → Blk w' k c t ∧ pushRTag τ sid s.rs.length rb kv av fv arr k = (sid, a, g) := by
    intro k c t a g h0 h4 hb ht
    exact ⟨hb.of_eq (hne ht h0 h4 hb.lt), (htag k hb.lt).trans ht⟩
  have hrow : ∀ {e : TypeId} {sz : Nat} {v : Value} {n : Nat} {xs : List Value} {a g : Nat}, a ≠ 0 → a ≠ 4 → w.ownsRow 0 e sz v n xs → (∀ k, v.ownBlock = some k → τ k = (sid, a, g)) → w'.ownsRow 0 e sz v n xs ∧ ∀ k, v.ownBlock = some k → pushRTag τ sid s.rs.length rb kv av fv arr k = (sid, a, g) := by
    intro e sz v n xs a g h0 h4 ho hv
    exact ⟨row_of_block ho (fun k hk => hne (hv k hk) h0 h4 (row_ge ho k hk).2), fun k hk => (htag k (row_ge ho k hk).2).trans (hv k hk)⟩
  have hat : ∀ {i : Nat}, i < s.rs.length → ∃ r, s.rs[i]? = some r := fun hi => ⟨_, List.getElem?_eq_getElem hi⟩
  have hlast : ∀ {i : Nat}, i < (s.rs ++ [newMR L]).length → i ≠ s.rs.length → i < s.rs.length := by intro i h1 h2; simp at h1; omega
  refine ⟨⟨⟨h.ok.p1, h.ok.p4, h.ok.len, h.ok.items, fun i r hm => ?_, ?_⟩, hb, ?_, (hrow (by omega) (by omega) h.arr h.arrTag).1, (hrow (by omega) (by omega) h.arr h.arrTag).2, fun i m hm => (hblk (by omega) (by omega) (h.wr i m hm) (h.wrTag i (lt_of_some hm))).1, fun i hi => ?_, fun i m hm => (hrow (by omega) (by omega) (h.it i m hm) (fun k => h.itTag i k (lt_of_some hm))).1, fun i k hi => ?_,
    ⟨?_, fun k hk' => ?_, fun i r hm => ?_, fun i hi => ?_, fun i r hm => ?_, fun i k hi hk' => ?_, fun i r hm => ?_, fun i k hi hk' => ?_, fun i r hm => ?_, fun i k hi hk' => ?_⟩⟩, htag⟩
  · rcases hin hm with ⟨_, e⟩ | ⟨_, rfl⟩
    · exact h.ok.keys i r e
    · exact ⟨hl1, hl8, hlg, hnd⟩
  · have : openReads (s.rs ++ [newMR L]) = openReads s.rs + 1 := by simp [openReads, newMR]
    show openReads (s.rs ++ [newMR L]) ≤ 50
    omega
  · rw [htag b hbs, h.tag]
  · obtain ⟨m, hm⟩ : ∃ m, s.ws[i]? = some m := ⟨_, List.getElem?_eq_getElem hi⟩
    exact (hblk (by omega) (by omega) (h.wr i m hm) (h.wrTag i hi)).2
  · obtain ⟨m, hm⟩ : ∃ m, s.ws[i]? = some m := ⟨_, List.getElem?_eq_getElem hi⟩
    exact (hrow (by omega) (by omega) (h.it i m hm) (fun k => h.itTag i k hi)).2 k
  · have e : (List.range (s.rs ++ [newMR L]).length).map (fun i => ptr ((pushRRA A s.rs.length rb kv av fv arr).B.rb i)) = (List.range s.rs.length).map (fun i => ptr (A.B.rb i)) ++ [ptr rb] := by
      rw [List.length_append, List.length_singleton, List.range_succ, List.map_append]
      congr 1
      · refine List.map_congr_left (fun i hi' => ?_)
        have : i ≠ s.rs.length := by have := List.mem_range.1 hi'; omega
        simp [pushRRA, this]
      · simp [pushRRA]
    show w'.ownsRow 0 _ 1 _ (s.rs ++ [newMR L]).length _
    rw [e]
    simpa [pushRRA] using ha
  · have hk2 : arr.ownBlock = some k := hk'
    rcases harr k hk2 with e | ⟨e1, e2, e3, e4, e5⟩
    · rw [htag k (row_ge h.reads.arr k e).2, h.reads.arrTag k e]
    · unfold pushRTag
      rw [if_neg e2, if_neg e3, if_neg e4, if_neg e5, if_pos hk2]
  · rcases hin hm with ⟨hi', e⟩ | ⟨rfl, rfl⟩
    · have : i ≠ s.rs.length := by omega
      have hb0 := (hblk (by omega) (by omega) (h.reads.rd i r e) (h.reads.rdTag i hi')).1
      simpa [pushRRA, mrCells, this] using hb0
    · simpa [pushRRA, mrCells, newMR] using hr
  · by_cases e : i = s.rs.length
    · subst e; simp [pushRRA, pushRTag]
    · have hi2 := hlast hi e
      obtain ⟨r, hr'⟩ := hat hi2
      have := (hblk (by omega) (by omega) (h.reads.rd i r hr') (h.reads.rdTag i hi2)).2
      simpa [pushRRA, e] using this
  · rcases hin hm with ⟨hi', e⟩ | ⟨rfl, rfl⟩
    · have : i ≠ s.rs.length := by omega
      simp only [pushRRA, this, if_false]
      exact (hrow (by omega) (by omega) (h.reads.ks i r e) (fun k => h.reads.ksTag i k hi')).1
    · simpa [pushRRA, newMR] using hk
  · by_cases e : i = s.rs.length
    · subst e
      simp only [pushRRA, if_true] at hk'
      unfold pushRTag
      rw [if_neg (hkv k hk').2, if_pos hk']
    · have hi2 := hlast hi e
      simp only [pushRRA, e, if_false] at hk'
      obtain ⟨r, hr'⟩ := hat hi2
      exact (hrow (by omega) (by omega) (h.reads.ks i r hr') (fun k => h.reads.ksTag i k hi2)).2 k hk'
  · rcases hin hm with ⟨hi', e⟩ | ⟨rfl, rfl⟩
    · have : i ≠ s.rs.length := by omega
      simp only [pushRRA, this, if_false]
      exact (hrow (by omega) (by omega) (h.reads.aq i r e) (fun k => h.reads.aqTag i k hi')).1
    · simpa [pushRRA, newMR] using hq
  · by_cases e : i = s.rs.length
    · subst e
      simp only [pushRRA, if_true] at hk'
      unfold pushRTag
      rw [if_neg (hav k hk').2.1, if_neg (hav k hk').2.2, if_pos hk']
    · have hi2 := hlast hi e
      simp only [pushRRA, e, if_false] at hk'
      obtain ⟨r, hr'⟩ := hat hi2
      exact (hrow (by omega) (by omega) (h.reads.aq i r hr') (fun k => h.reads.aqTag i k hi2)).2 k hk'
  · rcases hin hm with ⟨hi', e⟩ | ⟨rfl, rfl⟩
    · have : i ≠ s.rs.length := by omega
      simp only [pushRRA, this, if_false]
      exact (hrow (by omega) (by omega) (h.reads.fs i r e) (fun k => h.reads.fsTag i k hi')).1
    · simpa [pushRRA, newMR] using hf
  · by_cases e : i = s.rs.length
    · subst e
      simp only [pushRRA, if_true] at hk'
      unfold pushRTag
      rw [if_neg (hfv k hk').2.1, if_neg (hfv k hk').2.2.1, if_neg (hfv k hk').2.2.2, if_pos hk']
    · have hi2 := hlast hi e
      simp only [pushRRA, e, if_false] at hk'
      obtain ⟨r, hr'⟩ := hat hi2
      exact (hrow (by omega) (by omega) (h.reads.fs i r hr') (fun k => h.reads.fsTag i k hi2)).2 k hk'

/-- a read that is being made: its block and its three rows -/
def rdTy (j : Nat) : TypeId := if j = 0 then 9 else if j = 1 then 4 else 3
structure RD (w wr : World) (v : Nat → Value) (xs : Nat → List Value) : Prop where
  below : Below w.heap.size w wr
  blk : Blk wr w.heap.size #[v 0, v 1, v 2, .bool false] 195
  row : ∀ j, j < 3 → wr.ownsRow (w.heap.size + 1) (rdTy j) 1 (v j) (xs j).length (xs j)
  dis : ∀ i j g, i < 3 → j < 3 → i ≠ j → (v i).ownBlock = some g → (v j).ownBlock ≠ some g

theorem RD.after {wr w2 : World} {v : Nat → Value} {xs : Nat → List Value} (h : RD w wr v xs) {j nq : Nat} (hj : j < 3) {o : Obj} (hG : ((wr.drewN nq).alloc o).grownBy w2 (v j).ownBlock) :
    Blk w2 w.heap.size #[v 0, v 1, v 2, .bool false] 195 ∧ Below w.heap.size w w2 := by
  have hlt := h.blk.lt
  have hne : ∀ i, i ≤ w.heap.size → some i ≠ (v j).ownBlock := fun i hi e => by have := (row_ge (h.row j hj) i e.symm).1; omega
  have hbl : ∀ i, i ≤ w.heap.size → w2.heap[i]? = wr.heap[i]? := fun i hi =>
    (hG.block i (by simp; omega) (hne i hi)).trans (Below.heap_alloc (wr.drewN nq) o i (by simp; omega))
  exact ⟨h.blk.of_eq (hbl _ (Nat.le_refl _)), ⟨hG.os.trans h.below.os, hG.tape.trans h.below.tape, hG.output.trans h.below.output, Nat.le_trans h.below.size (by have := hG.size; simp at this; omega), fun i hi => (hbl i (by omega)).trans (h.below.block i hi)⟩⟩

theorem RD.push {wr w2 : World} {v : Nat → Value} {xs : Nat → List Value} (h : RD w wr v xs) {j nq : Nat} (hj : j < 3) {o : Obj} {v2 x : Value} (hG : ((wr.drewN nq).alloc o).grownBy w2 (v j).ownBlock)
    (hO : w2.ownsRow (w.heap.size + 1) (rdTy j) 1 v2 ((xs j).length + 1) (xs j ++ [x])) (hA : v2.ownBlock = (v j).ownBlock ∨ v2.ownBlock = some ((wr.drewN nq).alloc o).heap.size) :
    RD w (w2.setCell ⟨w.heap.size, j, none⟩ v2) (fun i => if i = j then v2 else v i) (fun i => if i = j then xs j ++ [x] else xs i) := by
  obtain ⟨hb, hB⟩ := h.after hj hG
  have hset : ∀ k, k ≠ w.heap.size → (w2.setCell ⟨w.heap.size, j, none⟩ v2).heap[k]? = w2.heap[k]? := fun k hk => Below.heap_setCell _ _ _ _ hk
  have hold : ∀ i, i < 3 → i ≠ j → ∀ k, (v i).ownBlock = some k → w2.heap[k]? = wr.heap[k]? := fun i hi hij k hk => by
    have h1 := (row_ge (h.row i hi) k hk).2
    refine (hG.block k (by simp; omega) (fun e => ?_)).trans (Below.heap_alloc (wr.drewN nq) o k (by simp; omega))
    exact h.dis i j k hi hj hij hk e.symm
  have hv2 : ∀ i g, i < 3 → i ≠ j → (v i).ownBlock = some g → v2.ownBlock ≠ some g := fun i g hi hij hg e => by
    rcases hA with e1 | e1
    · exact h.dis i j g hi hj hij hg (by rw [← e1]; exact e)
    · rw [e] at e1
      have h1 := (row_ge (h.row i hi) g hg).2
      have := Option.some.inj e1
      simp at this
      omega
  refine ⟨hB.setCell (p := ⟨w.heap.size, j, none⟩) (Nat.le_refl _) _, ?_, fun i hi => ?_, fun i i' g hi hi' hne hg => ?_⟩
  · have hs := hb.set j v2
    match j, hj with
    | 0, _ => simpa using hs
    | 1, _ => simpa using hs
    | 2, _ => simpa using hs
  · by_cases e : i = j
    · subst e
      simp only [if_true, List.length_append, List.length_singleton]
      exact row_of_block hO (fun k hk => hset k (fun e => by have := (row_ge hO k hk).1; omega))
    · simp only [e, if_false]
      exact row_of_block (h.row i hi) (fun k hk => (hset k (fun e => by have := (row_ge (h.row i hi) k hk).1; omega)).trans (hold i hi e k hk))
  · by_cases e : i = j
    · subst e
      simp only [if_true] at hg
      simp only [Ne.symm hne, if_false]
      exact fun e2 => hv2 i' g hi' (Ne.symm hne) e2 hg
    · simp only [e, if_false] at hg
      by_cases e' : i' = j
      · subst e'
        simp only [if_true]
        exact hv2 i g hi e hg
      · simp only [e', if_false]
        exact h.dis i i' g hi hi' hne hg

end
end Go.Proofs.YteoahlieielcdaaGreat
