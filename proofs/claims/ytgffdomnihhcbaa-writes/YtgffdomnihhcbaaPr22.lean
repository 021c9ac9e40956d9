/-
  The program: a read that is being made: add, newRead.
-/
import Derived.Test.YtgffdomnihhcbaaPr21
namespace Go.Proofs.Ytgffdomnihhcbaa
open Go Go.RowKit Go.MuLone
open Go.Maps (Keyed)

def qF (qb : Nat → Nat) (L : List ByteArray) : Lit → Option Value
  | .string l => if qIx L l < L.length then some (ptr (qb (qIx L l))) else none
  | _ => none

/-- A READ THAT IS BEING MADE: it has the keys L. -/
structure PartR (w : World) (τ : Nat → Tag) (sid i P : Nat) (pb : Nat → Nat) (pr qm : Nat) (qb : Nat → Nat) (L : List ByteArray) (B0 : Nat) : Prop where
  blk : Blk w pr #[mu0, sem0, .map (some qm)] 132
  tag : τ pr = (sid, 11, i)
  map : MapF w Try.prog 9 qm (qF qb L)
  mapTag : τ qm = (sid, 12, i)
  q : ∀ (j : Nat) (x : ByteArray), L[j]? = some x → Blk w (qb j) #[ptr (pb (partOf P x).toNat), .bool false, .int .i64 0] 136
  qTag : ∀ (j : Nat) (x : ByteArray), L[j]? = some x → τ (qb j) = (sid, 13, i * 8 + j)
  lo : B0 ≤ pr ∧ B0 ≤ qm
  loQ : ∀ (j : Nat) (x : ByteArray), L[j]? = some x → B0 ≤ qb j

section
variable {w : World} {τ : Nat → Tag} {sid i P : Nat} {pb : Nat → Nat} {pr qm : Nat} {qb : Nat → Nat} {L : List ByteArray} {B0 : Nat}

theorem PartR.frame (h : PartR w τ sid i P pb pr qm qb L B0) {w' : World} (hB : ∀ k, B0 ≤ k → k < w.heap.size → w'.heap[k]? = w.heap[k]?) : PartR w' τ sid i P pb pr qm qb L B0 :=
  ⟨h.blk.of_eq (hB _ h.lo.1 h.blk.lt), h.tag, h.map.of_eq (hB _ h.lo.2 h.map.lt), h.mapTag, fun j x hx => (h.q j x hx).of_eq (hB _ (h.loQ j x hx) (h.q j x hx).lt), h.qTag, h.lo, h.loQ⟩
theorem PartR.below (h : PartR w τ sid i P pb pr qm qb L B0) {w' : World} (hB : Below w.heap.size w w') : PartR w' τ sid i P pb pr qm qb L B0 := h.frame (fun k _ hk => hB.block k hk)

theorem qF_nil (qb : Nat → Nat) : qF qb [] = fun _ => none := by
  funext kl
  cases kl <;> simp [qF]

theorem PartR.made (w : World) (τ : Nat → Tag) (sid i P : Nat) (pb : Nat → Nat) :
    PartR ((w.alloc (.map #[] 0)).alloc (.cells #[mu0, sem0, .map (some w.heap.size)] 132))
      (fun k => if k = w.heap.size + 1 then (sid, 11, i) else if k = w.heap.size then (sid, 12, i) else τ k) sid i P pb (w.heap.size + 1) w.heap.size (fun _ => 0) [] w.heap.size := by
  refine ⟨?_, by simp, ?_, by simp, fun j x hx => by simp at hx, fun j x hx => by simp at hx, ⟨by omega, by omega⟩, fun j x hx => by simp at hx⟩
  · have := Blk.new (w.alloc (.map #[] 0)) #[mu0, sem0, .map (some w.heap.size)] 132
    simpa using this
  · rw [qF_nil]
    exact (MapF.made w Try.prog 9).of_eq (Below.heap_alloc _ _ _ (by simp))

theorem qIx_snoc {L : List ByteArray} {x : ByteArray} {l : List UInt8} : qIx (L ++ [x]) l = if qIx L l < L.length then qIx L l else if x.data.toList = l then L.length else L.length + 1 := by
  unfold qIx
  rw [List.findIdx_append]
  split
  · rfl
  · by_cases e : x.data.toList = l <;> simp [e, List.findIdx_cons] <;> omega
theorem qIx_lt {L : List ByteArray} {l : List UInt8} : qIx L l < L.length ↔ ∃ x ∈ L, x.data.toList = l := by
  unfold qIx
  rw [List.findIdx_lt_length]
  simp

theorem qF_push {new : Nat} {x : ByteArray} (hx : x ∉ L) : qF (fun j => if j = L.length then new else qb j) (L ++ [x]) = upd (qF qb L) (.string x.data.toList) (ptr new) := by
  funext kl
  cases kl with
  | string l =>
    by_cases e : x.data.toList = l
    · subst e
      have hn : ¬ qIx L x.data.toList < L.length := fun h => by
        obtain ⟨y, hy, he⟩ := qIx_lt.1 h
        exact hx (WideShapes.bytes_inj he ▸ hy)
      rw [upd_same (by simp [WideAt.IsKeyLit])]
      simp only [qF, qIx_snoc, if_neg hn, if_true, List.length_append, List.length_singleton]
      simp
    · rw [upd_other (by simpa using fun e' => e e'.symm)]
      simp only [qF, qIx_snoc, List.length_append, List.length_singleton]
      by_cases hn : qIx L l < L.length
      · have : qIx L l ≠ L.length := by omega
        simp only [if_pos hn, if_neg this]
        rw [if_pos (by omega)]
      · simp only [if_neg hn, if_neg e]
        rw [if_neg (by omega)]
  | _ => simp [qF, upd, Lit.sameKey]

theorem PartR.push (h : PartR w τ sid i P pb pr qm qb L B0) {w' : World} {new : Nat} {x : ByteArray} (hx : x ∉ L) (hnew : w.heap.size ≤ new) (hB0 : B0 ≤ w.heap.size)
    (hold : ∀ k, k < w.heap.size → k ≠ qm → w'.heap[k]? = w.heap[k]?) (hb : Blk w' new #[ptr (pb (partOf P x).toNat), .bool false, .int .i64 0] 136)
    (hM : MapF w' Try.prog 9 qm (upd (qF qb L) (.string x.data.toList) (ptr new))) :
    PartR w' (fun k => if k = new then (sid, 13, i * 8 + L.length) else τ k) sid i P pb pr qm (fun j => if j = L.length then new else qb j) (L ++ [x]) B0 := by
  have hin : ∀ {j : Nat} {y : ByteArray}, (L ++ [x])[j]? = some y → (j < L.length ∧ L[j]? = some y) ∨ (j = L.length ∧ y = x) := by
    intro j y hj
    by_cases e : j < L.length
    · rw [List.getElem?_append_left e] at hj; exact Or.inl ⟨e, hj⟩
    · rw [List.getElem?_append_right (by omega)] at hj
      have hi' := lt_of_some hj
      simp at hi'
      have : j = L.length := by omega
      subst this
      simp at hj
      exact Or.inr ⟨rfl, hj.symm⟩
  have hpq : pr ≠ qm := blk_ne_map h.blk h.map
  have hlt : ∀ {k : Nat}, k < w.heap.size → k ≠ new := fun hk => by omega
  refine ⟨h.blk.of_eq (hold _ h.blk.lt hpq), ?_, ?_, ?_, fun j y hj => ?_, fun j y hj => ?_, h.lo, fun j y hj => ?_⟩
  · show (if pr = new then _ else _) = _
    rw [if_neg (hlt h.blk.lt), h.tag]
  · rw [qF_push hx]; exact hM
  · show (if qm = new then _ else _) = _
    rw [if_neg (hlt h.map.lt), h.mapTag]
  · rcases hin hj with ⟨hjl, e⟩ | ⟨rfl, rfl⟩
    · have : j ≠ L.length := by omega
      simp only [this, if_false]
      exact (h.q j y e).of_eq (hold _ (h.q j y e).lt (blk_ne_map (h.q j y e) h.map))
    · simpa using hb
  · rcases hin hj with ⟨hjl, e⟩ | ⟨rfl, rfl⟩
    · have : j ≠ L.length := by omega
      simp only [this, if_false]
      rw [if_neg (hlt (h.q j y e).lt), h.qTag j y e]
    · simp
  · rcases hin hj with ⟨hjl, e⟩ | ⟨rfl, rfl⟩
    · have : j ≠ L.length := by omega
      simp only [this, if_false]
      exact h.loQ j y e
    · simp; omega

theorem qF_keys : ∀ kl, qF qb L kl ≠ none → kl ∈ L.map (fun x => Lit.string x.data.toList) := by
  intro kl hk
  cases kl with
  | string l =>
    simp only [qF] at hk
    split at hk
    · rename_i e
      obtain ⟨y, hy, he⟩ := qIx_lt.1 e
      exact List.mem_map.2 ⟨y, hy, by rw [he]⟩
    · exact absurd rfl hk
  | _ => exact absurd rfl hk

set_option maxRecDepth 100000 in
set_option maxHeartbeats 2000000 in
theorem addR_any (h : PartR w τ sid i P pb pr qm qb L B0) (kk : ByteArray) (hk8 : kk.size ≤ 8) (hx : kk ∉ L) (hl : L.length < 8) (hB0 : B0 ≤ w.heap.size) :
    Calls Try.prog 73 #[ptr pr, .string kk, ptr (pb (partOf P kk).toNat)] w fun e w' => e = .returned (.tuple #[]) ∧ ∃ τ' qb', PartR w' τ' sid i P pb pr qm qb' (L ++ [kk]) B0 ∧ Below B0 w w' ∧ ∀ k, k < w.heap.size → τ' k = τ k := by
  have c2 : w.cell? ⟨pr, 2, none⟩ = some (.map (some qm)) := h.blk.cell (o := 2) rfl
  have hprl := h.blk.lt
  have hqml := h.map.lt
  have hL8 : (L.map (fun x => Lit.string x.data.toList)).length < maxLen := by simp; unfold maxLen; omega
  have hdone : ∀ (w3 : World) (new : Nat), w.heap.size ≤ new → w.heap.size ≤ w3.heap.size → w3.os = w.os → w3.tape = w.tape → w3.output = w.output → (∀ k, k < w.heap.size → k ≠ qm → w3.heap[k]? = w.heap[k]?) → Blk w3 new #[ptr (pb (partOf P kk).toNat), .bool false, .int .i64 0] 136 →
      MapF w3 Try.prog 9 qm (upd (qF qb L) (.string kk.data.toList) (ptr new)) → ∃ τ' qb', PartR w3 τ' sid i P pb pr qm qb' (L ++ [kk]) B0 ∧ Below B0 w w3 ∧ ∀ k, k < w.heap.size → τ' k = τ k :=
    fun w3 new a1 a2 o1 o2 o3 a3 a4 a5 => ⟨_, _, h.push hx a1 hB0 a3 a4 a5, ⟨o1, o2, o3, a2, fun k hk => a3 k (by omega) (by have := h.lo.2; omega)⟩, fun k hk => by rw [if_neg (by omega)]⟩
  have HD := (show Hid _ from hdone)
  clear hdone
  have hMw : ∀ W : World, W.heap[qm]? = w.heap[qm]? → MapF W Try.prog 9 qm (qF qb L) := fun W e => h.map.of_eq e
  have hks := keyOf_str (s := kk) (by unfold maxLen; omega)
  have hprq : pr ≠ qm := blk_ne_map h.blk h.map
  generalize hpp : pb (partOf P kk).toNat = pq at *
  unfold ptr at *
  have HA : ∀ w2 : World, Below w.heap.size w w2 → ∃ w3, (Instr.mapUpdate 130 (.map (some qm)) (.string kk) (.pointer (some ⟨w2.heap.size, 0, none⟩))).run Try.prog (w2.alloc (.cells #[.pointer (some ⟨pq, 0, none⟩), .bool false, .int .i64 0] 136)) = .ok () w3 ∧ w3.cell? ⟨pr, 2, none⟩ = some (.map (some qm)) ∧
      ∃ τ' qb', PartR w3 τ' sid i P pb pr qm qb' (L ++ [kk]) B0 ∧ Below B0 w w3 ∧ ∀ k, k < w.heap.size → τ' k = τ k := fun w2 hB => by
    have hsz := hB.size
    have hal : ∀ k, k < w.heap.size → (w2.alloc (.cells #[.pointer (some ⟨pq, 0, none⟩), .bool false, .int .i64 0] 136)).heap[k]? = w.heap[k]? := fun k hk => (Below.heap_alloc w2 _ k (by omega)).trans (hB.block k hk)
    obtain ⟨w3, hup, hM3, hT3⟩ := (hMw _ (hal qm hqml)).store (t := 130) (e := 133) keyStr Try.underlying130 _ qF_keys hL8 hks (.pointer (some ⟨w2.heap.size, 0, none⟩))
    have hBu := But.of_turned hT3
    have hs3 := hBu.size
    simp at hs3
    refine ⟨w3, hup, (World.cell?_of_block (w := w) (a := ⟨pr, 2, none⟩) ((hBu.block pr hprq).trans (hal pr hprl))).trans c2, HD.out w3 w2.heap.size hsz (by omega) (hBu.os.trans hB.os) (hBu.tape.trans hB.tape) (hBu.output.trans hB.output) (fun k hk hne => (hBu.block k hne).trans (hal k hk)) ?_ hM3⟩
    exact (Blk.new w2 _ _).of_eq (hBu.block _ (by omega))
  have HB : ∀ w2 : World, Below (w.heap.size + 1) (w.alloc (.cells #[.pointer (some ⟨pq, 0, none⟩), .bool false, .int .i64 0] 136)).drew w2 → ∃ w3, (Instr.mapUpdate 130 (.map (some qm)) (.string kk) (.pointer (some ⟨w.heap.size, 0, none⟩))).run Try.prog w2 = .ok () w3 ∧ w3.cell? ⟨pr, 2, none⟩ = some (.map (some qm)) ∧ w2.cell? ⟨pr, 2, none⟩ = some (.map (some qm)) ∧
      ∃ τ' qb', PartR w3 τ' sid i P pb pr qm qb' (L ++ [kk]) B0 ∧ Below B0 w w3 ∧ ∀ k, k < w.heap.size → τ' k = τ k := fun w2 hB => by
    have hsz := hB.size
    simp at hsz
    have hal : ∀ k, k < w.heap.size → w2.heap[k]? = w.heap[k]? := fun k hk => (hB.block k (by omega)).trans (Below.heap_alloc w _ k hk)
    obtain ⟨w3, hup, hM3, hT3⟩ := (hMw _ (hal qm hqml)).store (t := 130) (e := 133) keyStr Try.underlying130 _ qF_keys hL8 hks (.pointer (some ⟨w.heap.size, 0, none⟩))
    have hBu := But.of_turned hT3
    have hs3 := hBu.size
    refine ⟨w3, hup, (World.cell?_of_block (w := w) (a := ⟨pr, 2, none⟩) ((hBu.block pr hprq).trans (hal pr hprl))).trans c2, (World.cell?_of_block (w := w) (a := ⟨pr, 2, none⟩) (hal pr hprl)).trans c2, HD.out w3 w.heap.size (Nat.le_refl _) (by omega) (hBu.os.trans hB.os) (hBu.tape.trans hB.tape) (hBu.output.trans hB.output) (fun k hk hne => (hBu.block k hne).trans (hal k hk)) ?_ hM3⟩
    exact ((Blk.new w _ _).of_eq (hB.block w.heap.size (by omega))).of_eq (hBu.block _ (by omega))
  clear HD hMw
  have HA' := (show Hid _ from HA)
  have HB' := (show Hid _ from HB)
  clear HA HB
  go_enter Try.func73, Try.ntmps73
  go_wp2_with fail
  go_region_held3 (fun W => W.cell? ⟨pr, 2, none⟩ = some (.map (some qm))) (first | (simp [*]; done) | assumption | (rw [World.cell?_of_block (w := w.drew) (Below.heap_alloc w.drew _ _ (by simp only; assumption))]; assumption) | (rw [World.cell?_of_block (w := w2) (Below.heap_alloc w2 _ _ (by simp only; omega))]; assumption) | (go_keep; done))
    ((go_at_call 83; refine (clone_any _ (by omega)).mono ?_; rintro e w2 ⟨rfl, hB2⟩; first | (have hB3 : Below w.heap.size w w2 := (Below.refl w.heap.size w).drew.trans hB2; have hw2l : pr < w2.heap.size := Nat.lt_of_lt_of_le hprl hB3.size; have m2 := (hB3.cell (p := ⟨pr, 2, none⟩) hprl).trans c2; obtain ⟨w3, hup, m3, hfin⟩ := HA'.out w2 hB3) | (obtain ⟨w3, hup, m3, m2, hfin⟩ := HB'.out w2 (by simpa using hB2))))
  all_goals
    go_wp2_with fail
    go_end0
    exact ⟨rfl, hfin⟩

end
end Go.Proofs.Ytgffdomnihhcbaa
