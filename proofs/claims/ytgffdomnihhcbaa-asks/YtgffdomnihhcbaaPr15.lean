/-
  The program: newWrite.
-/
import Derived.Test.YtgffdomnihhcbaaPr14
namespace Go.Proofs.Ytgffdomnihhcbaa
open Go Go.RowKit Go.MuLone
open Go.Maps (Keyed)

section
variable {w : World} {τ : Nat → Tag} {sid i P : Nat} {pb : Nat → Nat} {pw sm : Nat} {sh : Nat → Nat} {iv : Nat → Value} {L : List KV} {B0 : Nat}

theorem PartW.below (h : PartW w τ sid i P pb pw sm sh iv L B0) {w' : World} (hB : Below w.heap.size w w') : PartW w' τ sid i P pb pw sm sh iv L B0 :=
  ⟨h.blk.of_eq (hB.block _ h.blk.lt), h.tag, h.map.of_eq (hB.block _ h.map.lt), h.mapTag, fun q ho => (h.shB q ho).of_eq (hB.block _ (h.shB q ho).lt), h.shTag, fun q ho => row_of_block (h.it q ho) (fun k hk => hB.block k (row_ge (h.it q ho) k hk).2), h.itTag, h.lo, h.loSh, h.loIt⟩

theorem PartW.frame (h : PartW w τ sid i P pb pw sm sh iv L B0) {w' : World} (hB : ∀ k, B0 ≤ k → k < w.heap.size → w'.heap[k]? = w.heap[k]?) : PartW w' τ sid i P pb pw sm sh iv L B0 :=
  ⟨h.blk.of_eq (hB _ h.lo.1 h.blk.lt), h.tag, h.map.of_eq (hB _ h.lo.2 h.map.lt), h.mapTag, fun q ho => (h.shB q ho).of_eq (hB _ (h.loSh q ho) (h.shB q ho).lt), h.shTag, fun q ho => row_of_block (h.it q ho) (fun k hk => hB k (h.loIt q k ho hk) (row_ge (h.it q ho) k hk).2), h.itTag, h.lo, h.loSh, h.loIt⟩

theorem shF_nil (P : Nat) (sh : Nat → Nat) : shF P sh [] = fun _ => none := by
  funext kl
  cases kl with
  | int k n => cases k <;> simp [shF, onPart]
  | _ => rfl

/-- a write that was just begun -/
theorem PartW.made (w : World) (τ : Nat → Tag) (sid i P : Nat) (pb : Nat → Nat) :
    PartW ((w.alloc (.map #[] 0)).alloc (.cells #[mu0, sem0, .int .i64 ((i : Int) + 1), .bool false, .map (some w.heap.size)] 119))
      (fun k => if k = w.heap.size + 1 then (sid, 6, i) else if k = w.heap.size then (sid, 7, i) else τ k) sid i P pb (w.heap.size + 1) w.heap.size (fun _ => 0) (fun _ => .slice none 0 0) [] w.heap.size := by
  refine ⟨?_, by simp, ?_, by simp, fun q ho => by simp [onPart] at ho, fun q ho => by simp [onPart] at ho, fun q ho => by simp [onPart] at ho, fun q k ho => by simp [onPart] at ho, ⟨by omega, by omega⟩, fun q ho => by simp [onPart] at ho, fun q k ho => by simp [onPart] at ho⟩
  · have := Blk.new (w.alloc (.map #[] 0)) #[mu0, sem0, .int .i64 ((i : Int) + 1), .bool false, .map (some w.heap.size)] 119
    simpa using this
  · rw [shF_nil]
    exact (MapF.made w Try.prog 3).of_eq (Below.heap_alloc _ _ _ (by simp))

set_option maxRecDepth 100000 in
set_option maxHeartbeats 2000000 in
theorem newWrite_any (b : Nat) (parr : Value) (cs : w.cell? ⟨b, 1, none⟩ = some parr) (hpr : w.ownsRow 0 111 1 parr P ((List.range P).map (fun q => ptr (pb q)))) (hP1 : 1 ≤ P) (hP4 : P ≤ 4) (gb go cap : Nat) (h1 : 1 ≤ L.length) (h8 : L.length ≤ 8) (hg : ∀ x ∈ L, goodKV x = true)
    (hcell : ∀ (k : Nat) (x : KV), L[k]? = some x → w.cell? ⟨gb, go + k * 2, none⟩ = some (.string x.1) ∧ w.cell? ⟨gb, go + k * 2 + 1, none⟩ = some (.string x.2)) :
    Calls Try.prog 54 #[ptr b, .int .i64 ((i : Int) + 1), .slice (some ⟨gb, go, none⟩) L.length cap] w fun e w' => ∃ τ' pw sm sh iv, e = .returned (ptr pw) ∧ PartW w' τ' sid i P pb pw sm sh iv L w.heap.size ∧ Below w.heap.size w w' ∧ ∀ k, k < w.heap.size → τ' k = τ k := by
  have hbl := World.block_lt_of_cell? w _ cs
  simp only at hbl
  obtain ⟨pg, pc, hpv, _, hpc, hpcell, _⟩ := row_form hpr (by omega)
  subst hpv
  have hpgl : pg < w.heap.size := (row_ge hpr pg rfl).2
  have hpq : ∀ q, q < P → w.cell? ⟨pg, q, none⟩ = some (.pointer (some ⟨pb q, 0, none⟩)) := fun q hq => by
    rw [hpcell q (by omega), List.getElem?_map, List.getElem?_range hq]; rfl
  have hmm := @run_makeMap Try.prog
  clear hpcell
  unfold ptr
  go_enter Try.func54, Try.ntmps54
  go_wp2_with fail
  go_loopw [17] (fun u wr => ∃ (k : Nat) (τ' : Nat → Tag) (sh : Nat → Nat) (iv : Nat → Value), k ≤ L.length ∧ u = .int .i64 k ∧ PartW wr τ' sid i P pb (w.heap.size + 1) w.heap.size sh iv (L.take k) w.heap.size ∧ Below w.heap.size w wr ∧ Hid (∀ k, k < w.heap.size → τ' k = τ k)) (fun u _ => L.length - (intOf u).toNat)
  case atStart =>
    refine ⟨0, _, _, _, Nat.zero_le _, rfl, PartW.made w τ sid i P pb, ?_, fun k hk => ?_⟩
    · exact ((Below.refl _ _).alloc (Nat.le_refl _) _).alloc (by simp) _
    · have e1 : k ≠ w.heap.size + 1 := by omega
      have e2 : k ≠ w.heap.size := by omega
      simp [e1, e2]
  case round =>
    obtain ⟨k, τ1, sh1, iv1, hk, rfl, hW, hB, HT⟩ := hrel
    by_cases hlt : k < L.length
    · have hx : L[k]? = some L[k] := List.getElem?_eq_getElem hlt
      obtain ⟨c1, c2⟩ := hcell k _ hx
      have hgb : gb < w.heap.size := World.block_lt_of_cell? w _ c1
      have c1' := (hB.cell (p := ⟨gb, go + k * 2, none⟩) hgb).trans c1
      have c2' := (hB.cell (p := ⟨gb, go + k * 2 + 1, none⟩) hgb).trans c2
      have hgs := goodKV_size (hg _ (List.getElem_mem hlt))
      have HTk : Hid (L.take (k + 1) = L.take k ++ [L[k]]) := List.take_succ_eq_append_getElem hlt
      generalize L[k] = x at *
      obtain ⟨kk, vv⟩ := x
      simp only at c1' c2' hgs
      have hbd := partOf_bd P kk (by omega)
      obtain ⟨q, hq⟩ : ∃ q : Nat, partOf P kk = q := ⟨(partOf P kk).toNat, by omega⟩
      have hBi : Below w.heap.size w (wr.alloc (.cells #[.string kk, .string vv] 35)) := hB.alloc hB.size _
      have cI0 : (wr.alloc (.cells #[.string kk, .string vv] 35)).cell? ⟨wr.heap.size, 0, none⟩ = some (.string kk) := (Blk.new wr _ _).cell (o := 0) rfl
      have hBr : Below wr.heap.size wr (wr.alloc (.cells #[.string kk, .string vv] 35)) := (Below.refl _ _).alloc (Nat.le_refl _) _
      have cpo := partOf_any (w := wr.alloc (.cells #[.string kk, .string vv] 35)) b P (some ⟨pg, 0, none⟩) pc kk (by omega) (by omega) hP4 ((hBi.cell (p := ⟨b, 1, none⟩) hbl).trans cs)
      unfold ptr at cpo
      have hqP : q < P := by omega
      have hpqq := hpq q hqP
      clear hcell c1 c2 hpq hx
      rw [hq] at cpo
      go_wp2_with fail
      refine cpo.mono ?_
      rintro e w2 ⟨rfl, hB2⟩
      clear cpo
      have hB02 : Below w.heap.size w w2 := hBi.trans (hB2.mono hBi.size)
      have hIt2 : Blk w2 wr.heap.size #[.string kk, .string vv] 35 := (Blk.new wr _ _).of_eq (hB2.block _ (by simp))
      have i0 : w2.cell? ⟨wr.heap.size, 0, none⟩ = some (.string kk) := hIt2.cell (o := 0) rfl
      have i1 : w2.cell? ⟨wr.heap.size, 1, none⟩ = some (.string vv) := hIt2.cell (o := 1) rfl
      have s1 : w2.cell? ⟨b, 1, none⟩ = some (.slice (some ⟨pg, 0, none⟩) P pc) := (hB02.cell (p := ⟨b, 1, none⟩) hbl).trans cs
      have p1 : w2.cell? ⟨pg, q, none⟩ = some (.pointer (some ⟨pb q, 0, none⟩)) := (hB02.cell (p := ⟨pg, q, none⟩) hpgl).trans hpqq
      have hW2 := hW.below (hBr.trans (hB2.mono hBr.size))
      have ca := add_any (w := w2.drew) (hW2.below (Below.refl _ _).drew) hP1 hP4 kk vv q hq (by simp; omega) (by omega) (by omega)
      unfold ptr at ca
      have hsz2 := hB02.size
      go_wp2_with fail
      have HTq : Hid (L.take k ++ [(kk, vv)] = L.take (k + 1)) := HTk.out.symm
      clear HTk
      go_region_with ((go_at_call 71; refine ca.mono ?_; rintro e w3 ⟨rfl, τ2, sh2, iv2, hW3, hB3, hT3⟩))
      all_goals
        have HT3 : Hid (∀ k, k < w.heap.size → τ2 k = τ k) := fun k hk => (hT3 k (by show k < w2.heap.size; omega)).trans (HT.out k hk)
        clear ca hT3
        rw [HTq.out] at hW3
        go_wp2_with fail
        go_roundw
        case rel => exact ⟨k + 1, τ2, sh2, iv2, by omega, by go_num, hW3, hB02.drew.trans hB3, HT3⟩
        case measure => simp [intOf]; omega
    · have hkL : k = L.length := by omega
      rw [hkL, List.take_length] at hW
      clear hcell hpq hkL
      go_wp2_with fail
      go_ret
      exact ⟨τ1, w.heap.size + 1, w.heap.size, sh1, iv1, rfl, hW, hB, HT.out⟩

end
end Go.Proofs.Ytgffdomnihhcbaa
