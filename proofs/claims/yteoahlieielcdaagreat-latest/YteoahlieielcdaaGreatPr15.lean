/-
  The program: newWrite.
-/
import Derived.Test.YteoahlieielcdaaGreatPr14
import Derived.Test.YteoahlieielcdaaGreatPrS
namespace Go.Proofs.YteoahlieielcdaaGreat
open Go Go.RowKit Go.MuLone
open Go.Maps (Keyed)

section
variable {w : World} {τ : Nat → Tag} {sid i P : Nat} {pb : Nat → Nat} {pw sm : Nat} {sh : Nat → Nat} {iv : Nat → Value} {sv kv : Value} {K : List ByteArray} {L : List KV} {B0 : Nat}

theorem PartW.below (h : PartW w τ sid i P pb pw sm sh iv sv kv K L B0) {w' : World} (hB : Below w.heap.size w w') : PartW w' τ sid i P pb pw sm sh iv sv kv K L B0 :=
  ⟨h.blk.of_eq (hB.block _ h.blk.lt), h.tag, h.map.of_eq (hB.block _ h.map.lt), h.mapTag, fun q ho => (h.shB q ho).of_eq (hB.block _ (h.shB q ho).lt), h.shTag, fun q ho => row_of_block (h.it q ho) (fun k hk => hB.block k (row_ge (h.it q ho) k hk).2), h.itTag, row_of_block h.ky (fun k hk => hB.block k (row_ge h.ky k hk).2), h.kyTag, h.lo, h.loSh, h.loIt, h.loK⟩

theorem PartW.frame (h : PartW w τ sid i P pb pw sm sh iv sv kv K L B0) {w' : World} (hB : ∀ k, B0 ≤ k → k < w.heap.size → w'.heap[k]? = w.heap[k]?) : PartW w' τ sid i P pb pw sm sh iv sv kv K L B0 :=
  ⟨h.blk.of_eq (hB _ h.lo.1 h.blk.lt), h.tag, h.map.of_eq (hB _ h.lo.2 h.map.lt), h.mapTag, fun q ho => (h.shB q ho).of_eq (hB _ (h.loSh q ho) (h.shB q ho).lt), h.shTag, fun q ho => row_of_block (h.it q ho) (fun k hk => hB k (h.loIt q k ho hk) (row_ge (h.it q ho) k hk).2), h.itTag, row_of_block h.ky (fun k hk => hB k (h.loK k hk) (row_ge h.ky k hk).2), h.kyTag, h.lo, h.loSh, h.loIt, h.loK⟩

theorem shF_nil (P : Nat) (sh : Nat → Nat) : shF P sh [] = fun _ => none := by
  funext kl
  cases kl with
  | int k n => cases k <;> simp [shF, onPart]
  | _ => rfl

/-- a write that was just begun -/
theorem PartW.made (w : World) (τ : Nat → Tag) (sid i P : Nat) (pb : Nat → Nat) :
    PartW ((w.alloc (.map #[] 0)).alloc (.cells #[mu0, sem0, .int .i64 ((i : Int) + 1), .nilIface, .bool false, .map (some w.heap.size)] 164))
      (fun k => if k = w.heap.size + 1 then (sid, 6, i) else if k = w.heap.size then (sid, 7, i) else τ k) sid i P pb (w.heap.size + 1) w.heap.size (fun _ => 0) (fun _ => .slice none 0 0) .nilIface (.slice none 0 0) [] [] w.heap.size := by
  refine ⟨?_, by simp, ?_, by simp, fun q ho => by simp [onPart] at ho, fun q ho => by simp [onPart] at ho, fun q ho => by simp [onPart] at ho, fun q k ho => by simp [onPart] at ho, World.ownsRow_nil _ _ _ _, fun k hk => (by cases hk), ⟨by omega, by omega⟩, fun q ho => by simp [onPart] at ho, fun q k ho => by simp [onPart] at ho, fun k hk => (by cases hk)⟩
  · have := Blk.new (w.alloc (.map #[] 0)) #[mu0, sem0, .int .i64 ((i : Int) + 1), .nilIface, .bool false, .map (some w.heap.size)] 164
    simpa using this
  · rw [shF_nil]
    exact (MapF.made w Tryz.prog 3).of_eq (Below.heap_alloc _ _ _ (by simp))

theorem infoStr2 : (Tryz.prog.info? 9).map (fun i => (i.zero, i.size, i.bytes)) = some (some (.string ByteArray.empty), 1, 16) := by kernel_rfl

/-- the list of keys grows -/
theorem PartW.key (h : PartW w τ sid i P pb pw sm sh iv sv kv K L B0) {w2 : World} {o : Obj} {v2 : Value} {x : ByteArray} (hB0 : B0 ≤ w.heap.size)
    (hO : w2.ownsRow 0 9 1 v2 (K.length + 1) (K.map Value.string ++ [.string x])) (hG : (w.alloc o).grownBy w2 kv.ownBlock) (hA : v2.ownBlock = kv.ownBlock ∨ v2.ownBlock = some (w.alloc o).heap.size) :
    ∃ τ', PartW w2 τ' sid i P pb pw sm sh iv sv v2 (K ++ [x]) L B0 ∧ Below B0 w w2 ∧ ∀ k, k < w.heap.size → τ' k = τ k := by
  have hsz : w.heap.size < w2.heap.size := by have := hG.size; simp at this; omega
  have hnb : ∀ k, v2.ownBlock = some k → kv.ownBlock = some k ∨ w.heap.size < k := fun k hk => by
    rcases hA with e | e
    · exact Or.inl (by rw [← e]; exact hk)
    · rw [hk] at e
      have := Option.some.inj e
      simp at this
      exact Or.inr (by omega)
  have hold : ∀ {k : Nat} {g : Nat × Nat}, k < w.heap.size → τ k = (sid, g) → g.1 ≠ 15 → w2.heap[k]? = w.heap[k]? := fun {k g} hk ht hg =>
    (hG.block k (by simp; omega) (fun e => by have := h.kyTag k e.symm; rw [ht] at this; simp at this; exact hg (by rw [this]))).trans (Below.heap_alloc _ _ _ hk)
  have htag : ∀ k, k < w.heap.size → (if v2.ownBlock = some k then (sid, 15, i) else τ k) = τ k := fun k hk => by
    by_cases e : v2.ownBlock = some k
    · rw [if_pos e]
      rcases hnb k e with e1 | e1
      · rw [h.kyTag k e1]
      · omega
    · rw [if_neg e]
  refine ⟨fun k => if v2.ownBlock = some k then (sid, 15, i) else τ k, ⟨h.blk.of_eq (hold h.blk.lt h.tag (by simp)), (htag _ h.blk.lt).trans h.tag, h.map.of_eq (hold h.map.lt h.mapTag (by simp)), (htag _ h.map.lt).trans h.mapTag,
    fun q ho => (h.shB q ho).of_eq (hold (h.shB q ho).lt (h.shTag q ho) (by simp)), fun q ho => (htag _ (h.shB q ho).lt).trans (h.shTag q ho), fun q ho => row_of_block (h.it q ho) (fun k hk => hold (row_ge (h.it q ho) k hk).2 (h.itTag q k ho hk) (by simp)),
    fun q k ho hk => (htag k (row_ge (h.it q ho) k hk).2).trans (h.itTag q k ho hk), by simpa using hO, fun k hk => if_pos hk, h.lo, h.loSh, h.loIt, fun k hk => ?_⟩, ⟨hG.os, hG.tape, hG.output, by omega, fun k hk => ?_⟩, htag⟩
  · rcases hnb k hk with e | e
    · exact h.loK k e
    · omega
  · exact (hG.block k (by simp; omega) (fun e => by have := h.loK k e.symm; omega)).trans (Below.heap_alloc _ _ _ (by omega))

/-- what is carried along is laid into the write -/
theorem PartW.carry (h : PartW w τ sid i P pb pw sm sh iv sv kv K L B0) (sv' : Value) : PartW (w.setCell ⟨pw, 3, none⟩ sv') τ sid i P pb pw sm sh iv sv' kv K L B0 := by
  have hne : ∀ {k : Nat} {g : Nat × Nat}, τ k = (sid, g) → g.1 ≠ 6 → (w.setCell ⟨pw, 3, none⟩ sv').heap[k]? = w.heap[k]? := fun {k g} ht hg => Below.heap_setCell _ _ _ _ (fun e => by
    have e' : k = pw := e
    rw [e', h.tag] at ht; simp at ht; exact hg (by rw [← ht]))
  refine ⟨?_, h.tag, h.map.of_eq (hne h.mapTag (by simp)), h.mapTag, fun q ho => (h.shB q ho).of_eq (hne (h.shTag q ho) (by simp)), h.shTag, fun q ho => row_of_block (h.it q ho) (fun k hk => hne (h.itTag q k ho hk) (by simp)), h.itTag, row_of_block h.ky (fun k hk => hne (h.kyTag k hk) (by simp)), h.kyTag, h.lo, h.loSh, h.loIt, h.loK⟩
  have := h.blk.set 3 sv'
  simpa using this

set_option maxRecDepth 100000 in
set_option maxHeartbeats 4000000 in
theorem newWrite_any (b : Nat) (mode : Int) (cm : w.cell? ⟨b, 0, none⟩ = some (.int .i64 mode)) (parr : Value) (cs : w.cell? ⟨b, 1, none⟩ = some parr) (hpr : w.ownsRow 0 130 1 parr P ((List.range P).map (fun q => ptr (pb q)))) (hP1 : 1 ≤ P) (hP4 : P ≤ 4) (gb go cap : Nat) (h1 : 1 ≤ L.length) (h8 : L.length ≤ 8) (hg : ∀ x ∈ L, goodKV x = true)
    (hcell : ∀ (k : Nat) (x : KV), L[k]? = some x → w.cell? ⟨gb, go + k * 2, none⟩ = some (.string x.1) ∧ w.cell? ⟨gb, go + k * 2 + 1, none⟩ = some (.string x.2)) :
    Calls Tryz.prog 48 #[ptr b, .int .i64 ((i : Int) + 1), .slice (some ⟨gb, go, none⟩) L.length cap] w fun e w' => ∃ τ' pw sm sh iv sv kv, e = .returned (ptr pw) ∧ PartW w' τ' sid i P pb pw sm sh iv sv kv (L.map Prod.fst) L w.heap.size ∧ IsIf sv ∧ Below w.heap.size w w' ∧ ∀ k, k < w.heap.size → τ' k = τ k := by
  have hbl := World.block_lt_of_cell? w _ cs
  simp only at hbl
  obtain ⟨pg, pc, hpv, _, hpc, hpcell, _⟩ := row_form hpr (by omega)
  subst hpv
  have hpgl : pg < w.heap.size := (row_ge hpr pg rfl).2
  have hpq : ∀ q, q < P → w.cell? ⟨pg, q, none⟩ = some (.pointer (some ⟨pb q, 0, none⟩)) := fun q hq => by
    rw [hpcell q (by omega), List.getElem?_map, List.getElem?_range hq]; rfl
  have hmm := @run_makeMap Tryz.prog
  obtain ⟨si, hsi, sz0, sz1, sz2⟩ := info_parts infoStr2
  clear hpcell
  unfold ptr
  go_enter Tryz.func48, Tryz.ntmps48
  go_wp2_with fail
  go_loopw [8, 19] (fun s8 u wr => ∃ (k : Nat) (τ' : Nat → Tag) (sh : Nat → Nat) (iv : Nat → Value), k ≤ L.length ∧ u = .int .i64 k ∧ PartW wr τ' sid i P pb (w.heap.size + 1) w.heap.size sh iv .nilIface s8 ((L.take k).map Prod.fst) (L.take k) w.heap.size ∧ Below w.heap.size w wr ∧ Hid (∀ k, k < w.heap.size → τ' k = τ k)) (fun _ u _ => L.length - (intOf u).toNat)
  case atStart =>
    refine ⟨0, _, _, _, Nat.zero_le _, rfl, PartW.made w τ sid i P pb, ?_, fun k hk => ?_⟩
    · exact ((Below.refl _ _).alloc (Nat.le_refl _) _).alloc (by simp) _
    · have e1 : k ≠ w.heap.size + 1 := by omega
      have e2 : k ≠ w.heap.size := by omega
      simp [e1, e2]
  case round =>
    obtain ⟨k, τ1, sh1, iv1, hk, rfl, hW, hB, HT⟩ := hrel
    by_cases hlt : k < L.length
    · have hx : L[k]? = some L[k] := List.getElem?_eq_getElem hlt
      obtain ⟨c1, c2⟩ := hcell k _ hx
      have hgb : gb < w.heap.size := World.block_lt_of_cell? w _ c1
      have c1' := (hB.cell (p := ⟨gb, go + k * 2, none⟩) hgb).trans c1
      have c2' := (hB.cell (p := ⟨gb, go + k * 2 + 1, none⟩) hgb).trans c2
      have hgs := goodKV_size (hg _ (List.getElem_mem hlt))
      have HTk : Hid (L.take (k + 1) = L.take k ++ [L[k]]) := List.take_succ_eq_append_getElem hlt
      generalize L[k] = x at *
      obtain ⟨kk, vv⟩ := x
      simp only at c1' c2' hgs
      have hbd := partOf_bd P kk (by omega)
      obtain ⟨q, hq⟩ : ∃ q : Nat, partOf P kk = q := ⟨(partOf P kk).toNat, by omega⟩
      have hqP : q < P := by omega
      have hpqq := hpq q hqP
      clear hcell c1 c2 hpq hx
      go_upto_region 6 with (fail)
      have hBa : Below w.heap.size w (wr.alloc (.cells #[.string kk, .string vv] 70)) := hB.alloc hB.size _
      have hBr : Below wr.heap.size wr (wr.alloc (.cells #[.string kk, .string vv] 70)) := (Below.refl _ _).alloc (Nat.le_refl _) _
      have b0 : (wr.alloc (.cells #[.string kk, .string vv] 70)).cell? ⟨wr.heap.size, 0, none⟩ = some (.string kk) := (Blk.new wr _ _).cell (o := 0) rfl
      have b1 : (wr.alloc (.cells #[.string kk, .string vv] 70)).cell? ⟨wr.heap.size, 1, none⟩ = some (.string vv) := (Blk.new wr _ _).cell (o := 1) rfl
      have hbxl : wr.heap.size < (wr.alloc (.cells #[.string kk, .string vv] 70)).heap.size := by simp
      generalize wr.alloc (.cells #[.string kk, .string vv] 70) = wa at *
      go_cut [11] (fun s11 wx => ∃ ob, s11 = .pointer (some ⟨ob, 0, none⟩) ∧ Blk wx ob #[.string kk, .string vv] 70 ∧ Below wa.heap.size wa wx ∧ wa.heap.size ≤ ob)
      case first =>
        have hcur : Below wa.heap.size wa wa.drew := (Below.refl _ _).drew
        go_region_held3 (fun W => W.cell? ⟨wr.heap.size, 0, none⟩ = some (.string kk) ∧ W.cell? ⟨wr.heap.size, 1, none⟩ = some (.string vv)) (first | (simp [*]; done) | (refine ⟨?_, ?_⟩ <;> (rw [World.cell?_of_block (w := w2) (Below.heap_alloc w2 _ _ (by have := hcur.size; omega))]; assumption)) | (refine ⟨?_, ?_⟩ <;> (rw [World.cell?_of_block (w := wa.drew) (Below.heap_alloc wa.drew _ _ (by have := hcur.size; omega))]; assumption)) | (refine ⟨?_, ?_⟩ <;> (rw [cell_far (by simp only; omega), cell_far (by simp only; omega)]; assumption)) | (go_keep; done)) ((go_at_call 85; refine (clone_any _ (by omega)).mono ?_; rintro e w2 ⟨rfl, hB2⟩; have hnx : Below wa.heap.size wa w2 := (by first | exact hcur.trans (hB2.mono hcur.size) | exact (hcur.alloc hcur.size _).trans (hB2.mono (Nat.le_trans hcur.size (by simp)))); have q0 := (hnx.cell (p := ⟨wr.heap.size, 0, none⟩) hbxl).trans b0; have q1 := (hnx.cell (p := ⟨wr.heap.size, 1, none⟩) hbxl).trans b1; have hcur := hnx; have hszc : wa.heap.size ≤ w2.heap.size := hnx.size; have hszn : wr.heap.size < w2.heap.size := Nat.lt_of_lt_of_le hbxl hnx.size; first | (have r9 := own_kept hB2 hown; clear hown; have hown := r9; have r0 := hown.cell (o := 0) (v := .string ⟨#[]⟩) rfl; have r1 := hown.cell (o := 1) (v := .string ⟨#[]⟩) rfl; have r2 := hown.frozen 0; have r3 := hown.frozen 1) | (have hown := own_newD hB2; have r0 := hown.cell (o := 0) (v := .string ⟨#[]⟩) rfl; have r1 := hown.cell (o := 1) (v := .string ⟨#[]⟩) rfl; have r2 := hown.frozen 0; have r3 := hown.frozen 1) | (have hown := own_new hB2; have r0 := hown.cell (o := 0) (v := .string ⟨#[]⟩) rfl; have r1 := hown.cell (o := 1) (v := .string ⟨#[]⟩) rfl; have r2 := hown.frozen 0; have r3 := hown.frozen 1) | skip))
        · go_wp2_with fail
          go_meet
          case rel => exact ⟨w2.heap.size, rfl, Blk.new _ _ _, hcur.alloc hcur.size _, hcur.size⟩
        · go_wp2_with fail
          go_meet
          case rel =>
            exact ⟨_, rfl, own_set hown kk vv, (hcur.setCell (p := ⟨_, 0, none⟩) (by simp only; omega) _).setCell (p := ⟨_, 1, none⟩) (by simp only; omega) _, by omega⟩
        · go_wp2_with fail
          go_meet
          case rel =>
            exact ⟨_, rfl, own_set hown kk vv, (hcur.setCell (p := ⟨_, 0, none⟩) (by simp only; omega) _).setCell (p := ⟨_, 1, none⟩) (by simp only; omega) _, by omega⟩
      case rest =>
        obtain ⟨ob, rfl, hob, hBx, hol⟩ := hcut
        have hBc : Below w.heap.size w wc := hBa.trans (hBx.mono hBa.size)
        have hBrc : Below wr.heap.size wr wc := hBr.trans (hBx.mono hBr.size)
        have o0 : wc.cell? ⟨ob, 0, none⟩ = some (.string kk) := hob.cell (o := 0) rfl
        have cpo := partOf_any (w := wc) b P (some ⟨pg, 0, none⟩) pc kk (by omega) (by omega) hP4 ((hBc.cell (p := ⟨b, 1, none⟩) hbl).trans cs)
        unfold ptr at cpo
        rw [hq] at cpo
        clear b0 b1
        go_wp2_with fail
        refine cpo.mono ?_
        rintro e w2 ⟨rfl, hB2⟩
        clear cpo
        have hB02 : Below w.heap.size w w2 := hBc.trans (hB2.mono hBc.size)
        have hIt2 : Blk w2 ob #[.string kk, .string vv] 70 := hob.of_eq (hB2.block _ hob.lt)
        have i0 : w2.cell? ⟨ob, 0, none⟩ = some (.string kk) := hIt2.cell (o := 0) rfl
        have i1 : w2.cell? ⟨ob, 1, none⟩ = some (.string vv) := hIt2.cell (o := 1) rfl
        have s1 : w2.cell? ⟨b, 1, none⟩ = some (.slice (some ⟨pg, 0, none⟩) P pc) := (hB02.cell (p := ⟨b, 1, none⟩) hbl).trans cs
        have p1 : w2.cell? ⟨pg, q, none⟩ = some (.pointer (some ⟨pb q, 0, none⟩)) := (hB02.cell (p := ⟨pg, q, none⟩) hpgl).trans hpqq
        have hW2 := hW.below (hBrc.trans (hB2.mono hBrc.size))
        have ca := add_any (w := w2.drew) (hW2.below (Below.refl _ _).drew) hP1 hP4 kk vv q hq (by simp; omega)
        unfold ptr at ca
        have hsz2 := hB02.size
        have hobl := hIt2.lt
        have hobn : Hid (∀ q' : Nat, onPart P (L.take k) q' = true → ob ≠ sh1 q' ∧ (iv1 q').ownBlock ≠ some ob) := fun q' ho => ⟨fun e => by have := (hW.shB q' ho).lt; omega, fun e => by have := (row_ge (hW.it q' ho) ob e).2; omega⟩
        have hobs : ob ≠ w.heap.size := by have := hW.map.lt; omega
        have HTq : Hid (L.take k ++ [(kk, vv)] = L.take (k + 1)) := HTk.out.symm
        have HKq : Hid ((L.take k).map Prod.fst ++ [kk] = (L.take (k + 1)).map Prod.fst) := by unfold Hid; rw [HTk.out]; simp
        clear HTk
        go_upto_region 8 with (fail)
        go_cut [12] (fun s12 wx => ∃ τ2 sh2 iv2, PartW wx τ2 sid i P pb (w.heap.size + 1) w.heap.size sh2 iv2 .nilIface u8 ((L.take k).map Prod.fst) (L.take (k + 1)) w.heap.size ∧ Below w.heap.size w wx ∧ Hid (∀ k, k < w.heap.size → τ2 k = τ k) ∧ wx.cell? ⟨ob, 0, none⟩ = some (.string kk))
        case first =>
          go_region_with ((go_at_call 86; refine ca.mono ?_; rintro e w3 ⟨rfl, τ2, sh2, iv2, hW3, hB3, hT3, hF3⟩))
          all_goals
            have HT3 : Hid (∀ k, k < w.heap.size → τ2 k = τ k) := fun k hk => (hT3 k (by show k < w2.heap.size; omega)).trans (HT.out k hk)
            have j0 : w3.cell? ⟨ob, 0, none⟩ = some (.string kk) := (World.cell?_of_block (w := w2.drew) (hF3 ob hobl hobs hobn.out)).trans i0
            clear ca hT3 hF3
            rw [HTq.out] at hW3
            go_wp2_with fail
            go_meet
            case rel => exact ⟨τ2, sh2, iv2, hW3, hB02.drew.trans hB3, HT3, j0⟩
        case rest =>
          obtain ⟨τ2, sh2, iv2, hW3, hB3, HT3, j0⟩ := hcut
          rename World => wd
          have hlenk : ((L.take k).map Prod.fst).length = k := by simp; omega
          obtain ⟨av, capv, hkv⟩ := row_len hW3.ky
          have hky := hW3.ky
          have HK : Hid (∀ (w4 : World) (v4 : Value) (o : Obj), w4.ownsRow 0 9 1 v4 (k + 1) (((L.take k).map Prod.fst).map Value.string ++ [.string kk]) → (wd.alloc o).grownBy w4 u8.ownBlock → (v4.ownBlock = u8.ownBlock ∨ v4.ownBlock = some (wd.alloc o).heap.size) →
              ∃ τ' : Nat → Tag, PartW w4 τ' sid i P pb (w.heap.size + 1) w.heap.size sh2 iv2 .nilIface v4 ((L.take (k + 1)).map Prod.fst) (L.take (k + 1)) w.heap.size ∧ Below w.heap.size wd w4 ∧ ∀ k, k < wd.heap.size → τ' k = τ2 k) := fun w4 v4 o a1 a2 a3 => by
            rw [← HKq.out]
            exact hW3.key hB3.size (by rw [hlenk]; exact a1) a2 a3
          rw [hlenk] at hky hkv
          generalize ((L.take k).map Prod.fst).map Value.string = xs at *
          subst hkv
          have hsd := hB3.size
          go_wp2_with (at_builtin; refine wpList_append_own_at _ rfl (.tmp 45) (.tmp 48) 38 rfl 0 9 si _ 1 16 Tryz.underlying38 hsi sz0 sz1 sz2 rfl (by decide) (.slice av k capv) k xs rfl (hky.alloc _) ⟨_, 0, none⟩ 1 1 [.string kk] rfl rfl (cell_one_new _ _ _) (by simp [Value.oneCell']) (by unfold maxLen; omega) (by omega) (Nat.zero_le _) ?_; intro v4 w4 hO4 hG4 hN4 hA4)
          obtain ⟨τ4, hW4, hB4, hT4⟩ := HK.out w4 v4 _ hO4 hG4 hA4
          have HT4 : Hid (∀ k, k < w.heap.size → τ4 k = τ k) := fun k hk => (hT4 k (by omega)).trans (HT3.out k hk)
          clear hT4
          go_wp2_with fail
          go_roundw
          case rel => exact ⟨k + 1, τ4, sh2, iv2, by omega, by go_num, hW4, hB3.trans hB4, HT4⟩
          case measure => simp [intOf]; omega
    · have hkL : k = L.length := by omega
      rw [hkL, List.take_length] at hW
      have cm' := (hB.cell (p := ⟨b, 0, none⟩) hbl).trans cm
      obtain ⟨av, capv, hkv⟩ := row_len hW.ky
      have hlenk : (L.map Prod.fst).length = L.length := by simp
      rw [hlenk] at hkv
      have hkc : ∀ (j : Nat) (x : ByteArray), (L.map Prod.fst)[j]? = some x → ∃ gb, av = some ⟨gb, 0, none⟩ ∧ wr.cell? ⟨gb, j, none⟩ = some (.string x) := fun j x hx => by
        have hj := lt_of_some hx
        obtain ⟨g, c, e, _, _, hc, _⟩ := row_form hW.ky (by omega)
        rw [hkv] at e
        injection e with e1 e2 e3
        refine ⟨g, e1, ?_⟩
        rw [hc j (by omega), List.getElem?_map, hx]; rfl
      have hkz : ∀ x ∈ L.map Prod.fst, x.size ≤ 8 := fun x hx => by
        obtain ⟨y, hy, rfl⟩ := List.mem_map.1 hx
        exact (goodKV_size (hg y hy)).2.1
      have csb := siblingsOf_any (w := wr) mode av (L.map Prod.fst) capv (by omega) hkz hkc
      rw [hlenk] at csb
      have hpl := hW.blk.lt
      subst hkv
      clear hcell hpq hkL hkc hkz
      go_wp2_with fail
      refine csb.mono ?_
      rintro e w2 ⟨⟨sv, rfl, hsv⟩, hB2⟩
      clear csb
      have hW2 := hW.below hB2
      have HF : Hid (PartW (w2.setCell ⟨w.heap.size + 1, 3, none⟩ sv) τ1 sid i P pb (w.heap.size + 1) w.heap.size sh1 iv1 sv (.slice av L.length capv) (L.map Prod.fst) L w.heap.size) := hW2.carry sv
      have d3 : w2.cell? ⟨w.heap.size + 1, 3, none⟩ = some .nilIface := hW2.blk.cell (o := 3) rfl
      have f3 := hW2.blk.frozen 3
      have HI : Hid (IsIf sv) := hsv
      have HB : Hid (Below w.heap.size w (w2.setCell ⟨w.heap.size + 1, 3, none⟩ sv)) := (hB.trans (hB2.mono hB.size)).setCell (p := ⟨w.heap.size + 1, 3, none⟩) (by simp) sv
      rcases hsv with rfl | ⟨st, sx, rfl⟩
      all_goals
        go_wp2_with fail
        go_ret
        exact ⟨τ1, w.heap.size + 1, w.heap.size, sh1, iv1, _, _, rfl, HF.out, HI.out, HB.out, HT.out⟩

end
end Go.Proofs.YteoahlieielcdaaGreat
