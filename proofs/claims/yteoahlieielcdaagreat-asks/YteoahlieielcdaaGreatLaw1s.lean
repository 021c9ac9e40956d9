/-
  The statement's own functions: strings.
-/
import Derived.Test.YteoahlieielcdaaGreatLRep
namespace Go.Proofs.YteoahlieielcdaaGreat
open Go Go.RowKit

theorem infoTxs : (Tryz.prog.info? 38).map (fun i => (i.zero, i.size, i.bytes)) = some (some (.slice none 0 0), 1, 24) := by kernel_rfl

/-- the list that comes is the next one -/
def pushTA (a : LA) (txv tmv : Value) (lb ln : Nat) (x : ByteArray) : LA :=
  { a with txv := txv, tmv := tmv, tb := fun j => if j = a.K then lb else a.tb j, tn := fun j => if j = a.K then ln else a.tn j, tmk := fun j => if j = a.K then x else a.tmk j, K := a.K + 1 }
def pushTT (τ : Nat → Tag) (itv imv : Value) : Nat → Tag := fun k => if itv.ownBlock = some k then (1, 5, 0) else if imv.ownBlock = some k then (1, 6, 0) else τ k

section
variable {w : World} {τ : Nat → Tag} {wb n : Nat} {c : Int} {a : LA}

theorem textRow_of {arr : Array Value} {n : Nat} {x : ByteArray} (hs : arr.size = n) (h : ∀ j, j < n → arr[j]? = some (.string x)) : arr = textRow n x := by
  apply Array.ext_getElem?
  intro j
  by_cases hj : j < n
  · rw [h j hj]
    simp [textRow, hj]
  · rw [Array.getElem?_eq_none (by omega), Array.getElem?_eq_none (by simp [textRow]; omega)]

theorem texts_after (h : LBase w τ wb n c a) {o1 : Obj} {v2 : Value} {w2 : World} (hG2 : (w.alloc o1).grownBy w2 a.txv.ownBlock) (hA2 : v2.ownBlock = a.txv.ownBlock ∨ v2.ownBlock = some (w.alloc o1).heap.size) :
    Blk w2 wb #[a.stv, .slice none 0 0, .slice none 0 0, a.txv, a.tmv, a.itv, a.imv, .int .i64 c] 84 ∧ (∀ v, (w2.setCell ⟨wb, 3, none⟩ v).ownsRow 0 9 1 a.tmv a.K ((List.range a.K).map (fun j => .string (a.tmk j)))) ∧ (∀ k, v2.ownBlock = some k → k ≠ wb) ∧ ∀ k, k < w.heap.size → a.txv.ownBlock ≠ some k → w2.heap[k]? = w.heap[k]? := by
  have hk2 : ∀ k, k < w.heap.size → a.txv.ownBlock ≠ some k → w2.heap[k]? = w.heap[k]? := by
    intro k hk hn
    rw [hG2.block k (by simp; omega) (fun e => hn e.symm), Below.heap_alloc _ _ _ hk]
  have hwl := h.blk.lt
  have hwi : a.txv.ownBlock ≠ some wb := fun e => by have := h.txTag wb e; rw [h.tag] at this; simp at this
  refine ⟨h.blk.of_eq (hk2 wb hwl hwi), fun v => ?_, fun k hk e => ?_, hk2⟩
  · refine row_of_block h.tm (fun k hk => ?_)
    have h1 := h.tmTag k hk
    rw [Below.heap_setCell _ _ _ _ (fun e => by subst e; rw [h.tag] at h1; simp at h1)]
    exact hk2 k (row_ge h.tm k hk).2 (fun e => by rw [h.txTag k e] at h1; simp at h1)
  · subst e
    rcases hA2 with e | e
    · exact hwi (e.symm.trans hk)
    · rw [hk] at e
      simp at e
      omega

theorem push_texts (h : LBase w τ wb n c a) {lb ln : Nat} {x : ByteArray} (hl : Blk w lb (textRow ln x) 9) (ht : τ lb = (1, 7, a.K)) (hln : ln ≤ 8796093022208)
    {o1 : Obj} {v2 : Value} {w2 : World} (hG2 : (w.alloc o1).grownBy w2 a.txv.ownBlock) (hA2 : v2.ownBlock = a.txv.ownBlock ∨ v2.ownBlock = some (w.alloc o1).heap.size)
    (hO2 : w2.ownsRow 0 38 1 v2 (a.K + 1) ((List.range a.K).map (textVal a) ++ [.slice (some ⟨lb, 0, none⟩) ln ln]))
    {o2 : Obj} {v4 : Value} {w4 : World} (hG4 : ((w2.setCell ⟨wb, 3, none⟩ v2).alloc o2).grownBy w4 a.tmv.ownBlock) (hA4 : v4.ownBlock = a.tmv.ownBlock ∨ v4.ownBlock = some ((w2.setCell ⟨wb, 3, none⟩ v2).alloc o2).heap.size)
    (hO4 : w4.ownsRow 0 9 1 v4 (a.K + 1) ((List.range a.K).map (fun j => .string (a.tmk j)) ++ [.string x])) :
    LBase (w4.setCell ⟨wb, 4, none⟩ v4) (pushTT τ v2 v4) wb n c (pushTA a v2 v4 lb ln x) ∧ Stp 1 τ w (pushTT τ v2 v4) (w4.setCell ⟨wb, 4, none⟩ v4) := by
  obtain ⟨b2, i2, n2, k2⟩ := texts_after h hG2 hA2
  have hwl := h.blk.lt
  have hs2 : w.heap.size + 1 ≤ w2.heap.size := by simpa using hG2.size
  have hs4 : w2.heap.size + 1 ≤ w4.heap.size := by simpa [World.setCell] using hG4.size
  have hwi : a.txv.ownBlock ≠ some wb := fun e => by have := h.txTag wb e; rw [h.tag] at this; simp at this
  have hwm : a.tmv.ownBlock ≠ some wb := fun e => by have := h.tmTag wb e; rw [h.tag] at this; simp at this
  have n4 : ∀ k, v4.ownBlock = some k → k ≠ wb := by
    intro k hk e
    subst e
    rcases hA4 with e | e
    · exact hwm (e.symm.trans hk)
    · rw [hk] at e
      simp [World.setCell] at e
      omega
  have k4 : ∀ k, k < w2.heap.size → a.tmv.ownBlock ≠ some k → k ≠ wb → (w4.setCell ⟨wb, 4, none⟩ v4).heap[k]? = w2.heap[k]? := by
    intro k hk hm hn
    rw [Below.heap_setCell _ _ _ _ hn, hG4.block k (by simp [World.setCell]; omega) (fun e => hm e.symm), Below.heap_alloc _ _ _ (by simpa [World.setCell] using hk), Below.heap_setCell _ _ _ _ hn]
  have kk : ∀ k, k < w.heap.size → a.txv.ownBlock ≠ some k → a.tmv.ownBlock ≠ some k → k ≠ wb → (w4.setCell ⟨wb, 4, none⟩ v4).heap[k]? = w.heap[k]? := fun k h1 h2 h3 h4 => (k4 k (by omega) h3 h4).trans (k2 k h1 h2)
  have tk : ∀ k, k < w.heap.size → pushTT τ v2 v4 k = τ k := by
    intro k hk
    unfold pushTT
    split
    · rename_i e
      rcases hA2 with e2 | e2
      · rw [h.txTag k (e2.symm.trans e)]
      · rw [e] at e2; simp at e2; omega
    · split
      · rename_i e
        rcases hA4 with e2 | e2
        · rw [h.tmTag k (e2.symm.trans e)]
        · rw [e] at e2; simp [World.setCell] at e2; omega
      · rfl
  have bw4 : Blk w4 wb #[a.stv, .slice none 0 0, .slice none 0 0, v2, a.tmv, a.itv, a.imv, .int .i64 c] 84 := by
    have e1 := (b2.set 3 v2).of_eq (Below.heap_alloc (w2.setCell ⟨wb, 3, none⟩ v2) o2 wb (by simp [World.setCell]; omega))
    exact e1.of_eq (hG4.block wb (by simp [World.setCell]; omega) (fun e => hwm e.symm))
  have hblk : ∀ {k : Nat} {c : Array Value} {t : TypeId} {g : Nat × Nat}, Blk w k c t → τ k = (1, g) → g ≠ (0, 0) → g ≠ (5, 0) → g ≠ (6, 0) → Blk (w4.setCell ⟨wb, 4, none⟩ v4) k c t ∧ pushTT τ v2 v4 k = (1, g) := by
    intro k c t g hb hg h0 h2 h3
    refine ⟨hb.of_eq (kk k hb.lt (fun e => ?_) (fun e => ?_) (fun e => ?_)), (tk k hb.lt).trans hg⟩
    · rw [h.txTag k e] at hg; simp at hg; exact h2 hg.symm
    · rw [h.tmTag k e] at hg; simp at hg; exact h3 hg.symm
    · rw [e, h.tag] at hg; simp at hg; exact h0 hg.symm
  have hrow : ∀ {e : TypeId} {sz : Nat} {v : Value} {n : Nat} {xs : List Value} {g : Nat × Nat}, w.ownsRow 0 e sz v n xs → (∀ k, v.ownBlock = some k → τ k = (1, g)) → g ≠ (0, 0) → g ≠ (5, 0) → g ≠ (6, 0) → (w4.setCell ⟨wb, 4, none⟩ v4).ownsRow 0 e sz v n xs ∧ ∀ k, v.ownBlock = some k → pushTT τ v2 v4 k = (1, g) := by
    intro e sz v n xs g hr hv h0 h2 h3
    refine ⟨row_of_block hr (fun k hk => ?_), fun k hk => (tk k (row_ge hr k hk).2).trans (hv k hk)⟩
    have hg := hv k hk
    refine kk k (row_ge hr k hk).2 (fun e => ?_) (fun e => ?_) (fun e => ?_)
    · rw [h.txTag k e] at hg; simp at hg; exact h2 hg.symm
    · rw [h.tmTag k e] at hg; simp at hg; exact h3 hg.symm
    · rw [e, h.tag] at hg; simp at hg; exact h0 hg.symm
  have d24 : ∀ k, v2.ownBlock = some k → a.tmv.ownBlock ≠ some k := by
    intro k hk e
    rcases hA2 with e2 | e2
    · have := h.txTag k (e2.symm.trans hk)
      rw [h.tmTag k e] at this; simp at this
    · have := (row_ge h.tm k e).2
      rw [hk] at e2; simp at e2; omega
  have d42 : ∀ k, v4.ownBlock = some k → v2.ownBlock ≠ some k := by
    intro k hk e
    rcases hA4 with e2 | e2
    · exact d24 k e (e2.symm.trans hk)
    · have := (row_ge hO2 k e).2
      rw [hk] at e2; simp [World.setCell] at e2; omega
  have r0 := hrow h.st h.stTag (by simp) (by simp) (by simp)
  have r4 := hrow h.it h.itTag (by simp) (by simp) (by simp)
  have r5 := hrow h.im h.imTag (by simp) (by simp) (by simp)
  have l7 := fun j (hj : j < a.J) => hblk (h.ls j hj) (h.lsTag j hj) (by simp) (by simp) (by simp)
  have l4 := fun j (hj : j < a.K) => hblk (h.ts j hj) (h.tsTag j hj) (by simp) (by simp) (by simp)
  have ll := hblk hl ht (by simp) (by simp) (by simp)
  refine ⟨⟨bw4.set 4 v4, (tk wb hwl).trans h.tag, r0.1, r0.2, r4.1, r4.2, r5.1, r5.2, fun j hj => (l7 j hj).1, fun j hj => (l7 j hj).2, h.lsLen, ?_, fun k (hk : v2.ownBlock = some k) => ?_, ?_, fun k (hk : v4.ownBlock = some k) => ?_, fun j hj => ?_, fun j hj => ?_, fun j hj => ?_, h.n8⟩, ?_⟩
  · have e : (List.range (a.K + 1)).map (textVal (pushTA a v2 v4 lb ln x)) = (List.range a.K).map (textVal a) ++ [.slice (some ⟨lb, 0, none⟩) ln ln] := by
      rw [List.range_succ, List.map_append]
      congr 1
      · refine List.map_congr_left (fun j hj => ?_)
        have : j ≠ a.K := by have := List.mem_range.1 hj; omega
        simp [textVal, pushTA, this]
      · simp [textVal, pushTA]
    show (w4.setCell ⟨wb, 4, none⟩ v4).ownsRow 0 _ 1 v2 (a.K + 1) ((List.range (a.K + 1)).map (textVal (pushTA a v2 v4 lb ln x)))
    rw [e]
    exact row_of_block hO2 (fun k hk => k4 k (row_ge hO2 k hk).2 (d24 k hk) (n2 k hk))
  · show pushTT τ v2 v4 k = _
    unfold pushTT
    rw [if_pos hk]
  · have e : (List.range (a.K + 1)).map (fun j => Value.string ((pushTA a v2 v4 lb ln x).tmk j)) = (List.range a.K).map (fun j => Value.string (a.tmk j)) ++ [.string x] := by
      rw [List.range_succ, List.map_append]
      congr 1
      · refine List.map_congr_left (fun j hj => ?_)
        have : j ≠ a.K := by have := List.mem_range.1 hj; omega
        simp [pushTA, this]
      · simp [pushTA]
    show (w4.setCell ⟨wb, 4, none⟩ v4).ownsRow 0 _ 1 v4 (a.K + 1) ((List.range (a.K + 1)).map (fun j => Value.string ((pushTA a v2 v4 lb ln x).tmk j)))
    rw [e]
    exact row_of_block hO4 (fun k hk => Below.heap_setCell _ _ _ _ (n4 k hk))
  · show pushTT τ v2 v4 k = _
    unfold pushTT
    rw [if_neg (d42 k hk), if_pos hk]
  · by_cases e : j = a.K
    · subst e; simpa [pushTA] using ll.1
    · have := (l4 j (by simp [pushTA] at hj; omega)).1
      simpa [pushTA, e] using this
  · by_cases e : j = a.K
    · subst e; simpa [pushTA] using ll.2
    · have := (l4 j (by simp [pushTA] at hj; omega)).2
      simpa [pushTA, e] using this
  · by_cases e : j = a.K
    · subst e; simpa [pushTA] using hln
    · have := h.tsLen j (by simp [pushTA] at hj; omega)
      simpa [pushTA, e] using this
  · refine ⟨hG4.os.trans hG2.os, hG4.tape.trans hG2.tape, hG4.output.trans hG2.output, by simp only [World.setCell, Array.size_modify]; omega, tk, fun k hk hs => ?_⟩
    refine kk k hk (fun e => hs ?_) (fun e => hs ?_) (fun e => hs ?_)
    · rw [h.txTag k e]
    · rw [h.tmTag k e]
    · rw [e, h.tag]

set_option maxRecDepth 100000 in
set_option maxHeartbeats 2000000 in
theorem strings_any (h : LBase w τ wb n c a) (lb ln : Nat) (arr : Array Value) (hl : Blk w lb arr 9) (hs : arr.size = ln) (ht : τ lb = (1, 7, a.K)) (hln : ln ≤ 8796093022208) (hJ : a.K < 4398046511104) (h0 : 0 ≤ c) (h1 : c ≤ 281474976710656) :
    Calls Tryz.prog 101 #[ptr wb, .slice (some ⟨lb, 0, none⟩) ln ln] w fun e w' => e = .returned (.tuple #[]) ∧ ∃ τ' a', LBase w' τ' wb n (c + 1) a' ∧ a'.J = a.J ∧ a'.K = a.K + 1 ∧ a'.sB = a.sB ∧ a'.rB = a.rB ∧ Stp 1 τ w τ' w' := by
  have c7 : w.cell? ⟨wb, 7, none⟩ = some (.int .i64 c) := h.blk.cell (o := 7) rfl
  have cw := word_any wb c w h0 h1 c7 (h.blk.frozen 7)
  have hwl := h.blk.lt
  have hll := hl.lt
  have hne : lb ≠ wb := fun e => by rw [e, h.tag] at ht; simp at ht
  have hb1 := h.blk.set 7 (.int .i64 (c + 1))
  have hoth : ∀ k, k ≠ wb → (w.setCell ⟨wb, 7, none⟩ (.int .i64 (c + 1))).heap[k]? = w.heap[k]? := fun k hk => Below.heap_setCell _ _ _ _ hk
  have hszw : (w.setCell ⟨wb, 7, none⟩ (.int .i64 (c + 1))).heap.size = w.heap.size := by simp [World.setCell]
  have hosw : (w.setCell ⟨wb, 7, none⟩ (.int .i64 (c + 1))).os = w.os ∧ (w.setCell ⟨wb, 7, none⟩ (.int .i64 (c + 1))).tape = w.tape ∧ (w.setCell ⟨wb, 7, none⟩ (.int .i64 (c + 1))).output = w.output := ⟨rfl, rfl, rfl⟩
  generalize w.setCell ⟨wb, 7, none⟩ (.int .i64 (c + 1)) = wX at *
  obtain ⟨ii, hii, hi0, hi1, hi2⟩ := info_parts infoTxs
  obtain ⟨si, hsi, hs0, hs1, hs2⟩ := info_parts infoStr
  unfold ptr at cw ⊢
  go_enter Tryz.func101, Tryz.ntmps101
  go_wp2_with fail
  refine cw.mono ?_
  rintro e w1 ⟨x, rfl, hx, hB⟩
  clear cw
  have hB1 := hB.size
  have hl1 : Blk w1 lb arr 9 := (hl.of_eq (hoth _ hne)).of_eq (hB.block _ hll)
  go_wp2_with fail
  go_loopw [5] (fun u wr => ∃ (k : Nat) (arr' : Array Value), k ≤ ln ∧ u = .int .i64 k ∧ Blk wr lb arr' 9 ∧ arr'.size = ln ∧ Hid (∀ j, j < k → arr'[j]? = some (.string x)) ∧ Fr (fun b => b = lb) w1 wr) (fun u _ => ln - (intOf u).toNat)
  case atStart => exact ⟨0, arr, Nat.zero_le _, rfl, hl1, hs, fun j hj => by omega, Fr.refl _ _⟩
  case round =>
    obtain ⟨k, arr', hk, rfl, hb, hz, HA, hF⟩ := hrel
    by_cases hlt : k < ln
    · obtain ⟨v0, hv0⟩ : ∃ v, arr'[k]? = some v := ⟨_, Array.getElem?_eq_getElem (by omega)⟩
      have d0 := hb.cell hv0
      have f0 := hb.frozen k
      clear hv0
      go_wp2_with fail
      go_roundw
      case rel =>
        refine ⟨k + 1, _, by omega, by go_num, hb.set k (.string x), by simp [hz], fun j hj => ?_, hF.setCell (p := ⟨lb, k, none⟩) rfl _⟩
        by_cases e2 : j = k
        · subst e2
          rw [Array.getElem?_setIfInBounds_self_of_lt (by omega)]
        · rw [Array.getElem?_setIfInBounds_ne (fun e => e2 e.symm)]
          exact HA.out j (by omega)
      case measure => simp [intOf]; omega
    · have hmk : arr' = textRow ln x := textRow_of hz (fun j hj => HA.out j (by omega))
      subst hmk
      have hL1 : LBase w1 τ wb n (c + 1) a := (h.count (c + 1) hb1 (fun k _ hk => hoth k hk)).below (hszw ▸ hB)
      have hLr : LBase wr τ wb n (c + 1) a := hL1.frame' (fun k hk _ _ h7 => ⟨hF.block k hk (fun e => h7 (by rw [e, ht])), rfl⟩)
      have hS : Stp 1 τ w τ wr := ⟨hF.os.trans (hB.os.trans hosw.1), hF.tape.trans (hB.tape.trans hosw.2.1), hF.output.trans (hB.output.trans hosw.2.2), by have := hF.size; omega, fun _ _ => rfl, fun k hk h1 => (hF.block k (by omega) (fun e => h1 (by rw [e, ht]))).trans ((hB.block k hk).trans (hoth k (fun e => h1 (by rw [e, h.tag]))))⟩
      clear hL1 hoth
      obtain ⟨av, cpv, hiv⟩ := row_len hLr.tx
      obtain ⟨mv, mpv, hmv⟩ := row_len hLr.tm
      have hitr := hLr.tx
      rw [hiv] at hitr
      have c5 := hLr.blk.cell (o := 3) (v := a.txv) rfl
      rw [hiv] at c5
      have f5 := hLr.blk.frozen 3
      go_wp2_with (at_builtin; first
        | (refine wpList_append_own_at _ rfl (.tmp 22) (.tmp 24) 81 rfl 0 38 ii _ 1 24 Tryz.underlying81 hii hi0 hi1 hi2 rfl (by decide) (.slice av a.K cpv) a.K _ rfl (hitr.alloc _) ⟨_, 0, none⟩ 1 1 [.slice (some ⟨lb, 0, none⟩) ln ln] rfl rfl (cell_one_new _ _ _) (by simp [Value.oneCell']) (by unfold maxLen; omega) (by omega) (Nat.zero_le _) ?_; intro v2 w2 hO2 hG2 hN2 hA2; rw [← hiv] at hG2 hA2; obtain ⟨hb2, hi2', hn2, hk2⟩ := texts_after hLr hG2 hA2; rw [hmv] at hi2'; have d5 := hb2.cell (o := 3) (v := a.txv) rfl; rw [hiv] at d5; have d6 := hb2.cell (o := 4) (v := a.tmv) rfl; rw [hmv] at d6; have g5 := hb2.frozen 3; have g6 := hb2.frozen 4; obtain ⟨q2, cap2, hv2, -⟩ := row_form hO2 (by omega); rw [hv2])
        | (refine wpList_append_own_at _ rfl (.tmp 32) (.tmp 34) 38 rfl 0 9 si _ 1 16 Tryz.underlying38 hsi hs0 hs1 hs2 rfl (by decide) (.slice mv a.K mpv) a.K _ rfl ((hi2' _).alloc _) ⟨_, 0, none⟩ 1 1 [.string x] rfl rfl (cell_one_at _ _ _ (by simp [World.setCell])) (by simp [Value.oneCell']) (by unfold maxLen; omega) (by omega) (Nat.zero_le _) ?_; intro v4 w4 hO4 hG4 hN4 hA4; rw [← hmv] at hG4 hA4; rw [← hv2] at hG4 hA4; have e6 := (hG4.block wb (by simp [World.setCell]; have := hb2.lt; omega) (fun e => by have := hLr.tmTag wb e.symm; rw [hLr.tag] at this; simp at this)).trans ((hb2.set 3 v2).of_eq (Below.heap_alloc _ _ _ (by simp [World.setCell]; exact hb2.lt))); have j6 := Blk.cell (o := 4) e6 (v := a.tmv) rfl; rw [hmv] at j6; have k6 := Blk.frozen e6 4; obtain ⟨q4, cap4, hv4, -⟩ := row_form hO4 (by omega); rw [hv4]))
      go_end0
      obtain ⟨r1, r2⟩ := push_texts hLr hb ht hln hG2 hA2 hO2 hG4 hA4 hO4
      rw [← hv4]
      exact ⟨rfl, _, _, r1, rfl, rfl, rfl, rfl, hS.trans r2⟩

end
end Go.Proofs.YteoahlieielcdaaGreat
