/-
  The program: checkItems.
-/
import Derived.Test.YteoahlieielcdaaGreatPr11
import Derived.Lib.UnsafeStr
import Derived.Lib.BufferWrite
import Derived.Lib.Buffer
namespace Go.Proofs.YteoahlieielcdaaGreat
open Go Go.RowKit Go.MuLone

section
variable {w : World}

def goodSize (n : Int) : Bool := decide (1 ≤ n) && decide (n ≤ 8)
set_option maxHeartbeats 400000 in
theorem isSize_any (n : Int) (w : World) : Calls Tryz.prog 68 #[.int .i64 n] w fun e w' => e = .returned (.bool (goodSize n)) ∧ w' = w := by
  by_cases h1 : 1 ≤ n
  · by_cases h2 : n ≤ 8
    · go_enter Tryz.func68, Tryz.ntmps68
      go_wp2
      go_ret
      exact ⟨ret_bool (by simp [goodSize, h1, h2]), rfl⟩
    · go_enter Tryz.func68, Tryz.ntmps68
      go_wp2
      go_ret
      exact ⟨ret_bool (by simp [goodSize, h1, h2]), rfl⟩
  · go_enter Tryz.func68, Tryz.ntmps68
    go_wp2
    go_ret
    exact ⟨ret_bool (by unfold goodSize; rw [decide_eq_false (show ¬ 1 ≤ n by omega)]; rfl), rfl⟩

set_option maxRecDepth 100000 in
set_option maxHeartbeats 400000 in
theorem checkItems_size (a : Option Addr) (L : List KV) (cap : Nat) (hL : L.length ≤ maxLen) (hs : L.length < 1 ∨ 8 < L.length) :
    Calls Tryz.prog 47 #[.slice a L.length cap] w fun e w' => e = .returned (.int .i64 (mCheck L)) ∧ Below w.heap.size w w' := by
  have Hr : Hid (mCheck L = 3) := by unfold Hid mCheck; rw [if_pos hs]
  unfold maxLen at hL
  have cz := isSize_any L.length w
  have hg : goodSize L.length = false := by
    unfold goodSize
    rcases hs with e | e
    · rw [decide_eq_false (by omega)]; rfl
    · rw [Bool.and_eq_false_iff]; exact Or.inr (decide_eq_false (by omega))
  rw [hg] at cz
  clear hs hg
  go_enter Tryz.func47, Tryz.ntmps47
  go_wp2_with (go_at_call 68; refine cz.mono ?_; rintro e w' ⟨rfl, rfl⟩)
  go_ret
  exact ⟨ret_int Hr.out.symm, Below.refl _ _⟩

set_option maxRecDepth 100000 in
set_option maxHeartbeats 1000000 in
theorem checkItems_main (gb go : Nat) (L : List KV) (cap : Nat) (h1 : 1 ≤ L.length) (h8 : L.length ≤ 8) (hc8 : L.length ≤ cap) (hcm : cap ≤ maxLen) (hz : sizesOk L)
    (hcell : ∀ (k : Nat) (x : KV), L[k]? = some x → w.cell? ⟨gb, go + k * 2, none⟩ = some (.string x.1) ∧ w.cell? ⟨gb, go + k * 2 + 1, none⟩ = some (.string x.2)) :
    Calls Tryz.prog 47 #[.slice (some ⟨gb, go, none⟩) L.length cap] w fun e w' => e = .returned (.int .i64 (mCheck L)) ∧ Below w.heap.size w w' := by
  have g1 : ¬ L.length < 1 := by omega
  have g2 : ¬ 8 < L.length := by omega
  have hmf : ∀ (fn : Fn) (first cap : Array Value) (w : World), (Instr.makeFunc fn first cap).run Tryz.prog w = .ok (.func fn first cap) w := fun _ _ _ _ => rfl
  have HC : Hid (mCheck L = checkFrom [] L) := by unfold Hid mCheck; rw [if_neg (by omega)]
  unfold maxLen at hcm
  have cz := isSize_any L.length w
  have hgs : goodSize L.length = true := by
    unfold goodSize
    rw [decide_eq_true (show (1 : Int) ≤ L.length by omega), decide_eq_true (show (L.length : Int) ≤ 8 by omega)]; rfl
  rw [hgs] at cz
  clear hgs
  go_enter Tryz.func47, Tryz.ntmps47
  go_wp2_with (go_at_call 68; refine cz.mono ?_; rintro e w' ⟨rfl, hw0⟩; obtain rfl := hw0.symm)
  clear cz
  go_loopw [12] (fun u wr => ∃ k : Nat, k ≤ L.length ∧ u = .int .i64 k ∧ Below w.heap.size w wr ∧ Hid (checkFrom [] L = checkFrom (L.take k) (L.drop k))) (fun u _ => L.length - (intOf u).toNat)
  case atStart => exact ⟨0, Nat.zero_le _, rfl, Below.refl _ _, by simp [Hid]⟩
  case round =>
    obtain ⟨k, hk, rfl, hB, HK⟩ := hrel
    by_cases hlt : k < L.length
    · have hx : L[k]? = some L[k] := List.getElem?_eq_getElem hlt
      obtain ⟨c1, c2⟩ := hcell k _ hx
      have hgb : gb < w.heap.size := World.block_lt_of_cell? w _ c1
      have c1' := (hB.cell (p := ⟨gb, go + k * 2, none⟩) hgb).trans c1
      have c2' := (hB.cell (p := ⟨gb, go + k * 2 + 1, none⟩) hgb).trans c2
      obtain ⟨hs1, hs2⟩ := hz _ (List.getElem_mem hlt)
      generalize L[k] = x at *
      obtain ⟨kk, vv⟩ := x
      simp only at c1' c2' hs1 hs2
      clear c1 c2
      have hBi : Below w.heap.size w (wr.alloc (.cells #[.string kk, .string vv] 70)) := hB.alloc hB.size _
      have cI0 : (wr.alloc (.cells #[.string kk, .string vv] 70)).cell? ⟨wr.heap.size, 0, none⟩ = some (.string kk) := (Blk.new wr _ _).cell (o := 0) rfl
      have cI1 : (wr.alloc (.cells #[.string kk, .string vv] 70)).cell? ⟨wr.heap.size, 1, none⟩ = some (.string vv) := (Blk.new wr _ _).cell (o := 1) rfl
      have ck := isKey_any kk (wr.alloc (.cells #[.string kk, .string vv] 70)) hs1
      have cc := contains_any (w := wr.alloc (.cells #[.string kk, .string vv] 70)) kk wr.heap.size gb go L cap h8 cI0 (fun j y hy => ⟨(hBi.cell (p := ⟨gb, go + j * 2, none⟩) hgb).trans (hcell j y hy).1, (hBi.cell (p := ⟨gb, go + j * 2 + 1, none⟩) hgb).trans (hcell j y hy).2⟩) k hk
      unfold maxLen at hs1 hs2
      by_cases hbad : goodKV (kk, vv) = false
      · have Hr : Hid (mCheck L = 4) := by
          unfold Hid
          rw [HC.out, HK.out, drop_at hx, check_bad hbad]
        clear hcell cc
        cases hgk : goodKey kk with
        | false =>
          rw [hgk] at ck
          clear hbad hgk hx
          go_wp2_with (go_at_call 49; refine ck.mono ?_; rintro e w' ⟨rfl, rfl⟩)
          go_ret
          exact ⟨ret_int Hr.out.symm, hBi⟩
        | true =>
          have hv64 : ¬ vv.size ≤ 64 := fun e => by simp [goodKV, hgk, e] at hbad
          rw [hgk] at ck
          clear hbad hgk hx
          go_wp2_with (go_at_call 49; refine ck.mono ?_; rintro e w' ⟨rfl, rfl⟩)
          go_ret
          exact ⟨ret_int Hr.out.symm, hBi⟩
      · have hg : goodKV (kk, vv) = true := by simpa using hbad
        have hv64 : vv.size ≤ 64 := (goodKV_size hg).2.2
        have hgk : goodKey kk = true := by simp [goodKV] at hg; exact hg.1
        rw [hgk] at ck
        cases hh : hasKey (L.take k) kk with
        | true =>
          have Hr : Hid (mCheck L = 5) := by
            unfold Hid
            rw [HC.out, HK.out, drop_at hx, check_twice hg hh]
          rw [hh] at cc
          clear hbad hgk hx hh hcell hg
          go_wp2_with (go_at_call 49; refine ck.mono ?_; rintro e w' ⟨rfl, rfl⟩)
          refine cc.mono ?_
          rintro e w2 ⟨rfl, hB2⟩
          clear ck cc
          go_wp2_with fail
          go_ret
          exact ⟨ret_int Hr.out.symm, hBi.trans (hB2.mono hBi.size)⟩
        | false =>
          have HK' : Hid (checkFrom [] L = checkFrom (L.take (k + 1)) (L.drop (k + 1))) := by
            unfold Hid
            rw [HK.out, drop_at hx, check_go hg hh, take_at hx]
          rw [hh] at cc
          clear hbad hgk hx hh hcell hg
          go_wp2_with (go_at_call 49; refine ck.mono ?_; rintro e w' ⟨rfl, rfl⟩)
          refine cc.mono ?_
          rintro e w2 ⟨rfl, hB2⟩
          clear ck cc
          go_wp2_with fail
          go_roundw
          case rel => exact ⟨k + 1, by omega, by go_num, hBi.trans (hB2.mono hBi.size), HK'⟩
          case measure => simp [intOf]; omega
    · have Hr : Hid (mCheck L = 0) := by
        unfold Hid
        rw [HC.out, HK.out, show k = L.length from by omega, List.drop_length]
        rfl
      clear hcell
      go_wp2_with fail
      go_ret
      exact ⟨ret_int Hr.out.symm, hB⟩

theorem checkItems_any (a : Option Addr) (L : List KV) (cap : Nat) (hL : L.length ≤ maxLen) (hc8 : L.length ≤ cap) (hcm : cap ≤ maxLen) (hz : sizesOk L) (hI : ItemsAt w a L) :
    Calls Tryz.prog 47 #[.slice a L.length cap] w fun e w' => e = .returned (.int .i64 (mCheck L)) ∧ Below w.heap.size w w' := by
  by_cases hs : L.length < 1 ∨ 8 < L.length
  · exact checkItems_size a L cap hL hs
  · obtain ⟨ib, io, rfl, c0, _⟩ := hI 0 L[0] (List.getElem?_eq_getElem (by omega))
    refine checkItems_main ib io L cap (by omega) (by omega) hc8 hcm hz (fun k x hx => ?_)
    obtain ⟨ib', io', e, r⟩ := hI k x hx
    cases e
    exact r

end
end Go.Proofs.YteoahlieielcdaaGreat

/-
  The program: strings.Clone, add.
-/
namespace Go.Proofs.YteoahlieielcdaaGreat
open Go Go.RowKit Go.MuLone

section
variable {w : World}

theorem infoByte : (Tryz.prog.info? 5).map (fun i => (i.zero, i.size, i.bytes)) = some (some (.int .u8 0), 1, 1) := by kernel_rfl

theorem infoItm : (Tryz.prog.info? 70).map (fun i => (i.zero, i.size, i.bytes)) = some (some (.agg #[.string ByteArray.empty, .string ByteArray.empty]), 2, 32) := by kernel_rfl

/-- 'make([]byte, n)', without its spelling: a new row of n places -/
theorem bytes_room (n : Nat) (hn : n ≤ 1000) (W : World) : ∃ M : Array Value, M.size = n ∧ (Instr.makeSlice 116 (.int .i64 (n : Int)) (.int .i64 (n : Int))).run Tryz.prog W = .ok (.slice (some ⟨W.heap.size, 0, none⟩) n n) (W.alloc (.cells M 5)) := by
  obtain ⟨i0, hi, hz0, hz1, hz2⟩ := info_parts infoByte
  have h := run_make (P := Tryz.prog) W 116 5 i0 (.int .u8 0) Tryz.underlying116 hi hz0 .i64 .i64 (n : Int) (n : Int) (by omega) (by omega) (by rw [hz2]; omega) (by omega)
  refine ⟨_, ?_, by simpa using h⟩
  rw [size_madeCells, hz1]
  simp

set_option maxRecDepth 100000 in
set_option maxHeartbeats 1000000 in
theorem clone_in (s : ByteArray) (hs : s.size ≤ 1000) : Calls Tryz.prog 129 #[.string s] w fun e w' => e = .returned (.string s) ∧ Below w.heap.size w w' := by
  by_cases h0 : s.size = 0
  · obtain rfl : s = ⟨#[]⟩ := ByteArray.ext (Array.eq_empty_of_size_eq_zero h0)
    clear h0
    go_enter Tryz.func129, Tryz.ntmps129
    go_wp2
    go_ret
    exact ⟨rfl, Below.refl _ _⟩
  · obtain ⟨i0, hi, hz0, hz1, hz2⟩ := info_parts infoByte
    have hsz : (Tryz.prog.info? 5).map (·.size) = some 1 := by rw [hi]; simp [hz1]
    have hco : Tryz.prog.cellsOf 5 = 1 := by simp [Program.cellsOf, hi, hz1]
    obtain ⟨M, hM, hmk⟩ := bytes_room s.size hs w
    have hlen : s.data.toList.length = s.size := (Lib.size_eq s).symm
    have hcp := Lib.run_copy_row_string (P := Tryz.prog) (w.alloc (.cells M 5)) 116 9 3 5 w.heap.size 0 s.size s.size s M 5 Tryz.underlying116 hsz (heap_alloc_new w _) (Nat.le_refl _) (by omega)
    generalize hY : (M.toList.take 0 ++ Lib.byteCells s.data.toList ++ M.toList.drop (0 + s.size)).toArray = Y at hcp
    have hYl : Y.toList = Lib.byteCells s.data.toList := by
      rw [← hY]
      simp [← hM]
    have hYs : Y.size = s.size := by rw [← Array.length_toList, hYl, Lib.byteCells_length, hlen]
    have hg : ((w.alloc (.cells M 5)).setRow w.heap.size Y).heap[w.heap.size]? = some (.cells Y 5 (0, 0)) := setRow_heap _ _ M _ 5 (0, 0) (heap_alloc_new w _)
    have hus := Lib.run_unsafeString_row (P := Tryz.prog) ((w.alloc (.cells M 5)).setRow w.heap.size Y) 242 3 9 5 Tryz.underlying242 hco w.heap.size Y.size (by unfold World.shape?; rw [hg]) s.data.toList (fun e => h0 (by rw [← hlen, e]; rfl)) (by omega) (by omega)
      (fun j x hx => Lib.cells_of_row hg Y.size j _ (by rw [List.take_of_length_le (by rw [Array.length_toList]; exact Nat.le_refl _), hYl]; simp [Lib.byteCells, hx]))
    rw [hlen] at hus
    clear hY
    go_enter Tryz.func129, Tryz.ntmps129
    go_wp2
    go_ret
    have b1 : Below w.heap.size w ((w.alloc (.cells M 5)).setRow w.heap.size Y) := ((Below.refl _ w).alloc (Nat.le_refl _) _).trans ⟨rfl, rfl, rfl, by simp, fun k hk => setRow_other _ _ _ _ (by omega)⟩
    exact ⟨rfl, Lib.below_freeze b1 (p := ⟨w.heap.size, 0, none⟩) (Nat.le_refl _) _⟩

set_option maxHeartbeats 400000 in
theorem clone_any (s : ByteArray) (hs : s.size ≤ 1000) : Calls Tryz.prog 85 #[.string s] w fun e w' => e = .returned (.string s) ∧ Below w.heap.size w w' := by
  have c := clone_in (w := w) s hs
  go_enter Tryz.func85, Tryz.ntmps85
  go_wp2_with fail
  refine c.mono ?_
  rintro e w2 ⟨rfl, hB⟩
  clear c
  go_wp2_with fail
  go_ret
  exact ⟨rfl, hB⟩

end
end Go.Proofs.YteoahlieielcdaaGreat
