/-
  The program: checkItems, with the library's ContainsFunc at a closure of its own.
-/
import Derived.Test.YteoahlieielcdaaGreatPr9
namespace Go.Proofs.YteoahlieielcdaaGreat
open Go Go.RowKit Go.MuLone

section
variable {w : World}

set_option maxRecDepth 100000 in
set_option maxHeartbeats 400000 in
theorem same_any (a v key : ByteArray) (ib : Nat) (ck : w.cell? ⟨ib, 0, none⟩ = some (.string key)) :
    Calls Tryz.prog 83 #[.agg #[.string a, .string v], .pointer (some ⟨ib, 0, none⟩)] w fun e w' => e = .returned (.bool (decide (a = key))) ∧ Below w.heap.size w w' := by
  have hlt := World.block_lt_of_cell? w _ ck
  simp only at hlt
  have hne : ib ≠ w.heap.size := by omega
  by_cases he : a = key
  · have hb := str_beq he
    have Hr : Hid (decide (a = key) = true) := decide_eq_true he
    clear he
    go_enter Tryz.func83, Tryz.ntmps83
    go_wp2
    go_ret
    exact ⟨ret_bool (by rw [Hr.out]), (Below.refl _ _).alloc (Nat.le_refl _) _⟩
  · have hb := str_bne he
    have Hr : Hid (decide (a = key) = false) := decide_eq_false he
    clear he
    go_enter Tryz.func83, Tryz.ntmps83
    go_wp2
    go_ret
    exact ⟨ret_bool (by rw [Hr.out]), (Below.refl _ _).alloc (Nat.le_refl _) _⟩

set_option maxRecDepth 100000 in
set_option maxHeartbeats 400000 in
theorem indexFunc_any (key : ByteArray) (ib gb go : Nat) (L : List KV) (cap : Nat) (hL : L.length ≤ 8) (ck : w.cell? ⟨ib, 0, none⟩ = some (.string key))
    (hcell : ∀ (k : Nat) (x : KV), L[k]? = some x → w.cell? ⟨gb, go + k * 2, none⟩ = some (.string x.1) ∧ w.cell? ⟨gb, go + k * 2 + 1, none⟩ = some (.string x.2)) (n : Nat) (hn : n ≤ L.length) :
    Calls Tryz.prog 128 #[.slice (some ⟨gb, go, none⟩) n cap, .func (Fn.func 83) #[] #[.pointer (some ⟨ib, 0, none⟩)]] w fun e w' => ∃ r : Int, e = .returned (.int .i64 r) ∧ -1 ≤ r ∧ (decide (0 ≤ r) = hasKey (L.take n) key) ∧ Below w.heap.size w w' := by
  go_enter Tryz.func128, Tryz.ntmps128
  go_wp2_with fail
  go_loopw [8] (fun u wr => ∃ k : Nat, k ≤ n ∧ u = .int .i64 k ∧ Below w.heap.size w wr ∧ Hid (hasKey (L.take k) key = false)) (fun u _ => n - (intOf u).toNat)
  case atStart => exact ⟨0, Nat.zero_le _, rfl, Below.refl _ _, by simp [Hid, hasKey]⟩
  case round =>
    obtain ⟨k, hk, rfl, hB, HN⟩ := hrel
    by_cases hlt : k < n
    · have hx : L[k]? = some L[k] := List.getElem?_eq_getElem (by omega)
      obtain ⟨c1, c2⟩ := hcell k _ hx
      have c1' := (hB.cell (p := ⟨gb, go + k * 2, none⟩) (World.block_lt_of_cell? w _ c1)).trans c1
      have c2' := (hB.cell (p := ⟨gb, go + k * 2 + 1, none⟩) (World.block_lt_of_cell? w _ c2)).trans c2
      have ck' := (hB.cell (p := ⟨ib, 0, none⟩) (World.block_lt_of_cell? w _ ck)).trans ck
      generalize L[k] = x at *
      obtain ⟨kk, vv⟩ := x
      simp only at c1' c2'
      clear c1 c2 hcell
      have cs := same_any kk vv key ib ck'
      have hst : hasKey (L.take (k + 1)) key = (hasKey (L.take k) key || decide (kk = key)) := by rw [take_at hx, hasKey_snoc]
      rw [HN.out, Bool.false_or] at hst
      cases hd : decide (kk = key) with
      | true =>
        rw [hd] at cs hst
        have HT : Hid (hasKey (L.take n) key = true) := hasKey_some (k := n) (j := k) hlt hx (of_decide_eq_true hd)
        clear hst hd hx
        go_wp2_with fail
        refine cs.mono ?_
        rintro e w2 ⟨rfl, hB2⟩
        clear cs
        go_wp2_with fail
        go_ret
        refine ⟨k, rfl, by omega, ?_, hB.trans (hB2.mono hB.size)⟩
        rw [HT.out]; simp
      | false =>
        rw [hd] at cs hst
        have HN' : Hid (hasKey (L.take (k + 1)) key = false) := hst
        clear hst hd hx
        go_wp2_with fail
        refine cs.mono ?_
        rintro e w2 ⟨rfl, hB2⟩
        clear cs
        go_wp2_with fail
        go_roundw
        case rel => exact ⟨k + 1, by omega, by go_num, hB.trans (hB2.mono hB.size), HN'⟩
        case measure => simp [intOf]; omega
    · have hkn : k = n := by omega
      have HT : Hid (hasKey (L.take n) key = false) := by rw [← hkn]; exact HN
      clear hcell hkn
      go_wp2_with fail
      go_ret
      refine ⟨-1, rfl, by omega, ?_, hB⟩
      rw [HT.out]; rfl

set_option maxRecDepth 100000 in
set_option maxHeartbeats 400000 in
theorem contains_any (key : ByteArray) (ib gb go : Nat) (L : List KV) (cap : Nat) (hL : L.length ≤ 8) (ck : w.cell? ⟨ib, 0, none⟩ = some (.string key))
    (hcell : ∀ (k : Nat) (x : KV), L[k]? = some x → w.cell? ⟨gb, go + k * 2, none⟩ = some (.string x.1) ∧ w.cell? ⟨gb, go + k * 2 + 1, none⟩ = some (.string x.2)) (n : Nat) (hn : n ≤ L.length) :
    Calls Tryz.prog 84 #[.slice (some ⟨gb, go, none⟩) n cap, .func (Fn.func 83) #[] #[.pointer (some ⟨ib, 0, none⟩)]] w fun e w' => e = .returned (.bool (hasKey (L.take n) key)) ∧ Below w.heap.size w w' := by
  have c := indexFunc_any key ib gb go L cap hL ck hcell n hn
  clear hcell
  go_enter Tryz.func84, Tryz.ntmps84
  go_wp2_with fail
  refine c.mono ?_
  rintro e w2 ⟨r, rfl, hr1, hr2, hB⟩
  have HR : Hid (decide (0 ≤ r) = hasKey (L.take n) key) := hr2
  clear c hr2
  go_wp2_with fail
  go_ret
  exact ⟨ret_bool HR.out, hB⟩

end
end Go.Proofs.YteoahlieielcdaaGreat
