/-
  The statement's own functions: still.
-/
import Derived.Test.YteoahlieielcdaaGreatLRep
namespace Go.Proofs.YteoahlieielcdaaGreat
open Go Go.RowKit

section
variable {w : World} {τ : Nat → Tag} {wb n : Nat} {c : Int} {a : LA}

/-- what is read of one list of items -/
theorem LBase.item (h : LBase w τ wb n c a) {i : Nat} (hi : i < a.J) : ∃ g cap g2 cap2, a.itv = .slice (some ⟨g, 0, none⟩) a.J cap ∧ a.imv = .slice (some ⟨g2, 0, none⟩) a.J cap2 ∧ w.cell? ⟨g, i, none⟩ = some (.slice (some ⟨a.lb i, 0, none⟩) (a.ln i) (a.ln i)) ∧ w.cell? ⟨g2, i, none⟩ = some (.string (a.mrk i)) := by
  obtain ⟨g, cap, hv, -, -, hc, -⟩ := row_form h.it (by omega)
  obtain ⟨g2, cap2, hv2, -, -, hc2, -⟩ := row_form h.im (by omega)
  refine ⟨g, cap, g2, cap2, hv, hv2, ?_, ?_⟩
  · rw [hc i (by omega)]; simp [hi, listVal]
  · rw [hc2 i (by omega)]; simp [hi]
theorem LBase.itemAt (h : LBase w τ wb n c a) {i k : Nat} (hi : i < a.J) (hk : k < a.ln i) : w.cell? ⟨a.lb i, k * 2, none⟩ = some (.string (a.mrk i)) ∧ w.cell? ⟨a.lb i, k * 2 + 1, none⟩ = some (.string (a.mrk i)) :=
  ⟨(h.ls i hi).cell (by rw [markRow, Array.getElem?_replicate, if_pos (by omega)]), (h.ls i hi).cell (by rw [markRow, Array.getElem?_replicate, if_pos (by omega)])⟩
/-- and of one list of texts -/
theorem LBase.text (h : LBase w τ wb n c a) {i : Nat} (hi : i < a.K) : ∃ g cap g2 cap2, a.txv = .slice (some ⟨g, 0, none⟩) a.K cap ∧ a.tmv = .slice (some ⟨g2, 0, none⟩) a.K cap2 ∧ w.cell? ⟨g, i, none⟩ = some (.slice (some ⟨a.tb i, 0, none⟩) (a.tn i) (a.tn i)) ∧ w.cell? ⟨g2, i, none⟩ = some (.string (a.tmk i)) := by
  obtain ⟨g, cap, hv, -, -, hc, -⟩ := row_form h.tx (by omega)
  obtain ⟨g2, cap2, hv2, -, -, hc2, -⟩ := row_form h.tm (by omega)
  refine ⟨g, cap, g2, cap2, hv, hv2, ?_, ?_⟩
  · rw [hc i (by omega)]; simp [hi, textVal]
  · rw [hc2 i (by omega)]; simp [hi]
theorem LBase.textAt (h : LBase w τ wb n c a) {i k : Nat} (hi : i < a.K) (hk : k < a.tn i) : w.cell? ⟨a.tb i, k, none⟩ = some (.string (a.tmk i)) :=
  (h.ts i hi).cell (by rw [textRow, Array.getElem?_replicate, if_pos (by omega)])

set_option maxRecDepth 100000 in
set_option maxHeartbeats 2000000 in
/-- STILL: all lists read as their owner wrote them. -/
theorem still_any (h : LBase w τ wb n c a) (hJ : a.J < 4398046511104) (hK : a.K < 4398046511104) :
    Calls Tryz.prog 33 #[ptr wb] w fun e w' => e = .returned (.bool true) ∧ ∃ m, w' = w.drewN m := by
  have c1 : w.cell? ⟨wb, 1, none⟩ = some (.slice none 0 0) := h.blk.cell (o := 1) rfl
  have c3 : w.cell? ⟨wb, 3, none⟩ = some a.txv := h.blk.cell (o := 3) rfl
  have c4 : w.cell? ⟨wb, 4, none⟩ = some a.tmv := h.blk.cell (o := 4) rfl
  have c5 : w.cell? ⟨wb, 5, none⟩ = some a.itv := h.blk.cell (o := 5) rfl
  have c6 : w.cell? ⟨wb, 6, none⟩ = some a.imv := h.blk.cell (o := 6) rfl
  obtain ⟨tv, tc, htv⟩ := row_len h.tx
  obtain ⟨tv2, tc2, htv2⟩ := row_len h.tm
  obtain ⟨iv, ic, hiv⟩ := row_len h.it
  obtain ⟨iv2, ic2, hiv2⟩ := row_len h.im
  rw [htv] at c3
  rw [htv2] at c4
  rw [hiv] at c5
  rw [hiv2] at c6
  unfold ptr
  go_enter Tryz.func33, Tryz.ntmps33
  go_wp2_with fail
  go_loopw [3] (fun u wr => u = .int .i64 0 ∧ wr = w) (fun _ _ => 0)
  case atStart => exact ⟨rfl, rfl⟩
  case round =>
    obtain ⟨rfl, hwr⟩ := hrel
    obtain rfl := hwr.symm
    go_wp2_with fail
    go_loopw [6] (fun u wr => ∃ (i nq : Nat), i ≤ a.K ∧ u = .int .i64 i ∧ wr = w.drewN nq) (fun u _ => a.K - (intOf u).toNat)
    case atStart => exact ⟨0, 0, Nat.zero_le _, rfl, rfl⟩
    case round =>
      obtain ⟨i, nq, hi, rfl, rfl⟩ := hrel
      by_cases hlt : i < a.K
      · obtain ⟨g, cap, g2, cap2, e1, e2, d1, d2⟩ := h.text hlt
        have htl := h.tsLen i hlt
        rw [htv] at e1
        rw [htv2] at e2
        cases e1
        cases e2
        go_wp2_with fail
        go_loopw [7] (fun u wr => ∃ (k nq : Nat), k ≤ a.tn i ∧ u = .int .i64 k ∧ wr = w.drewN nq) (fun u _ => a.tn i - (intOf u).toNat)
        case atStart => exact ⟨0, nq, Nat.zero_le _, rfl, rfl⟩
        case round =>
          obtain ⟨k, nq, hk, rfl, rfl⟩ := hrel
          by_cases hkl : k < a.tn i
          · have d3 := h.textAt hlt hkl
            have hb := str_beq (rfl : a.tmk i = a.tmk i)
            go_wp2_with fail
            go_quiet (fail)
            go_wp2_with fail
            go_roundw
            case rel => exact ⟨k + 1, _, by omega, by go_num, rfl⟩
            case measure => simp [intOf]; omega
          · go_wp2_with fail
            go_roundw
            case rel => exact ⟨i + 1, _, by omega, by go_num, rfl⟩
            case measure => simp [intOf]; omega
      · go_wp2_with fail
        go_loopw [8] (fun u wr => ∃ (i nq : Nat), i ≤ a.J ∧ u = .int .i64 i ∧ wr = w.drewN nq) (fun u _ => a.J - (intOf u).toNat)
        case atStart => exact ⟨0, nq, Nat.zero_le _, rfl, rfl⟩
        case round =>
          obtain ⟨j, nq, hj, rfl, rfl⟩ := hrel
          by_cases hjl : j < a.J
          · obtain ⟨g, cap, g2, cap2, e1, e2, d1, d2⟩ := h.item hjl
            have htl := h.lsLen j hjl
            rw [hiv] at e1
            rw [hiv2] at e2
            cases e1
            cases e2
            go_wp2_with fail
            go_loopw [9] (fun u wr => ∃ (k nq : Nat), k ≤ a.ln j ∧ u = .int .i64 k ∧ wr = w.drewN nq) (fun u _ => a.ln j - (intOf u).toNat)
            case atStart => exact ⟨0, nq, Nat.zero_le _, rfl, rfl⟩
            case round =>
              obtain ⟨k, nq, hk, rfl, rfl⟩ := hrel
              by_cases hkl : k < a.ln j
              · obtain ⟨d3, d4⟩ := h.itemAt hjl hkl
                have hb := str_beq (rfl : a.mrk j = a.mrk j)
                go_wp2_with fail
                go_quiet (fail)
                go_wp2_with fail
                go_roundw
                case rel => exact ⟨k + 1, _, by omega, by go_num, rfl⟩
                case measure => simp [intOf]; omega
              · go_wp2_with fail
                go_roundw
                case rel => exact ⟨j + 1, _, by omega, by go_num, rfl⟩
                case measure => simp [intOf]; omega
          · go_wp2_with fail
            go_ret
            exact ⟨rfl, _, rfl⟩

end
end Go.Proofs.YteoahlieielcdaaGreat
