/-
  The document's answer: on, Part, Prepare, Commit, Cancel, New.
-/
import Derived.Test.YtmmhiahggnmhhaaRefRep
namespace Go.Proofs.Ytmmhiahggnmhhaa
open Go Go.RowKit

theorem onPart_take (n : Int) (l : List KV) (p : Int) (k : Nat) (x : KV) (h : l[k]? = some x) : onPart n (l.take (k + 1)) p = (onPart n (l.take k) p || decide (partOf n x.1 = p)) := by
  have : l.take (k + 1) = l.take k ++ [x] := by
    obtain ⟨hk, rfl⟩ := List.getElem?_eq_some_iff.1 h
    exact List.take_succ_eq_append_getElem hk
  simp [onPart, this]
theorem onPart_mem (n : Int) (l : List KV) (p : Int) (x : KV) (h : x ∈ l) (hx : partOf n x.1 = p) : onPart n l p = true := by
  simp only [onPart, List.any_eq_true, decide_eq_true_eq]
  exact ⟨x, h, hx⟩

section
variable {w : World} {τ : Nat → Tag} {sid b : Nat} {s : MS} {A : RA}

/-- the items of a write, where there are some -/
theorem RepR.cItems (h : RepR w τ sid b s A) {i : Nat} {m : MW} (hm : s.ws[i]? = some m) (hl : 0 < m.items.length) :
    ∃ g cap, w.cell? ⟨A.wb i, 0, none⟩ = some (.slice (some ⟨g, 0, none⟩) m.items.length cap) ∧ ∀ (k : Nat) (x : KV), m.items[k]? = some x → w.cell? ⟨g, k * 2, none⟩ = some (.string x.1) ∧ w.cell? ⟨g, k * 2 + 1, none⟩ = some (.string x.2) := by
  obtain ⟨g, cap, hv, _, _, hcell, _⟩ := row_form (h.it i m hm) hl
  refine ⟨g, cap, by rw [← hv]; exact (h.wr i m hm).cell (o := 0) rfl, fun k x hx => ?_⟩
  have hk : k < m.items.length := (List.getElem?_eq_some_iff.1 hx).1
  obtain ⟨e1, e2⟩ := kvCells_at _ _ _ hx
  exact ⟨by rw [hcell _ (by omega), e1], by rw [hcell _ (by omega), e2]⟩

set_option maxRecDepth 100000 in
set_option maxHeartbeats 400000 in
theorem on_any (h : RepR w τ sid b s A) {i : Nat} {m : MW} (hm : s.ws[i]? = some m) (p : Int) :
    Calls Try.prog 34 #[ptr b, ptr (A.wb i), .int .i64 p] w fun e w' => e = .returned (.bool (onPart s.parts m.items p)) ∧ w' = w := by
  have hp1 := h.ok.p1
  have hp4 := h.ok.p4
  obtain ⟨hil, hig⟩ := h.ok.items i m hm
  have cP := h.cParts
  unfold ptr
  by_cases hl : m.items.length = 0
  · have hnil : m.items = [] := List.eq_nil_of_length_eq_zero hl
    obtain ⟨a, cap, hv⟩ := row_len (h.it i m hm)
    have c0 : w.cell? ⟨A.wb i, 0, none⟩ = some (.slice a 0 cap) := by
      have := (h.wr i m hm).cell (o := 0) (v := A.iv i) rfl
      rw [hv, hl] at this; exact this
    have hr : onPart s.parts m.items p = false := by simp [hnil, onPart]
    rw [hr]
    clear hr hnil hv hl hm hil
    go_enter Try.func34, Try.ntmps34
    go_wp2
    refine wp_loop_rounds 1 ?_
    rw [rounds_succ]
    go_wp2
    go_ret
    exact ⟨rfl, rfl⟩
  · obtain ⟨g, cap, c0, hcell⟩ := h.cItems hm (by omega)
    go_enter Try.func34, Try.ntmps34
    go_wp2
    go_loop [7] (fun u => ∃ k : Nat, k ≤ m.items.length ∧ u = .int .i64 k ∧ Hid (onPart s.parts (m.items.take k) p = false)) (fun u => m.items.length - (intOf u).toNat)
    case atStart => exact ⟨0, Nat.zero_le _, rfl, by simp [Hid, onPart]⟩
    case round =>
      obtain ⟨k, hk, rfl, HO⟩ := hrel
      by_cases hlt : k < m.items.length
      · have hx : m.items[k]? = some m.items[k] := List.getElem?_eq_getElem hlt
        obtain ⟨ck, _⟩ := hcell k _ hx
        clear hcell
        have hgs := goodKV_size (hig _ (List.getElem_mem hlt))
        have hst := onPart_take s.parts m.items p k _ hx
        have hme := onPart_mem s.parts m.items p m.items[k] (List.getElem_mem hlt)
        rw [HO.out] at hst
        generalize m.items[k] = x at *
        obtain ⟨kk, vv⟩ := x
        simp only at ck hgs hst hme
        by_cases he : partOf s.parts kk = p
        · have Hme : Hid (onPart s.parts m.items p = true) := hme he
          clear hme hst hx hig
          have heb : (partOf s.parts kk == p) = true := beq_iff_eq.2 he
          clear he
          go_wp2_with (go_at_call 27; refine (part_any _ _ _ _ (by omega) (by omega) (by omega) cP).mono ?_; rintro e w' ⟨rfl, rfl⟩)
          go_ret
          exact ⟨ret_bool Hme.out.symm, rfl⟩
        · have Hst : Hid (onPart s.parts (m.items.take (k + 1)) p = false) := by unfold Hid; rw [hst]; simp [he]
          clear hme hst hx hig
          have heb : (partOf s.parts kk == p) = false := beq_eq_false_iff_ne.2 he
          clear he
          go_wp2_with (go_at_call 27; refine (part_any _ _ _ _ (by omega) (by omega) (by omega) cP).mono ?_; rintro e w' ⟨rfl, rfl⟩)
          go_round
          case rel => exact ⟨k + 1, by omega, by go_num, Hst⟩
          case measure => simp [intOf]; omega
      · have Hf : Hid (onPart s.parts m.items p = false) := by unfold Hid; rw [← HO.out, List.take_of_length_le (by omega)]
        go_wp2
        go_ret
        exact ⟨ret_bool Hf.out.symm, rfl⟩

end
end Go.Proofs.Ytmmhiahggnmhhaa
