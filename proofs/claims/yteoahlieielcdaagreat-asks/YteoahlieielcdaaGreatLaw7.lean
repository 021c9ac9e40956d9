/-
  The statement's own functions: step.
-/
import Derived.Test.YteoahlieielcdaaGreatLaw6r
namespace Go.Proofs.YteoahlieielcdaaGreat
open Go Go.RowKit

section
variable {w : World} {τ : Nat → Tag} {wb : Nat} {c : Int} {a : LA} {M : List MS} {i : Nat} {m : MS}

theorem Left1.lift {w1 : World} {τ1 : Nat → Tag} {w' : World} (h : Left1 w1 τ1 wb c a w') (k : Kp τ w τ1 w1) : Left1 w τ wb c a w' := by
  obtain ⟨τ', a', M', c', h1, h2, h3, h4, h5, h6⟩ := h
  exact ⟨τ', a', M', c', h1, h2, h3, h4, h5, k.trans h6⟩
theorem LW.left (h : LW w τ wb c a M) : Left1 w τ wb c a w := ⟨τ, a, M, c, h, by omega, by omega, by omega, by omega, Kp.refl _ _⟩

theorem storeCells_at (a : LA) {n p : Nat} (hp : p < n) : (storeCells a n)[p * 2]? = some (ptr (a.sB p)) ∧ (storeCells a n)[p * 2 + 1]? = some (ptr (a.rB p)) := by
  induction n with
  | zero => omega
  | succ n ih =>
    have hl : ∀ k, (storeCells a k).length = k * 2 := by
      intro k
      induction k with
      | zero => rfl
      | succ k ih => unfold storeCells at ih ⊢; rw [List.range_succ, List.flatMap_append, List.length_append, ih]; simp; omega
    have hs : storeCells a (n + 1) = storeCells a n ++ [ptr (a.sB n), ptr (a.rB n)] := by
      unfold storeCells; rw [List.range_succ, List.flatMap_append]; simp
    rw [hs]
    by_cases e : p = n
    · subst e
      rw [List.getElem?_append_right (by rw [hl]; omega), List.getElem?_append_right (by rw [hl]; omega), hl]
      simp
    · rw [List.getElem?_append_left (by rw [hl]; omega), List.getElem?_append_left (by rw [hl]; omega)]
      exact ih (by omega)

/-- where a store lies in the row of stores -/
theorem LBase.store {n : Nat} (h : LBase w τ wb n c a) {p : Nat} (hp : p < n) : ∃ g cap, a.stv = .slice (some ⟨g, 0, none⟩) n cap ∧ w.cell? ⟨g, p * 2, none⟩ = some (ptr (a.sB p)) ∧ w.cell? ⟨g, p * 2 + 1, none⟩ = some (ptr (a.rB p)) ∧ g < w.heap.size := by
  obtain ⟨g, cap, hv, -, -, hc, -⟩ := row_form h.st (by omega)
  obtain ⟨e1, e2⟩ := storeCells_at a hp
  refine ⟨g, cap, hv, ?_, ?_, (row_ge h.st g (by rw [hv]; rfl)).2⟩
  · rw [hc _ (by omega)]; exact e1
  · rw [hc _ (by omega)]; exact e2

theorem pickOf_nat (on : Int) (n : Nat) (hn : 0 < n) : ∃ p : Nat, p < n ∧ pickOf on n = (p : Int) := by
  have h1 : 0 ≤ pickOf on n := by
    unfold pickOf
    split <;> exact Int.emod_nonneg _ (by omega)
  have h2 : pickOf on n < n := by
    unfold pickOf
    split <;> exact Int.emod_lt_of_pos _ (by omega)
  exact ⟨(pickOf on n).toNat, by omega, by omega⟩

set_option maxRecDepth 100000 in
set_option maxHeartbeats 4000000 in
theorem step_new (h : LW w τ wb c a M) (on A B : Int) (s : ByteArray) (it ks : Value) :
    Calls Tryz.prog 32 #[ptr wb, opVal 1 on A B s it ks] w fun e w' => e = .returned (.bool true) ∧ Left1 w τ wb c a w' := by
  obtain ⟨h1, k1⟩ := box_keeps h (opCells 1 on A B s it ks)
  have c1 := begins_any h1 1 on A B s it ks
  unfold ptr opVal at *
  unfold opCells at *
  go_enter Tryz.func32, Tryz.ntmps32
  go_wp2_with (go_at_call 56; refine c1.mono ?_; rintro e w2 ⟨rfl, hL⟩)
  go_ret
  exact ⟨rfl, hL.lift k1⟩

set_option maxRecDepth 100000 in
set_option maxHeartbeats 4000000 in
theorem step_none (h : LW w τ wb c a []) (kd on A B : Int) (s : ByteArray) (it ks : Value) (hk : kd ≠ 1) :
    Calls Tryz.prog 32 #[ptr wb, opVal kd on A B s it ks] w fun e w' => e = .returned (.bool true) ∧ Left1 w τ wb c a w' := by
  obtain ⟨h1, k1⟩ := box_keeps h (opCells kd on A B s it ks)
  obtain ⟨av, cpv, hsv⟩ := row_len h1.base.st
  have e0 := h1.base.blk.cell (o := 0) (v := a.stv) rfl
  rw [hsv] at e0
  unfold ptr opVal at *
  unfold opCells at *
  simp only [List.length_nil] at e0
  go_enter Tryz.func32, Tryz.ntmps32
  go_wp2_with fail
  go_ret
  exact ⟨rfl, h1.left.lift k1⟩

end
end Go.Proofs.YteoahlieielcdaaGreat
