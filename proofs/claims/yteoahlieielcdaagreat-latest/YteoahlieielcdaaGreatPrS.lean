/-
  The program: what first questions carry along: bitOf, MaskOf, siblingsOf, isNumbersOnly.
-/
import Derived.Test.YteoahlieielcdaaGreatPr12
namespace Go.Proofs.YteoahlieielcdaaGreat
open Go Go.RowKit Go.MuLone

theorem u64_nat (x : Int) : IntKind.u64.wrap x = ((IntKind.u64.wrap x).toNat : Int) := by
  rw [Int.toNat_of_nonneg]
  rw [IntKind.wrap_u64]
  omega

section
variable {w : World}

set_option maxRecDepth 100000 in
set_option maxHeartbeats 1000000 in
theorem bitOf_any (s : ByteArray) (hs : s.size ≤ 1000) : Calls Tryz.prog 150 #[.string s] w fun e w' => (∃ m : Int, e = .returned (.int .u64 m)) ∧ Below w.heap.size w w' := by
  obtain ⟨cb, W, hcv, hB, hcell⟩ := bytes_made (P := Tryz.prog) w 9 116 5 s Tryz.underlying9 Tryz.underlying116 Tryz.underlying5
  go_enter Tryz.func150, Tryz.ntmps150
  go_wp2
  go_loop [3, 9] (fun m i => ∃ (k : Nat) (h : Nat), k ≤ s.size ∧ i = .int .i64 k ∧ m = .int .u64 h) (fun _ i => s.size - (intOf i).toNat)
  case atStart => exact ⟨0, 0, Nat.zero_le _, rfl, rfl⟩
  case round =>
    obtain ⟨k, h, hk, rfl, rfl⟩ := hrel
    by_cases hlt : k < s.size
    · have ck := hcell k hlt
      have hb := s[k].toNat_lt
      generalize s[k] = c at *
      clear hcell
      go_wp2
      go_round
      case rel => exact ⟨k + 1, _, by omega, by go_num, congrArg _ (u64_nat _)⟩
      case measure => simp [intOf]; omega
    · clear hcell
      go_wp2
      go_ret
      exact ⟨⟨_, rfl⟩, hB⟩

set_option maxRecDepth 100000 in
set_option maxHeartbeats 1000000 in
theorem maskOf_any (a : Option Addr) (L : List ByteArray) (cap : Nat) (h8 : L.length ≤ 8) (hz : ∀ x ∈ L, x.size ≤ 8) (hcell : ∀ (k : Nat) (x : ByteArray), L[k]? = some x → ∃ gb, a = some ⟨gb, 0, none⟩ ∧ w.cell? ⟨gb, k, none⟩ = some (.string x)) :
    Calls Tryz.prog 130 #[.slice a L.length cap] w fun e w' => (∃ m : Int, e = .returned (.int .u64 m)) ∧ Below w.heap.size w w' := by
  go_enter Tryz.func130, Tryz.ntmps130
  go_wp2_with fail
  go_loopw [3, 8] (fun m u wr => ∃ (k : Nat) (h : Int), k ≤ L.length ∧ u = .int .i64 k ∧ m = .int .u64 h ∧ Below w.heap.size w wr) (fun _ u _ => L.length - (intOf u).toNat)
  case atStart => exact ⟨0, 0, Nat.zero_le _, rfl, rfl, Below.refl _ _⟩
  case round =>
    obtain ⟨k, h, hk, rfl, rfl, hB⟩ := hrel
    by_cases hlt : k < L.length
    · have hx : L[k]? = some L[k] := List.getElem?_eq_getElem hlt
      obtain ⟨gb, rfl, c1⟩ := hcell k _ hx
      have hgb : gb < w.heap.size := World.block_lt_of_cell? w _ c1
      have c1' := (hB.cell (p := ⟨gb, k, none⟩) hgb).trans c1
      have hzk := hz _ (List.getElem_mem hlt)
      generalize L[k] = x at *
      have cb := bitOf_any (w := wr) x (by omega)
      clear hcell c1 hx hz
      go_wp2_with fail
      refine cb.mono ?_
      rintro e w2 ⟨⟨m, rfl⟩, hB2⟩
      clear cb
      go_wp2_with fail
      go_roundw
      case rel => exact ⟨k + 1, _, by omega, by go_num, rfl, hB.trans (hB2.mono hB.size)⟩
      case measure => simp [intOf]; omega
    · clear hcell
      go_wp2_with fail
      go_ret
      exact ⟨⟨_, rfl⟩, hB⟩

set_option maxRecDepth 100000 in
set_option maxHeartbeats 1000000 in
theorem siblingsOf_any (mode : Int) (a : Option Addr) (L : List ByteArray) (cap : Nat) (h8 : L.length ≤ 8) (hz : ∀ x ∈ L, x.size ≤ 8) (hcell : ∀ (k : Nat) (x : ByteArray), L[k]? = some x → ∃ gb, a = some ⟨gb, 0, none⟩ ∧ w.cell? ⟨gb, k, none⟩ = some (.string x)) :
    Calls Tryz.prog 87 #[.int .i64 mode, .slice a L.length cap] w fun e w' => (∃ sv, e = .returned sv ∧ IsIf sv) ∧ Below w.heap.size w w' := by
  have cm := maskOf_any (w := w) a L cap h8 hz hcell
  clear hcell hz
  generalize L.length = n at *
  by_cases h1 : mode = 1
  · subst h1
    go_enter Tryz.func87, Tryz.ntmps87
    go_wp2_with fail
    go_ret
    exact ⟨⟨_, rfl, Or.inr ⟨_, _, rfl⟩⟩, Below.refl _ _⟩
  · have e1 : (mode == 1) = false := beq_eq_false_iff_ne.2 h1
    by_cases h3 : mode = 3
    · subst h3
      go_enter Tryz.func87, Tryz.ntmps87
      go_wp2_with fail
      refine cm.mono ?_
      rintro e w2 ⟨⟨m, rfl⟩, hB⟩
      clear cm
      go_wp2_with fail
      go_ret
      exact ⟨⟨_, rfl, Or.inr ⟨_, _, rfl⟩⟩, hB⟩
    · have e3 : (mode == 3) = false := beq_eq_false_iff_ne.2 h3
      clear cm
      go_enter Tryz.func87, Tryz.ntmps87
      go_wp2_with fail
      go_ret
      exact ⟨⟨_, rfl, Or.inl rfl⟩, Below.refl _ _⟩

set_option maxHeartbeats 400000 in
theorem isNumbersOnly_any (mode : Int) (a : Option Addr) (n cap : Nat) (hn : n ≤ 8) :
    Calls Tryz.prog 72 #[.int .i64 mode, .slice a n cap] w fun e w' => e = .returned (.bool (decide (mode = 2) && decide (1 < n))) ∧ w' = w := by
  by_cases h1 : mode = 2
  · subst h1
    by_cases h2 : 1 < n
    · go_enter Tryz.func72, Tryz.ntmps72
      go_wp2_with fail
      go_ret
      exact ⟨ret_bool (by simp; omega), rfl⟩
    · go_enter Tryz.func72, Tryz.ntmps72
      go_wp2_with fail
      go_ret
      exact ⟨ret_bool (by simp; omega), rfl⟩
  · have e1 : (mode == 2) = false := beq_eq_false_iff_ne.2 h1
    have Hr : Hid ((decide (mode = 2) && decide (1 < n)) = false) := by unfold Hid; simp [h1]
    clear h1
    go_enter Tryz.func72, Tryz.ntmps72
    go_wp2_with fail
    go_ret
    exact ⟨ret_bool Hr.out.symm, rfl⟩

end
end Go.Proofs.YteoahlieielcdaaGreat
