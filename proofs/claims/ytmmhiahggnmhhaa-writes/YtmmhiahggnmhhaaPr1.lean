/-
  The program's smallest functions: isKey, isMode, partOf, Part.
-/
import Derived.Test.YtmmhiahggnmhhaaChecked
import Derived.Test.YtmmhiahggnmhhaaModel
import Derived.Test.YtmmhiahggnmhhaaMapF
import Derived.Test.YtmmhiahggnmhhaaLocks
import Derived.Laws.IdiomStrings
namespace Go.Proofs.Ytmmhiahggnmhhaa
open Go Go.RowKit

def goodKeyI (s : ByteArray) : Prop := 1 ≤ s.size ∧ s.size ≤ 8

set_option maxHeartbeats 400000 in
theorem isKey_any (s : ByteArray) (w : World) (hs : s.size ≤ maxLen) :
    Calls Try.prog 24 #[.string s] w fun e w' => e = .returned (.bool (goodKey s)) ∧ w' = w := by
  unfold maxLen at hs
  by_cases h1 : 1 ≤ s.size
  · go_enter Try.func24, Try.ntmps24
    go_wp2
    go_ret
    exact ⟨ret_bool (by rw [Bool.eq_iff_iff]; simp [goodKey]; omega), rfl⟩
  · go_enter Try.func24, Try.ntmps24
    go_wp2
    go_ret
    exact ⟨ret_bool (by rw [Bool.eq_iff_iff]; simp [goodKey]; omega), rfl⟩

def goodMode (m : Int) : Bool := decide (1 ≤ m) && decide (m ≤ 3)
set_option maxHeartbeats 400000 in
theorem isMode_any (m : Int) (w : World) :
    Calls Try.prog 46 #[.int .i64 m] w fun e w' => e = .returned (.bool (goodMode m)) ∧ w' = w := by
  by_cases h1 : m = 1
  · subst h1
    go_enter Try.func46, Try.ntmps46
    go_wp2
    go_ret
    exact ⟨ret_bool rfl, rfl⟩
  · have g1 : (m == 1) = false := beq_eq_false_iff_ne.2 h1
    by_cases h2 : m = 2
    · subst h2
      go_enter Try.func46, Try.ntmps46
      go_wp2
      go_ret
      exact ⟨ret_bool rfl, rfl⟩
    · have g2 : (m == 2) = false := beq_eq_false_iff_ne.2 h2
      go_enter Try.func46, Try.ntmps46
      go_wp2
      go_ret
      exact ⟨ret_bool (by rw [Bool.eq_iff_iff]; simp [goodMode]; omega), rfl⟩

/-- what '[]byte(s)' leaves, without its spelling -/
theorem bytes_made {P : Program} (w : World) (src dst e : TypeId) (s : ByteArray) (hs : P.underlying src = some .string) (hd : P.underlying dst = some (.slice e)) (he : P.underlying e = some (.int .u8)) :
    ∃ cap W, (convert src dst (.string s)).run P w = .ok (.slice (some ⟨w.heap.size, 0, none⟩) s.size cap) W ∧ Below w.heap.size w W ∧ (∀ j (hj : j < s.size), W.cell? ⟨w.heap.size, j, none⟩ = some (.int .u8 (s[j].toNat : Int))) := by
  refine ⟨_, _, run_bytes_of_string w src dst e s hs hd he, ((Below.refl _ _).drew.alloc (Nat.le_refl _) _), fun j hj => ?_⟩
  have h := bytesRow_at s (grownCap w s.size 0 e) j hj
  have hh : ∀ (o : Obj), (w.drew.alloc o).heap[w.heap.size]? = some o := fun o => by
    show (w.heap.push o)[w.heap.size]? = _
    simp
  simp only [World.cell?, hh, Option.isSome_none, Bool.false_eq_true, if_false]
  exact h

set_option maxRecDepth 100000 in
set_option maxHeartbeats 400000 in
theorem partOf_any (b : Nat) (n : Nat) (a : Option Addr) (cap : Nat) (s : ByteArray) (w : World) (hs : s.size ≤ 1000) (hn : 0 < n) (hn' : n ≤ 4) (hp : w.cell? ⟨b, 1, none⟩ = some (.slice a n cap)) :
    Calls Try.prog 25 #[ptr b, .string s] w fun e w' => e = .returned (.int .i64 (partOf n s)) ∧ Below w.heap.size w w' := by
  obtain ⟨cb, W, hcv, hB, hcell⟩ := bytes_made (P := Try.prog) w 9 108 5 s Try.underlying9 Try.underlying108 Try.underlying5
  have hp' : W.cell? ⟨b, 1, none⟩ = some (.slice a n cap) := (hB.cell (p := ⟨b, 1, none⟩) (World.block_lt_of_cell? w _ hp)).trans hp
  unfold ptr
  go_enter Try.func25, Try.ntmps25
  go_wp2
  go_loop [5, 11] (fun m i => ∃ k : Nat, k ≤ s.size ∧ i = .int .i64 k ∧ m = .int .i64 (byteSum (s.data.toList.take k))) (fun _ i => s.size - (intOf i).toNat)
  case atStart => exact ⟨0, Nat.zero_le _, rfl, rfl⟩
  case round =>
    obtain ⟨k, hk, rfl, rfl⟩ := hrel
    have hd := byteSum_bd (s.data.toList.take k)
    have hl : (s.data.toList.take k).length ≤ k := List.length_take_le _ _
    by_cases hlt : k < s.size
    · have HS : Hid (byteSum (s.data.toList.take (k + 1)) = byteSum (s.data.toList.take k) + (s[k].toNat : Int)) := by
        rw [take_snoc s k hlt]; exact byteSum_snoc _ _
      have ck := hcell k hlt
      have hb := s[k].toNat_lt
      generalize s[k] = c at *
      clear hcell
      go_wp2
      go_round
      case rel => exact ⟨k + 1, by omega, by go_num, by rw [HS.out]⟩
      case measure => simp [intOf]; omega
    · clear hcell
      go_wp2
      go_ret
      exact ⟨ret_int (by rw [List.take_of_length_le (by simp; omega)]; rfl), hB⟩

end Go.Proofs.Ytmmhiahggnmhhaa
