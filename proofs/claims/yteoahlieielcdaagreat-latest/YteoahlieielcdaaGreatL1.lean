/-
  The statements without the document's answer: digits, a number as a text.
-/
import Derived.Test.YteoahlieielcdaaGreatK4
import Derived.Laws.BytesArg
namespace Go.Proofs.YteoahlieielcdaaGreat
open Go Go.RowKit Go.MuLone

/-- a number's digits, ahead of a text -/
def digsTo : Nat → Nat → ByteArray → ByteArray
  | 0, _, s => s
  | f + 1, n, s => if n = 0 then s else digsTo f (n / 10) (⟨#[UInt8.ofNat (48 + n % 10)]⟩ ++ s)
def digs (n : Nat) : ByteArray := digsTo 20 n ⟨#[]⟩

section
variable {w : World}

set_option maxRecDepth 100000 in
set_option maxHeartbeats 2000000 in
theorem digits_any (n : Nat) (h1 : 1 ≤ n) (h2 : n ≤ 1000) : Calls Tryz.prog 25 #[.int .i64 n] w fun e w' => e = .returned (.string (digs n)) ∧ Below w.heap.size w w' := by
  go_enter Tryz.func25, Tryz.ntmps25
  go_wp2_with fail
  go_loopw [0, 3] (fun u s3 wr => ∃ (f m : Nat) (s : ByteArray), u = .int .i64 m ∧ s3 = .string s ∧ m < 10 ^ f ∧ f ≤ 20 ∧ s.size + f = 20 ∧ m ≤ 1000 ∧ (m = 0 → 1 ≤ s.size) ∧ Hid (digsTo f m s = digs n) ∧ Below w.heap.size w wr) (fun u _ _ => (intOf u).toNat)
  case atStart => exact ⟨20, n, ⟨#[]⟩, rfl, rfl, by omega, by omega, rfl, by omega, by omega, rfl, Below.refl _ _⟩
  case round =>
    obtain ⟨f, m, s, rfl, rfl, hm, hf, hs, hm2, h0, HD, hB⟩ := hrel
    by_cases hlt : 0 < m
    · have hlt' : decide ((m : Int) > 0) = true := by simp; omega
      have kc : (convert 116 9 (.slice (some ⟨wr.heap.size, 0, none⟩) 1 1)).run Tryz.prog (wr.alloc (.cells #[.int .u8 (48 + (m : Int) % 10)] 5)) = .ok (.string ⟨#[UInt8.ofNat (48 + m % 10)]⟩) (wr.alloc (.cells #[.int .u8 (48 + (m : Int) % 10)] 5)) := by
        have := run_convert_bytes_arg (P := Tryz.prog) (wr.alloc (.cells #[.int .u8 (48 + (m : Int) % 10)] 5)) 116 5 Tryz.underlying116 Tryz.underlying5 wr.heap.size 0 1 1 [48 + (m : Int) % 10] rfl (fun i hi => by
          match i, hi with
          | 0, _ => exact (Blk.new wr _ _).cell (o := 0) rfl) 9 Tryz.underlying9
        rw [this]
        have e : (48 + (m : Int) % 10).toNat = 48 + m % 10 := by omega
        simp [strOfNums, e]
      generalize hxx : (⟨#[UInt8.ofNat (48 + m % 10)]⟩ : ByteArray) = xx at *
      have hxs : xx.size = 1 := by rw [← hxx]; rfl
      have HN : Hid (∃ g, f = g + 1 ∧ m / 10 < 10 ^ g ∧ digsTo g (m / 10) (xx ++ s) = digs n) := by
        cases f with
        | zero => simp at hm; omega
        | succ g =>
          refine ⟨g, rfl, by rw [Nat.pow_succ] at hm; omega, ?_⟩
          have := HD.out
          unfold digsTo at this
          rw [if_neg (by omega), hxx] at this
          exact this
      clear hxx
      go_wp2_with fail
      go_roundw
      case rel =>
        obtain ⟨g, rfl, h8, h9⟩ := HN.out
        exact ⟨g, m / 10, xx ++ s, by go_num, rfl, h8, by omega, by rw [ByteArray.size_append]; omega, by omega, fun _ => by rw [ByteArray.size_append]; omega, h9, hB.alloc hB.size _⟩
      case measure => simp [intOf]; omega
    · have hm0 : m = 0 := by omega
      subst hm0
      have hs1 := h0 rfl
      have hne : s.toList.isEmpty = false := by
        rw [ByteArray.toList_eq, Bool.eq_false_iff]
        intro h
        rw [List.isEmpty_iff] at h
        have : s.data.toList.length = 0 := by rw [h]; rfl
        simp at this
        simp [ByteArray.size, this] at hs1
      have HE : Hid (s = digs n) := by
        have := HD.out
        cases f with
        | zero => exact this
        | succ g => unfold digsTo at this; rw [if_pos rfl] at this; exact this
      go_wp2_with fail
      go_ret
      exact ⟨congrArg (fun x => Ending.returned (.string x)) HE.out, hB⟩

end
end Go.Proofs.YteoahlieielcdaaGreat
