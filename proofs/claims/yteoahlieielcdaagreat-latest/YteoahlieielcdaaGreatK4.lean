/-
  The statements without the document's answer: keys, of a set of bits.
-/
import Derived.Test.YteoahlieielcdaaGreatK1
namespace Go.Proofs.YteoahlieielcdaaGreat
open Go Go.RowKit Go.MuLone

/-- the six keys -/
def sixKeys : List ByteArray := [⟨#[97]⟩, ⟨#[98]⟩, ⟨#[99]⟩, ⟨#[100, 100]⟩, ⟨#[101, 49]⟩, ⟨#[122, 122, 122, 122]⟩]
def six (k : Nat) : ByteArray := sixKeys.getD k ⟨#[]⟩
def bitK (b k : Nat) : Bool := Go.bits BinOp.and IntKind.i64 ((b : Int) / 2 ^ k) 1 == 1
def keysTo (b : Nat) : Nat → List ByteArray
  | 0 => []
  | k + 1 => keysTo b k ++ (if bitK b k then [six k] else [])
def keysOf (b : Nat) : List ByteArray := keysTo b 6

theorem keysTo_len (b k : Nat) : (keysTo b k).length ≤ k := by
  induction k with
  | zero => simp [keysTo]
  | succ k ih =>
    simp only [keysTo]
    split <;> simp <;> omega
theorem keysOf_ok : ∀ b, b < 64 → (keysOf b).Nodup ∧ (∀ x ∈ keysOf b, goodKey x = true) ∧ (1 ≤ b → 1 ≤ (keysOf b).length) ∧ (keysOf b).length ≤ 6 := by
  decide +kernel

section
variable {w : World}

set_option maxRecDepth 100000 in
set_option maxHeartbeats 2000000 in
theorem keys_any (b : Nat) : Calls Tryz.prog 17 #[.int .i64 b] w fun e w' => ∃ v, e = .returned v ∧ w'.ownsRow w.heap.size 9 1 v (keysOf b).length ((keysOf b).map Value.string) ∧ Below w.heap.size w w' := by
  obtain ⟨si, hsi, sz0, sz1, sz2⟩ := info_parts infoStr2
  go_enter Tryz.func17, Tryz.ntmps17
  go_wp2_with fail
  go_loopw [3, 4] (fun s3 u wr => ∃ (k : Nat), k ≤ 6 ∧ u = .int .i64 k ∧ wr.ownsRow w.heap.size 9 1 s3 (keysTo b k).length ((keysTo b k).map Value.string) ∧ Below w.heap.size w wr) (fun _ u _ => 6 - (intOf u).toNat)
  case atStart => exact ⟨0, by omega, rfl, World.ownsRow_nil _ _ _ _, Below.refl _ _⟩
  case round =>
    obtain ⟨k, hk, rfl, hrow, hB⟩ := hrel
    by_cases hlt : k < 6
    · obtain ⟨av, capv, hv3⟩ := row_len hrow
      have hLk := keysTo_len b k
      have hsz := hB.size
      obtain ⟨bt, hbt⟩ : ∃ bt, bitK b k = bt := ⟨_, rfl⟩
      have hbt' := hbt
      unfold bitK at hbt'
      cases bt with
      | true =>
        have HK : Hid (keysTo b (k + 1) = keysTo b k ++ [six k]) := by
          show keysTo b k ++ (if bitK b k = true then [six k] else []) = _
          rw [hbt]; rfl
        have h6 : ((wr.alloc (.cells #[.string ⟨#[97]⟩, .string ⟨#[98]⟩, .string ⟨#[99]⟩, .string ⟨#[100, 100]⟩, .string ⟨#[101, 49]⟩, .string ⟨#[122, 122, 122, 122]⟩] 9))).cell? ⟨wr.heap.size, k, none⟩ = some (.string (six k)) := by
          refine (Blk.new wr _ _).cell ?_
          match k, hlt with
          | 0, _ => rfl
          | 1, _ => rfl
          | 2, _ => rfl
          | 3, _ => rfl
          | 4, _ => rfl
          | 5, _ => rfl
        have hrow2 := (hrow.alloc (.cells #[.string ⟨#[97]⟩, .string ⟨#[98]⟩, .string ⟨#[99]⟩, .string ⟨#[100, 100]⟩, .string ⟨#[101, 49]⟩, .string ⟨#[122, 122, 122, 122]⟩] 9))
        have hB2 : Below w.heap.size w (wr.alloc (.cells #[.string ⟨#[97]⟩, .string ⟨#[98]⟩, .string ⟨#[99]⟩, .string ⟨#[100, 100]⟩, .string ⟨#[101, 49]⟩, .string ⟨#[122, 122, 122, 122]⟩] 9)) := hB.alloc hsz _
        have hrw := hrow2
        generalize hxs : (keysTo b k).map Value.string = xs at *
        generalize hnk : (keysTo b k).length = nk at *
        generalize six k = sk at *
        have HX : Hid (∀ (w2 : World) (v2 : Value), w2.ownsRow w.heap.size 9 1 v2 (nk + 1) (xs ++ [.string sk]) → w2.ownsRow w.heap.size 9 1 v2 (keysTo b (k + 1)).length ((keysTo b (k + 1)).map Value.string)) := fun w2 v2 h => by
          rw [HK.out, List.length_append, List.map_append, hxs, hnk]; exact h
        clear hbt HK hxs hnk hrow
        subst hv3
        have hcz : w.heap.size ≤ (wr.alloc (.cells #[.string ⟨#[97]⟩, .string ⟨#[98]⟩, .string ⟨#[99]⟩, .string ⟨#[100, 100]⟩, .string ⟨#[101, 49]⟩, .string ⟨#[122, 122, 122, 122]⟩] 9)).heap.size := hB2.size
        go_wp2_with (at_builtin; refine wpList_append_own_at _ rfl (.tmp 14) (.tmp 19) 38 rfl w.heap.size 9 si _ 1 16 Tryz.underlying38 hsi sz0 sz1 sz2 rfl (by decide) (.slice av nk capv) nk xs rfl (hrow2.alloc _) ⟨_, 0, none⟩ 1 1 [.string sk] rfl rfl (by first | exact cell_one_new _ _ _ | (simpa using cell_one_new (wr.alloc (.cells #[.string ⟨#[97]⟩, .string ⟨#[98]⟩, .string ⟨#[99]⟩, .string ⟨#[100, 100]⟩, .string ⟨#[101, 49]⟩, .string ⟨#[122, 122, 122, 122]⟩] 9)) (.string sk) 9)) (by simp [Value.oneCell']) (by unfold maxLen; omega) (by omega) (by simp; omega) ?_; intro v2 w2 hO2 hG2 hN2 hA2)
        have hO3 := HX.out w2 v2 hO2
        have hB3 : Below w.heap.size w w2 := (hB2.alloc hcz _).grown hG2 (by simp; omega) (fun q e => (row_ge hrw q e).1)
        clear hN2 hA2
        go_wp2_with fail
        go_roundw
        case rel => exact ⟨k + 1, by omega, by go_num, hO3, hB3⟩
        case measure => simp [intOf]; omega
      | false =>
        have HK : Hid (keysTo b (k + 1) = keysTo b k) := by
          show keysTo b k ++ (if bitK b k = true then [six k] else []) = _
          rw [hbt]; simp
        clear hbt
        go_wp2_with fail
        go_roundw
        case rel => exact ⟨k + 1, by omega, by go_num, by rw [HK.out]; exact hrow, hB⟩
        case measure => simp [intOf]; omega
    · have hk6 : k = 6 := by omega
      subst hk6
      go_wp2_with fail
      go_ret
      exact ⟨_, rfl, hrow, hB⟩

end
end Go.Proofs.YteoahlieielcdaaGreat
