/-
  The statement's own functions: begins, its walk.
-/
import Derived.Test.YtmmhiahggnmhhaaLaw3
namespace Go.Proofs.Ytmmhiahggnmhhaa
open Go Go.RowKit

section
variable {w : World} {τ : Nat → Tag} {wb n : Nat} {c : Int} {a : LA} {M : List MS}

/-- a step as a value -/
def opVal (kd on A B : Int) (s : ByteArray) (it ks : Value) : Value := .agg #[.int .i64 kd, .int .i64 on, .int .i64 A, .int .i64 B, .string s, it, ks]
def opCells (kd on A B : Int) (s : ByteArray) (it ks : Value) : Obj := .cells #[.int .i64 kd, .int .i64 on, .int .i64 A, .int .i64 B, .string s, it, ks] 38

theorem box_keeps (h : LW w τ wb c a M) (o : Obj) : LW (w.alloc o) (boxT τ w.heap.size) wb c a M ∧ Kp τ w (boxT τ w.heap.size) (w.alloc o) := by
  have hb : Below w.heap.size w (w.alloc o) := (Below.refl _ _).alloc (Nat.le_refl _) o
  have ht : ∀ k, k < w.heap.size → boxT τ w.heap.size k = τ k := fun k hk => boxT_old (by omega)
  exact ⟨h.new hb ht, Kp.of_below hb ht⟩

set_option maxRecDepth 100000 in
set_option maxHeartbeats 2000000 in
theorem begins_bad (h : LW w τ wb c a M) (kd on A B : Int) (s : ByteArray) (it ks : Value) (hq : newErr A B ≠ 0) :
    Calls Try.prog 7 #[ptr wb, opVal kd on A B s it ks] w fun e w' => e = .returned (.bool true) ∧ Left1 w τ wb c a w' := by
  obtain ⟨h1, k1⟩ := box_keeps h (opCells kd on A B s it ks)
  have c1 := pNew_err A B (w.alloc (opCells kd on A B s it ks)) hq
  have c2 := rNew_bad A B (w.alloc (opCells kd on A B s it ks)) hq
  generalize newErr A B = q at *
  unfold ptr opVal
  unfold opCells at *
  go_enter Try.func7, Try.ntmps7
  go_wp2_with first
    | (go_at_call 22; refine c1.mono ?_; rintro e w' ⟨rfl, rfl⟩)
    | (go_at_call 23; refine c2.mono ?_; rintro e w' ⟨rfl, rfl⟩)
  go_ret
  exact ⟨rfl, _, a, M, c, h1, by omega, by omega, by omega, by omega, k1⟩

def refT (τ : Nat → Tag) (b sid : Nat) : Nat → Tag := fun k => if k = b then (sid, 0, 0) else τ k
theorem new_both (h : LW w τ wb c a M) {A B : Int} (hq : newErr A B = 0) {w2 : World} {τ2 : Nat → Tag} {sb : Nat} {As : SA} (hS : RepS w2 τ2 (2 + 2 * M.length) sb { parts := A.toNat, mode := B, ws := [] } As) (hB : Below w.heap.size w w2) (ht : ∀ k, k < w.heap.size → τ2 k = τ k) :
    LW (w2.alloc (newCells A B)) (refT τ2 w2.heap.size (3 + 2 * M.length)) wb c a M ∧ RepS (w2.alloc (newCells A B)) (refT τ2 w2.heap.size (3 + 2 * M.length)) (2 + 2 * M.length) sb (emptyMS A B) As ∧ RepR (w2.alloc (newCells A B)) (refT τ2 w2.heap.size (3 + 2 * M.length)) (3 + 2 * M.length) w2.heap.size (emptyMS A B) emptyRA ∧ Kp τ w (refT τ2 w2.heap.size (3 + 2 * M.length)) (w2.alloc (newCells A B)) := by
  have hs := hB.size
  have ht3 : ∀ k, k < w2.heap.size → refT τ2 w2.heap.size (3 + 2 * M.length) k = τ2 k := fun k hk => by unfold refT; rw [if_neg (by omega)]
  have hB3 : Below w.heap.size w (w2.alloc (newCells A B)) := hB.alloc (by omega) _
  refine ⟨h.new hB3 (fun k hk => (ht3 k (by omega)).trans (ht k hk)), hS.frame (fun k hk _ => ⟨Below.heap_alloc _ _ _ hk, ht3 k hk⟩), RepR.made hq w2 τ2 _, Kp.of_below hB3 (fun k hk => (ht3 k (by omega)).trans (ht k hk))⟩

set_option maxRecDepth 100000 in
set_option maxHeartbeats 2000000 in
theorem begins_good (h : LW w τ wb c a M) (kd on A B : Int) (s : ByteArray) (it ks : Value) (hq : newErr A B = 0) :
    Calls Try.prog 7 #[ptr wb, opVal kd on A B s it ks] w fun e w' => e = .returned (.bool true) ∧ Left1 w τ wb c a w' := by
  obtain ⟨h1, k1⟩ := box_keeps h (opCells kd on A B s it ks)
  obtain ⟨g1, g2, g3, g4⟩ := newErr_ok hq
  obtain ⟨si, hsi, hi0, hi1, hi2⟩ := info_parts infoStore
  have c1 := pNew_good A B (w.alloc (opCells kd on A B s it ks)) (boxT τ w.heap.size) (2 + 2 * M.length) g1 g2 (by simp [goodMode]; omega)
  have hbx : Blk (w.alloc (opCells kd on A B s it ks)) w.heap.size #[.int .i64 kd, .int .i64 on, .int .i64 A, .int .i64 B, .string s, it, ks] 38 := Blk.new _ _ _
  have hn8 := h.base.n8
  unfold ptr opVal
  unfold opCells at *
  go_enter Try.func7, Try.ntmps7
  by_cases h8 : M.length < 8
  · go_wp2_with first
      | (go_at_call 22; refine c1.mono ?_; rintro e w2 ⟨τ2, sb, As, rfl, hS2, hB2, ht2, hsb⟩; unfold ptr; have hb2 := hbx.of_eq (hB2.block _ (by simp)); have e2 := hb2.cell (o := 2) rfl; have e3 := hb2.cell (o := 3) rfl; have c2 := rNew_good A B w2 hq; unfold ptr at c2)
      | (go_at_call 23; refine c2.mono ?_; rintro e w3 ⟨rfl, hw3⟩; obtain ⟨h3, s3, r3, k3⟩ := new_both h1 hq hS2 hB2 ht2; rw [← hw3] at h3 s3 r3 k3; clear hw3; obtain ⟨av, cpv, hsv⟩ := row_len h3.base.st; have e0 := h3.base.blk.cell (o := 0) (v := a.stv) rfl; have f0 := h3.base.blk.frozen 0; rw [hsv] at e0)
      | (at_builtin; (refine wpList_append_own_at _ rfl (.tmp 49) (.tmp 53) 26 rfl 0 44 si _ 2 16 Try.underlying26 hsi hi0 hi1 hi2 rfl (by decide) (.slice av M.length cpv) M.length (storeCells a M.length) rfl (World.ownsRow.alloc (hsv ▸ h3.base.st) _) ⟨_, 0, none⟩ 1 1 [.pointer (some ⟨sb, 0, none⟩), .pointer (some ⟨w2.heap.size, 0, none⟩)] rfl rfl (cell_two_new _ _ _ _) (by simp [Value.oneCell']) (by unfold maxLen; omega) (by omega) (Nat.zero_le _) ?_; intro v5 w5 hO5 hG5 hN5 hA5; rw [← hsv] at hG5 hA5; obtain ⟨hb5, hk5⟩ := stores_after h3.base hG5; have d0 := hb5.cell (o := 0) (v := a.stv) rfl; rw [hsv] at d0; have j0 := hb5.frozen 0; obtain ⟨q5, cap5, hv5, -⟩ := row_form hO5 (by omega); rw [hv5]))
    go_ret
    obtain ⟨h6, k6⟩ := push_store h3 h8 s3 r3 hG5 hA5 hO5
    rw [← hv5]
    exact ⟨rfl, _, _, _, c, h6, by omega, by omega, Nat.le_succ _, Nat.le_succ _, k1.trans (k3.trans (k6.kp (by omega)))⟩
  · go_wp2_with first
      | (go_at_call 22; refine c1.mono ?_; rintro e w2 ⟨τ2, sb, As, rfl, hS2, hB2, ht2, hsb⟩; unfold ptr; have hb2 := hbx.of_eq (hB2.block _ (by simp)); have e2 := hb2.cell (o := 2) rfl; have e3 := hb2.cell (o := 3) rfl; have c2 := rNew_good A B w2 hq; unfold ptr at c2)
      | (go_at_call 23; refine c2.mono ?_; rintro e w3 ⟨rfl, hw3⟩; obtain ⟨h3, s3, r3, k3⟩ := new_both h1 hq hS2 hB2 ht2; rw [← hw3] at h3 s3 r3 k3; clear hw3; obtain ⟨av, cpv, hsv⟩ := row_len h3.base.st; have e0 := h3.base.blk.cell (o := 0) (v := a.stv) rfl; have f0 := h3.base.blk.frozen 0; rw [hsv] at e0)
    go_ret
    exact ⟨rfl, _, a, M, c, h3, by omega, by omega, by omega, by omega, k1.trans k3⟩

/-- BEGINS. -/
theorem begins_any (h : LW w τ wb c a M) (kd on A B : Int) (s : ByteArray) (it ks : Value) :
    Calls Try.prog 7 #[ptr wb, opVal kd on A B s it ks] w fun e w' => e = .returned (.bool true) ∧ Left1 w τ wb c a w' := by
  by_cases hq : newErr A B = 0
  · exact begins_good h kd on A B s it ks hq
  · exact begins_bad h kd on A B s it ks hq

end
end Go.Proofs.Ytmmhiahggnmhhaa
