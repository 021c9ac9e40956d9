/-
  The statement's own functions: begins.
-/
import Derived.Test.YteoahlieielcdaaGreatLaw2
namespace Go.Proofs.YteoahlieielcdaaGreat
open Go Go.RowKit

theorem infoStore : (Tryz.prog.info? 127).map (fun i => (i.zero, i.size, i.bytes)) = some (some (.agg #[.pointer none, .pointer none]), 2, 16) := by kernel_rfl

/-- WHAT IS KEPT: what is foreign (owner 0) is as it was, all tags stay -/
structure Kp (τ : Nat → Tag) (w : World) (τ' : Nat → Tag) (w' : World) : Prop where
  os : w'.os = w.os
  tape : w'.tape = w.tape
  output : w'.output = w.output
  size : w.heap.size ≤ w'.heap.size
  tag : ∀ k, k < w.heap.size → τ' k = τ k
  block : ∀ k, k < w.heap.size → (τ k).1 = 0 → w'.heap[k]? = w.heap[k]?
theorem Kp.refl (τ : Nat → Tag) (w : World) : Kp τ w τ w := ⟨rfl, rfl, rfl, Nat.le_refl _, fun _ _ => rfl, fun _ _ _ => rfl⟩
theorem Kp.trans {τ τ1 τ2 : Nat → Tag} {w w1 w2 : World} (h : Kp τ w τ1 w1) (k : Kp τ1 w1 τ2 w2) : Kp τ w τ2 w2 :=
  ⟨k.os.trans h.os, k.tape.trans h.tape, k.output.trans h.output, Nat.le_trans h.size k.size,
    fun i hi => (k.tag i (Nat.lt_of_lt_of_le hi h.size)).trans (h.tag i hi),
    fun i hi hs => (k.block i (Nat.lt_of_lt_of_le hi h.size) (by rw [h.tag i hi]; exact hs)).trans (h.block i hi hs)⟩
theorem Stp.kp {s : Nat} {τ τ' : Nat → Tag} {w w' : World} (h : Stp s τ w τ' w') (hs : s ≠ 0) : Kp τ w τ' w' :=
  ⟨h.os, h.tape, h.output, h.size, h.tag, fun k hk ht => h.block k hk (by rw [ht]; exact fun e => hs e.symm)⟩
theorem Kp.of_below {τ τ' : Nat → Tag} {w w' : World} (h : Below w.heap.size w w') (ht : ∀ k, k < w.heap.size → τ' k = τ k) : Kp τ w τ' w' :=
  ⟨h.os, h.tape, h.output, h.size, ht, fun k hk _ => h.block k hk⟩

/-- the statement's world with M in its stores -/
structure LW (w : World) (τ : Nat → Tag) (wb : Nat) (c : Int) (a : LA) (M : List MS) : Prop where
  base : LBase w τ wb M.length c a
  st : LS w τ a M M
  rl : ∀ (i : Nat) (m : MS), M[i]? = some m → (m.rs.length : Int) ≤ c
  c0 : 0 ≤ c

theorem rl_set {M : List MS} {c c' : Int} {p : Nat} {m' : MS} (h : ∀ (i : Nat) (m : MS), M[i]? = some m → (m.rs.length : Int) ≤ c) (hc : c ≤ c') (hm : (m'.rs.length : Int) ≤ c') : ∀ (i : Nat) (m : MS), (M.set p m')[i]? = some m → (m.rs.length : Int) ≤ c' := by
  intro i m hi
  rcases set_some hi with ⟨_, rfl⟩ | ⟨_, hi⟩
  · exact hm
  · have := h i m hi; omega

theorem mPrepare_rs (s : MS) (n p : Int) : (mPrepare s n p).2.rs = s.rs := by
  unfold mPrepare
  split
  · rfl
  · split
    · rfl
    · split <;> rfl
theorem mCommit_rs (s : MS) (n p : Int) : (mCommit s n p).2.rs = s.rs := by
  unfold mCommit
  split
  · rfl
  · split
    · rfl
    · split
      · rfl
      · split <;> rfl
theorem mCancel_rs (s : MS) (n : Int) : (mCancel s n).2.rs = s.rs := by
  unfold mCancel
  split
  · rfl
  · split <;> rfl
theorem mWrite_rs (s : MS) (l : List KV) : (mWrite s l).2.2.rs = s.rs := by
  unfold mWrite
  split
  · rfl
  · split <;> rfl
theorem mAsk_rs (s : MS) (n : Int) (k : ByteArray) : (mAsk s n k).2.rs.length = s.rs.length := by
  unfold mAsk
  split
  · rfl
  · split
    · split
      · rfl
      · simp [setR]
    · rfl
theorem mRead_rs (s : MS) (l : List ByteArray) : (mRead s l).2.2.rs.length ≤ s.rs.length + 1 := by
  unfold mRead
  split
  · simp
  · split <;> simp

/-- WHAT A STEP LEAVES -/
def Left1 (w : World) (τ : Nat → Tag) (wb : Nat) (c : Int) (a : LA) (w' : World) : Prop :=
  ∃ τ' a' M' c', LW w' τ' wb c' a' M' ∧ c ≤ c' ∧ c' ≤ c + 1 ∧ a'.J ≤ a.J + 1 ∧ a'.K ≤ a.K + 1 ∧ Kp τ w τ' w'

section
variable {w : World} {τ : Nat → Tag} {wb n : Nat} {c : Int} {a : LA} {M : List MS}

/-- whatever is new, with whatever tags -/
theorem LW.new (h : LW w τ wb c a M) {w' : World} {τ' : Nat → Tag} (hb : Below w.heap.size w w') (ht : ∀ k, k < w.heap.size → τ' k = τ k) : LW w' τ' wb c a M :=
  ⟨h.base.frame (fun k hk _ => ⟨hb.block k hk, ht k hk⟩), ⟨fun i m hm => by obtain ⟨A, hA⟩ := h.st.s i m hm; exact ⟨A, hA.frame (fun k hk _ => ⟨hb.block k hk, ht k hk⟩)⟩, fun i m hm => by obtain ⟨A, hA⟩ := h.st.r i m hm; exact ⟨A, hA.frame (fun k hk _ => ⟨hb.block k hk, ht k hk⟩)⟩⟩, h.rl, h.c0⟩
theorem LW.drewN (h : LW w τ wb c a M) (m : Nat) : LW (w.drewN m) τ wb c a M := h.new (Below.drewN' (Below.refl _ _) m) (fun _ _ => rfl)

/-- a box of the statement's own: nobody's -/
def boxT (τ : Nat → Tag) (b : Nat) : Nat → Tag := fun k => if k = b then (0, 0, 0) else τ k
theorem boxT_old {τ : Nat → Tag} {b k : Nat} (h : k ≠ b) : boxT τ b k = τ k := by simp [boxT, h]
theorem boxT_new {τ : Nat → Tag} {b : Nat} : (boxT τ b b).1 = 0 := by simp [boxT]

/-- one store more -/
def pushSt (a : LA) (n : Nat) (v : Value) (sb rb : Nat) : LA := { a with stv := v, sB := fun i => if i = n then sb else a.sB i, rB := fun i => if i = n then rb else a.rB i }
def stTags (τ : Nat → Tag) (v : Value) : Nat → Tag := fun k => if v.ownBlock = some k then (1, 1, 0) else τ k

theorem storeCells_snoc (a : LA) (n : Nat) (v : Value) (sb rb : Nat) : storeCells (pushSt a n v sb rb) (n + 1) = storeCells a n ++ [ptr sb, ptr rb] := by
  unfold storeCells
  rw [List.range_succ, List.flatMap_append]
  congr 1
  · simp only [List.flatMap_def]
    congr 1
    refine List.map_congr_left (fun j hj => ?_)
    have : j ≠ n := by have := List.mem_range.1 hj; omega
    simp [pushSt, this]
  · simp [pushSt]

theorem stores_after (h : LBase w τ wb n c a) {o1 : Obj} {w2 : World} (hG2 : (w.alloc o1).grownBy w2 a.stv.ownBlock) :
    Blk w2 wb #[a.stv, .slice none 0 0, .slice none 0 0, a.txv, a.tmv, a.itv, a.imv, .int .i64 c] 84 ∧ ∀ k, k < w.heap.size → a.stv.ownBlock ≠ some k → w2.heap[k]? = w.heap[k]? := by
  have hk2 : ∀ k, k < w.heap.size → a.stv.ownBlock ≠ some k → w2.heap[k]? = w.heap[k]? := by
    intro k hk hn
    rw [hG2.block k (by simp; omega) (fun e => hn e.symm), Below.heap_alloc _ _ _ hk]
  exact ⟨h.blk.of_eq (hk2 wb h.blk.lt (fun e => by have := h.stTag wb e; rw [h.tag] at this; simp at this)), hk2⟩

theorem push_store (h : LW w τ wb c a M) (h8 : M.length < 8) {sb rb : Nat} {m : MS} (hrs : (m.rs.length : Int) ≤ c) {A : SA} {B : RA} (hs : RepS w τ (2 + 2 * M.length) sb m A) (hr : RepR w τ (3 + 2 * M.length) rb m B)
    {o1 : Obj} {v2 : Value} {w2 : World} (hG2 : (w.alloc o1).grownBy w2 a.stv.ownBlock) (hA2 : v2.ownBlock = a.stv.ownBlock ∨ v2.ownBlock = some (w.alloc o1).heap.size)
    (hO2 : w2.ownsRow 0 127 2 v2 (M.length + 1) (storeCells a M.length ++ [ptr sb, ptr rb])) :
    LW (w2.setCell ⟨wb, 0, none⟩ v2) (stTags τ v2) wb c (pushSt a M.length v2 sb rb) (M ++ [m]) ∧ Stp 1 τ w (stTags τ v2) (w2.setCell ⟨wb, 0, none⟩ v2) := by
  obtain ⟨b2, k2⟩ := stores_after h.base hG2
  have hB := h.base
  have hwl := hB.blk.lt
  have hs2 : w.heap.size + 1 ≤ w2.heap.size := by simpa using hG2.size
  have hwi : a.stv.ownBlock ≠ some wb := fun e => by have := hB.stTag wb e; rw [hB.tag] at this; simp at this
  have n2 : ∀ k, v2.ownBlock = some k → k ≠ wb := by
    intro k hk e
    subst e
    rcases hA2 with e | e
    · exact hwi (e.symm.trans hk)
    · rw [hk] at e
      simp at e
      omega
  have kk : ∀ k, k < w.heap.size → a.stv.ownBlock ≠ some k → k ≠ wb → (w2.setCell ⟨wb, 0, none⟩ v2).heap[k]? = w.heap[k]? := fun k h1 h2 h4 => (Below.heap_setCell _ _ _ _ h4).trans (k2 k h1 h2)
  have tk : ∀ k, k < w.heap.size → stTags τ v2 k = τ k := by
    intro k hk
    unfold stTags
    split
    · rename_i e
      rcases hA2 with e2 | e2
      · rw [hB.stTag k (e2.symm.trans e)]
      · rw [e] at e2; simp at e2; omega
    · rfl
  have hS : Stp 1 τ w (stTags τ v2) (w2.setCell ⟨wb, 0, none⟩ v2) := by
    refine ⟨hG2.os, hG2.tape, hG2.output, by simp only [World.setCell, Array.size_modify]; omega, tk, fun k hk hs => ?_⟩
    refine kk k hk (fun e => hs ?_) (fun e => hs ?_)
    · rw [hB.stTag k e]
    · rw [e, hB.tag]
  have hblk : ∀ {k : Nat} {c : Array Value} {t : TypeId} {g : Nat × Nat}, Blk w k c t → τ k = (1, g) → g ≠ (0, 0) → g ≠ (1, 0) → Blk (w2.setCell ⟨wb, 0, none⟩ v2) k c t ∧ stTags τ v2 k = (1, g) := by
    intro k c t g hb hg h0 h2
    refine ⟨hb.of_eq (kk k hb.lt (fun e => ?_) (fun e => ?_)), (tk k hb.lt).trans hg⟩
    · rw [hB.stTag k e] at hg; simp at hg; exact h2 hg.symm
    · rw [e, hB.tag] at hg; simp at hg; exact h0 hg.symm
  have hrow : ∀ {e : TypeId} {sz : Nat} {v : Value} {n : Nat} {xs : List Value} {g : Nat × Nat}, w.ownsRow 0 e sz v n xs → (∀ k, v.ownBlock = some k → τ k = (1, g)) → g ≠ (0, 0) → g ≠ (1, 0) → (w2.setCell ⟨wb, 0, none⟩ v2).ownsRow 0 e sz v n xs ∧ ∀ k, v.ownBlock = some k → stTags τ v2 k = (1, g) := by
    intro e sz v n xs g hr hv h0 h2
    refine ⟨row_of_block hr (fun k hk => ?_), fun k hk => (tk k (row_ge hr k hk).2).trans (hv k hk)⟩
    have hg := hv k hk
    refine kk k (row_ge hr k hk).2 (fun e => ?_) (fun e => ?_)
    · rw [hB.stTag k e] at hg; simp at hg; exact h2 hg.symm
    · rw [e, hB.tag] at hg; simp at hg; exact h0 hg.symm
  have r1 := hrow hB.it hB.itTag (by simp) (by simp)
  have r2 := hrow hB.im hB.imTag (by simp) (by simp)
  have r4 := hrow hB.tx hB.txTag (by simp) (by simp)
  have r5 := hrow hB.tm hB.tmTag (by simp) (by simp)
  have l7 := fun j (hj : j < a.K) => hblk (hB.ts j hj) (hB.tsTag j hj) (by simp) (by simp)
  have l4 := fun j (hj : j < a.J) => hblk (hB.ls j hj) (hB.lsTag j hj) (by simp) (by simp)
  have hlen : (M ++ [m]).length = M.length + 1 := by simp
  have hst : (w2.setCell ⟨wb, 0, none⟩ v2).ownsRow 0 127 2 v2 (M ++ [m]).length (storeCells (pushSt a M.length v2 sb rb) (M ++ [m]).length) := by
    rw [hlen, storeCells_snoc]
    exact row_of_block hO2 (fun k hk => Below.heap_setCell _ _ _ _ (n2 k hk))
  refine ⟨⟨⟨b2.set 0 v2, (tk wb hwl).trans hB.tag, hst, fun k (hk : v2.ownBlock = some k) => (by show stTags τ v2 k = _; unfold stTags; rw [if_pos hk]), r1.1, r1.2, r2.1, r2.2, fun j hj => (l4 j hj).1, fun j hj => (l4 j hj).2, hB.lsLen, r4.1, r4.2, r5.1, r5.2, fun j hj => (l7 j hj).1, fun j hj => (l7 j hj).2, hB.tsLen, by omega⟩, ?_, ?_, h.c0⟩, hS⟩
  rotate_left
  · intro i x hx
    rw [List.getElem?_append] at hx
    split at hx
    · exact h.rl i x hx
    · have : x = m := by
        have h1 := lt_of_some hx
        simp at h1
        have h2 : i - M.length = 0 := by omega
        rw [h2] at hx
        simp at hx
        exact hx.symm
      rw [this]; exact hrs
  have hL := h.st.stp1 hS
  have hs' : RepS (w2.setCell ⟨wb, 0, none⟩ v2) (stTags τ v2) (2 + 2 * M.length) sb m A := hs.frame (fun k hk ht => ⟨hS.block k hk (by rw [ht]; omega), hS.tag k hk⟩)
  have hr' : RepR (w2.setCell ⟨wb, 0, none⟩ v2) (stTags τ v2) (3 + 2 * M.length) rb m B := hr.frame (fun k hk ht => ⟨hS.block k hk (by rw [ht]; omega), hS.tag k hk⟩)
  have hcase : ∀ i x, (M ++ [m])[i]? = some x → (i = M.length ∧ x = m) ∨ (i ≠ M.length ∧ M[i]? = some x) := by
    intro i x hx
    rw [List.getElem?_append] at hx
    split at hx
    · exact Or.inr ⟨by omega, hx⟩
    · by_cases e : i = M.length
      · subst e; simp at hx; exact Or.inl ⟨rfl, hx.symm⟩
      · rw [List.getElem?_eq_none (by simp; omega)] at hx; cases hx
  refine ⟨fun i x hx => ?_, fun i x hx => ?_⟩
  · rcases hcase i x hx with ⟨rfl, rfl⟩ | ⟨e, hx'⟩
    · simp only [pushSt, if_true]; exact ⟨A, hs'⟩
    · simp only [pushSt, e, if_false]; exact hL.s i x hx'
  · rcases hcase i x hx with ⟨rfl, rfl⟩ | ⟨e, hx'⟩
    · simp only [pushSt, if_true]; exact ⟨B, hr'⟩
    · simp only [pushSt, e, if_false]; exact hL.r i x hx'

theorem pNew_err (parts mode : Int) (w : World) (h : newErr parts mode ≠ 0) :
    Calls Tryz.prog 34 #[.int .i64 parts, .int .i64 mode] w fun e w' => e = .returned (.tuple #[.pointer none, .int .i64 (newErr parts mode)]) ∧ w' = w := by
  by_cases hp : parts < 1 ∨ 4 < parts
  · have : newErr parts mode = 1 := by unfold newErr; rw [if_pos hp]
    rw [this]
    exact pNew_bad parts mode w hp
  · have hm : mode < 1 ∨ 3 < mode := by
      unfold newErr at h
      rw [if_neg hp] at h
      by_cases e : mode < 1 ∨ 3 < mode
      · exact e
      · rw [if_neg e] at h; exact absurd rfl h
    have : newErr parts mode = 2 := by unfold newErr; rw [if_neg hp, if_pos hm]
    rw [this]
    exact pNew_mode parts mode w (by omega) (by omega) (by simp [goodMode]; omega)

end
end Go.Proofs.YteoahlieielcdaaGreat

/-
  The statement's own functions: begins, its walk.
-/
namespace Go.Proofs.YteoahlieielcdaaGreat
open Go Go.RowKit

section
variable {w : World} {τ : Nat → Tag} {wb n : Nat} {c : Int} {a : LA} {M : List MS}

/-- a step as a value -/
def opVal (kd on A B : Int) (s : ByteArray) (it ks : Value) : Value := .agg #[.int .i64 kd, .int .i64 on, .int .i64 A, .int .i64 B, .string s, it, ks]
def opCells (kd on A B : Int) (s : ByteArray) (it ks : Value) : Obj := .cells #[.int .i64 kd, .int .i64 on, .int .i64 A, .int .i64 B, .string s, it, ks] 86

theorem box_keeps (h : LW w τ wb c a M) (o : Obj) : LW (w.alloc o) (boxT τ w.heap.size) wb c a M ∧ Kp τ w (boxT τ w.heap.size) (w.alloc o) := by
  have hb : Below w.heap.size w (w.alloc o) := (Below.refl _ _).alloc (Nat.le_refl _) o
  have ht : ∀ k, k < w.heap.size → boxT τ w.heap.size k = τ k := fun k hk => boxT_old (by omega)
  exact ⟨h.new hb ht, Kp.of_below hb ht⟩

set_option maxRecDepth 100000 in
set_option maxHeartbeats 2000000 in
theorem begins_bad (h : LW w τ wb c a M) (kd on A B : Int) (s : ByteArray) (it ks : Value) (hq : newErr A B ≠ 0) :
    Calls Tryz.prog 56 #[ptr wb, opVal kd on A B s it ks] w fun e w' => e = .returned (.bool true) ∧ Left1 w τ wb c a w' := by
  obtain ⟨h1, k1⟩ := box_keeps h (opCells kd on A B s it ks)
  have c1 := pNew_err A B (w.alloc (opCells kd on A B s it ks)) hq
  have c2 := rNew_bad A B (w.alloc (opCells kd on A B s it ks)) hq
  generalize newErr A B = q at *
  unfold ptr opVal
  unfold opCells at *
  go_enter Tryz.func56, Tryz.ntmps56
  go_wp2_with first
    | (go_at_call 34; refine c1.mono ?_; rintro e w' ⟨rfl, rfl⟩)
    | (go_at_call 93; refine c2.mono ?_; rintro e w' ⟨rfl, rfl⟩)
  go_ret
  exact ⟨rfl, _, a, M, c, h1, by omega, by omega, by omega, by omega, k1⟩

def refT (τ : Nat → Tag) (b sid : Nat) : Nat → Tag := fun k => if k = b then (sid, 0, 0) else τ k
theorem new_both (h : LW w τ wb c a M) {A B : Int} (hq : newErr A B = 0) {w2 : World} {τ2 : Nat → Tag} {sb : Nat} {As : SA} (hS : RepS w2 τ2 (2 + 2 * M.length) sb { parts := A.toNat, mode := B, ws := [], rs := [] } As) (hB : Below w.heap.size w w2) (ht : ∀ k, k < w.heap.size → τ2 k = τ k) :
    LW (w2.alloc (newCells A B)) (refT τ2 w2.heap.size (3 + 2 * M.length)) wb c a M ∧ RepS (w2.alloc (newCells A B)) (refT τ2 w2.heap.size (3 + 2 * M.length)) (2 + 2 * M.length) sb (emptyMS A B) As ∧ RepR (w2.alloc (newCells A B)) (refT τ2 w2.heap.size (3 + 2 * M.length)) (3 + 2 * M.length) w2.heap.size (emptyMS A B) emptyRA ∧ Kp τ w (refT τ2 w2.heap.size (3 + 2 * M.length)) (w2.alloc (newCells A B)) := by
  have hs := hB.size
  have ht3 : ∀ k, k < w2.heap.size → refT τ2 w2.heap.size (3 + 2 * M.length) k = τ2 k := fun k hk => by unfold refT; rw [if_neg (by omega)]
  have hB3 : Below w.heap.size w (w2.alloc (newCells A B)) := hB.alloc (by omega) _
  refine ⟨h.new hB3 (fun k hk => (ht3 k (by omega)).trans (ht k hk)), hS.frame (fun k hk _ => ⟨Below.heap_alloc _ _ _ hk, ht3 k hk⟩), RepR.made hq w2 τ2 _, Kp.of_below hB3 (fun k hk => (ht3 k (by omega)).trans (ht k hk))⟩

set_option maxRecDepth 100000 in
set_option maxHeartbeats 2000000 in
theorem begins_good (h : LW w τ wb c a M) (kd on A B : Int) (s : ByteArray) (it ks : Value) (hq : newErr A B = 0) :
    Calls Tryz.prog 56 #[ptr wb, opVal kd on A B s it ks] w fun e w' => e = .returned (.bool true) ∧ Left1 w τ wb c a w' := by
  obtain ⟨h1, k1⟩ := box_keeps h (opCells kd on A B s it ks)
  obtain ⟨g1, g2, g3, g4⟩ := newErr_ok hq
  obtain ⟨si, hsi, hi0, hi1, hi2⟩ := info_parts infoStore
  have c1 := pNew_good A B (w.alloc (opCells kd on A B s it ks)) (boxT τ w.heap.size) (2 + 2 * M.length) g1 g2 (by simp [goodMode]; omega)
  have hbx : Blk (w.alloc (opCells kd on A B s it ks)) w.heap.size #[.int .i64 kd, .int .i64 on, .int .i64 A, .int .i64 B, .string s, it, ks] 86 := Blk.new _ _ _
  have hn8 := h.base.n8
  unfold ptr opVal
  unfold opCells at *
  go_enter Tryz.func56, Tryz.ntmps56
  by_cases h8 : M.length < 8
  · go_wp2_with first
      | (go_at_call 34; refine c1.mono ?_; rintro e w2 ⟨τ2, sb, As, rfl, hS2, hB2, ht2, hsb⟩; unfold ptr; have hb2 := hbx.of_eq (hB2.block _ (by simp)); have e2 := hb2.cell (o := 2) rfl; have e3 := hb2.cell (o := 3) rfl; have c2 := rNew_good A B w2 hq; unfold ptr at c2)
      | (go_at_call 93; refine c2.mono ?_; rintro e w3 ⟨rfl, hw3⟩; obtain ⟨h3, s3, r3, k3⟩ := new_both h1 hq hS2 hB2 ht2; rw [← hw3] at h3 s3 r3 k3; clear hw3; obtain ⟨av, cpv, hsv⟩ := row_len h3.base.st; have e0 := h3.base.blk.cell (o := 0) (v := a.stv) rfl; have f0 := h3.base.blk.frozen 0; rw [hsv] at e0)
      | (at_builtin; (refine wpList_append_own_at _ rfl (.tmp 49) (.tmp 53) 79 rfl 0 127 si _ 2 16 Tryz.underlying79 hsi hi0 hi1 hi2 rfl (by decide) (.slice av M.length cpv) M.length (storeCells a M.length) rfl (World.ownsRow.alloc (hsv ▸ h3.base.st) _) ⟨_, 0, none⟩ 1 1 [.pointer (some ⟨sb, 0, none⟩), .pointer (some ⟨w2.heap.size, 0, none⟩)] rfl rfl (cell_two_new _ _ _ _) (by simp [Value.oneCell']) (by unfold maxLen; omega) (by omega) (Nat.zero_le _) ?_; intro v5 w5 hO5 hG5 hN5 hA5; rw [← hsv] at hG5 hA5; obtain ⟨hb5, hk5⟩ := stores_after h3.base hG5; have d0 := hb5.cell (o := 0) (v := a.stv) rfl; rw [hsv] at d0; have j0 := hb5.frozen 0; obtain ⟨q5, cap5, hv5, -⟩ := row_form hO5 (by omega); rw [hv5]))
    go_ret
    obtain ⟨h6, k6⟩ := push_store h3 h8 (by simpa [emptyMS] using h3.c0) s3 r3 hG5 hA5 hO5
    rw [← hv5]
    exact ⟨rfl, _, _, _, c, h6, by omega, by omega, Nat.le_succ _, Nat.le_succ _, k1.trans (k3.trans (k6.kp (by omega)))⟩
  · go_wp2_with first
      | (go_at_call 34; refine c1.mono ?_; rintro e w2 ⟨τ2, sb, As, rfl, hS2, hB2, ht2, hsb⟩; unfold ptr; have hb2 := hbx.of_eq (hB2.block _ (by simp)); have e2 := hb2.cell (o := 2) rfl; have e3 := hb2.cell (o := 3) rfl; have c2 := rNew_good A B w2 hq; unfold ptr at c2)
      | (go_at_call 93; refine c2.mono ?_; rintro e w3 ⟨rfl, hw3⟩; obtain ⟨h3, s3, r3, k3⟩ := new_both h1 hq hS2 hB2 ht2; rw [← hw3] at h3 s3 r3 k3; clear hw3; obtain ⟨av, cpv, hsv⟩ := row_len h3.base.st; have e0 := h3.base.blk.cell (o := 0) (v := a.stv) rfl; have f0 := h3.base.blk.frozen 0; rw [hsv] at e0)
    go_ret
    exact ⟨rfl, _, a, M, c, h3, by omega, by omega, by omega, by omega, k1.trans k3⟩

/-- BEGINS. -/
theorem begins_any (h : LW w τ wb c a M) (kd on A B : Int) (s : ByteArray) (it ks : Value) :
    Calls Tryz.prog 56 #[ptr wb, opVal kd on A B s it ks] w fun e w' => e = .returned (.bool true) ∧ Left1 w τ wb c a w' := by
  by_cases hq : newErr A B = 0
  · exact begins_good h kd on A B s it ks hq
  · exact begins_bad h kd on A B s it ks hq

end
end Go.Proofs.YteoahlieielcdaaGreat
