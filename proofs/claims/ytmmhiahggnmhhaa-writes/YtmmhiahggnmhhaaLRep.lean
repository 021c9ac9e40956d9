/-
  The statement's own world: its stores, the lists that were handed in, their marks.
-/
import Derived.Test.YtmmhiahggnmhhaaPr18
import Derived.Test.YtmmhiahggnmhhaaRef6
namespace Go.Proofs.Ytmmhiahggnmhhaa
open Go Go.RowKit

/-- where the parts of the statement's world lie -/
structure LA where
  stv : Value
  itv : Value
  imv : Value
  txv : Value
  tmv : Value
  sB : Nat → Nat
  rB : Nat → Nat
  lb : Nat → Nat
  ln : Nat → Nat
  mrk : Nat → ByteArray
  J : Nat
  tb : Nat → Nat
  tn : Nat → Nat
  tmk : Nat → ByteArray
  K : Nat

def storeCells (a : LA) (n : Nat) : List Value := (List.range n).flatMap (fun i => [ptr (a.sB i), ptr (a.rB i)])
def listVal (a : LA) (j : Nat) : Value := .slice (some ⟨a.lb j, 0, none⟩) (a.ln j) (a.ln j)
def textVal (a : LA) (j : Nat) : Value := .slice (some ⟨a.tb j, 0, none⟩) (a.tn j) (a.tn j)
def textRow (n : Nat) (x : ByteArray) : Array Value := Array.replicate n (.string x)
def markRow (n : Nat) (x : ByteArray) : Array Value := Array.replicate (n * 2) (.string x)

/-- the statement's own blocks: n stores, a count -/
structure LBase (w : World) (τ : Nat → Tag) (wb : Nat) (n : Nat) (c : Int) (a : LA) : Prop where
  blk : Blk w wb #[a.stv, .slice none 0 0, .slice none 0 0, a.txv, a.tmv, a.itv, a.imv, .int .i64 c] 33
  tag : τ wb = (1, 0, 0)
  st : w.ownsRow 0 44 2 a.stv n (storeCells a n)
  stTag : ∀ k, a.stv.ownBlock = some k → τ k = (1, 1, 0)
  it : w.ownsRow 0 36 1 a.itv a.J ((List.range a.J).map (listVal a))
  itTag : ∀ k, a.itv.ownBlock = some k → τ k = (1, 2, 0)
  im : w.ownsRow 0 9 1 a.imv a.J ((List.range a.J).map (fun j => .string (a.mrk j)))
  imTag : ∀ k, a.imv.ownBlock = some k → τ k = (1, 3, 0)
  ls : ∀ j, j < a.J → Blk w (a.lb j) (markRow (a.ln j) (a.mrk j)) 35
  lsTag : ∀ j, j < a.J → τ (a.lb j) = (1, 4, j)
  lsLen : ∀ j, j < a.J → a.ln j ≤ 4398046511104
  tx : w.ownsRow 0 30 1 a.txv a.K ((List.range a.K).map (textVal a))
  txTag : ∀ k, a.txv.ownBlock = some k → τ k = (1, 5, 0)
  tm : w.ownsRow 0 9 1 a.tmv a.K ((List.range a.K).map (fun j => .string (a.tmk j)))
  tmTag : ∀ k, a.tmv.ownBlock = some k → τ k = (1, 6, 0)
  ts : ∀ j, j < a.K → Blk w (a.tb j) (textRow (a.tn j) (a.tmk j)) 9
  tsTag : ∀ j, j < a.K → τ (a.tb j) = (1, 7, j)
  tsLen : ∀ j, j < a.K → a.tn j ≤ 4398046511104
  n8 : n ≤ 8

/-- the stores: the program's and the document's -/
structure LS (w : World) (τ : Nat → Tag) (a : LA) (S R : List MS) : Prop where
  s : ∀ (i : Nat) (m : MS), S[i]? = some m → ∃ A, RepS w τ (2 + 2 * i) (a.sB i) m A
  r : ∀ (i : Nat) (m : MS), R[i]? = some m → ∃ A, RepR w τ (3 + 2 * i) (a.rB i) m A

section
variable {w : World} {τ : Nat → Tag} {wb n : Nat} {c : Int} {a : LA} {S R : List MS}

/-- all but two places (those that a list that comes would take) -/
theorem LBase.frame' (h : LBase w τ wb n c a) {w' : World} {τ' : Nat → Tag} (hf : ∀ k, k < w.heap.size → (τ k).1 = 1 → τ k ≠ (1, 4, a.J) → τ k ≠ (1, 7, a.K) → w'.heap[k]? = w.heap[k]? ∧ τ' k = τ k) : LBase w' τ' wb n c a := by
  have hblk : ∀ {k : Nat} {c : Array Value} {t : TypeId} {g : Nat × Nat}, Blk w k c t → τ k = (1, g) → g ≠ (4, a.J) → g ≠ (7, a.K) → Blk w' k c t ∧ τ' k = (1, g) := by
    intro k c t g hb ht h4 h7
    obtain ⟨e1, e2⟩ := hf k hb.lt (by rw [ht]) (by rw [ht]; simpa using h4) (by rw [ht]; simpa using h7)
    exact ⟨hb.of_eq e1, e2.trans ht⟩
  have hrow : ∀ {e : TypeId} {sz : Nat} {v : Value} {n : Nat} {xs : List Value} {g : Nat × Nat}, w.ownsRow 0 e sz v n xs → (∀ k, v.ownBlock = some k → τ k = (1, g)) → g ≠ (4, a.J) → g ≠ (7, a.K) → w'.ownsRow 0 e sz v n xs ∧ ∀ k, v.ownBlock = some k → τ' k = (1, g) := by
    intro e sz v n xs g ho hv h4 h7
    have hk2 := fun k (hk : v.ownBlock = some k) => hf k (row_ge ho k hk).2 (by rw [hv k hk]) (by rw [hv k hk]; simpa using h4) (by rw [hv k hk]; simpa using h7)
    refine ⟨row_of_block ho (fun k hk => (hk2 k hk).1), fun k hk => ?_⟩
    rw [(hk2 k hk).2, hv k hk]
  have b0 := hblk h.blk h.tag (by simp) (by simp)
  have r1 := hrow h.st h.stTag (by simp) (by simp)
  have r2 := hrow h.it h.itTag (by simp) (by simp)
  have r3 := hrow h.im h.imTag (by simp) (by simp)
  have r4 := hrow h.tx h.txTag (by simp) (by simp)
  have r5 := hrow h.tm h.tmTag (by simp) (by simp)
  have l4 := fun j (hj : j < a.J) => hblk (h.ls j hj) (h.lsTag j hj) (by simp; omega) (by simp)
  have l7 := fun j (hj : j < a.K) => hblk (h.ts j hj) (h.tsTag j hj) (by simp) (by simp; omega)
  exact ⟨b0.1, b0.2, r1.1, r1.2, r2.1, r2.2, r3.1, r3.2, fun j hj => (l4 j hj).1, fun j hj => (l4 j hj).2, h.lsLen, r4.1, r4.2, r5.1, r5.2, fun j hj => (l7 j hj).1, fun j hj => (l7 j hj).2, h.tsLen, h.n8⟩
theorem LBase.frame (h : LBase w τ wb n c a) {w' : World} {τ' : Nat → Tag} (hf : ∀ k, k < w.heap.size → (τ k).1 = 1 → w'.heap[k]? = w.heap[k]? ∧ τ' k = τ k) : LBase w' τ' wb n c a :=
  h.frame' (fun k h1 h2 _ _ => hf k h1 h2)
/-- one more on the count -/
theorem LBase.count (h : LBase w τ wb n c a) {w' : World} (d : Int) (hb : Blk w' wb #[a.stv, .slice none 0 0, .slice none 0 0, a.txv, a.tmv, a.itv, a.imv, .int .i64 d] 33) (ho : ∀ k, k < w.heap.size → k ≠ wb → w'.heap[k]? = w.heap[k]?) : LBase w' τ wb n d a := by
  have hblk : ∀ {k : Nat} {c : Array Value} {t : TypeId} {g : Nat × Nat}, Blk w k c t → τ k = (1, g) → g ≠ (0, 0) → Blk w' k c t := by
    intro k c t g hb ht h4
    exact hb.of_eq (ho k hb.lt (fun e => by rw [e, h.tag] at ht; simp at ht; exact h4 ht.symm))
  have hrow : ∀ {e : TypeId} {sz : Nat} {v : Value} {n : Nat} {xs : List Value} {g : Nat × Nat}, w.ownsRow 0 e sz v n xs → (∀ k, v.ownBlock = some k → τ k = (1, g)) → g ≠ (0, 0) → w'.ownsRow 0 e sz v n xs := by
    intro e sz v n xs g hr hv h4
    exact row_of_block hr (fun k hk => ho k (row_ge hr k hk).2 (fun e => by have := hv k hk; rw [e, h.tag] at this; simp at this; exact h4 this.symm))
  exact ⟨hb, h.tag, hrow h.st h.stTag (by simp), h.stTag, hrow h.it h.itTag (by simp), h.itTag, hrow h.im h.imTag (by simp), h.imTag, fun j hj => hblk (h.ls j hj) (h.lsTag j hj) (by simp), h.lsTag, h.lsLen, hrow h.tx h.txTag (by simp), h.txTag, hrow h.tm h.tmTag (by simp), h.tmTag, fun j hj => hblk (h.ts j hj) (h.tsTag j hj) (by simp), h.tsTag, h.tsLen, h.n8⟩

/-- a step of a store leaves the statement's own blocks -/
theorem LBase.stp (h : LBase w τ wb n c a) {sid : Nat} {w' : World} {τ' : Nat → Tag} (hs : Stp sid τ w τ' w') (h1 : sid ≠ 1) : LBase w' τ' wb n c a :=
  h.frame (fun k hk ht => ⟨hs.block k hk (by rw [ht]; exact fun e => h1 e.symm), hs.tag k hk⟩)
theorem LBase.below (h : LBase w τ wb n c a) {w' : World} (hb : Below w.heap.size w w') : LBase w' τ wb n c a := h.frame (fun k hk _ => ⟨hb.block k hk, rfl⟩)
/-- a step that is no store's (the statement's own): the stores are as they were -/
theorem LS.stp1 (h : LS w τ a S R) {w' : World} {τ' : Nat → Tag} (hs : Stp 1 τ w τ' w') : LS w' τ' a S R := by
  refine ⟨fun i m hm => ?_, fun i m hm => ?_⟩
  · obtain ⟨A, hA⟩ := h.s i m hm
    exact ⟨A, hA.frame (fun k hk ht => ⟨hs.block k hk (by rw [ht]; omega), hs.tag k hk⟩)⟩
  · obtain ⟨A, hA⟩ := h.r i m hm
    exact ⟨A, hA.frame (fun k hk ht => ⟨hs.block k hk (by rw [ht]; omega), hs.tag k hk⟩)⟩
theorem LS.below (h : LS w τ a S R) {w' : World} (hb : Below w.heap.size w w') : LS w' τ a S R := h.stp1 (stp_below hb)
/-- a step of one of the program's stores -/
theorem LS.stepS (h : LS w τ a S R) {i : Nat} {m : MS} {A : SA} {w' : World} {τ' : Nat → Tag} (hs : Stp (2 + 2 * i) τ w τ' w') (hm : RepS w' τ' (2 + 2 * i) (a.sB i) m A) : LS w' τ' a (S.set i m) R := by
  refine ⟨fun j mj hj => ?_, fun j mj hj => ?_⟩
  · rcases set_some hj with ⟨rfl, rfl⟩ | ⟨e, hj'⟩
    · exact ⟨A, hm⟩
    · obtain ⟨B, hB⟩ := h.s j mj hj'
      exact ⟨B, hB.frame (fun k hk ht => ⟨hs.block k hk (by rw [ht]; omega), hs.tag k hk⟩)⟩
  · obtain ⟨B, hB⟩ := h.r j mj hj
    exact ⟨B, hB.frame (fun k hk ht => ⟨hs.block k hk (by rw [ht]; omega), hs.tag k hk⟩)⟩
/-- a step of one of the document's stores -/
theorem LS.stepR (h : LS w τ a S R) {i : Nat} {m : MS} {A : RA} {w' : World} {τ' : Nat → Tag} (hs : Stp (3 + 2 * i) τ w τ' w') (hm : RepR w' τ' (3 + 2 * i) (a.rB i) m A) : LS w' τ' a S (R.set i m) := by
  refine ⟨fun j mj hj => ?_, fun j mj hj => ?_⟩
  · obtain ⟨B, hB⟩ := h.s j mj hj
    exact ⟨B, hB.frame (fun k hk ht => ⟨hs.block k hk (by rw [ht]; omega), hs.tag k hk⟩)⟩
  · rcases set_some hj with ⟨rfl, rfl⟩ | ⟨e, hj'⟩
    · exact ⟨A, hm⟩
    · obtain ⟨B, hB⟩ := h.r j mj hj'
      exact ⟨B, hB.frame (fun k hk ht => ⟨hs.block k hk (by rw [ht]; omega), hs.tag k hk⟩)⟩

/-- what is foreign (tag 0) is as it was -/
theorem Stp.keeps {s : Nat} {τ τ' : Nat → Tag} {w w' : World} (h : Stp s τ w τ' w') (hs : s ≠ 0) {k : Nat} (hk : k < w.heap.size) (ht : (τ k).1 = 0) : w'.heap[k]? = w.heap[k]? ∧ (τ' k).1 = 0 :=
  ⟨h.block k hk (by rw [ht]; exact fun e => hs e.symm), by rw [h.tag k hk]; exact ht⟩

end

set_option maxRecDepth 100000 in
set_option maxHeartbeats 800000 in
theorem word_any (wb : Nat) (c : Int) (w : World) (h0 : 0 ≤ c) (h1 : c ≤ 281474976710656) (cc : w.cell? ⟨wb, 7, none⟩ = some (.int .i64 c)) (cf : w.frozen? ⟨wb, 7, none⟩ = false) :
    Calls Try.prog 52 #[ptr wb] w fun e w' => ∃ x : ByteArray, e = .returned (.string x) ∧ x.size ≤ 100 ∧ Below w.heap.size (w.setCell ⟨wb, 7, none⟩ (.int .i64 (c + 1))) w' := by
  unfold ptr
  go_enter Try.func52, Try.ntmps52
  go_wp2_with fail
  generalize hw1 : w.setCell ⟨wb, 7, none⟩ (.int .i64 (c + 1)) = w1 at *
  go_loopw [3, 4, 5] (fun t n k wr => ∃ (x : ByteArray) (m : Int) (j : Nat), j ≤ 7 ∧ t = .string x ∧ n = .int .i64 m ∧ k = .int .i64 j ∧ 0 ≤ m ∧ m ≤ 281474976710657 ∧ x.size ≤ 1 + 8 * j ∧ Below w.heap.size w1 wr ∧ w.heap.size ≤ wr.heap.size) (fun _ _ k _ => 7 - (intOf k).toNat)
  case atStart =>
    refine ⟨_, c + 1, 0, by omega, rfl, rfl, rfl, by omega, by omega, ?_, Below.refl _ _, ?_⟩
    · decide
    · rw [← hw1]; simp [World.setCell]
  case round =>
    obtain ⟨x, m, j, hj, rfl, rfl, rfl, hm0, hm1, hx, hB, hsz⟩ := hrel
    by_cases hlt : j < 7
    · have hr := Int.emod_nonneg m (show (16 : Int) ≠ 0 by omega)
      have hr2 := Int.emod_lt_of_pos m (show (0 : Int) < 16 by omega)
      have hcv : (convert 108 9 (.slice (some ⟨wr.heap.size, 0, none⟩) 1 1)).run Try.prog (wr.alloc (.cells #[.int .u8 (97 + m % 16)] 5)) = .ok (.string ⟨#[UInt8.ofNat (97 + m % 16).toNat]⟩) (wr.alloc (.cells #[.int .u8 (97 + m % 16)] 5)) := by
        have hb : ((UInt8.ofNat (97 + m % 16).toNat).toNat : Int) = 97 + m % 16 := by
          rw [UInt8.toNat_ofNat_of_lt' (by show (97 + m % 16).toNat < 256; omega)]; omega
        refine run_convert_bytes_back (wr.alloc (.cells #[.int .u8 (97 + m % 16)] 5)) 108 9 5 ⟨wr.heap.size, 0, none⟩ 1 [UInt8.ofNat (97 + m % 16).toNat] Try.underlying108 Try.underlying5 Try.underlying9 (fun j hj => ?_)
        have : j = 0 := by simpa using hj
        subst this
        have := (Blk.new wr #[.int .u8 (97 + m % 16)] 5).cell (o := 0) rfl
        show (wr.alloc _).cell? ⟨wr.heap.size, 0 + 0, none⟩ = some (.int .u8 ((UInt8.ofNat (97 + m % 16).toNat).toNat : Int))
        rw [hb]
        exact this
      have hq := Int.ediv_nonneg hm0 (show (0 : Int) ≤ 16 by omega)
      have hq2 := Int.ediv_le_self 16 hm0
      have hxs : x.size ≤ 1000 := by omega
      go_wp2_with fail
      go_roundw
      case rel =>
        refine ⟨_, m / 16, j + 1, by omega, rfl, ?_, by go_num, by omega, by omega, ?_, hB.alloc hsz _, by simp; omega⟩
        · rfl
        · rw [ByteArray.size_append]
          show x.size + 1 ≤ _
          omega
      case measure => simp [intOf]; omega
    · go_wp2_with fail
      go_ret
      rw [hw1]
      exact ⟨x, rfl, by omega, hB⟩

end Go.Proofs.Ytmmhiahggnmhhaa
