/-
  The statement's own world: its stores, the lists that were handed in, their marks.
-/
import Derived.Test.YteoahlieielcdaaGreatPr24
import Derived.Test.YteoahlieielcdaaGreatRef10
namespace Go.Proofs.YteoahlieielcdaaGreat
open Go Go.RowKit

/-- where the parts of the statement's world lie -/
structure LA where
  stv : Value
  itv : Value
  imv : Value
  txv : Value
  tmv : Value
  sB : Nat → Nat
  rB : Nat → Nat
  lb : Nat → Nat
  ln : Nat → Nat
  mrk : Nat → ByteArray
  J : Nat
  tb : Nat → Nat
  tn : Nat → Nat
  tmk : Nat → ByteArray
  K : Nat

def storeCells (a : LA) (n : Nat) : List Value := (List.range n).flatMap (fun i => [ptr (a.sB i), ptr (a.rB i)])
def listVal (a : LA) (j : Nat) : Value := .slice (some ⟨a.lb j, 0, none⟩) (a.ln j) (a.ln j)
def textVal (a : LA) (j : Nat) : Value := .slice (some ⟨a.tb j, 0, none⟩) (a.tn j) (a.tn j)
def textRow (n : Nat) (x : ByteArray) : Array Value := Array.replicate n (.string x)
def markRow (n : Nat) (x : ByteArray) : Array Value := Array.replicate (n * 2) (.string x)

/-- the statement's own blocks: n stores, a count -/
structure LBase (w : World) (τ : Nat → Tag) (wb : Nat) (n : Nat) (c : Int) (a : LA) : Prop where
  blk : Blk w wb #[a.stv, .slice none 0 0, .slice none 0 0, a.txv, a.tmv, a.itv, a.imv, .int .i64 c] 84
  tag : τ wb = (1, 0, 0)
  st : w.ownsRow 0 127 2 a.stv n (storeCells a n)
  stTag : ∀ k, a.stv.ownBlock = some k → τ k = (1, 1, 0)
  it : w.ownsRow 0 68 1 a.itv a.J ((List.range a.J).map (listVal a))
  itTag : ∀ k, a.itv.ownBlock = some k → τ k = (1, 2, 0)
  im : w.ownsRow 0 9 1 a.imv a.J ((List.range a.J).map (fun j => .string (a.mrk j)))
  imTag : ∀ k, a.imv.ownBlock = some k → τ k = (1, 3, 0)
  ls : ∀ j, j < a.J → Blk w (a.lb j) (markRow (a.ln j) (a.mrk j)) 70
  lsTag : ∀ j, j < a.J → τ (a.lb j) = (1, 4, j)
  lsLen : ∀ j, j < a.J → a.ln j ≤ 4398046511104
  tx : w.ownsRow 0 38 1 a.txv a.K ((List.range a.K).map (textVal a))
  txTag : ∀ k, a.txv.ownBlock = some k → τ k = (1, 5, 0)
  tm : w.ownsRow 0 9 1 a.tmv a.K ((List.range a.K).map (fun j => .string (a.tmk j)))
  tmTag : ∀ k, a.tmv.ownBlock = some k → τ k = (1, 6, 0)
  ts : ∀ j, j < a.K → Blk w (a.tb j) (textRow (a.tn j) (a.tmk j)) 9
  tsTag : ∀ j, j < a.K → τ (a.tb j) = (1, 7, j)
  tsLen : ∀ j, j < a.K → a.tn j ≤ 8796093022208
  n8 : n ≤ 8

/-- the stores: the program's and the document's -/
structure LS (w : World) (τ : Nat → Tag) (a : LA) (S R : List MS) : Prop where
  s : ∀ (i : Nat) (m : MS), S[i]? = some m → ∃ A, RepS w τ (2 + 2 * i) (a.sB i) m A
  r : ∀ (i : Nat) (m : MS), R[i]? = some m → ∃ A, RepR w τ (3 + 2 * i) (a.rB i) m A

section
variable {w : World} {τ : Nat → Tag} {wb n : Nat} {c : Int} {a : LA} {S R : List MS}

/-- all but two places (those that a list that comes would take) -/
theorem LBase.frame' (h : LBase w τ wb n c a) {w' : World} {τ' : Nat → Tag} (hf : ∀ k, k < w.heap.size → (τ k).1 = 1 → τ k ≠ (1, 4, a.J) → τ k ≠ (1, 7, a.K) → w'.heap[k]? = w.heap[k]? ∧ τ' k = τ k) : LBase w' τ' wb n c a := by
  have hblk : ∀ {k : Nat} {c : Array Value} {t : TypeId} {g : Nat × Nat}, Blk w k c t → τ k = (1, g) → g ≠ (4, a.J) → g ≠ (7, a.K) → Blk w' k c t ∧ τ' k = (1, g) := by
    intro k c t g hb ht h4 h7
    obtain ⟨e1, e2⟩ := hf k hb.lt (by rw [ht]) (by rw [ht]; simpa using h4) (by rw [ht]; simpa using h7)
    exact ⟨hb.of_eq e1, e2.trans ht⟩
  have hrow : ∀ {e : TypeId} {sz : Nat} {v : Value} {n : Nat} {xs : List Value} {g : Nat × Nat}, w.ownsRow 0 e sz v n xs → (∀ k, v.ownBlock = some k → τ k = (1, g)) → g ≠ (4, a.J) → g ≠ (7, a.K) → w'.ownsRow 0 e sz v n xs ∧ ∀ k, v.ownBlock = some k → τ' k = (1, g) := by
    intro e sz v n xs g ho hv h4 h7
    have hk2 := fun k (hk : v.ownBlock = some k) => hf k (row_ge ho k hk).2 (by rw [hv k hk]) (by rw [hv k hk]; simpa using h4) (by rw [hv k hk]; simpa using h7)
    refine ⟨row_of_block ho (fun k hk => (hk2 k hk).1), fun k hk => ?_⟩
    rw [(hk2 k hk).2, hv k hk]
  have b0 := hblk h.blk h.tag (by simp) (by simp)
  have r1 := hrow h.st h.stTag (by simp) (by simp)
  have r2 := hrow h.it h.itTag (by simp) (by simp)
  have r3 := hrow h.im h.imTag (by simp) (by simp)
  have r4 := hrow h.tx h.txTag (by simp) (by simp)
  have r5 := hrow h.tm h.tmTag (by simp) (by simp)
  have l4 := fun j (hj : j < a.J) => hblk (h.ls j hj) (h.lsTag j hj) (by simp; omega) (by simp)
  have l7 := fun j (hj : j < a.K) => hblk (h.ts j hj) (h.tsTag j hj) (by simp) (by simp; omega)
  exact ⟨b0.1, b0.2, r1.1, r1.2, r2.1, r2.2, r3.1, r3.2, fun j hj => (l4 j hj).1, fun j hj => (l4 j hj).2, h.lsLen, r4.1, r4.2, r5.1, r5.2, fun j hj => (l7 j hj).1, fun j hj => (l7 j hj).2, h.tsLen, h.n8⟩
theorem LBase.frame (h : LBase w τ wb n c a) {w' : World} {τ' : Nat → Tag} (hf : ∀ k, k < w.heap.size → (τ k).1 = 1 → w'.heap[k]? = w.heap[k]? ∧ τ' k = τ k) : LBase w' τ' wb n c a :=
  h.frame' (fun k h1 h2 _ _ => hf k h1 h2)
/-- one more on the count -/
theorem LBase.count (h : LBase w τ wb n c a) {w' : World} (d : Int) (hb : Blk w' wb #[a.stv, .slice none 0 0, .slice none 0 0, a.txv, a.tmv, a.itv, a.imv, .int .i64 d] 84) (ho : ∀ k, k < w.heap.size → k ≠ wb → w'.heap[k]? = w.heap[k]?) : LBase w' τ wb n d a := by
  have hblk : ∀ {k : Nat} {c : Array Value} {t : TypeId} {g : Nat × Nat}, Blk w k c t → τ k = (1, g) → g ≠ (0, 0) → Blk w' k c t := by
    intro k c t g hb ht h4
    exact hb.of_eq (ho k hb.lt (fun e => by rw [e, h.tag] at ht; simp at ht; exact h4 ht.symm))
  have hrow : ∀ {e : TypeId} {sz : Nat} {v : Value} {n : Nat} {xs : List Value} {g : Nat × Nat}, w.ownsRow 0 e sz v n xs → (∀ k, v.ownBlock = some k → τ k = (1, g)) → g ≠ (0, 0) → w'.ownsRow 0 e sz v n xs := by
    intro e sz v n xs g hr hv h4
    exact row_of_block hr (fun k hk => ho k (row_ge hr k hk).2 (fun e => by have := hv k hk; rw [e, h.tag] at this; simp at this; exact h4 this.symm))
  exact ⟨hb, h.tag, hrow h.st h.stTag (by simp), h.stTag, hrow h.it h.itTag (by simp), h.itTag, hrow h.im h.imTag (by simp), h.imTag, fun j hj => hblk (h.ls j hj) (h.lsTag j hj) (by simp), h.lsTag, h.lsLen, hrow h.tx h.txTag (by simp), h.txTag, hrow h.tm h.tmTag (by simp), h.tmTag, fun j hj => hblk (h.ts j hj) (h.tsTag j hj) (by simp), h.tsTag, h.tsLen, h.n8⟩

/-- a step of a store leaves the statement's own blocks -/
theorem LBase.stp (h : LBase w τ wb n c a) {sid : Nat} {w' : World} {τ' : Nat → Tag} (hs : Stp sid τ w τ' w') (h1 : sid ≠ 1) : LBase w' τ' wb n c a :=
  h.frame (fun k hk ht => ⟨hs.block k hk (by rw [ht]; exact fun e => h1 e.symm), hs.tag k hk⟩)
theorem LBase.below (h : LBase w τ wb n c a) {w' : World} (hb : Below w.heap.size w w') : LBase w' τ wb n c a := h.frame (fun k hk _ => ⟨hb.block k hk, rfl⟩)
/-- a step that is no store's (the statement's own): the stores are as they were -/
theorem LS.stp1 (h : LS w τ a S R) {w' : World} {τ' : Nat → Tag} (hs : Stp 1 τ w τ' w') : LS w' τ' a S R := by
  refine ⟨fun i m hm => ?_, fun i m hm => ?_⟩
  · obtain ⟨A, hA⟩ := h.s i m hm
    exact ⟨A, hA.frame (fun k hk ht => ⟨hs.block k hk (by rw [ht]; omega), hs.tag k hk⟩)⟩
  · obtain ⟨A, hA⟩ := h.r i m hm
    exact ⟨A, hA.frame (fun k hk ht => ⟨hs.block k hk (by rw [ht]; omega), hs.tag k hk⟩)⟩
theorem LS.below (h : LS w τ a S R) {w' : World} (hb : Below w.heap.size w w') : LS w' τ a S R := h.stp1 (stp_below hb)
/-- a step of one of the program's stores -/
theorem LS.stepS (h : LS w τ a S R) {i : Nat} {m : MS} {A : SA} {w' : World} {τ' : Nat → Tag} (hs : Stp (2 + 2 * i) τ w τ' w') (hm : RepS w' τ' (2 + 2 * i) (a.sB i) m A) : LS w' τ' a (S.set i m) R := by
  refine ⟨fun j mj hj => ?_, fun j mj hj => ?_⟩
  · rcases set_some hj with ⟨rfl, rfl⟩ | ⟨e, hj'⟩
    · exact ⟨A, hm⟩
    · obtain ⟨B, hB⟩ := h.s j mj hj'
      exact ⟨B, hB.frame (fun k hk ht => ⟨hs.block k hk (by rw [ht]; omega), hs.tag k hk⟩)⟩
  · obtain ⟨B, hB⟩ := h.r j mj hj
    exact ⟨B, hB.frame (fun k hk ht => ⟨hs.block k hk (by rw [ht]; omega), hs.tag k hk⟩)⟩
/-- a step of one of the document's stores -/
theorem LS.stepR (h : LS w τ a S R) {i : Nat} {m : MS} {A : RA} {w' : World} {τ' : Nat → Tag} (hs : Stp (3 + 2 * i) τ w τ' w') (hm : RepR w' τ' (3 + 2 * i) (a.rB i) m A) : LS w' τ' a S (R.set i m) := by
  refine ⟨fun j mj hj => ?_, fun j mj hj => ?_⟩
  · obtain ⟨B, hB⟩ := h.s j mj hj
    exact ⟨B, hB.frame (fun k hk ht => ⟨hs.block k hk (by rw [ht]; omega), hs.tag k hk⟩)⟩
  · rcases set_some hj with ⟨rfl, rfl⟩ | ⟨e, hj'⟩
    · exact ⟨A, hm⟩
    · obtain ⟨B, hB⟩ := h.r j mj hj'
      exact ⟨B, hB.frame (fun k hk ht => ⟨hs.block k hk (by rw [ht]; omega), hs.tag k hk⟩)⟩

/-- what is foreign (tag 0) is as it was -/
theorem Stp.keeps {s : Nat} {τ τ' : Nat → Tag} {w w' : World} (h : Stp s τ w τ' w') (hs : s ≠ 0) {k : Nat} (hk : k < w.heap.size) (ht : (τ k).1 = 0) : w'.heap[k]? = w.heap[k]? ∧ (τ' k).1 = 0 :=
  ⟨h.block k hk (by rw [ht]; exact fun e => hs e.symm), by rw [h.tag k hk]; exact ht⟩

end

set_option maxRecDepth 100000 in
set_option maxHeartbeats 800000 in
theorem word_any (wb : Nat) (c : Int) (w : World) (h0 : 0 ≤ c) (h1 : c ≤ 281474976710656) (cc : w.cell? ⟨wb, 7, none⟩ = some (.int .i64 c)) (cf : w.frozen? ⟨wb, 7, none⟩ = false) :
    Calls Tryz.prog 131 #[ptr wb] w fun e w' => ∃ x : ByteArray, e = .returned (.string x) ∧ x.size ≤ 100 ∧ Below w.heap.size (w.setCell ⟨wb, 7, none⟩ (.int .i64 (c + 1))) w' := by
  unfold ptr
  go_enter Tryz.func131, Tryz.ntmps131
  go_wp2_with fail
  generalize hw1 : w.setCell ⟨wb, 7, none⟩ (.int .i64 (c + 1)) = w1 at *
  go_loopw [3, 4, 5] (fun t n k wr => ∃ (x : ByteArray) (m : Int) (j : Nat), j ≤ 7 ∧ t = .string x ∧ n = .int .i64 m ∧ k = .int .i64 j ∧ 0 ≤ m ∧ m ≤ 281474976710657 ∧ x.size ≤ 1 + 8 * j ∧ Below w.heap.size w1 wr ∧ w.heap.size ≤ wr.heap.size) (fun _ _ k _ => 7 - (intOf k).toNat)
  case atStart =>
    refine ⟨_, c + 1, 0, by omega, rfl, rfl, rfl, by omega, by omega, ?_, Below.refl _ _, ?_⟩
    · decide
    · rw [← hw1]; simp [World.setCell]
  case round =>
    obtain ⟨x, m, j, hj, rfl, rfl, rfl, hm0, hm1, hx, hB, hsz⟩ := hrel
    by_cases hlt : j < 7
    · have hr := Int.emod_nonneg m (show (16 : Int) ≠ 0 by omega)
      have hr2 := Int.emod_lt_of_pos m (show (0 : Int) < 16 by omega)
      have hcv : (convert 116 9 (.slice (some ⟨wr.heap.size, 0, none⟩) 1 1)).run Tryz.prog (wr.alloc (.cells #[.int .u8 (97 + m % 16)] 5)) = .ok (.string ⟨#[UInt8.ofNat (97 + m % 16).toNat]⟩) (wr.alloc (.cells #[.int .u8 (97 + m % 16)] 5)) := by
        have hb : ((UInt8.ofNat (97 + m % 16).toNat).toNat : Int) = 97 + m % 16 := by
          rw [UInt8.toNat_ofNat_of_lt' (by show (97 + m % 16).toNat < 256; omega)]; omega
        refine run_convert_bytes_back (wr.alloc (.cells #[.int .u8 (97 + m % 16)] 5)) 116 9 5 ⟨wr.heap.size, 0, none⟩ 1 [UInt8.ofNat (97 + m % 16).toNat] Tryz.underlying116 Tryz.underlying5 Tryz.underlying9 (fun j hj => ?_)
        have : j = 0 := by simpa using hj
        subst this
        have := (Blk.new wr #[.int .u8 (97 + m % 16)] 5).cell (o := 0) rfl
        show (wr.alloc _).cell? ⟨wr.heap.size, 0 + 0, none⟩ = some (.int .u8 ((UInt8.ofNat (97 + m % 16).toNat).toNat : Int))
        rw [hb]
        exact this
      have hq := Int.ediv_nonneg hm0 (show (0 : Int) ≤ 16 by omega)
      have hq2 := Int.ediv_le_self 16 hm0
      have hxs : x.size ≤ 1000 := by omega
      go_wp2_with fail
      go_roundw
      case rel =>
        refine ⟨_, m / 16, j + 1, by omega, rfl, ?_, by go_num, by omega, by omega, ?_, hB.alloc hsz _, by simp; omega⟩
        · rfl
        · rw [ByteArray.size_append]
          show x.size + 1 ≤ _
          omega
      case measure => simp [intOf]; omega
    · go_wp2_with fail
      go_ret
      rw [hw1]
      exact ⟨x, rfl, by omega, hB⟩

end Go.Proofs.YteoahlieielcdaaGreat

/-
  The statement's own functions: things.
-/
namespace Go.Proofs.YteoahlieielcdaaGreat
open Go Go.RowKit

theorem infoSlc : (Tryz.prog.info? 68).map (fun i => (i.zero, i.size, i.bytes)) = some (some (.slice none 0 0), 1, 24) := by kernel_rfl

/-- a cell that was just laid, wherever its block is named -/
theorem cell_one_at (w : World) (x : Value) (t : TypeId) {k : Nat} (hk : k = w.heap.size) : ∀ j u, [x][j]? = some u → (w.alloc (.cells #[x] t)).cell? ((⟨k, 0, none⟩ : Addr).add j) = some u := by
  subst hk
  exact cell_one_new w x t
/-- the list that comes is the next one -/
def pushLA (a : LA) (itv imv : Value) (lb ln : Nat) (x : ByteArray) : LA :=
  { a with itv := itv, imv := imv, lb := fun j => if j = a.J then lb else a.lb j, ln := fun j => if j = a.J then ln else a.ln j, mrk := fun j => if j = a.J then x else a.mrk j, J := a.J + 1 }
def pushTags (τ : Nat → Tag) (itv imv : Value) : Nat → Tag := fun k => if itv.ownBlock = some k then (1, 2, 0) else if imv.ownBlock = some k then (1, 3, 0) else τ k

section
variable {w : World} {τ : Nat → Tag} {wb n : Nat} {c : Int} {a : LA}

theorem markRow_of {arr : Array Value} {n : Nat} {x : ByteArray} (hs : arr.size = n * 2) (h : ∀ j, j < n * 2 → arr[j]? = some (.string x)) : arr = markRow n x := by
  apply Array.ext_getElem?
  intro j
  by_cases hj : j < n * 2
  · rw [h j hj]
    simp [markRow, hj]
  · rw [Array.getElem?_eq_none (by omega), Array.getElem?_eq_none (by simp [markRow]; omega)]

theorem items_after (h : LBase w τ wb n c a) {o1 : Obj} {v2 : Value} {w2 : World} (hG2 : (w.alloc o1).grownBy w2 a.itv.ownBlock) (hA2 : v2.ownBlock = a.itv.ownBlock ∨ v2.ownBlock = some (w.alloc o1).heap.size) :
    Blk w2 wb #[a.stv, .slice none 0 0, .slice none 0 0, a.txv, a.tmv, a.itv, a.imv, .int .i64 c] 84 ∧ (∀ v, (w2.setCell ⟨wb, 5, none⟩ v).ownsRow 0 9 1 a.imv a.J ((List.range a.J).map (fun j => .string (a.mrk j)))) ∧ (∀ k, v2.ownBlock = some k → k ≠ wb) ∧ ∀ k, k < w.heap.size → a.itv.ownBlock ≠ some k → w2.heap[k]? = w.heap[k]? := by
  have hk2 : ∀ k, k < w.heap.size → a.itv.ownBlock ≠ some k → w2.heap[k]? = w.heap[k]? := by
    intro k hk hn
    rw [hG2.block k (by simp; omega) (fun e => hn e.symm), Below.heap_alloc _ _ _ hk]
  have hwl := h.blk.lt
  have hwi : a.itv.ownBlock ≠ some wb := fun e => by have := h.itTag wb e; rw [h.tag] at this; simp at this
  refine ⟨h.blk.of_eq (hk2 wb hwl hwi), fun v => ?_, fun k hk e => ?_, hk2⟩
  · refine row_of_block h.im (fun k hk => ?_)
    have h1 := h.imTag k hk
    rw [Below.heap_setCell _ _ _ _ (fun e => by subst e; rw [h.tag] at h1; simp at h1)]
    exact hk2 k (row_ge h.im k hk).2 (fun e => by rw [h.itTag k e] at h1; simp at h1)
  · subst e
    rcases hA2 with e | e
    · exact hwi (e.symm.trans hk)
    · rw [hk] at e
      simp at e
      omega

theorem push_items (h : LBase w τ wb n c a) {lb ln : Nat} {x : ByteArray} (hl : Blk w lb (markRow ln x) 70) (ht : τ lb = (1, 4, a.J)) (hln : ln ≤ 4398046511104)
    {o1 : Obj} {v2 : Value} {w2 : World} (hG2 : (w.alloc o1).grownBy w2 a.itv.ownBlock) (hA2 : v2.ownBlock = a.itv.ownBlock ∨ v2.ownBlock = some (w.alloc o1).heap.size)
    (hO2 : w2.ownsRow 0 68 1 v2 (a.J + 1) ((List.range a.J).map (listVal a) ++ [.slice (some ⟨lb, 0, none⟩) ln ln]))
    {o2 : Obj} {v4 : Value} {w4 : World} (hG4 : ((w2.setCell ⟨wb, 5, none⟩ v2).alloc o2).grownBy w4 a.imv.ownBlock) (hA4 : v4.ownBlock = a.imv.ownBlock ∨ v4.ownBlock = some ((w2.setCell ⟨wb, 5, none⟩ v2).alloc o2).heap.size)
    (hO4 : w4.ownsRow 0 9 1 v4 (a.J + 1) ((List.range a.J).map (fun j => .string (a.mrk j)) ++ [.string x])) :
    LBase (w4.setCell ⟨wb, 6, none⟩ v4) (pushTags τ v2 v4) wb n c (pushLA a v2 v4 lb ln x) ∧ Stp 1 τ w (pushTags τ v2 v4) (w4.setCell ⟨wb, 6, none⟩ v4) := by
  obtain ⟨b2, i2, n2, k2⟩ := items_after h hG2 hA2
  have hwl := h.blk.lt
  have hs2 : w.heap.size + 1 ≤ w2.heap.size := by simpa using hG2.size
  have hs4 : w2.heap.size + 1 ≤ w4.heap.size := by simpa [World.setCell] using hG4.size
  have hwi : a.itv.ownBlock ≠ some wb := fun e => by have := h.itTag wb e; rw [h.tag] at this; simp at this
  have hwm : a.imv.ownBlock ≠ some wb := fun e => by have := h.imTag wb e; rw [h.tag] at this; simp at this
  have n4 : ∀ k, v4.ownBlock = some k → k ≠ wb := by
    intro k hk e
    subst e
    rcases hA4 with e | e
    · exact hwm (e.symm.trans hk)
    · rw [hk] at e
      simp [World.setCell] at e
      omega
  have k4 : ∀ k, k < w2.heap.size → a.imv.ownBlock ≠ some k → k ≠ wb → (w4.setCell ⟨wb, 6, none⟩ v4).heap[k]? = w2.heap[k]? := by
    intro k hk hm hn
    rw [Below.heap_setCell _ _ _ _ hn, hG4.block k (by simp [World.setCell]; omega) (fun e => hm e.symm), Below.heap_alloc _ _ _ (by simpa [World.setCell] using hk), Below.heap_setCell _ _ _ _ hn]
  have kk : ∀ k, k < w.heap.size → a.itv.ownBlock ≠ some k → a.imv.ownBlock ≠ some k → k ≠ wb → (w4.setCell ⟨wb, 6, none⟩ v4).heap[k]? = w.heap[k]? := fun k h1 h2 h3 h4 => (k4 k (by omega) h3 h4).trans (k2 k h1 h2)
  have tk : ∀ k, k < w.heap.size → pushTags τ v2 v4 k = τ k := by
    intro k hk
    unfold pushTags
    split
    · rename_i e
      rcases hA2 with e2 | e2
      · rw [h.itTag k (e2.symm.trans e)]
      · rw [e] at e2; simp at e2; omega
    · split
      · rename_i e
        rcases hA4 with e2 | e2
        · rw [h.imTag k (e2.symm.trans e)]
        · rw [e] at e2; simp [World.setCell] at e2; omega
      · rfl
  have bw4 : Blk w4 wb #[a.stv, .slice none 0 0, .slice none 0 0, a.txv, a.tmv, v2, a.imv, .int .i64 c] 84 := by
    have e1 := (b2.set 5 v2).of_eq (Below.heap_alloc (w2.setCell ⟨wb, 5, none⟩ v2) o2 wb (by simp [World.setCell]; omega))
    exact e1.of_eq (hG4.block wb (by simp [World.setCell]; omega) (fun e => hwm e.symm))
  have hblk : ∀ {k : Nat} {c : Array Value} {t : TypeId} {g : Nat × Nat}, Blk w k c t → τ k = (1, g) → g ≠ (0, 0) → g ≠ (2, 0) → g ≠ (3, 0) → Blk (w4.setCell ⟨wb, 6, none⟩ v4) k c t ∧ pushTags τ v2 v4 k = (1, g) := by
    intro k c t g hb hg h0 h2 h3
    refine ⟨hb.of_eq (kk k hb.lt (fun e => ?_) (fun e => ?_) (fun e => ?_)), (tk k hb.lt).trans hg⟩
    · rw [h.itTag k e] at hg; simp at hg; exact h2 hg.symm
    · rw [h.imTag k e] at hg; simp at hg; exact h3 hg.symm
    · rw [e, h.tag] at hg; simp at hg; exact h0 hg.symm
  have hrow : ∀ {e : TypeId} {sz : Nat} {v : Value} {n : Nat} {xs : List Value} {g : Nat × Nat}, w.ownsRow 0 e sz v n xs → (∀ k, v.ownBlock = some k → τ k = (1, g)) → g ≠ (0, 0) → g ≠ (2, 0) → g ≠ (3, 0) → (w4.setCell ⟨wb, 6, none⟩ v4).ownsRow 0 e sz v n xs ∧ ∀ k, v.ownBlock = some k → pushTags τ v2 v4 k = (1, g) := by
    intro e sz v n xs g hr hv h0 h2 h3
    refine ⟨row_of_block hr (fun k hk => ?_), fun k hk => (tk k (row_ge hr k hk).2).trans (hv k hk)⟩
    have hg := hv k hk
    refine kk k (row_ge hr k hk).2 (fun e => ?_) (fun e => ?_) (fun e => ?_)
    · rw [h.itTag k e] at hg; simp at hg; exact h2 hg.symm
    · rw [h.imTag k e] at hg; simp at hg; exact h3 hg.symm
    · rw [e, h.tag] at hg; simp at hg; exact h0 hg.symm
  have d24 : ∀ k, v2.ownBlock = some k → a.imv.ownBlock ≠ some k := by
    intro k hk e
    rcases hA2 with e2 | e2
    · have := h.itTag k (e2.symm.trans hk)
      rw [h.imTag k e] at this; simp at this
    · have := (row_ge h.im k e).2
      rw [hk] at e2; simp at e2; omega
  have d42 : ∀ k, v4.ownBlock = some k → v2.ownBlock ≠ some k := by
    intro k hk e
    rcases hA4 with e2 | e2
    · exact d24 k e (e2.symm.trans hk)
    · have := (row_ge hO2 k e).2
      rw [hk] at e2; simp [World.setCell] at e2; omega
  have r0 := hrow h.st h.stTag (by simp) (by simp) (by simp)
  have r4 := hrow h.tx h.txTag (by simp) (by simp) (by simp)
  have r5 := hrow h.tm h.tmTag (by simp) (by simp) (by simp)
  have l7 := fun j (hj : j < a.K) => hblk (h.ts j hj) (h.tsTag j hj) (by simp) (by simp) (by simp)
  have l4 := fun j (hj : j < a.J) => hblk (h.ls j hj) (h.lsTag j hj) (by simp) (by simp) (by simp)
  have ll := hblk hl ht (by simp) (by simp) (by simp)
  refine ⟨⟨bw4.set 6 v4, (tk wb hwl).trans h.tag, r0.1, r0.2, ?_, fun k (hk : v2.ownBlock = some k) => ?_, ?_, fun k (hk : v4.ownBlock = some k) => ?_, fun j hj => ?_, fun j hj => ?_, fun j hj => ?_, r4.1, r4.2, r5.1, r5.2, fun j hj => (l7 j hj).1, fun j hj => (l7 j hj).2, h.tsLen, h.n8⟩, ?_⟩
  · have e : (List.range (a.J + 1)).map (listVal (pushLA a v2 v4 lb ln x)) = (List.range a.J).map (listVal a) ++ [.slice (some ⟨lb, 0, none⟩) ln ln] := by
      rw [List.range_succ, List.map_append]
      congr 1
      · refine List.map_congr_left (fun j hj => ?_)
        have : j ≠ a.J := by have := List.mem_range.1 hj; omega
        simp [listVal, pushLA, this]
      · simp [listVal, pushLA]
    show (w4.setCell ⟨wb, 6, none⟩ v4).ownsRow 0 _ 1 v2 (a.J + 1) ((List.range (a.J + 1)).map (listVal (pushLA a v2 v4 lb ln x)))
    rw [e]
    exact row_of_block hO2 (fun k hk => k4 k (row_ge hO2 k hk).2 (d24 k hk) (n2 k hk))
  · show pushTags τ v2 v4 k = _
    unfold pushTags
    rw [if_pos hk]
  · have e : (List.range (a.J + 1)).map (fun j => Value.string ((pushLA a v2 v4 lb ln x).mrk j)) = (List.range a.J).map (fun j => Value.string (a.mrk j)) ++ [.string x] := by
      rw [List.range_succ, List.map_append]
      congr 1
      · refine List.map_congr_left (fun j hj => ?_)
        have : j ≠ a.J := by have := List.mem_range.1 hj; omega
        simp [pushLA, this]
      · simp [pushLA]
    show (w4.setCell ⟨wb, 6, none⟩ v4).ownsRow 0 _ 1 v4 (a.J + 1) ((List.range (a.J + 1)).map (fun j => Value.string ((pushLA a v2 v4 lb ln x).mrk j)))
    rw [e]
    exact row_of_block hO4 (fun k hk => Below.heap_setCell _ _ _ _ (n4 k hk))
  · show pushTags τ v2 v4 k = _
    unfold pushTags
    rw [if_neg (d42 k hk), if_pos hk]
  · by_cases e : j = a.J
    · subst e; simpa [pushLA] using ll.1
    · have := (l4 j (by simp [pushLA] at hj; omega)).1
      simpa [pushLA, e] using this
  · by_cases e : j = a.J
    · subst e; simpa [pushLA] using ll.2
    · have := (l4 j (by simp [pushLA] at hj; omega)).2
      simpa [pushLA, e] using this
  · by_cases e : j = a.J
    · subst e; simpa [pushLA] using hln
    · have := h.lsLen j (by simp [pushLA] at hj; omega)
      simpa [pushLA, e] using this
  · refine ⟨hG4.os.trans hG2.os, hG4.tape.trans hG2.tape, hG4.output.trans hG2.output, by simp only [World.setCell, Array.size_modify]; omega, tk, fun k hk hs => ?_⟩
    refine kk k hk (fun e => hs ?_) (fun e => hs ?_) (fun e => hs ?_)
    · rw [h.itTag k e]
    · rw [h.imTag k e]
    · rw [e, h.tag]

set_option maxRecDepth 100000 in
set_option maxHeartbeats 2000000 in
theorem things_any (h : LBase w τ wb n c a) (lb ln : Nat) (arr : Array Value) (hl : Blk w lb arr 70) (hs : arr.size = ln * 2) (ht : τ lb = (1, 4, a.J)) (hln : ln ≤ 4398046511104) (hJ : a.J < 4398046511104) (h0 : 0 ≤ c) (h1 : c ≤ 281474976710656) :
    Calls Tryz.prog 97 #[ptr wb, .slice (some ⟨lb, 0, none⟩) ln ln] w fun e w' => e = .returned (.tuple #[]) ∧ ∃ τ' a', LBase w' τ' wb n (c + 1) a' ∧ a'.J = a.J + 1 ∧ a'.K = a.K ∧ a'.sB = a.sB ∧ a'.rB = a.rB ∧ Stp 1 τ w τ' w' := by
  have c7 : w.cell? ⟨wb, 7, none⟩ = some (.int .i64 c) := h.blk.cell (o := 7) rfl
  have cw := word_any wb c w h0 h1 c7 (h.blk.frozen 7)
  have hwl := h.blk.lt
  have hll := hl.lt
  have hne : lb ≠ wb := fun e => by rw [e, h.tag] at ht; simp at ht
  have hb1 := h.blk.set 7 (.int .i64 (c + 1))
  have hoth : ∀ k, k ≠ wb → (w.setCell ⟨wb, 7, none⟩ (.int .i64 (c + 1))).heap[k]? = w.heap[k]? := fun k hk => Below.heap_setCell _ _ _ _ hk
  have hszw : (w.setCell ⟨wb, 7, none⟩ (.int .i64 (c + 1))).heap.size = w.heap.size := by simp [World.setCell]
  have hosw : (w.setCell ⟨wb, 7, none⟩ (.int .i64 (c + 1))).os = w.os ∧ (w.setCell ⟨wb, 7, none⟩ (.int .i64 (c + 1))).tape = w.tape ∧ (w.setCell ⟨wb, 7, none⟩ (.int .i64 (c + 1))).output = w.output := ⟨rfl, rfl, rfl⟩
  generalize w.setCell ⟨wb, 7, none⟩ (.int .i64 (c + 1)) = wX at *
  obtain ⟨ii, hii, hi0, hi1, hi2⟩ := info_parts infoSlc
  obtain ⟨si, hsi, hs0, hs1, hs2⟩ := info_parts infoStr
  unfold ptr at cw ⊢
  go_enter Tryz.func97, Tryz.ntmps97
  go_wp2_with fail
  refine cw.mono ?_
  rintro e w1 ⟨x, rfl, hx, hB⟩
  clear cw
  have hB1 := hB.size
  have hl1 : Blk w1 lb arr 70 := (hl.of_eq (hoth _ hne)).of_eq (hB.block _ hll)
  go_wp2_with fail
  go_loopw [5] (fun u wr => ∃ (k : Nat) (arr' : Array Value), k ≤ ln ∧ u = .int .i64 k ∧ Blk wr lb arr' 70 ∧ arr'.size = ln * 2 ∧ Hid (∀ j, j < k * 2 → arr'[j]? = some (.string x)) ∧ Fr (fun b => b = lb) w1 wr) (fun u _ => ln - (intOf u).toNat)
  case atStart => exact ⟨0, arr, Nat.zero_le _, rfl, hl1, hs, fun j hj => by omega, Fr.refl _ _⟩
  case round =>
    obtain ⟨k, arr', hk, rfl, hb, hz, HA, hF⟩ := hrel
    by_cases hlt : k < ln
    · obtain ⟨v0, hv0⟩ : ∃ v, arr'[k * 2]? = some v := ⟨_, Array.getElem?_eq_getElem (by omega)⟩
      obtain ⟨v1, hv1⟩ : ∃ v, arr'[k * 2 + 1]? = some v := ⟨_, Array.getElem?_eq_getElem (by omega)⟩
      have d0 := hb.cell hv0
      have d1 := hb.cell hv1
      have f0 := hb.frozen (k * 2)
      have f1 := hb.frozen (k * 2 + 1)
      clear hv0 hv1
      go_wp2_with fail
      go_roundw
      case rel =>
        refine ⟨k + 1, _, by omega, by go_num, (hb.set (k * 2) (.string x)).set (k * 2 + 1) (.string x), by simp [hz], fun j hj => ?_, (hF.setCell (p := ⟨lb, k * 2, none⟩) rfl _).setCell (p := ⟨lb, k * 2 + 1, none⟩) rfl _⟩
        by_cases e1 : j = k * 2 + 1
        · subst e1
          rw [Array.getElem?_setIfInBounds_self_of_lt (by simp; omega)]
        · rw [Array.getElem?_setIfInBounds_ne (fun e => e1 e.symm)]
          by_cases e2 : j = k * 2
          · subst e2
            rw [Array.getElem?_setIfInBounds_self_of_lt (by omega)]
          · rw [Array.getElem?_setIfInBounds_ne (fun e => e2 e.symm)]
            exact HA.out j (by omega)
      case measure => simp [intOf]; omega
    · have hmk : arr' = markRow ln x := markRow_of hz (fun j hj => HA.out j (by omega))
      subst hmk
      have hL1 : LBase w1 τ wb n (c + 1) a := (h.count (c + 1) hb1 (fun k _ hk => hoth k hk)).below (hszw ▸ hB)
      have hLr : LBase wr τ wb n (c + 1) a := hL1.frame' (fun k hk _ h4 _ => ⟨hF.block k hk (fun e => h4 (by rw [e, ht])), rfl⟩)
      have hS : Stp 1 τ w τ wr := ⟨hF.os.trans (hB.os.trans hosw.1), hF.tape.trans (hB.tape.trans hosw.2.1), hF.output.trans (hB.output.trans hosw.2.2), by have := hF.size; omega, fun _ _ => rfl, fun k hk h1 => (hF.block k (by omega) (fun e => h1 (by rw [e, ht]))).trans ((hB.block k hk).trans (hoth k (fun e => h1 (by rw [e, h.tag]))))⟩
      clear hL1 hoth
      obtain ⟨av, cpv, hiv⟩ := row_len hLr.it
      obtain ⟨mv, mpv, hmv⟩ := row_len hLr.im
      have hitr := hLr.it
      rw [hiv] at hitr
      have c5 := hLr.blk.cell (o := 5) (v := a.itv) rfl
      rw [hiv] at c5
      have f5 := hLr.blk.frozen 5
      go_wp2_with (at_builtin; first
        | (refine wpList_append_own_at _ rfl (.tmp 24) (.tmp 26) 82 rfl 0 68 ii _ 1 24 Tryz.underlying82 hii hi0 hi1 hi2 rfl (by decide) (.slice av a.J cpv) a.J _ rfl (hitr.alloc _) ⟨_, 0, none⟩ 1 1 [.slice (some ⟨lb, 0, none⟩) ln ln] rfl rfl (cell_one_new _ _ _) (by simp [Value.oneCell']) (by unfold maxLen; omega) (by omega) (Nat.zero_le _) ?_; intro v2 w2 hO2 hG2 hN2 hA2; rw [← hiv] at hG2 hA2; obtain ⟨hb2, hi2', hn2, hk2⟩ := items_after hLr hG2 hA2; rw [hmv] at hi2'; have d5 := hb2.cell (o := 5) (v := a.itv) rfl; rw [hiv] at d5; have d6 := hb2.cell (o := 6) (v := a.imv) rfl; rw [hmv] at d6; have g5 := hb2.frozen 5; have g6 := hb2.frozen 6; obtain ⟨q2, cap2, hv2, -⟩ := row_form hO2 (by omega); rw [hv2])
        | (refine wpList_append_own_at _ rfl (.tmp 34) (.tmp 36) 38 rfl 0 9 si _ 1 16 Tryz.underlying38 hsi hs0 hs1 hs2 rfl (by decide) (.slice mv a.J mpv) a.J _ rfl ((hi2' _).alloc _) ⟨_, 0, none⟩ 1 1 [.string x] rfl rfl (cell_one_at _ _ _ (by simp [World.setCell])) (by simp [Value.oneCell']) (by unfold maxLen; omega) (by omega) (Nat.zero_le _) ?_; intro v4 w4 hO4 hG4 hN4 hA4; rw [← hmv] at hG4 hA4; rw [← hv2] at hG4 hA4; have e6 := (hG4.block wb (by simp [World.setCell]; have := hb2.lt; omega) (fun e => by have := hLr.imTag wb e.symm; rw [hLr.tag] at this; simp at this)).trans ((hb2.set 5 v2).of_eq (Below.heap_alloc _ _ _ (by simp [World.setCell]; exact hb2.lt))); have j6 := Blk.cell (o := 6) e6 (v := a.imv) rfl; rw [hmv] at j6; have k6 := Blk.frozen e6 6; obtain ⟨q4, cap4, hv4, -⟩ := row_form hO4 (by omega); rw [hv4]))
      go_end0
      obtain ⟨r1, r2⟩ := push_items hLr hb ht hln hG2 hA2 hO2 hG4 hA4 hO4
      rw [← hv4]
      exact ⟨rfl, _, _, r1, rfl, rfl, rfl, rfl, hS.trans r2⟩

end
end Go.Proofs.YteoahlieielcdaaGreat
