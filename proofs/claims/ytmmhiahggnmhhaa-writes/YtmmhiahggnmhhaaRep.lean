/-
  How a store of the program lies in memory, by the document's own store: blocks with tags; maps as functions.
-/
import Derived.Test.YtmmhiahggnmhhaaPr1
namespace Go.Proofs.Ytmmhiahggnmhhaa
open Go Go.RowKit
open Go.Maps (Keyed)

/-- what a write writes on a part -/
def itemsOn (n : Int) (l : List KV) (q : Int) : List KV := l.filter (fun x => decide (partOf n x.1 = q))
/-- how far a write has come on a part -/
def stageOf (m : MW) (q : Nat) : Int := if m.comm q then 2 else if m.prep q then 1 else 0
def nilSlice : Value := .slice none 0 0
def mu0 : Value := .int .i32 0
def sem0 : Value := .int .u32 0

/-- where the parts of a store lie -/
structure SA where
  parr : Value
  pb : Nat → Nat
  kb : Nat → Nat
  vb : Nat → Nat
  wm : Nat
  pw : Nat → Nat
  sm : Nat → Nat
  sh : Nat → Nat → Nat
  iv : Nat → Nat → Value
  vis : Nat → List UInt8 → Nat

def writesF (s : MS) (A : SA) : Lit → Option Value
  | .int .i64 n => match mFind s n with
    | some _ => some (ptr (A.pw (n - 1).toNat))
    | none => none
  | _ => none
def keptF (s : MS) (A : SA) (q : Nat) : Lit → Option Value
  | .int .i64 n => match mFind s n with
    | some m => if m.prep q then some (A.iv (n - 1).toNat q) else none
    | none => none
  | _ => none
def sharesF (s : MS) (A : SA) (i : Nat) (m : MW) : Lit → Option Value
  | .int .i64 q => if onPart s.parts m.items q = true then some (ptr (A.sh i q.toNat)) else none
  | _ => none
def visF (A : SA) (q : Nat) : Lit → Option Value
  | .string l => if A.vis q l = 0 then none else some (.int .i64 (A.vis q l))
  | _ => none

/-- a write's key, as bytes, is among its items -/
def writesKey (m : MW) (l : List UInt8) : Prop := ∃ x ∈ m.items, x.1.data.toList = l
/-- the visible write of a key on a part, of a store -/
structure VisOk (s : MS) (q : Nat) (v : List UInt8 → Nat) : Prop where
  seen : ∀ l, v l ≠ 0 → ∃ m, s.ws[v l - 1]? = some m ∧ m.comm q = true ∧ ∃ x ∈ m.items, x.1.data.toList = l ∧ partOf s.parts x.1 = q
  top : ∀ (i : Nat) (m : MW) (x : KV), s.ws[i]? = some m → m.comm q = true → x ∈ m.items → partOf s.parts x.1 = q → i + 1 ≤ v x.1.data.toList

structure MInv (s : MS) : Prop where
  cp : ∀ (i : Nat) (m : MW) (q : Nat), s.ws[i]? = some m → m.comm q = true → m.prep q = true
  po : ∀ (i : Nat) (m : MW) (q : Nat), s.ws[i]? = some m → m.prep q = true → onPart s.parts m.items q = true
  cc : ∀ (i : Nat) (m : MW) (q : Nat), s.ws[i]? = some m → m.canc = true → m.comm q = false

structure RepS (w : World) (τ : Nat → Tag) (sid b : Nat) (s : MS) (A : SA) : Prop where
  ok : MOk s
  inv : MInv s
  blk : Blk w b #[.int .i64 s.mode, A.parr, mu0, sem0, .int .i64 s.ws.length, .map (some A.wm)] 105
  tag : τ b = (sid, 0, 0)
  parr : w.ownsRow 0 106 1 A.parr s.parts ((List.range s.parts).map (fun q => ptr (A.pb q)))
  parrTag : ∀ k, A.parr.ownBlock = some k → τ k = (sid, 1, 0)
  part : ∀ q, q < s.parts → Blk w (A.pb q) #[mu0, sem0, .map (some (A.kb q)), .map (some (A.vb q))] 129
  partTag : ∀ q, q < s.parts → τ (A.pb q) = (sid, 2, q)
  kept : ∀ q, q < s.parts → MapF w Try.prog 3 (A.kb q) (keptF s A q)
  keptTag : ∀ q, q < s.parts → τ (A.kb q) = (sid, 3, q)
  vism : ∀ q, q < s.parts → MapF w Try.prog 9 (A.vb q) (visF A q)
  visTag : ∀ q, q < s.parts → τ (A.vb q) = (sid, 4, q)
  visOk : ∀ q, q < s.parts → VisOk s q (A.vis q)
  wmap : MapF w Try.prog 3 A.wm (writesF s A)
  wmTag : τ A.wm = (sid, 5, 0)
  wr : ∀ (i : Nat) (m : MW), s.ws[i]? = some m → m.canc = false → Blk w (A.pw i) #[mu0, sem0, .int .i64 ((i : Int) + 1), .bool false, .map (some (A.sm i))] 114
  wrTag : ∀ (i : Nat) (m : MW), s.ws[i]? = some m → m.canc = false → τ (A.pw i) = (sid, 6, i)
  shm : ∀ (i : Nat) (m : MW), s.ws[i]? = some m → m.canc = false → MapF w Try.prog 3 (A.sm i) (sharesF s A i m)
  shmTag : ∀ (i : Nat) (m : MW), s.ws[i]? = some m → m.canc = false → τ (A.sm i) = (sid, 7, i)
  sh : ∀ (i : Nat) (m : MW) (q : Nat), s.ws[i]? = some m → m.canc = false → onPart s.parts m.items q = true → Blk w (A.sh i q) #[ptr (A.pb q), .int .i64 (stageOf m q), if m.prep q then nilSlice else A.iv i q] 120
  shTag : ∀ (i : Nat) (m : MW) (q : Nat), s.ws[i]? = some m → m.canc = false → onPart s.parts m.items q = true → τ (A.sh i q) = (sid, 8, i * 4 + q)
  it : ∀ (i : Nat) (m : MW) (q : Nat), s.ws[i]? = some m → m.canc = false → onPart s.parts m.items q = true → w.ownsRow 0 35 2 (A.iv i q) (itemsOn s.parts m.items q).length (kvCells (itemsOn s.parts m.items q))
  itTag : ∀ (i : Nat) (m : MW) (q : Nat) (k : Nat), s.ws[i]? = some m → m.canc = false → onPart s.parts m.items q = true → (A.iv i q).ownBlock = some k → τ k = (sid, 9, i * 4 + q)

section
variable {w : World} {τ : Nat → Tag} {sid b : Nat} {s : MS} {A : SA}

/-- WHAT A STORE OWNS IS AS IT WAS: so is the store. -/
theorem RepS.frame (h : RepS w τ sid b s A) {w' : World} {τ' : Nat → Tag} (hf : ∀ k, k < w.heap.size → (τ k).1 = sid → w'.heap[k]? = w.heap[k]? ∧ τ' k = τ k) : RepS w' τ' sid b s A := by
  have hblk : ∀ {k : Nat} {c : Array Value} {t : TypeId} {g : Nat × Nat}, Blk w k c t → τ k = (sid, g) → Blk w' k c t ∧ τ' k = (sid, g) := by
    intro k c t g hb ht
    obtain ⟨e1, e2⟩ := hf k hb.lt (by rw [ht])
    exact ⟨hb.of_eq e1, e2.trans ht⟩
  have hmap : ∀ {k : Nat} {t : TypeId} {f : Lit → Option Value} {g : Nat × Nat}, MapF w Try.prog t k f → τ k = (sid, g) → MapF w' Try.prog t k f ∧ τ' k = (sid, g) := by
    intro k t f g hb ht
    obtain ⟨e1, e2⟩ := hf k hb.lt (by rw [ht])
    exact ⟨hb.of_eq e1, e2.trans ht⟩
  have hrow : ∀ {e : TypeId} {sz : Nat} {v : Value} {n : Nat} {xs : List Value} {g : Nat × Nat}, w.ownsRow 0 e sz v n xs → (∀ k, v.ownBlock = some k → τ k = (sid, g)) → w'.ownsRow 0 e sz v n xs ∧ ∀ k, v.ownBlock = some k → τ' k = (sid, g) := by
    intro e sz v n xs g ho hv
    refine ⟨row_of_block ho (fun k hk => (hf k (row_ge ho k hk).2 (by rw [hv k hk])).1), fun k hk => ?_⟩
    rw [(hf k (row_ge ho k hk).2 (by rw [hv k hk])).2, hv k hk]
  exact ⟨h.ok, h.inv, (hblk h.blk h.tag).1, (hblk h.blk h.tag).2, (hrow h.parr h.parrTag).1, (hrow h.parr h.parrTag).2,
    fun q hq => (hblk (h.part q hq) (h.partTag q hq)).1, fun q hq => (hblk (h.part q hq) (h.partTag q hq)).2,
    fun q hq => (hmap (h.kept q hq) (h.keptTag q hq)).1, fun q hq => (hmap (h.kept q hq) (h.keptTag q hq)).2,
    fun q hq => (hmap (h.vism q hq) (h.visTag q hq)).1, fun q hq => (hmap (h.vism q hq) (h.visTag q hq)).2, h.visOk,
    (hmap h.wmap h.wmTag).1, (hmap h.wmap h.wmTag).2,
    fun i m a c => (hblk (h.wr i m a c) (h.wrTag i m a c)).1, fun i m a c => (hblk (h.wr i m a c) (h.wrTag i m a c)).2,
    fun i m a c => (hmap (h.shm i m a c) (h.shmTag i m a c)).1, fun i m a c => (hmap (h.shm i m a c) (h.shmTag i m a c)).2,
    fun i m q a c o => (hblk (h.sh i m q a c o) (h.shTag i m q a c o)).1, fun i m q a c o => (hblk (h.sh i m q a c o) (h.shTag i m q a c o)).2,
    fun i m q a c o => (hrow (h.it i m q a c o) (fun k => h.itTag i m q k a c o)).1, fun i m q k a c o => (hrow (h.it i m q a c o) (fun k => h.itTag i m q k a c o)).2 k⟩

/-- the same memory -/
structure Same (w w' : World) : Prop where
  heap : w'.heap = w.heap
  os : w'.os = w.os
  tape : w'.tape = w.tape
  output : w'.output = w.output
theorem Same.refl (w : World) : Same w w := ⟨rfl, rfl, rfl, rfl⟩
theorem Same.trans {a b c : World} (h : Same a b) (k : Same b c) : Same a c := ⟨k.heap.trans h.heap, k.os.trans h.os, k.tape.trans h.tape, k.output.trans h.output⟩
theorem Same.stp {w w' : World} (h : Same w w') (s : Nat) (τ : Nat → Tag) : Stp s τ w τ w' := ⟨h.os, h.tape, h.output, by rw [h.heap]; exact Nat.le_refl _, fun _ _ => rfl, fun k _ _ => by rw [h.heap]⟩
theorem RepS.same (h : RepS w τ sid b s A) {w' : World} (hs : Same w w') : RepS w' τ sid b s A := h.frame (fun k _ _ => ⟨by rw [hs.heap], rfl⟩)
theorem RepS.below (h : RepS w τ sid b s A) {w' : World} (hb : Below w.heap.size w w') : RepS w' τ sid b s A := h.frame (fun k hk _ => ⟨hb.block k hk, rfl⟩)

/-- a lock taken and given back -/
theorem lock_round {w : World} {b o : Nat} {c : Array Value} {t : TypeId} (h : Blk w b c t) (hc : c[o]? = some mu0) (v : Value) : Same w ((w.setCell ⟨b, o, none⟩ v).setCell ⟨b, o, none⟩ mu0) := by
  refine ⟨?_, rfl, rfl, rfl⟩
  apply Array.ext_getElem?
  intro i
  by_cases e : i = b
  · subst e
    have h1 : ((w.setCell ⟨i, o, none⟩ v).setCell ⟨i, o, none⟩ mu0).heap[i]? = some (.cells ((c.setIfInBounds o v).setIfInBounds o mu0) t (0, 0)) := (h.set o v).set o mu0
    have h2 : w.heap[i]? = some (.cells c t (0, 0)) := h
    rw [h1, h2]
    obtain ⟨ho, hv⟩ := Array.getElem?_eq_some_iff.1 hc
    congr 2
    apply Array.ext_getElem?
    intro j
    by_cases e : o = j
    · subst e; simp [ho, hv]
    · simp [e]
  · rw [Below.heap_setCell _ _ _ _ e, Below.heap_setCell _ _ _ _ e]

end
end Go.Proofs.Ytmmhiahggnmhhaa
