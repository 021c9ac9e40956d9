/-
  The program's smallest functions: isKey, isMode, partOf, Part.
-/
import Derived.Test.YteoahlieielcdaaGreatChecked
import Derived.Test.YteoahlieielcdaaGreatBase
import Derived.Test.YteoahlieielcdaaGreatMapF
import Derived.Test.YteoahlieielcdaaGreatLocks
import Derived.Laws.IdiomStrings
namespace Go.Proofs.YteoahlieielcdaaGreat
open Go Go.RowKit

def goodKeyI (s : ByteArray) : Prop := 1 ≤ s.size ∧ s.size ≤ 8

set_option maxHeartbeats 400000 in
theorem isKey_any (s : ByteArray) (w : World) (hs : s.size ≤ maxLen) :
    Calls Tryz.prog 49 #[.string s] w fun e w' => e = .returned (.bool (goodKey s)) ∧ w' = w := by
  unfold maxLen at hs
  by_cases h1 : 1 ≤ s.size
  · go_enter Tryz.func49, Tryz.ntmps49
    go_wp2
    go_ret
    exact ⟨ret_bool (by rw [Bool.eq_iff_iff]; simp [goodKey]; omega), rfl⟩
  · go_enter Tryz.func49, Tryz.ntmps49
    go_wp2
    go_ret
    exact ⟨ret_bool (by rw [Bool.eq_iff_iff]; simp [goodKey]; omega), rfl⟩

def goodMode (m : Int) : Bool := decide (1 ≤ m) && decide (m ≤ 3)
set_option maxHeartbeats 400000 in
theorem isMode_any (m : Int) (w : World) :
    Calls Tryz.prog 66 #[.int .i64 m] w fun e w' => e = .returned (.bool (goodMode m)) ∧ w' = w := by
  by_cases h1 : m = 1
  · subst h1
    go_enter Tryz.func66, Tryz.ntmps66
    go_wp2
    go_ret
    exact ⟨ret_bool rfl, rfl⟩
  · have g1 : (m == 1) = false := beq_eq_false_iff_ne.2 h1
    by_cases h2 : m = 2
    · subst h2
      go_enter Tryz.func66, Tryz.ntmps66
      go_wp2
      go_ret
      exact ⟨ret_bool rfl, rfl⟩
    · have g2 : (m == 2) = false := beq_eq_false_iff_ne.2 h2
      go_enter Tryz.func66, Tryz.ntmps66
      go_wp2
      go_ret
      exact ⟨ret_bool (by rw [Bool.eq_iff_iff]; simp [goodMode]; omega), rfl⟩

/-- what '[]byte(s)' leaves, without its spelling -/
theorem bytes_made {P : Program} (w : World) (src dst e : TypeId) (s : ByteArray) (hs : P.underlying src = some .string) (hd : P.underlying dst = some (.slice e)) (he : P.underlying e = some (.int .u8)) :
    ∃ cap W, (convert src dst (.string s)).run P w = .ok (.slice (some ⟨w.heap.size, 0, none⟩) s.size cap) W ∧ Below w.heap.size w W ∧ (∀ j (hj : j < s.size), W.cell? ⟨w.heap.size, j, none⟩ = some (.int .u8 (s[j].toNat : Int))) := by
  refine ⟨_, _, run_bytes_of_string w src dst e s hs hd he, ((Below.refl _ _).drew.alloc (Nat.le_refl _) _), fun j hj => ?_⟩
  have h := bytesRow_at s (grownCap w s.size 0 e) j hj
  have hh : ∀ (o : Obj), (w.drew.alloc o).heap[w.heap.size]? = some o := fun o => by
    show (w.heap.push o)[w.heap.size]? = _
    simp
  simp only [World.cell?, hh, Option.isSome_none, Bool.false_eq_true, if_false]
  exact h

set_option maxRecDepth 100000 in
set_option maxHeartbeats 400000 in
theorem partOf_any (b : Nat) (n : Nat) (a : Option Addr) (cap : Nat) (s : ByteArray) (w : World) (hs : s.size ≤ 1000) (hn : 0 < n) (hn' : n ≤ 4) (hp : w.cell? ⟨b, 1, none⟩ = some (.slice a n cap)) :
    Calls Tryz.prog 50 #[ptr b, .string s] w fun e w' => e = .returned (.int .i64 (partOf n s)) ∧ Below w.heap.size w w' := by
  obtain ⟨cb, W, hcv, hB, hcell⟩ := bytes_made (P := Tryz.prog) w 9 116 5 s Tryz.underlying9 Tryz.underlying116 Tryz.underlying5
  have hp' : W.cell? ⟨b, 1, none⟩ = some (.slice a n cap) := (hB.cell (p := ⟨b, 1, none⟩) (World.block_lt_of_cell? w _ hp)).trans hp
  unfold ptr
  go_enter Tryz.func50, Tryz.ntmps50
  go_wp2
  go_loop [5, 11] (fun m i => ∃ k : Nat, k ≤ s.size ∧ i = .int .i64 k ∧ m = .int .i64 (byteSum (s.data.toList.take k))) (fun _ i => s.size - (intOf i).toNat)
  case atStart => exact ⟨0, Nat.zero_le _, rfl, rfl⟩
  case round =>
    obtain ⟨k, hk, rfl, rfl⟩ := hrel
    have hd := byteSum_bd (s.data.toList.take k)
    have hl : (s.data.toList.take k).length ≤ k := List.length_take_le _ _
    by_cases hlt : k < s.size
    · have HS : Hid (byteSum (s.data.toList.take (k + 1)) = byteSum (s.data.toList.take k) + (s[k].toNat : Int)) := by
        rw [take_snoc s k hlt]; exact byteSum_snoc _ _
      have ck := hcell k hlt
      have hb := s[k].toNat_lt
      generalize s[k] = c at *
      clear hcell
      go_wp2
      go_round
      case rel => exact ⟨k + 1, by omega, by go_num, by rw [HS.out]⟩
      case measure => simp [intOf]; omega
    · clear hcell
      go_wp2
      go_ret
      exact ⟨ret_int (by rw [List.take_of_length_le (by simp; omega)]; rfl), hB⟩

end Go.Proofs.YteoahlieielcdaaGreat

/-
  How a store of the program lies in memory, by the document's own store: blocks with tags; maps as functions.
-/
namespace Go.Proofs.YteoahlieielcdaaGreat
open Go Go.RowKit
open Go.Maps (Keyed)

/-- what a write writes on a part -/
def itemsOn (n : Int) (l : List KV) (q : Int) : List KV := l.filter (fun x => decide (partOf n x.1 = q))
/-- how far a write has come on a part -/
def stageOf (m : MW) (q : Nat) : Int := if m.comm q then 2 else if m.prep q then 1 else 0
def nilSlice : Value := .slice none 0 0
def mu0 : Value := .int .i32 0
def sem0 : Value := .int .u32 0

/-- where the reads of a store lie -/
structure SB where
  rm : Nat
  pr : Nat → Nat
  qm : Nat → Nat
  qb : Nat → Nat → Nat
  no : Nat → Bool
  ks : Nat → Value
  hv : Nat → Nat → Bool
  tv : Nat → Nat → ByteArray
  ts : Nat → Nat → Value

def readsF (rs : List MR) (B : SB) : Lit → Option Value
  | .int .i64 n => match findR rs n with
    | some _ => some (ptr (B.pr (n - 1).toNat))
    | none => none
  | _ => none
def qIx (keys : List ByteArray) (l : List UInt8) : Nat := keys.findIdx (fun x => decide (x.data.toList = l))
def questF (B : SB) (i : Nat) (r : MR) : Lit → Option Value
  | .string l => if qIx r.keys l < r.keys.length then some (ptr (B.qb i (qIx r.keys l))) else none
  | _ => none

/-- the reads of a store: those that are not finished -/
structure RdS (w : World) (τ : Nat → Tag) (sid : Nat) (n : Nat) (pb : Nat → Nat) (rs : List MR) (B : SB) : Prop where
  rmap : MapF w Tryz.prog 3 B.rm (readsF rs B)
  rmTag : τ B.rm = (sid, 10, 0)
  rd : ∀ (i : Nat) (r : MR), rs[i]? = some r → r.fin = false → Blk w (B.pr i) #[mu0, sem0, .bool (B.no i), B.ks i, .map (some (B.qm i))] 137
  rdTag : ∀ (i : Nat) (r : MR), rs[i]? = some r → r.fin = false → τ (B.pr i) = (sid, 11, i)
  qmap : ∀ (i : Nat) (r : MR), rs[i]? = some r → r.fin = false → MapF w Tryz.prog 9 (B.qm i) (questF B i r)
  qmTag : ∀ (i : Nat) (r : MR), rs[i]? = some r → r.fin = false → τ (B.qm i) = (sid, 12, i)
  q : ∀ (i : Nat) (r : MR) (j : Nat) (x : ByteArray), rs[i]? = some r → r.fin = false → r.keys[j]? = some x → Blk w (B.qb i j) #[ptr (pb (partOf n x).toNat), .bool (r.asked j), .int .i64 (r.found j), .bool (B.hv i j), .string (B.tv i j), B.ts i j] 146
  qTag : ∀ (i : Nat) (r : MR) (j : Nat) (x : ByteArray), rs[i]? = some r → r.fin = false → r.keys[j]? = some x → τ (B.qb i j) = (sid, 13, i * 8 + j)
  ky : ∀ (i : Nat) (r : MR), rs[i]? = some r → r.fin = false → w.ownsRow 0 9 1 (B.ks i) r.keys.length (r.keys.map Value.string)
  kyTag : ∀ (i : Nat) (r : MR) (k : Nat), rs[i]? = some r → r.fin = false → (B.ks i).ownBlock = some k → τ k = (sid, 14, i)

theorem RdS.frame {w w' : World} {τ τ' : Nat → Tag} {sid n : Nat} {pb : Nat → Nat} {rs : List MR} {B : SB} (h : RdS w τ sid n pb rs B)
    (hf : ∀ k, k < w.heap.size → (τ k).1 = sid → 10 ≤ (τ k).2.1 → w'.heap[k]? = w.heap[k]? ∧ τ' k = τ k) : RdS w' τ' sid n pb rs B := by
  have hblk : ∀ {k : Nat} {c : Array Value} {t : TypeId} {g g' : Nat}, 10 ≤ g → Blk w k c t → τ k = (sid, g, g') → Blk w' k c t ∧ τ' k = (sid, g, g') := by
    intro k c t g g' hg hb ht
    obtain ⟨e1, e2⟩ := hf k hb.lt (by rw [ht]) (by rw [ht]; exact hg)
    exact ⟨hb.of_eq e1, e2.trans ht⟩
  have hmap : ∀ {k : Nat} {t : TypeId} {f : Lit → Option Value} {g g' : Nat}, 10 ≤ g → MapF w Tryz.prog t k f → τ k = (sid, g, g') → MapF w' Tryz.prog t k f ∧ τ' k = (sid, g, g') := by
    intro k t f g g' hg hb ht
    obtain ⟨e1, e2⟩ := hf k hb.lt (by rw [ht]) (by rw [ht]; exact hg)
    exact ⟨hb.of_eq e1, e2.trans ht⟩
  exact ⟨(hmap (by omega) h.rmap h.rmTag).1, (hmap (by omega) h.rmap h.rmTag).2,
    fun i r a c => (hblk (by omega) (h.rd i r a c) (h.rdTag i r a c)).1, fun i r a c => (hblk (by omega) (h.rd i r a c) (h.rdTag i r a c)).2,
    fun i r a c => (hmap (by omega) (h.qmap i r a c) (h.qmTag i r a c)).1, fun i r a c => (hmap (by omega) (h.qmap i r a c) (h.qmTag i r a c)).2,
    fun i r j x a c e => (hblk (by omega) (h.q i r j x a c e) (h.qTag i r j x a c e)).1, fun i r j x a c e => (hblk (by omega) (h.q i r j x a c e) (h.qTag i r j x a c e)).2,
    fun i r a c => row_of_block (h.ky i r a c) (fun k hk => (hf k (row_ge (h.ky i r a c) k hk).2 (by rw [h.kyTag i r k a c hk]) (by rw [h.kyTag i r k a c hk]; simp)).1),
    fun i r k a c hk => by rw [(hf k (row_ge (h.ky i r a c) k hk).2 (by rw [h.kyTag i r k a c hk]) (by rw [h.kyTag i r k a c hk]; simp)).2, h.kyTag i r k a c hk]⟩

/-- where the parts of a store lie -/
structure SA where
  parr : Value
  pb : Nat → Nat
  kb : Nat → Nat
  vb : Nat → Nat
  wm : Nat
  pw : Nat → Nat
  sm : Nat → Nat
  sh : Nat → Nat → Nat
  iv : Nat → Nat → Value
  sv : Nat → Value
  vis : Nat → List UInt8 → Nat
  R : SB

def writesF (s : MS) (A : SA) : Lit → Option Value
  | .int .i64 n => match mFind s n with
    | some _ => some (ptr (A.pw (n - 1).toNat))
    | none => none
  | _ => none
def keptF (s : MS) (A : SA) (q : Nat) : Lit → Option Value
  | .int .i64 n => match mFind s n with
    | some m => if m.prep q then some (.agg #[A.iv (n - 1).toNat q, A.sv (n - 1).toNat]) else none
    | none => none
  | _ => none
def sharesF (s : MS) (A : SA) (i : Nat) (m : MW) : Lit → Option Value
  | .int .i64 q => if onPart s.parts m.items q = true then some (ptr (A.sh i q.toNat)) else none
  | _ => none
def visF (A : SA) (q : Nat) : Lit → Option Value
  | .string l => if A.vis q l = 0 then none else some (.int .i64 (A.vis q l))
  | _ => none

/-- a write's key, as bytes, is among its items -/
def writesKey (m : MW) (l : List UInt8) : Prop := ∃ x ∈ m.items, x.1.data.toList = l
/-- the visible write of a key on a part, of a store -/
structure VisOk (s : MS) (q : Nat) (v : List UInt8 → Nat) : Prop where
  seen : ∀ l, v l ≠ 0 → ∃ m, s.ws[v l - 1]? = some m ∧ m.comm q = true ∧ ∃ x ∈ m.items, x.1.data.toList = l ∧ partOf s.parts x.1 = q
  top : ∀ (i : Nat) (m : MW) (x : KV), s.ws[i]? = some m → m.comm q = true → x ∈ m.items → partOf s.parts x.1 = q → i + 1 ≤ v x.1.data.toList

structure MInv (s : MS) : Prop where
  cp : ∀ (i : Nat) (m : MW) (q : Nat), s.ws[i]? = some m → m.comm q = true → m.prep q = true
  po : ∀ (i : Nat) (m : MW) (q : Nat), s.ws[i]? = some m → m.prep q = true → onPart s.parts m.items q = true
  cc : ∀ (i : Nat) (m : MW) (q : Nat), s.ws[i]? = some m → m.canc = true → m.comm q = false

/-- an interface's value -/
def IsIf (v : Value) : Prop := v = .nilIface ∨ ∃ t x, v = .iface t x
/-- what a write writes to a key -/
def valueIn (l : List KV) (k : ByteArray) : Option ByteArray := (l.find? (fun x => decide (x.1 = k))).map (fun x => x.2)
/-- what the open reads were told -/
structure ToldOk (s : MS) (A : SA) : Prop where
  sv : ∀ (i : Nat) (m : MW), s.ws[i]? = some m → IsIf (A.sv i)
  no : ∀ (i : Nat) (r : MR), s.rs[i]? = some r → r.fin = false → A.R.no i = (decide (s.mode = 2) && decide (1 < r.keys.length))
  un : ∀ (i : Nat) (r : MR) (j : Nat), s.rs[i]? = some r → r.asked j = false → r.found j = 0
  hv : ∀ (i : Nat) (r : MR) (j : Nat) (x : ByteArray), s.rs[i]? = some r → r.fin = false → r.keys[j]? = some x → A.R.hv i j = (!A.R.no i && decide (r.found j ≠ 0))
  tv : ∀ (i : Nat) (r : MR) (j : Nat) (x : ByteArray), s.rs[i]? = some r → r.fin = false → r.keys[j]? = some x → A.R.hv i j = true → ∃ m, s.ws[r.found j - 1]? = some m ∧ valueIn m.items x = some (A.R.tv i j) ∧ A.R.ts i j = A.sv (r.found j - 1)
  t0 : ∀ (i : Nat) (r : MR) (j : Nat) (x : ByteArray), s.rs[i]? = some r → r.fin = false → r.keys[j]? = some x → A.R.hv i j = false → A.R.tv i j = ⟨#[]⟩ ∧ A.R.ts i j = .nilIface
  fm : ∀ (i : Nat) (r : MR) (j : Nat) (x : ByteArray), s.rs[i]? = some r → r.fin = false → r.keys[j]? = some x → r.found j ≠ 0 → ∃ m, s.ws[r.found j - 1]? = some m ∧ hasKey m.items x = true ∧ m.comm (partOf s.parts x).toNat = true

/-- writes that turn keep their items, and what is committed -/
theorem ToldOk.ws {s s' : MS} {A A' : SA} (h : ToldOk s A) (hrs : s'.rs = s.rs) (hmode : s'.mode = s.mode) (hparts : s'.parts = s.parts) (hR : A'.R = A.R) (hsv : ∀ (i : Nat) (m : MW), s'.ws[i]? = some m → IsIf (A'.sv i))
    (hw : ∀ (i : Nat) (m : MW), s.ws[i]? = some m → ∃ m', s'.ws[i]? = some m' ∧ m'.items = m.items ∧ (∀ q, m.comm q = true → m'.comm q = true) ∧ A'.sv i = A.sv i) : ToldOk s' A' := by
  refine ⟨hsv, fun i r a c => ?_, fun i r j a => ?_, fun i r j x a c e => ?_, fun i r j x a c e f => ?_, fun i r j x a c e f => ?_, fun i r j x a c e f => ?_⟩
  all_goals rw [hrs] at a
  · rw [hR, hmode]; exact h.no i r a c
  · exact h.un i r j a
  · rw [hR]; exact h.hv i r j x a c e
  · rw [hR] at f ⊢
    obtain ⟨m, hm, h1, h2⟩ := h.tv i r j x a c e f
    obtain ⟨m', hm', e1, _, e3⟩ := hw _ m hm
    exact ⟨m', hm', by rw [e1]; exact h1, by rw [e3]; exact h2⟩
  · rw [hR] at f ⊢
    exact h.t0 i r j x a c e f
  · obtain ⟨m, hm, h1, h2⟩ := h.fm i r j x a c e f
    obtain ⟨m', hm', e1, e2, _⟩ := hw _ m hm
    exact ⟨m', hm', by rw [e1]; exact h1, by rw [hparts]; exact e2 _ h2⟩

structure RepS (w : World) (τ : Nat → Tag) (sid b : Nat) (s : MS) (A : SA) : Prop where
  ok : MOk s
  inv : MInv s
  told : ToldOk s A
  blk : Blk w b #[.int .i64 s.mode, A.parr, mu0, sem0, .int .i64 s.ws.length, .int .i64 s.rs.length, .map (some A.wm), .map (some A.R.rm)] 105
  tag : τ b = (sid, 0, 0)
  parr : w.ownsRow 0 130 1 A.parr s.parts ((List.range s.parts).map (fun q => ptr (A.pb q)))
  parrTag : ∀ k, A.parr.ownBlock = some k → τ k = (sid, 1, 0)
  part : ∀ q, q < s.parts → Blk w (A.pb q) #[mu0, sem0, .map (some (A.kb q)), .map (some (A.vb q))] 202
  partTag : ∀ q, q < s.parts → τ (A.pb q) = (sid, 2, q)
  kept : ∀ q, q < s.parts → MapF w Tryz.prog 3 (A.kb q) (keptF s A q)
  keptTag : ∀ q, q < s.parts → τ (A.kb q) = (sid, 3, q)
  vism : ∀ q, q < s.parts → MapF w Tryz.prog 9 (A.vb q) (visF A q)
  visTag : ∀ q, q < s.parts → τ (A.vb q) = (sid, 4, q)
  visOk : ∀ q, q < s.parts → VisOk s q (A.vis q)
  wmap : MapF w Tryz.prog 3 A.wm (writesF s A)
  wmTag : τ A.wm = (sid, 5, 0)
  wr : ∀ (i : Nat) (m : MW), s.ws[i]? = some m → m.canc = false → Blk w (A.pw i) #[mu0, sem0, .int .i64 ((i : Int) + 1), A.sv i, .bool false, .map (some (A.sm i))] 164
  wrTag : ∀ (i : Nat) (m : MW), s.ws[i]? = some m → m.canc = false → τ (A.pw i) = (sid, 6, i)
  shm : ∀ (i : Nat) (m : MW), s.ws[i]? = some m → m.canc = false → MapF w Tryz.prog 3 (A.sm i) (sharesF s A i m)
  shmTag : ∀ (i : Nat) (m : MW), s.ws[i]? = some m → m.canc = false → τ (A.sm i) = (sid, 7, i)
  sh : ∀ (i : Nat) (m : MW) (q : Nat), s.ws[i]? = some m → m.canc = false → onPart s.parts m.items q = true → Blk w (A.sh i q) #[ptr (A.pb q), .int .i64 (stageOf m q), if m.prep q then nilSlice else A.iv i q] 174
  shTag : ∀ (i : Nat) (m : MW) (q : Nat), s.ws[i]? = some m → m.canc = false → onPart s.parts m.items q = true → τ (A.sh i q) = (sid, 8, i * 4 + q)
  it : ∀ (i : Nat) (m : MW) (q : Nat), s.ws[i]? = some m → m.canc = false → onPart s.parts m.items q = true → w.ownsRow 0 70 2 (A.iv i q) (itemsOn s.parts m.items q).length (kvCells (itemsOn s.parts m.items q))
  itTag : ∀ (i : Nat) (m : MW) (q : Nat) (k : Nat), s.ws[i]? = some m → m.canc = false → onPart s.parts m.items q = true → (A.iv i q).ownBlock = some k → τ k = (sid, 9, i * 4 + q)
  reads : RdS w τ sid s.parts A.pb s.rs A.R

section
variable {w : World} {τ : Nat → Tag} {sid b : Nat} {s : MS} {A : SA}

/-- WHAT A STORE OWNS IS AS IT WAS: so is the store. -/
theorem RepS.frame (h : RepS w τ sid b s A) {w' : World} {τ' : Nat → Tag} (hf : ∀ k, k < w.heap.size → (τ k).1 = sid → w'.heap[k]? = w.heap[k]? ∧ τ' k = τ k) : RepS w' τ' sid b s A := by
  have hblk : ∀ {k : Nat} {c : Array Value} {t : TypeId} {g : Nat × Nat}, Blk w k c t → τ k = (sid, g) → Blk w' k c t ∧ τ' k = (sid, g) := by
    intro k c t g hb ht
    obtain ⟨e1, e2⟩ := hf k hb.lt (by rw [ht])
    exact ⟨hb.of_eq e1, e2.trans ht⟩
  have hmap : ∀ {k : Nat} {t : TypeId} {f : Lit → Option Value} {g : Nat × Nat}, MapF w Tryz.prog t k f → τ k = (sid, g) → MapF w' Tryz.prog t k f ∧ τ' k = (sid, g) := by
    intro k t f g hb ht
    obtain ⟨e1, e2⟩ := hf k hb.lt (by rw [ht])
    exact ⟨hb.of_eq e1, e2.trans ht⟩
  have hrow : ∀ {e : TypeId} {sz : Nat} {v : Value} {n : Nat} {xs : List Value} {g : Nat × Nat}, w.ownsRow 0 e sz v n xs → (∀ k, v.ownBlock = some k → τ k = (sid, g)) → w'.ownsRow 0 e sz v n xs ∧ ∀ k, v.ownBlock = some k → τ' k = (sid, g) := by
    intro e sz v n xs g ho hv
    refine ⟨row_of_block ho (fun k hk => (hf k (row_ge ho k hk).2 (by rw [hv k hk])).1), fun k hk => ?_⟩
    rw [(hf k (row_ge ho k hk).2 (by rw [hv k hk])).2, hv k hk]
  exact ⟨h.ok, h.inv, h.told, (hblk h.blk h.tag).1, (hblk h.blk h.tag).2, (hrow h.parr h.parrTag).1, (hrow h.parr h.parrTag).2,
    fun q hq => (hblk (h.part q hq) (h.partTag q hq)).1, fun q hq => (hblk (h.part q hq) (h.partTag q hq)).2,
    fun q hq => (hmap (h.kept q hq) (h.keptTag q hq)).1, fun q hq => (hmap (h.kept q hq) (h.keptTag q hq)).2,
    fun q hq => (hmap (h.vism q hq) (h.visTag q hq)).1, fun q hq => (hmap (h.vism q hq) (h.visTag q hq)).2, h.visOk,
    (hmap h.wmap h.wmTag).1, (hmap h.wmap h.wmTag).2,
    fun i m a c => (hblk (h.wr i m a c) (h.wrTag i m a c)).1, fun i m a c => (hblk (h.wr i m a c) (h.wrTag i m a c)).2,
    fun i m a c => (hmap (h.shm i m a c) (h.shmTag i m a c)).1, fun i m a c => (hmap (h.shm i m a c) (h.shmTag i m a c)).2,
    fun i m q a c o => (hblk (h.sh i m q a c o) (h.shTag i m q a c o)).1, fun i m q a c o => (hblk (h.sh i m q a c o) (h.shTag i m q a c o)).2,
    fun i m q a c o => (hrow (h.it i m q a c o) (fun k => h.itTag i m q k a c o)).1, fun i m q k a c o => (hrow (h.it i m q a c o) (fun k => h.itTag i m q k a c o)).2 k, h.reads.frame (fun k hk h1 _ => hf k hk h1)⟩

/-- the same memory -/
structure Same (w w' : World) : Prop where
  heap : w'.heap = w.heap
  os : w'.os = w.os
  tape : w'.tape = w.tape
  output : w'.output = w.output
theorem Same.refl (w : World) : Same w w := ⟨rfl, rfl, rfl, rfl⟩
theorem Same.trans {a b c : World} (h : Same a b) (k : Same b c) : Same a c := ⟨k.heap.trans h.heap, k.os.trans h.os, k.tape.trans h.tape, k.output.trans h.output⟩
theorem Same.stp {w w' : World} (h : Same w w') (s : Nat) (τ : Nat → Tag) : Stp s τ w τ w' := ⟨h.os, h.tape, h.output, by rw [h.heap]; exact Nat.le_refl _, fun _ _ => rfl, fun k _ _ => by rw [h.heap]⟩
theorem RepS.same (h : RepS w τ sid b s A) {w' : World} (hs : Same w w') : RepS w' τ sid b s A := h.frame (fun k _ _ => ⟨by rw [hs.heap], rfl⟩)
theorem RepS.below (h : RepS w τ sid b s A) {w' : World} (hb : Below w.heap.size w w') : RepS w' τ sid b s A := h.frame (fun k hk _ => ⟨hb.block k hk, rfl⟩)

/-- a lock taken and given back -/
theorem lock_round {w : World} {b o : Nat} {c : Array Value} {t : TypeId} (h : Blk w b c t) (hc : c[o]? = some mu0) (v : Value) : Same w ((w.setCell ⟨b, o, none⟩ v).setCell ⟨b, o, none⟩ mu0) := by
  refine ⟨?_, rfl, rfl, rfl⟩
  apply Array.ext_getElem?
  intro i
  by_cases e : i = b
  · subst e
    have h1 : ((w.setCell ⟨i, o, none⟩ v).setCell ⟨i, o, none⟩ mu0).heap[i]? = some (.cells ((c.setIfInBounds o v).setIfInBounds o mu0) t (0, 0)) := (h.set o v).set o mu0
    have h2 : w.heap[i]? = some (.cells c t (0, 0)) := h
    rw [h1, h2]
    obtain ⟨ho, hv⟩ := Array.getElem?_eq_some_iff.1 hc
    congr 2
    apply Array.ext_getElem?
    intro j
    by_cases e : o = j
    · subst e; simp [ho, hv]
    · simp [e]
  · rw [Below.heap_setCell _ _ _ _ e, Below.heap_setCell _ _ _ _ e]

end
end Go.Proofs.YteoahlieielcdaaGreat
