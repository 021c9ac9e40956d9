/-
  Our own ground for the walks: blocks with tags, a step of one owner, cells out of blocks. No program is named here.
-/
import Derived.WalkKit
import Derived.WalkSpells
import Derived.WalkLawsBesides
import Derived.Maps.AppendAt
import Derived.Deep.RegionLaw
import Derived.Deep.QuietTactic
import Derived.BigQuiet
namespace Go.Proofs.YteoahlieielcdaaGreat
open Go Go.RowKit

/-- A block of plain cells, nothing frozen. -/
def Blk (w : World) (b : Nat) (c : Array Value) (t : TypeId) : Prop := w.heap[b]? = some (.cells c t (0, 0))

theorem Blk.cell {w : World} {b : Nat} {c : Array Value} {t : TypeId} (h : Blk w b c t) {o : Nat} {v : Value} (hv : c[o]? = some v) : w.cell? ⟨b, o, none⟩ = some v := by
  unfold Blk at h
  simp [World.cell?, h, hv]
theorem Blk.frozen {w : World} {b : Nat} {c : Array Value} {t : TypeId} (h : Blk w b c t) (o : Nat) : w.frozen? ⟨b, o, none⟩ = false := by
  unfold Blk at h
  simp [World.frozen?, h]
theorem Blk.lt {w : World} {b : Nat} {c : Array Value} {t : TypeId} (h : Blk w b c t) : b < w.heap.size := (Array.getElem?_eq_some_iff.1 h).1
theorem Blk.of_eq {w w' : World} {b : Nat} {c : Array Value} {t : TypeId} (h : Blk w b c t) (e : w'.heap[b]? = w.heap[b]?) : Blk w' b c t := e.trans h
theorem Blk.set {w : World} {b : Nat} {c : Array Value} {t : TypeId} (h : Blk w b c t) (o : Nat) (v : Value) : Blk (w.setCell ⟨b, o, none⟩ v) b (c.setIfInBounds o v) t := by
  unfold Blk at h ⊢
  simp only [World.setCell, Array.getElem?_modify, h]
  simp
theorem Blk.new (w : World) (c : Array Value) (t : TypeId) : Blk (w.alloc (.cells c t)) w.heap.size c t := by
  show (w.heap.push _)[w.heap.size]? = _
  simp

/-- A tag: an owner, a kind, a place. -/
abbrev Tag := Nat × Nat × Nat

/-- A STEP OF OWNER s: no block has gone; tags stay; a block of another owner is as it was. -/
structure Stp (s : Nat) (τ : Nat → Tag) (w : World) (τ' : Nat → Tag) (w' : World) : Prop where
  os : w'.os = w.os
  tape : w'.tape = w.tape
  output : w'.output = w.output
  size : w.heap.size ≤ w'.heap.size
  tag : ∀ k, k < w.heap.size → τ' k = τ k
  block : ∀ k, k < w.heap.size → (τ k).1 ≠ s → w'.heap[k]? = w.heap[k]?

theorem Stp.refl (s : Nat) (τ : Nat → Tag) (w : World) : Stp s τ w τ w := ⟨rfl, rfl, rfl, Nat.le_refl _, fun _ _ => rfl, fun _ _ _ => rfl⟩
theorem Stp.trans {s : Nat} {τ τ1 τ2 : Nat → Tag} {w w1 w2 : World} (h : Stp s τ w τ1 w1) (k : Stp s τ1 w1 τ2 w2) : Stp s τ w τ2 w2 :=
  ⟨k.os.trans h.os, k.tape.trans h.tape, k.output.trans h.output, Nat.le_trans h.size k.size,
    fun i hi => (k.tag i (Nat.lt_of_lt_of_le hi h.size)).trans (h.tag i hi),
    fun i hi hs => (k.block i (Nat.lt_of_lt_of_le hi h.size) (by rw [h.tag i hi]; exact hs)).trans (h.block i hi hs)⟩
theorem Stp.drew {s : Nat} {τ τ' : Nat → Tag} {w w' : World} (h : Stp s τ w τ' w') : Stp s τ w τ' w'.drew := ⟨h.os, h.tape, h.output, h.size, h.tag, h.block⟩
/-- a new block of this owner's, whatever tag it gets -/
theorem Stp.alloc {s : Nat} {τ τ' : Nat → Tag} {w w' : World} (h : Stp s τ w τ' w') (o : Obj) (g : Tag) :
    Stp s τ w (fun k => if k = w'.heap.size then g else τ' k) (w'.alloc o) := by
  refine h.trans ⟨rfl, rfl, rfl, by simp, fun k hk => ?_, fun k hk _ => Below.heap_alloc _ _ _ hk⟩
  have : k ≠ w'.heap.size := by omega
  simp [this]
/-- a new block without a tag of its own -/
theorem Stp.alloc0 {s : Nat} {τ τ' : Nat → Tag} {w w' : World} (h : Stp s τ w τ' w') (o : Obj) : Stp s τ w τ' (w'.alloc o) :=
  h.trans ⟨rfl, rfl, rfl, by simp, fun _ _ => rfl, fun k hk _ => Below.heap_alloc _ _ _ hk⟩
/-- a store into a block of this owner's -/
theorem Stp.setCell {s : Nat} {τ τ' : Nat → Tag} {w w' : World} (h : Stp s τ w τ' w') {a : Addr} (ha : (τ' a.block).1 = s) (v : Value) : Stp s τ w τ' (w'.setCell a v) :=
  h.trans ⟨rfl, rfl, rfl, by simp [World.setCell], fun _ _ => rfl, fun k _ hs => Below.heap_setCell _ _ _ _ (fun e => hs (by rw [e]; exact ha))⟩
/-- a store into a block that is new since -/
theorem Stp.setNew {s : Nat} {τ τ' : Nat → Tag} {w w' : World} (h : Stp s τ w τ' w') {a : Addr} (ha : w.heap.size ≤ a.block) (v : Value) : Stp s τ w τ' (w'.setCell a v) := by
  refine ⟨h.os, h.tape, h.output, by simpa [World.setCell] using h.size, h.tag, fun k hk hs => ?_⟩
  rw [Below.heap_setCell _ _ _ _ (by omega)]
  exact h.block k hk hs
theorem Stp.grown {s : Nat} {τ τ' : Nat → Tag} {w w' w2 : World} {row : Option Nat} (h : Stp s τ w τ' w') (hg : w'.grownBy w2 row) (hr : ∀ k, row = some k → (τ' k).1 = s ∨ w.heap.size ≤ k) : Stp s τ w τ' w2 := by
  refine ⟨hg.os.trans h.os, hg.tape.trans h.tape, hg.output.trans h.output, Nat.le_trans h.size hg.size, h.tag, fun k hk hs => ?_⟩
  rw [hg.block k (Nat.lt_of_lt_of_le hk h.size) (fun e => ?_)]
  · exact h.block k hk hs
  · rcases hr k e.symm with e1 | e1
    · rw [h.tag k hk] at e1; exact hs e1
    · omega
theorem Stp.blk {s : Nat} {τ τ' : Nat → Tag} {w w' : World} (h : Stp s τ w τ' w') {b : Nat} {c : Array Value} {t : TypeId} (hb : Blk w b c t) (hs : (τ b).1 ≠ s) : Blk w' b c t := hb.of_eq (h.block b hb.lt hs)

/-- an ending that is an integer -/
theorem ret_int {k : IntKind} {a b : Int} (h : a = b) : Ending.returned (.int k a) = .returned (.int k b) := by rw [h]
theorem ret_bool {a b : Bool} (h : a = b) : Ending.returned (.bool a) = .returned (.bool b) := by rw [h]

theorem wrap_id {n : Int} (h : -9223372036854775808 ≤ n) (h' : n ≤ 9223372036854775807) : wrap64 n = n := by unfold wrap64; omega
theorem wrap_byte (c : UInt8) : wrap64 (c.toNat : Int) = (c.toNat : Int) := wrap_id (by omega) (by have := c.toNat_lt; omega)

#print axioms Stp.grown
end Go.Proofs.YteoahlieielcdaaGreat

/-
  Laws of our own on rows, maps and steps. No program is named here.
-/
namespace Go.Proofs.YteoahlieielcdaaGreat
open Go Go.RowKit

/-- append onto a row that is owned, as one step of a region that draws its order; it says where the new slice lies. -/
theorem step_append_own_at {P : Program} {ops : Array Oper} {o : Oper} {a : Act} {w : World} {K : Act → World → Prop} {Q : Exit → Act → World → Prop} {E : Prop}
    (hgd : o.guard = none) (s x : Operand) (t : TypeId)
    (ho : o.op = .call { callee := .builtin .append, args := #[s, x], argTypes := #[t, t] })
    (base : Nat) (e : TypeId) (i : TypeInfo) (z : Value) (size bytes : Nat) (ht : P.underlying t = some (.slice e)) (hi : P.info? e = some i) (hz : i.zero = some z)
    (hsize : i.size = size) (hby : i.bytes = bytes) (hzs : z.cells.size = size) (hsz : 0 < size)
    (v : Value) (n : Nat) (xs : List Value) (hs : a.eval s = v) (hown : w.ownsRow base e size v n xs)
    (ad : Addr) (m c : Nat) (news : List Value) (hx : a.eval x = .slice (some ad) m c) (hl : news.length = m * size) (hnews : ∀ j u, news[j]? = some u → w.cell? (ad.add j) = some u) (h1 : ∀ u ∈ news, u.oneCell' = true)
    (h63 : n + m ≤ maxLen) (hbytes : (n + m) * bytes ≤ 140737488355328) (hbase : base ≤ w.heap.size)
    (h : ∀ v' w', w'.ownsRow base e size v' (n + m) (xs ++ news) → w.grownBy w' v.ownBlock → (v' = .slice none 0 0 ↔ v = .slice none 0 0 ∧ m = 0) → (v'.ownBlock = v.ownBlock ∨ v'.ownBlock = some w.heap.size) → K (a.put o.dst v') w') :
    if Region.wanted o (yielded ops a.tmps) = true then Oper.wp P o a w K Q else E := by
  have hw : Region.wanted o (yielded ops a.tmps) = true := by simp [Region.wanted, hgd]
  rw [if_pos hw]
  obtain ⟨v', w', hr, h2, h3, h4, h5⟩ := run_append_own_at (P := P) w base t o.type e i z size bytes ht hi hz hsize hby hzs hsz v n xs hown ad m c news hl hnews h1 h63 hbytes hbase
  unfold Oper.wp execOp
  simp only [ho, resolve, invoke, builtin, Sem.run_bind, Sem.run_pure, Result.andThen_ok, List.map_toArray, List.map_cons, List.map_nil, hs, hx, hr]
  exact h v' w' h2 h3 h4 h5

theorem row_form {w : World} {base : Nat} {e : TypeId} {size : Nat} {v : Value} {n : Nat} {xs : List Value} (h : w.ownsRow base e size v n xs) (hn : 0 < n) :
    ∃ g cap, v = .slice (some ⟨g, 0, none⟩) n cap ∧ n ≤ cap ∧ cap ≤ maxLen ∧ (∀ j, j < n * size → w.cell? ⟨g, j, none⟩ = xs[j]?) ∧ ∀ j, w.frozen? ⟨g, j, none⟩ = false := by
  have h0 := h
  obtain ⟨h1, h2⟩ := h
  rcases h2 with ⟨_, e0⟩ | ⟨g, cap, cur, rfl, _, hg, hc, hm, hs, ht⟩
  · omega
  · exact ⟨g, cap, rfl, hc, hm, fun j hj => h0.cellAt j hj, fun j => h0.frozenAt j⟩
theorem row_len {w : World} {base : Nat} {e : TypeId} {size : Nat} {v : Value} {n : Nat} {xs : List Value} (h : w.ownsRow base e size v n xs) :
    ∃ a cap, v = .slice a n cap := by
  obtain ⟨h1, h2⟩ := h
  rcases h2 with ⟨rfl, rfl⟩ | ⟨g, cap, cur, rfl, _⟩
  · exact ⟨none, 0, rfl⟩
  · exact ⟨_, _, rfl⟩
theorem row_base {w : World} {base base' : Nat} {e : TypeId} {size : Nat} {v : Value} {n : Nat} {xs : List Value} (h : w.ownsRow base e size v n xs) (hb : ∀ k, v.ownBlock = some k → base' ≤ k) : w.ownsRow base' e size v n xs := by
  obtain ⟨h1, h2⟩ := h
  refine ⟨h1, ?_⟩
  rcases h2 with h2 | ⟨g, cap, cur, rfl, hg, r⟩
  · exact Or.inl h2
  · exact Or.inr ⟨g, cap, cur, rfl, hb g rfl, r⟩
theorem row_of_block {w w' : World} {base : Nat} {e : TypeId} {size : Nat} {v : Value} {n : Nat} {xs : List Value} (h : w.ownsRow base e size v n xs) (hb : ∀ k, v.ownBlock = some k → w'.heap[k]? = w.heap[k]?) : w'.ownsRow base e size v n xs := by
  obtain ⟨h1, h2⟩ := h
  refine ⟨h1, ?_⟩
  rcases h2 with h2 | ⟨g, cap, cur, rfl, hg, hh, r⟩
  · exact Or.inl h2
  · exact Or.inr ⟨g, cap, cur, rfl, hg, (hb g rfl).trans hh, r⟩
theorem row_ge {w : World} {base : Nat} {e : TypeId} {size : Nat} {v : Value} {n : Nat} {xs : List Value} (h : w.ownsRow base e size v n xs) : ∀ k, v.ownBlock = some k → base ≤ k ∧ k < w.heap.size := h.lt

def ptr (b : Nat) : Value := .pointer (some ⟨b, 0, none⟩)

/-- two cells that were just laid -/
theorem cell_two_new (w : World) (x y : Value) (t : TypeId) : ∀ j u, [x, y][j]? = some u → (w.alloc (.cells #[x, y] t)).cell? ((⟨w.heap.size, 0, none⟩ : Addr).add j) = some u := by
  intro j u hj
  match j, hj with
  | 0, hj => simp at hj; subst hj; simp [Addr.add]
  | 1, hj => simp at hj; subst hj; simp [Addr.add]

theorem grownBy_setCell (w : World) (a : Addr) (v : Value) : w.grownBy (w.setCell a v) (some a.block) :=
  ⟨rfl, rfl, rfl, by simp [World.setCell], fun k _ hk => Below.heap_setCell _ _ _ _ (fun e => hk (by rw [e]))⟩
theorem lt_of_some {α : Type} {l : List α} {i : Nat} {x : α} (h : l[i]? = some x) : i < l.length := (List.getElem?_eq_some_iff.1 h).1
theorem set_some {α : Type} {l : List α} {i j : Nat} {y x : α} (h : (l.set i y)[j]? = some x) : (i = j ∧ x = y) ∨ (i ≠ j ∧ l[j]? = some x) := by
  rw [List.getElem?_set] at h
  by_cases e : i = j
  · simp only [e, if_true] at h
    split at h
    · cases h; exact Or.inl ⟨e, rfl⟩
    · cases h
  · simp only [e, if_false] at h
    exact Or.inr ⟨e, h⟩
theorem Below.drewN' {B : Nat} {a w : World} (h : Below B a w) (n : Nat) : Below B a (w.drewN n) := ⟨h.os, h.tape, h.output, h.size, h.block⟩

theorem str_eq {a b : ByteArray} (h : (a.toList == b.toList) = true) : a = b := by
  rw [beq_iff_eq, ByteArray.toList_eq, ByteArray.toList_eq] at h
  exact WideShapes.bytes_inj h
theorem str_ne {a b : ByteArray} (h : (a.toList == b.toList) = false) : a ≠ b := by
  rintro rfl
  simp at h
theorem str_beq {a b : ByteArray} (h : a = b) : (a.toList == b.toList) = true := by subst h; simp
theorem str_bne {a b : ByteArray} (h : a ≠ b) : (a.toList == b.toList) = false := by
  cases hh : (a.toList == b.toList)
  · rfl
  · exact absurd (str_eq hh) h

#print axioms step_append_own_at
end Go.Proofs.YteoahlieielcdaaGreat

/-
  The document's answer as plain functions: writes as lists, parts as numbers. No program is named here.
-/
namespace Go.Proofs.YteoahlieielcdaaGreat
open Go Go.RowKit

/-- the sum of a text's bytes -/
def byteSum (l : List UInt8) : Int := (l.map (fun c => (c.toNat : Int))).sum
theorem byteSum_snoc (l : List UInt8) (c : UInt8) : byteSum (l ++ [c]) = byteSum l + (c.toNat : Int) := by simp [byteSum]
theorem byteSum_bd (l : List UInt8) : 0 ≤ byteSum l ∧ byteSum l ≤ 255 * l.length := by
  induction l with
  | nil => simp [byteSum]
  | cons c r ih =>
    have := c.toNat_lt
    simp [byteSum] at ih ⊢
    omega
theorem take_snoc (s : ByteArray) (k : Nat) (h : k < s.size) : s.data.toList.take (k + 1) = s.data.toList.take k ++ [s[k]] := by
  rw [List.take_succ_eq_append_getElem (by simpa using h)]; rfl

/-- the part of a key, of n parts -/
def partOf (n : Int) (s : ByteArray) : Int := byteSum s.data.toList % n
theorem partOf_bd (n : Int) (s : ByteArray) (hn : 0 < n) : 0 ≤ partOf n s ∧ partOf n s < n := ⟨Int.emod_nonneg _ (by omega), Int.emod_lt_of_pos _ hn⟩

/-- pick: which of n things the raw number speaks of -/
def pickOf (c n : Int) : Int := (if c < 0 then -(c + 1) else c) % n
theorem pick_neg (c n : Int) (h : c < 0) : -(c + 1).tmod n = pickOf c n := by
  simp only [pickOf, if_pos h]
  rw [← Int.neg_tmod, Int.tmod_eq_emod_of_nonneg (by omega)]
theorem pick_pos (c n : Int) (h : ¬ c < 0) : c % n = pickOf c n := by simp only [pickOf, if_neg h]
theorem pick_bd (c n : Int) (hn : 0 < n) : 0 ≤ pickOf c n ∧ pickOf c n < n := ⟨Int.emod_nonneg _ (by omega), Int.emod_lt_of_pos _ hn⟩

abbrev KV := ByteArray × ByteArray

def kvCells (l : List KV) : List Value := l.flatMap (fun x => [.string x.1, .string x.2])
def goodKey (s : ByteArray) : Bool := decide (1 ≤ s.size) && decide (s.size ≤ 8)
def goodKV (x : KV) : Bool := goodKey x.1 && decide (x.2.size ≤ 64)
def hasKey (l : List KV) (k : ByteArray) : Bool := l.any (fun x => decide (x.1 = k))

/-- a write: its items; where it is prepared, where committed; was it cancelled? -/
structure MW where
  items : List KV
  prep : Nat → Bool
  comm : Nat → Bool
  canc : Bool

/-- a read: its keys; which were asked; their candidates; is it finished? -/
structure MR where
  keys : List ByteArray
  asked : Nat → Bool
  found : Nat → Nat
  fin : Bool

/-- a store: how many parts; its mode; all writes; all reads -/
structure MS where
  parts : Nat
  mode : Int
  ws : List MW
  rs : List MR

/-- does a write write on a part? -/
def onPart (n : Int) (l : List KV) (p : Int) : Bool := l.any (fun x => decide (partOf n x.1 = p))

/-- what P3 says of a list of items, looked at behind 'ahead' -/
def checkFrom (ahead : List KV) : List KV → Int
  | [] => 0
  | x :: r => if goodKV x = false then 4 else if hasKey ahead x.1 then 5 else checkFrom (ahead ++ [x]) r

def mCheck (l : List KV) : Int := if l.length < 1 ∨ 8 < l.length then 3 else checkFrom [] l

def newMW (l : List KV) : MW := { items := l, prep := fun _ => false, comm := fun _ => false, canc := false }

/-- Write: its number, its error, the store behind it -/
def mWrite (s : MS) (l : List KV) : Int × Int × MS :=
  if mCheck l ≠ 0 then (0, mCheck l, s)
  else if 200 ≤ s.ws.length then (0, 6, s)
  else ((s.ws.length : Int) + 1, 0, { s with ws := s.ws ++ [newMW l] })

/-- the write of a number, if there is one that is not cancelled -/
def mFind (s : MS) (n : Int) : Option MW :=
  if n < 1 ∨ (s.ws.length : Int) < n then none
  else match s.ws[(n - 1).toNat]? with
    | some m => if m.canc then none else some m
    | none => none

def setW (s : MS) (n : Int) (m : MW) : MS := { s with ws := s.ws.set (n - 1).toNat m }
def put (f : Nat → Bool) (p : Nat) : Nat → Bool := fun q => if q = p then true else f q

def mPrepare (s : MS) (n p : Int) : Int × MS :=
  match mFind s n with
  | none => (7, s)
  | some m =>
    if onPart s.parts m.items p = false then (8, s)
    else if m.prep p.toNat then (10, s)
    else (0, setW s n { m with prep := put m.prep p.toNat })

/-- is it prepared on all its parts? -/
def allPrep (n : Nat) (m : MW) : Bool := (List.range n).all (fun p => !onPart n m.items p || m.prep p)

def mCommit (s : MS) (n p : Int) : Int × MS :=
  match mFind s n with
  | none => (7, s)
  | some m =>
    if onPart s.parts m.items p = false then (8, s)
    else if allPrep s.parts m = false then (9, s)
    else if m.comm p.toNat then (10, s)
    else (0, setW s n { m with comm := put m.comm p.toNat })

def mCancel (s : MS) (n : Int) : Int × MS :=
  match mFind s n with
  | none => (7, s)
  | some m =>
    if m.comm 0 || m.comm 1 || m.comm 2 || m.comm 3 then (9, s)
    else (0, setW s n { m with canc := true })

def keyIn (l : List ByteArray) (k : ByteArray) : Bool := l.any (fun y => decide (y = k))
/-- the place of a key -/
def keyIx (l : List ByteArray) (k : ByteArray) : Nat := l.findIdx (fun y => decide (y = k))
/-- what P4 says of a list of keys, looked at behind 'ahead' -/
def keyFrom (ahead : List ByteArray) : List ByteArray → Int
  | [] => 0
  | x :: r => if goodKey x = false then 4 else if keyIn ahead x then 5 else keyFrom (ahead ++ [x]) r
def mKeys (l : List ByteArray) : Int := if l.length < 1 ∨ 8 < l.length then 3 else keyFrom [] l
def openReads (l : List MR) : Nat := l.countP (fun r => !r.fin)
def newMR (l : List ByteArray) : MR := { keys := l, asked := fun _ => false, found := fun _ => 0, fin := false }

/-- Read: its number, its error, the store behind it -/
def mRead (s : MS) (l : List ByteArray) : Int × Int × MS :=
  if mKeys l ≠ 0 then (0, mKeys l, s)
  else if 50 ≤ openReads s.rs then (0, 6, s)
  else ((s.rs.length : Int) + 1, 0, { s with rs := s.rs ++ [newMR l] })

/-- the read of a number, if there is one that is not finished -/
def findR (rs : List MR) (n : Int) : Option MR :=
  if n < 1 ∨ (rs.length : Int) < n then none
  else match rs[(n - 1).toNat]? with
    | some r => if r.fin then none else some r
    | none => none
def mFindR (s : MS) (n : Int) : Option MR := findR s.rs n

/-- the greatest of the first k writes that writes the key and is committed on its part -/
def visAt (n : Int) (ws : List MW) (key : ByteArray) : Nat → Nat
  | 0 => 0
  | k + 1 => match ws[k]? with
    | some m => if (hasKey m.items key && m.comm (partOf n key).toNat) = true then k + 1 else visAt n ws key k
    | none => visAt n ws key k
def mVisible (s : MS) (key : ByteArray) : Nat := visAt s.parts s.ws key s.ws.length

def askAt (s : MS) (r : MR) (i : Nat) (key : ByteArray) : MR := { r with asked := put r.asked i, found := fun j => if j = i then mVisible s key else r.found j }
def setR (s : MS) (n : Int) (r : MR) : MS := { s with rs := s.rs.set (n - 1).toNat r }

def mAsk (s : MS) (n : Int) (key : ByteArray) : Int × MS :=
  match mFindR s n with
  | none => (7, s)
  | some r =>
    if keyIx r.keys key < r.keys.length then
      (if r.asked (keyIx r.keys key) then (10, s) else (0, setR s n (askAt s r (keyIx r.keys key) key)))
    else (4, s)

/-- what always holds of a store -/
structure MOk (s : MS) : Prop where
  p1 : 1 ≤ s.parts
  p4 : s.parts ≤ 4
  len : s.ws.length ≤ 200
  items : ∀ (i : Nat) (m : MW), s.ws[i]? = some m → m.items.length ≤ 8 ∧ (∀ x ∈ m.items, goodKV x = true)
  keys : ∀ (i : Nat) (r : MR), s.rs[i]? = some r → 1 ≤ r.keys.length ∧ r.keys.length ≤ 8 ∧ (∀ x ∈ r.keys, goodKey x = true) ∧ r.keys.Nodup
  opn : openReads s.rs ≤ 50

theorem kvCells_at (l : List KV) (k : Nat) (x : KV) (h : l[k]? = some x) : (kvCells l)[k * 2]? = some (.string x.1) ∧ (kvCells l)[k * 2 + 1]? = some (.string x.2) := by
  induction l generalizing k with
  | nil => simp at h
  | cons y r ih =>
    cases k with
    | zero => simp at h; subst h; simp [kvCells]
    | succ k =>
      have := ih k (by simpa using h)
      have e : kvCells (y :: r) = .string y.1 :: .string y.2 :: kvCells r := rfl
      rw [e, show (k + 1) * 2 = k * 2 + 1 + 1 from by omega]
      simpa using this
theorem kvCells_length (l : List KV) : (kvCells l).length = l.length * 2 := by
  induction l with
  | nil => rfl
  | cons y r ih => show (kvCells r).length + 1 + 1 = _; simp [ih]; omega
theorem goodKV_size {x : KV} (h : goodKV x = true) : 1 ≤ x.1.size ∧ x.1.size ≤ 8 ∧ x.2.size ≤ 64 := by
  simp [goodKV, goodKey] at h
  omega

theorem onPart_bd {n : Int} {l : List KV} {p : Int} (hn : 0 < n) (h : onPart n l p = true) : 0 ≤ p ∧ p < n := by
  simp only [onPart, List.any_eq_true, decide_eq_true_eq] at h
  obtain ⟨x, _, hx⟩ := h
  have := partOf_bd n x.1 hn
  omega

theorem check_bad {a r : List KV} {x : KV} (h : goodKV x = false) : checkFrom a (x :: r) = 4 := by simp [checkFrom, h]
theorem check_twice {a r : List KV} {x : KV} (h : goodKV x = true) (h2 : hasKey a x.1 = true) : checkFrom a (x :: r) = 5 := by simp [checkFrom, h, h2]
theorem check_go {a r : List KV} {x : KV} (h : goodKV x = true) (h2 : hasKey a x.1 = false) : checkFrom a (x :: r) = checkFrom (a ++ [x]) r := by simp [checkFrom, h, h2]
theorem check_good {r : List KV} : ∀ {a : List KV}, checkFrom a r = 0 → ∀ x ∈ r, goodKV x = true := by
  induction r with
  | nil => intro a _ x hx; cases hx
  | cons y r ih =>
    intro a h x hx
    simp only [checkFrom] at h
    split at h
    · cases h
    · rename_i hg
      split at h
      · cases h
      · rcases List.mem_cons.1 hx with rfl | hx
        · simpa using hg
        · exact ih h x hx
theorem check_all {L : List KV} {k : Nat} (_ : checkFrom [] L = checkFrom (L.take k) (L.drop k)) (_ : k = L.length) (h0 : mCheck L = 0) (hc : mCheck L = checkFrom [] L) : ∀ x ∈ L, goodKV x = true :=
  check_good (hc.symm.trans h0)
theorem drop_at {L : List KV} {k : Nat} {x : KV} (h : L[k]? = some x) : L.drop k = x :: L.drop (k + 1) := by
  obtain ⟨hk, rfl⟩ := List.getElem?_eq_some_iff.1 h
  exact List.drop_eq_getElem_cons hk
theorem take_at {L : List KV} {k : Nat} {x : KV} (h : L[k]? = some x) : L.take (k + 1) = L.take k ++ [x] := by
  obtain ⟨hk, rfl⟩ := List.getElem?_eq_some_iff.1 h
  exact List.take_succ_eq_append_getElem hk
theorem kvCells_snoc (l : List KV) (x : KV) : kvCells (l ++ [x]) = kvCells l ++ [.string x.1, .string x.2] := by simp [kvCells]
theorem hasKey_none {L : List KV} {k : Nat} {key : ByteArray} (h : ∀ j x, j < k → L[j]? = some x → x.1 ≠ key) : hasKey (L.take k) key = false := by
  simp only [hasKey, List.any_eq_false, decide_eq_true_eq]
  intro x hx
  obtain ⟨j, hj, rfl⟩ := List.mem_iff_getElem.1 hx
  simp only [List.length_take] at hj
  refine h j _ (by omega) ?_
  rw [List.getElem_take]
  exact List.getElem?_eq_getElem (by omega)
theorem hasKey_some {L : List KV} {k j : Nat} {x : KV} {key : ByteArray} (hj : j < k) (hx : L[j]? = some x) (h : x.1 = key) : hasKey (L.take k) key = true := by
  simp only [hasKey, List.any_eq_true, decide_eq_true_eq]
  refine ⟨x, ?_, h⟩
  have : (L.take k)[j]? = some x := by rw [List.getElem?_take_of_lt hj]; exact hx
  exact List.mem_of_getElem? this

theorem hasKey_snoc (l : List KV) (x : KV) (k : ByteArray) : hasKey (l ++ [x]) k = (hasKey l k || decide (x.1 = k)) := by simp [hasKey]

/-- a list of items lies in memory, through a slice: where there is something, in block ib from io on -/
def ItemsAt (w : World) (a : Option Addr) (L : List KV) : Prop :=
  ∀ (k : Nat) (x : KV), L[k]? = some x → ∃ ib io, a = some ⟨ib, io, none⟩ ∧ w.cell? ⟨ib, io + k * 2, none⟩ = some (.string x.1) ∧ w.cell? ⟨ib, io + k * 2 + 1, none⟩ = some (.string x.2)
def sizesOk (L : List KV) : Prop := ∀ x ∈ L, x.1.size ≤ maxLen ∧ x.2.size ≤ maxLen


end Go.Proofs.YteoahlieielcdaaGreat
