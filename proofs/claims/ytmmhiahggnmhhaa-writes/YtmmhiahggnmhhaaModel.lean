/-
  The document's answer as plain functions: writes as lists, parts as numbers. No program is named here.
-/
import Derived.Test.YtmmhiahggnmhhaaLaws
namespace Go.Proofs.Ytmmhiahggnmhhaa
open Go Go.RowKit

/-- the sum of a text's bytes -/
def byteSum (l : List UInt8) : Int := (l.map (fun c => (c.toNat : Int))).sum
theorem byteSum_snoc (l : List UInt8) (c : UInt8) : byteSum (l ++ [c]) = byteSum l + (c.toNat : Int) := by simp [byteSum]
theorem byteSum_bd (l : List UInt8) : 0 ≤ byteSum l ∧ byteSum l ≤ 255 * l.length := by
  induction l with
  | nil => simp [byteSum]
  | cons c r ih =>
    have := c.toNat_lt
    simp [byteSum] at ih ⊢
    omega
theorem take_snoc (s : ByteArray) (k : Nat) (h : k < s.size) : s.data.toList.take (k + 1) = s.data.toList.take k ++ [s[k]] := by
  rw [List.take_succ_eq_append_getElem (by simpa using h)]; rfl

/-- the part of a key, of n parts -/
def partOf (n : Int) (s : ByteArray) : Int := byteSum s.data.toList % n
theorem partOf_bd (n : Int) (s : ByteArray) (hn : 0 < n) : 0 ≤ partOf n s ∧ partOf n s < n := ⟨Int.emod_nonneg _ (by omega), Int.emod_lt_of_pos _ hn⟩

/-- pick: which of n things the raw number speaks of -/
def pickOf (c n : Int) : Int := (if c < 0 then -(c + 1) else c) % n
theorem pick_neg (c n : Int) (h : c < 0) : -(c + 1).tmod n = pickOf c n := by
  simp only [pickOf, if_pos h]
  rw [← Int.neg_tmod, Int.tmod_eq_emod_of_nonneg (by omega)]
theorem pick_pos (c n : Int) (h : ¬ c < 0) : c % n = pickOf c n := by simp only [pickOf, if_neg h]
theorem pick_bd (c n : Int) (hn : 0 < n) : 0 ≤ pickOf c n ∧ pickOf c n < n := ⟨Int.emod_nonneg _ (by omega), Int.emod_lt_of_pos _ hn⟩

abbrev KV := ByteArray × ByteArray

def kvCells (l : List KV) : List Value := l.flatMap (fun x => [.string x.1, .string x.2])
def goodKey (s : ByteArray) : Bool := decide (1 ≤ s.size) && decide (s.size ≤ 8)
def goodKV (x : KV) : Bool := goodKey x.1 && decide (x.2.size ≤ 64)
def hasKey (l : List KV) (k : ByteArray) : Bool := l.any (fun x => decide (x.1 = k))

/-- a write: its items; where it is prepared, where committed; was it cancelled? -/
structure MW where
  items : List KV
  prep : Nat → Bool
  comm : Nat → Bool
  canc : Bool

/-- a store: how many parts; its mode; all writes -/
structure MS where
  parts : Nat
  mode : Int
  ws : List MW

/-- does a write write on a part? -/
def onPart (n : Int) (l : List KV) (p : Int) : Bool := l.any (fun x => decide (partOf n x.1 = p))

/-- what P3 says of a list of items, looked at behind 'ahead' -/
def checkFrom (ahead : List KV) : List KV → Int
  | [] => 0
  | x :: r => if goodKV x = false then 4 else if hasKey ahead x.1 then 5 else checkFrom (ahead ++ [x]) r

def mCheck (l : List KV) : Int := if l.length < 1 ∨ 8 < l.length then 3 else checkFrom [] l

def newMW (l : List KV) : MW := { items := l, prep := fun _ => false, comm := fun _ => false, canc := false }

/-- Write: its number, its error, the store behind it -/
def mWrite (s : MS) (l : List KV) : Int × Int × MS :=
  if mCheck l ≠ 0 then (0, mCheck l, s)
  else if 200 ≤ s.ws.length then (0, 6, s)
  else ((s.ws.length : Int) + 1, 0, { s with ws := s.ws ++ [newMW l] })

/-- the write of a number, if there is one that is not cancelled -/
def mFind (s : MS) (n : Int) : Option MW :=
  if n < 1 ∨ (s.ws.length : Int) < n then none
  else match s.ws[(n - 1).toNat]? with
    | some m => if m.canc then none else some m
    | none => none

def setW (s : MS) (n : Int) (m : MW) : MS := { s with ws := s.ws.set (n - 1).toNat m }
def put (f : Nat → Bool) (p : Nat) : Nat → Bool := fun q => if q = p then true else f q

def mPrepare (s : MS) (n p : Int) : Int × MS :=
  match mFind s n with
  | none => (7, s)
  | some m =>
    if onPart s.parts m.items p = false then (8, s)
    else if m.prep p.toNat then (10, s)
    else (0, setW s n { m with prep := put m.prep p.toNat })

/-- is it prepared on all its parts? -/
def allPrep (n : Nat) (m : MW) : Bool := (List.range n).all (fun p => !onPart n m.items p || m.prep p)

def mCommit (s : MS) (n p : Int) : Int × MS :=
  match mFind s n with
  | none => (7, s)
  | some m =>
    if onPart s.parts m.items p = false then (8, s)
    else if allPrep s.parts m = false then (9, s)
    else if m.comm p.toNat then (10, s)
    else (0, setW s n { m with comm := put m.comm p.toNat })

def mCancel (s : MS) (n : Int) : Int × MS :=
  match mFind s n with
  | none => (7, s)
  | some m =>
    if m.comm 0 || m.comm 1 || m.comm 2 || m.comm 3 then (9, s)
    else (0, setW s n { m with canc := true })

/-- what always holds of a store -/
structure MOk (s : MS) : Prop where
  p1 : 1 ≤ s.parts
  p4 : s.parts ≤ 4
  len : s.ws.length ≤ 200
  items : ∀ (i : Nat) (m : MW), s.ws[i]? = some m → m.items.length ≤ 8 ∧ (∀ x ∈ m.items, goodKV x = true)

theorem kvCells_at (l : List KV) (k : Nat) (x : KV) (h : l[k]? = some x) : (kvCells l)[k * 2]? = some (.string x.1) ∧ (kvCells l)[k * 2 + 1]? = some (.string x.2) := by
  induction l generalizing k with
  | nil => simp at h
  | cons y r ih =>
    cases k with
    | zero => simp at h; subst h; simp [kvCells]
    | succ k =>
      have := ih k (by simpa using h)
      have e : kvCells (y :: r) = .string y.1 :: .string y.2 :: kvCells r := rfl
      rw [e, show (k + 1) * 2 = k * 2 + 1 + 1 from by omega]
      simpa using this
theorem kvCells_length (l : List KV) : (kvCells l).length = l.length * 2 := by
  induction l with
  | nil => rfl
  | cons y r ih => show (kvCells r).length + 1 + 1 = _; simp [ih]; omega
theorem goodKV_size {x : KV} (h : goodKV x = true) : 1 ≤ x.1.size ∧ x.1.size ≤ 8 ∧ x.2.size ≤ 64 := by
  simp [goodKV, goodKey] at h
  omega

theorem onPart_bd {n : Int} {l : List KV} {p : Int} (hn : 0 < n) (h : onPart n l p = true) : 0 ≤ p ∧ p < n := by
  simp only [onPart, List.any_eq_true, decide_eq_true_eq] at h
  obtain ⟨x, _, hx⟩ := h
  have := partOf_bd n x.1 hn
  omega

theorem check_bad {a r : List KV} {x : KV} (h : goodKV x = false) : checkFrom a (x :: r) = 4 := by simp [checkFrom, h]
theorem check_twice {a r : List KV} {x : KV} (h : goodKV x = true) (h2 : hasKey a x.1 = true) : checkFrom a (x :: r) = 5 := by simp [checkFrom, h, h2]
theorem check_go {a r : List KV} {x : KV} (h : goodKV x = true) (h2 : hasKey a x.1 = false) : checkFrom a (x :: r) = checkFrom (a ++ [x]) r := by simp [checkFrom, h, h2]
theorem check_good {r : List KV} : ∀ {a : List KV}, checkFrom a r = 0 → ∀ x ∈ r, goodKV x = true := by
  induction r with
  | nil => intro a _ x hx; cases hx
  | cons y r ih =>
    intro a h x hx
    simp only [checkFrom] at h
    split at h
    · cases h
    · rename_i hg
      split at h
      · cases h
      · rcases List.mem_cons.1 hx with rfl | hx
        · simpa using hg
        · exact ih h x hx
theorem check_all {L : List KV} {k : Nat} (_ : checkFrom [] L = checkFrom (L.take k) (L.drop k)) (_ : k = L.length) (h0 : mCheck L = 0) (hc : mCheck L = checkFrom [] L) : ∀ x ∈ L, goodKV x = true :=
  check_good (hc.symm.trans h0)
theorem drop_at {L : List KV} {k : Nat} {x : KV} (h : L[k]? = some x) : L.drop k = x :: L.drop (k + 1) := by
  obtain ⟨hk, rfl⟩ := List.getElem?_eq_some_iff.1 h
  exact List.drop_eq_getElem_cons hk
theorem take_at {L : List KV} {k : Nat} {x : KV} (h : L[k]? = some x) : L.take (k + 1) = L.take k ++ [x] := by
  obtain ⟨hk, rfl⟩ := List.getElem?_eq_some_iff.1 h
  exact List.take_succ_eq_append_getElem hk
theorem kvCells_snoc (l : List KV) (x : KV) : kvCells (l ++ [x]) = kvCells l ++ [.string x.1, .string x.2] := by simp [kvCells]
theorem hasKey_none {L : List KV} {k : Nat} {key : ByteArray} (h : ∀ j x, j < k → L[j]? = some x → x.1 ≠ key) : hasKey (L.take k) key = false := by
  simp only [hasKey, List.any_eq_false, decide_eq_true_eq]
  intro x hx
  obtain ⟨j, hj, rfl⟩ := List.mem_iff_getElem.1 hx
  simp only [List.length_take] at hj
  refine h j _ (by omega) ?_
  rw [List.getElem_take]
  exact List.getElem?_eq_getElem (by omega)
theorem hasKey_some {L : List KV} {k j : Nat} {x : KV} {key : ByteArray} (hj : j < k) (hx : L[j]? = some x) (h : x.1 = key) : hasKey (L.take k) key = true := by
  simp only [hasKey, List.any_eq_true, decide_eq_true_eq]
  refine ⟨x, ?_, h⟩
  have : (L.take k)[j]? = some x := by rw [List.getElem?_take_of_lt hj]; exact hx
  exact List.mem_of_getElem? this

theorem hasKey_snoc (l : List KV) (x : KV) (k : ByteArray) : hasKey (l ++ [x]) k = (hasKey l k || decide (x.1 = k)) := by simp [hasKey]

/-- a list of items lies in memory, through a slice: where there is something, in block ib from io on -/
def ItemsAt (w : World) (a : Option Addr) (L : List KV) : Prop :=
  ∀ (k : Nat) (x : KV), L[k]? = some x → ∃ ib io, a = some ⟨ib, io, none⟩ ∧ w.cell? ⟨ib, io + k * 2, none⟩ = some (.string x.1) ∧ w.cell? ⟨ib, io + k * 2 + 1, none⟩ = some (.string x.2)
def sizesOk (L : List KV) : Prop := ∀ x ∈ L, x.1.size ≤ maxLen ∧ x.2.size ≤ maxLen


end Go.Proofs.Ytmmhiahggnmhhaa
