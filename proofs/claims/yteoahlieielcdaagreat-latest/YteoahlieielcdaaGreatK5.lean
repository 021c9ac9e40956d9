/-
  The statement Orderly: what the store is, step by step.
-/
import Derived.Test.YteoahlieielcdaaGreatK4
import Derived.Test.YteoahlieielcdaaGreatRef4
namespace Go.Proofs.YteoahlieielcdaaGreat
open Go Go.RowKit Go.MuLone

def vv : ByteArray := ⟨#[118]⟩
def ordItems (L : List ByteArray) : List KV := L.map (fun x => (x, vv))
def ordW (L : List ByteArray) (pf : Nat → Bool) : MW := { items := ordItems L, prep := pf, comm := fun _ => false, canc := false }
/-- the store of Orderly, its write being prepared on some parts; a read that has asked some keys -/
def ordS (P : Nat) (M : Int) (L : List ByteArray) (pf : Nat → Bool) (rs : List MR) : MS := { parts := P, mode := M, ws := [ordW L pf], rs := rs }
def ordR (L : List ByteArray) (j : Nat) : MR := { keys := L, asked := fun q => decide (q < j), found := fun _ => 0, fin := false }

theorem ord_ok : ∀ b, b < 64 → 1 ≤ b → mCheck (ordItems (keysOf b)) = 0 ∧ mKeys (keysOf b) = 0 := by decide +kernel

theorem ord_write {P : Nat} {M : Int} {L : List ByteArray} (h : mCheck (ordItems L) = 0) : mWrite (newMS P M) (ordItems L) = (1, 0, ordS P M L (fun _ => false) []) := by
  unfold mWrite
  rw [if_neg (by rw [h]; simp), if_neg (by simp [newMS])]
  rfl

/-- how many of four -/
def b2n (b : Bool) : Nat := if b then 1 else 0
def cnt4 (f : Nat → Bool) : Nat := b2n (f 0) + b2n (f 1) + b2n (f 2) + b2n (f 3)
def onCells (f : Nat → Bool) : Array Value := #[.bool (f 0), .bool (f 1), .bool (f 2), .bool (f 3)]
theorem b2n_le (b : Bool) : b2n b ≤ 1 := by cases b <;> simp [b2n]
theorem cnt4_le (f : Nat → Bool) : cnt4 f ≤ 4 := by
  have := b2n_le (f 0); have := b2n_le (f 1); have := b2n_le (f 2); have := b2n_le (f 3)
  unfold cnt4; omega
theorem cnt4_put {f : Nat → Bool} {p : Nat} (hp : p < 4) : cnt4 (put f p) = if f p then cnt4 f else cnt4 f + 1 := by
  match p, hp with
  | 0, _ => cases h : f 0 <;> simp [cnt4, put, b2n, h] <;> omega
  | 1, _ => cases h : f 1 <;> simp [cnt4, put, b2n, h] <;> omega
  | 2, _ => cases h : f 2 <;> simp [cnt4, put, b2n, h] <;> omega
  | 3, _ => cases h : f 3 <;> simp [cnt4, put, b2n, h] <;> omega
theorem onCells_put {f : Nat → Bool} {p : Nat} (hp : p < 4) : (onCells f).setIfInBounds p (.bool true) = onCells (put f p) := by
  match p, hp with
  | 0, _ => simp [onCells, put]
  | 1, _ => simp [onCells, put]
  | 2, _ => simp [onCells, put]
  | 3, _ => simp [onCells, put]
theorem onCells_at {f : Nat → Bool} {p : Nat} (hp : p < 4) : (onCells f)[p]? = some (.bool (f p)) := by
  match p, hp with
  | 0, _ => rfl
  | 1, _ => rfl
  | 2, _ => rfl
  | 3, _ => rfl
theorem cnt4_lt {f g : Nat → Bool} (h : cnt4 f < cnt4 g) : ∃ q, q < 4 ∧ g q = true ∧ f q = false := by
  cases h0 : (g 0 && !f 0) <;> cases h1 : (g 1 && !f 1) <;> cases h2 : (g 2 && !f 2) <;> cases h3 : (g 3 && !f 3)
  case false.false.false.false =>
    exfalso
    simp only [Bool.and_eq_false_iff, Bool.not_eq_false'] at h0 h1 h2 h3
    have e : ∀ x y : Bool, (x = false ∨ y = true) → b2n x ≤ b2n y := fun x y hxy => by cases x <;> cases y <;> simp_all [b2n]
    have a0 := e _ _ h0
    have a1 := e _ _ h1
    have a2 := e _ _ h2
    have a3 := e _ _ h3
    unfold cnt4 at h
    omega
  all_goals
    first
    | exact ⟨0, by omega, by simpa using h0⟩
    | exact ⟨1, by omega, by simpa using h1⟩
    | exact ⟨2, by omega, by simpa using h2⟩
    | exact ⟨3, by omega, by simpa using h3⟩

/-- on which parts the first j keys lie -/
def ordOn (P : Nat) (L : List ByteArray) : Nat → Bool := fun q => onPart P (ordItems L) q
theorem ordOn_nil (P : Nat) : ordOn P [] = fun _ => false := by funext q; simp [ordOn, ordItems, onPart]
theorem ordOn_snoc {P : Nat} {L : List ByteArray} {x : ByteArray} {p : Nat} (hp : partOf P x = p) : ordOn P (L ++ [x]) = put (ordOn P L) p := by
  funext q
  simp only [ordOn, ordItems, List.map_append, List.map_cons, List.map_nil, onPart_snoc, put, hp]
  by_cases e : q = p
  · subst e; simp
  · have : ¬ ((p : Int) = (q : Int)) := by omega
    simp [e, this]

section
variable {P : Nat} {M : Int} {L : List ByteArray} {pf : Nat → Bool} {rs : List MR}

theorem ord_prep_off {p : Nat} (h : ordOn P L p = false) : mPrepare (ordS P M L pf rs) 1 p = (8, ordS P M L pf rs) := by
  have hf : mFind (ordS P M L pf rs) 1 = some (ordW L pf) := rfl
  unfold mPrepare
  rw [hf]
  have : onPart (ordS P M L pf rs).parts (ordW L pf).items p = false := h
  simp only [this, if_true]
theorem ord_prep_on {p : Nat} (h : ordOn P L p = true) (hp : pf p = false) : mPrepare (ordS P M L pf rs) 1 p = (0, ordS P M L (put pf p) rs) := by
  have hf : mFind (ordS P M L pf rs) 1 = some (ordW L pf) := rfl
  unfold mPrepare
  rw [hf]
  have h1 : onPart (ordS P M L pf rs).parts (ordW L pf).items p = true := h
  have h2 : (ordW L pf).prep (p : Int).toNat = false := hp
  simp only [h1, h2, Bool.true_eq_false, Bool.false_eq_true, if_false]
  rfl
theorem ord_prep_done {p : Nat} (h : ordOn P L p = true) (hp : pf p = true) : mPrepare (ordS P M L pf rs) 1 p = (10, ordS P M L pf rs) := by
  have hf : mFind (ordS P M L pf rs) 1 = some (ordW L pf) := rfl
  unfold mPrepare
  rw [hf]
  have h1 : onPart (ordS P M L pf rs).parts (ordW L pf).items p = true := h
  have h2 : (ordW L pf).prep (p : Int).toNat = true := hp
  simp only [h1, h2, Bool.true_eq_false, if_false, if_true]
theorem ord_comm_off {p : Nat} (h : ordOn P L p = false) : mCommit (ordS P M L pf rs) 1 p = (8, ordS P M L pf rs) := by
  have hf : mFind (ordS P M L pf rs) 1 = some (ordW L pf) := rfl
  unfold mCommit
  rw [hf]
  have : onPart (ordS P M L pf rs).parts (ordW L pf).items p = false := h
  simp only [this, if_true]
theorem ord_comm_early {p q : Nat} (h : ordOn P L p = true) (hP : 0 < P) (hq : ordOn P L q = true) (hp : pf q = false) : mCommit (ordS P M L pf rs) 1 p = (9, ordS P M L pf rs) := by
  have hf : mFind (ordS P M L pf rs) 1 = some (ordW L pf) := rfl
  unfold mCommit
  rw [hf]
  have h1 : onPart (ordS P M L pf rs).parts (ordW L pf).items p = true := h
  have hqP : q < P := by have := (onPart_bd (n := (P : Int)) (by omega) hq).2; omega
  have h2 : allPrep (ordS P M L pf rs).parts (ordW L pf) = false := allPrep_false hqP hq hp
  simp only [h1, h2, Bool.true_eq_false, if_false, if_true]

theorem ord_bare : ∀ (i : Nat) (m : MW), (ordS P M L pf rs).ws[i]? = some m → ∀ q, m.comm q = false := by
  intro i m hm q
  match i, hm with
  | 0, hm => simp [ordS] at hm; subst hm; rfl
theorem ord_vis (key : ByteArray) : mVisible (ordS P M L pf rs) key = 0 := by
  unfold mVisible
  show visAt _ _ _ 1 = 0
  unfold visAt
  simp [ordS, ordW, visAt]
theorem ordR_new : newMR L = ordR L 0 := by simp [newMR, ordR]
theorem ord_read (h : mKeys L = 0) : mRead (ordS P M L pf []) L = (1, 0, ordS P M L pf [ordR L 0]) := by
  unfold mRead
  rw [if_neg (by rw [h]; simp), if_neg (by simp [ordS, openReads]), ordR_new]
  rfl
theorem ord_findR (j : Nat) : mFindR (ordS P M L pf [ordR L j]) 1 = some (ordR L j) := rfl
theorem ord_ask {j : Nat} {x : ByteArray} (hn : L.Nodup) (hx : L[j]? = some x) : mAsk (ordS P M L pf [ordR L j]) 1 x = (0, ordS P M L pf [ordR L (j + 1)]) := by
  refine (mAsk_ok (ord_findR j) (i := 0) (j := j) rfl (keyIx_nd hn hx) (lt_of_some hx) (by simp [ordR])).trans ?_
  rw [ord_vis]
  have e1 : put (ordR L j).asked j = fun q => decide (q < j + 1) := by
    funext q
    simp only [put, ordR]
    by_cases e : q = j
    · subst e; simp
    · simp only [e, if_false]
      rw [Bool.eq_iff_iff]; simp; omega
  have e2 : (fun q : Nat => if q = j then 0 else (ordR L j).found q) = fun _ => 0 := by funext q; split <;> rfl
  rw [e1, e2]
  rfl
theorem ord_ask_done {j : Nat} {x : ByteArray} (hn : L.Nodup) (hx : L[j]? = some x) : mAsk (ordS P M L pf [ordR L (j + 1)]) 1 x = (10, ordS P M L pf [ordR L (j + 1)]) :=
  mAsk_done (ord_findR (j + 1)) (keyIx_nd hn hx) (lt_of_some hx) (by simp [ordR])
theorem ord_asked : allAsked (ordR L L.length) = true := by simp [allAsked, ordR]
theorem ord_not (h : 1 ≤ L.length) : allAsked (ordR L 0) = false := by
  unfold allAsked
  rw [List.all_eq_false]
  exact ⟨0, List.mem_range.2 (by show 0 < L.length; omega), by simp [ordR]⟩
/-- the read is finished -/
def ordF (L : List ByteArray) : MR := { ordR L L.length with fin := true }
theorem ord_fin : finAt (ordS P M L pf [ordR L L.length]) 0 (ordR L L.length) = ordS P M L pf [ordF L] := rfl
theorem ord_late : mFindR (ordS P M L pf [ordF L]) 1 = none := rfl
/-- the write is cancelled -/
def ordC (P : Nat) (M : Int) (L : List ByteArray) (pf : Nat → Bool) (rs : List MR) : MS := { parts := P, mode := M, ws := [{ ordW L pf with canc := true }], rs := rs }
theorem ord_cancel : mCancel (ordS P M L pf rs) 1 = (0, ordC P M L pf rs) := rfl
theorem ord_cancel2 : mCancel (ordC P M L pf rs) 1 = (7, ordC P M L pf rs) := rfl
def ordE (P : Nat) (M : Int) (L : List ByteArray) (pf : Nat → Bool) (rs : List MR) : MS := { parts := P, mode := M, ws := [{ ordW L pf with canc := true }, newMW (ordItems L)], rs := rs }
theorem ord_write2 (h : mCheck (ordItems L) = 0) : mWrite (ordC P M L pf rs) (ordItems L) = (2, 0, ordE P M L pf rs) := by
  unfold mWrite
  rw [if_neg (by rw [h]; simp), if_neg (by simp [ordC])]
  rfl
theorem ord_commit2 : mCommit (ordE P M L pf rs) 1 0 = (7, ordE P M L pf rs) := rfl
end

/-- the parts that were come to in k rounds -/
def ordVis (a k : Nat) : Nat → Bool := fun q => (List.range k).any (fun j => decide ((a + j) % 4 = q))
theorem ordVis_succ (a k q : Nat) : ordVis a (k + 1) q = (ordVis a k q || decide ((a + k) % 4 = q)) := by simp [ordVis, List.range_succ]
theorem ordVis_new {a k : Nat} (hk : k < 4) : ordVis a k ((a + k) % 4) = false := by
  simp only [ordVis, List.any_eq_false, List.mem_range, decide_eq_true_eq]
  intro j hj
  omega
def ordPf (on : Nat → Bool) (a k : Nat) : Nat → Bool := fun q => on q && ordVis a k q
theorem ordPf_zero (on : Nat → Bool) (a : Nat) : ordPf on a 0 = fun _ => false := by funext q; simp [ordPf, ordVis]
theorem ordPf_on {on : Nat → Bool} {a k : Nat} (h : on ((a + k) % 4) = true) : ordPf on a (k + 1) = put (ordPf on a k) ((a + k) % 4) := by
  funext q
  simp only [ordPf, ordVis_succ, put]
  by_cases e : q = (a + k) % 4
  · subst e; simp [h]
  · have : ¬ ((a + k) % 4 = q) := fun e' => e e'.symm
    simp [e, this]
theorem ordPf_off {on : Nat → Bool} {a k : Nat} (h : on ((a + k) % 4) = false) : ordPf on a (k + 1) = ordPf on a k := by
  funext q
  simp only [ordPf, ordVis_succ]
  by_cases e : (a + k) % 4 = q
  · subst e; simp [h]
  · simp [e]
theorem ordPf_new {on : Nat → Bool} {a k : Nat} (hk : k < 4) : ordPf on a k ((a + k) % 4) = false := by simp [ordPf, ordVis_new hk]

end Go.Proofs.YteoahlieielcdaaGreat
