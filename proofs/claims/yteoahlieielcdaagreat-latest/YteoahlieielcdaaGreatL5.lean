/-
  The statement Latest: what the store is, step by step.
-/
import Derived.Test.YteoahlieielcdaaGreatL4
namespace Go.Proofs.YteoahlieielcdaaGreat
open Go Go.RowKit Go.MuLone

/-- the keys of write number k (from 0 on) -/
def latL (k : Nat) : List ByteArray := keysOf (1 + k * 7 % 63) ++ [kK]
def latComm (p : Nat) (b : Bool) : Nat → Bool := fun q => b && decide (q = p)
def latW (P k : Nat) (p : Nat) (b : Bool) : MW := { items := valItems (latL k) (2 * k + 2), prep := ordOn P (latL k), comm := latComm p b, canc := false }
/-- the first k writes, some of them being committed on part p -/
def latWs (P p : Nat) (cm : Nat → Bool) : Nat → List MW
  | 0 => []
  | k + 1 => latWs P p cm k ++ [xW, latW P k p (cm k)]
def latS (P : Nat) (M : Int) (p : Nat) (cm : Nat → Bool) (k : Nat) (rs : List MR) : MS := { parts := P, mode := M, ws := latWs P p cm k, rs := rs }
/-- the greatest of the first k that are committed -/
def bestTo (cm : Nat → Bool) : Nat → Nat
  | 0 => 0
  | k + 1 => if cm k then 2 * k + 2 else bestTo cm k

theorem latL_ok : ∀ k, k < 8 → (latL k).Nodup ∧ (∀ x ∈ latL k, goodKey x = true) ∧ 1 ≤ (latL k).length ∧ (latL k).length ≤ 8 := by decide +kernel
theorem kK_in (k : Nat) : kK ∈ latL k := by simp [latL]

section
variable {P p : Nat} {M : Int} {cm : Nat → Bool} {k : Nat} {rs : List MR}

theorem latWs_len (P p : Nat) (cm : Nat → Bool) (k : Nat) : (latWs P p cm k).length = 2 * k := by
  induction k with
  | zero => rfl
  | succ k ih => simp [latWs, ih]; omega
theorem latWs_at {j : Nat} (hj : j < k) : (latWs P p cm k)[2 * j]? = some xW ∧ (latWs P p cm k)[2 * j + 1]? = some (latW P j p (cm j)) := by
  induction k with
  | zero => omega
  | succ k ih =>
    have hl := latWs_len P p cm k
    simp only [latWs]
    by_cases e : j < k
    · obtain ⟨h1, h2⟩ := ih e
      rw [List.getElem?_append_left (by omega), List.getElem?_append_left (by omega)]
      exact ⟨h1, h2⟩
    · have : j = k := by omega
      subst this
      rw [List.getElem?_append_right (by omega), List.getElem?_append_right (by omega), hl, show 2 * j - 2 * j = 0 from by omega, show 2 * j + 1 - 2 * j = 1 from by omega]
      exact ⟨rfl, rfl⟩
theorem latWs_ext {cm' : Nat → Bool} (h : ∀ j, j < k → cm' j = cm j) : latWs P p cm' k = latWs P p cm k := by
  induction k with
  | zero => rfl
  | succ k ih => simp only [latWs]; rw [ih (fun j hj => h j (by omega)), h k (by omega)]
theorem latWs_set {j : Nat} (hj : j < k) : (latWs P p cm k).set (2 * j + 1) (latW P j p true) = latWs P p (put cm j) k := by
  induction k with
  | zero => omega
  | succ k ih =>
    have hl := latWs_len P p cm k
    simp only [latWs]
    by_cases e : j < k
    · rw [List.set_append_left _ _ (by omega), ih e]
      have : put cm j k = cm k := by unfold put; rw [if_neg (by omega)]
      rw [this]
    · have : j = k := by omega
      subst this
      rw [List.set_append_right _ _ (by omega), hl, show 2 * j + 1 - 2 * j = 1 from by omega, latWs_ext (cm := cm) (cm' := put cm j) (fun i hi => by unfold put; rw [if_neg (by omega)])]
      simp [put]

theorem lat_new : newMS P M = latS P M p cm 0 [] := rfl
theorem lat_len : (latS P M p cm k rs).ws.length = 2 * k := latWs_len _ _ _ _
theorem lat_write (hk : cm k = false) : wrS (latS P M p cm k rs) (latL k) (ordOn P (latL k)) = latS P M p cm (k + 1) rs := by
  unfold wrS
  rw [lat_len]
  simp only [latS, latWs, hk]
  have : kW (latL k) (2 * k + 2) (ordOn P (latL k)) = latW P k p false := by
    unfold kW latW
    have : (fun _ : Nat => false) = latComm p false := by funext q; simp [latComm]
    rw [this]
  rw [this]
theorem lat_find {j : Nat} (hj : j < k) : mFind (latS P M p cm k rs) ((2 * j + 2 : Nat) : Int) = some (latW P j p (cm j)) := by
  unfold mFind
  rw [if_neg (by rw [lat_len]; omega), show (((2 * j + 2 : Nat) : Int) - 1).toNat = 2 * j + 1 from by omega]
  show (match (latWs P p cm k)[2 * j + 1]? with | some m => if m.canc then none else some m | none => none) = _
  rw [(latWs_at hj).2]
  rfl
theorem lat_on (hp : partOf P kK = p) {j : Nat} {b : Bool} : onPart P (latW P j p b).items p = true := by
  show onPart P (valItems (latL j) (2 * j + 2)) p = true
  rw [onPart_val, List.any_eq_true]
  exact ⟨kK, kK_in j, by simpa using hp⟩
theorem lat_all {j : Nat} {b : Bool} : allPrep P (latW P j p b) = true := by
  unfold allPrep
  rw [List.all_eq_true]
  intro q _
  have : onPart P (latW P j p b).items q = (latW P j p b).prep q := by
    show onPart P (valItems (latL j) (2 * j + 2)) q = ordOn P (latL j) q
    rw [onPart_val, onPart_ord]
  rw [this]
  cases (latW P j p b).prep q <;> rfl
theorem lat_commit {j : Nat} (hj : j < k) : cmS (latS P M p cm k rs) ((2 * j + 2 : Nat) : Int) (latW P j p (cm j)) p = latS P M p (put cm j) k rs := by
  unfold cmS setW latS
  rw [show (((2 * j + 2 : Nat) : Int) - 1).toNat = 2 * j + 1 from by omega, ← latWs_set hj]
  have : ({ latW P j p (cm j) with comm := put (latW P j p (cm j)).comm p } : MW) = latW P j p true := by
    have : put (latComm p (cm j)) p = latComm p true := by
      funext q
      simp only [put, latComm]
      by_cases e : q = p <;> simp [e]
    unfold latW
    simp only [this]
  rw [this]
theorem lat_vis (hp : partOf P kK = p) : ∀ n, n ≤ k → visAt P (latWs P p cm k) kK (2 * n) = bestTo cm n := by
  intro n
  induction n with
  | zero => intro _; rfl
  | succ n ih =>
    intro hn
    obtain ⟨h1, h2⟩ := latWs_at (P := P) (p := p) (cm := cm) (show n < k by omega)
    rw [show 2 * (n + 1) = 2 * n + 1 + 1 from by omega]
    have hx : hasKey xW.items kK = false := by decide +kernel
    have hy : hasKey (latW P n p (cm n)).items kK = true := by
      show hasKey (valItems (latL n) (2 * n + 2)) kK = true
      rw [hasKey_val]
      simp only [keyIn, List.any_eq_true, decide_eq_true_eq]
      exact ⟨kK, kK_in n, rfl⟩
    have hz : (latW P n p (cm n)).comm (partOf (P : Int) kK).toNat = cm n := by
      rw [hp]
      show latComm p (cm n) (p : Int).toNat = cm n
      simp [latComm]
    simp only [visAt, h1, h2, hx, hy, hz, Bool.true_and, Bool.false_and, Bool.false_eq_true, if_false]
    simp only [bestTo]
    rw [ih (by omega)]
theorem lat_visible (hp : partOf P kK = p) : mVisible (latS P M p cm k rs) kK = bestTo cm k := by
  unfold mVisible
  rw [lat_len]
  exact lat_vis hp k (Nat.le_refl _)
theorem best_le (cm : Nat → Bool) (k : Nat) : bestTo cm k ≤ 2 * k := by
  induction k with
  | zero => simp [bestTo]
  | succ k ih => simp only [bestTo]; split <;> omega
theorem best_on {k : Nat} (h : cm k = true) : bestTo cm (k + 1) = 2 * k + 2 := by simp [bestTo, h]
theorem best_off {k : Nat} (h : cm k = false) : bestTo cm (k + 1) = bestTo cm k := by simp [bestTo, h]
theorem best_ext {cm' : Nat → Bool} (h : ∀ j, j < k → cm' j = cm j) : bestTo cm' k = bestTo cm k := by
  induction k with
  | zero => rfl
  | succ k ih => simp only [bestTo]; rw [ih (fun j hj => h j (by omega)), h k (by omega)]
theorem best_put {j : Nat} (hj : j < k) : bestTo (put cm j) k = if bestTo cm k < 2 * j + 2 then 2 * j + 2 else bestTo cm k := by
  induction k with
  | zero => omega
  | succ k ih =>
    have hb := best_le cm k
    by_cases e : j < k
    · have h1 : put cm j k = cm k := by unfold put; rw [if_neg (by omega)]
      cases hc : cm k with
      | true =>
        rw [best_on (h1.trans hc), best_on hc, if_neg (by omega)]
      | false =>
        rw [best_off (h1.trans hc), best_off hc]
        exact ih e
    · have : j = k := by omega
      subst this
      have h1 : put cm j j = true := by simp [put]
      rw [best_on h1]
      cases hc : cm j with
      | true => rw [best_on hc, if_neg (by omega)]
      | false => rw [best_off hc, if_pos (by omega)]
theorem best_form (cm : Nat → Bool) (k : Nat) (h : bestTo cm k ≠ 0) : ∃ j, j < k ∧ bestTo cm k = 2 * j + 2 ∧ cm j = true := by
  induction k with
  | zero => exact absurd rfl h
  | succ k ih =>
    simp only [bestTo] at h ⊢
    by_cases e : cm k
    · exact ⟨k, by omega, by simp [e], e⟩
    · rw [if_neg e] at h ⊢
      obtain ⟨j, h1, h2, h3⟩ := ih h
      exact ⟨j, by omega, h2, h3⟩
theorem val_find (n : Nat) (x : ByteArray) : ∀ {L : List ByteArray}, x ∈ L → (valItems L n).find? (fun y => decide (y.1 = x)) = some (x, x ++ digs n) := by
  intro L
  induction L with
  | nil => intro h; cases h
  | cons y r ih =>
    intro h
    show List.find? _ ((y, y ++ digs n) :: valItems r n) = _
    by_cases e : y = x
    · subst e; simp
    · rw [List.find?_cons_of_neg (by simpa using e)]
      rcases List.mem_cons.1 h with h | h
      · exact absurd h.symm e
      · exact ih h
theorem lat_val {c : Nat} (hc : c = bestTo cm k) : ansVal (latS P M p cm k rs) c kK = if c = 0 then ⟨#[]⟩ else kK ++ digs c := by
  unfold ansVal
  split
  · rfl
  · rename_i h0
    subst hc
    obtain ⟨j, hj, e, _⟩ := best_form cm k h0
    rw [e, show 2 * j + 2 - 1 = 2 * j + 1 from by omega]
    show (((latWs P p cm k)[2 * j + 1]?).bind (fun m => valueIn m.items kK)).getD _ = _
    rw [(latWs_at hj).2]
    show ((valueIn (valItems (latL j) (2 * j + 2)) kK)).getD _ = _
    unfold valueIn
    rw [val_find _ _ (kK_in j)]
    rfl
/-- all reads are finished -/
def AllFin (rs : List MR) : Prop := ∀ r ∈ rs, r.fin = true
theorem allFin_open {rs : List MR} (h : AllFin rs) : openReads rs = 0 := by
  unfold openReads
  rw [List.countP_eq_zero]
  intro r hr
  simp [h r hr]
theorem kK_keys : mKeys [kK] = 0 := by decide +kernel
theorem kK_nd : ([kK] : List ByteArray).Nodup := by decide +kernel
/-- a read of the one key: not asked; asked, this being its candidate; finished -/
def lrNew : MR := newMR [kK]
def lrAsk (c : Nat) : MR := { keys := [kK], asked := put (fun _ => false) 0, found := fun j => if j = 0 then c else 0, fin := false }
def lrFin (c : Nat) : MR := { lrAsk c with fin := true }
theorem lat_read (ho : openReads rs < 50) : mRead (latS P M p cm k rs) [kK] = ((rs.length : Int) + 1, 0, latS P M p cm k (rs ++ [lrNew])) := by
  unfold mRead
  rw [if_neg (by rw [kK_keys]; simp), if_neg (by show ¬ 50 ≤ openReads rs; omega)]
  rfl
theorem findR_at {rs : List MR} {i : Nat} {r : MR} (hr : rs[i]? = some r) (hf : r.fin = false) : findR rs ((i : Int) + 1) = some r := by
  have hi := lt_of_some hr
  unfold findR
  rw [if_neg (by omega), show ((i : Int) + 1 - 1).toNat = i from by omega, hr]
  simp [hf]
theorem lat_ask (hp : partOf P kK = p) {i : Nat} (hr : rs[i]? = some lrNew) : mAsk (latS P M p cm k rs) ((i : Int) + 1) kK = (0, latS P M p cm k (rs.set i (lrAsk (bestTo cm k)))) := by
  have hf : mFindR (latS P M p cm k rs) ((i : Int) + 1) = some lrNew := findR_at hr rfl
  refine (mAsk_ok hf (i := i) (j := 0) (by omega) (keyIx_nd kK_nd rfl) (by decide) (by rfl)).trans ?_
  rw [lat_visible hp]
  rfl
theorem lrAsk_all (c : Nat) : allAsked (lrAsk c) = true := by rfl
theorem lat_fin {i : Nat} (c : Nat) : finAt (latS P M p cm k rs) i (lrAsk c) = latS P M p cm k (rs.set i (lrFin c)) := rfl
theorem lr_open {c : Nat} (h : AllFin rs) : openReads (rs ++ [lrAsk c]) < 50 := by
  have := allFin_open h
  unfold openReads at this ⊢
  rw [List.countP_append, this]
  show 0 + List.countP (fun r : MR => !r.fin) [lrAsk c] < 50
  simp [lrAsk]
theorem lr_key (c : Nat) : ¬ 1 < (lrAsk c).keys.length := by show ¬ 1 < 1; omega
theorem lr_fin {a c : Nat} (h : AllFin rs) : AllFin (rs ++ [lrFin a, lrFin c]) := by
  intro r hr
  rcases List.mem_append.1 hr with h1 | h1
  · exact h r h1
  · simp at h1
    rcases h1 with rfl | rfl <;> rfl
theorem lr_at {a b : MR} : (rs ++ [a] ++ [b])[(rs ++ [a]).length]? = some b := by simp
theorem lr_at0 {a b : MR} : (rs ++ [a] ++ [b])[rs.length]? = some a := by simp
end

end Go.Proofs.YteoahlieielcdaaGreat
