/-
  The statements without the document's answer: write, what it makes of a store.
-/
import Derived.Test.YteoahlieielcdaaGreatL1
import Derived.Test.YteoahlieielcdaaGreatK6
namespace Go.Proofs.YteoahlieielcdaaGreat
open Go Go.RowKit Go.MuLone

def kx : ByteArray := ⟨#[120]⟩
def kNo : ByteArray := ⟨#[]⟩
/-- the write that was asked for its number, and cancelled -/
def xW : MW := { newMW [(kx, kNo)] with canc := true }
def valItems (L : List ByteArray) (n : Nat) : List KV := L.map (fun x => (x, x ++ digs n))
def keyItems (L : List ByteArray) : List KV := L.map (fun x => (x, kNo))
def kW (L : List ByteArray) (n : Nat) (pf : Nat → Bool) : MW := { items := valItems L n, prep := pf, comm := fun _ => false, canc := false }
/-- the store behind write: the write is prepared on some parts -/
def wrS (s : MS) (L : List ByteArray) (pf : Nat → Bool) : MS := { s with ws := s.ws ++ [xW, kW L (s.ws.length + 2) pf] }
def xS0 (s : MS) : MS := { s with ws := s.ws ++ [newMW [(kx, kNo)]] }
def xS (s : MS) : MS := { s with ws := s.ws ++ [xW] }

theorem digsTo_size (f : Nat) : ∀ (n : Nat) (s : ByteArray), (digsTo f n s).size ≤ f + s.size := by
  induction f with
  | zero => intro n s; simp [digsTo]
  | succ f ih =>
    intro n s
    unfold digsTo
    split
    · omega
    · refine Nat.le_trans (ih _ _) ?_
      rw [ByteArray.size_append, show (ByteArray.mk #[UInt8.ofNat (48 + n % 10)]).size = 1 from rfl]
      omega
theorem digs_size (n : Nat) : (digs n).size ≤ 20 := digsTo_size 20 n ⟨#[]⟩

theorem valItems_snoc (L : List ByteArray) (x : ByteArray) (n : Nat) : valItems (L ++ [x]) n = valItems L n ++ [(x, x ++ digs n)] := by simp [valItems]
theorem hasKey_val (L : List ByteArray) (n : Nat) (x : ByteArray) : hasKey (valItems L n) x = keyIn L x := by
  simp [hasKey, keyIn, valItems, List.any_map, Function.comp_def]
theorem val_check : ∀ (L A : List ByteArray) (n : Nat), (A ++ L).Nodup → (∀ x ∈ L, goodKey x = true) → checkFrom (valItems A n) (valItems L n) = 0 := by
  intro L
  induction L with
  | nil => intro A n _ _; rfl
  | cons x r ih =>
    intro A n hn hg
    have hgx := hg x (by simp)
    have hz := digs_size n
    have h1 : goodKV (x, x ++ digs n) = true := by
      simp only [goodKV, hgx, Bool.true_and, decide_eq_true_eq, ByteArray.size_append]
      simp [goodKey] at hgx
      omega
    have h2 : hasKey (valItems A n) x = false := by
      rw [hasKey_val]
      simp only [keyIn, List.any_eq_false, decide_eq_true_eq]
      rintro y hy rfl
      have := (List.nodup_append.1 hn).2.2 y hy y (by simp)
      exact this rfl
    show checkFrom (valItems A n) ((x, x ++ digs n) :: valItems r n) = 0
    rw [check_go h1 h2, ← valItems_snoc]
    exact ih (A ++ [x]) n (by simpa using hn) (fun y hy => hg y (by simp [hy]))
theorem val_ok {L : List ByteArray} (n : Nat) (hn : L.Nodup) (hg : ∀ x ∈ L, goodKey x = true) (h1 : 1 ≤ L.length) (h8 : L.length ≤ 8) : mCheck (valItems L n) = 0 := by
  unfold mCheck
  have hvl : (valItems L n).length = L.length := by simp [valItems]
  rw [if_neg (by rw [hvl]; omega)]
  exact val_check L [] n (by simpa using hn) hg

section
variable {s : MS} {L : List ByteArray} {pf : Nat → Bool}

theorem wr_x (h : s.ws.length < 200) : mWrite s [(kx, kNo)] = ((s.ws.length : Int) + 1, 0, xS0 s) := by
  have hc : mCheck [(kx, kNo)] = 0 := by decide +kernel
  unfold mWrite
  rw [if_neg (by rw [hc]; simp), if_neg (by omega)]
  rfl
theorem wr_cancel : mCancel (xS0 s) ((s.ws.length : Int) + 1) = (0, xS s) := by
  have hf : mFind (xS0 s) ((s.ws.length : Int) + 1) = some (newMW [(kx, kNo)]) := by
    unfold mFind
    rw [if_neg (by simp [xS0]; omega), show ((s.ws.length : Int) + 1 - 1).toNat = s.ws.length from by omega]
    simp [xS0, newMW]
  unfold mCancel
  rw [hf]
  simp only [newMW, Bool.or_false, Bool.false_eq_true, if_false]
  unfold setW xS0 xS
  rw [show ((s.ws.length : Int) + 1 - 1).toNat = s.ws.length from by omega]
  simp [xW, newMW]
theorem wr_write (h : s.ws.length + 1 < 200) (hc : mCheck (valItems L (s.ws.length + 2)) = 0) : mWrite (xS s) (valItems L (s.ws.length + 2)) = ((s.ws.length : Int) + 2, 0, wrS s L (fun _ => false)) := by
  unfold mWrite
  rw [if_neg (by rw [hc]; simp), if_neg (by simp [xS]; omega)]
  simp only [xS, wrS, List.length_append, List.length_cons, List.length_nil, Prod.mk.injEq, true_and]
  refine ⟨by omega, ?_⟩
  simp [kW, newMW]
theorem wr_find (h : s.ws.length + 2 ≤ 200) : mFind (wrS s L pf) ((s.ws.length : Int) + 2) = some (kW L (s.ws.length + 2) pf) := by
  unfold mFind
  rw [if_neg (by simp [wrS]; omega), show ((s.ws.length : Int) + 2 - 1).toNat = s.ws.length + 1 from by omega]
  simp [wrS, kW]
theorem onPart_val (P : Int) (L : List ByteArray) (n : Nat) (q : Int) : onPart P (valItems L n) q = L.any (fun x => decide (partOf P x = q)) := by
  simp [onPart, valItems, List.any_map, Function.comp_def]
theorem onPart_ord (P : Nat) (L : List ByteArray) (q : Nat) : ordOn P L q = L.any (fun x => decide (partOf P x = (q : Int))) := by
  simp [ordOn, onPart, ordItems, List.any_map, Function.comp_def]
theorem wr_set (g : MW) : setW (wrS s L pf) ((s.ws.length : Int) + 2) g = { s with ws := s.ws ++ [xW, g] } := by
  unfold setW wrS
  rw [show ((s.ws.length : Int) + 2 - 1).toNat = s.ws.length + 1 from by omega]
  simp
theorem wr_prep (h : s.ws.length + 2 ≤ 200) {x : ByteArray} {p : Nat} (hx : x ∈ L) (hp : partOf s.parts x = p) : mPrepare (wrS s L pf) ((s.ws.length : Int) + 2) p = (if pf p then 10 else 0, wrS s L (put pf p)) := by
  unfold mPrepare
  rw [wr_find h]
  have h1 : onPart (wrS s L pf).parts (kW L (s.ws.length + 2) pf).items p = true := by
    show onPart s.parts (valItems L (s.ws.length + 2)) p = true
    rw [onPart_val, List.any_eq_true]
    exact ⟨x, hx, by simpa using hp⟩
  simp only [h1, Bool.true_eq_false, if_false, Int.toNat_natCast]
  cases hc : pf p with
  | true =>
    have : put pf p = pf := by funext q; unfold put; split <;> simp_all
    have h2 : (kW L (s.ws.length + 2) pf).prep p = true := hc
    simp only [h2, if_true, this]
  | false =>
    have h2 : (kW L (s.ws.length + 2) pf).prep p = false := hc
    simp only [h2, Bool.false_eq_true, if_false, wr_set]
    rfl
end

end Go.Proofs.YteoahlieielcdaaGreat
