/-
  The statement Full: as many writes as there may be, as many open reads.
-/
import Derived.Test.YteoahlieielcdaaGreatK1
namespace Go.Proofs.YteoahlieielcdaaGreat
open Go Go.RowKit Go.MuLone

theorem pickK_nat (on : Int) (n : Nat) (hn : 0 < n) : ∃ p : Nat, p < n ∧ pickOf on n = (p : Int) := by
  obtain ⟨h1, h2⟩ := pick_bd on n (by omega)
  exact ⟨(pickOf on n).toNat, by omega, by omega⟩

def kA : ByteArray := ⟨#[97]⟩
def kB : ByteArray := ⟨#[98]⟩
def kE : ByteArray := ⟨#[]⟩

/-- nothing is committed -/
def bareMS (s : MS) : Prop := ∀ (i : Nat) (m : MW), s.ws[i]? = some m → ∀ q, m.comm q = false

theorem vis_none {s : MS} (h : bareMS s) (key : ByteArray) : mVisible s key = 0 := by
  unfold mVisible
  generalize s.ws.length = k
  induction k with
  | zero => rfl
  | succ k ih =>
    unfold visAt
    cases hm : s.ws[k]? with
    | none => simpa using ih
    | some m => simp only [h k m hm, Bool.and_false, Bool.false_eq_true, if_false]; exact ih

/-- the store in the first loop of Full -/
structure FullI (s : MS) (k : Nat) : Prop where
  len : s.ws.length + 1 = k
  mode : s.mode = 1
  rs : s.rs = []
  nc : bareMS s

theorem full_write {s : MS} {k : Nat} (h : FullI s k) (hk : k ≤ 200) : mWrite s [(kA, kE)] = ((k : Int), 0, pushMS s [(kA, kE)]) := by
  have hl := h.len
  have hc : mCheck [(kA, kE)] = 0 := rfl
  unfold mWrite
  rw [if_neg (by rw [hc]; simp), if_neg (by omega)]
  rw [show ((s.ws.length : Int) + 1) = (k : Int) from by omega]; rfl
theorem full_full {s : MS} (h : FullI s 201) : mWrite s [(kA, kE)] = (0, 6, s) := by
  have hl := h.len
  have hc : mCheck [(kA, kE)] = 0 := rfl
  unfold mWrite
  rw [if_neg (by rw [hc]; simp), if_pos (by omega)]
theorem full_push {s : MS} {k : Nat} (h : FullI s k) : FullI (pushMS s [(kA, kE)]) (k + 1) := by
  refine ⟨?_, h.mode, h.rs, fun i m hm q => ?_⟩
  · have := h.len
    simp [pushMS]; omega
  · rcases push_get hm with ⟨_, e⟩ | ⟨_, rfl⟩
    · exact h.nc i m e q
    · rfl
theorem full_find {s : MS} {k : Nat} (h : FullI s k) : mFind (pushMS s [(kA, kE)]) k = some (newMW [(kA, kE)]) := by
  have := mFind_push_new (s := s) (L := [(kA, kE)])
  rw [show ((s.ws.length : Int) + 1) = (k : Int) from by have := h.len; omega] at this
  exact this
theorem full_cancel {s : MS} {k : Nat} (h : FullI s k) : mCancel (pushMS s [(kA, kE)]) k = (0, setW (pushMS s [(kA, kE)]) k { newMW [(kA, kE)] with canc := true }) := by
  unfold mCancel
  rw [full_find h]
  simp [newMW]
theorem full_canc {s : MS} {k : Nat} (h : FullI s k) : FullI (setW (pushMS s [(kA, kE)]) k { newMW [(kA, kE)] with canc := true }) (k + 1) := by
  have hp := full_push h
  refine ⟨?_, hp.mode, hp.rs, fun i m hm q => ?_⟩
  · have := hp.len
    simpa [setW] using this
  · rw [setW_eq] at hm
    rcases set_get hm with ⟨_, rfl⟩ | ⟨_, e⟩
    · rfl
    · exact hp.nc i m e q

/-- the store in the second loop of Full -/
structure FullR (s : MS) (k : Nat) : Prop where
  rs : s.rs = List.replicate k (newMR [kA, kB])
  mode : s.mode = 1
  nc : bareMS s
theorem openReads_rep (k : Nat) (L : List ByteArray) : openReads (List.replicate k (newMR L)) = k := by
  unfold openReads
  rw [List.countP_replicate]
  simp [newMR]
theorem full_read {s : MS} {k : Nat} (h : FullR s k) (hk : k < 50) : mRead s [kA, kB] = ((k : Int) + 1, 0, { s with rs := s.rs ++ [newMR [kA, kB]] }) := by
  have hc : mKeys [kA, kB] = 0 := rfl
  unfold mRead
  rw [if_neg (by rw [hc]; simp), if_neg (by rw [h.rs, openReads_rep]; omega), h.rs, List.length_replicate]
theorem full_readS {s : MS} {k : Nat} (h : FullR s k) : FullR { s with rs := s.rs ++ [newMR [kA, kB]] } (k + 1) :=
  ⟨by show s.rs ++ _ = _; rw [h.rs, List.replicate_succ'], h.mode, h.nc⟩
theorem full_readF {s : MS} (h : openReads s.rs = 50) : mRead s [kA] = (0, 6, s) := by
  have hc : mKeys [kA] = 0 := rfl
  unfold mRead
  rw [if_neg (by rw [hc]; simp), if_pos (by omega)]

def fr1 : MR := { newMR [kA, kB] with asked := put (newMR [kA, kB]).asked 1, found := fun _ => 0 }
def fr2 : MR := { newMR [kA, kB] with asked := put fr1.asked 0, found := fun _ => 0 }
theorem found_zero (j : Nat) (f : Nat → Nat) (h : f = fun _ => 0) : (fun q => if q = j then 0 else f q) = fun _ => 0 := by
  subst h; funext q; split <;> rfl
theorem full_ask1 {s : MS} (h : FullR s 50) {K : Nat} (hK : K < 50) : mAsk s ((K : Int) + 1) kB = (0, { s with rs := s.rs.set K fr1 }) := by
  have hf : mFindR s ((K : Int) + 1) = some (newMR [kA, kB]) := by
    unfold mFindR findR
    rw [h.rs, List.length_replicate, if_neg (by omega), show ((K : Int) + 1 - 1).toNat = K from by omega, List.getElem?_replicate, if_pos hK]
    rfl
  refine (mAsk_ok hf (i := K) (j := 1) (by omega) rfl (by decide) rfl).trans ?_
  have e : (fun q : Nat => if q = 1 then 0 else (newMR [kA, kB]).found q) = fun _ => 0 := found_zero 1 _ rfl
  rw [vis_none h.nc, e]
  rfl
theorem full_ask2 {s : MS} (h : FullR s 50) {K : Nat} (hK : K < 50) : mAsk { s with rs := s.rs.set K fr1 } ((K : Int) + 1) kA = (0, { s with rs := s.rs.set K fr2 }) := by
  have hl : s.rs.length = 50 := by rw [h.rs, List.length_replicate]
  have hf : mFindR { s with rs := s.rs.set K fr1 } ((K : Int) + 1) = some fr1 := by
    unfold mFindR findR
    simp only [List.length_set, hl]
    rw [if_neg (by omega), show ((K : Int) + 1 - 1).toNat = K from by omega, List.getElem?_set_self (by omega)]
    rfl
  have hn : bareMS { s with rs := s.rs.set K fr1 } := h.nc
  refine (mAsk_ok hf (i := K) (j := 0) (by omega) rfl (by decide) rfl).trans ?_
  have e : (fun q : Nat => if q = 0 then 0 else fr1.found q) = fun _ => 0 := found_zero 0 _ rfl
  rw [vis_none hn, e]
  simp only [List.set_set]
  rfl
theorem full_find2 {s : MS} (h : FullR s 50) {K : Nat} (hK : K < 50) : mFindR { s with rs := s.rs.set K fr2 } ((K : Int) + 1) = some fr2 := by
  have hl : s.rs.length = 50 := by rw [h.rs, List.length_replicate]
  unfold mFindR findR
  simp only [List.length_set, hl]
  rw [if_neg (by omega), show ((K : Int) + 1 - 1).toNat = K from by omega, List.getElem?_set_self (by omega)]
  rfl
theorem full_fin {s : MS} (h : FullR s 50) {K : Nat} (hK : K < 50) : openReads (finAt { s with rs := s.rs.set K fr2 } K fr2).rs = 49 ∧ (finAt { s with rs := s.rs.set K fr2 } K fr2).rs.length = 50 := by
  have hl : s.rs.length = 50 := by rw [h.rs, List.length_replicate]
  have h0 : s.rs[K]? = some (newMR [kA, kB]) := by rw [h.rs, List.getElem?_replicate, if_pos hK]
  have h1 : openReads (s.rs.set K fr2) = 50 := by rw [openReads_set (r' := fr2) h0 rfl, h.rs, openReads_rep]
  have h2 : openReads (finAt { s with rs := s.rs.set K fr2 } K fr2).rs + 1 = openReads (s.rs.set K fr2) := openReads_fin (rs := s.rs.set K fr2) (i := K) (r := fr2) (by rw [List.getElem?_set_self (by omega)]) rfl
  refine ⟨?_, by simp [finAt, hl]⟩
  omega
theorem full_again {s : MS} (h : openReads s.rs = 49) (hl : s.rs.length = 50) : mRead s [kA] = (51, 0, { s with rs := s.rs ++ [newMR [kA]] }) ∧ openReads (s.rs ++ [newMR [kA]]) = 50 := by
  have hc : mKeys [kA] = 0 := rfl
  refine ⟨?_, by simp [openReads, newMR] at h ⊢; omega⟩
  unfold mRead
  rw [if_neg (by rw [hc]; simp), if_neg (by omega), hl]
  rfl

end Go.Proofs.YteoahlieielcdaaGreat
