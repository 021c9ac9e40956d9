/-
  The program: Cancel.
-/
import Derived.Test.YtmmhiahggnmhhaaPr9
namespace Go.Proofs.Ytmmhiahggnmhhaa
open Go Go.RowKit Go.MuLone
open Go.Maps (Keyed)

section
variable {w : World} {τ : Nat → Tag} {sid b : Nat} {s : MS} {A : SA}

theorem comm_all {m : MW} (hi : ∀ q, m.comm q = true → q < 4) (h : (m.comm 0 || m.comm 1 || m.comm 2 || m.comm 3) = false) : ∀ q, m.comm q = false := by
  intro q
  cases hc : m.comm q
  · rfl
  · have := hi q hc
    have : q = 0 ∨ q = 1 ∨ q = 2 ∨ q = 3 := by omega
    simp only [Bool.or_eq_false_iff] at h
    rcases this with rfl | rfl | rfl | rfl <;> simp_all

set_option maxRecDepth 100000 in
set_option maxHeartbeats 800000 in
theorem pCancel (h : RepS w τ sid b s A) (n : Int) (hn : -9223372036854775808 ≤ n) (hn' : n ≤ 9223372036854775807) :
    Calls Try.prog 16 #[ptr b, .int .i64 n] w (PPost w τ sid b (mCancel s n)) := by
  have c := find_any h n hn hn'
  cases hf : mFind s n with
  | none =>
    have Hr : Hid (mCancel s n = (7, s)) := by unfold Hid mCancel; rw [hf]
    have hv : findVal s A n = (.pointer none, false) := by unfold findVal; rw [hf]
    rw [hv] at c
    unfold ptr at c ⊢
    clear hf hv
    go_enter Try.func16, Try.ntmps16
    go_wp2_with fail
    refine c.mono ?_
    rintro e w1 ⟨rfl, hS⟩
    go_wp2_with fail
    go_ret
    rw [Hr.out]
    exact ⟨A, rfl, h.same hS, hS.stp _ _⟩
  | some m =>
    have hv : findVal s A n = (ptr (A.pw (n - 1).toNat), true) := by unfold findVal; rw [hf]
    rw [hv] at c
    obtain ⟨h1, h2, hm, hc⟩ := mFind_some' hf
    have hp4 := h.ok.p4
    have hp1 := h.ok.p1
    have c2 : ∀ w1, Same w w1 → _ := fun w1 hS => cancel_any (h.same hS) (n - 1).toNat m hm hc
    have hnj : n = ((n - 1).toNat : Int) + 1 := by omega
    have H9 : Hid ((m.comm 0 || m.comm 1 || m.comm 2 || m.comm 3) = true → mCancel s n = (9, s)) := by intro ha; unfold mCancel; rw [hf]; simp only [ha, if_true]
    have H0 : Hid ((m.comm 0 || m.comm 1 || m.comm 2 || m.comm 3) = false → mCancel s n = (0, setAt s (n - 1).toNat { m with canc := true })) := by
      intro ha; unfold mCancel; rw [hf]; simp only [ha]; rfl
    have hci : ∀ q, m.comm q = true → q < 4 := fun q hcq => by
      have ho := h.inv.po _ m q hm (h.inv.cp _ m q hm hcq)
      have := (onPart_bd (by omega) ho).2
      omega
    generalize (n - 1).toNat = j at *
    have Hnj : Hid (n = (j : Int) + 1) := hnj
    unfold ptr at c c2 ⊢
    clear hf hv hnj
    go_enter Try.func16, Try.ntmps16
    go_wp2_with fail
    refine c.mono ?_
    rintro e w1 ⟨rfl, hS⟩
    have c3 := c2 w1 hS
    clear c c2
    go_wp2_with fail
    refine c3.mono ?_
    rintro e w2 (⟨hcm, rfl, hB⟩ | ⟨hcm, rfl, hC⟩)
    · have Hr : Hid (mCancel s n = (9, s)) := H9.out hcm
      clear c3 hcm
      go_wp2_with fail
      go_ret
      rw [Hr.out]
      have hB2 : Below w.heap.size w w2 := ⟨hB.os.trans hS.os, hB.tape.trans hS.tape, hB.output.trans hS.output, by have := hB.size; rw [hS.heap] at this; exact this, fun k hk => (hB.block k (by rw [hS.heap]; exact hk)).trans (by rw [hS.heap])⟩
      exact ⟨A, rfl, h.below hB2, ⟨hB2.os, hB2.tape, hB2.output, hB2.size, fun _ _ => rfl, fun k hk _ => hB2.block k hk⟩⟩
    · have Hr : Hid (mCancel s n = (0, setAt s j { m with canc := true })) := H0.out hcm
      have hnc := comm_all hci hcm
      have hF : Fr (fun k => k = A.pw j ∨ ∃ q, q < s.parts ∧ k = A.kb q) w w2 := (Fr.of_same hS).trans hC.fr
      have hbne : ¬ (b = A.pw j ∨ ∃ q, q < s.parts ∧ b = A.kb q) := by
        rintro (e | ⟨q, hq, e⟩)
        · have h1 := h.wrTag j m hm hc; rw [← e, h.tag] at h1; simp at h1
        · have h1 := h.keptTag q hq; rw [← e, h.tag] at h1; simp at h1
      have hmne : ¬ (A.wm = A.pw j ∨ ∃ q, q < s.parts ∧ A.wm = A.kb q) := by
        rintro (e | ⟨q, hq, e⟩)
        · have h1 := h.wrTag j m hm hc; rw [← e, h.wmTag] at h1; simp at h1
        · have h1 := h.keptTag q hq; rw [← e, h.wmTag] at h1; simp at h1
      have hb2 := hF.blk h.blk hbne
      have hm2 := hF.map h.wmap hmne
      have c4 := forget_any (w := w2) b A.wm _ (writesF s A) hb2 rfl rfl hm2 n hn hn'
      unfold ptr at c4
      clear c3 hcm
      go_wp2_with fail
      refine c4.mono ?_
      rintro e w3 ⟨rfl, hM3, hB3⟩
      clear c4
      go_wp2_with fail
      go_ret
      rw [Hr.out]
      have hkm : ∀ q, q < s.parts → A.kb q ≠ A.wm := fun q hq e => hmne (Or.inr ⟨q, hq, e.symm⟩)
      have hsz2 := hF.size
      rw [Hnj.out] at hM3
      refine ⟨A, rfl, h.canc hm hc hnc (fun k hk hkb hkp hkw => ?_) (fun q hq => (hC.kept q hq).of_eq (hB3.block _ (hkm q hq))) hM3, ?_⟩
      · exact (hB3.block k hkw).trans (hF.block k hk (by rintro (e | ⟨q, hq, e⟩); exact hkp e; exact hkb q hq e))
      · refine ⟨hB3.os.trans hF.os, hB3.tape.trans hF.tape, hB3.output.trans hF.output, by rw [hB3.size]; exact hF.size, fun _ _ => rfl, fun k hk hs => ?_⟩
        refine (hB3.block k (fun e => hs (by rw [e, h.wmTag]))).trans (hF.block k hk ?_)
        rintro (e | ⟨q, hq, e⟩)
        · exact hs (by rw [e, h.wrTag j m hm hc])
        · exact hs (by rw [e, h.keptTag q hq])

end
end Go.Proofs.Ytmmhiahggnmhhaa
